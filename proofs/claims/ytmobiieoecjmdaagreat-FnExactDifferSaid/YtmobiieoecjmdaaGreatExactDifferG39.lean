/- WEq, KMt, TPpD -/
import Derived.Test.YtmobiieoecjmdaaGreatExactDifferG01
import Derived.Test.YtmobiieoecjmdaaGreatExactDifferG04
import Derived.Test.YtmobiieoecjmdaaGreatExactDifferG38
import Derived.Deep.RegionHeld3
import Derived.Test.YtmobiieoecjmdaaGreatExactDifferG22
/- Two worlds alike. -/
namespace Go.Proofs.YtmobiieoecjmdaaGreat
set_option maxHeartbeats 8000000
set_option maxRecDepth 100000
open Go.RowKit
theorem ye9 {p:Prop} (h:p):Hid p:=h
theorem yq7 (x y:Value) (l:List Kn) (w:World) (hl:ydb l) (hx:IsKs w x l) (hy:IsKs w y l):
  Calls Tryz.prog 49 #[x,y] w fun e w'=>e= .returned (.bool true)∧Below w.heap.size w w':=by
 obtain⟨a,cap,rfl,h1,h2,h⟩:=hx
 obtain⟨a',cap',rfl,h1',h2',h'⟩:=hy
 have HS:Hid (ydb l):=hl
 have hl2:l.length≤1048576:=hl.1
 clear h1 h2 h1' h2' hl
 go_enter Tryz.func49,Tryz.ntmps49
 go_wp2
 go_loopw [5] (fun i wr=>∃k:Nat,k≤l.length∧i= .int .i64 k∧Below w.heap.size w wr) (fun i _=>l.length-(intOf i).toNat)
 case atStart=>exact⟨0,Nat.zero_le _,rfl,Below.refl _ _⟩
 case round=>
  obtain⟨k,hk,rfl,hB⟩:=hrel
  have HB:=ye9 hB
  by_cases hlt:k<l.length
  ·obtain⟨b,off,rfl,hb,hc⟩:=h.resolve_left (by omega)
   obtain⟨b',off',rfl,hb',hc'⟩:=h'.resolve_left (by omega)
   obtain⟨vi,vh,vs,u6,u7,u8,u12,u13,⟨f0,f1,f2,f3,f4,f5,f6,f7,f8,f9,f10,f11,f12,f13⟩,hD⟩:=(hc k hlt).under hb hB
   obtain⟨xvi,xvh,xvs,xu6,xu7,xu8,xu12,xu13,⟨e0,e1,e2,e3,e4,e5,e6,e7,e8,e9,e10,e11,e12,e13⟩,hG⟩:=(hc' k hlt).under hb' hB
   have HD:=ye9 (hD.under (Below.refl _ wr).drew)
   have HG:=ye9 (hG.under (Below.refl _ wr).drew)
   have HW:Hid (yau (knAt l k)):=HS.out.2 k hlt
   have hbr:b<wr.heap.size:=Nat.lt_of_lt_of_le hb hB.size
   have hbr':b'<wr.heap.size:=Nat.lt_of_lt_of_le hb' hB.size
   clear hB hc hc' h h' hD hG
   go_wp2_with fail
   go_region_held3 (fun W=>W.cell? ⟨b,off+k*14,none⟩=some (.int .i64 (knAt l k).m.n)∧W.cell? ⟨b,off+k*14+1,none⟩=some (.int .i64 (knAt l k).m.s)∧W.cell? ⟨b,off+k*14+2,none⟩=some (vi)∧W.cell? ⟨b,off+k*14+3,none⟩=some (vh)∧W.cell? ⟨b,off+k*14+4,none⟩=some (vs)∧W.cell? ⟨b,off+k*14+5,none⟩=some (.int .i64 (knAt l k).m.z)∧W.cell? ⟨b,off+k*14+6,none⟩=some (u6)∧W.cell? ⟨b,off+k*14+7,none⟩=some (u7)∧W.cell? ⟨b,off+k*14+8,none⟩=some (u8)∧W.cell? ⟨b,off+k*14+9,none⟩=some (.int .i64 (knAt l k).t)∧W.cell? ⟨b,off+k*14+10,none⟩=some (.int .i64 (knAt l k).q)∧W.cell? ⟨b,off+k*14+11,none⟩=some (.bool (knAt l k).f)∧W.cell? ⟨b,off+k*14+12,none⟩=some (u12)∧W.cell? ⟨b,off+k*14+13,none⟩=some (u13)∧W.cell? ⟨b',off'+k*14,none⟩=some (.int .i64 (knAt l k).m.n)∧W.cell? ⟨b',off'+k*14+1,none⟩=some (.int .i64 (knAt l k).m.s)∧W.cell? ⟨b',off'+k*14+2,none⟩=some (xvi)∧W.cell? ⟨b',off'+k*14+3,none⟩=some (xvh)∧W.cell? ⟨b',off'+k*14+4,none⟩=some (xvs)∧W.cell? ⟨b',off'+k*14+5,none⟩=some (.int .i64 (knAt l k).m.z)∧W.cell? ⟨b',off'+k*14+6,none⟩=some (xu6)∧W.cell? ⟨b',off'+k*14+7,none⟩=some (xu7)∧W.cell? ⟨b',off'+k*14+8,none⟩=some (xu8)∧W.cell? ⟨b',off'+k*14+9,none⟩=some (.int .i64 (knAt l k).t)∧W.cell? ⟨b',off'+k*14+10,none⟩=some (.int .i64 (knAt l k).q)∧W.cell? ⟨b',off'+k*14+11,none⟩=some (.bool (knAt l k).f)∧W.cell? ⟨b',off'+k*14+12,none⟩=some (xu12)∧W.cell? ⟨b',off'+k*14+13,none⟩=some (xu13)) ((repeat' apply And.intro)<;>first|(go_keep;done)|(rw [hcA _ _ (by first|omega|(simp;omega)|simp [*])];simp [*];done))
    (first|(go_at_call 22;refine(yk9 _ _ (knAt l k) _ HW.out HD.out HG.out).mono ?_;rintro e w2 ⟨rfl,hb2⟩;obtain⟨hcA,hfA⟩:=yf1 hb2))
   clear hcA hfA
   go_wp2
   go_roundw
   case rel=>exact⟨k+1,by omega,by go_num,HB.out.drew.trans (hb2.mono (by have:=HB.out.size;simpa using this))⟩
   case measure=>simp [intOf];omega
  ·clear hB h h'
   go_wp2
   go_ret
   exact⟨rfl,HB.out⟩
theorem eq_vecs (x y:Value) (l:List (List Int)) (w:World) (hl:(yef l).wt≤1048576) (hx:IsD w x (yef l)) (hy:IsD w y (yef l)):
  Calls Tryz.prog 13 #[x,y] w fun e w'=>e= .returned (.bool true)∧Below w.heap.size w w':=by
 obtain⟨a,cap,rfl,h1,h2,h⟩:=IsD.parts (c:=1) (n:=l.length) hx
 obtain⟨a',cap',rfl,h1',h2',h'⟩:=IsD.parts (c:=1) (n:=l.length) hy
 have HS:=ye9 hl
 have hl2:l.length≤1048576:=by rw [ydx]at hl;omega
 clear h1 h2 h1' h2' hx hy hl
 go_enter Tryz.func13,Tryz.ntmps13
 go_wp2
 go_loopw [5] (fun i wr=>∃k:Nat,k≤l.length∧i= .int .i64 k∧Below w.heap.size w wr) (fun i _=>l.length-(intOf i).toNat)
 case atStart=>exact⟨0,Nat.zero_le _,rfl,Below.refl _ _⟩
 case round=>
  obtain⟨k,hk,rfl,hB⟩:=hrel
  have HB:=ye9 hB
  by_cases hlt:k<l.length
  ·obtain⟨b,off,rfl,hb,hc⟩:=h.resolve_left (by omega)
   obtain⟨b',off',rfl,hb',hc'⟩:=h'.resolve_left (by omega)
   obtain⟨u,hu,hd⟩:=hc k (by omega)
   obtain⟨v,hv,hg⟩:=hc' k (by omega)
   have f0:=(hB.cell (p:=⟨b,off+k,none⟩) hb).trans hu
   have e0:=(hB.cell (p:=⟨b',off'+k,none⟩) hb').trans hv
   have HD:=ye9 ((hd.under hB).under (Below.refl _ wr).drew)
   have HG:=ye9 ((hg.under hB).under (Below.refl _ wr).drew)
   have HW:=ye9 (Nat.le_trans (yni hlt) HS.out)
   have hbr:b<wr.heap.size:=Nat.lt_of_lt_of_le hb hB.size
   have hbr':b'<wr.heap.size:=Nat.lt_of_lt_of_le hb' hB.size
   clear hB hc hc' h h' hd hg hu hv
   go_wp2_with fail
   go_region_held3 (fun W=>W.cell? ⟨b,off+k,none⟩=some u∧W.cell? ⟨b',off'+k,none⟩=some v) ((repeat' apply And.intro)<;>first|(go_keep;done)|(rw [hcA _ _ (by first|omega|(simp;omega)|simp [*])];simp [*];done))
    (first|(go_at_call 32;refine(yn2 _ _ (vAt l k) _ HW.out HD.out HG.out).mono ?_;rintro e w2 ⟨rfl,hb2⟩;obtain⟨hcA,hfA⟩:=yf1 hb2))
   clear hcA hfA
   go_wp2
   go_roundw
   case rel=>exact⟨k+1,by omega,by go_num,HB.out.drew.trans (hb2.mono (by have:=HB.out.size;simpa using this))⟩
   case measure=>simp [intOf];omega
  ·clear hB h h'
   go_wp2
   go_ret
   exact⟨rfl,HB.out⟩
theorem ylu (x y:Value) (v:Wd) (w:World) (hs:ycb v) (hx:IsW w x v) (hy:IsW w y v):
  Calls Tryz.prog 14 #[x,y] w fun e w'=>e= .returned (.bool true)∧Below w.heap.size w w':=by
 obtain⟨vi,vh,vs,uk,uc,rfl,hm,hk,hc⟩:=hx
 obtain⟨xvi,xvh,xvs,xuk,xuc,rfl,jm,jk,jc⟩:=hy
 have HS:Hid (ycb v):=hs
 have HM:Hid (IsM w (.agg #[.int .i64 v.m.n,.int .i64 v.m.s,vi,vh,vs,.int .i64 v.m.z]) v.m∧IsM w (.agg #[.int .i64 v.m.n,.int .i64 v.m.s,xvi,xvh,xvs,.int .i64 v.m.z]) v.m):=⟨hm,jm⟩
 have HK:Hid (IsKs w uk v.k∧IsKs w xuk v.k):=⟨hk,jk⟩
 have HC:Hid (IsD w uc (yef v.c)∧IsD w xuc (yef v.c)):=⟨hc,jc⟩
 clear hs hm jm hk jk hc jc
 obtain⟨W0,hW0⟩:∃W0,(w.alloc (.cells #[.int .i64 v.m.n,.int .i64 v.m.s,vi,vh,vs,.int .i64 v.m.z,uk,uc] 39)).alloc (.cells #[.int .i64 v.m.n,.int .i64 v.m.s,xvi,xvh,xvs,.int .i64 v.m.z,xuk,xuc] 39)=W0:=⟨_,rfl⟩
 have HB0:=hdq (beA2 hW0)
 have HP0:=hdq (bkA2 hW0)
 have HQ0:=hdq (bkB2 hW0)
 have HW:=ye9 hW0
 clear hW0
 go_enter Tryz.func14,Tryz.ntmps14
 have p0:=HP0.out.cell (i:=0) rfl
 have q0:=HQ0.out.cell (i:=0) rfl
 have p1:=HP0.out.cell (i:=1) rfl
 have q1:=HQ0.out.cell (i:=1) rfl
 have p2:=HP0.out.cell (i:=2) rfl
 have q2:=HQ0.out.cell (i:=2) rfl
 have p3:=HP0.out.cell (i:=3) rfl
 have q3:=HQ0.out.cell (i:=3) rfl
 have p4:=HP0.out.cell (i:=4) rfl
 have q4:=HQ0.out.cell (i:=4) rfl
 have p5:=HP0.out.cell (i:=5) rfl
 have q5:=HQ0.out.cell (i:=5) rfl
 go_wp2_with fail
 rw [HW.out]
 clear HW p0 q0 p1 q1 p2 q2 p3 q3 p4 q4 p5 q5
 refine(yhk _ _ v.m _ HS.out.1 (HM.out.1.below HB0.out) (HM.out.2.below HB0.out)).mono ?_
 rintro e w1 ⟨rfl,hb⟩
 have HB1:=ye9 (trm HB0.out hb)
 have p6:=(HP0.out.below hb).cell (i:=6) rfl
 have q6:=(HQ0.out.below hb).cell (i:=6) rfl
 have HP1:=ye9 (HP0.out.below hb)
 have HQ1:=ye9 (HQ0.out.below hb)
 clear hb
 go_wp2_with fail
 clear p6 q6
 refine(yq7 _ _ v.k _ HS.out.2.1 (HK.out.1.under HB1.out) (HK.out.2.under HB1.out)).mono ?_
 rintro e w2 ⟨rfl,hb⟩
 have HB2:=ye9 (trm HB1.out hb)
 have p7:=(HP1.out.below hb).cell (i:=7) rfl
 have q7:=(HQ1.out.below hb).cell (i:=7) rfl
 clear hb
 go_wp2_with fail
 clear p7 q7
 refine(eq_vecs _ _ v.c _ HS.out.2.2 (HC.out.1.under HB2.out) (HC.out.2.under HB2.out)).mono ?_
 rintro e w3 ⟨rfl,hb⟩
 have HB3:=ye9 (trm HB2.out hb)
 clear hb
 go_wp2
 go_ret
 exact⟨rfl,HB3.out⟩
set_option maxHeartbeats 4000000
set_option maxRecDepth 100000
open Go.RowKit
theorem yij {p:Prop} (h:p):Hid p:=h
theorem yp3 (t s q d k v g:Int) (b:Bool) (w:World):
  Calls Tryz.prog 107 #[.agg #[.int .i64 t,.int .i64 s,.int .i64 q,.int .i64 d,.int .i64 k,.int .i64 v,.int .i64 g,.bool b]] w fun e w'=>e= .returned (.agg #[.int .i64 t,.int .i64 s,.int .i64 q,.int .i64 d,.int .i64 k,.int .i64 v,.int .i64 g,.bool b])∧Below w.heap.size w w':=by
 obtain⟨W0,hW0⟩:∃V,((w.alloc (.cells #[.int .i64 t,.int .i64 s,.int .i64 q,.int .i64 d,.int .i64 k,.int .i64 v,.int .i64 g,.bool b] 157)).alloc (.cells #[.int .i64 0,.int .i64 0,.int .i64 0,.int .i64 0,.int .i64 0,.int .i64 0,.int .i64 0,.bool false] 148)).alloc (.cells #[.int .i64 0,.int .i64 0,.int .i64 0,.int .i64 0,.int .i64 0,.int .i64 0,.int .i64 0,.bool false] 148)=V:=⟨_,rfl⟩
 have hb0:Below w.heap.size w W0:=hW0▸(((Below.refl _ w).alloc (Nat.le_refl _) _).alloc (by simp) _).alloc (by simp;omega) _
 have HB0:=yij hb0
 have B1:Hid (Bk W0 w.heap.size 157 #[.int .i64 t,.int .i64 s,.int .i64 q,.int .i64 d,.int .i64 k,.int .i64 v,.int .i64 g,.bool b]):=hW0▸((Bk.new w _ _).alloc _).alloc _
 have B2:Hid (Bk W0 (w.heap.size+1) 148 #[.int .i64 0,.int .i64 0,.int .i64 0,.int .i64 0,.int .i64 0,.int .i64 0,.int .i64 0,.bool false]):=hW0▸(Bk.newAt (by simp) _ _).alloc _
 have B3:Hid (Bk W0 (w.heap.size+1+1) 148 #[.int .i64 0,.int .i64 0,.int .i64 0,.int .i64 0,.int .i64 0,.int .i64 0,.int .i64 0,.bool false]):=hW0▸Bk.newAt (by simp) _ _
 clear hb0
 have x0:=B1.out.cell (i:=0) rfl
 have x1:=B1.out.cell (i:=1) rfl
 have x2:=B1.out.cell (i:=2) rfl
 have x3:=B1.out.cell (i:=3) rfl
 have x4:=B1.out.cell (i:=4) rfl
 have x5:=B1.out.cell (i:=5) rfl
 have x6:=B1.out.cell (i:=6) rfl
 go_enter Tryz.func107,Tryz.ntmps107
 go_wp2_with fail
 clear hW0 x0 x1 x2 x3 x4 x5 x6
 refine(yg0 _ _ _ _ _ _ _ _).mono ?_
 rintro r w1 ⟨rfl,hb⟩
 have x7:=(B1.out.below hb).cell (i:=7) rfl
 have Y2:=yij (B2.out.below hb)
 have Y3:=yij (B3.out.below hb)
 obtain⟨y0,y1,y2,y3,y4,y5,y6,y7⟩:=c8_8 Y2.out
 obtain⟨z0,z1,z2,z3,z4,z5,z6,z7⟩:=c8_8 Y3.out
 have yf:=Y2.out.free
 have zf:=Y3.out.free
 have HB1:=yij (trm HB0.out hb)
 clear hb
 go_wp2
 refine bodyPost_ret (v:= .agg #[.int .i64 t,.int .i64 s,.int .i64 q,.int .i64 d,.int .i64 k,.int .i64 v,.int .i64 g,.bool b]) (by simp [results,Tryz.results107,go_sem,y0,y1,y2,y3,y4,y5,y6,y7]) rfl ⟨rfl,?_⟩
 exact((((((((((((((((HB1.out.setCell (p:=⟨w.heap.size+1+1,0,none⟩) (by show w.heap.size≤w.heap.size+1+1;omega) _).setCell (p:=⟨w.heap.size+1+1,1,none⟩) (by show w.heap.size≤w.heap.size+1+1;omega) _).setCell (p:=⟨w.heap.size+1+1,2,none⟩) (by show w.heap.size≤w.heap.size+1+1;omega) _).setCell (p:=⟨w.heap.size+1+1,3,none⟩) (by show w.heap.size≤w.heap.size+1+1;omega) _).setCell (p:=⟨w.heap.size+1+1,4,none⟩) (by show w.heap.size≤w.heap.size+1+1;omega) _).setCell (p:=⟨w.heap.size+1+1,5,none⟩) (by show w.heap.size≤w.heap.size+1+1;omega) _).setCell (p:=⟨w.heap.size+1+1,6,none⟩) (by show w.heap.size≤w.heap.size+1+1;omega) _).setCell (p:=⟨w.heap.size+1+1,7,none⟩) (by show w.heap.size≤w.heap.size+1+1;omega) _).setCell (p:=⟨w.heap.size+1,0,none⟩) (by show w.heap.size≤w.heap.size+1;omega) _).setCell (p:=⟨w.heap.size+1,1,none⟩) (by show w.heap.size≤w.heap.size+1;omega) _).setCell (p:=⟨w.heap.size+1,2,none⟩) (by show w.heap.size≤w.heap.size+1;omega) _).setCell (p:=⟨w.heap.size+1,3,none⟩) (by show w.heap.size≤w.heap.size+1;omega) _).setCell (p:=⟨w.heap.size+1,4,none⟩) (by show w.heap.size≤w.heap.size+1;omega) _).setCell (p:=⟨w.heap.size+1,5,none⟩) (by show w.heap.size≤w.heap.size+1;omega) _).setCell (p:=⟨w.heap.size+1,6,none⟩) (by show w.heap.size≤w.heap.size+1;omega) _).setCell (p:=⟨w.heap.size+1,7,none⟩) (by show w.heap.size≤w.heap.size+1;omega) _)
theorem infoMl:(Tryz.prog.info? 148).map (fun i=>(i.zero,i.size,i.bytes))=some (some (.agg #[.int .i64 0,.int .i64 0,.int .i64 0,.int .i64 0,.int .i64 0,.int .i64 0,.int .i64 0,.bool false]),8,64):=by kernel_rfl
theorem mails_at {l:List Ml} {k:Nat} (h:k<l.length):(yca l).getD (k*8) (.int .i64 0)= .int .i64 (mlAt l k).e.t∧(yca l).getD (k*8+1) (.int .i64 0)= .int .i64 (mlAt l k).e.s∧(yca l).getD (k*8+2) (.int .i64 0)= .int .i64 (mlAt l k).e.q∧(yca l).getD (k*8+3) (.int .i64 0)= .int .i64 (mlAt l k).e.d∧(yca l).getD (k*8+4) (.int .i64 0)= .int .i64 (mlAt l k).e.k∧(yca l).getD (k*8+5) (.int .i64 0)= .int .i64 (mlAt l k).e.v∧(yca l).getD (k*8+6) (.int .i64 0)= .int .i64 (mlAt l k).e.g∧(yca l).getD (k*8+7) (.int .i64 0)= .bool (mlAt l k).a:=
 ⟨ybo (ybg l k 0 h (by omega)),ybo (ybg l k 1 h (by omega)),ybo (ybg l k 2 h (by omega)),ybo (ybg l k 3 h (by omega)),ybo (ybg l k 4 h (by omega)),ybo (ybg l k 5 h (by omega)),ybo (ybg l k 6 h (by omega)),ybo (ybg l k 7 h (by omega))⟩
theorem toMl_any (x:Value) (l:List Ml) (w:World) (hl:l.length≤1048576) (h:IsMl w x l):
  Calls Tryz.prog 61 #[x] w fun e w'=>e= .returned (sl w.heap.size l.length)∧Below w.heap.size w w'∧OwnD w' (fun k=>w.heap.size≤k∧k<w'.heap.size) (sl w.heap.size l.length) (ydz l):=by
 obtain⟨a,cap,rfl,h1,h2,h⟩:=h
 have hp:(0:Int)≤(l.length:Int):=by omega
 obtain⟨i0,hi,hz0,hz1,hz2⟩:=info_parts infoMl
 go_enter Tryz.func61,Tryz.ntmps61
 go_wp2_with (at_make;refine wpList_make_full _ rfl _ _ 54 rfl w.heap.size 148 i0 _ 8 Tryz.underlying54 hi hz0 hz1 .i64 .i64 l.length l.length l.length rfl rfl rfl rfl (by rw [hz2];omega) (by unfold maxLen;omega) (Nat.le_refl _) ?_;intro w1 hown hgrow)
 have hB1:Hid (Below w.heap.size w w1):=(Below.refl _ _).grown hgrow (Nat.le_refl _) (fun k e=>by cases e)
 obtain⟨zs,hR0⟩:=OwnD.made0 (fun j=> .val ((yca l).getD j (.int .i64 0))) hown
 have hR1:=yij hR0
 clear hown hgrow hi hz0 hz1 hz2 hR0
 go_loopw [4] (fun i wr=>∃k:Nat,k≤l.length∧i= .int .i64 k∧Below w.heap.size w wr∧OwnD wr (fun k=>w.heap.size≤k∧k<wr.heap.size) (sl w.heap.size l.length) (.row 8 l.length (toC (fun j=> .val ((yca l).getD j (.int .i64 0))) zs (k*8)))) (fun i _=>l.length-(intOf i).toNat)
 case atStart=>exact⟨0,Nat.zero_le _,rfl,hB1.out,hR1.out⟩
 case round=>
  obtain⟨k,hk,rfl,hB,hR⟩:=hrel
  have HB:=yij hB
  have HR:=yij hR
  clear hR
  by_cases hlt:k<l.length
  ·obtain⟨b,off,rfl,hb,hc⟩:=h.resolve_left (by intro e;subst e;simp at hlt)
   obtain⟨f0,f1,f2,f3,f4,f5,f6,f7⟩:=(hc k hlt).below hB hb
   have hg:w.heap.size<wr.heap.size:=(HR.out.lt (by omega)).1
   clear hB hB1 hR1 h hc
   go_wp2_with (go_at_call 107;refine(yp3 _ _ _ _ _ _ _ _ _).mono ?_;rintro e w2 ⟨rfl,hb2⟩;have HB2:Hid (Below wr.heap.size wr w2):=hb2;have HR2:Hid (OwnD w2 (fun k=>w.heap.size≤k∧k<wr.heap.size) (sl w.heap.size l.length) (.row 8 l.length (toC (fun j=> .val ((yca l).getD j (.int .i64 0))) zs (k*8)))):=HR.out.under hb2;obtain⟨c0,_,g0,z0,_⟩:=HR2.out.step (j:=k*8) (by omega);obtain⟨c1,_,g1,z1,_⟩:=HR2.out.step (j:=k*8+1) (by omega);obtain⟨c2,_,g2,z2,_⟩:=HR2.out.step (j:=k*8+2) (by omega);obtain⟨c3,_,g3,z3,_⟩:=HR2.out.step (j:=k*8+3) (by omega);obtain⟨c4,_,g4,z4,_⟩:=HR2.out.step (j:=k*8+4) (by omega);obtain⟨c5,_,g5,z5,_⟩:=HR2.out.step (j:=k*8+5) (by omega);obtain⟨c6,_,g6,z6,_⟩:=HR2.out.step (j:=k*8+6) (by omega);obtain⟨c7,_,g7,z7,_⟩:=HR2.out.step (j:=k*8+7) (by omega);clear hb2)
   go_roundw
   case rel=>
    obtain⟨e0,e1,e2,e3,e4,e5,e6,e7⟩:=mails_at hlt
    refine⟨k+1,by omega,by go_num,(((((((((HB.out.trans (HB2.out.mono (by omega))).setCell (p:=⟨w.heap.size,_,none⟩) (Nat.le_refl _) _).setCell (p:=⟨w.heap.size,_,none⟩) (Nat.le_refl _) _).setCell (p:=⟨w.heap.size,_,none⟩) (Nat.le_refl _) _).setCell (p:=⟨w.heap.size,_,none⟩) (Nat.le_refl _) _).setCell (p:=⟨w.heap.size,_,none⟩) (Nat.le_refl _) _).setCell (p:=⟨w.heap.size,_,none⟩) (Nat.le_refl _) _).setCell (p:=⟨w.heap.size,_,none⟩) (Nat.le_refl _) _).setCell (p:=⟨w.heap.size,_,none⟩) (Nat.le_refl _) _),?_⟩
    rw [show(k+1)*8=k*8+1+1+1+1+1+1+1+1 from by omega]
    exact(((((((((HR2.out.fill_val (m:=k*8) (by omega) (by rw [e0])).fill_val (m:=k*8+1) (by omega) (by rw [e1])).fill_val (m:=k*8+2) (by omega) (by rw [e2])).fill_val (m:=k*8+3) (by omega) (by rw [e3])).fill_val (m:=k*8+4) (by omega) (by rw [e4])).fill_val (m:=k*8+5) (by omega) (by rw [e5])).fill_val (m:=k*8+6) (by omega) (by rw [e6])).fill_val (m:=k*8+7) (by omega) (by rw [e7]))).mono (fun b hb=>⟨hb.1,by have:=HB2.out.size;simp;omega⟩)
   case measure=>simp [intOf];omega
  ·clear hB hB1 hR1 h
   go_wp2
   go_ret
   obtain rfl:k=l.length:=by omega
   exact⟨rfl,HB.out,HR.out.toAll rfl⟩
theorem to_mails (x:Value) (l:List Ml) (w:World) (hl:l.length≤1048576) (h:IsD w x (ydz l)):
  Calls Tryz.prog 61 #[x] w fun e w'=>∃y,e= .returned y∧Below w.heap.size w w'∧OwnD w' (fun k=>w.heap.size≤k∧k<w'.heap.size) y (ydz l):=by
 refine(toMl_any x l w hl h.isMl).mono ?_
 rintro e w' ⟨rfl,hb,hr⟩
 exact⟨_,rfl,hb,hr⟩
end Go.Proofs.YtmobiieoecjmdaaGreat

/- toPartS: a copy of its own. -/
namespace Go.Proofs.YtmobiieoecjmdaaGreat
open Go.RowKit
theorem yd2 {p:Prop} (h:p):Hid p:=h
theorem putN_7 (w:World) (g m:Nat) (v0 v1 v2 v3 v4 v5 v6:Value):putN w g m (fun i=> [v0,v1,v2,v3,v4,v5,v6].getD i (.int .i64 0)) 7=(((((((w.setCell ⟨g,m,none⟩ (v0)).setCell ⟨g,m+1,none⟩ (v1)).setCell ⟨g,m+2,none⟩ (v2)).setCell ⟨g,m+3,none⟩ (v3)).setCell ⟨g,m+4,none⟩ (v4)).setCell ⟨g,m+5,none⟩ (v5)).setCell ⟨g,m+6,none⟩ (v6)):=rfl
theorem ype (w:World) (g m:Nat) (v0 v1 v2 v3 v4 v5 v6:Value):Turns (fun k=>k=g) w (((((((w.setCell ⟨g,m,none⟩ (v0)).setCell ⟨g,m+1,none⟩ (v1)).setCell ⟨g,m+2,none⟩ (v2)).setCell ⟨g,m+3,none⟩ (v3)).setCell ⟨g,m+4,none⟩ (v4)).setCell ⟨g,m+5,none⟩ (v5)).setCell ⟨g,m+6,none⟩ (v6)):=putN_7 w g m v0 v1 v2 v3 v4 v5 v6▸yfm w g m _ 7
theorem infoPart:(Tryz.prog.info? 97).map (fun i=>(i.zero,i.size,i.bytes))=some (some (.agg #[.int .i64 0,.slice none 0 0,.int .i64 0,.int .i64 0,.slice none 0 0,.slice none 0 0,.slice none 0 0]),7,120):=by kernel_rfl
set_option maxHeartbeats 8000000 in
theorem to_parts (x:Value) (l:List Pa) (w:World) (hl:(ycz l).wt≤1048576) (h:IsD w x (ycz l)):
  Calls Tryz.prog 60 #[x] w fun e w'=>∃y,e= .returned y∧Below w.heap.size w w'∧OwnD w' (fun k=>w.heap.size≤k∧k<w'.heap.size) y (ycz l):=by
 obtain⟨a,cap,rfl,h1,h2,h⟩:=IsD.parts (c:=7) (n:=l.length) h
 have HS:=yd2 hl
 have hl2:l.length≤1048576:=by rw [yei]at hl;omega
 have hp:(0:Int)≤(l.length:Int):=by omega
 clear hl
 obtain⟨i0,hi,hz0,hz1,hz2⟩:=info_parts infoPart
 go_enter Tryz.func60,Tryz.ntmps60
 go_wp2_with (at_make;refine wpList_make_full _ rfl _ _ 53 rfl w.heap.size 97 i0 _ 7 Tryz.underlying53 hi hz0 hz1 .i64 .i64 l.length l.length l.length rfl rfl rfl rfl (by rw [hz2];omega) (by unfold maxLen;omega) (Nat.le_refl _) ?_;intro w1 hown hgrow)
 have hB1:Hid (Below w.heap.size w w1):=(Below.refl _ _).grown hgrow (Nat.le_refl _) (fun k e=>by cases e)
 obtain⟨zs,hR0⟩:=OwnD.made0 (ygk l) hown
 have hR1:=yd2 hR0
 clear hown hgrow hi hz0 hz1 hz2 hR0
 go_loopw [4] (fun i wr=>∃k:Nat,k≤l.length∧i= .int .i64 k∧Below w.heap.size w wr∧OwnD wr (fun k=>w.heap.size≤k∧k<wr.heap.size) (sl w.heap.size l.length) (.row 7 l.length (toC (ygk l) zs (k*7)))) (fun i _=>l.length-(intOf i).toNat)
 case atStart=>exact⟨0,Nat.zero_le _,rfl,hB1.out,hR1.out⟩
 case round=>
  obtain⟨k,hk,rfl,hB,hR⟩:=hrel
  have HB:=yd2 hB
  have HR:=yd2 hR
  clear hR
  by_cases hlt:k<l.length
  ·obtain⟨b,off,rfl,hb,hc⟩:=h.resolve_left (by omega)
   obtain⟨u1,u4,u5,u6,f0,f1,f2,f3,f4,f5,f6,d1,d4,d5,d6⟩:=yf6 (fun j hj=>by
    obtain⟨u,hu,hd⟩:=hc j hj
    exact⟨u,(hB.cell (p:=⟨b,off+j,none⟩) hb).trans hu,hd.under hB⟩) hlt
   have HD:Hid (IsPart wr (.agg #[.int .i64 (paAt l k).n,u1,.int .i64 (paAt l k).st.q,.int .i64 (paAt l k).st.d,u4,u5,u6]) (paAt l k)):=⟨u1,u4,u5,u6,rfl,d1,d4,d5,d6⟩
   have hg:w.heap.size<wr.heap.size:=(HR.out.lt (by omega)).1
   clear hB hB1 hR1 h hc d1 d4 d5 d6
   go_wp2_with fail
   clear f0 f1 f2 f3 f4 f5 f6
   refine(yp1 _ (paAt l k) _ (Nat.le_trans (Pa.wt_le hlt) HS.out) HD.out).mono ?_
   rintro e w2 ⟨y,rfl,hb2,A1,A4,A5,A6,v1,v4,v5,v6,rfl,o1,o4,o5,o6,d1,d4,d5,d6⟩
   have HB2:=yd2 hb2
   have HR2:=yd2 (HR.out.under hb2)
   obtain⟨a1,c1,rfl,_⟩:=OwnD.parts (c:=1) (n:=(paAt l k).st.r.length) o1
   have O1:=yd2 o1
   obtain⟨a4,c4,rfl,_⟩:=OwnD.parts (c:=12) (n:=(paAt l k).p.length) o4
   have O4:=yd2 o4
   obtain⟨a5,c5,rfl,_⟩:=OwnD.parts (c:=7) (n:=(paAt l k).t.length) o5
   have O5:=yd2 o5
   obtain⟨a6,c6,rfl,_⟩:=OwnD.parts (c:=1) (n:=(paAt l k).a.length) o6
   have O6:=yd2 o6
   obtain⟨x0,_,g0,z0,_⟩:=HR2.out.step (j:=k*7) (by omega)
   obtain⟨x1,_,g1,z1,_⟩:=HR2.out.step (j:=k*7+1) (by omega)
   obtain⟨x2,_,g2,z2,_⟩:=HR2.out.step (j:=k*7+2) (by omega)
   obtain⟨x3,_,g3,z3,_⟩:=HR2.out.step (j:=k*7+3) (by omega)
   obtain⟨x4,_,g4,z4,_⟩:=HR2.out.step (j:=k*7+4) (by omega)
   obtain⟨x5,_,g5,z5,_⟩:=HR2.out.step (j:=k*7+5) (by omega)
   obtain⟨x6,_,g6,z6,_⟩:=HR2.out.step (j:=k*7+6) (by omega)
   have D1:=yd2 d1
   have D4:=yd2 d4
   have D5:=yd2 d5
   have D6:=yd2 d6
   clear hb2 o1 d1 o4 d4 o5 d5 o6 d6
   go_wp2
   go_roundw
   case rel=>
    have hG:∀i b,(fun i=>if i=1 then A1 else if i=4 then A4 else if i=5 then A5 else if i=6 then A6 else fun _=>False) i b→wr.heap.size≤b∧b<w2.heap.size:=by
     intro i b hb
     by_cases e:i=1∨i=4∨i=5∨i=6
     ·rcases e with rfl|rfl|rfl|rfl
      ·exact(D1.out b hb).1
      ·exact(D4.out b hb).1
      ·exact(D5.out b hb).1
      ·exact(D6.out b hb)
     ·simp only [not_or]at e
      simp [e]at hb
    have hGG:∀i j,i≠j→ ∀b,(fun i=>if i=1 then A1 else if i=4 then A4 else if i=5 then A5 else if i=6 then A6 else fun _=>False) i b→ ¬(fun i=>if i=1 then A1 else if i=4 then A4 else if i=5 then A5 else if i=6 then A6 else fun _=>False) j b:=by
     intro i j hij b hb hb'
     by_cases e:i=1∨i=4∨i=5∨i=6
     ·by_cases e':j=1∨j=4∨j=5∨j=6
      ·rcases e with rfl|rfl|rfl|rfl<;>rcases e' with rfl|rfl|rfl|rfl
       ·exact hij rfl
       ·exact(D1.out b hb).2.1 hb'
       ·exact(D1.out b hb).2.2.1 hb'
       ·exact(D1.out b hb).2.2.2 hb'
       ·exact(D1.out b hb').2.1 hb
       ·exact hij rfl
       ·exact(D4.out b hb).2.1 hb'
       ·exact(D4.out b hb).2.2 hb'
       ·exact(D1.out b hb').2.2.1 hb
       ·exact(D4.out b hb').2.1 hb
       ·exact hij rfl
       ·exact(D5.out b hb).2 hb'
       ·exact(D1.out b hb').2.2.2 hb
       ·exact(D4.out b hb').2.2 hb
       ·exact(D5.out b hb').2 hb
       ·exact hij rfl
      ·simp only [not_or]at e'
       simp [e']at hb'
     ·simp only [not_or]at e
      simp [e]at hb
    have q:=OwnD.fillN (G:=(fun i=>if i=1 then A1 else if i=4 then A4 else if i=5 then A5 else if i=6 then A6 else fun _=>False)) (U:=(fun i=> [.int .i64 (paAt l k).n,.slice a1 (paAt l k).st.r.length c1,.int .i64 (paAt l k).st.q,.int .i64 (paAt l k).st.d,.slice a4 (paAt l k).p.length c4,.slice a5 (paAt l k).t.length c5,.slice a6 (paAt l k).a.length c6].getD i (.int .i64 0))) HR2.out ⟨Nat.le_refl _,hg⟩ 7 (by omega) (fun i hi=>by
     have hat:ygk l (k*7+i)=(paAt l k).cell i:=yrk l k (r:=i) hi
     match i,hi,hat with
     |0,_,hat=>rw [hat];exact OwnD.val _ _
     |1,_,hat=>rw [hat];exact O1.out
     |2,_,hat=>rw [hat];exact OwnD.val _ _
     |3,_,hat=>rw [hat];exact OwnD.val _ _
     |4,_,hat=>rw [hat];exact O4.out
     |5,_,hat=>rw [hat];exact O5.out
     |6,_,hat=>rw [hat];exact O6.out
     |_+7,h,_=>exact absurd h (by omega)) (fun i _ b hb hb'=>by have:=hG i b hb;omega) (fun i j _ _ hij b hb hb'=>hGG i j hij b hb hb')
    rw [putN_7]at q
    have hT:=ype w2 w.heap.size (k*7) (.int .i64 (paAt l k).n) (.slice a1 (paAt l k).st.r.length c1) (.int .i64 (paAt l k).st.q) (.int .i64 (paAt l k).st.d) (.slice a4 (paAt l k).p.length c4) (.slice a5 (paAt l k).t.length c5) (.slice a6 (paAt l k).a.length c6)
    have hsz:=hT.size
    refine⟨k+1,by omega,by go_num,(HB.out.trans (HB2.out.mono (by omega))).trans (hT.to_below (fun b e=>by omega) (by have:=HB2.out.size;omega)),?_⟩
    rw [show(k+1)*7=k*7+7 from by omega]
    refine q.mono (fun b hb=> ?_)
    have hs2:=HB2.out.size
    rcases hb with hb|⟨i,_,hb⟩
    ·exact⟨hb.1,Nat.lt_of_lt_of_le hb.2 (Nat.le_trans hs2 hsz)⟩
    ·have:=hG i b hb
     exact⟨by omega,Nat.lt_of_lt_of_le this.2 hsz⟩
   case measure=>simp [intOf];omega
  ·clear hB hB1 hR1 h
   go_wp2
   go_ret
   obtain rfl:k=l.length:=by omega
   exact⟨_,rfl,HB.out,HR.out.toAll rfl⟩
end Go.Proofs.YtmobiieoecjmdaaGreat

