/- UnS, PsN, TPpB, KKe, KMt, TPpD -/
import Derived.Test.YtmobiieoecjmdaaGreatExactUndoneLCtS
import Derived.Test.YtmobiieoecjmdaaGreatExactUndoneG34
import Derived.Test.YtmobiieoecjmdaaGreatExactUndoneLKSg
import Derived.Deep.RegionHeld3
import Derived.Test.YtmobiieoecjmdaaGreatExactUndoneG19
import Derived.Test.YtmobiieoecjmdaaGreatExactUndoneG20
import Derived.Test.YtmobiieoecjmdaaGreatExactUndoneG05
/- The specification's Undone. -/
namespace Go.Proofs.YtmobiieoecjmdaaGreat
open Go.RowKit
theorem sCommitN (x:Value) (k:Kn) (w:World) (hs:SmallK k) (hok:k.ok=true) (h:IsKern w x k):
  Calls Tryz.prog 59 #[x] w fun e w'=>∃ay cy ax m cx,e= .returned (.agg #[.slice ay (k.s.length+(setL k k.p.length).length) cy,.slice ax m cx,.int .i64 k.q,.bool k.f])∧Below w.heap.size w w':=by
 refine(sCommit1 x k w hs hok h).mono ?_
 rintro e w' ⟨ay,cy,ax,cx,rfl,_,_,hb⟩
 have hl:(k.s++bareL (comL k)).length=k.s.length+(setL k k.p.length).length:=by
  rw [List.length_append,bareL,List.length_map,(comL_all hok).1.length_eq]
 exact⟨ay,cy,ax,_,cx,by rw [hl],hb⟩
theorem field0H (a:Option Addr) (n c:Nat) (b:Option Addr) (m d:Nat) (q:Int) (f:Bool):∀w:World,(Instr.field 62 (.agg #[.slice a n c,.slice b m d,.int .i64 q,.bool f]) 0).run Tryz.prog w= .ok (.slice a n c) w:=fun _=>by kernel_rfl
set_option maxRecDepth 100000 in
set_option maxHeartbeats 16000000 in
theorem sUndone (x:Value) (k:Kn) (w:World) (hs:SmallK k) (h:IsKern w x k):
  Calls Tryz.prog 19 #[x] w fun e w'=>e= .returned (.int .i64 (undZ k))∧Below w.heap.size w w':=by
 have HSK:Hid (SmallK k):=hs
 obtain⟨HSM0,hsk⟩:=hs
 obtain⟨hdl,hpl,hbl,hsl,hxl⟩:=wt_lens hsk
 clear hsk HSM0
 obtain⟨ai,ci,ah,ch,ae,ce,ad,cd,ap,cp,ab,cb,au,cu,ax,cx,rfl,hm,hd,hp,hbg,hsu,hx⟩:=h.form
 have HPP:Hid (k.p= []∨ ∃b off,ap=some ⟨b,off,none⟩∧PasAt w b off k.p):=hp
 have HK:Hid (IsKern w (.agg #[.int .i64 k.m.n,.int .i64 k.m.s,.slice ai k.m.i.length ci,.slice ah k.m.h.length ch,.slice ae k.m.e.length ce,.int .i64 k.m.z,.slice ad k.d.length cd,.slice ap k.p.length cp,.slice ab k.b.length cb,.int .i64 k.t,.int .i64 k.q,.bool k.f,.slice au k.s.length cu,.slice ax k.x.length cx]) k):=h
 clear hm hd hp hbg hsu hx h
 obtain⟨W0,hW0⟩:∃W0,w.alloc (.cells #[.int .i64 k.m.n,.int .i64 k.m.s,.slice ai k.m.i.length ci,.slice ah k.m.h.length ch,.slice ae k.m.e.length ce,.int .i64 k.m.z,.slice ad k.d.length cd,.slice ap k.p.length cp,.slice ab k.b.length cb,.int .i64 k.t,.int .i64 k.q,.bool k.f,.slice au k.s.length cu,.slice ax k.x.length cx] 57)=W0:=⟨_,rfl⟩
 have HB0:Hid (Below w.heap.size w W0):=hW0▸(Below.refl _ w).alloc (Nat.le_refl _) _
 have HP0:Hid (Bk W0 w.heap.size 57 #[.int .i64 k.m.n,.int .i64 k.m.s,.slice ai k.m.i.length ci,.slice ah k.m.h.length ch,.slice ae k.m.e.length ce,.int .i64 k.m.z,.slice ad k.d.length cd,.slice ap k.p.length cp,.slice ab k.b.length cb,.int .i64 k.t,.int .i64 k.q,.bool k.f,.slice au k.s.length cu,.slice ax k.x.length cx]):=hW0▸Bk.new w _ _
 have hs0:w.heap.size<W0.heap.size:=HP0.out.lt
 have m0:=HP0.out.cell (i:=0) rfl
 have m1:=HP0.out.cell (i:=1) rfl
 have m2:=HP0.out.cell (i:=2) rfl
 have m3:=HP0.out.cell (i:=3) rfl
 have m4:=HP0.out.cell (i:=4) rfl
 have m5:=HP0.out.cell (i:=5) rfl
 have m6:=HP0.out.cell (i:=6) rfl
 have m7:=HP0.out.cell (i:=7) rfl
 have m8:=HP0.out.cell (i:=8) rfl
 have m9:=HP0.out.cell (i:=9) rfl
 have m10:=HP0.out.cell (i:=10) rfl
 have m11:=HP0.out.cell (i:=11) rfl
 have m12:=HP0.out.cell (i:=12) rfl
 have m13:=HP0.out.cell (i:=13) rfl
 go_enter Tryz.func19,Tryz.ntmps19
 go_wp2_with fail
 clear m0 m1 m2 m3 m4 m5 m6 m7 m8 m9 m10 m11 m12 m13 hW0
 refine(sKernelOk _ k _ HSK.out (HK.out.under HB0.out)).mono ?_
 rintro e w1 ⟨rfl,hb1⟩
 have HB1:Hid (Below w.heap.size w w1):=HB0.out.trans (hb1.mono HB0.out.size)
 have HP1:Hid (Bk w1 w.heap.size 57 #[.int .i64 k.m.n,.int .i64 k.m.s,.slice ai k.m.i.length ci,.slice ah k.m.h.length ch,.slice ae k.m.e.length ce,.int .i64 k.m.z,.slice ad k.d.length cd,.slice ap k.p.length cp,.slice ab k.b.length cb,.int .i64 k.t,.int .i64 k.q,.bool k.f,.slice au k.s.length cu,.slice ax k.x.length cx]):=HP0.out.below hb1
 clear hb1
 cases hkk:k.ok
 case false=>
  have HA:Hid (undZ k=0):=by show _=_;unfold undZ;rw [hkk];rfl
  clear hkk
  go_wp2
  go_ret
  exact⟨ret_int HA.out.symm,HB1.out⟩
 have HKK:Hid (k.ok=true):=hkk
 have H2A:Hid (∀i,i<k.p.length→(paAt k.p i).p.length≤200):=fun i hi=>(okPasts (kn_parts hkk i hi)).1
 have h9:=setL_len k H2A.out _ (Nat.le_refl _)
 have HCN:=fun(y:Value) (W:World) (hI:IsKern W y k)=>sCommitN y k W HSK.out HKK.out hI
 have HA:Hid (undZ k=(pastN k k.p.length:Int)-((setL k k.p.length).length:Int)):=by show _=_;unfold undZ;rw [hkk];rfl
 clear hkk
 generalize (setL k k.p.length).length=s at h9 HCN HA
 have HC:Hid _:=HCN
 clear HCN
 go_wp2
 go_loopw [3,4] (fun n i wr=>∃j:Nat,j≤k.p.length∧n= .int .i64 (pastN k j:Nat)∧i= .int .i64 j∧Below w1.heap.size w1 wr) (fun _ i _=>k.p.length-(intOf i).toNat)
 case atStart=>exact⟨0,Nat.zero_le _,rfl,rfl,Below.refl _ _⟩
 case round=>
  obtain⟨j,hj,rfl,rfl,hB⟩:=hrel
  have HBr:Hid (Below w.heap.size w wr):=HB1.out.trans (hB.mono HB1.out.size)
  have HBr1:Hid (Below w1.heap.size w1 wr):=hB
  have HPr:Hid (Bk wr w.heap.size 57 #[.int .i64 k.m.n,.int .i64 k.m.s,.slice ai k.m.i.length ci,.slice ah k.m.h.length ch,.slice ae k.m.e.length ce,.int .i64 k.m.z,.slice ad k.d.length cd,.slice ap k.p.length cp,.slice ab k.b.length cb,.int .i64 k.t,.int .i64 k.q,.bool k.f,.slice au k.s.length cu,.slice ax k.x.length cx]):=HP1.out.below hB
  have hpn:=pastN_le k H2A.out j hj
  clear hB
  have m7:=HPr.out.cell (i:=7) rfl
  by_cases hlt:j<k.p.length
  ·obtain⟨b,off,rfl,hPA⟩:=HPP.out.resolve_left (by intro e;rw [e]at hlt;simp at hlt)
   obtain⟨a1,c1,a4,c4,a5,c5,a6,c6,hp⟩:=hPA.2 j hlt
   have hb:b<w.heap.size:=hPA.1
   have f4:=(HBr.out.cell (p:=⟨b,_,none⟩) hb).trans hp.f4
   have h200:(paAt k.p j).p.length≤200:=H2A.out j hlt
   have HPN:Hid (pastN k (j+1)=pastN k j+(paAt k.p j).p.length):=(rfl:pastN k (j+1)=_)
   have hki:(j:Int)<(k.p.length:Int):=by omega
   clear hPA hp
   generalize pastN k j=z at hpn HPN
   go_wp2
   go_roundw
   case rel=>exact⟨j+1,by omega,by rw [HPN.out];go_num,by go_num,HBr1.out⟩
   case measure=>simp [intOf];omega
  ·obtain rfl:k.p.length=j:=by omega
   generalize pastN k k.p.length=z at hpn HA
   go_upto_region 8 with fail
   clear m7
   have m0:=HPr.out.cell (i:=0) rfl
   have m1:=HPr.out.cell (i:=1) rfl
   have m2:=HPr.out.cell (i:=2) rfl
   have m3:=HPr.out.cell (i:=3) rfl
   have m4:=HPr.out.cell (i:=4) rfl
   have m5:=HPr.out.cell (i:=5) rfl
   have m6:=HPr.out.cell (i:=6) rfl
   have m7:=HPr.out.cell (i:=7) rfl
   have m8:=HPr.out.cell (i:=8) rfl
   have m9:=HPr.out.cell (i:=9) rfl
   have m10:=HPr.out.cell (i:=10) rfl
   have m11:=HPr.out.cell (i:=11) rfl
   have m12:=HPr.out.cell (i:=12) rfl
   have m13:=HPr.out.cell (i:=13) rfl
   have hzz:w.heap.size<wr.heap.size:=HPr.out.lt
   go_region_held3 (fun W=>W.cell? ⟨w.heap.size,0,none⟩=some (.int .i64 k.m.n)∧W.cell? ⟨w.heap.size,1,none⟩=some (.int .i64 k.m.s)∧W.cell? ⟨w.heap.size,2,none⟩=some (.slice ai k.m.i.length ci)∧W.cell? ⟨w.heap.size,3,none⟩=some (.slice ah k.m.h.length ch)∧W.cell? ⟨w.heap.size,4,none⟩=some (.slice ae k.m.e.length ce)∧W.cell? ⟨w.heap.size,5,none⟩=some (.int .i64 k.m.z)∧W.cell? ⟨w.heap.size,6,none⟩=some (.slice ad k.d.length cd)∧W.cell? ⟨w.heap.size,7,none⟩=some (.slice ap k.p.length cp)∧W.cell? ⟨w.heap.size,8,none⟩=some (.slice ab k.b.length cb)∧W.cell? ⟨w.heap.size,9,none⟩=some (.int .i64 k.t)∧W.cell? ⟨w.heap.size,10,none⟩=some (.int .i64 k.q)∧W.cell? ⟨w.heap.size,11,none⟩=some (.bool k.f)∧W.cell? ⟨w.heap.size,12,none⟩=some (.slice au k.s.length cu)∧W.cell? ⟨w.heap.size,13,none⟩=some (.slice ax k.x.length cx)) ((repeat' apply And.intro)<;>first|(go_keep;done)|(rw [hcA _ _ (by first|omega|(simp;omega))];simp [*];done))
    (first|(go_at_call 59;refine(HC.out _ _ (HK.out.under HBr.out.drew)).mono ?_;rintro e w7 ⟨ay,cy,ax',m',cx',rfl,hbw7⟩;obtain⟨hcA,hfA⟩:=bcell hbw7;have hzw7:wr.heap.size≤w7.heap.size:=hbw7.size;have hfd:=field0H ay (k.s.length+s) cy ax' m' cx' k.q k.f))
   clear hcA hfA
   have HB7:Hid (Below w.heap.size w w7):=HBr.out.trans (((Below.refl wr.heap.size wr).drew.trans (hbw7.mono (Nat.le_refl _))).mono HBr.out.size)
   clear m0 m1 m2 m3 m4 m5 m6 m7 m8 m9 m10 m11 m12 m13 hbw7 hzw7
   go_wp2
   go_ret
   have hw1:IntKind.i64.wrap ((k.s.length:Int)+(s:Int)-(k.s.length:Int))=(s:Int):=by rw [IntKind.wrap_i64];omega
   have hw2:IntKind.i64.wrap ((z:Int)-(s:Int))=(z:Int)-(s:Int):=by rw [IntKind.wrap_i64];omega
   exact⟨ret_int (show IntKind.i64.wrap ((z:Int)-IntKind.i64.wrap ((k.s.length:Int)+(s:Int)-(k.s.length:Int)))=undZ k by rw [HA.out,hw1,hw2]),HB7.out⟩
theorem psF_some:Nonempty PsF:=⟨⟨(⟨⟨0,0,1,0,0,0,1⟩,⟨[],0,0⟩,[],[]⟩,.slice none 0 0,.slice none 0 0,.slice none 0 0),by decide,⟨_,_,_,rfl⟩,⟨_,_,_,rfl⟩,⟨_,_,_,rfl⟩⟩⟩
set_option maxHeartbeats 8000000 in
theorem eq_parts (x y:Value) (l:List Pa) (w:World) (hl:(partsD l).wt≤1048576) (hx:IsD w x (partsD l)) (hy:IsD w y (partsD l)):
  Calls Tryz.prog 66 #[x,y] w fun e w'=>e= .returned (.bool true)∧Below w.heap.size w w':=by
 obtain⟨a,cap,rfl,h1,h2,h⟩:=IsD.parts (c:=7) (n:=l.length) hx
 obtain⟨a',cap',rfl,h1',h2',h'⟩:=IsD.parts (c:=7) (n:=l.length) hy
 have HS:Hid ((partsD l).wt≤1048576):=hl
 have hl2:l.length≤1048576:=by rw [partsD_wt]at hl;omega
 clear h1 h2 h1' h2' hx hy hl
 go_enter Tryz.func66,Tryz.ntmps66
 go_wp2
 go_loopw [5] (fun i wr=>∃k:Nat,k≤l.length∧i= .int .i64 k∧Below w.heap.size w wr) (fun i _=>l.length-(intOf i).toNat)
 case atStart=>exact⟨0,Nat.zero_le _,rfl,Below.refl _ _⟩
 case round=>
  obtain⟨k,hk,rfl,hB⟩:=hrel
  have HB:Hid (Below w.heap.size w wr):=hB
  by_cases hlt:k<l.length
  ·obtain⟨b,off,rfl,hb,hc⟩:=h.resolve_left (by omega)
   obtain⟨b',off',rfl,hb',hc'⟩:=h'.resolve_left (by omega)
   obtain⟨u1,u4,u5,u6,f0,f1,f2,f3,f4,f5,f6,d1,d4,d5,d6⟩:=partsD_in (fun j hj=>by
    obtain⟨u,hu,hd⟩:=hc j hj
    exact⟨u,(hB.cell (p:=⟨b,off+j,none⟩) hb).trans hu,hd.under hB⟩) hlt
   obtain⟨v1,v4,v5,v6,e0,e1,e2,e3,e4,e5,e6,g1,g4,g5,g6⟩:=partsD_in (fun j hj=>by
    obtain⟨u,hu,hd⟩:=hc' j hj
    exact⟨u,(hB.cell (p:=⟨b',off'+j,none⟩) hb').trans hu,hd.under hB⟩) hlt
   have HD:Hid (IsPart wr.drew (.agg #[.int .i64 (paAt l k).n,u1,.int .i64 (paAt l k).st.q,.int .i64 (paAt l k).st.d,u4,u5,u6]) (paAt l k)):=IsPart.under (w:=wr) ⟨u1,u4,u5,u6,rfl,d1,d4,d5,d6⟩ (Below.refl _ wr).drew
   have HG:Hid (IsPart wr.drew (.agg #[.int .i64 (paAt l k).n,v1,.int .i64 (paAt l k).st.q,.int .i64 (paAt l k).st.d,v4,v5,v6]) (paAt l k)):=IsPart.under (w:=wr) ⟨v1,v4,v5,v6,rfl,g1,g4,g5,g6⟩ (Below.refl _ wr).drew
   have HW:Hid ((paAt l k).wt≤1048576):=Nat.le_trans (Pa.wt_le hlt) HS.out
   have hbr:b<wr.heap.size:=Nat.lt_of_lt_of_le hb hB.size
   have hbr':b'<wr.heap.size:=Nat.lt_of_lt_of_le hb' hB.size
   clear hB hc hc' h h' d1 d4 d5 d6 g1 g4 g5 g6
   go_wp2_with fail
   go_region_held3 (fun W=>W.cell? ⟨b,off+k*7,none⟩=some (.int .i64 (paAt l k).n)∧W.cell? ⟨b,off+k*7+1,none⟩=some (u1)∧W.cell? ⟨b,off+k*7+2,none⟩=some (.int .i64 (paAt l k).st.q)∧W.cell? ⟨b,off+k*7+3,none⟩=some (.int .i64 (paAt l k).st.d)∧W.cell? ⟨b,off+k*7+4,none⟩=some (u4)∧W.cell? ⟨b,off+k*7+5,none⟩=some (u5)∧W.cell? ⟨b,off+k*7+6,none⟩=some (u6)∧W.cell? ⟨b',off'+k*7,none⟩=some (.int .i64 (paAt l k).n)∧W.cell? ⟨b',off'+k*7+1,none⟩=some (v1)∧W.cell? ⟨b',off'+k*7+2,none⟩=some (.int .i64 (paAt l k).st.q)∧W.cell? ⟨b',off'+k*7+3,none⟩=some (.int .i64 (paAt l k).st.d)∧W.cell? ⟨b',off'+k*7+4,none⟩=some (v4)∧W.cell? ⟨b',off'+k*7+5,none⟩=some (v5)∧W.cell? ⟨b',off'+k*7+6,none⟩=some (v6)) ((repeat' apply And.intro)<;>first|(go_keep;done)|(rw [hcA _ _ (by first|omega|(simp;omega)|simp [*])];simp [*];done))
    (first|(go_at_call 124;refine(eqPart_same _ _ (paAt l k) _ HW.out HD.out HG.out).mono ?_;rintro e w2 ⟨rfl,hb2⟩;obtain⟨hcA,hfA⟩:=bcell hb2))
   clear hcA hfA
   go_wp2
   go_roundw
   case rel=>exact⟨k+1,by omega,by go_num,HB.out.drew.trans (hb2.mono (by have:=HB.out.size;simpa using this))⟩
   case measure=>simp [intOf];omega
  ·clear hB h h'
   go_wp2
   go_ret
   exact⟨rfl,HB.out⟩
set_option maxRecDepth 100000 in
set_option maxHeartbeats 4000000 in
theorem eqKernel_same (x y:Value) (k:Kn) (w:World) (hs:SmallK k) (hx:IsKern w x k) (hy:IsKern w y k):
  Calls Tryz.prog 22 #[x,y] w fun e w'=>e= .returned (.bool true)∧Below w.heap.size w w':=by
 obtain⟨vi,vh,vs,u6,u7,u8,u12,u13,rfl,hm,h6,h7,h8,h12,h13⟩:=hx
 obtain⟨xvi,xvh,xvs,v6,v7,v8,v12,v13,rfl,jm,j6,j7,j8,j12,j13⟩:=hy
 have HS:Hid (SmallK k):=hs
 have HM:Hid (IsM w (.agg #[.int .i64 k.m.n,.int .i64 k.m.s,vi,vh,vs,.int .i64 k.m.z]) k.m∧IsM w (.agg #[.int .i64 k.m.n,.int .i64 k.m.s,xvi,xvh,xvs,.int .i64 k.m.z]) k.m):=⟨hm,jm⟩
 have H6:Hid (IsD w u6 (intsD k.d)∧IsD w v6 (intsD k.d)):=⟨h6,j6⟩
 have H7:Hid (IsD w u7 (partsD k.p)∧IsD w v7 (partsD k.p)):=⟨h7,j7⟩
 have H8:Hid (IsD w u8 (mailsD k.b)∧IsD w v8 (mailsD k.b)):=⟨h8,j8⟩
 have H12:Hid (IsD w u12 (evsD k.s)∧IsD w v12 (evsD k.s)):=⟨h12,j12⟩
 have H13:Hid (IsD w u13 (emsD k.x)∧IsD w v13 (emsD k.x)):=⟨h13,j13⟩
 clear hs hm jm h6 j6 h7 j7 h8 j8 h12 j12 h13 j13
 obtain⟨W0,hW0⟩:∃W0,(w.alloc (.cells #[.int .i64 k.m.n,.int .i64 k.m.s,vi,vh,vs,.int .i64 k.m.z,u6,u7,u8,.int .i64 k.t,.int .i64 k.q,.bool k.f,u12,u13] 57)).alloc (.cells #[.int .i64 k.m.n,.int .i64 k.m.s,xvi,xvh,xvs,.int .i64 k.m.z,v6,v7,v8,.int .i64 k.t,.int .i64 k.q,.bool k.f,v12,v13] 57)=W0:=⟨_,rfl⟩
 have HB0:Hid (Below w.heap.size w W0):=by rw [←hW0];exact((Below.refl _ w).alloc (Nat.le_refl _) _).alloc (by simp) _
 have HP0:Hid (Bk W0 w.heap.size 57 #[.int .i64 k.m.n,.int .i64 k.m.s,vi,vh,vs,.int .i64 k.m.z,u6,u7,u8,.int .i64 k.t,.int .i64 k.q,.bool k.f,u12,u13]):=by rw [←hW0];exact(Bk.new w _ _).alloc _
 have HQ0:Hid (Bk W0 (w.heap.size+1) 57 #[.int .i64 k.m.n,.int .i64 k.m.s,xvi,xvh,xvs,.int .i64 k.m.z,v6,v7,v8,.int .i64 k.t,.int .i64 k.q,.bool k.f,v12,v13]):=by rw [←hW0];exact Bk.newAt (by simp) _ _
 have HW:Hid ((w.alloc (.cells #[.int .i64 k.m.n,.int .i64 k.m.s,vi,vh,vs,.int .i64 k.m.z,u6,u7,u8,.int .i64 k.t,.int .i64 k.q,.bool k.f,u12,u13] 57)).alloc (.cells #[.int .i64 k.m.n,.int .i64 k.m.s,xvi,xvh,xvs,.int .i64 k.m.z,v6,v7,v8,.int .i64 k.t,.int .i64 k.q,.bool k.f,v12,v13] 57)=W0):=hW0
 clear hW0
 go_enter Tryz.func22,Tryz.ntmps22
 have p0:=HP0.out.cell (i:=0) rfl
 have q0:=HQ0.out.cell (i:=0) rfl
 have p1:=HP0.out.cell (i:=1) rfl
 have q1:=HQ0.out.cell (i:=1) rfl
 have p2:=HP0.out.cell (i:=2) rfl
 have q2:=HQ0.out.cell (i:=2) rfl
 have p3:=HP0.out.cell (i:=3) rfl
 have q3:=HQ0.out.cell (i:=3) rfl
 have p4:=HP0.out.cell (i:=4) rfl
 have q4:=HQ0.out.cell (i:=4) rfl
 have p5:=HP0.out.cell (i:=5) rfl
 have q5:=HQ0.out.cell (i:=5) rfl
 go_wp2_with fail
 rw [HW.out]
 clear HW
 clear p0 q0 p1 q1 p2 q2 p3 q3 p4 q4 p5 q5
 refine(eqModel_same _ _ k.m _ HS.out.1 (HM.out.1.below HB0.out) (HM.out.2.below HB0.out)).mono ?_
 rintro e w1 ⟨rfl,hb⟩
 have HB1:Hid (Below w.heap.size w w1):=HB0.out.trans (hb.mono HB0.out.size)
 have HP1:Hid (Bk w1 w.heap.size 57 #[.int .i64 k.m.n,.int .i64 k.m.s,vi,vh,vs,.int .i64 k.m.z,u6,u7,u8,.int .i64 k.t,.int .i64 k.q,.bool k.f,u12,u13]):=HP0.out.below hb
 have HQ1:Hid (Bk w1 (w.heap.size+1) 57 #[.int .i64 k.m.n,.int .i64 k.m.s,xvi,xvh,xvs,.int .i64 k.m.z,v6,v7,v8,.int .i64 k.t,.int .i64 k.q,.bool k.f,v12,v13]):=HQ0.out.below hb
 clear hb
 have p6:=HP1.out.cell (i:=6) rfl
 have q6:=HQ1.out.cell (i:=6) rfl
 go_wp2_with fail
 clear p6 q6
 refine(eq_ints _ _ k.d _ (by have:=HS.out.2;unfold Kn.wt at this;simp only [ints_wt,evs_wt,ems_wt,mails_wt]at this;omega) (H6.out.1.under HB1.out) (H6.out.2.under HB1.out)).mono ?_
 rintro e w2 ⟨rfl,hb⟩
 have HB2:Hid (Below w.heap.size w w2):=HB1.out.trans (hb.mono HB1.out.size)
 have HP2:Hid (Bk w2 w.heap.size 57 #[.int .i64 k.m.n,.int .i64 k.m.s,vi,vh,vs,.int .i64 k.m.z,u6,u7,u8,.int .i64 k.t,.int .i64 k.q,.bool k.f,u12,u13]):=HP1.out.below hb
 have HQ2:Hid (Bk w2 (w.heap.size+1) 57 #[.int .i64 k.m.n,.int .i64 k.m.s,xvi,xvh,xvs,.int .i64 k.m.z,v6,v7,v8,.int .i64 k.t,.int .i64 k.q,.bool k.f,v12,v13]):=HQ1.out.below hb
 clear hb
 have p7:=HP2.out.cell (i:=7) rfl
 have q7:=HQ2.out.cell (i:=7) rfl
 go_wp2_with fail
 clear p7 q7
 refine(eq_parts _ _ k.p _ (by have:=HS.out.2;unfold Kn.wt at this;simp only [ints_wt,evs_wt,ems_wt,mails_wt]at this;omega) (H7.out.1.under HB2.out) (H7.out.2.under HB2.out)).mono ?_
 rintro e w3 ⟨rfl,hb⟩
 have HB3:Hid (Below w.heap.size w w3):=HB2.out.trans (hb.mono HB2.out.size)
 have HP3:Hid (Bk w3 w.heap.size 57 #[.int .i64 k.m.n,.int .i64 k.m.s,vi,vh,vs,.int .i64 k.m.z,u6,u7,u8,.int .i64 k.t,.int .i64 k.q,.bool k.f,u12,u13]):=HP2.out.below hb
 have HQ3:Hid (Bk w3 (w.heap.size+1) 57 #[.int .i64 k.m.n,.int .i64 k.m.s,xvi,xvh,xvs,.int .i64 k.m.z,v6,v7,v8,.int .i64 k.t,.int .i64 k.q,.bool k.f,v12,v13]):=HQ2.out.below hb
 clear hb
 have p8:=HP3.out.cell (i:=8) rfl
 have q8:=HQ3.out.cell (i:=8) rfl
 go_wp2_with fail
 clear p8 q8
 refine(eq_mails _ _ k.b _ (by have:=HS.out.2;unfold Kn.wt at this;simp only [ints_wt,evs_wt,ems_wt,mails_wt]at this;omega) (H8.out.1.under HB3.out) (H8.out.2.under HB3.out)).mono ?_
 rintro e w4 ⟨rfl,hb⟩
 have HB4:Hid (Below w.heap.size w w4):=HB3.out.trans (hb.mono HB3.out.size)
 have HP4:Hid (Bk w4 w.heap.size 57 #[.int .i64 k.m.n,.int .i64 k.m.s,vi,vh,vs,.int .i64 k.m.z,u6,u7,u8,.int .i64 k.t,.int .i64 k.q,.bool k.f,u12,u13]):=HP3.out.below hb
 have HQ4:Hid (Bk w4 (w.heap.size+1) 57 #[.int .i64 k.m.n,.int .i64 k.m.s,xvi,xvh,xvs,.int .i64 k.m.z,v6,v7,v8,.int .i64 k.t,.int .i64 k.q,.bool k.f,v12,v13]):=HQ3.out.below hb
 clear hb
 have p12:=HP4.out.cell (i:=12) rfl
 have q12:=HQ4.out.cell (i:=12) rfl
 have p9:=HP4.out.cell (i:=9) rfl
 have q9:=HQ4.out.cell (i:=9) rfl
 have p10:=HP4.out.cell (i:=10) rfl
 have q10:=HQ4.out.cell (i:=10) rfl
 have p11:=HP4.out.cell (i:=11) rfl
 have q11:=HQ4.out.cell (i:=11) rfl
 have hff:(k.f !=k.f)=false:=by cases k.f<;>rfl
 go_wp2_with fail
 clear p12 q12 p9 q9 p10 q10 p11 q11
 refine(eq_evs _ _ k.s _ (by have:=HS.out.2;unfold Kn.wt at this;simp only [ints_wt,evs_wt,ems_wt,mails_wt]at this;omega) (H12.out.1.under HB4.out) (H12.out.2.under HB4.out)).mono ?_
 rintro e w5 ⟨rfl,hb⟩
 have HB5:Hid (Below w.heap.size w w5):=HB4.out.trans (hb.mono HB4.out.size)
 have HP5:Hid (Bk w5 w.heap.size 57 #[.int .i64 k.m.n,.int .i64 k.m.s,vi,vh,vs,.int .i64 k.m.z,u6,u7,u8,.int .i64 k.t,.int .i64 k.q,.bool k.f,u12,u13]):=HP4.out.below hb
 have HQ5:Hid (Bk w5 (w.heap.size+1) 57 #[.int .i64 k.m.n,.int .i64 k.m.s,xvi,xvh,xvs,.int .i64 k.m.z,v6,v7,v8,.int .i64 k.t,.int .i64 k.q,.bool k.f,v12,v13]):=HQ4.out.below hb
 clear hb
 have p13:=HP5.out.cell (i:=13) rfl
 have q13:=HQ5.out.cell (i:=13) rfl
 go_wp2_with fail
 clear p13 q13
 refine(eq_ems _ _ k.x _ (by have:=HS.out.2;unfold Kn.wt at this;simp only [ints_wt,evs_wt,ems_wt,mails_wt]at this;omega) (H13.out.1.under HB5.out) (H13.out.2.under HB5.out)).mono ?_
 rintro e w6 ⟨rfl,hb⟩
 have HB6:Hid (Below w.heap.size w w6):=HB5.out.trans (hb.mono HB5.out.size)
 have HP6:Hid (Bk w6 w.heap.size 57 #[.int .i64 k.m.n,.int .i64 k.m.s,vi,vh,vs,.int .i64 k.m.z,u6,u7,u8,.int .i64 k.t,.int .i64 k.q,.bool k.f,u12,u13]):=HP5.out.below hb
 have HQ6:Hid (Bk w6 (w.heap.size+1) 57 #[.int .i64 k.m.n,.int .i64 k.m.s,xvi,xvh,xvs,.int .i64 k.m.z,v6,v7,v8,.int .i64 k.t,.int .i64 k.q,.bool k.f,v12,v13]):=HQ5.out.below hb
 clear hb
 go_wp2
 go_ret
 exact⟨rfl,HB6.out⟩
set_option maxRecDepth 100000 in
set_option maxHeartbeats 2000000 in
theorem toMail_any (t s q d k v g:Int) (b:Bool) (w:World):
  Calls Tryz.prog 107 #[.agg #[.int .i64 t,.int .i64 s,.int .i64 q,.int .i64 d,.int .i64 k,.int .i64 v,.int .i64 g,.bool b]] w fun e w'=>e= .returned (.agg #[.int .i64 t,.int .i64 s,.int .i64 q,.int .i64 d,.int .i64 k,.int .i64 v,.int .i64 g,.bool b])∧Below w.heap.size w w':=by
 obtain⟨W0,hW0⟩:∃V,((w.alloc (.cells #[.int .i64 t,.int .i64 s,.int .i64 q,.int .i64 d,.int .i64 k,.int .i64 v,.int .i64 g,.bool b] 157)).alloc (.cells #[.int .i64 0,.int .i64 0,.int .i64 0,.int .i64 0,.int .i64 0,.int .i64 0,.int .i64 0,.bool false] 148)).alloc (.cells #[.int .i64 0,.int .i64 0,.int .i64 0,.int .i64 0,.int .i64 0,.int .i64 0,.int .i64 0,.bool false] 148)=V:=⟨_,rfl⟩
 have hb0:Below w.heap.size w W0:=hW0▸(((Below.refl _ w).alloc (Nat.le_refl _) _).alloc (by simp) _).alloc (by simp;omega) _
 have HB0:Hid (Below w.heap.size w W0):=hb0
 have B1:Hid (Bk W0 w.heap.size 157 #[.int .i64 t,.int .i64 s,.int .i64 q,.int .i64 d,.int .i64 k,.int .i64 v,.int .i64 g,.bool b]):=hW0▸((Bk.new w _ _).alloc _).alloc _
 have B2:Hid (Bk W0 (w.heap.size+1) 148 #[.int .i64 0,.int .i64 0,.int .i64 0,.int .i64 0,.int .i64 0,.int .i64 0,.int .i64 0,.bool false]):=hW0▸(Bk.newAt (by simp) _ _).alloc _
 have B3:Hid (Bk W0 (w.heap.size+1+1) 148 #[.int .i64 0,.int .i64 0,.int .i64 0,.int .i64 0,.int .i64 0,.int .i64 0,.int .i64 0,.bool false]):=hW0▸Bk.newAt (by simp) _ _
 clear hb0
 have x0:=B1.out.cell (i:=0) rfl
 have x1:=B1.out.cell (i:=1) rfl
 have x2:=B1.out.cell (i:=2) rfl
 have x3:=B1.out.cell (i:=3) rfl
 have x4:=B1.out.cell (i:=4) rfl
 have x5:=B1.out.cell (i:=5) rfl
 have x6:=B1.out.cell (i:=6) rfl
 go_enter Tryz.func107,Tryz.ntmps107
 go_wp2_with fail
 clear hW0 x0 x1 x2 x3 x4 x5 x6
 refine(toEvent_any _ _ _ _ _ _ _ _).mono ?_
 rintro r w1 ⟨rfl,hb⟩
 have x7:=(B1.out.below hb).cell (i:=7) rfl
 have Y2:Hid (Bk w1 (w.heap.size+1) 148 #[.int .i64 0,.int .i64 0,.int .i64 0,.int .i64 0,.int .i64 0,.int .i64 0,.int .i64 0,.bool false]):=B2.out.below hb
 have Y3:Hid (Bk w1 (w.heap.size+1+1) 148 #[.int .i64 0,.int .i64 0,.int .i64 0,.int .i64 0,.int .i64 0,.int .i64 0,.int .i64 0,.bool false]):=B3.out.below hb
 have y0:=Y2.out.cell (i:=0) rfl
 have y1:=Y2.out.cell (i:=1) rfl
 have y2:=Y2.out.cell (i:=2) rfl
 have y3:=Y2.out.cell (i:=3) rfl
 have y4:=Y2.out.cell (i:=4) rfl
 have y5:=Y2.out.cell (i:=5) rfl
 have y6:=Y2.out.cell (i:=6) rfl
 have y7:=Y2.out.cell (i:=7) rfl
 have z0:=Y3.out.cell (i:=0) rfl
 have z1:=Y3.out.cell (i:=1) rfl
 have z2:=Y3.out.cell (i:=2) rfl
 have z3:=Y3.out.cell (i:=3) rfl
 have z4:=Y3.out.cell (i:=4) rfl
 have z5:=Y3.out.cell (i:=5) rfl
 have z6:=Y3.out.cell (i:=6) rfl
 have z7:=Y3.out.cell (i:=7) rfl
 have yf:=Y2.out.free
 have zf:=Y3.out.free
 have HB1:Hid (Below w.heap.size w w1):=HB0.out.trans (hb.mono HB0.out.size)
 clear hb
 go_wp2
 refine bodyPost_ret (v:= .agg #[.int .i64 t,.int .i64 s,.int .i64 q,.int .i64 d,.int .i64 k,.int .i64 v,.int .i64 g,.bool b]) (by simp [results,Tryz.results107,go_sem,y0,y1,y2,y3,y4,y5,y6,y7]) rfl ⟨rfl,?_⟩
 exact((((((((((((((((HB1.out.setCell (p:=⟨w.heap.size+1+1,0,none⟩) (by show w.heap.size≤w.heap.size+1+1;omega) _).setCell (p:=⟨w.heap.size+1+1,1,none⟩) (by show w.heap.size≤w.heap.size+1+1;omega) _).setCell (p:=⟨w.heap.size+1+1,2,none⟩) (by show w.heap.size≤w.heap.size+1+1;omega) _).setCell (p:=⟨w.heap.size+1+1,3,none⟩) (by show w.heap.size≤w.heap.size+1+1;omega) _).setCell (p:=⟨w.heap.size+1+1,4,none⟩) (by show w.heap.size≤w.heap.size+1+1;omega) _).setCell (p:=⟨w.heap.size+1+1,5,none⟩) (by show w.heap.size≤w.heap.size+1+1;omega) _).setCell (p:=⟨w.heap.size+1+1,6,none⟩) (by show w.heap.size≤w.heap.size+1+1;omega) _).setCell (p:=⟨w.heap.size+1+1,7,none⟩) (by show w.heap.size≤w.heap.size+1+1;omega) _).setCell (p:=⟨w.heap.size+1,0,none⟩) (by show w.heap.size≤w.heap.size+1;omega) _).setCell (p:=⟨w.heap.size+1,1,none⟩) (by show w.heap.size≤w.heap.size+1;omega) _).setCell (p:=⟨w.heap.size+1,2,none⟩) (by show w.heap.size≤w.heap.size+1;omega) _).setCell (p:=⟨w.heap.size+1,3,none⟩) (by show w.heap.size≤w.heap.size+1;omega) _).setCell (p:=⟨w.heap.size+1,4,none⟩) (by show w.heap.size≤w.heap.size+1;omega) _).setCell (p:=⟨w.heap.size+1,5,none⟩) (by show w.heap.size≤w.heap.size+1;omega) _).setCell (p:=⟨w.heap.size+1,6,none⟩) (by show w.heap.size≤w.heap.size+1;omega) _).setCell (p:=⟨w.heap.size+1,7,none⟩) (by show w.heap.size≤w.heap.size+1;omega) _)
theorem infoMl:(Tryz.prog.info? 148).map (fun i=>(i.zero,i.size,i.bytes))=some (some (.agg #[.int .i64 0,.int .i64 0,.int .i64 0,.int .i64 0,.int .i64 0,.int .i64 0,.int .i64 0,.bool false]),8,64):=by kernel_rfl
theorem mails_at {l:List Ml} {k:Nat} (h:k<l.length):(cellsMl l).getD (k*8) (.int .i64 0)= .int .i64 (mlAt l k).e.t∧(cellsMl l).getD (k*8+1) (.int .i64 0)= .int .i64 (mlAt l k).e.s∧(cellsMl l).getD (k*8+2) (.int .i64 0)= .int .i64 (mlAt l k).e.q∧(cellsMl l).getD (k*8+3) (.int .i64 0)= .int .i64 (mlAt l k).e.d∧(cellsMl l).getD (k*8+4) (.int .i64 0)= .int .i64 (mlAt l k).e.k∧(cellsMl l).getD (k*8+5) (.int .i64 0)= .int .i64 (mlAt l k).e.v∧(cellsMl l).getD (k*8+6) (.int .i64 0)= .int .i64 (mlAt l k).e.g∧(cellsMl l).getD (k*8+7) (.int .i64 0)= .bool (mlAt l k).a:=
 ⟨getD_of (cellsMl_get l k 0 h (by omega)),getD_of (cellsMl_get l k 1 h (by omega)),getD_of (cellsMl_get l k 2 h (by omega)),getD_of (cellsMl_get l k 3 h (by omega)),getD_of (cellsMl_get l k 4 h (by omega)),getD_of (cellsMl_get l k 5 h (by omega)),getD_of (cellsMl_get l k 6 h (by omega)),getD_of (cellsMl_get l k 7 h (by omega))⟩
set_option maxRecDepth 100000 in
set_option maxHeartbeats 4000000 in
theorem toMl_any (x:Value) (l:List Ml) (w:World) (hl:l.length≤1048576) (h:IsMl w x l):
  Calls Tryz.prog 61 #[x] w fun e w'=>e= .returned (sl w.heap.size l.length)∧Below w.heap.size w w'∧OwnD w' (fun k=>w.heap.size≤k∧k<w'.heap.size) (sl w.heap.size l.length) (mailsD l):=by
 obtain⟨a,cap,rfl,h1,h2,h⟩:=h
 have hp:(0:Int)≤(l.length:Int):=by omega
 obtain⟨i0,hi,hz0,hz1,hz2⟩:=info_parts infoMl
 go_enter Tryz.func61,Tryz.ntmps61
 go_wp2_with (at_make;refine wpList_make_full _ rfl _ _ 54 rfl w.heap.size 148 i0 _ 8 Tryz.underlying54 hi hz0 hz1 .i64 .i64 l.length l.length l.length rfl rfl rfl rfl (by rw [hz2];omega) (by unfold maxLen;omega) (Nat.le_refl _) ?_;intro w1 hown hgrow)
 have hB1:Hid (Below w.heap.size w w1):=(Below.refl _ _).grown hgrow (Nat.le_refl _) (fun k e=>by cases e)
 obtain⟨zs,hR0⟩:=OwnD.made0 (fun j=> .val ((cellsMl l).getD j (.int .i64 0))) hown
 have hR1:Hid (OwnD w1 (fun k=>w.heap.size≤k∧k<w1.heap.size) (sl w.heap.size l.length) (.row 8 l.length (toC (fun j=> .val ((cellsMl l).getD j (.int .i64 0))) zs (0*8)))):=hR0
 clear hown hgrow hi hz0 hz1 hz2 hR0
 go_loopw [4] (fun i wr=>∃k:Nat,k≤l.length∧i= .int .i64 k∧Below w.heap.size w wr∧OwnD wr (fun k=>w.heap.size≤k∧k<wr.heap.size) (sl w.heap.size l.length) (.row 8 l.length (toC (fun j=> .val ((cellsMl l).getD j (.int .i64 0))) zs (k*8)))) (fun i _=>l.length-(intOf i).toNat)
 case atStart=>exact⟨0,Nat.zero_le _,rfl,hB1.out,hR1.out⟩
 case round=>
  obtain⟨k,hk,rfl,hB,hR⟩:=hrel
  have HB:Hid (Below w.heap.size w wr):=hB
  have HR:Hid (OwnD wr (fun k=>w.heap.size≤k∧k<wr.heap.size) (sl w.heap.size l.length) (.row 8 l.length (toC (fun j=> .val ((cellsMl l).getD j (.int .i64 0))) zs (k*8)))):=hR
  clear hR
  by_cases hlt:k<l.length
  ·obtain⟨b,off,rfl,hb,hc⟩:=h.resolve_left (by intro e;subst e;simp at hlt)
   obtain⟨f0,f1,f2,f3,f4,f5,f6,f7⟩:=(hc k hlt).below hB hb
   have hg:w.heap.size<wr.heap.size:=(HR.out.lt (by omega)).1
   clear hB hB1 hR1 h hc
   go_wp2_with (go_at_call 107;refine(toMail_any _ _ _ _ _ _ _ _ _).mono ?_;rintro e w2 ⟨rfl,hb2⟩;have HB2:Hid (Below wr.heap.size wr w2):=hb2;have HR2:Hid (OwnD w2 (fun k=>w.heap.size≤k∧k<wr.heap.size) (sl w.heap.size l.length) (.row 8 l.length (toC (fun j=> .val ((cellsMl l).getD j (.int .i64 0))) zs (k*8)))):=HR.out.under hb2;obtain⟨c0,_,g0,z0,_⟩:=HR2.out.step (j:=k*8) (by omega);obtain⟨c1,_,g1,z1,_⟩:=HR2.out.step (j:=k*8+1) (by omega);obtain⟨c2,_,g2,z2,_⟩:=HR2.out.step (j:=k*8+2) (by omega);obtain⟨c3,_,g3,z3,_⟩:=HR2.out.step (j:=k*8+3) (by omega);obtain⟨c4,_,g4,z4,_⟩:=HR2.out.step (j:=k*8+4) (by omega);obtain⟨c5,_,g5,z5,_⟩:=HR2.out.step (j:=k*8+5) (by omega);obtain⟨c6,_,g6,z6,_⟩:=HR2.out.step (j:=k*8+6) (by omega);obtain⟨c7,_,g7,z7,_⟩:=HR2.out.step (j:=k*8+7) (by omega);clear hb2)
   go_roundw
   case rel=>
    obtain⟨e0,e1,e2,e3,e4,e5,e6,e7⟩:=mails_at hlt
    refine⟨k+1,by omega,by go_num,(((((((((HB.out.trans (HB2.out.mono (by omega))).setCell (p:=⟨w.heap.size,_,none⟩) (Nat.le_refl _) _).setCell (p:=⟨w.heap.size,_,none⟩) (Nat.le_refl _) _).setCell (p:=⟨w.heap.size,_,none⟩) (Nat.le_refl _) _).setCell (p:=⟨w.heap.size,_,none⟩) (Nat.le_refl _) _).setCell (p:=⟨w.heap.size,_,none⟩) (Nat.le_refl _) _).setCell (p:=⟨w.heap.size,_,none⟩) (Nat.le_refl _) _).setCell (p:=⟨w.heap.size,_,none⟩) (Nat.le_refl _) _).setCell (p:=⟨w.heap.size,_,none⟩) (Nat.le_refl _) _),?_⟩
    rw [show(k+1)*8=k*8+1+1+1+1+1+1+1+1 from by omega]
    exact(((((((((HR2.out.fill_val (m:=k*8) (by omega) (by rw [e0])).fill_val (m:=k*8+1) (by omega) (by rw [e1])).fill_val (m:=k*8+2) (by omega) (by rw [e2])).fill_val (m:=k*8+3) (by omega) (by rw [e3])).fill_val (m:=k*8+4) (by omega) (by rw [e4])).fill_val (m:=k*8+5) (by omega) (by rw [e5])).fill_val (m:=k*8+6) (by omega) (by rw [e6])).fill_val (m:=k*8+7) (by omega) (by rw [e7]))).mono (fun b hb=>⟨hb.1,by have:=HB2.out.size;simp;omega⟩)
   case measure=>simp [intOf];omega
  ·clear hB hB1 hR1 h
   go_wp2
   go_ret
   obtain rfl:k=l.length:=by omega
   exact⟨rfl,HB.out,HR.out.toAll rfl⟩
theorem to_mails (x:Value) (l:List Ml) (w:World) (hl:l.length≤1048576) (h:IsD w x (mailsD l)):
  Calls Tryz.prog 61 #[x] w fun e w'=>∃y,e= .returned y∧Below w.heap.size w w'∧OwnD w' (fun k=>w.heap.size≤k∧k<w'.heap.size) y (mailsD l):=by
 refine(toMl_any x l w hl h.isMl).mono ?_
 rintro e w' ⟨rfl,hb,hr⟩
 exact⟨_,rfl,hb,hr⟩
theorem putN_7 (w:World) (g m:Nat) (v0 v1 v2 v3 v4 v5 v6:Value):putN w g m (fun i=> [v0,v1,v2,v3,v4,v5,v6].getD i (.int .i64 0)) 7=(((((((w.setCell ⟨g,m,none⟩ (v0)).setCell ⟨g,m+1,none⟩ (v1)).setCell ⟨g,m+2,none⟩ (v2)).setCell ⟨g,m+3,none⟩ (v3)).setCell ⟨g,m+4,none⟩ (v4)).setCell ⟨g,m+5,none⟩ (v5)).setCell ⟨g,m+6,none⟩ (v6)):=rfl
theorem put7_turns (w:World) (g m:Nat) (v0 v1 v2 v3 v4 v5 v6:Value):Turns (fun k=>k=g) w (((((((w.setCell ⟨g,m,none⟩ (v0)).setCell ⟨g,m+1,none⟩ (v1)).setCell ⟨g,m+2,none⟩ (v2)).setCell ⟨g,m+3,none⟩ (v3)).setCell ⟨g,m+4,none⟩ (v4)).setCell ⟨g,m+5,none⟩ (v5)).setCell ⟨g,m+6,none⟩ (v6)):=putN_7 w g m v0 v1 v2 v3 v4 v5 v6▸putN_turns w g m _ 7
theorem infoPart:(Tryz.prog.info? 97).map (fun i=>(i.zero,i.size,i.bytes))=some (some (.agg #[.int .i64 0,.slice none 0 0,.int .i64 0,.int .i64 0,.slice none 0 0,.slice none 0 0,.slice none 0 0]),7,120):=by kernel_rfl
set_option maxHeartbeats 8000000 in
theorem to_parts (x:Value) (l:List Pa) (w:World) (hl:(partsD l).wt≤1048576) (h:IsD w x (partsD l)):
  Calls Tryz.prog 60 #[x] w fun e w'=>∃y,e= .returned y∧Below w.heap.size w w'∧OwnD w' (fun k=>w.heap.size≤k∧k<w'.heap.size) y (partsD l):=by
 obtain⟨a,cap,rfl,h1,h2,h⟩:=IsD.parts (c:=7) (n:=l.length) h
 have HS:Hid ((partsD l).wt≤1048576):=hl
 have hl2:l.length≤1048576:=by rw [partsD_wt]at hl;omega
 have hp:(0:Int)≤(l.length:Int):=by omega
 clear hl
 obtain⟨i0,hi,hz0,hz1,hz2⟩:=info_parts infoPart
 go_enter Tryz.func60,Tryz.ntmps60
 go_wp2_with (at_make;refine wpList_make_full _ rfl _ _ 53 rfl w.heap.size 97 i0 _ 7 Tryz.underlying53 hi hz0 hz1 .i64 .i64 l.length l.length l.length rfl rfl rfl rfl (by rw [hz2];omega) (by unfold maxLen;omega) (Nat.le_refl _) ?_;intro w1 hown hgrow)
 have hB1:Hid (Below w.heap.size w w1):=(Below.refl _ _).grown hgrow (Nat.le_refl _) (fun k e=>by cases e)
 obtain⟨zs,hR0⟩:=OwnD.made0 (partsD_f l) hown
 have hR1:Hid (OwnD w1 (fun k=>w.heap.size≤k∧k<w1.heap.size) (sl w.heap.size l.length) (.row 7 l.length (toC (partsD_f l) zs (0*7)))):=hR0
 clear hown hgrow hi hz0 hz1 hz2 hR0
 go_loopw [4] (fun i wr=>∃k:Nat,k≤l.length∧i= .int .i64 k∧Below w.heap.size w wr∧OwnD wr (fun k=>w.heap.size≤k∧k<wr.heap.size) (sl w.heap.size l.length) (.row 7 l.length (toC (partsD_f l) zs (k*7)))) (fun i _=>l.length-(intOf i).toNat)
 case atStart=>exact⟨0,Nat.zero_le _,rfl,hB1.out,hR1.out⟩
 case round=>
  obtain⟨k,hk,rfl,hB,hR⟩:=hrel
  have HB:Hid (Below w.heap.size w wr):=hB
  have HR:Hid (OwnD wr (fun k=>w.heap.size≤k∧k<wr.heap.size) (sl w.heap.size l.length) (.row 7 l.length (toC (partsD_f l) zs (k*7)))):=hR
  clear hR
  by_cases hlt:k<l.length
  ·obtain⟨b,off,rfl,hb,hc⟩:=h.resolve_left (by omega)
   obtain⟨u1,u4,u5,u6,f0,f1,f2,f3,f4,f5,f6,d1,d4,d5,d6⟩:=partsD_in (fun j hj=>by
    obtain⟨u,hu,hd⟩:=hc j hj
    exact⟨u,(hB.cell (p:=⟨b,off+j,none⟩) hb).trans hu,hd.under hB⟩) hlt
   have HD:Hid (IsPart wr (.agg #[.int .i64 (paAt l k).n,u1,.int .i64 (paAt l k).st.q,.int .i64 (paAt l k).st.d,u4,u5,u6]) (paAt l k)):=⟨u1,u4,u5,u6,rfl,d1,d4,d5,d6⟩
   have hg:w.heap.size<wr.heap.size:=(HR.out.lt (by omega)).1
   clear hB hB1 hR1 h hc d1 d4 d5 d6
   go_wp2_with fail
   clear f0 f1 f2 f3 f4 f5 f6
   refine(toPart_any _ (paAt l k) _ (Nat.le_trans (Pa.wt_le hlt) HS.out) HD.out).mono ?_
   rintro e w2 ⟨y,rfl,hb2,A1,A4,A5,A6,v1,v4,v5,v6,rfl,o1,o4,o5,o6,d1,d4,d5,d6⟩
   have HB2:Hid (Below wr.heap.size wr w2):=hb2
   have HR2:Hid (OwnD w2 (fun k=>w.heap.size≤k∧k<wr.heap.size) (sl w.heap.size l.length) (.row 7 l.length (toC (partsD_f l) zs (k*7)))):=HR.out.under hb2
   obtain⟨a1,c1,rfl,_⟩:=OwnD.parts (c:=1) (n:=(paAt l k).st.r.length) o1
   have O1:Hid (OwnD w2 A1 (.slice a1 (paAt l k).st.r.length c1) (intsD (paAt l k).st.r)):=o1
   obtain⟨a4,c4,rfl,_⟩:=OwnD.parts (c:=12) (n:=(paAt l k).p.length) o4
   have O4:Hid (OwnD w2 A4 (.slice a4 (paAt l k).p.length c4) (pastsD (paAt l k).p)):=o4
   obtain⟨a5,c5,rfl,_⟩:=OwnD.parts (c:=7) (n:=(paAt l k).t.length) o5
   have O5:Hid (OwnD w2 A5 (.slice a5 (paAt l k).t.length c5) (evsD (paAt l k).t)):=o5
   obtain⟨a6,c6,rfl,_⟩:=OwnD.parts (c:=1) (n:=(paAt l k).a.length) o6
   have O6:Hid (OwnD w2 A6 (.slice a6 (paAt l k).a.length c6) (intsD (paAt l k).a)):=o6
   obtain⟨x0,_,g0,z0,_⟩:=HR2.out.step (j:=k*7) (by omega)
   obtain⟨x1,_,g1,z1,_⟩:=HR2.out.step (j:=k*7+1) (by omega)
   obtain⟨x2,_,g2,z2,_⟩:=HR2.out.step (j:=k*7+2) (by omega)
   obtain⟨x3,_,g3,z3,_⟩:=HR2.out.step (j:=k*7+3) (by omega)
   obtain⟨x4,_,g4,z4,_⟩:=HR2.out.step (j:=k*7+4) (by omega)
   obtain⟨x5,_,g5,z5,_⟩:=HR2.out.step (j:=k*7+5) (by omega)
   obtain⟨x6,_,g6,z6,_⟩:=HR2.out.step (j:=k*7+6) (by omega)
   have D1:Hid (∀k,A1 k→(wr.heap.size≤k∧k<w2.heap.size)∧ ¬A4 k∧ ¬A5 k∧ ¬A6 k):=d1
   have D4:Hid (∀k,A4 k→(wr.heap.size≤k∧k<w2.heap.size)∧ ¬A5 k∧ ¬A6 k):=d4
   have D5:Hid (∀k,A5 k→(wr.heap.size≤k∧k<w2.heap.size)∧ ¬A6 k):=d5
   have D6:Hid (∀k,A6 k→(wr.heap.size≤k∧k<w2.heap.size)):=d6
   clear hb2 o1 d1 o4 d4 o5 d5 o6 d6
   go_wp2
   go_roundw
   case rel=>
    have hG:∀i b,(fun i=>if i=1 then A1 else if i=4 then A4 else if i=5 then A5 else if i=6 then A6 else fun _=>False) i b→wr.heap.size≤b∧b<w2.heap.size:=by
     intro i b hb
     by_cases e:i=1∨i=4∨i=5∨i=6
     ·rcases e with rfl|rfl|rfl|rfl
      ·exact(D1.out b hb).1
      ·exact(D4.out b hb).1
      ·exact(D5.out b hb).1
      ·exact(D6.out b hb)
     ·simp only [not_or]at e
      simp [e]at hb
    have hGG:∀i j,i≠j→ ∀b,(fun i=>if i=1 then A1 else if i=4 then A4 else if i=5 then A5 else if i=6 then A6 else fun _=>False) i b→ ¬(fun i=>if i=1 then A1 else if i=4 then A4 else if i=5 then A5 else if i=6 then A6 else fun _=>False) j b:=by
     intro i j hij b hb hb'
     by_cases e:i=1∨i=4∨i=5∨i=6
     ·by_cases e':j=1∨j=4∨j=5∨j=6
      ·rcases e with rfl|rfl|rfl|rfl<;>rcases e' with rfl|rfl|rfl|rfl
       ·exact hij rfl
       ·exact(D1.out b hb).2.1 hb'
       ·exact(D1.out b hb).2.2.1 hb'
       ·exact(D1.out b hb).2.2.2 hb'
       ·exact(D1.out b hb').2.1 hb
       ·exact hij rfl
       ·exact(D4.out b hb).2.1 hb'
       ·exact(D4.out b hb).2.2 hb'
       ·exact(D1.out b hb').2.2.1 hb
       ·exact(D4.out b hb').2.1 hb
       ·exact hij rfl
       ·exact(D5.out b hb).2 hb'
       ·exact(D1.out b hb').2.2.2 hb
       ·exact(D4.out b hb').2.2 hb
       ·exact(D5.out b hb').2 hb
       ·exact hij rfl
      ·simp only [not_or]at e'
       simp [e']at hb'
     ·simp only [not_or]at e
      simp [e]at hb
    have q:=OwnD.fillN (G:=(fun i=>if i=1 then A1 else if i=4 then A4 else if i=5 then A5 else if i=6 then A6 else fun _=>False)) (U:=(fun i=> [.int .i64 (paAt l k).n,.slice a1 (paAt l k).st.r.length c1,.int .i64 (paAt l k).st.q,.int .i64 (paAt l k).st.d,.slice a4 (paAt l k).p.length c4,.slice a5 (paAt l k).t.length c5,.slice a6 (paAt l k).a.length c6].getD i (.int .i64 0))) HR2.out ⟨Nat.le_refl _,hg⟩ 7 (by omega) (fun i hi=>by
     have hat:partsD_f l (k*7+i)=(paAt l k).cell i:=partsD_at l k (r:=i) hi
     match i,hi,hat with
     |0,_,hat=>rw [hat];exact OwnD.val _ _
     |1,_,hat=>rw [hat];exact O1.out
     |2,_,hat=>rw [hat];exact OwnD.val _ _
     |3,_,hat=>rw [hat];exact OwnD.val _ _
     |4,_,hat=>rw [hat];exact O4.out
     |5,_,hat=>rw [hat];exact O5.out
     |6,_,hat=>rw [hat];exact O6.out
     |_+7,h,_=>exact absurd h (by omega)) (fun i _ b hb hb'=>by have:=hG i b hb;omega) (fun i j _ _ hij b hb hb'=>hGG i j hij b hb hb')
    rw [putN_7]at q
    have hT:=put7_turns w2 w.heap.size (k*7) (.int .i64 (paAt l k).n) (.slice a1 (paAt l k).st.r.length c1) (.int .i64 (paAt l k).st.q) (.int .i64 (paAt l k).st.d) (.slice a4 (paAt l k).p.length c4) (.slice a5 (paAt l k).t.length c5) (.slice a6 (paAt l k).a.length c6)
    have hsz:=hT.size
    refine⟨k+1,by omega,by go_num,(HB.out.trans (HB2.out.mono (by omega))).trans (hT.to_below (fun b e=>by omega) (by have:=HB2.out.size;omega)),?_⟩
    rw [show(k+1)*7=k*7+7 from by omega]
    refine q.mono (fun b hb=> ?_)
    have hs2:=HB2.out.size
    rcases hb with hb|⟨i,_,hb⟩
    ·exact⟨hb.1,Nat.lt_of_lt_of_le hb.2 (Nat.le_trans hs2 hsz)⟩
    ·have:=hG i b hb
     exact⟨by omega,Nat.lt_of_lt_of_le this.2 hsz⟩
   case measure=>simp [intOf];omega
  ·clear hB hB1 hR1 h
   go_wp2
   go_ret
   obtain rfl:k=l.length:=by omega
   exact⟨_,rfl,HB.out,HR.out.toAll rfl⟩
end Go.Proofs.YtmobiieoecjmdaaGreat

