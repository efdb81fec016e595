/- WTo2, TPpB, KKe -/
import Derived.Test.YtmobiieoecjmdaaGreatExactAnswersG39
namespace Go.Proofs.YtmobiieoecjmdaaGreat
set_option maxHeartbeats 16000000
set_option maxRecDepth 100000
open Go.RowKit
theorem yax {p:Prop} (h:p):Hid p:=h
theorem infoKern:(Tryz.prog.info? 57).map (fun i=>(i.zero,i.size,i.bytes))=some (some (.agg #[.int .i64 0,.int .i64 0,.slice none 0 0,.slice none 0 0,.slice none 0 0,.int .i64 0,.slice none 0 0,.slice none 0 0,.slice none 0 0,.int .i64 0,.int .i64 0,.bool false,.slice none 0 0,.slice none 0 0]),14,240):=by kernel_rfl
theorem ytl (w:World) (g m:Nat) (v0 v1 v2 v3 v4 v5 v6 v7 v8 v9 v10 v11 v12 v13:Value):putN w g m (fun i=> [v0,v1,v2,v3,v4,v5,v6,v7,v8,v9,v10,v11,v12,v13].getD i (.int .i64 0)) 14=(((((((((((((w.setCell ⟨g,m,none⟩ (v0)).setCell ⟨g,m+1,none⟩ (v1)).setCell ⟨g,m+2,none⟩ (v2)).setCell ⟨g,m+3,none⟩ (v3)).setCell ⟨g,m+4,none⟩ (v4)).setCell ⟨g,m+5,none⟩ (v5)).setCell ⟨g,m+6,none⟩ (v6)).setCell ⟨g,m+7,none⟩ (v7)).setCell ⟨g,m+8,none⟩ (v8)).setCell ⟨g,m+9,none⟩ (v9)).setCell ⟨g,m+10,none⟩ (v10)).setCell ⟨g,m+11,none⟩ (v11)).setCell ⟨g,m+12,none⟩ (v12)).setCell ⟨g,m+13,none⟩ (v13):=rfl
theorem yoe (w:World) (g m:Nat) (v0 v1 v2 v3 v4 v5 v6 v7 v8 v9 v10 v11 v12 v13:Value):Turns (fun k=>k=g) w ((((((((((((((w.setCell ⟨g,m,none⟩ (v0)).setCell ⟨g,m+1,none⟩ (v1)).setCell ⟨g,m+2,none⟩ (v2)).setCell ⟨g,m+3,none⟩ (v3)).setCell ⟨g,m+4,none⟩ (v4)).setCell ⟨g,m+5,none⟩ (v5)).setCell ⟨g,m+6,none⟩ (v6)).setCell ⟨g,m+7,none⟩ (v7)).setCell ⟨g,m+8,none⟩ (v8)).setCell ⟨g,m+9,none⟩ (v9)).setCell ⟨g,m+10,none⟩ (v10)).setCell ⟨g,m+11,none⟩ (v11)).setCell ⟨g,m+12,none⟩ (v12)).setCell ⟨g,m+13,none⟩ (v13)):=ytl w g m v0 v1 v2 v3 v4 v5 v6 v7 v8 v9 v10 v11 v12 v13▸yf1 w g m _ 14
theorem KernF.form {F:Nat→Prop} {w:World} {y:Value} {k:Kn} (h:KernF F w y k):∃ai ci ah ch ae ce a6 c6 a7 c7 a8 c8 a12 c12 a13 c13,y= .agg #[.int .i64 k.m.n,.int .i64 k.m.s,.slice ai k.m.i.length ci,.slice ah k.m.h.length ch,.slice ae k.m.e.length ce,.int .i64 k.m.z,.slice a6 k.d.length c6,.slice a7 k.p.length c7,.slice a8 k.b.length c8,.int .i64 k.t,.int .i64 k.q,.bool k.f,.slice a12 k.s.length c12,.slice a13 k.x.length c13]:=by
 obtain⟨A0,A6,A7,A8,A12,A13,vi,vh,vs,u6,u7,u8,u12,u13,rfl,hm,h6,h7,h8,h12,h13,_⟩:=h
 obtain⟨ai,ci,ah,ch,ae,ce,hE⟩:=MdF.form hm
 cases hE
 obtain⟨a6,c6,rfl,_⟩:=OwnD.parts (c:=1) (n:=k.d.length) h6
 obtain⟨a7,c7,rfl,_⟩:=OwnD.parts (c:=7) (n:=k.p.length) h7
 obtain⟨a8,c8,rfl,_⟩:=OwnD.parts (c:=8) (n:=k.b.length) h8
 obtain⟨a12,c12,rfl,_⟩:=OwnD.parts (c:=7) (n:=k.s.length) h12
 obtain⟨a13,c13,rfl,_⟩:=OwnD.parts (c:=3) (n:=k.x.length) h13
 exact⟨ai,ci,ah,ch,ae,ce,a6,c6,a7,c7,a8,c8,a12,c12,a13,c13,rfl⟩
open Classical in
theorem ys0 {F:Nat→Prop} {w:World} {U:Nat→Value} {k:Kn} (h:KernF F w (.agg #[U 0,U 1,U 2,U 3,U 4,U 5,U 6,U 7,U 8,U 9,U 10,U 11,U 12,U 13]) k):
  ∃G:Nat→Nat→Prop,(∀r,r<14→OwnD w (G r) (U r) (k.cell r))∧(∀r j,G r j→F j)∧ ∀r q,r≠q→ ∀j,G r j→ ¬G q j:=by
 obtain⟨A0,A6,A7,A8,A12,A13,vi,vh,vs,u6,u7,u8,u12,u13,he,⟨A,B,C,vi',vh',vs',he2,hA,hB,hC,dA,dB,dC⟩,h6,h7,h8,h12,h13,d0,d6,d7,d8,d12,d13⟩:=h
 simp only [Value.agg.injEq,Array.mk.injEq,List.cons.injEq,and_true]at he he2
 obtain⟨e0,e1,e2,e3,e4,e5,e6,e7,e8,e9,e10,e11,e12,e13⟩:=he
 obtain⟨-,-,rfl,rfl,rfl,-⟩:=he2
 obtain⟨G,hG⟩:∃G:Nat→Nat→Prop,G=fun r=>if r=2 then A else if r=3 then B else if r=4 then C else if r=6 then A6 else if r=7 then A7 else if r=8 then A8 else if r=12 then A12 else if r=13 then A13 else fun _=>False:=⟨_,rfl⟩
 have G0:∀r j,G r j→(r=2∧A j∨r=3∧B j∨r=4∧C j∨r=6∧A6 j∨r=7∧A7 j∨r=8∧A8 j∨r=12∧A12 j∨r=13∧A13 j):=by
  intro r j hj
  rw [hG]at hj
  repeat' split at hj
  all_goals simp_all
 have GF:∀r j,G r j→F j:=by
  intro r j hj
  rcases G0 r j hj with ⟨_,e⟩|⟨_,e⟩|⟨_,e⟩|⟨_,e⟩|⟨_,e⟩|⟨_,e⟩|⟨_,e⟩|⟨_,e⟩
  ·exact(d0 j (dA j e).1).1
  ·exact(d0 j (dB j e).1).1
  ·exact(d0 j (dC j e)).1
  ·exact(d6 j e).1
  ·exact(d7 j e).1
  ·exact(d8 j e).1
  ·exact(d12 j e).1
  ·exact d13 j e
 have GO:∀r j,G r j→(if A j then 2 else if B j then 3 else if C j then 4 else if A6 j then 6 else if A7 j then 7 else if A8 j then 8 else if A12 j then 12 else if A13 j then 13 else 0)=r:=by
  intro r j hj
  rcases G0 r j hj with ⟨rfl,e⟩|⟨rfl,e⟩|⟨rfl,e⟩|⟨rfl,e⟩|⟨rfl,e⟩|⟨rfl,e⟩|⟨rfl,e⟩|⟨rfl,e⟩
  ·rw [if_pos e]
  ·rw [if_neg (fun x:A j=>(dA j x).2.1 e),if_pos e]
  ·rw [if_neg (fun x:A j=>(dA j x).2.2 e),if_neg (fun x:B j=>(dB j x).2 e),if_pos e]
  ·rw [if_neg (fun x:A j=>(d0 j ((dA j x).1)).2.1 e),if_neg (fun x:B j=>(d0 j ((dB j x).1)).2.1 e),if_neg (fun x:C j=>(d0 j (dC j x)).2.1 e),if_pos e]
  ·rw [if_neg (fun x:A j=>(d0 j ((dA j x).1)).2.2.1 e),if_neg (fun x:B j=>(d0 j ((dB j x).1)).2.2.1 e),if_neg (fun x:C j=>(d0 j (dC j x)).2.2.1 e),if_neg (fun x:A6 j=>(d6 j x).2.1 e),if_pos e]
  ·rw [if_neg (fun x:A j=>(d0 j ((dA j x).1)).2.2.2.1 e),if_neg (fun x:B j=>(d0 j ((dB j x).1)).2.2.2.1 e),if_neg (fun x:C j=>(d0 j (dC j x)).2.2.2.1 e),if_neg (fun x:A6 j=>(d6 j x).2.2.1 e),if_neg (fun x:A7 j=>(d7 j x).2.1 e),if_pos e]
  ·rw [if_neg (fun x:A j=>(d0 j ((dA j x).1)).2.2.2.2.1 e),if_neg (fun x:B j=>(d0 j ((dB j x).1)).2.2.2.2.1 e),if_neg (fun x:C j=>(d0 j (dC j x)).2.2.2.2.1 e),if_neg (fun x:A6 j=>(d6 j x).2.2.2.1 e),if_neg (fun x:A7 j=>(d7 j x).2.2.1 e),if_neg (fun x:A8 j=>(d8 j x).2.1 e),if_pos e]
  ·rw [if_neg (fun x:A j=>(d0 j ((dA j x).1)).2.2.2.2.2 e),if_neg (fun x:B j=>(d0 j ((dB j x).1)).2.2.2.2.2 e),if_neg (fun x:C j=>(d0 j (dC j x)).2.2.2.2.2 e),if_neg (fun x:A6 j=>(d6 j x).2.2.2.2 e),if_neg (fun x:A7 j=>(d7 j x).2.2.2 e),if_neg (fun x:A8 j=>(d8 j x).2.2 e),if_neg (fun x:A12 j=>(d12 j x).2 e),if_pos e]
 refine⟨G,fun j hj=> ?_,GF,fun r q hr j hj hq=>hr ((GO r j hj).symm.trans (GO q j hq))⟩
 rw [hG]
 match j,hj with
 |0,_=>rw [e0];exact .val _ _
 |1,_=>rw [e1];exact .val _ _
 |2,_=>rw [e2];exact hA.own
 |3,_=>rw [e3];exact hB.own
 |4,_=>rw [e4];exact hC.own
 |5,_=>rw [e5];exact .val _ _
 |6,_=>rw [e6];exact h6
 |7,_=>rw [e7];exact h7
 |8,_=>rw [e8];exact h8
 |9,_=>rw [e9];exact .val _ _
 |10,_=>rw [e10];exact .val _ _
 |11,_=>rw [e11];exact .val _ _
 |12,_=>rw [e12];exact h12
 |13,_=>rw [e13];exact h13
 |j+14,hj=>omega
theorem yqu (x:Value) (l:List Kn) (w:World) (hl:yd3 l) (h:IsKs w x l):
  Calls Tryz.prog 43 #[x] w fun e w'=>∃y,e= .returned y∧Below w.heap.size w w'∧OwnD w' (fun k=>w.heap.size≤k∧k<w'.heap.size) y (knsD l):=by
 obtain⟨a,cap,rfl,h1,h2,h⟩:=h
 have HS:Hid (yd3 l):=hl
 have hl2:l.length≤1048576:=hl.1
 have hp:(0:Int)≤(l.length:Int):=by omega
 clear hl
 obtain⟨i0,hi,hz0,hz1,hz2⟩:=info_parts infoKern
 go_enter Tryz.func43,Tryz.ntmps43
 go_wp2_with (at_make;refine wpList_make_full _ rfl _ _ 37 rfl w.heap.size 57 i0 _ 14 Tryz.underlying37 hi hz0 hz1 .i64 .i64 l.length l.length l.length rfl rfl rfl rfl (by rw [hz2];omega) (by unfold maxLen;omega) (Nat.le_refl _) ?_;intro w1 hown hgrow)
 have hB1:Hid (Below w.heap.size w w1):=(Below.refl _ _).grown hgrow (Nat.le_refl _) (fun k e=>by cases e)
 obtain⟨zs,hR0⟩:=OwnD.made0 (yaa l) hown
 have hR1:=yax hR0
 clear hown hgrow hi hz0 hz1 hz2 hR0
 go_loopw [4] (fun i wr=>∃k:Nat,k≤l.length∧i= .int .i64 k∧Below w.heap.size w wr∧OwnD wr (fun k=>w.heap.size≤k∧k<wr.heap.size) (sl w.heap.size l.length) (.row 14 l.length (toC (yaa l) zs (k*14)))) (fun i _=>l.length-(intOf i).toNat)
 case atStart=>exact⟨0,Nat.zero_le _,rfl,hB1.out,hR1.out⟩
 case round=>
  obtain⟨k,hk,rfl,hB,hR⟩:=hrel
  have HB:=yax hB
  have HR:=yax hR
  clear hR
  by_cases hlt:k<l.length
  ·obtain⟨b,off,rfl,hb,hc⟩:=h.resolve_left (by omega)
   obtain⟨vi,vh,vs,u6,u7,u8,u12,u13,⟨f0,f1,f2,f3,f4,f5,f6,f7,f8,f9,f10,f11,f12,f13⟩,hD⟩:=(hc k hlt).under hb hB
   have HD:=yax hD
   have hg:w.heap.size<wr.heap.size:=(HR.out.lt (by omega)).1
   clear hB hB1 hR1 h hc hD
   go_wp2_with fail
   clear f0 f1 f2 f3 f4 f5 f6 f7 f8 f9 f10 f11 f12 f13
   refine(ymg _ (knAt l k) _ (HS.out.2 k hlt) HD.out).mono ?_
   rintro e w2 ⟨y,rfl,hb2,hF⟩
   obtain⟨ai,ci,ah,ch,ae,ce,a6,c6,a7,c7,a8,c8,a12,c12,a13,c13,rfl⟩:=hF.form
   have HB2:=yax hb2
   have HF:=yax hF
   have HR2:=yax (HR.out.under hb2)
   obtain⟨x0,_,g0,z0,_⟩:=HR2.out.step (j:=k*14) (by omega)
   obtain⟨x1,_,g1,z1,_⟩:=HR2.out.step (j:=k*14+1) (by omega)
   obtain⟨x2,_,g2,z2,_⟩:=HR2.out.step (j:=k*14+2) (by omega)
   obtain⟨x3,_,g3,z3,_⟩:=HR2.out.step (j:=k*14+3) (by omega)
   obtain⟨x4,_,g4,z4,_⟩:=HR2.out.step (j:=k*14+4) (by omega)
   obtain⟨x5,_,g5,z5,_⟩:=HR2.out.step (j:=k*14+5) (by omega)
   obtain⟨x6,_,g6,z6,_⟩:=HR2.out.step (j:=k*14+6) (by omega)
   obtain⟨x7,_,g7,z7,_⟩:=HR2.out.step (j:=k*14+7) (by omega)
   obtain⟨x8,_,g8,z8,_⟩:=HR2.out.step (j:=k*14+8) (by omega)
   obtain⟨x9,_,g9,z9,_⟩:=HR2.out.step (j:=k*14+9) (by omega)
   obtain⟨x10,_,g10,z10,_⟩:=HR2.out.step (j:=k*14+10) (by omega)
   obtain⟨x11,_,g11,z11,_⟩:=HR2.out.step (j:=k*14+11) (by omega)
   obtain⟨x12,_,g12,z12,_⟩:=HR2.out.step (j:=k*14+12) (by omega)
   obtain⟨x13,_,g13,z13,_⟩:=HR2.out.step (j:=k*14+13) (by omega)
   clear hb2 hF
   go_wp2
   go_roundw
   case rel=>
    obtain⟨G,hU,hG,hGG⟩:=ys0 (U:=fun i=> [.int .i64 (knAt l k).m.n,.int .i64 (knAt l k).m.s,.slice ai (knAt l k).m.i.length ci,.slice ah (knAt l k).m.h.length ch,.slice ae (knAt l k).m.e.length ce,.int .i64 (knAt l k).m.z,.slice a6 (knAt l k).d.length c6,.slice a7 (knAt l k).p.length c7,.slice a8 (knAt l k).b.length c8,.int .i64 (knAt l k).t,.int .i64 (knAt l k).q,.bool (knAt l k).f,.slice a12 (knAt l k).s.length c12,.slice a13 (knAt l k).x.length c13].getD i (.int .i64 0)) HF.out
    have q:=OwnD.fillN (G:=G) (U:=fun i=> [.int .i64 (knAt l k).m.n,.int .i64 (knAt l k).m.s,.slice ai (knAt l k).m.i.length ci,.slice ah (knAt l k).m.h.length ch,.slice ae (knAt l k).m.e.length ce,.int .i64 (knAt l k).m.z,.slice a6 (knAt l k).d.length c6,.slice a7 (knAt l k).p.length c7,.slice a8 (knAt l k).b.length c8,.int .i64 (knAt l k).t,.int .i64 (knAt l k).q,.bool (knAt l k).f,.slice a12 (knAt l k).s.length c12,.slice a13 (knAt l k).x.length c13].getD i (.int .i64 0)) HR2.out ⟨Nat.le_refl _,hg⟩ 14 (by omega) (fun i hi=>by
     rw [yd2 l k (r:=i) hi]
     exact hU i hi) (fun i _ b hb hb'=>by have:=hG i b hb;omega) (fun i j _ _ hij b hb hb'=>hGG i j hij b hb hb')
    rw [ytl]at q
    have hT:=yoe w2 w.heap.size (k*14) (.int .i64 (knAt l k).m.n) (.int .i64 (knAt l k).m.s) (.slice ai (knAt l k).m.i.length ci) (.slice ah (knAt l k).m.h.length ch) (.slice ae (knAt l k).m.e.length ce) (.int .i64 (knAt l k).m.z) (.slice a6 (knAt l k).d.length c6) (.slice a7 (knAt l k).p.length c7) (.slice a8 (knAt l k).b.length c8) (.int .i64 (knAt l k).t) (.int .i64 (knAt l k).q) (.bool (knAt l k).f) (.slice a12 (knAt l k).s.length c12) (.slice a13 (knAt l k).x.length c13)
    have hsz:=hT.size
    refine⟨k+1,by omega,by go_num,(HB.out.trans (HB2.out.mono (by omega))).trans (hT.to_below (fun b e=>by omega) (by have:=HB2.out.size;omega)),?_⟩
    rw [show(k+1)*14=k*14+14 from by omega]
    refine q.mono (fun b hb=> ?_)
    have hs2:=HB2.out.size
    rcases hb with hb|⟨i,_,hb⟩
    ·exact⟨hb.1,Nat.lt_of_lt_of_le hb.2 (Nat.le_trans hs2 hsz)⟩
    ·have:=hG i b hb
     exact⟨by omega,Nat.lt_of_lt_of_le this.2 hsz⟩
   case measure=>simp [intOf];omega
  ·clear hB hB1 hR1 h
   go_wp2
   go_ret
   obtain rfl:k=l.length:=by omega
   exact⟨_,rfl,HB.out,HR.out.toAll rfl⟩
theorem infoInts:(Tryz.prog.info? 22).map (fun i=>(i.zero,i.size,i.bytes))=some (some (.slice none 0 0),1,24):=by kernel_rfl
theorem to_vecs (x:Value) (l:List (List Int)) (w:World) (hl:(ycd l).wt≤1048576) (h:IsD w x (ycd l)):
  Calls Tryz.prog 44 #[x] w fun e w'=>∃y,e= .returned y∧Below w.heap.size w w'∧OwnD w' (fun k=>w.heap.size≤k∧k<w'.heap.size) y (ycd l):=by
 obtain⟨a,cap,rfl,h1,h2,h⟩:=IsD.parts (c:=1) (n:=l.length) h
 have HS:=yax hl
 have hl2:l.length≤1048576:=by rw [ydl]at hl;omega
 have hp:(0:Int)≤(l.length:Int):=by omega
 clear hl
 obtain⟨i0,hi,hz0,hz1,hz2⟩:=info_parts infoInts
 go_enter Tryz.func44,Tryz.ntmps44
 go_wp2_with (at_make;refine wpList_make_full _ rfl _ _ 28 rfl w.heap.size 22 i0 _ 1 Tryz.underlying28 hi hz0 hz1 .i64 .i64 l.length l.length l.length rfl rfl rfl rfl (by rw [hz2];omega) (by unfold maxLen;omega) (Nat.le_refl _) ?_;intro w1 hown hgrow)
 have hB1:Hid (Below w.heap.size w w1):=(Below.refl _ _).grown hgrow (Nat.le_refl _) (fun k e=>by cases e)
 obtain⟨zs,hR0⟩:=OwnD.made0 (ycn l) hown
 have hR1:=yax hR0
 clear hown hgrow hi hz0 hz1 hz2 hR0
 go_loopw [4] (fun i wr=>∃k:Nat,k≤l.length∧i= .int .i64 k∧Below w.heap.size w wr∧OwnD wr (fun k=>w.heap.size≤k∧k<wr.heap.size) (sl w.heap.size l.length) (.row 1 l.length (toC (ycn l) zs k))) (fun i _=>l.length-(intOf i).toNat)
 case atStart=>exact⟨0,Nat.zero_le _,rfl,hB1.out,hR1.out⟩
 case round=>
  obtain⟨k,hk,rfl,hB,hR⟩:=hrel
  have HB:=yax hB
  have HR:=yax hR
  clear hR
  by_cases hlt:k<l.length
  ·obtain⟨b,off,rfl,hb,hc⟩:=h.resolve_left (by omega)
   obtain⟨u,hu,hd⟩:=hc k (by omega)
   have f0:=(hB.cell (p:=⟨b,off+k,none⟩) hb).trans hu
   have HD:=yax (hd.under hB)
   have hg:w.heap.size<wr.heap.size:=(HR.out.lt (by omega)).1
   clear hB hB1 hR1 h hc hd hu
   go_wp2_with fail
   clear f0
   refine(ygy _ (vAt l k) _ (Nat.le_trans (ym9 hlt) HS.out) HD.out).mono ?_
   rintro e w2 ⟨y,rfl,hb2,o1⟩
   have HB2:=yax hb2
   have HR2:=yax (HR.out.under hb2)
   obtain⟨a1,c1,rfl,_⟩:=OwnD.parts (c:=1) (n:=(vAt l k).length) o1
   have O1:=yax o1
   obtain⟨x0,_,g0,z0,_⟩:=HR2.out.step (j:=k) (by omega)
   clear hb2 o1
   go_wp2
   go_roundw
   case rel=>
    have q:=OwnD.fillN (G:=fun _ k=>wr.heap.size≤k∧k<w2.heap.size) (U:=fun _=> .slice a1 (vAt l k).length c1) HR2.out ⟨Nat.le_refl _,hg⟩ 1 (by omega) (fun i hi=>by
     obtain rfl:i=0:=by omega
     exact O1.out) (fun i _ b hb hb'=>by omega) (fun i j _ _ hij b hb hb'=>by omega)
    have hT:=ya1 w2 w.heap.size k (.slice a1 (vAt l k).length c1)
    have hsz:=hT.size
    have hs2:=HB2.out.size
    refine⟨k+1,by omega,by go_num,(HB.out.trans (HB2.out.mono (by omega))).trans (hT.to_below (fun b e=>by omega) (by omega)),?_⟩
    refine OwnD.mono q (fun b hb=> ?_)
    rcases hb with hb|⟨i,_,hb⟩
    ·exact⟨hb.1,Nat.lt_of_lt_of_le hb.2 (Nat.le_trans hs2 hsz)⟩
    ·exact⟨by omega,Nat.lt_of_lt_of_le hb.2 hsz⟩
   case measure=>simp [intOf];omega
  ·clear hB hB1 hR1 h
   go_wp2
   go_ret
   obtain rfl:k=l.length:=by omega
   exact⟨_,rfl,HB.out,HR.out.toAll (by omega)⟩
theorem yfc (x:Value) (v:Wd) (w:World) (hs:ycc v) (h:IsW w x v):
  Calls Tryz.prog 11 #[x] w fun e w'=>∃y,e= .returned y∧Below w.heap.size w w'∧WorF (fun j=>w.heap.size≤j∧j<w'.heap.size) w' y v:=by
 obtain⟨vi,vh,vs,uk,uc,rfl,hm,hk,hc⟩:=h
 have HS:Hid (ycc v):=hs
 have HM:=yax hm
 have HK:Hid (IsKs w uk v.k):=hk
 have HC:=yax hc
 clear hs hm hk hc
 obtain⟨V0,hV0⟩:∃V0,((w.alloc (.cells #[.int .i64 v.m.n,.int .i64 v.m.s,vi,vh,vs,.int .i64 v.m.z,uk,uc] 30)).alloc (.cells #[.int .i64 0,.int .i64 0,.slice none 0 0,.slice none 0 0,.slice none 0 0,.int .i64 0,.slice none 0 0,.slice none 0 0] 39)).alloc (.cells #[.int .i64 0,.int .i64 0,.slice none 0 0,.slice none 0 0,.slice none 0 0,.int .i64 0,.slice none 0 0,.slice none 0 0] 39)=V0:=⟨_,rfl⟩
 have HX0:Hid (Below w.heap.size w V0):=by rw [←hV0];exact(((Below.refl _ w).alloc (Nat.le_refl _) _).alloc (by simp) _).alloc (by simp;omega) _
 have hs0:w.heap.size+3≤V0.heap.size:=by rw [←hV0];simp
 have HP0:Hid (Bk V0 w.heap.size 30 #[.int .i64 v.m.n,.int .i64 v.m.s,vi,vh,vs,.int .i64 v.m.z,uk,uc]):=by rw [←hV0];exact((Bk.new w _ _).alloc _).alloc _
 have HR0:Hid (Bk V0 (w.heap.size+1) 39 #[.int .i64 0,.int .i64 0,.slice none 0 0,.slice none 0 0,.slice none 0 0,.int .i64 0,.slice none 0 0,.slice none 0 0]):=by rw [←hV0];exact(Bk.newAt (by simp) _ _).alloc _
 have HQ0:Hid (Bk V0 (w.heap.size+1+1) 39 #[.int .i64 0,.int .i64 0,.slice none 0 0,.slice none 0 0,.slice none 0 0,.int .i64 0,.slice none 0 0,.slice none 0 0]):=by rw [←hV0];exact Bk.newAt (by simp) _ _
 have HW0:=yax hV0
 clear hV0
 go_enter Tryz.func11,Tryz.ntmps11
 obtain⟨p0,p1,p2,p3,p4,p5⟩:=c6_8 HP0.out
 go_wp2_with fail
 rw [HW0.out]
 clear p0 p1 p2 p3 p4 p5
 refine(yj6 _ v.m _ HS.out.1 (HM.out.below HX0.out)).mono ?_
 rintro e w1 ⟨y0,rfl,hb,ho⟩
 obtain⟨ai,ci,ah,ch,ae,ce,rfl⟩:=MdF.form ho
 have hz0:V0.heap.size≤w1.heap.size:=hb.size
 have HXb0:=yax (HX0.out.trans (hb.mono (by omega)))
 have HPb0:=yax (HP0.out.below hb)
 have HRb0:=yax (HR0.out.below hb)
 have HQb0:=yax (HQ0.out.below hb)
 have HM1:Hid (∀X,Turns (fun j=>j=w.heap.size+1∨j=w.heap.size+1+1) w1 X→MdF (fun j=>V0.heap.size≤j∧j<w1.heap.size) X (.agg #[.int .i64 v.m.n,.int .i64 v.m.s,.slice ai v.m.i.length ci,.slice ah v.m.h.length ch,.slice ae v.m.e.length ce,.int .i64 v.m.z]) v.m):=fun X hX=>ho.turns hX (fun j hj e=>by omega)
 clear hb ho
 obtain⟨qq0,qq1,qq2,qq3,qq4,qq5⟩:=c6_8 HQb0.out
 have qf0:=HQb0.out.free
 obtain⟨V1,hV1⟩:∃V1,((((((w1.setCell ⟨(w.heap.size+1+1),0,none⟩ (.int .i64 v.m.n)).setCell ⟨(w.heap.size+1+1),1,none⟩ (.int .i64 v.m.s)).setCell ⟨(w.heap.size+1+1),2,none⟩ (.slice ai v.m.i.length ci)).setCell ⟨(w.heap.size+1+1),3,none⟩ (.slice ah v.m.h.length ch)).setCell ⟨(w.heap.size+1+1),4,none⟩ (.slice ae v.m.e.length ce)).setCell ⟨(w.heap.size+1+1),5,none⟩ (.int .i64 v.m.z))=V1:=⟨_,rfl⟩
 have HQ1:Hid (Bk V1 (w.heap.size+1+1) 39 #[.int .i64 v.m.n,.int .i64 v.m.s,.slice ai v.m.i.length ci,.slice ah v.m.h.length ch,.slice ae v.m.e.length ce,.int .i64 v.m.z,.slice none 0 0,.slice none 0 0]):=by rw [←hV1];exact(((((HQb0.out.put 0 _).put 1 _).put 2 _).put 3 _).put 4 _).put 5 _
 have HP1:Hid (Bk V1 w.heap.size 30 #[.int .i64 v.m.n,.int .i64 v.m.s,vi,vh,vs,.int .i64 v.m.z,uk,uc]):=by rw [←hV1];exact((((((HPb0.out.other 0 _ (by omega)).other 1 _ (by omega)).other 2 _ (by omega)).other 3 _ (by omega)).other 4 _ (by omega)).other 5 _ (by omega))
 have HR1:Hid (Bk V1 (w.heap.size+1) 39 #[.int .i64 0,.int .i64 0,.slice none 0 0,.slice none 0 0,.slice none 0 0,.int .i64 0,.slice none 0 0,.slice none 0 0]):=by rw [←hV1];exact((((((HRb0.out.other 0 _ (by omega)).other 1 _ (by omega)).other 2 _ (by omega)).other 3 _ (by omega)).other 4 _ (by omega)).other 5 _ (by omega))
 have HT1:Hid (Turns (fun j=>j=(w.heap.size+1+1)) w1 V1):=by rw [←hV1];exact(((((ya1 _ _ 0 _).trans (ya1 _ _ 1 _)).trans (ya1 _ _ 2 _)).trans (ya1 _ _ 3 _)).trans (ya1 _ _ 4 _)).trans (ya1 _ _ 5 _)
 have hy1:w1.heap.size≤V1.heap.size:=HT1.out.size
 have HX1:=yax (HXb0.out.trans (HT1.out.to_below (fun j e=>by omega) (by omega)))
 have HM1b:Hid (∀X,Turns (fun j=>j=w.heap.size+1∨j=w.heap.size+1+1) V1 X→MdF (fun j=>V0.heap.size≤j∧j<w1.heap.size) X (.agg #[.int .i64 v.m.n,.int .i64 v.m.s,.slice ai v.m.i.length ci,.slice ah v.m.h.length ch,.slice ae v.m.e.length ce,.int .i64 v.m.z]) v.m):=fun X hX=>HM1.out X ((HT1.out.mono (fun j e=> .inr e)).trans hX)
 clear HM1
 have HM1:=HM1b
 clear HM1b
 clear HP0 HR0 HQ0 HX0 HPb0 HRb0 HQb0 HXb0
 have p6:=HP1.out.cell (i:=6) rfl
 go_wp2_with fail
 clear qq0 qq1 qq2 qq3 qq4 qq5 qf0 hV1 p6
 refine(yqu _ v.k _ HS.out.2.1 (HK.out.under HX1.out)).mono ?_
 rintro e w2 ⟨y1,rfl,hb,ho⟩
 obtain⟨ak,ck,rfl,_⟩:=OwnD.parts (c:=14) (n:=v.k.length) ho
 have hz1:V1.heap.size≤w2.heap.size:=hb.size
 have HXb1:=yax (HX1.out.trans (hb.mono (by omega)))
 have HPb1:=yax (HP1.out.below hb)
 have HRb1:=yax (HR1.out.below hb)
 have HQb1:=yax (HQ1.out.below hb)
 have HM1b:Hid (∀X,Turns (fun j=>j=w.heap.size+1∨j=w.heap.size+1+1) w2 X→MdF (fun j=>V0.heap.size≤j∧j<w1.heap.size) X (.agg #[.int .i64 v.m.n,.int .i64 v.m.s,.slice ai v.m.i.length ci,.slice ah v.m.h.length ch,.slice ae v.m.e.length ce,.int .i64 v.m.z]) v.m):=fun X hX=>HM1.out X ((Turns.of_below hb).trans hX)
 clear HM1
 have HM1:=HM1b
 clear HM1b
 have HK1:Hid (∀X,Turns (fun j=>j=w.heap.size+1∨j=w.heap.size+1+1) w2 X→OwnD X (fun j=>V1.heap.size≤j∧j<w2.heap.size) (.slice ak v.k.length ck) (knsD v.k)):=fun X hX=>ho.turns hX (fun j hj e=>by omega)
 clear hb ho
 have qq6:=HQb1.out.cell (i:=6) rfl
 have qf1:=HQb1.out.free
 obtain⟨V2,hV2⟩:∃V2,(w2.setCell ⟨(w.heap.size+1+1),6,none⟩ (.slice ak v.k.length ck))=V2:=⟨_,rfl⟩
 have HQ2:Hid (Bk V2 (w.heap.size+1+1) 39 #[.int .i64 v.m.n,.int .i64 v.m.s,.slice ai v.m.i.length ci,.slice ah v.m.h.length ch,.slice ae v.m.e.length ce,.int .i64 v.m.z,.slice ak v.k.length ck,.slice none 0 0]):=by rw [←hV2];exact HQb1.out.put 6 _
 have HP2:=yax (ot1 hV2 HPb1.out (by omega))
 have HR2:=yax (ot1 hV2 HRb1.out (by omega))
 have HT2:=yax (tu1 hV2)
 have hy2:w2.heap.size≤V2.heap.size:=HT2.out.size
 have HX2:=yax (HXb1.out.trans (HT2.out.to_below (fun j e=>by omega) (by omega)))
 have HM1b:Hid (∀X,Turns (fun j=>j=w.heap.size+1∨j=w.heap.size+1+1) V2 X→MdF (fun j=>V0.heap.size≤j∧j<w1.heap.size) X (.agg #[.int .i64 v.m.n,.int .i64 v.m.s,.slice ai v.m.i.length ci,.slice ah v.m.h.length ch,.slice ae v.m.e.length ce,.int .i64 v.m.z]) v.m):=fun X hX=>HM1.out X ((HT2.out.mono (fun j e=> .inr e)).trans hX)
 clear HM1
 have HM1:=HM1b
 clear HM1b
 have HK1b:Hid (∀X,Turns (fun j=>j=w.heap.size+1∨j=w.heap.size+1+1) V2 X→OwnD X (fun j=>V1.heap.size≤j∧j<w2.heap.size) (.slice ak v.k.length ck) (knsD v.k)):=fun X hX=>HK1.out X ((HT2.out.mono (fun j e=> .inr e)).trans hX)
 clear HK1
 have HK1:=HK1b
 clear HK1b
 clear HP1 HR1 HQ1 HX1 HPb1 HRb1 HQb1 HXb1
 have p7:=HP2.out.cell (i:=7) rfl
 go_wp2_with fail
 clear qq6 qf1 hV2 p7
 refine(to_vecs _ v.c _ HS.out.2.2 (HC.out.under HX2.out)).mono ?_
 rintro e w3 ⟨y2,rfl,hb,ho⟩
 obtain⟨ac,cc,rfl,_⟩:=OwnD.parts (c:=1) (n:=v.c.length) ho
 have hz2:V2.heap.size≤w3.heap.size:=hb.size
 have HXb2:=yax (HX2.out.trans (hb.mono (by omega)))
 have HPb2:=yax (HP2.out.below hb)
 have HRb2:=yax (HR2.out.below hb)
 have HQb2:=yax (HQ2.out.below hb)
 have HM1b:Hid (∀X,Turns (fun j=>j=w.heap.size+1∨j=w.heap.size+1+1) w3 X→MdF (fun j=>V0.heap.size≤j∧j<w1.heap.size) X (.agg #[.int .i64 v.m.n,.int .i64 v.m.s,.slice ai v.m.i.length ci,.slice ah v.m.h.length ch,.slice ae v.m.e.length ce,.int .i64 v.m.z]) v.m):=fun X hX=>HM1.out X ((Turns.of_below hb).trans hX)
 clear HM1
 have HM1:=HM1b
 clear HM1b
 have HK1b:Hid (∀X,Turns (fun j=>j=w.heap.size+1∨j=w.heap.size+1+1) w3 X→OwnD X (fun j=>V1.heap.size≤j∧j<w2.heap.size) (.slice ak v.k.length ck) (knsD v.k)):=fun X hX=>HK1.out X ((Turns.of_below hb).trans hX)
 clear HK1
 have HK1:=HK1b
 clear HK1b
 have HC1:Hid (∀X,Turns (fun j=>j=w.heap.size+1∨j=w.heap.size+1+1) w3 X→OwnD X (fun j=>V2.heap.size≤j∧j<w3.heap.size) (.slice ac v.c.length cc) (ycd v.c)):=fun X hX=>ho.turns hX (fun j hj e=>by omega)
 clear hb ho
 have qq7:=HQb2.out.cell (i:=7) rfl
 have qf2:=HQb2.out.free
 obtain⟨V3,hV3⟩:∃V3,(w3.setCell ⟨(w.heap.size+1+1),7,none⟩ (.slice ac v.c.length cc))=V3:=⟨_,rfl⟩
 have HQ3:Hid (Bk V3 (w.heap.size+1+1) 39 #[.int .i64 v.m.n,.int .i64 v.m.s,.slice ai v.m.i.length ci,.slice ah v.m.h.length ch,.slice ae v.m.e.length ce,.int .i64 v.m.z,.slice ak v.k.length ck,.slice ac v.c.length cc]):=by rw [←hV3];exact HQb2.out.put 7 _
 have HP3:=yax (ot1 hV3 HPb2.out (by omega))
 have HR3:=yax (ot1 hV3 HRb2.out (by omega))
 have HT3:=yax (tu1 hV3)
 have hy3:w3.heap.size≤V3.heap.size:=HT3.out.size
 have HX3:=yax (HXb2.out.trans (HT3.out.to_below (fun j e=>by omega) (by omega)))
 have HM1b:Hid (∀X,Turns (fun j=>j=w.heap.size+1∨j=w.heap.size+1+1) V3 X→MdF (fun j=>V0.heap.size≤j∧j<w1.heap.size) X (.agg #[.int .i64 v.m.n,.int .i64 v.m.s,.slice ai v.m.i.length ci,.slice ah v.m.h.length ch,.slice ae v.m.e.length ce,.int .i64 v.m.z]) v.m):=fun X hX=>HM1.out X ((HT3.out.mono (fun j e=> .inr e)).trans hX)
 clear HM1
 have HM1:=HM1b
 clear HM1b
 have HK1b:Hid (∀X,Turns (fun j=>j=w.heap.size+1∨j=w.heap.size+1+1) V3 X→OwnD X (fun j=>V1.heap.size≤j∧j<w2.heap.size) (.slice ak v.k.length ck) (knsD v.k)):=fun X hX=>HK1.out X ((HT3.out.mono (fun j e=> .inr e)).trans hX)
 clear HK1
 have HK1:=HK1b
 clear HK1b
 have HC1b:Hid (∀X,Turns (fun j=>j=w.heap.size+1∨j=w.heap.size+1+1) V3 X→OwnD X (fun j=>V2.heap.size≤j∧j<w3.heap.size) (.slice ac v.c.length cc) (ycd v.c)):=fun X hX=>HC1.out X ((HT3.out.mono (fun j e=> .inr e)).trans hX)
 clear HC1
 have HC1:=HC1b
 clear HC1b
 clear HP2 HR2 HQ2 HX2 HPb2 HRb2 HQb2 HXb2
 have oo0:=HQ3.out.cell (i:=0) rfl
 have rr0:=HR3.out.cell (i:=0) rfl
 have oo1:=HQ3.out.cell (i:=1) rfl
 have rr1:=HR3.out.cell (i:=1) rfl
 have oo2:=HQ3.out.cell (i:=2) rfl
 have rr2:=HR3.out.cell (i:=2) rfl
 have oo3:=HQ3.out.cell (i:=3) rfl
 have rr3:=HR3.out.cell (i:=3) rfl
 have oo4:=HQ3.out.cell (i:=4) rfl
 have rr4:=HR3.out.cell (i:=4) rfl
 have oo5:=HQ3.out.cell (i:=5) rfl
 have rr5:=HR3.out.cell (i:=5) rfl
 have oo6:=HQ3.out.cell (i:=6) rfl
 have rr6:=HR3.out.cell (i:=6) rfl
 have oo7:=HQ3.out.cell (i:=7) rfl
 have rr7:=HR3.out.cell (i:=7) rfl
 have rf:=HR3.out.free
 go_wp2
 clear rf oo0 rr0 oo1 rr1 oo2 rr2 oo3 rr3 oo4 rr4 oo5 rr5 oo6 rr6 oo7 rr7 qq7 qf2 hV3
 have HY0:=HR3.out
 have HU0:Turns (fun j=>j=(w.heap.size+1)) V3 V3:=Turns.refl _ _
 obtain⟨Y1,hY1⟩:∃Y1,V3.setCell ⟨(w.heap.size+1),0,none⟩ (.int .i64 v.m.n)=Y1:=⟨_,rfl⟩
 have HY1:Bk Y1 (w.heap.size+1) 39 #[.int .i64 v.m.n,.int .i64 0,.slice none 0 0,.slice none 0 0,.slice none 0 0,.int .i64 0,.slice none 0 0,.slice none 0 0]:=hY1▸HY0.put 0 _
 have HU1:Turns (fun j=>j=(w.heap.size+1)) V3 Y1:=HU0.trans (hY1▸ya1 _ _ 0 _)
 clear HY0 HU0
 obtain⟨Y2,hY2⟩:∃Y2,Y1.setCell ⟨(w.heap.size+1),1,none⟩ (.int .i64 v.m.s)=Y2:=⟨_,rfl⟩
 have HY2:Bk Y2 (w.heap.size+1) 39 #[.int .i64 v.m.n,.int .i64 v.m.s,.slice none 0 0,.slice none 0 0,.slice none 0 0,.int .i64 0,.slice none 0 0,.slice none 0 0]:=hY2▸HY1.put 1 _
 have HU2:Turns (fun j=>j=(w.heap.size+1)) V3 Y2:=HU1.trans (hY2▸ya1 _ _ 1 _)
 clear HY1 HU1
 obtain⟨Y3,hY3⟩:∃Y3,Y2.setCell ⟨(w.heap.size+1),2,none⟩ (.slice ai v.m.i.length ci)=Y3:=⟨_,rfl⟩
 have HY3:Bk Y3 (w.heap.size+1) 39 #[.int .i64 v.m.n,.int .i64 v.m.s,.slice ai v.m.i.length ci,.slice none 0 0,.slice none 0 0,.int .i64 0,.slice none 0 0,.slice none 0 0]:=hY3▸HY2.put 2 _
 have HU3:Turns (fun j=>j=(w.heap.size+1)) V3 Y3:=HU2.trans (hY3▸ya1 _ _ 2 _)
 clear HY2 HU2
 obtain⟨Y4,hY4⟩:∃Y4,Y3.setCell ⟨(w.heap.size+1),3,none⟩ (.slice ah v.m.h.length ch)=Y4:=⟨_,rfl⟩
 have HY4:Bk Y4 (w.heap.size+1) 39 #[.int .i64 v.m.n,.int .i64 v.m.s,.slice ai v.m.i.length ci,.slice ah v.m.h.length ch,.slice none 0 0,.int .i64 0,.slice none 0 0,.slice none 0 0]:=hY4▸HY3.put 3 _
 have HU4:Turns (fun j=>j=(w.heap.size+1)) V3 Y4:=HU3.trans (hY4▸ya1 _ _ 3 _)
 clear HY3 HU3
 obtain⟨Y5,hY5⟩:∃Y5,Y4.setCell ⟨(w.heap.size+1),4,none⟩ (.slice ae v.m.e.length ce)=Y5:=⟨_,rfl⟩
 have HY5:Bk Y5 (w.heap.size+1) 39 #[.int .i64 v.m.n,.int .i64 v.m.s,.slice ai v.m.i.length ci,.slice ah v.m.h.length ch,.slice ae v.m.e.length ce,.int .i64 0,.slice none 0 0,.slice none 0 0]:=hY5▸HY4.put 4 _
 have HU5:Turns (fun j=>j=(w.heap.size+1)) V3 Y5:=HU4.trans (hY5▸ya1 _ _ 4 _)
 clear HY4 HU4
 obtain⟨Y6,hY6⟩:∃Y6,Y5.setCell ⟨(w.heap.size+1),5,none⟩ (.int .i64 v.m.z)=Y6:=⟨_,rfl⟩
 have HY6:Bk Y6 (w.heap.size+1) 39 #[.int .i64 v.m.n,.int .i64 v.m.s,.slice ai v.m.i.length ci,.slice ah v.m.h.length ch,.slice ae v.m.e.length ce,.int .i64 v.m.z,.slice none 0 0,.slice none 0 0]:=hY6▸HY5.put 5 _
 have HU6:Turns (fun j=>j=(w.heap.size+1)) V3 Y6:=HU5.trans (hY6▸ya1 _ _ 5 _)
 clear HY5 HU5
 obtain⟨Y7,hY7⟩:∃Y7,Y6.setCell ⟨(w.heap.size+1),6,none⟩ (.slice ak v.k.length ck)=Y7:=⟨_,rfl⟩
 have HY7:Bk Y7 (w.heap.size+1) 39 #[.int .i64 v.m.n,.int .i64 v.m.s,.slice ai v.m.i.length ci,.slice ah v.m.h.length ch,.slice ae v.m.e.length ce,.int .i64 v.m.z,.slice ak v.k.length ck,.slice none 0 0]:=hY7▸HY6.put 6 _
 have HU7:Turns (fun j=>j=(w.heap.size+1)) V3 Y7:=HU6.trans (hY7▸ya1 _ _ 6 _)
 clear HY6 HU6
 obtain⟨Y8,hY8⟩:∃Y8,Y7.setCell ⟨(w.heap.size+1),7,none⟩ (.slice ac v.c.length cc)=Y8:=⟨_,rfl⟩
 have HY8:Bk Y8 (w.heap.size+1) 39 #[.int .i64 v.m.n,.int .i64 v.m.s,.slice ai v.m.i.length ci,.slice ah v.m.h.length ch,.slice ae v.m.e.length ce,.int .i64 v.m.z,.slice ak v.k.length ck,.slice ac v.c.length cc]:=hY8▸HY7.put 7 _
 have HU8:Turns (fun j=>j=(w.heap.size+1)) V3 Y8:=HU7.trans (hY8▸ya1 _ _ 7 _)
 clear HY7 HU7
 rw [hY1,hY2,hY3,hY4,hY5,hY6,hY7,hY8]
 have hR:=HY8
 have hT:=HU8
 obtain⟨t0,t1,t2,t3,t4,t5,t6,t7⟩:=c8_8 hR
 have hT2:=hT.mono (fun j (e:j=(w.heap.size+1))=>(.inl e:j=w.heap.size+1∨j=w.heap.size+1+1))
 refine bodyPost_ret (v:= .agg #[.int .i64 v.m.n,.int .i64 v.m.s,.slice ai v.m.i.length ci,.slice ah v.m.h.length ch,.slice ae v.m.e.length ce,.int .i64 v.m.z,.slice ak v.k.length ck,.slice ac v.c.length cc]) (by simp [results,Tryz.results11,go_sem,t0,t1,t2,t3,t4,t5,t6,t7]) rfl ⟨_,rfl,HX3.out.trans (hT.to_below (fun j e=>by omega) (by omega)),_,_,_,_,_,_,_,_,rfl,HM1.out _ hT2,HK1.out _ hT2,HC1.out _ hT2,fun j hj=>by have:=hT.size;omega,fun j hj=>by have:=hT.size;omega,fun j hj=>by have:=hT.size;omega⟩
end Go.Proofs.YtmobiieoecjmdaaGreat

namespace Go.Proofs.YtmobiieoecjmdaaGreat
open Go.RowKit
theorem yjt {p:Prop} (h:p):Hid p:=h
set_option maxHeartbeats 8000000 in
theorem eq_parts (x y:Value) (l:List Pa) (w:World) (hl:(yb8 l).wt≤1048576) (hx:IsD w x (yb8 l)) (hy:IsD w y (yb8 l)):
  Calls Tryz.prog 66 #[x,y] w fun e w'=>e= .returned (.bool true)∧Below w.heap.size w w':=by
 obtain⟨a,cap,rfl,h1,h2,h⟩:=IsD.parts (c:=7) (n:=l.length) hx
 obtain⟨a',cap',rfl,h1',h2',h'⟩:=IsD.parts (c:=7) (n:=l.length) hy
 have HS:=yjt hl
 have hl2:l.length≤1048576:=by rw [yed]at hl;omega
 clear h1 h2 h1' h2' hx hy hl
 go_enter Tryz.func66,Tryz.ntmps66
 go_wp2
 go_loopw [5] (fun i wr=>∃k:Nat,k≤l.length∧i= .int .i64 k∧Below w.heap.size w wr) (fun i _=>l.length-(intOf i).toNat)
 case atStart=>exact⟨0,Nat.zero_le _,rfl,Below.refl _ _⟩
 case round=>
  obtain⟨k,hk,rfl,hB⟩:=hrel
  have HB:=yjt hB
  by_cases hlt:k<l.length
  ·obtain⟨b,off,rfl,hb,hc⟩:=h.resolve_left (by omega)
   obtain⟨b',off',rfl,hb',hc'⟩:=h'.resolve_left (by omega)
   obtain⟨u1,u4,u5,u6,f0,f1,f2,f3,f4,f5,f6,d1,d4,d5,d6⟩:=yg0 (fun j hj=>by
    obtain⟨u,hu,hd⟩:=hc j hj
    exact⟨u,(hB.cell (p:=⟨b,off+j,none⟩) hb).trans hu,hd.under hB⟩) hlt
   obtain⟨v1,v4,v5,v6,e0,e1,e2,e3,e4,e5,e6,g1,g4,g5,g6⟩:=yg0 (fun j hj=>by
    obtain⟨u,hu,hd⟩:=hc' j hj
    exact⟨u,(hB.cell (p:=⟨b',off'+j,none⟩) hb').trans hu,hd.under hB⟩) hlt
   have HD:=yjt (IsPart.under (w:=wr) ⟨u1,u4,u5,u6,rfl,d1,d4,d5,d6⟩ (Below.refl _ wr).drew)
   have HG:=yjt (IsPart.under (w:=wr) ⟨v1,v4,v5,v6,rfl,g1,g4,g5,g6⟩ (Below.refl _ wr).drew)
   have HW:=yjt (Nat.le_trans (Pa.wt_le hlt) HS.out)
   have hbr:b<wr.heap.size:=Nat.lt_of_lt_of_le hb hB.size
   have hbr':b'<wr.heap.size:=Nat.lt_of_lt_of_le hb' hB.size
   clear hB hc hc' h h' d1 d4 d5 d6 g1 g4 g5 g6
   go_wp2_with fail
   go_region_held3 (fun W=>W.cell? ⟨b,off+k*7,none⟩=some (.int .i64 (paAt l k).n)∧W.cell? ⟨b,off+k*7+1,none⟩=some (u1)∧W.cell? ⟨b,off+k*7+2,none⟩=some (.int .i64 (paAt l k).st.q)∧W.cell? ⟨b,off+k*7+3,none⟩=some (.int .i64 (paAt l k).st.d)∧W.cell? ⟨b,off+k*7+4,none⟩=some (u4)∧W.cell? ⟨b,off+k*7+5,none⟩=some (u5)∧W.cell? ⟨b,off+k*7+6,none⟩=some (u6)∧W.cell? ⟨b',off'+k*7,none⟩=some (.int .i64 (paAt l k).n)∧W.cell? ⟨b',off'+k*7+1,none⟩=some (v1)∧W.cell? ⟨b',off'+k*7+2,none⟩=some (.int .i64 (paAt l k).st.q)∧W.cell? ⟨b',off'+k*7+3,none⟩=some (.int .i64 (paAt l k).st.d)∧W.cell? ⟨b',off'+k*7+4,none⟩=some (v4)∧W.cell? ⟨b',off'+k*7+5,none⟩=some (v5)∧W.cell? ⟨b',off'+k*7+6,none⟩=some (v6)) ((repeat' apply And.intro)<;>first|(go_keep;done)|(rw [hcA _ _ (by first|omega|(simp;omega)|simp [*])];simp [*];done))
    (first|(go_at_call 124;refine(yp1 _ _ (paAt l k) _ HW.out HD.out HG.out).mono ?_;rintro e w2 ⟨rfl,hb2⟩;obtain⟨hcA,hfA⟩:=ygs hb2))
   clear hcA hfA
   go_wp2
   go_roundw
   case rel=>exact⟨k+1,by omega,by go_num,HB.out.drew.trans (hb2.mono (by have:=HB.out.size;simpa using this))⟩
   case measure=>simp [intOf];omega
  ·clear hB h h'
   go_wp2
   go_ret
   exact⟨rfl,HB.out⟩
theorem yf5 {p:Prop} (h:p):Hid p:=h
set_option maxRecDepth 100000 in
set_option maxHeartbeats 4000000 in
theorem ylv (x y:Value) (k:Kn) (w:World) (hs:ybt k) (hx:IsKern w x k) (hy:IsKern w y k):
  Calls Tryz.prog 22 #[x,y] w fun e w'=>e= .returned (.bool true)∧Below w.heap.size w w':=by
 obtain⟨vi,vh,vs,u6,u7,u8,u12,u13,rfl,hm,h6,h7,h8,h12,h13⟩:=hx
 obtain⟨xvi,xvh,xvs,v6,v7,v8,v12,v13,rfl,jm,j6,j7,j8,j12,j13⟩:=hy
 have HS:Hid (ybt k):=hs
 have HM:Hid (IsM w (.agg #[.int .i64 k.m.n,.int .i64 k.m.s,vi,vh,vs,.int .i64 k.m.z]) k.m∧IsM w (.agg #[.int .i64 k.m.n,.int .i64 k.m.s,xvi,xvh,xvs,.int .i64 k.m.z]) k.m):=⟨hm,jm⟩
 have H6:Hid (IsD w u6 (yaq k.d)∧IsD w v6 (yaq k.d)):=⟨h6,j6⟩
 have H7:Hid (IsD w u7 (yb8 k.p)∧IsD w v7 (yb8 k.p)):=⟨h7,j7⟩
 have H8:Hid (IsD w u8 (ybh k.b)∧IsD w v8 (ybh k.b)):=⟨h8,j8⟩
 have H12:Hid (IsD w u12 (evsD k.s)∧IsD w v12 (evsD k.s)):=⟨h12,j12⟩
 have H13:Hid (IsD w u13 (emsD k.x)∧IsD w v13 (emsD k.x)):=⟨h13,j13⟩
 clear hs hm jm h6 j6 h7 j7 h8 j8 h12 j12 h13 j13
 obtain⟨W0,hW0⟩:∃W0,(w.alloc (.cells #[.int .i64 k.m.n,.int .i64 k.m.s,vi,vh,vs,.int .i64 k.m.z,u6,u7,u8,.int .i64 k.t,.int .i64 k.q,.bool k.f,u12,u13] 57)).alloc (.cells #[.int .i64 k.m.n,.int .i64 k.m.s,xvi,xvh,xvs,.int .i64 k.m.z,v6,v7,v8,.int .i64 k.t,.int .i64 k.q,.bool k.f,v12,v13] 57)=W0:=⟨_,rfl⟩
 have HB0:=hdq (beA2 hW0)
 have HP0:=hdq (bkA2 hW0)
 have HQ0:=hdq (bkB2 hW0)
 have HW:=yf5 hW0
 clear hW0
 go_enter Tryz.func22,Tryz.ntmps22
 have p0:=HP0.out.cell (i:=0) rfl
 have q0:=HQ0.out.cell (i:=0) rfl
 have p1:=HP0.out.cell (i:=1) rfl
 have q1:=HQ0.out.cell (i:=1) rfl
 have p2:=HP0.out.cell (i:=2) rfl
 have q2:=HQ0.out.cell (i:=2) rfl
 have p3:=HP0.out.cell (i:=3) rfl
 have q3:=HQ0.out.cell (i:=3) rfl
 have p4:=HP0.out.cell (i:=4) rfl
 have q4:=HQ0.out.cell (i:=4) rfl
 have p5:=HP0.out.cell (i:=5) rfl
 have q5:=HQ0.out.cell (i:=5) rfl
 go_wp2_with fail
 rw [HW.out]
 clear HW
 clear p0 q0 p1 q1 p2 q2 p3 q3 p4 q4 p5 q5
 refine(yin _ _ k.m _ HS.out.1 (HM.out.1.below HB0.out) (HM.out.2.below HB0.out)).mono ?_
 rintro e w1 ⟨rfl,hb⟩
 have HB1:=trh HB0 hb
 have HP1:=yf5 (HP0.out.below hb)
 have HQ1:=yf5 (HQ0.out.below hb)
 clear hb
 have p6:=HP1.out.cell (i:=6) rfl
 have q6:=HQ1.out.cell (i:=6) rfl
 go_wp2_with fail
 clear p6 q6
 refine(ylt _ _ k.d _ (by have:=HS.out.2;unfold Kn.wt at this;simp only [yal,yb2,ycm,yci]at this;omega) (H6.out.1.under HB1.out) (H6.out.2.under HB1.out)).mono ?_
 rintro e w2 ⟨rfl,hb⟩
 have HB2:=trh HB1 hb
 have HP2:=yf5 (HP1.out.below hb)
 have HQ2:=yf5 (HQ1.out.below hb)
 clear hb
 have p7:=HP2.out.cell (i:=7) rfl
 have q7:=HQ2.out.cell (i:=7) rfl
 go_wp2_with fail
 clear p7 q7
 refine(eq_parts _ _ k.p _ (by have:=HS.out.2;unfold Kn.wt at this;simp only [yal,yb2,ycm,yci]at this;omega) (H7.out.1.under HB2.out) (H7.out.2.under HB2.out)).mono ?_
 rintro e w3 ⟨rfl,hb⟩
 have HB3:=trh HB2 hb
 have HP3:=yf5 (HP2.out.below hb)
 have HQ3:=yf5 (HQ2.out.below hb)
 clear hb
 have p8:=HP3.out.cell (i:=8) rfl
 have q8:=HQ3.out.cell (i:=8) rfl
 go_wp2_with fail
 clear p8 q8
 refine(eq_mails _ _ k.b _ (by have:=HS.out.2;unfold Kn.wt at this;simp only [yal,yb2,ycm,yci]at this;omega) (H8.out.1.under HB3.out) (H8.out.2.under HB3.out)).mono ?_
 rintro e w4 ⟨rfl,hb⟩
 have HB4:=trh HB3 hb
 have HP4:=yf5 (HP3.out.below hb)
 have HQ4:=yf5 (HQ3.out.below hb)
 clear hb
 have p12:=HP4.out.cell (i:=12) rfl
 have q12:=HQ4.out.cell (i:=12) rfl
 have p9:=HP4.out.cell (i:=9) rfl
 have q9:=HQ4.out.cell (i:=9) rfl
 have p10:=HP4.out.cell (i:=10) rfl
 have q10:=HQ4.out.cell (i:=10) rfl
 have p11:=HP4.out.cell (i:=11) rfl
 have q11:=HQ4.out.cell (i:=11) rfl
 have hff:(k.f !=k.f)=false:=by cases k.f<;>rfl
 go_wp2_with fail
 clear p12 q12 p9 q9 p10 q10 p11 q11
 refine(yv5 _ _ k.s _ (by have:=HS.out.2;unfold Kn.wt at this;simp only [yal,yb2,ycm,yci]at this;omega) (H12.out.1.under HB4.out) (H12.out.2.under HB4.out)).mono ?_
 rintro e w5 ⟨rfl,hb⟩
 have HB5:=trh HB4 hb
 have HP5:=yf5 (HP4.out.below hb)
 have HQ5:=yf5 (HQ4.out.below hb)
 clear hb
 have p13:=HP5.out.cell (i:=13) rfl
 have q13:=HQ5.out.cell (i:=13) rfl
 go_wp2_with fail
 clear p13 q13
 refine(eq_ems _ _ k.x _ (by have:=HS.out.2;unfold Kn.wt at this;simp only [yal,yb2,ycm,yci]at this;omega) (H13.out.1.under HB5.out) (H13.out.2.under HB5.out)).mono ?_
 rintro e w6 ⟨rfl,hb⟩
 have HB6:=trh HB5 hb
 have HP6:=yf5 (HP5.out.below hb)
 have HQ6:=yf5 (HQ5.out.below hb)
 clear hb
 go_wp2
 go_ret
 exact⟨rfl,HB6.out⟩
end Go.Proofs.YtmobiieoecjmdaaGreat

