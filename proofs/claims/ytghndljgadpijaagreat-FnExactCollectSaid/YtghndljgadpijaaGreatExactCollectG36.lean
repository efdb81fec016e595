/- KKt, ColR, KMb, KGq -/
import Derived.Test.YtghndljgadpijaaGreatExactCollectG01
import Derived.Test.YtghndljgadpijaaGreatExactCollectG19
import Derived.Test.YtghndljgadpijaaGreatExactCollectG35
import Derived.Test.YtghndljgadpijaaGreatExactCollectG21
import Derived.Test.YtghndljgadpijaaGreatExactCollectG25
import Derived.Test.YtghndljgadpijaaGreatExactCollectG06
import Derived.Test.YtghndljgadpijaaGreatExactCollectG03
import Derived.Test.YtghndljgadpijaaGreatExactCollectG05
import Derived.Test.YtghndljgadpijaaGreatExactCollectG11
import Derived.Test.YtghndljgadpijaaGreatExactCollectG17
/- A kernel: a copy of its own. -/
namespace Go.Proofs.YtghndljgadpijaaGreat
open Go.RowKit
theorem yvj {p:Prop} (h:p):Hid p:=h
def KernF (F:Nat→Prop) (w:World) (y:Value) (k:Kn):Prop:=∃(A0 A6 A7 A8 A12 A13:Nat→Prop) (vi vh vs u6 u7 u8 u12 u13:Value),y= .agg #[.int .i64 k.m.n,.int .i64 k.m.s,vi,vh,vs,.int .i64 k.m.z,u6,u7,u8,.int .i64 k.t,.int .i64 k.q,.bool k.f,u12,u13]∧MdF A0 w (.agg #[.int .i64 k.m.n,.int .i64 k.m.s,vi,vh,vs,.int .i64 k.m.z]) k.m∧OwnD w A6 u6 (ywr k.d)∧OwnD w A7 u7 (ywi k.p)∧OwnD w A8 u8 (yww k.b)∧OwnD w A12 u12 (evsD k.s)∧OwnD w A13 u13 (emsD k.x)∧(∀j,A0 j→F j∧ ¬A6 j∧ ¬A7 j∧ ¬A8 j∧ ¬A12 j∧ ¬A13 j)∧(∀j,A6 j→F j∧ ¬A7 j∧ ¬A8 j∧ ¬A12 j∧ ¬A13 j)∧(∀j,A7 j→F j∧ ¬A8 j∧ ¬A12 j∧ ¬A13 j)∧(∀j,A8 j→F j∧ ¬A12 j∧ ¬A13 j)∧(∀j,A12 j→F j∧ ¬A13 j)∧(∀j,A13 j→F j)
theorem KernF.is {F:Nat→Prop} {w:World} {y:Value} {k:Kn} (h:KernF F w y k):IsKern w y k:=by
  obtain⟨_,_,_,_,_,_,vi,vh,vs,u6,u7,u8,u12,u13,rfl,hm,h6,h7,h8,h12,h13,_⟩:=h
  exact⟨vi,vh,vs,u6,u7,u8,u12,u13,rfl,hm.isM,h6.isD,h7.isD,h8.isD,h12.isD,h13.isD⟩
theorem KernF.turns {F S:Nat→Prop} {w w':World} {y:Value} {k:Kn} (h:KernF F w y k) (ht:Turns S w w') (hS:∀j,F j→ ¬S j):KernF F w' y k:=by
  obtain⟨A0,A6,A7,A8,A12,A13,vi,vh,vs,u6,u7,u8,u12,u13,rfl,hm,h6,h7,h8,h12,h13,d0,d6,d7,d8,d12,d13⟩:=h
  exact⟨A0,A6,A7,A8,A12,A13,vi,vh,vs,u6,u7,u8,u12,u13,rfl,hm.turns ht (fun j hj=>hS j (d0 j hj).1),h6.turns ht (fun j hj=>hS j (d6 j hj).1),h7.turns ht (fun j hj=>hS j (d7 j hj).1),h8.turns ht (fun j hj=>hS j (d8 j hj).1),h12.turns ht (fun j hj=>hS j (d12 j hj).1),h13.turns ht (fun j hj=>hS j (d13 j hj)),d0,d6,d7,d8,d12,d13⟩
set_option maxRecDepth 100000 in
set_option maxHeartbeats 8000000 in
theorem zah (x:Value) (k:Kn) (w:World) (hs:ywy k) (h:IsKern w x k):
    Calls Tryz.prog 11 #[x] w fun e w'=>∃y,e= .returned y∧Below w.heap.size w w'∧KernF (fun j=>w.heap.size≤j∧j<w'.heap.size) w' y k:=by
  obtain⟨vi,vh,vs,u6,u7,u8,u12,u13,rfl,hm,h6,h7,h8,h12,h13⟩:=h
  have HS:Hid (ywy k):=hs
  have HM:=yvj hm
  have H6:=yvj h6
  have H7:=yvj h7
  have H8:=yvj h8
  have H12:=yvj h12
  have H13:=yvj h13
  clear hs hm h6 h7 h8 h12 h13
  obtain⟨V0,hV0⟩:∃V0,((w.alloc (.cells #[.int .i64 k.m.n,.int .i64 k.m.s,vi,vh,vs,.int .i64 k.m.z,u6,u7,u8,.int .i64 k.t,.int .i64 k.q,.bool k.f,u12,u13] 31)).alloc (.cells #[.int .i64 0,.int .i64 0,.slice none 0 0,.slice none 0 0,.slice none 0 0,.int .i64 0,.slice none 0 0,.slice none 0 0,.slice none 0 0,.int .i64 0,.int .i64 0,.bool false,.slice none 0 0,.slice none 0 0] 41)).alloc (.cells #[.int .i64 0,.int .i64 0,.slice none 0 0,.slice none 0 0,.slice none 0 0,.int .i64 0,.slice none 0 0,.slice none 0 0,.slice none 0 0,.int .i64 0,.int .i64 0,.bool false,.slice none 0 0,.slice none 0 0] 41)=V0:=⟨_,rfl⟩
  have HX0:Hid (Below w.heap.size w V0):=by rw [←hV0];exact(((Below.refl _ w).alloc (Nat.le_refl _) _).alloc (by simp) _).alloc (by simp;omega) _
  have hs0:w.heap.size+3≤V0.heap.size:=by rw [←hV0];simp
  have HP0:Hid (Bk V0 w.heap.size 31 #[.int .i64 k.m.n,.int .i64 k.m.s,vi,vh,vs,.int .i64 k.m.z,u6,u7,u8,.int .i64 k.t,.int .i64 k.q,.bool k.f,u12,u13]):=by rw [←hV0];exact((Bk.new w _ _).alloc _).alloc _
  have HR0:Hid (Bk V0 (w.heap.size+1) 41 #[.int .i64 0,.int .i64 0,.slice none 0 0,.slice none 0 0,.slice none 0 0,.int .i64 0,.slice none 0 0,.slice none 0 0,.slice none 0 0,.int .i64 0,.int .i64 0,.bool false,.slice none 0 0,.slice none 0 0]):=by rw [←hV0];exact(Bk.newAt (by simp) _ _).alloc _
  have HQ0:Hid (Bk V0 (w.heap.size+1+1) 41 #[.int .i64 0,.int .i64 0,.slice none 0 0,.slice none 0 0,.slice none 0 0,.int .i64 0,.slice none 0 0,.slice none 0 0,.slice none 0 0,.int .i64 0,.int .i64 0,.bool false,.slice none 0 0,.slice none 0 0]):=by rw [←hV0];exact Bk.newAt (by simp) _ _
  have HW0:=yvj hV0
  clear hV0
  go_enter Tryz.func11,Tryz.ntmps11
  obtain⟨p0,p1,p2,p3,p4,p5⟩:=zgw HP0.out
  go_wp2_with fail
  rw [HW0.out]
  clear p0 p1 p2 p3 p4 p5
  refine(zim _ k.m _ HS.out.1 (HM.out.below HX0.out)).mono ?_
  rintro e w1 ⟨y0,rfl,hb,ho0⟩
  obtain⟨ai,ci,ah,ch,ae,ce,rfl⟩:=MdF.form ho0
  have HO0:=yvj ho0
  clear ho0
  have hz0:V0.heap.size≤w1.heap.size:=hb.size
  have HXb0:=yvj (HX0.out.trans (hb.mono (by omega)))
  have HPb0:=yvj (HP0.out.below hb)
  have HRb0:=yvj (HR0.out.below hb)
  have HQb0:=yvj (HQ0.out.below hb)
  clear hb
  obtain⟨qq0,qq1,qq2,qq3,qq4,qq5⟩:=zgw HQb0.out
  have qf0:=HQb0.out.free
  obtain⟨V1,hV1⟩:∃V1,((((((w1.setCell ⟨(w.heap.size+1+1),0,none⟩ (.int .i64 k.m.n)).setCell ⟨(w.heap.size+1+1),1,none⟩ (.int .i64 k.m.s)).setCell ⟨(w.heap.size+1+1),2,none⟩ (.slice ai k.m.i.length ci)).setCell ⟨(w.heap.size+1+1),3,none⟩ (.slice ah k.m.h.length ch)).setCell ⟨(w.heap.size+1+1),4,none⟩ (.slice ae k.m.e.length ce)).setCell ⟨(w.heap.size+1+1),5,none⟩ (.int .i64 k.m.z))=V1:=⟨_,rfl⟩
  have HQ1:Hid (Bk V1 (w.heap.size+1+1) 41 #[.int .i64 k.m.n,.int .i64 k.m.s,.slice ai k.m.i.length ci,.slice ah k.m.h.length ch,.slice ae k.m.e.length ce,.int .i64 k.m.z,.slice none 0 0,.slice none 0 0,.slice none 0 0,.int .i64 0,.int .i64 0,.bool false,.slice none 0 0,.slice none 0 0]):=by rw [←hV1];exact(((((HQb0.out.put 0 _).put 1 _).put 2 _).put 3 _).put 4 _).put 5 _
  have HP1:Hid (Bk V1 w.heap.size 31 #[.int .i64 k.m.n,.int .i64 k.m.s,vi,vh,vs,.int .i64 k.m.z,u6,u7,u8,.int .i64 k.t,.int .i64 k.q,.bool k.f,u12,u13]):=by rw [←hV1];exact((((((HPb0.out.other 0 _ (by omega)).other 1 _ (by omega)).other 2 _ (by omega)).other 3 _ (by omega)).other 4 _ (by omega)).other 5 _ (by omega))
  have HR1:Hid (Bk V1 (w.heap.size+1) 41 #[.int .i64 0,.int .i64 0,.slice none 0 0,.slice none 0 0,.slice none 0 0,.int .i64 0,.slice none 0 0,.slice none 0 0,.slice none 0 0,.int .i64 0,.int .i64 0,.bool false,.slice none 0 0,.slice none 0 0]):=by rw [←hV1];exact((((((HRb0.out.other 0 _ (by omega)).other 1 _ (by omega)).other 2 _ (by omega)).other 3 _ (by omega)).other 4 _ (by omega)).other 5 _ (by omega))
  have HT1:Hid (Turns (fun j=>j=(w.heap.size+1+1)) w1 V1):=by rw [←hV1];exact(((((yag _ _ 0 _).trans (yag _ _ 1 _)).trans (yag _ _ 2 _)).trans (yag _ _ 3 _)).trans (yag _ _ 4 _)).trans (yag _ _ 5 _)
  have hy1:w1.heap.size≤V1.heap.size:=HT1.out.size
  have HX1:=yvj (HXb0.out.trans (HT1.out.to_below (fun j e=>by omega) (by omega)))
  replace HO0:=yvj (HO0.out.turns HT1.out (fun j e=>by omega))
  clear HP0 HR0 HQ0 HX0 HPb0 HRb0 HQb0 HXb0
  have p6:=HP1.out.cell (i:=6) rfl
  go_wp2_with fail
  clear qq0 qq1 qq2 qq3 qq4 qq5 qf0 hV1 p6
  refine(zn5 _ k.d _ (by have:=HS.out.2;unfold Kn.wt at this;simp only [ywf,yx0,yy3,yy9]at this;omega) (H6.out.under HX1.out)).mono ?_
  rintro e w2 ⟨y6,rfl,hb,ho6⟩
  obtain⟨a6,c6,rfl,_⟩:=OwnD.parts (c:=1) (n:=k.d.length) ho6
  have HO6:=yvj ho6
  clear ho6
  have hz1:V1.heap.size≤w2.heap.size:=hb.size
  have HXb1:=yvj (HX1.out.trans (hb.mono (by omega)))
  have HPb1:=yvj (HP1.out.below hb)
  have HRb1:=yvj (HR1.out.below hb)
  have HQb1:=yvj (HQ1.out.below hb)
  replace HO0:=yvj (HO0.out.below hb)
  clear hb
  have qq6:=HQb1.out.cell (i:=6) rfl
  have qf1:=HQb1.out.free
  obtain⟨V2,hV2⟩:∃V2,(w2.setCell ⟨(w.heap.size+1+1),6,none⟩ (.slice a6 k.d.length c6))=V2:=⟨_,rfl⟩
  have HQ2:Hid (Bk V2 (w.heap.size+1+1) 41 #[.int .i64 k.m.n,.int .i64 k.m.s,.slice ai k.m.i.length ci,.slice ah k.m.h.length ch,.slice ae k.m.e.length ce,.int .i64 k.m.z,.slice a6 k.d.length c6,.slice none 0 0,.slice none 0 0,.int .i64 0,.int .i64 0,.bool false,.slice none 0 0,.slice none 0 0]):=by rw [←hV2];exact HQb1.out.put 6 _
  have HP2:=yvj (ot1 hV2 HPb1.out (by omega))
  have HR2:=yvj (ot1 hV2 HRb1.out (by omega))
  have HT2:=yvj (tu1 hV2)
  have hy2:w2.heap.size≤V2.heap.size:=HT2.out.size
  have HX2:=yvj (HXb1.out.trans (HT2.out.to_below (fun j e=>by omega) (by omega)))
  replace HO0:=yvj (HO0.out.turns HT2.out (fun j e=>by omega))
  replace HO6:=yvj (HO6.out.turns HT2.out (fun j e=>by omega))
  clear HP1 HR1 HQ1 HX1 HPb1 HRb1 HQb1 HXb1
  have p7:=HP2.out.cell (i:=7) rfl
  go_wp2_with fail
  clear qq6 qf1 hV2 p7
  refine(to_parts _ k.p _ (by have:=HS.out.2;unfold Kn.wt at this;simp only [ywf,yx0,yy3,yy9]at this;omega) (H7.out.under HX2.out)).mono ?_
  rintro e w3 ⟨y7,rfl,hb,ho7⟩
  obtain⟨a7,c7,rfl,_⟩:=OwnD.parts (c:=7) (n:=k.p.length) ho7
  have HO7:=yvj ho7
  clear ho7
  have hz2:V2.heap.size≤w3.heap.size:=hb.size
  have HXb2:=yvj (HX2.out.trans (hb.mono (by omega)))
  have HPb2:=yvj (HP2.out.below hb)
  have HRb2:=yvj (HR2.out.below hb)
  have HQb2:=yvj (HQ2.out.below hb)
  replace HO0:=yvj (HO0.out.below hb)
  replace HO6:=yvj (HO6.out.under hb)
  clear hb
  have qq7:=HQb2.out.cell (i:=7) rfl
  have qf2:=HQb2.out.free
  obtain⟨V3,hV3⟩:∃V3,(w3.setCell ⟨(w.heap.size+1+1),7,none⟩ (.slice a7 k.p.length c7))=V3:=⟨_,rfl⟩
  have HQ3:Hid (Bk V3 (w.heap.size+1+1) 41 #[.int .i64 k.m.n,.int .i64 k.m.s,.slice ai k.m.i.length ci,.slice ah k.m.h.length ch,.slice ae k.m.e.length ce,.int .i64 k.m.z,.slice a6 k.d.length c6,.slice a7 k.p.length c7,.slice none 0 0,.int .i64 0,.int .i64 0,.bool false,.slice none 0 0,.slice none 0 0]):=by rw [←hV3];exact HQb2.out.put 7 _
  have HP3:=yvj (ot1 hV3 HPb2.out (by omega))
  have HR3:=yvj (ot1 hV3 HRb2.out (by omega))
  have HT3:=yvj (tu1 hV3)
  have hy3:w3.heap.size≤V3.heap.size:=HT3.out.size
  have HX3:=yvj (HXb2.out.trans (HT3.out.to_below (fun j e=>by omega) (by omega)))
  replace HO0:=yvj (HO0.out.turns HT3.out (fun j e=>by omega))
  replace HO6:=yvj (HO6.out.turns HT3.out (fun j e=>by omega))
  replace HO7:=yvj (HO7.out.turns HT3.out (fun j e=>by omega))
  clear HP2 HR2 HQ2 HX2 HPb2 HRb2 HQb2 HXb2
  have p8:=HP3.out.cell (i:=8) rfl
  go_wp2_with fail
  clear qq7 qf2 hV3 p8
  refine(to_mails _ k.b _ (by have:=HS.out.2;unfold Kn.wt at this;simp only [ywf,yx0,yy3,yy9]at this;omega) (H8.out.under HX3.out)).mono ?_
  rintro e w4 ⟨y8,rfl,hb,ho8⟩
  obtain⟨a8,c8,rfl,_⟩:=OwnD.parts (c:=8) (n:=k.b.length) ho8
  have HO8:=yvj ho8
  clear ho8
  have hz3:V3.heap.size≤w4.heap.size:=hb.size
  have HXb3:=yvj (HX3.out.trans (hb.mono (by omega)))
  have HPb3:=yvj (HP3.out.below hb)
  have HRb3:=yvj (HR3.out.below hb)
  have HQb3:=yvj (HQ3.out.below hb)
  replace HO0:=yvj (HO0.out.below hb)
  replace HO6:=yvj (HO6.out.under hb)
  replace HO7:=yvj (HO7.out.under hb)
  clear hb
  have qq8:=HQb3.out.cell (i:=8) rfl
  have qf3:=HQb3.out.free
  obtain⟨V4,hV4⟩:∃V4,(w4.setCell ⟨(w.heap.size+1+1),8,none⟩ (.slice a8 k.b.length c8))=V4:=⟨_,rfl⟩
  have HQ4:Hid (Bk V4 (w.heap.size+1+1) 41 #[.int .i64 k.m.n,.int .i64 k.m.s,.slice ai k.m.i.length ci,.slice ah k.m.h.length ch,.slice ae k.m.e.length ce,.int .i64 k.m.z,.slice a6 k.d.length c6,.slice a7 k.p.length c7,.slice a8 k.b.length c8,.int .i64 0,.int .i64 0,.bool false,.slice none 0 0,.slice none 0 0]):=by rw [←hV4];exact HQb3.out.put 8 _
  have HP4:=yvj (ot1 hV4 HPb3.out (by omega))
  have HR4:=yvj (ot1 hV4 HRb3.out (by omega))
  have HT4:=yvj (tu1 hV4)
  have hy4:w4.heap.size≤V4.heap.size:=HT4.out.size
  have HX4:=yvj (HXb3.out.trans (HT4.out.to_below (fun j e=>by omega) (by omega)))
  replace HO0:=yvj (HO0.out.turns HT4.out (fun j e=>by omega))
  replace HO6:=yvj (HO6.out.turns HT4.out (fun j e=>by omega))
  replace HO7:=yvj (HO7.out.turns HT4.out (fun j e=>by omega))
  replace HO8:=yvj (HO8.out.turns HT4.out (fun j e=>by omega))
  clear HP3 HR3 HQ3 HX3 HPb3 HRb3 HQb3 HXb3
  have pp9:=HP4.out.cell (i:=9) rfl
  have qq9:=HQ4.out.cell (i:=9) rfl
  have qf4:=HQ4.out.free
  obtain⟨V5,hV5⟩:∃V5,(V4.setCell ⟨(w.heap.size+1+1),9,none⟩ (.int .i64 k.t))=V5:=⟨_,rfl⟩
  have HQ5:Hid (Bk V5 (w.heap.size+1+1) 41 #[.int .i64 k.m.n,.int .i64 k.m.s,.slice ai k.m.i.length ci,.slice ah k.m.h.length ch,.slice ae k.m.e.length ce,.int .i64 k.m.z,.slice a6 k.d.length c6,.slice a7 k.p.length c7,.slice a8 k.b.length c8,.int .i64 k.t,.int .i64 0,.bool false,.slice none 0 0,.slice none 0 0]):=by rw [←hV5];exact HQ4.out.put 9 _
  have HP5:=yvj (ot1 hV5 HP4.out (by omega))
  have HR5:=yvj (ot1 hV5 HR4.out (by omega))
  have HT5:=yvj (tu1 hV5)
  have hy5:V4.heap.size≤V5.heap.size:=HT5.out.size
  have HX5:=yvj (HX4.out.trans (HT5.out.to_below (fun j e=>by omega) (by omega)))
  replace HO0:=yvj (HO0.out.turns HT5.out (fun j e=>by omega))
  replace HO6:=yvj (HO6.out.turns HT5.out (fun j e=>by omega))
  replace HO7:=yvj (HO7.out.turns HT5.out (fun j e=>by omega))
  replace HO8:=yvj (HO8.out.turns HT5.out (fun j e=>by omega))
  clear HP4 HR4 HQ4 HX4
  have pp10:=HP5.out.cell (i:=10) rfl
  have qq10:=HQ5.out.cell (i:=10) rfl
  have qf5:=HQ5.out.free
  obtain⟨V6,hV6⟩:∃V6,(V5.setCell ⟨(w.heap.size+1+1),10,none⟩ (.int .i64 k.q))=V6:=⟨_,rfl⟩
  have HQ6:Hid (Bk V6 (w.heap.size+1+1) 41 #[.int .i64 k.m.n,.int .i64 k.m.s,.slice ai k.m.i.length ci,.slice ah k.m.h.length ch,.slice ae k.m.e.length ce,.int .i64 k.m.z,.slice a6 k.d.length c6,.slice a7 k.p.length c7,.slice a8 k.b.length c8,.int .i64 k.t,.int .i64 k.q,.bool false,.slice none 0 0,.slice none 0 0]):=by rw [←hV6];exact HQ5.out.put 10 _
  have HP6:=yvj (ot1 hV6 HP5.out (by omega))
  have HR6:=yvj (ot1 hV6 HR5.out (by omega))
  have HT6:=yvj (tu1 hV6)
  have hy6:V5.heap.size≤V6.heap.size:=HT6.out.size
  have HX6:=yvj (HX5.out.trans (HT6.out.to_below (fun j e=>by omega) (by omega)))
  replace HO0:=yvj (HO0.out.turns HT6.out (fun j e=>by omega))
  replace HO6:=yvj (HO6.out.turns HT6.out (fun j e=>by omega))
  replace HO7:=yvj (HO7.out.turns HT6.out (fun j e=>by omega))
  replace HO8:=yvj (HO8.out.turns HT6.out (fun j e=>by omega))
  clear HP5 HR5 HQ5 HX5
  have pp11:=HP6.out.cell (i:=11) rfl
  have qq11:=HQ6.out.cell (i:=11) rfl
  have qf6:=HQ6.out.free
  obtain⟨V7,hV7⟩:∃V7,(V6.setCell ⟨(w.heap.size+1+1),11,none⟩ (.bool k.f))=V7:=⟨_,rfl⟩
  have HQ7:Hid (Bk V7 (w.heap.size+1+1) 41 #[.int .i64 k.m.n,.int .i64 k.m.s,.slice ai k.m.i.length ci,.slice ah k.m.h.length ch,.slice ae k.m.e.length ce,.int .i64 k.m.z,.slice a6 k.d.length c6,.slice a7 k.p.length c7,.slice a8 k.b.length c8,.int .i64 k.t,.int .i64 k.q,.bool k.f,.slice none 0 0,.slice none 0 0]):=by rw [←hV7];exact HQ6.out.put 11 _
  have HP7:=yvj (ot1 hV7 HP6.out (by omega))
  have HR7:=yvj (ot1 hV7 HR6.out (by omega))
  have HT7:=yvj (tu1 hV7)
  have hy7:V6.heap.size≤V7.heap.size:=HT7.out.size
  have HX7:=yvj (HX6.out.trans (HT7.out.to_below (fun j e=>by omega) (by omega)))
  replace HO0:=yvj (HO0.out.turns HT7.out (fun j e=>by omega))
  replace HO6:=yvj (HO6.out.turns HT7.out (fun j e=>by omega))
  replace HO7:=yvj (HO7.out.turns HT7.out (fun j e=>by omega))
  replace HO8:=yvj (HO8.out.turns HT7.out (fun j e=>by omega))
  clear HP6 HR6 HQ6 HX6
  have p12:=HP7.out.cell (i:=12) rfl
  go_wp2_with fail
  clear qq8 qf3 hV4 pp9 qq9 qf4 hV5 pp10 qq10 qf5 hV6 pp11 qq11 qf6 hV7 p12
  refine(zn6 _ k.s _ (by have:=HS.out.2;unfold Kn.wt at this;simp only [ywf,yx0,yy3,yy9]at this;omega) (H12.out.under HX7.out)).mono ?_
  rintro e w8 ⟨y12,rfl,hb,ho12⟩
  obtain⟨a12,c12,rfl,_⟩:=OwnD.parts (c:=7) (n:=k.s.length) ho12
  have HO12:=yvj ho12
  clear ho12
  have hz7:V7.heap.size≤w8.heap.size:=hb.size
  have HXb7:=yvj (HX7.out.trans (hb.mono (by omega)))
  have HPb7:=yvj (HP7.out.below hb)
  have HRb7:=yvj (HR7.out.below hb)
  have HQb7:=yvj (HQ7.out.below hb)
  replace HO0:=yvj (HO0.out.below hb)
  replace HO6:=yvj (HO6.out.under hb)
  replace HO7:=yvj (HO7.out.under hb)
  replace HO8:=yvj (HO8.out.under hb)
  clear hb
  have qq12:=HQb7.out.cell (i:=12) rfl
  have qf7:=HQb7.out.free
  obtain⟨V8,hV8⟩:∃V8,(w8.setCell ⟨(w.heap.size+1+1),12,none⟩ (.slice a12 k.s.length c12))=V8:=⟨_,rfl⟩
  have HQ8:Hid (Bk V8 (w.heap.size+1+1) 41 #[.int .i64 k.m.n,.int .i64 k.m.s,.slice ai k.m.i.length ci,.slice ah k.m.h.length ch,.slice ae k.m.e.length ce,.int .i64 k.m.z,.slice a6 k.d.length c6,.slice a7 k.p.length c7,.slice a8 k.b.length c8,.int .i64 k.t,.int .i64 k.q,.bool k.f,.slice a12 k.s.length c12,.slice none 0 0]):=by rw [←hV8];exact HQb7.out.put 12 _
  have HP8:=yvj (ot1 hV8 HPb7.out (by omega))
  have HR8:=yvj (ot1 hV8 HRb7.out (by omega))
  have HT8:=yvj (tu1 hV8)
  have hy8:w8.heap.size≤V8.heap.size:=HT8.out.size
  have HX8:=yvj (HXb7.out.trans (HT8.out.to_below (fun j e=>by omega) (by omega)))
  replace HO0:=yvj (HO0.out.turns HT8.out (fun j e=>by omega))
  replace HO6:=yvj (HO6.out.turns HT8.out (fun j e=>by omega))
  replace HO7:=yvj (HO7.out.turns HT8.out (fun j e=>by omega))
  replace HO8:=yvj (HO8.out.turns HT8.out (fun j e=>by omega))
  replace HO12:=yvj (HO12.out.turns HT8.out (fun j e=>by omega))
  clear HP7 HR7 HQ7 HX7 HPb7 HRb7 HQb7 HXb7
  have p13:=HP8.out.cell (i:=13) rfl
  go_wp2_with fail
  clear qq12 qf7 hV8 p13
  refine(to_ems _ k.x _ (by have:=HS.out.2;unfold Kn.wt at this;simp only [ywf,yx0,yy3,yy9]at this;omega) (H13.out.under HX8.out)).mono ?_
  rintro e w9 ⟨y13,rfl,hb,ho13⟩
  obtain⟨a13,c13,rfl,_⟩:=OwnD.parts (c:=3) (n:=k.x.length) ho13
  have HO13:=yvj ho13
  clear ho13
  have hz8:V8.heap.size≤w9.heap.size:=hb.size
  have HXb8:=yvj (HX8.out.trans (hb.mono (by omega)))
  have HPb8:=yvj (HP8.out.below hb)
  have HRb8:=yvj (HR8.out.below hb)
  have HQb8:=yvj (HQ8.out.below hb)
  replace HO0:=yvj (HO0.out.below hb)
  replace HO6:=yvj (HO6.out.under hb)
  replace HO7:=yvj (HO7.out.under hb)
  replace HO8:=yvj (HO8.out.under hb)
  replace HO12:=yvj (HO12.out.under hb)
  clear hb
  have qq13:=HQb8.out.cell (i:=13) rfl
  have qf8:=HQb8.out.free
  obtain⟨V9,hV9⟩:∃V9,(w9.setCell ⟨(w.heap.size+1+1),13,none⟩ (.slice a13 k.x.length c13))=V9:=⟨_,rfl⟩
  have HQ9:Hid (Bk V9 (w.heap.size+1+1) 41 #[.int .i64 k.m.n,.int .i64 k.m.s,.slice ai k.m.i.length ci,.slice ah k.m.h.length ch,.slice ae k.m.e.length ce,.int .i64 k.m.z,.slice a6 k.d.length c6,.slice a7 k.p.length c7,.slice a8 k.b.length c8,.int .i64 k.t,.int .i64 k.q,.bool k.f,.slice a12 k.s.length c12,.slice a13 k.x.length c13]):=by rw [←hV9];exact HQb8.out.put 13 _
  have HP9:=yvj (ot1 hV9 HPb8.out (by omega))
  have HR9:=yvj (ot1 hV9 HRb8.out (by omega))
  have HT9:=yvj (tu1 hV9)
  have hy9:w9.heap.size≤V9.heap.size:=HT9.out.size
  have HX9:=yvj (HXb8.out.trans (HT9.out.to_below (fun j e=>by omega) (by omega)))
  replace HO0:=yvj (HO0.out.turns HT9.out (fun j e=>by omega))
  replace HO6:=yvj (HO6.out.turns HT9.out (fun j e=>by omega))
  replace HO7:=yvj (HO7.out.turns HT9.out (fun j e=>by omega))
  replace HO8:=yvj (HO8.out.turns HT9.out (fun j e=>by omega))
  replace HO12:=yvj (HO12.out.turns HT9.out (fun j e=>by omega))
  replace HO13:=yvj (HO13.out.turns HT9.out (fun j e=>by omega))
  clear HP8 HR8 HQ8 HX8 HPb8 HRb8 HQb8 HXb8
  have oo0:=HQ9.out.cell (i:=0) rfl
  have rr0:=HR9.out.cell (i:=0) rfl
  have oo1:=HQ9.out.cell (i:=1) rfl
  have rr1:=HR9.out.cell (i:=1) rfl
  have oo2:=HQ9.out.cell (i:=2) rfl
  have rr2:=HR9.out.cell (i:=2) rfl
  have oo3:=HQ9.out.cell (i:=3) rfl
  have rr3:=HR9.out.cell (i:=3) rfl
  have oo4:=HQ9.out.cell (i:=4) rfl
  have rr4:=HR9.out.cell (i:=4) rfl
  have oo5:=HQ9.out.cell (i:=5) rfl
  have rr5:=HR9.out.cell (i:=5) rfl
  have oo6:=HQ9.out.cell (i:=6) rfl
  have rr6:=HR9.out.cell (i:=6) rfl
  have oo7:=HQ9.out.cell (i:=7) rfl
  have rr7:=HR9.out.cell (i:=7) rfl
  have oo8:=HQ9.out.cell (i:=8) rfl
  have rr8:=HR9.out.cell (i:=8) rfl
  have oo9:=HQ9.out.cell (i:=9) rfl
  have rr9:=HR9.out.cell (i:=9) rfl
  have oo10:=HQ9.out.cell (i:=10) rfl
  have rr10:=HR9.out.cell (i:=10) rfl
  have oo11:=HQ9.out.cell (i:=11) rfl
  have rr11:=HR9.out.cell (i:=11) rfl
  have oo12:=HQ9.out.cell (i:=12) rfl
  have rr12:=HR9.out.cell (i:=12) rfl
  have oo13:=HQ9.out.cell (i:=13) rfl
  have rr13:=HR9.out.cell (i:=13) rfl
  have rf:=HR9.out.free
  go_wp2
  clear rf oo0 rr0 oo1 rr1 oo2 rr2 oo3 rr3 oo4 rr4 oo5 rr5 oo6 rr6 oo7 rr7 oo8 rr8 oo9 rr9 oo10 rr10 oo11 rr11 oo12 rr12 oo13 rr13 qq13 qf8 hV9
  have HY0:=HR9.out
  have HU0:Turns (fun j=>j=(w.heap.size+1)) V9 V9:=Turns.refl _ _
  obtain⟨Y1,hY1⟩:∃Y1,V9.setCell ⟨(w.heap.size+1),0,none⟩ (.int .i64 k.m.n)=Y1:=⟨_,rfl⟩
  have HY1:Bk Y1 (w.heap.size+1) 41 #[.int .i64 k.m.n,.int .i64 0,.slice none 0 0,.slice none 0 0,.slice none 0 0,.int .i64 0,.slice none 0 0,.slice none 0 0,.slice none 0 0,.int .i64 0,.int .i64 0,.bool false,.slice none 0 0,.slice none 0 0]:=hY1▸HY0.put 0 _
  have HU1:Turns (fun j=>j=(w.heap.size+1)) V9 Y1:=HU0.trans (hY1▸yag _ _ 0 _)
  clear HY0 HU0
  obtain⟨Y2,hY2⟩:∃Y2,Y1.setCell ⟨(w.heap.size+1),1,none⟩ (.int .i64 k.m.s)=Y2:=⟨_,rfl⟩
  have HY2:Bk Y2 (w.heap.size+1) 41 #[.int .i64 k.m.n,.int .i64 k.m.s,.slice none 0 0,.slice none 0 0,.slice none 0 0,.int .i64 0,.slice none 0 0,.slice none 0 0,.slice none 0 0,.int .i64 0,.int .i64 0,.bool false,.slice none 0 0,.slice none 0 0]:=hY2▸HY1.put 1 _
  have HU2:Turns (fun j=>j=(w.heap.size+1)) V9 Y2:=HU1.trans (hY2▸yag _ _ 1 _)
  clear HY1 HU1
  obtain⟨Y3,hY3⟩:∃Y3,Y2.setCell ⟨(w.heap.size+1),2,none⟩ (.slice ai k.m.i.length ci)=Y3:=⟨_,rfl⟩
  have HY3:Bk Y3 (w.heap.size+1) 41 #[.int .i64 k.m.n,.int .i64 k.m.s,.slice ai k.m.i.length ci,.slice none 0 0,.slice none 0 0,.int .i64 0,.slice none 0 0,.slice none 0 0,.slice none 0 0,.int .i64 0,.int .i64 0,.bool false,.slice none 0 0,.slice none 0 0]:=hY3▸HY2.put 2 _
  have HU3:Turns (fun j=>j=(w.heap.size+1)) V9 Y3:=HU2.trans (hY3▸yag _ _ 2 _)
  clear HY2 HU2
  obtain⟨Y4,hY4⟩:∃Y4,Y3.setCell ⟨(w.heap.size+1),3,none⟩ (.slice ah k.m.h.length ch)=Y4:=⟨_,rfl⟩
  have HY4:Bk Y4 (w.heap.size+1) 41 #[.int .i64 k.m.n,.int .i64 k.m.s,.slice ai k.m.i.length ci,.slice ah k.m.h.length ch,.slice none 0 0,.int .i64 0,.slice none 0 0,.slice none 0 0,.slice none 0 0,.int .i64 0,.int .i64 0,.bool false,.slice none 0 0,.slice none 0 0]:=hY4▸HY3.put 3 _
  have HU4:Turns (fun j=>j=(w.heap.size+1)) V9 Y4:=HU3.trans (hY4▸yag _ _ 3 _)
  clear HY3 HU3
  obtain⟨Y5,hY5⟩:∃Y5,Y4.setCell ⟨(w.heap.size+1),4,none⟩ (.slice ae k.m.e.length ce)=Y5:=⟨_,rfl⟩
  have HY5:Bk Y5 (w.heap.size+1) 41 #[.int .i64 k.m.n,.int .i64 k.m.s,.slice ai k.m.i.length ci,.slice ah k.m.h.length ch,.slice ae k.m.e.length ce,.int .i64 0,.slice none 0 0,.slice none 0 0,.slice none 0 0,.int .i64 0,.int .i64 0,.bool false,.slice none 0 0,.slice none 0 0]:=hY5▸HY4.put 4 _
  have HU5:Turns (fun j=>j=(w.heap.size+1)) V9 Y5:=HU4.trans (hY5▸yag _ _ 4 _)
  clear HY4 HU4
  obtain⟨Y6,hY6⟩:∃Y6,Y5.setCell ⟨(w.heap.size+1),5,none⟩ (.int .i64 k.m.z)=Y6:=⟨_,rfl⟩
  have HY6:Bk Y6 (w.heap.size+1) 41 #[.int .i64 k.m.n,.int .i64 k.m.s,.slice ai k.m.i.length ci,.slice ah k.m.h.length ch,.slice ae k.m.e.length ce,.int .i64 k.m.z,.slice none 0 0,.slice none 0 0,.slice none 0 0,.int .i64 0,.int .i64 0,.bool false,.slice none 0 0,.slice none 0 0]:=hY6▸HY5.put 5 _
  have HU6:Turns (fun j=>j=(w.heap.size+1)) V9 Y6:=HU5.trans (hY6▸yag _ _ 5 _)
  clear HY5 HU5
  obtain⟨Y7,hY7⟩:∃Y7,Y6.setCell ⟨(w.heap.size+1),6,none⟩ (.slice a6 k.d.length c6)=Y7:=⟨_,rfl⟩
  have HY7:Bk Y7 (w.heap.size+1) 41 #[.int .i64 k.m.n,.int .i64 k.m.s,.slice ai k.m.i.length ci,.slice ah k.m.h.length ch,.slice ae k.m.e.length ce,.int .i64 k.m.z,.slice a6 k.d.length c6,.slice none 0 0,.slice none 0 0,.int .i64 0,.int .i64 0,.bool false,.slice none 0 0,.slice none 0 0]:=hY7▸HY6.put 6 _
  have HU7:Turns (fun j=>j=(w.heap.size+1)) V9 Y7:=HU6.trans (hY7▸yag _ _ 6 _)
  clear HY6 HU6
  obtain⟨Y8,hY8⟩:∃Y8,Y7.setCell ⟨(w.heap.size+1),7,none⟩ (.slice a7 k.p.length c7)=Y8:=⟨_,rfl⟩
  have HY8:Bk Y8 (w.heap.size+1) 41 #[.int .i64 k.m.n,.int .i64 k.m.s,.slice ai k.m.i.length ci,.slice ah k.m.h.length ch,.slice ae k.m.e.length ce,.int .i64 k.m.z,.slice a6 k.d.length c6,.slice a7 k.p.length c7,.slice none 0 0,.int .i64 0,.int .i64 0,.bool false,.slice none 0 0,.slice none 0 0]:=hY8▸HY7.put 7 _
  have HU8:Turns (fun j=>j=(w.heap.size+1)) V9 Y8:=HU7.trans (hY8▸yag _ _ 7 _)
  clear HY7 HU7
  obtain⟨Y9,hY9⟩:∃Y9,Y8.setCell ⟨(w.heap.size+1),8,none⟩ (.slice a8 k.b.length c8)=Y9:=⟨_,rfl⟩
  have HY9:Bk Y9 (w.heap.size+1) 41 #[.int .i64 k.m.n,.int .i64 k.m.s,.slice ai k.m.i.length ci,.slice ah k.m.h.length ch,.slice ae k.m.e.length ce,.int .i64 k.m.z,.slice a6 k.d.length c6,.slice a7 k.p.length c7,.slice a8 k.b.length c8,.int .i64 0,.int .i64 0,.bool false,.slice none 0 0,.slice none 0 0]:=hY9▸HY8.put 8 _
  have HU9:Turns (fun j=>j=(w.heap.size+1)) V9 Y9:=HU8.trans (hY9▸yag _ _ 8 _)
  clear HY8 HU8
  obtain⟨Y10,hY10⟩:∃Y10,Y9.setCell ⟨(w.heap.size+1),9,none⟩ (.int .i64 k.t)=Y10:=⟨_,rfl⟩
  have HY10:Bk Y10 (w.heap.size+1) 41 #[.int .i64 k.m.n,.int .i64 k.m.s,.slice ai k.m.i.length ci,.slice ah k.m.h.length ch,.slice ae k.m.e.length ce,.int .i64 k.m.z,.slice a6 k.d.length c6,.slice a7 k.p.length c7,.slice a8 k.b.length c8,.int .i64 k.t,.int .i64 0,.bool false,.slice none 0 0,.slice none 0 0]:=hY10▸HY9.put 9 _
  have HU10:Turns (fun j=>j=(w.heap.size+1)) V9 Y10:=HU9.trans (hY10▸yag _ _ 9 _)
  clear HY9 HU9
  obtain⟨Y11,hY11⟩:∃Y11,Y10.setCell ⟨(w.heap.size+1),10,none⟩ (.int .i64 k.q)=Y11:=⟨_,rfl⟩
  have HY11:Bk Y11 (w.heap.size+1) 41 #[.int .i64 k.m.n,.int .i64 k.m.s,.slice ai k.m.i.length ci,.slice ah k.m.h.length ch,.slice ae k.m.e.length ce,.int .i64 k.m.z,.slice a6 k.d.length c6,.slice a7 k.p.length c7,.slice a8 k.b.length c8,.int .i64 k.t,.int .i64 k.q,.bool false,.slice none 0 0,.slice none 0 0]:=hY11▸HY10.put 10 _
  have HU11:Turns (fun j=>j=(w.heap.size+1)) V9 Y11:=HU10.trans (hY11▸yag _ _ 10 _)
  clear HY10 HU10
  obtain⟨Y12,hY12⟩:∃Y12,Y11.setCell ⟨(w.heap.size+1),11,none⟩ (.bool k.f)=Y12:=⟨_,rfl⟩
  have HY12:Bk Y12 (w.heap.size+1) 41 #[.int .i64 k.m.n,.int .i64 k.m.s,.slice ai k.m.i.length ci,.slice ah k.m.h.length ch,.slice ae k.m.e.length ce,.int .i64 k.m.z,.slice a6 k.d.length c6,.slice a7 k.p.length c7,.slice a8 k.b.length c8,.int .i64 k.t,.int .i64 k.q,.bool k.f,.slice none 0 0,.slice none 0 0]:=hY12▸HY11.put 11 _
  have HU12:Turns (fun j=>j=(w.heap.size+1)) V9 Y12:=HU11.trans (hY12▸yag _ _ 11 _)
  clear HY11 HU11
  obtain⟨Y13,hY13⟩:∃Y13,Y12.setCell ⟨(w.heap.size+1),12,none⟩ (.slice a12 k.s.length c12)=Y13:=⟨_,rfl⟩
  have HY13:Bk Y13 (w.heap.size+1) 41 #[.int .i64 k.m.n,.int .i64 k.m.s,.slice ai k.m.i.length ci,.slice ah k.m.h.length ch,.slice ae k.m.e.length ce,.int .i64 k.m.z,.slice a6 k.d.length c6,.slice a7 k.p.length c7,.slice a8 k.b.length c8,.int .i64 k.t,.int .i64 k.q,.bool k.f,.slice a12 k.s.length c12,.slice none 0 0]:=hY13▸HY12.put 12 _
  have HU13:Turns (fun j=>j=(w.heap.size+1)) V9 Y13:=HU12.trans (hY13▸yag _ _ 12 _)
  clear HY12 HU12
  obtain⟨Y14,hY14⟩:∃Y14,Y13.setCell ⟨(w.heap.size+1),13,none⟩ (.slice a13 k.x.length c13)=Y14:=⟨_,rfl⟩
  have HY14:Bk Y14 (w.heap.size+1) 41 #[.int .i64 k.m.n,.int .i64 k.m.s,.slice ai k.m.i.length ci,.slice ah k.m.h.length ch,.slice ae k.m.e.length ce,.int .i64 k.m.z,.slice a6 k.d.length c6,.slice a7 k.p.length c7,.slice a8 k.b.length c8,.int .i64 k.t,.int .i64 k.q,.bool k.f,.slice a12 k.s.length c12,.slice a13 k.x.length c13]:=hY14▸HY13.put 13 _
  have HU14:Turns (fun j=>j=(w.heap.size+1)) V9 Y14:=HU13.trans (hY14▸yag _ _ 13 _)
  clear HY13 HU13
  rw [hY1,hY2,hY3,hY4,hY5,hY6,hY7,hY8,hY9,hY10,hY11,hY12,hY13,hY14]
  have hR:=HY14
  have hT:=HU14
  obtain⟨t0,t1,t2,t3,t4,t5,t6,t7,t8,t9,t10,t11,t12,t13⟩:=ywd hR
  have hsz:=hT.size
  refine bodyPost_ret (v:= .agg #[.int .i64 k.m.n,.int .i64 k.m.s,.slice ai k.m.i.length ci,.slice ah k.m.h.length ch,.slice ae k.m.e.length ce,.int .i64 k.m.z,.slice a6 k.d.length c6,.slice a7 k.p.length c7,.slice a8 k.b.length c8,.int .i64 k.t,.int .i64 k.q,.bool k.f,.slice a12 k.s.length c12,.slice a13 k.x.length c13]) (by simp [results,Tryz.results11,go_sem,t0,t1,t2,t3,t4,t5,t6,t7,t8,t9,t10,t11,t12,t13]) rfl ⟨_,rfl,HX9.out.trans (hT.to_below (fun j e=>by omega) (by omega)),_,_,_,_,_,_,_,_,_,_,_,_,_,_,rfl,HO0.out.turns hT (fun j e=>by omega),HO6.out.turns hT (fun j e=>by omega),HO7.out.turns hT (fun j e=>by omega),HO8.out.turns hT (fun j e=>by omega),HO12.out.turns hT (fun j e=>by omega),HO13.out.turns hT (fun j e=>by omega),fun j e=>⟨⟨by omega,by omega⟩,fun e2=>by omega,fun e2=>by omega,fun e2=>by omega,fun e2=>by omega,fun e2=>by omega⟩,fun j e=>⟨⟨by omega,by omega⟩,fun e2=>by omega,fun e2=>by omega,fun e2=>by omega,fun e2=>by omega⟩,fun j e=>⟨⟨by omega,by omega⟩,fun e2=>by omega,fun e2=>by omega,fun e2=>by omega⟩,fun j e=>⟨⟨by omega,by omega⟩,fun e2=>by omega,fun e2=>by omega⟩,fun j e=>⟨⟨by omega,by omega⟩,fun e2=>by omega⟩,fun j e=>⟨by omega,by omega⟩⟩
theorem RowIn.congr {F:Nat→Prop} {w:World} {g m:Nat} {f f':Nat→Dat} (h:RowIn F w g m f) (hf:∀j,j<m→f j=f' j):RowIn F w g m f':=
  ⟨h.lt,h.no,fun j hj=>by obtain⟨u,hu,hz,hd⟩:=h.at_ j hj;exact⟨u,hu,hz,hf j hj▸hd⟩⟩
theorem RowIn.below {F:Nat→Prop} {w w':World} {g m:Nat} {f:Nat→Dat} (h:RowIn F w g m f) (hb:Below w.heap.size w w'):RowIn F w' g m f:=
  h.turns (S:=fun _=>False) (Turns.of_below hb) (fun _ _=>id) id
theorem RowIn.part {F:Nat→Prop} {w:World} {g N:Nat} {l:List Pa} (h:RowIn F w g (N*7) (yfa l)) {i:Nat} (hi:i<N):∃a1 c1 a4 c4 a5 c5 a6 c6,
    (w.cell? ⟨g,i*7,none⟩=some (.int .i64 (paAt l i).n)∧w.cell? ⟨g,i*7+1,none⟩=some (.slice a1 (paAt l i).st.r.length c1)∧w.cell? ⟨g,i*7+2,none⟩=some (.int .i64 (paAt l i).st.q)∧w.cell? ⟨g,i*7+3,none⟩=some (.int .i64 (paAt l i).st.d)∧w.cell? ⟨g,i*7+4,none⟩=some (.slice a4 (paAt l i).p.length c4)∧w.cell? ⟨g,i*7+5,none⟩=some (.slice a5 (paAt l i).t.length c5)∧w.cell? ⟨g,i*7+6,none⟩=some (.slice a6 (paAt l i).a.length c6))∧
    IsD w (.slice a1 (paAt l i).st.r.length c1) (ywr (paAt l i).st.r)∧InD F w (.slice a4 (paAt l i).p.length c4) (yw3 (paAt l i).p)∧IsD w (.slice a5 (paAt l i).t.length c5) (evsD (paAt l i).t)∧IsD w (.slice a6 (paAt l i).a.length c6) (ywr (paAt l i).a)∧(paAt l i).p.length≤c4∧(∀r,r<7→w.frozen? ⟨g,i*7+r,none⟩=false):=by
  obtain⟨u1,u4,u5,u6,f0,f1,f2,f3,f4,f5,f6,d1,d4,d5,d6⟩:=yzg (b:=g) (off:=0) (n:=N) (l:=l) (fun j hj=>by
    obtain⟨u,hu,_,hd⟩:=h.at_ j hj
    exact⟨u,by rw [Nat.zero_add];exact hu,hd.isD⟩) hi
  rw [Nat.zero_add]at f0 f1 f2 f3 f4 f5 f6
  obtain⟨u,hu,_,hd⟩:=h.at_ (i*7+4) (by omega)
  rw [f4]at hu
  obtain rfl:=Option.some.inj hu
  have e9:yfa l (i*7+4)=yw3 (paAt l i).p:=by
    show(paAt l ((i*7+4)/7)).cell ((i*7+4)%7)=_
    rw [show(i*7+4)/7=i by omega,show(i*7+4)%7=4 by omega]
    rfl
  rw [e9]at hd
  obtain⟨a1,c1,rfl⟩:=yw8 (c:=1) (n:=(paAt l i).st.r.length) d1
  obtain⟨a4,c4,rfl,hn4,_⟩:=InD.parts (c:=12) (n:=(paAt l i).p.length) hd
  obtain⟨a5,c5,rfl⟩:=yw8 (c:=7) (n:=(paAt l i).t.length) d5
  obtain⟨a6,c6,rfl⟩:=yw8 (c:=1) (n:=(paAt l i).a.length) d6
  exact⟨a1,c1,a4,c4,a5,c5,a6,c6,⟨f0,f1,f2,f3,f4,f5,f6⟩,d1,hd,d5,d6,hn4,fun r hr=>by
    obtain⟨_,_,hz,_⟩:=h.at_ (i*7+r) (by omega)
    exact hz⟩
theorem RowIn.cut {F:Nat→Prop} {w:World} {g N:Nat} {go:Option Ev} {l:List Pa} {i:Nat} (h:RowIn F w g (N*7) (yfa (zap go i l))) (hN:l.length=N) (hi:i<N) {v:Value} (hv:InD F w v (yw3 ((paAt l i).p.drop (cutN go (paAt l i).p)))):RowIn F (w.setCell ⟨g,i*7+4,none⟩ v) g (N*7) (yfa (zap go (i+1) l)):=
  (h.put (by omega) hv).congr (fun j hj=>zp8 go j (by omega))
def RowV (F:Nat→Prop) (w:World) (a:Option Addr) (n cap c:Nat) (f:Nat→Dat):Prop:=n≤cap∧cap≤maxLen∧(n=0∨ ∃g,a=some ⟨g,0,none⟩∧RowIn F w g (n*c) f)
theorem RowV.isD {F:Nat→Prop} {w:World} {a:Option Addr} {n cap c:Nat} {f:Nat→Dat} (h:RowV F w a n cap c f):IsD w (.slice a n cap) (.row c n f):=by
  obtain⟨h1,h2,rfl|⟨g,rfl,h⟩⟩:=h
  · exact .nil _ _ _ _ h2
  · exact h.isD h1 h2
theorem RowV.below {F:Nat→Prop} {w w':World} {a:Option Addr} {n cap c:Nat} {f:Nat→Dat} (h:RowV F w a n cap c f) (hb:Below w.heap.size w w'):RowV F w' a n cap c f:=by
  obtain⟨h1,h2,h⟩:=h
  refine⟨h1,h2,h.imp id ?_⟩
  rintro ⟨g,e,h⟩
  exact⟨g,e,h.below hb⟩
theorem RowV.mono {F G:Nat→Prop} {w:World} {a:Option Addr} {n cap c:Nat} {f:Nat→Dat} (h:RowV F w a n cap c f) (hG:∀k,F k→G k) (hn:∀g,a=some ⟨g,0,none⟩→g<w.heap.size→ ¬F g→ ¬G g):RowV G w a n cap c f:=by
  obtain⟨h1,h2,h⟩:=h
  refine⟨h1,h2,h.imp id ?_⟩
  rintro ⟨g,e,h⟩
  exact⟨g,e,h.mono hG (hn g e h.lt h.no)⟩
theorem RowV.turns {F S:Nat→Prop} {w w':World} {a:Option Addr} {n cap c:Nat} {f:Nat→Dat} (h:RowV F w a n cap c f) (ht:Turns S w w') (hS:∀k,F k→ ¬S k) (hg:∀g,0<n→a=some ⟨g,0,none⟩→ ¬S g):RowV F w' a n cap c f:=by
  obtain⟨h1,h2,h⟩:=h
  rcases Nat.eq_zero_or_pos n with hn|hn
  · exact⟨h1,h2,.inl hn⟩
  · obtain⟨g,e,h⟩:=h.resolve_left (by omega)
    exact⟨h1,h2,.inr ⟨g,e,h.turns ht hS (hg g hn e)⟩⟩
theorem OwnD.rowV {F:Nat→Prop} {w:World} {a:Option Addr} {n cap c:Nat} {f:Nat→Dat} (h:OwnD w F (.slice a n cap) (.row c n f)):RowV (fun k=>F k∧ ¬a=some ⟨k,0,none⟩) w a n cap c f∧ ∀g,0<n→a=some ⟨g,0,none⟩→F g∧g<w.heap.size:=by
  cases h with
  |nil F a cap _ _ h=>exact⟨⟨Nat.zero_le _,h,.inl rfl⟩,fun _ h9=>by omega⟩
  |row F g _ cap _ _ U G h1 h2 hg hF hc hs hG hGG=>
    refine⟨⟨h1,h2,.inr ⟨g,rfl,⟨hg,fun e=>e.2 rfl,fun j hj=>⟨U j,(hc j hj).1,(hc j hj).2,(hs j hj).inD.mono fun k hk=>⟨(hG j hj k hk).1,fun e=> ?_⟩⟩⟩⟩⟩,fun g' _ e=> ?_⟩
    · obtain rfl:g=k:=by simpa using e
      exact(hG j hj _ hk).2 rfl
    · obtain rfl:g=g':=by simpa using e
      exact⟨hF,hg⟩
def uAt (us:List Value) (i:Nat):Value:=us.getD i (.slice none 0 0)
def HsO (B:Nat) (w:World) (us:List Value) (hs:List (List O)):Prop:=
  us.length=hs.length∧(∀i,i<hs.length→w.ownsRow B 244 4 (uAt us i) (hAt hs i).length (yyv (hAt hs i)))∧ ∀i j k,i<j→j<hs.length→(uAt us i).ownBlock=some k→ ¬(uAt us j).ownBlock=some k
theorem HsO.nil (B:Nat) (w:World):HsO B w [] []:=⟨rfl,fun i hi=>by simp at hi,fun i j k _ hj=>by simp at hj⟩
theorem HsO.turns {S:Nat→Prop} {B:Nat} {w w':World} {us:List Value} {hs:List (List O)} (h:HsO B w us hs) (ht:Turns S w w') (hS:∀i k,i<hs.length→(uAt us i).ownBlock=some k→ ¬S k):HsO B w' us hs:=
  ⟨h.1,fun i hi=>ypa (h.2.1 i hi) ht (fun k hk=>hS i k hi hk),h.2.2⟩
theorem zg1 {us:List Value} {u:Value} {i:Nat} (h:i<us.length):uAt (us++ [u]) i=uAt us i:=by
  unfold uAt;simp [List.getElem?_append_left h]
theorem zjw (us:List Value) (u:Value):uAt (us++ [u]) us.length=u:=by unfold uAt;simp
theorem hAt_left {hs:List (List O)} {r:List O} {i:Nat} (h:i<hs.length):hAt (hs++ [r]) i=hAt hs i:=by
  unfold hAt;simp [List.getElem?_append_left h]
theorem hAt_last (hs:List (List O)) (r:List O):hAt (hs++ [r]) hs.length=r:=by unfold hAt;simp
theorem HsO.snoc {B B':Nat} {w:World} {us:List Value} {hs:List (List O)} {u:Value} {r:List O} (h:HsO B w us hs) (hr:w.ownsRow B' 244 4 u r.length (yyv r)) (hB:B≤B') (hold:∀i k,i<hs.length→(uAt us i).ownBlock=some k→k<B'):HsO B w (us++ [u]) (hs++ [r]):=by
  obtain⟨h0,h1,h2⟩:=h
  refine⟨by simp [h0],fun i hi=> ?_,fun i j k hij hj hk=> ?_⟩
  · by_cases e:i<hs.length
    · rw [zg1 (by omega),hAt_left e];exact h1 i e
    · have:i=hs.length:=by simp at hi;omega
      subst this
      rw [hAt_last,←h0,zjw]
      exact yw0 hr hB
  · by_cases e:j<hs.length
    · rw [zg1 (by omega)]at hk⊢
      exact h2 i j k hij e hk
    · have:j=hs.length:=by simp at hj;omega
      subst this
      rw [zg1 (by omega)]at hk
      rw [←h0,zjw]
      intro e2
      have:=hold i k hij hk
      have:=yx4 hr e2
      omega
theorem HsO.old {B:Nat} {w:World} {us:List Value} {hs:List (List O)} (h:HsO B w us hs):∀i k,i<hs.length→(uAt us i).ownBlock=some k→k<w.heap.size:=fun i _ hi hk=>owns_lt (h.2.1 i hi) hk
theorem infoSS:(Tryz.prog.info? 241).map (fun i=>(i.zero,i.size,i.bytes))=some (some (.slice none 0 0),1,24):=by kernel_rfl
theorem zlm (a:Option Addr) (n c:Nat):∀u∈ [Value.slice a n c],u.oneCell'=true:=by
  intro u hu
  simp at hu
  subst hu
  rfl
abbrev Z6:Array Value:= #[.int .i64 0,.int .i64 0,.slice none 0 0,.slice none 0 0,.slice none 0 0,.int .i64 0]
structure MB (w:World) (B Rb Mb:Nat) (m:Md) (vi vh vs:Value) (us:List Value):Prop where
  ne:Rb≠Mb
  r:Bk w Rb 36 Z6
  b:Bk w Mb 36 #[.int .i64 m.n,.int .i64 m.s,vi,vh,vs,.int .i64 m.z]
  i:w.ownsRow B 3 1 vi m.i.length (intCells m.i)
  h:w.ownsRow B 241 1 vh m.h.length us
  u:HsO B w us m.h
  e:w.ownsRow B 90 7 vs m.e.length (yvz m.e)
theorem MB.turns {S:Nat→Prop} {w w':World} {B Rb Mb:Nat} {m:Md} {vi vh vs:Value} {us:List Value} (g:MB w B Rb Mb m vi vh vs us) (ht:Turns S w w') (h1:¬S Rb) (h2:¬S Mb) (h3:∀k,vi.ownBlock=some k→ ¬S k) (h4:∀k,vh.ownBlock=some k→ ¬S k) (h5:∀i k,i<m.h.length→(uAt us i).ownBlock=some k→ ¬S k) (h6:∀k,vs.ownBlock=some k→ ¬S k):MB w' B Rb Mb m vi vh vs us:=
  ⟨g.ne,g.r.turns ht h1,g.b.turns ht h2,ypa g.i ht h3,ypa g.h ht h4,g.u.turns ht h5,ypa g.e ht h6⟩
theorem MB.below {w w':World} {B Rb Mb:Nat} {m:Md} {vi vh vs:Value} {us:List Value} (g:MB w B Rb Mb m vi vh vs us) (hb:Below w.heap.size w w'):MB w' B Rb Mb m vi vh vs us:=
  g.turns (S:=fun _=>False) (Turns.of_below hb) id id (fun _ _=>id) (fun _ _=>id) (fun _ _ _ _=>id) (fun _ _=>id)
theorem MB.alloc {w:World} {B Rb Mb:Nat} {m:Md} {vi vh vs:Value} {us:List Value} (g:MB w B Rb Mb m vi vh vs us) (o:Obj):MB (w.alloc o) B Rb Mb m vi vh vs us:=g.below ((Below.refl _ w).alloc (Nat.le_refl _) o)
theorem MB.drew {w:World} {B Rb Mb:Nat} {m:Md} {vi vh vs:Value} {us:List Value} (g:MB w B Rb Mb m vi vh vs us):MB w.drew B Rb Mb m vi vh vs us:=g.below (Below.refl _ w).drew
theorem MB.putH {w w3:World} {B B' Rb Mb:Nat} {m:Md} {vi vh vs v3 u:Value} {us:List Value} {r:List O} (g:MB w B Rb Mb m vi vh vs us) (hu:w.ownsRow B' 244 4 u r.length (yyv r)) (hB:B≤B') (hold:∀i k,i<m.h.length→(uAt us i).ownBlock=some k→k<B') (ho:w3.ownsRow B 241 1 v3 (m.h.length+1) (us++ [u])) (hg:w.grownBy w3 vh.ownBlock):MB (w3.setCell ⟨Mb,3,none⟩ v3) B Rb Mb ⟨m.n,m.s,m.i,m.h++ [r],m.e,m.z⟩ vi v3 vs (us++ [u]):=by
  have ht:=yw9 hg
  have r3:=g.r.turns ht (ywp g.h g.r (by decide))
  have b3:=g.b.turns ht (ywp g.h g.b (by decide))
  have i3:=ypa g.i ht (fun k hk e=>yxy g.h g.i (by decide) e hk)
  have u3:=(g.u.snoc hu hB hold).turns ht (fun i k hi hk e=>yxy g.h ((g.u.snoc hu hB hold).2.1 i hi) (by decide) e hk)
  have e3:=ypa g.e ht (fun k hk e=>yxy g.h g.e (by decide) e hk)
  have hp:=yag w3 Mb 3 v3
  refine⟨g.ne,r3.turns hp g.ne,b3.put 3 _,ypa i3 hp (fun k hk e=>ywp i3 b3 (by decide) (e▸hk)),?_,u3.turns hp (fun i k hi hk e=>ywp (u3.2.1 i hi) b3 (by decide) (e▸hk)),ypa e3 hp (fun k hk e=>ywp e3 b3 (by decide) (e▸hk))⟩
  have:=ypa ho hp (fun k hk e=>ywp ho b3 (by decide) (e▸hk))
  simpa using this
def Aw (N Rb Mb:Nat) (vi vh vs:Value) (us:List Value) (n:Nat):Prop:=Rb<N∧Mb<N∧(∀k,vi.ownBlock=some k→k<N)∧(∀k,vh.ownBlock=some k→k<N)∧(∀i k,i<n→(uAt us i).ownBlock=some k→k<N)∧ ∀k,vs.ownBlock=some k→k<N
theorem MB.aw {w:World} {B Rb Mb:Nat} {m:Md} {vi vh vs:Value} {us:List Value} (g:MB w B Rb Mb m vi vh vs us):Aw w.heap.size Rb Mb vi vh vs us m.h.length:=
  ⟨g.r.lt,g.b.lt,fun _ hk=>owns_lt g.i hk,fun _ hk=>owns_lt g.h hk,g.u.old,fun _ hk=>owns_lt g.e hk⟩
structure MO (w:World) (B:Nat) (m:Md) (vi vh vs:Value) (us:List Value):Prop where
  i:w.ownsRow B 3 1 vi m.i.length (intCells m.i)
  h:w.ownsRow B 241 1 vh m.h.length us
  u:HsO B w us m.h
  e:w.ownsRow B 90 7 vs m.e.length (yvz m.e)
theorem MB.mo {w w':World} {B Rb Mb:Nat} {m:Md} {vi vh vs:Value} {us:List Value} (g:MB w B Rb Mb m vi vh vs us) (ht:Turns (fun k=>k=Rb) w w'):MO w' B m vi vh vs us:=
  ⟨ypa g.i ht (fun _ hk e=>ywp g.i g.r (by decide) (e▸hk)),ypa g.h ht (fun _ hk e=>ywp g.h g.r (by decide) (e▸hk)),g.u.turns ht (fun i _ hi hk e=>ywp (g.u.2.1 i hi) g.r (by decide) (e▸hk)),ypa g.e ht (fun _ hk e=>ywp g.e g.r (by decide) (e▸hk))⟩
theorem MB.grownA {w w':World} {N B Rb Mb:Nat} {m:Md} {vi vh vs:Value} {us:List Value} {row:Option Nat} (g:MB w B Rb Mb m vi vh vs us) (a:Aw N Rb Mb vi vh vs us m.h.length) (hg:w.grownBy w' row) (hr:∀k,row=some k→N≤k):MB w' B Rb Mb m vi vh vs us:=by
  obtain⟨a1,a2,a3,a4,a5,a6⟩:=a
  exact g.turns (yw9 hg) (fun e=>by have:=hr _ e;omega) (fun e=>by have:=hr _ e;omega) (fun k hk e=>by have:=a3 k hk;have:=hr _ e;omega) (fun k hk e=>by have:=a4 k hk;have:=hr _ e;omega) (fun i k hi hk e=>by have:=a5 i k hi hk;have:=hr _ e;omega) (fun k hk e=>by have:=a6 k hk;have:=hr _ e;omega)
theorem RowF.ownB {B:Nat} {T:TypeId} {w:World} {x:Value} {n c:Nat} {cs:List Value} (hcs:cs.length=n*c) (h:w.ownsRow B T c x n cs):RowF (fun k=>x.ownBlock=some k) w x n c cs:=by
  obtain⟨hl,a,cap,rfl,h1,h2,h3⟩:=RowF.of_owns hcs h
  refine⟨hl,a,cap,rfl,h1,h2,h3.imp id ?_⟩
  rintro ⟨g,rfl,_,h4⟩
  exact⟨g,rfl,by simp [Value.ownBlock],h4⟩
theorem us_range {us:List Value} {n:Nat} (h:us.length=n):(List.range n).map (uAt us)=us:=by
  subst h
  apply List.ext_getElem?
  intro i
  by_cases hi:i<us.length
  · simp [hi,uAt]
  · simp [hi]
theorem HsO.hsF {B B':Nat} {w:World} {us:List Value} {hs:List (List O)} {v:Value} (h:HsO B w us hs) (hv:w.ownsRow B' 241 1 v hs.length us):HsF (fun k=>v.ownBlock=some k∨ ∃i,i<hs.length∧(uAt us i).ownBlock=some k) w v hs:=by
  refine⟨uAt us,(fun k=>v.ownBlock=some k),(fun i k=>(uAt us i).ownBlock=some k),?_,fun k e=> .inl e,fun i hi=>⟨RowF.ownB (za5 _) (h.2.1 i hi),fun k e=>⟨.inr ⟨i,hi,e⟩,fun e'=>yxy hv (h.2.1 i hi) (by decide) e' e⟩⟩,fun i j hi hj hij k e=> ?_⟩
  · rw [us_range h.1]
    exact RowF.ownB (by rw [h.1];omega) hv
  · by_cases hlt:i<j
    · exact h.2.2 i j k hlt hj e
    · intro e'
      exact h.2.2 j i k (by omega) hi e' e
theorem MO.mdf {w:World} {B:Nat} {m:Md} {vi vh vs:Value} {us:List Value} (g:MO w B m vi vh vs us):MdF (fun k=>B≤k∧k<w.heap.size) w (.agg #[.int .i64 m.n,.int .i64 m.s,vi,vh,vs,.int .i64 m.z]) m:=by
  refine⟨(fun k=>vi.ownBlock=some k),(fun k=>vh.ownBlock=some k∨ ∃i,i<m.h.length∧(uAt us i).ownBlock=some k),(fun k=>vs.ownBlock=some k),vi,vh,vs,rfl,RowF.ownB (by rw [yws];omega) g.i,g.u.hsF g.h,RowF.ownB (ywc _) g.e,fun k e=>⟨⟨yx4 g.i e,owns_lt g.i e⟩,?_,yxy g.i g.e (by decide) e⟩,?_,fun k e=>⟨yx4 g.e e,owns_lt g.e e⟩⟩
  · rintro (e'|⟨i,hi,e'⟩)
    · exact yxy g.i g.h (by decide) e e'
    · exact yxy g.i (g.u.2.1 i hi) (by decide) e e'
  · rintro k (e|⟨i,hi,e⟩)
    · exact⟨⟨yx4 g.h e,owns_lt g.h e⟩,yxy g.h g.e (by decide) e⟩
    · exact⟨⟨yx4 (g.u.2.1 i hi) e,owns_lt (g.u.2.1 i hi) e⟩,yxy (g.u.2.1 i hi) g.e (by decide) e⟩
theorem infoPt:(Tryz.prog.info? 97).map (fun i=>(i.zero,i.size,i.bytes))=some (some (.agg #[.int .i64 0,.slice none 0 0,.int .i64 0,.int .i64 0,.slice none 0 0,.slice none 0 0,.slice none 0 0]),7,120):=by kernel_rfl
def znw (q:Pa) (u1 u4 u5 u6:Value):List Value:= [.int .i64 q.n,u1,.int .i64 q.st.q,.int .i64 q.st.d,u4,u5,u6]
def paK (K1 K4 K5 K6:Nat→Prop) (r:Nat):Nat→Prop:=if r=1 then K1 else if r=4 then K4 else if r=5 then K5 else if r=6 then K6 else fun _=>False
theorem pa_own {w:World} {q:Pa} {u1 u4 u5 u6:Value} {K1 K4 K5 K6:Nat→Prop} (h1:OwnD w K1 u1 (ywr q.st.r)) (h4:OwnD w K4 u4 (yw3 q.p)) (h5:OwnD w K5 u5 (evsD q.t)) (h6:OwnD w K6 u6 (ywr q.a)):∀r,r<7→OwnD w (paK K1 K4 K5 K6 r) (nthV (znw q u1 u4 u5 u6) r) (q.cell r)
  |0,_=> .val _ _
  |1,_=>h1
  |2,_=> .val _ _
  |3,_=> .val _ _
  |4,_=>h4
  |5,_=>h5
  |6,_=>h6
theorem paK_in {K1 K4 K5 K6 F:Nat→Prop} (d1:∀k,K1 k→F k∧ ¬K4 k∧ ¬K5 k∧ ¬K6 k) (d4:∀k,K4 k→F k∧ ¬K5 k∧ ¬K6 k) (d5:∀k,K5 k→F k∧ ¬K6 k) (d6:∀k,K6 k→F k) (r k:Nat) (h:paK K1 K4 K5 K6 r k):F k:=by
  unfold paK at h
  split at h
  · exact(d1 k h).1
  · split at h
    · exact(d4 k h).1
    · split at h
      · exact(d5 k h).1
      · split at h
        · exact d6 k h
        · exact h.elim
theorem zo0 {K1 K4 K5 K6 F:Nat→Prop} (d1:∀k,K1 k→F k∧ ¬K4 k∧ ¬K5 k∧ ¬K6 k) (d4:∀k,K4 k→F k∧ ¬K5 k∧ ¬K6 k) (d5:∀k,K5 k→F k∧ ¬K6 k) {i j:Nat} (hij:i≠j) (k:Nat) (h:paK K1 K4 K5 K6 i k):¬paK K1 K4 K5 K6 j k:=by
  intro h'
  have e:∀r,paK K1 K4 K5 K6 r k→(r=1∧K1 k)∨(r=4∧K4 k)∨(r=5∧K5 k)∨(r=6∧K6 k):=fun r hr=>by
    unfold paK at hr
    split at hr
    · exact .inl ⟨by assumption,hr⟩
    · split at hr
      · exact .inr (.inl ⟨by assumption,hr⟩)
      · split at hr
        · exact .inr (.inr (.inl ⟨by assumption,hr⟩))
        · split at hr
          · exact .inr (.inr (.inr ⟨by assumption,hr⟩))
          · exact hr.elim
  rcases e i h with ⟨a,b⟩|⟨a,b⟩|⟨a,b⟩|⟨a,b⟩<;>rcases e j h' with ⟨a',b'⟩|⟨a',b'⟩|⟨a',b'⟩|⟨a',b'⟩
  all_goals first
    |(exfalso;omega)
    |exact(d1 k b).2.1 b'
    |exact(d1 k b).2.2.1 b'
    |exact(d1 k b).2.2.2 b'
    |exact(d4 k b).2.1 b'
    |exact(d4 k b).2.2 b'
    |exact(d5 k b).2 b'
    |exact(d1 k b').2.1 b
    |exact(d1 k b').2.2.1 b
    |exact(d1 k b').2.2.2 b
    |exact(d4 k b').2.1 b
    |exact(d4 k b').2.2 b
    |exact(d5 k b').2 b
def PsG (B:Nat) (w:World) (v:Value) (n:Nat) (l:List Pa):Prop:=∃cs G,GrowD B 97 w v 7 n cs (yfa l) G
theorem PsG.nil (B:Nat) (w:World) (l:List Pa):PsG B w (.slice none 0 0) 0 l:=⟨[],fun _ _=>False,GrowD.nil _ _ _ _ _ _⟩
theorem PsG.below {B:Nat} {w w':World} {v:Value} {n:Nat} {l:List Pa} (h:PsG B w v n l) (hb:Below w.heap.size w w'):PsG B w' v n l:=by
  obtain⟨cs,G,h⟩:=h
  exact⟨cs,G,h.below hb⟩
theorem PsG.low {S:Nat→Prop} {B:Nat} {w w':World} {v:Value} {n:Nat} {l:List Pa} (h:PsG B w v n l) (ht:Turns S w w') (hS:∀k,B≤k→ ¬S k):PsG B w' v n l:=by
  obtain⟨cs,G,h⟩:=h
  exact⟨cs,G,h.low ht hS⟩
theorem PsG.row {B:Nat} {w:World} {v:Value} {n:Nat} {l:List Pa} (h:PsG B w v n l):∃cs,w.ownsRow B 97 7 v n cs:=by
  obtain⟨cs,G,h⟩:=h
  exact⟨cs,h.row⟩
theorem GrowD.snocPa {B:Nat} {V0 w w3:World} {v v3 y:Value} {n:Nat} {cs:List Value} {l:List Pa} {G:Nat→Nat→Prop} (h0:GrowD B 97 V0 v 7 n cs (yfa l) G) (hb:Below V0.heap.size V0 w) (hB:B≤V0.heap.size)
    (hy:PartF (fun k=>V0.heap.size≤k∧k<w.heap.size) w y (paAt l n)) (u1 u4 u5 u6:Value) (hform:y= .agg #[.int .i64 (paAt l n).n,u1,.int .i64 (paAt l n).st.q,.int .i64 (paAt l n).st.d,u4,u5,u6])
    (ho:w3.ownsRow B 97 7 v3 (n+1) (cs++znw (paAt l n) u1 u4 u5 u6)) (hg:w.grownBy w3 v.ownBlock) (hw:zdc w v v3):PsG B w3 v3 (n+1) l:=by
  obtain⟨K1,K4,K5,K6,x1,x4,x5,x6,rfl,h1,h4,h5,h6,d1,d4,d5,d6⟩:=hy
  simp only [Value.agg.injEq,Array.mk.injEq,List.cons.injEq,and_true,true_and]at hform
  obtain⟨rfl,rfl,rfl,rfl⟩:=hform
  have hbl:∀k,GrowD.blocks v 7 n G k→k<V0.heap.size:=fun k hk=>(h0.blocks_ge hk).2
  have hK:=paK_in d1 d4 d5 d6
  have h:=(h0.below hb).snoc ho hg hw (pa_own h1 h4 h5 h6) (fun r hr k hk=>⟨by have:=hK r k hk;omega,(hK r k hk).2,fun e=>by have:=hbl k (.inl e);have:=hK r k hk;omega,fun j hj e=>by have:=hbl k (.inr ⟨j,hj,e⟩);have:=hK r k hk;omega⟩) (fun i j hi hj hij=>zo0 d1 d4 d5 hij)
  refine⟨_,_,⟨h.row,fun j hj=> ?_,h.lim,h.dis⟩⟩
  have h9:=h.own j hj
  unfold zdl at h9
  unfold zdl
  by_cases hlt:j<n*7
  · rw [if_pos hlt,if_pos hlt]at h9
    rw [if_pos hlt]
    exact h9
  · rw [if_neg hlt,if_neg hlt]at h9
    rw [if_neg hlt]
    have e9:yfa l j=(paAt l n).cell (j-n*7):=by
      have e8:=yxn l n (r:=j-n*7) (by omega)
      rw [show n*7+(j-n*7)=j from by omega]at e8
      exact e8
    rw [e9]
    exact h9
theorem PsG.ownD {B:Nat} {w:World} {v:Value} {l:List Pa} (h:PsG B w v l.length l):∃A:Nat→Prop,OwnD w A v (ywi l)∧ ∀k,A k→B≤k∧k<w.heap.size:=by
  obtain⟨cs,G,h⟩:=h
  exact⟨_,h.ownD,fun k hk=>h.blocks_ge hk⟩
def put14 (w:World) (b:Nat) (x0:Value) (x1:Value) (x2:Value) (x3:Value) (x4:Value) (x5:Value) (x6:Value) (x7:Value) (x8:Value) (x9:Value) (x10:Value) (x11:Value) (x12:Value) (x13:Value):World:=((((((((((((((w.setCell ⟨b,0,none⟩ x0).setCell ⟨b,1,none⟩ x1).setCell ⟨b,2,none⟩ x2).setCell ⟨b,3,none⟩ x3).setCell ⟨b,4,none⟩ x4).setCell ⟨b,5,none⟩ x5).setCell ⟨b,6,none⟩ x6).setCell ⟨b,7,none⟩ x7).setCell ⟨b,8,none⟩ x8).setCell ⟨b,9,none⟩ x9).setCell ⟨b,10,none⟩ x10).setCell ⟨b,11,none⟩ x11).setCell ⟨b,12,none⟩ x12).setCell ⟨b,13,none⟩ x13)
theorem yyh (w:World) (b:Nat) (x0:Value) (x1:Value) (x2:Value) (x3:Value) (x4:Value) (x5:Value) (x6:Value) (x7:Value) (x8:Value) (x9:Value) (x10:Value) (x11:Value) (x12:Value) (x13:Value):Turns (fun k=>k=b) w (put14 w b x0 x1 x2 x3 x4 x5 x6 x7 x8 x9 x10 x11 x12 x13):=(((((((((((((yag _ _ 0 _).trans (yag _ _ 1 _)).trans (yag _ _ 2 _)).trans (yag _ _ 3 _)).trans (yag _ _ 4 _)).trans (yag _ _ 5 _)).trans (yag _ _ 6 _)).trans (yag _ _ 7 _)).trans (yag _ _ 8 _)).trans (yag _ _ 9 _)).trans (yag _ _ 10 _)).trans (yag _ _ 11 _)).trans (yag _ _ 12 _)).trans (yag _ _ 13 _)
set_option maxHeartbeats 4000000 in
theorem Bk.put14 {w:World} {b:Nat} {T:TypeId} {z0 z1 z2 z3 z4 z5 z6 z7 z8 z9 z10 z11 z12 z13:Value} (h:Bk w b T #[z0,z1,z2,z3,z4,z5,z6,z7,z8,z9,z10,z11,z12,z13]) (x0:Value) (x1:Value) (x2:Value) (x3:Value) (x4:Value) (x5:Value) (x6:Value) (x7:Value) (x8:Value) (x9:Value) (x10:Value) (x11:Value) (x12:Value) (x13:Value):Bk (put14 w b x0 x1 x2 x3 x4 x5 x6 x7 x8 x9 x10 x11 x12 x13) b T #[x0,x1,x2,x3,x4,x5,x6,x7,x8,x9,x10,x11,x12,x13]:=by
  have h0:Bk (w.setCell ⟨b,0,none⟩ x0) b T #[x0,z1,z2,z3,z4,z5,z6,z7,z8,z9,z10,z11,z12,z13]:=h.put 0 x0
  have h1:Bk ((w.setCell ⟨b,0,none⟩ x0).setCell ⟨b,1,none⟩ x1) b T #[x0,x1,z2,z3,z4,z5,z6,z7,z8,z9,z10,z11,z12,z13]:=h0.put 1 x1
  have h2:Bk (((w.setCell ⟨b,0,none⟩ x0).setCell ⟨b,1,none⟩ x1).setCell ⟨b,2,none⟩ x2) b T #[x0,x1,x2,z3,z4,z5,z6,z7,z8,z9,z10,z11,z12,z13]:=h1.put 2 x2
  have h3:Bk ((((w.setCell ⟨b,0,none⟩ x0).setCell ⟨b,1,none⟩ x1).setCell ⟨b,2,none⟩ x2).setCell ⟨b,3,none⟩ x3) b T #[x0,x1,x2,x3,z4,z5,z6,z7,z8,z9,z10,z11,z12,z13]:=h2.put 3 x3
  have h4:Bk (((((w.setCell ⟨b,0,none⟩ x0).setCell ⟨b,1,none⟩ x1).setCell ⟨b,2,none⟩ x2).setCell ⟨b,3,none⟩ x3).setCell ⟨b,4,none⟩ x4) b T #[x0,x1,x2,x3,x4,z5,z6,z7,z8,z9,z10,z11,z12,z13]:=h3.put 4 x4
  have h5:Bk ((((((w.setCell ⟨b,0,none⟩ x0).setCell ⟨b,1,none⟩ x1).setCell ⟨b,2,none⟩ x2).setCell ⟨b,3,none⟩ x3).setCell ⟨b,4,none⟩ x4).setCell ⟨b,5,none⟩ x5) b T #[x0,x1,x2,x3,x4,x5,z6,z7,z8,z9,z10,z11,z12,z13]:=h4.put 5 x5
  have h6:Bk (((((((w.setCell ⟨b,0,none⟩ x0).setCell ⟨b,1,none⟩ x1).setCell ⟨b,2,none⟩ x2).setCell ⟨b,3,none⟩ x3).setCell ⟨b,4,none⟩ x4).setCell ⟨b,5,none⟩ x5).setCell ⟨b,6,none⟩ x6) b T #[x0,x1,x2,x3,x4,x5,x6,z7,z8,z9,z10,z11,z12,z13]:=h5.put 6 x6
  have h7:Bk ((((((((w.setCell ⟨b,0,none⟩ x0).setCell ⟨b,1,none⟩ x1).setCell ⟨b,2,none⟩ x2).setCell ⟨b,3,none⟩ x3).setCell ⟨b,4,none⟩ x4).setCell ⟨b,5,none⟩ x5).setCell ⟨b,6,none⟩ x6).setCell ⟨b,7,none⟩ x7) b T #[x0,x1,x2,x3,x4,x5,x6,x7,z8,z9,z10,z11,z12,z13]:=h6.put 7 x7
  have h8:Bk (((((((((w.setCell ⟨b,0,none⟩ x0).setCell ⟨b,1,none⟩ x1).setCell ⟨b,2,none⟩ x2).setCell ⟨b,3,none⟩ x3).setCell ⟨b,4,none⟩ x4).setCell ⟨b,5,none⟩ x5).setCell ⟨b,6,none⟩ x6).setCell ⟨b,7,none⟩ x7).setCell ⟨b,8,none⟩ x8) b T #[x0,x1,x2,x3,x4,x5,x6,x7,x8,z9,z10,z11,z12,z13]:=h7.put 8 x8
  have h9:Bk ((((((((((w.setCell ⟨b,0,none⟩ x0).setCell ⟨b,1,none⟩ x1).setCell ⟨b,2,none⟩ x2).setCell ⟨b,3,none⟩ x3).setCell ⟨b,4,none⟩ x4).setCell ⟨b,5,none⟩ x5).setCell ⟨b,6,none⟩ x6).setCell ⟨b,7,none⟩ x7).setCell ⟨b,8,none⟩ x8).setCell ⟨b,9,none⟩ x9) b T #[x0,x1,x2,x3,x4,x5,x6,x7,x8,x9,z10,z11,z12,z13]:=h8.put 9 x9
  have h10:Bk (((((((((((w.setCell ⟨b,0,none⟩ x0).setCell ⟨b,1,none⟩ x1).setCell ⟨b,2,none⟩ x2).setCell ⟨b,3,none⟩ x3).setCell ⟨b,4,none⟩ x4).setCell ⟨b,5,none⟩ x5).setCell ⟨b,6,none⟩ x6).setCell ⟨b,7,none⟩ x7).setCell ⟨b,8,none⟩ x8).setCell ⟨b,9,none⟩ x9).setCell ⟨b,10,none⟩ x10) b T #[x0,x1,x2,x3,x4,x5,x6,x7,x8,x9,x10,z11,z12,z13]:=h9.put 10 x10
  have h11:Bk ((((((((((((w.setCell ⟨b,0,none⟩ x0).setCell ⟨b,1,none⟩ x1).setCell ⟨b,2,none⟩ x2).setCell ⟨b,3,none⟩ x3).setCell ⟨b,4,none⟩ x4).setCell ⟨b,5,none⟩ x5).setCell ⟨b,6,none⟩ x6).setCell ⟨b,7,none⟩ x7).setCell ⟨b,8,none⟩ x8).setCell ⟨b,9,none⟩ x9).setCell ⟨b,10,none⟩ x10).setCell ⟨b,11,none⟩ x11) b T #[x0,x1,x2,x3,x4,x5,x6,x7,x8,x9,x10,x11,z12,z13]:=h10.put 11 x11
  have h12:Bk (((((((((((((w.setCell ⟨b,0,none⟩ x0).setCell ⟨b,1,none⟩ x1).setCell ⟨b,2,none⟩ x2).setCell ⟨b,3,none⟩ x3).setCell ⟨b,4,none⟩ x4).setCell ⟨b,5,none⟩ x5).setCell ⟨b,6,none⟩ x6).setCell ⟨b,7,none⟩ x7).setCell ⟨b,8,none⟩ x8).setCell ⟨b,9,none⟩ x9).setCell ⟨b,10,none⟩ x10).setCell ⟨b,11,none⟩ x11).setCell ⟨b,12,none⟩ x12) b T #[x0,x1,x2,x3,x4,x5,x6,x7,x8,x9,x10,x11,x12,z13]:=h11.put 12 x12
  have h13:Bk ((((((((((((((w.setCell ⟨b,0,none⟩ x0).setCell ⟨b,1,none⟩ x1).setCell ⟨b,2,none⟩ x2).setCell ⟨b,3,none⟩ x3).setCell ⟨b,4,none⟩ x4).setCell ⟨b,5,none⟩ x5).setCell ⟨b,6,none⟩ x6).setCell ⟨b,7,none⟩ x7).setCell ⟨b,8,none⟩ x8).setCell ⟨b,9,none⟩ x9).setCell ⟨b,10,none⟩ x10).setCell ⟨b,11,none⟩ x11).setCell ⟨b,12,none⟩ x12).setCell ⟨b,13,none⟩ x13) b T #[x0,x1,x2,x3,x4,x5,x6,x7,x8,x9,x10,x11,x12,x13]:=h12.put 13 x13
  exact h13
theorem src_part {w:World} {X:Nat} {T:TypeId} {z0 z1 z2 z3 z4 z5 z6:Value} (h:Bk w X T #[z0,z1,z2,z3,z4,z5,z6]):SrcC w (.slice (some ⟨X,0,none⟩) 1 1) 7 1 [z0,z1,z2,z3,z4,z5,z6]:=by
  refine⟨rfl,_,_,rfl,.inr ⟨X,0,rfl,h.lt,fun j hj=> ?_⟩⟩
  rw [Nat.zero_add]
  match j,hj with
  |0,_=>exact h.cell rfl
  |1,_=>exact h.cell rfl
  |2,_=>exact h.cell rfl
  |3,_=>exact h.cell rfl
  |4,_=>exact h.cell rfl
  |5,_=>exact h.cell rfl
  |6,_=>exact h.cell rfl
  |(j+7),hj=>omega
theorem zm0 (q:Pa) (a1 a4 a5 a6:Option Addr) (n1 e1 n4 e4 n5 e5 n6 e6:Nat):∀u∈znw q (.slice a1 n1 e1) (.slice a4 n4 e4) (.slice a5 n5 e5) (.slice a6 n6 e6),u.oneCell'=true:=by
  intro u hu
  simp only [znw,List.mem_cons,List.not_mem_nil,or_false]at hu
  rcases hu with rfl|rfl|rfl|rfl|rfl|rfl|rfl<;>rfl
theorem yw4 {w w':World} (h:Below w.heap.size w w') {b o:Nat} (hb:b<w.heap.size):w'.frozen? ⟨b,o,none⟩=w.frozen? ⟨b,o,none⟩:=(Turns.of_below (S:=fun _=>False) h).frozen hb id
end Go.Proofs.YtghndljgadpijaaGreat

