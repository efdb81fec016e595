/- KKt, WTo -/
import Derived.Test.YtmobiieoecjmdaaGreatExactDifferG01
import Derived.Test.YtmobiieoecjmdaaGreatExactDifferG04
import Derived.Test.YtmobiieoecjmdaaGreatExactDifferG39
/- A kernel: a copy of its own. -/
namespace Go.Proofs.YtmobiieoecjmdaaGreat
open Go.RowKit
theorem ya6 {p:Prop} (h:p):Hid p:=h
def KernF (F:Nat→Prop) (w:World) (y:Value) (k:Kn):Prop:=∃(A0 A6 A7 A8 A12 A13:Nat→Prop) (vi vh vs u6 u7 u8 u12 u13:Value),y= .agg #[.int .i64 k.m.n,.int .i64 k.m.s,vi,vh,vs,.int .i64 k.m.z,u6,u7,u8,.int .i64 k.t,.int .i64 k.q,.bool k.f,u12,u13]∧MdF A0 w (.agg #[.int .i64 k.m.n,.int .i64 k.m.s,vi,vh,vs,.int .i64 k.m.z]) k.m∧OwnD w A6 u6 (yax k.d)∧OwnD w A7 u7 (ycz k.p)∧OwnD w A8 u8 (ydz k.b)∧OwnD w A12 u12 (evsD k.s)∧OwnD w A13 u13 (emsD k.x)∧(∀j,A0 j→F j∧ ¬A6 j∧ ¬A7 j∧ ¬A8 j∧ ¬A12 j∧ ¬A13 j)∧(∀j,A6 j→F j∧ ¬A7 j∧ ¬A8 j∧ ¬A12 j∧ ¬A13 j)∧(∀j,A7 j→F j∧ ¬A8 j∧ ¬A12 j∧ ¬A13 j)∧(∀j,A8 j→F j∧ ¬A12 j∧ ¬A13 j)∧(∀j,A12 j→F j∧ ¬A13 j)∧(∀j,A13 j→F j)
theorem KernF.is {F:Nat→Prop} {w:World} {y:Value} {k:Kn} (h:KernF F w y k):IsKern w y k:=by
 obtain⟨_,_,_,_,_,_,vi,vh,vs,u6,u7,u8,u12,u13,rfl,hm,h6,h7,h8,h12,h13,_⟩:=h
 exact⟨vi,vh,vs,u6,u7,u8,u12,u13,rfl,hm.isM,h6.isD,h7.isD,h8.isD,h12.isD,h13.isD⟩
theorem KernF.turns {F S:Nat→Prop} {w w':World} {y:Value} {k:Kn} (h:KernF F w y k) (ht:Turns S w w') (hS:∀j,F j→ ¬S j):KernF F w' y k:=by
 obtain⟨A0,A6,A7,A8,A12,A13,vi,vh,vs,u6,u7,u8,u12,u13,rfl,hm,h6,h7,h8,h12,h13,d0,d6,d7,d8,d12,d13⟩:=h
 exact⟨A0,A6,A7,A8,A12,A13,vi,vh,vs,u6,u7,u8,u12,u13,rfl,hm.turns ht (fun j hj=>hS j (d0 j hj).1),h6.turns ht (fun j hj=>hS j (d6 j hj).1),h7.turns ht (fun j hj=>hS j (d7 j hj).1),h8.turns ht (fun j hj=>hS j (d8 j hj).1),h12.turns ht (fun j hj=>hS j (d12 j hj).1),h13.turns ht (fun j hj=>hS j (d13 j hj)),d0,d6,d7,d8,d12,d13⟩
set_option maxRecDepth 100000 in
set_option maxHeartbeats 8000000 in
theorem yks (x:Value) (k:Kn) (w:World) (hs:yau k) (h:IsKern w x k):
  Calls Tryz.prog 20 #[x] w fun e w'=>∃y,e= .returned y∧Below w.heap.size w w'∧KernF (fun j=>w.heap.size≤j∧j<w'.heap.size) w' y k:=by
 obtain⟨vi,vh,vs,u6,u7,u8,u12,u13,rfl,hm,h6,h7,h8,h12,h13⟩:=h
 have HS:Hid (yau k):=hs
 have HM:=ya6 hm
 have H6:=ya6 h6
 have H7:=ya6 h7
 have H8:=ya6 h8
 have H12:=ya6 h12
 have H13:=ya6 h13
 clear hs hm h6 h7 h8 h12 h13
 obtain⟨V0,hV0⟩:∃V0,((w.alloc (.cells #[.int .i64 k.m.n,.int .i64 k.m.s,vi,vh,vs,.int .i64 k.m.z,u6,u7,u8,.int .i64 k.t,.int .i64 k.q,.bool k.f,u12,u13] 50)).alloc (.cells #[.int .i64 0,.int .i64 0,.slice none 0 0,.slice none 0 0,.slice none 0 0,.int .i64 0,.slice none 0 0,.slice none 0 0,.slice none 0 0,.int .i64 0,.int .i64 0,.bool false,.slice none 0 0,.slice none 0 0] 57)).alloc (.cells #[.int .i64 0,.int .i64 0,.slice none 0 0,.slice none 0 0,.slice none 0 0,.int .i64 0,.slice none 0 0,.slice none 0 0,.slice none 0 0,.int .i64 0,.int .i64 0,.bool false,.slice none 0 0,.slice none 0 0] 57)=V0:=⟨_,rfl⟩
 have HX0:Hid (Below w.heap.size w V0):=by rw [←hV0];exact(((Below.refl _ w).alloc (Nat.le_refl _) _).alloc (by simp) _).alloc (by simp;omega) _
 have hs0:w.heap.size+3≤V0.heap.size:=by rw [←hV0];simp
 have HP0:Hid (Bk V0 w.heap.size 50 #[.int .i64 k.m.n,.int .i64 k.m.s,vi,vh,vs,.int .i64 k.m.z,u6,u7,u8,.int .i64 k.t,.int .i64 k.q,.bool k.f,u12,u13]):=by rw [←hV0];exact((Bk.new w _ _).alloc _).alloc _
 have HR0:Hid (Bk V0 (w.heap.size+1) 57 #[.int .i64 0,.int .i64 0,.slice none 0 0,.slice none 0 0,.slice none 0 0,.int .i64 0,.slice none 0 0,.slice none 0 0,.slice none 0 0,.int .i64 0,.int .i64 0,.bool false,.slice none 0 0,.slice none 0 0]):=by rw [←hV0];exact(Bk.newAt (by simp) _ _).alloc _
 have HQ0:Hid (Bk V0 (w.heap.size+1+1) 57 #[.int .i64 0,.int .i64 0,.slice none 0 0,.slice none 0 0,.slice none 0 0,.int .i64 0,.slice none 0 0,.slice none 0 0,.slice none 0 0,.int .i64 0,.int .i64 0,.bool false,.slice none 0 0,.slice none 0 0]):=by rw [←hV0];exact Bk.newAt (by simp) _ _
 have HW0:=ya6 hV0
 clear hV0
 go_enter Tryz.func20,Tryz.ntmps20
 obtain⟨p0,p1,p2,p3,p4,p5⟩:=ytc HP0.out
 go_wp2_with fail
 rw [HW0.out]
 clear p0 p1 p2 p3 p4 p5
 refine(yi0 _ k.m _ HS.out.1 (HM.out.below HX0.out)).mono ?_
 rintro e w1 ⟨y0,rfl,hb,ho0⟩
 obtain⟨ai,ci,ah,ch,ae,ce,rfl⟩:=MdF.form ho0
 have HO0:=ya6 ho0
 clear ho0
 have hz0:V0.heap.size≤w1.heap.size:=hb.size
 have HXb0:=ya6 (HX0.out.trans (hb.mono (by omega)))
 have HPb0:=ya6 (HP0.out.below hb)
 have HRb0:=ya6 (HR0.out.below hb)
 have HQb0:=ya6 (HQ0.out.below hb)
 clear hb
 obtain⟨qq0,qq1,qq2,qq3,qq4,qq5⟩:=ytc HQb0.out
 have qf0:=HQb0.out.free
 obtain⟨V1,hV1⟩:∃V1,((((((w1.setCell ⟨(w.heap.size+1+1),0,none⟩ (.int .i64 k.m.n)).setCell ⟨(w.heap.size+1+1),1,none⟩ (.int .i64 k.m.s)).setCell ⟨(w.heap.size+1+1),2,none⟩ (.slice ai k.m.i.length ci)).setCell ⟨(w.heap.size+1+1),3,none⟩ (.slice ah k.m.h.length ch)).setCell ⟨(w.heap.size+1+1),4,none⟩ (.slice ae k.m.e.length ce)).setCell ⟨(w.heap.size+1+1),5,none⟩ (.int .i64 k.m.z))=V1:=⟨_,rfl⟩
 have HQ1:Hid (Bk V1 (w.heap.size+1+1) 57 #[.int .i64 k.m.n,.int .i64 k.m.s,.slice ai k.m.i.length ci,.slice ah k.m.h.length ch,.slice ae k.m.e.length ce,.int .i64 k.m.z,.slice none 0 0,.slice none 0 0,.slice none 0 0,.int .i64 0,.int .i64 0,.bool false,.slice none 0 0,.slice none 0 0]):=by rw [←hV1];exact(((((HQb0.out.put 0 _).put 1 _).put 2 _).put 3 _).put 4 _).put 5 _
 have HP1:Hid (Bk V1 w.heap.size 50 #[.int .i64 k.m.n,.int .i64 k.m.s,vi,vh,vs,.int .i64 k.m.z,u6,u7,u8,.int .i64 k.t,.int .i64 k.q,.bool k.f,u12,u13]):=by rw [←hV1];exact((((((HPb0.out.other 0 _ (by omega)).other 1 _ (by omega)).other 2 _ (by omega)).other 3 _ (by omega)).other 4 _ (by omega)).other 5 _ (by omega))
 have HR1:Hid (Bk V1 (w.heap.size+1) 57 #[.int .i64 0,.int .i64 0,.slice none 0 0,.slice none 0 0,.slice none 0 0,.int .i64 0,.slice none 0 0,.slice none 0 0,.slice none 0 0,.int .i64 0,.int .i64 0,.bool false,.slice none 0 0,.slice none 0 0]):=by rw [←hV1];exact((((((HRb0.out.other 0 _ (by omega)).other 1 _ (by omega)).other 2 _ (by omega)).other 3 _ (by omega)).other 4 _ (by omega)).other 5 _ (by omega))
 have HT1:Hid (Turns (fun j=>j=(w.heap.size+1+1)) w1 V1):=by rw [←hV1];exact(((((ya1 _ _ 0 _).trans (ya1 _ _ 1 _)).trans (ya1 _ _ 2 _)).trans (ya1 _ _ 3 _)).trans (ya1 _ _ 4 _)).trans (ya1 _ _ 5 _)
 have hy1:w1.heap.size≤V1.heap.size:=HT1.out.size
 have HX1:=ya6 (HXb0.out.trans (HT1.out.to_below (fun j e=>by omega) (by omega)))
 replace HO0:=ya6 (HO0.out.turns HT1.out (fun j e=>by omega))
 clear HP0 HR0 HQ0 HX0 HPb0 HRb0 HQb0 HXb0
 have p6:=HP1.out.cell (i:=6) rfl
 go_wp2_with fail
 clear qq0 qq1 qq2 qq3 qq4 qq5 qf0 hV1 p6
 refine(ym6 _ k.d _ (by have:=HS.out.2;unfold Kn.wt at this;simp only [yam,yaz,ych,yce]at this;omega) (H6.out.under HX1.out)).mono ?_
 rintro e w2 ⟨y6,rfl,hb,ho6⟩
 obtain⟨a6,c6,rfl,_⟩:=OwnD.parts (c:=1) (n:=k.d.length) ho6
 have HO6:=ya6 ho6
 clear ho6
 have hz1:V1.heap.size≤w2.heap.size:=hb.size
 have HXb1:=ya6 (HX1.out.trans (hb.mono (by omega)))
 have HPb1:=ya6 (HP1.out.below hb)
 have HRb1:=ya6 (HR1.out.below hb)
 have HQb1:=ya6 (HQ1.out.below hb)
 replace HO0:=ya6 (HO0.out.below hb)
 clear hb
 have qq6:=HQb1.out.cell (i:=6) rfl
 have qf1:=HQb1.out.free
 obtain⟨V2,hV2⟩:∃V2,(w2.setCell ⟨(w.heap.size+1+1),6,none⟩ (.slice a6 k.d.length c6))=V2:=⟨_,rfl⟩
 have HQ2:Hid (Bk V2 (w.heap.size+1+1) 57 #[.int .i64 k.m.n,.int .i64 k.m.s,.slice ai k.m.i.length ci,.slice ah k.m.h.length ch,.slice ae k.m.e.length ce,.int .i64 k.m.z,.slice a6 k.d.length c6,.slice none 0 0,.slice none 0 0,.int .i64 0,.int .i64 0,.bool false,.slice none 0 0,.slice none 0 0]):=by rw [←hV2];exact HQb1.out.put 6 _
 have HP2:Hid (Bk V2 w.heap.size 50 #[.int .i64 k.m.n,.int .i64 k.m.s,vi,vh,vs,.int .i64 k.m.z,u6,u7,u8,.int .i64 k.t,.int .i64 k.q,.bool k.f,u12,u13]):=by rw [←hV2];exact(HPb1.out.other 6 _ (by omega))
 have HR2:Hid (Bk V2 (w.heap.size+1) 57 #[.int .i64 0,.int .i64 0,.slice none 0 0,.slice none 0 0,.slice none 0 0,.int .i64 0,.slice none 0 0,.slice none 0 0,.slice none 0 0,.int .i64 0,.int .i64 0,.bool false,.slice none 0 0,.slice none 0 0]):=by rw [←hV2];exact(HRb1.out.other 6 _ (by omega))
 have HT2:Hid (Turns (fun j=>j=(w.heap.size+1+1)) w2 V2):=by rw [←hV2];exact ya1 _ _ 6 _
 have hy2:w2.heap.size≤V2.heap.size:=HT2.out.size
 have HX2:=ya6 (HXb1.out.trans (HT2.out.to_below (fun j e=>by omega) (by omega)))
 replace HO0:=ya6 (HO0.out.turns HT2.out (fun j e=>by omega))
 replace HO6:=ya6 (HO6.out.turns HT2.out (fun j e=>by omega))
 clear HP1 HR1 HQ1 HX1 HPb1 HRb1 HQb1 HXb1
 have p7:=HP2.out.cell (i:=7) rfl
 go_wp2_with fail
 clear qq6 qf1 hV2 p7
 refine(to_parts _ k.p _ (by have:=HS.out.2;unfold Kn.wt at this;simp only [yam,yaz,ych,yce]at this;omega) (H7.out.under HX2.out)).mono ?_
 rintro e w3 ⟨y7,rfl,hb,ho7⟩
 obtain⟨a7,c7,rfl,_⟩:=OwnD.parts (c:=7) (n:=k.p.length) ho7
 have HO7:=ya6 ho7
 clear ho7
 have hz2:V2.heap.size≤w3.heap.size:=hb.size
 have HXb2:=ya6 (HX2.out.trans (hb.mono (by omega)))
 have HPb2:=ya6 (HP2.out.below hb)
 have HRb2:=ya6 (HR2.out.below hb)
 have HQb2:=ya6 (HQ2.out.below hb)
 replace HO0:=ya6 (HO0.out.below hb)
 replace HO6:=ya6 (HO6.out.under hb)
 clear hb
 have qq7:=HQb2.out.cell (i:=7) rfl
 have qf2:=HQb2.out.free
 obtain⟨V3,hV3⟩:∃V3,(w3.setCell ⟨(w.heap.size+1+1),7,none⟩ (.slice a7 k.p.length c7))=V3:=⟨_,rfl⟩
 have HQ3:Hid (Bk V3 (w.heap.size+1+1) 57 #[.int .i64 k.m.n,.int .i64 k.m.s,.slice ai k.m.i.length ci,.slice ah k.m.h.length ch,.slice ae k.m.e.length ce,.int .i64 k.m.z,.slice a6 k.d.length c6,.slice a7 k.p.length c7,.slice none 0 0,.int .i64 0,.int .i64 0,.bool false,.slice none 0 0,.slice none 0 0]):=by rw [←hV3];exact HQb2.out.put 7 _
 have HP3:Hid (Bk V3 w.heap.size 50 #[.int .i64 k.m.n,.int .i64 k.m.s,vi,vh,vs,.int .i64 k.m.z,u6,u7,u8,.int .i64 k.t,.int .i64 k.q,.bool k.f,u12,u13]):=by rw [←hV3];exact(HPb2.out.other 7 _ (by omega))
 have HR3:Hid (Bk V3 (w.heap.size+1) 57 #[.int .i64 0,.int .i64 0,.slice none 0 0,.slice none 0 0,.slice none 0 0,.int .i64 0,.slice none 0 0,.slice none 0 0,.slice none 0 0,.int .i64 0,.int .i64 0,.bool false,.slice none 0 0,.slice none 0 0]):=by rw [←hV3];exact(HRb2.out.other 7 _ (by omega))
 have HT3:Hid (Turns (fun j=>j=(w.heap.size+1+1)) w3 V3):=by rw [←hV3];exact ya1 _ _ 7 _
 have hy3:w3.heap.size≤V3.heap.size:=HT3.out.size
 have HX3:=ya6 (HXb2.out.trans (HT3.out.to_below (fun j e=>by omega) (by omega)))
 replace HO0:=ya6 (HO0.out.turns HT3.out (fun j e=>by omega))
 replace HO6:=ya6 (HO6.out.turns HT3.out (fun j e=>by omega))
 replace HO7:=ya6 (HO7.out.turns HT3.out (fun j e=>by omega))
 clear HP2 HR2 HQ2 HX2 HPb2 HRb2 HQb2 HXb2
 have p8:=HP3.out.cell (i:=8) rfl
 go_wp2_with fail
 clear qq7 qf2 hV3 p8
 refine(to_mails _ k.b _ (by have:=HS.out.2;unfold Kn.wt at this;simp only [yam,yaz,ych,yce]at this;omega) (H8.out.under HX3.out)).mono ?_
 rintro e w4 ⟨y8,rfl,hb,ho8⟩
 obtain⟨a8,c8,rfl,_⟩:=OwnD.parts (c:=8) (n:=k.b.length) ho8
 have HO8:=ya6 ho8
 clear ho8
 have hz3:V3.heap.size≤w4.heap.size:=hb.size
 have HXb3:=ya6 (HX3.out.trans (hb.mono (by omega)))
 have HPb3:=ya6 (HP3.out.below hb)
 have HRb3:=ya6 (HR3.out.below hb)
 have HQb3:=ya6 (HQ3.out.below hb)
 replace HO0:=ya6 (HO0.out.below hb)
 replace HO6:=ya6 (HO6.out.under hb)
 replace HO7:=ya6 (HO7.out.under hb)
 clear hb
 have qq8:=HQb3.out.cell (i:=8) rfl
 have qf3:=HQb3.out.free
 obtain⟨V4,hV4⟩:∃V4,(w4.setCell ⟨(w.heap.size+1+1),8,none⟩ (.slice a8 k.b.length c8))=V4:=⟨_,rfl⟩
 have HQ4:Hid (Bk V4 (w.heap.size+1+1) 57 #[.int .i64 k.m.n,.int .i64 k.m.s,.slice ai k.m.i.length ci,.slice ah k.m.h.length ch,.slice ae k.m.e.length ce,.int .i64 k.m.z,.slice a6 k.d.length c6,.slice a7 k.p.length c7,.slice a8 k.b.length c8,.int .i64 0,.int .i64 0,.bool false,.slice none 0 0,.slice none 0 0]):=by rw [←hV4];exact HQb3.out.put 8 _
 have HP4:Hid (Bk V4 w.heap.size 50 #[.int .i64 k.m.n,.int .i64 k.m.s,vi,vh,vs,.int .i64 k.m.z,u6,u7,u8,.int .i64 k.t,.int .i64 k.q,.bool k.f,u12,u13]):=by rw [←hV4];exact(HPb3.out.other 8 _ (by omega))
 have HR4:Hid (Bk V4 (w.heap.size+1) 57 #[.int .i64 0,.int .i64 0,.slice none 0 0,.slice none 0 0,.slice none 0 0,.int .i64 0,.slice none 0 0,.slice none 0 0,.slice none 0 0,.int .i64 0,.int .i64 0,.bool false,.slice none 0 0,.slice none 0 0]):=by rw [←hV4];exact(HRb3.out.other 8 _ (by omega))
 have HT4:Hid (Turns (fun j=>j=(w.heap.size+1+1)) w4 V4):=by rw [←hV4];exact ya1 _ _ 8 _
 have hy4:w4.heap.size≤V4.heap.size:=HT4.out.size
 have HX4:=ya6 (HXb3.out.trans (HT4.out.to_below (fun j e=>by omega) (by omega)))
 replace HO0:=ya6 (HO0.out.turns HT4.out (fun j e=>by omega))
 replace HO6:=ya6 (HO6.out.turns HT4.out (fun j e=>by omega))
 replace HO7:=ya6 (HO7.out.turns HT4.out (fun j e=>by omega))
 replace HO8:=ya6 (HO8.out.turns HT4.out (fun j e=>by omega))
 clear HP3 HR3 HQ3 HX3 HPb3 HRb3 HQb3 HXb3
 have pp9:=HP4.out.cell (i:=9) rfl
 have qq9:=HQ4.out.cell (i:=9) rfl
 have qf4:=HQ4.out.free
 obtain⟨V5,hV5⟩:∃V5,(V4.setCell ⟨(w.heap.size+1+1),9,none⟩ (.int .i64 k.t))=V5:=⟨_,rfl⟩
 have HQ5:Hid (Bk V5 (w.heap.size+1+1) 57 #[.int .i64 k.m.n,.int .i64 k.m.s,.slice ai k.m.i.length ci,.slice ah k.m.h.length ch,.slice ae k.m.e.length ce,.int .i64 k.m.z,.slice a6 k.d.length c6,.slice a7 k.p.length c7,.slice a8 k.b.length c8,.int .i64 k.t,.int .i64 0,.bool false,.slice none 0 0,.slice none 0 0]):=by rw [←hV5];exact HQ4.out.put 9 _
 have HP5:Hid (Bk V5 w.heap.size 50 #[.int .i64 k.m.n,.int .i64 k.m.s,vi,vh,vs,.int .i64 k.m.z,u6,u7,u8,.int .i64 k.t,.int .i64 k.q,.bool k.f,u12,u13]):=by rw [←hV5];exact(HP4.out.other 9 _ (by omega))
 have HR5:Hid (Bk V5 (w.heap.size+1) 57 #[.int .i64 0,.int .i64 0,.slice none 0 0,.slice none 0 0,.slice none 0 0,.int .i64 0,.slice none 0 0,.slice none 0 0,.slice none 0 0,.int .i64 0,.int .i64 0,.bool false,.slice none 0 0,.slice none 0 0]):=by rw [←hV5];exact(HR4.out.other 9 _ (by omega))
 have HT5:Hid (Turns (fun j=>j=(w.heap.size+1+1)) V4 V5):=by rw [←hV5];exact ya1 _ _ 9 _
 have hy5:V4.heap.size≤V5.heap.size:=HT5.out.size
 have HX5:=ya6 (HX4.out.trans (HT5.out.to_below (fun j e=>by omega) (by omega)))
 replace HO0:=ya6 (HO0.out.turns HT5.out (fun j e=>by omega))
 replace HO6:=ya6 (HO6.out.turns HT5.out (fun j e=>by omega))
 replace HO7:=ya6 (HO7.out.turns HT5.out (fun j e=>by omega))
 replace HO8:=ya6 (HO8.out.turns HT5.out (fun j e=>by omega))
 clear HP4 HR4 HQ4 HX4
 have pp10:=HP5.out.cell (i:=10) rfl
 have qq10:=HQ5.out.cell (i:=10) rfl
 have qf5:=HQ5.out.free
 obtain⟨V6,hV6⟩:∃V6,(V5.setCell ⟨(w.heap.size+1+1),10,none⟩ (.int .i64 k.q))=V6:=⟨_,rfl⟩
 have HQ6:Hid (Bk V6 (w.heap.size+1+1) 57 #[.int .i64 k.m.n,.int .i64 k.m.s,.slice ai k.m.i.length ci,.slice ah k.m.h.length ch,.slice ae k.m.e.length ce,.int .i64 k.m.z,.slice a6 k.d.length c6,.slice a7 k.p.length c7,.slice a8 k.b.length c8,.int .i64 k.t,.int .i64 k.q,.bool false,.slice none 0 0,.slice none 0 0]):=by rw [←hV6];exact HQ5.out.put 10 _
 have HP6:Hid (Bk V6 w.heap.size 50 #[.int .i64 k.m.n,.int .i64 k.m.s,vi,vh,vs,.int .i64 k.m.z,u6,u7,u8,.int .i64 k.t,.int .i64 k.q,.bool k.f,u12,u13]):=by rw [←hV6];exact(HP5.out.other 10 _ (by omega))
 have HR6:Hid (Bk V6 (w.heap.size+1) 57 #[.int .i64 0,.int .i64 0,.slice none 0 0,.slice none 0 0,.slice none 0 0,.int .i64 0,.slice none 0 0,.slice none 0 0,.slice none 0 0,.int .i64 0,.int .i64 0,.bool false,.slice none 0 0,.slice none 0 0]):=by rw [←hV6];exact(HR5.out.other 10 _ (by omega))
 have HT6:Hid (Turns (fun j=>j=(w.heap.size+1+1)) V5 V6):=by rw [←hV6];exact ya1 _ _ 10 _
 have hy6:V5.heap.size≤V6.heap.size:=HT6.out.size
 have HX6:=ya6 (HX5.out.trans (HT6.out.to_below (fun j e=>by omega) (by omega)))
 replace HO0:=ya6 (HO0.out.turns HT6.out (fun j e=>by omega))
 replace HO6:=ya6 (HO6.out.turns HT6.out (fun j e=>by omega))
 replace HO7:=ya6 (HO7.out.turns HT6.out (fun j e=>by omega))
 replace HO8:=ya6 (HO8.out.turns HT6.out (fun j e=>by omega))
 clear HP5 HR5 HQ5 HX5
 have pp11:=HP6.out.cell (i:=11) rfl
 have qq11:=HQ6.out.cell (i:=11) rfl
 have qf6:=HQ6.out.free
 obtain⟨V7,hV7⟩:∃V7,(V6.setCell ⟨(w.heap.size+1+1),11,none⟩ (.bool k.f))=V7:=⟨_,rfl⟩
 have HQ7:Hid (Bk V7 (w.heap.size+1+1) 57 #[.int .i64 k.m.n,.int .i64 k.m.s,.slice ai k.m.i.length ci,.slice ah k.m.h.length ch,.slice ae k.m.e.length ce,.int .i64 k.m.z,.slice a6 k.d.length c6,.slice a7 k.p.length c7,.slice a8 k.b.length c8,.int .i64 k.t,.int .i64 k.q,.bool k.f,.slice none 0 0,.slice none 0 0]):=by rw [←hV7];exact HQ6.out.put 11 _
 have HP7:Hid (Bk V7 w.heap.size 50 #[.int .i64 k.m.n,.int .i64 k.m.s,vi,vh,vs,.int .i64 k.m.z,u6,u7,u8,.int .i64 k.t,.int .i64 k.q,.bool k.f,u12,u13]):=by rw [←hV7];exact(HP6.out.other 11 _ (by omega))
 have HR7:Hid (Bk V7 (w.heap.size+1) 57 #[.int .i64 0,.int .i64 0,.slice none 0 0,.slice none 0 0,.slice none 0 0,.int .i64 0,.slice none 0 0,.slice none 0 0,.slice none 0 0,.int .i64 0,.int .i64 0,.bool false,.slice none 0 0,.slice none 0 0]):=by rw [←hV7];exact(HR6.out.other 11 _ (by omega))
 have HT7:Hid (Turns (fun j=>j=(w.heap.size+1+1)) V6 V7):=by rw [←hV7];exact ya1 _ _ 11 _
 have hy7:V6.heap.size≤V7.heap.size:=HT7.out.size
 have HX7:=ya6 (HX6.out.trans (HT7.out.to_below (fun j e=>by omega) (by omega)))
 replace HO0:=ya6 (HO0.out.turns HT7.out (fun j e=>by omega))
 replace HO6:=ya6 (HO6.out.turns HT7.out (fun j e=>by omega))
 replace HO7:=ya6 (HO7.out.turns HT7.out (fun j e=>by omega))
 replace HO8:=ya6 (HO8.out.turns HT7.out (fun j e=>by omega))
 clear HP6 HR6 HQ6 HX6
 have p12:=HP7.out.cell (i:=12) rfl
 go_wp2_with fail
 clear qq8 qf3 hV4 pp9 qq9 qf4 hV5 pp10 qq10 qf5 hV6 pp11 qq11 qf6 hV7 p12
 refine(yqn _ k.s _ (by have:=HS.out.2;unfold Kn.wt at this;simp only [yam,yaz,ych,yce]at this;omega) (H12.out.under HX7.out)).mono ?_
 rintro e w8 ⟨y12,rfl,hb,ho12⟩
 obtain⟨a12,c12,rfl,_⟩:=OwnD.parts (c:=7) (n:=k.s.length) ho12
 have HO12:=ya6 ho12
 clear ho12
 have hz7:V7.heap.size≤w8.heap.size:=hb.size
 have HXb7:=ya6 (HX7.out.trans (hb.mono (by omega)))
 have HPb7:=ya6 (HP7.out.below hb)
 have HRb7:=ya6 (HR7.out.below hb)
 have HQb7:=ya6 (HQ7.out.below hb)
 replace HO0:=ya6 (HO0.out.below hb)
 replace HO6:=ya6 (HO6.out.under hb)
 replace HO7:=ya6 (HO7.out.under hb)
 replace HO8:=ya6 (HO8.out.under hb)
 clear hb
 have qq12:=HQb7.out.cell (i:=12) rfl
 have qf7:=HQb7.out.free
 obtain⟨V8,hV8⟩:∃V8,(w8.setCell ⟨(w.heap.size+1+1),12,none⟩ (.slice a12 k.s.length c12))=V8:=⟨_,rfl⟩
 have HQ8:Hid (Bk V8 (w.heap.size+1+1) 57 #[.int .i64 k.m.n,.int .i64 k.m.s,.slice ai k.m.i.length ci,.slice ah k.m.h.length ch,.slice ae k.m.e.length ce,.int .i64 k.m.z,.slice a6 k.d.length c6,.slice a7 k.p.length c7,.slice a8 k.b.length c8,.int .i64 k.t,.int .i64 k.q,.bool k.f,.slice a12 k.s.length c12,.slice none 0 0]):=by rw [←hV8];exact HQb7.out.put 12 _
 have HP8:Hid (Bk V8 w.heap.size 50 #[.int .i64 k.m.n,.int .i64 k.m.s,vi,vh,vs,.int .i64 k.m.z,u6,u7,u8,.int .i64 k.t,.int .i64 k.q,.bool k.f,u12,u13]):=by rw [←hV8];exact(HPb7.out.other 12 _ (by omega))
 have HR8:Hid (Bk V8 (w.heap.size+1) 57 #[.int .i64 0,.int .i64 0,.slice none 0 0,.slice none 0 0,.slice none 0 0,.int .i64 0,.slice none 0 0,.slice none 0 0,.slice none 0 0,.int .i64 0,.int .i64 0,.bool false,.slice none 0 0,.slice none 0 0]):=by rw [←hV8];exact(HRb7.out.other 12 _ (by omega))
 have HT8:Hid (Turns (fun j=>j=(w.heap.size+1+1)) w8 V8):=by rw [←hV8];exact ya1 _ _ 12 _
 have hy8:w8.heap.size≤V8.heap.size:=HT8.out.size
 have HX8:=ya6 (HXb7.out.trans (HT8.out.to_below (fun j e=>by omega) (by omega)))
 replace HO0:=ya6 (HO0.out.turns HT8.out (fun j e=>by omega))
 replace HO6:=ya6 (HO6.out.turns HT8.out (fun j e=>by omega))
 replace HO7:=ya6 (HO7.out.turns HT8.out (fun j e=>by omega))
 replace HO8:=ya6 (HO8.out.turns HT8.out (fun j e=>by omega))
 replace HO12:=ya6 (HO12.out.turns HT8.out (fun j e=>by omega))
 clear HP7 HR7 HQ7 HX7 HPb7 HRb7 HQb7 HXb7
 have p13:=HP8.out.cell (i:=13) rfl
 go_wp2_with fail
 clear qq12 qf7 hV8 p13
 refine(to_ems _ k.x _ (by have:=HS.out.2;unfold Kn.wt at this;simp only [yam,yaz,ych,yce]at this;omega) (H13.out.under HX8.out)).mono ?_
 rintro e w9 ⟨y13,rfl,hb,ho13⟩
 obtain⟨a13,c13,rfl,_⟩:=OwnD.parts (c:=3) (n:=k.x.length) ho13
 have HO13:=ya6 ho13
 clear ho13
 have hz8:V8.heap.size≤w9.heap.size:=hb.size
 have HXb8:=ya6 (HX8.out.trans (hb.mono (by omega)))
 have HPb8:=ya6 (HP8.out.below hb)
 have HRb8:=ya6 (HR8.out.below hb)
 have HQb8:=ya6 (HQ8.out.below hb)
 replace HO0:=ya6 (HO0.out.below hb)
 replace HO6:=ya6 (HO6.out.under hb)
 replace HO7:=ya6 (HO7.out.under hb)
 replace HO8:=ya6 (HO8.out.under hb)
 replace HO12:=ya6 (HO12.out.under hb)
 clear hb
 have qq13:=HQb8.out.cell (i:=13) rfl
 have qf8:=HQb8.out.free
 obtain⟨V9,hV9⟩:∃V9,(w9.setCell ⟨(w.heap.size+1+1),13,none⟩ (.slice a13 k.x.length c13))=V9:=⟨_,rfl⟩
 have HQ9:Hid (Bk V9 (w.heap.size+1+1) 57 #[.int .i64 k.m.n,.int .i64 k.m.s,.slice ai k.m.i.length ci,.slice ah k.m.h.length ch,.slice ae k.m.e.length ce,.int .i64 k.m.z,.slice a6 k.d.length c6,.slice a7 k.p.length c7,.slice a8 k.b.length c8,.int .i64 k.t,.int .i64 k.q,.bool k.f,.slice a12 k.s.length c12,.slice a13 k.x.length c13]):=by rw [←hV9];exact HQb8.out.put 13 _
 have HP9:Hid (Bk V9 w.heap.size 50 #[.int .i64 k.m.n,.int .i64 k.m.s,vi,vh,vs,.int .i64 k.m.z,u6,u7,u8,.int .i64 k.t,.int .i64 k.q,.bool k.f,u12,u13]):=by rw [←hV9];exact(HPb8.out.other 13 _ (by omega))
 have HR9:Hid (Bk V9 (w.heap.size+1) 57 #[.int .i64 0,.int .i64 0,.slice none 0 0,.slice none 0 0,.slice none 0 0,.int .i64 0,.slice none 0 0,.slice none 0 0,.slice none 0 0,.int .i64 0,.int .i64 0,.bool false,.slice none 0 0,.slice none 0 0]):=by rw [←hV9];exact(HRb8.out.other 13 _ (by omega))
 have HT9:Hid (Turns (fun j=>j=(w.heap.size+1+1)) w9 V9):=by rw [←hV9];exact ya1 _ _ 13 _
 have hy9:w9.heap.size≤V9.heap.size:=HT9.out.size
 have HX9:=ya6 (HXb8.out.trans (HT9.out.to_below (fun j e=>by omega) (by omega)))
 replace HO0:=ya6 (HO0.out.turns HT9.out (fun j e=>by omega))
 replace HO6:=ya6 (HO6.out.turns HT9.out (fun j e=>by omega))
 replace HO7:=ya6 (HO7.out.turns HT9.out (fun j e=>by omega))
 replace HO8:=ya6 (HO8.out.turns HT9.out (fun j e=>by omega))
 replace HO12:=ya6 (HO12.out.turns HT9.out (fun j e=>by omega))
 replace HO13:=ya6 (HO13.out.turns HT9.out (fun j e=>by omega))
 clear HP8 HR8 HQ8 HX8 HPb8 HRb8 HQb8 HXb8
 have oo0:=HQ9.out.cell (i:=0) rfl
 have rr0:=HR9.out.cell (i:=0) rfl
 have oo1:=HQ9.out.cell (i:=1) rfl
 have rr1:=HR9.out.cell (i:=1) rfl
 have oo2:=HQ9.out.cell (i:=2) rfl
 have rr2:=HR9.out.cell (i:=2) rfl
 have oo3:=HQ9.out.cell (i:=3) rfl
 have rr3:=HR9.out.cell (i:=3) rfl
 have oo4:=HQ9.out.cell (i:=4) rfl
 have rr4:=HR9.out.cell (i:=4) rfl
 have oo5:=HQ9.out.cell (i:=5) rfl
 have rr5:=HR9.out.cell (i:=5) rfl
 have oo6:=HQ9.out.cell (i:=6) rfl
 have rr6:=HR9.out.cell (i:=6) rfl
 have oo7:=HQ9.out.cell (i:=7) rfl
 have rr7:=HR9.out.cell (i:=7) rfl
 have oo8:=HQ9.out.cell (i:=8) rfl
 have rr8:=HR9.out.cell (i:=8) rfl
 have oo9:=HQ9.out.cell (i:=9) rfl
 have rr9:=HR9.out.cell (i:=9) rfl
 have oo10:=HQ9.out.cell (i:=10) rfl
 have rr10:=HR9.out.cell (i:=10) rfl
 have oo11:=HQ9.out.cell (i:=11) rfl
 have rr11:=HR9.out.cell (i:=11) rfl
 have oo12:=HQ9.out.cell (i:=12) rfl
 have rr12:=HR9.out.cell (i:=12) rfl
 have oo13:=HQ9.out.cell (i:=13) rfl
 have rr13:=HR9.out.cell (i:=13) rfl
 have rf:=HR9.out.free
 go_wp2
 clear rf oo0 rr0 oo1 rr1 oo2 rr2 oo3 rr3 oo4 rr4 oo5 rr5 oo6 rr6 oo7 rr7 oo8 rr8 oo9 rr9 oo10 rr10 oo11 rr11 oo12 rr12 oo13 rr13 qq13 qf8 hV9
 have HY0:=HR9.out
 have HU0:Turns (fun j=>j=(w.heap.size+1)) V9 V9:=Turns.refl _ _
 obtain⟨Y1,hY1⟩:∃Y1,V9.setCell ⟨(w.heap.size+1),0,none⟩ (.int .i64 k.m.n)=Y1:=⟨_,rfl⟩
 have HY1:Bk Y1 (w.heap.size+1) 57 #[.int .i64 k.m.n,.int .i64 0,.slice none 0 0,.slice none 0 0,.slice none 0 0,.int .i64 0,.slice none 0 0,.slice none 0 0,.slice none 0 0,.int .i64 0,.int .i64 0,.bool false,.slice none 0 0,.slice none 0 0]:=hY1▸HY0.put 0 _
 have HU1:Turns (fun j=>j=(w.heap.size+1)) V9 Y1:=HU0.trans (hY1▸ya1 _ _ 0 _)
 clear HY0 HU0
 obtain⟨Y2,hY2⟩:∃Y2,Y1.setCell ⟨(w.heap.size+1),1,none⟩ (.int .i64 k.m.s)=Y2:=⟨_,rfl⟩
 have HY2:Bk Y2 (w.heap.size+1) 57 #[.int .i64 k.m.n,.int .i64 k.m.s,.slice none 0 0,.slice none 0 0,.slice none 0 0,.int .i64 0,.slice none 0 0,.slice none 0 0,.slice none 0 0,.int .i64 0,.int .i64 0,.bool false,.slice none 0 0,.slice none 0 0]:=hY2▸HY1.put 1 _
 have HU2:Turns (fun j=>j=(w.heap.size+1)) V9 Y2:=HU1.trans (hY2▸ya1 _ _ 1 _)
 clear HY1 HU1
 obtain⟨Y3,hY3⟩:∃Y3,Y2.setCell ⟨(w.heap.size+1),2,none⟩ (.slice ai k.m.i.length ci)=Y3:=⟨_,rfl⟩
 have HY3:Bk Y3 (w.heap.size+1) 57 #[.int .i64 k.m.n,.int .i64 k.m.s,.slice ai k.m.i.length ci,.slice none 0 0,.slice none 0 0,.int .i64 0,.slice none 0 0,.slice none 0 0,.slice none 0 0,.int .i64 0,.int .i64 0,.bool false,.slice none 0 0,.slice none 0 0]:=hY3▸HY2.put 2 _
 have HU3:Turns (fun j=>j=(w.heap.size+1)) V9 Y3:=HU2.trans (hY3▸ya1 _ _ 2 _)
 clear HY2 HU2
 obtain⟨Y4,hY4⟩:∃Y4,Y3.setCell ⟨(w.heap.size+1),3,none⟩ (.slice ah k.m.h.length ch)=Y4:=⟨_,rfl⟩
 have HY4:Bk Y4 (w.heap.size+1) 57 #[.int .i64 k.m.n,.int .i64 k.m.s,.slice ai k.m.i.length ci,.slice ah k.m.h.length ch,.slice none 0 0,.int .i64 0,.slice none 0 0,.slice none 0 0,.slice none 0 0,.int .i64 0,.int .i64 0,.bool false,.slice none 0 0,.slice none 0 0]:=hY4▸HY3.put 3 _
 have HU4:Turns (fun j=>j=(w.heap.size+1)) V9 Y4:=HU3.trans (hY4▸ya1 _ _ 3 _)
 clear HY3 HU3
 obtain⟨Y5,hY5⟩:∃Y5,Y4.setCell ⟨(w.heap.size+1),4,none⟩ (.slice ae k.m.e.length ce)=Y5:=⟨_,rfl⟩
 have HY5:Bk Y5 (w.heap.size+1) 57 #[.int .i64 k.m.n,.int .i64 k.m.s,.slice ai k.m.i.length ci,.slice ah k.m.h.length ch,.slice ae k.m.e.length ce,.int .i64 0,.slice none 0 0,.slice none 0 0,.slice none 0 0,.int .i64 0,.int .i64 0,.bool false,.slice none 0 0,.slice none 0 0]:=hY5▸HY4.put 4 _
 have HU5:Turns (fun j=>j=(w.heap.size+1)) V9 Y5:=HU4.trans (hY5▸ya1 _ _ 4 _)
 clear HY4 HU4
 obtain⟨Y6,hY6⟩:∃Y6,Y5.setCell ⟨(w.heap.size+1),5,none⟩ (.int .i64 k.m.z)=Y6:=⟨_,rfl⟩
 have HY6:Bk Y6 (w.heap.size+1) 57 #[.int .i64 k.m.n,.int .i64 k.m.s,.slice ai k.m.i.length ci,.slice ah k.m.h.length ch,.slice ae k.m.e.length ce,.int .i64 k.m.z,.slice none 0 0,.slice none 0 0,.slice none 0 0,.int .i64 0,.int .i64 0,.bool false,.slice none 0 0,.slice none 0 0]:=hY6▸HY5.put 5 _
 have HU6:Turns (fun j=>j=(w.heap.size+1)) V9 Y6:=HU5.trans (hY6▸ya1 _ _ 5 _)
 clear HY5 HU5
 obtain⟨Y7,hY7⟩:∃Y7,Y6.setCell ⟨(w.heap.size+1),6,none⟩ (.slice a6 k.d.length c6)=Y7:=⟨_,rfl⟩
 have HY7:Bk Y7 (w.heap.size+1) 57 #[.int .i64 k.m.n,.int .i64 k.m.s,.slice ai k.m.i.length ci,.slice ah k.m.h.length ch,.slice ae k.m.e.length ce,.int .i64 k.m.z,.slice a6 k.d.length c6,.slice none 0 0,.slice none 0 0,.int .i64 0,.int .i64 0,.bool false,.slice none 0 0,.slice none 0 0]:=hY7▸HY6.put 6 _
 have HU7:Turns (fun j=>j=(w.heap.size+1)) V9 Y7:=HU6.trans (hY7▸ya1 _ _ 6 _)
 clear HY6 HU6
 obtain⟨Y8,hY8⟩:∃Y8,Y7.setCell ⟨(w.heap.size+1),7,none⟩ (.slice a7 k.p.length c7)=Y8:=⟨_,rfl⟩
 have HY8:Bk Y8 (w.heap.size+1) 57 #[.int .i64 k.m.n,.int .i64 k.m.s,.slice ai k.m.i.length ci,.slice ah k.m.h.length ch,.slice ae k.m.e.length ce,.int .i64 k.m.z,.slice a6 k.d.length c6,.slice a7 k.p.length c7,.slice none 0 0,.int .i64 0,.int .i64 0,.bool false,.slice none 0 0,.slice none 0 0]:=hY8▸HY7.put 7 _
 have HU8:Turns (fun j=>j=(w.heap.size+1)) V9 Y8:=HU7.trans (hY8▸ya1 _ _ 7 _)
 clear HY7 HU7
 obtain⟨Y9,hY9⟩:∃Y9,Y8.setCell ⟨(w.heap.size+1),8,none⟩ (.slice a8 k.b.length c8)=Y9:=⟨_,rfl⟩
 have HY9:Bk Y9 (w.heap.size+1) 57 #[.int .i64 k.m.n,.int .i64 k.m.s,.slice ai k.m.i.length ci,.slice ah k.m.h.length ch,.slice ae k.m.e.length ce,.int .i64 k.m.z,.slice a6 k.d.length c6,.slice a7 k.p.length c7,.slice a8 k.b.length c8,.int .i64 0,.int .i64 0,.bool false,.slice none 0 0,.slice none 0 0]:=hY9▸HY8.put 8 _
 have HU9:Turns (fun j=>j=(w.heap.size+1)) V9 Y9:=HU8.trans (hY9▸ya1 _ _ 8 _)
 clear HY8 HU8
 obtain⟨Y10,hY10⟩:∃Y10,Y9.setCell ⟨(w.heap.size+1),9,none⟩ (.int .i64 k.t)=Y10:=⟨_,rfl⟩
 have HY10:Bk Y10 (w.heap.size+1) 57 #[.int .i64 k.m.n,.int .i64 k.m.s,.slice ai k.m.i.length ci,.slice ah k.m.h.length ch,.slice ae k.m.e.length ce,.int .i64 k.m.z,.slice a6 k.d.length c6,.slice a7 k.p.length c7,.slice a8 k.b.length c8,.int .i64 k.t,.int .i64 0,.bool false,.slice none 0 0,.slice none 0 0]:=hY10▸HY9.put 9 _
 have HU10:Turns (fun j=>j=(w.heap.size+1)) V9 Y10:=HU9.trans (hY10▸ya1 _ _ 9 _)
 clear HY9 HU9
 obtain⟨Y11,hY11⟩:∃Y11,Y10.setCell ⟨(w.heap.size+1),10,none⟩ (.int .i64 k.q)=Y11:=⟨_,rfl⟩
 have HY11:Bk Y11 (w.heap.size+1) 57 #[.int .i64 k.m.n,.int .i64 k.m.s,.slice ai k.m.i.length ci,.slice ah k.m.h.length ch,.slice ae k.m.e.length ce,.int .i64 k.m.z,.slice a6 k.d.length c6,.slice a7 k.p.length c7,.slice a8 k.b.length c8,.int .i64 k.t,.int .i64 k.q,.bool false,.slice none 0 0,.slice none 0 0]:=hY11▸HY10.put 10 _
 have HU11:Turns (fun j=>j=(w.heap.size+1)) V9 Y11:=HU10.trans (hY11▸ya1 _ _ 10 _)
 clear HY10 HU10
 obtain⟨Y12,hY12⟩:∃Y12,Y11.setCell ⟨(w.heap.size+1),11,none⟩ (.bool k.f)=Y12:=⟨_,rfl⟩
 have HY12:Bk Y12 (w.heap.size+1) 57 #[.int .i64 k.m.n,.int .i64 k.m.s,.slice ai k.m.i.length ci,.slice ah k.m.h.length ch,.slice ae k.m.e.length ce,.int .i64 k.m.z,.slice a6 k.d.length c6,.slice a7 k.p.length c7,.slice a8 k.b.length c8,.int .i64 k.t,.int .i64 k.q,.bool k.f,.slice none 0 0,.slice none 0 0]:=hY12▸HY11.put 11 _
 have HU12:Turns (fun j=>j=(w.heap.size+1)) V9 Y12:=HU11.trans (hY12▸ya1 _ _ 11 _)
 clear HY11 HU11
 obtain⟨Y13,hY13⟩:∃Y13,Y12.setCell ⟨(w.heap.size+1),12,none⟩ (.slice a12 k.s.length c12)=Y13:=⟨_,rfl⟩
 have HY13:Bk Y13 (w.heap.size+1) 57 #[.int .i64 k.m.n,.int .i64 k.m.s,.slice ai k.m.i.length ci,.slice ah k.m.h.length ch,.slice ae k.m.e.length ce,.int .i64 k.m.z,.slice a6 k.d.length c6,.slice a7 k.p.length c7,.slice a8 k.b.length c8,.int .i64 k.t,.int .i64 k.q,.bool k.f,.slice a12 k.s.length c12,.slice none 0 0]:=hY13▸HY12.put 12 _
 have HU13:Turns (fun j=>j=(w.heap.size+1)) V9 Y13:=HU12.trans (hY13▸ya1 _ _ 12 _)
 clear HY12 HU12
 obtain⟨Y14,hY14⟩:∃Y14,Y13.setCell ⟨(w.heap.size+1),13,none⟩ (.slice a13 k.x.length c13)=Y14:=⟨_,rfl⟩
 have HY14:Bk Y14 (w.heap.size+1) 57 #[.int .i64 k.m.n,.int .i64 k.m.s,.slice ai k.m.i.length ci,.slice ah k.m.h.length ch,.slice ae k.m.e.length ce,.int .i64 k.m.z,.slice a6 k.d.length c6,.slice a7 k.p.length c7,.slice a8 k.b.length c8,.int .i64 k.t,.int .i64 k.q,.bool k.f,.slice a12 k.s.length c12,.slice a13 k.x.length c13]:=hY14▸HY13.put 13 _
 have HU14:Turns (fun j=>j=(w.heap.size+1)) V9 Y14:=HU13.trans (hY14▸ya1 _ _ 13 _)
 clear HY13 HU13
 rw [hY1,hY2,hY3,hY4,hY5,hY6,hY7,hY8,hY9,hY10,hY11,hY12,hY13,hY14]
 have hR:=HY14
 have hT:=HU14
 obtain⟨t0,t1,t2,t3,t4,t5,t6,t7,t8,t9,t10,t11,t12,t13⟩:=ydf hR
 have hsz:=hT.size
 refine bodyPost_ret (v:= .agg #[.int .i64 k.m.n,.int .i64 k.m.s,.slice ai k.m.i.length ci,.slice ah k.m.h.length ch,.slice ae k.m.e.length ce,.int .i64 k.m.z,.slice a6 k.d.length c6,.slice a7 k.p.length c7,.slice a8 k.b.length c8,.int .i64 k.t,.int .i64 k.q,.bool k.f,.slice a12 k.s.length c12,.slice a13 k.x.length c13]) (by simp [results,Tryz.results20,go_sem,t0,t1,t2,t3,t4,t5,t6,t7,t8,t9,t10,t11,t12,t13]) rfl ⟨_,rfl,HX9.out.trans (hT.to_below (fun j e=>by omega) (by omega)),_,_,_,_,_,_,_,_,_,_,_,_,_,_,rfl,HO0.out.turns hT (fun j e=>by omega),HO6.out.turns hT (fun j e=>by omega),HO7.out.turns hT (fun j e=>by omega),HO8.out.turns hT (fun j e=>by omega),HO12.out.turns hT (fun j e=>by omega),HO13.out.turns hT (fun j e=>by omega),fun j e=>⟨⟨by omega,by omega⟩,fun e2=>by omega,fun e2=>by omega,fun e2=>by omega,fun e2=>by omega,fun e2=>by omega⟩,fun j e=>⟨⟨by omega,by omega⟩,fun e2=>by omega,fun e2=>by omega,fun e2=>by omega,fun e2=>by omega⟩,fun j e=>⟨⟨by omega,by omega⟩,fun e2=>by omega,fun e2=>by omega,fun e2=>by omega⟩,fun j e=>⟨⟨by omega,by omega⟩,fun e2=>by omega,fun e2=>by omega⟩,fun j e=>⟨⟨by omega,by omega⟩,fun e2=>by omega⟩,fun j e=>⟨by omega,by omega⟩⟩
set_option maxHeartbeats 8000000
set_option maxRecDepth 100000
open Go.RowKit
theorem ybf {p:Prop} (h:p):Hid p:=h
theorem infoKern:(Tryz.prog.info? 57).map (fun i=>(i.zero,i.size,i.bytes))=some (some (.agg #[.int .i64 0,.int .i64 0,.slice none 0 0,.slice none 0 0,.slice none 0 0,.int .i64 0,.slice none 0 0,.slice none 0 0,.slice none 0 0,.int .i64 0,.int .i64 0,.bool false,.slice none 0 0,.slice none 0 0]),14,240):=by kernel_rfl
theorem put14_is (w:World) (g m:Nat) (v0 v1 v2 v3 v4 v5 v6 v7 v8 v9 v10 v11 v12 v13:Value):((((((((((((((w.setCell ⟨g,m,none⟩ (v0)).setCell ⟨g,m+1,none⟩ (v1)).setCell ⟨g,m+2,none⟩ (v2)).setCell ⟨g,m+3,none⟩ (v3)).setCell ⟨g,m+4,none⟩ (v4)).setCell ⟨g,m+5,none⟩ (v5)).setCell ⟨g,m+6,none⟩ (v6)).setCell ⟨g,m+7,none⟩ (v7)).setCell ⟨g,m+8,none⟩ (v8)).setCell ⟨g,m+9,none⟩ (v9)).setCell ⟨g,m+10,none⟩ (v10)).setCell ⟨g,m+11,none⟩ (v11)).setCell ⟨g,m+12,none⟩ (v12)).setCell ⟨g,m+13,none⟩ (v13))=w.setCells g m [v0,v1,v2,v3,v4,v5,v6,v7,v8,v9,v10,v11,v12,v13]:=rfl
theorem yec (g:Nat):∀(vs:List Value) (m:Nat) (w:World),Turns (fun k=>k=g) w (w.setCells g m vs)
 | [],_,w=>Turns.refl _ w
 |v::vs,m,w=>(ya1 w g m v).trans (yec g vs (m+1) (w.setCell ⟨g,m,none⟩ v))
theorem KernF.form {F:Nat→Prop} {w:World} {y:Value} {k:Kn} (h:KernF F w y k):∃ai ci ah ch ae ce a6 c6 a7 c7 a8 c8 a12 c12 a13 c13,y= .agg #[.int .i64 k.m.n,.int .i64 k.m.s,.slice ai k.m.i.length ci,.slice ah k.m.h.length ch,.slice ae k.m.e.length ce,.int .i64 k.m.z,.slice a6 k.d.length c6,.slice a7 k.p.length c7,.slice a8 k.b.length c8,.int .i64 k.t,.int .i64 k.q,.bool k.f,.slice a12 k.s.length c12,.slice a13 k.x.length c13]:=by
 obtain⟨A0,A6,A7,A8,A12,A13,vi,vh,vs,u6,u7,u8,u12,u13,rfl,hm,h6,h7,h8,h12,h13,_⟩:=h
 obtain⟨ai,ci,ah,ch,ae,ce,hE⟩:=MdF.form hm
 cases hE
 obtain⟨a6,c6,rfl,_⟩:=OwnD.parts (c:=1) (n:=k.d.length) h6
 obtain⟨a7,c7,rfl,_⟩:=OwnD.parts (c:=7) (n:=k.p.length) h7
 obtain⟨a8,c8,rfl,_⟩:=OwnD.parts (c:=8) (n:=k.b.length) h8
 obtain⟨a12,c12,rfl,_⟩:=OwnD.parts (c:=7) (n:=k.s.length) h12
 obtain⟨a13,c13,rfl,_⟩:=OwnD.parts (c:=3) (n:=k.x.length) h13
 exact⟨ai,ci,ah,ch,ae,ce,a6,c6,a7,c7,a8,c8,a12,c12,a13,c13,rfl⟩
theorem KernF.mono {F F':Nat→Prop} {w:World} {y:Value} {k:Kn} (h:KernF F w y k) (hF:∀j,F j→F' j):KernF F' w y k:=by
 obtain⟨A0,A6,A7,A8,A12,A13,vi,vh,vs,u6,u7,u8,u12,u13,e,hm,h6,h7,h8,h12,h13,d0,d6,d7,d8,d12,d13⟩:=h
 exact⟨A0,A6,A7,A8,A12,A13,vi,vh,vs,u6,u7,u8,u12,u13,e,hm,h6,h7,h8,h12,h13,fun j hj=>⟨hF j (d0 j hj).1,(d0 j hj).2⟩,fun j hj=>⟨hF j (d6 j hj).1,(d6 j hj).2⟩,fun j hj=>⟨hF j (d7 j hj).1,(d7 j hj).2⟩,fun j hj=>⟨hF j (d8 j hj).1,(d8 j hj).2⟩,fun j hj=>⟨hF j (d12 j hj).1,(d12 j hj).2⟩,fun j hj=>hF j (d13 j hj)⟩
def KFill (w:World) (g n k:Nat) (l:List Kn):Prop:=(∀j,j<n*14→ ∃u,w.cell? ⟨g,j,none⟩=some u∧w.frozen? ⟨g,j,none⟩=false)∧g<w.heap.size∧ ∀i,i<k→ ∃vs:List Value,vs.length=14∧(∀r v,vs[r]? =some v→w.cell? ⟨g,i*14+r,none⟩=some v)∧KernF (fun j=>g<j∧j<w.heap.size) w (.agg vs.toArray) (knAt l i)
theorem KFill.turns {S:Nat→Prop} {w w':World} {g n k:Nat} {l:List Kn} (h:KFill w g n k l) (ht:Turns S w w') (hS:∀j,S j→w.heap.size≤j):KFill w' g n k l:=by
 obtain⟨h1,h2,h3⟩:=h
 have hg:¬S g:=fun e=>by have:=hS g e;omega
 refine⟨fun j hj=> ?_,Nat.lt_of_lt_of_le h2 ht.size,fun i hi=> ?_⟩
 ·rw [ht.cell h2 hg,ht.frozen h2 hg]
  exact h1 j hj
 ·obtain⟨vs,e1,e2,e3⟩:=h3 i hi
  exact⟨vs,e1,fun r v hv=>(ht.cell h2 hg).trans (e2 r v hv),(e3.turns ht (fun j hj e=>by have:=hS j e;omega)).mono (fun j hj=>⟨hj.1,Nat.lt_of_lt_of_le hj.2 ht.size⟩)⟩
theorem KFill.low {S:Nat→Prop} {w w':World} {g n k:Nat} {l:List Kn} (h:KFill w g n k l) (ht:Turns S w w') (hS:∀j,S j→j<g):KFill w' g n k l:=by
 obtain⟨h1,h2,h3⟩:=h
 have hg:¬S g:=fun e=>by have:=hS g e;omega
 refine⟨fun j hj=> ?_,Nat.lt_of_lt_of_le h2 ht.size,fun i hi=> ?_⟩
 ·rw [ht.cell h2 hg,ht.frozen h2 hg]
  exact h1 j hj
 ·obtain⟨vs,e1,e2,e3⟩:=h3 i hi
  exact⟨vs,e1,fun r v hv=>(ht.cell h2 hg).trans (e2 r v hv),(e3.turns ht (fun j hj e=>by have:=hS j e;omega)).mono (fun j hj=>⟨hj.1,Nat.lt_of_lt_of_le hj.2 ht.size⟩)⟩
theorem KFill.put {w:World} {g n k:Nat} {l:List Kn} {vs:List Value} (h:KFill w g n k l) (hk:k<n) (hl:vs.length=14) (hF:KernF (fun j=>g<j∧j<w.heap.size) w (.agg vs.toArray) (knAt l k)):KFill (w.setCells g (k*14) vs) g n (k+1) l:=by
 obtain⟨h1,h2,h3⟩:=h
 have ht:=yec g vs (k*14) w
 have hin:=World.cell?_setCells_in g vs (k*14) w (fun i hi=>by
  obtain⟨u,hu,_⟩:=h1 (k*14+i) (by omega)
  rw [hu];rfl)
 have hout:∀j,¬(k*14≤j∧j<k*14+14)→(w.setCells g (k*14) vs).cell? ⟨g,j,none⟩=w.cell? ⟨g,j,none⟩:=fun j hj=>World.cell?_setCells_out g vs (k*14) w ⟨g,j,none⟩ (fun i hi=>by simp;omega)
 have hfr:∀j,(w.setCells g (k*14) vs).frozen? ⟨g,j,none⟩=w.frozen? ⟨g,j,none⟩:=fun j=>by rw [World.frozen?_setCells]
 refine⟨fun j hj=> ?_,Nat.lt_of_lt_of_le h2 ht.size,fun i hi=> ?_⟩
 ·rw [hfr]
  obtain⟨u,hu,hz⟩:=h1 j hj
  by_cases hjr:k*14≤j∧j<k*14+14
  ·have h9:=hin (j-k*14) (by omega)
   rw [show k*14+(j-k*14)=j from by omega]at h9
   exact⟨_,h9,hz⟩
  ·rw [hout j hjr]
   exact⟨u,hu,hz⟩
 ·by_cases hik:i<k
  ·obtain⟨us,e1,e2,e3⟩:=h3 i hik
   refine⟨us,e1,fun r v hv=> ?_,(e3.turns ht (fun j hj e=>by omega)).mono (fun j hj=>⟨hj.1,Nat.lt_of_lt_of_le hj.2 ht.size⟩)⟩
   have hr:r<us.length:=(List.getElem?_eq_some_iff.1 hv).1
   rw [hout (i*14+r) (by omega)]
   exact e2 r v hv
  ·obtain rfl:i=k:=by omega
   refine⟨vs,hl,fun r v hv=> ?_,(hF.turns ht (fun j hj e=>by omega)).mono (fun j hj=>⟨hj.1,Nat.lt_of_lt_of_le hj.2 ht.size⟩)⟩
   obtain⟨hr,hv'⟩:=List.getElem?_eq_some_iff.1 hv
   rw [hin r hr,hv']
theorem KFill.all {w:World} {g n cap:Nat} {l:List Kn} (h:KFill w g n n l) (hn:n=l.length) (hc1:n≤cap) (hc2:cap≤maxLen):IsKs w (.slice (some ⟨g,0,none⟩) n cap) l:=by
 obtain⟨_,h2,h3⟩:=h
 subst hn
 refine⟨_,cap,rfl,hc1,hc2,.inr ⟨g,0,rfl,h2,fun i hi=> ?_⟩⟩
 obtain⟨ws,e1,e2,e3⟩:=h3 i hi
 have hk:=e3.is
 obtain⟨vi,vh,vs,u6,u7,u8,u12,u13,hE,hm⟩:=id hk
 have hv:ws= [.int .i64 (knAt l i).m.n,.int .i64 (knAt l i).m.s,vi,vh,vs,.int .i64 (knAt l i).m.z,u6,u7,u8,.int .i64 (knAt l i).t,.int .i64 (knAt l i).q,.bool (knAt l i).f,u12,u13]:=by
  have h9:=congrArg Array.toList (Value.agg.inj hE)
  simpa using h9
 subst hv
 rw [Nat.zero_add]
 exact⟨vi,vh,vs,u6,u7,u8,u12,u13,⟨e2 0 _ rfl,e2 1 _ rfl,e2 2 _ rfl,e2 3 _ rfl,e2 4 _ rfl,e2 5 _ rfl,e2 6 _ rfl,e2 7 _ rfl,e2 8 _ rfl,e2 9 _ rfl,e2 10 _ rfl,e2 11 _ rfl,e2 12 _ rfl,e2 13 _ rfl⟩,hk⟩
theorem ys0 {w1:World} {g n:Nat} {l:List Kn} {B:Nat} {xs:List Value} (h:w1.ownsRow B 57 14 (.slice (some ⟨g,0,none⟩) n n) n xs):KFill w1 g n 0 l:=by
 obtain⟨_,⟨e,_⟩|⟨g',cap,cur,e,_,hc,h1,h2,h3,h4⟩⟩:=h
 ·cases e
 ·cases e
  have hlt:g<w1.heap.size:=(Array.getElem?_eq_some_iff.1 hc).1
  refine⟨fun j hj=> ?_,hlt,fun i hi=>by omega⟩
  have hjc:j<cur.size:=by rw [h3];exact hj
  refine⟨cur[j],?_,by simp [World.frozen?,hc]⟩
  simp [World.cell?,hc,hjc]
theorem yoz (x:Value) (l:List Kn) (w:World) (hl:ydb l) (h:IsKs w x l):
  Calls Tryz.prog 43 #[x] w fun e w'=>∃y,e= .returned y∧Below w.heap.size w w'∧(∀{S:Nat→Prop} (X:World),Turns S w' X→(∀j,S j→j<w.heap.size)→IsKs X y l)∧ ∃a cap,y= .slice a l.length cap:=by
 obtain⟨a,cap,rfl,h1,h2,h⟩:=h
 have HS:Hid (ydb l):=hl
 have hl2:l.length≤1048576:=hl.1
 have hp:(0:Int)≤(l.length:Int):=by omega
 clear hl
 obtain⟨i0,hi,hz0,hz1,hz2⟩:=info_parts infoKern
 go_enter Tryz.func43,Tryz.ntmps43
 go_wp2_with (at_make;refine wpList_make_full _ rfl _ _ 37 rfl w.heap.size 57 i0 _ 14 Tryz.underlying37 hi hz0 hz1 .i64 .i64 l.length l.length l.length rfl rfl rfl rfl (by rw [hz2];omega) (by unfold maxLen;omega) (Nat.le_refl _) ?_;intro w1 hown hgrow)
 have hB1:Hid (Below w.heap.size w w1):=(Below.refl _ _).grown hgrow (Nat.le_refl _) (fun k e=>by cases e)
 have hR1:Hid (KFill w1 w.heap.size l.length 0 l):=ys0 hown
 clear hown hgrow hi hz0 hz1 hz2
 go_loopw [4] (fun i wr=>∃k:Nat,k≤l.length∧i= .int .i64 k∧Below w.heap.size w wr∧KFill wr w.heap.size l.length k l) (fun i _=>l.length-(intOf i).toNat)
 case atStart=>exact⟨0,Nat.zero_le _,rfl,hB1.out,hR1.out⟩
 case round=>
  obtain⟨k,hk,rfl,hB,hR⟩:=hrel
  have HB:=ybf hB
  have HR:=ybf hR
  clear hR
  by_cases hlt:k<l.length
  ·obtain⟨b,off,rfl,hb,hc⟩:=h.resolve_left (by omega)
   obtain⟨vi,vh,vs,u6,u7,u8,u12,u13,⟨f0,f1,f2,f3,f4,f5,f6,f7,f8,f9,f10,f11,f12,f13⟩,hD⟩:=(hc k hlt).under hb hB
   have HD:=ybf hD
   have hg:w.heap.size<wr.heap.size:=HR.out.2.1
   clear hB hB1 hR1 h hc hD
   go_wp2_with fail
   clear f0 f1 f2 f3 f4 f5 f6 f7 f8 f9 f10 f11 f12 f13
   refine(yks _ (knAt l k) _ (HS.out.2 k hlt) HD.out).mono ?_
   rintro e w2 ⟨y,rfl,hb2,hF⟩
   obtain⟨ai,ci,ah,ch,ae,ce,a6,c6,a7,c7,a8,c8,a12,c12,a13,c13,rfl⟩:=hF.form
   have HB2:=ybf hb2
   have HF:=ybf hF
   have HR2:=ybf (HR.out.turns (S:=fun _=>False) (Turns.of_below hb2) (fun _ e=>e.elim))
   obtain⟨x0,g0,z0⟩:=HR2.out.1 (k*14) (by omega)
   obtain⟨x1,g1,z1⟩:=HR2.out.1 (k*14+1) (by omega)
   obtain⟨x2,g2,z2⟩:=HR2.out.1 (k*14+2) (by omega)
   obtain⟨x3,g3,z3⟩:=HR2.out.1 (k*14+3) (by omega)
   obtain⟨x4,g4,z4⟩:=HR2.out.1 (k*14+4) (by omega)
   obtain⟨x5,g5,z5⟩:=HR2.out.1 (k*14+5) (by omega)
   obtain⟨x6,g6,z6⟩:=HR2.out.1 (k*14+6) (by omega)
   obtain⟨x7,g7,z7⟩:=HR2.out.1 (k*14+7) (by omega)
   obtain⟨x8,g8,z8⟩:=HR2.out.1 (k*14+8) (by omega)
   obtain⟨x9,g9,z9⟩:=HR2.out.1 (k*14+9) (by omega)
   obtain⟨x10,g10,z10⟩:=HR2.out.1 (k*14+10) (by omega)
   obtain⟨x11,g11,z11⟩:=HR2.out.1 (k*14+11) (by omega)
   obtain⟨x12,g12,z12⟩:=HR2.out.1 (k*14+12) (by omega)
   obtain⟨x13,g13,z13⟩:=HR2.out.1 (k*14+13) (by omega)
   clear hb2 hF
   go_wp2
   go_roundw
   case rel=>
    rw [put14_is]
    have hsz:=HB2.out.size
    have hT:=yec w.heap.size [.int .i64 (knAt l k).m.n,.int .i64 (knAt l k).m.s,.slice ai (knAt l k).m.i.length ci,.slice ah (knAt l k).m.h.length ch,.slice ae (knAt l k).m.e.length ce,.int .i64 (knAt l k).m.z,.slice a6 (knAt l k).d.length c6,.slice a7 (knAt l k).p.length c7,.slice a8 (knAt l k).b.length c8,.int .i64 (knAt l k).t,.int .i64 (knAt l k).q,.bool (knAt l k).f,.slice a12 (knAt l k).s.length c12,.slice a13 (knAt l k).x.length c13] (k*14) w2
    refine⟨k+1,by omega,by go_num,(HB.out.trans (HB2.out.mono (by omega))).trans (hT.to_below (fun b e=>by omega) (by omega)),HR2.out.put hlt rfl (HF.out.mono (fun j hj=>⟨by omega,hj.2⟩))⟩
   case measure=>simp [intOf];omega
  ·clear hB hB1 hR1 h
   go_wp2
   go_ret
   obtain rfl:k=l.length:=by omega
   exact⟨_,rfl,HB.out,fun X hX hS=>KFill.all (HR.out.low hX hS) rfl (Nat.le_refl _) (by unfold maxLen;omega),_,_,rfl⟩
theorem infoInts:(Tryz.prog.info? 22).map (fun i=>(i.zero,i.size,i.bytes))=some (some (.slice none 0 0),1,24):=by kernel_rfl
theorem to_vecs (x:Value) (l:List (List Int)) (w:World) (hl:(yef l).wt≤1048576) (h:IsD w x (yef l)):
  Calls Tryz.prog 44 #[x] w fun e w'=>∃y,e= .returned y∧Below w.heap.size w w'∧OwnD w' (fun k=>w.heap.size≤k∧k<w'.heap.size) y (yef l):=by
 obtain⟨a,cap,rfl,h1,h2,h⟩:=IsD.parts (c:=1) (n:=l.length) h
 have HS:=ybf hl
 have hl2:l.length≤1048576:=by rw [ydx]at hl;omega
 have hp:(0:Int)≤(l.length:Int):=by omega
 clear hl
 obtain⟨i0,hi,hz0,hz1,hz2⟩:=info_parts infoInts
 go_enter Tryz.func44,Tryz.ntmps44
 go_wp2_with (at_make;refine wpList_make_full _ rfl _ _ 28 rfl w.heap.size 22 i0 _ 1 Tryz.underlying28 hi hz0 hz1 .i64 .i64 l.length l.length l.length rfl rfl rfl rfl (by rw [hz2];omega) (by unfold maxLen;omega) (Nat.le_refl _) ?_;intro w1 hown hgrow)
 have hB1:Hid (Below w.heap.size w w1):=(Below.refl _ _).grown hgrow (Nat.le_refl _) (fun k e=>by cases e)
 obtain⟨zs,hR0⟩:=OwnD.made0 (yhw l) hown
 have hR1:Hid (OwnD w1 (fun k=>w.heap.size≤k∧k<w1.heap.size) (sl w.heap.size l.length) (.row 1 l.length (toC (yhw l) zs 0))):=hR0
 clear hown hgrow hi hz0 hz1 hz2 hR0
 go_loopw [4] (fun i wr=>∃k:Nat,k≤l.length∧i= .int .i64 k∧Below w.heap.size w wr∧OwnD wr (fun k=>w.heap.size≤k∧k<wr.heap.size) (sl w.heap.size l.length) (.row 1 l.length (toC (yhw l) zs k))) (fun i _=>l.length-(intOf i).toNat)
 case atStart=>exact⟨0,Nat.zero_le _,rfl,hB1.out,hR1.out⟩
 case round=>
  obtain⟨k,hk,rfl,hB,hR⟩:=hrel
  have HB:=ybf hB
  have HR:=ybf hR
  clear hR
  by_cases hlt:k<l.length
  ·obtain⟨b,off,rfl,hb,hc⟩:=h.resolve_left (by omega)
   obtain⟨u,hu,hd⟩:=hc k (by omega)
   have f0:=(hB.cell (p:=⟨b,off+k,none⟩) hb).trans hu
   have HD:=ybf (hd.under hB)
   have hg:w.heap.size<wr.heap.size:=(HR.out.lt (by omega)).1
   clear hB hB1 hR1 h hc hd hu
   go_wp2_with fail
   clear f0
   refine(ym6 _ (vAt l k) _ (Nat.le_trans (yni hlt) HS.out) HD.out).mono ?_
   rintro e w2 ⟨y,rfl,hb2,o1⟩
   have HB2:=ybf hb2
   have HR2:=ybf (HR.out.under hb2)
   obtain⟨a1,c1,rfl,_⟩:=OwnD.parts (c:=1) (n:=(vAt l k).length) o1
   have O1:=ybf o1
   obtain⟨x0,_,g0,z0,_⟩:=HR2.out.step (j:=k) (by omega)
   clear hb2 o1
   go_wp2
   go_roundw
   case rel=>
    have q:=OwnD.fillN (G:=fun _ k=>wr.heap.size≤k∧k<w2.heap.size) (U:=fun _=> .slice a1 (vAt l k).length c1) HR2.out ⟨Nat.le_refl _,hg⟩ 1 (by omega) (fun i hi=>by
     obtain rfl:i=0:=by omega
     exact O1.out) (fun i _ b hb hb'=>by omega) (fun i j _ _ hij b hb hb'=>by omega)
    have hT:=ya1 w2 w.heap.size k (.slice a1 (vAt l k).length c1)
    have hsz:=hT.size
    have hs2:=HB2.out.size
    refine⟨k+1,by omega,by go_num,(HB.out.trans (HB2.out.mono (by omega))).trans (hT.to_below (fun b e=>by omega) (by omega)),?_⟩
    refine OwnD.mono q (fun b hb=> ?_)
    rcases hb with hb|⟨i,_,hb⟩
    ·exact⟨hb.1,Nat.lt_of_lt_of_le hb.2 (Nat.le_trans hs2 hsz)⟩
    ·exact⟨by omega,Nat.lt_of_lt_of_le hb.2 hsz⟩
   case measure=>simp [intOf];omega
  ·clear hB hB1 hR1 h
   go_wp2
   go_ret
   obtain rfl:k=l.length:=by omega
   exact⟨_,rfl,HB.out,HR.out.toAll (by omega)⟩
theorem yfz (x:Value) (v:Wd) (w:World) (hs:ycb v) (h:IsW w x v):
  Calls Tryz.prog 11 #[x] w fun e w'=>∃y,e= .returned y∧Below w.heap.size w w'∧IsW w' y v:=by
 obtain⟨vi,vh,vs,uk,uc,rfl,hm,hk,hc⟩:=h
 have HS:Hid (ycb v):=hs
 have HM:=ybf hm
 have HK:Hid (IsKs w uk v.k):=hk
 have HC:=ybf hc
 clear hs hm hk hc
 obtain⟨V0,hV0⟩:∃V0,((w.alloc (.cells #[.int .i64 v.m.n,.int .i64 v.m.s,vi,vh,vs,.int .i64 v.m.z,uk,uc] 30)).alloc (.cells #[.int .i64 0,.int .i64 0,.slice none 0 0,.slice none 0 0,.slice none 0 0,.int .i64 0,.slice none 0 0,.slice none 0 0] 39)).alloc (.cells #[.int .i64 0,.int .i64 0,.slice none 0 0,.slice none 0 0,.slice none 0 0,.int .i64 0,.slice none 0 0,.slice none 0 0] 39)=V0:=⟨_,rfl⟩
 have HX0:Hid (Below w.heap.size w V0):=by rw [←hV0];exact(((Below.refl _ w).alloc (Nat.le_refl _) _).alloc (by simp) _).alloc (by simp;omega) _
 have hs0:w.heap.size+3≤V0.heap.size:=by rw [←hV0];simp
 have HP0:Hid (Bk V0 w.heap.size 30 #[.int .i64 v.m.n,.int .i64 v.m.s,vi,vh,vs,.int .i64 v.m.z,uk,uc]):=by rw [←hV0];exact((Bk.new w _ _).alloc _).alloc _
 have HR0:Hid (Bk V0 (w.heap.size+1) 39 #[.int .i64 0,.int .i64 0,.slice none 0 0,.slice none 0 0,.slice none 0 0,.int .i64 0,.slice none 0 0,.slice none 0 0]):=by rw [←hV0];exact(Bk.newAt (by simp) _ _).alloc _
 have HQ0:Hid (Bk V0 (w.heap.size+1+1) 39 #[.int .i64 0,.int .i64 0,.slice none 0 0,.slice none 0 0,.slice none 0 0,.int .i64 0,.slice none 0 0,.slice none 0 0]):=by rw [←hV0];exact Bk.newAt (by simp) _ _
 have HW0:=ybf hV0
 clear hV0
 go_enter Tryz.func11,Tryz.ntmps11
 obtain⟨p0,p1,p2,p3,p4,p5⟩:=c6_8 HP0.out
 go_wp2_with fail
 rw [HW0.out]
 clear p0 p1 p2 p3 p4 p5
 refine(yi0 _ v.m _ HS.out.1 (HM.out.below HX0.out)).mono ?_
 rintro e w1 ⟨y0,rfl,hb,ho⟩
 obtain⟨ai,ci,ah,ch,ae,ce,rfl⟩:=MdF.form ho
 have hz0:V0.heap.size≤w1.heap.size:=hb.size
 have HXb0:=ybf (HX0.out.trans (hb.mono (by omega)))
 have HPb0:=ybf (HP0.out.below hb)
 have HRb0:=ybf (HR0.out.below hb)
 have HQb0:=ybf (HQ0.out.below hb)
 have HM1:Hid (∀X,Turns (fun j=>j=w.heap.size+1∨j=w.heap.size+1+1) w1 X→IsM X (.agg #[.int .i64 v.m.n,.int .i64 v.m.s,.slice ai v.m.i.length ci,.slice ah v.m.h.length ch,.slice ae v.m.e.length ce,.int .i64 v.m.z]) v.m):=fun X hX=>(ho.turns hX (fun j hj e=>by omega)).isM
 clear hb ho
 obtain⟨qq0,qq1,qq2,qq3,qq4,qq5⟩:=c6_8 HQb0.out
 have qf0:=HQb0.out.free
 obtain⟨V1,hV1⟩:∃V1,((((((w1.setCell ⟨(w.heap.size+1+1),0,none⟩ (.int .i64 v.m.n)).setCell ⟨(w.heap.size+1+1),1,none⟩ (.int .i64 v.m.s)).setCell ⟨(w.heap.size+1+1),2,none⟩ (.slice ai v.m.i.length ci)).setCell ⟨(w.heap.size+1+1),3,none⟩ (.slice ah v.m.h.length ch)).setCell ⟨(w.heap.size+1+1),4,none⟩ (.slice ae v.m.e.length ce)).setCell ⟨(w.heap.size+1+1),5,none⟩ (.int .i64 v.m.z))=V1:=⟨_,rfl⟩
 have HQ1:Hid (Bk V1 (w.heap.size+1+1) 39 #[.int .i64 v.m.n,.int .i64 v.m.s,.slice ai v.m.i.length ci,.slice ah v.m.h.length ch,.slice ae v.m.e.length ce,.int .i64 v.m.z,.slice none 0 0,.slice none 0 0]):=by rw [←hV1];exact(((((HQb0.out.put 0 _).put 1 _).put 2 _).put 3 _).put 4 _).put 5 _
 have HP1:Hid (Bk V1 w.heap.size 30 #[.int .i64 v.m.n,.int .i64 v.m.s,vi,vh,vs,.int .i64 v.m.z,uk,uc]):=by rw [←hV1];exact((((((HPb0.out.other 0 _ (by omega)).other 1 _ (by omega)).other 2 _ (by omega)).other 3 _ (by omega)).other 4 _ (by omega)).other 5 _ (by omega))
 have HR1:Hid (Bk V1 (w.heap.size+1) 39 #[.int .i64 0,.int .i64 0,.slice none 0 0,.slice none 0 0,.slice none 0 0,.int .i64 0,.slice none 0 0,.slice none 0 0]):=by rw [←hV1];exact((((((HRb0.out.other 0 _ (by omega)).other 1 _ (by omega)).other 2 _ (by omega)).other 3 _ (by omega)).other 4 _ (by omega)).other 5 _ (by omega))
 have HT1:Hid (Turns (fun j=>j=(w.heap.size+1+1)) w1 V1):=by rw [←hV1];exact(((((ya1 _ _ 0 _).trans (ya1 _ _ 1 _)).trans (ya1 _ _ 2 _)).trans (ya1 _ _ 3 _)).trans (ya1 _ _ 4 _)).trans (ya1 _ _ 5 _)
 have hy1:w1.heap.size≤V1.heap.size:=HT1.out.size
 have HX1:=ybf (HXb0.out.trans (HT1.out.to_below (fun j e=>by omega) (by omega)))
 have HM1b:Hid (∀X,Turns (fun j=>j=w.heap.size+1∨j=w.heap.size+1+1) V1 X→IsM X (.agg #[.int .i64 v.m.n,.int .i64 v.m.s,.slice ai v.m.i.length ci,.slice ah v.m.h.length ch,.slice ae v.m.e.length ce,.int .i64 v.m.z]) v.m):=fun X hX=>HM1.out X ((HT1.out.mono (fun j e=> .inr e)).trans hX)
 clear HM1
 have HM1:=HM1b
 clear HM1b
 clear HP0 HR0 HQ0 HX0 HPb0 HRb0 HQb0 HXb0
 have p6:=HP1.out.cell (i:=6) rfl
 go_wp2_with fail
 clear qq0 qq1 qq2 qq3 qq4 qq5 qf0 hV1 p6
 refine(yoz _ v.k _ HS.out.2.1 (HK.out.under HX1.out)).mono ?_
 rintro e w2 ⟨y1,rfl,hb,ho,ak,ck,rfl⟩
 have hz1:V1.heap.size≤w2.heap.size:=hb.size
 have HXb1:=ybf (HX1.out.trans (hb.mono (by omega)))
 have HPb1:=ybf (HP1.out.below hb)
 have HRb1:=ybf (HR1.out.below hb)
 have HQb1:=ybf (HQ1.out.below hb)
 have HM1b:Hid (∀X,Turns (fun j=>j=w.heap.size+1∨j=w.heap.size+1+1) w2 X→IsM X (.agg #[.int .i64 v.m.n,.int .i64 v.m.s,.slice ai v.m.i.length ci,.slice ah v.m.h.length ch,.slice ae v.m.e.length ce,.int .i64 v.m.z]) v.m):=fun X hX=>HM1.out X ((Turns.of_below hb).trans hX)
 clear HM1
 have HM1:=HM1b
 clear HM1b
 have HK1:Hid (∀X,Turns (fun j=>j=w.heap.size+1∨j=w.heap.size+1+1) w2 X→IsKs X (.slice ak v.k.length ck) v.k):=fun X hX=>ho X hX (fun j hj=>by omega)
 clear hb ho
 have qq6:=HQb1.out.cell (i:=6) rfl
 have qf1:=HQb1.out.free
 obtain⟨V2,hV2⟩:∃V2,(w2.setCell ⟨(w.heap.size+1+1),6,none⟩ (.slice ak v.k.length ck))=V2:=⟨_,rfl⟩
 have HQ2:Hid (Bk V2 (w.heap.size+1+1) 39 #[.int .i64 v.m.n,.int .i64 v.m.s,.slice ai v.m.i.length ci,.slice ah v.m.h.length ch,.slice ae v.m.e.length ce,.int .i64 v.m.z,.slice ak v.k.length ck,.slice none 0 0]):=by rw [←hV2];exact HQb1.out.put 6 _
 have HP2:Hid (Bk V2 w.heap.size 30 #[.int .i64 v.m.n,.int .i64 v.m.s,vi,vh,vs,.int .i64 v.m.z,uk,uc]):=by rw [←hV2];exact(HPb1.out.other 6 _ (by omega))
 have HR2:Hid (Bk V2 (w.heap.size+1) 39 #[.int .i64 0,.int .i64 0,.slice none 0 0,.slice none 0 0,.slice none 0 0,.int .i64 0,.slice none 0 0,.slice none 0 0]):=by rw [←hV2];exact(HRb1.out.other 6 _ (by omega))
 have HT2:Hid (Turns (fun j=>j=(w.heap.size+1+1)) w2 V2):=by rw [←hV2];exact ya1 _ _ 6 _
 have hy2:w2.heap.size≤V2.heap.size:=HT2.out.size
 have HX2:=ybf (HXb1.out.trans (HT2.out.to_below (fun j e=>by omega) (by omega)))
 have HM1b:Hid (∀X,Turns (fun j=>j=w.heap.size+1∨j=w.heap.size+1+1) V2 X→IsM X (.agg #[.int .i64 v.m.n,.int .i64 v.m.s,.slice ai v.m.i.length ci,.slice ah v.m.h.length ch,.slice ae v.m.e.length ce,.int .i64 v.m.z]) v.m):=fun X hX=>HM1.out X ((HT2.out.mono (fun j e=> .inr e)).trans hX)
 clear HM1
 have HM1:=HM1b
 clear HM1b
 have HK1b:Hid (∀X,Turns (fun j=>j=w.heap.size+1∨j=w.heap.size+1+1) V2 X→IsKs X (.slice ak v.k.length ck) v.k):=fun X hX=>HK1.out X ((HT2.out.mono (fun j e=> .inr e)).trans hX)
 clear HK1
 have HK1:=HK1b
 clear HK1b
 clear HP1 HR1 HQ1 HX1 HPb1 HRb1 HQb1 HXb1
 have p7:=HP2.out.cell (i:=7) rfl
 go_wp2_with fail
 clear qq6 qf1 hV2 p7
 refine(to_vecs _ v.c _ HS.out.2.2 (HC.out.under HX2.out)).mono ?_
 rintro e w3 ⟨y2,rfl,hb,ho⟩
 obtain⟨ac,cc,rfl,_⟩:=OwnD.parts (c:=1) (n:=v.c.length) ho
 have hz2:V2.heap.size≤w3.heap.size:=hb.size
 have HXb2:=ybf (HX2.out.trans (hb.mono (by omega)))
 have HPb2:=ybf (HP2.out.below hb)
 have HRb2:=ybf (HR2.out.below hb)
 have HQb2:=ybf (HQ2.out.below hb)
 have HM1b:Hid (∀X,Turns (fun j=>j=w.heap.size+1∨j=w.heap.size+1+1) w3 X→IsM X (.agg #[.int .i64 v.m.n,.int .i64 v.m.s,.slice ai v.m.i.length ci,.slice ah v.m.h.length ch,.slice ae v.m.e.length ce,.int .i64 v.m.z]) v.m):=fun X hX=>HM1.out X ((Turns.of_below hb).trans hX)
 clear HM1
 have HM1:=HM1b
 clear HM1b
 have HK1b:Hid (∀X,Turns (fun j=>j=w.heap.size+1∨j=w.heap.size+1+1) w3 X→IsKs X (.slice ak v.k.length ck) v.k):=fun X hX=>HK1.out X ((Turns.of_below hb).trans hX)
 clear HK1
 have HK1:=HK1b
 clear HK1b
 have HC1:Hid (∀X,Turns (fun j=>j=w.heap.size+1∨j=w.heap.size+1+1) w3 X→IsD X (.slice ac v.c.length cc) (yef v.c)):=fun X hX=>(ho.turns hX (fun j hj e=>by omega)).isD
 clear hb ho
 have qq7:=HQb2.out.cell (i:=7) rfl
 have qf2:=HQb2.out.free
 obtain⟨V3,hV3⟩:∃V3,(w3.setCell ⟨(w.heap.size+1+1),7,none⟩ (.slice ac v.c.length cc))=V3:=⟨_,rfl⟩
 have HQ3:Hid (Bk V3 (w.heap.size+1+1) 39 #[.int .i64 v.m.n,.int .i64 v.m.s,.slice ai v.m.i.length ci,.slice ah v.m.h.length ch,.slice ae v.m.e.length ce,.int .i64 v.m.z,.slice ak v.k.length ck,.slice ac v.c.length cc]):=by rw [←hV3];exact HQb2.out.put 7 _
 have HP3:Hid (Bk V3 w.heap.size 30 #[.int .i64 v.m.n,.int .i64 v.m.s,vi,vh,vs,.int .i64 v.m.z,uk,uc]):=by rw [←hV3];exact(HPb2.out.other 7 _ (by omega))
 have HR3:Hid (Bk V3 (w.heap.size+1) 39 #[.int .i64 0,.int .i64 0,.slice none 0 0,.slice none 0 0,.slice none 0 0,.int .i64 0,.slice none 0 0,.slice none 0 0]):=by rw [←hV3];exact(HRb2.out.other 7 _ (by omega))
 have HT3:Hid (Turns (fun j=>j=(w.heap.size+1+1)) w3 V3):=by rw [←hV3];exact ya1 _ _ 7 _
 have hy3:w3.heap.size≤V3.heap.size:=HT3.out.size
 have HX3:=ybf (HXb2.out.trans (HT3.out.to_below (fun j e=>by omega) (by omega)))
 have HM1b:Hid (∀X,Turns (fun j=>j=w.heap.size+1∨j=w.heap.size+1+1) V3 X→IsM X (.agg #[.int .i64 v.m.n,.int .i64 v.m.s,.slice ai v.m.i.length ci,.slice ah v.m.h.length ch,.slice ae v.m.e.length ce,.int .i64 v.m.z]) v.m):=fun X hX=>HM1.out X ((HT3.out.mono (fun j e=> .inr e)).trans hX)
 clear HM1
 have HM1:=HM1b
 clear HM1b
 have HK1b:Hid (∀X,Turns (fun j=>j=w.heap.size+1∨j=w.heap.size+1+1) V3 X→IsKs X (.slice ak v.k.length ck) v.k):=fun X hX=>HK1.out X ((HT3.out.mono (fun j e=> .inr e)).trans hX)
 clear HK1
 have HK1:=HK1b
 clear HK1b
 have HC1b:Hid (∀X,Turns (fun j=>j=w.heap.size+1∨j=w.heap.size+1+1) V3 X→IsD X (.slice ac v.c.length cc) (yef v.c)):=fun X hX=>HC1.out X ((HT3.out.mono (fun j e=> .inr e)).trans hX)
 clear HC1
 have HC1:=HC1b
 clear HC1b
 clear HP2 HR2 HQ2 HX2 HPb2 HRb2 HQb2 HXb2
 have oo0:=HQ3.out.cell (i:=0) rfl
 have rr0:=HR3.out.cell (i:=0) rfl
 have oo1:=HQ3.out.cell (i:=1) rfl
 have rr1:=HR3.out.cell (i:=1) rfl
 have oo2:=HQ3.out.cell (i:=2) rfl
 have rr2:=HR3.out.cell (i:=2) rfl
 have oo3:=HQ3.out.cell (i:=3) rfl
 have rr3:=HR3.out.cell (i:=3) rfl
 have oo4:=HQ3.out.cell (i:=4) rfl
 have rr4:=HR3.out.cell (i:=4) rfl
 have oo5:=HQ3.out.cell (i:=5) rfl
 have rr5:=HR3.out.cell (i:=5) rfl
 have oo6:=HQ3.out.cell (i:=6) rfl
 have rr6:=HR3.out.cell (i:=6) rfl
 have oo7:=HQ3.out.cell (i:=7) rfl
 have rr7:=HR3.out.cell (i:=7) rfl
 have rf:=HR3.out.free
 go_wp2
 clear rf oo0 rr0 oo1 rr1 oo2 rr2 oo3 rr3 oo4 rr4 oo5 rr5 oo6 rr6 oo7 rr7 qq7 qf2 hV3
 have HY0:=HR3.out
 have HU0:Turns (fun j=>j=(w.heap.size+1)) V3 V3:=Turns.refl _ _
 obtain⟨Y1,hY1⟩:∃Y1,V3.setCell ⟨(w.heap.size+1),0,none⟩ (.int .i64 v.m.n)=Y1:=⟨_,rfl⟩
 have HY1:Bk Y1 (w.heap.size+1) 39 #[.int .i64 v.m.n,.int .i64 0,.slice none 0 0,.slice none 0 0,.slice none 0 0,.int .i64 0,.slice none 0 0,.slice none 0 0]:=hY1▸HY0.put 0 _
 have HU1:Turns (fun j=>j=(w.heap.size+1)) V3 Y1:=HU0.trans (hY1▸ya1 _ _ 0 _)
 clear HY0 HU0
 obtain⟨Y2,hY2⟩:∃Y2,Y1.setCell ⟨(w.heap.size+1),1,none⟩ (.int .i64 v.m.s)=Y2:=⟨_,rfl⟩
 have HY2:Bk Y2 (w.heap.size+1) 39 #[.int .i64 v.m.n,.int .i64 v.m.s,.slice none 0 0,.slice none 0 0,.slice none 0 0,.int .i64 0,.slice none 0 0,.slice none 0 0]:=hY2▸HY1.put 1 _
 have HU2:Turns (fun j=>j=(w.heap.size+1)) V3 Y2:=HU1.trans (hY2▸ya1 _ _ 1 _)
 clear HY1 HU1
 obtain⟨Y3,hY3⟩:∃Y3,Y2.setCell ⟨(w.heap.size+1),2,none⟩ (.slice ai v.m.i.length ci)=Y3:=⟨_,rfl⟩
 have HY3:Bk Y3 (w.heap.size+1) 39 #[.int .i64 v.m.n,.int .i64 v.m.s,.slice ai v.m.i.length ci,.slice none 0 0,.slice none 0 0,.int .i64 0,.slice none 0 0,.slice none 0 0]:=hY3▸HY2.put 2 _
 have HU3:Turns (fun j=>j=(w.heap.size+1)) V3 Y3:=HU2.trans (hY3▸ya1 _ _ 2 _)
 clear HY2 HU2
 obtain⟨Y4,hY4⟩:∃Y4,Y3.setCell ⟨(w.heap.size+1),3,none⟩ (.slice ah v.m.h.length ch)=Y4:=⟨_,rfl⟩
 have HY4:Bk Y4 (w.heap.size+1) 39 #[.int .i64 v.m.n,.int .i64 v.m.s,.slice ai v.m.i.length ci,.slice ah v.m.h.length ch,.slice none 0 0,.int .i64 0,.slice none 0 0,.slice none 0 0]:=hY4▸HY3.put 3 _
 have HU4:Turns (fun j=>j=(w.heap.size+1)) V3 Y4:=HU3.trans (hY4▸ya1 _ _ 3 _)
 clear HY3 HU3
 obtain⟨Y5,hY5⟩:∃Y5,Y4.setCell ⟨(w.heap.size+1),4,none⟩ (.slice ae v.m.e.length ce)=Y5:=⟨_,rfl⟩
 have HY5:Bk Y5 (w.heap.size+1) 39 #[.int .i64 v.m.n,.int .i64 v.m.s,.slice ai v.m.i.length ci,.slice ah v.m.h.length ch,.slice ae v.m.e.length ce,.int .i64 0,.slice none 0 0,.slice none 0 0]:=hY5▸HY4.put 4 _
 have HU5:Turns (fun j=>j=(w.heap.size+1)) V3 Y5:=HU4.trans (hY5▸ya1 _ _ 4 _)
 clear HY4 HU4
 obtain⟨Y6,hY6⟩:∃Y6,Y5.setCell ⟨(w.heap.size+1),5,none⟩ (.int .i64 v.m.z)=Y6:=⟨_,rfl⟩
 have HY6:Bk Y6 (w.heap.size+1) 39 #[.int .i64 v.m.n,.int .i64 v.m.s,.slice ai v.m.i.length ci,.slice ah v.m.h.length ch,.slice ae v.m.e.length ce,.int .i64 v.m.z,.slice none 0 0,.slice none 0 0]:=hY6▸HY5.put 5 _
 have HU6:Turns (fun j=>j=(w.heap.size+1)) V3 Y6:=HU5.trans (hY6▸ya1 _ _ 5 _)
 clear HY5 HU5
 obtain⟨Y7,hY7⟩:∃Y7,Y6.setCell ⟨(w.heap.size+1),6,none⟩ (.slice ak v.k.length ck)=Y7:=⟨_,rfl⟩
 have HY7:Bk Y7 (w.heap.size+1) 39 #[.int .i64 v.m.n,.int .i64 v.m.s,.slice ai v.m.i.length ci,.slice ah v.m.h.length ch,.slice ae v.m.e.length ce,.int .i64 v.m.z,.slice ak v.k.length ck,.slice none 0 0]:=hY7▸HY6.put 6 _
 have HU7:Turns (fun j=>j=(w.heap.size+1)) V3 Y7:=HU6.trans (hY7▸ya1 _ _ 6 _)
 clear HY6 HU6
 obtain⟨Y8,hY8⟩:∃Y8,Y7.setCell ⟨(w.heap.size+1),7,none⟩ (.slice ac v.c.length cc)=Y8:=⟨_,rfl⟩
 have HY8:Bk Y8 (w.heap.size+1) 39 #[.int .i64 v.m.n,.int .i64 v.m.s,.slice ai v.m.i.length ci,.slice ah v.m.h.length ch,.slice ae v.m.e.length ce,.int .i64 v.m.z,.slice ak v.k.length ck,.slice ac v.c.length cc]:=hY8▸HY7.put 7 _
 have HU8:Turns (fun j=>j=(w.heap.size+1)) V3 Y8:=HU7.trans (hY8▸ya1 _ _ 7 _)
 clear HY7 HU7
 rw [hY1,hY2,hY3,hY4,hY5,hY6,hY7,hY8]
 have hR:=HY8
 have hT:=HU8
 obtain⟨t0,t1,t2,t3,t4,t5,t6,t7⟩:=c8_8 hR
 have hT2:=hT.mono (fun j (e:j=(w.heap.size+1))=>(.inl e:j=w.heap.size+1∨j=w.heap.size+1+1))
 refine bodyPost_ret (v:= .agg #[.int .i64 v.m.n,.int .i64 v.m.s,.slice ai v.m.i.length ci,.slice ah v.m.h.length ch,.slice ae v.m.e.length ce,.int .i64 v.m.z,.slice ak v.k.length ck,.slice ac v.c.length cc]) (by simp [results,Tryz.results11,go_sem,t0,t1,t2,t3,t4,t5,t6,t7]) rfl ⟨_,rfl,HX3.out.trans (hT.to_below (fun j e=>by omega) (by omega)),_,_,_,_,_,rfl,HM1.out _ hT2,HK1.out _ hT2,HC1.out _ hT2⟩
end Go.Proofs.YtmobiieoecjmdaaGreat

