/- TPtC, TMk, TPsE -/
import Derived.Test.YtghndljgadpijaaGreatExactCollectG01
import Derived.Test.YtghndljgadpijaaGreatExactCollectG04
import Derived.Test.YtghndljgadpijaaGreatExactCollectG03
/- toPart: a copy of its own. -/
namespace Go.Proofs.YtghndljgadpijaaGreat
open Go.RowKit
theorem ywb {p:Prop} (h:p):Hid p:=h
def PartF (F:Nat→Prop) (w:World) (y:Value) (p:Pa):Prop:=
  ∃(A1 A4 A5 A6:Nat→Prop) (u1 u4 u5 u6:Value),y= .agg #[.int .i64 p.n,u1,.int .i64 p.st.q,.int .i64 p.st.d,u4,u5,u6]∧OwnD w A1 u1 (ywr p.st.r)∧OwnD w A4 u4 (yw3 p.p)∧OwnD w A5 u5 (evsD p.t)∧OwnD w A6 u6 (ywr p.a)∧(∀k,A1 k→F k∧ ¬A4 k∧ ¬A5 k∧ ¬A6 k)∧(∀k,A4 k→F k∧ ¬A5 k∧ ¬A6 k)∧(∀k,A5 k→F k∧ ¬A6 k)∧(∀k,A6 k→F k)
theorem PartF.turns {F S:Nat→Prop} {w w':World} {y:Value} {p:Pa} (h:PartF F w y p) (ht:Turns S w w') (hS:∀k,F k→ ¬S k):PartF F w' y p:=by
  obtain⟨A1,A4,A5,A6,u1,u4,u5,u6,rfl,h1,h4,h5,h6,d1,d4,d5,d6⟩:=h
  exact⟨A1,A4,A5,A6,u1,u4,u5,u6,rfl,h1.turns ht (fun k hk=>hS k (d1 k hk).1),h4.turns ht (fun k hk=>hS k (d4 k hk).1),h5.turns ht (fun k hk=>hS k (d5 k hk).1),h6.turns ht (fun k hk=>hS k (d6 k hk)),d1,d4,d5,d6⟩
theorem PartF.under {F:Nat→Prop} {w w':World} {y:Value} {p:Pa} (h:PartF F w y p) (hb:Below w.heap.size w w'):PartF F w' y p:=
  h.turns (S:=fun _=>False) (Turns.of_below hb) (fun _ _=>id)
theorem PartF.mono {F F':Nat→Prop} {w:World} {y:Value} {p:Pa} (h:PartF F w y p) (hF:∀k,F k→F' k):PartF F' w y p:=by
  obtain⟨A1,A4,A5,A6,u1,u4,u5,u6,rfl,h1,h4,h5,h6,d1,d4,d5,d6⟩:=h
  exact⟨A1,A4,A5,A6,u1,u4,u5,u6,rfl,h1,h4,h5,h6,fun k hk=>⟨hF k (d1 k hk).1,(d1 k hk).2⟩,fun k hk=>⟨hF k (d4 k hk).1,(d4 k hk).2⟩,fun k hk=>⟨hF k (d5 k hk).1,(d5 k hk).2⟩,fun k hk=>hF k (d6 k hk)⟩
theorem PartF.form {F:Nat→Prop} {w:World} {y:Value} {p:Pa} (h:PartF F w y p):∃a1 c1 a4 c4 a5 c5 a6 c6,y= .agg #[.int .i64 p.n,.slice a1 p.st.r.length c1,.int .i64 p.st.q,.int .i64 p.st.d,.slice a4 p.p.length c4,.slice a5 p.t.length c5,.slice a6 p.a.length c6]:=by
  obtain⟨A1,A4,A5,A6,u1,u4,u5,u6,rfl,h1,h4,h5,h6,d1,d4,d5,d6⟩:=h
  obtain⟨a1,c1,rfl,_⟩:=OwnD.parts (c:=1) (n:=p.st.r.length) h1
  obtain⟨a4,c4,rfl,_⟩:=OwnD.parts (c:=12) (n:=p.p.length) h4
  obtain⟨a5,c5,rfl,_⟩:=OwnD.parts (c:=7) (n:=p.t.length) h5
  obtain⟨a6,c6,rfl,_⟩:=OwnD.parts (c:=1) (n:=p.a.length) h6
  exact⟨a1,c1,a4,c4,a5,c5,a6,c6,rfl⟩
set_option maxHeartbeats 8000000 in
theorem zle (x:Value) (p:Pa) (w:World) (hw:p.wt≤1048576) (h:IsPart w x p):
    Calls Tryz.prog 112 #[x] w fun e w'=>∃y,e= .returned y∧Below w.heap.size w w'∧PartF (fun k=>w.heap.size≤k∧k<w'.heap.size) w' y p:=by
  obtain⟨u1,u4,u5,u6,rfl,h1,h4,h5,h6⟩:=h
  have HS:Hid (p.wt≤1048576):=hw
  have H1:=ywb h1
  have H4:=ywb h4
  have H5:=ywb h5
  have H6:=ywb h6
  clear hw h1 h4 h5 h6
  obtain⟨V0,hV0⟩:∃V0,((w.alloc (.cells #[.int .i64 p.n,u1,.int .i64 p.st.q,.int .i64 p.st.d,u4,u5,u6] 146)).alloc (.cells #[.int .i64 0,.slice none 0 0,.int .i64 0,.int .i64 0,.slice none 0 0,.slice none 0 0,.slice none 0 0] 97)).alloc (.cells #[.int .i64 0,.slice none 0 0,.int .i64 0,.int .i64 0,.slice none 0 0,.slice none 0 0,.slice none 0 0] 97)=V0:=⟨_,rfl⟩
  have HX0:Hid (Below w.heap.size w V0):=by rw [←hV0];exact(((Below.refl _ w).alloc (Nat.le_refl _) _).alloc (by simp) _).alloc (by simp;omega) _
  have hs0:w.heap.size+3≤V0.heap.size:=by rw [←hV0];simp
  have HP0:Hid (Bk V0 w.heap.size 146 #[.int .i64 p.n,u1,.int .i64 p.st.q,.int .i64 p.st.d,u4,u5,u6]):=by rw [←hV0];exact((Bk.new w _ _).alloc _).alloc _
  have HR0:Hid (Bk V0 (w.heap.size+1) 97 #[.int .i64 0,.slice none 0 0,.int .i64 0,.int .i64 0,.slice none 0 0,.slice none 0 0,.slice none 0 0]):=by rw [←hV0];exact(Bk.newAt (by simp) _ _).alloc _
  have HQ0:Hid (Bk V0 (w.heap.size+1+1) 97 #[.int .i64 0,.slice none 0 0,.int .i64 0,.int .i64 0,.slice none 0 0,.slice none 0 0,.slice none 0 0]):=by rw [←hV0];exact Bk.newAt (by simp) _ _
  have HW0:=ywb hV0
  clear hV0
  go_enter Tryz.func112,Tryz.ntmps112
  have pp0:=HP0.out.cell (i:=0) rfl
  have qq0:=HQ0.out.cell (i:=0) rfl
  have qf0:=HQ0.out.free
  have hV0:=HW0.out
  obtain⟨V1,hV1⟩:∃V1,(V0.setCell ⟨(w.heap.size+1+1),0,none⟩ (.int .i64 p.n))=V1:=⟨_,rfl⟩
  have HQ1:Hid (Bk V1 (w.heap.size+1+1) 97 #[.int .i64 p.n,.slice none 0 0,.int .i64 0,.int .i64 0,.slice none 0 0,.slice none 0 0,.slice none 0 0]):=by rw [←hV1];exact HQ0.out.put 0 _
  have HP1:=ywb (ot1 hV1 HP0.out (by omega))
  have HR1:=ywb (ot1 hV1 HR0.out (by omega))
  have HT1:=ywb (tu1 hV1)
  have hy1:V0.heap.size≤V1.heap.size:=HT1.out.size
  have HX1:=ywb (HX0.out.trans (HT1.out.to_below (fun k e=>by omega) (by omega)))
  clear HP0 HR0 HQ0 HX0
  have p1:=HP1.out.cell (i:=1) rfl
  have p2:=HP1.out.cell (i:=2) rfl
  have p3:=HP1.out.cell (i:=3) rfl
  go_wp2_with fail
  clear pp0 qq0 qf0 hV0 hV1 p1 p2 p3
  refine(zea _ p.st _ (by have:=HS.out;unfold Pa.wt at this;simp only [yx0,ywf]at this;omega) ⟨_,rfl,(H1.out.under HX1.out).isI⟩).mono ?_
  rintro e w2 ⟨y1,rfl,hb,vr1,rfl,ho1⟩
  have HO1:=ywb ho1.own
  obtain⟨_,a1,c1,rfl,_⟩:=ho1
  have hz1:V1.heap.size≤w2.heap.size:=hb.size
  have HXb1:=ywb (HX1.out.trans (hb.mono (by omega)))
  have HPb1:=ywb (HP1.out.below hb)
  have HRb1:=ywb (HR1.out.below hb)
  have HQb1:=ywb (HQ1.out.below hb)
  clear hb
  obtain⟨V2,hV2⟩:∃V2,(((w2.setCell ⟨(w.heap.size+1+1),1,none⟩ (.slice a1 p.st.r.length c1)).setCell ⟨(w.heap.size+1+1),2,none⟩ (.int .i64 p.st.q)).setCell ⟨(w.heap.size+1+1),3,none⟩ (.int .i64 p.st.d))=V2:=⟨_,rfl⟩
  have qq1:=HQb1.out.cell (i:=1) rfl
  have qq2:=HQb1.out.cell (i:=2) rfl
  have qq3:=HQb1.out.cell (i:=3) rfl
  have qf1:=HQb1.out.free
  have HQ2:Hid (Bk V2 (w.heap.size+1+1) 97 #[.int .i64 p.n,.slice a1 p.st.r.length c1,.int .i64 p.st.q,.int .i64 p.st.d,.slice none 0 0,.slice none 0 0,.slice none 0 0]):=by rw [←hV2];exact((HQb1.out.put 1 _).put 2 _).put 3 _
  have HP2:Hid (Bk V2 w.heap.size 146 #[.int .i64 p.n,u1,.int .i64 p.st.q,.int .i64 p.st.d,u4,u5,u6]):=by rw [←hV2];exact(((HPb1.out.other 1 _ (by omega)).other 2 _ (by omega)).other 3 _ (by omega))
  have HR2:Hid (Bk V2 (w.heap.size+1) 97 #[.int .i64 0,.slice none 0 0,.int .i64 0,.int .i64 0,.slice none 0 0,.slice none 0 0,.slice none 0 0]):=by rw [←hV2];exact(((HRb1.out.other 1 _ (by omega)).other 2 _ (by omega)).other 3 _ (by omega))
  have HT2:Hid (Turns (fun k=>k=(w.heap.size+1+1)) w2 V2):=by rw [←hV2];exact((yag _ _ 1 _).trans (yag _ _ 2 _)).trans (yag _ _ 3 _)
  have hy2:w2.heap.size≤V2.heap.size:=HT2.out.size
  have HX2:=ywb (HXb1.out.trans (HT2.out.to_below (fun k e=>by omega) (by omega)))
  replace HO1:=ywb (HO1.out.turns HT2.out (fun k e=>by omega))
  clear HPb1 HRb1 HQb1 HXb1 HP1 HR1 HQ1 HX1
  have p4:=HP2.out.cell (i:=4) rfl
  go_wp2_with fail
  clear qq1 qq2 qq3 qf1 hV2 p4
  refine(to_pasts _ p.p _ (by have:=HS.out;unfold Pa.wt at this;simp only [yx0,ywf]at this;omega) (H4.out.under HX2.out)).mono ?_
  rintro e w3 ⟨y4,rfl,hb,ho4⟩
  have HO4:=ywb ho4
  obtain⟨a4,c4,rfl,_⟩:=OwnD.parts (c:=12) (n:=p.p.length) ho4
  clear ho4
  have hz2:V2.heap.size≤w3.heap.size:=hb.size
  have HXb2:=ywb (HX2.out.trans (hb.mono (by omega)))
  have HPb2:=ywb (HP2.out.below hb)
  have HRb2:=ywb (HR2.out.below hb)
  have HQb2:=ywb (HQ2.out.below hb)
  replace HO1:=ywb (HO1.out.under hb)
  clear hb
  obtain⟨V3,hV3⟩:∃V3,(w3.setCell ⟨(w.heap.size+1+1),4,none⟩ (.slice a4 p.p.length c4))=V3:=⟨_,rfl⟩
  have qq4:=HQb2.out.cell (i:=4) rfl
  have qf2:=HQb2.out.free
  have HQ3:Hid (Bk V3 (w.heap.size+1+1) 97 #[.int .i64 p.n,.slice a1 p.st.r.length c1,.int .i64 p.st.q,.int .i64 p.st.d,.slice a4 p.p.length c4,.slice none 0 0,.slice none 0 0]):=by rw [←hV3];exact HQb2.out.put 4 _
  have HP3:=ywb (ot1 hV3 HPb2.out (by omega))
  have HR3:=ywb (ot1 hV3 HRb2.out (by omega))
  have HT3:=ywb (tu1 hV3)
  have hy3:w3.heap.size≤V3.heap.size:=HT3.out.size
  have HX3:=ywb (HXb2.out.trans (HT3.out.to_below (fun k e=>by omega) (by omega)))
  replace HO1:=ywb (HO1.out.turns HT3.out (fun k e=>by omega))
  replace HO4:=ywb (HO4.out.turns HT3.out (fun k e=>by omega))
  clear HPb2 HRb2 HQb2 HXb2 HP2 HR2 HQ2 HX2
  have p5:=HP3.out.cell (i:=5) rfl
  go_wp2_with fail
  clear qq4 qf2 hV3 p5
  refine(zn6 _ p.t _ (by have:=HS.out;unfold Pa.wt at this;simp only [yx0,ywf]at this;omega) (H5.out.under HX3.out)).mono ?_
  rintro e w4 ⟨y5,rfl,hb,ho5⟩
  have HO5:=ywb ho5
  obtain⟨a5,c5,rfl,_⟩:=OwnD.parts (c:=7) (n:=p.t.length) ho5
  clear ho5
  have hz3:V3.heap.size≤w4.heap.size:=hb.size
  have HXb3:=ywb (HX3.out.trans (hb.mono (by omega)))
  have HPb3:=ywb (HP3.out.below hb)
  have HRb3:=ywb (HR3.out.below hb)
  have HQb3:=ywb (HQ3.out.below hb)
  replace HO1:=ywb (HO1.out.under hb)
  replace HO4:=ywb (HO4.out.under hb)
  clear hb
  obtain⟨V4,hV4⟩:∃V4,(w4.setCell ⟨(w.heap.size+1+1),5,none⟩ (.slice a5 p.t.length c5))=V4:=⟨_,rfl⟩
  have qq5:=HQb3.out.cell (i:=5) rfl
  have qf3:=HQb3.out.free
  have HQ4:Hid (Bk V4 (w.heap.size+1+1) 97 #[.int .i64 p.n,.slice a1 p.st.r.length c1,.int .i64 p.st.q,.int .i64 p.st.d,.slice a4 p.p.length c4,.slice a5 p.t.length c5,.slice none 0 0]):=by rw [←hV4];exact HQb3.out.put 5 _
  have HP4:=ywb (ot1 hV4 HPb3.out (by omega))
  have HR4:=ywb (ot1 hV4 HRb3.out (by omega))
  have HT4:=ywb (tu1 hV4)
  have hy4:w4.heap.size≤V4.heap.size:=HT4.out.size
  have HX4:=ywb (HXb3.out.trans (HT4.out.to_below (fun k e=>by omega) (by omega)))
  replace HO1:=ywb (HO1.out.turns HT4.out (fun k e=>by omega))
  replace HO4:=ywb (HO4.out.turns HT4.out (fun k e=>by omega))
  replace HO5:=ywb (HO5.out.turns HT4.out (fun k e=>by omega))
  clear HPb3 HRb3 HQb3 HXb3 HP3 HR3 HQ3 HX3
  have p6:=HP4.out.cell (i:=6) rfl
  go_wp2_with fail
  clear qq5 qf3 hV4 p6
  refine(zn5 _ p.a _ (by have:=HS.out;unfold Pa.wt at this;simp only [yx0,ywf]at this;omega) (H6.out.under HX4.out)).mono ?_
  rintro e w5 ⟨y6,rfl,hb,ho6⟩
  have HO6:=ywb ho6
  obtain⟨a6,c6,rfl,_⟩:=OwnD.parts (c:=1) (n:=p.a.length) ho6
  clear ho6
  have hz4:V4.heap.size≤w5.heap.size:=hb.size
  have HXb4:=ywb (HX4.out.trans (hb.mono (by omega)))
  have HPb4:=ywb (HP4.out.below hb)
  have HRb4:=ywb (HR4.out.below hb)
  have HQb4:=ywb (HQ4.out.below hb)
  replace HO1:=ywb (HO1.out.under hb)
  replace HO4:=ywb (HO4.out.under hb)
  replace HO5:=ywb (HO5.out.under hb)
  clear hb
  obtain⟨V5,hV5⟩:∃V5,(w5.setCell ⟨(w.heap.size+1+1),6,none⟩ (.slice a6 p.a.length c6))=V5:=⟨_,rfl⟩
  have qq6:=HQb4.out.cell (i:=6) rfl
  have qf4:=HQb4.out.free
  have HQ5:Hid (Bk V5 (w.heap.size+1+1) 97 #[.int .i64 p.n,.slice a1 p.st.r.length c1,.int .i64 p.st.q,.int .i64 p.st.d,.slice a4 p.p.length c4,.slice a5 p.t.length c5,.slice a6 p.a.length c6]):=by rw [←hV5];exact HQb4.out.put 6 _
  have HP5:=ywb (ot1 hV5 HPb4.out (by omega))
  have HR5:=ywb (ot1 hV5 HRb4.out (by omega))
  have HT5:=ywb (tu1 hV5)
  have hy5:w5.heap.size≤V5.heap.size:=HT5.out.size
  have HX5:=ywb (HXb4.out.trans (HT5.out.to_below (fun k e=>by omega) (by omega)))
  replace HO1:=ywb (HO1.out.turns HT5.out (fun k e=>by omega))
  replace HO4:=ywb (HO4.out.turns HT5.out (fun k e=>by omega))
  replace HO5:=ywb (HO5.out.turns HT5.out (fun k e=>by omega))
  replace HO6:=ywb (HO6.out.turns HT5.out (fun k e=>by omega))
  clear HPb4 HRb4 HQb4 HXb4 HP4 HR4 HQ4 HX4
  have oo0:=HQ5.out.cell (i:=0) rfl
  have rr0:=HR5.out.cell (i:=0) rfl
  have oo1:=HQ5.out.cell (i:=1) rfl
  have rr1:=HR5.out.cell (i:=1) rfl
  have oo2:=HQ5.out.cell (i:=2) rfl
  have rr2:=HR5.out.cell (i:=2) rfl
  have oo3:=HQ5.out.cell (i:=3) rfl
  have rr3:=HR5.out.cell (i:=3) rfl
  have oo4:=HQ5.out.cell (i:=4) rfl
  have rr4:=HR5.out.cell (i:=4) rfl
  have oo5:=HQ5.out.cell (i:=5) rfl
  have rr5:=HR5.out.cell (i:=5) rfl
  have oo6:=HQ5.out.cell (i:=6) rfl
  have rr6:=HR5.out.cell (i:=6) rfl
  have rf:=HR5.out.free
  go_wp2
  clear rf oo0 rr0 oo1 rr1 oo2 rr2 oo3 rr3 oo4 rr4 oo5 rr5 oo6 rr6 qq6 qf4 hV5
  have HY0:=HR5.out
  have HU0:Turns (fun k=>k=(w.heap.size+1)) V5 V5:=Turns.refl _ _
  obtain⟨Y1,hY1⟩:∃Y1,V5.setCell ⟨(w.heap.size+1),0,none⟩ (.int .i64 p.n)=Y1:=⟨_,rfl⟩
  have HY1:Bk Y1 (w.heap.size+1) 97 #[.int .i64 p.n,.slice none 0 0,.int .i64 0,.int .i64 0,.slice none 0 0,.slice none 0 0,.slice none 0 0]:=hY1▸HY0.put 0 _
  have HU1:Turns (fun k=>k=(w.heap.size+1)) V5 Y1:=HU0.trans (hY1▸yag _ _ 0 _)
  clear HY0 HU0
  obtain⟨Y2,hY2⟩:∃Y2,Y1.setCell ⟨(w.heap.size+1),1,none⟩ (.slice a1 p.st.r.length c1)=Y2:=⟨_,rfl⟩
  have HY2:Bk Y2 (w.heap.size+1) 97 #[.int .i64 p.n,.slice a1 p.st.r.length c1,.int .i64 0,.int .i64 0,.slice none 0 0,.slice none 0 0,.slice none 0 0]:=hY2▸HY1.put 1 _
  have HU2:Turns (fun k=>k=(w.heap.size+1)) V5 Y2:=HU1.trans (hY2▸yag _ _ 1 _)
  clear HY1 HU1
  obtain⟨Y3,hY3⟩:∃Y3,Y2.setCell ⟨(w.heap.size+1),2,none⟩ (.int .i64 p.st.q)=Y3:=⟨_,rfl⟩
  have HY3:Bk Y3 (w.heap.size+1) 97 #[.int .i64 p.n,.slice a1 p.st.r.length c1,.int .i64 p.st.q,.int .i64 0,.slice none 0 0,.slice none 0 0,.slice none 0 0]:=hY3▸HY2.put 2 _
  have HU3:Turns (fun k=>k=(w.heap.size+1)) V5 Y3:=HU2.trans (hY3▸yag _ _ 2 _)
  clear HY2 HU2
  obtain⟨Y4,hY4⟩:∃Y4,Y3.setCell ⟨(w.heap.size+1),3,none⟩ (.int .i64 p.st.d)=Y4:=⟨_,rfl⟩
  have HY4:Bk Y4 (w.heap.size+1) 97 #[.int .i64 p.n,.slice a1 p.st.r.length c1,.int .i64 p.st.q,.int .i64 p.st.d,.slice none 0 0,.slice none 0 0,.slice none 0 0]:=hY4▸HY3.put 3 _
  have HU4:Turns (fun k=>k=(w.heap.size+1)) V5 Y4:=HU3.trans (hY4▸yag _ _ 3 _)
  clear HY3 HU3
  obtain⟨Y5,hY5⟩:∃Y5,Y4.setCell ⟨(w.heap.size+1),4,none⟩ (.slice a4 p.p.length c4)=Y5:=⟨_,rfl⟩
  have HY5:Bk Y5 (w.heap.size+1) 97 #[.int .i64 p.n,.slice a1 p.st.r.length c1,.int .i64 p.st.q,.int .i64 p.st.d,.slice a4 p.p.length c4,.slice none 0 0,.slice none 0 0]:=hY5▸HY4.put 4 _
  have HU5:Turns (fun k=>k=(w.heap.size+1)) V5 Y5:=HU4.trans (hY5▸yag _ _ 4 _)
  clear HY4 HU4
  obtain⟨Y6,hY6⟩:∃Y6,Y5.setCell ⟨(w.heap.size+1),5,none⟩ (.slice a5 p.t.length c5)=Y6:=⟨_,rfl⟩
  have HY6:Bk Y6 (w.heap.size+1) 97 #[.int .i64 p.n,.slice a1 p.st.r.length c1,.int .i64 p.st.q,.int .i64 p.st.d,.slice a4 p.p.length c4,.slice a5 p.t.length c5,.slice none 0 0]:=hY6▸HY5.put 5 _
  have HU6:Turns (fun k=>k=(w.heap.size+1)) V5 Y6:=HU5.trans (hY6▸yag _ _ 5 _)
  clear HY5 HU5
  obtain⟨Y7,hY7⟩:∃Y7,Y6.setCell ⟨(w.heap.size+1),6,none⟩ (.slice a6 p.a.length c6)=Y7:=⟨_,rfl⟩
  have HY7:Bk Y7 (w.heap.size+1) 97 #[.int .i64 p.n,.slice a1 p.st.r.length c1,.int .i64 p.st.q,.int .i64 p.st.d,.slice a4 p.p.length c4,.slice a5 p.t.length c5,.slice a6 p.a.length c6]:=hY7▸HY6.put 6 _
  have HU7:Turns (fun k=>k=(w.heap.size+1)) V5 Y7:=HU6.trans (hY7▸yag _ _ 6 _)
  clear HY6 HU6
  rw [hY1,hY2,hY3,hY4,hY5,hY6,hY7]
  have hR:=HY7
  have hT:=HU7
  obtain⟨t0,t1,t2,t3,t4,t5,t6⟩:=c7_7 hR
  have hsz:=hT.size
  refine bodyPost_ret (v:= .agg #[.int .i64 p.n,.slice a1 p.st.r.length c1,.int .i64 p.st.q,.int .i64 p.st.d,.slice a4 p.p.length c4,.slice a5 p.t.length c5,.slice a6 p.a.length c6]) (by simp [results,Tryz.results112,go_sem,t0,t1,t2,t3,t4,t5,t6]) rfl
    ⟨_,rfl,HX5.out.trans (hT.to_below (fun k e=>by omega) (by omega)),_,_,_,_,_,_,_,_,rfl,HO1.out.turns hT (fun k e=>by omega),HO4.out.turns hT (fun k e=>by omega),HO5.out.turns hT (fun k e=>by omega),HO6.out.turns hT (fun k e=>by omega),fun k e=>⟨⟨by omega,by omega⟩,by omega,by omega,by omega⟩,fun k e=>⟨⟨by omega,by omega⟩,by omega,by omega⟩,fun k e=>⟨⟨by omega,by omega⟩,by omega⟩,fun k e=>⟨by omega,by omega⟩⟩
def sumC (f:Nat→Dat) (j:Nat):Nat:=sumL (fun i=>(f i).cnt) j
def mkD (f:Nat→Dat) (z:Int) (m:Nat):Nat→Dat:=fun j=>if j<m then(f j).mark (z+(sumC f j:Int))else f j
theorem zn2 (f:Nat→Dat) (z:Int) (m:Nat):upd (mkD f z m) m ((f m).mark (z+(sumC f m:Int)))=mkD f z (m+1):=by
  funext j
  simp only [upd,mkD]
  by_cases e:j=m
  · subst e;rw [if_pos rfl,if_pos (by omega)]
  · rw [if_neg e]
    by_cases e2:j<m
    · rw [if_pos e2,if_pos (by omega)]
    · rw [if_neg e2,if_neg (by omega)]
theorem OwnD.mk0 {F:Nat→Prop} {w:World} {x:Value} {c n:Nat} {f:Nat→Dat} (z:Int) (h:OwnD w F x (.row c n f)):OwnD w F x (.row c n (mkD f z (0*c))):=
  h.congr (fun j _=>by simp [mkD])
theorem OwnD.mkAll {F:Nat→Prop} {w:World} {x:Value} {c n:Nat} {f:Nat→Dat} {z:Int} (h:OwnD w F x (.row c n (mkD f z (n*c)))):OwnD w F x ((Dat.row c n f).mark z):=
  OwnD.congr (f':=fun j=>(f j).mark (z+(sumL (fun i=>(f i).cnt) j:Int))) h (fun j hj=>by simp only [mkD];rw [if_pos hj];rfl)
theorem OwnD.mk_val {F:Nat→Prop} {w:World} {g n cap c m:Nat} {f:Nat→Dat} {z:Int} (h:OwnD w F (.slice (some ⟨g,0,none⟩) n cap) (.row c n (mkD f z m))) (hm:m<n*c) {u v:Value} (hv:f m= .val v) (hu:u=mark1 v (z+(sumC f m:Int))):
    OwnD (w.setCell ⟨g,m,none⟩ u) F (.slice (some ⟨g,0,none⟩) n cap) (.row c n (mkD f z (m+1))):=by
  have:=h.put_val hm u
  rw [←zn2,hv]
  rw [hu]at this⊢
  exact this
theorem OwnD.mk_row {F:Nat→Prop} {w:World} {g n cap c m:Nat} {f:Nat→Dat} {z:Int} (h:OwnD w F (.slice (some ⟨g,0,none⟩) n cap) (.row c n (mkD f z m))) (hm:m<n*c):
    ∃u K,w.cell? ⟨g,m,none⟩=some u∧OwnD w K u (f m)∧(∀k,K k→F k)∧ ∀w',OwnD w' K u ((f m).mark (z+(sumC f m:Int)))→Turns K w w'→OwnD w' F (.slice (some ⟨g,0,none⟩) n cap) (.row c n (mkD f z (m+1))):=by
  obtain⟨u,K,h1,_,h3,h4,h5⟩:=h.step hm
  refine⟨u,K,h1,?_,fun k hk=>(h4 k hk).1,fun w' hw ht=> ?_⟩
  · have e:mkD f z m m=f m:=by simp [mkD]
    rw [e]at h3;exact h3
  · have:=h5 w' _ hw ht
    rw [zn2]at this;exact this
theorem OwnD.marked {F:Nat→Prop} {w:World} {g n cap c:Nat} {f:Nat→Dat} {z:Int} (h:OwnD w F (.slice (some ⟨g,0,none⟩) n cap) ((Dat.row c n f).mark z)) {j:Nat} (hj:j<n*c):
    ∃u K,w.cell? ⟨g,j,none⟩=some u∧OwnD w K u ((f j).mark (z+(sumC f j:Int))):=by
  obtain⟨u,K,h1,_,h3,_⟩:=OwnD.step (f:=fun j=>(f j).mark (z+(sumL (fun i=>(f i).cnt) j:Int))) h hj
  exact⟨u,K,h1,h3⟩
theorem OwnD.marked_val {F:Nat→Prop} {w:World} {g n cap c:Nat} {f:Nat→Dat} {z:Int} (h:OwnD w F (.slice (some ⟨g,0,none⟩) n cap) ((Dat.row c n f).mark z)) {j:Nat} (hj:j<n*c) {v u:Value} (hv:f j= .val v) (hu:u=mark1 v (z+(sumC f j:Int))):
    w.cell? ⟨g,j,none⟩=some u:=by
  obtain⟨u',K,h1,h2⟩:=h.marked hj
  rw [hv]at h2
  rw [h1,h2.isD.val_eq,hu]
theorem OwnD.mslice {F:Nat→Prop} {w:World} {x:Value} {n c:Nat} {f:Nat→Dat} {z:Int} (h:OwnD w F x ((Dat.row c n f).mark z)):∃a cap,x= .slice a n cap∧n≤maxLen∧(n=0∨ ∃g,a=some ⟨g,0,none⟩):=by
  obtain⟨a,cap,e,h1,h2,h⟩:=OwnD.parts (f:=fun j=>(f j).mark (z+(sumL (fun i=>(f i).cnt) j:Int))) h
  exact⟨a,cap,e,Nat.le_trans h1 h2,h.imp id (fun⟨g,e,_⟩=>⟨g,e⟩)⟩
theorem ywa {c n:Nat} {f:Nat→Dat} {j:Nat} (h:j≤n*c):sumC f j≤(Dat.row c n f).cnt:=zcs _ h
theorem yvk (f:Nat→Dat) (j:Nat):sumC f (j+1)=sumC f j+(f j).cnt:=rfl
theorem yxb {p:Prop} (h:p):Hid p:=h
set_option maxRecDepth 100000 in
set_option maxHeartbeats 8000000 in
theorem zm6 {F:Nat→Prop} {x:Value} {l:List Ps} {w:World} (z:Int) (hn:(yw3 l).wt≤1048577) (hz0:0≤z) (hz1:z+((yw3 l).cnt:Int)≤1073741824) (h:OwnD w F x (yw3 l)):
    Calls Tryz.prog 143 #[x,.int .i64 z] w fun e w'=>e= .returned (.int .i64 (z+((yw3 l).cnt:Int)))∧OwnD w' F x ((yw3 l).mark z)∧Turns F w w':=by
  obtain⟨a,cap,rfl,h1,h2,ha⟩:=OwnD.parts (c:=12) (n:=l.length) h
  have HR0:=yxb (OwnD.mk0 z h)
  have HS:=yxb hn
  have HZ:=yxb hz1
  have hl2:l.length≤1048577:=by rw [yxh]at hn;omega
  clear h hn hz1 h1 h2
  go_enter Tryz.func143,Tryz.ntmps143
  go_wp2
  go_loopw [5,1] (fun i y wr=>∃k:Nat,k≤l.length∧i= .int .i64 k∧y= .int .i64 (z+(sumC (ydq l) (k*12):Int))∧OwnD wr F (.slice a l.length cap) (.row 12 l.length (mkD (ydq l) z (k*12)))∧Turns F w wr) (fun i _ _=>l.length-(intOf i).toNat)
  case atStart=>exact⟨0,Nat.zero_le _,rfl,by simp [sumC,sumL],HR0.out,Turns.refl _ _⟩
  case round=>
    obtain⟨k,hk,rfl,rfl,hR,hT⟩:=hrel
    have HR:=yxb hR
    have HT:Hid (Turns F w wr):=hT
    clear hR hT
    by_cases hlt:k<l.length
    · obtain⟨g,rfl,_,hFg⟩:=ha.resolve_left (by omega)
      have HF:Hid (F g):=hFg
      have hwt:(psAt l k).wt≤1048577:=Nat.le_trans (Ps.wt_le hlt) HS.out
      unfold Ps.wt at hwt
      simp only [yy3,yx0,ywf]at hwt
      obtain⟨m,hm⟩:∃m,m=k*12:=⟨_,rfl⟩
      have E0:=yxb (ywn l k (r:=0) (by omega))
      have E1:=yxb (ywn l k (r:=1) (by omega))
      have E2:=yxb (ywn l k (r:=2) (by omega))
      have E3:=yxb (ywn l k (r:=3) (by omega))
      have E4:=yxb (ywn l k (r:=4) (by omega))
      have E5:=yxb (ywn l k (r:=5) (by omega))
      have E6:=yxb (ywn l k (r:=6) (by omega))
      have E7:=yxb (ywn l k (r:=7) (by omega))
      have E8:=yxb (ywn l k (r:=8) (by omega))
      have E9:=yxb (ywn l k (r:=9) (by omega))
      have E10:=yxb (ywn l k (r:=10) (by omega))
      have E11:=yxb (ywn l k (r:=11) (by omega))
      have C0:Hid (sumC (ydq l) (k*12)≤(yw3 l).cnt):=ywa (by omega)
      have S1:Hid (sumC (ydq l) (k*12+1)=sumC (ydq l) (k*12)+(Dat.val (.int .i64 (psAt l k).e.t)).cnt):=by
        have e:=yvk (ydq l) (k*12+0)
        rw [E0.out]at e
        exact e
      have C1:Hid (sumC (ydq l) (k*12+1)≤(yw3 l).cnt):=ywa (by omega)
      have S2:Hid (sumC (ydq l) (k*12+2)=sumC (ydq l) (k*12+1)+(Dat.val (.int .i64 (psAt l k).e.s)).cnt):=by
        have e:=yvk (ydq l) (k*12+1)
        rw [E1.out]at e
        exact e
      have C2:Hid (sumC (ydq l) (k*12+2)≤(yw3 l).cnt):=ywa (by omega)
      have S3:Hid (sumC (ydq l) (k*12+3)=sumC (ydq l) (k*12+2)+(Dat.val (.int .i64 (psAt l k).e.q)).cnt):=by
        have e:=yvk (ydq l) (k*12+2)
        rw [E2.out]at e
        exact e
      have C3:Hid (sumC (ydq l) (k*12+3)≤(yw3 l).cnt):=ywa (by omega)
      have S4:Hid (sumC (ydq l) (k*12+4)=sumC (ydq l) (k*12+3)+(Dat.val (.int .i64 (psAt l k).e.d)).cnt):=by
        have e:=yvk (ydq l) (k*12+3)
        rw [E3.out]at e
        exact e
      have C4:Hid (sumC (ydq l) (k*12+4)≤(yw3 l).cnt):=ywa (by omega)
      have S5:Hid (sumC (ydq l) (k*12+5)=sumC (ydq l) (k*12+4)+(Dat.val (.int .i64 (psAt l k).e.k)).cnt):=by
        have e:=yvk (ydq l) (k*12+4)
        rw [E4.out]at e
        exact e
      have C5:Hid (sumC (ydq l) (k*12+5)≤(yw3 l).cnt):=ywa (by omega)
      have S6:Hid (sumC (ydq l) (k*12+6)=sumC (ydq l) (k*12+5)+(Dat.val (.int .i64 (psAt l k).e.v)).cnt):=by
        have e:=yvk (ydq l) (k*12+5)
        rw [E5.out]at e
        exact e
      have C6:Hid (sumC (ydq l) (k*12+6)≤(yw3 l).cnt):=ywa (by omega)
      have S7:Hid (sumC (ydq l) (k*12+7)=sumC (ydq l) (k*12+6)+(Dat.val (.int .i64 (psAt l k).e.g)).cnt):=by
        have e:=yvk (ydq l) (k*12+6)
        rw [E6.out]at e
        exact e
      have C7:Hid (sumC (ydq l) (k*12+7)≤(yw3 l).cnt):=ywa (by omega)
      have S8:Hid (sumC (ydq l) (k*12+8)=sumC (ydq l) (k*12+7)+(ywr (psAt l k).b.r).cnt):=by
        have e:=yvk (ydq l) (k*12+7)
        rw [E7.out]at e
        exact e
      have C8:Hid (sumC (ydq l) (k*12+8)≤(yw3 l).cnt):=ywa (by omega)
      have S9:Hid (sumC (ydq l) (k*12+9)=sumC (ydq l) (k*12+8)+(Dat.val (.int .i64 (psAt l k).b.q)).cnt):=by
        have e:=yvk (ydq l) (k*12+8)
        rw [E8.out]at e
        exact e
      have C9:Hid (sumC (ydq l) (k*12+9)≤(yw3 l).cnt):=ywa (by omega)
      have S10:Hid (sumC (ydq l) (k*12+10)=sumC (ydq l) (k*12+9)+(Dat.val (.int .i64 (psAt l k).b.d)).cnt):=by
        have e:=yvk (ydq l) (k*12+9)
        rw [E9.out]at e
        exact e
      have C10:Hid (sumC (ydq l) (k*12+10)≤(yw3 l).cnt):=ywa (by omega)
      have S11:Hid (sumC (ydq l) (k*12+11)=sumC (ydq l) (k*12+10)+(evsD (psAt l k).s).cnt):=by
        have e:=yvk (ydq l) (k*12+10)
        rw [E10.out]at e
        exact e
      have C11:Hid (sumC (ydq l) (k*12+11)≤(yw3 l).cnt):=ywa (by omega)
      have S12:Hid (sumC (ydq l) (k*12+12)=sumC (ydq l) (k*12+11)+(emsD (psAt l k).x).cnt):=by
        have e:=yvk (ydq l) (k*12+11)
        rw [E11.out]at e
        exact e
      have C12:Hid (sumC (ydq l) (k*12+12)≤(yw3 l).cnt):=ywa (by omega)
      obtain⟨y,hy⟩:∃y:Int,y=z+(sumC (ydq l) (k*12):Int):=⟨_,rfl⟩
      have HY0:=yxb hy
      have y0:0≤y:=by omega
      rw [←hy]
      clear hy hm
      obtain⟨x0,_,g0,z0,_⟩:=HR.out.step (j:=k*12) (by omega)
      obtain⟨Y1,hY1⟩:∃Y1,wr.setCell ⟨g,k*12,none⟩ (.int .i64 y)=Y1:=⟨_,rfl⟩
      have HR1:Hid (OwnD Y1 F (.slice (some ⟨g,0,none⟩) l.length cap) (.row 12 l.length (mkD (ydq l) z (k*12+1)))):=hY1▸HR.out.mk_val (m:=k*12) (by omega) E0.out (by
        show _=Value.int .i64 (z+(sumC (ydq l) (k*12):Int))
        rw [show y=z+(sumC (ydq l) (k*12):Int)from by(have e:=HY0.out;simp only [Dat.cnt]at*;omega)])
      have HT1:Hid (Turns F w Y1):=HT.out.trans (hY1▸(yag _ _ _ _).mono (fun b e=>by subst e;exact HF.out))
      obtain⟨x1,_,g1,z1,_⟩:=HR1.out.step (j:=k*12+1) (by omega)
      obtain⟨Y2,hY2⟩:∃Y2,Y1.setCell ⟨g,k*12+1,none⟩ (.int .i64 (y+1))=Y2:=⟨_,rfl⟩
      have HR2:Hid (OwnD Y2 F (.slice (some ⟨g,0,none⟩) l.length cap) (.row 12 l.length (mkD (ydq l) z (k*12+2)))):=hY2▸HR1.out.mk_val (m:=k*12+1) (by omega) E1.out (by
        show _=Value.int .i64 (z+(sumC (ydq l) (k*12+1):Int))
        rw [show y+1=z+(sumC (ydq l) (k*12+1):Int)from by(have e:=HY0.out;have e1:=S1.out;simp only [Dat.cnt]at*;omega)])
      have HT2:Hid (Turns F w Y2):=HT1.out.trans (hY2▸(yag _ _ _ _).mono (fun b e=>by subst e;exact HF.out))
      obtain⟨x2,_,g2,z2,_⟩:=HR2.out.step (j:=k*12+2) (by omega)
      obtain⟨Y3,hY3⟩:∃Y3,Y2.setCell ⟨g,k*12+2,none⟩ (.int .i64 (y+1+1))=Y3:=⟨_,rfl⟩
      have HR3:Hid (OwnD Y3 F (.slice (some ⟨g,0,none⟩) l.length cap) (.row 12 l.length (mkD (ydq l) z (k*12+3)))):=hY3▸HR2.out.mk_val (m:=k*12+2) (by omega) E2.out (by
        show _=Value.int .i64 (z+(sumC (ydq l) (k*12+2):Int))
        rw [show y+1+1=z+(sumC (ydq l) (k*12+2):Int)from by(have e:=HY0.out;have e1:=S1.out;have e2:=S2.out;simp only [Dat.cnt]at*;omega)])
      have HT3:Hid (Turns F w Y3):=HT2.out.trans (hY3▸(yag _ _ _ _).mono (fun b e=>by subst e;exact HF.out))
      obtain⟨x3,_,g3,z3,_⟩:=HR3.out.step (j:=k*12+3) (by omega)
      obtain⟨Y4,hY4⟩:∃Y4,Y3.setCell ⟨g,k*12+3,none⟩ (.int .i64 (y+1+1+1))=Y4:=⟨_,rfl⟩
      have HR4:Hid (OwnD Y4 F (.slice (some ⟨g,0,none⟩) l.length cap) (.row 12 l.length (mkD (ydq l) z (k*12+4)))):=hY4▸HR3.out.mk_val (m:=k*12+3) (by omega) E3.out (by
        show _=Value.int .i64 (z+(sumC (ydq l) (k*12+3):Int))
        rw [show y+1+1+1=z+(sumC (ydq l) (k*12+3):Int)from by(have e:=HY0.out;have e1:=S1.out;have e2:=S2.out;have e3:=S3.out;simp only [Dat.cnt]at*;omega)])
      have HT4:Hid (Turns F w Y4):=HT3.out.trans (hY4▸(yag _ _ _ _).mono (fun b e=>by subst e;exact HF.out))
      obtain⟨x4,_,g4,z4,_⟩:=HR4.out.step (j:=k*12+4) (by omega)
      obtain⟨Y5,hY5⟩:∃Y5,Y4.setCell ⟨g,k*12+4,none⟩ (.int .i64 (y+1+1+1+1))=Y5:=⟨_,rfl⟩
      have HR5:Hid (OwnD Y5 F (.slice (some ⟨g,0,none⟩) l.length cap) (.row 12 l.length (mkD (ydq l) z (k*12+5)))):=hY5▸HR4.out.mk_val (m:=k*12+4) (by omega) E4.out (by
        show _=Value.int .i64 (z+(sumC (ydq l) (k*12+4):Int))
        rw [show y+1+1+1+1=z+(sumC (ydq l) (k*12+4):Int)from by(have e:=HY0.out;have e1:=S1.out;have e2:=S2.out;have e3:=S3.out;have e4:=S4.out;simp only [Dat.cnt]at*;omega)])
      have HT5:Hid (Turns F w Y5):=HT4.out.trans (hY5▸(yag _ _ _ _).mono (fun b e=>by subst e;exact HF.out))
      obtain⟨x5,_,g5,z5,_⟩:=HR5.out.step (j:=k*12+5) (by omega)
      obtain⟨Y6,hY6⟩:∃Y6,Y5.setCell ⟨g,k*12+5,none⟩ (.int .i64 (y+1+1+1+1+1))=Y6:=⟨_,rfl⟩
      have HR6:Hid (OwnD Y6 F (.slice (some ⟨g,0,none⟩) l.length cap) (.row 12 l.length (mkD (ydq l) z (k*12+6)))):=hY6▸HR5.out.mk_val (m:=k*12+5) (by omega) E5.out (by
        show _=Value.int .i64 (z+(sumC (ydq l) (k*12+5):Int))
        rw [show y+1+1+1+1+1=z+(sumC (ydq l) (k*12+5):Int)from by(have e:=HY0.out;have e1:=S1.out;have e2:=S2.out;have e3:=S3.out;have e4:=S4.out;have e5:=S5.out;simp only [Dat.cnt]at*;omega)])
      have HT6:Hid (Turns F w Y6):=HT5.out.trans (hY6▸(yag _ _ _ _).mono (fun b e=>by subst e;exact HF.out))
      obtain⟨x6,_,g6,z6,_⟩:=HR6.out.step (j:=k*12+6) (by omega)
      obtain⟨Y7,hY7⟩:∃Y7,Y6.setCell ⟨g,k*12+6,none⟩ (.int .i64 (y+1+1+1+1+1+1))=Y7:=⟨_,rfl⟩
      have HR7:Hid (OwnD Y7 F (.slice (some ⟨g,0,none⟩) l.length cap) (.row 12 l.length (mkD (ydq l) z (k*12+7)))):=hY7▸HR6.out.mk_val (m:=k*12+6) (by omega) E6.out (by
        show _=Value.int .i64 (z+(sumC (ydq l) (k*12+6):Int))
        rw [show y+1+1+1+1+1+1=z+(sumC (ydq l) (k*12+6):Int)from by(have e:=HY0.out;have e1:=S1.out;have e2:=S2.out;have e3:=S3.out;have e4:=S4.out;have e5:=S5.out;have e6:=S6.out;simp only [Dat.cnt]at*;omega)])
      have HT7:Hid (Turns F w Y7):=HT6.out.trans (hY7▸(yag _ _ _ _).mono (fun b e=>by subst e;exact HF.out))
      obtain⟨u7,K7,g7,o7,f7,b7⟩:=HR7.out.mk_row (m:=k*12+7) (by omega)
      rw [E7.out]at o7 b7
      have O7:=yxb o7
      have B7:=yxb b7
      have F7:Hid (∀b,K7 b→F b):=f7
      clear o7 b7 f7
      have hq7:y+1+1+1+1+1+1+1=z+(sumC (ydq l) (k*12+7):Int):=by(have e:=HY0.out;have e1:=S1.out;have e2:=S2.out;have e3:=S3.out;have e4:=S4.out;have e5:=S5.out;have e6:=S6.out;have e7:=S7.out;simp only [Dat.cnt]at*;omega)
      have hb7:y+1+1+1+1+1+1+1≤1073741824:=by have:=HZ.out;have:=C7.out;omega
      have Q7:=yxb hq7
      clear hq7
      go_wp2_with fail
      clear g7 hY7 z6 g6 hY6 z5 g5 hY5 z4 g4 hY4 z3 g3 hY3 z2 g2 hY2 z1 g1 hY1 z0 g0
      refine(zbk (F:=K7) (l:=(psAt l k).b.r) (y+1+1+1+1+1+1+1) (by omega) (by omega) (by omega) O7.out).mono ?_
      rintro e w8 ⟨rfl,hr,ht⟩
      rw [Q7.out]at hr
      have HR8:=yxb (B7.out _ hr ht)
      have HT8:Hid (Turns F w w8):=HT7.out.trans (ht.mono F7.out)
      clear hr ht
      obtain⟨y7,hy⟩:∃y7:Int,y7=y+1+1+1+1+1+1+1+((ywr (psAt l k).b.r).cnt:Int):=⟨_,rfl⟩
      have HY8:Hid (y7=z+(sumC (ydq l) (k*12+8):Int)):=by
        have h8:=S8.out
        have h9:=Q7.out
        show y7=_
        omega
      have y70:0≤y7:=by omega
      have y71:y7≤1073741824:=by have h7:=HZ.out;have h8:=C8.out;have h9:=HY8.out;omega
      rw [←hy]
      clear hy
      obtain⟨x8,_,g8,z8,_⟩:=HR8.out.step (j:=k*12+8) (by omega)
      obtain⟨Y9,hY9⟩:∃Y9,w8.setCell ⟨g,k*12+8,none⟩ (.int .i64 y7)=Y9:=⟨_,rfl⟩
      have HR9:Hid (OwnD Y9 F (.slice (some ⟨g,0,none⟩) l.length cap) (.row 12 l.length (mkD (ydq l) z (k*12+9)))):=hY9▸HR8.out.mk_val (m:=k*12+8) (by omega) E8.out (by
        show _=Value.int .i64 (z+(sumC (ydq l) (k*12+8):Int))
        rw [show y7=z+(sumC (ydq l) (k*12+8):Int)from by(have e:=HY8.out;simp only [Dat.cnt]at*;omega)])
      have HT9:Hid (Turns F w Y9):=HT8.out.trans (hY9▸(yag _ _ _ _).mono (fun b e=>by subst e;exact HF.out))
      obtain⟨x9,_,g9,z9,_⟩:=HR9.out.step (j:=k*12+9) (by omega)
      obtain⟨Y10,hY10⟩:∃Y10,Y9.setCell ⟨g,k*12+9,none⟩ (.int .i64 (y7+1))=Y10:=⟨_,rfl⟩
      have HR10:Hid (OwnD Y10 F (.slice (some ⟨g,0,none⟩) l.length cap) (.row 12 l.length (mkD (ydq l) z (k*12+10)))):=hY10▸HR9.out.mk_val (m:=k*12+9) (by omega) E9.out (by
        show _=Value.int .i64 (z+(sumC (ydq l) (k*12+9):Int))
        rw [show y7+1=z+(sumC (ydq l) (k*12+9):Int)from by(have e:=HY8.out;have e9:=S9.out;simp only [Dat.cnt]at*;omega)])
      have HT10:Hid (Turns F w Y10):=HT9.out.trans (hY10▸(yag _ _ _ _).mono (fun b e=>by subst e;exact HF.out))
      obtain⟨u10,K10,g10,o10,f10,b10⟩:=HR10.out.mk_row (m:=k*12+10) (by omega)
      rw [E10.out]at o10 b10
      have O10:=yxb o10
      have B10:=yxb b10
      have F10:Hid (∀b,K10 b→F b):=f10
      clear o10 b10 f10
      have hq10:y7+1+1=z+(sumC (ydq l) (k*12+10):Int):=by(have e:=HY8.out;have e9:=S9.out;have e10:=S10.out;simp only [Dat.cnt]at*;omega)
      have hb10:y7+1+1≤1073741824:=by have:=HZ.out;have:=C10.out;omega
      have Q10:=yxb hq10
      clear hq10
      go_wp2_with fail
      clear g10 hY10 z9 g9 hY9 z8 g8
      refine(ze5 (F:=K10) (l:=(psAt l k).s) (y7+1+1) (by omega) (by omega) (by omega) O10.out).mono ?_
      rintro e w11 ⟨rfl,hr,ht⟩
      rw [Q10.out]at hr
      have HR11:=yxb (B10.out _ hr ht)
      have HT11:Hid (Turns F w w11):=HT10.out.trans (ht.mono F10.out)
      clear hr ht
      obtain⟨y10,hy⟩:∃y10:Int,y10=y7+1+1+((evsD (psAt l k).s).cnt:Int):=⟨_,rfl⟩
      have HY11:Hid (y10=z+(sumC (ydq l) (k*12+11):Int)):=by
        have h8:=S11.out
        have h9:=Q10.out
        show y10=_
        omega
      have y100:0≤y10:=by omega
      have y101:y10≤1073741824:=by have h7:=HZ.out;have h8:=C11.out;have h9:=HY11.out;omega
      rw [←hy]
      clear hy
      obtain⟨u11,K11,g11,o11,f11,b11⟩:=HR11.out.mk_row (m:=k*12+11) (by omega)
      rw [E11.out]at o11 b11
      have O11:=yxb o11
      have B11:=yxb b11
      have F11:Hid (∀b,K11 b→F b):=f11
      clear o11 b11 f11
      have hq11:y10=z+(sumC (ydq l) (k*12+11):Int):=by(have e:=HY11.out;simp only [Dat.cnt]at*;omega)
      have hb11:y10≤1073741824:=by have:=HZ.out;have:=C11.out;omega
      have Q11:=yxb hq11
      clear hq11
      go_wp2_with fail
      clear g11
      refine(zge (F:=K11) (l:=(psAt l k).x) (y10) (by omega) (by omega) (by omega) O11.out).mono ?_
      rintro e w12 ⟨rfl,hr,ht⟩
      rw [Q11.out]at hr
      have HR12:=yxb (B11.out _ hr ht)
      have HT12:Hid (Turns F w w12):=HT11.out.trans (ht.mono F11.out)
      clear hr ht
      obtain⟨y11,hy⟩:∃y11:Int,y11=y10+((emsD (psAt l k).x).cnt:Int):=⟨_,rfl⟩
      have HY12:Hid (y11=z+(sumC (ydq l) (k*12+12):Int)):=by
        have h8:=S12.out
        have h9:=Q11.out
        show y11=_
        omega
      have y110:0≤y11:=by omega
      have y111:y11≤1073741824:=by have h7:=HZ.out;have h8:=C12.out;have h9:=HY12.out;omega
      rw [←hy]
      clear hy
      go_wp2
      go_roundw
      case rel=>
        refine⟨k+1,by omega,by go_num,?_,?_,HT12.out⟩
        · rw [show y11=z+(sumC (ydq l) ((k+1)*12):Int)from by rw [show(k+1)*12=k*12+12 from by omega];(have e:=HY12.out;simp only [Dat.cnt]at*;omega)]
        · rw [show(k+1)*12=k*12+12 from by omega]
          exact HR12.out
      case measure=>simp [intOf];omega
    · go_wp2
      go_ret
      obtain rfl:k=l.length:=by omega
      exact⟨rfl,HR.out.mkAll,HT.out⟩
end Go.Proofs.YtghndljgadpijaaGreat

