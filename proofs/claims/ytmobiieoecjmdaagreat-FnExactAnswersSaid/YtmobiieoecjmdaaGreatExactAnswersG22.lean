/- MOkM, TPsC, TPsD, TPtC, TMk, TPsE, PLib, NBytes, VToB -/
import Derived.Test.YtmobiieoecjmdaaGreatExactAnswersLMOkS
import Derived.Test.YtmobiieoecjmdaaGreatExactAnswersG15
import Derived.Deep.Cut
import Derived.Deep.CutBlock
import Derived.ArgAppend
import Derived.Lib.UnsafeStr
namespace Go.Proofs.YtmobiieoecjmdaaGreat
open Go.RowKit
theorem yfh {p:Prop} (h:p):Hid p:=h
theorem ok_parts (m:Md):m.ok=((decide (1≤m.n)&&decide (m.n≤4))&&((decide (0≤m.s)&&decide (m.s≤65535))&&((decide (0≤m.z)&&decide (m.z≤950))&&((decide ((m.i.length:Int)=m.n)&&m.okI)&&((decide (1≤m.h.length∧m.h.length≤4)&&m.okH)&&(decide (m.e.length≤6)&&m.okE)))))):=by
 unfold Md.ok
 rw [Bool.eq_iff_iff]
 simp only [Bool.and_eq_true,decide_eq_true_eq]
 unfold Md.hd
 constructor
 ·rintro ⟨⟨⟨⟨h1,h2,h3,h4,h5,h6,h7,h8,h9,h10⟩,hi⟩,hh⟩,he⟩
  exact⟨⟨h1,h2⟩,⟨h3,h4⟩,⟨h9,h10⟩,⟨h5,hi⟩,⟨⟨h6,h7⟩,hh⟩,h8,he⟩
 ·rintro ⟨⟨h1,h2⟩,⟨h3,h4⟩,⟨h9,h10⟩,⟨h5,hi⟩,⟨⟨h6,h7⟩,hh⟩,h8,he⟩
  exact⟨⟨⟨⟨h1,h2,h3,h4,h5,h6,h7,h8,h9,h10⟩,hi⟩,hh⟩,he⟩
set_option maxRecDepth 100000 in
set_option maxHeartbeats 8000000 in
theorem iModM (x:Value) (m:Md) (w:World) (hs:SmallM m) (h:IsM w x m):
  Calls Tryz.prog 110 #[x] w fun e w'=>e= .returned (.bool m.ok)∧Below w.heap.size w w':=by
 have HX:Hid (IsM w x m):=h
 obtain⟨vi,vh,vs,rfl,⟨ai,ci,rfl,hi1,hi2,hi3⟩,⟨ah,ch,rfl,hh1,hh2,hh3⟩,⟨ae,ce,rfl,he1,he2,he3⟩⟩:=h
 have hi0:m.i.length≤1048576:=hs.i
 have hh0:m.h.length≤1048576:=hs.h
 have he0:m.e.length≤1048576:=hs.e
 have HS:Hid (SmallM m):=hs
 clear hs hi1 hi2 hh1 hh2 he1 he2
 clear hi3 hh3 he3 hi0 hh0 he0
 obtain⟨W0,hW0⟩:∃W0,w.alloc (.cells #[.int .i64 m.n,.int .i64 m.s,.slice ai m.i.length ci,.slice ah m.h.length ch,.slice ae m.e.length ce,.int .i64 m.z] 36)=W0:=⟨_,rfl⟩
 have HB0:=hdq (beA hW0)
 have HP0:=hdq (bkA hW0)
 obtain⟨p0,p1,p2,p3,p4,p5⟩:=c6_6 HP0.out
 have HOK:=yfh (ok_parts m)
 generalize m.ok=okv at HOK⊢
 go_enter Tryz.func110,Tryz.ntmps110
 go_wp2_with fail
 clear hW0
 refine(yad _ _ _ _).mono ?_
 rintro e w2 ⟨rfl,hw⟩
 have hw':=hw.symm
 clear hw
 subst hw'
 cases hA0:(decide (1≤m.n)&&decide (m.n≤4))
 case false=>
  have hno:okv=false:=by rw [HOK.out,hA0];simp
  subst hno
  clear hA0
  go_wp2
  go_ret
  exact⟨rfl,HB0.out⟩
 have HA0:=yfh hA0
 clear hA0
 go_wp2_with fail
 refine(yad _ _ _ _).mono ?_
 rintro e w2 ⟨rfl,hw⟩
 have hw':=hw.symm
 clear hw
 subst hw'
 cases hA1:(decide (0≤m.s)&&decide (m.s≤65535))
 case false=>
  have hno:okv=false:=by rw [HOK.out,hA1];simp
  subst hno
  clear hA1
  go_wp2
  go_ret
  exact⟨rfl,HB0.out⟩
 have HA1:=yfh hA1
 clear hA1
 go_wp2_with fail
 refine(yad _ _ _ _).mono ?_
 rintro e w2 ⟨rfl,hw⟩
 have hw':=hw.symm
 clear hw
 subst hw'
 cases hA2:(decide (0≤m.z)&&decide (m.z≤950))
 case false=>
  have hno:okv=false:=by rw [HOK.out,hA2];simp
  subst hno
  clear hA2
  go_wp2
  go_ret
  exact⟨rfl,HB0.out⟩
 have HA2:=yfh hA2
 clear hA2
 go_wp2_with fail
 refine(ys2 _ m _ HS.out (HX.out.below HB0.out)).mono ?_
 rintro e w3 ⟨rfl,hb⟩
 have HB3:=trh HB0 hb
 have HP3:=yfh (HP0.out.below hb)
 clear hb HB0 HP0 p0 p1 p2 p3 p4 p5
 obtain⟨p0,p1,p2,p3,p4,p5⟩:=c6_6 HP3.out
 cases hA3:(decide ((m.i.length:Int)=m.n)&&m.okI)
 case false=>
  have hno:okv=false:=by rw [HOK.out,hA3];simp
  subst hno
  clear hA3
  go_wp2
  go_ret
  exact⟨rfl,HB3.out⟩
 have HA3:=yfh hA3
 clear hA3
 go_wp2_with fail
 refine(yka _ m _ HS.out (HX.out.below HB3.out)).mono ?_
 rintro e w4 ⟨rfl,hb⟩
 have HB4:=trh HB3 hb
 have HP4:=yfh (HP3.out.below hb)
 clear hb HB3 HP3 p0 p1 p2 p3 p4 p5
 obtain⟨p0,p1,p2,p3,p4,p5⟩:=c6_6 HP4.out
 cases hA4:(decide (1≤m.h.length∧m.h.length≤4)&&m.okH)
 case false=>
  have hno:okv=false:=by rw [HOK.out,hA4];simp
  subst hno
  clear hA4
  go_wp2
  go_ret
  exact⟨rfl,HB4.out⟩
 have HA4:=yfh hA4
 clear hA4
 go_wp2_with fail
 refine(yo5 _ m _ HS.out (HX.out.below HB4.out)).mono ?_
 rintro e w5 ⟨rfl,hb⟩
 have HB5:=trh HB4 hb
 have HP5:=yfh (HP4.out.below hb)
 clear hb HB4 HP4 p0 p1 p2 p3 p4 p5
 have hy:okv=(decide (m.e.length≤6)&&m.okE):=by rw [HOK.out,HA0.out,HA1.out,HA2.out,HA3.out,HA4.out];simp
 subst hy
 clear HOK
 go_wp2
 go_ret
 exact⟨rfl,HB5.out⟩
theorem yar {p:Prop} (h:p):Hid p:=h
def putN (w:World) (g m:Nat) (U:Nat→Value):Nat→World
 |0=>w
 |N+1=>(putN w g m U N).setCell ⟨g,m+N,none⟩ (U N)
theorem yf1 (w:World) (g m:Nat) (U:Nat→Value):∀N,Turns (fun k=>k=g) w (putN w g m U N)
 |0=>Turns.refl _ _
 |N+1=>(yf1 w g m U N).trans (ya1 _ _ _ _)
theorem OwnD.fillN {F:Nat→Prop} {w:World} {g n cap c m:Nat} {f:Nat→Dat} {zs:List Value} {G:Nat→Nat→Prop} {U:Nat→Value} (h:OwnD w F (.slice (some ⟨g,0,none⟩) n cap) (.row c n (toC f zs m))) (hF:F g):
  ∀N,m+N≤n*c→(∀i,i<N→OwnD w (G i) (U i) (f (m+i)))→(∀i,i<N→ ∀k,G i k→ ¬F k)→(∀i j,i<N→j<N→i≠j→ ∀k,G i k→ ¬G j k)→
   OwnD (putN w g m U N) (fun k=>F k∨ ∃i,i<N∧G i k) (.slice (some ⟨g,0,none⟩) n cap) (.row c n (toC f zs (m+N)))
 |0,_,_,_,_=>h.mono (fun _ hk=> .inl hk)
 |N+1,hm,hU,hGF,hGG=>by
  have q:=OwnD.fillN h hF N (by omega) (fun i hi=>hU i (by omega)) (fun i hi=>hGF i (by omega)) (fun i j hi hj=>hGG i j (by omega) (by omega))
  have hN:=(hU N (by omega)).turns (yf1 w g m U N) (fun k hk e=>hGF N (by omega) k hk (e▸hF))
  refine(q.fill (by omega) hN (fun k hk hk'=> ?_)).mono (fun k hk=> ?_)
  ·rcases hk' with hk'|⟨i,hi,hk'⟩
   ·exact hGF N (by omega) k hk hk'
   ·exact hGG N i (by omega) (by omega) (by omega) k hk hk'
  ·rcases hk with (hk|⟨i,hi,hk⟩)|hk
   ·exact .inl hk
   ·exact .inr ⟨i,by omega,hk⟩
   ·exact .inr ⟨N,by omega,hk⟩
def PastF (F:Nat→Prop) (w:World) (y:Value) (p:Ps):Prop:=
 ∃(A7 A10 A11:Nat→Prop) (u7 u10 u11:Value),y= .agg #[.int .i64 p.e.t,.int .i64 p.e.s,.int .i64 p.e.q,.int .i64 p.e.d,.int .i64 p.e.k,.int .i64 p.e.v,.int .i64 p.e.g,u7,.int .i64 p.b.q,.int .i64 p.b.d,u10,u11]∧OwnD w A7 u7 (yaq p.b.r)∧OwnD w A10 u10 (evsD p.s)∧OwnD w A11 u11 (emsD p.x)∧(∀k,A7 k→F k∧ ¬A10 k∧ ¬A11 k)∧(∀k,A10 k→F k∧ ¬A11 k)∧(∀k,A11 k→F k)
set_option maxHeartbeats 8000000 in
theorem yqv (x:Value) (p:Ps) (w:World) (hw:p.wt≤1048576) (h:IsPast w x p):
  Calls Tryz.prog 191 #[x] w fun e w'=>∃y,e= .returned y∧Below w.heap.size w w'∧PastF (fun k=>w.heap.size≤k∧k<w'.heap.size) w' y p:=by
 obtain⟨u7,u10,u11,rfl,h7,h10,h11⟩:=h
 have HS:Hid (p.wt≤1048576):=hw
 have H7:=yar h7
 have H10:=yar h10
 have H11:=yar h11
 clear hw h7 h10 h11
 obtain⟨V0,hV0⟩:∃V0,((w.alloc (.cells #[.int .i64 p.e.t,.int .i64 p.e.s,.int .i64 p.e.q,.int .i64 p.e.d,.int .i64 p.e.k,.int .i64 p.e.v,.int .i64 p.e.g,u7,.int .i64 p.b.q,.int .i64 p.b.d,u10,u11] 230)).alloc (.cells #[.int .i64 0,.int .i64 0,.int .i64 0,.int .i64 0,.int .i64 0,.int .i64 0,.int .i64 0,.slice none 0 0,.int .i64 0,.int .i64 0,.slice none 0 0,.slice none 0 0] 115)).alloc (.cells #[.int .i64 0,.int .i64 0,.int .i64 0,.int .i64 0,.int .i64 0,.int .i64 0,.int .i64 0,.slice none 0 0,.int .i64 0,.int .i64 0,.slice none 0 0,.slice none 0 0] 115)=V0:=⟨_,rfl⟩
 have HX0:Hid (Below w.heap.size w V0):=by rw [←hV0];exact(((Below.refl _ w).alloc (Nat.le_refl _) _).alloc (by simp) _).alloc (by simp;omega) _
 have hs0:w.heap.size+3≤V0.heap.size:=by rw [←hV0];simp
 have HP0:Hid (Bk V0 w.heap.size 230 #[.int .i64 p.e.t,.int .i64 p.e.s,.int .i64 p.e.q,.int .i64 p.e.d,.int .i64 p.e.k,.int .i64 p.e.v,.int .i64 p.e.g,u7,.int .i64 p.b.q,.int .i64 p.b.d,u10,u11]):=by rw [←hV0];exact((Bk.new w _ _).alloc _).alloc _
 have HR0:Hid (Bk V0 (w.heap.size+1) 115 #[.int .i64 0,.int .i64 0,.int .i64 0,.int .i64 0,.int .i64 0,.int .i64 0,.int .i64 0,.slice none 0 0,.int .i64 0,.int .i64 0,.slice none 0 0,.slice none 0 0]):=by rw [←hV0];exact(Bk.newAt (by simp) _ _).alloc _
 have HQ0:Hid (Bk V0 (w.heap.size+1+1) 115 #[.int .i64 0,.int .i64 0,.int .i64 0,.int .i64 0,.int .i64 0,.int .i64 0,.int .i64 0,.slice none 0 0,.int .i64 0,.int .i64 0,.slice none 0 0,.slice none 0 0]):=by rw [←hV0];exact Bk.newAt (by simp) _ _
 have HW0:=yar hV0
 clear hV0
 go_enter Tryz.func191,Tryz.ntmps191
 have p0:=HP0.out.cell (i:=0) rfl
 have p1:=HP0.out.cell (i:=1) rfl
 have p2:=HP0.out.cell (i:=2) rfl
 have p3:=HP0.out.cell (i:=3) rfl
 have p4:=HP0.out.cell (i:=4) rfl
 have p5:=HP0.out.cell (i:=5) rfl
 have p6:=HP0.out.cell (i:=6) rfl
 go_wp2_with fail
 rw [HW0.out]
 clear p0 p1 p2 p3 p4 p5 p6
 refine(ygz _ _ _ _ _ _ _ _).mono ?_
 rintro e w1 ⟨rfl,hb⟩
 have hz0:V0.heap.size≤w1.heap.size:=hb.size
 have HXb0:=yar (HX0.out.trans (hb.mono (by omega)))
 have HPb0:=yar (HP0.out.below hb)
 have HRb0:=yar (HR0.out.below hb)
 have HQb0:=yar (HQ0.out.below hb)
 clear hb
 obtain⟨V1,hV1⟩:∃V1,(((((((w1.setCell ⟨(w.heap.size+1+1),0,none⟩ (.int .i64 p.e.t)).setCell ⟨(w.heap.size+1+1),1,none⟩ (.int .i64 p.e.s)).setCell ⟨(w.heap.size+1+1),2,none⟩ (.int .i64 p.e.q)).setCell ⟨(w.heap.size+1+1),3,none⟩ (.int .i64 p.e.d)).setCell ⟨(w.heap.size+1+1),4,none⟩ (.int .i64 p.e.k)).setCell ⟨(w.heap.size+1+1),5,none⟩ (.int .i64 p.e.v)).setCell ⟨(w.heap.size+1+1),6,none⟩ (.int .i64 p.e.g))=V1:=⟨_,rfl⟩
 have qq0:=HQb0.out.cell (i:=0) rfl
 have qq1:=HQb0.out.cell (i:=1) rfl
 have qq2:=HQb0.out.cell (i:=2) rfl
 have qq3:=HQb0.out.cell (i:=3) rfl
 have qq4:=HQb0.out.cell (i:=4) rfl
 have qq5:=HQb0.out.cell (i:=5) rfl
 have qq6:=HQb0.out.cell (i:=6) rfl
 have qf0:=HQb0.out.free
 have HQ1:Hid (Bk V1 (w.heap.size+1+1) 115 #[.int .i64 p.e.t,.int .i64 p.e.s,.int .i64 p.e.q,.int .i64 p.e.d,.int .i64 p.e.k,.int .i64 p.e.v,.int .i64 p.e.g,.slice none 0 0,.int .i64 0,.int .i64 0,.slice none 0 0,.slice none 0 0]):=by rw [←hV1];exact((((((HQb0.out.put 0 _).put 1 _).put 2 _).put 3 _).put 4 _).put 5 _).put 6 _
 have HP1:Hid (Bk V1 w.heap.size 230 #[.int .i64 p.e.t,.int .i64 p.e.s,.int .i64 p.e.q,.int .i64 p.e.d,.int .i64 p.e.k,.int .i64 p.e.v,.int .i64 p.e.g,u7,.int .i64 p.b.q,.int .i64 p.b.d,u10,u11]):=by rw [←hV1];exact(((((((HPb0.out.other 0 _ (by omega)).other 1 _ (by omega)).other 2 _ (by omega)).other 3 _ (by omega)).other 4 _ (by omega)).other 5 _ (by omega)).other 6 _ (by omega))
 have HR1:Hid (Bk V1 (w.heap.size+1) 115 #[.int .i64 0,.int .i64 0,.int .i64 0,.int .i64 0,.int .i64 0,.int .i64 0,.int .i64 0,.slice none 0 0,.int .i64 0,.int .i64 0,.slice none 0 0,.slice none 0 0]):=by rw [←hV1];exact(((((((HRb0.out.other 0 _ (by omega)).other 1 _ (by omega)).other 2 _ (by omega)).other 3 _ (by omega)).other 4 _ (by omega)).other 5 _ (by omega)).other 6 _ (by omega))
 have HT1:Hid (Turns (fun k=>k=(w.heap.size+1+1)) w1 V1):=by rw [←hV1];exact((((((ya1 _ _ 0 _).trans (ya1 _ _ 1 _)).trans (ya1 _ _ 2 _)).trans (ya1 _ _ 3 _)).trans (ya1 _ _ 4 _)).trans (ya1 _ _ 5 _)).trans (ya1 _ _ 6 _)
 have hy1:w1.heap.size≤V1.heap.size:=HT1.out.size
 have HX1:=yar (HXb0.out.trans (HT1.out.to_below (fun k e=>by omega) (by omega)))
 clear HPb0 HRb0 HQb0 HXb0 HP0 HR0 HQ0 HX0
 have p7:=HP1.out.cell (i:=7) rfl
 have p8:=HP1.out.cell (i:=8) rfl
 have p9:=HP1.out.cell (i:=9) rfl
 go_wp2_with fail
 clear qq0 qq1 qq2 qq3 qq4 qq5 qq6 qf0 hV1 p7 p8 p9
 refine(yj5 _ p.b _ (by have:=HS.out;unfold Ps.wt at this;simp only [ycm,yb2,yal]at this;omega) ⟨_,rfl,(H7.out.under HX1.out).isI⟩).mono ?_
 rintro e w2 ⟨y7,rfl,hb,vr7,rfl,ho7⟩
 have HO7:=yar ho7.own
 obtain⟨_,a7,c7,rfl,_⟩:=ho7
 have hz1:V1.heap.size≤w2.heap.size:=hb.size
 have HXb1:=yar (HX1.out.trans (hb.mono (by omega)))
 have HPb1:=yar (HP1.out.below hb)
 have HRb1:=yar (HR1.out.below hb)
 have HQb1:=yar (HQ1.out.below hb)
 clear hb
 obtain⟨V2,hV2⟩:∃V2,(((w2.setCell ⟨(w.heap.size+1+1),7,none⟩ (.slice a7 p.b.r.length c7)).setCell ⟨(w.heap.size+1+1),8,none⟩ (.int .i64 p.b.q)).setCell ⟨(w.heap.size+1+1),9,none⟩ (.int .i64 p.b.d))=V2:=⟨_,rfl⟩
 have qq7:=HQb1.out.cell (i:=7) rfl
 have qq8:=HQb1.out.cell (i:=8) rfl
 have qq9:=HQb1.out.cell (i:=9) rfl
 have qf1:=HQb1.out.free
 have HQ2:Hid (Bk V2 (w.heap.size+1+1) 115 #[.int .i64 p.e.t,.int .i64 p.e.s,.int .i64 p.e.q,.int .i64 p.e.d,.int .i64 p.e.k,.int .i64 p.e.v,.int .i64 p.e.g,.slice a7 p.b.r.length c7,.int .i64 p.b.q,.int .i64 p.b.d,.slice none 0 0,.slice none 0 0]):=by rw [←hV2];exact((HQb1.out.put 7 _).put 8 _).put 9 _
 have HP2:Hid (Bk V2 w.heap.size 230 #[.int .i64 p.e.t,.int .i64 p.e.s,.int .i64 p.e.q,.int .i64 p.e.d,.int .i64 p.e.k,.int .i64 p.e.v,.int .i64 p.e.g,u7,.int .i64 p.b.q,.int .i64 p.b.d,u10,u11]):=by rw [←hV2];exact(((HPb1.out.other 7 _ (by omega)).other 8 _ (by omega)).other 9 _ (by omega))
 have HR2:Hid (Bk V2 (w.heap.size+1) 115 #[.int .i64 0,.int .i64 0,.int .i64 0,.int .i64 0,.int .i64 0,.int .i64 0,.int .i64 0,.slice none 0 0,.int .i64 0,.int .i64 0,.slice none 0 0,.slice none 0 0]):=by rw [←hV2];exact(((HRb1.out.other 7 _ (by omega)).other 8 _ (by omega)).other 9 _ (by omega))
 have HT2:Hid (Turns (fun k=>k=(w.heap.size+1+1)) w2 V2):=by rw [←hV2];exact((ya1 _ _ 7 _).trans (ya1 _ _ 8 _)).trans (ya1 _ _ 9 _)
 have hy2:w2.heap.size≤V2.heap.size:=HT2.out.size
 have HX2:=yar (HXb1.out.trans (HT2.out.to_below (fun k e=>by omega) (by omega)))
 replace HO7:=yar (HO7.out.turns HT2.out (fun k e=>by omega))
 clear HPb1 HRb1 HQb1 HXb1 HP1 HR1 HQ1 HX1
 have p10:=HP2.out.cell (i:=10) rfl
 go_wp2_with fail
 clear qq7 qq8 qq9 qf1 hV2 p10
 refine(ysx _ p.s _ (by have:=HS.out;unfold Ps.wt at this;simp only [ycm,yb2,yal]at this;omega) (H10.out.under HX2.out)).mono ?_
 rintro e w3 ⟨y10,rfl,hb,ho10⟩
 have HO10:=yar ho10
 obtain⟨a10,c10,rfl,_⟩:=OwnD.parts (c:=7) (n:=p.s.length) ho10
 clear ho10
 have hz2:V2.heap.size≤w3.heap.size:=hb.size
 have HXb2:=yar (HX2.out.trans (hb.mono (by omega)))
 have HPb2:=yar (HP2.out.below hb)
 have HRb2:=yar (HR2.out.below hb)
 have HQb2:=yar (HQ2.out.below hb)
 replace HO7:=yar (HO7.out.under hb)
 clear hb
 obtain⟨V3,hV3⟩:∃V3,(w3.setCell ⟨(w.heap.size+1+1),10,none⟩ (.slice a10 p.s.length c10))=V3:=⟨_,rfl⟩
 have qq10:=HQb2.out.cell (i:=10) rfl
 have qf2:=HQb2.out.free
 have HQ3:Hid (Bk V3 (w.heap.size+1+1) 115 #[.int .i64 p.e.t,.int .i64 p.e.s,.int .i64 p.e.q,.int .i64 p.e.d,.int .i64 p.e.k,.int .i64 p.e.v,.int .i64 p.e.g,.slice a7 p.b.r.length c7,.int .i64 p.b.q,.int .i64 p.b.d,.slice a10 p.s.length c10,.slice none 0 0]):=by rw [←hV3];exact HQb2.out.put 10 _
 have HP3:=yar (ot1 hV3 HPb2.out (by omega))
 have HR3:=yar (ot1 hV3 HRb2.out (by omega))
 have HT3:=yar (tu1 hV3)
 have hy3:w3.heap.size≤V3.heap.size:=HT3.out.size
 have HX3:=yar (HXb2.out.trans (HT3.out.to_below (fun k e=>by omega) (by omega)))
 replace HO7:=yar (HO7.out.turns HT3.out (fun k e=>by omega))
 replace HO10:=yar (HO10.out.turns HT3.out (fun k e=>by omega))
 clear HPb2 HRb2 HQb2 HXb2 HP2 HR2 HQ2 HX2
 have p11:=HP3.out.cell (i:=11) rfl
 go_wp2_with fail
 clear qq10 qf2 hV3 p11
 refine(to_ems _ p.x _ (by have:=HS.out;unfold Ps.wt at this;simp only [ycm,yb2,yal]at this;omega) (H11.out.under HX3.out)).mono ?_
 rintro e w4 ⟨y11,rfl,hb,ho11⟩
 have HO11:=yar ho11
 obtain⟨a11,c11,rfl,_⟩:=OwnD.parts (c:=3) (n:=p.x.length) ho11
 clear ho11
 have hz3:V3.heap.size≤w4.heap.size:=hb.size
 have HXb3:=yar (HX3.out.trans (hb.mono (by omega)))
 have HPb3:=yar (HP3.out.below hb)
 have HRb3:=yar (HR3.out.below hb)
 have HQb3:=yar (HQ3.out.below hb)
 replace HO7:=yar (HO7.out.under hb)
 replace HO10:=yar (HO10.out.under hb)
 clear hb
 obtain⟨V4,hV4⟩:∃V4,(w4.setCell ⟨(w.heap.size+1+1),11,none⟩ (.slice a11 p.x.length c11))=V4:=⟨_,rfl⟩
 have qq11:=HQb3.out.cell (i:=11) rfl
 have qf3:=HQb3.out.free
 have HQ4:Hid (Bk V4 (w.heap.size+1+1) 115 #[.int .i64 p.e.t,.int .i64 p.e.s,.int .i64 p.e.q,.int .i64 p.e.d,.int .i64 p.e.k,.int .i64 p.e.v,.int .i64 p.e.g,.slice a7 p.b.r.length c7,.int .i64 p.b.q,.int .i64 p.b.d,.slice a10 p.s.length c10,.slice a11 p.x.length c11]):=by rw [←hV4];exact HQb3.out.put 11 _
 have HP4:=yar (ot1 hV4 HPb3.out (by omega))
 have HR4:=yar (ot1 hV4 HRb3.out (by omega))
 have HT4:=yar (tu1 hV4)
 have hy4:w4.heap.size≤V4.heap.size:=HT4.out.size
 have HX4:=yar (HXb3.out.trans (HT4.out.to_below (fun k e=>by omega) (by omega)))
 replace HO7:=yar (HO7.out.turns HT4.out (fun k e=>by omega))
 replace HO10:=yar (HO10.out.turns HT4.out (fun k e=>by omega))
 replace HO11:=yar (HO11.out.turns HT4.out (fun k e=>by omega))
 clear HPb3 HRb3 HQb3 HXb3 HP3 HR3 HQ3 HX3
 have oo0:=HQ4.out.cell (i:=0) rfl
 have rr0:=HR4.out.cell (i:=0) rfl
 have oo1:=HQ4.out.cell (i:=1) rfl
 have rr1:=HR4.out.cell (i:=1) rfl
 have oo2:=HQ4.out.cell (i:=2) rfl
 have rr2:=HR4.out.cell (i:=2) rfl
 have oo3:=HQ4.out.cell (i:=3) rfl
 have rr3:=HR4.out.cell (i:=3) rfl
 have oo4:=HQ4.out.cell (i:=4) rfl
 have rr4:=HR4.out.cell (i:=4) rfl
 have oo5:=HQ4.out.cell (i:=5) rfl
 have rr5:=HR4.out.cell (i:=5) rfl
 have oo6:=HQ4.out.cell (i:=6) rfl
 have rr6:=HR4.out.cell (i:=6) rfl
 have oo7:=HQ4.out.cell (i:=7) rfl
 have rr7:=HR4.out.cell (i:=7) rfl
 have oo8:=HQ4.out.cell (i:=8) rfl
 have rr8:=HR4.out.cell (i:=8) rfl
 have oo9:=HQ4.out.cell (i:=9) rfl
 have rr9:=HR4.out.cell (i:=9) rfl
 have oo10:=HQ4.out.cell (i:=10) rfl
 have rr10:=HR4.out.cell (i:=10) rfl
 have oo11:=HQ4.out.cell (i:=11) rfl
 have rr11:=HR4.out.cell (i:=11) rfl
 have rf:=HR4.out.free
 go_wp2
 clear rf oo0 rr0 oo1 rr1 oo2 rr2 oo3 rr3 oo4 rr4 oo5 rr5 oo6 rr6 oo7 rr7 oo8 rr8 oo9 rr9 oo10 rr10 oo11 rr11 qq11 qf3 hV4
 have HY0:=HR4.out
 have HU0:Turns (fun k=>k=(w.heap.size+1)) V4 V4:=Turns.refl _ _
 obtain⟨Y1,hY1⟩:∃Y1,V4.setCell ⟨(w.heap.size+1),0,none⟩ (.int .i64 p.e.t)=Y1:=⟨_,rfl⟩
 have HY1:Bk Y1 (w.heap.size+1) 115 #[.int .i64 p.e.t,.int .i64 0,.int .i64 0,.int .i64 0,.int .i64 0,.int .i64 0,.int .i64 0,.slice none 0 0,.int .i64 0,.int .i64 0,.slice none 0 0,.slice none 0 0]:=hY1▸HY0.put 0 _
 have HU1:Turns (fun k=>k=(w.heap.size+1)) V4 Y1:=HU0.trans (hY1▸ya1 _ _ 0 _)
 clear HY0 HU0
 obtain⟨Y2,hY2⟩:∃Y2,Y1.setCell ⟨(w.heap.size+1),1,none⟩ (.int .i64 p.e.s)=Y2:=⟨_,rfl⟩
 have HY2:Bk Y2 (w.heap.size+1) 115 #[.int .i64 p.e.t,.int .i64 p.e.s,.int .i64 0,.int .i64 0,.int .i64 0,.int .i64 0,.int .i64 0,.slice none 0 0,.int .i64 0,.int .i64 0,.slice none 0 0,.slice none 0 0]:=hY2▸HY1.put 1 _
 have HU2:Turns (fun k=>k=(w.heap.size+1)) V4 Y2:=HU1.trans (hY2▸ya1 _ _ 1 _)
 clear HY1 HU1
 obtain⟨Y3,hY3⟩:∃Y3,Y2.setCell ⟨(w.heap.size+1),2,none⟩ (.int .i64 p.e.q)=Y3:=⟨_,rfl⟩
 have HY3:Bk Y3 (w.heap.size+1) 115 #[.int .i64 p.e.t,.int .i64 p.e.s,.int .i64 p.e.q,.int .i64 0,.int .i64 0,.int .i64 0,.int .i64 0,.slice none 0 0,.int .i64 0,.int .i64 0,.slice none 0 0,.slice none 0 0]:=hY3▸HY2.put 2 _
 have HU3:Turns (fun k=>k=(w.heap.size+1)) V4 Y3:=HU2.trans (hY3▸ya1 _ _ 2 _)
 clear HY2 HU2
 obtain⟨Y4,hY4⟩:∃Y4,Y3.setCell ⟨(w.heap.size+1),3,none⟩ (.int .i64 p.e.d)=Y4:=⟨_,rfl⟩
 have HY4:Bk Y4 (w.heap.size+1) 115 #[.int .i64 p.e.t,.int .i64 p.e.s,.int .i64 p.e.q,.int .i64 p.e.d,.int .i64 0,.int .i64 0,.int .i64 0,.slice none 0 0,.int .i64 0,.int .i64 0,.slice none 0 0,.slice none 0 0]:=hY4▸HY3.put 3 _
 have HU4:Turns (fun k=>k=(w.heap.size+1)) V4 Y4:=HU3.trans (hY4▸ya1 _ _ 3 _)
 clear HY3 HU3
 obtain⟨Y5,hY5⟩:∃Y5,Y4.setCell ⟨(w.heap.size+1),4,none⟩ (.int .i64 p.e.k)=Y5:=⟨_,rfl⟩
 have HY5:Bk Y5 (w.heap.size+1) 115 #[.int .i64 p.e.t,.int .i64 p.e.s,.int .i64 p.e.q,.int .i64 p.e.d,.int .i64 p.e.k,.int .i64 0,.int .i64 0,.slice none 0 0,.int .i64 0,.int .i64 0,.slice none 0 0,.slice none 0 0]:=hY5▸HY4.put 4 _
 have HU5:Turns (fun k=>k=(w.heap.size+1)) V4 Y5:=HU4.trans (hY5▸ya1 _ _ 4 _)
 clear HY4 HU4
 obtain⟨Y6,hY6⟩:∃Y6,Y5.setCell ⟨(w.heap.size+1),5,none⟩ (.int .i64 p.e.v)=Y6:=⟨_,rfl⟩
 have HY6:Bk Y6 (w.heap.size+1) 115 #[.int .i64 p.e.t,.int .i64 p.e.s,.int .i64 p.e.q,.int .i64 p.e.d,.int .i64 p.e.k,.int .i64 p.e.v,.int .i64 0,.slice none 0 0,.int .i64 0,.int .i64 0,.slice none 0 0,.slice none 0 0]:=hY6▸HY5.put 5 _
 have HU6:Turns (fun k=>k=(w.heap.size+1)) V4 Y6:=HU5.trans (hY6▸ya1 _ _ 5 _)
 clear HY5 HU5
 obtain⟨Y7,hY7⟩:∃Y7,Y6.setCell ⟨(w.heap.size+1),6,none⟩ (.int .i64 p.e.g)=Y7:=⟨_,rfl⟩
 have HY7:Bk Y7 (w.heap.size+1) 115 #[.int .i64 p.e.t,.int .i64 p.e.s,.int .i64 p.e.q,.int .i64 p.e.d,.int .i64 p.e.k,.int .i64 p.e.v,.int .i64 p.e.g,.slice none 0 0,.int .i64 0,.int .i64 0,.slice none 0 0,.slice none 0 0]:=hY7▸HY6.put 6 _
 have HU7:Turns (fun k=>k=(w.heap.size+1)) V4 Y7:=HU6.trans (hY7▸ya1 _ _ 6 _)
 clear HY6 HU6
 obtain⟨Y8,hY8⟩:∃Y8,Y7.setCell ⟨(w.heap.size+1),7,none⟩ (.slice a7 p.b.r.length c7)=Y8:=⟨_,rfl⟩
 have HY8:Bk Y8 (w.heap.size+1) 115 #[.int .i64 p.e.t,.int .i64 p.e.s,.int .i64 p.e.q,.int .i64 p.e.d,.int .i64 p.e.k,.int .i64 p.e.v,.int .i64 p.e.g,.slice a7 p.b.r.length c7,.int .i64 0,.int .i64 0,.slice none 0 0,.slice none 0 0]:=hY8▸HY7.put 7 _
 have HU8:Turns (fun k=>k=(w.heap.size+1)) V4 Y8:=HU7.trans (hY8▸ya1 _ _ 7 _)
 clear HY7 HU7
 obtain⟨Y9,hY9⟩:∃Y9,Y8.setCell ⟨(w.heap.size+1),8,none⟩ (.int .i64 p.b.q)=Y9:=⟨_,rfl⟩
 have HY9:Bk Y9 (w.heap.size+1) 115 #[.int .i64 p.e.t,.int .i64 p.e.s,.int .i64 p.e.q,.int .i64 p.e.d,.int .i64 p.e.k,.int .i64 p.e.v,.int .i64 p.e.g,.slice a7 p.b.r.length c7,.int .i64 p.b.q,.int .i64 0,.slice none 0 0,.slice none 0 0]:=hY9▸HY8.put 8 _
 have HU9:Turns (fun k=>k=(w.heap.size+1)) V4 Y9:=HU8.trans (hY9▸ya1 _ _ 8 _)
 clear HY8 HU8
 obtain⟨Y10,hY10⟩:∃Y10,Y9.setCell ⟨(w.heap.size+1),9,none⟩ (.int .i64 p.b.d)=Y10:=⟨_,rfl⟩
 have HY10:Bk Y10 (w.heap.size+1) 115 #[.int .i64 p.e.t,.int .i64 p.e.s,.int .i64 p.e.q,.int .i64 p.e.d,.int .i64 p.e.k,.int .i64 p.e.v,.int .i64 p.e.g,.slice a7 p.b.r.length c7,.int .i64 p.b.q,.int .i64 p.b.d,.slice none 0 0,.slice none 0 0]:=hY10▸HY9.put 9 _
 have HU10:Turns (fun k=>k=(w.heap.size+1)) V4 Y10:=HU9.trans (hY10▸ya1 _ _ 9 _)
 clear HY9 HU9
 obtain⟨Y11,hY11⟩:∃Y11,Y10.setCell ⟨(w.heap.size+1),10,none⟩ (.slice a10 p.s.length c10)=Y11:=⟨_,rfl⟩
 have HY11:Bk Y11 (w.heap.size+1) 115 #[.int .i64 p.e.t,.int .i64 p.e.s,.int .i64 p.e.q,.int .i64 p.e.d,.int .i64 p.e.k,.int .i64 p.e.v,.int .i64 p.e.g,.slice a7 p.b.r.length c7,.int .i64 p.b.q,.int .i64 p.b.d,.slice a10 p.s.length c10,.slice none 0 0]:=hY11▸HY10.put 10 _
 have HU11:Turns (fun k=>k=(w.heap.size+1)) V4 Y11:=HU10.trans (hY11▸ya1 _ _ 10 _)
 clear HY10 HU10
 obtain⟨Y12,hY12⟩:∃Y12,Y11.setCell ⟨(w.heap.size+1),11,none⟩ (.slice a11 p.x.length c11)=Y12:=⟨_,rfl⟩
 have HY12:Bk Y12 (w.heap.size+1) 115 #[.int .i64 p.e.t,.int .i64 p.e.s,.int .i64 p.e.q,.int .i64 p.e.d,.int .i64 p.e.k,.int .i64 p.e.v,.int .i64 p.e.g,.slice a7 p.b.r.length c7,.int .i64 p.b.q,.int .i64 p.b.d,.slice a10 p.s.length c10,.slice a11 p.x.length c11]:=hY12▸HY11.put 11 _
 have HU12:Turns (fun k=>k=(w.heap.size+1)) V4 Y12:=HU11.trans (hY12▸ya1 _ _ 11 _)
 clear HY11 HU11
 rw [hY1,hY2,hY3,hY4,hY5,hY6,hY7,hY8,hY9,hY10,hY11,hY12]
 have hR:=HY12
 have hT:=HU12
 obtain⟨t0,t1,t2,t3,t4,t5,t6,t7,t8,t9,t10,t11⟩:=yvm hR
 have hsz:=hT.size
 refine bodyPost_ret (v:= .agg #[.int .i64 p.e.t,.int .i64 p.e.s,.int .i64 p.e.q,.int .i64 p.e.d,.int .i64 p.e.k,.int .i64 p.e.v,.int .i64 p.e.g,.slice a7 p.b.r.length c7,.int .i64 p.b.q,.int .i64 p.b.d,.slice a10 p.s.length c10,.slice a11 p.x.length c11]) (by simp [results,Tryz.results191,go_sem,t0,t1,t2,t3,t4,t5,t6,t7,t8,t9,t10,t11]) rfl
  ⟨_,rfl,HX4.out.trans (hT.to_below (fun k e=>by omega) (by omega)),_,_,_,_,_,_,rfl,HO7.out.turns hT (fun k e=>by omega),HO10.out.turns hT (fun k e=>by omega),HO11.out.turns hT (fun k e=>by omega),fun k e=>⟨⟨by omega,by omega⟩,by omega,by omega⟩,fun k e=>⟨⟨by omega,by omega⟩,by omega⟩,fun k e=>⟨by omega,by omega⟩⟩
theorem ydz {p:Prop} (h:p):Hid p:=h
theorem ytm (w:World) (g m:Nat) (v0 v1 v2 v3 v4 v5 v6 v7 v8 v9 v10 v11:Value):putN w g m (fun i=> [v0,v1,v2,v3,v4,v5,v6,v7,v8,v9,v10,v11].getD i (.int .i64 0)) 12=((((((((((((w.setCell ⟨g,m,none⟩ (v0)).setCell ⟨g,m+1,none⟩ (v1)).setCell ⟨g,m+2,none⟩ (v2)).setCell ⟨g,m+3,none⟩ (v3)).setCell ⟨g,m+4,none⟩ (v4)).setCell ⟨g,m+5,none⟩ (v5)).setCell ⟨g,m+6,none⟩ (v6)).setCell ⟨g,m+7,none⟩ (v7)).setCell ⟨g,m+8,none⟩ (v8)).setCell ⟨g,m+9,none⟩ (v9)).setCell ⟨g,m+10,none⟩ (v10)).setCell ⟨g,m+11,none⟩ (v11)):=rfl
theorem yof (w:World) (g m:Nat) (v0 v1 v2 v3 v4 v5 v6 v7 v8 v9 v10 v11:Value):Turns (fun k=>k=g) w ((((((((((((w.setCell ⟨g,m,none⟩ (v0)).setCell ⟨g,m+1,none⟩ (v1)).setCell ⟨g,m+2,none⟩ (v2)).setCell ⟨g,m+3,none⟩ (v3)).setCell ⟨g,m+4,none⟩ (v4)).setCell ⟨g,m+5,none⟩ (v5)).setCell ⟨g,m+6,none⟩ (v6)).setCell ⟨g,m+7,none⟩ (v7)).setCell ⟨g,m+8,none⟩ (v8)).setCell ⟨g,m+9,none⟩ (v9)).setCell ⟨g,m+10,none⟩ (v10)).setCell ⟨g,m+11,none⟩ (v11)):=ytm w g m v0 v1 v2 v3 v4 v5 v6 v7 v8 v9 v10 v11▸yf1 w g m _ 12
theorem infoPast:(Tryz.prog.info? 115).map (fun i=>(i.zero,i.size,i.bytes))=some (some (.agg #[.int .i64 0,.int .i64 0,.int .i64 0,.int .i64 0,.int .i64 0,.int .i64 0,.int .i64 0,.slice none 0 0,.int .i64 0,.int .i64 0,.slice none 0 0,.slice none 0 0]),12,144):=by kernel_rfl
set_option maxHeartbeats 8000000 in
theorem to_pasts (x:Value) (l:List Ps) (w:World) (hl:(yay l).wt≤1048576) (h:IsD w x (yay l)):
  Calls Tryz.prog 153 #[x] w fun e w'=>∃y,e= .returned y∧Below w.heap.size w w'∧OwnD w' (fun k=>w.heap.size≤k∧k<w'.heap.size) y (yay l):=by
 obtain⟨a,cap,rfl,h1,h2,h⟩:=IsD.parts (c:=12) (n:=l.length) h
 have HS:=ydz hl
 have hl2:l.length≤1048576:=by rw [yc3]at hl;omega
 have hp:(0:Int)≤(l.length:Int):=by omega
 clear hl
 obtain⟨i0,hi,hz0,hz1,hz2⟩:=info_parts infoPast
 go_enter Tryz.func153,Tryz.ntmps153
 go_wp2_with (at_make;refine wpList_make_full _ rfl _ _ 95 rfl w.heap.size 115 i0 _ 12 Tryz.underlying95 hi hz0 hz1 .i64 .i64 l.length l.length l.length rfl rfl rfl rfl (by rw [hz2];omega) (by unfold maxLen;omega) (Nat.le_refl _) ?_;intro w1 hown hgrow)
 have hB1:Hid (Below w.heap.size w w1):=(Below.refl _ _).grown hgrow (Nat.le_refl _) (fun k e=>by cases e)
 obtain⟨zs,hR0⟩:=OwnD.made0 (ya3 l) hown
 have hR1:=ydz hR0
 clear hown hgrow hi hz0 hz1 hz2 hR0
 go_loopw [4] (fun i wr=>∃k:Nat,k≤l.length∧i= .int .i64 k∧Below w.heap.size w wr∧OwnD wr (fun k=>w.heap.size≤k∧k<wr.heap.size) (sl w.heap.size l.length) (.row 12 l.length (toC (ya3 l) zs (k*12)))) (fun i _=>l.length-(intOf i).toNat)
 case atStart=>exact⟨0,Nat.zero_le _,rfl,hB1.out,hR1.out⟩
 case round=>
  obtain⟨k,hk,rfl,hB,hR⟩:=hrel
  have HB:=ydz hB
  have HR:=ydz hR
  clear hR
  by_cases hlt:k<l.length
  ·obtain⟨b,off,rfl,hb,hc⟩:=h.resolve_left (by omega)
   obtain⟨u7,u10,u11,f0,f1,f2,f3,f4,f5,f6,f7,f8,f9,f10,f11,d7,d10,d11⟩:=ycw (fun j hj=>by
    obtain⟨u,hu,hd⟩:=hc j hj
    exact⟨u,(hB.cell (p:=⟨b,off+j,none⟩) hb).trans hu,hd.under hB⟩) hlt
   have HD:Hid (IsPast wr (.agg #[.int .i64 (psAt l k).e.t,.int .i64 (psAt l k).e.s,.int .i64 (psAt l k).e.q,.int .i64 (psAt l k).e.d,.int .i64 (psAt l k).e.k,.int .i64 (psAt l k).e.v,.int .i64 (psAt l k).e.g,u7,.int .i64 (psAt l k).b.q,.int .i64 (psAt l k).b.d,u10,u11]) (psAt l k)):=⟨u7,u10,u11,rfl,d7,d10,d11⟩
   have hg:w.heap.size<wr.heap.size:=(HR.out.lt (by omega)).1
   clear hB hB1 hR1 h hc d7 d10 d11
   go_wp2_with fail
   clear f0 f1 f2 f3 f4 f5 f6 f7 f8 f9 f10 f11
   refine(yqv _ (psAt l k) _ (Nat.le_trans (Ps.wt_le hlt) HS.out) HD.out).mono ?_
   rintro e w2 ⟨y,rfl,hb2,A7,A10,A11,v7,v10,v11,rfl,o7,o10,o11,d7,d10,d11⟩
   have HB2:=ydz hb2
   have HR2:=ydz (HR.out.under hb2)
   obtain⟨a7,c7,rfl,_⟩:=OwnD.parts (c:=1) (n:=(psAt l k).b.r.length) o7
   have O7:=ydz o7
   obtain⟨a10,c10,rfl,_⟩:=OwnD.parts (c:=7) (n:=(psAt l k).s.length) o10
   have O10:=ydz o10
   obtain⟨a11,c11,rfl,_⟩:=OwnD.parts (c:=3) (n:=(psAt l k).x.length) o11
   have O11:=ydz o11
   obtain⟨x0,_,g0,z0,_⟩:=HR2.out.step (j:=k*12) (by omega)
   obtain⟨x1,_,g1,z1,_⟩:=HR2.out.step (j:=k*12+1) (by omega)
   obtain⟨x2,_,g2,z2,_⟩:=HR2.out.step (j:=k*12+2) (by omega)
   obtain⟨x3,_,g3,z3,_⟩:=HR2.out.step (j:=k*12+3) (by omega)
   obtain⟨x4,_,g4,z4,_⟩:=HR2.out.step (j:=k*12+4) (by omega)
   obtain⟨x5,_,g5,z5,_⟩:=HR2.out.step (j:=k*12+5) (by omega)
   obtain⟨x6,_,g6,z6,_⟩:=HR2.out.step (j:=k*12+6) (by omega)
   obtain⟨x7,_,g7,z7,_⟩:=HR2.out.step (j:=k*12+7) (by omega)
   obtain⟨x8,_,g8,z8,_⟩:=HR2.out.step (j:=k*12+8) (by omega)
   obtain⟨x9,_,g9,z9,_⟩:=HR2.out.step (j:=k*12+9) (by omega)
   obtain⟨x10,_,g10,z10,_⟩:=HR2.out.step (j:=k*12+10) (by omega)
   obtain⟨x11,_,g11,z11,_⟩:=HR2.out.step (j:=k*12+11) (by omega)
   have D7:=ydz d7
   have D10:=ydz d10
   have D11:=ydz d11
   clear hb2 o7 d7 o10 d10 o11 d11
   go_wp2
   go_roundw
   case rel=>
    have hG:∀i b,(fun i=>if i=7 then A7 else if i=10 then A10 else if i=11 then A11 else fun _=>False) i b→wr.heap.size≤b∧b<w2.heap.size:=by
     intro i b hb
     by_cases e:i=7∨i=10∨i=11
     ·rcases e with rfl|rfl|rfl
      ·exact(D7.out b hb).1
      ·exact(D10.out b hb).1
      ·exact(D11.out b hb)
     ·simp only [not_or]at e
      simp [e]at hb
    have hGG:∀i j,i≠j→ ∀b,(fun i=>if i=7 then A7 else if i=10 then A10 else if i=11 then A11 else fun _=>False) i b→ ¬(fun i=>if i=7 then A7 else if i=10 then A10 else if i=11 then A11 else fun _=>False) j b:=by
     intro i j hij b hb hb'
     by_cases e:i=7∨i=10∨i=11
     ·by_cases e':j=7∨j=10∨j=11
      ·rcases e with rfl|rfl|rfl<;>rcases e' with rfl|rfl|rfl
       ·exact hij rfl
       ·exact(D7.out b hb).2.1 hb'
       ·exact(D7.out b hb).2.2 hb'
       ·exact(D7.out b hb').2.1 hb
       ·exact hij rfl
       ·exact(D10.out b hb).2 hb'
       ·exact(D7.out b hb').2.2 hb
       ·exact(D10.out b hb').2 hb
       ·exact hij rfl
      ·simp only [not_or]at e'
       simp [e']at hb'
     ·simp only [not_or]at e
      simp [e]at hb
    have q:=OwnD.fillN (G:=(fun i=>if i=7 then A7 else if i=10 then A10 else if i=11 then A11 else fun _=>False)) (U:=(fun i=> [.int .i64 (psAt l k).e.t,.int .i64 (psAt l k).e.s,.int .i64 (psAt l k).e.q,.int .i64 (psAt l k).e.d,.int .i64 (psAt l k).e.k,.int .i64 (psAt l k).e.v,.int .i64 (psAt l k).e.g,.slice a7 (psAt l k).b.r.length c7,.int .i64 (psAt l k).b.q,.int .i64 (psAt l k).b.d,.slice a10 (psAt l k).s.length c10,.slice a11 (psAt l k).x.length c11].getD i (.int .i64 0))) HR2.out ⟨Nat.le_refl _,hg⟩ 12 (by omega) (fun i hi=>by
     have hat:ya3 l (k*12+i)=(psAt l k).cell i:=ybg l k (r:=i) hi
     match i,hi,hat with
     |0,_,hat=>rw [hat];exact OwnD.val _ _
     |1,_,hat=>rw [hat];exact OwnD.val _ _
     |2,_,hat=>rw [hat];exact OwnD.val _ _
     |3,_,hat=>rw [hat];exact OwnD.val _ _
     |4,_,hat=>rw [hat];exact OwnD.val _ _
     |5,_,hat=>rw [hat];exact OwnD.val _ _
     |6,_,hat=>rw [hat];exact OwnD.val _ _
     |7,_,hat=>rw [hat];exact O7.out
     |8,_,hat=>rw [hat];exact OwnD.val _ _
     |9,_,hat=>rw [hat];exact OwnD.val _ _
     |10,_,hat=>rw [hat];exact O10.out
     |11,_,hat=>rw [hat];exact O11.out
     |_+12,h,_=>exact absurd h (by omega)) (fun i _ b hb hb'=>by have:=hG i b hb;omega) (fun i j _ _ hij b hb hb'=>hGG i j hij b hb hb')
    rw [ytm]at q
    have hT:=yof w2 w.heap.size (k*12) (.int .i64 (psAt l k).e.t) (.int .i64 (psAt l k).e.s) (.int .i64 (psAt l k).e.q) (.int .i64 (psAt l k).e.d) (.int .i64 (psAt l k).e.k) (.int .i64 (psAt l k).e.v) (.int .i64 (psAt l k).e.g) (.slice a7 (psAt l k).b.r.length c7) (.int .i64 (psAt l k).b.q) (.int .i64 (psAt l k).b.d) (.slice a10 (psAt l k).s.length c10) (.slice a11 (psAt l k).x.length c11)
    have hsz:=hT.size
    refine⟨k+1,by omega,by go_num,(HB.out.trans (HB2.out.mono (by omega))).trans (hT.to_below (fun b e=>by omega) (by have:=HB2.out.size;omega)),?_⟩
    rw [show(k+1)*12=k*12+12 from by omega]
    refine q.mono (fun b hb=> ?_)
    have hs2:=HB2.out.size
    rcases hb with hb|⟨i,_,hb⟩
    ·exact⟨hb.1,Nat.lt_of_lt_of_le hb.2 (Nat.le_trans hs2 hsz)⟩
    ·have:=hG i b hb
     exact⟨by omega,Nat.lt_of_lt_of_le this.2 hsz⟩
   case measure=>simp [intOf];omega
  ·clear hB hB1 hR1 h
   go_wp2
   go_ret
   obtain rfl:k=l.length:=by omega
   exact⟨_,rfl,HB.out,HR.out.toAll rfl⟩
theorem yah {p:Prop} (h:p):Hid p:=h
def PartF (F:Nat→Prop) (w:World) (y:Value) (p:Pa):Prop:=
 ∃(A1 A4 A5 A6:Nat→Prop) (u1 u4 u5 u6:Value),y= .agg #[.int .i64 p.n,u1,.int .i64 p.st.q,.int .i64 p.st.d,u4,u5,u6]∧OwnD w A1 u1 (yaq p.st.r)∧OwnD w A4 u4 (yay p.p)∧OwnD w A5 u5 (evsD p.t)∧OwnD w A6 u6 (yaq p.a)∧(∀k,A1 k→F k∧ ¬A4 k∧ ¬A5 k∧ ¬A6 k)∧(∀k,A4 k→F k∧ ¬A5 k∧ ¬A6 k)∧(∀k,A5 k→F k∧ ¬A6 k)∧(∀k,A6 k→F k)
set_option maxHeartbeats 8000000 in
theorem yqw (x:Value) (p:Pa) (w:World) (hw:p.wt≤1048576) (h:IsPart w x p):
  Calls Tryz.prog 106 #[x] w fun e w'=>∃y,e= .returned y∧Below w.heap.size w w'∧PartF (fun k=>w.heap.size≤k∧k<w'.heap.size) w' y p:=by
 obtain⟨u1,u4,u5,u6,rfl,h1,h4,h5,h6⟩:=h
 have HS:Hid (p.wt≤1048576):=hw
 have H1:=yah h1
 have H4:=yah h4
 have H5:=yah h5
 have H6:=yah h6
 clear hw h1 h4 h5 h6
 obtain⟨V0,hV0⟩:∃V0,((w.alloc (.cells #[.int .i64 p.n,u1,.int .i64 p.st.q,.int .i64 p.st.d,u4,u5,u6] 144)).alloc (.cells #[.int .i64 0,.slice none 0 0,.int .i64 0,.int .i64 0,.slice none 0 0,.slice none 0 0,.slice none 0 0] 97)).alloc (.cells #[.int .i64 0,.slice none 0 0,.int .i64 0,.int .i64 0,.slice none 0 0,.slice none 0 0,.slice none 0 0] 97)=V0:=⟨_,rfl⟩
 have HX0:Hid (Below w.heap.size w V0):=by rw [←hV0];exact(((Below.refl _ w).alloc (Nat.le_refl _) _).alloc (by simp) _).alloc (by simp;omega) _
 have hs0:w.heap.size+3≤V0.heap.size:=by rw [←hV0];simp
 have HP0:Hid (Bk V0 w.heap.size 144 #[.int .i64 p.n,u1,.int .i64 p.st.q,.int .i64 p.st.d,u4,u5,u6]):=by rw [←hV0];exact((Bk.new w _ _).alloc _).alloc _
 have HR0:Hid (Bk V0 (w.heap.size+1) 97 #[.int .i64 0,.slice none 0 0,.int .i64 0,.int .i64 0,.slice none 0 0,.slice none 0 0,.slice none 0 0]):=by rw [←hV0];exact(Bk.newAt (by simp) _ _).alloc _
 have HQ0:Hid (Bk V0 (w.heap.size+1+1) 97 #[.int .i64 0,.slice none 0 0,.int .i64 0,.int .i64 0,.slice none 0 0,.slice none 0 0,.slice none 0 0]):=by rw [←hV0];exact Bk.newAt (by simp) _ _
 have HW0:=yah hV0
 clear hV0
 go_enter Tryz.func106,Tryz.ntmps106
 have pp0:=HP0.out.cell (i:=0) rfl
 have qq0:=HQ0.out.cell (i:=0) rfl
 have qf0:=HQ0.out.free
 have hV0:=HW0.out
 obtain⟨V1,hV1⟩:∃V1,(V0.setCell ⟨(w.heap.size+1+1),0,none⟩ (.int .i64 p.n))=V1:=⟨_,rfl⟩
 have HQ1:Hid (Bk V1 (w.heap.size+1+1) 97 #[.int .i64 p.n,.slice none 0 0,.int .i64 0,.int .i64 0,.slice none 0 0,.slice none 0 0,.slice none 0 0]):=by rw [←hV1];exact HQ0.out.put 0 _
 have HP1:=yah (ot1 hV1 HP0.out (by omega))
 have HR1:=yah (ot1 hV1 HR0.out (by omega))
 have HT1:=yah (tu1 hV1)
 have hy1:V0.heap.size≤V1.heap.size:=HT1.out.size
 have HX1:=yah (HX0.out.trans (HT1.out.to_below (fun k e=>by omega) (by omega)))
 clear HP0 HR0 HQ0 HX0
 have p1:=HP1.out.cell (i:=1) rfl
 have p2:=HP1.out.cell (i:=2) rfl
 have p3:=HP1.out.cell (i:=3) rfl
 go_wp2_with fail
 clear pp0 qq0 qf0 hV0 hV1 p1 p2 p3
 refine(yj5 _ p.st _ (by have:=HS.out;unfold Pa.wt at this;simp only [yb2,yal]at this;omega) ⟨_,rfl,(H1.out.under HX1.out).isI⟩).mono ?_
 rintro e w2 ⟨y1,rfl,hb,vr1,rfl,ho1⟩
 have HO1:=yah ho1.own
 obtain⟨_,a1,c1,rfl,_⟩:=ho1
 have hz1:V1.heap.size≤w2.heap.size:=hb.size
 have HXb1:=yah (HX1.out.trans (hb.mono (by omega)))
 have HPb1:=yah (HP1.out.below hb)
 have HRb1:=yah (HR1.out.below hb)
 have HQb1:=yah (HQ1.out.below hb)
 clear hb
 obtain⟨V2,hV2⟩:∃V2,(((w2.setCell ⟨(w.heap.size+1+1),1,none⟩ (.slice a1 p.st.r.length c1)).setCell ⟨(w.heap.size+1+1),2,none⟩ (.int .i64 p.st.q)).setCell ⟨(w.heap.size+1+1),3,none⟩ (.int .i64 p.st.d))=V2:=⟨_,rfl⟩
 have qq1:=HQb1.out.cell (i:=1) rfl
 have qq2:=HQb1.out.cell (i:=2) rfl
 have qq3:=HQb1.out.cell (i:=3) rfl
 have qf1:=HQb1.out.free
 have HQ2:Hid (Bk V2 (w.heap.size+1+1) 97 #[.int .i64 p.n,.slice a1 p.st.r.length c1,.int .i64 p.st.q,.int .i64 p.st.d,.slice none 0 0,.slice none 0 0,.slice none 0 0]):=by rw [←hV2];exact((HQb1.out.put 1 _).put 2 _).put 3 _
 have HP2:Hid (Bk V2 w.heap.size 144 #[.int .i64 p.n,u1,.int .i64 p.st.q,.int .i64 p.st.d,u4,u5,u6]):=by rw [←hV2];exact(((HPb1.out.other 1 _ (by omega)).other 2 _ (by omega)).other 3 _ (by omega))
 have HR2:Hid (Bk V2 (w.heap.size+1) 97 #[.int .i64 0,.slice none 0 0,.int .i64 0,.int .i64 0,.slice none 0 0,.slice none 0 0,.slice none 0 0]):=by rw [←hV2];exact(((HRb1.out.other 1 _ (by omega)).other 2 _ (by omega)).other 3 _ (by omega))
 have HT2:Hid (Turns (fun k=>k=(w.heap.size+1+1)) w2 V2):=by rw [←hV2];exact((ya1 _ _ 1 _).trans (ya1 _ _ 2 _)).trans (ya1 _ _ 3 _)
 have hy2:w2.heap.size≤V2.heap.size:=HT2.out.size
 have HX2:=yah (HXb1.out.trans (HT2.out.to_below (fun k e=>by omega) (by omega)))
 replace HO1:=yah (HO1.out.turns HT2.out (fun k e=>by omega))
 clear HPb1 HRb1 HQb1 HXb1 HP1 HR1 HQ1 HX1
 have p4:=HP2.out.cell (i:=4) rfl
 go_wp2_with fail
 clear qq1 qq2 qq3 qf1 hV2 p4
 refine(to_pasts _ p.p _ (by have:=HS.out;unfold Pa.wt at this;simp only [yb2,yal]at this;omega) (H4.out.under HX2.out)).mono ?_
 rintro e w3 ⟨y4,rfl,hb,ho4⟩
 have HO4:=yah ho4
 obtain⟨a4,c4,rfl,_⟩:=OwnD.parts (c:=12) (n:=p.p.length) ho4
 clear ho4
 have hz2:V2.heap.size≤w3.heap.size:=hb.size
 have HXb2:=yah (HX2.out.trans (hb.mono (by omega)))
 have HPb2:=yah (HP2.out.below hb)
 have HRb2:=yah (HR2.out.below hb)
 have HQb2:=yah (HQ2.out.below hb)
 replace HO1:=yah (HO1.out.under hb)
 clear hb
 obtain⟨V3,hV3⟩:∃V3,(w3.setCell ⟨(w.heap.size+1+1),4,none⟩ (.slice a4 p.p.length c4))=V3:=⟨_,rfl⟩
 have qq4:=HQb2.out.cell (i:=4) rfl
 have qf2:=HQb2.out.free
 have HQ3:Hid (Bk V3 (w.heap.size+1+1) 97 #[.int .i64 p.n,.slice a1 p.st.r.length c1,.int .i64 p.st.q,.int .i64 p.st.d,.slice a4 p.p.length c4,.slice none 0 0,.slice none 0 0]):=by rw [←hV3];exact HQb2.out.put 4 _
 have HP3:=yah (ot1 hV3 HPb2.out (by omega))
 have HR3:=yah (ot1 hV3 HRb2.out (by omega))
 have HT3:=yah (tu1 hV3)
 have hy3:w3.heap.size≤V3.heap.size:=HT3.out.size
 have HX3:=yah (HXb2.out.trans (HT3.out.to_below (fun k e=>by omega) (by omega)))
 replace HO1:=yah (HO1.out.turns HT3.out (fun k e=>by omega))
 replace HO4:=yah (HO4.out.turns HT3.out (fun k e=>by omega))
 clear HPb2 HRb2 HQb2 HXb2 HP2 HR2 HQ2 HX2
 have p5:=HP3.out.cell (i:=5) rfl
 go_wp2_with fail
 clear qq4 qf2 hV3 p5
 refine(ysx _ p.t _ (by have:=HS.out;unfold Pa.wt at this;simp only [yb2,yal]at this;omega) (H5.out.under HX3.out)).mono ?_
 rintro e w4 ⟨y5,rfl,hb,ho5⟩
 have HO5:=yah ho5
 obtain⟨a5,c5,rfl,_⟩:=OwnD.parts (c:=7) (n:=p.t.length) ho5
 clear ho5
 have hz3:V3.heap.size≤w4.heap.size:=hb.size
 have HXb3:=yah (HX3.out.trans (hb.mono (by omega)))
 have HPb3:=yah (HP3.out.below hb)
 have HRb3:=yah (HR3.out.below hb)
 have HQb3:=yah (HQ3.out.below hb)
 replace HO1:=yah (HO1.out.under hb)
 replace HO4:=yah (HO4.out.under hb)
 clear hb
 obtain⟨V4,hV4⟩:∃V4,(w4.setCell ⟨(w.heap.size+1+1),5,none⟩ (.slice a5 p.t.length c5))=V4:=⟨_,rfl⟩
 have qq5:=HQb3.out.cell (i:=5) rfl
 have qf3:=HQb3.out.free
 have HQ4:Hid (Bk V4 (w.heap.size+1+1) 97 #[.int .i64 p.n,.slice a1 p.st.r.length c1,.int .i64 p.st.q,.int .i64 p.st.d,.slice a4 p.p.length c4,.slice a5 p.t.length c5,.slice none 0 0]):=by rw [←hV4];exact HQb3.out.put 5 _
 have HP4:=yah (ot1 hV4 HPb3.out (by omega))
 have HR4:=yah (ot1 hV4 HRb3.out (by omega))
 have HT4:=yah (tu1 hV4)
 have hy4:w4.heap.size≤V4.heap.size:=HT4.out.size
 have HX4:=yah (HXb3.out.trans (HT4.out.to_below (fun k e=>by omega) (by omega)))
 replace HO1:=yah (HO1.out.turns HT4.out (fun k e=>by omega))
 replace HO4:=yah (HO4.out.turns HT4.out (fun k e=>by omega))
 replace HO5:=yah (HO5.out.turns HT4.out (fun k e=>by omega))
 clear HPb3 HRb3 HQb3 HXb3 HP3 HR3 HQ3 HX3
 have p6:=HP4.out.cell (i:=6) rfl
 go_wp2_with fail
 clear qq5 qf3 hV4 p6
 refine(ygy _ p.a _ (by have:=HS.out;unfold Pa.wt at this;simp only [yb2,yal]at this;omega) (H6.out.under HX4.out)).mono ?_
 rintro e w5 ⟨y6,rfl,hb,ho6⟩
 have HO6:=yah ho6
 obtain⟨a6,c6,rfl,_⟩:=OwnD.parts (c:=1) (n:=p.a.length) ho6
 clear ho6
 have hz4:V4.heap.size≤w5.heap.size:=hb.size
 have HXb4:=yah (HX4.out.trans (hb.mono (by omega)))
 have HPb4:=yah (HP4.out.below hb)
 have HRb4:=yah (HR4.out.below hb)
 have HQb4:=yah (HQ4.out.below hb)
 replace HO1:=yah (HO1.out.under hb)
 replace HO4:=yah (HO4.out.under hb)
 replace HO5:=yah (HO5.out.under hb)
 clear hb
 obtain⟨V5,hV5⟩:∃V5,(w5.setCell ⟨(w.heap.size+1+1),6,none⟩ (.slice a6 p.a.length c6))=V5:=⟨_,rfl⟩
 have qq6:=HQb4.out.cell (i:=6) rfl
 have qf4:=HQb4.out.free
 have HQ5:Hid (Bk V5 (w.heap.size+1+1) 97 #[.int .i64 p.n,.slice a1 p.st.r.length c1,.int .i64 p.st.q,.int .i64 p.st.d,.slice a4 p.p.length c4,.slice a5 p.t.length c5,.slice a6 p.a.length c6]):=by rw [←hV5];exact HQb4.out.put 6 _
 have HP5:=yah (ot1 hV5 HPb4.out (by omega))
 have HR5:=yah (ot1 hV5 HRb4.out (by omega))
 have HT5:=yah (tu1 hV5)
 have hy5:w5.heap.size≤V5.heap.size:=HT5.out.size
 have HX5:=yah (HXb4.out.trans (HT5.out.to_below (fun k e=>by omega) (by omega)))
 replace HO1:=yah (HO1.out.turns HT5.out (fun k e=>by omega))
 replace HO4:=yah (HO4.out.turns HT5.out (fun k e=>by omega))
 replace HO5:=yah (HO5.out.turns HT5.out (fun k e=>by omega))
 replace HO6:=yah (HO6.out.turns HT5.out (fun k e=>by omega))
 clear HPb4 HRb4 HQb4 HXb4 HP4 HR4 HQ4 HX4
 have oo0:=HQ5.out.cell (i:=0) rfl
 have rr0:=HR5.out.cell (i:=0) rfl
 have oo1:=HQ5.out.cell (i:=1) rfl
 have rr1:=HR5.out.cell (i:=1) rfl
 have oo2:=HQ5.out.cell (i:=2) rfl
 have rr2:=HR5.out.cell (i:=2) rfl
 have oo3:=HQ5.out.cell (i:=3) rfl
 have rr3:=HR5.out.cell (i:=3) rfl
 have oo4:=HQ5.out.cell (i:=4) rfl
 have rr4:=HR5.out.cell (i:=4) rfl
 have oo5:=HQ5.out.cell (i:=5) rfl
 have rr5:=HR5.out.cell (i:=5) rfl
 have oo6:=HQ5.out.cell (i:=6) rfl
 have rr6:=HR5.out.cell (i:=6) rfl
 have rf:=HR5.out.free
 go_wp2
 clear rf oo0 rr0 oo1 rr1 oo2 rr2 oo3 rr3 oo4 rr4 oo5 rr5 oo6 rr6 qq6 qf4 hV5
 have HY0:=HR5.out
 have HU0:Turns (fun k=>k=(w.heap.size+1)) V5 V5:=Turns.refl _ _
 obtain⟨Y1,hY1⟩:∃Y1,V5.setCell ⟨(w.heap.size+1),0,none⟩ (.int .i64 p.n)=Y1:=⟨_,rfl⟩
 have HY1:Bk Y1 (w.heap.size+1) 97 #[.int .i64 p.n,.slice none 0 0,.int .i64 0,.int .i64 0,.slice none 0 0,.slice none 0 0,.slice none 0 0]:=hY1▸HY0.put 0 _
 have HU1:Turns (fun k=>k=(w.heap.size+1)) V5 Y1:=HU0.trans (hY1▸ya1 _ _ 0 _)
 clear HY0 HU0
 obtain⟨Y2,hY2⟩:∃Y2,Y1.setCell ⟨(w.heap.size+1),1,none⟩ (.slice a1 p.st.r.length c1)=Y2:=⟨_,rfl⟩
 have HY2:Bk Y2 (w.heap.size+1) 97 #[.int .i64 p.n,.slice a1 p.st.r.length c1,.int .i64 0,.int .i64 0,.slice none 0 0,.slice none 0 0,.slice none 0 0]:=hY2▸HY1.put 1 _
 have HU2:Turns (fun k=>k=(w.heap.size+1)) V5 Y2:=HU1.trans (hY2▸ya1 _ _ 1 _)
 clear HY1 HU1
 obtain⟨Y3,hY3⟩:∃Y3,Y2.setCell ⟨(w.heap.size+1),2,none⟩ (.int .i64 p.st.q)=Y3:=⟨_,rfl⟩
 have HY3:Bk Y3 (w.heap.size+1) 97 #[.int .i64 p.n,.slice a1 p.st.r.length c1,.int .i64 p.st.q,.int .i64 0,.slice none 0 0,.slice none 0 0,.slice none 0 0]:=hY3▸HY2.put 2 _
 have HU3:Turns (fun k=>k=(w.heap.size+1)) V5 Y3:=HU2.trans (hY3▸ya1 _ _ 2 _)
 clear HY2 HU2
 obtain⟨Y4,hY4⟩:∃Y4,Y3.setCell ⟨(w.heap.size+1),3,none⟩ (.int .i64 p.st.d)=Y4:=⟨_,rfl⟩
 have HY4:Bk Y4 (w.heap.size+1) 97 #[.int .i64 p.n,.slice a1 p.st.r.length c1,.int .i64 p.st.q,.int .i64 p.st.d,.slice none 0 0,.slice none 0 0,.slice none 0 0]:=hY4▸HY3.put 3 _
 have HU4:Turns (fun k=>k=(w.heap.size+1)) V5 Y4:=HU3.trans (hY4▸ya1 _ _ 3 _)
 clear HY3 HU3
 obtain⟨Y5,hY5⟩:∃Y5,Y4.setCell ⟨(w.heap.size+1),4,none⟩ (.slice a4 p.p.length c4)=Y5:=⟨_,rfl⟩
 have HY5:Bk Y5 (w.heap.size+1) 97 #[.int .i64 p.n,.slice a1 p.st.r.length c1,.int .i64 p.st.q,.int .i64 p.st.d,.slice a4 p.p.length c4,.slice none 0 0,.slice none 0 0]:=hY5▸HY4.put 4 _
 have HU5:Turns (fun k=>k=(w.heap.size+1)) V5 Y5:=HU4.trans (hY5▸ya1 _ _ 4 _)
 clear HY4 HU4
 obtain⟨Y6,hY6⟩:∃Y6,Y5.setCell ⟨(w.heap.size+1),5,none⟩ (.slice a5 p.t.length c5)=Y6:=⟨_,rfl⟩
 have HY6:Bk Y6 (w.heap.size+1) 97 #[.int .i64 p.n,.slice a1 p.st.r.length c1,.int .i64 p.st.q,.int .i64 p.st.d,.slice a4 p.p.length c4,.slice a5 p.t.length c5,.slice none 0 0]:=hY6▸HY5.put 5 _
 have HU6:Turns (fun k=>k=(w.heap.size+1)) V5 Y6:=HU5.trans (hY6▸ya1 _ _ 5 _)
 clear HY5 HU5
 obtain⟨Y7,hY7⟩:∃Y7,Y6.setCell ⟨(w.heap.size+1),6,none⟩ (.slice a6 p.a.length c6)=Y7:=⟨_,rfl⟩
 have HY7:Bk Y7 (w.heap.size+1) 97 #[.int .i64 p.n,.slice a1 p.st.r.length c1,.int .i64 p.st.q,.int .i64 p.st.d,.slice a4 p.p.length c4,.slice a5 p.t.length c5,.slice a6 p.a.length c6]:=hY7▸HY6.put 6 _
 have HU7:Turns (fun k=>k=(w.heap.size+1)) V5 Y7:=HU6.trans (hY7▸ya1 _ _ 6 _)
 clear HY6 HU6
 rw [hY1,hY2,hY3,hY4,hY5,hY6,hY7]
 have hR:=HY7
 have hT:=HU7
 obtain⟨t0,t1,t2,t3,t4,t5,t6⟩:=c7_7 hR
 have hsz:=hT.size
 refine bodyPost_ret (v:= .agg #[.int .i64 p.n,.slice a1 p.st.r.length c1,.int .i64 p.st.q,.int .i64 p.st.d,.slice a4 p.p.length c4,.slice a5 p.t.length c5,.slice a6 p.a.length c6]) (by simp [results,Tryz.results106,go_sem,t0,t1,t2,t3,t4,t5,t6]) rfl
  ⟨_,rfl,HX5.out.trans (hT.to_below (fun k e=>by omega) (by omega)),_,_,_,_,_,_,_,_,rfl,HO1.out.turns hT (fun k e=>by omega),HO4.out.turns hT (fun k e=>by omega),HO5.out.turns hT (fun k e=>by omega),HO6.out.turns hT (fun k e=>by omega),fun k e=>⟨⟨by omega,by omega⟩,by omega,by omega,by omega⟩,fun k e=>⟨⟨by omega,by omega⟩,by omega,by omega⟩,fun k e=>⟨⟨by omega,by omega⟩,by omega⟩,fun k e=>⟨by omega,by omega⟩⟩
def sumC (f:Nat→Dat) (j:Nat):Nat:=sumL (fun i=>(f i).cnt) j
def mkD (f:Nat→Dat) (z:Int) (m:Nat):Nat→Dat:=fun j=>if j<m then(f j).mark (z+(sumC f j:Int))else f j
theorem yst (f:Nat→Dat) (z:Int) (m:Nat):upd (mkD f z m) m ((f m).mark (z+(sumC f m:Int)))=mkD f z (m+1):=by
 funext j
 simp only [upd,mkD]
 by_cases e:j=m
 ·subst e;rw [if_pos rfl,if_pos (by omega)]
 ·rw [if_neg e]
  by_cases e2:j<m
  ·rw [if_pos e2,if_pos (by omega)]
  ·rw [if_neg e2,if_neg (by omega)]
theorem OwnD.mk0 {F:Nat→Prop} {w:World} {x:Value} {c n:Nat} {f:Nat→Dat} (z:Int) (h:OwnD w F x (.row c n f)):OwnD w F x (.row c n (mkD f z (0*c))):=
 h.congr (fun j _=>by simp [mkD])
theorem OwnD.mkAll {F:Nat→Prop} {w:World} {x:Value} {c n:Nat} {f:Nat→Dat} {z:Int} (h:OwnD w F x (.row c n (mkD f z (n*c)))):OwnD w F x ((Dat.row c n f).mark z):=
 OwnD.congr (f':=fun j=>(f j).mark (z+(sumL (fun i=>(f i).cnt) j:Int))) h (fun j hj=>by simp only [mkD];rw [if_pos hj];rfl)
theorem OwnD.mk_val {F:Nat→Prop} {w:World} {g n cap c m:Nat} {f:Nat→Dat} {z:Int} (h:OwnD w F (.slice (some ⟨g,0,none⟩) n cap) (.row c n (mkD f z m))) (hm:m<n*c) {u v:Value} (hv:f m= .val v) (hu:u=mark1 v (z+(sumC f m:Int))):
  OwnD (w.setCell ⟨g,m,none⟩ u) F (.slice (some ⟨g,0,none⟩) n cap) (.row c n (mkD f z (m+1))):=by
 have:=h.put_val hm u
 rw [←yst,hv]
 rw [hu]at this⊢
 exact this
theorem OwnD.mk_row {F:Nat→Prop} {w:World} {g n cap c m:Nat} {f:Nat→Dat} {z:Int} (h:OwnD w F (.slice (some ⟨g,0,none⟩) n cap) (.row c n (mkD f z m))) (hm:m<n*c):
  ∃u K,w.cell? ⟨g,m,none⟩=some u∧OwnD w K u (f m)∧(∀k,K k→F k)∧ ∀w',OwnD w' K u ((f m).mark (z+(sumC f m:Int)))→Turns K w w'→OwnD w' F (.slice (some ⟨g,0,none⟩) n cap) (.row c n (mkD f z (m+1))):=by
 obtain⟨u,K,h1,_,h3,h4,h5⟩:=h.step hm
 refine⟨u,K,h1,?_,fun k hk=>(h4 k hk).1,fun w' hw ht=> ?_⟩
 ·have e:mkD f z m m=f m:=by simp [mkD]
  rw [e]at h3;exact h3
 ·have:=h5 w' _ hw ht
  rw [yst]at this;exact this
theorem yai {c n:Nat} {f:Nat→Dat} {j:Nat} (h:j≤n*c):sumC f j≤(Dat.row c n f).cnt:=yjb _ h
theorem yaf (f:Nat→Dat) (j:Nat):sumC f (j+1)=sumC f j+(f j).cnt:=rfl
theorem yb6 {p:Prop} (h:p):Hid p:=h
set_option maxRecDepth 100000 in
set_option maxHeartbeats 8000000 in
theorem yrr {F:Nat→Prop} {x:Value} {l:List Ps} {w:World} (z:Int) (hn:(yay l).wt≤1048577) (hz0:0≤z) (hz1:z+((yay l).cnt:Int)≤1073741824) (h:OwnD w F x (yay l)):
  Calls Tryz.prog 128 #[x,.int .i64 z] w fun e w'=>e= .returned (.int .i64 (z+((yay l).cnt:Int)))∧OwnD w' F x ((yay l).mark z)∧Turns F w w':=by
 obtain⟨a,cap,rfl,h1,h2,ha⟩:=OwnD.parts (c:=12) (n:=l.length) h
 have HR0:=yb6 (OwnD.mk0 z h)
 have HS:=yb6 hn
 have HZ:=yb6 hz1
 have hl2:l.length≤1048577:=by rw [yc3]at hn;omega
 clear h hn hz1 h1 h2
 go_enter Tryz.func128,Tryz.ntmps128
 go_wp2
 go_loopw [5,1] (fun i y wr=>∃k:Nat,k≤l.length∧i= .int .i64 k∧y= .int .i64 (z+(sumC (ya3 l) (k*12):Int))∧OwnD wr F (.slice a l.length cap) (.row 12 l.length (mkD (ya3 l) z (k*12)))∧Turns F w wr) (fun i _ _=>l.length-(intOf i).toNat)
 case atStart=>exact⟨0,Nat.zero_le _,rfl,by simp [sumC,sumL],HR0.out,Turns.refl _ _⟩
 case round=>
  obtain⟨k,hk,rfl,rfl,hR,hT⟩:=hrel
  have HR:=yb6 hR
  have HT:Hid (Turns F w wr):=hT
  clear hR hT
  by_cases hlt:k<l.length
  ·obtain⟨g,rfl,_,hFg⟩:=ha.resolve_left (by omega)
   have HF:Hid (F g):=hFg
   have hwt:(psAt l k).wt≤1048577:=Nat.le_trans (Ps.wt_le hlt) HS.out
   unfold Ps.wt at hwt
   simp only [ycm,yb2,yal]at hwt
   obtain⟨m,hm⟩:∃m,m=k*12:=⟨_,rfl⟩
   have E0:=yb6 (ybg l k (r:=0) (by omega))
   have E1:=yb6 (ybg l k (r:=1) (by omega))
   have E2:=yb6 (ybg l k (r:=2) (by omega))
   have E3:=yb6 (ybg l k (r:=3) (by omega))
   have E4:=yb6 (ybg l k (r:=4) (by omega))
   have E5:=yb6 (ybg l k (r:=5) (by omega))
   have E6:=yb6 (ybg l k (r:=6) (by omega))
   have E7:=yb6 (ybg l k (r:=7) (by omega))
   have E8:=yb6 (ybg l k (r:=8) (by omega))
   have E9:=yb6 (ybg l k (r:=9) (by omega))
   have E10:=yb6 (ybg l k (r:=10) (by omega))
   have E11:=yb6 (ybg l k (r:=11) (by omega))
   have C0:Hid (sumC (ya3 l) (k*12)≤(yay l).cnt):=yai (by omega)
   have S1:Hid (sumC (ya3 l) (k*12+1)=sumC (ya3 l) (k*12)+(Dat.val (.int .i64 (psAt l k).e.t)).cnt):=by
    have e:=yaf (ya3 l) (k*12+0)
    rw [E0.out]at e
    exact e
   have C1:Hid (sumC (ya3 l) (k*12+1)≤(yay l).cnt):=yai (by omega)
   have S2:Hid (sumC (ya3 l) (k*12+2)=sumC (ya3 l) (k*12+1)+(Dat.val (.int .i64 (psAt l k).e.s)).cnt):=by
    have e:=yaf (ya3 l) (k*12+1)
    rw [E1.out]at e
    exact e
   have C2:Hid (sumC (ya3 l) (k*12+2)≤(yay l).cnt):=yai (by omega)
   have S3:Hid (sumC (ya3 l) (k*12+3)=sumC (ya3 l) (k*12+2)+(Dat.val (.int .i64 (psAt l k).e.q)).cnt):=by
    have e:=yaf (ya3 l) (k*12+2)
    rw [E2.out]at e
    exact e
   have C3:Hid (sumC (ya3 l) (k*12+3)≤(yay l).cnt):=yai (by omega)
   have S4:Hid (sumC (ya3 l) (k*12+4)=sumC (ya3 l) (k*12+3)+(Dat.val (.int .i64 (psAt l k).e.d)).cnt):=by
    have e:=yaf (ya3 l) (k*12+3)
    rw [E3.out]at e
    exact e
   have C4:Hid (sumC (ya3 l) (k*12+4)≤(yay l).cnt):=yai (by omega)
   have S5:Hid (sumC (ya3 l) (k*12+5)=sumC (ya3 l) (k*12+4)+(Dat.val (.int .i64 (psAt l k).e.k)).cnt):=by
    have e:=yaf (ya3 l) (k*12+4)
    rw [E4.out]at e
    exact e
   have C5:Hid (sumC (ya3 l) (k*12+5)≤(yay l).cnt):=yai (by omega)
   have S6:Hid (sumC (ya3 l) (k*12+6)=sumC (ya3 l) (k*12+5)+(Dat.val (.int .i64 (psAt l k).e.v)).cnt):=by
    have e:=yaf (ya3 l) (k*12+5)
    rw [E5.out]at e
    exact e
   have C6:Hid (sumC (ya3 l) (k*12+6)≤(yay l).cnt):=yai (by omega)
   have S7:Hid (sumC (ya3 l) (k*12+7)=sumC (ya3 l) (k*12+6)+(Dat.val (.int .i64 (psAt l k).e.g)).cnt):=by
    have e:=yaf (ya3 l) (k*12+6)
    rw [E6.out]at e
    exact e
   have C7:Hid (sumC (ya3 l) (k*12+7)≤(yay l).cnt):=yai (by omega)
   have S8:Hid (sumC (ya3 l) (k*12+8)=sumC (ya3 l) (k*12+7)+(yaq (psAt l k).b.r).cnt):=by
    have e:=yaf (ya3 l) (k*12+7)
    rw [E7.out]at e
    exact e
   have C8:Hid (sumC (ya3 l) (k*12+8)≤(yay l).cnt):=yai (by omega)
   have S9:Hid (sumC (ya3 l) (k*12+9)=sumC (ya3 l) (k*12+8)+(Dat.val (.int .i64 (psAt l k).b.q)).cnt):=by
    have e:=yaf (ya3 l) (k*12+8)
    rw [E8.out]at e
    exact e
   have C9:Hid (sumC (ya3 l) (k*12+9)≤(yay l).cnt):=yai (by omega)
   have S10:Hid (sumC (ya3 l) (k*12+10)=sumC (ya3 l) (k*12+9)+(Dat.val (.int .i64 (psAt l k).b.d)).cnt):=by
    have e:=yaf (ya3 l) (k*12+9)
    rw [E9.out]at e
    exact e
   have C10:Hid (sumC (ya3 l) (k*12+10)≤(yay l).cnt):=yai (by omega)
   have S11:Hid (sumC (ya3 l) (k*12+11)=sumC (ya3 l) (k*12+10)+(evsD (psAt l k).s).cnt):=by
    have e:=yaf (ya3 l) (k*12+10)
    rw [E10.out]at e
    exact e
   have C11:Hid (sumC (ya3 l) (k*12+11)≤(yay l).cnt):=yai (by omega)
   have S12:Hid (sumC (ya3 l) (k*12+12)=sumC (ya3 l) (k*12+11)+(emsD (psAt l k).x).cnt):=by
    have e:=yaf (ya3 l) (k*12+11)
    rw [E11.out]at e
    exact e
   have C12:Hid (sumC (ya3 l) (k*12+12)≤(yay l).cnt):=yai (by omega)
   obtain⟨y,hy⟩:∃y:Int,y=z+(sumC (ya3 l) (k*12):Int):=⟨_,rfl⟩
   have HY0:=yb6 hy
   have y0:0≤y:=by omega
   rw [←hy]
   clear hy hm
   obtain⟨x0,_,g0,z0,_⟩:=HR.out.step (j:=k*12) (by omega)
   obtain⟨Y1,hY1⟩:∃Y1,wr.setCell ⟨g,k*12,none⟩ (.int .i64 y)=Y1:=⟨_,rfl⟩
   have HR1:Hid (OwnD Y1 F (.slice (some ⟨g,0,none⟩) l.length cap) (.row 12 l.length (mkD (ya3 l) z (k*12+1)))):=hY1▸HR.out.mk_val (m:=k*12) (by omega) E0.out (by
    show _=Value.int .i64 (z+(sumC (ya3 l) (k*12):Int))
    rw [show y=z+(sumC (ya3 l) (k*12):Int)from by(have e:=HY0.out;simp only [Dat.cnt]at*;omega)])
   have HT1:Hid (Turns F w Y1):=HT.out.trans (hY1▸(ya1 _ _ _ _).mono (fun b e=>by subst e;exact HF.out))
   obtain⟨x1,_,g1,z1,_⟩:=HR1.out.step (j:=k*12+1) (by omega)
   obtain⟨Y2,hY2⟩:∃Y2,Y1.setCell ⟨g,k*12+1,none⟩ (.int .i64 (y+1))=Y2:=⟨_,rfl⟩
   have HR2:Hid (OwnD Y2 F (.slice (some ⟨g,0,none⟩) l.length cap) (.row 12 l.length (mkD (ya3 l) z (k*12+2)))):=hY2▸HR1.out.mk_val (m:=k*12+1) (by omega) E1.out (by
    show _=Value.int .i64 (z+(sumC (ya3 l) (k*12+1):Int))
    rw [show y+1=z+(sumC (ya3 l) (k*12+1):Int)from by(have e:=HY0.out;have e1:=S1.out;simp only [Dat.cnt]at*;omega)])
   have HT2:Hid (Turns F w Y2):=HT1.out.trans (hY2▸(ya1 _ _ _ _).mono (fun b e=>by subst e;exact HF.out))
   obtain⟨x2,_,g2,z2,_⟩:=HR2.out.step (j:=k*12+2) (by omega)
   obtain⟨Y3,hY3⟩:∃Y3,Y2.setCell ⟨g,k*12+2,none⟩ (.int .i64 (y+1+1))=Y3:=⟨_,rfl⟩
   have HR3:Hid (OwnD Y3 F (.slice (some ⟨g,0,none⟩) l.length cap) (.row 12 l.length (mkD (ya3 l) z (k*12+3)))):=hY3▸HR2.out.mk_val (m:=k*12+2) (by omega) E2.out (by
    show _=Value.int .i64 (z+(sumC (ya3 l) (k*12+2):Int))
    rw [show y+1+1=z+(sumC (ya3 l) (k*12+2):Int)from by(have e:=HY0.out;have e1:=S1.out;have e2:=S2.out;simp only [Dat.cnt]at*;omega)])
   have HT3:Hid (Turns F w Y3):=HT2.out.trans (hY3▸(ya1 _ _ _ _).mono (fun b e=>by subst e;exact HF.out))
   obtain⟨x3,_,g3,z3,_⟩:=HR3.out.step (j:=k*12+3) (by omega)
   obtain⟨Y4,hY4⟩:∃Y4,Y3.setCell ⟨g,k*12+3,none⟩ (.int .i64 (y+1+1+1))=Y4:=⟨_,rfl⟩
   have HR4:Hid (OwnD Y4 F (.slice (some ⟨g,0,none⟩) l.length cap) (.row 12 l.length (mkD (ya3 l) z (k*12+4)))):=hY4▸HR3.out.mk_val (m:=k*12+3) (by omega) E3.out (by
    show _=Value.int .i64 (z+(sumC (ya3 l) (k*12+3):Int))
    rw [show y+1+1+1=z+(sumC (ya3 l) (k*12+3):Int)from by(have e:=HY0.out;have e1:=S1.out;have e2:=S2.out;have e3:=S3.out;simp only [Dat.cnt]at*;omega)])
   have HT4:Hid (Turns F w Y4):=HT3.out.trans (hY4▸(ya1 _ _ _ _).mono (fun b e=>by subst e;exact HF.out))
   obtain⟨x4,_,g4,z4,_⟩:=HR4.out.step (j:=k*12+4) (by omega)
   obtain⟨Y5,hY5⟩:∃Y5,Y4.setCell ⟨g,k*12+4,none⟩ (.int .i64 (y+1+1+1+1))=Y5:=⟨_,rfl⟩
   have HR5:Hid (OwnD Y5 F (.slice (some ⟨g,0,none⟩) l.length cap) (.row 12 l.length (mkD (ya3 l) z (k*12+5)))):=hY5▸HR4.out.mk_val (m:=k*12+4) (by omega) E4.out (by
    show _=Value.int .i64 (z+(sumC (ya3 l) (k*12+4):Int))
    rw [show y+1+1+1+1=z+(sumC (ya3 l) (k*12+4):Int)from by(have e:=HY0.out;have e1:=S1.out;have e2:=S2.out;have e3:=S3.out;have e4:=S4.out;simp only [Dat.cnt]at*;omega)])
   have HT5:Hid (Turns F w Y5):=HT4.out.trans (hY5▸(ya1 _ _ _ _).mono (fun b e=>by subst e;exact HF.out))
   obtain⟨x5,_,g5,z5,_⟩:=HR5.out.step (j:=k*12+5) (by omega)
   obtain⟨Y6,hY6⟩:∃Y6,Y5.setCell ⟨g,k*12+5,none⟩ (.int .i64 (y+1+1+1+1+1))=Y6:=⟨_,rfl⟩
   have HR6:Hid (OwnD Y6 F (.slice (some ⟨g,0,none⟩) l.length cap) (.row 12 l.length (mkD (ya3 l) z (k*12+6)))):=hY6▸HR5.out.mk_val (m:=k*12+5) (by omega) E5.out (by
    show _=Value.int .i64 (z+(sumC (ya3 l) (k*12+5):Int))
    rw [show y+1+1+1+1+1=z+(sumC (ya3 l) (k*12+5):Int)from by(have e:=HY0.out;have e1:=S1.out;have e2:=S2.out;have e3:=S3.out;have e4:=S4.out;have e5:=S5.out;simp only [Dat.cnt]at*;omega)])
   have HT6:Hid (Turns F w Y6):=HT5.out.trans (hY6▸(ya1 _ _ _ _).mono (fun b e=>by subst e;exact HF.out))
   obtain⟨x6,_,g6,z6,_⟩:=HR6.out.step (j:=k*12+6) (by omega)
   obtain⟨Y7,hY7⟩:∃Y7,Y6.setCell ⟨g,k*12+6,none⟩ (.int .i64 (y+1+1+1+1+1+1))=Y7:=⟨_,rfl⟩
   have HR7:Hid (OwnD Y7 F (.slice (some ⟨g,0,none⟩) l.length cap) (.row 12 l.length (mkD (ya3 l) z (k*12+7)))):=hY7▸HR6.out.mk_val (m:=k*12+6) (by omega) E6.out (by
    show _=Value.int .i64 (z+(sumC (ya3 l) (k*12+6):Int))
    rw [show y+1+1+1+1+1+1=z+(sumC (ya3 l) (k*12+6):Int)from by(have e:=HY0.out;have e1:=S1.out;have e2:=S2.out;have e3:=S3.out;have e4:=S4.out;have e5:=S5.out;have e6:=S6.out;simp only [Dat.cnt]at*;omega)])
   have HT7:Hid (Turns F w Y7):=HT6.out.trans (hY7▸(ya1 _ _ _ _).mono (fun b e=>by subst e;exact HF.out))
   obtain⟨u7,K7,g7,o7,f7,b7⟩:=HR7.out.mk_row (m:=k*12+7) (by omega)
   rw [E7.out]at o7 b7
   have O7:=yb6 o7
   have B7:=yb6 b7
   have F7:Hid (∀b,K7 b→F b):=f7
   clear o7 b7 f7
   have hq7:y+1+1+1+1+1+1+1=z+(sumC (ya3 l) (k*12+7):Int):=by(have e:=HY0.out;have e1:=S1.out;have e2:=S2.out;have e3:=S3.out;have e4:=S4.out;have e5:=S5.out;have e6:=S6.out;have e7:=S7.out;simp only [Dat.cnt]at*;omega)
   have hb7:y+1+1+1+1+1+1+1≤1073741824:=by have:=HZ.out;have:=C7.out;omega
   have Q7:=yb6 hq7
   clear hq7
   go_wp2_with fail
   clear g7 hY7 z6 g6 hY6 z5 g5 hY5 z4 g4 hY4 z3 g3 hY3 z2 g2 hY2 z1 g1 hY1 z0 g0
   refine(yee (F:=K7) (l:=(psAt l k).b.r) (y+1+1+1+1+1+1+1) (by omega) (by omega) (by omega) O7.out).mono ?_
   rintro e w8 ⟨rfl,hr,ht⟩
   rw [Q7.out]at hr
   have HR8:=yb6 (B7.out _ hr ht)
   have HT8:Hid (Turns F w w8):=HT7.out.trans (ht.mono F7.out)
   clear hr ht
   obtain⟨y7,hy⟩:∃y7:Int,y7=y+1+1+1+1+1+1+1+((yaq (psAt l k).b.r).cnt:Int):=⟨_,rfl⟩
   have HY8:Hid (y7=z+(sumC (ya3 l) (k*12+8):Int)):=by
    have h8:=S8.out
    have h9:=Q7.out
    show y7=_
    omega
   have y70:0≤y7:=by omega
   have y71:y7≤1073741824:=by have h7:=HZ.out;have h8:=C8.out;have h9:=HY8.out;omega
   rw [←hy]
   clear hy
   obtain⟨x8,_,g8,z8,_⟩:=HR8.out.step (j:=k*12+8) (by omega)
   obtain⟨Y9,hY9⟩:∃Y9,w8.setCell ⟨g,k*12+8,none⟩ (.int .i64 y7)=Y9:=⟨_,rfl⟩
   have HR9:Hid (OwnD Y9 F (.slice (some ⟨g,0,none⟩) l.length cap) (.row 12 l.length (mkD (ya3 l) z (k*12+9)))):=hY9▸HR8.out.mk_val (m:=k*12+8) (by omega) E8.out (by
    show _=Value.int .i64 (z+(sumC (ya3 l) (k*12+8):Int))
    rw [show y7=z+(sumC (ya3 l) (k*12+8):Int)from by(have e:=HY8.out;simp only [Dat.cnt]at*;omega)])
   have HT9:Hid (Turns F w Y9):=HT8.out.trans (hY9▸(ya1 _ _ _ _).mono (fun b e=>by subst e;exact HF.out))
   obtain⟨x9,_,g9,z9,_⟩:=HR9.out.step (j:=k*12+9) (by omega)
   obtain⟨Y10,hY10⟩:∃Y10,Y9.setCell ⟨g,k*12+9,none⟩ (.int .i64 (y7+1))=Y10:=⟨_,rfl⟩
   have HR10:Hid (OwnD Y10 F (.slice (some ⟨g,0,none⟩) l.length cap) (.row 12 l.length (mkD (ya3 l) z (k*12+10)))):=hY10▸HR9.out.mk_val (m:=k*12+9) (by omega) E9.out (by
    show _=Value.int .i64 (z+(sumC (ya3 l) (k*12+9):Int))
    rw [show y7+1=z+(sumC (ya3 l) (k*12+9):Int)from by(have e:=HY8.out;have e9:=S9.out;simp only [Dat.cnt]at*;omega)])
   have HT10:Hid (Turns F w Y10):=HT9.out.trans (hY10▸(ya1 _ _ _ _).mono (fun b e=>by subst e;exact HF.out))
   obtain⟨u10,K10,g10,o10,f10,b10⟩:=HR10.out.mk_row (m:=k*12+10) (by omega)
   rw [E10.out]at o10 b10
   have O10:=yb6 o10
   have B10:=yb6 b10
   have F10:Hid (∀b,K10 b→F b):=f10
   clear o10 b10 f10
   have hq10:y7+1+1=z+(sumC (ya3 l) (k*12+10):Int):=by(have e:=HY8.out;have e9:=S9.out;have e10:=S10.out;simp only [Dat.cnt]at*;omega)
   have hb10:y7+1+1≤1073741824:=by have:=HZ.out;have:=C10.out;omega
   have Q10:=yb6 hq10
   clear hq10
   go_wp2_with fail
   clear g10 hY10 z9 g9 hY9 z8 g8
   refine(yiz (F:=K10) (l:=(psAt l k).s) (y7+1+1) (by omega) (by omega) (by omega) O10.out).mono ?_
   rintro e w11 ⟨rfl,hr,ht⟩
   rw [Q10.out]at hr
   have HR11:=yb6 (B10.out _ hr ht)
   have HT11:Hid (Turns F w w11):=HT10.out.trans (ht.mono F10.out)
   clear hr ht
   obtain⟨y10,hy⟩:∃y10:Int,y10=y7+1+1+((evsD (psAt l k).s).cnt:Int):=⟨_,rfl⟩
   have HY11:Hid (y10=z+(sumC (ya3 l) (k*12+11):Int)):=by
    have h8:=S11.out
    have h9:=Q10.out
    show y10=_
    omega
   have y100:0≤y10:=by omega
   have y101:y10≤1073741824:=by have h7:=HZ.out;have h8:=C11.out;have h9:=HY11.out;omega
   rw [←hy]
   clear hy
   obtain⟨u11,K11,g11,o11,f11,b11⟩:=HR11.out.mk_row (m:=k*12+11) (by omega)
   rw [E11.out]at o11 b11
   have O11:=yb6 o11
   have B11:=yb6 b11
   have F11:Hid (∀b,K11 b→F b):=f11
   clear o11 b11 f11
   have hq11:y10=z+(sumC (ya3 l) (k*12+11):Int):=by(have e:=HY11.out;simp only [Dat.cnt]at*;omega)
   have hb11:y10≤1073741824:=by have:=HZ.out;have:=C11.out;omega
   have Q11:=yb6 hq11
   clear hq11
   go_wp2_with fail
   clear g11
   refine(ypu (F:=K11) (l:=(psAt l k).x) (y10) (by omega) (by omega) (by omega) O11.out).mono ?_
   rintro e w12 ⟨rfl,hr,ht⟩
   rw [Q11.out]at hr
   have HR12:=yb6 (B11.out _ hr ht)
   have HT12:Hid (Turns F w w12):=HT11.out.trans (ht.mono F11.out)
   clear hr ht
   obtain⟨y11,hy⟩:∃y11:Int,y11=y10+((emsD (psAt l k).x).cnt:Int):=⟨_,rfl⟩
   have HY12:Hid (y11=z+(sumC (ya3 l) (k*12+12):Int)):=by
    have h8:=S12.out
    have h9:=Q11.out
    show y11=_
    omega
   have y110:0≤y11:=by omega
   have y111:y11≤1073741824:=by have h7:=HZ.out;have h8:=C12.out;have h9:=HY12.out;omega
   rw [←hy]
   clear hy
   go_wp2
   go_roundw
   case rel=>
    refine⟨k+1,by omega,by go_num,?_,?_,HT12.out⟩
    ·rw [show y11=z+(sumC (ya3 l) ((k+1)*12):Int)from by rw [show(k+1)*12=k*12+12 from by omega];(have e:=HY12.out;simp only [Dat.cnt]at*;omega)]
    ·rw [show(k+1)*12=k*12+12 from by omega]
     exact HR12.out
   case measure=>simp [intOf];omega
  ·go_wp2
   go_ret
   obtain rfl:k=l.length:=by omega
   exact⟨rfl,HR.out.mkAll,HT.out⟩
def yny (w:World) (v v':Value):Prop:=v'.ownBlock=v.ownBlock∨ ∀k,v'.ownBlock=some k→w.heap.size≤k
theorem yfx {P:Program} (w:World) (base:Nat) (t ty e:TypeId) (i:TypeInfo) (z:Value) (size bytes:Nat) (ht:P.underlying t=some (.slice e)) (hi:P.info? e=some i) (hz:i.zero=some z) (hsize:i.size=size) (hby:i.bytes=bytes) (hzs:z.cells.size=size) (hsz:0<size)
  (v:Value) (n:Nat) (xs:List Value) (hown:w.ownsRow base e size v n xs) (ad:Addr) (m c:Nat) (news:List Value) (hl:news.length=m*size) (hnews:∀j u,news[j]? =some u→w.cell? (ad.add j)=some u) (h1:∀u∈news,u.oneCell'=true)
  (h63:n+m≤maxLen) (hbytes:(n+m)*bytes≤140737488355328) (hbase:base≤w.heap.size):
  ∃v' w',(Builtin.append_ #[t,t] ty #[v,.slice (some ad) m c]).run P w= .ok v' w'∧w'.ownsRow base e size v' (n+m) (xs++news)∧w.grownBy w' v.ownBlock∧yny w v v':=by
 obtain⟨v',w',hr,h2,h3,_⟩:=run_append_own (P:=P) w base t ty e i z size bytes ht hi hz hsize hby hzs hsz v n xs hown ad m c news hl hnews h1 h63 hbytes hbase
 refine⟨v',w',hr,h2,h3,?_⟩
 have hown':=hown
 obtain⟨_,⟨rfl,h0⟩|⟨g,cap,cur,rfl,hg,hc,hnc,hcm,hcs,htk⟩⟩:=hown
 ·right
  obtain⟨v2,w2,hr2,r1,_⟩:=run_append_own (P:=P) w w.heap.size t ty e i z size bytes ht hi hz hsize hby hzs hsz (.slice none 0 0) n xs ⟨hown'.1,.inl ⟨rfl,h0⟩⟩ ad m c news hl hnews h1 h63 hbytes (Nat.le_refl _)
  rw [hr]at hr2
  cases hr2
  exact fun k e=>(World.ownsRow.lt r1 k e).1
 ·by_cases hroom:n+m≤cap
  ·left
   obtain⟨w2,hr2,_⟩:=run_append_fits (P:=P) w base t ty e i size ht hi hsize g n cap xs hown' ad m c news hl hnews h1 hroom
   rw [hr]at hr2
   cases hr2
   rfl
  ·right
   obtain⟨v2,w2,hr2,r1,_⟩:=run_append_arg_grows (P:=P) w t ty e i z size bytes ht hi hz hsize hby hzs hsz ⟨g,0,none⟩ n cap xs hown'.1 (World.ownsRow.cells hown' rfl) ad m c news hl hnews (by omega) h63 hbytes
   rw [hr]at hr2
   cases hr2
   exact fun k e=>(World.ownsRow.lt r1 k e).1
theorem yis {P:Program} {ops:Array Oper} {o:Oper} {a:Act} {w:World} {K:Act→World→Prop} {Q:Exit→Act→World→Prop} {E:Prop}
  (hg:o.guard=none) (s x:Operand) (t:TypeId) (hop:o.op=Op.call {callee:=Callee.builtin Builtin.append,args:= #[s,x],argTypes:= #[t,t]})
  (base:Nat) (e:TypeId) (i:TypeInfo) (z:Value) (size bytes:Nat) (h1:P.underlying t=some (.slice e)) (h2:P.info? e=some i) (h3:i.zero=some z) (h4:i.size=size) (h5:i.bytes=bytes) (h6:z.cells.size=size) (h7:0<size)
  (v:Value) (n:Nat) (xs:List Value) (hs:a.eval s=v) (hown:w.ownsRow base e size v n xs)
  (ad:Addr) (m c:Nat) (news:List Value) (hx:a.eval x= .slice (some ad) m c) (hn:news.length=m*size) (hc:∀j u,news[j]? =some u→w.cell? (ad.add j)=some u) (h1c:∀u∈news,u.oneCell'=true)
  (b1:n+m≤maxLen) (b2:(n+m)*bytes≤140737488355328) (hbase:base≤w.heap.size)
  (hK:∀v' w',w'.ownsRow base e size v' (n+m) (xs++news)→w.grownBy w' v.ownBlock→yny w v v'→K (a.put o.dst v') w'):
  if Region.wanted o (yielded ops a.tmps)=true then Oper.wp P o a w K Q else E:=by
 have hw:Region.wanted o (yielded ops a.tmps)=true:=by simp [Region.wanted,hg]
 rw [if_pos hw]
 obtain⟨v',w',hr,q1,q2,q3⟩:=yfx (P:=P) w base t o.type e i z size bytes h1 h2 h3 h4 h5 h6 h7 v n xs hown ad m c news hn hc h1c b1 b2 hbase
 unfold Oper.wp execOp
 simp only [hop,resolve,invoke,builtin,Sem.run_bind,Sem.run_pure,Result.andThen_ok,List.map_toArray,List.map_cons,List.map_nil,hs,hx,hr]
 exact hK v' w' q1 q2 q3
theorem yps {B:Nat} {T:TypeId} {w:World} {x:Value} {n c:Nat} {cs:List Value} (hcs:cs.length=n*c) (h:w.ownsRow B T c x n cs):RowF (fun k=>x.ownBlock=some k) w x n c cs:=by
 obtain⟨hl,⟨rfl,h0⟩|⟨g,cap,cur,rfl,hg,hc,h1,h2,h3,h4⟩⟩:=h
 ·exact⟨hcs,none,0,by rw [h0],by omega,by unfold maxLen;omega,.inl h0⟩
 ·have hlt:g<w.heap.size:=(Array.getElem?_eq_some_iff.1 hc).1
  refine⟨hcs,_,cap,rfl,h1,h2,.inr ⟨g,rfl,rfl,hlt,fun j hj=> ?_⟩⟩
  have hj2:j<cur.size:=by rw [h3];exact Nat.lt_of_lt_of_le hj (Nat.mul_le_mul_right c h1)
  refine⟨?_,by simp [World.frozen?,hc]⟩
  rw [←h4,List.getElem?_take_of_lt (by omega)]
  simp [World.cell?,hc]
theorem ytx {w w':World} {B:Nat} {v:Value} {T:TypeId} {c n:Nat} {cs:List Value} (h:w.ownsRow B T c v n cs) (hb:∀k,v.ownBlock=some k→w'.heap[k]? =w.heap[k]?):w'.ownsRow B T c v n cs:=by
 obtain⟨h0,⟨e,h1⟩|⟨g,cap,cur,rfl,hg,hc,h1⟩⟩:=h
 ·exact⟨h0,.inl ⟨e,h1⟩⟩
 ·exact⟨h0,.inr ⟨g,cap,cur,rfl,hg,(hb g rfl).trans hc,h1⟩⟩
theorem yc4 {S:Nat→Prop} {w w':World} {B:Nat} {v:Value} {T:TypeId} {c n:Nat} {cs:List Value} (h:w.ownsRow B T c v n cs) (ht:Turns S w w') (hS:∀k,v.ownBlock=some k→ ¬S k):w'.ownsRow B T c v n cs:=
 ytx h fun k hk=>ht.block k (World.ownsRow.lt h k hk).2 (hS k hk)
theorem owB {w w':World} {B:Nat} {v:Value} {T:TypeId} {c n:Nat} {cs:List Value} (h:w.ownsRow B T c v n cs) (hb:Below w.heap.size w w'):w'.ownsRow B T c v n cs:=yc4 (S:=fun _=>False) h (Turns.of_below hb) (fun _ _=>id)
theorem yan {w w':World} {row:Option Nat} (h:w.grownBy w' row):Turns (fun k=>row=some k) w w':=⟨h.os,h.tape,h.output,h.size,fun k hk hS=>h.block k hk (fun e=>hS e.symm)⟩
theorem ydd {B:Nat} {e:TypeId} {size n:Nat} {w:World} {v:Value} {xs:List Value} (h:w.ownsRow B e size v n xs) {P:Nat} {T:TypeId} {vs:Array Value} (hb:Bk w P T vs) (hT:T≠e):¬v.ownBlock=some P:=by
 intro hE
 obtain⟨_,⟨rfl,_⟩|⟨g,cap,cur,rfl,_,hc,_⟩⟩:=h
 ·simp [Value.ownBlock]at hE
 ·simp [Value.ownBlock]at hE
  subst hE
  have hb':w.heap[g]? =some (.cells vs T):=hb
  rw [hb']at hc
  simp at hc
  exact hT hc.2
theorem owN {w w':World} {B b:Nat} {v:Value} {T U:TypeId} {c n:Nat} {cs:List Value} {vs:Array Value} (h:w.ownsRow B T c v n cs) (ht:Turns (fun j=>j=b) w w') (hb:Bk w b U vs) (hT:U≠T:=by decide):w'.ownsRow B T c v n cs:=yc4 h ht (fun _ hj e=>ydd h hb hT (e▸hj))
theorem owns_lt {B:Nat} {e:TypeId} {size n:Nat} {w:World} {v:Value} {xs:List Value} (h:w.ownsRow B e size v n xs) {k:Nat} (hk:v.ownBlock=some k):k<w.heap.size:=by
 obtain⟨_,⟨rfl,_⟩|⟨g,cap,cur,rfl,_,hc,_⟩⟩:=h
 ·simp [Value.ownBlock]at hk
 ·simp [Value.ownBlock]at hk
  subst hk
  exact(Array.getElem?_eq_some_iff.1 hc).1
theorem yb5 {B B':Nat} {e:TypeId} {size n:Nat} {w:World} {v:Value} {xs:List Value} (h:w.ownsRow B e size v n xs) (hB:B'≤B):w.ownsRow B' e size v n xs:=by
 obtain⟨h0,h1|⟨g,cap,cur,e,hg,h2⟩⟩:=h
 ·exact⟨h0,.inl h1⟩
 ·exact⟨h0,.inr ⟨g,cap,cur,e,Nat.le_trans hB hg,h2⟩⟩
theorem yav {B:Nat} {e:TypeId} {size n:Nat} {w:World} {v:Value} {xs:List Value} (h:w.ownsRow B e size v n xs):∃a cap,v= .slice a n cap:=by
 obtain⟨_,⟨rfl,h0⟩|⟨g,cap,cur,rfl,_⟩⟩:=h
 ·exact⟨none,0,by rw [h0]⟩
 ·exact⟨_,_,rfl⟩
theorem yhf {P:Program} {ops:Array Oper} {rest:List Oper} {o:Oper} {a:Act} {Q:Exit→Act→World→Prop} (w:World) (hgd:o.guard=none) (s x:Operand) (t:TypeId)
  (ho:o.op= .call {callee:= .builtin .append,args:= #[s,x],argTypes:= #[t,t]})
  (base:Nat) (e:TypeId) (i:TypeInfo) (z:Value) (size bytes:Nat) (ht:P.underlying t=some (.slice e)) (hi:P.info? e=some i) (hz:i.zero=some z)
  (hsize:i.size=size) (hby:i.bytes=bytes) (hzs:z.cells.size=size) (hsz:0<size)
  (v:Value) (n:Nat) (xs:List Value) (hs:a.eval s=v) (hown:w.ownsRow base e size v n xs)
  (ad:Addr) (m c:Nat) (news:List Value) (hx:a.eval x= .slice (some ad) m c) (hl:news.length=m*size) (hnews:∀j u,news[j]? =some u→w.cell? (ad.add j)=some u) (h1:∀u∈news,u.oneCell'=true)
  (h63:n+m≤maxLen) (hbytes:(n+m)*bytes≤140737488355328) (hbase:base≤w.heap.size)
  (h:∀v' w',w'.ownsRow base e size v' (n+m) (xs++news)→w.grownBy w' v.ownBlock→yny w v v'→wpList P ops Q rest (a.put o.dst v') w'):wpList P ops Q (o::rest) a w:=
 wpList_plain hgd fun _ hK=>by
  obtain⟨v',w',hr,q1,q2,q3⟩:=yfx (P:=P) w base t o.type e i z size bytes ht hi hz hsize hby hzs hsz v n xs hown ad m c news hl hnews h1 h63 hbytes hbase
  unfold Oper.wp execOp
  simp only [ho,resolve,invoke,builtin,Sem.run_bind,Sem.run_pure,Result.andThen_ok,List.map_toArray,List.map_cons,List.map_nil,hs,hx,hr]
  exact hK _ _ (h v' w' q1 q2 q3)
end Go.Proofs.YtmobiieoecjmdaaGreat

namespace Go.Proofs.YtmobiieoecjmdaaGreat.By
open Go.RowKit Go.Proofs.YtmobiieoecjmdaaGreat
def intAt (l:List UInt8) (i:Nat):UInt8:=l.getD i 0
def intCells (l:List UInt8):List Value:=l.map (fun z=>Value.int .u8 (z.toNat:Int))
def IntsAt (w:World) (b off:Nat) (l:List UInt8):Prop:=b<w.heap.size∧ ∀i,i<l.length→w.cell? ⟨b,off+i,none⟩=some (.int .u8 ((intAt l i).toNat:Int))
def IsI (w:World) (x:Value) (l:List UInt8):Prop:=∃a cap,x= .slice a l.length cap∧l.length≤cap∧cap≤maxLen∧(l= []∨ ∃b off,a=some ⟨b,off,none⟩∧IntsAt w b off l)
theorem IntsAt.below {w w':World} {B b off:Nat} {l:List UInt8} (h:IntsAt w b off l) (hb:Below B w w') (hB:b<B):IntsAt w' b off l:=
 ⟨Nat.lt_of_lt_of_le h.1 hb.size,fun i hi=>(hb.cell hB).trans (h.2 i hi)⟩
theorem IsI.below {w w':World} {x:Value} {l:List UInt8} (h:IsI w x l) (hb:Below w.heap.size w w'):IsI w' x l:=by
 obtain⟨a,cap,rfl,h1,h2,h⟩:=h
 exact⟨a,cap,rfl,h1,h2,h.imp id (fun⟨b,off,e,h⟩=>⟨b,off,e,h.below hb h.1⟩)⟩
theorem yic (w:World) (row:Option Nat):w.grownBy w row:=⟨rfl,rfl,rfl,Nat.le_refl _,fun _ _ _=>rfl⟩
def OwnI (B:Nat) (w:World) (x:Value) (l:List UInt8):Prop:=∃a cap,x= .slice a l.length cap∧l.length≤cap∧cap≤maxLen∧(l= []∨ ∃g,a=some ⟨g,0,none⟩∧B≤g∧(∀j,j<l.length→w.frozen? ⟨g,j,none⟩=false)∧IntsAt w g 0 l)
theorem OwnI.nil (B:Nat) (w:World):OwnI B w (.slice none 0 0) []:=⟨none,0,rfl,Nat.le_refl _,Nat.zero_le _,.inl rfl⟩
theorem OwnI.isI {B:Nat} {w:World} {x:Value} {l:List UInt8} (h:OwnI B w x l):IsI w x l:=by
 obtain⟨a,cap,rfl,h1,h2,h⟩:=h
 exact⟨a,cap,rfl,h1,h2,h.imp id (fun⟨g,e,_,_,hr⟩=>⟨g,0,e,hr⟩)⟩
theorem OwnI.mono {B B':Nat} {w:World} {x:Value} {l:List UInt8} (h:OwnI B w x l) (hb:B'≤B):OwnI B' w x l:=by
 obtain⟨a,cap,rfl,h1,h2,h⟩:=h
 exact⟨a,cap,rfl,h1,h2,h.imp id (fun⟨g,e,hg,hr⟩=>⟨g,e,Nat.le_trans hb hg,hr⟩)⟩
theorem OwnI.of_row {B:Nat} {w:World} {x:Value} {l:List UInt8} (h:w.ownsRow B 5 1 x l.length (intCells l)):OwnI B w x l:=by
 obtain⟨hl,⟨rfl,h0⟩|⟨g,cap,cur,rfl,hg,hc,h1,h2,h3,h4⟩⟩:=h
 ·exact⟨none,0,by rw [h0],by omega,by unfold maxLen;omega,.inl (List.eq_nil_of_length_eq_zero h0)⟩
 ·refine⟨_,cap,rfl,h1,h2,.inr ⟨g,rfl,hg,fun j hj=> ?_,(Array.getElem?_eq_some_iff.1 hc).1,fun i hi=> ?_⟩⟩
  ·have hj2:j<cur.size:=by omega
   simp [World.frozen?,hc]
  ·have e1:w.cell? ⟨g,i,none⟩=(intCells l)[i]? :=by
    rw [←h4,List.getElem?_take_of_lt (by omega)]
    simp [World.cell?,hc]
   rw [Nat.zero_add,e1]
   simp [intCells,intAt,hi]
def RowI (w:World) (g:Nat) (l:List UInt8):Prop:=g<w.heap.size∧ ∀j,j<l.length→w.cell? ⟨g,j,none⟩=some (.int .u8 ((intAt l j).toNat:Int))∧w.frozen? ⟨g,j,none⟩=false
def FillI (w:World) (g n:Nat) (l:List UInt8) (k:Nat):Prop:=g<w.heap.size∧(∀j,j<n→(w.cell? ⟨g,j,none⟩).isSome=true∧w.frozen? ⟨g,j,none⟩=false)∧ ∀i,i<k→w.cell? ⟨g,i,none⟩=some (.int .u8 ((intAt l i).toNat:Int))
theorem FillI.row {w:World} {g:Nat} {l:List UInt8} (h:FillI w g l.length l l.length):RowI w g l:=⟨h.1,fun j hj=>⟨h.2.2 j hj,(h.2.1 j hj).2⟩⟩
theorem FillI.put {w:World} {g n k:Nat} {l:List UInt8} (h:FillI w g n l k) (hk:k<n):FillI (w.setCell ⟨g,k,none⟩ (.int .u8 ((intAt l k).toNat:Int))) g n l (k+1):=by
 have e1:w.setCell ⟨g,k,none⟩ (.int .u8 ((intAt l k).toNat:Int))=w.setCells g k [.int .u8 ((intAt l k).toNat:Int)]:=rfl
 have hsame:∀j,j≠k→(w.setCell ⟨g,k,none⟩ (.int .u8 ((intAt l k).toNat:Int))).cell? ⟨g,j,none⟩=w.cell? ⟨g,j,none⟩:=fun j hj=>by
  rw [e1]
  exact World.cell?_setCells_out g _ k w ⟨g,j,none⟩ (fun _ _=>by simp;omega)
 have hat:(w.setCell ⟨g,k,none⟩ (.int .u8 ((intAt l k).toNat:Int))).cell? ⟨g,k,none⟩=some (.int .u8 ((intAt l k).toNat:Int)):=by
  rw [e1]
  have h0:=World.cell?_setCells_in g [.int .u8 ((intAt l k).toNat:Int)] k w (fun j hj=>by
   obtain rfl:j=0:=by simpa using hj
   exact(h.2.1 k hk).1) 0 (by simp)
  simpa using h0
 refine⟨by simpa using h.1,fun j hj=> ?_,fun i hi=> ?_⟩
 ·refine⟨?_,?_⟩
  ·by_cases e:j=k
   ·subst e;rw [hat];rfl
   ·rw [hsame j e];exact(h.2.1 j hj).1
  ·rw [e1,World.frozen?_setCells];exact(h.2.1 j hj).2
 ·by_cases e:i=k
  ·subst e;exact hat
  ·rw [hsame i e];exact h.2.2 i (by omega)
theorem FillI.made {w1:World} {B:Nat} {z:List Value} {n:Nat} {l:List UInt8} (h:w1.ownsRow B 5 1 (.slice (some ⟨B,0,none⟩) n n) n z):FillI w1 B n l 0:=by
 obtain⟨hl,h|⟨g,cap,cur,e,hg,hc,h1,h2,h3,h4⟩⟩:=h
 ·simp at h
 ·simp at e
  obtain⟨rfl,rfl⟩:=e
  have hlt:B<w1.heap.size:=(Array.getElem?_eq_some_iff.1 hc).1
  refine⟨hlt,fun j hj=> ?_,fun i hi=>by omega⟩
  have hj2:j<cur.size:=by omega
  simp [World.cell?,World.frozen?,hc,hj2]
theorem info5:(Tryz.prog.info? 5).map (fun i=>(i.zero,i.size,i.bytes))=some (some (.int .u8 0),1,1):=by kernel_rfl
end Go.Proofs.YtmobiieoecjmdaaGreat.By

