/- MOkM, TPsC, TPsD, TPtC, PLib, NBytes, VToB, MBy, MByI, MAskI, MByP -/
import Derived.Test.YtmobiieoecjmdaaGreatExactDifferG01
import Derived.Test.YtmobiieoecjmdaaGreatExactDifferG11
import Derived.Test.YtmobiieoecjmdaaGreatExactDifferLMOkS
import Derived.Test.YtmobiieoecjmdaaGreatExactDifferG03
import Derived.Test.YtmobiieoecjmdaaGreatExactDifferG04
import Derived.Test.YtmobiieoecjmdaaGreatExactDifferG15
import Derived.Test.YtmobiieoecjmdaaGreatExactDifferG06
import Derived.Laws.OwnMore
import Derived.WalkSmall
import Derived.Deep.Cut
import Derived.Deep.CutBlock
import Derived.Deep.RegionHeld3
import Derived.ArgAppend
import Derived.Lib.UnsafeStr
import Derived.OwnWalk
import Derived.Test.YtmobiieoecjmdaaGreatExactDifferLMOpI
/- The program's ModelOk. -/
namespace Go.Proofs.YtmobiieoecjmdaaGreat
open Go.RowKit
theorem ydk {p:Prop} (h:p):Hid p:=h
theorem ok_parts (m:Md):m.ok=((decide (1≤m.n)&&decide (m.n≤4))&&((decide (0≤m.s)&&decide (m.s≤65535))&&((decide (0≤m.z)&&decide (m.z≤950))&&((decide ((m.i.length:Int)=m.n)&&m.okI)&&((decide (1≤m.h.length∧m.h.length≤4)&&m.okH)&&(decide (m.e.length≤6)&&m.okE)))))):=by
 unfold Md.ok
 rw [Bool.eq_iff_iff]
 simp only [Bool.and_eq_true,decide_eq_true_eq]
 unfold Md.hd
 constructor
 ·rintro ⟨⟨⟨⟨h1,h2,h3,h4,h5,h6,h7,h8,h9,h10⟩,hi⟩,hh⟩,he⟩
  exact⟨⟨h1,h2⟩,⟨h3,h4⟩,⟨h9,h10⟩,⟨h5,hi⟩,⟨⟨h6,h7⟩,hh⟩,h8,he⟩
 ·rintro ⟨⟨h1,h2⟩,⟨h3,h4⟩,⟨h9,h10⟩,⟨h5,hi⟩,⟨⟨h6,h7⟩,hh⟩,h8,he⟩
  exact⟨⟨⟨⟨h1,h2,h3,h4,h5,h6,h7,h8,h9,h10⟩,hi⟩,hh⟩,he⟩
set_option maxRecDepth 100000 in
set_option maxHeartbeats 8000000 in
theorem iModM (x:Value) (m:Md) (w:World) (hs:SmallM m) (h:IsM w x m):
  Calls Tryz.prog 110 #[x] w fun e w'=>e= .returned (.bool m.ok)∧Below w.heap.size w w':=by
 have HX:Hid (IsM w x m):=h
 obtain⟨vi,vh,vs,rfl,⟨ai,ci,rfl,hi1,hi2,hi3⟩,⟨ah,ch,rfl,hh1,hh2,hh3⟩,⟨ae,ce,rfl,he1,he2,he3⟩⟩:=h
 have hi0:m.i.length≤1048576:=hs.i
 have hh0:m.h.length≤1048576:=hs.h
 have he0:m.e.length≤1048576:=hs.e
 have HS:Hid (SmallM m):=hs
 clear hs hi1 hi2 hh1 hh2 he1 he2
 clear hi3 hh3 he3 hi0 hh0 he0
 obtain⟨W0,hW0⟩:∃W0,w.alloc (.cells #[.int .i64 m.n,.int .i64 m.s,.slice ai m.i.length ci,.slice ah m.h.length ch,.slice ae m.e.length ce,.int .i64 m.z] 36)=W0:=⟨_,rfl⟩
 have HB0:=hdq (beA hW0)
 have HP0:=hdq (bkA hW0)
 obtain⟨p0,p1,p2,p3,p4,p5⟩:=c6_6 HP0.out
 have HOK:=ydk (ok_parts m)
 generalize m.ok=okv at HOK⊢
 go_enter Tryz.func110,Tryz.ntmps110
 go_wp2_with fail
 clear hW0
 refine(ya9 _ _ _ _).mono ?_
 rintro e w2 ⟨rfl,hw⟩
 have hw':=hw.symm
 clear hw
 subst hw'
 cases hA0:(decide (1≤m.n)&&decide (m.n≤4))
 case false=>
  have hno:okv=false:=by rw [HOK.out,hA0];simp
  subst hno
  clear hA0
  go_wp2
  go_ret
  exact⟨rfl,HB0.out⟩
 have HA0:=ydk hA0
 clear hA0
 go_wp2_with fail
 refine(ya9 _ _ _ _).mono ?_
 rintro e w2 ⟨rfl,hw⟩
 have hw':=hw.symm
 clear hw
 subst hw'
 cases hA1:(decide (0≤m.s)&&decide (m.s≤65535))
 case false=>
  have hno:okv=false:=by rw [HOK.out,hA1];simp
  subst hno
  clear hA1
  go_wp2
  go_ret
  exact⟨rfl,HB0.out⟩
 have HA1:=ydk hA1
 clear hA1
 go_wp2_with fail
 refine(ya9 _ _ _ _).mono ?_
 rintro e w2 ⟨rfl,hw⟩
 have hw':=hw.symm
 clear hw
 subst hw'
 cases hA2:(decide (0≤m.z)&&decide (m.z≤950))
 case false=>
  have hno:okv=false:=by rw [HOK.out,hA2];simp
  subst hno
  clear hA2
  go_wp2
  go_ret
  exact⟨rfl,HB0.out⟩
 have HA2:=ydk hA2
 clear hA2
 go_wp2_with fail
 refine(ypv _ m _ HS.out (HX.out.below HB0.out)).mono ?_
 rintro e w3 ⟨rfl,hb⟩
 have HB3:=ydk (trm HB0.out hb)
 have HP3:=ydk (HP0.out.below hb)
 clear hb HB0 HP0 p0 p1 p2 p3 p4 p5
 obtain⟨p0,p1,p2,p3,p4,p5⟩:=c6_6 HP3.out
 cases hA3:(decide ((m.i.length:Int)=m.n)&&m.okI)
 case false=>
  have hno:okv=false:=by rw [HOK.out,hA3];simp
  subst hno
  clear hA3
  go_wp2
  go_ret
  exact⟨rfl,HB3.out⟩
 have HA3:=ydk hA3
 clear hA3
 go_wp2_with fail
 refine(yiu _ m _ HS.out (HX.out.below HB3.out)).mono ?_
 rintro e w4 ⟨rfl,hb⟩
 have HB4:=ydk (trm HB3.out hb)
 have HP4:=ydk (HP3.out.below hb)
 clear hb HB3 HP3 p0 p1 p2 p3 p4 p5
 obtain⟨p0,p1,p2,p3,p4,p5⟩:=c6_6 HP4.out
 cases hA4:(decide (1≤m.h.length∧m.h.length≤4)&&m.okH)
 case false=>
  have hno:okv=false:=by rw [HOK.out,hA4];simp
  subst hno
  clear hA4
  go_wp2
  go_ret
  exact⟨rfl,HB4.out⟩
 have HA4:=ydk hA4
 clear hA4
 go_wp2_with fail
 refine(ymb _ m _ HS.out (HX.out.below HB4.out)).mono ?_
 rintro e w5 ⟨rfl,hb⟩
 have HB5:=ydk (trm HB4.out hb)
 have HP5:=ydk (HP4.out.below hb)
 clear hb HB4 HP4 p0 p1 p2 p3 p4 p5
 have hy:okv=(decide (m.e.length≤6)&&m.okE):=by rw [HOK.out,HA0.out,HA1.out,HA2.out,HA3.out,HA4.out];simp
 subst hy
 clear HOK
 go_wp2
 go_ret
 exact⟨rfl,HB5.out⟩
theorem yao {p:Prop} (h:p):Hid p:=h
def putN (w:World) (g m:Nat) (U:Nat→Value):Nat→World
 |0=>w
 |N+1=>(putN w g m U N).setCell ⟨g,m+N,none⟩ (U N)
theorem yfm (w:World) (g m:Nat) (U:Nat→Value):∀N,Turns (fun k=>k=g) w (putN w g m U N)
 |0=>Turns.refl _ _
 |N+1=>(yfm w g m U N).trans (ya1 _ _ _ _)
theorem OwnD.fillN {F:Nat→Prop} {w:World} {g n cap c m:Nat} {f:Nat→Dat} {zs:List Value} {G:Nat→Nat→Prop} {U:Nat→Value} (h:OwnD w F (.slice (some ⟨g,0,none⟩) n cap) (.row c n (toC f zs m))) (hF:F g):
  ∀N,m+N≤n*c→(∀i,i<N→OwnD w (G i) (U i) (f (m+i)))→(∀i,i<N→ ∀k,G i k→ ¬F k)→(∀i j,i<N→j<N→i≠j→ ∀k,G i k→ ¬G j k)→
   OwnD (putN w g m U N) (fun k=>F k∨ ∃i,i<N∧G i k) (.slice (some ⟨g,0,none⟩) n cap) (.row c n (toC f zs (m+N)))
 |0,_,_,_,_=>h.mono (fun _ hk=> .inl hk)
 |N+1,hm,hU,hGF,hGG=>by
  have q:=OwnD.fillN h hF N (by omega) (fun i hi=>hU i (by omega)) (fun i hi=>hGF i (by omega)) (fun i j hi hj=>hGG i j (by omega) (by omega))
  have hN:=(hU N (by omega)).turns (yfm w g m U N) (fun k hk e=>hGF N (by omega) k hk (e▸hF))
  refine(q.fill (by omega) hN (fun k hk hk'=> ?_)).mono (fun k hk=> ?_)
  ·rcases hk' with hk'|⟨i,hi,hk'⟩
   ·exact hGF N (by omega) k hk hk'
   ·exact hGG N i (by omega) (by omega) (by omega) k hk hk'
  ·rcases hk with (hk|⟨i,hi,hk⟩)|hk
   ·exact .inl hk
   ·exact .inr ⟨i,by omega,hk⟩
   ·exact .inr ⟨N,by omega,hk⟩
def PastF (F:Nat→Prop) (w:World) (y:Value) (p:Ps):Prop:=
 ∃(A7 A10 A11:Nat→Prop) (u7 u10 u11:Value),y= .agg #[.int .i64 p.e.t,.int .i64 p.e.s,.int .i64 p.e.q,.int .i64 p.e.d,.int .i64 p.e.k,.int .i64 p.e.v,.int .i64 p.e.g,u7,.int .i64 p.b.q,.int .i64 p.b.d,u10,u11]∧OwnD w A7 u7 (yax p.b.r)∧OwnD w A10 u10 (evsD p.s)∧OwnD w A11 u11 (emsD p.x)∧(∀k,A7 k→F k∧ ¬A10 k∧ ¬A11 k)∧(∀k,A10 k→F k∧ ¬A11 k)∧(∀k,A11 k→F k)
set_option maxHeartbeats 8000000 in
theorem yp0 (x:Value) (p:Ps) (w:World) (hw:p.wt≤1048576) (h:IsPast w x p):
  Calls Tryz.prog 191 #[x] w fun e w'=>∃y,e= .returned y∧Below w.heap.size w w'∧PastF (fun k=>w.heap.size≤k∧k<w'.heap.size) w' y p:=by
 obtain⟨u7,u10,u11,rfl,h7,h10,h11⟩:=h
 have HS:Hid (p.wt≤1048576):=hw
 have H7:=yao h7
 have H10:=yao h10
 have H11:=yao h11
 clear hw h7 h10 h11
 obtain⟨V0,hV0⟩:∃V0,((w.alloc (.cells #[.int .i64 p.e.t,.int .i64 p.e.s,.int .i64 p.e.q,.int .i64 p.e.d,.int .i64 p.e.k,.int .i64 p.e.v,.int .i64 p.e.g,u7,.int .i64 p.b.q,.int .i64 p.b.d,u10,u11] 230)).alloc (.cells #[.int .i64 0,.int .i64 0,.int .i64 0,.int .i64 0,.int .i64 0,.int .i64 0,.int .i64 0,.slice none 0 0,.int .i64 0,.int .i64 0,.slice none 0 0,.slice none 0 0] 115)).alloc (.cells #[.int .i64 0,.int .i64 0,.int .i64 0,.int .i64 0,.int .i64 0,.int .i64 0,.int .i64 0,.slice none 0 0,.int .i64 0,.int .i64 0,.slice none 0 0,.slice none 0 0] 115)=V0:=⟨_,rfl⟩
 have HX0:Hid (Below w.heap.size w V0):=by rw [←hV0];exact(((Below.refl _ w).alloc (Nat.le_refl _) _).alloc (by simp) _).alloc (by simp;omega) _
 have hs0:w.heap.size+3≤V0.heap.size:=by rw [←hV0];simp
 have HP0:Hid (Bk V0 w.heap.size 230 #[.int .i64 p.e.t,.int .i64 p.e.s,.int .i64 p.e.q,.int .i64 p.e.d,.int .i64 p.e.k,.int .i64 p.e.v,.int .i64 p.e.g,u7,.int .i64 p.b.q,.int .i64 p.b.d,u10,u11]):=by rw [←hV0];exact((Bk.new w _ _).alloc _).alloc _
 have HR0:Hid (Bk V0 (w.heap.size+1) 115 #[.int .i64 0,.int .i64 0,.int .i64 0,.int .i64 0,.int .i64 0,.int .i64 0,.int .i64 0,.slice none 0 0,.int .i64 0,.int .i64 0,.slice none 0 0,.slice none 0 0]):=by rw [←hV0];exact(Bk.newAt (by simp) _ _).alloc _
 have HQ0:Hid (Bk V0 (w.heap.size+1+1) 115 #[.int .i64 0,.int .i64 0,.int .i64 0,.int .i64 0,.int .i64 0,.int .i64 0,.int .i64 0,.slice none 0 0,.int .i64 0,.int .i64 0,.slice none 0 0,.slice none 0 0]):=by rw [←hV0];exact Bk.newAt (by simp) _ _
 have HW0:=yao hV0
 clear hV0
 go_enter Tryz.func191,Tryz.ntmps191
 have p0:=HP0.out.cell (i:=0) rfl
 have p1:=HP0.out.cell (i:=1) rfl
 have p2:=HP0.out.cell (i:=2) rfl
 have p3:=HP0.out.cell (i:=3) rfl
 have p4:=HP0.out.cell (i:=4) rfl
 have p5:=HP0.out.cell (i:=5) rfl
 have p6:=HP0.out.cell (i:=6) rfl
 go_wp2_with fail
 rw [HW0.out]
 clear p0 p1 p2 p3 p4 p5 p6
 refine(yg0 _ _ _ _ _ _ _ _).mono ?_
 rintro e w1 ⟨rfl,hb⟩
 have hz0:V0.heap.size≤w1.heap.size:=hb.size
 have HXb0:=yao (HX0.out.trans (hb.mono (by omega)))
 have HPb0:=yao (HP0.out.below hb)
 have HRb0:=yao (HR0.out.below hb)
 have HQb0:=yao (HQ0.out.below hb)
 clear hb
 obtain⟨V1,hV1⟩:∃V1,(((((((w1.setCell ⟨(w.heap.size+1+1),0,none⟩ (.int .i64 p.e.t)).setCell ⟨(w.heap.size+1+1),1,none⟩ (.int .i64 p.e.s)).setCell ⟨(w.heap.size+1+1),2,none⟩ (.int .i64 p.e.q)).setCell ⟨(w.heap.size+1+1),3,none⟩ (.int .i64 p.e.d)).setCell ⟨(w.heap.size+1+1),4,none⟩ (.int .i64 p.e.k)).setCell ⟨(w.heap.size+1+1),5,none⟩ (.int .i64 p.e.v)).setCell ⟨(w.heap.size+1+1),6,none⟩ (.int .i64 p.e.g))=V1:=⟨_,rfl⟩
 have qq0:=HQb0.out.cell (i:=0) rfl
 have qq1:=HQb0.out.cell (i:=1) rfl
 have qq2:=HQb0.out.cell (i:=2) rfl
 have qq3:=HQb0.out.cell (i:=3) rfl
 have qq4:=HQb0.out.cell (i:=4) rfl
 have qq5:=HQb0.out.cell (i:=5) rfl
 have qq6:=HQb0.out.cell (i:=6) rfl
 have qf0:=HQb0.out.free
 have HQ1:Hid (Bk V1 (w.heap.size+1+1) 115 #[.int .i64 p.e.t,.int .i64 p.e.s,.int .i64 p.e.q,.int .i64 p.e.d,.int .i64 p.e.k,.int .i64 p.e.v,.int .i64 p.e.g,.slice none 0 0,.int .i64 0,.int .i64 0,.slice none 0 0,.slice none 0 0]):=by rw [←hV1];exact((((((HQb0.out.put 0 _).put 1 _).put 2 _).put 3 _).put 4 _).put 5 _).put 6 _
 have HP1:Hid (Bk V1 w.heap.size 230 #[.int .i64 p.e.t,.int .i64 p.e.s,.int .i64 p.e.q,.int .i64 p.e.d,.int .i64 p.e.k,.int .i64 p.e.v,.int .i64 p.e.g,u7,.int .i64 p.b.q,.int .i64 p.b.d,u10,u11]):=by rw [←hV1];exact(((((((HPb0.out.other 0 _ (by omega)).other 1 _ (by omega)).other 2 _ (by omega)).other 3 _ (by omega)).other 4 _ (by omega)).other 5 _ (by omega)).other 6 _ (by omega))
 have HR1:Hid (Bk V1 (w.heap.size+1) 115 #[.int .i64 0,.int .i64 0,.int .i64 0,.int .i64 0,.int .i64 0,.int .i64 0,.int .i64 0,.slice none 0 0,.int .i64 0,.int .i64 0,.slice none 0 0,.slice none 0 0]):=by rw [←hV1];exact(((((((HRb0.out.other 0 _ (by omega)).other 1 _ (by omega)).other 2 _ (by omega)).other 3 _ (by omega)).other 4 _ (by omega)).other 5 _ (by omega)).other 6 _ (by omega))
 have HT1:Hid (Turns (fun k=>k=(w.heap.size+1+1)) w1 V1):=by rw [←hV1];exact((((((ya1 _ _ 0 _).trans (ya1 _ _ 1 _)).trans (ya1 _ _ 2 _)).trans (ya1 _ _ 3 _)).trans (ya1 _ _ 4 _)).trans (ya1 _ _ 5 _)).trans (ya1 _ _ 6 _)
 have hy1:w1.heap.size≤V1.heap.size:=HT1.out.size
 have HX1:=yao (HXb0.out.trans (HT1.out.to_below (fun k e=>by omega) (by omega)))
 clear HPb0 HRb0 HQb0 HXb0 HP0 HR0 HQ0 HX0
 have p7:=HP1.out.cell (i:=7) rfl
 have p8:=HP1.out.cell (i:=8) rfl
 have p9:=HP1.out.cell (i:=9) rfl
 go_wp2_with fail
 clear qq0 qq1 qq2 qq3 qq4 qq5 qq6 qf0 hV1 p7 p8 p9
 refine(yhz _ p.b _ (by have:=HS.out;unfold Ps.wt at this;simp only [ych,yaz,yam]at this;omega) ⟨_,rfl,(H7.out.under HX1.out).isI⟩).mono ?_
 rintro e w2 ⟨y7,rfl,hb,vr7,rfl,ho7⟩
 have HO7:=yao ho7.own
 obtain⟨_,a7,c7,rfl,_⟩:=ho7
 have hz1:V1.heap.size≤w2.heap.size:=hb.size
 have HXb1:=yao (HX1.out.trans (hb.mono (by omega)))
 have HPb1:=yao (HP1.out.below hb)
 have HRb1:=yao (HR1.out.below hb)
 have HQb1:=yao (HQ1.out.below hb)
 clear hb
 obtain⟨V2,hV2⟩:∃V2,(((w2.setCell ⟨(w.heap.size+1+1),7,none⟩ (.slice a7 p.b.r.length c7)).setCell ⟨(w.heap.size+1+1),8,none⟩ (.int .i64 p.b.q)).setCell ⟨(w.heap.size+1+1),9,none⟩ (.int .i64 p.b.d))=V2:=⟨_,rfl⟩
 have qq7:=HQb1.out.cell (i:=7) rfl
 have qq8:=HQb1.out.cell (i:=8) rfl
 have qq9:=HQb1.out.cell (i:=9) rfl
 have qf1:=HQb1.out.free
 have HQ2:Hid (Bk V2 (w.heap.size+1+1) 115 #[.int .i64 p.e.t,.int .i64 p.e.s,.int .i64 p.e.q,.int .i64 p.e.d,.int .i64 p.e.k,.int .i64 p.e.v,.int .i64 p.e.g,.slice a7 p.b.r.length c7,.int .i64 p.b.q,.int .i64 p.b.d,.slice none 0 0,.slice none 0 0]):=by rw [←hV2];exact((HQb1.out.put 7 _).put 8 _).put 9 _
 have HP2:Hid (Bk V2 w.heap.size 230 #[.int .i64 p.e.t,.int .i64 p.e.s,.int .i64 p.e.q,.int .i64 p.e.d,.int .i64 p.e.k,.int .i64 p.e.v,.int .i64 p.e.g,u7,.int .i64 p.b.q,.int .i64 p.b.d,u10,u11]):=by rw [←hV2];exact(((HPb1.out.other 7 _ (by omega)).other 8 _ (by omega)).other 9 _ (by omega))
 have HR2:Hid (Bk V2 (w.heap.size+1) 115 #[.int .i64 0,.int .i64 0,.int .i64 0,.int .i64 0,.int .i64 0,.int .i64 0,.int .i64 0,.slice none 0 0,.int .i64 0,.int .i64 0,.slice none 0 0,.slice none 0 0]):=by rw [←hV2];exact(((HRb1.out.other 7 _ (by omega)).other 8 _ (by omega)).other 9 _ (by omega))
 have HT2:Hid (Turns (fun k=>k=(w.heap.size+1+1)) w2 V2):=by rw [←hV2];exact((ya1 _ _ 7 _).trans (ya1 _ _ 8 _)).trans (ya1 _ _ 9 _)
 have hy2:w2.heap.size≤V2.heap.size:=HT2.out.size
 have HX2:=yao (HXb1.out.trans (HT2.out.to_below (fun k e=>by omega) (by omega)))
 replace HO7:=yao (HO7.out.turns HT2.out (fun k e=>by omega))
 clear HPb1 HRb1 HQb1 HXb1 HP1 HR1 HQ1 HX1
 have p10:=HP2.out.cell (i:=10) rfl
 go_wp2_with fail
 clear qq7 qq8 qq9 qf1 hV2 p10
 refine(yqn _ p.s _ (by have:=HS.out;unfold Ps.wt at this;simp only [ych,yaz,yam]at this;omega) (H10.out.under HX2.out)).mono ?_
 rintro e w3 ⟨y10,rfl,hb,ho10⟩
 have HO10:=yao ho10
 obtain⟨a10,c10,rfl,_⟩:=OwnD.parts (c:=7) (n:=p.s.length) ho10
 clear ho10
 have hz2:V2.heap.size≤w3.heap.size:=hb.size
 have HXb2:=yao (HX2.out.trans (hb.mono (by omega)))
 have HPb2:=yao (HP2.out.below hb)
 have HRb2:=yao (HR2.out.below hb)
 have HQb2:=yao (HQ2.out.below hb)
 replace HO7:=yao (HO7.out.under hb)
 clear hb
 obtain⟨V3,hV3⟩:∃V3,(w3.setCell ⟨(w.heap.size+1+1),10,none⟩ (.slice a10 p.s.length c10))=V3:=⟨_,rfl⟩
 have qq10:=HQb2.out.cell (i:=10) rfl
 have qf2:=HQb2.out.free
 have HQ3:Hid (Bk V3 (w.heap.size+1+1) 115 #[.int .i64 p.e.t,.int .i64 p.e.s,.int .i64 p.e.q,.int .i64 p.e.d,.int .i64 p.e.k,.int .i64 p.e.v,.int .i64 p.e.g,.slice a7 p.b.r.length c7,.int .i64 p.b.q,.int .i64 p.b.d,.slice a10 p.s.length c10,.slice none 0 0]):=by rw [←hV3];exact HQb2.out.put 10 _
 have HP3:Hid (Bk V3 w.heap.size 230 #[.int .i64 p.e.t,.int .i64 p.e.s,.int .i64 p.e.q,.int .i64 p.e.d,.int .i64 p.e.k,.int .i64 p.e.v,.int .i64 p.e.g,u7,.int .i64 p.b.q,.int .i64 p.b.d,u10,u11]):=by rw [←hV3];exact(HPb2.out.other 10 _ (by omega))
 have HR3:Hid (Bk V3 (w.heap.size+1) 115 #[.int .i64 0,.int .i64 0,.int .i64 0,.int .i64 0,.int .i64 0,.int .i64 0,.int .i64 0,.slice none 0 0,.int .i64 0,.int .i64 0,.slice none 0 0,.slice none 0 0]):=by rw [←hV3];exact(HRb2.out.other 10 _ (by omega))
 have HT3:Hid (Turns (fun k=>k=(w.heap.size+1+1)) w3 V3):=by rw [←hV3];exact ya1 _ _ 10 _
 have hy3:w3.heap.size≤V3.heap.size:=HT3.out.size
 have HX3:=yao (HXb2.out.trans (HT3.out.to_below (fun k e=>by omega) (by omega)))
 replace HO7:=yao (HO7.out.turns HT3.out (fun k e=>by omega))
 replace HO10:=yao (HO10.out.turns HT3.out (fun k e=>by omega))
 clear HPb2 HRb2 HQb2 HXb2 HP2 HR2 HQ2 HX2
 have p11:=HP3.out.cell (i:=11) rfl
 go_wp2_with fail
 clear qq10 qf2 hV3 p11
 refine(to_ems _ p.x _ (by have:=HS.out;unfold Ps.wt at this;simp only [ych,yaz,yam]at this;omega) (H11.out.under HX3.out)).mono ?_
 rintro e w4 ⟨y11,rfl,hb,ho11⟩
 have HO11:=yao ho11
 obtain⟨a11,c11,rfl,_⟩:=OwnD.parts (c:=3) (n:=p.x.length) ho11
 clear ho11
 have hz3:V3.heap.size≤w4.heap.size:=hb.size
 have HXb3:=yao (HX3.out.trans (hb.mono (by omega)))
 have HPb3:=yao (HP3.out.below hb)
 have HRb3:=yao (HR3.out.below hb)
 have HQb3:=yao (HQ3.out.below hb)
 replace HO7:=yao (HO7.out.under hb)
 replace HO10:=yao (HO10.out.under hb)
 clear hb
 obtain⟨V4,hV4⟩:∃V4,(w4.setCell ⟨(w.heap.size+1+1),11,none⟩ (.slice a11 p.x.length c11))=V4:=⟨_,rfl⟩
 have qq11:=HQb3.out.cell (i:=11) rfl
 have qf3:=HQb3.out.free
 have HQ4:Hid (Bk V4 (w.heap.size+1+1) 115 #[.int .i64 p.e.t,.int .i64 p.e.s,.int .i64 p.e.q,.int .i64 p.e.d,.int .i64 p.e.k,.int .i64 p.e.v,.int .i64 p.e.g,.slice a7 p.b.r.length c7,.int .i64 p.b.q,.int .i64 p.b.d,.slice a10 p.s.length c10,.slice a11 p.x.length c11]):=by rw [←hV4];exact HQb3.out.put 11 _
 have HP4:Hid (Bk V4 w.heap.size 230 #[.int .i64 p.e.t,.int .i64 p.e.s,.int .i64 p.e.q,.int .i64 p.e.d,.int .i64 p.e.k,.int .i64 p.e.v,.int .i64 p.e.g,u7,.int .i64 p.b.q,.int .i64 p.b.d,u10,u11]):=by rw [←hV4];exact(HPb3.out.other 11 _ (by omega))
 have HR4:Hid (Bk V4 (w.heap.size+1) 115 #[.int .i64 0,.int .i64 0,.int .i64 0,.int .i64 0,.int .i64 0,.int .i64 0,.int .i64 0,.slice none 0 0,.int .i64 0,.int .i64 0,.slice none 0 0,.slice none 0 0]):=by rw [←hV4];exact(HRb3.out.other 11 _ (by omega))
 have HT4:Hid (Turns (fun k=>k=(w.heap.size+1+1)) w4 V4):=by rw [←hV4];exact ya1 _ _ 11 _
 have hy4:w4.heap.size≤V4.heap.size:=HT4.out.size
 have HX4:=yao (HXb3.out.trans (HT4.out.to_below (fun k e=>by omega) (by omega)))
 replace HO7:=yao (HO7.out.turns HT4.out (fun k e=>by omega))
 replace HO10:=yao (HO10.out.turns HT4.out (fun k e=>by omega))
 replace HO11:=yao (HO11.out.turns HT4.out (fun k e=>by omega))
 clear HPb3 HRb3 HQb3 HXb3 HP3 HR3 HQ3 HX3
 have oo0:=HQ4.out.cell (i:=0) rfl
 have rr0:=HR4.out.cell (i:=0) rfl
 have oo1:=HQ4.out.cell (i:=1) rfl
 have rr1:=HR4.out.cell (i:=1) rfl
 have oo2:=HQ4.out.cell (i:=2) rfl
 have rr2:=HR4.out.cell (i:=2) rfl
 have oo3:=HQ4.out.cell (i:=3) rfl
 have rr3:=HR4.out.cell (i:=3) rfl
 have oo4:=HQ4.out.cell (i:=4) rfl
 have rr4:=HR4.out.cell (i:=4) rfl
 have oo5:=HQ4.out.cell (i:=5) rfl
 have rr5:=HR4.out.cell (i:=5) rfl
 have oo6:=HQ4.out.cell (i:=6) rfl
 have rr6:=HR4.out.cell (i:=6) rfl
 have oo7:=HQ4.out.cell (i:=7) rfl
 have rr7:=HR4.out.cell (i:=7) rfl
 have oo8:=HQ4.out.cell (i:=8) rfl
 have rr8:=HR4.out.cell (i:=8) rfl
 have oo9:=HQ4.out.cell (i:=9) rfl
 have rr9:=HR4.out.cell (i:=9) rfl
 have oo10:=HQ4.out.cell (i:=10) rfl
 have rr10:=HR4.out.cell (i:=10) rfl
 have oo11:=HQ4.out.cell (i:=11) rfl
 have rr11:=HR4.out.cell (i:=11) rfl
 have rf:=HR4.out.free
 go_wp2
 clear rf oo0 rr0 oo1 rr1 oo2 rr2 oo3 rr3 oo4 rr4 oo5 rr5 oo6 rr6 oo7 rr7 oo8 rr8 oo9 rr9 oo10 rr10 oo11 rr11 qq11 qf3 hV4
 have HY0:=HR4.out
 have HU0:Turns (fun k=>k=(w.heap.size+1)) V4 V4:=Turns.refl _ _
 obtain⟨Y1,hY1⟩:∃Y1,V4.setCell ⟨(w.heap.size+1),0,none⟩ (.int .i64 p.e.t)=Y1:=⟨_,rfl⟩
 have HY1:Bk Y1 (w.heap.size+1) 115 #[.int .i64 p.e.t,.int .i64 0,.int .i64 0,.int .i64 0,.int .i64 0,.int .i64 0,.int .i64 0,.slice none 0 0,.int .i64 0,.int .i64 0,.slice none 0 0,.slice none 0 0]:=hY1▸HY0.put 0 _
 have HU1:Turns (fun k=>k=(w.heap.size+1)) V4 Y1:=HU0.trans (hY1▸ya1 _ _ 0 _)
 clear HY0 HU0
 obtain⟨Y2,hY2⟩:∃Y2,Y1.setCell ⟨(w.heap.size+1),1,none⟩ (.int .i64 p.e.s)=Y2:=⟨_,rfl⟩
 have HY2:Bk Y2 (w.heap.size+1) 115 #[.int .i64 p.e.t,.int .i64 p.e.s,.int .i64 0,.int .i64 0,.int .i64 0,.int .i64 0,.int .i64 0,.slice none 0 0,.int .i64 0,.int .i64 0,.slice none 0 0,.slice none 0 0]:=hY2▸HY1.put 1 _
 have HU2:Turns (fun k=>k=(w.heap.size+1)) V4 Y2:=HU1.trans (hY2▸ya1 _ _ 1 _)
 clear HY1 HU1
 obtain⟨Y3,hY3⟩:∃Y3,Y2.setCell ⟨(w.heap.size+1),2,none⟩ (.int .i64 p.e.q)=Y3:=⟨_,rfl⟩
 have HY3:Bk Y3 (w.heap.size+1) 115 #[.int .i64 p.e.t,.int .i64 p.e.s,.int .i64 p.e.q,.int .i64 0,.int .i64 0,.int .i64 0,.int .i64 0,.slice none 0 0,.int .i64 0,.int .i64 0,.slice none 0 0,.slice none 0 0]:=hY3▸HY2.put 2 _
 have HU3:Turns (fun k=>k=(w.heap.size+1)) V4 Y3:=HU2.trans (hY3▸ya1 _ _ 2 _)
 clear HY2 HU2
 obtain⟨Y4,hY4⟩:∃Y4,Y3.setCell ⟨(w.heap.size+1),3,none⟩ (.int .i64 p.e.d)=Y4:=⟨_,rfl⟩
 have HY4:Bk Y4 (w.heap.size+1) 115 #[.int .i64 p.e.t,.int .i64 p.e.s,.int .i64 p.e.q,.int .i64 p.e.d,.int .i64 0,.int .i64 0,.int .i64 0,.slice none 0 0,.int .i64 0,.int .i64 0,.slice none 0 0,.slice none 0 0]:=hY4▸HY3.put 3 _
 have HU4:Turns (fun k=>k=(w.heap.size+1)) V4 Y4:=HU3.trans (hY4▸ya1 _ _ 3 _)
 clear HY3 HU3
 obtain⟨Y5,hY5⟩:∃Y5,Y4.setCell ⟨(w.heap.size+1),4,none⟩ (.int .i64 p.e.k)=Y5:=⟨_,rfl⟩
 have HY5:Bk Y5 (w.heap.size+1) 115 #[.int .i64 p.e.t,.int .i64 p.e.s,.int .i64 p.e.q,.int .i64 p.e.d,.int .i64 p.e.k,.int .i64 0,.int .i64 0,.slice none 0 0,.int .i64 0,.int .i64 0,.slice none 0 0,.slice none 0 0]:=hY5▸HY4.put 4 _
 have HU5:Turns (fun k=>k=(w.heap.size+1)) V4 Y5:=HU4.trans (hY5▸ya1 _ _ 4 _)
 clear HY4 HU4
 obtain⟨Y6,hY6⟩:∃Y6,Y5.setCell ⟨(w.heap.size+1),5,none⟩ (.int .i64 p.e.v)=Y6:=⟨_,rfl⟩
 have HY6:Bk Y6 (w.heap.size+1) 115 #[.int .i64 p.e.t,.int .i64 p.e.s,.int .i64 p.e.q,.int .i64 p.e.d,.int .i64 p.e.k,.int .i64 p.e.v,.int .i64 0,.slice none 0 0,.int .i64 0,.int .i64 0,.slice none 0 0,.slice none 0 0]:=hY6▸HY5.put 5 _
 have HU6:Turns (fun k=>k=(w.heap.size+1)) V4 Y6:=HU5.trans (hY6▸ya1 _ _ 5 _)
 clear HY5 HU5
 obtain⟨Y7,hY7⟩:∃Y7,Y6.setCell ⟨(w.heap.size+1),6,none⟩ (.int .i64 p.e.g)=Y7:=⟨_,rfl⟩
 have HY7:Bk Y7 (w.heap.size+1) 115 #[.int .i64 p.e.t,.int .i64 p.e.s,.int .i64 p.e.q,.int .i64 p.e.d,.int .i64 p.e.k,.int .i64 p.e.v,.int .i64 p.e.g,.slice none 0 0,.int .i64 0,.int .i64 0,.slice none 0 0,.slice none 0 0]:=hY7▸HY6.put 6 _
 have HU7:Turns (fun k=>k=(w.heap.size+1)) V4 Y7:=HU6.trans (hY7▸ya1 _ _ 6 _)
 clear HY6 HU6
 obtain⟨Y8,hY8⟩:∃Y8,Y7.setCell ⟨(w.heap.size+1),7,none⟩ (.slice a7 p.b.r.length c7)=Y8:=⟨_,rfl⟩
 have HY8:Bk Y8 (w.heap.size+1) 115 #[.int .i64 p.e.t,.int .i64 p.e.s,.int .i64 p.e.q,.int .i64 p.e.d,.int .i64 p.e.k,.int .i64 p.e.v,.int .i64 p.e.g,.slice a7 p.b.r.length c7,.int .i64 0,.int .i64 0,.slice none 0 0,.slice none 0 0]:=hY8▸HY7.put 7 _
 have HU8:Turns (fun k=>k=(w.heap.size+1)) V4 Y8:=HU7.trans (hY8▸ya1 _ _ 7 _)
 clear HY7 HU7
 obtain⟨Y9,hY9⟩:∃Y9,Y8.setCell ⟨(w.heap.size+1),8,none⟩ (.int .i64 p.b.q)=Y9:=⟨_,rfl⟩
 have HY9:Bk Y9 (w.heap.size+1) 115 #[.int .i64 p.e.t,.int .i64 p.e.s,.int .i64 p.e.q,.int .i64 p.e.d,.int .i64 p.e.k,.int .i64 p.e.v,.int .i64 p.e.g,.slice a7 p.b.r.length c7,.int .i64 p.b.q,.int .i64 0,.slice none 0 0,.slice none 0 0]:=hY9▸HY8.put 8 _
 have HU9:Turns (fun k=>k=(w.heap.size+1)) V4 Y9:=HU8.trans (hY9▸ya1 _ _ 8 _)
 clear HY8 HU8
 obtain⟨Y10,hY10⟩:∃Y10,Y9.setCell ⟨(w.heap.size+1),9,none⟩ (.int .i64 p.b.d)=Y10:=⟨_,rfl⟩
 have HY10:Bk Y10 (w.heap.size+1) 115 #[.int .i64 p.e.t,.int .i64 p.e.s,.int .i64 p.e.q,.int .i64 p.e.d,.int .i64 p.e.k,.int .i64 p.e.v,.int .i64 p.e.g,.slice a7 p.b.r.length c7,.int .i64 p.b.q,.int .i64 p.b.d,.slice none 0 0,.slice none 0 0]:=hY10▸HY9.put 9 _
 have HU10:Turns (fun k=>k=(w.heap.size+1)) V4 Y10:=HU9.trans (hY10▸ya1 _ _ 9 _)
 clear HY9 HU9
 obtain⟨Y11,hY11⟩:∃Y11,Y10.setCell ⟨(w.heap.size+1),10,none⟩ (.slice a10 p.s.length c10)=Y11:=⟨_,rfl⟩
 have HY11:Bk Y11 (w.heap.size+1) 115 #[.int .i64 p.e.t,.int .i64 p.e.s,.int .i64 p.e.q,.int .i64 p.e.d,.int .i64 p.e.k,.int .i64 p.e.v,.int .i64 p.e.g,.slice a7 p.b.r.length c7,.int .i64 p.b.q,.int .i64 p.b.d,.slice a10 p.s.length c10,.slice none 0 0]:=hY11▸HY10.put 10 _
 have HU11:Turns (fun k=>k=(w.heap.size+1)) V4 Y11:=HU10.trans (hY11▸ya1 _ _ 10 _)
 clear HY10 HU10
 obtain⟨Y12,hY12⟩:∃Y12,Y11.setCell ⟨(w.heap.size+1),11,none⟩ (.slice a11 p.x.length c11)=Y12:=⟨_,rfl⟩
 have HY12:Bk Y12 (w.heap.size+1) 115 #[.int .i64 p.e.t,.int .i64 p.e.s,.int .i64 p.e.q,.int .i64 p.e.d,.int .i64 p.e.k,.int .i64 p.e.v,.int .i64 p.e.g,.slice a7 p.b.r.length c7,.int .i64 p.b.q,.int .i64 p.b.d,.slice a10 p.s.length c10,.slice a11 p.x.length c11]:=hY12▸HY11.put 11 _
 have HU12:Turns (fun k=>k=(w.heap.size+1)) V4 Y12:=HU11.trans (hY12▸ya1 _ _ 11 _)
 clear HY11 HU11
 rw [hY1,hY2,hY3,hY4,hY5,hY6,hY7,hY8,hY9,hY10,hY11,hY12]
 have hR:=HY12
 have hT:=HU12
 obtain⟨t0,t1,t2,t3,t4,t5,t6,t7,t8,t9,t10,t11⟩:=ytd hR
 have hsz:=hT.size
 refine bodyPost_ret (v:= .agg #[.int .i64 p.e.t,.int .i64 p.e.s,.int .i64 p.e.q,.int .i64 p.e.d,.int .i64 p.e.k,.int .i64 p.e.v,.int .i64 p.e.g,.slice a7 p.b.r.length c7,.int .i64 p.b.q,.int .i64 p.b.d,.slice a10 p.s.length c10,.slice a11 p.x.length c11]) (by simp [results,Tryz.results191,go_sem,t0,t1,t2,t3,t4,t5,t6,t7,t8,t9,t10,t11]) rfl
  ⟨_,rfl,HX4.out.trans (hT.to_below (fun k e=>by omega) (by omega)),_,_,_,_,_,_,rfl,HO7.out.turns hT (fun k e=>by omega),HO10.out.turns hT (fun k e=>by omega),HO11.out.turns hT (fun k e=>by omega),fun k e=>⟨⟨by omega,by omega⟩,by omega,by omega⟩,fun k e=>⟨⟨by omega,by omega⟩,by omega⟩,fun k e=>⟨by omega,by omega⟩⟩
theorem ydj {p:Prop} (h:p):Hid p:=h
theorem yrd (w:World) (g m:Nat) (v0 v1 v2 v3 v4 v5 v6 v7 v8 v9 v10 v11:Value):putN w g m (fun i=> [v0,v1,v2,v3,v4,v5,v6,v7,v8,v9,v10,v11].getD i (.int .i64 0)) 12=((((((((((((w.setCell ⟨g,m,none⟩ (v0)).setCell ⟨g,m+1,none⟩ (v1)).setCell ⟨g,m+2,none⟩ (v2)).setCell ⟨g,m+3,none⟩ (v3)).setCell ⟨g,m+4,none⟩ (v4)).setCell ⟨g,m+5,none⟩ (v5)).setCell ⟨g,m+6,none⟩ (v6)).setCell ⟨g,m+7,none⟩ (v7)).setCell ⟨g,m+8,none⟩ (v8)).setCell ⟨g,m+9,none⟩ (v9)).setCell ⟨g,m+10,none⟩ (v10)).setCell ⟨g,m+11,none⟩ (v11)):=rfl
theorem ymj (w:World) (g m:Nat) (v0 v1 v2 v3 v4 v5 v6 v7 v8 v9 v10 v11:Value):Turns (fun k=>k=g) w ((((((((((((w.setCell ⟨g,m,none⟩ (v0)).setCell ⟨g,m+1,none⟩ (v1)).setCell ⟨g,m+2,none⟩ (v2)).setCell ⟨g,m+3,none⟩ (v3)).setCell ⟨g,m+4,none⟩ (v4)).setCell ⟨g,m+5,none⟩ (v5)).setCell ⟨g,m+6,none⟩ (v6)).setCell ⟨g,m+7,none⟩ (v7)).setCell ⟨g,m+8,none⟩ (v8)).setCell ⟨g,m+9,none⟩ (v9)).setCell ⟨g,m+10,none⟩ (v10)).setCell ⟨g,m+11,none⟩ (v11)):=yrd w g m v0 v1 v2 v3 v4 v5 v6 v7 v8 v9 v10 v11▸yfm w g m _ 12
theorem infoPast:(Tryz.prog.info? 115).map (fun i=>(i.zero,i.size,i.bytes))=some (some (.agg #[.int .i64 0,.int .i64 0,.int .i64 0,.int .i64 0,.int .i64 0,.int .i64 0,.int .i64 0,.slice none 0 0,.int .i64 0,.int .i64 0,.slice none 0 0,.slice none 0 0]),12,144):=by kernel_rfl
set_option maxHeartbeats 8000000 in
theorem to_pasts (x:Value) (l:List Ps) (w:World) (hl:(ybe l).wt≤1048576) (h:IsD w x (ybe l)):
  Calls Tryz.prog 153 #[x] w fun e w'=>∃y,e= .returned y∧Below w.heap.size w w'∧OwnD w' (fun k=>w.heap.size≤k∧k<w'.heap.size) y (ybe l):=by
 obtain⟨a,cap,rfl,h1,h2,h⟩:=IsD.parts (c:=12) (n:=l.length) h
 have HS:=ydj hl
 have hl2:l.length≤1048576:=by rw [ybx]at hl;omega
 have hp:(0:Int)≤(l.length:Int):=by omega
 clear hl
 obtain⟨i0,hi,hz0,hz1,hz2⟩:=info_parts infoPast
 go_enter Tryz.func153,Tryz.ntmps153
 go_wp2_with (at_make;refine wpList_make_full _ rfl _ _ 95 rfl w.heap.size 115 i0 _ 12 Tryz.underlying95 hi hz0 hz1 .i64 .i64 l.length l.length l.length rfl rfl rfl rfl (by rw [hz2];omega) (by unfold maxLen;omega) (Nat.le_refl _) ?_;intro w1 hown hgrow)
 have hB1:Hid (Below w.heap.size w w1):=(Below.refl _ _).grown hgrow (Nat.le_refl _) (fun k e=>by cases e)
 obtain⟨zs,hR0⟩:=OwnD.made0 (ycy l) hown
 have hR1:=ydj hR0
 clear hown hgrow hi hz0 hz1 hz2 hR0
 go_loopw [4] (fun i wr=>∃k:Nat,k≤l.length∧i= .int .i64 k∧Below w.heap.size w wr∧OwnD wr (fun k=>w.heap.size≤k∧k<wr.heap.size) (sl w.heap.size l.length) (.row 12 l.length (toC (ycy l) zs (k*12)))) (fun i _=>l.length-(intOf i).toNat)
 case atStart=>exact⟨0,Nat.zero_le _,rfl,hB1.out,hR1.out⟩
 case round=>
  obtain⟨k,hk,rfl,hB,hR⟩:=hrel
  have HB:=ydj hB
  have HR:=ydj hR
  clear hR
  by_cases hlt:k<l.length
  ·obtain⟨b,off,rfl,hb,hc⟩:=h.resolve_left (by omega)
   obtain⟨u7,u10,u11,f0,f1,f2,f3,f4,f5,f6,f7,f8,f9,f10,f11,d7,d10,d11⟩:=yck (fun j hj=>by
    obtain⟨u,hu,hd⟩:=hc j hj
    exact⟨u,(hB.cell (p:=⟨b,off+j,none⟩) hb).trans hu,hd.under hB⟩) hlt
   have HD:Hid (IsPast wr (.agg #[.int .i64 (psAt l k).e.t,.int .i64 (psAt l k).e.s,.int .i64 (psAt l k).e.q,.int .i64 (psAt l k).e.d,.int .i64 (psAt l k).e.k,.int .i64 (psAt l k).e.v,.int .i64 (psAt l k).e.g,u7,.int .i64 (psAt l k).b.q,.int .i64 (psAt l k).b.d,u10,u11]) (psAt l k)):=⟨u7,u10,u11,rfl,d7,d10,d11⟩
   have hg:w.heap.size<wr.heap.size:=(HR.out.lt (by omega)).1
   clear hB hB1 hR1 h hc d7 d10 d11
   go_wp2_with fail
   clear f0 f1 f2 f3 f4 f5 f6 f7 f8 f9 f10 f11
   refine(yp0 _ (psAt l k) _ (Nat.le_trans (Ps.wt_le hlt) HS.out) HD.out).mono ?_
   rintro e w2 ⟨y,rfl,hb2,A7,A10,A11,v7,v10,v11,rfl,o7,o10,o11,d7,d10,d11⟩
   have HB2:=ydj hb2
   have HR2:=ydj (HR.out.under hb2)
   obtain⟨a7,c7,rfl,_⟩:=OwnD.parts (c:=1) (n:=(psAt l k).b.r.length) o7
   have O7:=ydj o7
   obtain⟨a10,c10,rfl,_⟩:=OwnD.parts (c:=7) (n:=(psAt l k).s.length) o10
   have O10:=ydj o10
   obtain⟨a11,c11,rfl,_⟩:=OwnD.parts (c:=3) (n:=(psAt l k).x.length) o11
   have O11:=ydj o11
   obtain⟨x0,_,g0,z0,_⟩:=HR2.out.step (j:=k*12) (by omega)
   obtain⟨x1,_,g1,z1,_⟩:=HR2.out.step (j:=k*12+1) (by omega)
   obtain⟨x2,_,g2,z2,_⟩:=HR2.out.step (j:=k*12+2) (by omega)
   obtain⟨x3,_,g3,z3,_⟩:=HR2.out.step (j:=k*12+3) (by omega)
   obtain⟨x4,_,g4,z4,_⟩:=HR2.out.step (j:=k*12+4) (by omega)
   obtain⟨x5,_,g5,z5,_⟩:=HR2.out.step (j:=k*12+5) (by omega)
   obtain⟨x6,_,g6,z6,_⟩:=HR2.out.step (j:=k*12+6) (by omega)
   obtain⟨x7,_,g7,z7,_⟩:=HR2.out.step (j:=k*12+7) (by omega)
   obtain⟨x8,_,g8,z8,_⟩:=HR2.out.step (j:=k*12+8) (by omega)
   obtain⟨x9,_,g9,z9,_⟩:=HR2.out.step (j:=k*12+9) (by omega)
   obtain⟨x10,_,g10,z10,_⟩:=HR2.out.step (j:=k*12+10) (by omega)
   obtain⟨x11,_,g11,z11,_⟩:=HR2.out.step (j:=k*12+11) (by omega)
   have D7:=ydj d7
   have D10:=ydj d10
   have D11:=ydj d11
   clear hb2 o7 d7 o10 d10 o11 d11
   go_wp2
   go_roundw
   case rel=>
    have hG:∀i b,(fun i=>if i=7 then A7 else if i=10 then A10 else if i=11 then A11 else fun _=>False) i b→wr.heap.size≤b∧b<w2.heap.size:=by
     intro i b hb
     by_cases e:i=7∨i=10∨i=11
     ·rcases e with rfl|rfl|rfl
      ·exact(D7.out b hb).1
      ·exact(D10.out b hb).1
      ·exact(D11.out b hb)
     ·simp only [not_or]at e
      simp [e]at hb
    have hGG:∀i j,i≠j→ ∀b,(fun i=>if i=7 then A7 else if i=10 then A10 else if i=11 then A11 else fun _=>False) i b→ ¬(fun i=>if i=7 then A7 else if i=10 then A10 else if i=11 then A11 else fun _=>False) j b:=by
     intro i j hij b hb hb'
     by_cases e:i=7∨i=10∨i=11
     ·by_cases e':j=7∨j=10∨j=11
      ·rcases e with rfl|rfl|rfl<;>rcases e' with rfl|rfl|rfl
       ·exact hij rfl
       ·exact(D7.out b hb).2.1 hb'
       ·exact(D7.out b hb).2.2 hb'
       ·exact(D7.out b hb').2.1 hb
       ·exact hij rfl
       ·exact(D10.out b hb).2 hb'
       ·exact(D7.out b hb').2.2 hb
       ·exact(D10.out b hb').2 hb
       ·exact hij rfl
      ·simp only [not_or]at e'
       simp [e']at hb'
     ·simp only [not_or]at e
      simp [e]at hb
    have q:=OwnD.fillN (G:=(fun i=>if i=7 then A7 else if i=10 then A10 else if i=11 then A11 else fun _=>False)) (U:=(fun i=> [.int .i64 (psAt l k).e.t,.int .i64 (psAt l k).e.s,.int .i64 (psAt l k).e.q,.int .i64 (psAt l k).e.d,.int .i64 (psAt l k).e.k,.int .i64 (psAt l k).e.v,.int .i64 (psAt l k).e.g,.slice a7 (psAt l k).b.r.length c7,.int .i64 (psAt l k).b.q,.int .i64 (psAt l k).b.d,.slice a10 (psAt l k).s.length c10,.slice a11 (psAt l k).x.length c11].getD i (.int .i64 0))) HR2.out ⟨Nat.le_refl _,hg⟩ 12 (by omega) (fun i hi=>by
     have hat:ycy l (k*12+i)=(psAt l k).cell i:=yf5 l k (r:=i) hi
     match i,hi,hat with
     |0,_,hat=>rw [hat];exact OwnD.val _ _
     |1,_,hat=>rw [hat];exact OwnD.val _ _
     |2,_,hat=>rw [hat];exact OwnD.val _ _
     |3,_,hat=>rw [hat];exact OwnD.val _ _
     |4,_,hat=>rw [hat];exact OwnD.val _ _
     |5,_,hat=>rw [hat];exact OwnD.val _ _
     |6,_,hat=>rw [hat];exact OwnD.val _ _
     |7,_,hat=>rw [hat];exact O7.out
     |8,_,hat=>rw [hat];exact OwnD.val _ _
     |9,_,hat=>rw [hat];exact OwnD.val _ _
     |10,_,hat=>rw [hat];exact O10.out
     |11,_,hat=>rw [hat];exact O11.out
     |_+12,h,_=>exact absurd h (by omega)) (fun i _ b hb hb'=>by have:=hG i b hb;omega) (fun i j _ _ hij b hb hb'=>hGG i j hij b hb hb')
    rw [yrd]at q
    have hT:=ymj w2 w.heap.size (k*12) (.int .i64 (psAt l k).e.t) (.int .i64 (psAt l k).e.s) (.int .i64 (psAt l k).e.q) (.int .i64 (psAt l k).e.d) (.int .i64 (psAt l k).e.k) (.int .i64 (psAt l k).e.v) (.int .i64 (psAt l k).e.g) (.slice a7 (psAt l k).b.r.length c7) (.int .i64 (psAt l k).b.q) (.int .i64 (psAt l k).b.d) (.slice a10 (psAt l k).s.length c10) (.slice a11 (psAt l k).x.length c11)
    have hsz:=hT.size
    refine⟨k+1,by omega,by go_num,(HB.out.trans (HB2.out.mono (by omega))).trans (hT.to_below (fun b e=>by omega) (by have:=HB2.out.size;omega)),?_⟩
    rw [show(k+1)*12=k*12+12 from by omega]
    refine q.mono (fun b hb=> ?_)
    have hs2:=HB2.out.size
    rcases hb with hb|⟨i,_,hb⟩
    ·exact⟨hb.1,Nat.lt_of_lt_of_le hb.2 (Nat.le_trans hs2 hsz)⟩
    ·have:=hG i b hb
     exact⟨by omega,Nat.lt_of_lt_of_le this.2 hsz⟩
   case measure=>simp [intOf];omega
  ·clear hB hB1 hR1 h
   go_wp2
   go_ret
   obtain rfl:k=l.length:=by omega
   exact⟨_,rfl,HB.out,HR.out.toAll rfl⟩
theorem yaf {p:Prop} (h:p):Hid p:=h
def PartF (F:Nat→Prop) (w:World) (y:Value) (p:Pa):Prop:=
 ∃(A1 A4 A5 A6:Nat→Prop) (u1 u4 u5 u6:Value),y= .agg #[.int .i64 p.n,u1,.int .i64 p.st.q,.int .i64 p.st.d,u4,u5,u6]∧OwnD w A1 u1 (yax p.st.r)∧OwnD w A4 u4 (ybe p.p)∧OwnD w A5 u5 (evsD p.t)∧OwnD w A6 u6 (yax p.a)∧(∀k,A1 k→F k∧ ¬A4 k∧ ¬A5 k∧ ¬A6 k)∧(∀k,A4 k→F k∧ ¬A5 k∧ ¬A6 k)∧(∀k,A5 k→F k∧ ¬A6 k)∧(∀k,A6 k→F k)
set_option maxHeartbeats 8000000 in
theorem yp1 (x:Value) (p:Pa) (w:World) (hw:p.wt≤1048576) (h:IsPart w x p):
  Calls Tryz.prog 106 #[x] w fun e w'=>∃y,e= .returned y∧Below w.heap.size w w'∧PartF (fun k=>w.heap.size≤k∧k<w'.heap.size) w' y p:=by
 obtain⟨u1,u4,u5,u6,rfl,h1,h4,h5,h6⟩:=h
 have HS:Hid (p.wt≤1048576):=hw
 have H1:=yaf h1
 have H4:=yaf h4
 have H5:=yaf h5
 have H6:=yaf h6
 clear hw h1 h4 h5 h6
 obtain⟨V0,hV0⟩:∃V0,((w.alloc (.cells #[.int .i64 p.n,u1,.int .i64 p.st.q,.int .i64 p.st.d,u4,u5,u6] 144)).alloc (.cells #[.int .i64 0,.slice none 0 0,.int .i64 0,.int .i64 0,.slice none 0 0,.slice none 0 0,.slice none 0 0] 97)).alloc (.cells #[.int .i64 0,.slice none 0 0,.int .i64 0,.int .i64 0,.slice none 0 0,.slice none 0 0,.slice none 0 0] 97)=V0:=⟨_,rfl⟩
 have HX0:Hid (Below w.heap.size w V0):=by rw [←hV0];exact(((Below.refl _ w).alloc (Nat.le_refl _) _).alloc (by simp) _).alloc (by simp;omega) _
 have hs0:w.heap.size+3≤V0.heap.size:=by rw [←hV0];simp
 have HP0:Hid (Bk V0 w.heap.size 144 #[.int .i64 p.n,u1,.int .i64 p.st.q,.int .i64 p.st.d,u4,u5,u6]):=by rw [←hV0];exact((Bk.new w _ _).alloc _).alloc _
 have HR0:Hid (Bk V0 (w.heap.size+1) 97 #[.int .i64 0,.slice none 0 0,.int .i64 0,.int .i64 0,.slice none 0 0,.slice none 0 0,.slice none 0 0]):=by rw [←hV0];exact(Bk.newAt (by simp) _ _).alloc _
 have HQ0:Hid (Bk V0 (w.heap.size+1+1) 97 #[.int .i64 0,.slice none 0 0,.int .i64 0,.int .i64 0,.slice none 0 0,.slice none 0 0,.slice none 0 0]):=by rw [←hV0];exact Bk.newAt (by simp) _ _
 have HW0:=yaf hV0
 clear hV0
 go_enter Tryz.func106,Tryz.ntmps106
 have pp0:=HP0.out.cell (i:=0) rfl
 have qq0:=HQ0.out.cell (i:=0) rfl
 have qf0:=HQ0.out.free
 have hV0:=HW0.out
 obtain⟨V1,hV1⟩:∃V1,(V0.setCell ⟨(w.heap.size+1+1),0,none⟩ (.int .i64 p.n))=V1:=⟨_,rfl⟩
 have HQ1:Hid (Bk V1 (w.heap.size+1+1) 97 #[.int .i64 p.n,.slice none 0 0,.int .i64 0,.int .i64 0,.slice none 0 0,.slice none 0 0,.slice none 0 0]):=by rw [←hV1];exact HQ0.out.put 0 _
 have HP1:Hid (Bk V1 w.heap.size 144 #[.int .i64 p.n,u1,.int .i64 p.st.q,.int .i64 p.st.d,u4,u5,u6]):=by rw [←hV1];exact(HP0.out.other 0 _ (by omega))
 have HR1:Hid (Bk V1 (w.heap.size+1) 97 #[.int .i64 0,.slice none 0 0,.int .i64 0,.int .i64 0,.slice none 0 0,.slice none 0 0,.slice none 0 0]):=by rw [←hV1];exact(HR0.out.other 0 _ (by omega))
 have HT1:Hid (Turns (fun k=>k=(w.heap.size+1+1)) V0 V1):=by rw [←hV1];exact ya1 _ _ 0 _
 have hy1:V0.heap.size≤V1.heap.size:=HT1.out.size
 have HX1:=yaf (HX0.out.trans (HT1.out.to_below (fun k e=>by omega) (by omega)))
 clear HP0 HR0 HQ0 HX0
 have p1:=HP1.out.cell (i:=1) rfl
 have p2:=HP1.out.cell (i:=2) rfl
 have p3:=HP1.out.cell (i:=3) rfl
 go_wp2_with fail
 clear pp0 qq0 qf0 hV0 hV1 p1 p2 p3
 refine(yhz _ p.st _ (by have:=HS.out;unfold Pa.wt at this;simp only [yaz,yam]at this;omega) ⟨_,rfl,(H1.out.under HX1.out).isI⟩).mono ?_
 rintro e w2 ⟨y1,rfl,hb,vr1,rfl,ho1⟩
 have HO1:=yaf ho1.own
 obtain⟨_,a1,c1,rfl,_⟩:=ho1
 have hz1:V1.heap.size≤w2.heap.size:=hb.size
 have HXb1:=yaf (HX1.out.trans (hb.mono (by omega)))
 have HPb1:=yaf (HP1.out.below hb)
 have HRb1:=yaf (HR1.out.below hb)
 have HQb1:=yaf (HQ1.out.below hb)
 clear hb
 obtain⟨V2,hV2⟩:∃V2,(((w2.setCell ⟨(w.heap.size+1+1),1,none⟩ (.slice a1 p.st.r.length c1)).setCell ⟨(w.heap.size+1+1),2,none⟩ (.int .i64 p.st.q)).setCell ⟨(w.heap.size+1+1),3,none⟩ (.int .i64 p.st.d))=V2:=⟨_,rfl⟩
 have qq1:=HQb1.out.cell (i:=1) rfl
 have qq2:=HQb1.out.cell (i:=2) rfl
 have qq3:=HQb1.out.cell (i:=3) rfl
 have qf1:=HQb1.out.free
 have HQ2:Hid (Bk V2 (w.heap.size+1+1) 97 #[.int .i64 p.n,.slice a1 p.st.r.length c1,.int .i64 p.st.q,.int .i64 p.st.d,.slice none 0 0,.slice none 0 0,.slice none 0 0]):=by rw [←hV2];exact((HQb1.out.put 1 _).put 2 _).put 3 _
 have HP2:Hid (Bk V2 w.heap.size 144 #[.int .i64 p.n,u1,.int .i64 p.st.q,.int .i64 p.st.d,u4,u5,u6]):=by rw [←hV2];exact(((HPb1.out.other 1 _ (by omega)).other 2 _ (by omega)).other 3 _ (by omega))
 have HR2:Hid (Bk V2 (w.heap.size+1) 97 #[.int .i64 0,.slice none 0 0,.int .i64 0,.int .i64 0,.slice none 0 0,.slice none 0 0,.slice none 0 0]):=by rw [←hV2];exact(((HRb1.out.other 1 _ (by omega)).other 2 _ (by omega)).other 3 _ (by omega))
 have HT2:Hid (Turns (fun k=>k=(w.heap.size+1+1)) w2 V2):=by rw [←hV2];exact((ya1 _ _ 1 _).trans (ya1 _ _ 2 _)).trans (ya1 _ _ 3 _)
 have hy2:w2.heap.size≤V2.heap.size:=HT2.out.size
 have HX2:=yaf (HXb1.out.trans (HT2.out.to_below (fun k e=>by omega) (by omega)))
 replace HO1:=yaf (HO1.out.turns HT2.out (fun k e=>by omega))
 clear HPb1 HRb1 HQb1 HXb1 HP1 HR1 HQ1 HX1
 have p4:=HP2.out.cell (i:=4) rfl
 go_wp2_with fail
 clear qq1 qq2 qq3 qf1 hV2 p4
 refine(to_pasts _ p.p _ (by have:=HS.out;unfold Pa.wt at this;simp only [yaz,yam]at this;omega) (H4.out.under HX2.out)).mono ?_
 rintro e w3 ⟨y4,rfl,hb,ho4⟩
 have HO4:=yaf ho4
 obtain⟨a4,c4,rfl,_⟩:=OwnD.parts (c:=12) (n:=p.p.length) ho4
 clear ho4
 have hz2:V2.heap.size≤w3.heap.size:=hb.size
 have HXb2:=yaf (HX2.out.trans (hb.mono (by omega)))
 have HPb2:=yaf (HP2.out.below hb)
 have HRb2:=yaf (HR2.out.below hb)
 have HQb2:=yaf (HQ2.out.below hb)
 replace HO1:=yaf (HO1.out.under hb)
 clear hb
 obtain⟨V3,hV3⟩:∃V3,(w3.setCell ⟨(w.heap.size+1+1),4,none⟩ (.slice a4 p.p.length c4))=V3:=⟨_,rfl⟩
 have qq4:=HQb2.out.cell (i:=4) rfl
 have qf2:=HQb2.out.free
 have HQ3:Hid (Bk V3 (w.heap.size+1+1) 97 #[.int .i64 p.n,.slice a1 p.st.r.length c1,.int .i64 p.st.q,.int .i64 p.st.d,.slice a4 p.p.length c4,.slice none 0 0,.slice none 0 0]):=by rw [←hV3];exact HQb2.out.put 4 _
 have HP3:Hid (Bk V3 w.heap.size 144 #[.int .i64 p.n,u1,.int .i64 p.st.q,.int .i64 p.st.d,u4,u5,u6]):=by rw [←hV3];exact(HPb2.out.other 4 _ (by omega))
 have HR3:Hid (Bk V3 (w.heap.size+1) 97 #[.int .i64 0,.slice none 0 0,.int .i64 0,.int .i64 0,.slice none 0 0,.slice none 0 0,.slice none 0 0]):=by rw [←hV3];exact(HRb2.out.other 4 _ (by omega))
 have HT3:Hid (Turns (fun k=>k=(w.heap.size+1+1)) w3 V3):=by rw [←hV3];exact ya1 _ _ 4 _
 have hy3:w3.heap.size≤V3.heap.size:=HT3.out.size
 have HX3:=yaf (HXb2.out.trans (HT3.out.to_below (fun k e=>by omega) (by omega)))
 replace HO1:=yaf (HO1.out.turns HT3.out (fun k e=>by omega))
 replace HO4:=yaf (HO4.out.turns HT3.out (fun k e=>by omega))
 clear HPb2 HRb2 HQb2 HXb2 HP2 HR2 HQ2 HX2
 have p5:=HP3.out.cell (i:=5) rfl
 go_wp2_with fail
 clear qq4 qf2 hV3 p5
 refine(yqn _ p.t _ (by have:=HS.out;unfold Pa.wt at this;simp only [yaz,yam]at this;omega) (H5.out.under HX3.out)).mono ?_
 rintro e w4 ⟨y5,rfl,hb,ho5⟩
 have HO5:=yaf ho5
 obtain⟨a5,c5,rfl,_⟩:=OwnD.parts (c:=7) (n:=p.t.length) ho5
 clear ho5
 have hz3:V3.heap.size≤w4.heap.size:=hb.size
 have HXb3:=yaf (HX3.out.trans (hb.mono (by omega)))
 have HPb3:=yaf (HP3.out.below hb)
 have HRb3:=yaf (HR3.out.below hb)
 have HQb3:=yaf (HQ3.out.below hb)
 replace HO1:=yaf (HO1.out.under hb)
 replace HO4:=yaf (HO4.out.under hb)
 clear hb
 obtain⟨V4,hV4⟩:∃V4,(w4.setCell ⟨(w.heap.size+1+1),5,none⟩ (.slice a5 p.t.length c5))=V4:=⟨_,rfl⟩
 have qq5:=HQb3.out.cell (i:=5) rfl
 have qf3:=HQb3.out.free
 have HQ4:Hid (Bk V4 (w.heap.size+1+1) 97 #[.int .i64 p.n,.slice a1 p.st.r.length c1,.int .i64 p.st.q,.int .i64 p.st.d,.slice a4 p.p.length c4,.slice a5 p.t.length c5,.slice none 0 0]):=by rw [←hV4];exact HQb3.out.put 5 _
 have HP4:Hid (Bk V4 w.heap.size 144 #[.int .i64 p.n,u1,.int .i64 p.st.q,.int .i64 p.st.d,u4,u5,u6]):=by rw [←hV4];exact(HPb3.out.other 5 _ (by omega))
 have HR4:Hid (Bk V4 (w.heap.size+1) 97 #[.int .i64 0,.slice none 0 0,.int .i64 0,.int .i64 0,.slice none 0 0,.slice none 0 0,.slice none 0 0]):=by rw [←hV4];exact(HRb3.out.other 5 _ (by omega))
 have HT4:Hid (Turns (fun k=>k=(w.heap.size+1+1)) w4 V4):=by rw [←hV4];exact ya1 _ _ 5 _
 have hy4:w4.heap.size≤V4.heap.size:=HT4.out.size
 have HX4:=yaf (HXb3.out.trans (HT4.out.to_below (fun k e=>by omega) (by omega)))
 replace HO1:=yaf (HO1.out.turns HT4.out (fun k e=>by omega))
 replace HO4:=yaf (HO4.out.turns HT4.out (fun k e=>by omega))
 replace HO5:=yaf (HO5.out.turns HT4.out (fun k e=>by omega))
 clear HPb3 HRb3 HQb3 HXb3 HP3 HR3 HQ3 HX3
 have p6:=HP4.out.cell (i:=6) rfl
 go_wp2_with fail
 clear qq5 qf3 hV4 p6
 refine(ym6 _ p.a _ (by have:=HS.out;unfold Pa.wt at this;simp only [yaz,yam]at this;omega) (H6.out.under HX4.out)).mono ?_
 rintro e w5 ⟨y6,rfl,hb,ho6⟩
 have HO6:=yaf ho6
 obtain⟨a6,c6,rfl,_⟩:=OwnD.parts (c:=1) (n:=p.a.length) ho6
 clear ho6
 have hz4:V4.heap.size≤w5.heap.size:=hb.size
 have HXb4:=yaf (HX4.out.trans (hb.mono (by omega)))
 have HPb4:=yaf (HP4.out.below hb)
 have HRb4:=yaf (HR4.out.below hb)
 have HQb4:=yaf (HQ4.out.below hb)
 replace HO1:=yaf (HO1.out.under hb)
 replace HO4:=yaf (HO4.out.under hb)
 replace HO5:=yaf (HO5.out.under hb)
 clear hb
 obtain⟨V5,hV5⟩:∃V5,(w5.setCell ⟨(w.heap.size+1+1),6,none⟩ (.slice a6 p.a.length c6))=V5:=⟨_,rfl⟩
 have qq6:=HQb4.out.cell (i:=6) rfl
 have qf4:=HQb4.out.free
 have HQ5:Hid (Bk V5 (w.heap.size+1+1) 97 #[.int .i64 p.n,.slice a1 p.st.r.length c1,.int .i64 p.st.q,.int .i64 p.st.d,.slice a4 p.p.length c4,.slice a5 p.t.length c5,.slice a6 p.a.length c6]):=by rw [←hV5];exact HQb4.out.put 6 _
 have HP5:Hid (Bk V5 w.heap.size 144 #[.int .i64 p.n,u1,.int .i64 p.st.q,.int .i64 p.st.d,u4,u5,u6]):=by rw [←hV5];exact(HPb4.out.other 6 _ (by omega))
 have HR5:Hid (Bk V5 (w.heap.size+1) 97 #[.int .i64 0,.slice none 0 0,.int .i64 0,.int .i64 0,.slice none 0 0,.slice none 0 0,.slice none 0 0]):=by rw [←hV5];exact(HRb4.out.other 6 _ (by omega))
 have HT5:Hid (Turns (fun k=>k=(w.heap.size+1+1)) w5 V5):=by rw [←hV5];exact ya1 _ _ 6 _
 have hy5:w5.heap.size≤V5.heap.size:=HT5.out.size
 have HX5:=yaf (HXb4.out.trans (HT5.out.to_below (fun k e=>by omega) (by omega)))
 replace HO1:=yaf (HO1.out.turns HT5.out (fun k e=>by omega))
 replace HO4:=yaf (HO4.out.turns HT5.out (fun k e=>by omega))
 replace HO5:=yaf (HO5.out.turns HT5.out (fun k e=>by omega))
 replace HO6:=yaf (HO6.out.turns HT5.out (fun k e=>by omega))
 clear HPb4 HRb4 HQb4 HXb4 HP4 HR4 HQ4 HX4
 have oo0:=HQ5.out.cell (i:=0) rfl
 have rr0:=HR5.out.cell (i:=0) rfl
 have oo1:=HQ5.out.cell (i:=1) rfl
 have rr1:=HR5.out.cell (i:=1) rfl
 have oo2:=HQ5.out.cell (i:=2) rfl
 have rr2:=HR5.out.cell (i:=2) rfl
 have oo3:=HQ5.out.cell (i:=3) rfl
 have rr3:=HR5.out.cell (i:=3) rfl
 have oo4:=HQ5.out.cell (i:=4) rfl
 have rr4:=HR5.out.cell (i:=4) rfl
 have oo5:=HQ5.out.cell (i:=5) rfl
 have rr5:=HR5.out.cell (i:=5) rfl
 have oo6:=HQ5.out.cell (i:=6) rfl
 have rr6:=HR5.out.cell (i:=6) rfl
 have rf:=HR5.out.free
 go_wp2
 clear rf oo0 rr0 oo1 rr1 oo2 rr2 oo3 rr3 oo4 rr4 oo5 rr5 oo6 rr6 qq6 qf4 hV5
 have HY0:=HR5.out
 have HU0:Turns (fun k=>k=(w.heap.size+1)) V5 V5:=Turns.refl _ _
 obtain⟨Y1,hY1⟩:∃Y1,V5.setCell ⟨(w.heap.size+1),0,none⟩ (.int .i64 p.n)=Y1:=⟨_,rfl⟩
 have HY1:Bk Y1 (w.heap.size+1) 97 #[.int .i64 p.n,.slice none 0 0,.int .i64 0,.int .i64 0,.slice none 0 0,.slice none 0 0,.slice none 0 0]:=hY1▸HY0.put 0 _
 have HU1:Turns (fun k=>k=(w.heap.size+1)) V5 Y1:=HU0.trans (hY1▸ya1 _ _ 0 _)
 clear HY0 HU0
 obtain⟨Y2,hY2⟩:∃Y2,Y1.setCell ⟨(w.heap.size+1),1,none⟩ (.slice a1 p.st.r.length c1)=Y2:=⟨_,rfl⟩
 have HY2:Bk Y2 (w.heap.size+1) 97 #[.int .i64 p.n,.slice a1 p.st.r.length c1,.int .i64 0,.int .i64 0,.slice none 0 0,.slice none 0 0,.slice none 0 0]:=hY2▸HY1.put 1 _
 have HU2:Turns (fun k=>k=(w.heap.size+1)) V5 Y2:=HU1.trans (hY2▸ya1 _ _ 1 _)
 clear HY1 HU1
 obtain⟨Y3,hY3⟩:∃Y3,Y2.setCell ⟨(w.heap.size+1),2,none⟩ (.int .i64 p.st.q)=Y3:=⟨_,rfl⟩
 have HY3:Bk Y3 (w.heap.size+1) 97 #[.int .i64 p.n,.slice a1 p.st.r.length c1,.int .i64 p.st.q,.int .i64 0,.slice none 0 0,.slice none 0 0,.slice none 0 0]:=hY3▸HY2.put 2 _
 have HU3:Turns (fun k=>k=(w.heap.size+1)) V5 Y3:=HU2.trans (hY3▸ya1 _ _ 2 _)
 clear HY2 HU2
 obtain⟨Y4,hY4⟩:∃Y4,Y3.setCell ⟨(w.heap.size+1),3,none⟩ (.int .i64 p.st.d)=Y4:=⟨_,rfl⟩
 have HY4:Bk Y4 (w.heap.size+1) 97 #[.int .i64 p.n,.slice a1 p.st.r.length c1,.int .i64 p.st.q,.int .i64 p.st.d,.slice none 0 0,.slice none 0 0,.slice none 0 0]:=hY4▸HY3.put 3 _
 have HU4:Turns (fun k=>k=(w.heap.size+1)) V5 Y4:=HU3.trans (hY4▸ya1 _ _ 3 _)
 clear HY3 HU3
 obtain⟨Y5,hY5⟩:∃Y5,Y4.setCell ⟨(w.heap.size+1),4,none⟩ (.slice a4 p.p.length c4)=Y5:=⟨_,rfl⟩
 have HY5:Bk Y5 (w.heap.size+1) 97 #[.int .i64 p.n,.slice a1 p.st.r.length c1,.int .i64 p.st.q,.int .i64 p.st.d,.slice a4 p.p.length c4,.slice none 0 0,.slice none 0 0]:=hY5▸HY4.put 4 _
 have HU5:Turns (fun k=>k=(w.heap.size+1)) V5 Y5:=HU4.trans (hY5▸ya1 _ _ 4 _)
 clear HY4 HU4
 obtain⟨Y6,hY6⟩:∃Y6,Y5.setCell ⟨(w.heap.size+1),5,none⟩ (.slice a5 p.t.length c5)=Y6:=⟨_,rfl⟩
 have HY6:Bk Y6 (w.heap.size+1) 97 #[.int .i64 p.n,.slice a1 p.st.r.length c1,.int .i64 p.st.q,.int .i64 p.st.d,.slice a4 p.p.length c4,.slice a5 p.t.length c5,.slice none 0 0]:=hY6▸HY5.put 5 _
 have HU6:Turns (fun k=>k=(w.heap.size+1)) V5 Y6:=HU5.trans (hY6▸ya1 _ _ 5 _)
 clear HY5 HU5
 obtain⟨Y7,hY7⟩:∃Y7,Y6.setCell ⟨(w.heap.size+1),6,none⟩ (.slice a6 p.a.length c6)=Y7:=⟨_,rfl⟩
 have HY7:Bk Y7 (w.heap.size+1) 97 #[.int .i64 p.n,.slice a1 p.st.r.length c1,.int .i64 p.st.q,.int .i64 p.st.d,.slice a4 p.p.length c4,.slice a5 p.t.length c5,.slice a6 p.a.length c6]:=hY7▸HY6.put 6 _
 have HU7:Turns (fun k=>k=(w.heap.size+1)) V5 Y7:=HU6.trans (hY7▸ya1 _ _ 6 _)
 clear HY6 HU6
 rw [hY1,hY2,hY3,hY4,hY5,hY6,hY7]
 have hR:=HY7
 have hT:=HU7
 obtain⟨t0,t1,t2,t3,t4,t5,t6⟩:=c7_7 hR
 have hsz:=hT.size
 refine bodyPost_ret (v:= .agg #[.int .i64 p.n,.slice a1 p.st.r.length c1,.int .i64 p.st.q,.int .i64 p.st.d,.slice a4 p.p.length c4,.slice a5 p.t.length c5,.slice a6 p.a.length c6]) (by simp [results,Tryz.results106,go_sem,t0,t1,t2,t3,t4,t5,t6]) rfl
  ⟨_,rfl,HX5.out.trans (hT.to_below (fun k e=>by omega) (by omega)),_,_,_,_,_,_,_,_,rfl,HO1.out.turns hT (fun k e=>by omega),HO4.out.turns hT (fun k e=>by omega),HO5.out.turns hT (fun k e=>by omega),HO6.out.turns hT (fun k e=>by omega),fun k e=>⟨⟨by omega,by omega⟩,by omega,by omega,by omega⟩,fun k e=>⟨⟨by omega,by omega⟩,by omega,by omega⟩,fun k e=>⟨⟨by omega,by omega⟩,by omega⟩,fun k e=>⟨by omega,by omega⟩⟩
def ym2 (w:World) (v v':Value):Prop:=v'.ownBlock=v.ownBlock∨ ∀k,v'.ownBlock=some k→w.heap.size≤k
theorem yf2 {P:Program} (w:World) (base:Nat) (t ty e:TypeId) (i:TypeInfo) (z:Value) (size bytes:Nat) (ht:P.underlying t=some (.slice e)) (hi:P.info? e=some i) (hz:i.zero=some z) (hsize:i.size=size) (hby:i.bytes=bytes) (hzs:z.cells.size=size) (hsz:0<size)
  (v:Value) (n:Nat) (xs:List Value) (hown:w.ownsRow base e size v n xs) (ad:Addr) (m c:Nat) (news:List Value) (hl:news.length=m*size) (hnews:∀j u,news[j]? =some u→w.cell? (ad.add j)=some u) (h1:∀u∈news,u.oneCell'=true)
  (h63:n+m≤maxLen) (hbytes:(n+m)*bytes≤140737488355328) (hbase:base≤w.heap.size):
  ∃v' w',(Builtin.append_ #[t,t] ty #[v,.slice (some ad) m c]).run P w= .ok v' w'∧w'.ownsRow base e size v' (n+m) (xs++news)∧w.grownBy w' v.ownBlock∧ym2 w v v':=by
 obtain⟨v',w',hr,h2,h3,_⟩:=run_append_own (P:=P) w base t ty e i z size bytes ht hi hz hsize hby hzs hsz v n xs hown ad m c news hl hnews h1 h63 hbytes hbase
 refine⟨v',w',hr,h2,h3,?_⟩
 have hown':=hown
 obtain⟨_,⟨rfl,h0⟩|⟨g,cap,cur,rfl,hg,hc,hnc,hcm,hcs,htk⟩⟩:=hown
 ·right
  obtain⟨v2,w2,hr2,r1,_⟩:=run_append_own (P:=P) w w.heap.size t ty e i z size bytes ht hi hz hsize hby hzs hsz (.slice none 0 0) n xs ⟨hown'.1,.inl ⟨rfl,h0⟩⟩ ad m c news hl hnews h1 h63 hbytes (Nat.le_refl _)
  rw [hr]at hr2
  cases hr2
  exact fun k e=>(World.ownsRow.lt r1 k e).1
 ·by_cases hroom:n+m≤cap
  ·left
   obtain⟨w2,hr2,_⟩:=run_append_fits (P:=P) w base t ty e i size ht hi hsize g n cap xs hown' ad m c news hl hnews h1 hroom
   rw [hr]at hr2
   cases hr2
   rfl
  ·right
   obtain⟨v2,w2,hr2,r1,_⟩:=run_append_arg_grows (P:=P) w t ty e i z size bytes ht hi hz hsize hby hzs hsz ⟨g,0,none⟩ n cap xs hown'.1 (World.ownsRow.cells hown' rfl) ad m c news hl hnews (by omega) h63 hbytes
   rw [hr]at hr2
   cases hr2
   exact fun k e=>(World.ownsRow.lt r1 k e).1
theorem yhp {P:Program} {ops:Array Oper} {o:Oper} {a:Act} {w:World} {K:Act→World→Prop} {Q:Exit→Act→World→Prop} {E:Prop}
  (hg:o.guard=none) (s x:Operand) (t:TypeId) (hop:o.op=Op.call {callee:=Callee.builtin Builtin.append,args:= #[s,x],argTypes:= #[t,t]})
  (base:Nat) (e:TypeId) (i:TypeInfo) (z:Value) (size bytes:Nat) (h1:P.underlying t=some (.slice e)) (h2:P.info? e=some i) (h3:i.zero=some z) (h4:i.size=size) (h5:i.bytes=bytes) (h6:z.cells.size=size) (h7:0<size)
  (v:Value) (n:Nat) (xs:List Value) (hs:a.eval s=v) (hown:w.ownsRow base e size v n xs)
  (ad:Addr) (m c:Nat) (news:List Value) (hx:a.eval x= .slice (some ad) m c) (hn:news.length=m*size) (hc:∀j u,news[j]? =some u→w.cell? (ad.add j)=some u) (h1c:∀u∈news,u.oneCell'=true)
  (b1:n+m≤maxLen) (b2:(n+m)*bytes≤140737488355328) (hbase:base≤w.heap.size)
  (hK:∀v' w',w'.ownsRow base e size v' (n+m) (xs++news)→w.grownBy w' v.ownBlock→ym2 w v v'→K (a.put o.dst v') w'):
  if Region.wanted o (yielded ops a.tmps)=true then Oper.wp P o a w K Q else E:=by
 have hw:Region.wanted o (yielded ops a.tmps)=true:=by simp [Region.wanted,hg]
 rw [if_pos hw]
 obtain⟨v',w',hr,q1,q2,q3⟩:=yf2 (P:=P) w base t o.type e i z size bytes h1 h2 h3 h4 h5 h6 h7 v n xs hown ad m c news hn hc h1c b1 b2 hbase
 unfold Oper.wp execOp
 simp only [hop,resolve,invoke,builtin,Sem.run_bind,Sem.run_pure,Result.andThen_ok,List.map_toArray,List.map_cons,List.map_nil,hs,hx,hr]
 exact hK v' w' q1 q2 q3
theorem yjx {B:Nat} {T:TypeId} {w:World} {x:Value} {n c:Nat} {cs:List Value} (hcs:cs.length=n*c) (h:w.ownsRow B T c x n cs):RowF (fun k=>x.ownBlock=some k) w x n c cs:=by
 obtain⟨hl,⟨rfl,h0⟩|⟨g,cap,cur,rfl,hg,hc,h1,h2,h3,h4⟩⟩:=h
 ·exact⟨hcs,none,0,by rw [h0],by omega,by unfold maxLen;omega,.inl h0⟩
 ·have hlt:g<w.heap.size:=(Array.getElem?_eq_some_iff.1 hc).1
  refine⟨hcs,_,cap,rfl,h1,h2,.inr ⟨g,rfl,rfl,hlt,fun j hj=> ?_⟩⟩
  have hj2:j<cur.size:=by rw [h3];exact Nat.lt_of_lt_of_le hj (Nat.mul_le_mul_right c h1)
  refine⟨?_,by simp [World.frozen?,hc]⟩
  rw [←h4,List.getElem?_take_of_lt (by omega)]
  simp [World.cell?,hc]
theorem yrp {w w':World} {B:Nat} {v:Value} {T:TypeId} {c n:Nat} {cs:List Value} (h:w.ownsRow B T c v n cs) (hb:∀k,v.ownBlock=some k→w'.heap[k]? =w.heap[k]?):w'.ownsRow B T c v n cs:=by
 obtain⟨h0,⟨e,h1⟩|⟨g,cap,cur,rfl,hg,hc,h1⟩⟩:=h
 ·exact⟨h0,.inl ⟨e,h1⟩⟩
 ·exact⟨h0,.inr ⟨g,cap,cur,rfl,hg,(hb g rfl).trans hc,h1⟩⟩
theorem ybl {S:Nat→Prop} {w w':World} {B:Nat} {v:Value} {T:TypeId} {c n:Nat} {cs:List Value} (h:w.ownsRow B T c v n cs) (ht:Turns S w w') (hS:∀k,v.ownBlock=some k→ ¬S k):w'.ownsRow B T c v n cs:=
 yrp h fun k hk=>ht.block k (World.ownsRow.lt h k hk).2 (hS k hk)
theorem owB {w w':World} {B:Nat} {v:Value} {T:TypeId} {c n:Nat} {cs:List Value} (h:w.ownsRow B T c v n cs) (hb:Below w.heap.size w w'):w'.ownsRow B T c v n cs:=ybl (S:=fun _=>False) h (Turns.of_below hb) (fun _ _=>id)
theorem yai {w w':World} {row:Option Nat} (h:w.grownBy w' row):Turns (fun k=>row=some k) w w':=⟨h.os,h.tape,h.output,h.size,fun k hk hS=>h.block k hk (fun e=>hS e.symm)⟩
theorem yd0 {B:Nat} {e:TypeId} {size n:Nat} {w:World} {v:Value} {xs:List Value} (h:w.ownsRow B e size v n xs) {P:Nat} {T:TypeId} {vs:Array Value} (hb:Bk w P T vs) (hT:T≠e):¬v.ownBlock=some P:=by
 intro hE
 obtain⟨_,⟨rfl,_⟩|⟨g,cap,cur,rfl,_,hc,_⟩⟩:=h
 ·simp [Value.ownBlock]at hE
 ·simp [Value.ownBlock]at hE
  subst hE
  have hb':w.heap[g]? =some (.cells vs T):=hb
  rw [hb']at hc
  simp at hc
  exact hT hc.2
theorem owN {w w':World} {B b:Nat} {v:Value} {T U:TypeId} {c n:Nat} {cs:List Value} {vs:Array Value} (h:w.ownsRow B T c v n cs) (ht:Turns (fun j=>j=b) w w') (hb:Bk w b U vs) (hT:U≠T:=by decide):w'.ownsRow B T c v n cs:=ybl h ht (fun _ hj e=>yd0 h hb hT (e▸hj))
theorem owns_lt {B:Nat} {e:TypeId} {size n:Nat} {w:World} {v:Value} {xs:List Value} (h:w.ownsRow B e size v n xs) {k:Nat} (hk:v.ownBlock=some k):k<w.heap.size:=by
 obtain⟨_,⟨rfl,_⟩|⟨g,cap,cur,rfl,_,hc,_⟩⟩:=h
 ·simp [Value.ownBlock]at hk
 ·simp [Value.ownBlock]at hk
  subst hk
  exact(Array.getElem?_eq_some_iff.1 hc).1
theorem yb7 {B B':Nat} {e:TypeId} {size n:Nat} {w:World} {v:Value} {xs:List Value} (h:w.ownsRow B e size v n xs) (hB:B'≤B):w.ownsRow B' e size v n xs:=by
 obtain⟨h0,h1|⟨g,cap,cur,e,hg,h2⟩⟩:=h
 ·exact⟨h0,.inl h1⟩
 ·exact⟨h0,.inr ⟨g,cap,cur,e,Nat.le_trans hB hg,h2⟩⟩
theorem yal {B:Nat} {e:TypeId} {size n:Nat} {w:World} {v:Value} {xs:List Value} (h:w.ownsRow B e size v n xs):∃a cap,v= .slice a n cap:=by
 obtain⟨_,⟨rfl,h0⟩|⟨g,cap,cur,rfl,_⟩⟩:=h
 ·exact⟨none,0,by rw [h0]⟩
 ·exact⟨_,_,rfl⟩
theorem yge {P:Program} {ops:Array Oper} {rest:List Oper} {o:Oper} {a:Act} {Q:Exit→Act→World→Prop} (w:World) (hgd:o.guard=none) (s x:Operand) (t:TypeId)
  (ho:o.op= .call {callee:= .builtin .append,args:= #[s,x],argTypes:= #[t,t]})
  (base:Nat) (e:TypeId) (i:TypeInfo) (z:Value) (size bytes:Nat) (ht:P.underlying t=some (.slice e)) (hi:P.info? e=some i) (hz:i.zero=some z)
  (hsize:i.size=size) (hby:i.bytes=bytes) (hzs:z.cells.size=size) (hsz:0<size)
  (v:Value) (n:Nat) (xs:List Value) (hs:a.eval s=v) (hown:w.ownsRow base e size v n xs)
  (ad:Addr) (m c:Nat) (news:List Value) (hx:a.eval x= .slice (some ad) m c) (hl:news.length=m*size) (hnews:∀j u,news[j]? =some u→w.cell? (ad.add j)=some u) (h1:∀u∈news,u.oneCell'=true)
  (h63:n+m≤maxLen) (hbytes:(n+m)*bytes≤140737488355328) (hbase:base≤w.heap.size)
  (h:∀v' w',w'.ownsRow base e size v' (n+m) (xs++news)→w.grownBy w' v.ownBlock→ym2 w v v'→wpList P ops Q rest (a.put o.dst v') w'):wpList P ops Q (o::rest) a w:=
 wpList_plain hgd fun _ hK=>by
  obtain⟨v',w',hr,q1,q2,q3⟩:=yf2 (P:=P) w base t o.type e i z size bytes ht hi hz hsize hby hzs hsz v n xs hown ad m c news hl hnews h1 h63 hbytes hbase
  unfold Oper.wp execOp
  simp only [ho,resolve,invoke,builtin,Sem.run_bind,Sem.run_pure,Result.andThen_ok,List.map_toArray,List.map_cons,List.map_nil,hs,hx,hr]
  exact hK _ _ (h v' w' q1 q2 q3)
end Go.Proofs.YtmobiieoecjmdaaGreat

/- Rows of numbers: eqByteS where both sides are the same, markByteS, heldByteS. -/
namespace Go.Proofs.YtmobiieoecjmdaaGreat.By
open Go.RowKit Go.Proofs.YtmobiieoecjmdaaGreat
def intAt (l:List UInt8) (i:Nat):UInt8:=l.getD i 0
def intCells (l:List UInt8):List Value:=l.map (fun z=>Value.int .u8 (z.toNat:Int))
def IntsAt (w:World) (b off:Nat) (l:List UInt8):Prop:=b<w.heap.size∧ ∀i,i<l.length→w.cell? ⟨b,off+i,none⟩=some (.int .u8 ((intAt l i).toNat:Int))
def IsI (w:World) (x:Value) (l:List UInt8):Prop:=∃a cap,x= .slice a l.length cap∧l.length≤cap∧cap≤maxLen∧(l= []∨ ∃b off,a=some ⟨b,off,none⟩∧IntsAt w b off l)
theorem IntsAt.below {w w':World} {B b off:Nat} {l:List UInt8} (h:IntsAt w b off l) (hb:Below B w w') (hB:b<B):IntsAt w' b off l:=
 ⟨Nat.lt_of_lt_of_le h.1 hb.size,fun i hi=>(hb.cell hB).trans (h.2 i hi)⟩
theorem IsI.below {w w':World} {x:Value} {l:List UInt8} (h:IsI w x l) (hb:Below w.heap.size w w'):IsI w' x l:=by
 obtain⟨a,cap,rfl,h1,h2,h⟩:=h
 exact⟨a,cap,rfl,h1,h2,h.imp id (fun⟨b,off,e,h⟩=>⟨b,off,e,h.below hb h.1⟩)⟩
theorem yh7 (w:World) (row:Option Nat):w.grownBy w row:=⟨rfl,rfl,rfl,Nat.le_refl _,fun _ _ _=>rfl⟩
def OwnI (B:Nat) (w:World) (x:Value) (l:List UInt8):Prop:=∃a cap,x= .slice a l.length cap∧l.length≤cap∧cap≤maxLen∧(l= []∨ ∃g,a=some ⟨g,0,none⟩∧B≤g∧(∀j,j<l.length→w.frozen? ⟨g,j,none⟩=false)∧IntsAt w g 0 l)
theorem OwnI.nil (B:Nat) (w:World):OwnI B w (.slice none 0 0) []:=⟨none,0,rfl,Nat.le_refl _,Nat.zero_le _,.inl rfl⟩
theorem OwnI.isI {B:Nat} {w:World} {x:Value} {l:List UInt8} (h:OwnI B w x l):IsI w x l:=by
 obtain⟨a,cap,rfl,h1,h2,h⟩:=h
 exact⟨a,cap,rfl,h1,h2,h.imp id (fun⟨g,e,_,_,hr⟩=>⟨g,0,e,hr⟩)⟩
theorem OwnI.mono {B B':Nat} {w:World} {x:Value} {l:List UInt8} (h:OwnI B w x l) (hb:B'≤B):OwnI B' w x l:=by
 obtain⟨a,cap,rfl,h1,h2,h⟩:=h
 exact⟨a,cap,rfl,h1,h2,h.imp id (fun⟨g,e,hg,hr⟩=>⟨g,e,Nat.le_trans hb hg,hr⟩)⟩
theorem OwnI.of_row {B:Nat} {w:World} {x:Value} {l:List UInt8} (h:w.ownsRow B 5 1 x l.length (intCells l)):OwnI B w x l:=by
 obtain⟨hl,⟨rfl,h0⟩|⟨g,cap,cur,rfl,hg,hc,h1,h2,h3,h4⟩⟩:=h
 ·exact⟨none,0,by rw [h0],by omega,by unfold maxLen;omega,.inl (List.eq_nil_of_length_eq_zero h0)⟩
 ·refine⟨_,cap,rfl,h1,h2,.inr ⟨g,rfl,hg,fun j hj=> ?_,(Array.getElem?_eq_some_iff.1 hc).1,fun i hi=> ?_⟩⟩
  ·have hj2:j<cur.size:=by omega
   simp [World.frozen?,hc]
  ·have e1:w.cell? ⟨g,i,none⟩=(intCells l)[i]? :=by
    rw [←h4,List.getElem?_take_of_lt (by omega)]
    simp [World.cell?,hc]
   rw [Nat.zero_add,e1]
   simp [intCells,intAt,hi]
def RowI (w:World) (g:Nat) (l:List UInt8):Prop:=g<w.heap.size∧ ∀j,j<l.length→w.cell? ⟨g,j,none⟩=some (.int .u8 ((intAt l j).toNat:Int))∧w.frozen? ⟨g,j,none⟩=false
def FillI (w:World) (g n:Nat) (l:List UInt8) (k:Nat):Prop:=g<w.heap.size∧(∀j,j<n→(w.cell? ⟨g,j,none⟩).isSome=true∧w.frozen? ⟨g,j,none⟩=false)∧ ∀i,i<k→w.cell? ⟨g,i,none⟩=some (.int .u8 ((intAt l i).toNat:Int))
theorem FillI.row {w:World} {g:Nat} {l:List UInt8} (h:FillI w g l.length l l.length):RowI w g l:=⟨h.1,fun j hj=>⟨h.2.2 j hj,(h.2.1 j hj).2⟩⟩
theorem FillI.put {w:World} {g n k:Nat} {l:List UInt8} (h:FillI w g n l k) (hk:k<n):FillI (w.setCell ⟨g,k,none⟩ (.int .u8 ((intAt l k).toNat:Int))) g n l (k+1):=by
 have e1:w.setCell ⟨g,k,none⟩ (.int .u8 ((intAt l k).toNat:Int))=w.setCells g k [.int .u8 ((intAt l k).toNat:Int)]:=rfl
 have hsame:∀j,j≠k→(w.setCell ⟨g,k,none⟩ (.int .u8 ((intAt l k).toNat:Int))).cell? ⟨g,j,none⟩=w.cell? ⟨g,j,none⟩:=fun j hj=>by
  rw [e1]
  exact World.cell?_setCells_out g _ k w ⟨g,j,none⟩ (fun _ _=>by simp;omega)
 have hat:(w.setCell ⟨g,k,none⟩ (.int .u8 ((intAt l k).toNat:Int))).cell? ⟨g,k,none⟩=some (.int .u8 ((intAt l k).toNat:Int)):=by
  rw [e1]
  have h0:=World.cell?_setCells_in g [.int .u8 ((intAt l k).toNat:Int)] k w (fun j hj=>by
   obtain rfl:j=0:=by simpa using hj
   exact(h.2.1 k hk).1) 0 (by simp)
  simpa using h0
 refine⟨by simpa using h.1,fun j hj=> ?_,fun i hi=> ?_⟩
 ·refine⟨?_,?_⟩
  ·by_cases e:j=k
   ·subst e;rw [hat];rfl
   ·rw [hsame j e];exact(h.2.1 j hj).1
  ·rw [e1,World.frozen?_setCells];exact(h.2.1 j hj).2
 ·by_cases e:i=k
  ·subst e;exact hat
  ·rw [hsame i e];exact h.2.2 i (by omega)
theorem FillI.made {w1:World} {B:Nat} {z:List Value} {n:Nat} {l:List UInt8} (h:w1.ownsRow B 5 1 (.slice (some ⟨B,0,none⟩) n n) n z):FillI w1 B n l 0:=by
 obtain⟨hl,h|⟨g,cap,cur,e,hg,hc,h1,h2,h3,h4⟩⟩:=h
 ·simp at h
 ·simp at e
  obtain⟨rfl,rfl⟩:=e
  have hlt:B<w1.heap.size:=(Array.getElem?_eq_some_iff.1 hc).1
  refine⟨hlt,fun j hj=> ?_,fun i hi=>by omega⟩
  have hj2:j<cur.size:=by omega
  simp [World.cell?,World.frozen?,hc,hj2]
theorem info5:(Tryz.prog.info? 5).map (fun i=>(i.zero,i.size,i.bytes))=some (some (.int .u8 0),1,1):=by kernel_rfl
end Go.Proofs.YtmobiieoecjmdaaGreat.By

/- Rows of bytes that grow. -/
namespace Go.Proofs.YtmobiieoecjmdaaGreat
set_option maxHeartbeats 1000000
set_option maxRecDepth 100000
open Go.RowKit
def byteOf (z:Int):UInt8:=UInt8.ofNat (z%256).toNat
theorem yji (z:Int):((byteOf z).toNat:Int)=z%256:=by
 unfold byteOf
 have h1:0≤z%256:=Int.emod_nonneg _ (by omega)
 have h2:z%256<256:=Int.emod_lt_of_pos _ (by omega)
 rw [UInt8.toNat_ofNat']
 omega
def twoB (z:Int):List UInt8:= [byteOf (z/256),byteOf z]
def RowBy (B:Nat) (w:World) (x:Value) (l:List UInt8):Prop:=w.ownsRow B 5 1 x l.length (By.intCells l)
theorem yix (l l':List UInt8):By.intCells (l++l')=By.intCells l++By.intCells l':=by simp [By.intCells]
theorem RowBy.own {B:Nat} {w:World} {x:Value} {l:List UInt8} (h:RowBy B w x l):By.OwnI B w x l:=By.OwnI.of_row h
theorem RowBy.mono {B B':Nat} {w:World} {x:Value} {l:List UInt8} (h:RowBy B w x l) (hB:B'≤B):RowBy B' w x l:=by
 obtain⟨h0,h1|⟨g,cap,cur,e,hg,h1⟩⟩:=h
 ·exact⟨h0,.inl h1⟩
 ·exact⟨h0,.inr ⟨g,cap,cur,e,Nat.le_trans hB hg,h1⟩⟩
theorem RowBy.below {B:Nat} {w w':World} {x:Value} {l:List UInt8} (h:RowBy B w x l) (hb:Below w.heap.size w w'):RowBy B w' x l:=by
 obtain⟨h0,h1|⟨g,cap,cur,e,hg,hc,h1⟩⟩:=h
 ·exact⟨h0,.inl h1⟩
 ·exact⟨h0,.inr ⟨g,cap,cur,e,hg,(hb.block g (Array.getElem?_eq_some_iff.1 hc).1).trans hc,h1⟩⟩
theorem RowBy.ne {B:Nat} {w:World} {x:Value} {l:List UInt8} (h:RowBy B w x l) {P:Nat} {T:TypeId} {vs:Array Value} (hb:Bk w P T vs) (hT:T≠5):¬x.ownBlock=some P:=by
 intro e
 obtain⟨_,⟨rfl,_⟩|⟨g,cap,cur,rfl,_,hc,_⟩⟩:=h
 ·simp [Value.ownBlock]at e
 ·simp [Value.ownBlock]at e
  subst e
  have hb':w.heap[g]? =some (.cells vs T):=hb
  rw [hb']at hc
  simp at hc
  exact hT hc.2
theorem yhc (w:World) (a b:Value):∀j u,[a,b][j]? =some u→(w.alloc (.cells #[a,b] 5)).cell? ((⟨w.heap.size,0,none⟩:Addr).add j)=some u:=by
 intro j u hu
 match j,hu with
 |0,hu=>simp at hu;subst hu;simp [Addr.add]
 |1,hu=>simp at hu;subst hu;simp [Addr.add]
 |(j+2),hu=>simp at hu
theorem yki (w:World) (a:Value):∀j u,[a][j]? =some u→(w.alloc (.cells #[a] 5)).cell? ((⟨w.heap.size,0,none⟩:Addr).add j)=some u:=by
 intro j u hu
 match j,hu with
 |0,hu=>simp at hu;subst hu;simp [Addr.add]
 |(j+1),hu=>simp at hu
theorem RowBy.grow {B:Nat} {w:World} {v:Value} {l r:List UInt8} {n:Nat} {cs:List Value} (h:w.ownsRow B 5 1 v (l.length+n) (By.intCells l++cs)) (hcs:By.intCells r=cs) (hn:r.length=n):RowBy B w v (l++r):=by
 subst hcs hn
 unfold RowBy
 rw [List.length_append,yix]
 exact h
theorem cells_one (z:Int):By.intCells [byteOf z]= [.int .u8 (z%256)]:=by simp [By.intCells,yji]
theorem yct {z:Int} (h0:0≤z) (h1:z≤255):By.intCells [byteOf z]= [.int .u8 z]:=by rw [cells_one,show z%256=z by omega]
theorem yjh {z y:Int} (h0:0≤z) (h1:z≤255) (h2:0≤y) (h3:y≤255):By.intCells [byteOf z,byteOf y]= [.int .u8 z,.int .u8 y]:=by
 have e:By.intCells [byteOf z,byteOf y]=By.intCells [byteOf z]++By.intCells [byteOf y]:=rfl
 rw [e,yct h0 h1,yct h2 h3]
 rfl
theorem ylz (z:Int):By.intCells (twoB z)= [.int .u8 (z/256%256),.int .u8 (z%256)]:=by simp [By.intCells,twoB,yji]
theorem yqa {z:Int} (h0:0≤z) (h1:z≤65535):By.intCells (twoB z)= [.int .u8 (z/256),.int .u8 (z%256)]:=by rw [ylz,show z/256%256=z/256 by omega]
theorem ydn (B:Nat) (x:Value) (l:List UInt8) (z:Int) (w:World) (hB:B≤w.heap.size) (hl:l.length≤1000000) (h:RowBy B w x l):
  Calls Tryz.prog 137 #[x,.int .i64 z] w fun e w'=>∃y,e= .returned y∧RowBy B w' y (l++twoB z)∧Turns (fun k=>x.ownBlock=some k) w w':=by
 obtain⟨i0,hi,hz0,hz1,hz2⟩:=info_parts By.info5
 have HR:Hid (RowBy B w x l):=h
 clear h
 go_enter Tryz.func137,Tryz.ntmps137
 go_wp2_with (at_builtin;refine wpList_append_own _ rfl _ _ 127 rfl B 5 i0 (.int .u8 0) 1 1 Tryz.underlying127 hi hz0 hz1 hz2 rfl (by decide) x _ _ rfl (World.ownsRow.alloc HR.out _) ⟨w.heap.size,0,none⟩ 2 2 [.int .u8 (z/256%256),.int .u8 (z%256)] rfl rfl (yhc _ _ _) (fun u hu=>by simp at hu;first|(subst hu;rfl)|(rcases hu with rfl|rfl<;>rfl)) (by unfold maxLen;omega) (by omega) (by simp;omega) ?_;intro v' w2 hown hgrow hnil)
 go_ret
 exact⟨_,rfl,RowBy.grow hown (ylz z) rfl,((Turns.refl _ w).alloc _).trans (yai hgrow)⟩
theorem yfn (B:Nat) (x:Value) (l:List UInt8) (z:Int) (w:World) (hB:B≤w.heap.size) (hl:l.length≤1000000) (hz:0≤z) (hz9:z≤65535) (h:RowBy B w x l):
  Calls Tryz.prog 181 #[x,.int .i64 z] w fun e w'=>∃y,e= .returned y∧RowBy B w' y (l++twoB z)∧Turns (fun k=>x.ownBlock=some k) w w':=by
 obtain⟨i0,hi,hz0,hz1,hz2⟩:=info_parts By.info5
 have HR:Hid (RowBy B w x l):=h
 have HZ:Hid (0≤z∧z≤65535):=⟨hz,hz9⟩
 clear h
 go_enter Tryz.func181,Tryz.ntmps181
 go_wp2_with (at_builtin;refine wpList_append_own _ rfl _ _ 127 rfl B 5 i0 (.int .u8 0) 1 1 Tryz.underlying127 hi hz0 hz1 hz2 rfl (by decide) x _ _ rfl (World.ownsRow.alloc HR.out _) ⟨w.heap.size,0,none⟩ 2 2 [.int .u8 (z/256),.int .u8 (z%256)] rfl rfl (yhc _ _ _) (fun u hu=>by simp at hu;first|(subst hu;rfl)|(rcases hu with rfl|rfl<;>rfl)) (by unfold maxLen;omega) (by omega) (by simp;omega) ?_;intro v' w2 hown hgrow hnil)
 go_ret
 exact⟨_,rfl,RowBy.grow hown (yqa HZ.out.1 HZ.out.2) rfl,((Turns.refl _ w).alloc _).trans (yai hgrow)⟩
set_option maxHeartbeats 4000000
set_option maxRecDepth 100000
open Go.RowKit
theorem yee {p:Prop} (h:p):Hid p:=h
def opB (o:O):List UInt8:= [byteOf o.c,byteOf o.a]++twoB o.b++ [byteOf o.k]
def opsB (r:List O):Nat→List UInt8
 |0=> []
 |k+1=>opsB r k++opB (oAt r k)
def yl3 (r:List O):List UInt8:= [byteOf (r.length:Int)]++opsB r r.length
def evB (e:Ev):List UInt8:=twoB e.t++ [byteOf e.d,byteOf e.k]++twoB e.v
theorem ypr (o:O):(opB o).length=5:=rfl
theorem yep (r:List O):∀k,(opsB r k).length=5*k
 |0=>rfl
 |k+1=>by simp [opsB,yep r k,ypr];omega
theorem yq5 (e:Ev):(evB e).length=6:=rfl
theorem yd7 (z:Int):(twoB z).length=2:=rfl
def yr0 (o:O):Prop:=0≤o.c∧o.c≤255∧0≤o.a∧o.a≤255∧0≤o.b∧o.b≤65535∧0≤o.k∧o.k≤255
theorem yn0 (B:Nat) (x u:Value) (l:List UInt8) (r:List O) (w:World) (hB:B≤w.heap.size) (hl:l.length≤10000) (hr:r.length≤255) (hsm:∀q,q<r.length→yr0 (oAt r q)) (h:RowBy B w x l) (hu:∃a cap,u= .slice a r.length cap∧(r= []∨ ∃b off,a=some ⟨b,off,none⟩∧b<B∧OsAt w b off r)):
  Calls Tryz.prog 182 #[x,u] w fun e w'=>∃y,e= .returned y∧RowBy B w' y (l++yl3 r)∧Below B w w':=by
 obtain⟨i0,hi,hz0,hz1,hz2⟩:=info_parts By.info5
 obtain⟨a1,c1,rfl,hu⟩:=hu
 have HR:Hid (RowBy B w x l):=h
 have HU:=yee hu
 have HSM:=yee hsm
 have hr0:(0:Int)≤(r.length:Int):=by omega
 have hr1:(r.length:Int)≤255:=by omega
 clear h hu hsm
 go_enter Tryz.func182,Tryz.ntmps182
 go_wp2_with (at_builtin;refine wpList_append_own _ rfl _ _ 127 rfl B 5 i0 (.int .u8 0) 1 1 Tryz.underlying127 hi hz0 hz1 hz2 rfl (by decide) x _ _ rfl (World.ownsRow.alloc HR.out _) ⟨w.heap.size,0,none⟩ 1 1 [.int .u8 (r.length:Int)] rfl rfl (yki _ _) (fun u hu=>by simp at hu;first|(subst hu;rfl)|(rcases hu with rfl|rfl<;>rfl)) (by unfold maxLen;omega) (by omega) (by simp;omega) ?_;intro v1 w1 hown hgrow hnil)
 have HR1:=yee (RowBy.grow hown (yct hr0 hr1) rfl)
 have HB1:Hid (Below B w w1):=((Below.refl B w).alloc hB _).grown hgrow (by simp;omega) (fun j e=>yb6 HR.out e)
 clear hown hgrow hnil
 have hll:(l++ [byteOf (r.length:Int)]).length=l.length+1:=by simp
 have HLL:Hid (l++yl3 r=(l++ [byteOf (r.length:Int)])++opsB r r.length):=(by simp [yl3]:l++yl3 r=(l++ [byteOf (r.length:Int)])++opsB r r.length)
 generalize l++ [byteOf (r.length:Int)]=l1 at HR1 HLL hll
 go_loopw [0,15] (fun o i wr=>∃(q:Nat) (v:Value),q≤r.length∧v=o∧i= .int .i64 q∧RowBy B wr o (l1++opsB r q)∧Below B w wr) (fun _ i _=>r.length-(intOf i).toNat)
 case atStart=>exact⟨0,_,Nat.zero_le _,rfl,rfl,by simpa [opsB] using HR1.out,HB1.out⟩
 case round=>
  clear HR1 HB1
  obtain⟨q,o,hq,rfl,rfl,hR,hBw⟩:=hrel
  have HR1:=yee hR
  have HB1:Hid (Below B w wr):=hBw
  have hs1:B≤wr.heap.size:=Nat.le_trans hB hBw.size
  have hln:(l1++opsB r q).length≤12000:=by rw [List.length_append,yep];omega
  have HN:Hid (l1++opsB r (q+1)=(l1++opsB r q)++opB (oAt r q)):=(by simp [opsB]:l1++opsB r (q+1)=(l1++opsB r q)++opB (oAt r q))
  generalize hlq:l1++opsB r q=lq at HR1 hln HN
  have HLQ:=yee hlq
  clear hlq
  clear hR
  by_cases hlt:q<r.length
  ·obtain⟨b,off,rfl,hb,hb2,hc⟩:=HU.out.resolve_left (by intro e;rw [e]at hlt;simp at hlt)
   obtain⟨g0,g1,g2,g3⟩:=(hc q hlt).below hBw hb
   obtain⟨s0,s1,s2,s3,s4,s5,s6,s7⟩:=HSM.out q hlt
   generalize oAt r q=e at g0 g1 g2 g3 HN s0 s1 s2 s3 s4 s5 s6 s7
   obtain⟨c,a,b2,k2⟩:=e
   simp only at s0 s1 s2 s3 s4 s5 s6 s7
   have HSS:Hid ((0≤c∧c≤255∧0≤a∧a≤255)∧(0≤b2∧b2≤65535)∧0≤k2∧k2≤255):=⟨⟨s0,s1,s2,s3⟩,⟨s4,s5⟩,s6,s7⟩
   clear hc hBw
   obtain⟨V,hV⟩:∃V,wr.alloc (.cells #[.int .i64 c,.int .i64 a,.int .i64 b2,.int .i64 k2] 182)=V:=⟨_,rfl⟩
   have hsV:B≤V.heap.size:=by rw [←hV];simp;omega
   have HBV:Hid (Below B w V):=hV▸HB1.out.alloc hs1 _
   have HRV:Hid (RowBy B V o lq):=hV▸World.ownsRow.alloc HR1.out _
   have HQV:=hdq (bkA hV)
   have e0:=HQV.out.cell (i:=0) rfl
   have e1:=HQV.out.cell (i:=1) rfl
   clear HB1 HR1
   go_wp2_with (at_builtin;refine wpList_append_own _ rfl _ _ 127 rfl B 5 i0 (.int .u8 0) 1 1 Tryz.underlying127 hi hz0 hz1 hz2 rfl (by decide) o _ _ rfl (World.ownsRow.alloc HRV.out _) ⟨V.heap.size,0,none⟩ 2 2 [.int .u8 c,.int .u8 a] rfl rfl (yhc _ _ _) (fun u hu=>by simp at hu;first|(subst hu;rfl)|(rcases hu with rfl|rfl<;>rfl)) (by unfold maxLen;omega) (by omega) (by simp;omega) ?_;intro v2 w2 hown hgrow hnil;have HR2:Hid (RowBy B w2 v2 (lq++ [byteOf c,byteOf a])):=RowBy.grow hown (yjh HSS.out.1.1 HSS.out.1.2.1 HSS.out.1.2.2.1 HSS.out.1.2.2.2) rfl;have HB2:Hid (Below B w w2):=(HBV.out.alloc (by omega) _).grown hgrow (by simp;omega) (fun j e=>yb6 HRV.out e);have HQ2:Hid (Bk w2 wr.heap.size 182 #[.int .i64 c,.int .i64 a,.int .i64 b2,.int .i64 k2]):=(HQV.out.alloc _).turns (yai hgrow) (HRV.out.ne HQV.out (by decide));have e2:=HQ2.out.cell (i:=2) rfl;clear hown hgrow hnil)
   have hs2:B≤w2.heap.size:=Nat.le_trans hB HB2.out.size
   clear e0 e1 e2 g0 g1 g2 g3 hV HBV HRV HQV
   refine(yfn B _ _ _ _ hs2 (by rw [List.length_append];simp;omega) HSS.out.2.1.1 HSS.out.2.1.2 HR2.out).mono ?_
   rintro e w3 ⟨v3,rfl,hr3,ht3⟩
   have HR3:=yee hr3
   have HB3:Hid (Below B w w3):=HB2.out.trans (ht3.to_below (fun k e=>yb6 HR2.out e) hs2)
   have HQ3:=yee (HQ2.out.turns ht3 (HR2.out.ne HQ2.out (by decide)))
   have e3:=HQ3.out.cell (i:=3) rfl
   have hs3:B≤w3.heap.size:=Nat.le_trans hB HB3.out.size
   have hl3:(lq++ [byteOf c,byteOf a]++twoB b2).length≤12004:=by rw [List.length_append,List.length_append,yd7];simp;omega
   clear hr3 ht3 HR2 HB2 HQ2
   go_wp2_with (at_builtin;refine wpList_append_own _ rfl _ _ 127 rfl B 5 i0 (.int .u8 0) 1 1 Tryz.underlying127 hi hz0 hz1 hz2 rfl (by decide) v3 _ _ rfl (World.ownsRow.alloc HR3.out _) ⟨w3.heap.size,0,none⟩ 1 1 [.int .u8 k2] rfl rfl (yki _ _) (fun u hu=>by simp at hu;first|(subst hu;rfl)|(rcases hu with rfl|rfl<;>rfl)) (by unfold maxLen;omega) (by omega) (by simp;omega) ?_;intro v4 w4 hown hgrow hnil)
   go_roundw
   case rel=>
    refine⟨q+1,_,by omega,rfl,by go_num,?_,(HB3.out.alloc hs3 _).grown hgrow (by simp;omega) (fun j e=>yb6 HR3.out e)⟩
    have:=RowBy.grow hown (yct HSS.out.2.2.1 HSS.out.2.2.2) rfl
    rw [HN.out]
    simpa [opB] using this
   case measure=>simp [intOf];omega
  ·obtain rfl:q=r.length:=by omega
   clear hBw
   go_wp2
   go_ret
   exact⟨_,rfl,by rw [HLL.out,HLQ.out];exact HR1.out,HB1.out⟩
theorem yqu (B:Nat) (x:Value) (l:List UInt8) (t s1 qq d kk v g:Int) (w:World) (hB:B≤w.heap.size) (hl:l.length≤10000) (ht0:0≤t) (ht1:t≤65535) (hd0:0≤d) (hd1:d≤255) (hk0:0≤kk) (hk1:kk≤255) (hv0:0≤v) (hv1:v≤65535) (h:RowBy B w x l):
  Calls Tryz.prog 183 #[x,.agg #[.int .i64 t,.int .i64 s1,.int .i64 qq,.int .i64 d,.int .i64 kk,.int .i64 v,.int .i64 g]] w fun e w'=>∃y,e= .returned y∧RowBy B w' y (l++evB ⟨t,s1,qq,d,kk,v,g⟩)∧Below B w w':=by
 obtain⟨i0,hi,hz0,hz1,hz2⟩:=info_parts By.info5
 obtain⟨V,hV⟩:∃V,w.alloc (.cells #[.int .i64 t,.int .i64 s1,.int .i64 qq,.int .i64 d,.int .i64 kk,.int .i64 v,.int .i64 g] 110)=V:=⟨_,rfl⟩
 have HBV:Hid (Below B w V):=hV▸(Below.refl B w).alloc hB _
 have HRV:Hid (RowBy B V x l):=hV▸World.ownsRow.alloc h _
 have HQV:=hdq (bkA hV)
 have HT:Hid ((0≤t∧t≤65535)∧(0≤v∧v≤65535)):=⟨⟨ht0,ht1⟩,hv0,hv1⟩
 have hsV:B≤V.heap.size:=Nat.le_trans hB HBV.out.size
 have e0:=HQV.out.cell (i:=0) rfl
 clear h ht0 ht1 hv0 hv1
 go_enter Tryz.func183,Tryz.ntmps183
 go_wp2_with fail
 clear e0 hV
 refine(yfn B _ _ _ _ hsV (by omega) HT.out.1.1 HT.out.1.2 HRV.out).mono ?_
 rintro e w2 ⟨v2,rfl,hr2,ht2⟩
 have HR2:=yee hr2
 have HB2:Hid (Below B w w2):=HBV.out.trans (ht2.to_below (fun k e=>yb6 HRV.out e) hsV)
 have HQ2:=yee (HQV.out.turns ht2 (HRV.out.ne HQV.out (by decide)))
 have hs2:B≤w2.heap.size:=Nat.le_trans hB HB2.out.size
 have hl2:(l++twoB t).length≤10002:=by rw [List.length_append,yd7];omega
 have HLD:Hid (l++evB ⟨t,s1,qq,d,kk,v,g⟩=(l++twoB t)++ [byteOf d,byteOf kk]++twoB v):=(by simp [evB]:l++evB ⟨t,s1,qq,d,kk,v,g⟩=(l++twoB t)++ [byteOf d,byteOf kk]++twoB v)
 generalize l++twoB t=l2 at HR2 hl2 HLD
 have e3:=HQ2.out.cell (i:=3) rfl
 have e4:=HQ2.out.cell (i:=4) rfl
 clear hr2 ht2 HBV HRV HQV
 go_wp2_with (at_builtin;refine wpList_append_own _ rfl _ _ 127 rfl B 5 i0 (.int .u8 0) 1 1 Tryz.underlying127 hi hz0 hz1 hz2 rfl (by decide) v2 _ _ rfl (World.ownsRow.alloc HR2.out _) ⟨w2.heap.size,0,none⟩ 2 2 [.int .u8 d,.int .u8 kk] rfl rfl (yhc _ _ _) (fun u hu=>by simp at hu;first|(subst hu;rfl)|(rcases hu with rfl|rfl<;>rfl)) (by unfold maxLen;omega) (by omega) (by simp;omega) ?_;intro v3 w3 hown hgrow hnil;have HR3:Hid (RowBy B w3 v3 (l2++ [byteOf d,byteOf kk])):=RowBy.grow hown (yjh hd0 hd1 hk0 hk1) rfl;have HB3:Hid (Below B w w3):=(HB2.out.alloc hs2 _).grown hgrow (by simp;omega) (fun j e=>yb6 HR2.out e);have HQ3:Hid (Bk w3 w.heap.size 110 #[.int .i64 t,.int .i64 s1,.int .i64 qq,.int .i64 d,.int .i64 kk,.int .i64 v,.int .i64 g]):=(HQ2.out.alloc _).turns (yai hgrow) (HR2.out.ne HQ2.out (by decide));have e5:=HQ3.out.cell (i:=5) rfl;clear hown hgrow hnil)
 have hs3:B≤w3.heap.size:=Nat.le_trans hB HB3.out.size
 refine(yfn B _ _ _ _ hs3 (by rw [List.length_append];simp;omega) HT.out.2.1 HT.out.2.2 HR3.out).mono ?_
 rintro e w4 ⟨v4,rfl,hr4,ht4⟩
 have HR4:=yee hr4
 have HB4:Hid (Below B w w4):=HB3.out.trans (ht4.to_below (fun k e=>yb6 HR3.out e) hs3)
 clear hr4 ht4 e3 e4 e5
 go_wp2
 go_ret
 exact⟨_,rfl,by rw [HLD.out];exact HR4.out,HB4.out⟩
end Go.Proofs.YtmobiieoecjmdaaGreat

/- The program's AsksOf. -/
namespace Go.Proofs.YtmobiieoecjmdaaGreat
open Go.RowKit
theorem ok_op {m:Md} (h:m.ok=true) {k q:Nat} (hk:k<m.h.length) (hq:q<(hAt m.h k).length):(oAt (hAt m.h k) q).ok m.n m.h.length=true:=by
 have hh:m.okH=true:=by simp [Md.ok]at h;exact h.1.2
 have hr:rowB m (hAt m.h k)=true:=List.all_eq_true.1 hh k (by simpa using hk)
 simp only [rowB,Bool.and_eq_true]at hr
 exact List.all_eq_true.1 hr.2 q (by simpa using hq)
def iniB (m:Md):Nat→List UInt8
 |0=> []
 |k+1=>iniB m k++twoB (intAt m.i k)
def ye6 (m:Md):Nat→List UInt8
 |0=> []
 |k+1=>ye6 m k++yl3 (hAt m.h k)
def evsB (m:Md):Nat→List UInt8
 |0=> []
 |k+1=>evsB m k++evB (evAt m.e k)
def ydq (m:Md):List UInt8:= [byteOf m.n,byteOf (m.h.length:Int),byteOf (m.e.length:Int)]
def ycl (m:Md):List UInt8:=ydq m++twoB m.z++twoB m.s++iniB m m.i.length++ye6 m m.h.length++evsB m m.e.length
def ygy (m:Md):List UInt8:=if m.ok=true then ycl m else []
theorem ye1 (m:Md):∀k,(iniB m k).length=2*k
 |0=>rfl
 |k+1=>by simp [iniB,ye1 m k,yd7];omega
theorem yl2 (r:List O):(yl3 r).length=1+5*r.length:=by simp [yl3,yep];omega
theorem yg9 (m:Md):∀k,(evsB m k).length=6*k
 |0=>rfl
 |k+1=>by simp [evsB,yg9 m k,yq5];omega
theorem yj7 {m:Md} (h:m.ok=true):m.hd∧m.okI=true∧m.okH=true∧m.okE=true:=by
 simp [Md.ok]at h
 exact⟨h.1.1.1,h.1.1.2,h.1.2,h.2⟩
theorem ymq {m:Md} (h:m.ok=true) (k:Nat):(hAt m.h k).length≤8:=by
 by_cases hk:k<m.h.length
 ·have hr:rowB m (hAt m.h k)=true:=List.all_eq_true.1 (yj7 h).2.2.1 k (by simpa using hk)
  simp only [rowB,Bool.and_eq_true,decide_eq_true_eq]at hr
  exact hr.1
 ·rw [ysp (by omega)];simp
theorem ydd {m:Md} (h:m.ok=true):∀k,(ye6 m k).length≤41*k
 |0=>by simp [ye6]
 |k+1=>by
  have:=ydd h k
  have:=ymq h k
  simp [ye6,yl2];omega
theorem ok_int {m:Md} (h:m.ok=true) {k:Nat} (hk:k<m.i.length):0≤intAt m.i k∧intAt m.i k≤999:=by
 have:=List.all_eq_true.1 (yj7 h).2.1 k (by simpa using hk)
 simpa [inB] using this
theorem ok_small {m:Md} (h:m.ok=true) {k q:Nat} (hk:k<m.h.length) (hq:q<(hAt m.h k).length):yr0 (oAt (hAt m.h k) q):=by
 have h1:=ok_op h hk hq
 have hd:=(yj7 h).1
 unfold Md.hd at hd
 simp only [O.ok,okO,decide_eq_true_eq]at h1
 unfold yr0
 omega
theorem ok_ev {m:Md} (h:m.ok=true) {k:Nat} (hk:k<m.e.length) {t s1 qq d kk v g:Int} (e:evAt m.e k=⟨t,s1,qq,d,kk,v,g⟩):(0≤t∧t≤1000)∧(0≤d∧d≤3)∧(0≤kk∧kk≤3)∧0≤v∧v≤999:=by
 have h1:=List.all_eq_true.1 (yj7 h).2.2.2 k (by simpa using hk)
 rw [e]at h1
 simp only [stB,Ev.ok,okB,Bool.and_eq_true,decide_eq_true_eq]at h1
 omega
theorem yr9 (w:World) (a b c:Value):(w.alloc (.cells #[a,b,c] 5)).ownsRow w.heap.size 5 1 (.slice (some ⟨w.heap.size,0,none⟩) 3 3) 3 [a,b,c]:=by
 refine⟨rfl,.inr ⟨w.heap.size,3,#[a,b,c],rfl,Nat.le_refl _,?_,Nat.le_refl _,by unfold maxLen;omega,rfl,rfl⟩⟩
 show(w.heap.push _)[w.heap.size]? =_
 simp
end Go.Proofs.YtmobiieoecjmdaaGreat

