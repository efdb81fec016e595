/- HiK, CoS, AnS -/
import Derived.Test.YtmobiieoecjmdaaGreatExactAnswersLCtS
namespace Go.Proofs.YtmobiieoecjmdaaGreat
set_option maxHeartbeats 4000000
open Go.RowKit
theorem yft {p:Prop} (h:p):Hid p:=h
structure Hi where
 ev:List Ev
 em:List Em
 k:Int
 f:Bool
theorem yr7 {w:World} {B B':Nat} {T T':TypeId} {c c' n n':Nat} {v v':Value} {cs cs':List Value} (h:w.ownsRow B T c v n cs) (h':w.ownsRow B' T' c' v' n' cs') (hT:T≠T') {k:Nat} (e:v.ownBlock=some k) (e':v'.ownBlock=some k):False:=by
 obtain⟨_,⟨rfl,_⟩|⟨g,cap,cur,rfl,_,hc,_⟩⟩:=h
 ·cases e
 ·obtain⟨_,⟨rfl,_⟩|⟨g',cap',cur',rfl,_,hc',_⟩⟩:=h'
  ·cases e'
  ·cases e
   cases e'
   have h2:=hc.symm.trans hc'
   cases h2
   exact hT rfl
def HiF (F:Nat→Prop) (w:World) (y:Value) (h:Hi):Prop:=
 ∃(A C:Nat→Prop) (ve vx:Value),y= .agg #[ve,vx,.int .i64 h.k,.bool h.f]∧RowF A w ve h.ev.length 7 (yag h.ev)∧RowF C w vx h.em.length 3 (yaw h.em)∧(∀k,A k→F k∧ ¬C k)∧ ∀k,C k→F k
theorem HiF.turns {F S:Nat→Prop} {w w':World} {x:Value} {h:Hi} (hh:HiF F w x h) (ht:Turns S w w') (hS:∀k,F k→ ¬S k):HiF F w' x h:=by
 obtain⟨A,C,ve,vx,rfl,h1,h2,h3,h4⟩:=hh
 exact⟨A,C,ve,vx,rfl,h1.turns ht (fun k hk=>hS k (h3 k hk).1),h2.turns ht (fun k hk=>hS k (h4 k hk)),h3,h4⟩
theorem HiF.below {F:Nat→Prop} {w w':World} {x:Value} {h:Hi} (hh:HiF F w x h) (hb:Below w.heap.size w w'):HiF F w' x h:=
 hh.turns (S:=fun _=>False) (Turns.of_below hb) (fun _ _=>id)
theorem HiF.mono {F F':Nat→Prop} {w:World} {x:Value} {h:Hi} (hh:HiF F w x h) (hF:∀k,F k→F' k):HiF F' w x h:=by
 obtain⟨A,C,ve,vx,rfl,h1,h2,h3,h4⟩:=hh
 exact⟨A,C,ve,vx,rfl,h1,h2,fun k hk=>⟨hF k (h3 k hk).1,(h3 k hk).2⟩,fun k hk=>hF k (h4 k hk)⟩
theorem yox {w:World} {B:Nat} {ve vx:Value} {ev:List Ev} {em:List Em} {k:Int} {f:Bool} (h1:w.ownsRow B 110 7 ve ev.length (yag ev)) (h2:w.ownsRow B 113 3 vx em.length (yaw em)):
  HiF (fun j=>B≤j∧j<w.heap.size) w (.agg #[ve,vx,.int .i64 k,.bool f]) ⟨ev,em,k,f⟩:=
 ⟨_,_,ve,vx,rfl,yps (yb7 _) h1,yps (ye8 _) h2,fun j e=>⟨World.ownsRow.lt h1 j e,fun e'=>yr7 h1 h2 (by decide) e e'⟩,fun j e=>World.ownsRow.lt h2 j e⟩
structure SmallH (h:Hi):Prop where
 s:h.ev.length≤1048576
 x:h.em.length≤1048576
theorem yew {F G:Nat→Prop} (x y:Value) (f:Hi) (w:World) (hs:SmallH f) (hx:HiF F w x f) (hy:HiF G w y f):
  Calls Tryz.prog 25 #[x,y] w fun e w'=>e= .returned (.bool true)∧Below w.heap.size w w':=by
 obtain⟨_,_,us,ux,rfl,h2,h3,_⟩:=hx
 obtain⟨_,_,us',ux',rfl,k2,k3,_⟩:=hy
 obtain⟨s,x,k,b⟩:=f
 have HE:Hid (IsEvs w us s∧IsEvs w us' s):=⟨h2.isEvs,k2.isEvs⟩
 have HX:Hid (IsX w ux x∧IsX w ux' x):=⟨h3.isX,k3.isX⟩
 have HS:=yft hs
 clear h2 h3 k2 k3 hs
 obtain⟨W0,hW0⟩:∃W0,(w.alloc (.cells #[us,ux,.int .i64 k,.bool b] 62)).alloc (.cells #[us',ux',.int .i64 k,.bool b] 62)=W0:=⟨_,rfl⟩
 have HB0:=hdq (beA2 hW0)
 have HP0:=hdq (bkA2 hW0)
 have HQ0:=hdq (bkB2 hW0)
 have p0:=HP0.out.cell (i:=0) rfl
 have q0:=HQ0.out.cell (i:=0) rfl
 go_enter Tryz.func25,Tryz.ntmps25
 go_wp2_with fail
 clear p0 q0 hW0
 refine(ylu _ _ s _ HS.out.s (HE.out.1.below HB0.out) (HE.out.2.below HB0.out)).mono ?_
 rintro e w2 ⟨rfl,hb⟩
 have HB2:=trh HB0 hb
 have HP2:=yft (HP0.out.below hb)
 have HQ2:=yft (HQ0.out.below hb)
 have p4:=HP2.out.cell (i:=1) rfl
 have q4:=HQ2.out.cell (i:=1) rfl
 clear hb HB0 HP0 HQ0
 go_wp2_with fail
 clear p4 q4
 refine(yq6 _ _ x _ HS.out.x (HX.out.1.below HB2.out) (HX.out.2.below HB2.out)).mono ?_
 rintro e w3 ⟨rfl,hb⟩
 have HB3:=trh HB2 hb
 have p5:=(HP2.out.below hb).cell (i:=2) rfl
 have q5:=(HQ2.out.below hb).cell (i:=2) rfl
 have p6:=(HP2.out.below hb).cell (i:=3) rfl
 have q6:=(HQ2.out.below hb).cell (i:=3) rfl
 clear hb HB2 HP2 HQ2
 go_wp2
 go_ret
 exact⟨rfl,HB3.out⟩
def HeldHi (F:Nat→Prop) (w:World) (y:Value) (f:Hi):Prop:=
 ∃(B C:Nat→Prop) (us ux:Value),y= .agg #[us,ux,.int .i64 f.k,.bool f.f]∧RowF B w us f.ev.length 7 (ybk 1 (f.ev.length*7))∧
  RowF C w ux f.em.length 3 (ybk (1+7*(f.ev.length:Int)) (f.em.length*3))∧(∀k,B k→F k∧ ¬C k)∧ ∀k,C k→F k
theorem HeldHi.turns {F S:Nat→Prop} {w w':World} {x:Value} {f:Hi} (h:HeldHi F w x f) (ht:Turns S w w') (hS:∀k,F k→ ¬S k):HeldHi F w' x f:=by
 obtain⟨B,C,us,ux,rfl,h2,h3,h5,h6⟩:=h
 exact⟨B,C,us,ux,rfl,h2.turns ht (fun k hk=>hS k (h5 k hk).1),h3.turns ht (fun k hk=>hS k (h6 k hk)),h5,h6⟩
theorem HeldHi.below {F:Nat→Prop} {w w':World} {x:Value} {f:Hi} (h:HeldHi F w x f) (hb:Below w.heap.size w w'):HeldHi F w' x f:=
 h.turns (S:=fun _=>False) (Turns.of_below hb) (fun _ _=>id)
def yn4 (f:Hi):Int:=1+7*(f.ev.length:Int)+3*(f.em.length:Int)
theorem yrv (f:Hi):1≤yn4 f:=by unfold yn4;omega
theorem yjm {F:Nat→Prop} {x:Value} {f:Hi} {w:World} (hs:SmallH f) (h:HiF F w x f) (hF:∀k,F k→k<w.heap.size):
  Calls Tryz.prog 27 #[x,.int .i64 1] w fun e w'=>e= .returned (.int .i64 (yn4 f))∧HeldHi F w' x f∧Turns F w w':=by
 obtain⟨B,C,us,ux,rfl,h2,h3,h5,h6⟩:=h
 obtain⟨s,x,k,b⟩:=f
 have HE:=yft h2
 have HX:=yft h3
 have HF:Hid ((∀k,F k→k<w.heap.size)∧(∀k,B k→F k∧ ¬C k)∧ ∀k,C k→F k):=⟨hF,h5,h6⟩
 have he:s.length≤1048576:=hs.s
 have hx:x.length≤1048576:=hs.x
 clear h2 h3 h5 h6 hs hF
 obtain⟨W0,hW0⟩:∃W0,w.alloc (.cells #[us,ux,.int .i64 k,.bool b] 62)=W0:=⟨_,rfl⟩
 have HB0:=hdq (beA hW0)
 have HP0:=hdq (bkA hW0)
 have p0:=HP0.out.cell (i:=0) rfl
 go_enter Tryz.func27,Tryz.ntmps27
 go_wp2_with fail
 clear p0 hW0
 refine(yu9 (F:=B) 1 (by omega) (by omega) (by omega) (HE.out.below HB0.out)).mono ?_
 rintro e w2 ⟨rfl,hr2,ht⟩
 have HT2:Hid (Turns F W0 w2):=ht.mono (fun k hk=>(HF.out.2.1 k hk).1)
 have HE2:=yft hr2
 have HX2:=yft ((HX.out.below HB0.out).turns ht (fun k hk hb=>(HF.out.2.1 k hb).2 hk))
 have HP2:=yft (HP0.out.turns ht (fun hk=>by have:=HF.out.1 _ (HF.out.2.1 _ hk).1;omega))
 have p4:=HP2.out.cell (i:=1) rfl
 clear hr2 ht HE HX HP0
 go_wp2_with fail
 clear p4
 refine(markXF (F:=C) (1+7*(s.length:Int)) (by omega) (by omega) (by omega) HX2.out).mono ?_
 rintro e w3 ⟨rfl,hr3,ht⟩
 have HT3:Hid (Turns F W0 w3):=HT2.out.trans (ht.mono (fun k hk=>HF.out.2.2 k hk))
 have HE3:=yft (HE2.out.turns ht (fun k hk hc=>(HF.out.2.1 k hk).2 hc))
 have HX3:=yft hr3
 clear hr3 ht HE2 HX2 HP2 HT2
 go_wp2
 go_ret
 exact⟨rfl,⟨B,C,us,ux,rfl,HE3.out,HX3.out,HF.out.2⟩,(Turns.of_below HB0.out).trans HT3.out⟩
theorem yg6 {F:Nat→Prop} {x:Value} {f:Hi} {w:World} (hs:SmallH f) (h:HeldHi F w x f):
  Calls Tryz.prog 28 #[x,.int .i64 1] w fun e w'=>e= .returned (.int .i64 (yn4 f))∧Below w.heap.size w w':=by
 obtain⟨B,C,us,ux,rfl,h2,h3,_⟩:=h
 obtain⟨s,x,k,b⟩:=f
 have HE:=yft h2
 have HX:=yft h3
 have he:s.length≤1048576:=hs.s
 have hx:x.length≤1048576:=hs.x
 clear h2 h3 hs
 obtain⟨W0,hW0⟩:∃W0,w.alloc (.cells #[us,ux,.int .i64 k,.bool b] 62)=W0:=⟨_,rfl⟩
 have HB0:=hdq (beA hW0)
 have HP0:=hdq (bkA hW0)
 have p0:=HP0.out.cell (i:=0) rfl
 have p1:=HP0.out.cell (i:=1) rfl
 have n2:¬(1+7*(s.length:Int)<0):=by omega
 have n3:¬(1+7*(s.length:Int)+3*(x.length:Int)<0):=by omega
 go_enter Tryz.func28,Tryz.ntmps28
 go_wp2_with fail
 try simp only [hW0]
 clear hW0
 refine(heldEF (F:=B) 1 (by omega) (by omega) (by omega) (HE.out.below HB0.out)).mono ?_
 rintro e w' ⟨rfl,hw⟩
 have hw':=hw.symm
 clear hw
 subst hw'
 go_wp2_with fail
 refine(heldXF (F:=C) (1+7*(s.length:Int)) (by omega) (by omega) (by omega) (HX.out.below HB0.out)).mono ?_
 rintro e w' ⟨rfl,hw⟩
 have hw':=hw.symm
 clear hw
 subst hw'
 go_wp2
 go_ret
 exact⟨rfl,HB0.out⟩
end Go.Proofs.YtmobiieoecjmdaaGreat

namespace Go.Proofs.YtmobiieoecjmdaaGreat
open Go.RowKit
noncomputable def comH (k : Kn) : Hi := if k.ok then ⟨k.s ++ ydj (comL k), ydn k (comL k), k.q, k.f⟩ else ⟨[], [], 0, false⟩
theorem ycr {p:Prop} (h:p):Hid p:=h
theorem kd_okA {v:Wd} (hok:v.ok=true) {i:Nat} (hi:i<v.k.length):(knAt v.k i).ok=true:=(runB_iff.1 ((wok_iff.1 hok).2.1 i hi)).1
def whV (d:List Int):Int:=if vok d=true then whN d else 0
theorem sWh (x:Value) (l:List Int) (w:World) (hl:l.length≤4611686018427387904) (h:IsI w x l):
  Calls Tryz.prog 79 #[x] w fun e w'=>e= .returned (.int .i64 (whV l))∧Below w.heap.size w w':=
 yo7 x l w hl h
theorem iWh (x:Value) (l:List Int) (w:World) (hl:l.length≤4611686018427387904) (h:IsI w x l):
  Calls Tryz.prog 80 #[x] w fun e w'=>e= .returned (.int .i64 (whV l))∧Below w.heap.size w w':=
 yos x l w hl h
theorem ynk {l:List (List Int)} {d:List Int}:∀(n i m:Nat),yhw l d i n=some m→m<i+n
 |0,i,m,h=>by cases h
 |n+1,i,m,h=>by
  unfold yhw at h
  split at h
  ·cases h
   omega
  ·have:=ynk n (i+1) m h
   omega
theorem ynq (v:Wd) (d:List Int):covA v d= -1∨(v.ok=true∧ ∃j:Nat,covA v d=(j:Int)∧j<v.k.length):=by
 unfold covA
 split
 case isFalse=>exact .inl rfl
 case isTrue h=>
  cases e:yhw (dsOf v.k) d 0 v.k.length with
  |none=>exact .inl rfl
  |some i=>exact .inr ⟨h.1,i,rfl,by have:=ynk _ _ _ e;omega⟩
noncomputable def ansA (v : Wd) (d : List Int) : Hi := if (decide (0 ≤ covA v d) && decide (whV d = 1)) = true then comH (knAt v.k (covA v d).toNat) else ⟨[], [], 0, false⟩
theorem yqj {v:Wd} {d:List Int} (h:(decide (0≤covA v d)&&decide (whV d=1))=false):ansA v d=⟨[],[],0,false⟩:=by unfold ansA;rw [h];rfl
theorem yvs {v:Wd} {d:List Int} (h:(decide (0≤covA v d)&&decide (whV d=1))=true):ansA v d=comH (knAt v.k (covA v d).toNat):=by unfold ansA;rw [if_pos h]
set_option maxRecDepth 100000 in
set_option maxHeartbeats 16000000 in
theorem sAnswers (x:Value) (v:Wd) (z:Value) (d:List Int) (w:World) (hs:ycc v) (hdl:d.length≤1048576) (h:IsW w x v) (hz:IsI w z d):
  Calls Tryz.prog 29 #[x,z] w fun e w'=>∃y,e= .returned (.tuple #[y,.bool (decide (0≤covA v d)&&decide (whV d=1))])∧HiF (fun j=>w.heap.size≤j∧j<w'.heap.size) w' y (ansA v d)∧Below w.heap.size w w':=by
 have HDL:Hid (d.length≤1048576):=hdl
 have HZ:Hid (IsI w z d):=hz
 clear hdl
 obtain⟨za,zc,rfl,_⟩:=hz
 have HSW:Hid (ycc v):=hs
 have hkl:v.k.length≤1048576:=hs.2.1.1
 have hcl:v.c.length≤1048576:=by have h9:=hs.2.2;rw [ydl]at h9;omega
 obtain⟨ai,ci,ah,ch,ae,ce,ak,ck,ac,cc,rfl,hm,hk,hc⟩:=h.form
 have HWW:=ycr h
 have HKS:=ycr hk
 clear h hm hk hc
 obtain⟨Rb,hRb⟩:∃Rb,Rb=w.heap.size+1:=⟨_,rfl⟩
 obtain⟨W0,hW0⟩:=al2IsW HWW.out 39 (.cells #[.slice none 0 0,.slice none 0 0,.int .i64 0,.bool false] 62)
 have HB0:Hid (Below w.heap.size w W0):=hW0▸((Below.refl _ w).alloc (Nat.le_refl _) _).alloc (by simp) _
 have HP0:Hid (Bk W0 w.heap.size 39 #[.int .i64 v.m.n,.int .i64 v.m.s,.slice ai v.m.i.length ci,.slice ah v.m.h.length ch,.slice ae v.m.e.length ce,.int .i64 v.m.z,.slice ak v.k.length ck,.slice ac v.c.length cc]):=hW0▸(Bk.new w _ _).alloc _
 have HR0:Hid (Bk W0 Rb 62 #[.slice none 0 0,.slice none 0 0,.int .i64 0,.bool false]):=by rw [←hW0,hRb];exact Bk.newAt (by simp) _ _
 have HW0:=ycr hW0
 have HRB:=ycr hRb
 have hRw:w.heap.size<Rb:=by omega
 have hRW:Rb<W0.heap.size:=HR0.out.lt
 clear hRb
 obtain⟨q0,q1,q2,q3,q4,q5,q6,q7⟩:=c8_8 HP0.out
 go_enter Tryz.func29,Tryz.ntmps29
 go_wp2_with fail
 clear q0 q1 q2 q3 q4 q5 q6 q7 hW0
 try rw [HW0.out]
 try rw [←HRB.out]
 have hsc:=sCovers _ v _ d _ HSW.out HDL.out (HWW.out.under HB0.out) (HZ.out.below HB0.out)
 rcases ynq v d with hcv|⟨hok,ia,hcv,hia⟩
 case inl=>
  have hat:(decide (0≤covA v d)&&decide (whV d=1))=false:=by rw [hcv];rfl
  have HANS:=ycr (yqj hat)
  have HATV:=ycr hat
  rw [hcv]at hsc
  clear hat hcv
  refine hsc.mono ?_
  rintro e w1 ⟨rfl,hb1⟩
  clear hsc
  have HB1:=trh HB0 hb1
  have HR1:=ycr (HR0.out.below hb1)
  have HP1:=ycr (HP0.out.below hb1)
  have hz1:W0.heap.size≤w1.heap.size:=hb1.size
  clear hb1 HB0 HR0 HP0
  go_upto_region 3 with fail
  obtain⟨r0,r1,r2,r3⟩:=c4_4 HR1.out
  have rf:=HR1.out.free
  go_wp2
  clear r0 r1 r2 r3 rf
  obtain⟨X,hX⟩:∃X,putH w1 Rb (.slice none 0 0) (.slice none 0 0) (.int .i64 0) (.bool false)=X:=⟨_,rfl⟩
  have ht:=yby w1 Rb (.slice none 0 0) (.slice none 0 0) (.int .i64 0) (.bool false)
  have hk:=HR1.out.putH (.slice none 0 0) (.slice none 0 0) (.int .i64 0) (.bool false)
  rw [hX]at ht hk
  unfold putH at hX
  rw [hX]
  obtain⟨t0,t1,t2,t3⟩:=c4_4 hk
  refine bodyPost_ret (v:= .tuple #[.agg #[.slice none 0 0,.slice none 0 0,.int .i64 0,.bool false],.bool false]) (by simp [results,Tryz.results29,go_sem,t0,t1,t2,t3]) rfl ?_
  rw [HATV.out,HANS.out]
  refine⟨_,rfl,?_,HB1.out.trans (ht.to_below (fun b e=>by omega) HB1.out.size)⟩
  exact(yox (World.ownsRow_nil X w.heap.size 110 7) (World.ownsRow_nil X w.heap.size 113 3))
 have hc0:decide ((ia:Int)<0)=false:=by simp
 have HCV:=ycr hcv
 rw [hcv]at hsc
 clear hcv
 refine hsc.mono ?_
 rintro e w1 ⟨rfl,hb1⟩
 clear hsc
 have HB1:=trh HB0 hb1
 have HR1:=ycr (HR0.out.below hb1)
 have HP1:=ycr (HP0.out.below hb1)
 have hz1:W0.heap.size≤w1.heap.size:=hb1.size
 clear hb1 HB0 HR0 HP0
 go_wp2_with fail
 have hsw:=sWh _ d _ (by have:=HDL.out;omega) (HZ.out.below HB1.out)
 by_cases hwh:whV d=1
 case neg=>
  have hat:(decide (0≤covA v d)&&decide (whV d=1))=false:=by rw [decide_eq_false hwh,Bool.and_false]
  have HANS:=ycr (yqj hat)
  have HATV:=ycr hat
  have hd8:(whV d !=1)=true:=by simpa using hwh
  generalize whV d=z at hsw hd8
  clear hwh hat
  refine hsw.mono ?_
  rintro e w2 ⟨rfl,hb2⟩
  clear hsw
  have HB2:=trh HB1 hb2
  have HR2:=ycr (HR1.out.below hb2)
  have HP2:=ycr (HP1.out.below hb2)
  have hz2:w1.heap.size≤w2.heap.size:=hb2.size
  clear hb2 HB1 HR1 HP1
  go_upto_region 3 with fail
  obtain⟨r0,r1,r2,r3⟩:=c4_4 HR2.out
  have rf:=HR2.out.free
  go_wp2
  clear r0 r1 r2 r3 rf
  obtain⟨X,hX⟩:∃X,putH w2 Rb (.slice none 0 0) (.slice none 0 0) (.int .i64 0) (.bool false)=X:=⟨_,rfl⟩
  have ht:=yby w2 Rb (.slice none 0 0) (.slice none 0 0) (.int .i64 0) (.bool false)
  have hk:=HR2.out.putH (.slice none 0 0) (.slice none 0 0) (.int .i64 0) (.bool false)
  rw [hX]at ht hk
  unfold putH at hX
  rw [hX]
  obtain⟨t0,t1,t2,t3⟩:=c4_4 hk
  refine bodyPost_ret (v:= .tuple #[.agg #[.slice none 0 0,.slice none 0 0,.int .i64 0,.bool false],.bool false]) (by simp [results,Tryz.results29,go_sem,t0,t1,t2,t3]) rfl ?_
  rw [HATV.out,HANS.out]
  refine⟨_,rfl,?_,HB2.out.trans (ht.to_below (fun b e=>by omega) HB2.out.size)⟩
  exact(yox (World.ownsRow_nil X w.heap.size 110 7) (World.ownsRow_nil X w.heap.size 113 3))
 have HATV:Hid ((decide (0≤covA v d)&&decide (whV d=1))=true):=(by rw [HCV.out,hwh];simp:(decide (0≤covA v d)&&decide (whV d=1))=true)
 have HANS:Hid (ansA v d=comH (knAt v.k ia)):=(by rw [yvs HATV.out,HCV.out,Int.toNat_natCast]:ansA v d=_)
 rw [hwh]at hsw
 clear hwh
 refine hsw.mono ?_
 rintro e w2 ⟨rfl,hb2⟩
 clear hsw
 have HB2:=trh HB1 hb2
 have HR2:=ycr (HR1.out.below hb2)
 have HP2:=ycr (HP1.out.below hb2)
 have hz2:w1.heap.size≤w2.heap.size:=hb2.size
 clear hb2 HB1 HR1 HP1
 have HOKK:=ycr (kd_okA hok hia)
 clear hok
 obtain⟨b,off,rfl,hbl,hKA⟩:=HKS.out.resolve_left (by omega)
 obtain⟨ki,di,kh,dh,ke,de,k6,d6,k7,d7,k8,d8,k12,d12,k13,d13,⟨f0,f1,f2,f3,f4,f5,f6,f7,f8,f9,f10,f11,f12,f13⟩,hkn,-,-⟩:=(hKA ia hia).form
 have HKN:=ycr hkn
 have HSKi:=ycr (HSW.out.2.1.2 ia hia)
 have g0:=cst HB2.out hbl f0
 have g1:=cst HB2.out hbl f1
 have g2:=cst HB2.out hbl f2
 have g3:=cst HB2.out hbl f3
 have g4:=cst HB2.out hbl f4
 have g5:=cst HB2.out hbl f5
 have g6:=cst HB2.out hbl f6
 have g7:=cst HB2.out hbl f7
 have g8:=cst HB2.out hbl f8
 have g9:=cst HB2.out hbl f9
 have g10:=cst HB2.out hbl f10
 have g11:=cst HB2.out hbl f11
 have g12:=cst HB2.out hbl f12
 have g13:=cst HB2.out hbl f13
 have q6:=HP2.out.cell (i:=6) rfl
 have hki:(ia:Int)<(v.k.length:Int):=by omega
 clear hkn hKA f0 f1 f2 f3 f4 f5 f6 f7 f8 f9 f10 f11 f12 f13
 obtain⟨k,hk⟩:∃k,(knAt v.k ia)=k:=⟨_,rfl⟩
 rw [hk]at HKN HSKi HOKK g0 g1 g2 g3 g4 g5 g6 g7 g8 g9 g10 g11 g12 g13
 have HAK:Hid (comH (knAt v.k ia)=comH k):=(by rw [hk]:comH (knAt v.k ia)=comH k)
 clear hk
 go_wp2_with fail
 clear q6 g0 g1 g2 g3 g4 g5 g6 g7 g8 g9 g10 g11 g12 g13
 refine(sCommit1 _ k _ HSKi.out HOKK.out (HKN.out.under HB2.out)).mono ?_
 rintro e w7 ⟨ay,cy,ax,cx2,rfl,hC,hX9,hb7⟩
 have HB7:=trh HB2 hb7
 have HR7:=ycr (HR2.out.below hb7)
 have HAC:Hid (comH k=⟨k.s++ydj (comL k),ydn k (comL k),k.q,k.f⟩):=by show _=_;unfold comH;rw [if_pos HOKK.out]
 obtain⟨EL,hEL⟩:∃E,k.s++ydj (comL k)=E:=⟨_,rfl⟩
 obtain⟨TL,hTL⟩:∃E,ydn k (comL k)=E:=⟨_,rfl⟩
 rw [hEL]at hC HAC
 rw [hTL]at hX9 HAC
 rw [hEL,hTL]
 have HC7:=ycr hC
 have HX7:=ycr hX9
 have hs7:w2.heap.size≤w7.heap.size:=hb7.size
 clear hC hX9 hb7 hEL hTL
 obtain⟨r0,r1,r2,r3⟩:=c4_4 HR7.out
 have rf:=HR7.out.free
 go_wp2
 clear r0 r1 r2 r3 rf
 obtain⟨X,hX⟩:∃X,putH w7 Rb (.slice ay EL.length cy) (.slice ax TL.length cx2) (.int .i64 k.q) (.bool k.f)=X:=⟨_,rfl⟩
 have ht:=yby w7 Rb (.slice ay EL.length cy) (.slice ax TL.length cx2) (.int .i64 k.q) (.bool k.f)
 have hk:=HR7.out.putH (.slice ay EL.length cy) (.slice ax TL.length cx2) (.int .i64 k.q) (.bool k.f)
 rw [hX]at ht hk
 unfold putH at hX
 rw [hX]
 obtain⟨t0,t1,t2,t3⟩:=c4_4 hk
 refine bodyPost_ret (v:= .tuple #[.agg #[.slice ay EL.length cy,.slice ax TL.length cx2,.int .i64 k.q,.bool k.f],.bool true]) (by simp [results,Tryz.results29,go_sem,t0,t1,t2,t3]) rfl ?_
 rw [HATV.out,HANS.out,HAK.out,HAC.out]
 refine⟨_,rfl,?_,HB7.out.trans (ht.to_below (fun b e=>by omega) HB7.out.size)⟩
 exact yox (yb5 (owN HC7.out ht HR7.out) HB2.out.size) (yb5 (owN HX7.out ht HR7.out) HB2.out.size)
end Go.Proofs.YtmobiieoecjmdaaGreat

