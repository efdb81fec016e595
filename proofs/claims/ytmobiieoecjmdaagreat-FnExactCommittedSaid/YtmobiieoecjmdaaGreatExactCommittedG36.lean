/- HiK, CoS -/
import Derived.Test.YtmobiieoecjmdaaGreatExactCommittedG04
import Derived.Test.YtmobiieoecjmdaaGreatExactCommittedG06
import Derived.Test.YtmobiieoecjmdaaGreatExactCommittedLCtS
import Derived.Test.YtmobiieoecjmdaaGreatExactCommittedLKSg
/- Histories: held against each other, marked, and found again. -/
namespace Go.Proofs.YtmobiieoecjmdaaGreat
open Go.RowKit
structure Hi where
 ev:List Ev
 em:List Em
 k:Int
 f:Bool
theorem rows_apart {w:World} {B B':Nat} {T T':TypeId} {c c' n n':Nat} {v v':Value} {cs cs':List Value} (h:w.ownsRow B T c v n cs) (h':w.ownsRow B' T' c' v' n' cs') (hT:T≠T') {k:Nat} (e:v.ownBlock=some k) (e':v'.ownBlock=some k):False:=by
 obtain⟨_,⟨rfl,_⟩|⟨g,cap,cur,rfl,_,hc,_⟩⟩:=h
 ·cases e
 ·obtain⟨_,⟨rfl,_⟩|⟨g',cap',cur',rfl,_,hc',_⟩⟩:=h'
  ·cases e'
  ·cases e
   cases e'
   have h2:=hc.symm.trans hc'
   cases h2
   exact hT rfl
def HiF (F:Nat→Prop) (w:World) (y:Value) (h:Hi):Prop:=
 ∃(A C:Nat→Prop) (ve vx:Value),y= .agg #[ve,vx,.int .i64 h.k,.bool h.f]∧RowF A w ve h.ev.length 7 (cellsL h.ev)∧RowF C w vx h.em.length 3 (cellsX h.em)∧(∀k,A k→F k∧ ¬C k)∧ ∀k,C k→F k
theorem HiF.turns {F S:Nat→Prop} {w w':World} {x:Value} {h:Hi} (hh:HiF F w x h) (ht:Turns S w w') (hS:∀k,F k→ ¬S k):HiF F w' x h:=by
 obtain⟨A,C,ve,vx,rfl,h1,h2,h3,h4⟩:=hh
 exact⟨A,C,ve,vx,rfl,h1.turns ht (fun k hk=>hS k (h3 k hk).1),h2.turns ht (fun k hk=>hS k (h4 k hk)),h3,h4⟩
theorem HiF.below {F:Nat→Prop} {w w':World} {x:Value} {h:Hi} (hh:HiF F w x h) (hb:Below w.heap.size w w'):HiF F w' x h:=
 hh.turns (S:=fun _=>False) (Turns.of_below hb) (fun _ _=>id)
theorem hi_of {w:World} {B:Nat} {ve vx:Value} {ev:List Ev} {em:List Em} {k:Int} {f:Bool} (h1:w.ownsRow B 110 7 ve ev.length (cellsL ev)) (h2:w.ownsRow B 113 3 vx em.length (cellsX em)):
  HiF (fun j=>B≤j∧j<w.heap.size) w (.agg #[ve,vx,.int .i64 k,.bool f]) ⟨ev,em,k,f⟩:=
 ⟨_,_,ve,vx,rfl,own_rowF (cellsL_length _) h1,own_rowF (cellsX_length _) h2,fun j e=>⟨World.ownsRow.lt h1 j e,fun e'=>rows_apart h1 h2 (by decide) e e'⟩,fun j e=>World.ownsRow.lt h2 j e⟩
structure SmallH (h:Hi):Prop where
 s:h.ev.length≤1048576
 x:h.em.length≤1048576
set_option maxHeartbeats 4000000 in
theorem eqHistory_same {F G:Nat→Prop} (x y:Value) (f:Hi) (w:World) (hs:SmallH f) (hx:HiF F w x f) (hy:HiF G w y f):
  Calls Tryz.prog 25 #[x,y] w fun e w'=>e= .returned (.bool true)∧Below w.heap.size w w':=by
 obtain⟨_,_,us,ux,rfl,h2,h3,_⟩:=hx
 obtain⟨_,_,us',ux',rfl,k2,k3,_⟩:=hy
 obtain⟨s,x,k,b⟩:=f
 have HE:Hid (IsEvs w us s∧IsEvs w us' s):=⟨h2.isEvs,k2.isEvs⟩
 have HX:Hid (IsX w ux x∧IsX w ux' x):=⟨h3.isX,k3.isX⟩
 have HS:Hid (SmallH ⟨s,x,k,b⟩):=hs
 clear h2 h3 k2 k3 hs
 obtain⟨W0,hW0⟩:∃W0,(w.alloc (.cells #[us,ux,.int .i64 k,.bool b] 62)).alloc (.cells #[us',ux',.int .i64 k,.bool b] 62)=W0:=⟨_,rfl⟩
 have HB0:Hid (Below w.heap.size w W0):=by rw [←hW0];exact((Below.refl _ w).alloc (Nat.le_refl _) _).alloc (by simp) _
 have HP0:Hid (Bk W0 w.heap.size 62 #[us,ux,.int .i64 k,.bool b]):=by rw [←hW0];exact(Bk.new w _ _).alloc _
 have HQ0:Hid (Bk W0 (w.heap.size+1) 62 #[us',ux',.int .i64 k,.bool b]):=by rw [←hW0];exact Bk.newAt (by simp) _ _
 have p0:=HP0.out.cell (i:=0) rfl
 have q0:=HQ0.out.cell (i:=0) rfl
 go_enter Tryz.func25,Tryz.ntmps25
 go_wp2_with fail
 clear p0 q0 hW0
 refine(eqS_same _ _ s _ HS.out.s (HE.out.1.below HB0.out) (HE.out.2.below HB0.out)).mono ?_
 rintro e w2 ⟨rfl,hb⟩
 have HB2:Hid (Below w.heap.size w w2):=HB0.out.trans (hb.mono HB0.out.size)
 have HP2:Hid (Bk w2 w.heap.size 62 #[us,ux,.int .i64 k,.bool b]):=HP0.out.below hb
 have HQ2:Hid (Bk w2 (w.heap.size+1) 62 #[us',ux',.int .i64 k,.bool b]):=HQ0.out.below hb
 have p4:=HP2.out.cell (i:=1) rfl
 have q4:=HQ2.out.cell (i:=1) rfl
 clear hb HB0 HP0 HQ0
 go_wp2_with fail
 clear p4 q4
 refine(eqX_same _ _ x _ HS.out.x (HX.out.1.below HB2.out) (HX.out.2.below HB2.out)).mono ?_
 rintro e w3 ⟨rfl,hb⟩
 have HB3:Hid (Below w.heap.size w w3):=HB2.out.trans (hb.mono HB2.out.size)
 have p5:=(HP2.out.below hb).cell (i:=2) rfl
 have q5:=(HQ2.out.below hb).cell (i:=2) rfl
 have p6:=(HP2.out.below hb).cell (i:=3) rfl
 have q6:=(HQ2.out.below hb).cell (i:=3) rfl
 clear hb HB2 HP2 HQ2
 go_wp2
 go_ret
 exact⟨rfl,HB3.out⟩
def HeldHi (F:Nat→Prop) (w:World) (y:Value) (f:Hi):Prop:=
 ∃(B C:Nat→Prop) (us ux:Value),y= .agg #[us,ux,.int .i64 f.k,.bool f.f]∧RowF B w us f.ev.length 7 (mkCells 1 (f.ev.length*7))∧
  RowF C w ux f.em.length 3 (mkCells (1+7*(f.ev.length:Int)) (f.em.length*3))∧(∀k,B k→F k∧ ¬C k)∧ ∀k,C k→F k
theorem HeldHi.turns {F S:Nat→Prop} {w w':World} {x:Value} {f:Hi} (h:HeldHi F w x f) (ht:Turns S w w') (hS:∀k,F k→ ¬S k):HeldHi F w' x f:=by
 obtain⟨B,C,us,ux,rfl,h2,h3,h5,h6⟩:=h
 exact⟨B,C,us,ux,rfl,h2.turns ht (fun k hk=>hS k (h5 k hk).1),h3.turns ht (fun k hk=>hS k (h6 k hk)),h5,h6⟩
theorem HeldHi.below {F:Nat→Prop} {w w':World} {x:Value} {f:Hi} (h:HeldHi F w x f) (hb:Below w.heap.size w w'):HeldHi F w' x f:=
 h.turns (S:=fun _=>False) (Turns.of_below hb) (fun _ _=>id)
def markHi (f:Hi):Int:=1+7*(f.ev.length:Int)+3*(f.em.length:Int)
theorem markHi_pos (f:Hi):1≤markHi f:=by unfold markHi;omega
set_option maxHeartbeats 4000000 in
theorem markHistory_any {F:Nat→Prop} {x:Value} {f:Hi} {w:World} (hs:SmallH f) (h:HiF F w x f) (hF:∀k,F k→k<w.heap.size):
  Calls Tryz.prog 27 #[x,.int .i64 1] w fun e w'=>e= .returned (.int .i64 (markHi f))∧HeldHi F w' x f∧Turns F w w':=by
 obtain⟨B,C,us,ux,rfl,h2,h3,h5,h6⟩:=h
 obtain⟨s,x,k,b⟩:=f
 have HE:Hid (RowF B w us s.length 7 (cellsL s)):=h2
 have HX:Hid (RowF C w ux x.length 3 (cellsX x)):=h3
 have HF:Hid ((∀k,F k→k<w.heap.size)∧(∀k,B k→F k∧ ¬C k)∧ ∀k,C k→F k):=⟨hF,h5,h6⟩
 have he:s.length≤1048576:=hs.s
 have hx:x.length≤1048576:=hs.x
 clear h2 h3 h5 h6 hs hF
 obtain⟨W0,hW0⟩:∃W0,w.alloc (.cells #[us,ux,.int .i64 k,.bool b] 62)=W0:=⟨_,rfl⟩
 have HB0:Hid (Below w.heap.size w W0):=by rw [←hW0];exact(Below.refl _ w).alloc (Nat.le_refl _) _
 have HP0:Hid (Bk W0 w.heap.size 62 #[us,ux,.int .i64 k,.bool b]):=by rw [←hW0];exact Bk.new w _ _
 have p0:=HP0.out.cell (i:=0) rfl
 go_enter Tryz.func27,Tryz.ntmps27
 go_wp2_with fail
 clear p0 hW0
 refine(markEF (F:=B) 1 (by omega) (by omega) (by omega) (HE.out.below HB0.out)).mono ?_
 rintro e w2 ⟨rfl,hr2,ht⟩
 have HT2:Hid (Turns F W0 w2):=ht.mono (fun k hk=>(HF.out.2.1 k hk).1)
 have HE2:Hid (RowF B w2 us s.length 7 (mkCells 1 (s.length*7))):=hr2
 have HX2:Hid (RowF C w2 ux x.length 3 (cellsX x)):=(HX.out.below HB0.out).turns ht (fun k hk hb=>(HF.out.2.1 k hb).2 hk)
 have HP2:Hid (Bk w2 w.heap.size 62 #[us,ux,.int .i64 k,.bool b]):=HP0.out.turns ht (fun hk=>by have:=HF.out.1 _ (HF.out.2.1 _ hk).1;omega)
 have p4:=HP2.out.cell (i:=1) rfl
 clear hr2 ht HE HX HP0
 go_wp2_with fail
 clear p4
 refine(markXF (F:=C) (1+7*(s.length:Int)) (by omega) (by omega) (by omega) HX2.out).mono ?_
 rintro e w3 ⟨rfl,hr3,ht⟩
 have HT3:Hid (Turns F W0 w3):=HT2.out.trans (ht.mono (fun k hk=>HF.out.2.2 k hk))
 have HE3:Hid (RowF B w3 us s.length 7 (mkCells 1 (s.length*7))):=HE2.out.turns ht (fun k hk hc=>(HF.out.2.1 k hk).2 hc)
 have HX3:Hid (RowF C w3 ux x.length 3 (mkCells (1+7*(s.length:Int)) (x.length*3))):=hr3
 clear hr3 ht HE2 HX2 HP2 HT2
 go_wp2
 go_ret
 exact⟨rfl,⟨B,C,us,ux,rfl,HE3.out,HX3.out,HF.out.2⟩,(Turns.of_below HB0.out).trans HT3.out⟩
set_option maxHeartbeats 4000000 in
theorem heldHistory_any {F:Nat→Prop} {x:Value} {f:Hi} {w:World} (hs:SmallH f) (h:HeldHi F w x f):
  Calls Tryz.prog 28 #[x,.int .i64 1] w fun e w'=>e= .returned (.int .i64 (markHi f))∧Below w.heap.size w w':=by
 obtain⟨B,C,us,ux,rfl,h2,h3,_⟩:=h
 obtain⟨s,x,k,b⟩:=f
 have HE:Hid (RowF B w us s.length 7 (mkCells 1 (s.length*7))):=h2
 have HX:Hid (RowF C w ux x.length 3 (mkCells (1+7*(s.length:Int)) (x.length*3))):=h3
 have he:s.length≤1048576:=hs.s
 have hx:x.length≤1048576:=hs.x
 clear h2 h3 hs
 obtain⟨W0,hW0⟩:∃W0,w.alloc (.cells #[us,ux,.int .i64 k,.bool b] 62)=W0:=⟨_,rfl⟩
 have HB0:Hid (Below w.heap.size w W0):=by rw [←hW0];exact(Below.refl _ w).alloc (Nat.le_refl _) _
 have HP0:Hid (Bk W0 w.heap.size 62 #[us,ux,.int .i64 k,.bool b]):=by rw [←hW0];exact Bk.new w _ _
 have p0:=HP0.out.cell (i:=0) rfl
 have p1:=HP0.out.cell (i:=1) rfl
 have n2:¬(1+7*(s.length:Int)<0):=by omega
 have n3:¬(1+7*(s.length:Int)+3*(x.length:Int)<0):=by omega
 go_enter Tryz.func28,Tryz.ntmps28
 go_wp2_with fail
 try simp only [hW0]
 clear hW0
 refine(heldEF (F:=B) 1 (by omega) (by omega) (by omega) (HE.out.below HB0.out)).mono ?_
 rintro e w' ⟨rfl,hw⟩
 have hw':=hw.symm
 clear hw
 subst hw'
 go_wp2_with fail
 refine(heldXF (F:=C) (1+7*(s.length:Int)) (by omega) (by omega) (by omega) (HX.out.below HB0.out)).mono ?_
 rintro e w' ⟨rfl,hw⟩
 have hw':=hw.symm
 clear hw
 subst hw'
 go_wp2
 go_ret
 exact⟨rfl,HB0.out⟩
noncomputable def comH (k : Kn) : Hi := if k.ok then ⟨k.s ++ bareL (comL k), toldL k (comL k), k.q, k.f⟩ else ⟨[], [], 0, false⟩
set_option maxRecDepth 100000 in
set_option maxHeartbeats 64000000 in
theorem sCommitted (x:Value) (k:Kn) (w:World) (hs:SmallK k) (h:IsKern w x k):
  Calls Tryz.prog 23 #[x] w fun e w'=>∃y,e= .returned (.tuple #[y,.bool k.ok])∧HiF (fun j=>w.heap.size≤j∧j<w'.heap.size) w' y (comH k)∧Below w.heap.size w w':=by
 have HSK:Hid (SmallK k):=hs
 clear hs
 obtain⟨ai,ci,ah,ch,ae,ce,ad,cd,ap,cp,ab,cb,au,cu,ax,cx,rfl,_⟩:=h.form
 have HK:Hid (IsKern w (.agg #[.int .i64 k.m.n,.int .i64 k.m.s,.slice ai k.m.i.length ci,.slice ah k.m.h.length ch,.slice ae k.m.e.length ce,.int .i64 k.m.z,.slice ad k.d.length cd,.slice ap k.p.length cp,.slice ab k.b.length cb,.int .i64 k.t,.int .i64 k.q,.bool k.f,.slice au k.s.length cu,.slice ax k.x.length cx]) k):=h
 clear h
 obtain⟨Rb,hRb⟩:∃Rb,Rb=w.heap.size+1:=⟨_,rfl⟩
 obtain⟨W0,hW0⟩:∃W0,(w.alloc (.cells #[.int .i64 k.m.n,.int .i64 k.m.s,.slice ai k.m.i.length ci,.slice ah k.m.h.length ch,.slice ae k.m.e.length ce,.int .i64 k.m.z,.slice ad k.d.length cd,.slice ap k.p.length cp,.slice ab k.b.length cb,.int .i64 k.t,.int .i64 k.q,.bool k.f,.slice au k.s.length cu,.slice ax k.x.length cx] 57)).alloc (.cells #[.slice none 0 0,.slice none 0 0,.int .i64 0,.bool false] 62)=W0:=⟨_,rfl⟩
 have HB0:Hid (Below w.heap.size w W0):=hW0▸((Below.refl _ w).alloc (Nat.le_refl _) _).alloc (by simp) _
 have HP0:Hid (Bk W0 w.heap.size 57 #[.int .i64 k.m.n,.int .i64 k.m.s,.slice ai k.m.i.length ci,.slice ah k.m.h.length ch,.slice ae k.m.e.length ce,.int .i64 k.m.z,.slice ad k.d.length cd,.slice ap k.p.length cp,.slice ab k.b.length cb,.int .i64 k.t,.int .i64 k.q,.bool k.f,.slice au k.s.length cu,.slice ax k.x.length cx]):=hW0▸(Bk.new w _ _).alloc _
 have HR0:Hid (Bk W0 Rb 62 #[.slice none 0 0,.slice none 0 0,.int .i64 0,.bool false]):=by rw [←hW0,hRb];exact Bk.newAt (by simp) _ _
 have HW0:Hid ((w.alloc (.cells #[.int .i64 k.m.n,.int .i64 k.m.s,.slice ai k.m.i.length ci,.slice ah k.m.h.length ch,.slice ae k.m.e.length ce,.int .i64 k.m.z,.slice ad k.d.length cd,.slice ap k.p.length cp,.slice ab k.b.length cb,.int .i64 k.t,.int .i64 k.q,.bool k.f,.slice au k.s.length cu,.slice ax k.x.length cx] 57)).alloc (.cells #[.slice none 0 0,.slice none 0 0,.int .i64 0,.bool false] 62)=W0):=hW0
 have HRB:Hid (Rb=w.heap.size+1):=hRb
 have hRw:w.heap.size<Rb:=by omega
 have hRW:Rb<W0.heap.size:=HR0.out.lt
 clear hRb
 have m0:=HP0.out.cell (i:=0) rfl
 have m1:=HP0.out.cell (i:=1) rfl
 have m2:=HP0.out.cell (i:=2) rfl
 have m3:=HP0.out.cell (i:=3) rfl
 have m4:=HP0.out.cell (i:=4) rfl
 have m5:=HP0.out.cell (i:=5) rfl
 have m6:=HP0.out.cell (i:=6) rfl
 have m7:=HP0.out.cell (i:=7) rfl
 have m8:=HP0.out.cell (i:=8) rfl
 have m9:=HP0.out.cell (i:=9) rfl
 have m10:=HP0.out.cell (i:=10) rfl
 have m11:=HP0.out.cell (i:=11) rfl
 have m12:=HP0.out.cell (i:=12) rfl
 have m13:=HP0.out.cell (i:=13) rfl
 go_enter Tryz.func23,Tryz.ntmps23
 go_wp2_with fail
 clear m0 m1 m2 m3 m4 m5 m6 m7 m8 m9 m10 m11 m12 m13 hW0
 try rw [HW0.out]
 try rw [←HRB.out]
 refine(sKernelOk _ k _ HSK.out (HK.out.under HB0.out)).mono ?_
 rintro e w1 ⟨rfl,hb1⟩
 have HB1:Hid (Below w.heap.size w w1):=HB0.out.trans (hb1.mono HB0.out.size)
 have HP1:Hid (Bk w1 w.heap.size 57 #[.int .i64 k.m.n,.int .i64 k.m.s,.slice ai k.m.i.length ci,.slice ah k.m.h.length ch,.slice ae k.m.e.length ce,.int .i64 k.m.z,.slice ad k.d.length cd,.slice ap k.p.length cp,.slice ab k.b.length cb,.int .i64 k.t,.int .i64 k.q,.bool k.f,.slice au k.s.length cu,.slice ax k.x.length cx]):=HP0.out.below hb1
 have HR1:Hid (Bk w1 Rb 62 #[.slice none 0 0,.slice none 0 0,.int .i64 0,.bool false]):=HR0.out.below hb1
 have hs1:W0.heap.size≤w1.heap.size:=hb1.size
 clear hb1 HP0 HR0 HB0
 cases hkk:k.ok
 case false=>
  have HA:Hid (comH k=⟨[],[],0,false⟩):=by show _=_;unfold comH;rw [hkk];rfl
  have HKF:Hid (k.ok=false):=hkk
  clear hkk
  have r0:=HR1.out.cell (i:=0) rfl
  have r1:=HR1.out.cell (i:=1) rfl
  have r2:=HR1.out.cell (i:=2) rfl
  have r3:=HR1.out.cell (i:=3) rfl
  have rf:=HR1.out.free
  go_wp2
  clear r0 r1 r2 r3 rf
  obtain⟨X,hX⟩:∃X,putH w1 Rb (.slice none 0 0) (.slice none 0 0) (.int .i64 0) (.bool false)=X:=⟨_,rfl⟩
  have ht:=putH_turns w1 Rb (.slice none 0 0) (.slice none 0 0) (.int .i64 0) (.bool false)
  have hk:=HR1.out.putH (.slice none 0 0) (.slice none 0 0) (.int .i64 0) (.bool false)
  rw [hX]at ht hk
  unfold putH at hX
  rw [hX]
  have t0:=hk.cell (i:=0) rfl
  have t1:=hk.cell (i:=1) rfl
  have t2:=hk.cell (i:=2) rfl
  have t3:=hk.cell (i:=3) rfl
  refine bodyPost_ret (v:= .tuple #[.agg #[.slice none 0 0,.slice none 0 0,.int .i64 0,.bool false],.bool false]) (by simp [results,Tryz.results23,go_sem,t0,t1,t2,t3]) rfl ?_
  rw [HA.out,HKF.out]
  refine⟨_,rfl,?_,HB1.out.trans (ht.to_below (fun b e=>by omega) HB1.out.size)⟩
  exact(hi_of (World.ownsRow_nil X w.heap.size 110 7) (World.ownsRow_nil X w.heap.size 113 3))
 have HKK:Hid (k.ok=true):=hkk
 have HA:Hid (comH k=⟨k.s++bareL (comL k),toldL k (comL k),k.q,k.f⟩):=by show _=_;unfold comH;rw [hkk];rfl
 clear hkk
 have m0:=HP1.out.cell (i:=0) rfl
 have m1:=HP1.out.cell (i:=1) rfl
 have m2:=HP1.out.cell (i:=2) rfl
 have m3:=HP1.out.cell (i:=3) rfl
 have m4:=HP1.out.cell (i:=4) rfl
 have m5:=HP1.out.cell (i:=5) rfl
 have m6:=HP1.out.cell (i:=6) rfl
 have m7:=HP1.out.cell (i:=7) rfl
 have m8:=HP1.out.cell (i:=8) rfl
 have m9:=HP1.out.cell (i:=9) rfl
 have m10:=HP1.out.cell (i:=10) rfl
 have m11:=HP1.out.cell (i:=11) rfl
 have m12:=HP1.out.cell (i:=12) rfl
 have m13:=HP1.out.cell (i:=13) rfl
 go_wp2_with fail
 clear m0 m1 m2 m3 m4 m5 m6 m7 m8 m9 m10 m11 m12 m13
 refine(sCommit1 _ k _ HSK.out HKK.out (HK.out.under HB1.out)).mono ?_
 rintro e w2 ⟨ay,cy,ax,cx2,rfl,hC,hX,hb2⟩
 have HB2:Hid (Below w.heap.size w w2):=HB1.out.trans (hb2.mono HB1.out.size)
 have HR2:Hid (Bk w2 Rb 62 #[.slice none 0 0,.slice none 0 0,.int .i64 0,.bool false]):=HR1.out.below hb2
 have hs2:w1.heap.size≤w2.heap.size:=hb2.size
 obtain⟨EL,hEL⟩:∃E,k.s++bareL (comL k)=E:=⟨_,rfl⟩
 obtain⟨TL,hTL⟩:∃E,toldL k (comL k)=E:=⟨_,rfl⟩
 rw [hEL]at hC HA
 rw [hTL]at hX HA
 rw [hEL,hTL]
 have HC2:Hid (w2.ownsRow w1.heap.size 110 7 (.slice ay EL.length cy) EL.length (cellsL EL)):=hC
 have HX2:Hid (w2.ownsRow w1.heap.size 113 3 (.slice ax TL.length cx2) TL.length (cellsX TL)):=hX
 clear hC hX hb2 hEL hTL HP1 HR1
 have r0:=HR2.out.cell (i:=0) rfl
 have r1:=HR2.out.cell (i:=1) rfl
 have r2:=HR2.out.cell (i:=2) rfl
 have r3:=HR2.out.cell (i:=3) rfl
 have rf:=HR2.out.free
 go_wp2
 clear r0 r1 r2 r3 rf
 obtain⟨X,hX⟩:∃X,putH w2 Rb (.slice ay EL.length cy) (.slice ax TL.length cx2) (.int .i64 k.q) (.bool k.f)=X:=⟨_,rfl⟩
 have ht:=putH_turns w2 Rb (.slice ay EL.length cy) (.slice ax TL.length cx2) (.int .i64 k.q) (.bool k.f)
 have hk:=HR2.out.putH (.slice ay EL.length cy) (.slice ax TL.length cx2) (.int .i64 k.q) (.bool k.f)
 rw [hX]at ht hk
 unfold putH at hX
 rw [hX]
 have t0:=hk.cell (i:=0) rfl
 have t1:=hk.cell (i:=1) rfl
 have t2:=hk.cell (i:=2) rfl
 have t3:=hk.cell (i:=3) rfl
 refine bodyPost_ret (v:= .tuple #[.agg #[.slice ay EL.length cy,.slice ax TL.length cx2,.int .i64 k.q,.bool k.f],.bool true]) (by simp [results,Tryz.results23,go_sem,t0,t1,t2,t3]) rfl ?_
 rw [HA.out,HKK.out]
 refine⟨_,rfl,?_,HB2.out.trans (ht.to_below (fun b e=>by omega) HB2.out.size)⟩
 exact hi_of (owns_mono (owns_turns HC2.out ht (fun j hj e=>owns_ne HC2.out HR2.out (by decide) (e▸hj))) HB1.out.size) (owns_mono (owns_turns HX2.out ht (fun j hj e=>owns_ne HX2.out HR2.out (by decide) (e▸hj))) HB1.out.size)
end Go.Proofs.YtmobiieoecjmdaaGreat

