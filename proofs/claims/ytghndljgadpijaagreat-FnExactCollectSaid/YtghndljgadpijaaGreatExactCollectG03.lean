/- MModel, MLaw, EEm, Find, OwnE, Quiet, SSt, SOk, XEm, TDat, TRow -/
import Derived.Test.YtghndljgadpijaaGreatExactCollectG01
import Derived.Test.YtghndljgadpijaaGreatExactCollectG02
import Derived.Deep.RegionLaw
import Derived.Laws.OwnMore
import Derived.WalkSmall
import Derived.Laws.AppendOwnNone
import Derived.Deep.QuietTactic
import Derived.BigQuiet
import Derived.Deep.RegionHeld3
/- toModel, szModel, eqModel, markModel, heldModel. -/
namespace Go.Proofs.YtghndljgadpijaaGreat
open Go.RowKit
theorem yyd {p:Prop} (h:p):Hid p:=h
structure SmallM (m:Md):Prop where
  i:m.i.length≤1048576
  h:m.h.length≤1048576
  r:∀i,(hAt m.h i).length≤1048576
  t:sumL (lens m.h) m.h.length≤1048576
  e:m.e.length≤1048576
theorem RowI.rowF {w:World} {g:Nat} {l:List Int} (h:RowI w g l) (hl:l.length≤maxLen):RowF (fun k=>k=g) w (sl g l.length) l.length 1 (intCells l):=by
  refine⟨by simp [intCells],_,_,rfl,Nat.le_refl _,hl,.inr ⟨g,rfl,rfl,h.1,fun j hj=>⟨?_,(h.2 j (by omega)).2⟩⟩⟩
  have hj':j<l.length:=by omega
  rw [(h.2 j hj').1]
  simp [intCells,intAt,hj']
theorem RowTo.rowF {w:World} {g:Nat} {l:List Ev} (h:RowTo w g l.length l l.length) (hl:l.length≤maxLen):RowF (fun k=>k=g) w (sl g l.length) l.length 7 (yvz l):=by
  refine⟨ywc l,_,_,rfl,Nat.le_refl _,hl,.inr ⟨g,rfl,rfl,h.1,fun j hj=>⟨?_,(h.2.1 j hj).2⟩⟩⟩
  have hi:j/7<l.length:=by omega
  have e:=yzo l _ (j%7) hi (by omega)
  rw [show j/7*7+j%7=j from by omega]at e
  have hlt:j<(yvz l).length:=by rw [ywc];exact hj
  rw [List.getElem?_eq_getElem hlt]at e⊢
  have:=(h.2.2 _ hi).get e.symm
  rw [show j/7*7+j%7=j from by omega]at this
  exact this
set_option maxHeartbeats 2000000 in
theorem zim (x:Value) (m:Md) (w:World) (hs:SmallM m) (h:IsM w x m):
    Calls Tryz.prog 40 #[x] w fun e w'=>∃y,e= .returned y∧Below w.heap.size w w'∧MdF (fun k=>w.heap.size≤k∧k<w'.heap.size) w' y m:=by
  obtain⟨vi,vh,vs,rfl,h1,h2,h3⟩:=h
  obtain⟨n,s,i,hh,ev,z⟩:=m
  have HI:Hid (IsI w vi i):=h1
  have HH:Hid (IsH w vh hh):=h2
  have HE:Hid (IsEvs w vs ev):=h3
  have HS:=yyd hs
  clear h1 h2 h3 hs
  obtain⟨W0,hW0⟩:∃W0,((w.alloc (.cells #[.int .i64 n,.int .i64 s,vi,vh,vs,.int .i64 z] 26)).alloc (.cells #[.int .i64 0,.int .i64 0,.slice none 0 0,.slice none 0 0,.slice none 0 0,.int .i64 0] 36)).alloc (.cells #[.int .i64 n,.int .i64 s,.slice none 0 0,.slice none 0 0,.slice none 0 0,.int .i64 0] 36)=W0:=⟨_,rfl⟩
  have HB0:Hid (Below w.heap.size w W0):=by rw [←hW0];exact(((Below.refl _ w).alloc (Nat.le_refl _) _).alloc (by simp) _).alloc (by simp;omega) _
  have HP0:Hid (Bk W0 w.heap.size 26 #[.int .i64 n,.int .i64 s,vi,vh,vs,.int .i64 z]):=by rw [←hW0];exact((Bk.new w _ _).alloc _).alloc _
  have HR0:Hid (Bk W0 (w.heap.size+1) 36 #[.int .i64 0,.int .i64 0,.slice none 0 0,.slice none 0 0,.slice none 0 0,.int .i64 0]):=by rw [←hW0];exact(Bk.newAt (by simp) _ _).alloc _
  have HQ0:Hid (Bk W0 (w.heap.size+1+1) 36 #[.int .i64 n,.int .i64 s,.slice none 0 0,.slice none 0 0,.slice none 0 0,.int .i64 0]):=by rw [←hW0];exact Bk.newAt (by simp) _ _
  have HW0:=yyd hW0
  clear hW0
  go_enter Tryz.func40,Tryz.ntmps40
  go_wp2_with fail
  rw [HW0.out]
  clear HW0
  refine(zin _ i _ HS.out.i (HI.out.below HB0.out)).mono ?_
  rintro e w1 ⟨rfl,hb,hr⟩
  have HI1:=yyd hr
  have hz1:W0.heap.size<w1.heap.size:=hr.1
  have hq:=HQ0.out.lt
  have HX1:=yyd (HB0.out.trans (hb.mono (by omega)))
  have HPa:=HP0.out.below hb
  have HRa:=HR0.out.below hb
  have HQa:=HQ0.out.below hb
  clear hb hr HB0 HP0 HR0 HQ0
  obtain⟨X1,hX1⟩:∃X1,w1.setCell ⟨w.heap.size+1+1,2,none⟩ (sl W0.heap.size i.length)=X1:=⟨_,rfl⟩
  have q2:=HQa.cell (i:=2) rfl
  have qf:=HQa.free 2
  have HP1:Hid (Bk X1 w.heap.size 26 #[.int .i64 n,.int .i64 s,vi,vh,vs,.int .i64 z]):=hX1▸HPa.other 2 _ (by omega)
  have HR1:Hid (Bk X1 (w.heap.size+1) 36 #[.int .i64 0,.int .i64 0,.slice none 0 0,.slice none 0 0,.slice none 0 0,.int .i64 0]):=hX1▸HRa.other 2 _ (by omega)
  have HQ1:Hid (Bk X1 (w.heap.size+1+1) 36 #[.int .i64 n,.int .i64 s,sl W0.heap.size i.length,.slice none 0 0,.slice none 0 0,.int .i64 0]):=hX1▸HQa.put 2 _
  have p3:=HP1.out.cell (i:=3) rfl
  have HI1:Hid (RowF (fun k=>k=W0.heap.size) X1 (sl W0.heap.size i.length) i.length 1 (intCells i)):=hX1▸(HI1.out.rowF (by have:i.length≤1048576:=HS.out.i;unfold maxLen;omega)).turns (yyj w1 (w.heap.size+1+1) 2 _) (fun k e=>by omega)
  have HX1:Hid (Below w.heap.size w X1):=hX1▸HX1.out.setCell (p:=⟨w.heap.size+1+1,2,none⟩) (by show w.heap.size≤w.heap.size+1+1;omega) _
  have hy1:W0.heap.size<X1.heap.size:=by rw [←hX1];simpa using hz1
  clear HPa HRa HQa
  go_wp2_with fail
  clear p3 q2 qf hX1 hz1
  refine(zlf _ hh _ HS.out.h HS.out.r (HH.out.below HX1.out)).mono ?_
  rintro e w2 ⟨rfl,hb,hr⟩
  have HH2:=yyd (hr.rows (by have:hh.length≤1048576:=HS.out.h;unfold maxLen;omega) (fun i=>by have:(hAt hh i).length≤1048576:=HS.out.r i;unfold maxLen;omega))
  have hz2:X1.heap.size<w2.heap.size:=hr.1
  have HX2:=yyd (HX1.out.trans (hb.mono (by omega)))
  have HI2:=yyd (HI1.out.below hb)
  have HP2:=HP1.out.below hb
  have HR2:=HR1.out.below hb
  have HQ2:=HQ1.out.below hb
  clear hb hr HX1 HI1 HP1 HR1 HQ1
  obtain⟨X2,hX2⟩:∃X2,w2.setCell ⟨w.heap.size+1+1,3,none⟩ (sl X1.heap.size hh.length)=X2:=⟨_,rfl⟩
  have q3:=HQ2.cell (i:=3) rfl
  have qf:=HQ2.free 3
  have HP3:Hid (Bk X2 w.heap.size 26 #[.int .i64 n,.int .i64 s,vi,vh,vs,.int .i64 z]):=hX2▸HP2.other 3 _ (by omega)
  have HR3:Hid (Bk X2 (w.heap.size+1) 36 #[.int .i64 0,.int .i64 0,.slice none 0 0,.slice none 0 0,.slice none 0 0,.int .i64 0]):=hX2▸HR2.other 3 _ (by omega)
  have HQ3:Hid (Bk X2 (w.heap.size+1+1) 36 #[.int .i64 n,.int .i64 s,sl W0.heap.size i.length,sl X1.heap.size hh.length,.slice none 0 0,.int .i64 0]):=hX2▸HQ2.put 3 _
  have p4:=HP3.out.cell (i:=4) rfl
  have ht2:=yyj w2 (w.heap.size+1+1) 3 (sl X1.heap.size hh.length)
  rw [hX2]at ht2
  have HI3:=yyd (HI2.out.turns ht2 (fun k e=>by omega))
  obtain⟨U,hU⟩:=HH2.out
  have HH3:Hid (HsF (fun k=>X1.heap.size≤k∧k<w2.heap.size) X2 (sl X1.heap.size hh.length) hh):=⟨U,hU.turns ht2 (fun k e=>by omega)⟩
  have HX3:Hid (Below w.heap.size w X2):=hX2▸HX2.out.setCell (p:=⟨w.heap.size+1+1,3,none⟩) (by show w.heap.size≤w.heap.size+1+1;omega) _
  have hy2:w2.heap.size≤X2.heap.size:=ht2.size
  clear hU HP2 HR2 HQ2 ht2 HI2 HH2 HX2
  go_wp2_with fail
  clear p4 q3 qf hX2
  refine(zdr _ ev _ HS.out.e (HE.out.below HX3.out)).mono ?_
  rintro e w3 ⟨rfl,hb,hr⟩
  have HE4:=yyd (hr.rowF (by have:ev.length≤1048576:=HS.out.e;unfold maxLen;omega))
  have hz3:X2.heap.size<w3.heap.size:=hr.1
  have HX4:=yyd (HX3.out.trans (hb.mono (by omega)))
  have HI4:=yyd (HI3.out.below hb)
  obtain⟨U,hU⟩:=HH3.out
  have HH4:Hid (HsF (fun k=>X1.heap.size≤k∧k<w2.heap.size) w3 (sl X1.heap.size hh.length) hh):=⟨U,hU.below hb⟩
  have HP4:=HP3.out.below hb
  have HR4:=HR3.out.below hb
  have HQ4:=HQ3.out.below hb
  clear hb hr HX3 HI3 HH3 HP3 HR3 HQ3 hU
  obtain⟨X3,hX3⟩:∃X3,w3.setCell ⟨w.heap.size+1+1,4,none⟩ (sl X2.heap.size ev.length)=X3:=⟨_,rfl⟩
  obtain⟨X4,hX4⟩:∃X4,X3.setCell ⟨w.heap.size+1+1,5,none⟩ (.int .i64 z)=X4:=⟨_,rfl⟩
  have q4:=HQ4.cell (i:=4) rfl
  have qf:=HQ4.free 4
  have HP5:Bk X3 w.heap.size 26 #[.int .i64 n,.int .i64 s,vi,vh,vs,.int .i64 z]:=hX3▸HP4.other 4 _ (by omega)
  have p5:=HP5.cell (i:=5) rfl
  have HQ5:Bk X3 (w.heap.size+1+1) 36 #[.int .i64 n,.int .i64 s,sl W0.heap.size i.length,sl X1.heap.size hh.length,sl X2.heap.size ev.length,.int .i64 0]:=hX3▸HQ4.put 4 _
  have q5:=HQ5.cell (i:=5) rfl
  have qf5:=HQ5.free 5
  have HQ6:Bk X4 (w.heap.size+1+1) 36 #[.int .i64 n,.int .i64 s,sl W0.heap.size i.length,sl X1.heap.size hh.length,sl X2.heap.size ev.length,.int .i64 z]:=hX4▸HQ5.put 5 _
  have HR5:Bk X3 (w.heap.size+1) 36 #[.int .i64 0,.int .i64 0,.slice none 0 0,.slice none 0 0,.slice none 0 0,.int .i64 0]:=hX3▸HR4.other 4 _ (by omega)
  have HR6:Bk X4 (w.heap.size+1) 36 #[.int .i64 0,.int .i64 0,.slice none 0 0,.slice none 0 0,.slice none 0 0,.int .i64 0]:=hX4▸HR5.other 5 _ (by omega)
  obtain⟨o0,o1,o2,o3,o4,o5⟩:=c6_6 HQ6
  obtain⟨r0,r1,r2,r3,r4,r5⟩:=c6_6 HR6
  have rf:=HR6.free
  have HR7:=yyd HR6
  have ht3:=(yyj w3 (w.heap.size+1+1) 4 (sl X2.heap.size ev.length))
  rw [hX3]at ht3
  have ht4:=yyj X3 (w.heap.size+1+1) 5 (.int .i64 z)
  rw [hX4]at ht4
  have HT:=yyd (ht3.trans ht4)
  clear HP4 HQ4 HP5 HQ5 HQ6 HR4 HR5 HR6 ht3 ht4
  go_wp2
  clear o0 o1 o2 o3 o4 o5 r0 r1 r2 r3 r4 r5 rf
  obtain⟨X5,hX5⟩:∃X5,put6 X4 (w.heap.size+1) (.int .i64 n) (.int .i64 s) (.slice (some ⟨W0.heap.size,0,none⟩) i.length i.length) (.slice (some ⟨X1.heap.size,0,none⟩) hh.length hh.length) (.slice (some ⟨X2.heap.size,0,none⟩) ev.length ev.length) (.int .i64 z)=X5:=⟨_,rfl⟩
  have hR:=HR7.out.put6 (.int .i64 n) (.int .i64 s) (.slice (some ⟨W0.heap.size,0,none⟩) i.length i.length) (.slice (some ⟨X1.heap.size,0,none⟩) hh.length hh.length) (.slice (some ⟨X2.heap.size,0,none⟩) ev.length ev.length) (.int .i64 z)
  have ht:=zlr X4 (w.heap.size+1) (.int .i64 n) (.int .i64 s) (.slice (some ⟨W0.heap.size,0,none⟩) i.length i.length) (.slice (some ⟨X1.heap.size,0,none⟩) hh.length hh.length) (.slice (some ⟨X2.heap.size,0,none⟩) ev.length ev.length) (.int .i64 z)
  rw [hX5]at hR ht
  unfold put6 at hX5
  rw [hX5]
  obtain⟨t0,t1,t2,t3,t4,t5⟩:=c6_6 hR
  have hT:Turns (fun k=>k=w.heap.size+1+1∨k=w.heap.size+1) w3 X5:=(HT.out.mono (fun k e=> .inl e)).trans (ht.mono (fun k e=> .inr e))
  have hsz:=hT.size
  obtain⟨U,hU⟩:=HH4.out
  refine bodyPost_ret (v:= .agg #[.int .i64 n,.int .i64 s,sl W0.heap.size i.length,sl X1.heap.size hh.length,sl X2.heap.size ev.length,.int .i64 z]) (by simp [results,Tryz.results40,go_sem,t0,t1,t2,t3,t4,t5]) rfl
    ⟨_,rfl,HX4.out.trans (hT.to_below (fun k e=>by omega) (by omega)),(fun k=>k=W0.heap.size),(fun k=>X1.heap.size≤k∧k<w2.heap.size),(fun k=>k=X2.heap.size),_,_,_,rfl,?_,⟨U,?_⟩,?_,fun k e=> ?_,fun k e=> ?_,fun k e=> ?_⟩
  · exact HI4.out.turns hT (fun k e=>by omega)
  · exact hU.turns hT (fun k e=>by omega)
  · exact HE4.out.turns hT (fun k e=>by omega)
  · exact⟨by omega,by omega,by omega⟩
  · exact⟨by omega,by omega⟩
  · exact by omega
set_option maxHeartbeats 2000000
open Go.RowKit
theorem MdF.form {F:Nat→Prop} {w:World} {y:Value} {m:Md} (h:MdF F w y m):∃ai ci ah ch ae ce,y= .agg #[.int .i64 m.n,.int .i64 m.s,.slice ai m.i.length ci,.slice ah m.h.length ch,.slice ae m.e.length ce,.int .i64 m.z]:=by
  obtain⟨A,B,C,vi,vh,vs,rfl,⟨_,a1,c1,rfl,_⟩,⟨U,F0,G,⟨_,a2,c2,rfl,_⟩,_⟩,⟨_,a3,c3,rfl,_⟩,_⟩:=h
  exact⟨a1,c1,a2,c2,a3,c3,rfl⟩
theorem zia (x y:Value) (m:Md) (w:World) (hs:SmallM m) (hx:IsM w x m) (hy:IsM w y m):
    Calls Tryz.prog 52 #[x,y] w fun e w'=>e= .returned (.bool true)∧Below w.heap.size w w':=by
  obtain⟨vi,vh,vs,rfl,h1,h2,h3⟩:=hx
  obtain⟨ui,uh,us,rfl,k1,k2,k3⟩:=hy
  obtain⟨n,s,i,hh,ev,z⟩:=m
  have HI:Hid (IsI w vi i∧IsI w ui i):=⟨h1,k1⟩
  have HH:Hid (IsH w vh hh∧IsH w uh hh):=⟨h2,k2⟩
  have HE:Hid (IsEvs w vs ev∧IsEvs w us ev):=⟨h3,k3⟩
  have HS:Hid (SmallM ⟨n,s,i,hh,ev,z⟩):=hs
  clear h1 h2 h3 k1 k2 k3 hs
  obtain⟨W0,hW0⟩:∃W0,(w.alloc (.cells #[.int .i64 n,.int .i64 s,vi,vh,vs,.int .i64 z] 36)).alloc (.cells #[.int .i64 n,.int .i64 s,ui,uh,us,.int .i64 z] 36)=W0:=⟨_,rfl⟩
  have HB0:=hdq (beA2 hW0)
  have HP0:=hdq (bkA2 hW0)
  have HQ0:=hdq (bkB2 hW0)
  obtain⟨p0,p1,p2⟩:=c3_6 HP0.out
  obtain⟨q0,q1,q2⟩:=c3_6 HQ0.out
  go_enter Tryz.func52,Tryz.ntmps52
  go_wp2_with fail
  clear p0 p1 p2 q0 q1 q2 hW0
  refine(zgo _ _ i _ (by have:i.length≤1048576:=HS.out.i;omega) (HI.out.1.below HB0.out) (HI.out.2.below HB0.out)).mono ?_
  rintro e w1 ⟨rfl,hb⟩
  have HB1:Hid (Below w.heap.size w w1):=trm HB0.out hb
  have HP1:Hid (Bk w1 w.heap.size 36 #[.int .i64 n,.int .i64 s,vi,vh,vs,.int .i64 z]):=HP0.out.below hb
  have HQ1:Hid (Bk w1 (w.heap.size+1) 36 #[.int .i64 n,.int .i64 s,ui,uh,us,.int .i64 z]):=HQ0.out.below hb
  have p3:=HP1.out.cell (i:=3) rfl
  have q3:=HQ1.out.cell (i:=3) rfl
  clear hb HB0 HP0 HQ0
  go_wp2_with fail
  clear p3 q3
  refine(eqH_same _ _ hh _ HS.out.h HS.out.r (HH.out.1.below HB1.out) (HH.out.2.below HB1.out)).mono ?_
  rintro e w2 ⟨rfl,hb⟩
  have HB2:Hid (Below w.heap.size w w2):=trm HB1.out hb
  have HP2:Hid (Bk w2 w.heap.size 36 #[.int .i64 n,.int .i64 s,vi,vh,vs,.int .i64 z]):=HP1.out.below hb
  have HQ2:Hid (Bk w2 (w.heap.size+1) 36 #[.int .i64 n,.int .i64 s,ui,uh,us,.int .i64 z]):=HQ1.out.below hb
  have p4:=HP2.out.cell (i:=4) rfl
  have q4:=HQ2.out.cell (i:=4) rfl
  clear hb HB1 HP1 HQ1
  go_wp2_with fail
  clear p4 q4
  refine(zkr _ _ ev _ HS.out.e (HE.out.1.below HB2.out) (HE.out.2.below HB2.out)).mono ?_
  rintro e w3 ⟨rfl,hb⟩
  have HB3:Hid (Below w.heap.size w w3):=trm HB2.out hb
  have p5:=(HP2.out.below hb).cell (i:=5) rfl
  have q5:=(HQ2.out.below hb).cell (i:=5) rfl
  clear hb HB2 HP2 HQ2
  go_wp2
  go_ret
  exact⟨rfl,HB3.out⟩
def HeldM (F:Nat→Prop) (w:World) (x:Value) (m:Md):Prop:=
  ∃(A B C:Nat→Prop) (vi vh vs:Value) (U:Nat→Value),x= .agg #[.int .i64 m.n,.int .i64 m.s,vi,vh,vs,.int .i64 m.z]∧RowF A w vi m.i.length 1 (yxe 1 (m.i.length*1))∧
    RowsF B w vh m.h.length U (lens m.h) (zc8 (1+(m.i.length:Int)) (lens m.h))∧RowF C w vs m.e.length 7 (yxe (1+(m.i.length:Int)+4*(sumL (lens m.h) m.h.length:Int)) (m.e.length*7))∧
    (∀k,A k→F k∧ ¬B k∧ ¬C k)∧(∀k,B k→F k∧ ¬C k)∧ ∀k,C k→F k
theorem HeldM.turns {F S:Nat→Prop} {w w':World} {x:Value} {m:Md} (h:HeldM F w x m) (ht:Turns S w w') (hS:∀k,F k→ ¬S k):HeldM F w' x m:=by
  obtain⟨A,B,C,vi,vh,vs,U,rfl,h1,h2,h3,h4,h5,h6⟩:=h
  exact⟨A,B,C,vi,vh,vs,U,rfl,h1.turns ht (fun k hk=>hS k (h4 k hk).1),h2.turns ht (fun k hk=>hS k (h5 k hk).1),h3.turns ht (fun k hk=>hS k (h6 k hk)),h4,h5,h6⟩
theorem HeldM.below {F:Nat→Prop} {w w':World} {x:Value} {m:Md} (h:HeldM F w x m) (hb:Below w.heap.size w w'):HeldM F w' x m:=
  h.turns (S:=fun _=>False) (Turns.of_below hb) (fun _ _=>id)
def yzs (m:Md):Int:=1+(m.i.length:Int)+4*(sumL (lens m.h) m.h.length:Int)+7*(m.e.length:Int)
theorem zm7 (m:Md):1≤yzs m:=by unfold yzs;omega
theorem zcx {F:Nat→Prop} {x:Value} {m:Md} {w:World} (hs:SmallM m) (h:MdF F w x m) (hF:∀k,F k→k<w.heap.size):
    Calls Tryz.prog 58 #[x,.int .i64 1] w fun e w'=>e= .returned (.int .i64 (yzs m))∧HeldM F w' x m∧Turns F w w':=by
  obtain⟨A,B,C,vi,vh,vs,rfl,h1,⟨U,h2⟩,h3,h4,h5,h6⟩:=h
  obtain⟨n,s,i,hh,ev,z⟩:=m
  have HI:Hid (RowF A w vi i.length 1 (intCells i)):=h1
  have HH:Hid (RowsF B w vh hh.length U (lens hh) (fun i=>yyv (hAt hh i))):=h2
  have HE:Hid (RowF C w vs ev.length 7 (yvz ev)):=h3
  have HS:Hid (SmallM ⟨n,s,i,hh,ev,z⟩):=hs
  have HF:Hid ((∀k,F k→k<w.heap.size)∧(∀k,A k→F k∧ ¬B k∧ ¬C k)∧(∀k,B k→F k∧ ¬C k)∧ ∀k,C k→F k):=⟨hF,h4,h5,h6⟩
  clear h1 h2 h3 h4 h5 h6 hs hF
  obtain⟨W0,hW0⟩:∃W0,w.alloc (.cells #[.int .i64 n,.int .i64 s,vi,vh,vs,.int .i64 z] 36)=W0:=⟨_,rfl⟩
  have HB0:=hdq (beA hW0)
  have HP0:=hdq (bkA hW0)
  have p2:=HP0.out.cell (i:=2) rfl
  have hi:i.length≤1048576:=HS.out.i
  have hh1:sumL (lens hh) hh.length≤1048576:=HS.out.t
  have hh2:hh.length≤1048576:=HS.out.h
  have he:ev.length≤1048576:=HS.out.e
  go_enter Tryz.func58,Tryz.ntmps58
  go_wp2_with fail
  clear p2 hW0
  refine(markIF (F:=A) 1 (by omega) (by omega) (by omega) (HI.out.below HB0.out)).mono ?_
  rintro e w1 ⟨rfl,hr,ht⟩
  have HT1:Hid (Turns F W0 w1):=ht.mono (fun k hk=>(HF.out.2.1 k hk).1)
  have HI1:Hid (RowF A w1 vi i.length 1 (yxe 1 (i.length*1))):=hr
  have HH1:Hid (RowsF B w1 vh hh.length U (lens hh) (fun i=>yyv (hAt hh i))):=(HH.out.below HB0.out).turns ht (fun k hk ha=>(HF.out.2.1 k ha).2.1 hk)
  have HE1:Hid (RowF C w1 vs ev.length 7 (yvz ev)):=(HE.out.below HB0.out).turns ht (fun k hk ha=>(HF.out.2.1 k ha).2.2 hk)
  have HP1:Hid (Bk w1 w.heap.size 36 #[.int .i64 n,.int .i64 s,vi,vh,vs,.int .i64 z]):=HP0.out.turns HT1.out (fun hk=>by have:=HF.out.1 _ hk;omega)
  have p3:=HP1.out.cell (i:=3) rfl
  clear hr ht HI HH HE HP0
  go_wp2_with fail
  clear p3
  refine(markHF (F:=B) (1+(i.length:Int)) (by omega) (by omega) (by omega) (by omega) HH1.out).mono ?_
  rintro e w2 ⟨rfl,hr,ht⟩
  have HT2:Hid (Turns F W0 w2):=HT1.out.trans (ht.mono (fun k hk=>(HF.out.2.2.1 k hk).1))
  have HI2:Hid (RowF A w2 vi i.length 1 (yxe 1 (i.length*1))):=HI1.out.turns ht (fun k hk hb=>(HF.out.2.1 k hk).2.1 hb)
  have HH2:Hid (RowsF B w2 vh hh.length U (lens hh) (zc8 (1+(i.length:Int)) (lens hh))):=hr
  have HE2:Hid (RowF C w2 vs ev.length 7 (yvz ev)):=HE1.out.turns ht (fun k hk hb=>(HF.out.2.2.1 k hb).2 hk)
  have HP2:Hid (Bk w2 w.heap.size 36 #[.int .i64 n,.int .i64 s,vi,vh,vs,.int .i64 z]):=HP1.out.turns ht (fun hk=>by have:=HF.out.1 _ (HF.out.2.2.1 _ hk).1;omega)
  have p4:=HP2.out.cell (i:=4) rfl
  clear hr ht HI1 HH1 HE1 HP1 HT1
  go_wp2_with fail
  clear p4
  refine(markEF (F:=C) (1+(i.length:Int)+4*(sumL (lens hh) hh.length:Int)) (by omega) (by omega) (by omega) HE2.out).mono ?_
  rintro e w3 ⟨rfl,hr,ht⟩
  have HT3:Hid (Turns F W0 w3):=HT2.out.trans (ht.mono (fun k hk=>HF.out.2.2.2 k hk))
  have HI3:Hid (RowF A w3 vi i.length 1 (yxe 1 (i.length*1))):=HI2.out.turns ht (fun k hk hc=>(HF.out.2.1 k hk).2.2 hc)
  have HH3:Hid (RowsF B w3 vh hh.length U (lens hh) (zc8 (1+(i.length:Int)) (lens hh))):=HH2.out.turns ht (fun k hk hc=>(HF.out.2.2.1 k hk).2 hc)
  have HE3:Hid (RowF C w3 vs ev.length 7 (yxe (1+(i.length:Int)+4*(sumL (lens hh) hh.length:Int)) (ev.length*7))):=hr
  clear hr ht HI2 HH2 HE2 HP2 HT2
  go_wp2
  go_ret
  exact⟨rfl,⟨A,B,C,vi,vh,vs,U,rfl,HI3.out,HH3.out,HE3.out,HF.out.2⟩,(Turns.of_below HB0.out).trans HT3.out⟩
theorem zgj {F:Nat→Prop} {x:Value} {m:Md} {w:World} (hs:SmallM m) (h:HeldM F w x m):
    Calls Tryz.prog 64 #[x,.int .i64 1] w fun e w'=>e= .returned (.int .i64 (yzs m))∧Below w.heap.size w w':=by
  obtain⟨A,B,C,vi,vh,vs,U,rfl,h1,h2,h3,h4,h5,h6⟩:=h
  obtain⟨n,s,i,hh,ev,z⟩:=m
  have HI:Hid (RowF A w vi i.length 1 (yxe 1 (i.length*1))):=h1
  have HH:Hid (RowsF B w vh hh.length U (lens hh) (zc8 (1+(i.length:Int)) (lens hh))):=h2
  have HE:Hid (RowF C w vs ev.length 7 (yxe (1+(i.length:Int)+4*(sumL (lens hh) hh.length:Int)) (ev.length*7))):=h3
  have HS:Hid (SmallM ⟨n,s,i,hh,ev,z⟩):=hs
  clear h1 h2 h3 h4 h5 h6 hs
  obtain⟨W0,hW0⟩:∃W0,w.alloc (.cells #[.int .i64 n,.int .i64 s,vi,vh,vs,.int .i64 z] 36)=W0:=⟨_,rfl⟩
  have HB0:=hdq (beA hW0)
  have HP0:=bkA hW0
  have p2:=HP0.cell (i:=2) rfl
  have p3:=HP0.cell (i:=3) rfl
  have p4:=HP0.cell (i:=4) rfl
  clear HP0
  have hi:i.length≤1048576:=HS.out.i
  have hh1:sumL (lens hh) hh.length≤1048576:=HS.out.t
  have hh2:hh.length≤1048576:=HS.out.h
  have he:ev.length≤1048576:=HS.out.e
  have n1:¬(1+(i.length:Int)<0):=by omega
  have n2:¬(1+(i.length:Int)+4*(sumL (lens hh) hh.length:Int)<0):=by omega
  have n3:¬(1+(i.length:Int)+4*(sumL (lens hh) hh.length:Int)+7*(ev.length:Int)<0):=by omega
  go_enter Tryz.func64,Tryz.ntmps64
  go_wp2_with fail
  clear hW0
  refine(heldIF (F:=A) 1 (by omega) (by omega) (by omega) (HI.out.below HB0.out)).mono ?_
  rintro e w' ⟨rfl,hw⟩
  have hw':=hw.symm
  clear hw
  subst hw'
  go_wp2_with fail
  refine(heldHF (F:=B) (1+(i.length:Int)) (by omega) (by omega) (by omega) (by omega) (HH.out.below HB0.out)).mono ?_
  rintro e w' ⟨rfl,hw⟩
  have hw':=hw.symm
  clear hw
  subst hw'
  go_wp2_with fail
  refine(heldEF (F:=C) (1+(i.length:Int)+4*(sumL (lens hh) hh.length:Int)) (by omega) (by omega) (by omega) (HE.out.below HB0.out)).mono ?_
  rintro e w' ⟨rfl,hw⟩
  have hw':=hw.symm
  clear hw
  subst hw'
  go_wp2
  go_ret
  exact⟨rfl,HB0.out⟩
structure Em where
  t:Int
  l:Int
  v:Int
def xAt (l:List Em) (i:Nat):Em:=l.getD i ⟨0,0,0⟩
def Em.cs (e:Em):List Value:= [.int .i64 e.t,.int .i64 e.l,.int .i64 e.v]
def ywm:List Em→List Value
  | []=> []
  |e::l=>e.cs++ywm l
theorem yxd:∀l:List Em,(ywm l).length=l.length*3
  | []=>rfl
  |e::l=>by simp [ywm,yxd l,Em.cs];omega
theorem zb6:∀l l':List Em,ywm (l++l')=ywm l++ywm l'
  | [],_=>rfl
  |e::l,l'=>by simp [ywm,zb6 l l']
theorem zfy (e:Em) (l:List Em) (i:Nat):xAt (e::l) (i+1)=xAt l i:=by simp [xAt]
theorem za8:∀(l:List Em) (i r:Nat),i<l.length→r<3→(ywm l)[i*3+r]? =(xAt l i).cs[r]?
  | [],_,_,h,_=>by simp at h
  |e::l,0,r,_,hr=>by
    have:r<e.cs.length:=by simpa [Em.cs] using hr
    simp only [ywm,Nat.zero_mul,Nat.zero_add]
    rw [List.getElem?_append_left this]
    simp [xAt]
  |e::l,i+1,r,h,hr=>by
    have h1:=za8 l i r (by simpa using h) hr
    have:e.cs.length≤(i+1)*3+r:=by simp [Em.cs];omega
    simp only [ywm]
    rw [List.getElem?_append_right this,zfy,←h1]
    congr 1
    simp [Em.cs];omega
theorem zbf {P:Program} {ops:Array Oper} {o:Oper} {a:Act} {w:World} {K:Act→World→Prop} {Q:Exit→Act→World→Prop} {E:Prop}
    (hg:o.guard=none) (s x:Operand) (t:TypeId) (hop:o.op=Op.call {callee:=Callee.builtin Builtin.append,args:= #[s,x],argTypes:= #[t,t]})
    (base:Nat) (e:TypeId) (i:TypeInfo) (z:Value) (size bytes:Nat) (h1:P.underlying t=some (.slice e)) (h2:P.info? e=some i) (h3:i.zero=some z) (h4:i.size=size) (h5:i.bytes=bytes) (h6:z.cells.size=size) (h7:0<size)
    (v:Value) (n:Nat) (xs:List Value) (hs:a.eval s=v) (hown:w.ownsRow base e size v n xs)
    (ad:Addr) (m c:Nat) (news:List Value) (hx:a.eval x= .slice (some ad) m c) (hn:news.length=m*size) (hc:∀j u,news[j]? =some u→w.cell? (ad.add j)=some u) (h1c:∀u∈news,u.oneCell'=true)
    (b1:n+m≤maxLen) (b2:(n+m)*bytes≤140737488355328) (hbase:base≤w.heap.size)
    (hK:∀v' w',w'.ownsRow base e size v' (n+m) (xs++news)→w.grownBy w' v.ownBlock→K (a.put o.dst v') w'):
    if Region.wanted o (yielded ops a.tmps)=true then Oper.wp P o a w K Q else E:=by
  have hw:Region.wanted o (yielded ops a.tmps)=true:=by simp [Region.wanted,hg]
  rw [if_pos hw]
  exact wp_append_own w s x t hop base e i z size bytes h1 h2 h3 h4 h5 h6 h7 v n xs hs hown ad m c news hx hn hc h1c b1 b2 hbase (fun v' w' r1 r2 _=>hK v' w' r1 r2)
theorem yx4 {w:World} {B:Nat} {e:TypeId} {size n:Nat} {v:Value} {xs:List Value} (h:w.ownsRow B e size v n xs) {r:Nat} (hr:v.ownBlock=some r):B≤r:=by
  obtain⟨_,⟨rfl,_⟩|⟨g,cap,cur,rfl,hg,_⟩⟩:=h
  · cases hr
  · cases hr;exact hg
def OwnR (B:Nat) (w:World) (x:Value) (l:List Ev):Prop:=w.ownsRow B 90 7 x l.length (yvz l)
theorem OwnR.own {B:Nat} {w:World} {x:Value} {l:List Ev} (h:OwnR B w x l):OwnEvs B w x l:=OwnEvs.of_row h
theorem OwnR.below {B:Nat} {w w':World} {x:Value} {l:List Ev} (h:OwnR B w x l) (hb:Below w.heap.size w w'):OwnR B w' x l:=by
  obtain⟨h0,⟨e,h1⟩|⟨g,cap,cur,e,hg,hc,h1⟩⟩:=h
  · exact⟨h0,.inl ⟨e,h1⟩⟩
  · exact⟨h0,.inr ⟨g,cap,cur,e,hg,(hb.block g (Array.getElem?_eq_some_iff.1 hc).1).trans hc,h1⟩⟩
theorem OwnR.mono {B B':Nat} {w:World} {x:Value} {l:List Ev} (h:OwnR B w x l) (hB:B'≤B):OwnR B' w x l:=by
  obtain⟨h0,⟨e,h1⟩|⟨g,cap,cur,e,hg,h1⟩⟩:=h
  · exact⟨h0,.inl ⟨e,h1⟩⟩
  · exact⟨h0,.inr ⟨g,cap,cur,e,Nat.le_trans hB hg,h1⟩⟩
theorem OwnR.evs {B:Nat} {w:World} {x:Value} {l:List Ev} (h:OwnR B w x l):IsEvs w x l:=h.own.isEvs
structure Beyond (W:World) where
  w:World
  h:Below W.heap.size W w
theorem Beyond.cell {W:World} (p:Beyond W) {b o:Nat} {v:Value} (hb:b<W.heap.size) (h:W.cell? ⟨b,o,none⟩=some v):p.w.cell? ⟨b,o,none⟩=some v:=(p.h.cell (p:=⟨b,o,none⟩) hb).trans h
theorem Beyond.of {P:Program} {f:FuncId} {args:Array Value} {W:World} {p:Beyond W} {v:Value} (h:Calls P f args p.w fun e w'=>e= .returned v∧Below p.w.heap.size p.w w'):
    Calls P f args p.w fun e w''=>e= .returned v∧ ∃p':Beyond W,w''=p'.w:=
  h.mono fun _ w'' ⟨he,hb⟩=>⟨he,⟨w'',p.h.trans (hb.mono p.h.size)⟩,rfl⟩
theorem zdw {P:Program} {id:Nat} {Q:Exit→Act→World→Prop} {a:Act} {W:World} {l:List Oper} (hm:P.follows .mixedOrders=true) (hB:Region.lexB .any l.toArray=true)
    (h:wpQuiet P l.toArray (fun w'=>∃p:Beyond W,w'=p.w) (fun a'=>∀w',(∃p:Beyond W,w'=p.w)→Q .normal a' w') l a):(Code.region id l.toArray true).wp P Q a W:=
  wp_region_quiet (C:=fun w'=>∃p:Beyond W,w'=p.w) hm hB ⟨⟨_,(Below.refl _ W).drew⟩,rfl⟩ (by simpa using h)
theorem neB (w:World):Nonempty (Beyond w):=⟨⟨w,Below.refl _ _⟩⟩
theorem wrb {P:Program} {id:Nat} {Q:Exit→Act→World→Prop} {a:Act} {W:World} {l:List Oper}
    (h:wpQuiet P l.toArray (fun w'=>∃p:Beyond W,w'=p.w) (fun a'=>∀w',(∃p:Beyond W,w'=p.w)→Q .normal a' w') l a) (hm:P.follows .mixedOrders=true:=by kernel_rfl) (hB:Region.lexB .any l.toArray=true:=by kernel_rfl):(Code.region id l.toArray true).wp P Q a W:=zdw hm hB h
theorem EvAt.beyond {W:World} {b o:Nat} {t s q d k v g:Int} (h:EvAt W b o t s q d k v g) (hb:b<W.heap.size):
    (∀p:Beyond W,p.w.cell? ⟨b,o,none⟩=some (.int .i64 t))∧(∀p:Beyond W,p.w.cell? ⟨b,o+1,none⟩=some (.int .i64 s))∧(∀p:Beyond W,p.w.cell? ⟨b,o+2,none⟩=some (.int .i64 q))∧(∀p:Beyond W,p.w.cell? ⟨b,o+3,none⟩=some (.int .i64 d))∧
    (∀p:Beyond W,p.w.cell? ⟨b,o+4,none⟩=some (.int .i64 k))∧(∀p:Beyond W,p.w.cell? ⟨b,o+5,none⟩=some (.int .i64 v))∧(∀p:Beyond W,p.w.cell? ⟨b,o+6,none⟩=some (.int .i64 g)):=
  ⟨fun p=>p.cell hb h.f0,fun p=>p.cell hb h.f1,fun p=>p.cell hb h.f2,fun p=>p.cell hb h.f3,fun p=>p.cell hb h.f4,fun p=>p.cell hb h.f5,fun p=>p.cell hb h.f6⟩
set_option maxHeartbeats 2000000
open Go.RowKit
theorem zi0 {p:Prop} (h:p):Hid p:=h
structure St where
  r:List Int
  q:Int
  d:Int
def IsS (w:World) (x:Value) (s:St):Prop:=∃vr,x= .agg #[vr,.int .i64 s.q,.int .i64 s.d]∧IsI w vr s.r
theorem IsS.below {w w':World} {x:Value} {s:St} (h:IsS w x s) (hb:Below w.heap.size w w'):IsS w' x s:=by
  obtain⟨vr,rfl,h⟩:=h
  exact⟨vr,rfl,h.below hb⟩
def StF (F:Nat→Prop) (w:World) (x:Value) (s:St):Prop:=∃vr,x= .agg #[vr,.int .i64 s.q,.int .i64 s.d]∧RowF F w vr s.r.length 1 (intCells s.r)
abbrev put3 (w:World) (R:Nat) (v0 v1 v2:Value):World:=((w.setCell ⟨R,0,none⟩ v0).setCell ⟨R,1,none⟩ v1).setCell ⟨R,2,none⟩ v2
theorem Bk.put3 {w:World} {R:Nat} {T:TypeId} {a0 a1 a2:Value} (h:Bk w R T #[a0,a1,a2]) (v0 v1 v2:Value):Bk (put3 w R v0 v1 v2) R T #[v0,v1,v2]:=
  ((h.put 0 v0).put 1 v1).put 2 v2
theorem zls (w:World) (R:Nat) (v0 v1 v2:Value):Turns (fun b=>b=R) w (put3 w R v0 v1 v2):=
  ((yag w R 0 v0).trans (yag _ R 1 v1)).trans (yag _ R 2 v2)
theorem zdt (x y:Value) (s:St) (w:World) (hs:s.r.length≤1048576) (hx:IsS w x s) (hy:IsS w y s):
    Calls Tryz.prog 205 #[x,y] w fun e w'=>e= .returned (.bool true)∧Below w.heap.size w w':=by
  obtain⟨vr,rfl,h1⟩:=hx
  obtain⟨ur,rfl,k1⟩:=hy
  obtain⟨l,q,d⟩:=s
  have HI:Hid (IsI w vr l∧IsI w ur l):=⟨h1,k1⟩
  have HS:Hid (l.length≤4611686018427387904):=(by have:l.length≤1048576:=hs;omega:l.length≤4611686018427387904)
  clear h1 k1 hs
  obtain⟨W0,hW0⟩:∃W0,(w.alloc (.cells #[vr,.int .i64 q,.int .i64 d] 94)).alloc (.cells #[ur,.int .i64 q,.int .i64 d] 94)=W0:=⟨_,rfl⟩
  have HB0:=hdq (beA2 hW0)
  have HP0:=hdq (bkA2 hW0)
  have HQ0:=hdq (bkB2 hW0)
  have p0:=HP0.out.cell (i:=0) rfl
  have q0:=HQ0.out.cell (i:=0) rfl
  go_enter Tryz.func205,Tryz.ntmps205
  go_wp2_with fail
  clear p0 q0 hW0
  refine(zgo _ _ l _ HS.out (HI.out.1.below HB0.out) (HI.out.2.below HB0.out)).mono ?_
  rintro e w1 ⟨rfl,hb⟩
  have HB1:=trh HB0 hb
  have p1:=(HP0.out.below hb).cell (i:=1) rfl
  have q1:=(HQ0.out.below hb).cell (i:=1) rfl
  have p2:=(HP0.out.below hb).cell (i:=2) rfl
  have q2:=(HQ0.out.below hb).cell (i:=2) rfl
  clear hb HB0 HP0 HQ0
  go_wp2
  go_ret
  exact⟨rfl,HB1.out⟩
theorem zea (x:Value) (s:St) (w:World) (hs:s.r.length≤1048576) (h:IsS w x s):
    Calls Tryz.prog 182 #[x] w fun e w'=>∃y,e= .returned y∧Below w.heap.size w w'∧StF (fun k=>w.heap.size≤k∧k<w'.heap.size) w' y s:=by
  obtain⟨vr,rfl,h1⟩:=h
  obtain⟨i,n,z⟩:=s
  have HI:Hid (IsI w vr i):=h1
  have HS:Hid (i.length≤1048576):=hs
  clear h1 hs
  obtain⟨W0,hW0⟩:∃W0,((w.alloc (.cells #[vr,.int .i64 n,.int .i64 z] 143)).alloc (.cells #[.slice none 0 0,.int .i64 0,.int .i64 0] 94)).alloc (.cells #[.slice none 0 0,.int .i64 0,.int .i64 0] 94)=W0:=⟨_,rfl⟩
  have HB0:Hid (Below w.heap.size w W0):=by rw [←hW0];exact(((Below.refl _ w).alloc (Nat.le_refl _) _).alloc (by simp) _).alloc (by simp;omega) _
  have HP0:Hid (Bk W0 w.heap.size 143 #[vr,.int .i64 n,.int .i64 z]):=by rw [←hW0];exact((Bk.new w _ _).alloc _).alloc _
  have HR0:Hid (Bk W0 (w.heap.size+1) 94 #[.slice none 0 0,.int .i64 0,.int .i64 0]):=by rw [←hW0];exact(Bk.newAt (by simp) _ _).alloc _
  have HQ0:Hid (Bk W0 (w.heap.size+1+1) 94 #[.slice none 0 0,.int .i64 0,.int .i64 0]):=by rw [←hW0];exact Bk.newAt (by simp) _ _
  have HW0:=zi0 hW0
  clear hW0
  go_enter Tryz.func182,Tryz.ntmps182
  go_wp2_with fail
  rw [HW0.out]
  clear HW0
  refine(zin _ i _ HS.out (HI.out.below HB0.out)).mono ?_
  rintro e w1 ⟨rfl,hb,hr⟩
  have HI1:=zi0 hr
  have hz1:W0.heap.size<w1.heap.size:=hr.1
  have hq:=HQ0.out.lt
  have HX1:=zi0 (HB0.out.trans (hb.mono (by omega)))
  have HPa:=HP0.out.below hb
  have HRa:=HR0.out.below hb
  have HQa:=HQ0.out.below hb
  clear hb hr HB0 HP0 HR0 HQ0
  obtain⟨X1,hX1⟩:∃X1,w1.setCell ⟨w.heap.size+1+1,0,none⟩ (sl W0.heap.size i.length)=X1:=⟨_,rfl⟩
  obtain⟨X2,hX2⟩:∃X2,X1.setCell ⟨w.heap.size+1+1,1,none⟩ (.int .i64 n)=X2:=⟨_,rfl⟩
  obtain⟨X3,hX3⟩:∃X3,X2.setCell ⟨w.heap.size+1+1,2,none⟩ (.int .i64 z)=X3:=⟨_,rfl⟩
  have a0:=HQa.cell (i:=0) rfl
  have af:=HQa.free
  have HP1:Bk X1 w.heap.size 143 #[vr,.int .i64 n,.int .i64 z]:=hX1▸HPa.other 0 _ (by omega)
  have HR1:Bk X1 (w.heap.size+1) 94 #[.slice none 0 0,.int .i64 0,.int .i64 0]:=hX1▸HRa.other 0 _ (by omega)
  have HQ1:Bk X1 (w.heap.size+1+1) 94 #[sl W0.heap.size i.length,.int .i64 0,.int .i64 0]:=hX1▸HQa.put 0 _
  have p1:=HP1.cell (i:=1) rfl
  have b1:=HQ1.cell (i:=1) rfl
  have bf:=HQ1.free
  have HP2:Bk X2 w.heap.size 143 #[vr,.int .i64 n,.int .i64 z]:=hX2▸HP1.other 1 _ (by omega)
  have HR2:Bk X2 (w.heap.size+1) 94 #[.slice none 0 0,.int .i64 0,.int .i64 0]:=hX2▸HR1.other 1 _ (by omega)
  have HQ2:Bk X2 (w.heap.size+1+1) 94 #[sl W0.heap.size i.length,.int .i64 n,.int .i64 0]:=hX2▸HQ1.put 1 _
  have p2:=HP2.cell (i:=2) rfl
  have c2:=HQ2.cell (i:=2) rfl
  have cf:=HQ2.free
  have HR3:Bk X3 (w.heap.size+1) 94 #[.slice none 0 0,.int .i64 0,.int .i64 0]:=hX3▸HR2.other 2 _ (by omega)
  have HQ3:Bk X3 (w.heap.size+1+1) 94 #[sl W0.heap.size i.length,.int .i64 n,.int .i64 z]:=hX3▸HQ2.put 2 _
  obtain⟨o0,o1,o2⟩:=c3_3 HQ3
  obtain⟨r0,r1,r2⟩:=c3_3 HR3
  have rf:=HR3.free
  have HR4:=zi0 HR3
  have t1:=yag w1 (w.heap.size+1+1) 0 (sl W0.heap.size i.length)
  have t2:=yag X1 (w.heap.size+1+1) 1 (.int .i64 n)
  have t3:=yag X2 (w.heap.size+1+1) 2 (.int .i64 z)
  rw [hX1]at t1
  rw [hX2]at t2
  rw [hX3]at t3
  have HT:=zi0 ((t1.trans t2).trans t3)
  clear HPa HRa HQa HP1 HR1 HQ1 HP2 HR2 HQ2 HR3 HQ3 t1 t2 t3
  go_wp2
  clear o0 o1 o2 r0 r1 r2 rf a0 af p1 b1 bf p2 c2 cf
  obtain⟨X5,hX5⟩:∃X5,put3 X3 (w.heap.size+1) (.slice (some ⟨W0.heap.size,0,none⟩) i.length i.length) (.int .i64 n) (.int .i64 z)=X5:=⟨_,rfl⟩
  have hR:=HR4.out.put3 (.slice (some ⟨W0.heap.size,0,none⟩) i.length i.length) (.int .i64 n) (.int .i64 z)
  have ht:=zls X3 (w.heap.size+1) (.slice (some ⟨W0.heap.size,0,none⟩) i.length i.length) (.int .i64 n) (.int .i64 z)
  rw [hX5]at hR ht
  unfold put3 at hX5
  rw [hX5]
  obtain⟨t0,t1,t2⟩:=c3_3 hR
  have hT:Turns (fun k=>k=w.heap.size+1+1∨k=w.heap.size+1) w1 X5:=(HT.out.mono (fun k e=> .inl e)).trans (ht.mono (fun k e=> .inr e))
  have hsz:=hT.size
  refine bodyPost_ret (v:= .agg #[sl W0.heap.size i.length,.int .i64 n,.int .i64 z]) (by simp [results,Tryz.results182,go_sem,t0,t1,t2]) rfl
    ⟨_,rfl,HX1.out.trans (hT.to_below (fun k e=>by omega) (by omega)),_,rfl,?_⟩
  exact((HI1.out.rowF (by have:=HS.out;unfold maxLen;omega)).turns hT (fun k e=>by omega)).mono (fun k e=>by omega)
set_option maxHeartbeats 4000000
set_option maxRecDepth 100000
open Go.RowKit
theorem zkj {p:Prop} (h:p):Hid p:=h
def inB (x:Int):Bool:=decide (0≤x∧x≤999)
def St.ok (s:St):Bool:=decide (s.r.length=2∧(0≤intAt s.r 0∧intAt s.r 0≤999)∧(0≤intAt s.r 1∧intAt s.r 1≤999)∧0≤s.q∧s.q≤99992∧0≤s.d∧s.d≤99992)
theorem sStOk (x:Value) (s:St) (w:World) (h:IsS w x s):
    Calls Tryz.prog 235 #[x] w fun e w'=>e= .returned (.bool s.ok)∧Below w.heap.size w w':=by
  obtain⟨vr,rfl,ai,ci,rfl,hi1,hi2,hi3⟩:=h
  clear hi1 hi2
  obtain⟨W0,hW0⟩:∃W0,w.alloc (.cells #[.slice ai s.r.length ci,.int .i64 s.q,.int .i64 s.d] 94)=W0:=⟨_,rfl⟩
  have HB0:=hdq (beA hW0)
  have HP0:=bkA hW0
  obtain⟨p0,p1,p2⟩:=c3_3 HP0
  clear HP0
  by_cases c0:s.r.length=2
  case neg=>
    have c1:¬((s.r.length:Int)=2):=by omega
    clear hi3
    go_enter Tryz.func235,Tryz.ntmps235
    go_wp2
    go_ret
    exact⟨ye8 (by simp [St.ok,c0]),HB0.out⟩
  obtain⟨b,off,rfl,hb,hc⟩:=hi3.resolve_left (by intro e;rw [e]at c0;simp at c0)
  have f0:W0.cell? ⟨b,off,none⟩=some (.int .i64 (intAt s.r 0)):=(HB0.out.cell (p:=⟨b,off,none⟩) hb).trans (hc 0 (by omega))
  have f1:W0.cell? ⟨b,off+1,none⟩=some (.int .i64 (intAt s.r 1)):=(HB0.out.cell (p:=⟨b,off+1,none⟩) hb).trans (hc 1 (by omega))
  have hok:s.ok=decide ((0≤intAt s.r 0∧intAt s.r 0≤999)∧(0≤intAt s.r 1∧intAt s.r 1≤999)∧0≤s.q∧s.q≤99992∧0≤s.d∧s.d≤99992):=by simp [St.ok,c0]
  have HOK:=zkj hok
  rw [c0]at hW0 p0⊢
  generalize s.ok=okv at HOK⊢
  generalize intAt s.r 0=y at f0 HOK
  generalize intAt s.r 1=z at f1 HOK
  generalize s.q=q at hW0 p1 HOK⊢
  generalize s.d=d at hW0 p2 HOK⊢
  clear hc hb hok c0
  go_enter Tryz.func235,Tryz.ntmps235
  go_wp2
  all_goals
    go_ret
    refine⟨?_,HB0.out⟩
    rw [HOK.out]
    first|exact ye8 (decide_eq_decide.2 (by omega))|exact ye8 (decide_eq_false (by omega)).symm|exact ye8 (by simp;omega)
theorem iStOk (x:Value) (s:St) (w:World) (h:IsS w x s):
    Calls Tryz.prog 248 #[x] w fun e w'=>e= .returned (.bool s.ok)∧Below w.heap.size w w':=by
  obtain⟨vr,rfl,ai,ci,rfl,hi1,hi2,hi3⟩:=h
  clear hi1 hi2
  obtain⟨W0,hW0⟩:∃W0,w.alloc (.cells #[.slice ai s.r.length ci,.int .i64 s.q,.int .i64 s.d] 94)=W0:=⟨_,rfl⟩
  have HB0:=hdq (beA hW0)
  have HP0:=bkA hW0
  obtain⟨p0,p1,p2⟩:=c3_3 HP0
  clear HP0
  by_cases c0:s.r.length=2
  case neg=>
    have c1:¬((s.r.length:Int)=2):=by omega
    clear hi3
    go_enter Tryz.func248,Tryz.ntmps248
    go_wp2
    go_ret
    exact⟨ye8 (by simp [St.ok,c0]),HB0.out⟩
  obtain⟨b,off,rfl,hb,hc⟩:=hi3.resolve_left (by intro e;rw [e]at c0;simp at c0)
  have HC:Hid (∀k,k<2→W0.cell? ⟨b,off+k,none⟩=some (.int .i64 (intAt s.r k))):=fun k hk=>(HB0.out.cell (p:=⟨b,off+k,none⟩) hb).trans (hc k (by omega))
  have HOK:Hid (s.ok=decide ((0≤intAt s.r 0∧intAt s.r 0≤999)∧(0≤intAt s.r 1∧intAt s.r 1≤999)∧0≤s.q∧s.q≤99992∧0≤s.d∧s.d≤99992)):=(by simp [St.ok,c0]:s.ok=_)
  have HNO:Hid (∀k,k<2→inB (intAt s.r k)=false→s.ok=false):=(by
    intro k hk h
    unfold inB at h
    have hd:=of_decide_eq_false h
    simp only [St.ok,decide_eq_false_iff_not]
    intro hh
    match k,hk with
    |0,_=>exact hd hh.2.1
    |1,_=>exact hd hh.2.2.1:∀k,k<2→inB (intAt s.r k)=false→s.ok=false)
  have HYES:Hid ((∀j,j<2→inB (intAt s.r j)=true)→s.ok=((decide (0≤s.q)&&decide (s.q≤99992))&&(decide (0≤s.d)&&decide (s.d≤99992)))):=(by
    intro h
    have h0:=of_decide_eq_true (h 0 (by omega))
    have h1:=of_decide_eq_true (h 1 (by omega))
    simp [St.ok,c0,h0,h1,Bool.decide_and,Bool.and_assoc]:_)
  rw [c0]at hW0 p0⊢
  generalize s.ok=okv at HOK HNO HYES⊢
  generalize s.q=q at hW0 p1 HOK HYES⊢
  generalize s.d=d at hW0 p2 HOK HYES⊢
  clear hc hb c0 HOK
  go_enter Tryz.func248,Tryz.ntmps248
  go_wp2
  clear hW0
  go_loop [12] (fun i=>∃k:Nat,k≤2∧i= .int .i64 k∧ ∀j,j<k→inB (intAt s.r j)=true) (fun i=>2-(intOf i).toNat)
  case atStart=>exact⟨0,Nat.zero_le _,rfl,fun j hj=>by omega⟩
  case round=>
    obtain⟨k,hk,rfl,hall⟩:=hrel
    have HA:=zkj hall
    clear hall
    by_cases hlt:k<2
    · have f0:=HC.out k hlt
      obtain⟨y,hy⟩:∃y,y=intAt s.r k:=⟨_,rfl⟩
      have HY:Hid (y=intAt s.r k):=hy
      rw [←hy]at f0
      have hkn:(k:Int)<2:=by omega
      clear hy
      go_wp2_with fail
      refine(yw5 _ _ _ _).mono ?_
      rintro e w2 ⟨rfl,hw⟩
      have hw':=hw.symm
      clear hw
      subst hw'
      by_cases y0:0≤y∧y≤999
      · rw [show(decide (0≤y)&&decide (y≤999))=true from by simp [y0]]
        have HN:Hid (inB y=true):=decide_eq_true y0
        clear y0
        go_wp2
        go_round
        case rel=>exact⟨k+1,by omega,by go_num,fun j hj=>by
          by_cases e:j<k
          · exact HA.out j e
          · rw [show j=k by omega,←HY.out];exact HN.out⟩
        case measure=>simp [intOf];omega
      · rw [show(decide (0≤y)&&decide (y≤999))=false from by simp;omega]
        have hno:okv=false:=HNO.out k hlt (by rw [←HY.out];exact decide_eq_false y0)
        subst hno
        clear y0
        go_wp2
        go_ret
        exact⟨rfl,HB0.out⟩
    · have hyes:=HYES.out (fun j hj=>HA.out j (by omega))
      subst hyes
      have hkn:¬(k:Int)<2:=by omega
      go_wp2_with fail
      refine(yw5 _ _ _ _).mono ?_
      rintro e w2 ⟨rfl,hw⟩
      have hw':=hw.symm
      clear hw
      subst hw'
      cases hq:(decide (0≤q)&&decide (q≤99992))with
      |false=>
        have HQ:=zkj hq
        clear hq
        go_wp2
        go_ret
        exact⟨ye8 (by rw [HQ.out];rfl),HB0.out⟩
      |true=>
        have HQ:=zkj hq
        clear hq
        go_wp2_with fail
        refine(yw5 _ _ _ _).mono ?_
        rintro e w2 ⟨rfl,hw⟩
        have hw':=hw.symm
        clear hw
        subst hw'
        go_wp2
        go_ret
        exact⟨ye8 (by rw [HQ.out];rfl),HB0.out⟩
set_option maxHeartbeats 4000000
open Go.RowKit
theorem zeu {p:Prop} (h:p):Hid p:=h
structure XAt (w:World) (b o:Nat) (e:Em):Prop where
  f0:w.cell? ⟨b,o,none⟩=some (.int .i64 e.t)
  f1:w.cell? ⟨b,o+1,none⟩=some (.int .i64 e.l)
  f2:w.cell? ⟨b,o+2,none⟩=some (.int .i64 e.v)
theorem XAt.below {w w':World} {B b o:Nat} {e:Em} (h:XAt w b o e) (hb:Below B w w') (hlt:b<B):XAt w' b o e:=
  ⟨(hb.cell hlt).trans h.f0,(hb.cell hlt).trans h.f1,(hb.cell hlt).trans h.f2⟩
def XsAt (w:World) (b off:Nat) (l:List Em):Prop:=b<w.heap.size∧ ∀i,i<l.length→XAt w b (off+i*3) (xAt l i)
def IsX (w:World) (x:Value) (l:List Em):Prop:=∃a cap,x= .slice a l.length cap∧l.length≤cap∧cap≤maxLen∧(l= []∨ ∃b off,a=some ⟨b,off,none⟩∧XsAt w b off l)
theorem XsAt.below {w w':World} {B b off:Nat} {l:List Em} (h:XsAt w b off l) (hb:Below B w w') (hB:b<B):XsAt w' b off l:=
  ⟨Nat.lt_of_lt_of_le h.1 hb.size,fun i hi=>(h.2 i hi).below hb hB⟩
theorem IsX.below {w w':World} {x:Value} {l:List Em} (h:IsX w x l) (hb:Below w.heap.size w w'):IsX w' x l:=by
  obtain⟨a,cap,rfl,h1,h2,h⟩:=h
  exact⟨a,cap,rfl,h1,h2,h.imp id (fun⟨b,off,e,h⟩=>⟨b,off,e,h.below hb h.1⟩)⟩
theorem zjl (t l v:Int) (w:World):
    Calls Tryz.prog 141 #[.agg #[.int .i64 t,.int .i64 l,.int .i64 v],.agg #[.int .i64 t,.int .i64 l,.int .i64 v]] w fun e w'=>e= .returned (.bool true)∧Below w.heap.size w w':=by
  go_enter Tryz.func141,Tryz.ntmps141
  go_wp2
  go_ret
  exact⟨rfl,((Below.refl _ _).alloc (Nat.le_refl _) _).alloc (by simp) _⟩
theorem eqX_same (x y:Value) (l:List Em) (w:World) (hl:l.length≤1048576) (hx:IsX w x l) (hy:IsX w y l):
    Calls Tryz.prog 57 #[x,y] w fun e w'=>e= .returned (.bool true)∧Below w.heap.size w w':=by
  obtain⟨a,cap,rfl,h1,h2,h⟩:=hx
  obtain⟨a',cap',rfl,h1',h2',h'⟩:=hy
  clear h1 h2 h1' h2'
  by_cases hz:l= []
  · subst hz
    clear h h'
    go_enter Tryz.func57,Tryz.ntmps57
    go_wp2
    go_loop [5] (fun i=>i= .int .i64 0) (fun _=>0)
    case atStart=>rfl
    case round=>
      subst hrel
      go_wp2
      go_ret
      exact⟨rfl,Below.refl _ _⟩
  · obtain⟨b,off,rfl,hb,hc⟩:=h.resolve_left hz
    obtain⟨b',off',rfl,hb',hc'⟩:=h'.resolve_left hz
    clear h h' hz
    go_enter Tryz.func57,Tryz.ntmps57
    go_wp2
    go_loopw [5] (fun i wr=>∃k:Nat,k≤l.length∧i= .int .i64 k∧Below w.heap.size w wr) (fun i _=>l.length-(intOf i).toNat)
    case atStart=>exact⟨0,Nat.zero_le _,rfl,Below.refl _ _⟩
    case round=>
      obtain⟨k,hk,rfl,hB⟩:=hrel
      have HB:=zeu hB
      by_cases hlt:k<l.length
      · obtain⟨f0,f1,f2⟩:=(hc k hlt).below hB hb
        obtain⟨e0,e1,e2⟩:=(hc' k hlt).below hB hb'
        have hbr:b<wr.heap.size:=Nat.lt_of_lt_of_le hb hB.size
        have hbr':b'<wr.heap.size:=Nat.lt_of_lt_of_le hb' hB.size
        clear hB hc hc'
        go_wp2_with fail
        go_region_held3 (fun W=>W.cell? ⟨b,off+k*3,none⟩=some (.int .i64 (xAt l k).t)∧W.cell? ⟨b,off+k*3+1,none⟩=some (.int .i64 (xAt l k).l)∧W.cell? ⟨b,off+k*3+2,none⟩=some (.int .i64 (xAt l k).v)∧W.cell? ⟨b',off'+k*3,none⟩=some (.int .i64 (xAt l k).t)∧W.cell? ⟨b',off'+k*3+1,none⟩=some (.int .i64 (xAt l k).l)∧W.cell? ⟨b',off'+k*3+2,none⟩=some (.int .i64 (xAt l k).v)) ((repeat' apply And.intro)<;>first|(go_keep;done)|(rw [hcA _ _ (by first|omega|(simp;omega)|simp [*])];simp [*];done))
          (first|(go_at_call 141;refine(zjl _ _ _ _).mono ?_;rintro e w2 ⟨rfl,hb2⟩;obtain⟨hcA,hfA⟩:=zdb hb2))
        clear hcA hfA
        go_wp2
        go_roundw
        case rel=>exact⟨k+1,by omega,by go_num,HB.out.drew.trans (hb2.mono (by have:=HB.out.size;simpa using this))⟩
        case measure=>simp [intOf];omega
      · clear hB hc hc'
        go_wp2
        go_ret
        exact⟨rfl,HB.out⟩
theorem markXF {F:Nat→Prop} {x:Value} {n:Nat} {cs:List Value} {w:World} (z:Int) (hn:n≤1048577) (hz0:0≤z) (hz1:z≤1073741824) (h:RowF F w x n 3 cs):
    Calls Tryz.prog 63 #[x,.int .i64 z] w fun e w'=>e= .returned (.int .i64 (z+3*(n:Int)))∧RowF F w' x n 3 (yxe z (n*3))∧Turns F w w':=by
  obtain⟨a,cap,rfl,h1,h2,h⟩:=h.mkTo z
  have HM:Hid (n≤cap∧cap≤maxLen):=⟨h1,h2⟩
  clear h1 h2
  by_cases hz:n=0
  · subst hz
    clear h
    go_enter Tryz.func63,Tryz.ntmps63
    go_wp2
    go_loop [5,1] (fun i y=>i= .int .i64 0∧y= .int .i64 z) (fun _ _=>0)
    case atStart=>exact⟨rfl,rfl⟩
    case round=>
      obtain⟨rfl,rfl⟩:=hrel
      go_wp2
      go_ret
      exact⟨ywz (by simp),RowF.nil HM.out.2,Turns.refl _ _⟩
  · obtain⟨g,rfl,hF,h⟩:=h.resolve_left hz
    have HR0:=zeu h
    have HF:Hid (F g):=hF
    clear h hz hF
    go_enter Tryz.func63,Tryz.ntmps63
    go_wp2
    go_loopw [5,1] (fun i y wr=>∃k:Nat,k≤n∧i= .int .i64 k∧y= .int .i64 (z+3*(k:Int))∧MkTo wr g (n*3) z (k*3)∧Turns (fun b=>b=g) w wr) (fun i _ _=>n-(intOf i).toNat)
    case atStart=>exact⟨0,Nat.zero_le _,rfl,by simp,by rw [Nat.zero_mul];exact HR0.out,Turns.refl _ _⟩
    case round=>
      obtain⟨k,hk,rfl,rfl,hR,hg⟩:=hrel
      have HR:=zeu hR
      have HG:=zeu hg
      clear hR hg
      by_cases hlt:k<n
      · have hh:∀j,j<3→(∃u,wr.cell? ⟨g,k*3+j,none⟩=some u)∧wr.frozen? ⟨g,k*3+j,none⟩=false:=fun j hj=>⟨Option.isSome_iff_exists.1 (HR.out.2.1 _ (by omega)).1,(HR.out.2.1 _ (by omega)).2⟩
        obtain⟨⟨v0,g0⟩,f0⟩:=hh 0 (by omega)
        obtain⟨⟨v1,g1⟩,f1⟩:=hh 1 (by omega)
        obtain⟨⟨v2,g2⟩,f2⟩:=hh 2 (by omega)
        rw [Nat.add_zero]at g0 f0
        clear hh
        obtain⟨y,hy⟩:∃y:Int,y=z+3*(k:Int):=⟨_,rfl⟩
        have hy0:0≤y:=by omega
        have hy1:y≤1090000000:=by omega
        have HY:=zeu hy
        rw [←hy]
        clear hy
        go_wp2
        go_roundw
        case rel=>
          have hY:=HY.out
          refine⟨k+1,by omega,by go_num,by rw [show y+1+1+1=z+3*((k+1:Nat):Int)from by omega],?_,?_⟩
          · rw [show(k+1)*3=k*3+3 from by omega]
            exact((HR.out.put (by omega) (u:=y) (by omega)).put (by omega) (u:=y+1) (by omega)).put (by omega) (u:=y+1+1) (by omega)
          · exact HG.out.trans (((yyj wr g _ _).trans (yyj _ _ _ _)).trans (yyj _ _ _ _))
        case measure=>simp [intOf];omega
      · go_wp2
        go_ret
        obtain rfl:k=n:=by omega
        exact⟨rfl,MkTo.row HR.out HF.out HM.out.1 HM.out.2,HG.out.mono (fun k e=>e▸HF.out)⟩
theorem heldXF {F:Nat→Prop} {x:Value} {n:Nat} {w:World} (z:Int) (hn:n≤1048577) (hz0:0≤z) (hz1:z≤1073741824) (h:RowF F w x n 3 (yxe z (n*3))):
    Calls Tryz.prog 69 #[x,.int .i64 z] w fun e w'=>e= .returned (.int .i64 (z+3*(n:Int)))∧w'=w:=by
  obtain⟨a,cap,rfl,hm⟩:=h.marked
  clear h
  by_cases hz:n=0
  · subst hz
    clear hm
    go_enter Tryz.func69,Tryz.ntmps69
    go_wp2
    go_loop [5,1] (fun i y=>i= .int .i64 0∧y= .int .i64 z) (fun _ _=>0)
    case atStart=>exact⟨rfl,rfl⟩
    case round=>
      obtain⟨rfl,rfl⟩:=hrel
      go_wp2
      go_ret
      exact⟨ywz (by simp),rfl⟩
  · obtain⟨g,rfl,h⟩:=hm.resolve_left hz
    have HR:=zeu h
    clear h hz hm
    go_enter Tryz.func69,Tryz.ntmps69
    go_wp2
    go_loop [5,1] (fun i y=>∃k:Nat,k≤n∧i= .int .i64 k∧y= .int .i64 (z+3*(k:Int))) (fun i _=>n-(intOf i).toNat)
    case atStart=>exact⟨0,Nat.zero_le _,rfl,by simp⟩
    case round=>
      obtain⟨k,hk,rfl,rfl⟩:=hrel
      by_cases hlt:k<n
      · have hh:=fun j (hj:j<3)=>HR.out (k*3+j) (by omega)
        obtain⟨y,hy⟩:∃y:Int,y=z+3*(k:Int):=⟨_,rfl⟩
        have g0:=hh 0 (by omega)
        rw [show z+((k*3+0:Nat):Int)=y from by omega]at g0
        have g1:=hh 1 (by omega)
        rw [show z+((k*3+1:Nat):Int)=y+1 from by omega]at g1
        have g2:=hh 2 (by omega)
        rw [show z+((k*3+2:Nat):Int)=y+1+1 from by omega]at g2
        rw [Nat.add_zero]at g0
        clear hh
        have hy0:0≤y:=by omega
        have hy1:y≤1090000000:=by omega
        have HY:=zeu hy
        rw [←hy]
        clear hy
        go_wp2
        go_round
        case rel=>exact⟨k+1,by omega,by go_num,by rw [show y+1+1+1=z+3*((k+1:Nat):Int)from by have:=HY.out;omega]⟩
        case measure=>simp [intOf];omega
      · go_wp2
        go_ret
        obtain rfl:k=n:=by omega
        exact⟨rfl,rfl⟩
inductive Dat where
  |val (v:Value)
  |row (c n:Nat) (f:Nat→Dat)
inductive IsD (w : World) : Value → Dat → Prop
  |val (v:Value):IsD w v (.val v)
  |nil (a:Option Addr) (cap c:Nat) (f:Nat→Dat) (h:cap≤maxLen):IsD w (.slice a 0 cap) (.row c 0 f)
  |row (b off n cap c:Nat) (f:Nat→Dat) (U:Nat→Value) (h1:n≤cap) (h2:cap≤maxLen) (hb:b<w.heap.size) (hc:∀j,j<n*c→w.cell? ⟨b,off+j,none⟩=some (U j)) (hs:∀j,j<n*c→IsD w (U j) (f j)):IsD w (.slice (some ⟨b,off,none⟩) n cap) (.row c n f)
theorem IsD.under {w w':World} {x:Value} {d:Dat} (h:IsD w x d) (hb:Below w.heap.size w w'):IsD w' x d:=by
  induction h with
  |val v=>exact .val v
  |nil a cap c f h=>exact .nil a cap c f h
  |row b off n cap c f U h1 h2 hB hc hs ih=>exact .row b off n cap c f U h1 h2 (Nat.lt_of_lt_of_le hB hb.size) (fun j hj=>(hb.cell (p:=⟨b,off+j,none⟩) hB).trans (hc j hj)) ih
theorem IsD.parts {w:World} {x:Value} {c n:Nat} {f:Nat→Dat} (h:IsD w x (.row c n f)):∃a cap,x= .slice a n cap∧n≤cap∧cap≤maxLen∧
    (n=0∨ ∃b off,a=some ⟨b,off,none⟩∧b<w.heap.size∧ ∀j,j<n*c→ ∃u,w.cell? ⟨b,off+j,none⟩=some u∧IsD w u (f j)):=by
  cases h with
  |nil a cap _ _ h=>exact⟨a,cap,rfl,Nat.zero_le _,h,.inl rfl⟩
  |row b off _ cap _ _ U h1 h2 hB hc hs=>exact⟨_,cap,rfl,h1,h2,.inr ⟨b,off,rfl,hB,fun j hj=>⟨U j,hc j hj,hs j hj⟩⟩⟩
theorem IsD.of_parts {w:World} {a:Option Addr} {cap c n:Nat} {f:Nat→Dat} (h1:n≤cap) (h2:cap≤maxLen) (h:n=0∨ ∃b off,a=some ⟨b,off,none⟩∧b<w.heap.size∧ ∀j,j<n*c→ ∃u,w.cell? ⟨b,off+j,none⟩=some u∧IsD w u (f j)):IsD w (.slice a n cap) (.row c n f):=by
  rcases h with rfl|⟨b,off,rfl,hB,h⟩
  · exact .nil a cap c f h2
  · refine .row b off n cap c f (fun j=>(w.cell? ⟨b,off+j,none⟩).getD (.int .i64 0)) h1 h2 hB (fun j hj=> ?_) (fun j hj=> ?_)
    · obtain⟨u,hu,_⟩:=h j hj
      rw [hu];rfl
    · obtain⟨u,hu,hd⟩:=h j hj
      rw [hu];exact hd
theorem IsD.val_eq {w:World} {x v:Value} (h:IsD w x (.val v)):x=v:=by cases h;rfl
inductive OwnD (w : World) : (Nat → Prop) → Value → Dat → Prop
  |val (F:Nat→Prop) (v:Value):OwnD w F v (.val v)
  |nil (F:Nat→Prop) (a:Option Addr) (cap c:Nat) (f:Nat→Dat) (h:cap≤maxLen):OwnD w F (.slice a 0 cap) (.row c 0 f)
  |row (F:Nat→Prop) (g n cap c:Nat) (f:Nat→Dat) (U:Nat→Value) (G:Nat→Nat→Prop) (h1:n≤cap) (h2:cap≤maxLen) (hg:g<w.heap.size) (hF:F g)
      (hc:∀j,j<n*c→w.cell? ⟨g,j,none⟩=some (U j)∧w.frozen? ⟨g,j,none⟩=false) (hs:∀j,j<n*c→OwnD w (G j) (U j) (f j))
      (hG:∀j,j<n*c→ ∀k,G j k→F k∧k≠g) (hGG:∀i j,i<n*c→j<n*c→i≠j→ ∀k,G i k→ ¬G j k):OwnD w F (.slice (some ⟨g,0,none⟩) n cap) (.row c n f)
theorem OwnD.turns {S F:Nat→Prop} {w w':World} {x:Value} {d:Dat} (h:OwnD w F x d) (ht:Turns S w w') (hS:∀k,F k→ ¬S k):OwnD w' F x d:=by
  induction h with
  |val F v=>exact .val F v
  |nil F a cap c f h=>exact .nil F a cap c f h
  |row F g n cap c f U G h1 h2 hg hF hc hs hG hGG ih=>
    exact .row F g n cap c f U G h1 h2 (Nat.lt_of_lt_of_le hg ht.size) hF (fun j hj=>by rw [ht.cell hg (hS g hF),ht.frozen hg (hS g hF)];exact hc j hj) (fun j hj=>ih j hj fun k hk=>hS k (hG j hj k hk).1) hG hGG
theorem OwnD.under {F:Nat→Prop} {w w':World} {x:Value} {d:Dat} (h:OwnD w F x d) (hb:Below w.heap.size w w'):OwnD w' F x d:=
  h.turns (S:=fun _=>False) (Turns.of_below hb) (fun _ _=>id)
theorem OwnD.mono {F F':Nat→Prop} {w:World} {x:Value} {d:Dat} (h:OwnD w F x d) (hF:∀k,F k→F' k):OwnD w F' x d:=by
  cases h with
  |val=>exact .val F' _
  |nil F a cap c f h=>exact .nil F' a cap c f h
  |row F g n cap c f U G h1 h2 hg hF0 hc hs hG hGG=>
    exact .row F' g n cap c f U G h1 h2 hg (hF g hF0) hc hs (fun j hj k hk=>⟨hF k (hG j hj k hk).1,(hG j hj k hk).2⟩) hGG
theorem OwnD.isD {F:Nat→Prop} {w:World} {x:Value} {d:Dat} (h:OwnD w F x d):IsD w x d:=by
  induction h with
  |val F v=>exact .val v
  |nil F a cap c f h=>exact .nil a cap c f h
  |row F g n cap c f U G h1 h2 hg hF hc hs hG hGG ih=>
    exact .row g 0 n cap c f U h1 h2 hg (fun j hj=>by rw [Nat.zero_add];exact(hc j hj).1) ih
theorem OwnD.parts {F:Nat→Prop} {w:World} {x:Value} {c n:Nat} {f:Nat→Dat} (h:OwnD w F x (.row c n f)):∃a cap,x= .slice a n cap∧n≤cap∧cap≤maxLen∧
    (n=0∨ ∃g,a=some ⟨g,0,none⟩∧g<w.heap.size∧F g):=by
  cases h with
  |nil F a cap _ _ h=>exact⟨a,cap,rfl,Nat.zero_le _,h,.inl rfl⟩
  |row F g _ cap _ _ U G h1 h2 hg hF hc hs hG hGG=>exact⟨_,cap,rfl,h1,h2,.inr ⟨g,rfl,hg,hF⟩⟩
theorem OwnD.congr {F:Nat→Prop} {w:World} {x:Value} {c n:Nat} {f f':Nat→Dat} (h:OwnD w F x (.row c n f)) (hf:∀j,j<n*c→f j=f' j):OwnD w F x (.row c n f'):=by
  cases h with
  |nil F a cap _ _ h=>exact .nil F a cap c f' h
  |row F g _ cap _ _ U G h1 h2 hg hF hc hs hG hGG=>exact .row F g n cap c f' U G h1 h2 hg hF hc (fun j hj=>by rw [←hf j hj];exact hs j hj) hG hGG
def upd (f:Nat→Dat) (j:Nat) (d:Dat):Nat→Dat:=fun i=>if i=j then d else f i
theorem upd_same (f:Nat→Dat) (j:Nat) (d:Dat):upd f j d j=d:=by simp [upd]
theorem upd_ne (f:Nat→Dat) {i j:Nat} (d:Dat) (h:i≠j):upd f j d i=f i:=by simp [upd,h]
theorem OwnD.step {F:Nat→Prop} {w:World} {g n cap c:Nat} {f:Nat→Dat} (h:OwnD w F (.slice (some ⟨g,0,none⟩) n cap) (.row c n f)) {j:Nat} (hj:j<n*c):
    ∃u K,w.cell? ⟨g,j,none⟩=some u∧w.frozen? ⟨g,j,none⟩=false∧OwnD w K u (f j)∧(∀k,K k→F k∧k≠g)∧
      ∀w' d',OwnD w' K u d'→Turns K w w'→OwnD w' F (.slice (some ⟨g,0,none⟩) n cap) (.row c n (upd f j d')):=by
  cases h with
  |nil F a cap _ _ h=>omega
  |row F g _ cap _ _ U G h1 h2 hg hF hc hs hG hGG=>
    refine⟨U j,G j,(hc j hj).1,(hc j hj).2,hs j hj,hG j hj,fun w' d' hd ht=> ?_⟩
    have hgK:¬G j g:=fun e=>(hG j hj g e).2 rfl
    refine .row F g n cap c _ U G h1 h2 (Nat.lt_of_lt_of_le hg ht.size) hF (fun i hi=>by rw [ht.cell hg hgK,ht.frozen hg hgK];exact hc i hi) (fun i hi=> ?_) hG hGG
    by_cases e:i=j
    · subst e;rw [upd_same];exact hd
    · rw [upd_ne _ _ e];exact(hs i hi).turns ht (fun k hk hk'=>hGG i j hi hj e k hk hk')
theorem OwnD.lt {F:Nat→Prop} {w:World} {g n cap c:Nat} {f:Nat→Dat} (h:OwnD w F (.slice (some ⟨g,0,none⟩) n cap) (.row c n f)) (hn:0<n):g<w.heap.size∧F g:=by
  cases h with
  |nil F a cap _ _ h=>omega
  |row F g _ cap _ _ U G h1 h2 hg hF hc hs hG hGG=>exact⟨hg,hF⟩
theorem cell_put {w:World} {g j:Nat} {u v:Value} (h:w.cell? ⟨g,j,none⟩=some u):(w.setCell ⟨g,j,none⟩ v).cell? ⟨g,j,none⟩=some v:=by
  have e1:w.setCell ⟨g,j,none⟩ v=w.setCells g j [v]:=rfl
  rw [e1]
  have h0:=World.cell?_setCells_in g [v] j w (fun i hi=>by
    obtain rfl:i=0:=by simpa using hi
    rw [Nat.add_zero,h];rfl) 0 (by simp)
  simpa using h0
theorem zc5 {w:World} {g j i:Nat} {v:Value} (h:i≠j):(w.setCell ⟨g,j,none⟩ v).cell? ⟨g,i,none⟩=w.cell? ⟨g,i,none⟩:=by
  have e1:w.setCell ⟨g,j,none⟩ v=w.setCells g j [v]:=rfl
  rw [e1]
  exact World.cell?_setCells_out g _ j w ⟨g,i,none⟩ (fun _ _=>by simp;omega)
theorem zdn {w:World} {g j i:Nat} {v:Value}:(w.setCell ⟨g,j,none⟩ v).frozen? ⟨g,i,none⟩=w.frozen? ⟨g,i,none⟩:=by
  have e1:w.setCell ⟨g,j,none⟩ v=w.setCells g j [v]:=rfl
  rw [e1,World.frozen?_setCells]
theorem OwnD.put {F K:Nat→Prop} {w:World} {g n cap c:Nat} {f:Nat→Dat} {u:Value} {d:Dat} (h:OwnD w F (.slice (some ⟨g,0,none⟩) n cap) (.row c n f)) {j:Nat} (hj:j<n*c) (hu:OwnD w K u d) (hK:∀k,K k→ ¬F k):
    OwnD (w.setCell ⟨g,j,none⟩ u) (fun k=>F k∨K k) (.slice (some ⟨g,0,none⟩) n cap) (.row c n (upd f j d)):=by
  cases h with
  |nil F a cap _ _ h=>omega
  |row F g _ cap _ _ U G h1 h2 hg hF hc hs hG hGG=>
    have ht:Turns (fun b=>b=g) w (w.setCell ⟨g,j,none⟩ u):=yag w g j u
    refine .row _ g n cap c _ (fun i=>if i=j then u else U i) (fun i=>if i=j then K else G i) h1 h2 (Nat.lt_of_lt_of_le hg ht.size) (.inl hF) (fun i hi=> ?_) (fun i hi=> ?_) (fun i hi k hk=> ?_) (fun i i' hi hi' hii k hk hk'=> ?_)
    · refine⟨?_,by rw [zdn];exact(hc i hi).2⟩
      by_cases e:i=j
      · subst e;simp only [if_true];exact cell_put (hc i hi).1
      · simp only [if_neg e];rw [zc5 e];exact(hc i hi).1
    · by_cases e:i=j
      · subst e;simp only [if_true,upd_same];exact hu.turns ht (fun k hk e=>hK k hk (e▸hF))
      · simp only [if_neg e];rw [upd_ne _ _ e];exact(hs i hi).turns ht (fun k hk=>(hG i hi k hk).2)
    · by_cases e:i=j
      · subst e;simp only [if_true]at hk;exact⟨.inr hk,fun e=>hK k hk (e▸hF)⟩
      · simp only [if_neg e]at hk;exact⟨.inl (hG i hi k hk).1,(hG i hi k hk).2⟩
    · by_cases e:i=j
      · subst e
        simp only [if_true]at hk
        rw [if_neg (Ne.symm hii)]at hk'
        exact hK k hk (hG i' hi' k hk').1
      · simp only [if_neg e]at hk
        by_cases e':i'=j
        · subst e'
          simp only [if_true]at hk'
          exact hK k hk' (hG i hi k hk).1
        · simp only [if_neg e']at hk'
          exact hGG i i' hi hi' hii k hk hk'
theorem OwnD.put_val {F:Nat→Prop} {w:World} {g n cap c:Nat} {f:Nat→Dat} (h:OwnD w F (.slice (some ⟨g,0,none⟩) n cap) (.row c n f)) {j:Nat} (hj:j<n*c) (u:Value):
    OwnD (w.setCell ⟨g,j,none⟩ u) F (.slice (some ⟨g,0,none⟩) n cap) (.row c n (upd f j (.val u))):=
  (h.put hj (OwnD.val (fun _=>False) u) (fun _=>False.elim)).mono (fun _ hk=>hk.elim id False.elim)
def flat (c n:Nat) (cs:List Value):Dat:= .row c n (fun j=> .val (cs.getD j (.int .i64 0)))
theorem yxj {cs:List Value} {j:Nat} {u:Value} (h:cs[j]? =some u):cs.getD j (.int .i64 0)=u:=by simp [h]
theorem RowF.own {F:Nat→Prop} {w:World} {x:Value} {n c:Nat} {cs:List Value} (h:RowF F w x n c cs):OwnD w F x (flat c n cs):=by
  obtain⟨hl,a,cap,rfl,h1,h2,h⟩:=h
  rcases h with rfl|⟨g,rfl,hF,hg,hc⟩
  · exact .nil F a cap c _ h2
  · refine .row F g n cap c _ (fun j=>cs.getD j (.int .i64 0)) (fun _ _=>False) h1 h2 hg hF (fun j hj=>⟨?_,(hc j hj).2⟩) (fun j hj=> .val _ _) (fun _ _ _=>False.elim) (fun _ _ _ _ _ _=>False.elim)
    rw [(hc j hj).1,List.getElem?_eq_getElem (by omega),yxj (List.getElem?_eq_getElem (by omega))]
theorem OwnD.rowF {F:Nat→Prop} {w:World} {x:Value} {n c:Nat} {cs:List Value} (h:OwnD w F x (flat c n cs)) (hl:cs.length=n*c):RowF F w x n c cs:=by
  unfold flat at h
  cases h with
  |nil F a cap _ _ h=>exact⟨hl,a,cap,rfl,Nat.zero_le _,h,.inl rfl⟩
  |row F g _ cap _ _ U G h1 h2 hg hF hc hs hG hGG=>
    refine⟨hl,_,cap,rfl,h1,h2,.inr ⟨g,rfl,hF,hg,fun j hj=>⟨?_,(hc j hj).2⟩⟩⟩
    have:=(hs j hj).isD.val_eq
    rw [(hc j hj).1,this,List.getElem?_eq_getElem (by omega),yxj (List.getElem?_eq_getElem (by omega))]
def Dat.cnt:Dat→Nat
  | .val _=>1
  | .row c n f=>sumL (fun j=>(f j).cnt) (n*c)
def mark1 (v:Value) (z:Int):Value:=match v with
  | .bool _=> .bool (decide (z%3=0))
  |_=> .int .i64 z
def Dat.mark:Dat→Int→Dat
  | .val v,z=> .val (mark1 v z)
  | .row c n f,z=> .row c n (fun j=>(f j).mark (z+(sumL (fun i=>(f i).cnt) j:Int)))
theorem zar {L L':Nat→Nat}:∀{n:Nat},(∀j,j<n→L j=L' j)→sumL L n=sumL L' n
  |0,_=>rfl
  |n+1,h=>by simp only [sumL];rw [zar (fun j hj=>h j (by omega)),h n (by omega)]
theorem ze3:∀n:Nat,sumL (fun _=>1) n=n
  |0=>rfl
  |n+1=>by simp only [sumL];rw [ze3 n]
theorem zgn (c n:Nat) (cs:List Value):(flat c n cs).cnt=n*c:=by
  simp only [flat,Dat.cnt]
  exact ze3 _
theorem zcj {F:Nat→Prop} {w:World} {x:Value} {c n:Nat} {cs:List Value} {z:Int} (h:OwnD w F x (flat c n (yxe z (n*c)))) (hi:∀u∈cs,∃i,u= .int .i64 i):OwnD w F x ((flat c n cs).mark z):=by
  refine OwnD.congr (f:=fun j=> .val ((yxe z (n*c)).getD j (.int .i64 0))) h (fun j hj=> ?_)
  rw [yxj (zb0 hj)]
  simp only [Dat.mark,Dat.cnt,ze3]
  congr 1
  by_cases hj':j<cs.length
  · obtain⟨i,e⟩:=hi _ (List.getElem_mem hj')
    rw [yxj (List.getElem?_eq_getElem hj'),e];rfl
  · rw [show cs.getD j (.int .i64 0)= .int .i64 0 from by simp [List.getElem?_eq_none (Nat.le_of_not_lt hj')]];rfl
theorem zb4 {F:Nat→Prop} {w:World} {x:Value} {c n:Nat} {cs:List Value} {z:Int} (h:OwnD w F x ((flat c n cs).mark z)) (hi:∀u∈cs,∃i,u= .int .i64 i):OwnD w F x (flat c n (yxe z (n*c))):=by
  refine OwnD.congr (f:=fun j=>((Dat.val (cs.getD j (.int .i64 0))).mark (z+(sumL (fun i=>(Dat.val (cs.getD i (.int .i64 0))).cnt) j:Int)))) h (fun j hj=> ?_)
  rw [yxj (zb0 hj)]
  simp only [Dat.mark,Dat.cnt,ze3]
  congr 1
  by_cases hj':j<cs.length
  · obtain⟨i,e⟩:=hi _ (List.getElem_mem hj')
    rw [yxj (List.getElem?_eq_getElem hj'),e];rfl
  · rw [show cs.getD j (.int .i64 0)= .int .i64 0 from by simp [List.getElem?_eq_none (Nat.le_of_not_lt hj')]];rfl
def Dat.wt:Dat→Nat
  | .val _=>0
  | .row c n f=>n+sumL (fun j=>(f j).wt) (n*c)
def Dat.thin:Dat→Prop
  | .val _=>True
  | .row c _ f=>c≤40∧ ∀j,(f j).thin
theorem zfg {L L':Nat→Nat} (K:Nat):∀{n:Nat},(∀j,j<n→L j≤1+K*L' j)→sumL L n≤n+K*sumL L' n
  |0,_=>by simp [sumL]
  |n+1,h=>by
    simp only [sumL]
    have h1:=zfg K (n:=n) (fun j hj=>h j (by omega))
    have h2:=h n (by omega)
    rw [Nat.mul_add]
    omega
theorem Dat.cnt_le1:∀d:Dat,d.thin→d.cnt≤1+40*d.wt∧(∀c n f,d= .row c n f→d.cnt≤40*d.wt)
  | .val _,_=>⟨by simp [Dat.cnt],fun _ _ _ e=>by cases e⟩
  | .row c n f,h=>by
    have h1:sumL (fun j=>(f j).cnt) (n*c)≤n*c+40*sumL (fun j=>(f j).wt) (n*c):=zfg 40 (fun j _=>(Dat.cnt_le1 (f j) (h.2 j)).1)
    have h2:n*c≤n*40:=Nat.mul_le_mul_left n h.1
    have h3:(Dat.row c n f).cnt≤40*(Dat.row c n f).wt:=by
      simp only [Dat.cnt,Dat.wt,Nat.mul_add]
      omega
    exact⟨by omega,fun _ _ _ _=>h3⟩
theorem Dat.cnt_le {c n:Nat} {f:Nat→Dat} (h:(Dat.row c n f).thin):(Dat.row c n f).cnt≤40*(Dat.row c n f).wt:=(Dat.cnt_le1 _ h).2 c n f rfl
theorem zgm (c n:Nat) (cs:List Value):(flat c n cs).wt=n:=by
  simp only [flat,Dat.wt]
  have:∀k,sumL (fun _=>0) k=0:=fun k=>by induction k with
    |zero=>rfl
    |succ k ih=>simp [sumL,ih]
  rw [this];rfl
theorem zd3 {c n:Nat} {cs:List Value} (h:c≤40):(flat c n cs).thin:=⟨h,fun _=>trivial⟩
def ywr (l:List Int):Dat:=flat 1 l.length (intCells l)
def evsD (l:List Ev):Dat:=flat 7 l.length (yvz l)
def emsD (l:List Em):Dat:=flat 3 l.length (ywm l)
theorem IsI.isD {w:World} {x:Value} {l:List Int} (h:IsI w x l):IsD w x (ywr l):=by
  obtain⟨a,cap,rfl,h1,h2,h⟩:=h
  refine IsD.of_parts h1 h2 (h.imp (fun e=>by rw [e];rfl) ?_)
  rintro ⟨b,off,rfl,hb,hc⟩
  refine⟨b,off,rfl,hb,fun j hj=> ?_⟩
  have hj':j<l.length:=by omega
  refine⟨_,hc j hj',?_⟩
  rw [show(intCells l).getD j (.int .i64 0)= .int .i64 (intAt l j)from yxj (by simp [intCells,intAt,hj'])]
  exact .val _
theorem IsD.isI {w:World} {x:Value} {l:List Int} (h:IsD w x (ywr l)):IsI w x l:=by
  obtain⟨a,cap,rfl,h1,h2,h⟩:=IsD.parts (c:=1) (n:=l.length) h
  refine⟨a,cap,rfl,h1,h2,h.imp List.eq_nil_of_length_eq_zero ?_⟩
  rintro ⟨b,off,rfl,hb,hc⟩
  refine⟨b,off,rfl,hb,fun j hj=> ?_⟩
  obtain⟨u,hu,hd⟩:=hc j (by omega)
  rw [hu,hd.val_eq,show(intCells l).getD j (.int .i64 0)= .int .i64 (intAt l j)from yxj (by simp [intCells,intAt,hj])]
theorem IsEvs.isD {w:World} {x:Value} {l:List Ev} (h:IsEvs w x l):IsD w x (evsD l):=by
  obtain⟨a,cap,rfl,h1,h2,h⟩:=h
  refine IsD.of_parts h1 h2 (h.imp (fun e=>by rw [e];rfl) ?_)
  rintro ⟨b,off,rfl,hb,hc⟩
  refine⟨b,off,rfl,hb,fun j hj=> ?_⟩
  have hi:j/7<l.length:=by omega
  have hr:j%7<7:=by omega
  have hE:=hc (j/7) hi
  have hg:=yzo l (j/7) (j%7) hi hr
  rw [show j/7*7+j%7=j from by omega]at hg
  have hall:∀r,r<7→ ∃u,w.cell? ⟨b,off+j/7*7+r,none⟩=some u∧(evAt l (j/7)).cs[r]? =some u:=fun r hr=>by
    match r,hr with
    |0,_=>exact⟨_,hE.f0,rfl⟩
    |1,_=>exact⟨_,hE.f1,rfl⟩
    |2,_=>exact⟨_,hE.f2,rfl⟩
    |3,_=>exact⟨_,hE.f3,rfl⟩
    |4,_=>exact⟨_,hE.f4,rfl⟩
    |5,_=>exact⟨_,hE.f5,rfl⟩
    |6,_=>exact⟨_,hE.f6,rfl⟩
  obtain⟨u,h3,h4⟩:=hall _ hr
  refine⟨u,by rw [←h3];congr 2;omega,?_⟩
  rw [show(yvz l).getD j (.int .i64 0)=u from yxj (hg.trans h4)]
  exact .val _
theorem IsD.isEvs {w:World} {x:Value} {l:List Ev} (h:IsD w x (evsD l)):IsEvs w x l:=by
  obtain⟨a,cap,rfl,h1,h2,h⟩:=IsD.parts (c:=7) (n:=l.length) h
  refine⟨a,cap,rfl,h1,h2,h.imp List.eq_nil_of_length_eq_zero ?_⟩
  rintro ⟨b,off,rfl,hb,hc⟩
  refine⟨b,off,rfl,hb,fun i hi=> ?_⟩
  have hget:∀r,r<7→w.cell? ⟨b,off+i*7+r,none⟩=(evAt l i).cs[r]? :=fun r hr=>by
    obtain⟨u,hu,hd⟩:=hc (i*7+r) (by omega)
    rw [Nat.add_assoc,hu,hd.val_eq]
    have hg:=yzo l i r hi hr
    have:r<(evAt l i).cs.length:=by simpa [Ev.cs] using hr
    rw [List.getElem?_eq_getElem this]at hg⊢
    rw [yxj hg]
  exact⟨hget 0 (by omega),hget 1 (by omega),hget 2 (by omega),hget 3 (by omega),hget 4 (by omega),hget 5 (by omega),hget 6 (by omega)⟩
theorem IsX.isD {w:World} {x:Value} {l:List Em} (h:IsX w x l):IsD w x (emsD l):=by
  obtain⟨a,cap,rfl,h1,h2,h⟩:=h
  refine IsD.of_parts h1 h2 (h.imp (fun e=>by rw [e];rfl) ?_)
  rintro ⟨b,off,rfl,hb,hc⟩
  refine⟨b,off,rfl,hb,fun j hj=> ?_⟩
  have hi:j/3<l.length:=by omega
  have hr:j%3<3:=by omega
  have hE:=hc (j/3) hi
  have hg:=za8 l (j/3) (j%3) hi hr
  rw [show j/3*3+j%3=j from by omega]at hg
  have hall:∀r,r<3→ ∃u,w.cell? ⟨b,off+j/3*3+r,none⟩=some u∧(xAt l (j/3)).cs[r]? =some u:=fun r hr=>by
    match r,hr with
    |0,_=>exact⟨_,hE.f0,rfl⟩
    |1,_=>exact⟨_,hE.f1,rfl⟩
    |2,_=>exact⟨_,hE.f2,rfl⟩
  obtain⟨u,h3,h4⟩:=hall _ hr
  refine⟨u,by rw [←h3];congr 2;omega,?_⟩
  rw [show(ywm l).getD j (.int .i64 0)=u from yxj (hg.trans h4)]
  exact .val _
theorem IsD.isX {w:World} {x:Value} {l:List Em} (h:IsD w x (emsD l)):IsX w x l:=by
  obtain⟨a,cap,rfl,h1,h2,h⟩:=IsD.parts (c:=3) (n:=l.length) h
  refine⟨a,cap,rfl,h1,h2,h.imp List.eq_nil_of_length_eq_zero ?_⟩
  rintro ⟨b,off,rfl,hb,hc⟩
  refine⟨b,off,rfl,hb,fun i hi=> ?_⟩
  have hget:∀r,r<3→w.cell? ⟨b,off+i*3+r,none⟩=(xAt l i).cs[r]? :=fun r hr=>by
    obtain⟨u,hu,hd⟩:=hc (i*3+r) (by omega)
    rw [Nat.add_assoc,hu,hd.val_eq]
    have hg:=za8 l i r hi hr
    have:r<(xAt l i).cs.length:=by simpa [Em.cs] using hr
    rw [List.getElem?_eq_getElem this]at hg⊢
    rw [yxj hg]
  exact⟨hget 0 (by omega),hget 1 (by omega),hget 2 (by omega)⟩
set_option maxHeartbeats 2000000
open Go.RowKit
theorem zgg {p:Prop} (h:p):Hid p:=h
def SzR (n:Nat) (left r:Int):Prop:=r= -1∨(0≤r∧r+(n:Int)=left)
theorem szN_R (n:Nat) (left:Int):SzR n left (szN n left):=by
  unfold szN
  split
  · exact .inl rfl
  · exact .inr ⟨by omega,by omega⟩
theorem zfo (l:List Int):∀u∈intCells l,∃i,u= .int .i64 i:=by
  intro u hu
  simp only [intCells,List.mem_map]at hu
  obtain⟨i,_,rfl⟩:=hu
  exact⟨i,rfl⟩
theorem zd4:∀(l:List Ev),∀u∈yvz l,∃i,u= .int .i64 i
  | [],u,hu=>by cases hu
  |e::l,u,hu=>by
    rcases List.mem_append.1 hu with h|h
    · simp [Ev.cs]at h
      rcases h with rfl|rfl|rfl|rfl|rfl|rfl|rfl<;>exact⟨_,rfl⟩
    · exact zd4 l u h
theorem zd5:∀(l:List Em),∀u∈ywm l,∃i,u= .int .i64 i
  | [],u,hu=>by cases hu
  |e::l,u,hu=>by
    rcases List.mem_append.1 hu with h|h
    · simp [Em.cs]at h
      rcases h with rfl|rfl|rfl<;>exact⟨_,rfl⟩
    · exact zd5 l u h
theorem IsD.len {w:World} {x:Value} {c n:Nat} {f:Nat→Dat} (h:IsD w x (.row c n f)):∃a cap,x= .slice a n cap∧n≤maxLen:=by
  obtain⟨a,cap,rfl,h1,h2,_⟩:=h.parts
  exact⟨a,cap,rfl,Nat.le_trans h1 h2⟩
theorem szX_any (a:Option Addr) (n cap:Nat) (left:Int) (w:World) (hn:n≤maxLen) (h0:0≤left) (h1:left≤1048576):
    Calls Tryz.prog 36 #[.slice a n cap,.int .i64 left] w fun e w'=>e= .returned (.int .i64 (szN n left))∧w'=w:=by
  unfold maxLen at hn
  by_cases hp:left-(n:Int)<0
  · go_enter Tryz.func36,Tryz.ntmps36
    go_wp2
    go_ret
    exact⟨ywz (by unfold szN;rw [if_pos hp]),rfl⟩
  · go_enter Tryz.func36,Tryz.ntmps36
    go_wp2
    go_ret
    exact⟨ywz (by unfold szN;rw [if_neg (by omega)]),rfl⟩
theorem zlh (t l v:Int) (w:World):
    Calls Tryz.prog 115 #[.agg #[.int .i64 t,.int .i64 l,.int .i64 v]] w fun e w'=>e= .returned (.agg #[.int .i64 t,.int .i64 l,.int .i64 v])∧Below w.heap.size w w':=by
  go_enter Tryz.func115,Tryz.ntmps115
  go_wp2
  refine bodyPost_ret (v:= .agg #[.int .i64 t,.int .i64 l,.int .i64 v]) (by simp [results,Tryz.results115,go_sem]) rfl ⟨rfl,(((Below.refl _ w).alloc (Nat.le_refl _) _).alloc (by simp) _).alloc (by simp;omega) _⟩
theorem infoEm:(Tryz.prog.info? 166).map (fun i=>(i.zero,i.size,i.bytes))=some (some (.agg #[.int .i64 0,.int .i64 0,.int .i64 0]),3,24):=by kernel_rfl
theorem OwnD.made {B:Nat} {T:TypeId} {w1:World} {zs:List Value} {n c:Nat} (h:w1.ownsRow B T c (.slice (some ⟨B,0,none⟩) n n) n zs) (hz:zs.length=n*c):OwnD w1 (fun k=>B≤k∧k<w1.heap.size) (.slice (some ⟨B,0,none⟩) n n) (flat c n zs):=
  (RowF.of_owns hz h).own
def toC (f:Nat→Dat) (zs:List Value) (m:Nat):Nat→Dat:=fun j=>if j<m then f j else .val (zs.getD j (.int .i64 0))
theorem OwnD.made0 {B:Nat} {T:TypeId} {w1:World} {zs:List Value} {n c:Nat} (f:Nat→Dat) (h:w1.ownsRow B T c (.slice (some ⟨B,0,none⟩) n n) n zs):∃zs,OwnD w1 (fun k=>B≤k∧k<w1.heap.size) (.slice (some ⟨B,0,none⟩) n n) (.row c n (toC f zs 0)):=by
  refine⟨zs,(OwnD.made h h.1).congr (fun j _=> ?_)⟩
  simp [toC]
theorem OwnD.toAll {F:Nat→Prop} {w:World} {x:Value} {c n m:Nat} {f:Nat→Dat} {zs:List Value} (h:OwnD w F x (.row c n (toC f zs m))) (hm:m=n*c):OwnD w F x (.row c n f):=
  h.congr (fun j hj=>by simp [toC,hm,hj])
theorem zn1 (f:Nat→Dat) (zs:List Value) (m:Nat):upd (toC f zs m) m (f m)=toC f zs (m+1):=by
  funext j
  simp only [upd,toC]
  by_cases e:j=m
  · subst e;rw [if_pos rfl,if_pos (by omega)]
  · rw [if_neg e]
    by_cases e2:j<m
    · rw [if_pos e2,if_pos (by omega)]
    · rw [if_neg e2,if_neg (by omega)]
theorem OwnD.fill_val {F:Nat→Prop} {w:World} {g n cap c m:Nat} {f:Nat→Dat} {zs:List Value} (h:OwnD w F (.slice (some ⟨g,0,none⟩) n cap) (.row c n (toC f zs m))) (hm:m<n*c) {u:Value} (hu:f m= .val u):
    OwnD (w.setCell ⟨g,m,none⟩ u) F (.slice (some ⟨g,0,none⟩) n cap) (.row c n (toC f zs (m+1))):=by
  have:=h.put_val hm u
  rwa [←hu,zn1]at this
theorem OwnD.fill {F K:Nat→Prop} {w:World} {g n cap c m:Nat} {f:Nat→Dat} {zs:List Value} (h:OwnD w F (.slice (some ⟨g,0,none⟩) n cap) (.row c n (toC f zs m))) (hm:m<n*c) {u:Value} (hu:OwnD w K u (f m)) (hK:∀k,K k→ ¬F k):
    OwnD (w.setCell ⟨g,m,none⟩ u) (fun k=>F k∨K k) (.slice (some ⟨g,0,none⟩) n cap) (.row c n (toC f zs (m+1))):=by
  have:=h.put hm hu hK
  rwa [zn1]at this
theorem ems_at {l:List Em} {k:Nat} (h:k<l.length):(ywm l).getD (k*3) (.int .i64 0)= .int .i64 (xAt l k).t∧(ywm l).getD (k*3+1) (.int .i64 0)= .int .i64 (xAt l k).l∧(ywm l).getD (k*3+2) (.int .i64 0)= .int .i64 (xAt l k).v:=
  ⟨yxj (za8 l k 0 h (by omega)),yxj (za8 l k 1 h (by omega)),yxj (za8 l k 2 h (by omega))⟩
theorem toX_any (x:Value) (l:List Em) (w:World) (hl:l.length≤1048576) (h:IsX w x l):
    Calls Tryz.prog 45 #[x] w fun e w'=>e= .returned (sl w.heap.size l.length)∧Below w.heap.size w w'∧OwnD w' (fun k=>w.heap.size≤k∧k<w'.heap.size) (sl w.heap.size l.length) (emsD l):=by
  obtain⟨a,cap,rfl,h1,h2,h⟩:=h
  have hp:(0:Int)≤(l.length:Int):=by omega
  obtain⟨i0,hi,hz0,hz1,hz2⟩:=info_parts infoEm
  go_enter Tryz.func45,Tryz.ntmps45
  go_wp2_with (at_make;refine wpList_make_full _ rfl _ _ 39 rfl w.heap.size 166 i0 _ 3 Tryz.underlying39 hi hz0 hz1 .i64 .i64 l.length l.length l.length rfl rfl rfl rfl (by rw [hz2];omega) (by unfold maxLen;omega) (Nat.le_refl _) ?_;intro w1 hown hgrow)
  have hB1:Hid (Below w.heap.size w w1):=(Below.refl _ _).grown hgrow (Nat.le_refl _) (fun k e=>by cases e)
  obtain⟨zs,hR0⟩:=OwnD.made0 (fun j=> .val ((ywm l).getD j (.int .i64 0))) hown
  have hR1:=zgg hR0
  clear hown hgrow hi hz0 hz1 hz2 hR0
  go_loopw [4] (fun i wr=>∃k:Nat,k≤l.length∧i= .int .i64 k∧Below w.heap.size w wr∧OwnD wr (fun k=>w.heap.size≤k∧k<wr.heap.size) (sl w.heap.size l.length) (.row 3 l.length (toC (fun j=> .val ((ywm l).getD j (.int .i64 0))) zs (k*3)))) (fun i _=>l.length-(intOf i).toNat)
  case atStart=>exact⟨0,Nat.zero_le _,rfl,hB1.out,hR1.out⟩
  case round=>
    obtain⟨k,hk,rfl,hB,hR⟩:=hrel
    have HB:=zgg hB
    have HR:=zgg hR
    clear hR
    by_cases hlt:k<l.length
    · obtain⟨b,off,rfl,hb,hc⟩:=h.resolve_left (by intro e;subst e;simp at hlt)
      obtain⟨f0,f1,f2⟩:=(hc k hlt).below hB hb
      have hg:w.heap.size<wr.heap.size:=(HR.out.lt (by omega)).1
      clear hB hB1 hR1 h hc
      go_wp2_with (go_at_call 115;refine(zlh _ _ _ _).mono ?_;rintro e w2 ⟨rfl,hb2⟩;have HB2:=hdq hb2;have HR2:Hid (OwnD w2 (fun k=>w.heap.size≤k∧k<wr.heap.size) (sl w.heap.size l.length) (.row 3 l.length (toC (fun j=> .val ((ywm l).getD j (.int .i64 0))) zs (k*3)))):=HR.out.under hb2;obtain⟨c0,_,g0,z0,_⟩:=HR2.out.step (j:=k*3) (by omega);obtain⟨c1,_,g1,z1,_⟩:=HR2.out.step (j:=k*3+1) (by omega);obtain⟨c2,_,g2,z2,_⟩:=HR2.out.step (j:=k*3+2) (by omega);clear hb2)
      go_roundw
      case rel=>
        obtain⟨e0,e1,e2⟩:=ems_at hlt
        refine⟨k+1,by omega,by go_num,(((HB.out.trans (HB2.out.mono (by omega))).setCell (p:=⟨w.heap.size,_,none⟩) (Nat.le_refl _) _).setCell (p:=⟨w.heap.size,_,none⟩) (Nat.le_refl _) _).setCell (p:=⟨w.heap.size,_,none⟩) (Nat.le_refl _) _,?_⟩
        rw [show(k+1)*3=k*3+1+1+1 from by omega]
        exact(((HR2.out.fill_val (m:=k*3) (by omega) (by rw [e0])).fill_val (m:=k*3+1) (by omega) (by rw [e1])).fill_val (m:=k*3+2) (by omega) (by rw [e2])).mono (fun b hb=>⟨hb.1,by have:=HB2.out.size;simp;omega⟩)
      case measure=>simp [intOf];omega
    · clear hB hB1 hR1 h
      go_wp2
      go_ret
      obtain rfl:k=l.length:=by omega
      exact⟨rfl,HB.out,HR.out.toAll rfl⟩
theorem ywf (l:List Int):(ywr l).wt=l.length:=zgm _ _ _
theorem ints_cnt (l:List Int):(ywr l).cnt=l.length*1:=zgn _ _ _
theorem zer (l:List Int):(ywr l).thin:=zd3 (by omega)
theorem zio (x:Value) (l:List Int) (left:Int) (w:World) (h0:0≤left) (h1:left≤1048576) (h:IsD w x (ywr l)):
    Calls Tryz.prog 32 #[x,.int .i64 left] w fun e w'=>(∃r,e= .returned (.int .i64 r)∧SzR (ywr l).wt left r)∧Below w.heap.size w w':=by
  obtain⟨a,cap,rfl,hn⟩:=IsD.len (c:=1) (n:=l.length) h
  refine(szI_any a l.length cap left w hn h0 h1).mono ?_
  rintro e w' ⟨rfl,rfl⟩
  exact⟨⟨_,rfl,by rw [ywf];exact szN_R _ _⟩,Below.refl _ _⟩
theorem zoz (x y:Value) (l:List Int) (w:World) (hl:l.length≤1048576) (hx:IsD w x (ywr l)) (hy:IsD w y (ywr l)):
    Calls Tryz.prog 53 #[x,y] w fun e w'=>e= .returned (.bool true)∧Below w.heap.size w w':=
  zgo x y l w (by omega) hx.isI hy.isI
theorem zn5 (x:Value) (l:List Int) (w:World) (hl:l.length≤1048576) (h:IsD w x (ywr l)):
    Calls Tryz.prog 41 #[x] w fun e w'=>∃y,e= .returned y∧Below w.heap.size w w'∧OwnD w' (fun k=>w.heap.size≤k∧k<w'.heap.size) y (ywr l):=by
  refine(zin x l w hl h.isI).mono ?_
  rintro e w' ⟨rfl,hb,hr⟩
  exact⟨_,rfl,hb,((hr.rowF (by unfold maxLen;omega)).mono (fun k e=>by subst e;exact⟨Nat.le_refl _,hr.1⟩)).own⟩
theorem zbk {F:Nat→Prop} {x:Value} {l:List Int} {w:World} (z:Int) (hn:l.length≤1048577) (hz0:0≤z) (hz1:z≤1073741824) (h:OwnD w F x (ywr l)):
    Calls Tryz.prog 59 #[x,.int .i64 z] w fun e w'=>e= .returned (.int .i64 (z+((ywr l).cnt:Int)))∧OwnD w' F x ((ywr l).mark z)∧Turns F w w':=by
  refine(markIF z hn hz0 hz1 (OwnD.rowF (c:=1) h (by rw [yws,Nat.mul_one]))).mono ?_
  rintro e w' ⟨rfl,hr,ht⟩
  refine⟨ywz ?_,zcj hr.own (zfo l),ht⟩
  rw [ints_cnt]
  omega
theorem zcz {F:Nat→Prop} {x:Value} {l:List Int} {w:World} (z:Int) (hn:l.length≤1048577) (hz0:0≤z) (hz1:z≤1073741824) (h:OwnD w F x ((ywr l).mark z)):
    Calls Tryz.prog 65 #[x,.int .i64 z] w fun e w'=>e= .returned (.int .i64 (z+((ywr l).cnt:Int)))∧Below w.heap.size w w':=by
  refine(heldIF (F:=F) z hn hz0 hz1 (OwnD.rowF (c:=1) (zb4 h (zfo l)) (yzp _ _))).mono ?_
  rintro e w' ⟨rfl,rfl⟩
  refine⟨ywz ?_,Below.refl _ _⟩
  rw [ints_cnt]
  omega
theorem yx0 (l:List Ev):(evsD l).wt=l.length:=zgm _ _ _
theorem evs_cnt (l:List Ev):(evsD l).cnt=l.length*7:=zgn _ _ _
theorem zkp (l:List Ev):(evsD l).thin:=zd3 (by omega)
theorem zn9 (x:Value) (l:List Ev) (left:Int) (w:World) (h0:0≤left) (h1:left≤1048576) (h:IsD w x (evsD l)):
    Calls Tryz.prog 35 #[x,.int .i64 left] w fun e w'=>(∃r,e= .returned (.int .i64 r)∧SzR (evsD l).wt left r)∧Below w.heap.size w w':=by
  obtain⟨a,cap,rfl,hn⟩:=IsD.len (c:=7) (n:=l.length) h
  refine(szE_any a l.length cap left w hn h0 h1).mono ?_
  rintro e w' ⟨rfl,rfl⟩
  exact⟨⟨_,rfl,by rw [yx0];exact szN_R _ _⟩,Below.refl _ _⟩
theorem zp0 (x y:Value) (l:List Ev) (w:World) (hl:l.length≤1048576) (hx:IsD w x (evsD l)) (hy:IsD w y (evsD l)):
    Calls Tryz.prog 56 #[x,y] w fun e w'=>e= .returned (.bool true)∧Below w.heap.size w w':=
  zkr x y l w hl hx.isEvs hy.isEvs
theorem zn6 (x:Value) (l:List Ev) (w:World) (hl:l.length≤1048576) (h:IsD w x (evsD l)):
    Calls Tryz.prog 44 #[x] w fun e w'=>∃y,e= .returned y∧Below w.heap.size w w'∧OwnD w' (fun k=>w.heap.size≤k∧k<w'.heap.size) y (evsD l):=by
  refine(zdr x l w hl h.isEvs).mono ?_
  rintro e w' ⟨rfl,hb,hr⟩
  exact⟨_,rfl,hb,((hr.rowF (by unfold maxLen;omega)).mono (fun k e=>by subst e;exact⟨Nat.le_refl _,hr.1⟩)).own⟩
theorem ze5 {F:Nat→Prop} {x:Value} {l:List Ev} {w:World} (z:Int) (hn:l.length≤1048577) (hz0:0≤z) (hz1:z≤1073741824) (h:OwnD w F x (evsD l)):
    Calls Tryz.prog 62 #[x,.int .i64 z] w fun e w'=>e= .returned (.int .i64 (z+((evsD l).cnt:Int)))∧OwnD w' F x ((evsD l).mark z)∧Turns F w w':=by
  refine(markEF z hn hz0 hz1 (OwnD.rowF (c:=7) h (ywc l))).mono ?_
  rintro e w' ⟨rfl,hr,ht⟩
  refine⟨ywz ?_,zcj hr.own (zd4 l),ht⟩
  rw [evs_cnt]
  omega
theorem zgi {F:Nat→Prop} {x:Value} {l:List Ev} {w:World} (z:Int) (hn:l.length≤1048577) (hz0:0≤z) (hz1:z≤1073741824) (h:OwnD w F x ((evsD l).mark z)):
    Calls Tryz.prog 68 #[x,.int .i64 z] w fun e w'=>e= .returned (.int .i64 (z+((evsD l).cnt:Int)))∧Below w.heap.size w w':=by
  refine(heldEF (F:=F) z hn hz0 hz1 (OwnD.rowF (c:=7) (zb4 h (zd4 l)) (yzp _ _))).mono ?_
  rintro e w' ⟨rfl,rfl⟩
  refine⟨ywz ?_,Below.refl _ _⟩
  rw [evs_cnt]
  omega
theorem yy3 (l:List Em):(emsD l).wt=l.length:=zgm _ _ _
theorem ems_cnt (l:List Em):(emsD l).cnt=l.length*3:=zgn _ _ _
theorem ems_thin (l:List Em):(emsD l).thin:=zd3 (by omega)
theorem sz_ems (x:Value) (l:List Em) (left:Int) (w:World) (h0:0≤left) (h1:left≤1048576) (h:IsD w x (emsD l)):
    Calls Tryz.prog 36 #[x,.int .i64 left] w fun e w'=>(∃r,e= .returned (.int .i64 r)∧SzR (emsD l).wt left r)∧Below w.heap.size w w':=by
  obtain⟨a,cap,rfl,hn⟩:=IsD.len (c:=3) (n:=l.length) h
  refine(szX_any a l.length cap left w hn h0 h1).mono ?_
  rintro e w' ⟨rfl,rfl⟩
  exact⟨⟨_,rfl,by rw [yy3];exact szN_R _ _⟩,Below.refl _ _⟩
theorem eq_ems (x y:Value) (l:List Em) (w:World) (hl:l.length≤1048576) (hx:IsD w x (emsD l)) (hy:IsD w y (emsD l)):
    Calls Tryz.prog 57 #[x,y] w fun e w'=>e= .returned (.bool true)∧Below w.heap.size w w':=
  eqX_same x y l w hl hx.isX hy.isX
theorem to_ems (x:Value) (l:List Em) (w:World) (hl:l.length≤1048576) (h:IsD w x (emsD l)):
    Calls Tryz.prog 45 #[x] w fun e w'=>∃y,e= .returned y∧Below w.heap.size w w'∧OwnD w' (fun k=>w.heap.size≤k∧k<w'.heap.size) y (emsD l):=by
  refine(toX_any x l w hl h.isX).mono ?_
  rintro e w' ⟨rfl,hb,hr⟩
  exact⟨_,rfl,hb,hr⟩
theorem zge {F:Nat→Prop} {x:Value} {l:List Em} {w:World} (z:Int) (hn:l.length≤1048577) (hz0:0≤z) (hz1:z≤1073741824) (h:OwnD w F x (emsD l)):
    Calls Tryz.prog 63 #[x,.int .i64 z] w fun e w'=>e= .returned (.int .i64 (z+((emsD l).cnt:Int)))∧OwnD w' F x ((emsD l).mark z)∧Turns F w w':=by
  refine(markXF z hn hz0 hz1 (OwnD.rowF (c:=3) h (yxd l))).mono ?_
  rintro e w' ⟨rfl,hr,ht⟩
  refine⟨ywz ?_,zcj hr.own (zd5 l),ht⟩
  rw [ems_cnt]
  omega
theorem zkm {F:Nat→Prop} {x:Value} {l:List Em} {w:World} (z:Int) (hn:l.length≤1048577) (hz0:0≤z) (hz1:z≤1073741824) (h:OwnD w F x ((emsD l).mark z)):
    Calls Tryz.prog 69 #[x,.int .i64 z] w fun e w'=>e= .returned (.int .i64 (z+((emsD l).cnt:Int)))∧Below w.heap.size w w':=by
  refine(heldXF (F:=F) z hn hz0 hz1 (OwnD.rowF (c:=3) (zb4 h (zd5 l)) (yzp _ _))).mono ?_
  rintro e w' ⟨rfl,rfl⟩
  refine⟨ywz ?_,Below.refl _ _⟩
  rw [ems_cnt]
  omega
theorem zh9 (x:Value) (s:St) (left:Int) (w:World) (h0:0≤left) (h1:left≤1048576) (h:IsS w x s):
    Calls Tryz.prog 171 #[x,.int .i64 left] w fun e w'=>(∃r,e= .returned (.int .i64 r)∧SzR (ywr s.r).wt left r)∧Below w.heap.size w w':=by
  obtain⟨vr,rfl,hv⟩:=h
  obtain⟨l,q,d⟩:=s
  have HI:Hid (IsI w vr l):=hv
  clear hv
  obtain⟨W0,hW0⟩:∃W0,w.alloc (.cells #[vr,.int .i64 q,.int .i64 d] 143)=W0:=⟨_,rfl⟩
  have HB0:=hdq (beA hW0)
  have HP0:=bkA hW0
  have p0:=HP0.cell (i:=0) rfl
  clear HP0
  go_enter Tryz.func171,Tryz.ntmps171
  go_wp2_with fail
  clear p0 hW0
  refine(zio _ l _ _ h0 h1 (HI.out.below HB0.out).isD).mono ?_
  rintro e w1 ⟨⟨r,rfl,hr⟩,hb⟩
  have HB1:=trh HB0 hb
  clear hb
  rcases hr with rfl|⟨r0,hr⟩
  · go_wp2
    go_ret
    exact⟨⟨_,rfl,.inl rfl⟩,HB1.out⟩
  · have r2:¬(r<0):=by omega
    have HR:=zgg hr
    clear hr
    go_wp2
    go_ret
    exact⟨⟨_,rfl,.inr ⟨r0,HR.out⟩⟩,HB1.out⟩
end Go.Proofs.YtghndljgadpijaaGreat

