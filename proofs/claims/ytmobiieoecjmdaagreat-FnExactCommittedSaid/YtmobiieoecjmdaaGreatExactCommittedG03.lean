/- Eqs, MBox, MModel, MLaw, EEm, Find, OwnE, Quiet, SSt -/
import Derived.Test.YtmobiieoecjmdaaGreatExactCommittedG01
import Derived.Deep.RegionHeld3
import Derived.Test.YtmobiieoecjmdaaGreatExactCommittedG02
import Derived.Deep.RegionLaw
import Derived.Laws.OwnMore
import Derived.WalkSmall
import Derived.Laws.AppendOwnNone
import Derived.Deep.QuietTactic
import Derived.BigQuiet
/- eqEvent and eqEventS where both sides are the same. -/
namespace Go.Proofs.YtmobiieoecjmdaaGreat
open Go.RowKit
set_option maxHeartbeats 1000000 in
theorem eqEvent_same (t s q d k v g:Int) (w:World):
  Calls Tryz.prog 126 #[.agg #[.int .i64 t,.int .i64 s,.int .i64 q,.int .i64 d,.int .i64 k,.int .i64 v,.int .i64 g],.agg #[.int .i64 t,.int .i64 s,.int .i64 q,.int .i64 d,.int .i64 k,.int .i64 v,.int .i64 g]] w fun e w'=>e= .returned (.bool true)∧Below w.heap.size w w':=by
 go_enter Tryz.func126,Tryz.ntmps126
 go_wp2
 go_ret
 exact⟨rfl,((Below.refl _ _).alloc (Nat.le_refl _) _).alloc (by simp) _⟩
set_option maxHeartbeats 1000000 in
theorem eqS_same (x y:Value) (l:List Ev) (w:World) (hl:l.length≤1048576) (hx:IsEvs w x l) (hy:IsEvs w y l):
  Calls Tryz.prog 68 #[x,y] w fun e w'=>e= .returned (.bool true)∧Below w.heap.size w w':=by
 obtain⟨a,cap,rfl,h1,h2,h⟩:=hx
 obtain⟨a',cap',rfl,h1',h2',h'⟩:=hy
 clear h1 h2 h1' h2'
 by_cases hz:l= []
 ·subst hz
  clear h h'
  go_enter Tryz.func68,Tryz.ntmps68
  go_wp2
  go_loop [5] (fun i=>i= .int .i64 0) (fun _=>0)
  case atStart=>rfl
  case round=>
   subst hrel
   go_wp2
   go_ret
   exact⟨rfl,Below.refl _ _⟩
 ·obtain⟨b,off,rfl,hb,hc⟩:=h.resolve_left hz
  obtain⟨b',off',rfl,hb',hc'⟩:=h'.resolve_left hz
  clear h h' hz
  go_enter Tryz.func68,Tryz.ntmps68
  go_wp2
  go_loopw [5] (fun i wr=>∃k:Nat,k≤l.length∧i= .int .i64 k∧Below w.heap.size w wr) (fun i _=>l.length-(intOf i).toNat)
  case atStart=>exact⟨0,Nat.zero_le _,rfl,Below.refl _ _⟩
  case round=>
   obtain⟨k,hk,rfl,hB⟩:=hrel
   have HB:Hid (Below w.heap.size w wr):=hB
   by_cases hlt:k<l.length
   ·obtain⟨f0,f1,f2,f3,f4,f5,f6⟩:=(hc k hlt).below hB hb
    obtain⟨e0,e1,e2,e3,e4,e5,e6⟩:=(hc' k hlt).below hB hb'
    have hbr:b<wr.heap.size:=Nat.lt_of_lt_of_le hb hB.size
    have hbr':b'<wr.heap.size:=Nat.lt_of_lt_of_le hb' hB.size
    clear hB hc hc'
    go_wp2_with fail
    go_region_held3 (fun W=>W.cell? ⟨b,off+k*7,none⟩=some (.int .i64 (evAt l k).t)∧W.cell? ⟨b,off+k*7+1,none⟩=some (.int .i64 (evAt l k).s)∧W.cell? ⟨b,off+k*7+2,none⟩=some (.int .i64 (evAt l k).q)∧W.cell? ⟨b,off+k*7+3,none⟩=some (.int .i64 (evAt l k).d)∧W.cell? ⟨b,off+k*7+4,none⟩=some (.int .i64 (evAt l k).k)∧W.cell? ⟨b,off+k*7+5,none⟩=some (.int .i64 (evAt l k).v)∧W.cell? ⟨b,off+k*7+6,none⟩=some (.int .i64 (evAt l k).g)∧W.cell? ⟨b',off'+k*7,none⟩=some (.int .i64 (evAt l k).t)∧W.cell? ⟨b',off'+k*7+1,none⟩=some (.int .i64 (evAt l k).s)∧W.cell? ⟨b',off'+k*7+2,none⟩=some (.int .i64 (evAt l k).q)∧W.cell? ⟨b',off'+k*7+3,none⟩=some (.int .i64 (evAt l k).d)∧W.cell? ⟨b',off'+k*7+4,none⟩=some (.int .i64 (evAt l k).k)∧W.cell? ⟨b',off'+k*7+5,none⟩=some (.int .i64 (evAt l k).v)∧W.cell? ⟨b',off'+k*7+6,none⟩=some (.int .i64 (evAt l k).g)) ((repeat' apply And.intro)<;>first|(go_keep;done)|(rw [hcA _ _ (by first|omega|(simp;omega)|simp [*])];simp [*];done))
     (first|(go_at_call 126;refine(eqEvent_same _ _ _ _ _ _ _ _).mono ?_;rintro e w2 ⟨rfl,hb2⟩;obtain⟨hcA,hfA⟩:=bcell hb2))
    clear hcA hfA
    go_wp2
    go_roundw
    case rel=>exact⟨k+1,by omega,by go_num,HB.out.drew.trans (hb2.mono (by have:=HB.out.size;simpa using this))⟩
    case measure=>simp [intOf];omega
   ·clear hB hc hc'
    go_wp2
    go_ret
    exact⟨rfl,HB.out⟩
def Bk (w:World) (P:Nat) (T:TypeId) (vs:Array Value):Prop:=w.heap[P]? =some (.cells vs T)
theorem Bk.lt {w:World} {P:Nat} {T:TypeId} {vs:Array Value} (h:Bk w P T vs):P<w.heap.size:=(Array.getElem?_eq_some_iff.1 h).1
theorem Bk.cell {w:World} {P:Nat} {T:TypeId} {vs:Array Value} (h:Bk w P T vs) {i:Nat} {v:Value} (hv:vs[i]? =some v):w.cell? ⟨P,i,none⟩=some v:=by
 have h':w.heap[P]? =some (.cells vs T):=h
 unfold World.cell?
 simp [h',hv]
theorem Bk.free {w:World} {P:Nat} {T:TypeId} {vs:Array Value} (h:Bk w P T vs) (o:Nat):w.frozen? ⟨P,o,none⟩=false:=by
 have h':w.heap[P]? =some (.cells vs T):=h
 unfold World.frozen?
 simp [h']
theorem Bk.keep {w w':World} {B P:Nat} {T:TypeId} {vs:Array Value} (h:Bk w P T vs) (hb:Below B w w') (hB:P<B):Bk w' P T vs:=(hb.block P hB).trans h
theorem Bk.below {w w':World} {P:Nat} {T:TypeId} {vs:Array Value} (h:Bk w P T vs) (hb:Below w.heap.size w w'):Bk w' P T vs:=h.keep hb h.lt
theorem Bk.turns {S:Nat→Prop} {w w':World} {P:Nat} {T:TypeId} {vs:Array Value} (h:Bk w P T vs) (ht:Turns S w w') (hS:¬S P):Bk w' P T vs:=(ht.block P h.lt hS).trans h
theorem Bk.drew {w:World} {P:Nat} {T:TypeId} {vs:Array Value} (h:Bk w P T vs):Bk w.drew P T vs:=h
theorem Bk.new (w:World) (T:TypeId) (vs:Array Value):Bk (w.alloc (.cells vs T)) w.heap.size T vs:=by
 show(w.heap.push _)[w.heap.size]? =_
 simp
theorem Bk.newAt {w:World} {P:Nat} (hP:P=w.heap.size) (T:TypeId) (vs:Array Value):Bk (w.alloc (.cells vs T)) P T vs:=hP▸Bk.new w T vs
theorem Bk.alloc {w:World} {P:Nat} {T:TypeId} {vs:Array Value} (h:Bk w P T vs) (o:Obj):Bk (w.alloc o) P T vs:=h.keep ((Below.refl w.heap.size w).alloc (Nat.le_refl _) o) h.lt
theorem Bk.put {w:World} {P:Nat} {T:TypeId} {vs:Array Value} (h:Bk w P T vs) (i:Nat) (v:Value):Bk (w.setCell ⟨P,i,none⟩ v) P T (vs.setIfInBounds i v):=by
 have h':w.heap[P]? =some (.cells vs T):=h
 obtain⟨hl,hv⟩:=Array.getElem?_eq_some_iff.1 h'
 unfold Bk
 simp [World.setCell,hl,Array.getElem_modify,hv]
theorem Bk.other {w:World} {P b:Nat} {T:TypeId} {vs:Array Value} (h:Bk w P T vs) (i:Nat) (v:Value) (hb:P≠b):Bk (w.setCell ⟨b,i,none⟩ v) P T vs:=
 (Below.heap_setCell _ _ _ _ hb).trans h
theorem put1_turns (w:World) (g o:Nat) (u:Value):Turns (fun b=>b=g) w (w.setCell ⟨g,o,none⟩ u):=(Turns.refl (fun b=>b=g) w).setCell (p:=⟨g,o,none⟩) rfl _
abbrev put6 (w:World) (R:Nat) (v0 v1 v2 v3 v4 v5:Value):World:=
 (((((w.setCell ⟨R,0,none⟩ v0).setCell ⟨R,1,none⟩ v1).setCell ⟨R,2,none⟩ v2).setCell ⟨R,3,none⟩ v3).setCell ⟨R,4,none⟩ v4).setCell ⟨R,5,none⟩ v5
theorem Bk.put6 {w:World} {R:Nat} {T:TypeId} {a0 a1 a2 a3 a4 a5:Value} (h:Bk w R T #[a0,a1,a2,a3,a4,a5]) (v0 v1 v2 v3 v4 v5:Value):Bk (put6 w R v0 v1 v2 v3 v4 v5) R T #[v0,v1,v2,v3,v4,v5]:=
 (((((h.put 0 v0).put 1 v1).put 2 v2).put 3 v3).put 4 v4).put 5 v5
theorem put6_turns (w:World) (R:Nat) (v0 v1 v2 v3 v4 v5:Value):Turns (fun b=>b=R) w (put6 w R v0 v1 v2 v3 v4 v5):=
 (((((put1_turns w R 0 v0).trans (put1_turns _ R 1 v1)).trans (put1_turns _ R 2 v2)).trans (put1_turns _ R 3 v3)).trans (put1_turns _ R 4 v4)).trans (put1_turns _ R 5 v5)
structure SmallM (m:Md):Prop where
 i:m.i.length≤1048576
 h:m.h.length≤1048576
 r:∀i,(hAt m.h i).length≤1048576
 t:sumL (lens m.h) m.h.length≤1048576
 e:m.e.length≤1048576
theorem RowI.rowF {w:World} {g:Nat} {l:List Int} (h:RowI w g l) (hl:l.length≤maxLen):RowF (fun k=>k=g) w (sl g l.length) l.length 1 (intCells l):=by
 refine⟨by simp [intCells],_,_,rfl,Nat.le_refl _,hl,.inr ⟨g,rfl,rfl,h.1,fun j hj=>⟨?_,(h.2 j (by omega)).2⟩⟩⟩
 have hj':j<l.length:=by omega
 rw [(h.2 j hj').1]
 simp [intCells,intAt,hj']
theorem RowTo.rowF {w:World} {g:Nat} {l:List Ev} (h:RowTo w g l.length l l.length) (hl:l.length≤maxLen):RowF (fun k=>k=g) w (sl g l.length) l.length 7 (cellsL l):=by
 refine⟨cellsL_length l,_,_,rfl,Nat.le_refl _,hl,.inr ⟨g,rfl,rfl,h.1,fun j hj=>⟨?_,(h.2.1 j hj).2⟩⟩⟩
 have hi:j/7<l.length:=by omega
 have e:=cellsL_get l _ (j%7) hi (by omega)
 rw [show j/7*7+j%7=j from by omega]at e
 have hlt:j<(cellsL l).length:=by rw [cellsL_length];exact hj
 rw [List.getElem?_eq_getElem hlt]at e⊢
 have:=(h.2.2 _ hi).get e.symm
 rw [show j/7*7+j%7=j from by omega]at this
 exact this
set_option maxHeartbeats 2000000 in
theorem toModel_any (x:Value) (m:Md) (w:World) (hs:SmallM m) (h:IsM w x m):
  Calls Tryz.prog 42 #[x] w fun e w'=>∃y,e= .returned y∧Below w.heap.size w w'∧MdF (fun k=>w.heap.size≤k∧k<w'.heap.size) w' y m:=by
 obtain⟨vi,vh,vs,rfl,h1,h2,h3⟩:=h
 obtain⟨n,s,i,hh,ev,z⟩:=m
 have HI:Hid (IsI w vi i):=h1
 have HH:Hid (IsH w vh hh):=h2
 have HE:Hid (IsEvs w vs ev):=h3
 have HS:Hid (SmallM ⟨n,s,i,hh,ev,z⟩):=hs
 clear h1 h2 h3 hs
 obtain⟨W0,hW0⟩:∃W0,((w.alloc (.cells #[.int .i64 n,.int .i64 s,vi,vh,vs,.int .i64 z] 26)).alloc (.cells #[.int .i64 0,.int .i64 0,.slice none 0 0,.slice none 0 0,.slice none 0 0,.int .i64 0] 36)).alloc (.cells #[.int .i64 n,.int .i64 s,.slice none 0 0,.slice none 0 0,.slice none 0 0,.int .i64 0] 36)=W0:=⟨_,rfl⟩
 have HB0:Hid (Below w.heap.size w W0):=by rw [←hW0];exact(((Below.refl _ w).alloc (Nat.le_refl _) _).alloc (by simp) _).alloc (by simp;omega) _
 have HP0:Hid (Bk W0 w.heap.size 26 #[.int .i64 n,.int .i64 s,vi,vh,vs,.int .i64 z]):=by rw [←hW0];exact((Bk.new w _ _).alloc _).alloc _
 have HR0:Hid (Bk W0 (w.heap.size+1) 36 #[.int .i64 0,.int .i64 0,.slice none 0 0,.slice none 0 0,.slice none 0 0,.int .i64 0]):=by rw [←hW0];exact(Bk.newAt (by simp) _ _).alloc _
 have HQ0:Hid (Bk W0 (w.heap.size+1+1) 36 #[.int .i64 n,.int .i64 s,.slice none 0 0,.slice none 0 0,.slice none 0 0,.int .i64 0]):=by rw [←hW0];exact Bk.newAt (by simp) _ _
 have HW0:Hid (((w.alloc (.cells #[.int .i64 n,.int .i64 s,vi,vh,vs,.int .i64 z] 26)).alloc (.cells #[.int .i64 0,.int .i64 0,.slice none 0 0,.slice none 0 0,.slice none 0 0,.int .i64 0] 36)).alloc (.cells #[.int .i64 n,.int .i64 s,.slice none 0 0,.slice none 0 0,.slice none 0 0,.int .i64 0] 36)=W0):=hW0
 clear hW0
 go_enter Tryz.func42,Tryz.ntmps42
 go_wp2_with fail
 rw [HW0.out]
 clear HW0
 refine(toI_any _ i _ HS.out.i (HI.out.below HB0.out)).mono ?_
 rintro e w1 ⟨rfl,hb,hr⟩
 have HI1:Hid (RowI w1 W0.heap.size i):=hr
 have hz1:W0.heap.size<w1.heap.size:=hr.1
 have hq:=HQ0.out.lt
 have HX1:Hid (Below w.heap.size w w1):=HB0.out.trans (hb.mono (by omega))
 have HPa:=HP0.out.below hb
 have HRa:=HR0.out.below hb
 have HQa:=HQ0.out.below hb
 clear hb hr HB0 HP0 HR0 HQ0
 obtain⟨X1,hX1⟩:∃X1,w1.setCell ⟨w.heap.size+1+1,2,none⟩ (sl W0.heap.size i.length)=X1:=⟨_,rfl⟩
 have q2:=HQa.cell (i:=2) rfl
 have qf:=HQa.free 2
 have HP1:Hid (Bk X1 w.heap.size 26 #[.int .i64 n,.int .i64 s,vi,vh,vs,.int .i64 z]):=hX1▸HPa.other 2 _ (by omega)
 have HR1:Hid (Bk X1 (w.heap.size+1) 36 #[.int .i64 0,.int .i64 0,.slice none 0 0,.slice none 0 0,.slice none 0 0,.int .i64 0]):=hX1▸HRa.other 2 _ (by omega)
 have HQ1:Hid (Bk X1 (w.heap.size+1+1) 36 #[.int .i64 n,.int .i64 s,sl W0.heap.size i.length,.slice none 0 0,.slice none 0 0,.int .i64 0]):=hX1▸HQa.put 2 _
 have p3:=HP1.out.cell (i:=3) rfl
 have HI1:Hid (RowF (fun k=>k=W0.heap.size) X1 (sl W0.heap.size i.length) i.length 1 (intCells i)):=hX1▸(HI1.out.rowF (by have:i.length≤1048576:=HS.out.i;unfold maxLen;omega)).turns (one_add w1 (w.heap.size+1+1) 2 _) (fun k e=>by omega)
 have HX1:Hid (Below w.heap.size w X1):=hX1▸HX1.out.setCell (p:=⟨w.heap.size+1+1,2,none⟩) (by show w.heap.size≤w.heap.size+1+1;omega) _
 have hy1:W0.heap.size<X1.heap.size:=by rw [←hX1];simpa using hz1
 clear HPa HRa HQa
 go_wp2_with fail
 clear p3 q2 qf hX1 hz1
 refine(toOpSS_any _ hh _ HS.out.h HS.out.r (HH.out.below HX1.out)).mono ?_
 rintro e w2 ⟨rfl,hb,hr⟩
 have HH2:Hid (HsF (fun k=>X1.heap.size≤k∧k<w2.heap.size) w2 (sl X1.heap.size hh.length) hh):=hr.rows (by have:hh.length≤1048576:=HS.out.h;unfold maxLen;omega) (fun i=>by have:(hAt hh i).length≤1048576:=HS.out.r i;unfold maxLen;omega)
 have hz2:X1.heap.size<w2.heap.size:=hr.1
 have HX2:Hid (Below w.heap.size w w2):=HX1.out.trans (hb.mono (by omega))
 have HI2:Hid (RowF (fun k=>k=W0.heap.size) w2 (sl W0.heap.size i.length) i.length 1 (intCells i)):=HI1.out.below hb
 have HP2:=HP1.out.below hb
 have HR2:=HR1.out.below hb
 have HQ2:=HQ1.out.below hb
 clear hb hr HX1 HI1 HP1 HR1 HQ1
 obtain⟨X2,hX2⟩:∃X2,w2.setCell ⟨w.heap.size+1+1,3,none⟩ (sl X1.heap.size hh.length)=X2:=⟨_,rfl⟩
 have q3:=HQ2.cell (i:=3) rfl
 have qf:=HQ2.free 3
 have HP3:Hid (Bk X2 w.heap.size 26 #[.int .i64 n,.int .i64 s,vi,vh,vs,.int .i64 z]):=hX2▸HP2.other 3 _ (by omega)
 have HR3:Hid (Bk X2 (w.heap.size+1) 36 #[.int .i64 0,.int .i64 0,.slice none 0 0,.slice none 0 0,.slice none 0 0,.int .i64 0]):=hX2▸HR2.other 3 _ (by omega)
 have HQ3:Hid (Bk X2 (w.heap.size+1+1) 36 #[.int .i64 n,.int .i64 s,sl W0.heap.size i.length,sl X1.heap.size hh.length,.slice none 0 0,.int .i64 0]):=hX2▸HQ2.put 3 _
 have p4:=HP3.out.cell (i:=4) rfl
 have ht2:=one_add w2 (w.heap.size+1+1) 3 (sl X1.heap.size hh.length)
 rw [hX2]at ht2
 have HI3:Hid (RowF (fun k=>k=W0.heap.size) X2 (sl W0.heap.size i.length) i.length 1 (intCells i)):=HI2.out.turns ht2 (fun k e=>by omega)
 obtain⟨U,hU⟩:=HH2.out
 have HH3:Hid (HsF (fun k=>X1.heap.size≤k∧k<w2.heap.size) X2 (sl X1.heap.size hh.length) hh):=⟨U,hU.turns ht2 (fun k e=>by omega)⟩
 have HX3:Hid (Below w.heap.size w X2):=hX2▸HX2.out.setCell (p:=⟨w.heap.size+1+1,3,none⟩) (by show w.heap.size≤w.heap.size+1+1;omega) _
 have hy2:w2.heap.size≤X2.heap.size:=ht2.size
 clear hU HP2 HR2 HQ2 ht2 HI2 HH2 HX2
 go_wp2_with fail
 clear p4 q3 qf hX2
 refine(toEventS_any _ ev _ HS.out.e (HE.out.below HX3.out)).mono ?_
 rintro e w3 ⟨rfl,hb,hr⟩
 have HE4:Hid (RowF (fun k=>k=X2.heap.size) w3 (sl X2.heap.size ev.length) ev.length 7 (cellsL ev)):=hr.rowF (by have:ev.length≤1048576:=HS.out.e;unfold maxLen;omega)
 have hz3:X2.heap.size<w3.heap.size:=hr.1
 have HX4:Hid (Below w.heap.size w w3):=HX3.out.trans (hb.mono (by omega))
 have HI4:Hid (RowF (fun k=>k=W0.heap.size) w3 (sl W0.heap.size i.length) i.length 1 (intCells i)):=HI3.out.below hb
 obtain⟨U,hU⟩:=HH3.out
 have HH4:Hid (HsF (fun k=>X1.heap.size≤k∧k<w2.heap.size) w3 (sl X1.heap.size hh.length) hh):=⟨U,hU.below hb⟩
 have HP4:=HP3.out.below hb
 have HR4:=HR3.out.below hb
 have HQ4:=HQ3.out.below hb
 clear hb hr HX3 HI3 HH3 HP3 HR3 HQ3 hU
 obtain⟨X3,hX3⟩:∃X3,w3.setCell ⟨w.heap.size+1+1,4,none⟩ (sl X2.heap.size ev.length)=X3:=⟨_,rfl⟩
 obtain⟨X4,hX4⟩:∃X4,X3.setCell ⟨w.heap.size+1+1,5,none⟩ (.int .i64 z)=X4:=⟨_,rfl⟩
 have q4:=HQ4.cell (i:=4) rfl
 have qf:=HQ4.free 4
 have HP5:Bk X3 w.heap.size 26 #[.int .i64 n,.int .i64 s,vi,vh,vs,.int .i64 z]:=hX3▸HP4.other 4 _ (by omega)
 have p5:=HP5.cell (i:=5) rfl
 have HQ5:Bk X3 (w.heap.size+1+1) 36 #[.int .i64 n,.int .i64 s,sl W0.heap.size i.length,sl X1.heap.size hh.length,sl X2.heap.size ev.length,.int .i64 0]:=hX3▸HQ4.put 4 _
 have q5:=HQ5.cell (i:=5) rfl
 have qf5:=HQ5.free 5
 have HQ6:Bk X4 (w.heap.size+1+1) 36 #[.int .i64 n,.int .i64 s,sl W0.heap.size i.length,sl X1.heap.size hh.length,sl X2.heap.size ev.length,.int .i64 z]:=hX4▸HQ5.put 5 _
 have HR5:Bk X3 (w.heap.size+1) 36 #[.int .i64 0,.int .i64 0,.slice none 0 0,.slice none 0 0,.slice none 0 0,.int .i64 0]:=hX3▸HR4.other 4 _ (by omega)
 have HR6:Bk X4 (w.heap.size+1) 36 #[.int .i64 0,.int .i64 0,.slice none 0 0,.slice none 0 0,.slice none 0 0,.int .i64 0]:=hX4▸HR5.other 5 _ (by omega)
 have o0:=HQ6.cell (i:=0) rfl
 have o1:=HQ6.cell (i:=1) rfl
 have o2:=HQ6.cell (i:=2) rfl
 have o3:=HQ6.cell (i:=3) rfl
 have o4:=HQ6.cell (i:=4) rfl
 have o5:=HQ6.cell (i:=5) rfl
 have r0:=HR6.cell (i:=0) rfl
 have r1:=HR6.cell (i:=1) rfl
 have r2:=HR6.cell (i:=2) rfl
 have r3:=HR6.cell (i:=3) rfl
 have r4:=HR6.cell (i:=4) rfl
 have r5:=HR6.cell (i:=5) rfl
 have rf:=HR6.free
 have HR7:Hid (Bk X4 (w.heap.size+1) 36 #[.int .i64 0,.int .i64 0,.slice none 0 0,.slice none 0 0,.slice none 0 0,.int .i64 0]):=HR6
 have ht3:=(one_add w3 (w.heap.size+1+1) 4 (sl X2.heap.size ev.length))
 rw [hX3]at ht3
 have ht4:=one_add X3 (w.heap.size+1+1) 5 (.int .i64 z)
 rw [hX4]at ht4
 have HT:Hid (Turns (fun k=>k=w.heap.size+1+1) w3 X4):=ht3.trans ht4
 clear HP4 HQ4 HP5 HQ5 HQ6 HR4 HR5 HR6 ht3 ht4
 go_wp2
 clear o0 o1 o2 o3 o4 o5 r0 r1 r2 r3 r4 r5 rf
 obtain⟨X5,hX5⟩:∃X5,put6 X4 (w.heap.size+1) (.int .i64 n) (.int .i64 s) (.slice (some ⟨W0.heap.size,0,none⟩) i.length i.length) (.slice (some ⟨X1.heap.size,0,none⟩) hh.length hh.length) (.slice (some ⟨X2.heap.size,0,none⟩) ev.length ev.length) (.int .i64 z)=X5:=⟨_,rfl⟩
 have hR:=HR7.out.put6 (.int .i64 n) (.int .i64 s) (.slice (some ⟨W0.heap.size,0,none⟩) i.length i.length) (.slice (some ⟨X1.heap.size,0,none⟩) hh.length hh.length) (.slice (some ⟨X2.heap.size,0,none⟩) ev.length ev.length) (.int .i64 z)
 have ht:=put6_turns X4 (w.heap.size+1) (.int .i64 n) (.int .i64 s) (.slice (some ⟨W0.heap.size,0,none⟩) i.length i.length) (.slice (some ⟨X1.heap.size,0,none⟩) hh.length hh.length) (.slice (some ⟨X2.heap.size,0,none⟩) ev.length ev.length) (.int .i64 z)
 rw [hX5]at hR ht
 unfold put6 at hX5
 rw [hX5]
 have t0:=hR.cell (i:=0) rfl
 have t1:=hR.cell (i:=1) rfl
 have t2:=hR.cell (i:=2) rfl
 have t3:=hR.cell (i:=3) rfl
 have t4:=hR.cell (i:=4) rfl
 have t5:=hR.cell (i:=5) rfl
 have hT:Turns (fun k=>k=w.heap.size+1+1∨k=w.heap.size+1) w3 X5:=(HT.out.mono (fun k e=> .inl e)).trans (ht.mono (fun k e=> .inr e))
 have hsz:=hT.size
 obtain⟨U,hU⟩:=HH4.out
 refine bodyPost_ret (v:= .agg #[.int .i64 n,.int .i64 s,sl W0.heap.size i.length,sl X1.heap.size hh.length,sl X2.heap.size ev.length,.int .i64 z]) (by simp [results,Tryz.results42,go_sem,t0,t1,t2,t3,t4,t5]) rfl
  ⟨_,rfl,HX4.out.trans (hT.to_below (fun k e=>by omega) (by omega)),(fun k=>k=W0.heap.size),(fun k=>X1.heap.size≤k∧k<w2.heap.size),(fun k=>k=X2.heap.size),_,_,_,rfl,?_,⟨U,?_⟩,?_,fun k e=> ?_,fun k e=> ?_,fun k e=> ?_⟩
 ·exact HI4.out.turns hT (fun k e=>by omega)
 ·exact hU.turns hT (fun k e=>by omega)
 ·exact HE4.out.turns hT (fun k e=>by omega)
 ·exact⟨by omega,by omega,by omega⟩
 ·exact⟨by omega,by omega⟩
 ·exact by omega
theorem MdF.form {F:Nat→Prop} {w:World} {y:Value} {m:Md} (h:MdF F w y m):∃ai ci ah ch ae ce,y= .agg #[.int .i64 m.n,.int .i64 m.s,.slice ai m.i.length ci,.slice ah m.h.length ch,.slice ae m.e.length ce,.int .i64 m.z]:=by
 obtain⟨A,B,C,vi,vh,vs,rfl,⟨_,a1,c1,rfl,_⟩,⟨U,F0,G,⟨_,a2,c2,rfl,_⟩,_⟩,⟨_,a3,c3,rfl,_⟩,_⟩:=h
 exact⟨a1,c1,a2,c2,a3,c3,rfl⟩
set_option maxHeartbeats 2000000 in
theorem eqModel_same (x y:Value) (m:Md) (w:World) (hs:SmallM m) (hx:IsM w x m) (hy:IsM w y m):
  Calls Tryz.prog 48 #[x,y] w fun e w'=>e= .returned (.bool true)∧Below w.heap.size w w':=by
 obtain⟨vi,vh,vs,rfl,h1,h2,h3⟩:=hx
 obtain⟨ui,uh,us,rfl,k1,k2,k3⟩:=hy
 obtain⟨n,s,i,hh,ev,z⟩:=m
 have HI:Hid (IsI w vi i∧IsI w ui i):=⟨h1,k1⟩
 have HH:Hid (IsH w vh hh∧IsH w uh hh):=⟨h2,k2⟩
 have HE:Hid (IsEvs w vs ev∧IsEvs w us ev):=⟨h3,k3⟩
 have HS:Hid (SmallM ⟨n,s,i,hh,ev,z⟩):=hs
 clear h1 h2 h3 k1 k2 k3 hs
 obtain⟨W0,hW0⟩:∃W0,(w.alloc (.cells #[.int .i64 n,.int .i64 s,vi,vh,vs,.int .i64 z] 36)).alloc (.cells #[.int .i64 n,.int .i64 s,ui,uh,us,.int .i64 z] 36)=W0:=⟨_,rfl⟩
 have HB0:Hid (Below w.heap.size w W0):=by rw [←hW0];exact((Below.refl _ w).alloc (Nat.le_refl _) _).alloc (by simp) _
 have HP0:Hid (Bk W0 w.heap.size 36 #[.int .i64 n,.int .i64 s,vi,vh,vs,.int .i64 z]):=by rw [←hW0];exact(Bk.new w _ _).alloc _
 have HQ0:Hid (Bk W0 (w.heap.size+1) 36 #[.int .i64 n,.int .i64 s,ui,uh,us,.int .i64 z]):=by rw [←hW0];exact Bk.newAt (by simp) _ _
 have p0:=HP0.out.cell (i:=0) rfl
 have p1:=HP0.out.cell (i:=1) rfl
 have p2:=HP0.out.cell (i:=2) rfl
 have q0:=HQ0.out.cell (i:=0) rfl
 have q1:=HQ0.out.cell (i:=1) rfl
 have q2:=HQ0.out.cell (i:=2) rfl
 go_enter Tryz.func48,Tryz.ntmps48
 go_wp2_with fail
 clear p0 p1 p2 q0 q1 q2 hW0
 refine(eqI_same _ _ i _ (by have:i.length≤1048576:=HS.out.i;omega) (HI.out.1.below HB0.out) (HI.out.2.below HB0.out)).mono ?_
 rintro e w1 ⟨rfl,hb⟩
 have HB1:Hid (Below w.heap.size w w1):=HB0.out.trans (hb.mono HB0.out.size)
 have HP1:Hid (Bk w1 w.heap.size 36 #[.int .i64 n,.int .i64 s,vi,vh,vs,.int .i64 z]):=HP0.out.below hb
 have HQ1:Hid (Bk w1 (w.heap.size+1) 36 #[.int .i64 n,.int .i64 s,ui,uh,us,.int .i64 z]):=HQ0.out.below hb
 have p3:=HP1.out.cell (i:=3) rfl
 have q3:=HQ1.out.cell (i:=3) rfl
 clear hb HB0 HP0 HQ0
 go_wp2_with fail
 clear p3 q3
 refine(eqH_same _ _ hh _ HS.out.h HS.out.r (HH.out.1.below HB1.out) (HH.out.2.below HB1.out)).mono ?_
 rintro e w2 ⟨rfl,hb⟩
 have HB2:Hid (Below w.heap.size w w2):=HB1.out.trans (hb.mono HB1.out.size)
 have HP2:Hid (Bk w2 w.heap.size 36 #[.int .i64 n,.int .i64 s,vi,vh,vs,.int .i64 z]):=HP1.out.below hb
 have HQ2:Hid (Bk w2 (w.heap.size+1) 36 #[.int .i64 n,.int .i64 s,ui,uh,us,.int .i64 z]):=HQ1.out.below hb
 have p4:=HP2.out.cell (i:=4) rfl
 have q4:=HQ2.out.cell (i:=4) rfl
 clear hb HB1 HP1 HQ1
 go_wp2_with fail
 clear p4 q4
 refine(eqS_same _ _ ev _ HS.out.e (HE.out.1.below HB2.out) (HE.out.2.below HB2.out)).mono ?_
 rintro e w3 ⟨rfl,hb⟩
 have HB3:Hid (Below w.heap.size w w3):=HB2.out.trans (hb.mono HB2.out.size)
 have p5:=(HP2.out.below hb).cell (i:=5) rfl
 have q5:=(HQ2.out.below hb).cell (i:=5) rfl
 clear hb HB2 HP2 HQ2
 go_wp2
 go_ret
 exact⟨rfl,HB3.out⟩
def HeldM (F:Nat→Prop) (w:World) (x:Value) (m:Md):Prop:=
 ∃(A B C:Nat→Prop) (vi vh vs:Value) (U:Nat→Value),x= .agg #[.int .i64 m.n,.int .i64 m.s,vi,vh,vs,.int .i64 m.z]∧RowF A w vi m.i.length 1 (mkCells 1 (m.i.length*1))∧
  RowsF B w vh m.h.length U (lens m.h) (mkRows (1+(m.i.length:Int)) (lens m.h))∧RowF C w vs m.e.length 7 (mkCells (1+(m.i.length:Int)+4*(sumL (lens m.h) m.h.length:Int)) (m.e.length*7))∧
  (∀k,A k→F k∧ ¬B k∧ ¬C k)∧(∀k,B k→F k∧ ¬C k)∧ ∀k,C k→F k
def markNo (m:Md):Int:=1+(m.i.length:Int)+4*(sumL (lens m.h) m.h.length:Int)+7*(m.e.length:Int)
theorem markNo_pos (m:Md):1≤markNo m:=by unfold markNo;omega
set_option maxHeartbeats 2000000 in
theorem markModel_any {F:Nat→Prop} {x:Value} {m:Md} {w:World} (hs:SmallM m) (h:MdF F w x m) (hF:∀k,F k→k<w.heap.size):
  Calls Tryz.prog 50 #[x,.int .i64 1] w fun e w'=>e= .returned (.int .i64 (markNo m))∧HeldM F w' x m∧Turns F w w':=by
 obtain⟨A,B,C,vi,vh,vs,rfl,h1,⟨U,h2⟩,h3,h4,h5,h6⟩:=h
 obtain⟨n,s,i,hh,ev,z⟩:=m
 have HI:Hid (RowF A w vi i.length 1 (intCells i)):=h1
 have HH:Hid (RowsF B w vh hh.length U (lens hh) (fun i=>cellsO (hAt hh i))):=h2
 have HE:Hid (RowF C w vs ev.length 7 (cellsL ev)):=h3
 have HS:Hid (SmallM ⟨n,s,i,hh,ev,z⟩):=hs
 have HF:Hid ((∀k,F k→k<w.heap.size)∧(∀k,A k→F k∧ ¬B k∧ ¬C k)∧(∀k,B k→F k∧ ¬C k)∧ ∀k,C k→F k):=⟨hF,h4,h5,h6⟩
 clear h1 h2 h3 h4 h5 h6 hs hF
 obtain⟨W0,hW0⟩:∃W0,w.alloc (.cells #[.int .i64 n,.int .i64 s,vi,vh,vs,.int .i64 z] 36)=W0:=⟨_,rfl⟩
 have HB0:Hid (Below w.heap.size w W0):=by rw [←hW0];exact(Below.refl _ w).alloc (Nat.le_refl _) _
 have HP0:Hid (Bk W0 w.heap.size 36 #[.int .i64 n,.int .i64 s,vi,vh,vs,.int .i64 z]):=by rw [←hW0];exact Bk.new w _ _
 have p2:=HP0.out.cell (i:=2) rfl
 have hi:i.length≤1048576:=HS.out.i
 have hh1:sumL (lens hh) hh.length≤1048576:=HS.out.t
 have hh2:hh.length≤1048576:=HS.out.h
 have he:ev.length≤1048576:=HS.out.e
 go_enter Tryz.func50,Tryz.ntmps50
 go_wp2_with fail
 clear p2 hW0
 refine(markIF (F:=A) 1 (by omega) (by omega) (by omega) (HI.out.below HB0.out)).mono ?_
 rintro e w1 ⟨rfl,hr,ht⟩
 have HT1:Hid (Turns F W0 w1):=ht.mono (fun k hk=>(HF.out.2.1 k hk).1)
 have HI1:Hid (RowF A w1 vi i.length 1 (mkCells 1 (i.length*1))):=hr
 have HH1:Hid (RowsF B w1 vh hh.length U (lens hh) (fun i=>cellsO (hAt hh i))):=(HH.out.below HB0.out).turns ht (fun k hk ha=>(HF.out.2.1 k ha).2.1 hk)
 have HE1:Hid (RowF C w1 vs ev.length 7 (cellsL ev)):=(HE.out.below HB0.out).turns ht (fun k hk ha=>(HF.out.2.1 k ha).2.2 hk)
 have HP1:Hid (Bk w1 w.heap.size 36 #[.int .i64 n,.int .i64 s,vi,vh,vs,.int .i64 z]):=HP0.out.turns HT1.out (fun hk=>by have:=HF.out.1 _ hk;omega)
 have p3:=HP1.out.cell (i:=3) rfl
 clear hr ht HI HH HE HP0
 go_wp2_with fail
 clear p3
 refine(markHF (F:=B) (1+(i.length:Int)) (by omega) (by omega) (by omega) (by omega) HH1.out).mono ?_
 rintro e w2 ⟨rfl,hr,ht⟩
 have HT2:Hid (Turns F W0 w2):=HT1.out.trans (ht.mono (fun k hk=>(HF.out.2.2.1 k hk).1))
 have HI2:Hid (RowF A w2 vi i.length 1 (mkCells 1 (i.length*1))):=HI1.out.turns ht (fun k hk hb=>(HF.out.2.1 k hk).2.1 hb)
 have HH2:Hid (RowsF B w2 vh hh.length U (lens hh) (mkRows (1+(i.length:Int)) (lens hh))):=hr
 have HE2:Hid (RowF C w2 vs ev.length 7 (cellsL ev)):=HE1.out.turns ht (fun k hk hb=>(HF.out.2.2.1 k hb).2 hk)
 have HP2:Hid (Bk w2 w.heap.size 36 #[.int .i64 n,.int .i64 s,vi,vh,vs,.int .i64 z]):=HP1.out.turns ht (fun hk=>by have:=HF.out.1 _ (HF.out.2.2.1 _ hk).1;omega)
 have p4:=HP2.out.cell (i:=4) rfl
 clear hr ht HI1 HH1 HE1 HP1 HT1
 go_wp2_with fail
 clear p4
 refine(markEF (F:=C) (1+(i.length:Int)+4*(sumL (lens hh) hh.length:Int)) (by omega) (by omega) (by omega) HE2.out).mono ?_
 rintro e w3 ⟨rfl,hr,ht⟩
 have HT3:Hid (Turns F W0 w3):=HT2.out.trans (ht.mono (fun k hk=>HF.out.2.2.2 k hk))
 have HI3:Hid (RowF A w3 vi i.length 1 (mkCells 1 (i.length*1))):=HI2.out.turns ht (fun k hk hc=>(HF.out.2.1 k hk).2.2 hc)
 have HH3:Hid (RowsF B w3 vh hh.length U (lens hh) (mkRows (1+(i.length:Int)) (lens hh))):=HH2.out.turns ht (fun k hk hc=>(HF.out.2.2.1 k hk).2 hc)
 have HE3:Hid (RowF C w3 vs ev.length 7 (mkCells (1+(i.length:Int)+4*(sumL (lens hh) hh.length:Int)) (ev.length*7))):=hr
 clear hr ht HI2 HH2 HE2 HP2 HT2
 go_wp2
 go_ret
 exact⟨rfl,⟨A,B,C,vi,vh,vs,U,rfl,HI3.out,HH3.out,HE3.out,HF.out.2⟩,(Turns.of_below HB0.out).trans HT3.out⟩
structure Em where
 t:Int
 l:Int
 v:Int
def xAt (l:List Em) (i:Nat):Em:=l.getD i ⟨0,0,0⟩
def Em.cs (e:Em):List Value:= [.int .i64 e.t,.int .i64 e.l,.int .i64 e.v]
def cellsX:List Em→List Value
 | []=> []
 |e::l=>e.cs++cellsX l
theorem cellsX_length:∀l:List Em,(cellsX l).length=l.length*3
 | []=>rfl
 |e::l=>by simp [cellsX,cellsX_length l,Em.cs];omega
theorem cellsX_append:∀l l':List Em,cellsX (l++l')=cellsX l++cellsX l'
 | [],_=>rfl
 |e::l,l'=>by simp [cellsX,cellsX_append l l']
theorem xAt_cons_succ (e:Em) (l:List Em) (i:Nat):xAt (e::l) (i+1)=xAt l i:=by simp [xAt]
theorem cellsX_get:∀(l:List Em) (i r:Nat),i<l.length→r<3→(cellsX l)[i*3+r]? =(xAt l i).cs[r]?
 | [],_,_,h,_=>by simp at h
 |e::l,0,r,_,hr=>by
  have:r<e.cs.length:=by simpa [Em.cs] using hr
  simp only [cellsX,Nat.zero_mul,Nat.zero_add]
  rw [List.getElem?_append_left this]
  simp [xAt]
 |e::l,i+1,r,h,hr=>by
  have h1:=cellsX_get l i r (by simpa using h) hr
  have:e.cs.length≤(i+1)*3+r:=by simp [Em.cs];omega
  simp only [cellsX]
  rw [List.getElem?_append_right this,xAt_cons_succ,←h1]
  congr 1
  simp [Em.cs];omega
theorem step_append_own {P:Program} {ops:Array Oper} {o:Oper} {a:Act} {w:World} {K:Act→World→Prop} {Q:Exit→Act→World→Prop} {E:Prop}
  (hg:o.guard=none) (s x:Operand) (t:TypeId) (hop:o.op=Op.call {callee:=Callee.builtin Builtin.append,args:= #[s,x],argTypes:= #[t,t]})
  (base:Nat) (e:TypeId) (i:TypeInfo) (z:Value) (size bytes:Nat) (h1:P.underlying t=some (.slice e)) (h2:P.info? e=some i) (h3:i.zero=some z) (h4:i.size=size) (h5:i.bytes=bytes) (h6:z.cells.size=size) (h7:0<size)
  (v:Value) (n:Nat) (xs:List Value) (hs:a.eval s=v) (hown:w.ownsRow base e size v n xs)
  (ad:Addr) (m c:Nat) (news:List Value) (hx:a.eval x= .slice (some ad) m c) (hn:news.length=m*size) (hc:∀j u,news[j]? =some u→w.cell? (ad.add j)=some u) (h1c:∀u∈news,u.oneCell'=true)
  (b1:n+m≤maxLen) (b2:(n+m)*bytes≤140737488355328) (hbase:base≤w.heap.size)
  (hK:∀v' w',w'.ownsRow base e size v' (n+m) (xs++news)→w.grownBy w' v.ownBlock→K (a.put o.dst v') w'):
  if Region.wanted o (yielded ops a.tmps)=true then Oper.wp P o a w K Q else E:=by
 have hw:Region.wanted o (yielded ops a.tmps)=true:=by simp [Region.wanted,hg]
 rw [if_pos hw]
 exact wp_append_own w s x t hop base e i z size bytes h1 h2 h3 h4 h5 h6 h7 v n xs hs hown ad m c news hx hn hc h1c b1 b2 hbase (fun v' w' r1 r2 _=>hK v' w' r1 r2)
theorem row_ge {w:World} {B:Nat} {e:TypeId} {size n:Nat} {v:Value} {xs:List Value} (h:w.ownsRow B e size v n xs) {r:Nat} (hr:v.ownBlock=some r):B≤r:=by
 obtain⟨_,⟨rfl,_⟩|⟨g,cap,cur,rfl,hg,_⟩⟩:=h
 ·cases hr
 ·cases hr;exact hg
def OwnR (B:Nat) (w:World) (x:Value) (l:List Ev):Prop:=w.ownsRow B 110 7 x l.length (cellsL l)
theorem OwnR.own {B:Nat} {w:World} {x:Value} {l:List Ev} (h:OwnR B w x l):OwnEvs B w x l:=OwnEvs.of_row h
theorem OwnR.below {B:Nat} {w w':World} {x:Value} {l:List Ev} (h:OwnR B w x l) (hb:Below w.heap.size w w'):OwnR B w' x l:=by
 obtain⟨h0,⟨e,h1⟩|⟨g,cap,cur,e,hg,hc,h1⟩⟩:=h
 ·exact⟨h0,.inl ⟨e,h1⟩⟩
 ·exact⟨h0,.inr ⟨g,cap,cur,e,hg,(hb.block g (Array.getElem?_eq_some_iff.1 hc).1).trans hc,h1⟩⟩
theorem OwnR.mono {B B':Nat} {w:World} {x:Value} {l:List Ev} (h:OwnR B w x l) (hB:B'≤B):OwnR B' w x l:=by
 obtain⟨h0,⟨e,h1⟩|⟨g,cap,cur,e,hg,h1⟩⟩:=h
 ·exact⟨h0,.inl ⟨e,h1⟩⟩
 ·exact⟨h0,.inr ⟨g,cap,cur,e,Nat.le_trans hB hg,h1⟩⟩
theorem OwnR.evs {B:Nat} {w:World} {x:Value} {l:List Ev} (h:OwnR B w x l):IsEvs w x l:=h.own.isEvs
structure Beyond (W:World) where
 w:World
 h:Below W.heap.size W w
theorem Beyond.cell {W:World} (p:Beyond W) {b o:Nat} {v:Value} (hb:b<W.heap.size) (h:W.cell? ⟨b,o,none⟩=some v):p.w.cell? ⟨b,o,none⟩=some v:=(p.h.cell (p:=⟨b,o,none⟩) hb).trans h
theorem Beyond.of {P:Program} {f:FuncId} {args:Array Value} {W:World} {p:Beyond W} {v:Value} (h:Calls P f args p.w fun e w'=>e= .returned v∧Below p.w.heap.size p.w w'):
  Calls P f args p.w fun e w''=>e= .returned v∧ ∃p':Beyond W,w''=p'.w:=
 h.mono fun _ w'' ⟨he,hb⟩=>⟨he,⟨w'',p.h.trans (hb.mono p.h.size)⟩,rfl⟩
theorem wp_region_beyond {P:Program} {id:Nat} {Q:Exit→Act→World→Prop} {a:Act} {W:World} {l:List Oper} (hm:P.follows .mixedOrders=true) (hB:Region.lexB .any l.toArray=true)
  (h:wpQuiet P l.toArray (fun w'=>∃p:Beyond W,w'=p.w) (fun a'=>∀w',(∃p:Beyond W,w'=p.w)→Q .normal a' w') l a):(Code.region id l.toArray true).wp P Q a W:=
 wp_region_quiet (C:=fun w'=>∃p:Beyond W,w'=p.w) hm hB ⟨⟨_,(Below.refl _ W).drew⟩,rfl⟩ (by simpa using h)
theorem EvAt.beyond {W:World} {b o:Nat} {t s q d k v g:Int} (h:EvAt W b o t s q d k v g) (hb:b<W.heap.size):
  (∀p:Beyond W,p.w.cell? ⟨b,o,none⟩=some (.int .i64 t))∧(∀p:Beyond W,p.w.cell? ⟨b,o+1,none⟩=some (.int .i64 s))∧(∀p:Beyond W,p.w.cell? ⟨b,o+2,none⟩=some (.int .i64 q))∧(∀p:Beyond W,p.w.cell? ⟨b,o+3,none⟩=some (.int .i64 d))∧
  (∀p:Beyond W,p.w.cell? ⟨b,o+4,none⟩=some (.int .i64 k))∧(∀p:Beyond W,p.w.cell? ⟨b,o+5,none⟩=some (.int .i64 v))∧(∀p:Beyond W,p.w.cell? ⟨b,o+6,none⟩=some (.int .i64 g)):=
 ⟨fun p=>p.cell hb h.f0,fun p=>p.cell hb h.f1,fun p=>p.cell hb h.f2,fun p=>p.cell hb h.f3,fun p=>p.cell hb h.f4,fun p=>p.cell hb h.f5,fun p=>p.cell hb h.f6⟩
structure St where
 r:List Int
 q:Int
 d:Int
def IsS (w:World) (x:Value) (s:St):Prop:=∃vr,x= .agg #[vr,.int .i64 s.q,.int .i64 s.d]∧IsI w vr s.r
theorem IsS.below {w w':World} {x:Value} {s:St} (h:IsS w x s) (hb:Below w.heap.size w w'):IsS w' x s:=by
 obtain⟨vr,rfl,h⟩:=h
 exact⟨vr,rfl,h.below hb⟩
def StF (F:Nat→Prop) (w:World) (x:Value) (s:St):Prop:=∃vr,x= .agg #[vr,.int .i64 s.q,.int .i64 s.d]∧RowF F w vr s.r.length 1 (intCells s.r)
abbrev put3 (w:World) (R:Nat) (v0 v1 v2:Value):World:=((w.setCell ⟨R,0,none⟩ v0).setCell ⟨R,1,none⟩ v1).setCell ⟨R,2,none⟩ v2
theorem Bk.put3 {w:World} {R:Nat} {T:TypeId} {a0 a1 a2:Value} (h:Bk w R T #[a0,a1,a2]) (v0 v1 v2:Value):Bk (put3 w R v0 v1 v2) R T #[v0,v1,v2]:=
 ((h.put 0 v0).put 1 v1).put 2 v2
theorem put3_turns (w:World) (R:Nat) (v0 v1 v2:Value):Turns (fun b=>b=R) w (put3 w R v0 v1 v2):=
 ((put1_turns w R 0 v0).trans (put1_turns _ R 1 v1)).trans (put1_turns _ R 2 v2)
set_option maxHeartbeats 2000000 in
theorem eqState_same (x y:Value) (s:St) (w:World) (hs:s.r.length≤1048576) (hx:IsS w x s) (hy:IsS w y s):
  Calls Tryz.prog 175 #[x,y] w fun e w'=>e= .returned (.bool true)∧Below w.heap.size w w':=by
 obtain⟨vr,rfl,h1⟩:=hx
 obtain⟨ur,rfl,k1⟩:=hy
 obtain⟨l,q,d⟩:=s
 have HI:Hid (IsI w vr l∧IsI w ur l):=⟨h1,k1⟩
 have HS:Hid (l.length≤4611686018427387904):=(by have:l.length≤1048576:=hs;omega:l.length≤4611686018427387904)
 clear h1 k1 hs
 obtain⟨W0,hW0⟩:∃W0,(w.alloc (.cells #[vr,.int .i64 q,.int .i64 d] 94)).alloc (.cells #[ur,.int .i64 q,.int .i64 d] 94)=W0:=⟨_,rfl⟩
 have HB0:Hid (Below w.heap.size w W0):=by rw [←hW0];exact((Below.refl _ w).alloc (Nat.le_refl _) _).alloc (by simp) _
 have HP0:Hid (Bk W0 w.heap.size 94 #[vr,.int .i64 q,.int .i64 d]):=by rw [←hW0];exact(Bk.new w _ _).alloc _
 have HQ0:Hid (Bk W0 (w.heap.size+1) 94 #[ur,.int .i64 q,.int .i64 d]):=by rw [←hW0];exact Bk.newAt (by simp) _ _
 have p0:=HP0.out.cell (i:=0) rfl
 have q0:=HQ0.out.cell (i:=0) rfl
 go_enter Tryz.func175,Tryz.ntmps175
 go_wp2_with fail
 clear p0 q0 hW0
 refine(eqI_same _ _ l _ HS.out (HI.out.1.below HB0.out) (HI.out.2.below HB0.out)).mono ?_
 rintro e w1 ⟨rfl,hb⟩
 have HB1:Hid (Below w.heap.size w w1):=HB0.out.trans (hb.mono HB0.out.size)
 have p1:=(HP0.out.below hb).cell (i:=1) rfl
 have q1:=(HQ0.out.below hb).cell (i:=1) rfl
 have p2:=(HP0.out.below hb).cell (i:=2) rfl
 have q2:=(HQ0.out.below hb).cell (i:=2) rfl
 clear hb HB0 HP0 HQ0
 go_wp2
 go_ret
 exact⟨rfl,HB1.out⟩
set_option maxHeartbeats 2000000 in
theorem toState_any (x:Value) (s:St) (w:World) (hs:s.r.length≤1048576) (h:IsS w x s):
  Calls Tryz.prog 152 #[x] w fun e w'=>∃y,e= .returned y∧Below w.heap.size w w'∧StF (fun k=>w.heap.size≤k∧k<w'.heap.size) w' y s:=by
 obtain⟨vr,rfl,h1⟩:=h
 obtain⟨i,n,z⟩:=s
 have HI:Hid (IsI w vr i):=h1
 have HS:Hid (i.length≤1048576):=hs
 clear h1 hs
 obtain⟨W0,hW0⟩:∃W0,((w.alloc (.cells #[vr,.int .i64 n,.int .i64 z] 141)).alloc (.cells #[.slice none 0 0,.int .i64 0,.int .i64 0] 94)).alloc (.cells #[.slice none 0 0,.int .i64 0,.int .i64 0] 94)=W0:=⟨_,rfl⟩
 have HB0:Hid (Below w.heap.size w W0):=by rw [←hW0];exact(((Below.refl _ w).alloc (Nat.le_refl _) _).alloc (by simp) _).alloc (by simp;omega) _
 have HP0:Hid (Bk W0 w.heap.size 141 #[vr,.int .i64 n,.int .i64 z]):=by rw [←hW0];exact((Bk.new w _ _).alloc _).alloc _
 have HR0:Hid (Bk W0 (w.heap.size+1) 94 #[.slice none 0 0,.int .i64 0,.int .i64 0]):=by rw [←hW0];exact(Bk.newAt (by simp) _ _).alloc _
 have HQ0:Hid (Bk W0 (w.heap.size+1+1) 94 #[.slice none 0 0,.int .i64 0,.int .i64 0]):=by rw [←hW0];exact Bk.newAt (by simp) _ _
 have HW0:Hid (((w.alloc (.cells #[vr,.int .i64 n,.int .i64 z] 141)).alloc (.cells #[.slice none 0 0,.int .i64 0,.int .i64 0] 94)).alloc (.cells #[.slice none 0 0,.int .i64 0,.int .i64 0] 94)=W0):=hW0
 clear hW0
 go_enter Tryz.func152,Tryz.ntmps152
 go_wp2_with fail
 rw [HW0.out]
 clear HW0
 refine(toI_any _ i _ HS.out (HI.out.below HB0.out)).mono ?_
 rintro e w1 ⟨rfl,hb,hr⟩
 have HI1:Hid (RowI w1 W0.heap.size i):=hr
 have hz1:W0.heap.size<w1.heap.size:=hr.1
 have hq:=HQ0.out.lt
 have HX1:Hid (Below w.heap.size w w1):=HB0.out.trans (hb.mono (by omega))
 have HPa:=HP0.out.below hb
 have HRa:=HR0.out.below hb
 have HQa:=HQ0.out.below hb
 clear hb hr HB0 HP0 HR0 HQ0
 obtain⟨X1,hX1⟩:∃X1,w1.setCell ⟨w.heap.size+1+1,0,none⟩ (sl W0.heap.size i.length)=X1:=⟨_,rfl⟩
 obtain⟨X2,hX2⟩:∃X2,X1.setCell ⟨w.heap.size+1+1,1,none⟩ (.int .i64 n)=X2:=⟨_,rfl⟩
 obtain⟨X3,hX3⟩:∃X3,X2.setCell ⟨w.heap.size+1+1,2,none⟩ (.int .i64 z)=X3:=⟨_,rfl⟩
 have a0:=HQa.cell (i:=0) rfl
 have af:=HQa.free
 have HP1:Bk X1 w.heap.size 141 #[vr,.int .i64 n,.int .i64 z]:=hX1▸HPa.other 0 _ (by omega)
 have HR1:Bk X1 (w.heap.size+1) 94 #[.slice none 0 0,.int .i64 0,.int .i64 0]:=hX1▸HRa.other 0 _ (by omega)
 have HQ1:Bk X1 (w.heap.size+1+1) 94 #[sl W0.heap.size i.length,.int .i64 0,.int .i64 0]:=hX1▸HQa.put 0 _
 have p1:=HP1.cell (i:=1) rfl
 have b1:=HQ1.cell (i:=1) rfl
 have bf:=HQ1.free
 have HP2:Bk X2 w.heap.size 141 #[vr,.int .i64 n,.int .i64 z]:=hX2▸HP1.other 1 _ (by omega)
 have HR2:Bk X2 (w.heap.size+1) 94 #[.slice none 0 0,.int .i64 0,.int .i64 0]:=hX2▸HR1.other 1 _ (by omega)
 have HQ2:Bk X2 (w.heap.size+1+1) 94 #[sl W0.heap.size i.length,.int .i64 n,.int .i64 0]:=hX2▸HQ1.put 1 _
 have p2:=HP2.cell (i:=2) rfl
 have c2:=HQ2.cell (i:=2) rfl
 have cf:=HQ2.free
 have HR3:Bk X3 (w.heap.size+1) 94 #[.slice none 0 0,.int .i64 0,.int .i64 0]:=hX3▸HR2.other 2 _ (by omega)
 have HQ3:Bk X3 (w.heap.size+1+1) 94 #[sl W0.heap.size i.length,.int .i64 n,.int .i64 z]:=hX3▸HQ2.put 2 _
 have o0:=HQ3.cell (i:=0) rfl
 have o1:=HQ3.cell (i:=1) rfl
 have o2:=HQ3.cell (i:=2) rfl
 have r0:=HR3.cell (i:=0) rfl
 have r1:=HR3.cell (i:=1) rfl
 have r2:=HR3.cell (i:=2) rfl
 have rf:=HR3.free
 have HR4:Hid (Bk X3 (w.heap.size+1) 94 #[.slice none 0 0,.int .i64 0,.int .i64 0]):=HR3
 have t1:=put1_turns w1 (w.heap.size+1+1) 0 (sl W0.heap.size i.length)
 have t2:=put1_turns X1 (w.heap.size+1+1) 1 (.int .i64 n)
 have t3:=put1_turns X2 (w.heap.size+1+1) 2 (.int .i64 z)
 rw [hX1]at t1
 rw [hX2]at t2
 rw [hX3]at t3
 have HT:Hid (Turns (fun k=>k=w.heap.size+1+1) w1 X3):=(t1.trans t2).trans t3
 clear HPa HRa HQa HP1 HR1 HQ1 HP2 HR2 HQ2 HR3 HQ3 t1 t2 t3
 go_wp2
 clear o0 o1 o2 r0 r1 r2 rf a0 af p1 b1 bf p2 c2 cf
 obtain⟨X5,hX5⟩:∃X5,put3 X3 (w.heap.size+1) (.slice (some ⟨W0.heap.size,0,none⟩) i.length i.length) (.int .i64 n) (.int .i64 z)=X5:=⟨_,rfl⟩
 have hR:=HR4.out.put3 (.slice (some ⟨W0.heap.size,0,none⟩) i.length i.length) (.int .i64 n) (.int .i64 z)
 have ht:=put3_turns X3 (w.heap.size+1) (.slice (some ⟨W0.heap.size,0,none⟩) i.length i.length) (.int .i64 n) (.int .i64 z)
 rw [hX5]at hR ht
 unfold put3 at hX5
 rw [hX5]
 have t0:=hR.cell (i:=0) rfl
 have t1:=hR.cell (i:=1) rfl
 have t2:=hR.cell (i:=2) rfl
 have hT:Turns (fun k=>k=w.heap.size+1+1∨k=w.heap.size+1) w1 X5:=(HT.out.mono (fun k e=> .inl e)).trans (ht.mono (fun k e=> .inr e))
 have hsz:=hT.size
 refine bodyPost_ret (v:= .agg #[sl W0.heap.size i.length,.int .i64 n,.int .i64 z]) (by simp [results,Tryz.results152,go_sem,t0,t1,t2]) rfl
  ⟨_,rfl,HX1.out.trans (hT.to_below (fun k e=>by omega) (by omega)),_,rfl,?_⟩
 exact((HI1.out.rowF (by have:=HS.out;unfold maxLen;omega)).turns hT (fun k e=>by omega)).mono (fun k e=>by omega)
end Go.Proofs.YtmobiieoecjmdaaGreat

