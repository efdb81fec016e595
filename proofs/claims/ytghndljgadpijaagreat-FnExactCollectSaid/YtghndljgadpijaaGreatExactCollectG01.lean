/- NTurn, MBox, SqA, Pure, Base, Kit, Evs, Rows2, Copies, NInts, MPure, MRow, VTo, MTo -/
import Derived.Test.YtghndljgadpijaaGreatRows
import Derived.WalkKit
import Derived.Below
import Derived.WalkSpells
import Derived.WalkLawsBesides
import Derived.Outline
import Derived.OwnWalk
import Derived.Deep.RegionHeld3
/- What turns, and what stays as it was. -/
namespace Go.Proofs.YtghndljgadpijaaGreat
open Go.RowKit
structure Turns (S:Nat→Prop) (w w':World):Prop where
  os:w'.os=w.os
  tape:w'.tape=w.tape
  output:w'.output=w.output
  size:w.heap.size≤w'.heap.size
  block:∀k,k<w.heap.size→ ¬S k→w'.heap[k]? =w.heap[k]?
theorem Turns.refl (S:Nat→Prop) (w:World):Turns S w w:=⟨rfl,rfl,rfl,Nat.le_refl _,fun _ _ _=>rfl⟩
theorem Turns.trans {S:Nat→Prop} {a b c:World} (h:Turns S a b) (k:Turns S b c):Turns S a c:=
  ⟨k.os.trans h.os,k.tape.trans h.tape,k.output.trans h.output,Nat.le_trans h.size k.size,fun i hi hS=>(k.block i (Nat.lt_of_lt_of_le hi h.size) hS).trans (h.block i hi hS)⟩
theorem Turns.drew {S:Nat→Prop} {a w:World} (h:Turns S a w):Turns S a w.drew:=⟨h.os,h.tape,h.output,h.size,h.block⟩
theorem Turns.of_below {S:Nat→Prop} {w w':World} (h:Below w.heap.size w w'):Turns S w w':=⟨h.os,h.tape,h.output,h.size,fun k hk _=>h.block k hk⟩
theorem Turns.to_below {S:Nat→Prop} {w w':World} {B:Nat} (h:Turns S w w') (hS:∀k,S k→B≤k) (hB:B≤w.heap.size):Below B w w':=
  ⟨h.os,h.tape,h.output,h.size,fun k hk=>h.block k (by omega) (fun e=>by have:=hS k e;omega)⟩
theorem Turns.mono {S S':Nat→Prop} {w w':World} (h:Turns S w w') (hS:∀k,S k→S' k):Turns S' w w':=⟨h.os,h.tape,h.output,h.size,fun k hk hn=>h.block k hk (fun e=>hn (hS k e))⟩
theorem Turns.setCell {S:Nat→Prop} {a w:World} (h:Turns S a w) {p:Addr} (hp:S p.block) (u:Value):Turns S a (w.setCell p u):=
  h.trans ⟨rfl,rfl,rfl,by simp [World.setCell],fun k _ hk=>Below.heap_setCell _ _ _ _ (fun e=>hk (e▸hp))⟩
theorem Turns.cell {S:Nat→Prop} {w w':World} (h:Turns S w w') {b o:Nat} (hb:b<w.heap.size) (hS:¬S b):w'.cell? ⟨b,o,none⟩=w.cell? ⟨b,o,none⟩:=World.cell?_of_block (w:=w) (h.block b hb hS)
theorem Turns.frozen {S:Nat→Prop} {w w':World} (h:Turns S w w') {b o:Nat} (hb:b<w.heap.size) (hS:¬S b):w'.frozen? ⟨b,o,none⟩=w.frozen? ⟨b,o,none⟩:=World.frozen?_of_block (w:=w) (h.block b hb hS)
def Bk (w:World) (P:Nat) (T:TypeId) (vs:Array Value):Prop:=w.heap[P]? =some (.cells vs T)
theorem Bk.lt {w:World} {P:Nat} {T:TypeId} {vs:Array Value} (h:Bk w P T vs):P<w.heap.size:=(Array.getElem?_eq_some_iff.1 h).1
theorem Bk.cell {w:World} {P:Nat} {T:TypeId} {vs:Array Value} (h:Bk w P T vs) {i:Nat} {v:Value} (hv:vs[i]? =some v):w.cell? ⟨P,i,none⟩=some v:=by
  have h':w.heap[P]? =some (.cells vs T):=h
  unfold World.cell?
  simp [h',hv]
theorem Bk.free {w:World} {P:Nat} {T:TypeId} {vs:Array Value} (h:Bk w P T vs) (o:Nat):w.frozen? ⟨P,o,none⟩=false:=by
  have h':w.heap[P]? =some (.cells vs T):=h
  unfold World.frozen?
  simp [h']
theorem Bk.keep {w w':World} {B P:Nat} {T:TypeId} {vs:Array Value} (h:Bk w P T vs) (hb:Below B w w') (hB:P<B):Bk w' P T vs:=(hb.block P hB).trans h
theorem Bk.below {w w':World} {P:Nat} {T:TypeId} {vs:Array Value} (h:Bk w P T vs) (hb:Below w.heap.size w w'):Bk w' P T vs:=h.keep hb h.lt
theorem Bk.turns {S:Nat→Prop} {w w':World} {P:Nat} {T:TypeId} {vs:Array Value} (h:Bk w P T vs) (ht:Turns S w w') (hS:¬S P):Bk w' P T vs:=(ht.block P h.lt hS).trans h
theorem Bk.drew {w:World} {P:Nat} {T:TypeId} {vs:Array Value} (h:Bk w P T vs):Bk w.drew P T vs:=h
theorem Bk.new (w:World) (T:TypeId) (vs:Array Value):Bk (w.alloc (.cells vs T)) w.heap.size T vs:=by
  show(w.heap.push _)[w.heap.size]? =_
  simp
theorem Bk.newAt {w:World} {P:Nat} (hP:P=w.heap.size) (T:TypeId) (vs:Array Value):Bk (w.alloc (.cells vs T)) P T vs:=hP▸Bk.new w T vs
theorem Bk.alloc {w:World} {P:Nat} {T:TypeId} {vs:Array Value} (h:Bk w P T vs) (o:Obj):Bk (w.alloc o) P T vs:=h.keep ((Below.refl w.heap.size w).alloc (Nat.le_refl _) o) h.lt
theorem Bk.put {w:World} {P:Nat} {T:TypeId} {vs:Array Value} (h:Bk w P T vs) (i:Nat) (v:Value):Bk (w.setCell ⟨P,i,none⟩ v) P T (vs.setIfInBounds i v):=by
  have h':w.heap[P]? =some (.cells vs T):=h
  obtain⟨hl,hv⟩:=Array.getElem?_eq_some_iff.1 h'
  unfold Bk
  simp [World.setCell,hl,Array.getElem_modify,hv]
theorem Bk.other {w:World} {P b:Nat} {T:TypeId} {vs:Array Value} (h:Bk w P T vs) (i:Nat) (v:Value) (hb:P≠b):Bk (w.setCell ⟨b,i,none⟩ v) P T vs:=
  (Below.heap_setCell _ _ _ _ hb).trans h
theorem yag (w:World) (g o:Nat) (u:Value):Turns (fun b=>b=g) w (w.setCell ⟨g,o,none⟩ u):=(Turns.refl (fun b=>b=g) w).setCell (p:=⟨g,o,none⟩) rfl _
theorem tu1 {w V:World} {b i:Nat} {v:Value} (hV:w.setCell ⟨b,i,none⟩ v=V):Turns (fun j=>j=b) w V:=hV▸yag _ _ i _
abbrev put6 (w:World) (R:Nat) (v0 v1 v2 v3 v4 v5:Value):World:=
  (((((w.setCell ⟨R,0,none⟩ v0).setCell ⟨R,1,none⟩ v1).setCell ⟨R,2,none⟩ v2).setCell ⟨R,3,none⟩ v3).setCell ⟨R,4,none⟩ v4).setCell ⟨R,5,none⟩ v5
theorem Bk.put6 {w:World} {R:Nat} {T:TypeId} {a0 a1 a2 a3 a4 a5:Value} (h:Bk w R T #[a0,a1,a2,a3,a4,a5]) (v0 v1 v2 v3 v4 v5:Value):Bk (put6 w R v0 v1 v2 v3 v4 v5) R T #[v0,v1,v2,v3,v4,v5]:=
  (((((h.put 0 v0).put 1 v1).put 2 v2).put 3 v3).put 4 v4).put 5 v5
theorem zlr (w:World) (R:Nat) (v0 v1 v2 v3 v4 v5:Value):Turns (fun b=>b=R) w (put6 w R v0 v1 v2 v3 v4 v5):=
  (((((yag w R 0 v0).trans (yag _ R 1 v1)).trans (yag _ R 2 v2)).trans (yag _ R 3 v3)).trans (yag _ R 4 v4)).trans (yag _ R 5 v5)
theorem c3_3 {w:World} {P:Nat} {T:TypeId} {a0 a1 a2:Value} (h:Bk w P T #[a0,a1,a2]):w.cell? ⟨P,0,none⟩=some a0∧w.cell? ⟨P,1,none⟩=some a1∧w.cell? ⟨P,2,none⟩=some a2:=⟨h.cell rfl,h.cell rfl,h.cell rfl⟩
theorem c3_6 {w:World} {P:Nat} {T:TypeId} {a0 a1 a2 a3 a4 a5:Value} (h:Bk w P T #[a0,a1,a2,a3,a4,a5]):w.cell? ⟨P,0,none⟩=some a0∧w.cell? ⟨P,1,none⟩=some a1∧w.cell? ⟨P,2,none⟩=some a2:=⟨h.cell rfl,h.cell rfl,h.cell rfl⟩
theorem c4_4 {w:World} {P:Nat} {T:TypeId} {a0 a1 a2 a3:Value} (h:Bk w P T #[a0,a1,a2,a3]):w.cell? ⟨P,0,none⟩=some a0∧w.cell? ⟨P,1,none⟩=some a1∧w.cell? ⟨P,2,none⟩=some a2∧w.cell? ⟨P,3,none⟩=some a3:=⟨h.cell rfl,h.cell rfl,h.cell rfl,h.cell rfl⟩
theorem c6_6 {w:World} {P:Nat} {T:TypeId} {a0 a1 a2 a3 a4 a5:Value} (h:Bk w P T #[a0,a1,a2,a3,a4,a5]):w.cell? ⟨P,0,none⟩=some a0∧w.cell? ⟨P,1,none⟩=some a1∧w.cell? ⟨P,2,none⟩=some a2∧w.cell? ⟨P,3,none⟩=some a3∧w.cell? ⟨P,4,none⟩=some a4∧w.cell? ⟨P,5,none⟩=some a5:=⟨h.cell rfl,h.cell rfl,h.cell rfl,h.cell rfl,h.cell rfl,h.cell rfl⟩
theorem zgw {w:World} {P:Nat} {T:TypeId} {a0 a1 a2 a3 a4 a5 a6 a7 a8 a9 a10 a11 a12 a13:Value} (h:Bk w P T #[a0,a1,a2,a3,a4,a5,a6,a7,a8,a9,a10,a11,a12,a13]):w.cell? ⟨P,0,none⟩=some a0∧w.cell? ⟨P,1,none⟩=some a1∧w.cell? ⟨P,2,none⟩=some a2∧w.cell? ⟨P,3,none⟩=some a3∧w.cell? ⟨P,4,none⟩=some a4∧w.cell? ⟨P,5,none⟩=some a5:=⟨h.cell rfl,h.cell rfl,h.cell rfl,h.cell rfl,h.cell rfl,h.cell rfl⟩
theorem c7_7 {w:World} {P:Nat} {T:TypeId} {a0 a1 a2 a3 a4 a5 a6:Value} (h:Bk w P T #[a0,a1,a2,a3,a4,a5,a6]):w.cell? ⟨P,0,none⟩=some a0∧w.cell? ⟨P,1,none⟩=some a1∧w.cell? ⟨P,2,none⟩=some a2∧w.cell? ⟨P,3,none⟩=some a3∧w.cell? ⟨P,4,none⟩=some a4∧w.cell? ⟨P,5,none⟩=some a5∧w.cell? ⟨P,6,none⟩=some a6:=⟨h.cell rfl,h.cell rfl,h.cell rfl,h.cell rfl,h.cell rfl,h.cell rfl,h.cell rfl⟩
theorem c8_8 {w:World} {P:Nat} {T:TypeId} {a0 a1 a2 a3 a4 a5 a6 a7:Value} (h:Bk w P T #[a0,a1,a2,a3,a4,a5,a6,a7]):w.cell? ⟨P,0,none⟩=some a0∧w.cell? ⟨P,1,none⟩=some a1∧w.cell? ⟨P,2,none⟩=some a2∧w.cell? ⟨P,3,none⟩=some a3∧w.cell? ⟨P,4,none⟩=some a4∧w.cell? ⟨P,5,none⟩=some a5∧w.cell? ⟨P,6,none⟩=some a6∧w.cell? ⟨P,7,none⟩=some a7:=⟨h.cell rfl,h.cell rfl,h.cell rfl,h.cell rfl,h.cell rfl,h.cell rfl,h.cell rfl,h.cell rfl⟩
theorem zpj {w:World} {P:Nat} {T:TypeId} {a0 a1 a2 a3 a4 a5 a6 a7 a8 a9 a10 a11:Value} (h:Bk w P T #[a0,a1,a2,a3,a4,a5,a6,a7,a8,a9,a10,a11]):w.cell? ⟨P,0,none⟩=some a0∧w.cell? ⟨P,1,none⟩=some a1∧w.cell? ⟨P,2,none⟩=some a2∧w.cell? ⟨P,3,none⟩=some a3∧w.cell? ⟨P,4,none⟩=some a4∧w.cell? ⟨P,5,none⟩=some a5∧w.cell? ⟨P,6,none⟩=some a6∧w.cell? ⟨P,7,none⟩=some a7∧w.cell? ⟨P,8,none⟩=some a8∧w.cell? ⟨P,9,none⟩=some a9∧w.cell? ⟨P,10,none⟩=some a10∧w.cell? ⟨P,11,none⟩=some a11:=⟨h.cell rfl,h.cell rfl,h.cell rfl,h.cell rfl,h.cell rfl,h.cell rfl,h.cell rfl,h.cell rfl,h.cell rfl,h.cell rfl,h.cell rfl,h.cell rfl⟩
theorem ywd {w:World} {P:Nat} {T:TypeId} {a0 a1 a2 a3 a4 a5 a6 a7 a8 a9 a10 a11 a12 a13:Value} (h:Bk w P T #[a0,a1,a2,a3,a4,a5,a6,a7,a8,a9,a10,a11,a12,a13]):w.cell? ⟨P,0,none⟩=some a0∧w.cell? ⟨P,1,none⟩=some a1∧w.cell? ⟨P,2,none⟩=some a2∧w.cell? ⟨P,3,none⟩=some a3∧w.cell? ⟨P,4,none⟩=some a4∧w.cell? ⟨P,5,none⟩=some a5∧w.cell? ⟨P,6,none⟩=some a6∧w.cell? ⟨P,7,none⟩=some a7∧w.cell? ⟨P,8,none⟩=some a8∧w.cell? ⟨P,9,none⟩=some a9∧w.cell? ⟨P,10,none⟩=some a10∧w.cell? ⟨P,11,none⟩=some a11∧w.cell? ⟨P,12,none⟩=some a12∧w.cell? ⟨P,13,none⟩=some a13:=⟨h.cell rfl,h.cell rfl,h.cell rfl,h.cell rfl,h.cell rfl,h.cell rfl,h.cell rfl,h.cell rfl,h.cell rfl,h.cell rfl,h.cell rfl,h.cell rfl,h.cell rfl,h.cell rfl⟩
theorem hdq {p:Prop} (h:p):Hid p:=h
theorem bkA {w W:World} {xs:Array Value} {T:TypeId} (h:w.alloc (.cells xs T)=W):Bk W w.heap.size T xs:=h▸Bk.new w _ _
theorem bkA2 {w W:World} {xs:Array Value} {T:TypeId} {p:Obj} (h:(w.alloc (.cells xs T)).alloc p=W):Bk W w.heap.size T xs:=h▸(Bk.new w _ _).alloc _
theorem bkB2 {w W:World} {ys:Array Value} {U:TypeId} {o:Obj} (h:(w.alloc o).alloc (.cells ys U)=W):Bk W (w.heap.size+1) U ys:=h▸Bk.newAt (by simp) _ _
theorem trm {w0 w1 w2:World} (h:Below w0.heap.size w0 w1) (k:Below w1.heap.size w1 w2):Below w0.heap.size w0 w2:=h.trans (k.mono h.size)
theorem beA {w W:World} {o:Obj} (h:w.alloc o=W):Below w.heap.size w W:=h▸(Below.refl _ w).alloc (Nat.le_refl _) _
theorem beA2 {w W:World} {o p:Obj} (h:(w.alloc o).alloc p=W):Below w.heap.size w W:=h▸((Below.refl _ w).alloc (Nat.le_refl _) _).alloc (by simp) _
theorem trh {w0 w1 w2:World} (h:Hid (Below w0.heap.size w0 w1)) (k:Below w1.heap.size w1 w2):Hid (Below w0.heap.size w0 w2):=trm h.out k
theorem cst {B b o:Nat} {w w':World} {v:Option Value} (H:Below B w w') (hb:b<B) (h:w.cell? ⟨b,o,none⟩=v):w'.cell? ⟨b,o,none⟩=v:=(H.cell (p:=⟨b,o,none⟩) hb).trans h
theorem ot1 {w V:World} {P b i:Nat} {v:Value} {T:TypeId} {vs:Array Value} (hV:w.setCell ⟨b,i,none⟩ v=V) (h:Bk w P T vs) (hb:P≠b):Bk V P T vs:=hV▸h.other i v hb
theorem q0 (a:Act) (d:Tmp) (v:Value):a.put (some d) v= {a with tmps:=a.tmps.setIfInBounds d v}:=rfl
theorem q9 (a:Act) (v:Value):a.put none v=a:=rfl
theorem q1 {α:Type} (l:List α) (i:Nat) (a:α):l.toArray.setIfInBounds i a=(l.set i a).toArray:=List.setIfInBounds_toArray l i a
theorem q2 {α:Type} (x:α) (l:List α) (a:α):(x::l).set 0 a=a::l:=List.set_cons_zero
theorem q3 {α:Type} (x:α) (l:List α) (i:Nat) (a:α):(x::l).set (i+1) a=x::l.set i a:=List.set_cons_succ
def okB (t s q d k v g:Int):Bool:=decide (0≤t∧t≤1000∧ -1≤s∧s≤3∧0≤q∧q≤100000∧0≤d∧d≤3∧0≤k∧k≤3∧0≤v∧v≤999∧0≤g∧g≤100000)
def num (a b:Int):Int:=if a<b then-1 else if b<a then 1 else 0
def cmpI (t s q g t' s' q' g':Int):Int:=if t≠t' then num t t' else if s≠s' then num s s' else if q≠q' then num q q' else num g g'
structure Ev where
  t:Int
  s:Int
  q:Int
  d:Int
  k:Int
  v:Int
  g:Int
def evAt (l:List Ev) (i:Nat):Ev:=l.getD i ⟨0,0,0,0,0,0,0⟩
def Ev.ok (e:Ev):Bool:=okB e.t e.s e.q e.d e.k e.v e.g
def Ev.cmp (a b:Ev):Int:=cmpI a.t a.s a.q a.g b.t b.s b.q b.g
theorem zgu (t s q g t' s' q' g':Int):cmpI t s q g t' s' q' g'<0↔t<t'∨(t=t'∧(s<s'∨(s=s'∧(q<q'∨(q=q'∧g<g'))))):=by
  unfold cmpI num
  split
  · split
    · omega
    · split<;>omega
  · split
    · split
      · omega
      · split<;>omega
    · split
      · split
        · omega
        · split<;>omega
      · split
        · omega
        · split<;>omega
theorem zaw {a b c:Ev} (h:a.cmp b<0) (k:b.cmp c<0):a.cmp c<0:=by
  unfold Ev.cmp at*
  rw [zgu]at*
  omega
theorem cmp_neg {a b c:Ev} (h:¬a.cmp b<0) (k:¬b.cmp c<0):¬a.cmp c<0:=by
  unfold Ev.cmp at*
  rw [zgu]at*
  omega
theorem zid {a b:Ev} (h:a.cmp b<0):¬b.cmp a<0:=by
  unfold Ev.cmp at*
  rw [zgu]at*
  omega
theorem zox (l m:List Ev) (i:Nat) (h:i<l.length):evAt (l++m) i=evAt l i:=by
  unfold evAt
  rw [List.getD_eq_getElem?_getD,List.getD_eq_getElem?_getD,List.getElem?_append_left h]
theorem zmn (l m:List Ev) (i:Nat):evAt (l++m) (l.length+i)=evAt m i:=by
  unfold evAt
  rw [List.getD_eq_getElem?_getD,List.getD_eq_getElem?_getD,List.getElem?_append_right (by omega)]
  congr 2
  omega
set_option maxHeartbeats 400000
open Go.RowKit
theorem ye8 {a b:Bool} (h:a=b):Ending.returned (.bool a)= .returned (.bool b):=by rw [h]
theorem ywz {k:IntKind} {a b:Int} (h:a=b):Ending.returned (.int k a)= .returned (.int k b):=by rw [h]
theorem yy5 {p:Prop} [Decidable p] {b:Bool} (h:p↔b=true):Ending.returned (.bool (decide p))= .returned (.bool b):=by
  rw [show decide p=b from by cases b<;>simp_all]
theorem zca (t s q d k v g:Int) (w:World):
    Calls Tryz.prog 114 #[.agg #[.int .i64 t,.int .i64 s,.int .i64 q,.int .i64 d,.int .i64 k,.int .i64 v,.int .i64 g]] w fun e w'=>
      e= .returned (.agg #[.int .i64 t,.int .i64 s,.int .i64 q,.int .i64 d,.int .i64 k,.int .i64 v,.int .i64 g])∧Below w.heap.size w w':=by
  go_enter Tryz.func114,Tryz.ntmps114
  go_wp2
  exact bodyPost_ret (v:= .agg #[.int .i64 t,.int .i64 s,.int .i64 q,.int .i64 d,.int .i64 k,.int .i64 v,.int .i64 g]) (by simp [results,Tryz.results114,go_sem]) rfl
    ⟨rfl,(((Below.refl _ _).alloc (Nat.le_refl _) _).alloc (by simp) _).alloc (by simp;omega) _⟩
theorem yw5 (x lo hi:Int) (w:World):
    Calls Tryz.prog 89 #[.int .i64 x,.int .i64 lo,.int .i64 hi] w fun e w'=>
      e= .returned (.bool (decide (lo≤x)&&decide (x≤hi)))∧w'=w:=by
  go_enter Tryz.func89,Tryz.ntmps89
  go_wp2
  · go_ret
    exact⟨yy5 (by simp_all),rfl⟩
  · go_ret
    exact⟨ye8 (by simp;omega),rfl⟩
theorem zgc (a b:Int) (w:World):
    Calls Tryz.prog 240 #[.int .i64 a,.int .i64 b] w fun e w'=>e= .returned (.int .i64 (num a b))∧w'=w:=by
  go_enter Tryz.func240,Tryz.ntmps240
  go_wp2
  all_goals(go_ret;exact⟨ywz (by unfold num;split<;>(try split)<;>omega),rfl⟩)
theorem zf0 (a b:Int) (w:World):
    Calls Tryz.prog 190 #[.int .i64 a,.int .i64 b] w fun e w'=>e= .returned (.int .i64 (num a b))∧w'=w:=by
  go_enter Tryz.func190,Tryz.ntmps190
  go_wp2
  all_goals(go_ret;exact⟨ywz (by unfold num;split<;>(try split)<;>omega),rfl⟩)
def ecmp (t s q d k v g t' s' q' d' k' v' g':Int):Int:=if okB t s q d k v g=true∧okB t' s' q' d' k' v' g'=true then cmpI t s q g t' s' q' g' else 0
theorem zdb {W w1:World} (hb:Below W.heap.size W w1):(∀b o,b<W.heap.size→w1.cell? ⟨b,o,none⟩=W.cell? ⟨b,o,none⟩)∧(∀b o,b<W.heap.size→w1.frozen? ⟨b,o,none⟩=W.frozen? ⟨b,o,none⟩):=
  ⟨fun b o h=>hb.cell (p:=⟨b,o,none⟩) h,fun b o h=>hb.frozen (p:=⟨b,o,none⟩) h⟩
structure EvAt (w:World) (b o:Nat) (t s q d k v g:Int):Prop where
  f0:w.cell? ⟨b,o,none⟩=some (.int .i64 t)
  f1:w.cell? ⟨b,o+1,none⟩=some (.int .i64 s)
  f2:w.cell? ⟨b,o+2,none⟩=some (.int .i64 q)
  f3:w.cell? ⟨b,o+3,none⟩=some (.int .i64 d)
  f4:w.cell? ⟨b,o+4,none⟩=some (.int .i64 k)
  f5:w.cell? ⟨b,o+5,none⟩=some (.int .i64 v)
  f6:w.cell? ⟨b,o+6,none⟩=some (.int .i64 g)
theorem EvAt.below {w w':World} {B b o:Nat} {t s q d k v g:Int} (h:EvAt w b o t s q d k v g) (hb:Below B w w') (hlt:b<B):EvAt w' b o t s q d k v g:=
  ⟨(hb.cell hlt).trans h.f0,(hb.cell hlt).trans h.f1,(hb.cell hlt).trans h.f2,(hb.cell hlt).trans h.f3,(hb.cell hlt).trans h.f4,(hb.cell hlt).trans h.f5,(hb.cell hlt).trans h.f6⟩
theorem EvAt.new (w:World) (T:TypeId) (t s q d k v g:Int):EvAt (w.alloc (.cells #[.int .i64 t,.int .i64 s,.int .i64 q,.int .i64 d,.int .i64 k,.int .i64 v,.int .i64 g] T)) w.heap.size 0 t s q d k v g:=by
  constructor<;>simp
theorem EvAt.alloc {w:World} {b o:Nat} {t s q d k v g:Int} (h:EvAt w b o t s q d k v g) (hlt:b<w.heap.size) (x:Obj):EvAt (w.alloc x) b o t s q d k v g:=
  h.below ((Below.refl _ w).alloc (Nat.le_refl _) x) hlt
theorem EvAt.lits {w:World} {b:Nat} {t s q d k v g:Int} (h:EvAt w b 0 t s q d k v g):w.cell? ⟨b,0,none⟩=some (.int .i64 t)∧w.cell? ⟨b,1,none⟩=some (.int .i64 s)∧w.cell? ⟨b,2,none⟩=some (.int .i64 q)∧w.cell? ⟨b,3,none⟩=some (.int .i64 d)∧w.cell? ⟨b,4,none⟩=some (.int .i64 k)∧w.cell? ⟨b,5,none⟩=some (.int .i64 v)∧w.cell? ⟨b,6,none⟩=some (.int .i64 g):=
  ⟨h.f0,h.f1,h.f2,h.f3,h.f4,h.f5,h.f6⟩
theorem hidEvs {p:Prop} (h:p):Hid p:=h
abbrev Ev.val (e:Ev):Value:= .agg #[.int .i64 e.t,.int .i64 e.s,.int .i64 e.q,.int .i64 e.d,.int .i64 e.k,.int .i64 e.v,.int .i64 e.g]
abbrev Ev.In (w:World) (b o:Nat) (e:Ev):Prop:=EvAt w b o e.t e.s e.q e.d e.k e.v e.g
def EvsAt (w:World) (b off:Nat) (l:List Ev):Prop:=b<w.heap.size∧ ∀i,i<l.length→Ev.In w b (off+i*7) (evAt l i)
def IsEvs (w:World) (x:Value) (l:List Ev):Prop:=∃a cap,x= .slice a l.length cap∧l.length≤cap∧cap≤maxLen∧(l= []∨ ∃b off,a=some ⟨b,off,none⟩∧EvsAt w b off l)
theorem EvsAt.below {w w':World} {B b off:Nat} {l:List Ev} (h:EvsAt w b off l) (hb:Below B w w') (hB:b<B):EvsAt w' b off l:=
  ⟨Nat.lt_of_lt_of_le h.1 hb.size,fun i hi=>(h.2 i hi).below hb hB⟩
theorem IsEvs.below {w w':World} {x:Value} {l:List Ev} (h:IsEvs w x l) (hb:Below w.heap.size w w'):IsEvs w' x l:=by
  obtain⟨a,cap,rfl,h1,h2,h⟩:=h
  refine⟨a,cap,rfl,h1,h2,?_⟩
  rcases h with h|⟨b,off,rfl,h⟩
  · exact .inl h
  · exact .inr ⟨b,off,rfl,h.below hb h.1⟩
def RowTo (w:World) (g n:Nat) (l:List Ev) (k:Nat):Prop:=g<w.heap.size∧(∀j,j<n*7→(w.cell? ⟨g,j,none⟩).isSome=true∧w.frozen? ⟨g,j,none⟩=false)∧ ∀i,i<k→Ev.In w g (i*7) (evAt l i)
theorem RowTo.made {w w1:World} {z:List Value} {n:Nat} {l:List Ev} (h:w1.ownsRow w.heap.size 90 7 (.slice (some ⟨w.heap.size,0,none⟩) n n) n z):RowTo w1 w.heap.size n l 0:=by
  obtain⟨hl,h|⟨g,cap,cur,e,hg,hc,h1,h2,h3,h4⟩⟩:=h
  · simp at h
  · simp at e
    obtain⟨rfl,rfl⟩:=e
    have hlt:w.heap.size<w1.heap.size:=(Array.getElem?_eq_some_iff.1 hc).1
    refine⟨hlt,fun j hj=> ?_,fun i hi=>by omega⟩
    simp [World.cell?,World.frozen?,hc,h3,hj]
theorem RowTo.below {w w':World} {B g n k:Nat} {l:List Ev} (h:RowTo w g n l k) (hb:Below B w w') (hB:g<B):RowTo w' g n l k:=
  ⟨Nat.lt_of_lt_of_le h.1 hb.size,fun j hj=>by rw [hb.cell (p:=⟨g,j,none⟩) hB,hb.frozen (p:=⟨g,j,none⟩) hB];exact h.2.1 j hj,fun i hi=>(h.2.2 i hi).below hb hB⟩
abbrev put7 (w:World) (g o:Nat) (e:Ev):World:=
  ((((((w.setCell ⟨g,o,none⟩ (.int .i64 e.t)).setCell ⟨g,o+1,none⟩ (.int .i64 e.s)).setCell ⟨g,o+2,none⟩ (.int .i64 e.q)).setCell ⟨g,o+3,none⟩ (.int .i64 e.d)).setCell ⟨g,o+4,none⟩ (.int .i64 e.k)).setCell ⟨g,o+5,none⟩ (.int .i64 e.v)).setCell ⟨g,o+6,none⟩ (.int .i64 e.g)
theorem zg7 (w:World) (g o:Nat) (e:Ev):put7 w g o e=w.setCells g o [.int .i64 e.t,.int .i64 e.s,.int .i64 e.q,.int .i64 e.d,.int .i64 e.k,.int .i64 e.v,.int .i64 e.g]:=rfl
theorem put7_in {w:World} {g o:Nat} (e:Ev) (h:∀j,j<7→(w.cell? ⟨g,o+j,none⟩).isSome=true):Ev.In (put7 w g o e) g o e:=by
  rw [zg7]
  have hin:=World.cell?_setCells_in g [.int .i64 e.t,.int .i64 e.s,.int .i64 e.q,.int .i64 e.d,.int .i64 e.k,.int .i64 e.v,.int .i64 e.g] o w (by simpa using h)
  exact⟨hin 0 (by simp),hin 1 (by simp),hin 2 (by simp),hin 3 (by simp),hin 4 (by simp),hin 5 (by simp),hin 6 (by simp)⟩
theorem zka {w:World} {g o:Nat} (e:Ev) {b p:Nat} (h:b=g→p<o∨o+7≤p):(put7 w g o e).cell? ⟨b,p,none⟩=w.cell? ⟨b,p,none⟩:=by
  rw [zg7]
  exact World.cell?_setCells_out g _ o w ⟨b,p,none⟩ (fun hb _=>by simpa using h hb)
theorem znr {w:World} {g o b p:Nat} (e e':Ev) (h:Ev.In w b p e') (hd:b=g→p+7≤o∨o+7≤p):Ev.In (put7 w g o e) b p e':=by
  have h0:=fun j (_:j<7)=>zka (w:=w) (g:=g) (o:=o) e (b:=b) (p:=p+j) (fun hb=>by have:=hd hb;omega)
  exact⟨(h0 0 (by omega)).trans h.f0,(h0 1 (by omega)).trans h.f1,(h0 2 (by omega)).trans h.f2,(h0 3 (by omega)).trans h.f3,(h0 4 (by omega)).trans h.f4,(h0 5 (by omega)).trans h.f5,(h0 6 (by omega)).trans h.f6⟩
theorem znp {w:World} {g o:Nat} (e:Ev) (h:∀j,j<7→(w.cell? ⟨g,o+j,none⟩).isSome=true) {p:Nat} (hp:(w.cell? ⟨g,p,none⟩).isSome=true):((put7 w g o e).cell? ⟨g,p,none⟩).isSome=true:=by
  by_cases hr:p<o∨o+7≤p
  · rw [zka e (fun _=>hr)];exact hp
  · obtain⟨j,rfl⟩:∃j,p=o+j:=⟨p-o,by omega⟩
    rw [zg7,World.cell?_setCells_in g _ o w (by simpa using h) j (by simp;omega)]
    rfl
theorem ziw (w:World) (g o:Nat) (e:Ev) (a:Addr):(put7 w g o e).frozen? a=w.frozen? a:=by rw [zg7];exact World.frozen?_setCells _ _ _ _ _
theorem znq (w:World) (g o:Nat) (e:Ev):(put7 w g o e).heap.size=w.heap.size:=by simp
theorem zfi {B:Nat} {a w:World} (h:Below B a w) {g:Nat} (hg:B≤g) (o:Nat) (e:Ev):Below B a (put7 w g o e):=
  ((((((h.setCell (p:=⟨g,o,none⟩) hg _).setCell (p:=⟨g,o+1,none⟩) hg _).setCell (p:=⟨g,o+2,none⟩) hg _).setCell (p:=⟨g,o+3,none⟩) hg _).setCell (p:=⟨g,o+4,none⟩) hg _).setCell (p:=⟨g,o+5,none⟩) hg _).setCell (p:=⟨g,o+6,none⟩) hg _
theorem RowTo.put {w:World} {g n k:Nat} {l:List Ev} (h:RowTo w g n l k) (hk:k<n):RowTo (put7 w g (k*7) (evAt l k)) g n l (k+1):=by
  obtain⟨h1,h2,h3⟩:=h
  have hs:∀j,j<7→(w.cell? ⟨g,k*7+j,none⟩).isSome=true:=fun j hj=>(h2 _ (by omega)).1
  refine⟨by rw [znq];exact h1,fun j hj=>⟨znp _ hs (h2 j hj).1,by rw [ziw];exact(h2 j hj).2⟩,fun i hi=> ?_⟩
  by_cases e:i=k
  · subst e;exact put7_in _ hs
  · exact znr _ _ (h3 i (by omega)) (fun _=>by omega)
theorem RowTo.cells {w:World} {g n k:Nat} {l:List Ev} (h:RowTo w g n l k) {i:Nat} (hi:i<n):∃c0 c1 c2 c3 c4 c5 c6,(w.cell? ⟨g,i*7,none⟩=some c0∧w.cell? ⟨g,i*7+1,none⟩=some c1∧w.cell? ⟨g,i*7+2,none⟩=some c2∧w.cell? ⟨g,i*7+3,none⟩=some c3∧w.cell? ⟨g,i*7+4,none⟩=some c4∧w.cell? ⟨g,i*7+5,none⟩=some c5∧w.cell? ⟨g,i*7+6,none⟩=some c6)∧
    (w.frozen? ⟨g,i*7,none⟩=false∧w.frozen? ⟨g,i*7+1,none⟩=false∧w.frozen? ⟨g,i*7+2,none⟩=false∧w.frozen? ⟨g,i*7+3,none⟩=false∧w.frozen? ⟨g,i*7+4,none⟩=false∧w.frozen? ⟨g,i*7+5,none⟩=false∧w.frozen? ⟨g,i*7+6,none⟩=false):=by
  have hh:∀j,j<7→(∃c,w.cell? ⟨g,i*7+j,none⟩=some c)∧w.frozen? ⟨g,i*7+j,none⟩=false:=fun j hj=>⟨Option.isSome_iff_exists.1 (h.2.1 _ (by omega)).1,(h.2.1 _ (by omega)).2⟩
  obtain⟨⟨c0,g0⟩,z0⟩:=hh 0 (by omega)
  obtain⟨⟨c1,g1⟩,z1⟩:=hh 1 (by omega)
  obtain⟨⟨c2,g2⟩,z2⟩:=hh 2 (by omega)
  obtain⟨⟨c3,g3⟩,z3⟩:=hh 3 (by omega)
  obtain⟨⟨c4,g4⟩,z4⟩:=hh 4 (by omega)
  obtain⟨⟨c5,g5⟩,z5⟩:=hh 5 (by omega)
  obtain⟨⟨c6,g6⟩,z6⟩:=hh 6 (by omega)
  exact⟨c0,c1,c2,c3,c4,c5,c6,⟨g0,g1,g2,g3,g4,g5,g6⟩,⟨z0,z1,z2,z3,z4,z5,z6⟩⟩
theorem RowTo.evs {w:World} {g:Nat} {l:List Ev} (h:RowTo w g l.length l l.length):EvsAt w g 0 l:=
  ⟨h.1,fun i hi=>by rw [Nat.zero_add];exact h.2.2 i hi⟩
theorem info25:(Tryz.prog.info? 90).map (fun i=>(i.zero,i.size,i.bytes))=some (some (.agg #[.int .i64 0,.int .i64 0,.int .i64 0,.int .i64 0,.int .i64 0,.int .i64 0,.int .i64 0]),7,56):=by kernel_rfl
set_option maxHeartbeats 1000000 in
theorem zdr (x:Value) (l:List Ev) (w:World) (hl:l.length≤1048576) (h:IsEvs w x l):
    Calls Tryz.prog 44 #[x] w fun e w'=>e= .returned (.slice (some ⟨w.heap.size,0,none⟩) l.length l.length)∧Below w.heap.size w w'∧RowTo w' w.heap.size l.length l l.length:=by
  obtain⟨a,cap,rfl,h1,h2,h⟩:=h
  rcases h with rfl|⟨b,off,rfl,hb,h⟩
  · obtain⟨i0,hi,hz0,hz1,hz2⟩:=info_parts info25
    go_enter Tryz.func44,Tryz.ntmps44
    go_wp2_with (at_make;refine wpList_make_full _ rfl _ _ 34 rfl w.heap.size 90 i0 _ 7 Tryz.underlying34 hi hz0 hz1 .i64 .i64 0 0 0 rfl rfl rfl rfl (by rw [hz2];omega) (by unfold maxLen;omega) (Nat.le_refl _) ?_;intro w1 hown hgrow)
    have hB1:Below w.heap.size w w1:=(Below.refl _ _).grown hgrow (Nat.le_refl _) (fun k e=>by cases e)
    have hR1:RowTo w1 w.heap.size 0 [] 0:=RowTo.made hown
    clear hown hgrow hi hz0 hz1 hz2
    go_loop [4] (fun i=>i= .int .i64 0) (fun _=>0)
    case atStart=>rfl
    case round=>
      subst hrel
      go_wp2
      go_ret
      exact⟨rfl,hB1,hR1⟩
  · have hp:(0:Int)≤(l.length:Int):=by omega
    obtain⟨i0,hi,hz0,hz1,hz2⟩:=info_parts info25
    go_enter Tryz.func44,Tryz.ntmps44
    go_wp2_with (at_make;refine wpList_make_full _ rfl _ _ 34 rfl w.heap.size 90 i0 _ 7 Tryz.underlying34 hi hz0 hz1 .i64 .i64 l.length l.length l.length rfl rfl rfl rfl (by rw [hz2];omega) (by unfold maxLen;omega) (Nat.le_refl _) ?_;intro w1 hown hgrow)
    have hB1:Below w.heap.size w w1:=(Below.refl _ _).grown hgrow (Nat.le_refl _) (fun k e=>by cases e)
    have hR1:RowTo w1 w.heap.size l.length l 0:=RowTo.made hown
    clear hown hgrow hi hz0 hz1 hz2
    go_loopw [4] (fun i wr=>∃k:Nat,k≤l.length∧i= .int .i64 k∧Below w.heap.size w wr∧RowTo wr w.heap.size l.length l k) (fun i _=>l.length-(intOf i).toNat)
    case atStart=>exact⟨0,Nat.zero_le _,rfl,hB1,hR1⟩
    case round=>
      obtain⟨k,hk,rfl,hB,hR⟩:=hrel
      have HB:=hidEvs hB
      have HR:=hidEvs hR
      by_cases hlt:k<l.length
      · obtain⟨f0,f1,f2,f3,f4,f5,f6⟩:=(h k hlt).below hB hb
        clear hB hR hB1 hR1 h
        have hg:w.heap.size<wr.heap.size:=HR.out.1
        go_wp2_with (go_at_call 114;refine(zca _ _ _ _ _ _ _ _).mono ?_;rintro e w2 ⟨rfl,hb2⟩;have HR2:Hid (RowTo w2 w.heap.size l.length l k):=HR.out.below hb2 hg;obtain⟨c0,c1,c2,c3,c4,c5,c6,⟨g0,g1,g2,g3,g4,g5,g6⟩,⟨z0,z1,z2,z3,z4,z5,z6⟩⟩:=HR2.out.cells hlt)
        go_roundw
        case rel=>exact⟨k+1,by omega,by go_num,zfi (HB.out.trans (hb2.mono (by omega))) (Nat.le_refl _) _ _,HR2.out.put hlt⟩
        case measure=>simp [intOf];omega
      · clear hB hR hB1 hR1 h
        go_wp2
        go_ret
        obtain rfl:k=l.length:=by omega
        exact⟨rfl,HB.out,HR.out⟩
def Ev.cs (e:Ev):List Value:= [.int .i64 e.t,.int .i64 e.s,.int .i64 e.q,.int .i64 e.d,.int .i64 e.k,.int .i64 e.v,.int .i64 e.g]
def yvz:List Ev→List Value
  | []=> []
  |e::l=>e.cs++yvz l
theorem ywc:∀l:List Ev,(yvz l).length=l.length*7
  | []=>rfl
  |e::l=>by simp [yvz,ywc l,Ev.cs];omega
theorem yyk:∀l l':List Ev,yvz (l++l')=yvz l++yvz l'
  | [],_=>rfl
  |e::l,l'=>by simp [yvz,yyk l l']
theorem zfa (e:Ev) (l:List Ev) (i:Nat):evAt (e::l) (i+1)=evAt l i:=by simp [evAt]
theorem yzo:∀(l:List Ev) (i r:Nat),i<l.length→r<7→(yvz l)[i*7+r]? =(evAt l i).cs[r]?
  | [],_,_,h,_=>by simp at h
  |e::l,0,r,_,hr=>by
    have:r<e.cs.length:=by simpa [Ev.cs] using hr
    simp only [yvz,Nat.zero_mul,Nat.zero_add]
    rw [List.getElem?_append_left this]
    simp [evAt]
  |e::l,i+1,r,h,hr=>by
    have h1:=yzo l i r (by simpa using h) hr
    have:e.cs.length≤(i+1)*7+r:=by simp [Ev.cs];omega
    simp only [yvz]
    rw [List.getElem?_append_right this,zfa,←h1]
    congr 1
    simp [Ev.cs];omega
theorem zmw (l:List Ev):∀u∈yvz l,u.oneCell'=true:=by
  induction l with
  |nil=>intro u h;cases h
  |cons e l ih=>
    intro u h
    rcases List.mem_append.1 h with h|h
    · simp [Ev.cs]at h
      rcases h with rfl|rfl|rfl|rfl|rfl|rfl|rfl<;>rfl
    · exact ih u h
theorem Ev.In.get {w:World} {b o:Nat} {e:Ev} (h:Ev.In w b o e) {r:Nat} {u:Value} (hu:e.cs[r]? =some u):w.cell? ⟨b,o+r,none⟩=some u:=by
  have hr:r<7:=by have:=(List.getElem?_eq_some_iff.1 hu).1;simpa [Ev.cs] using this
  have h7:r=0∨r=1∨r=2∨r=3∨r=4∨r=5∨r=6:=by omega
  rcases h7 with rfl|rfl|rfl|rfl|rfl|rfl|rfl<;>(simp [Ev.cs]at hu;subst hu)
  · exact h.f0
  · exact h.f1
  · exact h.f2
  · exact h.f3
  · exact h.f4
  · exact h.f5
  · exact h.f6
theorem addr_add (b off n:Nat):(⟨b,off,none⟩:Addr).add n=⟨b,off+n,none⟩:=by
  unfold Addr.add
  split<;>simp_all
theorem EvsAt.cells {w:World} {b off:Nat} {l:List Ev} (h:EvsAt w b off l):∀j u,(yvz l)[j]? =some u→w.cell? ((⟨b,off,none⟩:Addr).add j)=some u:=by
  intro j u hu
  have hj:j<l.length*7:=by have:=(List.getElem?_eq_some_iff.1 hu).1;rw [ywc]at this;exact this
  rw [addr_add]
  have hi:j/7<l.length:=by omega
  rw [show j=j/7*7+j%7 from by omega,yzo l _ _ hi (by omega)]at hu
  have:=(h.2 _ hi).get hu
  rw [show off+j=off+j/7*7+j%7 from by omega]
  exact this
def OwnEvs (B:Nat) (w:World) (x:Value) (l:List Ev):Prop:=∃a cap,x= .slice a l.length cap∧l.length≤cap∧cap≤maxLen∧(l= []∨ ∃g,a=some ⟨g,0,none⟩∧B≤g∧RowTo w g l.length l l.length)
theorem OwnEvs.isEvs {B:Nat} {w:World} {x:Value} {l:List Ev} (h:OwnEvs B w x l):IsEvs w x l:=by
  obtain⟨a,cap,rfl,h1,h2,h⟩:=h
  exact⟨a,cap,rfl,h1,h2,h.imp id (fun⟨g,e,_,hr⟩=>⟨g,0,e,hr.evs⟩)⟩
theorem OwnEvs.of_row {B:Nat} {w:World} {x:Value} {l:List Ev} (h:w.ownsRow B 90 7 x l.length (yvz l)):OwnEvs B w x l:=by
  obtain⟨hl,⟨rfl,h0⟩|⟨g,cap,cur,rfl,hg,hc,h1,h2,h3,h4⟩⟩:=h
  · exact⟨none,0,by rw [h0],by omega,by unfold maxLen;omega,.inl (List.eq_nil_of_length_eq_zero h0)⟩
  · refine⟨_,cap,rfl,h1,h2,.inr ⟨g,rfl,hg,(Array.getElem?_eq_some_iff.1 hc).1,fun j hj=> ?_,fun i hi=> ?_⟩⟩
    · have hj2:j<cur.size:=by rw [h3];exact Nat.lt_of_lt_of_le hj (Nat.mul_le_mul_right 7 h1)
      simp [World.cell?,World.frozen?,hc,hj2]
    · have hget:∀r,r<7→w.cell? ⟨g,i*7+r,none⟩=(evAt l i).cs[r]? :=fun r hr=>by
        rw [←yzo l i r hi hr,←h4,List.getElem?_take_of_lt (by omega)]
        simp [World.cell?,hc]
      exact⟨hget 0 (by omega),hget 1 (by omega),hget 2 (by omega),hget 3 (by omega),hget 4 (by omega),hget 5 (by omega),hget 6 (by omega)⟩
theorem znl (w:World):(w.alloc (.cells #[] 90)).ownsRow w.heap.size 90 7 (.slice (some ⟨w.heap.size,0,none⟩) 0 0) 0 []:=
  ⟨rfl,.inr ⟨w.heap.size,0,#[],rfl,Nat.le_refl _,(MapKept.heap_alloc w _).1,Nat.le_refl _,Nat.zero_le _,rfl,rfl⟩⟩
theorem hidNInts {p:Prop} (h:p):Hid p:=h
def intAt (l:List Int) (i:Nat):Int:=l.getD i 0
def intCells (l:List Int):List Value:=l.map (Value.int .i64)
def IntsAt (w:World) (b off:Nat) (l:List Int):Prop:=b<w.heap.size∧ ∀i,i<l.length→w.cell? ⟨b,off+i,none⟩=some (.int .i64 (intAt l i))
def IsI (w:World) (x:Value) (l:List Int):Prop:=∃a cap,x= .slice a l.length cap∧l.length≤cap∧cap≤maxLen∧(l= []∨ ∃b off,a=some ⟨b,off,none⟩∧IntsAt w b off l)
theorem IntsAt.below {w w':World} {B b off:Nat} {l:List Int} (h:IntsAt w b off l) (hb:Below B w w') (hB:b<B):IntsAt w' b off l:=
  ⟨Nat.lt_of_lt_of_le h.1 hb.size,fun i hi=>(hb.cell hB).trans (h.2 i hi)⟩
theorem IsI.below {w w':World} {x:Value} {l:List Int} (h:IsI w x l) (hb:Below w.heap.size w w'):IsI w' x l:=by
  obtain⟨a,cap,rfl,h1,h2,h⟩:=h
  exact⟨a,cap,rfl,h1,h2,h.imp id (fun⟨b,off,e,h⟩=>⟨b,off,e,h.below hb h.1⟩)⟩
theorem zfu (w:World) (row:Option Nat):w.grownBy w row:=⟨rfl,rfl,rfl,Nat.le_refl _,fun _ _ _=>rfl⟩
set_option maxHeartbeats 2000000 in
theorem zgo (x y:Value) (l:List Int) (w:World) (hl:l.length≤4611686018427387904) (hx:IsI w x l) (hy:IsI w y l):
    Calls Tryz.prog 53 #[x,y] w fun e w'=>e= .returned (.bool true)∧Below w.heap.size w w':=by
  obtain⟨a,cap,rfl,h1,h2,h⟩:=hx
  obtain⟨a',cap',rfl,h1',h2',h'⟩:=hy
  clear h1 h2 h1' h2'
  by_cases hz:l= []
  · subst hz
    clear h h'
    go_enter Tryz.func53,Tryz.ntmps53
    go_wp2
    go_loop [5] (fun i=>i= .int .i64 0) (fun _=>0)
    case atStart=>rfl
    case round=>
      subst hrel
      go_wp2
      go_ret
      exact⟨rfl,Below.refl _ _⟩
  · obtain⟨b,off,rfl,hb,hc⟩:=h.resolve_left hz
    obtain⟨b',off',rfl,hb',hc'⟩:=h'.resolve_left hz
    clear h h' hz
    go_enter Tryz.func53,Tryz.ntmps53
    go_wp2
    go_loopw [5] (fun i wr=>∃k:Nat,k≤l.length∧i= .int .i64 k∧Below w.heap.size w wr) (fun i _=>l.length-(intOf i).toNat)
    case atStart=>exact⟨0,Nat.zero_le _,rfl,Below.refl _ _⟩
    case round=>
      obtain⟨k,hk,rfl,hB⟩:=hrel
      have HB:=hidNInts hB
      by_cases hlt:k<l.length
      · have f0:=(hB.cell (p:=⟨b,off+k,none⟩) hb).trans (hc k hlt)
        have e0:=(hB.cell (p:=⟨b',off'+k,none⟩) hb').trans (hc' k hlt)
        generalize intAt l k=z at f0 e0
        clear hB hc hc'
        go_wp2_with fail
        go_region_held3 (fun W=>W.cell? ⟨b,off+k,none⟩=some (.int .i64 z)∧W.cell? ⟨b',off'+k,none⟩=some (.int .i64 z)) ((repeat' apply And.intro)<;>go_keep) (fail)
        go_wp2
        go_roundw
        case rel=>exact⟨k+1,by omega,by go_num,HB.out.drew⟩
        case measure=>simp [intOf];omega
      · clear hB hc hc'
        go_wp2
        go_ret
        exact⟨rfl,HB.out⟩
def OwnI (B:Nat) (w:World) (x:Value) (l:List Int):Prop:=∃a cap,x= .slice a l.length cap∧l.length≤cap∧cap≤maxLen∧(l= []∨ ∃g,a=some ⟨g,0,none⟩∧B≤g∧(∀j,j<l.length→w.frozen? ⟨g,j,none⟩=false)∧IntsAt w g 0 l)
theorem OwnI.isI {B:Nat} {w:World} {x:Value} {l:List Int} (h:OwnI B w x l):IsI w x l:=by
  obtain⟨a,cap,rfl,h1,h2,h⟩:=h
  exact⟨a,cap,rfl,h1,h2,h.imp id (fun⟨g,e,_,_,hr⟩=>⟨g,0,e,hr⟩)⟩
theorem OwnI.of_row {B:Nat} {w:World} {x:Value} {l:List Int} (h:w.ownsRow B 3 1 x l.length (intCells l)):OwnI B w x l:=by
  obtain⟨hl,⟨rfl,h0⟩|⟨g,cap,cur,rfl,hg,hc,h1,h2,h3,h4⟩⟩:=h
  · exact⟨none,0,by rw [h0],by omega,by unfold maxLen;omega,.inl (List.eq_nil_of_length_eq_zero h0)⟩
  · refine⟨_,cap,rfl,h1,h2,.inr ⟨g,rfl,hg,fun j hj=> ?_,(Array.getElem?_eq_some_iff.1 hc).1,fun i hi=> ?_⟩⟩
    · have hj2:j<cur.size:=by omega
      simp [World.frozen?,hc]
    · have e1:w.cell? ⟨g,i,none⟩=(intCells l)[i]? :=by
        rw [←h4,List.getElem?_take_of_lt (by omega)]
        simp [World.cell?,hc]
      rw [Nat.zero_add,e1]
      simp [intCells,intAt,hi]
structure O where
  c:Int
  a:Int
  b:Int
  k:Int
def oAt (l:List O) (i:Nat):O:=l.getD i ⟨0,0,0,0⟩
def hAt (l:List (List O)) (i:Nat):List O:=l.getD i []
structure Md where
  n:Int
  s:Int
  i:List Int
  h:List (List O)
  e:List Ev
  z:Int
def okO (n len c a b k:Int):Bool:=
  decide ((c=0∧0≤a∧a≤1∧0≤b∧b≤999∧k=0)∨((c=1∨c=5)∧0≤a∧a≤1∧b=0∧k=0)∨(c=6∧0≤a∧a≤1∧1≤b∧b≤999∧k=0)∨
    (c=2∧0≤a∧a<n∧1≤b∧b≤50∧0≤k∧k<len)∨(c=3∧0≤a∧a≤1∧0≤b∧b≤999∧1≤k∧k≤8)∨(c=4∧0≤a∧a≤3∧0≤b∧b≤1∧k=0))
def O.ok (n len:Int) (o:O):Bool:=okO n len o.c o.a o.b o.k
def O.cs (e:O):List Value:= [.int .i64 e.c,.int .i64 e.a,.int .i64 e.b,.int .i64 e.k]
def yyv:List O→List Value
  | []=> []
  |e::l=>e.cs++yyv l
theorem za5:∀l:List O,(yyv l).length=l.length*4
  | []=>rfl
  |e::l=>by simp [yyv,za5 l,O.cs];omega
theorem zga (e:O) (l:List O) (i:Nat):oAt (e::l) (i+1)=oAt l i:=by simp [oAt]
theorem zc4:∀(l:List O) (i r:Nat),i<l.length→r<4→(yyv l)[i*4+r]? =(oAt l i).cs[r]?
  | [],_,_,h,_=>by simp at h
  |e::l,0,r,_,hr=>by
    have:r<e.cs.length:=by simpa [O.cs] using hr
    simp only [yyv,Nat.zero_mul,Nat.zero_add]
    rw [List.getElem?_append_left this]
    simp [oAt]
  |e::l,i+1,r,h,hr=>by
    have h1:=zc4 l i r (by simpa using h) hr
    have:e.cs.length≤(i+1)*4+r:=by simp [O.cs];omega
    simp only [yyv]
    rw [List.getElem?_append_right this,zga,←h1]
    congr 1
    simp [O.cs];omega
theorem zfw (l:List O):∀u∈yyv l,u.oneCell'=true:=by
  induction l with
  |nil=>intro u h;cases h
  |cons e l ih=>
    intro u h
    rcases List.mem_append.1 h with h|h
    · simp [O.cs]at h
      rcases h with rfl|rfl|rfl|rfl<;>rfl
    · exact ih u h
def RowF (F:Nat→Prop) (w:World) (x:Value) (n c:Nat) (cs:List Value):Prop:=
  cs.length=n*c∧ ∃a cap,x= .slice a n cap∧n≤cap∧cap≤maxLen∧
    (n=0∨ ∃g,a=some ⟨g,0,none⟩∧F g∧g<w.heap.size∧ ∀j,j<n*c→w.cell? ⟨g,j,none⟩=cs[j]? ∧w.frozen? ⟨g,j,none⟩=false)
theorem RowF.turns {F S:Nat→Prop} {w w':World} {x:Value} {n c:Nat} {cs:List Value} (h:RowF F w x n c cs) (ht:Turns S w w') (hS:∀k,F k→ ¬S k):RowF F w' x n c cs:=by
  obtain⟨hl,a,cap,rfl,h1,h2,h⟩:=h
  refine⟨hl,a,cap,rfl,h1,h2,h.imp id ?_⟩
  rintro ⟨g,rfl,hF,hg,hc⟩
  exact⟨g,rfl,hF,Nat.lt_of_lt_of_le hg ht.size,fun j hj=>by rw [ht.cell hg (hS g hF),ht.frozen hg (hS g hF)];exact hc j hj⟩
theorem RowF.below {F:Nat→Prop} {w w':World} {x:Value} {n c:Nat} {cs:List Value} (h:RowF F w x n c cs) (hb:Below w.heap.size w w'):RowF F w' x n c cs:=
  h.turns (S:=fun _=>False) (Turns.of_below hb) (fun _ _=>id)
theorem RowF.mono {F F':Nat→Prop} {w:World} {x:Value} {n c:Nat} {cs:List Value} (h:RowF F w x n c cs) (hF:∀k,F k→F' k):RowF F' w x n c cs:=by
  obtain⟨hl,a,cap,rfl,h1,h2,h⟩:=h
  exact⟨hl,a,cap,rfl,h1,h2,h.imp id (fun⟨g,e,h3,h4⟩=>⟨g,e,hF g h3,h4⟩)⟩
theorem RowF.of_owns {B:Nat} {T:TypeId} {w:World} {x:Value} {n c:Nat} {cs:List Value} (hcs:cs.length=n*c) (h:w.ownsRow B T c x n cs):RowF (fun k=>B≤k∧k<w.heap.size) w x n c cs:=by
  obtain⟨hl,⟨rfl,h0⟩|⟨g,cap,cur,rfl,hg,hc,h1,h2,h3,h4⟩⟩:=h
  · exact⟨hcs,none,0,by rw [h0],by omega,by unfold maxLen;omega,.inl h0⟩
  · have hlt:g<w.heap.size:=(Array.getElem?_eq_some_iff.1 hc).1
    refine⟨hcs,_,cap,rfl,h1,h2,.inr ⟨g,rfl,⟨hg,hlt⟩,hlt,fun j hj=> ?_⟩⟩
    have hj2:j<cur.size:=by rw [h3];exact Nat.lt_of_lt_of_le hj (Nat.mul_le_mul_right c h1)
    refine⟨?_,by simp [World.frozen?,hc]⟩
    rw [←h4,List.getElem?_take_of_lt (by omega)]
    simp [World.cell?,hc]
theorem yws (l:List Int):(intCells l).length=l.length:=by simp [intCells]
theorem RowF.isI {F:Nat→Prop} {w:World} {x:Value} {l:List Int} (h:RowF F w x l.length 1 (intCells l)):IsI w x l:=by
  obtain⟨hl,a,cap,rfl,h1,h2,h⟩:=h
  refine⟨a,cap,rfl,h1,h2,h.imp List.eq_nil_of_length_eq_zero ?_⟩
  rintro ⟨g,rfl,hF,hg,hc⟩
  refine⟨g,0,rfl,hg,fun i hi=> ?_⟩
  rw [Nat.zero_add,(hc i (by omega)).1]
  simp [intCells,intAt,hi]
structure OAt (w:World) (b o:Nat) (e:O):Prop where
  f0:w.cell? ⟨b,o,none⟩=some (.int .i64 e.c)
  f1:w.cell? ⟨b,o+1,none⟩=some (.int .i64 e.a)
  f2:w.cell? ⟨b,o+2,none⟩=some (.int .i64 e.b)
  f3:w.cell? ⟨b,o+3,none⟩=some (.int .i64 e.k)
theorem OAt.below {w w':World} {B b o:Nat} {e:O} (h:OAt w b o e) (hb:Below B w w') (hlt:b<B):OAt w' b o e:=
  ⟨(hb.cell hlt).trans h.f0,(hb.cell hlt).trans h.f1,(hb.cell hlt).trans h.f2,(hb.cell hlt).trans h.f3⟩
def OsAt (w:World) (b off:Nat) (l:List O):Prop:=b<w.heap.size∧ ∀i,i<l.length→OAt w b (off+i*4) (oAt l i)
def IsO (w:World) (x:Value) (l:List O):Prop:=∃a cap,x= .slice a l.length cap∧l.length≤cap∧cap≤maxLen∧(l= []∨ ∃b off,a=some ⟨b,off,none⟩∧OsAt w b off l)
theorem OsAt.below {w w':World} {B b off:Nat} {l:List O} (h:OsAt w b off l) (hb:Below B w w') (hB:b<B):OsAt w' b off l:=
  ⟨Nat.lt_of_lt_of_le h.1 hb.size,fun i hi=>(h.2 i hi).below hb hB⟩
theorem IsO.below {w w':World} {x:Value} {l:List O} (h:IsO w x l) (hb:Below w.heap.size w w'):IsO w' x l:=by
  obtain⟨a,cap,rfl,h1,h2,h⟩:=h
  exact⟨a,cap,rfl,h1,h2,h.imp id (fun⟨b,off,e,h⟩=>⟨b,off,e,h.below hb h.1⟩)⟩
theorem RowF.isO {F:Nat→Prop} {w:World} {x:Value} {l:List O} (h:RowF F w x l.length 4 (yyv l)):IsO w x l:=by
  obtain⟨hl,a,cap,rfl,h1,h2,h⟩:=h
  refine⟨a,cap,rfl,h1,h2,h.imp List.eq_nil_of_length_eq_zero ?_⟩
  rintro ⟨g,rfl,hF,hg,hc⟩
  refine⟨g,0,rfl,hg,fun i hi=> ?_⟩
  have hget:∀r,r<4→w.cell? ⟨g,0+i*4+r,none⟩=(oAt l i).cs[r]? :=fun r hr=>by
    rw [←zc4 l i r hi hr,Nat.zero_add]
    exact(hc _ (by omega)).1
  exact⟨hget 0 (by omega),hget 1 (by omega),hget 2 (by omega),hget 3 (by omega)⟩
theorem RowF.isEvs {F:Nat→Prop} {w:World} {x:Value} {l:List Ev} (h:RowF F w x l.length 7 (yvz l)):IsEvs w x l:=by
  obtain⟨hl,a,cap,rfl,h1,h2,h⟩:=h
  refine⟨a,cap,rfl,h1,h2,h.imp List.eq_nil_of_length_eq_zero ?_⟩
  rintro ⟨g,rfl,hF,hg,hc⟩
  refine⟨g,0,rfl,hg,fun i hi=> ?_⟩
  have hget:∀r,r<7→w.cell? ⟨g,0+i*7+r,none⟩=(evAt l i).cs[r]? :=fun r hr=>by
    rw [←yzo l i r hi hr,Nat.zero_add]
    exact(hc _ (by omega)).1
  exact⟨hget 0 (by omega),hget 1 (by omega),hget 2 (by omega),hget 3 (by omega),hget 4 (by omega),hget 5 (by omega),hget 6 (by omega)⟩
def IsH (w:World) (x:Value) (l:List (List O)):Prop:=∃a cap,x= .slice a l.length cap∧l.length≤cap∧cap≤maxLen∧
  (l= []∨ ∃b off,a=some ⟨b,off,none⟩∧b<w.heap.size∧ ∀i,i<l.length→ ∃u,w.cell? ⟨b,off+i,none⟩=some u∧IsO w u (hAt l i))
theorem IsH.below {w w':World} {x:Value} {l:List (List O)} (h:IsH w x l) (hb:Below w.heap.size w w'):IsH w' x l:=by
  obtain⟨a,cap,rfl,h1,h2,h⟩:=h
  exact⟨a,cap,rfl,h1,h2,h.imp id (fun⟨b,off,e,hB,h⟩=>⟨b,off,e,Nat.lt_of_lt_of_le hB hb.size,fun i hi=>by
    obtain⟨u,hu,ho⟩:=h i hi
    exact⟨u,(hb.cell (p:=⟨b,off+i,none⟩) hB).trans hu,ho.below hb⟩⟩)⟩
def RowsF (F:Nat→Prop) (w:World) (x:Value) (n:Nat) (U:Nat→Value) (L:Nat→Nat) (C:Nat→List Value):Prop:=
  ∃(F0:Nat→Prop) (G:Nat→Nat→Prop),RowF F0 w x n 1 ((List.range n).map U)∧(∀k,F0 k→F k)∧
    (∀i,i<n→RowF (G i) w (U i) (L i) 4 (C i)∧ ∀k,G i k→F k∧ ¬F0 k)∧ ∀i j,i<n→j<n→i≠j→ ∀k,G i k→ ¬G j k
theorem RowsF.turns {F S:Nat→Prop} {w w':World} {x:Value} {n:Nat} {U:Nat→Value} {L:Nat→Nat} {C:Nat→List Value} (h:RowsF F w x n U L C) (ht:Turns S w w') (hS:∀k,F k→ ¬S k):RowsF F w' x n U L C:=by
  obtain⟨F0,G,h0,hF,h1,h2⟩:=h
  exact⟨F0,G,h0.turns ht (fun k hk=>hS k (hF k hk)),hF,fun i hi=>⟨(h1 i hi).1.turns ht (fun k hk=>hS k ((h1 i hi).2 k hk).1),(h1 i hi).2⟩,h2⟩
theorem RowsF.below {F:Nat→Prop} {w w':World} {x:Value} {n:Nat} {U:Nat→Value} {L:Nat→Nat} {C:Nat→List Value} (h:RowsF F w x n U L C) (hb:Below w.heap.size w w'):RowsF F w' x n U L C:=
  h.turns (S:=fun _=>False) (Turns.of_below hb) (fun _ _=>id)
def HsF (F:Nat→Prop) (w:World) (x:Value) (l:List (List O)):Prop:=∃U,RowsF F w x l.length U (fun i=>(hAt l i).length) (fun i=>yyv (hAt l i))
theorem HsF.isH {F:Nat→Prop} {w:World} {x:Value} {l:List (List O)} (h:HsF F w x l):IsH w x l:=by
  obtain⟨U,F0,G,⟨hl,a,cap,rfl,h1,h2,h⟩,hF,h3,_⟩:=h
  refine⟨a,cap,rfl,h1,h2,h.imp List.eq_nil_of_length_eq_zero ?_⟩
  rintro ⟨g,rfl,_,hg,hc⟩
  refine⟨g,0,rfl,hg,fun i hi=>⟨U i,?_,(h3 i hi).1.isO⟩⟩
  rw [Nat.zero_add,(hc i (by omega)).1]
  simp [hi]
def IsM (w:World) (x:Value) (m:Md):Prop:=∃vi vh vs,x= .agg #[.int .i64 m.n,.int .i64 m.s,vi,vh,vs,.int .i64 m.z]∧IsI w vi m.i∧IsH w vh m.h∧IsEvs w vs m.e
theorem IsM.below {w w':World} {x:Value} {m:Md} (h:IsM w x m) (hb:Below w.heap.size w w'):IsM w' x m:=by
  obtain⟨vi,vh,vs,rfl,h1,h2,h3⟩:=h
  exact⟨vi,vh,vs,rfl,h1.below hb,h2.below hb,h3.below hb⟩
def MdF (F:Nat→Prop) (w:World) (x:Value) (m:Md):Prop:=
  ∃(A B C:Nat→Prop) (vi vh vs:Value),x= .agg #[.int .i64 m.n,.int .i64 m.s,vi,vh,vs,.int .i64 m.z]∧RowF A w vi m.i.length 1 (intCells m.i)∧HsF B w vh m.h∧RowF C w vs m.e.length 7 (yvz m.e)∧
    (∀k,A k→F k∧ ¬B k∧ ¬C k)∧(∀k,B k→F k∧ ¬C k)∧ ∀k,C k→F k
theorem MdF.isM {F:Nat→Prop} {w:World} {x:Value} {m:Md} (h:MdF F w x m):IsM w x m:=by
  obtain⟨A,B,C,vi,vh,vs,rfl,h1,h2,h3,_⟩:=h
  exact⟨vi,vh,vs,rfl,h1.isI,h2.isH,h3.isEvs⟩
theorem MdF.turns {F S:Nat→Prop} {w w':World} {x:Value} {m:Md} (h:MdF F w x m) (ht:Turns S w w') (hS:∀k,F k→ ¬S k):MdF F w' x m:=by
  obtain⟨A,B,C,vi,vh,vs,rfl,h1,⟨U,h2⟩,h3,h4,h5,h6⟩:=h
  exact⟨A,B,C,vi,vh,vs,rfl,h1.turns ht (fun k hk=>hS k (h4 k hk).1),⟨U,h2.turns ht (fun k hk=>hS k (h5 k hk).1)⟩,h3.turns ht (fun k hk=>hS k (h6 k hk)),h4,h5,h6⟩
theorem MdF.below {F:Nat→Prop} {w w':World} {x:Value} {m:Md} (h:MdF F w x m) (hb:Below w.heap.size w w'):MdF F w' x m:=
  h.turns (S:=fun _=>False) (Turns.of_below hb) (fun _ _=>id)
theorem MdF.mono {F F':Nat→Prop} {w:World} {x:Value} {m:Md} (h:MdF F w x m) (hF:∀k,F k→F' k):MdF F' w x m:=by
  obtain⟨A,B,C,vi,vh,vs,rfl,h1,h2,h3,h4,h5,h6⟩:=h
  exact⟨A,B,C,vi,vh,vs,rfl,h1,h2,h3,fun k hk=>⟨hF k (h4 k hk).1,(h4 k hk).2⟩,fun k hk=>⟨hF k (h5 k hk).1,(h5 k hk).2⟩,fun k hk=>hF k (h6 k hk)⟩
theorem hidVTo {p:Prop} (h:p):Hid p:=h
def RowI (w:World) (g:Nat) (l:List Int):Prop:=g<w.heap.size∧ ∀j,j<l.length→w.cell? ⟨g,j,none⟩=some (.int .i64 (intAt l j))∧w.frozen? ⟨g,j,none⟩=false
abbrev sl (g n:Nat):Value:= .slice (some ⟨g,0,none⟩) n n
def FillI (w:World) (g n:Nat) (l:List Int) (k:Nat):Prop:=g<w.heap.size∧(∀j,j<n→(w.cell? ⟨g,j,none⟩).isSome=true∧w.frozen? ⟨g,j,none⟩=false)∧ ∀i,i<k→w.cell? ⟨g,i,none⟩=some (.int .i64 (intAt l i))
theorem FillI.row {w:World} {g:Nat} {l:List Int} (h:FillI w g l.length l l.length):RowI w g l:=⟨h.1,fun j hj=>⟨h.2.2 j hj,(h.2.1 j hj).2⟩⟩
theorem FillI.put {w:World} {g n k:Nat} {l:List Int} (h:FillI w g n l k) (hk:k<n):FillI (w.setCell ⟨g,k,none⟩ (.int .i64 (intAt l k))) g n l (k+1):=by
  have e1:w.setCell ⟨g,k,none⟩ (.int .i64 (intAt l k))=w.setCells g k [.int .i64 (intAt l k)]:=rfl
  have hsame:∀j,j≠k→(w.setCell ⟨g,k,none⟩ (.int .i64 (intAt l k))).cell? ⟨g,j,none⟩=w.cell? ⟨g,j,none⟩:=fun j hj=>by
    rw [e1]
    exact World.cell?_setCells_out g _ k w ⟨g,j,none⟩ (fun _ _=>by simp;omega)
  have hat:(w.setCell ⟨g,k,none⟩ (.int .i64 (intAt l k))).cell? ⟨g,k,none⟩=some (.int .i64 (intAt l k)):=by
    rw [e1]
    have h0:=World.cell?_setCells_in g [.int .i64 (intAt l k)] k w (fun j hj=>by
      obtain rfl:j=0:=by simpa using hj
      exact(h.2.1 k hk).1) 0 (by simp)
    simpa using h0
  refine⟨by simpa using h.1,fun j hj=> ?_,fun i hi=> ?_⟩
  · refine⟨?_,?_⟩
    · by_cases e:j=k
      · subst e;rw [hat];rfl
      · rw [hsame j e];exact(h.2.1 j hj).1
    · rw [e1,World.frozen?_setCells];exact(h.2.1 j hj).2
  · by_cases e:i=k
    · subst e;exact hat
    · rw [hsame i e];exact h.2.2 i (by omega)
theorem FillI.made {w1:World} {B:Nat} {z:List Value} {n:Nat} {l:List Int} (h:w1.ownsRow B 3 1 (.slice (some ⟨B,0,none⟩) n n) n z):FillI w1 B n l 0:=by
  obtain⟨hl,h|⟨g,cap,cur,e,hg,hc,h1,h2,h3,h4⟩⟩:=h
  · simp at h
  · simp at e
    obtain⟨rfl,rfl⟩:=e
    have hlt:B<w1.heap.size:=(Array.getElem?_eq_some_iff.1 hc).1
    refine⟨hlt,fun j hj=> ?_,fun i hi=>by omega⟩
    have hj2:j<cur.size:=by omega
    simp [World.cell?,World.frozen?,hc,hj2]
theorem zf8:(Tryz.prog.info? 3).map (fun i=>(i.zero,i.size,i.bytes))=some (some (.int .i64 0),1,8):=by kernel_rfl
theorem info_parts {i:TypeId} {z:Option Value} {s b:Nat} (h:(Tryz.prog.info? i).map (fun i=>(i.zero,i.size,i.bytes))=some (z,s,b)):∃i0,Tryz.prog.info? i=some i0∧i0.zero=z∧i0.size=s∧i0.bytes=b:=by
  obtain⟨i0,h1,h2⟩:=Option.map_eq_some_iff.1 h
  simp only [Prod.mk.injEq]at h2
  exact⟨i0,h1,h2.1,h2.2.1,h2.2.2⟩
set_option maxHeartbeats 1000000 in
theorem zin (x:Value) (l:List Int) (w:World) (hl:l.length≤1048576) (h:IsI w x l):
    Calls Tryz.prog 41 #[x] w fun e w'=>e= .returned (sl w.heap.size l.length)∧Below w.heap.size w w'∧RowI w' w.heap.size l:=by
  obtain⟨a,cap,rfl,h1,h2,h⟩:=h
  rcases h with rfl|⟨b,off,rfl,hb,h⟩
  · obtain⟨i0,hi,hz0,hz1,hz2⟩:=info_parts zf8
    go_enter Tryz.func41,Tryz.ntmps41
    go_wp2_with (at_make;refine wpList_make_full _ rfl _ _ 22 rfl w.heap.size 3 i0 _ 1 Tryz.underlying22 hi hz0 hz1 .i64 .i64 0 0 0 rfl rfl rfl rfl (by rw [hz2];omega) (by unfold maxLen;omega) (Nat.le_refl _) ?_;intro w1 hown hgrow)
    have hB1:Below w.heap.size w w1:=(Below.refl _ _).grown hgrow (Nat.le_refl _) (fun k e=>by cases e)
    have hR1:RowI w1 w.heap.size []:=(FillI.made (n:=0) (l:= []) hown).row
    clear hown hgrow hi hz0 hz1 hz2
    go_loop [4] (fun i=>i= .int .i64 0) (fun _=>0)
    case atStart=>rfl
    case round=>
      subst hrel
      go_wp2
      go_ret
      exact⟨rfl,hB1,hR1⟩
  · have hp:(0:Int)≤(l.length:Int):=by omega
    obtain⟨i0,hi,hz0,hz1,hz2⟩:=info_parts zf8
    go_enter Tryz.func41,Tryz.ntmps41
    go_wp2_with (at_make;refine wpList_make_full _ rfl _ _ 22 rfl w.heap.size 3 i0 _ 1 Tryz.underlying22 hi hz0 hz1 .i64 .i64 l.length l.length l.length rfl rfl rfl rfl (by rw [hz2];omega) (by unfold maxLen;omega) (Nat.le_refl _) ?_;intro w1 hown hgrow)
    have hB1:Below w.heap.size w w1:=(Below.refl _ _).grown hgrow (Nat.le_refl _) (fun k e=>by cases e)
    have hR1:FillI w1 w.heap.size l.length l 0:=FillI.made hown
    clear hown hgrow hi hz0 hz1 hz2
    go_loopw [4] (fun i wr=>∃k:Nat,k≤l.length∧i= .int .i64 k∧Below w.heap.size w wr∧FillI wr w.heap.size l.length l k) (fun i _=>l.length-(intOf i).toNat)
    case atStart=>exact⟨0,Nat.zero_le _,rfl,hB1,hR1⟩
    case round=>
      obtain⟨k,hk,rfl,hB,hR⟩:=hrel
      have HB:=hidVTo hB
      have HR:=hidVTo hR
      by_cases hlt:k<l.length
      · have f0:=(hB.cell (p:=⟨b,off+k,none⟩) hb).trans (h k hlt)
        obtain⟨v,hv⟩:=Option.isSome_iff_exists.1 (hR.2.1 k hlt).1
        have hf:=(hR.2.1 k hlt).2
        clear hB hR hB1 hR1 h
        go_wp2
        go_roundw
        case rel=>exact⟨k+1,by omega,by go_num,HB.out.setCell (Nat.le_refl _) _,HR.out.put hlt⟩
        case measure=>simp [intOf];omega
      · clear hB hR hB1 hR1 h
        go_wp2
        go_ret
        obtain rfl:k=l.length:=by omega
        exact⟨rfl,HB.out,HR.out.row⟩
set_option maxHeartbeats 1000000
open Go.RowKit
theorem hidMTo {p:Prop} (h:p):Hid p:=h
theorem toOp_any (c a b k:Int) (w:World):
    Calls Tryz.prog 241 #[.agg #[.int .i64 c,.int .i64 a,.int .i64 b,.int .i64 k]] w fun e w'=>
      e= .returned (.agg #[.int .i64 c,.int .i64 a,.int .i64 b,.int .i64 k])∧Below w.heap.size w w':=by
  go_enter Tryz.func241,Tryz.ntmps241
  go_wp2
  exact bodyPost_ret (v:= .agg #[.int .i64 c,.int .i64 a,.int .i64 b,.int .i64 k]) (by simp [results,Tryz.results241,go_sem]) rfl
    ⟨rfl,(((Below.refl _ _).alloc (Nat.le_refl _) _).alloc (by simp) _).alloc (by simp;omega) _⟩
def FillO (w:World) (g n:Nat) (l:List O) (k:Nat):Prop:=g<w.heap.size∧(∀j,j<n*4→(w.cell? ⟨g,j,none⟩).isSome=true∧w.frozen? ⟨g,j,none⟩=false)∧ ∀i,i<k→OAt w g (i*4) (oAt l i)
theorem FillO.made {B:Nat} {w1:World} {z:List Value} {n:Nat} {l:List O} (h:w1.ownsRow B 244 4 (.slice (some ⟨B,0,none⟩) n n) n z):FillO w1 B n l 0:=by
  obtain⟨hl,h|⟨g,cap,cur,e,hg,hc,h1,h2,h3,h4⟩⟩:=h
  · simp at h
  · simp at e
    obtain⟨rfl,rfl⟩:=e
    have hlt:B<w1.heap.size:=(Array.getElem?_eq_some_iff.1 hc).1
    refine⟨hlt,fun j hj=> ?_,fun i hi=>by omega⟩
    simp [World.cell?,World.frozen?,hc,h3,hj]
theorem FillO.below {w w':World} {B g n k:Nat} {l:List O} (h:FillO w g n l k) (hb:Below B w w') (hB:g<B):FillO w' g n l k:=
  ⟨Nat.lt_of_lt_of_le h.1 hb.size,fun j hj=>by rw [hb.cell (p:=⟨g,j,none⟩) hB,hb.frozen (p:=⟨g,j,none⟩) hB];exact h.2.1 j hj,fun i hi=>(h.2.2 i hi).below hb hB⟩
abbrev putO (w:World) (g o:Nat) (e:O):World:=
  (((w.setCell ⟨g,o,none⟩ (.int .i64 e.c)).setCell ⟨g,o+1,none⟩ (.int .i64 e.a)).setCell ⟨g,o+2,none⟩ (.int .i64 e.b)).setCell ⟨g,o+3,none⟩ (.int .i64 e.k)
theorem zg6 (w:World) (g o:Nat) (e:O):putO w g o e=w.setCells g o [.int .i64 e.c,.int .i64 e.a,.int .i64 e.b,.int .i64 e.k]:=rfl
theorem putO_in {w:World} {g o:Nat} (e:O) (h:∀j,j<4→(w.cell? ⟨g,o+j,none⟩).isSome=true):OAt (putO w g o e) g o e:=by
  rw [zg6]
  have hin:=World.cell?_setCells_in g [.int .i64 e.c,.int .i64 e.a,.int .i64 e.b,.int .i64 e.k] o w (by simpa using h)
  exact⟨hin 0 (by simp),hin 1 (by simp),hin 2 (by simp),hin 3 (by simp)⟩
theorem zk9 {w:World} {g o:Nat} (e:O) {b p:Nat} (h:b=g→p<o∨o+4≤p):(putO w g o e).cell? ⟨b,p,none⟩=w.cell? ⟨b,p,none⟩:=by
  rw [zg6]
  exact World.cell?_setCells_out g _ o w ⟨b,p,none⟩ (fun hb _=>by simpa using h hb)
theorem putO_oAt {w:World} {g o b p:Nat} (e e':O) (h:OAt w b p e') (hd:b=g→p+4≤o∨o+4≤p):OAt (putO w g o e) b p e':=by
  have h0:=fun j (_:j<4)=>zk9 (w:=w) (g:=g) (o:=o) e (b:=b) (p:=p+j) (fun hb=>by have:=hd hb;omega)
  exact⟨(h0 0 (by omega)).trans h.f0,(h0 1 (by omega)).trans h.f1,(h0 2 (by omega)).trans h.f2,(h0 3 (by omega)).trans h.f3⟩
theorem znm {w:World} {g o:Nat} (e:O) (h:∀j,j<4→(w.cell? ⟨g,o+j,none⟩).isSome=true) {p:Nat} (hp:(w.cell? ⟨g,p,none⟩).isSome=true):((putO w g o e).cell? ⟨g,p,none⟩).isSome=true:=by
  by_cases hr:p<o∨o+4≤p
  · rw [zk9 e (fun _=>hr)];exact hp
  · obtain⟨j,rfl⟩:∃j,p=o+j:=⟨p-o,by omega⟩
    rw [zg6,World.cell?_setCells_in g _ o w (by simpa using h) j (by simp;omega)]
    rfl
theorem ziv (w:World) (g o:Nat) (e:O) (a:Addr):(putO w g o e).frozen? a=w.frozen? a:=by rw [zg6];exact World.frozen?_setCells _ _ _ _ _
theorem znn (w:World) (g o:Nat) (e:O):(putO w g o e).heap.size=w.heap.size:=by simp
theorem zlq {B:Nat} {a w:World} (h:Below B a w) {g:Nat} (hg:B≤g) (o:Nat) (e:O):Below B a (putO w g o e):=
  (((h.setCell (p:=⟨g,o,none⟩) hg _).setCell (p:=⟨g,o+1,none⟩) hg _).setCell (p:=⟨g,o+2,none⟩) hg _).setCell (p:=⟨g,o+3,none⟩) hg _
theorem FillO.put {w:World} {g n k:Nat} {l:List O} (h:FillO w g n l k) (hk:k<n):FillO (putO w g (k*4) (oAt l k)) g n l (k+1):=by
  obtain⟨h1,h2,h3⟩:=h
  have hs:∀j,j<4→(w.cell? ⟨g,k*4+j,none⟩).isSome=true:=fun j hj=>(h2 _ (by omega)).1
  refine⟨by rw [znn];exact h1,fun j hj=>⟨znm _ hs (h2 j hj).1,by rw [ziv];exact(h2 j hj).2⟩,fun i hi=> ?_⟩
  by_cases e:i=k
  · subst e;exact putO_in _ hs
  · exact putO_oAt _ _ (h3 i (by omega)) (fun _=>by omega)
theorem FillO.cells {w:World} {g n k:Nat} {l:List O} (h:FillO w g n l k) {i:Nat} (hi:i<n):∃c0 c1 c2 c3,(w.cell? ⟨g,i*4,none⟩=some c0∧w.cell? ⟨g,i*4+1,none⟩=some c1∧w.cell? ⟨g,i*4+2,none⟩=some c2∧w.cell? ⟨g,i*4+3,none⟩=some c3)∧
    (w.frozen? ⟨g,i*4,none⟩=false∧w.frozen? ⟨g,i*4+1,none⟩=false∧w.frozen? ⟨g,i*4+2,none⟩=false∧w.frozen? ⟨g,i*4+3,none⟩=false):=by
  have hh:∀j,j<4→(∃c,w.cell? ⟨g,i*4+j,none⟩=some c)∧w.frozen? ⟨g,i*4+j,none⟩=false:=fun j hj=>⟨Option.isSome_iff_exists.1 (h.2.1 _ (by omega)).1,(h.2.1 _ (by omega)).2⟩
  obtain⟨⟨c0,g0⟩,z0⟩:=hh 0 (by omega)
  obtain⟨⟨c1,g1⟩,z1⟩:=hh 1 (by omega)
  obtain⟨⟨c2,g2⟩,z2⟩:=hh 2 (by omega)
  obtain⟨⟨c3,g3⟩,z3⟩:=hh 3 (by omega)
  exact⟨c0,c1,c2,c3,⟨g0,g1,g2,g3⟩,⟨z0,z1,z2,z3⟩⟩
theorem OAt.get {w:World} {b o:Nat} {e:O} (h:OAt w b o e) {r:Nat} (hr:r<4):w.cell? ⟨b,o+r,none⟩=e.cs[r]? :=by
  have h4:r=0∨r=1∨r=2∨r=3:=by omega
  rcases h4 with rfl|rfl|rfl|rfl
  · exact h.f0
  · exact h.f1
  · exact h.f2
  · exact h.f3
theorem FillO.row {w:World} {g:Nat} {l:List O} (h:FillO w g l.length l l.length) (hl:l.length≤maxLen):RowF (fun k=>k=g) w (sl g l.length) l.length 4 (yyv l):=by
  refine⟨za5 l,_,_,rfl,Nat.le_refl _,hl,.inr ⟨g,rfl,rfl,h.1,fun j hj=>⟨?_,(h.2.1 j hj).2⟩⟩⟩
  have hi:j/4<l.length:=by omega
  have h1:=(h.2.2 _ hi).get (r:=j%4) (by omega)
  rw [←zc4 l _ _ hi (by omega)]at h1
  rw [show j=j/4*4+j%4 from by omega]
  exact h1
theorem zki:(Tryz.prog.info? 244).map (fun i=>(i.zero,i.size,i.bytes))=some (some (.agg #[.int .i64 0,.int .i64 0,.int .i64 0,.int .i64 0]),4,32):=by kernel_rfl
theorem zn7 (x:Value) (l:List O) (w:World) (hl:l.length≤1048576) (h:IsO w x l):
    Calls Tryz.prog 181 #[x] w fun e w'=>e= .returned (sl w.heap.size l.length)∧Below w.heap.size w w'∧FillO w' w.heap.size l.length l l.length:=by
  obtain⟨a,cap,rfl,h1,h2,h⟩:=h
  rcases h with rfl|⟨b,off,rfl,hb,h⟩
  · obtain⟨i0,hi,hz0,hz1,hz2⟩:=info_parts zki
    go_enter Tryz.func181,Tryz.ntmps181
    go_wp2_with (at_make;refine wpList_make_full _ rfl _ _ 241 rfl w.heap.size 244 i0 _ 4 Tryz.underlying241 hi hz0 hz1 .i64 .i64 0 0 0 rfl rfl rfl rfl (by rw [hz2];omega) (by unfold maxLen;omega) (Nat.le_refl _) ?_;intro w1 hown hgrow)
    have hB1:Below w.heap.size w w1:=(Below.refl _ _).grown hgrow (Nat.le_refl _) (fun k e=>by cases e)
    have hR1:FillO w1 w.heap.size 0 [] 0:=FillO.made hown
    clear hown hgrow hi hz0 hz1 hz2
    go_loop [4] (fun i=>i= .int .i64 0) (fun _=>0)
    case atStart=>rfl
    case round=>
      subst hrel
      go_wp2
      go_ret
      exact⟨rfl,hB1,hR1⟩
  · have hp:(0:Int)≤(l.length:Int):=by omega
    obtain⟨i0,hi,hz0,hz1,hz2⟩:=info_parts zki
    go_enter Tryz.func181,Tryz.ntmps181
    go_wp2_with (at_make;refine wpList_make_full _ rfl _ _ 241 rfl w.heap.size 244 i0 _ 4 Tryz.underlying241 hi hz0 hz1 .i64 .i64 l.length l.length l.length rfl rfl rfl rfl (by rw [hz2];omega) (by unfold maxLen;omega) (Nat.le_refl _) ?_;intro w1 hown hgrow)
    have hB1:Below w.heap.size w w1:=(Below.refl _ _).grown hgrow (Nat.le_refl _) (fun k e=>by cases e)
    have hR1:FillO w1 w.heap.size l.length l 0:=FillO.made hown
    clear hown hgrow hi hz0 hz1 hz2
    go_loopw [4] (fun i wr=>∃k:Nat,k≤l.length∧i= .int .i64 k∧Below w.heap.size w wr∧FillO wr w.heap.size l.length l k) (fun i _=>l.length-(intOf i).toNat)
    case atStart=>exact⟨0,Nat.zero_le _,rfl,hB1,hR1⟩
    case round=>
      obtain⟨k,hk,rfl,hB,hR⟩:=hrel
      have HB:=hidMTo hB
      have HR:=hidMTo hR
      by_cases hlt:k<l.length
      · obtain⟨f0,f1,f2,f3⟩:=(h k hlt).below hB hb
        clear hB hR hB1 hR1 h
        have hg:w.heap.size<wr.heap.size:=HR.out.1
        go_wp2_with (go_at_call 241;refine(toOp_any _ _ _ _ _).mono ?_;rintro e w2 ⟨rfl,hb2⟩;have HR2:Hid (FillO w2 w.heap.size l.length l k):=HR.out.below hb2 hg;obtain⟨c0,c1,c2,c3,⟨g0,g1,g2,g3⟩,⟨z0,z1,z2,z3⟩⟩:=HR2.out.cells hlt)
        go_roundw
        case rel=>exact⟨k+1,by omega,by go_num,zlq (HB.out.trans (hb2.mono (by omega))) (Nat.le_refl _) _ _,HR2.out.put hlt⟩
        case measure=>simp [intOf];omega
      · clear hB hR hB1 hR1 h
        go_wp2
        go_ret
        obtain rfl:k=l.length:=by omega
        exact⟨rfl,HB.out,HR.out⟩
end Go.Proofs.YtghndljgadpijaaGreat

