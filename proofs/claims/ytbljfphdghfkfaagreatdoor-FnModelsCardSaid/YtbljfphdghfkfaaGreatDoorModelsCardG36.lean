/- Each, EvOk, CMem, CPl -/
import Derived.Test.YtbljfphdghfkfaaGreatDoorModelsCardG05
import Derived.RangeFuncNested
import Derived.RangeFuncBound
import Derived.RangeFuncCalls
import Derived.RangeFuncLeaves
import Derived.RangeFuncBox
import Derived.Shelf.Abstract
import Derived.Shelf.RegionOpen
import Derived.OwnWalkIn
import Derived.TacticsInMore
import Derived.LoopNIn
import Derived.LoopIn
import Derived.Test.YtbljfphdghfkfaaGreatDoorModelsCardG03
import Derived.Test.YtbljfphdghfkfaaGreatDoorModelsCardLOkS
import Derived.Test.YtbljfphdghfkfaaGreatDoorModelsCardG07
import Derived.Test.YtbljfphdghfkfaaGreatDoorModelsCardG17
import Derived.Test.YtbljfphdghfkfaaGreatDoorModelsCardG25
import Derived.Test.YtbljfphdghfkfaaGreatDoorModelsCardG35
/- The program's iterator over the events of a list: what it hands to its loop. -/
namespace Go.Proofs.YtbljfphdghfkfaaGreatDoor
open Go.RowKit Go.Shelf
attribute [local go_sem] Oper.semAt_some
theorem fin_take_succ (n k : Nat) (h : k < n) : (List.finRange n).take (k + 1) = (List.finRange n).take k ++ [⟨k, h⟩] := by
 rw [List.take_succ_eq_append_getElem (by simpa using h)]; simp
theorem fin_take_length (n k : Nat) (h : k ≤ n) : ((List.finRange n).take k).length = k := by simp [h]
abbrev evArgs (l : List Ev) (x : Fin l.length) : Array Value := #[.int .i64 ((x.val : Nat) : Int), (evAt l x.val).val]
def Same2 (c b : Nat) (A B : World) : Prop := B.heap[c]? = A.heap[c]? ∧ B.heap[b]? = A.heap[b]?
theorem Same2.refl (c b : Nat) (A : World) : Same2 c b A A := ⟨rfl, rfl⟩
theorem Same2.trans {c b : Nat} {A B C : World} (h : Same2 c b A B) (k : Same2 c b B C) : Same2 c b A C := ⟨k.1.trans h.1, k.2.trans h.2⟩
theorem Same2.below {c b n : Nat} {A B : World} (h : Below n A B) (hc : c < n) (hb : b < n) : Same2 c b A B := ⟨h.block c hc, h.block b hb⟩
theorem Same2.putObj {c b : Nat} {w : World} (hc : c < w.heap.size) (hb : b < w.heap.size) (W : World) (l : Nat) (o o' : Obj) (hl : w.heap.size ≤ l) (_ : W.heap[l]? = some o) (_ : o.isCells = false) (_ : o.isWalk = false) : Same2 c b W (W.putObj l o') :=
 ⟨World.putObj_heap_other (by omega), World.putObj_heap_other (by omega)⟩
theorem Same2.cell1 {c b : Nat} {A B : World} (h : Same2 c b A B) (o : Nat) : B.cell? ⟨c, o, none⟩ = A.cell? ⟨c, o, none⟩ := World.cell?_of_block (w := A) h.1
theorem Same2.cell2 {c b : Nat} {A B : World} (h : Same2 c b A B) (o : Nat) : B.cell? ⟨b, o, none⟩ = A.cell? ⟨b, o, none⟩ := World.cell?_of_block (w := A) h.2
theorem Same2.ev {c b o : Nat} {A B : World} {e : Ev} (h : Same2 c b A B) (k : Ev.In A b o e) : Ev.In B b o e :=
 ⟨(h.cell2 _).trans k.f0, (h.cell2 _).trans k.f1, (h.cell2 _).trans k.f2, (h.cell2 _).trans k.f3, (h.cell2 _).trans k.f4, (h.cell2 _).trans k.f5, (h.cell2 _).trans k.f6⟩
set_option maxRecDepth 100000 in
set_option maxHeartbeats 2000000 in
theorem each1_in (F : Fence) (n : Nat) (h49 : F.fn 103) (hro : F.round = none) (hn : 1 ≤ n) (lp Bs b off cap : Nat) (l : List Ev) (hreach : l.length ≤ 1048576) (J Jx : List (Fin l.length) → World → Prop)
  (hY : ∀ pre x W, J pre W → pre.length < l.length → YieldAt F (n - 1) Tryz.prog lp (evArgs l x) W fun e W' =>
   (e = .returned (.bool true) ∧ J (pre ++ [x]) W' ∧ Same2 Bs b W W') ∨ (e = .returned (.bool false) ∧ Jx (pre ++ [x]) W'))
  (W : World) (hBs : W.cell? ⟨Bs, 0, none⟩ = some (.slice (some ⟨b, off, none⟩) l.length cap)) (hc : ∀ i, i < l.length → Ev.In W b (off + i * 7) (evAt l i)) (h0 : J [] W) :
  CallsIn F n Tryz.prog 103 #[.func (.yield lp) #[] #[], .pointer (some ⟨Bs, 0, none⟩)] W fun e W' => (∃ v, e = .returned v) ∧
   ((∃ ys, ys = List.finRange l.length ∧ J ys W') ∨ (∃ pre, (∃ k, k ≤ l.length ∧ pre = (List.finRange l.length).take k) ∧ Jx pre W')) := by
 refine callsIn_of_wp Tryz.func103 rfl h49 ?_ hro
 simp only [Tryz.ntmps103, List.size_toArray, List.length_cons, List.length_nil, Nat.reduceAdd, Nat.reduceSub, Array.replicate_succ, Array.replicate_zero, List.push_toArray, List.append_toArray, List.nil_append, List.cons_append]
 gi_wp2
 gi_loopw [6] (fun i wr => ∃ k : Nat, k ≤ l.length ∧ i = .int .i64 k ∧ J ((List.finRange l.length).take k) wr ∧ Same2 Bs b W wr)
  (fun i _ => l.length - (intOf i).toNat)
 case atStart => exact ⟨0, Nat.zero_le _, rfl, by simpa using h0, Same2.refl _ _ _⟩
 case round =>
  obtain ⟨k, hk, rfl, hJs, hnx⟩ := hrel
  have hBs' : wr.cell? ⟨Bs, 0, none⟩ = some (.slice (some ⟨b, off, none⟩) l.length cap) := (hnx.cell1 0).trans hBs
  by_cases hlt : k < l.length
  ·have hy0 := hY _ ⟨k, hlt⟩ wr hJs (by rw [fin_take_length _ _ hk]; exact hlt)
   rw [← fin_take_succ _ _ hlt] at hy0
   obtain ⟨fn, tmps, assign, body, hy, hR⟩ := hy0
   simp only [evArgs] at hy
   obtain ⟨f0, f1, f2, f3, f4, f5, f6⟩ := hnx.ev (hc k hlt)
   have HC : Hid (∀ i, i < l.length → Ev.In W b (off + i * 7) (evAt l i)) := hc
   clear hc hY
   gi_wp2
   refine hR.mono ?_
   rintro e W3 (⟨rfl, hJ3, hk3⟩ | ⟨rfl, hJx3⟩)
   ·gi_wp2
    go_roundw
    case rel => exact ⟨k + 1, by omega, by simp, hJ3, hnx.trans hk3⟩
    case measure => simp [intOf]; omega
   ·gi_wp2
    refine bodyPost_ret (results_none rfl _ _ _) rfl ?_
    exact ⟨⟨_, rfl⟩, .inr ⟨_, ⟨k + 1, by omega, rfl⟩, hJx3⟩⟩
  ·obtain rfl : k = l.length := by omega
   gi_wp2
   go_end0
   exact ⟨⟨_, rfl⟩, .inl ⟨_, rfl, by rw [List.take_of_length_le (by simp)] at hJs; exact hJs⟩⟩
set_option maxRecDepth 100000 in
set_option maxHeartbeats 1000000 in
theorem each1_nil (F : Fence) (n : Nat) (h49 : F.fn 103) (hro : F.round = none) (lp Bs cap : Nat) (a : Option Addr) (J : List (Fin 0) → World → Prop) (W : World) (hBs : W.cell? ⟨Bs, 0, none⟩ = some (.slice a 0 cap)) (h0 : J [] W) :
  CallsIn F n Tryz.prog 103 #[.func (.yield lp) #[] #[], .pointer (some ⟨Bs, 0, none⟩)] W fun e W' => (∃ v, e = .returned v) ∧ J [] W' := by
 refine callsIn_of_wp Tryz.func103 rfl h49 ?_ hro
 simp only [Tryz.ntmps103, List.size_toArray, List.length_cons, List.length_nil, Nat.reduceAdd, Nat.reduceSub, Array.replicate_succ, Array.replicate_zero, List.push_toArray, List.append_toArray, List.nil_append, List.cons_append]
 gi_wp2
 gi_loopw [6] (fun i wr => i = .int .i64 0 ∧ J [] wr) (fun _ _ => 0)
 case atStart => exact ⟨rfl, h0⟩
 case round =>
  obtain ⟨rfl, hJs⟩ := hrel
  gi_wp2
  go_end0
  exact ⟨⟨_, rfl⟩, hJs⟩
set_option maxHeartbeats 1000000 in
theorem each_any (a : Option Addr) (len cap : Nat) (w : World) :
  Calls Tryz.prog 95 #[.slice a len cap] w fun e w' => e = .returned (.func (.func 103) #[] #[.pointer (some ⟨w.heap.size, 0, none⟩)]) ∧ w' = w.alloc (.cells #[.slice a len cap] 25) := by
 go_enter Tryz.func95, Tryz.ntmps95
 go_wp2
 go_ret
 exact ⟨rfl, rfl⟩
theorem each_stops (F : Fence) (n : Nat) (h49 : F.fn 103) (hro : F.round = none) (hn : 1 ≤ n) (c b : Nat) (a : Option Addr) (cap : Nat) (l : List Ev) (hreach : l.length ≤ 1048576) (w : World) (hcs : c < w.heap.size)
  (hc : w.cell? ⟨c, 0, none⟩ = some (.slice a l.length cap)) (hI : l = [] ∨ ∃ off, a = some ⟨b, off, none⟩ ∧ EvsAt w b off l) :
  SeqStopsK F n Tryz.prog 103 #[.pointer (some ⟨c, 0, none⟩)] (evArgs l) (Same2 c b) (fun ys => ys = List.finRange l.length) (fun pre => ∃ k, k ≤ l.length ∧ pre = (List.finRange l.length).take k) l.length w := fun lp J Jx W hW _ _ hY h0 => by
 have hc' := (hW.cell (p := ⟨c, 0, none⟩) hcs).trans hc
 rcases hI with rfl | ⟨off, rfl, hb, hev⟩
 ·exact (each1_nil F n h49 hro lp c cap a J W hc' h0).mono fun e W' ⟨he, hj⟩ => ⟨he, .inl ⟨_, rfl, hj⟩⟩
 ·exact each1_in F n h49 hro hn lp c b off cap l hreach J Jx hY W hc' (fun i hi => (hev i hi).below hW hb) h0
end Go.Proofs.YtbljfphdghfkfaaGreatDoor

/- The program's eventsOk. -/
namespace Go.Proofs.YtbljfphdghfkfaaGreatDoor
open Go.RowKit Go.Shelf
attribute [local go_sem] Oper.semAt_some
theorem keepsOthers_of_below {W W' : World} (h : Below W.heap.size W W') : KeepsOthers W W' := ⟨h.size, fun k _ hk _ => (h.block k (Array.getElem?_eq_some_iff.1 hk).1).trans hk⟩
theorem EvAt.kept {W W' : World} {row : Option Nat} {b o : Nat} {t s q d k v g : Int} (h : EvAt W b o t s q d k v g) (hg : W.grownBy W' row) (hr : ∀ r, row = some r → ∃ x : Obj, W.heap[r]? = some x ∧ x.isCells = false) : EvAt W' b o t s q d k v g :=
 ⟨cell_kept h.f0 hg hr, cell_kept h.f1 hg hr, cell_kept h.f2 hg hr, cell_kept h.f3 hg hr, cell_kept h.f4 hg hr, cell_kept h.f5 hg hr, cell_kept h.f6 hg hr⟩
end Go.Proofs.YtbljfphdghfkfaaGreatDoor

/- A cell that is written, and the others. -/
namespace Go.Proofs.YtbljfphdghfkfaaGreatDoor
open Go.RowKit
theorem cell_put {w : World} {g j : Nat} {u v : Value} (h : w.cell? ⟨g, j, none⟩ = some u) : (w.setCell ⟨g, j, none⟩ v).cell? ⟨g, j, none⟩ = some v := by
 have e1 : w.setCell ⟨g, j, none⟩ v = w.setCells g j [v] := rfl
 rw [e1]
 have h0 := World.cell?_setCells_in g [v] j w (fun i hi => by
  obtain rfl : i = 0 := by simpa using hi
  rw [Nat.add_zero, h]; rfl) 0 (by simp)
 simpa using h0
theorem cell_other {w : World} {g j i : Nat} {v : Value} (h : i ≠ j) : (w.setCell ⟨g, j, none⟩ v).cell? ⟨g, i, none⟩ = w.cell? ⟨g, i, none⟩ := by
 have e1 : w.setCell ⟨g, j, none⟩ v = w.setCells g j [v] := rfl
 rw [e1]
 exact World.cell?_setCells_out g _ j w ⟨g, i, none⟩ (fun _ _ => by simp; omega)
end Go.Proofs.YtbljfphdghfkfaaGreatDoor

/- The program's plan: what is in time goes onto the heap, without its tag. -/
namespace Go.Proofs.YtbljfphdghfkfaaGreatDoor
open Go.RowKit Go.Shelf
attribute [local go_sem] Oper.semAt_some
theorem wideFn (f : FuncId) : Fence.wide.fn f = True := eq_true trivial
theorem keepsOthers_of_turns {S : Nat → Prop} {W W' : World} (h : Turns S W W') (hS : ∀ k o, S k → W.heap[k]? = some o → o.isCells = true) : KeepsOthers W W' :=
 ⟨h.size, fun k o hk ho => (h.block k (Array.getElem?_eq_some_iff.1 hk).1 (fun hs => by have := hS k o hs hk; rw [ho] at this; cases this)).trans hk⟩
def evsOf (l : List Ev) (pre : List (Fin l.length)) : List Ev := pre.map fun x => evAt l x.val
theorem evsOf_all (l : List Ev) : evsOf l (List.finRange l.length) = l := by
 refine ext_ev (by simp [evsOf]) (fun j hj => ?_)
 have hj' : j < l.length := by simpa [evsOf] using hj
 unfold evsOf
 simp [evAt, hj']
theorem evsOf_snoc (l : List Ev) (pre : List (Fin l.length)) (x : Fin l.length) : evsOf l (pre ++ [x]) = evsOf l pre ++ [evAt l x.val] := by simp [evsOf]
theorem bares_snoc (l : List Ev) (e : Ev) : bares (l ++ [e]) = bares l ++ [e.bare] := by simp [bares]
theorem kept_planH {Q : Ev → Prop} {z : Int} : ∀ (l h : List Ev), Kept Q h → (∀ e ∈ l, Q e) → Kept Q (planH z h l)
 | [], _, hh, _ => hh
 | e :: l, h, hh, k => by
  refine kept_planH l _ ?_ (fun e' he => k e' (by simp [he]))
  split
  ·exact kept_pushL.2 ⟨hh, k e (by simp)⟩
  ·exact hh
theorem pl_own (B P : Nat) (v : Value) (W2 : World) {α : Type} (f : α → List Ev) : OwnFrom W2.heap.size (fun (pre : α) W3 => ∃ v', Pl W3 B P v' (f pre) ∧ NewRow W2 v v' ∧ Turns (fun k => k = P ∨ v.ownBlock = some k) W2 W3) := by
 rintro pre X Y row ⟨v', h1, h2, h3⟩ hg hr
 have hrow := fun r e => (hr r e).2
 refine ⟨v', ⟨h1.box.kept hg (fun e => ?_), ?_, h1.low⟩, h2, h3.later ⟨hg.os, hg.tape, hg.output, hg.size, fun k hk hn => hg.block k hk (fun e => hn (hr k e.symm).1)⟩⟩
 ·obtain ⟨o, ho, hc⟩ := hrow P e.symm
  have hh := h1.box
  unfold Boxed at hh
  rw [hh] at ho; cases ho; cases hc
 ·refine h1.row.kept hg ?_
  obtain ⟨_, ⟨e1, _⟩ | ⟨g1, cap1, cur1, e1, _, hc1, _⟩⟩ := h1.row
  ·subst e1; exact .inl rfl
  ·subst e1
   refine .inr (fun e => ?_)
   obtain ⟨o, ho, hc⟩ := hrow g1 e.symm
   rw [hc1] at ho; cases ho; cases hc
set_option maxRecDepth 100000 in
set_option maxHeartbeats 16000000 in
theorem plan_any (B P Cb : Nat) (v : Value) (h : List Ev) (a : Option Addr) (cap b : Nat) (l : List Ev) (z : Int) (w : World) (hB : B ≤ w.heap.size) (hp : Pl w B P v h)
  (hI : l = [] ∨ ∃ off, a = some ⟨b, off, none⟩ ∧ EvsAt w b off l) (hb : b < w.heap.size) (hbP : b ≠ P) (hbv : v.ownBlock ≠ some b)
  (hz5 : w.cell? ⟨Cb, 5, none⟩ = some (.int .i64 z)) (ht22 : w.cell? ⟨Cb, 22, none⟩ = some (pv P)) (hCb : Cb < w.heap.size) (hCP : Cb ≠ P) (hCv : v.ownBlock ≠ some Cb)
  (hsum : h.length + l.length ≤ 1048576) (hok : Kept (fun e => e.ok = true) h) (hokl : ∀ i, i < l.length → (evAt l i).bare.ok = true) :
  Calls Tryz.prog 84 #[.pointer (some ⟨Cb, 0, none⟩), .slice a l.length cap] w fun e w' => (∃ u, e = .returned u) ∧ (∃ v', Pl w' B P v' (planH z h (bares l)) ∧ NewRow w v v') ∧ Turns (fun k => k = P ∨ v.ownBlock = some k) w w' := by
 have HVW : Hid (∀ g, v.ownBlock = some g → g < w.heap.size) := fun g e => (World.ownsRow.lt hp.row g e).2
 have hPw : P < w.heap.size := hp.box.lt
 refine (callsIn_wide (n := 5)).1 ?_
 refine callsIn_of_wp_marks Tryz.func84 rfl trivial ?_ rfl
 simp only [Tryz.ntmps84, List.size_toArray, List.length_cons, List.length_nil, Nat.reduceAdd, Nat.reduceSub, Array.replicate_succ, Array.replicate_zero, List.push_toArray, List.append_toArray, List.nil_append, List.cons_append]
 gi_wp2_with (refine ⟨trivial, ?_⟩; gi_at_call 95; refine (callsIn_wide.2 (each_any _ _ _ _)).mono ?_; rintro e w' ⟨rfl, rfl⟩)
 obtain ⟨W2, hW2⟩ : ∃ W2, (w.alloc (.cells #[.pointer (some ⟨Cb, 0, none⟩)] 93)).alloc (.cells #[.slice a l.length cap] 25) = W2 := ⟨_, rfl⟩
 have hB0 : Below w.heap.size w W2 := by rw [← hW2]; exact ((Below.refl _ w).alloc (Nat.le_refl _) _).alloc (by simp) _
 have hsz : W2.heap.size = w.heap.size + 2 := by rw [← hW2]; simp
 have cC : Bk W2 w.heap.size 93 #[.pointer (some ⟨Cb, 0, none⟩)] := by rw [← hW2]; exact (Bk.new w _ _).alloc _
 have cS : Bk W2 (w.heap.size + 1) 25 #[.slice a l.length cap] := by rw [← hW2]; exact Bk.newAt (by simp) _ _
 have hP2 : Pl W2 B P v h := by rw [← hW2]; exact (hp.alloc _).alloc _
 have hz52 : W2.cell? ⟨Cb, 5, none⟩ = some (.int .i64 z) := (hB0.cell (p := ⟨Cb, 5, none⟩) hCb).trans hz5
 have ht222 : W2.cell? ⟨Cb, 22, none⟩ = some (pv P) := (hB0.cell (p := ⟨Cb, 22, none⟩) hCb).trans ht22
 have hT2 : Turns (fun k => k = P ∨ v.ownBlock = some k) w W2 := Turns.of_below hB0
 simp only [hW2]
 have HOK : Hid (Kept (fun e => e.ok = true) h) := hok
 have HOKL : Hid (∀ i, i < l.length → (evAt l i).bare.ok = true) := hokl
 have hmo : Tryz.prog.follows .mixedOrders = true := by kernel_rfl
 clear hW2 hok hokl hp hz5 ht22
 refine wpIn_rangeFunc_ownH rfl (by omega) (gf := 103) (lb := #[.pointer (some ⟨w.heap.size + 1, 0, none⟩)]) rfl trivial (enters_of Tryz.func103 (by kernel_rfl) rfl)
  (each_stops Fence.wide 4 trivial rfl (by omega) (w.heap.size + 1) b a cap l (by omega) W2 (by omega) (cS.cell (i := 0) rfl) (hI.imp id (fun ⟨off, e, h⟩ => ⟨off, e, h.below hB0 hb⟩))) Same2.trans (Same2.putObj (by omega) (by omega)) (Below.refl _ _) (fun _ => rfl)
  (fun pre W3 => ∃ v', Pl W3 B P v' (planH z h (bares (evsOf l pre))) ∧ NewRow W2 v v' ∧ Turns (fun k => k = P ∨ v.ownBlock = some k) W2 W3)
  (fun _ _ _ => False)
  (pl_own B P v W2 (fun pre => planH z h (bares (evsOf l pre))))
  (fun _ _ _ _ _ hs _ _ => hs)
  ⟨v, hP2, .inl rfl, Turns.refl _ _⟩
  (fun x a' W3 => ∃ Bx, W2.heap.size ≤ Bx ∧ Bx < W3.heap.size ∧ Ev.In W3 Bx 0 (evAt l x.val) ∧ (∃ cs, W3.heap[Bx]? = some (.cells cs 53)) ∧ (∃ u, Boxed W3 P 163 u ∧ u.ownBlock ≠ some Bx) ∧ a' = { tmps := #[.pointer (some ⟨Cb, 0, none⟩), .slice a l.length cap, .pointer (some ⟨w.heap.size, 0, none⟩), undef, undef, .pointer (some ⟨Bx, 0, none⟩), .slice a l.length cap, .func (.func 103) #[] #[.pointer (some ⟨w.heap.size + 1, 0, none⟩)], .int .i64 ((x.val : Nat) : Int), (evAt l x.val).val, undef, undef, undef, undef, undef, undef, undef, undef, undef, undef, undef, undef, undef, undef, undef, undef], defers := [] })
  (fun x a' s A B row hs hg hr => by obtain ⟨Bx, h1, h2, h3, ⟨cs, h5⟩, ⟨u, h6, h7⟩, h4⟩ := hs; exact ⟨Bx, h1, Nat.lt_of_lt_of_le h2 hg.size, h3.kept hg (fun r e => (hr r e).2), ⟨cs, (hg.block Bx h2 (fun e => by obtain ⟨o, ho, hc⟩ := (hr Bx e.symm).2; rw [h5] at ho; cases ho; cases hc)).trans h5⟩, ⟨u, h6.kept hg (fun e => by obtain ⟨o, ho, hc⟩ := (hr P e.symm).2; unfold Boxed at h6; rw [h6] at ho; cases ho; cases hc), h7⟩, h4⟩) ?assign ?body ?done ?stop
 case assign =>
  rintro lp pre x W3 K ⟨v', hp3, hn3, ht3⟩ hK
  have hz3 := ht3.size
  gi_wp2
  have hBW : Below W3.heap.size W3 (W3.alloc (.cells #[.int .i64 (evAt l x.val).t, .int .i64 (evAt l x.val).s, .int .i64 (evAt l x.val).q, .int .i64 (evAt l x.val).d, .int .i64 (evAt l x.val).k, .int .i64 (evAt l x.val).v, .int .i64 (evAt l x.val).g] 53)) := (Below.refl _ W3).alloc (Nat.le_refl _) _
  exact hK _ _ ((KeepsOthers.alloc _ _).from _) (Same2.below hBW (by omega) (by omega)) ⟨v', hp3.alloc _, hn3, ht3.alloc _⟩ ⟨W3.heap.size, hz3, by simp, EvAt.new _ _ _ _ _ _ _ _ _, ⟨_, Bk.new W3 _ _⟩, ⟨v', hp3.box.alloc _, fun e => by have := (World.ownsRow.lt hp3.row _ e).2; omega⟩, rfl⟩
 case body =>
  rintro lp pre x a' W3 hlp _ ⟨v', hp3, hn3, ht3⟩ ⟨Bx, h1, h2, h3, ⟨bcs, hbx⟩, ⟨u9, hu9, hv9⟩, rfl⟩ hlt
  have hvBx : v'.ownBlock ≠ some Bx := by
   have h9 := hp3.box
   unfold Boxed at h9 hu9
   rw [h9] at hu9
   cases hu9
   exact hv9
  clear hu9 hv9
  have hz3 := ht3.size
  have hvw : ∀ g, v.ownBlock = some g → g < w.heap.size := HVW.out
  have hnS : ∀ k, k < W2.heap.size → k ≠ P → v.ownBlock ≠ some k → ¬ (k = P ∨ v.ownBlock = some k) := fun k _ h1 h2 h => h.elim h1 h2
  have hcc : W3.cell? ⟨w.heap.size, 0, none⟩ = some (.pointer (some ⟨Cb, 0, none⟩)) := (ht3.cell (by omega) (fun h => by rcases h with h | h; omega; have := hvw _ h; omega)).trans (cC.cell (i := 0) rfl)
  have hc5 : W3.cell? ⟨Cb, 5, none⟩ = some (.int .i64 z) := (ht3.cell (by omega) (fun h => h.elim hCP hCv)).trans hz52
  have hc22 : W3.cell? ⟨Cb, 22, none⟩ = some (pv P) := (ht3.cell (by omega) (fun h => h.elim hCP hCv)).trans ht222
  have HH3 : Hid (Ev.In W3 Bx 0 (evAt l x.val)) := h3
  have HBX : Hid (W3.heap[Bx]? = some (.cells bcs 53)) := hbx
  have HP3 : Hid (Pl W3 B P v' (planH z h (bares (evsOf l pre)))) := hp3
  have HN3 : Hid (NewRow W2 v v') := hn3
  have HT3 : Hid (Turns (fun k => k = P ∨ v.ownBlock = some k) W2 W3) := ht3
  have hf0 := (h3.beyond h2).1
  have kcc : ∀ p : Beyond W3, p.w.cell? ⟨w.heap.size, 0, none⟩ = some (.pointer (some ⟨Cb, 0, none⟩)) := fun p => p.cell (by omega) hcc
  have kc5 : ∀ p : Beyond W3, p.w.cell? ⟨Cb, 5, none⟩ = some (.int .i64 z) := fun p => p.cell (by omega) hc5
  have HC : Hid (W3.cell? ⟨w.heap.size, 0, none⟩ = some (.pointer (some ⟨Cb, 0, none⟩)) ∧ W3.cell? ⟨Cb, 22, none⟩ = some (pv P)) := ⟨hcc, hc22⟩
  have hne : Nonempty (Beyond W3) := ⟨⟨W3, Below.refl _ _⟩⟩
  have hwf : ∀ f, Fence.wide.fn f = True := wideFn
  clear hp3 hn3 ht3 h3 hbx hcc hc5 hc22 cC cS hP2 hI hz52 ht222 hT2 hnS
  by_cases htz : (evAt l x.val).t ≤ z
  ·have hdz : decide ((evAt l x.val).t ≤ z) = true := by simpa using htz
   have HTZ : Hid ((evAt l x.val).t ≤ z) := htz
   clear htz
   gi_wp2
   refine region_round hmo (by kernel_rfl) (by simp) ?_
   repeat (gi_big_quiet_step (fail))
   refine wpQuietIn_nil ?_
   rintro w2 ⟨⟨_, hb2⟩, rfl⟩
   have HB2 : Hid (Below W3.heap.size W3 w2) := hb2
   have hE2 := HH3.out.below hb2 h2
   obtain ⟨g0, g1, g2, g3, g4, g5, g6⟩ := hE2.lits
   have hbx2 : w2.heap[Bx]? = some (.cells bcs 53) := (hb2.block Bx h2).trans HBX.out
   have gf : w2.frozen? ⟨Bx, 6, none⟩ = false := by simp [World.frozen?, hbx2]
   obtain ⟨X2, hX2⟩ : ∃ X2, w2.setCell ⟨Bx, 6, none⟩ (.int .i64 0) = X2 := ⟨_, rfl⟩
   have hT6 : Turns (fun k => k = Bx) w2 X2 := hX2 ▸ put1_turns w2 Bx 6 (.int .i64 0)
   have hBx2 : Bx < w2.heap.size := Nat.lt_of_lt_of_le h2 hb2.size
   have o0 : X2.cell? ⟨Bx, 0, none⟩ = some (.int .i64 (evAt l x.val).t) := by rw [← hX2, cell_other (by omega)]; exact g0
   have o1 : X2.cell? ⟨Bx, 1, none⟩ = some (.int .i64 (evAt l x.val).s) := by rw [← hX2, cell_other (by omega)]; exact g1
   have o2 : X2.cell? ⟨Bx, 2, none⟩ = some (.int .i64 (evAt l x.val).q) := by rw [← hX2, cell_other (by omega)]; exact g2
   have o3 : X2.cell? ⟨Bx, 3, none⟩ = some (.int .i64 (evAt l x.val).d) := by rw [← hX2, cell_other (by omega)]; exact g3
   have o4 : X2.cell? ⟨Bx, 4, none⟩ = some (.int .i64 (evAt l x.val).k) := by rw [← hX2, cell_other (by omega)]; exact g4
   have o5 : X2.cell? ⟨Bx, 5, none⟩ = some (.int .i64 (evAt l x.val).v) := by rw [← hX2, cell_other (by omega)]; exact g5
   have o6 : X2.cell? ⟨Bx, 6, none⟩ = some (.int .i64 0) := by rw [← hX2]; exact cell_put g6
   have hTx : Turns (fun k => k = Bx) W3 X2 := (Turns.of_below hb2).trans hT6
   have oc : X2.cell? ⟨w.heap.size, 0, none⟩ = some (.pointer (some ⟨Cb, 0, none⟩)) := (hTx.cell (by omega) (by omega)).trans HC.out.1
   have ot : X2.cell? ⟨Cb, 22, none⟩ = some (pv P) := (hTx.cell (by omega) (by omega)).trans HC.out.2
   have hvn : ∀ g, v'.ownBlock = some g → ¬ g = Bx := fun g e h9 => hvBx (by rw [e, h9])
   have HPX : Hid (Pl X2 B P v' (planH z h (bares (evsOf l pre)))) := HP3.out.turns hTx (by omega) hvn
   have HTX : Hid (Turns (fun k => k = Bx) W3 X2) := hTx
   have hzX : W3.heap.size ≤ X2.heap.size := hTx.size
   have hlenf : (planH z h (bares (evsOf l pre))).length ≤ h.length + l.length := by
    have h8 := planH_length z (bares (evsOf l pre)) h
    have h9 : (bares (evsOf l pre)).length = pre.length := by simp [bares, evsOf]
    omega
   have hoks : Kept (fun e => e.ok = true) (planH z h (bares (evsOf l pre))) := kept_planH _ h HOK.out (fun e he => by
    obtain ⟨y, hy, rfl⟩ := List.mem_map.1 he
    obtain ⟨u, _, rfl⟩ := List.mem_map.1 hy
    exact HOKL.out u.val u.isLt)
   have HPU : Hid (∀ W, Below X2.heap.size X2 W → Calls Tryz.prog 96 #[pv P, .iface 53 (.agg #[.int .i64 (evAt l x.val).t, .int .i64 (evAt l x.val).s, .int .i64 (evAt l x.val).q, .int .i64 (evAt l x.val).d, .int .i64 (evAt l x.val).k, .int .i64 (evAt l x.val).v, .int .i64 0])] W fun r w' => (∃ u, r = .returned u) ∧ (∃ v2, Pl w' B P v2 (pushL (planH z h (bares (evsOf l pre))) (evAt l x.val).bare) ∧ NewRow W v' v2) ∧ Turns (fun k => k = P ∨ v'.ownBlock = some k) W w') := fun W hW => libPush_one B P v' _ (evAt l x.val).bare W (by have := hW.size; omega) (HPX.out.turns (S := fun _ => False) (Turns.of_below hW) id (fun _ _ => id)) (by omega) hoks (HOKL.out x.val x.isLt)
   have HBW : Hid (Below X2.heap.size X2 X2.drew) := (Below.refl _ X2).drew
   clear hb2 hf0 kcc kc5 hE2 hbx2 hT6 hTx hvn hlenf hoks HH3 HC
   gi_wp2
   gi_region_with_o (gi_at_call 96; refine (CallsIn.inRound lp (callsIn_wide.2 (HPU.out _ HBW.out))).mono ?_; rintro e w4 h4; obtain ⟨⟨u4, rfl⟩, h5⟩ := h4; obtain ⟨⟨v2, hp4, hn4⟩, ht4⟩ := h5)
   all_goals
    gi_wp2
    have hT4 : Turns (fun k => k = Bx ∨ k = P ∨ v'.ownBlock = some k) W3 w4 := (HTX.out.mono (fun k h => .inl h)).trans ((Turns.of_below HBW.out).trans (ht4.mono (fun k h => .inr h)))
    have hz4 := hT4.size
    have hvk : ∀ k, v'.ownBlock = some k → k < W2.heap.size → v.ownBlock = some k := fun k e hk => by
     rcases HN3.out with h8 | h8
     ·rw [← h8]; exact e
     ·have := h8 k e; omega
    have hS4 : ∀ k, k < W2.heap.size → k ≠ P → v.ownBlock ≠ some k → ¬ (k = Bx ∨ k = P ∨ v'.ownBlock = some k) := fun k hk n1 n2 h => by
     rcases h with h | h | h
     ·omega
     ·exact n1 h
     ·exact n2 (hvk k h hk)
    have hvn1 : v.ownBlock ≠ some (w.heap.size + 1) := fun e => by have := hvw _ e; omega
    refine ⟨(keepsOthers_of_turns hT4 (fun k o hs ho => ?_)).from _, ⟨hT4.block _ (by omega) (hS4 _ (by omega) (by omega) hvn1), hT4.block b (by omega) (hS4 b (by omega) hbP hbv)⟩, v2, ?_, ?_, ?_⟩
    ·rcases hs with rfl | rfl | hs
     ·rw [HBX.out] at ho; cases ho; rfl
     ·have h9 := HP3.out.box
      unfold Boxed at h9
      rw [h9] at ho; cases ho; rfl
     ·obtain ⟨_, ⟨e1, _⟩ | ⟨g1, cap1, cur1, e1, _, hc1, _⟩⟩ := HP3.out.row
      ·rw [e1] at hs; cases hs
      ·rw [e1] at hs; cases hs; rw [hc1] at ho; cases ho; rfl
    ·rw [evsOf_snoc, bares_snoc, planH_snoc, if_pos (show (evAt l x.val).bare.t ≤ z from HTZ.out)]
     exact hp4
    ·rcases hn4 with h8 | h8
     ·rcases HN3.out with h7 | h7
      ·exact .inl (h8.trans h7)
      ·exact .inr (fun k e => h7 k (by rw [← h8]; exact e))
     ·exact .inr (fun k e => by have h6 := h8 k e; have h5 := HBW.out.size; omega)
    ·exact ⟨hT4.os.trans HT3.out.os, hT4.tape.trans HT3.out.tape, hT4.output.trans HT3.out.output, Nat.le_trans HT3.out.size hT4.size, fun k hk hn => (hT4.block k (by omega) (hS4 k hk (fun e => hn (.inl e)) (fun e => hn (.inr e)))).trans (HT3.out.block k hk hn)⟩
  ·have hdz : decide ((evAt l x.val).t ≤ z) = false := by simpa using htz
   have HTZ : Hid (¬ (evAt l x.val).t ≤ z) := htz
   clear htz
   gi_wp2
   refine region_round hmo (by kernel_rfl) (by simp) ?_
   repeat (gi_big_quiet_step (fail))
   refine wpQuietIn_nil ?_
   rintro w2 ⟨⟨_, hb2⟩, rfl⟩
   have HB2 : Hid (Below W3.heap.size W3 w2) := hb2
   clear hb2 hf0 kcc kc5
   gi_wp2
   refine ⟨(keepsOthers_of_below HB2.out).from _, Same2.below HB2.out (by omega) (by omega), v', ?_, HN3.out, HT3.out.trans (Turns.of_below HB2.out)⟩
   rw [evsOf_snoc, bares_snoc, planH_snoc, if_neg (show ¬ (evAt l x.val).bare.t ≤ z from fun h9 => by have h8 := HTZ.out; have h7 : (evAt l x.val).t ≤ z := h9; omega)]
   exact HP3.out.turns (S := fun _ => False) (Turns.of_below HB2.out) id (fun _ _ => id)
 case stop =>
  rintro D c pre W3 _ _ h _
  exact h.elim
 case done =>
  rintro D ys W3 hD rfl ⟨v', hp3, hn3, ht3⟩ hK
  have hz3 := ht3.size
  have HP3 : Hid (Pl W3 B P v' (planH z h (bares (evsOf l (List.finRange l.length))))) := hp3
  have HN3 : Hid (NewRow W2 v v') := hn3
  have HT3 : Hid (Turns (fun k => k = P ∨ v.ownBlock = some k) W2 W3) := ht3
  clear hp3 hn3 ht3
  gi_wp2
  have hTf : Turns (fun k => k = D) W3 (W3.putObj D (.deferred none)) := (Turns.refl (fun k => k = D) W3).grown (grownBy_putObj' _ D (.deferred none)) (fun k e => by cases e; rfl)
  have hgo : ∀ g, v'.ownBlock = some g → ¬ g = D := fun g e h9 => by
   obtain ⟨_, ⟨e1, _⟩ | ⟨g1, cap1, cur1, e1, _, hc1, _⟩⟩ := HP3.out.row
   ·rw [e1] at e; cases e
   ·rw [e1] at e; cases e; have h8 : g1 = D := h9; rw [h8, hK] at hc1; cases hc1
  refine ⟨by simp, .inl ⟨_, _, rfl, run_takeDeferred hK, ?_⟩⟩
  refine ⟨.tuple #[], ?_, ⟨_, rfl⟩, ⟨v', ?_, newRow_mono HN3.out (by omega)⟩, (hT2.trans HT3.out).later (hTf.mono (fun k h => by omega))⟩
  ·simp [results, Tryz.f84, go_sem]
  ·have h9 := HP3.out
   rw [evsOf_all] at h9
   exact h9.turns hTf (fun e => by omega) hgo
end Go.Proofs.YtbljfphdghfkfaaGreatDoor

