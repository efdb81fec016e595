/- The program's iterator over the events of a list: what it hands to its loop. -/
import Derived.Test.YtnccenbkpocjgaaGreatExactPartNewG03
import Derived.RangeFuncNested
import Derived.RangeFuncBound
import Derived.RangeFuncCalls
import Derived.RangeFuncLeaves
import Derived.RangeFuncBox
import Derived.Shelf.Abstract
import Derived.Shelf.RegionOpen
import Derived.OwnWalkIn
import Derived.TacticsInMore
import Derived.LoopNIn
import Derived.LoopIn
namespace Go.Proofs.YtnccenbkpocjgaaGreat
open Go.RowKit Go.Shelf
attribute [local go_sem] Oper.semAt_some
theorem fin_take_succ (n k : Nat) (h : k < n) : (List.finRange n).take (k + 1) = (List.finRange n).take k ++ [⟨k, h⟩] := by
 rw [List.take_succ_eq_append_getElem (by simpa using h)]; simp
theorem fin_take_length (n k : Nat) (h : k ≤ n) : ((List.finRange n).take k).length = k := by simp [h]
abbrev evArgs (l : List Ev) (x : Fin l.length) : Array Value := #[.int .i64 ((x.val : Nat) : Int), (evAt l x.val).val]
def Same2 (c b : Nat) (A B : World) : Prop := B.heap[c]? = A.heap[c]? ∧ B.heap[b]? = A.heap[b]?
theorem Same2.refl (c b : Nat) (A : World) : Same2 c b A A := ⟨rfl, rfl⟩
theorem Same2.trans {c b : Nat} {A B C : World} (h : Same2 c b A B) (k : Same2 c b B C) : Same2 c b A C := ⟨k.1.trans h.1, k.2.trans h.2⟩
theorem Same2.below {c b n : Nat} {A B : World} (h : Below n A B) (hc : c < n) (hb : b < n) : Same2 c b A B := ⟨h.block c hc, h.block b hb⟩
theorem Same2.putObj {c b : Nat} {w : World} (hc : c < w.heap.size) (hb : b < w.heap.size) (W : World) (l : Nat) (o o' : Obj) (hl : w.heap.size ≤ l) (_ : W.heap[l]? = some o) (_ : o.isCells = false) (_ : o.isWalk = false) : Same2 c b W (W.putObj l o') :=
 ⟨World.putObj_heap_other (by omega), World.putObj_heap_other (by omega)⟩
theorem Same2.cell1 {c b : Nat} {A B : World} (h : Same2 c b A B) (o : Nat) : B.cell? ⟨c, o, none⟩ = A.cell? ⟨c, o, none⟩ := World.cell?_of_block (w := A) h.1
theorem Same2.cell2 {c b : Nat} {A B : World} (h : Same2 c b A B) (o : Nat) : B.cell? ⟨b, o, none⟩ = A.cell? ⟨b, o, none⟩ := World.cell?_of_block (w := A) h.2
theorem Same2.ev {c b o : Nat} {A B : World} {e : Ev} (h : Same2 c b A B) (k : Ev.In A b o e) : Ev.In B b o e :=
 ⟨(h.cell2 _).trans k.f0, (h.cell2 _).trans k.f1, (h.cell2 _).trans k.f2, (h.cell2 _).trans k.f3, (h.cell2 _).trans k.f4, (h.cell2 _).trans k.f5, (h.cell2 _).trans k.f6⟩
set_option maxRecDepth 100000 in
set_option maxHeartbeats 2000000 in
theorem each1_in (F : Fence) (n : Nat) (h49 : F.fn 93) (hro : F.round = none) (hn : 1 ≤ n) (lp Bs b off cap : Nat) (l : List Ev) (hreach : l.length ≤ 1048576) (J Jx : List (Fin l.length) → World → Prop)
  (hY : ∀ pre x W, J pre W → pre.length < l.length → YieldAt F (n - 1) Tryz.prog lp (evArgs l x) W fun e W' =>
   (e = .returned (.bool true) ∧ J (pre ++ [x]) W' ∧ Same2 Bs b W W') ∨ (e = .returned (.bool false) ∧ Jx (pre ++ [x]) W'))
  (W : World) (hBs : W.cell? ⟨Bs, 0, none⟩ = some (.slice (some ⟨b, off, none⟩) l.length cap)) (hc : ∀ i, i < l.length → Ev.In W b (off + i * 7) (evAt l i)) (h0 : J [] W) :
  CallsIn F n Tryz.prog 93 #[.func (.yield lp) #[] #[], .pointer (some ⟨Bs, 0, none⟩)] W fun e W' => (∃ v, e = .returned v) ∧
   ((∃ ys, ys = List.finRange l.length ∧ J ys W') ∨ (∃ pre, (∃ k, k ≤ l.length ∧ pre = (List.finRange l.length).take k) ∧ Jx pre W')) := by
 refine callsIn_of_wp Tryz.func93 rfl h49 ?_ hro
 simp only [Tryz.ntmps93, List.size_toArray, List.length_cons, List.length_nil, Nat.reduceAdd, Nat.reduceSub, Array.replicate_succ, Array.replicate_zero, List.push_toArray, List.append_toArray, List.nil_append, List.cons_append]
 gi_wp2
 gi_loopw [6] (fun i wr => ∃ k : Nat, k ≤ l.length ∧ i = .int .i64 k ∧ J ((List.finRange l.length).take k) wr ∧ Same2 Bs b W wr)
  (fun i _ => l.length - (intOf i).toNat)
 case atStart => exact ⟨0, Nat.zero_le _, rfl, by simpa using h0, Same2.refl _ _ _⟩
 case round =>
  obtain ⟨k, hk, rfl, hJs, hnx⟩ := hrel
  have hBs' : wr.cell? ⟨Bs, 0, none⟩ = some (.slice (some ⟨b, off, none⟩) l.length cap) := (hnx.cell1 0).trans hBs
  by_cases hlt : k < l.length
  ·have hy0 := hY _ ⟨k, hlt⟩ wr hJs (by rw [fin_take_length _ _ hk]; exact hlt)
   rw [← fin_take_succ _ _ hlt] at hy0
   obtain ⟨fn, tmps, assign, body, hy, hR⟩ := hy0
   simp only [evArgs] at hy
   obtain ⟨f0, f1, f2, f3, f4, f5, f6⟩ := hnx.ev (hc k hlt)
   have HC : Hid (∀ i, i < l.length → Ev.In W b (off + i * 7) (evAt l i)) := hc
   clear hc hY
   gi_wp2
   refine hR.mono ?_
   rintro e W3 (⟨rfl, hJ3, hk3⟩ | ⟨rfl, hJx3⟩)
   ·gi_wp2
    go_roundw
    case rel => exact ⟨k + 1, by omega, by simp, hJ3, hnx.trans hk3⟩
    case measure => simp [intOf]; omega
   ·gi_wp2
    refine bodyPost_ret (results_none rfl _ _ _) rfl ?_
    exact ⟨⟨_, rfl⟩, .inr ⟨_, ⟨k + 1, by omega, rfl⟩, hJx3⟩⟩
  ·obtain rfl : k = l.length := by omega
   gi_wp2
   go_end0
   exact ⟨⟨_, rfl⟩, .inl ⟨_, rfl, by rw [List.take_of_length_le (by simp)] at hJs; exact hJs⟩⟩
set_option maxRecDepth 100000 in
set_option maxHeartbeats 1000000 in
theorem each1_nil (F : Fence) (n : Nat) (h49 : F.fn 93) (hro : F.round = none) (lp Bs cap : Nat) (a : Option Addr) (J : List (Fin 0) → World → Prop) (W : World) (hBs : W.cell? ⟨Bs, 0, none⟩ = some (.slice a 0 cap)) (h0 : J [] W) :
  CallsIn F n Tryz.prog 93 #[.func (.yield lp) #[] #[], .pointer (some ⟨Bs, 0, none⟩)] W fun e W' => (∃ v, e = .returned v) ∧ J [] W' := by
 refine callsIn_of_wp Tryz.func93 rfl h49 ?_ hro
 simp only [Tryz.ntmps93, List.size_toArray, List.length_cons, List.length_nil, Nat.reduceAdd, Nat.reduceSub, Array.replicate_succ, Array.replicate_zero, List.push_toArray, List.append_toArray, List.nil_append, List.cons_append]
 gi_wp2
 gi_loopw [6] (fun i wr => i = .int .i64 0 ∧ J [] wr) (fun _ _ => 0)
 case atStart => exact ⟨rfl, h0⟩
 case round =>
  obtain ⟨rfl, hJs⟩ := hrel
  gi_wp2
  go_end0
  exact ⟨⟨_, rfl⟩, hJs⟩
set_option maxHeartbeats 1000000 in
theorem each_any (a : Option Addr) (len cap : Nat) (w : World) :
  Calls Tryz.prog 40 #[.slice a len cap] w fun e w' => e = .returned (.func (.func 93) #[] #[.pointer (some ⟨w.heap.size, 0, none⟩)]) ∧ w' = w.alloc (.cells #[.slice a len cap] 31) := by
 go_enter Tryz.func40, Tryz.ntmps40
 go_wp2
 go_ret
 exact ⟨rfl, rfl⟩
theorem each_stops (F : Fence) (n : Nat) (h49 : F.fn 93) (hro : F.round = none) (hn : 1 ≤ n) (c b : Nat) (a : Option Addr) (cap : Nat) (l : List Ev) (hreach : l.length ≤ 1048576) (w : World) (hcs : c < w.heap.size)
  (hc : w.cell? ⟨c, 0, none⟩ = some (.slice a l.length cap)) (hI : l = [] ∨ ∃ off, a = some ⟨b, off, none⟩ ∧ EvsAt w b off l) :
  SeqStopsK F n Tryz.prog 93 #[.pointer (some ⟨c, 0, none⟩)] (evArgs l) (Same2 c b) (fun ys => ys = List.finRange l.length) (fun pre => ∃ k, k ≤ l.length ∧ pre = (List.finRange l.length).take k) l.length w := fun lp J Jx W hW _ _ hY h0 => by
 have hc' := (hW.cell (p := ⟨c, 0, none⟩) hcs).trans hc
 rcases hI with rfl | ⟨off, rfl, hb, hev⟩
 ·exact (each1_nil F n h49 hro lp c cap a J W hc' h0).mono fun e W' ⟨he, hj⟩ => ⟨he, .inl ⟨_, rfl, hj⟩⟩
 ·exact each1_in F n h49 hro hn lp c b off cap l hreach J Jx hY W hc' (fun i hi => (hev i hi).below hW hb) h0
end Go.Proofs.YtnccenbkpocjgaaGreat
