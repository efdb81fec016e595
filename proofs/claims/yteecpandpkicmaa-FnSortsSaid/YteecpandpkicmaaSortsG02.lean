/- Grow, Concat, Each -/
import Derived.Test.YteecpandpkicmaaSortsG01
import Derived.Laws.AppendOwnNone
import Derived.RangeFuncNested
import Derived.RangeFuncBound
import Derived.RangeFuncCalls
import Derived.RangeFuncLeaves
import Derived.RangeFuncBox
import Derived.Shelf.Abstract
import Derived.Shelf.RegionOpen
import Derived.OwnWalkIn
import Derived.TacticsInMore
import Derived.LoopNIn
import Derived.LoopIn
/- slices.Grow of the nil slice, at the program's events. -/
namespace Go.Proofs.Yteecpandpkicmaa
open Go.RowKit

abbrev zeroE : Value := .agg #[.int .i64 0, .int .i64 0, .int .i64 0, .int .i64 0, .int .i64 0, .int .i64 0, .int .i64 0]
theorem run_append_make (ty : TypeId) (n : Nat) (w : World) (h0 : 0 < n) (hn : n ≤ 4194304) :
    (Builtin.append_ #[23, 3] ty #[.slice none 0 0, .int .i64 (n : Int)]).run Try.prog w =
      .ok (.slice (some ⟨w.heap.size, 0, none⟩) n (grownCap w n 0 25)) (w.drew.alloc (.cells (Builtin.zeroCells zeroE.cells n ++ Builtin.zeroCells zeroE.cells (grownCap w n 0 25 - n)) 25)) := by
  obtain ⟨i0, hi, hz0, hz1, hz2⟩ := info_parts info25
  have hn0 : n ≠ 0 := by omega
  have h63 : ¬ (9223372036854775807 < (n : Int)) := by omega
  have hw : IntKind.i64.wrap (n : Int) = (n : Int) := by rw [IntKind.wrap_i64]; omega
  have hneg : ¬ ((n : Int) < 0) := by omega
  have h48a : ¬ (281474976710656 < (n : Int) * (i0.bytes : Int)) := by rw [hz2]; omega
  have h48b : ¬ (281474976710656 < Builtin.nextslicecap n 0 * i0.bytes) := by rw [nextslicecap_zero h0, hz2]; omega
  simp [Builtin.append_, run_underlying Try.underlying23, run_underlying Try.underlying3, sizeOf, typeInfo, zeroValue, hi, hz0, asInt, asIntOf, hw, hneg, h48a, hz1, hn0, h63, h48b, Question.forced, run_firstCells_none, newRow, grownCap]
  intro h
  omega

theorem wpList_append_make {ops : Array Oper} {rest : List Oper} {o : Oper} {a : Act} {w : World} {Q : Exit → Act → World → Prop} (hg : o.guard = none) (s x : Operand)
    (ho : o.op = .call { callee := .builtin .append, args := #[s, x], argTypes := #[23, 3] }) (n : Nat) (hs : a.eval s = .slice none 0 0) (hx : a.eval x = .int .i64 (n : Int)) (h0 : 0 < n) (hn : n ≤ 4194304)
    (hK : wpList Try.prog ops Q rest (a.put o.dst (.slice (some ⟨w.heap.size, 0, none⟩) n (grownCap w n 0 25))) (w.drew.alloc (.cells (Builtin.zeroCells zeroE.cells n ++ Builtin.zeroCells zeroE.cells (grownCap w n 0 25 - n)) 25))) :
    wpList Try.prog ops Q (o :: rest) a w := by
  refine wpList_plain hg fun K hK' => ?_
  unfold Oper.wp
  simp [execOp, ho, resolve, invoke, builtin, hs, hx, run_append_make _ n w h0 hn, Result.andThen]
  exact hK' _ _ hK

theorem grown_row (w : World) (n : Nat) (hn : n ≤ 4194304) : (w.drew.alloc (.cells (Builtin.zeroCells zeroE.cells n ++ Builtin.zeroCells zeroE.cells (grownCap w n 0 25 - n)) 25)).ownsRow w.heap.size 25 7 (.slice (some ⟨w.heap.size, 0, none⟩) 0 (grownCap w n 0 25)) 0 [] := by
  have hge := grownCap_ge w n 0 25
  have hcm : grownCap w n 0 25 ≤ maxLen := grownCap_le_maxLen w n 0 25 (by unfold maxLen; omega)
  refine ⟨rfl, .inr ⟨w.heap.size, _, _, rfl, Nat.le_refl _, (MapKept.heap_alloc w.drew _).1, Nat.zero_le _, hcm, ?_, by simp⟩⟩
  rw [Array.size_append, size_zeroCells, size_zeroCells, ← Nat.add_mul, show n + (grownCap w n 0 25 - n) = grownCap w n 0 25 from by omega]
  rfl

set_option maxHeartbeats 1000000 in
theorem grow_any (n : Nat) (w : World) (hn : n ≤ 4194304) :
    Calls Try.prog 55 #[.slice none 0 0, .int .i64 (n : Int)] w fun e w' => ∃ v, e = .returned v ∧ w'.ownsRow w.heap.size 25 7 v 0 [] ∧ Below w.heap.size w w' := by
  by_cases h0 : n = 0
  · subst h0
    go_enter Try.func55, Try.ntmps55
    go_wp2
    go_ret
    exact ⟨.slice none 0 0, rfl, World.ownsRow_nil w _ 25 7, Below.refl _ _⟩
  · have hp : 0 < n := by omega
    have hp' : (0 : Int) < (n : Int) := by omega
    have hge := grownCap_ge w n 0 25
    have hcm : grownCap w n 0 25 ≤ maxLen := grownCap_le_maxLen w n 0 25 (by unfold maxLen; omega)
    have HR : Hid ((w.drew.alloc (.cells (Builtin.zeroCells zeroE.cells n ++ Builtin.zeroCells zeroE.cells (grownCap w n 0 25 - n)) 25)).ownsRow w.heap.size 25 7 (.slice (some ⟨w.heap.size, 0, none⟩) 0 (grownCap w n 0 25)) 0 []) := grown_row w n hn
    go_enter Try.func55, Try.ntmps55
    go_wp2_with (at_builtin; refine wpList_append_make rfl _ _ rfl n rfl rfl hp hn ?_)
    go_ret
    exact ⟨.slice (some ⟨w.heap.size, 0, none⟩) 0 (grownCap w n 0 25), rfl, HR.out, (Below.refl _ w).drew.alloc (Nat.le_refl _) _⟩
end Go.Proofs.Yteecpandpkicmaa

/- slices.Concat at the program's events. -/
namespace Go.Proofs.Yteecpandpkicmaa
open Go.RowKit

/- A list that is handed to Concat: where it lies, its room, what it holds. -/
structure Part where
  a : Option Addr
  c : Nat
  l : List Ev
def partAt (ps : List Part) (i : Nat) : Part := ps.getD i ⟨none, 0, []⟩
def PartsAt (w : World) (B : Nat) (ps : List Part) : Prop := B < w.heap.size ∧ ∀ i, i < ps.length → w.cell? ⟨B, i, none⟩ = some (.slice (partAt ps i).a (partAt ps i).l.length (partAt ps i).c) ∧ (((partAt ps i).a = none ∧ (partAt ps i).c = 0 ∧ (partAt ps i).l = []) ∨ ∃ b off, (partAt ps i).a = some ⟨b, off, none⟩ ∧ ((partAt ps i).l = [] ∨ EvsAt w b off (partAt ps i).l))
theorem PartsAt.below {w w' : World} {B : Nat} {ps : List Part} (h : PartsAt w B ps) (hb : Below w.heap.size w w') : PartsAt w' B ps :=
  ⟨Nat.lt_of_lt_of_le h.1 hb.size, fun i hi => ⟨(hb.cell (p := ⟨B, i, none⟩) h.1).trans (h.2 i hi).1, (h.2 i hi).2.imp id (fun ⟨b, off, e1, e2⟩ => ⟨b, off, e1, e2.imp id (fun e => e.below hb e.1)⟩)⟩⟩
def catTo (ps : List Part) : Nat → List Ev
  | 0 => []
  | k + 1 => catTo ps k ++ (partAt ps k).l
theorem catTo_le (ps : List Part) (k n : Nat) (h : k ≤ n) : (catTo ps k).length ≤ (catTo ps n).length := by
  induction n with
  | zero => rw [show k = 0 by omega]; exact Nat.le_refl _
  | succ n ih =>
    by_cases e : k = n + 1
    · rw [e]; exact Nat.le_refl _
    · have := ih (by omega)
      simp only [catTo, List.length_append]
      omega

set_option maxRecDepth 100000 in
set_option maxHeartbeats 2000000 in
theorem concat_any (B : Nat) (ps : List Part) (w : World) (hps : ps.length ≤ 1000) (hn : (catTo ps ps.length).length ≤ 4194304) (hP : PartsAt w B ps) :
    Calls Try.prog 33 #[.slice (some ⟨B, 0, none⟩) ps.length ps.length] w fun e w' => ∃ x, e = .returned x ∧ OwnEvs w.heap.size w' x (catTo ps ps.length) ∧ Below w.heap.size w w' := by
  obtain ⟨i0, hi, hz0, hz1, hz2⟩ := info_parts info25
  have HP : Hid (PartsAt w B ps) := hP
  clear hP
  have HN : Hid ((catTo ps ps.length).length ≤ 4194304) := hn
  clear hn
  go_enter Try.func33, Try.ntmps33
  go_wp2
  go_loop [3, 11] (fun z i => ∃ k : Nat, k ≤ ps.length ∧ i = .int .i64 k ∧ z = .int .i64 ((catTo ps k).length : Int)) (fun _ i => ps.length - (intOf i).toNat)
  case atStart => exact ⟨0, Nat.zero_le _, rfl, rfl⟩
  case round =>
    obtain ⟨k, hk, rfl, rfl⟩ := hrel
    by_cases hlt : k < ps.length
    · have hc := (HP.out.2 k hlt).1
      have hle := catTo_le ps (k + 1) ps.length (by omega)
      have hsum : (catTo ps (k + 1)).length = (catTo ps k).length + (partAt ps k).l.length := by simp [catTo]
      generalize hA : (catTo ps k).length = A at hsum ⊢
      generalize hL : (partAt ps k).l.length = L at hsum hc
      have hA1 : (A : Int) + (L : Int) ≤ 4194304 := by have := HN.out; omega
      have hA2 : (0 : Int) ≤ (A : Int) + (L : Int) := by omega
      have HS : Hid ((catTo ps (k + 1)).length = A + L) := hsum
      clear hA hL hsum hle
      go_wp2
      go_round
      case rel => exact ⟨k + 1, by omega, by go_num, by rw [HS.out]; go_num⟩
      case measure => simp [intOf]; omega
    · obtain rfl : k = ps.length := by omega
      generalize hT : (catTo ps ps.length).length = T
      have HT : Hid ((catTo ps ps.length).length = T) := hT
      have hT1 : T ≤ 4194304 := by have := HN.out; omega
      clear hT
      go_wp2_with (go_at_call 55; refine (grow_any T _ hT1).mono ?_; rintro e w1 ⟨v0, rfl, hr1, hb1⟩)
      have HR1 : Hid (w1.ownsRow w.heap.size 25 7 v0 0 []) := hr1
      have HB1 : Hid (Below w.heap.size w w1) := hb1
      clear hr1 hb1
      go_loopw [6, 27] (fun v i wr => ∃ k : Nat, k ≤ ps.length ∧ i = .int .i64 k ∧ Hid (wr.ownsRow w.heap.size 25 7 v (catTo ps k).length (cellsL (catTo ps k))) ∧ Hid (Below w.heap.size w wr)) (fun _ i _ => ps.length - (intOf i).toNat)
      case atStart => exact ⟨0, Nat.zero_le _, rfl, HR1.out, HB1.out⟩
      case round =>
        clear HR1 HB1
        obtain ⟨k, hk, rfl, HR, HB⟩ := hrel
        by_cases hlt : k < ps.length
        · have hPk := HP.out.below HB.out
          have hc := (hPk.2 k hlt).1
          have HE : Hid (((partAt ps k).a = none ∧ (partAt ps k).c = 0 ∧ (partAt ps k).l = []) ∨ ∃ b off, (partAt ps k).a = some ⟨b, off, none⟩ ∧ ((partAt ps k).l = [] ∨ EvsAt wr b off (partAt ps k).l)) := (hPk.2 k hlt).2
          clear hPk
          have hle := catTo_le ps (k + 1) ps.length (by omega)
          have hsum : (catTo ps (k + 1)).length = (catTo ps k).length + (partAt ps k).l.length := by simp [catTo]
          have hsz : w.heap.size ≤ wr.heap.size := HB.out.size
          have hb1 : (catTo ps k).length + (partAt ps k).l.length ≤ 4194304 := by have := HN.out; omega
          have HS : Hid ((catTo ps (k + 1)).length = (catTo ps k).length + (partAt ps k).l.length) := hsum
          clear hle hsum
          rcases HE.out with ⟨ha, hcz, hl0⟩ | ⟨b, off, ha, hE⟩
          · have HL : Hid ((partAt ps k).l = []) := hl0
            rw [ha, hcz, hl0] at hc
            simp only [List.length_nil] at hc
            clear ha hcz hl0 HE hb1
            go_wp2_with (at_builtin; refine wpList_append_own_none rfl _ _ 23 rfl w.heap.size 25 i0 7 Try.underlying23 hi _ (catTo ps k).length (cellsL (catTo ps k)) rfl HR.out rfl ?_)
            go_roundw
            case rel => exact ⟨k + 1, by omega, by go_num, by rw [show catTo ps (k + 1) = catTo ps k from by show catTo ps k ++ (partAt ps k).l = _; rw [HL.out, List.append_nil]]; exact HR.out, HB.out⟩
            case measure => simp [intOf]; omega
          · rw [ha] at hc
            have HC : Hid (∀ j u, (cellsL (partAt ps k).l)[j]? = some u → wr.cell? ((⟨b, off, none⟩ : Addr).add j) = some u) := by
              rcases hE with h | h
              · exact fun j u hu => by rw [h] at hu; cases hu
              · exact h.cells
            clear ha hE HE
            go_wp2_with (at_builtin; refine wpList_append_own _ rfl _ _ 23 rfl w.heap.size 25 i0 _ 7 56 Try.underlying23 hi hz0 hz1 hz2 rfl (by decide) _ (catTo ps k).length (cellsL (catTo ps k)) rfl HR.out ⟨b, off, none⟩ (partAt ps k).l.length (partAt ps k).c (cellsL (partAt ps k).l) rfl (cellsL_length _) HC.out (cellsL_one _) (by unfold maxLen; omega) (by omega) hsz ?_; intro v' w2 hown hgrow hnil)
            go_roundw
            case rel => exact ⟨k + 1, by omega, by go_num, by rw [HS.out]; show World.ownsRow _ _ _ _ _ _ (cellsL (catTo ps k ++ (partAt ps k).l)); rw [cellsL_append]; exact hown, HB.out.grown hgrow hsz (fun r e => row_ge HR.out e)⟩
            case measure => simp [intOf]; omega
        · obtain rfl : k = ps.length := by omega
          go_wp2
          go_ret
          exact ⟨_, rfl, OwnEvs.of_row HR.out, HB.out⟩
end Go.Proofs.Yteecpandpkicmaa

/- The program's iterator over the events of a list: what it hands to its loop. -/
namespace Go.Proofs.Yteecpandpkicmaa
open Go.RowKit Go.Shelf
attribute [local go_sem] Oper.semAt_some

theorem fin_take_succ (n k : Nat) (h : k < n) : (List.finRange n).take (k + 1) = (List.finRange n).take k ++ [⟨k, h⟩] := by
  rw [List.take_succ_eq_append_getElem (by simpa using h)]; simp
theorem fin_take_length (n k : Nat) (h : k ≤ n) : ((List.finRange n).take k).length = k := by simp [h]

/- What the loop over the events is handed in round x. -/
abbrev evArgs (l : List Ev) (x : Fin l.length) : Array Value := #[.int .i64 ((x.val : Nat) : Int), (evAt l x.val).val]

/- What a round that goes on keeps: the two blocks that the iterator reads. -/
def Same2 (c b : Nat) (A B : World) : Prop := B.heap[c]? = A.heap[c]? ∧ B.heap[b]? = A.heap[b]?
theorem Same2.refl (c b : Nat) (A : World) : Same2 c b A A := ⟨rfl, rfl⟩
theorem Same2.trans {c b : Nat} {A B C : World} (h : Same2 c b A B) (k : Same2 c b B C) : Same2 c b A C := ⟨k.1.trans h.1, k.2.trans h.2⟩
theorem Same2.below {c b n : Nat} {A B : World} (h : Below n A B) (hc : c < n) (hb : b < n) : Same2 c b A B := ⟨h.block c hc, h.block b hb⟩
theorem Same2.putObj {c b : Nat} {w : World} (hc : c < w.heap.size) (hb : b < w.heap.size) (W : World) (l : Nat) (o o' : Obj) (hl : w.heap.size ≤ l) (_ : W.heap[l]? = some o) (_ : o.isCells = false) (_ : o.isWalk = false) : Same2 c b W (W.putObj l o') :=
  ⟨World.putObj_heap_other (by omega), World.putObj_heap_other (by omega)⟩
theorem Same2.cell1 {c b : Nat} {A B : World} (h : Same2 c b A B) (o : Nat) : B.cell? ⟨c, o, none⟩ = A.cell? ⟨c, o, none⟩ := World.cell?_of_block (w := A) h.1
theorem Same2.cell2 {c b : Nat} {A B : World} (h : Same2 c b A B) (o : Nat) : B.cell? ⟨b, o, none⟩ = A.cell? ⟨b, o, none⟩ := World.cell?_of_block (w := A) h.2
theorem Same2.ev {c b o : Nat} {A B : World} {e : Ev} (h : Same2 c b A B) (k : Ev.In A b o e) : Ev.In B b o e :=
  ⟨(h.cell2 _).trans k.f0, (h.cell2 _).trans k.f1, (h.cell2 _).trans k.f2, (h.cell2 _).trans k.f3, (h.cell2 _).trans k.f4, (h.cell2 _).trans k.f5, (h.cell2 _).trans k.f6⟩

set_option maxRecDepth 100000 in
set_option maxHeartbeats 2000000 in
theorem each1_in (F : Fence) (n : Nat) (h49 : F.fn 65) (hro : F.round = none) (hn : 1 ≤ n) (lp Bs b off cap : Nat) (l : List Ev) (hreach : l.length ≤ 1048576) (J Jx : List (Fin l.length) → World → Prop)
    (hY : ∀ pre x W, J pre W → pre.length < l.length → YieldAt F (n - 1) Try.prog lp (evArgs l x) W fun e W' =>
      (e = .returned (.bool true) ∧ J (pre ++ [x]) W' ∧ Same2 Bs b W W') ∨ (e = .returned (.bool false) ∧ Jx (pre ++ [x]) W'))
    (W : World) (hBs : W.cell? ⟨Bs, 0, none⟩ = some (.slice (some ⟨b, off, none⟩) l.length cap)) (hc : ∀ i, i < l.length → Ev.In W b (off + i * 7) (evAt l i)) (h0 : J [] W) :
    CallsIn F n Try.prog 65 #[.func (.yield lp) #[] #[], .pointer (some ⟨Bs, 0, none⟩)] W fun e W' => (∃ v, e = .returned v) ∧
      ((∃ ys, ys = List.finRange l.length ∧ J ys W') ∨ (∃ pre, (∃ k, k ≤ l.length ∧ pre = (List.finRange l.length).take k) ∧ Jx pre W')) := by
  refine callsIn_of_wp Try.func65 rfl h49 ?_ hro
  simp only [Try.ntmps65, List.size_toArray, List.length_cons, List.length_nil, Nat.reduceAdd, Nat.reduceSub, Array.replicate_succ, Array.replicate_zero, List.push_toArray, List.append_toArray, List.nil_append, List.cons_append]
  gi_wp2
  gi_loopw [6] (fun i wr => ∃ k : Nat, k ≤ l.length ∧ i = .int .i64 k ∧ J ((List.finRange l.length).take k) wr ∧ Same2 Bs b W wr)
    (fun i _ => l.length - (intOf i).toNat)
  case atStart => exact ⟨0, Nat.zero_le _, rfl, by simpa using h0, Same2.refl _ _ _⟩
  case round =>
    obtain ⟨k, hk, rfl, hJs, hnx⟩ := hrel
    have hBs' : wr.cell? ⟨Bs, 0, none⟩ = some (.slice (some ⟨b, off, none⟩) l.length cap) := (hnx.cell1 0).trans hBs
    by_cases hlt : k < l.length
    · have hy0 := hY _ ⟨k, hlt⟩ wr hJs (by rw [fin_take_length _ _ hk]; exact hlt)
      rw [← fin_take_succ _ _ hlt] at hy0
      obtain ⟨fn, tmps, assign, body, hy, hR⟩ := hy0
      simp only [evArgs] at hy
      obtain ⟨f0, f1, f2, f3, f4, f5, f6⟩ := hnx.ev (hc k hlt)
      have HC : Hid (∀ i, i < l.length → Ev.In W b (off + i * 7) (evAt l i)) := hc
      clear hc hY
      gi_wp2
      refine hR.mono ?_
      rintro e W3 (⟨rfl, hJ3, hk3⟩ | ⟨rfl, hJx3⟩)
      · gi_wp2
        go_roundw
        case rel => exact ⟨k + 1, by omega, by simp, hJ3, hnx.trans hk3⟩
        case measure => simp [intOf]; omega
      · gi_wp2
        refine bodyPost_ret (results_none rfl _ _ _) rfl ?_
        exact ⟨⟨_, rfl⟩, .inr ⟨_, ⟨k + 1, by omega, rfl⟩, hJx3⟩⟩
    · obtain rfl : k = l.length := by omega
      gi_wp2
      go_end0
      exact ⟨⟨_, rfl⟩, .inl ⟨_, rfl, by rw [List.take_of_length_le (by simp)] at hJs; exact hJs⟩⟩

set_option maxRecDepth 100000 in
set_option maxHeartbeats 1000000 in
theorem each1_nil (F : Fence) (n : Nat) (h49 : F.fn 65) (hro : F.round = none) (lp Bs cap : Nat) (a : Option Addr) (J : List (Fin 0) → World → Prop) (W : World) (hBs : W.cell? ⟨Bs, 0, none⟩ = some (.slice a 0 cap)) (h0 : J [] W) :
    CallsIn F n Try.prog 65 #[.func (.yield lp) #[] #[], .pointer (some ⟨Bs, 0, none⟩)] W fun e W' => (∃ v, e = .returned v) ∧ J [] W' := by
  refine callsIn_of_wp Try.func65 rfl h49 ?_ hro
  simp only [Try.ntmps65, List.size_toArray, List.length_cons, List.length_nil, Nat.reduceAdd, Nat.reduceSub, Array.replicate_succ, Array.replicate_zero, List.push_toArray, List.append_toArray, List.nil_append, List.cons_append]
  gi_wp2
  gi_loopw [6] (fun i wr => i = .int .i64 0 ∧ J [] wr) (fun _ _ => 0)
  case atStart => exact ⟨rfl, h0⟩
  case round =>
    obtain ⟨rfl, hJs⟩ := hrel
    gi_wp2
    go_end0
    exact ⟨⟨_, rfl⟩, hJs⟩

set_option maxHeartbeats 1000000 in
theorem each_any (a : Option Addr) (len cap : Nat) (w : World) :
    Calls Try.prog 54 #[.slice a len cap] w fun e w' => e = .returned (.func (.func 65) #[] #[.pointer (some ⟨w.heap.size, 0, none⟩)]) ∧ w' = w.alloc (.cells #[.slice a len cap] 23) := by
  go_enter Try.func54, Try.ntmps54
  go_wp2
  go_ret
  exact ⟨rfl, rfl⟩

/- The iterator's contract: all events in their order, or the first of them. c is the block of the slice value; b the block of the events. -/
theorem each_stops (F : Fence) (n : Nat) (h49 : F.fn 65) (hro : F.round = none) (hn : 1 ≤ n) (c b : Nat) (a : Option Addr) (cap : Nat) (l : List Ev) (hreach : l.length ≤ 1048576) (w : World) (hcs : c < w.heap.size)
    (hc : w.cell? ⟨c, 0, none⟩ = some (.slice a l.length cap)) (hI : l = [] ∨ ∃ off, a = some ⟨b, off, none⟩ ∧ EvsAt w b off l) :
    SeqStopsK F n Try.prog 65 #[.pointer (some ⟨c, 0, none⟩)] (evArgs l) (Same2 c b) (fun ys => ys = List.finRange l.length) (fun pre => ∃ k, k ≤ l.length ∧ pre = (List.finRange l.length).take k) l.length w := fun lp J Jx W hW _ _ hY h0 => by
  have hc' := (hW.cell (p := ⟨c, 0, none⟩) hcs).trans hc
  rcases hI with rfl | ⟨off, rfl, hb, hev⟩
  · exact (each1_nil F n h49 hro lp c cap a J W hc' h0).mono fun e W' ⟨he, hj⟩ => ⟨he, .inl ⟨_, rfl, hj⟩⟩
  · exact each1_in F n h49 hro hn lp c b off cap l hreach J Jx hY W hc' (fun i hi => (hev i hi).below hW hb) h0
end Go.Proofs.Yteecpandpkicmaa

