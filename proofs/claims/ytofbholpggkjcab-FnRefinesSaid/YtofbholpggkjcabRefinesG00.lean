/- VBase, NTurn, NInts, VOk -/
import Derived.Test.YtofbholpggkjcabRows
import Derived.WalkKit
import Derived.WalkSpells
import Derived.WalkLawsBesides
import Derived.Outline
import Derived.Below
import Derived.BigRegion
import Derived.OwnWalk
import Derived.Deep.RegionHeld3
/- Vectors: plain words, and the small functions of both sides. -/
namespace Go.Proofs.Ytofbholpggkjcab
open Go.RowKit

theorem ret_bool {a b : Bool} (h : a = b) : Ending.returned (.bool a) = .returned (.bool b) := by rw [h]
theorem ret_int {k : IntKind} {a b : Int} (h : a = b) : Ending.returned (.int k a) = .returned (.int k b) := by rw [h]
theorem ret_dec {p : Prop} [Decidable p] {b : Bool} (h : p ↔ b = true) : Ending.returned (.bool (decide p)) = .returned (.bool b) := by
  rw [show decide p = b from by cases b <;> simp_all]

/- A number that may stand in a vector; a list that is one. -/
def numOk (z : Int) : Bool := decide (-1 ≤ z) && decide (z ≤ 1)
def vok (l : List Int) : Bool := l.all numOk && decide (l.length = 4)
theorem numOk_iff {z : Int} : numOk z = true ↔ -1 ≤ z ∧ z ≤ 1 := by simp [numOk]
theorem vok_four {l : List Int} (h : vok l = true) : ∃ a b c d : Int, l = [a, b, c, d] ∧ (-1 ≤ a ∧ a ≤ 1) ∧ (-1 ≤ b ∧ b ≤ 1) ∧ (-1 ≤ c ∧ c ≤ 1) ∧ (-1 ≤ d ∧ d ≤ 1) := by
  simp only [vok, Bool.and_eq_true, decide_eq_true_eq] at h
  obtain ⟨h, hl⟩ := h
  match l, hl with
  | [a, b, c, d], _ =>
    simp only [List.all_cons, List.all_nil, Bool.and_eq_true, numOk_iff] at h
    exact ⟨a, b, c, d, rfl, h.1, h.2.1, h.2.2.1, h.2.2.2.1⟩

set_option maxHeartbeats 400000 in
theorem within_any (x lo hi : Int) (w : World) :
    Calls Try.prog 23 #[.int .i64 x, .int .i64 lo, .int .i64 hi] w fun e w' =>
      e = .returned (.bool (decide (lo ≤ x) && decide (x ≤ hi))) ∧ w' = w := by
  go_enter Try.func23, Try.ntmps23
  go_wp2
  · go_ret
    exact ⟨ret_dec (by simp_all), rfl⟩
  · go_ret
    exact ⟨ret_bool (by simp; omega), rfl⟩
end Go.Proofs.Ytofbholpggkjcab

/- What turns, and what stays as it was. -/
namespace Go.Proofs.Ytofbholpggkjcab
open Go.RowKit
/- All blocks but those of S stay as they were. -/
structure Turns (S : Nat → Prop) (w w' : World) : Prop where
  os : w'.os = w.os
  tape : w'.tape = w.tape
  output : w'.output = w.output
  size : w.heap.size ≤ w'.heap.size
  block : ∀ k, k < w.heap.size → ¬ S k → w'.heap[k]? = w.heap[k]?
theorem Turns.refl (S : Nat → Prop) (w : World) : Turns S w w := ⟨rfl, rfl, rfl, Nat.le_refl _, fun _ _ _ => rfl⟩
theorem Turns.trans {S : Nat → Prop} {a b c : World} (h : Turns S a b) (k : Turns S b c) : Turns S a c :=
  ⟨k.os.trans h.os, k.tape.trans h.tape, k.output.trans h.output, Nat.le_trans h.size k.size, fun i hi hS => (k.block i (Nat.lt_of_lt_of_le hi h.size) hS).trans (h.block i hi hS)⟩
theorem Turns.drew {S : Nat → Prop} {a w : World} (h : Turns S a w) : Turns S a w.drew := ⟨h.os, h.tape, h.output, h.size, h.block⟩
theorem Turns.of_below {S : Nat → Prop} {w w' : World} (h : Below w.heap.size w w') : Turns S w w' := ⟨h.os, h.tape, h.output, h.size, fun k hk _ => h.block k hk⟩
theorem Turns.to_below {S : Nat → Prop} {w w' : World} {B : Nat} (h : Turns S w w') (hS : ∀ k, S k → B ≤ k) (hB : B ≤ w.heap.size) : Below B w w' :=
  ⟨h.os, h.tape, h.output, h.size, fun k hk => h.block k (by omega) (fun e => by have := hS k e; omega)⟩
theorem Turns.mono {S S' : Nat → Prop} {w w' : World} (h : Turns S w w') (hS : ∀ k, S k → S' k) : Turns S' w w' := ⟨h.os, h.tape, h.output, h.size, fun k hk hn => h.block k hk (fun e => hn (hS k e))⟩
theorem Turns.alloc {S : Nat → Prop} {a w : World} (h : Turns S a w) (o : Obj) : Turns S a (w.alloc o) := h.trans (Turns.of_below ((Below.refl _ w).alloc (Nat.le_refl _) o))
theorem Turns.setCell {S : Nat → Prop} {a w : World} (h : Turns S a w) {p : Addr} (hp : S p.block) (u : Value) : Turns S a (w.setCell p u) :=
  h.trans ⟨rfl, rfl, rfl, by simp [World.setCell], fun k _ hk => Below.heap_setCell _ _ _ _ (fun e => hk (e ▸ hp))⟩
theorem Turns.cell {S : Nat → Prop} {w w' : World} (h : Turns S w w') {b o : Nat} (hb : b < w.heap.size) (hS : ¬ S b) : w'.cell? ⟨b, o, none⟩ = w.cell? ⟨b, o, none⟩ := World.cell?_of_block (w := w) (h.block b hb hS)
theorem Turns.frozen {S : Nat → Prop} {w w' : World} (h : Turns S w w') {b o : Nat} (hb : b < w.heap.size) (hS : ¬ S b) : w'.frozen? ⟨b, o, none⟩ = w.frozen? ⟨b, o, none⟩ := World.frozen?_of_block (w := w) (h.block b hb hS)
end Go.Proofs.Ytofbholpggkjcab

/- Rows of numbers: eqIntS where both sides are the same, markIntS, heldIntS. -/
namespace Go.Proofs.Ytofbholpggkjcab
open Go.RowKit
def intAt (l : List Int) (i : Nat) : Int := l.getD i 0
def intCells (l : List Int) : List Value := l.map (Value.int .i64)
/- The bytes of l lie in block b from off on. -/
def IntsAt (w : World) (b off : Nat) (l : List Int) : Prop := b < w.heap.size ∧ ∀ i, i < l.length → w.cell? ⟨b, off + i, none⟩ = some (.int .i64 (intAt l i))
def IsI (w : World) (x : Value) (l : List Int) : Prop := ∃ a cap, x = .slice a l.length cap ∧ l.length ≤ cap ∧ cap ≤ maxLen ∧ (l = [] ∨ ∃ b off, a = some ⟨b, off, none⟩ ∧ IntsAt w b off l)
theorem IntsAt.below {w w' : World} {B b off : Nat} {l : List Int} (h : IntsAt w b off l) (hb : Below B w w') (hB : b < B) : IntsAt w' b off l :=
  ⟨Nat.lt_of_lt_of_le h.1 hb.size, fun i hi => (hb.cell hB).trans (h.2 i hi)⟩
theorem IsI.below {w w' : World} {x : Value} {l : List Int} (h : IsI w x l) (hb : Below w.heap.size w w') : IsI w' x l := by
  obtain ⟨a, cap, rfl, h1, h2, h⟩ := h
  exact ⟨a, cap, rfl, h1, h2, h.imp id (fun ⟨b, off, e, h⟩ => ⟨b, off, e, h.below hb h.1⟩)⟩
/- The block g holds n cells that may be written; the first k of them hold the marks. -/
def MarkTo (w : World) (g n k : Nat) : Prop := g < w.heap.size ∧ (∀ j, j < n → (w.cell? ⟨g, j, none⟩).isSome = true ∧ w.frozen? ⟨g, j, none⟩ = false) ∧ ∀ i, i < k → w.cell? ⟨g, i, none⟩ = some (.int .i64 ((i : Int) + 1))
theorem MarkTo.below {w w' : World} {B g n k : Nat} (h : MarkTo w g n k) (hb : Below B w w') (hB : g < B) : MarkTo w' g n k :=
  ⟨Nat.lt_of_lt_of_le h.1 hb.size, fun j hj => by rw [hb.cell (p := ⟨g, j, none⟩) hB, hb.frozen (p := ⟨g, j, none⟩) hB]; exact h.2.1 j hj, fun i hi => (hb.cell hB).trans (h.2.2 i hi)⟩
theorem MarkTo.put {w : World} {g n k : Nat} (h : MarkTo w g n k) (hk : k < n) : MarkTo (w.setCell ⟨g, k, none⟩ (.int .i64 ((k : Int) + 1))) g n (k + 1) := by
  have e1 : w.setCell ⟨g, k, none⟩ (.int .i64 ((k : Int) + 1)) = w.setCells g k [.int .i64 ((k : Int) + 1)] := rfl
  have hsame : ∀ j, j ≠ k → (w.setCell ⟨g, k, none⟩ (.int .i64 ((k : Int) + 1))).cell? ⟨g, j, none⟩ = w.cell? ⟨g, j, none⟩ := fun j hj => by
    rw [e1]
    exact World.cell?_setCells_out g _ k w ⟨g, j, none⟩ (fun _ _ => by simp; omega)
  have hat : (w.setCell ⟨g, k, none⟩ (.int .i64 ((k : Int) + 1))).cell? ⟨g, k, none⟩ = some (.int .i64 ((k : Int) + 1)) := by
    rw [e1]
    have h0 := World.cell?_setCells_in g [.int .i64 ((k : Int) + 1)] k w (fun j hj => by
      obtain rfl : j = 0 := by simpa using hj
      exact (h.2.1 k hk).1) 0 (by simp)
    simpa using h0
  refine ⟨by simpa using h.1, fun j hj => ?_, fun i hi => ?_⟩
  · refine ⟨?_, ?_⟩
    · by_cases e : j = k
      · subst e; rw [hat]; rfl
      · rw [hsame j e]; exact (h.2.1 j hj).1
    · rw [e1, World.frozen?_setCells]; exact (h.2.1 j hj).2
  · by_cases e : i = k
    · subst e; exact hat
    · rw [hsame i e]; exact h.2.2 i (by omega)
theorem grown_refl (w : World) (row : Option Nat) : w.grownBy w row := ⟨rfl, rfl, rfl, Nat.le_refl _, fun _ _ _ => rfl⟩
theorem grown_trans {w w' w'' : World} {row : Option Nat} (h : w.grownBy w' row) (h' : w'.grownBy w'' row) : w.grownBy w'' row :=
  ⟨h'.os.trans h.os, h'.tape.trans h.tape, h'.output.trans h.output, Nat.le_trans h.size h'.size, fun k hk hr => (h'.block k (Nat.lt_of_lt_of_le hk h.size) hr).trans (h.block k hk hr)⟩
theorem setCell_grown (w : World) (g o : Nat) (v : Value) : w.grownBy (w.setCell ⟨g, o, none⟩ v) (some g) := by
  refine ⟨?_, ?_, ?_, by simp, fun k _ hk => Below.heap_setCell _ _ _ _ (fun e => hk (by rw [e]))⟩
  all_goals (unfold World.setCell; rfl)

set_option maxHeartbeats 2000000 in
theorem eqI_same (x y : Value) (l : List Int) (w : World) (hl : l.length ≤ 4611686018427387904) (hx : IsI w x l) (hy : IsI w y l) :
    Calls Try.prog 9 #[x, y] w fun e w' => e = .returned (.bool true) ∧ Below w.heap.size w w' := by
  obtain ⟨a, cap, rfl, h1, h2, h⟩ := hx
  obtain ⟨a', cap', rfl, h1', h2', h'⟩ := hy
  clear h1 h2 h1' h2'
  by_cases hz : l = []
  · subst hz
    clear h h'
    go_enter Try.func9, Try.ntmps9
    go_wp2
    go_loop [5] (fun i => i = .int .i64 0) (fun _ => 0)
    case atStart => rfl
    case round =>
      subst hrel
      go_wp2
      go_ret
      exact ⟨rfl, Below.refl _ _⟩
  · obtain ⟨b, off, rfl, hb, hc⟩ := h.resolve_left hz
    obtain ⟨b', off', rfl, hb', hc'⟩ := h'.resolve_left hz
    clear h h' hz
    go_enter Try.func9, Try.ntmps9
    go_wp2
    go_loopw [5] (fun i wr => ∃ k : Nat, k ≤ l.length ∧ i = .int .i64 k ∧ Below w.heap.size w wr) (fun i _ => l.length - (intOf i).toNat)
    case atStart => exact ⟨0, Nat.zero_le _, rfl, Below.refl _ _⟩
    case round =>
      obtain ⟨k, hk, rfl, hB⟩ := hrel
      have HB : Hid (Below w.heap.size w wr) := hB
      by_cases hlt : k < l.length
      · have f0 := (hB.cell (p := ⟨b, off + k, none⟩) hb).trans (hc k hlt)
        have e0 := (hB.cell (p := ⟨b', off' + k, none⟩) hb').trans (hc' k hlt)
        generalize intAt l k = z at f0 e0
        clear hB hc hc'
        go_wp2_with fail
        go_region_held3 (fun W => W.cell? ⟨b, off + k, none⟩ = some (.int .i64 z) ∧ W.cell? ⟨b', off' + k, none⟩ = some (.int .i64 z)) ((repeat' apply And.intro) <;> go_keep) (fail)
        go_wp2
        go_roundw
        case rel => exact ⟨k + 1, by omega, by go_num, HB.out.drew⟩
        case measure => simp [intOf]; omega
      · clear hB hc hc'
        go_wp2
        go_ret
        exact ⟨rfl, HB.out⟩

set_option maxHeartbeats 2000000 in
theorem markI_any (g n cap : Nat) (w : World) (hn : n ≤ 4611686018427387904) (hR : MarkTo w g n 0) :
    Calls Try.prog 12 #[.slice (some ⟨g, 0, none⟩) n cap, .int .i64 1] w fun e w' => e = .returned (.int .i64 ((n : Int) + 1)) ∧ MarkTo w' g n n ∧ w.grownBy w' (some g) := by
  have HR0 : Hid (MarkTo w g n 0) := hR
  clear hR
  go_enter Try.func12, Try.ntmps12
  go_wp2
  go_loopw [5, 1] (fun i z wr => ∃ k : Nat, k ≤ n ∧ i = .int .i64 k ∧ z = .int .i64 ((k : Int) + 1) ∧ MarkTo wr g n k ∧ w.grownBy wr (some g)) (fun i _ _ => n - (intOf i).toNat)
  case atStart => exact ⟨0, Nat.zero_le _, rfl, rfl, HR0.out, grown_refl _ _⟩
  case round =>
    obtain ⟨k, hk, rfl, rfl, hR, hg⟩ := hrel
    have HR : Hid (MarkTo wr g n k) := hR
    have HG : Hid (w.grownBy wr (some g)) := hg
    clear hR hg
    by_cases hlt : k < n
    · obtain ⟨v, hv⟩ := Option.isSome_iff_exists.1 (HR.out.2.1 k hlt).1
      have hf := (HR.out.2.1 k hlt).2
      go_wp2
      go_roundw
      case rel => exact ⟨k + 1, by omega, by go_num, by go_num, HR.out.put hlt, grown_trans HG.out (setCell_grown _ _ _ _)⟩
      case measure => simp [intOf]; omega
    · go_wp2
      go_ret
      obtain rfl : k = n := by omega
      exact ⟨rfl, HR.out, HG.out⟩

set_option maxHeartbeats 2000000 in
theorem heldI_any (g n cap : Nat) (w : World) (hn : n ≤ 4611686018427387904) (hR : MarkTo w g n n) :
    Calls Try.prog 13 #[.slice (some ⟨g, 0, none⟩) n cap, .int .i64 1] w fun e w' => e = .returned (.int .i64 ((n : Int) + 1)) ∧ w' = w := by
  have HR : Hid (MarkTo w g n n) := hR
  clear hR
  go_enter Try.func13, Try.ntmps13
  go_wp2
  go_loop [5, 1] (fun i z => ∃ k : Nat, k ≤ n ∧ i = .int .i64 k ∧ z = .int .i64 ((k : Int) + 1)) (fun i _ => n - (intOf i).toNat)
  case atStart => exact ⟨0, Nat.zero_le _, rfl, rfl⟩
  case round =>
    obtain ⟨k, hk, rfl, rfl⟩ := hrel
    by_cases hlt : k < n
    · have hev := HR.out.2.2 k hlt
      go_wp2
      go_round
      case rel => exact ⟨k + 1, by omega, by go_num, by go_num⟩
      case measure => simp [intOf]; omega
    · go_wp2
      go_ret
      obtain rfl : k = n := by omega
      exact ⟨rfl, rfl⟩

set_option maxHeartbeats 1000000 in
theorem markI_nil (a : Option Addr) (cap : Nat) (w : World) : Calls Try.prog 12 #[.slice a 0 cap, .int .i64 1] w fun e w' => e = .returned (.int .i64 1) ∧ w' = w := by
  go_enter Try.func12, Try.ntmps12
  go_wp2
  go_loop [5, 1] (fun i z => i = .int .i64 0 ∧ z = .int .i64 1) (fun _ _ => 0)
  case atStart => exact ⟨rfl, rfl⟩
  case round =>
    obtain ⟨rfl, rfl⟩ := hrel
    go_wp2
    go_ret
    exact ⟨rfl, rfl⟩
set_option maxHeartbeats 1000000 in
theorem heldI_nil (a : Option Addr) (cap : Nat) (w : World) : Calls Try.prog 13 #[.slice a 0 cap, .int .i64 1] w fun e w' => e = .returned (.int .i64 1) ∧ w' = w := by
  go_enter Try.func13, Try.ntmps13
  go_wp2
  go_loop [5, 1] (fun i z => i = .int .i64 0 ∧ z = .int .i64 1) (fun _ _ => 0)
  case atStart => exact ⟨rfl, rfl⟩
  case round =>
    obtain ⟨rfl, rfl⟩ := hrel
    go_wp2
    go_ret
    exact ⟨rfl, rfl⟩

/- A slice over the bytes l, in a block of its own from B on, all of whose cells may be written. -/
def OwnI (B : Nat) (w : World) (x : Value) (l : List Int) : Prop := ∃ a cap, x = .slice a l.length cap ∧ l.length ≤ cap ∧ cap ≤ maxLen ∧ (l = [] ∨ ∃ g, a = some ⟨g, 0, none⟩ ∧ B ≤ g ∧ (∀ j, j < l.length → w.frozen? ⟨g, j, none⟩ = false) ∧ IntsAt w g 0 l)
theorem OwnI.nil (B : Nat) (w : World) : OwnI B w (.slice none 0 0) [] := ⟨none, 0, rfl, Nat.le_refl _, Nat.zero_le _, .inl rfl⟩
theorem OwnI.isI {B : Nat} {w : World} {x : Value} {l : List Int} (h : OwnI B w x l) : IsI w x l := by
  obtain ⟨a, cap, rfl, h1, h2, h⟩ := h
  exact ⟨a, cap, rfl, h1, h2, h.imp id (fun ⟨g, e, _, _, hr⟩ => ⟨g, 0, e, hr⟩)⟩
theorem OwnI.below {B : Nat} {w w' : World} {x : Value} {l : List Int} (h : OwnI B w x l) (hb : Below w.heap.size w w') : OwnI B w' x l := by
  obtain ⟨a, cap, rfl, h1, h2, h⟩ := h
  exact ⟨a, cap, rfl, h1, h2, h.imp id (fun ⟨g, e, hg, hf, hr⟩ => ⟨g, e, hg, fun j hj => (hb.frozen (p := ⟨g, j, none⟩) hr.1).trans (hf j hj), hr.below hb hr.1⟩)⟩
theorem OwnI.mono {B B' : Nat} {w : World} {x : Value} {l : List Int} (h : OwnI B w x l) (hb : B' ≤ B) : OwnI B' w x l := by
  obtain ⟨a, cap, rfl, h1, h2, h⟩ := h
  exact ⟨a, cap, rfl, h1, h2, h.imp id (fun ⟨g, e, hg, hr⟩ => ⟨g, e, Nat.le_trans hb hg, hr⟩)⟩
theorem OwnI.of_row {B : Nat} {w : World} {x : Value} {l : List Int} (h : w.ownsRow B 3 1 x l.length (intCells l)) : OwnI B w x l := by
  obtain ⟨hl, ⟨rfl, h0⟩ | ⟨g, cap, cur, rfl, hg, hc, h1, h2, h3, h4⟩⟩ := h
  · exact ⟨none, 0, by rw [h0], by omega, by unfold maxLen; omega, .inl (List.eq_nil_of_length_eq_zero h0)⟩
  · refine ⟨_, cap, rfl, h1, h2, .inr ⟨g, rfl, hg, fun j hj => ?_, (Array.getElem?_eq_some_iff.1 hc).1, fun i hi => ?_⟩⟩
    · have hj2 : j < cur.size := by omega
      simp [World.frozen?, hc]
    · have e1 : w.cell? ⟨g, i, none⟩ = (intCells l)[i]? := by
        rw [← h4, List.getElem?_take_of_lt (by omega)]
        simp [World.cell?, hc]
      rw [Nat.zero_add, e1]
      simp [intCells, intAt, hi]
/- At most one row, at or above B, has turned. -/
def Turned (B : Nat) (w w' : World) : Prop := w' = w ∨ ∃ g, B ≤ g ∧ w.grownBy w' (some g)
theorem Turned.below {B : Nat} {w w' : World} (h : Turned B w w') (hB : B ≤ w.heap.size) : Below B w w' := by
  rcases h with rfl | ⟨g, hg, h⟩
  · exact Below.refl _ _
  · exact (Below.refl B w).grown h hB (fun k e => by cases e; exact hg)
def HeldI (w : World) (x : Value) (m : Int) : Prop := ∃ a n cap, x = .slice a n cap ∧ m = ((n : Nat) : Int) + 1 ∧ n ≤ 4611686018427387904 ∧ (n = 0 ∨ ∃ g, a = some ⟨g, 0, none⟩ ∧ MarkTo w g n n)
theorem HeldI.below {w w' : World} {x : Value} {m : Int} (h : HeldI w x m) (hb : Below w.heap.size w w') : HeldI w' x m := by
  obtain ⟨a, n, cap, h1, h2, h3, h4⟩ := h
  exact ⟨a, n, cap, h1, h2, h3, h4.imp id (fun ⟨g, e, hr⟩ => ⟨g, e, hr.below hb hr.1⟩)⟩
theorem heldI_in {w : World} {x : Value} {m : Int} (h : HeldI w x m) : Calls Try.prog 13 #[x, .int .i64 1] w fun e w' => e = .returned (.int .i64 m) ∧ w' = w := by
  obtain ⟨a, n, cap, rfl, rfl, hn, rfl | ⟨g, rfl, hr⟩⟩ := h
  · exact heldI_nil a cap w
  · exact heldI_any g n cap w hn hr
theorem markI_own {B : Nat} {w : World} {x : Value} {l : List Int} (h : OwnI B w x l) (hl : l.length ≤ 4611686018427387904) :
    Calls Try.prog 12 #[x, .int .i64 1] w fun e w' => ∃ m : Int, 1 ≤ m ∧ e = .returned (.int .i64 m) ∧ HeldI w' x m ∧ Turned B w w' := by
  obtain ⟨a, cap, rfl, h1, h2, h⟩ := h
  by_cases h0 : l = []
  · subst h0
    refine (markI_nil a cap w).mono ?_
    rintro e w' ⟨rfl, rfl⟩
    exact ⟨1, by omega, rfl, ⟨a, 0, cap, rfl, by simp, by omega, .inl rfl⟩, .inl rfl⟩
  · obtain ⟨g, rfl, hg, hf, hr⟩ := h.resolve_left h0
    refine (markI_any g l.length cap w hl ⟨hr.1, fun j hj => ⟨by have := hr.2 j hj; rw [Nat.zero_add] at this; rw [this]; rfl, hf j hj⟩, fun i hi => by omega⟩).mono ?_
    rintro e w' ⟨rfl, hr', hgr⟩
    exact ⟨_, by omega, rfl, ⟨_, l.length, cap, rfl, rfl, hl, .inr ⟨g, rfl, hr'⟩⟩, .inr ⟨g, hg, hgr⟩⟩
end Go.Proofs.Ytofbholpggkjcab

/- Vectors: VectorOk of both sides, and the program's vectorOf. -/
namespace Go.Proofs.Ytofbholpggkjcab
open Go.RowKit

theorem intAt_mem {l : List Int} {k : Nat} (h : k < l.length) : intAt l k ∈ l := by
  unfold intAt; rw [List.getD_eq_getElem?_getD, List.getElem?_eq_getElem h]; exact List.getElem_mem h
theorem vok_no {l : List Int} {k : Nat} (hk : k < l.length) (h : intAt l k < -1 ∨ 1 < intAt l k) : vok l = false := by
  have hm := intAt_mem hk
  have : l.all numOk = false := by
    rw [List.all_eq_false]
    exact ⟨_, hm, by simp only [numOk_iff]; omega⟩
  simp [vok, this]
theorem vok_all {l : List Int} (h : ∀ j, j < l.length → -1 ≤ intAt l j ∧ intAt l j ≤ 1) : vok l = decide (l.length = 4) := by
  have : l.all numOk = true := by
    rw [List.all_eq_true]
    intro x hx
    obtain ⟨i, hi, rfl⟩ := List.getElem_of_mem hx
    have := h i hi
    unfold intAt at this
    rw [List.getD_eq_getElem?_getD, List.getElem?_eq_getElem hi] at this
    exact numOk_iff.2 this
  simp [vok, this]

set_option maxHeartbeats 1000000 in
theorem sVok_any (x : Value) (l : List Int) (w : World) (hl : l.length ≤ 4611686018427387904) (h : IsI w x l) :
    Calls Try.prog 19 #[x] w fun e w' => e = .returned (.bool (vok l)) ∧ w' = w := by
  obtain ⟨a, cap, rfl, h1, h2, h⟩ := h
  clear h1 h2
  by_cases hz : l = []
  · subst hz
    clear h
    go_enter Try.func19, Try.ntmps19
    go_wp2
    go_loop [3] (fun i => i = .int .i64 0) (fun _ => 0)
    case atStart => rfl
    case round =>
      subst hrel
      go_wp2
      go_ret
      exact ⟨ret_bool rfl, rfl⟩
  · obtain ⟨b, off, rfl, hb, hc⟩ := h.resolve_left hz
    clear h hz
    go_enter Try.func19, Try.ntmps19
    go_wp2
    go_loop [3] (fun i => ∃ k : Nat, k ≤ l.length ∧ i = .int .i64 k ∧ ∀ j, j < k → -1 ≤ intAt l j ∧ intAt l j ≤ 1) (fun i => l.length - (intOf i).toNat)
    case atStart => exact ⟨0, Nat.zero_le _, rfl, fun j hj => by omega⟩
    case round =>
      obtain ⟨k, hk, rfl, hall⟩ := hrel
      have HA : Hid (∀ j, j < k → -1 ≤ intAt l j ∧ intAt l j ≤ 1) := hall
      clear hall
      by_cases hlt : k < l.length
      · have f0 := hc k hlt
        have HN : Hid (intAt l k < -1 ∨ 1 < intAt l k → vok l = false) := vok_no hlt
        obtain ⟨z, hz⟩ : ∃ z, z = intAt l k := ⟨_, rfl⟩
        rw [← hz] at f0 HN
        have HZ : Hid (z = intAt l k) := hz
        clear hc hz
        by_cases hz1 : z < -1
        · go_wp2
          go_ret
          exact ⟨ret_bool (HN.out (.inl hz1)).symm, rfl⟩
        · by_cases hz2 : 1 < z
          · go_wp2
            go_ret
            exact ⟨ret_bool (HN.out (.inr hz2)).symm, rfl⟩
          · go_wp2
            go_round
            case rel => exact ⟨k + 1, by omega, by go_num, fun j hj => by
              by_cases e : j < k
              · exact HA.out j e
              · rw [show j = k by omega, ← HZ.out]; omega⟩
            case measure => simp [intOf]; omega
      · clear hc
        obtain rfl : k = l.length := by omega
        have HV : Hid (vok l = decide (l.length = 4)) := vok_all HA.out
        go_wp2
        go_ret
        refine ⟨ret_bool ?_, rfl⟩
        rw [HV.out]
        by_cases e : l.length = 4
        · simp [e]
        · have e2 : ¬ (l.length : Int) = 4 := by omega
          simp [e, e2]
end Go.Proofs.Ytofbholpggkjcab

