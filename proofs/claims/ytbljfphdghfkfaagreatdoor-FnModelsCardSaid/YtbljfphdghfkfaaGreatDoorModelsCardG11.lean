/- NGen, NRow, EPure, EEff, VBase, VOk -/
import Derived.Test.YtbljfphdghfkfaaGreatDoorModelsCardG10
import Derived.Test.YtbljfphdghfkfaaGreatDoorModelsCardG09
import Derived.Test.YtbljfphdghfkfaaGreatDoorModelsCardG07
import Derived.Test.YtbljfphdghfkfaaGreatDoorModelsCardG03
import Derived.Laws.OwnMore
import Derived.Test.YtbljfphdghfkfaaGreatDoorRows
import Derived.Test.YtbljfphdghfkfaaGreatDoorModelsCardG00
import Derived.WalkKit
import Derived.WalkSpells
import Derived.WalkLawsBesides
import Derived.Outline
import Derived.Below
import Derived.BigRegion
/- The first number of a seed, kept behind a sync.Once in the struct of a call; the closure over a place. -/
namespace Go.Proofs.YtbljfphdghfkfaaGreatDoor
open Go.RowKit
structure Src (w : World) (b : Nat) (s l : Int) (d : Int) (st : Int) : Prop where
 c0 : w.cell? ⟨b, 0, none⟩ = some (.int .i64 s)
 c1 : w.cell? ⟨b, 1, none⟩ = some (.int .i64 l)
 c2 : w.cell? ⟨b, 2, none⟩ = some (.int .u32 d)
 c3 : w.cell? ⟨b, 3, none⟩ = some (.int .i32 0)
 c5 : w.cell? ⟨b, 5, none⟩ = some (.int .i64 st)
 fz : ∀ o, w.frozen? ⟨b, o, none⟩ = false
 lt : b < w.heap.size
theorem Src.same {w w' : World} {b : Nat} {s l d st : Int} (h : Src w b s l d st) (hb : w'.heap[b]? = w.heap[b]?) (hz : w.heap.size ≤ w'.heap.size) : Src w' b s l d st :=
 ⟨(World.cell?_of_block (w := w) hb).trans h.c0, (World.cell?_of_block (w := w) hb).trans h.c1, (World.cell?_of_block (w := w) hb).trans h.c2, (World.cell?_of_block (w := w) hb).trans h.c3, (World.cell?_of_block (w := w) hb).trans h.c5,
  fun o => (World.frozen?_of_block (w := w) hb).trans (h.fz o), by have := h.lt; omega⟩
theorem Src.turns {w w' : World} {S : Nat → Prop} {b : Nat} {s l d st : Int} (h : Src w b s l d st) (ht : Turns S w w') (hS : ¬ S b) : Src w' b s l d st := h.same (ht.block b h.lt hS) ht.size
theorem Src.alloc {w : World} {b : Nat} {s l d st : Int} (h : Src w b s l d st) (o : Obj) : Src (w.alloc o) b s l d st :=
 h.same (Below.heap_alloc _ _ _ h.lt) (by simp)
theorem Src.slow {w : World} {b : Nat} {s l d st : Int} (h : Src w b s l d st) (x : Int) : Src (slowW w b x) b s l 1 x := by
 have hn : ∀ i j : Nat, i ≠ j → (⟨b, i, none⟩ : Addr) ≠ ⟨b, j, none⟩ := fun i j hij e => hij (by injection e)
 constructor
 ·unfold slowW
  rw [World.cell?_setCell_other _ _ _ _ (hn _ _ (by omega)), World.cell?_setCell_other _ _ _ _ (hn _ _ (by omega)), World.cell?_drew, World.cell?_drew, World.cell?_setCell_other _ _ _ _ (hn _ _ (by omega)), World.cell?_setCell_other _ _ _ _ (hn _ _ (by omega))]
  exact h.c0
 ·unfold slowW
  rw [World.cell?_setCell_other _ _ _ _ (hn _ _ (by omega)), World.cell?_setCell_other _ _ _ _ (hn _ _ (by omega)), World.cell?_drew, World.cell?_drew, World.cell?_setCell_other _ _ _ _ (hn _ _ (by omega)), World.cell?_setCell_other _ _ _ _ (hn _ _ (by omega))]
  exact h.c1
 ·unfold slowW
  rw [World.cell?_setCell_other _ _ _ _ (hn _ _ (by omega))]
  refine World.cell?_setCell_same _ _ _ (u := .int .u32 d) ?_
  rw [World.cell?_drew, World.cell?_drew, World.cell?_setCell_other _ _ _ _ (hn _ _ (by omega)), World.cell?_setCell_other _ _ _ _ (hn _ _ (by omega))]
  exact h.c2
 ·unfold slowW
  refine World.cell?_setCell_same _ _ _ (u := .int .i32 1) ?_
  rw [World.cell?_setCell_other _ _ _ _ (hn _ _ (by omega)), World.cell?_drew, World.cell?_drew, World.cell?_setCell_other _ _ _ _ (hn _ _ (by omega))]
  exact World.cell?_setCell_same _ _ _ h.c3
 ·unfold slowW
  rw [World.cell?_setCell_other _ _ _ _ (hn _ _ (by omega)), World.cell?_setCell_other _ _ _ _ (hn _ _ (by omega)), World.cell?_drew, World.cell?_drew]
  refine World.cell?_setCell_same _ _ _ (u := .int .i64 st) ?_
  rw [World.cell?_setCell_other _ _ _ _ (hn _ _ (by omega))]
  exact h.c5
 ·intro o
  unfold slowW
  simp [h.fz]
 ·unfold slowW
  have := h.lt
  simpa [World.setCell] using this
theorem slow_turns (w : World) (b : Nat) (x : Int) : Turns (fun k => k = b) w (slowW w b x) :=
 ((((((Turns.refl (fun k => k = b) w).setCell (p := ⟨b, 3, none⟩) rfl _).setCell (p := ⟨b, 5, none⟩) rfl _).drew).drew).setCell (p := ⟨b, 2, none⟩) rfl _).setCell (p := ⟨b, 3, none⟩) rfl _
def Ready (w : World) (b : Nat) (s l : Int) : Prop := ∃ d st, Src w b s l d st ∧ (d = 0 ∨ d = 1 ∧ st = startI s l)
theorem Ready.turns {w w' : World} {S : Nat → Prop} {b : Nat} {s l : Int} (h : Ready w b s l) (ht : Turns S w w') (hS : ¬ S b) : Ready w' b s l := by
 obtain ⟨d, st, h1, h2⟩ := h
 exact ⟨d, st, h1.turns ht hS, h2⟩
theorem Ready.lt {w : World} {b : Nat} {s l : Int} (h : Ready w b s l) : b < w.heap.size := by obtain ⟨d, st, h1, _⟩ := h; exact h1.lt
set_option maxRecDepth 100000 in
set_option maxHeartbeats 1600000 in
theorem do_first (b : Nat) (pl : Addr) (hpb : ¬ b = pl.block) (st s l : Int) (hs0 : 0 ≤ s) (hs1 : s ≤ 999999) (hl0 : 0 ≤ l) (hl1 : l ≤ 3) (w : World) (hp : w.cell? pl = some (.pointer (some ⟨b, 0, none⟩))) (h : Src w b s l 0 st) :
  Calls Tryz.prog 133 #[.pointer (some ⟨b, 2, none⟩), .func (.func 134) #[] #[.pointer (some pl)]] w fun e w' => e = .returned (.tuple #[]) ∧ w' = slowW w b (startI s l) := by
 have h2 := h.c2
 have hl := run_call_load (P := Tryz.prog) Tryz.func137 (by kernel_rfl) (by kernel_rfl) (by kernel_rfl) .u32 (by kernel_rfl) h2
 have hnot : ∀ (x : Bool) (w : World), (Op.unary .not (.bool x)).run Tryz.prog w = .ok (.bool (!x)) w := fun _ _ => rfl
 go_enter Tryz.func133, Tryz.ntmps133
 go_wp2_with (first | (go_at_call 136; refine (slow_any b pl hpb _ s l hs0 hs1 hl0 hl1 _ hp h.c0 h.c1 h.c2 h.c3 h.c5 (h.fz _) (h.fz _) (h.fz _)).mono ?_; rintro e w' ⟨rfl, rfl⟩) | (go_at_call 135; go_in))
 go_end0
 exact ⟨rfl, rfl⟩
theorem do_done (a : Addr) (fv : Value) (w : World) (h0 : w.cell? a = some (.int .u32 1)) :
  Calls Tryz.prog 133 #[.pointer (some a), fv] w fun e w' => e = .returned (.tuple #[]) ∧ w' = w := by
 have hl := run_call_load (P := Tryz.prog) Tryz.func137 (by kernel_rfl) (by kernel_rfl) (by kernel_rfl) .u32 (by kernel_rfl) h0
 have hnot : ∀ (x : Bool) (w : World), (Op.unary .not (.bool x)).run Tryz.prog w = .ok (.bool (!x)) w := fun _ _ => rfl
 go_enter Tryz.func133, Tryz.ntmps133
 go_wp2
 go_end0
 exact ⟨rfl, rfl⟩
set_option maxRecDepth 100000 in
set_option maxHeartbeats 1600000 in
theorem first_any (b : Nat) (s l : Int) (hs0 : 0 ≤ s) (hs1 : s ≤ 999999) (hl0 : 0 ≤ l) (hl1 : l ≤ 3) (w : World) (h : Ready w b s l) :
  Calls Tryz.prog 132 #[.pointer (some ⟨b, 0, none⟩)] w fun e w' => e = .returned (.int .i64 (startI s l)) ∧ Ready w' b s l ∧ Turns (fun k => k = b) w w' := by
 have hmf : ∀ (fn : Fn) (first cap : Array Value) (w : World), (Instr.makeFunc fn first cap).run Tryz.prog w = .ok (.func fn first cap) w := fun _ _ _ _ => rfl
 have p0 : (w.alloc (.cells #[.pointer (some ⟨b, 0, none⟩)] 207)).cell? ⟨w.heap.size, 0, none⟩ = some (.pointer (some ⟨b, 0, none⟩)) := by simp
 have hbl := h.lt
 obtain ⟨d, st, h1, rfl | ⟨rfl, rfl⟩⟩ := h
 ·have h2 := h1.alloc (.cells #[.pointer (some ⟨b, 0, none⟩)] 207)
  have h3 := h2.slow (startI s l)
  have hT : Turns (fun k => k = b) w (slowW (w.alloc (.cells #[.pointer (some ⟨b, 0, none⟩)] 207)) b (startI s l)) := ((Turns.refl _ w).alloc _).trans (slow_turns _ b _)
  have pE : (slowW (w.alloc (.cells #[.pointer (some ⟨b, 0, none⟩)] 207)) b (startI s l)).cell? ⟨w.heap.size, 0, none⟩ = some (.pointer (some ⟨b, 0, none⟩)) :=
   ((slow_turns _ b _).cell (by simp) (by omega)).trans p0
  have vE := h3.c5
  go_enter Tryz.func132, Tryz.ntmps132
  go_wp2_with (go_at_call 133; refine (do_first b ⟨w.heap.size, 0, none⟩ (by simp; omega) st s l hs0 hs1 hl0 hl1 _ p0 h2).mono ?_; rintro e w' ⟨rfl, rfl⟩)
  go_ret
  exact ⟨rfl, ⟨1, _, h3, .inr ⟨rfl, rfl⟩⟩, hT⟩
 ·have h2 := h1.alloc (.cells #[.pointer (some ⟨b, 0, none⟩)] 207)
  have vE := h2.c5
  have a2 := h2.c2
  go_enter Tryz.func132, Tryz.ntmps132
  go_wp2_with (go_at_call 133; refine (do_done ⟨b, 2, none⟩ _ _ a2).mono ?_; rintro e w' ⟨rfl, rfl⟩)
  go_ret
  exact ⟨rfl, ⟨1, _, h2, .inr ⟨rfl, rfl⟩⟩, (Turns.refl _ w).alloc _⟩
end Go.Proofs.YtbljfphdghfkfaaGreatDoor

/- The closure over a place; the program's Rand and RandBelow, the specification's. -/
namespace Go.Proofs.YtbljfphdghfkfaaGreatDoor
open Go.RowKit
set_option maxRecDepth 100000 in
set_option maxHeartbeats 1600000 in
theorem at_any (b : Nat) (s l n : Int) (h : placeB s l n = true) (w : World) (hR : Ready w b s l) :
  Calls Tryz.prog 130 #[.pointer (some ⟨b, 0, none⟩), .int .i64 n] w fun e w' => e = .returned (.int .i64 (randI s l n)) ∧ Ready w' b s l ∧ Turns (fun k => k = b) w w' := by
 obtain ⟨h0, h1, h2, h3, h4, h5⟩ := placeB_iff.1 h
 have m0 : 0 ≤ startI s l := mix_low _
 have m1 : startI s l < 2147483647 := mix_high _
 have e1 : Int.tmod (startI s l + 7919 * n) 2147483647 = (startI s l + 7919 * n) % 2147483647 := tmod_pos (by omega)
 have q0 : IntKind.i64.wrap (7919 * n) = 7919 * n := by rw [IntKind.wrap_i64]; omega
 have q1 : IntKind.i64.wrap (startI s l + 7919 * n) = startI s l + 7919 * n := by rw [IntKind.wrap_i64]; omega
 have e2 : mixed ((startI s l + 7919 * n) % 2147483647) = mix ((startI s l + 7919 * n) % 2147483647) := by unfold mixed; rw [if_pos (numB_iff.2 (by omega))]
 have e3 : mixed (mix ((startI s l + 7919 * n) % 2147483647)) = randI s l n := by
  unfold mixed randI; rw [if_pos (numB_iff.2 ⟨mix_low _, by have := mix_high ((startI s l + 7919 * n) % 2147483647); omega⟩)]
 go_enter Tryz.func130, Tryz.ntmps130
 go_wp2_with (first | (go_at_call 132; refine (first_any b s l h0 h1 h2 h3 _ hR).mono ?_; rintro e w1 ⟨rfl, hR1, hT1⟩) | (go_at_call 131; refine (iMixed_any _ _).mono ?_; rintro e w' ⟨rfl, rfl⟩; (try rw [e1]); (try rw [e2]); (try rw [e3])))
 go_ret
 exact ⟨rfl, hR1, hT1⟩
structure Gen (w : World) (g : Nat) (s l n : Int) : Prop where
 src : Ready w g s l
 ptr : w.cell? ⟨g + 1, 0, none⟩ = some (.pointer (some ⟨g, 0, none⟩))
 at_ : w.cell? ⟨g + 2, 0, none⟩ = some (.int .i64 n)
 fz : w.frozen? ⟨g + 2, 0, none⟩ = false
 lt : g + 2 < w.heap.size
def genV (g : Nat) : Value := .func (.func 129) #[] #[.pointer (some ⟨g + 1, 0, none⟩), .pointer (some ⟨g + 2, 0, none⟩)]
set_option maxRecDepth 100000 in
set_option maxHeartbeats 1600000 in
theorem next_any (g : Nat) (s l n : Int) (h : placeB s l n = true) (w : World) (hG : Gen w g s l n) :
  Calls Tryz.prog 129 #[.pointer (some ⟨g + 1, 0, none⟩), .pointer (some ⟨g + 2, 0, none⟩)] w fun e w' => e = .returned (.int .i64 (randI s l n)) ∧ Gen w' g s l (n + 1) ∧ Turns (fun k => k = g ∨ k = g + 2) w w' := by
 obtain ⟨h0, h1, h2, h3, h4, h5⟩ := placeB_iff.1 h
 have c1 := hG.ptr
 have c2 := hG.at_
 have hR := hG.src
 have hlt := hG.lt
 have hf := hG.fz
 have q0 : IntKind.i64.wrap (n + 1) = n + 1 := by rw [IntKind.wrap_i64]; omega
 go_enter Tryz.func129, Tryz.ntmps129
 go_wp2_with (go_at_call 130; refine (at_any g s l n h _ (by first | exact hR | exact hR.turns (Turns.refl (fun _ => False) w).drew id)).mono ?_; rintro e w1 ⟨rfl, hR1, hT1⟩; have d2 := (hT1.cell (o := 0) hlt (show ¬ (g + 2 = g) by omega)).trans c2; have d1 := (hT1.cell (o := 0) (show g + 1 < w.heap.size by omega) (show ¬ (g + 1 = g) by omega)).trans c1; have df := (hT1.frozen (o := 0) hlt (show ¬ (g + 2 = g) by omega)).trans hf)
 go_ret
 refine ⟨rfl, ⟨hR1.turns ((Turns.refl (fun k => k = g + 2) w1).setCell (p := ⟨g + 2, 0, none⟩) rfl _) (by omega), ?_, ?_, ?_, ?_⟩, (hT1.mono (fun k hk => .inl hk)).setCell (p := ⟨g + 2, 0, none⟩) (.inr rfl) _⟩
 ·exact (((Turns.refl (fun k => k = g + 2) w1).setCell (p := ⟨g + 2, 0, none⟩) rfl _).cell (by have := hT1.size; omega) (by omega)).trans d1
 ·exact World.cell?_setCell_same _ _ _ d2
 ·simp [df]
 ·have := hT1.size
  simp [World.setCell]
  omega
set_option maxRecDepth 100000 in
set_option maxHeartbeats 1600000 in
theorem rowFrom_any (s l n : Int) (w : World) :
  Calls Tryz.prog 128 #[.int .i64 s, .int .i64 l, .int .i64 n] w fun e w' => e = .returned (genV w.heap.size) ∧ Gen w' w.heap.size s l n ∧ Below w.heap.size w w' := by
 have hmf : ∀ (fn : Fn) (first cap : Array Value) (w : World), (Instr.makeFunc fn first cap).run Tryz.prog w = .ok (.func fn first cap) w := fun _ _ _ _ => rfl
 go_enter Tryz.func128, Tryz.ntmps128
 go_wp2
 go_ret
 refine ⟨rfl, ?_, (((Below.refl _ _).alloc (Nat.le_refl _) _).alloc (by simp) _).alloc (by simp; omega) _⟩
 generalize hw1 : w.alloc (.cells #[.int .i64 s, .int .i64 l, .int .u32 0, .int .i32 0, .int .u32 0, .int .i64 0] 220) = w1
 have hz1 : w1.heap.size = w.heap.size + 1 := by subst hw1; simp
 have hS1 : Src w1 w.heap.size s l 0 0 := by
  subst hw1
  constructor <;> simp
 generalize hw2 : w1.alloc (.cells #[.pointer (some ⟨w.heap.size, 0, none⟩)] 207) = w2
 have hz2 : w2.heap.size = w.heap.size + 2 := by subst hw2; simp; omega
 have hS2 : Src w2 w.heap.size s l 0 0 := by subst hw2; exact hS1.alloc _
 have hp2 : w2.cell? ⟨w.heap.size + 1, 0, none⟩ = some (.pointer (some ⟨w.heap.size, 0, none⟩)) := by subst hw2; rw [← hz1]; simp
 refine ⟨⟨0, 0, hS2.alloc _, .inl rfl⟩, ?_, ?_, ?_, by simp; omega⟩
 ·exact (((Below.refl _ w2).alloc (Nat.le_refl _) _).cell (p := ⟨w.heap.size + 1, 0, none⟩) (by simp; omega)).trans hp2
 ·rw [← hz2]; simp
 ·rw [← hz2]; simp
set_option maxRecDepth 100000 in
set_option maxHeartbeats 1600000 in
theorem iRand_any (s l n : Int) (w : World) :
  Calls Tryz.prog 125 #[.int .i64 s, .int .i64 l, .int .i64 n] w fun e w' => e = .returned (.int .i64 (rnd s l n)) ∧ Below w.heap.size w w' := by
 have hnot : ∀ (x : Bool) (w : World), (Op.unary .not (.bool x)).run Tryz.prog w = .ok (.bool (!x)) w := fun _ _ => rfl
 by_cases hx : placeB s l n = true
 ·go_enter Tryz.func125, Tryz.ntmps125
  go_wp2_with (first | (go_at_call 124; refine (placeOk_any s l n _).mono ?_; rintro e w' ⟨rfl, rfl⟩; rw [hx]) | (go_at_call 128; refine (rowFrom_any s l n _).mono ?_; rintro e w1 ⟨rfl, hG1, hB1⟩; unfold genV) | (go_at_call 129; refine (next_any _ s l n hx _ hG1).mono ?_; rintro e w2 ⟨rfl, hG2, hT2⟩))
  go_ret
  exact ⟨ret_int (by simp [rnd, hx]), hB1.trans (hT2.to_below (fun k hk => by rcases hk with h | h <;> omega) hB1.size)⟩
 ·have hx' : placeB s l n = false := by simpa using hx
  go_enter Tryz.func125, Tryz.ntmps125
  go_wp2_with (go_at_call 124; refine (placeOk_any s l n _).mono ?_; rintro e w' ⟨rfl, rfl⟩; rw [hx'])
  go_ret
  exact ⟨ret_int (by simp [rnd, hx]), Below.refl _ _⟩
def modB (m : Int) : Bool := decide (1 ≤ m) && decide (m ≤ 1000)
def rndB (s l n m : Int) : Int := if placeB s l n = true ∧ modB m = true then randI s l n % m else -1
theorem randI_low (s l n : Int) : 0 ≤ randI s l n := mix_low _
theorem randI_high (s l n : Int) : randI s l n < 2147483647 := mix_high _
set_option maxHeartbeats 1600000 in
theorem iBelow_any (s l n m : Int) (w : World) :
  Calls Tryz.prog 118 #[.int .i64 s, .int .i64 l, .int .i64 n, .int .i64 m] w fun e w' => e = .returned (.int .i64 (rndB s l n m)) ∧ Below w.heap.size w w' := by
 have hnot : ∀ (x : Bool) (w : World), (Op.unary .not (.bool x)).run Tryz.prog w = .ok (.bool (!x)) w := fun _ _ => rfl
 by_cases hx : placeB s l n = true
 ·by_cases hm : modB m = true
  ·have h1 : 1 ≤ m ∧ m ≤ 1000 := by simpa [modB] using hm
   obtain ⟨h1, h2⟩ := h1
   have hm0 : ¬ m = 0 := by omega
   have hb : (decide (1 ≤ m) && decide (m ≤ 1000)) = true := hm
   have hr : rnd s l n = randI s l n := by simp [rnd, hx]
   have r0 := randI_low s l n
   have r1 := randI_high s l n
   go_enter Tryz.func118, Tryz.ntmps118
   go_wp2_with (first | (go_at_call 124; refine (placeOk_any s l n _).mono ?_; rintro e w' ⟨rfl, rfl⟩; rw [hx]) | (go_at_call 31; refine (within_any m _ _ _).mono ?_; rintro e w' ⟨rfl, rfl⟩; rw [hb]) | (go_at_call 125; refine (iRand_any s l n _).mono ?_; rintro e w1 ⟨rfl, hB1⟩; rw [hr]))
   go_ret
   exact ⟨ret_int (by simp [rndB, hx, hm]), hB1⟩
  ·have hb : (decide (1 ≤ m) && decide (m ≤ 1000)) = false := by simpa [modB] using hm
   go_enter Tryz.func118, Tryz.ntmps118
   go_wp2_with (first | (go_at_call 124; refine (placeOk_any s l n _).mono ?_; rintro e w' ⟨rfl, rfl⟩; rw [hx]) | (go_at_call 31; refine (within_any m _ _ _).mono ?_; rintro e w' ⟨rfl, rfl⟩; rw [hb]))
   go_ret
   exact ⟨ret_int (by simp [rndB, hm]), Below.refl _ _⟩
 ·have hx' : placeB s l n = false := by simpa using hx
  go_enter Tryz.func118, Tryz.ntmps118
  go_wp2_with (go_at_call 124; refine (placeOk_any s l n _).mono ?_; rintro e w' ⟨rfl, rfl⟩; rw [hx'])
  go_ret
  exact ⟨ret_int (by simp [rndB, hx]), Below.refl _ _⟩
end Go.Proofs.YtbljfphdghfkfaaGreatDoor

/- What an event does, as plain values: emits, a part's turn, its ops one behind the other. -/
namespace Go.Proofs.YtbljfphdghfkfaaGreatDoor
open Go.RowKit
structure Tn where
 a : Int
 b : Int
 q : Int
 d : Int
 s : List Ev
 x : List Em
def Tn.reg (t : Tn) (i : Int) : Int := if i = 0 then t.a else t.b
def Tn.put (t : Tn) (i z : Int) : Tn := if i = 0 then { t with a := z } else { t with b := z }
def sentE (e : Ev) (o : O) (t : Tn) : Ev := ⟨e.t + o.b, e.d, t.q, o.a, o.k, t.a, 0⟩
def passes (o : O) (t : Tn) : Nat := if o.c = 3 ∧ t.reg o.a < o.b then o.k.toNat else 0
def stepO (sd : Int) (v : List Int) (e : Ev) (o : O) (t : Tn) : Tn :=
 if o.c = 0 then t.put o.a ((t.reg o.a + o.b) % 1000)
 else if o.c = 1 then t.put o.a ((t.reg o.a + e.v) % 1000)
 else if o.c = 2 then { t with s := t.s ++ [sentE e o t], q := t.q + 1 }
 else if o.c = 6 then { t.put o.a (randI sd e.d t.d % o.b) with d := t.d + 1 }
 else if o.c = 4 then t.put o.b (intAt v o.a.toNat)
 else if o.c = 5 then { t with x := t.x ++ [⟨e.t, e.d, t.reg o.a⟩] }
 else t
inductive Res where
 | asks (k : Int)
 | done (t : Tn)
def waitsO (v : List Int) (o : O) : Prop := o.c = 4 ∧ intAt v o.a.toNat < 0
instance (v : List Int) (o : O) : Decidable (waitsO v o) := by unfold waitsO; infer_instance
def run (sd : Int) (v : List Int) (e : Ev) (l : List O) : Nat → Nat → Tn → Res
 | 0, _, t => .done t
 | f + 1, i, t =>
  if i < l.length then
   if waitsO v (oAt l i) then .asks (oAt l i).a else run sd v e l f (i + 1 + passes (oAt l i) t) (stepO sd v e (oAt l i) t)
  else .done t
theorem run_end {sd : Int} {v : List Int} {e : Ev} {l : List O} {f i : Nat} {t : Tn} (h : ¬ i < l.length) : run sd v e l f i t = .done t := by
 cases f with
 | zero => rfl
 | succ f => simp [run, h]
theorem run_asks {sd : Int} {v : List Int} {e : Ev} {l : List O} {f i : Nat} {t : Tn} (hf : l.length ≤ i + f) (h : i < l.length) (hw : waitsO v (oAt l i)) : run sd v e l f i t = .asks (oAt l i).a := by
 cases f with
 | zero => omega
 | succ f => simp [run, h, hw]
theorem run_step {sd : Int} {v : List Int} {e : Ev} {l : List O} {f i : Nat} {t : Tn} {R : Res} (hf : l.length ≤ i + f) (h : i < l.length) (hw : ¬ waitsO v (oAt l i)) (hR : run sd v e l f i t = R) :
  ∃ f', l.length ≤ i + 1 + passes (oAt l i) t + f' ∧ run sd v e l f' (i + 1 + passes (oAt l i) t) (stepO sd v e (oAt l i) t) = R := by
 cases f with
 | zero => omega
 | succ f => exact ⟨f, by omega, by simpa [run, h, hw] using hR⟩
structure GoodT (t : Tn) (i : Nat) : Prop where
 a0 : 0 ≤ t.a
 a1 : t.a ≤ 999
 b0 : 0 ≤ t.b
 b1 : t.b ≤ 999
 q0 : 0 ≤ t.q
 q1 : t.q ≤ 99992 + i
 d0 : 0 ≤ t.d
 d1 : t.d ≤ 99992 + i
 s1 : t.s.length ≤ i
 x1 : t.x.length ≤ i
theorem GoodT.mono {t : Tn} {i j : Nat} (h : GoodT t i) (hij : i ≤ j) : GoodT t j :=
 ⟨h.a0, h.a1, h.b0, h.b1, h.q0, by have := h.q1; omega, h.d0, by have := h.d1; omega, by have := h.s1; omega, by have := h.x1; omega⟩
theorem GoodT.put {t : Tn} {i : Nat} (h : GoodT t i) (r z : Int) (h0 : 0 ≤ z) (h1 : z ≤ 999) : GoodT (t.put r z) i := by
 unfold Tn.put
 split
 ·exact ⟨h0, h1, h.b0, h.b1, h.q0, h.q1, h.d0, h.d1, h.s1, h.x1⟩
 ·exact ⟨h.a0, h.a1, h0, h1, h.q0, h.q1, h.d0, h.d1, h.s1, h.x1⟩
theorem GoodT.reg {t : Tn} {i : Nat} (h : GoodT t i) (r : Int) : 0 ≤ t.reg r ∧ t.reg r ≤ 999 := by
 unfold Tn.reg
 split
 ·exact ⟨h.a0, h.a1⟩
 ·exact ⟨h.b0, h.b1⟩
theorem GoodT.step {sd : Int} {v : List Int} {e : Ev} {o : O} {t : Tn} {i : Nat} {n len : Int} (h : GoodT t i) (ho : o.ok n len = true) (hv : o.c = 4 → 0 ≤ intAt v o.a.toNat ∧ intAt v o.a.toNat ≤ 1) : GoodT (stepO sd v e o t) (i + 1) := by
 have hm := h.mono (Nat.le_succ i)
 have hok : okO n len o.c o.a o.b o.k = true := ho
 simp only [okO, decide_eq_true_eq] at hok
 unfold stepO
 split
 ·exact hm.put _ _ (by omega) (by omega)
 ·split
  ·exact hm.put _ _ (by omega) (by omega)
  ·split
   ·exact ⟨h.a0, h.a1, h.b0, h.b1, by have := h.q0; show 0 ≤ t.q + 1; omega, by have := h.q1; show t.q + 1 ≤ _; omega, h.d0, by have := h.d1; show t.d ≤ _; omega, by have := h.s1; simp; omega, by have := h.x1; show t.x.length ≤ _; omega⟩
   ·split
    ·rename_i h6
     have hb : 1 ≤ o.b ∧ o.b ≤ 999 := by omega
     have hp := h.put o.a (randI sd e.d t.d % o.b) (Int.emod_nonneg _ (by omega)) (by have := Int.emod_lt_of_pos (randI sd e.d t.d) (show 0 < o.b by omega); omega)
     have hd : (t.put o.a (randI sd e.d t.d % o.b)).d = t.d := by unfold Tn.put; split <;> rfl
     exact ⟨hp.a0, hp.a1, hp.b0, hp.b1, hp.q0, by have := hp.q1; show (t.put o.a (randI sd e.d t.d % o.b)).q ≤ _; omega, by have := h.d0; show 0 ≤ t.d + 1; omega, by have := h.d1; show t.d + 1 ≤ _; omega, by have := hp.s1; show (t.put o.a (randI sd e.d t.d % o.b)).s.length ≤ _; omega, by have := hp.x1; show (t.put o.a (randI sd e.d t.d % o.b)).x.length ≤ _; omega⟩
    ·split
     ·rename_i h4
      have := hv h4
      exact hm.put _ _ this.1 (by omega)
     ·split
      ·exact ⟨h.a0, h.a1, h.b0, h.b1, h.q0, hm.q1, h.d0, hm.d1, hm.s1, by have := h.x1; simp; omega⟩
      ·exact hm
end Go.Proofs.YtbljfphdghfkfaaGreatDoor

/- An effect that grows: its cells behind others in one block, its registers, what is sent and told in rows of one's own. -/
namespace Go.Proofs.YtbljfphdghfkfaaGreatDoor
open Go.RowKit
theorem own_typed {w : World} {B : Nat} {T : TypeId} {c n k : Nat} {v : Value} {cs : List Value} (h : w.ownsRow B T c v n cs) (hk : v.ownBlock = some k) : ∃ cur, w.heap[k]? = some (.cells cur T) := by
 obtain ⟨hl, ⟨rfl, h0⟩ | ⟨g, cap, cur, rfl, hg, hc, _⟩⟩ := h
 ·cases hk
 ·cases hk
  exact ⟨cur, hc⟩
theorem own_apart {w : World} {B B' : Nat} {T T' : TypeId} {c c' n n' : Nat} {v v' : Value} {cs cs' : List Value} (h : w.ownsRow B T c v n cs) (h' : w.ownsRow B' T' c' v' n' cs') (hT : T ≠ T') : v.ownBlock = none ∨ v.ownBlock ≠ v'.ownBlock := by
 cases hv : v.ownBlock with
 | none => exact .inl rfl
 | some k =>
  refine .inr (fun e => ?_)
  obtain ⟨cur, hc⟩ := own_typed h hv
  obtain ⟨cur', hc'⟩ := own_typed h' e.symm
  rw [hc] at hc'
  cases hc'
  exact hT rfl
theorem own_off {w : World} {B P : Nat} {T T' : TypeId} {c n : Nat} {v : Value} {cs : List Value} {vs : Array Value} (h : w.ownsRow B T c v n cs) (hP : Bk w P T' vs) (hT : T ≠ T') : v.ownBlock = none ∨ v.ownBlock ≠ some P := by
 cases hv : v.ownBlock with
 | none => exact .inl rfl
 | some k =>
  refine .inr (fun e => ?_)
  cases e
  obtain ⟨cur, hc⟩ := own_typed h hv
  have hP' : w.heap[P]? = some (.cells vs T') := hP
  rw [hc] at hP'
  cases hP'
  exact hT rfl
theorem Bk.grown {w w' : World} {P : Nat} {T : TypeId} {vs : Array Value} {row : Option Nat} (h : Bk w P T vs) (hg : w.grownBy w' row) (hne : some P ≠ row) : Bk w' P T vs := (hg.block P h.lt hne).trans h
theorem Bk.off {w : World} {B P : Nat} {T T' : TypeId} {c n : Nat} {v : Value} {cs : List Value} {vs : Array Value} (hP : Bk w P T' vs) (h : w.ownsRow B T c v n cs) (hT : T ≠ T') : some P ≠ v.ownBlock := by
 rcases own_off h hP hT with e | e
 ·rw [e]; simp
 ·exact fun e' => e e'.symm
theorem set_pre (pre l : List Value) (i : Nat) (u : Value) : (pre ++ l).toArray.setIfInBounds (pre.length + i) u = (pre ++ l.set i u).toArray := by
 rw [List.setIfInBounds_toArray, List.set_append_right _ _ (by omega)]
 simp
abbrev vReg (g cap : Nat) : Value := .slice (some ⟨g, 0, none⟩) 2 cap
structure Eff (B : Nat) (w : World) (P : Nat) (T : TypeId) (pre : List Value) (t : Tn) (k : Int) (g cap : Nat) (us ux : Value) : Prop where
 lo : B ≤ P
 ty : 3 ≠ T ∧ 53 ≠ T ∧ 108 ≠ T
 blk : Bk w P T (pre ++ [vReg g cap, .int .i64 t.q, .int .i64 t.d, us, ux, .int .i64 k]).toArray
 r : w.ownsRow B 3 1 (vReg g cap) 2 [.int .i64 t.a, .int .i64 t.b]
 s : w.ownsRow B 53 7 us t.s.length (cellsL t.s)
 x : w.ownsRow B 108 3 ux t.x.length (cellsX t.x)
variable {B P : Nat} {w : World} {T : TypeId} {pre : List Value} {t : Tn} {k : Int} {g cap : Nat} {us ux : Value}
theorem Eff.glo (h : Eff B w P T pre t k g cap us ux) : B ≤ g ∧ g < w.heap.size := h.r.lt g rfl
theorem Eff.reg0 (h : Eff B w P T pre t k g cap us ux) : w.cell? ⟨g, 0, none⟩ = some (.int .i64 t.a) := h.r.cellAt 0 (by omega)
theorem Eff.reg1 (h : Eff B w P T pre t k g cap us ux) : w.cell? ⟨g, 1, none⟩ = some (.int .i64 t.b) := h.r.cellAt 1 (by omega)
theorem Eff.free (h : Eff B w P T pre t k g cap us ux) (j : Nat) : w.frozen? ⟨g, j, none⟩ = false := h.r.frozenAt j
theorem Eff.drew (h : Eff B w P T pre t k g cap us ux) : Eff B w.drew P T pre t k g cap us ux := ⟨h.lo, h.ty, h.blk, h.r, h.s, h.x⟩
theorem Eff.alloc (h : Eff B w P T pre t k g cap us ux) (o : Obj) : Eff B (w.alloc o) P T pre t k g cap us ux := ⟨h.lo, h.ty, h.blk.alloc o, h.r.alloc o, h.s.alloc o, h.x.alloc o⟩
theorem Eff.below {w' : World} (h : Eff B w P T pre t k g cap us ux) (hb : Below w.heap.size w w') : Eff B w' P T pre t k g cap us ux := by
 have hg : ∀ row, w.grownBy w' row := fun row => ⟨hb.os, hb.tape, hb.output, hb.size, fun i hi _ => hb.block i hi⟩
 exact ⟨h.lo, h.ty, h.blk.below hb, h.r.kept (hg none) (.inr (by simp [Value.ownBlock])), h.s.kept (hg none) (by cases hv : us.ownBlock with | none => exact .inl rfl | some k => exact .inr (by simp)), h.x.kept (hg none) (by cases hv : ux.ownBlock with | none => exact .inl rfl | some k => exact .inr (by simp))⟩
theorem Eff.putA (h : Eff B w P T pre t k g cap us ux) (z : Int) : Eff B (w.setCell ⟨g, 0, none⟩ (.int .i64 z)) P T pre { t with a := z } k g cap us ux := by
 have hg := setCell_grown w g 0 (.int .i64 z)
 refine ⟨h.lo, h.ty, h.blk.grown hg (h.blk.off h.r h.ty.1), (h.r.stored 0 (.int .i64 z)).1, h.s.kept hg (own_apart h.s h.r (by decide)), h.x.kept hg (own_apart h.x h.r (by decide))⟩
theorem Eff.putB (h : Eff B w P T pre t k g cap us ux) (z : Int) : Eff B (w.setCell ⟨g, 1, none⟩ (.int .i64 z)) P T pre { t with b := z } k g cap us ux := by
 have hg := setCell_grown w g 1 (.int .i64 z)
 refine ⟨h.lo, h.ty, h.blk.grown hg (h.blk.off h.r h.ty.1), (h.r.stored 1 (.int .i64 z)).1, h.s.kept hg (own_apart h.s h.r (by decide)), h.x.kept hg (own_apart h.x h.r (by decide))⟩
theorem Eff.put (h : Eff B w P T pre t k g cap us ux) (i : Nat) (hi : i ≤ 1) (z : Int) : Eff B (w.setCell ⟨g, i, none⟩ (.int .i64 z)) P T pre (t.put i z) k g cap us ux := by
 match i, hi with
 | 0, _ => exact h.putA z
 | 1, _ => exact h.putB z
theorem Eff.reg (h : Eff B w P T pre t k g cap us ux) (i : Nat) (hi : i ≤ 1) : w.cell? ⟨g, i, none⟩ = some (.int .i64 (t.reg i)) := by
 match i, hi with
 | 0, _ => exact h.reg0
 | 1, _ => exact h.reg1
theorem Eff.putQ (h : Eff B w P T pre t k g cap us ux) (z : Int) : Eff B (w.setCell ⟨P, pre.length + 1, none⟩ (.int .i64 z)) P T pre { t with q := z } k g cap us ux := by
 have hg := setCell_grown w P (pre.length + 1) (.int .i64 z)
 refine ⟨h.lo, h.ty, ?_, h.r.kept hg (own_off h.r h.blk h.ty.1), h.s.kept hg (own_off h.s h.blk h.ty.2.1), h.x.kept hg (own_off h.x h.blk h.ty.2.2)⟩
 have := h.blk.put (pre.length + 1) (.int .i64 z)
 rw [set_pre] at this
 exact this
theorem Eff.putD (h : Eff B w P T pre t k g cap us ux) (z : Int) : Eff B (w.setCell ⟨P, pre.length + 2, none⟩ (.int .i64 z)) P T pre { t with d := z } k g cap us ux := by
 have hg := setCell_grown w P (pre.length + 2) (.int .i64 z)
 refine ⟨h.lo, h.ty, ?_, h.r.kept hg (own_off h.r h.blk h.ty.1), h.s.kept hg (own_off h.s h.blk h.ty.2.1), h.x.kept hg (own_off h.x h.blk h.ty.2.2)⟩
 have := h.blk.put (pre.length + 2) (.int .i64 z)
 rw [set_pre] at this
 exact this
theorem Eff.putK (h : Eff B w P T pre t k g cap us ux) (z : Int) : Eff B (w.setCell ⟨P, pre.length + 5, none⟩ (.int .i64 z)) P T pre t z g cap us ux := by
 have hg := setCell_grown w P (pre.length + 5) (.int .i64 z)
 refine ⟨h.lo, h.ty, ?_, h.r.kept hg (own_off h.r h.blk h.ty.1), h.s.kept hg (own_off h.s h.blk h.ty.2.1), h.x.kept hg (own_off h.x h.blk h.ty.2.2)⟩
 have := h.blk.put (pre.length + 5) (.int .i64 z)
 rw [set_pre] at this
 exact this
theorem Eff.sent {w1 : World} {us' : Value} {e : Ev} (h : Eff B w P T pre t k g cap us ux) (hown : w1.ownsRow B 53 7 us' (t.s.length + 1) (cellsL t.s ++ e.cs)) (hg : w.grownBy w1 us.ownBlock) :
  Eff B (w1.setCell ⟨P, pre.length + 3, none⟩ us') P T pre { t with s := t.s ++ [e] } k g cap us' ux := by
 have hblk := h.blk.grown hg (h.blk.off h.s h.ty.2.1)
 have hr := h.r.kept hg (own_apart h.r h.s (by decide))
 have hx := h.x.kept hg (own_apart h.x h.s (by decide))
 have hg2 := setCell_grown w1 P (pre.length + 3) us'
 refine ⟨h.lo, h.ty, ?_, hr.kept hg2 (own_off hr hblk h.ty.1), ?_, hx.kept hg2 (own_off hx hblk h.ty.2.2)⟩
 ·have := hblk.put (pre.length + 3) us'
  rw [set_pre] at this
  exact this
 ·have := hown.kept hg2 (own_off hown hblk h.ty.2.1)
  rw [show (t.s ++ [e]).length = t.s.length + 1 from by simp, cellsL_append, show cellsL [e] = e.cs from by simp [cellsL]]
  exact this
theorem Eff.told {w1 : World} {ux' : Value} {e : Em} (h : Eff B w P T pre t k g cap us ux) (hown : w1.ownsRow B 108 3 ux' (t.x.length + 1) (cellsX t.x ++ e.cs)) (hg : w.grownBy w1 ux.ownBlock) :
  Eff B (w1.setCell ⟨P, pre.length + 4, none⟩ ux') P T pre { t with x := t.x ++ [e] } k g cap us ux' := by
 have hblk := h.blk.grown hg (h.blk.off h.x h.ty.2.2)
 have hr := h.r.kept hg (own_apart h.r h.x (by decide))
 have hs := h.s.kept hg (own_apart h.s h.x (by decide))
 have hg2 := setCell_grown w1 P (pre.length + 4) ux'
 refine ⟨h.lo, h.ty, ?_, hr.kept hg2 (own_off hr hblk h.ty.1), hs.kept hg2 (own_off hs hblk h.ty.2.1), ?_⟩
 ·have := hblk.put (pre.length + 4) ux'
  rw [set_pre] at this
  exact this
 ·have := hown.kept hg2 (own_off hown hblk h.ty.2.2)
  rw [show (t.x ++ [e]).length = t.x.length + 1 from by simp, cellsX_append, show cellsX [e] = e.cs from by simp [cellsX]]
  exact this
end Go.Proofs.YtbljfphdghfkfaaGreatDoor

/- Vectors: plain words, and the small functions of both sides. -/
namespace Go.Proofs.YtbljfphdghfkfaaGreatDoor
open Go.RowKit
def numOk (z : Int) : Bool := decide (-1 ≤ z) && decide (z ≤ 1)
def vok (l : List Int) : Bool := l.all numOk && decide (l.length = 4)
theorem numOk_iff {z : Int} : numOk z = true ↔ -1 ≤ z ∧ z ≤ 1 := by simp [numOk]
theorem vok_four {l : List Int} (h : vok l = true) : ∃ a b c d : Int, l = [a, b, c, d] ∧ (-1 ≤ a ∧ a ≤ 1) ∧ (-1 ≤ b ∧ b ≤ 1) ∧ (-1 ≤ c ∧ c ≤ 1) ∧ (-1 ≤ d ∧ d ≤ 1) := by
 simp only [vok, Bool.and_eq_true, decide_eq_true_eq] at h
 obtain ⟨h, hl⟩ := h
 match l, hl with
 | [a, b, c, d], _ =>
  simp only [List.all_cons, List.all_nil, Bool.and_eq_true, numOk_iff] at h
  exact ⟨a, b, c, d, rfl, h.1, h.2.1, h.2.2.1, h.2.2.2.1⟩
end Go.Proofs.YtbljfphdghfkfaaGreatDoor

/- Vectors: VectorOk of both sides, and the program's vectorOf. -/
namespace Go.Proofs.YtbljfphdghfkfaaGreatDoor
open Go.RowKit
theorem intAt_mem {l : List Int} {k : Nat} (h : k < l.length) : intAt l k ∈ l := by
 unfold intAt; rw [List.getD_eq_getElem?_getD, List.getElem?_eq_getElem h]; exact List.getElem_mem h
theorem vok_no {l : List Int} {k : Nat} (hk : k < l.length) (h : intAt l k < -1 ∨ 1 < intAt l k) : vok l = false := by
 have hm := intAt_mem hk
 have : l.all numOk = false := by
  rw [List.all_eq_false]
  exact ⟨_, hm, by simp only [numOk_iff]; omega⟩
 simp [vok, this]
theorem vok_all {l : List Int} (h : ∀ j, j < l.length → -1 ≤ intAt l j ∧ intAt l j ≤ 1) : vok l = decide (l.length = 4) := by
 have : l.all numOk = true := by
  rw [List.all_eq_true]
  intro x hx
  obtain ⟨i, hi, rfl⟩ := List.getElem_of_mem hx
  have := h i hi
  unfold intAt at this
  rw [List.getD_eq_getElem?_getD, List.getElem?_eq_getElem hi] at this
  exact numOk_iff.2 this
 simp [vok, this]
end Go.Proofs.YtbljfphdghfkfaaGreatDoor

