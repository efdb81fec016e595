/- The closure over a place; the program's Rand and RandBelow, the specification's. -/
import Derived.Test.YtbljfphdghfkfaaGreatDoorSequencesCardG03
namespace Go.Proofs.YtbljfphdghfkfaaGreatDoor
open Go.RowKit
set_option maxRecDepth 100000 in
set_option maxHeartbeats 1600000 in
theorem at_any (b : Nat) (s l n : Int) (h : placeB s l n = true) (w : World) (hR : Ready w b s l) :
  Calls Tryz.prog 130 #[.pointer (some ⟨b, 0, none⟩), .int .i64 n] w fun e w' => e = .returned (.int .i64 (randI s l n)) ∧ Ready w' b s l ∧ Turns (fun k => k = b) w w' := by
 obtain ⟨h0, h1, h2, h3, h4, h5⟩ := placeB_iff.1 h
 have m0 : 0 ≤ startI s l := mix_low _
 have m1 : startI s l < 2147483647 := mix_high _
 have e1 : Int.tmod (startI s l + 7919 * n) 2147483647 = (startI s l + 7919 * n) % 2147483647 := tmod_pos (by omega)
 have q0 : IntKind.i64.wrap (7919 * n) = 7919 * n := by rw [IntKind.wrap_i64]; omega
 have q1 : IntKind.i64.wrap (startI s l + 7919 * n) = startI s l + 7919 * n := by rw [IntKind.wrap_i64]; omega
 have e2 : mixed ((startI s l + 7919 * n) % 2147483647) = mix ((startI s l + 7919 * n) % 2147483647) := by unfold mixed; rw [if_pos (numB_iff.2 (by omega))]
 have e3 : mixed (mix ((startI s l + 7919 * n) % 2147483647)) = randI s l n := by
  unfold mixed randI; rw [if_pos (numB_iff.2 ⟨mix_low _, by have := mix_high ((startI s l + 7919 * n) % 2147483647); omega⟩)]
 go_enter Tryz.func130, Tryz.ntmps130
 go_wp2_with (first | (go_at_call 132; refine (first_any b s l h0 h1 h2 h3 _ hR).mono ?_; rintro e w1 ⟨rfl, hR1, hT1⟩) | (go_at_call 131; refine (iMixed_any _ _).mono ?_; rintro e w' ⟨rfl, rfl⟩; (try rw [e1]); (try rw [e2]); (try rw [e3])))
 go_ret
 exact ⟨rfl, hR1, hT1⟩
structure Gen (w : World) (g : Nat) (s l n : Int) : Prop where
 src : Ready w g s l
 ptr : w.cell? ⟨g + 1, 0, none⟩ = some (.pointer (some ⟨g, 0, none⟩))
 at_ : w.cell? ⟨g + 2, 0, none⟩ = some (.int .i64 n)
 fz : w.frozen? ⟨g + 2, 0, none⟩ = false
 lt : g + 2 < w.heap.size
def genV (g : Nat) : Value := .func (.func 129) #[] #[.pointer (some ⟨g + 1, 0, none⟩), .pointer (some ⟨g + 2, 0, none⟩)]
set_option maxRecDepth 100000 in
set_option maxHeartbeats 1600000 in
theorem next_any (g : Nat) (s l n : Int) (h : placeB s l n = true) (w : World) (hG : Gen w g s l n) :
  Calls Tryz.prog 129 #[.pointer (some ⟨g + 1, 0, none⟩), .pointer (some ⟨g + 2, 0, none⟩)] w fun e w' => e = .returned (.int .i64 (randI s l n)) ∧ Gen w' g s l (n + 1) ∧ Turns (fun k => k = g ∨ k = g + 2) w w' := by
 obtain ⟨h0, h1, h2, h3, h4, h5⟩ := placeB_iff.1 h
 have c1 := hG.ptr
 have c2 := hG.at_
 have hR := hG.src
 have hlt := hG.lt
 have hf := hG.fz
 have q0 : IntKind.i64.wrap (n + 1) = n + 1 := by rw [IntKind.wrap_i64]; omega
 go_enter Tryz.func129, Tryz.ntmps129
 go_wp2_with (go_at_call 130; refine (at_any g s l n h _ (by first | exact hR | exact hR.turns (Turns.refl (fun _ => False) w).drew id)).mono ?_; rintro e w1 ⟨rfl, hR1, hT1⟩; have d2 := (hT1.cell (o := 0) hlt (show ¬ (g + 2 = g) by omega)).trans c2; have d1 := (hT1.cell (o := 0) (show g + 1 < w.heap.size by omega) (show ¬ (g + 1 = g) by omega)).trans c1; have df := (hT1.frozen (o := 0) hlt (show ¬ (g + 2 = g) by omega)).trans hf)
 go_ret
 refine ⟨rfl, ⟨hR1.turns ((Turns.refl (fun k => k = g + 2) w1).setCell (p := ⟨g + 2, 0, none⟩) rfl _) (by omega), ?_, ?_, ?_, ?_⟩, (hT1.mono (fun k hk => .inl hk)).setCell (p := ⟨g + 2, 0, none⟩) (.inr rfl) _⟩
 ·exact (((Turns.refl (fun k => k = g + 2) w1).setCell (p := ⟨g + 2, 0, none⟩) rfl _).cell (by have := hT1.size; omega) (by omega)).trans d1
 ·exact World.cell?_setCell_same _ _ _ d2
 ·simp [df]
 ·have := hT1.size
  simp [World.setCell]
  omega
set_option maxRecDepth 100000 in
set_option maxHeartbeats 1600000 in
theorem rowFrom_any (s l n : Int) (w : World) :
  Calls Tryz.prog 128 #[.int .i64 s, .int .i64 l, .int .i64 n] w fun e w' => e = .returned (genV w.heap.size) ∧ Gen w' w.heap.size s l n ∧ Below w.heap.size w w' := by
 have hmf : ∀ (fn : Fn) (first cap : Array Value) (w : World), (Instr.makeFunc fn first cap).run Tryz.prog w = .ok (.func fn first cap) w := fun _ _ _ _ => rfl
 go_enter Tryz.func128, Tryz.ntmps128
 go_wp2
 go_ret
 refine ⟨rfl, ?_, (((Below.refl _ _).alloc (Nat.le_refl _) _).alloc (by simp) _).alloc (by simp; omega) _⟩
 generalize hw1 : w.alloc (.cells #[.int .i64 s, .int .i64 l, .int .u32 0, .int .i32 0, .int .u32 0, .int .i64 0] 220) = w1
 have hz1 : w1.heap.size = w.heap.size + 1 := by subst hw1; simp
 have hS1 : Src w1 w.heap.size s l 0 0 := by
  subst hw1
  constructor <;> simp
 generalize hw2 : w1.alloc (.cells #[.pointer (some ⟨w.heap.size, 0, none⟩)] 207) = w2
 have hz2 : w2.heap.size = w.heap.size + 2 := by subst hw2; simp; omega
 have hS2 : Src w2 w.heap.size s l 0 0 := by subst hw2; exact hS1.alloc _
 have hp2 : w2.cell? ⟨w.heap.size + 1, 0, none⟩ = some (.pointer (some ⟨w.heap.size, 0, none⟩)) := by subst hw2; rw [← hz1]; simp
 refine ⟨⟨0, 0, hS2.alloc _, .inl rfl⟩, ?_, ?_, ?_, by simp; omega⟩
 ·exact (((Below.refl _ w2).alloc (Nat.le_refl _) _).cell (p := ⟨w.heap.size + 1, 0, none⟩) (by simp; omega)).trans hp2
 ·rw [← hz2]; simp
 ·rw [← hz2]; simp
set_option maxRecDepth 100000 in
set_option maxHeartbeats 1600000 in
theorem iRand_any (s l n : Int) (w : World) :
  Calls Tryz.prog 125 #[.int .i64 s, .int .i64 l, .int .i64 n] w fun e w' => e = .returned (.int .i64 (rnd s l n)) ∧ Below w.heap.size w w' := by
 have hnot : ∀ (x : Bool) (w : World), (Op.unary .not (.bool x)).run Tryz.prog w = .ok (.bool (!x)) w := fun _ _ => rfl
 by_cases hx : placeB s l n = true
 ·go_enter Tryz.func125, Tryz.ntmps125
  go_wp2_with (first | (go_at_call 124; refine (placeOk_any s l n _).mono ?_; rintro e w' ⟨rfl, rfl⟩; rw [hx]) | (go_at_call 128; refine (rowFrom_any s l n _).mono ?_; rintro e w1 ⟨rfl, hG1, hB1⟩; unfold genV) | (go_at_call 129; refine (next_any _ s l n hx _ hG1).mono ?_; rintro e w2 ⟨rfl, hG2, hT2⟩))
  go_ret
  exact ⟨ret_int (by simp [rnd, hx]), hB1.trans (hT2.to_below (fun k hk => by rcases hk with h | h <;> omega) hB1.size)⟩
 ·have hx' : placeB s l n = false := by simpa using hx
  go_enter Tryz.func125, Tryz.ntmps125
  go_wp2_with (go_at_call 124; refine (placeOk_any s l n _).mono ?_; rintro e w' ⟨rfl, rfl⟩; rw [hx'])
  go_ret
  exact ⟨ret_int (by simp [rnd, hx]), Below.refl _ _⟩
def modB (m : Int) : Bool := decide (1 ≤ m) && decide (m ≤ 1000)
def rndB (s l n m : Int) : Int := if placeB s l n = true ∧ modB m = true then randI s l n % m else -1
theorem randI_low (s l n : Int) : 0 ≤ randI s l n := mix_low _
theorem randI_high (s l n : Int) : randI s l n < 2147483647 := mix_high _
set_option maxHeartbeats 1600000 in
theorem iBelow_any (s l n m : Int) (w : World) :
  Calls Tryz.prog 118 #[.int .i64 s, .int .i64 l, .int .i64 n, .int .i64 m] w fun e w' => e = .returned (.int .i64 (rndB s l n m)) ∧ Below w.heap.size w w' := by
 have hnot : ∀ (x : Bool) (w : World), (Op.unary .not (.bool x)).run Tryz.prog w = .ok (.bool (!x)) w := fun _ _ => rfl
 by_cases hx : placeB s l n = true
 ·by_cases hm : modB m = true
  ·have h1 : 1 ≤ m ∧ m ≤ 1000 := by simpa [modB] using hm
   obtain ⟨h1, h2⟩ := h1
   have hm0 : ¬ m = 0 := by omega
   have hb : (decide (1 ≤ m) && decide (m ≤ 1000)) = true := hm
   have hr : rnd s l n = randI s l n := by simp [rnd, hx]
   have r0 := randI_low s l n
   have r1 := randI_high s l n
   go_enter Tryz.func118, Tryz.ntmps118
   go_wp2_with (first | (go_at_call 124; refine (placeOk_any s l n _).mono ?_; rintro e w' ⟨rfl, rfl⟩; rw [hx]) | (go_at_call 31; refine (within_any m _ _ _).mono ?_; rintro e w' ⟨rfl, rfl⟩; rw [hb]) | (go_at_call 125; refine (iRand_any s l n _).mono ?_; rintro e w1 ⟨rfl, hB1⟩; rw [hr]))
   go_ret
   exact ⟨ret_int (by simp [rndB, hx, hm]), hB1⟩
  ·have hb : (decide (1 ≤ m) && decide (m ≤ 1000)) = false := by simpa [modB] using hm
   go_enter Tryz.func118, Tryz.ntmps118
   go_wp2_with (first | (go_at_call 124; refine (placeOk_any s l n _).mono ?_; rintro e w' ⟨rfl, rfl⟩; rw [hx]) | (go_at_call 31; refine (within_any m _ _ _).mono ?_; rintro e w' ⟨rfl, rfl⟩; rw [hb]))
   go_ret
   exact ⟨ret_int (by simp [rndB, hm]), Below.refl _ _⟩
 ·have hx' : placeB s l n = false := by simpa using hx
  go_enter Tryz.func118, Tryz.ntmps118
  go_wp2_with (go_at_call 124; refine (placeOk_any s l n _).mono ?_; rintro e w' ⟨rfl, rfl⟩; rw [hx'])
  go_ret
  exact ⟨ret_int (by simp [rndB, hx]), Below.refl _ _⟩
end Go.Proofs.YtbljfphdghfkfaaGreatDoor
