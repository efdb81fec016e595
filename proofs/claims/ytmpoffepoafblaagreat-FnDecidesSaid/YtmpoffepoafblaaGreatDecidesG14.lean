/- NGen, NRow -/
import Derived.Test.YtmpoffepoafblaaGreatDecidesG13
/- The first number of a seed, kept behind a sync.Once in the struct of a call; the closure over a place. -/
namespace Go.Proofs.YtmpoffepoafblaaGreat
open Go.RowKit

/- The struct of a call, at the head of block b. -/
structure Src (w : World) (b : Nat) (s l : Int) (d : Int) (st : Int) : Prop where
  c0 : w.cell? ⟨b, 0, none⟩ = some (.int .i64 s)
  c1 : w.cell? ⟨b, 1, none⟩ = some (.int .i64 l)
  c2 : w.cell? ⟨b, 2, none⟩ = some (.int .u32 d)
  c3 : w.cell? ⟨b, 3, none⟩ = some (.int .i32 0)
  c5 : w.cell? ⟨b, 5, none⟩ = some (.int .i64 st)
  fz : ∀ o, w.frozen? ⟨b, o, none⟩ = false
  lt : b < w.heap.size
theorem Src.same {w w' : World} {b : Nat} {s l d st : Int} (h : Src w b s l d st) (hb : w'.heap[b]? = w.heap[b]?) (hz : w.heap.size ≤ w'.heap.size) : Src w' b s l d st :=
  ⟨(World.cell?_of_block (w := w) hb).trans h.c0, (World.cell?_of_block (w := w) hb).trans h.c1, (World.cell?_of_block (w := w) hb).trans h.c2, (World.cell?_of_block (w := w) hb).trans h.c3, (World.cell?_of_block (w := w) hb).trans h.c5,
    fun o => (World.frozen?_of_block (w := w) hb).trans (h.fz o), by have := h.lt; omega⟩
theorem Src.turns {w w' : World} {S : Nat → Prop} {b : Nat} {s l d st : Int} (h : Src w b s l d st) (ht : Turns S w w') (hS : ¬ S b) : Src w' b s l d st := h.same (ht.block b h.lt hS) ht.size
theorem Src.alloc {w : World} {b : Nat} {s l d st : Int} (h : Src w b s l d st) (o : Obj) : Src (w.alloc o) b s l d st :=
  h.same (Below.heap_alloc _ _ _ h.lt) (by simp)
theorem Src.drew {w : World} {b : Nat} {s l d st : Int} (h : Src w b s l d st) : Src w.drew b s l d st := h.same rfl (Nat.le_refl _)
theorem Src.slow {w : World} {b : Nat} {s l d st : Int} (h : Src w b s l d st) (x : Int) : Src (slowW w b x) b s l 1 x := by
  have hn : ∀ i j : Nat, i ≠ j → (⟨b, i, none⟩ : Addr) ≠ ⟨b, j, none⟩ := fun i j hij e => hij (by injection e)
  constructor
  · unfold slowW
    rw [World.cell?_setCell_other _ _ _ _ (hn _ _ (by omega)), World.cell?_setCell_other _ _ _ _ (hn _ _ (by omega)), World.cell?_drew, World.cell?_drew, World.cell?_setCell_other _ _ _ _ (hn _ _ (by omega)), World.cell?_setCell_other _ _ _ _ (hn _ _ (by omega))]
    exact h.c0
  · unfold slowW
    rw [World.cell?_setCell_other _ _ _ _ (hn _ _ (by omega)), World.cell?_setCell_other _ _ _ _ (hn _ _ (by omega)), World.cell?_drew, World.cell?_drew, World.cell?_setCell_other _ _ _ _ (hn _ _ (by omega)), World.cell?_setCell_other _ _ _ _ (hn _ _ (by omega))]
    exact h.c1
  · unfold slowW
    rw [World.cell?_setCell_other _ _ _ _ (hn _ _ (by omega))]
    refine World.cell?_setCell_same _ _ _ (u := .int .u32 d) ?_
    rw [World.cell?_drew, World.cell?_drew, World.cell?_setCell_other _ _ _ _ (hn _ _ (by omega)), World.cell?_setCell_other _ _ _ _ (hn _ _ (by omega))]
    exact h.c2
  · unfold slowW
    refine World.cell?_setCell_same _ _ _ (u := .int .i32 1) ?_
    rw [World.cell?_setCell_other _ _ _ _ (hn _ _ (by omega)), World.cell?_drew, World.cell?_drew, World.cell?_setCell_other _ _ _ _ (hn _ _ (by omega))]
    exact World.cell?_setCell_same _ _ _ h.c3
  · unfold slowW
    rw [World.cell?_setCell_other _ _ _ _ (hn _ _ (by omega)), World.cell?_setCell_other _ _ _ _ (hn _ _ (by omega)), World.cell?_drew, World.cell?_drew]
    refine World.cell?_setCell_same _ _ _ (u := .int .i64 st) ?_
    rw [World.cell?_setCell_other _ _ _ _ (hn _ _ (by omega))]
    exact h.c5
  · intro o
    unfold slowW
    simp [h.fz]
  · unfold slowW
    have := h.lt
    simpa [World.setCell] using this
theorem slow_turns (w : World) (b : Nat) (x : Int) : Turns (fun k => k = b) w (slowW w b x) :=
  ((((((Turns.refl (fun k => k = b) w).setCell (p := ⟨b, 3, none⟩) rfl _).setCell (p := ⟨b, 5, none⟩) rfl _).drew).drew).setCell (p := ⟨b, 2, none⟩) rfl _).setCell (p := ⟨b, 3, none⟩) rfl _
/- Not done yet, or done with the right number. -/
def Ready (w : World) (b : Nat) (s l : Int) : Prop := ∃ d st, Src w b s l d st ∧ (d = 0 ∨ d = 1 ∧ st = startI s l)
theorem Ready.turns {w w' : World} {S : Nat → Prop} {b : Nat} {s l : Int} (h : Ready w b s l) (ht : Turns S w w') (hS : ¬ S b) : Ready w' b s l := by
  obtain ⟨d, st, h1, h2⟩ := h
  exact ⟨d, st, h1.turns ht hS, h2⟩
theorem Ready.lt {w : World} {b : Nat} {s l : Int} (h : Ready w b s l) : b < w.heap.size := by obtain ⟨d, st, h1, _⟩ := h; exact h1.lt

set_option maxRecDepth 100000 in
set_option maxHeartbeats 1600000 in
theorem do_first (b : Nat) (pl : Addr) (hpb : ¬ b = pl.block) (st s l : Int) (hs0 : 0 ≤ s) (hs1 : s ≤ 999999) (hl0 : 0 ≤ l) (hl1 : l ≤ 3) (w : World) (hp : w.cell? pl = some (.pointer (some ⟨b, 0, none⟩))) (h : Src w b s l 0 st) :
    Calls Tryz.prog 289 #[.pointer (some ⟨b, 2, none⟩), .func (.func 290) #[] #[.pointer (some pl)]] w fun e w' => e = .returned (.tuple #[]) ∧ w' = slowW w b (startI s l) := by
  have h2 := h.c2
  have hl := run_call_load (P := Tryz.prog) Tryz.func293 (by kernel_rfl) (by kernel_rfl) (by kernel_rfl) .u32 (by kernel_rfl) h2
  have hnot : ∀ (x : Bool) (w : World), (Op.unary .not (.bool x)).run Tryz.prog w = .ok (.bool (!x)) w := fun _ _ => rfl
  go_enter Tryz.func289, Tryz.ntmps289
  go_wp2_with (first | (go_at_call 292; refine (slow_any b pl hpb _ s l hs0 hs1 hl0 hl1 _ hp h.c0 h.c1 h.c2 h.c3 h.c5 (h.fz _) (h.fz _) (h.fz _)).mono ?_; rintro e w' ⟨rfl, rfl⟩) | (go_at_call 291; go_in))
  go_end0
  exact ⟨rfl, rfl⟩

theorem do_done (a : Addr) (fv : Value) (w : World) (h0 : w.cell? a = some (.int .u32 1)) :
    Calls Tryz.prog 289 #[.pointer (some a), fv] w fun e w' => e = .returned (.tuple #[]) ∧ w' = w := by
  have hl := run_call_load (P := Tryz.prog) Tryz.func293 (by kernel_rfl) (by kernel_rfl) (by kernel_rfl) .u32 (by kernel_rfl) h0
  have hnot : ∀ (x : Bool) (w : World), (Op.unary .not (.bool x)).run Tryz.prog w = .ok (.bool (!x)) w := fun _ _ => rfl
  go_enter Tryz.func289, Tryz.ntmps289
  go_wp2
  go_end0
  exact ⟨rfl, rfl⟩

set_option maxRecDepth 100000 in
set_option maxHeartbeats 1600000 in
theorem first_any (b : Nat) (s l : Int) (hs0 : 0 ≤ s) (hs1 : s ≤ 999999) (hl0 : 0 ≤ l) (hl1 : l ≤ 3) (w : World) (h : Ready w b s l) :
    Calls Tryz.prog 288 #[.pointer (some ⟨b, 0, none⟩)] w fun e w' => e = .returned (.int .i64 (startI s l)) ∧ Ready w' b s l ∧ Turns (fun k => k = b) w w' := by
  have hmf : ∀ (fn : Fn) (first cap : Array Value) (w : World), (Instr.makeFunc fn first cap).run Tryz.prog w = .ok (.func fn first cap) w := fun _ _ _ _ => rfl
  have p0 : (w.alloc (.cells #[.pointer (some ⟨b, 0, none⟩)] 329)).cell? ⟨w.heap.size, 0, none⟩ = some (.pointer (some ⟨b, 0, none⟩)) := by simp
  have hbl := h.lt
  obtain ⟨d, st, h1, rfl | ⟨rfl, rfl⟩⟩ := h
  · have h2 := h1.alloc (.cells #[.pointer (some ⟨b, 0, none⟩)] 329)
    have h3 := h2.slow (startI s l)
    have hT : Turns (fun k => k = b) w (slowW (w.alloc (.cells #[.pointer (some ⟨b, 0, none⟩)] 329)) b (startI s l)) := ((Turns.refl _ w).alloc _).trans (slow_turns _ b _)
    have pE : (slowW (w.alloc (.cells #[.pointer (some ⟨b, 0, none⟩)] 329)) b (startI s l)).cell? ⟨w.heap.size, 0, none⟩ = some (.pointer (some ⟨b, 0, none⟩)) :=
      ((slow_turns _ b _).cell (by simp) (by omega)).trans p0
    have vE := h3.c5
    go_enter Tryz.func288, Tryz.ntmps288
    go_wp2_with (go_at_call 289; refine (do_first b ⟨w.heap.size, 0, none⟩ (by simp; omega) st s l hs0 hs1 hl0 hl1 _ p0 h2).mono ?_; rintro e w' ⟨rfl, rfl⟩)
    go_ret
    exact ⟨rfl, ⟨1, _, h3, .inr ⟨rfl, rfl⟩⟩, hT⟩
  · have h2 := h1.alloc (.cells #[.pointer (some ⟨b, 0, none⟩)] 329)
    have vE := h2.c5
    have a2 := h2.c2
    go_enter Tryz.func288, Tryz.ntmps288
    go_wp2_with (go_at_call 289; refine (do_done ⟨b, 2, none⟩ _ _ a2).mono ?_; rintro e w' ⟨rfl, rfl⟩)
    go_ret
    exact ⟨rfl, ⟨1, _, h2, .inr ⟨rfl, rfl⟩⟩, (Turns.refl _ w).alloc _⟩
end Go.Proofs.YtmpoffepoafblaaGreat

/- The closure over a place; the program's Rand and RandBelow, the specification's. -/
namespace Go.Proofs.YtmpoffepoafblaaGreat
open Go.RowKit

set_option maxRecDepth 100000 in
set_option maxHeartbeats 1600000 in
theorem at_any (b : Nat) (s l n : Int) (h : placeB s l n = true) (w : World) (hR : Ready w b s l) :
    Calls Tryz.prog 286 #[.pointer (some ⟨b, 0, none⟩), .int .i64 n] w fun e w' => e = .returned (.int .i64 (randI s l n)) ∧ Ready w' b s l ∧ Turns (fun k => k = b) w w' := by
  obtain ⟨h0, h1, h2, h3, h4, h5⟩ := placeB_iff.1 h
  have m0 : 0 ≤ startI s l := mix_low _
  have m1 : startI s l < 2147483647 := mix_high _
  have e1 : Int.tmod (startI s l + 7919 * n) 2147483647 = (startI s l + 7919 * n) % 2147483647 := tmod_pos (by omega)
  have q0 : IntKind.i64.wrap (7919 * n) = 7919 * n := by rw [IntKind.wrap_i64]; omega
  have q1 : IntKind.i64.wrap (startI s l + 7919 * n) = startI s l + 7919 * n := by rw [IntKind.wrap_i64]; omega
  have e2 : mixed ((startI s l + 7919 * n) % 2147483647) = mix ((startI s l + 7919 * n) % 2147483647) := by unfold mixed; rw [if_pos (numB_iff.2 (by omega))]
  have e3 : mixed (mix ((startI s l + 7919 * n) % 2147483647)) = randI s l n := by
    unfold mixed randI; rw [if_pos (numB_iff.2 ⟨mix_low _, by have := mix_high ((startI s l + 7919 * n) % 2147483647); omega⟩)]
  go_enter Tryz.func286, Tryz.ntmps286
  go_wp2_with (first | (go_at_call 288; refine (first_any b s l h0 h1 h2 h3 _ hR).mono ?_; rintro e w1 ⟨rfl, hR1, hT1⟩) | (go_at_call 287; refine (iMixed_any _ _).mono ?_; rintro e w' ⟨rfl, rfl⟩; (try rw [e1]); (try rw [e2]); (try rw [e3])))
  go_ret
  exact ⟨rfl, hR1, hT1⟩

/- What a closure over a place holds: the struct of the call at block g, the pointer at it behind it, the place behind that. -/
structure Gen (w : World) (g : Nat) (s l n : Int) : Prop where
  src : Ready w g s l
  ptr : w.cell? ⟨g + 1, 0, none⟩ = some (.pointer (some ⟨g, 0, none⟩))
  at_ : w.cell? ⟨g + 2, 0, none⟩ = some (.int .i64 n)
  fz : w.frozen? ⟨g + 2, 0, none⟩ = false
  lt : g + 2 < w.heap.size
def genV (g : Nat) : Value := .func (.func 285) #[] #[.pointer (some ⟨g + 1, 0, none⟩), .pointer (some ⟨g + 2, 0, none⟩)]
theorem Gen.turns {w w' : World} {S : Nat → Prop} {g : Nat} {s l n : Int} (h : Gen w g s l n) (ht : Turns S w w') (h0 : ¬ S g) (h1 : ¬ S (g + 1)) (h2 : ¬ S (g + 2)) : Gen w' g s l n :=
  ⟨h.src.turns ht h0, (ht.cell (by have := h.lt; omega) h1).trans h.ptr, (ht.cell h.lt h2).trans h.at_, (ht.frozen h.lt h2).trans h.fz, by have := h.lt; have := ht.size; omega⟩

set_option maxRecDepth 100000 in
set_option maxHeartbeats 1600000 in
theorem next_any (g : Nat) (s l n : Int) (h : placeB s l n = true) (w : World) (hG : Gen w g s l n) :
    Calls Tryz.prog 285 #[.pointer (some ⟨g + 1, 0, none⟩), .pointer (some ⟨g + 2, 0, none⟩)] w fun e w' => e = .returned (.int .i64 (randI s l n)) ∧ Gen w' g s l (n + 1) ∧ Turns (fun k => k = g ∨ k = g + 2) w w' := by
  obtain ⟨h0, h1, h2, h3, h4, h5⟩ := placeB_iff.1 h
  have c1 := hG.ptr
  have c2 := hG.at_
  have hR := hG.src
  have hlt := hG.lt
  have hf := hG.fz
  have q0 : IntKind.i64.wrap (n + 1) = n + 1 := by rw [IntKind.wrap_i64]; omega
  go_enter Tryz.func285, Tryz.ntmps285
  go_wp2_with (go_at_call 286; refine (at_any g s l n h _ (by first | exact hR | exact hR.turns (Turns.refl (fun _ => False) w).drew id)).mono ?_; rintro e w1 ⟨rfl, hR1, hT1⟩; have d2 := (hT1.cell (o := 0) hlt (show ¬ (g + 2 = g) by omega)).trans c2; have d1 := (hT1.cell (o := 0) (show g + 1 < w.heap.size by omega) (show ¬ (g + 1 = g) by omega)).trans c1; have df := (hT1.frozen (o := 0) hlt (show ¬ (g + 2 = g) by omega)).trans hf)
  go_ret
  refine ⟨rfl, ⟨hR1.turns ((Turns.refl (fun k => k = g + 2) w1).setCell (p := ⟨g + 2, 0, none⟩) rfl _) (by omega), ?_, ?_, ?_, ?_⟩, (hT1.mono (fun k hk => .inl hk)).setCell (p := ⟨g + 2, 0, none⟩) (.inr rfl) _⟩
  · exact (((Turns.refl (fun k => k = g + 2) w1).setCell (p := ⟨g + 2, 0, none⟩) rfl _).cell (by have := hT1.size; omega) (by omega)).trans d1
  · exact World.cell?_setCell_same _ _ _ d2
  · simp [df]
  · have := hT1.size
    simp [World.setCell]
    omega

set_option maxRecDepth 100000 in
set_option maxHeartbeats 1600000 in
theorem rowFrom_any (s l n : Int) (w : World) :
    Calls Tryz.prog 283 #[.int .i64 s, .int .i64 l, .int .i64 n] w fun e w' => e = .returned (genV w.heap.size) ∧ Gen w' w.heap.size s l n ∧ Below w.heap.size w w' := by
  have hmf : ∀ (fn : Fn) (first cap : Array Value) (w : World), (Instr.makeFunc fn first cap).run Tryz.prog w = .ok (.func fn first cap) w := fun _ _ _ _ => rfl
  go_enter Tryz.func283, Tryz.ntmps283
  go_wp2
  go_ret
  refine ⟨rfl, ?_, (((Below.refl _ _).alloc (Nat.le_refl _) _).alloc (by simp) _).alloc (by simp; omega) _⟩
  generalize hw1 : w.alloc (.cells #[.int .i64 s, .int .i64 l, .int .u32 0, .int .i32 0, .int .u32 0, .int .i64 0] 342) = w1
  have hz1 : w1.heap.size = w.heap.size + 1 := by subst hw1; simp
  have hS1 : Src w1 w.heap.size s l 0 0 := by
    subst hw1
    constructor <;> simp
  generalize hw2 : w1.alloc (.cells #[.pointer (some ⟨w.heap.size, 0, none⟩)] 329) = w2
  have hz2 : w2.heap.size = w.heap.size + 2 := by subst hw2; simp; omega
  have hS2 : Src w2 w.heap.size s l 0 0 := by subst hw2; exact hS1.alloc _
  have hp2 : w2.cell? ⟨w.heap.size + 1, 0, none⟩ = some (.pointer (some ⟨w.heap.size, 0, none⟩)) := by subst hw2; rw [← hz1]; simp
  refine ⟨⟨0, 0, hS2.alloc _, .inl rfl⟩, ?_, ?_, ?_, by simp; omega⟩
  · exact (((Below.refl _ w2).alloc (Nat.le_refl _) _).cell (p := ⟨w.heap.size + 1, 0, none⟩) (by simp; omega)).trans hp2
  · rw [← hz2]; simp
  · rw [← hz2]; simp

set_option maxRecDepth 100000 in
set_option maxHeartbeats 1600000 in
theorem iRand_any (s l n : Int) (w : World) :
    Calls Tryz.prog 276 #[.int .i64 s, .int .i64 l, .int .i64 n] w fun e w' => e = .returned (.int .i64 (rnd s l n)) ∧ Below w.heap.size w w' := by
  have hnot : ∀ (x : Bool) (w : World), (Op.unary .not (.bool x)).run Tryz.prog w = .ok (.bool (!x)) w := fun _ _ => rfl
  by_cases hx : placeB s l n = true
  · go_enter Tryz.func276, Tryz.ntmps276
    go_wp2_with (first | (go_at_call 275; refine (placeOk_any s l n _).mono ?_; rintro e w' ⟨rfl, rfl⟩; rw [hx]) | (go_at_call 283; refine (rowFrom_any s l n _).mono ?_; rintro e w1 ⟨rfl, hG1, hB1⟩; unfold genV) | (go_at_call 285; refine (next_any _ s l n hx _ hG1).mono ?_; rintro e w2 ⟨rfl, hG2, hT2⟩))
    go_ret
    exact ⟨ret_int (by simp [rnd, hx]), hB1.trans (hT2.to_below (fun k hk => by rcases hk with h | h <;> omega) hB1.size)⟩
  · have hx' : placeB s l n = false := by simpa using hx
    go_enter Tryz.func276, Tryz.ntmps276
    go_wp2_with (go_at_call 275; refine (placeOk_any s l n _).mono ?_; rintro e w' ⟨rfl, rfl⟩; rw [hx'])
    go_ret
    exact ⟨ret_int (by simp [rnd, hx]), Below.refl _ _⟩

def modB (m : Int) : Bool := decide (1 ≤ m) && decide (m ≤ 1000)
def rndB (s l n m : Int) : Int := if placeB s l n = true ∧ modB m = true then randI s l n % m else -1
theorem randI_low (s l n : Int) : 0 ≤ randI s l n := mix_low _
theorem randI_high (s l n : Int) : randI s l n < 2147483647 := mix_high _

set_option maxHeartbeats 1600000 in
theorem iBelow_any (s l n m : Int) (w : World) :
    Calls Tryz.prog 256 #[.int .i64 s, .int .i64 l, .int .i64 n, .int .i64 m] w fun e w' => e = .returned (.int .i64 (rndB s l n m)) ∧ Below w.heap.size w w' := by
  have hnot : ∀ (x : Bool) (w : World), (Op.unary .not (.bool x)).run Tryz.prog w = .ok (.bool (!x)) w := fun _ _ => rfl
  by_cases hx : placeB s l n = true
  · by_cases hm : modB m = true
    · have h1 : 1 ≤ m ∧ m ≤ 1000 := by simpa [modB] using hm
      obtain ⟨h1, h2⟩ := h1
      have hm0 : ¬ m = 0 := by omega
      have hb : (decide (1 ≤ m) && decide (m ≤ 1000)) = true := hm
      have hr : rnd s l n = randI s l n := by simp [rnd, hx]
      have r0 := randI_low s l n
      have r1 := randI_high s l n
      go_enter Tryz.func256, Tryz.ntmps256
      go_wp2_with (first | (go_at_call 275; refine (placeOk_any s l n _).mono ?_; rintro e w' ⟨rfl, rfl⟩; rw [hx]) | (go_at_call 68; refine (within_any m _ _ _).mono ?_; rintro e w' ⟨rfl, rfl⟩; rw [hb]) | (go_at_call 276; refine (iRand_any s l n _).mono ?_; rintro e w1 ⟨rfl, hB1⟩; rw [hr]))
      go_ret
      exact ⟨ret_int (by simp [rndB, hx, hm]), hB1⟩
    · have hb : (decide (1 ≤ m) && decide (m ≤ 1000)) = false := by simpa [modB] using hm
      go_enter Tryz.func256, Tryz.ntmps256
      go_wp2_with (first | (go_at_call 275; refine (placeOk_any s l n _).mono ?_; rintro e w' ⟨rfl, rfl⟩; rw [hx]) | (go_at_call 68; refine (within_any m _ _ _).mono ?_; rintro e w' ⟨rfl, rfl⟩; rw [hb]))
      go_ret
      exact ⟨ret_int (by simp [rndB, hm]), Below.refl _ _⟩
  · have hx' : placeB s l n = false := by simpa using hx
    go_enter Tryz.func256, Tryz.ntmps256
    go_wp2_with (go_at_call 275; refine (placeOk_any s l n _).mono ?_; rintro e w' ⟨rfl, rfl⟩; rw [hx'])
    go_ret
    exact ⟨ret_int (by simp [rndB, hx]), Below.refl _ _⟩
end Go.Proofs.YtmpoffepoafblaaGreat

