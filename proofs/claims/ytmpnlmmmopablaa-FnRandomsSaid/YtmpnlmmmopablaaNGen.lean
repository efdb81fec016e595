/- The first number of a seed, kept behind a sync.Once in the struct of a call; the closure over a place. -/
import Derived.Test.YtmpnlmmmopablaaNDo
namespace Go.Proofs.Ytmpnlmmmopablaa
open Go.RowKit

/- The struct of a call, at the head of block b. -/
structure Src (w : World) (b : Nat) (s l : Int) (d : Int) (st : Int) : Prop where
  c0 : w.cell? ⟨b, 0, none⟩ = some (.int .i64 s)
  c1 : w.cell? ⟨b, 1, none⟩ = some (.int .i64 l)
  c2 : w.cell? ⟨b, 2, none⟩ = some (.int .u32 d)
  c3 : w.cell? ⟨b, 3, none⟩ = some (.int .i32 0)
  c5 : w.cell? ⟨b, 5, none⟩ = some (.int .i64 st)
  fz : ∀ o, w.frozen? ⟨b, o, none⟩ = false
  lt : b < w.heap.size
theorem Src.same {w w' : World} {b : Nat} {s l d st : Int} (h : Src w b s l d st) (hb : w'.heap[b]? = w.heap[b]?) (hz : w.heap.size ≤ w'.heap.size) : Src w' b s l d st :=
  ⟨(World.cell?_of_block (w := w) hb).trans h.c0, (World.cell?_of_block (w := w) hb).trans h.c1, (World.cell?_of_block (w := w) hb).trans h.c2, (World.cell?_of_block (w := w) hb).trans h.c3, (World.cell?_of_block (w := w) hb).trans h.c5,
    fun o => (World.frozen?_of_block (w := w) hb).trans (h.fz o), by have := h.lt; omega⟩
theorem Src.turns {w w' : World} {S : Nat → Prop} {b : Nat} {s l d st : Int} (h : Src w b s l d st) (ht : Turns S w w') (hS : ¬ S b) : Src w' b s l d st := h.same (ht.block b h.lt hS) ht.size
theorem Src.alloc {w : World} {b : Nat} {s l d st : Int} (h : Src w b s l d st) (o : Obj) : Src (w.alloc o) b s l d st :=
  h.same (Below.heap_alloc _ _ _ h.lt) (by simp)
theorem Src.drew {w : World} {b : Nat} {s l d st : Int} (h : Src w b s l d st) : Src w.drew b s l d st := h.same rfl (Nat.le_refl _)
theorem Src.slow {w : World} {b : Nat} {s l d st : Int} (h : Src w b s l d st) (x : Int) : Src (slowW w b x) b s l 1 x := by
  have hn : ∀ i j : Nat, i ≠ j → (⟨b, i, none⟩ : Addr) ≠ ⟨b, j, none⟩ := fun i j hij e => hij (by injection e)
  constructor
  · unfold slowW
    rw [World.cell?_setCell_other _ _ _ _ (hn _ _ (by omega)), World.cell?_setCell_other _ _ _ _ (hn _ _ (by omega)), World.cell?_drew, World.cell?_drew, World.cell?_setCell_other _ _ _ _ (hn _ _ (by omega)), World.cell?_setCell_other _ _ _ _ (hn _ _ (by omega))]
    exact h.c0
  · unfold slowW
    rw [World.cell?_setCell_other _ _ _ _ (hn _ _ (by omega)), World.cell?_setCell_other _ _ _ _ (hn _ _ (by omega)), World.cell?_drew, World.cell?_drew, World.cell?_setCell_other _ _ _ _ (hn _ _ (by omega)), World.cell?_setCell_other _ _ _ _ (hn _ _ (by omega))]
    exact h.c1
  · unfold slowW
    rw [World.cell?_setCell_other _ _ _ _ (hn _ _ (by omega))]
    refine World.cell?_setCell_same _ _ _ (u := .int .u32 d) ?_
    rw [World.cell?_drew, World.cell?_drew, World.cell?_setCell_other _ _ _ _ (hn _ _ (by omega)), World.cell?_setCell_other _ _ _ _ (hn _ _ (by omega))]
    exact h.c2
  · unfold slowW
    refine World.cell?_setCell_same _ _ _ (u := .int .i32 1) ?_
    rw [World.cell?_setCell_other _ _ _ _ (hn _ _ (by omega)), World.cell?_drew, World.cell?_drew, World.cell?_setCell_other _ _ _ _ (hn _ _ (by omega))]
    exact World.cell?_setCell_same _ _ _ h.c3
  · unfold slowW
    rw [World.cell?_setCell_other _ _ _ _ (hn _ _ (by omega)), World.cell?_setCell_other _ _ _ _ (hn _ _ (by omega)), World.cell?_drew, World.cell?_drew]
    refine World.cell?_setCell_same _ _ _ (u := .int .i64 st) ?_
    rw [World.cell?_setCell_other _ _ _ _ (hn _ _ (by omega))]
    exact h.c5
  · intro o
    unfold slowW
    simp [h.fz]
  · unfold slowW
    have := h.lt
    simpa [World.setCell] using this
theorem slow_turns (w : World) (b : Nat) (x : Int) : Turns (fun k => k = b) w (slowW w b x) :=
  ((((((Turns.refl (fun k => k = b) w).setCell (p := ⟨b, 3, none⟩) rfl _).setCell (p := ⟨b, 5, none⟩) rfl _).drew).drew).setCell (p := ⟨b, 2, none⟩) rfl _).setCell (p := ⟨b, 3, none⟩) rfl _
/- Not done yet, or done with the right number. -/
def Ready (w : World) (b : Nat) (s l : Int) : Prop := ∃ d st, Src w b s l d st ∧ (d = 0 ∨ d = 1 ∧ st = startI s l)
theorem Ready.turns {w w' : World} {S : Nat → Prop} {b : Nat} {s l : Int} (h : Ready w b s l) (ht : Turns S w w') (hS : ¬ S b) : Ready w' b s l := by
  obtain ⟨d, st, h1, h2⟩ := h
  exact ⟨d, st, h1.turns ht hS, h2⟩
theorem Ready.lt {w : World} {b : Nat} {s l : Int} (h : Ready w b s l) : b < w.heap.size := by obtain ⟨d, st, h1, _⟩ := h; exact h1.lt

set_option maxRecDepth 100000 in
set_option maxHeartbeats 1600000 in
theorem do_first (b : Nat) (pl : Addr) (hpb : ¬ b = pl.block) (st s l : Int) (hs0 : 0 ≤ s) (hs1 : s ≤ 999999) (hl0 : 0 ≤ l) (hl1 : l ≤ 3) (w : World) (hp : w.cell? pl = some (.pointer (some ⟨b, 0, none⟩))) (h : Src w b s l 0 st) :
    Calls Try.prog 41 #[.pointer (some ⟨b, 2, none⟩), .func (.func 42) #[] #[.pointer (some pl)]] w fun e w' => e = .returned (.tuple #[]) ∧ w' = slowW w b (startI s l) := by
  have h2 := h.c2
  have hl := run_call_load (P := Try.prog) Try.func45 (by kernel_rfl) (by kernel_rfl) (by kernel_rfl) .u32 (by kernel_rfl) h2
  have hnot : ∀ (x : Bool) (w : World), (Op.unary .not (.bool x)).run Try.prog w = .ok (.bool (!x)) w := fun _ _ => rfl
  go_enter Try.func41, Try.ntmps41
  go_wp2_with (first | (go_at_call 44; refine (slow_any b pl hpb _ s l hs0 hs1 hl0 hl1 _ hp h.c0 h.c1 h.c2 h.c3 h.c5 (h.fz _) (h.fz _) (h.fz _)).mono ?_; rintro e w' ⟨rfl, rfl⟩) | (go_at_call 43; go_in))
  go_end0
  exact ⟨rfl, rfl⟩

theorem do_done (a : Addr) (fv : Value) (w : World) (h0 : w.cell? a = some (.int .u32 1)) :
    Calls Try.prog 41 #[.pointer (some a), fv] w fun e w' => e = .returned (.tuple #[]) ∧ w' = w := by
  have hl := run_call_load (P := Try.prog) Try.func45 (by kernel_rfl) (by kernel_rfl) (by kernel_rfl) .u32 (by kernel_rfl) h0
  have hnot : ∀ (x : Bool) (w : World), (Op.unary .not (.bool x)).run Try.prog w = .ok (.bool (!x)) w := fun _ _ => rfl
  go_enter Try.func41, Try.ntmps41
  go_wp2
  go_end0
  exact ⟨rfl, rfl⟩

set_option maxRecDepth 100000 in
set_option maxHeartbeats 1600000 in
theorem first_any (b : Nat) (s l : Int) (hs0 : 0 ≤ s) (hs1 : s ≤ 999999) (hl0 : 0 ≤ l) (hl1 : l ≤ 3) (w : World) (h : Ready w b s l) :
    Calls Try.prog 40 #[.pointer (some ⟨b, 0, none⟩)] w fun e w' => e = .returned (.int .i64 (startI s l)) ∧ Ready w' b s l ∧ Turns (fun k => k = b) w w' := by
  have hmf : ∀ (fn : Fn) (first cap : Array Value) (w : World), (Instr.makeFunc fn first cap).run Try.prog w = .ok (.func fn first cap) w := fun _ _ _ _ => rfl
  have p0 : (w.alloc (.cells #[.pointer (some ⟨b, 0, none⟩)] 46)).cell? ⟨w.heap.size, 0, none⟩ = some (.pointer (some ⟨b, 0, none⟩)) := by simp
  have hbl := h.lt
  obtain ⟨d, st, h1, rfl | ⟨rfl, rfl⟩⟩ := h
  · have h2 := h1.alloc (.cells #[.pointer (some ⟨b, 0, none⟩)] 46)
    have h3 := h2.slow (startI s l)
    have hT : Turns (fun k => k = b) w (slowW (w.alloc (.cells #[.pointer (some ⟨b, 0, none⟩)] 46)) b (startI s l)) := ((Turns.refl _ w).alloc _).trans (slow_turns _ b _)
    have pE : (slowW (w.alloc (.cells #[.pointer (some ⟨b, 0, none⟩)] 46)) b (startI s l)).cell? ⟨w.heap.size, 0, none⟩ = some (.pointer (some ⟨b, 0, none⟩)) :=
      ((slow_turns _ b _).cell (by simp) (by omega)).trans p0
    have vE := h3.c5
    go_enter Try.func40, Try.ntmps40
    go_wp2_with (go_at_call 41; refine (do_first b ⟨w.heap.size, 0, none⟩ (by simp; omega) st s l hs0 hs1 hl0 hl1 _ p0 h2).mono ?_; rintro e w' ⟨rfl, rfl⟩)
    go_ret
    exact ⟨rfl, ⟨1, _, h3, .inr ⟨rfl, rfl⟩⟩, hT⟩
  · have h2 := h1.alloc (.cells #[.pointer (some ⟨b, 0, none⟩)] 46)
    have vE := h2.c5
    have a2 := h2.c2
    go_enter Try.func40, Try.ntmps40
    go_wp2_with (go_at_call 41; refine (do_done ⟨b, 2, none⟩ _ _ a2).mono ?_; rintro e w' ⟨rfl, rfl⟩)
    go_ret
    exact ⟨rfl, ⟨1, _, h2, .inr ⟨rfl, rfl⟩⟩, (Turns.refl _ w).alloc _⟩
end Go.Proofs.Ytmpnlmmmopablaa
