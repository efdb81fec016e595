/- NFill, NDo, NGen -/
import Derived.Test.YtbljfphdghfkfaaGreatDoorSequencesCardG01
import Derived.Laws.NewBlocks
import Derived.RegionTactic
import Derived.RegionCalls
import Derived.Deep.RegionHeld3
import Derived.Test.YtbljfphdghfkfaaGreatDoorSequencesCardLNOnce
import Derived.Test.YtbljfphdghfkfaaGreatDoorSequencesCardG00
/- What is laid once: the function that is handed to Do. -/
namespace Go.Proofs.YtbljfphdghfkfaaGreatDoor
open Go.RowKit
set_option maxRecDepth 100000 in
set_option maxHeartbeats 1600000 in
theorem fill_any (b : Nat) (pl : Addr) (hpb : ¬ b = pl.block) (x5 : Value) (s l : Int) (hs0 : 0 ≤ s) (hs1 : s ≤ 999999) (hl0 : 0 ≤ l) (hl1 : l ≤ 3) (w : World)
  (hp : w.cell? pl = some (.pointer (some ⟨b, 0, none⟩))) (h0 : w.cell? ⟨b, 0, none⟩ = some (.int .i64 s)) (h1 : w.cell? ⟨b, 1, none⟩ = some (.int .i64 l))
  (h5 : w.cell? ⟨b, 5, none⟩ = some x5) (f5 : w.frozen? ⟨b, 5, none⟩ = false) :
  Calls Tryz.prog 134 #[.pointer (some pl)] w fun e w' => e = .returned (.tuple #[]) ∧ w' = w.drew.setCell ⟨b, 5, none⟩ (.int .i64 (startI s l)) := by
 have e0 : Int.tmod (4 * s + l + 1) 2147483647 = 4 * s + l + 1 := by rw [tmod_pos (by omega)]; omega
 have e1 : (4 * s + l + 1) % 2147483647 = 4 * s + l + 1 := by omega
 have e2 : mixed (4 * s + l + 1) = startI s l := by simp only [mixed, startI, e1]; rw [if_pos (numB_iff.2 (by omega))]
 have q0 : IntKind.i64.wrap (4 * s) = 4 * s := by rw [IntKind.wrap_i64]; omega
 have q1 : IntKind.i64.wrap (4 * s + l) = 4 * s + l := by rw [IntKind.wrap_i64]; omega
 have q2 : IntKind.i64.wrap (4 * s + l + 1) = 4 * s + l + 1 := by rw [IntKind.wrap_i64]; omega
 have hne : ∀ v, (w.drew.setCell ⟨b, 5, none⟩ v).cell? pl = w.drew.cell? pl := fun v => World.cell?_setCell_other _ ⟨b, 5, none⟩ pl _ (fun h => hpb (by rw [← h]))
 have hn0 : ∀ v, (w.setCell ⟨b, 5, none⟩ v).cell? ⟨b, 0, none⟩ = w.cell? ⟨b, 0, none⟩ := fun v => World.cell?_setCell_other _ ⟨b, 5, none⟩ ⟨b, 0, none⟩ _ (by simp)
 have hn1 : ∀ v, (w.setCell ⟨b, 5, none⟩ v).cell? ⟨b, 1, none⟩ = w.cell? ⟨b, 1, none⟩ := fun v => World.cell?_setCell_other _ ⟨b, 5, none⟩ ⟨b, 1, none⟩ _ (by simp)
 go_enter Tryz.func134, Tryz.ntmps134
 go_wp2_with fail
 go_region_held3 (fun W => W.cell? pl = some (.pointer (some ⟨b, 0, none⟩)) ∧ W.cell? ⟨b, 0, none⟩ = some (.int .i64 s) ∧ W.cell? ⟨b, 1, none⟩ = some (.int .i64 l)) (first | go_keep | ((repeat' apply And.intro) <;> first | (go_keep; done) | (rw [hne]; go_keep; done) | (simp only [World.cell?_drew, hn0, hn1]; assumption)))
  (first | (go_at_call 131; refine (iMixed_any _ _).mono ?_; rintro e w' ⟨rfl, rfl⟩; (try rw [e0]); (try rw [e2])))
 all_goals (go_end0; exact ⟨rfl, rfl⟩)
end Go.Proofs.YtbljfphdghfkfaaGreatDoor

/- The library's sync.Once in the struct of a call: done the first time, and not again. -/
namespace Go.Proofs.YtbljfphdghfkfaaGreatDoor
open Go.RowKit
def slowW (w : World) (b : Nat) (st : Int) : World := ((((w.setCell ⟨b, 3, none⟩ (.int .i32 1)).setCell ⟨b, 5, none⟩ (.int .i64 st)).drew.drew.setCell ⟨b, 2, none⟩ (.int .u32 1)).setCell ⟨b, 3, none⟩ (.int .i32 0))
set_option maxRecDepth 100000 in
set_option maxHeartbeats 1600000 in
theorem slow_any (b : Nat) (pl : Addr) (hpb : ¬ b = pl.block) (x5 : Value) (s l : Int) (hs0 : 0 ≤ s) (hs1 : s ≤ 999999) (hl0 : 0 ≤ l) (hl1 : l ≤ 3) (w : World) (hp : w.cell? pl = some (.pointer (some ⟨b, 0, none⟩)))
  (c0 : w.cell? ⟨b, 0, none⟩ = some (.int .i64 s)) (c1 : w.cell? ⟨b, 1, none⟩ = some (.int .i64 l))
  (c2 : w.cell? ⟨b, 2, none⟩ = some (.int .u32 0)) (c3 : w.cell? ⟨b, 3, none⟩ = some (.int .i32 0)) (c5 : w.cell? ⟨b, 5, none⟩ = some x5)
  (f2 : w.frozen? ⟨b, 2, none⟩ = false) (f3 : w.frozen? ⟨b, 3, none⟩ = false) (f5 : w.frozen? ⟨b, 5, none⟩ = false) :
  Calls Tryz.prog 136 #[.pointer (some ⟨b, 2, none⟩), .func (.func 134) #[] #[.pointer (some pl)]] w fun e w' => e = .returned (.tuple #[]) ∧ w' = slowW w b (startI s l) := by
 have hl := run_call_load (P := Tryz.prog) Tryz.func137 (by kernel_rfl) (by kernel_rfl) (by kernel_rfl) .u32 (by kernel_rfl) (w := w.setCell ⟨b, 3, none⟩ (.int .i32 1)) (a := ⟨b, 2, none⟩) (x := 0) ((World.cell?_setCell_other _ ⟨b, 3, none⟩ ⟨b, 2, none⟩ _ (by simp)).trans c2)
 have hp1 : (w.setCell ⟨b, 3, none⟩ (.int .i32 1)).cell? pl = some (.pointer (some ⟨b, 0, none⟩)) := (World.cell?_setCell_other _ ⟨b, 3, none⟩ pl _ (fun h => hpb (by rw [← h]))).trans hp
 have h01 : (w.setCell ⟨b, 3, none⟩ (.int .i32 1)).cell? ⟨b, 0, none⟩ = some (.int .i64 s) := (World.cell?_setCell_other _ ⟨b, 3, none⟩ ⟨b, 0, none⟩ _ (by simp)).trans c0
 have h11 : (w.setCell ⟨b, 3, none⟩ (.int .i32 1)).cell? ⟨b, 1, none⟩ = some (.int .i64 l) := (World.cell?_setCell_other _ ⟨b, 3, none⟩ ⟨b, 1, none⟩ _ (by simp)).trans c1
 have h51 : (w.setCell ⟨b, 3, none⟩ (.int .i32 1)).cell? ⟨b, 5, none⟩ = some x5 := (World.cell?_setCell_other _ ⟨b, 3, none⟩ ⟨b, 5, none⟩ _ (by simp)).trans c5
 have hnot : ∀ (x : Bool) (w : World), (Op.unary .not (.bool x)).run Tryz.prog w = .ok (.bool (!x)) w := fun _ _ => rfl
 unfold slowW
 go_enter_defers Tryz.func136, Tryz.ntmps136
 go_wp2_with (go_at_call 138; refine (lock_free ⟨b, 3, none⟩ _ (by go_simp) (by go_simp)).mono ?_; rintro e w' ⟨rfl, rfl⟩)
 go_wp2_with (first | (go_at_call 134; refine (fill_any b pl hpb x5 s l hs0 hs1 hl0 hl1 _ hp1 h01 h11 h51 (by simp [f5])).mono ?_; rintro e w' ⟨rfl, rfl⟩) | (go_at_call 135; go_in))
 go_wp2
 -- THE DOOR: two deferred calls, the last laid first
 refine leaves_cons (f := 140) (args := #[.pointer (some ⟨b, 2, none⟩), .bool true]) (by simp) (by simp [go_sem]) ?_
 refine (store_deferred ⟨b, 2, none⟩ (.int .u32 0) .returning _ ?_ (by simp [f2])).mono ?_
 ·rw [World.cell?_drew]
  refine (World.cell?_setCell_other _ ⟨b, 5, none⟩ ⟨b, 2, none⟩ _ (by simp)).trans ?_
  exact (World.cell?_setCell_other _ ⟨b, 3, none⟩ ⟨b, 2, none⟩ _ (by simp)).trans c2
 rintro e u' w'' ⟨rfl, rfl, rfl⟩
 refine leaves_cons (f := 139) (args := #[.pointer (some ⟨b, 3, none⟩)]) (by simp [settle]) (by simp [go_sem]) ?_
 refine (unlock_deferred ⟨b, 3, none⟩ _ _ ?_ (by simp [f3])).mono ?_
 ·refine (World.cell?_setCell_other _ ⟨b, 2, none⟩ ⟨b, 3, none⟩ _ (by simp)).trans ?_
  rw [World.cell?_drew, World.cell?_drew]
  refine (World.cell?_setCell_other _ ⟨b, 5, none⟩ ⟨b, 3, none⟩ _ (by simp)).trans ?_
  exact World.cell?_setCell_same w _ _ c3
 rintro e u' w'' ⟨rfl, rfl, rfl⟩
 simp [Leaves, settle, results, Tryz.results136]
end Go.Proofs.YtbljfphdghfkfaaGreatDoor

/- The first number of a seed, kept behind a sync.Once in the struct of a call; the closure over a place. -/
namespace Go.Proofs.YtbljfphdghfkfaaGreatDoor
open Go.RowKit
structure Src (w : World) (b : Nat) (s l : Int) (d : Int) (st : Int) : Prop where
 c0 : w.cell? ⟨b, 0, none⟩ = some (.int .i64 s)
 c1 : w.cell? ⟨b, 1, none⟩ = some (.int .i64 l)
 c2 : w.cell? ⟨b, 2, none⟩ = some (.int .u32 d)
 c3 : w.cell? ⟨b, 3, none⟩ = some (.int .i32 0)
 c5 : w.cell? ⟨b, 5, none⟩ = some (.int .i64 st)
 fz : ∀ o, w.frozen? ⟨b, o, none⟩ = false
 lt : b < w.heap.size
theorem Src.same {w w' : World} {b : Nat} {s l d st : Int} (h : Src w b s l d st) (hb : w'.heap[b]? = w.heap[b]?) (hz : w.heap.size ≤ w'.heap.size) : Src w' b s l d st :=
 ⟨(World.cell?_of_block (w := w) hb).trans h.c0, (World.cell?_of_block (w := w) hb).trans h.c1, (World.cell?_of_block (w := w) hb).trans h.c2, (World.cell?_of_block (w := w) hb).trans h.c3, (World.cell?_of_block (w := w) hb).trans h.c5,
  fun o => (World.frozen?_of_block (w := w) hb).trans (h.fz o), by have := h.lt; omega⟩
theorem Src.turns {w w' : World} {S : Nat → Prop} {b : Nat} {s l d st : Int} (h : Src w b s l d st) (ht : Turns S w w') (hS : ¬ S b) : Src w' b s l d st := h.same (ht.block b h.lt hS) ht.size
theorem Src.alloc {w : World} {b : Nat} {s l d st : Int} (h : Src w b s l d st) (o : Obj) : Src (w.alloc o) b s l d st :=
 h.same (Below.heap_alloc _ _ _ h.lt) (by simp)
theorem Src.slow {w : World} {b : Nat} {s l d st : Int} (h : Src w b s l d st) (x : Int) : Src (slowW w b x) b s l 1 x := by
 have hn : ∀ i j : Nat, i ≠ j → (⟨b, i, none⟩ : Addr) ≠ ⟨b, j, none⟩ := fun i j hij e => hij (by injection e)
 constructor
 ·unfold slowW
  rw [World.cell?_setCell_other _ _ _ _ (hn _ _ (by omega)), World.cell?_setCell_other _ _ _ _ (hn _ _ (by omega)), World.cell?_drew, World.cell?_drew, World.cell?_setCell_other _ _ _ _ (hn _ _ (by omega)), World.cell?_setCell_other _ _ _ _ (hn _ _ (by omega))]
  exact h.c0
 ·unfold slowW
  rw [World.cell?_setCell_other _ _ _ _ (hn _ _ (by omega)), World.cell?_setCell_other _ _ _ _ (hn _ _ (by omega)), World.cell?_drew, World.cell?_drew, World.cell?_setCell_other _ _ _ _ (hn _ _ (by omega)), World.cell?_setCell_other _ _ _ _ (hn _ _ (by omega))]
  exact h.c1
 ·unfold slowW
  rw [World.cell?_setCell_other _ _ _ _ (hn _ _ (by omega))]
  refine World.cell?_setCell_same _ _ _ (u := .int .u32 d) ?_
  rw [World.cell?_drew, World.cell?_drew, World.cell?_setCell_other _ _ _ _ (hn _ _ (by omega)), World.cell?_setCell_other _ _ _ _ (hn _ _ (by omega))]
  exact h.c2
 ·unfold slowW
  refine World.cell?_setCell_same _ _ _ (u := .int .i32 1) ?_
  rw [World.cell?_setCell_other _ _ _ _ (hn _ _ (by omega)), World.cell?_drew, World.cell?_drew, World.cell?_setCell_other _ _ _ _ (hn _ _ (by omega))]
  exact World.cell?_setCell_same _ _ _ h.c3
 ·unfold slowW
  rw [World.cell?_setCell_other _ _ _ _ (hn _ _ (by omega)), World.cell?_setCell_other _ _ _ _ (hn _ _ (by omega)), World.cell?_drew, World.cell?_drew]
  refine World.cell?_setCell_same _ _ _ (u := .int .i64 st) ?_
  rw [World.cell?_setCell_other _ _ _ _ (hn _ _ (by omega))]
  exact h.c5
 ·intro o
  unfold slowW
  simp [h.fz]
 ·unfold slowW
  have := h.lt
  simpa [World.setCell] using this
theorem slow_turns (w : World) (b : Nat) (x : Int) : Turns (fun k => k = b) w (slowW w b x) :=
 ((((((Turns.refl (fun k => k = b) w).setCell (p := ⟨b, 3, none⟩) rfl _).setCell (p := ⟨b, 5, none⟩) rfl _).drew).drew).setCell (p := ⟨b, 2, none⟩) rfl _).setCell (p := ⟨b, 3, none⟩) rfl _
def Ready (w : World) (b : Nat) (s l : Int) : Prop := ∃ d st, Src w b s l d st ∧ (d = 0 ∨ d = 1 ∧ st = startI s l)
theorem Ready.turns {w w' : World} {S : Nat → Prop} {b : Nat} {s l : Int} (h : Ready w b s l) (ht : Turns S w w') (hS : ¬ S b) : Ready w' b s l := by
 obtain ⟨d, st, h1, h2⟩ := h
 exact ⟨d, st, h1.turns ht hS, h2⟩
theorem Ready.lt {w : World} {b : Nat} {s l : Int} (h : Ready w b s l) : b < w.heap.size := by obtain ⟨d, st, h1, _⟩ := h; exact h1.lt
set_option maxRecDepth 100000 in
set_option maxHeartbeats 1600000 in
theorem do_first (b : Nat) (pl : Addr) (hpb : ¬ b = pl.block) (st s l : Int) (hs0 : 0 ≤ s) (hs1 : s ≤ 999999) (hl0 : 0 ≤ l) (hl1 : l ≤ 3) (w : World) (hp : w.cell? pl = some (.pointer (some ⟨b, 0, none⟩))) (h : Src w b s l 0 st) :
  Calls Tryz.prog 133 #[.pointer (some ⟨b, 2, none⟩), .func (.func 134) #[] #[.pointer (some pl)]] w fun e w' => e = .returned (.tuple #[]) ∧ w' = slowW w b (startI s l) := by
 have h2 := h.c2
 have hl := run_call_load (P := Tryz.prog) Tryz.func137 (by kernel_rfl) (by kernel_rfl) (by kernel_rfl) .u32 (by kernel_rfl) h2
 have hnot : ∀ (x : Bool) (w : World), (Op.unary .not (.bool x)).run Tryz.prog w = .ok (.bool (!x)) w := fun _ _ => rfl
 go_enter Tryz.func133, Tryz.ntmps133
 go_wp2_with (first | (go_at_call 136; refine (slow_any b pl hpb _ s l hs0 hs1 hl0 hl1 _ hp h.c0 h.c1 h.c2 h.c3 h.c5 (h.fz _) (h.fz _) (h.fz _)).mono ?_; rintro e w' ⟨rfl, rfl⟩) | (go_at_call 135; go_in))
 go_end0
 exact ⟨rfl, rfl⟩
theorem do_done (a : Addr) (fv : Value) (w : World) (h0 : w.cell? a = some (.int .u32 1)) :
  Calls Tryz.prog 133 #[.pointer (some a), fv] w fun e w' => e = .returned (.tuple #[]) ∧ w' = w := by
 have hl := run_call_load (P := Tryz.prog) Tryz.func137 (by kernel_rfl) (by kernel_rfl) (by kernel_rfl) .u32 (by kernel_rfl) h0
 have hnot : ∀ (x : Bool) (w : World), (Op.unary .not (.bool x)).run Tryz.prog w = .ok (.bool (!x)) w := fun _ _ => rfl
 go_enter Tryz.func133, Tryz.ntmps133
 go_wp2
 go_end0
 exact ⟨rfl, rfl⟩
set_option maxRecDepth 100000 in
set_option maxHeartbeats 1600000 in
theorem first_any (b : Nat) (s l : Int) (hs0 : 0 ≤ s) (hs1 : s ≤ 999999) (hl0 : 0 ≤ l) (hl1 : l ≤ 3) (w : World) (h : Ready w b s l) :
  Calls Tryz.prog 132 #[.pointer (some ⟨b, 0, none⟩)] w fun e w' => e = .returned (.int .i64 (startI s l)) ∧ Ready w' b s l ∧ Turns (fun k => k = b) w w' := by
 have hmf : ∀ (fn : Fn) (first cap : Array Value) (w : World), (Instr.makeFunc fn first cap).run Tryz.prog w = .ok (.func fn first cap) w := fun _ _ _ _ => rfl
 have p0 : (w.alloc (.cells #[.pointer (some ⟨b, 0, none⟩)] 207)).cell? ⟨w.heap.size, 0, none⟩ = some (.pointer (some ⟨b, 0, none⟩)) := by simp
 have hbl := h.lt
 obtain ⟨d, st, h1, rfl | ⟨rfl, rfl⟩⟩ := h
 ·have h2 := h1.alloc (.cells #[.pointer (some ⟨b, 0, none⟩)] 207)
  have h3 := h2.slow (startI s l)
  have hT : Turns (fun k => k = b) w (slowW (w.alloc (.cells #[.pointer (some ⟨b, 0, none⟩)] 207)) b (startI s l)) := ((Turns.refl _ w).alloc _).trans (slow_turns _ b _)
  have pE : (slowW (w.alloc (.cells #[.pointer (some ⟨b, 0, none⟩)] 207)) b (startI s l)).cell? ⟨w.heap.size, 0, none⟩ = some (.pointer (some ⟨b, 0, none⟩)) :=
   ((slow_turns _ b _).cell (by simp) (by omega)).trans p0
  have vE := h3.c5
  go_enter Tryz.func132, Tryz.ntmps132
  go_wp2_with (go_at_call 133; refine (do_first b ⟨w.heap.size, 0, none⟩ (by simp; omega) st s l hs0 hs1 hl0 hl1 _ p0 h2).mono ?_; rintro e w' ⟨rfl, rfl⟩)
  go_ret
  exact ⟨rfl, ⟨1, _, h3, .inr ⟨rfl, rfl⟩⟩, hT⟩
 ·have h2 := h1.alloc (.cells #[.pointer (some ⟨b, 0, none⟩)] 207)
  have vE := h2.c5
  have a2 := h2.c2
  go_enter Tryz.func132, Tryz.ntmps132
  go_wp2_with (go_at_call 133; refine (do_done ⟨b, 2, none⟩ _ _ a2).mono ?_; rintro e w' ⟨rfl, rfl⟩)
  go_ret
  exact ⟨rfl, ⟨1, _, h2, .inr ⟨rfl, rfl⟩⟩, (Turns.refl _ w).alloc _⟩
end Go.Proofs.YtbljfphdghfkfaaGreatDoor

