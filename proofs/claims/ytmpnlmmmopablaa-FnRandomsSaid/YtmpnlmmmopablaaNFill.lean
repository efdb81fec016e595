/- What is laid once: the function that is handed to Do. -/
import Derived.Test.YtmpnlmmmopablaaNSpec
import Derived.Laws.NewBlocks
import Derived.RegionTactic
import Derived.RegionCalls
import Derived.Deep.RegionHeld3
namespace Go.Proofs.Ytmpnlmmmopablaa
open Go.RowKit

set_option maxRecDepth 100000 in
set_option maxHeartbeats 1600000 in
theorem fill_any (b : Nat) (pl : Addr) (hpb : ¬ b = pl.block) (x5 : Value) (s l : Int) (hs0 : 0 ≤ s) (hs1 : s ≤ 999999) (hl0 : 0 ≤ l) (hl1 : l ≤ 3) (w : World)
    (hp : w.cell? pl = some (.pointer (some ⟨b, 0, none⟩))) (h0 : w.cell? ⟨b, 0, none⟩ = some (.int .i64 s)) (h1 : w.cell? ⟨b, 1, none⟩ = some (.int .i64 l))
    (h5 : w.cell? ⟨b, 5, none⟩ = some x5) (f5 : w.frozen? ⟨b, 5, none⟩ = false) :
    Calls Try.prog 42 #[.pointer (some pl)] w fun e w' => e = .returned (.tuple #[]) ∧ w' = w.drew.setCell ⟨b, 5, none⟩ (.int .i64 (startI s l)) := by
  have e0 : Int.tmod (4 * s + l + 1) 2147483647 = 4 * s + l + 1 := by rw [tmod_pos (by omega)]; omega
  have e1 : (4 * s + l + 1) % 2147483647 = 4 * s + l + 1 := by omega
  have e2 : mixed (4 * s + l + 1) = startI s l := by simp only [mixed, startI, e1]; rw [if_pos (numB_iff.2 (by omega))]
  have q0 : IntKind.i64.wrap (4 * s) = 4 * s := by rw [IntKind.wrap_i64]; omega
  have q1 : IntKind.i64.wrap (4 * s + l) = 4 * s + l := by rw [IntKind.wrap_i64]; omega
  have q2 : IntKind.i64.wrap (4 * s + l + 1) = 4 * s + l + 1 := by rw [IntKind.wrap_i64]; omega
  have hne : ∀ v, (w.drew.setCell ⟨b, 5, none⟩ v).cell? pl = w.drew.cell? pl := fun v => World.cell?_setCell_other _ ⟨b, 5, none⟩ pl _ (fun h => hpb (by rw [← h]))
  have hn0 : ∀ v, (w.setCell ⟨b, 5, none⟩ v).cell? ⟨b, 0, none⟩ = w.cell? ⟨b, 0, none⟩ := fun v => World.cell?_setCell_other _ ⟨b, 5, none⟩ ⟨b, 0, none⟩ _ (by simp)
  have hn1 : ∀ v, (w.setCell ⟨b, 5, none⟩ v).cell? ⟨b, 1, none⟩ = w.cell? ⟨b, 1, none⟩ := fun v => World.cell?_setCell_other _ ⟨b, 5, none⟩ ⟨b, 1, none⟩ _ (by simp)
  go_enter Try.func42, Try.ntmps42
  go_wp2_with fail
  go_region_held3 (fun W => W.cell? pl = some (.pointer (some ⟨b, 0, none⟩)) ∧ W.cell? ⟨b, 0, none⟩ = some (.int .i64 s) ∧ W.cell? ⟨b, 1, none⟩ = some (.int .i64 l)) (first | go_keep | ((repeat' apply And.intro) <;> first | (go_keep; done) | (rw [hne]; go_keep; done) | (simp only [World.cell?_drew, hn0, hn1]; assumption)))
    (first | (go_at_call 10; refine (iMixed_any _ _).mono ?_; rintro e w' ⟨rfl, rfl⟩; (try rw [e0]); (try rw [e2])))
  all_goals (go_end0; exact ⟨rfl, rfl⟩)
end Go.Proofs.Ytmpnlmmmopablaa
