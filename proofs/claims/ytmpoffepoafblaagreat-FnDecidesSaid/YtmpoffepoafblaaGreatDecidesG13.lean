/- NFill, NDo -/
import Derived.Test.YtmpoffepoafblaaGreatDecidesG11
import Derived.Laws.NewBlocks
import Derived.RegionTactic
import Derived.RegionCalls
import Derived.Deep.RegionHeld3
import Derived.Test.YtmpoffepoafblaaGreatDecidesLNOnce
import Derived.Test.YtmpoffepoafblaaGreatDecidesG01
/- What is laid once: the function that is handed to Do. -/
namespace Go.Proofs.YtmpoffepoafblaaGreat
open Go.RowKit

set_option maxRecDepth 100000 in
set_option maxHeartbeats 1600000 in
theorem fill_any (b : Nat) (pl : Addr) (hpb : ¬ b = pl.block) (x5 : Value) (s l : Int) (hs0 : 0 ≤ s) (hs1 : s ≤ 999999) (hl0 : 0 ≤ l) (hl1 : l ≤ 3) (w : World)
    (hp : w.cell? pl = some (.pointer (some ⟨b, 0, none⟩))) (h0 : w.cell? ⟨b, 0, none⟩ = some (.int .i64 s)) (h1 : w.cell? ⟨b, 1, none⟩ = some (.int .i64 l))
    (h5 : w.cell? ⟨b, 5, none⟩ = some x5) (f5 : w.frozen? ⟨b, 5, none⟩ = false) :
    Calls Tryz.prog 290 #[.pointer (some pl)] w fun e w' => e = .returned (.tuple #[]) ∧ w' = w.drew.setCell ⟨b, 5, none⟩ (.int .i64 (startI s l)) := by
  have e0 : Int.tmod (4 * s + l + 1) 2147483647 = 4 * s + l + 1 := by rw [tmod_pos (by omega)]; omega
  have e1 : (4 * s + l + 1) % 2147483647 = 4 * s + l + 1 := by omega
  have e2 : mixed (4 * s + l + 1) = startI s l := by simp only [mixed, startI, e1]; rw [if_pos (numB_iff.2 (by omega))]
  have q0 : IntKind.i64.wrap (4 * s) = 4 * s := by rw [IntKind.wrap_i64]; omega
  have q1 : IntKind.i64.wrap (4 * s + l) = 4 * s + l := by rw [IntKind.wrap_i64]; omega
  have q2 : IntKind.i64.wrap (4 * s + l + 1) = 4 * s + l + 1 := by rw [IntKind.wrap_i64]; omega
  have hne : ∀ v, (w.drew.setCell ⟨b, 5, none⟩ v).cell? pl = w.drew.cell? pl := fun v => World.cell?_setCell_other _ ⟨b, 5, none⟩ pl _ (fun h => hpb (by rw [← h]))
  have hn0 : ∀ v, (w.setCell ⟨b, 5, none⟩ v).cell? ⟨b, 0, none⟩ = w.cell? ⟨b, 0, none⟩ := fun v => World.cell?_setCell_other _ ⟨b, 5, none⟩ ⟨b, 0, none⟩ _ (by simp)
  have hn1 : ∀ v, (w.setCell ⟨b, 5, none⟩ v).cell? ⟨b, 1, none⟩ = w.cell? ⟨b, 1, none⟩ := fun v => World.cell?_setCell_other _ ⟨b, 5, none⟩ ⟨b, 1, none⟩ _ (by simp)
  go_enter Tryz.func290, Tryz.ntmps290
  go_wp2_with fail
  go_region_held3 (fun W => W.cell? pl = some (.pointer (some ⟨b, 0, none⟩)) ∧ W.cell? ⟨b, 0, none⟩ = some (.int .i64 s) ∧ W.cell? ⟨b, 1, none⟩ = some (.int .i64 l)) (first | go_keep | ((repeat' apply And.intro) <;> first | (go_keep; done) | (rw [hne]; go_keep; done) | (simp only [World.cell?_drew, hn0, hn1]; assumption)))
    (first | (go_at_call 287; refine (iMixed_any _ _).mono ?_; rintro e w' ⟨rfl, rfl⟩; (try rw [e0]); (try rw [e2])))
  all_goals (go_end0; exact ⟨rfl, rfl⟩)
end Go.Proofs.YtmpoffepoafblaaGreat

/- The library's sync.Once in the struct of a call: done the first time, and not again. -/
namespace Go.Proofs.YtmpoffepoafblaaGreat
open Go.RowKit

/- The world behind doSlow. -/
def slowW (w : World) (b : Nat) (st : Int) : World := ((((w.setCell ⟨b, 3, none⟩ (.int .i32 1)).setCell ⟨b, 5, none⟩ (.int .i64 st)).drew.drew.setCell ⟨b, 2, none⟩ (.int .u32 1)).setCell ⟨b, 3, none⟩ (.int .i32 0))

set_option maxRecDepth 100000 in
set_option maxHeartbeats 1600000 in
theorem slow_any (b : Nat) (pl : Addr) (hpb : ¬ b = pl.block) (x5 : Value) (s l : Int) (hs0 : 0 ≤ s) (hs1 : s ≤ 999999) (hl0 : 0 ≤ l) (hl1 : l ≤ 3) (w : World) (hp : w.cell? pl = some (.pointer (some ⟨b, 0, none⟩)))
    (c0 : w.cell? ⟨b, 0, none⟩ = some (.int .i64 s)) (c1 : w.cell? ⟨b, 1, none⟩ = some (.int .i64 l))
    (c2 : w.cell? ⟨b, 2, none⟩ = some (.int .u32 0)) (c3 : w.cell? ⟨b, 3, none⟩ = some (.int .i32 0)) (c5 : w.cell? ⟨b, 5, none⟩ = some x5)
    (f2 : w.frozen? ⟨b, 2, none⟩ = false) (f3 : w.frozen? ⟨b, 3, none⟩ = false) (f5 : w.frozen? ⟨b, 5, none⟩ = false) :
    Calls Tryz.prog 292 #[.pointer (some ⟨b, 2, none⟩), .func (.func 290) #[] #[.pointer (some pl)]] w fun e w' => e = .returned (.tuple #[]) ∧ w' = slowW w b (startI s l) := by
  have hl := run_call_load (P := Tryz.prog) Tryz.func293 (by kernel_rfl) (by kernel_rfl) (by kernel_rfl) .u32 (by kernel_rfl) (w := w.setCell ⟨b, 3, none⟩ (.int .i32 1)) (a := ⟨b, 2, none⟩) (x := 0) ((World.cell?_setCell_other _ ⟨b, 3, none⟩ ⟨b, 2, none⟩ _ (by simp)).trans c2)
  have hp1 : (w.setCell ⟨b, 3, none⟩ (.int .i32 1)).cell? pl = some (.pointer (some ⟨b, 0, none⟩)) := (World.cell?_setCell_other _ ⟨b, 3, none⟩ pl _ (fun h => hpb (by rw [← h]))).trans hp
  have h01 : (w.setCell ⟨b, 3, none⟩ (.int .i32 1)).cell? ⟨b, 0, none⟩ = some (.int .i64 s) := (World.cell?_setCell_other _ ⟨b, 3, none⟩ ⟨b, 0, none⟩ _ (by simp)).trans c0
  have h11 : (w.setCell ⟨b, 3, none⟩ (.int .i32 1)).cell? ⟨b, 1, none⟩ = some (.int .i64 l) := (World.cell?_setCell_other _ ⟨b, 3, none⟩ ⟨b, 1, none⟩ _ (by simp)).trans c1
  have h51 : (w.setCell ⟨b, 3, none⟩ (.int .i32 1)).cell? ⟨b, 5, none⟩ = some x5 := (World.cell?_setCell_other _ ⟨b, 3, none⟩ ⟨b, 5, none⟩ _ (by simp)).trans c5
  have hnot : ∀ (x : Bool) (w : World), (Op.unary .not (.bool x)).run Tryz.prog w = .ok (.bool (!x)) w := fun _ _ => rfl
  unfold slowW
  go_enter_defers Tryz.func292, Tryz.ntmps292
  go_wp2_with (go_at_call 294; refine (lock_free ⟨b, 3, none⟩ _ (by go_simp) (by go_simp)).mono ?_; rintro e w' ⟨rfl, rfl⟩)
  go_wp2_with (first | (go_at_call 290; refine (fill_any b pl hpb x5 s l hs0 hs1 hl0 hl1 _ hp1 h01 h11 h51 (by simp [f5])).mono ?_; rintro e w' ⟨rfl, rfl⟩) | (go_at_call 291; go_in))
  go_wp2
  -- THE DOOR: two deferred calls, the last laid first
  refine leaves_cons (f := 296) (args := #[.pointer (some ⟨b, 2, none⟩), .bool true]) (by simp) (by simp [go_sem]) ?_
  refine (store_deferred ⟨b, 2, none⟩ (.int .u32 0) .returning _ ?_ (by simp [f2])).mono ?_
  · rw [World.cell?_drew]
    refine (World.cell?_setCell_other _ ⟨b, 5, none⟩ ⟨b, 2, none⟩ _ (by simp)).trans ?_
    exact (World.cell?_setCell_other _ ⟨b, 3, none⟩ ⟨b, 2, none⟩ _ (by simp)).trans c2
  rintro e u' w'' ⟨rfl, rfl, rfl⟩
  refine leaves_cons (f := 295) (args := #[.pointer (some ⟨b, 3, none⟩)]) (by simp [settle]) (by simp [go_sem]) ?_
  refine (unlock_deferred ⟨b, 3, none⟩ _ _ ?_ (by simp [f3])).mono ?_
  · refine (World.cell?_setCell_other _ ⟨b, 2, none⟩ ⟨b, 3, none⟩ _ (by simp)).trans ?_
    rw [World.cell?_drew, World.cell?_drew]
    refine (World.cell?_setCell_other _ ⟨b, 5, none⟩ ⟨b, 3, none⟩ _ (by simp)).trans ?_
    exact World.cell?_setCell_same w _ _ c3
  rintro e u' w'' ⟨rfl, rfl, rfl⟩
  simp [Leaves, settle, results, Tryz.results292]
end Go.Proofs.YtmpoffepoafblaaGreat

