/- NOnce, NFill, NDo -/
import Derived.Test.YtbljfphdghfkfaaGreatDoorModelsCardG09
import Derived.Defers
import Derived.Laws.Pointers
import Derived.Laws.LoneSync
import Derived.Laws.NewBlocks
import Derived.RegionTactic
import Derived.RegionCalls
import Derived.Deep.RegionHeld3
import Derived.Test.YtbljfphdghfkfaaGreatDoorModelsCardG00
/- The library's sync.Once, one goroutine: its parts, each a contract of its own. -/
namespace Go.Proofs.YtbljfphdghfkfaaGreatDoor
open Go.RowKit
theorem race_disable (w : World) : (callFunc 145 #[]).run Tryz.prog w = .ok (.value (.tuple #[])) w := run_call_mark0 Tryz.func145 (by kernel_rfl) (by kernel_rfl) (by kernel_rfl) .disable (by kernel_rfl) w
theorem race_enable (w : World) : (callFunc 147 #[]).run Tryz.prog w = .ok (.value (.tuple #[])) w := run_call_mark0 Tryz.func147 (by kernel_rfl) (by kernel_rfl) (by kernel_rfl) .enable (by kernel_rfl) w
theorem race_acquire (a : Addr) (w : World) : (callFunc 148 #[.pointer (some a)]).run Tryz.prog w = .ok (.value (.tuple #[])) w := run_call_marked Tryz.func148 (by kernel_rfl) (by kernel_rfl) (by kernel_rfl) .acquire (by kernel_rfl) a w
theorem race_release (a : Addr) (w : World) : (callFunc 150 #[.pointer (some a)]).run Tryz.prog w = .ok (.value (.tuple #[])) w := run_call_marked Tryz.func150 (by kernel_rfl) (by kernel_rfl) (by kernel_rfl) .releaseMerge (by kernel_rfl) a w
set_option maxRecDepth 100000 in
theorem store_deferred (a : Addr) (x : Value) (u : FrameMode) (w : World) (hc : w.cell? a = some x) (hz : w.frozen? a = false) :
  CallsD Tryz.prog 140 #[.pointer (some a), .bool true] u w fun e u' w' => u' = u ∧ (e = .returned (.tuple #[]) ∧ w' = w.drew.setCell a (.int .u32 1)) := by
 have hc' : w.drew.cell? a = some x := by go_simp
 have hz' : w.drew.frozen? a = false := by go_simp
 have hst := run_call_store (P := Tryz.prog) Tryz.func143 (by kernel_rfl) (by kernel_rfl) (by kernel_rfl) (by kernel_rfl) (k := .u32) (y := 1) hc' hz'
 go_enter_d Tryz.func140, Tryz.ntmps140
 go_wp2
 go_region_calls
 all_goals (go_end0; exact ⟨rfl, rfl⟩)
set_option maxRecDepth 100000 in
theorem unlock_deferred (a : Addr) (u : FrameMode) (w : World) (hc : w.cell? a = some (.int .i32 1)) (hz : w.frozen? a = false) :
  CallsD Tryz.prog 139 #[.pointer (some a)] u w fun e u' w' => u' = u ∧ (e = .returned (.tuple #[]) ∧ w' = w.setCell a (.int .i32 0)) := by
 have hd := race_disable
 have he := race_enable
 have hr := race_release
 have hadd := run_call_add (P := Tryz.prog) Tryz.func151 (by kernel_rfl) (by kernel_rfl) (by kernel_rfl) .i32 (by kernel_rfl) (y := -1) (s := 0) hc hz (by simp [go_sem]; rfl)
 have hcv := run_convert_to_unsafe (P := Tryz.prog) (src := 230) (dst := 179) Tryz.underlying230 Tryz.underlying179 (by kernel_rfl) hc
 go_enter_d Tryz.func139, Tryz.ntmps139
 go_wp2
 go_end0
 go_wp2
 go_end0
 exact ⟨rfl, rfl⟩
set_option maxRecDepth 100000 in
theorem lock_free (a : Addr) (w : World) (hc : w.cell? a = some (.int .i32 0)) (hz : w.frozen? a = false) :
  Calls Tryz.prog 138 #[.pointer (some a)] w fun e w' => e = .returned (.tuple #[]) ∧ w' = w.setCell a (.int .i32 1) := by
 have hd := race_disable
 have he := race_enable
 have ha := race_acquire
 have hcas := run_call_cas_hit (P := Tryz.prog) Tryz.func146 (by kernel_rfl) (by kernel_rfl) (by kernel_rfl) .i32 (by kernel_rfl) (y := 1) hc hz
 have hc' : (w.setCell a (.int .i32 1)).cell? a = some (.int .i32 1) := World.cell?_setCell_same w a _ hc
 have hcv := run_convert_to_unsafe (P := Tryz.prog) (src := 230) (dst := 179) Tryz.underlying230 Tryz.underlying179 (by kernel_rfl) hc'
 go_enter Tryz.func138, Tryz.ntmps138
 go_wp2
 first | go_end0 | (simp only [Exit.inBlock, Exit.then]; refine bodyPost_ret (results_none rfl _ _ _) rfl ?_) | refine bodyPost_ret (results_none rfl _ _ _) rfl ?_
 go_wp2
 go_end0
 exact ⟨rfl, rfl⟩
end Go.Proofs.YtbljfphdghfkfaaGreatDoor

/- What is laid once: the function that is handed to Do. -/
namespace Go.Proofs.YtbljfphdghfkfaaGreatDoor
open Go.RowKit
set_option maxRecDepth 100000 in
set_option maxHeartbeats 1600000 in
theorem fill_any (b : Nat) (pl : Addr) (hpb : ¬ b = pl.block) (x5 : Value) (s l : Int) (hs0 : 0 ≤ s) (hs1 : s ≤ 999999) (hl0 : 0 ≤ l) (hl1 : l ≤ 3) (w : World)
  (hp : w.cell? pl = some (.pointer (some ⟨b, 0, none⟩))) (h0 : w.cell? ⟨b, 0, none⟩ = some (.int .i64 s)) (h1 : w.cell? ⟨b, 1, none⟩ = some (.int .i64 l))
  (h5 : w.cell? ⟨b, 5, none⟩ = some x5) (f5 : w.frozen? ⟨b, 5, none⟩ = false) :
  Calls Tryz.prog 134 #[.pointer (some pl)] w fun e w' => e = .returned (.tuple #[]) ∧ w' = w.drew.setCell ⟨b, 5, none⟩ (.int .i64 (startI s l)) := by
 have e0 : Int.tmod (4 * s + l + 1) 2147483647 = 4 * s + l + 1 := by rw [tmod_pos (by omega)]; omega
 have e1 : (4 * s + l + 1) % 2147483647 = 4 * s + l + 1 := by omega
 have e2 : mixed (4 * s + l + 1) = startI s l := by simp only [mixed, startI, e1]; rw [if_pos (numB_iff.2 (by omega))]
 have q0 : IntKind.i64.wrap (4 * s) = 4 * s := by rw [IntKind.wrap_i64]; omega
 have q1 : IntKind.i64.wrap (4 * s + l) = 4 * s + l := by rw [IntKind.wrap_i64]; omega
 have q2 : IntKind.i64.wrap (4 * s + l + 1) = 4 * s + l + 1 := by rw [IntKind.wrap_i64]; omega
 have hne : ∀ v, (w.drew.setCell ⟨b, 5, none⟩ v).cell? pl = w.drew.cell? pl := fun v => World.cell?_setCell_other _ ⟨b, 5, none⟩ pl _ (fun h => hpb (by rw [← h]))
 have hn0 : ∀ v, (w.setCell ⟨b, 5, none⟩ v).cell? ⟨b, 0, none⟩ = w.cell? ⟨b, 0, none⟩ := fun v => World.cell?_setCell_other _ ⟨b, 5, none⟩ ⟨b, 0, none⟩ _ (by simp)
 have hn1 : ∀ v, (w.setCell ⟨b, 5, none⟩ v).cell? ⟨b, 1, none⟩ = w.cell? ⟨b, 1, none⟩ := fun v => World.cell?_setCell_other _ ⟨b, 5, none⟩ ⟨b, 1, none⟩ _ (by simp)
 go_enter Tryz.func134, Tryz.ntmps134
 go_wp2_with fail
 go_region_held3 (fun W => W.cell? pl = some (.pointer (some ⟨b, 0, none⟩)) ∧ W.cell? ⟨b, 0, none⟩ = some (.int .i64 s) ∧ W.cell? ⟨b, 1, none⟩ = some (.int .i64 l)) (first | go_keep | ((repeat' apply And.intro) <;> first | (go_keep; done) | (rw [hne]; go_keep; done) | (simp only [World.cell?_drew, hn0, hn1]; assumption)))
  (first | (go_at_call 131; refine (iMixed_any _ _).mono ?_; rintro e w' ⟨rfl, rfl⟩; (try rw [e0]); (try rw [e2])))
 all_goals (go_end0; exact ⟨rfl, rfl⟩)
end Go.Proofs.YtbljfphdghfkfaaGreatDoor

/- The library's sync.Once in the struct of a call: done the first time, and not again. -/
namespace Go.Proofs.YtbljfphdghfkfaaGreatDoor
open Go.RowKit
def slowW (w : World) (b : Nat) (st : Int) : World := ((((w.setCell ⟨b, 3, none⟩ (.int .i32 1)).setCell ⟨b, 5, none⟩ (.int .i64 st)).drew.drew.setCell ⟨b, 2, none⟩ (.int .u32 1)).setCell ⟨b, 3, none⟩ (.int .i32 0))
set_option maxRecDepth 100000 in
set_option maxHeartbeats 1600000 in
theorem slow_any (b : Nat) (pl : Addr) (hpb : ¬ b = pl.block) (x5 : Value) (s l : Int) (hs0 : 0 ≤ s) (hs1 : s ≤ 999999) (hl0 : 0 ≤ l) (hl1 : l ≤ 3) (w : World) (hp : w.cell? pl = some (.pointer (some ⟨b, 0, none⟩)))
  (c0 : w.cell? ⟨b, 0, none⟩ = some (.int .i64 s)) (c1 : w.cell? ⟨b, 1, none⟩ = some (.int .i64 l))
  (c2 : w.cell? ⟨b, 2, none⟩ = some (.int .u32 0)) (c3 : w.cell? ⟨b, 3, none⟩ = some (.int .i32 0)) (c5 : w.cell? ⟨b, 5, none⟩ = some x5)
  (f2 : w.frozen? ⟨b, 2, none⟩ = false) (f3 : w.frozen? ⟨b, 3, none⟩ = false) (f5 : w.frozen? ⟨b, 5, none⟩ = false) :
  Calls Tryz.prog 136 #[.pointer (some ⟨b, 2, none⟩), .func (.func 134) #[] #[.pointer (some pl)]] w fun e w' => e = .returned (.tuple #[]) ∧ w' = slowW w b (startI s l) := by
 have hl := run_call_load (P := Tryz.prog) Tryz.func137 (by kernel_rfl) (by kernel_rfl) (by kernel_rfl) .u32 (by kernel_rfl) (w := w.setCell ⟨b, 3, none⟩ (.int .i32 1)) (a := ⟨b, 2, none⟩) (x := 0) ((World.cell?_setCell_other _ ⟨b, 3, none⟩ ⟨b, 2, none⟩ _ (by simp)).trans c2)
 have hp1 : (w.setCell ⟨b, 3, none⟩ (.int .i32 1)).cell? pl = some (.pointer (some ⟨b, 0, none⟩)) := (World.cell?_setCell_other _ ⟨b, 3, none⟩ pl _ (fun h => hpb (by rw [← h]))).trans hp
 have h01 : (w.setCell ⟨b, 3, none⟩ (.int .i32 1)).cell? ⟨b, 0, none⟩ = some (.int .i64 s) := (World.cell?_setCell_other _ ⟨b, 3, none⟩ ⟨b, 0, none⟩ _ (by simp)).trans c0
 have h11 : (w.setCell ⟨b, 3, none⟩ (.int .i32 1)).cell? ⟨b, 1, none⟩ = some (.int .i64 l) := (World.cell?_setCell_other _ ⟨b, 3, none⟩ ⟨b, 1, none⟩ _ (by simp)).trans c1
 have h51 : (w.setCell ⟨b, 3, none⟩ (.int .i32 1)).cell? ⟨b, 5, none⟩ = some x5 := (World.cell?_setCell_other _ ⟨b, 3, none⟩ ⟨b, 5, none⟩ _ (by simp)).trans c5
 have hnot : ∀ (x : Bool) (w : World), (Op.unary .not (.bool x)).run Tryz.prog w = .ok (.bool (!x)) w := fun _ _ => rfl
 unfold slowW
 go_enter_defers Tryz.func136, Tryz.ntmps136
 go_wp2_with (go_at_call 138; refine (lock_free ⟨b, 3, none⟩ _ (by go_simp) (by go_simp)).mono ?_; rintro e w' ⟨rfl, rfl⟩)
 go_wp2_with (first | (go_at_call 134; refine (fill_any b pl hpb x5 s l hs0 hs1 hl0 hl1 _ hp1 h01 h11 h51 (by simp [f5])).mono ?_; rintro e w' ⟨rfl, rfl⟩) | (go_at_call 135; go_in))
 go_wp2
 -- THE DOOR: two deferred calls, the last laid first
 refine leaves_cons (f := 140) (args := #[.pointer (some ⟨b, 2, none⟩), .bool true]) (by simp) (by simp [go_sem]) ?_
 refine (store_deferred ⟨b, 2, none⟩ (.int .u32 0) .returning _ ?_ (by simp [f2])).mono ?_
 ·rw [World.cell?_drew]
  refine (World.cell?_setCell_other _ ⟨b, 5, none⟩ ⟨b, 2, none⟩ _ (by simp)).trans ?_
  exact (World.cell?_setCell_other _ ⟨b, 3, none⟩ ⟨b, 2, none⟩ _ (by simp)).trans c2
 rintro e u' w'' ⟨rfl, rfl, rfl⟩
 refine leaves_cons (f := 139) (args := #[.pointer (some ⟨b, 3, none⟩)]) (by simp [settle]) (by simp [go_sem]) ?_
 refine (unlock_deferred ⟨b, 3, none⟩ _ _ ?_ (by simp [f3])).mono ?_
 ·refine (World.cell?_setCell_other _ ⟨b, 2, none⟩ ⟨b, 3, none⟩ _ (by simp)).trans ?_
  rw [World.cell?_drew, World.cell?_drew]
  refine (World.cell?_setCell_other _ ⟨b, 5, none⟩ ⟨b, 3, none⟩ _ (by simp)).trans ?_
  exact World.cell?_setCell_same w _ _ c3
 rintro e u' w'' ⟨rfl, rfl, rfl⟩
 simp [Leaves, settle, results, Tryz.results136]
end Go.Proofs.YtbljfphdghfkfaaGreatDoor

