/- sameEvents, where both lists are the same. -/
import Derived.Test.YteecpandpkicmaaEvs
import Derived.Deep.RegionHeld3
import Derived.Laws.StructEq
namespace Go.Proofs.Yteecpandpkicmaa
open Go.RowKit
set_option maxHeartbeats 4000000 in
theorem sameE_same (x y : Value) (l : List Ev) (w : World) (hl : l.length ≤ 1048577) (hx : IsEvs w x l) (hy : IsEvs w y l) :
    Calls Try.prog 8 #[x, y] w fun e w' => e = .returned (.bool true) ∧ Below w.heap.size w w' := by
  obtain ⟨a, cap, rfl, h1, h2, h⟩ := hx
  obtain ⟨a', cap', rfl, h1', h2', h'⟩ := hy
  clear h1 h2 h1' h2'
  by_cases hz : l = []
  · subst hz
    clear h h'
    go_enter Try.func8, Try.ntmps8
    go_wp2
    go_loop [5] (fun i => i = .int .i64 0) (fun _ => 0)
    case atStart => rfl
    case round =>
      subst hrel
      go_wp2
      go_ret
      exact ⟨rfl, Below.refl _ _⟩
  · obtain ⟨b, off, rfl, hb, hc⟩ := h.resolve_left hz
    obtain ⟨b', off', rfl, hb', hc'⟩ := h'.resolve_left hz
    have HC : Hid (∀ i, i < l.length → Ev.In w b (off + i * 7) (evAt l i)) := hc
    have HC' : Hid (∀ i, i < l.length → Ev.In w b' (off' + i * 7) (evAt l i)) := hc'
    clear h h' hz hc hc'
    go_enter Try.func8, Try.ntmps8
    go_wp2
    go_loopw [5] (fun i wr => ∃ k : Nat, k ≤ l.length ∧ i = .int .i64 k ∧ Below w.heap.size w wr) (fun i _ => l.length - (intOf i).toNat)
    case atStart => exact ⟨0, Nat.zero_le _, rfl, Below.refl _ _⟩
    case round =>
      obtain ⟨k, hk, rfl, hB⟩ := hrel
      have HB : Hid (Below w.heap.size w wr) := hB
      by_cases hlt : k < l.length
      · obtain ⟨f0, f1, f2, f3, f4, f5, f6⟩ := (HC.out k hlt).below hB hb
        obtain ⟨g0, g1, g2, g3, g4, g5, g6⟩ := (HC'.out k hlt).below hB hb'
        clear hB
        generalize (evAt l k).t = t at f0 g0
        generalize (evAt l k).s = s at f1 g1
        generalize (evAt l k).q = q at f2 g2
        generalize (evAt l k).d = d at f3 g3
        generalize (evAt l k).k = kk at f4 g4
        generalize (evAt l k).v = v at f5 g5
        generalize (evAt l k).g = g at f6 g6
        go_wp2_with fail
        go_region_held3 (fun W => W.cell? ⟨b, off + k * 7, none⟩ = some (.int .i64 t) ∧ W.cell? ⟨b, off + k * 7 + 1, none⟩ = some (.int .i64 s) ∧ W.cell? ⟨b, off + k * 7 + 2, none⟩ = some (.int .i64 q) ∧ W.cell? ⟨b, off + k * 7 + 3, none⟩ = some (.int .i64 d) ∧ W.cell? ⟨b, off + k * 7 + 4, none⟩ = some (.int .i64 kk) ∧ W.cell? ⟨b, off + k * 7 + 5, none⟩ = some (.int .i64 v) ∧ W.cell? ⟨b, off + k * 7 + 6, none⟩ = some (.int .i64 g) ∧ W.cell? ⟨b', off' + k * 7, none⟩ = some (.int .i64 t) ∧ W.cell? ⟨b', off' + k * 7 + 1, none⟩ = some (.int .i64 s) ∧ W.cell? ⟨b', off' + k * 7 + 2, none⟩ = some (.int .i64 q) ∧ W.cell? ⟨b', off' + k * 7 + 3, none⟩ = some (.int .i64 d) ∧ W.cell? ⟨b', off' + k * 7 + 4, none⟩ = some (.int .i64 kk) ∧ W.cell? ⟨b', off' + k * 7 + 5, none⟩ = some (.int .i64 v) ∧ W.cell? ⟨b', off' + k * 7 + 6, none⟩ = some (.int .i64 g)) ((repeat' apply And.intro) <;> go_keep) (fail)
        go_wp2
        go_roundw
        case rel => exact ⟨k + 1, by omega, by go_num, HB.out.drew⟩
        case measure => simp [intOf]; omega
      · clear hB
        go_wp2
        go_ret
        exact ⟨rfl, HB.out⟩
end Go.Proofs.Yteecpandpkicmaa
