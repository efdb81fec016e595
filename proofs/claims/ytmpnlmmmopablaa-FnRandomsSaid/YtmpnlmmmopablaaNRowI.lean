/- The program's RandRow: a row of one's own, filled by the closure. -/
import Derived.Test.YtmpnlmmmopablaaNRowS
namespace Go.Proofs.Ytmpnlmmmopablaa
open Go.RowKit

/- The block g holds m cells that may be written; the first k of them hold the row's numbers. -/
def FillTo (w : World) (g m k : Nat) (xs : List Int) : Prop := g < w.heap.size ∧ (∀ j, j < m → (w.cell? ⟨g, j, none⟩).isSome = true ∧ w.frozen? ⟨g, j, none⟩ = false) ∧ ∀ i, i < k → w.cell? ⟨g, i, none⟩ = some (.int .i64 (intAt xs i))
theorem FillTo.turns {w w' : World} {S : Nat → Prop} {g m k : Nat} {xs : List Int} (h : FillTo w g m k xs) (ht : Turns S w w') (hS : ¬ S g) : FillTo w' g m k xs :=
  ⟨Nat.lt_of_lt_of_le h.1 ht.size, fun j hj => by rw [ht.cell h.1 hS, ht.frozen h.1 hS]; exact h.2.1 j hj, fun i hi => (ht.cell h.1 hS).trans (h.2.2 i hi)⟩
theorem FillTo.put {w : World} {g m k : Nat} {xs : List Int} (h : FillTo w g m k xs) (hk : k < m) : FillTo (w.setCell ⟨g, k, none⟩ (.int .i64 (intAt xs k))) g m (k + 1) xs := by
  generalize hz : intAt xs k = z
  have e1 : w.setCell ⟨g, k, none⟩ (.int .i64 z) = w.setCells g k [.int .i64 z] := rfl
  have hsame : ∀ j, j ≠ k → (w.setCell ⟨g, k, none⟩ (.int .i64 z)).cell? ⟨g, j, none⟩ = w.cell? ⟨g, j, none⟩ := fun j hj => by
    rw [e1]
    exact World.cell?_setCells_out g _ k w ⟨g, j, none⟩ (fun _ _ => by simp; omega)
  have hat : (w.setCell ⟨g, k, none⟩ (.int .i64 z)).cell? ⟨g, k, none⟩ = some (.int .i64 z) := by
    obtain ⟨v, hv⟩ := Option.isSome_iff_exists.1 (h.2.1 k hk).1
    exact World.cell?_setCell_same _ _ _ hv
  refine ⟨by simpa using h.1, fun j hj => ?_, fun i hi => ?_⟩
  · refine ⟨?_, ?_⟩
    · by_cases e : j = k
      · subst e; rw [hat]; rfl
      · rw [hsame j e]; exact (h.2.1 j hj).1
    · rw [e1, World.frozen?_setCells]; exact (h.2.1 j hj).2
  · by_cases e : i = k
    · subst e; rw [hat, hz]
    · rw [hsame i e]; exact h.2.2 i (by omega)
theorem FillTo.own {w : World} {B g : Nat} {xs : List Int} (h : FillTo w g xs.length xs.length xs) (hB : B ≤ g) (hx : xs.length ≤ maxLen) : OwnI B w (.slice (some ⟨g, 0, none⟩) xs.length xs.length) xs :=
  ⟨_, _, rfl, Nat.le_refl _, hx, .inr ⟨g, rfl, hB, fun j hj => (h.2.1 j hj).2, h.1, fun i hi => by rw [Nat.zero_add]; exact h.2.2 i hi⟩⟩
theorem FillTo.of_row {w : World} {B g m : Nat} {cells : List Value} (xs : List Int) (h : w.ownsRow B 3 1 (.slice (some ⟨g, 0, none⟩) m m) m cells) : FillTo w g m 0 xs := by
  have hg := World.ownsRow.lt h g rfl
  refine ⟨hg.2, fun j hj => ⟨?_, World.ownsRow.frozenAt h j⟩, fun i hi => by omega⟩
  rw [World.ownsRow.cellAt h j (by omega)]
  have hl : cells.length = m * 1 := h.1
  simp; omega

set_option maxRecDepth 100000 in
set_option maxHeartbeats 2000000 in
theorem iRow_any (s l f c : Int) (w : World) :
    Calls Try.prog 16 #[.int .i64 s, .int .i64 l, .int .i64 f, .int .i64 c] w fun e w' => ∃ v, e = .returned v ∧ OwnI w.heap.size w' v (rowL s l f c) ∧ Below w.heap.size w w' := by
  have hnot : ∀ (x : Bool) (w : World), (Op.unary .not (.bool x)).run Try.prog w = .ok (.bool (!x)) w := fun _ _ => rfl
  by_cases hB : rowB s l f c = true
  · have hL : rowL s l f c = rowI s l f c.toNat := by unfold rowL; rw [if_pos hB]
    obtain ⟨hp, hc0, hc1, hc2⟩ := rowB_iff.1 hB
    obtain ⟨h0, h1, h2, h3, h4, h5⟩ := placeB_iff.1 hp
    obtain ⟨m, rfl⟩ : ∃ m : Nat, c = (m : Int) := ⟨c.toNat, by omega⟩
    have HP : Hid (∀ k : Nat, k < m → placeB s l (f + (k : Int)) = true) := fun k hk => placeB_iff.2 ⟨h0, h1, h2, h3, by omega, by omega⟩
    obtain ⟨i0, hi, hz0, hz1, hz2⟩ := info_parts info3
    rw [hL]
    simp only [Int.toNat_natCast]
    have hm : m ≤ 100 := by omega
    have hb : (decide (0 ≤ (m : Int)) && decide ((m : Int) ≤ 100)) = true := by simp; omega
    have a3 : ¬ 100000 < f + (m : Int) := by omega
    have q0 : IntKind.i64.wrap (f + (m : Int)) = f + (m : Int) := by rw [IntKind.wrap_i64]; omega
    have hbytes : i0.bytes * m ≤ 281474976710656 := by rw [hz2]; omega
    clear hB hL hc0 hc1
    go_enter Try.func16, Try.ntmps16
    go_wp2_with (first | (go_at_call 30; refine (placeOk_any s l f _).mono ?_; rintro e w' ⟨rfl, hw'⟩; obtain rfl := hw'.symm; rw [hp]) | (go_at_call 27; refine (within_any (m : Int) _ _ _).mono ?_; rintro e w' ⟨rfl, hw'⟩; obtain rfl := hw'.symm; rw [hb]) | (go_at_call 31; refine (rowFrom_any s l f _).mono ?_; rintro e w1 ⟨rfl, hG1, hB1⟩; unfold genV) | (at_make; refine wpList_make_full _ rfl _ _ 28 rfl w1.heap.size 3 i0 (.int .i64 0) 1 Try.underlying28 hi hz0 hz1 .i64 .i64 _ _ m rfl rfl rfl rfl hbytes (by unfold maxLen; omega) (Nat.le_refl _) ?_; intro w2 hown2 hgrow2))
    have HF2 : Hid (FillTo w2 w1.heap.size m 0 (rowI s l f m)) := FillTo.of_row _ hown2
    have hsz1 : w.heap.size + 2 < w1.heap.size := hG1.lt
    have hB2 : Below w1.heap.size w1 w2 := (Below.refl _ w1).grown hgrow2 (Nat.le_refl _) (fun k e => by cases e)
    have HG2 : Hid (Gen w2 w.heap.size s l (f + ((0 : Nat) : Int))) := by
      rw [show f + ((0 : Nat) : Int) = f from by simp]
      exact hG1.turns (S := fun _ => False) (Turns.of_below hB2) id id id
    have HB2 : Hid (Below w.heap.size w w2) := hB1.trans (hB2.mono (by omega))
    clear hown2 hgrow2 hB2 hG1 hB1 hb hw'
    go_loopw [36] (fun i wr => ∃ k : Nat, k ≤ m ∧ i = .int .i64 k ∧ FillTo wr w1.heap.size m k (rowI s l f m) ∧ Gen wr w.heap.size s l (f + (k : Int)) ∧ Below w.heap.size w wr) (fun i _ => m - (intOf i).toNat)
    case atStart => exact ⟨0, Nat.zero_le _, rfl, HF2.out, HG2.out, HB2.out⟩
    case round =>
      obtain ⟨k, hk, rfl, hF, hG, hBr⟩ := hrel
      have HF : Hid (FillTo wr w1.heap.size m k (rowI s l f m)) := hF
      have HG : Hid (Gen wr w.heap.size s l (f + (k : Int))) := hG
      have HB : Hid (Below w.heap.size w wr) := hBr
      clear hF hG hBr
      by_cases hlt : k < m
      · generalize hx : randI s l (f + (k : Int)) = x
        have HX : Hid (randI s l (f + (k : Int)) = x) := hx
        clear hx
        go_wp2_with (go_at_call 36; refine (next_any w.heap.size s l (f + (k : Int)) (HP.out k hlt) _ HG.out).mono ?_; rintro e w3 ⟨rfl, hG3, hT3⟩; have HF3 : Hid (FillTo w3 w1.heap.size m k (rowI s l f m)) := HF.out.turns hT3 (by omega); have hf3 := (HF3.out.2.1 k hlt).2; obtain ⟨v3, hv3⟩ := Option.isSome_iff_exists.1 (HF3.out.2.1 k hlt).1; rw [HX.out]; have HT3 : Hid (Turns (fun k => k = w.heap.size ∨ k = w.heap.size + 2) wr w3) := hT3; have HG3 : Hid (Gen w3 w.heap.size s l (f + (k : Int) + 1)) := hG3; clear hT3 hG3)
        go_roundw
        case rel =>
          refine ⟨k + 1, by omega, by go_num, ?_, ?_, ?_⟩
          · have hF := HF3.out.put hlt
            rw [rowI_at s l f m k hlt, HX.out] at hF
            exact hF
          · rw [show f + ((k + 1 : Nat) : Int) = f + (k : Int) + 1 from by omega]
            exact HG3.out.turns ((Turns.refl (fun j => j = w1.heap.size) w3).setCell (p := ⟨w1.heap.size, k, none⟩) rfl _) (by omega) (by omega) (by omega)
          · exact (HB.out.trans (HT3.out.to_below (fun j hj => by rcases hj with h | h <;> omega) HB.out.size)).setCell (by simp; omega) _
        case measure => simp [intOf]; omega
      · go_wp2
        go_ret
        obtain rfl : k = m := by omega
        have hF := HF.out
        have ho := FillTo.own (B := w.heap.size) (xs := rowI s l f k) (w := wr) (g := w1.heap.size) (by rw [rowI_length]; exact hF) (by omega) (by rw [rowI_length]; unfold maxLen; omega)
        rw [rowI_length] at ho
        exact ⟨_, rfl, ho, HB.out⟩
  · have hL : rowL s l f c = [] := by unfold rowL; rw [if_neg hB]
    rw [hL]
    by_cases hp : placeB s l f = true
    · obtain ⟨h0, h1, h2, h3, h4, h5⟩ := placeB_iff.1 hp
      have hn : ¬ (0 ≤ c ∧ c ≤ 100 ∧ f + c ≤ 100000) := fun h => hB (rowB_iff.2 ⟨hp, h⟩)
      by_cases c0 : 0 ≤ c ∧ c ≤ 100
      · have hb : (decide (0 ≤ c) && decide (c ≤ 100)) = true := by simpa using c0
        obtain ⟨c1, c2⟩ := c0
        have c3 : 100000 < f + c := by omega
        go_enter Try.func16, Try.ntmps16
        go_wp2_with (first | (go_at_call 30; refine (placeOk_any s l f _).mono ?_; rintro e w' ⟨rfl, rfl⟩; rw [hp]) | (go_at_call 27; refine (within_any c _ _ _).mono ?_; rintro e w' ⟨rfl, rfl⟩; rw [hb]))
        go_ret
        exact ⟨_, rfl, OwnI.nil _ _, Below.refl _ _⟩
      · have hb : (decide (0 ≤ c) && decide (c ≤ 100)) = false := by simp; omega
        go_enter Try.func16, Try.ntmps16
        go_wp2_with (first | (go_at_call 30; refine (placeOk_any s l f _).mono ?_; rintro e w' ⟨rfl, rfl⟩; rw [hp]) | (go_at_call 27; refine (within_any c _ _ _).mono ?_; rintro e w' ⟨rfl, rfl⟩; rw [hb]))
        go_ret
        exact ⟨_, rfl, OwnI.nil _ _, Below.refl _ _⟩
    · have hp' : placeB s l f = false := by simpa using hp
      go_enter Try.func16, Try.ntmps16
      go_wp2_with (go_at_call 30; refine (placeOk_any s l f _).mono ?_; rintro e w' ⟨rfl, rfl⟩; rw [hp'])
      go_ret
      exact ⟨_, rfl, OwnI.nil _ _, Below.refl _ _⟩
end Go.Proofs.Ytmpnlmmmopablaa
