/- The program's RandRow where all is in its bounds: the row's own block; sameInts. -/
import Derived.Test.YtmpnlmmmopablaaNRowI
namespace Go.Proofs.Ytmpnlmmmopablaa
open Go.RowKit

set_option maxRecDepth 100000 in
set_option maxHeartbeats 2000000 in
theorem iRow_ok (s l f : Int) (m : Nat) (w : World) (hB : rowB s l f (m : Int) = true) :
    Calls Try.prog 16 #[.int .i64 s, .int .i64 l, .int .i64 f, .int .i64 (m : Int)] w fun e w' => ∃ g, e = .returned (.slice (some ⟨g, 0, none⟩) m m) ∧ w.heap.size ≤ g ∧ FillTo w' g m m (rowI s l f m) ∧ Below w.heap.size w w' := by
  have hnot : ∀ (x : Bool) (w : World), (Op.unary .not (.bool x)).run Try.prog w = .ok (.bool (!x)) w := fun _ _ => rfl
  obtain ⟨hp, hc0, hc1, hc2⟩ := rowB_iff.1 hB
  obtain ⟨h0, h1, h2, h3, h4, h5⟩ := placeB_iff.1 hp
  have HP : Hid (∀ k : Nat, k < m → placeB s l (f + (k : Int)) = true) := fun k hk => placeB_iff.2 ⟨h0, h1, h2, h3, by omega, by omega⟩
  obtain ⟨i0, hi, hz0, hz1, hz2⟩ := info_parts info3
  have hm : m ≤ 100 := by omega
  have hb : (decide (0 ≤ (m : Int)) && decide ((m : Int) ≤ 100)) = true := by simp; omega
  have a3 : ¬ 100000 < f + (m : Int) := by omega
  have q0 : IntKind.i64.wrap (f + (m : Int)) = f + (m : Int) := by rw [IntKind.wrap_i64]; omega
  have hbytes : i0.bytes * m ≤ 281474976710656 := by rw [hz2]; omega
  clear hB hc0 hc1
  go_enter Try.func16, Try.ntmps16
  go_wp2_with (first | (go_at_call 30; refine (placeOk_any s l f _).mono ?_; rintro e w' ⟨rfl, hw'⟩; obtain rfl := hw'.symm; rw [hp]) | (go_at_call 27; refine (within_any (m : Int) _ _ _).mono ?_; rintro e w' ⟨rfl, hw'⟩; obtain rfl := hw'.symm; rw [hb]) | (go_at_call 31; refine (rowFrom_any s l f _).mono ?_; rintro e w1 ⟨rfl, hG1, hB1⟩; unfold genV) | (at_make; refine wpList_make_full _ rfl _ _ 28 rfl w1.heap.size 3 i0 (.int .i64 0) 1 Try.underlying28 hi hz0 hz1 .i64 .i64 _ _ m rfl rfl rfl rfl hbytes (by unfold maxLen; omega) (Nat.le_refl _) ?_; intro w2 hown2 hgrow2))
  have HF2 : Hid (FillTo w2 w1.heap.size m 0 (rowI s l f m)) := FillTo.of_row _ hown2
  have hsz1 : w.heap.size + 2 < w1.heap.size := hG1.lt
  have hB2 : Below w1.heap.size w1 w2 := (Below.refl _ w1).grown hgrow2 (Nat.le_refl _) (fun k e => by cases e)
  have HG2 : Hid (Gen w2 w.heap.size s l (f + ((0 : Nat) : Int))) := by
    rw [show f + ((0 : Nat) : Int) = f from by simp]
    exact hG1.turns (S := fun _ => False) (Turns.of_below hB2) id id id
  have HB2 : Hid (Below w.heap.size w w2) := hB1.trans (hB2.mono (by omega))
  clear hown2 hgrow2 hB2 hG1 hB1 hb hw'
  go_loopw [36] (fun i wr => ∃ k : Nat, k ≤ m ∧ i = .int .i64 k ∧ FillTo wr w1.heap.size m k (rowI s l f m) ∧ Gen wr w.heap.size s l (f + (k : Int)) ∧ Below w.heap.size w wr) (fun i _ => m - (intOf i).toNat)
  case atStart => exact ⟨0, Nat.zero_le _, rfl, HF2.out, HG2.out, HB2.out⟩
  case round =>
    obtain ⟨k, hk, rfl, hF, hG, hBr⟩ := hrel
    have HF : Hid (FillTo wr w1.heap.size m k (rowI s l f m)) := hF
    have HG : Hid (Gen wr w.heap.size s l (f + (k : Int))) := hG
    have HB : Hid (Below w.heap.size w wr) := hBr
    clear hF hG hBr
    by_cases hlt : k < m
    · generalize hx : randI s l (f + (k : Int)) = x
      have HX : Hid (randI s l (f + (k : Int)) = x) := hx
      clear hx
      go_wp2_with (go_at_call 36; refine (next_any w.heap.size s l (f + (k : Int)) (HP.out k hlt) _ HG.out).mono ?_; rintro e w3 ⟨rfl, hG3, hT3⟩; have HF3 : Hid (FillTo w3 w1.heap.size m k (rowI s l f m)) := HF.out.turns hT3 (by omega); have hf3 := (HF3.out.2.1 k hlt).2; obtain ⟨v3, hv3⟩ := Option.isSome_iff_exists.1 (HF3.out.2.1 k hlt).1; rw [HX.out]; have HT3 : Hid (Turns (fun k => k = w.heap.size ∨ k = w.heap.size + 2) wr w3) := hT3; have HG3 : Hid (Gen w3 w.heap.size s l (f + (k : Int) + 1)) := hG3; clear hT3 hG3)
      go_roundw
      case rel =>
        refine ⟨k + 1, by omega, by go_num, ?_, ?_, ?_⟩
        · have hF := HF3.out.put hlt
          rw [rowI_at s l f m k hlt, HX.out] at hF
          exact hF
        · rw [show f + ((k + 1 : Nat) : Int) = f + (k : Int) + 1 from by omega]
          exact HG3.out.turns ((Turns.refl (fun j => j = w1.heap.size) w3).setCell (p := ⟨w1.heap.size, k, none⟩) rfl _) (by omega) (by omega) (by omega)
        · exact (HB.out.trans (HT3.out.to_below (fun j hj => by rcases hj with h | h <;> omega) HB.out.size)).setCell (by simp; omega) _
      case measure => simp [intOf]; omega
    · go_wp2
      go_ret
      obtain rfl : k = m := by omega
      exact ⟨_, rfl, by omega, HF.out, HB.out⟩

/- No row where something is out of its bounds. -/
theorem iRow_no (s l f c : Int) (w : World) (hB : ¬ rowB s l f c = true) :
    Calls Try.prog 16 #[.int .i64 s, .int .i64 l, .int .i64 f, .int .i64 c] w fun e w' => (∃ a cap, e = .returned (.slice a 0 cap)) ∧ Below w.heap.size w w' := by
  refine (iRow_any s l f c w).mono ?_
  rintro e w' ⟨v, rfl, ⟨a, cap, rfl, _⟩, hb⟩
  have : rowL s l f c = [] := by unfold rowL; rw [if_neg hB]
  rw [this]
  exact ⟨⟨a, cap, rfl⟩, hb⟩
theorem FillTo.isI {w : World} {g m : Nat} {xs : List Int} (h : FillTo w g m m xs) (hm : xs.length = m) (hx : m ≤ maxLen) : IsI w (.slice (some ⟨g, 0, none⟩) m m) xs := by
  subst hm
  exact (FillTo.own (B := 0) h (Nat.zero_le _) hx).isI
theorem FillTo.below {w w' : World} {B g m k : Nat} {xs : List Int} (h : FillTo w g m k xs) (hb : Below B w w') (hB : g < B) : FillTo w' g m k xs :=
  ⟨Nat.lt_of_lt_of_le h.1 hb.size, fun j hj => by rw [hb.cell (p := ⟨g, j, none⟩) hB, hb.frozen (p := ⟨g, j, none⟩) hB]; exact h.2.1 j hj, fun i hi => (hb.cell hB).trans (h.2.2 i hi)⟩
theorem FillTo.cells {w : World} {g m : Nat} {xs : List Int} (h : FillTo w g m m xs) (hm : xs.length = m) : ∀ j u, (intCells xs)[j]? = some u → w.cell? ((⟨g, 0, none⟩ : Addr).add j) = some u := by
  intro j u hu
  have hj : j < xs.length := by
    by_cases hj : j < xs.length
    · exact hj
    · rw [List.getElem?_eq_none (by rw [intCells_length]; omega)] at hu
      cases hu
  have h1 := h.2.2 j (by omega)
  have h2 : (⟨g, 0, none⟩ : Addr).add j = ⟨g, j, none⟩ := by unfold Addr.add; split <;> simp_all
  rw [h2, h1]
  simp [intCells, hj] at hu
  simp [intAt, hj, hu]
theorem intCells_one {l : List Int} : ∀ u ∈ intCells l, u.oneCell' = true := by
  intro u hu
  simp [intCells] at hu
  obtain ⟨x, _, rfl⟩ := hu
  rfl

set_option maxHeartbeats 2000000 in
theorem sameI_same (x y : Value) (l : List Int) (w : World) (hl : l.length ≤ 4611686018427387904) (hx : IsI w x l) (hy : IsI w y l) :
    Calls Try.prog 24 #[x, y] w fun e w' => e = .returned (.bool true) ∧ Below w.heap.size w w' := by
  obtain ⟨a, cap, rfl, h1, h2, h⟩ := hx
  obtain ⟨a', cap', rfl, h1', h2', h'⟩ := hy
  clear h1 h2 h1' h2'
  by_cases hz : l = []
  · subst hz
    clear h h'
    go_enter Try.func24, Try.ntmps24
    go_wp2
    go_loop [5] (fun i => i = .int .i64 0) (fun _ => 0)
    case atStart => rfl
    case round =>
      subst hrel
      go_wp2
      go_ret
      exact ⟨rfl, Below.refl _ _⟩
  · obtain ⟨b, off, rfl, hb, hc⟩ := h.resolve_left hz
    obtain ⟨b', off', rfl, hb', hc'⟩ := h'.resolve_left hz
    clear h h' hz
    go_enter Try.func24, Try.ntmps24
    go_wp2
    go_loopw [5] (fun i wr => ∃ k : Nat, k ≤ l.length ∧ i = .int .i64 k ∧ Below w.heap.size w wr) (fun i _ => l.length - (intOf i).toNat)
    case atStart => exact ⟨0, Nat.zero_le _, rfl, Below.refl _ _⟩
    case round =>
      obtain ⟨k, hk, rfl, hB⟩ := hrel
      have HB : Hid (Below w.heap.size w wr) := hB
      by_cases hlt : k < l.length
      · have f0 := (hB.cell (p := ⟨b, off + k, none⟩) hb).trans (hc k hlt)
        have e0 := (hB.cell (p := ⟨b', off' + k, none⟩) hb').trans (hc' k hlt)
        generalize intAt l k = z at f0 e0
        clear hB hc hc'
        go_wp2_with fail
        go_region_held3 (fun W => W.cell? ⟨b, off + k, none⟩ = some (.int .i64 z) ∧ W.cell? ⟨b', off' + k, none⟩ = some (.int .i64 z)) ((repeat' apply And.intro) <;> go_keep) (fail)
        go_wp2
        go_roundw
        case rel => exact ⟨k + 1, by omega, by go_num, HB.out.drew⟩
        case measure => simp [intOf]; omega
      · clear hB hc hc'
        go_wp2
        go_ret
        exact ⟨rfl, HB.out⟩

end Go.Proofs.Ytmpnlmmmopablaa
