/- At every code of at most 2^47 - 4096 bytes (the form's own reach) a row of numbers is as two rows, and the code reads as it did; no condition. -/
import Derived.Test.YtmpnlmmmopablaaNRowJ
import Derived.Test.YtmpnlmmmopablaaNDrawR
import Derived.Test.YtmpnlmmmopablaaNOpen
namespace Go.Proofs.Ytmpnlmmmopablaa.LawRows
open Go.ChangeShapes Go.WideShapes Go.ChangeAt Go.RowKit Go.Proofs.Ytmpnlmmmopablaa

theorem row_empty (w : World) : (w.alloc (.cells #[] 3)).ownsRow w.heap.size 3 1 (.slice (some ⟨w.heap.size, 0, none⟩) 0 0) 0 [] :=
  ⟨rfl, .inr ⟨w.heap.size, 0, #[], rfl, Nat.le_refl _, (MapKept.heap_alloc w _).1, Nat.le_refl _, Nat.zero_le _, rfl, rfl⟩⟩
theorem rowI_split (s l f : Int) (k j : Nat) : rowI s l f k ++ rowI s l (f + (k : Int)) j = rowI s l f (k + j) := by
  induction j with
  | zero => simp [rowI]
  | succ j ih => rw [rowI_succ, ← List.append_assoc, ih, show k + (j + 1) = (k + j) + 1 from by omega, rowI_succ, show f + (k : Int) + (j : Int) = f + ((k + j : Nat) : Int) from by omega]

theorem row_is {w : World} {B : Nat} {v : Value} {s l f : Int} {k j m : Nat} (h : w.ownsRow B 3 1 v (0 + k + j) ([] ++ intCells (rowI s l f k) ++ intCells (rowI s l (f + (k : Int)) j))) (hm : k + j = m) : IsI w v (rowI s l f m) := by
  subst hm
  rw [List.nil_append, ← intCells_append, rowI_split, Nat.zero_add] at h
  refine (OwnI.of_row (B := B) ?_).isI
  rw [rowI_length]
  exact h

set_option maxRecDepth 100000 in
set_option maxHeartbeats 4000000 in
theorem walk (a : Option Addr) (n cap : Nat) (w : World) (hn : n ≤ 140737488351232) (hC : CodeIn w w.heap.size a n) :
    Calls Try.prog 8 #[.slice a n cap] w fun e w' => e = .returned (.bool true) ∧ Below w.heap.size w w' := by
  have HC : Hid (CodeIn w w.heap.size a n) := hC
  clear hC
  obtain ⟨i0, hi, hz0, hz1, hz2⟩ := info_parts info3
  have e0 : rnd 0 0 0 = 1291394886 := by decide +kernel
  have e1 : mixed 1 = 48271 := by decide +kernel
  have e2 : mixed 48271 = 182605794 := by decide +kernel
  have e3 : mixed 182605794 = 1291394886 := by decide +kernel
  have e4 : mixed 3 = 144813 := by decide +kernel
  go_enter Try.func8, Try.ntmps8
  go_wp2_with fail
  refine (drawRow_any a n cap _ (by omega) HC.out).mono ?_
  rintro e w1 ⟨s, l, f, c, rfl, hB1⟩
  have HB1 : Hid (Below w.heap.size w w1) := hB1
  clear hB1 HC
  by_cases hR : rowB s l f c = true
  · obtain ⟨hp, hc0, hc1, hc2⟩ := rowB_iff.1 hR
    obtain ⟨p0, p1, p2, p3, p4, p5⟩ := placeB_iff.1 hp
    obtain ⟨m, rfl⟩ : ∃ m : Nat, c = (m : Int) := ⟨c.toNat, by omega⟩
    have HR : Hid (rowB s l f (m : Int) = true) := hR
    clear hR hp
    go_wp2_with fail
    refine (iRow_ok s l f m _ HR.out).mono ?_
    rintro e w2 ⟨g, rfl, hg, hF2, hB2⟩
    have HF2 : Hid (FillTo w2 g m m (rowI s l f m)) := hF2
    have HB2 : Hid (Below w.heap.size w w2) := HB1.out.trans (hB2.mono HB1.out.size)
    have hg2 : g < w2.heap.size := hF2.1
    clear hF2 hB2
    by_cases hm0 : m = 0
    · subst hm0
      go_wp2_with (first | (go_at_call 12; refine (iRand_any 0 0 0 _).mono ?_; rintro e w3 ⟨rfl, hB3⟩; have HB3 : Hid (Below w2.heap.size w2 w3) := hB3; clear hB3; rw [e0]) | (go_at_call_of 10 (3 : Int); refine (iMixed_any 3 _).mono ?_; rintro e w' ⟨rfl, hw'⟩; obtain rfl := hw'.symm; rw [e4]) | (go_at_call 10; refine (iMixed_any _ _).mono ?_; rintro e w' ⟨rfl, hw'⟩; obtain rfl := hw'.symm; first | rw [e1] | rw [e2] | rw [e3] | rw [e4]))
      go_ret
      exact ⟨rfl, HB2.out.trans (HB3.out.mono HB2.out.size)⟩
    · have hmB : ((m : Int) == 0) = false := by simp; omega
      generalize hk : m / 2 = k
      have hk0 : k ≤ m := by omega
      have hk1 : 2 * k ≤ m := by omega
      have hkI : Int.tdiv (m : Int) 2 = (k : Int) := by rw [Int.tdiv_eq_ediv_of_nonneg (by omega)]; omega
      have hkI' : (m : Int) / 2 = (k : Int) := by omega
      have q0 : IntKind.i64.wrap (f + (k : Int)) = f + (k : Int) := by rw [IntKind.wrap_i64]; omega
      have q1 : IntKind.i64.wrap ((m : Int) - (k : Int)) = ((m - k : Nat) : Int) := by rw [IntKind.wrap_i64]; omega
      have q2 : (m : Int) - (k : Int) = ((m - k : Nat) : Int) := by omega
      have HRa : Hid (rowB s l f (k : Int) = true) := rowB_iff.2 ⟨placeB_iff.2 ⟨p0, p1, p2, p3, p4, p5⟩, by omega, by omega, by omega⟩
      have HRb : Hid (rowB s l (f + (k : Int)) ((m - k : Nat) : Int) = true) := rowB_iff.2 ⟨placeB_iff.2 ⟨p0, p1, p2, p3, by omega, by omega⟩, by omega, by omega, by omega⟩
      have HM : Hid (k + (m - k) = m) := by show _ = _; omega
      have hmk : m - k ≤ 100 := by omega
      clear hk
      go_wp2_with fail
      refine (iRow_ok s l f k _ HRa.out).mono ?_
      rintro e w3 ⟨ga, rfl, hga, hF3, hB3⟩
      have HF3 : Hid (FillTo w3 ga k k (rowI s l f k)) := hF3
      have HB3 : Hid (Below w2.heap.size w2 w3) := hB3
      have z3 : w2.heap.size ≤ w3.heap.size := hB3.size
      have hga3 : ga < w3.heap.size := hF3.1
      clear hF3 hB3
      go_wp2_with fail
      refine (iRow_ok s l (f + (k : Int)) (m - k) _ HRb.out).mono ?_
      rintro e w4 ⟨gb, rfl, hgb, hF4, hB4⟩
      have HF4 : Hid (FillTo w4 gb (m - k) (m - k) (rowI s l (f + (k : Int)) (m - k))) := hF4
      have HB4 : Hid (Below w3.heap.size w3 w4) := hB4
      have z4 : w3.heap.size ≤ w4.heap.size := hB4.size
      have hgb4 : gb < w4.heap.size := hF4.1
      clear hF4 hB4
      have HA4 : Hid (FillTo (w4.alloc (.cells #[] 3)) ga k k (rowI s l f k)) := (HF3.out.below HB4.out hga3).below ((Below.refl _ w4).alloc (Nat.le_refl _) _) (by omega)
      go_wp2_with (first | (at_builtin; refine wpList_append_own _ rfl _ _ 28 rfl w4.heap.size 3 i0 (.int .i64 0) 1 8 Try.underlying28 hi hz0 hz1 hz2 rfl (by decide) (.slice (some ⟨w4.heap.size, 0, none⟩) 0 0) 0 [] rfl (row_empty w4) ⟨ga, 0, none⟩ k k (intCells (rowI s l f k)) rfl (by rw [intCells_length, rowI_length]; omega) (HA4.out.cells (rowI_length _ _ _ _)) intCells_one (by unfold maxLen; omega) (by omega) (by simp) ?_; intro v5 w5 hown5 hgrow5 hnil5; have HO5 : Hid (w5.ownsRow w4.heap.size 3 1 v5 (0 + k) ([] ++ intCells (rowI s l f k))) := hown5; have HB5 : Hid (Below w4.heap.size w4 w5) := ((Below.refl _ w4).alloc (Nat.le_refl _) _).grown hgrow5 (by simp) (fun j e => by cases e; exact Nat.le_refl _); clear hown5 hgrow5 hnil5) | (at_builtin; refine wpList_append_own _ rfl _ _ 28 rfl w4.heap.size 3 i0 (.int .i64 0) 1 8 Try.underlying28 hi hz0 hz1 hz2 rfl (by decide) v5 _ _ rfl HO5.out ⟨gb, 0, none⟩ (m - k) (m - k) (intCells (rowI s l (f + (k : Int)) (m - k))) rfl (by rw [intCells_length, rowI_length]; omega) ((HF4.out.below HB5.out hgb4).cells (rowI_length _ _ _ _)) intCells_one (by unfold maxLen; omega) (by omega) (by have := HB5.out.size; omega) ?_; intro v6 w6 hown6 hgrow6 hnil6; have HO6 : Hid (w6.ownsRow w4.heap.size 3 1 v6 (0 + k + (m - k)) ([] ++ intCells (rowI s l f k) ++ intCells (rowI s l (f + (k : Int)) (m - k)))) := hown6; have HB6 : Hid (Below w4.heap.size w4 w6) := HB5.out.grown hgrow6 (by have := HB5.out.size; omega) (fun j e => row_ge HO5.out e); clear hown6 hgrow6 hnil6) | (go_at_call 24; refine (sameI_same _ _ (rowI s l f m) w6 (by rw [rowI_length]; omega) (((HF2.out.below HB3.out (by omega)).below HB4.out (by omega)).below HB6.out (by omega) |>.isI (rowI_length _ _ _ _) (by unfold maxLen; omega)) (row_is HO6.out HM.out)).mono ?_; rintro e w7 ⟨rfl, hB7⟩; have HB7 : Hid (Below w6.heap.size w6 w7) := hB7; clear hB7))
      go_ret
      have z6 := HB6.out.size
      have zz := HB2.out.size
      exact ⟨rfl, (((HB2.out.trans (HB3.out.mono (by omega))).trans (HB4.out.mono (by omega))).trans (HB6.out.mono (by omega))).trans (HB7.out.mono (by omega))⟩
  · go_wp2_with fail
    refine (iRow_no s l f c _ hR).mono ?_
    rintro e w2 ⟨⟨a2, cap2, rfl⟩, hB2⟩
    have HB2 : Hid (Below w.heap.size w w2) := HB1.out.trans (hB2.mono HB1.out.size)
    clear hB2
    go_wp2_with (first | (go_at_call 12; refine (iRand_any 0 0 0 _).mono ?_; rintro e w3 ⟨rfl, hB3⟩; have HB3 : Hid (Below w2.heap.size w2 w3) := hB3; clear hB3; rw [e0]) | (go_at_call_of 10 (3 : Int); refine (iMixed_any 3 _).mono ?_; rintro e w' ⟨rfl, hw'⟩; obtain rfl := hw'.symm; rw [e4]) | (go_at_call 10; refine (iMixed_any _ _).mono ?_; rintro e w' ⟨rfl, hw'⟩; obtain rfl := hw'.symm; first | rw [e1] | rw [e2] | rw [e3] | rw [e4]))
    go_ret
    exact ⟨rfl, HB2.out.trans (HB3.out.mono HB2.out.size)⟩

set_option maxRecDepth 100000 in
theorem lifted (os : Os) (started : os.Started) (H : Type) (enc : TypeId × Value → H) :
    ReturnsInHanded {} Try.checked os 8 .any (Rows.fnRowsSpec.pre6 enc Try.prog Try.f8 Rows.fnRowsRow.domain false) (Rows.fnRowsSpec.post enc Try.prog Try.f8 false true false false) := by
  refine returnsInHanded_of_change_sized (C := Try.checked) own started (by kernel_rfl) Try.func8
    (ChangeSpec.witness6 (enc := enc) (C := Try.checked) false ⟨#[], #[.slice none 0 0], []⟩ 8 (by kernel_rfl) (by kernel_rfl) (by kernel_rfl) (by kernel_rfl)) ?_
  intro W base args ds gs before hval0 hW hcnd hsz _
  have hval : ∀ (j : Nat) t v, Try.f8.params[j]? = some t → args[j]? = some v → Value.okWide Try.prog W .any base t v := hval0
  have hW' := hW
  obtain ⟨p, q, hA0, hV, rfl, hfz, hnd⟩ := hW
  have hA : DataW.TrodAll enc Try.prog W 0 (fun _ => true) true Try.f8.params.toList args.toList ds p := hA0
  rw [Try.params8] at hA hval
  obtain ⟨v0, vs0, d0, ds0, p0, q0, hargs, rfl, rfl, h0, r0⟩ := trodAll_cons hA
  obtain ⟨rfl, rfl, rfl⟩ := trodAll_nil r0
  obtain rfl : args = #[v0] := by cases args; simp_all
  obtain ⟨rfl, rfl⟩ := trodVars_none hV
  have k0 := h0
  have lt0 : ∀ x ∈ p0, x.block < W.heap.size := by obtain ⟨m, hm⟩ := k0; exact DataW.trod_lt m _ _ _ hm
  obtain ⟨a, n, cap, rfl, hn, hcode⟩ := open_code (hval 0 32 v0 rfl rfl) h0 (fun elems spare e => sized_slice hsz (j := 0) (t := 32) (by rw [Try.params8]; rfl) (by subst e; rfl) Try.underlying32)
  clear hA0 hval0
  refine (walk a n cap W hn hcode).mono fun e W' ⟨he, bel⟩ => ?_
  subst he
  exact ⟨_, rfl, _, _, _, [], _, [], hW', trodAll_mk1 (shut_bool Try.underlying4 _), (trodAll_cons_mk (Below.trod laidOut (by kernel_rfl) (of_decide_eq_true (by kernel_rfl)) k0 bel lt0) trodAll_mk0), rfl, bel.frame _, fun h => by cases h⟩

theorem over : Rows.fnRowsRow.holds Try.pinned (OpenSpec.ofChange Rows.fnRowsSpec) :=
  OpenClaim.holds_of_wide 8 Try.f8 rfl rfl rfl rfl rfl rfl rfl ⟨rfl, rfl, rfl, rfl, rfl⟩ rfl rfl rfl rfl rfl (by kernel_rfl) Try.func8 (by kernel_rfl)
    (of_decide_eq_true (by kernel_rfl)) (by unfold Func.isWrapper; first | (rw [if_pos (by decide +kernel)]; kernel_rfl) | (rw [if_neg (by decide +kernel)]; exact ⟨rfl, rfl⟩))
    (fun os started H enc _ => lifted os started H enc)
end Go.Proofs.Ytmpnlmmmopablaa.LawRows
namespace Go.Proofs.Ytmpnlmmmopablaa
theorem rows_holds : Rows.FnRowsSaid := LawRows.over
#print axioms rows_holds
end Go.Proofs.Ytmpnlmmmopablaa
