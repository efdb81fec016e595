/- At every code of at most 2^47 - 4096 bytes (the form's own reach): a decision that is made makes two of one, which do not meet, and each of which refines it; both are of half as many whole ones; the fixed model asks at its third; the code reads as it did; no condition. -/
import Derived.Test.YtmpoffepoafblaaGreatClDecides
import Derived.Test.YtmpoffepoafblaaGreatDecidesG06
import Derived.Test.YtmpoffepoafblaaGreatDecidesG46
namespace Go.Proofs.YtmpoffepoafblaaGreat.LawDecides
open Go.ChangeShapes Go.WideShapes Go.ChangeAt Go.RowKit Go.Proofs.YtmpoffepoafblaaGreat

set_option maxRecDepth 100000 in
set_option maxHeartbeats 4000000 in
theorem walk (a : Option Addr) (n cap : Nat) (w : World) (hn : n ≤ 140737488351232) (hC : CodeIn w w.heap.size a n) :
    Calls Tryz.prog 6 #[.slice a n cap] w fun e w' => e = .returned (.bool true) ∧ Below w.heap.size w w' := by
  have HC : Hid (CodeIn w w.heap.size a n) := hC
  clear hC
  go_enter Tryz.func6, Tryz.ntmps6
  go_wp2_with fail
  refine (drawDec_any a n cap _ (by omega) HC.out).mono ?_
  rintro e w1 ⟨u, l, d, v, rfl, hl, hO1, hv0, hv1, hB1⟩
  have HL : Hid (l.length = 4) := hl
  have HU : Hid (IsI w1 u l) := hO1.isI
  have HB1 : Hid (Below w.heap.size w w1) := hB1
  clear hl hO1 hB1 HC
  go_wp2_with fail
  refine (iDecide_any u d v l _ (by have := HL.out; omega) HU.out).mono ?_
  rintro e w2 ⟨x, rfl, hO2, hB2⟩
  have HB2 : Hid (Below w.heap.size w w2) := HB1.out.trans (hB2.mono HB1.out.size)
  have HU2 : Hid (IsI w2 u l) := HU.out.below hB2
  have HO2 : Hid (OwnI w1.heap.size w2 x (decR l d v)) := hO2
  clear hO2 hB2 HB1 HU
  cases hf : decF l d v with
  | false =>
    have HF : Hid (decF l d v = false) := hf
    have hr := dec_no_same hf
    clear hf
    rcases hr with hr | hr
    · rw [hr] at HO2
      obtain ⟨ax, cx, rfl, _⟩ := HO2.out
      clear hr HO2 HU2 HF
      go_wp2_with fail
      refine (models_any _).mono ?_
      rintro e w3 ⟨rfl, hb⟩
      have HB3 : Hid (Below w.heap.size w w3) := HB2.out.trans (hb.mono HB2.out.size)
      clear hb
      go_wp2
      go_ret
      exact ⟨rfl, HB3.out⟩
    · rw [hr] at HO2
      have HX : Hid (IsI w2 x l) := HO2.out.isI
      have h4 := HL.out
      obtain ⟨ax, cx, hx, _⟩ := HO2.out
      rw [h4] at hx
      subst hx
      have HS : Hid (∀ W, Below w2.heap.size w2 W → Calls Tryz.prog 33 #[.slice ax 4 cx, u] W fun e w' => e = .returned (.bool true) ∧ Below W.heap.size W w') := fun W hW => (sameI_any _ u l l W (by omega) (by omega) (HX.out.below hW) (HU2.out.below hW)).mono fun e w' ⟨h1, h2⟩ => ⟨by simpa using h1, h2⟩
      clear hr HO2 HU2 HX HF h4
      go_wp2_with fail
      refine (HS.out _ (Below.refl _ _)).mono ?_
      rintro e w3 ⟨rfl, hb⟩
      have HB3 : Hid (Below w.heap.size w w3) := HB2.out.trans (hb.mono HB2.out.size)
      clear hb HS
      go_wp2_with fail
      refine (models_any _).mono ?_
      rintro e w4 ⟨rfl, hb⟩
      have HB4 : Hid (Below w.heap.size w w4) := HB3.out.trans (hb.mono HB3.out.size)
      clear hb
      go_wp2
      go_ret
      exact ⟨rfl, HB4.out⟩
  | true =>
    have HF : Hid (decF l d v = true) := hf
    clear hf
    go_wp2_with fail
    refine (iDecide_any u d (1 - v) l _ (by have := HL.out; omega) HU2.out).mono ?_
    rintro e W3 ⟨y, rfl, hO3, hB3⟩
    have hff := decF_other HF.out
    rw [hff]
    obtain ⟨g1, g2, g3, g4, g5⟩ := dec_facts HF.out
    obtain ⟨_, k2, k3, _, _⟩ := dec_facts hff
    have hl := HL.out
    have hl1 := decR_length l d v
    have hl2 := decR_length l d (1 - v)
    have hX := HO2.out.isI.below hB3
    have hY := hO3.isI
    have hU := HU2.out.below hB3
    have HB3 : Hid (Below w.heap.size w W3) := HB2.out.trans (hB3.mono HB2.out.size)
    obtain ⟨q, hq⟩ : ∃ q : Int, (if vok (decR l d v) = true then whN (decR l d v) else 0) = q := ⟨_, rfl⟩
    rw [hq] at g3 g4 g5
    have hqy : (if vok (decR l d (1 - v)) = true then whN (decR l d (1 - v)) else 0) = q := by omega
    have HM : Hid (∀ W, Below W3.heap.size W3 W → Calls Tryz.prog 36 #[x, y] W fun e w' => e = .returned (.bool false) ∧ Below W.heap.size W w') := fun W hW => by
      have h := iMeets_any x y _ _ W (by omega) (by omega) (hX.below hW) (hY.below hW)
      rw [g1] at h
      exact h
    have HR1 : Hid (∀ W, Below W3.heap.size W3 W → Calls Tryz.prog 37 #[x, u] W fun e w' => e = .returned (.bool true) ∧ Below W.heap.size W w') := fun W hW => by
      have h := iRefines_any x u _ _ W (by omega) (by omega) (hX.below hW) (hU.below hW)
      rw [g2] at h
      exact h
    have HR2 : Hid (∀ W, Below W3.heap.size W3 W → Calls Tryz.prog 37 #[y, u] W fun e w' => e = .returned (.bool true) ∧ Below W.heap.size W w') := fun W hW => by
      have h := iRefines_any y u _ _ W (by omega) (by omega) (hY.below hW) (hU.below hW)
      rw [k2] at h
      exact h
    have HWx : Hid (∀ W, Below W3.heap.size W3 W → Calls Tryz.prog 39 #[x] W fun e w' => e = .returned (.int .i64 q) ∧ Below W.heap.size W w') := fun W hW => by
      have h := iWholes_any x _ W (by omega) (hX.below hW)
      rw [hq] at h
      exact h
    have HWy : Hid (∀ W, Below W3.heap.size W3 W → Calls Tryz.prog 39 #[y] W fun e w' => e = .returned (.int .i64 q) ∧ Below W.heap.size W w') := fun W hW => by
      have h := iWholes_any y _ W (by omega) (hY.below hW)
      rw [hqy] at h
      exact h
    have HWu : Hid (∀ W, Below W3.heap.size W3 W → Calls Tryz.prog 39 #[u] W fun e w' => e = .returned (.int .i64 (q * 2)) ∧ Below W.heap.size W w') := fun W hW => by
      have h := iWholes_any u _ W (by omega) (hU.below hW)
      rw [← g3] at h
      exact h
    have HMo : Hid (∀ W, Below W3.heap.size W3 W → Calls Tryz.prog 25 #[] W fun e w' => e = .returned (.bool true) ∧ Below W.heap.size W w') := fun W _ => models_any W
    have HB0 : Hid (Below W3.heap.size W3 W3) := Below.refl _ _
    clear hO3 hB3 HO2 HU2 HB2 hff g1 g2 g3 k2 k3 hl hl1 hl2 hX hY hU hq hqy HF HL
    go_wp2_with fail
    refine (HM.out _ HB0.out).mono ?_
    rintro e x0 ⟨rfl, hb⟩
    have K0 : Hid (Below W3.heap.size W3 x0) := HB0.out.trans (hb.mono HB0.out.size)
    clear hb HB0
    go_wp2_with fail
    refine (HR1.out _ K0.out).mono ?_
    rintro e x1 ⟨rfl, hb⟩
    have K1 : Hid (Below W3.heap.size W3 x1) := K0.out.trans (hb.mono K0.out.size)
    clear hb K0
    go_wp2_with fail
    refine (HR2.out _ K1.out).mono ?_
    rintro e x2 ⟨rfl, hb⟩
    have K2 : Hid (Below W3.heap.size W3 x2) := K1.out.trans (hb.mono K1.out.size)
    clear hb K1
    go_wp2_with fail
    refine (HWx.out _ K2.out).mono ?_
    rintro e x3 ⟨rfl, hb⟩
    have K3 : Hid (Below W3.heap.size W3 x3) := K2.out.trans (hb.mono K2.out.size)
    clear hb K2
    go_wp2_with fail
    refine (HWu.out _ K3.out).mono ?_
    rintro e x4 ⟨rfl, hb⟩
    have K4 : Hid (Below W3.heap.size W3 x4) := K3.out.trans (hb.mono K3.out.size)
    clear hb K3
    go_wp2_with fail
    refine (HWy.out _ K4.out).mono ?_
    rintro e x5 ⟨rfl, hb⟩
    have K5 : Hid (Below W3.heap.size W3 x5) := K4.out.trans (hb.mono K4.out.size)
    clear hb K4
    go_wp2_with fail
    refine (HWx.out _ K5.out).mono ?_
    rintro e x6 ⟨rfl, hb⟩
    have K6 : Hid (Below W3.heap.size W3 x6) := K5.out.trans (hb.mono K5.out.size)
    clear hb K5
    go_wp2_with fail
    refine (HMo.out _ K6.out).mono ?_
    rintro e x7 ⟨rfl, hb⟩
    have K7 : Hid (Below W3.heap.size W3 x7) := K6.out.trans (hb.mono K6.out.size)
    clear hb K6
    go_wp2
    go_ret
    exact ⟨rfl, HB3.out.trans (K7.out.mono HB3.out.size)⟩

set_option maxRecDepth 100000 in
theorem lifted (os : Os) (started : os.Started) (H : Type) (enc : TypeId × Value → H) :
    ReturnsInHanded {} Tryz.checked os 6 .any (Rows.fnDecidesSpec.pre6 enc Tryz.prog Tryz.f6 Rows.fnDecidesRow.domain false) (Rows.fnDecidesSpec.post enc Tryz.prog Tryz.f6 false true false false) := by
  refine returnsInHanded_of_change_sized (C := Tryz.checked) own started (by kernel_rfl) Tryz.func6
    (ChangeSpec.witness6 (enc := enc) (C := Tryz.checked) false ⟨#[], #[.slice none 0 0], []⟩ 8 (by kernel_rfl) (by kernel_rfl) (by kernel_rfl) (by kernel_rfl)) ?_
  intro W base args ds gs before hval0 hW hcnd hsz _
  have hval : ∀ (j : Nat) t v, Tryz.f6.params[j]? = some t → args[j]? = some v → Value.okWide Tryz.prog W .any base t v := hval0
  have hW' := hW
  obtain ⟨p, q, hA0, hV, rfl, hfz, hnd⟩ := hW
  have hA : DataW.TrodAll enc Tryz.prog W 0 (fun _ => true) true Tryz.f6.params.toList args.toList ds p := hA0
  rw [Tryz.params6] at hA hval
  obtain ⟨v0, vs0, d0, ds0, p0, q0, hargs, rfl, rfl, h0, r0⟩ := trodAll_cons hA
  obtain ⟨rfl, rfl, rfl⟩ := trodAll_nil r0
  obtain rfl : args = #[v0] := by cases args; simp_all
  obtain ⟨rfl, rfl⟩ := trodVars_none hV
  have k0 := h0
  have lt0 : ∀ x ∈ p0, x.block < W.heap.size := by obtain ⟨m, hm⟩ := k0; exact DataW.trod_lt m _ _ _ hm
  obtain ⟨a, n, cap, rfl, hn, hcode⟩ := open_code (hval 0 46 v0 rfl rfl) h0 (fun elems spare e => sized_slice hsz (j := 0) (t := 46) (by rw [Tryz.params6]; rfl) (by subst e; rfl) Tryz.underlying46)
  clear hA0 hval0
  refine (walk a n cap W hn hcode).mono fun e W' ⟨he, bel⟩ => ?_
  subst he
  exact ⟨_, rfl, _, _, _, [], _, [], hW', trodAll_mk1 (shut_bool Tryz.underlying4 _), (trodAll_cons_mk (Below.trod laidOut (by kernel_rfl) (of_decide_eq_true (by kernel_rfl)) k0 bel lt0) trodAll_mk0), rfl, bel.frame _, fun h => by cases h⟩

theorem over : Rows.fnDecidesRow.holds Tryz.pinned (OpenSpec.ofChange Rows.fnDecidesSpec) :=
  OpenClaim.holds_of_wide 6 Tryz.f6 rfl rfl rfl rfl rfl rfl rfl ⟨rfl, rfl, rfl, rfl, rfl⟩ rfl rfl rfl rfl rfl (by as_aux_lemma => kernel_rfl) Tryz.func6 ClDecides.closed
    (by as_aux_lemma => exact of_decide_eq_true (by kernel_rfl)) (by unfold Func.isWrapper; first | (rw [if_pos (by decide +kernel)]; kernel_rfl) | (rw [if_neg (by decide +kernel)]; exact ⟨rfl, rfl⟩))
    (fun os started H enc _ => lifted os started H enc)
end Go.Proofs.YtmpoffepoafblaaGreat.LawDecides
namespace Go.Proofs.YtmpoffepoafblaaGreat
theorem fnDecides_holds : Rows.FnDecidesSaid := LawDecides.over
#print axioms fnDecides_holds
end Go.Proofs.YtmpoffepoafblaaGreat
