/- At every list of events the program's HeapOk answers as the specification's, writes nothing, and the list reads behind the call as it read before; no condition. -/
import Derived.Test.YthklekjglocbgaaHeapS
import Derived.Test.YthklekjglocbgaaHeapI
import Derived.Test.YthklekjglocbgaaEqs
import Derived.Test.YthklekjglocbgaaOpenS
namespace Go.Proofs.Ythklekjglocbgaa.LawHeapOk
open Go.ChangeShapes Go.WideShapes Go.ChangeAt Go.RowKit Go.Proofs.Ythklekjglocbgaa

set_option maxHeartbeats 2000000 in
theorem walk (x : Value) (l : List Ev) (w : World) (hx : IsEvs w x l) :
    Calls Try.prog 3 #[x] w fun e w' => e = .returned (.bool true) ∧ Below w.heap.size w w' := by
  have HX : Hid (IsEvs w x l) := hx
  obtain ⟨a, cap, rfl, h1, h2, _⟩ := hx
  by_cases hl : l.length ≤ 1048576
  · have hlt : ¬ ((1048576 : Int) - (l.length : Int) < 0) := by omega
    clear h1 h2
    go_enter Try.func3, Try.ntmps3
    go_wp2_with fail
    refine (sz_small a l.length cap _ hl).mono ?_
    rintro e w' ⟨rfl, hw⟩
    have hw' := hw.symm
    clear hw
    subst hw'
    go_wp2_with fail
    refine (toEventS_any _ l _ hl HX.out).mono ?_
    rintro e w1 ⟨rfl, hb1, hr1⟩
    have HR1 : Hid (RowTo w1 w.heap.size l.length l l.length) := hr1
    have HB1 : Hid (Below w.heap.size w w1) := hb1
    clear hr1 hb1
    go_wp2_with fail
    refine (sHeap_any _ 0 _ l _ hl (Nat.le_refl _) (by unfold maxLen; omega) HR1.out.evs).mono ?_
    rintro e w2 ⟨⟨bs, rfl, hs⟩, hb2⟩
    have HS : Hid (bs = true ↔ GoodH l) := hs
    have HB2 : Hid (Below w.heap.size w w2) := HB1.out.trans (hb2.mono HB1.out.size)
    clear hs hb2 HR1 HB1
    have HX2 : Hid (IsEvs w2 (.slice a l.length cap) l) := HX.out.below HB2.out
    go_wp2_with fail
    refine (toEventS_any _ l _ hl HX2.out).mono ?_
    rintro e w3 ⟨rfl, hb3, hr3⟩
    have HR3 : Hid (RowTo w3 w2.heap.size l.length l l.length) := hr3
    have HB3 : Hid (Below w.heap.size w w3) := HB2.out.trans (hb3.mono HB2.out.size)
    clear hr3 hb3
    go_wp2_with fail
    refine (iHeap_parts _ l.length w2.heap.size l _ hl (.inr ⟨0, rfl, HR3.out.evs⟩) HR3.out.1).mono ?_
    rintro e w4 ⟨⟨bi, rfl, hi⟩, hb4⟩
    have he : bi = bs := by
      have h1 := hi.trans HS.out.symm
      cases bi <;> cases bs <;> simp_all
    subst he
    have HB4 : Hid (Below w.heap.size w w4) := HB3.out.trans (hb4.mono HB3.out.size)
    have HE4 : Hid (IsEvs w4 (.slice (some ⟨w2.heap.size, 0, none⟩) l.length l.length) l) := (HR3.out.isEvs hl).below hb4
    have HX4 : Hid (IsEvs w4 (.slice a l.length cap) l) := HX.out.below HB4.out
    clear hi hb4 HS HX2 HR3 HB3 HB2
    go_wp2_with fail
    refine (toEventS_any _ l _ hl HX4.out).mono ?_
    rintro e w5 ⟨rfl, hb5, hr5⟩
    have HE5 : Hid (IsEvs w5 (.slice (some ⟨w2.heap.size, 0, none⟩) l.length l.length) l) := HE4.out.below hb5
    have HR5 : Hid (IsEvs w5 (.slice (some ⟨w4.heap.size, 0, none⟩) l.length l.length) l) := hr5.isEvs hl
    have HB5 : Hid (Below w.heap.size w w5) := HB4.out.trans (hb5.mono HB4.out.size)
    clear hr5 hb5
    go_wp2_with fail
    refine (eqS_same _ _ l _ hl HE5.out HR5.out).mono ?_
    rintro e w6 ⟨rfl, hb6⟩
    go_wp2_with fail
    go_ret
    exact ⟨rfl, HB5.out.trans (hb6.mono HB5.out.size)⟩
  · go_enter Try.func3, Try.ntmps3
    go_wp2_with fail
    refine (sz_big a l.length cap _ (Nat.le_trans h1 h2) hl).mono ?_
    rintro e w' ⟨rfl, hw⟩
    have hw' := hw.symm
    clear hw
    subst hw'
    go_wp2
    go_ret
    exact ⟨rfl, Below.refl _ _⟩

set_option maxRecDepth 100000 in
theorem lifted (os : Os) (started : os.Started) (H : Type) (enc : TypeId × Value → H) :
    ReturnsInHanded {} Try.checked os 3 .any (Rows.fnExactHeapOkSpec.pre6 enc Try.prog Try.f3 Rows.fnExactHeapOkRow.domain false) (Rows.fnExactHeapOkSpec.post enc Try.prog Try.f3 false true false false) := by
  refine returnsInHanded_of_change (C := Try.checked) own started (by kernel_rfl) Try.func3
    (ChangeSpec.witness6 (enc := enc) (C := Try.checked) false ⟨#[], #[.slice none 0 0], []⟩ 8 (by kernel_rfl) (by kernel_rfl) (by kernel_rfl) (by kernel_rfl)) ?_
  intro W base args ds gs before hval0 hW hcnd _
  have hval : ∀ (j : Nat) t v, Try.f3.params[j]? = some t → args[j]? = some v → Value.okWide Try.prog W .any base t v := hval0
  have hW' := hW
  obtain ⟨p, q, hA0, hV, rfl, hfz, hnd⟩ := hW
  have hA : DataW.TrodAll enc Try.prog W 0 (fun _ => true) true Try.f3.params.toList args.toList ds p := hA0
  rw [Try.params3] at hA hval
  obtain ⟨v0, vs0, d0, ds0, p0, q0, hargs, rfl, rfl, h0, r0⟩ := trodAll_cons hA
  obtain ⟨rfl, rfl, rfl⟩ := trodAll_nil r0
  obtain rfl : args = #[v0] := by cases args; simp_all
  obtain ⟨rfl, rfl⟩ := trodVars_none hV
  have k0 := h0
  have lt0 : ∀ x ∈ p0, x.block < W.heap.size := by obtain ⟨m, hm⟩ := k0; exact DataW.trod_lt m _ _ _ hm
  obtain ⟨l0, g0⟩ := open_evs (hval 0 22 v0 rfl rfl) h0
  clear hA0 hval0
  refine (walk v0 l0 W g0).mono fun e W' ⟨he, bel⟩ => ?_
  subst he
  exact ⟨_, rfl, _, _, _, [], _, [], hW', trodAll_mk1 (shut_bool Try.underlying4 _), (trodAll_cons_mk (Below.trod laidOut (by kernel_rfl) (of_decide_eq_true (by kernel_rfl)) k0 bel lt0) trodAll_mk0), rfl, bel.frame _, fun h => by cases h⟩

theorem over : Rows.fnExactHeapOkRow.holds Try.pinned (OpenSpec.ofChange Rows.fnExactHeapOkSpec) :=
  OpenClaim.holds_of_wide 3 Try.f3 rfl rfl rfl rfl rfl rfl rfl ⟨rfl, rfl, rfl, rfl, rfl⟩ rfl rfl rfl rfl rfl (by kernel_rfl) Try.func3 (by kernel_rfl)
    (of_decide_eq_true (by kernel_rfl)) (by unfold Func.isWrapper; first | (rw [if_pos (by decide +kernel)]; kernel_rfl) | (rw [if_neg (by decide +kernel)]; exact ⟨rfl, rfl⟩))
    (fun os started H enc _ => lifted os started H enc)
end Go.Proofs.Ythklekjglocbgaa.LawHeapOk
namespace Go.Proofs.Ythklekjglocbgaa
theorem heapOk_holds : Rows.FnExactHeapOkSaid := LawHeapOk.over
#print axioms heapOk_holds
end Go.Proofs.Ythklekjglocbgaa
