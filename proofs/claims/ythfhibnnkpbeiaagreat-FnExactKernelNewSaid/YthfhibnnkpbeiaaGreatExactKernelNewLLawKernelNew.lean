/- At every argument KernelNew answers as the specification: the statement. -/
import Derived.Test.YthfhibnnkpbeiaaGreatClExactKernelNew
import Derived.Test.YthfhibnnkpbeiaaGreatExactKernelNewLLawKernNewW
import Derived.Test.YthfhibnnkpbeiaaGreatExactKernelNewLKSn
import Derived.Test.YthfhibnnkpbeiaaGreatExactKernelNewLKIn
import Derived.Test.YthfhibnnkpbeiaaGreatExactKernelNewG44
import Derived.Test.YthfhibnnkpbeiaaGreatExactKernelNewG45
import Derived.Test.YthfhibnnkpbeiaaGreatExactKernelNewG28
import Derived.Deep.Cut
namespace Go.Proofs.YthfhibnnkpbeiaaGreat.LawExactKernelNew
open Go.ChangeShapes Go.WideShapes Go.ChangeAt Go.RowKit Go.Proofs.YthfhibnnkpbeiaaGreat
set_option maxRecDepth 100000 in
theorem lifted (os : Os) (started : os.Started) (H : Type) (enc : TypeId × Value → H) :
  ReturnsInHanded {} Tryz.checked os 3 .any (Rows.fnExactKernelNewSpec.pre6 enc Tryz.prog Tryz.f3 Rows.fnExactKernelNewRow.domain false) (Rows.fnExactKernelNewSpec.post enc Tryz.prog Tryz.f3 false true false false) := by
 refine returnsInHanded_of_change (C := Tryz.checked) own started (by kernel_rfl) Tryz.func3
  (ChangeSpec.witness6 (enc := enc) (C := Tryz.checked) false ⟨#[], #[.agg #[.int .i64 0, .int .i64 0, .slice none 0 0, .slice none 0 0, .slice none 0 0, .int .i64 0], .slice none 0 0], []⟩ 8 (by kernel_rfl) (by kernel_rfl) (by kernel_rfl) (by kernel_rfl)) ?_
 intro W base args ds gs before hval0 hW hcnd _
 have hval : ∀ (j : Nat) t v, Tryz.f3.params[j]? = some t → args[j]? = some v → Value.okWide Tryz.prog W .any base t v := hval0
 have hW' := hW
 obtain ⟨p, q, hA0, hV, rfl, hfz, hnd⟩ := hW
 have hA : DataW.TrodAll enc Tryz.prog W 0 (fun _ => true) true Tryz.f3.params.toList args.toList ds p := hA0
 rw [Tryz.params3] at hA hval
 obtain ⟨v0, vs0, d0, ds0, p0, q0, hargs, rfl, rfl, h0, r0⟩ := trodAll_cons hA
 obtain ⟨v1, vs1, d1, ds1, p1, q1, rfl, rfl, rfl, h1, r1⟩ := trodAll_cons r0
 obtain ⟨rfl, rfl, rfl⟩ := trodAll_nil r1
 obtain rfl : args = #[v0, v1] := by cases args; simp_all
 obtain ⟨rfl, rfl⟩ := trodVars_none hV
 have kk0 := h0
 have lt0 : ∀ x ∈ p0, x.block < W.heap.size := by obtain ⟨m, hm⟩ := kk0; exact DataW.trod_lt m _ _ _ hm
 have kk1 := h1
 have lt1 : ∀ x ∈ p1, x.block < W.heap.size := by obtain ⟨m, hm⟩ := kk1; exact DataW.trod_lt m _ _ _ hm
 obtain ⟨l0, g0⟩ := open_model (hval 0 26 v0 rfl rfl) h0
 obtain ⟨l1, g1⟩ := open_ints' (hval 1 22 v1 rfl rfl) h1
 clear hA0 hval0
 refine (walk v0 l0 v1 l1 W g0 g1).mono fun e W' ⟨he, bel⟩ => ?_
 subst he
 exact ⟨_, rfl, _, _, _, [], _, [], hW', trodAll_mk1 (shut_bool Tryz.underlying4 _), (trodAll_cons_mk (Below.trod laidOut (by kernel_rfl) (of_decide_eq_true (by kernel_rfl)) kk0 bel lt0) (trodAll_cons_mk (Below.trod laidOut (by kernel_rfl) (of_decide_eq_true (by kernel_rfl)) kk1 bel lt1) trodAll_mk0)), rfl, bel.frame _, fun h => by cases h⟩
theorem over : Rows.fnExactKernelNewRow.holds Tryz.pinned (OpenSpec.ofChange Rows.fnExactKernelNewSpec) :=
 OpenClaim.holds_of_wide 3 Tryz.f3 rfl rfl rfl rfl rfl rfl rfl ⟨rfl, rfl, rfl, rfl, rfl⟩ rfl rfl rfl rfl rfl (by as_aux_lemma => kernel_rfl) Tryz.func3 ClExactKernelNew.closed
  (by as_aux_lemma => exact of_decide_eq_true (by kernel_rfl)) (by unfold Func.isWrapper; first | (rw [if_pos (by decide +kernel)]; kernel_rfl) | (rw [if_neg (by decide +kernel)]; exact ⟨rfl, rfl⟩))
  (fun os started H enc _ => lifted os started H enc)
end Go.Proofs.YthfhibnnkpbeiaaGreat.LawExactKernelNew
namespace Go.Proofs.YthfhibnnkpbeiaaGreat
theorem kernelNew_holds : Rows.FnExactKernelNewSaid := LawExactKernelNew.over
#print axioms kernelNew_holds
end Go.Proofs.YthfhibnnkpbeiaaGreat
