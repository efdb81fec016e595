/- queues(): two events go in, the first one is the earlier one, in the heap too. -/
import Derived.Test.YteecpandpkicmaaQPure
import Derived.Test.YteecpandpkicmaaInsN
import Derived.Test.YteecpandpkicmaaFirst
import Derived.Test.YteecpandpkicmaaOfG
namespace Go.Proofs.Yteecpandpkicmaa
open Go.RowKit

def E1 : Ev := ⟨5, 0, 0, 0, 0, 0, 1⟩
def E2 : Ev := ⟨3, 0, 0, 0, 0, 0, 2⟩
theorem E1_ok : E1.ok = true := by decide
theorem E2_ok : E2.ok = true := by decide
theorem good_nil : GoodQ [] := ⟨by simp, fun i hi => by simp at hi⟩
theorem noTag_nil (g : Int) : NoTag [] g := fun j hj => by simp at hj
theorem ins_nil (e : Ev) : insL [] e 0 = [e] := rfl
theorem good_E1 : GoodQ [E1] := ins_good (p := 0) good_nil E1_ok (noTag_nil _) (by simp) ⟨Nat.le_refl _, fun j hj => by omega, fun h => by simp at h⟩
theorem insAt_E2 : InsAt [E1] E2 0 := ⟨by simp, fun j hj => by omega, fun _ => by decide⟩
theorem insAt_E2_only {p : Nat} (h : InsAt [E1] E2 p) : p = 0 := by
  by_cases hp : p = 0
  · exact hp
  · exact absurd (h.2.1 0 (by omega)) (by decide)
theorem noTag_E1 : NoTag [E1] E2.g := fun j hj => by
  have : j = 0 := by simpa using hj
  subst this
  decide
theorem good_E2 : GoodQ [E2, E1] := ins_good (p := 0) good_E1 E2_ok noTag_E1 (by simp) insAt_E2
theorem fold_E2 : [E2, E1].foldl pushL [] = [E2, E1] := by
  have h1 : pushL [] E2 = [E2] := by
    unfold pushL
    exact upL_stop (by simp)
  have h2 : pushL [E2] E1 = [E2, E1] := by
    unfold pushL
    exact upL_stop (by decide)
  show pushL (pushL [] E2) E1 = _
  rw [h1, h2]
theorem goodL_E2 : GoodL [E2, E1] := ⟨by simp, fun i hi => ⟨(good_E2.2 i hi).1, (good_E2.2 i hi).2.2⟩⟩
theorem OwnEvs.some {B : Nat} {w : World} {x : Value} {l : List Ev} (h : OwnEvs B w x l) (hl : l ≠ []) : ∃ g cap, x = .slice (some ⟨g, 0, none⟩) l.length cap ∧ l.length ≤ cap ∧ cap ≤ maxLen ∧ B ≤ g ∧ EvsAt w g 0 l := by
  obtain ⟨a, cap, rfl, h1, h2, h⟩ := h
  obtain ⟨g, rfl, h3, h4⟩ := h.resolve_left hl
  exact ⟨g, cap, rfl, h1, h2, h3, h4.evs⟩

set_option maxRecDepth 100000 in
set_option maxHeartbeats 4000000 in
theorem queues_any (w : World) : Calls Try.prog 9 #[] w fun e w' => e = .returned (.bool true) ∧ Below w.heap.size w w' := by
  have HI1 : Hid (∀ W, Calls Try.prog 7 #[.slice none 0 0, .agg #[.int .i64 5, .int .i64 0, .int .i64 0, .int .i64 0, .int .i64 0, .int .i64 0, .int .i64 1]] W fun r w' => (∃ g cap, r = .returned (.tuple #[.slice (some ⟨g, 0, none⟩) 1 cap, .bool true]) ∧ 1 ≤ cap ∧ cap ≤ maxLen ∧ EvsAt w' g 0 [E1]) ∧ Below W.heap.size W w') := fun W => by
    refine (iInsert_nil E1 W E1_ok).mono ?_
    rintro r w' ⟨⟨k, x, rfl, hk, hx⟩, hb⟩
    have hk0 : k = 0 := by have := hk.1; simpa using this
    subst hk0
    obtain ⟨g, cap, rfl, h1, h2, _, h3⟩ := hx.some (by simp)
    exact ⟨⟨g, cap, rfl, by simpa using h1, h2, h3⟩, hb⟩
  have HI2 : Hid (∀ W g cap, 1 ≤ cap → EvsAt W g 0 [E1] → Calls Try.prog 7 #[.slice (some ⟨g, 0, none⟩) 1 cap, .agg #[.int .i64 3, .int .i64 0, .int .i64 0, .int .i64 0, .int .i64 0, .int .i64 0, .int .i64 2]] W fun r w' => (∃ g cap, r = .returned (.tuple #[.slice (some ⟨g, 0, none⟩) 2 cap, .bool true]) ∧ 2 ≤ cap ∧ cap ≤ maxLen ∧ EvsAt w' g 0 [E2, E1]) ∧ Below W.heap.size W w') := fun W g cap hcap hE => by
    refine (iInsert_yes g 0 cap [E1] E2 W (by simpa using hcap) (by simp) hE good_E1 E2_ok noTag_E1 (by simp)).mono ?_
    rintro r w' ⟨⟨k, x, rfl, hk, hx⟩, hb⟩
    obtain rfl := insAt_E2_only hk
    obtain ⟨g, cap, rfl, h1, h2, _, h3⟩ := hx.some (by simp)
    exact ⟨⟨g, cap, rfl, by simpa using h1, h2, h3⟩, hb⟩
  have HF : Hid (∀ W g cap, 2 ≤ cap → cap ≤ maxLen → EvsAt W g 0 [E2, E1] → Calls Try.prog 11 #[.slice (some ⟨g, 0, none⟩) 2 cap] W fun r w' => r = .returned (.tuple #[.agg #[.int .i64 3, .int .i64 0, .int .i64 0, .int .i64 0, .int .i64 0, .int .i64 0, .int .i64 2], .bool true]) ∧ Below W.heap.size W w') := fun W g cap h1 h2 hE => iFirst_yes g 0 cap [E2, E1] W (by simp) hE (by simpa using h1) h2 (by simp) good_E2
  have HH : Hid (∀ W g cap, EvsAt W g 0 [E2, E1] → Calls Try.prog 22 #[.slice (some ⟨g, 0, none⟩) 2 cap] W fun r w' => (∃ g' cap', r = .returned (.tuple #[.slice (some ⟨g', 0, none⟩) 2 cap', .bool true]) ∧ w'.cell? ⟨g', 0, none⟩ = some (.int .i64 3)) ∧ Below W.heap.size W w') := fun W g cap hE => by
    refine (iOf_gen (some ⟨g, 0, none⟩) cap g [E2, E1] W (by simp) (.inr ⟨0, rfl, hE⟩) hE.1).mono ?_
    rintro r w' ⟨h, hb⟩
    refine ⟨?_, hb⟩
    rcases h with ⟨_, x, rfl, hx⟩ | ⟨h, _⟩
    · rw [fold_E2] at hx
      obtain ⟨g', cap', rfl, _, _, _, h3⟩ := hx.some (by simp)
      exact ⟨g', cap', rfl, (h3.2 0 (by simp)).f0⟩
    · exact absurd goodL_E2 h
  go_enter Try.func9, Try.ntmps9
  go_wp2_with fail
  refine (HI1.out _).mono ?_
  rintro r w1 ⟨⟨g1, cap1, rfl, hc1, hm1, he1⟩, hb1⟩
  have HB1 : Hid (Below w.heap.size w w1) := hb1
  have HE1 : Hid (EvsAt w1 g1 0 [E1]) := he1
  clear hb1 he1
  go_wp2_with fail
  refine (HI2.out _ g1 cap1 hc1 HE1.out).mono ?_
  rintro r w2 ⟨⟨g2, cap2, rfl, hc2, hm2, he2⟩, hb2⟩
  have HB2 : Hid (Below w.heap.size w w2) := HB1.out.trans (hb2.mono HB1.out.size)
  have HE2 : Hid (EvsAt w2 g2 0 [E2, E1]) := he2
  clear hb2 he2 HB1 HE1
  go_wp2_with fail
  refine (HF.out _ g2 cap2 hc2 hm2 HE2.out).mono ?_
  rintro r w3 ⟨rfl, hb3⟩
  have HB3 : Hid (Below w.heap.size w w3) := HB2.out.trans (hb3.mono HB2.out.size)
  have HE3 : Hid (EvsAt w3 g2 0 [E2, E1]) := HE2.out.below hb3 HE2.out.1
  clear hb3 HB2 HE2
  have HE4 : Hid (EvsAt (w3.alloc (.cells #[.int .i64 3, .int .i64 0, .int .i64 0, .int .i64 0, .int .i64 0, .int .i64 0, .int .i64 2] 25)) g2 0 [E2, E1]) := HE3.out.below ((Below.refl _ w3).alloc (Nat.le_refl _) _) HE3.out.1
  go_wp2_with fail
  refine (HH.out _ g2 cap2 HE4.out).mono ?_
  rintro r w5 ⟨⟨g5, cap5, rfl, hc5⟩, hb5⟩
  have hf : w5.cell? ⟨w3.heap.size, 0, none⟩ = some (.int .i64 3) := (hb5.cell (p := ⟨w3.heap.size, 0, none⟩) (by simp)).trans (by simp)
  have HB5 : Hid (Below w.heap.size w w5) := (HB3.out.alloc HB3.out.size _).trans (hb5.mono (by have := HB3.out.size; simp; omega))
  clear hb5
  go_wp2
  go_ret
  exact ⟨rfl, HB5.out⟩
end Go.Proofs.Yteecpandpkicmaa
