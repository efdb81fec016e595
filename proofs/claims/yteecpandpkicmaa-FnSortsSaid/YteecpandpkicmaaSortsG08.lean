/- PlacesM, Or -/
import Derived.Test.YteecpandpkicmaaSortsLPlaces
import Derived.Test.YteecpandpkicmaaSortsG01
/- What the map from tags to places holds. -/
namespace Go.Proofs.Yteecpandpkicmaa
open Go.RowKit Go.Maps Go.WideShapes

theorem sameKey_keyL {g g' : Int} (h : wfI g) (h' : wfI g') : (keyL g).sameKey (keyL g') = decide (g = g') := by
  by_cases e : g = g'
  · subst e; simp [keyL, Lit.sameKey]
  · have : keyL g ≠ keyL g' := fun h1 => e (keyL_inj h h' h1)
    unfold keyL at this ⊢
    simp only [Lit.sameKey, e, decide_false, beq_eq_false_iff_ne]
    intro h1
    exact this (by rw [h1])

def ents {H : Type} : DataW H → List (Lit × DataW H)
  | .map es => es
  | _ => []
abbrev litI (i : Nat) : DataW Unit := .lit (.int .i64 ((i : Nat) : Int))
def placesE (l : List Ev) (k : Nat) : List (Lit × DataW Unit) := ents (placesD l ((List.finRange l.length).take k))
theorem placesD_isMap (l : List Ev) : ∀ k, k ≤ l.length → placesD (H := Unit) l ((List.finRange l.length).take k) = .map (placesE l k)
  | 0, _ => rfl
  | k + 1, h => by
    have ih := placesD_isMap l k (by omega)
    unfold placesE
    rw [fin_take_succ _ _ (by omega), placesD_snoc, ih]
    rfl
theorem placesE_succ (l : List Ev) (k : Nat) (h : k < l.length) : placesE l (k + 1) = DataW.insert (keyL (evAt l k).g, litI k) ((placesE l k).filter fun p => !p.1.sameKey (keyL (evAt l k).g)) := by
  have ih := placesD_isMap l k (by omega)
  conv => lhs; unfold placesE
  rw [fin_take_succ _ _ h, placesD_snoc, ih]
  rfl

/- Behind k events: each entry is the last of its tag; each tag has one; as many as events just where no tag came twice. -/
structure PlacesAt (l : List Ev) (k : Nat) : Prop where
  le : (placesE l k).length ≤ k
  ent : ∀ p ∈ placesE l k, ∃ i, i < k ∧ p = (keyL (evAt l i).g, litI i) ∧ ∀ j, i < j → j < k → (evAt l j).g ≠ (evAt l i).g
  has : ∀ i, i < k → ∃ p ∈ placesE l k, p.1 = keyL (evAt l i).g
  iff : (placesE l k).length = k ↔ ∀ i, i < k → ∀ j, j < i → (evAt l j).g ≠ (evAt l i).g

theorem placesAt (l : List Ev) (hw : ∀ i, i < l.length → wfI (evAt l i).g) : ∀ k, k ≤ l.length → PlacesAt l k
  | 0, _ => ⟨Nat.le_refl _, fun p hp => (by cases hp), fun i hi => (by omega), ⟨fun _ i hi => (by omega), fun _ => rfl⟩⟩
  | k + 1, h => by
    have ih := placesAt l hw k (by omega)
    have hk := hw k (by omega)
    have hs := placesE_succ l k (by omega)
    have hlen : (placesE l (k + 1)).length = ((placesE l k).filter fun p => !p.1.sameKey (keyL (evAt l k).g)).length + 1 := by rw [hs, length_insert]
    have hfl : ((placesE l k).filter fun p => !p.1.sameKey (keyL (evAt l k).g)).length ≤ (placesE l k).length := List.length_filter_le _ _
    refine ⟨by have := ih.le; omega, ?_, ?_, ?_⟩
    · intro p hp
      rw [hs] at hp
      rcases ChangeMaps.mem_insert_iff.1 hp with rfl | hp
      · exact ⟨k, by omega, rfl, fun j h1 h2 => by omega⟩
      · obtain ⟨hp, hn⟩ := List.mem_filter.1 hp
        obtain ⟨i, hi, rfl, hl⟩ := ih.ent p hp
        refine ⟨i, by omega, rfl, fun j h1 h2 => ?_⟩
        by_cases e : j = k
        · subst e
          simp only [sameKey_keyL (hw i (by omega)) hk, Bool.not_eq_true', decide_eq_false_iff_not] at hn
          exact fun e => hn e.symm
        · exact hl j h1 (by omega)
    · intro i hi
      rw [hs]
      by_cases e : (evAt l i).g = (evAt l k).g
      · exact ⟨_, ChangeMaps.mem_insert_iff.2 (.inl rfl), by rw [e]⟩
      · have hik : i < k := by
          rcases Nat.lt_or_ge i k with h | h
          · exact h
          · exact absurd (by rw [show i = k from by omega]) e
        obtain ⟨p, hp, he⟩ := ih.has i hik
        refine ⟨p, ChangeMaps.mem_insert_iff.2 (.inr (List.mem_filter.2 ⟨hp, ?_⟩)), he⟩
        rw [he, sameKey_keyL (hw i (by omega)) hk]
        simpa using e
    · rw [hlen]
      constructor
      · intro heq
        have hall : (placesE l k).length = k := by have := ih.le; omega
        have hfe : ((placesE l k).filter fun p => !p.1.sameKey (keyL (evAt l k).g)).length = (placesE l k).length := by omega
        have hf := List.length_filter_eq_length_iff.1 hfe
        intro i hi j hj
        by_cases e : i = k
        · subst e
          obtain ⟨p, hp, he⟩ := ih.has j hj
          have := hf p hp
          rw [he, sameKey_keyL (hw j (by omega)) hk] at this
          simpa using this
        · exact (ih.iff.1 hall) i (by omega) j hj
      · intro hd
        have hall : (placesE l k).length = k := ih.iff.2 (fun i hi j hj => hd i (by omega) j hj)
        have hfe : ((placesE l k).filter fun p => !p.1.sameKey (keyL (evAt l k).g)).length = (placesE l k).length := by
          refine List.length_filter_eq_length_iff.2 (fun p hp => ?_)
          obtain ⟨i, hi, rfl, _⟩ := ih.ent p hp
          rw [sameKey_keyL (hw i (by omega)) hk]
          simpa using hd k (by omega) i hi
        omega
end Go.Proofs.Yteecpandpkicmaa

/- cmp.Or over a row of ints. -/
namespace Go.Proofs.Yteecpandpkicmaa
open Go.RowKit
def orL : List Int → Int
  | [] => 0
  | x :: r => if x ≠ 0 then x else orL r
theorem orL_at (zs : List Int) (k : Nat) (hk : k < zs.length) (h0 : ∀ i, i < k → zs[i]?.getD 0 = 0) (hx : zs[k]?.getD 0 ≠ 0) : orL zs = zs[k]?.getD 0 := by
  induction zs generalizing k with
  | nil => simp at hk
  | cons x r ih =>
    cases k with
    | zero => simp at hx; simp [orL, hx]
    | succ k =>
      have hx0 : x = 0 := by simpa using h0 0 (by omega)
      simp only [orL, hx0]
      simpa using ih k (by simpa using hk) (fun i hi => by simpa using h0 (i + 1) (by omega)) (by simpa using hx)
theorem orL_none (zs : List Int) (h0 : ∀ i, i < zs.length → zs[i]?.getD 0 = 0) : orL zs = 0 := by
  induction zs with
  | nil => rfl
  | cons x r ih =>
    have hx0 : x = 0 := by simpa using h0 0 (by simp)
    simp only [orL, hx0]
    simpa using ih (fun i hi => by simpa using h0 (i + 1) (by simpa using hi))

set_option maxHeartbeats 400000 in
theorem or_any (b cap : Nat) (zs : List Int) (w : World) (hl : zs.length ≤ maxLen) (hc : ∀ i, i < zs.length → w.cell? ⟨b, i, none⟩ = some (.int .i64 (zs[i]?.getD 0))) :
    Calls Try.prog 34 #[.slice (some ⟨b, 0, none⟩) zs.length cap] w fun e w' => e = .returned (.int .i64 (orL zs)) ∧ w' = w := by
  unfold maxLen at hl
  go_enter Try.func34, Try.ntmps34
  go_wp2
  go_loop [8] (fun i => ∃ k : Nat, k ≤ zs.length ∧ i = .int .i64 k ∧ ∀ i, i < k → zs[i]?.getD 0 = 0) (fun i => zs.length - (intOf i).toNat)
  case atStart => exact ⟨0, Nat.zero_le _, rfl, fun i h => by omega⟩
  case round =>
    obtain ⟨k, hk, rfl, h0⟩ := hrel
    have H0 : Hid (∀ i, i < k → zs[i]?.getD 0 = 0) := h0
    clear h0
    by_cases hlt : k < zs.length
    · have hck := hc k hlt
      have HC : Hid (∀ i, i < zs.length → w.cell? ⟨b, i, none⟩ = some (.int .i64 (zs[i]?.getD 0))) := hc
      clear hc
      generalize hx : zs[k]?.getD 0 = x at hck
      have HX : Hid (zs[k]?.getD 0 = x) := hx
      clear hx
      by_cases hz : x = 0
      · subst hz
        go_wp2
        go_round
        case rel => exact ⟨k + 1, by omega, by go_num, fun i hi => by
          by_cases e : i = k
          · subst e; exact HX.out
          · exact H0.out i (by omega)⟩
        case measure => simp [intOf]; omega
      · have hne : (x != 0) = true := by simpa using hz
        go_wp2
        go_ret
        exact ⟨ret_int (by rw [orL_at zs k hlt H0.out (by rw [HX.out]; exact hz), HX.out]), rfl⟩
    · go_wp2
      go_ret
      exact ⟨ret_int (by rw [orL_none zs (fun i hi => H0.out i (by omega))]), rfl⟩
end Go.Proofs.Yteecpandpkicmaa

