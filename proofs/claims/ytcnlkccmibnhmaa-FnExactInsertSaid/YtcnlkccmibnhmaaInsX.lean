/- The specification's Insert; both give the same. -/
import Derived.Test.YtcnlkccmibnhmaaInsY
namespace Go.Proofs.Ytcnlkccmibnhmaa
open Go.RowKit
def InsOut (B : Nat) (l : List Ev) (e : Ev) (r : Ending) (w' : World) : Prop :=
  ((¬ GoodQ l ∨ e.ok = false) ∧ Answers B [] false r w') ∨ (GoodQ l ∧ e.ok = true ∧ ((∃ k, FirstAt l e.g k) ∨ 2000 ≤ l.length) ∧ Answers B l false r w') ∨ (GoodQ l ∧ e.ok = true ∧ NoTag l e.g ∧ l.length < 2000 ∧ Inserted B l e r w')

set_option maxRecDepth 100000 in
set_option maxHeartbeats 4000000 in
theorem sInsert_any (b off : Nat) (l : List Ev) (e : Ev) (w : World) (hl : l.length ≤ 1048576) (hI : EvsAt w b off l) :
    Calls Try.prog 19 #[.slice (some ⟨b, off, none⟩) l.length l.length, e.val] w fun r w' => InsOut w.heap.size l e r w' ∧ Below w.heap.size w w' := by
  have hm : l.length ≤ maxLen := by unfold maxLen; omega
  have hB0 : Below w.heap.size w (w.alloc (.cells #[.int .i64 e.t, .int .i64 e.s, .int .i64 e.q, .int .i64 e.d, .int .i64 e.k, .int .i64 e.v, .int .i64 e.g] 25)) := (Below.refl _ w).alloc (Nat.le_refl _) _
  have HI : Hid (EvsAt (w.alloc (.cells #[.int .i64 e.t, .int .i64 e.s, .int .i64 e.q, .int .i64 e.d, .int .i64 e.k, .int .i64 e.v, .int .i64 e.g] 25)) b off l) := hI.below hB0 hI.1
  have hb := hI.1
  clear hI
  go_enter Try.func19, Try.ntmps19
  go_wp2_with fail
  refine (sQueue_any _ l _ hl ⟨_, _, rfl, Nat.le_refl _, hm, .inr ⟨b, off, rfl, HI.out⟩⟩).mono ?_
  rintro r w1 ⟨⟨bb, rfl, hs⟩, hb1⟩
  have HS : Hid (bb = true ↔ GoodQ l) := hs
  have HE1 : Hid (Ev.In w1 w.heap.size 0 e) := (EvAt.new w 25 e.t e.s e.q e.d e.k e.v e.g).below hb1 (by simp)
  have HB1 : Hid (Below w.heap.size w w1) := hB0.trans (hb1.mono (by simp))
  have HI1 : Hid (EvsAt w1 b off l) := HI.out.below hb1 (by simp; omega)
  have hz1 : w.heap.size < w1.heap.size := by have := hb1.size; simp at this; omega
  clear hs hb1 hB0 HI
  cases bb
  · have HG : Hid (¬ GoodQ l) := fun h => by have := HS.out.2 h; cases this
    clear HS
    go_wp2
    go_ret2
    exact ⟨.inl ⟨.inl HG.out, _, rfl, OwnEvs.nil _ _⟩, HB1.out⟩
  · have HG : Hid (GoodQ l) := HS.out.1 rfl
    clear HS
    obtain ⟨f0, f1, f2, f3, f4, f5, f6⟩ := HE1.out.lits
    cases hok : e.ok
    · have HK : Hid (e.ok = false) := hok
      clear hok
      go_wp2_with fail
      refine (sOk_ev e false HK.out _).mono ?_
      rintro r w2 ⟨rfl, hb2⟩
      have HB2 : Hid (Below w.heap.size w w2) := HB1.out.trans (hb2.mono HB1.out.size)
      clear hb2 f0 f1 f2 f3 f4 f5 f6
      go_wp2
      go_ret2
      exact ⟨.inl ⟨.inr HK.out, _, rfl, OwnEvs.nil _ _⟩, HB2.out⟩
    · have HK : Hid (e.ok = true) := hok
      clear hok
      go_wp2_with fail
      refine (sOk_ev e true HK.out _).mono ?_
      rintro r w2 ⟨rfl, hb2⟩
      have HE2 : Hid (Ev.In w2 w.heap.size 0 e) := HE1.out.below hb2 hz1
      have HB2 : Hid (Below w.heap.size w w2) := HB1.out.trans (hb2.mono HB1.out.size)
      have HI2 : Hid (EvsAt w2 b off l) := HI1.out.below hb2 HI1.out.1
      have hz2 : w.heap.size < w2.heap.size := by have := hb2.size; omega
      clear hb2 HE1 HB1 HI1 hz1 f0 f1 f2 f3 f4 f5 f6
      obtain ⟨f0, f1, f2, f3, f4, f5, f6⟩ := HE2.out.lits
      go_wp2_with fail
      refine (find_any b off _ l e.g _ hl HI2.out).mono ?_
      rintro r w3 ⟨hcase, hw⟩
      have hw' := hw.symm
      clear hw
      subst hw'
      rcases hcase with ⟨k, rfl, hk⟩ | ⟨rfl, hno⟩
      · have HF : Hid (FirstAt l e.g k) := hk
        have hk1 : (0 : Int) ≤ (k : Int) := by omega
        clear hk
        go_wp2_with fail
        refine (own_any b off _ l _ hl HI2.out).mono ?_
        rintro r w4 ⟨x, rfl, hx, hb4⟩
        have HX : Hid (OwnEvs w.heap.size w4 x l) := hx.mono HB2.out.size
        have HB4 : Hid (Below w.heap.size w w4) := HB2.out.trans (hb4.mono HB2.out.size)
        clear hx hb4
        go_wp2
        go_ret2
        exact ⟨.inr (.inl ⟨HG.out, HK.out, .inl ⟨k, HF.out⟩, x, rfl, HX.out⟩), HB4.out⟩
      · have HF : Hid (NoTag l e.g) := hno
        clear hno
        by_cases hfull : 2000 ≤ l.length
        · have hfi : (2000 : Int) ≤ (l.length : Int) := by omega
          have hfd : decide (2000 ≤ l.length) = true := by simpa using hfull
          go_wp2_with fail
          refine (own_any b off _ l _ hl HI2.out).mono ?_
          rintro r w4 ⟨x, rfl, hx, hb4⟩
          have HX : Hid (OwnEvs w.heap.size w4 x l) := hx.mono HB2.out.size
          have HB4 : Hid (Below w.heap.size w w4) := HB2.out.trans (hb4.mono HB2.out.size)
          clear hx hb4
          go_wp2
          go_ret2
          exact ⟨.inr (.inl ⟨HG.out, HK.out, .inr hfull, x, rfl, HX.out⟩), HB4.out⟩
        · have hfi : (l.length : Int) < 2000 := by omega
          have hfd : decide (2000 ≤ l.length) = false := by simpa using hfull
          go_wp2_with fail
          refine (insert_any b off l e _ hl HI2.out).mono ?_
          rintro r w4 ⟨p, x, rfl, hp, hx, hb4⟩
          have HX : Hid (Inserted w.heap.size l e (.returned (.tuple #[x, .bool true])) w4) := ⟨p, x, rfl, hp, hx.mono HB2.out.size⟩
          have HB4 : Hid (Below w.heap.size w w4) := HB2.out.trans (hb4.mono HB2.out.size)
          clear hx hb4 hp
          go_wp2
          go_ret2
          exact ⟨.inr (.inr ⟨HG.out, HK.out, HF.out, by omega, HX.out⟩), HB4.out⟩

theorem insAt_same {l : List Ev} {e : Ev} {p i : Nat} (h : InsAt l e p) (h' : InsAt l e i) : p = i := by
  rcases Nat.lt_trichotomy p i with h1 | h1 | h1
  · exact absurd (h'.2.1 p h1) (h.2.2 (by have := h'.1; omega))
  · exact h1
  · exact absurd (h.2.1 i h1) (h'.2.2 (by have := h.1; omega))
theorem insAt_ex (l : List Ev) (e : Ev) : ∃ p, InsAt l e p := by
  have key : ∀ n, n ≤ l.length → (∃ p, InsAt l e p) ∨ ∀ j, j < n → (evAt l j).cmp e < 0 := by
    intro n
    induction n with
    | zero => intro _; exact .inr (fun j hj => by omega)
    | succ n ih =>
      intro hn
      rcases ih (by omega) with h | h
      · exact .inl h
      · by_cases hc : (evAt l n).cmp e < 0
        · exact .inr (fun j hj => by
            by_cases ej : j = n
            · subst ej; exact hc
            · exact h j (by omega))
        · exact .inl ⟨n, by omega, h, fun _ => hc⟩
  rcases key l.length (Nat.le_refl _) with h | h
  · exact h
  · exact ⟨l.length, Nat.le_refl _, h, fun h => absurd h (Nat.lt_irrefl _)⟩
theorem Inserted.answers {B : Nat} {l : List Ev} {e : Ev} {r : Ending} {w : World} {p : Nat} (hp : InsAt l e p) (h : Inserted B l e r w) : Answers B (l.take p ++ e :: l.drop p) true r w := by
  obtain ⟨k, x, h1, h2, h3⟩ := h
  rw [insAt_same hp h2]
  exact ⟨x, h1, h3⟩

theorem insert_same (l : List Ev) (e : Ev) (hl : l.length ≤ 1048576) : ∃ (l' : List Ev) (bb : Bool), l'.length ≤ 1048577 ∧
    (∀ (w : World) (g : Nat), RowTo w g l.length l l.length → Calls Try.prog 19 #[.slice (some ⟨g, 0, none⟩) l.length l.length, e.val] w fun e w' => Answers w.heap.size l' bb e w' ∧ Below w.heap.size w w') ∧
    (∀ (w : World) (g : Nat), RowTo w g l.length l l.length → Calls Try.prog 20 #[.slice (some ⟨g, 0, none⟩) l.length l.length, e.val] w fun e w' => Answers w.heap.size l' bb e w' ∧ Below w.heap.size w w') := by
  by_cases hg : GoodQ l
  · cases hok : e.ok
    · refine ⟨[], false, by simp, fun w g h => (sInsert_any g 0 l e w hl h.evs).mono ?_, fun w g h => iInsert_bad2 g 0 l e w hl h.evs hg hok⟩
      rintro r w' ⟨h1 | ⟨_, h1, _⟩ | ⟨_, h1, _⟩, hb⟩
      · exact ⟨h1.2, hb⟩
      · rw [hok] at h1; cases h1
      · rw [hok] at h1; cases h1
    · rcases firstAt_or l e.g with ⟨k, hk⟩ | hno
      · refine ⟨l, false, by omega, fun w g h => (sInsert_any g 0 l e w hl h.evs).mono ?_, fun w g h => iInsert_dup g 0 l e w hl h.evs hg hok ⟨k, hk⟩⟩
        rintro r w' ⟨⟨h1 | h1, _⟩ | ⟨_, _, _, h1⟩ | ⟨_, _, h1, _⟩, hb⟩
        · exact (h1 hg).elim
        · rw [hok] at h1; cases h1
        · exact ⟨h1, hb⟩
        · exact (h1 k hk.1 hk.2.1).elim
      · by_cases hfull : l.length = 2000
        · refine ⟨l, false, by omega, fun w g h => (sInsert_any g 0 l e w hl h.evs).mono ?_, fun w g h => iInsert_full g 0 l e w hl h.evs hg hok hno hfull⟩
          rintro r w' ⟨⟨h1 | h1, _⟩ | ⟨_, _, _, h1⟩ | ⟨_, _, _, h1, _⟩, hb⟩
          · exact (h1 hg).elim
          · rw [hok] at h1; cases h1
          · exact ⟨h1, hb⟩
          · omega
        · obtain ⟨p, hp⟩ := insAt_ex l e
          refine ⟨l.take p ++ e :: l.drop p, true, by simp; omega, fun w g h => (sInsert_any g 0 l e w hl h.evs).mono ?_, fun w g h => (iInsert_yes g 0 l e w hl h.evs hg hok hno hfull).mono ?_⟩
          · rintro r w' ⟨⟨h1 | h1, _⟩ | ⟨_, _, h1, _⟩ | ⟨_, _, _, _, h1⟩, hb⟩
            · exact (h1 hg).elim
            · rw [hok] at h1; cases h1
            · rcases h1 with ⟨k, hk⟩ | h1
              · exact (hno k hk.1 hk.2.1).elim
              · exact (hfull (by have := hg.1; omega)).elim
            · exact ⟨h1.answers hp, hb⟩
          · rintro r w' ⟨h1, hb⟩
            exact ⟨h1.answers hp, hb⟩
  · refine ⟨[], false, by simp, fun w g h => (sInsert_any g 0 l e w hl h.evs).mono ?_, fun w g h => iInsert_bad1 g 0 l e w hl h.evs hg⟩
    rintro r w' ⟨h1 | ⟨h1, _⟩ | ⟨h1, _⟩, hb⟩
    · exact ⟨h1.2, hb⟩
    · exact (hg h1).elim
    · exact (hg h1).elim
end Go.Proofs.Ytcnlkccmibnhmaa
