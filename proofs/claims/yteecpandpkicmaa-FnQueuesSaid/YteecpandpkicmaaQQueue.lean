/- What is drawn for queues: l1queue, DrawInsert. -/
import Derived.Test.YteecpandpkicmaaQDraw
import Derived.Test.YteecpandpkicmaaMid
namespace Go.Proofs.Yteecpandpkicmaa
open Go.RowKit

theorem OwnR.caps {B : Nat} {w : World} {x : Value} {l : List Ev} (h : OwnR B w x l) : (x = .slice none 0 0 ∧ l = []) ∨ ∃ g cap, x = .slice (some ⟨g, 0, none⟩) l.length cap ∧ l.length ≤ cap ∧ cap ≤ maxLen ∧ EvsAt w g 0 l ∧ B ≤ g := by
  have h' := h
  obtain ⟨h0, ⟨e, h1⟩ | ⟨g, cap, cur, e, hg, hc, h1, h2, h3, h4⟩⟩ := h
  · exact .inl ⟨e, List.eq_nil_of_length_eq_zero h1⟩
  · subst e
    rcases h'.src with ⟨e, _⟩ | ⟨b, off, cap', e, he⟩
    · cases e
    · cases e
      exact .inr ⟨g, cap, rfl, h1, h2, he, hg⟩
set_option maxHeartbeats 1000000 in
theorem find_nilq (tag : Int) (w : World) : Calls Try.prog 51 #[.slice none 0 0, .int .i64 tag] w fun e w' => e = .returned (.int .i64 (-1)) ∧ w' = w := by
  go_enter Try.func51, Try.ntmps51
  go_wp2
  go_loop [5] (fun i => i = .int .i64 0) (fun _ => 0)
  case atStart => rfl
  case round =>
    subst hrel
    go_wp2
    go_ret
    exact ⟨rfl, rfl⟩
theorem find_row {B : Nat} {w : World} {v : Value} {l : List Ev} (tag : Int) (h : OwnR B w v l) (hl : l.length ≤ 1048576) : Calls Try.prog 51 #[v, .int .i64 tag] w fun e w' => (∃ x : Int, e = .returned (.int .i64 x)) ∧ w' = w := by
  rcases h.caps with ⟨rfl, rfl⟩ | ⟨g, cap, rfl, h1, h2, he, _⟩
  · exact (find_nilq tag w).mono fun e w' ⟨h1, h2⟩ => ⟨⟨_, h1⟩, h2⟩
  · exact (find_any g 0 cap l tag w hl he).mono fun e w' ⟨h1, h2⟩ => ⟨by
      rcases h1 with ⟨i, h1, _⟩ | ⟨h1, _⟩
      · exact ⟨_, h1⟩
      · exact ⟨_, h1⟩, h2⟩
theorem insert_drawn {B : Nat} {w : World} {v : Value} {l : List Ev} (e : Ev) (h : OwnR B w v l) (hl : l.length ≤ 1000) : Calls Try.prog 52 #[v, e.val] w fun r w' => ∃ x l', r = .returned x ∧ OwnR w.heap.size w' x l' ∧ l'.length = l.length + 1 ∧ Below w.heap.size w w' := by
  rcases h.caps with ⟨rfl, rfl⟩ | ⟨g, cap, rfl, h1, h2, he, _⟩
  · exact (insert_nil_row e w).mono fun r w' ⟨x, h1, h2, h3⟩ => ⟨x, [e], h1, h2, rfl, h3⟩
  · exact (insert_row g 0 cap l e w h1 (by omega) he).mono fun r w' ⟨p, x, h1, h2, h3, h4⟩ => ⟨x, _, h1, h3, by have := h2.1; simp; omega, h4⟩

set_option maxRecDepth 100000 in
set_option maxHeartbeats 4000000 in
theorem queue_any (c : Nat) (w : World) (H : Cur w c) :
    Calls Try.prog 26 #[.pointer (some ⟨c, 0, none⟩)] w fun r w' => ∃ v l, r = .returned v ∧ OwnR w.heap.size w' v l ∧ l.length ≤ 9 ∧ Cur w' c ∧ Turns (fun k => k = c) w w' := by
  have hcw := H.lt
  have HC : Hid (Cur w c) := H
  clear H
  obtain ⟨i0, hi, hz0, hz1, hz2⟩ := info_parts info25
  go_enter Try.func26, Try.ntmps26
  go_wp2_with fail
  refine (below_any c _ _ HC.out).mono ?_
  rintro r w1 ⟨x, rfl, hx0, hx1, hC1, hT1⟩
  have hx8 := hx1 (by omega)
  obtain ⟨m, rfl⟩ : ∃ m : Nat, x = (m : Int) := ⟨x.toNat, by omega⟩
  have hm : m ≤ 8 := by omega
  have HC1 : Hid (Cur w1 c) := hC1
  have HT1 : Hid (Turns (fun k => k = c) w w1) := hT1
  clear hC1 hT1 hx1 hx8 hx0
  go_wp2
  go_loopw [3, 5] (fun o i wr => ∃ (k : Nat) (v : Value) (l : List Ev), k ≤ m ∧ v = o ∧ i = .int .i64 k ∧ OwnR w.heap.size wr v l ∧ l.length ≤ k ∧ Cur wr c ∧ Turns (fun k => k = c) w wr) (fun _ i _ => m - (intOf i).toNat)
  case atStart => exact ⟨0, _, [], Nat.zero_le _, rfl, rfl, OwnR.nil _ _, Nat.le_refl _, HC1.out, HT1.out⟩
  case round =>
    obtain ⟨k, v, l, hk, rfl, rfl, hR, hlk, hCr, hTr⟩ := hrel
    have HR : Hid (OwnR w.heap.size wr v l) := hR
    have HCr : Hid (Cur wr c) := hCr
    have HTr : Hid (Turns (fun k => k = c) w wr) := hTr
    clear hR hCr hTr HC1 HT1
    by_cases hlt : k < m
    · go_wp2_with fail
      refine (draw_any c _ HCr.out).mono ?_
      rintro r w2 ⟨e, rfl, hC2, hT2⟩
      have HC2 : Hid (Cur w2 c) := hC2
      have HT2 : Hid (Turns (fun k => k = c) w w2) := HTr.out.trans hT2
      have HR2 : Hid (OwnR w.heap.size w2 v l) := HR.out.turns hT2 (fun k hk => by omega)
      clear hC2 hT2 HCr HTr HR
      obtain ⟨f0, f1, f2, f3, f4, f5, f6⟩ := (Bx.new w2 25 e).ev
      simp only [Nat.zero_add] at f1 f2 f3 f4 f5 f6
      have HR2a : Hid (OwnR w.heap.size (w2.alloc (.cells #[.int .i64 e.t, .int .i64 e.s, .int .i64 e.q, .int .i64 e.d, .int .i64 e.k, .int .i64 e.v, .int .i64 e.g] 25)) v l) := HR2.out.turns ((Turns.refl (fun _ => False) w2).alloc _) (fun _ h => h.elim)
      have hl5 : l.length ≤ 1048576 := by omega
      go_wp2_with fail
      refine (find_row e.g HR2a.out hl5).mono ?_
      rintro r w3 ⟨⟨x, rfl⟩, hw3⟩
      obtain rfl := hw3.symm
      clear hw3
      by_cases hx : x < 0
      · go_wp2_with fail
        refine (insert_drawn e HR2a.out (by omega)).mono ?_
        rintro r w4 ⟨y, l', rfl, hR4, hl4, hB4⟩
        have HR4 : Hid (OwnR w.heap.size w4 y l') := hR4.mono (by have := HT2.out.size; simp; omega)
        have HC4 : Hid (Cur w4 c) := (HC2.out.alloc _).below hB4 (by have := HT2.out.size; simp; omega)
        have HT4 : Hid (Turns (fun k => k = c) w w4) := (HT2.out.alloc _).trans (Turns.of_below hB4)
        clear hR4 hB4
        go_wp2
        go_roundw
        case rel => exact ⟨k + 1, _, l', by omega, rfl, by go_num, HR4.out, by omega, HC4.out, HT4.out⟩
        case measure => simp [intOf]; omega
      · go_wp2
        go_roundw
        case rel => exact ⟨k + 1, _, l, by omega, rfl, by go_num, HR2a.out, by omega, HC2.out.alloc _, HT2.out.alloc _⟩
        case measure => simp [intOf]; omega
    · go_wp2_with fail
      refine (once_any c _ _ HCr.out).mono ?_
      rintro r w2 ⟨x, rfl, hC2, hT2⟩
      have HC2 : Hid (Cur w2 c) := hC2
      have HT2 : Hid (Turns (fun k => k = c) w w2) := HTr.out.trans hT2
      have HR2 : Hid (OwnR w.heap.size w2 v l) := HR.out.turns hT2 (fun k hk => by omega)
      clear hC2 hT2 HCr HTr HR
      cases x with
      | false =>
        go_wp2
        go_ret
        exact ⟨v, l, rfl, HR2.out, by omega, HC2.out, HT2.out⟩
      | true =>
        go_wp2_with fail
        refine (bent_any c _ HC2.out).mono ?_
        rintro r w3 ⟨e, rfl, hC3, hT3⟩
        have HC3 : Hid (Cur w3 c) := hC3
        have HT3 : Hid (Turns (fun k => k = c) w w3) := HT2.out.trans hT3
        have HR3 : Hid (OwnR w.heap.size w3 v l) := HR2.out.turns hT3 (fun k hk => by omega)
        have hs3 := HT3.out.size
        clear hC3 hT3 HC2 HT2 HR2
        go_wp2_with (at_builtin; refine wpList_append_own _ rfl _ _ 23 rfl w.heap.size 25 i0 _ 7 56 Try.underlying23 hi hz0 hz1 hz2 rfl (by decide) v _ _ rfl (World.ownsRow.alloc HR3.out _) ⟨w3.heap.size, 0, none⟩ 1 1 e.cs rfl rfl (Ev.In.cells (EvAt.new _ _ _ _ _ _ _ _ _)) (Ev.cs_one e) (by unfold maxLen; omega) (by omega) (by simp; omega) ?_; intro v' w4 hown hgrow hnil)
        go_ret
        have hB4 : Below (w3.heap.size) w3 (w3.alloc (.cells #[.int .i64 e.t, .int .i64 e.s, .int .i64 e.q, .int .i64 e.d, .int .i64 e.k, .int .i64 e.v, .int .i64 e.g] 25)) := (Below.refl _ w3).alloc (Nat.le_refl _) _
        have hT4 : Turns (fun k => w.heap.size ≤ k) (w3.alloc (.cells #[.int .i64 e.t, .int .i64 e.s, .int .i64 e.q, .int .i64 e.d, .int .i64 e.k, .int .i64 e.v, .int .i64 e.g] 25)) w4 := ⟨hgrow.os, hgrow.tape, hgrow.output, hgrow.size, fun j hj hn => hgrow.block j hj (fun er => hn (row_ge HR3.out er.symm))⟩
        refine ⟨v', l ++ [e], rfl, ?_, by simp; omega, (HC3.out.alloc _).below (B := w.heap.size) (hT4.to_below (fun k hk => hk) (by simp; omega)) hcw, ?_⟩
        · unfold OwnR
          rw [List.length_append, cellsL_append]
          simpa [cellsL] using hown
        · exact (((HT3.out.alloc _).mono (S' := fun k => k = c ∨ w.heap.size ≤ k) (fun k hk => .inl hk)).trans (hT4.mono (fun k hk => .inr hk))).old (fun k hk h => h.resolve_right (by omega))
end Go.Proofs.Yteecpandpkicmaa
