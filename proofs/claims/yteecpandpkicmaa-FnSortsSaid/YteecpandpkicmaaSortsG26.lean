/- HeapS, Mid, QQueue, UpS, PushS -/
import Derived.Test.YteecpandpkicmaaSortsG01
import Derived.Test.YteecpandpkicmaaSortsG15
import Derived.Test.YteecpandpkicmaaSortsG04
import Derived.Test.YteecpandpkicmaaSortsG18
import Derived.Test.YteecpandpkicmaaSortsLOwnS
import Derived.Test.YteecpandpkicmaaSortsG25
import Derived.Test.YteecpandpkicmaaSortsLQDraw
import Derived.Test.YteecpandpkicmaaSortsG10
import Derived.Deep.RegionHeld3
import Derived.Deep.Cut
/- The specification's HeapOk. -/
namespace Go.Proofs.Yteecpandpkicmaa
open Go.RowKit
def Good1H (l : List Ev) (i : Nat) : Prop := (evAt l i).ok = true ∧ (0 < i → (evAt l ((i - 1) / 2)).cmp (evAt l i) < 0) ∧ ∀ j, j < i → (evAt l j).g ≠ (evAt l i).g
def GoodH (l : List Ev) : Prop := l.length ≤ 2000 ∧ ∀ i, i < l.length → Good1H l i
theorem no_goodH {l : List Ev} {k : Nat} (hk : k < l.length) (h : ¬ Good1H l k) : ¬ GoodH l := fun e => (h (e.2 k hk)).elim
theorem find_some (b off cap : Nat) (l : List Ev) (tag : Int) (i : Nat) (w : World) (hl : l.length ≤ 1048576) (hI : EvsAt w b off l) (hi : FirstAt l tag i) :
    Calls Try.prog 51 #[.slice (some ⟨b, off, none⟩) l.length cap, .int .i64 tag] w fun e w' => e = .returned (.int .i64 (i : Int)) ∧ w' = w :=
  (find_any b off cap l tag w hl hI).mono fun e w' ⟨h, hw⟩ => by
    rcases h with ⟨j, rfl, hj⟩ | ⟨_, hno⟩
    · rw [firstAt_unique hi hj]; exact ⟨rfl, hw⟩
    · exact (hno i hi.1 hi.2.1).elim
theorem find_none (b off cap : Nat) (l : List Ev) (tag : Int) (w : World) (hl : l.length ≤ 1048576) (hI : EvsAt w b off l) (hn : NoTag l tag) :
    Calls Try.prog 51 #[.slice (some ⟨b, off, none⟩) l.length cap, .int .i64 tag] w fun e w' => e = .returned (.int .i64 (-1)) ∧ w' = w :=
  (find_any b off cap l tag w hl hI).mono fun e w' ⟨h, hw⟩ => by
    rcases h with ⟨j, rfl, hj⟩ | ⟨rfl, _⟩
    · exact (hn j hj.1 hj.2.1).elim
    · exact ⟨rfl, hw⟩
end Go.Proofs.Yteecpandpkicmaa

/- Piles and rows, more. -/
namespace Go.Proofs.Yteecpandpkicmaa
open Go.RowKit
theorem GoodH.heap {l : List Ev} (h : GoodH l) : HeapL l := fun i h0 hi => (h.2 i hi).2.1 h0
theorem GoodH.oks {l : List Ev} (h : GoodH l) : Kept (fun e => e.ok = true) l := fun i hi => (h.2 i hi).1
theorem Pl.later {w w' : World} {B P : Nat} {v : Value} {l : List Ev} (h : Pl w B P v l) (hb : Below w.heap.size w w') : Pl w' B P v l :=
  ⟨(hb.block P h.box.lt).trans h.box, OwnR.below h.row hb, h.low⟩
theorem ans_of {B : Nat} {w w1 w' : World} {x : Value} {l : List Ev} {bb : Bool} (_hb : Below B w w1) (hB : B ≤ w1.heap.size) (hx : OwnR w1.heap.size w' x l) : Answers B l bb (.returned (.tuple #[x, .bool bb])) w' := ⟨x, rfl, (hx.mono hB).own⟩

theorem Pl.low2 {w w' : World} {B X P : Nat} {v : Value} {l : List Ev} (h : Pl w B P v l) (hb : Below X w w') (hP : P < X) (hg : ∀ g, v.ownBlock = Option.some g → g < X) : Pl w' B P v l := by
  refine ⟨(hb.block P hP).trans h.box, ?_, h.low⟩
  obtain ⟨h0, ⟨e, h1⟩ | ⟨g, cap, cur, rfl, hgB, hc, h1⟩⟩ := h.row
  · exact ⟨h0, .inl ⟨e, h1⟩⟩
  · exact ⟨h0, .inr ⟨g, cap, cur, rfl, hgB, (hb.block g (hg g rfl)).trans hc, h1⟩⟩
theorem OwnR.block {B : Nat} {w : World} {x : Value} {l : List Ev} (h : OwnR B w x l) {g : Nat} (hg : x.ownBlock = some g) : B ≤ g ∧ g < w.heap.size := World.ownsRow.lt h g hg
theorem OwnR.turns {S : Nat → Prop} {B : Nat} {w w' : World} {x : Value} {l : List Ev} (h : OwnR B w x l) (ht : Turns S w w') (hS : ∀ k, S k → k < B) : OwnR B w' x l := by
  obtain ⟨h0, ⟨e, h1⟩ | ⟨g, cap, cur, e, hg, hc, h1⟩⟩ := h
  · exact ⟨h0, .inl ⟨e, h1⟩⟩
  · exact ⟨h0, .inr ⟨g, cap, cur, e, hg, (ht.block g (Array.getElem?_eq_some_iff.1 hc).1 (fun hs => by have := hS g hs; omega)).trans hc, h1⟩⟩
theorem Pl.drew {w : World} {B P : Nat} {v : Value} {l : List Ev} (h : Pl w B P v l) : Pl w.drew B P v l := ⟨h.box, World.ownsRow.drew h.row, h.low⟩
end Go.Proofs.Yteecpandpkicmaa

/- What is drawn for queues: l1queue, DrawInsert. -/
namespace Go.Proofs.Yteecpandpkicmaa
open Go.RowKit

theorem OwnR.caps {B : Nat} {w : World} {x : Value} {l : List Ev} (h : OwnR B w x l) : (x = .slice none 0 0 ∧ l = []) ∨ ∃ g cap, x = .slice (some ⟨g, 0, none⟩) l.length cap ∧ l.length ≤ cap ∧ cap ≤ maxLen ∧ EvsAt w g 0 l ∧ B ≤ g := by
  have h' := h
  obtain ⟨h0, ⟨e, h1⟩ | ⟨g, cap, cur, e, hg, hc, h1, h2, h3, h4⟩⟩ := h
  · exact .inl ⟨e, List.eq_nil_of_length_eq_zero h1⟩
  · subst e
    rcases h'.src with ⟨e, _⟩ | ⟨b, off, cap', e, he⟩
    · cases e
    · cases e
      exact .inr ⟨g, cap, rfl, h1, h2, he, hg⟩
set_option maxHeartbeats 1000000 in
theorem find_nilq (tag : Int) (w : World) : Calls Try.prog 51 #[.slice none 0 0, .int .i64 tag] w fun e w' => e = .returned (.int .i64 (-1)) ∧ w' = w := by
  go_enter Try.func51, Try.ntmps51
  go_wp2
  go_loop [5] (fun i => i = .int .i64 0) (fun _ => 0)
  case atStart => rfl
  case round =>
    subst hrel
    go_wp2
    go_ret
    exact ⟨rfl, rfl⟩
theorem find_row {B : Nat} {w : World} {v : Value} {l : List Ev} (tag : Int) (h : OwnR B w v l) (hl : l.length ≤ 1048576) : Calls Try.prog 51 #[v, .int .i64 tag] w fun e w' => (∃ x : Int, e = .returned (.int .i64 x)) ∧ w' = w := by
  rcases h.caps with ⟨rfl, rfl⟩ | ⟨g, cap, rfl, h1, h2, he, _⟩
  · exact (find_nilq tag w).mono fun e w' ⟨h1, h2⟩ => ⟨⟨_, h1⟩, h2⟩
  · exact (find_any g 0 cap l tag w hl he).mono fun e w' ⟨h1, h2⟩ => ⟨by
      rcases h1 with ⟨i, h1, _⟩ | ⟨h1, _⟩
      · exact ⟨_, h1⟩
      · exact ⟨_, h1⟩, h2⟩
theorem insert_drawn {B : Nat} {w : World} {v : Value} {l : List Ev} (e : Ev) (h : OwnR B w v l) (hl : l.length ≤ 1000) : Calls Try.prog 52 #[v, e.val] w fun r w' => ∃ x l', r = .returned x ∧ OwnR w.heap.size w' x l' ∧ l'.length = l.length + 1 ∧ Below w.heap.size w w' := by
  rcases h.caps with ⟨rfl, rfl⟩ | ⟨g, cap, rfl, h1, h2, he, _⟩
  · exact (insert_nil_row e w).mono fun r w' ⟨x, h1, h2, h3⟩ => ⟨x, [e], h1, h2, rfl, h3⟩
  · exact (insert_row g 0 cap l e w h1 (by omega) he).mono fun r w' ⟨p, x, h1, h2, h3, h4⟩ => ⟨x, _, h1, h3, by have := h2.1; simp; omega, h4⟩

set_option maxRecDepth 100000 in
set_option maxHeartbeats 4000000 in
theorem queue_any (c : Nat) (w : World) (H : Cur w c) :
    Calls Try.prog 26 #[.pointer (some ⟨c, 0, none⟩)] w fun r w' => ∃ v l, r = .returned v ∧ OwnR w.heap.size w' v l ∧ l.length ≤ 9 ∧ Cur w' c ∧ Turns (fun k => k = c) w w' := by
  have hcw := H.lt
  have HC : Hid (Cur w c) := H
  clear H
  obtain ⟨i0, hi, hz0, hz1, hz2⟩ := info_parts info25
  go_enter Try.func26, Try.ntmps26
  go_wp2_with fail
  refine (below_any c _ _ HC.out).mono ?_
  rintro r w1 ⟨x, rfl, hx0, hx1, hC1, hT1⟩
  have hx8 := hx1 (by omega)
  obtain ⟨m, rfl⟩ : ∃ m : Nat, x = (m : Int) := ⟨x.toNat, by omega⟩
  have hm : m ≤ 8 := by omega
  have HC1 : Hid (Cur w1 c) := hC1
  have HT1 : Hid (Turns (fun k => k = c) w w1) := hT1
  clear hC1 hT1 hx1 hx8 hx0
  go_wp2
  go_loopw [3, 5] (fun o i wr => ∃ (k : Nat) (v : Value) (l : List Ev), k ≤ m ∧ v = o ∧ i = .int .i64 k ∧ OwnR w.heap.size wr v l ∧ l.length ≤ k ∧ Cur wr c ∧ Turns (fun k => k = c) w wr) (fun _ i _ => m - (intOf i).toNat)
  case atStart => exact ⟨0, _, [], Nat.zero_le _, rfl, rfl, OwnR.nil _ _, Nat.le_refl _, HC1.out, HT1.out⟩
  case round =>
    obtain ⟨k, v, l, hk, rfl, rfl, hR, hlk, hCr, hTr⟩ := hrel
    have HR : Hid (OwnR w.heap.size wr v l) := hR
    have HCr : Hid (Cur wr c) := hCr
    have HTr : Hid (Turns (fun k => k = c) w wr) := hTr
    clear hR hCr hTr HC1 HT1
    by_cases hlt : k < m
    · go_wp2_with fail
      refine (draw_any c _ HCr.out).mono ?_
      rintro r w2 ⟨e, rfl, hC2, hT2⟩
      have HC2 : Hid (Cur w2 c) := hC2
      have HT2 : Hid (Turns (fun k => k = c) w w2) := HTr.out.trans hT2
      have HR2 : Hid (OwnR w.heap.size w2 v l) := HR.out.turns hT2 (fun k hk => by omega)
      clear hC2 hT2 HCr HTr HR
      obtain ⟨f0, f1, f2, f3, f4, f5, f6⟩ := (Bx.new w2 25 e).ev
      simp only [Nat.zero_add] at f1 f2 f3 f4 f5 f6
      have HR2a : Hid (OwnR w.heap.size (w2.alloc (.cells #[.int .i64 e.t, .int .i64 e.s, .int .i64 e.q, .int .i64 e.d, .int .i64 e.k, .int .i64 e.v, .int .i64 e.g] 25)) v l) := HR2.out.turns ((Turns.refl (fun _ => False) w2).alloc _) (fun _ h => h.elim)
      have hl5 : l.length ≤ 1048576 := by omega
      go_wp2_with fail
      refine (find_row e.g HR2a.out hl5).mono ?_
      rintro r w3 ⟨⟨x, rfl⟩, hw3⟩
      obtain rfl := hw3.symm
      clear hw3
      by_cases hx : x < 0
      · go_wp2_with fail
        refine (insert_drawn e HR2a.out (by omega)).mono ?_
        rintro r w4 ⟨y, l', rfl, hR4, hl4, hB4⟩
        have HR4 : Hid (OwnR w.heap.size w4 y l') := hR4.mono (by have := HT2.out.size; simp; omega)
        have HC4 : Hid (Cur w4 c) := (HC2.out.alloc _).below hB4 (by have := HT2.out.size; simp; omega)
        have HT4 : Hid (Turns (fun k => k = c) w w4) := (HT2.out.alloc _).trans (Turns.of_below hB4)
        clear hR4 hB4
        go_wp2
        go_roundw
        case rel => exact ⟨k + 1, _, l', by omega, rfl, by go_num, HR4.out, by omega, HC4.out, HT4.out⟩
        case measure => simp [intOf]; omega
      · go_wp2
        go_roundw
        case rel => exact ⟨k + 1, _, l, by omega, rfl, by go_num, HR2a.out, by omega, HC2.out.alloc _, HT2.out.alloc _⟩
        case measure => simp [intOf]; omega
    · go_wp2_with fail
      refine (once_any c _ _ HCr.out).mono ?_
      rintro r w2 ⟨x, rfl, hC2, hT2⟩
      have HC2 : Hid (Cur w2 c) := hC2
      have HT2 : Hid (Turns (fun k => k = c) w w2) := HTr.out.trans hT2
      have HR2 : Hid (OwnR w.heap.size w2 v l) := HR.out.turns hT2 (fun k hk => by omega)
      clear hC2 hT2 HCr HTr HR
      cases x with
      | false =>
        go_wp2
        go_ret
        exact ⟨v, l, rfl, HR2.out, by omega, HC2.out, HT2.out⟩
      | true =>
        go_wp2_with fail
        refine (bent_any c _ HC2.out).mono ?_
        rintro r w3 ⟨e, rfl, hC3, hT3⟩
        have HC3 : Hid (Cur w3 c) := hC3
        have HT3 : Hid (Turns (fun k => k = c) w w3) := HT2.out.trans hT3
        have HR3 : Hid (OwnR w.heap.size w3 v l) := HR2.out.turns hT3 (fun k hk => by omega)
        have hs3 := HT3.out.size
        clear hC3 hT3 HC2 HT2 HR2
        go_wp2_with (at_builtin; refine wpList_append_own _ rfl _ _ 23 rfl w.heap.size 25 i0 _ 7 56 Try.underlying23 hi hz0 hz1 hz2 rfl (by decide) v _ _ rfl (World.ownsRow.alloc HR3.out _) ⟨w3.heap.size, 0, none⟩ 1 1 e.cs rfl rfl (Ev.In.cells (EvAt.new _ _ _ _ _ _ _ _ _)) (Ev.cs_one e) (by unfold maxLen; omega) (by omega) (by simp; omega) ?_; intro v' w4 hown hgrow hnil)
        go_ret
        have hB4 : Below (w3.heap.size) w3 (w3.alloc (.cells #[.int .i64 e.t, .int .i64 e.s, .int .i64 e.q, .int .i64 e.d, .int .i64 e.k, .int .i64 e.v, .int .i64 e.g] 25)) := (Below.refl _ w3).alloc (Nat.le_refl _) _
        have hT4 : Turns (fun k => w.heap.size ≤ k) (w3.alloc (.cells #[.int .i64 e.t, .int .i64 e.s, .int .i64 e.q, .int .i64 e.d, .int .i64 e.k, .int .i64 e.v, .int .i64 e.g] 25)) w4 := ⟨hgrow.os, hgrow.tape, hgrow.output, hgrow.size, fun j hj hn => hgrow.block j hj (fun er => hn (row_ge HR3.out er.symm))⟩
        refine ⟨v', l ++ [e], rfl, ?_, by simp; omega, (HC3.out.alloc _).below (B := w.heap.size) (hT4.to_below (fun k hk => hk) (by simp; omega)) hcw, ?_⟩
        · unfold OwnR
          rw [List.length_append, cellsL_append]
          simpa [cellsL] using hown
        · exact (((HT3.out.alloc _).mono (S' := fun k => k = c ∨ w.heap.size ≤ k) (fun k hk => .inl hk)).trans (hT4.mono (fun k hk => .inr hk))).old (fun k hk h => h.resolve_right (by omega))
end Go.Proofs.Yteecpandpkicmaa

/- The specification's l0up. -/
namespace Go.Proofs.Yteecpandpkicmaa
open Go.RowKit
set_option maxRecDepth 100000 in
set_option maxHeartbeats 4000000 in
theorem sUp_any (B g cap : Nat) (l : List Ev) (i : Nat) (w : World) (hl : l.length ≤ 1048577) (hR : Row w B g cap l) (hi : i < l.length) :
    Calls Try.prog 68 #[.slice (some ⟨g, 0, none⟩) l.length cap, .int .i64 (i : Int)] w fun e w' => (∃ v, e = .returned v) ∧ Row w' B g cap (upL l i) ∧ Turns (fun b => b = g) w w' := by
  have HR : Hid (Row w B g cap l) := hR
  clear hR
  go_enter Try.func68, Try.ntmps68
  go_wp2
  go_loopw [1] (fun j wr => ∃ (k : Nat) (m : List Ev), k < l.length ∧ j = .int .i64 k ∧ Hid (m.length = l.length) ∧ Hid (Row wr B g cap m) ∧ Hid (upL m k = upL l i) ∧ Hid (Turns (fun b => b = g) w wr)) (fun j _ => (intOf j).toNat)
  case atStart => exact ⟨i, l, hi, rfl, rfl, HR.out, rfl, Turns.refl _ _⟩
  case round =>
    clear HR
    obtain ⟨k, m, hk, rfl, HM, HR, HU, HT⟩ := hrel
    have hkm : k < m.length := by have := HM.out; omega
    have hg : g < wr.heap.size := HR.out.lt.2
    have hne : Nonempty (Beyond wr) := ⟨⟨wr, Below.refl _ _⟩⟩
    by_cases hk0 : k = 0
    · have hd : decide (0 < k) = false := by simp; omega
      have HK : Hid (k = 0) := hk0
      clear hk0
      go_wp2_with fail
      refine wp_region_beyond (by kernel_rfl) (by kernel_rfl) ?_
      repeat (go_big_quiet_step (fail))
      refine wpQuiet_nil ?_
      rintro w2 ⟨⟨_, hb2⟩, rfl⟩
      clear hne hd
      go_wp2
      go_end0
      refine ⟨⟨_, rfl⟩, ?_, HT.out.trans (Turns.of_below hb2)⟩
      rw [← HU.out, upL_stop (by have := HK.out; omega)]
      exact HR.out.below hb2 hg
    · have hd : decide (0 < k) = true := by simp; omega
      have hkp : (1 : Int) ≤ (k : Int) := by omega
      obtain ⟨p, hp⟩ : ∃ p, (k - 1) / 2 = p := ⟨_, rfl⟩
      have HP : Hid ((k - 1) / 2 = p) := hp
      have hpk : p < k := by omega
      have hpm : p < m.length := by omega
      have ek1 : ((k : Int) - 1) / 2 = (p : Int) := by omega
      have ek2 : ((k : Int) - 1).tdiv 2 = (p : Int) := by rw [Int.tdiv_eq_ediv_of_nonneg (by omega)]; exact ek1
      have hp1 : (p : Int) < (m.length : Int) := by omega
      have hk1 : (k : Int) < (m.length : Int) := by omega
      have hml : m.length = l.length := HM.out
      clear hp hk0
      obtain ⟨f0, f1, f2, f3, f4, f5, f6⟩ := (HR.out.ev hkm).beyond hg
      obtain ⟨e0, e1, e2, e3, e4, e5, e6⟩ := (HR.out.ev hpm).beyond hg
      obtain ⟨z, hz⟩ : ∃ z, (evAt m k).cmp (evAt m p) = z := ⟨_, rfl⟩
      have HZ : Hid ((evAt m k).cmp (evAt m p) = z) := hz
      clear hz
      rw [hml] at hp1 hk1
      clear hml
      by_cases hz0 : z < 0
      · have hdz : decide (z < 0) = true := by simpa using hz0
        go_wp2_with fail
        refine wp_region_beyond (by kernel_rfl) (by kernel_rfl) ?_
        repeat (go_big_quiet_step (first | (go_at_call 45; exact Beyond.of (l1cmp_ev (evAt m k) (evAt m p) z HZ.out _))))
        refine wpQuiet_nil ?_
        rintro w2 ⟨⟨_, hb2⟩, rfl⟩
        clear f0 f1 f2 f3 f4 f5 f6 e0 e1 e2 e3 e4 e5 e6 hne hd
        have HR2 : Hid (Row w2 B g cap m) := HR.out.below hb2 hg
        have HSW : Hid (∀ (w : World), Row w B g cap m → Calls Try.prog 69 #[.slice (some ⟨g, 0, none⟩) l.length cap, .int .i64 (k : Int), .int .i64 (p : Int)] w fun e w' => (∃ v, e = .returned v) ∧ Row w' B g cap (swp m k p) ∧ Turns (fun b => b = g) w w') := fun w h => by
          rw [← HM.out]; exact sSwap_any B g cap m k p w h hkm hpm (by omega)
        go_wp2_with fail
        refine (HSW.out _ HR2.out).mono ?_
        rintro e w3 ⟨⟨v, rfl⟩, hr3, ht3⟩
        have HR3 : Hid (Row w3 B g cap (swp m k p)) := hr3
        have HT3 : Hid (Turns (fun b => b = g) w w3) := (HT.out.trans (Turns.of_below hb2)).trans ht3
        clear hr3 ht3 hb2 HR2 HT HR
        go_wp2
        go_roundw
        case rel => exact ⟨p, swp m k p, by omega, by go_num, by have := HM.out; unfold Hid; rw [swp_length]; exact this, HR3.out, (upL_step HP.out hpk (by rw [HZ.out]; exact hz0)).trans HU.out, HT3.out⟩
        case measure => simp [intOf]; omega
      · have hdz : decide (z < 0) = false := by simpa using hz0
        go_wp2_with fail
        refine wp_region_beyond (by kernel_rfl) (by kernel_rfl) ?_
        repeat (go_big_quiet_step (first | (go_at_call 45; exact Beyond.of (l1cmp_ev (evAt m k) (evAt m p) z HZ.out _))))
        refine wpQuiet_nil ?_
        rintro w2 ⟨⟨_, hb2⟩, rfl⟩
        clear f0 f1 f2 f3 f4 f5 f6 e0 e1 e2 e3 e4 e5 e6 hne hd
        go_wp2
        go_end0
        refine ⟨⟨_, rfl⟩, ?_, HT.out.trans (Turns.of_below hb2)⟩
        rw [← HU.out, upL_stop (by rw [HP.out, HZ.out]; omega)]
        exact HR.out.below hb2 hg
end Go.Proofs.Yteecpandpkicmaa

/- The specification's l0push. -/
namespace Go.Proofs.Yteecpandpkicmaa
open Go.RowKit
set_option maxRecDepth 100000 in
set_option maxHeartbeats 8000000 in
theorem sPush_any (x : Value) (l : List Ev) (e : Ev) (w : World) (hl : l.length ≤ 1048576) (hI : Src w x l) :
    Calls Try.prog 58 #[x, .agg #[.int .i64 e.t, .int .i64 e.s, .int .i64 e.q, .int .i64 e.d, .int .i64 e.k, .int .i64 e.v, .int .i64 e.g]] w fun r w' => ∃ y, r = .returned y ∧ OwnR w.heap.size w' y (pushL l e) ∧ Below w.heap.size w w' := by
  obtain ⟨i0, hi, hz0, hz1, hz2⟩ := info_parts info25
  have hB0 : Below w.heap.size w (w.alloc (.cells #[.int .i64 e.t, .int .i64 e.s, .int .i64 e.q, .int .i64 e.d, .int .i64 e.k, .int .i64 e.v, .int .i64 e.g] 25)) := (Below.refl _ w).alloc (Nat.le_refl _) _
  have HI : Hid (Src (w.alloc (.cells #[.int .i64 e.t, .int .i64 e.s, .int .i64 e.q, .int .i64 e.d, .int .i64 e.k, .int .i64 e.v, .int .i64 e.g] 25)) x l) := hI.below hB0
  have HE : Hid (Ev.In (w.alloc (.cells #[.int .i64 e.t, .int .i64 e.s, .int .i64 e.q, .int .i64 e.d, .int .i64 e.k, .int .i64 e.v, .int .i64 e.g] 25)) w.heap.size 0 e) := newE w e
  have hzs : w.heap.size < (w.alloc (.cells #[.int .i64 e.t, .int .i64 e.s, .int .i64 e.q, .int .i64 e.d, .int .i64 e.k, .int .i64 e.v, .int .i64 e.g] 25)).heap.size := by simp
  have HB0 : Hid (Below w.heap.size w (w.alloc (.cells #[.int .i64 e.t, .int .i64 e.s, .int .i64 e.q, .int .i64 e.d, .int .i64 e.k, .int .i64 e.v, .int .i64 e.g] 25))) := hB0
  clear hI hB0
  go_enter Try.func58, Try.ntmps58
  go_upto_region 1 with fail
  generalize w.alloc (.cells #[.int .i64 e.t, .int .i64 e.s, .int .i64 e.q, .int .i64 e.d, .int .i64 e.k, .int .i64 e.v, .int .i64 e.g] 25) = W at *
  generalize hbx : w.heap.size = bx at *
  obtain ⟨f0, f1, f2, f3, f4, f5, f6⟩ := HE.out.lits
  have HOWN : Hid (∀ W' : World, Below W.heap.size W W' → Calls Try.prog 67 #[x] W' fun r w' => ∃ y, r = .returned y ∧ OwnR W.heap.size w' y l ∧ Below W'.heap.size W' w' ∧ Below W.heap.size W w' ∧ Ev.In w' bx 0 e) := fun W' hb => by
    refine (own_row x l W' (by omega) (HI.out.below hb)).mono ?_
    rintro r w' ⟨y, rfl, hy, hb2⟩
    have hb3 : Below W.heap.size W w' := hb.trans (hb2.mono hb.size)
    exact ⟨y, rfl, hy.mono hb.size, hb2, hb3, HE.out.below hb3 hzs⟩
  have hbW : bx ≠ W.heap.size := by omega
  have HF : Hid (∀ (w1 w2 : World) (y v2 : Value) (n : Nat), OwnR W.heap.size w1 y l → Ev.In w1 bx 0 e → Below W.heap.size W w1 → w1.grownBy w2 y.ownBlock → w2.ownsRow W.heap.size 25 7 v2 (l.length + 1) (cellsL l ++ e.cs) → Ev.In w2 bx 0 e ∧ Below W.heap.size W w2 ∧ OwnR W.heap.size w2 v2 (l ++ [e])) := fun w1 w2 y v2 n hy hE hb hg ho => by
    have hlt : bx < w1.heap.size := Nat.lt_of_lt_of_le hzs hb.size
    have hblk : w2.heap[bx]? = w1.heap[bx]? := hg.block bx hlt (fun er => by have := row_ge hy er.symm; omega)
    have hc : ∀ o, w2.cell? ⟨bx, o, none⟩ = w1.cell? ⟨bx, o, none⟩ := fun o => World.cell?_of_block (w := w1) hblk
    refine ⟨⟨(hc _).trans hE.f0, (hc _).trans hE.f1, (hc _).trans hE.f2, (hc _).trans hE.f3, (hc _).trans hE.f4, (hc _).trans hE.f5, (hc _).trans hE.f6⟩, hb.grown hg hb.size (fun k er => row_ge hy er), ?_⟩
    unfold OwnR
    rw [List.length_append, cellsL_append]
    simpa [cellsL] using ho
  go_region_held3 (fun V => V.cell? ⟨bx, 0, none⟩ = some (.int .i64 e.t) ∧ V.cell? ⟨bx, 1, none⟩ = some (.int .i64 e.s) ∧ V.cell? ⟨bx, 2, none⟩ = some (.int .i64 e.q) ∧ V.cell? ⟨bx, 3, none⟩ = some (.int .i64 e.d) ∧ V.cell? ⟨bx, 4, none⟩ = some (.int .i64 e.k) ∧ V.cell? ⟨bx, 5, none⟩ = some (.int .i64 e.v) ∧ V.cell? ⟨bx, 6, none⟩ = some (.int .i64 e.g)) (go_keep)
    (first
      | (go_at_call 67; refine (HOWN.out _ ?_).mono ?_; (first | exact (Below.refl _ W).drew | exact ((Below.refl _ W).alloc (Nat.le_refl _) _).drew | exact (Below.refl _ W).drew.alloc (Nat.le_refl _) _); rintro r w1 ⟨y, rfl, hy, hb1, hbW1, hE1⟩; obtain ⟨y0, y1, y2, y3, y4, y5, y6⟩ := hE1.lits; have hlt1 : bx < w1.heap.size := Nat.lt_of_lt_of_le hzs hbW1.size; have hbw1 : bx ≠ w1.heap.size := Nat.ne_of_lt hlt1; have hWw1 : W.heap.size ≤ w1.heap.size := hbW1.size)
      | (refine step_append_own rfl (.tmp 7) (.tmp 9) 23 rfl W.heap.size 25 i0 _ 7 56 Try.underlying23 hi hz0 hz1 hz2 rfl (by decide) y l.length (cellsL l) rfl (World.ownsRow.alloc hy _) ⟨w1.heap.size, 0, none⟩ 1 1 e.cs rfl rfl (Ev.In.cells (newE w1 e)) (Ev.cs_one e) (by unfold maxLen; omega) (by omega) (by simp; omega) ?_; intro v2 w2 hown2 hgrow2; obtain ⟨g2, cap2, rfl⟩ := ownsRow_succ hown2; have HX1 : Hid (Ev.In w2 bx 0 e ∧ Below W.heap.size W w2 ∧ OwnR W.heap.size w2 (.slice (some ⟨g2, 0, none⟩) (l.length + 1) cap2) (l ++ [e])) := HF.out _ _ _ _ 0 (World.ownsRow.alloc hy _) (hE1.alloc hlt1 _) (hbW1.alloc hbW1.size _) hgrow2 hown2; clear hown2 hgrow2; obtain ⟨x0, x1, x2, x3, x4, x5, x6⟩ := HX1.out.1.lits)
      | (refine step_append_own rfl (.tmp 7) (.tmp 9) 23 rfl W.heap.size 25 i0 _ 7 56 Try.underlying23 hi hz0 hz1 hz2 rfl (by decide) y l.length (cellsL l) rfl hy ⟨W.heap.size, 0, none⟩ 1 1 e.cs rfl rfl (Ev.In.cells ((newED W e).below hb1 (by simp))) (Ev.cs_one e) (by unfold maxLen; omega) (by omega) hbW1.size ?_; intro v2 w2 hown2 hgrow2; obtain ⟨g2, cap2, rfl⟩ := ownsRow_succ hown2; have HX1 : Hid (Ev.In w2 bx 0 e ∧ Below W.heap.size W w2 ∧ OwnR W.heap.size w2 (.slice (some ⟨g2, 0, none⟩) (l.length + 1) cap2) (l ++ [e])) := HF.out _ _ _ _ 0 hy hE1 hbW1 hgrow2 hown2; clear hown2 hgrow2; obtain ⟨x0, x1, x2, x3, x4, x5, x6⟩ := HX1.out.1.lits))
  all_goals
    have HR : Hid (Row w2 W.heap.size g2 cap2 (l ++ [e])) := by
      have h9 := HX1.out.2.2
      unfold Hid Row
      unfold OwnR at h9
      rw [List.length_append] at h9 ⊢
      exact h9
    have HB2 : Hid (Below W.heap.size W w2) := HX1.out.2.1
    clear HX1 x0 x1 x2 x3 x4 x5 x6
    have HU : Hid (Calls Try.prog 68 #[.slice (some ⟨g2, 0, none⟩) (l.length + 1) cap2, .int .i64 (l.length : Int)] w2 fun r w' => (∃ v, r = .returned v) ∧ Row w' W.heap.size g2 cap2 (pushL l e) ∧ Turns (fun b => b = g2) w2 w') := by
      have h9 := sUp_any W.heap.size g2 cap2 (l ++ [e]) l.length w2 (by simp; omega) HR.out (by simp)
      rw [List.length_append] at h9
      exact h9
    go_wp2_with fail
    refine HU.out.mono ?_
    rintro r w3 ⟨⟨v3, rfl⟩, hr3, ht3⟩
    have HR3 : Hid (Row w3 W.heap.size g2 cap2 (pushL l e)) := hr3
    have HB3 : Hid (Below W.heap.size W w3) := HB2.out.trans (ht3.to_below (fun k er => by subst er; exact hr3.lt.1) HB2.out.size)
    clear hr3 ht3 HU
    go_wp2
    go_ret
    refine ⟨_, rfl, ?_, ?_⟩
    · have h8 := HR3.out
      unfold Row at h8
      have h9 : OwnR W.heap.size w3 (.slice (some ⟨g2, 0, none⟩) (l.length + 1) cap2) (pushL l e) := by
        unfold OwnR
        rw [pushL_length] at h8 ⊢
        exact h8
      rw [hbx]
      exact h9.mono (Nat.le_of_lt hzs)
    · rw [hbx]
      exact HB0.out.trans (HB3.out.mono (Nat.le_of_lt hzs))
end Go.Proofs.Yteecpandpkicmaa

