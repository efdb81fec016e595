/- HeapS, Mid, QQueue, QPure -/
import Derived.Test.YteecpandpkicmaaQueuesG01
import Derived.Test.YteecpandpkicmaaQueuesG15
import Derived.Test.YteecpandpkicmaaQueuesG04
import Derived.Test.YteecpandpkicmaaQueuesG18
import Derived.Test.YteecpandpkicmaaQueuesLOwnS
import Derived.Test.YteecpandpkicmaaQueuesG25
import Derived.Test.YteecpandpkicmaaQueuesLQDraw
import Derived.Test.YteecpandpkicmaaQueuesLOrd
/- The specification's HeapOk. -/
namespace Go.Proofs.Yteecpandpkicmaa
open Go.RowKit
def Good1H (l : List Ev) (i : Nat) : Prop := (evAt l i).ok = true ∧ (0 < i → (evAt l ((i - 1) / 2)).cmp (evAt l i) < 0) ∧ ∀ j, j < i → (evAt l j).g ≠ (evAt l i).g
def GoodH (l : List Ev) : Prop := l.length ≤ 2000 ∧ ∀ i, i < l.length → Good1H l i
theorem no_goodH {l : List Ev} {k : Nat} (hk : k < l.length) (h : ¬ Good1H l k) : ¬ GoodH l := fun e => (h (e.2 k hk)).elim
theorem find_some (b off cap : Nat) (l : List Ev) (tag : Int) (i : Nat) (w : World) (hl : l.length ≤ 1048576) (hI : EvsAt w b off l) (hi : FirstAt l tag i) :
    Calls Try.prog 51 #[.slice (some ⟨b, off, none⟩) l.length cap, .int .i64 tag] w fun e w' => e = .returned (.int .i64 (i : Int)) ∧ w' = w :=
  (find_any b off cap l tag w hl hI).mono fun e w' ⟨h, hw⟩ => by
    rcases h with ⟨j, rfl, hj⟩ | ⟨_, hno⟩
    · rw [firstAt_unique hi hj]; exact ⟨rfl, hw⟩
    · exact (hno i hi.1 hi.2.1).elim
theorem find_none (b off cap : Nat) (l : List Ev) (tag : Int) (w : World) (hl : l.length ≤ 1048576) (hI : EvsAt w b off l) (hn : NoTag l tag) :
    Calls Try.prog 51 #[.slice (some ⟨b, off, none⟩) l.length cap, .int .i64 tag] w fun e w' => e = .returned (.int .i64 (-1)) ∧ w' = w :=
  (find_any b off cap l tag w hl hI).mono fun e w' ⟨h, hw⟩ => by
    rcases h with ⟨j, rfl, hj⟩ | ⟨rfl, _⟩
    · exact (hn j hj.1 hj.2.1).elim
    · exact ⟨rfl, hw⟩
end Go.Proofs.Yteecpandpkicmaa

/- Piles and rows, more. -/
namespace Go.Proofs.Yteecpandpkicmaa
open Go.RowKit
theorem GoodH.heap {l : List Ev} (h : GoodH l) : HeapL l := fun i h0 hi => (h.2 i hi).2.1 h0
theorem GoodH.oks {l : List Ev} (h : GoodH l) : Kept (fun e => e.ok = true) l := fun i hi => (h.2 i hi).1
theorem Pl.later {w w' : World} {B P : Nat} {v : Value} {l : List Ev} (h : Pl w B P v l) (hb : Below w.heap.size w w') : Pl w' B P v l :=
  ⟨(hb.block P h.box.lt).trans h.box, OwnR.below h.row hb, h.low⟩
theorem ans_of {B : Nat} {w w1 w' : World} {x : Value} {l : List Ev} {bb : Bool} (_hb : Below B w w1) (hB : B ≤ w1.heap.size) (hx : OwnR w1.heap.size w' x l) : Answers B l bb (.returned (.tuple #[x, .bool bb])) w' := ⟨x, rfl, (hx.mono hB).own⟩

theorem Pl.low2 {w w' : World} {B X P : Nat} {v : Value} {l : List Ev} (h : Pl w B P v l) (hb : Below X w w') (hP : P < X) (hg : ∀ g, v.ownBlock = Option.some g → g < X) : Pl w' B P v l := by
  refine ⟨(hb.block P hP).trans h.box, ?_, h.low⟩
  obtain ⟨h0, ⟨e, h1⟩ | ⟨g, cap, cur, rfl, hgB, hc, h1⟩⟩ := h.row
  · exact ⟨h0, .inl ⟨e, h1⟩⟩
  · exact ⟨h0, .inr ⟨g, cap, cur, rfl, hgB, (hb.block g (hg g rfl)).trans hc, h1⟩⟩
theorem OwnR.block {B : Nat} {w : World} {x : Value} {l : List Ev} (h : OwnR B w x l) {g : Nat} (hg : x.ownBlock = some g) : B ≤ g ∧ g < w.heap.size := World.ownsRow.lt h g hg
theorem OwnR.turns {S : Nat → Prop} {B : Nat} {w w' : World} {x : Value} {l : List Ev} (h : OwnR B w x l) (ht : Turns S w w') (hS : ∀ k, S k → k < B) : OwnR B w' x l := by
  obtain ⟨h0, ⟨e, h1⟩ | ⟨g, cap, cur, e, hg, hc, h1⟩⟩ := h
  · exact ⟨h0, .inl ⟨e, h1⟩⟩
  · exact ⟨h0, .inr ⟨g, cap, cur, e, hg, (ht.block g (Array.getElem?_eq_some_iff.1 hc).1 (fun hs => by have := hS g hs; omega)).trans hc, h1⟩⟩
theorem Pl.drew {w : World} {B P : Nat} {v : Value} {l : List Ev} (h : Pl w B P v l) : Pl w.drew B P v l := ⟨h.box, World.ownsRow.drew h.row, h.low⟩
end Go.Proofs.Yteecpandpkicmaa

/- What is drawn for queues: l1queue, DrawInsert. -/
namespace Go.Proofs.Yteecpandpkicmaa
open Go.RowKit

theorem OwnR.caps {B : Nat} {w : World} {x : Value} {l : List Ev} (h : OwnR B w x l) : (x = .slice none 0 0 ∧ l = []) ∨ ∃ g cap, x = .slice (some ⟨g, 0, none⟩) l.length cap ∧ l.length ≤ cap ∧ cap ≤ maxLen ∧ EvsAt w g 0 l ∧ B ≤ g := by
  have h' := h
  obtain ⟨h0, ⟨e, h1⟩ | ⟨g, cap, cur, e, hg, hc, h1, h2, h3, h4⟩⟩ := h
  · exact .inl ⟨e, List.eq_nil_of_length_eq_zero h1⟩
  · subst e
    rcases h'.src with ⟨e, _⟩ | ⟨b, off, cap', e, he⟩
    · cases e
    · cases e
      exact .inr ⟨g, cap, rfl, h1, h2, he, hg⟩
set_option maxHeartbeats 1000000 in
theorem find_nilq (tag : Int) (w : World) : Calls Try.prog 51 #[.slice none 0 0, .int .i64 tag] w fun e w' => e = .returned (.int .i64 (-1)) ∧ w' = w := by
  go_enter Try.func51, Try.ntmps51
  go_wp2
  go_loop [5] (fun i => i = .int .i64 0) (fun _ => 0)
  case atStart => rfl
  case round =>
    subst hrel
    go_wp2
    go_ret
    exact ⟨rfl, rfl⟩
theorem find_row {B : Nat} {w : World} {v : Value} {l : List Ev} (tag : Int) (h : OwnR B w v l) (hl : l.length ≤ 1048576) : Calls Try.prog 51 #[v, .int .i64 tag] w fun e w' => (∃ x : Int, e = .returned (.int .i64 x)) ∧ w' = w := by
  rcases h.caps with ⟨rfl, rfl⟩ | ⟨g, cap, rfl, h1, h2, he, _⟩
  · exact (find_nilq tag w).mono fun e w' ⟨h1, h2⟩ => ⟨⟨_, h1⟩, h2⟩
  · exact (find_any g 0 cap l tag w hl he).mono fun e w' ⟨h1, h2⟩ => ⟨by
      rcases h1 with ⟨i, h1, _⟩ | ⟨h1, _⟩
      · exact ⟨_, h1⟩
      · exact ⟨_, h1⟩, h2⟩
theorem insert_drawn {B : Nat} {w : World} {v : Value} {l : List Ev} (e : Ev) (h : OwnR B w v l) (hl : l.length ≤ 1000) : Calls Try.prog 52 #[v, e.val] w fun r w' => ∃ x l', r = .returned x ∧ OwnR w.heap.size w' x l' ∧ l'.length = l.length + 1 ∧ Below w.heap.size w w' := by
  rcases h.caps with ⟨rfl, rfl⟩ | ⟨g, cap, rfl, h1, h2, he, _⟩
  · exact (insert_nil_row e w).mono fun r w' ⟨x, h1, h2, h3⟩ => ⟨x, [e], h1, h2, rfl, h3⟩
  · exact (insert_row g 0 cap l e w h1 (by omega) he).mono fun r w' ⟨p, x, h1, h2, h3, h4⟩ => ⟨x, _, h1, h3, by have := h2.1; simp; omega, h4⟩

set_option maxRecDepth 100000 in
set_option maxHeartbeats 4000000 in
theorem queue_any (c : Nat) (w : World) (H : Cur w c) :
    Calls Try.prog 26 #[.pointer (some ⟨c, 0, none⟩)] w fun r w' => ∃ v l, r = .returned v ∧ OwnR w.heap.size w' v l ∧ l.length ≤ 9 ∧ Cur w' c ∧ Turns (fun k => k = c) w w' := by
  have hcw := H.lt
  have HC : Hid (Cur w c) := H
  clear H
  obtain ⟨i0, hi, hz0, hz1, hz2⟩ := info_parts info25
  go_enter Try.func26, Try.ntmps26
  go_wp2_with fail
  refine (below_any c _ _ HC.out).mono ?_
  rintro r w1 ⟨x, rfl, hx0, hx1, hC1, hT1⟩
  have hx8 := hx1 (by omega)
  obtain ⟨m, rfl⟩ : ∃ m : Nat, x = (m : Int) := ⟨x.toNat, by omega⟩
  have hm : m ≤ 8 := by omega
  have HC1 : Hid (Cur w1 c) := hC1
  have HT1 : Hid (Turns (fun k => k = c) w w1) := hT1
  clear hC1 hT1 hx1 hx8 hx0
  go_wp2
  go_loopw [3, 5] (fun o i wr => ∃ (k : Nat) (v : Value) (l : List Ev), k ≤ m ∧ v = o ∧ i = .int .i64 k ∧ OwnR w.heap.size wr v l ∧ l.length ≤ k ∧ Cur wr c ∧ Turns (fun k => k = c) w wr) (fun _ i _ => m - (intOf i).toNat)
  case atStart => exact ⟨0, _, [], Nat.zero_le _, rfl, rfl, OwnR.nil _ _, Nat.le_refl _, HC1.out, HT1.out⟩
  case round =>
    obtain ⟨k, v, l, hk, rfl, rfl, hR, hlk, hCr, hTr⟩ := hrel
    have HR : Hid (OwnR w.heap.size wr v l) := hR
    have HCr : Hid (Cur wr c) := hCr
    have HTr : Hid (Turns (fun k => k = c) w wr) := hTr
    clear hR hCr hTr HC1 HT1
    by_cases hlt : k < m
    · go_wp2_with fail
      refine (draw_any c _ HCr.out).mono ?_
      rintro r w2 ⟨e, rfl, hC2, hT2⟩
      have HC2 : Hid (Cur w2 c) := hC2
      have HT2 : Hid (Turns (fun k => k = c) w w2) := HTr.out.trans hT2
      have HR2 : Hid (OwnR w.heap.size w2 v l) := HR.out.turns hT2 (fun k hk => by omega)
      clear hC2 hT2 HCr HTr HR
      obtain ⟨f0, f1, f2, f3, f4, f5, f6⟩ := (Bx.new w2 25 e).ev
      simp only [Nat.zero_add] at f1 f2 f3 f4 f5 f6
      have HR2a : Hid (OwnR w.heap.size (w2.alloc (.cells #[.int .i64 e.t, .int .i64 e.s, .int .i64 e.q, .int .i64 e.d, .int .i64 e.k, .int .i64 e.v, .int .i64 e.g] 25)) v l) := HR2.out.turns ((Turns.refl (fun _ => False) w2).alloc _) (fun _ h => h.elim)
      have hl5 : l.length ≤ 1048576 := by omega
      go_wp2_with fail
      refine (find_row e.g HR2a.out hl5).mono ?_
      rintro r w3 ⟨⟨x, rfl⟩, hw3⟩
      obtain rfl := hw3.symm
      clear hw3
      by_cases hx : x < 0
      · go_wp2_with fail
        refine (insert_drawn e HR2a.out (by omega)).mono ?_
        rintro r w4 ⟨y, l', rfl, hR4, hl4, hB4⟩
        have HR4 : Hid (OwnR w.heap.size w4 y l') := hR4.mono (by have := HT2.out.size; simp; omega)
        have HC4 : Hid (Cur w4 c) := (HC2.out.alloc _).below hB4 (by have := HT2.out.size; simp; omega)
        have HT4 : Hid (Turns (fun k => k = c) w w4) := (HT2.out.alloc _).trans (Turns.of_below hB4)
        clear hR4 hB4
        go_wp2
        go_roundw
        case rel => exact ⟨k + 1, _, l', by omega, rfl, by go_num, HR4.out, by omega, HC4.out, HT4.out⟩
        case measure => simp [intOf]; omega
      · go_wp2
        go_roundw
        case rel => exact ⟨k + 1, _, l, by omega, rfl, by go_num, HR2a.out, by omega, HC2.out.alloc _, HT2.out.alloc _⟩
        case measure => simp [intOf]; omega
    · go_wp2_with fail
      refine (once_any c _ _ HCr.out).mono ?_
      rintro r w2 ⟨x, rfl, hC2, hT2⟩
      have HC2 : Hid (Cur w2 c) := hC2
      have HT2 : Hid (Turns (fun k => k = c) w w2) := HTr.out.trans hT2
      have HR2 : Hid (OwnR w.heap.size w2 v l) := HR.out.turns hT2 (fun k hk => by omega)
      clear hC2 hT2 HCr HTr HR
      cases x with
      | false =>
        go_wp2
        go_ret
        exact ⟨v, l, rfl, HR2.out, by omega, HC2.out, HT2.out⟩
      | true =>
        go_wp2_with fail
        refine (bent_any c _ HC2.out).mono ?_
        rintro r w3 ⟨e, rfl, hC3, hT3⟩
        have HC3 : Hid (Cur w3 c) := hC3
        have HT3 : Hid (Turns (fun k => k = c) w w3) := HT2.out.trans hT3
        have HR3 : Hid (OwnR w.heap.size w3 v l) := HR2.out.turns hT3 (fun k hk => by omega)
        have hs3 := HT3.out.size
        clear hC3 hT3 HC2 HT2 HR2
        go_wp2_with (at_builtin; refine wpList_append_own _ rfl _ _ 23 rfl w.heap.size 25 i0 _ 7 56 Try.underlying23 hi hz0 hz1 hz2 rfl (by decide) v _ _ rfl (World.ownsRow.alloc HR3.out _) ⟨w3.heap.size, 0, none⟩ 1 1 e.cs rfl rfl (Ev.In.cells (EvAt.new _ _ _ _ _ _ _ _ _)) (Ev.cs_one e) (by unfold maxLen; omega) (by omega) (by simp; omega) ?_; intro v' w4 hown hgrow hnil)
        go_ret
        have hB4 : Below (w3.heap.size) w3 (w3.alloc (.cells #[.int .i64 e.t, .int .i64 e.s, .int .i64 e.q, .int .i64 e.d, .int .i64 e.k, .int .i64 e.v, .int .i64 e.g] 25)) := (Below.refl _ w3).alloc (Nat.le_refl _) _
        have hT4 : Turns (fun k => w.heap.size ≤ k) (w3.alloc (.cells #[.int .i64 e.t, .int .i64 e.s, .int .i64 e.q, .int .i64 e.d, .int .i64 e.k, .int .i64 e.v, .int .i64 e.g] 25)) w4 := ⟨hgrow.os, hgrow.tape, hgrow.output, hgrow.size, fun j hj hn => hgrow.block j hj (fun er => hn (row_ge HR3.out er.symm))⟩
        refine ⟨v', l ++ [e], rfl, ?_, by simp; omega, (HC3.out.alloc _).below (B := w.heap.size) (hT4.to_below (fun k hk => hk) (by simp; omega)) hcw, ?_⟩
        · unfold OwnR
          rw [List.length_append, cellsL_append]
          simpa [cellsL] using hown
        · exact (((HT3.out.alloc _).mono (S' := fun k => k = c ∨ w.heap.size ≤ k) (fun k hk => .inl hk)).trans (hT4.mono (fun k hk => .inr hk))).old (fun k hk h => h.resolve_right (by omega))
end Go.Proofs.Yteecpandpkicmaa

/- What follows of an event that is put into its place. -/
namespace Go.Proofs.Yteecpandpkicmaa
open Go.RowKit

def insL (l : List Ev) (e : Ev) (p : Nat) : List Ev := l.take p ++ e :: l.drop p
theorem insL_length (l : List Ev) (e : Ev) (p : Nat) (hp : p ≤ l.length) : (insL l e p).length = l.length + 1 := by simp [insL]; omega
theorem insL_lt (l : List Ev) (e : Ev) (p i : Nat) (hp : p ≤ l.length) (hi : i < p) : evAt (insL l e p) i = evAt l i := by
  unfold evAt insL
  simp [List.getElem?_append_left (by simp; omega : i < (l.take p).length), List.getElem?_take_of_lt hi]
theorem insL_eq (l : List Ev) (e : Ev) (p : Nat) (hp : p ≤ l.length) : evAt (insL l e p) p = e := by
  unfold evAt insL
  have h1 : (l.take p).length = p := by simp; omega
  simp [h1]
theorem insL_gt (l : List Ev) (e : Ev) (p i : Nat) (hp : p ≤ l.length) (hi : p < i) : evAt (insL l e p) i = evAt l (i - 1) := by
  unfold evAt insL
  have h1 : (l.take p).length = p := by simp; omega
  have h2 : i - p = (i - p - 1) + 1 := by omega
  have h3 : p + (i - p - 1) = i - 1 := by omega
  simp only [List.getD_eq_getElem?_getD]
  rw [List.getElem?_append_right (by omega), h1, h2, List.getElem?_cons_succ, List.getElem?_drop, h3]
theorem cmp_lt_iff (a b : Ev) : a.cmp b < 0 ↔ a.t < b.t ∨ (a.t = b.t ∧ (a.s < b.s ∨ (a.s = b.s ∧ (a.q < b.q ∨ (a.q = b.q ∧ a.g < b.g))))) := cmpI_lt _ _ _ _ _ _ _ _
theorem cmp_other {a b : Ev} (h : ¬ a.cmp b < 0) (hg : a.g ≠ b.g) : b.cmp a < 0 := by
  rw [cmp_lt_iff] at *
  omega
theorem cmp_self (a : Ev) : a.cmp a = 0 := by simp [Ev.cmp, cmpI, num]
theorem ins_good {l : List Ev} {e : Ev} {p : Nat} (hg : GoodQ l) (he : e.ok = true) (hno : NoTag l e.g) (hl : l.length < 2000) (hp : InsAt l e p) : GoodQ (insL l e p) := by
  obtain ⟨h1, h2, h3⟩ := hp
  refine ⟨by rw [insL_length _ _ _ h1]; omega, fun i hi => ?_⟩
  rw [insL_length _ _ _ h1] at hi
  rcases Nat.lt_trichotomy i p with h | h | h
  · obtain ⟨a, b, c⟩ := hg.2 i (by omega)
    unfold Good1
    rw [insL_lt _ _ _ _ h1 h]
    refine ⟨a, fun h0 => ?_, fun j hj => ?_⟩
    · rw [insL_lt _ _ _ _ h1 (by omega)]; exact b h0
    · rw [insL_lt _ _ _ _ h1 (by omega)]; exact c j hj
  · subst h
    unfold Good1
    rw [insL_eq _ _ _ h1]
    refine ⟨he, fun h0 => ?_, fun j hj => ?_⟩
    · rw [insL_lt _ _ _ _ h1 (by omega)]; exact h2 _ (by omega)
    · rw [insL_lt _ _ _ _ h1 hj]; exact hno j (by omega)
  · obtain ⟨a, b, c⟩ := hg.2 (i - 1) (by omega)
    unfold Good1
    rw [insL_gt _ _ _ _ h1 h]
    refine ⟨a, fun h0 => ?_, fun j hj => ?_⟩
    · by_cases h4 : i = p + 1
      · subst h4
        rw [show p + 1 - 1 = p from by omega, insL_eq _ _ _ h1]
        exact cmp_other (h3 (by omega)) (hno p (by omega))
      · rw [insL_gt _ _ _ _ h1 (by omega)]
        exact b (by omega)
    · rcases Nat.lt_trichotomy j p with h5 | h5 | h5
      · rw [insL_lt _ _ _ _ h1 h5]; exact c j (by omega)
      · subst h5
        rw [insL_eq _ _ _ h1]
        exact fun e' => hno (i - 1) (by omega) e'.symm
      · rw [insL_gt _ _ _ _ h1 h5]; exact c (j - 1) (by omega)
theorem ins_first {l : List Ev} {e : Ev} {p : Nat} (hno : NoTag l e.g) (hp : p ≤ l.length) : FirstAt (insL l e p) e.g p :=
  ⟨by rw [insL_length _ _ _ hp]; omega, by rw [insL_eq _ _ _ hp], fun j hj => by rw [insL_lt _ _ _ _ hp hj]; exact hno j (by omega)⟩
theorem ins_take (l : List Ev) (e : Ev) (p : Nat) (hp : p ≤ l.length) : (insL l e p).take p ++ (insL l e p).drop (p + 1) = l := by
  have h1 : (l.take p).length = p := by simp; omega
  have h2 : (insL l e p).take p = l.take p := by
    unfold insL
    rw [List.take_append_of_le_length (by omega), List.take_of_length_le (by omega)]
  have h3 : (insL l e p).drop (p + 1) = l.drop p := by
    unfold insL
    rw [List.drop_append, h1, List.drop_of_length_le (by omega), show p + 1 - p = 1 from by omega]
    simp
  rw [h2, h3, List.take_append_drop]
theorem good_lt {l : List Ev} (hg : GoodQ l) (i : Nat) : ∀ j, i < j → j < l.length → (evAt l i).cmp (evAt l j) < 0
  | 0, h, _ => by omega
  | j + 1, h, hl => by
    have h1 := (hg.2 (j + 1) hl).2.1 (by omega)
    rw [Nat.add_sub_cancel] at h1
    by_cases e : i = j
    · subst e; exact h1
    · exact cmp_trans (good_lt hg i j (by omega) (by omega)) h1
theorem good_first {l : List Ev} (hg : GoodQ l) {i : Nat} (hi : i < l.length) : ¬ 0 < (evAt l 0).ecmp (evAt l i) := by
  have h0 := (hg.2 0 (by omega)).1
  have h1 := (hg.2 i hi).1
  unfold Ev.ecmp ecmp
  rw [if_pos ⟨h0, h1⟩]
  by_cases e : i = 0
  · subst e
    have := cmp_self (evAt l 0)
    unfold Ev.cmp at this
    omega
  · have := good_lt hg 0 i (by omega) hi
    unfold Ev.cmp at this
    omega
end Go.Proofs.Yteecpandpkicmaa

