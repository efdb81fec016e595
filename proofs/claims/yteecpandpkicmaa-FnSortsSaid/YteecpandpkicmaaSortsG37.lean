/- GJoin, SPure -/
import Derived.Test.YteecpandpkicmaaSortsG29
import Derived.Test.YteecpandpkicmaaSortsLPushSome
import Derived.Test.YteecpandpkicmaaSortsLPushNo
import Derived.Test.YteecpandpkicmaaSortsG31
import Derived.Test.YteecpandpkicmaaSortsG09
import Derived.Test.YteecpandpkicmaaSortsLPushAll
import Derived.Test.YteecpandpkicmaaSortsG14
import Derived.Test.YteecpandpkicmaaSortsLGOf
/- The program's HeapJoin over slices of any room. -/
namespace Go.Proofs.Yteecpandpkicmaa
open Go.RowKit
def CanJ (l r : List Ev) : Prop := l.length + r.length ≤ 2000 ∧ ∀ i, i < r.length → NoTag l (evAt r i).g
def AnsJ (l r : List Ev) (B : Nat) (e : Ending) (w' : World) : Prop :=
  (¬ (GoodH l ∧ GoodH r) ∧ AnswersR B [] false e w') ∨ ((GoodH l ∧ GoodH r) ∧ CanJ l r ∧ AnswersR B (r.foldl pushL l) true e w') ∨ ((GoodH l ∧ GoodH r) ∧ ¬ CanJ l r ∧ AnswersR B l false e w')
set_option maxRecDepth 100000 in
set_option maxHeartbeats 8000000 in
theorem gJoin_any (a a' : Option Addr) (cap cap' : Nat) (l r : List Ev) (w : World) (hl : l.length ≤ 1048576) (hr : r.length ≤ 1048576) (hR : Src w (.slice a l.length cap) l) (hS : Src w (.slice a' r.length cap') r) (hw0 : 0 < w.heap.size) :
    Calls Try.prog 24 #[.slice a l.length cap, .slice a' r.length cap'] w fun e w' => AnsJ l r w.heap.size e w' ∧ Below w.heap.size w w' := by
  have HR : Hid (Src w (.slice a l.length cap) l) := hR
  have HS : Hid (Src w (.slice a' r.length cap') r) := hS
  clear hR hS
  have hme := fun w P => m_events P w
  go_enter Try.func24, Try.ntmps24
  go_wp2_with fail
  refine (iHeap_src a cap l _ hl HR.out hw0).mono ?_
  rintro e w1 ⟨⟨b1, rfl, hs1⟩, hb1⟩
  have HG1 : Hid (b1 = true ↔ GoodH l) := hs1
  have HB1 : Hid (Below w.heap.size w w1) := hb1
  have HR1 : Hid (Src w1 (.slice a l.length cap) l) := HR.out.below hb1
  have HS1 : Hid (Src w1 (.slice a' r.length cap') r) := HS.out.below hb1
  clear hs1 hb1 HR HS
  cases b1
  · go_wp2
    go_ret2
    exact ⟨.inl ⟨fun hh => (by have := HG1.out.2 hh.1; cases this), _, rfl, OwnR.nil _ _⟩, HB1.out⟩
  go_wp2_with fail
  refine (iHeap_src a' cap' r _ hr HS1.out (by have := HB1.out.size; omega)).mono ?_
  rintro e w2 ⟨⟨b2, rfl, hs2⟩, hb2⟩
  have HG2 : Hid (b2 = true ↔ GoodH r) := hs2
  have HB2 : Hid (Below w.heap.size w w2) := HB1.out.trans (hb2.mono HB1.out.size)
  have HR2 : Hid (Src w2 (.slice a l.length cap) l) := HR1.out.below hb2
  have HS2 : Hid (Src w2 (.slice a' r.length cap') r) := HS1.out.below hb2
  clear hs2 hb2 HR1 HS1 HB1
  cases b2
  · go_wp2
    go_ret2
    exact ⟨.inl ⟨fun hh => (by have := HG2.out.2 hh.2; cases this), _, rfl, OwnR.nil _ _⟩, HB2.out⟩
  have HG : Hid (GoodH l ∧ GoodH r) := ⟨HG1.out.1 (by simp), HG2.out.1 (by simp)⟩
  have hl2 : l.length ≤ 2000 := HG.out.1.1
  have hr2 : r.length ≤ 2000 := HG.out.2.1
  clear HG1 HG2
  go_wp2_with fail
  refine (pileOf_any _ l _ (by omega) HR2.out).mono ?_
  rintro e w3 ⟨P, v, rfl, hp3, hb3⟩
  have HB3 : Hid (Below w2.heap.size w2 w3) := hb3
  obtain ⟨h, hh2, hP2⟩ := HS2.out.parts (by have := HB2.out.size; omega)
  have HS3 : Hid (r = [] ∨ ∃ off, a' = some ⟨h, off, none⟩ ∧ EvsAt w3 h off r) := parts_below hP2 hh2 hb3
  have hh3 : h < w3.heap.size := by have := hb3.size; omega
  clear hP2
  have HLO : Hid (w2.heap.size ≤ P ∧ ∀ k, v.ownBlock = some k → w2.heap.size ≤ k) := ⟨hp3.low, fun k e => (OwnR.block hp3.row e).1⟩
  by_cases hsum : l.length + r.length ≤ 2000
  · by_cases hno : ∀ i, i < r.length → NoTag l (evAt r i).g
    · have HNO : Hid (∀ i, i < r.length → NoTag l (evAt r i).g) := hno
      clear hno
      have HPA : Hid (Calls Try.prog 41 #[pv P, .slice a' r.length cap'] w3 fun e w' => e = .returned (.bool true) ∧ (∃ v', Pl w' w2.heap.size P v' (r.foldl pushL l) ∧ NewRow w3 v v') ∧ Turns (fun k => k = P ∨ v.ownBlock = some k) w3 w') := pushAll_ok w2.heap.size P v l a' cap' h r w3 hr2 hb3.size hp3 HS3.out hh3 (by have := HLO.out.1; omega) (fun e9 => by have := HLO.out.2 _ e9; omega) hsum HG.out.1.oks (fun i hi => (HG.out.2.2 i hi).1) HNO.out
      clear hp3 hb3
      go_wp2_with fail
      refine HPA.out.mono ?_
      rintro e w4 ⟨rfl, ⟨v4, hp4, _⟩, ht4⟩
      have HP4 : Hid (Pl w4 w2.heap.size P v4 (r.foldl pushL l)) := hp4
      have HB4 : Hid (Below w.heap.size w w4) := HB2.out.trans ((HB3.out.trans (ht4.to_below (fun k hh => by rcases hh with rfl | hh; exact HLO.out.1; exact HLO.out.2 k hh) HB3.out.size)).mono HB2.out.size)
      clear hp4 ht4 HPA
      go_wp2_with fail
      refine (events_any w2.heap.size P v4 (r.foldl pushL l) _ (by rw [fold_length]; omega) HP4.out).mono ?_
      rintro e w5 ⟨y, rfl, hy, hb5⟩
      have HY : Hid (OwnR w4.heap.size w5 y (r.foldl pushL l)) := hy
      have HB5 : Hid (Below w.heap.size w w5) := HB4.out.trans (hb5.mono HB4.out.size)
      clear hy hb5
      go_wp2
      go_ret2
      exact ⟨.inr (.inl ⟨HG.out, ⟨hsum, HNO.out⟩, ans_ofR HB4.out HB4.out.size HY.out⟩), HB5.out⟩
    · obtain ⟨q, hq, hqn⟩ : ∃ q, q < r.length ∧ ¬ NoTag l (evAt r q).g := Classical.byContradiction fun hx => hno fun i hi => Classical.byContradiction fun hy => hx ⟨i, hi, hy⟩
      have HQ : Hid (¬ NoTag l (evAt r q).g) := hqn
      clear hno hqn
      have HPA : Hid (Calls Try.prog 41 #[pv P, .slice a' r.length cap'] w3 fun e w' => e = .returned (.bool false) ∧ Pl w' w2.heap.size P v l ∧ Below w3.heap.size w3 w') := pushAll_some w2.heap.size P v l a' cap' h r w3 q hr2 hb3.size hp3 HS3.out hh3 hsum HG.out.1.oks (fun i hi => (HG.out.1.2 i hi).2.2) (fun i hi => (HG.out.2.2 i hi).1) hq HQ.out
      clear hp3 hb3
      go_wp2_with fail
      refine HPA.out.mono ?_
      rintro e w4 ⟨rfl, hp4, ht4⟩
      have HP4 : Hid (Pl w4 w2.heap.size P v l) := hp4
      have HB4 : Hid (Below w.heap.size w w4) := HB2.out.trans ((HB3.out.trans (ht4.mono HB3.out.size)).mono HB2.out.size)
      clear hp4 ht4 HPA
      go_wp2_with fail
      refine (events_any w2.heap.size P v l _ (by omega) HP4.out).mono ?_
      rintro e w5 ⟨y, rfl, hy, hb5⟩
      have HY : Hid (OwnR w4.heap.size w5 y l) := hy
      have HB5 : Hid (Below w.heap.size w w5) := HB4.out.trans (hb5.mono HB4.out.size)
      clear hy hb5
      go_wp2
      go_ret2
      exact ⟨.inr (.inr ⟨HG.out, fun hc => HQ.out (hc.2 q hq), ans_ofR HB4.out HB4.out.size HY.out⟩), HB5.out⟩
  · have HPA : Hid (Calls Try.prog 41 #[pv P, .slice a' r.length cap'] w3 fun e w' => e = .returned (.bool false) ∧ Pl w' w2.heap.size P v l ∧ Below w3.heap.size w3 w') := pushAll_full w2.heap.size P v l a' cap' r w3 hr2 hb3.size hp3 (by omega) (by omega)
    clear hp3 hb3
    go_wp2_with fail
    refine HPA.out.mono ?_
    rintro e w4 ⟨rfl, hp4, ht4⟩
    have HP4 : Hid (Pl w4 w2.heap.size P v l) := hp4
    have HB4 : Hid (Below w.heap.size w w4) := HB2.out.trans ((HB3.out.trans (ht4.mono HB3.out.size)).mono HB2.out.size)
    clear hp4 ht4 HPA
    go_wp2_with fail
    refine (events_any w2.heap.size P v l _ (by omega) HP4.out).mono ?_
    rintro e w5 ⟨y, rfl, hy, hb5⟩
    have HY : Hid (OwnR w4.heap.size w5 y l) := hy
    have HB5 : Hid (Below w.heap.size w w5) := HB4.out.trans (hb5.mono HB4.out.size)
    clear hy hb5
    go_wp2
    go_ret2
    exact ⟨.inr (.inr ⟨HG.out, fun hc => hsum hc.1, ans_ofR HB4.out HB4.out.size HY.out⟩), HB5.out⟩
end Go.Proofs.Yteecpandpkicmaa

/- What is pushed one behind the other: a good heap, and all of it; sorted it is a good queue; joined either way it is sorted alike. -/
namespace Go.Proofs.Yteecpandpkicmaa
open Go.RowKit
theorem kept_cons {P : Ev → Prop} {e : Ev} {r : List Ev} : Kept P (e :: r) ↔ P e ∧ Kept P r := by
  constructor
  · intro h
    refine ⟨?_, fun j hj => ?_⟩
    · have := h 0 (by simp)
      rwa [evAt_head] at this
    · have := h (j + 1) (by simpa using hj)
      rwa [evAt_cons] at this
  · rintro ⟨h1, h2⟩ j hj
    cases j with
    | zero => rw [evAt_head]; exact h1
    | succ j => rw [evAt_cons]; exact h2 j (by simpa using hj)
theorem uni_cons {e : Ev} {r : List Ev} (h : Uni (e :: r)) : (∀ j, j < r.length → e.g ≠ (evAt r j).g) ∧ Uni r := by
  refine ⟨fun j hj hg => ?_, fun i j hi hj hg => ?_⟩
  · have := h 0 (j + 1) (by simp) (by simpa using hj) (by rw [evAt_head, evAt_cons]; exact hg)
    omega
  · have := h (i + 1) (j + 1) (by simpa using hi) (by simpa using hj) (by rw [evAt_cons, evAt_cons]; exact hg)
    omega
theorem fold_good : ∀ (r l : List Ev), GoodH l → Kept (fun e => e.ok = true) r → Uni r → (∀ j, j < r.length → NoTag l (evAt r j).g) → l.length + r.length ≤ 2000 → GoodH (r.foldl pushL l)
  | [], l, h, _, _, _, _ => h
  | e :: r, l, h, hk, hu, hn, hl => by
    rw [List.length_cons] at hl
    obtain ⟨k1, k2⟩ := kept_cons.1 hk
    obtain ⟨u1, u2⟩ := uni_cons hu
    have h0 := hn 0 (by simp)
    rw [evAt_head] at h0
    rw [List.foldl_cons]
    refine fold_good r _ (goodH_push h k1 h0 (by omega)) k2 u2 (fun j hj => ?_) (by rw [pushL_length]; omega)
    have h1 := hn (j + 1) (by simpa using hj)
    rw [evAt_cons] at h1
    exact (kept_pushL (P := fun x => x.g ≠ (evAt r j).g)).2 ⟨h1, u1 j hj⟩
theorem fold_in (e : Ev) : ∀ (r l : List Ev), InL e (r.foldl pushL l) ↔ InL e l ∨ InL e r
  | [], l => by
    have : ¬ InL e [] := fun ⟨j, hj, _⟩ => by simp at hj
    simp [this]
  | x :: r, l => by
    rw [List.foldl_cons, fold_in e r, inL_push, inL_cons]
    constructor
    · rintro ((h | h) | h)
      · exact .inl h
      · exact .inr (.inl h)
      · exact .inr (.inr h)
    · rintro (h | h | h)
      · exact .inl (.inl h)
      · exact .inl (.inr h)
      · exact .inr h
theorem goodH_nil : GoodH [] := ⟨by simp, fun i hi => by simp at hi⟩
theorem of_good {l : List Ev} (h : OneL l) : GoodH (l.foldl pushL []) := by
  refine fold_good l [] goodH_nil (fun i hi => (h.2 i hi).1) (fun i j hi hj hg => ?_) (fun j _ i hi => by simp at hi) (by have := h.1; simp; omega)
  rcases Nat.lt_trichotomy i j with a | a | a
  · exact absurd hg ((h.2 j hj).2 i a)
  · exact a
  · exact absurd hg.symm ((h.2 i hi).2 j a)
theorem of_length (l : List Ev) : (l.foldl pushL []).length = l.length := by rw [fold_length]; simp
theorem of_found {l : List Ev} (h : OneL l) (i : Nat) (hi : i < l.length) : ∃ p, p < l.length ∧ evAt (sortN l.length (l.foldl pushL [])) p = evAt l i := by
  obtain ⟨_, h2, _⟩ := goodH_parts (of_good h)
  obtain ⟨p, hp, he⟩ := (sort_in l.length _ (of_length l) h2 (evAt l i)).2 ((fold_in _ l []).2 (.inr ⟨i, hi, rfl⟩))
  rw [sortN_length] at hp
  exact ⟨p, hp, he⟩
theorem cmp_m1 {a b : Ev} (h : a.cmp b < 0) : a.cmp b = -1 := by
  unfold Ev.cmp cmpI at *
  simp only [num] at *
  repeat' split at h
  all_goals (repeat' split)
  all_goals omega
theorem sort_queue {n : Nat} {l : List Ev} (hn : l.length = n) (h : GoodH l) : GoodQ (sortN n l) := by
  obtain ⟨h1, h2, h3⟩ := goodH_parts h
  have ho := sort_ord n l hn h1 h2
  have hin := sort_in n l hn h2
  have hk : ∀ i, i < (sortN n l).length → (evAt (sortN n l) i).ok = true := fun i hi => by
    obtain ⟨j, hj, he⟩ := (hin _).1 ⟨i, hi, rfl⟩
    rw [← he]
    exact h3 j hj
  have hs := sortN_length n l
  refine (goodQ_iff _).2 ⟨by have := h.1; omega, hk, fun i hi => ?_, fun i hi j hj hg => ?_⟩
  · have hc := cmp_m1 (ho i (i + 1) (by omega) (by omega))
    unfold Ev.ecmp ecmp
    rw [if_pos ⟨hk i (by omega), hk (i + 1) (by omega)⟩]
    exact hc
  · obtain ⟨a, ha, hae⟩ := (hin _).1 ⟨i, hi, rfl⟩
    obtain ⟨b, hb, hbe⟩ := (hin _).1 ⟨j, by omega, rfl⟩
    have hab : b = a := h2 b a hb ha (by rw [hae, hbe]; exact hg)
    have hc := ho j i hj hi
    rw [← hae, ← hbe, hab] at hc
    exact cmp_asymm hc hc
theorem join_good {l r : List Ev} (hl : GoodH l) (hr : GoodH r) (hc : CanJ l r) : GoodH (r.foldl pushL l) := by
  obtain ⟨_, h2, h3⟩ := goodH_parts hr
  exact fold_good r l hl h3 h2 hc.2 hc.1
theorem can_comm {l r : List Ev} (h : CanJ l r) : CanJ r l := ⟨by have := h.1; omega, fun i hi j hj hg => h.2 j hj i hi hg.symm⟩
theorem join_sort {l r : List Ev} (hl : GoodH l) (hr : GoodH r) (hc : CanJ l r) : sortN (l.length + r.length) (r.foldl pushL l) = sortN (l.length + r.length) (l.foldl pushL r) := by
  obtain ⟨p1, p2, _⟩ := goodH_parts (join_good hl hr hc)
  obtain ⟨q1, q2, _⟩ := goodH_parts (join_good hr hl (can_comm hc))
  have e1 := fold_length r l
  have e2 : (l.foldl pushL r).length = l.length + r.length := by rw [fold_length]; omega
  refine ord_same _ _ (sort_ord _ _ e1 p1 p2) (sort_ord _ _ e2 q1 q2) fun x => ?_
  rw [sort_in _ _ e1 p2, sort_in _ _ e2 q2, fold_in, fold_in]
  exact Or.comm
end Go.Proofs.Yteecpandpkicmaa

