/- MOkM, Find, HeapT, SSt, EEm, NBase, NSpec -/
import Derived.Test.YtbljfphdghfkfaaGreatDoorModelsCardG07
import Derived.Test.YtbljfphdghfkfaaGreatDoorModelsCardLMOkS
import Derived.Test.YtbljfphdghfkfaaGreatDoorModelsCardG05
import Derived.Deep.RegionLaw
import Derived.Test.YtbljfphdghfkfaaGreatDoorModelsCardG00
import Derived.Test.YtbljfphdghfkfaaGreatDoorRows
import Derived.WalkKit
import Derived.WalkSpells
import Derived.WalkLawsBesides
import Derived.Outline
/- The program's ModelOk. -/
namespace Go.Proofs.YtbljfphdghfkfaaGreatDoor
open Go.RowKit
theorem ok_parts (m : Md) : m.ok = ((decide (1 ≤ m.n) && decide (m.n ≤ 4)) && ((decide (0 ≤ m.s) && decide (m.s ≤ 65535)) && ((decide (0 ≤ m.z) && decide (m.z ≤ 950)) && ((decide ((m.i.length : Int) = m.n) && m.okI) && ((decide (1 ≤ m.h.length ∧ m.h.length ≤ 4) && m.okH) && (decide (m.e.length ≤ 6) && m.okE)))))) := by
 unfold Md.ok
 rw [Bool.eq_iff_iff]
 simp only [Bool.and_eq_true, decide_eq_true_eq]
 unfold Md.hd
 constructor
 ·rintro ⟨⟨⟨⟨h1, h2, h3, h4, h5, h6, h7, h8, h9, h10⟩, hi⟩, hh⟩, he⟩
  exact ⟨⟨h1, h2⟩, ⟨h3, h4⟩, ⟨h9, h10⟩, ⟨h5, hi⟩, ⟨⟨h6, h7⟩, hh⟩, h8, he⟩
 ·rintro ⟨⟨h1, h2⟩, ⟨h3, h4⟩, ⟨h9, h10⟩, ⟨h5, hi⟩, ⟨⟨h6, h7⟩, hh⟩, h8, he⟩
  exact ⟨⟨⟨⟨h1, h2, h3, h4, h5, h6, h7, h8, h9, h10⟩, hi⟩, hh⟩, he⟩
set_option maxRecDepth 100000 in
set_option maxHeartbeats 8000000 in
theorem iModM (x : Value) (m : Md) (w : World) (hs : SmallM m) (h : IsM w x m) :
  Calls Tryz.prog 8 #[x] w fun e w' => e = .returned (.bool m.ok) ∧ Below w.heap.size w w' := by
 have HX : Hid (IsM w x m) := h
 obtain ⟨vi, vh, vs, rfl, ⟨ai, ci, rfl, hi1, hi2, hi3⟩, ⟨ah, ch, rfl, hh1, hh2, hh3⟩, ⟨ae, ce, rfl, he1, he2, he3⟩⟩ := h
 have hi0 : m.i.length ≤ 1048576 := hs.i
 have hh0 : m.h.length ≤ 1048576 := hs.h
 have he0 : m.e.length ≤ 1048576 := hs.e
 have HS : Hid (SmallM m) := hs
 clear hs hi1 hi2 hh1 hh2 he1 he2
 clear hi3 hh3 he3 hi0 hh0 he0
 obtain ⟨W0, hW0⟩ : ∃ W0, w.alloc (.cells #[.int .i64 m.n, .int .i64 m.s, .slice ai m.i.length ci, .slice ah m.h.length ch, .slice ae m.e.length ce, .int .i64 m.z] 27) = W0 := ⟨_, rfl⟩
 have HB0 : Hid (Below w.heap.size w W0) := by rw [← hW0]; exact (Below.refl _ w).alloc (Nat.le_refl _) _
 have HP0 : Hid (Bk W0 w.heap.size 27 #[.int .i64 m.n, .int .i64 m.s, .slice ai m.i.length ci, .slice ah m.h.length ch, .slice ae m.e.length ce, .int .i64 m.z]) := by rw [← hW0]; exact Bk.new w _ _
 have p0 := HP0.out.cell (i := 0) rfl
 have p1 := HP0.out.cell (i := 1) rfl
 have p2 := HP0.out.cell (i := 2) rfl
 have p3 := HP0.out.cell (i := 3) rfl
 have p4 := HP0.out.cell (i := 4) rfl
 have p5 := HP0.out.cell (i := 5) rfl
 have HOK : Hid (m.ok = ((decide (1 ≤ m.n) && decide (m.n ≤ 4)) && ((decide (0 ≤ m.s) && decide (m.s ≤ 65535)) && ((decide (0 ≤ m.z) && decide (m.z ≤ 950)) && ((decide ((m.i.length : Int) = m.n) && m.okI) && ((decide (1 ≤ m.h.length ∧ m.h.length ≤ 4) && m.okH) && (decide (m.e.length ≤ 6) && m.okE))))))) := ok_parts m
 generalize m.ok = okv at HOK ⊢
 go_enter Tryz.func8, Tryz.ntmps8
 go_wp2_with fail
 clear hW0
 refine (within_any _ _ _ _).mono ?_
 rintro e w2 ⟨rfl, hw⟩
 have hw' := hw.symm
 clear hw
 subst hw'
 cases hA0 : (decide (1 ≤ m.n) && decide (m.n ≤ 4))
 case false =>
  have hno : okv = false := by rw [HOK.out, hA0]; simp
  subst hno
  clear hA0
  go_wp2
  go_ret
  exact ⟨rfl, HB0.out⟩
 have HA0 : Hid ((decide (1 ≤ m.n) && decide (m.n ≤ 4)) = true) := hA0
 clear hA0
 go_wp2_with fail
 refine (within_any _ _ _ _).mono ?_
 rintro e w2 ⟨rfl, hw⟩
 have hw' := hw.symm
 clear hw
 subst hw'
 cases hA1 : (decide (0 ≤ m.s) && decide (m.s ≤ 65535))
 case false =>
  have hno : okv = false := by rw [HOK.out, hA1]; simp
  subst hno
  clear hA1
  go_wp2
  go_ret
  exact ⟨rfl, HB0.out⟩
 have HA1 : Hid ((decide (0 ≤ m.s) && decide (m.s ≤ 65535)) = true) := hA1
 clear hA1
 go_wp2_with fail
 refine (within_any _ _ _ _).mono ?_
 rintro e w2 ⟨rfl, hw⟩
 have hw' := hw.symm
 clear hw
 subst hw'
 cases hA2 : (decide (0 ≤ m.z) && decide (m.z ≤ 950))
 case false =>
  have hno : okv = false := by rw [HOK.out, hA2]; simp
  subst hno
  clear hA2
  go_wp2
  go_ret
  exact ⟨rfl, HB0.out⟩
 have HA2 : Hid ((decide (0 ≤ m.z) && decide (m.z ≤ 950)) = true) := hA2
 clear hA2
 go_wp2_with fail
 refine (initOk_any _ m _ HS.out (HX.out.below HB0.out)).mono ?_
 rintro e w3 ⟨rfl, hb⟩
 have HB3 : Hid (Below w.heap.size w w3) := HB0.out.trans (hb.mono HB0.out.size)
 have HP3 : Hid (Bk w3 w.heap.size 27 #[.int .i64 m.n, .int .i64 m.s, .slice ai m.i.length ci, .slice ah m.h.length ch, .slice ae m.e.length ce, .int .i64 m.z]) := HP0.out.below hb
 clear hb HB0 HP0 p0 p1 p2 p3 p4 p5
 have p0 := HP3.out.cell (i := 0) rfl
 have p1 := HP3.out.cell (i := 1) rfl
 have p2 := HP3.out.cell (i := 2) rfl
 have p3 := HP3.out.cell (i := 3) rfl
 have p4 := HP3.out.cell (i := 4) rfl
 have p5 := HP3.out.cell (i := 5) rfl
 cases hA3 : (decide ((m.i.length : Int) = m.n) && m.okI)
 case false =>
  have hno : okv = false := by rw [HOK.out, hA3]; simp
  subst hno
  clear hA3
  go_wp2
  go_ret
  exact ⟨rfl, HB3.out⟩
 have HA3 : Hid ((decide ((m.i.length : Int) = m.n) && m.okI) = true) := hA3
 clear hA3
 go_wp2_with fail
 refine (handlersOk_any _ m _ HS.out (HX.out.below HB3.out)).mono ?_
 rintro e w4 ⟨rfl, hb⟩
 have HB4 : Hid (Below w.heap.size w w4) := HB3.out.trans (hb.mono HB3.out.size)
 have HP4 : Hid (Bk w4 w.heap.size 27 #[.int .i64 m.n, .int .i64 m.s, .slice ai m.i.length ci, .slice ah m.h.length ch, .slice ae m.e.length ce, .int .i64 m.z]) := HP3.out.below hb
 clear hb HB3 HP3 p0 p1 p2 p3 p4 p5
 have p0 := HP4.out.cell (i := 0) rfl
 have p1 := HP4.out.cell (i := 1) rfl
 have p2 := HP4.out.cell (i := 2) rfl
 have p3 := HP4.out.cell (i := 3) rfl
 have p4 := HP4.out.cell (i := 4) rfl
 have p5 := HP4.out.cell (i := 5) rfl
 cases hA4 : (decide (1 ≤ m.h.length ∧ m.h.length ≤ 4) && m.okH)
 case false =>
  have hno : okv = false := by rw [HOK.out, hA4]; simp
  subst hno
  clear hA4
  go_wp2
  go_ret
  exact ⟨rfl, HB4.out⟩
 have HA4 : Hid ((decide (1 ≤ m.h.length ∧ m.h.length ≤ 4) && m.okH) = true) := hA4
 clear hA4
 go_wp2_with fail
 refine (startOk_any _ m _ HS.out (HX.out.below HB4.out)).mono ?_
 rintro e w5 ⟨rfl, hb⟩
 have HB5 : Hid (Below w.heap.size w w5) := HB4.out.trans (hb.mono HB4.out.size)
 have HP5 : Hid (Bk w5 w.heap.size 27 #[.int .i64 m.n, .int .i64 m.s, .slice ai m.i.length ci, .slice ah m.h.length ch, .slice ae m.e.length ce, .int .i64 m.z]) := HP4.out.below hb
 clear hb HB4 HP4 p0 p1 p2 p3 p4 p5
 have hy : okv = (decide (m.e.length ≤ 6) && m.okE) := by rw [HOK.out, HA0.out, HA1.out, HA2.out, HA3.out, HA4.out]; simp
 subst hy
 clear HOK
 go_wp2
 go_ret
 exact ⟨rfl, HB5.out⟩
end Go.Proofs.YtbljfphdghfkfaaGreatDoor

/- The specification's l1find. -/
namespace Go.Proofs.YtbljfphdghfkfaaGreatDoor
open Go.RowKit
theorem step_append_own {P : Program} {ops : Array Oper} {o : Oper} {a : Act} {w : World} {K : Act → World → Prop} {Q : Exit → Act → World → Prop} {E : Prop}
  (hg : o.guard = none) (s x : Operand) (t : TypeId) (hop : o.op = Op.call { callee := Callee.builtin Builtin.append, args := #[s, x], argTypes := #[t, t] })
  (base : Nat) (e : TypeId) (i : TypeInfo) (z : Value) (size bytes : Nat) (h1 : P.underlying t = some (.slice e)) (h2 : P.info? e = some i) (h3 : i.zero = some z) (h4 : i.size = size) (h5 : i.bytes = bytes) (h6 : z.cells.size = size) (h7 : 0 < size)
  (v : Value) (n : Nat) (xs : List Value) (hs : a.eval s = v) (hown : w.ownsRow base e size v n xs)
  (ad : Addr) (m c : Nat) (news : List Value) (hx : a.eval x = .slice (some ad) m c) (hn : news.length = m * size) (hc : ∀ j u, news[j]? = some u → w.cell? (ad.add j) = some u) (h1c : ∀ u ∈ news, u.oneCell' = true)
  (b1 : n + m ≤ maxLen) (b2 : (n + m) * bytes ≤ 140737488355328) (hbase : base ≤ w.heap.size)
  (hK : ∀ v' w', w'.ownsRow base e size v' (n + m) (xs ++ news) → w.grownBy w' v.ownBlock → K (a.put o.dst v') w') :
  if Region.wanted o (yielded ops a.tmps) = true then Oper.wp P o a w K Q else E := by
 have hw : Region.wanted o (yielded ops a.tmps) = true := by simp [Region.wanted, hg]
 rw [if_pos hw]
 exact wp_append_own w s x t hop base e i z size bytes h1 h2 h3 h4 h5 h6 h7 v n xs hs hown ad m c news hx hn hc h1c b1 b2 hbase (fun v' w' r1 r2 _ => hK v' w' r1 r2)
theorem row_ge {w : World} {B : Nat} {e : TypeId} {size n : Nat} {v : Value} {xs : List Value} (h : w.ownsRow B e size v n xs) {r : Nat} (hr : v.ownBlock = some r) : B ≤ r := by
 obtain ⟨_, ⟨rfl, _⟩ | ⟨g, cap, cur, rfl, hg, _⟩⟩ := h
 ·cases hr
 ·cases hr; exact hg
end Go.Proofs.YtbljfphdghfkfaaGreatDoor

/- Heaps as plain lists: lifting and sinking leave a heap; what is popped first is ahead of all; what is popped one behind the other is in order; two orders of the same events are one. -/
namespace Go.Proofs.YtbljfphdghfkfaaGreatDoor
def Le (a b : Ev) : Prop := ¬ b.cmp a < 0
theorem Le.trans {a b c : Ev} (h : Le a b) (k : Le b c) : Le a c := cmp_neg k h
theorem Le.of_lt {a b : Ev} (h : a.cmp b < 0) : Le a b := cmp_asymm h
theorem Le.refl (a : Ev) : Le a a := fun h => cmp_asymm h h
def HeapW (l : List Ev) : Prop := ∀ i, 0 < i → i < l.length → Le (evAt l ((i - 1) / 2)) (evAt l i)
def UpAt (l : List Ev) (i : Nat) : Prop := (∀ j, 0 < j → j < l.length → j ≠ i → Le (evAt l ((j - 1) / 2)) (evAt l j)) ∧ (0 < i → ∀ j, 0 < j → j < l.length → (j - 1) / 2 = i → Le (evAt l ((i - 1) / 2)) (evAt l j))
theorem up_heap (l : List Ev) (i : Nat) (hi : i < l.length) (h : UpAt l i) : HeapW (upL l i) := by
 induction i using Nat.strongRecOn generalizing l with
 | _ i ih =>
  obtain ⟨h1, h2⟩ := h
  by_cases hc : 0 < i ∧ (evAt l i).cmp (evAt l ((i - 1) / 2)) < 0
  ·rw [upL_go hc.1 hc.2]
   obtain ⟨h0, hlt⟩ := hc
   generalize hp : (i - 1) / 2 = p at hlt h2 ⊢
   have hpi : p < i := by omega
   have hsw : ∀ j, evAt (swp l i p) j = if p = j then evAt l i else if i = j then evAt l p else evAt l j := fun j => evAt_swp l i p j hi (by omega)
   refine ih p hpi _ (by rw [swp_length]; omega) ⟨fun j hj0 hj hjp => ?_, fun hp0 j hj0 hj hjp => ?_⟩
   ·rw [swp_length] at hj
    by_cases hji : j = i
    ·subst hji
     rw [hp, hsw p, if_pos rfl, hsw j, if_neg (by omega), if_pos rfl]
     exact Le.of_lt hlt
    ·rw [hsw j, if_neg (by omega), if_neg (by omega)]
     by_cases hq : (j - 1) / 2 = p
     ·rw [hq, hsw p, if_pos rfl]
      have := h1 j hj0 hj hji
      rw [hq] at this
      exact (Le.of_lt hlt).trans this
     ·by_cases hq' : (j - 1) / 2 = i
      ·rw [hq', hsw i, if_neg (by omega), if_pos rfl]
       exact h2 h0 j hj0 hj hq'
      ·rw [hsw, if_neg (by omega), if_neg (by omega)]
       exact h1 j hj0 hj hji
   ·rw [swp_length] at hj
    rw [hsw ((p - 1) / 2), if_neg (by omega), if_neg (by omega)]
    have hpp := h1 p hp0 (by omega) (by omega)
    by_cases hji : j = i
    ·subst hji
     rw [hsw j, if_neg (by omega), if_pos rfl]
     exact hpp
    ·rw [hsw j, if_neg (by omega), if_neg (by omega)]
     have := h1 j hj0 hj hji
     rw [hjp] at this
     exact hpp.trans this
  ·rw [upL_stop hc]
   intro j hj0 hj
   by_cases hji : j = i
   ·subst hji
    exact fun h => hc ⟨hj0, h⟩
   ·exact h1 j hj0 hj hji
theorem push_heap {l : List Ev} {e : Ev} (h : HeapW l) : HeapW (pushL l e) := by
 unfold pushL
 refine up_heap _ _ (by simp) ⟨fun j hj0 hj hji => ?_, fun h0 j hj0 hj hji => ?_⟩
 ·simp at hj
  rw [evAt_left _ _ _ (by omega), evAt_left _ _ _ (by omega)]
  exact h j hj0 (by omega)
 ·simp at hj
  omega
theorem pick_min (l : List Ev) (n i : Nat) : (pickL l n i = i ∨ ((pickL l n i = 2 * i + 1 ∨ pickL l n i = 2 * i + 2) ∧ pickL l n i < n ∧ (evAt l (pickL l n i)).cmp (evAt l i) < 0)) ∧ ∀ j, (j = 2 * i + 1 ∨ j = 2 * i + 2) → j < n → Le (evAt l (pickL l n i)) (evAt l j) := by
 unfold pickL
 by_cases h1 : 2 * i + 1 < n ∧ (evAt l (2 * i + 1)).cmp (evAt l i) < 0
 ·rw [if_pos h1]
  by_cases h2 : 2 * i + 2 < n ∧ (evAt l (2 * i + 2)).cmp (evAt l (2 * i + 1)) < 0
  ·rw [if_pos h2]
   refine ⟨.inr ⟨.inr rfl, h2.1, cmp_trans h2.2 h1.2⟩, fun j hj hn => ?_⟩
   rcases hj with rfl | rfl
   ·exact Le.of_lt h2.2
   ·exact Le.refl _
  ·rw [if_neg h2]
   refine ⟨.inr ⟨.inl rfl, h1.1, h1.2⟩, fun j hj hn => ?_⟩
   rcases hj with rfl | rfl
   ·exact Le.refl _
   ·exact fun h => h2 ⟨hn, h⟩
 ·rw [if_neg h1]
  by_cases h2 : 2 * i + 2 < n ∧ (evAt l (2 * i + 2)).cmp (evAt l i) < 0
  ·rw [if_pos h2]
   refine ⟨.inr ⟨.inr rfl, h2.1, h2.2⟩, fun j hj hn => ?_⟩
   rcases hj with rfl | rfl
   ·exact (Le.of_lt h2.2).trans (fun h => h1 ⟨hn, h⟩)
   ·exact Le.refl _
  ·rw [if_neg h2]
   refine ⟨.inl rfl, fun j hj hn => ?_⟩
   rcases hj with rfl | rfl
   ·exact fun h => h1 ⟨hn, h⟩
   ·exact fun h => h2 ⟨hn, h⟩
def BothAt (l : List Ev) (i : Nat) : Prop := (∀ j, 0 < j → j < l.length → j ≠ i → (j - 1) / 2 ≠ i → Le (evAt l ((j - 1) / 2)) (evAt l j)) ∧ (0 < i → ∀ j, 0 < j → j < l.length → (j - 1) / 2 = i → Le (evAt l ((i - 1) / 2)) (evAt l j))
def DownAt (l : List Ev) (i : Nat) : Prop := (∀ j, 0 < j → j < l.length → (j - 1) / 2 ≠ i → Le (evAt l ((j - 1) / 2)) (evAt l j)) ∧ (0 < i → ∀ j, 0 < j → j < l.length → (j - 1) / 2 = i → Le (evAt l ((i - 1) / 2)) (evAt l j))
theorem DownAt.both {l : List Ev} {i : Nat} (h : DownAt l i) : BothAt l i := ⟨fun j h0 h1 _ h3 => h.1 j h0 h1 h3, h.2⟩
theorem both_go {l : List Ev} {i : Nat} (hi : i < l.length) (h : BothAt l i) (hk : pickL l l.length i ≠ i) : DownAt (swp l i (pickL l l.length i)) (pickL l l.length i) := by
 obtain ⟨h1, h2⟩ := h
 obtain ⟨hm1, hm2⟩ := pick_min l l.length i
 obtain ⟨hk2, hkn, hlt⟩ := hm1.resolve_left hk
 generalize pickL l l.length i = k at hk hk2 hkn hlt hm2 ⊢
 have hpk : (k - 1) / 2 = i := by omega
 have hsw : ∀ j, evAt (swp l i k) j = if k = j then evAt l i else if i = j then evAt l k else evAt l j := fun j => evAt_swp l i k j hi hkn
 refine ⟨fun j hj0 hj hjk => ?_, fun hk0 j hj0 hj hjk => ?_⟩
 ·rw [swp_length] at hj
  by_cases hj1 : j = k
  ·subst hj1
   rw [hpk, hsw i, if_neg (by omega), if_pos rfl, hsw j, if_pos rfl]
   exact Le.of_lt hlt
  ·by_cases hj2 : j = i
   ·subst hj2
    rw [hsw j, if_neg (by omega), if_pos rfl, hsw ((j - 1) / 2), if_neg (by omega), if_neg (by omega)]
    exact h2 hj0 k (by omega) hkn hpk
   ·rw [hsw j, if_neg (by omega), if_neg (by omega)]
    by_cases hq : (j - 1) / 2 = i
    ·rw [hq, hsw i, if_neg (by omega), if_pos rfl]
     exact hm2 j (by omega) hj
    ·rw [hsw, if_neg (by omega), if_neg (by omega)]
     exact h1 j hj0 hj hj2 hq
 ·rw [swp_length] at hj
  rw [hpk, hsw i, if_neg (by omega), if_pos rfl, hsw j, if_neg (by omega), if_neg (by omega)]
  have := h1 j hj0 hj (by omega) (by omega)
  rw [hjk] at this
  exact this
theorem down_heap (l : List Ev) (i : Nat) (hi : i < l.length) (h : DownAt l i) : HeapW (downL l l.length i) := by
 generalize hm : l.length - i = m
 induction m using Nat.strongRecOn generalizing l i with
 | _ m ih =>
  by_cases hk : pickL l l.length i = i
  ·rw [downL_stop hk]
   have hm2 := (pick_min l l.length i).2
   rw [hk] at hm2
   intro j hj0 hj
   by_cases hq : (j - 1) / 2 = i
   ·rw [hq]; exact hm2 j (by omega) hj
   ·exact h.1 j hj0 hj hq
  ·have hc := (pickL_cases l l.length i).resolve_left hk
   rw [downL_go hk]
   have h3 := ih (l.length - pickL l l.length i) (by omega) (swp l i (pickL l l.length i)) (pickL l l.length i) (by rw [swp_length]; exact hc.2) (both_go hi h.both hk) (by rw [swp_length])
   rw [swp_length] at h3
   exact h3
theorem cut_at (l : List Ev) (i j : Nat) (hi : i < l.length) (hj : j < l.length - 1) : evAt (cutL l i) j = if i = j then evAt l (l.length - 1) else evAt l j := by
 unfold cutL
 rw [evAt_take _ _ _ hj, evAt_set _ _ _ _ hi]
theorem cut_both {l : List Ev} {i : Nat} (h : HeapW l) (hi : i < l.length - 1) : BothAt (cutL l i) i := by
 have hc := cutL_length l i
 refine ⟨fun j hj0 hj hji hq => ?_, fun h0 j hj0 hj hq => ?_⟩
 ·rw [hc] at hj
  rw [cut_at _ _ _ (by omega) (by omega), cut_at _ _ _ (by omega) hj, if_neg (by omega), if_neg (by omega)]
  exact h j hj0 (by omega)
 ·rw [hc] at hj
  rw [cut_at _ _ _ (by omega) (by omega), cut_at _ _ _ (by omega) hj, if_neg (by omega), if_neg (by omega)]
  have a := h i h0 (by omega)
  have b := h j hj0 (by omega)
  rw [hq] at b
  exact a.trans b
theorem take_heap {l : List Ev} {i : Nat} (h : HeapW l) (hi : i < l.length) : HeapW (takeL l i) := by
 have hc := cutL_length l i
 unfold takeL
 by_cases h1 : i < l.length - 1
 ·rw [if_pos h1]
  have hb := cut_both h h1
  rw [← hc] at h1 ⊢
  by_cases hk : pickL (cutL l i) (cutL l i).length i = i
  ·rw [downL_stop hk]
   have hm2 := (pick_min (cutL l i) (cutL l i).length i).2
   rw [hk] at hm2
   refine up_heap _ _ h1 ⟨fun j hj0 hj hji => ?_, hb.2⟩
   by_cases hq : (j - 1) / 2 = i
   ·rw [hq]; exact hm2 j (by omega) hj
   ·exact hb.1 j hj0 hj hji hq
  ·have hk2 := (pickL_cases (cutL l i) (cutL l i).length i).resolve_left hk
   have hd : HeapW (downL (cutL l i) (cutL l i).length i) := by
    rw [downL_go hk]
    have h3 := down_heap (swp (cutL l i) i (pickL (cutL l i) (cutL l i).length i)) (pickL (cutL l i) (cutL l i).length i) (by rw [swp_length]; exact hk2.2) (both_go h1 hb hk)
    rw [swp_length] at h3
    exact h3
   rw [upL_stop (fun hu => hd i hu.1 (by rw [downL_length]; exact h1) hu.2)]
   exact hd
 ·rw [if_neg h1]
  intro j hj0 hj
  rw [hc] at hj
  rw [cut_at _ _ _ hi (by omega), cut_at _ _ _ hi hj, if_neg (by omega), if_neg (by omega)]
  exact h j hj0 (by omega)
theorem heap_first {l : List Ev} (h : HeapW l) (i : Nat) (hi : i < l.length) : Le (evAt l 0) (evAt l i) := by
 induction i using Nat.strongRecOn with
 | _ i ih =>
  by_cases h0 : i = 0
  ·subst h0; exact Le.refl _
  ·exact (ih ((i - 1) / 2) (by omega) (by omega)).trans (h i (by omega) hi)
def InL (e : Ev) (l : List Ev) : Prop := ∃ j, j < l.length ∧ evAt l j = e
theorem inL_kept {e : Ev} {l : List Ev} : InL e l ↔ ¬ Kept (fun x => x ≠ e) l := by
 constructor
 ·rintro ⟨j, hj, he⟩ h
  exact h j hj he
 ·intro h
  refine Classical.byContradiction fun hn => h fun j hj he => hn ⟨j, hj, he⟩
theorem inL_push {e x : Ev} {l : List Ev} : InL e (pushL l x) ↔ InL e l ∨ e = x := by
 rw [inL_kept, kept_pushL, inL_kept]
 constructor
 ·intro h
  by_cases h1 : Kept (fun y => y ≠ e) l
  ·by_cases h2 : e = x
   ·exact .inr h2
   ·exact absurd ⟨h1, fun hh => h2 hh.symm⟩ h
  ·exact .inl h1
 ·rintro (h | h) ⟨h1, h2⟩
  ·exact h h1
  ·exact h2 h.symm
def Ord1 (l : List Ev) : Prop := ∀ i j, i < j → j < l.length → (evAt l i).cmp (evAt l j) < 0
theorem evAt_cons (e : Ev) (l : List Ev) (i : Nat) : evAt (e :: l) (i + 1) = evAt l i := by simp [evAt]
theorem evAt_head (e : Ev) (l : List Ev) : evAt (e :: l) 0 = e := by simp [evAt]
theorem inL_cons {e x : Ev} {l : List Ev} : InL e (x :: l) ↔ e = x ∨ InL e l := by
 constructor
 ·rintro ⟨j, hj, he⟩
  cases j with
  | zero => rw [evAt_head] at he; exact .inl he.symm
  | succ j => rw [evAt_cons] at he; exact .inr ⟨j, by simpa using hj, he⟩
 ·rintro (rfl | ⟨j, hj, he⟩)
  ·exact ⟨0, by simp, evAt_head _ _⟩
  ·exact ⟨j + 1, by simpa using hj, by rw [evAt_cons]; exact he⟩
end Go.Proofs.YtbljfphdghfkfaaGreatDoor

/- States: what they hold, how they come in, are held against each other, marked, and found again. -/
namespace Go.Proofs.YtbljfphdghfkfaaGreatDoor
open Go.RowKit
structure St where
 r : List Int
 q : Int
 d : Int
def IsS (w : World) (x : Value) (s : St) : Prop := ∃ vr, x = .agg #[vr, .int .i64 s.q, .int .i64 s.d] ∧ IsI w vr s.r
theorem IsS.below {w w' : World} {x : Value} {s : St} (h : IsS w x s) (hb : Below w.heap.size w w') : IsS w' x s := by
 obtain ⟨vr, rfl, h⟩ := h
 exact ⟨vr, rfl, h.below hb⟩
def StF (F : Nat → Prop) (w : World) (x : Value) (s : St) : Prop := ∃ vr, x = .agg #[vr, .int .i64 s.q, .int .i64 s.d] ∧ RowF F w vr s.r.length 1 (intCells s.r)
abbrev put3 (w : World) (R : Nat) (v0 v1 v2 : Value) : World := ((w.setCell ⟨R, 0, none⟩ v0).setCell ⟨R, 1, none⟩ v1).setCell ⟨R, 2, none⟩ v2
theorem Bk.put3 {w : World} {R : Nat} {T : TypeId} {a0 a1 a2 : Value} (h : Bk w R T #[a0, a1, a2]) (v0 v1 v2 : Value) : Bk (put3 w R v0 v1 v2) R T #[v0, v1, v2] :=
 ((h.put 0 v0).put 1 v1).put 2 v2
theorem put3_turns (w : World) (R : Nat) (v0 v1 v2 : Value) : Turns (fun b => b = R) w (put3 w R v0 v1 v2) :=
 ((put1_turns w R 0 v0).trans (put1_turns _ R 1 v1)).trans (put1_turns _ R 2 v2)
end Go.Proofs.YtbljfphdghfkfaaGreatDoor

/- Emits as plain values, and as cells. -/
namespace Go.Proofs.YtbljfphdghfkfaaGreatDoor
open Go.RowKit
structure Em where
 t : Int
 l : Int
 v : Int
def Em.cs (e : Em) : List Value := [.int .i64 e.t, .int .i64 e.l, .int .i64 e.v]
def cellsX : List Em → List Value
 | [] => []
 | e :: l => e.cs ++ cellsX l
theorem cellsX_length : ∀ l : List Em, (cellsX l).length = l.length * 3
 | [] => rfl
 | e :: l => by simp [cellsX, cellsX_length l, Em.cs]; omega
theorem cellsX_append : ∀ l l' : List Em, cellsX (l ++ l') = cellsX l ++ cellsX l'
 | [], _ => rfl
 | e :: l, l' => by simp [cellsX, cellsX_append l l']
theorem cellsX_one (l : List Em) : ∀ u ∈ cellsX l, u.oneCell' = true := by
 induction l with
 | nil => intro u h; cases h
 | cons e l ih =>
  intro u h
  rcases List.mem_append.1 h with h | h
  ·simp [Em.cs] at h
   rcases h with rfl | rfl | rfl <;> rfl
  ·exact ih u h
end Go.Proofs.YtbljfphdghfkfaaGreatDoor

/- Numbers at random: the small functions of both sides, plain numbers in, plain numbers out. -/
namespace Go.Proofs.YtbljfphdghfkfaaGreatDoor
open Go.RowKit
def mix (x : Int) : Int := x * 48271 % 2147483647
def numB (x : Int) : Bool := decide (0 ≤ x) && decide (x ≤ 2147483646)
def mixed (x : Int) : Int := if numB x = true then mix x else -1
def placeB (s l n : Int) : Bool := (decide (0 ≤ s) && decide (s ≤ 999999)) && (decide (0 ≤ l) && decide (l ≤ 3)) && (decide (0 ≤ n) && decide (n ≤ 100000))
def startI (s l : Int) : Int := mix ((4 * s + l + 1) % 2147483647)
def randI (s l n : Int) : Int := mix (mix ((startI s l + 7919 * n) % 2147483647))
def rnd (s l n : Int) : Int := if placeB s l n = true then randI s l n else -1
theorem mix_low (x : Int) : 0 ≤ mix x := by unfold mix; omega
theorem mix_high (x : Int) : mix x < 2147483647 := by unfold mix; omega
theorem tmod_pos {x m : Int} (h : 0 ≤ x) : Int.tmod x m = x % m := Int.tmod_eq_emod_of_nonneg h
theorem placeB_iff {s l n : Int} : placeB s l n = true ↔ (0 ≤ s ∧ s ≤ 999999 ∧ 0 ≤ l ∧ l ≤ 3 ∧ 0 ≤ n ∧ n ≤ 100000) := by
 simp [placeB, and_assoc]
theorem numB_iff {x : Int} : numB x = true ↔ (0 ≤ x ∧ x ≤ 2147483646) := by simp [numB]
end Go.Proofs.YtbljfphdghfkfaaGreatDoor

/- Numbers at random: the specification's Mixed, Rand, RandBelow; the program's Mixed and placeOk. -/
namespace Go.Proofs.YtbljfphdghfkfaaGreatDoor
open Go.RowKit
set_option maxHeartbeats 400000 in
theorem iMixed_any (x : Int) (w : World) :
  Calls Tryz.prog 131 #[.int .i64 x] w fun e w' => e = .returned (.int .i64 (mixed x)) ∧ w' = w := by
 have hnot : ∀ (x : Bool) (w : World), (Op.unary .not (.bool x)).run Tryz.prog w = .ok (.bool (!x)) w := fun _ _ => rfl
 by_cases hx : numB x = true
 ·have h := numB_iff.1 hx
  obtain ⟨h0, h1⟩ := h
  have hx1 : (decide (0 ≤ x) && decide (x ≤ 2147483646)) = true := by simp [h0, h1]
  go_enter Tryz.func131, Tryz.ntmps131
  go_wp2_with (go_at_call 31; refine (within_any x _ _ _).mono ?_; rintro e w' ⟨rfl, rfl⟩; rw [hx1])
  go_ret
  exact ⟨ret_int (by simp only [mixed, hx, if_true]; unfold mix; first | omega | (rw [tmod_pos (by omega)])), rfl⟩
 ·have hx1 : (decide (0 ≤ x) && decide (x ≤ 2147483646)) = false := by simpa [numB] using hx
  go_enter Tryz.func131, Tryz.ntmps131
  go_wp2_with (go_at_call 31; refine (within_any x _ _ _).mono ?_; rintro e w' ⟨rfl, rfl⟩; rw [hx1])
  go_ret
  exact ⟨ret_int (by simp [mixed, hx]), rfl⟩
set_option maxHeartbeats 400000 in
theorem placeOk_any (s l n : Int) (w : World) :
  Calls Tryz.prog 124 #[.int .i64 s, .int .i64 l, .int .i64 n] w fun e w' => e = .returned (.bool (placeB s l n)) ∧ w' = w := by
 go_enter Tryz.func124, Tryz.ntmps124
 go_wp2
 all_goals
  go_ret
  refine ⟨?_, rfl⟩
  first | exact ret_dec (by simp [placeB]; omega) | exact ret_bool (by simp [placeB]; omega)
end Go.Proofs.YtbljfphdghfkfaaGreatDoor

