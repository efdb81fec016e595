/- OkI, MOk, SOk, CmpS, Says, Good -/
import Derived.Test.YtnlhcdchmgfipaaGreatExactKernelOkG01
import Derived.Test.YtnlhcdchmgfipaaGreatExactKernelOkLMOpM
import Derived.Test.YtnlhcdchmgfipaaGreatExactKernelOkG04
import Derived.Test.YtnlhcdchmgfipaaGreatExactKernelOkLOkS
import Derived.Test.YtnlhcdchmgfipaaGreatExactKernelOkLQuiet
/- The program's EventOk. -/
namespace Go.Proofs.YtnlhcdchmgfipaaGreat
open Go.RowKit
set_option maxHeartbeats 2000000 in
theorem iOk_any (t s q d k v g : Int) (w : World) :
    Calls Tryz.prog 131 #[.agg #[.int .i64 t, .int .i64 s, .int .i64 q, .int .i64 d, .int .i64 k, .int .i64 v, .int .i64 g]] w fun e w' =>
      e = .returned (.bool (okB t s q d k v g)) ∧ Below w.heap.size w w' := by
  go_enter Tryz.func131, Tryz.ntmps131
  go_wp2
  all_goals
    go_ret
    refine ⟨?_, (Below.refl _ _).alloc (Nat.le_refl _) _⟩
    first | exact ret_dec (by simp [okB]; omega) | exact ret_bool (by simp [okB]; omega)
end Go.Proofs.YtnlhcdchmgfipaaGreat

/- ModelOk, as plain words. -/
namespace Go.Proofs.YtnlhcdchmgfipaaGreat
open Go.RowKit
def Md.hd (m : Md) : Prop := 1 ≤ m.n ∧ m.n ≤ 4 ∧ 0 ≤ m.s ∧ m.s ≤ 65535 ∧ (m.i.length : Int) = m.n ∧ 1 ≤ m.h.length ∧ m.h.length ≤ 4 ∧ m.e.length ≤ 6 ∧ 0 ≤ m.z ∧ m.z ≤ 950
instance (m : Md) : Decidable m.hd := by unfold Md.hd; infer_instance
def inB (x : Int) : Bool := decide (0 ≤ x ∧ x ≤ 999)
def Md.okI (m : Md) : Bool := (List.range m.i.length).all fun j => inB (intAt m.i j)
def rowB (m : Md) (r : List O) : Bool := decide (r.length ≤ 8) && (List.range r.length).all fun q => (oAt r q).ok m.n m.h.length
def Md.okH (m : Md) : Bool := (List.range m.h.length).all fun j => rowB m (hAt m.h j)
def stB (m : Md) (j : Nat) (e : Ev) : Bool := e.ok && decide (e.s = -1 ∧ e.q = (j : Int) ∧ e.g = (j : Int) ∧ e.d < m.n ∧ e.k < (m.h.length : Int) ∧ e.t ≤ m.z)
def Md.okE (m : Md) : Bool := (List.range m.e.length).all fun j => stB m j (evAt m.e j)
def Md.ok (m : Md) : Bool := decide m.hd && m.okI && m.okH && m.okE
theorem range_no {n : Nat} {f : Nat → Bool} {k : Nat} (hk : k < n) (h : f k = false) : (List.range n).all f = false := by
  rw [List.all_eq_false]; exact ⟨k, by simpa using hk, by simp [h]⟩
theorem range_yes {n : Nat} {f : Nat → Bool} (h : ∀ k, k < n → f k = true) : (List.range n).all f = true := by
  rw [List.all_eq_true]; intro k hk; exact h k (by simpa using hk)
theorem ok_hd {m : Md} (h : ¬ m.hd) : m.ok = false := by simp [Md.ok, h]
theorem ok_i {m : Md} (h : m.okI = false) : m.ok = false := by simp [Md.ok, h]
theorem ok_h {m : Md} (h : m.okH = false) : m.ok = false := by simp [Md.ok, h]
theorem ok_e {m : Md} (h : m.okE = false) : m.ok = false := by simp [Md.ok, h]
theorem ok_yes {m : Md} (h : m.hd) (hi : m.okI = true) (hh : m.okH = true) (he : m.okE = true) : m.ok = true := by simp [Md.ok, h, hi, hh, he]
end Go.Proofs.YtnlhcdchmgfipaaGreat

/- Both StateOk. -/
namespace Go.Proofs.YtnlhcdchmgfipaaGreat
open Go.RowKit
def St.ok (s : St) : Bool := decide (s.r.length = 2 ∧ (0 ≤ intAt s.r 0 ∧ intAt s.r 0 ≤ 999) ∧ (0 ≤ intAt s.r 1 ∧ intAt s.r 1 ≤ 999) ∧ 0 ≤ s.q ∧ s.q ≤ 99992 ∧ 0 ≤ s.d ∧ s.d ≤ 99992)
set_option maxRecDepth 100000 in
set_option maxHeartbeats 4000000 in
theorem sStOk (x : Value) (s : St) (w : World) (h : IsS w x s) :
    Calls Tryz.prog 157 #[x] w fun e w' => e = .returned (.bool s.ok) ∧ Below w.heap.size w w' := by
  obtain ⟨vr, rfl, ai, ci, rfl, hi1, hi2, hi3⟩ := h
  clear hi1 hi2
  obtain ⟨W0, hW0⟩ : ∃ W0, w.alloc (.cells #[.slice ai s.r.length ci, .int .i64 s.q, .int .i64 s.d] 85) = W0 := ⟨_, rfl⟩
  have HB0 : Hid (Below w.heap.size w W0) := by rw [← hW0]; exact (Below.refl _ w).alloc (Nat.le_refl _) _
  have HP0 : Bk W0 w.heap.size 85 #[.slice ai s.r.length ci, .int .i64 s.q, .int .i64 s.d] := by rw [← hW0]; exact Bk.new w _ _
  have p0 := HP0.cell (i := 0) rfl
  have p1 := HP0.cell (i := 1) rfl
  have p2 := HP0.cell (i := 2) rfl
  clear HP0
  by_cases c0 : s.r.length = 2
  case neg =>
    have c1 : ¬ ((s.r.length : Int) = 2) := by omega
    clear hi3
    go_enter Tryz.func157, Tryz.ntmps157
    go_wp2
    go_ret
    exact ⟨ret_bool (by simp [St.ok, c0]), HB0.out⟩
  obtain ⟨b, off, rfl, hb, hc⟩ := hi3.resolve_left (by intro e; rw [e] at c0; simp at c0)
  have f0 : W0.cell? ⟨b, off, none⟩ = some (.int .i64 (intAt s.r 0)) := (HB0.out.cell (p := ⟨b, off, none⟩) hb).trans (hc 0 (by omega))
  have f1 : W0.cell? ⟨b, off + 1, none⟩ = some (.int .i64 (intAt s.r 1)) := (HB0.out.cell (p := ⟨b, off + 1, none⟩) hb).trans (hc 1 (by omega))
  have hok : s.ok = decide ((0 ≤ intAt s.r 0 ∧ intAt s.r 0 ≤ 999) ∧ (0 ≤ intAt s.r 1 ∧ intAt s.r 1 ≤ 999) ∧ 0 ≤ s.q ∧ s.q ≤ 99992 ∧ 0 ≤ s.d ∧ s.d ≤ 99992) := by simp [St.ok, c0]
  have HOK : Hid (s.ok = decide ((0 ≤ intAt s.r 0 ∧ intAt s.r 0 ≤ 999) ∧ (0 ≤ intAt s.r 1 ∧ intAt s.r 1 ≤ 999) ∧ 0 ≤ s.q ∧ s.q ≤ 99992 ∧ 0 ≤ s.d ∧ s.d ≤ 99992)) := hok
  rw [c0] at hW0 p0 ⊢
  generalize s.ok = okv at HOK ⊢
  generalize intAt s.r 0 = y at f0 HOK
  generalize intAt s.r 1 = z at f1 HOK
  generalize s.q = q at hW0 p1 HOK ⊢
  generalize s.d = d at hW0 p2 HOK ⊢
  clear hc hb hok c0
  go_enter Tryz.func157, Tryz.ntmps157
  go_wp2
  all_goals
    go_ret
    refine ⟨?_, HB0.out⟩
    rw [HOK.out]
    first | exact ret_bool (decide_eq_decide.2 (by omega)) | exact ret_bool (decide_eq_false (by omega)).symm | exact ret_bool (by simp; omega)
set_option maxRecDepth 100000 in
set_option maxHeartbeats 4000000 in
theorem iStOk (x : Value) (s : St) (w : World) (h : IsS w x s) :
    Calls Tryz.prog 168 #[x] w fun e w' => e = .returned (.bool s.ok) ∧ Below w.heap.size w w' := by
  obtain ⟨vr, rfl, ai, ci, rfl, hi1, hi2, hi3⟩ := h
  clear hi1 hi2
  obtain ⟨W0, hW0⟩ : ∃ W0, w.alloc (.cells #[.slice ai s.r.length ci, .int .i64 s.q, .int .i64 s.d] 85) = W0 := ⟨_, rfl⟩
  have HB0 : Hid (Below w.heap.size w W0) := by rw [← hW0]; exact (Below.refl _ w).alloc (Nat.le_refl _) _
  have HP0 : Bk W0 w.heap.size 85 #[.slice ai s.r.length ci, .int .i64 s.q, .int .i64 s.d] := by rw [← hW0]; exact Bk.new w _ _
  have p0 := HP0.cell (i := 0) rfl
  have p1 := HP0.cell (i := 1) rfl
  have p2 := HP0.cell (i := 2) rfl
  clear HP0
  by_cases c0 : s.r.length = 2
  case neg =>
    have c1 : ¬ ((s.r.length : Int) = 2) := by omega
    clear hi3
    go_enter Tryz.func168, Tryz.ntmps168
    go_wp2
    go_ret
    exact ⟨ret_bool (by simp [St.ok, c0]), HB0.out⟩
  obtain ⟨b, off, rfl, hb, hc⟩ := hi3.resolve_left (by intro e; rw [e] at c0; simp at c0)
  have HC : Hid (∀ k, k < 2 → W0.cell? ⟨b, off + k, none⟩ = some (.int .i64 (intAt s.r k))) := fun k hk => (HB0.out.cell (p := ⟨b, off + k, none⟩) hb).trans (hc k (by omega))
  have HOK : Hid (s.ok = decide ((0 ≤ intAt s.r 0 ∧ intAt s.r 0 ≤ 999) ∧ (0 ≤ intAt s.r 1 ∧ intAt s.r 1 ≤ 999) ∧ 0 ≤ s.q ∧ s.q ≤ 99992 ∧ 0 ≤ s.d ∧ s.d ≤ 99992)) := (by simp [St.ok, c0] : s.ok = _)
  have HNO : Hid (∀ k, k < 2 → inB (intAt s.r k) = false → s.ok = false) := (by
    intro k hk h
    unfold inB at h
    have hd := of_decide_eq_false h
    simp only [St.ok, decide_eq_false_iff_not]
    intro hh
    match k, hk with
    | 0, _ => exact hd hh.2.1
    | 1, _ => exact hd hh.2.2.1 : ∀ k, k < 2 → inB (intAt s.r k) = false → s.ok = false)
  have HYES : Hid ((∀ j, j < 2 → inB (intAt s.r j) = true) → s.ok = ((decide (0 ≤ s.q) && decide (s.q ≤ 99992)) && (decide (0 ≤ s.d) && decide (s.d ≤ 99992)))) := (by
    intro h
    have h0 := of_decide_eq_true (h 0 (by omega))
    have h1 := of_decide_eq_true (h 1 (by omega))
    simp [St.ok, c0, h0, h1, Bool.decide_and, Bool.and_assoc] : _)
  rw [c0] at hW0 p0 ⊢
  generalize s.ok = okv at HOK HNO HYES ⊢
  generalize s.q = q at hW0 p1 HOK HYES ⊢
  generalize s.d = d at hW0 p2 HOK HYES ⊢
  clear hc hb c0 HOK
  go_enter Tryz.func168, Tryz.ntmps168
  go_wp2
  clear hW0
  go_loop [12] (fun i => ∃ k : Nat, k ≤ 2 ∧ i = .int .i64 k ∧ ∀ j, j < k → inB (intAt s.r j) = true) (fun i => 2 - (intOf i).toNat)
  case atStart => exact ⟨0, Nat.zero_le _, rfl, fun j hj => by omega⟩
  case round =>
    obtain ⟨k, hk, rfl, hall⟩ := hrel
    have HA : Hid (∀ j, j < k → inB (intAt s.r j) = true) := hall
    clear hall
    by_cases hlt : k < 2
    · have f0 := HC.out k hlt
      obtain ⟨y, hy⟩ : ∃ y, y = intAt s.r k := ⟨_, rfl⟩
      have HY : Hid (y = intAt s.r k) := hy
      rw [← hy] at f0
      have hkn : (k : Int) < 2 := by omega
      clear hy
      go_wp2_with fail
      refine (within_any _ _ _ _).mono ?_
      rintro e w2 ⟨rfl, hw⟩
      have hw' := hw.symm
      clear hw
      subst hw'
      by_cases y0 : 0 ≤ y ∧ y ≤ 999
      · rw [show (decide (0 ≤ y) && decide (y ≤ 999)) = true from by simp [y0]]
        have HN : Hid (inB y = true) := decide_eq_true y0
        clear y0
        go_wp2
        go_round
        case rel => exact ⟨k + 1, by omega, by go_num, fun j hj => by
          by_cases e : j < k
          · exact HA.out j e
          · rw [show j = k by omega, ← HY.out]; exact HN.out⟩
        case measure => simp [intOf]; omega
      · rw [show (decide (0 ≤ y) && decide (y ≤ 999)) = false from by simp; omega]
        have hno : okv = false := HNO.out k hlt (by rw [← HY.out]; exact decide_eq_false y0)
        subst hno
        clear y0
        go_wp2
        go_ret
        exact ⟨rfl, HB0.out⟩
    · have hyes := HYES.out (fun j hj => HA.out j (by omega))
      subst hyes
      have hkn : ¬ (k : Int) < 2 := by omega
      go_wp2_with fail
      refine (within_any _ _ _ _).mono ?_
      rintro e w2 ⟨rfl, hw⟩
      have hw' := hw.symm
      clear hw
      subst hw'
      cases hq : (decide (0 ≤ q) && decide (q ≤ 99992)) with
      | false =>
        have HQ : Hid ((decide (0 ≤ q) && decide (q ≤ 99992)) = false) := hq
        clear hq
        go_wp2
        go_ret
        exact ⟨ret_bool (by rw [HQ.out]; rfl), HB0.out⟩
      | true =>
        have HQ : Hid ((decide (0 ≤ q) && decide (q ≤ 99992)) = true) := hq
        clear hq
        go_wp2_with fail
        refine (within_any _ _ _ _).mono ?_
        rintro e w2 ⟨rfl, hw⟩
        have hw' := hw.symm
        clear hw
        subst hw'
        go_wp2
        go_ret
        exact ⟨ret_bool (by rw [HQ.out]; rfl), HB0.out⟩
end Go.Proofs.YtnlhcdchmgfipaaGreat

/- The specification's l1cmp. -/
namespace Go.Proofs.YtnlhcdchmgfipaaGreat
open Go.RowKit
set_option maxHeartbeats 2000000 in
theorem l1cmp_any (t s q d k v g t' s' q' d' k' v' g' : Int) (w : World) :
    Calls Tryz.prog 112 #[.agg #[.int .i64 t, .int .i64 s, .int .i64 q, .int .i64 d, .int .i64 k, .int .i64 v, .int .i64 g], .agg #[.int .i64 t', .int .i64 s', .int .i64 q', .int .i64 d', .int .i64 k', .int .i64 v', .int .i64 g']] w fun e w' =>
      e = .returned (.int .i64 (cmpI t s q g t' s' q' g')) ∧ Below w.heap.size w w' := by
  have hb : ∀ o1 o2 : Obj, Below w.heap.size w ((w.alloc o1).alloc o2) := fun o1 o2 => ((Below.refl _ _).alloc (Nat.le_refl _) o1).alloc (by simp) o2
  by_cases h1 : t = t'
  · subst h1
    by_cases h2 : s = s'
    · subst h2
      by_cases h3 : q = q'
      · subst h3
        go_enter Tryz.func112, Tryz.ntmps112
        go_wp2_with (go_at_call 162; refine (num_any _ _ _).mono ?_; rintro e w' ⟨rfl, rfl⟩)
        go_ret
        exact ⟨ret_int (by simp [cmpI]), hb _ _⟩
      · have e3 : (q != q') = true := by simpa using h3
        go_enter Tryz.func112, Tryz.ntmps112
        go_wp2_with (go_at_call 162; refine (num_any _ _ _).mono ?_; rintro e w' ⟨rfl, rfl⟩)
        go_ret
        exact ⟨ret_int (by simp [cmpI, h3]), hb _ _⟩
    · have e2 : (s != s') = true := by simpa using h2
      go_enter Tryz.func112, Tryz.ntmps112
      go_wp2_with (go_at_call 162; refine (num_any _ _ _).mono ?_; rintro e w' ⟨rfl, rfl⟩)
      go_ret
      exact ⟨ret_int (by simp [cmpI, h2]), hb _ _⟩
  · have e1 : (t != t') = true := by simpa using h1
    go_enter Tryz.func112, Tryz.ntmps112
    go_wp2_with (go_at_call 162; refine (num_any _ _ _).mono ?_; rintro e w' ⟨rfl, rfl⟩)
    go_ret
    exact ⟨ret_int (by simp [cmpI, h1]), hb _ _⟩

theorem sOk_is (t s q d k v g : Int) (b : Bool) (h : okB t s q d k v g = b) (w : World) :
    Calls Tryz.prog 110 #[.agg #[.int .i64 t, .int .i64 s, .int .i64 q, .int .i64 d, .int .i64 k, .int .i64 v, .int .i64 g]] w fun e w' => e = .returned (.bool b) ∧ Below w.heap.size w w' := by
  subst h; exact sOk_any t s q d k v g w

end Go.Proofs.YtnlhcdchmgfipaaGreat

/- The specification's EventOk and l1cmp of events; what a bool says. -/
namespace Go.Proofs.YtnlhcdchmgfipaaGreat
open Go.RowKit
/- A bool is returned that says whether p holds. -/
def Says (e : Ending) (p : Prop) : Prop := ∃ b : Bool, e = .returned (.bool b) ∧ (b = true ↔ p)
theorem Says.yes {p : Prop} (h : p) : Says (.returned (.bool true)) p := ⟨true, rfl, fun _ => h, fun _ => rfl⟩
theorem Says.no {p : Prop} (h : ¬ p) : Says (.returned (.bool false)) p := ⟨false, rfl, fun e => (by cases e), fun e => (h e).elim⟩
theorem Says.dec {p q : Prop} [Decidable q] (h : q ↔ p) : Says (.returned (.bool (decide q))) p := ⟨_, rfl, by simpa using h⟩

theorem sOk_ev (e : Ev) (b : Bool) (h : e.ok = b) (w : World) : Calls Tryz.prog 110 #[e.val] w fun r w' => r = .returned (.bool b) ∧ Below w.heap.size w w' := sOk_is _ _ _ _ _ _ _ b h w
theorem l1cmp_ev (a b : Ev) (z : Int) (h : a.cmp b = z) (w : World) : Calls Tryz.prog 112 #[a.val, b.val] w fun r w' => r = .returned (.int .i64 z) ∧ Below w.heap.size w w' := by
  subst h; exact l1cmp_any _ _ _ _ _ _ _ _ _ _ _ _ _ _ w

end Go.Proofs.YtnlhcdchmgfipaaGreat

/- What a queue is. -/
namespace Go.Proofs.YtnlhcdchmgfipaaGreat
open Go.RowKit
def Good1 (l : List Ev) (i : Nat) : Prop := (evAt l i).ok = true ∧ (0 < i → (evAt l (i - 1)).cmp (evAt l i) < 0) ∧ ∀ j, j < i → (evAt l j).g ≠ (evAt l i).g
def GoodQ (l : List Ev) : Prop := l.length ≤ 2000 ∧ ∀ i, i < l.length → Good1 l i
theorem no_good {l : List Ev} {k : Nat} (hk : k < l.length) (h : ¬ Good1 l k) : ¬ GoodQ l := fun e => (h (e.2 k hk)).elim

end Go.Proofs.YtnlhcdchmgfipaaGreat

