/- SSt, EEm, NBase, NSpec -/
import Derived.Test.YtmpoffepoafblaaGreatDecidesG10
import Derived.Test.YtmpoffepoafblaaGreatRows
import Derived.Test.YtmpoffepoafblaaGreatDecidesG01
import Derived.WalkKit
import Derived.WalkSpells
import Derived.WalkLawsBesides
import Derived.Outline
/- States: what they hold, how they come in, are held against each other, marked, and found again. -/
namespace Go.Proofs.YtmpoffepoafblaaGreat
open Go.RowKit
structure St where
  r : List Int
  q : Int
  d : Int
def IsS (w : World) (x : Value) (s : St) : Prop := ∃ vr, x = .agg #[vr, .int .i64 s.q, .int .i64 s.d] ∧ IsI w vr s.r
theorem IsS.below {w w' : World} {x : Value} {s : St} (h : IsS w x s) (hb : Below w.heap.size w w') : IsS w' x s := by
  obtain ⟨vr, rfl, h⟩ := h
  exact ⟨vr, rfl, h.below hb⟩
/- A state whose registers lie in a block of F. -/
def StF (F : Nat → Prop) (w : World) (x : Value) (s : St) : Prop := ∃ vr, x = .agg #[vr, .int .i64 s.q, .int .i64 s.d] ∧ RowF F w vr s.r.length 1 (intCells s.r)
theorem StF.isS {F : Nat → Prop} {w : World} {x : Value} {s : St} (h : StF F w x s) : IsS w x s := by
  obtain ⟨vr, rfl, h⟩ := h
  exact ⟨vr, rfl, h.isI⟩
theorem StF.turns {F S : Nat → Prop} {w w' : World} {x : Value} {s : St} (h : StF F w x s) (ht : Turns S w w') (hS : ∀ k, F k → ¬ S k) : StF F w' x s := by
  obtain ⟨vr, rfl, h⟩ := h
  exact ⟨vr, rfl, h.turns ht hS⟩
theorem StF.below {F : Nat → Prop} {w w' : World} {x : Value} {s : St} (h : StF F w x s) (hb : Below w.heap.size w w') : StF F w' x s :=
  h.turns (S := fun _ => False) (Turns.of_below hb) (fun _ _ => id)
theorem StF.mono {F F' : Nat → Prop} {w : World} {x : Value} {s : St} (h : StF F w x s) (hF : ∀ k, F k → F' k) : StF F' w x s := by
  obtain ⟨vr, rfl, h⟩ := h
  exact ⟨vr, rfl, h.mono hF⟩
theorem StF.form {F : Nat → Prop} {w : World} {x : Value} {s : St} (h : StF F w x s) : ∃ a c, x = .agg #[.slice a s.r.length c, .int .i64 s.q, .int .i64 s.d] := by
  obtain ⟨vr, rfl, _, a, c, rfl, _⟩ := h
  exact ⟨a, c, rfl⟩
/- The state whose registers hold the marks from z on. -/
def HeldS (F : Nat → Prop) (w : World) (x : Value) (s : St) (z : Int) : Prop := ∃ vr, x = .agg #[vr, .int .i64 s.q, .int .i64 s.d] ∧ RowF F w vr s.r.length 1 (mkCells z (s.r.length * 1))
theorem HeldS.turns {F S : Nat → Prop} {w w' : World} {x : Value} {s : St} {z : Int} (h : HeldS F w x s z) (ht : Turns S w w') (hS : ∀ k, F k → ¬ S k) : HeldS F w' x s z := by
  obtain ⟨vr, rfl, h⟩ := h
  exact ⟨vr, rfl, h.turns ht hS⟩
theorem HeldS.below {F : Nat → Prop} {w w' : World} {x : Value} {s : St} {z : Int} (h : HeldS F w x s z) (hb : Below w.heap.size w w') : HeldS F w' x s z :=
  h.turns (S := fun _ => False) (Turns.of_below hb) (fun _ _ => id)
abbrev put3 (w : World) (R : Nat) (v0 v1 v2 : Value) : World := ((w.setCell ⟨R, 0, none⟩ v0).setCell ⟨R, 1, none⟩ v1).setCell ⟨R, 2, none⟩ v2
theorem Bk.put3 {w : World} {R : Nat} {T : TypeId} {a0 a1 a2 : Value} (h : Bk w R T #[a0, a1, a2]) (v0 v1 v2 : Value) : Bk (put3 w R v0 v1 v2) R T #[v0, v1, v2] :=
  ((h.put 0 v0).put 1 v1).put 2 v2
theorem put3_turns (w : World) (R : Nat) (v0 v1 v2 : Value) : Turns (fun b => b = R) w (put3 w R v0 v1 v2) :=
  ((put1_turns w R 0 v0).trans (put1_turns _ R 1 v1)).trans (put1_turns _ R 2 v2)
set_option maxHeartbeats 2000000 in
theorem szState_any (x : Value) (s : St) (left : Int) (w : World) (h0 : 0 ≤ left) (h1 : left ≤ 1048576) (h : IsS w x s) :
    Calls Tryz.prog 112 #[x, .int .i64 left] w fun e w' => (∃ r, e = .returned (.int .i64 r) ∧ (r = -1 ∨ (0 ≤ r ∧ r ≤ 1048576 ∧ s.r.length ≤ 1048576))) ∧ Below w.heap.size w w' := by
  obtain ⟨vr, rfl, a1, c1, rfl, hi1, hi2, _⟩ := h
  obtain ⟨l, q, d⟩ := s
  have HI : Hid (l.length ≤ maxLen) := Nat.le_trans hi1 hi2
  clear hi1 hi2
  obtain ⟨W0, hW0⟩ : ∃ W0, w.alloc (.cells #[.slice a1 l.length c1, .int .i64 q, .int .i64 d] 84) = W0 := ⟨_, rfl⟩
  have HB0 : Hid (Below w.heap.size w W0) := by rw [← hW0]; exact (Below.refl _ w).alloc (Nat.le_refl _) _
  have HP0 : Bk W0 w.heap.size 84 #[.slice a1 l.length c1, .int .i64 q, .int .i64 d] := by rw [← hW0]; exact Bk.new w _ _
  have p0 := HP0.cell (i := 0) rfl
  clear HP0
  go_enter Tryz.func112, Tryz.ntmps112
  go_wp2_with fail
  refine (szI_any _ _ _ _ _ HI.out h0 h1).mono ?_
  rintro e w' ⟨rfl, hw⟩
  have hw' := hw.symm
  clear hw
  subst hw'
  clear hW0
  generalize hq : szN l.length left = t
  have ht : t = -1 ∨ (0 ≤ t ∧ t ≤ 1048576 ∧ l.length ≤ 1048576) := by
    unfold szN at hq
    split at hq <;> omega
  clear hq
  rcases ht with rfl | ⟨t0, t1, t3⟩
  · go_wp2
    go_ret
    exact ⟨⟨_, rfl, .inl rfl⟩, HB0.out⟩
  · have t2 : ¬ (t < 0) := by omega
    go_wp2
    go_ret
    exact ⟨⟨_, rfl, .inr ⟨t0, t1, t3⟩⟩, HB0.out⟩
set_option maxHeartbeats 2000000 in
theorem eqState_same (x y : Value) (s : St) (w : World) (hs : s.r.length ≤ 1048576) (hx : IsS w x s) (hy : IsS w y s) :
    Calls Tryz.prog 105 #[x, y] w fun e w' => e = .returned (.bool true) ∧ Below w.heap.size w w' := by
  obtain ⟨vr, rfl, h1⟩ := hx
  obtain ⟨ur, rfl, k1⟩ := hy
  obtain ⟨l, q, d⟩ := s
  have HI : Hid (IsI w vr l ∧ IsI w ur l) := ⟨h1, k1⟩
  have HS : Hid (l.length ≤ 4611686018427387904) := (by have : l.length ≤ 1048576 := hs; omega : l.length ≤ 4611686018427387904)
  clear h1 k1 hs
  obtain ⟨W0, hW0⟩ : ∃ W0, (w.alloc (.cells #[vr, .int .i64 q, .int .i64 d] 48)).alloc (.cells #[ur, .int .i64 q, .int .i64 d] 48) = W0 := ⟨_, rfl⟩
  have HB0 : Hid (Below w.heap.size w W0) := by rw [← hW0]; exact ((Below.refl _ w).alloc (Nat.le_refl _) _).alloc (by simp) _
  have HP0 : Hid (Bk W0 w.heap.size 48 #[vr, .int .i64 q, .int .i64 d]) := by rw [← hW0]; exact (Bk.new w _ _).alloc _
  have HQ0 : Hid (Bk W0 (w.heap.size + 1) 48 #[ur, .int .i64 q, .int .i64 d]) := by rw [← hW0]; exact Bk.newAt (by simp) _ _
  have p0 := HP0.out.cell (i := 0) rfl
  have q0 := HQ0.out.cell (i := 0) rfl
  go_enter Tryz.func105, Tryz.ntmps105
  go_wp2_with fail
  clear p0 q0 hW0
  refine (eqI_same _ _ l _ HS.out (HI.out.1.below HB0.out) (HI.out.2.below HB0.out)).mono ?_
  rintro e w1 ⟨rfl, hb⟩
  have HB1 : Hid (Below w.heap.size w w1) := HB0.out.trans (hb.mono HB0.out.size)
  have p1 := (HP0.out.below hb).cell (i := 1) rfl
  have q1 := (HQ0.out.below hb).cell (i := 1) rfl
  have p2 := (HP0.out.below hb).cell (i := 2) rfl
  have q2 := (HQ0.out.below hb).cell (i := 2) rfl
  clear hb HB0 HP0 HQ0
  go_wp2
  go_ret
  exact ⟨rfl, HB1.out⟩
set_option maxHeartbeats 2000000 in
theorem markState_any {F : Nat → Prop} {x : Value} {s : St} {w : World} (z : Int) (hs : s.r.length ≤ 1048577) (hz0 : 0 ≤ z) (hz1 : z ≤ 1073741824) (h : StF F w x s) :
    Calls Tryz.prog 107 #[x, .int .i64 z] w fun e w' => e = .returned (.int .i64 (z + (s.r.length : Int))) ∧ HeldS F w' x s z ∧ Turns F w w' := by
  obtain ⟨vr, rfl, h1⟩ := h
  obtain ⟨l, q, d⟩ := s
  have HI : Hid (RowF F w vr l.length 1 (intCells l)) := h1
  have hl : l.length ≤ 1048577 := hs
  clear h1 hs
  obtain ⟨W0, hW0⟩ : ∃ W0, w.alloc (.cells #[vr, .int .i64 q, .int .i64 d] 48) = W0 := ⟨_, rfl⟩
  have HB0 : Hid (Below w.heap.size w W0) := by rw [← hW0]; exact (Below.refl _ w).alloc (Nat.le_refl _) _
  have HP0 : Hid (Bk W0 w.heap.size 48 #[vr, .int .i64 q, .int .i64 d]) := by rw [← hW0]; exact Bk.new w _ _
  have p0 := HP0.out.cell (i := 0) rfl
  go_enter Tryz.func107, Tryz.ntmps107
  go_wp2_with fail
  clear p0 hW0
  refine (markIF (F := F) z hl hz0 hz1 (HI.out.below HB0.out)).mono ?_
  rintro e w1 ⟨rfl, hr, ht⟩
  go_wp2
  go_ret
  exact ⟨rfl, ⟨vr, rfl, hr⟩, (Turns.of_below HB0.out).trans ht⟩
set_option maxHeartbeats 2000000 in
theorem heldState_any {F : Nat → Prop} {x : Value} {s : St} {w : World} (z : Int) (hs : s.r.length ≤ 1048577) (hz0 : 0 ≤ z) (hz1 : z ≤ 1073741824) (h : HeldS F w x s z) :
    Calls Tryz.prog 109 #[x, .int .i64 z] w fun e w' => e = .returned (.int .i64 (z + (s.r.length : Int))) ∧ Below w.heap.size w w' := by
  obtain ⟨vr, rfl, h1⟩ := h
  obtain ⟨l, q, d⟩ := s
  have HI : Hid (RowF F w vr l.length 1 (mkCells z (l.length * 1))) := h1
  have hl : l.length ≤ 1048577 := hs
  clear h1 hs
  obtain ⟨W0, hW0⟩ : ∃ W0, w.alloc (.cells #[vr, .int .i64 q, .int .i64 d] 48) = W0 := ⟨_, rfl⟩
  have HB0 : Hid (Below w.heap.size w W0) := by rw [← hW0]; exact (Below.refl _ w).alloc (Nat.le_refl _) _
  have HP0 : Hid (Bk W0 w.heap.size 48 #[vr, .int .i64 q, .int .i64 d]) := by rw [← hW0]; exact Bk.new w _ _
  have p0 := HP0.out.cell (i := 0) rfl
  have n1 : ¬ (z + (l.length : Int) < 0) := by omega
  go_enter Tryz.func109, Tryz.ntmps109
  go_wp2_with fail
  clear p0 hW0
  refine (heldIF (F := F) z hl hz0 hz1 (HI.out.below HB0.out)).mono ?_
  rintro e w' ⟨rfl, hw⟩
  have hw' := hw.symm
  clear hw
  subst hw'
  go_wp2
  go_ret
  exact ⟨rfl, HB0.out⟩
set_option maxHeartbeats 2000000 in
theorem toState_any (x : Value) (s : St) (w : World) (hs : s.r.length ≤ 1048576) (h : IsS w x s) :
    Calls Tryz.prog 118 #[x] w fun e w' => ∃ y, e = .returned y ∧ Below w.heap.size w w' ∧ StF (fun k => w.heap.size ≤ k ∧ k < w'.heap.size) w' y s := by
  obtain ⟨vr, rfl, h1⟩ := h
  obtain ⟨i, n, z⟩ := s
  have HI : Hid (IsI w vr i) := h1
  have HS : Hid (i.length ≤ 1048576) := hs
  clear h1 hs
  obtain ⟨W0, hW0⟩ : ∃ W0, ((w.alloc (.cells #[vr, .int .i64 n, .int .i64 z] 84)).alloc (.cells #[.slice none 0 0, .int .i64 0, .int .i64 0] 48)).alloc (.cells #[.slice none 0 0, .int .i64 0, .int .i64 0] 48) = W0 := ⟨_, rfl⟩
  have HB0 : Hid (Below w.heap.size w W0) := by rw [← hW0]; exact (((Below.refl _ w).alloc (Nat.le_refl _) _).alloc (by simp) _).alloc (by simp; omega) _
  have HP0 : Hid (Bk W0 w.heap.size 84 #[vr, .int .i64 n, .int .i64 z]) := by rw [← hW0]; exact ((Bk.new w _ _).alloc _).alloc _
  have HR0 : Hid (Bk W0 (w.heap.size + 1) 48 #[.slice none 0 0, .int .i64 0, .int .i64 0]) := by rw [← hW0]; exact (Bk.newAt (by simp) _ _).alloc _
  have HQ0 : Hid (Bk W0 (w.heap.size + 1 + 1) 48 #[.slice none 0 0, .int .i64 0, .int .i64 0]) := by rw [← hW0]; exact Bk.newAt (by simp) _ _
  have HW0 : Hid (((w.alloc (.cells #[vr, .int .i64 n, .int .i64 z] 84)).alloc (.cells #[.slice none 0 0, .int .i64 0, .int .i64 0] 48)).alloc (.cells #[.slice none 0 0, .int .i64 0, .int .i64 0] 48) = W0) := hW0
  clear hW0
  go_enter Tryz.func118, Tryz.ntmps118
  go_wp2_with fail
  rw [HW0.out]
  clear HW0
  refine (toI_any _ i _ HS.out (HI.out.below HB0.out)).mono ?_
  rintro e w1 ⟨rfl, hb, hr⟩
  have HI1 : Hid (RowI w1 W0.heap.size i) := hr
  have hz1 : W0.heap.size < w1.heap.size := hr.1
  have hq := HQ0.out.lt
  have HX1 : Hid (Below w.heap.size w w1) := HB0.out.trans (hb.mono (by omega))
  have HPa := HP0.out.below hb
  have HRa := HR0.out.below hb
  have HQa := HQ0.out.below hb
  clear hb hr HB0 HP0 HR0 HQ0
  obtain ⟨X1, hX1⟩ : ∃ X1, w1.setCell ⟨w.heap.size + 1 + 1, 0, none⟩ (sl W0.heap.size i.length) = X1 := ⟨_, rfl⟩
  obtain ⟨X2, hX2⟩ : ∃ X2, X1.setCell ⟨w.heap.size + 1 + 1, 1, none⟩ (.int .i64 n) = X2 := ⟨_, rfl⟩
  obtain ⟨X3, hX3⟩ : ∃ X3, X2.setCell ⟨w.heap.size + 1 + 1, 2, none⟩ (.int .i64 z) = X3 := ⟨_, rfl⟩
  have a0 := HQa.cell (i := 0) rfl
  have af := HQa.free
  have HP1 : Bk X1 w.heap.size 84 #[vr, .int .i64 n, .int .i64 z] := hX1 ▸ HPa.other 0 _ (by omega)
  have HR1 : Bk X1 (w.heap.size + 1) 48 #[.slice none 0 0, .int .i64 0, .int .i64 0] := hX1 ▸ HRa.other 0 _ (by omega)
  have HQ1 : Bk X1 (w.heap.size + 1 + 1) 48 #[sl W0.heap.size i.length, .int .i64 0, .int .i64 0] := hX1 ▸ HQa.put 0 _
  have p1 := HP1.cell (i := 1) rfl
  have b1 := HQ1.cell (i := 1) rfl
  have bf := HQ1.free
  have HP2 : Bk X2 w.heap.size 84 #[vr, .int .i64 n, .int .i64 z] := hX2 ▸ HP1.other 1 _ (by omega)
  have HR2 : Bk X2 (w.heap.size + 1) 48 #[.slice none 0 0, .int .i64 0, .int .i64 0] := hX2 ▸ HR1.other 1 _ (by omega)
  have HQ2 : Bk X2 (w.heap.size + 1 + 1) 48 #[sl W0.heap.size i.length, .int .i64 n, .int .i64 0] := hX2 ▸ HQ1.put 1 _
  have p2 := HP2.cell (i := 2) rfl
  have c2 := HQ2.cell (i := 2) rfl
  have cf := HQ2.free
  have HR3 : Bk X3 (w.heap.size + 1) 48 #[.slice none 0 0, .int .i64 0, .int .i64 0] := hX3 ▸ HR2.other 2 _ (by omega)
  have HQ3 : Bk X3 (w.heap.size + 1 + 1) 48 #[sl W0.heap.size i.length, .int .i64 n, .int .i64 z] := hX3 ▸ HQ2.put 2 _
  have o0 := HQ3.cell (i := 0) rfl
  have o1 := HQ3.cell (i := 1) rfl
  have o2 := HQ3.cell (i := 2) rfl
  have r0 := HR3.cell (i := 0) rfl
  have r1 := HR3.cell (i := 1) rfl
  have r2 := HR3.cell (i := 2) rfl
  have rf := HR3.free
  have HR4 : Hid (Bk X3 (w.heap.size + 1) 48 #[.slice none 0 0, .int .i64 0, .int .i64 0]) := HR3
  have t1 := put1_turns w1 (w.heap.size + 1 + 1) 0 (sl W0.heap.size i.length)
  have t2 := put1_turns X1 (w.heap.size + 1 + 1) 1 (.int .i64 n)
  have t3 := put1_turns X2 (w.heap.size + 1 + 1) 2 (.int .i64 z)
  rw [hX1] at t1
  rw [hX2] at t2
  rw [hX3] at t3
  have HT : Hid (Turns (fun k => k = w.heap.size + 1 + 1) w1 X3) := (t1.trans t2).trans t3
  clear HPa HRa HQa HP1 HR1 HQ1 HP2 HR2 HQ2 HR3 HQ3 t1 t2 t3
  go_wp2
  clear o0 o1 o2 r0 r1 r2 rf a0 af p1 b1 bf p2 c2 cf
  obtain ⟨X5, hX5⟩ : ∃ X5, put3 X3 (w.heap.size + 1) (.slice (some ⟨W0.heap.size, 0, none⟩) i.length i.length) (.int .i64 n) (.int .i64 z) = X5 := ⟨_, rfl⟩
  have hR := HR4.out.put3 (.slice (some ⟨W0.heap.size, 0, none⟩) i.length i.length) (.int .i64 n) (.int .i64 z)
  have ht := put3_turns X3 (w.heap.size + 1) (.slice (some ⟨W0.heap.size, 0, none⟩) i.length i.length) (.int .i64 n) (.int .i64 z)
  rw [hX5] at hR ht
  unfold put3 at hX5
  rw [hX5]
  have t0 := hR.cell (i := 0) rfl
  have t1 := hR.cell (i := 1) rfl
  have t2 := hR.cell (i := 2) rfl
  have hT : Turns (fun k => k = w.heap.size + 1 + 1 ∨ k = w.heap.size + 1) w1 X5 := (HT.out.mono (fun k e => .inl e)).trans (ht.mono (fun k e => .inr e))
  have hsz := hT.size
  refine bodyPost_ret (v := .agg #[sl W0.heap.size i.length, .int .i64 n, .int .i64 z]) (by simp [results, Tryz.results118, go_sem, t0, t1, t2]) rfl
    ⟨_, rfl, HX1.out.trans (hT.to_below (fun k e => by omega) (by omega)), _, rfl, ?_⟩
  exact ((HI1.out.rowF (by have := HS.out; unfold maxLen; omega)).turns hT (fun k e => by omega)).mono (fun k e => by omega)
end Go.Proofs.YtmpoffepoafblaaGreat

/- Emits as plain values, and as cells. -/
namespace Go.Proofs.YtmpoffepoafblaaGreat
open Go.RowKit
structure Em where
  t : Int
  l : Int
  v : Int
def xAt (l : List Em) (i : Nat) : Em := l.getD i ⟨0, 0, 0⟩
def Em.cs (e : Em) : List Value := [.int .i64 e.t, .int .i64 e.l, .int .i64 e.v]
abbrev Em.val (e : Em) : Value := .agg #[.int .i64 e.t, .int .i64 e.l, .int .i64 e.v]
def cellsX : List Em → List Value
  | [] => []
  | e :: l => e.cs ++ cellsX l
theorem cellsX_length : ∀ l : List Em, (cellsX l).length = l.length * 3
  | [] => rfl
  | e :: l => by simp [cellsX, cellsX_length l, Em.cs]; omega
theorem cellsX_append : ∀ l l' : List Em, cellsX (l ++ l') = cellsX l ++ cellsX l'
  | [], _ => rfl
  | e :: l, l' => by simp [cellsX, cellsX_append l l']
theorem xAt_cons_succ (e : Em) (l : List Em) (i : Nat) : xAt (e :: l) (i + 1) = xAt l i := by simp [xAt]
theorem cellsX_get : ∀ (l : List Em) (i r : Nat), i < l.length → r < 3 → (cellsX l)[i * 3 + r]? = (xAt l i).cs[r]?
  | [], _, _, h, _ => by simp at h
  | e :: l, 0, r, _, hr => by
    have : r < e.cs.length := by simpa [Em.cs] using hr
    simp only [cellsX, Nat.zero_mul, Nat.zero_add]
    rw [List.getElem?_append_left this]
    simp [xAt]
  | e :: l, i + 1, r, h, hr => by
    have h1 := cellsX_get l i r (by simpa using h) hr
    have : e.cs.length ≤ (i + 1) * 3 + r := by simp [Em.cs]; omega
    simp only [cellsX]
    rw [List.getElem?_append_right this, xAt_cons_succ, ← h1]
    congr 1
    simp [Em.cs]; omega
theorem cellsX_one (l : List Em) : ∀ u ∈ cellsX l, u.oneCell' = true := by
  induction l with
  | nil => intro u h; cases h
  | cons e l ih =>
    intro u h
    rcases List.mem_append.1 h with h | h
    · simp [Em.cs] at h
      rcases h with rfl | rfl | rfl <;> rfl
    · exact ih u h
end Go.Proofs.YtmpoffepoafblaaGreat

/- Numbers at random: the small functions of both sides, plain numbers in, plain numbers out. -/
namespace Go.Proofs.YtmpoffepoafblaaGreat
open Go.RowKit

/- What a number is stirred to. -/
def mix (x : Int) : Int := x * 48271 % 2147483647
def numB (x : Int) : Bool := decide (0 ≤ x) && decide (x ≤ 2147483646)
def mixed (x : Int) : Int := if numB x = true then mix x else -1
def placeB (s l n : Int) : Bool := (decide (0 ≤ s) && decide (s ≤ 999999)) && (decide (0 ≤ l) && decide (l ≤ 3)) && (decide (0 ≤ n) && decide (n ≤ 100000))
def startI (s l : Int) : Int := mix ((4 * s + l + 1) % 2147483647)
def randI (s l n : Int) : Int := mix (mix ((startI s l + 7919 * n) % 2147483647))
def rnd (s l n : Int) : Int := if placeB s l n = true then randI s l n else -1

theorem mix_low (x : Int) : 0 ≤ mix x := by unfold mix; omega
theorem mix_high (x : Int) : mix x < 2147483647 := by unfold mix; omega
theorem tmod_pos {x m : Int} (h : 0 ≤ x) : Int.tmod x m = x % m := Int.tmod_eq_emod_of_nonneg h
theorem placeB_iff {s l n : Int} : placeB s l n = true ↔ (0 ≤ s ∧ s ≤ 999999 ∧ 0 ≤ l ∧ l ≤ 3 ∧ 0 ≤ n ∧ n ≤ 100000) := by
  simp [placeB, and_assoc]
theorem numB_iff {x : Int} : numB x = true ↔ (0 ≤ x ∧ x ≤ 2147483646) := by simp [numB]

set_option maxHeartbeats 400000 in
theorem l9mixed_any (x : Int) (h0 : 0 ≤ x) (h1 : x ≤ 2147483646) (w : World) :
    Calls Tryz.prog 252 #[.int .i64 x] w fun e w' => e = .returned (.int .i64 (mix x)) ∧ w' = w := by
  go_enter Tryz.func252, Tryz.ntmps252
  go_wp2
  go_ret
  exact ⟨ret_int (by unfold mix; first | omega | (rw [tmod_pos (by omega)])), rfl⟩
end Go.Proofs.YtmpoffepoafblaaGreat

/- Numbers at random: the specification's Mixed, Rand, RandBelow; the program's Mixed and placeOk. -/
namespace Go.Proofs.YtmpoffepoafblaaGreat
open Go.RowKit

set_option maxHeartbeats 400000 in
theorem iMixed_any (x : Int) (w : World) :
    Calls Tryz.prog 287 #[.int .i64 x] w fun e w' => e = .returned (.int .i64 (mixed x)) ∧ w' = w := by
  have hnot : ∀ (x : Bool) (w : World), (Op.unary .not (.bool x)).run Tryz.prog w = .ok (.bool (!x)) w := fun _ _ => rfl
  by_cases hx : numB x = true
  · have h := numB_iff.1 hx
    obtain ⟨h0, h1⟩ := h
    have hx1 : (decide (0 ≤ x) && decide (x ≤ 2147483646)) = true := by simp [h0, h1]
    go_enter Tryz.func287, Tryz.ntmps287
    go_wp2_with (go_at_call 68; refine (within_any x _ _ _).mono ?_; rintro e w' ⟨rfl, rfl⟩; rw [hx1])
    go_ret
    exact ⟨ret_int (by simp only [mixed, hx, if_true]; unfold mix; first | omega | (rw [tmod_pos (by omega)])), rfl⟩
  · have hx1 : (decide (0 ≤ x) && decide (x ≤ 2147483646)) = false := by simpa [numB] using hx
    go_enter Tryz.func287, Tryz.ntmps287
    go_wp2_with (go_at_call 68; refine (within_any x _ _ _).mono ?_; rintro e w' ⟨rfl, rfl⟩; rw [hx1])
    go_ret
    exact ⟨ret_int (by simp [mixed, hx]), rfl⟩

set_option maxHeartbeats 400000 in
theorem placeOk_any (s l n : Int) (w : World) :
    Calls Tryz.prog 275 #[.int .i64 s, .int .i64 l, .int .i64 n] w fun e w' => e = .returned (.bool (placeB s l n)) ∧ w' = w := by
  go_enter Tryz.func275, Tryz.ntmps275
  go_wp2
  all_goals
    go_ret
    refine ⟨?_, rfl⟩
    first | exact ret_dec (by simp [placeB]; omega) | exact ret_bool (by simp [placeB]; omega)

set_option maxHeartbeats 400000 in
theorem l9rand_any (s l n : Int) (h : placeB s l n = true) (w : World) :
    Calls Tryz.prog 202 #[.int .i64 s, .int .i64 l, .int .i64 n] w fun e w' => e = .returned (.int .i64 (randI s l n)) ∧ w' = w := by
  obtain ⟨h0, h1, h2, h3, h4, h5⟩ := placeB_iff.1 h
  have m0 := mix_low (s * 4 + l + 1)
  have m1 := mix_high (s * 4 + l + 1)
  have e0 : Int.tmod (s * 4 + l + 1) 2147483647 = s * 4 + l + 1 := by rw [tmod_pos (by omega)]; omega
  have e1 : Int.tmod (mix (s * 4 + l + 1) + n * 7919) 2147483647 = (mix (s * 4 + l + 1) + n * 7919) % 2147483647 := tmod_pos (by omega)
  go_enter Tryz.func202, Tryz.ntmps202
  go_wp2_with (go_at_call 252; refine (l9mixed_any _ (by first | exact mix_low _ | omega | (rw [e0]; omega) | (rw [e1]; omega)) (by first | (have := mix_high ((mix (s * 4 + l + 1) + n * 7919) % 2147483647); omega) | omega | (rw [e0]; omega) | (rw [e1]; omega)) _).mono ?_; rintro e w' ⟨rfl, rfl⟩; (try rw [e0]); (try rw [e1]))
  go_ret
  have e2 : startI s l = mix (s * 4 + l + 1) := by unfold startI; congr 1; omega
  exact ⟨ret_int (by unfold randI; rw [e2]; congr 3; omega), rfl⟩
end Go.Proofs.YtmpoffepoafblaaGreat

