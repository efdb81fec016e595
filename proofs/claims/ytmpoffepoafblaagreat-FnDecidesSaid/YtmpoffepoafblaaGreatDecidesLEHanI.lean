/- The program's Handle. -/
import Derived.Test.YtmpoffepoafblaaGreatDecidesG26
import Derived.Test.YtmpoffepoafblaaGreatDecidesG28
namespace Go.Proofs.YtmpoffepoafblaaGreat
open Go.RowKit
def handB (m : Md) (l : List Int) (s : St) (e : Ev) : Bool := m.ok && (vok l && (s.ok && (e.ok && fitB m e.t e.d e.k)))
def zeroE : Ef := ⟨⟨[], 0, 0⟩, [], [], 0⟩
def handR (m : Md) (l : List Int) (s : St) (e : Ev) : Ef := if handB m l s e = true then effR m l s e else zeroE
theorem zero_ef (B : Nat) (w : World) : EfF (fun k => B ≤ k ∧ k < w.heap.size) w (.agg #[.slice none 0 0, .int .i64 0, .int .i64 0, .slice none 0 0, .slice none 0 0, .int .i64 0]) zeroE :=
  ef_of (r := []) (s := []) (x := []) (World.ownsRow_nil _ _ _ _) (World.ownsRow_nil _ _ _ _) (World.ownsRow_nil _ _ _ _)
theorem vec_of {l : List Int} (h : vok l = true) : ∃ c0 c1 c2 c3, l = [c0, c1, c2, c3] ∧ ∀ a : Int, -1 ≤ vecAt c0 c1 c2 c3 a ∧ vecAt c0 c1 c2 c3 a ≤ 1 := by
  obtain ⟨a, b, c, d, rfl, h0, h1, h2, h3⟩ := vok_four h
  refine ⟨a, b, c, d, rfl, fun i => ?_⟩
  unfold vecAt
  split
  · omega
  · split
    · omega
    · split <;> omega
theorem fit_of {m : Md} {s : St} {e : Ev} {c0 c1 c2 c3 : Int} (hm : m.ok = true) (hs : s.ok = true) (he : e.ok = true) (hf : fitB m e.t e.d e.k = true) (hv : ∀ a : Int, -1 ≤ vecAt c0 c1 c2 c3 a ∧ vecAt c0 c1 c2 c3 a ≤ 1) : Fit m c0 c1 c2 c3 s e := by
  simp [fitB] at hf
  exact ⟨hm, hs, he, by omega, by omega, hv⟩
set_option maxRecDepth 100000 in
set_option maxHeartbeats 16000000 in
theorem iHan (x y d : Value) (m : Md) (l : List Int) (s : St) (e : Ev) (w : World) (hsm : SmallM m) (hl : l.length ≤ 1048576) (hm : IsM w x m) (hd : IsI w d l) (hs : IsS w y s) :
    Calls Tryz.prog 24 #[x, d, y, .agg #[.int .i64 e.t, .int .i64 e.s, .int .i64 e.q, .int .i64 e.d, .int .i64 e.k, .int .i64 e.v, .int .i64 e.g]] w fun r w' => ∃ u, r = .returned (.tuple #[u, .bool (handB m l s e)]) ∧ Below w.heap.size w w' ∧ EfF (fun k => w.heap.size ≤ k ∧ k < w'.heap.size) w' u (handR m l s e) := by
  have HM : Hid (IsM w x m) := hm
  have HS : Hid (IsS w y s) := hs
  have HD : Hid (IsI w d l) := hd
  have HSM : Hid (SmallM m) := hsm
  have HL : Hid (l.length ≤ 4611686018427387904) := (by omega : l.length ≤ 4611686018427387904)
  obtain ⟨vi, vh, vs, rfl, ⟨ai, ci, rfl, _⟩, ⟨ah, ch, rfl, _⟩, ⟨ae, ce, rfl, _⟩⟩ := hm
  obtain ⟨vr, rfl, _⟩ := hs
  clear hsm hl hd
  obtain ⟨W0, hW0⟩ : ∃ W0, (((w.alloc (.cells #[.int .i64 m.n, .int .i64 m.s, .slice ai m.i.length ci, .slice ah m.h.length ch, .slice ae m.e.length ce, .int .i64 m.z] 36)).alloc (.cells #[vr, .int .i64 s.q, .int .i64 s.d] 48)).alloc (.cells #[.int .i64 e.t, .int .i64 e.s, .int .i64 e.q, .int .i64 e.d, .int .i64 e.k, .int .i64 e.v, .int .i64 e.g] 50)).alloc (.cells #[.slice none 0 0, .int .i64 0, .int .i64 0, .slice none 0 0, .slice none 0 0, .int .i64 0] 54) = W0 := ⟨_, rfl⟩
  have HM0 : Hid (Bk W0 w.heap.size 36 #[.int .i64 m.n, .int .i64 m.s, .slice ai m.i.length ci, .slice ah m.h.length ch, .slice ae m.e.length ce, .int .i64 m.z]) := by rw [← hW0]; exact (((Bk.new w _ _).alloc _).alloc _).alloc _
  have HS0 : Hid (Bk W0 (w.heap.size + 1) 48 #[vr, .int .i64 s.q, .int .i64 s.d]) := by rw [← hW0]; exact ((Bk.newAt (by simp) _ _).alloc _).alloc _
  have HV0 : Hid (Bk W0 (w.heap.size + 1 + 1) 50 #[.int .i64 e.t, .int .i64 e.s, .int .i64 e.q, .int .i64 e.d, .int .i64 e.k, .int .i64 e.v, .int .i64 e.g]) := by rw [← hW0]; exact (Bk.newAt (by simp) _ _).alloc _
  have HR0 : Hid (Bk W0 (w.heap.size + 1 + 1 + 1) 54 #[.slice none 0 0, .int .i64 0, .int .i64 0, .slice none 0 0, .slice none 0 0, .int .i64 0]) := by rw [← hW0]; exact Bk.newAt (by simp) _ _
  have HB0 : Hid (Below w.heap.size w W0) := by rw [← hW0]; exact ((((Below.refl _ w).alloc (Nat.le_refl _) _).alloc (by simp) _).alloc (by simp; omega) _).alloc (by simp; omega) _
  go_enter Tryz.func24, Tryz.ntmps24
  go_wp2_with fail
  clear hW0
  refine (of_any _ l _ HL.out (HD.out.below HB0.out)).mono ?_
  rintro r w1 ⟨rfl, hb⟩
  have HB1 : Hid (Below w.heap.size w w1) := HB0.out.trans (hb.mono HB0.out.size)
  have HM1 : Hid (Bk w1 w.heap.size 36 #[.int .i64 m.n, .int .i64 m.s, .slice ai m.i.length ci, .slice ah m.h.length ch, .slice ae m.e.length ce, .int .i64 m.z]) := HM0.out.below hb
  have HS1 : Hid (Bk w1 (w.heap.size + 1) 48 #[vr, .int .i64 s.q, .int .i64 s.d]) := HS0.out.below hb
  have HV1 : Hid (Bk w1 (w.heap.size + 1 + 1) 50 #[.int .i64 e.t, .int .i64 e.s, .int .i64 e.q, .int .i64 e.d, .int .i64 e.k, .int .i64 e.v, .int .i64 e.g]) := HV0.out.below hb
  have HR1 : Hid (Bk w1 (w.heap.size + 1 + 1 + 1) 54 #[.slice none 0 0, .int .i64 0, .int .i64 0, .slice none 0 0, .slice none 0 0, .int .i64 0]) := HR0.out.below hb
  clear hb HB0 HM0 HS0 HV0 HR0
  cases hv : vok l with
  | false =>
    rw [show vecOf l = vec 0 0 0 0 from vec_no hv]
    obtain ⟨w2, hw2⟩ : ∃ W, w1.alloc (.cells #[i64 0, i64 0, i64 0, i64 0] 107) = W := ⟨_, rfl⟩
    have hb : Below w1.heap.size w1 w2 := by rw [← hw2]; exact (Below.refl _ _).alloc (Nat.le_refl _) _
    have HC2 : Hid (Bk w2 w1.heap.size 107 #[i64 0, i64 0, i64 0, i64 0]) := by rw [← hw2]; exact Bk.new _ _ _
    have HW2 : Hid (w1.alloc (.cells #[i64 0, i64 0, i64 0, i64 0] 107) = w2) := hw2
    clear hw2
    have p0 := (HM1.out.alloc (.cells #[i64 0, i64 0, i64 0, i64 0] 107)).cell (i := 0) rfl
    have p1 := (HM1.out.alloc (.cells #[i64 0, i64 0, i64 0, i64 0] 107)).cell (i := 1) rfl
    have p2 := (HM1.out.alloc (.cells #[i64 0, i64 0, i64 0, i64 0] 107)).cell (i := 2) rfl
    have p3 := (HM1.out.alloc (.cells #[i64 0, i64 0, i64 0, i64 0] 107)).cell (i := 3) rfl
    have p4 := (HM1.out.alloc (.cells #[i64 0, i64 0, i64 0, i64 0] 107)).cell (i := 4) rfl
    have p5 := (HM1.out.alloc (.cells #[i64 0, i64 0, i64 0, i64 0] 107)).cell (i := 5) rfl
    have hvk : vok l = false := hv
    go_wp2_with fail
    clear p0 p1 p2 p3 p4 p5
    rw [HW2.out]
    clear HW2
    have HB2 : Hid (Below w.heap.size w w2) := HB1.out.trans (hb.mono HB1.out.size)
    have HM2 : Hid (Bk w2 w.heap.size 36 #[.int .i64 m.n, .int .i64 m.s, .slice ai m.i.length ci, .slice ah m.h.length ch, .slice ae m.e.length ce, .int .i64 m.z]) := HM1.out.below hb
    have HS2 : Hid (Bk w2 (w.heap.size + 1) 48 #[vr, .int .i64 s.q, .int .i64 s.d]) := HS1.out.below hb
    have HV2 : Hid (Bk w2 (w.heap.size + 1 + 1) 50 #[.int .i64 e.t, .int .i64 e.s, .int .i64 e.q, .int .i64 e.d, .int .i64 e.k, .int .i64 e.v, .int .i64 e.g]) := HV1.out.below hb
    have HR2 : Hid (Bk w2 (w.heap.size + 1 + 1 + 1) 54 #[.slice none 0 0, .int .i64 0, .int .i64 0, .slice none 0 0, .slice none 0 0, .int .i64 0]) := HR1.out.below hb
    clear hb HB1 HM1 HS1 HV1 HR1
    refine (iModM _ m _ HSM.out (HM.out.below HB2.out)).mono ?_
    rintro r w3 ⟨rfl, hb⟩
    have HC3 : Hid (Bk w3 w1.heap.size 107 #[i64 0, i64 0, i64 0, i64 0]) := HC2.out.below hb
    have HB3 : Hid (Below w.heap.size w w3) := HB2.out.trans (hb.mono HB2.out.size)
    have HM3 : Hid (Bk w3 w.heap.size 36 #[.int .i64 m.n, .int .i64 m.s, .slice ai m.i.length ci, .slice ah m.h.length ch, .slice ae m.e.length ce, .int .i64 m.z]) := HM2.out.below hb
    have HS3 : Hid (Bk w3 (w.heap.size + 1) 48 #[vr, .int .i64 s.q, .int .i64 s.d]) := HS2.out.below hb
    have HV3 : Hid (Bk w3 (w.heap.size + 1 + 1) 50 #[.int .i64 e.t, .int .i64 e.s, .int .i64 e.q, .int .i64 e.d, .int .i64 e.k, .int .i64 e.v, .int .i64 e.g]) := HV2.out.below hb
    have HR3 : Hid (Bk w3 (w.heap.size + 1 + 1 + 1) 54 #[.slice none 0 0, .int .i64 0, .int .i64 0, .slice none 0 0, .slice none 0 0, .int .i64 0]) := HR2.out.below hb
    clear hb HB2 HM2 HS2 HV2 HR2
    cases hmo : m.ok with
    | false =>
      have HNO : Hid (handB m l s e = false) := (by simp [handB, hmo] : handB m l s e = false)
      have r0 := HR3.out.cell (i := 0) rfl
      have r1 := HR3.out.cell (i := 1) rfl
      have r2 := HR3.out.cell (i := 2) rfl
      have r3 := HR3.out.cell (i := 3) rfl
      have r4 := HR3.out.cell (i := 4) rfl
      have r5 := HR3.out.cell (i := 5) rfl
      have rf := HR3.out.free
      go_wp2
      clear r0 r1 r2 r3 r4 r5 rf
      obtain ⟨X5, hX5⟩ : ∃ X5, put6 w3 (w.heap.size + 1 + 1 + 1) (.slice none 0 0) (.int .i64 0) (.int .i64 0) (.slice none 0 0) (.slice none 0 0) (.int .i64 0) = X5 := ⟨_, rfl⟩
      have hR := HR3.out.put6 (.slice none 0 0) (.int .i64 0) (.int .i64 0) (.slice none 0 0) (.slice none 0 0) (.int .i64 0)
      have ht := put6_turns w3 (w.heap.size + 1 + 1 + 1) (.slice none 0 0) (.int .i64 0) (.int .i64 0) (.slice none 0 0) (.slice none 0 0) (.int .i64 0)
      rw [hX5] at hR ht
      unfold put6 at hX5
      rw [hX5]
      have t0 := hR.cell (i := 0) rfl
      have t1 := hR.cell (i := 1) rfl
      have t2 := hR.cell (i := 2) rfl
      have t3 := hR.cell (i := 3) rfl
      have t4 := hR.cell (i := 4) rfl
      have t5 := hR.cell (i := 5) rfl
      have hno : handB m l s e = false := HNO.out
      refine bodyPost_ret (v := .tuple #[.agg #[.slice none 0 0, .int .i64 0, .int .i64 0, .slice none 0 0, .slice none 0 0, .int .i64 0], .bool false]) (by simp [results, Tryz.results24, go_sem, t0, t1, t2, t3, t4, t5]) rfl ⟨_, by rw [hno], HB3.out.trans (ht.to_below (fun k e => by omega) HB3.out.size), ?_⟩
      rw [show handR m l s e = zeroE from by simp [handR, hno]]
      exact zero_ef _ _
    | true =>
      have HNO : Hid (handB m l s e = false) := (by simp [handB, hvk] : handB m l s e = false)
      have r0 := HR3.out.cell (i := 0) rfl
      have r1 := HR3.out.cell (i := 1) rfl
      have r2 := HR3.out.cell (i := 2) rfl
      have r3 := HR3.out.cell (i := 3) rfl
      have r4 := HR3.out.cell (i := 4) rfl
      have r5 := HR3.out.cell (i := 5) rfl
      have rf := HR3.out.free
      go_wp2
      clear r0 r1 r2 r3 r4 r5 rf
      obtain ⟨X5, hX5⟩ : ∃ X5, put6 w3 (w.heap.size + 1 + 1 + 1) (.slice none 0 0) (.int .i64 0) (.int .i64 0) (.slice none 0 0) (.slice none 0 0) (.int .i64 0) = X5 := ⟨_, rfl⟩
      have hR := HR3.out.put6 (.slice none 0 0) (.int .i64 0) (.int .i64 0) (.slice none 0 0) (.slice none 0 0) (.int .i64 0)
      have ht := put6_turns w3 (w.heap.size + 1 + 1 + 1) (.slice none 0 0) (.int .i64 0) (.int .i64 0) (.slice none 0 0) (.slice none 0 0) (.int .i64 0)
      rw [hX5] at hR ht
      unfold put6 at hX5
      rw [hX5]
      have t0 := hR.cell (i := 0) rfl
      have t1 := hR.cell (i := 1) rfl
      have t2 := hR.cell (i := 2) rfl
      have t3 := hR.cell (i := 3) rfl
      have t4 := hR.cell (i := 4) rfl
      have t5 := hR.cell (i := 5) rfl
      have hno : handB m l s e = false := HNO.out
      refine bodyPost_ret (v := .tuple #[.agg #[.slice none 0 0, .int .i64 0, .int .i64 0, .slice none 0 0, .slice none 0 0, .int .i64 0], .bool false]) (by simp [results, Tryz.results24, go_sem, t0, t1, t2, t3, t4, t5]) rfl ⟨_, by rw [hno], HB3.out.trans (ht.to_below (fun k e => by omega) HB3.out.size), ?_⟩
      rw [show handR m l s e = zeroE from by simp [handR, hno]]
      exact zero_ef _ _
  | true =>
    obtain ⟨c0, c1, c2, c3, rfl, hvc⟩ := vec_of hv
    rw [show vecOf [c0, c1, c2, c3] = vec c0 c1 c2 c3 from by simp [vecOf, hv, intAt]]
    obtain ⟨w2, hw2⟩ : ∃ W, w1.alloc (.cells #[i64 c0, i64 c1, i64 c2, i64 c3] 107) = W := ⟨_, rfl⟩
    have hb : Below w1.heap.size w1 w2 := by rw [← hw2]; exact (Below.refl _ _).alloc (Nat.le_refl _) _
    have HC2 : Hid (Bk w2 w1.heap.size 107 #[i64 c0, i64 c1, i64 c2, i64 c3]) := by rw [← hw2]; exact Bk.new _ _ _
    have HB2 : Hid (Below w.heap.size w w2) := HB1.out.trans (hb.mono HB1.out.size)
    have HM2 : Hid (Bk w2 w.heap.size 36 #[.int .i64 m.n, .int .i64 m.s, .slice ai m.i.length ci, .slice ah m.h.length ch, .slice ae m.e.length ce, .int .i64 m.z]) := HM1.out.below hb
    have HS2 : Hid (Bk w2 (w.heap.size + 1) 48 #[vr, .int .i64 s.q, .int .i64 s.d]) := HS1.out.below hb
    have HV2 : Hid (Bk w2 (w.heap.size + 1 + 1) 50 #[.int .i64 e.t, .int .i64 e.s, .int .i64 e.q, .int .i64 e.d, .int .i64 e.k, .int .i64 e.v, .int .i64 e.g]) := HV1.out.below hb
    have HR2 : Hid (Bk w2 (w.heap.size + 1 + 1 + 1) 54 #[.slice none 0 0, .int .i64 0, .int .i64 0, .slice none 0 0, .slice none 0 0, .int .i64 0]) := HR1.out.below hb
    clear hb HB1 HM1 HS1 HV1 HR1
    have p0 := HM2.out.cell (i := 0) rfl
    have p1 := HM2.out.cell (i := 1) rfl
    have p2 := HM2.out.cell (i := 2) rfl
    have p3 := HM2.out.cell (i := 3) rfl
    have p4 := HM2.out.cell (i := 4) rfl
    have p5 := HM2.out.cell (i := 5) rfl
    have hvk : vok [c0, c1, c2, c3] = true := hv
    go_wp2_with fail
    clear hw2
    clear p0 p1 p2 p3 p4 p5
    refine (iModM _ m _ HSM.out (HM.out.below HB2.out)).mono ?_
    rintro r w3 ⟨rfl, hb⟩
    have HC3 : Hid (Bk w3 w1.heap.size 107 #[i64 c0, i64 c1, i64 c2, i64 c3]) := HC2.out.below hb
    have HB3 : Hid (Below w.heap.size w w3) := HB2.out.trans (hb.mono HB2.out.size)
    have HM3 : Hid (Bk w3 w.heap.size 36 #[.int .i64 m.n, .int .i64 m.s, .slice ai m.i.length ci, .slice ah m.h.length ch, .slice ae m.e.length ce, .int .i64 m.z]) := HM2.out.below hb
    have HS3 : Hid (Bk w3 (w.heap.size + 1) 48 #[vr, .int .i64 s.q, .int .i64 s.d]) := HS2.out.below hb
    have HV3 : Hid (Bk w3 (w.heap.size + 1 + 1) 50 #[.int .i64 e.t, .int .i64 e.s, .int .i64 e.q, .int .i64 e.d, .int .i64 e.k, .int .i64 e.v, .int .i64 e.g]) := HV2.out.below hb
    have HR3 : Hid (Bk w3 (w.heap.size + 1 + 1 + 1) 54 #[.slice none 0 0, .int .i64 0, .int .i64 0, .slice none 0 0, .slice none 0 0, .int .i64 0]) := HR2.out.below hb
    clear hb HB2 HM2 HS2 HV2 HR2
    cases hmo : m.ok with
    | false =>
      have HNO : Hid (handB m [c0, c1, c2, c3] s e = false) := (by simp [handB, hmo] : handB m [c0, c1, c2, c3] s e = false)
      have r0 := HR3.out.cell (i := 0) rfl
      have r1 := HR3.out.cell (i := 1) rfl
      have r2 := HR3.out.cell (i := 2) rfl
      have r3 := HR3.out.cell (i := 3) rfl
      have r4 := HR3.out.cell (i := 4) rfl
      have r5 := HR3.out.cell (i := 5) rfl
      have rf := HR3.out.free
      go_wp2
      clear r0 r1 r2 r3 r4 r5 rf
      obtain ⟨X5, hX5⟩ : ∃ X5, put6 w3 (w.heap.size + 1 + 1 + 1) (.slice none 0 0) (.int .i64 0) (.int .i64 0) (.slice none 0 0) (.slice none 0 0) (.int .i64 0) = X5 := ⟨_, rfl⟩
      have hR := HR3.out.put6 (.slice none 0 0) (.int .i64 0) (.int .i64 0) (.slice none 0 0) (.slice none 0 0) (.int .i64 0)
      have ht := put6_turns w3 (w.heap.size + 1 + 1 + 1) (.slice none 0 0) (.int .i64 0) (.int .i64 0) (.slice none 0 0) (.slice none 0 0) (.int .i64 0)
      rw [hX5] at hR ht
      unfold put6 at hX5
      rw [hX5]
      have t0 := hR.cell (i := 0) rfl
      have t1 := hR.cell (i := 1) rfl
      have t2 := hR.cell (i := 2) rfl
      have t3 := hR.cell (i := 3) rfl
      have t4 := hR.cell (i := 4) rfl
      have t5 := hR.cell (i := 5) rfl
      have hno : handB m [c0, c1, c2, c3] s e = false := HNO.out
      refine bodyPost_ret (v := .tuple #[.agg #[.slice none 0 0, .int .i64 0, .int .i64 0, .slice none 0 0, .slice none 0 0, .int .i64 0], .bool false]) (by simp [results, Tryz.results24, go_sem, t0, t1, t2, t3, t4, t5]) rfl ⟨_, by rw [hno], HB3.out.trans (ht.to_below (fun k e => by omega) HB3.out.size), ?_⟩
      rw [show handR m [c0, c1, c2, c3] s e = zeroE from by simp [handR, hno]]
      exact zero_ef _ _
    | true =>
      have k0 := HS3.out.cell (i := 0) rfl
      have k1 := HS3.out.cell (i := 1) rfl
      have k2 := HS3.out.cell (i := 2) rfl
      go_wp2_with fail
      clear k0 k1 k2
      refine (iStOk _ s _ (HS.out.below HB3.out)).mono ?_
      rintro r w4 ⟨rfl, hb⟩
      have HC4 : Hid (Bk w4 w1.heap.size 107 #[i64 c0, i64 c1, i64 c2, i64 c3]) := HC3.out.below hb
      have HB4 : Hid (Below w.heap.size w w4) := HB3.out.trans (hb.mono HB3.out.size)
      have HM4 : Hid (Bk w4 w.heap.size 36 #[.int .i64 m.n, .int .i64 m.s, .slice ai m.i.length ci, .slice ah m.h.length ch, .slice ae m.e.length ce, .int .i64 m.z]) := HM3.out.below hb
      have HS4 : Hid (Bk w4 (w.heap.size + 1) 48 #[vr, .int .i64 s.q, .int .i64 s.d]) := HS3.out.below hb
      have HV4 : Hid (Bk w4 (w.heap.size + 1 + 1) 50 #[.int .i64 e.t, .int .i64 e.s, .int .i64 e.q, .int .i64 e.d, .int .i64 e.k, .int .i64 e.v, .int .i64 e.g]) := HV3.out.below hb
      have HR4 : Hid (Bk w4 (w.heap.size + 1 + 1 + 1) 54 #[.slice none 0 0, .int .i64 0, .int .i64 0, .slice none 0 0, .slice none 0 0, .int .i64 0]) := HR3.out.below hb
      clear hb HB3 HM3 HS3 HV3 HR3
      cases hso : s.ok with
      | false =>
        have HNO : Hid (handB m [c0, c1, c2, c3] s e = false) := (by simp [handB, hso] : handB m [c0, c1, c2, c3] s e = false)
        have r0 := HR4.out.cell (i := 0) rfl
        have r1 := HR4.out.cell (i := 1) rfl
        have r2 := HR4.out.cell (i := 2) rfl
        have r3 := HR4.out.cell (i := 3) rfl
        have r4 := HR4.out.cell (i := 4) rfl
        have r5 := HR4.out.cell (i := 5) rfl
        have rf := HR4.out.free
        go_wp2
        clear r0 r1 r2 r3 r4 r5 rf
        obtain ⟨X5, hX5⟩ : ∃ X5, put6 w4 (w.heap.size + 1 + 1 + 1) (.slice none 0 0) (.int .i64 0) (.int .i64 0) (.slice none 0 0) (.slice none 0 0) (.int .i64 0) = X5 := ⟨_, rfl⟩
        have hR := HR4.out.put6 (.slice none 0 0) (.int .i64 0) (.int .i64 0) (.slice none 0 0) (.slice none 0 0) (.int .i64 0)
        have ht := put6_turns w4 (w.heap.size + 1 + 1 + 1) (.slice none 0 0) (.int .i64 0) (.int .i64 0) (.slice none 0 0) (.slice none 0 0) (.int .i64 0)
        rw [hX5] at hR ht
        unfold put6 at hX5
        rw [hX5]
        have t0 := hR.cell (i := 0) rfl
        have t1 := hR.cell (i := 1) rfl
        have t2 := hR.cell (i := 2) rfl
        have t3 := hR.cell (i := 3) rfl
        have t4 := hR.cell (i := 4) rfl
        have t5 := hR.cell (i := 5) rfl
        have hno : handB m [c0, c1, c2, c3] s e = false := HNO.out
        refine bodyPost_ret (v := .tuple #[.agg #[.slice none 0 0, .int .i64 0, .int .i64 0, .slice none 0 0, .slice none 0 0, .int .i64 0], .bool false]) (by simp [results, Tryz.results24, go_sem, t0, t1, t2, t3, t4, t5]) rfl ⟨_, by rw [hno], HB4.out.trans (ht.to_below (fun k e => by omega) HB4.out.size), ?_⟩
        rw [show handR m [c0, c1, c2, c3] s e = zeroE from by simp [handR, hno]]
        exact zero_ef _ _
      | true =>
        have v0 := HV4.out.cell (i := 0) rfl
        have v1 := HV4.out.cell (i := 1) rfl
        have v2 := HV4.out.cell (i := 2) rfl
        have v3 := HV4.out.cell (i := 3) rfl
        have v4 := HV4.out.cell (i := 4) rfl
        have v5 := HV4.out.cell (i := 5) rfl
        have v6 := HV4.out.cell (i := 6) rfl
        go_wp2_with fail
        clear v0 v1 v2 v3 v4 v5 v6
        refine (iOk_any e.t e.s e.q e.d e.k e.v e.g _).mono ?_
        rintro r w5 ⟨rfl, hb⟩
        have HC5 : Hid (Bk w5 w1.heap.size 107 #[i64 c0, i64 c1, i64 c2, i64 c3]) := HC4.out.below hb
        have HB5 : Hid (Below w.heap.size w w5) := HB4.out.trans (hb.mono HB4.out.size)
        have HM5 : Hid (Bk w5 w.heap.size 36 #[.int .i64 m.n, .int .i64 m.s, .slice ai m.i.length ci, .slice ah m.h.length ch, .slice ae m.e.length ce, .int .i64 m.z]) := HM4.out.below hb
        have HS5 : Hid (Bk w5 (w.heap.size + 1) 48 #[vr, .int .i64 s.q, .int .i64 s.d]) := HS4.out.below hb
        have HV5 : Hid (Bk w5 (w.heap.size + 1 + 1) 50 #[.int .i64 e.t, .int .i64 e.s, .int .i64 e.q, .int .i64 e.d, .int .i64 e.k, .int .i64 e.v, .int .i64 e.g]) := HV4.out.below hb
        have HR5 : Hid (Bk w5 (w.heap.size + 1 + 1 + 1) 54 #[.slice none 0 0, .int .i64 0, .int .i64 0, .slice none 0 0, .slice none 0 0, .int .i64 0]) := HR4.out.below hb
        clear hb HB4 HM4 HS4 HV4 HR4
        have heo' : okB e.t e.s e.q e.d e.k e.v e.g = e.ok := rfl
        rw [heo']
        clear heo'
        cases heo : e.ok with
        | false =>
          have HNO : Hid (handB m [c0, c1, c2, c3] s e = false) := (by simp [handB, heo] : handB m [c0, c1, c2, c3] s e = false)
          have r0 := HR5.out.cell (i := 0) rfl
          have r1 := HR5.out.cell (i := 1) rfl
          have r2 := HR5.out.cell (i := 2) rfl
          have r3 := HR5.out.cell (i := 3) rfl
          have r4 := HR5.out.cell (i := 4) rfl
          have r5 := HR5.out.cell (i := 5) rfl
          have rf := HR5.out.free
          go_wp2
          clear r0 r1 r2 r3 r4 r5 rf
          obtain ⟨X5, hX5⟩ : ∃ X5, put6 w5 (w.heap.size + 1 + 1 + 1) (.slice none 0 0) (.int .i64 0) (.int .i64 0) (.slice none 0 0) (.slice none 0 0) (.int .i64 0) = X5 := ⟨_, rfl⟩
          have hR := HR5.out.put6 (.slice none 0 0) (.int .i64 0) (.int .i64 0) (.slice none 0 0) (.slice none 0 0) (.int .i64 0)
          have ht := put6_turns w5 (w.heap.size + 1 + 1 + 1) (.slice none 0 0) (.int .i64 0) (.int .i64 0) (.slice none 0 0) (.slice none 0 0) (.int .i64 0)
          rw [hX5] at hR ht
          unfold put6 at hX5
          rw [hX5]
          have t0 := hR.cell (i := 0) rfl
          have t1 := hR.cell (i := 1) rfl
          have t2 := hR.cell (i := 2) rfl
          have t3 := hR.cell (i := 3) rfl
          have t4 := hR.cell (i := 4) rfl
          have t5 := hR.cell (i := 5) rfl
          have hno : handB m [c0, c1, c2, c3] s e = false := HNO.out
          refine bodyPost_ret (v := .tuple #[.agg #[.slice none 0 0, .int .i64 0, .int .i64 0, .slice none 0 0, .slice none 0 0, .int .i64 0], .bool false]) (by simp [results, Tryz.results24, go_sem, t0, t1, t2, t3, t4, t5]) rfl ⟨_, by rw [hno], HB5.out.trans (ht.to_below (fun k e => by omega) HB5.out.size), ?_⟩
          rw [show handR m [c0, c1, c2, c3] s e = zeroE from by simp [handR, hno]]
          exact zero_ef _ _
        | true =>
          have p0 := HM5.out.cell (i := 0) rfl
          have p1 := HM5.out.cell (i := 1) rfl
          have p2 := HM5.out.cell (i := 2) rfl
          have p3 := HM5.out.cell (i := 3) rfl
          have p4 := HM5.out.cell (i := 4) rfl
          have p5 := HM5.out.cell (i := 5) rfl
          have v0 := HV5.out.cell (i := 0) rfl
          have v1 := HV5.out.cell (i := 1) rfl
          have v2 := HV5.out.cell (i := 2) rfl
          have v3 := HV5.out.cell (i := 3) rfl
          have v4 := HV5.out.cell (i := 4) rfl
          have v5 := HV5.out.cell (i := 5) rfl
          have v6 := HV5.out.cell (i := 6) rfl
          go_wp2_with fail
          clear p0 p1 p2 p3 p4 p5
          clear v0 v1 v2 v3 v4 v5 v6
          refine (fits_any _ m e.t e.s e.q e.d e.k e.v e.g _ (HM.out.below HB5.out)).mono ?_
          rintro r w6 ⟨rfl, hb⟩
          have HC6 : Hid (Bk w6 w1.heap.size 107 #[i64 c0, i64 c1, i64 c2, i64 c3]) := HC5.out.below hb
          have HB6 : Hid (Below w.heap.size w w6) := HB5.out.trans (hb.mono HB5.out.size)
          have HM6 : Hid (Bk w6 w.heap.size 36 #[.int .i64 m.n, .int .i64 m.s, .slice ai m.i.length ci, .slice ah m.h.length ch, .slice ae m.e.length ce, .int .i64 m.z]) := HM5.out.below hb
          have HS6 : Hid (Bk w6 (w.heap.size + 1) 48 #[vr, .int .i64 s.q, .int .i64 s.d]) := HS5.out.below hb
          have HV6 : Hid (Bk w6 (w.heap.size + 1 + 1) 50 #[.int .i64 e.t, .int .i64 e.s, .int .i64 e.q, .int .i64 e.d, .int .i64 e.k, .int .i64 e.v, .int .i64 e.g]) := HV5.out.below hb
          have HR6 : Hid (Bk w6 (w.heap.size + 1 + 1 + 1) 54 #[.slice none 0 0, .int .i64 0, .int .i64 0, .slice none 0 0, .slice none 0 0, .int .i64 0]) := HR5.out.below hb
          clear hb HB5 HM5 HS5 HV5 HR5
          cases hfo : fitB m e.t e.d e.k with
          | false =>
            have HNO : Hid (handB m [c0, c1, c2, c3] s e = false) := (by simp [handB, hfo] : handB m [c0, c1, c2, c3] s e = false)
            have r0 := HR6.out.cell (i := 0) rfl
            have r1 := HR6.out.cell (i := 1) rfl
            have r2 := HR6.out.cell (i := 2) rfl
            have r3 := HR6.out.cell (i := 3) rfl
            have r4 := HR6.out.cell (i := 4) rfl
            have r5 := HR6.out.cell (i := 5) rfl
            have rf := HR6.out.free
            go_wp2
            clear r0 r1 r2 r3 r4 r5 rf
            obtain ⟨X5, hX5⟩ : ∃ X5, put6 w6 (w.heap.size + 1 + 1 + 1) (.slice none 0 0) (.int .i64 0) (.int .i64 0) (.slice none 0 0) (.slice none 0 0) (.int .i64 0) = X5 := ⟨_, rfl⟩
            have hR := HR6.out.put6 (.slice none 0 0) (.int .i64 0) (.int .i64 0) (.slice none 0 0) (.slice none 0 0) (.int .i64 0)
            have ht := put6_turns w6 (w.heap.size + 1 + 1 + 1) (.slice none 0 0) (.int .i64 0) (.int .i64 0) (.slice none 0 0) (.slice none 0 0) (.int .i64 0)
            rw [hX5] at hR ht
            unfold put6 at hX5
            rw [hX5]
            have t0 := hR.cell (i := 0) rfl
            have t1 := hR.cell (i := 1) rfl
            have t2 := hR.cell (i := 2) rfl
            have t3 := hR.cell (i := 3) rfl
            have t4 := hR.cell (i := 4) rfl
            have t5 := hR.cell (i := 5) rfl
            have hno : handB m [c0, c1, c2, c3] s e = false := HNO.out
            refine bodyPost_ret (v := .tuple #[.agg #[.slice none 0 0, .int .i64 0, .int .i64 0, .slice none 0 0, .slice none 0 0, .int .i64 0], .bool false]) (by simp [results, Tryz.results24, go_sem, t0, t1, t2, t3, t4, t5]) rfl ⟨_, by rw [hno], HB6.out.trans (ht.to_below (fun k e => by omega) HB6.out.size), ?_⟩
            rw [show handR m [c0, c1, c2, c3] s e = zeroE from by simp [handR, hno]]
            exact zero_ef _ _
          | true =>
            have HYES : Hid (handB m [c0, c1, c2, c3] s e = true) := (by simp only [handB, hmo, hvk, hso, heo, hfo]; rfl : handB m [c0, c1, c2, c3] s e = true)
            have HANS : Hid (handR m [c0, c1, c2, c3] s e = effR m [c0, c1, c2, c3] s e) := if_pos HYES.out
            have HFIT : Hid (Fit m c0 c1 c2 c3 s e) := fit_of hmo hso heo hfo hvc
            have p0 := HM6.out.cell (i := 0) rfl
            have p1 := HM6.out.cell (i := 1) rfl
            have p2 := HM6.out.cell (i := 2) rfl
            have p3 := HM6.out.cell (i := 3) rfl
            have p4 := HM6.out.cell (i := 4) rfl
            have p5 := HM6.out.cell (i := 5) rfl
            have k0 := HS6.out.cell (i := 0) rfl
            have k1 := HS6.out.cell (i := 1) rfl
            have k2 := HS6.out.cell (i := 2) rfl
            have v0 := HV6.out.cell (i := 0) rfl
            have v1 := HV6.out.cell (i := 1) rfl
            have v2 := HV6.out.cell (i := 2) rfl
            have v3 := HV6.out.cell (i := 3) rfl
            have v4 := HV6.out.cell (i := 4) rfl
            have v5 := HV6.out.cell (i := 5) rfl
            have v6 := HV6.out.cell (i := 6) rfl
            have cc0 := HC6.out.cell (i := 0) rfl
            have cc1 := HC6.out.cell (i := 1) rfl
            have cc2 := HC6.out.cell (i := 2) rfl
            have cc3 := HC6.out.cell (i := 3) rfl
            clear hmo hso heo hfo hvk
            go_wp2_with fail
            clear p0 p1 p2 p3 p4 p5
            clear k0 k1 k2
            clear v0 v1 v2 v3 v4 v5 v6
            clear cc0 cc1 cc2 cc3
            refine (iEff _ _ m c0 c1 c2 c3 s e _ (HM.out.below HB6.out) (HS.out.below HB6.out) HFIT.out).mono ?_
            rintro r w9 ⟨u, rfl, hb, hu⟩
            have HR9 : Hid (Bk w9 (w.heap.size + 1 + 1 + 1) 54 #[.slice none 0 0, .int .i64 0, .int .i64 0, .slice none 0 0, .slice none 0 0, .int .i64 0]) := HR6.out.below hb
            have HB9 : Hid (Below w.heap.size w w9) := HB6.out.trans (hb.mono HB6.out.size)
            have hz9 : w.heap.size ≤ w6.heap.size := HB6.out.size
            have hzl := HR6.out.lt
            have HU9 : Hid (EfF (fun k => w6.heap.size ≤ k ∧ k < w9.heap.size) w9 u (effR m [c0, c1, c2, c3] s e)) := hu
            obtain ⟨fa, fc, ga, gc, ha, hc, rfl⟩ := hu.form
            clear hb hu
            have r0 := HR9.out.cell (i := 0) rfl
            have r1 := HR9.out.cell (i := 1) rfl
            have r2 := HR9.out.cell (i := 2) rfl
            have r3 := HR9.out.cell (i := 3) rfl
            have r4 := HR9.out.cell (i := 4) rfl
            have r5 := HR9.out.cell (i := 5) rfl
            have rf := HR9.out.free
            generalize effR m [c0, c1, c2, c3] s e = EF at HU9 HANS ⊢
            go_wp2
            clear r0 r1 r2 r3 r4 r5 rf
            obtain ⟨X5, hX5⟩ : ∃ X5, put6 w9 (w.heap.size + 1 + 1 + 1) (.slice fa EF.st.r.length fc) (.int .i64 EF.st.q) (.int .i64 EF.st.d) (.slice ga EF.s.length gc) (.slice ha EF.x.length hc) (.int .i64 EF.k) = X5 := ⟨_, rfl⟩
            have hR := HR9.out.put6 (.slice fa EF.st.r.length fc) (.int .i64 EF.st.q) (.int .i64 EF.st.d) (.slice ga EF.s.length gc) (.slice ha EF.x.length hc) (.int .i64 EF.k)
            have ht := put6_turns w9 (w.heap.size + 1 + 1 + 1) (.slice fa EF.st.r.length fc) (.int .i64 EF.st.q) (.int .i64 EF.st.d) (.slice ga EF.s.length gc) (.slice ha EF.x.length hc) (.int .i64 EF.k)
            rw [hX5] at hR ht
            unfold put6 at hX5
            rw [hX5]
            have t0 := hR.cell (i := 0) rfl
            have t1 := hR.cell (i := 1) rfl
            have t2 := hR.cell (i := 2) rfl
            have t3 := hR.cell (i := 3) rfl
            have t4 := hR.cell (i := 4) rfl
            have t5 := hR.cell (i := 5) rfl
            have hs5 := ht.size
            have hs9 := HB9.out.size
            refine bodyPost_ret (v := .tuple #[.agg #[.slice fa EF.st.r.length fc, .int .i64 EF.st.q, .int .i64 EF.st.d, .slice ga EF.s.length gc, .slice ha EF.x.length hc, .int .i64 EF.k], .bool true]) (by simp [results, Tryz.results24, go_sem, t0, t1, t2, t3, t4, t5]) rfl ⟨_, by rw [HYES.out], HB9.out.trans (ht.to_below (fun k e => by omega) HB9.out.size), ?_⟩
            rw [HANS.out]
            exact (HU9.out.turns ht (fun k e => by omega)).mono (fun k e => by omega)
end Go.Proofs.YtmpoffepoafblaaGreat
