/- MOkM, MTxQ -/
import Derived.Test.YtbcdfacbhemijaaDoorExactHistoryTextCardG21
import Derived.Test.YtbcdfacbhemijaaDoorExactHistoryTextCardLMOkS
import Derived.Test.YtbcdfacbhemijaaDoorExactHistoryTextCardG16
/- The program's ModelOk. -/
namespace Go.Proofs.YtbcdfacbhemijaaDoor
open Go.RowKit
theorem ok_parts (m : Md) : m.ok = ((decide (1 ≤ m.n) && decide (m.n ≤ 4)) && ((decide (0 ≤ m.s) && decide (m.s ≤ 65535)) && ((decide (0 ≤ m.z) && decide (m.z ≤ 950)) && ((decide ((m.i.length : Int) = m.n) && m.okI) && ((decide (1 ≤ m.h.length ∧ m.h.length ≤ 4) && m.okH) && (decide (m.e.length ≤ 6) && m.okE)))))) := by
  unfold Md.ok
  rw [Bool.eq_iff_iff]
  simp only [Bool.and_eq_true, decide_eq_true_eq]
  unfold Md.hd
  constructor
  · rintro ⟨⟨⟨⟨h1, h2, h3, h4, h5, h6, h7, h8, h9, h10⟩, hi⟩, hh⟩, he⟩
    exact ⟨⟨h1, h2⟩, ⟨h3, h4⟩, ⟨h9, h10⟩, ⟨h5, hi⟩, ⟨⟨h6, h7⟩, hh⟩, h8, he⟩
  · rintro ⟨⟨h1, h2⟩, ⟨h3, h4⟩, ⟨h9, h10⟩, ⟨h5, hi⟩, ⟨⟨h6, h7⟩, hh⟩, h8, he⟩
    exact ⟨⟨⟨⟨h1, h2, h3, h4, h5, h6, h7, h8, h9, h10⟩, hi⟩, hh⟩, he⟩
set_option maxRecDepth 100000 in
set_option maxHeartbeats 8000000 in
theorem iModM (x : Value) (m : Md) (w : World) (hs : SmallM m) (h : IsM w x m) :
    Calls Tryd.prog 29 #[x] w fun e w' => e = .returned (.bool m.ok) ∧ Below w.heap.size w w' := by
  have HX : Hid (IsM w x m) := h
  obtain ⟨vi, vh, vs, rfl, ⟨ai, ci, rfl, hi1, hi2, hi3⟩, ⟨ah, ch, rfl, hh1, hh2, hh3⟩, ⟨ae, ce, rfl, he1, he2, he3⟩⟩ := h
  have hi0 : m.i.length ≤ 1048576 := hs.i
  have hh0 : m.h.length ≤ 1048576 := hs.h
  have he0 : m.e.length ≤ 1048576 := hs.e
  have HS : Hid (SmallM m) := hs
  clear hs hi1 hi2 hh1 hh2 he1 he2
  clear hi3 hh3 he3 hi0 hh0 he0
  obtain ⟨W0, hW0⟩ : ∃ W0, w.alloc (.cells #[.int .i64 m.n, .int .i64 m.s, .slice ai m.i.length ci, .slice ah m.h.length ch, .slice ae m.e.length ce, .int .i64 m.z] 33) = W0 := ⟨_, rfl⟩
  have HB0 : Hid (Below w.heap.size w W0) := by rw [← hW0]; exact (Below.refl _ w).alloc (Nat.le_refl _) _
  have HP0 : Hid (Bk W0 w.heap.size 33 #[.int .i64 m.n, .int .i64 m.s, .slice ai m.i.length ci, .slice ah m.h.length ch, .slice ae m.e.length ce, .int .i64 m.z]) := by rw [← hW0]; exact Bk.new w _ _
  have p0 := HP0.out.cell (i := 0) rfl
  have p1 := HP0.out.cell (i := 1) rfl
  have p2 := HP0.out.cell (i := 2) rfl
  have p3 := HP0.out.cell (i := 3) rfl
  have p4 := HP0.out.cell (i := 4) rfl
  have p5 := HP0.out.cell (i := 5) rfl
  have HOK : Hid (m.ok = ((decide (1 ≤ m.n) && decide (m.n ≤ 4)) && ((decide (0 ≤ m.s) && decide (m.s ≤ 65535)) && ((decide (0 ≤ m.z) && decide (m.z ≤ 950)) && ((decide ((m.i.length : Int) = m.n) && m.okI) && ((decide (1 ≤ m.h.length ∧ m.h.length ≤ 4) && m.okH) && (decide (m.e.length ≤ 6) && m.okE))))))) := ok_parts m
  generalize m.ok = okv at HOK ⊢
  go_enter Tryd.func29, Tryd.ntmps29
  go_wp2_with fail
  clear hW0
  refine (within_any _ _ _ _).mono ?_
  rintro e w2 ⟨rfl, hw⟩
  have hw' := hw.symm
  clear hw
  subst hw'
  cases hA0 : (decide (1 ≤ m.n) && decide (m.n ≤ 4))
  case false =>
    have hno : okv = false := by rw [HOK.out, hA0]; simp
    subst hno
    clear hA0
    go_wp2
    go_ret
    exact ⟨rfl, HB0.out⟩
  have HA0 : Hid ((decide (1 ≤ m.n) && decide (m.n ≤ 4)) = true) := hA0
  clear hA0
  go_wp2_with fail
  refine (within_any _ _ _ _).mono ?_
  rintro e w2 ⟨rfl, hw⟩
  have hw' := hw.symm
  clear hw
  subst hw'
  cases hA1 : (decide (0 ≤ m.s) && decide (m.s ≤ 65535))
  case false =>
    have hno : okv = false := by rw [HOK.out, hA1]; simp
    subst hno
    clear hA1
    go_wp2
    go_ret
    exact ⟨rfl, HB0.out⟩
  have HA1 : Hid ((decide (0 ≤ m.s) && decide (m.s ≤ 65535)) = true) := hA1
  clear hA1
  go_wp2_with fail
  refine (within_any _ _ _ _).mono ?_
  rintro e w2 ⟨rfl, hw⟩
  have hw' := hw.symm
  clear hw
  subst hw'
  cases hA2 : (decide (0 ≤ m.z) && decide (m.z ≤ 950))
  case false =>
    have hno : okv = false := by rw [HOK.out, hA2]; simp
    subst hno
    clear hA2
    go_wp2
    go_ret
    exact ⟨rfl, HB0.out⟩
  have HA2 : Hid ((decide (0 ≤ m.z) && decide (m.z ≤ 950)) = true) := hA2
  clear hA2
  go_wp2_with fail
  refine (initOk_any _ m _ HS.out (HX.out.below HB0.out)).mono ?_
  rintro e w3 ⟨rfl, hb⟩
  have HB3 : Hid (Below w.heap.size w w3) := HB0.out.trans (hb.mono HB0.out.size)
  have HP3 : Hid (Bk w3 w.heap.size 33 #[.int .i64 m.n, .int .i64 m.s, .slice ai m.i.length ci, .slice ah m.h.length ch, .slice ae m.e.length ce, .int .i64 m.z]) := HP0.out.below hb
  clear hb HB0 HP0 p0 p1 p2 p3 p4 p5
  have p0 := HP3.out.cell (i := 0) rfl
  have p1 := HP3.out.cell (i := 1) rfl
  have p2 := HP3.out.cell (i := 2) rfl
  have p3 := HP3.out.cell (i := 3) rfl
  have p4 := HP3.out.cell (i := 4) rfl
  have p5 := HP3.out.cell (i := 5) rfl
  cases hA3 : (decide ((m.i.length : Int) = m.n) && m.okI)
  case false =>
    have hno : okv = false := by rw [HOK.out, hA3]; simp
    subst hno
    clear hA3
    go_wp2
    go_ret
    exact ⟨rfl, HB3.out⟩
  have HA3 : Hid ((decide ((m.i.length : Int) = m.n) && m.okI) = true) := hA3
  clear hA3
  go_wp2_with fail
  refine (handlersOk_any _ m _ HS.out (HX.out.below HB3.out)).mono ?_
  rintro e w4 ⟨rfl, hb⟩
  have HB4 : Hid (Below w.heap.size w w4) := HB3.out.trans (hb.mono HB3.out.size)
  have HP4 : Hid (Bk w4 w.heap.size 33 #[.int .i64 m.n, .int .i64 m.s, .slice ai m.i.length ci, .slice ah m.h.length ch, .slice ae m.e.length ce, .int .i64 m.z]) := HP3.out.below hb
  clear hb HB3 HP3 p0 p1 p2 p3 p4 p5
  have p0 := HP4.out.cell (i := 0) rfl
  have p1 := HP4.out.cell (i := 1) rfl
  have p2 := HP4.out.cell (i := 2) rfl
  have p3 := HP4.out.cell (i := 3) rfl
  have p4 := HP4.out.cell (i := 4) rfl
  have p5 := HP4.out.cell (i := 5) rfl
  cases hA4 : (decide (1 ≤ m.h.length ∧ m.h.length ≤ 4) && m.okH)
  case false =>
    have hno : okv = false := by rw [HOK.out, hA4]; simp
    subst hno
    clear hA4
    go_wp2
    go_ret
    exact ⟨rfl, HB4.out⟩
  have HA4 : Hid ((decide (1 ≤ m.h.length ∧ m.h.length ≤ 4) && m.okH) = true) := hA4
  clear hA4
  go_wp2_with fail
  refine (startOk_any _ m _ HS.out (HX.out.below HB4.out)).mono ?_
  rintro e w5 ⟨rfl, hb⟩
  have HB5 : Hid (Below w.heap.size w w5) := HB4.out.trans (hb.mono HB4.out.size)
  have HP5 : Hid (Bk w5 w.heap.size 33 #[.int .i64 m.n, .int .i64 m.s, .slice ai m.i.length ci, .slice ah m.h.length ch, .slice ae m.e.length ce, .int .i64 m.z]) := HP4.out.below hb
  clear hb HB4 HP4 p0 p1 p2 p3 p4 p5
  have hy : okv = (decide (m.e.length ≤ 6) && m.okE) := by rw [HOK.out, HA0.out, HA1.out, HA2.out, HA3.out, HA4.out]; simp
  subst hy
  clear HOK
  go_wp2
  go_ret
  exact ⟨rfl, HB5.out⟩
end Go.Proofs.YtbcdfacbhemijaaDoor

/- The program's text of a model: its first line, the line of a handler. -/
namespace Go.Proofs.YtbcdfacbhemijaaDoor
open Go.RowKit
def headLine (m : Md) : List UInt8 := [112, 97, 114, 116, 115, 32] ++ dec m.n ++ ([32, 101, 110, 100, 32] ++ dec m.z) ++ ([32, 115, 101, 101, 100, 32] ++ dec m.s)
theorem head_end (m : Md) : headLine m ++ [10] = headText m := by simp [headLine, headText]
theorem head_join (m : Md) : Lib.join [[112, 97, 114, 116, 115], dec m.n, [101, 110, 100], dec m.z, [115, 101, 101, 100], dec m.s] [32] = headLine m := by
  rw [Lib.join_cons]
  simp [Lib.joinTail, headLine]
theorem tab_keptB {w w' : World} {B : Nat} (h : Lib.TabIs Tryd.prog w "internal/strconv.uint64pow10" .u64 Lib.pow10Tab) (hb : Below B w w') (hB : w.heap.size ≤ B) : Lib.TabIs Tryd.prog w' "internal/strconv.uint64pow10" .u64 Lib.pow10Tab := tab_kept h (hb.mono hB)
set_option maxRecDepth 100000 in
set_option maxHeartbeats 8000000 in
theorem parts_any (x : Value) (m : Md) (w : World) (hok : m.ok = true) (h : IsM w x m) (htab : Lib.TabIs Tryd.prog w "internal/strconv.uint64pow10" .u64 Lib.pow10Tab) :
    Calls Tryd.prog 30 #[x] w fun e w' => ∃ b : ByteArray, e = .returned (.string b) ∧ b.data.toList = headLine m ∧ Below w.heap.size w w' := by
  obtain ⟨vi, vh, vs, rfl, ⟨ai, ci, rfl, _⟩, ⟨ah, ch, rfl, hh1, hh2, hh3⟩, ⟨ae, ce, rfl, he1, he2, he3⟩⟩ := h
  have HH : Hid (m.h = [] ∨ ∃ b off, ah = some ⟨b, off, none⟩ ∧ b < w.heap.size ∧ ∀ i, i < m.h.length → ∃ u, w.cell? ⟨b, off + i, none⟩ = some u ∧ IsO w u (hAt m.h i)) := hh3
  have HEV : Hid (m.e = [] ∨ ∃ b off, ae = some ⟨b, off, none⟩ ∧ EvsAt w b off m.e) := he3
  clear hh1 hh2 hh3 he1 he2 he3
  clear HH HEV
  obtain ⟨⟨hN0, hN1'⟩, ⟨hS0, hS1'⟩, ⟨hZ0, hZ1'⟩, _, _⟩ := ok_nums hok
  have hN1 : m.n ≤ 1000000 := by omega
  have hS1 : m.s ≤ 1000000 := by omega
  have hZ1 : m.z ≤ 1000000 := by omega
  have HLEN : Hid ((headLine m).length ≤ 1000000000) := by
    have h9 := head_len hok
    rw [← head_end, List.length_append] at h9
    show (headLine m).length ≤ 1000000000
    omega
  clear hok hN1' hS1' hZ1'
  obtain ⟨W0, hW0⟩ : ∃ W0, w.alloc (.cells #[.int .i64 m.n, .int .i64 m.s, .slice ai m.i.length ci, .slice ah m.h.length ch, .slice ae m.e.length ce, .int .i64 m.z] 33) = W0 := ⟨_, rfl⟩
  have HP0 : Hid (Bk W0 w.heap.size 33 #[.int .i64 m.n, .int .i64 m.s, .slice ai m.i.length ci, .slice ah m.h.length ch, .slice ae m.e.length ce, .int .i64 m.z]) := hW0 ▸ Bk.new w _ _
  have HB0 : Hid (Below w.heap.size w W0) := hW0 ▸ (Below.refl _ w).alloc (Nat.le_refl _) _
  have HT0 : Hid (Lib.TabIs Tryd.prog W0 "internal/strconv.uint64pow10" .u64 Lib.pow10Tab) := tab_kept htab HB0.out
  clear htab
  go_enter Tryd.func30, Tryd.ntmps30
  go_upto_region 1 with fail
  try rw [hW0]
  clear hW0
  refine wp_region_held_drew (S := fun W => W.cell? ⟨w.heap.size, 0, none⟩ = some (.int .i64 m.n) ∧ W.cell? ⟨w.heap.size, 5, none⟩ = some (.int .i64 m.z) ∧ W.cell? ⟨w.heap.size, 1, none⟩ = some (.int .i64 m.s)) (by kernel_rfl) ⟨HP0.out.drew.cell (i := 0) rfl, HP0.out.drew.cell (i := 5) rfl, HP0.out.drew.cell (i := 1) rfl⟩ (fun hHeld => ?_)
  obtain ⟨wd, hwd⟩ : ∃ wd, W0.drew = wd := ⟨_, rfl⟩
  have HBwd : Hid (Below w.heap.size w wd) := hwd ▸ HB0.out.drew
  have HPwd : Hid (Bk wd w.heap.size 33 #[.int .i64 m.n, .int .i64 m.s, .slice ai m.i.length ci, .slice ah m.h.length ch, .slice ae m.e.length ce, .int .i64 m.z]) := hwd ▸ HP0.out.drew
  have HTwd : Hid (Lib.TabIs Tryd.prog wd "internal/strconv.uint64pow10" .u64 Lib.pow10Tab) := hwd ▸ tab_kept HT0.out (Below.refl _ W0).drew
  rw [hwd] at hHeld
  rw [hwd]
  clear hwd HB0 HP0 HT0
  refine wpAnyH_take (i := 0) (oi := { dst := some 3, op := Op.fieldAddr 33 (Operand.tmp 1) 0, type := 0, pos := _, after := _, guard := none }) (v := .pointer (some ⟨w.heap.size, 0, none⟩)) rfl (by kernel_rfl) (by kernel_rfl) (by kernel_rfl) (fun _ _ _ h => h) (Or.inl ⟨by rfl, ?_⟩) (by assumption) ?_
  · intro wX hSw
    try dsimp only at hSw
    go_simp
    try exact IntWalk.i64_in _ (by omega)
  try simp only [Act.put, List.setIfInBounds_toArray, List.set_cons_zero, List.set_cons_succ]
  refine wpAnyH_take (i := 1) (oi := { dst := some 4, op := Op.load 3 (Operand.tmp 3), type := 3, pos := _, after := _, guard := none }) (v := .int .i64 m.n) rfl (by kernel_rfl) (by kernel_rfl) (by kernel_rfl) (fun _ _ _ h => h) (Or.inl ⟨by rfl, ?_⟩) (by assumption) ?_
  · intro wX hSw
    try dsimp only at hSw
    go_simp
    try exact IntWalk.i64_in _ (by omega)
  try simp only [Act.put, List.setIfInBounds_toArray, List.set_cons_zero, List.set_cons_succ]
  refine wpAnyH_take (i := 3) (oi := { dst := some 6, op := Op.fieldAddr 33 (Operand.tmp 1) 5, type := 0, pos := _, after := _, guard := none }) (v := .pointer (some ⟨w.heap.size, 5, none⟩)) rfl (by kernel_rfl) (by kernel_rfl) (by kernel_rfl) (fun _ _ _ h => h) (Or.inl ⟨by rfl, ?_⟩) (by assumption) ?_
  · intro wX hSw
    try dsimp only at hSw
    go_simp
    try exact IntWalk.i64_in _ (by omega)
  try simp only [Act.put, List.setIfInBounds_toArray, List.set_cons_zero, List.set_cons_succ]
  refine wpAnyH_take (i := 4) (oi := { dst := some 7, op := Op.load 3 (Operand.tmp 6), type := 3, pos := _, after := _, guard := none }) (v := .int .i64 m.z) rfl (by kernel_rfl) (by kernel_rfl) (by kernel_rfl) (fun _ _ _ h => h) (Or.inl ⟨by rfl, ?_⟩) (by assumption) ?_
  · intro wX hSw
    try dsimp only at hSw
    go_simp
    try exact IntWalk.i64_in _ (by omega)
  try simp only [Act.put, List.setIfInBounds_toArray, List.set_cons_zero, List.set_cons_succ]
  refine wpAnyH_take (i := 6) (oi := { dst := some 9, op := Op.fieldAddr 33 (Operand.tmp 1) 1, type := 0, pos := _, after := _, guard := none }) (v := .pointer (some ⟨w.heap.size, 1, none⟩)) rfl (by kernel_rfl) (by kernel_rfl) (by kernel_rfl) (fun _ _ _ h => h) (Or.inl ⟨by rfl, ?_⟩) (by assumption) ?_
  · intro wX hSw
    try dsimp only at hSw
    go_simp
    try exact IntWalk.i64_in _ (by omega)
  try simp only [Act.put, List.setIfInBounds_toArray, List.set_cons_zero, List.set_cons_succ]
  refine wpAnyH_take (i := 7) (oi := { dst := some 10, op := Op.load 3 (Operand.tmp 9), type := 3, pos := _, after := _, guard := none }) (v := .int .i64 m.s) rfl (by kernel_rfl) (by kernel_rfl) (by kernel_rfl) (fun _ _ _ h => h) (Or.inl ⟨by rfl, ?_⟩) (by assumption) ?_
  · intro wX hSw
    try dsimp only at hSw
    go_simp
    try exact IntWalk.i64_in _ (by omega)
  try simp only [Act.put, List.setIfInBounds_toArray, List.set_cons_zero, List.set_cons_succ]
  refine wpAnyH_ready (rs := [2]) (by kernel_rfl) (by simp) ?_
  refine AllReadyH.cons (o := { dst := some 5, op := Op.call { callee := Callee.value (Operand.func 46), args := #[Operand.tmp 4], argTypes := #[3] }, type := 9, pos := _, after := _, guard := none }) rfl (fun K hK => ?_) AllReadyH.nil
  go_simp
  refine (itoa_any m.n hN0 hN1 _ HTwd.out).mono ?_
  rintro r wA ⟨bA, rfl, hA, hbA⟩
  have HBwA : Hid (Below w.heap.size w wA) := HBwd.out.trans (hbA.mono HBwd.out.size)
  have HTwA : Hid (Lib.TabIs Tryd.prog wA "internal/strconv.uint64pow10" .u64 Lib.pow10Tab) := tab_kept HTwd.out hbA
  have HPwA : Hid (Bk wA w.heap.size 33 #[.int .i64 m.n, .int .i64 m.s, .slice ai m.i.length ci, .slice ah m.h.length ch, .slice ae m.e.length ce, .int .i64 m.z]) := HPwd.out.below hbA
  have HLA : Hid (bA.data.toList = dec m.n) := hA
  clear hbA hA HTwd HPwd HBwd
  try go_simp
  refine hK.out _ _ ⟨HPwA.out.cell (i := 0) rfl, HPwA.out.cell (i := 5) rfl, HPwA.out.cell (i := 1) rfl⟩ (fun hHeld => ?_)
  clear hK K
  try simp only [Act.put, List.setIfInBounds_toArray, List.set_cons_zero, List.set_cons_succ]
  refine wpAnyH_ready (rs := [5]) (by kernel_rfl) (by simp) ?_
  refine AllReadyH.cons (o := { dst := some 8, op := Op.call { callee := Callee.value (Operand.func 46), args := #[Operand.tmp 7], argTypes := #[3] }, type := 9, pos := _, after := _, guard := none }) rfl (fun K hK => ?_) AllReadyH.nil
  go_simp
  refine (itoa_any m.z hZ0 hZ1 _ HTwA.out).mono ?_
  rintro r wB ⟨bB, rfl, hB, hbB⟩
  have HBwB : Hid (Below w.heap.size w wB) := HBwA.out.trans (hbB.mono HBwA.out.size)
  have HTwB : Hid (Lib.TabIs Tryd.prog wB "internal/strconv.uint64pow10" .u64 Lib.pow10Tab) := tab_kept HTwA.out hbB
  have HPwB : Hid (Bk wB w.heap.size 33 #[.int .i64 m.n, .int .i64 m.s, .slice ai m.i.length ci, .slice ah m.h.length ch, .slice ae m.e.length ce, .int .i64 m.z]) := HPwA.out.below hbB
  have HLB : Hid (bB.data.toList = dec m.z) := hB
  clear hbB hB HTwA HPwA HBwA
  try go_simp
  refine hK.out _ _ ⟨HPwB.out.cell (i := 0) rfl, HPwB.out.cell (i := 5) rfl, HPwB.out.cell (i := 1) rfl⟩ (fun hHeld => ?_)
  clear hK K
  try simp only [Act.put, List.setIfInBounds_toArray, List.set_cons_zero, List.set_cons_succ]
  refine wpAnyH_ready (rs := [8]) (by kernel_rfl) (by simp) ?_
  refine AllReadyH.cons (o := { dst := some 11, op := Op.call { callee := Callee.value (Operand.func 46), args := #[Operand.tmp 10], argTypes := #[3] }, type := 9, pos := _, after := _, guard := none }) rfl (fun K hK => ?_) AllReadyH.nil
  go_simp
  refine (itoa_any m.s hS0 hS1 _ HTwB.out).mono ?_
  rintro r wC ⟨bC, rfl, hC, hbC⟩
  have HBwC : Hid (Below w.heap.size w wC) := HBwB.out.trans (hbC.mono HBwB.out.size)
  have HTwC : Hid (Lib.TabIs Tryd.prog wC "internal/strconv.uint64pow10" .u64 Lib.pow10Tab) := tab_kept HTwB.out hbC
  have HPwC : Hid (Bk wC w.heap.size 33 #[.int .i64 m.n, .int .i64 m.s, .slice ai m.i.length ci, .slice ah m.h.length ch, .slice ae m.e.length ce, .int .i64 m.z]) := HPwB.out.below hbC
  have HLC : Hid (bC.data.toList = dec m.s) := hC
  clear hbC hC HTwB HPwB HBwB
  try go_simp
  refine hK.out _ _ ⟨HPwC.out.cell (i := 0) rfl, HPwC.out.cell (i := 5) rfl, HPwC.out.cell (i := 1) rfl⟩ (fun hHeld => ?_)
  clear hK K
  try simp only [Act.put, List.setIfInBounds_toArray, List.set_cons_zero, List.set_cons_succ]
  refine wpAnyH_ready (rs := [9]) (by kernel_rfl) (by simp) ?_
  refine AllReadyH.cons (o := { dst := some 12, op := Op.buildSlice 60 6 #[(0, Operand.const (Value.string { data := #[112, 97, 114, 116, 115] })), (1, Operand.tmp 5), (2, Operand.const (Value.string { data := #[101, 110, 100] })), (3, Operand.tmp 8), (4, Operand.const (Value.string { data := #[115, 101, 101, 100] })), (5, Operand.tmp 11)], type := 60, pos := _, after := _, guard := none }) rfl (fun K hK => ?_) AllReadyH.nil
  obtain ⟨X6, hX6⟩ : ∃ X, X = wC.heap.size := ⟨_, rfl⟩
  obtain ⟨w6, hw6⟩ : ∃ V, wC.alloc (.cells #[.string ⟨#[112, 97, 114, 116, 115]⟩, .string bA, .string ⟨#[101, 110, 100]⟩, .string bB, .string ⟨#[115, 101, 101, 100]⟩, .string bC] 9) = V := ⟨_, rfl⟩
  have HR6 : Hid (SrS wC.heap.size w6 (.slice (some ⟨wC.heap.size, 0, none⟩) 6 6) [(⟨#[112, 97, 114, 116, 115]⟩ : ByteArray), bA, ⟨#[101, 110, 100]⟩, bB, ⟨#[115, 101, 101, 100]⟩, bC]) := hw6 ▸ SrS.made wC _ _ rfl 6 rfl (by simp)
  have HB6 : Hid (Below w.heap.size w w6) := hw6 ▸ HBwC.out.alloc HBwC.out.size _
  have HP6 : Hid (Bk w6 w.heap.size 33 #[.int .i64 m.n, .int .i64 m.s, .slice ai m.i.length ci, .slice ah m.h.length ch, .slice ae m.e.length ce, .int .i64 m.z]) := hw6 ▸ HPwC.out.alloc _
  have HW6 : Hid (wC.alloc (.cells #[.string ⟨#[112, 97, 114, 116, 115]⟩, .string bA, .string ⟨#[101, 110, 100]⟩, .string bB, .string ⟨#[115, 101, 101, 100]⟩, .string bC] 9) = w6) := hw6
  clear hw6 hX6 HTwC HBwC HPwC
  go_simp
  rw [HW6.out]
  clear HW6
  refine hK.out _ _ ⟨HP6.out.cell (i := 0) rfl, HP6.out.cell (i := 5) rfl, HP6.out.cell (i := 1) rfl⟩ (fun hHeld => ?_)
  clear hK K
  try simp only [Act.put, List.setIfInBounds_toArray, List.set_cons_zero, List.set_cons_succ]
  refine wpAnyH_ready (rs := [10]) (by kernel_rfl) (by simp) ?_
  refine AllReadyH.cons (o := { dst := some 13, op := Op.call { callee := Callee.value (Operand.func 33), args := #[Operand.tmp 12, Operand.const (Value.string { data := #[32] })], argTypes := #[60, 9] }, type := 9, pos := _, after := _, guard := none }) rfl (fun K hK => ?_) AllReadyH.nil
  go_simp
  refine (join_any w6 _ [(⟨#[112, 97, 114, 116, 115]⟩ : ByteArray), bA, ⟨#[101, 110, 100]⟩, bB, ⟨#[115, 101, 101, 100]⟩, bC] ⟨#[32]⟩ HR6.out (by simp) (by simp) (headLine m) (by show Lib.join [_, bA.data.toList, _, bB.data.toList, _, bC.data.toList] _ = _; rw [HLA.out, HLB.out, HLC.out]; exact head_join m) HLEN.out).mono ?_
  rintro r wJ ⟨bJ, rfl, hJ, hbJ⟩
  have HBJ : Hid (Below w.heap.size w wJ) := HB6.out.trans (hbJ.mono HB6.out.size)
  have HJ : Hid (bJ.data.toList = headLine m) := hJ
  have HPJ : Hid (Bk wJ w.heap.size 33 #[.int .i64 m.n, .int .i64 m.s, .slice ai m.i.length ci, .slice ah m.h.length ch, .slice ae m.e.length ce, .int .i64 m.z]) := HP6.out.below hbJ
  clear hbJ hJ HR6 HB6 HP6
  try go_simp
  refine hK.out _ _ ⟨HPJ.out.cell (i := 0) rfl, HPJ.out.cell (i := 5) rfl, HPJ.out.cell (i := 1) rfl⟩ (fun hHeld => ?_)
  clear hK K
  try simp only [Act.put, List.setIfInBounds_toArray, List.set_cons_zero, List.set_cons_succ]
  refine wpAnyH_take (i := 11) (oi := { dst := some 2, op := Op.assign (Operand.tmp 13), type := 9, pos := _, after := _, guard := none }) (v := .string bJ) rfl (by kernel_rfl) (by kernel_rfl) (by kernel_rfl) (fun _ _ _ h => h) (Or.inl ⟨by rfl, ?_⟩) (by assumption) ?_
  · intro wX hSw
    try dsimp only at hSw
    go_simp
    try exact IntWalk.i64_in _ (by omega)
  try simp only [Act.put, List.setIfInBounds_toArray, List.set_cons_zero, List.set_cons_succ]
  refine wpAnyH_done (by kernel_rfl) ?_ _
  go_wp2
  go_ret
  exact ⟨_, rfl, HJ.out, HBJ.out⟩
def kindLine (i : Nat) (r : List O) : List UInt8 := [107, 105, 110, 100, 32] ++ dec (i : Int) ++ opsText r
theorem kind_end (i : Nat) (r : List O) : kindLine i r ++ [10] = kindText i r := by simp [kindLine, kindText]
def opIn (o : O) : Prop := (0 ≤ o.c ∧ o.c ≤ 6) ∧ (0 ≤ o.a ∧ o.a ≤ 999) ∧ (0 ≤ o.b ∧ o.b ≤ 999) ∧ (0 ≤ o.k ∧ o.k ≤ 999)
set_option maxRecDepth 100000 in
set_option maxHeartbeats 8000000 in
theorem handlerT_any (kd : Nat) (u : Value) (r : List O) (w : World) (hkd : (kd : Int) ≤ 1000000) (hr8 : r.length ≤ 8) (hop : ∀ q, q < r.length → opIn (oAt r q)) (hu : IsO w u r) (htab : Lib.TabIs Tryd.prog w "internal/strconv.uint64pow10" .u64 Lib.pow10Tab) :
    Calls Tryd.prog 31 #[.int .i64 (kd : Int), u] w fun e w' => ∃ b : ByteArray, e = .returned (.string b) ∧ b.data.toList = kindLine kd r ∧ Below w.heap.size w w' := by
  obtain ⟨a1, c1, rfl, _, _, hu⟩ := hu
  have HU : Hid (r = [] ∨ ∃ b off, a1 = some ⟨b, off, none⟩ ∧ OsAt w b off r) := hu
  have HOP : Hid (∀ q, q < r.length → opIn (oAt r q)) := hop
  have HC : Hid (Calls Tryd.prog 46 #[.int .i64 (kd : Int)] w fun e w' => ∃ b : ByteArray, e = .returned (.string b) ∧ b.data.toList = dec (kd : Int) ∧ Below w.heap.size w w') := itoa_any (kd : Int) (by omega) hkd w htab
  have HTw : Hid (Lib.TabIs Tryd.prog w "internal/strconv.uint64pow10" .u64 Lib.pow10Tab) := htab
  have HLEN : Hid ((kindLine kd r).length ≤ 1000000000) := by
    have h3 := ops_len r (fun q hq => by obtain ⟨_, ⟨_, h4⟩, ⟨_, h5⟩, ⟨_, h6⟩⟩ := hop q hq; exact ⟨h4, h5, h6⟩) _ (Nat.le_refl _)
    rw [List.take_of_length_le (Nat.le_refl _)] at h3
    have h5 := dec_len (kd : Int) hkd
    show (kindLine kd r).length ≤ 1000000000
    unfold kindLine
    simp only [List.length_append, List.length_cons, List.length_nil]
    omega
  clear hu hop htab
  go_enter Tryd.func31, Tryd.ntmps31
  go_wp2_with fail
  refine HC.out.mono ?_
  rintro e w0 ⟨b0, rfl, hb0, hbw⟩
  have HB0 : Hid (Below w.heap.size w w0) := hbw
  have HL0 : Hid (b0.data.toList = dec (kd : Int)) := hb0
  have HT0 : Hid (Lib.TabIs Tryd.prog w0 "internal/strconv.uint64pow10" .u64 Lib.pow10Tab) := tab_kept HTw.out hbw
  clear hbw hb0 HC HTw
  obtain ⟨B, hBe⟩ : ∃ B, B = w0.heap.size := ⟨_, rfl⟩
  obtain ⟨w1, hw1⟩ : ∃ V, w0.alloc (.cells #[.string ⟨#[107, 105, 110, 100]⟩, .string b0] 9) = V := ⟨_, rfl⟩
  have HR1 : Hid (SrS B w1 (.slice (some ⟨w0.heap.size, 0, none⟩) 2 2) [(⟨#[107, 105, 110, 100]⟩ : ByteArray), b0]) := hw1 ▸ hBe ▸ SrS.made w0 _ _ rfl 2 rfl (by simp)
  have HT1 : Hid (Lib.TabIs Tryd.prog w1 "internal/strconv.uint64pow10" .u64 Lib.pow10Tab) := hw1 ▸ tab_kept HT0.out ((Below.refl _ w0).alloc (Nat.le_refl _) _)
  have HB1 : Hid (Below w.heap.size w w1) := hw1 ▸ HB0.out.alloc HB0.out.size _
  have hwB : w.heap.size ≤ B := hBe ▸ HB0.out.size
  have hBw : B ≤ w1.heap.size := by rw [← hw1, hBe]; simp
  have HTB : Hid (∀ W, Below B w1 W → Lib.TabIs Tryd.prog W "internal/strconv.uint64pow10" .u64 Lib.pow10Tab) := fun W hW => tab_keptB HT0.out (((Below.refl B w0).alloc (by omega) _).trans (hw1 ▸ hW)) (by omega)
  clear HT0 HB0 HT1
  go_wp2
  try rw [hw1]
  clear hw1 hBe
  go_loopw [5, 13] (fun s i wr => ∃ (q : Nat) (v : Value) (l : List ByteArray), q ≤ r.length ∧ v = s ∧ i = .int .i64 q ∧ Hid (SrS B wr s ((⟨#[107, 105, 110, 100]⟩ : ByteArray) :: l)) ∧ Hid (spL (txts l) = [32] ++ dec (kd : Int) ++ opsText (r.take q)) ∧ l.length = 1 + 4 * q ∧ Hid (Below B w1 wr)) (fun _ i _ => r.length - (intOf i).toNat)
  case atStart =>
    refine ⟨0, _, [b0], Nat.zero_le _, rfl, rfl, HR1.out, (?_ : spL (txts [b0]) = _), rfl, Below.refl _ _⟩
    show spL [b0.data.toList] = _
    rw [HL0.out]
    simp [spL, Lib.joinTail, opsText]
  case round =>
    clear HR1
    obtain ⟨q, o2, l, hq, rfl, rfl, HR, HZ, hll, HBq⟩ := hrel
    have HBX : Hid (Below w.heap.size w wr) := HB1.out.trans (HBq.out.mono (by omega))
    by_cases hlt : q < r.length
    case pos =>
      obtain ⟨b, off, rfl, hb, hc⟩ := HU.out.resolve_left (by intro e; rw [e] at hlt; simp at hlt)
      obtain ⟨g0, g1, g2, g3⟩ := (hc q hlt).below HBX.out hb
      obtain ⟨⟨hc0, hc6⟩, ⟨ha0, ha1'⟩, ⟨hb0, hb1'⟩, ⟨hk0, hk1'⟩⟩ := HOP.out q hlt
      have HNX : Hid (opsText (r.take (q + 1)) = opsText (r.take q) ++ opText (oAt r q)) := ops_snoc hlt
      generalize oAt r q = e at g0 g1 g2 g3 HNX hc0 hc6 ha0 ha1' hb0 hb1' hk0 hk1'
      obtain ⟨c, a, b2, k2⟩ := e
      simp only at hc0 hc6 ha0 ha1' hb0 hb1' hk0 hk1'
      have ha1 : a ≤ 1000000 := by omega
      have hb1 : b2 ≤ 1000000 := by omega
      have hk1 : k2 ≤ 1000000 := by omega
      have hqd : decide ((q : Int) < (r.length : Int)) = true := by simpa using hlt
      clear hc
      obtain ⟨QB, hQB⟩ : ∃ QB, QB = wr.heap.size := ⟨_, rfl⟩
      obtain ⟨V, hV⟩ : ∃ V, wr.alloc (.cells #[.int .i64 c, .int .i64 a, .int .i64 b2, .int .i64 k2] 59) = V := ⟨_, rfl⟩
      have HRV : Hid (SrS B V o2 ((⟨#[107, 105, 110, 100]⟩ : ByteArray) :: l)) := hV ▸ HR.out.alloc _
      have HQV : Hid (Bk V QB 59 #[.int .i64 c, .int .i64 a, .int .i64 b2, .int .i64 k2]) := hV ▸ Bk.newAt hQB _ _
      have HBV : Hid (Below B w1 V) := hV ▸ HBq.out.alloc (Nat.le_trans hBw HBq.out.size) _
      have HTV : Hid (Lib.TabIs Tryd.prog V "internal/strconv.uint64pow10" .u64 Lib.pow10Tab) := HTB.out V HBV.out
      have hQB' := hQB.symm
      clear hQB
      go_upto_region 5 with (fail)
      clear g0 g1 g2 g3 hV HR HBq HBX hqd
      generalize hL : (⟨#[107, 105, 110, 100]⟩ : ByteArray) :: l = ls at HRV
      refine wp_region_held_drew (S := fun W => W.cell? ⟨QB, 0, none⟩ = some (.int .i64 c) ∧ W.cell? ⟨QB, 1, none⟩ = some (.int .i64 a) ∧ W.cell? ⟨QB, 2, none⟩ = some (.int .i64 b2) ∧ W.cell? ⟨QB, 3, none⟩ = some (.int .i64 k2)) (by kernel_rfl) ⟨HQV.out.drew.cell (i := 0) rfl, HQV.out.drew.cell (i := 1) rfl, HQV.out.drew.cell (i := 2) rfl, HQV.out.drew.cell (i := 3) rfl⟩ (fun hHeld => ?_)
      obtain ⟨wd, hwd⟩ : ∃ wd, V.drew = wd := ⟨_, rfl⟩
      have HBwd : Hid (Below B w1 wd) := hwd ▸ HBV.out.drew
      have HQwd : Hid (Bk wd QB 59 #[.int .i64 c, .int .i64 a, .int .i64 b2, .int .i64 k2]) := hwd ▸ HQV.out.drew
      have HTwd : Hid (Lib.TabIs Tryd.prog wd "internal/strconv.uint64pow10" .u64 Lib.pow10Tab) := hwd ▸ tab_kept HTV.out (Below.refl _ V).drew
      have HRwd : Hid (SrS B wd o2 ls) := hwd ▸ HRV.out.drew
      have hls : ls.length = 2 + 4 * q := by rw [← hL]; simp; omega
      have HLS : Hid ((⟨#[107, 105, 110, 100]⟩ : ByteArray) :: l = ls) := hL
      rw [hwd] at hHeld
      rw [hwd]
      clear hwd HBV HQV HTV HRV hL
      refine wpAnyH_take (i := 0) (oi := { dst := some 17, op := Op.move (Operand.tmp 5), type := 60, pos := _, after := _, guard := none }) (v := o2) rfl (by kernel_rfl) (by kernel_rfl) (by kernel_rfl) (fun _ _ _ h => h) (Or.inl ⟨by rfl, ?_⟩) (by assumption) ?_
      · intro wX hSw
        try dsimp only at hSw
        go_simp
        try exact IntWalk.i64_in _ (by omega)
      try simp only [Act.put, List.setIfInBounds_toArray, List.set_cons_zero, List.set_cons_succ]
      refine wpAnyH_take (i := 1) (oi := { dst := some 18, op := Op.load 59 (Operand.tmp 7), type := 59, pos := _, after := _, guard := none }) (v := .agg #[.int .i64 c, .int .i64 a, .int .i64 b2, .int .i64 k2]) rfl (by kernel_rfl) (by kernel_rfl) (by kernel_rfl) (fun _ _ _ h => h) (Or.inl ⟨by rfl, ?_⟩) (by assumption) ?_
      · intro wX hSw
        try dsimp only at hSw
        go_simp
        try exact IntWalk.i64_in _ (by omega)
      try simp only [Act.put, List.setIfInBounds_toArray, List.set_cons_zero, List.set_cons_succ]
      refine wpAnyH_take (i := 4) (oi := { dst := some 21, op := Op.fieldAddr 59 (Operand.tmp 7) 1, type := 0, pos := _, after := _, guard := none }) (v := .pointer (some ⟨QB, 1, none⟩)) rfl (by kernel_rfl) (by kernel_rfl) (by kernel_rfl) (fun _ _ _ h => h) (Or.inl ⟨by rfl, ?_⟩) (by assumption) ?_
      · intro wX hSw
        try dsimp only at hSw
        go_simp
        try exact IntWalk.i64_in _ (by omega)
      try simp only [Act.put, List.setIfInBounds_toArray, List.set_cons_zero, List.set_cons_succ]
      refine wpAnyH_take (i := 5) (oi := { dst := some 22, op := Op.load 3 (Operand.tmp 21), type := 3, pos := _, after := _, guard := none }) (v := .int .i64 a) rfl (by kernel_rfl) (by kernel_rfl) (by kernel_rfl) (fun _ _ _ h => h) (Or.inl ⟨by rfl, ?_⟩) (by assumption) ?_
      · intro wX hSw
        try dsimp only at hSw
        go_simp
        try exact IntWalk.i64_in _ (by omega)
      try simp only [Act.put, List.setIfInBounds_toArray, List.set_cons_zero, List.set_cons_succ]
      refine wpAnyH_take (i := 7) (oi := { dst := some 24, op := Op.fieldAddr 59 (Operand.tmp 7) 2, type := 0, pos := _, after := _, guard := none }) (v := .pointer (some ⟨QB, 2, none⟩)) rfl (by kernel_rfl) (by kernel_rfl) (by kernel_rfl) (fun _ _ _ h => h) (Or.inl ⟨by rfl, ?_⟩) (by assumption) ?_
      · intro wX hSw
        try dsimp only at hSw
        go_simp
        try exact IntWalk.i64_in _ (by omega)
      try simp only [Act.put, List.setIfInBounds_toArray, List.set_cons_zero, List.set_cons_succ]
      refine wpAnyH_take (i := 8) (oi := { dst := some 25, op := Op.load 3 (Operand.tmp 24), type := 3, pos := _, after := _, guard := none }) (v := .int .i64 b2) rfl (by kernel_rfl) (by kernel_rfl) (by kernel_rfl) (fun _ _ _ h => h) (Or.inl ⟨by rfl, ?_⟩) (by assumption) ?_
      · intro wX hSw
        try dsimp only at hSw
        go_simp
        try exact IntWalk.i64_in _ (by omega)
      try simp only [Act.put, List.setIfInBounds_toArray, List.set_cons_zero, List.set_cons_succ]
      refine wpAnyH_take (i := 10) (oi := { dst := some 27, op := Op.fieldAddr 59 (Operand.tmp 7) 3, type := 0, pos := _, after := _, guard := none }) (v := .pointer (some ⟨QB, 3, none⟩)) rfl (by kernel_rfl) (by kernel_rfl) (by kernel_rfl) (fun _ _ _ h => h) (Or.inl ⟨by rfl, ?_⟩) (by assumption) ?_
      · intro wX hSw
        try dsimp only at hSw
        go_simp
        try exact IntWalk.i64_in _ (by omega)
      try simp only [Act.put, List.setIfInBounds_toArray, List.set_cons_zero, List.set_cons_succ]
      refine wpAnyH_take (i := 11) (oi := { dst := some 28, op := Op.load 3 (Operand.tmp 27), type := 3, pos := _, after := _, guard := none }) (v := .int .i64 k2) rfl (by kernel_rfl) (by kernel_rfl) (by kernel_rfl) (fun _ _ _ h => h) (Or.inl ⟨by rfl, ?_⟩) (by assumption) ?_
      · intro wX hSw
        try dsimp only at hSw
        go_simp
        try exact IntWalk.i64_in _ (by omega)
      try simp only [Act.put, List.setIfInBounds_toArray, List.set_cons_zero, List.set_cons_succ]
      refine wpAnyH_ready (rs := [2]) (by kernel_rfl) (by simp) ?_
      refine AllReadyH.cons (o := { dst := some 19, op := Op.call { callee := Callee.value (Operand.func 58), args := #[Operand.tmp 18], argTypes := #[59] }, type := 95, pos := _, after := _, guard := none }) rfl (fun K hK => ?_) AllReadyH.nil
      go_simp
      refine (deedOf_any c a b2 k2 wd).mono ?_
      rintro r wA ⟨rfl, hbwA⟩
      have HTwA : Hid (Lib.TabIs Tryd.prog wA "internal/strconv.uint64pow10" .u64 Lib.pow10Tab) := tab_kept HTwd.out hbwA
      have HQwA : Hid (Bk wA QB 59 #[.int .i64 c, .int .i64 a, .int .i64 b2, .int .i64 k2]) := HQwd.out.below hbwA
      have HRwA : Hid (SrS B wA o2 ls) := HRwd.out.below hbwA
      have HBwA : Hid (Below B w1 wA) := HBwd.out.trans (hbwA.mono (Nat.le_trans hBw HBwd.out.size))
      clear hbwA HTwd HQwd HRwd HBwd
      try go_simp
      refine hK.out _ _ ⟨HQwA.out.cell (i := 0) rfl, HQwA.out.cell (i := 1) rfl, HQwA.out.cell (i := 2) rfl, HQwA.out.cell (i := 3) rfl⟩ (fun hHeld => ?_)
      clear hK K
      try simp only [Act.put, List.setIfInBounds_toArray, List.set_cons_zero, List.set_cons_succ]
      refine wpAnyH_ready (rs := [3]) (by kernel_rfl) (by simp) ?_
      refine AllReadyH.cons (o := { dst := some 20, op := Op.call { callee := Callee.value (Operand.func 57), args := #[Operand.tmp 19], argTypes := #[95] }, type := 9, pos := _, after := _, guard := none }) rfl (fun K hK => ?_) AllReadyH.nil
      go_simp
      refine (deedWord_any c a b2 k2 wA hc0 hc6).mono ?_
      rintro r wB ⟨rfl, hbwB⟩
      have HTwB : Hid (Lib.TabIs Tryd.prog wB "internal/strconv.uint64pow10" .u64 Lib.pow10Tab) := tab_kept HTwA.out hbwB
      have HQwB : Hid (Bk wB QB 59 #[.int .i64 c, .int .i64 a, .int .i64 b2, .int .i64 k2]) := HQwA.out.below hbwB
      have HRwB : Hid (SrS B wB o2 ls) := HRwA.out.below hbwB
      have HBwB : Hid (Below B w1 wB) := HBwA.out.trans (hbwB.mono (Nat.le_trans hBw HBwA.out.size))
      clear hbwB HTwA HQwA HRwA HBwA
      try go_simp
      refine hK.out _ _ ⟨HQwB.out.cell (i := 0) rfl, HQwB.out.cell (i := 1) rfl, HQwB.out.cell (i := 2) rfl, HQwB.out.cell (i := 3) rfl⟩ (fun hHeld => ?_)
      clear hK K
      try simp only [Act.put, List.setIfInBounds_toArray, List.set_cons_zero, List.set_cons_succ]
      refine wpAnyH_ready (rs := [6]) (by kernel_rfl) (by simp) ?_
      refine AllReadyH.cons (o := { dst := some 23, op := Op.call { callee := Callee.value (Operand.func 46), args := #[Operand.tmp 22], argTypes := #[3] }, type := 9, pos := _, after := _, guard := none }) rfl (fun K hK => ?_) AllReadyH.nil
      go_simp
      refine (itoa_any a ha0 ha1 wB HTwB.out).mono ?_
      rintro r wC ⟨bwC, rfl, hwC, hbwC⟩
      have HLwC : Hid (bwC.data.toList = dec a) := hwC
      have HTwC : Hid (Lib.TabIs Tryd.prog wC "internal/strconv.uint64pow10" .u64 Lib.pow10Tab) := tab_kept HTwB.out hbwC
      have HQwC : Hid (Bk wC QB 59 #[.int .i64 c, .int .i64 a, .int .i64 b2, .int .i64 k2]) := HQwB.out.below hbwC
      have HRwC : Hid (SrS B wC o2 ls) := HRwB.out.below hbwC
      have HBwC : Hid (Below B w1 wC) := HBwB.out.trans (hbwC.mono (Nat.le_trans hBw HBwB.out.size))
      clear hbwC HTwB HQwB HRwB HBwB
      clear hwC
      try go_simp
      refine hK.out _ _ ⟨HQwC.out.cell (i := 0) rfl, HQwC.out.cell (i := 1) rfl, HQwC.out.cell (i := 2) rfl, HQwC.out.cell (i := 3) rfl⟩ (fun hHeld => ?_)
      clear hK K
      try simp only [Act.put, List.setIfInBounds_toArray, List.set_cons_zero, List.set_cons_succ]
      refine wpAnyH_ready (rs := [9]) (by kernel_rfl) (by simp) ?_
      refine AllReadyH.cons (o := { dst := some 26, op := Op.call { callee := Callee.value (Operand.func 46), args := #[Operand.tmp 25], argTypes := #[3] }, type := 9, pos := _, after := _, guard := none }) rfl (fun K hK => ?_) AllReadyH.nil
      go_simp
      refine (itoa_any b2 hb0 hb1 wC HTwC.out).mono ?_
      rintro r wD ⟨bwD, rfl, hwD, hbwD⟩
      have HLwD : Hid (bwD.data.toList = dec b2) := hwD
      have HTwD : Hid (Lib.TabIs Tryd.prog wD "internal/strconv.uint64pow10" .u64 Lib.pow10Tab) := tab_kept HTwC.out hbwD
      have HQwD : Hid (Bk wD QB 59 #[.int .i64 c, .int .i64 a, .int .i64 b2, .int .i64 k2]) := HQwC.out.below hbwD
      have HRwD : Hid (SrS B wD o2 ls) := HRwC.out.below hbwD
      have HBwD : Hid (Below B w1 wD) := HBwC.out.trans (hbwD.mono (Nat.le_trans hBw HBwC.out.size))
      clear hbwD HTwC HQwC HRwC HBwC
      clear hwD
      try go_simp
      refine hK.out _ _ ⟨HQwD.out.cell (i := 0) rfl, HQwD.out.cell (i := 1) rfl, HQwD.out.cell (i := 2) rfl, HQwD.out.cell (i := 3) rfl⟩ (fun hHeld => ?_)
      clear hK K
      try simp only [Act.put, List.setIfInBounds_toArray, List.set_cons_zero, List.set_cons_succ]
      refine wpAnyH_ready (rs := [12]) (by kernel_rfl) (by simp) ?_
      refine AllReadyH.cons (o := { dst := some 29, op := Op.call { callee := Callee.value (Operand.func 46), args := #[Operand.tmp 28], argTypes := #[3] }, type := 9, pos := _, after := _, guard := none }) rfl (fun K hK => ?_) AllReadyH.nil
      go_simp
      refine (itoa_any k2 hk0 hk1 wD HTwD.out).mono ?_
      rintro r wE ⟨bwE, rfl, hwE, hbwE⟩
      have HLwE : Hid (bwE.data.toList = dec k2) := hwE
      have HTwE : Hid (Lib.TabIs Tryd.prog wE "internal/strconv.uint64pow10" .u64 Lib.pow10Tab) := tab_kept HTwD.out hbwE
      have HQwE : Hid (Bk wE QB 59 #[.int .i64 c, .int .i64 a, .int .i64 b2, .int .i64 k2]) := HQwD.out.below hbwE
      have HRwE : Hid (SrS B wE o2 ls) := HRwD.out.below hbwE
      have HBwE : Hid (Below B w1 wE) := HBwD.out.trans (hbwE.mono (Nat.le_trans hBw HBwD.out.size))
      clear hbwE HTwD HQwD HRwD HBwD
      clear hwE
      try go_simp
      refine hK.out _ _ ⟨HQwE.out.cell (i := 0) rfl, HQwE.out.cell (i := 1) rfl, HQwE.out.cell (i := 2) rfl, HQwE.out.cell (i := 3) rfl⟩ (fun hHeld => ?_)
      clear hK K
      try simp only [Act.put, List.setIfInBounds_toArray, List.set_cons_zero, List.set_cons_succ]
      refine wpAnyH_ready (rs := [13]) (by kernel_rfl) (by simp) ?_
      refine AllReadyH.cons (o := { dst := some 30, op := Op.buildSlice 60 4 #[(0, Operand.tmp 20), (1, Operand.tmp 23), (2, Operand.tmp 26), (3, Operand.tmp 29)], type := 60, pos := _, after := _, guard := none }) rfl (fun K hK => ?_) AllReadyH.nil
      obtain ⟨X4, hX4⟩ : ∃ X, X = wE.heap.size := ⟨_, rfl⟩
      obtain ⟨wF, hwF⟩ : ∃ V, wE.alloc (.cells #[.string ⟨(opWord c).toArray⟩, .string bwC, .string bwD, .string bwE] 9) = V := ⟨_, rfl⟩
      have HS4 : Hid (Srt wF X4 [(⟨(opWord c).toArray⟩ : ByteArray), bwC, bwD, bwE]) := hwF ▸ hX4 ▸ Srt.new wE _ _ rfl
      have hbwF : Below wE.heap.size wE wF := hwF ▸ (Below.refl _ wE).alloc (Nat.le_refl _) _
      have HWF : Hid (wE.alloc (.cells #[.string ⟨(opWord c).toArray⟩, .string bwC, .string bwD, .string bwE] 9) = wF) := hwF
      have HX4 : Hid (X4 = wE.heap.size) := hX4
      clear hwF hX4
      have HTwF : Hid (Lib.TabIs Tryd.prog wF "internal/strconv.uint64pow10" .u64 Lib.pow10Tab) := tab_kept HTwE.out hbwF
      have HQwF : Hid (Bk wF QB 59 #[.int .i64 c, .int .i64 a, .int .i64 b2, .int .i64 k2]) := HQwE.out.below hbwF
      have HRwF : Hid (SrS B wF o2 ls) := HRwE.out.below hbwF
      have HBwF : Hid (Below B w1 wF) := HBwE.out.trans (hbwF.mono (Nat.le_trans hBw HBwE.out.size))
      clear hbwF HTwE HQwE HRwE HBwE
      go_simp
      rw [HWF.out, ← HX4.out]
      clear HWF HX4
      refine hK.out _ _ ⟨HQwF.out.cell (i := 0) rfl, HQwF.out.cell (i := 1) rfl, HQwF.out.cell (i := 2) rfl, HQwF.out.cell (i := 3) rfl⟩ (fun hHeld => ?_)
      clear hK K
      try simp only [Act.put, List.setIfInBounds_toArray, List.set_cons_zero, List.set_cons_succ]
      refine wpAnyH_ready (rs := [14]) (by kernel_rfl) (by simp) ?_
      refine AllReadyH.cons (o := { dst := some 31, op := Op.call { callee := Callee.builtin Builtin.append, args := #[Operand.tmp 17, Operand.tmp 30], argTypes := #[60, 60] }, type := 60, pos := _, after := _, guard := none }) rfl (fun K hK => ?_) AllReadyH.nil
      refine sr_own (B := B) rfl (.tmp 17) (.tmp 30) rfl o2 ls rfl HRwF.out [(⟨(opWord c).toArray⟩ : ByteArray), bwC, bwD, bwE] X4 4 rfl HS4.out (by show _ + 4 ≤ _; omega) (Nat.le_trans hBw HBwF.out.size) ?_
      intro yz wz hr hbB hk
      have HRz : Hid (SrS B wz yz (ls ++ [(⟨(opWord c).toArray⟩ : ByteArray), bwC, bwD, bwE])) := hr
      have HQz : Hid (Bk wz QB 59 #[.int .i64 c, .int .i64 a, .int .i64 b2, .int .i64 k2]) := hk QB _ _ (by decide) HQwF.out
      have HBz : Hid (Below B w1 wz) := HBwF.out.trans hbB
      clear hr hbB hk HRwF HQwF HBwF HTwF HS4
      refine hK.out _ _ ⟨HQz.out.cell (i := 0) rfl, HQz.out.cell (i := 1) rfl, HQz.out.cell (i := 2) rfl, HQz.out.cell (i := 3) rfl⟩ (fun hHeld => ?_)
      clear hK K
      try simp only [Act.put, List.setIfInBounds_toArray, List.set_cons_zero, List.set_cons_succ]
      refine wpAnyH_take (i := 15) (oi := { dst := some 5, op := Op.assign (Operand.tmp 31), type := 60, pos := _, after := _, guard := none }) (v := yz) rfl (by kernel_rfl) (by kernel_rfl) (by kernel_rfl) (fun _ _ _ h => h) (Or.inl ⟨by rfl, ?_⟩) (by assumption) ?_
      · intro wX hSw
        try dsimp only at hSw
        go_simp
        try exact IntWalk.i64_in _ (by omega)
      try simp only [Act.put, List.setIfInBounds_toArray, List.set_cons_zero, List.set_cons_succ]
      refine wpAnyH_done (by kernel_rfl) ?_ _
      clear hHeld
      go_wp2
      go_roundw
      case rel =>
        refine ⟨q + 1, _, l ++ [(⟨(opWord c).toArray⟩ : ByteArray), bwC, bwD, bwE], by omega, rfl, by go_num, (by have h9 := HRz.out; rw [← HLS.out] at h9; exact h9), (?_ : spL (txts (l ++ [(⟨(opWord c).toArray⟩ : ByteArray), bwC, bwD, bwE])) = _), by simp; omega, HBz.out⟩
        rw [txts_append, spL_append, HNX.out, HZ.out]
        show _ ++ spL [(opWord c).toArray.toList, bwC.data.toList, bwD.data.toList, bwE.data.toList] = _
        rw [HLwC.out, HLwD.out, HLwE.out]
        simp [spL, Lib.joinTail, opText]
      case measure => simp [intOf]; omega
    case neg =>
      obtain rfl : q = r.length := by omega
      have hqd : decide ((r.length : Int) < (r.length : Int)) = false := by simp
      have HZE : Hid (Lib.join (txts ((⟨#[107, 105, 110, 100]⟩ : ByteArray) :: l)) [32] = kindLine kd r) := by
        have h9 := HZ.out
        rw [List.take_of_length_le (Nat.le_refl _)] at h9
        show Lib.join ([107, 105, 110, 100] :: txts l) [32] = _
        rw [Lib.join_cons]
        show _ ++ spL (txts l) = _
        rw [h9]
        simp [kindLine]
      go_wp2_with fail
      refine (join_any wr _ ((⟨#[107, 105, 110, 100]⟩ : ByteArray) :: l) ⟨#[32]⟩ HR.out (by simp) (by simp; omega) (kindLine kd r) HZE.out HLEN.out).mono ?_
      rintro e w9 ⟨b9, rfl, h9, hb9⟩
      have HB9 : Hid (Below w.heap.size w w9) := HBX.out.trans (hb9.mono HBX.out.size)
      have H9 : Hid (b9.data.toList = kindLine kd r) := h9
      clear hb9 h9
      go_wp2
      go_ret
      exact ⟨_, rfl, H9.out, HB9.out⟩
end Go.Proofs.YtbcdfacbhemijaaDoor

