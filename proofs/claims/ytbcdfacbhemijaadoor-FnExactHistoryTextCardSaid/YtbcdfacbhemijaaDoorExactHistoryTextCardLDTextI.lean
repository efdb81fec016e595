/- The program's text of an event: the walk. -/
import Derived.Test.YtbcdfacbhemijaaDoorExactHistoryTextCardG11
namespace Go.Proofs.YtbcdfacbhemijaaDoor
open Go.RowKit
theorem sender_len (s : Int) (h : s ≤ 1000000) : (sender s).length ≤ 1000010 := by
  have := dec_len s h
  unfold sender
  split
  · simp
  · simp; omega
theorem over1 {b : ByteArray} {s : Int} (h : b.data.toList = sender s) (hs : s ≤ 1000000) : ¬ 9223372036854775807 < b.size + 1 := by
  have h8 := sender_len s hs
  have e8 : b.size = (sender s).length := by rw [← h]; rfl
  omega
theorem over2 {b c : ByteArray} {s q : Int} (h : b.data.toList = sender s) (hs : s ≤ 1000000) (h' : c.data.toList = dec q) (hq : q ≤ 1000000) : ¬ 9223372036854775807 < b.size + 1 + c.size := by
  have h8 := sender_len s hs
  have e8 : b.size = (sender s).length := by rw [← h]; rfl
  have h9 := dec_len q hq
  have e9 : c.size = (dec q).length := by rw [← h']; rfl
  omega
set_option maxRecDepth 100000 in
set_option maxHeartbeats 8000000 in
theorem iText_ok (t s q d k v g : Int) (w : World) (hok : okB t s q d k v g = true) (htab : Lib.TabIs Tryd.prog w "internal/strconv.uint64pow10" .u64 Lib.pow10Tab) :
    Calls Tryd.prog 32 #[.agg #[.int .i64 t, .int .i64 s, .int .i64 q, .int .i64 d, .int .i64 k, .int .i64 v, .int .i64 g]] w fun e w' => ∃ x, e = .returned x ∧ OwnB w.heap.size w' x (evText t s q d k v) ∧ Below w.heap.size w w' := by
  have hr := of_decide_eq_true hok
  obtain ⟨ht0, ht1', hs0, hs1', hq0, hq1', hd0, hd1', hk0, hk1', hv0, hv1', _, _⟩ := hr
  have ht1 : t ≤ 1000000 := by omega
  have hs1 : s ≤ 1000000 := by omega
  have hq1 : q ≤ 1000000 := by omega
  have hd1 : d ≤ 1000000 := by omega
  have hk1 : k ≤ 1000000 := by omega
  have hv1 : v ≤ 1000000 := by omega
  have hlen := evText_len t s q d k v ht1 hs1 hq1 hd1 hk1 hv1
  have HBw : Hid (Below w.heap.size w (w.alloc (.cells #[.int .i64 t, .int .i64 s, .int .i64 q, .int .i64 d, .int .i64 k, .int .i64 v, .int .i64 g] 63))) := (Below.refl _ w).alloc (Nat.le_refl _) _
  have HE : Hid (EvAt (w.alloc (.cells #[.int .i64 t, .int .i64 s, .int .i64 q, .int .i64 d, .int .i64 k, .int .i64 v, .int .i64 g] 63)) w.heap.size 0 t s q d k v g) := EvAt.new w 63 t s q d k v g
  have hbx : w.heap.size < (w.alloc (.cells #[.int .i64 t, .int .i64 s, .int .i64 q, .int .i64 d, .int .i64 k, .int .i64 v, .int .i64 g] 63)).heap.size := by simp
  have HT0 : Hid (Lib.TabIs Tryd.prog (w.alloc (.cells #[.int .i64 t, .int .i64 s, .int .i64 q, .int .i64 d, .int .i64 k, .int .i64 v, .int .i64 g] 63)) "internal/strconv.uint64pow10" .u64 Lib.pow10Tab) := tab_kept htab HBw.out
  clear htab ht1' hs1' hq1' hd1' hk1' hv1'
  go_enter Tryd.func32, Tryd.ntmps32
  go_upto_region 1 with fail
  generalize w.alloc (.cells #[.int .i64 t, .int .i64 s, .int .i64 q, .int .i64 d, .int .i64 k, .int .i64 v, .int .i64 g] 63) = W0 at *
  generalize hbxe : w.heap.size = bx at *
  obtain ⟨f0, f1, f2, f3, f4, f5, f6⟩ := HE.out.lits
  go_wp2_with fail
  refine (iOk_any t s q d k v g _).mono ?_
  rintro r wk ⟨rfl, hbk⟩
  rw [hok]
  have HBk : Hid (Below W0.heap.size W0 wk) := hbk
  have HT : Hid (Lib.TabIs Tryd.prog wk.drew "internal/strconv.uint64pow10" .u64 Lib.pow10Tab) := tab_kept HT0.out hbk.drew
  clear hbk f0 f1 f2 f3 f4 f5 f6 hok
  have kc := conv9
  go_wp2_with fail
  refine wp_region_noPanic ?_
  refine wp_region_held_drew (S := (fun W => W.cell? ⟨bx, 0, none⟩ = some (.int .i64 t) ∧ W.cell? ⟨bx, 1, none⟩ = some (.int .i64 s) ∧ W.cell? ⟨bx, 2, none⟩ = some (.int .i64 q) ∧ W.cell? ⟨bx, 3, none⟩ = some (.int .i64 d) ∧ W.cell? ⟨bx, 4, none⟩ = some (.int .i64 k) ∧ W.cell? ⟨bx, 5, none⟩ = some (.int .i64 v) ∧ W.cell? ⟨bx, 6, none⟩ = some (.int .i64 g))) (by kernel_rfl) (HE.out.below HBk.out.drew hbx).lits (fun hHeld => ?_)
  refine wpAnyH_take (i := 0) (oi := { dst := some 6, op := .fieldAddr 63 (.tmp 1) 0, type := 0, pos := _, after := _, guard := none }) (v := .pointer (some ⟨bx, 0, none⟩)) rfl (by kernel_rfl) (by kernel_rfl) (by kernel_rfl) (fun _ _ _ h => h) (Or.inl ⟨by rfl, ?_⟩) (by assumption) ?_
  · intro wX hSw
    try dsimp only at hSw
    go_simp
  try simp only [Act.put, List.setIfInBounds_toArray, List.set_cons_zero, List.set_cons_succ]
  refine wpAnyH_take (i := 1) (oi := { dst := some 7, op := .load 3 (.tmp 6), type := 3, pos := _, after := _, guard := none }) (v := .int .i64 t) rfl (by kernel_rfl) (by kernel_rfl) (by kernel_rfl) (fun _ _ _ h => h) (Or.inl ⟨by rfl, ?_⟩) (by assumption) ?_
  · intro wX hSw
    try dsimp only at hSw
    go_simp
  try simp only [Act.put, List.setIfInBounds_toArray, List.set_cons_zero, List.set_cons_succ]
  refine wpAnyH_take (i := 3) (oi := { dst := some 9, op := .fieldAddr 63 (.tmp 1) 1, type := 0, pos := _, after := _, guard := none }) (v := .pointer (some ⟨bx, 1, none⟩)) rfl (by kernel_rfl) (by kernel_rfl) (by kernel_rfl) (fun _ _ _ h => h) (Or.inl ⟨by rfl, ?_⟩) (by assumption) ?_
  · intro wX hSw
    try dsimp only at hSw
    go_simp
  try simp only [Act.put, List.setIfInBounds_toArray, List.set_cons_zero, List.set_cons_succ]
  refine wpAnyH_take (i := 4) (oi := { dst := some 10, op := .load 3 (.tmp 9), type := 3, pos := _, after := _, guard := none }) (v := .int .i64 s) rfl (by kernel_rfl) (by kernel_rfl) (by kernel_rfl) (fun _ _ _ h => h) (Or.inl ⟨by rfl, ?_⟩) (by assumption) ?_
  · intro wX hSw
    try dsimp only at hSw
    go_simp
  try simp only [Act.put, List.setIfInBounds_toArray, List.set_cons_zero, List.set_cons_succ]
  refine wpAnyH_take (i := 7) (oi := { dst := some 13, op := .fieldAddr 63 (.tmp 1) 2, type := 0, pos := _, after := _, guard := none }) (v := .pointer (some ⟨bx, 2, none⟩)) rfl (by kernel_rfl) (by kernel_rfl) (by kernel_rfl) (fun _ _ _ h => h) (Or.inl ⟨by rfl, ?_⟩) (by assumption) ?_
  · intro wX hSw
    try dsimp only at hSw
    go_simp
  try simp only [Act.put, List.setIfInBounds_toArray, List.set_cons_zero, List.set_cons_succ]
  refine wpAnyH_take (i := 8) (oi := { dst := some 14, op := .load 3 (.tmp 13), type := 3, pos := _, after := _, guard := none }) (v := .int .i64 q) rfl (by kernel_rfl) (by kernel_rfl) (by kernel_rfl) (fun _ _ _ h => h) (Or.inl ⟨by rfl, ?_⟩) (by assumption) ?_
  · intro wX hSw
    try dsimp only at hSw
    go_simp
  try simp only [Act.put, List.setIfInBounds_toArray, List.set_cons_zero, List.set_cons_succ]
  refine wpAnyH_take (i := 11) (oi := { dst := some 17, op := .fieldAddr 63 (.tmp 1) 3, type := 0, pos := _, after := _, guard := none }) (v := .pointer (some ⟨bx, 3, none⟩)) rfl (by kernel_rfl) (by kernel_rfl) (by kernel_rfl) (fun _ _ _ h => h) (Or.inl ⟨by rfl, ?_⟩) (by assumption) ?_
  · intro wX hSw
    try dsimp only at hSw
    go_simp
  try simp only [Act.put, List.setIfInBounds_toArray, List.set_cons_zero, List.set_cons_succ]
  refine wpAnyH_take (i := 12) (oi := { dst := some 18, op := .load 3 (.tmp 17), type := 3, pos := _, after := _, guard := none }) (v := .int .i64 d) rfl (by kernel_rfl) (by kernel_rfl) (by kernel_rfl) (fun _ _ _ h => h) (Or.inl ⟨by rfl, ?_⟩) (by assumption) ?_
  · intro wX hSw
    try dsimp only at hSw
    go_simp
  try simp only [Act.put, List.setIfInBounds_toArray, List.set_cons_zero, List.set_cons_succ]
  refine wpAnyH_take (i := 14) (oi := { dst := some 20, op := .fieldAddr 63 (.tmp 1) 4, type := 0, pos := _, after := _, guard := none }) (v := .pointer (some ⟨bx, 4, none⟩)) rfl (by kernel_rfl) (by kernel_rfl) (by kernel_rfl) (fun _ _ _ h => h) (Or.inl ⟨by rfl, ?_⟩) (by assumption) ?_
  · intro wX hSw
    try dsimp only at hSw
    go_simp
  try simp only [Act.put, List.setIfInBounds_toArray, List.set_cons_zero, List.set_cons_succ]
  refine wpAnyH_take (i := 15) (oi := { dst := some 21, op := .load 3 (.tmp 20), type := 3, pos := _, after := _, guard := none }) (v := .int .i64 k) rfl (by kernel_rfl) (by kernel_rfl) (by kernel_rfl) (fun _ _ _ h => h) (Or.inl ⟨by rfl, ?_⟩) (by assumption) ?_
  · intro wX hSw
    try dsimp only at hSw
    go_simp
  try simp only [Act.put, List.setIfInBounds_toArray, List.set_cons_zero, List.set_cons_succ]
  refine wpAnyH_take (i := 17) (oi := { dst := some 23, op := .fieldAddr 63 (.tmp 1) 5, type := 0, pos := _, after := _, guard := none }) (v := .pointer (some ⟨bx, 5, none⟩)) rfl (by kernel_rfl) (by kernel_rfl) (by kernel_rfl) (fun _ _ _ h => h) (Or.inl ⟨by rfl, ?_⟩) (by assumption) ?_
  · intro wX hSw
    try dsimp only at hSw
    go_simp
  try simp only [Act.put, List.setIfInBounds_toArray, List.set_cons_zero, List.set_cons_succ]
  refine wpAnyH_take (i := 18) (oi := { dst := some 24, op := .load 3 (.tmp 23), type := 3, pos := _, after := _, guard := none }) (v := .int .i64 v) rfl (by kernel_rfl) (by kernel_rfl) (by kernel_rfl) (fun _ _ _ h => h) (Or.inl ⟨by rfl, ?_⟩) (by assumption) ?_
  · intro wX hSw
    try dsimp only at hSw
    go_simp
  try simp only [Act.put, List.setIfInBounds_toArray, List.set_cons_zero, List.set_cons_succ]
  refine wpAnyH_ready (rs := [2]) (by kernel_rfl) (by simp) ?_
  refine AllReadyH.cons (o := { dst := some 8, op := .call { callee := .value (.func 46), args := #[.tmp 7], argTypes := #[3] }, type := 9, pos := _, after := _, guard := none }) rfl (fun K hK => ?_) AllReadyH.nil
  go_simp
  refine (itoa_any t ht0 ht1 _ HT.out).mono ?_
  rintro r wA ⟨bA, rfl, hA, hblA⟩
  have hBA : Below W0.heap.size W0 wA := (HBk.out.drew).trans (hblA.mono (HBk.out.drew).size)
  have hTA : Lib.TabIs Tryd.prog wA "internal/strconv.uint64pow10" .u64 Lib.pow10Tab := tab_kept HT0.out hBA
  have hkA := (HE.out.below hBA hbx).lits
  try go_simp
  refine hK.out _ _ hkA (fun hHeld => ?_)
  clear hK K
  try simp only [Act.put, List.setIfInBounds_toArray, List.set_cons_zero, List.set_cons_succ]
  refine wpAnyH_ready (rs := [5]) (by kernel_rfl) (by simp) ?_
  refine AllReadyH.cons (o := { dst := some 11, op := .call { callee := .value (.func 60), args := #[.tmp 10], argTypes := #[3] }, type := 9, pos := _, after := _, guard := none }) rfl (fun K hK => ?_) AllReadyH.nil
  go_simp
  refine (sender_any s hs0 hs1 _ hTA).mono ?_
  rintro r wB ⟨bB, rfl, hB_, hblB⟩
  have hBB : Below W0.heap.size W0 wB := (hBA).trans (hblB.mono (hBA).size)
  have hTB : Lib.TabIs Tryd.prog wB "internal/strconv.uint64pow10" .u64 Lib.pow10Tab := tab_kept HT0.out hBB
  have hkB := (HE.out.below hBB hbx).lits
  have hn1 : ¬ 9223372036854775807 < bB.size + 1 := over1 hB_ hs1
  try go_simp
  refine hK.out _ _ hkB (fun hHeld => ?_)
  clear hK K
  try simp only [Act.put, List.setIfInBounds_toArray, List.set_cons_zero, List.set_cons_succ]
  refine wpAnyH_take (i := 6) (oi := { dst := some 12, op := .binOp .add 9 (.tmp 11) (.const (.string ⟨#[35]⟩)) 9, type := 9, pos := _, after := _, guard := none }) (v := .string (bB ++ ⟨#[35]⟩)) rfl (by kernel_rfl) (by kernel_rfl) (by kernel_rfl) (fun _ _ _ h => h) (Or.inl ⟨by rfl, ?_⟩) (by assumption) ?_
  · intro wX hSw
    try dsimp only at hSw
    go_simp
  try simp only [Act.put, List.setIfInBounds_toArray, List.set_cons_zero, List.set_cons_succ]
  refine wpAnyH_ready (rs := [9]) (by kernel_rfl) (by simp) ?_
  refine AllReadyH.cons (o := { dst := some 15, op := .call { callee := .value (.func 46), args := #[.tmp 14], argTypes := #[3] }, type := 9, pos := _, after := _, guard := none }) rfl (fun K hK => ?_) AllReadyH.nil
  go_simp
  refine (itoa_any q hq0 hq1 _ hTB).mono ?_
  rintro r wC ⟨bC, rfl, hC, hblC⟩
  have hBC : Below W0.heap.size W0 wC := (hBB).trans (hblC.mono (hBB).size)
  have hTC : Lib.TabIs Tryd.prog wC "internal/strconv.uint64pow10" .u64 Lib.pow10Tab := tab_kept HT0.out hBC
  have hkC := (HE.out.below hBC hbx).lits
  have hn2 : ¬ 9223372036854775807 < bB.size + 1 + bC.size := over2 hB_ hs1 hC hq1
  try go_simp
  refine hK.out _ _ hkC (fun hHeld => ?_)
  clear hK K
  try simp only [Act.put, List.setIfInBounds_toArray, List.set_cons_zero, List.set_cons_succ]
  refine wpAnyH_take (i := 10) (oi := { dst := some 16, op := .binOp .add 9 (.tmp 12) (.tmp 15) 9, type := 9, pos := _, after := _, guard := none }) (v := .string (bB ++ ⟨#[35]⟩ ++ bC)) rfl (by kernel_rfl) (by kernel_rfl) (by kernel_rfl) (fun _ _ _ h => h) (Or.inl ⟨by rfl, ?_⟩) (by assumption) ?_
  · intro wX hSw
    try dsimp only at hSw
    go_simp
  try simp only [Act.put, List.setIfInBounds_toArray, List.set_cons_zero, List.set_cons_succ]
  refine wpAnyH_ready (rs := [13]) (by kernel_rfl) (by simp) ?_
  refine AllReadyH.cons (o := { dst := some 19, op := .call { callee := .value (.func 46), args := #[.tmp 18], argTypes := #[3] }, type := 9, pos := _, after := _, guard := none }) rfl (fun K hK => ?_) AllReadyH.nil
  go_simp
  refine (itoa_any d hd0 hd1 _ hTC).mono ?_
  rintro r wD ⟨bD, rfl, hD, hblD⟩
  have hBD : Below W0.heap.size W0 wD := (hBC).trans (hblD.mono (hBC).size)
  have hTD : Lib.TabIs Tryd.prog wD "internal/strconv.uint64pow10" .u64 Lib.pow10Tab := tab_kept HT0.out hBD
  have hkD := (HE.out.below hBD hbx).lits
  try go_simp
  refine hK.out _ _ hkD (fun hHeld => ?_)
  clear hK K
  try simp only [Act.put, List.setIfInBounds_toArray, List.set_cons_zero, List.set_cons_succ]
  refine wpAnyH_ready (rs := [16]) (by kernel_rfl) (by simp) ?_
  refine AllReadyH.cons (o := { dst := some 22, op := .call { callee := .value (.func 46), args := #[.tmp 21], argTypes := #[3] }, type := 9, pos := _, after := _, guard := none }) rfl (fun K hK => ?_) AllReadyH.nil
  go_simp
  refine (itoa_any k hk0 hk1 _ hTD).mono ?_
  rintro r wE ⟨bE, rfl, hE_, hblE⟩
  have hBE : Below W0.heap.size W0 wE := (hBD).trans (hblE.mono (hBD).size)
  have hTE : Lib.TabIs Tryd.prog wE "internal/strconv.uint64pow10" .u64 Lib.pow10Tab := tab_kept HT0.out hBE
  have hkE := (HE.out.below hBE hbx).lits
  try go_simp
  refine hK.out _ _ hkE (fun hHeld => ?_)
  clear hK K
  try simp only [Act.put, List.setIfInBounds_toArray, List.set_cons_zero, List.set_cons_succ]
  refine wpAnyH_ready (rs := [19]) (by kernel_rfl) (by simp) ?_
  refine AllReadyH.cons (o := { dst := some 25, op := .call { callee := .value (.func 46), args := #[.tmp 24], argTypes := #[3] }, type := 9, pos := _, after := _, guard := none }) rfl (fun K hK => ?_) AllReadyH.nil
  go_simp
  refine (itoa_any v hv0 hv1 _ hTE).mono ?_
  rintro r wF ⟨bF, rfl, hF, hblF⟩
  have hBF : Below W0.heap.size W0 wF := (hBE).trans (hblF.mono (hBE).size)
  have hTF : Lib.TabIs Tryd.prog wF "internal/strconv.uint64pow10" .u64 Lib.pow10Tab := tab_kept HT0.out hBF
  have hkF := (HE.out.below hBF hbx).lits
  try go_simp
  refine hK.out _ _ hkF (fun hHeld => ?_)
  clear hK K
  try simp only [Act.put, List.setIfInBounds_toArray, List.set_cons_zero, List.set_cons_succ]
  refine wpAnyH_ready (rs := [20]) (by kernel_rfl) (by simp) ?_
  refine AllReadyH.cons (o := { dst := some 26, op := .buildSlice 60 9 #[(0, .const (.string ⟨#[97, 116]⟩)), (1, .tmp 8), (2, .tmp 16), (3, .const (.string ⟨#[116, 111]⟩)), (4, .tmp 19), (5, .const (.string ⟨#[107, 105, 110, 100]⟩)), (6, .tmp 22), (7, .const (.string ⟨#[118, 97, 108]⟩)), (8, .tmp 25)], type := 60, pos := _, after := _, guard := none }) rfl (fun K hK => ?_) AllReadyH.nil
  go_simp
  refine hK.out _ _ ((HE.out.below hBF hbx).alloc (Nat.lt_of_lt_of_le hbx hBF.size) _).lits (fun hHeld => ?_)
  clear hK K
  try simp only [Act.put, List.setIfInBounds_toArray, List.set_cons_zero, List.set_cons_succ]
  refine wpAnyH_ready (rs := [21]) (by kernel_rfl) (by simp) ?_
  refine AllReadyH.cons (o := { dst := some 27, op := .call { callee := .value (.func 33), args := #[.tmp 26, .const (.string ⟨#[32]⟩)], argTypes := #[60, 9] }, type := 9, pos := _, after := _, guard := none }) rfl (fun K hK => ?_) AllReadyH.nil
  go_simp
  refine (join_text t s q d k v _ bA bB bC bD bE bF hA hB_ hC hD hE_ hF hlen).mono ?_
  rintro r wJ ⟨bJ, rfl, hJ, hblJ⟩
  have hBJ : Below W0.heap.size W0 wJ := hBF.trans (hblJ.mono hBF.size)
  have hkJ := (HE.out.below hBJ hbx).lits
  have hkK := (HE.out.below (hBJ.trans ((conv_below wJ bJ).mono hBJ.size)) hbx).lits
  try go_simp
  refine hK.out _ _ hkJ (fun hHeld => ?_)
  clear hK K
  try simp only [Act.put, List.setIfInBounds_toArray, List.set_cons_zero, List.set_cons_succ]
  refine wpAnyH_ready (rs := [22]) (by kernel_rfl) (by simp) ?_
  refine AllReadyH.cons (o := { dst := some 28, op := .convert 9 28 (.tmp 27), type := 28, pos := _, after := _, guard := none }) rfl (fun K hK => ?_) AllReadyH.nil
  go_simp
  refine hK.out _ _ hkK (fun hHeld => ?_)
  clear hK K
  try simp only [Act.put, List.setIfInBounds_toArray, List.set_cons_zero, List.set_cons_succ]
  refine wpAnyH_take (i := 23) (oi := { dst := some 2, op := .assign (.tmp 28), type := 28, pos := _, after := _, guard := none }) (v := .slice (some ⟨wJ.heap.size, 0, none⟩) bJ.size (grownCap wJ bJ.size 0 5)) rfl (by kernel_rfl) (by kernel_rfl) (by kernel_rfl) (fun _ _ _ h => h) (Or.inl ⟨by rfl, ?_⟩) (by assumption) ?_
  · intro wX hSw
    try dsimp only at hSw
    go_simp
  try simp only [Act.put, List.setIfInBounds_toArray, List.set_cons_zero, List.set_cons_succ]
  refine wpAnyH_done (by kernel_rfl) ?_ _
  refine NoPanic.normal ?_
  go_wp2
  go_ret
  subst hbxe
  refine ⟨_, rfl, (conv_own wJ bJ _ hJ hlen).mono (by have := hBJ.size; omega), HBw.out.trans ((hBJ.trans ((conv_below wJ bJ).mono hBJ.size)).mono (by omega))⟩
set_option maxHeartbeats 2000000 in
theorem iText_no (t s q d k v g : Int) (w : World) (hok : okB t s q d k v g = false) :
    Calls Tryd.prog 32 #[.agg #[.int .i64 t, .int .i64 s, .int .i64 q, .int .i64 d, .int .i64 k, .int .i64 v, .int .i64 g]] w fun e w' => ∃ x, e = .returned x ∧ OwnB w.heap.size w' x [] ∧ Below w.heap.size w w' := by
  have HBw : Hid (Below w.heap.size w (w.alloc (.cells #[.int .i64 t, .int .i64 s, .int .i64 q, .int .i64 d, .int .i64 k, .int .i64 v, .int .i64 g] 63))) := (Below.refl _ w).alloc (Nat.le_refl _) _
  have HC : Hid (Calls Tryd.prog 59 #[.agg #[.int .i64 t, .int .i64 s, .int .i64 q, .int .i64 d, .int .i64 k, .int .i64 v, .int .i64 g]] (w.alloc (.cells #[.int .i64 t, .int .i64 s, .int .i64 q, .int .i64 d, .int .i64 k, .int .i64 v, .int .i64 g] 63)) fun e w' => e = .returned (.bool false) ∧ Below (w.alloc (.cells #[.int .i64 t, .int .i64 s, .int .i64 q, .int .i64 d, .int .i64 k, .int .i64 v, .int .i64 g] 63)).heap.size (w.alloc (.cells #[.int .i64 t, .int .i64 s, .int .i64 q, .int .i64 d, .int .i64 k, .int .i64 v, .int .i64 g] 63)) w') := by
    refine (iOk_any t s q d k v g _).mono ?_
    rintro e w' ⟨rfl, hb⟩
    rw [hok]
    exact ⟨rfl, hb⟩
  clear hok
  go_enter Tryd.func32, Tryd.ntmps32
  go_wp2_with fail
  refine HC.out.mono ?_
  rintro r wk ⟨rfl, hbk⟩
  go_wp2
  go_ret
  exact ⟨_, rfl, OwnB.nil _ _, HBw.out.trans (hbk.mono (by simp))⟩
/- What both texts of an event are. -/
def theText (t s q d k v g : Int) : List UInt8 := if okB t s q d k v g = true then evText t s q d k v else []
theorem theText_len (t s q d k v g : Int) : (theText t s q d k v g).length ≤ 10000000 := by
  unfold theText
  split
  · rename_i hok
    have hr := of_decide_eq_true hok
    exact evText_len t s q d k v (by omega) (by omega) (by omega) (by omega) (by omega) (by omega)
  · simp
theorem iText_any (t s q d k v g : Int) (w : World) (htab : Lib.TabIs Tryd.prog w "internal/strconv.uint64pow10" .u64 Lib.pow10Tab) :
    Calls Tryd.prog 32 #[.agg #[.int .i64 t, .int .i64 s, .int .i64 q, .int .i64 d, .int .i64 k, .int .i64 v, .int .i64 g]] w fun e w' => ∃ x, e = .returned x ∧ OwnB w.heap.size w' x (theText t s q d k v g) ∧ Below w.heap.size w w' := by
  unfold theText
  by_cases hok : okB t s q d k v g = true
  · rw [if_pos hok]; exact iText_ok t s q d k v g w hok htab
  · rw [if_neg hok]; exact iText_no t s q d k v g w (by simpa using hok)
end Go.Proofs.YtbcdfacbhemijaaDoor
