/- DTextI, DTextS, MTxP, MTxL, FMp, SwapS -/
import Derived.Test.YtbljfphdghfkfaaGreatDoorModelsCardG19
import Derived.Lib.SlBytesConst
import Derived.Lib.AppendStr
import Derived.Deep.Cut
import Derived.ArgAppend
import Derived.Test.YtbljfphdghfkfaaGreatDoorModelsCardG18
import Derived.Test.YtbljfphdghfkfaaGreatDoorModelsCardG07
import Derived.Test.YtbljfphdghfkfaaGreatDoorModelsCardLMOkS
import Derived.Deep.RegionHeld3
import Derived.Test.YtbljfphdghfkfaaGreatDoorModelsCardG17
/- The program's text of an event: the walk. -/
namespace Go.Proofs.YtbljfphdghfkfaaGreatDoor
open Go.RowKit
theorem sender_len (s : Int) (h : s ≤ 1000000) : (sender s).length ≤ 1000010 := by
 have := dec_len s h
 unfold sender
 split
 ·simp
 ·simp; omega
theorem over1 {b : ByteArray} {s : Int} (h : b.data.toList = sender s) (hs : s ≤ 1000000) : ¬ 9223372036854775807 < b.size + 1 := by
 have h8 := sender_len s hs
 have e8 : b.size = (sender s).length := by rw [← h]; rfl
 omega
theorem over2 {b c : ByteArray} {s q : Int} (h : b.data.toList = sender s) (hs : s ≤ 1000000) (h' : c.data.toList = dec q) (hq : q ≤ 1000000) : ¬ 9223372036854775807 < b.size + 1 + c.size := by
 have h8 := sender_len s hs
 have e8 : b.size = (sender s).length := by rw [← h]; rfl
 have h9 := dec_len q hq
 have e9 : c.size = (dec q).length := by rw [← h']; rfl
 omega
set_option maxRecDepth 100000 in
set_option maxHeartbeats 8000000 in
theorem iText_ok (t s q d k v g : Int) (w : World) (hok : okB t s q d k v g = true) (htab : Lib.TabIs Tryz.prog w "internal/strconv.uint64pow10" .u64 Lib.pow10Tab) :
  Calls Tryz.prog 37 #[.agg #[.int .i64 t, .int .i64 s, .int .i64 q, .int .i64 d, .int .i64 k, .int .i64 v, .int .i64 g]] w fun e w' => ∃ x, e = .returned x ∧ OwnB w.heap.size w' x (evText t s q d k v) ∧ Below w.heap.size w w' := by
 have hr := of_decide_eq_true hok
 obtain ⟨ht0, ht1', hs0, hs1', hq0, hq1', hd0, hd1', hk0, hk1', hv0, hv1', _, _⟩ := hr
 have ht1 : t ≤ 1000000 := by omega
 have hs1 : s ≤ 1000000 := by omega
 have hq1 : q ≤ 1000000 := by omega
 have hd1 : d ≤ 1000000 := by omega
 have hk1 : k ≤ 1000000 := by omega
 have hv1 : v ≤ 1000000 := by omega
 have hlen := evText_len t s q d k v ht1 hs1 hq1 hd1 hk1 hv1
 have HBw : Hid (Below w.heap.size w (w.alloc (.cells #[.int .i64 t, .int .i64 s, .int .i64 q, .int .i64 d, .int .i64 k, .int .i64 v, .int .i64 g] 53))) := (Below.refl _ w).alloc (Nat.le_refl _) _
 have HE : Hid (EvAt (w.alloc (.cells #[.int .i64 t, .int .i64 s, .int .i64 q, .int .i64 d, .int .i64 k, .int .i64 v, .int .i64 g] 53)) w.heap.size 0 t s q d k v g) := EvAt.new w 53 t s q d k v g
 have hbx : w.heap.size < (w.alloc (.cells #[.int .i64 t, .int .i64 s, .int .i64 q, .int .i64 d, .int .i64 k, .int .i64 v, .int .i64 g] 53)).heap.size := by simp
 have HT0 : Hid (Lib.TabIs Tryz.prog (w.alloc (.cells #[.int .i64 t, .int .i64 s, .int .i64 q, .int .i64 d, .int .i64 k, .int .i64 v, .int .i64 g] 53)) "internal/strconv.uint64pow10" .u64 Lib.pow10Tab) := tab_kept htab HBw.out
 clear htab ht1' hs1' hq1' hd1' hk1' hv1'
 go_enter Tryz.func37, Tryz.ntmps37
 go_upto_region 1 with fail
 generalize w.alloc (.cells #[.int .i64 t, .int .i64 s, .int .i64 q, .int .i64 d, .int .i64 k, .int .i64 v, .int .i64 g] 53) = W0 at *
 generalize hbxe : w.heap.size = bx at *
 obtain ⟨f0, f1, f2, f3, f4, f5, f6⟩ := HE.out.lits
 go_wp2_with fail
 refine (iOk_any t s q d k v g _).mono ?_
 rintro r wk ⟨rfl, hbk⟩
 rw [hok]
 have HBk : Hid (Below W0.heap.size W0 wk) := hbk
 have HT : Hid (Lib.TabIs Tryz.prog wk.drew "internal/strconv.uint64pow10" .u64 Lib.pow10Tab) := tab_kept HT0.out hbk.drew
 clear hbk f0 f1 f2 f3 f4 f5 f6 hok
 have kc := conv9
 go_wp2_with fail
 refine wp_region_noPanic ?_
 refine wp_region_held_drew (S := (fun W => W.cell? ⟨bx, 0, none⟩ = some (.int .i64 t) ∧ W.cell? ⟨bx, 1, none⟩ = some (.int .i64 s) ∧ W.cell? ⟨bx, 2, none⟩ = some (.int .i64 q) ∧ W.cell? ⟨bx, 3, none⟩ = some (.int .i64 d) ∧ W.cell? ⟨bx, 4, none⟩ = some (.int .i64 k) ∧ W.cell? ⟨bx, 5, none⟩ = some (.int .i64 v) ∧ W.cell? ⟨bx, 6, none⟩ = some (.int .i64 g))) (by kernel_rfl) (HE.out.below HBk.out.drew hbx).lits (fun hHeld => ?_)
 refine wpAnyH_take (i := 0) (oi := { dst := some 6, op := .fieldAddr 53 (.tmp 1) 0, type := 0, pos := _, after := _, guard := none }) (v := .pointer (some ⟨bx, 0, none⟩)) rfl (by kernel_rfl) (by kernel_rfl) (by kernel_rfl) (fun _ _ _ h => h) (Or.inl ⟨by rfl, ?_⟩) (by assumption) ?_
 ·intro wX hSw
  try dsimp only at hSw
  go_simp
 try simp only [Act.put, List.setIfInBounds_toArray, List.set_cons_zero, List.set_cons_succ]
 refine wpAnyH_take (i := 1) (oi := { dst := some 7, op := .load 3 (.tmp 6), type := 3, pos := _, after := _, guard := none }) (v := .int .i64 t) rfl (by kernel_rfl) (by kernel_rfl) (by kernel_rfl) (fun _ _ _ h => h) (Or.inl ⟨by rfl, ?_⟩) (by assumption) ?_
 ·intro wX hSw
  try dsimp only at hSw
  go_simp
 try simp only [Act.put, List.setIfInBounds_toArray, List.set_cons_zero, List.set_cons_succ]
 refine wpAnyH_take (i := 3) (oi := { dst := some 9, op := .fieldAddr 53 (.tmp 1) 1, type := 0, pos := _, after := _, guard := none }) (v := .pointer (some ⟨bx, 1, none⟩)) rfl (by kernel_rfl) (by kernel_rfl) (by kernel_rfl) (fun _ _ _ h => h) (Or.inl ⟨by rfl, ?_⟩) (by assumption) ?_
 ·intro wX hSw
  try dsimp only at hSw
  go_simp
 try simp only [Act.put, List.setIfInBounds_toArray, List.set_cons_zero, List.set_cons_succ]
 refine wpAnyH_take (i := 4) (oi := { dst := some 10, op := .load 3 (.tmp 9), type := 3, pos := _, after := _, guard := none }) (v := .int .i64 s) rfl (by kernel_rfl) (by kernel_rfl) (by kernel_rfl) (fun _ _ _ h => h) (Or.inl ⟨by rfl, ?_⟩) (by assumption) ?_
 ·intro wX hSw
  try dsimp only at hSw
  go_simp
 try simp only [Act.put, List.setIfInBounds_toArray, List.set_cons_zero, List.set_cons_succ]
 refine wpAnyH_take (i := 7) (oi := { dst := some 13, op := .fieldAddr 53 (.tmp 1) 2, type := 0, pos := _, after := _, guard := none }) (v := .pointer (some ⟨bx, 2, none⟩)) rfl (by kernel_rfl) (by kernel_rfl) (by kernel_rfl) (fun _ _ _ h => h) (Or.inl ⟨by rfl, ?_⟩) (by assumption) ?_
 ·intro wX hSw
  try dsimp only at hSw
  go_simp
 try simp only [Act.put, List.setIfInBounds_toArray, List.set_cons_zero, List.set_cons_succ]
 refine wpAnyH_take (i := 8) (oi := { dst := some 14, op := .load 3 (.tmp 13), type := 3, pos := _, after := _, guard := none }) (v := .int .i64 q) rfl (by kernel_rfl) (by kernel_rfl) (by kernel_rfl) (fun _ _ _ h => h) (Or.inl ⟨by rfl, ?_⟩) (by assumption) ?_
 ·intro wX hSw
  try dsimp only at hSw
  go_simp
 try simp only [Act.put, List.setIfInBounds_toArray, List.set_cons_zero, List.set_cons_succ]
 refine wpAnyH_take (i := 11) (oi := { dst := some 17, op := .fieldAddr 53 (.tmp 1) 3, type := 0, pos := _, after := _, guard := none }) (v := .pointer (some ⟨bx, 3, none⟩)) rfl (by kernel_rfl) (by kernel_rfl) (by kernel_rfl) (fun _ _ _ h => h) (Or.inl ⟨by rfl, ?_⟩) (by assumption) ?_
 ·intro wX hSw
  try dsimp only at hSw
  go_simp
 try simp only [Act.put, List.setIfInBounds_toArray, List.set_cons_zero, List.set_cons_succ]
 refine wpAnyH_take (i := 12) (oi := { dst := some 18, op := .load 3 (.tmp 17), type := 3, pos := _, after := _, guard := none }) (v := .int .i64 d) rfl (by kernel_rfl) (by kernel_rfl) (by kernel_rfl) (fun _ _ _ h => h) (Or.inl ⟨by rfl, ?_⟩) (by assumption) ?_
 ·intro wX hSw
  try dsimp only at hSw
  go_simp
 try simp only [Act.put, List.setIfInBounds_toArray, List.set_cons_zero, List.set_cons_succ]
 refine wpAnyH_take (i := 14) (oi := { dst := some 20, op := .fieldAddr 53 (.tmp 1) 4, type := 0, pos := _, after := _, guard := none }) (v := .pointer (some ⟨bx, 4, none⟩)) rfl (by kernel_rfl) (by kernel_rfl) (by kernel_rfl) (fun _ _ _ h => h) (Or.inl ⟨by rfl, ?_⟩) (by assumption) ?_
 ·intro wX hSw
  try dsimp only at hSw
  go_simp
 try simp only [Act.put, List.setIfInBounds_toArray, List.set_cons_zero, List.set_cons_succ]
 refine wpAnyH_take (i := 15) (oi := { dst := some 21, op := .load 3 (.tmp 20), type := 3, pos := _, after := _, guard := none }) (v := .int .i64 k) rfl (by kernel_rfl) (by kernel_rfl) (by kernel_rfl) (fun _ _ _ h => h) (Or.inl ⟨by rfl, ?_⟩) (by assumption) ?_
 ·intro wX hSw
  try dsimp only at hSw
  go_simp
 try simp only [Act.put, List.setIfInBounds_toArray, List.set_cons_zero, List.set_cons_succ]
 refine wpAnyH_take (i := 17) (oi := { dst := some 23, op := .fieldAddr 53 (.tmp 1) 5, type := 0, pos := _, after := _, guard := none }) (v := .pointer (some ⟨bx, 5, none⟩)) rfl (by kernel_rfl) (by kernel_rfl) (by kernel_rfl) (fun _ _ _ h => h) (Or.inl ⟨by rfl, ?_⟩) (by assumption) ?_
 ·intro wX hSw
  try dsimp only at hSw
  go_simp
 try simp only [Act.put, List.setIfInBounds_toArray, List.set_cons_zero, List.set_cons_succ]
 refine wpAnyH_take (i := 18) (oi := { dst := some 24, op := .load 3 (.tmp 23), type := 3, pos := _, after := _, guard := none }) (v := .int .i64 v) rfl (by kernel_rfl) (by kernel_rfl) (by kernel_rfl) (fun _ _ _ h => h) (Or.inl ⟨by rfl, ?_⟩) (by assumption) ?_
 ·intro wX hSw
  try dsimp only at hSw
  go_simp
 try simp only [Act.put, List.setIfInBounds_toArray, List.set_cons_zero, List.set_cons_succ]
 refine wpAnyH_ready (rs := [2]) (by kernel_rfl) (by simp) ?_
 refine AllReadyH.cons (o := { dst := some 8, op := .call { callee := .value (.func 61), args := #[.tmp 7], argTypes := #[3] }, type := 9, pos := _, after := _, guard := none }) rfl (fun K hK => ?_) AllReadyH.nil
 go_simp
 refine (itoa_any t ht0 ht1 _ HT.out).mono ?_
 rintro r wA ⟨bA, rfl, hA, hblA⟩
 have hBA : Below W0.heap.size W0 wA := (HBk.out.drew).trans (hblA.mono (HBk.out.drew).size)
 have hTA : Lib.TabIs Tryz.prog wA "internal/strconv.uint64pow10" .u64 Lib.pow10Tab := tab_kept HT0.out hBA
 have hkA := (HE.out.below hBA hbx).lits
 try go_simp
 refine hK.out _ _ hkA (fun hHeld => ?_)
 clear hK K
 try simp only [Act.put, List.setIfInBounds_toArray, List.set_cons_zero, List.set_cons_succ]
 refine wpAnyH_ready (rs := [5]) (by kernel_rfl) (by simp) ?_
 refine AllReadyH.cons (o := { dst := some 11, op := .call { callee := .value (.func 70), args := #[.tmp 10], argTypes := #[3] }, type := 9, pos := _, after := _, guard := none }) rfl (fun K hK => ?_) AllReadyH.nil
 go_simp
 refine (sender_any s hs0 hs1 _ hTA).mono ?_
 rintro r wB ⟨bB, rfl, hB_, hblB⟩
 have hBB : Below W0.heap.size W0 wB := (hBA).trans (hblB.mono (hBA).size)
 have hTB : Lib.TabIs Tryz.prog wB "internal/strconv.uint64pow10" .u64 Lib.pow10Tab := tab_kept HT0.out hBB
 have hkB := (HE.out.below hBB hbx).lits
 have hn1 : ¬ 9223372036854775807 < bB.size + 1 := over1 hB_ hs1
 try go_simp
 refine hK.out _ _ hkB (fun hHeld => ?_)
 clear hK K
 try simp only [Act.put, List.setIfInBounds_toArray, List.set_cons_zero, List.set_cons_succ]
 refine wpAnyH_take (i := 6) (oi := { dst := some 12, op := .binOp .add 9 (.tmp 11) (.const (.string ⟨#[35]⟩)) 9, type := 9, pos := _, after := _, guard := none }) (v := .string (bB ++ ⟨#[35]⟩)) rfl (by kernel_rfl) (by kernel_rfl) (by kernel_rfl) (fun _ _ _ h => h) (Or.inl ⟨by rfl, ?_⟩) (by assumption) ?_
 ·intro wX hSw
  try dsimp only at hSw
  go_simp
 try simp only [Act.put, List.setIfInBounds_toArray, List.set_cons_zero, List.set_cons_succ]
 refine wpAnyH_ready (rs := [9]) (by kernel_rfl) (by simp) ?_
 refine AllReadyH.cons (o := { dst := some 15, op := .call { callee := .value (.func 61), args := #[.tmp 14], argTypes := #[3] }, type := 9, pos := _, after := _, guard := none }) rfl (fun K hK => ?_) AllReadyH.nil
 go_simp
 refine (itoa_any q hq0 hq1 _ hTB).mono ?_
 rintro r wC ⟨bC, rfl, hC, hblC⟩
 have hBC : Below W0.heap.size W0 wC := (hBB).trans (hblC.mono (hBB).size)
 have hTC : Lib.TabIs Tryz.prog wC "internal/strconv.uint64pow10" .u64 Lib.pow10Tab := tab_kept HT0.out hBC
 have hkC := (HE.out.below hBC hbx).lits
 have hn2 : ¬ 9223372036854775807 < bB.size + 1 + bC.size := over2 hB_ hs1 hC hq1
 try go_simp
 refine hK.out _ _ hkC (fun hHeld => ?_)
 clear hK K
 try simp only [Act.put, List.setIfInBounds_toArray, List.set_cons_zero, List.set_cons_succ]
 refine wpAnyH_take (i := 10) (oi := { dst := some 16, op := .binOp .add 9 (.tmp 12) (.tmp 15) 9, type := 9, pos := _, after := _, guard := none }) (v := .string (bB ++ ⟨#[35]⟩ ++ bC)) rfl (by kernel_rfl) (by kernel_rfl) (by kernel_rfl) (fun _ _ _ h => h) (Or.inl ⟨by rfl, ?_⟩) (by assumption) ?_
 ·intro wX hSw
  try dsimp only at hSw
  go_simp
 try simp only [Act.put, List.setIfInBounds_toArray, List.set_cons_zero, List.set_cons_succ]
 refine wpAnyH_ready (rs := [13]) (by kernel_rfl) (by simp) ?_
 refine AllReadyH.cons (o := { dst := some 19, op := .call { callee := .value (.func 61), args := #[.tmp 18], argTypes := #[3] }, type := 9, pos := _, after := _, guard := none }) rfl (fun K hK => ?_) AllReadyH.nil
 go_simp
 refine (itoa_any d hd0 hd1 _ hTC).mono ?_
 rintro r wD ⟨bD, rfl, hD, hblD⟩
 have hBD : Below W0.heap.size W0 wD := (hBC).trans (hblD.mono (hBC).size)
 have hTD : Lib.TabIs Tryz.prog wD "internal/strconv.uint64pow10" .u64 Lib.pow10Tab := tab_kept HT0.out hBD
 have hkD := (HE.out.below hBD hbx).lits
 try go_simp
 refine hK.out _ _ hkD (fun hHeld => ?_)
 clear hK K
 try simp only [Act.put, List.setIfInBounds_toArray, List.set_cons_zero, List.set_cons_succ]
 refine wpAnyH_ready (rs := [16]) (by kernel_rfl) (by simp) ?_
 refine AllReadyH.cons (o := { dst := some 22, op := .call { callee := .value (.func 61), args := #[.tmp 21], argTypes := #[3] }, type := 9, pos := _, after := _, guard := none }) rfl (fun K hK => ?_) AllReadyH.nil
 go_simp
 refine (itoa_any k hk0 hk1 _ hTD).mono ?_
 rintro r wE ⟨bE, rfl, hE_, hblE⟩
 have hBE : Below W0.heap.size W0 wE := (hBD).trans (hblE.mono (hBD).size)
 have hTE : Lib.TabIs Tryz.prog wE "internal/strconv.uint64pow10" .u64 Lib.pow10Tab := tab_kept HT0.out hBE
 have hkE := (HE.out.below hBE hbx).lits
 try go_simp
 refine hK.out _ _ hkE (fun hHeld => ?_)
 clear hK K
 try simp only [Act.put, List.setIfInBounds_toArray, List.set_cons_zero, List.set_cons_succ]
 refine wpAnyH_ready (rs := [19]) (by kernel_rfl) (by simp) ?_
 refine AllReadyH.cons (o := { dst := some 25, op := .call { callee := .value (.func 61), args := #[.tmp 24], argTypes := #[3] }, type := 9, pos := _, after := _, guard := none }) rfl (fun K hK => ?_) AllReadyH.nil
 go_simp
 refine (itoa_any v hv0 hv1 _ hTE).mono ?_
 rintro r wF ⟨bF, rfl, hF, hblF⟩
 have hBF : Below W0.heap.size W0 wF := (hBE).trans (hblF.mono (hBE).size)
 have hTF : Lib.TabIs Tryz.prog wF "internal/strconv.uint64pow10" .u64 Lib.pow10Tab := tab_kept HT0.out hBF
 have hkF := (HE.out.below hBF hbx).lits
 try go_simp
 refine hK.out _ _ hkF (fun hHeld => ?_)
 clear hK K
 try simp only [Act.put, List.setIfInBounds_toArray, List.set_cons_zero, List.set_cons_succ]
 refine wpAnyH_ready (rs := [20]) (by kernel_rfl) (by simp) ?_
 refine AllReadyH.cons (o := { dst := some 26, op := .buildSlice 68 9 #[(0, .const (.string ⟨#[97, 116]⟩)), (1, .tmp 8), (2, .tmp 16), (3, .const (.string ⟨#[116, 111]⟩)), (4, .tmp 19), (5, .const (.string ⟨#[107, 105, 110, 100]⟩)), (6, .tmp 22), (7, .const (.string ⟨#[118, 97, 108]⟩)), (8, .tmp 25)], type := 68, pos := _, after := _, guard := none }) rfl (fun K hK => ?_) AllReadyH.nil
 go_simp
 refine hK.out _ _ ((HE.out.below hBF hbx).alloc (Nat.lt_of_lt_of_le hbx hBF.size) _).lits (fun hHeld => ?_)
 clear hK K
 try simp only [Act.put, List.setIfInBounds_toArray, List.set_cons_zero, List.set_cons_succ]
 refine wpAnyH_ready (rs := [21]) (by kernel_rfl) (by simp) ?_
 refine AllReadyH.cons (o := { dst := some 27, op := .call { callee := .value (.func 38), args := #[.tmp 26, .const (.string ⟨#[32]⟩)], argTypes := #[68, 9] }, type := 9, pos := _, after := _, guard := none }) rfl (fun K hK => ?_) AllReadyH.nil
 go_simp
 refine (join_text t s q d k v _ bA bB bC bD bE bF hA hB_ hC hD hE_ hF hlen).mono ?_
 rintro r wJ ⟨bJ, rfl, hJ, hblJ⟩
 have hBJ : Below W0.heap.size W0 wJ := hBF.trans (hblJ.mono hBF.size)
 have hkJ := (HE.out.below hBJ hbx).lits
 have hkK := (HE.out.below (hBJ.trans ((conv_below wJ bJ).mono hBJ.size)) hbx).lits
 try go_simp
 refine hK.out _ _ hkJ (fun hHeld => ?_)
 clear hK K
 try simp only [Act.put, List.setIfInBounds_toArray, List.set_cons_zero, List.set_cons_succ]
 refine wpAnyH_ready (rs := [22]) (by kernel_rfl) (by simp) ?_
 refine AllReadyH.cons (o := { dst := some 28, op := .convert 9 22 (.tmp 27), type := 22, pos := _, after := _, guard := none }) rfl (fun K hK => ?_) AllReadyH.nil
 go_simp
 refine hK.out _ _ hkK (fun hHeld => ?_)
 clear hK K
 try simp only [Act.put, List.setIfInBounds_toArray, List.set_cons_zero, List.set_cons_succ]
 refine wpAnyH_take (i := 23) (oi := { dst := some 2, op := .assign (.tmp 28), type := 22, pos := _, after := _, guard := none }) (v := .slice (some ⟨wJ.heap.size, 0, none⟩) bJ.size (grownCap wJ bJ.size 0 5)) rfl (by kernel_rfl) (by kernel_rfl) (by kernel_rfl) (fun _ _ _ h => h) (Or.inl ⟨by rfl, ?_⟩) (by assumption) ?_
 ·intro wX hSw
  try dsimp only at hSw
  go_simp
 try simp only [Act.put, List.setIfInBounds_toArray, List.set_cons_zero, List.set_cons_succ]
 refine wpAnyH_done (by kernel_rfl) ?_ _
 refine NoPanic.normal ?_
 go_wp2
 go_ret
 subst hbxe
 refine ⟨_, rfl, (conv_own wJ bJ _ hJ hlen).mono (by have := hBJ.size; omega), HBw.out.trans ((hBJ.trans ((conv_below wJ bJ).mono hBJ.size)).mono (by omega))⟩
end Go.Proofs.YtbljfphdghfkfaaGreatDoor

/- The specification's digits, and its text of an event. -/
namespace Go.Proofs.YtbljfphdghfkfaaGreatDoor
open Go.RowKit
theorem step_append_ownT {P : Program} {ops : Array Oper} {o : Oper} {a : Act} {w : World} {K : Act → World → Prop} {Q : Exit → Act → World → Prop} {E : Prop}
  (hg : o.guard = none) (s x : Operand) (t : TypeId) (hop : o.op = Op.call { callee := Callee.builtin Builtin.append, args := #[s, x], argTypes := #[t, t] })
  (base : Nat) (e : TypeId) (i : TypeInfo) (z : Value) (size bytes : Nat) (h1 : P.underlying t = some (.slice e)) (h2 : P.info? e = some i) (h3 : i.zero = some z) (h4 : i.size = size) (h5 : i.bytes = bytes) (h6 : z.cells.size = size) (h7 : 0 < size)
  (v : Value) (n : Nat) (xs : List Value) (hs : a.eval s = v) (hown : w.ownsRow base e size v n xs)
  (ad : Addr) (m c : Nat) (news : List Value) (hx : a.eval x = .slice (some ad) m c) (hn : news.length = m * size) (hc : ∀ j u, news[j]? = some u → w.cell? (ad.add j) = some u) (h1c : ∀ u ∈ news, u.oneCell' = true)
  (b1 : n + m ≤ maxLen) (b2 : (n + m) * bytes ≤ 140737488355328) (hbase : base ≤ w.heap.size)
  (hK : ∀ v' w', w'.ownsRow base e size v' (n + m) (xs ++ news) → w.grownBy w' v.ownBlock → K (a.put o.dst v') w') :
  if Region.wanted o (yielded ops a.tmps) = true then Oper.wp P o a w K Q else E := by
 have hw : Region.wanted o (yielded ops a.tmps) = true := by simp [Region.wanted, hg]
 rw [if_pos hw]
 exact wp_append_own w s x t hop base e i z size bytes h1 h2 h3 h4 h5 h6 h7 v n xs hs hown ad m c news hx hn hc h1c b1 b2 hbase (fun v' w' r1 r2 _ => hK v' w' r1 r2)
end Go.Proofs.YtbljfphdghfkfaaGreatDoor

/- What the text of a model is; the word of an op. -/
namespace Go.Proofs.YtbljfphdghfkfaaGreatDoor
open Go.RowKit
def opWord (c : Int) : List UInt8 :=
 if c = 0 then [97, 100, 100]
 else if c = 1 then [116, 97, 107, 101]
 else if c = 2 then [115, 101, 110, 100]
 else if c = 3 then [115, 107, 105, 112]
 else if c = 4 then [97, 115, 107]
 else if c = 5 then [101, 109, 105, 116]
 else if c = 6 then [100, 114, 97, 119]
 else []
def opText (x : O) : List UInt8 := [32] ++ opWord x.c ++ ([32] ++ dec x.a) ++ ([32] ++ dec x.b) ++ ([32] ++ dec x.k)
def opsText : List O → List UInt8
 | [] => []
 | x :: l => opText x ++ opsText l
theorem opsText_append : ∀ l r : List O, opsText (l ++ r) = opsText l ++ opsText r
 | [], r => rfl
 | x :: l, r => by simp [opsText, opsText_append l r]
def kindText (i : Nat) (r : List O) : List UInt8 := [107, 105, 110, 100, 32] ++ dec (i : Int) ++ opsText r ++ [10]
def kindsText (hs : List (List O)) : Nat → List UInt8
 | 0 => []
 | i + 1 => kindsText hs i ++ kindText i (hAt hs i)
def lineText (e : Ev) : List UInt8 := evText e.t e.s e.q e.d e.k e.v ++ [10]
def linesText (es : List Ev) : Nat → List UInt8
 | 0 => []
 | i + 1 => linesText es i ++ lineText (evAt es i)
def headText (m : Md) : List UInt8 := [112, 97, 114, 116, 115, 32] ++ dec m.n ++ ([32, 101, 110, 100, 32] ++ dec m.z) ++ ([32, 115, 101, 101, 100, 32] ++ dec m.s) ++ [10]
def modText (m : Md) : List UInt8 := headText m ++ kindsText m.h m.h.length ++ linesText m.e m.e.length
set_option maxRecDepth 100000 in
set_option maxHeartbeats 1000000 in
theorem word_adding (x y : Int) (w : World) : Calls Tryz.prog 69 #[vAdd x y] w fun e w' => e = .returned (.string ⟨#[97, 100, 100]⟩) ∧ Below w.heap.size w w' := by
 have q0 : ∀ W : World, (Instr.typeAssert (vAdd x y) 80 135 true).run Tryz.prog W = .ok (.tuple #[.agg #[.int .i64 x, .int .i64 y], .bool true]) W := fun W => by kernel_rfl
 go_enter Tryz.func69, Tryz.ntmps69
 go_wp2
 go_ret
 exact ⟨rfl, Below.refl _ _⟩
set_option maxRecDepth 100000 in
set_option maxHeartbeats 1000000 in
theorem word_taking (x : Int) (w : World) : Calls Tryz.prog 69 #[vTake x] w fun e w' => e = .returned (.string ⟨#[116, 97, 107, 101]⟩) ∧ Below w.heap.size w w' := by
 have q0 : ∀ W : World, (Instr.typeAssert (vTake x) 80 135 true).run Tryz.prog W = .ok (.tuple #[.agg #[.int .i64 0, .int .i64 0], .bool false]) W := fun W => by kernel_rfl
 have q1 : ∀ W : World, (Instr.typeAssert (vTake x) 80 137 true).run Tryz.prog W = .ok (.tuple #[.agg #[.int .i64 x], .bool true]) W := fun W => by kernel_rfl
 go_enter Tryz.func69, Tryz.ntmps69
 go_wp2
 go_ret
 exact ⟨rfl, Below.refl _ _⟩
set_option maxRecDepth 100000 in
set_option maxHeartbeats 1000000 in
theorem word_sending (x y t : Int) (w : World) : Calls Tryz.prog 69 #[vSend x y t] w fun e w' => e = .returned (.string ⟨#[115, 101, 110, 100]⟩) ∧ Below w.heap.size w w' := by
 have q0 : ∀ W : World, (Instr.typeAssert (vSend x y t) 80 135 true).run Tryz.prog W = .ok (.tuple #[.agg #[.int .i64 0, .int .i64 0], .bool false]) W := fun W => by kernel_rfl
 have q1 : ∀ W : World, (Instr.typeAssert (vSend x y t) 80 137 true).run Tryz.prog W = .ok (.tuple #[.agg #[.int .i64 0], .bool false]) W := fun W => by kernel_rfl
 have q2 : ∀ W : World, (Instr.typeAssert (vSend x y t) 80 139 true).run Tryz.prog W = .ok (.tuple #[.agg #[.int .i64 x, .int .i64 y, .int .i64 t], .bool true]) W := fun W => by kernel_rfl
 go_enter Tryz.func69, Tryz.ntmps69
 go_wp2
 go_ret
 exact ⟨rfl, Below.refl _ _⟩
set_option maxRecDepth 100000 in
set_option maxHeartbeats 1000000 in
theorem word_skipping (x y t : Int) (w : World) : Calls Tryz.prog 69 #[vSkip x y t] w fun e w' => e = .returned (.string ⟨#[115, 107, 105, 112]⟩) ∧ Below w.heap.size w w' := by
 have q0 : ∀ W : World, (Instr.typeAssert (vSkip x y t) 80 135 true).run Tryz.prog W = .ok (.tuple #[.agg #[.int .i64 0, .int .i64 0], .bool false]) W := fun W => by kernel_rfl
 have q1 : ∀ W : World, (Instr.typeAssert (vSkip x y t) 80 137 true).run Tryz.prog W = .ok (.tuple #[.agg #[.int .i64 0], .bool false]) W := fun W => by kernel_rfl
 have q2 : ∀ W : World, (Instr.typeAssert (vSkip x y t) 80 139 true).run Tryz.prog W = .ok (.tuple #[.agg #[.int .i64 0, .int .i64 0, .int .i64 0], .bool false]) W := fun W => by kernel_rfl
 have q3 : ∀ W : World, (Instr.typeAssert (vSkip x y t) 80 141 true).run Tryz.prog W = .ok (.tuple #[.agg #[.int .i64 x, .int .i64 y, .int .i64 t], .bool true]) W := fun W => by kernel_rfl
 go_enter Tryz.func69, Tryz.ntmps69
 go_wp2
 go_ret
 exact ⟨rfl, Below.refl _ _⟩
set_option maxRecDepth 100000 in
set_option maxHeartbeats 1000000 in
theorem word_asking (x y : Int) (w : World) : Calls Tryz.prog 69 #[vAsk x y] w fun e w' => e = .returned (.string ⟨#[97, 115, 107]⟩) ∧ Below w.heap.size w w' := by
 have q0 : ∀ W : World, (Instr.typeAssert (vAsk x y) 80 135 true).run Tryz.prog W = .ok (.tuple #[.agg #[.int .i64 0, .int .i64 0], .bool false]) W := fun W => by kernel_rfl
 have q1 : ∀ W : World, (Instr.typeAssert (vAsk x y) 80 137 true).run Tryz.prog W = .ok (.tuple #[.agg #[.int .i64 0], .bool false]) W := fun W => by kernel_rfl
 have q2 : ∀ W : World, (Instr.typeAssert (vAsk x y) 80 139 true).run Tryz.prog W = .ok (.tuple #[.agg #[.int .i64 0, .int .i64 0, .int .i64 0], .bool false]) W := fun W => by kernel_rfl
 have q3 : ∀ W : World, (Instr.typeAssert (vAsk x y) 80 141 true).run Tryz.prog W = .ok (.tuple #[.agg #[.int .i64 0, .int .i64 0, .int .i64 0], .bool false]) W := fun W => by kernel_rfl
 have q4 : ∀ W : World, (Instr.typeAssert (vAsk x y) 80 132 true).run Tryz.prog W = .ok (.tuple #[.agg #[.int .i64 x, .int .i64 y], .bool true]) W := fun W => by kernel_rfl
 go_enter Tryz.func69, Tryz.ntmps69
 go_wp2
 go_ret
 exact ⟨rfl, Below.refl _ _⟩
set_option maxRecDepth 100000 in
set_option maxHeartbeats 1000000 in
theorem word_emitting (x : Int) (w : World) : Calls Tryz.prog 69 #[vEmit x] w fun e w' => e = .returned (.string ⟨#[101, 109, 105, 116]⟩) ∧ Below w.heap.size w w' := by
 have q0 : ∀ W : World, (Instr.typeAssert (vEmit x) 80 135 true).run Tryz.prog W = .ok (.tuple #[.agg #[.int .i64 0, .int .i64 0], .bool false]) W := fun W => by kernel_rfl
 have q1 : ∀ W : World, (Instr.typeAssert (vEmit x) 80 137 true).run Tryz.prog W = .ok (.tuple #[.agg #[.int .i64 0], .bool false]) W := fun W => by kernel_rfl
 have q2 : ∀ W : World, (Instr.typeAssert (vEmit x) 80 139 true).run Tryz.prog W = .ok (.tuple #[.agg #[.int .i64 0, .int .i64 0, .int .i64 0], .bool false]) W := fun W => by kernel_rfl
 have q3 : ∀ W : World, (Instr.typeAssert (vEmit x) 80 141 true).run Tryz.prog W = .ok (.tuple #[.agg #[.int .i64 0, .int .i64 0, .int .i64 0], .bool false]) W := fun W => by kernel_rfl
 have q4 : ∀ W : World, (Instr.typeAssert (vEmit x) 80 132 true).run Tryz.prog W = .ok (.tuple #[.agg #[.int .i64 0, .int .i64 0], .bool false]) W := fun W => by kernel_rfl
 have q5 : ∀ W : World, (Instr.typeAssert (vEmit x) 80 142 true).run Tryz.prog W = .ok (.tuple #[.agg #[.int .i64 x], .bool true]) W := fun W => by kernel_rfl
 go_enter Tryz.func69, Tryz.ntmps69
 go_wp2
 go_ret
 exact ⟨rfl, Below.refl _ _⟩
set_option maxRecDepth 100000 in
set_option maxHeartbeats 1000000 in
theorem word_drawing (x y : Int) (w : World) : Calls Tryz.prog 69 #[vDraw x y] w fun e w' => e = .returned (.string ⟨#[100, 114, 97, 119]⟩) ∧ Below w.heap.size w w' := by
 have q0 : ∀ W : World, (Instr.typeAssert (vDraw x y) 80 135 true).run Tryz.prog W = .ok (.tuple #[.agg #[.int .i64 0, .int .i64 0], .bool false]) W := fun W => by kernel_rfl
 have q1 : ∀ W : World, (Instr.typeAssert (vDraw x y) 80 137 true).run Tryz.prog W = .ok (.tuple #[.agg #[.int .i64 0], .bool false]) W := fun W => by kernel_rfl
 have q2 : ∀ W : World, (Instr.typeAssert (vDraw x y) 80 139 true).run Tryz.prog W = .ok (.tuple #[.agg #[.int .i64 0, .int .i64 0, .int .i64 0], .bool false]) W := fun W => by kernel_rfl
 have q3 : ∀ W : World, (Instr.typeAssert (vDraw x y) 80 141 true).run Tryz.prog W = .ok (.tuple #[.agg #[.int .i64 0, .int .i64 0, .int .i64 0], .bool false]) W := fun W => by kernel_rfl
 have q4 : ∀ W : World, (Instr.typeAssert (vDraw x y) 80 132 true).run Tryz.prog W = .ok (.tuple #[.agg #[.int .i64 0, .int .i64 0], .bool false]) W := fun W => by kernel_rfl
 have q5 : ∀ W : World, (Instr.typeAssert (vDraw x y) 80 142 true).run Tryz.prog W = .ok (.tuple #[.agg #[.int .i64 0], .bool false]) W := fun W => by kernel_rfl
 have q6 : ∀ W : World, (Instr.typeAssert (vDraw x y) 80 144 true).run Tryz.prog W = .ok (.tuple #[.agg #[.int .i64 x, .int .i64 y], .bool true]) W := fun W => by kernel_rfl
 go_enter Tryz.func69, Tryz.ntmps69
 go_wp2
 go_ret
 exact ⟨rfl, Below.refl _ _⟩
theorem deedWord_any (c a b k : Int) (w : World) (h0 : 0 ≤ c) (h1 : c ≤ 6) : Calls Tryz.prog 69 #[deedV c a b k] w fun e w' => e = .returned (.string ⟨(opWord c).toArray⟩) ∧ Below w.heap.size w w' := by
 have hc : c = 0 ∨ c = 1 ∨ c = 2 ∨ c = 3 ∨ c = 4 ∨ c = 5 ∨ c = 6 := by omega
 rcases hc with rfl | rfl | rfl | rfl | rfl | rfl | rfl
 ·exact word_adding _ _ _
 ·exact word_taking _ _
 ·exact word_sending _ _ _ _
 ·exact word_skipping _ _ _ _
 ·exact word_asking _ _ _
 ·exact word_emitting _ _
 ·exact word_drawing _ _ _
end Go.Proofs.YtbljfphdghfkfaaGreatDoor

/- Rows of bytes that grow: what is written, what is left alone. -/
namespace Go.Proofs.YtbljfphdghfkfaaGreatDoor
open Go.RowKit
structure SrW (w : World) (X : Nat) (L : List UInt8) : Prop where
 o : ∀ j u, (Lib.byteCells L)[j]? = some u → w.cell? ((⟨X, 0, none⟩ : Addr).add j) = some u
theorem ok_nums {m : Md} (h : m.ok = true) : (0 ≤ m.n ∧ m.n ≤ 4) ∧ (0 ≤ m.s ∧ m.s ≤ 65535) ∧ (0 ≤ m.z ∧ m.z ≤ 950) ∧ m.h.length ≤ 4 ∧ m.e.length ≤ 6 := by
 simp only [Md.ok, Bool.and_eq_true, decide_eq_true_eq] at h
 have := h.1.1.1
 unfold Md.hd at this
 omega
theorem ok_row8 {m : Md} (h : m.ok = true) {k : Nat} (hk : k < m.h.length) : (hAt m.h k).length ≤ 8 := by
 simp only [Md.ok, Bool.and_eq_true, decide_eq_true_eq] at h
 have hr : rowB m (hAt m.h k) = true := List.all_eq_true.1 h.1.2 k (by simpa using hk)
 simp only [rowB, Bool.and_eq_true, decide_eq_true_eq] at hr
 exact hr.1
theorem ok_op9 {m : Md} (h : m.ok = true) {k q : Nat} (hk : k < m.h.length) (hq : q < (hAt m.h k).length) : let o := oAt (hAt m.h k) q; (0 ≤ o.c ∧ o.c ≤ 6) ∧ (0 ≤ o.a ∧ o.a ≤ 999) ∧ (0 ≤ o.b ∧ o.b ≤ 999) ∧ (0 ≤ o.k ∧ o.k ≤ 999) := by
 have hm := (ok_nums h)
 simp only [Md.ok, Bool.and_eq_true, decide_eq_true_eq] at h
 have hr : rowB m (hAt m.h k) = true := List.all_eq_true.1 h.1.2 k (by simpa using hk)
 simp only [rowB, Bool.and_eq_true] at hr
 have ho := List.all_eq_true.1 hr.2 q (by simpa using hq)
 simp only [O.ok, okO, decide_eq_true_eq] at ho
 simp only
 omega
theorem ok_ev9 {m : Md} (h : m.ok = true) {k : Nat} (hk : k < m.e.length) : stB m k (evAt m.e k) = true := by
 simp only [Md.ok, Bool.and_eq_true, decide_eq_true_eq] at h
 exact List.all_eq_true.1 h.2 k (by simpa using hk)
theorem ev_ne (t s q d k v : Int) : evText t s q d k v ≠ [] := by simp [evText]
theorem own_src {B : Nat} {w : World} {x : Value} {L : List UInt8} (h : OwnB B w x L) (hne : L ≠ []) : ∃ X c, x = .slice (some ⟨X, 0, none⟩) L.length c ∧ SrW w X L := by
 obtain ⟨a, cap, rfl, _, _, h⟩ := h
 obtain ⟨g, rfl, _, _, hb⟩ := h.resolve_left hne
 refine ⟨g, cap, rfl, ⟨fun j u hu => ?_⟩⟩
 rw [Addr.add_lit]
 have hj : j < L.length := by
  have := (List.getElem?_eq_some_iff.1 hu).1
  rw [Lib.byteCells_length] at this
  exact this
 have h9 := hb.2 j hj
 rw [h9]
 simp only [Lib.byteCells, List.getElem?_map, List.getElem?_eq_getElem hj, Option.map_some, Option.some.injEq] at hu
 rw [← hu]
 simp [byteAt, hj]
theorem opWord_len (c : Int) : (opWord c).length ≤ 4 := by
 unfold opWord
 repeat' split
 all_goals simp
theorem ops_snoc {r : List O} {q : Nat} (h : q < r.length) : opsText (r.take (q + 1)) = opsText (r.take q) ++ opText (oAt r q) := by
 rw [List.take_add_one, List.getElem?_eq_getElem h, opsText_append]
 simp [opsText, oAt, h, List.getD]
theorem src_at9 {w : World} {X : Nat} {L : List UInt8} (h : SrW w X L) : ∀ (j : Nat) u, (Lib.byteCells L)[j]? = some u → w.cell? ((⟨X, 0, none⟩ : Addr).add j) = some u := h.o
def textR (m : Md) : List UInt8 := if m.ok = true then modText m else []
end Go.Proofs.YtbljfphdghfkfaaGreatDoor

/- FnModels: plain words. -/
namespace Go.Proofs.YtbljfphdghfkfaaGreatDoor
open Go.RowKit
theorem textR_pos (m : Md) : decide (0 < (textR m).length) = m.ok := by
 unfold textR
 cases h : m.ok with
 | false => simp
 | true => simp [modText, headText]
def seenB (l : List Int) (c a : Int) (j : Nat) : Bool := !decide (c = 4) || (List.range j).any fun i => decide (intAt l i = a)
theorem seenB_zero (l : List Int) (c a : Int) : seenB l c a 0 = !decide (c = 4) := by simp [seenB]
theorem seenB_succ (l : List Int) (c a : Int) (j : Nat) : seenB l c a (j + 1) = (seenB l c a j || decide (intAt l j = a)) := by simp [seenB, List.range_succ, Bool.or_assoc]
theorem asks_in {m : Md} (h : m.ok = true) {k q : Nat} (hk : k < m.h.length) (hq : q < (hAt m.h k).length) : seenB (asksL m) (oAt (hAt m.h k) q).c (oAt (hAt m.h k) q).a (asksL m).length = true := by
 have hop := ok_op h hk hq
 obtain ⟨o, ho⟩ : ∃ o, oAt (hAt m.h k) q = o := ⟨_, rfl⟩
 rw [ho] at hop ⊢
 obtain ⟨c, a, b, d⟩ := o
 by_cases hc : c = 4
 ·obtain ⟨h0, h3⟩ := ok_ask hop hc
  obtain ⟨z, rfl⟩ : ∃ z : Nat, a = (z : Int) := ⟨a.toNat, by omega⟩
  have hmem : (z : Int) ∈ asksL m := by
   unfold asksL asksTo
   rw [if_pos h, List.mem_map]
   refine ⟨z, ?_, rfl⟩
   rw [List.mem_filter]
   refine ⟨by simp; omega, ?_⟩
   simp only [askH, askR, List.any_eq_true, List.mem_range]
   exact ⟨k, hk, q, hq, by simp [askO, ho, hc]⟩
  obtain ⟨i, hi, e⟩ := List.getElem_of_mem hmem
  simp only [seenB, Bool.or_eq_true, List.any_eq_true, List.mem_range]
  exact Or.inr ⟨i, hi, by simp [intAt, hi, e]⟩
 ·simp [seenB, hc]
theorem asks_small (m : Md) : (asksL m).length ≤ 4 := by
 unfold asksL
 split
 ·exact asksTo_length m 4
 ·simp
end Go.Proofs.YtbljfphdghfkfaaGreatDoor

/- The specification's l0swap. -/
namespace Go.Proofs.YtbljfphdghfkfaaGreatDoor
open Go.RowKit
theorem Row.cells7 {w : World} {B g cap : Nat} {l : List Ev} (h : Row w B g cap l) {i : Nat} (hi : i < l.length) :
  (w.cell? ⟨g, i * 7, none⟩ = some (.int .i64 (evAt l i).t) ∧ w.cell? ⟨g, i * 7 + 1, none⟩ = some (.int .i64 (evAt l i).s) ∧ w.cell? ⟨g, i * 7 + 2, none⟩ = some (.int .i64 (evAt l i).q) ∧ w.cell? ⟨g, i * 7 + 3, none⟩ = some (.int .i64 (evAt l i).d) ∧ w.cell? ⟨g, i * 7 + 4, none⟩ = some (.int .i64 (evAt l i).k) ∧ w.cell? ⟨g, i * 7 + 5, none⟩ = some (.int .i64 (evAt l i).v) ∧ w.cell? ⟨g, i * 7 + 6, none⟩ = some (.int .i64 (evAt l i).g)) ∧
  (w.frozen? ⟨g, i * 7, none⟩ = false ∧ w.frozen? ⟨g, i * 7 + 1, none⟩ = false ∧ w.frozen? ⟨g, i * 7 + 2, none⟩ = false ∧ w.frozen? ⟨g, i * 7 + 3, none⟩ = false ∧ w.frozen? ⟨g, i * 7 + 4, none⟩ = false ∧ w.frozen? ⟨g, i * 7 + 5, none⟩ = false ∧ w.frozen? ⟨g, i * 7 + 6, none⟩ = false) :=
 ⟨⟨(h.ev hi).f0, (h.ev hi).f1, (h.ev hi).f2, (h.ev hi).f3, (h.ev hi).f4, (h.ev hi).f5, (h.ev hi).f6⟩, ⟨h.frozen _, h.frozen _, h.frozen _, h.frozen _, h.frozen _, h.frozen _, h.frozen _⟩⟩
theorem Row.swap {w : World} {B g cap : Nat} {l : List Ev} (h : Row w B g cap l) {i k : Nat} (hi : i < l.length) (hk : k < l.length) : Row (put7 (put7 w g (i * 7) (evAt l k)) g (k * 7) (evAt l i)) B g cap (swp l i k) :=
 (h.put hi (evAt l k)).put (by simpa using hk) (evAt l i)
end Go.Proofs.YtbljfphdghfkfaaGreatDoor

