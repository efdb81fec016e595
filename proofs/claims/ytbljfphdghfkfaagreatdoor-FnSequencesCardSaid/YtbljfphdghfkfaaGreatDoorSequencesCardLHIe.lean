/- The program's historyOk; its line of what was told. -/
import Derived.Test.YtbljfphdghfkfaaGreatDoorSequencesCardG45
import Derived.Test.YtbljfphdghfkfaaGreatDoorSequencesCardG36
import Derived.Test.YtbljfphdghfkfaaGreatDoorSequencesCardG44
import Derived.Test.YtbljfphdghfkfaaGreatDoorSequencesCardG19
namespace Go.Proofs.YtbljfphdghfkfaaGreatDoor
open Go.RowKit
set_option maxRecDepth 100000 in
set_option maxHeartbeats 4000000 in
theorem tell_any (x : Value) (l : List Em) (w : World) (hl : l.length ≤ 1048576) (h : IsX w x l) :
  Calls Tryz.prog 89 #[x] w fun e w' => Says e (∀ i, i < l.length → emB (xAt l i) = true) ∧ Below w.heap.size w w' := by
 obtain ⟨ax, cx, rfl, _, _, hx⟩ := h
 have HXX : Hid (l = [] ∨ ∃ b off, ax = some ⟨b, off, none⟩ ∧ XsAt w b off l) := hx
 clear hx
 go_enter Tryz.func89, Tryz.ntmps89
 go_wp2
 go_loopw [7] (fun i wr => ∃ k : Nat, k ≤ l.length ∧ i = .int .i64 k ∧ Hid (∀ i, i < k → emB (xAt l i) = true) ∧ Hid (Below w.heap.size w wr)) (fun i _ => l.length - (intOf i).toNat)
 case atStart => exact ⟨0, Nat.zero_le _, rfl, (fun i hi => absurd hi (Nat.not_lt_zero _)), Below.refl _ _⟩
 case round =>
  obtain ⟨k, hk, rfl, HKO, HBr⟩ := hrel
  by_cases hlt : k < l.length
  case pos =>
   have hkd : decide ((k : Int) < (l.length : Int)) = true := by simpa using hlt
   obtain ⟨b, off, rfl, hb, hc⟩ := HXX.out.resolve_left (by intro e; rw [e] at hlt; simp at hlt)
   obtain ⟨f0, f1, f2⟩ := (hc k hlt).below HBr.out hb
   generalize hev : xAt l k = e at f0 f1 f2
   obtain ⟨t, y, v⟩ := e
   have HE : Hid (xAt l k = ⟨t, y, v⟩) := hev
   clear hc hev
   obtain ⟨QB, hQB⟩ : ∃ QB, QB = wr.heap.size := ⟨_, rfl⟩
   obtain ⟨V, hV⟩ : ∃ V, wr.alloc (.cells #[.int .i64 t, .int .i64 y, .int .i64 v] 108) = V := ⟨_, rfl⟩
   have HQV : Hid (Bk V QB 108 #[.int .i64 t, .int .i64 y, .int .i64 v]) := hV ▸ Bk.newAt hQB _ _
   have HBV : Hid (Below w.heap.size w V) := hV ▸ HBr.out.alloc HBr.out.size _
   have e0 := HQV.out.cell (i := 0) rfl
   have e1 := HQV.out.cell (i := 1) rfl
   have e2 := HQV.out.cell (i := 2) rfl
   have hQB' := hQB.symm
   clear hQB
   by_cases c5 : 0 ≤ t
   case neg =>
    have d5 : t < 0 := by omega
    go_wp2
    go_ret
    exact ⟨Says.no (fun h9 => by have h8 := h9 k hlt; rw [HE.out] at h8; have h7 : 0 ≤ t ∧ 0 ≤ y ∧ 0 ≤ v := of_decide_eq_true h8; omega), HBV.out⟩
   have d5 : ¬ t < 0 := by omega
   by_cases c6 : 0 ≤ y
   case neg =>
    have d6 : y < 0 := by omega
    go_wp2
    go_ret
    exact ⟨Says.no (fun h9 => by have h8 := h9 k hlt; rw [HE.out] at h8; have h7 : 0 ≤ t ∧ 0 ≤ y ∧ 0 ≤ v := of_decide_eq_true h8; omega), HBV.out⟩
   have d6 : ¬ y < 0 := by omega
   by_cases c7 : 0 ≤ v
   case neg =>
    have d7 : v < 0 := by omega
    go_wp2
    go_ret
    exact ⟨Says.no (fun h9 => by have h8 := h9 k hlt; rw [HE.out] at h8; have h7 : 0 ≤ t ∧ 0 ≤ y ∧ 0 ≤ v := of_decide_eq_true h8; omega), HBV.out⟩
   have d7 : ¬ v < 0 := by omega
   have HKO2 : Hid (∀ i, i < k + 1 → emB (xAt l i) = true) := fun i hi => by
    by_cases h7 : i < k
    ·exact HKO.out i h7
    ·obtain rfl : i = k := by omega
     rw [HE.out]; exact decide_eq_true ⟨c5, c6, c7⟩
   go_wp2
   go_roundw
   case rel => exact ⟨k + 1, by omega, by go_num, HKO2.out, HBV.out⟩
   case measure => simp [intOf]; omega
  case neg =>
   obtain rfl : k = l.length := by omega
   have hkd : decide ((l.length : Int) < (l.length : Int)) = false := by simp
   go_wp2
   go_ret
   exact ⟨Says.yes HKO.out, HBr.out⟩
theorem Says.of {p : Prop} {b : Bool} (h : b = true ↔ p) : Says (.returned (.bool b)) p := ⟨b, rfl, h⟩
theorem events_any (x : Value) (l : List Ev) (w : World) (hl : l.length ≤ 1048576) (h : IsEvs w x l) (hw : 0 < w.heap.size) :
  Calls Tryz.prog 88 #[x] w fun e w' => Says e (∀ i, i < l.length → (evAt l i).ok = true) ∧ Below w.heap.size w w' := by
 obtain ⟨a, cap, rfl, _, _, hx⟩ := h
 rcases hx with hx | ⟨b, off, rfl, hb⟩
 ·refine (eventsOk_any a cap 0 l w hl (.inl hx) hw).mono ?_
  rintro e w' ⟨he, hb⟩
  exact ⟨he, hb⟩
 ·refine (eventsOk_any (some ⟨b, off, none⟩) cap b l w hl (.inr ⟨off, rfl, hb⟩) hb.1).mono ?_
  rintro e w' ⟨he, hb⟩
  exact ⟨he, hb⟩
set_option maxRecDepth 100000 in
set_option maxHeartbeats 8000000 in
theorem hok_any (x : Value) (z : Hy) (w : World) (h : IsHistory w x z) :
  Calls Tryz.prog 59 #[x] w fun e w' => Says e z.ok ∧ Below w.heap.size w w' := by
 obtain ⟨u0, u1, rfl, hd0, hd1⟩ := h
 have HI0 : Hid (IsEvs w u0 z.e) := hd0.isEvs
 have HI1 : Hid (IsX w u1 z.x) := hd1.isX
 obtain ⟨ae, ce, rfl, _, _, he⟩ := hd0.isEvs
 obtain ⟨ax, cx, rfl, _, _, hxx⟩ := hd1.isX
 have HEV : Hid (z.e = [] ∨ ∃ b off, ae = some ⟨b, off, none⟩ ∧ EvsAt w b off z.e) := he
 have HXX : Hid (z.x = [] ∨ ∃ b off, ax = some ⟨b, off, none⟩ ∧ XsAt w b off z.x) := hxx
 clear hd0 hd1 he hxx
 clear HEV HXX
 obtain ⟨W0, hW0⟩ : ∃ W0, w.alloc (.cells #[.slice ae z.e.length ce, .slice ax z.x.length cx, .int .i64 z.a, .bool z.f] 48) = W0 := ⟨_, rfl⟩
 have HP0 : Hid (Bk W0 w.heap.size 48 #[.slice ae z.e.length ce, .slice ax z.x.length cx, .int .i64 z.a, .bool z.f]) := hW0 ▸ Bk.new w _ _
 have HB0 : Hid (Below w.heap.size w W0) := hW0 ▸ (Below.refl _ w).alloc (Nat.le_refl _) _
 have p0 := HP0.out.cell (i := 0) rfl
 have p1 := HP0.out.cell (i := 1) rfl
 have p2 := HP0.out.cell (i := 2) rfl
 have hz0 : 0 < W0.heap.size := by have := HP0.out.lt; omega
 go_enter Tryz.func59, Tryz.ntmps59
 by_cases c1 : z.e.length ≤ 150
 case neg =>
  have d1 : ¬ (z.e.length : Int) ≤ 150 := by omega
  go_wp2
  go_ret
  exact ⟨Says.no (fun h9 => absurd h9.1.1 c1), HB0.out⟩
 have d1 : (z.e.length : Int) ≤ 150 := by omega
 by_cases c2 : z.x.length ≤ 1200
 case neg =>
  have d2 : ¬ (z.x.length : Int) ≤ 1200 := by omega
  go_wp2
  go_ret
  exact ⟨Says.no (fun h9 => absurd h9.1.2.1 c2), HB0.out⟩
 have d2 : (z.x.length : Int) ≤ 1200 := by omega
 go_wp2_with fail
 refine (events_any _ z.e _ (by omega) (HI0.out.below HB0.out) hz0).mono ?_
 rintro e w1 ⟨⟨c, rfl, hc⟩, hb⟩
 have HB1 : Hid (Below w.heap.size w w1) := HB0.out.trans (hb.mono HB0.out.size)
 have HP1 : Hid (Bk w1 w.heap.size 48 #[.slice ae z.e.length ce, .slice ax z.x.length cx, .int .i64 z.a, .bool z.f]) := HP0.out.below hb
 have HC : Hid (c = true ↔ (∀ i, i < z.e.length → (evAt z.e i).ok = true)) := hc
 clear hb hc p0 p1 p2 HP0 HB0 hW0
 have p1 := HP1.out.cell (i := 1) rfl
 have p2 := HP1.out.cell (i := 2) rfl
 cases c
 case false =>
  go_wp2
  go_ret
  exact ⟨Says.no (fun h9 => absurd (HC.out.2 h9.2.1) (by simp)), HB1.out⟩
 go_wp2_with fail
 refine (tell_any _ z.x _ (by omega) (HI1.out.below HB1.out)).mono ?_
 rintro e w2 ⟨⟨c, rfl, hc⟩, hb⟩
 have HB2 : Hid (Below w.heap.size w w2) := HB1.out.trans (hb.mono HB1.out.size)
 have HP2 : Hid (Bk w2 w.heap.size 48 #[.slice ae z.e.length ce, .slice ax z.x.length cx, .int .i64 z.a, .bool z.f]) := HP1.out.below hb
 have HD : Hid (c = true ↔ (∀ i, i < z.x.length → emB (xAt z.x i) = true)) := hc
 clear hb hc p1 p2 HP1 HB1
 have p2 := HP2.out.cell (i := 2) rfl
 cases c
 case false =>
  go_wp2
  go_ret
  exact ⟨Says.no (fun h9 => absurd (HD.out.2 h9.2.2) (by simp)), HB2.out⟩
 go_wp2_with fail
 refine (within_any _ _ _ _).mono ?_
 rintro e w3 ⟨rfl, hw3⟩
 have hw3' := hw3.symm
 clear hw3
 subst hw3'
 go_wp2
 go_ret
 refine ⟨Says.of ?_, HB2.out⟩
 have h1 : (∀ i, i < z.e.length → (evAt z.e i).ok = true) := HC.out.1 (by simp)
 have h2 : (∀ i, i < z.x.length → emB (xAt z.x i) = true) := HD.out.1 (by simp)
 unfold Hy.ok Hy.hd
 simp only [Bool.and_eq_true, decide_eq_true_eq]
 exact ⟨fun h9 => ⟨⟨c1, c2, h9.1, h9.2⟩, h1, h2⟩, fun h9 => ⟨h9.1.2.2.1, h9.1.2.2.2⟩⟩
theorem em_join (t l v : Int) : Lib.join [[101, 109, 105, 116], dec t, dec l, dec v] [32] = emLine t l v := by
 rw [Lib.join_cons]
 simp [Lib.joinTail, emLine]
set_option maxRecDepth 100000 in
set_option maxHeartbeats 8000000 in
theorem emitT_any (t l v : Int) (t0 : 0 ≤ t) (t1 : t ≤ 9223372036854775807) (l0 : 0 ≤ l) (l1 : l ≤ 9223372036854775807) (v0 : 0 ≤ v) (v1 : v ≤ 9223372036854775807) (w : World) (htab : Lib.TabIs Tryz.prog w "internal/strconv.uint64pow10" .u64 Lib.pow10Tab) :
  Calls Tryz.prog 60 #[.agg #[.int .i64 t, .int .i64 l, .int .i64 v]] w fun e w' => ∃ b : ByteArray, e = .returned (.string b) ∧ b.data.toList = emLine t l v ∧ Below w.heap.size w w' := by
 have HLEN : Hid ((emLine t l v).length ≤ 1000000000) := by
  have h9 := em_len (e := ⟨t, l, v⟩) ⟨⟨show -9223372036854775808 ≤ t by omega, t1⟩, ⟨show -9223372036854775808 ≤ l by omega, l1⟩, ⟨show -9223372036854775808 ≤ v by omega, v1⟩⟩
  show (emLine t l v).length ≤ 1000000000
  simp only at h9
  omega
 obtain ⟨W0, hW0⟩ : ∃ W0, w.alloc (.cells #[.int .i64 t, .int .i64 l, .int .i64 v] 108) = W0 := ⟨_, rfl⟩
 have HP0 : Hid (Bk W0 w.heap.size 108 #[.int .i64 t, .int .i64 l, .int .i64 v]) := hW0 ▸ Bk.new w _ _
 have HB0 : Hid (Below w.heap.size w W0) := hW0 ▸ (Below.refl _ w).alloc (Nat.le_refl _) _
 have HT0 : Hid (Lib.TabIs Tryz.prog W0 "internal/strconv.uint64pow10" .u64 Lib.pow10Tab) := tab_kept htab HB0.out
 clear htab
 go_enter Tryz.func60, Tryz.ntmps60
 go_upto_region 1 with fail
 try rw [hW0]
 clear hW0
 refine wp_region_held_drew (S := fun W => W.cell? ⟨w.heap.size, 0, none⟩ = some (.int .i64 t) ∧ W.cell? ⟨w.heap.size, 1, none⟩ = some (.int .i64 l) ∧ W.cell? ⟨w.heap.size, 2, none⟩ = some (.int .i64 v)) (by kernel_rfl) ⟨HP0.out.drew.cell (i := 0) rfl, HP0.out.drew.cell (i := 1) rfl, HP0.out.drew.cell (i := 2) rfl⟩ (fun hHeld => ?_)
 obtain ⟨wd, hwd⟩ : ∃ wd, W0.drew = wd := ⟨_, rfl⟩
 have HBwd : Hid (Below w.heap.size w wd) := hwd ▸ HB0.out.drew
 have HPwd : Hid (Bk wd w.heap.size 108 #[.int .i64 t, .int .i64 l, .int .i64 v]) := hwd ▸ HP0.out.drew
 have HTwd : Hid (Lib.TabIs Tryz.prog wd "internal/strconv.uint64pow10" .u64 Lib.pow10Tab) := hwd ▸ tab_kept HT0.out (Below.refl _ W0).drew
 rw [hwd] at hHeld
 rw [hwd]
 clear hwd HB0 HP0 HT0
 refine wpAnyH_take (i := 0) (oi := { dst := some 3, op := Op.fieldAddr 108 (Operand.tmp 1) 0, type := 0, pos := _, after := _, guard := none }) (v := .pointer (some ⟨w.heap.size, 0, none⟩)) rfl (by kernel_rfl) (by kernel_rfl) (by kernel_rfl) (fun _ _ _ h => h) (Or.inl ⟨by rfl, ?_⟩) (by assumption) ?_
 ·intro wX hSw
  try dsimp only at hSw
  go_simp
  try exact IntWalk.i64_in _ (by omega)
 try simp only [Act.put, List.setIfInBounds_toArray, List.set_cons_zero, List.set_cons_succ]
 refine wpAnyH_take (i := 1) (oi := { dst := some 4, op := Op.load 3 (Operand.tmp 3), type := 3, pos := _, after := _, guard := none }) (v := .int .i64 t) rfl (by kernel_rfl) (by kernel_rfl) (by kernel_rfl) (fun _ _ _ h => h) (Or.inl ⟨by rfl, ?_⟩) (by assumption) ?_
 ·intro wX hSw
  try dsimp only at hSw
  go_simp
  try exact IntWalk.i64_in _ (by omega)
 try simp only [Act.put, List.setIfInBounds_toArray, List.set_cons_zero, List.set_cons_succ]
 refine wpAnyH_take (i := 3) (oi := { dst := some 6, op := Op.fieldAddr 108 (Operand.tmp 1) 1, type := 0, pos := _, after := _, guard := none }) (v := .pointer (some ⟨w.heap.size, 1, none⟩)) rfl (by kernel_rfl) (by kernel_rfl) (by kernel_rfl) (fun _ _ _ h => h) (Or.inl ⟨by rfl, ?_⟩) (by assumption) ?_
 ·intro wX hSw
  try dsimp only at hSw
  go_simp
  try exact IntWalk.i64_in _ (by omega)
 try simp only [Act.put, List.setIfInBounds_toArray, List.set_cons_zero, List.set_cons_succ]
 refine wpAnyH_take (i := 4) (oi := { dst := some 7, op := Op.load 3 (Operand.tmp 6), type := 3, pos := _, after := _, guard := none }) (v := .int .i64 l) rfl (by kernel_rfl) (by kernel_rfl) (by kernel_rfl) (fun _ _ _ h => h) (Or.inl ⟨by rfl, ?_⟩) (by assumption) ?_
 ·intro wX hSw
  try dsimp only at hSw
  go_simp
  try exact IntWalk.i64_in _ (by omega)
 try simp only [Act.put, List.setIfInBounds_toArray, List.set_cons_zero, List.set_cons_succ]
 refine wpAnyH_take (i := 6) (oi := { dst := some 9, op := Op.fieldAddr 108 (Operand.tmp 1) 2, type := 0, pos := _, after := _, guard := none }) (v := .pointer (some ⟨w.heap.size, 2, none⟩)) rfl (by kernel_rfl) (by kernel_rfl) (by kernel_rfl) (fun _ _ _ h => h) (Or.inl ⟨by rfl, ?_⟩) (by assumption) ?_
 ·intro wX hSw
  try dsimp only at hSw
  go_simp
  try exact IntWalk.i64_in _ (by omega)
 try simp only [Act.put, List.setIfInBounds_toArray, List.set_cons_zero, List.set_cons_succ]
 refine wpAnyH_take (i := 7) (oi := { dst := some 10, op := Op.load 3 (Operand.tmp 9), type := 3, pos := _, after := _, guard := none }) (v := .int .i64 v) rfl (by kernel_rfl) (by kernel_rfl) (by kernel_rfl) (fun _ _ _ h => h) (Or.inl ⟨by rfl, ?_⟩) (by assumption) ?_
 ·intro wX hSw
  try dsimp only at hSw
  go_simp
  try exact IntWalk.i64_in _ (by omega)
 try simp only [Act.put, List.setIfInBounds_toArray, List.set_cons_zero, List.set_cons_succ]
 refine wpAnyH_ready (rs := [2]) (by kernel_rfl) (by simp) ?_
 refine AllReadyH.cons (o := { dst := some 5, op := Op.call { callee := Callee.value (Operand.func 61), args := #[Operand.tmp 4], argTypes := #[3] }, type := 9, pos := _, after := _, guard := none }) rfl (fun K hK => ?_) AllReadyH.nil
 go_simp
 refine (itoa_any9 t t0 t1 _ HTwd.out).mono ?_
 rintro r wA ⟨bA, rfl, hA, hbA⟩
 have HBwA : Hid (Below w.heap.size w wA) := HBwd.out.trans (hbA.mono HBwd.out.size)
 have HTwA : Hid (Lib.TabIs Tryz.prog wA "internal/strconv.uint64pow10" .u64 Lib.pow10Tab) := tab_kept HTwd.out hbA
 have HPwA : Hid (Bk wA w.heap.size 108 #[.int .i64 t, .int .i64 l, .int .i64 v]) := HPwd.out.below hbA
 have HLA : Hid (bA.data.toList = dec t) := hA
 clear hbA hA HTwd HPwd HBwd
 try go_simp
 refine hK.out _ _ ⟨HPwA.out.cell (i := 0) rfl, HPwA.out.cell (i := 1) rfl, HPwA.out.cell (i := 2) rfl⟩ (fun hHeld => ?_)
 clear hK K
 try simp only [Act.put, List.setIfInBounds_toArray, List.set_cons_zero, List.set_cons_succ]
 refine wpAnyH_ready (rs := [5]) (by kernel_rfl) (by simp) ?_
 refine AllReadyH.cons (o := { dst := some 8, op := Op.call { callee := Callee.value (Operand.func 61), args := #[Operand.tmp 7], argTypes := #[3] }, type := 9, pos := _, after := _, guard := none }) rfl (fun K hK => ?_) AllReadyH.nil
 go_simp
 refine (itoa_any9 l l0 l1 _ HTwA.out).mono ?_
 rintro r wB ⟨bB, rfl, hB, hbB⟩
 have HBwB : Hid (Below w.heap.size w wB) := HBwA.out.trans (hbB.mono HBwA.out.size)
 have HTwB : Hid (Lib.TabIs Tryz.prog wB "internal/strconv.uint64pow10" .u64 Lib.pow10Tab) := tab_kept HTwA.out hbB
 have HPwB : Hid (Bk wB w.heap.size 108 #[.int .i64 t, .int .i64 l, .int .i64 v]) := HPwA.out.below hbB
 have HLB : Hid (bB.data.toList = dec l) := hB
 clear hbB hB HTwA HPwA HBwA
 try go_simp
 refine hK.out _ _ ⟨HPwB.out.cell (i := 0) rfl, HPwB.out.cell (i := 1) rfl, HPwB.out.cell (i := 2) rfl⟩ (fun hHeld => ?_)
 clear hK K
 try simp only [Act.put, List.setIfInBounds_toArray, List.set_cons_zero, List.set_cons_succ]
 refine wpAnyH_ready (rs := [8]) (by kernel_rfl) (by simp) ?_
 refine AllReadyH.cons (o := { dst := some 11, op := Op.call { callee := Callee.value (Operand.func 61), args := #[Operand.tmp 10], argTypes := #[3] }, type := 9, pos := _, after := _, guard := none }) rfl (fun K hK => ?_) AllReadyH.nil
 go_simp
 refine (itoa_any9 v v0 v1 _ HTwB.out).mono ?_
 rintro r wC ⟨bC, rfl, hC, hbC⟩
 have HBwC : Hid (Below w.heap.size w wC) := HBwB.out.trans (hbC.mono HBwB.out.size)
 have HTwC : Hid (Lib.TabIs Tryz.prog wC "internal/strconv.uint64pow10" .u64 Lib.pow10Tab) := tab_kept HTwB.out hbC
 have HPwC : Hid (Bk wC w.heap.size 108 #[.int .i64 t, .int .i64 l, .int .i64 v]) := HPwB.out.below hbC
 have HLC : Hid (bC.data.toList = dec v) := hC
 clear hbC hC HTwB HPwB HBwB
 try go_simp
 refine hK.out _ _ ⟨HPwC.out.cell (i := 0) rfl, HPwC.out.cell (i := 1) rfl, HPwC.out.cell (i := 2) rfl⟩ (fun hHeld => ?_)
 clear hK K
 try simp only [Act.put, List.setIfInBounds_toArray, List.set_cons_zero, List.set_cons_succ]
 refine wpAnyH_ready (rs := [9]) (by kernel_rfl) (by simp) ?_
 refine AllReadyH.cons (o := { dst := some 12, op := Op.buildSlice 68 4 #[(0, Operand.const (Value.string { data := #[101, 109, 105, 116] })), (1, Operand.tmp 5), (2, Operand.tmp 8), (3, Operand.tmp 11)], type := 68, pos := _, after := _, guard := none }) rfl (fun K hK => ?_) AllReadyH.nil
 obtain ⟨w6, hw6⟩ : ∃ V, wC.alloc (.cells #[.string ⟨#[101, 109, 105, 116]⟩, .string bA, .string bB, .string bC] 9) = V := ⟨_, rfl⟩
 have HR6 : Hid (SrS wC.heap.size w6 (.slice (some ⟨wC.heap.size, 0, none⟩) 4 4) [(⟨#[101, 109, 105, 116]⟩ : ByteArray), bA, bB, bC]) := hw6 ▸ SrS.made wC _ _ rfl 4 rfl (by simp)
 have HB6 : Hid (Below w.heap.size w w6) := hw6 ▸ HBwC.out.alloc HBwC.out.size _
 have HP6 : Hid (Bk w6 w.heap.size 108 #[.int .i64 t, .int .i64 l, .int .i64 v]) := hw6 ▸ HPwC.out.alloc _
 have HW6 : Hid (wC.alloc (.cells #[.string ⟨#[101, 109, 105, 116]⟩, .string bA, .string bB, .string bC] 9) = w6) := hw6
 clear hw6 HTwC HBwC HPwC
 go_simp
 rw [HW6.out]
 clear HW6
 refine hK.out _ _ ⟨HP6.out.cell (i := 0) rfl, HP6.out.cell (i := 1) rfl, HP6.out.cell (i := 2) rfl⟩ (fun hHeld => ?_)
 clear hK K
 try simp only [Act.put, List.setIfInBounds_toArray, List.set_cons_zero, List.set_cons_succ]
 refine wpAnyH_ready (rs := [10]) (by kernel_rfl) (by simp) ?_
 refine AllReadyH.cons (o := { dst := some 13, op := Op.call { callee := Callee.value (Operand.func 38), args := #[Operand.tmp 12, Operand.const (Value.string { data := #[32] })], argTypes := #[68, 9] }, type := 9, pos := _, after := _, guard := none }) rfl (fun K hK => ?_) AllReadyH.nil
 go_simp
 refine (join_any w6 _ [(⟨#[101, 109, 105, 116]⟩ : ByteArray), bA, bB, bC] ⟨#[32]⟩ HR6.out (by simp) (by simp) (emLine t l v) (by show Lib.join [_, bA.data.toList, bB.data.toList, bC.data.toList] _ = _; rw [HLA.out, HLB.out, HLC.out]; exact em_join t l v) HLEN.out).mono ?_
 rintro r wJ ⟨bJ, rfl, hJ, hbJ⟩
 have HBJ : Hid (Below w.heap.size w wJ) := HB6.out.trans (hbJ.mono HB6.out.size)
 have HJ : Hid (bJ.data.toList = emLine t l v) := hJ
 have HPJ : Hid (Bk wJ w.heap.size 108 #[.int .i64 t, .int .i64 l, .int .i64 v]) := HP6.out.below hbJ
 clear hbJ hJ HR6 HB6 HP6
 try go_simp
 refine hK.out _ _ ⟨HPJ.out.cell (i := 0) rfl, HPJ.out.cell (i := 1) rfl, HPJ.out.cell (i := 2) rfl⟩ (fun hHeld => ?_)
 clear hK K
 try simp only [Act.put, List.setIfInBounds_toArray, List.set_cons_zero, List.set_cons_succ]
 refine wpAnyH_take (i := 11) (oi := { dst := some 2, op := Op.assign (Operand.tmp 13), type := 9, pos := _, after := _, guard := none }) (v := .string bJ) rfl (by kernel_rfl) (by kernel_rfl) (by kernel_rfl) (fun _ _ _ h => h) (Or.inl ⟨by rfl, ?_⟩) (by assumption) ?_
 ·intro wX hSw
  try dsimp only at hSw
  go_simp
  try exact IntWalk.i64_in _ (by omega)
 try simp only [Act.put, List.setIfInBounds_toArray, List.set_cons_zero, List.set_cons_succ]
 refine wpAnyH_done (by kernel_rfl) ?_ _
 go_wp2
 go_ret
 exact ⟨_, rfl, HJ.out, HBJ.out⟩
end Go.Proofs.YtbljfphdghfkfaaGreatDoor
