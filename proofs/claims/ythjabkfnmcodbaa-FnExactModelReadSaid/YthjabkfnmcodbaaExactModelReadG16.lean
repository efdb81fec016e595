/- MByI, MDeed -/
import Derived.Test.YthjabkfnmcodbaaExactModelReadG15
import Derived.Test.YthjabkfnmcodbaaExactModelReadLMOpI
/- The program's ModelBytes: a handler, an event. -/
namespace Go.Proofs.Ythjabkfnmcodbaa
open Go.RowKit
def opB (o : O) : List UInt8 := [byteOf o.c, byteOf o.a] ++ twoB o.b ++ [byteOf o.k]
def opsB (r : List O) : Nat → List UInt8
  | 0 => []
  | k + 1 => opsB r k ++ opB (oAt r k)
def rowBs (r : List O) : List UInt8 := [byteOf (r.length : Int)] ++ opsB r r.length
def evB (e : Ev) : List UInt8 := twoB e.t ++ [byteOf e.d, byteOf e.k] ++ twoB e.v
theorem opB_length (o : O) : (opB o).length = 5 := rfl
theorem opsB_length (r : List O) : ∀ k, (opsB r k).length = 5 * k
  | 0 => rfl
  | k + 1 => by simp [opsB, opsB_length r k, opB_length]; omega
theorem evB_length (e : Ev) : (evB e).length = 6 := rfl
theorem twoB_length (z : Int) : (twoB z).length = 2 := rfl
/- An op whose numbers are bytes, the third one two of them. -/
def small (o : O) : Prop := 0 ≤ o.c ∧ o.c ≤ 255 ∧ 0 ≤ o.a ∧ o.a ≤ 255 ∧ 0 ≤ o.b ∧ o.b ≤ 65535 ∧ 0 ≤ o.k ∧ o.k ≤ 255
set_option maxRecDepth 100000 in
set_option maxHeartbeats 4000000 in
theorem handler_any (B : Nat) (x u : Value) (l : List UInt8) (r : List O) (w : World) (hB : B ≤ w.heap.size) (hl : l.length ≤ 10000) (hr : r.length ≤ 255) (hsm : ∀ q, q < r.length → small (oAt r q)) (h : RowBy B w x l) (hu : ∃ a cap, u = .slice a r.length cap ∧ (r = [] ∨ ∃ b off, a = some ⟨b, off, none⟩ ∧ b < B ∧ OsAt w b off r)) :
    Calls Try.prog 49 #[x, u] w fun e w' => ∃ y, e = .returned y ∧ RowBy B w' y (l ++ rowBs r) ∧ Below B w w' := by
  obtain ⟨i0, hi, hz0, hz1, hz2⟩ := info_parts By.info5
  obtain ⟨a1, c1, rfl, hu⟩ := hu
  have HR : Hid (RowBy B w x l) := h
  have HU : Hid (r = [] ∨ ∃ b off, a1 = some ⟨b, off, none⟩ ∧ b < B ∧ OsAt w b off r) := hu
  have HSM : Hid (∀ q, q < r.length → small (oAt r q)) := hsm
  have hr0 : (0 : Int) ≤ (r.length : Int) := by omega
  have hr1 : (r.length : Int) ≤ 255 := by omega
  clear h hu hsm
  go_enter Try.func49, Try.ntmps49
  go_wp2_with (at_builtin; refine wpList_append_own _ rfl _ _ 42 rfl B 5 i0 (.int .u8 0) 1 1 Try.underlying42 hi hz0 hz1 hz2 rfl (by decide) x _ _ rfl (World.ownsRow.alloc HR.out _) ⟨w.heap.size, 0, none⟩ 1 1 [.int .u8 (r.length : Int)] rfl rfl (at_new1 _ _) (fun u hu => by simp at hu; first | (subst hu; rfl) | (rcases hu with rfl | rfl <;> rfl)) (by unfold maxLen; omega) (by omega) (by simp; omega) ?_; intro v1 w1 hown hgrow hnil)
  have HR1 : Hid (RowBy B w1 v1 (l ++ [byteOf (r.length : Int)])) := RowBy.grow hown (cells_oneS hr0 hr1) rfl
  have HB1 : Hid (Below B w w1) := ((Below.refl B w).alloc hB _).grown hgrow (by simp; omega) (fun j e => row_ge HR.out e)
  clear hown hgrow hnil
  have hll : (l ++ [byteOf (r.length : Int)]).length = l.length + 1 := by simp
  have HLL : Hid (l ++ rowBs r = (l ++ [byteOf (r.length : Int)]) ++ opsB r r.length) := (by simp [rowBs] : l ++ rowBs r = (l ++ [byteOf (r.length : Int)]) ++ opsB r r.length)
  generalize l ++ [byteOf (r.length : Int)] = l1 at HR1 HLL hll
  go_loopw [0, 15] (fun o i wr => ∃ (q : Nat) (v : Value), q ≤ r.length ∧ v = o ∧ i = .int .i64 q ∧ RowBy B wr o (l1 ++ opsB r q) ∧ Below B w wr) (fun _ i _ => r.length - (intOf i).toNat)
  case atStart => exact ⟨0, _, Nat.zero_le _, rfl, rfl, by simpa [opsB] using HR1.out, HB1.out⟩
  case round =>
    clear HR1 HB1
    obtain ⟨q, o, hq, rfl, rfl, hR, hBw⟩ := hrel
    have HR1 : Hid (RowBy B wr o (l1 ++ opsB r q)) := hR
    have HB1 : Hid (Below B w wr) := hBw
    have hs1 : B ≤ wr.heap.size := Nat.le_trans hB hBw.size
    have hln : (l1 ++ opsB r q).length ≤ 12000 := by rw [List.length_append, opsB_length]; omega
    have HN : Hid (l1 ++ opsB r (q + 1) = (l1 ++ opsB r q) ++ opB (oAt r q)) := (by simp [opsB] : l1 ++ opsB r (q + 1) = (l1 ++ opsB r q) ++ opB (oAt r q))
    generalize hlq : l1 ++ opsB r q = lq at HR1 hln HN
    have HLQ : Hid (l1 ++ opsB r q = lq) := hlq
    clear hlq
    clear hR
    by_cases hlt : q < r.length
    · obtain ⟨b, off, rfl, hb, hb2, hc⟩ := HU.out.resolve_left (by intro e; rw [e] at hlt; simp at hlt)
      obtain ⟨g0, g1, g2, g3⟩ := (hc q hlt).below hBw hb
      obtain ⟨s0, s1, s2, s3, s4, s5, s6, s7⟩ := HSM.out q hlt
      generalize oAt r q = e at g0 g1 g2 g3 HN s0 s1 s2 s3 s4 s5 s6 s7
      obtain ⟨c, a, b2, k2⟩ := e
      simp only at s0 s1 s2 s3 s4 s5 s6 s7
      have HSS : Hid ((0 ≤ c ∧ c ≤ 255 ∧ 0 ≤ a ∧ a ≤ 255) ∧ (0 ≤ b2 ∧ b2 ≤ 65535) ∧ 0 ≤ k2 ∧ k2 ≤ 255) := ⟨⟨s0, s1, s2, s3⟩, ⟨s4, s5⟩, s6, s7⟩
      clear hc hBw
      obtain ⟨V, hV⟩ : ∃ V, wr.alloc (.cells #[.int .i64 c, .int .i64 a, .int .i64 b2, .int .i64 k2] 36) = V := ⟨_, rfl⟩
      have hsV : B ≤ V.heap.size := by rw [← hV]; simp; omega
      have HBV : Hid (Below B w V) := hV ▸ HB1.out.alloc hs1 _
      have HRV : Hid (RowBy B V o lq) := hV ▸ World.ownsRow.alloc HR1.out _
      have HQV : Hid (Bk V wr.heap.size 36 #[.int .i64 c, .int .i64 a, .int .i64 b2, .int .i64 k2]) := hV ▸ Bk.new _ _ _
      have e0 := HQV.out.cell (i := 0) rfl
      have e1 := HQV.out.cell (i := 1) rfl
      clear HB1 HR1
      go_wp2_with (at_builtin; refine wpList_append_own _ rfl _ _ 42 rfl B 5 i0 (.int .u8 0) 1 1 Try.underlying42 hi hz0 hz1 hz2 rfl (by decide) o _ _ rfl (World.ownsRow.alloc HRV.out _) ⟨V.heap.size, 0, none⟩ 2 2 [.int .u8 c, .int .u8 a] rfl rfl (at_new2 _ _ _) (fun u hu => by simp at hu; first | (subst hu; rfl) | (rcases hu with rfl | rfl <;> rfl)) (by unfold maxLen; omega) (by omega) (by simp; omega) ?_; intro v2 w2 hown hgrow hnil; have HR2 : Hid (RowBy B w2 v2 (lq ++ [byteOf c, byteOf a])) := RowBy.grow hown (cells_pair HSS.out.1.1 HSS.out.1.2.1 HSS.out.1.2.2.1 HSS.out.1.2.2.2) rfl; have HB2 : Hid (Below B w w2) := (HBV.out.alloc (by omega) _).grown hgrow (by simp; omega) (fun j e => row_ge HRV.out e); have HQ2 : Hid (Bk w2 wr.heap.size 36 #[.int .i64 c, .int .i64 a, .int .i64 b2, .int .i64 k2]) := (HQV.out.alloc _).turns (grown_turns hgrow) (HRV.out.ne HQV.out (by decide)); have e2 := HQ2.out.cell (i := 2) rfl; clear hown hgrow hnil)
      have hs2 : B ≤ w2.heap.size := Nat.le_trans hB HB2.out.size
      clear e0 e1 e2 g0 g1 g2 g3 hV HBV HRV HQV
      refine (iTwo_any B _ _ _ _ hs2 (by rw [List.length_append]; simp; omega) HSS.out.2.1.1 HSS.out.2.1.2 HR2.out).mono ?_
      rintro e w3 ⟨v3, rfl, hr3, ht3⟩
      have HR3 : Hid (RowBy B w3 v3 (lq ++ [byteOf c, byteOf a] ++ twoB b2)) := hr3
      have HB3 : Hid (Below B w w3) := HB2.out.trans (ht3.to_below (fun k e => row_ge HR2.out e) hs2)
      have HQ3 : Hid (Bk w3 wr.heap.size 36 #[.int .i64 c, .int .i64 a, .int .i64 b2, .int .i64 k2]) := HQ2.out.turns ht3 (HR2.out.ne HQ2.out (by decide))
      have e3 := HQ3.out.cell (i := 3) rfl
      have hs3 : B ≤ w3.heap.size := Nat.le_trans hB HB3.out.size
      have hl3 : (lq ++ [byteOf c, byteOf a] ++ twoB b2).length ≤ 12004 := by rw [List.length_append, List.length_append, twoB_length]; simp; omega
      clear hr3 ht3 HR2 HB2 HQ2
      go_wp2_with (at_builtin; refine wpList_append_own _ rfl _ _ 42 rfl B 5 i0 (.int .u8 0) 1 1 Try.underlying42 hi hz0 hz1 hz2 rfl (by decide) v3 _ _ rfl (World.ownsRow.alloc HR3.out _) ⟨w3.heap.size, 0, none⟩ 1 1 [.int .u8 k2] rfl rfl (at_new1 _ _) (fun u hu => by simp at hu; first | (subst hu; rfl) | (rcases hu with rfl | rfl <;> rfl)) (by unfold maxLen; omega) (by omega) (by simp; omega) ?_; intro v4 w4 hown hgrow hnil)
      go_roundw
      case rel =>
        refine ⟨q + 1, _, by omega, rfl, by go_num, ?_, (HB3.out.alloc hs3 _).grown hgrow (by simp; omega) (fun j e => row_ge HR3.out e)⟩
        have := RowBy.grow hown (cells_oneS HSS.out.2.2.1 HSS.out.2.2.2) rfl
        rw [HN.out]
        simpa [opB] using this
      case measure => simp [intOf]; omega
    · obtain rfl : q = r.length := by omega
      clear hBw
      go_wp2
      go_ret
      exact ⟨_, rfl, by rw [HLL.out, HLQ.out]; exact HR1.out, HB1.out⟩
set_option maxRecDepth 100000 in
set_option maxHeartbeats 4000000 in
theorem start_any (B : Nat) (x : Value) (l : List UInt8) (t s1 qq d kk v g : Int) (w : World) (hB : B ≤ w.heap.size) (hl : l.length ≤ 10000) (ht0 : 0 ≤ t) (ht1 : t ≤ 65535) (hd0 : 0 ≤ d) (hd1 : d ≤ 255) (hk0 : 0 ≤ kk) (hk1 : kk ≤ 255) (hv0 : 0 ≤ v) (hv1 : v ≤ 65535) (h : RowBy B w x l) :
    Calls Try.prog 50 #[x, .agg #[.int .i64 t, .int .i64 s1, .int .i64 qq, .int .i64 d, .int .i64 kk, .int .i64 v, .int .i64 g]] w fun e w' => ∃ y, e = .returned y ∧ RowBy B w' y (l ++ evB ⟨t, s1, qq, d, kk, v, g⟩) ∧ Below B w w' := by
  obtain ⟨i0, hi, hz0, hz1, hz2⟩ := info_parts By.info5
  obtain ⟨V, hV⟩ : ∃ V, w.alloc (.cells #[.int .i64 t, .int .i64 s1, .int .i64 qq, .int .i64 d, .int .i64 kk, .int .i64 v, .int .i64 g] 70) = V := ⟨_, rfl⟩
  have HBV : Hid (Below B w V) := hV ▸ (Below.refl B w).alloc hB _
  have HRV : Hid (RowBy B V x l) := hV ▸ World.ownsRow.alloc h _
  have HQV : Hid (Bk V w.heap.size 70 #[.int .i64 t, .int .i64 s1, .int .i64 qq, .int .i64 d, .int .i64 kk, .int .i64 v, .int .i64 g]) := hV ▸ Bk.new _ _ _
  have HT : Hid ((0 ≤ t ∧ t ≤ 65535) ∧ (0 ≤ v ∧ v ≤ 65535)) := ⟨⟨ht0, ht1⟩, hv0, hv1⟩
  have hsV : B ≤ V.heap.size := Nat.le_trans hB HBV.out.size
  have e0 := HQV.out.cell (i := 0) rfl
  clear h ht0 ht1 hv0 hv1
  go_enter Try.func50, Try.ntmps50
  go_wp2_with fail
  clear e0 hV
  refine (iTwo_any B _ _ _ _ hsV (by omega) HT.out.1.1 HT.out.1.2 HRV.out).mono ?_
  rintro e w2 ⟨v2, rfl, hr2, ht2⟩
  have HR2 : Hid (RowBy B w2 v2 (l ++ twoB t)) := hr2
  have HB2 : Hid (Below B w w2) := HBV.out.trans (ht2.to_below (fun k e => row_ge HRV.out e) hsV)
  have HQ2 : Hid (Bk w2 w.heap.size 70 #[.int .i64 t, .int .i64 s1, .int .i64 qq, .int .i64 d, .int .i64 kk, .int .i64 v, .int .i64 g]) := HQV.out.turns ht2 (HRV.out.ne HQV.out (by decide))
  have hs2 : B ≤ w2.heap.size := Nat.le_trans hB HB2.out.size
  have hl2 : (l ++ twoB t).length ≤ 10002 := by rw [List.length_append, twoB_length]; omega
  have HLD : Hid (l ++ evB ⟨t, s1, qq, d, kk, v, g⟩ = (l ++ twoB t) ++ [byteOf d, byteOf kk] ++ twoB v) := (by simp [evB] : l ++ evB ⟨t, s1, qq, d, kk, v, g⟩ = (l ++ twoB t) ++ [byteOf d, byteOf kk] ++ twoB v)
  generalize l ++ twoB t = l2 at HR2 hl2 HLD
  have e3 := HQ2.out.cell (i := 3) rfl
  have e4 := HQ2.out.cell (i := 4) rfl
  clear hr2 ht2 HBV HRV HQV
  go_wp2_with (at_builtin; refine wpList_append_own _ rfl _ _ 42 rfl B 5 i0 (.int .u8 0) 1 1 Try.underlying42 hi hz0 hz1 hz2 rfl (by decide) v2 _ _ rfl (World.ownsRow.alloc HR2.out _) ⟨w2.heap.size, 0, none⟩ 2 2 [.int .u8 d, .int .u8 kk] rfl rfl (at_new2 _ _ _) (fun u hu => by simp at hu; first | (subst hu; rfl) | (rcases hu with rfl | rfl <;> rfl)) (by unfold maxLen; omega) (by omega) (by simp; omega) ?_; intro v3 w3 hown hgrow hnil; have HR3 : Hid (RowBy B w3 v3 (l2 ++ [byteOf d, byteOf kk])) := RowBy.grow hown (cells_pair hd0 hd1 hk0 hk1) rfl; have HB3 : Hid (Below B w w3) := (HB2.out.alloc hs2 _).grown hgrow (by simp; omega) (fun j e => row_ge HR2.out e); have HQ3 : Hid (Bk w3 w.heap.size 70 #[.int .i64 t, .int .i64 s1, .int .i64 qq, .int .i64 d, .int .i64 kk, .int .i64 v, .int .i64 g]) := (HQ2.out.alloc _).turns (grown_turns hgrow) (HR2.out.ne HQ2.out (by decide)); have e5 := HQ3.out.cell (i := 5) rfl; clear hown hgrow hnil)
  have hs3 : B ≤ w3.heap.size := Nat.le_trans hB HB3.out.size
  refine (iTwo_any B _ _ _ _ hs3 (by rw [List.length_append]; simp; omega) HT.out.2.1 HT.out.2.2 HR3.out).mono ?_
  rintro e w4 ⟨v4, rfl, hr4, ht4⟩
  have HR4 : Hid (RowBy B w4 v4 (l2 ++ [byteOf d, byteOf kk] ++ twoB v)) := hr4
  have HB4 : Hid (Below B w w4) := HB3.out.trans (ht4.to_below (fun k e => row_ge HR3.out e) hs3)
  clear hr4 ht4 e3 e4 e5
  go_wp2
  go_ret
  exact ⟨_, rfl, by rw [HLD.out]; exact HR4.out, HB4.out⟩
end Go.Proofs.Ythjabkfnmcodbaa

/- What an op is told as, whatever its code; whether it asks. -/
namespace Go.Proofs.Ythjabkfnmcodbaa
open Go.RowKit
def deedV (c a b k : Int) : Value :=
  if c = 0 then vAdd a b
  else if c = 1 then vTake a
  else if c = 2 then vSend a b k
  else if c = 3 then vSkip a b k
  else if c = 4 then vAsk a b
  else if c = 5 then vEmit a
  else if c = 6 then vDraw a b
  else .nilIface
theorem deedOf_any (c a b k : Int) (w : World) : Calls Try.prog 38 #[.agg #[.int .i64 c, .int .i64 a, .int .i64 b, .int .i64 k]] w fun e w' => e = .returned (deedV c a b k) ∧ Below w.heap.size w w' := by
  have hc : c = 0 ∨ c = 1 ∨ c = 2 ∨ c = 3 ∨ c = 4 ∨ c = 5 ∨ c = 6 ∨ (¬ c = 0 ∧ ¬ c = 1 ∧ ¬ c = 2 ∧ ¬ c = 3 ∧ ¬ c = 4 ∧ ¬ c = 5 ∧ ¬ c = 6) := by omega
  rcases hc with rfl | rfl | rfl | rfl | rfl | rfl | rfl | ⟨c0, c1, c2, c3, c4, c5, c6⟩
  · exact deed_adding _ _ _ _
  · exact deed_taking _ _ _ _
  · exact deed_sending _ _ _ _
  · exact deed_skipping _ _ _ _
  · exact deed_asking _ _ _ _
  · exact deed_emitting _ _ _ _
  · exact deed_drawing _ _ _ _
  · have e : deedV c a b k = .nilIface := by simp [deedV, c0, c1, c2, c3, c4, c5, c6]
    rw [e]
    exact deed_none _ _ _ _ _ c0 c1 c2 c3 c4 c5 c6
set_option maxRecDepth 100000 in
set_option maxHeartbeats 1000000 in
theorem ask_adding (x y : Int) (w : World) : Calls Try.prog 59 #[vAdd x y] w fun e w' => e = .returned (.tuple #[.int .i64 0, .bool false]) ∧ Below w.heap.size w w' := by
  have q0 : ∀ W : World, (Instr.typeAssert (vAdd x y) 62 105 true).run Try.prog W = .ok (.tuple #[.agg #[.int .i64 0, .int .i64 0], .bool false]) W := fun W => by kernel_rfl
  go_enter Try.func59, Try.ntmps59
  go_wp2
  go_ret2
  exact ⟨rfl, (Below.refl _ _).alloc (Nat.le_refl _) _⟩
set_option maxRecDepth 100000 in
set_option maxHeartbeats 1000000 in
theorem ask_taking (x : Int) (w : World) : Calls Try.prog 59 #[vTake x] w fun e w' => e = .returned (.tuple #[.int .i64 0, .bool false]) ∧ Below w.heap.size w w' := by
  have q0 : ∀ W : World, (Instr.typeAssert (vTake x) 62 105 true).run Try.prog W = .ok (.tuple #[.agg #[.int .i64 0, .int .i64 0], .bool false]) W := fun W => by kernel_rfl
  go_enter Try.func59, Try.ntmps59
  go_wp2
  go_ret2
  exact ⟨rfl, (Below.refl _ _).alloc (Nat.le_refl _) _⟩
set_option maxRecDepth 100000 in
set_option maxHeartbeats 1000000 in
theorem ask_sending (x y t : Int) (w : World) : Calls Try.prog 59 #[vSend x y t] w fun e w' => e = .returned (.tuple #[.int .i64 0, .bool false]) ∧ Below w.heap.size w w' := by
  have q0 : ∀ W : World, (Instr.typeAssert (vSend x y t) 62 105 true).run Try.prog W = .ok (.tuple #[.agg #[.int .i64 0, .int .i64 0], .bool false]) W := fun W => by kernel_rfl
  go_enter Try.func59, Try.ntmps59
  go_wp2
  go_ret2
  exact ⟨rfl, (Below.refl _ _).alloc (Nat.le_refl _) _⟩
set_option maxRecDepth 100000 in
set_option maxHeartbeats 1000000 in
theorem ask_skipping (x y t : Int) (w : World) : Calls Try.prog 59 #[vSkip x y t] w fun e w' => e = .returned (.tuple #[.int .i64 0, .bool false]) ∧ Below w.heap.size w w' := by
  have q0 : ∀ W : World, (Instr.typeAssert (vSkip x y t) 62 105 true).run Try.prog W = .ok (.tuple #[.agg #[.int .i64 0, .int .i64 0], .bool false]) W := fun W => by kernel_rfl
  go_enter Try.func59, Try.ntmps59
  go_wp2
  go_ret2
  exact ⟨rfl, (Below.refl _ _).alloc (Nat.le_refl _) _⟩
set_option maxRecDepth 100000 in
set_option maxHeartbeats 1000000 in
theorem ask_asking (x y : Int) (w : World) : Calls Try.prog 59 #[vAsk x y] w fun e w' => e = .returned (.tuple #[.int .i64 x, .bool true]) ∧ Below w.heap.size w w' := by
  have q0 : ∀ W : World, (Instr.typeAssert (vAsk x y) 62 105 true).run Try.prog W = .ok (.tuple #[.agg #[.int .i64 x, .int .i64 y], .bool true]) W := fun W => by kernel_rfl
  go_enter Try.func59, Try.ntmps59
  go_wp2
  go_ret2
  exact ⟨rfl, (Below.refl _ _).alloc (Nat.le_refl _) _⟩
set_option maxRecDepth 100000 in
set_option maxHeartbeats 1000000 in
theorem ask_emitting (x : Int) (w : World) : Calls Try.prog 59 #[vEmit x] w fun e w' => e = .returned (.tuple #[.int .i64 0, .bool false]) ∧ Below w.heap.size w w' := by
  have q0 : ∀ W : World, (Instr.typeAssert (vEmit x) 62 105 true).run Try.prog W = .ok (.tuple #[.agg #[.int .i64 0, .int .i64 0], .bool false]) W := fun W => by kernel_rfl
  go_enter Try.func59, Try.ntmps59
  go_wp2
  go_ret2
  exact ⟨rfl, (Below.refl _ _).alloc (Nat.le_refl _) _⟩
set_option maxRecDepth 100000 in
set_option maxHeartbeats 1000000 in
theorem ask_drawing (x y : Int) (w : World) : Calls Try.prog 59 #[vDraw x y] w fun e w' => e = .returned (.tuple #[.int .i64 0, .bool false]) ∧ Below w.heap.size w w' := by
  have q0 : ∀ W : World, (Instr.typeAssert (vDraw x y) 62 105 true).run Try.prog W = .ok (.tuple #[.agg #[.int .i64 0, .int .i64 0], .bool false]) W := fun W => by kernel_rfl
  go_enter Try.func59, Try.ntmps59
  go_wp2
  go_ret2
  exact ⟨rfl, (Below.refl _ _).alloc (Nat.le_refl _) _⟩
set_option maxRecDepth 100000 in
set_option maxHeartbeats 1000000 in
theorem ask_none (w : World) : Calls Try.prog 59 #[.nilIface] w fun e w' => e = .returned (.tuple #[.int .i64 0, .bool false]) ∧ Below w.heap.size w w' := by
  have q0 : ∀ W : World, (Instr.typeAssert (.nilIface) 62 105 true).run Try.prog W = .ok (.tuple #[.agg #[.int .i64 0, .int .i64 0], .bool false]) W := fun W => by kernel_rfl
  go_enter Try.func59, Try.ntmps59
  go_wp2
  go_ret2
  exact ⟨rfl, (Below.refl _ _).alloc (Nat.le_refl _) _⟩
theorem askOf_any (c a b k : Int) (w : World) : Calls Try.prog 59 #[deedV c a b k] w fun e w' => e = .returned (.tuple #[.int .i64 (if c = 4 then a else 0), .bool (decide (c = 4))]) ∧ Below w.heap.size w w' := by
  have hc : c = 0 ∨ c = 1 ∨ c = 2 ∨ c = 3 ∨ c = 4 ∨ c = 5 ∨ c = 6 ∨ (¬ c = 0 ∧ ¬ c = 1 ∧ ¬ c = 2 ∧ ¬ c = 3 ∧ ¬ c = 4 ∧ ¬ c = 5 ∧ ¬ c = 6) := by omega
  rcases hc with rfl | rfl | rfl | rfl | rfl | rfl | rfl | ⟨c0, c1, c2, c3, c4, c5, c6⟩
  · exact ask_adding _ _ _
  · exact ask_taking _ _
  · exact ask_sending _ _ _ _
  · exact ask_skipping _ _ _ _
  · exact ask_asking _ _ _
  · exact ask_emitting _ _
  · exact ask_drawing _ _ _
  · have e : deedV c a b k = .nilIface := by simp [deedV, c0, c1, c2, c3, c4, c5, c6]
    rw [e, if_neg c4, decide_eq_false c4]
    exact ask_none _
end Go.Proofs.Ythjabkfnmcodbaa

