/- VReadI, VOpen, VOpenB -/
import Derived.Test.YtofbholpggkjcaaExactVectorReadG04
import Derived.WalkSmall
import Derived.Test.YtofbholpggkjcaaExactVectorReadG00
import Derived.ProofKit
import Derived.ChangeOld
import Derived.OpenShut
import Derived.SizedLaws
import Derived.Test.YtofbholpggkjcaaExactVectorReadG03
/- Vectors: the program's VectorRead. -/
namespace Go.Proofs.Ytofbholpggkjcaa
open Go.RowKit
theorem FillI.block {w w' : World} {g n k : Nat} {l : List Int} (h : FillI w g n l k) (hb : w'.heap[g]? = w.heap[g]?) (hs : w.heap.size ≤ w'.heap.size) : FillI w' g n l k :=
  ⟨Nat.lt_of_lt_of_le h.1 hs, fun j hj => by rw [World.cell?_of_block (w := w) hb, World.frozen?_of_block (w := w) hb]; exact h.2.1 j hj, fun i hi => by rw [World.cell?_of_block (w := w) hb]; exact h.2.2 i hi⟩
theorem fill_new (w : World) (l : List Int) : FillI (w.alloc (cell4 0 0 0 0)) w.heap.size 4 l 0 := by
  obtain ⟨h0, h1, h2, h3, hf⟩ := (V4.new w 0 0 0 0).cells
  refine ⟨(V4.new w 0 0 0 0).lt, fun j hj => ⟨?_, hf j⟩, fun i hi => by omega⟩
  have hj4 : j = 0 ∨ j = 1 ∨ j = 2 ∨ j = 3 := by omega
  rcases hj4 with rfl | rfl | rfl | rfl
  · rw [h0]; rfl
  · rw [h1]; rfl
  · rw [h2]; rfl
  · rw [h3]; rfl
abbrev strB (l : List UInt8) : ByteArray := ⟨l.toArray⟩
theorem strB_size (l : List UInt8) : (strB l).size = l.length := by simp [ByteArray.size]
theorem strB_at {l : List UInt8} {k : Nat} (h : k < l.length) : (strB l)[k]'(by rw [strB_size]; exact h) = By.intAt l k := by
  show (l.toArray)[k]'(by simpa using h) = _
  simp [By.intAt, h]
theorem bad_rune {l : List UInt8} {k : Nat} (h : k < l.length) (hc : isL (By.intAt l k) = false) : ¬ ((Utf8.decode (strB l) k).1 : Int) = 63 ∧ ¬ ((Utf8.decode (strB l) k).1 : Int) = 110 ∧ ¬ ((Utf8.decode (strB l) k).1 : Int) = 121 := by
  have hk : k < (strB l).size := by rw [strB_size]; exact h
  by_cases ha : ((strB l)[k]'hk).toNat < 128
  · rw [decode_ascii (strB l) k hk ha, strB_at h]
    rcases letter_cases (By.intAt l k) with ⟨_, h1, _⟩ | ⟨_, h1, _⟩ | ⟨_, h1, _⟩ | ⟨n1, n2, n3, _⟩
    · rw [hc] at h1; cases h1
    · rw [hc] at h1; cases h1
    · rw [hc] at h1; cases h1
    · exact ⟨n1, n2, n3⟩
  · have := (decode_high (strB l) k hk (by omega)).1
    omega
theorem numOfR_no {z : Int} (h : ¬ z = 63 ∧ ¬ z = 110 ∧ ¬ z = 121) : numOfR z = .tuple #[.int .i64 0, .bool false] := by simp [numOfR, h.1, h.2.1, h.2.2]
theorem next_letter (w : World) (g : Nat) (l : List UInt8) (k : Nat) (hk : k < l.length) (hg : w.heap[g]? = some (.stringIter (strB l) k)) {z : Int} (hz : ((By.intAt l k).toNat : Int) = z) (hz2 : z < 128) (ty : TypeId) :
    (Instr.next (.pointer (some ⟨g, 0, none⟩)) true ty).run Try.prog w = .ok (.tuple #[.bool true, .int .i64 k, .int .i32 z]) (w.iterAt g (strB l) (k + 1)) := by
  have h1 : k < (strB l).size := by rw [strB_size]; exact hk
  have h2 := strB_at hk
  have := Lib.run_next_ascii_at (P := Try.prog) w g (strB l) k ty hg h1 (by rw [h2]; omega)
  rw [this, h2, hz]

set_option maxRecDepth 100000 in
set_option maxHeartbeats 4000000 in
theorem iRead_four (b off cap : Nat) (l : List UInt8) (w : World) (hl : l.length = 4) (hI : By.IntsAt w b off l) :
    Calls Try.prog 21 #[.slice (some ⟨b, off, none⟩) 4 cap] w fun e w' => ∃ u, e = .returned (.tuple #[u, .bool (readOk l)]) ∧ OwnI w.heap.size w' u (readV l) ∧ Below w.heap.size w w' := by
  have HL : Hid (l.length = 4) := hl
  have hcv : (convert 26 9 (.slice (some ⟨b, off, none⟩) 4 cap)).run Try.prog (w.alloc (cell4 0 0 0 0)) = .ok (.string (strB l)) (w.alloc (cell4 0 0 0 0)) := by
    have := run_convert_bytes_back (P := Try.prog) (w.alloc (cell4 0 0 0 0)) 26 9 5 ⟨b, off, none⟩ cap l Try.underlying26 Try.underlying5 Try.underlying9 (fun j hj => by
      rw [add_none, ((Below.refl w.heap.size w).alloc (Nat.le_refl _) _).cell (p := ⟨b, off + j, none⟩) hI.1, hI.2 j hj]
      simp [By.intAt, hj])
    rwa [hl] at this
  have hsz : (strB l).size = 4 := by rw [strB_size, hl]
  have HSZ : Hid ((strB l).size = 4) := hsz
  have HML : Hid ((l.map numL).length = 4) := by show _ = _; simp [hl]
  clear hl hI hsz
  go_enter Try.func21, Try.ntmps21
  go_wp2
  go_loopw [] (fun wr => ∃ k : Nat, k ≤ 4 ∧ Below w.heap.size w wr ∧ wr.heap[w.heap.size + 1]? = some (.stringIter (strB l) k) ∧ FillI wr w.heap.size 4 (l.map numL) k ∧ ∀ j, j < k → isL (By.intAt l j) = true) (fun wr => 4 - wr.iterPos (w.heap.size + 1))
  case atStart =>
    refine ⟨0, by omega, ((Below.refl _ w).alloc (Nat.le_refl _) _).alloc (by simp) _, ?_, (fill_new w _).block ?_ ?_, fun j hj => by omega⟩
    · have := World.iter_heap (w.alloc (cell4 0 0 0 0)) (strB l) 0
      rwa [show (w.alloc (cell4 0 0 0 0)).heap.size = w.heap.size + 1 by simp] at this
    · exact ((Below.refl (w.heap.size + 1) (w.alloc (cell4 0 0 0 0))).alloc (by simp) _).block _ (by omega)
    · exact ((Below.refl (w.heap.size + 1) (w.alloc (cell4 0 0 0 0))).alloc (by simp) _).size
  case round =>
    clear hcv
    obtain ⟨k, hk, hb, hit, hf, hall⟩ := hrel
    have HB : Hid (Below w.heap.size w wr) := hb
    have HT : Hid (wr.heap[w.heap.size + 1]? = some (.stringIter (strB l) k)) := hit
    have HF : Hid (FillI wr w.heap.size 4 (l.map numL) k) := hf
    have HA : Hid (∀ j, j < k → isL (By.intAt l j) = true) := hall
    have hsw : w.heap.size + 1 < wr.heap.size := (Array.getElem?_eq_some_iff.1 hit).1
    clear hb hit hf hall
    by_cases hlt : k < 4
    · have hki : (k : Int) < 4 := by omega
      have hkl : k < l.length := by rw [HL.out]; exact hlt
      have HKL : Hid (k < l.length) := hkl
      have HN : Hid (intAt (l.map numL) k = numL (By.intAt l k)) := by show _ = _; simp [intAt, By.intAt, hkl]
      have hL := letter_cases (By.intAt l k)
      clear hkl
      rcases hL with ⟨hz, hc1, hc2⟩ | ⟨hz, hc1, hc2⟩ | ⟨hz, hc1, hc2⟩ | ⟨_, _, _, hc⟩
      · have hnx : ∀ ty, (Instr.next (.pointer (some ⟨w.heap.size + 1, 0, none⟩)) true ty).run Try.prog wr = .ok (.tuple #[.bool true, .int .i64 k, .int .i32 63]) (wr.iterAt (w.heap.size + 1) (strB l) (k + 1)) := fun ty => next_letter wr _ l k HKL.out HT.out hz (by omega) ty
        have HB2 : Hid (Below w.heap.size w (wr.iterAt (w.heap.size + 1) (strB l) (k + 1))) := Lib.below_iterAt HB.out (by omega) _ _
        have HT2 : Hid ((wr.iterAt (w.heap.size + 1) (strB l) (k + 1)).heap[w.heap.size + 1]? = some (.stringIter (strB l) (k + 1))) := Lib.iterAt_heap _ _ _ _ _ HT.out
        have HF2 : Hid (FillI (wr.iterAt (w.heap.size + 1) (strB l) (k + 1)) w.heap.size 4 (l.map numL) k) := HF.out.block (Lib.iterAt_other _ _ _ _ _ (by omega)) (by rw [Lib.iterAt_size]; exact Nat.le_refl _)
        rw [hc2] at HN
        have HC1 : Hid (isL (By.intAt l k) = true) := hc1
        clear hz hc1 hc2
        have hQ : numOfR 63 = .tuple #[.int .i64 (-1), .bool true] := by simp [numOfR]
        go_wp2_with fail
        refine (numberOf_any _ _).mono ?_
        rintro e w2 ⟨rfl, hb2⟩
        rw [hQ]
        have HB3 : Hid (Below w.heap.size w w2) := HB2.out.trans (hb2.mono HB2.out.size)
        have hs2 : w.heap.size + 1 < (wr.iterAt (w.heap.size + 1) (strB l) (k + 1)).heap.size := by rw [Lib.iterAt_size]; exact hsw
        have HT3 : Hid (w2.heap[w.heap.size + 1]? = some (.stringIter (strB l) (k + 1))) := (hb2.block _ hs2).trans HT2.out
        have HF3 : Hid (FillI w2 w.heap.size 4 (l.map numL) k) := HF2.out.block (hb2.block _ (by omega)) hb2.size
        obtain ⟨v, hv⟩ := Option.isSome_iff_exists.1 (HF3.out.2.1 k hlt).1
        have hfz := (HF3.out.2.1 k hlt).2
        have HP : Hid (FillI (w2.setCell ⟨w.heap.size, k, none⟩ (.int .i64 (-1))) w.heap.size 4 (l.map numL) (k + 1)) := by have := HF3.out.put hlt; rw [HN.out] at this; exact this
        clear hb2 hs2 hQ hnx HB2 HT2 HF2
        go_wp2
        go_roundw
        case rel => exact ⟨k + 1, by omega, HB3.out.setCell (p := ⟨w.heap.size, k, none⟩) (Nat.le_refl _) _, (Below.heap_setCell _ _ _ _ (by simp)).trans HT3.out, HP.out, fun j hj => by
          by_cases e : j < k
          · exact HA.out j e
          · rw [show j = k by omega]; exact HC1.out⟩
        case measure =>
          rw [iterPos_of HT.out, iterPos_of ((Below.heap_setCell w2 ⟨w.heap.size, k, none⟩ _ (w.heap.size + 1) (by simp)).trans HT3.out)]
          omega
      · have hnx : ∀ ty, (Instr.next (.pointer (some ⟨w.heap.size + 1, 0, none⟩)) true ty).run Try.prog wr = .ok (.tuple #[.bool true, .int .i64 k, .int .i32 110]) (wr.iterAt (w.heap.size + 1) (strB l) (k + 1)) := fun ty => next_letter wr _ l k HKL.out HT.out hz (by omega) ty
        have HB2 : Hid (Below w.heap.size w (wr.iterAt (w.heap.size + 1) (strB l) (k + 1))) := Lib.below_iterAt HB.out (by omega) _ _
        have HT2 : Hid ((wr.iterAt (w.heap.size + 1) (strB l) (k + 1)).heap[w.heap.size + 1]? = some (.stringIter (strB l) (k + 1))) := Lib.iterAt_heap _ _ _ _ _ HT.out
        have HF2 : Hid (FillI (wr.iterAt (w.heap.size + 1) (strB l) (k + 1)) w.heap.size 4 (l.map numL) k) := HF.out.block (Lib.iterAt_other _ _ _ _ _ (by omega)) (by rw [Lib.iterAt_size]; exact Nat.le_refl _)
        rw [hc2] at HN
        have HC1 : Hid (isL (By.intAt l k) = true) := hc1
        clear hz hc1 hc2
        have hQ : numOfR 110 = .tuple #[.int .i64 (0), .bool true] := by simp [numOfR]
        go_wp2_with fail
        refine (numberOf_any _ _).mono ?_
        rintro e w2 ⟨rfl, hb2⟩
        rw [hQ]
        have HB3 : Hid (Below w.heap.size w w2) := HB2.out.trans (hb2.mono HB2.out.size)
        have hs2 : w.heap.size + 1 < (wr.iterAt (w.heap.size + 1) (strB l) (k + 1)).heap.size := by rw [Lib.iterAt_size]; exact hsw
        have HT3 : Hid (w2.heap[w.heap.size + 1]? = some (.stringIter (strB l) (k + 1))) := (hb2.block _ hs2).trans HT2.out
        have HF3 : Hid (FillI w2 w.heap.size 4 (l.map numL) k) := HF2.out.block (hb2.block _ (by omega)) hb2.size
        obtain ⟨v, hv⟩ := Option.isSome_iff_exists.1 (HF3.out.2.1 k hlt).1
        have hfz := (HF3.out.2.1 k hlt).2
        have HP : Hid (FillI (w2.setCell ⟨w.heap.size, k, none⟩ (.int .i64 (0))) w.heap.size 4 (l.map numL) (k + 1)) := by have := HF3.out.put hlt; rw [HN.out] at this; exact this
        clear hb2 hs2 hQ hnx HB2 HT2 HF2
        go_wp2
        go_roundw
        case rel => exact ⟨k + 1, by omega, HB3.out.setCell (p := ⟨w.heap.size, k, none⟩) (Nat.le_refl _) _, (Below.heap_setCell _ _ _ _ (by simp)).trans HT3.out, HP.out, fun j hj => by
          by_cases e : j < k
          · exact HA.out j e
          · rw [show j = k by omega]; exact HC1.out⟩
        case measure =>
          rw [iterPos_of HT.out, iterPos_of ((Below.heap_setCell w2 ⟨w.heap.size, k, none⟩ _ (w.heap.size + 1) (by simp)).trans HT3.out)]
          omega
      · have hnx : ∀ ty, (Instr.next (.pointer (some ⟨w.heap.size + 1, 0, none⟩)) true ty).run Try.prog wr = .ok (.tuple #[.bool true, .int .i64 k, .int .i32 121]) (wr.iterAt (w.heap.size + 1) (strB l) (k + 1)) := fun ty => next_letter wr _ l k HKL.out HT.out hz (by omega) ty
        have HB2 : Hid (Below w.heap.size w (wr.iterAt (w.heap.size + 1) (strB l) (k + 1))) := Lib.below_iterAt HB.out (by omega) _ _
        have HT2 : Hid ((wr.iterAt (w.heap.size + 1) (strB l) (k + 1)).heap[w.heap.size + 1]? = some (.stringIter (strB l) (k + 1))) := Lib.iterAt_heap _ _ _ _ _ HT.out
        have HF2 : Hid (FillI (wr.iterAt (w.heap.size + 1) (strB l) (k + 1)) w.heap.size 4 (l.map numL) k) := HF.out.block (Lib.iterAt_other _ _ _ _ _ (by omega)) (by rw [Lib.iterAt_size]; exact Nat.le_refl _)
        rw [hc2] at HN
        have HC1 : Hid (isL (By.intAt l k) = true) := hc1
        clear hz hc1 hc2
        have hQ : numOfR 121 = .tuple #[.int .i64 (1), .bool true] := by simp [numOfR]
        go_wp2_with fail
        refine (numberOf_any _ _).mono ?_
        rintro e w2 ⟨rfl, hb2⟩
        rw [hQ]
        have HB3 : Hid (Below w.heap.size w w2) := HB2.out.trans (hb2.mono HB2.out.size)
        have hs2 : w.heap.size + 1 < (wr.iterAt (w.heap.size + 1) (strB l) (k + 1)).heap.size := by rw [Lib.iterAt_size]; exact hsw
        have HT3 : Hid (w2.heap[w.heap.size + 1]? = some (.stringIter (strB l) (k + 1))) := (hb2.block _ hs2).trans HT2.out
        have HF3 : Hid (FillI w2 w.heap.size 4 (l.map numL) k) := HF2.out.block (hb2.block _ (by omega)) hb2.size
        obtain ⟨v, hv⟩ := Option.isSome_iff_exists.1 (HF3.out.2.1 k hlt).1
        have hfz := (HF3.out.2.1 k hlt).2
        have HP : Hid (FillI (w2.setCell ⟨w.heap.size, k, none⟩ (.int .i64 (1))) w.heap.size 4 (l.map numL) (k + 1)) := by have := HF3.out.put hlt; rw [HN.out] at this; exact this
        clear hb2 hs2 hQ hnx HB2 HT2 HF2
        go_wp2
        go_roundw
        case rel => exact ⟨k + 1, by omega, HB3.out.setCell (p := ⟨w.heap.size, k, none⟩) (Nat.le_refl _) _, (Below.heap_setCell _ _ _ _ (by simp)).trans HT3.out, HP.out, fun j hj => by
          by_cases e : j < k
          · exact HA.out j e
          · rw [show j = k by omega]; exact HC1.out⟩
        case measure =>
          rw [iterPos_of HT.out, iterPos_of ((Below.heap_setCell w2 ⟨w.heap.size, k, none⟩ _ (w.heap.size + 1) (by simp)).trans HT3.out)]
          omega
      · have hnx : ∀ ty, (Instr.next (.pointer (some ⟨w.heap.size + 1, 0, none⟩)) true ty).run Try.prog wr = .ok (.tuple #[.bool true, .int .i64 k, .int .i32 (Utf8.decode (strB l) k).1]) (wr.iterAt (w.heap.size + 1) (strB l) (k + (Utf8.decode (strB l) k).2)) := fun ty => Lib.run_next_any_at (P := Try.prog) wr _ (strB l) k ty HT.out (by rw [HSZ.out]; exact hlt)
        have HQ : Hid (numOfR ((Utf8.decode (strB l) k).1 : Int) = .tuple #[.int .i64 0, .bool false]) := numOfR_no (bad_rune HKL.out hc)
        have HR : Hid (readOk l = false) := read_no HKL.out hc
        have HB2 : Hid (Below w.heap.size w (wr.iterAt (w.heap.size + 1) (strB l) (k + (Utf8.decode (strB l) k).2))) := Lib.below_iterAt HB.out (by omega) _ _
        clear hc
        generalize ((Utf8.decode (strB l) k).1 : Int) = z at hnx HQ
        generalize (Utf8.decode (strB l) k).2 = n at hnx HB2
        go_wp2_with fail
        refine (numberOf_any _ _).mono ?_
        rintro e w2 ⟨rfl, hb2⟩
        rw [HQ.out]
        have HB3 : Hid (Below w.heap.size w w2) := HB2.out.trans (hb2.mono HB2.out.size)
        clear hb2 hnx
        go_wp2
        go_ret2
        refine ⟨.slice none 0 0, by rw [HR.out]; rfl, ?_, HB3.out⟩
        rw [readV, HR.out]; exact OwnI.nil _ _
    · have hk4 : k = 4 := by omega
      subst hk4
      have hnx : ∀ ty, (Instr.next (.pointer (some ⟨w.heap.size + 1, 0, none⟩)) true ty).run Try.prog wr = .ok (.tuple #[.bool false]) wr := fun ty => Lib.run_next_end_at (P := Try.prog) wr _ (strB l) 4 ty HT.out (by rw [HSZ.out]; omega)
      have HQ : Hid (readOk l = true) := by
        show readOk l = true
        have := read_all (l := l) (fun j hj => HA.out j (by rw [HL.out] at hj; exact hj))
        rw [this]; simp [HL.out]
      have c0 := HF.out.2.2 0 (by omega)
      have c1 := HF.out.2.2 1 (by omega)
      have c2 := HF.out.2.2 2 (by omega)
      have c3 := HF.out.2.2 3 (by omega)
      have HM : Hid (l.map numL = [intAt (l.map numL) 0, intAt (l.map numL) 1, intAt (l.map numL) 2, intAt (l.map numL) 3]) := by
        have h4 := HML.out
        generalize l.map numL = m at h4
        match m, h4 with
        | [a, b, c, d], _ => rfl
      generalize intAt (l.map numL) 0 = x0 at c0 HM
      generalize intAt (l.map numL) 1 = x1 at c1 HM
      generalize intAt (l.map numL) 2 = x2 at c2 HM
      generalize intAt (l.map numL) 3 = x3 at c3 HM
      have HN : Hid (∀ W, Calls Try.prog 33 #[vec x0 x1 x2 x3] W fun e w' => ∃ x, e = .returned x ∧ OwnI W.heap.size w' x [x0, x1, x2, x3] ∧ Below W.heap.size W w') := fun W => numbers_any x0 x1 x2 x3 W
      go_wp2_with fail
      refine (HN.out _).mono ?_
      rintro e w2 ⟨x, rfl, ho, hb2⟩
      have HB2 : Hid (Below w.heap.size w w2) := HB.out.trans (hb2.mono HB.out.size)
      have HO : Hid (OwnI w.heap.size w2 x [x0, x1, x2, x3]) := ho.mono HB.out.size
      clear ho hb2 hnx c0 c1 c2 c3
      go_wp2
      go_ret2
      refine ⟨x, by rw [HQ.out]; rfl, ?_, HB2.out⟩
      rw [readV, HQ.out, if_pos rfl, HM.out]; exact HO.out

theorem read_len {l : List UInt8} (h : ¬ l.length = 4) : readOk l = false := by simp [readOk, h]
set_option maxHeartbeats 1000000 in
theorem iRead_any (x : Value) (l : List UInt8) (w : World) (hl : l.length ≤ 1048576) (h : By.IsI w x l) :
    Calls Try.prog 21 #[x] w fun e w' => ∃ u, e = .returned (.tuple #[u, .bool (readOk l)]) ∧ OwnI w.heap.size w' u (readV l) ∧ Below w.heap.size w w' := by
  obtain ⟨a, cap, rfl, h1, h2, h⟩ := h
  by_cases h4 : l.length = 4
  · obtain ⟨b, off, rfl, hI⟩ := h.resolve_left (by rintro rfl; simp at h4)
    have := iRead_four b off cap l w h4 hI
    rwa [← h4] at this
  · have h5 : ¬ (l.length : Int) = 4 := by omega
    have h6 : ((l.length : Int) != 4) = true := by simp [h5]
    have HR : Hid (readOk l = false) := read_len h4
    clear h h1 h2 h4
    go_enter Try.func21, Try.ntmps21
    go_wp2
    go_ret2
    refine ⟨.slice none 0 0, by rw [HR.out]; rfl, ?_, Below.refl _ _⟩
    rw [readV, HR.out]; exact OwnI.nil _ _
end Go.Proofs.Ytofbholpggkjcaa

/- How a list of numbers that came in is read. -/
namespace Go.Proofs.Ytofbholpggkjcaa
open Go.ChangeShapes Go.WideShapes Go.ChangeAt Go.RowKit

theorem own : ownKnob Try.prog.godebug = none := by kernel_rfl
theorem laidOut : laidOutB Try.prog = true := by kernel_rfl
theorem cells3 : Try.prog.cellsOf 3 = 1 := by kernel_rfl
theorem add_plain (b off n : Nat) : (⟨b, off, none⟩ : Addr).add n = ⟨b, off + n, none⟩ := by
  unfold Addr.add
  split <;> simp_all
theorem ints_list {w : World} {b off : Nat} : ∀ n, (∀ i, i < n → ∃ z : Int, w.cell? ⟨b, off + i, none⟩ = some (.int .i64 z)) → ∃ l : List Int, l.length = n ∧ ∀ i, i < n → w.cell? ⟨b, off + i, none⟩ = some (.int .i64 (intAt l i))
  | 0, _ => ⟨[], rfl, fun i hi => by omega⟩
  | n + 1, h => by
    obtain ⟨l, hl, hi⟩ := ints_list n (fun i hi => h i (by omega))
    obtain ⟨e, he⟩ := h n (by omega)
    refine ⟨l ++ [e], by simp [hl], fun i hi' => ?_⟩
    by_cases hin : i < n
    · have : intAt (l ++ [e]) i = intAt l i := by unfold intAt; simp [List.getElem?_append_left (by omega : i < l.length)]
      rw [this]; exact hi i hin
    · have : intAt (l ++ [e]) i = e := by unfold intAt; simp [show i = l.length by omega]
      rw [this, show i = n by omega]; exact he
set_option maxRecDepth 100000 in
theorem open_ints' {H : Type} {enc : TypeId × Value → H} {w : World} {b0 : Nat} {spare : Nat → Bool} {held : Bool} {r : Reach} {v : Value} {d : DataW H} {p : List MemPlace}
    (hv : Value.okWide Try.prog w r b0 22 v) (h : DataW.Trod enc Try.prog w 0 spare held 22 v d p) : ∃ l : List Int, IsI w v l := by
  obtain ⟨a0, len, cap, rfl⟩ := okWide_slice Try.underlying22 hv
  obtain ⟨fuel, hf⟩ := h
  rcases DataW.trod_slice Try.underlying22 hf with ⟨hcs, _⟩ | ⟨a, len', cap', elems, rest, n, _, hcs, _, hb, hl, hm, hlen, hel, _, _⟩
  · simp [Value.cells] at hcs
    obtain ⟨rfl, rfl, rfl⟩ := hcs
    exact ⟨[], _, _, rfl, Nat.le_refl _, by unfold maxLen; omega, .inl rfl⟩
  · simp [Value.cells] at hcs
    obtain ⟨rfl, rfl, rfl⟩ := hcs
    by_cases h0 : len = 0
    · subst h0
      exact ⟨[], _, _, rfl, hl, hm, .inl rfl⟩
    · obtain ⟨b, off, spot⟩ := a
      have hs : spot = none := by
        have h1 := hel 0 (by omega)
        rw [cells3, List.getElem?_eq_getElem (by omega)] at h1
        obtain ⟨cs, hc, ht⟩ := Option.bind_eq_some_iff.1 h1
        obtain ⟨t, rfl, _⟩ := DataW.trod_int Try.underlying3 ht
        have c0 := (World.cells?_some hc).2.2 0 (by omega)
        simpa [Addr.add] using World.cell?_spot c0
      subst hs
      have each : ∀ i, i < len → ∃ z : Int, w.cell? ⟨b, off + i, none⟩ = some (.int .i64 z) ∧ b < w.heap.size := by
        intro i hi
        have h1 := hel i hi
        rw [cells3, List.getElem?_eq_getElem (by omega), add_plain] at h1
        obtain ⟨cs, hc, ht⟩ := Option.bind_eq_some_iff.1 h1
        obtain ⟨t, rfl, _, hw⟩ := DataW.trod_int Try.underlying3 ht
        have hblk : b < w.heap.size := World.cells?_block hc (by omega)
        obtain ⟨_, _, hcell⟩ := World.cells?_some hc
        have h2 := hcell 0 (by omega)
        simp only [add_plain] at h2
        exact ⟨t, by simpa using h2, hblk⟩
      obtain ⟨_, _, hblk⟩ := each 0 (by omega)
      obtain ⟨l, rfl, hi⟩ := ints_list (w := w) (b := b) (off := off) len (fun i hi => by
        obtain ⟨e, he, _⟩ := each i hi
        exact ⟨e, he⟩)
      exact ⟨l, _, _, rfl, hl, hm, .inr ⟨b, off, rfl, hblk, hi⟩⟩
end Go.Proofs.Ytofbholpggkjcaa

/- How a list of numbers that came in is read. -/
namespace Go.Proofs.Ytofbholpggkjcaa.By
open Go.ChangeShapes Go.WideShapes Go.ChangeAt Go.RowKit Go.Proofs.Ytofbholpggkjcaa

theorem cells5 : Try.prog.cellsOf 5 = 1 := by kernel_rfl
theorem ints_list {w : World} {b off : Nat} : ∀ n, (∀ i, i < n → ∃ z : UInt8, w.cell? ⟨b, off + i, none⟩ = some (.int .u8 (z.toNat : Int))) → ∃ l : List UInt8, l.length = n ∧ ∀ i, i < n → w.cell? ⟨b, off + i, none⟩ = some (.int .u8 ((intAt l i).toNat : Int))
  | 0, _ => ⟨[], rfl, fun i hi => by omega⟩
  | n + 1, h => by
    obtain ⟨l, hl, hi⟩ := ints_list n (fun i hi => h i (by omega))
    obtain ⟨e, he⟩ := h n (by omega)
    refine ⟨l ++ [e], by simp [hl], fun i hi' => ?_⟩
    by_cases hin : i < n
    · have : intAt (l ++ [e]) i = intAt l i := by unfold intAt; simp [List.getElem?_append_left (by omega : i < l.length)]
      rw [this]; exact hi i hin
    · have : intAt (l ++ [e]) i = e := by unfold intAt; simp [show i = l.length by omega]
      rw [this, show i = n by omega]; exact he
set_option maxRecDepth 100000 in
theorem open_bytes' {H : Type} {enc : TypeId × Value → H} {w : World} {b0 : Nat} {spare : Nat → Bool} {held : Bool} {r : Reach} {v : Value} {d : DataW H} {p : List MemPlace}
    (hv : Value.okWide Try.prog w r b0 26 v) (h : DataW.Trod enc Try.prog w 0 spare held 26 v d p) : ∃ l : List UInt8, IsI w v l := by
  obtain ⟨a0, len, cap, rfl⟩ := okWide_slice Try.underlying26 hv
  obtain ⟨fuel, hf⟩ := h
  rcases DataW.trod_slice Try.underlying26 hf with ⟨hcs, _⟩ | ⟨a, len', cap', elems, rest, n, _, hcs, _, hb, hl, hm, hlen, hel, _, _⟩
  · simp [Value.cells] at hcs
    obtain ⟨rfl, rfl, rfl⟩ := hcs
    exact ⟨[], _, _, rfl, Nat.le_refl _, by unfold maxLen; omega, .inl rfl⟩
  · simp [Value.cells] at hcs
    obtain ⟨rfl, rfl, rfl⟩ := hcs
    by_cases h0 : len = 0
    · subst h0
      exact ⟨[], _, _, rfl, hl, hm, .inl rfl⟩
    · obtain ⟨b, off, spot⟩ := a
      have hs : spot = none := by
        have h1 := hel 0 (by omega)
        rw [cells5, List.getElem?_eq_getElem (by omega)] at h1
        obtain ⟨cs, hc, ht⟩ := Option.bind_eq_some_iff.1 h1
        obtain ⟨t, rfl, _⟩ := DataW.trod_int Try.underlying5 ht
        have c0 := (World.cells?_some hc).2.2 0 (by omega)
        simpa [Addr.add] using World.cell?_spot c0
      subst hs
      have each : ∀ i, i < len → ∃ z : UInt8, w.cell? ⟨b, off + i, none⟩ = some (.int .u8 (z.toNat : Int)) ∧ b < w.heap.size := by
        intro i hi
        have h1 := hel i hi
        rw [cells5, List.getElem?_eq_getElem (by omega), add_plain] at h1
        obtain ⟨cs, hc, ht⟩ := Option.bind_eq_some_iff.1 h1
        obtain ⟨t, rfl, _, hw⟩ := DataW.trod_int Try.underlying5 ht
        have hblk : b < w.heap.size := World.cells?_block hc (by omega)
        obtain ⟨_, _, hcell⟩ := World.cells?_some hc
        have h2 := hcell 0 (by omega)
        simp only [add_plain] at h2
        have hmin : IntKind.u8.min = 0 := rfl
        have hmax : IntKind.u8.max = 255 := rfl
        simp only [Lit.wf, Bool.and_eq_true, decide_eq_true_eq] at hw
        refine ⟨UInt8.ofNat t.toNat, ?_, hblk⟩
        rw [show (((UInt8.ofNat t.toNat).toNat : Nat) : Int) = t from by rw [UInt8.toNat_ofNat']; omega]
        simpa using h2
      obtain ⟨_, _, hblk⟩ := each 0 (by omega)
      obtain ⟨l, rfl, hi⟩ := ints_list (w := w) (b := b) (off := off) len (fun i hi => by
        obtain ⟨e, he, _⟩ := each i hi
        exact ⟨e, he⟩)
      exact ⟨l, _, _, rfl, hl, hm, .inr ⟨b, off, rfl, hblk, hi⟩⟩
end Go.Proofs.Ytofbholpggkjcaa.By

