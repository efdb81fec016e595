/- VText, VTextI, VOpen -/
import Derived.Test.YtofbholpggkjcaaExactVectorTextG02
import Derived.Test.YtofbholpggkjcaaExactVectorTextG03
import Derived.Test.YtofbholpggkjcaaExactVectorTextG00
import Derived.ProofKit
import Derived.ChangeOld
import Derived.OpenShut
import Derived.SizedLaws
/- Vectors: both VectorText. -/
namespace Go.Proofs.Ytofbholpggkjcaa
open Go.RowKit
def letB (z : Int) : UInt8 := if z = -1 then 63 else if z = 0 then 110 else 121
def textB (l : List Int) : List UInt8 := l.map letB
theorem byteCells_append (l l' : List UInt8) : By.intCells (l ++ l') = By.intCells l ++ By.intCells l' := by simp [By.intCells]
theorem take_next {l : List Int} {k : Nat} (h : k < l.length) {z : Int} (hz : z = intAt l k) : l.take (k + 1) = l.take k ++ [z] := by
  rw [List.take_add_one, hz]; simp [intAt, h]
theorem row_ge {B : Nat} {w : World} {e : TypeId} {v : Value} {n size : Nat} {xs : List Value} (h : w.ownsRow B e size v n xs) {r : Nat} (hr : v.ownBlock = some r) : B ≤ r := by
  obtain ⟨_, ⟨rfl, _⟩ | ⟨g, cap, cur, rfl, hg, _⟩⟩ := h
  · cases hr
  · cases hr; exact hg
set_option maxRecDepth 100000 in
set_option maxHeartbeats 2000000 in
theorem l8_any (b off cap : Nat) (l : List Int) (w : World) (hv : vok l = true) (hI : IntsAt w b off l) :
    Calls Try.prog 30 #[.slice none 0 0, .slice (some ⟨b, off, none⟩) 4 cap] w fun e w' => ∃ v, e = .returned v ∧ By.OwnI w.heap.size w' v (textB l) ∧ Below w.heap.size w w' := by
  have HI : Hid (IntsAt w b off l) := hI
  have HL : Hid (l.length = 4) := vok_len4 hv
  have HV : Hid (∀ j, j < 4 → -1 ≤ intAt l j ∧ intAt l j ≤ 1) := fun j hj => vok_at hv j hj
  obtain ⟨i0, hi, hz0, hz1, hz2⟩ := info_parts By.info5
  have s0 : ∀ w : World, (Instr.index 9 (.string ⟨#[63, 110, 121]⟩) (.int .i64 0)).run Try.prog w = .ok (.int .u8 63) w := fun _ => by kernel_rfl
  have s1 : ∀ w : World, (Instr.index 9 (.string ⟨#[63, 110, 121]⟩) (.int .i64 1)).run Try.prog w = .ok (.int .u8 110) w := fun _ => by kernel_rfl
  have s2 : ∀ w : World, (Instr.index 9 (.string ⟨#[63, 110, 121]⟩) (.int .i64 2)).run Try.prog w = .ok (.int .u8 121) w := fun _ => by kernel_rfl
  clear hI hv
  go_enter Try.func30, Try.ntmps30
  go_wp2
  go_loopw [0, 5] (fun o i wr => ∃ (k : Nat) (v : Value), k ≤ 4 ∧ v = o ∧ i = .int .i64 k ∧ wr.ownsRow w.heap.size 5 1 o k (By.intCells (textB (l.take k))) ∧ Below w.heap.size w wr) (fun _ i _ => 4 - (intOf i).toNat)
  case atStart => exact ⟨0, _, Nat.zero_le _, rfl, rfl, World.ownsRow_nil w _ 5 1, Below.refl _ _⟩
  case round =>
    obtain ⟨k, o, hk, rfl, rfl, hR, hb⟩ := hrel
    have HR : Hid (wr.ownsRow w.heap.size 5 1 o k (By.intCells (textB (l.take k)))) := hR
    have HB : Hid (Below w.heap.size w wr) := hb
    have hs : w.heap.size ≤ wr.heap.size := hb.size
    by_cases hlt : k < 4
    · have hki : (k : Int) < 4 := by omega
      have f0 := (hb.cell (p := ⟨b, off + k, none⟩) HI.out.1).trans (HI.out.2 k (by rw [HL.out]; exact hlt))
      have hx := HV.out k hlt
      obtain ⟨x, hxe⟩ : ∃ x, x = intAt l k := ⟨_, rfl⟩
      have HN : Hid (l.take (k + 1) = l.take k ++ [x]) := take_next (by rw [HL.out]; exact hlt) hxe
      rw [← hxe] at f0 hx
      clear hR hb hxe
      have hx3 : x = -1 ∨ x = 0 ∨ x = 1 := by omega
      clear hx
      rcases hx3 with rfl | rfl | rfl
      · go_wp2_with (at_builtin; refine wpList_append_own _ rfl _ _ 26 rfl w.heap.size 5 i0 (.int .u8 0) 1 1 Try.underlying26 hi hz0 hz1 hz2 rfl (by decide) o _ _ rfl (HR.out.alloc _) ⟨wr.heap.size, 0, none⟩ 1 1 [.int .u8 63] rfl rfl (fun j u hu => by (match j, hu with | 0, hu => simp at hu; subst hu; simp [Addr.add] | (j + 1), hu => simp at hu)) (fun u hu => by simp at hu; subst hu; rfl) (by unfold maxLen; omega) (by omega) (by simp; omega) ?_; intro v' w2 hown hgrow hnil)
        go_roundw
        case rel =>
          refine ⟨k + 1, _, by omega, rfl, by go_num, ?_, (HB.out.alloc hs _).grown hgrow (by simp; omega) (fun j e => row_ge HR.out e)⟩
          rw [HN.out, show textB (l.take k ++ [-1]) = textB (l.take k) ++ [63] by simp [textB, letB], byteCells_append]
          exact hown
        case measure => simp [intOf]; omega
      · go_wp2_with (at_builtin; refine wpList_append_own _ rfl _ _ 26 rfl w.heap.size 5 i0 (.int .u8 0) 1 1 Try.underlying26 hi hz0 hz1 hz2 rfl (by decide) o _ _ rfl (HR.out.alloc _) ⟨wr.heap.size, 0, none⟩ 1 1 [.int .u8 110] rfl rfl (fun j u hu => by (match j, hu with | 0, hu => simp at hu; subst hu; simp [Addr.add] | (j + 1), hu => simp at hu)) (fun u hu => by simp at hu; subst hu; rfl) (by unfold maxLen; omega) (by omega) (by simp; omega) ?_; intro v' w2 hown hgrow hnil)
        go_roundw
        case rel =>
          refine ⟨k + 1, _, by omega, rfl, by go_num, ?_, (HB.out.alloc hs _).grown hgrow (by simp; omega) (fun j e => row_ge HR.out e)⟩
          rw [HN.out, show textB (l.take k ++ [0]) = textB (l.take k) ++ [110] by simp [textB, letB], byteCells_append]
          exact hown
        case measure => simp [intOf]; omega
      · go_wp2_with (at_builtin; refine wpList_append_own _ rfl _ _ 26 rfl w.heap.size 5 i0 (.int .u8 0) 1 1 Try.underlying26 hi hz0 hz1 hz2 rfl (by decide) o _ _ rfl (HR.out.alloc _) ⟨wr.heap.size, 0, none⟩ 1 1 [.int .u8 121] rfl rfl (fun j u hu => by (match j, hu with | 0, hu => simp at hu; subst hu; simp [Addr.add] | (j + 1), hu => simp at hu)) (fun u hu => by simp at hu; subst hu; rfl) (by unfold maxLen; omega) (by omega) (by simp; omega) ?_; intro v' w2 hown hgrow hnil)
        go_roundw
        case rel =>
          refine ⟨k + 1, _, by omega, rfl, by go_num, ?_, (HB.out.alloc hs _).grown hgrow (by simp; omega) (fun j e => row_ge HR.out e)⟩
          rw [HN.out, show textB (l.take k ++ [1]) = textB (l.take k) ++ [121] by simp [textB, letB], byteCells_append]
          exact hown
        case measure => simp [intOf]; omega
    · clear hR hb
      go_wp2
      go_ret
      obtain rfl : k = 4 := by omega
      have e4 : l.take 4 = l := by rw [← HL.out]; exact List.take_length
      refine ⟨_, rfl, By.OwnI.of_row ?_, HB.out⟩
      have := HR.out
      rw [e4] at this
      rw [show (textB l).length = 4 by simp [textB, HL.out]]
      exact this

set_option maxHeartbeats 1000000 in
theorem sText_any (x : Value) (l : List Int) (w : World) (hl : l.length ≤ 4611686018427387904) (h : IsI w x l) :
    Calls Try.prog 13 #[x] w fun e w' => ∃ v, e = .returned v ∧ By.OwnI w.heap.size w' v (if vok l = true then textB l else []) ∧ Below w.heap.size w w' := by
  have H : Hid (Calls Try.prog 9 #[x] w fun e w' => e = .returned (.bool (vok l)) ∧ w' = w) := sVok_any x l w hl h
  cases hv : vok l with
  | false =>
    rw [hv] at H
    clear h
    go_enter Try.func13, Try.ntmps13
    go_wp2_with fail
    refine H.out.mono ?_
    rintro e w1 ⟨rfl, hw⟩
    obtain rfl := hw.symm
    go_wp2
    go_ret
    exact ⟨_, rfl, By.OwnI.nil _ _, Below.refl _ _⟩
  | true =>
    rw [hv] at H
    obtain ⟨b, off, cap, rfl, hI⟩ := h.four (vok_len4 hv)
    have M : Hid (Calls Try.prog 30 #[.slice none 0 0, .slice (some ⟨b, off, none⟩) 4 cap] w fun e w' => ∃ v, e = .returned v ∧ By.OwnI w.heap.size w' v (textB l) ∧ Below w.heap.size w w') := l8_any b off cap l w hv hI
    clear h hI
    go_enter Try.func13, Try.ntmps13
    go_wp2_with fail
    refine H.out.mono ?_
    rintro e w1 ⟨rfl, hw⟩
    obtain rfl := hw.symm
    go_wp2_with fail
    refine M.out.mono ?_
    rintro e w1 ⟨v, rfl, ho, hb⟩
    go_wp2
    go_ret
    exact ⟨_, rfl, ho, hb⟩
end Go.Proofs.Ytofbholpggkjcaa

/- Vectors: the program's VectorText. -/
namespace Go.Proofs.Ytofbholpggkjcaa
open Go.RowKit
theorem letB_u8 (z : Int) : ((letB z).toNat : Int) = if z = -1 then 63 else if z = 0 then 110 else 121 := by
  unfold letB; split
  · rfl
  · split <;> rfl
set_option maxRecDepth 100000 in
set_option maxHeartbeats 4000000 in
theorem text_any (a0 a1 a2 a3 : Int) (h0 : -1 ≤ a0 ∧ a0 ≤ 1) (h1 : -1 ≤ a1 ∧ a1 ≤ 1) (h2 : -1 ≤ a2 ∧ a2 ≤ 1) (h3 : -1 ≤ a3 ∧ a3 ≤ 1) (w : World) :
    Calls Try.prog 31 #[vec a0 a1 a2 a3] w fun e w' => ∃ v, e = .returned v ∧ By.OwnI w.heap.size w' v (textB [a0, a1, a2, a3]) ∧ Below w.heap.size w w' := by
  have c0 : a0 = -1 ∨ a0 = 0 ∨ a0 = 1 := by omega
  have c1 : a1 = -1 ∨ a1 = 0 ∨ a1 = 1 := by omega
  have c2 : a2 = -1 ∨ a2 = 0 ∨ a2 = 1 := by omega
  have c3 : a3 = -1 ∨ a3 = 0 ∨ a3 = 1 := by omega
  have C0 : Hid (a0 = -1 ∨ a0 = 0 ∨ a0 = 1) := c0
  have C1 : Hid (a1 = -1 ∨ a1 = 0 ∨ a1 = 1) := c1
  have C2 : Hid (a2 = -1 ∨ a2 = 0 ∨ a2 = 1) := c2
  have C3 : Hid (a3 = -1 ∨ a3 = 0 ∨ a3 = 1) := c3
  clear c0 c1 c2 c3 h0 h1 h2 h3
  obtain ⟨i0, hi, hz0, hz1, hz2⟩ := info_parts By.info5
  have j0 : ∀ w : World, (Instr.index 37 (.agg #[.int .i64 a0, .int .i64 a1, .int .i64 a2, .int .i64 a3]) (.int .i64 0)).run Try.prog w = .ok (.int .i64 a0) w := fun _ => by kernel_rfl
  have j1 : ∀ w : World, (Instr.index 37 (.agg #[.int .i64 a0, .int .i64 a1, .int .i64 a2, .int .i64 a3]) (.int .i64 1)).run Try.prog w = .ok (.int .i64 a1) w := fun _ => by kernel_rfl
  have j2 : ∀ w : World, (Instr.index 37 (.agg #[.int .i64 a0, .int .i64 a1, .int .i64 a2, .int .i64 a3]) (.int .i64 2)).run Try.prog w = .ok (.int .i64 a2) w := fun _ => by kernel_rfl
  have j3 : ∀ w : World, (Instr.index 37 (.agg #[.int .i64 a0, .int .i64 a1, .int .i64 a2, .int .i64 a3]) (.int .i64 3)).run Try.prog w = .ok (.int .i64 a3) w := fun _ => by kernel_rfl
  have s0 : ∀ w : World, (Instr.index 9 (.string ⟨#[63, 110, 121]⟩) (.int .i64 0)).run Try.prog w = .ok (.int .u8 63) w := fun _ => by kernel_rfl
  have s1 : ∀ w : World, (Instr.index 9 (.string ⟨#[63, 110, 121]⟩) (.int .i64 1)).run Try.prog w = .ok (.int .u8 110) w := fun _ => by kernel_rfl
  have s2 : ∀ w : World, (Instr.index 9 (.string ⟨#[63, 110, 121]⟩) (.int .i64 2)).run Try.prog w = .ok (.int .u8 121) w := fun _ => by kernel_rfl
  have HB0 : Hid (Below w.heap.size w (w.alloc (cell4 a0 a1 a2 a3))) := (Below.refl _ w).alloc (Nat.le_refl _) _
  have HV0 : Hid (V4 (w.alloc (cell4 a0 a1 a2 a3)) w.heap.size a0 a1 a2 a3) := V4.new _ _ _ _ _
  have hsz : (w.alloc (cell4 a0 a1 a2 a3)).heap.size = w.heap.size + 1 := by simp
  go_enter Try.func31, Try.ntmps31
  go_wp2_with (at_make; refine wpList_make_full _ rfl _ _ 26 rfl (w.heap.size + 1) 5 i0 _ 1 Try.underlying26 hi hz0 hz1 .i64 .i64 4 4 4 rfl rfl rfl rfl (by rw [hz2]; omega) (by unfold maxLen; omega) (by simp) ?_; intro w1 hown hgrow; have hbx := (Below.refl (w.heap.size + 1) _).grown hgrow (by simp) (fun k e => by cases e); have HB1 : Hid (Below w.heap.size w w1) := HB0.out.trans (hbx.mono (by omega)); have HF1 : Hid (By.FillI w1 (w.heap.size + 1) 4 (textB [a0, a1, a2, a3]) 0) := By.FillI.made (z := (madeCells (Value.int IntKind.u8 0).cells (4 * 1)).toList) (by simpa using hown); obtain ⟨v0, v1, v2, v3, _⟩ := (HV0.out.keep hbx (by omega)).cells; clear hown hgrow hbx)
  clear v0 v1 v2 v3
  go_loopw [8] (fun i wr => ∃ k : Nat, k ≤ 4 ∧ i = .int .i64 k ∧ Below w.heap.size w wr ∧ By.FillI wr (w.heap.size + 1) 4 (textB [a0, a1, a2, a3]) k) (fun i _ => 4 - (intOf i).toNat)
  case atStart => exact ⟨0, by omega, rfl, HB1.out, HF1.out⟩
  case round =>
    clear HB1 HF1 HB0 HV0 hsz hi hz0 hz1 hz2
    obtain ⟨k, hk, rfl, hB, hR⟩ := hrel
    have HB : Hid (Below w.heap.size w wr) := hB
    have HR : Hid (By.FillI wr (w.heap.size + 1) 4 (textB [a0, a1, a2, a3]) k) := hR
    have hk4 : k = 0 ∨ k = 1 ∨ k = 2 ∨ k = 3 ∨ k = 4 := by omega
    clear hB hR hk
    rcases hk4 with rfl | rfl | rfl | rfl | rfl
    · obtain ⟨v, hv⟩ := Option.isSome_iff_exists.1 (HR.out.2.1 0 (by omega)).1
      have hf := (HR.out.2.1 0 (by omega)).2
      have HP : Hid (By.FillI (wr.setCell ⟨w.heap.size + 1, 0, none⟩ (.int .u8 ((letB a0).toNat : Int))) (w.heap.size + 1) 4 (textB [a0, a1, a2, a3]) 1) := HR.out.put (k := 0) (by omega)
      rw [letB_u8] at HP
      rcases C0.out with rfl | rfl | rfl
      · clear C0 C1 C2 C3
        go_wp2
        go_roundw
        case rel => exact ⟨1, by omega, rfl, HB.out.setCell (p := ⟨w.heap.size + 1, 0, none⟩) (by simp) _, HP.out⟩
        case measure => simp [intOf]
      · clear C0 C1 C2 C3
        go_wp2
        go_roundw
        case rel => exact ⟨1, by omega, rfl, HB.out.setCell (p := ⟨w.heap.size + 1, 0, none⟩) (by simp) _, HP.out⟩
        case measure => simp [intOf]
      · clear C0 C1 C2 C3
        go_wp2
        go_roundw
        case rel => exact ⟨1, by omega, rfl, HB.out.setCell (p := ⟨w.heap.size + 1, 0, none⟩) (by simp) _, HP.out⟩
        case measure => simp [intOf]
    · obtain ⟨v, hv⟩ := Option.isSome_iff_exists.1 (HR.out.2.1 1 (by omega)).1
      have hf := (HR.out.2.1 1 (by omega)).2
      have HP : Hid (By.FillI (wr.setCell ⟨w.heap.size + 1, 1, none⟩ (.int .u8 ((letB a1).toNat : Int))) (w.heap.size + 1) 4 (textB [a0, a1, a2, a3]) 2) := HR.out.put (k := 1) (by omega)
      rw [letB_u8] at HP
      rcases C1.out with rfl | rfl | rfl
      · clear C0 C1 C2 C3
        go_wp2
        go_roundw
        case rel => exact ⟨2, by omega, rfl, HB.out.setCell (p := ⟨w.heap.size + 1, 1, none⟩) (by simp) _, HP.out⟩
        case measure => simp [intOf]
      · clear C0 C1 C2 C3
        go_wp2
        go_roundw
        case rel => exact ⟨2, by omega, rfl, HB.out.setCell (p := ⟨w.heap.size + 1, 1, none⟩) (by simp) _, HP.out⟩
        case measure => simp [intOf]
      · clear C0 C1 C2 C3
        go_wp2
        go_roundw
        case rel => exact ⟨2, by omega, rfl, HB.out.setCell (p := ⟨w.heap.size + 1, 1, none⟩) (by simp) _, HP.out⟩
        case measure => simp [intOf]
    · obtain ⟨v, hv⟩ := Option.isSome_iff_exists.1 (HR.out.2.1 2 (by omega)).1
      have hf := (HR.out.2.1 2 (by omega)).2
      have HP : Hid (By.FillI (wr.setCell ⟨w.heap.size + 1, 2, none⟩ (.int .u8 ((letB a2).toNat : Int))) (w.heap.size + 1) 4 (textB [a0, a1, a2, a3]) 3) := HR.out.put (k := 2) (by omega)
      rw [letB_u8] at HP
      rcases C2.out with rfl | rfl | rfl
      · clear C0 C1 C2 C3
        go_wp2
        go_roundw
        case rel => exact ⟨3, by omega, rfl, HB.out.setCell (p := ⟨w.heap.size + 1, 2, none⟩) (by simp) _, HP.out⟩
        case measure => simp [intOf]
      · clear C0 C1 C2 C3
        go_wp2
        go_roundw
        case rel => exact ⟨3, by omega, rfl, HB.out.setCell (p := ⟨w.heap.size + 1, 2, none⟩) (by simp) _, HP.out⟩
        case measure => simp [intOf]
      · clear C0 C1 C2 C3
        go_wp2
        go_roundw
        case rel => exact ⟨3, by omega, rfl, HB.out.setCell (p := ⟨w.heap.size + 1, 2, none⟩) (by simp) _, HP.out⟩
        case measure => simp [intOf]
    · obtain ⟨v, hv⟩ := Option.isSome_iff_exists.1 (HR.out.2.1 3 (by omega)).1
      have hf := (HR.out.2.1 3 (by omega)).2
      have HP : Hid (By.FillI (wr.setCell ⟨w.heap.size + 1, 3, none⟩ (.int .u8 ((letB a3).toNat : Int))) (w.heap.size + 1) 4 (textB [a0, a1, a2, a3]) 4) := HR.out.put (k := 3) (by omega)
      rw [letB_u8] at HP
      rcases C3.out with rfl | rfl | rfl
      · clear C0 C1 C2 C3
        go_wp2
        go_roundw
        case rel => exact ⟨4, by omega, rfl, HB.out.setCell (p := ⟨w.heap.size + 1, 3, none⟩) (by simp) _, HP.out⟩
        case measure => simp [intOf]
      · clear C0 C1 C2 C3
        go_wp2
        go_roundw
        case rel => exact ⟨4, by omega, rfl, HB.out.setCell (p := ⟨w.heap.size + 1, 3, none⟩) (by simp) _, HP.out⟩
        case measure => simp [intOf]
      · clear C0 C1 C2 C3
        go_wp2
        go_roundw
        case rel => exact ⟨4, by omega, rfl, HB.out.setCell (p := ⟨w.heap.size + 1, 3, none⟩) (by simp) _, HP.out⟩
        case measure => simp [intOf]
    · go_wp2
      go_ret
      exact ⟨_, rfl, (By.FillI.row (l := textB [a0, a1, a2, a3]) HR.out).own (by simp [textB, maxLen]) (by omega), HB.out⟩

set_option maxHeartbeats 1000000 in
theorem iText_any (x : Value) (l : List Int) (w : World) (hl : l.length ≤ 4611686018427387904) (h : IsI w x l) :
    Calls Try.prog 14 #[x] w fun e w' => ∃ v, e = .returned v ∧ By.OwnI w.heap.size w' v (if vok l = true then textB l else []) ∧ Below w.heap.size w w' := by
  have H := of_any x l w hl h
  cases hv : vok l with
  | false =>
    rw [hv, vec_no hv] at H
    go_enter Try.func14, Try.ntmps14
    go_wp2_with fail
    refine H.mono ?_
    rintro e w1 ⟨rfl, hb1⟩
    go_wp2
    go_ret
    exact ⟨_, rfl, By.OwnI.nil _ _, hb1.alloc hb1.size _⟩
  | true =>
    rw [hv] at H
    obtain ⟨a0, a1, a2, a3, rfl, g0, g1, g2, g3⟩ := vok_four hv
    rw [show vecOf [a0, a1, a2, a3] = vec a0 a1 a2 a3 by simp [vecOf, hv, intAt]] at H
    have M : Hid (∀ W, Calls Try.prog 31 #[vec a0 a1 a2 a3] W fun e w' => ∃ v, e = .returned v ∧ By.OwnI W.heap.size w' v (textB [a0, a1, a2, a3]) ∧ Below W.heap.size W w') := fun W => text_any a0 a1 a2 a3 g0 g1 g2 g3 W
    clear g0 g1 g2 g3 h
    go_enter Try.func14, Try.ntmps14
    go_wp2_with fail
    refine H.mono ?_
    rintro e w1 ⟨rfl, hb1⟩
    go_wp2_with fail
    refine (M.out _).mono ?_
    rintro e w2 ⟨v, rfl, ho, hb2⟩
    have hz := hb1.size
    go_wp2
    go_ret
    exact ⟨_, rfl, ho.mono (by simp; omega), (hb1.alloc hb1.size _).trans (hb2.mono (by simp; omega))⟩
end Go.Proofs.Ytofbholpggkjcaa

/- How a list of numbers that came in is read. -/
namespace Go.Proofs.Ytofbholpggkjcaa
open Go.ChangeShapes Go.WideShapes Go.ChangeAt Go.RowKit

theorem own : ownKnob Try.prog.godebug = none := by kernel_rfl
theorem laidOut : laidOutB Try.prog = true := by kernel_rfl
theorem cells3 : Try.prog.cellsOf 3 = 1 := by kernel_rfl
theorem add_plain (b off n : Nat) : (⟨b, off, none⟩ : Addr).add n = ⟨b, off + n, none⟩ := by
  unfold Addr.add
  split <;> simp_all
theorem ints_list {w : World} {b off : Nat} : ∀ n, (∀ i, i < n → ∃ z : Int, w.cell? ⟨b, off + i, none⟩ = some (.int .i64 z)) → ∃ l : List Int, l.length = n ∧ ∀ i, i < n → w.cell? ⟨b, off + i, none⟩ = some (.int .i64 (intAt l i))
  | 0, _ => ⟨[], rfl, fun i hi => by omega⟩
  | n + 1, h => by
    obtain ⟨l, hl, hi⟩ := ints_list n (fun i hi => h i (by omega))
    obtain ⟨e, he⟩ := h n (by omega)
    refine ⟨l ++ [e], by simp [hl], fun i hi' => ?_⟩
    by_cases hin : i < n
    · have : intAt (l ++ [e]) i = intAt l i := by unfold intAt; simp [List.getElem?_append_left (by omega : i < l.length)]
      rw [this]; exact hi i hin
    · have : intAt (l ++ [e]) i = e := by unfold intAt; simp [show i = l.length by omega]
      rw [this, show i = n by omega]; exact he
set_option maxRecDepth 100000 in
theorem open_ints' {H : Type} {enc : TypeId × Value → H} {w : World} {b0 : Nat} {spare : Nat → Bool} {held : Bool} {r : Reach} {v : Value} {d : DataW H} {p : List MemPlace}
    (hv : Value.okWide Try.prog w r b0 22 v) (h : DataW.Trod enc Try.prog w 0 spare held 22 v d p) : ∃ l : List Int, IsI w v l := by
  obtain ⟨a0, len, cap, rfl⟩ := okWide_slice Try.underlying22 hv
  obtain ⟨fuel, hf⟩ := h
  rcases DataW.trod_slice Try.underlying22 hf with ⟨hcs, _⟩ | ⟨a, len', cap', elems, rest, n, _, hcs, _, hb, hl, hm, hlen, hel, _, _⟩
  · simp [Value.cells] at hcs
    obtain ⟨rfl, rfl, rfl⟩ := hcs
    exact ⟨[], _, _, rfl, Nat.le_refl _, by unfold maxLen; omega, .inl rfl⟩
  · simp [Value.cells] at hcs
    obtain ⟨rfl, rfl, rfl⟩ := hcs
    by_cases h0 : len = 0
    · subst h0
      exact ⟨[], _, _, rfl, hl, hm, .inl rfl⟩
    · obtain ⟨b, off, spot⟩ := a
      have hs : spot = none := by
        have h1 := hel 0 (by omega)
        rw [cells3, List.getElem?_eq_getElem (by omega)] at h1
        obtain ⟨cs, hc, ht⟩ := Option.bind_eq_some_iff.1 h1
        obtain ⟨t, rfl, _⟩ := DataW.trod_int Try.underlying3 ht
        have c0 := (World.cells?_some hc).2.2 0 (by omega)
        simpa [Addr.add] using World.cell?_spot c0
      subst hs
      have each : ∀ i, i < len → ∃ z : Int, w.cell? ⟨b, off + i, none⟩ = some (.int .i64 z) ∧ b < w.heap.size := by
        intro i hi
        have h1 := hel i hi
        rw [cells3, List.getElem?_eq_getElem (by omega), add_plain] at h1
        obtain ⟨cs, hc, ht⟩ := Option.bind_eq_some_iff.1 h1
        obtain ⟨t, rfl, _, hw⟩ := DataW.trod_int Try.underlying3 ht
        have hblk : b < w.heap.size := World.cells?_block hc (by omega)
        obtain ⟨_, _, hcell⟩ := World.cells?_some hc
        have h2 := hcell 0 (by omega)
        simp only [add_plain] at h2
        exact ⟨t, by simpa using h2, hblk⟩
      obtain ⟨_, _, hblk⟩ := each 0 (by omega)
      obtain ⟨l, rfl, hi⟩ := ints_list (w := w) (b := b) (off := off) len (fun i hi => by
        obtain ⟨e, he, _⟩ := each i hi
        exact ⟨e, he⟩)
      exact ⟨l, _, _, rfl, hl, hm, .inr ⟨b, off, rfl, hblk, hi⟩⟩
end Go.Proofs.Ytofbholpggkjcaa

