/- VText, VReadS, VNum -/
import Derived.Test.YtofbholpggkjcaaExactVectorReadG02
import Derived.Test.YtofbholpggkjcaaExactVectorReadG03
import Derived.Lib.OthersKept
/- Vectors: both VectorText. -/
namespace Go.Proofs.Ytofbholpggkjcaa
open Go.RowKit
def letB (z : Int) : UInt8 := if z = -1 then 63 else if z = 0 then 110 else 121
def textB (l : List Int) : List UInt8 := l.map letB
theorem byteCells_append (l l' : List UInt8) : By.intCells (l ++ l') = By.intCells l ++ By.intCells l' := by simp [By.intCells]
theorem take_next {l : List Int} {k : Nat} (h : k < l.length) {z : Int} (hz : z = intAt l k) : l.take (k + 1) = l.take k ++ [z] := by
  rw [List.take_add_one, hz]; simp [intAt, h]
theorem row_ge {B : Nat} {w : World} {e : TypeId} {v : Value} {n size : Nat} {xs : List Value} (h : w.ownsRow B e size v n xs) {r : Nat} (hr : v.ownBlock = some r) : B ≤ r := by
  obtain ⟨_, ⟨rfl, _⟩ | ⟨g, cap, cur, rfl, hg, _⟩⟩ := h
  · cases hr
  · cases hr; exact hg
set_option maxRecDepth 100000 in
set_option maxHeartbeats 2000000 in
theorem l8_any (b off cap : Nat) (l : List Int) (w : World) (hv : vok l = true) (hI : IntsAt w b off l) :
    Calls Try.prog 30 #[.slice none 0 0, .slice (some ⟨b, off, none⟩) 4 cap] w fun e w' => ∃ v, e = .returned v ∧ By.OwnI w.heap.size w' v (textB l) ∧ Below w.heap.size w w' := by
  have HI : Hid (IntsAt w b off l) := hI
  have HL : Hid (l.length = 4) := vok_len4 hv
  have HV : Hid (∀ j, j < 4 → -1 ≤ intAt l j ∧ intAt l j ≤ 1) := fun j hj => vok_at hv j hj
  obtain ⟨i0, hi, hz0, hz1, hz2⟩ := info_parts By.info5
  have s0 : ∀ w : World, (Instr.index 9 (.string ⟨#[63, 110, 121]⟩) (.int .i64 0)).run Try.prog w = .ok (.int .u8 63) w := fun _ => by kernel_rfl
  have s1 : ∀ w : World, (Instr.index 9 (.string ⟨#[63, 110, 121]⟩) (.int .i64 1)).run Try.prog w = .ok (.int .u8 110) w := fun _ => by kernel_rfl
  have s2 : ∀ w : World, (Instr.index 9 (.string ⟨#[63, 110, 121]⟩) (.int .i64 2)).run Try.prog w = .ok (.int .u8 121) w := fun _ => by kernel_rfl
  clear hI hv
  go_enter Try.func30, Try.ntmps30
  go_wp2
  go_loopw [0, 5] (fun o i wr => ∃ (k : Nat) (v : Value), k ≤ 4 ∧ v = o ∧ i = .int .i64 k ∧ wr.ownsRow w.heap.size 5 1 o k (By.intCells (textB (l.take k))) ∧ Below w.heap.size w wr) (fun _ i _ => 4 - (intOf i).toNat)
  case atStart => exact ⟨0, _, Nat.zero_le _, rfl, rfl, World.ownsRow_nil w _ 5 1, Below.refl _ _⟩
  case round =>
    obtain ⟨k, o, hk, rfl, rfl, hR, hb⟩ := hrel
    have HR : Hid (wr.ownsRow w.heap.size 5 1 o k (By.intCells (textB (l.take k)))) := hR
    have HB : Hid (Below w.heap.size w wr) := hb
    have hs : w.heap.size ≤ wr.heap.size := hb.size
    by_cases hlt : k < 4
    · have hki : (k : Int) < 4 := by omega
      have f0 := (hb.cell (p := ⟨b, off + k, none⟩) HI.out.1).trans (HI.out.2 k (by rw [HL.out]; exact hlt))
      have hx := HV.out k hlt
      obtain ⟨x, hxe⟩ : ∃ x, x = intAt l k := ⟨_, rfl⟩
      have HN : Hid (l.take (k + 1) = l.take k ++ [x]) := take_next (by rw [HL.out]; exact hlt) hxe
      rw [← hxe] at f0 hx
      clear hR hb hxe
      have hx3 : x = -1 ∨ x = 0 ∨ x = 1 := by omega
      clear hx
      rcases hx3 with rfl | rfl | rfl
      · go_wp2_with (at_builtin; refine wpList_append_own _ rfl _ _ 26 rfl w.heap.size 5 i0 (.int .u8 0) 1 1 Try.underlying26 hi hz0 hz1 hz2 rfl (by decide) o _ _ rfl (HR.out.alloc _) ⟨wr.heap.size, 0, none⟩ 1 1 [.int .u8 63] rfl rfl (fun j u hu => by (match j, hu with | 0, hu => simp at hu; subst hu; simp [Addr.add] | (j + 1), hu => simp at hu)) (fun u hu => by simp at hu; subst hu; rfl) (by unfold maxLen; omega) (by omega) (by simp; omega) ?_; intro v' w2 hown hgrow hnil)
        go_roundw
        case rel =>
          refine ⟨k + 1, _, by omega, rfl, by go_num, ?_, (HB.out.alloc hs _).grown hgrow (by simp; omega) (fun j e => row_ge HR.out e)⟩
          rw [HN.out, show textB (l.take k ++ [-1]) = textB (l.take k) ++ [63] by simp [textB, letB], byteCells_append]
          exact hown
        case measure => simp [intOf]; omega
      · go_wp2_with (at_builtin; refine wpList_append_own _ rfl _ _ 26 rfl w.heap.size 5 i0 (.int .u8 0) 1 1 Try.underlying26 hi hz0 hz1 hz2 rfl (by decide) o _ _ rfl (HR.out.alloc _) ⟨wr.heap.size, 0, none⟩ 1 1 [.int .u8 110] rfl rfl (fun j u hu => by (match j, hu with | 0, hu => simp at hu; subst hu; simp [Addr.add] | (j + 1), hu => simp at hu)) (fun u hu => by simp at hu; subst hu; rfl) (by unfold maxLen; omega) (by omega) (by simp; omega) ?_; intro v' w2 hown hgrow hnil)
        go_roundw
        case rel =>
          refine ⟨k + 1, _, by omega, rfl, by go_num, ?_, (HB.out.alloc hs _).grown hgrow (by simp; omega) (fun j e => row_ge HR.out e)⟩
          rw [HN.out, show textB (l.take k ++ [0]) = textB (l.take k) ++ [110] by simp [textB, letB], byteCells_append]
          exact hown
        case measure => simp [intOf]; omega
      · go_wp2_with (at_builtin; refine wpList_append_own _ rfl _ _ 26 rfl w.heap.size 5 i0 (.int .u8 0) 1 1 Try.underlying26 hi hz0 hz1 hz2 rfl (by decide) o _ _ rfl (HR.out.alloc _) ⟨wr.heap.size, 0, none⟩ 1 1 [.int .u8 121] rfl rfl (fun j u hu => by (match j, hu with | 0, hu => simp at hu; subst hu; simp [Addr.add] | (j + 1), hu => simp at hu)) (fun u hu => by simp at hu; subst hu; rfl) (by unfold maxLen; omega) (by omega) (by simp; omega) ?_; intro v' w2 hown hgrow hnil)
        go_roundw
        case rel =>
          refine ⟨k + 1, _, by omega, rfl, by go_num, ?_, (HB.out.alloc hs _).grown hgrow (by simp; omega) (fun j e => row_ge HR.out e)⟩
          rw [HN.out, show textB (l.take k ++ [1]) = textB (l.take k) ++ [121] by simp [textB, letB], byteCells_append]
          exact hown
        case measure => simp [intOf]; omega
    · clear hR hb
      go_wp2
      go_ret
      obtain rfl : k = 4 := by omega
      have e4 : l.take 4 = l := by rw [← HL.out]; exact List.take_length
      refine ⟨_, rfl, By.OwnI.of_row ?_, HB.out⟩
      have := HR.out
      rw [e4] at this
      rw [show (textB l).length = 4 by simp [textB, HL.out]]
      exact this

set_option maxHeartbeats 1000000 in
theorem sText_any (x : Value) (l : List Int) (w : World) (hl : l.length ≤ 4611686018427387904) (h : IsI w x l) :
    Calls Try.prog 13 #[x] w fun e w' => ∃ v, e = .returned v ∧ By.OwnI w.heap.size w' v (if vok l = true then textB l else []) ∧ Below w.heap.size w w' := by
  have H : Hid (Calls Try.prog 9 #[x] w fun e w' => e = .returned (.bool (vok l)) ∧ w' = w) := sVok_any x l w hl h
  cases hv : vok l with
  | false =>
    rw [hv] at H
    clear h
    go_enter Try.func13, Try.ntmps13
    go_wp2_with fail
    refine H.out.mono ?_
    rintro e w1 ⟨rfl, hw⟩
    obtain rfl := hw.symm
    go_wp2
    go_ret
    exact ⟨_, rfl, By.OwnI.nil _ _, Below.refl _ _⟩
  | true =>
    rw [hv] at H
    obtain ⟨b, off, cap, rfl, hI⟩ := h.four (vok_len4 hv)
    have M : Hid (Calls Try.prog 30 #[.slice none 0 0, .slice (some ⟨b, off, none⟩) 4 cap] w fun e w' => ∃ v, e = .returned v ∧ By.OwnI w.heap.size w' v (textB l) ∧ Below w.heap.size w w') := l8_any b off cap l w hv hI
    clear h hI
    go_enter Try.func13, Try.ntmps13
    go_wp2_with fail
    refine H.out.mono ?_
    rintro e w1 ⟨rfl, hw⟩
    obtain rfl := hw.symm
    go_wp2_with fail
    refine M.out.mono ?_
    rintro e w1 ⟨v, rfl, ho, hb⟩
    go_wp2
    go_ret
    exact ⟨_, rfl, ho, hb⟩
end Go.Proofs.Ytofbholpggkjcaa

/- Vectors: the specification's VectorRead. -/
namespace Go.Proofs.Ytofbholpggkjcaa
open Go.RowKit
def numL (c : UInt8) : Int := if c = 63 then -1 else if c = 110 then 0 else 1
def isL (c : UInt8) : Bool := decide (c = 63) || decide (c = 110) || decide (c = 121)
def readOk (l : List UInt8) : Bool := l.all isL && decide (l.length = 4)
def readV (l : List UInt8) : List Int := if readOk l = true then l.map numL else []
theorem intCells_append (l l' : List Int) : intCells (l ++ l') = intCells l ++ intCells l' := by simp [intCells]
theorem byteAt_mem {l : List UInt8} {k : Nat} (h : k < l.length) : By.intAt l k ∈ l := by
  unfold By.intAt; rw [List.getD_eq_getElem?_getD, List.getElem?_eq_getElem h]; exact List.getElem_mem h
theorem read_no {l : List UInt8} {k : Nat} (hk : k < l.length) (h : isL (By.intAt l k) = false) : readOk l = false := by
  have : l.all isL = false := by
    rw [List.all_eq_false]
    exact ⟨_, byteAt_mem hk, by simp [h]⟩
  simp [readOk, this]
theorem read_all {l : List UInt8} (h : ∀ j, j < l.length → isL (By.intAt l j) = true) : readOk l = decide (l.length = 4) := by
  have : l.all isL = true := by
    rw [List.all_eq_true]
    intro x hx
    obtain ⟨i, hi, rfl⟩ := List.getElem_of_mem hx
    have := h i hi
    unfold By.intAt at this
    rwa [List.getD_eq_getElem?_getD, List.getElem?_eq_getElem hi] at this
  simp [readOk, this]
theorem numL_ok (c : UInt8) : numOk (numL c) = true := by
  unfold numL numOk; split
  · rfl
  · split <;> rfl
theorem vok_numL (l : List UInt8) : vok (l.map numL) = decide (l.length = 4) := by
  have : (l.map numL).all numOk = true := by simp [List.all_map, numL_ok]
  simp [vok, this]
theorem takeB_next {l : List UInt8} {k : Nat} (h : k < l.length) {c : UInt8} (hc : c = By.intAt l k) : (l.take (k + 1)).map numL = (l.take k).map numL ++ [numL c] := by
  have e : l.take (k + 1) = l.take k ++ [c] := by rw [List.take_add_one, hc]; simp [By.intAt, h]
  rw [e]; simp
theorem u8_of {c : UInt8} {n : Nat} (hn : n < 256) (h : (c.toNat : Int) = (n : Int)) : c = UInt8.ofNat n := by
  apply UInt8.toNat_inj.1
  rw [UInt8.toNat_ofNat']
  omega
/- Which letter a byte is. -/
theorem letter_cases (c : UInt8) : ((c.toNat : Int) = 63 ∧ isL c = true ∧ numL c = -1) ∨ ((c.toNat : Int) = 110 ∧ isL c = true ∧ numL c = 0) ∨ ((c.toNat : Int) = 121 ∧ isL c = true ∧ numL c = 1) ∨ (¬ (c.toNat : Int) = 63 ∧ ¬ (c.toNat : Int) = 110 ∧ ¬ (c.toNat : Int) = 121 ∧ isL c = false) := by
  by_cases h1 : (c.toNat : Int) = 63
  · have := u8_of (n := 63) (by omega) h1
    exact .inl ⟨h1, by simp [isL, this], by simp [numL, this]⟩
  by_cases h2 : (c.toNat : Int) = 110
  · have := u8_of (n := 110) (by omega) h2
    exact .inr (.inl ⟨h2, by simp [isL, this], by simp [numL, this]⟩)
  by_cases h3 : (c.toNat : Int) = 121
  · have := u8_of (n := 121) (by omega) h3
    exact .inr (.inr (.inl ⟨h3, by simp [isL, this], by simp [numL, this]⟩))
  refine .inr (.inr (.inr ⟨h1, h2, h3, ?_⟩))
  have n1 : ¬ c = 63 := fun e => h1 (by rw [e]; rfl)
  have n2 : ¬ c = 110 := fun e => h2 (by rw [e]; rfl)
  have n3 : ¬ c = 121 := fun e => h3 (by rw [e]; rfl)
  simp [isL, n1, n2, n3]
set_option maxRecDepth 100000 in
set_option maxHeartbeats 4000000 in
theorem sRead_any (x : Value) (l : List UInt8) (w : World) (hl : l.length ≤ 1048576) (h : By.IsI w x l) :
    Calls Try.prog 19 #[x] w fun e w' => ∃ u, e = .returned (.tuple #[u, .bool (readOk l)]) ∧ OwnI w.heap.size w' u (readV l) ∧ Below w.heap.size w w' := by
  obtain ⟨a, cap, rfl, h1, h2, h⟩ := h
  clear h1 h2
  by_cases hz : l = []
  · subst hz
    have HV : Hid (Calls Try.prog 9 #[.slice none 0 0] w fun e w' => e = .returned (.bool false) ∧ w' = w) := sVok_any (.slice none 0 0) [] w (by simp) ⟨none, 0, rfl, Nat.le_refl _, Nat.zero_le _, .inl rfl⟩
    clear h
    go_enter Try.func19, Try.ntmps19
    go_wp2
    go_loop [4, 5] (fun o i => i = .int .i64 0 ∧ o = .slice none 0 0) (fun _ _ => 0)
    case atStart => exact ⟨rfl, rfl⟩
    case round =>
      obtain ⟨rfl, rfl⟩ := hrel
      go_wp2_with fail
      refine HV.out.mono ?_
      rintro e w1 ⟨rfl, hw⟩
      obtain rfl := hw.symm
      go_wp2
      go_ret2
      exact ⟨_, rfl, OwnI.nil _ _, Below.refl _ _⟩
  · obtain ⟨b, off, rfl, hI⟩ := h.resolve_left hz
    have HI : Hid (By.IntsAt w b off l) := hI
    obtain ⟨i0, hi, hz0, hz1, hz2⟩ := info_parts info3
    clear h hz hI
    go_enter Try.func19, Try.ntmps19
    go_wp2
    go_loopw [4, 5] (fun o i wr => ∃ (k : Nat) (v : Value), k ≤ l.length ∧ v = o ∧ i = .int .i64 k ∧ wr.ownsRow w.heap.size 3 1 o k (intCells ((l.take k).map numL)) ∧ Below w.heap.size w wr ∧ ∀ j, j < k → isL (By.intAt l j) = true) (fun _ i _ => l.length - (intOf i).toNat)
    case atStart => exact ⟨0, _, Nat.zero_le _, rfl, rfl, World.ownsRow_nil w _ 3 1, Below.refl _ _, fun j hj => by omega⟩
    case round =>
      obtain ⟨k, o, hk, rfl, rfl, hR, hb, hall⟩ := hrel
      have HR : Hid (wr.ownsRow w.heap.size 3 1 o k (intCells ((l.take k).map numL))) := hR
      have HB : Hid (Below w.heap.size w wr) := hb
      have HA : Hid (∀ j, j < k → isL (By.intAt l j) = true) := hall
      have hs : w.heap.size ≤ wr.heap.size := hb.size
      by_cases hlt : k < l.length
      · have f0 := (hb.cell (p := ⟨b, off + k, none⟩) HI.out.1).trans (HI.out.2 k hlt)
        obtain ⟨c, hce⟩ : ∃ c, c = By.intAt l k := ⟨_, rfl⟩
        have HN : Hid ((l.take (k + 1)).map numL = (l.take k).map numL ++ [numL c]) := takeB_next hlt hce
        have HC : Hid (c = By.intAt l k) := hce
        rw [← hce] at f0
        have hL := letter_cases c
        obtain ⟨z, hze⟩ : ∃ z, z = (c.toNat : Int) := ⟨_, rfl⟩
        rw [← hze] at f0 hL
        clear hR hb hce hall hze
        have hn2 : l.length ≤ 1048576 := hl
        rcases hL with ⟨rfl, hc1, hc2⟩ | ⟨rfl, hc1, hc2⟩ | ⟨rfl, hc1, hc2⟩ | ⟨n1, n2, n3, hc⟩
        · go_wp2_with (at_builtin; refine wpList_append_own _ rfl _ _ 22 rfl w.heap.size 3 i0 (.int .i64 0) 1 8 Try.underlying22 hi hz0 hz1 hz2 rfl (by decide) o _ _ rfl (HR.out.alloc _) ⟨wr.heap.size, 0, none⟩ 1 1 [.int .i64 (-1)] rfl rfl (fun j u hu => by (match j, hu with | 0, hu => simp at hu; subst hu; simp [Addr.add] | (j + 1), hu => simp at hu)) (fun u hu => by simp at hu; subst hu; rfl) (by unfold maxLen; omega) (by omega) (by simp; omega) ?_; intro v' w2 hown hgrow hnil)
          go_roundw
          case rel =>
            refine ⟨k + 1, _, by omega, rfl, by go_num, ?_, (HB.out.alloc hs _).grown hgrow (by simp; omega) (fun j e => row_ge HR.out e), fun j hj => ?_⟩
            · rw [HN.out, hc2, intCells_append]
              exact hown
            · by_cases e : j < k
              · exact HA.out j e
              · rw [show j = k by omega, ← HC.out]; exact hc1
          case measure => simp [intOf]; omega
        · go_wp2_with (at_builtin; refine wpList_append_own _ rfl _ _ 22 rfl w.heap.size 3 i0 (.int .i64 0) 1 8 Try.underlying22 hi hz0 hz1 hz2 rfl (by decide) o _ _ rfl (HR.out.alloc _) ⟨wr.heap.size, 0, none⟩ 1 1 [.int .i64 (0)] rfl rfl (fun j u hu => by (match j, hu with | 0, hu => simp at hu; subst hu; simp [Addr.add] | (j + 1), hu => simp at hu)) (fun u hu => by simp at hu; subst hu; rfl) (by unfold maxLen; omega) (by omega) (by simp; omega) ?_; intro v' w2 hown hgrow hnil)
          go_roundw
          case rel =>
            refine ⟨k + 1, _, by omega, rfl, by go_num, ?_, (HB.out.alloc hs _).grown hgrow (by simp; omega) (fun j e => row_ge HR.out e), fun j hj => ?_⟩
            · rw [HN.out, hc2, intCells_append]
              exact hown
            · by_cases e : j < k
              · exact HA.out j e
              · rw [show j = k by omega, ← HC.out]; exact hc1
          case measure => simp [intOf]; omega
        · go_wp2_with (at_builtin; refine wpList_append_own _ rfl _ _ 22 rfl w.heap.size 3 i0 (.int .i64 0) 1 8 Try.underlying22 hi hz0 hz1 hz2 rfl (by decide) o _ _ rfl (HR.out.alloc _) ⟨wr.heap.size, 0, none⟩ 1 1 [.int .i64 (1)] rfl rfl (fun j u hu => by (match j, hu with | 0, hu => simp at hu; subst hu; simp [Addr.add] | (j + 1), hu => simp at hu)) (fun u hu => by simp at hu; subst hu; rfl) (by unfold maxLen; omega) (by omega) (by simp; omega) ?_; intro v' w2 hown hgrow hnil)
          go_roundw
          case rel =>
            refine ⟨k + 1, _, by omega, rfl, by go_num, ?_, (HB.out.alloc hs _).grown hgrow (by simp; omega) (fun j e => row_ge HR.out e), fun j hj => ?_⟩
            · rw [HN.out, hc2, intCells_append]
              exact hown
            · by_cases e : j < k
              · exact HA.out j e
              · rw [show j = k by omega, ← HC.out]; exact hc1
          case measure => simp [intOf]; omega
        · have d1 : (z == 63) = false := by simpa using n1
          have d2 : (z == 110) = false := by simpa using n2
          have d3 : (z == 121) = false := by simpa using n3
          have HF : Hid (readOk l = false) := read_no hlt (by rw [← HC.out]; exact hc)
          clear n1 n2 n3 hc
          go_wp2
          go_ret2
          refine ⟨.slice none 0 0, by rw [HF.out]; rfl, ?_, HB.out⟩
          rw [readV, HF.out]; exact OwnI.nil _ _
      · have hkl : k = l.length := by omega
        subst hkl
        have hO : OwnI w.heap.size wr o (l.map numL) := OwnI.of_row (by have := HR.out; rw [List.take_length] at this; simpa using this)
        have HO : Hid (OwnI w.heap.size wr o (l.map numL)) := hO
        have HQ : Hid (readOk l = decide (l.length = 4)) := read_all HA.out
        have HV : Hid (Calls Try.prog 9 #[o] wr fun e w' => e = .returned (.bool (decide (l.length = 4))) ∧ w' = wr) := by
          have := sVok_any o (l.map numL) wr (by simp; omega) hO.isI
          rw [vok_numL] at this
          exact this
        clear hR hb hall hO
        cases h4 : decide (l.length = 4) with
        | false =>
          rw [h4] at HV HQ
          go_wp2_with fail
          refine HV.out.mono ?_
          rintro e w1 ⟨rfl, hw⟩
          obtain rfl := hw.symm
          go_wp2
          go_ret2
          refine ⟨.slice none 0 0, by rw [HQ.out]; rfl, ?_, HB.out⟩
          rw [readV, HQ.out]; exact OwnI.nil _ _
        | true =>
          rw [h4] at HV HQ
          go_wp2_with fail
          refine HV.out.mono ?_
          rintro e w1 ⟨rfl, hw⟩
          obtain rfl := hw.symm
          go_wp2
          go_ret2
          refine ⟨o, by rw [HQ.out]; rfl, ?_, HB.out⟩
          rw [readV, HQ.out]; exact HO.out
end Go.Proofs.Ytofbholpggkjcaa

/- Vectors: the program's copyOf and numbers, and numberOf. -/
namespace Go.Proofs.Ytofbholpggkjcaa
open Go.RowKit
theorem intCells_length (l : List Int) : (intCells l).length = l.length := by simp [intCells]
theorem intCells_one (l : List Int) : ∀ u ∈ intCells l, u.oneCell' = true := by
  intro u hu
  simp only [intCells, List.mem_map] at hu
  obtain ⟨z, _, rfl⟩ := hu
  rfl
theorem add_none (b off n : Nat) : (⟨b, off, none⟩ : Addr).add n = ⟨b, off + n, none⟩ := by
  unfold Addr.add
  split <;> simp_all
theorem IntsAt.cells {w : World} {b off : Nat} {l : List Int} (h : IntsAt w b off l) : ∀ (j : Nat) (u : Value), (intCells l)[j]? = some u → w.cell? ((⟨b, off, none⟩ : Addr).add j) = some u := by
  intro j u hu
  obtain ⟨hj, rfl⟩ := List.getElem?_eq_some_iff.1 hu
  rw [intCells_length] at hj
  rw [add_none, h.2 j hj]
  simp [intCells, intAt, hj]
set_option maxHeartbeats 1000000 in
theorem copyI_any (b off cap : Nat) (l : List Int) (w : World) (hl : l.length ≤ 1048576) (hI : IntsAt w b off l) :
    Calls Try.prog 41 #[.slice (some ⟨b, off, none⟩) l.length cap] w fun e w' => ∃ x, e = .returned x ∧ OwnI w.heap.size w' x l ∧ Below w.heap.size w w' := by
  obtain ⟨i0, hi, hz0, hz1, hz2⟩ := info_parts info3
  have HI : Hid (IntsAt w b off l) := hI
  clear hI
  go_enter Try.func41, Try.ntmps41
  go_wp2_with (at_builtin; refine wpList_append_own _ rfl _ _ 22 rfl w.heap.size 3 i0 _ 1 8 Try.underlying22 hi hz0 hz1 hz2 rfl (by decide) (.slice none 0 0) 0 [] rfl (World.ownsRow_nil w _ 3 1) ⟨b, off, none⟩ l.length cap (intCells l) rfl (by rw [intCells_length]; omega) HI.out.cells (intCells_one l) (by unfold maxLen; omega) (by omega) (Nat.le_refl _) ?_; intro v' w1 hown hgrow hnil)
  go_ret
  refine ⟨_, rfl, OwnI.of_row (by simpa using hown), (Below.refl _ w).grown hgrow (Nat.le_refl _) (fun k e => by cases e)⟩
set_option maxHeartbeats 1000000 in
theorem numbers_any (a b c d : Int) (w : World) :
    Calls Try.prog 33 #[vec a b c d] w fun e w' => ∃ x, e = .returned x ∧ OwnI w.heap.size w' x [a, b, c, d] ∧ Below w.heap.size w w' := by
  have hI : IntsAt (w.alloc (cell4 a b c d)) w.heap.size 0 [a, b, c, d] := (V4.new w a b c d).ints
  have H : Hid (Calls Try.prog 41 #[.slice (some ⟨w.heap.size, 0, none⟩) 4 4] (w.alloc (cell4 a b c d)) fun e w' => ∃ x, e = .returned x ∧ OwnI (w.alloc (cell4 a b c d)).heap.size w' x [a, b, c, d] ∧ Below (w.alloc (cell4 a b c d)).heap.size (w.alloc (cell4 a b c d)) w') := copyI_any _ 0 4 [a, b, c, d] _ (by simp) hI
  clear hI
  go_enter Try.func33, Try.ntmps33
  go_wp2_with fail
  refine H.out.mono ?_
  rintro e w1 ⟨x, rfl, ho, hb⟩
  have hB : Below w.heap.size w w1 := ((Below.refl _ w).alloc (Nat.le_refl _) _).trans (hb.mono (by simp))
  have hO : OwnI w.heap.size w1 x [a, b, c, d] := ho.mono (by simp)
  clear ho hb
  go_wp2
  go_ret
  exact ⟨_, rfl, hO, hB⟩
abbrev abc : ByteArray := ⟨#[63, 110, 121]⟩
/- What numberOf tells of a letter. -/
def numOfR (z : Int) : Value := if z = 63 then .tuple #[.int .i64 (-1), .bool true] else if z = 110 then .tuple #[.int .i64 0, .bool true] else if z = 121 then .tuple #[.int .i64 1, .bool true] else .tuple #[.int .i64 0, .bool false]
set_option maxHeartbeats 1000000 in
theorem numberOf_any (z : Int) (w : World) :
    Calls Try.prog 32 #[.int .i32 z] w fun e w' => e = .returned (numOfR z) ∧ Below w.heap.size w w' := by
  have n0 : ∀ ty, (Instr.next (.pointer (some ⟨w.heap.size, 0, none⟩)) true ty).run Try.prog (w.iter abc 0) = .ok (.tuple #[.bool true, .int .i64 0, .int .i32 63]) (w.iter abc 1) := fun ty => run_next_ascii w abc 0 ty (by decide) (by decide)
  have n1 : ∀ ty, (Instr.next (.pointer (some ⟨w.heap.size, 0, none⟩)) true ty).run Try.prog (w.iter abc 1) = .ok (.tuple #[.bool true, .int .i64 1, .int .i32 110]) (w.iter abc 2) := fun ty => run_next_ascii w abc 1 ty (by decide) (by decide)
  have n2 : ∀ ty, (Instr.next (.pointer (some ⟨w.heap.size, 0, none⟩)) true ty).run Try.prog (w.iter abc 2) = .ok (.tuple #[.bool true, .int .i64 2, .int .i32 121]) (w.iter abc 3) := fun ty => run_next_ascii w abc 2 ty (by decide) (by decide)
  have n3 : ∀ ty, (Instr.next (.pointer (some ⟨w.heap.size, 0, none⟩)) true ty).run Try.prog (w.iter abc 3) = .ok (.tuple #[.bool false]) (w.iter abc 3) := fun ty => run_next_end w abc 3 ty (by decide)
  have HB : Hid (∀ p, Below w.heap.size w (w.iter abc p)) := fun p => (Below.refl _ w).alloc (Nat.le_refl _) _
  go_enter Try.func32, Try.ntmps32
  go_wp2
  go_loopw [] (fun wr => (wr = w.iter abc 0) ∨ (wr = w.iter abc 1 ∧ Hid (¬ z = 63)) ∨ (wr = w.iter abc 2 ∧ Hid (¬ z = 63 ∧ ¬ z = 110)) ∨ (wr = w.iter abc 3 ∧ Hid (¬ z = 63 ∧ ¬ z = 110 ∧ ¬ z = 121))) (fun wr => 3 - wr.iterPos w.heap.size)
  case atStart => exact .inl rfl
  case round =>
    rcases hrel with rfl | ⟨rfl, h⟩ | ⟨rfl, h⟩ | ⟨rfl, h⟩
    · by_cases e : z = 63
      · subst e
        go_wp2
        go_ret2
        exact ⟨rfl, HB.out _⟩
      · have d : ((63 : Int) == z) = false := by simp; omega
        have HE : Hid (¬ z = 63) := e
        clear e
        go_wp2
        go_roundw
        case rel => exact .inr (.inl ⟨trivial, HE⟩)
        case measure => simp
    · by_cases e : z = 110
      · subst e
        go_wp2
        go_ret2
        exact ⟨rfl, HB.out _⟩
      · have d : ((110 : Int) == z) = false := by simp; omega
        have HE : Hid (¬ z = 63 ∧ ¬ z = 110) := ⟨h.out, e⟩
        clear e h
        go_wp2
        go_roundw
        case rel => exact .inr (.inr (.inl ⟨trivial, HE⟩))
        case measure => simp
    · by_cases e : z = 121
      · subst e
        go_wp2
        go_ret2
        exact ⟨rfl, HB.out _⟩
      · have d : ((121 : Int) == z) = false := by simp; omega
        have HE : Hid (¬ z = 63 ∧ ¬ z = 110 ∧ ¬ z = 121) := ⟨h.out.1, h.out.2, e⟩
        clear e h
        go_wp2
        go_roundw
        case rel => exact .inr (.inr (.inr ⟨trivial, HE⟩))
        case measure => simp
    · have HE : Hid (numOfR z = .tuple #[.int .i64 0, .bool false]) := by show _ = _; simp [numOfR, h.out.1, h.out.2.1, h.out.2.2]
      clear h
      go_wp2
      go_ret2
      exact ⟨by rw [HE.out]; rfl, HB.out _⟩
end Go.Proofs.Ytofbholpggkjcaa

