/- TbE, TbI -/
import Derived.Test.YtacgdmojhhdegaaExactTableBytesG03
import Derived.Test.YtacgdmojhhdegaaExactTableBytesG04
import Derived.Test.YtacgdmojhhdegaaExactTableBytesG01
/- Which emits may be; rows of bytes that grow. -/
namespace Go.Proofs.Ytacgdmojhhdegaa
open Go.RowKit
def Em.okB (x : Em) : Bool := decide (0 ≤ x.t ∧ x.t ≤ 1000 ∧ 0 ≤ x.l ∧ x.l ≤ 3 ∧ 0 ≤ x.v ∧ x.v ≤ 999)
theorem all_yes {n : Nat} {f : Nat → Bool} (h : ∀ i, i < n → f i = true) : (List.range n).all f = true := by
  rw [List.all_eq_true]
  intro i hi
  exact h i (List.mem_range.1 hi)
theorem all_no {n : Nat} {f : Nat → Bool} {i : Nat} (hi : i < n) (h : f i = false) : (List.range n).all f = false := by
  rw [List.all_eq_false]
  exact ⟨i, List.mem_range.2 hi, by rw [h]; decide⟩
def emsC (l : List Em) : Bool := (List.range l.length).all fun i => (xAt l i).okB
set_option maxHeartbeats 4000000 in
theorem iEmits (x : Value) (l : List Em) (w : World) (hl : l.length ≤ 1048576) (h : IsX w x l) :
    Calls Try.prog 21 #[x] w fun e w' => e = .returned (.bool (emsC l)) ∧ Below w.heap.size w w' := by
  obtain ⟨a, cap, rfl, h1, h2, h⟩ := h
  clear h1 h2
  go_enter Try.func21, Try.ntmps21
  go_wp2
  go_loopw [7] (fun i wr => ∃ k : Nat, k ≤ l.length ∧ i = .int .i64 k ∧ Hid (∀ j, j < k → (xAt l j).okB = true) ∧ Below w.heap.size w wr) (fun i _ => l.length - (intOf i).toNat)
  case atStart => exact ⟨0, Nat.zero_le _, rfl, fun j hj => by omega, Below.refl _ _⟩
  case round =>
    obtain ⟨k, hk, rfl, HA, hB⟩ := hrel
    have HB : Hid (Below w.heap.size w wr) := hB
    by_cases hlt : k < l.length
    · obtain ⟨b, off, rfl, hb, hc⟩ := h.resolve_left (by intro e; subst e; simp at hlt)
      obtain ⟨f0, f1, f2⟩ := (hc k hlt).below hB hb
      clear hc h hB
      have HNO : Hid ((xAt l k).okB = false → emsC l = false) := fun h => by unfold emsC; rw [all_no hlt h]
      have HDEF : Hid ((xAt l k).okB = decide (0 ≤ (xAt l k).t ∧ (xAt l k).t ≤ 1000 ∧ 0 ≤ (xAt l k).l ∧ (xAt l k).l ≤ 3 ∧ 0 ≤ (xAt l k).v ∧ (xAt l k).v ≤ 999)) := rfl
      generalize (xAt l k).t = et at f0 HDEF
      generalize (xAt l k).l = el at f1 HDEF
      generalize (xAt l k).v = ev at f2 HDEF
      obtain ⟨W1, hW1⟩ : ∃ W1, wr.alloc (.cells #[.int .i64 et, .int .i64 el, .int .i64 ev] 40) = W1 := ⟨_, rfl⟩
      have HB1 : Hid (Below w.heap.size w W1) := by rw [← hW1]; exact HB.out.alloc HB.out.size _
      have HX : Hid (Bk W1 wr.heap.size 40 #[.int .i64 et, .int .i64 el, .int .i64 ev]) := by rw [← hW1]; exact Bk.new _ _ _
      have x0 := HX.out.cell (i := 0) rfl
      have x1 := HX.out.cell (i := 1) rfl
      have x2 := HX.out.cell (i := 2) rfl
      go_wp2_with fail
      refine (within_any _ _ _ _).mono ?_
      rintro e w2 ⟨rfl, hw⟩
      have hw' := hw.symm
      clear hw
      subst hw'
      clear hW1 f0 f1 f2
      by_cases c0 : 0 ≤ et ∧ et ≤ 1000
      case neg =>
        rw [show (decide (0 ≤ et) && decide (et ≤ 1000)) = false from by rw [← Bool.decide_and]; exact decide_eq_false c0]
        have HN : Hid (emsC l = false) := HNO.out (by rw [HDEF.out]; exact decide_eq_false (by omega))
        clear c0
        go_wp2
        go_ret
        exact ⟨ret_bool HN.out.symm, HB1.out⟩
      rw [show (decide (0 ≤ et) && decide (et ≤ 1000)) = true from by rw [← Bool.decide_and]; exact decide_eq_true c0]
      have C0 : Hid (0 ≤ et ∧ et ≤ 1000) := c0
      clear c0
      go_wp2_with fail
      refine (within_any _ _ _ _).mono ?_
      rintro e w2 ⟨rfl, hw⟩
      have hw' := hw.symm
      clear hw
      subst hw'
      by_cases c1 : 0 ≤ el ∧ el ≤ 3
      case neg =>
        rw [show (decide (0 ≤ el) && decide (el ≤ 3)) = false from by rw [← Bool.decide_and]; exact decide_eq_false c1]
        have HN : Hid (emsC l = false) := HNO.out (by rw [HDEF.out]; exact decide_eq_false (by omega))
        clear c1
        go_wp2
        go_ret
        exact ⟨ret_bool HN.out.symm, HB1.out⟩
      rw [show (decide (0 ≤ el) && decide (el ≤ 3)) = true from by rw [← Bool.decide_and]; exact decide_eq_true c1]
      have C1 : Hid (0 ≤ el ∧ el ≤ 3) := c1
      clear c1
      go_wp2_with fail
      refine (within_any _ _ _ _).mono ?_
      rintro e w2 ⟨rfl, hw⟩
      have hw' := hw.symm
      clear hw
      subst hw'
      by_cases c2 : 0 ≤ ev ∧ ev ≤ 999
      case neg =>
        rw [show (decide (0 ≤ ev) && decide (ev ≤ 999)) = false from by rw [← Bool.decide_and]; exact decide_eq_false c2]
        have HN : Hid (emsC l = false) := HNO.out (by rw [HDEF.out]; exact decide_eq_false (by omega))
        clear c2
        go_wp2
        go_ret
        exact ⟨ret_bool HN.out.symm, HB1.out⟩
      rw [show (decide (0 ≤ ev) && decide (ev ≤ 999)) = true from by rw [← Bool.decide_and]; exact decide_eq_true c2]
      have C2 : Hid (0 ≤ ev ∧ ev ≤ 999) := c2
      clear c2
      have HY : Hid ((xAt l k).okB = true) := by rw [HDEF.out]; exact decide_eq_true ⟨C0.out.1, C0.out.2, C1.out.1, C1.out.2, C2.out.1, C2.out.2⟩
      go_wp2
      go_roundw
      case rel => exact ⟨k + 1, by omega, by go_num, fun j hj => by
        by_cases e : j = k
        · subst e; exact HY.out
        · exact HA.out j (by omega), HB1.out⟩
      case measure => simp [intOf]; omega
    · have HYES : Hid (emsC l = true) := by
        show emsC l = true
        unfold emsC
        rw [all_yes (fun j hj => HA.out j (by omega))]
      clear h hB
      go_wp2
      go_ret
      exact ⟨ret_bool HYES.out.symm, HB.out⟩
theorem row_ge {B : Nat} {w : World} {e : TypeId} {v : Value} {n size : Nat} {xs : List Value} (h : w.ownsRow B e size v n xs) {r : Nat} (hr : v.ownBlock = some r) : B ≤ r := by
  obtain ⟨_, ⟨rfl, _⟩ | ⟨g, cap, cur, rfl, hg, _⟩⟩ := h
  · simp [Value.ownBlock] at hr
  · simp [Value.ownBlock] at hr; omega
def byteOf (z : Int) : UInt8 := UInt8.ofNat (z % 256).toNat
theorem byteOf_val (z : Int) : ((byteOf z).toNat : Int) = z % 256 := by
  unfold byteOf
  have h1 : 0 ≤ z % 256 := Int.emod_nonneg _ (by omega)
  have h2 : z % 256 < 256 := Int.emod_lt_of_pos _ (by omega)
  rw [UInt8.toNat_ofNat']
  omega
def twoB (z : Int) : List UInt8 := [byteOf (z / 256), byteOf z]
def RowBy (B : Nat) (w : World) (x : Value) (l : List UInt8) : Prop := w.ownsRow B 5 1 x l.length (By.intCells l)
theorem byCells_append (l l' : List UInt8) : By.intCells (l ++ l') = By.intCells l ++ By.intCells l' := by simp [By.intCells]
theorem RowBy.own {B : Nat} {w : World} {x : Value} {l : List UInt8} (h : RowBy B w x l) : By.OwnI B w x l := By.OwnI.of_row h
theorem RowBy.mono {B B' : Nat} {w : World} {x : Value} {l : List UInt8} (h : RowBy B w x l) (hB : B' ≤ B) : RowBy B' w x l := by
  obtain ⟨h0, h1 | ⟨g, cap, cur, e, hg, h1⟩⟩ := h
  · exact ⟨h0, .inl h1⟩
  · exact ⟨h0, .inr ⟨g, cap, cur, e, Nat.le_trans hB hg, h1⟩⟩
theorem RowBy.below {B : Nat} {w w' : World} {x : Value} {l : List UInt8} (h : RowBy B w x l) (hb : Below w.heap.size w w') : RowBy B w' x l := by
  obtain ⟨h0, h1 | ⟨g, cap, cur, e, hg, hc, h1⟩⟩ := h
  · exact ⟨h0, .inl h1⟩
  · exact ⟨h0, .inr ⟨g, cap, cur, e, hg, (hb.block g (Array.getElem?_eq_some_iff.1 hc).1).trans hc, h1⟩⟩
theorem RowBy.ne {B : Nat} {w : World} {x : Value} {l : List UInt8} (h : RowBy B w x l) {P : Nat} {T : TypeId} {vs : Array Value} (hb : Bk w P T vs) (hT : T ≠ 5) : ¬ x.ownBlock = some P := by
  intro e
  obtain ⟨_, ⟨rfl, _⟩ | ⟨g, cap, cur, rfl, _, hc, _⟩⟩ := h
  · simp [Value.ownBlock] at e
  · simp [Value.ownBlock] at e
    subst e
    have hb' : w.heap[g]? = some (.cells vs T) := hb
    rw [hb'] at hc
    simp at hc
    exact hT hc.2
theorem grown_turns {w w' : World} {row : Option Nat} (h : w.grownBy w' row) : Turns (fun k => row = some k) w w' := ⟨h.os, h.tape, h.output, h.size, fun k hk hS => h.block k hk (fun e => hS e.symm)⟩
theorem at_new2 (w : World) (a b : Value) : ∀ j u, [a, b][j]? = some u → (w.alloc (.cells #[a, b] 5)).cell? ((⟨w.heap.size, 0, none⟩ : Addr).add j) = some u := by
  intro j u hu
  match j, hu with
  | 0, hu => simp at hu; subst hu; simp [Addr.add]
  | 1, hu => simp at hu; subst hu; simp [Addr.add]
  | (j + 2), hu => simp at hu
theorem at_new1 (w : World) (a : Value) : ∀ j u, [a][j]? = some u → (w.alloc (.cells #[a] 5)).cell? ((⟨w.heap.size, 0, none⟩ : Addr).add j) = some u := by
  intro j u hu
  match j, hu with
  | 0, hu => simp at hu; subst hu; simp [Addr.add]
  | (j + 1), hu => simp at hu
theorem RowBy.grow {B : Nat} {w : World} {v : Value} {l r : List UInt8} {n : Nat} {cs : List Value} (h : w.ownsRow B 5 1 v (l.length + n) (By.intCells l ++ cs)) (hcs : By.intCells r = cs) (hn : r.length = n) : RowBy B w v (l ++ r) := by
  subst hcs hn
  unfold RowBy
  rw [List.length_append, byCells_append]
  exact h
theorem cells_one (z : Int) : By.intCells [byteOf z] = [.int .u8 (z % 256)] := by simp [By.intCells, byteOf_val]
theorem cells_oneS {z : Int} (h0 : 0 ≤ z) (h1 : z ≤ 255) : By.intCells [byteOf z] = [.int .u8 z] := by rw [cells_one, show z % 256 = z by omega]
theorem cells_two (z : Int) : By.intCells (twoB z) = [.int .u8 (z / 256 % 256), .int .u8 (z % 256)] := by simp [By.intCells, twoB, byteOf_val]
theorem cells_twoS {z : Int} (h0 : 0 ≤ z) (h1 : z ≤ 65535) : By.intCells (twoB z) = [.int .u8 (z / 256), .int .u8 (z % 256)] := by rw [cells_two, show z / 256 % 256 = z / 256 by omega]
set_option maxRecDepth 100000 in
set_option maxHeartbeats 1000000 in
theorem sTwo_any (B : Nat) (x : Value) (l : List UInt8) (z : Int) (w : World) (hB : B ≤ w.heap.size) (hl : l.length ≤ 1000000000) (h : RowBy B w x l) :
    Calls Try.prog 25 #[x, .int .i64 z] w fun e w' => ∃ y, e = .returned y ∧ RowBy B w' y (l ++ twoB z) ∧ Turns (fun k => x.ownBlock = some k) w w' := by
  obtain ⟨i0, hi, hz0, hz1, hz2⟩ := info_parts By.info5
  have HR : Hid (RowBy B w x l) := h
  clear h
  go_enter Try.func25, Try.ntmps25
  go_wp2_with (at_builtin; refine wpList_append_own _ rfl _ _ 24 rfl B 5 i0 (.int .u8 0) 1 1 Try.underlying24 hi hz0 hz1 hz2 rfl (by decide) x _ _ rfl (World.ownsRow.alloc HR.out _) ⟨w.heap.size, 0, none⟩ 2 2 [.int .u8 (z / 256 % 256), .int .u8 (z % 256)] rfl rfl (at_new2 _ _ _) (fun u hu => by simp at hu; first | (subst hu; rfl) | (rcases hu with rfl | rfl <;> rfl)) (by unfold maxLen; omega) (by omega) (by simp; omega) ?_; intro v' w2 hown hgrow hnil)
  go_ret
  exact ⟨_, rfl, RowBy.grow hown (cells_two z) rfl, ((Turns.refl _ w).alloc _).trans (grown_turns hgrow)⟩
set_option maxRecDepth 100000 in
set_option maxHeartbeats 1000000 in
theorem iTwo_any (B : Nat) (x : Value) (l : List UInt8) (z : Int) (w : World) (hB : B ≤ w.heap.size) (hl : l.length ≤ 1000000000) (hz : 0 ≤ z) (hz9 : z ≤ 65535) (h : RowBy B w x l) :
    Calls Try.prog 22 #[x, .int .i64 z] w fun e w' => ∃ y, e = .returned y ∧ RowBy B w' y (l ++ twoB z) ∧ Turns (fun k => x.ownBlock = some k) w w' := by
  obtain ⟨i0, hi, hz0, hz1, hz2⟩ := info_parts By.info5
  have HR : Hid (RowBy B w x l) := h
  have HZ : Hid (0 ≤ z ∧ z ≤ 65535) := ⟨hz, hz9⟩
  clear h
  go_enter Try.func22, Try.ntmps22
  go_wp2_with (at_builtin; refine wpList_append_own _ rfl _ _ 24 rfl B 5 i0 (.int .u8 0) 1 1 Try.underlying24 hi hz0 hz1 hz2 rfl (by decide) x _ _ rfl (World.ownsRow.alloc HR.out _) ⟨w.heap.size, 0, none⟩ 2 2 [.int .u8 (z / 256), .int .u8 (z % 256)] rfl rfl (at_new2 _ _ _) (fun u hu => by simp at hu; first | (subst hu; rfl) | (rcases hu with rfl | rfl <;> rfl)) (by unfold maxLen; omega) (by omega) (by simp; omega) ?_; intro v' w2 hown hgrow hnil)
  go_ret
  exact ⟨_, rfl, RowBy.grow hown (cells_twoS HZ.out.1 HZ.out.2) rfl, ((Turns.refl _ w).alloc _).trans (grown_turns hgrow)⟩
theorem RowBy.nil (B : Nat) (w : World) : RowBy B w (.slice none 0 0) [] := World.ownsRow_nil w B 5 1
theorem RowBy.alloc {B : Nat} {w : World} {x : Value} {l : List UInt8} (h : RowBy B w x l) (o : Obj) : RowBy B (w.alloc o) x l := World.ownsRow.alloc h o
theorem RowBy.lt {B : Nat} {w : World} {x : Value} {l : List UInt8} (h : RowBy B w x l) {k : Nat} (e : x.ownBlock = some k) : k < w.heap.size := by
  obtain ⟨_, ⟨rfl, _⟩ | ⟨g, cap, cur, rfl, _, hc, _⟩⟩ := h
  · simp [Value.ownBlock] at e
  · simp [Value.ownBlock] at e
    subst e
    exact (Array.getElem?_eq_some_iff.1 hc).1
set_option maxHeartbeats 2000000 in
theorem sEmit (t l v : Int) (w : World) :
    Calls Try.prog 18 #[.agg #[.int .i64 t, .int .i64 l, .int .i64 v]] w fun e w' => e = .returned (.bool (Em.okB ⟨t, l, v⟩)) ∧ Below w.heap.size w w' := by
  go_enter Try.func18, Try.ntmps18
  go_wp2
  all_goals
    go_ret
    refine ⟨?_, (Below.refl _ _).alloc (Nat.le_refl _) _⟩
    first | exact ret_dec (by simp [Em.okB]; omega) | exact ret_bool (by simp [Em.okB]; omega)
/- What the bytes of a table are. -/
def emB (e : Em) : List UInt8 := twoB e.t ++ [byteOf e.l] ++ twoB e.v
def tabB (l : List Em) : List UInt8 := l.flatMap emB
theorem emB_length (e : Em) : (emB e).length = 5 := by simp [emB, twoB]
theorem tabB_length : ∀ l : List Em, (tabB l).length = 5 * l.length
  | [] => rfl
  | e :: l => by
    have h : tabB (e :: l) = emB e ++ tabB l := rfl
    rw [h, List.length_append, emB_length, tabB_length l, List.length_cons]
    omega
theorem take_snocX {l : List Em} {k : Nat} (h : k < l.length) : l.take (k + 1) = l.take k ++ [xAt l k] := by
  rw [List.take_add_one, xAt]
  simp [List.getD, h]
theorem tabB_snoc {l : List Em} {k : Nat} (h : k < l.length) : tabB (l.take (k + 1)) = tabB (l.take k) ++ emB (xAt l k) := by
  rw [take_snocX h]
  simp [tabB, List.flatMap_append]
theorem tabB_take_len {l : List Em} {k : Nat} (h : k ≤ l.length) (hl : l.length ≤ 1048576) : (tabB (l.take k)).length ≤ 5242880 := by
  rw [tabB_length, List.length_take]
  omega
def tabR (l : List Em) : List UInt8 := if emsC l = true then tabB l else []
theorem okX {l : List Em} {k : Nat} (h : emsC l = true) (hk : k < l.length) : (0 ≤ (xAt l k).t ∧ (xAt l k).t ≤ 65535) ∧ (0 ≤ (xAt l k).l ∧ (xAt l k).l ≤ 255) ∧ 0 ≤ (xAt l k).v ∧ (xAt l k).v ≤ 65535 := by
  have := List.all_eq_true.1 h k (List.mem_range.2 hk)
  simp [Em.okB] at this
  omega
end Go.Proofs.Ytacgdmojhhdegaa

/- The program's TableBytes. -/
namespace Go.Proofs.Ytacgdmojhhdegaa
open Go.RowKit
set_option maxRecDepth 100000 in
set_option maxHeartbeats 8000000 in
theorem iTab (x : Value) (l : List Em) (w : World) (hl : l.length ≤ 1048576) (h : IsX w x l) :
    Calls Try.prog 8 #[x] w fun e w' => ∃ u, e = .returned (.tuple #[u, .bool (emsC l)]) ∧ By.OwnI w.heap.size w' u (tabR l) ∧ Below w.heap.size w w' := by
  have HX : Hid (IsX w x l) := h
  obtain ⟨a, cap, rfl, h1, h2, h3⟩ := h
  have H3 : Hid (l = [] ∨ ∃ b off, a = some ⟨b, off, none⟩ ∧ XsAt w b off l) := h3
  clear h1 h2 h3
  obtain ⟨i0, hi, hz0, hz1, hz2⟩ := info_parts By.info5
  obtain ⟨B, hB⟩ : ∃ B, B = w.heap.size := ⟨_, rfl⟩
  go_enter Try.func8, Try.ntmps8
  go_wp2_with fail
  refine (iEmits _ l _ hl HX.out).mono ?_
  rintro e w1 ⟨rfl, hb⟩
  rw [← hB] at hb
  have hBw : B ≤ w.heap.size ∧ w.heap.size ≤ B := by omega
  have HB1 : Hid (Below B w w1) := hb
  clear hb hB
  cases hok : emsC l with
  | false =>
    have HN : Hid (tabR l = []) := (by simp [tabR, hok] : tabR l = [])
    have HNO : Hid (emsC l = false) := hok
    clear hok
    go_wp2
    go_ret2
    exact ⟨_, by rw [HNO.out]; rfl, by rw [HN.out]; exact By.OwnI.nil _ _, HB1.out.mono hBw.2⟩
  | true =>
    have HY : Hid (tabR l = tabB l) := (by simp [tabR, hok] : tabR l = tabB l)
    have HOK : Hid (emsC l = true) := hok
    clear hok
    go_wp2
    go_loopw [4, 12] (fun o i wr => ∃ (k : Nat) (v : Value), k ≤ l.length ∧ v = o ∧ i = .int .i64 k ∧ RowBy B wr o (tabB (l.take k)) ∧ Below B w wr) (fun _ i _ => l.length - (intOf i).toNat)
    case atStart => exact ⟨0, _, Nat.zero_le _, rfl, rfl, RowBy.nil _ _, HB1.out⟩
    case round =>
      clear HB1
      obtain ⟨k, o, hk, rfl, rfl, hR, hBr⟩ := hrel
      have HR1 : Hid (RowBy B wr o (tabB (l.take k))) := hR
      have HB1 : Hid (Below B w wr) := hBr
      have hs1 : B ≤ wr.heap.size := Nat.le_trans hBw.1 hBr.size
      have hln : (tabB (l.take k)).length ≤ 5242880 := tabB_take_len hk hl
      clear hR
      by_cases hlt : k < l.length
      · obtain ⟨b, off, rfl, hb, hc⟩ := H3.out.resolve_left (by intro e; rw [e] at hlt; simp at hlt)
        obtain ⟨g0, g1, g2⟩ := (hc k hlt).below hBr (Nat.lt_of_lt_of_le hb hBw.2)
        have HS : Hid (tabB (l.take (k + 1)) = tabB (l.take k) ++ emB (xAt l k)) := tabB_snoc hlt
        have HSS : Hid ((0 ≤ (xAt l k).t ∧ (xAt l k).t ≤ 65535) ∧ (0 ≤ (xAt l k).l ∧ (xAt l k).l ≤ 255) ∧ 0 ≤ (xAt l k).v ∧ (xAt l k).v ≤ 65535) := okX HOK.out hlt
        clear hc hBr
        generalize tabB (l.take k) = lq at HR1 hln HS
        generalize xAt l k = e at g0 g1 g2 HS HSS
        obtain ⟨et, el, ev⟩ := e
        have hb8 : 0 ≤ el ∧ el ≤ 255 := HSS.out.2.1
        dsimp only at g0 g1 g2
        obtain ⟨V, hV⟩ : ∃ V, wr.alloc (.cells #[.int .i64 et, .int .i64 el, .int .i64 ev] 40) = V := ⟨_, rfl⟩
        have hsV : B ≤ V.heap.size := by rw [← hV]; simp; omega
        have HBV : Hid (Below B w V) := hV ▸ HB1.out.alloc hs1 _
        have HRV : Hid (RowBy B V o lq) := hV ▸ World.ownsRow.alloc HR1.out _
        have HQV : Hid (Bk V wr.heap.size 40 #[.int .i64 et, .int .i64 el, .int .i64 ev]) := hV ▸ Bk.new _ _ _
        have e0 := HQV.out.cell (i := 0) rfl
        clear HB1 HR1
        go_wp2_with fail
        clear e0 g0 g1 g2 hV
        refine (iTwo_any B _ _ _ _ hsV (by omega) HSS.out.1.1 HSS.out.1.2 HRV.out).mono ?_
        rintro e w3 ⟨v3, rfl, hr3, ht3⟩
        have HR3 : Hid (RowBy B w3 v3 (lq ++ twoB et)) := hr3
        have HB3 : Hid (Below B w w3) := HBV.out.trans (ht3.to_below (fun k e => row_ge HRV.out e) hsV)
        have HQ3 : Hid (Bk w3 wr.heap.size 40 #[.int .i64 et, .int .i64 el, .int .i64 ev]) := HQV.out.turns ht3 (HRV.out.ne HQV.out (by decide))
        have e1 := HQ3.out.cell (i := 1) rfl
        have hs3 : B ≤ w3.heap.size := Nat.le_trans hBw.1 HB3.out.size
        have hl3 : (lq ++ twoB et).length = lq.length + 2 := by rw [List.length_append]; rfl
        clear hr3 ht3 HRV HBV HQV
        go_wp2_with (at_builtin; refine wpList_append_own _ rfl _ _ 24 rfl B 5 i0 (.int .u8 0) 1 1 Try.underlying24 hi hz0 hz1 hz2 rfl (by decide) v3 _ _ rfl (World.ownsRow.alloc HR3.out _) ⟨w3.heap.size, 0, none⟩ 1 1 [.int .u8 el] rfl rfl (at_new1 _ _) (fun u hu => by simp at hu; first | (subst hu; rfl) | (rcases hu with rfl | rfl <;> rfl)) (by unfold maxLen; omega) (by omega) (by simp; omega) ?_; intro v4 w4 hown hgrow hnil; have HR4 : Hid (RowBy B w4 v4 (lq ++ twoB et ++ [byteOf el])) := RowBy.grow hown (cells_oneS hb8.1 hb8.2) rfl; have HB4 : Hid (Below B w w4) := (HB3.out.alloc hs3 _).grown hgrow (by simp; omega) (fun j e => row_ge HR3.out e); have HQ4 : Hid (Bk w4 wr.heap.size 40 #[.int .i64 et, .int .i64 el, .int .i64 ev]) := (HQ3.out.alloc _).turns (grown_turns hgrow) (HR3.out.ne HQ3.out (by decide)); have e2 := HQ4.out.cell (i := 2) rfl; clear hown hgrow hnil)
        have hs4 : B ≤ w4.heap.size := Nat.le_trans hBw.1 HB4.out.size
        have hl4 : (lq ++ twoB et ++ [byteOf el]).length = lq.length + 3 := by rw [List.length_append, hl3]; rfl
        clear e1 e2 HR3 HB3 HQ3
        refine (iTwo_any B _ _ _ _ hs4 (by omega) HSS.out.2.2.1 HSS.out.2.2.2 HR4.out).mono ?_
        rintro e w5 ⟨v5, rfl, hr5, ht5⟩
        have HR5 : Hid (RowBy B w5 v5 (lq ++ twoB et ++ [byteOf el] ++ twoB ev)) := hr5
        have HB5 : Hid (Below B w w5) := HB4.out.trans (ht5.to_below (fun k e => row_ge HR4.out e) hs4)
        clear hr5 ht5 HR4 HB4 HQ4
        go_wp2
        go_roundw
        case rel =>
          refine ⟨k + 1, _, by omega, rfl, by go_num, ?_, HB5.out⟩
          rw [HS.out]
          simpa [emB] using HR5.out
        case measure => simp [intOf]; omega
      · obtain rfl : l.length = k := by omega
        clear hBr
        go_wp2
        go_ret2
        exact ⟨_, by rw [HOK.out]; rfl, by rw [HY.out]; have := HR1.out; rw [List.take_length] at this; exact (RowBy.mono this hBw.2).own, HB1.out.mono hBw.2⟩
end Go.Proofs.Ytacgdmojhhdegaa

