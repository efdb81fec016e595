/- TbE, TrP, TrI -/
import Derived.Test.YtacgdmojhhdegaaExactTableReadG03
import Derived.Test.YtacgdmojhhdegaaExactTableReadG04
import Derived.Test.YtacgdmojhhdegaaExactTableReadG01
/- Which emits may be; rows of bytes that grow. -/
namespace Go.Proofs.Ytacgdmojhhdegaa
open Go.RowKit
def Em.okB (x : Em) : Bool := decide (0 ≤ x.t ∧ x.t ≤ 1000 ∧ 0 ≤ x.l ∧ x.l ≤ 3 ∧ 0 ≤ x.v ∧ x.v ≤ 999)
theorem all_yes {n : Nat} {f : Nat → Bool} (h : ∀ i, i < n → f i = true) : (List.range n).all f = true := by
  rw [List.all_eq_true]
  intro i hi
  exact h i (List.mem_range.1 hi)
theorem all_no {n : Nat} {f : Nat → Bool} {i : Nat} (hi : i < n) (h : f i = false) : (List.range n).all f = false := by
  rw [List.all_eq_false]
  exact ⟨i, List.mem_range.2 hi, by rw [h]; decide⟩
def emsC (l : List Em) : Bool := (List.range l.length).all fun i => (xAt l i).okB
set_option maxHeartbeats 4000000 in
theorem iEmits (x : Value) (l : List Em) (w : World) (hl : l.length ≤ 1048576) (h : IsX w x l) :
    Calls Try.prog 21 #[x] w fun e w' => e = .returned (.bool (emsC l)) ∧ Below w.heap.size w w' := by
  obtain ⟨a, cap, rfl, h1, h2, h⟩ := h
  clear h1 h2
  go_enter Try.func21, Try.ntmps21
  go_wp2
  go_loopw [7] (fun i wr => ∃ k : Nat, k ≤ l.length ∧ i = .int .i64 k ∧ Hid (∀ j, j < k → (xAt l j).okB = true) ∧ Below w.heap.size w wr) (fun i _ => l.length - (intOf i).toNat)
  case atStart => exact ⟨0, Nat.zero_le _, rfl, fun j hj => by omega, Below.refl _ _⟩
  case round =>
    obtain ⟨k, hk, rfl, HA, hB⟩ := hrel
    have HB : Hid (Below w.heap.size w wr) := hB
    by_cases hlt : k < l.length
    · obtain ⟨b, off, rfl, hb, hc⟩ := h.resolve_left (by intro e; subst e; simp at hlt)
      obtain ⟨f0, f1, f2⟩ := (hc k hlt).below hB hb
      clear hc h hB
      have HNO : Hid ((xAt l k).okB = false → emsC l = false) := fun h => by unfold emsC; rw [all_no hlt h]
      have HDEF : Hid ((xAt l k).okB = decide (0 ≤ (xAt l k).t ∧ (xAt l k).t ≤ 1000 ∧ 0 ≤ (xAt l k).l ∧ (xAt l k).l ≤ 3 ∧ 0 ≤ (xAt l k).v ∧ (xAt l k).v ≤ 999)) := rfl
      generalize (xAt l k).t = et at f0 HDEF
      generalize (xAt l k).l = el at f1 HDEF
      generalize (xAt l k).v = ev at f2 HDEF
      obtain ⟨W1, hW1⟩ : ∃ W1, wr.alloc (.cells #[.int .i64 et, .int .i64 el, .int .i64 ev] 40) = W1 := ⟨_, rfl⟩
      have HB1 : Hid (Below w.heap.size w W1) := by rw [← hW1]; exact HB.out.alloc HB.out.size _
      have HX : Hid (Bk W1 wr.heap.size 40 #[.int .i64 et, .int .i64 el, .int .i64 ev]) := by rw [← hW1]; exact Bk.new _ _ _
      have x0 := HX.out.cell (i := 0) rfl
      have x1 := HX.out.cell (i := 1) rfl
      have x2 := HX.out.cell (i := 2) rfl
      go_wp2_with fail
      refine (within_any _ _ _ _).mono ?_
      rintro e w2 ⟨rfl, hw⟩
      have hw' := hw.symm
      clear hw
      subst hw'
      clear hW1 f0 f1 f2
      by_cases c0 : 0 ≤ et ∧ et ≤ 1000
      case neg =>
        rw [show (decide (0 ≤ et) && decide (et ≤ 1000)) = false from by rw [← Bool.decide_and]; exact decide_eq_false c0]
        have HN : Hid (emsC l = false) := HNO.out (by rw [HDEF.out]; exact decide_eq_false (by omega))
        clear c0
        go_wp2
        go_ret
        exact ⟨ret_bool HN.out.symm, HB1.out⟩
      rw [show (decide (0 ≤ et) && decide (et ≤ 1000)) = true from by rw [← Bool.decide_and]; exact decide_eq_true c0]
      have C0 : Hid (0 ≤ et ∧ et ≤ 1000) := c0
      clear c0
      go_wp2_with fail
      refine (within_any _ _ _ _).mono ?_
      rintro e w2 ⟨rfl, hw⟩
      have hw' := hw.symm
      clear hw
      subst hw'
      by_cases c1 : 0 ≤ el ∧ el ≤ 3
      case neg =>
        rw [show (decide (0 ≤ el) && decide (el ≤ 3)) = false from by rw [← Bool.decide_and]; exact decide_eq_false c1]
        have HN : Hid (emsC l = false) := HNO.out (by rw [HDEF.out]; exact decide_eq_false (by omega))
        clear c1
        go_wp2
        go_ret
        exact ⟨ret_bool HN.out.symm, HB1.out⟩
      rw [show (decide (0 ≤ el) && decide (el ≤ 3)) = true from by rw [← Bool.decide_and]; exact decide_eq_true c1]
      have C1 : Hid (0 ≤ el ∧ el ≤ 3) := c1
      clear c1
      go_wp2_with fail
      refine (within_any _ _ _ _).mono ?_
      rintro e w2 ⟨rfl, hw⟩
      have hw' := hw.symm
      clear hw
      subst hw'
      by_cases c2 : 0 ≤ ev ∧ ev ≤ 999
      case neg =>
        rw [show (decide (0 ≤ ev) && decide (ev ≤ 999)) = false from by rw [← Bool.decide_and]; exact decide_eq_false c2]
        have HN : Hid (emsC l = false) := HNO.out (by rw [HDEF.out]; exact decide_eq_false (by omega))
        clear c2
        go_wp2
        go_ret
        exact ⟨ret_bool HN.out.symm, HB1.out⟩
      rw [show (decide (0 ≤ ev) && decide (ev ≤ 999)) = true from by rw [← Bool.decide_and]; exact decide_eq_true c2]
      have C2 : Hid (0 ≤ ev ∧ ev ≤ 999) := c2
      clear c2
      have HY : Hid ((xAt l k).okB = true) := by rw [HDEF.out]; exact decide_eq_true ⟨C0.out.1, C0.out.2, C1.out.1, C1.out.2, C2.out.1, C2.out.2⟩
      go_wp2
      go_roundw
      case rel => exact ⟨k + 1, by omega, by go_num, fun j hj => by
        by_cases e : j = k
        · subst e; exact HY.out
        · exact HA.out j (by omega), HB1.out⟩
      case measure => simp [intOf]; omega
    · have HYES : Hid (emsC l = true) := by
        show emsC l = true
        unfold emsC
        rw [all_yes (fun j hj => HA.out j (by omega))]
      clear h hB
      go_wp2
      go_ret
      exact ⟨ret_bool HYES.out.symm, HB.out⟩
theorem row_ge {B : Nat} {w : World} {e : TypeId} {v : Value} {n size : Nat} {xs : List Value} (h : w.ownsRow B e size v n xs) {r : Nat} (hr : v.ownBlock = some r) : B ≤ r := by
  obtain ⟨_, ⟨rfl, _⟩ | ⟨g, cap, cur, rfl, hg, _⟩⟩ := h
  · simp [Value.ownBlock] at hr
  · simp [Value.ownBlock] at hr; omega
def byteOf (z : Int) : UInt8 := UInt8.ofNat (z % 256).toNat
theorem byteOf_val (z : Int) : ((byteOf z).toNat : Int) = z % 256 := by
  unfold byteOf
  have h1 : 0 ≤ z % 256 := Int.emod_nonneg _ (by omega)
  have h2 : z % 256 < 256 := Int.emod_lt_of_pos _ (by omega)
  rw [UInt8.toNat_ofNat']
  omega
def twoB (z : Int) : List UInt8 := [byteOf (z / 256), byteOf z]
def RowBy (B : Nat) (w : World) (x : Value) (l : List UInt8) : Prop := w.ownsRow B 5 1 x l.length (By.intCells l)
theorem byCells_append (l l' : List UInt8) : By.intCells (l ++ l') = By.intCells l ++ By.intCells l' := by simp [By.intCells]
theorem RowBy.own {B : Nat} {w : World} {x : Value} {l : List UInt8} (h : RowBy B w x l) : By.OwnI B w x l := By.OwnI.of_row h
theorem RowBy.mono {B B' : Nat} {w : World} {x : Value} {l : List UInt8} (h : RowBy B w x l) (hB : B' ≤ B) : RowBy B' w x l := by
  obtain ⟨h0, h1 | ⟨g, cap, cur, e, hg, h1⟩⟩ := h
  · exact ⟨h0, .inl h1⟩
  · exact ⟨h0, .inr ⟨g, cap, cur, e, Nat.le_trans hB hg, h1⟩⟩
theorem RowBy.below {B : Nat} {w w' : World} {x : Value} {l : List UInt8} (h : RowBy B w x l) (hb : Below w.heap.size w w') : RowBy B w' x l := by
  obtain ⟨h0, h1 | ⟨g, cap, cur, e, hg, hc, h1⟩⟩ := h
  · exact ⟨h0, .inl h1⟩
  · exact ⟨h0, .inr ⟨g, cap, cur, e, hg, (hb.block g (Array.getElem?_eq_some_iff.1 hc).1).trans hc, h1⟩⟩
theorem RowBy.ne {B : Nat} {w : World} {x : Value} {l : List UInt8} (h : RowBy B w x l) {P : Nat} {T : TypeId} {vs : Array Value} (hb : Bk w P T vs) (hT : T ≠ 5) : ¬ x.ownBlock = some P := by
  intro e
  obtain ⟨_, ⟨rfl, _⟩ | ⟨g, cap, cur, rfl, _, hc, _⟩⟩ := h
  · simp [Value.ownBlock] at e
  · simp [Value.ownBlock] at e
    subst e
    have hb' : w.heap[g]? = some (.cells vs T) := hb
    rw [hb'] at hc
    simp at hc
    exact hT hc.2
theorem grown_turns {w w' : World} {row : Option Nat} (h : w.grownBy w' row) : Turns (fun k => row = some k) w w' := ⟨h.os, h.tape, h.output, h.size, fun k hk hS => h.block k hk (fun e => hS e.symm)⟩
theorem at_new2 (w : World) (a b : Value) : ∀ j u, [a, b][j]? = some u → (w.alloc (.cells #[a, b] 5)).cell? ((⟨w.heap.size, 0, none⟩ : Addr).add j) = some u := by
  intro j u hu
  match j, hu with
  | 0, hu => simp at hu; subst hu; simp [Addr.add]
  | 1, hu => simp at hu; subst hu; simp [Addr.add]
  | (j + 2), hu => simp at hu
theorem at_new1 (w : World) (a : Value) : ∀ j u, [a][j]? = some u → (w.alloc (.cells #[a] 5)).cell? ((⟨w.heap.size, 0, none⟩ : Addr).add j) = some u := by
  intro j u hu
  match j, hu with
  | 0, hu => simp at hu; subst hu; simp [Addr.add]
  | (j + 1), hu => simp at hu
theorem RowBy.grow {B : Nat} {w : World} {v : Value} {l r : List UInt8} {n : Nat} {cs : List Value} (h : w.ownsRow B 5 1 v (l.length + n) (By.intCells l ++ cs)) (hcs : By.intCells r = cs) (hn : r.length = n) : RowBy B w v (l ++ r) := by
  subst hcs hn
  unfold RowBy
  rw [List.length_append, byCells_append]
  exact h
theorem cells_one (z : Int) : By.intCells [byteOf z] = [.int .u8 (z % 256)] := by simp [By.intCells, byteOf_val]
theorem cells_oneS {z : Int} (h0 : 0 ≤ z) (h1 : z ≤ 255) : By.intCells [byteOf z] = [.int .u8 z] := by rw [cells_one, show z % 256 = z by omega]
theorem cells_two (z : Int) : By.intCells (twoB z) = [.int .u8 (z / 256 % 256), .int .u8 (z % 256)] := by simp [By.intCells, twoB, byteOf_val]
theorem cells_twoS {z : Int} (h0 : 0 ≤ z) (h1 : z ≤ 65535) : By.intCells (twoB z) = [.int .u8 (z / 256), .int .u8 (z % 256)] := by rw [cells_two, show z / 256 % 256 = z / 256 by omega]
set_option maxRecDepth 100000 in
set_option maxHeartbeats 1000000 in
theorem sTwo_any (B : Nat) (x : Value) (l : List UInt8) (z : Int) (w : World) (hB : B ≤ w.heap.size) (hl : l.length ≤ 1000000000) (h : RowBy B w x l) :
    Calls Try.prog 25 #[x, .int .i64 z] w fun e w' => ∃ y, e = .returned y ∧ RowBy B w' y (l ++ twoB z) ∧ Turns (fun k => x.ownBlock = some k) w w' := by
  obtain ⟨i0, hi, hz0, hz1, hz2⟩ := info_parts By.info5
  have HR : Hid (RowBy B w x l) := h
  clear h
  go_enter Try.func25, Try.ntmps25
  go_wp2_with (at_builtin; refine wpList_append_own _ rfl _ _ 24 rfl B 5 i0 (.int .u8 0) 1 1 Try.underlying24 hi hz0 hz1 hz2 rfl (by decide) x _ _ rfl (World.ownsRow.alloc HR.out _) ⟨w.heap.size, 0, none⟩ 2 2 [.int .u8 (z / 256 % 256), .int .u8 (z % 256)] rfl rfl (at_new2 _ _ _) (fun u hu => by simp at hu; first | (subst hu; rfl) | (rcases hu with rfl | rfl <;> rfl)) (by unfold maxLen; omega) (by omega) (by simp; omega) ?_; intro v' w2 hown hgrow hnil)
  go_ret
  exact ⟨_, rfl, RowBy.grow hown (cells_two z) rfl, ((Turns.refl _ w).alloc _).trans (grown_turns hgrow)⟩
set_option maxRecDepth 100000 in
set_option maxHeartbeats 1000000 in
theorem iTwo_any (B : Nat) (x : Value) (l : List UInt8) (z : Int) (w : World) (hB : B ≤ w.heap.size) (hl : l.length ≤ 1000000000) (hz : 0 ≤ z) (hz9 : z ≤ 65535) (h : RowBy B w x l) :
    Calls Try.prog 22 #[x, .int .i64 z] w fun e w' => ∃ y, e = .returned y ∧ RowBy B w' y (l ++ twoB z) ∧ Turns (fun k => x.ownBlock = some k) w w' := by
  obtain ⟨i0, hi, hz0, hz1, hz2⟩ := info_parts By.info5
  have HR : Hid (RowBy B w x l) := h
  have HZ : Hid (0 ≤ z ∧ z ≤ 65535) := ⟨hz, hz9⟩
  clear h
  go_enter Try.func22, Try.ntmps22
  go_wp2_with (at_builtin; refine wpList_append_own _ rfl _ _ 24 rfl B 5 i0 (.int .u8 0) 1 1 Try.underlying24 hi hz0 hz1 hz2 rfl (by decide) x _ _ rfl (World.ownsRow.alloc HR.out _) ⟨w.heap.size, 0, none⟩ 2 2 [.int .u8 (z / 256), .int .u8 (z % 256)] rfl rfl (at_new2 _ _ _) (fun u hu => by simp at hu; first | (subst hu; rfl) | (rcases hu with rfl | rfl <;> rfl)) (by unfold maxLen; omega) (by omega) (by simp; omega) ?_; intro v' w2 hown hgrow hnil)
  go_ret
  exact ⟨_, rfl, RowBy.grow hown (cells_twoS HZ.out.1 HZ.out.2) rfl, ((Turns.refl _ w).alloc _).trans (grown_turns hgrow)⟩
theorem RowBy.nil (B : Nat) (w : World) : RowBy B w (.slice none 0 0) [] := World.ownsRow_nil w B 5 1
theorem RowBy.alloc {B : Nat} {w : World} {x : Value} {l : List UInt8} (h : RowBy B w x l) (o : Obj) : RowBy B (w.alloc o) x l := World.ownsRow.alloc h o
theorem RowBy.lt {B : Nat} {w : World} {x : Value} {l : List UInt8} (h : RowBy B w x l) {k : Nat} (e : x.ownBlock = some k) : k < w.heap.size := by
  obtain ⟨_, ⟨rfl, _⟩ | ⟨g, cap, cur, rfl, _, hc, _⟩⟩ := h
  · simp [Value.ownBlock] at e
  · simp [Value.ownBlock] at e
    subst e
    exact (Array.getElem?_eq_some_iff.1 hc).1
set_option maxHeartbeats 2000000 in
theorem sEmit (t l v : Int) (w : World) :
    Calls Try.prog 18 #[.agg #[.int .i64 t, .int .i64 l, .int .i64 v]] w fun e w' => e = .returned (.bool (Em.okB ⟨t, l, v⟩)) ∧ Below w.heap.size w w' := by
  go_enter Try.func18, Try.ntmps18
  go_wp2
  all_goals
    go_ret
    refine ⟨?_, (Below.refl _ _).alloc (Nat.le_refl _) _⟩
    first | exact ret_dec (by simp [Em.okB]; omega) | exact ret_bool (by simp [Em.okB]; omega)
/- What the bytes of a table are. -/
def emB (e : Em) : List UInt8 := twoB e.t ++ [byteOf e.l] ++ twoB e.v
def tabB (l : List Em) : List UInt8 := l.flatMap emB
theorem emB_length (e : Em) : (emB e).length = 5 := by simp [emB, twoB]
theorem tabB_length : ∀ l : List Em, (tabB l).length = 5 * l.length
  | [] => rfl
  | e :: l => by
    have h : tabB (e :: l) = emB e ++ tabB l := rfl
    rw [h, List.length_append, emB_length, tabB_length l, List.length_cons]
    omega
theorem take_snocX {l : List Em} {k : Nat} (h : k < l.length) : l.take (k + 1) = l.take k ++ [xAt l k] := by
  rw [List.take_add_one, xAt]
  simp [List.getD, h]
theorem tabB_snoc {l : List Em} {k : Nat} (h : k < l.length) : tabB (l.take (k + 1)) = tabB (l.take k) ++ emB (xAt l k) := by
  rw [take_snocX h]
  simp [tabB, List.flatMap_append]
theorem tabB_take_len {l : List Em} {k : Nat} (h : k ≤ l.length) (hl : l.length ≤ 1048576) : (tabB (l.take k)).length ≤ 5242880 := by
  rw [tabB_length, List.length_take]
  omega
def tabR (l : List Em) : List UInt8 := if emsC l = true then tabB l else []
theorem okX {l : List Em} {k : Nat} (h : emsC l = true) (hk : k < l.length) : (0 ≤ (xAt l k).t ∧ (xAt l k).t ≤ 65535) ∧ (0 ≤ (xAt l k).l ∧ (xAt l k).l ≤ 255) ∧ 0 ≤ (xAt l k).v ∧ (xAt l k).v ≤ 65535 := by
  have := List.all_eq_true.1 h k (List.mem_range.2 hk)
  simp [Em.okB] at this
  omega
end Go.Proofs.Ytacgdmojhhdegaa

/- What the bytes of a table are read as. -/
namespace Go.Proofs.Ytacgdmojhhdegaa
open Go.RowKit
def by8 (l : List UInt8) (p : Nat) : Int := ((By.intAt l p).toNat : Int)
theorem by8_low (l : List UInt8) (p : Nat) : 0 ≤ by8 l p ∧ by8 l p ≤ 255 := by
  have := (By.intAt l p).toNat_lt
  unfold by8
  omega
def val1 (l : List UInt8) (σ : Option Nat) : Int := match σ with
  | none => 0
  | some p => if p + 1 ≤ l.length then by8 l p else 0
def val2 (l : List UInt8) (σ : Option Nat) : Int := match σ with
  | none => 0
  | some p => if p + 2 ≤ l.length then by8 l p * 256 + by8 l (p + 1) else 0
def nxt (l : List UInt8) (n : Nat) (σ : Option Nat) : Option Nat := match σ with
  | none => none
  | some p => if p + n ≤ l.length then some (p + n) else none
def Rd (B : Nat) (w : World) (R : Nat) (l : List UInt8) (p : Nat) : Prop := B ≤ R ∧ ∃ a cap, Bk w R 50 #[.slice a (l.length - p) cap] ∧ p ≤ l.length ∧ l.length - p ≤ cap ∧ cap ≤ maxLen ∧ (p = l.length ∨ ∃ b off, a = some ⟨b, off + p, none⟩ ∧ b < B ∧ By.IntsAt w b off l)
def Pan (e : Ending) : Prop := ∃ u pv, e = .panicked [{ v := .iface u pv, recovered := false }]
theorem Rd.bk {B : Nat} {w : World} {R : Nat} {l : List UInt8} {p : Nat} (h : Rd B w R l p) : ∃ vs, Bk w R 50 vs := by
  obtain ⟨_, a, cap, hB, _⟩ := h
  exact ⟨_, hB⟩
theorem Rd.turns {S : Nat → Prop} {B : Nat} {w w' : World} {R : Nat} {l : List UInt8} {p : Nat} (h : Rd B w R l p) (ht : Turns S w w') (hR : ¬ S R) (hS : ∀ k, S k → B ≤ k) : Rd B w' R l p := by
  obtain ⟨h0, a, cap, hB, h1, h2, h3, h4⟩ := h
  refine ⟨h0, a, cap, hB.turns ht hR, h1, h2, h3, h4.imp id ?_⟩
  rintro ⟨b, off, rfl, hbR, hI⟩
  exact ⟨b, off, rfl, hbR, Nat.lt_of_lt_of_le hI.1 ht.size, fun i hi => (ht.cell hI.1 (fun e => Nat.lt_irrefl _ (Nat.lt_of_lt_of_le hbR (hS _ e)))).trans (hI.2 i hi)⟩
theorem Rd.below {B : Nat} {w w' : World} {R : Nat} {l : List UInt8} {p : Nat} (h : Rd B w R l p) (hb : Below w.heap.size w w') : Rd B w' R l p := h.turns (S := fun _ => False) (Turns.of_below hb) id (fun _ e => e.elim)
theorem Rd.alloc {B : Nat} {w : World} {R : Nat} {l : List UInt8} {p : Nat} (h : Rd B w R l p) (x : Obj) : Rd B (w.alloc x) R l p := h.below ((Below.refl _ w).alloc (Nat.le_refl _) x)
theorem Rd.drew {B : Nat} {w : World} {R : Nat} {l : List UInt8} {p : Nat} (h : Rd B w R l p) : Rd B w.drew R l p := h.below (Below.refl _ w).drew
theorem Rd.lt {B : Nat} {w : World} {R : Nat} {l : List UInt8} {p : Nat} (h : Rd B w R l p) : R < w.heap.size := h.bk.choose_spec.lt
theorem Rd.le {B : Nat} {w : World} {R : Nat} {l : List UInt8} {p : Nat} (h : Rd B w R l p) : p ≤ l.length := h.2.choose_spec.choose_spec.2.1
theorem Rd.put {B : Nat} {w : World} {R : Nat} {l : List UInt8} {p : Nat} (h : Rd B w R l p) {b : Nat} (hb : B ≤ b) (hR : R ≠ b) (o : Nat) (u : Value) : Rd B (w.setCell ⟨b, o, none⟩ u) R l p := h.turns (put1_turns w b o u) hR (fun _ e => e ▸ hb)
theorem rd_n {a p : Nat} (h : p < a) : ∃ n, a - p = n + 1 ∧ a - (p + 1) = n := ⟨a - p - 1, by omega, by omega⟩
theorem nxt_one {l : List UInt8} {p q : Nat} (h : nxt l 1 (some p) = some q) : p + 1 ≤ l.length ∧ q = p + 1 := by
  unfold nxt at h
  simp at h
  exact ⟨h.1, h.2.symm⟩
theorem nxt_one_none {l : List UInt8} {p : Nat} (h : nxt l 1 (some p) = none) : ¬ p + 1 ≤ l.length := by
  intro hp
  simp [nxt, hp] at h
theorem nxt_two_none {l : List UInt8} {p : Nat} (h : nxt l 1 (some (p + 1)) = none) : nxt l 2 (some p) = none := by
  have := nxt_one_none h
  have h2 : ¬ p + 2 ≤ l.length := this
  simp [nxt, h2]
theorem nxt_two_none' {l : List UInt8} {p : Nat} (h : nxt l 1 (some p) = none) : nxt l 2 (some p) = none := by
  have := nxt_one_none h
  have h2 : ¬ p + 2 ≤ l.length := by omega
  simp [nxt, h2]
set_option maxRecDepth 100000 in
set_option maxHeartbeats 8000000 in
theorem one_any (B R : Nat) (l : List UInt8) (p : Nat) (w : World) (_hl : l.length ≤ 1048576) (hR : Rd B w R l p) :
    Calls Try.prog 28 #[.pointer (some ⟨R, 0, none⟩)] w fun e w' => Turns (fun k => k = R) w w' ∧ ((∃ q, nxt l 1 (some p) = some q ∧ e = .returned (.int .i64 (val1 l (some p))) ∧ Rd B w' R l q) ∨ (nxt l 1 (some p) = none ∧ Pan e)) := by
  obtain ⟨h0, a, cap, hB, h1, h2, h3, h4⟩ := hR
  have HB : Hid (Bk w R 50 #[.slice a (l.length - p) cap]) := hB
  have c0 := hB.cell (i := 0) rfl
  have f0 := hB.free 0
  unfold maxLen at h3
  by_cases hp : p = l.length
  · have HN : Hid (nxt l 1 (some p) = none) := (by simp [nxt, hp] : nxt l 1 (some p) = none)
    have hz : l.length - p = 0 := by omega
    rw [hz] at c0
    clear hB h4
    go_enter Try.func28, Try.ntmps28
    go_wp2
    exact ⟨rfl, Turns.refl _ _, .inr ⟨HN.out, _, _, rfl⟩⟩
  · obtain ⟨b, off, rfl, hbB, hI⟩ := h4.resolve_left hp
    have hbR : b ≠ R := fun e => Nat.lt_irrefl _ (Nat.lt_of_lt_of_le hbB (e ▸ h0))
    have hlt : p < l.length := Nat.lt_of_le_of_ne h1 hp
    clear hp
    have HI : Hid (By.IntsAt w b off l) := hI
    obtain ⟨n, hn, hnn⟩ := rd_n hlt
    have HN : Hid (nxt l 1 (some p) = some (p + 1)) := (by have : p + 1 ≤ l.length := hlt; simp [nxt, this] : nxt l 1 (some p) = some (p + 1))
    have HV : Hid (val1 l (some p) = by8 l p) := (by have : p + 1 ≤ l.length := hlt; simp [val1, this] : val1 l (some p) = by8 l p)
    have g0 : w.cell? ⟨b, off + p, none⟩ = some (.int .u8 (by8 l p)) := hI.2 p (by omega)
    have hb0 := by8_low l p
    rw [hn] at c0 h2
    clear hB h4 hI
    generalize by8 l p = y0 at *
    go_enter Try.func28, Try.ntmps28
    go_wp2
    · rename_i hc1
      go_ret
      have ht := put1_turns w R 0 (.slice (some ⟨b, off + p, none⟩) n 0)
      refine ⟨ht, .inl ⟨p + 1, HN.out, ret_int HV.out.symm, h0, some ⟨b, off + p, none⟩, 0, ?_, hlt, ?_, ?_, .inl ?_⟩⟩
      · rw [hnn]
        exact HB.out.put 0 _
      · rw [hnn]; clear hbR; omega
      · exact Nat.zero_le _
      · clear hbR; omega
    · go_ret
      have ht := put1_turns w R 0 (.slice (some ⟨b, off + p + 1, none⟩) n (cap - 1))
      refine ⟨ht, .inl ⟨p + 1, HN.out, ret_int HV.out.symm, h0, _, cap - 1, ?_, hlt, ?_, ?_, .inr ⟨b, off, rfl, hbB, Nat.lt_of_lt_of_le HI.out.1 ht.size, fun i hi => (ht.cell HI.out.1 hbR).trans (HI.out.2 i hi)⟩⟩⟩
      · rw [hnn]
        exact HB.out.put 0 _
      · rw [hnn]; clear hbR; omega
      · clear hbR; unfold maxLen; omega
set_option maxRecDepth 100000 in
set_option maxHeartbeats 8000000 in
theorem two_any (B R : Nat) (l : List UInt8) (p : Nat) (w : World) (hl : l.length ≤ 1048576) (hR : Rd B w R l p) :
    Calls Try.prog 27 #[.pointer (some ⟨R, 0, none⟩)] w fun e w' => Turns (fun k => k = R) w w' ∧ ((∃ q, nxt l 2 (some p) = some q ∧ e = .returned (.int .i64 (val2 l (some p))) ∧ Rd B w' R l q) ∨ (nxt l 2 (some p) = none ∧ Pan e)) := by
  have HR : Hid (Rd B w R l p) := hR
  clear hR
  go_enter Try.func27, Try.ntmps27
  go_wp2_with fail
  refine (one_any B R l p _ hl HR.out).mono ?_
  rintro e w1 ⟨ht, (⟨q, hq, rfl, hR1⟩ | ⟨hq, u, pv, rfl⟩)⟩
  · have HT1 : Hid (Turns (fun k => k = R) w w1) := ht
    obtain ⟨hp1, rfl⟩ := nxt_one hq
    rw [show val1 l (some p) = by8 l p from by simp [val1, hp1]]
    have hb0 := by8_low l p
    have HR1 : Hid (Rd B w1 R l (p + 1)) := hR1
    have HY0 : Hid (∃ y, by8 l p = y) := ⟨_, rfl⟩
    clear ht hq hR1
    generalize h0 : by8 l p = y0 at hb0 ⊢
    have H0 : Hid (by8 l p = y0) := h0
    clear h0
    go_wp2_with fail
    refine (one_any B R l (p + 1) _ hl HR1.out).mono ?_
    rintro e w2 ⟨ht, (⟨q, hq, rfl, hR2⟩ | ⟨hq, u, pv, rfl⟩)⟩
    · obtain ⟨hp2, rfl⟩ := nxt_one hq
      rw [show val1 l (some (p + 1)) = by8 l (p + 1) from by simp [val1, hp2]]
      have hb1 := by8_low l (p + 1)
      have HF : Hid (Turns (fun k => k = R) w w2 ∧ nxt l 2 (some p) = some (p + 1 + 1) ∧ val2 l (some p) = by8 l p * 256 + by8 l (p + 1) ∧ Rd B w2 R l (p + 1 + 1)) := ⟨HT1.out.trans ht, by have : p + 2 ≤ l.length := hp2; simp [nxt, this], by have : p + 2 ≤ l.length := hp2; simp [val2, this], hR2⟩
      clear ht hq hR2
      generalize h1 : by8 l (p + 1) = y1 at hb1 ⊢
      have H1 : Hid (by8 l (p + 1) = y1) := h1
      clear h1
      go_wp2
      go_ret
      exact ⟨HF.out.1, .inl ⟨_, HF.out.2.1, ret_int (by rw [HF.out.2.2.1, H0.out, H1.out]), HF.out.2.2.2⟩⟩
    · have HF : Hid (Turns (fun k => k = R) w w2 ∧ nxt l 2 (some p) = none) := ⟨HT1.out.trans ht, nxt_two_none hq⟩
      go_wp2
      exact ⟨rfl, HF.out.1, .inr ⟨HF.out.2, _, _, rfl⟩⟩
  · have HF : Hid (Turns (fun k => k = R) w w1 ∧ nxt l 2 (some p) = none) := ⟨ht, nxt_two_none' hq⟩
    go_wp2
    exact ⟨rfl, HF.out.1, .inr ⟨HF.out.2, _, _, rfl⟩⟩

def emR (l : List UInt8) (p : Nat) : Em := ⟨by8 l p * 256 + by8 l (p + 1), by8 l (p + 2), by8 l (p + 3) * 256 + by8 l (p + 4)⟩
def readL (l : List UInt8) : Nat → List Em
  | 0 => []
  | n + 1 => readL l n ++ [emR l (5 * n)]
theorem readL_length (l : List UInt8) : ∀ n, (readL l n).length = n
  | 0 => rfl
  | n + 1 => by simp [readL, readL_length l n]
theorem xAt_snoc (l : List Em) (e : Em) : xAt (l ++ [e]) l.length = e := by simp [xAt]
theorem xAt_low {l : List Em} (e : Em) {i : Nat} (h : i < l.length) : xAt (l ++ [e]) i = xAt l i := by
  unfold xAt
  simp [List.getElem?_append_left h]
theorem readL_at (l : List UInt8) : ∀ n i, i < n → xAt (readL l n) i = emR l (5 * i)
  | 0, i, h => by omega
  | n + 1, i, h => by
    unfold readL
    by_cases e : i < n
    · rw [xAt_low _ (by rw [readL_length]; exact e)]
      exact readL_at l n i e
    · obtain rfl : i = n := by omega
      have := xAt_snoc (readL l i) (emR l (5 * i))
      rw [readL_length] at this
      exact this
def rdB (l : List UInt8) : Bool := decide (l.length % 5 = 0) && emsC (readL l (l.length / 5))
def rdR (l : List UInt8) : List Em := if rdB l = true then readL l (l.length / 5) else []
/- A row of emits that grows. -/
def RowX (B : Nat) (w : World) (x : Value) (l : List Em) : Prop := w.ownsRow B 40 3 x l.length (cellsX l)
theorem RowX.nil (B : Nat) (w : World) : RowX B w (.slice none 0 0) [] := World.ownsRow_nil w B 40 3
theorem RowX.grow {B : Nat} {w : World} {v : Value} {l : List Em} {e : Em} (h : w.ownsRow B 40 3 v (l.length + 1) (cellsX l ++ e.cs)) : RowX B w v (l ++ [e]) := by
  unfold RowX
  rw [List.length_append, cellsX_append]
  simpa [cellsX] using h
theorem RowX.own {B : Nat} {w : World} {x : Value} {l : List Em} (h : RowX B w x l) : OwnD w (fun k => B ≤ k ∧ k < w.heap.size) x (emsD l) := (RowF.of_owns (cellsX_length l) h).own
theorem RowX.isX {B : Nat} {w : World} {x : Value} {l : List Em} (h : RowX B w x l) : IsX w x l := h.own.isD.isX
theorem RowX.below {B : Nat} {w w' : World} {x : Value} {l : List Em} (h : RowX B w x l) (hb : Below w.heap.size w w') : RowX B w' x l := by
  obtain ⟨h0, h1 | ⟨g, cap, cur, e, hg, hc, h1⟩⟩ := h
  · exact ⟨h0, .inl h1⟩
  · exact ⟨h0, .inr ⟨g, cap, cur, e, hg, (hb.block g (Array.getElem?_eq_some_iff.1 hc).1).trans hc, h1⟩⟩
theorem RowX.ne {B : Nat} {w : World} {x : Value} {l : List Em} (h : RowX B w x l) {P : Nat} {T : TypeId} {vs : Array Value} (hb : Bk w P T vs) (hT : T ≠ 40) : ¬ x.ownBlock = some P := by
  intro e
  obtain ⟨_, ⟨rfl, _⟩ | ⟨g, cap, cur, rfl, _, hc, _⟩⟩ := h
  · simp [Value.ownBlock] at e
  · simp [Value.ownBlock] at e
    subst e
    have hb' : w.heap[g]? = some (.cells vs T) := hb
    rw [hb'] at hc
    simp at hc
    exact hT hc.2
theorem RowX.lt {B : Nat} {w : World} {x : Value} {l : List Em} (h : RowX B w x l) {k : Nat} (e : x.ownBlock = some k) : k < w.heap.size := by
  obtain ⟨_, ⟨rfl, _⟩ | ⟨g, cap, cur, rfl, _, hc, _⟩⟩ := h
  · simp [Value.ownBlock] at e
  · simp [Value.ownBlock] at e
    subst e
    exact (Array.getElem?_eq_some_iff.1 hc).1
theorem RowX.turns {B : Nat} {S : Nat → Prop} {w w' : World} {x : Value} {l : List Em} (h : RowX B w x l) (ht : Turns S w w') (hS : ∀ k, x.ownBlock = some k → ¬ S k) : RowX B w' x l := by
  obtain ⟨h0, h1 | ⟨g, cap, cur, e, hg, hc, h1⟩⟩ := h
  · exact ⟨h0, .inl h1⟩
  · exact ⟨h0, .inr ⟨g, cap, cur, e, hg, (ht.block g (Array.getElem?_eq_some_iff.1 hc).1 (hS g (by rw [e]; simp [Value.ownBlock]))).trans hc, h1⟩⟩
theorem at_new3 (w : World) (a b c : Value) : ∀ j u, [a, b, c][j]? = some u → (w.alloc (.cells #[a, b, c] 40)).cell? ((⟨w.heap.size, 0, none⟩ : Addr).add j) = some u := by
  intro j u hu
  match j, hu with
  | 0, hu => simp at hu; subst hu; simp [Addr.add]
  | 1, hu => simp at hu; subst hu; simp [Addr.add]
  | 2, hu => simp at hu; subst hu; simp [Addr.add]
  | (j + 3), hu => simp at hu
theorem ones3 (a b c : Int) : ∀ u ∈ [Value.int .i64 a, .int .i64 b, .int .i64 c], u.oneCell' = true := by
  intro u hu
  simp at hu
  rcases hu with rfl | rfl | rfl <;> rfl
theorem rd_no5 {l : List UInt8} (h : ¬ l.length % 5 = 0) : rdB l = false ∧ rdR l = [] := by
  have h1 : rdB l = false := by simp [rdB, h]
  exact ⟨h1, by simp [rdR, h1]⟩
theorem rd_bad {l : List UInt8} (h : emsC (readL l (l.length / 5)) = false) : rdB l = false ∧ rdR l = [] := by
  have h1 : rdB l = false := by simp [rdB, h]
  exact ⟨h1, by simp [rdR, h1]⟩
theorem rd_good {l : List UInt8} (h5 : l.length % 5 = 0) (h : emsC (readL l (l.length / 5)) = true) : rdB l = true ∧ rdR l = readL l (l.length / 5) := by
  have h1 : rdB l = true := by simp [rdB, h, h5]
  exact ⟨h1, by simp [rdR, h1]⟩
end Go.Proofs.Ytacgdmojhhdegaa

/- The program's TableRead. -/
namespace Go.Proofs.Ytacgdmojhhdegaa
open Go.RowKit
theorem Turns.trans' {S : Nat → Prop} {a w w' : World} {b : Nat} (h : Turns S a w) (ht : Turns (fun k => k = b) w w') (hb : a.heap.size ≤ b) : Turns S a w' :=
  ⟨ht.os.trans h.os, ht.tape.trans h.tape, ht.output.trans h.output, Nat.le_trans h.size ht.size, fun k hk hn => (ht.block k (Nat.lt_of_lt_of_le hk h.size) (fun e => Nat.lt_irrefl _ (Nat.lt_of_lt_of_le hk (e ▸ hb)))).trans (h.block k hk hn)⟩
def lenAt (w : World) (b i : Nat) : Nat := match w.cell? ⟨b, i, none⟩ with
  | some (.slice _ n _) => n
  | _ => 0
theorem lenAt_of {w : World} {b i : Nat} {a : Option Addr} {n c : Nat} (h : w.cell? ⟨b, i, none⟩ = some (.slice a n c)) : lenAt w b i = n := by simp [lenAt, h]
theorem Rd.len {B : Nat} {w : World} {R : Nat} {l : List UInt8} {p : Nat} (h : Rd B w R l p) : lenAt w R 0 = l.length - p := by
  obtain ⟨_, a, cap, hB, _⟩ := h
  exact lenAt_of (hB.cell (i := 0) rfl)
theorem nxt_in {l : List UInt8} {p n : Nat} (h : p + n ≤ l.length) : nxt l n (some p) = some (p + n) := by simp [nxt, h]
theorem val1_in {l : List UInt8} {p : Nat} (h : p + 1 ≤ l.length) : val1 l (some p) = by8 l p := by simp [val1, h]
theorem val2_in {l : List UInt8} {p : Nat} (h : p + 2 ≤ l.length) : val2 l (some p) = by8 l p * 256 + by8 l (p + 1) := by simp [val2, h]
theorem two_in (B R : Nat) (l : List UInt8) (p : Nat) (w : World) (hl : l.length ≤ 1048576) (hp : p + 2 ≤ l.length) (hR : Rd B w R l p) :
    Calls Try.prog 27 #[.pointer (some ⟨R, 0, none⟩)] w fun e w' => e = .returned (.int .i64 (by8 l p * 256 + by8 l (p + 1))) ∧ Rd B w' R l (p + 2) ∧ Turns (fun k => k = R) w w' := by
  refine (two_any B R l p w hl hR).mono ?_
  rintro e w' ⟨ht, ⟨q, hq, rfl, hR'⟩ | ⟨hq, _⟩⟩
  · rw [nxt_in hp] at hq
    cases hq
    exact ⟨by rw [val2_in hp], hR', ht⟩
  · rw [nxt_in hp] at hq
    cases hq
theorem one_in (B R : Nat) (l : List UInt8) (p : Nat) (w : World) (hl : l.length ≤ 1048576) (hp : p + 1 ≤ l.length) (hR : Rd B w R l p) :
    Calls Try.prog 28 #[.pointer (some ⟨R, 0, none⟩)] w fun e w' => e = .returned (.int .i64 (by8 l p)) ∧ Rd B w' R l (p + 1) ∧ Turns (fun k => k = R) w w' := by
  refine (one_any B R l p w hl hR).mono ?_
  rintro e w' ⟨ht, ⟨q, hq, rfl, hR'⟩ | ⟨hq, _⟩⟩
  · rw [nxt_in hp] at hq
    cases hq
    exact ⟨by rw [val1_in hp], hR', ht⟩
  · rw [nxt_in hp] at hq
    cases hq
set_option maxRecDepth 100000 in
set_option maxHeartbeats 8000000 in
theorem emit_any (B R : Nat) (l : List UInt8) (p : Nat) (w : World) (hl : l.length ≤ 1048576) (hp : p + 5 ≤ l.length) (hR : Rd B w R l p) :
    Calls Try.prog 24 #[.pointer (some ⟨R, 0, none⟩)] w fun e w' => e = .returned (.agg #[.int .i64 (emR l p).t, .int .i64 (emR l p).l, .int .i64 (emR l p).v]) ∧ Rd B w' R l (p + 5) ∧ Turns (fun k => k = R) w w' := by
  have hRw : R < w.heap.size := hR.lt
  have hBR : B ≤ R := hR.1
  have HE : Hid (emR l p = ⟨by8 l p * 256 + by8 l (p + 1), by8 l (p + 2), by8 l (p + 3) * 256 + by8 l (p + 4)⟩) := (rfl : emR l p = _)
  obtain ⟨X, hX⟩ : ∃ X, X = w.heap.size + 1 := ⟨_, rfl⟩
  obtain ⟨W0, hW0⟩ : ∃ W0, (w.alloc (.cells #[.int .i64 0, .int .i64 0, .int .i64 0] 40)).alloc (.cells #[.int .i64 0, .int .i64 0, .int .i64 0] 40) = W0 := ⟨_, rfl⟩
  have HA0 : Hid (Bk W0 w.heap.size 40 #[.int .i64 0, .int .i64 0, .int .i64 0]) := by rw [← hW0]; exact (Bk.new w _ _).alloc _
  have HX0 : Hid (Bk W0 X 40 #[.int .i64 0, .int .i64 0, .int .i64 0]) := by rw [← hW0, hX]; exact Bk.newAt (by simp) _ _
  have HR0 : Hid (Rd B W0 R l p) := by rw [← hW0]; exact (hR.alloc _).alloc _
  have HT0 : Hid (Turns (fun k => k = R) w W0) := by rw [← hW0]; exact ((Turns.refl _ w).alloc _).alloc _
  have HW0 : Hid ((w.alloc (.cells #[.int .i64 0, .int .i64 0, .int .i64 0] 40)).alloc (.cells #[.int .i64 0, .int .i64 0, .int .i64 0] 40) = W0) := hW0
  have HX : Hid (X = w.heap.size + 1) := hX
  have hX1 : w.heap.size < X := by omega
  clear hW0 hX hR
  go_enter Try.func24, Try.ntmps24
  go_wp2_with fail
  rw [HW0.out, ← HX.out]
  clear HW0 HX
  refine (two_in B R l p _ hl (by omega) HR0.out).mono ?_
  rintro e w1 ⟨rfl, hr, ht⟩
  have HR1 : Hid (Rd B w1 R l (p + 2)) := hr
  have HA1 : Hid (Bk w1 w.heap.size 40 #[.int .i64 0, .int .i64 0, .int .i64 0]) := HA0.out.turns ht (by omega)
  have HX1 : Hid (Bk w1 X 40 #[.int .i64 0, .int .i64 0, .int .i64 0]) := HX0.out.turns ht (by omega)
  have HT1 : Hid (Turns (fun k => k = R) w w1) := HT0.out.trans ht
  clear hr ht HR0 HA0 HX0 HT0
  generalize hy : by8 l p * 256 + by8 l (p + 1) = y0
  have HY0 : Hid (by8 l p * 256 + by8 l (p + 1) = y0) := hy
  clear hy
  have c0 := HX1.out.cell (i := 0) rfl
  have f0 := HX1.out.free 0
  obtain ⟨w2, hV⟩ : ∃ V, w1.setCell ⟨X, 0, none⟩ (.int .i64 y0) = V := ⟨_, rfl⟩
  have ht := put1_turns w1 X 0 (.int .i64 y0)
  have HR2 : Hid (Rd B w2 R l (p + 2)) := by rw [← hV]; exact HR1.out.put (by omega) (by omega) _ _
  have HA2 : Hid (Bk w2 w.heap.size 40 #[.int .i64 0, .int .i64 0, .int .i64 0]) := by rw [← hV]; exact HA1.out.turns ht (by omega)
  have HX2 : Hid (Bk w2 X 40 #[.int .i64 y0, .int .i64 0, .int .i64 0]) := by rw [← hV]; exact HX1.out.put 0 _
  have HT2 : Hid (Turns (fun k => k = R) w w2) := by rw [← hV]; exact HT1.out.trans' ht (by omega)
  have HV : Hid (w1.setCell ⟨X, 0, none⟩ (.int .i64 y0) = w2) := hV
  clear hV ht HR1 HA1 HT1
  go_wp2_with fail
  try rw [HV.out]
  clear HV c0 f0 HX1
  refine (one_in B R l (p + 2) _ hl (by omega) HR2.out).mono ?_
  rintro e w3 ⟨rfl, hr, ht⟩
  have HR3 : Hid (Rd B w3 R l (p + 3)) := hr
  have HA3 : Hid (Bk w3 w.heap.size 40 #[.int .i64 0, .int .i64 0, .int .i64 0]) := HA2.out.turns ht (by omega)
  have HX3 : Hid (Bk w3 X 40 #[.int .i64 y0, .int .i64 0, .int .i64 0]) := HX2.out.turns ht (by omega)
  have HT3 : Hid (Turns (fun k => k = R) w w3) := HT2.out.trans ht
  clear hr ht HR2 HA2 HX2 HT2
  generalize hy : by8 l (p + 2) = y1
  have HY1 : Hid (by8 l (p + 2) = y1) := hy
  clear hy
  have c0 := HX3.out.cell (i := 1) rfl
  have f0 := HX3.out.free 1
  obtain ⟨w4, hV⟩ : ∃ V, w3.setCell ⟨X, 1, none⟩ (.int .i64 y1) = V := ⟨_, rfl⟩
  have ht := put1_turns w3 X 1 (.int .i64 y1)
  have HR4 : Hid (Rd B w4 R l (p + 3)) := by rw [← hV]; exact HR3.out.put (by omega) (by omega) _ _
  have HA4 : Hid (Bk w4 w.heap.size 40 #[.int .i64 0, .int .i64 0, .int .i64 0]) := by rw [← hV]; exact HA3.out.turns ht (by omega)
  have HX4 : Hid (Bk w4 X 40 #[.int .i64 y0, .int .i64 y1, .int .i64 0]) := by rw [← hV]; exact HX3.out.put 1 _
  have HT4 : Hid (Turns (fun k => k = R) w w4) := by rw [← hV]; exact HT3.out.trans' ht (by omega)
  have HV : Hid (w3.setCell ⟨X, 1, none⟩ (.int .i64 y1) = w4) := hV
  clear hV ht HR3 HA3 HT3
  go_wp2_with fail
  try rw [HV.out]
  clear HV c0 f0 HX3
  refine (two_in B R l (p + 3) _ hl (by omega) HR4.out).mono ?_
  rintro e w5 ⟨rfl, hr, ht⟩
  have HR5 : Hid (Rd B w5 R l (p + 5)) := hr
  have HA5 : Hid (Bk w5 w.heap.size 40 #[.int .i64 0, .int .i64 0, .int .i64 0]) := HA4.out.turns ht (by omega)
  have HX5 : Hid (Bk w5 X 40 #[.int .i64 y0, .int .i64 y1, .int .i64 0]) := HX4.out.turns ht (by omega)
  have HT5 : Hid (Turns (fun k => k = R) w w5) := HT4.out.trans ht
  clear hr ht HR4 HA4 HX4 HT4
  generalize hy : by8 l (p + 3) * 256 + by8 l (p + 3 + 1) = y2
  have HY2 : Hid (by8 l (p + 3) * 256 + by8 l (p + 3 + 1) = y2) := hy
  clear hy
  have c0 := HX5.out.cell (i := 2) rfl
  have f0 := HX5.out.free 2
  obtain ⟨w6, hV⟩ : ∃ V, w5.setCell ⟨X, 2, none⟩ (.int .i64 y2) = V := ⟨_, rfl⟩
  have ht := put1_turns w5 X 2 (.int .i64 y2)
  have HR6 : Hid (Rd B w6 R l (p + 5)) := by rw [← hV]; exact HR5.out.put (by omega) (by omega) _ _
  have HA6 : Hid (Bk w6 w.heap.size 40 #[.int .i64 0, .int .i64 0, .int .i64 0]) := by rw [← hV]; exact HA5.out.turns ht (by omega)
  have HX6 : Hid (Bk w6 X 40 #[.int .i64 y0, .int .i64 y1, .int .i64 y2]) := by rw [← hV]; exact HX5.out.put 2 _
  have HT6 : Hid (Turns (fun k => k = R) w w6) := by rw [← hV]; exact HT5.out.trans' ht (by omega)
  have HV : Hid (w5.setCell ⟨X, 2, none⟩ (.int .i64 y2) = w6) := hV
  clear hV ht HR5 HA5 HT5
  have x0 := HX6.out.cell (i := 0) rfl
  have x1 := HX6.out.cell (i := 1) rfl
  have x2 := HX6.out.cell (i := 2) rfl
  have a0 := HA6.out.cell (i := 0) rfl
  have a1 := HA6.out.cell (i := 1) rfl
  have a2 := HA6.out.cell (i := 2) rfl
  have af := HA6.out.free
  have hv := HV.out
  go_wp2
  clear hv HV c0 f0 HX5 a0 a1 a2 af
  obtain ⟨V, hV⟩ : ∃ V, ((w6.setCell ⟨w.heap.size, 0, none⟩ (.int .i64 y0)).setCell ⟨w.heap.size, 1, none⟩ (.int .i64 y1)).setCell ⟨w.heap.size, 2, none⟩ (.int .i64 y2) = V := ⟨_, rfl⟩
  have ht : Turns (fun k => k = w.heap.size) w6 V := by rw [← hV]; exact ((put1_turns _ _ _ _).trans (put1_turns _ _ _ _)).trans (put1_turns _ _ _ _)
  have HAV : Hid (Bk V w.heap.size 40 #[.int .i64 y0, .int .i64 y1, .int .i64 y2]) := by rw [← hV]; exact ((HA6.out.put 0 _).put 1 _).put 2 _
  rw [hV]
  have t0 := HAV.out.cell (i := 0) rfl
  have t1 := HAV.out.cell (i := 1) rfl
  have t2 := HAV.out.cell (i := 2) rfl
  refine bodyPost_ret (v := .agg #[.int .i64 y0, .int .i64 y1, .int .i64 y2]) (by simp [results, Try.results24, go_sem, t0, t1, t2]) rfl ⟨by rw [HE.out, ← HY0.out, ← HY1.out, ← HY2.out], HR6.out.turns ht (by omega) (fun k e => by omega), HT6.out.trans' ht (by omega)⟩
set_option maxRecDepth 100000 in
set_option maxHeartbeats 8000000 in
theorem iRead (x : Value) (l : List UInt8) (w : World) (hl : l.length ≤ 1048576) (h : By.IsI w x l) :
    Calls Try.prog 16 #[x] w fun e w' => ∃ u, e = .returned (.tuple #[u, .bool (rdB l)]) ∧ OwnD w' (fun k => w.heap.size ≤ k ∧ k < w'.heap.size) u (emsD (rdR l)) ∧ Below w.heap.size w w' := by
  obtain ⟨a, cap, rfl, h1, h2, h3⟩ := h
  have H3 : Hid (l = [] ∨ ∃ b off, a = some ⟨b, off, none⟩ ∧ By.IntsAt w b off l) := h3
  have H12 : Hid (l.length ≤ cap ∧ cap ≤ maxLen) := ⟨h1, h2⟩
  clear h1 h2 h3
  obtain ⟨ix, hx0, hx1, hx2, hx3⟩ := info_parts infoEm
  obtain ⟨B, hB⟩ : ∃ B, B = w.heap.size := ⟨_, rfl⟩
  have HBw : Hid (B = w.heap.size) := hB
  have hBw : B ≤ w.heap.size ∧ w.heap.size ≤ B := by omega
  clear hB
  by_cases h5 : l.length % 5 = 0
  case neg =>
    have HN : Hid (rdB l = false ∧ rdR l = []) := rd_no5 h5
    have h5' : ¬ ((l.length : Int) % 5 = 0) := by omega
    clear h5
    go_enter Try.func16, Try.ntmps16
    go_wp2
    go_ret2
    exact ⟨_, by rw [HN.out.1]; rfl, by rw [HN.out.2]; exact ((RowX.nil w.heap.size w).own), Below.refl _ _⟩
  have h5' : ((l.length : Int) % 5 = 0) := by omega
  obtain ⟨n, hn⟩ : ∃ n, l.length = 5 * n := ⟨l.length / 5, by omega⟩
  have HN : Hid (l.length = 5 * n ∧ l.length / 5 = n ∧ l.length % 5 = 0) := ⟨hn, by omega, h5⟩
  have hn9 : 5 * n ≤ l.length ∧ l.length ≤ 5 * n := by omega
  clear hn h5
  obtain ⟨W0, hW0⟩ : ∃ W0, w.alloc (.cells #[.slice a l.length cap] 50) = W0 := ⟨_, rfl⟩
  have HR0 : Hid (Rd B W0 B l 0) := by
    rw [← hW0, HBw.out]
    refine ⟨Nat.le_refl _, a, cap, Bk.new w _ _, Nat.zero_le _, H12.out.1, H12.out.2, ?_⟩
    rcases H3.out with rfl | ⟨b, off, rfl, hb, hc⟩
    · exact .inl rfl
    · exact .inr ⟨b, off, rfl, hb, (show b < (w.alloc (.cells #[.slice (some ⟨b, off, none⟩) l.length cap] 50)).heap.size by simp; omega), fun i hi => (((Below.refl w.heap.size w).alloc (Nat.le_refl _) _).cell (p := ⟨b, _, none⟩) hb).trans (hc i hi)⟩
  have HB0 : Hid (Below B w W0) := by rw [← hW0]; exact (Below.refl B w).alloc hBw.1 _
  have HW0 : Hid (w.alloc (.cells #[.slice a l.length cap] 50) = W0) := hW0
  clear hW0
  go_enter Try.func16, Try.ntmps16
  go_wp2
  clear h5'
  rw [HW0.out, ← HBw.out]
  clear HW0
  go_loopw [5] (fun o wr => ∃ (k : Nat) (v : Value), k ≤ n ∧ v = o ∧ RowX B wr o (readL l k) ∧ Rd B wr B l (5 * k) ∧ Below B w wr) (fun _ wr => lenAt wr B 0)
  case atStart => exact ⟨0, _, Nat.zero_le _, rfl, RowX.nil _ _, HR0.out, HB0.out⟩
  case round =>
    clear HR0 HB0
    obtain ⟨k, o, hk, rfl, hR, hRd, hBr⟩ := hrel
    have HR1 : Hid (RowX B wr o (readL l k)) := hR
    have HD1 : Hid (Rd B wr B l (5 * k)) := hRd
    have HB1 : Hid (Below B w wr) := hBr
    have hs1 : B ≤ wr.heap.size := Nat.le_trans hBw.1 hBr.size
    have hlk : (readL l k).length = k := readL_length l k
    obtain ⟨h0, ra, rcap, hBk, _, _, _, _⟩ := hRd
    have r0 := hBk.cell (i := 0) rfl
    have HM : Hid (lenAt wr B 0 = l.length - 5 * k) := lenAt_of r0
    clear hR h0 hBk hBr
    by_cases hlt : k < n
    · have hm : 0 < l.length - 5 * k := by omega
      go_wp2_with fail
      clear r0
      refine (emit_any B B l (5 * k) _ hl (by omega) HD1.out).mono ?_
      rintro e w2 ⟨rfl, hr, ht⟩
      have HD2 : Hid (Rd B w2 B l (5 * (k + 1))) := hr
      have HR2 : Hid (RowX B w2 o (readL l k)) := HR1.out.turns ht (fun j e1 e2 => (HR1.out.ne HD1.out.bk.choose_spec (by decide)) (e2 ▸ e1))
      have HB2 : Hid (Below B w w2) := HB1.out.trans (ht.to_below (fun j e => by omega) hs1)
      have hs2 : B ≤ w2.heap.size := Nat.le_trans hBw.1 HB2.out.size
      have HNE : Hid (¬ o.ownBlock = some B) := HR2.out.ne HD2.out.bk.choose_spec (by decide)
      have HE : Hid (readL l (k + 1) = readL l k ++ [emR l (5 * k)]) := (rfl : readL l (k + 1) = _)
      clear hr ht HD1 HB1 HR1
      generalize emR l (5 * k) = em at HE ⊢
      obtain ⟨z0, z1, z2⟩ := em
      go_wp2_with (at_builtin; refine wpList_append_own _ rfl _ _ 27 rfl B 40 ix (.agg #[.int .i64 0, .int .i64 0, .int .i64 0]) 3 24 Try.underlying27 hx0 hx1 hx2 hx3 rfl (by decide) o _ _ rfl (World.ownsRow.alloc HR2.out _) ⟨w2.heap.size, 0, none⟩ 1 1 [.int .i64 z0, .int .i64 z1, .int .i64 z2] rfl rfl (at_new3 _ _ _ _) (ones3 _ _ _) (by unfold maxLen; omega) (by omega) (by simp; omega) ?_; intro v4 w4 hown hgrow hnil)
      go_roundw
      case rel =>
        have hD : Rd B w4 B l (5 * (k + 1)) := (HD2.out.alloc _).turns (grown_turns hgrow) (fun e => HNE.out e) (fun j e => row_ge HR2.out e)
        refine ⟨k + 1, _, by omega, rfl, ?_, hD, (HB2.out.alloc hs2 _).grown hgrow (by simp; omega) (fun j e => row_ge HR2.out e)⟩
        rw [HE.out]
        exact RowX.grow hown
      case measure =>
        have hD : Rd B w4 B l (5 * (k + 1)) := (HD2.out.alloc _).turns (grown_turns hgrow) (fun e => HNE.out e) (fun j e => row_ge HR2.out e)
        rw [hD.len, HM.out]
        omega
    · obtain rfl : n = k := by omega
      have hz : l.length - 5 * n = 0 := by omega
      rw [hz] at r0
      clear hz
      go_wp2_with fail
      clear r0
      refine (iEmits _ (readL l n) _ (by omega) HR1.out.isX).mono ?_
      rintro e w2 ⟨rfl, hb⟩
      have HB2 : Hid (Below B w w2) := HB1.out.trans (hb.mono hs1)
      have HR2 : Hid (RowX B w2 o (readL l n)) := HR1.out.below hb
      clear hb HB1 HR1
      cases hok : emsC (readL l n) with
      | false =>
        have HNN : Hid (rdB l = false ∧ rdR l = []) := rd_bad (by rw [HN.out.2.1]; exact hok)
        clear hok
        go_wp2
        go_ret2
        exact ⟨_, by rw [HNN.out.1]; rfl, by rw [HNN.out.2]; exact ((RowX.nil w.heap.size w2).own), HB2.out.mono hBw.2⟩
      | true =>
        have HRR : Hid (rdB l = true ∧ rdR l = readL l n) := by
          have := rd_good (l := l) HN.out.2.2 (by rw [HN.out.2.1]; exact hok)
          rw [HN.out.2.1] at this
          exact this
        clear hok
        go_wp2
        go_ret2
        exact ⟨_, by rw [HRR.out.1]; rfl, by rw [HRR.out.2]; exact HR2.out.own.mono (fun k h => ⟨by omega, h.2⟩), HB2.out.mono hBw.2⟩
end Go.Proofs.Ytacgdmojhhdegaa

