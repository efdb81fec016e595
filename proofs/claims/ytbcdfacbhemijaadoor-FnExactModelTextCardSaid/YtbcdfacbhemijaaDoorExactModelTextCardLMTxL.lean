/- Rows of bytes that grow: what is written, what is left alone. -/
import Derived.Test.YtbcdfacbhemijaaDoorExactModelTextCardLMTxP
import Derived.Test.YtbcdfacbhemijaaDoorExactModelTextCardLMOkS
import Derived.Deep.RegionHeld3
namespace Go.Proofs.YtbcdfacbhemijaaDoor
open Go.RowKit
structure TxS (B : Nat) (w1 W : World) (x : Value) (Y : List UInt8) : Prop where
  r : RowB B W x Y
  b : Below B w1 W
  s : B ≤ w1.heap.size
structure Kp (n : Nat) (w w' : World) : Prop where
  o : ∀ ob t arr, (t ≠ 5 ∨ arr.size < n) → Bk w ob t arr → Bk w' ob t arr
structure Src (w : World) (X : Nat) (L : List UInt8) : Prop where
  o : ∀ j u, (Lib.byteCells L)[j]? = some u → w.cell? ((⟨X, 0, none⟩ : Addr).add j) = some u
theorem TxS.row {B : Nat} {w1 w : World} {x : Value} {Y : List UInt8} (h : TxS B w1 w x Y) : w.ownsRow B 5 1 x Y.length (Lib.byteCells Y) := h.r
theorem TxS.below {B : Nat} {w1 w : World} {x : Value} {Y : List UInt8} (h : TxS B w1 w x Y) : Below B w1 w := h.b
theorem TxS.size {B : Nat} {w1 w : World} {x : Value} {Y : List UInt8} (h : TxS B w1 w x Y) : B ≤ w.heap.size := Nat.le_trans h.s h.b.size
theorem TxS.drew {B : Nat} {w1 w : World} {x : Value} {Y : List UInt8} (h : TxS B w1 w x Y) : TxS B w1 w.drew x Y := ⟨World.ownsRow.drew h.r, h.b.drew, h.s⟩
theorem TxS.alloc {B : Nat} {w1 w : World} {x : Value} {Y : List UInt8} (h : TxS B w1 w x Y) (o : Obj) : TxS B w1 (w.alloc o) x Y := ⟨World.ownsRow.alloc h.r o, h.b.alloc h.size o, h.s⟩
theorem TxS.kept {B : Nat} {w1 w w' : World} {x : Value} {Y : List UInt8} (h : TxS B w1 w x Y) (hb : Below w.heap.size w w') : TxS B w1 w' x Y := ⟨row_kept h.r hb, h.b.trans (hb.mono h.size), h.s⟩
theorem TxS.grow {B : Nat} {w1 w w' : World} {x y : Value} {Y Z : List UInt8} {n : Nat} {xs : List Value} (h : TxS B w1 w x Y) (hown : w'.ownsRow B 5 1 y n xs) (hg : w.grownBy w' x.ownBlock) (hn : n = Z.length) (hx : xs = Lib.byteCells Z) : TxS B w1 w' y Z := by
  subst hn hx
  exact ⟨hown, h.b.grown hg h.size (fun k e => drow_ge h.r e), h.s⟩
theorem TxS.kp {B : Nat} {w1 w w' : World} {x : Value} {Y : List UInt8} (h : TxS B w1 w x Y) (hg : w.grownBy w' x.ownBlock) : Kp Y.length w w' := by
  refine ⟨fun ob t arr hs hb => ?_⟩
  have hb' : w.heap[ob]? = some (.cells arr t) := hb
  refine (hg.block ob hb.lt (fun e => ?_)).trans hb'
  obtain ⟨_, ⟨rfl, _⟩ | ⟨g, cap, cur, rfl, _, hc, h1, _, h3, _⟩⟩ := h.r
  · simp [Value.ownBlock] at e
  · simp [Value.ownBlock] at e
    subst e
    rw [hb'] at hc
    simp at hc
    obtain ⟨rfl, h9⟩ := hc
    rcases hs with hs | hs
    · first | exact hs h9 | exact hs h9.1
    · omega
theorem Kp.bk {n : Nat} {w w' : World} {ob : Nat} {t : TypeId} {arr : Array Value} (h : Kp n w w') (hb : Bk w ob t arr) (hs : t ≠ 5 ∨ arr.size < n) : Bk w' ob t arr := h.o ob t arr hs hb
theorem Kp.below {w w' : World} (hb : Below w.heap.size w w') (n : Nat) : Kp n w w' := ⟨fun _ _ _ _ h => h.below hb⟩
theorem Src.alloc {w : World} {X : Nat} {L : List UInt8} (h : Src w X L) (o : Obj) : Src (w.alloc o) X L := ⟨fun j u hu => by
  have h1 := h.o j u hu
  have hl : X < w.heap.size := by
    rw [Addr.add_lit] at h1
    simp only [World.cell?] at h1
    rcases Nat.lt_or_ge X w.heap.size with h' | h'
    · exact h'
    · simp [Array.getElem?_eq_none h'] at h1
  exact (((Below.refl w.heap.size w).alloc (Nat.le_refl _) o).cell (by rw [Addr.add_lit]; exact hl)).trans h1⟩
theorem Src.one {w : World} {X : Nat} {b : UInt8} {z : Int} (hz : z = (b.toNat : Int)) (h : Bk w X 5 #[.int .u8 z]) : Src w X [b] := by
  subst hz
  refine ⟨fun j u hu => ?_⟩
  rw [Addr.add_lit, Nat.zero_add]
  match j, hu with
  | 0, hu => exact h.cell (i := 0) hu
  | (j + 1), hu => simp [Lib.byteCells] at hu
theorem tx_text {ops : Array Oper} {o : Oper} {a : Act} {w : World} {K : Act → World → Prop} {Q : Exit → Act → World → Prop} {E : Prop} {B : Nat} {w1 : World} (hg : o.guard = none) (sl x : Operand) (hop : o.op = Op.call { callee := Callee.builtin Builtin.append, args := #[sl, x], argTypes := #[28, 9] })
    (v : Value) (Y : List UInt8) (hs : a.eval sl = v) (h : TxS B w1 w v Y) (s : ByteArray) (hx : a.eval x = .string s) (hl : Y.length + s.size ≤ 1000000000000)
    (hK : ∀ v' w', TxS B w1 w' v' (Y ++ s.data.toList) → Kp Y.length w w' → K (a.put o.dst v') w') : if Region.wanted o (yielded ops a.tmps) = true then Oper.wp Tryd.prog o a w K Q else E := by
  obtain ⟨i0, hi, hz0, hz1, hz2⟩ := info_parts info5
  refine step_append_text hg sl x 28 9 hop B 5 i0 Tryd.underlying28 Tryd.underlying9 hi hz0 hz1 hz2 v Y.length (Lib.byteCells Y) hs h.row s hx (by unfold maxLen; omega) (by omega) h.size ?_
  intro v' w' hown hgrow
  exact hK v' w' (h.grow hown hgrow (by rw [List.length_append]; rfl) (by rw [Lib.byteCells_append]; rfl)) (h.kp hgrow)
theorem txl_text {ops : Array Oper} {rest : List Oper} {o : Oper} {a : Act} {w : World} {Q : Exit → Act → World → Prop} {B : Nat} {w1 : World} (hg : o.guard = none) (sl x : Operand) (hop : o.op = Op.call { callee := Callee.builtin Builtin.append, args := #[sl, x], argTypes := #[28, 9] })
    (v : Value) (Y : List UInt8) (hs : a.eval sl = v) (h : TxS B w1 w v Y) (s : ByteArray) (hx : a.eval x = .string s) (hl : Y.length + s.size ≤ 1000000000000)
    (hK : ∀ v' w', TxS B w1 w' v' (Y ++ s.data.toList) → Kp Y.length w w' → wpList Tryd.prog ops Q rest (a.put o.dst v') w') : wpList Tryd.prog ops Q (o :: rest) a w := by
  obtain ⟨i0, hi, hz0, hz1, hz2⟩ := info_parts info5
  refine Lib.wpList_append_own_string _ hg sl x 28 9 hop B 5 i0 Tryd.underlying28 Tryd.underlying9 hi hz0 hz1 hz2 v Y.length (Lib.byteCells Y) hs h.row s hx (by unfold maxLen; omega) (by omega) h.size ?_
  intro v' w' hown hgrow _
  exact hK v' w' (h.grow hown hgrow (by rw [List.length_append]; rfl) (by rw [Lib.byteCells_append]; rfl)) (h.kp hgrow)
theorem tx_own {ops : Array Oper} {o : Oper} {a : Act} {w : World} {K : Act → World → Prop} {Q : Exit → Act → World → Prop} {E : Prop} {B : Nat} {w1 : World} (hg : o.guard = none) (sl x : Operand) (hop : o.op = Op.call { callee := Callee.builtin Builtin.append, args := #[sl, x], argTypes := #[28, 28] })
    (v : Value) (Y : List UInt8) (hs : a.eval sl = v) (h : TxS B w1 w v Y) (L : List UInt8) (X c : Nat) (hx : a.eval x = .slice (some ⟨X, 0, none⟩) L.length c) (hc : Src w X L) (hl : Y.length + L.length ≤ 1000000000000)
    (hK : ∀ v' w', TxS B w1 w' v' (Y ++ L) → Kp Y.length w w' → K (a.put o.dst v') w') : if Region.wanted o (yielded ops a.tmps) = true then Oper.wp Tryd.prog o a w K Q else E := by
  obtain ⟨i0, hi, hz0, hz1, hz2⟩ := info_parts info5
  refine step_append_own hg sl x 28 hop B 5 i0 (.int .u8 0) 1 1 Tryd.underlying28 hi hz0 hz1 hz2 rfl (by decide) v Y.length (Lib.byteCells Y) hs h.row ⟨X, 0, none⟩ L.length c (Lib.byteCells L) hx (by rw [Lib.byteCells_length]; omega) hc.o (byteCells_ones _) (by unfold maxLen; omega) (by omega) h.size ?_
  intro v' w' hown hgrow
  exact hK v' w' (h.grow hown hgrow (by rw [List.length_append]) (by rw [Lib.byteCells_append])) (h.kp hgrow)
theorem txl_own {ops : Array Oper} {rest : List Oper} {o : Oper} {a : Act} {w : World} {Q : Exit → Act → World → Prop} {B : Nat} {w1 : World} (hg : o.guard = none) (sl x : Operand) (hop : o.op = Op.call { callee := Callee.builtin Builtin.append, args := #[sl, x], argTypes := #[28, 28] })
    (v : Value) (Y : List UInt8) (hs : a.eval sl = v) (h : TxS B w1 w v Y) (L : List UInt8) (X c : Nat) (hx : a.eval x = .slice (some ⟨X, 0, none⟩) L.length c) (hc : Src w X L) (hl : Y.length + L.length ≤ 1000000000000)
    (hK : ∀ v' w', TxS B w1 w' v' (Y ++ L) → Kp Y.length w w' → wpList Tryd.prog ops Q rest (a.put o.dst v') w') : wpList Tryd.prog ops Q (o :: rest) a w := by
  obtain ⟨i0, hi, hz0, hz1, hz2⟩ := info_parts info5
  refine wpList_append_own _ hg sl x 28 hop B 5 i0 (.int .u8 0) 1 1 Tryd.underlying28 hi hz0 hz1 hz2 rfl (by decide) v Y.length (Lib.byteCells Y) hs h.row ⟨X, 0, none⟩ L.length c (Lib.byteCells L) hx (by rw [Lib.byteCells_length]; omega) hc.o (byteCells_ones _) (by unfold maxLen; omega) (by omega) h.size ?_
  intro v' w' hown hgrow _
  exact hK v' w' (h.grow hown hgrow (by rw [List.length_append]) (by rw [Lib.byteCells_append])) (h.kp hgrow)
theorem digits_tx {B : Nat} {w1 : World} (z : Int) (h0 : 0 ≤ z) (h1 : z ≤ 1000000) (v : Value) (Y : List UInt8) (w : World) (h : TxS B w1 w v Y) :
    Calls Tryd.prog 24 #[.int .i64 z] w fun e w' => ∃ X c, e = .returned (.slice (some ⟨X, 0, none⟩) (dec z).length c) ∧ Hid (Src w' X (dec z)) ∧ Hid (TxS B w1 w' v Y) ∧ Hid (Kp Y.length w w') := by
  refine (digits_int z h0 h1 w).mono ?_
  rintro r w' ⟨X, c, rfl, hc, hb⟩
  exact ⟨X, c, rfl, ⟨hc⟩, h.kept hb, Kp.below hb _⟩
theorem ok_nums {m : Md} (h : m.ok = true) : (0 ≤ m.n ∧ m.n ≤ 4) ∧ (0 ≤ m.s ∧ m.s ≤ 65535) ∧ (0 ≤ m.z ∧ m.z ≤ 950) ∧ m.h.length ≤ 4 ∧ m.e.length ≤ 6 := by
  simp only [Md.ok, Bool.and_eq_true, decide_eq_true_eq] at h
  have := h.1.1.1
  unfold Md.hd at this
  omega
theorem ok_row8 {m : Md} (h : m.ok = true) {k : Nat} (hk : k < m.h.length) : (hAt m.h k).length ≤ 8 := by
  simp only [Md.ok, Bool.and_eq_true, decide_eq_true_eq] at h
  have hr : rowB m (hAt m.h k) = true := List.all_eq_true.1 h.1.2 k (by simpa using hk)
  simp only [rowB, Bool.and_eq_true, decide_eq_true_eq] at hr
  exact hr.1
theorem ok_op9 {m : Md} (h : m.ok = true) {k q : Nat} (hk : k < m.h.length) (hq : q < (hAt m.h k).length) : let o := oAt (hAt m.h k) q; (0 ≤ o.c ∧ o.c ≤ 6) ∧ (0 ≤ o.a ∧ o.a ≤ 999) ∧ (0 ≤ o.b ∧ o.b ≤ 999) ∧ (0 ≤ o.k ∧ o.k ≤ 999) := by
  have hm := (ok_nums h)
  simp only [Md.ok, Bool.and_eq_true, decide_eq_true_eq] at h
  have hr : rowB m (hAt m.h k) = true := List.all_eq_true.1 h.1.2 k (by simpa using hk)
  simp only [rowB, Bool.and_eq_true] at hr
  have ho := List.all_eq_true.1 hr.2 q (by simpa using hq)
  simp only [O.ok, okO, decide_eq_true_eq] at ho
  simp only
  omega
theorem ok_ev9 {m : Md} (h : m.ok = true) {k : Nat} (hk : k < m.e.length) : stB m k (evAt m.e k) = true := by
  simp only [Md.ok, Bool.and_eq_true, decide_eq_true_eq] at h
  exact List.all_eq_true.1 h.2 k (by simpa using hk)
theorem ev_len (t s q d k v : Int) (h1 : t ≤ 1000000) (h2 : s ≤ 1000000) (h3 : q ≤ 1000000) (h4 : d ≤ 1000000) (h5 : k ≤ 1000000) (h6 : v ≤ 1000000) : (evText t s q d k v).length ≤ 6000040 := by
  have e1 := dec_len t h1
  have e2 := dec_len s h2
  have e3 := dec_len q h3
  have e4 := dec_len d h4
  have e5 := dec_len k h5
  have e6 := dec_len v h6
  unfold evText fromText
  split <;> simp only [List.length_append, List.length_cons, List.length_nil] <;> omega
theorem ev_ne (t s q d k v : Int) : evText t s q d k v ≠ [] := by simp [evText]
theorem own_src {B : Nat} {w : World} {x : Value} {L : List UInt8} (h : OwnB B w x L) (hne : L ≠ []) : ∃ X c, x = .slice (some ⟨X, 0, none⟩) L.length c ∧ Src w X L := by
  obtain ⟨a, cap, rfl, _, _, h⟩ := h
  obtain ⟨g, rfl, _, _, hb⟩ := h.resolve_left hne
  refine ⟨g, cap, rfl, ⟨fun j u hu => ?_⟩⟩
  rw [Addr.add_lit]
  have hj : j < L.length := by
    have := (List.getElem?_eq_some_iff.1 hu).1
    rw [Lib.byteCells_length] at this
    exact this
  have h9 := hb.2 j hj
  rw [h9]
  simp only [Lib.byteCells, List.getElem?_map, List.getElem?_eq_getElem hj, Option.map_some, Option.some.injEq] at hu
  rw [← hu]
  simp [byteAt, hj]
theorem text_tx {B : Nat} {w1 : World} (t s q d k v g : Int) (ht0 : 0 ≤ t) (ht1 : t ≤ 1000000) (hs1 : s ≤ 1000000) (hq0 : 0 ≤ q) (hq1 : q ≤ 1000000) (hd0 : 0 ≤ d) (hd1 : d ≤ 1000000) (hk0 : 0 ≤ k) (hk1 : k ≤ 1000000) (hv0 : 0 ≤ v) (hv1 : v ≤ 1000000) (y : Value) (Y : List UInt8) (w : World) (h : TxS B w1 w y Y) :
    Calls Tryd.prog 25 #[.agg #[.int .i64 t, .int .i64 s, .int .i64 q, .int .i64 d, .int .i64 k, .int .i64 v, .int .i64 g]] w fun e w' => ∃ X c, e = .returned (.slice (some ⟨X, 0, none⟩) (evText t s q d k v).length c) ∧ Hid (Src w' X (evText t s q d k v)) ∧ Hid (TxS B w1 w' y Y) ∧ Hid (Kp Y.length w w') := by
  refine (text_any t s q d k v g w ht0 ht1 hs1 hq0 hq1 hd0 hd1 hk0 hk1 hv0 hv1).mono ?_
  rintro r w' ⟨x, rfl, hown, hb⟩
  obtain ⟨X, c, rfl, hs⟩ := own_src hown (ev_ne t s q d k v)
  exact ⟨X, c, rfl, hs, h.kept hb, Kp.below hb _⟩
theorem opWord_len (c : Int) : (opWord c).length ≤ 4 := by
  unfold opWord
  repeat' split
  all_goals simp
theorem ops_snoc {r : List O} {q : Nat} (h : q < r.length) : opsText (r.take (q + 1)) = opsText (r.take q) ++ opText (oAt r q) := by
  rw [List.take_add_one, List.getElem?_eq_getElem h, opsText_append]
  simp [opsText, oAt, h, List.getD]
theorem src_at9 {w : World} {X : Nat} {L : List UInt8} (h : Src w X L) : ∀ (j : Nat) u, (Lib.byteCells L)[j]? = some u → w.cell? ((⟨X, 0, none⟩ : Addr).add j) = some u := h.o
def textR (m : Md) : List UInt8 := if m.ok = true then modText m else []
end Go.Proofs.YtbcdfacbhemijaaDoor
