/- MTxL, MTxR, HDg, EEm, XEm, TDat, SSt -/
import Derived.Test.YtbcdfacbhemijaaDoorExactHistoryTextCardLMTxP
import Derived.Test.YtbcdfacbhemijaaDoorExactHistoryTextCardLMOkS
import Derived.Deep.RegionHeld3
import Derived.Lib.Join
import Derived.Laws.IdiomStrings
import Derived.Test.YtbcdfacbhemijaaDoorExactHistoryTextCardG09
/- Rows of bytes that grow: what is written, what is left alone. -/
namespace Go.Proofs.YtbcdfacbhemijaaDoor
open Go.RowKit
structure TxS (B : Nat) (w1 W : World) (x : Value) (Y : List UInt8) : Prop where
  r : RowB B W x Y
  b : Below B w1 W
  s : B ≤ w1.heap.size
structure Kp (n : Nat) (w w' : World) : Prop where
  o : ∀ ob t arr, (t ≠ 5 ∨ arr.size < n) → Bk w ob t arr → Bk w' ob t arr
structure Src (w : World) (X : Nat) (L : List UInt8) : Prop where
  o : ∀ j u, (Lib.byteCells L)[j]? = some u → w.cell? ((⟨X, 0, none⟩ : Addr).add j) = some u
theorem TxS.row {B : Nat} {w1 w : World} {x : Value} {Y : List UInt8} (h : TxS B w1 w x Y) : w.ownsRow B 5 1 x Y.length (Lib.byteCells Y) := h.r
theorem TxS.below {B : Nat} {w1 w : World} {x : Value} {Y : List UInt8} (h : TxS B w1 w x Y) : Below B w1 w := h.b
theorem TxS.size {B : Nat} {w1 w : World} {x : Value} {Y : List UInt8} (h : TxS B w1 w x Y) : B ≤ w.heap.size := Nat.le_trans h.s h.b.size
theorem TxS.drew {B : Nat} {w1 w : World} {x : Value} {Y : List UInt8} (h : TxS B w1 w x Y) : TxS B w1 w.drew x Y := ⟨World.ownsRow.drew h.r, h.b.drew, h.s⟩
theorem TxS.alloc {B : Nat} {w1 w : World} {x : Value} {Y : List UInt8} (h : TxS B w1 w x Y) (o : Obj) : TxS B w1 (w.alloc o) x Y := ⟨World.ownsRow.alloc h.r o, h.b.alloc h.size o, h.s⟩
theorem TxS.kept {B : Nat} {w1 w w' : World} {x : Value} {Y : List UInt8} (h : TxS B w1 w x Y) (hb : Below w.heap.size w w') : TxS B w1 w' x Y := ⟨row_kept h.r hb, h.b.trans (hb.mono h.size), h.s⟩
theorem TxS.grow {B : Nat} {w1 w w' : World} {x y : Value} {Y Z : List UInt8} {n : Nat} {xs : List Value} (h : TxS B w1 w x Y) (hown : w'.ownsRow B 5 1 y n xs) (hg : w.grownBy w' x.ownBlock) (hn : n = Z.length) (hx : xs = Lib.byteCells Z) : TxS B w1 w' y Z := by
  subst hn hx
  exact ⟨hown, h.b.grown hg h.size (fun k e => drow_ge h.r e), h.s⟩
theorem TxS.kp {B : Nat} {w1 w w' : World} {x : Value} {Y : List UInt8} (h : TxS B w1 w x Y) (hg : w.grownBy w' x.ownBlock) : Kp Y.length w w' := by
  refine ⟨fun ob t arr hs hb => ?_⟩
  have hb' : w.heap[ob]? = some (.cells arr t) := hb
  refine (hg.block ob hb.lt (fun e => ?_)).trans hb'
  obtain ⟨_, ⟨rfl, _⟩ | ⟨g, cap, cur, rfl, _, hc, h1, _, h3, _⟩⟩ := h.r
  · simp [Value.ownBlock] at e
  · simp [Value.ownBlock] at e
    subst e
    rw [hb'] at hc
    simp at hc
    obtain ⟨rfl, h9⟩ := hc
    rcases hs with hs | hs
    · first | exact hs h9 | exact hs h9.1
    · omega
theorem Kp.bk {n : Nat} {w w' : World} {ob : Nat} {t : TypeId} {arr : Array Value} (h : Kp n w w') (hb : Bk w ob t arr) (hs : t ≠ 5 ∨ arr.size < n) : Bk w' ob t arr := h.o ob t arr hs hb
theorem Kp.below {w w' : World} (hb : Below w.heap.size w w') (n : Nat) : Kp n w w' := ⟨fun _ _ _ _ h => h.below hb⟩
theorem Src.alloc {w : World} {X : Nat} {L : List UInt8} (h : Src w X L) (o : Obj) : Src (w.alloc o) X L := ⟨fun j u hu => by
  have h1 := h.o j u hu
  have hl : X < w.heap.size := by
    rw [Addr.add_lit] at h1
    simp only [World.cell?] at h1
    rcases Nat.lt_or_ge X w.heap.size with h' | h'
    · exact h'
    · simp [Array.getElem?_eq_none h'] at h1
  exact (((Below.refl w.heap.size w).alloc (Nat.le_refl _) o).cell (by rw [Addr.add_lit]; exact hl)).trans h1⟩
theorem Src.one {w : World} {X : Nat} {b : UInt8} {z : Int} (hz : z = (b.toNat : Int)) (h : Bk w X 5 #[.int .u8 z]) : Src w X [b] := by
  subst hz
  refine ⟨fun j u hu => ?_⟩
  rw [Addr.add_lit, Nat.zero_add]
  match j, hu with
  | 0, hu => exact h.cell (i := 0) hu
  | (j + 1), hu => simp [Lib.byteCells] at hu
theorem tx_text {ops : Array Oper} {o : Oper} {a : Act} {w : World} {K : Act → World → Prop} {Q : Exit → Act → World → Prop} {E : Prop} {B : Nat} {w1 : World} (hg : o.guard = none) (sl x : Operand) (hop : o.op = Op.call { callee := Callee.builtin Builtin.append, args := #[sl, x], argTypes := #[28, 9] })
    (v : Value) (Y : List UInt8) (hs : a.eval sl = v) (h : TxS B w1 w v Y) (s : ByteArray) (hx : a.eval x = .string s) (hl : Y.length + s.size ≤ 1000000000000)
    (hK : ∀ v' w', TxS B w1 w' v' (Y ++ s.data.toList) → Kp Y.length w w' → K (a.put o.dst v') w') : if Region.wanted o (yielded ops a.tmps) = true then Oper.wp Tryd.prog o a w K Q else E := by
  obtain ⟨i0, hi, hz0, hz1, hz2⟩ := info_parts info5
  refine step_append_text hg sl x 28 9 hop B 5 i0 Tryd.underlying28 Tryd.underlying9 hi hz0 hz1 hz2 v Y.length (Lib.byteCells Y) hs h.row s hx (by unfold maxLen; omega) (by omega) h.size ?_
  intro v' w' hown hgrow
  exact hK v' w' (h.grow hown hgrow (by rw [List.length_append]; rfl) (by rw [Lib.byteCells_append]; rfl)) (h.kp hgrow)
theorem txl_text {ops : Array Oper} {rest : List Oper} {o : Oper} {a : Act} {w : World} {Q : Exit → Act → World → Prop} {B : Nat} {w1 : World} (hg : o.guard = none) (sl x : Operand) (hop : o.op = Op.call { callee := Callee.builtin Builtin.append, args := #[sl, x], argTypes := #[28, 9] })
    (v : Value) (Y : List UInt8) (hs : a.eval sl = v) (h : TxS B w1 w v Y) (s : ByteArray) (hx : a.eval x = .string s) (hl : Y.length + s.size ≤ 1000000000000)
    (hK : ∀ v' w', TxS B w1 w' v' (Y ++ s.data.toList) → Kp Y.length w w' → wpList Tryd.prog ops Q rest (a.put o.dst v') w') : wpList Tryd.prog ops Q (o :: rest) a w := by
  obtain ⟨i0, hi, hz0, hz1, hz2⟩ := info_parts info5
  refine Lib.wpList_append_own_string _ hg sl x 28 9 hop B 5 i0 Tryd.underlying28 Tryd.underlying9 hi hz0 hz1 hz2 v Y.length (Lib.byteCells Y) hs h.row s hx (by unfold maxLen; omega) (by omega) h.size ?_
  intro v' w' hown hgrow _
  exact hK v' w' (h.grow hown hgrow (by rw [List.length_append]; rfl) (by rw [Lib.byteCells_append]; rfl)) (h.kp hgrow)
theorem tx_own {ops : Array Oper} {o : Oper} {a : Act} {w : World} {K : Act → World → Prop} {Q : Exit → Act → World → Prop} {E : Prop} {B : Nat} {w1 : World} (hg : o.guard = none) (sl x : Operand) (hop : o.op = Op.call { callee := Callee.builtin Builtin.append, args := #[sl, x], argTypes := #[28, 28] })
    (v : Value) (Y : List UInt8) (hs : a.eval sl = v) (h : TxS B w1 w v Y) (L : List UInt8) (X c : Nat) (hx : a.eval x = .slice (some ⟨X, 0, none⟩) L.length c) (hc : Src w X L) (hl : Y.length + L.length ≤ 1000000000000)
    (hK : ∀ v' w', TxS B w1 w' v' (Y ++ L) → Kp Y.length w w' → K (a.put o.dst v') w') : if Region.wanted o (yielded ops a.tmps) = true then Oper.wp Tryd.prog o a w K Q else E := by
  obtain ⟨i0, hi, hz0, hz1, hz2⟩ := info_parts info5
  refine step_append_own hg sl x 28 hop B 5 i0 (.int .u8 0) 1 1 Tryd.underlying28 hi hz0 hz1 hz2 rfl (by decide) v Y.length (Lib.byteCells Y) hs h.row ⟨X, 0, none⟩ L.length c (Lib.byteCells L) hx (by rw [Lib.byteCells_length]; omega) hc.o (byteCells_ones _) (by unfold maxLen; omega) (by omega) h.size ?_
  intro v' w' hown hgrow
  exact hK v' w' (h.grow hown hgrow (by rw [List.length_append]) (by rw [Lib.byteCells_append])) (h.kp hgrow)
theorem txl_own {ops : Array Oper} {rest : List Oper} {o : Oper} {a : Act} {w : World} {Q : Exit → Act → World → Prop} {B : Nat} {w1 : World} (hg : o.guard = none) (sl x : Operand) (hop : o.op = Op.call { callee := Callee.builtin Builtin.append, args := #[sl, x], argTypes := #[28, 28] })
    (v : Value) (Y : List UInt8) (hs : a.eval sl = v) (h : TxS B w1 w v Y) (L : List UInt8) (X c : Nat) (hx : a.eval x = .slice (some ⟨X, 0, none⟩) L.length c) (hc : Src w X L) (hl : Y.length + L.length ≤ 1000000000000)
    (hK : ∀ v' w', TxS B w1 w' v' (Y ++ L) → Kp Y.length w w' → wpList Tryd.prog ops Q rest (a.put o.dst v') w') : wpList Tryd.prog ops Q (o :: rest) a w := by
  obtain ⟨i0, hi, hz0, hz1, hz2⟩ := info_parts info5
  refine wpList_append_own _ hg sl x 28 hop B 5 i0 (.int .u8 0) 1 1 Tryd.underlying28 hi hz0 hz1 hz2 rfl (by decide) v Y.length (Lib.byteCells Y) hs h.row ⟨X, 0, none⟩ L.length c (Lib.byteCells L) hx (by rw [Lib.byteCells_length]; omega) hc.o (byteCells_ones _) (by unfold maxLen; omega) (by omega) h.size ?_
  intro v' w' hown hgrow _
  exact hK v' w' (h.grow hown hgrow (by rw [List.length_append]) (by rw [Lib.byteCells_append])) (h.kp hgrow)
theorem digits_tx {B : Nat} {w1 : World} (z : Int) (h0 : 0 ≤ z) (h1 : z ≤ 1000000) (v : Value) (Y : List UInt8) (w : World) (h : TxS B w1 w v Y) :
    Calls Tryd.prog 24 #[.int .i64 z] w fun e w' => ∃ X c, e = .returned (.slice (some ⟨X, 0, none⟩) (dec z).length c) ∧ Hid (Src w' X (dec z)) ∧ Hid (TxS B w1 w' v Y) ∧ Hid (Kp Y.length w w') := by
  refine (digits_int z h0 h1 w).mono ?_
  rintro r w' ⟨X, c, rfl, hc, hb⟩
  exact ⟨X, c, rfl, ⟨hc⟩, h.kept hb, Kp.below hb _⟩
theorem ok_nums {m : Md} (h : m.ok = true) : (0 ≤ m.n ∧ m.n ≤ 4) ∧ (0 ≤ m.s ∧ m.s ≤ 65535) ∧ (0 ≤ m.z ∧ m.z ≤ 950) ∧ m.h.length ≤ 4 ∧ m.e.length ≤ 6 := by
  simp only [Md.ok, Bool.and_eq_true, decide_eq_true_eq] at h
  have := h.1.1.1
  unfold Md.hd at this
  omega
theorem ok_row8 {m : Md} (h : m.ok = true) {k : Nat} (hk : k < m.h.length) : (hAt m.h k).length ≤ 8 := by
  simp only [Md.ok, Bool.and_eq_true, decide_eq_true_eq] at h
  have hr : rowB m (hAt m.h k) = true := List.all_eq_true.1 h.1.2 k (by simpa using hk)
  simp only [rowB, Bool.and_eq_true, decide_eq_true_eq] at hr
  exact hr.1
theorem ok_op9 {m : Md} (h : m.ok = true) {k q : Nat} (hk : k < m.h.length) (hq : q < (hAt m.h k).length) : let o := oAt (hAt m.h k) q; (0 ≤ o.c ∧ o.c ≤ 6) ∧ (0 ≤ o.a ∧ o.a ≤ 999) ∧ (0 ≤ o.b ∧ o.b ≤ 999) ∧ (0 ≤ o.k ∧ o.k ≤ 999) := by
  have hm := (ok_nums h)
  simp only [Md.ok, Bool.and_eq_true, decide_eq_true_eq] at h
  have hr : rowB m (hAt m.h k) = true := List.all_eq_true.1 h.1.2 k (by simpa using hk)
  simp only [rowB, Bool.and_eq_true] at hr
  have ho := List.all_eq_true.1 hr.2 q (by simpa using hq)
  simp only [O.ok, okO, decide_eq_true_eq] at ho
  simp only
  omega
theorem ok_ev9 {m : Md} (h : m.ok = true) {k : Nat} (hk : k < m.e.length) : stB m k (evAt m.e k) = true := by
  simp only [Md.ok, Bool.and_eq_true, decide_eq_true_eq] at h
  exact List.all_eq_true.1 h.2 k (by simpa using hk)
theorem ev_len (t s q d k v : Int) (h1 : t ≤ 1000000) (h2 : s ≤ 1000000) (h3 : q ≤ 1000000) (h4 : d ≤ 1000000) (h5 : k ≤ 1000000) (h6 : v ≤ 1000000) : (evText t s q d k v).length ≤ 6000040 := by
  have e1 := dec_len t h1
  have e2 := dec_len s h2
  have e3 := dec_len q h3
  have e4 := dec_len d h4
  have e5 := dec_len k h5
  have e6 := dec_len v h6
  unfold evText fromText
  split <;> simp only [List.length_append, List.length_cons, List.length_nil] <;> omega
theorem ev_ne (t s q d k v : Int) : evText t s q d k v ≠ [] := by simp [evText]
theorem own_src {B : Nat} {w : World} {x : Value} {L : List UInt8} (h : OwnB B w x L) (hne : L ≠ []) : ∃ X c, x = .slice (some ⟨X, 0, none⟩) L.length c ∧ Src w X L := by
  obtain ⟨a, cap, rfl, _, _, h⟩ := h
  obtain ⟨g, rfl, _, _, hb⟩ := h.resolve_left hne
  refine ⟨g, cap, rfl, ⟨fun j u hu => ?_⟩⟩
  rw [Addr.add_lit]
  have hj : j < L.length := by
    have := (List.getElem?_eq_some_iff.1 hu).1
    rw [Lib.byteCells_length] at this
    exact this
  have h9 := hb.2 j hj
  rw [h9]
  simp only [Lib.byteCells, List.getElem?_map, List.getElem?_eq_getElem hj, Option.map_some, Option.some.injEq] at hu
  rw [← hu]
  simp [byteAt, hj]
theorem text_tx {B : Nat} {w1 : World} (t s q d k v g : Int) (ht0 : 0 ≤ t) (ht1 : t ≤ 1000000) (hs1 : s ≤ 1000000) (hq0 : 0 ≤ q) (hq1 : q ≤ 1000000) (hd0 : 0 ≤ d) (hd1 : d ≤ 1000000) (hk0 : 0 ≤ k) (hk1 : k ≤ 1000000) (hv0 : 0 ≤ v) (hv1 : v ≤ 1000000) (y : Value) (Y : List UInt8) (w : World) (h : TxS B w1 w y Y) :
    Calls Tryd.prog 25 #[.agg #[.int .i64 t, .int .i64 s, .int .i64 q, .int .i64 d, .int .i64 k, .int .i64 v, .int .i64 g]] w fun e w' => ∃ X c, e = .returned (.slice (some ⟨X, 0, none⟩) (evText t s q d k v).length c) ∧ Hid (Src w' X (evText t s q d k v)) ∧ Hid (TxS B w1 w' y Y) ∧ Hid (Kp Y.length w w') := by
  refine (text_any t s q d k v g w ht0 ht1 hs1 hq0 hq1 hd0 hd1 hk0 hk1 hv0 hv1).mono ?_
  rintro r w' ⟨x, rfl, hown, hb⟩
  obtain ⟨X, c, rfl, hs⟩ := own_src hown (ev_ne t s q d k v)
  exact ⟨X, c, rfl, hs, h.kept hb, Kp.below hb _⟩
theorem opWord_len (c : Int) : (opWord c).length ≤ 4 := by
  unfold opWord
  repeat' split
  all_goals simp
theorem ops_snoc {r : List O} {q : Nat} (h : q < r.length) : opsText (r.take (q + 1)) = opsText (r.take q) ++ opText (oAt r q) := by
  rw [List.take_add_one, List.getElem?_eq_getElem h, opsText_append]
  simp [opsText, oAt, h, List.getD]
theorem src_at9 {w : World} {X : Nat} {L : List UInt8} (h : Src w X L) : ∀ (j : Nat) u, (Lib.byteCells L)[j]? = some u → w.cell? ((⟨X, 0, none⟩ : Addr).add j) = some u := h.o
def textR (m : Md) : List UInt8 := if m.ok = true then modText m else []
end Go.Proofs.YtbcdfacbhemijaaDoor

/- Rows of strings; texts that are joined. -/
namespace Go.Proofs.YtbcdfacbhemijaaDoor
open Go.RowKit
theorem info9 : (Tryd.prog.info? 9).map (fun i => (i.zero, i.size, i.bytes)) = some (some (.string ⟨#[]⟩), 1, 16) := by kernel_rfl
def strs (l : List ByteArray) : List Value := l.map Value.string
def txts (l : List ByteArray) : List (List UInt8) := l.map (·.data.toList)
def SrS (B : Nat) (w : World) (x : Value) (l : List ByteArray) : Prop := w.ownsRow B 9 1 x l.length (strs l)
theorem SrS.below {B : Nat} {w w' : World} {x : Value} {l : List ByteArray} (h : SrS B w x l) (hb : Below w.heap.size w w') : SrS B w' x l := by
  obtain ⟨h0, h1 | ⟨x, cap, cur, e, hx, hc, h2⟩⟩ := h
  · exact ⟨h0, .inl h1⟩
  · exact ⟨h0, .inr ⟨x, cap, cur, e, hx, (hb.block _ (Array.getElem?_eq_some_iff.1 hc).1).trans hc, h2⟩⟩
theorem SrS.alloc {B : Nat} {w : World} {x : Value} {l : List ByteArray} (h : SrS B w x l) (o : Obj) : SrS B (w.alloc o) x l := World.ownsRow.alloc h o
theorem SrS.drew {B : Nat} {w : World} {x : Value} {l : List ByteArray} (h : SrS B w x l) : SrS B w.drew x l := World.ownsRow.drew h
theorem SrS.ge {B : Nat} {w : World} {x : Value} {l : List ByteArray} (h : SrS B w x l) {r : Nat} (e : x.ownBlock = some r) : B ≤ r := by
  obtain ⟨_, ⟨rfl, _⟩ | ⟨g, cap, cur, rfl, hg, _⟩⟩ := h
  · cases e
  · cases e; exact hg
theorem SrS.made (w : World) (l : List ByteArray) (arr : Array Value) (ha : arr.toList = strs l) (n : Nat) (hn : n = l.length) (hl : l.length ≤ 100000) : SrS w.heap.size (w.alloc (.cells arr 9)) (.slice (some ⟨w.heap.size, 0, none⟩) n n) l := by
  subst hn
  have hs : arr.size = l.length := by
    have := congrArg List.length ha
    simpa [strs] using this
  refine ⟨by simp [strs], .inr ⟨w.heap.size, l.length, arr, rfl, Nat.le_refl _, heap_alloc_new w _, Nat.le_refl _, by unfold maxLen; omega, by omega, ?_⟩⟩
  rw [ha]
  exact List.take_of_length_le (by simp [strs])
theorem SrS.cells {B : Nat} {w : World} {x : Value} {l : List ByteArray} (h : SrS B w x l) (hne : l ≠ []) : ∃ g cap, x = .slice (some ⟨g, 0, none⟩) l.length cap ∧ g < w.heap.size ∧ l.length ≤ cap ∧ ∀ (j : Nat) y, l[j]? = some y → w.cell? ⟨g, 0 + j, none⟩ = some (.string y) := by
  obtain ⟨h0, ⟨_, h1⟩ | ⟨g, cap, cur, rfl, _, hc, h2, _, h4, h5⟩⟩ := h
  · exact absurd (List.length_eq_zero_iff.1 h1) hne
  · refine ⟨g, cap, rfl, (Array.getElem?_eq_some_iff.1 hc).1, h2, fun j y hy => ?_⟩
    have hj : j < l.length := (List.getElem?_eq_some_iff.1 hy).1
    rw [Nat.zero_add]
    simp only [World.cell?, hc]
    have e1 : (cur.toList.take (l.length * 1))[j]? = some (.string y) := by
      rw [h5]
      simp [strs, hy]
    rw [List.getElem?_take] at e1
    have e2 : j < l.length ∧ cur[j]? = some (.string y) := by simpa using e1
    exact e2.2
def Srt (w : World) (X : Nat) (r : List ByteArray) : Prop := ∀ j u, (strs r)[j]? = some u → w.cell? ((⟨X, 0, none⟩ : Addr).add j) = some u
theorem Srt.new (w : World) (r : List ByteArray) (arr : Array Value) (ha : arr.toList = strs r) : Srt (w.alloc (.cells arr 9)) w.heap.size r := by
  intro j u hu
  have h0 := (MapKept.heap_alloc w (.cells arr 9)).1
  rw [Addr.add_lit, Nat.zero_add]
  simp only [World.cell?, h0]
  rw [← ha] at hu
  simpa using hu
def Kp9 (w w' : World) : Prop := ∀ ob t arr, t ≠ 9 → Bk w ob t arr → Bk w' ob t arr
theorem SrS.kp {B : Nat} {w w' : World} {x : Value} {l : List ByteArray} (h : SrS B w x l) (hg : w.grownBy w' x.ownBlock) : Kp9 w w' := by
  intro ob t arr hs hb
  have hb' : w.heap[ob]? = some (.cells arr t) := hb
  refine (hg.block ob hb.lt (fun e => ?_)).trans hb'
  obtain ⟨_, ⟨rfl, _⟩ | ⟨g, cap, cur, rfl, _, hc, h1, _, h3, _⟩⟩ := h
  · simp [Value.ownBlock] at e
  · simp [Value.ownBlock] at e
    subst e
    rw [hb'] at hc
    simp at hc
    first | exact hs hc.2 | exact hs hc.2.1
theorem strs_ones (l : List ByteArray) : ∀ u ∈ strs l, u.oneCell' = true := by
  intro u hu
  obtain ⟨b, _, rfl⟩ := List.mem_map.1 hu
  rfl
theorem sr_own {ops : Array Oper} {o : Oper} {a : Act} {w : World} {K : Act → World → Prop} {Q : Exit → Act → World → Prop} {E : Prop} {B : Nat} (hg : o.guard = none) (sl x : Operand) (hop : o.op = Op.call { callee := Callee.builtin Builtin.append, args := #[sl, x], argTypes := #[60, 60] })
    (v : Value) (l : List ByteArray) (hs : a.eval sl = v) (h : SrS B w v l) (r : List ByteArray) (X c : Nat) (hx : a.eval x = .slice (some ⟨X, 0, none⟩) r.length c) (hc : Srt w X r) (hl : l.length + r.length ≤ 100000) (hB : B ≤ w.heap.size)
    (hK : ∀ v' w', SrS B w' v' (l ++ r) → Below B w w' → Kp9 w w' → K (a.put o.dst v') w') : if Region.wanted o (yielded ops a.tmps) = true then Oper.wp Tryd.prog o a w K Q else E := by
  obtain ⟨i0, hi, hz0, hz1, hz2⟩ := info_parts info9
  refine step_append_own hg sl x 60 hop B 9 i0 (.string ⟨#[]⟩) 1 16 Tryd.underlying60 hi hz0 hz1 hz2 rfl (by decide) v l.length (strs l) hs h ⟨X, 0, none⟩ r.length c (strs r) hx (by simp [strs]) hc (strs_ones _) (by unfold maxLen; omega) (by omega) hB ?_
  intro v' w' hown hgrow
  exact hK v' w' (by unfold SrS; rw [List.length_append, strs, List.map_append]; exact hown) ((Below.refl B w).grown hgrow hB (fun k e => h.ge e)) (h.kp hgrow)
theorem srl_own {ops : Array Oper} {rest : List Oper} {o : Oper} {a : Act} {w : World} {Q : Exit → Act → World → Prop} {B : Nat} (hg : o.guard = none) (sl x : Operand) (hop : o.op = Op.call { callee := Callee.builtin Builtin.append, args := #[sl, x], argTypes := #[60, 60] })
    (v : Value) (l : List ByteArray) (hs : a.eval sl = v) (h : SrS B w v l) (r : List ByteArray) (X c : Nat) (hx : a.eval x = .slice (some ⟨X, 0, none⟩) r.length c) (hc : Srt w X r) (hl : l.length + r.length ≤ 100000) (hB : B ≤ w.heap.size)
    (hK : ∀ v' w', SrS B w' v' (l ++ r) → Below B w w' → Kp9 w w' → wpList Tryd.prog ops Q rest (a.put o.dst v') w') : wpList Tryd.prog ops Q (o :: rest) a w := by
  obtain ⟨i0, hi, hz0, hz1, hz2⟩ := info_parts info9
  refine wpList_append_own _ hg sl x 60 hop B 9 i0 (.string ⟨#[]⟩) 1 16 Tryd.underlying60 hi hz0 hz1 hz2 rfl (by decide) v l.length (strs l) hs h ⟨X, 0, none⟩ r.length c (strs r) hx (by simp [strs]) hc (strs_ones _) (by unfold maxLen; omega) (by omega) hB ?_
  intro v' w' hown hgrow _
  exact hK v' w' (by unfold SrS; rw [List.length_append, strs, List.map_append]; exact hown) ((Below.refl B w).grown hgrow hB (fun k e => h.ge e)) (h.kp hgrow)
theorem join_any {B : Nat} (w : World) (x : Value) (l : List ByteArray) (sep : ByteArray) (h : SrS B w x l) (hne : l ≠ []) (hl : l.length ≤ 100000) (Y : List UInt8) (hY : Lib.join (txts l) sep.data.toList = Y) (hb : Y.length ≤ 1000000000) :
    Calls Tryd.prog 33 #[x, .string sep] w fun e w' => ∃ b : ByteArray, e = .returned (.string b) ∧ b.data.toList = Y ∧ Below w.heap.size w w' := by
  obtain ⟨g, cap, rfl, hg, hc, hcells⟩ := h.cells hne
  subst hY
  refine (Tryd.strings_Join g 0 cap l sep w hcells hg (by omega) hc (by have h9 : (Lib.join (txts l) sep.data.toList).length ≤ 1000000000 := hb; have e9 : txts l = l.map (·.data.toList) := rfl; rw [e9] at h9; omega)).mono ?_
  rintro e w' ⟨rfl, hb'⟩
  exact ⟨_, rfl, rfl, hb'⟩
def endL (L : List (List UInt8)) : List UInt8 := (L.map (· ++ [10])).flatten
def spL (L : List (List UInt8)) : List UInt8 := Lib.joinTail [32] L
theorem endL_append (a b : List (List UInt8)) : endL (a ++ b) = endL a ++ endL b := by simp [endL]
theorem spL_append (a b : List (List UInt8)) : spL (a ++ b) = spL a ++ spL b := by simp [spL, Lib.joinTail]
theorem join_end : ∀ (L : List (List UInt8)), L ≠ [] → Lib.join L [10] ++ [10] = endL L
  | [], h => absurd rfl h
  | a :: l, _ => by
    rw [Lib.join_cons]
    have h9 : ∀ l : List (List UInt8), Lib.joinTail [10] l ++ [10] = [10] ++ endL l := by
      intro l
      induction l with
      | nil => rfl
      | cons b l ih =>
        have e1 : Lib.joinTail [10] (b :: l) = [10] ++ b ++ Lib.joinTail [10] l := by simp [Lib.joinTail]
        rw [e1, List.append_assoc, ih]
        simp [endL]
    rw [List.append_assoc, h9]
    simp [endL]
theorem txts_append (a b : List ByteArray) : txts (a ++ b) = txts a ++ txts b := by simp [txts]
theorem conv_own2 (w : World) (s : ByteArray) (l : List UInt8) (hs : s.data.toList = l) (hl : l.length ≤ 1000000000) : OwnB w.heap.size (Lib.bytesWorld w 5 s) (.slice (some ⟨w.heap.size, 0, none⟩) s.size (grownCap w s.size 0 5)) l := by
  have hsz : s.size = l.length := by rw [← hs]; rfl
  have hge := grownCap_ge w s.size 0 5
  refine ⟨_, _, by rw [hsz], by rw [← hsz]; exact hge, grownCap_le_maxLen w _ 0 5 (by unfold maxLen; omega), .inr ⟨w.heap.size, rfl, Nat.le_refl _, fun j hj => ?_, ?_, fun i hi => ?_⟩⟩
  · simp only [World.frozen?, Lib.bytesWorld_at_new]
    have h9 : (Lib.bytesCells w 5 s).size = grownCap w s.size 0 5 := by
      unfold Lib.bytesCells
      simp
      have : s.data.size = s.size := rfl
      omega
    rw [h9]
    simp
    omega
  · rw [Lib.bytesWorld_size]; omega
  · rw [Nat.zero_add, Lib.bytesWorld_cell w 5 s i (by omega), hs]
    rfl
/- 'string(b)' of bytes of one's own, one at least. -/
theorem conv_back {B : Nat} {w : World} {x : Value} {l : List UInt8} (h : OwnB B w x l) (hne : l ≠ []) : (convert 28 9 x).run Tryd.prog w = .ok (.string ⟨l.toArray⟩) w := by
  obtain ⟨X, c, rfl, hs⟩ := own_src h hne
  have hs' := hs
  refine run_convert_bytes_back w 28 9 5 ⟨X, 0, none⟩ c l Tryd.underlying28 Tryd.underlying5 Tryd.underlying9 (fun j hj => ?_)
  refine src_at9 hs' j _ ?_
  simp [Lib.byteCells, List.getElem?_eq_getElem hj]
theorem op_len (x : O) (h1 : x.a ≤ 999) (h2 : x.b ≤ 999) (h3 : x.k ≤ 999) : (opText x).length ≤ 4000000 := by
  have e0 := opWord_len x.c
  have e1 := dec_len x.a (by omega)
  have e2 := dec_len x.b (by omega)
  have e3 := dec_len x.k (by omega)
  unfold opText
  simp only [List.length_append, List.length_cons, List.length_nil]
  omega
theorem ops_len (r : List O) : (∀ q, q < r.length → (oAt r q).a ≤ 999 ∧ (oAt r q).b ≤ 999 ∧ (oAt r q).k ≤ 999) → ∀ q, q ≤ r.length → (opsText (r.take q)).length ≤ q * 4000000
  | _, 0, _ => by simp [opsText]
  | h, q + 1, hq => by
    obtain ⟨h1, h2, h3⟩ := h q (by omega)
    have h4 := ops_len r h q (by omega)
    have h5 := op_len (oAt r q) h1 h2 h3
    rw [ops_snoc (by omega), List.length_append]
    omega
theorem kinds_len {m : Md} (h : m.ok = true) : ∀ k, k ≤ m.h.length → (kindsText m.h k).length ≤ k * 40000000
  | 0, _ => by simp [kindsText]
  | k + 1, hk => by
    have h1 := kinds_len h k (by omega)
    have h2 := ok_row8 h (k := k) (by omega)
    have h3 := ops_len (hAt m.h k) (fun q hq => by obtain ⟨_, ⟨_, h4⟩, ⟨_, h5⟩, ⟨_, h6⟩⟩ := ok_op9 h (k := k) (by omega) hq; exact ⟨h4, h5, h6⟩) _ (Nat.le_refl _)
    rw [List.take_of_length_le (Nat.le_refl _)] at h3
    have h4 := (ok_nums h).2.2.2.1
    have h5 := dec_len (k : Int) (by omega)
    show (kindsText m.h k ++ kindText k (hAt m.h k)).length ≤ _
    unfold kindText
    simp only [List.length_append, List.length_cons, List.length_nil]
    omega
theorem head_len {m : Md} (h : m.ok = true) : (headText m).length ≤ 4000000 := by
  obtain ⟨h1, h2, h3, _⟩ := ok_nums h
  have e1 := dec_len m.n (by omega)
  have e2 := dec_len m.s (by omega)
  have e3 := dec_len m.z (by omega)
  unfold headText
  simp only [List.length_append, List.length_cons, List.length_nil]
  omega
theorem ev_ok9 {m : Md} (h : m.ok = true) {k : Nat} (hk : k < m.e.length) : okB (evAt m.e k).t (evAt m.e k).s (evAt m.e k).q (evAt m.e k).d (evAt m.e k).k (evAt m.e k).v (evAt m.e k).g = true := by
  have h1 := ok_ev9 h hk
  simp only [stB, Bool.and_eq_true, decide_eq_true_eq] at h1
  first | exact h1.1 | exact h1.1.1 | exact h1.1.1.1 | exact h1.1.1.1.1
theorem lines_len {m : Md} (h : m.ok = true) : ∀ k, k ≤ m.e.length → (linesText m.e k).length ≤ k * 11000000
  | 0, _ => by simp [linesText]
  | k + 1, hk => by
    have h1 := lines_len h k (by omega)
    have h2 := of_decide_eq_true (ev_ok9 h (k := k) (by omega))
    have h3 := evText_len (evAt m.e k).t (evAt m.e k).s (evAt m.e k).q (evAt m.e k).d (evAt m.e k).k (evAt m.e k).v (by omega) (by omega) (by omega) (by omega) (by omega) (by omega)
    show (linesText m.e k ++ lineText (evAt m.e k)).length ≤ _
    unfold lineText
    simp only [List.length_append, List.length_cons, List.length_nil]
    omega
theorem mod_len {m : Md} (h : m.ok = true) : (modText m).length ≤ 300000000 := by
  have h1 := head_len h
  have h2 := kinds_len h _ (Nat.le_refl _)
  have h3 := lines_len h _ (Nat.le_refl _)
  obtain ⟨_, _, _, h4, h5⟩ := ok_nums h
  unfold modText
  simp only [List.length_append]
  omega
end Go.Proofs.YtbcdfacbhemijaaDoor

/- Digits of any number that is not below 0. -/
namespace Go.Proofs.YtbcdfacbhemijaaDoor
open Go.RowKit
theorem decK : ∀ (k n : Nat), n < 10 ^ (k + 1) → (Lib.decDigits n).length ≤ k + 1
  | 0, n, h => by rw [Lib.decDigits_one (by simpa using h)]; simp
  | k + 1, n, h => by
    by_cases hn : n < 10
    · rw [Lib.decDigits_one hn]; simp
    · rw [decDigits_ge n hn]
      have h1 := decK k (n / 10) (by rw [Nat.pow_succ] at h; omega)
      simp
      omega
theorem dec20 (n : Nat) (h : n ≤ 9223372036854775807) : (Lib.decDigits n).length ≤ 20 := decK 19 n (Nat.lt_of_le_of_lt h (by decide))
theorem dec_len20 (z : Int) (h : z ≤ 9223372036854775807) : (dec z).length ≤ 20 := dec20 z.toNat (by omega)
theorem Src.of {w : World} {X : Nat} {L : List UInt8} (h : ∀ (j : Nat) u, (Lib.byteCells L)[j]? = some u → w.cell? ((⟨X, 0, none⟩ : Addr).add j) = some u) : Src w X L := by
  exact ⟨h⟩
set_option maxHeartbeats 1000000 in
theorem digits_any9 : ∀ (n : Nat) (w : World), n ≤ 9223372036854775807 →
    Calls Tryd.prog 24 #[.int .i64 (n : Int)] w fun e w' => ∃ v, e = .returned v ∧ RowB w.heap.size w' v (Lib.decDigits n) ∧ Below w.heap.size w w' := by
  intro n
  induction n using Nat.strongRecOn with
  | _ n ih =>
    intro w hn
    obtain ⟨i0, hi, hz0, hz1, hz2⟩ := info_parts info5
    by_cases h : n < 10
    · have h1 : (n : Int) < 10 := by omega
      go_enter Tryd.func24, Tryd.ntmps24
      go_wp2
      go_ret
      rw [Lib.decDigits_one h]
      exact ⟨_, rfl, drow_one w _ _ (u8_digit n h).symm, (Below.refl _ w).alloc (Nat.le_refl _) _⟩
    · have h1 : ¬ (n : Int) < 10 := by omega
      have HC : Hid (Calls Tryd.prog 24 #[.int .i64 ((n : Int) / 10)] w fun e w' => ∃ v, e = .returned v ∧ RowB w.heap.size w' v (Lib.decDigits (n / 10)) ∧ Below w.heap.size w w') := by
        rw [show ((n : Int) / 10) = ((n / 10 : Nat) : Int) from by omega]
        exact ih (n / 10) (by omega) w (by omega)
      have hlen := dec20 (n / 10) (by omega)
      go_enter Tryd.func24, Tryd.ntmps24
      go_wp2_with fail
      refine HC.out.mono ?_
      rintro r w1 ⟨v, rfl, hrow, hb⟩
      have HR : Hid (RowB w.heap.size w1 v (Lib.decDigits (n / 10))) := hrow
      have HB : Hid (Below w.heap.size w w1) := hb
      have hs : w.heap.size ≤ w1.heap.size := hb.size
      have hm0 : 0 ≤ (n : Int) % 10 := by omega
      have hm1 : (n : Int) % 10 < 10 := by omega
      have HM : Hid ((n : Int) % 10 = ((n % 10 : Nat) : Int)) := by show (n : Int) % 10 = ((n % 10 : Nat) : Int); omega
      have hL : (Lib.decDigits (n / 10)).length ≤ 1000000000000 := by omega
      clear hrow hb HC ih
      go_wp2_with (at_builtin; refine wpList_append_own _ rfl _ _ 28 rfl w.heap.size 5 i0 (.int .u8 0) 1 1 Tryd.underlying28 hi hz0 hz1 hz2 rfl (by decide) v _ _ rfl (HR.out.alloc _) ⟨w1.heap.size, 0, none⟩ 1 1 [.int .u8 (48 + (n : Int) % 10)] rfl rfl (fun j u hu => by (match j, hu with | 0, hu => simp at hu; subst hu; simp [Addr.add] | (j + 1), hu => simp at hu)) (fun u hu => by simp at hu; subst hu; rfl) (by unfold maxLen; omega) (by omega) (by simp; omega) ?_; intro v' w2 hown hgrow hnil)
      go_ret
      refine ⟨v', rfl, ?_, ((HB.out.alloc hs _).grown hgrow (by simp; omega) (fun k e => drow_ge HR.out e))⟩
      rw [decDigits_ge n h]
      exact row_snoc hown (by simp) (by simp [Lib.byteCells]; rw [HM.out]; omega)
theorem digits_int9 (z : Int) (h0 : 0 ≤ z) (h1 : z ≤ 9223372036854775807) (w : World) :
    Calls Tryd.prog 24 #[.int .i64 z] w fun e w' => ∃ x cap, e = .returned (.slice (some ⟨x, 0, none⟩) (dec z).length cap) ∧ (∀ j u, (Lib.byteCells (dec z))[j]? = some u → w'.cell? ((⟨x, 0, none⟩ : Addr).add j) = some u) ∧ Below w.heap.size w w' := by
  rw [show z = ((z.toNat : Nat) : Int) from by omega]
  refine (digits_any9 z.toNat w (by omega)).mono ?_
  rintro e w' ⟨v, rfl, hrow, hb⟩
  have hc := fun (x : Nat) (e : v.ownBlock = some x) => hrow.cells e
  obtain ⟨_, ⟨_, h0⟩ | ⟨x, cap, cur, rfl, _⟩⟩ := hrow
  · exact absurd (List.eq_nil_of_length_eq_zero h0) (decDigits_ne _)
  · exact ⟨x, cap, rfl, hc x rfl, hb⟩
theorem digits_tx9 {B : Nat} {w1 : World} (z : Int) (h0 : 0 ≤ z) (h1 : z ≤ 9223372036854775807) (v : Value) (Y : List UInt8) (w : World) (h : TxS B w1 w v Y) :
    Calls Tryd.prog 24 #[.int .i64 z] w fun e w' => ∃ X c, e = .returned (.slice (some ⟨X, 0, none⟩) (dec z).length c) ∧ Hid (Src w' X (dec z)) ∧ Hid (TxS B w1 w' v Y) ∧ Hid (Kp Y.length w w') := by
  refine (digits_int9 z h0 h1 w).mono ?_
  rintro r w' ⟨X, c, rfl, hc, hb⟩
  exact ⟨X, c, rfl, Src.of hc, h.kept hb, Kp.below hb _⟩
theorem itoa_any9 (z : Int) (h0 : 0 ≤ z) (h1 : z ≤ 9223372036854775807) (w : World) (htab : Lib.TabIs Tryd.prog w "internal/strconv.uint64pow10" .u64 Lib.pow10Tab) :
    Calls Tryd.prog 46 #[.int .i64 z] w fun e w' => ∃ b : ByteArray, e = .returned (.string b) ∧ b.data.toList = dec z ∧ Below w.heap.size w w' := by
  refine (Tryd.strconv_Itoa z (by omega) (by omega) w htab).mono ?_
  rintro e w' ⟨rfl, n, os, rfl⟩
  refine ⟨_, rfl, ?_, Lib.below_grow _ w (Nat.le_refl _) n os⟩
  show (Lib.itoa z).toArray.toList = Lib.decDigits z.toNat
  have e1 := Lib.itoa_nonneg z.toNat
  rw [show ((z.toNat : Nat) : Int) = z from by omega] at e1
  rw [e1]
theorem Kp.nil {w w' : World} (hg : w.grownBy w' none) (n : Nat) : Kp n w w' := by
  refine ⟨fun ob t arr _ hb => ?_⟩
  exact (hg.block ob hb.lt (fun e => by cases e)).trans hb
theorem Kp.le {n n' : Nat} {w w' : World} (h : Kp n w w') (hn : n' ≤ n) : Kp n' w w' := by
  exact ⟨fun ob t arr hs hb => h.o ob t arr (hs.imp id (fun h9 => Nat.lt_of_lt_of_le h9 hn)) hb⟩
theorem TxS.nil {B : Nat} {w1 w : World} (hb : Below B w1 w) (h : B ≤ w1.heap.size) : TxS B w1 w (.slice none 0 0) [] := TxS.mk (World.ownsRow_nil w B 5 1) hb h
/- An append of a text that keeps every block of fewer than N bytes: N are there already, or nothing is. -/
theorem tx_textN {ops : Array Oper} {o : Oper} {a : Act} {w : World} {K : Act → World → Prop} {Q : Exit → Act → World → Prop} {E : Prop} {B : Nat} {w1 : World} (hg : o.guard = none) (sl x : Operand) (hop : o.op = Op.call { callee := Callee.builtin Builtin.append, args := #[sl, x], argTypes := #[28, 9] })
    (v : Value) (Y : List UInt8) (hs : a.eval sl = v) (h : TxS B w1 w v Y) (N : Nat) (hN : N ≤ Y.length ∨ v = .slice none 0 0) (s : ByteArray) (hx : a.eval x = .string s) (hl : Y.length + s.size ≤ 1000000000000)
    (hK : ∀ v' w', TxS B w1 w' v' (Y ++ s.data.toList) → Kp N w w' → K (a.put o.dst v') w') : if Region.wanted o (yielded ops a.tmps) = true then Oper.wp Tryd.prog o a w K Q else E := by
  obtain ⟨i0, hi, hz0, hz1, hz2⟩ := info_parts info5
  refine step_append_text hg sl x 28 9 hop B 5 i0 Tryd.underlying28 Tryd.underlying9 hi hz0 hz1 hz2 v Y.length (Lib.byteCells Y) hs h.row s hx (by unfold maxLen; omega) (by omega) h.size ?_
  intro v' w' hown hgrow
  refine hK v' w' (h.grow hown hgrow (by rw [List.length_append]; rfl) (by rw [Lib.byteCells_append]; rfl)) ?_
  rcases hN with hN | hN
  · exact (h.kp hgrow).le hN
  · subst hN
    exact Kp.nil hgrow N
end Go.Proofs.YtbcdfacbhemijaaDoor

/- Emits as plain values, and as cells. -/
namespace Go.Proofs.YtbcdfacbhemijaaDoor
open Go.RowKit
structure Em where
  t : Int
  l : Int
  v : Int
def xAt (l : List Em) (i : Nat) : Em := l.getD i ⟨0, 0, 0⟩
def Em.cs (e : Em) : List Value := [.int .i64 e.t, .int .i64 e.l, .int .i64 e.v]
abbrev Em.val (e : Em) : Value := .agg #[.int .i64 e.t, .int .i64 e.l, .int .i64 e.v]
def cellsX : List Em → List Value
  | [] => []
  | e :: l => e.cs ++ cellsX l
theorem cellsX_length : ∀ l : List Em, (cellsX l).length = l.length * 3
  | [] => rfl
  | e :: l => by simp [cellsX, cellsX_length l, Em.cs]; omega
theorem cellsX_append : ∀ l l' : List Em, cellsX (l ++ l') = cellsX l ++ cellsX l'
  | [], _ => rfl
  | e :: l, l' => by simp [cellsX, cellsX_append l l']
theorem xAt_cons_succ (e : Em) (l : List Em) (i : Nat) : xAt (e :: l) (i + 1) = xAt l i := by simp [xAt]
theorem cellsX_get : ∀ (l : List Em) (i r : Nat), i < l.length → r < 3 → (cellsX l)[i * 3 + r]? = (xAt l i).cs[r]?
  | [], _, _, h, _ => by simp at h
  | e :: l, 0, r, _, hr => by
    have : r < e.cs.length := by simpa [Em.cs] using hr
    simp only [cellsX, Nat.zero_mul, Nat.zero_add]
    rw [List.getElem?_append_left this]
    simp [xAt]
  | e :: l, i + 1, r, h, hr => by
    have h1 := cellsX_get l i r (by simpa using h) hr
    have : e.cs.length ≤ (i + 1) * 3 + r := by simp [Em.cs]; omega
    simp only [cellsX]
    rw [List.getElem?_append_right this, xAt_cons_succ, ← h1]
    congr 1
    simp [Em.cs]; omega
theorem cellsX_one (l : List Em) : ∀ u ∈ cellsX l, u.oneCell' = true := by
  induction l with
  | nil => intro u h; cases h
  | cons e l ih =>
    intro u h
    rcases List.mem_append.1 h with h | h
    · simp [Em.cs] at h
      rcases h with rfl | rfl | rfl <;> rfl
    · exact ih u h
end Go.Proofs.YtbcdfacbhemijaaDoor

/- Emits: how they are read, held against each other, marked, and found again. -/
namespace Go.Proofs.YtbcdfacbhemijaaDoor
open Go.RowKit
structure XAt (w : World) (b o : Nat) (e : Em) : Prop where
  f0 : w.cell? ⟨b, o, none⟩ = some (.int .i64 e.t)
  f1 : w.cell? ⟨b, o + 1, none⟩ = some (.int .i64 e.l)
  f2 : w.cell? ⟨b, o + 2, none⟩ = some (.int .i64 e.v)
theorem XAt.below {w w' : World} {B b o : Nat} {e : Em} (h : XAt w b o e) (hb : Below B w w') (hlt : b < B) : XAt w' b o e :=
  ⟨(hb.cell hlt).trans h.f0, (hb.cell hlt).trans h.f1, (hb.cell hlt).trans h.f2⟩
def XsAt (w : World) (b off : Nat) (l : List Em) : Prop := b < w.heap.size ∧ ∀ i, i < l.length → XAt w b (off + i * 3) (xAt l i)
def IsX (w : World) (x : Value) (l : List Em) : Prop := ∃ a cap, x = .slice a l.length cap ∧ l.length ≤ cap ∧ cap ≤ maxLen ∧ (l = [] ∨ ∃ b off, a = some ⟨b, off, none⟩ ∧ XsAt w b off l)
theorem XsAt.below {w w' : World} {B b off : Nat} {l : List Em} (h : XsAt w b off l) (hb : Below B w w') (hB : b < B) : XsAt w' b off l :=
  ⟨Nat.lt_of_lt_of_le h.1 hb.size, fun i hi => (h.2 i hi).below hb hB⟩
theorem IsX.below {w w' : World} {x : Value} {l : List Em} (h : IsX w x l) (hb : Below w.heap.size w w') : IsX w' x l := by
  obtain ⟨a, cap, rfl, h1, h2, h⟩ := h
  exact ⟨a, cap, rfl, h1, h2, h.imp id (fun ⟨b, off, e, h⟩ => ⟨b, off, e, h.below hb h.1⟩)⟩
theorem RowF.isX {F : Nat → Prop} {w : World} {x : Value} {l : List Em} (h : RowF F w x l.length 3 (cellsX l)) : IsX w x l := by
  obtain ⟨hl, a, cap, rfl, h1, h2, h⟩ := h
  refine ⟨a, cap, rfl, h1, h2, h.imp List.eq_nil_of_length_eq_zero ?_⟩
  rintro ⟨g, rfl, hF, hg, hc⟩
  refine ⟨g, 0, rfl, hg, fun i hi => ?_⟩
  have hget : ∀ r, r < 3 → w.cell? ⟨g, 0 + i * 3 + r, none⟩ = (xAt l i).cs[r]? := fun r hr => by
    rw [← cellsX_get l i r hi hr, Nat.zero_add]
    exact (hc _ (by omega)).1
  exact ⟨hget 0 (by omega), hget 1 (by omega), hget 2 (by omega)⟩
set_option maxHeartbeats 1000000 in
theorem eqEmit_same (t l v : Int) (w : World) :
    Calls Tryd.prog 71 #[.agg #[.int .i64 t, .int .i64 l, .int .i64 v], .agg #[.int .i64 t, .int .i64 l, .int .i64 v]] w fun e w' => e = .returned (.bool true) ∧ Below w.heap.size w w' := by
  go_enter Tryd.func71, Tryd.ntmps71
  go_wp2
  go_ret
  exact ⟨rfl, ((Below.refl _ _).alloc (Nat.le_refl _) _).alloc (by simp) _⟩
set_option maxHeartbeats 1000000 in
theorem eqX_same (x y : Value) (l : List Em) (w : World) (hl : l.length ≤ 1048576) (hx : IsX w x l) (hy : IsX w y l) :
    Calls Tryd.prog 47 #[x, y] w fun e w' => e = .returned (.bool true) ∧ Below w.heap.size w w' := by
  obtain ⟨a, cap, rfl, h1, h2, h⟩ := hx
  obtain ⟨a', cap', rfl, h1', h2', h'⟩ := hy
  clear h1 h2 h1' h2'
  by_cases hz : l = []
  · subst hz
    clear h h'
    go_enter Tryd.func47, Tryd.ntmps47
    go_wp2
    go_loop [5] (fun i => i = .int .i64 0) (fun _ => 0)
    case atStart => rfl
    case round =>
      subst hrel
      go_wp2
      go_ret
      exact ⟨rfl, Below.refl _ _⟩
  · obtain ⟨b, off, rfl, hb, hc⟩ := h.resolve_left hz
    obtain ⟨b', off', rfl, hb', hc'⟩ := h'.resolve_left hz
    clear h h' hz
    go_enter Tryd.func47, Tryd.ntmps47
    go_wp2
    go_loopw [5] (fun i wr => ∃ k : Nat, k ≤ l.length ∧ i = .int .i64 k ∧ Below w.heap.size w wr) (fun i _ => l.length - (intOf i).toNat)
    case atStart => exact ⟨0, Nat.zero_le _, rfl, Below.refl _ _⟩
    case round =>
      obtain ⟨k, hk, rfl, hB⟩ := hrel
      have HB : Hid (Below w.heap.size w wr) := hB
      by_cases hlt : k < l.length
      · obtain ⟨f0, f1, f2⟩ := (hc k hlt).below hB hb
        obtain ⟨e0, e1, e2⟩ := (hc' k hlt).below hB hb'
        have hbr : b < wr.heap.size := Nat.lt_of_lt_of_le hb hB.size
        have hbr' : b' < wr.heap.size := Nat.lt_of_lt_of_le hb' hB.size
        clear hB hc hc'
        go_wp2_with fail
        go_region_held3 (fun W => W.cell? ⟨b, off + k * 3, none⟩ = some (.int .i64 (xAt l k).t) ∧ W.cell? ⟨b, off + k * 3 + 1, none⟩ = some (.int .i64 (xAt l k).l) ∧ W.cell? ⟨b, off + k * 3 + 2, none⟩ = some (.int .i64 (xAt l k).v) ∧ W.cell? ⟨b', off' + k * 3, none⟩ = some (.int .i64 (xAt l k).t) ∧ W.cell? ⟨b', off' + k * 3 + 1, none⟩ = some (.int .i64 (xAt l k).l) ∧ W.cell? ⟨b', off' + k * 3 + 2, none⟩ = some (.int .i64 (xAt l k).v)) ((repeat' apply And.intro) <;> first | (go_keep; done) | (rw [hcA _ _ (by first | omega | (simp; omega) | simp [*])]; simp [*]; done))
          (first | (go_at_call 71; refine (eqEmit_same _ _ _ _).mono ?_; rintro e w2 ⟨rfl, hb2⟩; obtain ⟨hcA, hfA⟩ := bcell hb2))
        clear hcA hfA
        go_wp2
        go_roundw
        case rel => exact ⟨k + 1, by omega, by go_num, HB.out.drew.trans (hb2.mono (by have := HB.out.size; simpa using this))⟩
        case measure => simp [intOf]; omega
      · clear hB hc hc'
        go_wp2
        go_ret
        exact ⟨rfl, HB.out⟩
set_option maxHeartbeats 4000000 in
theorem markXF {F : Nat → Prop} {x : Value} {n : Nat} {cs : List Value} {w : World} (z : Int) (hn : n ≤ 1048577) (hz0 : 0 ≤ z) (hz1 : z ≤ 1073741824) (h : RowF F w x n 3 cs) :
    Calls Tryd.prog 48 #[x, .int .i64 z] w fun e w' => e = .returned (.int .i64 (z + 3 * (n : Int))) ∧ RowF F w' x n 3 (mkCells z (n * 3)) ∧ Turns F w w' := by
  obtain ⟨a, cap, rfl, h1, h2, h⟩ := h.mkTo z
  have HM : Hid (n ≤ cap ∧ cap ≤ maxLen) := ⟨h1, h2⟩
  clear h1 h2
  by_cases hz : n = 0
  · subst hz
    clear h
    go_enter Tryd.func48, Tryd.ntmps48
    go_wp2
    go_loop [5, 1] (fun i y => i = .int .i64 0 ∧ y = .int .i64 z) (fun _ _ => 0)
    case atStart => exact ⟨rfl, rfl⟩
    case round =>
      obtain ⟨rfl, rfl⟩ := hrel
      go_wp2
      go_ret
      exact ⟨ret_int (by simp), RowF.nil HM.out.2, Turns.refl _ _⟩
  · obtain ⟨g, rfl, hF, h⟩ := h.resolve_left hz
    have HR0 : Hid (MkTo w g (n * 3) z 0) := h
    have HF : Hid (F g) := hF
    clear h hz hF
    go_enter Tryd.func48, Tryd.ntmps48
    go_wp2
    go_loopw [5, 1] (fun i y wr => ∃ k : Nat, k ≤ n ∧ i = .int .i64 k ∧ y = .int .i64 (z + 3 * (k : Int)) ∧ MkTo wr g (n * 3) z (k * 3) ∧ Turns (fun b => b = g) w wr) (fun i _ _ => n - (intOf i).toNat)
    case atStart => exact ⟨0, Nat.zero_le _, rfl, by simp, by rw [Nat.zero_mul]; exact HR0.out, Turns.refl _ _⟩
    case round =>
      obtain ⟨k, hk, rfl, rfl, hR, hg⟩ := hrel
      have HR : Hid (MkTo wr g (n * 3) z (k * 3)) := hR
      have HG : Hid (Turns (fun b => b = g) w wr) := hg
      clear hR hg
      by_cases hlt : k < n
      · have hh : ∀ j, j < 3 → (∃ u, wr.cell? ⟨g, k * 3 + j, none⟩ = some u) ∧ wr.frozen? ⟨g, k * 3 + j, none⟩ = false := fun j hj => ⟨Option.isSome_iff_exists.1 (HR.out.2.1 _ (by omega)).1, (HR.out.2.1 _ (by omega)).2⟩
        obtain ⟨⟨v0, g0⟩, f0⟩ := hh 0 (by omega)
        obtain ⟨⟨v1, g1⟩, f1⟩ := hh 1 (by omega)
        obtain ⟨⟨v2, g2⟩, f2⟩ := hh 2 (by omega)
        rw [Nat.add_zero] at g0 f0
        clear hh
        obtain ⟨y, hy⟩ : ∃ y : Int, y = z + 3 * (k : Int) := ⟨_, rfl⟩
        have hy0 : 0 ≤ y := by omega
        have hy1 : y ≤ 1090000000 := by omega
        have HY : Hid (y = z + 3 * (k : Int)) := hy
        rw [← hy]
        clear hy
        go_wp2
        go_roundw
        case rel =>
          have hY := HY.out
          refine ⟨k + 1, by omega, by go_num, by rw [show y + 1 + 1 + 1 = z + 3 * ((k + 1 : Nat) : Int) from by omega], ?_, ?_⟩
          · rw [show (k + 1) * 3 = k * 3 + 3 from by omega]
            exact ((HR.out.put (by omega) (u := y) (by omega)).put (by omega) (u := y + 1) (by omega)).put (by omega) (u := y + 1 + 1) (by omega)
          · exact HG.out.trans (((one_add wr g _ _).trans (one_add _ _ _ _)).trans (one_add _ _ _ _))
        case measure => simp [intOf]; omega
      · go_wp2
        go_ret
        obtain rfl : k = n := by omega
        exact ⟨rfl, MkTo.row HR.out HF.out HM.out.1 HM.out.2, HG.out.mono (fun k e => e ▸ HF.out)⟩

end Go.Proofs.YtbcdfacbhemijaaDoor

/- Data in memory, whatever their shape: numbers and flags, and rows of cells, which hold data again. How they are read; how they are owned: no two rows in one block. -/
namespace Go.Proofs.YtbcdfacbhemijaaDoor
open Go.RowKit
inductive Dat where
  | val (v : Value)
  | row (c n : Nat) (f : Nat → Dat)
/- The value reads as the datum. -/
inductive IsD (w : World) : Value → Dat → Prop
  | val (v : Value) : IsD w v (.val v)
  | nil (a : Option Addr) (cap c : Nat) (f : Nat → Dat) (h : cap ≤ maxLen) : IsD w (.slice a 0 cap) (.row c 0 f)
  | row (b off n cap c : Nat) (f : Nat → Dat) (U : Nat → Value) (h1 : n ≤ cap) (h2 : cap ≤ maxLen) (hb : b < w.heap.size) (hc : ∀ j, j < n * c → w.cell? ⟨b, off + j, none⟩ = some (U j)) (hs : ∀ j, j < n * c → IsD w (U j) (f j)) : IsD w (.slice (some ⟨b, off, none⟩) n cap) (.row c n f)
theorem IsD.under {w w' : World} {x : Value} {d : Dat} (h : IsD w x d) (hb : Below w.heap.size w w') : IsD w' x d := by
  induction h with
  | val v => exact .val v
  | nil a cap c f h => exact .nil a cap c f h
  | row b off n cap c f U h1 h2 hB hc hs ih => exact .row b off n cap c f U h1 h2 (Nat.lt_of_lt_of_le hB hb.size) (fun j hj => (hb.cell (p := ⟨b, off + j, none⟩) hB).trans (hc j hj)) ih
theorem IsD.parts {w : World} {x : Value} {c n : Nat} {f : Nat → Dat} (h : IsD w x (.row c n f)) : ∃ a cap, x = .slice a n cap ∧ n ≤ cap ∧ cap ≤ maxLen ∧
    (n = 0 ∨ ∃ b off, a = some ⟨b, off, none⟩ ∧ b < w.heap.size ∧ ∀ j, j < n * c → ∃ u, w.cell? ⟨b, off + j, none⟩ = some u ∧ IsD w u (f j)) := by
  cases h with
  | nil a cap _ _ h => exact ⟨a, cap, rfl, Nat.zero_le _, h, .inl rfl⟩
  | row b off _ cap _ _ U h1 h2 hB hc hs => exact ⟨_, cap, rfl, h1, h2, .inr ⟨b, off, rfl, hB, fun j hj => ⟨U j, hc j hj, hs j hj⟩⟩⟩
theorem IsD.of_parts {w : World} {a : Option Addr} {cap c n : Nat} {f : Nat → Dat} (h1 : n ≤ cap) (h2 : cap ≤ maxLen) (h : n = 0 ∨ ∃ b off, a = some ⟨b, off, none⟩ ∧ b < w.heap.size ∧ ∀ j, j < n * c → ∃ u, w.cell? ⟨b, off + j, none⟩ = some u ∧ IsD w u (f j)) : IsD w (.slice a n cap) (.row c n f) := by
  rcases h with rfl | ⟨b, off, rfl, hB, h⟩
  · exact .nil a cap c f h2
  · refine .row b off n cap c f (fun j => (w.cell? ⟨b, off + j, none⟩).getD (.int .i64 0)) h1 h2 hB (fun j hj => ?_) (fun j hj => ?_)
    · obtain ⟨u, hu, _⟩ := h j hj
      rw [hu]; rfl
    · obtain ⟨u, hu, hd⟩ := h j hj
      rw [hu]; exact hd
theorem IsD.congr {w : World} {x : Value} {c n : Nat} {f f' : Nat → Dat} (h : IsD w x (.row c n f)) (hf : ∀ j, j < n * c → f j = f' j) : IsD w x (.row c n f') := by
  obtain ⟨a, cap, rfl, h1, h2, h⟩ := h.parts
  exact IsD.of_parts h1 h2 (h.imp id fun ⟨b, off, e, hB, h⟩ => ⟨b, off, e, hB, fun j hj => by rw [← hf j hj]; exact h j hj⟩)
theorem IsD.val_eq {w : World} {x v : Value} (h : IsD w x (.val v)) : x = v := by cases h; rfl
/- The value is the datum, in blocks of F alone, each row in a block of its own, which may be written. -/
inductive OwnD (w : World) : (Nat → Prop) → Value → Dat → Prop
  | val (F : Nat → Prop) (v : Value) : OwnD w F v (.val v)
  | nil (F : Nat → Prop) (a : Option Addr) (cap c : Nat) (f : Nat → Dat) (h : cap ≤ maxLen) : OwnD w F (.slice a 0 cap) (.row c 0 f)
  | row (F : Nat → Prop) (g n cap c : Nat) (f : Nat → Dat) (U : Nat → Value) (G : Nat → Nat → Prop) (h1 : n ≤ cap) (h2 : cap ≤ maxLen) (hg : g < w.heap.size) (hF : F g)
      (hc : ∀ j, j < n * c → w.cell? ⟨g, j, none⟩ = some (U j) ∧ w.frozen? ⟨g, j, none⟩ = false) (hs : ∀ j, j < n * c → OwnD w (G j) (U j) (f j))
      (hG : ∀ j, j < n * c → ∀ k, G j k → F k ∧ k ≠ g) (hGG : ∀ i j, i < n * c → j < n * c → i ≠ j → ∀ k, G i k → ¬ G j k) : OwnD w F (.slice (some ⟨g, 0, none⟩) n cap) (.row c n f)
theorem OwnD.turns {S F : Nat → Prop} {w w' : World} {x : Value} {d : Dat} (h : OwnD w F x d) (ht : Turns S w w') (hS : ∀ k, F k → ¬ S k) : OwnD w' F x d := by
  induction h with
  | val F v => exact .val F v
  | nil F a cap c f h => exact .nil F a cap c f h
  | row F g n cap c f U G h1 h2 hg hF hc hs hG hGG ih =>
    exact .row F g n cap c f U G h1 h2 (Nat.lt_of_lt_of_le hg ht.size) hF (fun j hj => by rw [ht.cell hg (hS g hF), ht.frozen hg (hS g hF)]; exact hc j hj) (fun j hj => ih j hj fun k hk => hS k (hG j hj k hk).1) hG hGG
theorem OwnD.under {F : Nat → Prop} {w w' : World} {x : Value} {d : Dat} (h : OwnD w F x d) (hb : Below w.heap.size w w') : OwnD w' F x d :=
  h.turns (S := fun _ => False) (Turns.of_below hb) (fun _ _ => id)
theorem OwnD.mono {F F' : Nat → Prop} {w : World} {x : Value} {d : Dat} (h : OwnD w F x d) (hF : ∀ k, F k → F' k) : OwnD w F' x d := by
  cases h with
  | val => exact .val F' _
  | nil F a cap c f h => exact .nil F' a cap c f h
  | row F g n cap c f U G h1 h2 hg hF0 hc hs hG hGG =>
    exact .row F' g n cap c f U G h1 h2 hg (hF g hF0) hc hs (fun j hj k hk => ⟨hF k (hG j hj k hk).1, (hG j hj k hk).2⟩) hGG
theorem OwnD.isD {F : Nat → Prop} {w : World} {x : Value} {d : Dat} (h : OwnD w F x d) : IsD w x d := by
  induction h with
  | val F v => exact .val v
  | nil F a cap c f h => exact .nil a cap c f h
  | row F g n cap c f U G h1 h2 hg hF hc hs hG hGG ih =>
    exact .row g 0 n cap c f U h1 h2 hg (fun j hj => by rw [Nat.zero_add]; exact (hc j hj).1) ih
/- All of it lies below the heap's end. -/
theorem OwnD.live {F : Nat → Prop} {w : World} {x : Value} {d : Dat} (h : OwnD w F x d) : OwnD w (fun k => F k ∧ k < w.heap.size) x d := by
  induction h with
  | val F v => exact .val _ v
  | nil F a cap c f h => exact .nil _ a cap c f h
  | row F g n cap c f U G h1 h2 hg hF hc hs hG hGG ih =>
    exact .row _ g n cap c f U (fun j k => G j k ∧ k < w.heap.size) h1 h2 hg ⟨hF, hg⟩ hc ih (fun j hj k hk => ⟨⟨(hG j hj k hk.1).1, hk.2⟩, (hG j hj k hk.1).2⟩) (fun i j hi hj hij k hk hk' => hGG i j hi hj hij k hk.1 hk'.1)
theorem OwnD.parts {F : Nat → Prop} {w : World} {x : Value} {c n : Nat} {f : Nat → Dat} (h : OwnD w F x (.row c n f)) : ∃ a cap, x = .slice a n cap ∧ n ≤ cap ∧ cap ≤ maxLen ∧
    (n = 0 ∨ ∃ g, a = some ⟨g, 0, none⟩ ∧ g < w.heap.size ∧ F g) := by
  cases h with
  | nil F a cap _ _ h => exact ⟨a, cap, rfl, Nat.zero_le _, h, .inl rfl⟩
  | row F g _ cap _ _ U G h1 h2 hg hF hc hs hG hGG => exact ⟨_, cap, rfl, h1, h2, .inr ⟨g, rfl, hg, hF⟩⟩
theorem OwnD.congr {F : Nat → Prop} {w : World} {x : Value} {c n : Nat} {f f' : Nat → Dat} (h : OwnD w F x (.row c n f)) (hf : ∀ j, j < n * c → f j = f' j) : OwnD w F x (.row c n f') := by
  cases h with
  | nil F a cap _ _ h => exact .nil F a cap c f' h
  | row F g _ cap _ _ U G h1 h2 hg hF hc hs hG hGG => exact .row F g n cap c f' U G h1 h2 hg hF hc (fun j hj => by rw [← hf j hj]; exact hs j hj) hG hGG
def upd (f : Nat → Dat) (j : Nat) (d : Dat) : Nat → Dat := fun i => if i = j then d else f i
theorem upd_same (f : Nat → Dat) (j : Nat) (d : Dat) : upd f j d j = d := by simp [upd]
theorem upd_ne (f : Nat → Dat) {i j : Nat} (d : Dat) (h : i ≠ j) : upd f j d i = f i := by simp [upd, h]
/- One cell of a row: what it holds, and what comes of the row when that alone turns. -/
theorem OwnD.step {F : Nat → Prop} {w : World} {g n cap c : Nat} {f : Nat → Dat} (h : OwnD w F (.slice (some ⟨g, 0, none⟩) n cap) (.row c n f)) {j : Nat} (hj : j < n * c) :
    ∃ u K, w.cell? ⟨g, j, none⟩ = some u ∧ w.frozen? ⟨g, j, none⟩ = false ∧ OwnD w K u (f j) ∧ (∀ k, K k → F k ∧ k ≠ g) ∧
      ∀ w' d', OwnD w' K u d' → Turns K w w' → OwnD w' F (.slice (some ⟨g, 0, none⟩) n cap) (.row c n (upd f j d')) := by
  cases h with
  | nil F a cap _ _ h => omega
  | row F g _ cap _ _ U G h1 h2 hg hF hc hs hG hGG =>
    refine ⟨U j, G j, (hc j hj).1, (hc j hj).2, hs j hj, hG j hj, fun w' d' hd ht => ?_⟩
    have hgK : ¬ G j g := fun e => (hG j hj g e).2 rfl
    refine .row F g n cap c _ U G h1 h2 (Nat.lt_of_lt_of_le hg ht.size) hF (fun i hi => by rw [ht.cell hg hgK, ht.frozen hg hgK]; exact hc i hi) (fun i hi => ?_) hG hGG
    by_cases e : i = j
    · subst e; rw [upd_same]; exact hd
    · rw [upd_ne _ _ e]; exact (hs i hi).turns ht (fun k hk hk' => hGG i j hi hj e k hk hk')
theorem OwnD.lt {F : Nat → Prop} {w : World} {g n cap c : Nat} {f : Nat → Dat} (h : OwnD w F (.slice (some ⟨g, 0, none⟩) n cap) (.row c n f)) (hn : 0 < n) : g < w.heap.size ∧ F g := by
  cases h with
  | nil F a cap _ _ h => omega
  | row F g _ cap _ _ U G h1 h2 hg hF hc hs hG hGG => exact ⟨hg, hF⟩
theorem cell_put {w : World} {g j : Nat} {u v : Value} (h : w.cell? ⟨g, j, none⟩ = some u) : (w.setCell ⟨g, j, none⟩ v).cell? ⟨g, j, none⟩ = some v := by
  have e1 : w.setCell ⟨g, j, none⟩ v = w.setCells g j [v] := rfl
  rw [e1]
  have h0 := World.cell?_setCells_in g [v] j w (fun i hi => by
    obtain rfl : i = 0 := by simpa using hi
    rw [Nat.add_zero, h]; rfl) 0 (by simp)
  simpa using h0
theorem cell_other {w : World} {g j i : Nat} {v : Value} (h : i ≠ j) : (w.setCell ⟨g, j, none⟩ v).cell? ⟨g, i, none⟩ = w.cell? ⟨g, i, none⟩ := by
  have e1 : w.setCell ⟨g, j, none⟩ v = w.setCells g j [v] := rfl
  rw [e1]
  exact World.cell?_setCells_out g _ j w ⟨g, i, none⟩ (fun _ _ => by simp; omega)
theorem frozen_put {w : World} {g j i : Nat} {v : Value} : (w.setCell ⟨g, j, none⟩ v).frozen? ⟨g, i, none⟩ = w.frozen? ⟨g, i, none⟩ := by
  have e1 : w.setCell ⟨g, j, none⟩ v = w.setCells g j [v] := rfl
  rw [e1, World.frozen?_setCells]
/- A cell is written: a datum of one's own is put there. -/
theorem OwnD.put {F K : Nat → Prop} {w : World} {g n cap c : Nat} {f : Nat → Dat} {u : Value} {d : Dat} (h : OwnD w F (.slice (some ⟨g, 0, none⟩) n cap) (.row c n f)) {j : Nat} (hj : j < n * c) (hu : OwnD w K u d) (hK : ∀ k, K k → ¬ F k) :
    OwnD (w.setCell ⟨g, j, none⟩ u) (fun k => F k ∨ K k) (.slice (some ⟨g, 0, none⟩) n cap) (.row c n (upd f j d)) := by
  cases h with
  | nil F a cap _ _ h => omega
  | row F g _ cap _ _ U G h1 h2 hg hF hc hs hG hGG =>
    have ht : Turns (fun b => b = g) w (w.setCell ⟨g, j, none⟩ u) := put1_turns w g j u
    refine .row _ g n cap c _ (fun i => if i = j then u else U i) (fun i => if i = j then K else G i) h1 h2 (Nat.lt_of_lt_of_le hg ht.size) (.inl hF) (fun i hi => ?_) (fun i hi => ?_) (fun i hi k hk => ?_) (fun i i' hi hi' hii k hk hk' => ?_)
    · refine ⟨?_, by rw [frozen_put]; exact (hc i hi).2⟩
      by_cases e : i = j
      · subst e; simp only [if_true]; exact cell_put (hc i hi).1
      · simp only [if_neg e]; rw [cell_other e]; exact (hc i hi).1
    · by_cases e : i = j
      · subst e; simp only [if_true, upd_same]; exact hu.turns ht (fun k hk e => hK k hk (e ▸ hF))
      · simp only [if_neg e]; rw [upd_ne _ _ e]; exact (hs i hi).turns ht (fun k hk => (hG i hi k hk).2)
    · by_cases e : i = j
      · subst e; simp only [if_true] at hk; exact ⟨.inr hk, fun e => hK k hk (e ▸ hF)⟩
      · simp only [if_neg e] at hk; exact ⟨.inl (hG i hi k hk).1, (hG i hi k hk).2⟩
    · by_cases e : i = j
      · subst e
        simp only [if_true] at hk
        rw [if_neg (Ne.symm hii)] at hk'
        exact hK k hk (hG i' hi' k hk').1
      · simp only [if_neg e] at hk
        by_cases e' : i' = j
        · subst e'
          simp only [if_true] at hk'
          exact hK k hk' (hG i hi k hk).1
        · simp only [if_neg e'] at hk'
          exact hGG i i' hi hi' hii k hk hk'
theorem OwnD.put_val {F : Nat → Prop} {w : World} {g n cap c : Nat} {f : Nat → Dat} (h : OwnD w F (.slice (some ⟨g, 0, none⟩) n cap) (.row c n f)) {j : Nat} (hj : j < n * c) (u : Value) :
    OwnD (w.setCell ⟨g, j, none⟩ u) F (.slice (some ⟨g, 0, none⟩) n cap) (.row c n (upd f j (.val u))) :=
  (h.put hj (OwnD.val (fun _ => False) u) (fun _ => False.elim)).mono (fun _ hk => hk.elim id False.elim)
/- Rows whose cells are plain. -/
def flat (c n : Nat) (cs : List Value) : Dat := .row c n (fun j => .val (cs.getD j (.int .i64 0)))
theorem getD_of {cs : List Value} {j : Nat} {u : Value} (h : cs[j]? = some u) : cs.getD j (.int .i64 0) = u := by simp [h]
theorem RowF.own {F : Nat → Prop} {w : World} {x : Value} {n c : Nat} {cs : List Value} (h : RowF F w x n c cs) : OwnD w F x (flat c n cs) := by
  obtain ⟨hl, a, cap, rfl, h1, h2, h⟩ := h
  rcases h with rfl | ⟨g, rfl, hF, hg, hc⟩
  · exact .nil F a cap c _ h2
  · refine .row F g n cap c _ (fun j => cs.getD j (.int .i64 0)) (fun _ _ => False) h1 h2 hg hF (fun j hj => ⟨?_, (hc j hj).2⟩) (fun j hj => .val _ _) (fun _ _ _ => False.elim) (fun _ _ _ _ _ _ => False.elim)
    rw [(hc j hj).1, List.getElem?_eq_getElem (by omega), getD_of (List.getElem?_eq_getElem (by omega))]
theorem OwnD.rowF {F : Nat → Prop} {w : World} {x : Value} {n c : Nat} {cs : List Value} (h : OwnD w F x (flat c n cs)) (hl : cs.length = n * c) : RowF F w x n c cs := by
  unfold flat at h
  cases h with
  | nil F a cap _ _ h => exact ⟨hl, a, cap, rfl, Nat.zero_le _, h, .inl rfl⟩
  | row F g _ cap _ _ U G h1 h2 hg hF hc hs hG hGG =>
    refine ⟨hl, _, cap, rfl, h1, h2, .inr ⟨g, rfl, hF, hg, fun j hj => ⟨?_, (hc j hj).2⟩⟩⟩
    have := (hs j hj).isD.val_eq
    rw [(hc j hj).1, this, List.getElem?_eq_getElem (by omega), getD_of (List.getElem?_eq_getElem (by omega))]
/- How many marks a datum takes, and the datum that bears the marks from z on. -/
def Dat.cnt : Dat → Nat
  | .val _ => 1
  | .row c n f => sumL (fun j => (f j).cnt) (n * c)
def mark1 (v : Value) (z : Int) : Value := match v with
  | .bool _ => .bool (decide (z % 3 = 0))
  | _ => .int .i64 z
def Dat.mark : Dat → Int → Dat
  | .val v, z => .val (mark1 v z)
  | .row c n f, z => .row c n (fun j => (f j).mark (z + (sumL (fun i => (f i).cnt) j : Int)))
theorem sumL_congr {L L' : Nat → Nat} : ∀ {n : Nat}, (∀ j, j < n → L j = L' j) → sumL L n = sumL L' n
  | 0, _ => rfl
  | n + 1, h => by simp only [sumL]; rw [sumL_congr (fun j hj => h j (by omega)), h n (by omega)]
theorem sumL_le {L L' : Nat → Nat} : ∀ {n : Nat}, (∀ j, j < n → L j ≤ L' j) → sumL L n ≤ sumL L' n
  | 0, _ => Nat.le_refl _
  | n + 1, h => by simp only [sumL]; have := sumL_le (n := n) (fun j hj => h j (by omega)); have := h n (by omega); omega
theorem sumL_one : ∀ n : Nat, sumL (fun _ => 1) n = n
  | 0 => rfl
  | n + 1 => by simp only [sumL]; rw [sumL_one n]
theorem Dat.cnt_mark : ∀ (d : Dat) (z : Int), (d.mark z).cnt = d.cnt
  | .val _, _ => rfl
  | .row c n f, z => by
    simp only [Dat.mark, Dat.cnt]
    exact sumL_congr (fun j _ => Dat.cnt_mark (f j) _)
theorem flat_cnt (c n : Nat) (cs : List Value) : (flat c n cs).cnt = n * c := by
  simp only [flat, Dat.cnt]
  exact sumL_one _
theorem flat_marked {F : Nat → Prop} {w : World} {x : Value} {c n : Nat} {cs : List Value} {z : Int} (h : OwnD w F x (flat c n (mkCells z (n * c)))) (hi : ∀ u ∈ cs, ∃ i, u = .int .i64 i) : OwnD w F x ((flat c n cs).mark z) := by
  refine OwnD.congr (f := fun j => .val ((mkCells z (n * c)).getD j (.int .i64 0))) h (fun j hj => ?_)
  rw [getD_of (mkCells_get hj)]
  simp only [Dat.mark, Dat.cnt, sumL_one]
  congr 1
  by_cases hj' : j < cs.length
  · obtain ⟨i, e⟩ := hi _ (List.getElem_mem hj')
    rw [getD_of (List.getElem?_eq_getElem hj'), e]; rfl
  · rw [show cs.getD j (.int .i64 0) = .int .i64 0 from by simp [List.getElem?_eq_none (Nat.le_of_not_lt hj')]]; rfl
theorem flat_unmarked {F : Nat → Prop} {w : World} {x : Value} {c n : Nat} {cs : List Value} {z : Int} (h : OwnD w F x ((flat c n cs).mark z)) (hi : ∀ u ∈ cs, ∃ i, u = .int .i64 i) : OwnD w F x (flat c n (mkCells z (n * c))) := by
  refine OwnD.congr (f := fun j => ((Dat.val (cs.getD j (.int .i64 0))).mark (z + (sumL (fun i => (Dat.val (cs.getD i (.int .i64 0))).cnt) j : Int)))) h (fun j hj => ?_)
  rw [getD_of (mkCells_get hj)]
  simp only [Dat.mark, Dat.cnt, sumL_one]
  congr 1
  by_cases hj' : j < cs.length
  · obtain ⟨i, e⟩ := hi _ (List.getElem_mem hj')
    rw [getD_of (List.getElem?_eq_getElem hj'), e]; rfl
  · rw [show cs.getD j (.int .i64 0) = .int .i64 0 from by simp [List.getElem?_eq_none (Nat.le_of_not_lt hj')]]; rfl
/- How much of it there is: rows by their lengths. -/
def Dat.wt : Dat → Nat
  | .val _ => 0
  | .row c n f => n + sumL (fun j => (f j).wt) (n * c)
def Dat.thin : Dat → Prop
  | .val _ => True
  | .row c _ f => c ≤ 40 ∧ ∀ j, (f j).thin
theorem sumL_bound {L L' : Nat → Nat} (K : Nat) : ∀ {n : Nat}, (∀ j, j < n → L j ≤ 1 + K * L' j) → sumL L n ≤ n + K * sumL L' n
  | 0, _ => by simp [sumL]
  | n + 1, h => by
    simp only [sumL]
    have h1 := sumL_bound K (n := n) (fun j hj => h j (by omega))
    have h2 := h n (by omega)
    rw [Nat.mul_add]
    omega
theorem Dat.cnt_le1 : ∀ d : Dat, d.thin → d.cnt ≤ 1 + 40 * d.wt ∧ (∀ c n f, d = .row c n f → d.cnt ≤ 40 * d.wt)
  | .val _, _ => ⟨by simp [Dat.cnt], fun _ _ _ e => by cases e⟩
  | .row c n f, h => by
    have h1 : sumL (fun j => (f j).cnt) (n * c) ≤ n * c + 40 * sumL (fun j => (f j).wt) (n * c) := sumL_bound 40 (fun j _ => (Dat.cnt_le1 (f j) (h.2 j)).1)
    have h2 : n * c ≤ n * 40 := Nat.mul_le_mul_left n h.1
    have h3 : (Dat.row c n f).cnt ≤ 40 * (Dat.row c n f).wt := by
      simp only [Dat.cnt, Dat.wt, Nat.mul_add]
      omega
    exact ⟨by omega, fun _ _ _ _ => h3⟩
theorem Dat.cnt_le {c n : Nat} {f : Nat → Dat} (h : (Dat.row c n f).thin) : (Dat.row c n f).cnt ≤ 40 * (Dat.row c n f).wt := (Dat.cnt_le1 _ h).2 c n f rfl
theorem flat_wt (c n : Nat) (cs : List Value) : (flat c n cs).wt = n := by
  simp only [flat, Dat.wt]
  have : ∀ k, sumL (fun _ => 0) k = 0 := fun k => by induction k with
    | zero => rfl
    | succ k ih => simp [sumL, ih]
  rw [this]; rfl
theorem flat_thin {c n : Nat} {cs : List Value} (h : c ≤ 40) : (flat c n cs).thin := ⟨h, fun _ => trivial⟩
/- Numbers, events, emits. -/
def intsD (l : List Int) : Dat := flat 1 l.length (intCells l)
def evsD (l : List Ev) : Dat := flat 7 l.length (cellsL l)
def emsD (l : List Em) : Dat := flat 3 l.length (cellsX l)
theorem IsI.isD {w : World} {x : Value} {l : List Int} (h : IsI w x l) : IsD w x (intsD l) := by
  obtain ⟨a, cap, rfl, h1, h2, h⟩ := h
  refine IsD.of_parts h1 h2 (h.imp (fun e => by rw [e]; rfl) ?_)
  rintro ⟨b, off, rfl, hb, hc⟩
  refine ⟨b, off, rfl, hb, fun j hj => ?_⟩
  have hj' : j < l.length := by omega
  refine ⟨_, hc j hj', ?_⟩
  rw [show (intCells l).getD j (.int .i64 0) = .int .i64 (intAt l j) from getD_of (by simp [intCells, intAt, hj'])]
  exact .val _
theorem IsD.isI {w : World} {x : Value} {l : List Int} (h : IsD w x (intsD l)) : IsI w x l := by
  obtain ⟨a, cap, rfl, h1, h2, h⟩ := IsD.parts (c := 1) (n := l.length) h
  refine ⟨a, cap, rfl, h1, h2, h.imp List.eq_nil_of_length_eq_zero ?_⟩
  rintro ⟨b, off, rfl, hb, hc⟩
  refine ⟨b, off, rfl, hb, fun j hj => ?_⟩
  obtain ⟨u, hu, hd⟩ := hc j (by omega)
  rw [hu, hd.val_eq, show (intCells l).getD j (.int .i64 0) = .int .i64 (intAt l j) from getD_of (by simp [intCells, intAt, hj])]
theorem IsEvs.isD {w : World} {x : Value} {l : List Ev} (h : IsEvs w x l) : IsD w x (evsD l) := by
  obtain ⟨a, cap, rfl, h1, h2, h⟩ := h
  refine IsD.of_parts h1 h2 (h.imp (fun e => by rw [e]; rfl) ?_)
  rintro ⟨b, off, rfl, hb, hc⟩
  refine ⟨b, off, rfl, hb, fun j hj => ?_⟩
  have hi : j / 7 < l.length := by omega
  have hr : j % 7 < 7 := by omega
  have hE := hc (j / 7) hi
  have hg := cellsL_get l (j / 7) (j % 7) hi hr
  rw [show j / 7 * 7 + j % 7 = j from by omega] at hg
  have hall : ∀ r, r < 7 → ∃ u, w.cell? ⟨b, off + j / 7 * 7 + r, none⟩ = some u ∧ (evAt l (j / 7)).cs[r]? = some u := fun r hr => by
    match r, hr with
    | 0, _ => exact ⟨_, hE.f0, rfl⟩
    | 1, _ => exact ⟨_, hE.f1, rfl⟩
    | 2, _ => exact ⟨_, hE.f2, rfl⟩
    | 3, _ => exact ⟨_, hE.f3, rfl⟩
    | 4, _ => exact ⟨_, hE.f4, rfl⟩
    | 5, _ => exact ⟨_, hE.f5, rfl⟩
    | 6, _ => exact ⟨_, hE.f6, rfl⟩
  obtain ⟨u, h3, h4⟩ := hall _ hr
  refine ⟨u, by rw [← h3]; congr 2; omega, ?_⟩
  rw [show (cellsL l).getD j (.int .i64 0) = u from getD_of (hg.trans h4)]
  exact .val _
theorem IsD.isEvs {w : World} {x : Value} {l : List Ev} (h : IsD w x (evsD l)) : IsEvs w x l := by
  obtain ⟨a, cap, rfl, h1, h2, h⟩ := IsD.parts (c := 7) (n := l.length) h
  refine ⟨a, cap, rfl, h1, h2, h.imp List.eq_nil_of_length_eq_zero ?_⟩
  rintro ⟨b, off, rfl, hb, hc⟩
  refine ⟨b, off, rfl, hb, fun i hi => ?_⟩
  have hget : ∀ r, r < 7 → w.cell? ⟨b, off + i * 7 + r, none⟩ = (evAt l i).cs[r]? := fun r hr => by
    obtain ⟨u, hu, hd⟩ := hc (i * 7 + r) (by omega)
    rw [Nat.add_assoc, hu, hd.val_eq]
    have hg := cellsL_get l i r hi hr
    have : r < (evAt l i).cs.length := by simpa [Ev.cs] using hr
    rw [List.getElem?_eq_getElem this] at hg ⊢
    rw [getD_of hg]
  exact ⟨hget 0 (by omega), hget 1 (by omega), hget 2 (by omega), hget 3 (by omega), hget 4 (by omega), hget 5 (by omega), hget 6 (by omega)⟩
theorem IsX.isD {w : World} {x : Value} {l : List Em} (h : IsX w x l) : IsD w x (emsD l) := by
  obtain ⟨a, cap, rfl, h1, h2, h⟩ := h
  refine IsD.of_parts h1 h2 (h.imp (fun e => by rw [e]; rfl) ?_)
  rintro ⟨b, off, rfl, hb, hc⟩
  refine ⟨b, off, rfl, hb, fun j hj => ?_⟩
  have hi : j / 3 < l.length := by omega
  have hr : j % 3 < 3 := by omega
  have hE := hc (j / 3) hi
  have hg := cellsX_get l (j / 3) (j % 3) hi hr
  rw [show j / 3 * 3 + j % 3 = j from by omega] at hg
  have hall : ∀ r, r < 3 → ∃ u, w.cell? ⟨b, off + j / 3 * 3 + r, none⟩ = some u ∧ (xAt l (j / 3)).cs[r]? = some u := fun r hr => by
    match r, hr with
    | 0, _ => exact ⟨_, hE.f0, rfl⟩
    | 1, _ => exact ⟨_, hE.f1, rfl⟩
    | 2, _ => exact ⟨_, hE.f2, rfl⟩
  obtain ⟨u, h3, h4⟩ := hall _ hr
  refine ⟨u, by rw [← h3]; congr 2; omega, ?_⟩
  rw [show (cellsX l).getD j (.int .i64 0) = u from getD_of (hg.trans h4)]
  exact .val _
theorem IsD.isX {w : World} {x : Value} {l : List Em} (h : IsD w x (emsD l)) : IsX w x l := by
  obtain ⟨a, cap, rfl, h1, h2, h⟩ := IsD.parts (c := 3) (n := l.length) h
  refine ⟨a, cap, rfl, h1, h2, h.imp List.eq_nil_of_length_eq_zero ?_⟩
  rintro ⟨b, off, rfl, hb, hc⟩
  refine ⟨b, off, rfl, hb, fun i hi => ?_⟩
  have hget : ∀ r, r < 3 → w.cell? ⟨b, off + i * 3 + r, none⟩ = (xAt l i).cs[r]? := fun r hr => by
    obtain ⟨u, hu, hd⟩ := hc (i * 3 + r) (by omega)
    rw [Nat.add_assoc, hu, hd.val_eq]
    have hg := cellsX_get l i r hi hr
    have : r < (xAt l i).cs.length := by simpa [Em.cs] using hr
    rw [List.getElem?_eq_getElem this] at hg ⊢
    rw [getD_of hg]
  exact ⟨hget 0 (by omega), hget 1 (by omega), hget 2 (by omega)⟩
end Go.Proofs.YtbcdfacbhemijaaDoor

/- States: what they hold, how they come in, are held against each other, marked, and found again. -/
namespace Go.Proofs.YtbcdfacbhemijaaDoor
open Go.RowKit
structure St where
  r : List Int
  q : Int
  d : Int
def IsS (w : World) (x : Value) (s : St) : Prop := ∃ vr, x = .agg #[vr, .int .i64 s.q, .int .i64 s.d] ∧ IsI w vr s.r
theorem IsS.below {w w' : World} {x : Value} {s : St} (h : IsS w x s) (hb : Below w.heap.size w w') : IsS w' x s := by
  obtain ⟨vr, rfl, h⟩ := h
  exact ⟨vr, rfl, h.below hb⟩
/- A state whose registers lie in a block of F. -/
def StF (F : Nat → Prop) (w : World) (x : Value) (s : St) : Prop := ∃ vr, x = .agg #[vr, .int .i64 s.q, .int .i64 s.d] ∧ RowF F w vr s.r.length 1 (intCells s.r)
theorem StF.isS {F : Nat → Prop} {w : World} {x : Value} {s : St} (h : StF F w x s) : IsS w x s := by
  obtain ⟨vr, rfl, h⟩ := h
  exact ⟨vr, rfl, h.isI⟩
theorem StF.turns {F S : Nat → Prop} {w w' : World} {x : Value} {s : St} (h : StF F w x s) (ht : Turns S w w') (hS : ∀ k, F k → ¬ S k) : StF F w' x s := by
  obtain ⟨vr, rfl, h⟩ := h
  exact ⟨vr, rfl, h.turns ht hS⟩
theorem StF.below {F : Nat → Prop} {w w' : World} {x : Value} {s : St} (h : StF F w x s) (hb : Below w.heap.size w w') : StF F w' x s :=
  h.turns (S := fun _ => False) (Turns.of_below hb) (fun _ _ => id)
theorem StF.mono {F F' : Nat → Prop} {w : World} {x : Value} {s : St} (h : StF F w x s) (hF : ∀ k, F k → F' k) : StF F' w x s := by
  obtain ⟨vr, rfl, h⟩ := h
  exact ⟨vr, rfl, h.mono hF⟩
theorem StF.form {F : Nat → Prop} {w : World} {x : Value} {s : St} (h : StF F w x s) : ∃ a c, x = .agg #[.slice a s.r.length c, .int .i64 s.q, .int .i64 s.d] := by
  obtain ⟨vr, rfl, _, a, c, rfl, _⟩ := h
  exact ⟨a, c, rfl⟩
/- The state whose registers hold the marks from z on. -/
def HeldS (F : Nat → Prop) (w : World) (x : Value) (s : St) (z : Int) : Prop := ∃ vr, x = .agg #[vr, .int .i64 s.q, .int .i64 s.d] ∧ RowF F w vr s.r.length 1 (mkCells z (s.r.length * 1))
theorem HeldS.turns {F S : Nat → Prop} {w w' : World} {x : Value} {s : St} {z : Int} (h : HeldS F w x s z) (ht : Turns S w w') (hS : ∀ k, F k → ¬ S k) : HeldS F w' x s z := by
  obtain ⟨vr, rfl, h⟩ := h
  exact ⟨vr, rfl, h.turns ht hS⟩
theorem HeldS.below {F : Nat → Prop} {w w' : World} {x : Value} {s : St} {z : Int} (h : HeldS F w x s z) (hb : Below w.heap.size w w') : HeldS F w' x s z :=
  h.turns (S := fun _ => False) (Turns.of_below hb) (fun _ _ => id)
abbrev put3 (w : World) (R : Nat) (v0 v1 v2 : Value) : World := ((w.setCell ⟨R, 0, none⟩ v0).setCell ⟨R, 1, none⟩ v1).setCell ⟨R, 2, none⟩ v2
theorem Bk.put3 {w : World} {R : Nat} {T : TypeId} {a0 a1 a2 : Value} (h : Bk w R T #[a0, a1, a2]) (v0 v1 v2 : Value) : Bk (put3 w R v0 v1 v2) R T #[v0, v1, v2] :=
  ((h.put 0 v0).put 1 v1).put 2 v2
theorem put3_turns (w : World) (R : Nat) (v0 v1 v2 : Value) : Turns (fun b => b = R) w (put3 w R v0 v1 v2) :=
  ((put1_turns w R 0 v0).trans (put1_turns _ R 1 v1)).trans (put1_turns _ R 2 v2)
end Go.Proofs.YtbcdfacbhemijaaDoor

