/- The specification's text of an event. -/
import Derived.Test.YtcnlkccmibnhmabDoorDigits
import Derived.Lib.SlBytesConst
import Derived.Lib.AppendStr
import Derived.Deep.Cut
import Derived.ArgAppend
namespace Go.Proofs.YtcnlkccmibnhmabDoor
open Go.RowKit
/- The digits of a number that is not negative. -/
def dec (z : Int) : List UInt8 := Lib.decDigits z.toNat
theorem dec_len (z : Int) (h : z ≤ 1000000) : (dec z).length ≤ 1000001 := by
  have := decDigits_len z.toNat
  unfold dec
  omega
theorem decDigits_ne (n : Nat) : Lib.decDigits n ≠ [] := by
  intro h
  by_cases hn : n < 10
  · rw [Lib.decDigits_one hn] at h; cases h
  · rw [decDigits_ge n hn] at h; simp at h
theorem byteCells_ones (l : List UInt8) : ∀ u ∈ Lib.byteCells l, u.oneCell' = true := by
  intro u hu
  obtain ⟨b, _, rfl⟩ := List.mem_map.1 hu
  rfl
theorem strCells_bytes (s : ByteArray) : Lib.strCells s = Lib.byteCells s.data.toList := rfl
theorem cell_grown {w w' : World} {row : Option Nat} (h : w.grownBy w' row) (p : Nat) (o : Nat) (hp : p < w.heap.size) (hr : row ≠ some p) : w'.cell? ⟨p, o, none⟩ = w.cell? ⟨p, o, none⟩ := by
  have := h.block p hp (fun e => hr e.symm)
  simp only [World.cell?, this]
theorem digits_int (z : Int) (h0 : 0 ≤ z) (h1 : z ≤ 1000000) (w : World) :
    Calls Tryd.prog 16 #[.int .i64 z] w fun e w' => ∃ x cap, e = .returned (.slice (some ⟨x, 0, none⟩) (dec z).length cap) ∧ (∀ j u, (Lib.byteCells (dec z))[j]? = some u → w'.cell? ((⟨x, 0, none⟩ : Addr).add j) = some u) ∧ Below w.heap.size w w' := by
  rw [show z = ((z.toNat : Nat) : Int) from by omega]
  refine (digits_any z.toNat w (by omega)).mono ?_
  rintro e w' ⟨v, rfl, hrow, hb⟩
  have hc := fun (x : Nat) (e : v.ownBlock = some x) => hrow.cells e
  obtain ⟨_, ⟨_, h0⟩ | ⟨x, cap, cur, rfl, _⟩⟩ := hrow
  · exact absurd (List.eq_nil_of_length_eq_zero h0) (decDigits_ne _)
  · exact ⟨x, cap, rfl, hc x rfl, hb⟩
theorem step_append_own {P : Program} {ops : Array Oper} {o : Oper} {a : Act} {w : World} {K : Act → World → Prop} {Q : Exit → Act → World → Prop} {E : Prop}
    (hg : o.guard = none) (s x : Operand) (t : TypeId) (hop : o.op = Op.call { callee := Callee.builtin Builtin.append, args := #[s, x], argTypes := #[t, t] })
    (base : Nat) (e : TypeId) (i : TypeInfo) (z : Value) (size bytes : Nat) (h1 : P.underlying t = some (.slice e)) (h2 : P.info? e = some i) (h3 : i.zero = some z) (h4 : i.size = size) (h5 : i.bytes = bytes) (h6 : z.cells.size = size) (h7 : 0 < size)
    (v : Value) (n : Nat) (xs : List Value) (hs : a.eval s = v) (hown : w.ownsRow base e size v n xs)
    (ad : Addr) (m c : Nat) (news : List Value) (hx : a.eval x = .slice (some ad) m c) (hn : news.length = m * size) (hc : ∀ j u, news[j]? = some u → w.cell? (ad.add j) = some u) (h1c : ∀ u ∈ news, u.oneCell' = true)
    (b1 : n + m ≤ maxLen) (b2 : (n + m) * bytes ≤ 140737488355328) (hbase : base ≤ w.heap.size)
    (hK : ∀ v' w', w'.ownsRow base e size v' (n + m) (xs ++ news) → w.grownBy w' v.ownBlock → K (a.put o.dst v') w') :
    if Region.wanted o (yielded ops a.tmps) = true then Oper.wp P o a w K Q else E := by
  have hw : Region.wanted o (yielded ops a.tmps) = true := by simp [Region.wanted, hg]
  rw [if_pos hw]
  exact wp_append_own w s x t hop base e i z size bytes h1 h2 h3 h4 h5 h6 h7 v n xs hs hown ad m c news hx hn hc h1c b1 b2 hbase (fun v' w' r1 r2 _ => hK v' w' r1 r2)
theorem step_append_text {P : Program} {ops : Array Oper} {o : Oper} {a : Act} {w : World} {K : Act → World → Prop} {Q : Exit → Act → World → Prop} {E : Prop}
    (hg : o.guard = none) (sl x : Operand) (t u : TypeId) (hop : o.op = Op.call { callee := Callee.builtin Builtin.append, args := #[sl, x], argTypes := #[t, u] })
    (base : Nat) (e : TypeId) (i : TypeInfo) (ht : P.underlying t = some (.slice e)) (hu : P.underlying u = some .string) (hi : P.info? e = some i) (hz : i.zero = some (.int .u8 0)) (hsize : i.size = 1) (hby : i.bytes = 1)
    (v : Value) (n : Nat) (xs : List Value) (hs : a.eval sl = v) (hown : w.ownsRow base e 1 v n xs) (s : ByteArray) (hx : a.eval x = .string s)
    (h63 : n + s.size ≤ maxLen) (hbytes : n + s.size ≤ 140737488355328) (hbase : base ≤ w.heap.size)
    (hK : ∀ v' w', w'.ownsRow base e 1 v' (n + s.size) (xs ++ Lib.strCells s) → w.grownBy w' v.ownBlock → K (a.put o.dst v') w') :
    if Region.wanted o (yielded ops a.tmps) = true then Oper.wp P o a w K Q else E := by
  have hw : Region.wanted o (yielded ops a.tmps) = true := by simp [Region.wanted, hg]
  rw [if_pos hw]
  obtain ⟨v', w', hr, h2, h3, _⟩ := Lib.run_append_own_string (P := P) w base t u o.type e i ht hu hi hz hsize hby v n xs hown s h63 hbytes hbase
  unfold Oper.wp execOp
  simp only [hop, resolve, invoke, builtin, Sem.run_bind, Sem.run_pure, Result.andThen_ok, List.map_toArray, List.map_cons, List.map_nil, hs, hx, hr]
  exact hK v' w' h2 h3
def fromText (s : Int) : List UInt8 := if s < 0 then [32, 111, 117, 116, 115, 105, 100, 101] else [32, 102, 114, 111, 109, 32] ++ dec s
def evText (t s q d k v : Int) : List UInt8 := [97, 116, 32] ++ dec t ++ fromText s ++ ([35] ++ dec q) ++ ([32, 116, 111, 32] ++ dec d) ++ ([32, 107, 105, 110, 100, 32] ++ dec k) ++ ([32, 118, 97, 108, 32] ++ dec v)
theorem conv24 (w : World) (C : Array Value) (n c : Nat) : (convert 24 24 (.slice (some ⟨w.heap.size, 0, none⟩) n c)).run Tryd.prog (w.alloc (.cells C 5)) = .ok (.slice (some ⟨w.heap.size, 0, none⟩) n c) (w.alloc (.cells C 5 (C.size, C.size + 1))) :=
  Lib.run_convert_bytes_const w 24 5 C n c Tryd.underlying24 Tryd.underlying5
/- What one piece of the text does: a row has grown by a literal and by digits. -/
theorem row_step {B : Nat} {w wa w1 w2 w3 : World} {x y z : Value} {X L M : List UInt8} {n m : Nat} {xs ys : List Value} (hr : wa.ownsRow B 5 1 x X.length (Lib.byteCells X)) (hwa : Below B w wa)
    (h1 : w1.ownsRow B 5 1 y n xs) (g1 : wa.grownBy w1 x.ownBlock) (hb : Below w1.heap.size w1 w2) (h3 : w3.ownsRow B 5 1 z m ys) (g3 : w2.grownBy w3 y.ownBlock)
    (hB : B ≤ w.heap.size) (hm : m = (X ++ (L ++ M)).length) (hys : ys = Lib.byteCells (X ++ (L ++ M))) : RowB B w3 z (X ++ (L ++ M)) ∧ Below B w w3 := by
  subst hm hys
  have e1 : B ≤ wa.heap.size := Nat.le_trans hB hwa.size
  have b1 : Below B w w1 := hwa.grown g1 e1 (fun k e => row_ge hr e)
  have e2 : B ≤ w1.heap.size := Nat.le_trans hB b1.size
  have b2 : Below B w w2 := b1.trans (hb.mono e2)
  exact ⟨h3, b2.grown g3 (Nat.le_trans hB b2.size) (fun k e => row_ge h1 e)⟩
theorem row_kept {B : Nat} {w w' : World} {v : Value} {n : Nat} {xs : List Value} (h : w.ownsRow B 5 1 v n xs) (hb : Below w.heap.size w w') : w'.ownsRow B 5 1 v n xs := by
  obtain ⟨h0, h1 | ⟨x, cap, cur, e, hx, hc, h2⟩⟩ := h
  · exact ⟨h0, .inl h1⟩
  · exact ⟨h0, .inr ⟨x, cap, cur, e, hx, (hb.block _ (Array.getElem?_eq_some_iff.1 hc).1).trans hc, h2⟩⟩
theorem at_new3 (w : World) (a b c : Value) (fz : Nat × Nat) : ∀ j u, [a, b, c][j]? = some u → (w.alloc (.cells #[a, b, c] 5 fz)).cell? ((⟨w.heap.size, 0, none⟩ : Addr).add j) = some u := by
  intro j u hu
  have h := (MapKept.heap_alloc w (.cells #[a, b, c] 5 fz)).1
  rw [Addr.add_lit, Nat.zero_add]
  simp only [World.cell?, h]
  match j, hu with
  | 0, hu => exact hu
  | 1, hu => exact hu
  | 2, hu => exact hu
  | (j + 3), hu => simp at hu
theorem at_below {w w' : World} {x : Nat} {xs : List Value} (h : ∀ j u, xs[j]? = some u → w.cell? ((⟨x, 0, none⟩ : Addr).add j) = some u) (hb : Below w.heap.size w w') (hx : x < w.heap.size) : ∀ j u, xs[j]? = some u → w'.cell? ((⟨x, 0, none⟩ : Addr).add j) = some u :=
  fun j u hu => (hb.cell (by rw [Addr.add_lit]; exact hx)).trans (h j u hu)
theorem at_new1 (w : World) (a : Value) : ∀ j u, [a][j]? = some u → (w.alloc (.cells #[a] 5)).cell? ((⟨w.heap.size, 0, none⟩ : Addr).add j) = some u := by
  intro j u hu
  match j, hu with
  | 0, hu => simp at hu; subst hu; simp [Addr.add]
  | (j + 1), hu => simp at hu
end Go.Proofs.YtcnlkccmibnhmabDoor
