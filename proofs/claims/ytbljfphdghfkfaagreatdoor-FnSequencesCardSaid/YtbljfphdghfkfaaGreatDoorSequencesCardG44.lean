/- DTextS, MTxP, MTxL, MTxR, HDg, TDat, HyD -/
import Derived.Test.YtbljfphdghfkfaaGreatDoorSequencesCardG43
import Derived.Lib.SlBytesConst
import Derived.Lib.AppendStr
import Derived.Deep.Cut
import Derived.ArgAppend
import Derived.Test.YtbljfphdghfkfaaGreatDoorSequencesCardLMOpI
import Derived.Test.YtbljfphdghfkfaaGreatDoorSequencesCardG10
import Derived.Deep.RegionHeld3
import Derived.Lib.Join
import Derived.Laws.IdiomStrings
import Derived.Test.YtbljfphdghfkfaaGreatDoorSequencesCardG33
import Derived.Test.YtbljfphdghfkfaaGreatDoorSequencesCardG36
import Derived.Test.YtbljfphdghfkfaaGreatDoorSequencesCardG31
import Derived.Test.YtbljfphdghfkfaaGreatDoorSequencesCardLESend
import Derived.Test.YtbljfphdghfkfaaGreatDoorSequencesCardG01
/- The specification's digits, and its text of an event. -/
namespace Go.Proofs.YtbljfphdghfkfaaGreatDoor
open Go.RowKit
theorem OwnB.of_row {B : Nat} {w : World} {x : Value} {l : List UInt8} (h : w.ownsRow B 5 1 x l.length (Lib.byteCells l)) : OwnB B w x l := by
 obtain ⟨hl, ⟨rfl, h0⟩ | ⟨g, cap, cur, rfl, hg, hc, h1, h2, h3, h4⟩⟩ := h
 ·exact ⟨none, 0, by rw [h0], by omega, by unfold maxLen; omega, .inl (List.eq_nil_of_length_eq_zero h0)⟩
 ·refine ⟨_, cap, rfl, h1, h2, .inr ⟨g, rfl, hg, fun j hj => ?_, (Array.getElem?_eq_some_iff.1 hc).1, fun i hi => ?_⟩⟩
  ·have hj2 : j < cur.size := by omega
   simp [World.frozen?, hc]
  ·have e1 : w.cell? ⟨g, i, none⟩ = (Lib.byteCells l)[i]? := by
    rw [← h4, List.getElem?_take_of_lt (by omega)]
    simp [World.cell?, hc]
   rw [Nat.zero_add, e1]
   simp [Lib.byteCells, byteAt, hi]
theorem info5 : (Tryz.prog.info? 5).map (fun i => (i.zero, i.size, i.bytes)) = some (some (.int .u8 0), 1, 1) := by kernel_rfl
abbrev RowB (B : Nat) (w : World) (v : Value) (l : List UInt8) : Prop := w.ownsRow B 5 1 v l.length (Lib.byteCells l)
theorem drow_ge {B : Nat} {w : World} {v : Value} {n : Nat} {xs : List Value} (h : w.ownsRow B 5 1 v n xs) {r : Nat} (e : v.ownBlock = some r) : B ≤ r := by
 obtain ⟨_, ⟨rfl, _⟩ | ⟨g, cap, cur, rfl, hg, _⟩⟩ := h
 ·cases e
 ·cases e; exact hg
end Go.Proofs.YtbljfphdghfkfaaGreatDoor

/- What the text of a model is; the word of an op. -/
namespace Go.Proofs.YtbljfphdghfkfaaGreatDoor
open Go.RowKit
def lineText (e : Ev) : List UInt8 := evText e.t e.s e.q e.d e.k e.v ++ [10]
def linesText (es : List Ev) : Nat → List UInt8
 | 0 => []
 | i + 1 => linesText es i ++ lineText (evAt es i)
end Go.Proofs.YtbljfphdghfkfaaGreatDoor

/- Rows of bytes that grow: what is written, what is left alone. -/
namespace Go.Proofs.YtbljfphdghfkfaaGreatDoor
open Go.RowKit
structure TxS (B : Nat) (w1 W : World) (x : Value) (Y : List UInt8) : Prop where
  r : RowB B W x Y
  b : Below B w1 W
  s : B ≤ w1.heap.size
structure Kp (n : Nat) (w w' : World) : Prop where
  o : ∀ ob t arr, (t ≠ 5 ∨ arr.size < n) → Bk w ob t arr → Bk w' ob t arr
structure SrW (w : World) (X : Nat) (L : List UInt8) : Prop where
  o : ∀ j u, (Lib.byteCells L)[j]? = some u → w.cell? ((⟨X, 0, none⟩ : Addr).add j) = some u
theorem TxS.row {B : Nat} {w1 w : World} {x : Value} {Y : List UInt8} (h : TxS B w1 w x Y) : w.ownsRow B 5 1 x Y.length (Lib.byteCells Y) := h.r
theorem TxS.below {B : Nat} {w1 w : World} {x : Value} {Y : List UInt8} (h : TxS B w1 w x Y) : Below B w1 w := h.b
theorem TxS.size {B : Nat} {w1 w : World} {x : Value} {Y : List UInt8} (h : TxS B w1 w x Y) : B ≤ w.heap.size := Nat.le_trans h.s h.b.size
theorem TxS.grow {B : Nat} {w1 w w' : World} {x y : Value} {Y Z : List UInt8} {n : Nat} {xs : List Value} (h : TxS B w1 w x Y) (hown : w'.ownsRow B 5 1 y n xs) (hg : w.grownBy w' x.ownBlock) (hn : n = Z.length) (hx : xs = Lib.byteCells Z) : TxS B w1 w' y Z := by
 subst hn hx
 exact ⟨hown, h.b.grown hg h.size (fun k e => drow_ge h.r e), h.s⟩
theorem TxS.kp {B : Nat} {w1 w w' : World} {x : Value} {Y : List UInt8} (h : TxS B w1 w x Y) (hg : w.grownBy w' x.ownBlock) : Kp Y.length w w' := by
 refine ⟨fun ob t arr hs hb => ?_⟩
 have hb' : w.heap[ob]? = some (.cells arr t) := hb
 refine (hg.block ob hb.lt (fun e => ?_)).trans hb'
 obtain ⟨_, ⟨rfl, _⟩ | ⟨g, cap, cur, rfl, _, hc, h1, _, h3, _⟩⟩ := h.r
 ·simp [Value.ownBlock] at e
 ·simp [Value.ownBlock] at e
  subst e
  rw [hb'] at hc
  simp at hc
  obtain ⟨rfl, h9⟩ := hc
  rcases hs with hs | hs
  ·first | exact hs h9 | exact hs h9.1
  ·omega
theorem Kp.bk {n : Nat} {w w' : World} {ob : Nat} {t : TypeId} {arr : Array Value} (h : Kp n w w') (hb : Bk w ob t arr) (hs : t ≠ 5 ∨ arr.size < n) : Bk w' ob t arr := h.o ob t arr hs hb
theorem txl_text {ops : Array Oper} {rest : List Oper} {o : Oper} {a : Act} {w : World} {Q : Exit → Act → World → Prop} {B : Nat} {w1 : World} (hg : o.guard = none) (sl x : Operand) (hop : o.op = Op.call { callee := Callee.builtin Builtin.append, args := #[sl, x], argTypes := #[22, 9] })
  (v : Value) (Y : List UInt8) (hs : a.eval sl = v) (h : TxS B w1 w v Y) (s : ByteArray) (hx : a.eval x = .string s) (hl : Y.length + s.size ≤ 1000000000000)
  (hK : ∀ v' w', TxS B w1 w' v' (Y ++ s.data.toList) → Kp Y.length w w' → wpList Tryz.prog ops Q rest (a.put o.dst v') w') : wpList Tryz.prog ops Q (o :: rest) a w := by
 obtain ⟨i0, hi, hz0, hz1, hz2⟩ := info_parts info5
 refine Lib.wpList_append_own_string _ hg sl x 22 9 hop B 5 i0 Tryz.underlying22 Tryz.underlying9 hi hz0 hz1 hz2 v Y.length (Lib.byteCells Y) hs h.row s hx (by unfold maxLen; omega) (by omega) h.size ?_
 intro v' w' hown hgrow _
 exact hK v' w' (h.grow hown hgrow (by rw [List.length_append]; rfl) (by rw [Lib.byteCells_append]; rfl)) (h.kp hgrow)
theorem ev_ne (t s q d k v : Int) : evText t s q d k v ≠ [] := by simp [evText]
theorem own_src {B : Nat} {w : World} {x : Value} {L : List UInt8} (h : OwnB B w x L) (hne : L ≠ []) : ∃ X c, x = .slice (some ⟨X, 0, none⟩) L.length c ∧ SrW w X L := by
 obtain ⟨a, cap, rfl, _, _, h⟩ := h
 obtain ⟨g, rfl, _, _, hb⟩ := h.resolve_left hne
 refine ⟨g, cap, rfl, ⟨fun j u hu => ?_⟩⟩
 rw [Addr.add_lit]
 have hj : j < L.length := by
  have := (List.getElem?_eq_some_iff.1 hu).1
  rw [Lib.byteCells_length] at this
  exact this
 have h9 := hb.2 j hj
 rw [h9]
 simp only [Lib.byteCells, List.getElem?_map, List.getElem?_eq_getElem hj, Option.map_some, Option.some.injEq] at hu
 rw [← hu]
 simp [byteAt, hj]
theorem src_at9 {w : World} {X : Nat} {L : List UInt8} (h : SrW w X L) : ∀ (j : Nat) u, (Lib.byteCells L)[j]? = some u → w.cell? ((⟨X, 0, none⟩ : Addr).add j) = some u := h.o
end Go.Proofs.YtbljfphdghfkfaaGreatDoor

/- Rows of strings; texts that are joined. -/
namespace Go.Proofs.YtbljfphdghfkfaaGreatDoor
open Go.RowKit
theorem info9 : (Tryz.prog.info? 9).map (fun i => (i.zero, i.size, i.bytes)) = some (some (.string ⟨#[]⟩), 1, 16) := by kernel_rfl
def strs (l : List ByteArray) : List Value := l.map Value.string
def txts (l : List ByteArray) : List (List UInt8) := l.map (·.data.toList)
def SrS (B : Nat) (w : World) (x : Value) (l : List ByteArray) : Prop := w.ownsRow B 9 1 x l.length (strs l)
theorem SrS.below {B : Nat} {w w' : World} {x : Value} {l : List ByteArray} (h : SrS B w x l) (hb : Below w.heap.size w w') : SrS B w' x l := by
 obtain ⟨h0, h1 | ⟨x, cap, cur, e, hx, hc, h2⟩⟩ := h
 ·exact ⟨h0, .inl h1⟩
 ·exact ⟨h0, .inr ⟨x, cap, cur, e, hx, (hb.block _ (Array.getElem?_eq_some_iff.1 hc).1).trans hc, h2⟩⟩
theorem SrS.alloc {B : Nat} {w : World} {x : Value} {l : List ByteArray} (h : SrS B w x l) (o : Obj) : SrS B (w.alloc o) x l := World.ownsRow.alloc h o
theorem SrS.ge {B : Nat} {w : World} {x : Value} {l : List ByteArray} (h : SrS B w x l) {r : Nat} (e : x.ownBlock = some r) : B ≤ r := by
 obtain ⟨_, ⟨rfl, _⟩ | ⟨g, cap, cur, rfl, hg, _⟩⟩ := h
 ·cases e
 ·cases e; exact hg
theorem SrS.made (w : World) (l : List ByteArray) (arr : Array Value) (ha : arr.toList = strs l) (n : Nat) (hn : n = l.length) (hl : l.length ≤ 100000) : SrS w.heap.size (w.alloc (.cells arr 9)) (.slice (some ⟨w.heap.size, 0, none⟩) n n) l := by
 subst hn
 have hs : arr.size = l.length := by
  have := congrArg List.length ha
  simpa [strs] using this
 refine ⟨by simp [strs], .inr ⟨w.heap.size, l.length, arr, rfl, Nat.le_refl _, heap_alloc_new w _, Nat.le_refl _, by unfold maxLen; omega, by omega, ?_⟩⟩
 rw [ha]
 exact List.take_of_length_le (by simp [strs])
theorem SrS.cells {B : Nat} {w : World} {x : Value} {l : List ByteArray} (h : SrS B w x l) (hne : l ≠ []) : ∃ g cap, x = .slice (some ⟨g, 0, none⟩) l.length cap ∧ g < w.heap.size ∧ l.length ≤ cap ∧ ∀ (j : Nat) y, l[j]? = some y → w.cell? ⟨g, 0 + j, none⟩ = some (.string y) := by
 obtain ⟨h0, ⟨_, h1⟩ | ⟨g, cap, cur, rfl, _, hc, h2, _, h4, h5⟩⟩ := h
 ·exact absurd (List.length_eq_zero_iff.1 h1) hne
 ·refine ⟨g, cap, rfl, (Array.getElem?_eq_some_iff.1 hc).1, h2, fun j y hy => ?_⟩
  have hj : j < l.length := (List.getElem?_eq_some_iff.1 hy).1
  rw [Nat.zero_add]
  simp only [World.cell?, hc]
  have e1 : (cur.toList.take (l.length * 1))[j]? = some (.string y) := by
   rw [h5]
   simp [strs, hy]
  rw [List.getElem?_take] at e1
  have e2 : j < l.length ∧ cur[j]? = some (.string y) := by simpa using e1
  exact e2.2
def Srt (w : World) (X : Nat) (r : List ByteArray) : Prop := ∀ j u, (strs r)[j]? = some u → w.cell? ((⟨X, 0, none⟩ : Addr).add j) = some u
theorem Srt.new (w : World) (r : List ByteArray) (arr : Array Value) (ha : arr.toList = strs r) : Srt (w.alloc (.cells arr 9)) w.heap.size r := by
 intro j u hu
 have h0 := (MapKept.heap_alloc w (.cells arr 9)).1
 rw [Addr.add_lit, Nat.zero_add]
 simp only [World.cell?, h0]
 rw [← ha] at hu
 simpa using hu
def Kp9 (w w' : World) : Prop := ∀ ob t arr, t ≠ 9 → Bk w ob t arr → Bk w' ob t arr
theorem SrS.kp {B : Nat} {w w' : World} {x : Value} {l : List ByteArray} (h : SrS B w x l) (hg : w.grownBy w' x.ownBlock) : Kp9 w w' := by
 intro ob t arr hs hb
 have hb' : w.heap[ob]? = some (.cells arr t) := hb
 refine (hg.block ob hb.lt (fun e => ?_)).trans hb'
 obtain ⟨_, ⟨rfl, _⟩ | ⟨g, cap, cur, rfl, _, hc, h1, _, h3, _⟩⟩ := h
 ·simp [Value.ownBlock] at e
 ·simp [Value.ownBlock] at e
  subst e
  rw [hb'] at hc
  simp at hc
  first | exact hs hc.2 | exact hs hc.2.1
theorem strs_ones (l : List ByteArray) : ∀ u ∈ strs l, u.oneCell' = true := by
 intro u hu
 obtain ⟨b, _, rfl⟩ := List.mem_map.1 hu
 rfl
theorem srl_own {ops : Array Oper} {rest : List Oper} {o : Oper} {a : Act} {w : World} {Q : Exit → Act → World → Prop} {B : Nat} (hg : o.guard = none) (sl x : Operand) (hop : o.op = Op.call { callee := Callee.builtin Builtin.append, args := #[sl, x], argTypes := #[68, 68] })
  (v : Value) (l : List ByteArray) (hs : a.eval sl = v) (h : SrS B w v l) (r : List ByteArray) (X c : Nat) (hx : a.eval x = .slice (some ⟨X, 0, none⟩) r.length c) (hc : Srt w X r) (hl : l.length + r.length ≤ 100000) (hB : B ≤ w.heap.size)
  (hK : ∀ v' w', SrS B w' v' (l ++ r) → Below B w w' → Kp9 w w' → wpList Tryz.prog ops Q rest (a.put o.dst v') w') : wpList Tryz.prog ops Q (o :: rest) a w := by
 obtain ⟨i0, hi, hz0, hz1, hz2⟩ := info_parts info9
 refine wpList_append_own _ hg sl x 68 hop B 9 i0 (.string ⟨#[]⟩) 1 16 Tryz.underlying68 hi hz0 hz1 hz2 rfl (by decide) v l.length (strs l) hs h ⟨X, 0, none⟩ r.length c (strs r) hx (by simp [strs]) hc (strs_ones _) (by unfold maxLen; omega) (by omega) hB ?_
 intro v' w' hown hgrow _
 exact hK v' w' (by unfold SrS; rw [List.length_append, strs, List.map_append]; exact hown) ((Below.refl B w).grown hgrow hB (fun k e => h.ge e)) (h.kp hgrow)
theorem join_any {B : Nat} (w : World) (x : Value) (l : List ByteArray) (sep : ByteArray) (h : SrS B w x l) (hne : l ≠ []) (hl : l.length ≤ 100000) (Y : List UInt8) (hY : Lib.join (txts l) sep.data.toList = Y) (hb : Y.length ≤ 1000000000) :
  Calls Tryz.prog 38 #[x, .string sep] w fun e w' => ∃ b : ByteArray, e = .returned (.string b) ∧ b.data.toList = Y ∧ Below w.heap.size w w' := by
 obtain ⟨g, cap, rfl, hg, hc, hcells⟩ := h.cells hne
 subst hY
 refine (Tryz.strings_Join g 0 cap l sep w hcells hg (by omega) hc (by have h9 : (Lib.join (txts l) sep.data.toList).length ≤ 1000000000 := hb; have e9 : txts l = l.map (·.data.toList) := rfl; rw [e9] at h9; omega)).mono ?_
 rintro e w' ⟨rfl, hb'⟩
 exact ⟨_, rfl, rfl, hb'⟩
def endL (L : List (List UInt8)) : List UInt8 := (L.map (· ++ [10])).flatten
theorem endL_append (a b : List (List UInt8)) : endL (a ++ b) = endL a ++ endL b := by simp [endL]
theorem txts_append (a b : List ByteArray) : txts (a ++ b) = txts a ++ txts b := by simp [txts]
theorem conv_back {B : Nat} {w : World} {x : Value} {l : List UInt8} (h : OwnB B w x l) (hne : l ≠ []) : (convert 22 9 x).run Tryz.prog w = .ok (.string ⟨l.toArray⟩) w := by
 obtain ⟨X, c, rfl, hs⟩ := own_src h hne
 have hs' := hs
 refine run_convert_bytes_back w 22 9 5 ⟨X, 0, none⟩ c l Tryz.underlying22 Tryz.underlying5 Tryz.underlying9 (fun j hj => ?_)
 refine src_at9 hs' j _ ?_
 simp [Lib.byteCells, List.getElem?_eq_getElem hj]
end Go.Proofs.YtbljfphdghfkfaaGreatDoor

/- Digits of any number that is not below 0. -/
namespace Go.Proofs.YtbljfphdghfkfaaGreatDoor
open Go.RowKit
theorem decK : ∀ (k n : Nat), n < 10 ^ (k + 1) → (Lib.decDigits n).length ≤ k + 1
 | 0, n, h => by rw [Lib.decDigits_one (by simpa using h)]; simp
 | k + 1, n, h => by
  by_cases hn : n < 10
  ·rw [Lib.decDigits_one hn]; simp
  ·rw [decDigits_ge n hn]
   have h1 := decK k (n / 10) (by rw [Nat.pow_succ] at h; omega)
   simp
   omega
theorem dec20 (n : Nat) (h : n ≤ 9223372036854775807) : (Lib.decDigits n).length ≤ 20 := decK 19 n (Nat.lt_of_le_of_lt h (by decide))
theorem dec_len20 (z : Int) (h : z ≤ 9223372036854775807) : (dec z).length ≤ 20 := dec20 z.toNat (by omega)
theorem itoa_any9 (z : Int) (h0 : 0 ≤ z) (h1 : z ≤ 9223372036854775807) (w : World) (htab : Lib.TabIs Tryz.prog w "internal/strconv.uint64pow10" .u64 Lib.pow10Tab) :
  Calls Tryz.prog 61 #[.int .i64 z] w fun e w' => ∃ b : ByteArray, e = .returned (.string b) ∧ b.data.toList = dec z ∧ Below w.heap.size w w' := by
 refine (Tryz.strconv_Itoa z (by omega) (by omega) w htab).mono ?_
 rintro e w' ⟨rfl, n, os, rfl⟩
 refine ⟨_, rfl, ?_, Lib.below_grow _ w (Nat.le_refl _) n os⟩
 show (Lib.itoa z).toArray.toList = Lib.decDigits z.toNat
 have e1 := Lib.itoa_nonneg z.toNat
 rw [show ((z.toNat : Nat) : Int) = z from by omega] at e1
 rw [e1]
theorem TxS.nil {B : Nat} {w1 w : World} (hb : Below B w1 w) (h : B ≤ w1.heap.size) : TxS B w1 w (.slice none 0 0) [] := TxS.mk (World.ownsRow_nil w B 5 1) hb h
end Go.Proofs.YtbljfphdghfkfaaGreatDoor

/- Data in memory, whatever their shape: numbers and flags, and rows of cells, which hold data again. How they are read; how they are owned: no two rows in one block. -/
namespace Go.Proofs.YtbljfphdghfkfaaGreatDoor
open Go.RowKit
inductive Dat where
 | val (v : Value)
 | row (c n : Nat) (f : Nat → Dat)
inductive IsD (w : World) : Value → Dat → Prop
 | val (v : Value) : IsD w v (.val v)
 | nil (a : Option Addr) (cap c : Nat) (f : Nat → Dat) (h : cap ≤ maxLen) : IsD w (.slice a 0 cap) (.row c 0 f)
 | row (b off n cap c : Nat) (f : Nat → Dat) (U : Nat → Value) (h1 : n ≤ cap) (h2 : cap ≤ maxLen) (hb : b < w.heap.size) (hc : ∀ j, j < n * c → w.cell? ⟨b, off + j, none⟩ = some (U j)) (hs : ∀ j, j < n * c → IsD w (U j) (f j)) : IsD w (.slice (some ⟨b, off, none⟩) n cap) (.row c n f)
theorem IsD.under {w w' : World} {x : Value} {d : Dat} (h : IsD w x d) (hb : Below w.heap.size w w') : IsD w' x d := by
 induction h with
 | val v => exact .val v
 | nil a cap c f h => exact .nil a cap c f h
 | row b off n cap c f U h1 h2 hB hc hs ih => exact .row b off n cap c f U h1 h2 (Nat.lt_of_lt_of_le hB hb.size) (fun j hj => (hb.cell (p := ⟨b, off + j, none⟩) hB).trans (hc j hj)) ih
theorem IsD.parts {w : World} {x : Value} {c n : Nat} {f : Nat → Dat} (h : IsD w x (.row c n f)) : ∃ a cap, x = .slice a n cap ∧ n ≤ cap ∧ cap ≤ maxLen ∧
  (n = 0 ∨ ∃ b off, a = some ⟨b, off, none⟩ ∧ b < w.heap.size ∧ ∀ j, j < n * c → ∃ u, w.cell? ⟨b, off + j, none⟩ = some u ∧ IsD w u (f j)) := by
 cases h with
 | nil a cap _ _ h => exact ⟨a, cap, rfl, Nat.zero_le _, h, .inl rfl⟩
 | row b off _ cap _ _ U h1 h2 hB hc hs => exact ⟨_, cap, rfl, h1, h2, .inr ⟨b, off, rfl, hB, fun j hj => ⟨U j, hc j hj, hs j hj⟩⟩⟩
theorem IsD.of_parts {w : World} {a : Option Addr} {cap c n : Nat} {f : Nat → Dat} (h1 : n ≤ cap) (h2 : cap ≤ maxLen) (h : n = 0 ∨ ∃ b off, a = some ⟨b, off, none⟩ ∧ b < w.heap.size ∧ ∀ j, j < n * c → ∃ u, w.cell? ⟨b, off + j, none⟩ = some u ∧ IsD w u (f j)) : IsD w (.slice a n cap) (.row c n f) := by
 rcases h with rfl | ⟨b, off, rfl, hB, h⟩
 ·exact .nil a cap c f h2
 ·refine .row b off n cap c f (fun j => (w.cell? ⟨b, off + j, none⟩).getD (.int .i64 0)) h1 h2 hB (fun j hj => ?_) (fun j hj => ?_)
  ·obtain ⟨u, hu, _⟩ := h j hj
   rw [hu]; rfl
  ·obtain ⟨u, hu, hd⟩ := h j hj
   rw [hu]; exact hd
theorem IsD.val_eq {w : World} {x v : Value} (h : IsD w x (.val v)) : x = v := by cases h; rfl
def flat (c n : Nat) (cs : List Value) : Dat := .row c n (fun j => .val (cs.getD j (.int .i64 0)))
theorem getD_of {cs : List Value} {j : Nat} {u : Value} (h : cs[j]? = some u) : cs.getD j (.int .i64 0) = u := by simp [h]
def evsD (l : List Ev) : Dat := flat 7 l.length (cellsL l)
def emsD (l : List Em) : Dat := flat 3 l.length (cellsX l)
theorem IsEvs.isD {w : World} {x : Value} {l : List Ev} (h : IsEvs w x l) : IsD w x (evsD l) := by
 obtain ⟨a, cap, rfl, h1, h2, h⟩ := h
 refine IsD.of_parts h1 h2 (h.imp (fun e => by rw [e]; rfl) ?_)
 rintro ⟨b, off, rfl, hb, hc⟩
 refine ⟨b, off, rfl, hb, fun j hj => ?_⟩
 have hi : j / 7 < l.length := by omega
 have hr : j % 7 < 7 := by omega
 have hE := hc (j / 7) hi
 have hg := cellsL_get l (j / 7) (j % 7) hi hr
 rw [show j / 7 * 7 + j % 7 = j from by omega] at hg
 have hall : ∀ r, r < 7 → ∃ u, w.cell? ⟨b, off + j / 7 * 7 + r, none⟩ = some u ∧ (evAt l (j / 7)).cs[r]? = some u := fun r hr => by
  match r, hr with
  | 0, _ => exact ⟨_, hE.f0, rfl⟩
  | 1, _ => exact ⟨_, hE.f1, rfl⟩
  | 2, _ => exact ⟨_, hE.f2, rfl⟩
  | 3, _ => exact ⟨_, hE.f3, rfl⟩
  | 4, _ => exact ⟨_, hE.f4, rfl⟩
  | 5, _ => exact ⟨_, hE.f5, rfl⟩
  | 6, _ => exact ⟨_, hE.f6, rfl⟩
 obtain ⟨u, h3, h4⟩ := hall _ hr
 refine ⟨u, by rw [← h3]; congr 2; omega, ?_⟩
 rw [show (cellsL l).getD j (.int .i64 0) = u from getD_of (hg.trans h4)]
 exact .val _
theorem IsD.isEvs {w : World} {x : Value} {l : List Ev} (h : IsD w x (evsD l)) : IsEvs w x l := by
 obtain ⟨a, cap, rfl, h1, h2, h⟩ := IsD.parts (c := 7) (n := l.length) h
 refine ⟨a, cap, rfl, h1, h2, h.imp List.eq_nil_of_length_eq_zero ?_⟩
 rintro ⟨b, off, rfl, hb, hc⟩
 refine ⟨b, off, rfl, hb, fun i hi => ?_⟩
 have hget : ∀ r, r < 7 → w.cell? ⟨b, off + i * 7 + r, none⟩ = (evAt l i).cs[r]? := fun r hr => by
  obtain ⟨u, hu, hd⟩ := hc (i * 7 + r) (by omega)
  rw [Nat.add_assoc, hu, hd.val_eq]
  have hg := cellsL_get l i r hi hr
  have : r < (evAt l i).cs.length := by simpa [Ev.cs] using hr
  rw [List.getElem?_eq_getElem this] at hg ⊢
  rw [getD_of hg]
 exact ⟨hget 0 (by omega), hget 1 (by omega), hget 2 (by omega), hget 3 (by omega), hget 4 (by omega), hget 5 (by omega), hget 6 (by omega)⟩
theorem IsX.isD {w : World} {x : Value} {l : List Em} (h : IsX w x l) : IsD w x (emsD l) := by
 obtain ⟨a, cap, rfl, h1, h2, h⟩ := h
 refine IsD.of_parts h1 h2 (h.imp (fun e => by rw [e]; rfl) ?_)
 rintro ⟨b, off, rfl, hb, hc⟩
 refine ⟨b, off, rfl, hb, fun j hj => ?_⟩
 have hi : j / 3 < l.length := by omega
 have hr : j % 3 < 3 := by omega
 have hE := hc (j / 3) hi
 have hg := cellsX_get l (j / 3) (j % 3) hi hr
 rw [show j / 3 * 3 + j % 3 = j from by omega] at hg
 have hall : ∀ r, r < 3 → ∃ u, w.cell? ⟨b, off + j / 3 * 3 + r, none⟩ = some u ∧ (xAt l (j / 3)).cs[r]? = some u := fun r hr => by
  match r, hr with
  | 0, _ => exact ⟨_, hE.f0, rfl⟩
  | 1, _ => exact ⟨_, hE.f1, rfl⟩
  | 2, _ => exact ⟨_, hE.f2, rfl⟩
 obtain ⟨u, h3, h4⟩ := hall _ hr
 refine ⟨u, by rw [← h3]; congr 2; omega, ?_⟩
 rw [show (cellsX l).getD j (.int .i64 0) = u from getD_of (hg.trans h4)]
 exact .val _
theorem IsD.isX {w : World} {x : Value} {l : List Em} (h : IsD w x (emsD l)) : IsX w x l := by
 obtain ⟨a, cap, rfl, h1, h2, h⟩ := IsD.parts (c := 3) (n := l.length) h
 refine ⟨a, cap, rfl, h1, h2, h.imp List.eq_nil_of_length_eq_zero ?_⟩
 rintro ⟨b, off, rfl, hb, hc⟩
 refine ⟨b, off, rfl, hb, fun i hi => ?_⟩
 have hget : ∀ r, r < 3 → w.cell? ⟨b, off + i * 3 + r, none⟩ = (xAt l i).cs[r]? := fun r hr => by
  obtain ⟨u, hu, hd⟩ := hc (i * 3 + r) (by omega)
  rw [Nat.add_assoc, hu, hd.val_eq]
  have hg := cellsX_get l i r hi hr
  have : r < (xAt l i).cs.length := by simpa [Em.cs] using hr
  rw [List.getElem?_eq_getElem this] at hg ⊢
  rw [getD_of hg]
 exact ⟨hget 0 (by omega), hget 1 (by omega), hget 2 (by omega)⟩
end Go.Proofs.YtbljfphdghfkfaaGreatDoor

/- A history, as plain values and as data. -/
namespace Go.Proofs.YtbljfphdghfkfaaGreatDoor
open Go.RowKit
structure Hy where
 e : List Ev
 x : List Em
 a : Int
 f : Bool
def IsHistory (w : World) (x : Value) (p : Hy) : Prop := ∃ u0 u1, x = .agg #[u0, u1, .int .i64 p.a, .bool p.f] ∧ IsD w u0 (evsD p.e) ∧ IsD w u1 (emsD p.x)
theorem IsHistory.under {w w' : World} {x : Value} {p : Hy} (h : IsHistory w x p) (hb : Below w.heap.size w w') : IsHistory w' x p := by
 obtain ⟨u0, u1, rfl, h0, h1⟩ := h
 exact ⟨u0, u1, rfl, h0.under hb, h1.under hb⟩
end Go.Proofs.YtbljfphdghfkfaaGreatDoor

