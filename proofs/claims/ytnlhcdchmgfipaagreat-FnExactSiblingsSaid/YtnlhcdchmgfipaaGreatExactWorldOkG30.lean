/- PLib, NBytes, VToB, MBy, MByI, MAskI, MByP, VOf, VQuiet -/
import Derived.Test.YtnlhcdchmgfipaaGreatExactWorldOkG01
import Derived.Test.YtnlhcdchmgfipaaGreatExactWorldOkG03
import Derived.Test.YtnlhcdchmgfipaaGreatExactWorldOkG19
import Derived.Test.YtnlhcdchmgfipaaGreatExactWorldOkG09
import Derived.Laws.OwnMore
import Derived.WalkSmall
import Derived.Test.YtnlhcdchmgfipaaGreatExactWorldOkLSOk
import Derived.Test.YtnlhcdchmgfipaaGreatExactWorldOkG04
import Derived.Test.YtnlhcdchmgfipaaGreatExactWorldOkG29
import Derived.Test.YtnlhcdchmgfipaaGreatExactWorldOkG05
import Derived.Deep.Cut
import Derived.Deep.CutBlock
import Derived.Deep.RegionHeld3
import Derived.ArgAppend
import Derived.Lib.UnsafeStr
import Derived.OwnWalk
import Derived.Test.YtnlhcdchmgfipaaGreatExactWorldOkLMOpI
import Derived.Test.YtnlhcdchmgfipaaGreatExactWorldOkLVOk
import Derived.Deep.QuietTactic
import Derived.BigQuiet
/- General lemmas: what is owned, what is put, appends. -/
namespace Go.Proofs.YtnlhcdchmgfipaaGreat
open Go.RowKit
def NewRow (w : World) (v v' : Value) : Prop := v'.ownBlock = v.ownBlock ∨ ∀ k, v'.ownBlock = some k → w.heap.size ≤ k
theorem run_append_own2 {P : Program} (w : World) (base : Nat) (t ty e : TypeId) (i : TypeInfo) (z : Value) (size bytes : Nat) (ht : P.underlying t = some (.slice e)) (hi : P.info? e = some i) (hz : i.zero = some z) (hsize : i.size = size) (hby : i.bytes = bytes) (hzs : z.cells.size = size) (hsz : 0 < size)
  (v : Value) (n : Nat) (xs : List Value) (hown : w.ownsRow base e size v n xs) (ad : Addr) (m c : Nat) (news : List Value) (hl : news.length = m * size) (hnews : ∀ j u, news[j]? = some u → w.cell? (ad.add j) = some u) (h1 : ∀ u ∈ news, u.oneCell' = true)
  (h63 : n + m ≤ maxLen) (hbytes : (n + m) * bytes ≤ 140737488355328) (hbase : base ≤ w.heap.size) :
  ∃ v' w', (Builtin.append_ #[t, t] ty #[v, .slice (some ad) m c]).run P w = .ok v' w' ∧ w'.ownsRow base e size v' (n + m) (xs ++ news) ∧ w.grownBy w' v.ownBlock ∧ NewRow w v v' := by
 obtain ⟨v', w', hr, h2, h3, _⟩ := run_append_own (P := P) w base t ty e i z size bytes ht hi hz hsize hby hzs hsz v n xs hown ad m c news hl hnews h1 h63 hbytes hbase
 refine ⟨v', w', hr, h2, h3, ?_⟩
 have hown' := hown
 obtain ⟨_, ⟨rfl, h0⟩ | ⟨g, cap, cur, rfl, hg, hc, hnc, hcm, hcs, htk⟩⟩ := hown
 ·right
  obtain ⟨v2, w2, hr2, r1, _⟩ := run_append_own (P := P) w w.heap.size t ty e i z size bytes ht hi hz hsize hby hzs hsz (.slice none 0 0) n xs ⟨hown'.1, .inl ⟨rfl, h0⟩⟩ ad m c news hl hnews h1 h63 hbytes (Nat.le_refl _)
  rw [hr] at hr2
  cases hr2
  exact fun k e => (World.ownsRow.lt r1 k e).1
 ·by_cases hroom : n + m ≤ cap
  ·left
   obtain ⟨w2, hr2, _⟩ := run_append_fits (P := P) w base t ty e i size ht hi hsize g n cap xs hown' ad m c news hl hnews h1 hroom
   rw [hr] at hr2
   cases hr2
   rfl
  ·right
   obtain ⟨v2, w2, hr2, r1, _⟩ := run_append_arg_grows (P := P) w t ty e i z size bytes ht hi hz hsize hby hzs hsz ⟨g, 0, none⟩ n cap xs hown'.1 (World.ownsRow.cells hown' rfl) ad m c news hl hnews (by omega) h63 hbytes
   rw [hr] at hr2
   cases hr2
   exact fun k e => (World.ownsRow.lt r1 k e).1
theorem owns_same {w w' : World} {B : Nat} {v : Value} {T : TypeId} {c n : Nat} {cs : List Value} (h : w.ownsRow B T c v n cs) (hb : ∀ k, v.ownBlock = some k → w'.heap[k]? = w.heap[k]?) : w'.ownsRow B T c v n cs := by
 obtain ⟨h0, ⟨e, h1⟩ | ⟨g, cap, cur, rfl, hg, hc, h1⟩⟩ := h
 ·exact ⟨h0, .inl ⟨e, h1⟩⟩
 ·exact ⟨h0, .inr ⟨g, cap, cur, rfl, hg, (hb g rfl).trans hc, h1⟩⟩
theorem owns_turns {S : Nat → Prop} {w w' : World} {B : Nat} {v : Value} {T : TypeId} {c n : Nat} {cs : List Value} (h : w.ownsRow B T c v n cs) (ht : Turns S w w') (hS : ∀ k, v.ownBlock = some k → ¬ S k) : w'.ownsRow B T c v n cs :=
 owns_same h fun k hk => ht.block k (World.ownsRow.lt h k hk).2 (hS k hk)
theorem grown_turns {w w' : World} {row : Option Nat} (h : w.grownBy w' row) : Turns (fun k => row = some k) w w' := ⟨h.os, h.tape, h.output, h.size, fun k hk hS => h.block k hk (fun e => hS e.symm)⟩
theorem owns_slice {B : Nat} {e : TypeId} {size n : Nat} {w : World} {v : Value} {xs : List Value} (h : w.ownsRow B e size v n xs) : ∃ a cap, v = .slice a n cap := by
 obtain ⟨_, ⟨rfl, h0⟩ | ⟨g, cap, cur, rfl, _⟩⟩ := h
 ·exact ⟨none, 0, by rw [h0]⟩
 ·exact ⟨_, _, rfl⟩
theorem wpList_append_own2 {P : Program} {ops : Array Oper} {rest : List Oper} {o : Oper} {a : Act} {Q : Exit → Act → World → Prop} (w : World) (hgd : o.guard = none) (s x : Operand) (t : TypeId)
  (ho : o.op = .call { callee := .builtin .append, args := #[s, x], argTypes := #[t, t] })
  (base : Nat) (e : TypeId) (i : TypeInfo) (z : Value) (size bytes : Nat) (ht : P.underlying t = some (.slice e)) (hi : P.info? e = some i) (hz : i.zero = some z)
  (hsize : i.size = size) (hby : i.bytes = bytes) (hzs : z.cells.size = size) (hsz : 0 < size)
  (v : Value) (n : Nat) (xs : List Value) (hs : a.eval s = v) (hown : w.ownsRow base e size v n xs)
  (ad : Addr) (m c : Nat) (news : List Value) (hx : a.eval x = .slice (some ad) m c) (hl : news.length = m * size) (hnews : ∀ j u, news[j]? = some u → w.cell? (ad.add j) = some u) (h1 : ∀ u ∈ news, u.oneCell' = true)
  (h63 : n + m ≤ maxLen) (hbytes : (n + m) * bytes ≤ 140737488355328) (hbase : base ≤ w.heap.size)
  (h : ∀ v' w', w'.ownsRow base e size v' (n + m) (xs ++ news) → w.grownBy w' v.ownBlock → NewRow w v v' → wpList P ops Q rest (a.put o.dst v') w') : wpList P ops Q (o :: rest) a w :=
 wpList_plain hgd fun _ hK => by
  obtain ⟨v', w', hr, q1, q2, q3⟩ := run_append_own2 (P := P) w base t o.type e i z size bytes ht hi hz hsize hby hzs hsz v n xs hown ad m c news hl hnews h1 h63 hbytes hbase
  unfold Oper.wp execOp
  simp only [ho, resolve, invoke, builtin, Sem.run_bind, Sem.run_pure, Result.andThen_ok, List.map_toArray, List.map_cons, List.map_nil, hs, hx, hr]
  exact hK _ _ (h v' w' q1 q2 q3)
end Go.Proofs.YtnlhcdchmgfipaaGreat

/- Rows of numbers: eqByteS where both sides are the same, markByteS, heldByteS. -/
namespace Go.Proofs.YtnlhcdchmgfipaaGreat.By
open Go.RowKit Go.Proofs.YtnlhcdchmgfipaaGreat
def intAt (l : List UInt8) (i : Nat) : UInt8 := l.getD i 0
def intCells (l : List UInt8) : List Value := l.map (fun z => Value.int .u8 (z.toNat : Int))
def IntsAt (w : World) (b off : Nat) (l : List UInt8) : Prop := b < w.heap.size ∧ ∀ i, i < l.length → w.cell? ⟨b, off + i, none⟩ = some (.int .u8 ((intAt l i).toNat : Int))
def IsI (w : World) (x : Value) (l : List UInt8) : Prop := ∃ a cap, x = .slice a l.length cap ∧ l.length ≤ cap ∧ cap ≤ maxLen ∧ (l = [] ∨ ∃ b off, a = some ⟨b, off, none⟩ ∧ IntsAt w b off l)
theorem IntsAt.below {w w' : World} {B b off : Nat} {l : List UInt8} (h : IntsAt w b off l) (hb : Below B w w') (hB : b < B) : IntsAt w' b off l :=
 ⟨Nat.lt_of_lt_of_le h.1 hb.size, fun i hi => (hb.cell hB).trans (h.2 i hi)⟩
theorem IsI.below {w w' : World} {x : Value} {l : List UInt8} (h : IsI w x l) (hb : Below w.heap.size w w') : IsI w' x l := by
 obtain ⟨a, cap, rfl, h1, h2, h⟩ := h
 exact ⟨a, cap, rfl, h1, h2, h.imp id (fun ⟨b, off, e, h⟩ => ⟨b, off, e, h.below hb h.1⟩)⟩
theorem grown_refl (w : World) (row : Option Nat) : w.grownBy w row := ⟨rfl, rfl, rfl, Nat.le_refl _, fun _ _ _ => rfl⟩
def OwnI (B : Nat) (w : World) (x : Value) (l : List UInt8) : Prop := ∃ a cap, x = .slice a l.length cap ∧ l.length ≤ cap ∧ cap ≤ maxLen ∧ (l = [] ∨ ∃ g, a = some ⟨g, 0, none⟩ ∧ B ≤ g ∧ (∀ j, j < l.length → w.frozen? ⟨g, j, none⟩ = false) ∧ IntsAt w g 0 l)
theorem OwnI.nil (B : Nat) (w : World) : OwnI B w (.slice none 0 0) [] := ⟨none, 0, rfl, Nat.le_refl _, Nat.zero_le _, .inl rfl⟩
theorem OwnI.isI {B : Nat} {w : World} {x : Value} {l : List UInt8} (h : OwnI B w x l) : IsI w x l := by
 obtain ⟨a, cap, rfl, h1, h2, h⟩ := h
 exact ⟨a, cap, rfl, h1, h2, h.imp id (fun ⟨g, e, _, _, hr⟩ => ⟨g, 0, e, hr⟩)⟩
theorem OwnI.mono {B B' : Nat} {w : World} {x : Value} {l : List UInt8} (h : OwnI B w x l) (hb : B' ≤ B) : OwnI B' w x l := by
 obtain ⟨a, cap, rfl, h1, h2, h⟩ := h
 exact ⟨a, cap, rfl, h1, h2, h.imp id (fun ⟨g, e, hg, hr⟩ => ⟨g, e, Nat.le_trans hb hg, hr⟩)⟩
theorem OwnI.of_row {B : Nat} {w : World} {x : Value} {l : List UInt8} (h : w.ownsRow B 5 1 x l.length (intCells l)) : OwnI B w x l := by
 obtain ⟨hl, ⟨rfl, h0⟩ | ⟨g, cap, cur, rfl, hg, hc, h1, h2, h3, h4⟩⟩ := h
 ·exact ⟨none, 0, by rw [h0], by omega, by unfold maxLen; omega, .inl (List.eq_nil_of_length_eq_zero h0)⟩
 ·refine ⟨_, cap, rfl, h1, h2, .inr ⟨g, rfl, hg, fun j hj => ?_, (Array.getElem?_eq_some_iff.1 hc).1, fun i hi => ?_⟩⟩
  ·have hj2 : j < cur.size := by omega
   simp [World.frozen?, hc]
  ·have e1 : w.cell? ⟨g, i, none⟩ = (intCells l)[i]? := by
    rw [← h4, List.getElem?_take_of_lt (by omega)]
    simp [World.cell?, hc]
   rw [Nat.zero_add, e1]
   simp [intCells, intAt, hi]
end Go.Proofs.YtnlhcdchmgfipaaGreat.By

/- toByteS: a row of one's own. -/
namespace Go.Proofs.YtnlhcdchmgfipaaGreat.By
open Go.RowKit Go.Proofs.YtnlhcdchmgfipaaGreat
def RowI (w : World) (g : Nat) (l : List UInt8) : Prop := g < w.heap.size ∧ ∀ j, j < l.length → w.cell? ⟨g, j, none⟩ = some (.int .u8 ((intAt l j).toNat : Int)) ∧ w.frozen? ⟨g, j, none⟩ = false
def FillI (w : World) (g n : Nat) (l : List UInt8) (k : Nat) : Prop := g < w.heap.size ∧ (∀ j, j < n → (w.cell? ⟨g, j, none⟩).isSome = true ∧ w.frozen? ⟨g, j, none⟩ = false) ∧ ∀ i, i < k → w.cell? ⟨g, i, none⟩ = some (.int .u8 ((intAt l i).toNat : Int))
theorem FillI.row {w : World} {g : Nat} {l : List UInt8} (h : FillI w g l.length l l.length) : RowI w g l := ⟨h.1, fun j hj => ⟨h.2.2 j hj, (h.2.1 j hj).2⟩⟩
theorem FillI.put {w : World} {g n k : Nat} {l : List UInt8} (h : FillI w g n l k) (hk : k < n) : FillI (w.setCell ⟨g, k, none⟩ (.int .u8 ((intAt l k).toNat : Int))) g n l (k + 1) := by
 have e1 : w.setCell ⟨g, k, none⟩ (.int .u8 ((intAt l k).toNat : Int)) = w.setCells g k [.int .u8 ((intAt l k).toNat : Int)] := rfl
 have hsame : ∀ j, j ≠ k → (w.setCell ⟨g, k, none⟩ (.int .u8 ((intAt l k).toNat : Int))).cell? ⟨g, j, none⟩ = w.cell? ⟨g, j, none⟩ := fun j hj => by
  rw [e1]
  exact World.cell?_setCells_out g _ k w ⟨g, j, none⟩ (fun _ _ => by simp; omega)
 have hat : (w.setCell ⟨g, k, none⟩ (.int .u8 ((intAt l k).toNat : Int))).cell? ⟨g, k, none⟩ = some (.int .u8 ((intAt l k).toNat : Int)) := by
  rw [e1]
  have h0 := World.cell?_setCells_in g [.int .u8 ((intAt l k).toNat : Int)] k w (fun j hj => by
   obtain rfl : j = 0 := by simpa using hj
   exact (h.2.1 k hk).1) 0 (by simp)
  simpa using h0
 refine ⟨by simpa using h.1, fun j hj => ?_, fun i hi => ?_⟩
 ·refine ⟨?_, ?_⟩
  ·by_cases e : j = k
   ·subst e; rw [hat]; rfl
   ·rw [hsame j e]; exact (h.2.1 j hj).1
  ·rw [e1, World.frozen?_setCells]; exact (h.2.1 j hj).2
 ·by_cases e : i = k
  ·subst e; exact hat
  ·rw [hsame i e]; exact h.2.2 i (by omega)
theorem FillI.made {w1 : World} {B : Nat} {z : List Value} {n : Nat} {l : List UInt8} (h : w1.ownsRow B 5 1 (.slice (some ⟨B, 0, none⟩) n n) n z) : FillI w1 B n l 0 := by
 obtain ⟨hl, h | ⟨g, cap, cur, e, hg, hc, h1, h2, h3, h4⟩⟩ := h
 ·simp at h
 ·simp at e
  obtain ⟨rfl, rfl⟩ := e
  have hlt : B < w1.heap.size := (Array.getElem?_eq_some_iff.1 hc).1
  refine ⟨hlt, fun j hj => ?_, fun i hi => by omega⟩
  have hj2 : j < cur.size := by omega
  simp [World.cell?, World.frozen?, hc, hj2]
theorem info5 : (Tryz.prog.info? 5).map (fun i => (i.zero, i.size, i.bytes)) = some (some (.int .u8 0), 1, 1) := by kernel_rfl
end Go.Proofs.YtnlhcdchmgfipaaGreat.By

/- Rows of bytes that grow. -/
namespace Go.Proofs.YtnlhcdchmgfipaaGreat
open Go.RowKit
def byteOf (z : Int) : UInt8 := UInt8.ofNat (z % 256).toNat
theorem byteOf_val (z : Int) : ((byteOf z).toNat : Int) = z % 256 := by
 unfold byteOf
 have h1 : 0 ≤ z % 256 := Int.emod_nonneg _ (by omega)
 have h2 : z % 256 < 256 := Int.emod_lt_of_pos _ (by omega)
 rw [UInt8.toNat_ofNat']
 omega
def twoB (z : Int) : List UInt8 := [byteOf (z / 256), byteOf z]
def RowBy (B : Nat) (w : World) (x : Value) (l : List UInt8) : Prop := w.ownsRow B 5 1 x l.length (By.intCells l)
theorem byCells_append (l l' : List UInt8) : By.intCells (l ++ l') = By.intCells l ++ By.intCells l' := by simp [By.intCells]
theorem RowBy.own {B : Nat} {w : World} {x : Value} {l : List UInt8} (h : RowBy B w x l) : By.OwnI B w x l := By.OwnI.of_row h
theorem RowBy.below {B : Nat} {w w' : World} {x : Value} {l : List UInt8} (h : RowBy B w x l) (hb : Below w.heap.size w w') : RowBy B w' x l := by
 obtain ⟨h0, h1 | ⟨g, cap, cur, e, hg, hc, h1⟩⟩ := h
 ·exact ⟨h0, .inl h1⟩
 ·exact ⟨h0, .inr ⟨g, cap, cur, e, hg, (hb.block g (Array.getElem?_eq_some_iff.1 hc).1).trans hc, h1⟩⟩
theorem RowBy.ne {B : Nat} {w : World} {x : Value} {l : List UInt8} (h : RowBy B w x l) {P : Nat} {T : TypeId} {vs : Array Value} (hb : Bk w P T vs) (hT : T ≠ 5) : ¬ x.ownBlock = some P := by
 intro e
 obtain ⟨_, ⟨rfl, _⟩ | ⟨g, cap, cur, rfl, _, hc, _⟩⟩ := h
 ·simp [Value.ownBlock] at e
 ·simp [Value.ownBlock] at e
  subst e
  have hb' : w.heap[g]? = some (.cells vs T) := hb
  rw [hb'] at hc
  simp at hc
  exact hT hc.2
theorem at_new2 (w : World) (a b : Value) : ∀ j u, [a, b][j]? = some u → (w.alloc (.cells #[a, b] 5)).cell? ((⟨w.heap.size, 0, none⟩ : Addr).add j) = some u := by
 intro j u hu
 match j, hu with
 | 0, hu => simp at hu; subst hu; simp [Addr.add]
 | 1, hu => simp at hu; subst hu; simp [Addr.add]
 | (j + 2), hu => simp at hu
theorem at_new1 (w : World) (a : Value) : ∀ j u, [a][j]? = some u → (w.alloc (.cells #[a] 5)).cell? ((⟨w.heap.size, 0, none⟩ : Addr).add j) = some u := by
 intro j u hu
 match j, hu with
 | 0, hu => simp at hu; subst hu; simp [Addr.add]
 | (j + 1), hu => simp at hu
theorem RowBy.grow {B : Nat} {w : World} {v : Value} {l r : List UInt8} {n : Nat} {cs : List Value} (h : w.ownsRow B 5 1 v (l.length + n) (By.intCells l ++ cs)) (hcs : By.intCells r = cs) (hn : r.length = n) : RowBy B w v (l ++ r) := by
 subst hcs hn
 unfold RowBy
 rw [List.length_append, byCells_append]
 exact h
theorem cells_one (z : Int) : By.intCells [byteOf z] = [.int .u8 (z % 256)] := by simp [By.intCells, byteOf_val]
theorem cells_oneS {z : Int} (h0 : 0 ≤ z) (h1 : z ≤ 255) : By.intCells [byteOf z] = [.int .u8 z] := by rw [cells_one, show z % 256 = z by omega]
theorem cells_pair {z y : Int} (h0 : 0 ≤ z) (h1 : z ≤ 255) (h2 : 0 ≤ y) (h3 : y ≤ 255) : By.intCells [byteOf z, byteOf y] = [.int .u8 z, .int .u8 y] := by
 have e : By.intCells [byteOf z, byteOf y] = By.intCells [byteOf z] ++ By.intCells [byteOf y] := rfl
 rw [e, cells_oneS h0 h1, cells_oneS h2 h3]
 rfl
theorem cells_two (z : Int) : By.intCells (twoB z) = [.int .u8 (z / 256 % 256), .int .u8 (z % 256)] := by simp [By.intCells, twoB, byteOf_val]
theorem cells_twoS {z : Int} (h0 : 0 ≤ z) (h1 : z ≤ 65535) : By.intCells (twoB z) = [.int .u8 (z / 256), .int .u8 (z % 256)] := by rw [cells_two, show z / 256 % 256 = z / 256 by omega]
set_option maxRecDepth 100000 in
set_option maxHeartbeats 1000000 in
theorem sTwo_any (B : Nat) (x : Value) (l : List UInt8) (z : Int) (w : World) (hB : B ≤ w.heap.size) (hl : l.length ≤ 1000000) (h : RowBy B w x l) :
  Calls Tryz.prog 141 #[x, .int .i64 z] w fun e w' => ∃ y, e = .returned y ∧ RowBy B w' y (l ++ twoB z) ∧ Turns (fun k => x.ownBlock = some k) w w' := by
 obtain ⟨i0, hi, hz0, hz1, hz2⟩ := info_parts By.info5
 have HR : Hid (RowBy B w x l) := h
 clear h
 go_enter Tryz.func141, Tryz.ntmps141
 go_wp2_with (at_builtin; refine wpList_append_own _ rfl _ _ 108 rfl B 5 i0 (.int .u8 0) 1 1 Tryz.underlying108 hi hz0 hz1 hz2 rfl (by decide) x _ _ rfl (World.ownsRow.alloc HR.out _) ⟨w.heap.size, 0, none⟩ 2 2 [.int .u8 (z / 256 % 256), .int .u8 (z % 256)] rfl rfl (at_new2 _ _ _) (fun u hu => by simp at hu; first | (subst hu; rfl) | (rcases hu with rfl | rfl <;> rfl)) (by unfold maxLen; omega) (by omega) (by simp; omega) ?_; intro v' w2 hown hgrow hnil)
 go_ret
 exact ⟨_, rfl, RowBy.grow hown (cells_two z) rfl, ((Turns.refl _ w).alloc _).trans (grown_turns hgrow)⟩
set_option maxRecDepth 100000 in
set_option maxHeartbeats 1000000 in
theorem iTwo_any (B : Nat) (x : Value) (l : List UInt8) (z : Int) (w : World) (hB : B ≤ w.heap.size) (hl : l.length ≤ 1000000) (hz : 0 ≤ z) (hz9 : z ≤ 65535) (h : RowBy B w x l) :
  Calls Tryz.prog 182 #[x, .int .i64 z] w fun e w' => ∃ y, e = .returned y ∧ RowBy B w' y (l ++ twoB z) ∧ Turns (fun k => x.ownBlock = some k) w w' := by
 obtain ⟨i0, hi, hz0, hz1, hz2⟩ := info_parts By.info5
 have HR : Hid (RowBy B w x l) := h
 have HZ : Hid (0 ≤ z ∧ z ≤ 65535) := ⟨hz, hz9⟩
 clear h
 go_enter Tryz.func182, Tryz.ntmps182
 go_wp2_with (at_builtin; refine wpList_append_own _ rfl _ _ 108 rfl B 5 i0 (.int .u8 0) 1 1 Tryz.underlying108 hi hz0 hz1 hz2 rfl (by decide) x _ _ rfl (World.ownsRow.alloc HR.out _) ⟨w.heap.size, 0, none⟩ 2 2 [.int .u8 (z / 256), .int .u8 (z % 256)] rfl rfl (at_new2 _ _ _) (fun u hu => by simp at hu; first | (subst hu; rfl) | (rcases hu with rfl | rfl <;> rfl)) (by unfold maxLen; omega) (by omega) (by simp; omega) ?_; intro v' w2 hown hgrow hnil)
 go_ret
 exact ⟨_, rfl, RowBy.grow hown (cells_twoS HZ.out.1 HZ.out.2) rfl, ((Turns.refl _ w).alloc _).trans (grown_turns hgrow)⟩
end Go.Proofs.YtnlhcdchmgfipaaGreat

/- The program's ModelBytes: a handler, an event. -/
namespace Go.Proofs.YtnlhcdchmgfipaaGreat
open Go.RowKit
def opB (o : O) : List UInt8 := [byteOf o.c, byteOf o.a] ++ twoB o.b ++ [byteOf o.k]
def opsB (r : List O) : Nat → List UInt8
 | 0 => []
 | k + 1 => opsB r k ++ opB (oAt r k)
def rowBs (r : List O) : List UInt8 := [byteOf (r.length : Int)] ++ opsB r r.length
def evB (e : Ev) : List UInt8 := twoB e.t ++ [byteOf e.d, byteOf e.k] ++ twoB e.v
theorem opB_length (o : O) : (opB o).length = 5 := rfl
theorem opsB_length (r : List O) : ∀ k, (opsB r k).length = 5 * k
 | 0 => rfl
 | k + 1 => by simp [opsB, opsB_length r k, opB_length]; omega
theorem twoB_length (z : Int) : (twoB z).length = 2 := rfl
def small (o : O) : Prop := 0 ≤ o.c ∧ o.c ≤ 255 ∧ 0 ≤ o.a ∧ o.a ≤ 255 ∧ 0 ≤ o.b ∧ o.b ≤ 65535 ∧ 0 ≤ o.k ∧ o.k ≤ 255
set_option maxRecDepth 100000 in
set_option maxHeartbeats 4000000 in
theorem handler_any (B : Nat) (x u : Value) (l : List UInt8) (r : List O) (w : World) (hB : B ≤ w.heap.size) (hl : l.length ≤ 10000) (hr : r.length ≤ 255) (hsm : ∀ q, q < r.length → small (oAt r q)) (h : RowBy B w x l) (hu : ∃ a cap, u = .slice a r.length cap ∧ (r = [] ∨ ∃ b off, a = some ⟨b, off, none⟩ ∧ b < B ∧ OsAt w b off r)) :
  Calls Tryz.prog 183 #[x, u] w fun e w' => ∃ y, e = .returned y ∧ RowBy B w' y (l ++ rowBs r) ∧ Below B w w' := by
 obtain ⟨i0, hi, hz0, hz1, hz2⟩ := info_parts By.info5
 obtain ⟨a1, c1, rfl, hu⟩ := hu
 have HR : Hid (RowBy B w x l) := h
 have HU : Hid (r = [] ∨ ∃ b off, a1 = some ⟨b, off, none⟩ ∧ b < B ∧ OsAt w b off r) := hu
 have HSM : Hid (∀ q, q < r.length → small (oAt r q)) := hsm
 have hr0 : (0 : Int) ≤ (r.length : Int) := by omega
 have hr1 : (r.length : Int) ≤ 255 := by omega
 clear h hu hsm
 go_enter Tryz.func183, Tryz.ntmps183
 go_wp2_with (at_builtin; refine wpList_append_own _ rfl _ _ 108 rfl B 5 i0 (.int .u8 0) 1 1 Tryz.underlying108 hi hz0 hz1 hz2 rfl (by decide) x _ _ rfl (World.ownsRow.alloc HR.out _) ⟨w.heap.size, 0, none⟩ 1 1 [.int .u8 (r.length : Int)] rfl rfl (at_new1 _ _) (fun u hu => by simp at hu; first | (subst hu; rfl) | (rcases hu with rfl | rfl <;> rfl)) (by unfold maxLen; omega) (by omega) (by simp; omega) ?_; intro v1 w1 hown hgrow hnil)
 have HR1 : Hid (RowBy B w1 v1 (l ++ [byteOf (r.length : Int)])) := RowBy.grow hown (cells_oneS hr0 hr1) rfl
 have HB1 : Hid (Below B w w1) := ((Below.refl B w).alloc hB _).grown hgrow (by simp; omega) (fun j e => row_ge HR.out e)
 clear hown hgrow hnil
 have hll : (l ++ [byteOf (r.length : Int)]).length = l.length + 1 := by simp
 have HLL : Hid (l ++ rowBs r = (l ++ [byteOf (r.length : Int)]) ++ opsB r r.length) := (by simp [rowBs] : l ++ rowBs r = (l ++ [byteOf (r.length : Int)]) ++ opsB r r.length)
 generalize l ++ [byteOf (r.length : Int)] = l1 at HR1 HLL hll
 go_loopw [0, 15] (fun o i wr => ∃ (q : Nat) (v : Value), q ≤ r.length ∧ v = o ∧ i = .int .i64 q ∧ RowBy B wr o (l1 ++ opsB r q) ∧ Below B w wr) (fun _ i _ => r.length - (intOf i).toNat)
 case atStart => exact ⟨0, _, Nat.zero_le _, rfl, rfl, by simpa [opsB] using HR1.out, HB1.out⟩
 case round =>
  clear HR1 HB1
  obtain ⟨q, o, hq, rfl, rfl, hR, hBw⟩ := hrel
  have HR1 : Hid (RowBy B wr o (l1 ++ opsB r q)) := hR
  have HB1 : Hid (Below B w wr) := hBw
  have hs1 : B ≤ wr.heap.size := Nat.le_trans hB hBw.size
  have hln : (l1 ++ opsB r q).length ≤ 12000 := by rw [List.length_append, opsB_length]; omega
  have HN : Hid (l1 ++ opsB r (q + 1) = (l1 ++ opsB r q) ++ opB (oAt r q)) := (by simp [opsB] : l1 ++ opsB r (q + 1) = (l1 ++ opsB r q) ++ opB (oAt r q))
  generalize hlq : l1 ++ opsB r q = lq at HR1 hln HN
  have HLQ : Hid (l1 ++ opsB r q = lq) := hlq
  clear hlq
  clear hR
  by_cases hlt : q < r.length
  ·obtain ⟨b, off, rfl, hb, hb2, hc⟩ := HU.out.resolve_left (by intro e; rw [e] at hlt; simp at hlt)
   obtain ⟨g0, g1, g2, g3⟩ := (hc q hlt).below hBw hb
   obtain ⟨s0, s1, s2, s3, s4, s5, s6, s7⟩ := HSM.out q hlt
   generalize oAt r q = e at g0 g1 g2 g3 HN s0 s1 s2 s3 s4 s5 s6 s7
   obtain ⟨c, a, b2, k2⟩ := e
   simp only at s0 s1 s2 s3 s4 s5 s6 s7
   have HSS : Hid ((0 ≤ c ∧ c ≤ 255 ∧ 0 ≤ a ∧ a ≤ 255) ∧ (0 ≤ b2 ∧ b2 ≤ 65535) ∧ 0 ≤ k2 ∧ k2 ≤ 255) := ⟨⟨s0, s1, s2, s3⟩, ⟨s4, s5⟩, s6, s7⟩
   clear hc hBw
   obtain ⟨V, hV⟩ : ∃ V, wr.alloc (.cells #[.int .i64 c, .int .i64 a, .int .i64 b2, .int .i64 k2] 139) = V := ⟨_, rfl⟩
   have hsV : B ≤ V.heap.size := by rw [← hV]; simp; omega
   have HBV : Hid (Below B w V) := hV ▸ HB1.out.alloc hs1 _
   have HRV : Hid (RowBy B V o lq) := hV ▸ World.ownsRow.alloc HR1.out _
   have HQV : Hid (Bk V wr.heap.size 139 #[.int .i64 c, .int .i64 a, .int .i64 b2, .int .i64 k2]) := hV ▸ Bk.new _ _ _
   have e0 := HQV.out.cell (i := 0) rfl
   have e1 := HQV.out.cell (i := 1) rfl
   clear HB1 HR1
   go_wp2_with (at_builtin; refine wpList_append_own _ rfl _ _ 108 rfl B 5 i0 (.int .u8 0) 1 1 Tryz.underlying108 hi hz0 hz1 hz2 rfl (by decide) o _ _ rfl (World.ownsRow.alloc HRV.out _) ⟨V.heap.size, 0, none⟩ 2 2 [.int .u8 c, .int .u8 a] rfl rfl (at_new2 _ _ _) (fun u hu => by simp at hu; first | (subst hu; rfl) | (rcases hu with rfl | rfl <;> rfl)) (by unfold maxLen; omega) (by omega) (by simp; omega) ?_; intro v2 w2 hown hgrow hnil; have HR2 : Hid (RowBy B w2 v2 (lq ++ [byteOf c, byteOf a])) := RowBy.grow hown (cells_pair HSS.out.1.1 HSS.out.1.2.1 HSS.out.1.2.2.1 HSS.out.1.2.2.2) rfl; have HB2 : Hid (Below B w w2) := (HBV.out.alloc (by omega) _).grown hgrow (by simp; omega) (fun j e => row_ge HRV.out e); have HQ2 : Hid (Bk w2 wr.heap.size 139 #[.int .i64 c, .int .i64 a, .int .i64 b2, .int .i64 k2]) := (HQV.out.alloc _).turns (grown_turns hgrow) (HRV.out.ne HQV.out (by decide)); have e2 := HQ2.out.cell (i := 2) rfl; clear hown hgrow hnil)
   have hs2 : B ≤ w2.heap.size := Nat.le_trans hB HB2.out.size
   clear e0 e1 e2 g0 g1 g2 g3 hV HBV HRV HQV
   refine (iTwo_any B _ _ _ _ hs2 (by rw [List.length_append]; simp; omega) HSS.out.2.1.1 HSS.out.2.1.2 HR2.out).mono ?_
   rintro e w3 ⟨v3, rfl, hr3, ht3⟩
   have HR3 : Hid (RowBy B w3 v3 (lq ++ [byteOf c, byteOf a] ++ twoB b2)) := hr3
   have HB3 : Hid (Below B w w3) := HB2.out.trans (ht3.to_below (fun k e => row_ge HR2.out e) hs2)
   have HQ3 : Hid (Bk w3 wr.heap.size 139 #[.int .i64 c, .int .i64 a, .int .i64 b2, .int .i64 k2]) := HQ2.out.turns ht3 (HR2.out.ne HQ2.out (by decide))
   have e3 := HQ3.out.cell (i := 3) rfl
   have hs3 : B ≤ w3.heap.size := Nat.le_trans hB HB3.out.size
   have hl3 : (lq ++ [byteOf c, byteOf a] ++ twoB b2).length ≤ 12004 := by rw [List.length_append, List.length_append, twoB_length]; simp; omega
   clear hr3 ht3 HR2 HB2 HQ2
   go_wp2_with (at_builtin; refine wpList_append_own _ rfl _ _ 108 rfl B 5 i0 (.int .u8 0) 1 1 Tryz.underlying108 hi hz0 hz1 hz2 rfl (by decide) v3 _ _ rfl (World.ownsRow.alloc HR3.out _) ⟨w3.heap.size, 0, none⟩ 1 1 [.int .u8 k2] rfl rfl (at_new1 _ _) (fun u hu => by simp at hu; first | (subst hu; rfl) | (rcases hu with rfl | rfl <;> rfl)) (by unfold maxLen; omega) (by omega) (by simp; omega) ?_; intro v4 w4 hown hgrow hnil)
   go_roundw
   case rel =>
    refine ⟨q + 1, _, by omega, rfl, by go_num, ?_, (HB3.out.alloc hs3 _).grown hgrow (by simp; omega) (fun j e => row_ge HR3.out e)⟩
    have := RowBy.grow hown (cells_oneS HSS.out.2.2.1 HSS.out.2.2.2) rfl
    rw [HN.out]
    simpa [opB] using this
   case measure => simp [intOf]; omega
  ·obtain rfl : q = r.length := by omega
   clear hBw
   go_wp2
   go_ret
   exact ⟨_, rfl, by rw [HLL.out, HLQ.out]; exact HR1.out, HB1.out⟩
set_option maxRecDepth 100000 in
set_option maxHeartbeats 4000000 in
theorem start_any (B : Nat) (x : Value) (l : List UInt8) (t s1 qq d kk v g : Int) (w : World) (hB : B ≤ w.heap.size) (hl : l.length ≤ 10000) (ht0 : 0 ≤ t) (ht1 : t ≤ 65535) (hd0 : 0 ≤ d) (hd1 : d ≤ 255) (hk0 : 0 ≤ kk) (hk1 : kk ≤ 255) (hv0 : 0 ≤ v) (hv1 : v ≤ 65535) (h : RowBy B w x l) :
  Calls Tryz.prog 184 #[x, .agg #[.int .i64 t, .int .i64 s1, .int .i64 qq, .int .i64 d, .int .i64 kk, .int .i64 v, .int .i64 g]] w fun e w' => ∃ y, e = .returned y ∧ RowBy B w' y (l ++ evB ⟨t, s1, qq, d, kk, v, g⟩) ∧ Below B w w' := by
 obtain ⟨i0, hi, hz0, hz1, hz2⟩ := info_parts By.info5
 obtain ⟨V, hV⟩ : ∃ V, w.alloc (.cells #[.int .i64 t, .int .i64 s1, .int .i64 qq, .int .i64 d, .int .i64 kk, .int .i64 v, .int .i64 g] 47) = V := ⟨_, rfl⟩
 have HBV : Hid (Below B w V) := hV ▸ (Below.refl B w).alloc hB _
 have HRV : Hid (RowBy B V x l) := hV ▸ World.ownsRow.alloc h _
 have HQV : Hid (Bk V w.heap.size 47 #[.int .i64 t, .int .i64 s1, .int .i64 qq, .int .i64 d, .int .i64 kk, .int .i64 v, .int .i64 g]) := hV ▸ Bk.new _ _ _
 have HT : Hid ((0 ≤ t ∧ t ≤ 65535) ∧ (0 ≤ v ∧ v ≤ 65535)) := ⟨⟨ht0, ht1⟩, hv0, hv1⟩
 have hsV : B ≤ V.heap.size := Nat.le_trans hB HBV.out.size
 have e0 := HQV.out.cell (i := 0) rfl
 clear h ht0 ht1 hv0 hv1
 go_enter Tryz.func184, Tryz.ntmps184
 go_wp2_with fail
 clear e0 hV
 refine (iTwo_any B _ _ _ _ hsV (by omega) HT.out.1.1 HT.out.1.2 HRV.out).mono ?_
 rintro e w2 ⟨v2, rfl, hr2, ht2⟩
 have HR2 : Hid (RowBy B w2 v2 (l ++ twoB t)) := hr2
 have HB2 : Hid (Below B w w2) := HBV.out.trans (ht2.to_below (fun k e => row_ge HRV.out e) hsV)
 have HQ2 : Hid (Bk w2 w.heap.size 47 #[.int .i64 t, .int .i64 s1, .int .i64 qq, .int .i64 d, .int .i64 kk, .int .i64 v, .int .i64 g]) := HQV.out.turns ht2 (HRV.out.ne HQV.out (by decide))
 have hs2 : B ≤ w2.heap.size := Nat.le_trans hB HB2.out.size
 have hl2 : (l ++ twoB t).length ≤ 10002 := by rw [List.length_append, twoB_length]; omega
 have HLD : Hid (l ++ evB ⟨t, s1, qq, d, kk, v, g⟩ = (l ++ twoB t) ++ [byteOf d, byteOf kk] ++ twoB v) := (by simp [evB] : l ++ evB ⟨t, s1, qq, d, kk, v, g⟩ = (l ++ twoB t) ++ [byteOf d, byteOf kk] ++ twoB v)
 generalize l ++ twoB t = l2 at HR2 hl2 HLD
 have e3 := HQ2.out.cell (i := 3) rfl
 have e4 := HQ2.out.cell (i := 4) rfl
 clear hr2 ht2 HBV HRV HQV
 go_wp2_with (at_builtin; refine wpList_append_own _ rfl _ _ 108 rfl B 5 i0 (.int .u8 0) 1 1 Tryz.underlying108 hi hz0 hz1 hz2 rfl (by decide) v2 _ _ rfl (World.ownsRow.alloc HR2.out _) ⟨w2.heap.size, 0, none⟩ 2 2 [.int .u8 d, .int .u8 kk] rfl rfl (at_new2 _ _ _) (fun u hu => by simp at hu; first | (subst hu; rfl) | (rcases hu with rfl | rfl <;> rfl)) (by unfold maxLen; omega) (by omega) (by simp; omega) ?_; intro v3 w3 hown hgrow hnil; have HR3 : Hid (RowBy B w3 v3 (l2 ++ [byteOf d, byteOf kk])) := RowBy.grow hown (cells_pair hd0 hd1 hk0 hk1) rfl; have HB3 : Hid (Below B w w3) := (HB2.out.alloc hs2 _).grown hgrow (by simp; omega) (fun j e => row_ge HR2.out e); have HQ3 : Hid (Bk w3 w.heap.size 47 #[.int .i64 t, .int .i64 s1, .int .i64 qq, .int .i64 d, .int .i64 kk, .int .i64 v, .int .i64 g]) := (HQ2.out.alloc _).turns (grown_turns hgrow) (HR2.out.ne HQ2.out (by decide)); have e5 := HQ3.out.cell (i := 5) rfl; clear hown hgrow hnil)
 have hs3 : B ≤ w3.heap.size := Nat.le_trans hB HB3.out.size
 refine (iTwo_any B _ _ _ _ hs3 (by rw [List.length_append]; simp; omega) HT.out.2.1 HT.out.2.2 HR3.out).mono ?_
 rintro e w4 ⟨v4, rfl, hr4, ht4⟩
 have HR4 : Hid (RowBy B w4 v4 (l2 ++ [byteOf d, byteOf kk] ++ twoB v)) := hr4
 have HB4 : Hid (Below B w w4) := HB3.out.trans (ht4.to_below (fun k e => row_ge HR3.out e) hs3)
 clear hr4 ht4 e3 e4 e5
 go_wp2
 go_ret
 exact ⟨_, rfl, by rw [HLD.out]; exact HR4.out, HB4.out⟩
end Go.Proofs.YtnlhcdchmgfipaaGreat

/- The program's AsksOf. -/
namespace Go.Proofs.YtnlhcdchmgfipaaGreat
open Go.RowKit
theorem ok_op {m : Md} (h : m.ok = true) {k q : Nat} (hk : k < m.h.length) (hq : q < (hAt m.h k).length) : (oAt (hAt m.h k) q).ok m.n m.h.length = true := by
 have hh : m.okH = true := by simp [Md.ok] at h; exact h.1.2
 have hr : rowB m (hAt m.h k) = true := List.all_eq_true.1 hh k (by simpa using hk)
 simp only [rowB, Bool.and_eq_true] at hr
 exact List.all_eq_true.1 hr.2 q (by simpa using hq)
end Go.Proofs.YtnlhcdchmgfipaaGreat

/- ModelBytes: plain words. -/
namespace Go.Proofs.YtnlhcdchmgfipaaGreat
open Go.RowKit
def iniB (m : Md) : Nat → List UInt8
 | 0 => []
 | k + 1 => iniB m k ++ twoB (intAt m.i k)
def rowsB (m : Md) : Nat → List UInt8
 | 0 => []
 | k + 1 => rowsB m k ++ rowBs (hAt m.h k)
def evsB (m : Md) : Nat → List UInt8
 | 0 => []
 | k + 1 => evsB m k ++ evB (evAt m.e k)
def headB (m : Md) : List UInt8 := [byteOf m.n, byteOf (m.h.length : Int), byteOf (m.e.length : Int)]
def bytesL (m : Md) : List UInt8 := headB m ++ twoB m.z ++ twoB m.s ++ iniB m m.i.length ++ rowsB m m.h.length ++ evsB m m.e.length
def bytesR (m : Md) : List UInt8 := if m.ok = true then bytesL m else []
theorem iniB_length (m : Md) : ∀ k, (iniB m k).length = 2 * k
 | 0 => rfl
 | k + 1 => by simp [iniB, iniB_length m k, twoB_length]; omega
theorem rowBs_length (r : List O) : (rowBs r).length = 1 + 5 * r.length := by simp [rowBs, opsB_length]; omega
theorem evB_length (e : Ev) : (evB e).length = 6 := rfl
theorem evsB_length (m : Md) : ∀ k, (evsB m k).length = 6 * k
 | 0 => rfl
 | k + 1 => by simp [evsB, evsB_length m k, evB_length]; omega
theorem ok_all {m : Md} (h : m.ok = true) : m.hd ∧ m.okI = true ∧ m.okH = true ∧ m.okE = true := by
 simp [Md.ok] at h
 exact ⟨h.1.1.1, h.1.1.2, h.1.2, h.2⟩
theorem ok_row {m : Md} (h : m.ok = true) (k : Nat) : (hAt m.h k).length ≤ 8 := by
 by_cases hk : k < m.h.length
 ·have hr : rowB m (hAt m.h k) = true := List.all_eq_true.1 (ok_all h).2.2.1 k (by simpa using hk)
  simp only [rowB, Bool.and_eq_true, decide_eq_true_eq] at hr
  exact hr.1
 ·rw [hAt_out (by omega)]; simp
theorem rowsB_length {m : Md} (h : m.ok = true) : ∀ k, (rowsB m k).length ≤ 41 * k
 | 0 => by simp [rowsB]
 | k + 1 => by
  have := rowsB_length h k
  have := ok_row h k
  simp [rowsB, rowBs_length]; omega
theorem ok_int {m : Md} (h : m.ok = true) {k : Nat} (hk : k < m.i.length) : 0 ≤ intAt m.i k ∧ intAt m.i k ≤ 999 := by
 have := List.all_eq_true.1 (ok_all h).2.1 k (by simpa using hk)
 simpa [inB] using this
theorem ok_small {m : Md} (h : m.ok = true) {k q : Nat} (hk : k < m.h.length) (hq : q < (hAt m.h k).length) : small (oAt (hAt m.h k) q) := by
 have h1 := ok_op h hk hq
 have hd := (ok_all h).1
 unfold Md.hd at hd
 simp only [O.ok, okO, decide_eq_true_eq] at h1
 unfold small
 omega
theorem ok_ev {m : Md} (h : m.ok = true) {k : Nat} (hk : k < m.e.length) {t s1 qq d kk v g : Int} (e : evAt m.e k = ⟨t, s1, qq, d, kk, v, g⟩) : (0 ≤ t ∧ t ≤ 1000) ∧ (0 ≤ d ∧ d ≤ 3) ∧ (0 ≤ kk ∧ kk ≤ 3) ∧ 0 ≤ v ∧ v ≤ 999 := by
 have h1 := List.all_eq_true.1 (ok_all h).2.2.2 k (by simpa using hk)
 rw [e] at h1
 simp only [stB, Ev.ok, okB, Bool.and_eq_true, decide_eq_true_eq] at h1
 omega
theorem row_of3 (w : World) (a b c : Value) : (w.alloc (.cells #[a, b, c] 5)).ownsRow w.heap.size 5 1 (.slice (some ⟨w.heap.size, 0, none⟩) 3 3) 3 [a, b, c] := by
 refine ⟨rfl, .inr ⟨w.heap.size, 3, #[a, b, c], rfl, Nat.le_refl _, ?_, Nat.le_refl _, by unfold maxLen; omega, rfl, rfl⟩⟩
 show (w.heap.push _)[w.heap.size]? = _
 simp
end Go.Proofs.YtnlhcdchmgfipaaGreat

/- Vectors: the program's vectorOf. -/
namespace Go.Proofs.YtnlhcdchmgfipaaGreat
open Go.RowKit
abbrev i64 (z : Int) : Value := .int .i64 z
abbrev vec (a b c d : Int) : Value := .agg #[i64 a, i64 b, i64 c, i64 d]
abbrev cell4 (a b c d : Int) : Obj := .cells #[i64 a, i64 b, i64 c, i64 d] 118
def vecOf (l : List Int) : Value := if vok l = true then vec (intAt l 0) (intAt l 1) (intAt l 2) (intAt l 3) else vec 0 0 0 0
theorem decOk {z : Int} (h0 : -1 ≤ z) (h1 : z ≤ 1) : (decide (-1 ≤ z) && decide (z ≤ 1)) = true := by simp [h0, h1]
theorem decNo {z : Int} (h : z < -1 ∨ 1 < z) : (decide (-1 ≤ z) && decide (z ≤ 1)) = false := by
 rw [Bool.and_eq_false_iff]; simp; omega
set_option maxHeartbeats 1000000 in
theorem of_at0 (b off cap : Nat) (x0 : Int) (w : World) (hb : b < w.heap.size) (h0 : w.cell? ⟨b, off, none⟩ = some (.int .i64 x0)) (d0 : (decide (-1 ≤ x0) && decide (x0 ≤ 1)) = false) :
  Calls Tryz.prog 123 #[.slice (some ⟨b, off, none⟩) 4 cap] w fun e w' => e = .returned (.tuple #[vec 0 0 0 0, .bool false]) ∧ Below w.heap.size w w' := by
 go_enter Tryz.func123, Tryz.ntmps123
 go_wp2
 go_loopw [13] (fun i wr => (i = .int .i64 0 ∧ wr = (w.alloc (cell4 0 0 0 0)).alloc (cell4 0 0 0 0))) (fun i _ => 4 - (intOf i).toNat)
 case atStart => exact ⟨rfl, rfl⟩
 case round =>
  rcases hrel with ⟨rfl, rfl⟩
  ·go_wp2_with (go_at_call 65; refine (within_any x0 _ _ _).mono ?_; rintro e w' ⟨rfl, rfl⟩; rw [d0])
   exact bodyPost_ret (v := .tuple #[vec 0 0 0 0, .bool false]) (by simp [results, Tryz.results123, go_sem]) rfl ⟨rfl, ((Below.refl _ w).alloc (Nat.le_refl _) _).alloc (by simp) _⟩
set_option maxHeartbeats 1000000 in
theorem of_at1 (b off cap : Nat) (x0 x1 : Int) (w : World) (hb : b < w.heap.size) (h0 : w.cell? ⟨b, off, none⟩ = some (.int .i64 x0)) (h1 : w.cell? ⟨b, off + 1, none⟩ = some (.int .i64 x1)) (d0 : (decide (-1 ≤ x0) && decide (x0 ≤ 1)) = true) (d1 : (decide (-1 ≤ x1) && decide (x1 ≤ 1)) = false) :
  Calls Tryz.prog 123 #[.slice (some ⟨b, off, none⟩) 4 cap] w fun e w' => e = .returned (.tuple #[vec 0 0 0 0, .bool false]) ∧ Below w.heap.size w w' := by
 go_enter Tryz.func123, Tryz.ntmps123
 go_wp2
 go_loopw [13] (fun i wr => (i = .int .i64 0 ∧ wr = (w.alloc (cell4 0 0 0 0)).alloc (cell4 0 0 0 0)) ∨ (i = .int .i64 1 ∧ wr = (w.alloc (cell4 0 0 0 0)).alloc (cell4 x0 0 0 0))) (fun i _ => 4 - (intOf i).toNat)
 case atStart => exact .inl ⟨rfl, rfl⟩
 case round =>
  rcases hrel with ⟨rfl, rfl⟩ | ⟨rfl, rfl⟩
  ·go_wp2_with (go_at_call 65; refine (within_any x0 _ _ _).mono ?_; rintro e w' ⟨rfl, rfl⟩; rw [d0])
   go_roundw
   case rel => exact .inr (⟨rfl, trivial⟩)
   case measure => simp [intOf]
  ·go_wp2_with (go_at_call 65; refine (within_any x1 _ _ _).mono ?_; rintro e w' ⟨rfl, rfl⟩; rw [d1])
   exact bodyPost_ret (v := .tuple #[vec 0 0 0 0, .bool false]) (by simp [results, Tryz.results123, go_sem]) rfl ⟨rfl, ((Below.refl _ w).alloc (Nat.le_refl _) _).alloc (by simp) _⟩
set_option maxHeartbeats 1000000 in
theorem of_at2 (b off cap : Nat) (x0 x1 x2 : Int) (w : World) (hb : b < w.heap.size) (h0 : w.cell? ⟨b, off, none⟩ = some (.int .i64 x0)) (h1 : w.cell? ⟨b, off + 1, none⟩ = some (.int .i64 x1)) (h2 : w.cell? ⟨b, off + 2, none⟩ = some (.int .i64 x2)) (d0 : (decide (-1 ≤ x0) && decide (x0 ≤ 1)) = true) (d1 : (decide (-1 ≤ x1) && decide (x1 ≤ 1)) = true) (d2 : (decide (-1 ≤ x2) && decide (x2 ≤ 1)) = false) :
  Calls Tryz.prog 123 #[.slice (some ⟨b, off, none⟩) 4 cap] w fun e w' => e = .returned (.tuple #[vec 0 0 0 0, .bool false]) ∧ Below w.heap.size w w' := by
 go_enter Tryz.func123, Tryz.ntmps123
 go_wp2
 go_loopw [13] (fun i wr => (i = .int .i64 0 ∧ wr = (w.alloc (cell4 0 0 0 0)).alloc (cell4 0 0 0 0)) ∨ (i = .int .i64 1 ∧ wr = (w.alloc (cell4 0 0 0 0)).alloc (cell4 x0 0 0 0)) ∨ (i = .int .i64 2 ∧ wr = (w.alloc (cell4 0 0 0 0)).alloc (cell4 x0 x1 0 0))) (fun i _ => 4 - (intOf i).toNat)
 case atStart => exact .inl ⟨rfl, rfl⟩
 case round =>
  rcases hrel with ⟨rfl, rfl⟩ | ⟨rfl, rfl⟩ | ⟨rfl, rfl⟩
  ·go_wp2_with (go_at_call 65; refine (within_any x0 _ _ _).mono ?_; rintro e w' ⟨rfl, rfl⟩; rw [d0])
   go_roundw
   case rel => exact .inr (.inl ⟨rfl, trivial⟩)
   case measure => simp [intOf]
  ·go_wp2_with (go_at_call 65; refine (within_any x1 _ _ _).mono ?_; rintro e w' ⟨rfl, rfl⟩; rw [d1])
   go_roundw
   case rel => exact .inr (.inr (⟨rfl, trivial⟩))
   case measure => simp [intOf]
  ·go_wp2_with (go_at_call 65; refine (within_any x2 _ _ _).mono ?_; rintro e w' ⟨rfl, rfl⟩; rw [d2])
   exact bodyPost_ret (v := .tuple #[vec 0 0 0 0, .bool false]) (by simp [results, Tryz.results123, go_sem]) rfl ⟨rfl, ((Below.refl _ w).alloc (Nat.le_refl _) _).alloc (by simp) _⟩
set_option maxHeartbeats 1000000 in
theorem of_at3 (b off cap : Nat) (x0 x1 x2 x3 : Int) (w : World) (hb : b < w.heap.size) (h0 : w.cell? ⟨b, off, none⟩ = some (.int .i64 x0)) (h1 : w.cell? ⟨b, off + 1, none⟩ = some (.int .i64 x1)) (h2 : w.cell? ⟨b, off + 2, none⟩ = some (.int .i64 x2)) (h3 : w.cell? ⟨b, off + 3, none⟩ = some (.int .i64 x3)) (d0 : (decide (-1 ≤ x0) && decide (x0 ≤ 1)) = true) (d1 : (decide (-1 ≤ x1) && decide (x1 ≤ 1)) = true) (d2 : (decide (-1 ≤ x2) && decide (x2 ≤ 1)) = true) (d3 : (decide (-1 ≤ x3) && decide (x3 ≤ 1)) = false) :
  Calls Tryz.prog 123 #[.slice (some ⟨b, off, none⟩) 4 cap] w fun e w' => e = .returned (.tuple #[vec 0 0 0 0, .bool false]) ∧ Below w.heap.size w w' := by
 go_enter Tryz.func123, Tryz.ntmps123
 go_wp2
 go_loopw [13] (fun i wr => (i = .int .i64 0 ∧ wr = (w.alloc (cell4 0 0 0 0)).alloc (cell4 0 0 0 0)) ∨ (i = .int .i64 1 ∧ wr = (w.alloc (cell4 0 0 0 0)).alloc (cell4 x0 0 0 0)) ∨ (i = .int .i64 2 ∧ wr = (w.alloc (cell4 0 0 0 0)).alloc (cell4 x0 x1 0 0)) ∨ (i = .int .i64 3 ∧ wr = (w.alloc (cell4 0 0 0 0)).alloc (cell4 x0 x1 x2 0))) (fun i _ => 4 - (intOf i).toNat)
 case atStart => exact .inl ⟨rfl, rfl⟩
 case round =>
  rcases hrel with ⟨rfl, rfl⟩ | ⟨rfl, rfl⟩ | ⟨rfl, rfl⟩ | ⟨rfl, rfl⟩
  ·go_wp2_with (go_at_call 65; refine (within_any x0 _ _ _).mono ?_; rintro e w' ⟨rfl, rfl⟩; rw [d0])
   go_roundw
   case rel => exact .inr (.inl ⟨rfl, trivial⟩)
   case measure => simp [intOf]
  ·go_wp2_with (go_at_call 65; refine (within_any x1 _ _ _).mono ?_; rintro e w' ⟨rfl, rfl⟩; rw [d1])
   go_roundw
   case rel => exact .inr (.inr (.inl ⟨rfl, trivial⟩))
   case measure => simp [intOf]
  ·go_wp2_with (go_at_call 65; refine (within_any x2 _ _ _).mono ?_; rintro e w' ⟨rfl, rfl⟩; rw [d2])
   go_roundw
   case rel => exact .inr (.inr (.inr (⟨rfl, trivial⟩)))
   case measure => simp [intOf]
  ·go_wp2_with (go_at_call 65; refine (within_any x3 _ _ _).mono ?_; rintro e w' ⟨rfl, rfl⟩; rw [d3])
   exact bodyPost_ret (v := .tuple #[vec 0 0 0 0, .bool false]) (by simp [results, Tryz.results123, go_sem]) rfl ⟨rfl, ((Below.refl _ w).alloc (Nat.le_refl _) _).alloc (by simp) _⟩
set_option maxHeartbeats 1000000 in
theorem of_at4 (b off cap : Nat) (x0 x1 x2 x3 : Int) (w : World) (hb : b < w.heap.size) (h0 : w.cell? ⟨b, off, none⟩ = some (.int .i64 x0)) (h1 : w.cell? ⟨b, off + 1, none⟩ = some (.int .i64 x1)) (h2 : w.cell? ⟨b, off + 2, none⟩ = some (.int .i64 x2)) (h3 : w.cell? ⟨b, off + 3, none⟩ = some (.int .i64 x3)) (d0 : (decide (-1 ≤ x0) && decide (x0 ≤ 1)) = true) (d1 : (decide (-1 ≤ x1) && decide (x1 ≤ 1)) = true) (d2 : (decide (-1 ≤ x2) && decide (x2 ≤ 1)) = true) (d3 : (decide (-1 ≤ x3) && decide (x3 ≤ 1)) = true) :
  Calls Tryz.prog 123 #[.slice (some ⟨b, off, none⟩) 4 cap] w fun e w' => e = .returned (.tuple #[vec x0 x1 x2 x3, .bool true]) ∧ Below w.heap.size w w' := by
 go_enter Tryz.func123, Tryz.ntmps123
 go_wp2
 go_loopw [13] (fun i wr => (i = .int .i64 0 ∧ wr = (w.alloc (cell4 0 0 0 0)).alloc (cell4 0 0 0 0)) ∨ (i = .int .i64 1 ∧ wr = (w.alloc (cell4 0 0 0 0)).alloc (cell4 x0 0 0 0)) ∨ (i = .int .i64 2 ∧ wr = (w.alloc (cell4 0 0 0 0)).alloc (cell4 x0 x1 0 0)) ∨ (i = .int .i64 3 ∧ wr = (w.alloc (cell4 0 0 0 0)).alloc (cell4 x0 x1 x2 0)) ∨ (i = .int .i64 4 ∧ wr = (w.alloc (cell4 0 0 0 0)).alloc (cell4 x0 x1 x2 x3))) (fun i _ => 4 - (intOf i).toNat)
 case atStart => exact .inl ⟨rfl, rfl⟩
 case round =>
  rcases hrel with ⟨rfl, rfl⟩ | ⟨rfl, rfl⟩ | ⟨rfl, rfl⟩ | ⟨rfl, rfl⟩ | ⟨rfl, rfl⟩
  ·go_wp2_with (go_at_call 65; refine (within_any x0 _ _ _).mono ?_; rintro e w' ⟨rfl, rfl⟩; rw [d0])
   go_roundw
   case rel => exact .inr (.inl ⟨rfl, trivial⟩)
   case measure => simp [intOf]
  ·go_wp2_with (go_at_call 65; refine (within_any x1 _ _ _).mono ?_; rintro e w' ⟨rfl, rfl⟩; rw [d1])
   go_roundw
   case rel => exact .inr (.inr (.inl ⟨rfl, trivial⟩))
   case measure => simp [intOf]
  ·go_wp2_with (go_at_call 65; refine (within_any x2 _ _ _).mono ?_; rintro e w' ⟨rfl, rfl⟩; rw [d2])
   go_roundw
   case rel => exact .inr (.inr (.inr (.inl ⟨rfl, trivial⟩)))
   case measure => simp [intOf]
  ·go_wp2_with (go_at_call 65; refine (within_any x3 _ _ _).mono ?_; rintro e w' ⟨rfl, rfl⟩; rw [d3])
   go_roundw
   case rel => exact .inr (.inr (.inr (.inr (⟨rfl, trivial⟩))))
   case measure => simp [intOf]
  ·go_wp2
   exact bodyPost_ret (v := .tuple #[vec x0 x1 x2 x3, .bool true]) (by simp [results, Tryz.results123, go_sem]) rfl ⟨rfl, ((Below.refl _ w).alloc (Nat.le_refl _) _).alloc (by simp) _⟩
set_option maxHeartbeats 1000000 in
theorem of_long (a : Option Addr) (n cap : Nat) (w : World) (_hn : n ≤ 4611686018427387904) (h4 : ¬ (n : Int) = 4) :
  Calls Tryz.prog 123 #[.slice a n cap] w fun e w' => e = .returned (.tuple #[vec 0 0 0 0, .bool false]) ∧ Below w.heap.size w w' := by
 go_enter Tryz.func123, Tryz.ntmps123
 go_wp2
 exact bodyPost_ret (v := .tuple #[vec 0 0 0 0, .bool false]) (by simp [results, Tryz.results123, go_sem]) rfl ⟨rfl, (Below.refl _ w).alloc (Nat.le_refl _) _⟩
theorem vec_no {l : List Int} (h : vok l = false) : vecOf l = vec 0 0 0 0 := by simp [vecOf, h]
theorem of_any (x : Value) (l : List Int) (w : World) (hl : l.length ≤ 4611686018427387904) (h : IsI w x l) :
  Calls Tryz.prog 123 #[x] w fun e w' => e = .returned (.tuple #[vecOf l, .bool (vok l)]) ∧ Below w.heap.size w w' := by
 obtain ⟨a, cap, rfl, h1, h2, h⟩ := h
 by_cases h4 : l.length = 4
 ·obtain ⟨b, off, rfl, hb, hc⟩ := h.resolve_left (by rintro rfl; simp at h4)
  have c0 := hc 0 (by omega)
  have c1 := hc 1 (by omega)
  have c2 := hc 2 (by omega)
  have c3 := hc 3 (by omega)
  rw [Nat.add_zero] at c0
  have no : ∀ k, k < 4 → (intAt l k < -1 ∨ 1 < intAt l k) → Ending.returned (.tuple #[vec 0 0 0 0, .bool false]) = .returned (.tuple #[vecOf l, .bool (vok l)]) := fun k hk hb => by
   have hv := vok_no (l := l) (k := k) (by omega) hb
   rw [vec_no hv, hv]
  rw [h4]
  by_cases e0 : intAt l 0 < -1 ∨ 1 < intAt l 0
  ·exact (of_at0 b off cap _ w hb c0 (decNo e0)).mono fun e w' ⟨h, k⟩ => ⟨h.trans (no 0 (by omega) e0), k⟩
  by_cases e1 : intAt l 1 < -1 ∨ 1 < intAt l 1
  ·exact (of_at1 b off cap _ _ w hb c0 c1 (decOk (by omega) (by omega)) (decNo e1)).mono fun e w' ⟨h, k⟩ => ⟨h.trans (no 1 (by omega) e1), k⟩
  by_cases e2 : intAt l 2 < -1 ∨ 1 < intAt l 2
  ·exact (of_at2 b off cap _ _ _ w hb c0 c1 c2 (decOk (by omega) (by omega)) (decOk (by omega) (by omega)) (decNo e2)).mono fun e w' ⟨h, k⟩ => ⟨h.trans (no 2 (by omega) e2), k⟩
  by_cases e3 : intAt l 3 < -1 ∨ 1 < intAt l 3
  ·exact (of_at3 b off cap _ _ _ _ w hb c0 c1 c2 c3 (decOk (by omega) (by omega)) (decOk (by omega) (by omega)) (decOk (by omega) (by omega)) (decNo e3)).mono fun e w' ⟨h, k⟩ => ⟨h.trans (no 3 (by omega) e3), k⟩
  have hv : vok l = true := by
   rw [vok_all (fun j hj => by
    have hj4 : j = 0 ∨ j = 1 ∨ j = 2 ∨ j = 3 := by omega
    rcases hj4 with rfl | rfl | rfl | rfl <;> omega)]
   simp [h4]
  refine (of_at4 b off cap _ _ _ _ w hb c0 c1 c2 c3 (decOk (by omega) (by omega)) (decOk (by omega) (by omega)) (decOk (by omega) (by omega)) (decOk (by omega) (by omega))).mono fun e w' ⟨h, k⟩ => ⟨h.trans ?_, k⟩
  simp [vecOf, hv]
 ·have hv : vok l = false := by simp [vok, h4]
  refine (of_long a l.length cap w hl (by omega)).mono fun e w' ⟨h, k⟩ => ⟨h.trans ?_, k⟩
  rw [vec_no hv, hv]
end Go.Proofs.YtnlhcdchmgfipaaGreat

/- A region that draws its order, whose operations only read and whose callees lay blocks of their own, is walked once, in the order of the text. -/
namespace Go.Proofs.YtnlhcdchmgfipaaGreat
open Go.RowKit
theorem Beyond.ints {W : World} {b off : Nat} {l : List Int} (h : IntsAt W b off l) {k : Nat} (hk : k < l.length) {z : Int} (hz : z = intAt l k) : ∀ p : Beyond W, p.w.cell? ⟨b, off + k, none⟩ = some (.int .i64 z) := fun p => hz ▸ p.cell h.1 (h.2 k hk)
theorem Beyond.ints0 {W : World} {b : Nat} {l : List Int} (h : IntsAt W b 0 l) {k : Nat} (hk : k < l.length) {z : Int} (hz : z = intAt l k) : ∀ p : Beyond W, p.w.cell? ⟨b, k, none⟩ = some (.int .i64 z) := fun p => by have := Beyond.ints h hk hz p; rwa [Nat.zero_add] at this
instance (W : World) : Nonempty (Beyond W) := ⟨⟨W, Below.refl _ _⟩⟩
end Go.Proofs.YtnlhcdchmgfipaaGreat

