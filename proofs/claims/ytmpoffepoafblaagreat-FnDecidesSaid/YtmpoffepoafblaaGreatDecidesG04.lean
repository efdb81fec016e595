/- VLow, VNum, VDecS, NCur, NDraw, VDraw -/
import Derived.Test.YtmpoffepoafblaaGreatDecidesG03
import Derived.Lib.OthersKept
import Derived.Test.YtmpoffepoafblaaGreatDecidesG01
import Derived.BigRegion
/- Rows of numbers: what stays where another row turns. -/
namespace Go.Proofs.YtmpoffepoafblaaGreat
open Go.RowKit
/- As IsI, in a block below B. -/
def LowI (B : Nat) (w : World) (x : Value) (l : List Int) : Prop := ∃ a cap, x = .slice a l.length cap ∧ l.length ≤ cap ∧ cap ≤ maxLen ∧ (l = [] ∨ ∃ b off, a = some ⟨b, off, none⟩ ∧ b < B ∧ IntsAt w b off l)
theorem LowI.isI {B : Nat} {w : World} {x : Value} {l : List Int} (h : LowI B w x l) : IsI w x l := by
  obtain ⟨a, cap, rfl, h1, h2, h⟩ := h
  exact ⟨a, cap, rfl, h1, h2, h.imp id (fun ⟨b, off, e, _, h⟩ => ⟨b, off, e, h⟩)⟩
theorem IsI.low {w : World} {x : Value} {l : List Int} (h : IsI w x l) : LowI w.heap.size w x l := by
  obtain ⟨a, cap, rfl, h1, h2, h⟩ := h
  exact ⟨a, cap, rfl, h1, h2, h.imp id (fun ⟨b, off, e, h⟩ => ⟨b, off, e, h.1, h⟩)⟩
theorem LowI.below {B : Nat} {w w' : World} {x : Value} {l : List Int} (h : LowI B w x l) (hb : Below B w w') : LowI B w' x l := by
  obtain ⟨a, cap, rfl, h1, h2, h⟩ := h
  exact ⟨a, cap, rfl, h1, h2, h.imp id (fun ⟨b, off, e, hB, h⟩ => ⟨b, off, e, hB, h.below hb hB⟩)⟩
theorem OwnI.other {B g : Nat} {w w' : World} {x : Value} {l : List Int} (h : OwnI B w x l) (hg : g < B) (hgr : w.grownBy w' (some g)) : OwnI B w' x l := by
  obtain ⟨a, cap, rfl, h1, h2, h⟩ := h
  refine ⟨a, cap, rfl, h1, h2, h.imp id ?_⟩
  rintro ⟨b, rfl, hB, hf, hr⟩
  have hk : w'.heap[b]? = w.heap[b]? := hgr.block b hr.1 (by intro e; have := Option.some.inj e; omega)
  have hc : ∀ o, w'.cell? ⟨b, o, none⟩ = w.cell? ⟨b, o, none⟩ := fun o => World.cell?_of_block (w := w) hk
  have hz : ∀ o, w'.frozen? ⟨b, o, none⟩ = w.frozen? ⟨b, o, none⟩ := fun o => World.frozen?_of_block (w := w) hk
  exact ⟨b, rfl, hB, fun j hj => (hz j).trans (hf j hj), Nat.lt_of_lt_of_le hr.1 hgr.size, fun i hi => (hc _).trans (hr.2 i hi)⟩
/- An answer: a list of one's own and a flag. -/
def AnsI (B : Nat) (r : List Int) (b : Bool) (e : Ending) (w' : World) : Prop := ∃ v, e = .returned (.tuple #[v, .bool b]) ∧ OwnI B w' v r
end Go.Proofs.YtmpoffepoafblaaGreat

/- Vectors: the program's copyOf and numbers, and numberOf. -/
namespace Go.Proofs.YtmpoffepoafblaaGreat
open Go.RowKit
theorem intCells_one (l : List Int) : ∀ u ∈ intCells l, u.oneCell' = true := by
  intro u hu
  simp only [intCells, List.mem_map] at hu
  obtain ⟨z, _, rfl⟩ := hu
  rfl
theorem add_none (b off n : Nat) : (⟨b, off, none⟩ : Addr).add n = ⟨b, off + n, none⟩ := by
  unfold Addr.add
  split <;> simp_all
theorem IntsAt.cells {w : World} {b off : Nat} {l : List Int} (h : IntsAt w b off l) : ∀ (j : Nat) (u : Value), (intCells l)[j]? = some u → w.cell? ((⟨b, off, none⟩ : Addr).add j) = some u := by
  intro j u hu
  obtain ⟨hj, rfl⟩ := List.getElem?_eq_some_iff.1 hu
  rw [intCells_length] at hj
  rw [add_none, h.2 j hj]
  simp [intCells, intAt, hj]
set_option maxHeartbeats 1000000 in
theorem copyI_any (b off cap : Nat) (l : List Int) (w : World) (hl : l.length ≤ 1048576) (hI : IntsAt w b off l) :
    Calls Tryz.prog 162 #[.slice (some ⟨b, off, none⟩) l.length cap] w fun e w' => ∃ x, e = .returned x ∧ OwnI w.heap.size w' x l ∧ Below w.heap.size w w' := by
  obtain ⟨i0, hi, hz0, hz1, hz2⟩ := info_parts info3
  have HI : Hid (IntsAt w b off l) := hI
  clear hI
  go_enter Tryz.func162, Tryz.ntmps162
  go_wp2_with (at_builtin; refine wpList_append_own _ rfl _ _ 22 rfl w.heap.size 3 i0 _ 1 8 Tryz.underlying22 hi hz0 hz1 hz2 rfl (by decide) (.slice none 0 0) 0 [] rfl (World.ownsRow_nil w _ 3 1) ⟨b, off, none⟩ l.length cap (intCells l) rfl (by rw [intCells_length]; omega) HI.out.cells (intCells_one l) (by unfold maxLen; omega) (by omega) (Nat.le_refl _) ?_; intro v' w1 hown hgrow hnil)
  go_ret
  refine ⟨_, rfl, OwnI.of_row (by simpa using hown), (Below.refl _ w).grown hgrow (Nat.le_refl _) (fun k e => by cases e)⟩
set_option maxHeartbeats 1000000 in
theorem numbers_any (a b c d : Int) (w : World) :
    Calls Tryz.prog 92 #[vec a b c d] w fun e w' => ∃ x, e = .returned x ∧ OwnI w.heap.size w' x [a, b, c, d] ∧ Below w.heap.size w w' := by
  have hI : IntsAt (w.alloc (cell4 a b c d)) w.heap.size 0 [a, b, c, d] := (V4.new w a b c d).ints
  have H : Hid (Calls Tryz.prog 162 #[.slice (some ⟨w.heap.size, 0, none⟩) 4 4] (w.alloc (cell4 a b c d)) fun e w' => ∃ x, e = .returned x ∧ OwnI (w.alloc (cell4 a b c d)).heap.size w' x [a, b, c, d] ∧ Below (w.alloc (cell4 a b c d)).heap.size (w.alloc (cell4 a b c d)) w') := copyI_any _ 0 4 [a, b, c, d] _ (by simp) hI
  clear hI
  go_enter Tryz.func92, Tryz.ntmps92
  go_wp2_with fail
  refine H.out.mono ?_
  rintro e w1 ⟨x, rfl, ho, hb⟩
  have hB : Below w.heap.size w w1 := ((Below.refl _ w).alloc (Nat.le_refl _) _).trans (hb.mono (by simp))
  have hO : OwnI w.heap.size w1 x [a, b, c, d] := ho.mono (by simp)
  clear ho hb
  go_wp2
  go_ret
  exact ⟨_, rfl, hO, hB⟩
abbrev abc : ByteArray := ⟨#[63, 110, 121]⟩
/- What numberOf tells of a letter. -/
def numOfR (z : Int) : Value := if z = 63 then .tuple #[.int .i64 (-1), .bool true] else if z = 110 then .tuple #[.int .i64 0, .bool true] else if z = 121 then .tuple #[.int .i64 1, .bool true] else .tuple #[.int .i64 0, .bool false]
set_option maxHeartbeats 1000000 in
theorem numberOf_any (z : Int) (w : World) :
    Calls Tryz.prog 91 #[.int .i32 z] w fun e w' => e = .returned (numOfR z) ∧ Below w.heap.size w w' := by
  have n0 : ∀ ty, (Instr.next (.pointer (some ⟨w.heap.size, 0, none⟩)) true ty).run Tryz.prog (w.iter abc 0) = .ok (.tuple #[.bool true, .int .i64 0, .int .i32 63]) (w.iter abc 1) := fun ty => run_next_ascii w abc 0 ty (by decide) (by decide)
  have n1 : ∀ ty, (Instr.next (.pointer (some ⟨w.heap.size, 0, none⟩)) true ty).run Tryz.prog (w.iter abc 1) = .ok (.tuple #[.bool true, .int .i64 1, .int .i32 110]) (w.iter abc 2) := fun ty => run_next_ascii w abc 1 ty (by decide) (by decide)
  have n2 : ∀ ty, (Instr.next (.pointer (some ⟨w.heap.size, 0, none⟩)) true ty).run Tryz.prog (w.iter abc 2) = .ok (.tuple #[.bool true, .int .i64 2, .int .i32 121]) (w.iter abc 3) := fun ty => run_next_ascii w abc 2 ty (by decide) (by decide)
  have n3 : ∀ ty, (Instr.next (.pointer (some ⟨w.heap.size, 0, none⟩)) true ty).run Tryz.prog (w.iter abc 3) = .ok (.tuple #[.bool false]) (w.iter abc 3) := fun ty => run_next_end w abc 3 ty (by decide)
  have HB : Hid (∀ p, Below w.heap.size w (w.iter abc p)) := fun p => (Below.refl _ w).alloc (Nat.le_refl _) _
  go_enter Tryz.func91, Tryz.ntmps91
  go_wp2
  go_loopw [] (fun wr => (wr = w.iter abc 0) ∨ (wr = w.iter abc 1 ∧ Hid (¬ z = 63)) ∨ (wr = w.iter abc 2 ∧ Hid (¬ z = 63 ∧ ¬ z = 110)) ∨ (wr = w.iter abc 3 ∧ Hid (¬ z = 63 ∧ ¬ z = 110 ∧ ¬ z = 121))) (fun wr => 3 - wr.iterPos w.heap.size)
  case atStart => exact .inl rfl
  case round =>
    rcases hrel with rfl | ⟨rfl, h⟩ | ⟨rfl, h⟩ | ⟨rfl, h⟩
    · by_cases e : z = 63
      · subst e
        go_wp2
        go_ret2
        exact ⟨rfl, HB.out _⟩
      · have d : ((63 : Int) == z) = false := by simp; omega
        have HE : Hid (¬ z = 63) := e
        clear e
        go_wp2
        go_roundw
        case rel => exact .inr (.inl ⟨trivial, HE⟩)
        case measure => simp
    · by_cases e : z = 110
      · subst e
        go_wp2
        go_ret2
        exact ⟨rfl, HB.out _⟩
      · have d : ((110 : Int) == z) = false := by simp; omega
        have HE : Hid (¬ z = 63 ∧ ¬ z = 110) := ⟨h.out, e⟩
        clear e h
        go_wp2
        go_roundw
        case rel => exact .inr (.inr (.inl ⟨trivial, HE⟩))
        case measure => simp
    · by_cases e : z = 121
      · subst e
        go_wp2
        go_ret2
        exact ⟨rfl, HB.out _⟩
      · have d : ((121 : Int) == z) = false := by simp; omega
        have HE : Hid (¬ z = 63 ∧ ¬ z = 110 ∧ ¬ z = 121) := ⟨h.out.1, h.out.2, e⟩
        clear e h
        go_wp2
        go_roundw
        case rel => exact .inr (.inr (.inr ⟨trivial, HE⟩))
        case measure => simp
    · have HE : Hid (numOfR z = .tuple #[.int .i64 0, .bool false]) := by show _ = _; simp [numOfR, h.out.1, h.out.2.1, h.out.2.2]
      clear h
      go_wp2
      go_ret2
      exact ⟨by rw [HE.out]; rfl, HB.out _⟩
end Go.Proofs.YtmpoffepoafblaaGreat

/- Vectors: both Decide. -/
namespace Go.Proofs.YtmpoffepoafblaaGreat
open Go.RowKit
def decB (l : List Int) (d v : Int) : Bool := vok l && (decide (0 ≤ d) && decide (d ≤ 3)) && (decide (0 ≤ v) && decide (v ≤ 1))
def decF (l : List Int) (d v : Int) : Bool := decB l d v && decide (intAt l d.toNat = -1)
def decR (l : List Int) (d v : Int) : List Int := if decB l d v = true then (if intAt l d.toNat = -1 then l.set d.toNat v else l) else []
theorem decB_iff {l : List Int} {d v : Int} : decB l d v = true ↔ vok l = true ∧ 0 ≤ d ∧ d ≤ 3 ∧ 0 ≤ v ∧ v ≤ 1 := by
  simp [decB, and_assoc]
theorem dec_no {l : List Int} {d v : Int} (h : decB l d v = false) : decF l d v = false ∧ decR l d v = [] := by simp [decF, decR, h]
theorem decR_length (l : List Int) (d v : Int) : (decR l d v).length ≤ l.length := by
  unfold decR
  split
  · split
    · rw [List.length_set]; exact Nat.le_refl _
    · exact Nat.le_refl _
  · exact Nat.zero_le _
theorem rowI_empty (w : World) : (w.alloc (.cells #[] 3)).ownsRow w.heap.size 3 1 (.slice (some ⟨w.heap.size, 0, none⟩) 0 0) 0 [] :=
  ⟨rfl, .inr ⟨w.heap.size, 0, #[], rfl, Nat.le_refl _, (MapKept.heap_alloc w _).1, Nat.le_refl _, Nat.zero_le _, rfl, rfl⟩⟩
theorem OwnI.four {B : Nat} {w : World} {x : Value} {l : List Int} (h : OwnI B w x l) (hl : l.length = 4) : ∃ g cap, x = .slice (some ⟨g, 0, none⟩) 4 cap ∧ 4 ≤ cap ∧ cap ≤ maxLen ∧ B ≤ g ∧ RowI w g l := by
  obtain ⟨a, cap, rfl, h1, h2, h⟩ := h
  obtain ⟨g, rfl, hg, hf, hr⟩ := h.resolve_left (by rintro rfl; simp at hl)
  exact ⟨g, cap, by rw [hl], by omega, h2, hg, hr.1, fun j hj => ⟨by have := hr.2 j hj; rwa [Nat.zero_add] at this, hf j hj⟩⟩
theorem RowI.put {w : World} {g m : Nat} {l : List Int} (h : RowI w g l) (hm : m < l.length) (v : Int) : RowI (w.setCell ⟨g, m, none⟩ (.int .i64 v)) g (l.set m v) := by
  have e1 : w.setCell ⟨g, m, none⟩ (.int .i64 v) = w.setCells g m [.int .i64 v] := rfl
  refine ⟨by simpa using h.1, fun j hj => ⟨?_, ?_⟩⟩
  · have hj' : j < l.length := by simpa using hj
    by_cases e : j = m
    · subst e
      have h0 := World.cell?_setCells_in g [.int .i64 v] j w (fun i hi => by
        obtain rfl : i = 0 := by simpa using hi
        rw [Nat.add_zero, (h.2 j hm).1]; rfl) 0 (by simp)
      rw [e1]
      simpa [intAt, hm] using h0
    · rw [e1, World.cell?_setCells_out g _ m w ⟨g, j, none⟩ (fun _ _ => by simp; omega), (h.2 j hj').1]
      simp [intAt, Ne.symm e]
  · rw [e1, World.frozen?_setCells]; exact (h.2 j (by simpa using hj)).2
theorem RowI.ownC {w : World} {g cap : Nat} {l : List Int} (h : RowI w g l) (hl : l.length = 4) (hc : 4 ≤ cap) (hm : cap ≤ maxLen) {B : Nat} (hB : B ≤ g) : OwnI B w (.slice (some ⟨g, 0, none⟩) 4 cap) l :=
  ⟨_, _, by rw [hl], by omega, hm, .inr ⟨g, rfl, hB, fun j hj => (h.2 j hj).2, h.1, fun i hi => by rw [Nat.zero_add]; exact (h.2 i hi).1⟩⟩
end Go.Proofs.YtmpoffepoafblaaGreat

/- The cursor over the bytes of a draw. -/
namespace Go.Proofs.YtmpoffepoafblaaGreat
open Go.RowKit

/- n bytes that lie below block B. -/
def CodeIn (w : World) (B : Nat) (a : Option Addr) (n : Nat) : Prop := n = 0 ∨ ∃ b off, a = some ⟨b, off, none⟩ ∧ b < B ∧ ∀ i, i < n → ∃ z : Nat, z < 256 ∧ w.cell? ⟨b, off + i, none⟩ = some (.int .u8 (z : Int))
theorem CodeIn.below {w w' : World} {B B' : Nat} {a : Option Addr} {n : Nat} (h : CodeIn w B a n) (hb : Below B' w w') (hB : B ≤ B') : CodeIn w' B a n := by
  rcases h with h | ⟨b, off, h1, h2, h3⟩
  · exact .inl h
  · exact .inr ⟨b, off, h1, h2, fun i hi => by
      obtain ⟨z, hz, hc⟩ := h3 i hi
      exact ⟨z, hz, (hb.cell (p := ⟨b, off + i, none⟩) (by show b < B'; omega)).trans hc⟩⟩
theorem CodeIn.mono {w : World} {B B' : Nat} {a : Option Addr} {n : Nat} (h : CodeIn w B a n) (hB : B ≤ B') : CodeIn w B' a n := by
  rcases h with h | ⟨b, off, h1, h2, h3⟩
  · exact .inl h
  · exact .inr ⟨b, off, h1, by omega, h3⟩
/- A cursor at block c. -/
structure CurAt (w : World) (c : Nat) (a : Option Addr) (n cap i : Nat) (h : Int) : Prop where
  c0 : w.cell? ⟨c, 0, none⟩ = some (.slice a n cap)
  c1 : w.cell? ⟨c, 1, none⟩ = some (.int .i64 (i : Int))
  c2 : w.cell? ⟨c, 2, none⟩ = some (.int .i64 h)
  fz : ∀ o, w.frozen? ⟨c, o, none⟩ = false
  lt : c < w.heap.size
  le : i ≤ n
  len : n ≤ 281474976710656
  code : CodeIn w c a n
def Cur (w : World) (c : Nat) : Prop := ∃ a n cap i h, CurAt w c a n cap i h
theorem CurAt.below {w w' : World} {B c : Nat} {a : Option Addr} {n cap i : Nat} {h : Int} (H : CurAt w c a n cap i h) (hb : Below B w w') (hB : c < B) : CurAt w' c a n cap i h :=
  ⟨(hb.cell hB).trans H.c0, (hb.cell hB).trans H.c1, (hb.cell hB).trans H.c2, fun o => (hb.frozen (p := ⟨c, o, none⟩) hB).trans (H.fz o), Nat.lt_of_lt_of_le H.lt hb.size, H.le, H.len, H.code.below hb (by omega)⟩
theorem Cur.below {w w' : World} {B c : Nat} (H : Cur w c) (hb : Below B w w') (hB : c < B) : Cur w' c := by
  obtain ⟨a, n, cap, i, h, H⟩ := H
  exact ⟨a, n, cap, i, h, H.below hb hB⟩
theorem Cur.lt {w : World} {c : Nat} (H : Cur w c) : c < w.heap.size := by
  obtain ⟨a, n, cap, i, h, H⟩ := H
  exact H.lt
theorem i64_and255 (n : Int) : bits .and .i64 n 255 = n % 256 := by
  have h127 : (BitVec.ofInt 64 255).toNat = 2 ^ 8 - 1 := by decide
  have key : (BitVec.ofInt 64 n &&& BitVec.ofInt 64 255).toNat = (n % ((2 ^ 64 : Nat) : Int)).toNat % 2 ^ 8 := by
    rw [BitVec.toNat_and, BitVec.toNat_ofInt, h127, Nat.and_two_pow_sub_one_eq_mod]
  show IntKind.i64.wrap ((BitVec.ofInt 64 n &&& BitVec.ofInt 64 255).toNat : Nat) = n % 256
  rw [key, IntKind.wrap_i64]
  omega
theorem CurAt.drew {w : World} {c : Nat} {a : Option Addr} {n cap i : Nat} {h : Int} (H : CurAt w c a n cap i h) : CurAt w.drew c a n cap i h :=
  H.below (B := w.heap.size) (Below.refl _ w).drew H.lt
theorem CurAt.hash {w : World} {c : Nat} {a : Option Addr} {n cap i : Nat} {h : Int} (H : CurAt w c a n cap i h) (h' : Int) : CurAt (w.setCell ⟨c, 2, none⟩ (.int .i64 h')) c a n cap i h' := by
  have hn : ∀ i j : Nat, i ≠ j → (⟨c, i, none⟩ : Addr) ≠ ⟨c, j, none⟩ := fun i j hij e => hij (by injection e)
  have hb : Below c w (w.setCell ⟨c, 2, none⟩ (.int .i64 h')) := (Below.refl c w).setCell (by simp) _
  exact ⟨(World.cell?_setCell_other _ _ _ _ (hn _ _ (by omega))).trans H.c0, (World.cell?_setCell_other _ _ _ _ (hn _ _ (by omega))).trans H.c1, World.cell?_setCell_same _ _ _ H.c2,
    fun o => by simp [H.fz], by simpa [World.setCell] using H.lt, H.le, H.len, H.code.below hb (Nat.le_refl _)⟩
theorem CurAt.next {w : World} {c : Nat} {a : Option Addr} {n cap i : Nat} {h : Int} (H : CurAt w c a n cap i h) (j : Nat) (hj : j ≤ n) : CurAt (w.setCell ⟨c, 1, none⟩ (.int .i64 (j : Int))) c a n cap j h := by
  have hn : ∀ i j : Nat, i ≠ j → (⟨c, i, none⟩ : Addr) ≠ ⟨c, j, none⟩ := fun i j hij e => hij (by injection e)
  have hb : Below c w (w.setCell ⟨c, 1, none⟩ (.int .i64 (j : Int))) := (Below.refl c w).setCell (by simp) _
  exact ⟨(World.cell?_setCell_other _ _ _ _ (hn _ _ (by omega))).trans H.c0, World.cell?_setCell_same _ _ _ H.c1, (World.cell?_setCell_other _ _ _ _ (hn _ _ (by omega))).trans H.c2,
    fun o => by simp [H.fz], by simpa [World.setCell] using H.lt, hj, H.len, H.code.below hb (Nat.le_refl _)⟩

set_option maxHeartbeats 2000000 in
theorem byte_any (c : Nat) (w : World) (H : Cur w c) :
    Calls Tryz.prog 158 #[.pointer (some ⟨c, 0, none⟩)] w fun e w' => ∃ x : Int, e = .returned (.int .i64 x) ∧ 0 ≤ x ∧ x ≤ 255 ∧ Cur w' c ∧ Turns (fun k => k = c) w w' := by
  obtain ⟨a, n, cap, i, h, H⟩ := H
  have c0 := H.c0
  have c1 := H.c1
  have c2 := H.c2
  have hf := H.fz
  have hlen := H.len
  have hle := H.le
  have hand : ∀ m : Int, bits .and .i64 m 255 = m % 256 := i64_and255
  go_enter Tryz.func158, Tryz.ntmps158
  go_wp2_with fail
  go_region
  generalize wrap64 (wrap64 (h * 6364136223846793005) + 1442695040888963407) = h1
  generalize hx : bits BinOp.xor IntKind.i64 (h1 / 8589934592) (h1 / 35184372088832) % 256 = x0
  have hx0 : 0 ≤ x0 := by omega
  have hx1 : x0 ≤ 255 := by omega
  have H1 := (H.hash h1).drew
  have T1 : Turns (fun k => k = c) w (w.setCell ⟨c, 2, none⟩ (.int .i64 h1)).drew := ((Turns.refl (fun k => k = c) w).setCell (p := ⟨c, 2, none⟩) rfl _).drew
  generalize (w.setCell ⟨c, 2, none⟩ (.int .i64 h1)).drew = w1 at H1 T1 ⊢
  have HT1 : Hid (Turns (fun k => k = c) w w1) := T1
  clear c0 c1 c2 hf hx T1 H
  have d0 := H1.c0
  have d1 := H1.c1
  have d2 := H1.c2
  have df := H1.fz
  have HC1 : Hid (CurAt w1 c a n cap i h1) := H1
  by_cases hi : i < n
  · obtain ⟨b, off, rfl, hb, hz⟩ := H1.code.resolve_left (by omega)
    obtain ⟨z, hz1, hz2⟩ := hz i hi
    have hbc : ¬ b = c := by omega
    have hlt : (i : Int) < (n : Int) := by omega
    have hidx : (0 : Int) ≤ (i : Int) ∧ (i : Int) < (n : Int) := by omega
    have q0 : IntKind.i64.wrap (x0 + (z : Int)) = x0 + (z : Int) := by rw [IntKind.wrap_i64]; omega
    clear hz H1
    go_wp2_with fail
    go_region
    go_wp2_with fail
    go_region
    go_wp2
    go_ret
    refine ⟨_, rfl, by omega, by omega, ⟨_, _, _, _, _, (HC1.out.drew.drew.next (i + 1) (by omega))⟩, ?_⟩
    exact (HT1.out.drew.drew).setCell (p := ⟨c, 1, none⟩) rfl _
  · have hlt : ¬ (i : Int) < (n : Int) := by omega
    clear H1
    go_wp2_with fail
    go_region
    go_wp2
    go_ret
    exact ⟨_, rfl, hx0, hx1, ⟨_, _, _, _, _, HC1.out.drew⟩, HT1.out.drew⟩
end Go.Proofs.YtmpoffepoafblaaGreat

/- What is drawn out of a cursor: numbers below one, one of a list; a new cursor. -/
namespace Go.Proofs.YtmpoffepoafblaaGreat
open Go.RowKit

theorem i64_mask30 (n : Int) : bits .and .i64 n 1073741823 = n % 1073741824 := by
  have h127 : (BitVec.ofInt 64 1073741823).toNat = 2 ^ 30 - 1 := by decide
  have key : (BitVec.ofInt 64 n &&& BitVec.ofInt 64 1073741823).toNat = (n % ((2 ^ 64 : Nat) : Int)).toNat % 2 ^ 30 := by
    rw [BitVec.toNat_and, BitVec.toNat_ofInt, h127, Nat.and_two_pow_sub_one_eq_mod]
  show IntKind.i64.wrap ((BitVec.ofInt 64 n &&& BitVec.ofInt 64 1073741823).toNat : Nat) = n % 1073741824
  rw [key, IntKind.wrap_i64]
  omega
theorem tmod_in {x m : Int} (h : 0 ≤ x) (hm : 0 < m) : 0 ≤ Int.tmod x m ∧ Int.tmod x m < m := by
  rw [Int.tmod_eq_emod_of_nonneg h]
  exact ⟨Int.emod_nonneg _ (by omega), Int.emod_lt_of_pos _ hm⟩
theorem emod_in {x m : Int} (hm : 0 < m) : 0 ≤ x % m ∧ x % m < m := ⟨Int.emod_nonneg _ (by omega), Int.emod_lt_of_pos _ hm⟩

set_option maxHeartbeats 2000000 in
theorem below_any (c : Nat) (n : Int) (w : World) (H : Cur w c) :
    Calls Tryz.prog 82 #[.pointer (some ⟨c, 0, none⟩), .int .i64 n] w fun e w' => ∃ x : Int, e = .returned (.int .i64 x) ∧ 0 ≤ x ∧ (0 < n → x < n) ∧ Cur w' c ∧ Turns (fun k => k = c) w w' := by
  have HC : Hid (Cur w c) := H
  clear H
  by_cases h0 : n ≤ 0
  · go_enter Tryz.func82, Tryz.ntmps82
    go_wp2_with fail
    go_ret
    exact ⟨0, rfl, by omega, by omega, HC.out, Turns.refl _ _⟩
  · have h0' : ¬ n ≤ 0 := h0
    have hn0 : ¬ n = 0 := by omega
    by_cases h1 : n ≤ 256
    · go_enter Tryz.func82, Tryz.ntmps82
      go_wp2_with (go_at_call 158; refine (byte_any c _ HC.out).mono ?_; rintro e w1 ⟨x, rfl, hx0, hx1, hC1, hT1⟩)
      go_ret
      exact ⟨_, rfl, (by first | exact (emod_in (by omega)).1 | exact (tmod_in hx0 (by omega)).1), fun hn => (by first | exact (emod_in (by omega)).2 | exact (tmod_in hx0 (by omega)).2), hC1, hT1⟩
    · go_enter Tryz.func82, Tryz.ntmps82
      go_wp2_with fail
      refine (byte_any c _ HC.out).mono ?_
      rintro e w1 ⟨x, rfl, hx0, hx1, hC1, hT1⟩
      have HC1 : Hid (Cur w1 c) := hC1
      have HT1 : Hid (Turns (fun k => k = c) w w1) := hT1
      clear hC1 hT1
      go_wp2_with fail
      refine (byte_any c _ HC1.out).mono ?_
      rintro e w2 ⟨y, rfl, hy0, hy1, hC2, hT2⟩
      have HC2 : Hid (Cur w2 c) := hC2
      have HT2 : Hid (Turns (fun k => k = c) w w2) := HT1.out.trans hT2
      clear hC2 hT2
      go_wp2_with fail
      refine (byte_any c _ HC2.out).mono ?_
      rintro e w3 ⟨z, rfl, hz0, hz1, hC3, hT3⟩
      have HC3 : Hid (Cur w3 c) := hC3
      have HT3 : Hid (Turns (fun k => k = c) w w3) := HT2.out.trans hT3
      clear hC3 hT3
      go_wp2_with fail
      refine (byte_any c _ HC3.out).mono ?_
      rintro e w4 ⟨t, rfl, ht0, ht1, hC4, hT4⟩
      have HC4 : Hid (Cur w4 c) := hC4
      have HT4 : Hid (Turns (fun k => k = c) w w4) := HT3.out.trans hT4
      clear hC4 hT4
      go_wp2
      go_ret
      exact ⟨_, rfl, (by first | exact (emod_in (by omega)).1 | exact (tmod_in (by omega) (by omega)).1), fun hn => (by first | exact (emod_in (by omega)).2 | exact (tmod_in (by omega) (by omega)).2), HC4.out, HT4.out⟩

/- A list of numbers at the head of block g. -/
def ListAt (w : World) (g m : Nat) (P : Int → Prop) : Prop := g < w.heap.size ∧ ∀ j, j < m → ∃ y : Int, P y ∧ w.cell? ⟨g, j, none⟩ = some (.int .i64 y)
theorem ListAt.turns {w w' : World} {S : Nat → Prop} {g m : Nat} {P : Int → Prop} (h : ListAt w g m P) (ht : Turns S w w') (hS : ¬ S g) : ListAt w' g m P :=
  ⟨Nat.lt_of_lt_of_le h.1 ht.size, fun j hj => by obtain ⟨y, hy, hc⟩ := h.2 j hj; exact ⟨y, hy, (ht.cell h.1 hS).trans hc⟩⟩

set_option maxHeartbeats 2000000 in
theorem pick_any (c g m : Nat) (P : Int → Prop) (w : World) (hm : 0 < m) (hm' : m ≤ 1000) (hg : ¬ g = c) (H : Cur w c) (L : ListAt w g m P) :
    Calls Tryz.prog 157 #[.pointer (some ⟨c, 0, none⟩), .slice (some ⟨g, 0, none⟩) m m] w fun e w' => ∃ y : Int, e = .returned (.int .i64 y) ∧ P y ∧ Cur w' c ∧ Turns (fun k => k = c) w w' := by
  have HC : Hid (Cur w c) := H
  have HL : Hid (ListAt w g m P) := L
  clear H L
  go_enter Tryz.func157, Tryz.ntmps157
  go_wp2_with fail
  refine (below_any c _ _ HC.out).mono ?_
  rintro e w1 ⟨x, rfl, hx0, hx1, hC1, hT1⟩
  have hx2 := hx1 (by omega)
  obtain ⟨k, rfl⟩ : ∃ k : Nat, x = (k : Int) := ⟨x.toNat, by omega⟩
  have hk : k < m := by omega
  have hidx : (0 : Int) ≤ (k : Int) ∧ (k : Int) < (m : Int) := by omega
  obtain ⟨y, hy, hc⟩ := (HL.out.turns hT1 hg).2 k hk
  have HY : Hid (P y) := hy
  have HC1 : Hid (Cur w1 c) := hC1
  have HT1 : Hid (Turns (fun k => k = c) w w1) := hT1
  clear hx1 hx2 hC1 hT1 hy
  go_wp2
  go_ret
  exact ⟨y, rfl, HY.out, HC1.out, HT1.out⟩

set_option maxHeartbeats 2000000 in
theorem new_any (a : Option Addr) (n cap : Nat) (w : World) (hn : n ≤ 281474976710656) (hC : CodeIn w w.heap.size a n) :
    Calls Tryz.prog 77 #[.slice a n cap] w fun e w' => ∃ c, e = .returned (.pointer (some ⟨c, 0, none⟩)) ∧ w.heap.size ≤ c ∧ Cur w' c ∧ Below w.heap.size w w' := by
  have HC : Hid (CodeIn w w.heap.size a n) := hC
  clear hC
  have hand : ∀ m : Int, bits .and .i64 m 1073741823 = m % 1073741824 := i64_mask30
  go_enter Tryz.func77, Tryz.ntmps77
  go_wp2
  go_loop [3, 4] (fun h i => ∃ (k : Nat) (x : Int), k ≤ n ∧ i = .int .i64 k ∧ h = .int .i64 x) (fun _ i => n - (intOf i).toNat)
  case atStart => exact ⟨0, _, Nat.zero_le _, rfl, rfl⟩
  case round =>
    obtain ⟨k, x, hk, rfl, rfl⟩ := hrel
    by_cases hlt : k < n
    · by_cases h4 : k < 4000
      · obtain ⟨b, off, rfl, hb, hz⟩ := HC.out.resolve_left (by omega)
        obtain ⟨z, hz1, hz2⟩ := hz k hlt
        have a1 : (k : Int) < (n : Int) := by omega
        have a2 : (k : Int) < 4000 := by omega
        have hidx : (0 : Int) ≤ (k : Int) ∧ (k : Int) < (n : Int) := by omega
        clear hz
        go_wp2
        go_round
        case rel => exact ⟨k + 1, _, by omega, by go_num, rfl⟩
        case measure => simp [intOf]; omega
      · have a1 : (k : Int) < (n : Int) := by omega
        have a2 : ¬ (k : Int) < 4000 := by omega
        go_wp2
        go_ret
        refine ⟨_, rfl, Nat.le_refl _, ⟨a, n, cap, 0, x, ?_⟩, (Below.refl _ w).alloc (Nat.le_refl _) _⟩
        exact ⟨by simp, by simp, by simp, fun o => by simp, by simp, Nat.zero_le _, hn, HC.out.below ((Below.refl _ w).alloc (Nat.le_refl _) _) (Nat.le_refl _)⟩
    · have a1 : ¬ (k : Int) < (n : Int) := by omega
      go_wp2
      go_ret
      refine ⟨_, rfl, Nat.le_refl _, ⟨a, n, cap, 0, x, ?_⟩, (Below.refl _ w).alloc (Nat.le_refl _) _⟩
      exact ⟨by simp, by simp, by simp, fun o => by simp, by simp, Nat.zero_le _, hn, HC.out.below ((Below.refl _ w).alloc (Nat.le_refl _) _) (Nat.le_refl _)⟩
end Go.Proofs.YtmpoffepoafblaaGreat

/- Vectors that are drawn. -/
namespace Go.Proofs.YtmpoffepoafblaaGreat
open Go.RowKit
theorem Cur.alloc {w : World} {c : Nat} (H : Cur w c) (o : Obj) : Cur (w.alloc o) c := H.below ((Below.refl _ w).alloc (Nat.le_refl _) o) H.lt
theorem Cur.set {w : World} {c : Nat} (H : Cur w c) {p : Addr} (hp : c < p.block) (v : Value) : Cur (w.setCell p v) c := H.below ((Below.refl (c + 1) w).setCell (by omega) v) (by omega)
theorem Turns.old {S S' : Nat → Prop} {w w' : World} (h : Turns S w w') (hS : ∀ k, k < w.heap.size → S k → S' k) : Turns S' w w' := ⟨h.os, h.tape, h.output, h.size, fun k hk hn => h.block k hk (fun e => hn (hS k hk e))⟩
theorem Turns.grownBy {w w' : World} {c : Nat} (h : Turns (fun k => k = c) w w') : w.grownBy w' (some c) := ⟨h.os, h.tape, h.output, h.size, fun k hk hr => h.block k hk (fun e => hr (by rw [e]))⟩
theorem Turns.belowT {S : Nat → Prop} {a b c : World} (h : Turns S a b) (k : Below a.heap.size b c) : Turns S a c :=
  ⟨k.os.trans h.os, k.tape.trans h.tape, k.output.trans h.output, Nat.le_trans h.size k.size, fun i hi hS => (k.block i hi).trans (h.block i hi hS)⟩
theorem own_turnsC {w w' : World} {B c n : Nat} {v : Value} {xs : List Value} (h : w.ownsRow B 3 1 v n xs) (ht : Turns (fun k => k = c) w w') (hc : c < B) : w'.ownsRow B 3 1 v n xs := by
  refine h.kept ht.grownBy (.inr fun e => ?_)
  have := (h.lt c e).1
  omega
theorem OwnI.turns {B c : Nat} {w w' : World} {x : Value} {l : List Int} (h : OwnI B w x l) (ht : Turns (fun k => k = c) w w') (hc : c < B) : OwnI B w' x l := h.other hc ht.grownBy
theorem RowI.turns {c g : Nat} {w w' : World} {l : List Int} (h : RowI w g l) (ht : Turns (fun k => k = c) w w') (hc : ¬ g = c) : RowI w' g l :=
  ⟨Nat.lt_of_lt_of_le h.1 ht.size, fun j hj => by rw [ht.cell h.1 hc, ht.frozen h.1 hc]; exact h.2 j hj⟩
theorem lst5 (w : World) (T : TypeId) (y0 y1 y2 y3 y4 : Int) : ListAt (w.alloc (.cells #[.int .i64 y0, .int .i64 y1, .int .i64 y2, .int .i64 y3, .int .i64 y4] T)) w.heap.size 5 (fun _ => True) :=
  ⟨by simp, fun j hj => by
    have h5 : j = 0 ∨ j = 1 ∨ j = 2 ∨ j = 3 ∨ j = 4 := by omega
    rcases h5 with rfl | rfl | rfl | rfl | rfl <;> simp⟩
theorem lst2 (w : World) (T : TypeId) (y0 y1 : Int) : ListAt (w.alloc (.cells #[.int .i64 y0, .int .i64 y1] T)) w.heap.size 2 (fun _ => True) :=
  ⟨by simp, fun j hj => by
    have h2 : j = 0 ∨ j = 1 := by omega
    rcases h2 with rfl | rfl <;> simp⟩
set_option maxHeartbeats 2000000 in
theorem once_any (c : Nat) (n : Int) (w : World) (H : Cur w c) :
    Calls Tryz.prog 83 #[.pointer (some ⟨c, 0, none⟩), .int .i64 n] w fun e w' => ∃ x : Bool, e = .returned (.bool x) ∧ Cur w' c ∧ Turns (fun k => k = c) w w' := by
  have HC : Hid (Cur w c) := H
  clear H
  go_enter Tryz.func83, Tryz.ntmps83
  go_wp2_with fail
  refine (below_any c _ _ HC.out).mono ?_
  rintro e w1 ⟨x, rfl, hx0, _, hC1, hT1⟩
  go_wp2
  go_ret
  exact ⟨_, rfl, hC1, hT1⟩
set_option maxRecDepth 100000 in
set_option maxHeartbeats 4000000 in
theorem l3_any (c : Nat) (w : World) (H : Cur w c) :
    Calls Tryz.prog 79 #[.pointer (some ⟨c, 0, none⟩)] w fun e w' => ∃ (v : Value) (l : List Int), e = .returned v ∧ l.length = 4 ∧ OwnI w.heap.size w' v l ∧ Cur w' c ∧ Turns (fun k => k = c) w w' := by
  have HC : Hid (Cur w c) := H
  have hcw : c < w.heap.size := H.lt
  clear H
  obtain ⟨i0, hi, hz0, hz1, hz2⟩ := info_parts info3
  go_enter Tryz.func79, Tryz.ntmps79
  go_wp2
  go_loopw [3, 4] (fun o i wr => ∃ (k : Nat) (v : Value) (l : List Int), k ≤ 4 ∧ v = o ∧ i = .int .i64 k ∧ Hid (l.length = k) ∧ wr.ownsRow w.heap.size 3 1 o k (intCells l) ∧ Cur wr c ∧ Turns (fun k => k = c) w wr) (fun _ i _ => 4 - (intOf i).toNat)
  case atStart => exact ⟨0, _, [], Nat.zero_le _, rfl, rfl, rfl, World.ownsRow_nil w _ 3 1, HC.out, Turns.refl _ _⟩
  case round =>
    obtain ⟨k, o, l, hk, rfl, rfl, HK, hR, hC, hT⟩ := hrel
    have HR : Hid (wr.ownsRow w.heap.size 3 1 o k (intCells l)) := hR
    have HC1 : Hid (Cur wr c) := hC
    have HT : Hid (Turns (fun k => k = c) w wr) := hT
    have hs : w.heap.size ≤ wr.heap.size := hT.size
    clear hR hC hT
    by_cases hlt : k < 4
    · have hki : (k : Int) < 4 := by omega
      have HL5 : Hid (ListAt (wr.alloc (.cells #[.int .i64 (-1), .int .i64 0, .int .i64 1, .int .i64 0, .int .i64 1] 3)) wr.heap.size 5 (fun _ => True)) := lst5 wr 3 (-1) 0 1 0 1
      have HCa : Hid (Cur (wr.alloc (.cells #[.int .i64 (-1), .int .i64 0, .int .i64 1, .int .i64 0, .int .i64 1] 3)) c) := HC1.out.alloc _
      have HRa : Hid ((wr.alloc (.cells #[.int .i64 (-1), .int .i64 0, .int .i64 1, .int .i64 0, .int .i64 1] 3)).ownsRow w.heap.size 3 1 o k (intCells l)) := HR.out.alloc _
      have HTa : Hid (Turns (fun k => k = c) w (wr.alloc (.cells #[.int .i64 (-1), .int .i64 0, .int .i64 1, .int .i64 0, .int .i64 1] 3))) := HT.out.alloc _
      clear HR HC1 HT
      go_wp2_with fail
      refine (pick_any c wr.heap.size 5 _ _ (by omega) (by omega) (by omega) HCa.out HL5.out).mono ?_
      rintro e w2 ⟨y, rfl, _, hC2, hT2⟩
      have HC2 : Hid (Cur w2 c) := hC2
      have HT2 : Hid (Turns (fun k => k = c) w w2) := HTa.out.trans hT2
      have HR2 : Hid (w2.ownsRow w.heap.size 3 1 o k (intCells l)) := own_turnsC HRa.out hT2 hcw
      have hs2 : w.heap.size ≤ w2.heap.size := HT2.out.size
      clear hC2 hT2 HL5 HCa HRa HTa
      go_wp2_with (at_builtin; refine wpList_append_own _ rfl _ _ 22 rfl w.heap.size 3 i0 (.int .i64 0) 1 8 Tryz.underlying22 hi hz0 hz1 hz2 rfl (by decide) o _ _ rfl (HR2.out.alloc _) ⟨w2.heap.size, 0, none⟩ 1 1 [.int .i64 y] rfl rfl (fun j u hu => by (match j, hu with | 0, hu => simp at hu; subst hu; simp [Addr.add] | (j + 1), hu => simp at hu)) (fun u hu => by simp at hu; subst hu; rfl) (by unfold maxLen; omega) (by omega) (by simp; omega) ?_; intro v' w3 hown hgrow hnil)
      have hg : ∀ j, o.ownBlock = some j → w.heap.size ≤ j := fun j e => (HR2.out.lt j e).1
      have hB3 : Below w.heap.size (w2.alloc (.cells #[.int .i64 y] 3)) w3 := (Below.refl _ _).grown hgrow (by simp; omega) hg
      go_roundw
      case rel =>
        refine ⟨k + 1, _, l ++ [y], by omega, rfl, by go_num, by show _ = _; simp [HK.out], ?_, (HC2.out.alloc _).below hB3 hcw, ?_⟩
        · rw [show intCells (l ++ [y]) = intCells l ++ [.int .i64 y] by simp [intCells]]
          exact hown
        · exact (HT2.out.alloc _).belowT hB3
      case measure => simp [intOf]; omega
    · have HO : Hid (OwnI w.heap.size wr o l) := OwnI.of_row (by rw [HK.out]; exact HR.out)
      have hk4 : k = 4 := by omega
      subst hk4
      clear HR
      go_wp2_with fail
      refine (once_any c _ _ HC1.out).mono ?_
      rintro e w2 ⟨x, rfl, hC2, hT2⟩
      have HC2 : Hid (Cur w2 c) := hC2
      have HT2 : Hid (Turns (fun k => k = c) w w2) := HT.out.trans hT2
      have HO2 : Hid (OwnI w.heap.size w2 o l) := HO.out.turns hT2 hcw
      clear hC2 hT2 HT HC1 HO
      cases x with
      | false =>
        go_wp2
        go_ret
        exact ⟨o, l, rfl, HK.out, HO2.out, HC2.out, HT2.out⟩
      | true =>
        obtain ⟨g, cap, hv, hc1, hc2, hBg, hRow⟩ := HO2.out.four HK.out
        subst hv
        have HRow : Hid (RowI w2 g l) := hRow
        clear hRow HO2
        have HL2 : Hid (ListAt (w2.alloc (.cells #[.int .i64 (-2), .int .i64 2] 3)) w2.heap.size 2 (fun _ => True)) := lst2 w2 3 (-2) 2
        have hs2 : w.heap.size ≤ w2.heap.size := HT2.out.size
        go_wp2_with fail
        refine (pick_any c w2.heap.size 2 _ _ (by omega) (by omega) (by omega) (HC2.out.alloc _) HL2.out).mono ?_
        rintro e w3 ⟨y, rfl, _, hC3, hT3⟩
        have HC3 : Hid (Cur w3 c) := hC3
        have HT3 : Hid (Turns (fun k => k = c) w w3) := (HT2.out.alloc _).trans hT3
        have HR3 : Hid (RowI w3 g l) := RowI.turns (HRow.out.below ((Below.refl _ w2).alloc (Nat.le_refl _) _) HRow.out.1) hT3 (by omega)
        have f0 := (HR3.out.2 0 (by rw [HK.out]; omega)).1
        have f1 := (HR3.out.2 0 (by rw [HK.out]; omega)).2
        clear hC3 hT3 HC2 HT2 HRow HL2
        go_wp2
        go_ret
        exact ⟨_, l.set 0 y, rfl, by simp [HK.out], (HR3.out.put (by rw [HK.out]; omega) y).ownC (by simp [HK.out]) hc1 hc2 hBg, HC3.out.set (p := ⟨g, 0, none⟩) (by show c < g; omega) _, HT3.out.belowT ((Below.refl _ w3).setCell (p := ⟨g, 0, none⟩) hBg _)⟩

set_option maxRecDepth 100000 in
set_option maxHeartbeats 4000000 in
theorem l8two_any (a : Option Addr) (n cap : Nat) (w : World) (hn : n ≤ 281474976710656) (hC : CodeIn w w.heap.size a n) :
    Calls Tryz.prog 89 #[.slice a n cap] w fun e w' => ∃ (u v : Value) (l r : List Int), e = .returned (.tuple #[u, v]) ∧ l.length = 4 ∧ r.length = 4 ∧ OwnI w.heap.size w' u l ∧ OwnI w.heap.size w' v r ∧ Below w.heap.size w w' := by
  have HC : Hid (CodeIn w w.heap.size a n) := hC
  clear hC
  obtain ⟨i0, hi, hz0, hz1, hz2⟩ := info_parts info3
  go_enter Tryz.func89, Tryz.ntmps89
  go_wp2_with fail
  refine (new_any a n cap _ hn HC.out).mono ?_
  rintro e w1 ⟨c, rfl, hcw, hC1, hB1⟩
  have HC1 : Hid (Cur w1 c) := hC1
  have HB1 : Hid (Below w.heap.size w w1) := hB1
  have hc1 : c < w1.heap.size := hC1.lt
  clear hC1 hB1 HC
  go_wp2_with fail
  refine (l3_any c _ HC1.out).mono ?_
  rintro e w2 ⟨u, l, rfl, hl, hO2, hC2, hT2⟩
  have HL : Hid (l.length = 4) := hl
  have HO2 : Hid (OwnI w1.heap.size w2 u l) := hO2
  have HC2 : Hid (Cur w2 c) := hC2
  have HT2 : Hid (Turns (fun k => k = c) w1 w2) := hT2
  have hz2' : w1.heap.size ≤ w2.heap.size := hT2.size
  clear hl hO2 hC2 hT2 HC1
  go_wp2_with fail
  refine (l3_any c _ HC2.out).mono ?_
  rintro e w3 ⟨v, r, rfl, hr, hO3, hC3, hT3⟩
  have HR : Hid (r.length = 4) := hr
  have HP3 : Hid (OwnI w1.heap.size w3 u l) := HO2.out.turns hT3 hc1
  have HO3 : Hid (OwnI w2.heap.size w3 v r) := hO3
  have HC3 : Hid (Cur w3 c) := hC3
  have HT3 : Hid (Turns (fun k => k = c) w1 w3) := HT2.out.trans hT3
  have hz3' : w2.heap.size ≤ w3.heap.size := hT3.size
  clear hr hO3 hC3 hT3 HC2 HO2 HT2
  go_wp2_with fail
  refine (once_any c _ _ HC3.out).mono ?_
  rintro e w4 ⟨x, rfl, hC4, hT4⟩
  have HP4 : Hid (OwnI w1.heap.size w4 u l) := HP3.out.turns hT4 hc1
  have HO4 : Hid (OwnI w2.heap.size w4 v r) := HO3.out.turns hT4 (by omega)
  have HC4 : Hid (Cur w4 c) := hC4
  have HT4 : Hid (Turns (fun k => k = c) w1 w4) := HT3.out.trans hT4
  have hz4' : w3.heap.size ≤ w4.heap.size := hT4.size
  clear hC4 hT4 HC3 HP3 HO3 HT3
  have HB4 : Hid (Below w.heap.size w w4) := HB1.out.trans (HT4.out.to_below (fun k hk => by omega) HB1.out.size)
  have hzw : w.heap.size ≤ w1.heap.size := HB1.out.size
  cases x with
  | false =>
    go_wp2
    go_ret2
    exact ⟨u, v, l, r, rfl, HL.out, HR.out, HP4.out.mono hzw, HO4.out.mono (by omega), HB4.out⟩
  | true =>
    obtain ⟨g, cap', hv, _, _, hBg, hRow⟩ := HP4.out.four HL.out
    subst hv
    have HI4 : Hid (IntsAt (w4.alloc (.cells #[] 3)) g 0 l) := IntsAt.below (show IntsAt w4 g 0 l from ⟨hRow.1, fun i hi => by rw [Nat.zero_add]; exact (hRow.2 i hi).1⟩) ((Below.refl _ w4).alloc (Nat.le_refl _) _) hRow.1
    clear hRow
    go_wp2_with (at_builtin; refine wpList_append_own _ rfl _ _ 22 rfl w4.heap.size 3 i0 _ 1 8 Tryz.underlying22 hi hz0 hz1 hz2 rfl (by decide) (.slice (some ⟨w4.heap.size, 0, none⟩) 0 0) 0 [] rfl (rowI_empty w4) ⟨g, 0, none⟩ 4 cap' (intCells l) rfl (by rw [intCells_length, HL.out]) HI4.out.cells (intCells_one l) (by unfold maxLen; omega) (by omega) (by simp) ?_; intro v' w5 hown hgrow hnil)
    have hb5 : Below w4.heap.size w4 w5 := ((Below.refl _ w4).alloc (Nat.le_refl _) _).grown hgrow (by simp) (fun k e => by cases e; exact Nat.le_refl _)
    have hO5 : OwnI w4.heap.size w5 v' l := OwnI.of_row (by rw [HL.out]; simpa using hown)
    obtain ⟨g5, cap5, hv5, hk1, hk2, hBg5, hRow5⟩ := hO5.four HL.out
    subst hv5
    have HC5 : Hid (Cur w5 c) := HC4.out.below hb5 HC4.out.lt
    have HP5 : Hid (OwnI w1.heap.size w5 (.slice (some ⟨g, 0, none⟩) 4 cap') l) := HP4.out.below hb5
    have HB5 : Hid (Below w.heap.size w w5) := HB4.out.trans (hb5.mono HB4.out.size)
    have HR5 : Hid (RowI w5 g5 l) := hRow5
    have hgg : g < w4.heap.size := by
      obtain ⟨g', cap'', he, _, _, _, hr⟩ := HP4.out.four HL.out
      cases he
      exact hr.1
    have hz5' : w4.heap.size ≤ w5.heap.size := hb5.size
    clear hown hgrow hnil hb5 hO5 hRow5 HI4 HC4 HP4 HO4 HB4 HT4
    refine (below_any c _ _ HC5.out).mono ?_
    rintro e w6 ⟨x, rfl, hx0, hx1, hC6, hT6⟩
    have hx2 := hx1 (by omega)
    obtain ⟨k, rfl⟩ : ∃ k : Nat, x = (k : Int) := ⟨x.toNat, by omega⟩
    have HC6 : Hid (Cur w6 c) := hC6
    have HP6 : Hid (OwnI w1.heap.size w6 (.slice (some ⟨g, 0, none⟩) 4 cap') l) := HP5.out.turns hT6 hc1
    have HB6 : Hid (Below w.heap.size w w6) := HB5.out.trans (hT6.to_below (fun k hk => by omega) HB5.out.size)
    have HR6 : Hid (RowI w6 g5 l) := HR5.out.turns hT6 (by omega)
    clear hC6 hT6 HC5 HP5 HB5 HR5 hx1
    go_wp2_with fail
    refine (below_any c _ _ HC6.out).mono ?_
    rintro e w7 ⟨y, rfl, hy0, hy1, hC7, hT7⟩
    have hy2 := hy1 (by omega)
    have HP7 : Hid (OwnI w1.heap.size w7 (.slice (some ⟨g, 0, none⟩) 4 cap') l) := HP6.out.turns hT7 hc1
    have HB7 : Hid (Below w.heap.size w w7) := HB6.out.trans (hT7.to_below (fun k hk => by omega) HB6.out.size)
    have HR7 : Hid (RowI w7 g5 l) := HR6.out.turns hT7 (by omega)
    have hk4 : k < 4 := by omega
    have f0 := (HR7.out.2 k (by rw [HL.out]; exact hk4)).1
    have f1 := (HR7.out.2 k (by rw [HL.out]; exact hk4)).2
    have hidx : (0 : Int) ≤ (k : Int) ∧ (k : Int) < 4 := by omega
    clear hC7 hT7 HC6 HP6 HB6 HR6 hy1
    go_wp2
    go_ret2
    refine ⟨.slice (some ⟨g, 0, none⟩) 4 cap', .slice (some ⟨g5, 0, none⟩) 4 cap5, l, l.set k (y - 1), rfl, HL.out, by simp [HL.out], ?_, (HR7.out.put (by rw [HL.out]; exact hk4) (y - 1)).ownC (by simp [HL.out]) hk1 hk2 (by omega), HB7.out.setCell (p := ⟨g5, k, none⟩) (by show w.heap.size ≤ g5; omega) _⟩
    obtain ⟨g', cap'', he, q1, q2, q3, hrow⟩ := HP7.out.four HL.out
    cases he
    have hne : g ≠ g5 := by omega
    have hR8 : RowI (w7.setCell ⟨g5, k, none⟩ (.int .i64 (y - 1))) g l := ⟨by simpa using hrow.1, fun j hj => by
      have hb : (w7.setCell ⟨g5, k, none⟩ (.int .i64 (y - 1))).heap[g]? = w7.heap[g]? := Below.heap_setCell _ _ _ _ hne
      rw [World.cell?_of_block (w := w7) hb, World.frozen?_of_block (w := w7) hb]
      exact hrow.2 j hj⟩
    exact hR8.ownC HL.out q1 q2 (by omega)

set_option maxHeartbeats 1000000 in
theorem drawMeet_any (a : Option Addr) (n cap : Nat) (w : World) (hn : n ≤ 281474976710656) (hC : CodeIn w w.heap.size a n) :
    Calls Tryz.prog 28 #[.slice a n cap] w fun e w' => ∃ (u v : Value) (l r : List Int), e = .returned (.tuple #[u, v]) ∧ l.length = 4 ∧ r.length = 4 ∧ OwnI w.heap.size w' u l ∧ OwnI w.heap.size w' v r ∧ Below w.heap.size w w' := by
  have HC : Hid (CodeIn w w.heap.size a n) := hC
  clear hC
  go_enter Tryz.func28, Tryz.ntmps28
  go_wp2_with fail
  refine (l8two_any a n cap _ hn HC.out).mono ?_
  rintro e w1 ⟨u, v, l, r, rfl, hl, hr, h1, h2, h3⟩
  have H : Hid (l.length = 4 ∧ r.length = 4 ∧ OwnI w.heap.size w1 u l ∧ OwnI w.heap.size w1 v r ∧ Below w.heap.size w w1) := ⟨hl, hr, h1, h2, h3⟩
  clear hl hr h1 h2 h3
  go_wp2
  go_ret2
  exact ⟨u, v, l, r, rfl, H.out⟩
end Go.Proofs.YtmpoffepoafblaaGreat

