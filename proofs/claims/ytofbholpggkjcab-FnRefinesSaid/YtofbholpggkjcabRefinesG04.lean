/- VNum, VDecS, NCur -/
import Derived.Test.YtofbholpggkjcabRefinesG02
import Derived.Test.YtofbholpggkjcabRefinesG03
import Derived.Lib.OthersKept
import Derived.Test.YtofbholpggkjcabRefinesG00
import Derived.BigRegion
/- Vectors: the program's copyOf and numbers, and numberOf. -/
namespace Go.Proofs.Ytofbholpggkjcab
open Go.RowKit
theorem intCells_length (l : List Int) : (intCells l).length = l.length := by simp [intCells]
theorem intCells_one (l : List Int) : ∀ u ∈ intCells l, u.oneCell' = true := by
  intro u hu
  simp only [intCells, List.mem_map] at hu
  obtain ⟨z, _, rfl⟩ := hu
  rfl
theorem add_none (b off n : Nat) : (⟨b, off, none⟩ : Addr).add n = ⟨b, off + n, none⟩ := by
  unfold Addr.add
  split <;> simp_all
theorem IntsAt.cells {w : World} {b off : Nat} {l : List Int} (h : IntsAt w b off l) : ∀ (j : Nat) (u : Value), (intCells l)[j]? = some u → w.cell? ((⟨b, off, none⟩ : Addr).add j) = some u := by
  intro j u hu
  obtain ⟨hj, rfl⟩ := List.getElem?_eq_some_iff.1 hu
  rw [intCells_length] at hj
  rw [add_none, h.2 j hj]
  simp [intCells, intAt, hj]
set_option maxHeartbeats 1000000 in
theorem copyI_any (b off cap : Nat) (l : List Int) (w : World) (hl : l.length ≤ 1048576) (hI : IntsAt w b off l) :
    Calls Try.prog 30 #[.slice (some ⟨b, off, none⟩) l.length cap] w fun e w' => ∃ x, e = .returned x ∧ OwnI w.heap.size w' x l ∧ Below w.heap.size w w' := by
  obtain ⟨i0, hi, hz0, hz1, hz2⟩ := info_parts info3
  have HI : Hid (IntsAt w b off l) := hI
  clear hI
  go_enter Try.func30, Try.ntmps30
  go_wp2_with (at_builtin; refine wpList_append_own _ rfl _ _ 22 rfl w.heap.size 3 i0 _ 1 8 Try.underlying22 hi hz0 hz1 hz2 rfl (by decide) (.slice none 0 0) 0 [] rfl (World.ownsRow_nil w _ 3 1) ⟨b, off, none⟩ l.length cap (intCells l) rfl (by rw [intCells_length]; omega) HI.out.cells (intCells_one l) (by unfold maxLen; omega) (by omega) (Nat.le_refl _) ?_; intro v' w1 hown hgrow hnil)
  go_ret
  refine ⟨_, rfl, OwnI.of_row (by simpa using hown), (Below.refl _ w).grown hgrow (Nat.le_refl _) (fun k e => by cases e)⟩
set_option maxHeartbeats 1000000 in
theorem numbers_any (a b c d : Int) (w : World) :
    Calls Try.prog 25 #[vec a b c d] w fun e w' => ∃ x, e = .returned x ∧ OwnI w.heap.size w' x [a, b, c, d] ∧ Below w.heap.size w w' := by
  have hI : IntsAt (w.alloc (cell4 a b c d)) w.heap.size 0 [a, b, c, d] := (V4.new w a b c d).ints
  have H : Hid (Calls Try.prog 30 #[.slice (some ⟨w.heap.size, 0, none⟩) 4 4] (w.alloc (cell4 a b c d)) fun e w' => ∃ x, e = .returned x ∧ OwnI (w.alloc (cell4 a b c d)).heap.size w' x [a, b, c, d] ∧ Below (w.alloc (cell4 a b c d)).heap.size (w.alloc (cell4 a b c d)) w') := copyI_any _ 0 4 [a, b, c, d] _ (by simp) hI
  clear hI
  go_enter Try.func25, Try.ntmps25
  go_wp2_with fail
  refine H.out.mono ?_
  rintro e w1 ⟨x, rfl, ho, hb⟩
  have hB : Below w.heap.size w w1 := ((Below.refl _ w).alloc (Nat.le_refl _) _).trans (hb.mono (by simp))
  have hO : OwnI w.heap.size w1 x [a, b, c, d] := ho.mono (by simp)
  clear ho hb
  go_wp2
  go_ret
  exact ⟨_, rfl, hO, hB⟩
abbrev abc : ByteArray := ⟨#[63, 110, 121]⟩
/- What numberOf tells of a letter. -/
def numOfR (z : Int) : Value := if z = 63 then .tuple #[.int .i64 (-1), .bool true] else if z = 110 then .tuple #[.int .i64 0, .bool true] else if z = 121 then .tuple #[.int .i64 1, .bool true] else .tuple #[.int .i64 0, .bool false]
end Go.Proofs.Ytofbholpggkjcab

/- Vectors: both Decide. -/
namespace Go.Proofs.Ytofbholpggkjcab
open Go.RowKit
def decB (l : List Int) (d v : Int) : Bool := vok l && (decide (0 ≤ d) && decide (d ≤ 3)) && (decide (0 ≤ v) && decide (v ≤ 1))
def decF (l : List Int) (d v : Int) : Bool := decB l d v && decide (intAt l d.toNat = -1)
def decR (l : List Int) (d v : Int) : List Int := if decB l d v = true then (if intAt l d.toNat = -1 then l.set d.toNat v else l) else []
theorem decB_iff {l : List Int} {d v : Int} : decB l d v = true ↔ vok l = true ∧ 0 ≤ d ∧ d ≤ 3 ∧ 0 ≤ v ∧ v ≤ 1 := by
  simp [decB, and_assoc]
theorem dec_no {l : List Int} {d v : Int} (h : decB l d v = false) : decF l d v = false ∧ decR l d v = [] := by simp [decF, decR, h]
theorem decR_length (l : List Int) (d v : Int) : (decR l d v).length ≤ l.length := by
  unfold decR
  split
  · split
    · rw [List.length_set]; exact Nat.le_refl _
    · exact Nat.le_refl _
  · exact Nat.zero_le _
theorem rowI_empty (w : World) : (w.alloc (.cells #[] 3)).ownsRow w.heap.size 3 1 (.slice (some ⟨w.heap.size, 0, none⟩) 0 0) 0 [] :=
  ⟨rfl, .inr ⟨w.heap.size, 0, #[], rfl, Nat.le_refl _, (MapKept.heap_alloc w _).1, Nat.le_refl _, Nat.zero_le _, rfl, rfl⟩⟩
theorem OwnI.four {B : Nat} {w : World} {x : Value} {l : List Int} (h : OwnI B w x l) (hl : l.length = 4) : ∃ g cap, x = .slice (some ⟨g, 0, none⟩) 4 cap ∧ 4 ≤ cap ∧ cap ≤ maxLen ∧ B ≤ g ∧ RowI w g l := by
  obtain ⟨a, cap, rfl, h1, h2, h⟩ := h
  obtain ⟨g, rfl, hg, hf, hr⟩ := h.resolve_left (by rintro rfl; simp at hl)
  exact ⟨g, cap, by rw [hl], by omega, h2, hg, hr.1, fun j hj => ⟨by have := hr.2 j hj; rwa [Nat.zero_add] at this, hf j hj⟩⟩
theorem RowI.put {w : World} {g m : Nat} {l : List Int} (h : RowI w g l) (hm : m < l.length) (v : Int) : RowI (w.setCell ⟨g, m, none⟩ (.int .i64 v)) g (l.set m v) := by
  have e1 : w.setCell ⟨g, m, none⟩ (.int .i64 v) = w.setCells g m [.int .i64 v] := rfl
  refine ⟨by simpa using h.1, fun j hj => ⟨?_, ?_⟩⟩
  · have hj' : j < l.length := by simpa using hj
    by_cases e : j = m
    · subst e
      have h0 := World.cell?_setCells_in g [.int .i64 v] j w (fun i hi => by
        obtain rfl : i = 0 := by simpa using hi
        rw [Nat.add_zero, (h.2 j hm).1]; rfl) 0 (by simp)
      rw [e1]
      simpa [intAt, hm] using h0
    · rw [e1, World.cell?_setCells_out g _ m w ⟨g, j, none⟩ (fun _ _ => by simp; omega), (h.2 j hj').1]
      simp [intAt, Ne.symm e]
  · rw [e1, World.frozen?_setCells]; exact (h.2 j (by simpa using hj)).2
theorem RowI.ownC {w : World} {g cap : Nat} {l : List Int} (h : RowI w g l) (hl : l.length = 4) (hc : 4 ≤ cap) (hm : cap ≤ maxLen) {B : Nat} (hB : B ≤ g) : OwnI B w (.slice (some ⟨g, 0, none⟩) 4 cap) l :=
  ⟨_, _, by rw [hl], by omega, hm, .inr ⟨g, rfl, hB, fun j hj => (h.2 j hj).2, h.1, fun i hi => by rw [Nat.zero_add]; exact (h.2 i hi).1⟩⟩
set_option maxHeartbeats 1000000 in
theorem with_any (b off cap m : Nat) (v : Int) (l : List Int) (w : World) (hl : l.length = 4) (hm : m < 4) (hI : IntsAt w b off l) :
    Calls Try.prog 22 #[.slice (some ⟨b, off, none⟩) 4 cap, .int .i64 m, .int .i64 v] w fun e w' => ∃ x, e = .returned x ∧ OwnI w.heap.size w' x (l.set m v) ∧ Below w.heap.size w w' := by
  obtain ⟨i0, hi, hz0, hz1, hz2⟩ := info_parts info3
  have HI : Hid (IntsAt (w.alloc (.cells #[] 3)) b off l) := hI.below ((Below.refl _ w).alloc (Nat.le_refl _) _) hI.1
  have HL : Hid (l.length = 4) := hl
  have hmi : (m : Int) < 4 := by omega
  clear hI hl
  go_enter Try.func22, Try.ntmps22
  go_wp2_with (at_builtin; refine wpList_append_own _ rfl _ _ 22 rfl w.heap.size 3 i0 _ 1 8 Try.underlying22 hi hz0 hz1 hz2 rfl (by decide) (.slice (some ⟨w.heap.size, 0, none⟩) 0 0) 0 [] rfl (rowI_empty w) ⟨b, off, none⟩ 4 cap (intCells l) rfl (by rw [intCells_length, HL.out]) HI.out.cells (intCells_one l) (by unfold maxLen; omega) (by omega) (by simp) ?_; intro v' w1 hown hgrow hnil; have hB1 : Below w.heap.size w w1 := ((Below.refl _ w).alloc (Nat.le_refl _) _).grown hgrow (by simp) (fun k e => by cases e; exact Nat.le_refl _); have hO : OwnI w.heap.size w1 v' l := OwnI.of_row (by rw [HL.out]; simpa using hown); obtain ⟨g, cap', hv', hc1, hc2, hBg, hR⟩ := hO.four HL.out; subst hv'; have HR : Hid (RowI w1 g l) := hR; have HB1 : Hid (Below w.heap.size w w1) := hB1; have f0 := (hR.2 m (by rw [HL.out]; exact hm)).1; have f1 := (hR.2 m (by rw [HL.out]; exact hm)).2; clear hown hgrow hnil hO hR hB1)
  go_ret
  exact ⟨_, rfl, (HR.out.put (by rw [HL.out]; exact hm) v).ownC (by simp [HL.out]) hc1 hc2 hBg, HB1.out.setCell (p := ⟨g, m, none⟩) hBg _⟩

set_option maxHeartbeats 2000000 in
theorem sDecide_any (x : Value) (d v : Int) (l : List Int) (w : World) (hl : l.length ≤ 1048576) (h : IsI w x l) :
    Calls Try.prog 10 #[x, .int .i64 d, .int .i64 v] w fun e w' => ∃ u, e = .returned (.tuple #[u, .bool (decF l d v)]) ∧ OwnI w.heap.size w' u (decR l d v) ∧ Below w.heap.size w w' := by
  have H : Hid (Calls Try.prog 19 #[x] w fun e w' => e = .returned (.bool (vok l)) ∧ w' = w) := sVok_any x l w (by omega) h
  cases hB : decB l d v with
  | false =>
    have HN : Hid (decF l d v = false ∧ decR l d v = []) := dec_no hB
    cases hv : vok l with
    | false =>
      rw [hv] at H
      clear h hB
      go_enter Try.func10, Try.ntmps10
      go_wp2_with fail
      refine H.out.mono ?_
      rintro e w1 ⟨rfl, hw⟩
      obtain rfl := hw.symm
      go_wp2
      go_ret2
      exact ⟨.slice none 0 0, by rw [HN.out.1]; rfl, by rw [HN.out.2]; exact OwnI.nil _ _, Below.refl _ _⟩
    | true =>
      rw [hv] at H
      have hb : ¬ (0 ≤ d ∧ d ≤ 3 ∧ 0 ≤ v ∧ v ≤ 1) := fun h => by have := decB_iff.2 ⟨hv, h⟩; rw [hB] at this; cases this
      clear h hB
      by_cases d0 : d < 0
      · clear hb
        go_enter Try.func10, Try.ntmps10
        go_wp2_with fail
        refine H.out.mono ?_
        rintro e w1 ⟨rfl, hw⟩
        obtain rfl := hw.symm
        go_wp2
        go_ret2
        exact ⟨.slice none 0 0, by rw [HN.out.1]; rfl, by rw [HN.out.2]; exact OwnI.nil _ _, Below.refl _ _⟩
      · by_cases d1 : 4 ≤ d
        · clear hb
          go_enter Try.func10, Try.ntmps10
          go_wp2_with fail
          refine H.out.mono ?_
          rintro e w1 ⟨rfl, hw⟩
          obtain rfl := hw.symm
          go_wp2
          go_ret2
          exact ⟨.slice none 0 0, by rw [HN.out.1]; rfl, by rw [HN.out.2]; exact OwnI.nil _ _, Below.refl _ _⟩
        · by_cases d2 : v < 0
          · clear hb
            go_enter Try.func10, Try.ntmps10
            go_wp2_with fail
            refine H.out.mono ?_
            rintro e w1 ⟨rfl, hw⟩
            obtain rfl := hw.symm
            go_wp2
            go_ret2
            exact ⟨.slice none 0 0, by rw [HN.out.1]; rfl, by rw [HN.out.2]; exact OwnI.nil _ _, Below.refl _ _⟩
          · have d3 : 1 < v := by omega
            clear hb
            go_enter Try.func10, Try.ntmps10
            go_wp2_with fail
            refine H.out.mono ?_
            rintro e w1 ⟨rfl, hw⟩
            obtain rfl := hw.symm
            go_wp2
            go_ret2
            exact ⟨.slice none 0 0, by rw [HN.out.1]; rfl, by rw [HN.out.2]; exact OwnI.nil _ _, Below.refl _ _⟩
  | true =>
    obtain ⟨hv, h0, h1, h2, h3⟩ := decB_iff.1 hB
    obtain ⟨m, rfl⟩ : ∃ m : Nat, d = (m : Int) := ⟨d.toNat, by omega⟩
    have hm : m < 4 := by omega
    rw [hv] at H
    obtain ⟨b, off, cap, rfl, hI⟩ := h.four (vok_len4 hv)
    have HI : Hid (IntsAt w b off l) := hI
    have HL : Hid (l.length = 4) := vok_len4 hv
    have f0 := hI.2 m (by rw [HL.out]; exact hm)
    have hz1 := (vok_at hv m hm).1
    obtain ⟨z, hz⟩ : ∃ z, z = intAt l m := ⟨_, rfl⟩
    rw [← hz] at f0 hz1
    have HZ : Hid (z = intAt l m) := hz
    have c1 : ¬ (m : Int) < 0 := by omega
    have c2 : ¬ (4 : Int) ≤ (m : Int) := by omega
    have c3 : ¬ v < 0 := by omega
    have c4 : ¬ (1 : Int) < v := by omega
    have c5 : (m : Int) < 4 := by omega
    have HQ : Hid (decB l m v = true) := hB
    clear h hI hv hB hz h0 h1 h2 h3
    by_cases hz0 : 0 ≤ z
    · have HD : Hid (decF l m v = false ∧ decR l m v = l) := by
        have hne : ¬ intAt l m = -1 := by rw [← HZ.out]; omega
        show _ ∧ _
        simp [decF, decR, HQ.out, hne]
      obtain ⟨i0, hi, hj0, hj1, hj2⟩ := info_parts info3
      have HI2 : Hid (IntsAt (w.alloc (.cells #[] 3)) b off l) := HI.out.below ((Below.refl _ w).alloc (Nat.le_refl _) _) HI.out.1
      clear hz1
      go_enter Try.func10, Try.ntmps10
      go_wp2_with (first | (go_at_call 19; refine H.out.mono ?_; rintro e w1 ⟨rfl, hw⟩; obtain rfl := hw.symm) | (at_builtin; refine wpList_append_own _ rfl _ _ 22 rfl w.heap.size 3 i0 _ 1 8 Try.underlying22 hi hj0 hj1 hj2 rfl (by decide) (.slice (some ⟨w.heap.size, 0, none⟩) 0 0) 0 [] rfl (rowI_empty w) ⟨b, off, none⟩ 4 cap (intCells l) rfl (by rw [intCells_length, HL.out]) HI2.out.cells (intCells_one l) (by unfold maxLen; omega) (by omega) (by simp) ?_; intro v' w1 hown hgrow hnil; have HB1 : Hid (Below w.heap.size w w1) := ((Below.refl _ w).alloc (Nat.le_refl _) _).grown hgrow (by simp) (fun k e => by cases e; exact Nat.le_refl _); have HO : Hid (OwnI w.heap.size w1 v' l) := OwnI.of_row (by rw [HL.out]; simpa using hown); clear hown hgrow hnil))
      go_ret2
      exact ⟨v', by rw [HD.out.1]; rfl, by rw [HD.out.2]; exact HO.out, HB1.out⟩
    · have HD : Hid (decF l m v = true ∧ decR l m v = l.set m v) := by
        have hne : intAt l m = -1 := by rw [← HZ.out]; omega
        show _ ∧ _
        simp [decF, decR, HQ.out, hne]
      have HW : Hid (Calls Try.prog 22 #[.slice (some ⟨b, off, none⟩) 4 cap, .int .i64 m, .int .i64 v] w fun e w' => ∃ x, e = .returned x ∧ OwnI w.heap.size w' x (l.set m v) ∧ Below w.heap.size w w') := with_any b off cap m v l w HL.out hm HI.out
      have hz2 : z < 0 := by omega
      clear hz1 hz0
      go_enter Try.func10, Try.ntmps10
      go_wp2_with fail
      refine H.out.mono ?_
      rintro e w1 ⟨rfl, hw⟩
      obtain rfl := hw.symm
      go_wp2_with fail
      refine HW.out.mono ?_
      rintro e w1 ⟨x, rfl, ho, hb⟩
      have HO : Hid (OwnI w.heap.size w1 x (l.set m v)) := ho
      have HB1 : Hid (Below w.heap.size w w1) := hb
      clear ho hb
      go_wp2
      go_ret2
      exact ⟨x, by rw [HD.out.1]; rfl, by rw [HD.out.2]; exact HO.out, HB1.out⟩
end Go.Proofs.Ytofbholpggkjcab

/- The cursor over the bytes of a draw. -/
namespace Go.Proofs.Ytofbholpggkjcab
open Go.RowKit

/- n bytes that lie below block B. -/
def CodeIn (w : World) (B : Nat) (a : Option Addr) (n : Nat) : Prop := n = 0 ∨ ∃ b off, a = some ⟨b, off, none⟩ ∧ b < B ∧ ∀ i, i < n → ∃ z : Nat, z < 256 ∧ w.cell? ⟨b, off + i, none⟩ = some (.int .u8 (z : Int))
theorem CodeIn.below {w w' : World} {B B' : Nat} {a : Option Addr} {n : Nat} (h : CodeIn w B a n) (hb : Below B' w w') (hB : B ≤ B') : CodeIn w' B a n := by
  rcases h with h | ⟨b, off, h1, h2, h3⟩
  · exact .inl h
  · exact .inr ⟨b, off, h1, h2, fun i hi => by
      obtain ⟨z, hz, hc⟩ := h3 i hi
      exact ⟨z, hz, (hb.cell (p := ⟨b, off + i, none⟩) (by show b < B'; omega)).trans hc⟩⟩
theorem CodeIn.mono {w : World} {B B' : Nat} {a : Option Addr} {n : Nat} (h : CodeIn w B a n) (hB : B ≤ B') : CodeIn w B' a n := by
  rcases h with h | ⟨b, off, h1, h2, h3⟩
  · exact .inl h
  · exact .inr ⟨b, off, h1, by omega, h3⟩
/- A cursor at block c. -/
structure CurAt (w : World) (c : Nat) (a : Option Addr) (n cap i : Nat) (h : Int) : Prop where
  c0 : w.cell? ⟨c, 0, none⟩ = some (.slice a n cap)
  c1 : w.cell? ⟨c, 1, none⟩ = some (.int .i64 (i : Int))
  c2 : w.cell? ⟨c, 2, none⟩ = some (.int .i64 h)
  fz : ∀ o, w.frozen? ⟨c, o, none⟩ = false
  lt : c < w.heap.size
  le : i ≤ n
  len : n ≤ 281474976710656
  code : CodeIn w c a n
def Cur (w : World) (c : Nat) : Prop := ∃ a n cap i h, CurAt w c a n cap i h
theorem CurAt.below {w w' : World} {B c : Nat} {a : Option Addr} {n cap i : Nat} {h : Int} (H : CurAt w c a n cap i h) (hb : Below B w w') (hB : c < B) : CurAt w' c a n cap i h :=
  ⟨(hb.cell hB).trans H.c0, (hb.cell hB).trans H.c1, (hb.cell hB).trans H.c2, fun o => (hb.frozen (p := ⟨c, o, none⟩) hB).trans (H.fz o), Nat.lt_of_lt_of_le H.lt hb.size, H.le, H.len, H.code.below hb (by omega)⟩
theorem Cur.below {w w' : World} {B c : Nat} (H : Cur w c) (hb : Below B w w') (hB : c < B) : Cur w' c := by
  obtain ⟨a, n, cap, i, h, H⟩ := H
  exact ⟨a, n, cap, i, h, H.below hb hB⟩
theorem Cur.lt {w : World} {c : Nat} (H : Cur w c) : c < w.heap.size := by
  obtain ⟨a, n, cap, i, h, H⟩ := H
  exact H.lt
theorem i64_and255 (n : Int) : bits .and .i64 n 255 = n % 256 := by
  have h127 : (BitVec.ofInt 64 255).toNat = 2 ^ 8 - 1 := by decide
  have key : (BitVec.ofInt 64 n &&& BitVec.ofInt 64 255).toNat = (n % ((2 ^ 64 : Nat) : Int)).toNat % 2 ^ 8 := by
    rw [BitVec.toNat_and, BitVec.toNat_ofInt, h127, Nat.and_two_pow_sub_one_eq_mod]
  show IntKind.i64.wrap ((BitVec.ofInt 64 n &&& BitVec.ofInt 64 255).toNat : Nat) = n % 256
  rw [key, IntKind.wrap_i64]
  omega
theorem CurAt.drew {w : World} {c : Nat} {a : Option Addr} {n cap i : Nat} {h : Int} (H : CurAt w c a n cap i h) : CurAt w.drew c a n cap i h :=
  H.below (B := w.heap.size) (Below.refl _ w).drew H.lt
theorem CurAt.hash {w : World} {c : Nat} {a : Option Addr} {n cap i : Nat} {h : Int} (H : CurAt w c a n cap i h) (h' : Int) : CurAt (w.setCell ⟨c, 2, none⟩ (.int .i64 h')) c a n cap i h' := by
  have hn : ∀ i j : Nat, i ≠ j → (⟨c, i, none⟩ : Addr) ≠ ⟨c, j, none⟩ := fun i j hij e => hij (by injection e)
  have hb : Below c w (w.setCell ⟨c, 2, none⟩ (.int .i64 h')) := (Below.refl c w).setCell (by simp) _
  exact ⟨(World.cell?_setCell_other _ _ _ _ (hn _ _ (by omega))).trans H.c0, (World.cell?_setCell_other _ _ _ _ (hn _ _ (by omega))).trans H.c1, World.cell?_setCell_same _ _ _ H.c2,
    fun o => by simp [H.fz], by simpa [World.setCell] using H.lt, H.le, H.len, H.code.below hb (Nat.le_refl _)⟩
theorem CurAt.next {w : World} {c : Nat} {a : Option Addr} {n cap i : Nat} {h : Int} (H : CurAt w c a n cap i h) (j : Nat) (hj : j ≤ n) : CurAt (w.setCell ⟨c, 1, none⟩ (.int .i64 (j : Int))) c a n cap j h := by
  have hn : ∀ i j : Nat, i ≠ j → (⟨c, i, none⟩ : Addr) ≠ ⟨c, j, none⟩ := fun i j hij e => hij (by injection e)
  have hb : Below c w (w.setCell ⟨c, 1, none⟩ (.int .i64 (j : Int))) := (Below.refl c w).setCell (by simp) _
  exact ⟨(World.cell?_setCell_other _ _ _ _ (hn _ _ (by omega))).trans H.c0, World.cell?_setCell_same _ _ _ H.c1, (World.cell?_setCell_other _ _ _ _ (hn _ _ (by omega))).trans H.c2,
    fun o => by simp [H.fz], by simpa [World.setCell] using H.lt, hj, H.len, H.code.below hb (Nat.le_refl _)⟩

set_option maxHeartbeats 2000000 in
theorem byte_any (c : Nat) (w : World) (H : Cur w c) :
    Calls Try.prog 36 #[.pointer (some ⟨c, 0, none⟩)] w fun e w' => ∃ x : Int, e = .returned (.int .i64 x) ∧ 0 ≤ x ∧ x ≤ 255 ∧ Cur w' c ∧ Turns (fun k => k = c) w w' := by
  obtain ⟨a, n, cap, i, h, H⟩ := H
  have c0 := H.c0
  have c1 := H.c1
  have c2 := H.c2
  have hf := H.fz
  have hlen := H.len
  have hle := H.le
  have hand : ∀ m : Int, bits .and .i64 m 255 = m % 256 := i64_and255
  go_enter Try.func36, Try.ntmps36
  go_wp2_with fail
  go_region
  generalize wrap64 (wrap64 (h * 6364136223846793005) + 1442695040888963407) = h1
  generalize hx : bits BinOp.xor IntKind.i64 (h1 / 8589934592) (h1 / 35184372088832) % 256 = x0
  have hx0 : 0 ≤ x0 := by omega
  have hx1 : x0 ≤ 255 := by omega
  have H1 := (H.hash h1).drew
  have T1 : Turns (fun k => k = c) w (w.setCell ⟨c, 2, none⟩ (.int .i64 h1)).drew := ((Turns.refl (fun k => k = c) w).setCell (p := ⟨c, 2, none⟩) rfl _).drew
  generalize (w.setCell ⟨c, 2, none⟩ (.int .i64 h1)).drew = w1 at H1 T1 ⊢
  have HT1 : Hid (Turns (fun k => k = c) w w1) := T1
  clear c0 c1 c2 hf hx T1 H
  have d0 := H1.c0
  have d1 := H1.c1
  have d2 := H1.c2
  have df := H1.fz
  have HC1 : Hid (CurAt w1 c a n cap i h1) := H1
  by_cases hi : i < n
  · obtain ⟨b, off, rfl, hb, hz⟩ := H1.code.resolve_left (by omega)
    obtain ⟨z, hz1, hz2⟩ := hz i hi
    have hbc : ¬ b = c := by omega
    have hlt : (i : Int) < (n : Int) := by omega
    have hidx : (0 : Int) ≤ (i : Int) ∧ (i : Int) < (n : Int) := by omega
    have q0 : IntKind.i64.wrap (x0 + (z : Int)) = x0 + (z : Int) := by rw [IntKind.wrap_i64]; omega
    clear hz H1
    go_wp2_with fail
    go_region
    go_wp2_with fail
    go_region
    go_wp2
    go_ret
    refine ⟨_, rfl, by omega, by omega, ⟨_, _, _, _, _, (HC1.out.drew.drew.next (i + 1) (by omega))⟩, ?_⟩
    exact (HT1.out.drew.drew).setCell (p := ⟨c, 1, none⟩) rfl _
  · have hlt : ¬ (i : Int) < (n : Int) := by omega
    clear H1
    go_wp2_with fail
    go_region
    go_wp2
    go_ret
    exact ⟨_, rfl, hx0, hx1, ⟨_, _, _, _, _, HC1.out.drew⟩, HT1.out.drew⟩
end Go.Proofs.Ytofbholpggkjcab

