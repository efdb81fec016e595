/- VDecS, NCur, NDraw -/
import Derived.Test.YtbljfphdghfkfaaGreatDoorSequencesCardG19
import Derived.Test.YtbljfphdghfkfaaGreatDoorSequencesCardG00
import Derived.BigRegion
/- Vectors: both Decide. -/
namespace Go.Proofs.YtbljfphdghfkfaaGreatDoor
open Go.RowKit
def decB (l : List Int) (d v : Int) : Bool := vok l && (decide (0 ≤ d) && decide (d ≤ 3)) && (decide (0 ≤ v) && decide (v ≤ 1))
def decF (l : List Int) (d v : Int) : Bool := decB l d v && decide (intAt l d.toNat = -1)
def decR (l : List Int) (d v : Int) : List Int := if decB l d v = true then (if intAt l d.toNat = -1 then l.set d.toNat v else l) else []
theorem decB_iff {l : List Int} {d v : Int} : decB l d v = true ↔ vok l = true ∧ 0 ≤ d ∧ d ≤ 3 ∧ 0 ≤ v ∧ v ≤ 1 := by
 simp [decB, and_assoc]
theorem dec_no {l : List Int} {d v : Int} (h : decB l d v = false) : decF l d v = false ∧ decR l d v = [] := by simp [decF, decR, h]
theorem rowI_empty (w : World) : (w.alloc (.cells #[] 3)).ownsRow w.heap.size 3 1 (.slice (some ⟨w.heap.size, 0, none⟩) 0 0) 0 [] :=
 ⟨rfl, .inr ⟨w.heap.size, 0, #[], rfl, Nat.le_refl _, (MapKept.heap_alloc w _).1, Nat.le_refl _, Nat.zero_le _, rfl, rfl⟩⟩
theorem OwnI.four {B : Nat} {w : World} {x : Value} {l : List Int} (h : OwnI B w x l) (hl : l.length = 4) : ∃ g cap, x = .slice (some ⟨g, 0, none⟩) 4 cap ∧ 4 ≤ cap ∧ cap ≤ maxLen ∧ B ≤ g ∧ RowI w g l := by
 obtain ⟨a, cap, rfl, h1, h2, h⟩ := h
 obtain ⟨g, rfl, hg, hf, hr⟩ := h.resolve_left (by rintro rfl; simp at hl)
 exact ⟨g, cap, by rw [hl], by omega, h2, hg, hr.1, fun j hj => ⟨by have := hr.2 j hj; rwa [Nat.zero_add] at this, hf j hj⟩⟩
theorem RowI.put {w : World} {g m : Nat} {l : List Int} (h : RowI w g l) (hm : m < l.length) (v : Int) : RowI (w.setCell ⟨g, m, none⟩ (.int .i64 v)) g (l.set m v) := by
 have e1 : w.setCell ⟨g, m, none⟩ (.int .i64 v) = w.setCells g m [.int .i64 v] := rfl
 refine ⟨by simpa using h.1, fun j hj => ⟨?_, ?_⟩⟩
 ·have hj' : j < l.length := by simpa using hj
  by_cases e : j = m
  ·subst e
   have h0 := World.cell?_setCells_in g [.int .i64 v] j w (fun i hi => by
    obtain rfl : i = 0 := by simpa using hi
    rw [Nat.add_zero, (h.2 j hm).1]; rfl) 0 (by simp)
   rw [e1]
   simpa [intAt, hm] using h0
  ·rw [e1, World.cell?_setCells_out g _ m w ⟨g, j, none⟩ (fun _ _ => by simp; omega), (h.2 j hj').1]
   simp [intAt, Ne.symm e]
 ·rw [e1, World.frozen?_setCells]; exact (h.2 j (by simpa using hj)).2
theorem RowI.ownC {w : World} {g cap : Nat} {l : List Int} (h : RowI w g l) (hl : l.length = 4) (hc : 4 ≤ cap) (hm : cap ≤ maxLen) {B : Nat} (hB : B ≤ g) : OwnI B w (.slice (some ⟨g, 0, none⟩) 4 cap) l :=
 ⟨_, _, by rw [hl], by omega, hm, .inr ⟨g, rfl, hB, fun j hj => (h.2 j hj).2, h.1, fun i hi => by rw [Nat.zero_add]; exact (h.2 i hi).1⟩⟩
set_option maxRecDepth 100000 in
set_option maxHeartbeats 1000000 in
theorem with_any (b off cap m : Nat) (v : Int) (l : List Int) (w : World) (hl : l.length = 4) (hm : m < 4) (hI : IntsAt w b off l) :
  Calls Tryz.prog 63 #[.slice (some ⟨b, off, none⟩) 4 cap, .int .i64 m, .int .i64 v] w fun e w' => ∃ x, e = .returned x ∧ OwnI w.heap.size w' x (l.set m v) ∧ Below w.heap.size w w' := by
 obtain ⟨i0, hi, hz0, hz1, hz2⟩ := info_parts info3
 have HI : Hid (IntsAt (w.alloc (.cells #[] 3)) b off l) := hI.below ((Below.refl _ w).alloc (Nat.le_refl _) _) hI.1
 have HL : Hid (l.length = 4) := hl
 have hmi : (m : Int) < 4 := by omega
 clear hI hl
 go_enter Tryz.func63, Tryz.ntmps63
 go_wp2_with (at_builtin; refine wpList_append_own _ rfl _ _ 23 rfl w.heap.size 3 i0 _ 1 8 Tryz.underlying23 hi hz0 hz1 hz2 rfl (by decide) (.slice (some ⟨w.heap.size, 0, none⟩) 0 0) 0 [] rfl (rowI_empty w) ⟨b, off, none⟩ 4 cap (intCells l) rfl (by rw [intCells_length, HL.out]) HI.out.cells (intCells_one l) (by unfold maxLen; omega) (by omega) (by simp) ?_; intro v' w1 hown hgrow hnil; have hB1 : Below w.heap.size w w1 := ((Below.refl _ w).alloc (Nat.le_refl _) _).grown hgrow (by simp) (fun k e => by cases e; exact Nat.le_refl _); have hO : OwnI w.heap.size w1 v' l := OwnI.of_row (by rw [HL.out]; simpa using hown); obtain ⟨g, cap', hv', hc1, hc2, hBg, hR⟩ := hO.four HL.out; subst hv'; have HR : Hid (RowI w1 g l) := hR; have HB1 : Hid (Below w.heap.size w w1) := hB1; have f0 := (hR.2 m (by rw [HL.out]; exact hm)).1; have f1 := (hR.2 m (by rw [HL.out]; exact hm)).2; clear hown hgrow hnil hO hR hB1)
 go_ret
 exact ⟨_, rfl, (HR.out.put (by rw [HL.out]; exact hm) v).ownC (by simp [HL.out]) hc1 hc2 hBg, HB1.out.setCell (p := ⟨g, m, none⟩) hBg _⟩
set_option maxRecDepth 100000 in
set_option maxHeartbeats 2000000 in
theorem sDecide_any (x : Value) (d v : Int) (l : List Int) (w : World) (hl : l.length ≤ 1048576) (h : IsI w x l) :
  Calls Tryz.prog 22 #[x, .int .i64 d, .int .i64 v] w fun e w' => ∃ u, e = .returned (.tuple #[u, .bool (decF l d v)]) ∧ OwnI w.heap.size w' u (decR l d v) ∧ Below w.heap.size w w' := by
 have H : Hid (Calls Tryz.prog 62 #[x] w fun e w' => e = .returned (.bool (vok l)) ∧ w' = w) := sVok_any x l w (by omega) h
 cases hB : decB l d v with
 | false =>
  have HN : Hid (decF l d v = false ∧ decR l d v = []) := dec_no hB
  cases hv : vok l with
  | false =>
   rw [hv] at H
   clear h hB
   go_enter Tryz.func22, Tryz.ntmps22
   go_wp2_with fail
   refine H.out.mono ?_
   rintro e w1 ⟨rfl, hw⟩
   obtain rfl := hw.symm
   go_wp2
   go_ret2
   exact ⟨.slice none 0 0, by rw [HN.out.1]; rfl, by rw [HN.out.2]; exact OwnI.nil _ _, Below.refl _ _⟩
  | true =>
   rw [hv] at H
   have hb : ¬ (0 ≤ d ∧ d ≤ 3 ∧ 0 ≤ v ∧ v ≤ 1) := fun h => by have := decB_iff.2 ⟨hv, h⟩; rw [hB] at this; cases this
   clear h hB
   by_cases d0 : d < 0
   ·clear hb
    go_enter Tryz.func22, Tryz.ntmps22
    go_wp2_with fail
    refine H.out.mono ?_
    rintro e w1 ⟨rfl, hw⟩
    obtain rfl := hw.symm
    go_wp2
    go_ret2
    exact ⟨.slice none 0 0, by rw [HN.out.1]; rfl, by rw [HN.out.2]; exact OwnI.nil _ _, Below.refl _ _⟩
   ·by_cases d1 : 4 ≤ d
    ·clear hb
     go_enter Tryz.func22, Tryz.ntmps22
     go_wp2_with fail
     refine H.out.mono ?_
     rintro e w1 ⟨rfl, hw⟩
     obtain rfl := hw.symm
     go_wp2
     go_ret2
     exact ⟨.slice none 0 0, by rw [HN.out.1]; rfl, by rw [HN.out.2]; exact OwnI.nil _ _, Below.refl _ _⟩
    ·by_cases d2 : v < 0
     ·clear hb
      go_enter Tryz.func22, Tryz.ntmps22
      go_wp2_with fail
      refine H.out.mono ?_
      rintro e w1 ⟨rfl, hw⟩
      obtain rfl := hw.symm
      go_wp2
      go_ret2
      exact ⟨.slice none 0 0, by rw [HN.out.1]; rfl, by rw [HN.out.2]; exact OwnI.nil _ _, Below.refl _ _⟩
     ·have d3 : 1 < v := by omega
      clear hb
      go_enter Tryz.func22, Tryz.ntmps22
      go_wp2_with fail
      refine H.out.mono ?_
      rintro e w1 ⟨rfl, hw⟩
      obtain rfl := hw.symm
      go_wp2
      go_ret2
      exact ⟨.slice none 0 0, by rw [HN.out.1]; rfl, by rw [HN.out.2]; exact OwnI.nil _ _, Below.refl _ _⟩
 | true =>
  obtain ⟨hv, h0, h1, h2, h3⟩ := decB_iff.1 hB
  obtain ⟨m, rfl⟩ : ∃ m : Nat, d = (m : Int) := ⟨d.toNat, by omega⟩
  have hm : m < 4 := by omega
  rw [hv] at H
  obtain ⟨b, off, cap, rfl, hI⟩ := h.four (vok_len4 hv)
  have HI : Hid (IntsAt w b off l) := hI
  have HL : Hid (l.length = 4) := vok_len4 hv
  have f0 := hI.2 m (by rw [HL.out]; exact hm)
  have hz1 := (vok_at hv m hm).1
  obtain ⟨z, hz⟩ : ∃ z, z = intAt l m := ⟨_, rfl⟩
  rw [← hz] at f0 hz1
  have HZ : Hid (z = intAt l m) := hz
  have c1 : ¬ (m : Int) < 0 := by omega
  have c2 : ¬ (4 : Int) ≤ (m : Int) := by omega
  have c3 : ¬ v < 0 := by omega
  have c4 : ¬ (1 : Int) < v := by omega
  have c5 : (m : Int) < 4 := by omega
  have HQ : Hid (decB l m v = true) := hB
  clear h hI hv hB hz h0 h1 h2 h3
  by_cases hz0 : 0 ≤ z
  ·have HD : Hid (decF l m v = false ∧ decR l m v = l) := by
    have hne : ¬ intAt l m = -1 := by rw [← HZ.out]; omega
    show _ ∧ _
    simp [decF, decR, HQ.out, hne]
   obtain ⟨i0, hi, hj0, hj1, hj2⟩ := info_parts info3
   have HI2 : Hid (IntsAt (w.alloc (.cells #[] 3)) b off l) := HI.out.below ((Below.refl _ w).alloc (Nat.le_refl _) _) HI.out.1
   clear hz1
   go_enter Tryz.func22, Tryz.ntmps22
   go_wp2_with (first | (go_at_call 62; refine H.out.mono ?_; rintro e w1 ⟨rfl, hw⟩; obtain rfl := hw.symm) | (at_builtin; refine wpList_append_own _ rfl _ _ 23 rfl w.heap.size 3 i0 _ 1 8 Tryz.underlying23 hi hj0 hj1 hj2 rfl (by decide) (.slice (some ⟨w.heap.size, 0, none⟩) 0 0) 0 [] rfl (rowI_empty w) ⟨b, off, none⟩ 4 cap (intCells l) rfl (by rw [intCells_length, HL.out]) HI2.out.cells (intCells_one l) (by unfold maxLen; omega) (by omega) (by simp) ?_; intro v' w1 hown hgrow hnil; have HB1 : Hid (Below w.heap.size w w1) := ((Below.refl _ w).alloc (Nat.le_refl _) _).grown hgrow (by simp) (fun k e => by cases e; exact Nat.le_refl _); have HO : Hid (OwnI w.heap.size w1 v' l) := OwnI.of_row (by rw [HL.out]; simpa using hown); clear hown hgrow hnil))
   go_ret2
   exact ⟨v', by rw [HD.out.1]; rfl, by rw [HD.out.2]; exact HO.out, HB1.out⟩
  ·have HD : Hid (decF l m v = true ∧ decR l m v = l.set m v) := by
    have hne : intAt l m = -1 := by rw [← HZ.out]; omega
    show _ ∧ _
    simp [decF, decR, HQ.out, hne]
   have HW : Hid (Calls Tryz.prog 63 #[.slice (some ⟨b, off, none⟩) 4 cap, .int .i64 m, .int .i64 v] w fun e w' => ∃ x, e = .returned x ∧ OwnI w.heap.size w' x (l.set m v) ∧ Below w.heap.size w w') := with_any b off cap m v l w HL.out hm HI.out
   have hz2 : z < 0 := by omega
   clear hz1 hz0
   go_enter Tryz.func22, Tryz.ntmps22
   go_wp2_with fail
   refine H.out.mono ?_
   rintro e w1 ⟨rfl, hw⟩
   obtain rfl := hw.symm
   go_wp2_with fail
   refine HW.out.mono ?_
   rintro e w1 ⟨x, rfl, ho, hb⟩
   have HO : Hid (OwnI w.heap.size w1 x (l.set m v)) := ho
   have HB1 : Hid (Below w.heap.size w w1) := hb
   clear ho hb
   go_wp2
   go_ret2
   exact ⟨x, by rw [HD.out.1]; rfl, by rw [HD.out.2]; exact HO.out, HB1.out⟩
end Go.Proofs.YtbljfphdghfkfaaGreatDoor

/- The cursor over the bytes of a draw. -/
namespace Go.Proofs.YtbljfphdghfkfaaGreatDoor
open Go.RowKit
def CodeIn (w : World) (B : Nat) (a : Option Addr) (n : Nat) : Prop := n = 0 ∨ ∃ b off, a = some ⟨b, off, none⟩ ∧ b < B ∧ ∀ i, i < n → ∃ z : Nat, z < 256 ∧ w.cell? ⟨b, off + i, none⟩ = some (.int .u8 (z : Int))
theorem CodeIn.below {w w' : World} {B B' : Nat} {a : Option Addr} {n : Nat} (h : CodeIn w B a n) (hb : Below B' w w') (hB : B ≤ B') : CodeIn w' B a n := by
 rcases h with h | ⟨b, off, h1, h2, h3⟩
 ·exact .inl h
 ·exact .inr ⟨b, off, h1, h2, fun i hi => by
   obtain ⟨z, hz, hc⟩ := h3 i hi
   exact ⟨z, hz, (hb.cell (p := ⟨b, off + i, none⟩) (by show b < B'; omega)).trans hc⟩⟩
theorem CodeIn.mono {w : World} {B B' : Nat} {a : Option Addr} {n : Nat} (h : CodeIn w B a n) (hB : B ≤ B') : CodeIn w B' a n := by
 rcases h with h | ⟨b, off, h1, h2, h3⟩
 ·exact .inl h
 ·exact .inr ⟨b, off, h1, by omega, h3⟩
structure CurAt (w : World) (c : Nat) (a : Option Addr) (n cap i : Nat) (h : Int) : Prop where
 c0 : w.cell? ⟨c, 0, none⟩ = some (.slice a n cap)
 c1 : w.cell? ⟨c, 1, none⟩ = some (.int .i64 (i : Int))
 c2 : w.cell? ⟨c, 2, none⟩ = some (.int .i64 h)
 fz : ∀ o, w.frozen? ⟨c, o, none⟩ = false
 lt : c < w.heap.size
 le : i ≤ n
 len : n ≤ 281474976710656
 code : CodeIn w c a n
def Cur (w : World) (c : Nat) : Prop := ∃ a n cap i h, CurAt w c a n cap i h
theorem CurAt.below {w w' : World} {B c : Nat} {a : Option Addr} {n cap i : Nat} {h : Int} (H : CurAt w c a n cap i h) (hb : Below B w w') (hB : c < B) : CurAt w' c a n cap i h :=
 ⟨(hb.cell hB).trans H.c0, (hb.cell hB).trans H.c1, (hb.cell hB).trans H.c2, fun o => (hb.frozen (p := ⟨c, o, none⟩) hB).trans (H.fz o), Nat.lt_of_lt_of_le H.lt hb.size, H.le, H.len, H.code.below hb (by omega)⟩
theorem Cur.below {w w' : World} {B c : Nat} (H : Cur w c) (hb : Below B w w') (hB : c < B) : Cur w' c := by
 obtain ⟨a, n, cap, i, h, H⟩ := H
 exact ⟨a, n, cap, i, h, H.below hb hB⟩
theorem Cur.lt {w : World} {c : Nat} (H : Cur w c) : c < w.heap.size := by
 obtain ⟨a, n, cap, i, h, H⟩ := H
 exact H.lt
theorem i64_and255 (n : Int) : bits .and .i64 n 255 = n % 256 := by
 have h127 : (BitVec.ofInt 64 255).toNat = 2 ^ 8 - 1 := by decide
 have key : (BitVec.ofInt 64 n &&& BitVec.ofInt 64 255).toNat = (n % ((2 ^ 64 : Nat) : Int)).toNat % 2 ^ 8 := by
  rw [BitVec.toNat_and, BitVec.toNat_ofInt, h127, Nat.and_two_pow_sub_one_eq_mod]
 show IntKind.i64.wrap ((BitVec.ofInt 64 n &&& BitVec.ofInt 64 255).toNat : Nat) = n % 256
 rw [key, IntKind.wrap_i64]
 omega
theorem CurAt.drew {w : World} {c : Nat} {a : Option Addr} {n cap i : Nat} {h : Int} (H : CurAt w c a n cap i h) : CurAt w.drew c a n cap i h :=
 H.below (B := w.heap.size) (Below.refl _ w).drew H.lt
theorem CurAt.hash {w : World} {c : Nat} {a : Option Addr} {n cap i : Nat} {h : Int} (H : CurAt w c a n cap i h) (h' : Int) : CurAt (w.setCell ⟨c, 2, none⟩ (.int .i64 h')) c a n cap i h' := by
 have hn : ∀ i j : Nat, i ≠ j → (⟨c, i, none⟩ : Addr) ≠ ⟨c, j, none⟩ := fun i j hij e => hij (by injection e)
 have hb : Below c w (w.setCell ⟨c, 2, none⟩ (.int .i64 h')) := (Below.refl c w).setCell (by simp) _
 exact ⟨(World.cell?_setCell_other _ _ _ _ (hn _ _ (by omega))).trans H.c0, (World.cell?_setCell_other _ _ _ _ (hn _ _ (by omega))).trans H.c1, World.cell?_setCell_same _ _ _ H.c2,
  fun o => by simp [H.fz], by simpa [World.setCell] using H.lt, H.le, H.len, H.code.below hb (Nat.le_refl _)⟩
theorem CurAt.next {w : World} {c : Nat} {a : Option Addr} {n cap i : Nat} {h : Int} (H : CurAt w c a n cap i h) (j : Nat) (hj : j ≤ n) : CurAt (w.setCell ⟨c, 1, none⟩ (.int .i64 (j : Int))) c a n cap j h := by
 have hn : ∀ i j : Nat, i ≠ j → (⟨c, i, none⟩ : Addr) ≠ ⟨c, j, none⟩ := fun i j hij e => hij (by injection e)
 have hb : Below c w (w.setCell ⟨c, 1, none⟩ (.int .i64 (j : Int))) := (Below.refl c w).setCell (by simp) _
 exact ⟨(World.cell?_setCell_other _ _ _ _ (hn _ _ (by omega))).trans H.c0, World.cell?_setCell_same _ _ _ H.c1, (World.cell?_setCell_other _ _ _ _ (hn _ _ (by omega))).trans H.c2,
  fun o => by simp [H.fz], by simpa [World.setCell] using H.lt, hj, H.len, H.code.below hb (Nat.le_refl _)⟩
set_option maxHeartbeats 2000000 in
theorem byte_any (c : Nat) (w : World) (H : Cur w c) :
  Calls Tryz.prog 48 #[.pointer (some ⟨c, 0, none⟩)] w fun e w' => ∃ x : Int, e = .returned (.int .i64 x) ∧ 0 ≤ x ∧ x ≤ 255 ∧ Cur w' c ∧ Turns (fun k => k = c) w w' := by
 obtain ⟨a, n, cap, i, h, H⟩ := H
 have c0 := H.c0
 have c1 := H.c1
 have c2 := H.c2
 have hf := H.fz
 have hlen := H.len
 have hle := H.le
 have hand : ∀ m : Int, bits .and .i64 m 255 = m % 256 := i64_and255
 go_enter Tryz.func48, Tryz.ntmps48
 go_wp2_with fail
 go_region
 generalize wrap64 (wrap64 (h * 6364136223846793005) + 1442695040888963407) = h1
 generalize hx : bits BinOp.xor IntKind.i64 (h1 / 8589934592) (h1 / 35184372088832) % 256 = x0
 have hx0 : 0 ≤ x0 := by omega
 have hx1 : x0 ≤ 255 := by omega
 have H1 := (H.hash h1).drew
 have T1 : Turns (fun k => k = c) w (w.setCell ⟨c, 2, none⟩ (.int .i64 h1)).drew := ((Turns.refl (fun k => k = c) w).setCell (p := ⟨c, 2, none⟩) rfl _).drew
 generalize (w.setCell ⟨c, 2, none⟩ (.int .i64 h1)).drew = w1 at H1 T1 ⊢
 have HT1 : Hid (Turns (fun k => k = c) w w1) := T1
 clear c0 c1 c2 hf hx T1 H
 have d0 := H1.c0
 have d1 := H1.c1
 have d2 := H1.c2
 have df := H1.fz
 have HC1 : Hid (CurAt w1 c a n cap i h1) := H1
 by_cases hi : i < n
 ·obtain ⟨b, off, rfl, hb, hz⟩ := H1.code.resolve_left (by omega)
  obtain ⟨z, hz1, hz2⟩ := hz i hi
  have hbc : ¬ b = c := by omega
  have hlt : (i : Int) < (n : Int) := by omega
  have hidx : (0 : Int) ≤ (i : Int) ∧ (i : Int) < (n : Int) := by omega
  have q0 : IntKind.i64.wrap (x0 + (z : Int)) = x0 + (z : Int) := by rw [IntKind.wrap_i64]; omega
  clear hz H1
  go_wp2_with fail
  go_region
  go_wp2_with fail
  go_region
  go_wp2
  go_ret
  refine ⟨_, rfl, by omega, by omega, ⟨_, _, _, _, _, (HC1.out.drew.drew.next (i + 1) (by omega))⟩, ?_⟩
  exact (HT1.out.drew.drew).setCell (p := ⟨c, 1, none⟩) rfl _
 ·have hlt : ¬ (i : Int) < (n : Int) := by omega
  clear H1
  go_wp2_with fail
  go_region
  go_wp2
  go_ret
  exact ⟨_, rfl, hx0, hx1, ⟨_, _, _, _, _, HC1.out.drew⟩, HT1.out.drew⟩
end Go.Proofs.YtbljfphdghfkfaaGreatDoor

/- What is drawn out of a cursor: numbers below one, one of a list; a new cursor. -/
namespace Go.Proofs.YtbljfphdghfkfaaGreatDoor
open Go.RowKit
theorem i64_mask30 (n : Int) : bits .and .i64 n 1073741823 = n % 1073741824 := by
 have h127 : (BitVec.ofInt 64 1073741823).toNat = 2 ^ 30 - 1 := by decide
 have key : (BitVec.ofInt 64 n &&& BitVec.ofInt 64 1073741823).toNat = (n % ((2 ^ 64 : Nat) : Int)).toNat % 2 ^ 30 := by
  rw [BitVec.toNat_and, BitVec.toNat_ofInt, h127, Nat.and_two_pow_sub_one_eq_mod]
 show IntKind.i64.wrap ((BitVec.ofInt 64 n &&& BitVec.ofInt 64 1073741823).toNat : Nat) = n % 1073741824
 rw [key, IntKind.wrap_i64]
 omega
theorem emod_in {x m : Int} (hm : 0 < m) : 0 ≤ x % m ∧ x % m < m := ⟨Int.emod_nonneg _ (by omega), Int.emod_lt_of_pos _ hm⟩
set_option maxHeartbeats 2000000 in
theorem below_any (c : Nat) (n : Int) (w : World) (H : Cur w c) :
  Calls Tryz.prog 47 #[.pointer (some ⟨c, 0, none⟩), .int .i64 n] w fun e w' => ∃ x : Int, e = .returned (.int .i64 x) ∧ 0 ≤ x ∧ (0 < n → x < n) ∧ Cur w' c ∧ Turns (fun k => k = c) w w' := by
 have HC : Hid (Cur w c) := H
 clear H
 by_cases h0 : n ≤ 0
 ·go_enter Tryz.func47, Tryz.ntmps47
  go_wp2_with fail
  go_ret
  exact ⟨0, rfl, by omega, by omega, HC.out, Turns.refl _ _⟩
 ·have h0' : ¬ n ≤ 0 := h0
  have hn0 : ¬ n = 0 := by omega
  by_cases h1 : n ≤ 256
  ·go_enter Tryz.func47, Tryz.ntmps47
   go_wp2_with (go_at_call 48; refine (byte_any c _ HC.out).mono ?_; rintro e w1 ⟨x, rfl, hx0, hx1, hC1, hT1⟩)
   go_ret
   exact ⟨_, rfl, (by first | exact (emod_in (by omega)).1 | exact (tmod_in hx0 (by omega)).1), fun hn => (by first | exact (emod_in (by omega)).2 | exact (tmod_in hx0 (by omega)).2), hC1, hT1⟩
  ·go_enter Tryz.func47, Tryz.ntmps47
   go_wp2_with fail
   refine (byte_any c _ HC.out).mono ?_
   rintro e w1 ⟨x, rfl, hx0, hx1, hC1, hT1⟩
   have HC1 : Hid (Cur w1 c) := hC1
   have HT1 : Hid (Turns (fun k => k = c) w w1) := hT1
   clear hC1 hT1
   go_wp2_with fail
   refine (byte_any c _ HC1.out).mono ?_
   rintro e w2 ⟨y, rfl, hy0, hy1, hC2, hT2⟩
   have HC2 : Hid (Cur w2 c) := hC2
   have HT2 : Hid (Turns (fun k => k = c) w w2) := HT1.out.trans hT2
   clear hC2 hT2
   go_wp2_with fail
   refine (byte_any c _ HC2.out).mono ?_
   rintro e w3 ⟨z, rfl, hz0, hz1, hC3, hT3⟩
   have HC3 : Hid (Cur w3 c) := hC3
   have HT3 : Hid (Turns (fun k => k = c) w w3) := HT2.out.trans hT3
   clear hC3 hT3
   go_wp2_with fail
   refine (byte_any c _ HC3.out).mono ?_
   rintro e w4 ⟨t, rfl, ht0, ht1, hC4, hT4⟩
   have HC4 : Hid (Cur w4 c) := hC4
   have HT4 : Hid (Turns (fun k => k = c) w w4) := HT3.out.trans hT4
   clear hC4 hT4
   go_wp2
   go_ret
   exact ⟨_, rfl, (by first | exact (emod_in (by omega)).1 | exact (tmod_in (by omega) (by omega)).1), fun hn => (by first | exact (emod_in (by omega)).2 | exact (tmod_in (by omega) (by omega)).2), HC4.out, HT4.out⟩
def ListAt (w : World) (g m : Nat) (P : Int → Prop) : Prop := g < w.heap.size ∧ ∀ j, j < m → ∃ y : Int, P y ∧ w.cell? ⟨g, j, none⟩ = some (.int .i64 y)
theorem ListAt.turns {w w' : World} {S : Nat → Prop} {g m : Nat} {P : Int → Prop} (h : ListAt w g m P) (ht : Turns S w w') (hS : ¬ S g) : ListAt w' g m P :=
 ⟨Nat.lt_of_lt_of_le h.1 ht.size, fun j hj => by obtain ⟨y, hy, hc⟩ := h.2 j hj; exact ⟨y, hy, (ht.cell h.1 hS).trans hc⟩⟩
set_option maxHeartbeats 2000000 in
theorem pick_any (c g m : Nat) (P : Int → Prop) (w : World) (hm : 0 < m) (hm' : m ≤ 1000) (hg : ¬ g = c) (H : Cur w c) (L : ListAt w g m P) :
  Calls Tryz.prog 51 #[.pointer (some ⟨c, 0, none⟩), .slice (some ⟨g, 0, none⟩) m m] w fun e w' => ∃ y : Int, e = .returned (.int .i64 y) ∧ P y ∧ Cur w' c ∧ Turns (fun k => k = c) w w' := by
 have HC : Hid (Cur w c) := H
 have HL : Hid (ListAt w g m P) := L
 clear H L
 go_enter Tryz.func51, Tryz.ntmps51
 go_wp2_with fail
 refine (below_any c _ _ HC.out).mono ?_
 rintro e w1 ⟨x, rfl, hx0, hx1, hC1, hT1⟩
 have hx2 := hx1 (by omega)
 obtain ⟨k, rfl⟩ : ∃ k : Nat, x = (k : Int) := ⟨x.toNat, by omega⟩
 have hk : k < m := by omega
 have hidx : (0 : Int) ≤ (k : Int) ∧ (k : Int) < (m : Int) := by omega
 obtain ⟨y, hy, hc⟩ := (HL.out.turns hT1 hg).2 k hk
 have HY : Hid (P y) := hy
 have HC1 : Hid (Cur w1 c) := hC1
 have HT1 : Hid (Turns (fun k => k = c) w w1) := hT1
 clear hx1 hx2 hC1 hT1 hy
 go_wp2
 go_ret
 exact ⟨y, rfl, HY.out, HC1.out, HT1.out⟩
set_option maxHeartbeats 2000000 in
theorem new_any (a : Option Addr) (n cap : Nat) (w : World) (hn : n ≤ 281474976710656) (hC : CodeIn w w.heap.size a n) :
  Calls Tryz.prog 25 #[.slice a n cap] w fun e w' => ∃ c, e = .returned (.pointer (some ⟨c, 0, none⟩)) ∧ w.heap.size ≤ c ∧ Cur w' c ∧ Below w.heap.size w w' := by
 have HC : Hid (CodeIn w w.heap.size a n) := hC
 clear hC
 have hand : ∀ m : Int, bits .and .i64 m 1073741823 = m % 1073741824 := i64_mask30
 go_enter Tryz.func25, Tryz.ntmps25
 go_wp2
 go_loop [3, 4] (fun h i => ∃ (k : Nat) (x : Int), k ≤ n ∧ i = .int .i64 k ∧ h = .int .i64 x) (fun _ i => n - (intOf i).toNat)
 case atStart => exact ⟨0, _, Nat.zero_le _, rfl, rfl⟩
 case round =>
  obtain ⟨k, x, hk, rfl, rfl⟩ := hrel
  by_cases hlt : k < n
  ·by_cases h4 : k < 4000
   ·obtain ⟨b, off, rfl, hb, hz⟩ := HC.out.resolve_left (by omega)
    obtain ⟨z, hz1, hz2⟩ := hz k hlt
    have a1 : (k : Int) < (n : Int) := by omega
    have a2 : (k : Int) < 4000 := by omega
    have hidx : (0 : Int) ≤ (k : Int) ∧ (k : Int) < (n : Int) := by omega
    clear hz
    go_wp2
    go_round
    case rel => exact ⟨k + 1, _, by omega, by go_num, rfl⟩
    case measure => simp [intOf]; omega
   ·have a1 : (k : Int) < (n : Int) := by omega
    have a2 : ¬ (k : Int) < 4000 := by omega
    go_wp2
    go_ret
    refine ⟨_, rfl, Nat.le_refl _, ⟨a, n, cap, 0, x, ?_⟩, (Below.refl _ w).alloc (Nat.le_refl _) _⟩
    exact ⟨by simp, by simp, by simp, fun o => by simp, by simp, Nat.zero_le _, hn, HC.out.below ((Below.refl _ w).alloc (Nat.le_refl _) _) (Nat.le_refl _)⟩
  ·have a1 : ¬ (k : Int) < (n : Int) := by omega
   go_wp2
   go_ret
   refine ⟨_, rfl, Nat.le_refl _, ⟨a, n, cap, 0, x, ?_⟩, (Below.refl _ w).alloc (Nat.le_refl _) _⟩
   exact ⟨by simp, by simp, by simp, fun o => by simp, by simp, Nat.zero_le _, hn, HC.out.below ((Below.refl _ w).alloc (Nat.le_refl _) _) (Nat.le_refl _)⟩
end Go.Proofs.YtbljfphdghfkfaaGreatDoor

