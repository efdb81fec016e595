/- FMr, MByJ, MRdI, MRdN, MRdK -/
import Derived.Test.YtbljfphdghfkfaaGreatDoorModelsCardLLBent
import Derived.Test.YtbljfphdghfkfaaGreatDoorModelsCardG17
import Derived.Test.YtbljfphdghfkfaaGreatDoorModelsCardLMByS
import Derived.Test.YtbljfphdghfkfaaGreatDoorModelsCardG18
import Derived.Test.YtbljfphdghfkfaaGreatDoorModelsCardG19
import Derived.Test.YtbljfphdghfkfaaGreatDoorModelsCardG03
import Derived.Test.YtbljfphdghfkfaaGreatDoorModelsCardLMOpJ
import Derived.Test.YtbljfphdghfkfaaGreatDoorModelsCardG05
import Derived.Test.YtbljfphdghfkfaaGreatDoorModelsCardLMOkS
import Derived.Deep.CutBlock
import Derived.Deep.RegionLaw
/- What FnModels draws then: bytes that may be a model's. -/
namespace Go.Proofs.YtbljfphdghfkfaaGreatDoor
open Go.RowKit
theorem bytes_len {m : Md} (h : m.ok = true) : 1 ≤ (bytesL m).length ∧ (bytesL m).length ≤ 1200 := by
 obtain ⟨h1, h2, h3, h4⟩ := tiny_ok h
 have hr := rowsB_length h m.h.length
 have e : (bytesL m).length = 7 + 2 * m.i.length + (rowsB m m.h.length).length + 6 * m.e.length := by
  simp only [bytesL, headB, List.length_append, List.length_cons, List.length_nil, twoB_length, iniB_length, evsB_length]
 omega
theorem byCells_set (l : List UInt8) (j : Nat) (b : UInt8) : By.intCells (l.set j b) = (By.intCells l).set j (.int .u8 (b.toNat : Int)) := by simp [By.intCells, List.map_set]
theorem RowBy.set {B g : Nat} {w : World} {v : Value} {l : List UInt8} (h : RowBy B w v l) (hv : v.ownBlock = some g) (j : Nat) {z : Int} (h0 : 0 ≤ z) (h1 : z ≤ 255) : RowBy B (w.setCell ⟨g, j, none⟩ (.int .u8 z)) v (l.set j (byteOf z)) := by
 have := owns_set (u := .int .u8 z) h hv (o := j)
 unfold RowBy
 rw [byCells_set, byteOf_val, show z % 256 = z by omega, List.length_set]
 exact this
theorem RowBy.cut {B g c : Nat} {w : World} {l : List UInt8} (h : RowBy B w (.slice (some ⟨g, 0, none⟩) l.length c) l) {i : Nat} (hi : i ≤ l.length) : By.IsI w (.slice (some ⟨g, 0, none⟩) i c) (l.take i) := by
 obtain ⟨a, cap, e, h1, h2, h3⟩ := h.own.isI
 simp only [Value.slice.injEq, true_and] at e
 obtain ⟨rfl, rfl⟩ := e
 have hl : (l.take i).length = i := by rw [List.length_take]; omega
 refine ⟨some ⟨g, 0, none⟩, c, by rw [hl], by omega, h2, ?_⟩
 rcases h3 with h3 | ⟨b, off, e, hlt, hc⟩
 ·exact .inl (by rw [h3]; simp)
 ·refine .inr ⟨b, off, e, hlt, fun k hk => ?_⟩
  rw [hc k (by omega)]
  have : By.intAt (l.take i) k = By.intAt l k := by simp [By.intAt, List.getD_eq_getElem?_getD, List.getElem?_take_of_lt (by omega : k < i)]
  rw [this]
theorem mr_cell {B : Nat} {w : World} {x : Value} {l : List UInt8} (h : RowBy B w x l) : By.IsI w x l := h.own.isI
set_option maxRecDepth 100000 in
set_option maxHeartbeats 8000000 in
theorem drawMR_any (a : Option Addr) (n cap : Nat) (w : World) (hn : n ≤ 281474976710656) (hC : CodeIn w w.heap.size a n) :
  Calls Tryz.prog 14 #[.slice a n cap] w fun r w' => ∃ (l : List UInt8) (y : Value), r = .returned y ∧ By.IsI w' y l ∧ l.length ≤ 4000 ∧ Below w.heap.size w w' := by
 have HC : Hid (CodeIn w w.heap.size a n) := hC
 clear hC
 obtain ⟨i0, hi, hy0, hy1, hy2⟩ := info_parts By.info5
 go_enter Tryz.func14, Tryz.ntmps14
 go_wp2_with fail
 refine (new_any a n cap _ hn HC.out).mono ?_
 rintro e w1 ⟨c, rfl, hcw, hC1, hB1⟩
 have hcl : c < w1.heap.size := hC1.lt
 have B1 : Hid (Below w.heap.size w w1) := hB1
 have C1 : Hid (Cur w1 c) := hC1
 clear hC1 hB1 HC
 go_wp2_with fail
 refine (l2draw_any c _ C1.out).mono ?_
 rintro e w2 ⟨m, vi, vh, vs, us, rfl, hok, hMO, _, hC, hT⟩
 have HOK : Hid (m.ok = true) := hok
 have HM : Hid (IsM w2 (.agg #[.int .i64 m.n, .int .i64 m.s, vi, vh, vs, .int .i64 m.z]) m) := hMO.mdf.isM
 have hz2 : w1.heap.size ≤ w2.heap.size := hT.size
 have B2 : Hid (Below w.heap.size w w2) := B1.out.trans (hT.to_below (fun k hk => by omega) B1.out.size)
 have C2 : Hid (Cur w2 c) := hC
 clear hok hMO hC hT B1 C1
 go_wp2_with fail
 refine (sBytesR_any _ m _ (tiny_ok HOK.out).small HOK.out HM.out).mono ?_
 rintro e w3 ⟨u, rfl, hR, hB⟩
 have hc2 : c < w2.heap.size := C2.out.lt
 have C3 : Hid (Cur w3 c) := C2.out.below hB hc2
 have B3 : Hid (Below w.heap.size w w3) := B2.out.trans (hB.mono B2.out.size)
 obtain ⟨hl1, hl2⟩ := bytes_len HOK.out
 generalize bytesL m = l at hR hl1 hl2
 obtain ⟨g, cp, rfl, hg, _, hfz⟩ := owns_some hR (by omega)
 have R3 : Hid (RowBy w2.heap.size w3 (.slice (some ⟨g, 0, none⟩) l.length cp) l) := hR
 clear hR hB C2 B2 HM HOK hfz
 go_wp2_with fail
 refine (once_any c 3 _ C3.out).mono ?_
 rintro e w4 ⟨x, rfl, hC, hT⟩
 have B4 : Hid (Below w.heap.size w w4) := B3.out.trans (hT.to_below (fun k hk => by omega) B3.out.size)
 have R4 : Hid (RowBy w2.heap.size w4 (.slice (some ⟨g, 0, none⟩) l.length cp) l) := owns_turns R3.out hT (fun k hk e => by simp [Value.ownBlock] at hk; omega)
 have C4 : Hid (Cur w4 c) := hC
 clear hC hT B3 R3 C3
 cases x with
 | false =>
  go_wp2
  go_ret
  exact ⟨l, _, rfl, R4.out.own.isI, by omega, B4.out⟩
 | true =>
  go_wp2_with fail
  refine (below_any c l.length _ C4.out).mono ?_
  rintro e w5 ⟨i, rfl, hi0, hi1, hC, hT⟩
  have hi1 := hi1 (by omega)
  obtain ⟨i, rfl⟩ : ∃ j : Nat, i = (j : Int) := ⟨i.toNat, by omega⟩
  have hil : i < l.length := by omega
  have B5 : Hid (Below w.heap.size w w5) := B4.out.trans (hT.to_below (fun k hk => by omega) B4.out.size)
  have R5 : Hid (RowBy w2.heap.size w5 (.slice (some ⟨g, 0, none⟩) l.length cp) l) := owns_turns R4.out hT (fun k hk e => by simp [Value.ownBlock] at hk; omega)
  have C5 : Hid (Cur w5 c) := hC
  clear hC hT B4 R4 C4
  go_wp2_with fail
  refine (below_any c 3 _ C5.out).mono ?_
  rintro e w6 ⟨s, rfl, hs0, hs1, hC, hT⟩
  have hs1 := hs1 (by omega)
  have B6 : Hid (Below w.heap.size w w6) := B5.out.trans (hT.to_below (fun k hk => by omega) B5.out.size)
  have R6 : Hid (RowBy w2.heap.size w6 (.slice (some ⟨g, 0, none⟩) l.length cp) l) := owns_turns R5.out hT (fun k hk e => by simp [Value.ownBlock] at hk; omega)
  have C6 : Hid (Cur w6 c) := hC
  clear hC hT B5 R5 C5
  have h3 : s = 0 ∨ s = 1 ∨ s = 2 := by omega
  clear hs0 hs1
  rcases h3 with rfl | rfl | rfl
  ·go_wp2_with fail
   refine (byte_any c _ C6.out).mono ?_
   rintro e w7 ⟨x, rfl, hx0, hx1, hC, hT⟩
   have B7 : Hid (Below w.heap.size w w7) := B6.out.trans (hT.to_below (fun k hk => by omega) B6.out.size)
   have R7 : Hid (RowBy w2.heap.size w7 (.slice (some ⟨g, 0, none⟩) l.length cp) l) := owns_turns R6.out hT (fun k hk e => by simp [Value.ownBlock] at hk; omega)
   clear hC hT B6 R6 C6
   obtain ⟨_, _, e7, _, hc7, hf7⟩ := owns_some R7.out (by omega)
   simp only [Value.slice.injEq, Option.some.injEq, Addr.mk.injEq, true_and, and_true] at e7
   obtain ⟨e7a, e7b⟩ := e7
   rw [← e7a] at hc7 hf7
   have c7 := hc7 i (by omega)
   have f7 := hf7 i
   have hv7 : (By.intCells l)[i]? = some (.int .u8 (((By.intAt l i).toNat : Nat) : Int)) := by simp [By.intCells, By.intAt, List.getD_eq_getElem?_getD, hil]
   rw [hv7] at c7
   have hwx : IntKind.u8.wrap x = x := by show x % 256 = x; omega
   clear hc7 hf7 hv7 e7a e7b
   go_wp2
   go_ret
   exact ⟨l.set i (byteOf x), _, rfl, mr_cell (R7.out.set (g := g) rfl i hx0 hx1), by rw [List.length_set]; omega, B7.out.setCell (show w.heap.size ≤ g by omega) _⟩
  ·have hcp : (i : Int) ≤ (cp : Int) := by
    obtain ⟨_, _, e, h1, _⟩ := R6.out.own.isI
    simp only [Value.slice.injEq, true_and] at e
    omega
   go_wp2
   all_goals
    go_ret
    exact ⟨l.take i, _, rfl, R6.out.cut (by omega), by rw [List.length_take]; omega, B6.out⟩
  ·have hg6 : g < w6.heap.size := owns_lt R6.out rfl
   go_wp2_with (at_builtin; refine wpList_append_own _ rfl _ _ 22 rfl w2.heap.size 5 i0 (.int .u8 0) 1 1 Tryz.underlying22 hi hy0 hy1 hy2 rfl (by decide) (.slice (some ⟨g, 0, none⟩) l.length cp) _ _ rfl (World.ownsRow.alloc R6.out _) ⟨w6.heap.size, 0, none⟩ 1 1 [.int .u8 0] rfl rfl (at_new1 _ _) (fun u hu => by simp at hu; subst hu; rfl) (by unfold maxLen; omega) (by omega) (by simp; omega) ?_; intro v7 w7 hown hgrow hnil)
   go_ret
   exact ⟨l ++ [byteOf 0], _, rfl, (RowBy.grow hown (cells_oneS (by omega) (by omega)) rfl).own.isI, by simp; omega, (B6.out.alloc B6.out.size _).grown hgrow (by simp; omega) (fun j e => by simp [Value.ownBlock] at e; omega)⟩
end Go.Proofs.YtbljfphdghfkfaaGreatDoor

/- The program's ModelBytes. -/
namespace Go.Proofs.YtbljfphdghfkfaaGreatDoor
open Go.RowKit
set_option maxRecDepth 100000 in
set_option maxHeartbeats 8000000 in
theorem iBytesM (x : Value) (m : Md) (w : World) (hs : SmallM m) (h : IsM w x m) :
  Calls Tryz.prog 6 #[x] w fun e w' => ∃ u, e = .returned (.tuple #[u, .bool m.ok]) ∧ By.OwnI w.heap.size w' u (bytesR m) ∧ Below w.heap.size w w' := by
 have HX : Hid (IsM w x m) := h
 obtain ⟨vi, vh, vs, rfl, ⟨ai, ci, rfl, hi1, hi2, hi3⟩, ⟨ah, ch, rfl, hh1, hh2, hh3⟩, ⟨ae, ce, rfl, he1, he2, he3⟩⟩ := h
 have hi0 : m.i.length ≤ 1048576 := hs.i
 have hh0 : m.h.length ≤ 1048576 := hs.h
 have he0 : m.e.length ≤ 1048576 := hs.e
 have HS : Hid (SmallM m) := hs
 clear hs hi1 hi2 hh1 hh2 he1 he2
 have HI : Hid (m.i = [] ∨ ∃ b off, ai = some ⟨b, off, none⟩ ∧ IntsAt w b off m.i) := hi3
 have HH : Hid (m.h = [] ∨ ∃ b off, ah = some ⟨b, off, none⟩ ∧ b < w.heap.size ∧ ∀ i, i < m.h.length → ∃ u, w.cell? ⟨b, off + i, none⟩ = some u ∧ IsO w u (hAt m.h i)) := hh3
 have HEV : Hid (m.e = [] ∨ ∃ b off, ae = some ⟨b, off, none⟩ ∧ EvsAt w b off m.e) := he3
 clear hi3 hh3 he3 hi0 he0 hh0
 obtain ⟨W0, hW0⟩ : ∃ W0, w.alloc (.cells #[.int .i64 m.n, .int .i64 m.s, .slice ai m.i.length ci, .slice ah m.h.length ch, .slice ae m.e.length ce, .int .i64 m.z] 27) = W0 := ⟨_, rfl⟩
 have HB0 : Hid (Below w.heap.size w W0) := by rw [← hW0]; exact (Below.refl _ w).alloc (Nat.le_refl _) _
 have HP0 : Hid (Bk W0 w.heap.size 27 #[.int .i64 m.n, .int .i64 m.s, .slice ai m.i.length ci, .slice ah m.h.length ch, .slice ae m.e.length ce, .int .i64 m.z]) := by rw [← hW0]; exact Bk.new w _ _
 have p0 := HP0.out.cell (i := 0) rfl
 have p1 := HP0.out.cell (i := 1) rfl
 have p2 := HP0.out.cell (i := 2) rfl
 have p3 := HP0.out.cell (i := 3) rfl
 have p4 := HP0.out.cell (i := 4) rfl
 have p5 := HP0.out.cell (i := 5) rfl
 go_enter Tryz.func6, Tryz.ntmps6
 go_wp2_with fail
 clear hW0 p0 p1 p2 p3 p4 p5
 refine (iModM _ m _ HS.out (HX.out.below HB0.out)).mono ?_
 rintro e W1 ⟨rfl, hb⟩
 have HB1 : Hid (Below w.heap.size w W1) := HB0.out.trans (hb.mono HB0.out.size)
 have HP1 : Hid (Bk W1 w.heap.size 27 #[.int .i64 m.n, .int .i64 m.s, .slice ai m.i.length ci, .slice ah m.h.length ch, .slice ae m.e.length ce, .int .i64 m.z]) := HP0.out.below hb
 clear hb HB0 HP0
 cases hok : m.ok
 case false =>
  have HE : Hid (bytesR m = []) := (by simp [bytesR, hok] : bytesR m = [])
  have HOF : Hid (m.ok = false) := hok
  clear hok
  go_wp2
  go_ret2
  exact ⟨.slice none 0 0, by rw [HOF.out]; rfl, by rw [HE.out]; exact By.OwnI.nil _ _, HB1.out⟩
 have HE : Hid (bytesR m = bytesL m) := (by simp [bytesR, hok] : bytesR m = bytesL m)
 have HOK : Hid (m.ok = true) := hok
 obtain ⟨d0, d1, d2, d3, d4, d5, d6, d7, d8, d9⟩ := (ok_all hok).1
 clear hok
 have hn0 : 0 ≤ m.n := by omega
 have hn1 : m.n ≤ 255 := by omega
 have hh0 : (0 : Int) ≤ (m.h.length : Int) := by omega
 have hh1 : (m.h.length : Int) ≤ 255 := by omega
 have he0 : (0 : Int) ≤ (m.e.length : Int) := by omega
 have he1 : (m.e.length : Int) ≤ 255 := by omega
 have HD : Hid ((0 ≤ m.z ∧ m.z ≤ 65535) ∧ (0 ≤ m.s ∧ m.s ≤ 65535) ∧ m.i.length ≤ 4 ∧ m.h.length ≤ 4 ∧ m.e.length ≤ 6) := ⟨⟨d8, by omega⟩, ⟨d2, d3⟩, by omega, d6, d7⟩
 clear d0 d1 d2 d3 d4 d5 d6 d7 d8 d9
 obtain ⟨i0, hi, hz0, hz1, hz2⟩ := info_parts By.info5
 obtain ⟨B, hBe⟩ : ∃ B, B = W1.heap.size := ⟨_, rfl⟩
 obtain ⟨W2, hW2⟩ : ∃ W2, W1.alloc (.cells #[.int .u8 m.n, .int .u8 (m.h.length : Int), .int .u8 (m.e.length : Int)] 5) = W2 := ⟨_, rfl⟩
 have HR2 : Hid (RowBy B W2 (.slice (some ⟨W1.heap.size, 0, none⟩) 3 3) (headB m)) := by
  have := row_of3 W1 (.int .u8 m.n) (.int .u8 (m.h.length : Int)) (.int .u8 (m.e.length : Int))
  rw [hW2, ← hBe] at this
  have e : By.intCells (headB m) = [.int .u8 m.n, .int .u8 (m.h.length : Int), .int .u8 (m.e.length : Int)] := by
   have e1 : By.intCells (headB m) = By.intCells [byteOf m.n] ++ (By.intCells [byteOf (m.h.length : Int)] ++ By.intCells [byteOf (m.e.length : Int)]) := rfl
   rw [e1, cells_oneS hn0 hn1, cells_oneS hh0 hh1, cells_oneS he0 he1]; rfl
  show W2.ownsRow B 5 1 _ 3 (By.intCells (headB m))
  rw [e]
  rw [← hBe]
  exact this
 have hwB : w.heap.size < B := hBe ▸ HP1.out.lt
 have HBB : Hid (Below B W1 W2) := hW2 ▸ (Below.refl B W1).alloc (by omega) _
 have HP2 : Hid (Bk W2 w.heap.size 27 #[.int .i64 m.n, .int .i64 m.s, .slice ai m.i.length ci, .slice ah m.h.length ch, .slice ae m.e.length ce, .int .i64 m.z]) := HP1.out.keep HBB.out hwB
 have HB2 : Hid (Below w.heap.size w W2) := HB1.out.trans (HBB.out.mono (by omega))
 have HZ : Hid (B ≤ W1.heap.size) := (by omega : B ≤ W1.heap.size)
 have p0 := HP1.out.cell (i := 0) rfl
 have p3 := HP1.out.cell (i := 3) rfl
 have p4 := HP1.out.cell (i := 4) rfl
 have q5 := HP2.out.cell (i := 5) rfl
 clear hBe
 go_wp2_with fail
 clear hW2 p0 p3 p4 q5
 have hs2 : B ≤ W2.heap.size := Nat.le_trans HZ.out HBB.out.size
 refine (iTwo_any B _ _ _ _ hs2 (by simp [headB]) HD.out.1.1 HD.out.1.2 HR2.out).mono ?_
 rintro e w3 ⟨v3, rfl, hr3, ht3⟩
 have hb3 := ht3.to_below (fun k e => row_ge HR2.out e) hs2
 have HR3 : Hid (RowBy B w3 v3 (headB m ++ twoB m.z)) := hr3
 have HP3 : Hid (Bk w3 w.heap.size 27 #[.int .i64 m.n, .int .i64 m.s, .slice ai m.i.length ci, .slice ah m.h.length ch, .slice ae m.e.length ce, .int .i64 m.z]) := HP2.out.keep hb3 hwB
 have HB3 : Hid (Below w.heap.size w w3) := HB2.out.trans (hb3.mono (by omega))
 have HBB3 : Hid (Below B W1 w3) := HBB.out.trans hb3
 have hs3 : B ≤ w3.heap.size := Nat.le_trans hs2 hb3.size
 have q1 := HP3.out.cell (i := 1) rfl
 clear hr3 ht3 hb3 HR2 HP2 HB2 HBB hs2
 go_wp2_with fail
 clear q1
 refine (iTwo_any B _ _ _ _ hs3 (by simp [headB, twoB]) HD.out.2.1.1 HD.out.2.1.2 HR3.out).mono ?_
 rintro e w4 ⟨v4, rfl, hr4, ht4⟩
 have hb4 := ht4.to_below (fun k e => row_ge HR3.out e) hs3
 have HR4 : Hid (RowBy B w4 v4 (headB m ++ twoB m.z ++ twoB m.s)) := hr4
 have HP4 : Hid (Bk w4 w.heap.size 27 #[.int .i64 m.n, .int .i64 m.s, .slice ai m.i.length ci, .slice ah m.h.length ch, .slice ae m.e.length ce, .int .i64 m.z]) := HP3.out.keep hb4 hwB
 have HB4 : Hid (Below w.heap.size w w4) := HB3.out.trans (hb4.mono (by omega))
 have hs4 : B ≤ w4.heap.size := Nat.le_trans hs3 hb4.size
 have HLL : Hid (bytesL m = headB m ++ twoB m.z ++ twoB m.s ++ iniB m m.i.length ++ rowsB m m.h.length ++ evsB m m.e.length) := rfl
 have hl4 : (headB m ++ twoB m.z ++ twoB m.s).length ≤ 7 := by simp [headB, twoB]
 generalize headB m ++ twoB m.z ++ twoB m.s = l4 at HR4 HLL hl4
 have q2 := HP4.out.cell (i := 2) rfl
 clear hr4 ht4 hb4 HR3 HP3 HB3 HBB3 hs3
 go_wp2
 clear q2
 go_loopw [4, 37] (fun o i wr => ∃ (k : Nat) (v : Value), k ≤ m.i.length ∧ v = o ∧ i = .int .i64 k ∧ RowBy B wr o (l4 ++ iniB m k) ∧ Below B w4 wr) (fun _ i _ => m.i.length - (intOf i).toNat)
 case atStart => exact ⟨0, _, Nat.zero_le _, rfl, rfl, by simpa [iniB] using HR4.out, Below.refl _ _⟩
 case round =>
  clear HR4
  obtain ⟨k, o, hk, rfl, rfl, hR, hBw⟩ := hrel
  have HR4 : Hid (RowBy B wr o (l4 ++ iniB m k)) := hR
  have HBW : Hid (Below B w4 wr) := hBw
  have hsw : B ≤ wr.heap.size := Nat.le_trans hs4 hBw.size
  have HBX : Hid (Below w.heap.size w wr) := HB4.out.trans (hBw.mono (by omega))
  clear hR hBw
  have hd3 : m.i.length ≤ 4 := HD.out.2.2.1
  by_cases hlt : k < m.i.length
  ·obtain ⟨b, off, rfl, hI⟩ := HI.out.resolve_left (by intro e; rw [e] at hlt; simp at hlt)
   have f0 := (HBX.out.cell (p := ⟨b, off + k, none⟩) hI.1).trans (hI.2 k hlt)
   have HJ : Hid (0 ≤ intAt m.i k ∧ intAt m.i k ≤ 999) := ok_int HOK.out hlt
   clear hI
   go_wp2_with fail
   clear f0
   refine (iTwo_any B _ _ _ _ hsw (by rw [List.length_append, iniB_length]; omega) HJ.out.1 (by have := HJ.out.2; omega) HR4.out).mono ?_
   rintro e w5 ⟨v5, rfl, hr5, ht5⟩
   have HR5 : Hid (RowBy B w5 v5 (l4 ++ iniB m k ++ twoB (intAt m.i k))) := hr5
   have HBW5 : Hid (Below B w4 w5) := HBW.out.trans (ht5.to_below (fun k e => row_ge HR4.out e) hsw)
   clear hr5 ht5
   go_wp2
   go_roundw
   case rel => exact ⟨k + 1, _, by omega, rfl, by go_num, by have := HR5.out; rw [List.append_assoc] at this; exact this, HBW5.out⟩
   case measure => simp [intOf]; omega
  ·obtain rfl : k = m.i.length := by omega
   have hl5 : (l4 ++ iniB m m.i.length).length ≤ 15 := by rw [List.length_append, iniB_length]; omega
   generalize l4 ++ iniB m m.i.length = l5 at HR4 HLL hl5
   obtain ⟨W5, hW5⟩ : ∃ W5, W5 = wr := ⟨_, rfl⟩
   subst hW5
   have HP5 : Hid (Bk W5 w.heap.size 27 #[.int .i64 m.n, .int .i64 m.s, .slice ai m.i.length ci, .slice ah m.h.length ch, .slice ae m.e.length ce, .int .i64 m.z]) := HP4.out.keep HBW.out hwB
   have q3 := HP5.out.cell (i := 3) rfl
   clear HBW HP4 HB4 hs4
   go_wp2
   clear q3
   go_loopw [4, 48] (fun o i wr => ∃ (k : Nat) (v : Value), k ≤ m.h.length ∧ v = o ∧ i = .int .i64 k ∧ RowBy B wr o (l5 ++ rowsB m k) ∧ Below B W5 wr) (fun _ i _ => m.h.length - (intOf i).toNat)
   case atStart => exact ⟨0, _, Nat.zero_le _, rfl, rfl, by simpa [rowsB] using HR4.out, Below.refl _ _⟩
   case round =>
    clear HR4
    obtain ⟨k, o, hk, rfl, rfl, hR, hBw⟩ := hrel
    have HR4 : Hid (RowBy B wr o (l5 ++ rowsB m k)) := hR
    have HBW : Hid (Below B W5 wr) := hBw
    have hsw2 : B ≤ wr.heap.size := Nat.le_trans hsw hBw.size
    have HBY : Hid (Below w.heap.size w wr) := HBX.out.trans (hBw.mono (by omega))
    have hd4 : m.h.length ≤ 4 := HD.out.2.2.2.1
    clear hR hBw
    by_cases hlt : k < m.h.length
    ·obtain ⟨b, off, rfl, hb, hc⟩ := HH.out.resolve_left (by intro e; rw [e] at hlt; simp at hlt)
     obtain ⟨u, f0, hu⟩ := hc k hlt
     replace f0 := (HBY.out.cell (p := ⟨b, off + k, none⟩) hb).trans f0
     have HU : Hid (∃ a cap, u = .slice a (hAt m.h k).length cap ∧ (hAt m.h k = [] ∨ ∃ b off, a = some ⟨b, off, none⟩ ∧ b < B ∧ OsAt wr b off (hAt m.h k))) := by
      obtain ⟨a, cap, e, _, _, h⟩ := hu
      exact ⟨a, cap, e, h.imp id (fun ⟨b, off, e, h⟩ => ⟨b, off, e, by have := h.1; omega, h.below HBY.out h.1⟩)⟩
     have HSM : Hid (∀ q, q < (hAt m.h k).length → small (oAt (hAt m.h k) q)) := fun q hq => ok_small HOK.out hlt hq
     have HR8 : Hid ((hAt m.h k).length ≤ 8) := ok_rowB HOK.out k
     obtain ⟨a1, c1, rfl, _⟩ := hu
     clear hc
     go_wp2_with fail
     clear f0
     refine (handler_any B _ _ _ (hAt m.h k) _ hsw2 (by have := rowsB_length HOK.out k; rw [List.length_append]; omega) (by have := HR8.out; omega) HSM.out HR4.out HU.out).mono ?_
     rintro e w5 ⟨v5, rfl, hr5, hb5⟩
     have HR5 : Hid (RowBy B w5 v5 (l5 ++ rowsB m k ++ rowBs (hAt m.h k))) := hr5
     have HBW5 : Hid (Below B W5 w5) := HBW.out.trans hb5
     clear hr5 hb5
     go_wp2
     go_roundw
     case rel => exact ⟨k + 1, _, by omega, rfl, by go_num, by have := HR5.out; rw [List.append_assoc] at this; exact this, HBW5.out⟩
     case measure => simp [intOf]; omega
    ·obtain rfl : k = m.h.length := by omega
     have hl6 : (l5 ++ rowsB m m.h.length).length ≤ 300 := by have := rowsB_length HOK.out m.h.length; rw [List.length_append]; omega
     generalize l5 ++ rowsB m m.h.length = l6 at HR4 HLL hl6
     obtain ⟨W6, hW6⟩ : ∃ W6, W6 = wr := ⟨_, rfl⟩
     subst hW6
     have HP6 : Hid (Bk W6 w.heap.size 27 #[.int .i64 m.n, .int .i64 m.s, .slice ai m.i.length ci, .slice ah m.h.length ch, .slice ae m.e.length ce, .int .i64 m.z]) := HP5.out.keep HBW.out hwB
     have q4 := HP6.out.cell (i := 4) rfl
     clear HBW HP5 HBX hsw
     go_wp2
     clear q4
     go_loopw [4, 59] (fun o i wr => ∃ (k : Nat) (v : Value), k ≤ m.e.length ∧ v = o ∧ i = .int .i64 k ∧ RowBy B wr o (l6 ++ evsB m k) ∧ Below B W6 wr) (fun _ i _ => m.e.length - (intOf i).toNat)
     case atStart => exact ⟨0, _, Nat.zero_le _, rfl, rfl, by simpa [evsB] using HR4.out, Below.refl _ _⟩
     case round =>
      clear HR4
      obtain ⟨k, o, hk, rfl, rfl, hR, hBw⟩ := hrel
      have HR4 : Hid (RowBy B wr o (l6 ++ evsB m k)) := hR
      have HBW : Hid (Below B W6 wr) := hBw
      have hsw3 : B ≤ wr.heap.size := Nat.le_trans hsw2 hBw.size
      have HBZ : Hid (Below w.heap.size w wr) := HBY.out.trans (hBw.mono (by omega))
      have hd5 : m.e.length ≤ 6 := HD.out.2.2.2.2
      clear hR hBw
      by_cases hlt : k < m.e.length
      ·obtain ⟨b, off, rfl, hb, hc⟩ := HEV.out.resolve_left (by intro e; rw [e] at hlt; simp at hlt)
       obtain ⟨f0, f1, f2, f3, f4, f5, f6⟩ := (hc k hlt).below HBZ.out hb
       have HEB : Hid (evsB m (k + 1) = evsB m k ++ evB (evAt m.e k)) := rfl
       generalize hev : evAt m.e k = e at f0 f1 f2 f3 f4 f5 f6 HEB
       obtain ⟨t, s1, qq, d, kk, v, g⟩ := e
       have HEO : Hid ((0 ≤ t ∧ t ≤ 1000) ∧ (0 ≤ d ∧ d ≤ 3) ∧ (0 ≤ kk ∧ kk ≤ 3) ∧ 0 ≤ v ∧ v ≤ 999) := ok_ev HOK.out hlt hev
       clear hc hev
       obtain ⟨V, hV⟩ : ∃ V, wr.alloc (.cells #[.int .i64 t, .int .i64 s1, .int .i64 qq, .int .i64 d, .int .i64 kk, .int .i64 v, .int .i64 g] 53) = V := ⟨_, rfl⟩
       have hbV : Below wr.heap.size wr V := hV ▸ (Below.refl _ wr).alloc (Nat.le_refl _) _
       have HRV : Hid (RowBy B V o (l6 ++ evsB m k)) := HR4.out.below hbV
       have HBV : Hid (Below B W6 V) := HBW.out.trans (hbV.mono hsw3)
       have hQV : Bk V wr.heap.size 53 #[.int .i64 t, .int .i64 s1, .int .i64 qq, .int .i64 d, .int .i64 kk, .int .i64 v, .int .i64 g] := hV ▸ Bk.new _ _ _
       have hsV : B ≤ V.heap.size := Nat.le_trans hsw3 hbV.size
       have e0 := hQV.cell (i := 0) rfl
       have e1 := hQV.cell (i := 1) rfl
       have e2 := hQV.cell (i := 2) rfl
       have e3 := hQV.cell (i := 3) rfl
       have e4 := hQV.cell (i := 4) rfl
       have e5 := hQV.cell (i := 5) rfl
       have e6 := hQV.cell (i := 6) rfl
       clear hbV hQV
       go_wp2_with fail
       clear f0 f1 f2 f3 f4 f5 f6 e0 e1 e2 e3 e4 e5 e6 hV
       refine (start_any B _ _ _ _ _ _ _ _ _ _ hsV (by rw [List.length_append, evsB_length]; omega) HEO.out.1.1 (by have := HEO.out.1.2; omega) HEO.out.2.1.1 (by have := HEO.out.2.1.2; omega) HEO.out.2.2.1.1 (by have := HEO.out.2.2.1.2; omega) HEO.out.2.2.2.1 (by have := HEO.out.2.2.2.2; omega) HRV.out).mono ?_
       rintro e w5 ⟨v5, rfl, hr5, hb5⟩
       have HR5 : Hid (RowBy B w5 v5 (l6 ++ evsB m (k + 1))) := by rw [HEB.out, ← List.append_assoc]; exact hr5
       have HBW5 : Hid (Below B W6 w5) := HBV.out.trans hb5
       clear hr5 hb5
       go_wp2
       go_roundw
       case rel => exact ⟨k + 1, _, by omega, rfl, by go_num, HR5.out, HBW5.out⟩
       case measure => simp [intOf]; omega
      ·obtain rfl : k = m.e.length := by omega
       go_wp2
       go_ret2
       exact ⟨o, by rw [HOK.out]; rfl, by rw [HE.out, HLL.out]; exact HR4.out.own.mono (Nat.le_of_lt hwB), HBZ.out⟩
end Go.Proofs.YtbljfphdghfkfaaGreatDoor

/- The program's byteReader: one and two. -/
namespace Go.Proofs.YtbljfphdghfkfaaGreatDoor
open Go.RowKit
def Rd (B : Nat) (w : World) (R : Nat) (l : List UInt8) (p : Nat) : Prop := B ≤ R ∧ ∃ a cap, Bk w R 74 #[.slice a (l.length - p) cap] ∧ p ≤ l.length ∧ l.length - p ≤ cap ∧ cap ≤ maxLen ∧ (p = l.length ∨ ∃ b off, a = some ⟨b, off + p, none⟩ ∧ b < B ∧ By.IntsAt w b off l)
def Pan (e : Ending) : Prop := ∃ u pv, e = .panicked [{ v := .iface u pv, recovered := false }]
theorem Rd.bk {B : Nat} {w : World} {R : Nat} {l : List UInt8} {p : Nat} (h : Rd B w R l p) : ∃ vs, Bk w R 74 vs := by
 obtain ⟨_, a, cap, hB, _⟩ := h
 exact ⟨_, hB⟩
theorem Rd.turns {S : Nat → Prop} {B : Nat} {w w' : World} {R : Nat} {l : List UInt8} {p : Nat} (h : Rd B w R l p) (ht : Turns S w w') (hR : ¬ S R) (hS : ∀ k, S k → B ≤ k) : Rd B w' R l p := by
 obtain ⟨h0, a, cap, hB, h1, h2, h3, h4⟩ := h
 refine ⟨h0, a, cap, hB.turns ht hR, h1, h2, h3, h4.imp id ?_⟩
 rintro ⟨b, off, rfl, hbR, hI⟩
 exact ⟨b, off, rfl, hbR, Nat.lt_of_lt_of_le hI.1 ht.size, fun i hi => (ht.cell hI.1 (fun e => Nat.lt_irrefl _ (Nat.lt_of_lt_of_le hbR (hS _ e)))).trans (hI.2 i hi)⟩
theorem Rd.below {B : Nat} {w w' : World} {R : Nat} {l : List UInt8} {p : Nat} (h : Rd B w R l p) (hb : Below w.heap.size w w') : Rd B w' R l p := h.turns (S := fun _ => False) (Turns.of_below hb) id (fun _ e => e.elim)
theorem Rd.alloc {B : Nat} {w : World} {R : Nat} {l : List UInt8} {p : Nat} (h : Rd B w R l p) (x : Obj) : Rd B (w.alloc x) R l p := h.below ((Below.refl _ w).alloc (Nat.le_refl _) x)
theorem Rd.drew {B : Nat} {w : World} {R : Nat} {l : List UInt8} {p : Nat} (h : Rd B w R l p) : Rd B w.drew R l p := h.below (Below.refl _ w).drew
theorem Rd.lt {B : Nat} {w : World} {R : Nat} {l : List UInt8} {p : Nat} (h : Rd B w R l p) : R < w.heap.size := h.bk.choose_spec.lt
theorem Rd.put {B : Nat} {w : World} {R : Nat} {l : List UInt8} {p : Nat} (h : Rd B w R l p) {b : Nat} (hb : B ≤ b) (hR : R ≠ b) (o : Nat) (u : Value) : Rd B (w.setCell ⟨b, o, none⟩ u) R l p := h.turns (put1_turns w b o u) hR (fun _ e => e ▸ hb)
theorem rd_n {a p : Nat} (h : p < a) : ∃ n, a - p = n + 1 ∧ a - (p + 1) = n := ⟨a - p - 1, by omega, by omega⟩
theorem nxt_one {l : List UInt8} {p q : Nat} (h : nxt l 1 (some p) = some q) : p + 1 ≤ l.length ∧ q = p + 1 := by
 unfold nxt at h
 simp at h
 exact ⟨h.1, h.2.symm⟩
theorem nxt_one_none {l : List UInt8} {p : Nat} (h : nxt l 1 (some p) = none) : ¬ p + 1 ≤ l.length := by
 intro hp
 simp [nxt, hp] at h
theorem nxt_two_none {l : List UInt8} {p : Nat} (h : nxt l 1 (some (p + 1)) = none) : nxt l 2 (some p) = none := by
 have := nxt_one_none h
 have h2 : ¬ p + 2 ≤ l.length := this
 simp [nxt, h2]
theorem nxt_two_none' {l : List UInt8} {p : Nat} (h : nxt l 1 (some p) = none) : nxt l 2 (some p) = none := by
 have := nxt_one_none h
 have h2 : ¬ p + 2 ≤ l.length := by omega
 simp [nxt, h2]
set_option maxRecDepth 100000 in
set_option maxHeartbeats 8000000 in
theorem one_any (B R : Nat) (l : List UInt8) (p : Nat) (w : World) (_hl : l.length ≤ 1048576) (hR : Rd B w R l p) :
  Calls Tryz.prog 74 #[.pointer (some ⟨R, 0, none⟩)] w fun e w' => Turns (fun k => k = R) w w' ∧ ((∃ q, nxt l 1 (some p) = some q ∧ e = .returned (.int .i64 (val1 l (some p))) ∧ Rd B w' R l q) ∨ (nxt l 1 (some p) = none ∧ Pan e)) := by
 obtain ⟨h0, a, cap, hB, h1, h2, h3, h4⟩ := hR
 have HB : Hid (Bk w R 74 #[.slice a (l.length - p) cap]) := hB
 have c0 := hB.cell (i := 0) rfl
 have f0 := hB.free 0
 unfold maxLen at h3
 by_cases hp : p = l.length
 ·have HN : Hid (nxt l 1 (some p) = none) := (by simp [nxt, hp] : nxt l 1 (some p) = none)
  have hz : l.length - p = 0 := by omega
  rw [hz] at c0
  clear hB h4
  go_enter Tryz.func74, Tryz.ntmps74
  go_wp2
  exact ⟨rfl, Turns.refl _ _, .inr ⟨HN.out, _, _, rfl⟩⟩
 ·obtain ⟨b, off, rfl, hbB, hI⟩ := h4.resolve_left hp
  have hbR : b ≠ R := fun e => Nat.lt_irrefl _ (Nat.lt_of_lt_of_le hbB (e ▸ h0))
  have hlt : p < l.length := Nat.lt_of_le_of_ne h1 hp
  clear hp
  have HI : Hid (By.IntsAt w b off l) := hI
  obtain ⟨n, hn, hnn⟩ := rd_n hlt
  have HN : Hid (nxt l 1 (some p) = some (p + 1)) := (by have : p + 1 ≤ l.length := hlt; simp [nxt, this] : nxt l 1 (some p) = some (p + 1))
  have HV : Hid (val1 l (some p) = by8 l p) := (by have : p + 1 ≤ l.length := hlt; simp [val1, this] : val1 l (some p) = by8 l p)
  have g0 : w.cell? ⟨b, off + p, none⟩ = some (.int .u8 (by8 l p)) := hI.2 p (by omega)
  have hb0 := by8_low l p
  rw [hn] at c0 h2
  clear hB h4 hI
  generalize by8 l p = y0 at *
  go_enter Tryz.func74, Tryz.ntmps74
  go_wp2
  ·rename_i hc1
   go_ret
   have ht := put1_turns w R 0 (.slice (some ⟨b, off + p, none⟩) n 0)
   refine ⟨ht, .inl ⟨p + 1, HN.out, ret_int HV.out.symm, h0, some ⟨b, off + p, none⟩, 0, ?_, hlt, ?_, ?_, .inl ?_⟩⟩
   ·rw [hnn]
    exact HB.out.put 0 _
   ·rw [hnn]; clear hbR; omega
   ·exact Nat.zero_le _
   ·clear hbR; omega
  ·go_ret
   have ht := put1_turns w R 0 (.slice (some ⟨b, off + p + 1, none⟩) n (cap - 1))
   refine ⟨ht, .inl ⟨p + 1, HN.out, ret_int HV.out.symm, h0, _, cap - 1, ?_, hlt, ?_, ?_, .inr ⟨b, off, rfl, hbB, Nat.lt_of_lt_of_le HI.out.1 ht.size, fun i hi => (ht.cell HI.out.1 hbR).trans (HI.out.2 i hi)⟩⟩⟩
   ·rw [hnn]
    exact HB.out.put 0 _
   ·rw [hnn]; clear hbR; omega
   ·clear hbR; unfold maxLen; omega
set_option maxRecDepth 100000 in
set_option maxHeartbeats 8000000 in
theorem two_any (B R : Nat) (l : List UInt8) (p : Nat) (w : World) (hl : l.length ≤ 1048576) (hR : Rd B w R l p) :
  Calls Tryz.prog 75 #[.pointer (some ⟨R, 0, none⟩)] w fun e w' => Turns (fun k => k = R) w w' ∧ ((∃ q, nxt l 2 (some p) = some q ∧ e = .returned (.int .i64 (val2 l (some p))) ∧ Rd B w' R l q) ∨ (nxt l 2 (some p) = none ∧ Pan e)) := by
 have HR : Hid (Rd B w R l p) := hR
 clear hR
 go_enter Tryz.func75, Tryz.ntmps75
 go_wp2_with fail
 refine (one_any B R l p _ hl HR.out).mono ?_
 rintro e w1 ⟨ht, (⟨q, hq, rfl, hR1⟩ | ⟨hq, u, pv, rfl⟩)⟩
 ·have HT1 : Hid (Turns (fun k => k = R) w w1) := ht
  obtain ⟨hp1, rfl⟩ := nxt_one hq
  rw [show val1 l (some p) = by8 l p from by simp [val1, hp1]]
  have hb0 := by8_low l p
  have HR1 : Hid (Rd B w1 R l (p + 1)) := hR1
  have HY0 : Hid (∃ y, by8 l p = y) := ⟨_, rfl⟩
  clear ht hq hR1
  generalize h0 : by8 l p = y0 at hb0 ⊢
  have H0 : Hid (by8 l p = y0) := h0
  clear h0
  go_wp2_with fail
  refine (one_any B R l (p + 1) _ hl HR1.out).mono ?_
  rintro e w2 ⟨ht, (⟨q, hq, rfl, hR2⟩ | ⟨hq, u, pv, rfl⟩)⟩
  ·obtain ⟨hp2, rfl⟩ := nxt_one hq
   rw [show val1 l (some (p + 1)) = by8 l (p + 1) from by simp [val1, hp2]]
   have hb1 := by8_low l (p + 1)
   have HF : Hid (Turns (fun k => k = R) w w2 ∧ nxt l 2 (some p) = some (p + 1 + 1) ∧ val2 l (some p) = by8 l p * 256 + by8 l (p + 1) ∧ Rd B w2 R l (p + 1 + 1)) := ⟨HT1.out.trans ht, by have : p + 2 ≤ l.length := hp2; simp [nxt, this], by have : p + 2 ≤ l.length := hp2; simp [val2, this], hR2⟩
   clear ht hq hR2
   generalize h1 : by8 l (p + 1) = y1 at hb1 ⊢
   have H1 : Hid (by8 l (p + 1) = y1) := h1
   clear h1
   go_wp2
   go_ret
   exact ⟨HF.out.1, .inl ⟨_, HF.out.2.1, ret_int (by rw [HF.out.2.2.1, H0.out, H1.out]), HF.out.2.2.2⟩⟩
  ·have HF : Hid (Turns (fun k => k = R) w w2 ∧ nxt l 2 (some p) = none) := ⟨HT1.out.trans ht, nxt_two_none hq⟩
   go_wp2
   exact ⟨rfl, HF.out.1, .inr ⟨HF.out.2, _, _, rfl⟩⟩
 ·have HF : Hid (Turns (fun k => k = R) w w1 ∧ nxt l 2 (some p) = none) := ⟨ht, nxt_two_none' hq⟩
  go_wp2
  exact ⟨rfl, HF.out.1, .inr ⟨HF.out.2, _, _, rfl⟩⟩
end Go.Proofs.YtbljfphdghfkfaaGreatDoor

/- The program's byteReader: nextOp and start. -/
namespace Go.Proofs.YtbljfphdghfkfaaGreatDoor
open Go.RowKit
abbrev pt4 (w : World) (R : Nat) (v0 v1 v2 v3 : Value) : World := ((((w.setCell ⟨R, 0, none⟩ v0).setCell ⟨R, 1, none⟩ v1).setCell ⟨R, 2, none⟩ v2).setCell ⟨R, 3, none⟩ v3)
theorem Bk.pt4 {w : World} {R : Nat} {T : TypeId} {a0 a1 a2 a3 : Value} (h : Bk w R T #[a0, a1, a2, a3]) (v0 v1 v2 v3 : Value) : Bk (pt4 w R v0 v1 v2 v3) R T #[v0, v1, v2, v3] := by
 have h : Bk (w.setCell ⟨R, 0, none⟩ v0) R T #[v0, a1, a2, a3] := h.put 0 v0
 have h : Bk ((w.setCell ⟨R, 0, none⟩ v0).setCell ⟨R, 1, none⟩ v1) R T #[v0, v1, a2, a3] := h.put 1 v1
 have h : Bk (((w.setCell ⟨R, 0, none⟩ v0).setCell ⟨R, 1, none⟩ v1).setCell ⟨R, 2, none⟩ v2) R T #[v0, v1, v2, a3] := h.put 2 v2
 have h : Bk ((((w.setCell ⟨R, 0, none⟩ v0).setCell ⟨R, 1, none⟩ v1).setCell ⟨R, 2, none⟩ v2).setCell ⟨R, 3, none⟩ v3) R T #[v0, v1, v2, v3] := h.put 3 v3
 exact h
theorem pt4_turns (w : World) (R : Nat) (v0 v1 v2 v3 : Value) : Turns (fun b => b = R) w (pt4 w R v0 v1 v2 v3) := ((((put1_turns w R 0 v0).trans (put1_turns _ R 1 v1)).trans (put1_turns _ R 2 v2)).trans (put1_turns _ R 3 v3))
abbrev pt7 (w : World) (R : Nat) (v0 v1 v2 v3 v4 v5 v6 : Value) : World := (((((((w.setCell ⟨R, 0, none⟩ v0).setCell ⟨R, 1, none⟩ v1).setCell ⟨R, 2, none⟩ v2).setCell ⟨R, 3, none⟩ v3).setCell ⟨R, 4, none⟩ v4).setCell ⟨R, 5, none⟩ v5).setCell ⟨R, 6, none⟩ v6)
theorem Bk.pt7 {w : World} {R : Nat} {T : TypeId} {a0 a1 a2 a3 a4 a5 a6 : Value} (h : Bk w R T #[a0, a1, a2, a3, a4, a5, a6]) (v0 v1 v2 v3 v4 v5 v6 : Value) : Bk (pt7 w R v0 v1 v2 v3 v4 v5 v6) R T #[v0, v1, v2, v3, v4, v5, v6] := by
 have h : Bk (w.setCell ⟨R, 0, none⟩ v0) R T #[v0, a1, a2, a3, a4, a5, a6] := h.put 0 v0
 have h : Bk ((w.setCell ⟨R, 0, none⟩ v0).setCell ⟨R, 1, none⟩ v1) R T #[v0, v1, a2, a3, a4, a5, a6] := h.put 1 v1
 have h : Bk (((w.setCell ⟨R, 0, none⟩ v0).setCell ⟨R, 1, none⟩ v1).setCell ⟨R, 2, none⟩ v2) R T #[v0, v1, v2, a3, a4, a5, a6] := h.put 2 v2
 have h : Bk ((((w.setCell ⟨R, 0, none⟩ v0).setCell ⟨R, 1, none⟩ v1).setCell ⟨R, 2, none⟩ v2).setCell ⟨R, 3, none⟩ v3) R T #[v0, v1, v2, v3, a4, a5, a6] := h.put 3 v3
 have h : Bk (((((w.setCell ⟨R, 0, none⟩ v0).setCell ⟨R, 1, none⟩ v1).setCell ⟨R, 2, none⟩ v2).setCell ⟨R, 3, none⟩ v3).setCell ⟨R, 4, none⟩ v4) R T #[v0, v1, v2, v3, v4, a5, a6] := h.put 4 v4
 have h : Bk ((((((w.setCell ⟨R, 0, none⟩ v0).setCell ⟨R, 1, none⟩ v1).setCell ⟨R, 2, none⟩ v2).setCell ⟨R, 3, none⟩ v3).setCell ⟨R, 4, none⟩ v4).setCell ⟨R, 5, none⟩ v5) R T #[v0, v1, v2, v3, v4, v5, a6] := h.put 5 v5
 have h : Bk (((((((w.setCell ⟨R, 0, none⟩ v0).setCell ⟨R, 1, none⟩ v1).setCell ⟨R, 2, none⟩ v2).setCell ⟨R, 3, none⟩ v3).setCell ⟨R, 4, none⟩ v4).setCell ⟨R, 5, none⟩ v5).setCell ⟨R, 6, none⟩ v6) R T #[v0, v1, v2, v3, v4, v5, v6] := h.put 6 v6
 exact h
theorem pt7_turns (w : World) (R : Nat) (v0 v1 v2 v3 v4 v5 v6 : Value) : Turns (fun b => b = R) w (pt7 w R v0 v1 v2 v3 v4 v5 v6) := (((((((put1_turns w R 0 v0).trans (put1_turns _ R 1 v1)).trans (put1_turns _ R 2 v2)).trans (put1_turns _ R 3 v3)).trans (put1_turns _ R 4 v4)).trans (put1_turns _ R 5 v5)).trans (put1_turns _ R 6 v6))
set_option maxRecDepth 100000 in
set_option maxHeartbeats 8000000 in
theorem nextOp_any (B R : Nat) (l : List UInt8) (k p : Nat) (w : World) (hl : l.length ≤ 1048576) (hR : Rd B w R l p) :
  Calls Tryz.prog 93 #[.pointer (some ⟨R, 0, none⟩)] w fun e w' => Turns (fun b => b = R) w w' ∧ ((∃ q, (fO l k (some p)).2 = some q ∧ e = .returned (.agg #[.int .i64 (fO l k (some p)).1.c, .int .i64 (fO l k (some p)).1.a, .int .i64 (fO l k (some p)).1.b, .int .i64 (fO l k (some p)).1.k]) ∧ Rd B w' R l q) ∨ ((fO l k (some p)).2 = none ∧ Pan e)) := by
 have HN : Hid ((fO l k (some p)).2 = nxt l 1 (nxt l 2 (nxt l 1 (nxt l 1 (some p))))) := rfl
 have HV : Hid ((fO l k (some p)).1 = ⟨val1 l (some p), val1 l (nxt l 1 (some p)), val2 l (nxt l 1 (nxt l 1 (some p))), val1 l (nxt l 2 (nxt l 1 (nxt l 1 (some p))))⟩) := rfl
 generalize fO l k (some p) = ff at HN HV ⊢
 obtain ⟨f1, f2⟩ := ff
 have hRw := hR.lt
 have hBw : B ≤ w.heap.size := Nat.le_trans hR.1 (Nat.le_of_lt hRw)
 have hB1 : B ≤ w.heap.size + 1 := by omega
 obtain ⟨W0, hW0⟩ : ∃ W0, (w.alloc (.cells #[.int .i64 0, .int .i64 0, .int .i64 0, .int .i64 0] 39)).alloc (.cells #[.int .i64 0, .int .i64 0, .int .i64 0, .int .i64 0] 39) = W0 := ⟨_, rfl⟩
 have HR0 : Hid (Rd B W0 R l p) := hW0 ▸ (hR.alloc _).alloc _
 have HP0 : Hid (Bk W0 w.heap.size 39 #[.int .i64 0, .int .i64 0, .int .i64 0, .int .i64 0]) := hW0 ▸ (Bk.new w _ _).alloc _
 have HQ0 : Hid (Bk W0 (w.heap.size + 1) 39 #[.int .i64 0, .int .i64 0, .int .i64 0, .int .i64 0]) := hW0 ▸ Bk.newAt (by simp) _ _
 have HT0 : Hid (Turns (fun b => b = R) w W0) := hW0 ▸ ((Turns.refl _ w).alloc _).alloc _
 have HW0 : Hid ((w.alloc (.cells #[.int .i64 0, .int .i64 0, .int .i64 0, .int .i64 0] 39)).alloc (.cells #[.int .i64 0, .int .i64 0, .int .i64 0, .int .i64 0] 39) = W0) := hW0
 clear hR hW0
 go_enter Tryz.func93, Tryz.ntmps93
 go_wp2_with fail
 rw [HW0.out]
 clear HW0
 refine (one_any B R l p _ hl HR0.out).mono ?_
 rintro e w1 ⟨ht, (⟨q1, hq, rfl, hR⟩ | ⟨hq, u, pv, rfl⟩)⟩
 rotate_left
 ·have HF : Hid (Turns (fun b => b = R) w w1 ∧ f2 = none) := ⟨HT0.out.trans ht, by have := HN.out; rw [hq] at this; exact this⟩
  go_wp2
  exact ⟨rfl, HF.out.1, .inr ⟨HF.out.2, _, _, rfl⟩⟩
 rw [hq] at HN HV
 generalize val1 l (some p) = z0 at HV ⊢
 have hq1 := HQ0.out.turns ht (by omega)
 have hp1 := HP0.out.turns ht (by omega)
 have g0 := hq1.cell (i := 0) rfl
 have f0' := hq1.free 0
 obtain ⟨W1, hW⟩ : ∃ V, w1.setCell ⟨w.heap.size + 1, 0, none⟩ (.int .i64 z0) = V := ⟨_, rfl⟩
 have HR1 : Hid (Rd B W1 R l q1) := hW ▸ hR.put hB1 (by omega) _ _
 have HP1 : Hid (Bk W1 w.heap.size 39 #[.int .i64 0, .int .i64 0, .int .i64 0, .int .i64 0]) := hW ▸ hp1.other _ _ (by omega)
 have HQ1 : Hid (Bk W1 (w.heap.size + 1) 39 #[.int .i64 z0, .int .i64 0, .int .i64 0, .int .i64 0]) := hW ▸ hq1.put 0 _
 have HT1 : Hid (Turns (fun b => b = R) w W1) := hW ▸ (HT0.out.trans ht).setNew (by omega) _ _
 have HW1 : Hid (w1.setCell ⟨w.heap.size + 1, 0, none⟩ (.int .i64 z0) = W1) := hW
 clear ht hq hR hW hq1 hp1 HR0 HP0 HQ0 HT0
 go_wp2_with fail
 rw [HW1.out]
 clear HW1 g0 f0'
 refine (one_any B R l q1 _ hl HR1.out).mono ?_
 rintro e w2 ⟨ht, (⟨q2, hq, rfl, hR⟩ | ⟨hq, u, pv, rfl⟩)⟩
 rotate_left
 ·have HF : Hid (Turns (fun b => b = R) w w2 ∧ f2 = none) := ⟨HT1.out.trans ht, by have := HN.out; rw [hq] at this; exact this⟩
  go_wp2
  exact ⟨rfl, HF.out.1, .inr ⟨HF.out.2, _, _, rfl⟩⟩
 rw [hq] at HN HV
 generalize val1 l (some q1) = z1 at HV ⊢
 have hq1 := HQ1.out.turns ht (by omega)
 have hp1 := HP1.out.turns ht (by omega)
 have g1 := hq1.cell (i := 1) rfl
 have f1' := hq1.free 1
 obtain ⟨W2, hW⟩ : ∃ V, w2.setCell ⟨w.heap.size + 1, 1, none⟩ (.int .i64 z1) = V := ⟨_, rfl⟩
 have HR2 : Hid (Rd B W2 R l q2) := hW ▸ hR.put hB1 (by omega) _ _
 have HP2 : Hid (Bk W2 w.heap.size 39 #[.int .i64 0, .int .i64 0, .int .i64 0, .int .i64 0]) := hW ▸ hp1.other _ _ (by omega)
 have HQ2 : Hid (Bk W2 (w.heap.size + 1) 39 #[.int .i64 z0, .int .i64 z1, .int .i64 0, .int .i64 0]) := hW ▸ hq1.put 1 _
 have HT2 : Hid (Turns (fun b => b = R) w W2) := hW ▸ (HT1.out.trans ht).setNew (by omega) _ _
 have HW2 : Hid (w2.setCell ⟨w.heap.size + 1, 1, none⟩ (.int .i64 z1) = W2) := hW
 clear ht hq hR hW hq1 hp1 HR1 HP1 HQ1 HT1
 go_wp2_with fail
 rw [HW2.out]
 clear HW2 g1 f1'
 refine (two_any B R l q2 _ hl HR2.out).mono ?_
 rintro e w3 ⟨ht, (⟨q3, hq, rfl, hR⟩ | ⟨hq, u, pv, rfl⟩)⟩
 rotate_left
 ·have HF : Hid (Turns (fun b => b = R) w w3 ∧ f2 = none) := ⟨HT2.out.trans ht, by have := HN.out; rw [hq] at this; exact this⟩
  go_wp2
  exact ⟨rfl, HF.out.1, .inr ⟨HF.out.2, _, _, rfl⟩⟩
 rw [hq] at HN HV
 generalize val2 l (some q2) = z2 at HV ⊢
 have hq1 := HQ2.out.turns ht (by omega)
 have hp1 := HP2.out.turns ht (by omega)
 have g2 := hq1.cell (i := 2) rfl
 have f2' := hq1.free 2
 obtain ⟨W3, hW⟩ : ∃ V, w3.setCell ⟨w.heap.size + 1, 2, none⟩ (.int .i64 z2) = V := ⟨_, rfl⟩
 have HR3 : Hid (Rd B W3 R l q3) := hW ▸ hR.put hB1 (by omega) _ _
 have HP3 : Hid (Bk W3 w.heap.size 39 #[.int .i64 0, .int .i64 0, .int .i64 0, .int .i64 0]) := hW ▸ hp1.other _ _ (by omega)
 have HQ3 : Hid (Bk W3 (w.heap.size + 1) 39 #[.int .i64 z0, .int .i64 z1, .int .i64 z2, .int .i64 0]) := hW ▸ hq1.put 2 _
 have HT3 : Hid (Turns (fun b => b = R) w W3) := hW ▸ (HT2.out.trans ht).setNew (by omega) _ _
 have HW3 : Hid (w3.setCell ⟨w.heap.size + 1, 2, none⟩ (.int .i64 z2) = W3) := hW
 clear ht hq hR hW hq1 hp1 HR2 HP2 HQ2 HT2
 go_wp2_with fail
 rw [HW3.out]
 clear HW3 g2 f2'
 refine (one_any B R l q3 _ hl HR3.out).mono ?_
 rintro e w4 ⟨ht, (⟨q4, hq, rfl, hR⟩ | ⟨hq, u, pv, rfl⟩)⟩
 rotate_left
 ·have HF : Hid (Turns (fun b => b = R) w w4 ∧ f2 = none) := ⟨HT3.out.trans ht, by have := HN.out; rw [hq] at this; exact this⟩
  go_wp2
  exact ⟨rfl, HF.out.1, .inr ⟨HF.out.2, _, _, rfl⟩⟩
 rw [hq] at HN
 generalize val1 l (some q3) = z3 at HV ⊢
 have hq1 := HQ3.out.turns ht (by omega)
 have hp1 := HP3.out.turns ht (by omega)
 have g3 := hq1.cell (i := 3) rfl
 have f3' := hq1.free 3
 obtain ⟨W4, hW⟩ : ∃ V, w4.setCell ⟨w.heap.size + 1, 3, none⟩ (.int .i64 z3) = V := ⟨_, rfl⟩
 have HR4 : Hid (Rd B W4 R l q4) := hW ▸ hR.put hB1 (by omega) _ _
 have HP4 : Hid (Bk W4 w.heap.size 39 #[.int .i64 0, .int .i64 0, .int .i64 0, .int .i64 0]) := hW ▸ hp1.other _ _ (by omega)
 have HQ4 : Hid (Bk W4 (w.heap.size + 1) 39 #[.int .i64 z0, .int .i64 z1, .int .i64 z2, .int .i64 z3]) := hW ▸ hq1.put 3 _
 have HT4 : Hid (Turns (fun b => b = R) w W4) := hW ▸ (HT3.out.trans ht).setNew (by omega) _ _
 have HW4 : id (w4.setCell ⟨w.heap.size + 1, 3, none⟩ (.int .i64 z3) = W4) := hW
 clear ht hq hR hq1 hp1 HR3 HP3 HQ3 HT3
 have a0 := HQ4.out.cell (i := 0) rfl
 have a1 := HQ4.out.cell (i := 1) rfl
 have a2 := HQ4.out.cell (i := 2) rfl
 have a3 := HQ4.out.cell (i := 3) rfl
 have b0 := HP4.out.cell (i := 0) rfl
 have b1 := HP4.out.cell (i := 1) rfl
 have b2 := HP4.out.cell (i := 2) rfl
 have b3 := HP4.out.cell (i := 3) rfl
 have bf := HP4.out.free
 clear HW4
 go_wp2
 clear a0 b0 a1 b1 a2 b2 a3 b3 bf
 obtain ⟨X5, hX5⟩ : ∃ X5, pt4 W4 w.heap.size (.int .i64 z0) (.int .i64 z1) (.int .i64 z2) (.int .i64 z3) = X5 := ⟨_, rfl⟩
 have hP := HP4.out.pt4 (.int .i64 z0) (.int .i64 z1) (.int .i64 z2) (.int .i64 z3)
 have ht := pt4_turns W4 w.heap.size (.int .i64 z0) (.int .i64 z1) (.int .i64 z2) (.int .i64 z3)
 rw [hX5] at hP ht
 unfold pt4 at hX5
 rw [hX5]
 have t0 := hP.cell (i := 0) rfl
 have t1 := hP.cell (i := 1) rfl
 have t2 := hP.cell (i := 2) rfl
 have t3 := hP.cell (i := 3) rfl
 refine bodyPost_ret (v := .agg #[.int .i64 z0, .int .i64 z1, .int .i64 z2, .int .i64 z3]) (by simp [results, Tryz.results93, go_sem, t0, t1, t2, t3]) rfl ⟨HT4.out.trans' ht (by omega), .inl ⟨q4, HN.out, ?_, HR4.out.turns ht (by omega) (fun k e => by omega)⟩⟩
 rw [HV.out]
set_option maxRecDepth 100000 in
set_option maxHeartbeats 8000000 in
theorem rstart_any (B R : Nat) (l : List UInt8) (k p : Nat) (w : World) (hl : l.length ≤ 1048576) (hR : Rd B w R l p) :
  Calls Tryz.prog 77 #[.pointer (some ⟨R, 0, none⟩), .int .i64 (k : Int)] w fun e w' => Turns (fun b => b = R) w w' ∧ ((∃ q, (fE l k (some p)).2 = some q ∧ e = .returned (.agg #[.int .i64 (fE l k (some p)).1.t, .int .i64 (fE l k (some p)).1.s, .int .i64 (fE l k (some p)).1.q, .int .i64 (fE l k (some p)).1.d, .int .i64 (fE l k (some p)).1.k, .int .i64 (fE l k (some p)).1.v, .int .i64 (fE l k (some p)).1.g]) ∧ Rd B w' R l q) ∨ ((fE l k (some p)).2 = none ∧ Pan e)) := by
 have HN : Hid ((fE l k (some p)).2 = nxt l 2 (nxt l 1 (nxt l 1 (nxt l 2 (some p))))) := rfl
 have HV : Hid ((fE l k (some p)).1 = ⟨val2 l (some p), -1, (k : Int), val1 l (nxt l 2 (some p)), val1 l (nxt l 1 (nxt l 2 (some p))), val2 l (nxt l 1 (nxt l 1 (nxt l 2 (some p)))), (k : Int)⟩) := rfl
 generalize fE l k (some p) = ff at HN HV ⊢
 obtain ⟨f1, f2⟩ := ff
 have hRw := hR.lt
 have hBw : B ≤ w.heap.size := Nat.le_trans hR.1 (Nat.le_of_lt hRw)
 have hB1 : B ≤ w.heap.size + 1 := by omega
 obtain ⟨W0, hW0⟩ : ∃ W0, (w.alloc (.cells #[.int .i64 0, .int .i64 0, .int .i64 0, .int .i64 0, .int .i64 0, .int .i64 0, .int .i64 0] 53)).alloc (.cells #[.int .i64 0, .int .i64 (-1), .int .i64 (k : Int), .int .i64 0, .int .i64 0, .int .i64 0, .int .i64 (k : Int)] 53) = W0 := ⟨_, rfl⟩
 have HR0 : Hid (Rd B W0 R l p) := hW0 ▸ (hR.alloc _).alloc _
 have HP0 : Hid (Bk W0 w.heap.size 53 #[.int .i64 0, .int .i64 0, .int .i64 0, .int .i64 0, .int .i64 0, .int .i64 0, .int .i64 0]) := hW0 ▸ (Bk.new w _ _).alloc _
 have HQ0 : Hid (Bk W0 (w.heap.size + 1) 53 #[.int .i64 0, .int .i64 (-1), .int .i64 (k : Int), .int .i64 0, .int .i64 0, .int .i64 0, .int .i64 (k : Int)]) := hW0 ▸ Bk.newAt (by simp) _ _
 have HT0 : Hid (Turns (fun b => b = R) w W0) := hW0 ▸ ((Turns.refl _ w).alloc _).alloc _
 have HW0 : Hid ((w.alloc (.cells #[.int .i64 0, .int .i64 0, .int .i64 0, .int .i64 0, .int .i64 0, .int .i64 0, .int .i64 0] 53)).alloc (.cells #[.int .i64 0, .int .i64 (-1), .int .i64 (k : Int), .int .i64 0, .int .i64 0, .int .i64 0, .int .i64 (k : Int)] 53) = W0) := hW0
 clear hR hW0
 go_enter Tryz.func77, Tryz.ntmps77
 go_wp2_with fail
 rw [HW0.out]
 clear HW0
 refine (two_any B R l p _ hl HR0.out).mono ?_
 rintro e w1 ⟨ht, (⟨q1, hq, rfl, hR⟩ | ⟨hq, u, pv, rfl⟩)⟩
 rotate_left
 ·have HF : Hid (Turns (fun b => b = R) w w1 ∧ f2 = none) := ⟨HT0.out.trans ht, by have := HN.out; rw [hq] at this; exact this⟩
  go_wp2
  exact ⟨rfl, HF.out.1, .inr ⟨HF.out.2, _, _, rfl⟩⟩
 rw [hq] at HN HV
 generalize val2 l (some p) = z0 at HV ⊢
 have hq1 := HQ0.out.turns ht (by omega)
 have hp1 := HP0.out.turns ht (by omega)
 have g0 := hq1.cell (i := 0) rfl
 have f0' := hq1.free 0
 obtain ⟨W1, hW⟩ : ∃ V, w1.setCell ⟨w.heap.size + 1, 0, none⟩ (.int .i64 z0) = V := ⟨_, rfl⟩
 have HR1 : Hid (Rd B W1 R l q1) := hW ▸ hR.put hB1 (by omega) _ _
 have HP1 : Hid (Bk W1 w.heap.size 53 #[.int .i64 0, .int .i64 0, .int .i64 0, .int .i64 0, .int .i64 0, .int .i64 0, .int .i64 0]) := hW ▸ hp1.other _ _ (by omega)
 have HQ1 : Hid (Bk W1 (w.heap.size + 1) 53 #[.int .i64 z0, .int .i64 (-1), .int .i64 (k : Int), .int .i64 0, .int .i64 0, .int .i64 0, .int .i64 (k : Int)]) := hW ▸ hq1.put 0 _
 have HT1 : Hid (Turns (fun b => b = R) w W1) := hW ▸ (HT0.out.trans ht).setNew (by omega) _ _
 have HW1 : Hid (w1.setCell ⟨w.heap.size + 1, 0, none⟩ (.int .i64 z0) = W1) := hW
 clear ht hq hR hW hq1 hp1 HR0 HP0 HQ0 HT0
 go_wp2_with fail
 rw [HW1.out]
 clear HW1 g0 f0'
 refine (one_any B R l q1 _ hl HR1.out).mono ?_
 rintro e w2 ⟨ht, (⟨q2, hq, rfl, hR⟩ | ⟨hq, u, pv, rfl⟩)⟩
 rotate_left
 ·have HF : Hid (Turns (fun b => b = R) w w2 ∧ f2 = none) := ⟨HT1.out.trans ht, by have := HN.out; rw [hq] at this; exact this⟩
  go_wp2
  exact ⟨rfl, HF.out.1, .inr ⟨HF.out.2, _, _, rfl⟩⟩
 rw [hq] at HN HV
 generalize val1 l (some q1) = z1 at HV ⊢
 have hq1 := HQ1.out.turns ht (by omega)
 have hp1 := HP1.out.turns ht (by omega)
 have g1 := hq1.cell (i := 3) rfl
 have f1' := hq1.free 3
 obtain ⟨W2, hW⟩ : ∃ V, w2.setCell ⟨w.heap.size + 1, 3, none⟩ (.int .i64 z1) = V := ⟨_, rfl⟩
 have HR2 : Hid (Rd B W2 R l q2) := hW ▸ hR.put hB1 (by omega) _ _
 have HP2 : Hid (Bk W2 w.heap.size 53 #[.int .i64 0, .int .i64 0, .int .i64 0, .int .i64 0, .int .i64 0, .int .i64 0, .int .i64 0]) := hW ▸ hp1.other _ _ (by omega)
 have HQ2 : Hid (Bk W2 (w.heap.size + 1) 53 #[.int .i64 z0, .int .i64 (-1), .int .i64 (k : Int), .int .i64 z1, .int .i64 0, .int .i64 0, .int .i64 (k : Int)]) := hW ▸ hq1.put 3 _
 have HT2 : Hid (Turns (fun b => b = R) w W2) := hW ▸ (HT1.out.trans ht).setNew (by omega) _ _
 have HW2 : Hid (w2.setCell ⟨w.heap.size + 1, 3, none⟩ (.int .i64 z1) = W2) := hW
 clear ht hq hR hW hq1 hp1 HR1 HP1 HQ1 HT1
 go_wp2_with fail
 rw [HW2.out]
 clear HW2 g1 f1'
 refine (one_any B R l q2 _ hl HR2.out).mono ?_
 rintro e w3 ⟨ht, (⟨q3, hq, rfl, hR⟩ | ⟨hq, u, pv, rfl⟩)⟩
 rotate_left
 ·have HF : Hid (Turns (fun b => b = R) w w3 ∧ f2 = none) := ⟨HT2.out.trans ht, by have := HN.out; rw [hq] at this; exact this⟩
  go_wp2
  exact ⟨rfl, HF.out.1, .inr ⟨HF.out.2, _, _, rfl⟩⟩
 rw [hq] at HN HV
 generalize val1 l (some q2) = z2 at HV ⊢
 have hq1 := HQ2.out.turns ht (by omega)
 have hp1 := HP2.out.turns ht (by omega)
 have g2 := hq1.cell (i := 4) rfl
 have f2' := hq1.free 4
 obtain ⟨W3, hW⟩ : ∃ V, w3.setCell ⟨w.heap.size + 1, 4, none⟩ (.int .i64 z2) = V := ⟨_, rfl⟩
 have HR3 : Hid (Rd B W3 R l q3) := hW ▸ hR.put hB1 (by omega) _ _
 have HP3 : Hid (Bk W3 w.heap.size 53 #[.int .i64 0, .int .i64 0, .int .i64 0, .int .i64 0, .int .i64 0, .int .i64 0, .int .i64 0]) := hW ▸ hp1.other _ _ (by omega)
 have HQ3 : Hid (Bk W3 (w.heap.size + 1) 53 #[.int .i64 z0, .int .i64 (-1), .int .i64 (k : Int), .int .i64 z1, .int .i64 z2, .int .i64 0, .int .i64 (k : Int)]) := hW ▸ hq1.put 4 _
 have HT3 : Hid (Turns (fun b => b = R) w W3) := hW ▸ (HT2.out.trans ht).setNew (by omega) _ _
 have HW3 : Hid (w3.setCell ⟨w.heap.size + 1, 4, none⟩ (.int .i64 z2) = W3) := hW
 clear ht hq hR hW hq1 hp1 HR2 HP2 HQ2 HT2
 go_wp2_with fail
 rw [HW3.out]
 clear HW3 g2 f2'
 refine (two_any B R l q3 _ hl HR3.out).mono ?_
 rintro e w4 ⟨ht, (⟨q4, hq, rfl, hR⟩ | ⟨hq, u, pv, rfl⟩)⟩
 rotate_left
 ·have HF : Hid (Turns (fun b => b = R) w w4 ∧ f2 = none) := ⟨HT3.out.trans ht, by have := HN.out; rw [hq] at this; exact this⟩
  go_wp2
  exact ⟨rfl, HF.out.1, .inr ⟨HF.out.2, _, _, rfl⟩⟩
 rw [hq] at HN
 generalize val2 l (some q3) = z3 at HV ⊢
 have hq1 := HQ3.out.turns ht (by omega)
 have hp1 := HP3.out.turns ht (by omega)
 have g3 := hq1.cell (i := 5) rfl
 have f3' := hq1.free 5
 obtain ⟨W4, hW⟩ : ∃ V, w4.setCell ⟨w.heap.size + 1, 5, none⟩ (.int .i64 z3) = V := ⟨_, rfl⟩
 have HR4 : Hid (Rd B W4 R l q4) := hW ▸ hR.put hB1 (by omega) _ _
 have HP4 : Hid (Bk W4 w.heap.size 53 #[.int .i64 0, .int .i64 0, .int .i64 0, .int .i64 0, .int .i64 0, .int .i64 0, .int .i64 0]) := hW ▸ hp1.other _ _ (by omega)
 have HQ4 : Hid (Bk W4 (w.heap.size + 1) 53 #[.int .i64 z0, .int .i64 (-1), .int .i64 (k : Int), .int .i64 z1, .int .i64 z2, .int .i64 z3, .int .i64 (k : Int)]) := hW ▸ hq1.put 5 _
 have HT4 : Hid (Turns (fun b => b = R) w W4) := hW ▸ (HT3.out.trans ht).setNew (by omega) _ _
 have HW4 : id (w4.setCell ⟨w.heap.size + 1, 5, none⟩ (.int .i64 z3) = W4) := hW
 clear ht hq hR hq1 hp1 HR3 HP3 HQ3 HT3
 have a0 := HQ4.out.cell (i := 0) rfl
 have a1 := HQ4.out.cell (i := 1) rfl
 have a2 := HQ4.out.cell (i := 2) rfl
 have a3 := HQ4.out.cell (i := 3) rfl
 have a4 := HQ4.out.cell (i := 4) rfl
 have a5 := HQ4.out.cell (i := 5) rfl
 have a6 := HQ4.out.cell (i := 6) rfl
 have b0 := HP4.out.cell (i := 0) rfl
 have b1 := HP4.out.cell (i := 1) rfl
 have b2 := HP4.out.cell (i := 2) rfl
 have b3 := HP4.out.cell (i := 3) rfl
 have b4 := HP4.out.cell (i := 4) rfl
 have b5 := HP4.out.cell (i := 5) rfl
 have b6 := HP4.out.cell (i := 6) rfl
 have bf := HP4.out.free
 clear HW4
 go_wp2
 clear a0 b0 a1 b1 a2 b2 a3 b3 a4 b4 a5 b5 a6 b6 bf
 obtain ⟨X5, hX5⟩ : ∃ X5, pt7 W4 w.heap.size (.int .i64 z0) (.int .i64 (-1)) (.int .i64 (k : Int)) (.int .i64 z1) (.int .i64 z2) (.int .i64 z3) (.int .i64 (k : Int)) = X5 := ⟨_, rfl⟩
 have hP := HP4.out.pt7 (.int .i64 z0) (.int .i64 (-1)) (.int .i64 (k : Int)) (.int .i64 z1) (.int .i64 z2) (.int .i64 z3) (.int .i64 (k : Int))
 have ht := pt7_turns W4 w.heap.size (.int .i64 z0) (.int .i64 (-1)) (.int .i64 (k : Int)) (.int .i64 z1) (.int .i64 z2) (.int .i64 z3) (.int .i64 (k : Int))
 rw [hX5] at hP ht
 unfold pt7 at hX5
 rw [hX5]
 have t0 := hP.cell (i := 0) rfl
 have t1 := hP.cell (i := 1) rfl
 have t2 := hP.cell (i := 2) rfl
 have t3 := hP.cell (i := 3) rfl
 have t4 := hP.cell (i := 4) rfl
 have t5 := hP.cell (i := 5) rfl
 have t6 := hP.cell (i := 6) rfl
 refine bodyPost_ret (v := .agg #[.int .i64 z0, .int .i64 (-1), .int .i64 (k : Int), .int .i64 z1, .int .i64 z2, .int .i64 z3, .int .i64 (k : Int)]) (by simp [results, Tryz.results77, go_sem, t0, t1, t2, t3, t4, t5, t6]) rfl ⟨HT4.out.trans' ht (by omega), .inl ⟨q4, HN.out, ?_, HR4.out.turns ht (by omega) (fun k e => by omega)⟩⟩
 rw [HV.out]
end Go.Proofs.YtbljfphdghfkfaaGreatDoor

/- The program's byteReader.handler. -/
namespace Go.Proofs.YtbljfphdghfkfaaGreatDoor
open Go.RowKit
set_option maxRecDepth 100000 in
set_option maxHeartbeats 8000000 in
theorem rhandler_any (B R : Nat) (l : List UInt8) (k p : Nat) (w : World) (hl : l.length ≤ 1048576) (hR : Rd B w R l p) :
  Calls Tryz.prog 76 #[.pointer (some ⟨R, 0, none⟩)] w fun e w' => Turns (fun b => b = R) w w' ∧ ((∃ q y, (fR l k (some p)).2 = some q ∧ e = .returned y ∧ w'.ownsRow w.heap.size 39 4 y (fR l k (some p)).1.length (cellsO (fR l k (some p)).1) ∧ Rd B w' R l q) ∨ ((fR l k (some p)).2 = none ∧ Pan e)) := by
 obtain ⟨i0, hi, hz0, hz1, hz2⟩ := info_parts infoOp
 have HR : Hid (Rd B w R l p) := hR
 have hRw := hR.lt
 have hBw : B ≤ w.heap.size := Nat.le_trans hR.1 (Nat.le_of_lt hRw)
 clear hR
 go_enter Tryz.func76, Tryz.ntmps76
 go_wp2_with fail
 refine (one_any B R l p _ hl HR.out).mono ?_
 rintro e w1 ⟨ht, (⟨p1, hq, rfl, hR⟩ | ⟨hq, u, pv, rfl⟩)⟩
 rotate_left
 ·have HF : Hid (Turns (fun b => b = R) w w1 ∧ (fR l k (some p)).2 = none) := ⟨ht, by unfold fR; rw [hq]; exact run_from _ _⟩
  go_wp2
  exact ⟨rfl, HF.out.1, .inr ⟨HF.out.2, _, _, rfl⟩⟩
 have hv := val1_low l (some p)
 obtain ⟨n, hn⟩ : ∃ n : Nat, n = (val1 l (some p)).toNat := ⟨_, rfl⟩
 have hn2 : val1 l (some p) = (n : Int) := by omega
 have hn3 : n ≤ 255 := by omega
 rw [hn2]
 have HF : Hid (fR l k (some p) = runG (fO l) (some p1) n) := (by unfold fR; rw [← hn, hq] : fR l k (some p) = runG (fO l) (some p1) n)
 have HR1 : Hid (Rd B w1 R l p1) := hR
 have HT1 : Hid (Turns (fun b => b = R) w w1) := ht
 clear hR ht hv hn hn2 hq HR
 go_wp2
 go_loopw [3, 6] (fun o i wr => ∃ (q : Nat) (v : Value) (r : Nat), q ≤ n ∧ v = o ∧ i = .int .i64 q ∧ (runG (fO l) (some p1) q).2 = some r ∧ wr.ownsRow w.heap.size 39 4 o (runG (fO l) (some p1) q).1.length (cellsO (runG (fO l) (some p1) q).1) ∧ Rd B wr R l r ∧ Turns (fun b => b = R) w wr) (fun _ i _ => n - (intOf i).toNat)
 case atStart => exact ⟨0, _, p1, Nat.zero_le _, rfl, rfl, rfl, World.ownsRow_nil w1 _ 39 4, HR1.out, HT1.out⟩
 case round =>
  clear HR1 HT1
  obtain ⟨q, o, r, hq, rfl, rfl, hr, hO, hR, hT⟩ := hrel
  have HO : Hid (wr.ownsRow w.heap.size 39 4 o (runG (fO l) (some p1) q).1.length (cellsO (runG (fO l) (some p1) q).1)) := hO
  have HRr : Hid (Rd B wr R l r) := hR
  have HT : Hid (Turns (fun b => b = R) w wr) := hT
  have hsz : w.heap.size ≤ wr.heap.size := hT.size
  have hlq := run_length (fO l) (some p1) q
  have Hr : Hid ((runG (fO l) (some p1) q).2 = some r) := hr
  have HE : Hid (runG (fO l) (some p1) (q + 1) = ((runG (fO l) (some p1) q).1 ++ [(fO l q (some r)).1], (fO l q (some r)).2)) := run_some hr
  clear hR hT hO hr
  by_cases hlt : q < n
  ·have hqn : (q : Int) < (n : Int) := by omega
   generalize (runG (fO l) (some p1) q).1 = lq at HO HE hlq
   go_wp2_with fail
   refine (nextOp_any B R l q r _ hl HRr.out).mono ?_
   rintro e w2 ⟨ht, (⟨r2, hq2, rfl, hR2⟩ | ⟨hq2, u, pv, rfl⟩)⟩
   rotate_left
   ·have HF2 : Hid (Turns (fun b => b = R) w w2 ∧ (fR l k (some p)).2 = none) := ⟨HT.out.trans ht, by
     have h2 : (runG (fO l) (some p1) (q + 1)).2 = none := by rw [HE.out]; exact hq2
     rw [HF.out, run_none h2 n (by omega)]; exact h2⟩
    go_wp2
    exact ⟨rfl, HF2.out.1, .inr ⟨HF2.out.2, _, _, rfl⟩⟩
   generalize fO l q (some r) = ff at HE hq2 ⊢
   obtain ⟨⟨z0, z1, z2, z3⟩, f2⟩ := ff
   simp only at hq2
   subst hq2
   have HO2 : Hid (w2.ownsRow w.heap.size 39 4 o lq.length (cellsO lq)) := owns_kept HO.out HRr.out.bk.choose_spec (by decide) ht
   have HR2 : Hid (Rd B w2 R l r2) := hR2
   have HT2 : Hid (Turns (fun b => b = R) w w2) := HT.out.trans ht
   have hs2 : w.heap.size ≤ w2.heap.size := HT2.out.size
   clear ht hR2 HO HRr HT hsz
   go_wp2_with (at_builtin; refine wpList_append_own _ rfl _ _ 37 rfl w.heap.size 39 i0 (.agg #[.int .i64 0, .int .i64 0, .int .i64 0, .int .i64 0]) 4 32 Tryz.underlying37 hi hz0 hz1 hz2 rfl (by decide) o _ _ rfl (World.ownsRow.alloc HO2.out _) ⟨w2.heap.size, 0, none⟩ 1 1 (cellsO [⟨z0, z1, z2, z3⟩]) rfl rfl (at_newO w2 ⟨z0, z1, z2, z3⟩) (cellsO_one _) (by unfold maxLen; omega) (by omega) (by simp; omega) ?_; intro v' w6 hown hgrow hnil)
   go_roundw
   case rel =>
    refine ⟨q + 1, _, r2, by omega, rfl, by go_num, by rw [HE.out], ?_, ?_, (HT2.out.alloc _).grownNew hgrow (fun k e => row_ge HO2.out e)⟩
    ·rw [HE.out, List.length_append, cellsO_append]
     exact hown
    ·exact (HR2.out.alloc _).turns (grown_turns hgrow) (fun e => owns_ne HO2.out HR2.out.bk.choose_spec (by decide) e) (fun k e => Nat.le_trans hBw (row_ge HO2.out e))
   case measure => simp [intOf]; omega
  ·obtain rfl : q = n := by omega
   go_wp2
   go_ret
   exact ⟨HT.out, .inl ⟨r, _, by rw [HF.out]; exact Hr.out, rfl, by rw [HF.out]; exact HO.out, HRr.out⟩⟩
end Go.Proofs.YtbljfphdghfkfaaGreatDoor

