/- NCur, NDraw, Copies, Find, RemS -/
import Derived.Test.YteecpandpkicmaaDoorOrdersCardG00
import Derived.BigRegion
import Derived.Deep.RegionLaw
/- The cursor over the bytes of a draw. -/
namespace Go.Proofs.YteecpandpkicmaaDoor
open Go.RowKit

/- n bytes that lie below block B. -/
def CodeIn (w : World) (B : Nat) (a : Option Addr) (n : Nat) : Prop := n = 0 ∨ ∃ b off, a = some ⟨b, off, none⟩ ∧ b < B ∧ ∀ i, i < n → ∃ z : Nat, z < 256 ∧ w.cell? ⟨b, off + i, none⟩ = some (.int .u8 (z : Int))
theorem CodeIn.below {w w' : World} {B B' : Nat} {a : Option Addr} {n : Nat} (h : CodeIn w B a n) (hb : Below B' w w') (hB : B ≤ B') : CodeIn w' B a n := by
  rcases h with h | ⟨b, off, h1, h2, h3⟩
  · exact .inl h
  · exact .inr ⟨b, off, h1, h2, fun i hi => by
      obtain ⟨z, hz, hc⟩ := h3 i hi
      exact ⟨z, hz, (hb.cell (p := ⟨b, off + i, none⟩) (by show b < B'; omega)).trans hc⟩⟩
theorem CodeIn.mono {w : World} {B B' : Nat} {a : Option Addr} {n : Nat} (h : CodeIn w B a n) (hB : B ≤ B') : CodeIn w B' a n := by
  rcases h with h | ⟨b, off, h1, h2, h3⟩
  · exact .inl h
  · exact .inr ⟨b, off, h1, by omega, h3⟩
/- A cursor at block c. -/
structure CurAt (w : World) (c : Nat) (a : Option Addr) (n cap i : Nat) (h : Int) : Prop where
  c0 : w.cell? ⟨c, 0, none⟩ = some (.slice a n cap)
  c1 : w.cell? ⟨c, 1, none⟩ = some (.int .i64 (i : Int))
  c2 : w.cell? ⟨c, 2, none⟩ = some (.int .i64 h)
  fz : ∀ o, w.frozen? ⟨c, o, none⟩ = false
  lt : c < w.heap.size
  le : i ≤ n
  len : n ≤ 281474976710656
  code : CodeIn w c a n
def Cur (w : World) (c : Nat) : Prop := ∃ a n cap i h, CurAt w c a n cap i h
theorem CurAt.below {w w' : World} {B c : Nat} {a : Option Addr} {n cap i : Nat} {h : Int} (H : CurAt w c a n cap i h) (hb : Below B w w') (hB : c < B) : CurAt w' c a n cap i h :=
  ⟨(hb.cell hB).trans H.c0, (hb.cell hB).trans H.c1, (hb.cell hB).trans H.c2, fun o => (hb.frozen (p := ⟨c, o, none⟩) hB).trans (H.fz o), Nat.lt_of_lt_of_le H.lt hb.size, H.le, H.len, H.code.below hb (by omega)⟩
theorem Cur.below {w w' : World} {B c : Nat} (H : Cur w c) (hb : Below B w w') (hB : c < B) : Cur w' c := by
  obtain ⟨a, n, cap, i, h, H⟩ := H
  exact ⟨a, n, cap, i, h, H.below hb hB⟩
theorem Cur.lt {w : World} {c : Nat} (H : Cur w c) : c < w.heap.size := by
  obtain ⟨a, n, cap, i, h, H⟩ := H
  exact H.lt
theorem i64_and255 (n : Int) : bits .and .i64 n 255 = n % 256 := by
  have h127 : (BitVec.ofInt 64 255).toNat = 2 ^ 8 - 1 := by decide
  have key : (BitVec.ofInt 64 n &&& BitVec.ofInt 64 255).toNat = (n % ((2 ^ 64 : Nat) : Int)).toNat % 2 ^ 8 := by
    rw [BitVec.toNat_and, BitVec.toNat_ofInt, h127, Nat.and_two_pow_sub_one_eq_mod]
  show IntKind.i64.wrap ((BitVec.ofInt 64 n &&& BitVec.ofInt 64 255).toNat : Nat) = n % 256
  rw [key, IntKind.wrap_i64]
  omega
theorem CurAt.drew {w : World} {c : Nat} {a : Option Addr} {n cap i : Nat} {h : Int} (H : CurAt w c a n cap i h) : CurAt w.drew c a n cap i h :=
  H.below (B := w.heap.size) (Below.refl _ w).drew H.lt
theorem CurAt.hash {w : World} {c : Nat} {a : Option Addr} {n cap i : Nat} {h : Int} (H : CurAt w c a n cap i h) (h' : Int) : CurAt (w.setCell ⟨c, 2, none⟩ (.int .i64 h')) c a n cap i h' := by
  have hn : ∀ i j : Nat, i ≠ j → (⟨c, i, none⟩ : Addr) ≠ ⟨c, j, none⟩ := fun i j hij e => hij (by injection e)
  have hb : Below c w (w.setCell ⟨c, 2, none⟩ (.int .i64 h')) := (Below.refl c w).setCell (by simp) _
  exact ⟨(World.cell?_setCell_other _ _ _ _ (hn _ _ (by omega))).trans H.c0, (World.cell?_setCell_other _ _ _ _ (hn _ _ (by omega))).trans H.c1, World.cell?_setCell_same _ _ _ H.c2,
    fun o => by simp [H.fz], by simpa [World.setCell] using H.lt, H.le, H.len, H.code.below hb (Nat.le_refl _)⟩
theorem CurAt.next {w : World} {c : Nat} {a : Option Addr} {n cap i : Nat} {h : Int} (H : CurAt w c a n cap i h) (j : Nat) (hj : j ≤ n) : CurAt (w.setCell ⟨c, 1, none⟩ (.int .i64 (j : Int))) c a n cap j h := by
  have hn : ∀ i j : Nat, i ≠ j → (⟨c, i, none⟩ : Addr) ≠ ⟨c, j, none⟩ := fun i j hij e => hij (by injection e)
  have hb : Below c w (w.setCell ⟨c, 1, none⟩ (.int .i64 (j : Int))) := (Below.refl c w).setCell (by simp) _
  exact ⟨(World.cell?_setCell_other _ _ _ _ (hn _ _ (by omega))).trans H.c0, World.cell?_setCell_same _ _ _ H.c1, (World.cell?_setCell_other _ _ _ _ (hn _ _ (by omega))).trans H.c2,
    fun o => by simp [H.fz], by simpa [World.setCell] using H.lt, hj, H.len, H.code.below hb (Nat.le_refl _)⟩

set_option maxHeartbeats 2000000 in
theorem byte_any (c : Nat) (w : World) (H : Cur w c) :
    Calls Tryd.prog 26 #[.pointer (some ⟨c, 0, none⟩)] w fun e w' => ∃ x : Int, e = .returned (.int .i64 x) ∧ 0 ≤ x ∧ x ≤ 255 ∧ Cur w' c ∧ Turns (fun k => k = c) w w' := by
  obtain ⟨a, n, cap, i, h, H⟩ := H
  have c0 := H.c0
  have c1 := H.c1
  have c2 := H.c2
  have hf := H.fz
  have hlen := H.len
  have hle := H.le
  have hand : ∀ m : Int, bits .and .i64 m 255 = m % 256 := i64_and255
  go_enter Tryd.func26, Tryd.ntmps26
  go_wp2_with fail
  go_region
  generalize wrap64 (wrap64 (h * 6364136223846793005) + 1442695040888963407) = h1
  generalize hx : bits BinOp.xor IntKind.i64 (h1 / 8589934592) (h1 / 35184372088832) % 256 = x0
  have hx0 : 0 ≤ x0 := by omega
  have hx1 : x0 ≤ 255 := by omega
  have H1 := (H.hash h1).drew
  have T1 : Turns (fun k => k = c) w (w.setCell ⟨c, 2, none⟩ (.int .i64 h1)).drew := ((Turns.refl (fun k => k = c) w).setCell (p := ⟨c, 2, none⟩) rfl _).drew
  generalize (w.setCell ⟨c, 2, none⟩ (.int .i64 h1)).drew = w1 at H1 T1 ⊢
  have HT1 : Hid (Turns (fun k => k = c) w w1) := T1
  clear c0 c1 c2 hf hx T1 H
  have d0 := H1.c0
  have d1 := H1.c1
  have d2 := H1.c2
  have df := H1.fz
  have HC1 : Hid (CurAt w1 c a n cap i h1) := H1
  by_cases hi : i < n
  · obtain ⟨b, off, rfl, hb, hz⟩ := H1.code.resolve_left (by omega)
    obtain ⟨z, hz1, hz2⟩ := hz i hi
    have hbc : ¬ b = c := by omega
    have hlt : (i : Int) < (n : Int) := by omega
    have hidx : (0 : Int) ≤ (i : Int) ∧ (i : Int) < (n : Int) := by omega
    have q0 : IntKind.i64.wrap (x0 + (z : Int)) = x0 + (z : Int) := by rw [IntKind.wrap_i64]; omega
    clear hz H1
    go_wp2_with fail
    go_region
    go_wp2_with fail
    go_region
    go_wp2
    go_ret
    refine ⟨_, rfl, by omega, by omega, ⟨_, _, _, _, _, (HC1.out.drew.drew.next (i + 1) (by omega))⟩, ?_⟩
    exact (HT1.out.drew.drew).setCell (p := ⟨c, 1, none⟩) rfl _
  · have hlt : ¬ (i : Int) < (n : Int) := by omega
    clear H1
    go_wp2_with fail
    go_region
    go_wp2
    go_ret
    exact ⟨_, rfl, hx0, hx1, ⟨_, _, _, _, _, HC1.out.drew⟩, HT1.out.drew⟩
end Go.Proofs.YteecpandpkicmaaDoor

/- What is drawn out of a cursor: numbers below one, one of a list; a new cursor. -/
namespace Go.Proofs.YteecpandpkicmaaDoor
open Go.RowKit

theorem i64_mask30 (n : Int) : bits .and .i64 n 1073741823 = n % 1073741824 := by
  have h127 : (BitVec.ofInt 64 1073741823).toNat = 2 ^ 30 - 1 := by decide
  have key : (BitVec.ofInt 64 n &&& BitVec.ofInt 64 1073741823).toNat = (n % ((2 ^ 64 : Nat) : Int)).toNat % 2 ^ 30 := by
    rw [BitVec.toNat_and, BitVec.toNat_ofInt, h127, Nat.and_two_pow_sub_one_eq_mod]
  show IntKind.i64.wrap ((BitVec.ofInt 64 n &&& BitVec.ofInt 64 1073741823).toNat : Nat) = n % 1073741824
  rw [key, IntKind.wrap_i64]
  omega
theorem tmod_in {x m : Int} (h : 0 ≤ x) (hm : 0 < m) : 0 ≤ Int.tmod x m ∧ Int.tmod x m < m := by
  rw [Int.tmod_eq_emod_of_nonneg h]
  exact ⟨Int.emod_nonneg _ (by omega), Int.emod_lt_of_pos _ hm⟩
theorem emod_in {x m : Int} (hm : 0 < m) : 0 ≤ x % m ∧ x % m < m := ⟨Int.emod_nonneg _ (by omega), Int.emod_lt_of_pos _ hm⟩

set_option maxHeartbeats 2000000 in
theorem below_any (c : Nat) (n : Int) (w : World) (H : Cur w c) :
    Calls Tryd.prog 14 #[.pointer (some ⟨c, 0, none⟩), .int .i64 n] w fun e w' => ∃ x : Int, e = .returned (.int .i64 x) ∧ 0 ≤ x ∧ (0 < n → x < n) ∧ Cur w' c ∧ Turns (fun k => k = c) w w' := by
  have HC : Hid (Cur w c) := H
  clear H
  by_cases h0 : n ≤ 0
  · go_enter Tryd.func14, Tryd.ntmps14
    go_wp2_with fail
    go_ret
    exact ⟨0, rfl, by omega, by omega, HC.out, Turns.refl _ _⟩
  · have h0' : ¬ n ≤ 0 := h0
    have hn0 : ¬ n = 0 := by omega
    by_cases h1 : n ≤ 256
    · go_enter Tryd.func14, Tryd.ntmps14
      go_wp2_with (go_at_call 26; refine (byte_any c _ HC.out).mono ?_; rintro e w1 ⟨x, rfl, hx0, hx1, hC1, hT1⟩)
      go_ret
      exact ⟨_, rfl, (by first | exact (emod_in (by omega)).1 | exact (tmod_in hx0 (by omega)).1), fun hn => (by first | exact (emod_in (by omega)).2 | exact (tmod_in hx0 (by omega)).2), hC1, hT1⟩
    · go_enter Tryd.func14, Tryd.ntmps14
      go_wp2_with fail
      refine (byte_any c _ HC.out).mono ?_
      rintro e w1 ⟨x, rfl, hx0, hx1, hC1, hT1⟩
      have HC1 : Hid (Cur w1 c) := hC1
      have HT1 : Hid (Turns (fun k => k = c) w w1) := hT1
      clear hC1 hT1
      go_wp2_with fail
      refine (byte_any c _ HC1.out).mono ?_
      rintro e w2 ⟨y, rfl, hy0, hy1, hC2, hT2⟩
      have HC2 : Hid (Cur w2 c) := hC2
      have HT2 : Hid (Turns (fun k => k = c) w w2) := HT1.out.trans hT2
      clear hC2 hT2
      go_wp2_with fail
      refine (byte_any c _ HC2.out).mono ?_
      rintro e w3 ⟨z, rfl, hz0, hz1, hC3, hT3⟩
      have HC3 : Hid (Cur w3 c) := hC3
      have HT3 : Hid (Turns (fun k => k = c) w w3) := HT2.out.trans hT3
      clear hC3 hT3
      go_wp2_with fail
      refine (byte_any c _ HC3.out).mono ?_
      rintro e w4 ⟨t, rfl, ht0, ht1, hC4, hT4⟩
      have HC4 : Hid (Cur w4 c) := hC4
      have HT4 : Hid (Turns (fun k => k = c) w w4) := HT3.out.trans hT4
      clear hC4 hT4
      go_wp2
      go_ret
      exact ⟨_, rfl, (by first | exact (emod_in (by omega)).1 | exact (tmod_in (by omega) (by omega)).1), fun hn => (by first | exact (emod_in (by omega)).2 | exact (tmod_in (by omega) (by omega)).2), HC4.out, HT4.out⟩

/- A list of numbers at the head of block g. -/
def ListAt (w : World) (g m : Nat) (P : Int → Prop) : Prop := g < w.heap.size ∧ ∀ j, j < m → ∃ y : Int, P y ∧ w.cell? ⟨g, j, none⟩ = some (.int .i64 y)
theorem ListAt.turns {w w' : World} {S : Nat → Prop} {g m : Nat} {P : Int → Prop} (h : ListAt w g m P) (ht : Turns S w w') (hS : ¬ S g) : ListAt w' g m P :=
  ⟨Nat.lt_of_lt_of_le h.1 ht.size, fun j hj => by obtain ⟨y, hy, hc⟩ := h.2 j hj; exact ⟨y, hy, (ht.cell h.1 hS).trans hc⟩⟩

set_option maxHeartbeats 2000000 in
theorem pick_any (c g m : Nat) (P : Int → Prop) (w : World) (hm : 0 < m) (hm' : m ≤ 1000) (hg : ¬ g = c) (H : Cur w c) (L : ListAt w g m P) :
    Calls Tryd.prog 25 #[.pointer (some ⟨c, 0, none⟩), .slice (some ⟨g, 0, none⟩) m m] w fun e w' => ∃ y : Int, e = .returned (.int .i64 y) ∧ P y ∧ Cur w' c ∧ Turns (fun k => k = c) w w' := by
  have HC : Hid (Cur w c) := H
  have HL : Hid (ListAt w g m P) := L
  clear H L
  go_enter Tryd.func25, Tryd.ntmps25
  go_wp2_with fail
  refine (below_any c _ _ HC.out).mono ?_
  rintro e w1 ⟨x, rfl, hx0, hx1, hC1, hT1⟩
  have hx2 := hx1 (by omega)
  obtain ⟨k, rfl⟩ : ∃ k : Nat, x = (k : Int) := ⟨x.toNat, by omega⟩
  have hk : k < m := by omega
  have hidx : (0 : Int) ≤ (k : Int) ∧ (k : Int) < (m : Int) := by omega
  obtain ⟨y, hy, hc⟩ := (HL.out.turns hT1 hg).2 k hk
  have HY : Hid (P y) := hy
  have HC1 : Hid (Cur w1 c) := hC1
  have HT1 : Hid (Turns (fun k => k = c) w w1) := hT1
  clear hx1 hx2 hC1 hT1 hy
  go_wp2
  go_ret
  exact ⟨y, rfl, HY.out, HC1.out, HT1.out⟩

set_option maxHeartbeats 2000000 in
theorem new_any (a : Option Addr) (n cap : Nat) (w : World) (hn : n ≤ 281474976710656) (hC : CodeIn w w.heap.size a n) :
    Calls Tryd.prog 11 #[.slice a n cap] w fun e w' => ∃ c, e = .returned (.pointer (some ⟨c, 0, none⟩)) ∧ w.heap.size ≤ c ∧ Cur w' c ∧ Below w.heap.size w w' := by
  have HC : Hid (CodeIn w w.heap.size a n) := hC
  clear hC
  have hand : ∀ m : Int, bits .and .i64 m 1073741823 = m % 1073741824 := i64_mask30
  go_enter Tryd.func11, Tryd.ntmps11
  go_wp2
  go_loop [3, 4] (fun h i => ∃ (k : Nat) (x : Int), k ≤ n ∧ i = .int .i64 k ∧ h = .int .i64 x) (fun _ i => n - (intOf i).toNat)
  case atStart => exact ⟨0, _, Nat.zero_le _, rfl, rfl⟩
  case round =>
    obtain ⟨k, x, hk, rfl, rfl⟩ := hrel
    by_cases hlt : k < n
    · by_cases h4 : k < 4000
      · obtain ⟨b, off, rfl, hb, hz⟩ := HC.out.resolve_left (by omega)
        obtain ⟨z, hz1, hz2⟩ := hz k hlt
        have a1 : (k : Int) < (n : Int) := by omega
        have a2 : (k : Int) < 4000 := by omega
        have hidx : (0 : Int) ≤ (k : Int) ∧ (k : Int) < (n : Int) := by omega
        clear hz
        go_wp2
        go_round
        case rel => exact ⟨k + 1, _, by omega, by go_num, rfl⟩
        case measure => simp [intOf]; omega
      · have a1 : (k : Int) < (n : Int) := by omega
        have a2 : ¬ (k : Int) < 4000 := by omega
        go_wp2
        go_ret
        refine ⟨_, rfl, Nat.le_refl _, ⟨a, n, cap, 0, x, ?_⟩, (Below.refl _ w).alloc (Nat.le_refl _) _⟩
        exact ⟨by simp, by simp, by simp, fun o => by simp, by simp, Nat.zero_le _, hn, HC.out.below ((Below.refl _ w).alloc (Nat.le_refl _) _) (Nat.le_refl _)⟩
    · have a1 : ¬ (k : Int) < (n : Int) := by omega
      go_wp2
      go_ret
      refine ⟨_, rfl, Nat.le_refl _, ⟨a, n, cap, 0, x, ?_⟩, (Below.refl _ w).alloc (Nat.le_refl _) _⟩
      exact ⟨by simp, by simp, by simp, fun o => by simp, by simp, Nat.zero_le _, hn, HC.out.below ((Below.refl _ w).alloc (Nat.le_refl _) _) (Nat.le_refl _)⟩
end Go.Proofs.YteecpandpkicmaaDoor

/- The copies: l1own, copyOf; marks: markEventS, heldEventS. -/
namespace Go.Proofs.YteecpandpkicmaaDoor
open Go.RowKit

set_option maxHeartbeats 1000000 in
theorem copyOf_any (b off cap : Nat) (l : List Ev) (w : World) (hl : l.length ≤ 1048576) (hI : EvsAt w b off l) :
    Calls Tryd.prog 31 #[.slice (some ⟨b, off, none⟩) l.length cap] w fun e w' => ∃ x, e = .returned x ∧ OwnEvs w.heap.size w' x l ∧ Below w.heap.size w w' := by
  obtain ⟨i0, hi, hz0, hz1, hz2⟩ := info_parts info25
  have HI : Hid (EvsAt w b off l) := hI
  clear hI
  go_enter Tryd.func31, Tryd.ntmps31
  go_wp2_with (at_builtin; refine wpList_append_own _ rfl _ _ 40 rfl w.heap.size 24 i0 _ 7 56 Tryd.underlying40 hi hz0 hz1 hz2 rfl (by decide) (.slice none 0 0) 0 [] rfl (World.ownsRow_nil w _ 24 7) ⟨b, off, none⟩ l.length cap (cellsL l) rfl (cellsL_length l) HI.out.cells (cellsL_one l) (by unfold maxLen; omega) (by omega) (Nat.le_refl _) ?_; intro v' w1 hown hgrow hnil)
  go_ret
  refine ⟨_, rfl, OwnEvs.of_row (by simpa using hown), (Below.refl _ w).grown hgrow (Nat.le_refl _) (fun k e => by cases e)⟩

theorem row_empty (w : World) : (w.alloc (.cells #[] 24)).ownsRow w.heap.size 24 7 (.slice (some ⟨w.heap.size, 0, none⟩) 0 0) 0 [] :=
  ⟨rfl, .inr ⟨w.heap.size, 0, #[], rfl, Nat.le_refl _, (MapKept.heap_alloc w _).1, Nat.le_refl _, Nat.zero_le _, rfl, rfl⟩⟩
end Go.Proofs.YteecpandpkicmaaDoor

/- The specification's l1find. -/
namespace Go.Proofs.YteecpandpkicmaaDoor
open Go.RowKit

/- The first place of a tag. -/
def FirstAt (l : List Ev) (tag : Int) (i : Nat) : Prop := i < l.length ∧ (evAt l i).g = tag ∧ ∀ j, j < i → (evAt l j).g ≠ tag
def NoTag (l : List Ev) (tag : Int) : Prop := ∀ j, j < l.length → (evAt l j).g ≠ tag
theorem firstAt_or (l : List Ev) (tag : Int) : (∃ i, FirstAt l tag i) ∨ NoTag l tag := by
  have key : ∀ n, n ≤ l.length → (∃ i, FirstAt l tag i) ∨ ∀ j, j < n → (evAt l j).g ≠ tag := by
    intro n
    induction n with
    | zero => intro _; exact .inr (fun j hj => by omega)
    | succ n ih =>
      intro hn
      rcases ih (by omega) with h | h
      · exact .inl h
      · by_cases e : (evAt l n).g = tag
        · exact .inl ⟨n, by omega, e, h⟩
        · exact .inr (fun j hj => by
            by_cases ej : j = n
            · subst ej; exact e
            · exact h j (by omega))
  exact key l.length (Nat.le_refl _)

theorem step_append_own {P : Program} {ops : Array Oper} {o : Oper} {a : Act} {w : World} {K : Act → World → Prop} {Q : Exit → Act → World → Prop} {E : Prop}
    (hg : o.guard = none) (s x : Operand) (t : TypeId) (hop : o.op = Op.call { callee := Callee.builtin Builtin.append, args := #[s, x], argTypes := #[t, t] })
    (base : Nat) (e : TypeId) (i : TypeInfo) (z : Value) (size bytes : Nat) (h1 : P.underlying t = some (.slice e)) (h2 : P.info? e = some i) (h3 : i.zero = some z) (h4 : i.size = size) (h5 : i.bytes = bytes) (h6 : z.cells.size = size) (h7 : 0 < size)
    (v : Value) (n : Nat) (xs : List Value) (hs : a.eval s = v) (hown : w.ownsRow base e size v n xs)
    (ad : Addr) (m c : Nat) (news : List Value) (hx : a.eval x = .slice (some ad) m c) (hn : news.length = m * size) (hc : ∀ j u, news[j]? = some u → w.cell? (ad.add j) = some u) (h1c : ∀ u ∈ news, u.oneCell' = true)
    (b1 : n + m ≤ maxLen) (b2 : (n + m) * bytes ≤ 140737488355328) (hbase : base ≤ w.heap.size)
    (hK : ∀ v' w', w'.ownsRow base e size v' (n + m) (xs ++ news) → w.grownBy w' v.ownBlock → K (a.put o.dst v') w') :
    if Region.wanted o (yielded ops a.tmps) = true then Oper.wp P o a w K Q else E := by
  have hw : Region.wanted o (yielded ops a.tmps) = true := by simp [Region.wanted, hg]
  rw [if_pos hw]
  exact wp_append_own w s x t hop base e i z size bytes h1 h2 h3 h4 h5 h6 h7 v n xs hs hown ad m c news hx hn hc h1c b1 b2 hbase (fun v' w' r1 r2 _ => hK v' w' r1 r2)

theorem EvsAt.take {w : World} {b off : Nat} {l : List Ev} (h : EvsAt w b off l) (k : Nat) : EvsAt w b off (l.take k) :=
  ⟨h.1, fun i hi => by
    have h1 : i < k ∧ i < l.length := by simp at hi; omega
    rw [evAt_take _ _ _ h1.1]; exact h.2 i h1.2⟩
theorem EvsAt.drop {w : World} {b off : Nat} {l : List Ev} (h : EvsAt w b off l) (k : Nat) : EvsAt w b (off + k * 7) (l.drop k) :=
  ⟨h.1, fun i hi => by
    have h1 : k + i < l.length := by simp at hi; omega
    rw [evAt_drop, show off + k * 7 + i * 7 = off + (k + i) * 7 from by omega]; exact h.2 _ h1⟩

theorem row_ge {w : World} {B : Nat} {e : TypeId} {size n : Nat} {v : Value} {xs : List Value} (h : w.ownsRow B e size v n xs) {r : Nat} (hr : v.ownBlock = some r) : B ≤ r := by
  obtain ⟨_, ⟨rfl, _⟩ | ⟨g, cap, cur, rfl, hg, _⟩⟩ := h
  · cases hr
  · cases hr; exact hg
end Go.Proofs.YteecpandpkicmaaDoor

/- The specification's l1find and l1remove. -/
namespace Go.Proofs.YteecpandpkicmaaDoor
open Go.RowKit

/- The first place of a tag. -/
end Go.Proofs.YteecpandpkicmaaDoor

