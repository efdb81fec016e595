/- MAskS, MBy -/
import Derived.Test.YthjabkfnmcodbaaExactModelReadG14
/- AsksOf: plain words; the specification's. -/
namespace Go.Proofs.Ythjabkfnmcodbaa
open Go.RowKit
def askO (o : O) (d : Nat) : Bool := decide (o.c = 4) && decide (o.a = (d : Int))
def askR (r : List O) (d k : Nat) : Bool := (List.range k).any fun q => askO (oAt r q) d
def askH (m : Md) (d k : Nat) : Bool := (List.range k).any fun i => askR (hAt m.h i) d (hAt m.h i).length
theorem askR_succ (r : List O) (d k : Nat) : askR r d (k + 1) = (askR r d k || askO (oAt r k) d) := by simp [askR, List.range_succ]
theorem askH_succ (m : Md) (d k : Nat) : askH m d (k + 1) = (askH m d k || askR (hAt m.h k) d (hAt m.h k).length) := by simp [askH, List.range_succ]
def asksTo (m : Md) (n : Nat) : List Int := ((List.range n).filter fun d => askH m d m.h.length).map Int.ofNat
theorem asksTo_yes (m : Md) (n : Nat) (h : askH m n m.h.length = true) : asksTo m (n + 1) = asksTo m n ++ [(n : Int)] := by simp [asksTo, List.range_succ, h]
theorem asksTo_no (m : Md) (n : Nat) (h : askH m n m.h.length = false) : asksTo m (n + 1) = asksTo m n := by simp [asksTo, List.range_succ, h]
theorem asksTo_length (m : Md) (n : Nat) : (asksTo m n).length ≤ n := by
  unfold asksTo
  rw [List.length_map]
  exact Nat.le_trans (List.length_filter_le _ _) (by simp)
def asksL (m : Md) : List Int := if m.ok = true then asksTo m 4 else []
theorem row_ge {B : Nat} {w : World} {e : TypeId} {v : Value} {n size : Nat} {xs : List Value} (h : w.ownsRow B e size v n xs) {r : Nat} (hr : v.ownBlock = some r) : B ≤ r := by
  obtain ⟨_, ⟨rfl, _⟩ | ⟨g, cap, cur, rfl, hg, _⟩⟩ := h
  · simp [Value.ownBlock] at hr
  · simp [Value.ownBlock] at hr; omega
theorem intCells_append (l l' : List Int) : intCells (l ++ l') = intCells l ++ intCells l' := by simp [intCells]
set_option maxRecDepth 100000 in
set_option maxHeartbeats 8000000 in
theorem sAskM (x : Value) (m : Md) (w : World) (hs : SmallM m) (h : IsM w x m) :
    Calls Try.prog 26 #[x] w fun e w' => ∃ u, e = .returned u ∧ OwnI w.heap.size w' u (asksL m) ∧ Below w.heap.size w w' := by
  have HX : Hid (IsM w x m) := h
  obtain ⟨vi, vh, vs, rfl, ⟨ai, ci, rfl, hi1, hi2, hi3⟩, ⟨ah, ch, rfl, hh1, hh2, hh3⟩, ⟨ae, ce, rfl, he1, he2, he3⟩⟩ := h
  have hi0 : m.i.length ≤ 1048576 := hs.i
  have hh0 : m.h.length ≤ 1048576 := hs.h
  have he0 : m.e.length ≤ 1048576 := hs.e
  have HS : Hid (SmallM m) := hs
  clear hs hi1 hi2 hh1 hh2 he1 he2
  clear hi3 he3 hi0 he0
  have HH : Hid (m.h = [] ∨ ∃ b off, ah = some ⟨b, off, none⟩ ∧ b < w.heap.size ∧ ∀ i, i < m.h.length → ∃ u, w.cell? ⟨b, off + i, none⟩ = some u ∧ IsO w u (hAt m.h i)) := hh3
  clear hh3
  obtain ⟨W0, hW0⟩ : ∃ W0, w.alloc (.cells #[.int .i64 m.n, .int .i64 m.s, .slice ai m.i.length ci, .slice ah m.h.length ch, .slice ae m.e.length ce, .int .i64 m.z] 34) = W0 := ⟨_, rfl⟩
  have HB0 : Hid (Below w.heap.size w W0) := by rw [← hW0]; exact (Below.refl _ w).alloc (Nat.le_refl _) _
  have HP0 : Hid (Bk W0 w.heap.size 34 #[.int .i64 m.n, .int .i64 m.s, .slice ai m.i.length ci, .slice ah m.h.length ch, .slice ae m.e.length ce, .int .i64 m.z]) := by rw [← hW0]; exact Bk.new w _ _
  have p0 := HP0.out.cell (i := 0) rfl
  have p1 := HP0.out.cell (i := 1) rfl
  have p2 := HP0.out.cell (i := 2) rfl
  have p3 := HP0.out.cell (i := 3) rfl
  have p4 := HP0.out.cell (i := 4) rfl
  have p5 := HP0.out.cell (i := 5) rfl
  go_enter Try.func26, Try.ntmps26
  go_wp2_with fail
  clear hW0 p0 p1 p2 p3 p4 p5
  refine (sModM _ m _ HS.out (HX.out.below HB0.out)).mono ?_
  rintro e W1 ⟨rfl, hb⟩
  have HB1 : Hid (Below w.heap.size w W1) := HB0.out.trans (hb.mono HB0.out.size)
  have HP1 : Hid (Bk W1 w.heap.size 34 #[.int .i64 m.n, .int .i64 m.s, .slice ai m.i.length ci, .slice ah m.h.length ch, .slice ae m.e.length ce, .int .i64 m.z]) := HP0.out.below hb
  clear hb HB0 HP0
  cases hok : m.ok
  case false =>
    have HE : Hid (asksL m = []) := (by simp [asksL, hok] : asksL m = [])
    clear hok
    go_wp2
    go_ret
    exact ⟨.slice none 0 0, rfl, by rw [HE.out]; exact OwnI.nil _ _, HB1.out⟩
  have HE : Hid (asksL m = asksTo m 4) := (by simp [asksL, hok] : asksL m = asksTo m 4)
  clear hok
  obtain ⟨i0, hi, hz0, hz1, hz2⟩ := info_parts info3
  go_wp2
  go_loopw [3, 4] (fun o d wr => ∃ (D : Nat) (v : Value), D ≤ 4 ∧ v = o ∧ d = .int .i64 D ∧ wr.ownsRow W1.heap.size 3 1 o (asksTo m D).length (intCells (asksTo m D)) ∧ Below W1.heap.size W1 wr) (fun _ d _ => 4 - (intOf d).toNat)
  case atStart => exact ⟨0, _, by omega, rfl, rfl, World.ownsRow_nil W1 _ 3 1, Below.refl _ _⟩
  case round =>
    obtain ⟨D, o, hD, rfl, rfl, hR, hB⟩ := hrel
    have HR : Hid (wr.ownsRow W1.heap.size 3 1 o (asksTo m D).length (intCells (asksTo m D))) := hR
    have HB : Hid (Below W1.heap.size W1 wr) := hB
    have hsz : W1.heap.size ≤ wr.heap.size := hB.size
    have HP2 : Hid (Bk wr w.heap.size 34 #[.int .i64 m.n, .int .i64 m.s, .slice ai m.i.length ci, .slice ah m.h.length ch, .slice ae m.e.length ce, .int .i64 m.z]) := HP1.out.below hB
    have HBW : Hid (Below w.heap.size w wr) := HB1.out.trans (hB.mono HB1.out.size)
    clear hR hB
    by_cases hlt : D < 4
    · have hDi : (D : Int) < 4 := by omega
      have p3 := HP2.out.cell (i := 3) rfl
      go_wp2
      go_loop [5, 6] (fun f i => ∃ k : Nat, k ≤ m.h.length ∧ i = .int .i64 k ∧ ∃ bb : Bool, f = .bool bb ∧ Hid (bb = askH m D k)) (fun _ i => m.h.length - (intOf i).toNat)
      case atStart => exact ⟨0, Nat.zero_le _, rfl, false, rfl, rfl⟩
      case round =>
        obtain ⟨k, hk, rfl, bb, rfl, hbb⟩ := hrel
        by_cases hkl : k < m.h.length
        · obtain ⟨b, off, rfl, hb, hc⟩ := HH.out.resolve_left (by intro e; rw [e] at hkl; simp at hkl)
          obtain ⟨u, f0, hu⟩ := hc k hkl
          replace f0 := (HBW.out.cell (p := ⟨b, off + k, none⟩) hb).trans f0
          have hL1 : (hAt m.h k).length ≤ 1048576 := HS.out.r k
          obtain ⟨a1, c1, rfl, _, _, hu⟩ := hu
          have HU : Hid (hAt m.h k = [] ∨ ∃ b off, a1 = some ⟨b, off, none⟩ ∧ OsAt wr b off (hAt m.h k)) := hu.imp id (fun ⟨b, off, e, h⟩ => ⟨b, off, e, h.below HBW.out h.1⟩)
          clear hc hu
          go_wp2
          go_loop [5, 7] (fun f i => ∃ q : Nat, q ≤ (hAt m.h k).length ∧ i = .int .i64 q ∧ ∃ cc : Bool, f = .bool cc ∧ Hid (cc = (bb || askR (hAt m.h k) D q))) (fun _ i => (hAt m.h k).length - (intOf i).toNat)
          case atStart => exact ⟨0, Nat.zero_le _, rfl, bb, rfl, by show _ = _; simp [askR]⟩
          case round =>
            obtain ⟨q, hq, rfl, cc, rfl, hcc⟩ := hrel
            by_cases hql : q < (hAt m.h k).length
            · obtain ⟨b1, off1, rfl, hb1, hc1⟩ := HU.out.resolve_left (by intro e; rw [e] at hql; simp at hql)
              obtain ⟨g0, g1, g2, g3⟩ := hc1 q hql
              have HN : Hid (askR (hAt m.h k) D (q + 1) = (askR (hAt m.h k) D q || askO (oAt (hAt m.h k) q) D)) := askR_succ _ _ _
              generalize oAt (hAt m.h k) q = e at g0 g1 g2 g3 HN
              obtain ⟨c, a, b2, k2⟩ := e
              clear hc1 g2 g3
              cases cc
              · by_cases e4 : c = 4
                · subst e4
                  have j4 : ((4 : Int) == 4) = true := rfl
                  by_cases ea : a = (D : Int)
                  · have ja : (a == (D : Int)) = true := by simp [ea]
                    have HN2 : Hid (askR (hAt m.h k) D (q + 1) = true) := by rw [HN.out]; show _ = _; simp [askO, ea]
                    clear ea
                    go_wp2
                    go_round
                    case rel => exact ⟨q + 1, by omega, by go_num, true, rfl, by show _ = _; rw [HN2.out]; simp⟩
                    case measure => simp [intOf]; omega
                  · have ja : (a == (D : Int)) = false := by simp [ea]
                    have HN2 : Hid (askR (hAt m.h k) D (q + 1) = askR (hAt m.h k) D q) := by rw [HN.out]; show _ = _; simp [askO, ea]
                    clear ea
                    go_wp2
                    go_round
                    case rel => exact ⟨q + 1, by omega, by go_num, false, rfl, by show _ = _; rw [HN2.out]; exact hcc.out⟩
                    case measure => simp [intOf]; omega
                · have j4 : (c == (4 : Int)) = false := by simp [e4]
                  have HN2 : Hid (askR (hAt m.h k) D (q + 1) = askR (hAt m.h k) D q) := by rw [HN.out]; show _ = _; simp [askO, e4]
                  go_wp2
                  go_round
                  case rel => exact ⟨q + 1, by omega, by go_num, false, rfl, by show _ = _; rw [HN2.out]; exact hcc.out⟩
                  case measure => simp [intOf]; omega
              · go_wp2
                go_round
                case rel => exact ⟨q + 1, by omega, by go_num, true, rfl, by show _ = _; rw [HN.out, ← Bool.or_assoc, ← hcc.out]; rfl⟩
                case measure => simp [intOf]; omega
            · go_wp2
              go_round
              case rel => exact ⟨k + 1, by omega, by go_num, cc, rfl, by show _ = _; rw [askH_succ, ← hbb.out, hcc.out, show q = (hAt m.h k).length by omega]⟩
              case measure => simp [intOf]; omega
        · obtain rfl : k = m.h.length := by omega
          have hlen := asksTo_length m D
          cases bb
          · have HN : Hid (asksTo m (D + 1) = asksTo m D) := asksTo_no m D hbb.out.symm
            go_wp2
            go_roundw
            case rel => exact ⟨D + 1, _, by omega, rfl, by go_num, by rw [HN.out]; exact HR.out, HB.out⟩
            case measure => simp [intOf]; omega
          · have HN : Hid (asksTo m (D + 1) = asksTo m D ++ [(D : Int)]) := asksTo_yes m D hbb.out.symm
            go_wp2_with (at_builtin; refine wpList_append_own _ rfl _ _ 22 rfl W1.heap.size 3 i0 (.int .i64 0) 1 8 Try.underlying22 hi hz0 hz1 hz2 rfl (by decide) o _ _ rfl (HR.out.alloc _) ⟨wr.heap.size, 0, none⟩ 1 1 [.int .i64 D] rfl rfl (fun j u hu => by (match j, hu with | 0, hu => simp at hu; subst hu; simp [Addr.add] | (j + 1), hu => simp at hu)) (fun u hu => by simp at hu; subst hu; rfl) (by unfold maxLen; omega) (by omega) (by simp; omega) ?_; intro v' w2 hown hgrow hnil)
            go_roundw
            case rel =>
              refine ⟨D + 1, _, by omega, rfl, by go_num, ?_, (HB.out.alloc hsz _).grown hgrow (by simp; omega) (fun j e => row_ge HR.out e)⟩
              rw [HN.out, intCells_append, List.length_append]
              exact hown
            case measure => simp [intOf]; omega
    · obtain rfl : D = 4 := by omega
      go_wp2
      go_ret
      exact ⟨_, rfl, by rw [HE.out]; exact (OwnI.of_row HR.out).mono HB1.out.size, HBW.out⟩
end Go.Proofs.Ythjabkfnmcodbaa

/- Rows of bytes that grow. -/
namespace Go.Proofs.Ythjabkfnmcodbaa
open Go.RowKit
def byteOf (z : Int) : UInt8 := UInt8.ofNat (z % 256).toNat
theorem byteOf_val (z : Int) : ((byteOf z).toNat : Int) = z % 256 := by
  unfold byteOf
  have h1 : 0 ≤ z % 256 := Int.emod_nonneg _ (by omega)
  have h2 : z % 256 < 256 := Int.emod_lt_of_pos _ (by omega)
  rw [UInt8.toNat_ofNat']
  omega
def twoB (z : Int) : List UInt8 := [byteOf (z / 256), byteOf z]
def RowBy (B : Nat) (w : World) (x : Value) (l : List UInt8) : Prop := w.ownsRow B 5 1 x l.length (By.intCells l)
theorem byCells_append (l l' : List UInt8) : By.intCells (l ++ l') = By.intCells l ++ By.intCells l' := by simp [By.intCells]
theorem RowBy.own {B : Nat} {w : World} {x : Value} {l : List UInt8} (h : RowBy B w x l) : By.OwnI B w x l := By.OwnI.of_row h
theorem RowBy.mono {B B' : Nat} {w : World} {x : Value} {l : List UInt8} (h : RowBy B w x l) (hB : B' ≤ B) : RowBy B' w x l := by
  obtain ⟨h0, h1 | ⟨g, cap, cur, e, hg, h1⟩⟩ := h
  · exact ⟨h0, .inl h1⟩
  · exact ⟨h0, .inr ⟨g, cap, cur, e, Nat.le_trans hB hg, h1⟩⟩
theorem RowBy.below {B : Nat} {w w' : World} {x : Value} {l : List UInt8} (h : RowBy B w x l) (hb : Below w.heap.size w w') : RowBy B w' x l := by
  obtain ⟨h0, h1 | ⟨g, cap, cur, e, hg, hc, h1⟩⟩ := h
  · exact ⟨h0, .inl h1⟩
  · exact ⟨h0, .inr ⟨g, cap, cur, e, hg, (hb.block g (Array.getElem?_eq_some_iff.1 hc).1).trans hc, h1⟩⟩
/- A struct's block is no row of bytes. -/
theorem RowBy.ne {B : Nat} {w : World} {x : Value} {l : List UInt8} (h : RowBy B w x l) {P : Nat} {T : TypeId} {vs : Array Value} (hb : Bk w P T vs) (hT : T ≠ 5) : ¬ x.ownBlock = some P := by
  intro e
  obtain ⟨_, ⟨rfl, _⟩ | ⟨g, cap, cur, rfl, _, hc, _⟩⟩ := h
  · simp [Value.ownBlock] at e
  · simp [Value.ownBlock] at e
    subst e
    have hb' : w.heap[g]? = some (.cells vs T) := hb
    rw [hb'] at hc
    simp at hc
    exact hT hc.2
theorem grown_turns {w w' : World} {row : Option Nat} (h : w.grownBy w' row) : Turns (fun k => row = some k) w w' := ⟨h.os, h.tape, h.output, h.size, fun k hk hS => h.block k hk (fun e => hS e.symm)⟩
theorem at_new2 (w : World) (a b : Value) : ∀ j u, [a, b][j]? = some u → (w.alloc (.cells #[a, b] 5)).cell? ((⟨w.heap.size, 0, none⟩ : Addr).add j) = some u := by
  intro j u hu
  match j, hu with
  | 0, hu => simp at hu; subst hu; simp [Addr.add]
  | 1, hu => simp at hu; subst hu; simp [Addr.add]
  | (j + 2), hu => simp at hu
theorem at_new1 (w : World) (a : Value) : ∀ j u, [a][j]? = some u → (w.alloc (.cells #[a] 5)).cell? ((⟨w.heap.size, 0, none⟩ : Addr).add j) = some u := by
  intro j u hu
  match j, hu with
  | 0, hu => simp at hu; subst hu; simp [Addr.add]
  | (j + 1), hu => simp at hu
theorem RowBy.grow {B : Nat} {w : World} {v : Value} {l r : List UInt8} {n : Nat} {cs : List Value} (h : w.ownsRow B 5 1 v (l.length + n) (By.intCells l ++ cs)) (hcs : By.intCells r = cs) (hn : r.length = n) : RowBy B w v (l ++ r) := by
  subst hcs hn
  unfold RowBy
  rw [List.length_append, byCells_append]
  exact h
theorem cells_one (z : Int) : By.intCells [byteOf z] = [.int .u8 (z % 256)] := by simp [By.intCells, byteOf_val]
theorem cells_oneS {z : Int} (h0 : 0 ≤ z) (h1 : z ≤ 255) : By.intCells [byteOf z] = [.int .u8 z] := by rw [cells_one, show z % 256 = z by omega]
theorem cells_pair {z y : Int} (h0 : 0 ≤ z) (h1 : z ≤ 255) (h2 : 0 ≤ y) (h3 : y ≤ 255) : By.intCells [byteOf z, byteOf y] = [.int .u8 z, .int .u8 y] := by
  have e : By.intCells [byteOf z, byteOf y] = By.intCells [byteOf z] ++ By.intCells [byteOf y] := rfl
  rw [e, cells_oneS h0 h1, cells_oneS h2 h3]
  rfl
theorem cells_two (z : Int) : By.intCells (twoB z) = [.int .u8 (z / 256 % 256), .int .u8 (z % 256)] := by simp [By.intCells, twoB, byteOf_val]
theorem cells_twoS {z : Int} (h0 : 0 ≤ z) (h1 : z ≤ 65535) : By.intCells (twoB z) = [.int .u8 (z / 256), .int .u8 (z % 256)] := by rw [cells_two, show z / 256 % 256 = z / 256 by omega]
set_option maxRecDepth 100000 in
set_option maxHeartbeats 1000000 in
theorem sTwo_any (B : Nat) (x : Value) (l : List UInt8) (z : Int) (w : World) (hB : B ≤ w.heap.size) (hl : l.length ≤ 1000000) (h : RowBy B w x l) :
    Calls Try.prog 71 #[x, .int .i64 z] w fun e w' => ∃ y, e = .returned y ∧ RowBy B w' y (l ++ twoB z) ∧ Turns (fun k => x.ownBlock = some k) w w' := by
  obtain ⟨i0, hi, hz0, hz1, hz2⟩ := info_parts By.info5
  have HR : Hid (RowBy B w x l) := h
  clear h
  go_enter Try.func71, Try.ntmps71
  go_wp2_with (at_builtin; refine wpList_append_own _ rfl _ _ 42 rfl B 5 i0 (.int .u8 0) 1 1 Try.underlying42 hi hz0 hz1 hz2 rfl (by decide) x _ _ rfl (World.ownsRow.alloc HR.out _) ⟨w.heap.size, 0, none⟩ 2 2 [.int .u8 (z / 256 % 256), .int .u8 (z % 256)] rfl rfl (at_new2 _ _ _) (fun u hu => by simp at hu; first | (subst hu; rfl) | (rcases hu with rfl | rfl <;> rfl)) (by unfold maxLen; omega) (by omega) (by simp; omega) ?_; intro v' w2 hown hgrow hnil)
  go_ret
  exact ⟨_, rfl, RowBy.grow hown (cells_two z) rfl, ((Turns.refl _ w).alloc _).trans (grown_turns hgrow)⟩
set_option maxRecDepth 100000 in
set_option maxHeartbeats 1000000 in
theorem iTwo_any (B : Nat) (x : Value) (l : List UInt8) (z : Int) (w : World) (hB : B ≤ w.heap.size) (hl : l.length ≤ 1000000) (hz : 0 ≤ z) (hz9 : z ≤ 65535) (h : RowBy B w x l) :
    Calls Try.prog 48 #[x, .int .i64 z] w fun e w' => ∃ y, e = .returned y ∧ RowBy B w' y (l ++ twoB z) ∧ Turns (fun k => x.ownBlock = some k) w w' := by
  obtain ⟨i0, hi, hz0, hz1, hz2⟩ := info_parts By.info5
  have HR : Hid (RowBy B w x l) := h
  have HZ : Hid (0 ≤ z ∧ z ≤ 65535) := ⟨hz, hz9⟩
  clear h
  go_enter Try.func48, Try.ntmps48
  go_wp2_with (at_builtin; refine wpList_append_own _ rfl _ _ 42 rfl B 5 i0 (.int .u8 0) 1 1 Try.underlying42 hi hz0 hz1 hz2 rfl (by decide) x _ _ rfl (World.ownsRow.alloc HR.out _) ⟨w.heap.size, 0, none⟩ 2 2 [.int .u8 (z / 256), .int .u8 (z % 256)] rfl rfl (at_new2 _ _ _) (fun u hu => by simp at hu; first | (subst hu; rfl) | (rcases hu with rfl | rfl <;> rfl)) (by unfold maxLen; omega) (by omega) (by simp; omega) ?_; intro v' w2 hown hgrow hnil)
  go_ret
  exact ⟨_, rfl, RowBy.grow hown (cells_twoS HZ.out.1 HZ.out.2) rfl, ((Turns.refl _ w).alloc _).trans (grown_turns hgrow)⟩
end Go.Proofs.Ythjabkfnmcodbaa

