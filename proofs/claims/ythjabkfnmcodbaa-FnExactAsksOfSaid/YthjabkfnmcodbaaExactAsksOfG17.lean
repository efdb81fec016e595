/- MAskI, VLow, NBytes -/
import Derived.Test.YthjabkfnmcodbaaExactAsksOfLMDeed
import Derived.Test.YthjabkfnmcodbaaExactAsksOfLMAskS
import Derived.Test.YthjabkfnmcodbaaExactAsksOfG06
import Derived.Test.YthjabkfnmcodbaaExactAsksOfG00
import Derived.Lib.UnsafeStr
import Derived.OwnWalk
import Derived.Deep.RegionHeld3
/- The program's AsksOf. -/
namespace Go.Proofs.Ythjabkfnmcodbaa
open Go.RowKit
/- The array of what was asked for so far. -/
def arrV (f : Nat → Bool) : Array Value := #[.bool (f 0), .bool (f 1), .bool (f 2), .bool (f 3)]
theorem arr_at {w : World} {A : Nat} {f : Nat → Bool} (h : Bk w A 88 (arrV f)) : w.cell? ⟨A, 0, none⟩ = some (.bool (f 0)) ∧ w.cell? ⟨A, 1, none⟩ = some (.bool (f 1)) ∧ w.cell? ⟨A, 2, none⟩ = some (.bool (f 2)) ∧ w.cell? ⟨A, 3, none⟩ = some (.bool (f 3)) :=
  ⟨h.cell (i := 0) rfl, h.cell (i := 1) rfl, h.cell (i := 2) rfl, h.cell (i := 3) rfl⟩
theorem arr_put {w : World} {A : Nat} {f : Nat → Bool} (h : Bk w A 88 (arrV f)) {d : Nat} (hd : d < 4) : Bk (w.setCell ⟨A, d, none⟩ (.bool true)) A 88 (arrV fun e => f e || decide (e = d)) := by
  have h4 : d = 0 ∨ d = 1 ∨ d = 2 ∨ d = 3 := by omega
  have hp := h.put d (.bool true)
  have e : (arrV f).setIfInBounds d (.bool true) = arrV fun e => f e || decide (e = d) := by
    rcases h4 with rfl | rfl | rfl | rfl <;> simp [arrV]
  rw [e] at hp
  exact hp
theorem arr_congr {w : World} {A : Nat} {f g : Nat → Bool} (h : Bk w A 88 (arrV f)) (e : ∀ d, d < 4 → f d = g d) : Bk w A 88 (arrV g) := by
  have : arrV f = arrV g := by unfold arrV; rw [e 0 (by omega), e 1 (by omega), e 2 (by omega), e 3 (by omega)]
  exact this ▸ h
theorem ok_op {m : Md} (h : m.ok = true) {k q : Nat} (hk : k < m.h.length) (hq : q < (hAt m.h k).length) : (oAt (hAt m.h k) q).ok m.n m.h.length = true := by
  have hh : m.okH = true := by simp [Md.ok] at h; exact h.1.2
  have hr : rowB m (hAt m.h k) = true := List.all_eq_true.1 hh k (by simpa using hk)
  simp only [rowB, Bool.and_eq_true] at hr
  exact List.all_eq_true.1 hr.2 q (by simpa using hq)
theorem ok_ask {m : Md} {c a b k : Int} (h : O.ok m.n m.h.length ⟨c, a, b, k⟩ = true) (hc : c = 4) : 0 ≤ a ∧ a ≤ 3 := by
  simp [O.ok, okO] at h
  omega
set_option maxRecDepth 100000 in
set_option maxHeartbeats 8000000 in
theorem iAskM (x : Value) (m : Md) (w : World) (hs : SmallM m) (h : IsM w x m) :
    Calls Try.prog 27 #[x] w fun e w' => ∃ u, e = .returned u ∧ OwnI w.heap.size w' u (asksL m) ∧ Below w.heap.size w w' := by
  have HX : Hid (IsM w x m) := h
  obtain ⟨vi, vh, vs, rfl, ⟨ai, ci, rfl, hi1, hi2, hi3⟩, ⟨ah, ch, rfl, hh1, hh2, hh3⟩, ⟨ae, ce, rfl, he1, he2, he3⟩⟩ := h
  have hi0 : m.i.length ≤ 1048576 := hs.i
  have hh0 : m.h.length ≤ 1048576 := hs.h
  have he0 : m.e.length ≤ 1048576 := hs.e
  have HS : Hid (SmallM m) := hs
  clear hs hi1 hi2 hh1 hh2 he1 he2
  clear hi3 he3 hi0 he0
  have HH : Hid (m.h = [] ∨ ∃ b off, ah = some ⟨b, off, none⟩ ∧ b < w.heap.size ∧ ∀ i, i < m.h.length → ∃ u, w.cell? ⟨b, off + i, none⟩ = some u ∧ IsO w u (hAt m.h i)) := hh3
  clear hh3
  obtain ⟨W0, hW0⟩ : ∃ W0, w.alloc (.cells #[.int .i64 m.n, .int .i64 m.s, .slice ai m.i.length ci, .slice ah m.h.length ch, .slice ae m.e.length ce, .int .i64 m.z] 34) = W0 := ⟨_, rfl⟩
  have HB0 : Hid (Below w.heap.size w W0) := by rw [← hW0]; exact (Below.refl _ w).alloc (Nat.le_refl _) _
  have HP0 : Hid (Bk W0 w.heap.size 34 #[.int .i64 m.n, .int .i64 m.s, .slice ai m.i.length ci, .slice ah m.h.length ch, .slice ae m.e.length ce, .int .i64 m.z]) := by rw [← hW0]; exact Bk.new w _ _
  have p0 := HP0.out.cell (i := 0) rfl
  have p1 := HP0.out.cell (i := 1) rfl
  have p2 := HP0.out.cell (i := 2) rfl
  have p3 := HP0.out.cell (i := 3) rfl
  have p4 := HP0.out.cell (i := 4) rfl
  have p5 := HP0.out.cell (i := 5) rfl
  go_enter Try.func27, Try.ntmps27
  go_wp2_with fail
  clear hW0 p0 p1 p2 p3 p4 p5
  refine (iModM _ m _ HS.out (HX.out.below HB0.out)).mono ?_
  rintro e W1 ⟨rfl, hb⟩
  have HB1 : Hid (Below w.heap.size w W1) := HB0.out.trans (hb.mono HB0.out.size)
  have HP1 : Hid (Bk W1 w.heap.size 34 #[.int .i64 m.n, .int .i64 m.s, .slice ai m.i.length ci, .slice ah m.h.length ch, .slice ae m.e.length ce, .int .i64 m.z]) := HP0.out.below hb
  clear hb HB0 HP0
  cases hok : m.ok
  case false =>
    have HE : Hid (asksL m = []) := (by simp [asksL, hok] : asksL m = [])
    clear hok
    go_wp2
    go_ret
    exact ⟨.slice none 0 0, rfl, by rw [HE.out]; exact OwnI.nil _ _, HB1.out⟩
  have HE : Hid (asksL m = asksTo m 4) := (by simp [asksL, hok] : asksL m = asksTo m 4)
  have HOK : Hid (m.ok = true) := hok
  clear hok
  obtain ⟨i0, hi, hz0, hz1, hz2⟩ := info_parts info3
  obtain ⟨W2, hW2⟩ : ∃ W2, W1.alloc (.cells #[.bool false, .bool false, .bool false, .bool false] 88) = W2 := ⟨_, rfl⟩
  have HB2 : Hid (Below w.heap.size w W2) := hW2 ▸ HB1.out.alloc HB1.out.size _
  have HA2 : Hid (Bk W2 W1.heap.size 88 (arrV fun d => askH m d 0)) := hW2 ▸ Bk.new _ _ _
  have HP2 : Hid (Bk W2 w.heap.size 34 #[.int .i64 m.n, .int .i64 m.s, .slice ai m.i.length ci, .slice ah m.h.length ch, .slice ae m.e.length ce, .int .i64 m.z]) := hW2 ▸ HP1.out.alloc _
  have p3 := HP2.out.cell (i := 3) rfl
  have hs1 : w.heap.size < W1.heap.size := HP1.out.lt
  go_wp2
  clear hW2 p3
  go_loopw [19] (fun i wr => ∃ k : Nat, k ≤ m.h.length ∧ i = .int .i64 k ∧ Bk wr W1.heap.size 88 (arrV fun d => askH m d k) ∧ Below w.heap.size w wr) (fun i _ => m.h.length - (intOf i).toNat)
  case atStart => exact ⟨0, Nat.zero_le _, rfl, HA2.out, HB2.out⟩
  case round =>
    clear HA2 HB2 HP2
    obtain ⟨k, hk, rfl, hA, hB⟩ := hrel
    have HA : Hid (Bk wr W1.heap.size 88 (arrV fun d => askH m d k)) := hA
    have HB : Hid (Below w.heap.size w wr) := hB
    clear hA hB
    by_cases hkl : k < m.h.length
    · obtain ⟨b, off, rfl, hb, hc⟩ := HH.out.resolve_left (by intro e; rw [e] at hkl; simp at hkl)
      obtain ⟨u, f0, hu⟩ := hc k hkl
      replace f0 := (HB.out.cell (p := ⟨b, off + k, none⟩) hb).trans f0
      have hL1 : (hAt m.h k).length ≤ 1048576 := HS.out.r k
      obtain ⟨a1, c1, rfl, _, _, hu⟩ := hu
      have HU : Hid (hAt m.h k = [] ∨ ∃ b off, a1 = some ⟨b, off, none⟩ ∧ OsAt w b off (hAt m.h k)) := hu
      clear hc hu
      go_wp2
      clear f0
      go_loopw [25] (fun i wr => ∃ q : Nat, q ≤ (hAt m.h k).length ∧ i = .int .i64 q ∧ Bk wr W1.heap.size 88 (arrV fun d => askH m d k || askR (hAt m.h k) d q) ∧ Below w.heap.size w wr) (fun i _ => (hAt m.h k).length - (intOf i).toNat)
      case atStart => exact ⟨0, Nat.zero_le _, rfl, arr_congr HA.out (fun d _ => by simp [askR]), HB.out⟩
      case round =>
        clear HA HB
        obtain ⟨q, hq, rfl, hA, hB⟩ := hrel
        have HA : Hid (Bk wr W1.heap.size 88 (arrV fun d => askH m d k || askR (hAt m.h k) d q)) := hA
        have HB : Hid (Below w.heap.size w wr) := hB
        clear hA
        by_cases hql : q < (hAt m.h k).length
        · obtain ⟨b1, off1, rfl, hb1, hc1⟩ := HU.out.resolve_left (by intro e; rw [e] at hql; simp at hql)
          obtain ⟨g0, g1, g2, g3⟩ := (hc1 q hql).below hB hb1
          have HN : Hid (∀ d, askR (hAt m.h k) d (q + 1) = (askR (hAt m.h k) d q || askO (oAt (hAt m.h k) q) d)) := fun d => askR_succ _ _ _
          have HO : Hid ((oAt (hAt m.h k) q).ok m.n m.h.length = true) := ok_op HOK.out hkl hql
          generalize oAt (hAt m.h k) q = e at g0 g1 g2 g3 HN HO
          obtain ⟨c, a, b2, k2⟩ := e
          clear hc1 hB
          obtain ⟨V, hV⟩ : ∃ V, wr.alloc (.cells #[.int .i64 c, .int .i64 a, .int .i64 b2, .int .i64 k2] 36) = V := ⟨_, rfl⟩
          have hbV : Below wr.heap.size wr V := hV ▸ (Below.refl _ wr).alloc (Nat.le_refl _) _
          have HBV : Hid (Below w.heap.size w V) := HB.out.trans (hbV.mono HB.out.size)
          have HAV : Hid (Bk V W1.heap.size 88 (arrV fun d => askH m d k || askR (hAt m.h k) d q)) := HA.out.below hbV
          have hQV : Bk V wr.heap.size 36 #[.int .i64 c, .int .i64 a, .int .i64 b2, .int .i64 k2] := hV ▸ Bk.new _ _ _
          have e0 := hQV.cell (i := 0) rfl
          have e1 := hQV.cell (i := 1) rfl
          have e2 := hQV.cell (i := 2) rfl
          have e3 := hQV.cell (i := 3) rfl
          clear hbV hQV HB HA
          go_wp2_with fail
          clear g0 g1 g2 g3 e0 e1 e2 e3 hV
          refine (deedOf_any _ _ _ _ _).mono ?_
          rintro e w2 ⟨rfl, hb2⟩
          have HB2 : Hid (Below w.heap.size w w2) := HBV.out.trans (hb2.mono HBV.out.size)
          have HA2 : Hid (Bk w2 W1.heap.size 88 (arrV fun d => askH m d k || askR (hAt m.h k) d q)) := HAV.out.below hb2
          clear hb2 HBV HAV
          generalize hdv : deedV c a b2 k2 = dv
          have HDV : Hid (deedV c a b2 k2 = dv) := hdv
          clear hdv
          go_wp2_with fail
          refine (HDV.out ▸ askOf_any c a b2 k2 w2).mono ?_
          rintro e w3 ⟨rfl, hb3⟩
          have HB3 : Hid (Below w.heap.size w w3) := HB2.out.trans (hb3.mono HB2.out.size)
          have HA3 : Hid (Bk w3 W1.heap.size 88 (arrV fun d => askH m d k || askR (hAt m.h k) d q)) := HA2.out.below hb3
          clear hb3 HB2 HA2 HDV
          by_cases hc4 : c = 4
          · rw [if_pos hc4, decide_eq_true hc4]
            obtain ⟨ha0, ha1⟩ := ok_ask HO.out hc4
            obtain ⟨d, rfl⟩ : ∃ d : Nat, a = (d : Int) := ⟨a.toNat, by omega⟩
            have hd4 : d < 4 := by omega
            have hdi : (d : Int) < 4 := by omega
            have HC : Hid (c = 4) := hc4
            have hcell : ∃ v, w3.cell? ⟨W1.heap.size, d, none⟩ = some v := by
              obtain ⟨r0, r1, r2, r3⟩ := arr_at HA3.out
              have h4 : d = 0 ∨ d = 1 ∨ d = 2 ∨ d = 3 := by omega
              rcases h4 with rfl | rfl | rfl | rfl
              · exact ⟨_, r0⟩
              · exact ⟨_, r1⟩
              · exact ⟨_, r2⟩
              · exact ⟨_, r3⟩
            obtain ⟨v0, hcell⟩ := hcell
            have hfr := HA3.out.free d
            clear hc4
            go_wp2
            go_roundw
            case rel =>
              refine ⟨q + 1, by omega, by go_num, arr_congr (arr_put HA3.out hd4) (fun e he => ?_), HB3.out.setCell (p := ⟨W1.heap.size, d, none⟩) (by show w.heap.size ≤ W1.heap.size; omega) _⟩
              rw [HN.out]
              simp only [askO, HC.out, decide_true, Bool.true_and, Bool.or_assoc]
              congr 2
              rw [Bool.eq_iff_iff]
              simp only [decide_eq_true_eq]
              omega
            case measure => simp [intOf]; omega
          · rw [if_neg hc4, decide_eq_false hc4]
            have HC : Hid (¬ c = 4) := hc4
            clear hc4
            go_wp2
            go_roundw
            case rel => exact ⟨q + 1, by omega, by go_num, arr_congr HA3.out (fun e he => by rw [HN.out]; simp [askO, HC.out]), HB3.out⟩
            case measure => simp [intOf]; omega
        · obtain rfl : q = (hAt m.h k).length := by omega
          clear hB
          go_wp2
          go_roundw
          case rel => exact ⟨k + 1, by omega, by go_num, arr_congr HA.out (fun d _ => (askH_succ m d k).symm), HB.out⟩
          case measure => simp [intOf]; omega
    · obtain rfl : k = m.h.length := by omega
      obtain ⟨r0, r1, r2, r3⟩ := arr_at HA.out
      obtain ⟨b0, hb0⟩ : ∃ b : Bool, b = askH m 0 m.h.length := ⟨_, rfl⟩
      have HB0 : Hid (b0 = askH m 0 m.h.length) := hb0
      rw [← hb0] at r0
      clear hb0
      obtain ⟨b1, hb1⟩ : ∃ b : Bool, b = askH m 1 m.h.length := ⟨_, rfl⟩
      have HB1 : Hid (b1 = askH m 1 m.h.length) := hb1
      rw [← hb1] at r1
      clear hb1
      obtain ⟨b2, hb2⟩ : ∃ b : Bool, b = askH m 2 m.h.length := ⟨_, rfl⟩
      have HB2 : Hid (b2 = askH m 2 m.h.length) := hb2
      rw [← hb2] at r2
      clear hb2
      obtain ⟨b3, hb3⟩ : ∃ b : Bool, b = askH m 3 m.h.length := ⟨_, rfl⟩
      have HB3 : Hid (b3 = askH m 3 m.h.length) := hb3
      rw [← hb3] at r3
      clear hb3
      have j0 : ∀ w : World, (Instr.index 88 (.agg #[.bool b0, .bool b1, .bool b2, .bool b3]) (.int .i64 0)).run Try.prog w = .ok (.bool b0) w := fun w => by kernel_rfl
      have j1 : ∀ w : World, (Instr.index 88 (.agg #[.bool b0, .bool b1, .bool b2, .bool b3]) (.int .i64 1)).run Try.prog w = .ok (.bool b1) w := fun w => by kernel_rfl
      have j2 : ∀ w : World, (Instr.index 88 (.agg #[.bool b0, .bool b1, .bool b2, .bool b3]) (.int .i64 2)).run Try.prog w = .ok (.bool b2) w := fun w => by kernel_rfl
      have j3 : ∀ w : World, (Instr.index 88 (.agg #[.bool b0, .bool b1, .bool b2, .bool b3]) (.int .i64 3)).run Try.prog w = .ok (.bool b3) w := fun w => by kernel_rfl
      have hzz : w.heap.size ≤ wr.heap.size := HB.out.size
      go_wp2
      clear r0 r1 r2 r3 HA
      obtain ⟨WA, hWA⟩ : ∃ WA, WA = wr := ⟨_, rfl⟩
      subst hWA
      go_loopw [10, 41] (fun o i wr2 => ∃ (D : Nat) (v : Value), D ≤ 4 ∧ v = o ∧ i = .int .i64 D ∧ wr2.ownsRow WA.heap.size 3 1 o (asksTo m D).length (intCells (asksTo m D)) ∧ Below WA.heap.size WA wr2) (fun _ i _ => 4 - (intOf i).toNat)
      case atStart => exact ⟨0, _, by omega, rfl, rfl, World.ownsRow_nil WA _ 3 1, Below.refl _ _⟩
      case round =>
        obtain ⟨D, o, hD, rfl, rfl, hR, hB⟩ := hrel
        have HR : Hid (wr.ownsRow WA.heap.size 3 1 o (asksTo m D).length (intCells (asksTo m D))) := hR
        have HBA : Hid (Below WA.heap.size WA wr) := hB
        have hsz : WA.heap.size ≤ wr.heap.size := hB.size
        have hlen := asksTo_length m D
        clear hR hB
        by_cases hlt : D < 4
        · have hD4 : D = 0 ∨ D = 1 ∨ D = 2 ∨ D = 3 := by omega
          rcases hD4 with rfl | rfl | rfl | rfl
          · cases b0
            · have HN : Hid (asksTo m (0 + 1) = asksTo m 0) := asksTo_no m 0 HB0.out.symm
              go_wp2
              go_roundw
              case rel => exact ⟨1, _, by omega, rfl, by go_num, by rw [HN.out]; exact HR.out, HBA.out⟩
              case measure => simp [intOf]
            · have HN : Hid (asksTo m (0 + 1) = asksTo m 0 ++ [0]) := asksTo_yes m 0 HB0.out.symm
              go_wp2_with (at_builtin; refine wpList_append_own _ rfl _ _ 22 rfl WA.heap.size 3 i0 (.int .i64 0) 1 8 Try.underlying22 hi hz0 hz1 hz2 rfl (by decide) o _ _ rfl (HR.out.alloc _) ⟨wr.heap.size, 0, none⟩ 1 1 [.int .i64 0] rfl rfl (fun j u hu => by (match j, hu with | 0, hu => simp at hu; subst hu; simp [Addr.add] | (j + 1), hu => simp at hu)) (fun u hu => by simp at hu; subst hu; rfl) (by unfold maxLen; omega) (by omega) (by simp; omega) ?_; intro v' w2 hown hgrow hnil)
              go_roundw
              case rel =>
                refine ⟨1, _, by omega, rfl, by go_num, ?_, (HBA.out.alloc hsz _).grown hgrow (by simp; omega) (fun j e => row_ge HR.out e)⟩
                rw [HN.out, intCells_append, List.length_append]
                exact hown
              case measure => simp [intOf]
          · cases b1
            · have HN : Hid (asksTo m (1 + 1) = asksTo m 1) := asksTo_no m 1 HB1.out.symm
              go_wp2
              go_roundw
              case rel => exact ⟨2, _, by omega, rfl, by go_num, by rw [HN.out]; exact HR.out, HBA.out⟩
              case measure => simp [intOf]
            · have HN : Hid (asksTo m (1 + 1) = asksTo m 1 ++ [1]) := asksTo_yes m 1 HB1.out.symm
              go_wp2_with (at_builtin; refine wpList_append_own _ rfl _ _ 22 rfl WA.heap.size 3 i0 (.int .i64 0) 1 8 Try.underlying22 hi hz0 hz1 hz2 rfl (by decide) o _ _ rfl (HR.out.alloc _) ⟨wr.heap.size, 0, none⟩ 1 1 [.int .i64 1] rfl rfl (fun j u hu => by (match j, hu with | 0, hu => simp at hu; subst hu; simp [Addr.add] | (j + 1), hu => simp at hu)) (fun u hu => by simp at hu; subst hu; rfl) (by unfold maxLen; omega) (by omega) (by simp; omega) ?_; intro v' w2 hown hgrow hnil)
              go_roundw
              case rel =>
                refine ⟨2, _, by omega, rfl, by go_num, ?_, (HBA.out.alloc hsz _).grown hgrow (by simp; omega) (fun j e => row_ge HR.out e)⟩
                rw [HN.out, intCells_append, List.length_append]
                exact hown
              case measure => simp [intOf]
          · cases b2
            · have HN : Hid (asksTo m (2 + 1) = asksTo m 2) := asksTo_no m 2 HB2.out.symm
              go_wp2
              go_roundw
              case rel => exact ⟨3, _, by omega, rfl, by go_num, by rw [HN.out]; exact HR.out, HBA.out⟩
              case measure => simp [intOf]
            · have HN : Hid (asksTo m (2 + 1) = asksTo m 2 ++ [2]) := asksTo_yes m 2 HB2.out.symm
              go_wp2_with (at_builtin; refine wpList_append_own _ rfl _ _ 22 rfl WA.heap.size 3 i0 (.int .i64 0) 1 8 Try.underlying22 hi hz0 hz1 hz2 rfl (by decide) o _ _ rfl (HR.out.alloc _) ⟨wr.heap.size, 0, none⟩ 1 1 [.int .i64 2] rfl rfl (fun j u hu => by (match j, hu with | 0, hu => simp at hu; subst hu; simp [Addr.add] | (j + 1), hu => simp at hu)) (fun u hu => by simp at hu; subst hu; rfl) (by unfold maxLen; omega) (by omega) (by simp; omega) ?_; intro v' w2 hown hgrow hnil)
              go_roundw
              case rel =>
                refine ⟨3, _, by omega, rfl, by go_num, ?_, (HBA.out.alloc hsz _).grown hgrow (by simp; omega) (fun j e => row_ge HR.out e)⟩
                rw [HN.out, intCells_append, List.length_append]
                exact hown
              case measure => simp [intOf]
          · cases b3
            · have HN : Hid (asksTo m (3 + 1) = asksTo m 3) := asksTo_no m 3 HB3.out.symm
              go_wp2
              go_roundw
              case rel => exact ⟨4, _, by omega, rfl, by go_num, by rw [HN.out]; exact HR.out, HBA.out⟩
              case measure => simp [intOf]
            · have HN : Hid (asksTo m (3 + 1) = asksTo m 3 ++ [3]) := asksTo_yes m 3 HB3.out.symm
              go_wp2_with (at_builtin; refine wpList_append_own _ rfl _ _ 22 rfl WA.heap.size 3 i0 (.int .i64 0) 1 8 Try.underlying22 hi hz0 hz1 hz2 rfl (by decide) o _ _ rfl (HR.out.alloc _) ⟨wr.heap.size, 0, none⟩ 1 1 [.int .i64 3] rfl rfl (fun j u hu => by (match j, hu with | 0, hu => simp at hu; subst hu; simp [Addr.add] | (j + 1), hu => simp at hu)) (fun u hu => by simp at hu; subst hu; rfl) (by unfold maxLen; omega) (by omega) (by simp; omega) ?_; intro v' w2 hown hgrow hnil)
              go_roundw
              case rel =>
                refine ⟨4, _, by omega, rfl, by go_num, ?_, (HBA.out.alloc hsz _).grown hgrow (by simp; omega) (fun j e => row_ge HR.out e)⟩
                rw [HN.out, intCells_append, List.length_append]
                exact hown
              case measure => simp [intOf]
        · obtain rfl : D = 4 := by omega
          go_wp2
          go_ret
          exact ⟨_, rfl, by rw [HE.out]; exact (OwnI.of_row HR.out).mono hzz, HB.out.trans (HBA.out.mono hzz)⟩
end Go.Proofs.Ythjabkfnmcodbaa

/- Rows of numbers: what stays where another row turns. -/
namespace Go.Proofs.Ythjabkfnmcodbaa
open Go.RowKit
/- As IsI, in a block below B. -/
def LowI (B : Nat) (w : World) (x : Value) (l : List Int) : Prop := ∃ a cap, x = .slice a l.length cap ∧ l.length ≤ cap ∧ cap ≤ maxLen ∧ (l = [] ∨ ∃ b off, a = some ⟨b, off, none⟩ ∧ b < B ∧ IntsAt w b off l)
theorem LowI.isI {B : Nat} {w : World} {x : Value} {l : List Int} (h : LowI B w x l) : IsI w x l := by
  obtain ⟨a, cap, rfl, h1, h2, h⟩ := h
  exact ⟨a, cap, rfl, h1, h2, h.imp id (fun ⟨b, off, e, _, h⟩ => ⟨b, off, e, h⟩)⟩
theorem IsI.low {w : World} {x : Value} {l : List Int} (h : IsI w x l) : LowI w.heap.size w x l := by
  obtain ⟨a, cap, rfl, h1, h2, h⟩ := h
  exact ⟨a, cap, rfl, h1, h2, h.imp id (fun ⟨b, off, e, h⟩ => ⟨b, off, e, h.1, h⟩)⟩
theorem LowI.below {B : Nat} {w w' : World} {x : Value} {l : List Int} (h : LowI B w x l) (hb : Below B w w') : LowI B w' x l := by
  obtain ⟨a, cap, rfl, h1, h2, h⟩ := h
  exact ⟨a, cap, rfl, h1, h2, h.imp id (fun ⟨b, off, e, hB, h⟩ => ⟨b, off, e, hB, h.below hb hB⟩)⟩
theorem OwnI.other {B g : Nat} {w w' : World} {x : Value} {l : List Int} (h : OwnI B w x l) (hg : g < B) (hgr : w.grownBy w' (some g)) : OwnI B w' x l := by
  obtain ⟨a, cap, rfl, h1, h2, h⟩ := h
  refine ⟨a, cap, rfl, h1, h2, h.imp id ?_⟩
  rintro ⟨b, rfl, hB, hf, hr⟩
  have hk : w'.heap[b]? = w.heap[b]? := hgr.block b hr.1 (by intro e; have := Option.some.inj e; omega)
  have hc : ∀ o, w'.cell? ⟨b, o, none⟩ = w.cell? ⟨b, o, none⟩ := fun o => World.cell?_of_block (w := w) hk
  have hz : ∀ o, w'.frozen? ⟨b, o, none⟩ = w.frozen? ⟨b, o, none⟩ := fun o => World.frozen?_of_block (w := w) hk
  exact ⟨b, rfl, hB, fun j hj => (hz j).trans (hf j hj), Nat.lt_of_lt_of_le hr.1 hgr.size, fun i hi => (hc _).trans (hr.2 i hi)⟩
/- An answer: a list of one's own and a flag. -/
def AnsI (B : Nat) (r : List Int) (b : Bool) (e : Ending) (w' : World) : Prop := ∃ v, e = .returned (.tuple #[v, .bool b]) ∧ OwnI B w' v r
end Go.Proofs.Ythjabkfnmcodbaa

/- Rows of numbers: eqByteS where both sides are the same, markByteS, heldByteS. -/
namespace Go.Proofs.Ythjabkfnmcodbaa.By
open Go.RowKit Go.Proofs.Ythjabkfnmcodbaa
def intAt (l : List UInt8) (i : Nat) : UInt8 := l.getD i 0
def intCells (l : List UInt8) : List Value := l.map (fun z => Value.int .u8 (z.toNat : Int))
/- The bytes of l lie in block b from off on. -/
def IntsAt (w : World) (b off : Nat) (l : List UInt8) : Prop := b < w.heap.size ∧ ∀ i, i < l.length → w.cell? ⟨b, off + i, none⟩ = some (.int .u8 ((intAt l i).toNat : Int))
def IsI (w : World) (x : Value) (l : List UInt8) : Prop := ∃ a cap, x = .slice a l.length cap ∧ l.length ≤ cap ∧ cap ≤ maxLen ∧ (l = [] ∨ ∃ b off, a = some ⟨b, off, none⟩ ∧ IntsAt w b off l)
theorem IntsAt.below {w w' : World} {B b off : Nat} {l : List UInt8} (h : IntsAt w b off l) (hb : Below B w w') (hB : b < B) : IntsAt w' b off l :=
  ⟨Nat.lt_of_lt_of_le h.1 hb.size, fun i hi => (hb.cell hB).trans (h.2 i hi)⟩
theorem IsI.below {w w' : World} {x : Value} {l : List UInt8} (h : IsI w x l) (hb : Below w.heap.size w w') : IsI w' x l := by
  obtain ⟨a, cap, rfl, h1, h2, h⟩ := h
  exact ⟨a, cap, rfl, h1, h2, h.imp id (fun ⟨b, off, e, h⟩ => ⟨b, off, e, h.below hb h.1⟩)⟩
/- The block g holds n cells that may be written; the first k of them hold the marks. -/
def MarkTo (w : World) (g n k : Nat) : Prop := g < w.heap.size ∧ (∀ j, j < n → (w.cell? ⟨g, j, none⟩).isSome = true ∧ w.frozen? ⟨g, j, none⟩ = false) ∧ ∀ i, i < k → w.cell? ⟨g, i, none⟩ = some (.int .u8 (((i : Int) + 1) % 256))
theorem MarkTo.below {w w' : World} {B g n k : Nat} (h : MarkTo w g n k) (hb : Below B w w') (hB : g < B) : MarkTo w' g n k :=
  ⟨Nat.lt_of_lt_of_le h.1 hb.size, fun j hj => by rw [hb.cell (p := ⟨g, j, none⟩) hB, hb.frozen (p := ⟨g, j, none⟩) hB]; exact h.2.1 j hj, fun i hi => (hb.cell hB).trans (h.2.2 i hi)⟩
theorem MarkTo.put {w : World} {g n k : Nat} (h : MarkTo w g n k) (hk : k < n) : MarkTo (w.setCell ⟨g, k, none⟩ (.int .u8 (((k : Int) + 1) % 256))) g n (k + 1) := by
  have e1 : w.setCell ⟨g, k, none⟩ (.int .u8 (((k : Int) + 1) % 256)) = w.setCells g k [.int .u8 (((k : Int) + 1) % 256)] := rfl
  have hsame : ∀ j, j ≠ k → (w.setCell ⟨g, k, none⟩ (.int .u8 (((k : Int) + 1) % 256))).cell? ⟨g, j, none⟩ = w.cell? ⟨g, j, none⟩ := fun j hj => by
    rw [e1]
    exact World.cell?_setCells_out g _ k w ⟨g, j, none⟩ (fun _ _ => by simp; omega)
  have hat : (w.setCell ⟨g, k, none⟩ (.int .u8 (((k : Int) + 1) % 256))).cell? ⟨g, k, none⟩ = some (.int .u8 (((k : Int) + 1) % 256)) := by
    rw [e1]
    have h0 := World.cell?_setCells_in g [.int .u8 (((k : Int) + 1) % 256)] k w (fun j hj => by
      obtain rfl : j = 0 := by simpa using hj
      exact (h.2.1 k hk).1) 0 (by simp)
    simpa using h0
  refine ⟨by simpa using h.1, fun j hj => ?_, fun i hi => ?_⟩
  · refine ⟨?_, ?_⟩
    · by_cases e : j = k
      · subst e; rw [hat]; rfl
      · rw [hsame j e]; exact (h.2.1 j hj).1
    · rw [e1, World.frozen?_setCells]; exact (h.2.1 j hj).2
  · by_cases e : i = k
    · subst e; exact hat
    · rw [hsame i e]; exact h.2.2 i (by omega)
theorem grown_refl (w : World) (row : Option Nat) : w.grownBy w row := ⟨rfl, rfl, rfl, Nat.le_refl _, fun _ _ _ => rfl⟩
theorem grown_trans {w w' w'' : World} {row : Option Nat} (h : w.grownBy w' row) (h' : w'.grownBy w'' row) : w.grownBy w'' row :=
  ⟨h'.os.trans h.os, h'.tape.trans h.tape, h'.output.trans h.output, Nat.le_trans h.size h'.size, fun k hk hr => (h'.block k (Nat.lt_of_lt_of_le hk h.size) hr).trans (h.block k hk hr)⟩
theorem setCell_grown (w : World) (g o : Nat) (v : Value) : w.grownBy (w.setCell ⟨g, o, none⟩ v) (some g) := by
  refine ⟨?_, ?_, ?_, by simp, fun k _ hk => Below.heap_setCell _ _ _ _ (fun e => hk (by rw [e]))⟩
  all_goals (unfold World.setCell; rfl)

set_option maxHeartbeats 2000000 in
theorem eqI_same (x y : Value) (l : List UInt8) (w : World) (hl : l.length ≤ 4611686018427387904) (hx : IsI w x l) (hy : IsI w y l) :
    Calls Try.prog 18 #[x, y] w fun e w' => e = .returned (.bool true) ∧ Below w.heap.size w w' := by
  obtain ⟨a, cap, rfl, h1, h2, h⟩ := hx
  obtain ⟨a', cap', rfl, h1', h2', h'⟩ := hy
  clear h1 h2 h1' h2'
  by_cases hz : l = []
  · subst hz
    clear h h'
    go_enter Try.func18, Try.ntmps18
    go_wp2
    go_loop [5] (fun i => i = .int .i64 0) (fun _ => 0)
    case atStart => rfl
    case round =>
      subst hrel
      go_wp2
      go_ret
      exact ⟨rfl, Below.refl _ _⟩
  · obtain ⟨b, off, rfl, hb, hc⟩ := h.resolve_left hz
    obtain ⟨b', off', rfl, hb', hc'⟩ := h'.resolve_left hz
    clear h h' hz
    go_enter Try.func18, Try.ntmps18
    go_wp2
    go_loopw [5] (fun i wr => ∃ k : Nat, k ≤ l.length ∧ i = .int .i64 k ∧ Below w.heap.size w wr) (fun i _ => l.length - (intOf i).toNat)
    case atStart => exact ⟨0, Nat.zero_le _, rfl, Below.refl _ _⟩
    case round =>
      obtain ⟨k, hk, rfl, hB⟩ := hrel
      have HB : Hid (Below w.heap.size w wr) := hB
      by_cases hlt : k < l.length
      · have f0 := (hB.cell (p := ⟨b, off + k, none⟩) hb).trans (hc k hlt)
        have e0 := (hB.cell (p := ⟨b', off' + k, none⟩) hb').trans (hc' k hlt)
        generalize ((intAt l k).toNat : Int) = z at f0 e0
        clear hB hc hc'
        go_wp2_with fail
        go_region_held3 (fun W => W.cell? ⟨b, off + k, none⟩ = some (.int .u8 z) ∧ W.cell? ⟨b', off' + k, none⟩ = some (.int .u8 z)) ((repeat' apply And.intro) <;> go_keep) (fail)
        go_wp2
        go_roundw
        case rel => exact ⟨k + 1, by omega, by go_num, HB.out.drew⟩
        case measure => simp [intOf]; omega
      · clear hB hc hc'
        go_wp2
        go_ret
        exact ⟨rfl, HB.out⟩

set_option maxHeartbeats 2000000 in
theorem markI_any (g n cap : Nat) (w : World) (hn : n ≤ 4611686018427387904) (hR : MarkTo w g n 0) :
    Calls Try.prog 20 #[.slice (some ⟨g, 0, none⟩) n cap, .int .i64 1] w fun e w' => e = .returned (.int .i64 ((n : Int) + 1)) ∧ MarkTo w' g n n ∧ w.grownBy w' (some g) := by
  have HR0 : Hid (MarkTo w g n 0) := hR
  clear hR
  go_enter Try.func20, Try.ntmps20
  go_wp2
  go_loopw [5, 1] (fun i z wr => ∃ k : Nat, k ≤ n ∧ i = .int .i64 k ∧ z = .int .i64 ((k : Int) + 1) ∧ MarkTo wr g n k ∧ w.grownBy wr (some g)) (fun i _ _ => n - (intOf i).toNat)
  case atStart => exact ⟨0, Nat.zero_le _, rfl, rfl, HR0.out, grown_refl _ _⟩
  case round =>
    obtain ⟨k, hk, rfl, rfl, hR, hg⟩ := hrel
    have HR : Hid (MarkTo wr g n k) := hR
    have HG : Hid (w.grownBy wr (some g)) := hg
    clear hR hg
    by_cases hlt : k < n
    · obtain ⟨v, hv⟩ := Option.isSome_iff_exists.1 (HR.out.2.1 k hlt).1
      have hf := (HR.out.2.1 k hlt).2
      go_wp2
      go_roundw
      case rel => exact ⟨k + 1, by omega, by go_num, by go_num, HR.out.put hlt, grown_trans HG.out (setCell_grown _ _ _ _)⟩
      case measure => simp [intOf]; omega
    · go_wp2
      go_ret
      obtain rfl : k = n := by omega
      exact ⟨rfl, HR.out, HG.out⟩

set_option maxHeartbeats 2000000 in
theorem heldI_any (g n cap : Nat) (w : World) (hn : n ≤ 4611686018427387904) (hR : MarkTo w g n n) :
    Calls Try.prog 21 #[.slice (some ⟨g, 0, none⟩) n cap, .int .i64 1] w fun e w' => e = .returned (.int .i64 ((n : Int) + 1)) ∧ w' = w := by
  have HR : Hid (MarkTo w g n n) := hR
  clear hR
  go_enter Try.func21, Try.ntmps21
  go_wp2
  go_loop [5, 1] (fun i z => ∃ k : Nat, k ≤ n ∧ i = .int .i64 k ∧ z = .int .i64 ((k : Int) + 1)) (fun i _ => n - (intOf i).toNat)
  case atStart => exact ⟨0, Nat.zero_le _, rfl, rfl⟩
  case round =>
    obtain ⟨k, hk, rfl, rfl⟩ := hrel
    by_cases hlt : k < n
    · have hev := HR.out.2.2 k hlt
      go_wp2
      go_round
      case rel => exact ⟨k + 1, by omega, by go_num, by go_num⟩
      case measure => simp [intOf]; omega
    · go_wp2
      go_ret
      obtain rfl : k = n := by omega
      exact ⟨rfl, rfl⟩

set_option maxHeartbeats 1000000 in
theorem markI_nil (a : Option Addr) (cap : Nat) (w : World) : Calls Try.prog 20 #[.slice a 0 cap, .int .i64 1] w fun e w' => e = .returned (.int .i64 1) ∧ w' = w := by
  go_enter Try.func20, Try.ntmps20
  go_wp2
  go_loop [5, 1] (fun i z => i = .int .i64 0 ∧ z = .int .i64 1) (fun _ _ => 0)
  case atStart => exact ⟨rfl, rfl⟩
  case round =>
    obtain ⟨rfl, rfl⟩ := hrel
    go_wp2
    go_ret
    exact ⟨rfl, rfl⟩
set_option maxHeartbeats 1000000 in
theorem heldI_nil (a : Option Addr) (cap : Nat) (w : World) : Calls Try.prog 21 #[.slice a 0 cap, .int .i64 1] w fun e w' => e = .returned (.int .i64 1) ∧ w' = w := by
  go_enter Try.func21, Try.ntmps21
  go_wp2
  go_loop [5, 1] (fun i z => i = .int .i64 0 ∧ z = .int .i64 1) (fun _ _ => 0)
  case atStart => exact ⟨rfl, rfl⟩
  case round =>
    obtain ⟨rfl, rfl⟩ := hrel
    go_wp2
    go_ret
    exact ⟨rfl, rfl⟩

/- A slice over the bytes l, in a block of its own from B on, all of whose cells may be written. -/
def OwnI (B : Nat) (w : World) (x : Value) (l : List UInt8) : Prop := ∃ a cap, x = .slice a l.length cap ∧ l.length ≤ cap ∧ cap ≤ maxLen ∧ (l = [] ∨ ∃ g, a = some ⟨g, 0, none⟩ ∧ B ≤ g ∧ (∀ j, j < l.length → w.frozen? ⟨g, j, none⟩ = false) ∧ IntsAt w g 0 l)
theorem OwnI.nil (B : Nat) (w : World) : OwnI B w (.slice none 0 0) [] := ⟨none, 0, rfl, Nat.le_refl _, Nat.zero_le _, .inl rfl⟩
theorem OwnI.isI {B : Nat} {w : World} {x : Value} {l : List UInt8} (h : OwnI B w x l) : IsI w x l := by
  obtain ⟨a, cap, rfl, h1, h2, h⟩ := h
  exact ⟨a, cap, rfl, h1, h2, h.imp id (fun ⟨g, e, _, _, hr⟩ => ⟨g, 0, e, hr⟩)⟩
theorem OwnI.below {B : Nat} {w w' : World} {x : Value} {l : List UInt8} (h : OwnI B w x l) (hb : Below w.heap.size w w') : OwnI B w' x l := by
  obtain ⟨a, cap, rfl, h1, h2, h⟩ := h
  exact ⟨a, cap, rfl, h1, h2, h.imp id (fun ⟨g, e, hg, hf, hr⟩ => ⟨g, e, hg, fun j hj => (hb.frozen (p := ⟨g, j, none⟩) hr.1).trans (hf j hj), hr.below hb hr.1⟩)⟩
theorem OwnI.mono {B B' : Nat} {w : World} {x : Value} {l : List UInt8} (h : OwnI B w x l) (hb : B' ≤ B) : OwnI B' w x l := by
  obtain ⟨a, cap, rfl, h1, h2, h⟩ := h
  exact ⟨a, cap, rfl, h1, h2, h.imp id (fun ⟨g, e, hg, hr⟩ => ⟨g, e, Nat.le_trans hb hg, hr⟩)⟩
theorem OwnI.of_row {B : Nat} {w : World} {x : Value} {l : List UInt8} (h : w.ownsRow B 5 1 x l.length (intCells l)) : OwnI B w x l := by
  obtain ⟨hl, ⟨rfl, h0⟩ | ⟨g, cap, cur, rfl, hg, hc, h1, h2, h3, h4⟩⟩ := h
  · exact ⟨none, 0, by rw [h0], by omega, by unfold maxLen; omega, .inl (List.eq_nil_of_length_eq_zero h0)⟩
  · refine ⟨_, cap, rfl, h1, h2, .inr ⟨g, rfl, hg, fun j hj => ?_, (Array.getElem?_eq_some_iff.1 hc).1, fun i hi => ?_⟩⟩
    · have hj2 : j < cur.size := by omega
      simp [World.frozen?, hc]
    · have e1 : w.cell? ⟨g, i, none⟩ = (intCells l)[i]? := by
        rw [← h4, List.getElem?_take_of_lt (by omega)]
        simp [World.cell?, hc]
      rw [Nat.zero_add, e1]
      simp [intCells, intAt, hi]
/- At most one row, at or above B, has turned. -/
def Turned (B : Nat) (w w' : World) : Prop := w' = w ∨ ∃ g, B ≤ g ∧ w.grownBy w' (some g)
theorem Turned.below {B : Nat} {w w' : World} (h : Turned B w w') (hB : B ≤ w.heap.size) : Below B w w' := by
  rcases h with rfl | ⟨g, hg, h⟩
  · exact Below.refl _ _
  · exact (Below.refl B w).grown h hB (fun k e => by cases e; exact hg)
def HeldI (w : World) (x : Value) (m : Int) : Prop := ∃ a n cap, x = .slice a n cap ∧ m = ((n : Nat) : Int) + 1 ∧ n ≤ 4611686018427387904 ∧ (n = 0 ∨ ∃ g, a = some ⟨g, 0, none⟩ ∧ MarkTo w g n n)
theorem HeldI.below {w w' : World} {x : Value} {m : Int} (h : HeldI w x m) (hb : Below w.heap.size w w') : HeldI w' x m := by
  obtain ⟨a, n, cap, h1, h2, h3, h4⟩ := h
  exact ⟨a, n, cap, h1, h2, h3, h4.imp id (fun ⟨g, e, hr⟩ => ⟨g, e, hr.below hb hr.1⟩)⟩
theorem heldI_in {w : World} {x : Value} {m : Int} (h : HeldI w x m) : Calls Try.prog 21 #[x, .int .i64 1] w fun e w' => e = .returned (.int .i64 m) ∧ w' = w := by
  obtain ⟨a, n, cap, rfl, rfl, hn, rfl | ⟨g, rfl, hr⟩⟩ := h
  · exact heldI_nil a cap w
  · exact heldI_any g n cap w hn hr
theorem markI_own {B : Nat} {w : World} {x : Value} {l : List UInt8} (h : OwnI B w x l) (hl : l.length ≤ 4611686018427387904) :
    Calls Try.prog 20 #[x, .int .i64 1] w fun e w' => ∃ m : Int, 1 ≤ m ∧ e = .returned (.int .i64 m) ∧ HeldI w' x m ∧ Turned B w w' := by
  obtain ⟨a, cap, rfl, h1, h2, h⟩ := h
  by_cases h0 : l = []
  · subst h0
    refine (markI_nil a cap w).mono ?_
    rintro e w' ⟨rfl, rfl⟩
    exact ⟨1, by omega, rfl, ⟨a, 0, cap, rfl, by simp, by omega, .inl rfl⟩, .inl rfl⟩
  · obtain ⟨g, rfl, hg, hf, hr⟩ := h.resolve_left h0
    refine (markI_any g l.length cap w hl ⟨hr.1, fun j hj => ⟨by have := hr.2 j hj; rw [Nat.zero_add] at this; rw [this]; rfl, hf j hj⟩, fun i hi => by omega⟩).mono ?_
    rintro e w' ⟨rfl, hr', hgr⟩
    exact ⟨_, by omega, rfl, ⟨_, l.length, cap, rfl, rfl, hl, .inr ⟨g, rfl, hr'⟩⟩, .inr ⟨g, hg, hgr⟩⟩
end Go.Proofs.Ythjabkfnmcodbaa.By

