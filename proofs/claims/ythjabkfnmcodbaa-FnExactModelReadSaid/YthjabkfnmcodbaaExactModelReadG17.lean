/- MAskI, MByP, VOpen, VOpenB -/
import Derived.Test.YthjabkfnmcodbaaExactModelReadG16
import Derived.Test.YthjabkfnmcodbaaExactModelReadG15
import Derived.Test.YthjabkfnmcodbaaExactModelReadG00
import Derived.ProofKit
import Derived.ChangeOld
import Derived.OpenShut
import Derived.SizedLaws
import Derived.Test.YthjabkfnmcodbaaExactModelReadG14
/- The program's AsksOf. -/
namespace Go.Proofs.Ythjabkfnmcodbaa
open Go.RowKit
/- The array of what was asked for so far. -/
def arrV (f : Nat → Bool) : Array Value := #[.bool (f 0), .bool (f 1), .bool (f 2), .bool (f 3)]
theorem arr_at {w : World} {A : Nat} {f : Nat → Bool} (h : Bk w A 88 (arrV f)) : w.cell? ⟨A, 0, none⟩ = some (.bool (f 0)) ∧ w.cell? ⟨A, 1, none⟩ = some (.bool (f 1)) ∧ w.cell? ⟨A, 2, none⟩ = some (.bool (f 2)) ∧ w.cell? ⟨A, 3, none⟩ = some (.bool (f 3)) :=
  ⟨h.cell (i := 0) rfl, h.cell (i := 1) rfl, h.cell (i := 2) rfl, h.cell (i := 3) rfl⟩
theorem arr_put {w : World} {A : Nat} {f : Nat → Bool} (h : Bk w A 88 (arrV f)) {d : Nat} (hd : d < 4) : Bk (w.setCell ⟨A, d, none⟩ (.bool true)) A 88 (arrV fun e => f e || decide (e = d)) := by
  have h4 : d = 0 ∨ d = 1 ∨ d = 2 ∨ d = 3 := by omega
  have hp := h.put d (.bool true)
  have e : (arrV f).setIfInBounds d (.bool true) = arrV fun e => f e || decide (e = d) := by
    rcases h4 with rfl | rfl | rfl | rfl <;> simp [arrV]
  rw [e] at hp
  exact hp
theorem arr_congr {w : World} {A : Nat} {f g : Nat → Bool} (h : Bk w A 88 (arrV f)) (e : ∀ d, d < 4 → f d = g d) : Bk w A 88 (arrV g) := by
  have : arrV f = arrV g := by unfold arrV; rw [e 0 (by omega), e 1 (by omega), e 2 (by omega), e 3 (by omega)]
  exact this ▸ h
theorem ok_op {m : Md} (h : m.ok = true) {k q : Nat} (hk : k < m.h.length) (hq : q < (hAt m.h k).length) : (oAt (hAt m.h k) q).ok m.n m.h.length = true := by
  have hh : m.okH = true := by simp [Md.ok] at h; exact h.1.2
  have hr : rowB m (hAt m.h k) = true := List.all_eq_true.1 hh k (by simpa using hk)
  simp only [rowB, Bool.and_eq_true] at hr
  exact List.all_eq_true.1 hr.2 q (by simpa using hq)
theorem ok_ask {m : Md} {c a b k : Int} (h : O.ok m.n m.h.length ⟨c, a, b, k⟩ = true) (hc : c = 4) : 0 ≤ a ∧ a ≤ 3 := by
  simp [O.ok, okO] at h
  omega
set_option maxRecDepth 100000 in
set_option maxHeartbeats 8000000 in
theorem iAskM (x : Value) (m : Md) (w : World) (hs : SmallM m) (h : IsM w x m) :
    Calls Try.prog 27 #[x] w fun e w' => ∃ u, e = .returned u ∧ OwnI w.heap.size w' u (asksL m) ∧ Below w.heap.size w w' := by
  have HX : Hid (IsM w x m) := h
  obtain ⟨vi, vh, vs, rfl, ⟨ai, ci, rfl, hi1, hi2, hi3⟩, ⟨ah, ch, rfl, hh1, hh2, hh3⟩, ⟨ae, ce, rfl, he1, he2, he3⟩⟩ := h
  have hi0 : m.i.length ≤ 1048576 := hs.i
  have hh0 : m.h.length ≤ 1048576 := hs.h
  have he0 : m.e.length ≤ 1048576 := hs.e
  have HS : Hid (SmallM m) := hs
  clear hs hi1 hi2 hh1 hh2 he1 he2
  clear hi3 he3 hi0 he0
  have HH : Hid (m.h = [] ∨ ∃ b off, ah = some ⟨b, off, none⟩ ∧ b < w.heap.size ∧ ∀ i, i < m.h.length → ∃ u, w.cell? ⟨b, off + i, none⟩ = some u ∧ IsO w u (hAt m.h i)) := hh3
  clear hh3
  obtain ⟨W0, hW0⟩ : ∃ W0, w.alloc (.cells #[.int .i64 m.n, .int .i64 m.s, .slice ai m.i.length ci, .slice ah m.h.length ch, .slice ae m.e.length ce, .int .i64 m.z] 34) = W0 := ⟨_, rfl⟩
  have HB0 : Hid (Below w.heap.size w W0) := by rw [← hW0]; exact (Below.refl _ w).alloc (Nat.le_refl _) _
  have HP0 : Hid (Bk W0 w.heap.size 34 #[.int .i64 m.n, .int .i64 m.s, .slice ai m.i.length ci, .slice ah m.h.length ch, .slice ae m.e.length ce, .int .i64 m.z]) := by rw [← hW0]; exact Bk.new w _ _
  have p0 := HP0.out.cell (i := 0) rfl
  have p1 := HP0.out.cell (i := 1) rfl
  have p2 := HP0.out.cell (i := 2) rfl
  have p3 := HP0.out.cell (i := 3) rfl
  have p4 := HP0.out.cell (i := 4) rfl
  have p5 := HP0.out.cell (i := 5) rfl
  go_enter Try.func27, Try.ntmps27
  go_wp2_with fail
  clear hW0 p0 p1 p2 p3 p4 p5
  refine (iModM _ m _ HS.out (HX.out.below HB0.out)).mono ?_
  rintro e W1 ⟨rfl, hb⟩
  have HB1 : Hid (Below w.heap.size w W1) := HB0.out.trans (hb.mono HB0.out.size)
  have HP1 : Hid (Bk W1 w.heap.size 34 #[.int .i64 m.n, .int .i64 m.s, .slice ai m.i.length ci, .slice ah m.h.length ch, .slice ae m.e.length ce, .int .i64 m.z]) := HP0.out.below hb
  clear hb HB0 HP0
  cases hok : m.ok
  case false =>
    have HE : Hid (asksL m = []) := (by simp [asksL, hok] : asksL m = [])
    clear hok
    go_wp2
    go_ret
    exact ⟨.slice none 0 0, rfl, by rw [HE.out]; exact OwnI.nil _ _, HB1.out⟩
  have HE : Hid (asksL m = asksTo m 4) := (by simp [asksL, hok] : asksL m = asksTo m 4)
  have HOK : Hid (m.ok = true) := hok
  clear hok
  obtain ⟨i0, hi, hz0, hz1, hz2⟩ := info_parts info3
  obtain ⟨W2, hW2⟩ : ∃ W2, W1.alloc (.cells #[.bool false, .bool false, .bool false, .bool false] 88) = W2 := ⟨_, rfl⟩
  have HB2 : Hid (Below w.heap.size w W2) := hW2 ▸ HB1.out.alloc HB1.out.size _
  have HA2 : Hid (Bk W2 W1.heap.size 88 (arrV fun d => askH m d 0)) := hW2 ▸ Bk.new _ _ _
  have HP2 : Hid (Bk W2 w.heap.size 34 #[.int .i64 m.n, .int .i64 m.s, .slice ai m.i.length ci, .slice ah m.h.length ch, .slice ae m.e.length ce, .int .i64 m.z]) := hW2 ▸ HP1.out.alloc _
  have p3 := HP2.out.cell (i := 3) rfl
  have hs1 : w.heap.size < W1.heap.size := HP1.out.lt
  go_wp2
  clear hW2 p3
  go_loopw [19] (fun i wr => ∃ k : Nat, k ≤ m.h.length ∧ i = .int .i64 k ∧ Bk wr W1.heap.size 88 (arrV fun d => askH m d k) ∧ Below w.heap.size w wr) (fun i _ => m.h.length - (intOf i).toNat)
  case atStart => exact ⟨0, Nat.zero_le _, rfl, HA2.out, HB2.out⟩
  case round =>
    clear HA2 HB2 HP2
    obtain ⟨k, hk, rfl, hA, hB⟩ := hrel
    have HA : Hid (Bk wr W1.heap.size 88 (arrV fun d => askH m d k)) := hA
    have HB : Hid (Below w.heap.size w wr) := hB
    clear hA hB
    by_cases hkl : k < m.h.length
    · obtain ⟨b, off, rfl, hb, hc⟩ := HH.out.resolve_left (by intro e; rw [e] at hkl; simp at hkl)
      obtain ⟨u, f0, hu⟩ := hc k hkl
      replace f0 := (HB.out.cell (p := ⟨b, off + k, none⟩) hb).trans f0
      have hL1 : (hAt m.h k).length ≤ 1048576 := HS.out.r k
      obtain ⟨a1, c1, rfl, _, _, hu⟩ := hu
      have HU : Hid (hAt m.h k = [] ∨ ∃ b off, a1 = some ⟨b, off, none⟩ ∧ OsAt w b off (hAt m.h k)) := hu
      clear hc hu
      go_wp2
      clear f0
      go_loopw [25] (fun i wr => ∃ q : Nat, q ≤ (hAt m.h k).length ∧ i = .int .i64 q ∧ Bk wr W1.heap.size 88 (arrV fun d => askH m d k || askR (hAt m.h k) d q) ∧ Below w.heap.size w wr) (fun i _ => (hAt m.h k).length - (intOf i).toNat)
      case atStart => exact ⟨0, Nat.zero_le _, rfl, arr_congr HA.out (fun d _ => by simp [askR]), HB.out⟩
      case round =>
        clear HA HB
        obtain ⟨q, hq, rfl, hA, hB⟩ := hrel
        have HA : Hid (Bk wr W1.heap.size 88 (arrV fun d => askH m d k || askR (hAt m.h k) d q)) := hA
        have HB : Hid (Below w.heap.size w wr) := hB
        clear hA
        by_cases hql : q < (hAt m.h k).length
        · obtain ⟨b1, off1, rfl, hb1, hc1⟩ := HU.out.resolve_left (by intro e; rw [e] at hql; simp at hql)
          obtain ⟨g0, g1, g2, g3⟩ := (hc1 q hql).below hB hb1
          have HN : Hid (∀ d, askR (hAt m.h k) d (q + 1) = (askR (hAt m.h k) d q || askO (oAt (hAt m.h k) q) d)) := fun d => askR_succ _ _ _
          have HO : Hid ((oAt (hAt m.h k) q).ok m.n m.h.length = true) := ok_op HOK.out hkl hql
          generalize oAt (hAt m.h k) q = e at g0 g1 g2 g3 HN HO
          obtain ⟨c, a, b2, k2⟩ := e
          clear hc1 hB
          obtain ⟨V, hV⟩ : ∃ V, wr.alloc (.cells #[.int .i64 c, .int .i64 a, .int .i64 b2, .int .i64 k2] 36) = V := ⟨_, rfl⟩
          have hbV : Below wr.heap.size wr V := hV ▸ (Below.refl _ wr).alloc (Nat.le_refl _) _
          have HBV : Hid (Below w.heap.size w V) := HB.out.trans (hbV.mono HB.out.size)
          have HAV : Hid (Bk V W1.heap.size 88 (arrV fun d => askH m d k || askR (hAt m.h k) d q)) := HA.out.below hbV
          have hQV : Bk V wr.heap.size 36 #[.int .i64 c, .int .i64 a, .int .i64 b2, .int .i64 k2] := hV ▸ Bk.new _ _ _
          have e0 := hQV.cell (i := 0) rfl
          have e1 := hQV.cell (i := 1) rfl
          have e2 := hQV.cell (i := 2) rfl
          have e3 := hQV.cell (i := 3) rfl
          clear hbV hQV HB HA
          go_wp2_with fail
          clear g0 g1 g2 g3 e0 e1 e2 e3 hV
          refine (deedOf_any _ _ _ _ _).mono ?_
          rintro e w2 ⟨rfl, hb2⟩
          have HB2 : Hid (Below w.heap.size w w2) := HBV.out.trans (hb2.mono HBV.out.size)
          have HA2 : Hid (Bk w2 W1.heap.size 88 (arrV fun d => askH m d k || askR (hAt m.h k) d q)) := HAV.out.below hb2
          clear hb2 HBV HAV
          generalize hdv : deedV c a b2 k2 = dv
          have HDV : Hid (deedV c a b2 k2 = dv) := hdv
          clear hdv
          go_wp2_with fail
          refine (HDV.out ▸ askOf_any c a b2 k2 w2).mono ?_
          rintro e w3 ⟨rfl, hb3⟩
          have HB3 : Hid (Below w.heap.size w w3) := HB2.out.trans (hb3.mono HB2.out.size)
          have HA3 : Hid (Bk w3 W1.heap.size 88 (arrV fun d => askH m d k || askR (hAt m.h k) d q)) := HA2.out.below hb3
          clear hb3 HB2 HA2 HDV
          by_cases hc4 : c = 4
          · rw [if_pos hc4, decide_eq_true hc4]
            obtain ⟨ha0, ha1⟩ := ok_ask HO.out hc4
            obtain ⟨d, rfl⟩ : ∃ d : Nat, a = (d : Int) := ⟨a.toNat, by omega⟩
            have hd4 : d < 4 := by omega
            have hdi : (d : Int) < 4 := by omega
            have HC : Hid (c = 4) := hc4
            have hcell : ∃ v, w3.cell? ⟨W1.heap.size, d, none⟩ = some v := by
              obtain ⟨r0, r1, r2, r3⟩ := arr_at HA3.out
              have h4 : d = 0 ∨ d = 1 ∨ d = 2 ∨ d = 3 := by omega
              rcases h4 with rfl | rfl | rfl | rfl
              · exact ⟨_, r0⟩
              · exact ⟨_, r1⟩
              · exact ⟨_, r2⟩
              · exact ⟨_, r3⟩
            obtain ⟨v0, hcell⟩ := hcell
            have hfr := HA3.out.free d
            clear hc4
            go_wp2
            go_roundw
            case rel =>
              refine ⟨q + 1, by omega, by go_num, arr_congr (arr_put HA3.out hd4) (fun e he => ?_), HB3.out.setCell (p := ⟨W1.heap.size, d, none⟩) (by show w.heap.size ≤ W1.heap.size; omega) _⟩
              rw [HN.out]
              simp only [askO, HC.out, decide_true, Bool.true_and, Bool.or_assoc]
              congr 2
              rw [Bool.eq_iff_iff]
              simp only [decide_eq_true_eq]
              omega
            case measure => simp [intOf]; omega
          · rw [if_neg hc4, decide_eq_false hc4]
            have HC : Hid (¬ c = 4) := hc4
            clear hc4
            go_wp2
            go_roundw
            case rel => exact ⟨q + 1, by omega, by go_num, arr_congr HA3.out (fun e he => by rw [HN.out]; simp [askO, HC.out]), HB3.out⟩
            case measure => simp [intOf]; omega
        · obtain rfl : q = (hAt m.h k).length := by omega
          clear hB
          go_wp2
          go_roundw
          case rel => exact ⟨k + 1, by omega, by go_num, arr_congr HA.out (fun d _ => (askH_succ m d k).symm), HB.out⟩
          case measure => simp [intOf]; omega
    · obtain rfl : k = m.h.length := by omega
      obtain ⟨r0, r1, r2, r3⟩ := arr_at HA.out
      obtain ⟨b0, hb0⟩ : ∃ b : Bool, b = askH m 0 m.h.length := ⟨_, rfl⟩
      have HB0 : Hid (b0 = askH m 0 m.h.length) := hb0
      rw [← hb0] at r0
      clear hb0
      obtain ⟨b1, hb1⟩ : ∃ b : Bool, b = askH m 1 m.h.length := ⟨_, rfl⟩
      have HB1 : Hid (b1 = askH m 1 m.h.length) := hb1
      rw [← hb1] at r1
      clear hb1
      obtain ⟨b2, hb2⟩ : ∃ b : Bool, b = askH m 2 m.h.length := ⟨_, rfl⟩
      have HB2 : Hid (b2 = askH m 2 m.h.length) := hb2
      rw [← hb2] at r2
      clear hb2
      obtain ⟨b3, hb3⟩ : ∃ b : Bool, b = askH m 3 m.h.length := ⟨_, rfl⟩
      have HB3 : Hid (b3 = askH m 3 m.h.length) := hb3
      rw [← hb3] at r3
      clear hb3
      have j0 : ∀ w : World, (Instr.index 88 (.agg #[.bool b0, .bool b1, .bool b2, .bool b3]) (.int .i64 0)).run Try.prog w = .ok (.bool b0) w := fun w => by kernel_rfl
      have j1 : ∀ w : World, (Instr.index 88 (.agg #[.bool b0, .bool b1, .bool b2, .bool b3]) (.int .i64 1)).run Try.prog w = .ok (.bool b1) w := fun w => by kernel_rfl
      have j2 : ∀ w : World, (Instr.index 88 (.agg #[.bool b0, .bool b1, .bool b2, .bool b3]) (.int .i64 2)).run Try.prog w = .ok (.bool b2) w := fun w => by kernel_rfl
      have j3 : ∀ w : World, (Instr.index 88 (.agg #[.bool b0, .bool b1, .bool b2, .bool b3]) (.int .i64 3)).run Try.prog w = .ok (.bool b3) w := fun w => by kernel_rfl
      have hzz : w.heap.size ≤ wr.heap.size := HB.out.size
      go_wp2
      clear r0 r1 r2 r3 HA
      obtain ⟨WA, hWA⟩ : ∃ WA, WA = wr := ⟨_, rfl⟩
      subst hWA
      go_loopw [10, 41] (fun o i wr2 => ∃ (D : Nat) (v : Value), D ≤ 4 ∧ v = o ∧ i = .int .i64 D ∧ wr2.ownsRow WA.heap.size 3 1 o (asksTo m D).length (intCells (asksTo m D)) ∧ Below WA.heap.size WA wr2) (fun _ i _ => 4 - (intOf i).toNat)
      case atStart => exact ⟨0, _, by omega, rfl, rfl, World.ownsRow_nil WA _ 3 1, Below.refl _ _⟩
      case round =>
        obtain ⟨D, o, hD, rfl, rfl, hR, hB⟩ := hrel
        have HR : Hid (wr.ownsRow WA.heap.size 3 1 o (asksTo m D).length (intCells (asksTo m D))) := hR
        have HBA : Hid (Below WA.heap.size WA wr) := hB
        have hsz : WA.heap.size ≤ wr.heap.size := hB.size
        have hlen := asksTo_length m D
        clear hR hB
        by_cases hlt : D < 4
        · have hD4 : D = 0 ∨ D = 1 ∨ D = 2 ∨ D = 3 := by omega
          rcases hD4 with rfl | rfl | rfl | rfl
          · cases b0
            · have HN : Hid (asksTo m (0 + 1) = asksTo m 0) := asksTo_no m 0 HB0.out.symm
              go_wp2
              go_roundw
              case rel => exact ⟨1, _, by omega, rfl, by go_num, by rw [HN.out]; exact HR.out, HBA.out⟩
              case measure => simp [intOf]
            · have HN : Hid (asksTo m (0 + 1) = asksTo m 0 ++ [0]) := asksTo_yes m 0 HB0.out.symm
              go_wp2_with (at_builtin; refine wpList_append_own _ rfl _ _ 22 rfl WA.heap.size 3 i0 (.int .i64 0) 1 8 Try.underlying22 hi hz0 hz1 hz2 rfl (by decide) o _ _ rfl (HR.out.alloc _) ⟨wr.heap.size, 0, none⟩ 1 1 [.int .i64 0] rfl rfl (fun j u hu => by (match j, hu with | 0, hu => simp at hu; subst hu; simp [Addr.add] | (j + 1), hu => simp at hu)) (fun u hu => by simp at hu; subst hu; rfl) (by unfold maxLen; omega) (by omega) (by simp; omega) ?_; intro v' w2 hown hgrow hnil)
              go_roundw
              case rel =>
                refine ⟨1, _, by omega, rfl, by go_num, ?_, (HBA.out.alloc hsz _).grown hgrow (by simp; omega) (fun j e => row_ge HR.out e)⟩
                rw [HN.out, intCells_append, List.length_append]
                exact hown
              case measure => simp [intOf]
          · cases b1
            · have HN : Hid (asksTo m (1 + 1) = asksTo m 1) := asksTo_no m 1 HB1.out.symm
              go_wp2
              go_roundw
              case rel => exact ⟨2, _, by omega, rfl, by go_num, by rw [HN.out]; exact HR.out, HBA.out⟩
              case measure => simp [intOf]
            · have HN : Hid (asksTo m (1 + 1) = asksTo m 1 ++ [1]) := asksTo_yes m 1 HB1.out.symm
              go_wp2_with (at_builtin; refine wpList_append_own _ rfl _ _ 22 rfl WA.heap.size 3 i0 (.int .i64 0) 1 8 Try.underlying22 hi hz0 hz1 hz2 rfl (by decide) o _ _ rfl (HR.out.alloc _) ⟨wr.heap.size, 0, none⟩ 1 1 [.int .i64 1] rfl rfl (fun j u hu => by (match j, hu with | 0, hu => simp at hu; subst hu; simp [Addr.add] | (j + 1), hu => simp at hu)) (fun u hu => by simp at hu; subst hu; rfl) (by unfold maxLen; omega) (by omega) (by simp; omega) ?_; intro v' w2 hown hgrow hnil)
              go_roundw
              case rel =>
                refine ⟨2, _, by omega, rfl, by go_num, ?_, (HBA.out.alloc hsz _).grown hgrow (by simp; omega) (fun j e => row_ge HR.out e)⟩
                rw [HN.out, intCells_append, List.length_append]
                exact hown
              case measure => simp [intOf]
          · cases b2
            · have HN : Hid (asksTo m (2 + 1) = asksTo m 2) := asksTo_no m 2 HB2.out.symm
              go_wp2
              go_roundw
              case rel => exact ⟨3, _, by omega, rfl, by go_num, by rw [HN.out]; exact HR.out, HBA.out⟩
              case measure => simp [intOf]
            · have HN : Hid (asksTo m (2 + 1) = asksTo m 2 ++ [2]) := asksTo_yes m 2 HB2.out.symm
              go_wp2_with (at_builtin; refine wpList_append_own _ rfl _ _ 22 rfl WA.heap.size 3 i0 (.int .i64 0) 1 8 Try.underlying22 hi hz0 hz1 hz2 rfl (by decide) o _ _ rfl (HR.out.alloc _) ⟨wr.heap.size, 0, none⟩ 1 1 [.int .i64 2] rfl rfl (fun j u hu => by (match j, hu with | 0, hu => simp at hu; subst hu; simp [Addr.add] | (j + 1), hu => simp at hu)) (fun u hu => by simp at hu; subst hu; rfl) (by unfold maxLen; omega) (by omega) (by simp; omega) ?_; intro v' w2 hown hgrow hnil)
              go_roundw
              case rel =>
                refine ⟨3, _, by omega, rfl, by go_num, ?_, (HBA.out.alloc hsz _).grown hgrow (by simp; omega) (fun j e => row_ge HR.out e)⟩
                rw [HN.out, intCells_append, List.length_append]
                exact hown
              case measure => simp [intOf]
          · cases b3
            · have HN : Hid (asksTo m (3 + 1) = asksTo m 3) := asksTo_no m 3 HB3.out.symm
              go_wp2
              go_roundw
              case rel => exact ⟨4, _, by omega, rfl, by go_num, by rw [HN.out]; exact HR.out, HBA.out⟩
              case measure => simp [intOf]
            · have HN : Hid (asksTo m (3 + 1) = asksTo m 3 ++ [3]) := asksTo_yes m 3 HB3.out.symm
              go_wp2_with (at_builtin; refine wpList_append_own _ rfl _ _ 22 rfl WA.heap.size 3 i0 (.int .i64 0) 1 8 Try.underlying22 hi hz0 hz1 hz2 rfl (by decide) o _ _ rfl (HR.out.alloc _) ⟨wr.heap.size, 0, none⟩ 1 1 [.int .i64 3] rfl rfl (fun j u hu => by (match j, hu with | 0, hu => simp at hu; subst hu; simp [Addr.add] | (j + 1), hu => simp at hu)) (fun u hu => by simp at hu; subst hu; rfl) (by unfold maxLen; omega) (by omega) (by simp; omega) ?_; intro v' w2 hown hgrow hnil)
              go_roundw
              case rel =>
                refine ⟨4, _, by omega, rfl, by go_num, ?_, (HBA.out.alloc hsz _).grown hgrow (by simp; omega) (fun j e => row_ge HR.out e)⟩
                rw [HN.out, intCells_append, List.length_append]
                exact hown
              case measure => simp [intOf]
        · obtain rfl : D = 4 := by omega
          go_wp2
          go_ret
          exact ⟨_, rfl, by rw [HE.out]; exact (OwnI.of_row HR.out).mono hzz, HB.out.trans (HBA.out.mono hzz)⟩
end Go.Proofs.Ythjabkfnmcodbaa

/- ModelBytes: plain words. -/
namespace Go.Proofs.Ythjabkfnmcodbaa
open Go.RowKit
def iniB (m : Md) : Nat → List UInt8
  | 0 => []
  | k + 1 => iniB m k ++ twoB (intAt m.i k)
def rowsB (m : Md) : Nat → List UInt8
  | 0 => []
  | k + 1 => rowsB m k ++ rowBs (hAt m.h k)
def evsB (m : Md) : Nat → List UInt8
  | 0 => []
  | k + 1 => evsB m k ++ evB (evAt m.e k)
def headB (m : Md) : List UInt8 := [byteOf m.n, byteOf (m.h.length : Int), byteOf (m.e.length : Int)]
def bytesL (m : Md) : List UInt8 := headB m ++ twoB m.z ++ twoB m.s ++ iniB m m.i.length ++ rowsB m m.h.length ++ evsB m m.e.length
def bytesR (m : Md) : List UInt8 := if m.ok = true then bytesL m else []
theorem iniB_length (m : Md) : ∀ k, (iniB m k).length = 2 * k
  | 0 => rfl
  | k + 1 => by simp [iniB, iniB_length m k, twoB_length]; omega
theorem rowBs_length (r : List O) : (rowBs r).length = 1 + 5 * r.length := by simp [rowBs, opsB_length]; omega
theorem evsB_length (m : Md) : ∀ k, (evsB m k).length = 6 * k
  | 0 => rfl
  | k + 1 => by simp [evsB, evsB_length m k, evB_length]; omega
theorem ok_all {m : Md} (h : m.ok = true) : m.hd ∧ m.okI = true ∧ m.okH = true ∧ m.okE = true := by
  simp [Md.ok] at h
  exact ⟨h.1.1.1, h.1.1.2, h.1.2, h.2⟩
theorem ok_row {m : Md} (h : m.ok = true) (k : Nat) : (hAt m.h k).length ≤ 8 := by
  by_cases hk : k < m.h.length
  · have hr : rowB m (hAt m.h k) = true := List.all_eq_true.1 (ok_all h).2.2.1 k (by simpa using hk)
    simp only [rowB, Bool.and_eq_true, decide_eq_true_eq] at hr
    exact hr.1
  · rw [hAt_out (by omega)]; simp
theorem rowsB_length {m : Md} (h : m.ok = true) : ∀ k, (rowsB m k).length ≤ 41 * k
  | 0 => by simp [rowsB]
  | k + 1 => by
    have := rowsB_length h k
    have := ok_row h k
    simp [rowsB, rowBs_length]; omega
theorem ok_int {m : Md} (h : m.ok = true) {k : Nat} (hk : k < m.i.length) : 0 ≤ intAt m.i k ∧ intAt m.i k ≤ 999 := by
  have := List.all_eq_true.1 (ok_all h).2.1 k (by simpa using hk)
  simpa [inB] using this
theorem ok_small {m : Md} (h : m.ok = true) {k q : Nat} (hk : k < m.h.length) (hq : q < (hAt m.h k).length) : small (oAt (hAt m.h k) q) := by
  have h1 := ok_op h hk hq
  have hd := (ok_all h).1
  unfold Md.hd at hd
  simp only [O.ok, okO, decide_eq_true_eq] at h1
  unfold small
  omega
theorem ok_ev {m : Md} (h : m.ok = true) {k : Nat} (hk : k < m.e.length) {t s1 qq d kk v g : Int} (e : evAt m.e k = ⟨t, s1, qq, d, kk, v, g⟩) : (0 ≤ t ∧ t ≤ 1000) ∧ (0 ≤ d ∧ d ≤ 3) ∧ (0 ≤ kk ∧ kk ≤ 3) ∧ 0 ≤ v ∧ v ≤ 999 := by
  have h1 := List.all_eq_true.1 (ok_all h).2.2.2 k (by simpa using hk)
  rw [e] at h1
  simp only [stB, Ev.ok, okB, Bool.and_eq_true, decide_eq_true_eq] at h1
  omega
theorem bytesR_length (m : Md) : (bytesR m).length ≤ 1048576 := by
  unfold bytesR
  split
  · next h =>
    have h1 := rowsB_length h m.h.length
    have h2 := (ok_all h).1
    unfold Md.hd at h2
    simp only [bytesL, List.length_append, iniB_length, evsB_length, twoB_length]
    simp [headB]
    omega
  · simp
theorem row_of3 (w : World) (a b c : Value) : (w.alloc (.cells #[a, b, c] 5)).ownsRow w.heap.size 5 1 (.slice (some ⟨w.heap.size, 0, none⟩) 3 3) 3 [a, b, c] := by
  refine ⟨rfl, .inr ⟨w.heap.size, 3, #[a, b, c], rfl, Nat.le_refl _, ?_, Nat.le_refl _, by unfold maxLen; omega, rfl, rfl⟩⟩
  show (w.heap.push _)[w.heap.size]? = _
  simp
end Go.Proofs.Ythjabkfnmcodbaa

/- How a list of numbers that came in is read. -/
namespace Go.Proofs.Ythjabkfnmcodbaa
open Go.ChangeShapes Go.WideShapes Go.ChangeAt Go.RowKit

theorem own : ownKnob Try.prog.godebug = none := by kernel_rfl
theorem laidOut : laidOutB Try.prog = true := by kernel_rfl
theorem cells3 : Try.prog.cellsOf 3 = 1 := by kernel_rfl
theorem add_plain (b off n : Nat) : (⟨b, off, none⟩ : Addr).add n = ⟨b, off + n, none⟩ := by
  unfold Addr.add
  split <;> simp_all
theorem ints_list {w : World} {b off : Nat} : ∀ n, (∀ i, i < n → ∃ z : Int, w.cell? ⟨b, off + i, none⟩ = some (.int .i64 z)) → ∃ l : List Int, l.length = n ∧ ∀ i, i < n → w.cell? ⟨b, off + i, none⟩ = some (.int .i64 (intAt l i))
  | 0, _ => ⟨[], rfl, fun i hi => by omega⟩
  | n + 1, h => by
    obtain ⟨l, hl, hi⟩ := ints_list n (fun i hi => h i (by omega))
    obtain ⟨e, he⟩ := h n (by omega)
    refine ⟨l ++ [e], by simp [hl], fun i hi' => ?_⟩
    by_cases hin : i < n
    · have : intAt (l ++ [e]) i = intAt l i := by unfold intAt; simp [List.getElem?_append_left (by omega : i < l.length)]
      rw [this]; exact hi i hin
    · have : intAt (l ++ [e]) i = e := by unfold intAt; simp [show i = l.length by omega]
      rw [this, show i = n by omega]; exact he
set_option maxRecDepth 100000 in
theorem open_ints' {H : Type} {enc : TypeId × Value → H} {w : World} {b0 : Nat} {spare : Nat → Bool} {held : Bool} {r : Reach} {v : Value} {d : DataW H} {p : List MemPlace}
    (hv : Value.okWide Try.prog w r b0 22 v) (h : DataW.Trod enc Try.prog w 0 spare held 22 v d p) : ∃ l : List Int, IsI w v l := by
  obtain ⟨a0, len, cap, rfl⟩ := okWide_slice Try.underlying22 hv
  obtain ⟨fuel, hf⟩ := h
  rcases DataW.trod_slice Try.underlying22 hf with ⟨hcs, _⟩ | ⟨a, len', cap', elems, rest, n, _, hcs, _, hb, hl, hm, hlen, hel, _, _⟩
  · simp [Value.cells] at hcs
    obtain ⟨rfl, rfl, rfl⟩ := hcs
    exact ⟨[], _, _, rfl, Nat.le_refl _, by unfold maxLen; omega, .inl rfl⟩
  · simp [Value.cells] at hcs
    obtain ⟨rfl, rfl, rfl⟩ := hcs
    by_cases h0 : len = 0
    · subst h0
      exact ⟨[], _, _, rfl, hl, hm, .inl rfl⟩
    · obtain ⟨b, off, spot⟩ := a
      have hs : spot = none := by
        have h1 := hel 0 (by omega)
        rw [cells3, List.getElem?_eq_getElem (by omega)] at h1
        obtain ⟨cs, hc, ht⟩ := Option.bind_eq_some_iff.1 h1
        obtain ⟨t, rfl, _⟩ := DataW.trod_int Try.underlying3 ht
        have c0 := (World.cells?_some hc).2.2 0 (by omega)
        simpa [Addr.add] using World.cell?_spot c0
      subst hs
      have each : ∀ i, i < len → ∃ z : Int, w.cell? ⟨b, off + i, none⟩ = some (.int .i64 z) ∧ b < w.heap.size := by
        intro i hi
        have h1 := hel i hi
        rw [cells3, List.getElem?_eq_getElem (by omega), add_plain] at h1
        obtain ⟨cs, hc, ht⟩ := Option.bind_eq_some_iff.1 h1
        obtain ⟨t, rfl, _, hw⟩ := DataW.trod_int Try.underlying3 ht
        have hblk : b < w.heap.size := World.cells?_block hc (by omega)
        obtain ⟨_, _, hcell⟩ := World.cells?_some hc
        have h2 := hcell 0 (by omega)
        simp only [add_plain] at h2
        exact ⟨t, by simpa using h2, hblk⟩
      obtain ⟨_, _, hblk⟩ := each 0 (by omega)
      obtain ⟨l, rfl, hi⟩ := ints_list (w := w) (b := b) (off := off) len (fun i hi => by
        obtain ⟨e, he, _⟩ := each i hi
        exact ⟨e, he⟩)
      exact ⟨l, _, _, rfl, hl, hm, .inr ⟨b, off, rfl, hblk, hi⟩⟩
end Go.Proofs.Ythjabkfnmcodbaa

/- How a list of numbers that came in is read. -/
namespace Go.Proofs.Ythjabkfnmcodbaa.By
open Go.ChangeShapes Go.WideShapes Go.ChangeAt Go.RowKit Go.Proofs.Ythjabkfnmcodbaa

theorem cells5 : Try.prog.cellsOf 5 = 1 := by kernel_rfl
theorem ints_list {w : World} {b off : Nat} : ∀ n, (∀ i, i < n → ∃ z : UInt8, w.cell? ⟨b, off + i, none⟩ = some (.int .u8 (z.toNat : Int))) → ∃ l : List UInt8, l.length = n ∧ ∀ i, i < n → w.cell? ⟨b, off + i, none⟩ = some (.int .u8 ((intAt l i).toNat : Int))
  | 0, _ => ⟨[], rfl, fun i hi => by omega⟩
  | n + 1, h => by
    obtain ⟨l, hl, hi⟩ := ints_list n (fun i hi => h i (by omega))
    obtain ⟨e, he⟩ := h n (by omega)
    refine ⟨l ++ [e], by simp [hl], fun i hi' => ?_⟩
    by_cases hin : i < n
    · have : intAt (l ++ [e]) i = intAt l i := by unfold intAt; simp [List.getElem?_append_left (by omega : i < l.length)]
      rw [this]; exact hi i hin
    · have : intAt (l ++ [e]) i = e := by unfold intAt; simp [show i = l.length by omega]
      rw [this, show i = n by omega]; exact he
set_option maxRecDepth 100000 in
theorem open_bytes' {H : Type} {enc : TypeId × Value → H} {w : World} {b0 : Nat} {spare : Nat → Bool} {held : Bool} {r : Reach} {v : Value} {d : DataW H} {p : List MemPlace}
    (hv : Value.okWide Try.prog w r b0 42 v) (h : DataW.Trod enc Try.prog w 0 spare held 42 v d p) : ∃ l : List UInt8, IsI w v l := by
  obtain ⟨a0, len, cap, rfl⟩ := okWide_slice Try.underlying42 hv
  obtain ⟨fuel, hf⟩ := h
  rcases DataW.trod_slice Try.underlying42 hf with ⟨hcs, _⟩ | ⟨a, len', cap', elems, rest, n, _, hcs, _, hb, hl, hm, hlen, hel, _, _⟩
  · simp [Value.cells] at hcs
    obtain ⟨rfl, rfl, rfl⟩ := hcs
    exact ⟨[], _, _, rfl, Nat.le_refl _, by unfold maxLen; omega, .inl rfl⟩
  · simp [Value.cells] at hcs
    obtain ⟨rfl, rfl, rfl⟩ := hcs
    by_cases h0 : len = 0
    · subst h0
      exact ⟨[], _, _, rfl, hl, hm, .inl rfl⟩
    · obtain ⟨b, off, spot⟩ := a
      have hs : spot = none := by
        have h1 := hel 0 (by omega)
        rw [cells5, List.getElem?_eq_getElem (by omega)] at h1
        obtain ⟨cs, hc, ht⟩ := Option.bind_eq_some_iff.1 h1
        obtain ⟨t, rfl, _⟩ := DataW.trod_int Try.underlying5 ht
        have c0 := (World.cells?_some hc).2.2 0 (by omega)
        simpa [Addr.add] using World.cell?_spot c0
      subst hs
      have each : ∀ i, i < len → ∃ z : UInt8, w.cell? ⟨b, off + i, none⟩ = some (.int .u8 (z.toNat : Int)) ∧ b < w.heap.size := by
        intro i hi
        have h1 := hel i hi
        rw [cells5, List.getElem?_eq_getElem (by omega), add_plain] at h1
        obtain ⟨cs, hc, ht⟩ := Option.bind_eq_some_iff.1 h1
        obtain ⟨t, rfl, _, hw⟩ := DataW.trod_int Try.underlying5 ht
        have hblk : b < w.heap.size := World.cells?_block hc (by omega)
        obtain ⟨_, _, hcell⟩ := World.cells?_some hc
        have h2 := hcell 0 (by omega)
        simp only [add_plain] at h2
        have hmin : IntKind.u8.min = 0 := rfl
        have hmax : IntKind.u8.max = 255 := rfl
        simp only [Lit.wf, Bool.and_eq_true, decide_eq_true_eq] at hw
        refine ⟨UInt8.ofNat t.toNat, ?_, hblk⟩
        rw [show (((UInt8.ofNat t.toNat).toNat : Nat) : Int) = t from by rw [UInt8.toNat_ofNat']; omega]
        simpa using h2
      obtain ⟨_, _, hblk⟩ := each 0 (by omega)
      obtain ⟨l, rfl, hi⟩ := ints_list (w := w) (b := b) (off := off) len (fun i hi => by
        obtain ⟨e, he, _⟩ := each i hi
        exact ⟨e, he⟩)
      exact ⟨l, _, _, rfl, hl, hm, .inr ⟨b, off, rfl, hblk, hi⟩⟩
end Go.Proofs.Ythjabkfnmcodbaa.By

