/- KDb, KDe -/
import Derived.Test.YthfhibnnkpbeiaaGreatExactWorldNewG27
/- Marks of mails. -/
namespace Go.Proofs.YthfhibnnkpbeiaaGreat
open Go.RowKit
theorem hidKDb {p : Prop} (h : p) : Hid p := h
def mailsD_f (l : List Ml) : Nat → Dat := fun j => .val ((cellsMl l).getD j (.int .i64 0))
theorem mailsD_at (l : List Ml) {i r : Nat} (hi : i < l.length) (hr : r < 8) : mailsD_f l (i * 8 + r) = .val ((mlAt l i).cs.getD r (.int .i64 0)) := by
 unfold mailsD_f
 congr 1
 have h1 := cellsMl_get l i r hi hr
 have h2 : r < (mlAt l i).cs.length := by simpa [Ml.cs] using hr
 rw [List.getElem?_eq_getElem h2] at h1
 rw [getD_of h1, getD_of (List.getElem?_eq_getElem h2)]
set_option maxRecDepth 100000 in
set_option maxHeartbeats 8000000 in
theorem mark_mails {F : Nat → Prop} {x : Value} {l : List Ml} {w : World} (z : Int) (hn : (mailsD l).wt ≤ 1048577) (hz0 : 0 ≤ z) (hz1 : z + ((mailsD l).cnt : Int) ≤ 1073741824) (h : OwnD w F x (mailsD l)) :
  Calls Tryz.prog 44 #[x, .int .i64 z] w fun e w' => e = .returned (.int .i64 (z + ((mailsD l).cnt : Int))) ∧ OwnD w' F x ((mailsD l).mark z) ∧ Turns F w w' := by
 obtain ⟨a, cap, rfl, h1, h2, ha⟩ := OwnD.parts (c := 8) (n := l.length) h
 have HR0 := hidKDb (OwnD.mk0 z h)
 have HS := hidKDb hn
 have HZ := hidKDb hz1
 have hl2 : l.length ≤ 1048577 := by rw [mails_wt] at hn; omega
 clear h hn hz1 h1 h2
 go_enter Tryz.func44, Tryz.ntmps44
 go_wp2
 go_loopw [5, 1] (fun i y wr => ∃ k : Nat, k ≤ l.length ∧ i = .int .i64 k ∧ y = .int .i64 (z + (sumC (mailsD_f l) (k * 8) : Int)) ∧ OwnD wr F (.slice a l.length cap) (.row 8 l.length (mkD (mailsD_f l) z (k * 8))) ∧ Turns F w wr) (fun i _ _ => l.length - (intOf i).toNat)
 case atStart => exact ⟨0, Nat.zero_le _, rfl, by simp [sumC, sumL], HR0.out, Turns.refl _ _⟩
 case round =>
  obtain ⟨k, hk, rfl, rfl, hR, hT⟩ := hrel
  have HR := hidKDb hR
  have HT : Hid (Turns F w wr) := hT
  clear hR hT
  by_cases hlt : k < l.length
  ·obtain ⟨g, rfl, _, hFg⟩ := ha.resolve_left (by omega)
   have HF : Hid (F g) := hFg
   obtain ⟨m, hm⟩ : ∃ m, m = k * 8 := ⟨_, rfl⟩
   have E0 := hidKDb (mailsD_at l hlt (r := 0) (by omega))
   have E1 := hidKDb (mailsD_at l hlt (r := 1) (by omega))
   have E2 := hidKDb (mailsD_at l hlt (r := 2) (by omega))
   have E3 := hidKDb (mailsD_at l hlt (r := 3) (by omega))
   have E4 := hidKDb (mailsD_at l hlt (r := 4) (by omega))
   have E5 := hidKDb (mailsD_at l hlt (r := 5) (by omega))
   have E6 := hidKDb (mailsD_at l hlt (r := 6) (by omega))
   have E7 := hidKDb (mailsD_at l hlt (r := 7) (by omega))
   have C0 : Hid (sumC (mailsD_f l) (k * 8) ≤ (mailsD l).cnt) := sumC_le (by omega)
   have S1 : Hid (sumC (mailsD_f l) (k * 8 + 1) = sumC (mailsD_f l) (k * 8) + (Dat.val (.int .i64 (mlAt l k).e.t)).cnt) := by
    have e := sumC_succ (mailsD_f l) (k * 8 + 0)
    rw [E0.out] at e
    exact e
   have C1 : Hid (sumC (mailsD_f l) (k * 8 + 1) ≤ (mailsD l).cnt) := sumC_le (by omega)
   have S2 : Hid (sumC (mailsD_f l) (k * 8 + 2) = sumC (mailsD_f l) (k * 8 + 1) + (Dat.val (.int .i64 (mlAt l k).e.s)).cnt) := by
    have e := sumC_succ (mailsD_f l) (k * 8 + 1)
    rw [E1.out] at e
    exact e
   have C2 : Hid (sumC (mailsD_f l) (k * 8 + 2) ≤ (mailsD l).cnt) := sumC_le (by omega)
   have S3 : Hid (sumC (mailsD_f l) (k * 8 + 3) = sumC (mailsD_f l) (k * 8 + 2) + (Dat.val (.int .i64 (mlAt l k).e.q)).cnt) := by
    have e := sumC_succ (mailsD_f l) (k * 8 + 2)
    rw [E2.out] at e
    exact e
   have C3 : Hid (sumC (mailsD_f l) (k * 8 + 3) ≤ (mailsD l).cnt) := sumC_le (by omega)
   have S4 : Hid (sumC (mailsD_f l) (k * 8 + 4) = sumC (mailsD_f l) (k * 8 + 3) + (Dat.val (.int .i64 (mlAt l k).e.d)).cnt) := by
    have e := sumC_succ (mailsD_f l) (k * 8 + 3)
    rw [E3.out] at e
    exact e
   have C4 : Hid (sumC (mailsD_f l) (k * 8 + 4) ≤ (mailsD l).cnt) := sumC_le (by omega)
   have S5 : Hid (sumC (mailsD_f l) (k * 8 + 5) = sumC (mailsD_f l) (k * 8 + 4) + (Dat.val (.int .i64 (mlAt l k).e.k)).cnt) := by
    have e := sumC_succ (mailsD_f l) (k * 8 + 4)
    rw [E4.out] at e
    exact e
   have C5 : Hid (sumC (mailsD_f l) (k * 8 + 5) ≤ (mailsD l).cnt) := sumC_le (by omega)
   have S6 : Hid (sumC (mailsD_f l) (k * 8 + 6) = sumC (mailsD_f l) (k * 8 + 5) + (Dat.val (.int .i64 (mlAt l k).e.v)).cnt) := by
    have e := sumC_succ (mailsD_f l) (k * 8 + 5)
    rw [E5.out] at e
    exact e
   have C6 : Hid (sumC (mailsD_f l) (k * 8 + 6) ≤ (mailsD l).cnt) := sumC_le (by omega)
   have S7 : Hid (sumC (mailsD_f l) (k * 8 + 7) = sumC (mailsD_f l) (k * 8 + 6) + (Dat.val (.int .i64 (mlAt l k).e.g)).cnt) := by
    have e := sumC_succ (mailsD_f l) (k * 8 + 6)
    rw [E6.out] at e
    exact e
   have C7 : Hid (sumC (mailsD_f l) (k * 8 + 7) ≤ (mailsD l).cnt) := sumC_le (by omega)
   have S8 : Hid (sumC (mailsD_f l) (k * 8 + 8) = sumC (mailsD_f l) (k * 8 + 7) + (Dat.val (.bool (mlAt l k).a)).cnt) := by
    have e := sumC_succ (mailsD_f l) (k * 8 + 7)
    rw [E7.out] at e
    exact e
   have C8 : Hid (sumC (mailsD_f l) (k * 8 + 8) ≤ (mailsD l).cnt) := sumC_le (by omega)
   have T0 : sumC (mailsD_f l) (k * 8) = sumC (mailsD_f l) (k * 8) + 0 := rfl
   have T1 : sumC (mailsD_f l) (k * 8 + 1) = sumC (mailsD_f l) (k * 8) + 1 := by have e1 := S1.out; have e2 := T0; exact e1.trans (by show sumC (mailsD_f l) (k * 8) + 1 = _; omega)
   have T2 : sumC (mailsD_f l) (k * 8 + 2) = sumC (mailsD_f l) (k * 8) + 2 := by have e1 := S2.out; have e2 := T1; exact e1.trans (by show sumC (mailsD_f l) (k * 8 + 1) + 1 = _; omega)
   have T3 : sumC (mailsD_f l) (k * 8 + 3) = sumC (mailsD_f l) (k * 8) + 3 := by have e1 := S3.out; have e2 := T2; exact e1.trans (by show sumC (mailsD_f l) (k * 8 + 2) + 1 = _; omega)
   have T4 : sumC (mailsD_f l) (k * 8 + 4) = sumC (mailsD_f l) (k * 8) + 4 := by have e1 := S4.out; have e2 := T3; exact e1.trans (by show sumC (mailsD_f l) (k * 8 + 3) + 1 = _; omega)
   have T5 : sumC (mailsD_f l) (k * 8 + 5) = sumC (mailsD_f l) (k * 8) + 5 := by have e1 := S5.out; have e2 := T4; exact e1.trans (by show sumC (mailsD_f l) (k * 8 + 4) + 1 = _; omega)
   have T6 : sumC (mailsD_f l) (k * 8 + 6) = sumC (mailsD_f l) (k * 8) + 6 := by have e1 := S6.out; have e2 := T5; exact e1.trans (by show sumC (mailsD_f l) (k * 8 + 5) + 1 = _; omega)
   have T7 : sumC (mailsD_f l) (k * 8 + 7) = sumC (mailsD_f l) (k * 8) + 7 := by have e1 := S7.out; have e2 := T6; exact e1.trans (by show sumC (mailsD_f l) (k * 8 + 6) + 1 = _; omega)
   have T8 : sumC (mailsD_f l) (k * 8 + 8) = sumC (mailsD_f l) (k * 8) + 8 := by have e1 := S8.out; have e2 := T7; exact e1.trans (by show sumC (mailsD_f l) (k * 8 + 7) + 1 = _; omega)
   have TT : Hid (sumC (mailsD_f l) (k * 8 + 1) = sumC (mailsD_f l) (k * 8) + 1 ∧ sumC (mailsD_f l) (k * 8 + 2) = sumC (mailsD_f l) (k * 8) + 2 ∧ sumC (mailsD_f l) (k * 8 + 3) = sumC (mailsD_f l) (k * 8) + 3 ∧ sumC (mailsD_f l) (k * 8 + 4) = sumC (mailsD_f l) (k * 8) + 4 ∧ sumC (mailsD_f l) (k * 8 + 5) = sumC (mailsD_f l) (k * 8) + 5 ∧ sumC (mailsD_f l) (k * 8 + 6) = sumC (mailsD_f l) (k * 8) + 6 ∧ sumC (mailsD_f l) (k * 8 + 7) = sumC (mailsD_f l) (k * 8) + 7 ∧ sumC (mailsD_f l) (k * 8 + 8) = sumC (mailsD_f l) (k * 8) + 8) := ⟨T1, T2, T3, T4, T5, T6, T7, T8⟩
   clear T0 T1 T2 T3 T4 T5 T6 T7 T8
   obtain ⟨y, hy⟩ : ∃ y : Int, y = z + (sumC (mailsD_f l) (k * 8) : Int) := ⟨_, rfl⟩
   have HY0 := hidKDb hy
   have y0 : 0 ≤ y := by omega
   have y1 : y ≤ 1073741824 := by have := HZ.out; have := C0.out; omega
   rw [← hy]
   clear hy hm
   obtain ⟨x0, _, g0, z0, _⟩ := HR.out.step (j := k * 8) (by omega)
   obtain ⟨x1, _, g1, z1, _⟩ := HR.out.step (j := k * 8 + 1) (by omega)
   obtain ⟨x2, _, g2, z2, _⟩ := HR.out.step (j := k * 8 + 2) (by omega)
   obtain ⟨x3, _, g3, z3, _⟩ := HR.out.step (j := k * 8 + 3) (by omega)
   obtain ⟨x4, _, g4, z4, _⟩ := HR.out.step (j := k * 8 + 4) (by omega)
   obtain ⟨x5, _, g5, z5, _⟩ := HR.out.step (j := k * 8 + 5) (by omega)
   obtain ⟨x6, _, g6, z6, _⟩ := HR.out.step (j := k * 8 + 6) (by omega)
   obtain ⟨x7, _, g7, z7, _⟩ := HR.out.step (j := k * 8 + 7) (by omega)
   go_wp2
   go_roundw
   case rel =>
    have hY := HY0.out
    obtain ⟨t1, t2, t3, t4, t5, t6, t7, t8⟩ := TT.out
    refine ⟨k + 1, by omega, by go_num, ?_, ?_, HT.out.trans ((((((((((Turns.refl _ _).trans (put1_turns _ _ _ _)).trans (put1_turns _ _ _ _)).trans (put1_turns _ _ _ _)).trans (put1_turns _ _ _ _)).trans (put1_turns _ _ _ _)).trans (put1_turns _ _ _ _)).trans (put1_turns _ _ _ _)).trans (put1_turns _ _ _ _)).mono (fun b e => e ▸ HF.out))⟩
    ·rw [show y + 1 + 1 + 1 + 1 + 1 + 1 + 1 + 1 = z + (sumC (mailsD_f l) ((k + 1) * 8) : Int) from by rw [show (k + 1) * 8 = k * 8 + 8 from by omega]; omega]
    ·rw [show (k + 1) * 8 = k * 8 + 8 from by omega]
     exact ((((((((HR.out.mk_val (m := k * 8) (by omega) E0.out (by show Value.int .i64 (y) = Value.int .i64 (z + (sumC (mailsD_f l) (k * 8) : Int)); rw [show y = z + (sumC (mailsD_f l) (k * 8) : Int) from by omega])).mk_val (m := k * 8 + 1) (by omega) E1.out (by show Value.int .i64 (y + 1) = Value.int .i64 (z + (sumC (mailsD_f l) (k * 8 + 1) : Int)); rw [show y + 1 = z + (sumC (mailsD_f l) (k * 8 + 1) : Int) from by omega])).mk_val (m := k * 8 + 2) (by omega) E2.out (by show Value.int .i64 (y + 1 + 1) = Value.int .i64 (z + (sumC (mailsD_f l) (k * 8 + 2) : Int)); rw [show y + 1 + 1 = z + (sumC (mailsD_f l) (k * 8 + 2) : Int) from by omega])).mk_val (m := k * 8 + 3) (by omega) E3.out (by show Value.int .i64 (y + 1 + 1 + 1) = Value.int .i64 (z + (sumC (mailsD_f l) (k * 8 + 3) : Int)); rw [show y + 1 + 1 + 1 = z + (sumC (mailsD_f l) (k * 8 + 3) : Int) from by omega])).mk_val (m := k * 8 + 4) (by omega) E4.out (by show Value.int .i64 (y + 1 + 1 + 1 + 1) = Value.int .i64 (z + (sumC (mailsD_f l) (k * 8 + 4) : Int)); rw [show y + 1 + 1 + 1 + 1 = z + (sumC (mailsD_f l) (k * 8 + 4) : Int) from by omega])).mk_val (m := k * 8 + 5) (by omega) E5.out (by show Value.int .i64 (y + 1 + 1 + 1 + 1 + 1) = Value.int .i64 (z + (sumC (mailsD_f l) (k * 8 + 5) : Int)); rw [show y + 1 + 1 + 1 + 1 + 1 = z + (sumC (mailsD_f l) (k * 8 + 5) : Int) from by omega])).mk_val (m := k * 8 + 6) (by omega) E6.out (by show Value.int .i64 (y + 1 + 1 + 1 + 1 + 1 + 1) = Value.int .i64 (z + (sumC (mailsD_f l) (k * 8 + 6) : Int)); rw [show y + 1 + 1 + 1 + 1 + 1 + 1 = z + (sumC (mailsD_f l) (k * 8 + 6) : Int) from by omega])).mk_val (m := k * 8 + 7) (by omega) E7.out (by show Value.bool ((y + 1 + 1 + 1 + 1 + 1 + 1 + 1) % 3 == 0) = Value.bool ((z + (sumC (mailsD_f l) (k * 8 + 7) : Int)) % 3 == 0); rw [show y + 1 + 1 + 1 + 1 + 1 + 1 + 1 = z + (sumC (mailsD_f l) (k * 8 + 7) : Int) from by omega]))
   case measure => simp [intOf]; omega
  ·go_wp2
   go_ret
   obtain rfl : k = l.length := by omega
   exact ⟨rfl, HR.out.mkAll, HT.out⟩
end Go.Proofs.YthfhibnnkpbeiaaGreat

/- Marks of mails, found again. -/
namespace Go.Proofs.YthfhibnnkpbeiaaGreat
open Go.RowKit
theorem hidKDe {p : Prop} (h : p) : Hid p := h
set_option maxRecDepth 100000 in
set_option maxHeartbeats 8000000 in
theorem held_mails {F : Nat → Prop} {x : Value} {l : List Ml} {w : World} (z : Int) (hn : (mailsD l).wt ≤ 1048577) (hz0 : 0 ≤ z) (hz1 : z + ((mailsD l).cnt : Int) ≤ 1073741824) (h : OwnD w F x ((mailsD l).mark z)) :
  Calls Tryz.prog 49 #[x, .int .i64 z] w fun e w' => e = .returned (.int .i64 (z + ((mailsD l).cnt : Int))) ∧ Below w.heap.size w w' := by
 obtain ⟨a, cap, rfl, h2, ha⟩ := OwnD.mslice (c := 8) (n := l.length) h
 have HR0 := hidKDe h
 have HS := hidKDe hn
 have HZ := hidKDe hz1
 have hl2 : l.length ≤ 1048577 := by rw [mails_wt] at hn; omega
 clear h hn hz1 h2
 go_enter Tryz.func49, Tryz.ntmps49
 go_wp2
 go_loopw [5, 1] (fun i y wr => ∃ k : Nat, k ≤ l.length ∧ i = .int .i64 k ∧ y = .int .i64 (z + (sumC (mailsD_f l) (k * 8) : Int)) ∧ Below w.heap.size w wr) (fun i _ _ => l.length - (intOf i).toNat)
 case atStart => exact ⟨0, Nat.zero_le _, rfl, by simp [sumC, sumL], Below.refl _ _⟩
 case round =>
  obtain ⟨k, hk, rfl, rfl, hB⟩ := hrel
  have HB := hidKDe hB
  clear hB
  by_cases hlt : k < l.length
  ·obtain ⟨g, rfl⟩ := ha.resolve_left (by omega)
   have HR := hidKDe (HR0.out.under HB.out)
   have E0 := hidKDe (mailsD_at l hlt (r := 0) (by omega))
   have E1 := hidKDe (mailsD_at l hlt (r := 1) (by omega))
   have E2 := hidKDe (mailsD_at l hlt (r := 2) (by omega))
   have E3 := hidKDe (mailsD_at l hlt (r := 3) (by omega))
   have E4 := hidKDe (mailsD_at l hlt (r := 4) (by omega))
   have E5 := hidKDe (mailsD_at l hlt (r := 5) (by omega))
   have E6 := hidKDe (mailsD_at l hlt (r := 6) (by omega))
   have E7 := hidKDe (mailsD_at l hlt (r := 7) (by omega))
   have C0 : Hid (sumC (mailsD_f l) (k * 8) ≤ (mailsD l).cnt) := sumC_le (by omega)
   have S1 : Hid (sumC (mailsD_f l) (k * 8 + 1) = sumC (mailsD_f l) (k * 8) + (Dat.val (.int .i64 (mlAt l k).e.t)).cnt) := by
    have e := sumC_succ (mailsD_f l) (k * 8 + 0)
    rw [E0.out] at e
    exact e
   have C1 : Hid (sumC (mailsD_f l) (k * 8 + 1) ≤ (mailsD l).cnt) := sumC_le (by omega)
   have S2 : Hid (sumC (mailsD_f l) (k * 8 + 2) = sumC (mailsD_f l) (k * 8 + 1) + (Dat.val (.int .i64 (mlAt l k).e.s)).cnt) := by
    have e := sumC_succ (mailsD_f l) (k * 8 + 1)
    rw [E1.out] at e
    exact e
   have C2 : Hid (sumC (mailsD_f l) (k * 8 + 2) ≤ (mailsD l).cnt) := sumC_le (by omega)
   have S3 : Hid (sumC (mailsD_f l) (k * 8 + 3) = sumC (mailsD_f l) (k * 8 + 2) + (Dat.val (.int .i64 (mlAt l k).e.q)).cnt) := by
    have e := sumC_succ (mailsD_f l) (k * 8 + 2)
    rw [E2.out] at e
    exact e
   have C3 : Hid (sumC (mailsD_f l) (k * 8 + 3) ≤ (mailsD l).cnt) := sumC_le (by omega)
   have S4 : Hid (sumC (mailsD_f l) (k * 8 + 4) = sumC (mailsD_f l) (k * 8 + 3) + (Dat.val (.int .i64 (mlAt l k).e.d)).cnt) := by
    have e := sumC_succ (mailsD_f l) (k * 8 + 3)
    rw [E3.out] at e
    exact e
   have C4 : Hid (sumC (mailsD_f l) (k * 8 + 4) ≤ (mailsD l).cnt) := sumC_le (by omega)
   have S5 : Hid (sumC (mailsD_f l) (k * 8 + 5) = sumC (mailsD_f l) (k * 8 + 4) + (Dat.val (.int .i64 (mlAt l k).e.k)).cnt) := by
    have e := sumC_succ (mailsD_f l) (k * 8 + 4)
    rw [E4.out] at e
    exact e
   have C5 : Hid (sumC (mailsD_f l) (k * 8 + 5) ≤ (mailsD l).cnt) := sumC_le (by omega)
   have S6 : Hid (sumC (mailsD_f l) (k * 8 + 6) = sumC (mailsD_f l) (k * 8 + 5) + (Dat.val (.int .i64 (mlAt l k).e.v)).cnt) := by
    have e := sumC_succ (mailsD_f l) (k * 8 + 5)
    rw [E5.out] at e
    exact e
   have C6 : Hid (sumC (mailsD_f l) (k * 8 + 6) ≤ (mailsD l).cnt) := sumC_le (by omega)
   have S7 : Hid (sumC (mailsD_f l) (k * 8 + 7) = sumC (mailsD_f l) (k * 8 + 6) + (Dat.val (.int .i64 (mlAt l k).e.g)).cnt) := by
    have e := sumC_succ (mailsD_f l) (k * 8 + 6)
    rw [E6.out] at e
    exact e
   have C7 : Hid (sumC (mailsD_f l) (k * 8 + 7) ≤ (mailsD l).cnt) := sumC_le (by omega)
   have S8 : Hid (sumC (mailsD_f l) (k * 8 + 8) = sumC (mailsD_f l) (k * 8 + 7) + (Dat.val (.bool (mlAt l k).a)).cnt) := by
    have e := sumC_succ (mailsD_f l) (k * 8 + 7)
    rw [E7.out] at e
    exact e
   have C8 : Hid (sumC (mailsD_f l) (k * 8 + 8) ≤ (mailsD l).cnt) := sumC_le (by omega)
   obtain ⟨y, hy⟩ : ∃ y : Int, y = z + (sumC (mailsD_f l) (k * 8) : Int) := ⟨_, rfl⟩
   have HY0 := hidKDe hy
   have y0 : 0 ≤ y := by omega
   have y1 : y ≤ 1073741824 := by have := HZ.out; have := C0.out; omega
   rw [← hy]
   clear hy
   have g0 : wr.cell? ⟨g, k * 8, none⟩ = some (.int .i64 y) := OwnD.marked_val (c := 8) (n := l.length) (f := (mailsD_f l)) HR.out (j := k * 8) (by omega) E0.out (by
    show _ = Value.int .i64 (z + (sumC (mailsD_f l) (k * 8) : Int))
    rw [show y = z + (sumC (mailsD_f l) (k * 8) : Int) from by (have e := HY0.out; simp only [Dat.cnt] at *; omega)])
   have g1 : wr.cell? ⟨g, k * 8 + 1, none⟩ = some (.int .i64 (y + 1)) := OwnD.marked_val (c := 8) (n := l.length) (f := (mailsD_f l)) HR.out (j := k * 8 + 1) (by omega) E1.out (by
    show _ = Value.int .i64 (z + (sumC (mailsD_f l) (k * 8 + 1) : Int))
    rw [show y + 1 = z + (sumC (mailsD_f l) (k * 8 + 1) : Int) from by (have e := HY0.out; have e1 := S1.out; simp only [Dat.cnt] at *; omega)])
   have g2 : wr.cell? ⟨g, k * 8 + 2, none⟩ = some (.int .i64 (y + 1 + 1)) := OwnD.marked_val (c := 8) (n := l.length) (f := (mailsD_f l)) HR.out (j := k * 8 + 2) (by omega) E2.out (by
    show _ = Value.int .i64 (z + (sumC (mailsD_f l) (k * 8 + 2) : Int))
    rw [show y + 1 + 1 = z + (sumC (mailsD_f l) (k * 8 + 2) : Int) from by (have e := HY0.out; have e1 := S1.out; have e2 := S2.out; simp only [Dat.cnt] at *; omega)])
   have g3 : wr.cell? ⟨g, k * 8 + 3, none⟩ = some (.int .i64 (y + 1 + 1 + 1)) := OwnD.marked_val (c := 8) (n := l.length) (f := (mailsD_f l)) HR.out (j := k * 8 + 3) (by omega) E3.out (by
    show _ = Value.int .i64 (z + (sumC (mailsD_f l) (k * 8 + 3) : Int))
    rw [show y + 1 + 1 + 1 = z + (sumC (mailsD_f l) (k * 8 + 3) : Int) from by (have e := HY0.out; have e1 := S1.out; have e2 := S2.out; have e3 := S3.out; simp only [Dat.cnt] at *; omega)])
   have g4 : wr.cell? ⟨g, k * 8 + 4, none⟩ = some (.int .i64 (y + 1 + 1 + 1 + 1)) := OwnD.marked_val (c := 8) (n := l.length) (f := (mailsD_f l)) HR.out (j := k * 8 + 4) (by omega) E4.out (by
    show _ = Value.int .i64 (z + (sumC (mailsD_f l) (k * 8 + 4) : Int))
    rw [show y + 1 + 1 + 1 + 1 = z + (sumC (mailsD_f l) (k * 8 + 4) : Int) from by (have e := HY0.out; have e1 := S1.out; have e2 := S2.out; have e3 := S3.out; have e4 := S4.out; simp only [Dat.cnt] at *; omega)])
   have g5 : wr.cell? ⟨g, k * 8 + 5, none⟩ = some (.int .i64 (y + 1 + 1 + 1 + 1 + 1)) := OwnD.marked_val (c := 8) (n := l.length) (f := (mailsD_f l)) HR.out (j := k * 8 + 5) (by omega) E5.out (by
    show _ = Value.int .i64 (z + (sumC (mailsD_f l) (k * 8 + 5) : Int))
    rw [show y + 1 + 1 + 1 + 1 + 1 = z + (sumC (mailsD_f l) (k * 8 + 5) : Int) from by (have e := HY0.out; have e1 := S1.out; have e2 := S2.out; have e3 := S3.out; have e4 := S4.out; have e5 := S5.out; simp only [Dat.cnt] at *; omega)])
   have g6 : wr.cell? ⟨g, k * 8 + 6, none⟩ = some (.int .i64 (y + 1 + 1 + 1 + 1 + 1 + 1)) := OwnD.marked_val (c := 8) (n := l.length) (f := (mailsD_f l)) HR.out (j := k * 8 + 6) (by omega) E6.out (by
    show _ = Value.int .i64 (z + (sumC (mailsD_f l) (k * 8 + 6) : Int))
    rw [show y + 1 + 1 + 1 + 1 + 1 + 1 = z + (sumC (mailsD_f l) (k * 8 + 6) : Int) from by (have e := HY0.out; have e1 := S1.out; have e2 := S2.out; have e3 := S3.out; have e4 := S4.out; have e5 := S5.out; have e6 := S6.out; simp only [Dat.cnt] at *; omega)])
   have g7 : wr.cell? ⟨g, k * 8 + 7, none⟩ = some (.bool ((y + 1 + 1 + 1 + 1 + 1 + 1 + 1) % 3 == 0)) := OwnD.marked_val (c := 8) (n := l.length) (f := (mailsD_f l)) HR.out (j := k * 8 + 7) (by omega) E7.out (by
    show _ = Value.bool ((z + (sumC (mailsD_f l) (k * 8 + 7) : Int)) % 3 == 0)
    rw [show y + 1 + 1 + 1 + 1 + 1 + 1 + 1 = z + (sumC (mailsD_f l) (k * 8 + 7) : Int) from by (have e := HY0.out; have e1 := S1.out; have e2 := S2.out; have e3 := S3.out; have e4 := S4.out; have e5 := S5.out; have e6 := S6.out; have e7 := S7.out; simp only [Dat.cnt] at *; omega)])
   go_wp2
   go_roundw
   case rel =>
    refine ⟨k + 1, by omega, by go_num, ?_, HB.out⟩
    rw [show y + 1 + 1 + 1 + 1 + 1 + 1 + 1 + 1 = z + (sumC (mailsD_f l) ((k + 1) * 8) : Int) from by rw [show (k + 1) * 8 = k * 8 + 8 from by omega]; (have e := HY0.out; have e1 := S1.out; have e2 := S2.out; have e3 := S3.out; have e4 := S4.out; have e5 := S5.out; have e6 := S6.out; have e7 := S7.out; have e8 := S8.out; simp only [Dat.cnt] at *; omega)]
   case measure => simp [intOf]; omega
  ·go_wp2
   go_ret
   obtain rfl : k = l.length := by omega
   exact ⟨rfl, HB.out⟩
end Go.Proofs.YthfhibnnkpbeiaaGreat

