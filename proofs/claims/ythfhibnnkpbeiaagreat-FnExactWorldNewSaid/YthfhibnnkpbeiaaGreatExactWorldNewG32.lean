/- KDv, KDw, VOk -/
import Derived.Test.YthfhibnnkpbeiaaGreatExactWorldNewG27
import Derived.Test.YthfhibnnkpbeiaaGreatExactWorldNewG07
import Derived.Test.YthfhibnnkpbeiaaGreatExactWorldNewG01
import Derived.Test.YthfhibnnkpbeiaaGreatExactWorldNewLKDc
import Derived.Test.YthfhibnnkpbeiaaGreatExactWorldNewLKDd
import Derived.Test.YthfhibnnkpbeiaaGreatExactWorldNewG05
import Derived.Test.YthfhibnnkpbeiaaGreatExactWorldNewG26
/- Marks of rows of rows of numbers. -/
namespace Go.Proofs.YthfhibnnkpbeiaaGreat
open Go.RowKit
theorem hidKDv {p : Prop} (h : p) : Hid p := h
theorem vecsD_at (l : List (List Int)) (i : Nat) {r : Nat} (hr : r < 1) : vecsD_f l (i * 1 + r) = intsD (vAt l i) := by
 obtain rfl : r = 0 := by omega
 rw [Nat.mul_one, Nat.add_zero]
 rfl
theorem vecs_thin (l : List (List Int)) : (vecsD l).thin := ⟨by omega, fun j => ints_thin _⟩
set_option maxHeartbeats 4000000 in
theorem mark_vecs {F : Nat → Prop} {x : Value} {l : List (List Int)} {w : World} (z : Int) (hn : (vecsD l).wt ≤ 1048577) (hz0 : 0 ≤ z) (hz1 : z + ((vecsD l).cnt : Int) ≤ 1073741824) (h : OwnD w F x (vecsD l)) :
  Calls Tryz.prog 59 #[x, .int .i64 z] w fun e w' => e = .returned (.int .i64 (z + ((vecsD l).cnt : Int))) ∧ OwnD w' F x ((vecsD l).mark z) ∧ Turns F w w' := by
 obtain ⟨a, cap, rfl, h1, h2, ha⟩ := OwnD.parts (c := 1) (n := l.length) h
 have HR0 := hidKDv (OwnD.mk0 z h)
 have HS := hidKDv hn
 have HZ := hidKDv hz1
 have hl2 : l.length ≤ 1048577 := by rw [vecs_wt] at hn; omega
 clear h hn hz1 h1 h2
 go_enter Tryz.func59, Tryz.ntmps59
 go_wp2
 go_loopw [5, 1] (fun i y wr => ∃ k : Nat, k ≤ l.length ∧ i = .int .i64 k ∧ y = .int .i64 (z + (sumC (vecsD_f l) (k * 1) : Int)) ∧ OwnD wr F (.slice a l.length cap) (.row 1 l.length (mkD (vecsD_f l) z (k * 1))) ∧ Turns F w wr) (fun i _ _ => l.length - (intOf i).toNat)
 case atStart => exact ⟨0, Nat.zero_le _, rfl, by simp [sumC, sumL], HR0.out, Turns.refl _ _⟩
 case round =>
  obtain ⟨k, hk, rfl, rfl, hR, hT⟩ := hrel
  have HR := hidKDv hR
  have HT : Hid (Turns F w wr) := hT
  clear hR hT
  by_cases hlt : k < l.length
  ·obtain ⟨g, rfl, _, hFg⟩ := ha.resolve_left (by omega)
   have HF : Hid (F g) := hFg
   have hwt : (vAt l k).length ≤ 1048577 := Nat.le_trans (vec_le hlt) HS.out
   obtain ⟨m, hm⟩ : ∃ m, m = k * 1 := ⟨_, rfl⟩
   have E0 : Hid ((vecsD_f l) (k * 1) = intsD (vAt l k)) := vecsD_at l k (r := 0) (by omega)
   have C0 : Hid (sumC (vecsD_f l) (k * 1) ≤ (vecsD l).cnt) := sumC_le (by omega)
   have S1 : Hid (sumC (vecsD_f l) (k * 1 + 1) = sumC (vecsD_f l) (k * 1) + (intsD (vAt l k)).cnt) := by
    have e := sumC_succ (vecsD_f l) (k * 1)
    rw [E0.out] at e
    exact e
   have C1 : Hid (sumC (vecsD_f l) (k * 1 + 1) ≤ (vecsD l).cnt) := sumC_le (by omega)
   obtain ⟨y, hy⟩ : ∃ y : Int, y = z + (sumC (vecsD_f l) (k * 1) : Int) := ⟨_, rfl⟩
   have HY0 := hidKDv hy
   have y0 : 0 ≤ y := by omega
   rw [← hy]
   clear hy hm
   obtain ⟨u0, K0, g0, o0, f0, b0⟩ := HR.out.mk_row (m := k * 1) (by omega)
   rw [Nat.mul_one] at g0
   rw [E0.out] at o0 b0
   have O0 := hidKDv o0
   have B0 := hidKDv b0
   have F0 : Hid (∀ b, K0 b → F b) := f0
   clear o0 b0 f0
   have hq0 : y = z + (sumC (vecsD_f l) (k * 1) : Int) := by (have e := HY0.out; omega)
   have hb0 : y ≤ 1073741824 := by have := HZ.out; have := C0.out; omega
   have Q0 := hidKDv hq0
   clear hq0
   go_wp2_with fail
   clear g0
   refine (mark_ints (F := K0) (l := (vAt l k)) (y) (by omega) (by omega) (by omega) O0.out).mono ?_
   rintro e w1 ⟨rfl, hr, ht⟩
   rw [Q0.out] at hr
   have HR1 := hidKDv (B0.out _ hr ht)
   have HT1 : Hid (Turns F w w1) := HT.out.trans (ht.mono F0.out)
   clear hr ht
   obtain ⟨y0, hy⟩ : ∃ y0 : Int, y0 = y + ((intsD (vAt l k)).cnt : Int) := ⟨_, rfl⟩
   have HY1 : Hid (y0 = z + (sumC (vecsD_f l) (k * 1 + 1) : Int)) := by
    have h8 := S1.out
    have h9 := Q0.out
    show y0 = _
    omega
   have y00 : 0 ≤ y0 := by omega
   have y01 : y0 ≤ 1073741824 := by have h7 := HZ.out; have h8 := C1.out; have h9 := HY1.out; omega
   rw [← hy]
   clear hy
   go_wp2
   go_roundw
   case rel =>
    refine ⟨k + 1, by omega, by go_num, ?_, ?_, HT1.out⟩
    ·rw [show y0 = z + (sumC (vecsD_f l) ((k + 1) * 1) : Int) from by rw [show (k + 1) * 1 = k * 1 + 1 from by omega]; (have e := HY1.out; omega)]
    ·rw [show (k + 1) * 1 = k * 1 + 1 from by omega]
     exact HR1.out
   case measure => simp [intOf]; omega
  ·go_wp2
   go_ret
   obtain rfl : k = l.length := by omega
   exact ⟨rfl, HR.out.mkAll, HT.out⟩
set_option maxHeartbeats 4000000 in
theorem held_vecs {F : Nat → Prop} {x : Value} {l : List (List Int)} {w : World} (z : Int) (hn : (vecsD l).wt ≤ 1048577) (hz0 : 0 ≤ z) (hz1 : z + ((vecsD l).cnt : Int) ≤ 1073741824) (h : OwnD w F x ((vecsD l).mark z)) :
  Calls Tryz.prog 61 #[x, .int .i64 z] w fun e w' => e = .returned (.int .i64 (z + ((vecsD l).cnt : Int))) ∧ Below w.heap.size w w' := by
 obtain ⟨a, cap, rfl, h2, ha⟩ := OwnD.mslice (c := 1) (n := l.length) h
 have HR0 := hidKDv h
 have HS := hidKDv hn
 have HZ := hidKDv hz1
 have hl2 : l.length ≤ 1048577 := by rw [vecs_wt] at hn; omega
 clear h hn hz1 h2
 go_enter Tryz.func61, Tryz.ntmps61
 go_wp2
 go_loopw [5, 1] (fun i y wr => ∃ k : Nat, k ≤ l.length ∧ i = .int .i64 k ∧ y = .int .i64 (z + (sumC (vecsD_f l) (k * 1) : Int)) ∧ Below w.heap.size w wr) (fun i _ _ => l.length - (intOf i).toNat)
 case atStart => exact ⟨0, Nat.zero_le _, rfl, by simp [sumC, sumL], Below.refl _ _⟩
 case round =>
  obtain ⟨k, hk, rfl, rfl, hB⟩ := hrel
  have HB := hidKDv hB
  clear hB
  by_cases hlt : k < l.length
  ·obtain ⟨g, rfl⟩ := ha.resolve_left (by omega)
   have HR := hidKDv (HR0.out.under HB.out)
   have hwt : (vAt l k).length ≤ 1048577 := Nat.le_trans (vec_le hlt) HS.out
   have E0 : Hid ((vecsD_f l) (k * 1) = intsD (vAt l k)) := vecsD_at l k (r := 0) (by omega)
   have C0 : Hid (sumC (vecsD_f l) (k * 1) ≤ (vecsD l).cnt) := sumC_le (by omega)
   have S1 : Hid (sumC (vecsD_f l) (k * 1 + 1) = sumC (vecsD_f l) (k * 1) + (intsD (vAt l k)).cnt) := by
    have e := sumC_succ (vecsD_f l) (k * 1)
    rw [E0.out] at e
    exact e
   have C1 : Hid (sumC (vecsD_f l) (k * 1 + 1) ≤ (vecsD l).cnt) := sumC_le (by omega)
   obtain ⟨y, hy⟩ : ∃ y : Int, y = z + (sumC (vecsD_f l) (k * 1) : Int) := ⟨_, rfl⟩
   have HY0 := hidKDv hy
   have y0 : 0 ≤ y := by omega
   rw [← hy]
   clear hy
   obtain ⟨u0, K0, g0, o0⟩ := OwnD.marked (c := 1) (n := l.length) (f := (vecsD_f l)) HR.out (j := k * 1) (by omega)
   rw [Nat.mul_one] at g0
   rw [E0.out] at o0
   have hq0 : y = z + (sumC (vecsD_f l) (k * 1) : Int) := by (have e := HY0.out; omega)
   have hb0 : y ≤ 1073741824 := by have := HZ.out; have := C0.out; omega
   rw [← hq0] at o0
   have O0 := hidKDv o0
   have Q0 := hidKDv hq0
   clear hq0 o0
   go_wp2_with fail
   clear g0
   refine (held_ints (F := K0) (l := (vAt l k)) (y) (by omega) (by omega) (by omega) O0.out).mono ?_
   rintro e w1 ⟨rfl, hb⟩
   have HR1 := hidKDv (HR.out.under hb)
   have HB1 := hidKDv (HB.out.trans (hb.mono HB.out.size))
   clear hb
   obtain ⟨y0, hy⟩ : ∃ y0 : Int, y0 = y + ((intsD (vAt l k)).cnt : Int) := ⟨_, rfl⟩
   have HY1 : Hid (y0 = z + (sumC (vecsD_f l) (k * 1 + 1) : Int)) := by
    have h8 := S1.out
    have h9 := Q0.out
    show y0 = _
    omega
   have y00 : 0 ≤ y0 := by omega
   have y01 : y0 ≤ 1073741824 := by have h7 := HZ.out; have h8 := C1.out; have h9 := HY1.out; omega
   have y02 : ¬ (y0 < 0) := by omega
   rw [← hy]
   clear hy
   go_wp2
   go_roundw
   case rel =>
    refine ⟨k + 1, by omega, by go_num, ?_, HB1.out⟩
    rw [show y0 = z + (sumC (vecsD_f l) ((k + 1) * 1) : Int) from by rw [show (k + 1) * 1 = k * 1 + 1 from by omega]; (have e := HY1.out; omega)]
   case measure => simp [intOf]; omega
  ·go_wp2
   go_ret
   obtain rfl : k = l.length := by omega
   exact ⟨rfl, HB.out⟩
end Go.Proofs.YthfhibnnkpbeiaaGreat

/- A world that owns its memory; markWorld, heldWorld. -/
namespace Go.Proofs.YthfhibnnkpbeiaaGreat
open Go.RowKit
theorem hidKDw {p : Prop} (h : p) : Hid p := h
open Classical in
set_option maxHeartbeats 4000000 in
theorem kern_row {F : Nat → Prop} {w : World} {g cap : Nat} {U : Nat → Value} {k : Kn} (h : KernF F w (.agg #[U 0, U 1, U 2, U 3, U 4, U 5, U 6, U 7, U 8, U 9, U 10, U 11, U 12, U 13]) k) (hc : ∀ j, j < 14 → w.cell? ⟨g, j, none⟩ = some (U j) ∧ w.frozen? ⟨g, j, none⟩ = false) (hg : g < w.heap.size) (hgF : ¬ F g) (h1 : 1 ≤ cap) (h2 : cap ≤ maxLen) :
  OwnD w (fun j => F j ∨ j = g) (.slice (some ⟨g, 0, none⟩) 1 cap) (knsD [k]) := by
 obtain ⟨A0, A6, A7, A8, A12, A13, vi, vh, vs, u6, u7, u8, u12, u13, he, ⟨A, B, C, vi', vh', vs', he2, hA, hB, hC, dA, dB, dC⟩, h6, h7, h8, h12, h13, d0, d6, d7, d8, d12, d13⟩ := h
 simp only [Value.agg.injEq, Array.mk.injEq, List.cons.injEq, and_true] at he he2
 obtain ⟨e0, e1, e2, e3, e4, e5, e6, e7, e8, e9, e10, e11, e12, e13⟩ := he
 obtain ⟨-, -, rfl, rfl, rfl, -⟩ := he2
 obtain ⟨G, hG⟩ : ∃ G : Nat → Nat → Prop, G = fun r => if r = 2 then A else if r = 3 then B else if r = 4 then C else if r = 6 then A6 else if r = 7 then A7 else if r = 8 then A8 else if r = 12 then A12 else if r = 13 then A13 else fun _ => False := ⟨_, rfl⟩
 have G0 : ∀ r j, G r j → (r = 2 ∧ A j ∨ r = 3 ∧ B j ∨ r = 4 ∧ C j ∨ r = 6 ∧ A6 j ∨ r = 7 ∧ A7 j ∨ r = 8 ∧ A8 j ∨ r = 12 ∧ A12 j ∨ r = 13 ∧ A13 j) := by
  intro r j hj
  rw [hG] at hj
  repeat' split at hj
  all_goals simp_all
 have GF : ∀ r j, G r j → F j := by
  intro r j hj
  rcases G0 r j hj with ⟨_, e⟩ | ⟨_, e⟩ | ⟨_, e⟩ | ⟨_, e⟩ | ⟨_, e⟩ | ⟨_, e⟩ | ⟨_, e⟩ | ⟨_, e⟩
  ·exact (d0 j (dA j e).1).1
  ·exact (d0 j (dB j e).1).1
  ·exact (d0 j (dC j e)).1
  ·exact (d6 j e).1
  ·exact (d7 j e).1
  ·exact (d8 j e).1
  ·exact (d12 j e).1
  ·exact d13 j e
 have GO : ∀ r j, G r j → (if A j then 2 else if B j then 3 else if C j then 4 else if A6 j then 6 else if A7 j then 7 else if A8 j then 8 else if A12 j then 12 else if A13 j then 13 else 0) = r := by
  intro r j hj
  rcases G0 r j hj with ⟨rfl, e⟩ | ⟨rfl, e⟩ | ⟨rfl, e⟩ | ⟨rfl, e⟩ | ⟨rfl, e⟩ | ⟨rfl, e⟩ | ⟨rfl, e⟩ | ⟨rfl, e⟩
  ·rw [if_pos e]
  ·rw [if_neg (fun x : A j => (dA j x).2.1 e), if_pos e]
  ·rw [if_neg (fun x : A j => (dA j x).2.2 e), if_neg (fun x : B j => (dB j x).2 e), if_pos e]
  ·rw [if_neg (fun x : A j => (d0 j ((dA j x).1)).2.1 e), if_neg (fun x : B j => (d0 j ((dB j x).1)).2.1 e), if_neg (fun x : C j => (d0 j (dC j x)).2.1 e), if_pos e]
  ·rw [if_neg (fun x : A j => (d0 j ((dA j x).1)).2.2.1 e), if_neg (fun x : B j => (d0 j ((dB j x).1)).2.2.1 e), if_neg (fun x : C j => (d0 j (dC j x)).2.2.1 e), if_neg (fun x : A6 j => (d6 j x).2.1 e), if_pos e]
  ·rw [if_neg (fun x : A j => (d0 j ((dA j x).1)).2.2.2.1 e), if_neg (fun x : B j => (d0 j ((dB j x).1)).2.2.2.1 e), if_neg (fun x : C j => (d0 j (dC j x)).2.2.2.1 e), if_neg (fun x : A6 j => (d6 j x).2.2.1 e), if_neg (fun x : A7 j => (d7 j x).2.1 e), if_pos e]
  ·rw [if_neg (fun x : A j => (d0 j ((dA j x).1)).2.2.2.2.1 e), if_neg (fun x : B j => (d0 j ((dB j x).1)).2.2.2.2.1 e), if_neg (fun x : C j => (d0 j (dC j x)).2.2.2.2.1 e), if_neg (fun x : A6 j => (d6 j x).2.2.2.1 e), if_neg (fun x : A7 j => (d7 j x).2.2.1 e), if_neg (fun x : A8 j => (d8 j x).2.1 e), if_pos e]
  ·rw [if_neg (fun x : A j => (d0 j ((dA j x).1)).2.2.2.2.2 e), if_neg (fun x : B j => (d0 j ((dB j x).1)).2.2.2.2.2 e), if_neg (fun x : C j => (d0 j (dC j x)).2.2.2.2.2 e), if_neg (fun x : A6 j => (d6 j x).2.2.2.2 e), if_neg (fun x : A7 j => (d7 j x).2.2.2 e), if_neg (fun x : A8 j => (d8 j x).2.2 e), if_neg (fun x : A12 j => (d12 j x).2 e), if_pos e]
 refine .row _ g 1 cap 14 _ U G h1 h2 hg (.inr rfl) (fun j hj => hc j (by omega)) (fun j hj => ?_) (fun j _ i hi => ⟨.inl (GF j i hi), fun e => hgF (e ▸ GF j i hi)⟩) (fun i j _ _ hij x hx hy => hij ((GO i x hx).symm.trans (GO j x hy)))
 have ek : knsD_f [k] j = k.cell j := by
  have e8' := knsD_at [k] 0 (r := j) (by omega)
  rw [Nat.zero_mul, Nat.zero_add] at e8'
  exact e8'
 rw [ek, hG]
 match j, hj with
 | 0, _ => rw [e0]; exact .val _ _
 | 1, _ => rw [e1]; exact .val _ _
 | 2, _ => rw [e2]; exact hA.own
 | 3, _ => rw [e3]; exact hB.own
 | 4, _ => rw [e4]; exact hC.own
 | 5, _ => rw [e5]; exact .val _ _
 | 6, _ => rw [e6]; exact h6
 | 7, _ => rw [e7]; exact h7
 | 8, _ => rw [e8]; exact h8
 | 9, _ => rw [e9]; exact .val _ _
 | 10, _ => rw [e10]; exact .val _ _
 | 11, _ => rw [e11]; exact .val _ _
 | 12, _ => rw [e12]; exact h12
 | 13, _ => rw [e13]; exact h13
 | j + 14, hj => omega
def WorF (F : Nat → Prop) (w : World) (y : Value) (v : Wd) : Prop := ∃ (A0 A6 A7 : Nat → Prop) (vi vh vs uk uc : Value), y = .agg #[.int .i64 v.m.n, .int .i64 v.m.s, vi, vh, vs, .int .i64 v.m.z, uk, uc] ∧ MdF A0 w (.agg #[.int .i64 v.m.n, .int .i64 v.m.s, vi, vh, vs, .int .i64 v.m.z]) v.m ∧ OwnD w A6 uk (knsD v.k) ∧ OwnD w A7 uc (vecsD v.c) ∧ (∀ j, A0 j → F j ∧ ¬ A6 j ∧ ¬ A7 j) ∧ (∀ j, A6 j → F j ∧ ¬ A7 j) ∧ ∀ j, A7 j → F j
theorem WorF.is {F : Nat → Prop} {w : World} {y : Value} {v : Wd} (h : WorF F w y v) : IsW w y v := by
 obtain ⟨A0, A6, A7, vi, vh, vs, uk, uc, rfl, hm, hk, hc, _⟩ := h
 exact ⟨vi, vh, vs, uk, uc, rfl, hm.isM, hk.isD.isKs, hc.isD⟩
theorem WorF.turns {F S : Nat → Prop} {w w' : World} {y : Value} {v : Wd} (h : WorF F w y v) (ht : Turns S w w') (hS : ∀ j, F j → ¬ S j) : WorF F w' y v := by
 obtain ⟨A0, A6, A7, vi, vh, vs, uk, uc, rfl, hm, hk, hc, d0, d6, d7⟩ := h
 exact ⟨A0, A6, A7, vi, vh, vs, uk, uc, rfl, hm.turns ht (fun j hj => hS j (d0 j hj).1), hk.turns ht (fun j hj => hS j (d6 j hj).1), hc.turns ht (fun j hj => hS j (d7 j hj)), d0, d6, d7⟩
theorem WorF.below {F : Nat → Prop} {w w' : World} {y : Value} {v : Wd} (h : WorF F w y v) (hb : Below w.heap.size w w') : WorF F w' y v := h.turns (S := fun _ => False) (Turns.of_below hb) (fun _ _ => id)
theorem WorF.wider {F F' : Nat → Prop} {w : World} {y : Value} {v : Wd} (h : WorF F w y v) (hF : ∀ j, F j → F' j) : WorF F' w y v := by
 obtain ⟨A0, A6, A7, vi, vh, vs, uk, uc, rfl, hm, hk, hc, d0, d6, d7⟩ := h
 exact ⟨A0, A6, A7, vi, vh, vs, uk, uc, rfl, hm, hk, hc, fun j hj => ⟨hF j (d0 j hj).1, (d0 j hj).2⟩, fun j hj => ⟨hF j (d6 j hj).1, (d6 j hj).2⟩, fun j hj => hF j (d7 j hj)⟩
theorem WorF.form {F : Nat → Prop} {w : World} {y : Value} {v : Wd} (h : WorF F w y v) : ∃ ai ci ah ch ae ce ak ck ac cc, y = .agg #[.int .i64 v.m.n, .int .i64 v.m.s, .slice ai v.m.i.length ci, .slice ah v.m.h.length ch, .slice ae v.m.e.length ce, .int .i64 v.m.z, .slice ak v.k.length ck, .slice ac v.c.length cc] := by
 obtain ⟨_, _, _, vi, vh, vs, uk, uc, rfl, hm, hk, hc, _⟩ := h
 obtain ⟨b2, e2, b3, e3, b4, e4, he⟩ := hm.form
 obtain ⟨b6, e6, rfl, _⟩ := IsD.len (c := 14) (n := v.k.length) hk.isD
 obtain ⟨b7, e7, rfl, _⟩ := IsD.len (c := 1) (n := v.c.length) hc.isD
 simp at he
 obtain ⟨rfl, rfl, rfl⟩ := he
 exact ⟨b2, e2, b3, e3, b4, e4, b6, e6, b7, e7, rfl⟩
structure TinyW (v : Wd) : Prop where
 m : SmallM v.m
 k : (knsD v.k).wt ≤ 1000000
 c : (vecsD v.c).wt ≤ 500000
def mkW6 (v : Wd) : Int := markNo v.m + ((knsD v.k).cnt : Int)
def markW (v : Wd) : Int := mkW6 v + ((vecsD v.c).cnt : Int)
theorem markNo_high {m : Md} (h : SmallM m) : markNo m ≤ 1000000000 := by
 have h1 := h.i
 have h2 := h.t
 have h3 := h.e
 unfold markNo
 omega
theorem tinyW_marks {v : Wd} (h : TinyW v) : 1 ≤ markNo v.m ∧ markNo v.m ≤ mkW6 v ∧ mkW6 v ≤ markW v ∧ markW v ≤ 1073741824 := by
 have h0 := markNo_pos v.m
 have h1 := markNo_high h.m
 have h2 := h.k
 have h3 := h.c
 have h4 : (knsD v.k).cnt ≤ 40 * (knsD v.k).wt := Dat.cnt_le (kernels_thin v.k)
 have h5 : (vecsD v.c).cnt ≤ 40 * (vecsD v.c).wt := Dat.cnt_le (vecs_thin v.c)
 unfold markW mkW6
 omega
def HeldW (F : Nat → Prop) (w : World) (y : Value) (v : Wd) : Prop := ∃ (A0 A6 A7 : Nat → Prop) (vi vh vs uk uc : Value), y = .agg #[.int .i64 v.m.n, .int .i64 v.m.s, vi, vh, vs, .int .i64 v.m.z, uk, uc] ∧ HeldM A0 w (.agg #[.int .i64 v.m.n, .int .i64 v.m.s, vi, vh, vs, .int .i64 v.m.z]) v.m ∧ OwnD w A6 uk ((knsD v.k).mark (markNo v.m)) ∧ OwnD w A7 uc ((vecsD v.c).mark (mkW6 v)) ∧ (∀ j, A0 j → F j) ∧ (∀ j, A6 j → F j) ∧ ∀ j, A7 j → F j
theorem HeldW.turns {F S : Nat → Prop} {w w' : World} {y : Value} {v : Wd} (h : HeldW F w y v) (ht : Turns S w w') (hS : ∀ j, F j → ¬ S j) : HeldW F w' y v := by
 obtain ⟨A0, A6, A7, vi, vh, vs, uk, uc, rfl, hm, hk, hc, d0, d6, d7⟩ := h
 exact ⟨A0, A6, A7, vi, vh, vs, uk, uc, rfl, hm.turns ht (fun j hj => hS j (d0 j hj)), hk.turns ht (fun j hj => hS j (d6 j hj)), hc.turns ht (fun j hj => hS j (d7 j hj)), d0, d6, d7⟩
theorem HeldW.below {F : Nat → Prop} {w w' : World} {y : Value} {v : Wd} (h : HeldW F w y v) (hb : Below w.heap.size w w') : HeldW F w' y v := h.turns (S := fun _ => False) (Turns.of_below hb) (fun _ _ => id)
set_option maxRecDepth 100000 in
set_option maxHeartbeats 8000000 in
theorem markWorld_any {F : Nat → Prop} {x : Value} {v : Wd} {w : World} (hs : TinyW v) (h : WorF F w x v) (hF : ∀ j, F j → j < w.heap.size) :
  Calls Tryz.prog 20 #[x, .int .i64 1] w fun e w' => e = .returned (.int .i64 (markW v)) ∧ HeldW F w' x v ∧ Turns F w w' := by
 obtain ⟨A0, A6, A7, vi, vh, vs, uk, uc, rfl, hm, hk, hc, d0, d6, d7⟩ := h
 have HS : Hid (TinyW v) := hs
 obtain ⟨hz0, hz1, hz2, hz3⟩ := tinyW_marks hs
 have HF := hidKDw hF
 obtain ⟨W0, hW0⟩ : ∃ W0, w.alloc (.cells #[.int .i64 v.m.n, .int .i64 v.m.s, vi, vh, vs, .int .i64 v.m.z, uk, uc] 51) = W0 := ⟨_, rfl⟩
 have HB0 : Hid (Below w.heap.size w W0) := by rw [← hW0]; exact (Below.refl _ w).alloc (Nat.le_refl _) _
 have HP0 : Hid (Bk W0 w.heap.size 51 #[.int .i64 v.m.n, .int .i64 v.m.s, vi, vh, vs, .int .i64 v.m.z, uk, uc]) := by rw [← hW0]; exact Bk.new w _ _
 have HT0 : Hid (Turns F w W0) := Turns.of_below HB0.out
 have HW := hidKDw hW0
 have O0 := hidKDw (hm.below HB0.out)
 have O6 := hidKDw (hk.under HB0.out)
 have O7 := hidKDw (hc.under HB0.out)
 have D0 := hidKDw d0
 have D6 := hidKDw d6
 have D7 : Hid (∀ j, A7 j → F j) := d7
 clear hs hF hW0 hm hk hc d0 d6 d7
 go_enter Tryz.func20, Tryz.ntmps20
 obtain ⟨p0, p1, p2, p3, p4, p5⟩ := c6_8 HP0.out
 go_wp2_with fail
 rw [HW.out]
 clear HW p0 p1 p2 p3 p4 p5
 refine (markModel_any HS.out.m O0.out (fun j e => Nat.lt_of_lt_of_le (HF.out j (D0.out j e).1) HB0.out.size)).mono ?_
 rintro e w1 ⟨rfl, hr, ht⟩
 have HP1 := hidKDw (HP0.out.turns ht (fun e => by have := HF.out _ (D0.out _ e).1; omega))
 have HT1 : Hid (Turns F w w1) := HT0.out.trans (ht.mono (fun j e => (D0.out j e).1))
 have R0 := hidKDw hr
 have O6' : Hid (OwnD w1 A6 uk (knsD v.k)) := O6.out.turns ht (fun j e e' => (D0.out j e').2.1 e)
 have O7' : Hid (OwnD w1 A7 uc (vecsD v.c)) := O7.out.turns ht (fun j e e' => (D0.out j e').2.2 e)
 clear hr ht HP0 HT0 O0 O6 O7
 have p6 := HP1.out.cell (i := 6) rfl
 go_wp2_with fail
 clear p6
 refine (mark_kernels (F := A6) (l := v.k) (markNo v.m) (by have := HS.out.k; omega) (by omega) (by have h9 : markNo v.m + ((knsD v.k).cnt : Int) = mkW6 v := rfl; omega) O6'.out).mono ?_
 rintro e w2 ⟨rfl, hr, ht⟩
 have HP2 := hidKDw (HP1.out.turns ht (fun e => by have := HF.out _ (D6.out _ e).1; omega))
 have HT2 : Hid (Turns F w w2) := HT1.out.trans (ht.mono (fun j e => (D6.out j e).1))
 have R6 := hidKDw hr
 have R0' : Hid (HeldM A0 w2 (.agg #[.int .i64 v.m.n, .int .i64 v.m.s, vi, vh, vs, .int .i64 v.m.z]) v.m) := R0.out.turns ht (fun j e e' => (D0.out j e).2.1 e')
 have O7 := hidKDw (O7'.out.turns ht (fun j e e' => (D6.out j e').2 e))
 clear hr ht HP1 HT1 R0 O7' O6'
 rw [show markNo v.m + ((knsD v.k).cnt : Int) = mkW6 v from rfl]
 have p7 := HP2.out.cell (i := 7) rfl
 go_wp2_with fail
 clear p7
 refine (mark_vecs (F := A7) (l := v.c) (mkW6 v) (by have := HS.out.c; omega) (by omega) (by have h9 : mkW6 v + ((vecsD v.c).cnt : Int) = markW v := rfl; omega) O7.out).mono ?_
 rintro e w3 ⟨rfl, hr, ht⟩
 have HT3 : Hid (Turns F w w3) := HT2.out.trans (ht.mono (fun j e => D7.out j e))
 have R7 := hidKDw hr
 have R0 := hidKDw (R0'.out.turns ht (fun j e e' => (D0.out j e).2.2 e'))
 have R6' : Hid (OwnD w3 A6 uk ((knsD v.k).mark (markNo v.m))) := R6.out.turns ht (fun j e e' => (D6.out j e).2 e')
 clear hr ht HT2 R0' R6 O7 HP2
 rw [show mkW6 v + ((vecsD v.c).cnt : Int) = markW v from rfl]
 go_wp2
 go_ret
 exact ⟨rfl, ⟨A0, A6, A7, _, _, _, _, _, rfl, R0.out, R6'.out, R7.out, fun j e => (D0.out j e).1, fun j e => (D6.out j e).1, D7.out⟩, HT3.out⟩
set_option maxRecDepth 100000 in
set_option maxHeartbeats 8000000 in
theorem heldWorld_any {F : Nat → Prop} {x : Value} {v : Wd} {w : World} (hs : TinyW v) (h : HeldW F w x v) :
  Calls Tryz.prog 21 #[x, .int .i64 1] w fun e w' => e = .returned (.int .i64 (markW v)) ∧ Below w.heap.size w w' := by
 obtain ⟨A0, A6, A7, vi, vh, vs, uk, uc, rfl, hm, hk, hc, _⟩ := h
 have HS : Hid (TinyW v) := hs
 obtain ⟨hz0, hz1, hz2, hz3⟩ := tinyW_marks hs
 obtain ⟨W0, hW0⟩ : ∃ W0, w.alloc (.cells #[.int .i64 v.m.n, .int .i64 v.m.s, vi, vh, vs, .int .i64 v.m.z, uk, uc] 51) = W0 := ⟨_, rfl⟩
 have HB0 : Hid (Below w.heap.size w W0) := by rw [← hW0]; exact (Below.refl _ w).alloc (Nat.le_refl _) _
 have HP0 : Hid (Bk W0 w.heap.size 51 #[.int .i64 v.m.n, .int .i64 v.m.s, vi, vh, vs, .int .i64 v.m.z, uk, uc]) := by rw [← hW0]; exact Bk.new w _ _
 have HW := hidKDw hW0
 have O0 := hidKDw hm
 have O6 := hidKDw hk
 have O7 := hidKDw hc
 have n0 : ¬ (markNo v.m < 0) := by omega
 have n1 : ¬ (mkW6 v < 0) := by omega
 have n2 : ¬ (markW v < 0) := by omega
 clear hs hW0 hm hk hc
 go_enter Tryz.func21, Tryz.ntmps21
 obtain ⟨p0, p1, p2, p3, p4, p5⟩ := c6_8 HP0.out
 go_wp2_with fail
 rw [HW.out]
 clear HW p0 p1 p2 p3 p4 p5
 refine (heldModel_any HS.out.m (O0.out.below HB0.out)).mono ?_
 rintro e w1 ⟨rfl, hb⟩
 have HP1 := hidKDw (HP0.out.below hb)
 have HB1 := hidKDw (HB0.out.trans (hb.mono HB0.out.size))
 clear hb HP0 HB0
 have p6 := HP1.out.cell (i := 6) rfl
 go_wp2_with fail
 clear p6
 refine (held_kernels (F := A6) (l := v.k) (markNo v.m) (by have := HS.out.k; omega) (by omega) (by have h9 : markNo v.m + ((knsD v.k).cnt : Int) = mkW6 v := rfl; omega) (O6.out.under HB1.out)).mono ?_
 rintro e w2 ⟨rfl, hb⟩
 have HP2 := hidKDw (HP1.out.below hb)
 have HB2 := hidKDw (HB1.out.trans (hb.mono HB1.out.size))
 clear hb HP1 HB1
 rw [show markNo v.m + ((knsD v.k).cnt : Int) = mkW6 v from rfl]
 have p7 := HP2.out.cell (i := 7) rfl
 go_wp2_with fail
 clear p7
 refine (held_vecs (F := A7) (l := v.c) (mkW6 v) (by have := HS.out.c; omega) (by omega) (by have h9 : mkW6 v + ((vecsD v.c).cnt : Int) = markW v := rfl; omega) (O7.out.under HB2.out)).mono ?_
 rintro e w3 ⟨rfl, hb⟩
 have HB3 := hidKDw (HB2.out.trans (hb.mono HB2.out.size))
 clear hb HP2 HB2
 rw [show mkW6 v + ((vecsD v.c).cnt : Int) = markW v from rfl]
 go_wp2
 go_ret
 exact ⟨rfl, HB3.out⟩
end Go.Proofs.YthfhibnnkpbeiaaGreat

/- Vectors: VectorOk of both sides, and the program's vectorOf. -/
namespace Go.Proofs.YthfhibnnkpbeiaaGreat
open Go.RowKit
theorem intAt_mem {l : List Int} {k : Nat} (h : k < l.length) : intAt l k ∈ l := by
 unfold intAt; rw [List.getD_eq_getElem?_getD, List.getElem?_eq_getElem h]; exact List.getElem_mem h
theorem vok_no {l : List Int} {k : Nat} (hk : k < l.length) (h : intAt l k < -1 ∨ 1 < intAt l k) : vok l = false := by
 have hm := intAt_mem hk
 have : l.all numOk = false := by
  rw [List.all_eq_false]
  exact ⟨_, hm, by simp only [numOk_iff]; omega⟩
 simp [vok, this]
theorem vok_all {l : List Int} (h : ∀ j, j < l.length → -1 ≤ intAt l j ∧ intAt l j ≤ 1) : vok l = decide (l.length = 4) := by
 have : l.all numOk = true := by
  rw [List.all_eq_true]
  intro x hx
  obtain ⟨i, hi, rfl⟩ := List.getElem_of_mem hx
  have := h i hi
  unfold intAt at this
  rw [List.getD_eq_getElem?_getD, List.getElem?_eq_getElem hi] at this
  exact numOk_iff.2 this
 simp [vok, this]
end Go.Proofs.YthfhibnnkpbeiaaGreat

