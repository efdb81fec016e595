/- WSb -/
import Derived.Test.YtnlhcdchmgfipaaGreatExactWorldOkG43
import Derived.Deep.Cut
/- Siblings: how many decisions two runs have made otherwise. -/
namespace Go.Proofs.YtnlhcdchmgfipaaGreat
open Go.RowKit
theorem hidWSb {p : Prop} (h : p) : Hid p := h
def uB (a b : Int) : Bool := decide (¬ a = -1 ∧ ¬ b = -1 ∧ ¬ a = b)
def cntU (a b : List Int) : Nat → Int
 | 0 => 0
 | k + 1 => cntU a b k + (if uB (intAt a k) (intAt b k) = true then 1 else 0)
theorem cntU_snoc (a b : List Int) (k : Nat) : cntU a b (k + 1) = cntU a b k + (if uB (intAt a k) (intAt b k) = true then 1 else 0) := rfl
def sibOk (v : Wd) (i k : Int) : Prop := v.ok = true ∧ ¬ i = k ∧ (0 ≤ i ∧ i < v.k.length) ∧ (0 ≤ k ∧ k < v.k.length)
noncomputable instance (v : Wd) (i k : Int) : Decidable (sibOk v i k) := Classical.propDecidable _
noncomputable def sibA (v : Wd) (i k : Int) : Int := if sibOk v i k then cntU (knAt v.k i.toNat).d (knAt v.k k.toNat).d 4 else -1
theorem sib_no {v : Wd} {i k : Int} (h : ¬ sibOk v i k) : sibA v i k = -1 := by unfold sibA; rw [if_neg h]
theorem sib_yes {v : Wd} {i k : Int} (h : sibOk v i k) : sibA v i k = cntU (knAt v.k i.toNat).d (knAt v.k k.toNat).d 4 := by unfold sibA; rw [if_pos h]
theorem kd_vok {v : Wd} (hok : v.ok = true) {i : Nat} (hi : i < v.k.length) : vok (knAt v.k i).d = true := (kok_vok (runB_iff.1 ((wok_iff.1 hok).2.1 i hi)).1).2
set_option maxRecDepth 100000 in
set_option maxHeartbeats 8000000 in
theorem unlike_any (a0 a1 a2 a3 b0 b1 b2 b3 : Int) (w : World) :
  Calls Tryz.prog 106 #[vec a0 a1 a2 a3, vec b0 b1 b2 b3] w fun e w' => e = .returned (.int .i64 (cntU [a0, a1, a2, a3] [b0, b1, b2, b3] 4)) ∧ Below w.heap.size w w' := by
 go_enter Tryz.func106, Tryz.ntmps106
 go_wp2
 go_loopw [7, 5] (fun i n wr => ∃ j : Nat, j ≤ 4 ∧ i = .int .i64 j ∧ (∃ c : Int, n = .int .i64 c ∧ Hid (c = cntU [a0, a1, a2, a3] [b0, b1, b2, b3] j) ∧ 0 ≤ c ∧ c ≤ j) ∧ Hid (Below w.heap.size w wr) ∧ Hid (IntsAt wr w.heap.size 0 [a0, a1, a2, a3]) ∧ Hid (IntsAt wr (w.heap.size + 1) 0 [b0, b1, b2, b3])) (fun i _ _ => 4 - (intOf i).toNat)
 case atStart =>
  have h1 := ints_alloc w a0 a1 a2 a3 118
  have h2 := ints_alloc (w.alloc (cell4 a0 a1 a2 a3)) b0 b1 b2 b3 118
  rw [show (w.alloc (cell4 a0 a1 a2 a3)).heap.size = w.heap.size + 1 by simp] at h2
  exact ⟨0, by omega, rfl, ⟨0, rfl, rfl, by omega, by omega⟩, ((Below.refl _ w).alloc (Nat.le_refl _) _).alloc (by simp) _, h1.below ((Below.refl (w.heap.size + 1) _).alloc (by simp) _) (by omega), h2⟩
 case round =>
  obtain ⟨j, hj, rfl, ⟨c, rfl, HC, hc0, hc1⟩, HB, HI, HJ⟩ := hrel
  by_cases hlt : j < 4
  case pos =>
   obtain ⟨x, hx⟩ : ∃ x, x = intAt [a0, a1, a2, a3] j := ⟨_, rfl⟩
   obtain ⟨y, hy⟩ : ∃ y, y = intAt [b0, b1, b2, b3] j := ⟨_, rfl⟩
   have fx := Beyond.ints0 HI.out (k := j) hlt hx
   have fy := Beyond.ints0 HJ.out (k := j) hlt hy
   have HX := hidWSb hx
   have HY := hidWSb hy
   clear hx hy
   have hki : (j : Int) < 4 := by omega
   have hne : Nonempty (Beyond wr) := ⟨⟨wr, Below.refl _ _⟩⟩
   by_cases e1 : ¬ x = -1
   case neg =>
    have d0 : (x != (-1 : Int)) = false := by simpa using e1
    have HF : Hid (uB x y = false) := by (show _ = _; unfold uB; simp; omega)
    clear e1
    go_wp2_with fail
    refine wp_region_beyond (by kernel_rfl) (by kernel_rfl) ?_
    repeat (go_big_quiet_step (fail))
    refine wpQuiet_nil ?_
    rintro w3 ⟨⟨_, hb3⟩, rfl⟩
    have HB3 := hidWSb hb3
    clear hb3
    clear fx fy
    go_wp2
    go_roundw
    case rel => exact ⟨j + 1, by omega, by go_num, ⟨c, rfl, (by rw [cntU_snoc, ← HX.out, ← HY.out, HF.out]; simpa using HC.out : c = cntU [a0, a1, a2, a3] [b0, b1, b2, b3] (j + 1)), by omega, by omega⟩, HB.out.trans (HB3.out.mono HB.out.size), HI.out.below HB3.out HI.out.1, HJ.out.below HB3.out HJ.out.1⟩
    case measure => simp [intOf]; omega
   have d0 : (x != (-1 : Int)) = true := by simpa using e1
   by_cases e2 : ¬ y = -1
   case neg =>
    have d1 : (y != (-1 : Int)) = false := by simpa using e2
    have HF : Hid (uB x y = false) := by (show _ = _; unfold uB; simp; omega)
    clear e2
    go_wp2_with fail
    refine wp_region_beyond (by kernel_rfl) (by kernel_rfl) ?_
    repeat (go_big_quiet_step (fail))
    refine wpQuiet_nil ?_
    rintro w3 ⟨⟨_, hb3⟩, rfl⟩
    have HB3 := hidWSb hb3
    clear hb3
    clear fx fy
    go_wp2
    go_roundw
    case rel => exact ⟨j + 1, by omega, by go_num, ⟨c, rfl, (by rw [cntU_snoc, ← HX.out, ← HY.out, HF.out]; simpa using HC.out : c = cntU [a0, a1, a2, a3] [b0, b1, b2, b3] (j + 1)), by omega, by omega⟩, HB.out.trans (HB3.out.mono HB.out.size), HI.out.below HB3.out HI.out.1, HJ.out.below HB3.out HJ.out.1⟩
    case measure => simp [intOf]; omega
   have d1 : (y != (-1 : Int)) = true := by simpa using e2
   by_cases e3 : ¬ x = y
   case neg =>
    have d2 : (x != y) = false := by simpa using e3
    have HF : Hid (uB x y = false) := by (show _ = _; unfold uB; simp; omega)
    clear e3
    go_wp2_with fail
    refine wp_region_beyond (by kernel_rfl) (by kernel_rfl) ?_
    repeat (go_big_quiet_step (fail))
    refine wpQuiet_nil ?_
    rintro w3 ⟨⟨_, hb3⟩, rfl⟩
    have HB3 := hidWSb hb3
    clear hb3
    clear fx fy
    go_wp2
    go_roundw
    case rel => exact ⟨j + 1, by omega, by go_num, ⟨c, rfl, (by rw [cntU_snoc, ← HX.out, ← HY.out, HF.out]; simpa using HC.out : c = cntU [a0, a1, a2, a3] [b0, b1, b2, b3] (j + 1)), by omega, by omega⟩, HB.out.trans (HB3.out.mono HB.out.size), HI.out.below HB3.out HI.out.1, HJ.out.below HB3.out HJ.out.1⟩
    case measure => simp [intOf]; omega
   have d2 : (x != y) = true := by simpa using e3
   have HF : Hid (uB x y = true) := by (show _ = _; unfold uB; simp; omega)
   clear e1 e2 e3
   go_wp2_with fail
   refine wp_region_beyond (by kernel_rfl) (by kernel_rfl) ?_
   repeat (go_big_quiet_step (fail))
   refine wpQuiet_nil ?_
   rintro w3 ⟨⟨_, hb3⟩, rfl⟩
   have HB3 := hidWSb hb3
   clear hb3
   clear fx fy
   go_wp2
   go_roundw
   case rel => exact ⟨j + 1, by omega, by go_num, ⟨c + 1, rfl, (by rw [cntU_snoc, ← HX.out, ← HY.out, HF.out]; have h9 := HC.out; simp; omega : c + 1 = cntU [a0, a1, a2, a3] [b0, b1, b2, b3] (j + 1)), by omega, by omega⟩, HB.out.trans (HB3.out.mono HB.out.size), HI.out.below HB3.out HI.out.1, HJ.out.below HB3.out HJ.out.1⟩
   case measure => simp [intOf]; omega
  case neg =>
   have hje : j = 4 := by omega
   subst hje
   go_wp2
   go_ret
   exact ⟨ret_int HC.out, HB.out⟩
set_option maxRecDepth 100000 in
set_option maxHeartbeats 8000000 in
theorem l6at_any (x : Value) (v : Wd) (i : Int) (b : Bool) (hb9 : (v.ok && (decide (0 ≤ i) && decide (i < v.k.length))) = b) (w : World) (hs : SmallWd v) (h : IsW w x v) :
  Calls Tryz.prog 103 #[x, .int .i64 i] w fun e w' => e = .returned (.bool b) ∧ Below w.heap.size w w' := by
 have HSW : Hid (SmallWd v) := hs
 have HBB := hidWSb hb9
 clear hb9
 have HSM : Hid (SmallM v.m) := hs.1
 have HSK : Hid (SmallKs v.k) := hs.2.1
 have HSV := hidWSb hs.2.2
 have hkl : v.k.length ≤ 1048576 := hs.2.1.1
 have hcl : v.c.length ≤ 1048576 := by have h9 := hs.2.2; rw [vecs_wt] at h9; omega
 obtain ⟨ai, ci, ah, ch, ae, ce, ak, ck, ac, cc, rfl, hm, hk, hc⟩ := h.form
 have HWW := hidWSb h
 have HMW := hidWSb hm
 have HKS := hidWSb hk
 have HCS := hidWSb hc
 clear h hm hk hc
 obtain ⟨W0, hW0⟩ : ∃ W0, w.alloc (.cells #[.int .i64 v.m.n, .int .i64 v.m.s, .slice ai v.m.i.length ci, .slice ah v.m.h.length ch, .slice ae v.m.e.length ce, .int .i64 v.m.z, .slice ak v.k.length ck, .slice ac v.c.length cc] 60) = W0 := ⟨_, rfl⟩
 have HB0 : Hid (Below w.heap.size w W0) := by rw [← hW0]; exact (Below.refl _ w).alloc (Nat.le_refl _) _
 have HP0 : Hid (Bk W0 w.heap.size 60 #[.int .i64 v.m.n, .int .i64 v.m.s, .slice ai v.m.i.length ci, .slice ah v.m.h.length ch, .slice ae v.m.e.length ce, .int .i64 v.m.z, .slice ak v.k.length ck, .slice ac v.c.length cc]) := by rw [← hW0]; exact Bk.new w _ _
 have q0 := HP0.out.cell (i := 0) rfl
 have q1 := HP0.out.cell (i := 1) rfl
 have q2 := HP0.out.cell (i := 2) rfl
 have q3 := HP0.out.cell (i := 3) rfl
 have q4 := HP0.out.cell (i := 4) rfl
 have q5 := HP0.out.cell (i := 5) rfl
 have q6 := HP0.out.cell (i := 6) rfl
 have q7 := HP0.out.cell (i := 7) rfl
 go_enter Tryz.func103, Tryz.ntmps103
 go_wp2_with fail
 clear q0 q1 q2 q3 q4 q5 q6 q7 hW0
 refine (sWorldOk _ v _ HSW.out (HWW.out.under HB0.out)).mono ?_
 rintro e w1 ⟨rfl, hb1⟩
 have HB1 := hidWSb (HB0.out.trans (hb1.mono HB0.out.size))
 have HP1 := hidWSb (HP0.out.below hb1)
 clear hb1 HB0 HP0
 cases hok : v.ok
 case false =>
  have HN : Hid (b = false) := by (have h9 := HBB.out; rw [hok] at h9; exact h9.symm)
  clear hok
  go_wp2
  go_ret
  exact ⟨ret_bool HN.out.symm, HB1.out⟩
 have HBC : Hid ((decide (0 ≤ i) && decide (i < v.k.length)) = b) := by (have h9 := HBB.out; rw [hok] at h9; exact h9)
 clear hok HBB
 by_cases h0 : 0 ≤ i
 case neg =>
  have HN : Hid (b = false) := by (have h9 := HBC.out; rw [decide_eq_false h0] at h9; exact h9.symm)
  have h0' : decide (0 ≤ i) = false := decide_eq_false h0
  clear h0
  go_wp2
  go_ret
  exact ⟨ret_bool HN.out.symm, HB1.out⟩
 have h0' : decide (0 ≤ i) = true := decide_eq_true h0
 have HBD : Hid (decide (i < v.k.length) = b) := by (have h9 := HBC.out; rw [h0'] at h9; exact h9)
 clear HBC
 have q6 := HP1.out.cell (i := 6) rfl
 go_wp2
 go_ret
 exact ⟨ret_bool HBD.out, HB1.out⟩
set_option maxRecDepth 100000 in
set_option maxHeartbeats 16000000 in
theorem sSibl (x : Value) (v : Wd) (i1 i2 : Int) (w : World) (hs : SmallWd v) (h : IsW w x v) :
  Calls Tryz.prog 44 #[x, .int .i64 i1, .int .i64 i2] w fun e w' => e = .returned (.int .i64 (sibA v i1 i2)) ∧ Below w.heap.size w w' := by
 have HSW : Hid (SmallWd v) := hs
 have HSM : Hid (SmallM v.m) := hs.1
 have HSK : Hid (SmallKs v.k) := hs.2.1
 have HSV := hidWSb hs.2.2
 have hkl : v.k.length ≤ 1048576 := hs.2.1.1
 have hcl : v.c.length ≤ 1048576 := by have h9 := hs.2.2; rw [vecs_wt] at h9; omega
 obtain ⟨ai, ci, ah, ch, ae, ce, ak, ck, ac, cc, rfl, hm, hk, hc⟩ := h.form
 have HWW := hidWSb h
 have HMW := hidWSb hm
 have HKS := hidWSb hk
 have HCS := hidWSb hc
 clear h hm hk hc
 obtain ⟨W0, hW0⟩ : ∃ W0, w.alloc (.cells #[.int .i64 v.m.n, .int .i64 v.m.s, .slice ai v.m.i.length ci, .slice ah v.m.h.length ch, .slice ae v.m.e.length ce, .int .i64 v.m.z, .slice ak v.k.length ck, .slice ac v.c.length cc] 60) = W0 := ⟨_, rfl⟩
 have HB0 : Hid (Below w.heap.size w W0) := by rw [← hW0]; exact (Below.refl _ w).alloc (Nat.le_refl _) _
 have HP0 : Hid (Bk W0 w.heap.size 60 #[.int .i64 v.m.n, .int .i64 v.m.s, .slice ai v.m.i.length ci, .slice ah v.m.h.length ch, .slice ae v.m.e.length ce, .int .i64 v.m.z, .slice ak v.k.length ck, .slice ac v.c.length cc]) := by rw [← hW0]; exact Bk.new w _ _
 have q0 := HP0.out.cell (i := 0) rfl
 have q1 := HP0.out.cell (i := 1) rfl
 have q2 := HP0.out.cell (i := 2) rfl
 have q3 := HP0.out.cell (i := 3) rfl
 have q4 := HP0.out.cell (i := 4) rfl
 have q5 := HP0.out.cell (i := 5) rfl
 have q6 := HP0.out.cell (i := 6) rfl
 have q7 := HP0.out.cell (i := 7) rfl
 go_enter Tryz.func44, Tryz.ntmps44
 go_wp2_with fail
 clear q0 q1 q2 q3 q4 q5 q6 q7 hW0
 cases hat : (v.ok && (decide (0 ≤ i1) && decide (i1 < v.k.length)))
 case false =>
  have HN : Hid (sibA v i1 i2 = -1) := sib_no (fun h9 => by rw [h9.1, decide_eq_true h9.2.2.1.1, decide_eq_true h9.2.2.1.2] at hat; cases hat)
  refine (l6at_any _ v i1 false hat _ HSW.out (HWW.out.under HB0.out)).mono ?_
  rintro e w1 ⟨rfl, hb1⟩
  have HBX := hidWSb (HB0.out.trans (hb1.mono HB0.out.size))
  clear hb1 hat
  go_wp2
  go_ret
  exact ⟨ret_int HN.out.symm, HBX.out⟩
 refine (l6at_any _ v i1 true hat _ HSW.out (HWW.out.under HB0.out)).mono ?_
 rintro e w1 ⟨rfl, hb1⟩
 have HBX := hidWSb (HB0.out.trans (hb1.mono HB0.out.size))
 have HP1 := hidWSb (HP0.out.below hb1)
 simp only [Bool.and_eq_true, decide_eq_true_eq] at hat
 have HOK : Hid (v.ok = true) := hat.1
 have hi0 := hat.2.1
 have hi1 := hat.2.2
 have q6 := HP1.out.cell (i := 6) rfl
 clear hb1 HB0 HP0 hat
 by_cases c1 : i2 < 0
 case pos =>
  have HN : Hid (sibA v i1 i2 = -1) := sib_no (fun h9 => by have := h9.2.2.2.1; omega)
  have c1' : decide (i2 < 0) = true := decide_eq_true c1
  clear c1
  go_wp2
  go_ret
  exact ⟨ret_int HN.out.symm, HBX.out⟩
 have c1' : decide (i2 < 0) = false := decide_eq_false c1
 by_cases c2 : (v.k.length : Int) ≤ i2
 case pos =>
  have HN : Hid (sibA v i1 i2 = -1) := sib_no (fun h9 => by have := h9.2.2.2.2; omega)
  have c2' : decide ((v.k.length : Int) ≤ i2) = true := decide_eq_true c2
  clear c1 c2
  go_wp2
  go_ret
  exact ⟨ret_int HN.out.symm, HBX.out⟩
 have c2' : decide ((v.k.length : Int) ≤ i2) = false := decide_eq_false c2
 by_cases c3 : i1 = i2
 case pos =>
  have HN : Hid (sibA v i1 i2 = -1) := sib_no (fun h9 => h9.2.1 c3)
  have c3' : (i1 == i2) = true := by simpa using c3
  clear c1 c2 c3
  go_wp2
  go_ret
  exact ⟨ret_int HN.out.symm, HBX.out⟩
 have c3' : (i1 == i2) = false := by simpa using c3
 have HSI : Hid (sibOk v i1 i2) := ⟨HOK.out, c3, ⟨hi0, hi1⟩, ⟨by omega, by omega⟩⟩
 obtain ⟨ia, rfl⟩ : ∃ n : Nat, i1 = (n : Int) := ⟨i1.toNat, by omega⟩
 obtain ⟨ib, rfl⟩ : ∃ n : Nat, i2 = (n : Int) := ⟨i2.toNat, by omega⟩
 have hia : ia < v.k.length := by omega
 have hib : ib < v.k.length := by omega
 obtain ⟨b, off, rfl, hbl, hKA⟩ := HKS.out.resolve_left (by omega)
 obtain ⟨_, _, _, _, _, _, ka6, da6, _, _, _, _, _, _, _, _, ⟨_, _, _, _, _, _, fa6, _⟩, _, _, hda⟩ := (hKA ia hia).form
 obtain ⟨_, _, _, _, _, _, kb6, db6, _, _, _, _, _, _, _, _, ⟨_, _, _, _, _, _, fb6, _⟩, _, _, hdb⟩ := (hKA ib hib).form
 have HVA : Hid (vok (knAt v.k ia).d = true ∧ vok (knAt v.k ib).d = true) := ⟨kd_vok HOK.out hia, kd_vok HOK.out hib⟩
 have HRES : Hid (sibA v (ia : Int) (ib : Int) = cntU (knAt v.k ia).d (knAt v.k ib).d 4) := by rw [sib_yes HSI.out]; rfl
 have hla := vok_len4 HVA.out.1
 have hlb := vok_len4 HVA.out.2
 obtain ⟨da, hda9⟩ : ∃ d, (knAt v.k ia).d = d := ⟨_, rfl⟩
 obtain ⟨db, hdb9⟩ : ∃ d, (knAt v.k ib).d = d := ⟨_, rfl⟩
 have hva := HVA.out
 have hre := HRES.out
 rw [hda9] at hda fa6 hla hva hre
 rw [hdb9] at hdb fb6 hlb hva hre
 have HV2 := hidWSb hva
 have HR2 := hidWSb hre
 obtain ⟨ba, oa, ca, ea, hIa⟩ := IsI.four hda.isI hla
 obtain ⟨bb, ob, cb, eb, hIb⟩ := IsI.four hdb.isI hlb
 rw [hla] at ea fa6
 rw [hlb] at eb fb6
 rw [ea] at fa6
 rw [eb] at fb6
 have HIA : Hid (IntsAt w ba oa da) := hIa
 have HIB : Hid (IntsAt w bb ob db) := hIb
 have g1 : ∀ p : Beyond w1, p.w.cell? ⟨w.heap.size, 6, none⟩ = some (.slice (some ⟨b, off, none⟩) v.k.length ck) := fun p => p.cell HP1.out.lt (HP1.out.cell (i := 6) rfl)
 have hbl1 : b < w1.heap.size := Nat.lt_of_lt_of_le hbl HBX.out.size
 have g2 : ∀ p : Beyond w1, p.w.cell? ⟨b, off + ia * 14 + 6, none⟩ = some (.slice (some ⟨ba, oa, none⟩) 4 ca) := fun p => p.cell hbl1 ((HBX.out.cell (p := ⟨b, _, none⟩) hbl).trans fa6)
 have g3 : ∀ p : Beyond w1, p.w.cell? ⟨b, off + ib * 14 + 6, none⟩ = some (.slice (some ⟨bb, ob, none⟩) 4 cb) := fun p => p.cell hbl1 ((HBX.out.cell (p := ⟨b, _, none⟩) hbl).trans fb6)
 have hne : Nonempty (Beyond w1) := ⟨⟨w1, Below.refl _ _⟩⟩
 clear hKA hda hdb fa6 fb6 hva hre hda9 hdb9 hIa hIb ea eb HVA HRES c3 c1 c2
 go_wp2_with fail
 refine wp_region_beyond (by kernel_rfl) (by kernel_rfl) ?_
 repeat (go_big_quiet_step (fail))
 refine wpQuiet_nil ?_
 rintro w3 ⟨⟨_, hb3⟩, rfl⟩
 have HB3 := hidWSb hb3
 clear hb3
 clear g1 g2 g3 c1' c2' c3' q6
 have HBY := hidWSb (HBX.out.trans (HB3.out.mono HBX.out.size))
 go_wp2
 go_loopw [10, 7] (fun i n wr => ∃ j : Nat, j ≤ 4 ∧ i = .int .i64 j ∧ (∃ c : Int, n = .int .i64 c ∧ Hid (c = cntU da db j) ∧ 0 ≤ c ∧ c ≤ j) ∧ Hid (Below w.heap.size w wr)) (fun i _ _ => 4 - (intOf i).toNat)
 case atStart => exact ⟨0, by omega, rfl, ⟨0, rfl, rfl, by omega, by omega⟩, HBY.out⟩
 case round =>
  clear HB3 HBY
  obtain ⟨j, hj, rfl, ⟨c, rfl, HC, hc0, hc1⟩, HB⟩ := hrel
  by_cases hlt : j < 4
  case pos =>
   obtain ⟨x, hx⟩ : ∃ x, x = intAt da j := ⟨_, rfl⟩
   obtain ⟨y, hy⟩ : ∃ y, y = intAt db j := ⟨_, rfl⟩
   have hxr := vok_at HV2.out.1 j hlt
   have hyr := vok_at HV2.out.2 j hlt
   rw [← hx] at hxr
   rw [← hy] at hyr
   have fx := Beyond.ints (W := wr) (HIA.out.below HB.out HIA.out.1) (k := j) (by omega) hx
   have fy := Beyond.ints (W := wr) (HIB.out.below HB.out HIB.out.1) (k := j) (by omega) hy
   have HX : Hid (x = intAt da j) := hx
   have HY : Hid (y = intAt db j) := hy
   clear hx hy
   have hki : (j : Int) < 4 := by omega
   have hne : Nonempty (Beyond wr) := ⟨⟨wr, Below.refl _ _⟩⟩
   by_cases e1 : 0 ≤ x
   case neg =>
    have d0 : decide (0 ≤ x) = false := by simpa using e1
    have HF : Hid (uB x y = false) := by (show _ = _; unfold uB; simp; omega)
    clear e1
    go_wp2_with fail
    refine wp_region_beyond (by kernel_rfl) (by kernel_rfl) ?_
    repeat (go_big_quiet_step (fail))
    refine wpQuiet_nil ?_
    rintro w3 ⟨⟨_, hb3⟩, rfl⟩
    have HB3 := hidWSb hb3
    clear hb3
    clear fx fy
    go_wp2
    go_roundw
    case rel => exact ⟨j + 1, by omega, by go_num, ⟨c, rfl, (by rw [cntU_snoc, ← HX.out, ← HY.out, HF.out]; simpa using HC.out : c = cntU da db (j + 1)), by omega, by omega⟩, HB.out.trans (HB3.out.mono HB.out.size)⟩
    case measure => simp [intOf]; omega
   have d0 : decide (0 ≤ x) = true := by simpa using e1
   by_cases e2 : 0 ≤ y
   case neg =>
    have d1 : decide (0 ≤ y) = false := by simpa using e2
    have HF : Hid (uB x y = false) := by (show _ = _; unfold uB; simp; omega)
    clear e2
    go_wp2_with fail
    refine wp_region_beyond (by kernel_rfl) (by kernel_rfl) ?_
    repeat (go_big_quiet_step (fail))
    refine wpQuiet_nil ?_
    rintro w3 ⟨⟨_, hb3⟩, rfl⟩
    have HB3 := hidWSb hb3
    clear hb3
    clear fx fy
    go_wp2
    go_roundw
    case rel => exact ⟨j + 1, by omega, by go_num, ⟨c, rfl, (by rw [cntU_snoc, ← HX.out, ← HY.out, HF.out]; simpa using HC.out : c = cntU da db (j + 1)), by omega, by omega⟩, HB.out.trans (HB3.out.mono HB.out.size)⟩
    case measure => simp [intOf]; omega
   have d1 : decide (0 ≤ y) = true := by simpa using e2
   by_cases e3 : ¬ x = y
   case neg =>
    have d2 : (x != y) = false := by simpa using e3
    have HF : Hid (uB x y = false) := by (show _ = _; unfold uB; simp; omega)
    clear e3
    go_wp2_with fail
    refine wp_region_beyond (by kernel_rfl) (by kernel_rfl) ?_
    repeat (go_big_quiet_step (fail))
    refine wpQuiet_nil ?_
    rintro w3 ⟨⟨_, hb3⟩, rfl⟩
    have HB3 := hidWSb hb3
    clear hb3
    clear fx fy
    go_wp2
    go_roundw
    case rel => exact ⟨j + 1, by omega, by go_num, ⟨c, rfl, (by rw [cntU_snoc, ← HX.out, ← HY.out, HF.out]; simpa using HC.out : c = cntU da db (j + 1)), by omega, by omega⟩, HB.out.trans (HB3.out.mono HB.out.size)⟩
    case measure => simp [intOf]; omega
   have d2 : (x != y) = true := by simpa using e3
   have HF : Hid (uB x y = true) := by (show _ = _; unfold uB; simp; omega)
   clear e1 e2 e3
   go_wp2_with fail
   refine wp_region_beyond (by kernel_rfl) (by kernel_rfl) ?_
   repeat (go_big_quiet_step (fail))
   refine wpQuiet_nil ?_
   rintro w3 ⟨⟨_, hb3⟩, rfl⟩
   have HB3 := hidWSb hb3
   clear hb3
   clear fx fy
   go_wp2
   go_roundw
   case rel => exact ⟨j + 1, by omega, by go_num, ⟨c + 1, rfl, (by rw [cntU_snoc, ← HX.out, ← HY.out, HF.out]; have h9 := HC.out; simp; omega : c + 1 = cntU da db (j + 1)), by omega, by omega⟩, HB.out.trans (HB3.out.mono HB.out.size)⟩
   case measure => simp [intOf]; omega
  case neg =>
   have hje : j = 4 := by omega
   subst hje
   go_wp2
   go_ret
   exact ⟨ret_int (HC.out.trans HR2.out.symm), HB.out⟩
end Go.Proofs.YtnlhcdchmgfipaaGreat
