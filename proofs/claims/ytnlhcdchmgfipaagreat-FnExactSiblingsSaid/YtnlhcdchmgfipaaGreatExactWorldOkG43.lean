/- WCt, WIo, TPpB, KKe -/
import Derived.Test.YtnlhcdchmgfipaaGreatExactWorldOkG42
import Derived.Laws.AppendOwnNone
import Derived.Test.YtnlhcdchmgfipaaGreatExactWorldOkG05
import Derived.Deep.RegionHeld3
import Derived.Test.YtnlhcdchmgfipaaGreatExactWorldOkG06
/- slices.Concat at vectors. -/
namespace Go.Proofs.YtnlhcdchmgfipaaGreat
open Go.RowKit
structure CPart where
 a : Option Addr
 c : Nat
 l : List (List Int)
def partAt (ps : List CPart) (i : Nat) : CPart := ps.getD i ⟨none, 0, []⟩
def PartsAt (w : World) (B : Nat) (ps : List CPart) : Prop := B < w.heap.size ∧ ∀ i, i < ps.length → w.cell? ⟨B, i, none⟩ = some (.slice (partAt ps i).a (partAt ps i).l.length (partAt ps i).c) ∧ (((partAt ps i).a = none ∧ (partAt ps i).c = 0 ∧ (partAt ps i).l = []) ∨ ∃ b off, (partAt ps i).a = some ⟨b, off, none⟩ ∧ ((partAt ps i).l = [] ∨ VcAt w b off (partAt ps i).l))
theorem PartsAt.below {w w' : World} {B : Nat} {ps : List CPart} (h : PartsAt w B ps) (hb : Below w.heap.size w w') : PartsAt w' B ps :=
 ⟨Nat.lt_of_lt_of_le h.1 hb.size, fun i hi => ⟨(hb.cell (p := ⟨B, i, none⟩) h.1).trans (h.2 i hi).1, (h.2 i hi).2.imp id (fun ⟨b, off, e1, e2⟩ => ⟨b, off, e1, e2.imp id (fun e => e.below hb)⟩)⟩⟩
def catTo (ps : List CPart) : Nat → List (List Int)
 | 0 => []
 | k + 1 => catTo ps k ++ (partAt ps k).l
theorem catTo_le (ps : List CPart) (k n : Nat) (h : k ≤ n) : (catTo ps k).length ≤ (catTo ps n).length := by
 induction n with
 | zero => rw [show k = 0 by omega]; exact Nat.le_refl _
 | succ n ih =>
  by_cases e : k = n + 1
  ·rw [e]; exact Nat.le_refl _
  ·have := ih (by omega)
   simp only [catTo, List.length_append]
   omega
set_option maxRecDepth 100000 in
set_option maxHeartbeats 2000000 in
theorem concatA (B : Nat) (ps : List CPart) (w : World) (hps : ps.length ≤ 1000) (hn : (catTo ps ps.length).length ≤ 4194304) (hP : PartsAt w B ps) :
  Calls Tryz.prog 90 #[.slice (some ⟨B, 0, none⟩) ps.length ps.length] w fun e w' => ∃ x, e = .returned x ∧ RowA w.heap.size w' x (catTo ps ps.length) ∧ Below w.heap.size w w' := by
 obtain ⟨i0, hi, hz0, hz1, hz2⟩ := info_parts infoVc
 have HP : Hid (PartsAt w B ps) := hP
 clear hP
 have HN : Hid ((catTo ps ps.length).length ≤ 4194304) := hn
 clear hn
 go_enter Tryz.func90, Tryz.ntmps90
 go_wp2
 go_loop [3, 11] (fun z i => ∃ k : Nat, k ≤ ps.length ∧ i = .int .i64 k ∧ z = .int .i64 ((catTo ps k).length : Int)) (fun _ i => ps.length - (intOf i).toNat)
 case atStart => exact ⟨0, Nat.zero_le _, rfl, rfl⟩
 case round =>
  obtain ⟨k, hk, rfl, rfl⟩ := hrel
  by_cases hlt : k < ps.length
  ·have hc := (HP.out.2 k hlt).1
   have hle := catTo_le ps (k + 1) ps.length (by omega)
   have hsum : (catTo ps (k + 1)).length = (catTo ps k).length + (partAt ps k).l.length := by simp [catTo]
   generalize hA : (catTo ps k).length = A at hsum ⊢
   generalize hL : (partAt ps k).l.length = L at hsum hc
   have hA1 : (A : Int) + (L : Int) ≤ 4194304 := by have := HN.out; omega
   have hA2 : (0 : Int) ≤ (A : Int) + (L : Int) := by omega
   have HS : Hid ((catTo ps (k + 1)).length = A + L) := hsum
   clear hA hL hsum hle
   go_wp2
   go_round
   case rel => exact ⟨k + 1, by omega, by go_num, by rw [HS.out]; go_num⟩
   case measure => simp [intOf]; omega
  ·obtain rfl : k = ps.length := by omega
   generalize hT : (catTo ps ps.length).length = T
   have HT : Hid ((catTo ps ps.length).length = T) := hT
   have hT1 : T ≤ 4194304 := by have := HN.out; omega
   clear hT
   go_wp2_with (go_at_call 144; refine (grow_anyA T _ hT1).mono ?_; rintro e w1 ⟨v0, rfl, hr1, hb1⟩)
   have HR1 : Hid (w1.ownsRow w.heap.size 118 4 v0 0 []) := hr1
   have HB1 : Hid (Below w.heap.size w w1) := hb1
   clear hr1 hb1
   go_loopw [6, 27] (fun v i wr => ∃ k : Nat, k ≤ ps.length ∧ i = .int .i64 k ∧ Hid (wr.ownsRow w.heap.size 118 4 v (catTo ps k).length (vcells (catTo ps k))) ∧ Hid (Below w.heap.size w wr)) (fun _ i _ => ps.length - (intOf i).toNat)
   case atStart => exact ⟨0, Nat.zero_le _, rfl, HR1.out, HB1.out⟩
   case round =>
    clear HR1 HB1
    obtain ⟨k, hk, rfl, HR, HB⟩ := hrel
    by_cases hlt : k < ps.length
    ·have hPk := HP.out.below HB.out
     have hc := (hPk.2 k hlt).1
     have HE : Hid (((partAt ps k).a = none ∧ (partAt ps k).c = 0 ∧ (partAt ps k).l = []) ∨ ∃ b off, (partAt ps k).a = some ⟨b, off, none⟩ ∧ ((partAt ps k).l = [] ∨ VcAt wr b off (partAt ps k).l)) := (hPk.2 k hlt).2
     clear hPk
     have hle := catTo_le ps (k + 1) ps.length (by omega)
     have hsum : (catTo ps (k + 1)).length = (catTo ps k).length + (partAt ps k).l.length := by simp [catTo]
     have hsz : w.heap.size ≤ wr.heap.size := HB.out.size
     have hb1 : (catTo ps k).length + (partAt ps k).l.length ≤ 4194304 := by have := HN.out; omega
     have HS : Hid ((catTo ps (k + 1)).length = (catTo ps k).length + (partAt ps k).l.length) := hsum
     clear hle hsum
     rcases HE.out with ⟨ha, hcz, hl0⟩ | ⟨b, off, ha, hE⟩
     ·have HL : Hid ((partAt ps k).l = []) := hl0
      rw [ha, hcz, hl0] at hc
      simp only [List.length_nil] at hc
      clear ha hcz hl0 HE hb1
      go_wp2_with (at_builtin; refine wpList_append_own_none rfl _ _ 112 rfl w.heap.size 118 i0 4 Tryz.underlying112 hi _ (catTo ps k).length (vcells (catTo ps k)) rfl HR.out rfl ?_)
      go_roundw
      case rel => exact ⟨k + 1, by omega, by go_num, by rw [show catTo ps (k + 1) = catTo ps k from by show catTo ps k ++ (partAt ps k).l = _; rw [HL.out, List.append_nil]]; exact HR.out, HB.out⟩
      case measure => simp [intOf]; omega
     ·rw [ha] at hc
      have HC : Hid (∀ j u, (vcells (partAt ps k).l)[j]? = some u → wr.cell? ((⟨b, off, none⟩ : Addr).add j) = some u) := by
       rcases hE with h | h
       ·exact fun j u hu => by rw [h] at hu; cases hu
       ·exact h.cells
      clear ha hE HE
      go_wp2_with (at_builtin; refine wpList_append_own _ rfl _ _ 112 rfl w.heap.size 118 i0 _ 4 32 Tryz.underlying112 hi hz0 hz1 hz2 rfl (by decide) _ (catTo ps k).length (vcells (catTo ps k)) rfl HR.out ⟨b, off, none⟩ (partAt ps k).l.length (partAt ps k).c (vcells (partAt ps k).l) rfl (vcells_len _) HC.out (vcells_one _) (by unfold maxLen; omega) (by omega) hsz ?_; intro v' w2 hown hgrow hnil)
      go_roundw
      case rel => exact ⟨k + 1, by omega, by go_num, by rw [HS.out]; show World.ownsRow _ _ _ _ _ _ (vcells (catTo ps k ++ (partAt ps k).l)); rw [vcells_app]; exact hown, HB.out.grown hgrow hsz (fun r e => (World.ownsRow.lt HR.out r e).1)⟩
      case measure => simp [intOf]; omega
    ·obtain rfl : k = ps.length := by omega
     go_wp2
     go_ret
     exact ⟨_, rfl, HR.out, HB.out⟩
end Go.Proofs.YtnlhcdchmgfipaaGreat

/- The program's WorldOk. -/
namespace Go.Proofs.YtnlhcdchmgfipaaGreat
open Go.RowKit
theorem vecs_len {v : Wd} (h : SmallKs v.k) : ∀ j, j < (dsOf v.k).length → (vAt (dsOf v.k) j).length ≤ 1048576 := fun j hj => by
 rw [dsOf_len] at hj
 rw [dsOf_at hj]
 have h9 := (h.2 j hj).2
 unfold Kn.wt at h9
 rw [ints_wt] at h9
 omega
theorem parts_two {B1 B2 : Nat} {w V : World} {y1 y2 : Value} {l1 l2 : List (List Int)} {g : Nat} (h1 : RowA B1 w y1 l1) (h2 : RowA B2 w y2 l2) (hb : Below w.heap.size w V) (hB : Bk V g 112 #[y1, y2]) : ∃ ps : List CPart, ps.length = 2 ∧ catTo ps 2 = l1 ++ l2 ∧ PartsAt V g ps := by
 have e : ∀ {B : Nat} {y : Value} {l : List (List Int)}, RowA B w y l → ∃ a c, y = .slice a l.length c ∧ ((a = none ∧ c = 0 ∧ l = []) ∨ ∃ b off, a = some ⟨b, off, none⟩ ∧ (l = [] ∨ VcAt V b off l)) := fun h => by
  rcases RowA.at h with ⟨rfl, rfl⟩ | ⟨g, cap, rfl, _, _, h3⟩
  ·exact ⟨none, 0, rfl, .inl ⟨rfl, rfl, rfl⟩⟩
  ·exact ⟨_, cap, rfl, .inr ⟨g, 0, rfl, .inr (h3.below hb)⟩⟩
 obtain ⟨a1, c1, rfl, k1⟩ := e h1
 obtain ⟨a2, c2, rfl, k2⟩ := e h2
 refine ⟨[⟨a1, c1, l1⟩, ⟨a2, c2, l2⟩], rfl, rfl, hB.lt, fun i hi => ?_⟩
 have h4 : i = 0 ∨ i = 1 := by simp at hi; omega
 rcases h4 with rfl | rfl
 ·exact ⟨hB.cell (i := 0) rfl, k1⟩
 ·exact ⟨hB.cell (i := 1) rfl, k2⟩
theorem RowA.below {B : Nat} {w w' : World} {x : Value} {l : List (List Int)} (h : RowA B w x l) (hb : Below w.heap.size w w') : RowA B w' x l := owns_turns (S := fun _ => False) h (Turns.of_below hb) (fun _ _ => id)
set_option maxRecDepth 100000 in
set_option maxHeartbeats 16000000 in
theorem iWorldOk (x : Value) (v : Wd) (w : World) (hs : SmallWd v) (h : IsW w x v) :
  Calls Tryz.prog 28 #[x] w fun e w' => e = .returned (.bool v.ok) ∧ Below w.heap.size w w' := by
 have HSW : Hid (SmallWd v) := hs
 have h0 := h
 have HSM : Hid (SmallM v.m) := hs.1
 have HSK : Hid (SmallKs v.k) := hs.2.1
 have HSV : Hid ((vecsD v.c).wt ≤ 1048576) := hs.2.2
 have hkl : v.k.length ≤ 1048576 := hs.2.1.1
 have hcl : v.c.length ≤ 1048576 := by have h9 := hs.2.2; rw [vecs_wt] at h9; omega
 obtain ⟨ai, ci, ah, ch, ae, ce, ak, ck, ac, cc, rfl, hm, hk, hc⟩ := h.form
 have HWW : Hid (IsW w (.agg #[.int .i64 v.m.n, .int .i64 v.m.s, .slice ai v.m.i.length ci, .slice ah v.m.h.length ch, .slice ae v.m.e.length ce, .int .i64 v.m.z, .slice ak v.k.length ck, .slice ac v.c.length cc]) v) := h
 have HMW : Hid (IsM w (.agg #[.int .i64 v.m.n, .int .i64 v.m.s, .slice ai v.m.i.length ci, .slice ah v.m.h.length ch, .slice ae v.m.e.length ce, .int .i64 v.m.z]) v.m) := hm
 have HKS : Hid (v.k.length = 0 ∨ ∃ b off, ak = some ⟨b, off, none⟩ ∧ b < w.heap.size ∧ ∀ i, i < v.k.length → KAt w b (off + i * 14) (knAt v.k i)) := hk
 have HCS : Hid (v.c.length = 0 ∨ ∃ b off, ac = some ⟨b, off, none⟩ ∧ b < w.heap.size ∧ ∀ j, j < v.c.length → ∃ u, w.cell? ⟨b, off + j, none⟩ = some u ∧ IsD w u (intsD (vAt v.c j))) := hc
 have HCD : Hid (IsD w (.slice ac v.c.length cc) (vecsD v.c)) := by
  obtain ⟨_, _, _, _, uc, e9, _, _, h9⟩ := h0
  have e8 := congrArg Array.toList (Value.agg.inj e9)
  simp at e8
  rw [← e8.2.2.2.2] at h9
  exact h9
 clear h h0 hm hk hc
 obtain ⟨W0, hW0⟩ : ∃ W0, w.alloc (.cells #[.int .i64 v.m.n, .int .i64 v.m.s, .slice ai v.m.i.length ci, .slice ah v.m.h.length ch, .slice ae v.m.e.length ce, .int .i64 v.m.z, .slice ak v.k.length ck, .slice ac v.c.length cc] 60) = W0 := ⟨_, rfl⟩
 have HB0 : Hid (Below w.heap.size w W0) := by rw [← hW0]; exact (Below.refl _ w).alloc (Nat.le_refl _) _
 have HP0 : Hid (Bk W0 w.heap.size 60 #[.int .i64 v.m.n, .int .i64 v.m.s, .slice ai v.m.i.length ci, .slice ah v.m.h.length ch, .slice ae v.m.e.length ce, .int .i64 v.m.z, .slice ak v.k.length ck, .slice ac v.c.length cc]) := by rw [← hW0]; exact Bk.new w _ _
 have q0 := HP0.out.cell (i := 0) rfl
 have q1 := HP0.out.cell (i := 1) rfl
 have q2 := HP0.out.cell (i := 2) rfl
 have q3 := HP0.out.cell (i := 3) rfl
 have q4 := HP0.out.cell (i := 4) rfl
 have q5 := HP0.out.cell (i := 5) rfl
 have q6 := HP0.out.cell (i := 6) rfl
 have q7 := HP0.out.cell (i := 7) rfl
 by_cases c4 : v.k.length ≤ 16
 case neg =>
  have c4' : (16 : Int) < (v.k.length : Int) := by omega
  have HN : Hid (v.ok = false) := bool_no (fun h => c4 (wok_iff.1 h).1.2.1)
  clear c4
  go_enter Tryz.func28, Tryz.ntmps28
  go_wp2
  go_ret
  exact ⟨ret_bool HN.out.symm, HB0.out⟩
 have c4' : ¬ (16 : Int) < (v.k.length : Int) := by omega
 by_cases c5 : v.c.length ≤ 100
 case neg =>
  have c5' : (100 : Int) < (v.c.length : Int) := by omega
  have HN : Hid (v.ok = false) := bool_no (fun h => c5 (wok_iff.1 h).1.2.2)
  clear c5
  go_enter Tryz.func28, Tryz.ntmps28
  go_wp2
  go_ret
  exact ⟨ret_bool HN.out.symm, HB0.out⟩
 have c5' : ¬ (100 : Int) < (v.c.length : Int) := by omega
 have HLN : Hid (v.k.length ≤ 16 ∧ v.c.length ≤ 100) := ⟨c4, c5⟩
 go_enter Tryz.func28, Tryz.ntmps28
 go_wp2_with fail
 clear q0 q1 q2 q3 q4 q5 q6 q7 c4' c5' hW0
 refine (runs_any _ v _ HSW.out (HWW.out.under HB0.out)).mono ?_
 rintro e w1 ⟨y1, rfl, hb1, hr1⟩
 have HB1 : Hid (Below w.heap.size w w1) := HB0.out.trans (hb1.mono HB0.out.size)
 have HP1 : Hid (Bk w1 w.heap.size 60 #[.int .i64 v.m.n, .int .i64 v.m.s, .slice ai v.m.i.length ci, .slice ah v.m.h.length ch, .slice ae v.m.e.length ce, .int .i64 v.m.z, .slice ak v.k.length ck, .slice ac v.c.length cc]) := HP0.out.below hb1
 have HD1 : Hid (IsD w1 y1 (vecsD (dsOf v.k))) := hr1.isD hb1
 clear hb1 hr1 HB0 HP0
 go_wp2_with fail
 refine (in_any y1 (dsOf v.k) w1 (by rw [dsOf_len]; omega) (vecs_len HSK.out) HD1.out).mono ?_
 rintro e w2 ⟨hb2, hin⟩
 have HB2 : Hid (Below w.heap.size w w2) := HB1.out.trans (hb2.mono HB1.out.size)
 have HP2 : Hid (Bk w2 w.heap.size 60 #[.int .i64 v.m.n, .int .i64 v.m.s, .slice ai v.m.i.length ci, .slice ah v.m.h.length ch, .slice ae v.m.e.length ce, .int .i64 v.m.z, .slice ak v.k.length ck, .slice ac v.c.length cc]) := HP1.out.below hb2
 clear hb2 HB1 HP1 HD1
 obtain ⟨y2, b2, rfl, HI2⟩ : ∃ y2 b2, e = .returned (.tuple #[y2, .bool b2]) ∧ Hid ((b2 = true ∧ allVk (dsOf v.k) = true ∧ ∃ B, RowA B w2 y2 (dsOf v.k)) ∨ (b2 = false ∧ allVk (dsOf v.k) = false)) := by
  rcases hin with ⟨h1, y, rfl, h2⟩ | ⟨h1, rfl⟩
  ·exact ⟨y, true, rfl, .inl ⟨rfl, h1, _, h2⟩⟩
  ·exact ⟨_, false, rfl, .inr ⟨rfl, h1⟩⟩
 clear hin
 have q7 := HP2.out.cell (i := 7) rfl
 go_wp2_with fail
 clear q7
 refine (in_any (.slice ac v.c.length cc) v.c w2 (by omega) (fun j hj => Nat.le_trans (vec_le hj) HSV.out) (HCD.out.under HB2.out)).mono ?_
 rintro e w3 ⟨hb3, hin⟩
 have HB3 : Hid (Below w.heap.size w w3) := HB2.out.trans (hb3.mono HB2.out.size)
 have HP3 : Hid (Bk w3 w.heap.size 60 #[.int .i64 v.m.n, .int .i64 v.m.s, .slice ai v.m.i.length ci, .slice ah v.m.h.length ch, .slice ae v.m.e.length ce, .int .i64 v.m.z, .slice ak v.k.length ck, .slice ac v.c.length cc]) := HP2.out.below hb3
 have HI23 : Hid ((b2 = true ∧ allVk (dsOf v.k) = true ∧ ∃ B, RowA B w3 y2 (dsOf v.k)) ∨ (b2 = false ∧ allVk (dsOf v.k) = false)) := HI2.out.imp (fun ⟨h1, h2, B, h3⟩ => ⟨h1, h2, B, h3.below hb3⟩) id
 clear hb3 HB2 HP2 HI2
 obtain ⟨y3, b3, rfl, HI3⟩ : ∃ y3 b3, e = .returned (.tuple #[y3, .bool b3]) ∧ Hid ((b3 = true ∧ allVk v.c = true ∧ ∃ B, RowA B w3 y3 v.c) ∨ (b3 = false ∧ allVk v.c = false)) := by
  rcases hin with ⟨h1, y, rfl, h2⟩ | ⟨h1, rfl⟩
  ·exact ⟨y, true, rfl, .inl ⟨rfl, h1, _, h2⟩⟩
  ·exact ⟨_, false, rfl, .inr ⟨rfl, h1⟩⟩
 clear hin
 rcases HI23.out with ⟨rfl, hk1, B1, hk2⟩ | ⟨rfl, hk1⟩
 case inr =>
  have HN : Hid (v.ok = false) := bool_no (fun h => by
   have h1 := (wok_iff.1 h).2.1
   have h2 : allVk (dsOf v.k) = true := allVk_iff.2 (fun i hi => by
    rw [dsOf_len] at hi
    rw [dsOf_at hi]
    exact (kok_vok (runB_iff.1 (h1 i hi)).1).2)
   rw [hk1] at h2
   cases h2)
  clear hk1
  go_wp2
  go_ret
  exact ⟨ret_bool HN.out.symm, HB3.out⟩
 rcases HI3.out with ⟨rfl, hc1, B2, hc2⟩ | ⟨rfl, hc1⟩
 case inr =>
  have HN : Hid (v.ok = false) := bool_no (fun h => by
   have h2 : allVk v.c = true := allVk_iff.2 (wok_iff.1 h).2.2.1
   rw [hc1] at h2
   cases h2)
  clear hk1 hk2 hc1
  go_wp2
  go_ret
  exact ⟨ret_bool HN.out.symm, HB3.out⟩
 have HAV : Hid (∀ i, i < v.c.length → vok (vAt v.c i) = true) := allVk_iff.1 hc1
 obtain ⟨V4, hV4⟩ : ∃ V4, w3.alloc (.cells #[y2, y3] 112) = V4 := ⟨_, rfl⟩
 have hb4 : Below w3.heap.size w3 V4 := hV4 ▸ (Below.refl _ w3).alloc (Nat.le_refl _) _
 have hK4 : Bk V4 w3.heap.size 112 #[y2, y3] := hV4 ▸ Bk.new w3 _ _
 obtain ⟨ps, hps, hcat, hPA⟩ := parts_two hk2 hc2 hb4 hK4
 have HPA : Hid (PartsAt V4 w3.heap.size ps) := hPA
 have HCAT : Hid (catTo ps ps.length = allV v) := by rw [hps]; exact hcat
 have HPS : Hid (ps.length = 2) := hps
 have HCON : Hid (Calls Tryz.prog 90 #[.slice (some ⟨w3.heap.size, 0, none⟩) 2 2] V4 fun e w' => ∃ x, e = .returned x ∧ RowA V4.heap.size w' x (allV v) ∧ Below V4.heap.size V4 w') := by
  have h9 := concatA w3.heap.size ps V4 (by rw [hps]; omega) (by rw [HCAT.out]; unfold allV; rw [List.length_append, dsOf_len]; omega) hPA
  rw [HCAT.out, hps] at h9
  exact h9
 have HB4 : Hid (Below w.heap.size w V4) := HB3.out.trans (hb4.mono HB3.out.size)
 have HP4 : Hid (Bk V4 w.heap.size 60 #[.int .i64 v.m.n, .int .i64 v.m.s, .slice ai v.m.i.length ci, .slice ah v.m.h.length ch, .slice ae v.m.e.length ce, .int .i64 v.m.z, .slice ak v.k.length ck, .slice ac v.c.length cc]) := HP3.out.below hb4
 obtain ⟨a2, c2, rfl⟩ := owns_slice hk2
 obtain ⟨a3, c3, rfl⟩ := owns_slice hc2
 clear hk1 hk2 hc1 hc2 hb4 hK4 hps hcat hPA HPA HI23 HI3
 go_wp2_with fail
 clear hV4
 refine HCON.out.mono ?_
 rintro e w5 ⟨y5, rfl, hr5, hb5⟩
 have HB5 : Hid (Below w.heap.size w w5) := HB4.out.trans (hb5.mono HB4.out.size)
 have HP5 : Hid (Bk w5 w.heap.size 60 #[.int .i64 v.m.n, .int .i64 v.m.s, .slice ai v.m.i.length ci, .slice ah v.m.h.length ch, .slice ae v.m.e.length ce, .int .i64 v.m.z, .slice ak v.k.length ck, .slice ac v.c.length cc]) := HP4.out.below hb5
 have HR5 : Hid (RowA V4.heap.size w5 y5 (allV v)) := hr5
 clear hr5 hb5 HB4 HP4 HCON
 go_wp2_with fail
 refine (none_any y5 (allV v) w5 (by unfold allV; rw [List.length_append, dsOf_len]; omega) HR5.out.at).mono ?_
 rintro e w6 ⟨rfl, hb6⟩
 have HB6 : Hid (Below w.heap.size w w6) := HB5.out.trans (hb6.mono HB5.out.size)
 have HP6 : Hid (Bk w6 w.heap.size 60 #[.int .i64 v.m.n, .int .i64 v.m.s, .slice ai v.m.i.length ci, .slice ah v.m.h.length ch, .slice ae v.m.e.length ce, .int .i64 v.m.z, .slice ak v.k.length ck, .slice ac v.c.length cc]) := HP5.out.below hb6
 clear hb6 HB5 HP5
 cases hnm : noMB (allV v)
 case false =>
  have HN : Hid (v.ok = false) := bool_no (fun h => by have h2 := (wok_iff.1 h).2.2.2; rw [hnm] at h2; cases h2)
  clear hnm
  go_wp2
  go_ret
  exact ⟨ret_bool HN.out.symm, HB6.out⟩
 have HNM : Hid (noMB (allV v) = true) := hnm
 clear hnm
 have q0 := HP6.out.cell (i := 0) rfl
 have q1 := HP6.out.cell (i := 1) rfl
 have q2 := HP6.out.cell (i := 2) rfl
 have q3 := HP6.out.cell (i := 3) rfl
 have q4 := HP6.out.cell (i := 4) rfl
 have q5 := HP6.out.cell (i := 5) rfl
 have q6 := HP6.out.cell (i := 6) rfl
 have q7 := HP6.out.cell (i := 7) rfl
 go_wp2_with fail
 clear q0 q1 q2 q3 q4 q5 q6 q7
 refine (iRunsOk _ v _ HSW.out (HWW.out.under HB6.out)).mono ?_
 rintro e w7 ⟨rfl, hb7⟩
 have HB7 : Hid (Below w.heap.size w w7) := HB6.out.trans (hb7.mono HB6.out.size)
 clear hb7
 have HEQ : Hid (runsB v = v.ok) := by
  cases hr : runsB v
  ·exact (bool_no (fun h => by have h9 : runsB v = true := runsB_iff.2 ⟨(wok_iff.1 h).1.1, (wok_iff.1 h).2.1⟩; rw [hr] at h9; cases h9)).symm
  ·exact (wok_iff.2 ⟨⟨(runsB_iff.1 hr).1, HLN.out.1, HLN.out.2⟩, (runsB_iff.1 hr).2, HAV.out, HNM.out⟩).symm
 go_wp2
 go_ret
 exact ⟨ret_bool HEQ.out, HB7.out⟩
end Go.Proofs.YtnlhcdchmgfipaaGreat

/- eqPartS: two rows alike. -/
namespace Go.Proofs.YtnlhcdchmgfipaaGreat
open Go.RowKit
set_option maxHeartbeats 8000000 in
theorem eq_parts (x y : Value) (l : List Pa) (w : World) (hl : (partsD l).wt ≤ 1048576) (hx : IsD w x (partsD l)) (hy : IsD w y (partsD l)) :
  Calls Tryz.prog 73 #[x, y] w fun e w' => e = .returned (.bool true) ∧ Below w.heap.size w w' := by
 obtain ⟨a, cap, rfl, h1, h2, h⟩ := IsD.parts (c := 7) (n := l.length) hx
 obtain ⟨a', cap', rfl, h1', h2', h'⟩ := IsD.parts (c := 7) (n := l.length) hy
 have HS : Hid ((partsD l).wt ≤ 1048576) := hl
 have hl2 : l.length ≤ 1048576 := by rw [partsD_wt] at hl; omega
 clear h1 h2 h1' h2' hx hy hl
 go_enter Tryz.func73, Tryz.ntmps73
 go_wp2
 go_loopw [5] (fun i wr => ∃ k : Nat, k ≤ l.length ∧ i = .int .i64 k ∧ Below w.heap.size w wr) (fun i _ => l.length - (intOf i).toNat)
 case atStart => exact ⟨0, Nat.zero_le _, rfl, Below.refl _ _⟩
 case round =>
  obtain ⟨k, hk, rfl, hB⟩ := hrel
  have HB : Hid (Below w.heap.size w wr) := hB
  by_cases hlt : k < l.length
  ·obtain ⟨b, off, rfl, hb, hc⟩ := h.resolve_left (by omega)
   obtain ⟨b', off', rfl, hb', hc'⟩ := h'.resolve_left (by omega)
   obtain ⟨u1, u4, u5, u6, f0, f1, f2, f3, f4, f5, f6, d1, d4, d5, d6⟩ := partsD_in (fun j hj => by
    obtain ⟨u, hu, hd⟩ := hc j hj
    exact ⟨u, (hB.cell (p := ⟨b, off + j, none⟩) hb).trans hu, hd.under hB⟩) hlt
   obtain ⟨v1, v4, v5, v6, e0, e1, e2, e3, e4, e5, e6, g1, g4, g5, g6⟩ := partsD_in (fun j hj => by
    obtain ⟨u, hu, hd⟩ := hc' j hj
    exact ⟨u, (hB.cell (p := ⟨b', off' + j, none⟩) hb').trans hu, hd.under hB⟩) hlt
   have HD : Hid (IsPart wr.drew (.agg #[.int .i64 (paAt l k).n, u1, .int .i64 (paAt l k).st.q, .int .i64 (paAt l k).st.d, u4, u5, u6]) (paAt l k)) := IsPart.under (w := wr) ⟨u1, u4, u5, u6, rfl, d1, d4, d5, d6⟩ (Below.refl _ wr).drew
   have HG : Hid (IsPart wr.drew (.agg #[.int .i64 (paAt l k).n, v1, .int .i64 (paAt l k).st.q, .int .i64 (paAt l k).st.d, v4, v5, v6]) (paAt l k)) := IsPart.under (w := wr) ⟨v1, v4, v5, v6, rfl, g1, g4, g5, g6⟩ (Below.refl _ wr).drew
   have HW : Hid ((paAt l k).wt ≤ 1048576) := Nat.le_trans (Pa.wt_le hlt) HS.out
   have hbr : b < wr.heap.size := Nat.lt_of_lt_of_le hb hB.size
   have hbr' : b' < wr.heap.size := Nat.lt_of_lt_of_le hb' hB.size
   clear hB hc hc' h h' d1 d4 d5 d6 g1 g4 g5 g6
   go_wp2_with fail
   go_region_held3 (fun W => W.cell? ⟨b, off + k * 7, none⟩ = some (.int .i64 (paAt l k).n) ∧ W.cell? ⟨b, off + k * 7 + 1, none⟩ = some (u1) ∧ W.cell? ⟨b, off + k * 7 + 2, none⟩ = some (.int .i64 (paAt l k).st.q) ∧ W.cell? ⟨b, off + k * 7 + 3, none⟩ = some (.int .i64 (paAt l k).st.d) ∧ W.cell? ⟨b, off + k * 7 + 4, none⟩ = some (u4) ∧ W.cell? ⟨b, off + k * 7 + 5, none⟩ = some (u5) ∧ W.cell? ⟨b, off + k * 7 + 6, none⟩ = some (u6) ∧ W.cell? ⟨b', off' + k * 7, none⟩ = some (.int .i64 (paAt l k).n) ∧ W.cell? ⟨b', off' + k * 7 + 1, none⟩ = some (v1) ∧ W.cell? ⟨b', off' + k * 7 + 2, none⟩ = some (.int .i64 (paAt l k).st.q) ∧ W.cell? ⟨b', off' + k * 7 + 3, none⟩ = some (.int .i64 (paAt l k).st.d) ∧ W.cell? ⟨b', off' + k * 7 + 4, none⟩ = some (v4) ∧ W.cell? ⟨b', off' + k * 7 + 5, none⟩ = some (v5) ∧ W.cell? ⟨b', off' + k * 7 + 6, none⟩ = some (v6)) ((repeat' apply And.intro) <;> first | (go_keep; done) | (rw [hcA _ _ (by first | omega | (simp; omega) | simp [*])]; simp [*]; done))
    (first | (go_at_call 136; refine (eqPart_same _ _ (paAt l k) _ HW.out HD.out HG.out).mono ?_; rintro e w2 ⟨rfl, hb2⟩; obtain ⟨hcA, hfA⟩ := bcell hb2))
   clear hcA hfA
   go_wp2
   go_roundw
   case rel => exact ⟨k + 1, by omega, by go_num, HB.out.drew.trans (hb2.mono (by have := HB.out.size; simpa using this))⟩
   case measure => simp [intOf]; omega
  ·clear hB h h'
   go_wp2
   go_ret
   exact ⟨rfl, HB.out⟩
end Go.Proofs.YtnlhcdchmgfipaaGreat

/- Two kernels alike. -/
namespace Go.Proofs.YtnlhcdchmgfipaaGreat
open Go.RowKit
theorem hidKKe {p : Prop} (h : p) : Hid p := h
set_option maxRecDepth 100000 in
set_option maxHeartbeats 4000000 in
theorem eqKernel_same (x y : Value) (k : Kn) (w : World) (hs : SmallK k) (hx : IsKern w x k) (hy : IsKern w y k) :
  Calls Tryz.prog 17 #[x, y] w fun e w' => e = .returned (.bool true) ∧ Below w.heap.size w w' := by
 obtain ⟨vi, vh, vs, u6, u7, u8, u12, u13, rfl, hm, h6, h7, h8, h12, h13⟩ := hx
 obtain ⟨xvi, xvh, xvs, v6, v7, v8, v12, v13, rfl, jm, j6, j7, j8, j12, j13⟩ := hy
 have HS : Hid (SmallK k) := hs
 have HM : Hid (IsM w (.agg #[.int .i64 k.m.n, .int .i64 k.m.s, vi, vh, vs, .int .i64 k.m.z]) k.m ∧ IsM w (.agg #[.int .i64 k.m.n, .int .i64 k.m.s, xvi, xvh, xvs, .int .i64 k.m.z]) k.m) := ⟨hm, jm⟩
 have H6 : Hid (IsD w u6 (intsD k.d) ∧ IsD w v6 (intsD k.d)) := ⟨h6, j6⟩
 have H7 : Hid (IsD w u7 (partsD k.p) ∧ IsD w v7 (partsD k.p)) := ⟨h7, j7⟩
 have H8 : Hid (IsD w u8 (mailsD k.b) ∧ IsD w v8 (mailsD k.b)) := ⟨h8, j8⟩
 have H12 : Hid (IsD w u12 (evsD k.s) ∧ IsD w v12 (evsD k.s)) := ⟨h12, j12⟩
 have H13 : Hid (IsD w u13 (emsD k.x) ∧ IsD w v13 (emsD k.x)) := ⟨h13, j13⟩
 clear hs hm jm h6 j6 h7 j7 h8 j8 h12 j12 h13 j13
 obtain ⟨W0, hW0⟩ : ∃ W0, (w.alloc (.cells #[.int .i64 k.m.n, .int .i64 k.m.s, vi, vh, vs, .int .i64 k.m.z, u6, u7, u8, .int .i64 k.t, .int .i64 k.q, .bool k.f, u12, u13] 42)).alloc (.cells #[.int .i64 k.m.n, .int .i64 k.m.s, xvi, xvh, xvs, .int .i64 k.m.z, v6, v7, v8, .int .i64 k.t, .int .i64 k.q, .bool k.f, v12, v13] 42) = W0 := ⟨_, rfl⟩
 have HB0 : Hid (Below w.heap.size w W0) := by rw [← hW0]; exact ((Below.refl _ w).alloc (Nat.le_refl _) _).alloc (by simp) _
 have HP0 : Hid (Bk W0 w.heap.size 42 #[.int .i64 k.m.n, .int .i64 k.m.s, vi, vh, vs, .int .i64 k.m.z, u6, u7, u8, .int .i64 k.t, .int .i64 k.q, .bool k.f, u12, u13]) := by rw [← hW0]; exact (Bk.new w _ _).alloc _
 have HQ0 : Hid (Bk W0 (w.heap.size + 1) 42 #[.int .i64 k.m.n, .int .i64 k.m.s, xvi, xvh, xvs, .int .i64 k.m.z, v6, v7, v8, .int .i64 k.t, .int .i64 k.q, .bool k.f, v12, v13]) := by rw [← hW0]; exact Bk.newAt (by simp) _ _
 have HW := hidKKe hW0
 clear hW0
 go_enter Tryz.func17, Tryz.ntmps17
 have p0 := HP0.out.cell (i := 0) rfl
 have q0 := HQ0.out.cell (i := 0) rfl
 have p1 := HP0.out.cell (i := 1) rfl
 have q1 := HQ0.out.cell (i := 1) rfl
 have p2 := HP0.out.cell (i := 2) rfl
 have q2 := HQ0.out.cell (i := 2) rfl
 have p3 := HP0.out.cell (i := 3) rfl
 have q3 := HQ0.out.cell (i := 3) rfl
 have p4 := HP0.out.cell (i := 4) rfl
 have q4 := HQ0.out.cell (i := 4) rfl
 have p5 := HP0.out.cell (i := 5) rfl
 have q5 := HQ0.out.cell (i := 5) rfl
 go_wp2_with fail
 rw [HW.out]
 clear HW
 clear p0 q0 p1 q1 p2 q2 p3 q3 p4 q4 p5 q5
 refine (eqModel_same _ _ k.m _ HS.out.1 (HM.out.1.below HB0.out) (HM.out.2.below HB0.out)).mono ?_
 rintro e w1 ⟨rfl, hb⟩
 have HB1 := hidKKe (HB0.out.trans (hb.mono HB0.out.size))
 have HP1 := hidKKe (HP0.out.below hb)
 have HQ1 := hidKKe (HQ0.out.below hb)
 clear hb
 have p6 := HP1.out.cell (i := 6) rfl
 have q6 := HQ1.out.cell (i := 6) rfl
 go_wp2_with fail
 clear p6 q6
 refine (eq_ints _ _ k.d _ (by have := HS.out.2; unfold Kn.wt at this; simp only [ints_wt, evs_wt, ems_wt, mails_wt] at this; omega) (H6.out.1.under HB1.out) (H6.out.2.under HB1.out)).mono ?_
 rintro e w2 ⟨rfl, hb⟩
 have HB2 := hidKKe (HB1.out.trans (hb.mono HB1.out.size))
 have HP2 := hidKKe (HP1.out.below hb)
 have HQ2 := hidKKe (HQ1.out.below hb)
 clear hb
 have p7 := HP2.out.cell (i := 7) rfl
 have q7 := HQ2.out.cell (i := 7) rfl
 go_wp2_with fail
 clear p7 q7
 refine (eq_parts _ _ k.p _ (by have := HS.out.2; unfold Kn.wt at this; simp only [ints_wt, evs_wt, ems_wt, mails_wt] at this; omega) (H7.out.1.under HB2.out) (H7.out.2.under HB2.out)).mono ?_
 rintro e w3 ⟨rfl, hb⟩
 have HB3 := hidKKe (HB2.out.trans (hb.mono HB2.out.size))
 have HP3 := hidKKe (HP2.out.below hb)
 have HQ3 := hidKKe (HQ2.out.below hb)
 clear hb
 have p8 := HP3.out.cell (i := 8) rfl
 have q8 := HQ3.out.cell (i := 8) rfl
 go_wp2_with fail
 clear p8 q8
 refine (eq_mails _ _ k.b _ (by have := HS.out.2; unfold Kn.wt at this; simp only [ints_wt, evs_wt, ems_wt, mails_wt] at this; omega) (H8.out.1.under HB3.out) (H8.out.2.under HB3.out)).mono ?_
 rintro e w4 ⟨rfl, hb⟩
 have HB4 := hidKKe (HB3.out.trans (hb.mono HB3.out.size))
 have HP4 := hidKKe (HP3.out.below hb)
 have HQ4 := hidKKe (HQ3.out.below hb)
 clear hb
 have p12 := HP4.out.cell (i := 12) rfl
 have q12 := HQ4.out.cell (i := 12) rfl
 have p9 := HP4.out.cell (i := 9) rfl
 have q9 := HQ4.out.cell (i := 9) rfl
 have p10 := HP4.out.cell (i := 10) rfl
 have q10 := HQ4.out.cell (i := 10) rfl
 have p11 := HP4.out.cell (i := 11) rfl
 have q11 := HQ4.out.cell (i := 11) rfl
 have hff : (k.f != k.f) = false := by cases k.f <;> rfl
 go_wp2_with fail
 clear p12 q12 p9 q9 p10 q10 p11 q11
 refine (eq_evs _ _ k.s _ (by have := HS.out.2; unfold Kn.wt at this; simp only [ints_wt, evs_wt, ems_wt, mails_wt] at this; omega) (H12.out.1.under HB4.out) (H12.out.2.under HB4.out)).mono ?_
 rintro e w5 ⟨rfl, hb⟩
 have HB5 := hidKKe (HB4.out.trans (hb.mono HB4.out.size))
 have HP5 := hidKKe (HP4.out.below hb)
 have HQ5 := hidKKe (HQ4.out.below hb)
 clear hb
 have p13 := HP5.out.cell (i := 13) rfl
 have q13 := HQ5.out.cell (i := 13) rfl
 go_wp2_with fail
 clear p13 q13
 refine (eq_ems _ _ k.x _ (by have := HS.out.2; unfold Kn.wt at this; simp only [ints_wt, evs_wt, ems_wt, mails_wt] at this; omega) (H13.out.1.under HB5.out) (H13.out.2.under HB5.out)).mono ?_
 rintro e w6 ⟨rfl, hb⟩
 have HB6 := hidKKe (HB5.out.trans (hb.mono HB5.out.size))
 have HP6 := hidKKe (HP5.out.below hb)
 have HQ6 := hidKKe (HQ5.out.below hb)
 clear hb
 go_wp2
 go_ret
 exact ⟨rfl, HB6.out⟩
end Go.Proofs.YtnlhcdchmgfipaaGreat

