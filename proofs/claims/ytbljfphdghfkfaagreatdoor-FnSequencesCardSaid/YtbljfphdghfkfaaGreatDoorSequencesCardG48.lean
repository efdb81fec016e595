/- CPing, CTry, CmpS2 -/
import Derived.Test.YtbljfphdghfkfaaGreatDoorSequencesCardG00
import Derived.Test.YtbljfphdghfkfaaGreatDoorSequencesCardG01
import Derived.Test.YtbljfphdghfkfaaGreatDoorSequencesCardG43
import Derived.Test.YtbljfphdghfkfaaGreatDoorSequencesCardG36
/- The fixed trial of one model: ping. -/
namespace Go.Proofs.YtbljfphdghfkfaaGreatDoor
open Go.RowKit
def pingM : Md := ⟨1, 0, [0], [[⟨0, 0, 1, 0⟩, ⟨3, 0, 3, 1⟩, ⟨4, 2, 1, 0⟩, ⟨5, 1, 0, 0⟩, ⟨2, 0, 1, 0⟩]], [⟨0, -1, 0, 0, 0, 0, 0⟩], 5⟩
set_option maxRecDepth 100000 in
set_option maxHeartbeats 4000000 in
theorem ping_any (w : World) : Calls Tryz.prog 49 #[] w fun e w' => ∃ x, e = .returned x ∧ IsM w' x pingM ∧ Below w.heap.size w w' := by
 go_enter Tryz.func49, Tryz.ntmps49
 go_wp2
 obtain ⟨A0, hA0⟩ : ∃ A0, w.alloc (.cells #[.int .i64 1, .int .i64 0, .slice (some ⟨w.heap.size + 1 + 1, 0, none⟩) 1 1, .slice (some ⟨w.heap.size + 1 + 1 + 1, 0, none⟩) 1 1, .slice (some ⟨w.heap.size + 1 + 1 + 1 + 1, 0, none⟩) 1 1, .int .i64 5] 27) = A0 := ⟨_, rfl⟩
 have s0 : A0.heap.size = w.heap.size + 1 := by rw [← hA0]; simp
 have b0 : Bk A0 w.heap.size 27 #[.int .i64 1, .int .i64 0, .slice (some ⟨w.heap.size + 1 + 1, 0, none⟩) 1 1, .slice (some ⟨w.heap.size + 1 + 1 + 1, 0, none⟩) 1 1, .slice (some ⟨w.heap.size + 1 + 1 + 1 + 1, 0, none⟩) 1 1, .int .i64 5] := hA0 ▸ Bk.new w _ _
 have hB0 : Below w.heap.size w A0 := hA0 ▸ (Below.refl _ w).alloc (Nat.le_refl _) _
 rw [hA0]
 obtain ⟨A1, hA1⟩ : ∃ A1, A0.alloc (.cells #[.int .i64 0, .int .i64 0, .int .i64 1, .int .i64 0, .int .i64 3, .int .i64 0, .int .i64 3, .int .i64 1, .int .i64 4, .int .i64 2, .int .i64 1, .int .i64 0, .int .i64 5, .int .i64 1, .int .i64 0, .int .i64 0, .int .i64 2, .int .i64 0, .int .i64 1, .int .i64 0] 39) = A1 := ⟨_, rfl⟩
 have s1 : A1.heap.size = w.heap.size + 1 + 1 := by rw [← hA1]; simp [s0]
 have b1 : Bk A1 (w.heap.size + 1) 39 #[.int .i64 0, .int .i64 0, .int .i64 1, .int .i64 0, .int .i64 3, .int .i64 0, .int .i64 3, .int .i64 1, .int .i64 4, .int .i64 2, .int .i64 1, .int .i64 0, .int .i64 5, .int .i64 1, .int .i64 0, .int .i64 0, .int .i64 2, .int .i64 0, .int .i64 1, .int .i64 0] := hA1 ▸ Bk.newAt s0.symm _ _
 have hB1 : Below w.heap.size w A1 := hA1 ▸ hB0.alloc (by omega) _
 replace b0 := hA1 ▸ b0.alloc (.cells #[.int .i64 0, .int .i64 0, .int .i64 1, .int .i64 0, .int .i64 3, .int .i64 0, .int .i64 3, .int .i64 1, .int .i64 4, .int .i64 2, .int .i64 1, .int .i64 0, .int .i64 5, .int .i64 1, .int .i64 0, .int .i64 0, .int .i64 2, .int .i64 0, .int .i64 1, .int .i64 0] 39)
 rw [hA1]
 obtain ⟨A2, hA2⟩ : ∃ A2, A1.alloc (.cells #[.int .i64 0] 3) = A2 := ⟨_, rfl⟩
 have s2 : A2.heap.size = w.heap.size + 1 + 1 + 1 := by rw [← hA2]; simp [s1]
 have b2 : Bk A2 (w.heap.size + 1 + 1) 3 #[.int .i64 0] := hA2 ▸ Bk.newAt s1.symm _ _
 have hB2 : Below w.heap.size w A2 := hA2 ▸ hB1.alloc (by omega) _
 replace b0 := hA2 ▸ b0.alloc (.cells #[.int .i64 0] 3)
 replace b1 := hA2 ▸ b1.alloc (.cells #[.int .i64 0] 3)
 rw [hA2]
 obtain ⟨A3, hA3⟩ : ∃ A3, A2.alloc (.cells #[.slice (some ⟨w.heap.size + 1, 0, none⟩) 5 5] 37) = A3 := ⟨_, rfl⟩
 have s3 : A3.heap.size = w.heap.size + 1 + 1 + 1 + 1 := by rw [← hA3]; simp [s2]
 have b3 : Bk A3 (w.heap.size + 1 + 1 + 1) 37 #[.slice (some ⟨w.heap.size + 1, 0, none⟩) 5 5] := hA3 ▸ Bk.newAt s2.symm _ _
 have hB3 : Below w.heap.size w A3 := hA3 ▸ hB2.alloc (by omega) _
 replace b0 := hA3 ▸ b0.alloc (.cells #[.slice (some ⟨w.heap.size + 1, 0, none⟩) 5 5] 37)
 replace b1 := hA3 ▸ b1.alloc (.cells #[.slice (some ⟨w.heap.size + 1, 0, none⟩) 5 5] 37)
 replace b2 := hA3 ▸ b2.alloc (.cells #[.slice (some ⟨w.heap.size + 1, 0, none⟩) 5 5] 37)
 rw [hA3]
 obtain ⟨A4, hA4⟩ : ∃ A4, A3.alloc (.cells #[.int .i64 0, .int .i64 (-1), .int .i64 0, .int .i64 0, .int .i64 0, .int .i64 0, .int .i64 0] 53) = A4 := ⟨_, rfl⟩
 have b4 : Bk A4 (w.heap.size + 1 + 1 + 1 + 1) 53 #[.int .i64 0, .int .i64 (-1), .int .i64 0, .int .i64 0, .int .i64 0, .int .i64 0, .int .i64 0] := hA4 ▸ Bk.newAt s3.symm _ _
 have hB4 : Below w.heap.size w A4 := hA4 ▸ hB3.alloc (by omega) _
 replace b0 := hA4 ▸ b0.alloc (.cells #[.int .i64 0, .int .i64 (-1), .int .i64 0, .int .i64 0, .int .i64 0, .int .i64 0, .int .i64 0] 53)
 replace b1 := hA4 ▸ b1.alloc (.cells #[.int .i64 0, .int .i64 (-1), .int .i64 0, .int .i64 0, .int .i64 0, .int .i64 0, .int .i64 0] 53)
 replace b2 := hA4 ▸ b2.alloc (.cells #[.int .i64 0, .int .i64 (-1), .int .i64 0, .int .i64 0, .int .i64 0, .int .i64 0, .int .i64 0] 53)
 replace b3 := hA4 ▸ b3.alloc (.cells #[.int .i64 0, .int .i64 (-1), .int .i64 0, .int .i64 0, .int .i64 0, .int .i64 0, .int .i64 0] 53)
 rw [hA4]
 clear hA0 hA1 hA2 hA3 hA4 s0 s1 s2 s3 hB0 hB1 hB2 hB3
 have t0 := b0.cell (i := 0) rfl
 have t1 := b0.cell (i := 1) rfl
 have t2 := b0.cell (i := 2) rfl
 have t3 := b0.cell (i := 3) rfl
 have t4 := b0.cell (i := 4) rfl
 have t5 := b0.cell (i := 5) rfl
 refine bodyPost_ret (v := .agg #[.int .i64 1, .int .i64 0, .slice (some ⟨w.heap.size + 1 + 1, 0, none⟩) 1 1, .slice (some ⟨w.heap.size + 1 + 1 + 1, 0, none⟩) 1 1, .slice (some ⟨w.heap.size + 1 + 1 + 1 + 1, 0, none⟩) 1 1, .int .i64 5]) (by simp [results, Tryz.results49, go_sem, t0, t1, t2, t3, t4, t5]) rfl ⟨_, rfl, ⟨_, _, _, rfl, ?_, ?_, ?_⟩, hB4⟩
 ·refine ⟨_, 1, rfl, Nat.le_refl _, by unfold maxLen; omega, .inr ⟨_, 0, rfl, b2.lt, fun i hi => ?_⟩⟩
  obtain rfl : i = 0 := by simp [pingM] at hi; omega
  exact b2.cell rfl
 ·refine ⟨_, 1, rfl, Nat.le_refl _, by unfold maxLen; omega, .inr ⟨_, 0, rfl, b3.lt, fun i hi => ?_⟩⟩
  obtain rfl : i = 0 := by simp [pingM] at hi; omega
  refine ⟨_, b3.cell rfl, _, 5, rfl, Nat.le_refl _, by unfold maxLen; omega, .inr ⟨_, 0, rfl, b1.lt, fun j hj => ?_⟩⟩
  have h5 : j = 0 ∨ j = 1 ∨ j = 2 ∨ j = 3 ∨ j = 4 := by simp [pingM, hAt] at hj; omega
  rcases h5 with rfl | rfl | rfl | rfl | rfl <;> exact ⟨b1.cell rfl, b1.cell rfl, b1.cell rfl, b1.cell rfl⟩
 ·refine ⟨_, 1, rfl, Nat.le_refl _, by unfold maxLen; omega, .inr ⟨_, 0, rfl, b4.lt, fun i hi => ?_⟩⟩
  obtain rfl : i = 0 := by simp [pingM] at hi; omega
  exact ⟨b4.cell rfl, b4.cell rfl, b4.cell rfl, b4.cell rfl, b4.cell rfl, b4.cell rfl, b4.cell rfl⟩
end Go.Proofs.YtbljfphdghfkfaaGreatDoor

/- The fixed trial of one model: models. -/
namespace Go.Proofs.YtbljfphdghfkfaaGreatDoor
open Go.RowKit
theorem HiF.form0 {F : Nat → Prop} {w : World} {x : Value} {h : Hi} (hh : HiF F w x h) : ∃ a c ax cx, x = .agg #[.slice a h.ev.length c, .slice ax h.em.length cx, .int .i64 h.k, .bool h.f] := by
 obtain ⟨A, C, ve, vx, rfl, ⟨_, a1, c1, rfl, _⟩, ⟨_, a2, c2, rfl, _⟩, _⟩ := hh
 exact ⟨a1, c1, a2, c2, rfl⟩
theorem ping_small : SmallM pingM := ⟨by decide, by decide, fun i => by (match i with | 0 => decide | i + 1 => simp [hAt, pingM]), by decide, by decide⟩
theorem ping_seq : seqB pingM [-1, -1, -1, -1] 5 = true ∧ (seqA pingM [-1, -1, -1, -1] 5).ev.length = 2 ∧ (seqA pingM [-1, -1, -1, -1] 5).em.length = 2 ∧ (seqA pingM [-1, -1, -1, -1] 5).k = 2 := by
 decide +kernel
theorem isI_new4 (w : World) (a b c d : Int) : IsI (w.alloc (.cells #[.int .i64 a, .int .i64 b, .int .i64 c, .int .i64 d] 3)) (.slice (some ⟨w.heap.size, 0, none⟩) 4 4) [a, b, c, d] := by
 have hb := Bk.new w 3 #[.int .i64 a, .int .i64 b, .int .i64 c, .int .i64 d]
 refine ⟨_, 4, rfl, Nat.le_refl _, by unfold maxLen; omega, .inr ⟨_, 0, rfl, hb.lt, fun i hi => ?_⟩⟩
 have h4 : i = 0 ∨ i = 1 ∨ i = 2 ∨ i = 3 := by simp at hi; omega
 rcases h4 with rfl | rfl | rfl | rfl <;> exact hb.cell rfl
set_option maxRecDepth 100000 in
set_option maxHeartbeats 4000000 in
theorem models_any (w : World) : Calls Tryz.prog 15 #[] w fun e w' => e = .returned (.bool true) ∧ Below w.heap.size w w' := by
 go_enter Tryz.func15, Tryz.ntmps15
 go_wp2_with fail
 refine (ping_any _).mono ?_
 rintro e w1 ⟨x, rfl, hM, hB⟩
 obtain ⟨vi, vh, vs, rfl, _⟩ := id hM
 have HM : Hid (IsM w1 (.agg #[.int .i64 pingM.n, .int .i64 pingM.s, vi, vh, vs, .int .i64 pingM.z]) pingM) := hM
 have HB : Hid (Below w.heap.size w w1) := hB
 clear hM hB
 go_wp2_with fail
 refine (iSeq _ _ pingM [-1, -1, -1, -1] 5 _ ping_small (by simp) (HM.out.below ((Below.refl _ w1).alloc (Nat.le_refl _) _)) (isI_new4 w1 _ _ _ _)).mono ?_
 rintro e w2 ⟨u, rfl, hb, hh⟩
 obtain ⟨a1, c1, a2, c2, rfl⟩ := hh.form0
 rw [ping_seq.1, ping_seq.2.1, ping_seq.2.2.1, ping_seq.2.2.2]
 have HB2 : Hid (Below w.heap.size w w2) := (HB.out.alloc HB.out.size _).trans (hb.mono (by have := HB.out.size; simp; omega))
 clear hb hh HB HM
 generalize (seqA pingM [-1, -1, -1, -1] 5).f = f
 go_wp2
 go_ret
 exact ⟨rfl, HB2.out.alloc HB2.out.size _⟩
end Go.Proofs.YtbljfphdghfkfaaGreatDoor

/- The specification's EventCmp. -/
namespace Go.Proofs.YtbljfphdghfkfaaGreatDoor
open Go.RowKit
set_option maxHeartbeats 2000000 in
theorem sCmp_any (t s q d k v g t' s' q' d' k' v' g' : Int) (w : World) :
  Calls Tryz.prog 19 #[.agg #[.int .i64 t, .int .i64 s, .int .i64 q, .int .i64 d, .int .i64 k, .int .i64 v, .int .i64 g], .agg #[.int .i64 t', .int .i64 s', .int .i64 q', .int .i64 d', .int .i64 k', .int .i64 v', .int .i64 g']] w fun e w' =>
   e = .returned (.int .i64 (ecmp t s q d k v g t' s' q' d' k' v' g')) ∧ Below w.heap.size w w' := by
 cases h1 : okB t s q d k v g
 ·have H1 : Hid (okB t s q d k v g = false) := h1
  clear h1
  go_enter Tryz.func19, Tryz.ntmps19
  go_wp2_with fail
  refine (sOk_is t s q d k v g false H1.out _).mono ?_
  rintro e w1 ⟨rfl, hb1⟩
  go_wp2_with fail
  go_ret
  exact ⟨ret_int (by simp [ecmp, H1.out]), (((Below.refl _ _).alloc (Nat.le_refl _) _).alloc (by simp) _).trans (hb1.mono (by simp; omega))⟩
 ·have H1 : Hid (okB t s q d k v g = true) := h1
  clear h1
  cases h2 : okB t' s' q' d' k' v' g'
  ·have H2 : Hid (okB t' s' q' d' k' v' g' = false) := h2
   clear h2
   go_enter Tryz.func19, Tryz.ntmps19
   go_wp2_with fail
   refine (sOk_is t s q d k v g true H1.out _).mono ?_
   rintro e w1 ⟨rfl, hb1⟩
   obtain ⟨hc, hf⟩ := bcell hb1
   go_wp2_with fail
   refine (sOk_is t' s' q' d' k' v' g' false H2.out _).mono ?_
   rintro e w2 ⟨rfl, hb2⟩
   go_wp2_with fail
   go_ret
   exact ⟨ret_int (by simp [ecmp, H1.out, H2.out]), ((((Below.refl _ _).alloc (Nat.le_refl _) _).alloc (by simp) _).trans (hb1.mono (by simp; omega))).trans (hb2.mono (by have := hb1.size; simp at this; omega))⟩
  ·have H2 : Hid (okB t' s' q' d' k' v' g' = true) := h2
   clear h2
   go_enter Tryz.func19, Tryz.ntmps19
   go_wp2_with fail
   refine (sOk_is t s q d k v g true H1.out _).mono ?_
   rintro e w1 ⟨rfl, hb1⟩
   obtain ⟨hc, hf⟩ := bcell hb1
   go_wp2_with fail
   refine (sOk_is t' s' q' d' k' v' g' true H2.out _).mono ?_
   rintro e w2 ⟨rfl, hb2⟩
   have hz1 : w.heap.size + 1 < w1.heap.size := by have := hb1.size; simp at this; omega
   have hz2 : w.heap.size + 1 < w2.heap.size := by have := hb2.size; omega
   have a0 : EvAt w2 w.heap.size 0 t s q d k v g := (((EvAt.new w 53 t s q d k v g).alloc (by simp) _).below hb1 (by simp; omega)).below hb2 (by omega)
   have a1 : EvAt w2 (w.heap.size + 1) 0 t' s' q' d' k' v' g' := (((by simpa using EvAt.new (w.alloc _) 53 t' s' q' d' k' v' g') : EvAt _ (w.heap.size + 1) 0 t' s' q' d' k' v' g').below hb1 (by simp)).below hb2 (by omega)
   have hB : Below w.heap.size w w2 := ((((Below.refl _ _).alloc (Nat.le_refl _) _).alloc (by simp) _).trans (hb1.mono (by simp; omega))).trans (hb2.mono (by omega))
   clear hb1 hb2 hc hf
   obtain ⟨f0, f1, f2, f3, f4, f5, f6⟩ := a0.lits
   obtain ⟨e0, e1, e2, e3, e4, e5, e6⟩ := a1.lits
   clear a0 a1
   go_wp2_with fail
   refine (l1cmp_any t s q d k v g t' s' q' d' k' v' g' _).mono ?_
   rintro e w3 ⟨rfl, hb3⟩
   go_wp2_with fail
   go_ret
   exact ⟨ret_int (by simp [ecmp, H1.out, H2.out]), hB.trans (hb3.mono (by omega))⟩
end Go.Proofs.YtbljfphdghfkfaaGreatDoor

