/- The fixed trial of one model: models. -/
import Derived.Test.YtbljfphdghfkfaaGreatDoorModelsCardG35
import Derived.Test.YtbljfphdghfkfaaGreatDoorModelsCardG40
namespace Go.Proofs.YtbljfphdghfkfaaGreatDoor
open Go.RowKit
theorem HiF.form0 {F : Nat → Prop} {w : World} {x : Value} {h : Hi} (hh : HiF F w x h) : ∃ a c ax cx, x = .agg #[.slice a h.ev.length c, .slice ax h.em.length cx, .int .i64 h.k, .bool h.f] := by
 obtain ⟨A, C, ve, vx, rfl, ⟨_, a1, c1, rfl, _⟩, ⟨_, a2, c2, rfl, _⟩, _⟩ := hh
 exact ⟨a1, c1, a2, c2, rfl⟩
theorem ping_small : SmallM pingM := ⟨by decide, by decide, fun i => by (match i with | 0 => decide | i + 1 => simp [hAt, pingM]), by decide, by decide⟩
theorem ping_seq : seqB pingM [-1, -1, -1, -1] 5 = true ∧ (seqA pingM [-1, -1, -1, -1] 5).ev.length = 2 ∧ (seqA pingM [-1, -1, -1, -1] 5).em.length = 2 ∧ (seqA pingM [-1, -1, -1, -1] 5).k = 2 := by
 decide +kernel
theorem isI_new4 (w : World) (a b c d : Int) : IsI (w.alloc (.cells #[.int .i64 a, .int .i64 b, .int .i64 c, .int .i64 d] 3)) (.slice (some ⟨w.heap.size, 0, none⟩) 4 4) [a, b, c, d] := by
 have hb := Bk.new w 3 #[.int .i64 a, .int .i64 b, .int .i64 c, .int .i64 d]
 refine ⟨_, 4, rfl, Nat.le_refl _, by unfold maxLen; omega, .inr ⟨_, 0, rfl, hb.lt, fun i hi => ?_⟩⟩
 have h4 : i = 0 ∨ i = 1 ∨ i = 2 ∨ i = 3 := by simp at hi; omega
 rcases h4 with rfl | rfl | rfl | rfl <;> exact hb.cell rfl
set_option maxRecDepth 100000 in
set_option maxHeartbeats 4000000 in
theorem models_any (w : World) : Calls Tryz.prog 15 #[] w fun e w' => e = .returned (.bool true) ∧ Below w.heap.size w w' := by
 go_enter Tryz.func15, Tryz.ntmps15
 go_wp2_with fail
 refine (ping_any _).mono ?_
 rintro e w1 ⟨x, rfl, hM, hB⟩
 obtain ⟨vi, vh, vs, rfl, _⟩ := id hM
 have HM : Hid (IsM w1 (.agg #[.int .i64 pingM.n, .int .i64 pingM.s, vi, vh, vs, .int .i64 pingM.z]) pingM) := hM
 have HB : Hid (Below w.heap.size w w1) := hB
 clear hM hB
 go_wp2_with fail
 refine (iSeq _ _ pingM [-1, -1, -1, -1] 5 _ ping_small (by simp) (HM.out.below ((Below.refl _ w1).alloc (Nat.le_refl _) _)) (isI_new4 w1 _ _ _ _)).mono ?_
 rintro e w2 ⟨u, rfl, hb, hh⟩
 obtain ⟨a1, c1, a2, c2, rfl⟩ := hh.form0
 rw [ping_seq.1, ping_seq.2.1, ping_seq.2.2.1, ping_seq.2.2.2]
 have HB2 : Hid (Below w.heap.size w w2) := (HB.out.alloc HB.out.size _).trans (hb.mono (by have := HB.out.size; simp; omega))
 clear hb hh HB HM
 generalize (seqA pingM [-1, -1, -1, -1] 5).f = f
 go_wp2
 go_ret
 exact ⟨rfl, HB2.out.alloc HB2.out.size _⟩
end Go.Proofs.YtbljfphdghfkfaaGreatDoor
