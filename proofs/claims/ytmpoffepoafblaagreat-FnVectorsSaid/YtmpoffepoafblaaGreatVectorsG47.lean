/- CSqI, CTry, NOpen -/
import Derived.Test.YtmpoffepoafblaaGreatVectorsLCSqG
import Derived.Test.YtmpoffepoafblaaGreatVectorsG08
import Derived.Test.YtmpoffepoafblaaGreatVectorsG04
import Derived.Test.YtmpoffepoafblaaGreatVectorsLVOpen
import Derived.ProofKit
import Derived.ChangeOld
import Derived.OpenShut
import Derived.SizedLaws
/- The program's Sequence, as a whole. -/
namespace Go.Proofs.YtmpoffepoafblaaGreat
open Go.RowKit
def seqB (m : Md) (l : List Int) (z : Int) : Bool := m.ok && (vok l && (decide (0 ≤ z) && decide (z ≤ m.z)))
def zeroH : Hi := ⟨[], [], 0, false⟩
def seqA (m : Md) (l : List Int) (z : Int) : Hi := if seqB m l z = true then seqR m l z else zeroH
theorem zero_hi (B : Nat) (w : World) : HiF (fun k => B ≤ k ∧ k < w.heap.size) w (.agg #[.slice none 0 0, .slice none 0 0, .int .i64 0, .bool false]) zeroH := hi_of (ev := []) (em := []) (OwnR.nil _ _) (World.ownsRow_nil _ _ _ 3)
theorem vec_some (l : List Int) : ∃ a b c d, vecOf l = vec a b c d := by
  cases hv : vok l with
  | false => exact ⟨0, 0, 0, 0, vec_no hv⟩
  | true =>
    obtain ⟨c0, c1, c2, c3, rfl, _⟩ := vec_of hv
    exact ⟨c0, c1, c2, c3, by simp [vecOf, hv, intAt]⟩
set_option maxRecDepth 100000 in
set_option maxHeartbeats 16000000 in
theorem iSeq (x d : Value) (m : Md) (l : List Int) (z : Int) (w : World) (hsm : SmallM m) (hl : l.length ≤ 1048576) (hm : IsM w x m) (hd : IsI w d l) : Calls Tryz.prog 15 #[x, d, .int .i64 z] w fun r w' => ∃ u, r = .returned (.tuple #[u, .bool (seqB m l z)]) ∧ Below w.heap.size w w' ∧ HiF (fun k => w.heap.size ≤ k ∧ k < w'.heap.size) w' u (seqA m l z) := by
  by_cases hno : seqB m l z = true
  · have hq := hno
    simp only [seqB, Bool.and_eq_true, decide_eq_true_eq] at hq
    obtain ⟨c0, c1, c2, c3, rfl, hvc⟩ := vec_of hq.2.1
    refine (iSeqG x d m c0 c1 c2 c3 z w hsm hm hd hq.1 hq.2.1 hvc hq.2.2.1 hq.2.2.2).mono ?_
    rintro r w' ⟨u, rfl, h1, h2⟩
    exact ⟨u, by rw [hno], h1, by rw [show seqA m [c0, c1, c2, c3] z = seqR m [c0, c1, c2, c3] z from by simp [seqA, hno]]; exact h2⟩
  have HM : Hid (IsM w x m) := hm
  have HD : Hid (IsI w d l) := hd
  have HSM : Hid (SmallM m) := hsm
  have HL : Hid (l.length ≤ 1048576) := hl
  have HNO : Hid (seqB m l z = false) := (by simpa using hno : seqB m l z = false)
  obtain ⟨vi, vh, vs, rfl, ⟨ai, ci, rfl, _⟩, ⟨ah, ch, rfl, _⟩, ⟨ae, ce, rfl, _⟩⟩ := hm
  clear hsm hd hl hno
  obtain ⟨W0, hW0⟩ : ∃ W0, (w.alloc (.cells #[.int .i64 m.n, .int .i64 m.s, .slice ai m.i.length ci, .slice ah m.h.length ch, .slice ae m.e.length ce, .int .i64 m.z] 36)).alloc (.cells #[.slice none 0 0, .slice none 0 0, .int .i64 0, .bool false] 31) = W0 := ⟨_, rfl⟩
  have HM0 : Hid (Bk W0 w.heap.size 36 #[.int .i64 m.n, .int .i64 m.s, .slice ai m.i.length ci, .slice ah m.h.length ch, .slice ae m.e.length ce, .int .i64 m.z]) := by rw [← hW0]; exact (Bk.new w _ _).alloc _
  have HR0 : Hid (Bk W0 (w.heap.size + 1) 31 #[.slice none 0 0, .slice none 0 0, .int .i64 0, .bool false]) := by rw [← hW0]; exact Bk.newAt (by simp) _ _
  have HB0 : Hid (Below w.heap.size w W0) := by rw [← hW0]; exact ((Below.refl _ w).alloc (Nat.le_refl _) _).alloc (by simp) _
  go_enter Tryz.func15, Tryz.ntmps15
  go_wp2_with fail
  clear hW0
  refine (of_any _ l _ (by have := HL.out; omega) (HD.out.below HB0.out)).mono ?_
  rintro r w1 ⟨rfl, hb⟩
  have HB1 : Hid (Below w.heap.size w w1) := HB0.out.trans (hb.mono HB0.out.size)
  have HM1 : Hid (Bk w1 w.heap.size 36 #[.int .i64 m.n, .int .i64 m.s, .slice ai m.i.length ci, .slice ah m.h.length ch, .slice ae m.e.length ce, .int .i64 m.z]) := HM0.out.below hb
  have HR1 : Hid (Bk w1 (w.heap.size + 1) 31 #[.slice none 0 0, .slice none 0 0, .int .i64 0, .bool false]) := HR0.out.below hb
  clear hb HB0 HM0 HR0
  obtain ⟨a0, a1, a2, a3, hvec⟩ := vec_some l
  rw [hvec]
  clear hvec
  obtain ⟨w2, hw2⟩ : ∃ W, w1.alloc (.cells #[i64 a0, i64 a1, i64 a2, i64 a3] 107) = W := ⟨_, rfl⟩
  have hb : Below w1.heap.size w1 w2 := by rw [← hw2]; exact (Below.refl _ _).alloc (Nat.le_refl _) _
  have HB2 : Hid (Below w.heap.size w w2) := HB1.out.trans (hb.mono HB1.out.size)
  have HM2 : Hid (Bk w2 w.heap.size 36 #[.int .i64 m.n, .int .i64 m.s, .slice ai m.i.length ci, .slice ah m.h.length ch, .slice ae m.e.length ce, .int .i64 m.z]) := HM1.out.below hb
  have HR2 : Hid (Bk w2 (w.heap.size + 1) 31 #[.slice none 0 0, .slice none 0 0, .int .i64 0, .bool false]) := HR1.out.below hb
  have HC2 : Hid (Bk w2 w1.heap.size 107 #[i64 a0, i64 a1, i64 a2, i64 a3]) := by rw [← hw2]; exact Bk.new _ _ _
  have HW2 : Hid (w1.alloc (.cells #[i64 a0, i64 a1, i64 a2, i64 a3] 107) = w2) := hw2
  clear hb HB1 HR1 hw2
  have HX1 : Hid (Bk (w1.alloc (.cells #[i64 a0, i64 a1, i64 a2, i64 a3] 107)) w.heap.size 36 #[.int .i64 m.n, .int .i64 m.s, .slice ai m.i.length ci, .slice ah m.h.length ch, .slice ae m.e.length ce, .int .i64 m.z]) := HM1.out.alloc _
  have p0 := HX1.out.cell (i := 0) rfl
  have p1 := HX1.out.cell (i := 1) rfl
  have p2 := HX1.out.cell (i := 2) rfl
  have p3 := HX1.out.cell (i := 3) rfl
  have p4 := HX1.out.cell (i := 4) rfl
  have p5 := HX1.out.cell (i := 5) rfl
  go_wp2_with fail
  clear p0 p1 p2 p3 p4 p5
  try rw [HW2.out]
  clear HW2 HX1 HM1
  refine (iModM _ m _ HSM.out (HM.out.below HB2.out)).mono ?_
  rintro r w3 ⟨rfl, hb⟩
  have HB3 : Hid (Below w.heap.size w w3) := HB2.out.trans (hb.mono HB2.out.size)
  have HM3 : Hid (Bk w3 w.heap.size 36 #[.int .i64 m.n, .int .i64 m.s, .slice ai m.i.length ci, .slice ah m.h.length ch, .slice ae m.e.length ce, .int .i64 m.z]) := HM2.out.below hb
  have HR3 : Hid (Bk w3 (w.heap.size + 1) 31 #[.slice none 0 0, .slice none 0 0, .int .i64 0, .bool false]) := HR2.out.below hb
  clear hb HB2 HM2 HR2 HC2
  cases hmo : m.ok with
  | false =>
    have k0 := HR3.out.cell (i := 0) rfl
    have k1 := HR3.out.cell (i := 1) rfl
    have k2 := HR3.out.cell (i := 2) rfl
    have k3 := HR3.out.cell (i := 3) rfl
    have rf := HR3.out.free
    go_wp2
    have hW := HR3.out.put4h (.slice none 0 0) (.slice none 0 0) (.int .i64 0) (.bool false)
    have hT := put4h_turns w3 (w.heap.size + 1) (.slice none 0 0) (.slice none 0 0) (.int .i64 0) (.bool false)
    have t0 := hW.cell (i := 0) rfl
    have t1 := hW.cell (i := 1) rfl
    have t2 := hW.cell (i := 2) rfl
    have t3 := hW.cell (i := 3) rfl
    have hno : seqB m l z = false := HNO.out
    refine bodyPost_ret (v := .tuple #[.agg #[.slice none 0 0, .slice none 0 0, .int .i64 0, .bool false], .bool false]) (by simp [results, Tryz.results15, go_sem, t0, t1, t2, t3]) rfl ⟨_, by rw [hno], HB3.out.trans (hT.to_below (fun k e => by omega) HB3.out.size), ?_⟩
    rw [show seqA m l z = zeroH from by simp [seqA, hno]]
    exact zero_hi _ _
  | true =>
    cases hvo : vok l with
    | false =>
      have k0 := HR3.out.cell (i := 0) rfl
      have k1 := HR3.out.cell (i := 1) rfl
      have k2 := HR3.out.cell (i := 2) rfl
      have k3 := HR3.out.cell (i := 3) rfl
      have rf := HR3.out.free
      go_wp2
      have hW := HR3.out.put4h (.slice none 0 0) (.slice none 0 0) (.int .i64 0) (.bool false)
      have hT := put4h_turns w3 (w.heap.size + 1) (.slice none 0 0) (.slice none 0 0) (.int .i64 0) (.bool false)
      have t0 := hW.cell (i := 0) rfl
      have t1 := hW.cell (i := 1) rfl
      have t2 := hW.cell (i := 2) rfl
      have t3 := hW.cell (i := 3) rfl
      have hno : seqB m l z = false := HNO.out
      refine bodyPost_ret (v := .tuple #[.agg #[.slice none 0 0, .slice none 0 0, .int .i64 0, .bool false], .bool false]) (by simp [results, Tryz.results15, go_sem, t0, t1, t2, t3]) rfl ⟨_, by rw [hno], HB3.out.trans (hT.to_below (fun k e => by omega) HB3.out.size), ?_⟩
      rw [show seqA m l z = zeroH from by simp [seqA, hno]]
      exact zero_hi _ _
    | true =>
      have p5 := HM3.out.cell (i := 5) rfl
      go_wp2_with fail
      refine (within_any z 0 m.z _).mono ?_
      rintro r w' ⟨rfl, hw⟩
      have hw' := hw.symm
      clear hw
      subst hw'
      have hbz : (decide (0 ≤ z) && decide (z ≤ m.z)) = false := by
        have h9 := HNO.out
        simpa only [seqB, hmo, hvo, Bool.true_and] using h9
      rw [hbz]
      have k0 := HR3.out.cell (i := 0) rfl
      have k1 := HR3.out.cell (i := 1) rfl
      have k2 := HR3.out.cell (i := 2) rfl
      have k3 := HR3.out.cell (i := 3) rfl
      have rf := HR3.out.free
      go_wp2
      have hW := HR3.out.put4h (.slice none 0 0) (.slice none 0 0) (.int .i64 0) (.bool false)
      have hT := put4h_turns w3 (w.heap.size + 1) (.slice none 0 0) (.slice none 0 0) (.int .i64 0) (.bool false)
      have t0 := hW.cell (i := 0) rfl
      have t1 := hW.cell (i := 1) rfl
      have t2 := hW.cell (i := 2) rfl
      have t3 := hW.cell (i := 3) rfl
      have hno : seqB m l z = false := HNO.out
      refine bodyPost_ret (v := .tuple #[.agg #[.slice none 0 0, .slice none 0 0, .int .i64 0, .bool false], .bool false]) (by simp [results, Tryz.results15, go_sem, t0, t1, t2, t3]) rfl ⟨_, by rw [hno], HB3.out.trans (hT.to_below (fun k e => by omega) HB3.out.size), ?_⟩
      rw [show seqA m l z = zeroH from by simp [seqA, hno]]
      exact zero_hi _ _
end Go.Proofs.YtmpoffepoafblaaGreat

/- The fixed trial of one model: models. -/
namespace Go.Proofs.YtmpoffepoafblaaGreat
open Go.RowKit
theorem HiF.form0 {F : Nat → Prop} {w : World} {x : Value} {h : Hi} (hh : HiF F w x h) : ∃ a c ax cx, x = .agg #[.slice a h.ev.length c, .slice ax h.em.length cx, .int .i64 h.k, .bool h.f] := by
  obtain ⟨A, C, ve, vx, rfl, ⟨_, a1, c1, rfl, _⟩, ⟨_, a2, c2, rfl, _⟩, _⟩ := hh
  exact ⟨a1, c1, a2, c2, rfl⟩
theorem ping_small : SmallM pingM := ⟨by decide, by decide, fun i => by (match i with | 0 => decide | i + 1 => simp [hAt, pingM]), by decide, by decide⟩
theorem ping_seq : seqB pingM [-1, -1, -1, -1] 5 = true ∧ (seqA pingM [-1, -1, -1, -1] 5).ev.length = 2 ∧ (seqA pingM [-1, -1, -1, -1] 5).em.length = 2 ∧ (seqA pingM [-1, -1, -1, -1] 5).k = 2 := by
  decide +kernel
theorem isI_new4 (w : World) (a b c d : Int) : IsI (w.alloc (.cells #[.int .i64 a, .int .i64 b, .int .i64 c, .int .i64 d] 3)) (.slice (some ⟨w.heap.size, 0, none⟩) 4 4) [a, b, c, d] := by
  have hb := Bk.new w 3 #[.int .i64 a, .int .i64 b, .int .i64 c, .int .i64 d]
  refine ⟨_, 4, rfl, Nat.le_refl _, by unfold maxLen; omega, .inr ⟨_, 0, rfl, hb.lt, fun i hi => ?_⟩⟩
  have h4 : i = 0 ∨ i = 1 ∨ i = 2 ∨ i = 3 := by simp at hi; omega
  rcases h4 with rfl | rfl | rfl | rfl <;> exact hb.cell rfl
set_option maxRecDepth 100000 in
set_option maxHeartbeats 4000000 in
theorem models_any (w : World) : Calls Tryz.prog 25 #[] w fun e w' => e = .returned (.bool true) ∧ Below w.heap.size w w' := by
  go_enter Tryz.func25, Tryz.ntmps25
  go_wp2_with fail
  refine (ping_any _).mono ?_
  rintro e w1 ⟨x, rfl, hM, hB⟩
  obtain ⟨vi, vh, vs, rfl, _⟩ := id hM
  have HM : Hid (IsM w1 (.agg #[.int .i64 pingM.n, .int .i64 pingM.s, vi, vh, vs, .int .i64 pingM.z]) pingM) := hM
  have HB : Hid (Below w.heap.size w w1) := hB
  clear hM hB
  go_wp2_with fail
  refine (iSeq _ _ pingM [-1, -1, -1, -1] 5 _ ping_small (by simp) (HM.out.below ((Below.refl _ w1).alloc (Nat.le_refl _) _)) (isI_new4 w1 _ _ _ _)).mono ?_
  rintro e w2 ⟨u, rfl, hb, hh⟩
  obtain ⟨a1, c1, a2, c2, rfl⟩ := hh.form0
  rw [ping_seq.1, ping_seq.2.1, ping_seq.2.2.1, ping_seq.2.2.2]
  have HB2 : Hid (Below w.heap.size w w2) := (HB.out.alloc HB.out.size _).trans (hb.mono (by have := HB.out.size; simp; omega))
  clear hb hh HB HM
  generalize (seqA pingM [-1, -1, -1, -1] 5).f = f
  go_wp2
  go_ret
  exact ⟨rfl, HB2.out.alloc HB2.out.size _⟩
end Go.Proofs.YtmpoffepoafblaaGreat

/- How a code that came in is read: bytes, of which there are no more than the form's own reach. -/
namespace Go.Proofs.YtmpoffepoafblaaGreat
open Go.ChangeShapes Go.WideShapes Go.ChangeAt Go.RowKit

theorem cells5 : Tryz.prog.cellsOf 5 = 1 := by kernel_rfl
theorem bytes5 : Tryz.prog.bytesOf 5 = 1 := by kernel_rfl
set_option maxRecDepth 100000 in
theorem open_code {H : Type} {enc : TypeId × Value → H} {w : World} {b0 : Nat} {spare : Nat → Bool} {held : Bool} {r : Reach} {v : Value} {d : DataW H} {p : List MemPlace}
    (hv : Value.okWide Tryz.prog w r b0 46 v) (h : DataW.Trod enc Tryz.prog w 0 spare held 46 v d p)
    (hs : ∀ elems spare, d = .slice elems spare → (elems.length + spare.length) * Tryz.prog.bytesOf 5 ≤ reachBytes) : ∃ a n cap, v = .slice a n cap ∧ n ≤ 140737488351232 ∧ CodeIn w w.heap.size a n := by
  obtain ⟨a0, len, cap, rfl⟩ := okWide_slice Tryz.underlying46 hv
  obtain ⟨fuel, hf⟩ := h
  rcases DataW.trod_slice Tryz.underlying46 hf with ⟨hcs, _⟩ | ⟨a, len', cap', elems, rest, n, _, hcs, hx, hb, hl, hm, hlen, hel, _, _⟩
  · simp [Value.cells] at hcs
    obtain ⟨rfl, rfl, rfl⟩ := hcs
    exact ⟨_, _, _, rfl, by omega, .inl rfl⟩
  · simp [Value.cells] at hcs
    obtain ⟨rfl, rfl, rfl⟩ := hcs
    have hd := hs _ _ (congrArg Prod.fst hx)
    rw [bytes5] at hd
    simp only [List.length_map] at hd
    have hr : reachBytes = 140737488351232 := rfl
    refine ⟨_, _, _, rfl, by omega, ?_⟩
    by_cases h0 : len = 0
    · exact .inl h0
    · obtain ⟨b, off, spot⟩ := a
      have hs : spot = none := by
        have h1 := hel 0 (by omega)
        rw [cells5, List.getElem?_eq_getElem (by omega)] at h1
        obtain ⟨cs, hc, ht⟩ := Option.bind_eq_some_iff.1 h1
        obtain ⟨t, rfl, _⟩ := DataW.trod_int Tryz.underlying5 ht
        have c0 := (World.cells?_some hc).2.2 0 (by omega)
        simpa [Addr.add] using World.cell?_spot c0
      subst hs
      have each : ∀ i, i < len → ∃ z : Nat, z < 256 ∧ w.cell? ⟨b, off + i, none⟩ = some (.int .u8 (z : Int)) ∧ b < w.heap.size := by
        intro i hi
        have h1 := hel i hi
        rw [cells5, List.getElem?_eq_getElem (by omega), add_plain] at h1
        obtain ⟨cs, hc, ht⟩ := Option.bind_eq_some_iff.1 h1
        obtain ⟨t, rfl, _, hw⟩ := DataW.trod_int Tryz.underlying5 ht
        have hblk : b < w.heap.size := World.cells?_block hc (by omega)
        obtain ⟨_, _, hcell⟩ := World.cells?_some hc
        have h2 := hcell 0 (by omega)
        simp only [add_plain] at h2
        have hmin : IntKind.u8.min = 0 := rfl
        have hmax : IntKind.u8.max = 255 := rfl
        simp only [Lit.wf, Bool.and_eq_true, decide_eq_true_eq] at hw
        refine ⟨t.toNat, by omega, ?_, hblk⟩
        rw [show ((t.toNat : Nat) : Int) = t from by omega]
        simpa using h2
      obtain ⟨_, _, _, hblk⟩ := each 0 (by omega)
      exact .inr ⟨b, off, rfl, hblk, fun i hi => by obtain ⟨z, h1, h2, _⟩ := each i hi; exact ⟨z, h1, h2⟩⟩
end Go.Proofs.YtmpoffepoafblaaGreat

