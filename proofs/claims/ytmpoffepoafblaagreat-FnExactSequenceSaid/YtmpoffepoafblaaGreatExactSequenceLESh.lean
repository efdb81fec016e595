/- The specification's l3handle. -/
import Derived.Test.YtmpoffepoafblaaGreatExactSequenceG24
namespace Go.Proofs.YtmpoffepoafblaaGreat
open Go.RowKit
structure ShInv (B Q : Nat) (w0 wr : World) (sd : Int) (v : List Int) (e : Ev) (l : List O) (R : Res) (i : Nat) : Prop where
  ex : ∃ f t j g cap us ux, Eff B wr Q 54 [] t (-1) g cap us ux ∧ GoodT t j ∧ j ≤ i ∧ j ≤ 8 ∧ l.length ≤ i + f ∧ run sd v e l f i t = R
  b : Below B w0 wr
  n : i ≤ 17
theorem new_eff {w : World} {B g c : Nat} {a b q d : Int} (hB : B ≤ w.heap.size) (h : w.ownsRow B 3 1 (vReg g c) 2 [.int .i64 a, .int .i64 b]) :
    Eff B (w.alloc (.cells #[vReg g c, .int .i64 q, .int .i64 d, .slice none 0 0, .slice none 0 0, .int .i64 (-1)] 54)) w.heap.size 54 [] ⟨a, b, q, d, [], []⟩ (-1) g c (.slice none 0 0) (.slice none 0 0) :=
  ⟨hB, by decide, Bk.new w _ _, h.alloc _, World.ownsRow_nil _ _ _ _, World.ownsRow_nil _ _ _ _⟩
set_option maxRecDepth 100000 in
set_option maxHeartbeats 32000000 in
theorem sEff (x y d : Value) (m : Md) (c0 c1 c2 c3 : Int) (s : St) (e : Ev) (w : World) (hm : IsM w x m) (hd : IsI w d [c0, c1, c2, c3]) (hs : IsS w y s) (hf : Fit m c0 c1 c2 c3 s e) :
    Calls Tryz.prog 144 #[x, d, y, .agg #[.int .i64 e.t, .int .i64 e.s, .int .i64 e.q, .int .i64 e.d, .int .i64 e.k, .int .i64 e.v, .int .i64 e.g]] w fun r w' => ∃ u, r = .returned u ∧ Below w.heap.size w w' ∧ EfF (fun k => w.heap.size ≤ k ∧ k < w'.heap.size) w' u (effR m [c0, c1, c2, c3] s e) := by
  obtain ⟨h2, hgt⟩ := st_good hf.st
  obtain ⟨hs0, hs1, hn0, hn1, hh4, _, _⟩ := ok_seed hf.ok
  obtain ⟨ht0, ht1, hd0, hd1, hk0, hk3, hv0, hv1⟩ := ev_nums hf.ev
  obtain ⟨kk, hkk⟩ : ∃ kk : Nat, e.k = (kk : Int) := ⟨e.k.toNat, by omega⟩
  have hkl : kk < m.h.length := by have := hf.k; omega
  obtain ⟨hr8, hrok⟩ := ok_row hf.ok hkl
  have HSS : Hid (IsS w y s) := hs
  obtain ⟨vi, vh, vs, rfl, ⟨ai, ci, rfl, _⟩, ⟨ah, ch, rfl, hh1, hh2, hh3⟩, ⟨ae, ce, rfl, _⟩⟩ := hm
  obtain ⟨bh, offh, rfl, hbh, hch⟩ := hh3.resolve_left (by intro e; rw [e] at hkl; simp at hkl)
  obtain ⟨uh, f0, ⟨a1, cu, rfl, _, _, hu⟩⟩ := hch kk hkl
  obtain ⟨b2, off2, cap2, rfl, hb2, q0, q1⟩ := hs.two h2
  obtain ⟨ad, cd, rfl, _, _, hd⟩ := hd
  obtain ⟨bd, offd, rfl, hbd, hcd⟩ := hd.resolve_left (by simp)
  have HRUN : Hid (effR m [c0, c1, c2, c3] s e = resE s (run m.s [c0, c1, c2, c3] e (hAt m.h kk) (hAt m.h kk).length 0 (startT s))) := by unfold effR; rw [hkk]; rfl
  have HVC : Hid (∀ a : Int, -1 ≤ vecAt c0 c1 c2 c3 a ∧ vecAt c0 c1 c2 c3 a ≤ 1) := hf.vc
  generalize effR m [c0, c1, c2, c3] s e = EF at HRUN ⊢
  have HU : Hid (hAt m.h kk = [] ∨ ∃ b off, a1 = some ⟨b, off, none⟩ ∧ OsAt w b off (hAt m.h kk)) := hu
  have HOK : Hid (∀ i, i < (hAt m.h kk).length → (oAt (hAt m.h kk) i).ok m.n m.h.length = true) := hrok
  have HGT : Hid (GoodT (startT s) 0) := hgt
  have hkh : (kk : Int) < (m.h.length : Int) := by omega
  have HKK : Hid (e.k = (kk : Int)) := hkk
  have HF0 : Hid (w.cell? ⟨bh, offh + kk, none⟩ = some (.slice a1 (hAt m.h kk).length cu)) := f0
  have HCD : Hid (∀ a, a < 4 → w.cell? ⟨bd, offd + a, none⟩ = some (.int .i64 (intAt [c0, c1, c2, c3] a))) := hcd
  clear hu hrok hgt hf hs hh1 hh2 hh3 hch q0 q1 hkk f0 hd hcd
  obtain ⟨W0, hW0⟩ : ∃ W0, (((w.alloc (.cells #[.int .i64 m.n, .int .i64 m.s, .slice ai m.i.length ci, .slice (some ⟨bh, offh, none⟩) m.h.length ch, .slice ae m.e.length ce, .int .i64 m.z] 36)).alloc (.cells #[.slice (some ⟨b2, off2, none⟩) 2 cap2, .int .i64 s.q, .int .i64 s.d] 48)).alloc (.cells #[.int .i64 e.t, .int .i64 e.s, .int .i64 e.q, .int .i64 e.d, .int .i64 e.k, .int .i64 e.v, .int .i64 e.g] 50)).alloc (.cells #[.slice none 0 0, .int .i64 0, .int .i64 0, .slice none 0 0, .slice none 0 0, .int .i64 0] 54) = W0 := ⟨_, rfl⟩
  have HM0 : Hid (Bk W0 w.heap.size 36 #[.int .i64 m.n, .int .i64 m.s, .slice ai m.i.length ci, .slice (some ⟨bh, offh, none⟩) m.h.length ch, .slice ae m.e.length ce, .int .i64 m.z]) := by rw [← hW0]; exact (((Bk.new w _ _).alloc _).alloc _).alloc _
  have HS0 : Hid (Bk W0 (w.heap.size + 1) 48 #[.slice (some ⟨b2, off2, none⟩) 2 cap2, .int .i64 s.q, .int .i64 s.d]) := by rw [← hW0]; exact ((Bk.newAt (by simp) _ _).alloc _).alloc _
  have HV0 : Hid (Bk W0 (w.heap.size + 1 + 1) 50 #[.int .i64 e.t, .int .i64 e.s, .int .i64 e.q, .int .i64 e.d, .int .i64 e.k, .int .i64 e.v, .int .i64 e.g]) := by rw [← hW0]; exact (Bk.newAt (by simp) _ _).alloc _
  have HR0 : Hid (Bk W0 (w.heap.size + 1 + 1 + 1) 54 #[.slice none 0 0, .int .i64 0, .int .i64 0, .slice none 0 0, .slice none 0 0, .int .i64 0]) := by rw [← hW0]; exact Bk.newAt (by simp) _ _
  have HB0 : Hid (Below w.heap.size w W0) := by rw [← hW0]; exact ((((Below.refl _ w).alloc (Nat.le_refl _) _).alloc (by simp) _).alloc (by simp; omega) _).alloc (by simp; omega) _
  have hRl := HR0.out.lt
  have hz0 := HB0.out.size
  have k0 := HS0.out.cell (i := 0) rfl
  have k1 := HS0.out.cell (i := 1) rfl
  have k2 := HS0.out.cell (i := 2) rfl
  go_enter Tryz.func144, Tryz.ntmps144
  go_wp2_with fail
  clear hW0 k0 k1 k2
  refine (sOwn _ s _ (HSS.out.below HB0.out) h2).mono ?_
  rintro r w1 ⟨gS, cS, rfl, hown, hb1⟩
  have hz1 := hb1.size
  obtain ⟨w2, hw2⟩ : ∃ w2, w1.alloc (.cells #[vReg gS cS, .int .i64 s.q, .int .i64 s.d, .slice none 0 0, .slice none 0 0, .int .i64 (-1)] 54) = w2 := ⟨_, rfl⟩
  have HE2 : Hid (Eff W0.heap.size w2 w1.heap.size 54 [] (startT s) (-1) gS cS (.slice none 0 0) (.slice none 0 0)) := hw2 ▸ new_eff hz1 hown
  have HBW2 : Hid (Below W0.heap.size W0 w2) := hw2 ▸ hb1.alloc hz1 _
  have p3 : w2.cell? ⟨w.heap.size, 3, none⟩ = some (.slice (some ⟨bh, offh, none⟩) m.h.length ch) := (HBW2.out.cell (p := ⟨w.heap.size, 3, none⟩) (by show w.heap.size < W0.heap.size; omega)).trans (HM0.out.cell (i := 3) rfl)
  have v4 : w2.cell? ⟨w.heap.size + 1 + 1, 4, none⟩ = some (.int .i64 (kk : Int)) := by rw [← HKK.out]; exact (HBW2.out.cell (p := ⟨w.heap.size + 1 + 1, 4, none⟩) (by show w.heap.size + 1 + 1 < W0.heap.size; omega)).trans (HV0.out.cell (i := 4) rfl)
  have f1 : w2.cell? ⟨bh, offh + kk, none⟩ = some (.slice a1 (hAt m.h kk).length cu) := (HBW2.out.cell (p := ⟨bh, offh + kk, none⟩) (by show bh < W0.heap.size; omega)).trans ((HB0.out.cell (p := ⟨bh, offh + kk, none⟩) hbh).trans HF0.out)
  clear hown hb1
  go_wp2
  clear p3 v4 f1 hw2
  obtain ⟨RR, hRR⟩ : ∃ RR, run m.s [c0, c1, c2, c3] e (hAt m.h kk) (hAt m.h kk).length 0 (startT s) = RR := ⟨_, rfl⟩
  have HEF : Hid (EF = resE s RR) := by rw [← hRR]; exact HRUN.out
  have HRR : Hid (run m.s [c0, c1, c2, c3] e (hAt m.h kk) (hAt m.h kk).length 0 (startT s) = RR) := hRR
  clear hRR HRUN
  have HUl : Hid (∀ i, i < (hAt m.h kk).length → ∃ b off, a1 = some ⟨b, off, none⟩ ∧ b < w.heap.size ∧ OAt w b (off + i * 4) (oAt (hAt m.h kk) i)) := fun i hi => by
    obtain ⟨b, off, e1, h1⟩ := HU.out.resolve_left (by intro e1; rw [e1] at hi; simp at hi)
    exact ⟨b, off, e1, h1.1, h1.2 i hi⟩
  clear HU
  generalize hAt m.h kk = l at *
  go_loopw [11] (fun iv wr => ∃ i : Nat, iv = .int .i64 i ∧ ShInv W0.heap.size w1.heap.size W0 wr m.s [c0, c1, c2, c3] e l RR i) (fun iv _ => 20 - (intOf iv).toNat)
  case atStart => exact ⟨0, rfl, ⟨l.length, startT s, 0, gS, cS, _, _, HE2.out, HGT.out, Nat.le_refl _, by omega, by omega, HRR.out⟩, HBW2.out, by omega⟩
  case round =>
    clear HE2 HBW2 HGT HRR
    obtain ⟨i, rfl, hI⟩ := hrel
    obtain ⟨⟨f, t, j, g, cap, us, ux, hE, hg, hji, hj8, hf, hrun⟩, hB, hi17⟩ := hI
    have HE1 : Hid (Eff W0.heap.size wr w1.heap.size 54 [] t (-1) g cap us ux) := hE
    have HG1 : Hid (GoodT t j) := hg
    have HRN : Hid (run m.s [c0, c1, c2, c3] e l f i t = RR) := hrun
    have HB1 : Hid (Below W0.heap.size W0 wr) := hB
    have hzr := hB.size
    clear hE hg hrun hB
    by_cases hlt : i < l.length
    · obtain ⟨b, off, rfl, hb, ho⟩ := HUl.out i hlt
      obtain ⟨g0, g1', g2, g3⟩ := (ho.below HB0.out hb).below HB1.out (by omega : b < W0.heap.size)
      have hoo := HOK.out i hlt
      have HST : Hid (∀ R', run m.s [c0, c1, c2, c3] e l f i t = R' → ¬ waitsO [c0, c1, c2, c3] (oAt l i) → ∃ f', l.length ≤ i + 1 + passes (oAt l i) t + f' ∧ run m.s [c0, c1, c2, c3] e l f' (i + 1 + passes (oAt l i) t) (stepO m.s [c0, c1, c2, c3] e (oAt l i) t) = R') := fun R' h1 h2 => run_step hf hlt h2 h1
      have HAS : Hid (waitsO [c0, c1, c2, c3] (oAt l i) → RR = .asks (oAt l i).a) := fun h1 => HRN.out.symm.trans (run_asks hf hlt h1)
      have hil : (i : Int) < (l.length : Int) := by omega
      generalize oAt l i = o at g0 g1' g2 g3 hoo HST HAS
      obtain ⟨oc, oa, ob, ok⟩ := o
      dsimp only at g0 g1' g2 g3
      obtain ⟨W1, hW1⟩ : ∃ W1, wr.alloc (.cells #[.int .i64 oc, .int .i64 oa, .int .i64 ob, .int .i64 ok] 181) = W1 := ⟨_, rfl⟩
      have HE2 : Hid (Eff W0.heap.size W1 w1.heap.size 54 [] t (-1) g cap us ux) := hW1 ▸ HE1.out.alloc _
      have HB2 : Hid (Below W0.heap.size W0 W1) := hW1 ▸ HB1.out.alloc (HE1.out.le.1) _
      have HP2 : Hid (Bk W1 wr.heap.size 181 #[.int .i64 oc, .int .i64 oa, .int .i64 ob, .int .i64 ok]) := hW1 ▸ Bk.new wr _ _
      have hcod : okO m.n m.h.length oc oa ob ok = true := hoo
      simp only [okO, decide_eq_true_eq] at hcod
      have hoc : oc = 0 ∨ oc = 1 ∨ oc = 2 ∨ oc = 3 ∨ oc = 4 ∨ oc = 5 ∨ oc = 6 := by omega
      have HOO : Hid ((⟨oc, oa, ob, ok⟩ : O).ok m.n m.h.length = true) := hoo
      have HV2 : Hid (Bk W1 (w.heap.size + 1 + 1) 50 #[.int .i64 e.t, .int .i64 e.s, .int .i64 e.q, .int .i64 e.d, .int .i64 e.k, .int .i64 e.v, .int .i64 e.g]) := HV0.out.keep HB2.out (by omega)
      have HM2 : Hid (Bk W1 w.heap.size 36 #[.int .i64 m.n, .int .i64 m.s, .slice ai m.i.length ci, .slice (some ⟨bh, offh, none⟩) m.h.length ch, .slice ae m.e.length ce, .int .i64 m.z]) := HM0.out.keep HB2.out (by omega)
      have HS2 : Hid (Bk W1 (w.heap.size + 1) 48 #[.slice (some ⟨b2, off2, none⟩) 2 cap2, .int .i64 s.q, .int .i64 s.d]) := HS0.out.keep HB2.out (by omega)
      have HR2 : Hid (Bk W1 (w.heap.size + 1 + 1 + 1) 54 #[.slice none 0 0, .int .i64 0, .int .i64 0, .slice none 0 0, .slice none 0 0, .int .i64 0]) := HR0.out.keep HB2.out (by omega)
      have hP2l := HP2.out.lt
      have hQl := HE2.out.le.2
      obtain ⟨hgB, hgw⟩ := HE2.out.glo
      obtain ⟨_, hgw0⟩ := HE1.out.glo
      have hQw0 := HE1.out.le.2
      have hne := HE2.out.ne
      have c0' := HP2.out.cell (i := 0) rfl
      clear hoo HE1 HB1 ho
      rcases hoc with rfl | rfl | rfl | rfl | rfl | rfl | rfl
      · obtain ⟨q, rfl⟩ : ∃ q : Nat, oa = (q : Int) := ⟨(oa).toNat, by omega⟩
        have hq1 : q ≤ 1 := by omega
        have hq2 : (q : Int) < 2 := by omega
        obtain ⟨hr0, hr1⟩ := HG1.out.reg (q : Int)
        have rc := HE2.out.reg q hq1
        have rfz := HE2.out.free q
        have hmod : Int.tmod (t.reg q + ob) 1000 = (t.reg q + ob) % 1000 := Int.tmod_eq_emod_of_nonneg (by omega)
        have hwr : IntKind.i64.wrap (t.reg q + ob) = t.reg q + ob := by rw [IntKind.wrap_i64]; omega
        have HE3 : Hid (Eff W0.heap.size (W1.drew.setCell ⟨g, q, none⟩ (.int .i64 ((t.reg q + ob) % 1000))) w1.heap.size 54 [] (t.put q ((t.reg q + ob) % 1000)) (-1) g cap us ux) := HE2.out.drew.put q hq1 _
        have HB3 : Hid (Below W0.heap.size W0 (W1.drew.setCell ⟨g, q, none⟩ (.int .i64 ((t.reg q + ob) % 1000)))) := HB2.out.drew.setCell (p := ⟨g, q, none⟩) hgB _
        have HS0 : Hid (W1.drew.cell? ⟨wr.heap.size, 1, none⟩ = some (.int .i64 q) ∧ W1.drew.cell? ⟨wr.heap.size, 2, none⟩ = some (.int .i64 ob) ∧ W1.drew.cell? ⟨w1.heap.size, 0, none⟩ = some (vReg g cap)) := ⟨(HP2.out.drew).cell (i := 1) rfl, (HP2.out.drew).cell (i := 2) rfl, (HE2.out.drew.blk).cell (i := 0) rfl⟩
        have hoP : wr.heap.size ≠ g := by omega
        have hoV : (w.heap.size + 1 + 1) ≠ g := by omega
        have HS4 : Hid ((W1.drew.setCell ⟨g, q, none⟩ (.int .i64 ((t.reg q + ob) % 1000))).cell? ⟨wr.heap.size, 1, none⟩ = some (.int .i64 q) ∧ (W1.drew.setCell ⟨g, q, none⟩ (.int .i64 ((t.reg q + ob) % 1000))).cell? ⟨wr.heap.size, 2, none⟩ = some (.int .i64 ob) ∧ (W1.drew.setCell ⟨g, q, none⟩ (.int .i64 ((t.reg q + ob) % 1000))).cell? ⟨w1.heap.size, 0, none⟩ = some (vReg g cap)) := ⟨(HP2.out.drew.other q _ hoP).cell (i := 1) rfl, (HP2.out.drew.other q _ hoP).cell (i := 2) rfl, (HE2.out.drew.blk.other q _ hne).cell (i := 0) rfl⟩
        go_wp2
        clear hW1 g0 g1' g2 g3 c0'
        refine wp_region_held_drew (S := fun W => W.cell? ⟨wr.heap.size, 1, none⟩ = some (.int .i64 q) ∧ W.cell? ⟨wr.heap.size, 2, none⟩ = some (.int .i64 ob) ∧ W.cell? ⟨w1.heap.size, 0, none⟩ = some (vReg g cap)) (by kernel_rfl) HS0.out (fun hHeld => ?_)
        refine wpAnyH_take (i := 0) (oi := { dst := some 53, op := Op.fieldAddr 54 (Operand.tmp 9) 0, type := 0, pos := _, after := _, guard := none }) (v := .pointer (some ⟨w1.heap.size, 0, none⟩)) rfl (by kernel_rfl) (by kernel_rfl) (by kernel_rfl) (fun _ _ _ h => h) (Or.inl ⟨by rfl, ?_⟩) (by assumption) ?_
        · intro wX hSw
          try dsimp only at hSw
          go_simp
        try simp only [Act.put, List.setIfInBounds_toArray, List.set_cons_zero, List.set_cons_succ]
        refine wpAnyH_take (i := 1) (oi := { dst := some 54, op := Op.fieldAddr 48 (Operand.tmp 53) 0, type := 0, pos := _, after := _, guard := none }) (v := .pointer (some ⟨w1.heap.size, 0, none⟩)) rfl (by kernel_rfl) (by kernel_rfl) (by kernel_rfl) (fun _ _ _ h => h) (Or.inl ⟨by rfl, ?_⟩) (by assumption) ?_
        · intro wX hSw
          try dsimp only at hSw
          go_simp
        try simp only [Act.put, List.setIfInBounds_toArray, List.set_cons_zero, List.set_cons_succ]
        refine wpAnyH_take (i := 2) (oi := { dst := some 55, op := Op.load 22 (Operand.tmp 54), type := 22, pos := _, after := _, guard := none }) (v := vReg g cap) rfl (by kernel_rfl) (by kernel_rfl) (by kernel_rfl) (fun _ _ _ h => h) (Or.inl ⟨by rfl, ?_⟩) (by assumption) ?_
        · intro wX hSw
          try dsimp only at hSw
          go_simp
        try simp only [Act.put, List.setIfInBounds_toArray, List.set_cons_zero, List.set_cons_succ]
        refine wpAnyH_take (i := 3) (oi := { dst := some 56, op := Op.fieldAddr 181 (Operand.tmp 12) 1, type := 0, pos := _, after := _, guard := none }) (v := .pointer (some ⟨wr.heap.size, 1, none⟩)) rfl (by kernel_rfl) (by kernel_rfl) (by kernel_rfl) (fun _ _ _ h => h) (Or.inl ⟨by rfl, ?_⟩) (by assumption) ?_
        · intro wX hSw
          try dsimp only at hSw
          go_simp
        try simp only [Act.put, List.setIfInBounds_toArray, List.set_cons_zero, List.set_cons_succ]
        refine wpAnyH_take (i := 4) (oi := { dst := some 57, op := Op.load 3 (Operand.tmp 56), type := 3, pos := _, after := _, guard := none }) (v := .int .i64 q) rfl (by kernel_rfl) (by kernel_rfl) (by kernel_rfl) (fun _ _ _ h => h) (Or.inl ⟨by rfl, ?_⟩) (by assumption) ?_
        · intro wX hSw
          try dsimp only at hSw
          go_simp
        try simp only [Act.put, List.setIfInBounds_toArray, List.set_cons_zero, List.set_cons_succ]
        refine wpAnyH_take (i := 5) (oi := { dst := some 58, op := Op.fieldAddr 54 (Operand.tmp 9) 0, type := 0, pos := _, after := _, guard := none }) (v := .pointer (some ⟨w1.heap.size, 0, none⟩)) rfl (by kernel_rfl) (by kernel_rfl) (by kernel_rfl) (fun _ _ _ h => h) (Or.inl ⟨by rfl, ?_⟩) (by assumption) ?_
        · intro wX hSw
          try dsimp only at hSw
          go_simp
        try simp only [Act.put, List.setIfInBounds_toArray, List.set_cons_zero, List.set_cons_succ]
        refine wpAnyH_take (i := 6) (oi := { dst := some 59, op := Op.fieldAddr 48 (Operand.tmp 58) 0, type := 0, pos := _, after := _, guard := none }) (v := .pointer (some ⟨w1.heap.size, 0, none⟩)) rfl (by kernel_rfl) (by kernel_rfl) (by kernel_rfl) (fun _ _ _ h => h) (Or.inl ⟨by rfl, ?_⟩) (by assumption) ?_
        · intro wX hSw
          try dsimp only at hSw
          go_simp
        try simp only [Act.put, List.setIfInBounds_toArray, List.set_cons_zero, List.set_cons_succ]
        refine wpAnyH_take (i := 7) (oi := { dst := some 60, op := Op.load 22 (Operand.tmp 59), type := 22, pos := _, after := _, guard := none }) (v := vReg g cap) rfl (by kernel_rfl) (by kernel_rfl) (by kernel_rfl) (fun _ _ _ h => h) (Or.inl ⟨by rfl, ?_⟩) (by assumption) ?_
        · intro wX hSw
          try dsimp only at hSw
          go_simp
        try simp only [Act.put, List.setIfInBounds_toArray, List.set_cons_zero, List.set_cons_succ]
        refine wpAnyH_take (i := 8) (oi := { dst := some 61, op := Op.fieldAddr 181 (Operand.tmp 12) 1, type := 0, pos := _, after := _, guard := none }) (v := .pointer (some ⟨wr.heap.size, 1, none⟩)) rfl (by kernel_rfl) (by kernel_rfl) (by kernel_rfl) (fun _ _ _ h => h) (Or.inl ⟨by rfl, ?_⟩) (by assumption) ?_
        · intro wX hSw
          try dsimp only at hSw
          go_simp
        try simp only [Act.put, List.setIfInBounds_toArray, List.set_cons_zero, List.set_cons_succ]
        refine wpAnyH_take (i := 9) (oi := { dst := some 62, op := Op.load 3 (Operand.tmp 61), type := 3, pos := _, after := _, guard := none }) (v := .int .i64 q) rfl (by kernel_rfl) (by kernel_rfl) (by kernel_rfl) (fun _ _ _ h => h) (Or.inl ⟨by rfl, ?_⟩) (by assumption) ?_
        · intro wX hSw
          try dsimp only at hSw
          go_simp
        try simp only [Act.put, List.setIfInBounds_toArray, List.set_cons_zero, List.set_cons_succ]
        refine wpAnyH_take (i := 10) (oi := { dst := some 63, op := Op.indexAddr 22 (Operand.tmp 60) (Operand.tmp 62), type := 0, pos := _, after := _, guard := none }) (v := .pointer (some ⟨g, q, none⟩)) rfl (by kernel_rfl) (by kernel_rfl) (by kernel_rfl) (fun _ _ _ h => h) (Or.inl ⟨by rfl, ?_⟩) (by assumption) ?_
        · intro wX hSw
          try dsimp only at hSw
          go_simp
        try simp only [Act.put, List.setIfInBounds_toArray, List.set_cons_zero, List.set_cons_succ]
        refine wpAnyH_take (i := 12) (oi := { dst := some 65, op := Op.fieldAddr 181 (Operand.tmp 12) 2, type := 0, pos := _, after := _, guard := none }) (v := .pointer (some ⟨wr.heap.size, 2, none⟩)) rfl (by kernel_rfl) (by kernel_rfl) (by kernel_rfl) (fun _ _ _ h => h) (Or.inl ⟨by rfl, ?_⟩) (by assumption) ?_
        · intro wX hSw
          try dsimp only at hSw
          go_simp
        try simp only [Act.put, List.setIfInBounds_toArray, List.set_cons_zero, List.set_cons_succ]
        refine wpAnyH_take (i := 13) (oi := { dst := some 66, op := Op.load 3 (Operand.tmp 65), type := 3, pos := _, after := _, guard := none }) (v := .int .i64 ob) rfl (by kernel_rfl) (by kernel_rfl) (by kernel_rfl) (fun _ _ _ h => h) (Or.inl ⟨by rfl, ?_⟩) (by assumption) ?_
        · intro wX hSw
          try dsimp only at hSw
          go_simp
        try simp only [Act.put, List.setIfInBounds_toArray, List.set_cons_zero, List.set_cons_succ]
        refine wpAnyH_ready (rs := [11]) (by kernel_rfl) (by simp) ?_
        refine AllReadyH.cons (o := { dst := some 64, op := Op.load 3 (Operand.tmp 63), type := 3, pos := _, after := _, guard := none }) rfl (fun K hK => ?_) AllReadyH.nil
        go_simp
        refine hK.out _ _ HS0.out (fun hHeld => ?_)
        clear hK K
        try simp only [Act.put, List.setIfInBounds_toArray, List.set_cons_zero, List.set_cons_succ]
        refine wpAnyH_take (i := 14) (oi := { dst := some 67, op := Op.binOp BinOp.add 3 (Operand.tmp 64) (Operand.tmp 66) 3, type := 3, pos := _, after := _, guard := none }) (v := .int .i64 ((t.reg q) + ob)) rfl (by kernel_rfl) (by kernel_rfl) (by kernel_rfl) (fun _ _ _ h => h) (Or.inl ⟨by rfl, ?_⟩) (by assumption) ?_
        · intro wX hSw
          try dsimp only at hSw
          go_simp
        try simp only [Act.put, List.setIfInBounds_toArray, List.set_cons_zero, List.set_cons_succ]
        refine wpAnyH_take (i := 15) (oi := { dst := some 68, op := Op.binOp BinOp.rem 3 (Operand.tmp 67) (Operand.const (Value.int IntKind.i64 1000)) 3, type := 3, pos := _, after := _, guard := none }) (v := .int .i64 ((t.reg q + ob) % 1000)) rfl (by kernel_rfl) (by kernel_rfl) (by kernel_rfl) (fun _ _ _ h => h) (Or.inl ⟨by rfl, ?_⟩) (by assumption) ?_
        · intro wX hSw
          try dsimp only at hSw
          go_simp
        try simp only [Act.put, List.setIfInBounds_toArray, List.set_cons_zero, List.set_cons_succ]
        refine wpAnyH_take (i := 16) (oi := { dst := some 69, op := Op.indexAddr 22 (Operand.tmp 55) (Operand.tmp 57), type := 0, pos := _, after := _, guard := none }) (v := .pointer (some ⟨g, q, none⟩)) rfl (by kernel_rfl) (by kernel_rfl) (by kernel_rfl) (fun _ _ _ h => h) (Or.inl ⟨by rfl, ?_⟩) (by assumption) ?_
        · intro wX hSw
          try dsimp only at hSw
          go_simp
        try simp only [Act.put, List.setIfInBounds_toArray, List.set_cons_zero, List.set_cons_succ]
        refine wpAnyH_ready (rs := [17]) (by kernel_rfl) (by simp) ?_
        refine AllReadyH.cons (o := { dst := none, op := Op.store 3 (Operand.tmp 69) (Operand.tmp 68), type := 0, pos := _, after := _, guard := none }) rfl (fun K hK => ?_) AllReadyH.nil
        go_simp
        refine hK.out _ _ HS4.out (fun hHeld => ?_)
        clear hK K
        try simp only [Act.put, List.setIfInBounds_toArray, List.set_cons_zero, List.set_cons_succ]
        refine wpAnyH_done (by kernel_rfl) ?_ _
        clear HS0 HS4 rc rfz hHeld hmod hwr
        have hwn : ¬ waitsO [c0, c1, c2, c3] (⟨0, (q : Int), ob, ok⟩ : O) := (fun h => absurd h.1 (by show ¬ (0 : Int) = 4; decide))
        obtain ⟨f', hf', hr'⟩ := HST.out RR HRN.out hwn
        have hps : passes (⟨0, (q : Int), ob, ok⟩ : O) t = 0 := by simp [passes]
        have hgs : GoodT (stepO m.s [c0, c1, c2, c3] e (⟨0, (q : Int), ob, ok⟩ : O) t) (j + 1) := HG1.out.step HOO.out (fun h4 => absurd h4 (by show ¬ (0 : Int) = 4; decide))
        have hst : stepO m.s [c0, c1, c2, c3] e (⟨0, (q : Int), ob, ok⟩ : O) t = (t.put q ((t.reg q + ob) % 1000)) := by simp [stepO]
        rw [hps] at hf' hr'
        rw [hst] at hr' hgs
        have HI : Hid (ShInv W0.heap.size w1.heap.size W0 (W1.drew.setCell ⟨g, q, none⟩ (.int .i64 ((t.reg q + ob) % 1000))) m.s [c0, c1, c2, c3] e l RR (i + 1 + 0)) := ⟨⟨f', _, j + 1, g, cap, _, _, HE3.out, hgs, by omega, by omega, hf', hr'⟩, HB3.out, by omega⟩
        clear hf' hr' hgs hst hps
        go_wp2
        go_roundw
        case rel => exact ⟨i + 1 + 0, by go_num, HI.out⟩
        case measure => simp [intOf]; omega
      · obtain ⟨q, rfl⟩ : ∃ q : Nat, oa = (q : Int) := ⟨(oa).toNat, by omega⟩
        have hq1 : q ≤ 1 := by omega
        have hq2 : (q : Int) < 2 := by omega
        obtain ⟨hr0, hr1⟩ := HG1.out.reg (q : Int)
        have rc := HE2.out.reg q hq1
        have rfz := HE2.out.free q
        have hmod : Int.tmod (t.reg q + e.v) 1000 = (t.reg q + e.v) % 1000 := Int.tmod_eq_emod_of_nonneg (by omega)
        have hwr : IntKind.i64.wrap (t.reg q + e.v) = t.reg q + e.v := by rw [IntKind.wrap_i64]; omega
        have HE3 : Hid (Eff W0.heap.size (W1.drew.setCell ⟨g, q, none⟩ (.int .i64 ((t.reg q + e.v) % 1000))) w1.heap.size 54 [] (t.put q ((t.reg q + e.v) % 1000)) (-1) g cap us ux) := HE2.out.drew.put q hq1 _
        have HB3 : Hid (Below W0.heap.size W0 (W1.drew.setCell ⟨g, q, none⟩ (.int .i64 ((t.reg q + e.v) % 1000)))) := HB2.out.drew.setCell (p := ⟨g, q, none⟩) hgB _
        have HS0 : Hid (W1.drew.cell? ⟨wr.heap.size, 1, none⟩ = some (.int .i64 q) ∧ W1.drew.cell? ⟨wr.heap.size, 2, none⟩ = some (.int .i64 ob) ∧ W1.drew.cell? ⟨w1.heap.size, 0, none⟩ = some (vReg g cap) ∧ W1.drew.cell? ⟨w.heap.size + 1 + 1, 5, none⟩ = some (.int .i64 e.v)) := ⟨(HP2.out.drew).cell (i := 1) rfl, (HP2.out.drew).cell (i := 2) rfl, (HE2.out.drew.blk).cell (i := 0) rfl, (HV2.out.drew).cell (i := 5) rfl⟩
        have hoP : wr.heap.size ≠ g := by omega
        have hoV : (w.heap.size + 1 + 1) ≠ g := by omega
        have HS4 : Hid ((W1.drew.setCell ⟨g, q, none⟩ (.int .i64 ((t.reg q + e.v) % 1000))).cell? ⟨wr.heap.size, 1, none⟩ = some (.int .i64 q) ∧ (W1.drew.setCell ⟨g, q, none⟩ (.int .i64 ((t.reg q + e.v) % 1000))).cell? ⟨wr.heap.size, 2, none⟩ = some (.int .i64 ob) ∧ (W1.drew.setCell ⟨g, q, none⟩ (.int .i64 ((t.reg q + e.v) % 1000))).cell? ⟨w1.heap.size, 0, none⟩ = some (vReg g cap) ∧ (W1.drew.setCell ⟨g, q, none⟩ (.int .i64 ((t.reg q + e.v) % 1000))).cell? ⟨w.heap.size + 1 + 1, 5, none⟩ = some (.int .i64 e.v)) := ⟨(HP2.out.drew.other q _ hoP).cell (i := 1) rfl, (HP2.out.drew.other q _ hoP).cell (i := 2) rfl, (HE2.out.drew.blk.other q _ hne).cell (i := 0) rfl, (HV2.out.drew.other q _ hoV).cell (i := 5) rfl⟩
        go_wp2
        clear hW1 g0 g1' g2 g3 c0'
        refine wp_region_held_drew (S := fun W => W.cell? ⟨wr.heap.size, 1, none⟩ = some (.int .i64 q) ∧ W.cell? ⟨wr.heap.size, 2, none⟩ = some (.int .i64 ob) ∧ W.cell? ⟨w1.heap.size, 0, none⟩ = some (vReg g cap) ∧ W.cell? ⟨w.heap.size + 1 + 1, 5, none⟩ = some (.int .i64 e.v)) (by kernel_rfl) HS0.out (fun hHeld => ?_)
        refine wpAnyH_take (i := 0) (oi := { dst := some 72, op := Op.fieldAddr 54 (Operand.tmp 9) 0, type := 0, pos := _, after := _, guard := none }) (v := .pointer (some ⟨w1.heap.size, 0, none⟩)) rfl (by kernel_rfl) (by kernel_rfl) (by kernel_rfl) (fun _ _ _ h => h) (Or.inl ⟨by rfl, ?_⟩) (by assumption) ?_
        · intro wX hSw
          try dsimp only at hSw
          go_simp
        try simp only [Act.put, List.setIfInBounds_toArray, List.set_cons_zero, List.set_cons_succ]
        refine wpAnyH_take (i := 1) (oi := { dst := some 73, op := Op.fieldAddr 48 (Operand.tmp 72) 0, type := 0, pos := _, after := _, guard := none }) (v := .pointer (some ⟨w1.heap.size, 0, none⟩)) rfl (by kernel_rfl) (by kernel_rfl) (by kernel_rfl) (fun _ _ _ h => h) (Or.inl ⟨by rfl, ?_⟩) (by assumption) ?_
        · intro wX hSw
          try dsimp only at hSw
          go_simp
        try simp only [Act.put, List.setIfInBounds_toArray, List.set_cons_zero, List.set_cons_succ]
        refine wpAnyH_take (i := 2) (oi := { dst := some 74, op := Op.load 22 (Operand.tmp 73), type := 22, pos := _, after := _, guard := none }) (v := vReg g cap) rfl (by kernel_rfl) (by kernel_rfl) (by kernel_rfl) (fun _ _ _ h => h) (Or.inl ⟨by rfl, ?_⟩) (by assumption) ?_
        · intro wX hSw
          try dsimp only at hSw
          go_simp
        try simp only [Act.put, List.setIfInBounds_toArray, List.set_cons_zero, List.set_cons_succ]
        refine wpAnyH_take (i := 3) (oi := { dst := some 75, op := Op.fieldAddr 181 (Operand.tmp 12) 1, type := 0, pos := _, after := _, guard := none }) (v := .pointer (some ⟨wr.heap.size, 1, none⟩)) rfl (by kernel_rfl) (by kernel_rfl) (by kernel_rfl) (fun _ _ _ h => h) (Or.inl ⟨by rfl, ?_⟩) (by assumption) ?_
        · intro wX hSw
          try dsimp only at hSw
          go_simp
        try simp only [Act.put, List.setIfInBounds_toArray, List.set_cons_zero, List.set_cons_succ]
        refine wpAnyH_take (i := 4) (oi := { dst := some 76, op := Op.load 3 (Operand.tmp 75), type := 3, pos := _, after := _, guard := none }) (v := .int .i64 q) rfl (by kernel_rfl) (by kernel_rfl) (by kernel_rfl) (fun _ _ _ h => h) (Or.inl ⟨by rfl, ?_⟩) (by assumption) ?_
        · intro wX hSw
          try dsimp only at hSw
          go_simp
        try simp only [Act.put, List.setIfInBounds_toArray, List.set_cons_zero, List.set_cons_succ]
        refine wpAnyH_take (i := 5) (oi := { dst := some 77, op := Op.fieldAddr 54 (Operand.tmp 9) 0, type := 0, pos := _, after := _, guard := none }) (v := .pointer (some ⟨w1.heap.size, 0, none⟩)) rfl (by kernel_rfl) (by kernel_rfl) (by kernel_rfl) (fun _ _ _ h => h) (Or.inl ⟨by rfl, ?_⟩) (by assumption) ?_
        · intro wX hSw
          try dsimp only at hSw
          go_simp
        try simp only [Act.put, List.setIfInBounds_toArray, List.set_cons_zero, List.set_cons_succ]
        refine wpAnyH_take (i := 6) (oi := { dst := some 78, op := Op.fieldAddr 48 (Operand.tmp 77) 0, type := 0, pos := _, after := _, guard := none }) (v := .pointer (some ⟨w1.heap.size, 0, none⟩)) rfl (by kernel_rfl) (by kernel_rfl) (by kernel_rfl) (fun _ _ _ h => h) (Or.inl ⟨by rfl, ?_⟩) (by assumption) ?_
        · intro wX hSw
          try dsimp only at hSw
          go_simp
        try simp only [Act.put, List.setIfInBounds_toArray, List.set_cons_zero, List.set_cons_succ]
        refine wpAnyH_take (i := 7) (oi := { dst := some 79, op := Op.load 22 (Operand.tmp 78), type := 22, pos := _, after := _, guard := none }) (v := vReg g cap) rfl (by kernel_rfl) (by kernel_rfl) (by kernel_rfl) (fun _ _ _ h => h) (Or.inl ⟨by rfl, ?_⟩) (by assumption) ?_
        · intro wX hSw
          try dsimp only at hSw
          go_simp
        try simp only [Act.put, List.setIfInBounds_toArray, List.set_cons_zero, List.set_cons_succ]
        refine wpAnyH_take (i := 8) (oi := { dst := some 80, op := Op.fieldAddr 181 (Operand.tmp 12) 1, type := 0, pos := _, after := _, guard := none }) (v := .pointer (some ⟨wr.heap.size, 1, none⟩)) rfl (by kernel_rfl) (by kernel_rfl) (by kernel_rfl) (fun _ _ _ h => h) (Or.inl ⟨by rfl, ?_⟩) (by assumption) ?_
        · intro wX hSw
          try dsimp only at hSw
          go_simp
        try simp only [Act.put, List.setIfInBounds_toArray, List.set_cons_zero, List.set_cons_succ]
        refine wpAnyH_take (i := 9) (oi := { dst := some 81, op := Op.load 3 (Operand.tmp 80), type := 3, pos := _, after := _, guard := none }) (v := .int .i64 q) rfl (by kernel_rfl) (by kernel_rfl) (by kernel_rfl) (fun _ _ _ h => h) (Or.inl ⟨by rfl, ?_⟩) (by assumption) ?_
        · intro wX hSw
          try dsimp only at hSw
          go_simp
        try simp only [Act.put, List.setIfInBounds_toArray, List.set_cons_zero, List.set_cons_succ]
        refine wpAnyH_take (i := 10) (oi := { dst := some 82, op := Op.indexAddr 22 (Operand.tmp 79) (Operand.tmp 81), type := 0, pos := _, after := _, guard := none }) (v := .pointer (some ⟨g, q, none⟩)) rfl (by kernel_rfl) (by kernel_rfl) (by kernel_rfl) (fun _ _ _ h => h) (Or.inl ⟨by rfl, ?_⟩) (by assumption) ?_
        · intro wX hSw
          try dsimp only at hSw
          go_simp
        try simp only [Act.put, List.setIfInBounds_toArray, List.set_cons_zero, List.set_cons_succ]
        refine wpAnyH_take (i := 12) (oi := { dst := some 84, op := Op.fieldAddr 50 (Operand.tmp 7) 5, type := 0, pos := _, after := _, guard := none }) (v := .pointer (some ⟨w.heap.size + 1 + 1, 5, none⟩)) rfl (by kernel_rfl) (by kernel_rfl) (by kernel_rfl) (fun _ _ _ h => h) (Or.inl ⟨by rfl, ?_⟩) (by assumption) ?_
        · intro wX hSw
          try dsimp only at hSw
          go_simp
        try simp only [Act.put, List.setIfInBounds_toArray, List.set_cons_zero, List.set_cons_succ]
        refine wpAnyH_take (i := 13) (oi := { dst := some 85, op := Op.load 3 (Operand.tmp 84), type := 3, pos := _, after := _, guard := none }) (v := .int .i64 e.v) rfl (by kernel_rfl) (by kernel_rfl) (by kernel_rfl) (fun _ _ _ h => h) (Or.inl ⟨by rfl, ?_⟩) (by assumption) ?_
        · intro wX hSw
          try dsimp only at hSw
          go_simp
        try simp only [Act.put, List.setIfInBounds_toArray, List.set_cons_zero, List.set_cons_succ]
        refine wpAnyH_ready (rs := [11]) (by kernel_rfl) (by simp) ?_
        refine AllReadyH.cons (o := { dst := some 83, op := Op.load 3 (Operand.tmp 82), type := 3, pos := _, after := _, guard := none }) rfl (fun K hK => ?_) AllReadyH.nil
        go_simp
        refine hK.out _ _ HS0.out (fun hHeld => ?_)
        clear hK K
        try simp only [Act.put, List.setIfInBounds_toArray, List.set_cons_zero, List.set_cons_succ]
        refine wpAnyH_take (i := 14) (oi := { dst := some 86, op := Op.binOp BinOp.add 3 (Operand.tmp 83) (Operand.tmp 85) 3, type := 3, pos := _, after := _, guard := none }) (v := .int .i64 ((t.reg q) + e.v)) rfl (by kernel_rfl) (by kernel_rfl) (by kernel_rfl) (fun _ _ _ h => h) (Or.inl ⟨by rfl, ?_⟩) (by assumption) ?_
        · intro wX hSw
          try dsimp only at hSw
          go_simp
        try simp only [Act.put, List.setIfInBounds_toArray, List.set_cons_zero, List.set_cons_succ]
        refine wpAnyH_take (i := 15) (oi := { dst := some 87, op := Op.binOp BinOp.rem 3 (Operand.tmp 86) (Operand.const (Value.int IntKind.i64 1000)) 3, type := 3, pos := _, after := _, guard := none }) (v := .int .i64 ((t.reg q + e.v) % 1000)) rfl (by kernel_rfl) (by kernel_rfl) (by kernel_rfl) (fun _ _ _ h => h) (Or.inl ⟨by rfl, ?_⟩) (by assumption) ?_
        · intro wX hSw
          try dsimp only at hSw
          go_simp
        try simp only [Act.put, List.setIfInBounds_toArray, List.set_cons_zero, List.set_cons_succ]
        refine wpAnyH_take (i := 16) (oi := { dst := some 88, op := Op.indexAddr 22 (Operand.tmp 74) (Operand.tmp 76), type := 0, pos := _, after := _, guard := none }) (v := .pointer (some ⟨g, q, none⟩)) rfl (by kernel_rfl) (by kernel_rfl) (by kernel_rfl) (fun _ _ _ h => h) (Or.inl ⟨by rfl, ?_⟩) (by assumption) ?_
        · intro wX hSw
          try dsimp only at hSw
          go_simp
        try simp only [Act.put, List.setIfInBounds_toArray, List.set_cons_zero, List.set_cons_succ]
        refine wpAnyH_ready (rs := [17]) (by kernel_rfl) (by simp) ?_
        refine AllReadyH.cons (o := { dst := none, op := Op.store 3 (Operand.tmp 88) (Operand.tmp 87), type := 0, pos := _, after := _, guard := none }) rfl (fun K hK => ?_) AllReadyH.nil
        go_simp
        refine hK.out _ _ HS4.out (fun hHeld => ?_)
        clear hK K
        try simp only [Act.put, List.setIfInBounds_toArray, List.set_cons_zero, List.set_cons_succ]
        refine wpAnyH_done (by kernel_rfl) ?_ _
        clear HS0 HS4 rc rfz hHeld hmod hwr
        have hwn : ¬ waitsO [c0, c1, c2, c3] (⟨1, (q : Int), ob, ok⟩ : O) := (fun h => absurd h.1 (by show ¬ (1 : Int) = 4; decide))
        obtain ⟨f', hf', hr'⟩ := HST.out RR HRN.out hwn
        have hps : passes (⟨1, (q : Int), ob, ok⟩ : O) t = 0 := by simp [passes]
        have hgs : GoodT (stepO m.s [c0, c1, c2, c3] e (⟨1, (q : Int), ob, ok⟩ : O) t) (j + 1) := HG1.out.step HOO.out (fun h4 => absurd h4 (by show ¬ (1 : Int) = 4; decide))
        have hst : stepO m.s [c0, c1, c2, c3] e (⟨1, (q : Int), ob, ok⟩ : O) t = (t.put q ((t.reg q + e.v) % 1000)) := by simp [stepO]
        rw [hps] at hf' hr'
        rw [hst] at hr' hgs
        have HI : Hid (ShInv W0.heap.size w1.heap.size W0 (W1.drew.setCell ⟨g, q, none⟩ (.int .i64 ((t.reg q + e.v) % 1000))) m.s [c0, c1, c2, c3] e l RR (i + 1 + 0)) := ⟨⟨f', _, j + 1, g, cap, _, _, HE3.out, hgs, by omega, by omega, hf', hr'⟩, HB3.out, by omega⟩
        clear hf' hr' hgs hst hps
        go_wp2
        go_roundw
        case rel => exact ⟨i + 1 + 0, by go_num, HI.out⟩
        case measure => simp [intOf]; omega
      · have hS : W1.cell? ⟨w1.heap.size, 3, none⟩ = some us := HE2.out.blk.cell (i := 3) rfl
        have hlen : t.s.length ≤ 8 := by have := HG1.out.s1; omega
        have HS0 : Hid (W1.drew.cell? ⟨wr.heap.size, 1, none⟩ = some (.int .i64 oa) ∧ W1.drew.cell? ⟨wr.heap.size, 2, none⟩ = some (.int .i64 ob) ∧ W1.drew.cell? ⟨wr.heap.size, 3, none⟩ = some (.int .i64 ok) ∧ W1.drew.cell? ⟨w.heap.size + 1 + 1, 0, none⟩ = some (.int .i64 e.t) ∧ W1.drew.cell? ⟨w.heap.size + 1 + 1, 3, none⟩ = some (.int .i64 e.d) ∧ W1.drew.cell? ⟨w1.heap.size, 0, none⟩ = some (vReg g cap) ∧ W1.drew.cell? ⟨w1.heap.size, 1, none⟩ = some (.int .i64 t.q) ∧ W1.drew.cell? ⟨g, 0, none⟩ = some (.int .i64 t.a)) := ⟨(HP2.out.drew).cell (i := 1) rfl, (HP2.out.drew).cell (i := 2) rfl, (HP2.out.drew).cell (i := 3) rfl, (HV2.out.drew).cell (i := 0) rfl, (HV2.out.drew).cell (i := 3) rfl, (HE2.out.drew).blk.cell (i := 0) rfl, (HE2.out.drew).blk.cell (i := 1) rfl, (HE2.out.drew).reg0⟩
        have HS1 : Hid ((W1.drew.alloc (.cells #[.int .i64 (e.t + ob), .int .i64 e.d, .int .i64 t.q, .int .i64 oa, .int .i64 ok, .int .i64 t.a, .int .i64 0] 50)).cell? ⟨wr.heap.size, 1, none⟩ = some (.int .i64 oa) ∧ (W1.drew.alloc (.cells #[.int .i64 (e.t + ob), .int .i64 e.d, .int .i64 t.q, .int .i64 oa, .int .i64 ok, .int .i64 t.a, .int .i64 0] 50)).cell? ⟨wr.heap.size, 2, none⟩ = some (.int .i64 ob) ∧ (W1.drew.alloc (.cells #[.int .i64 (e.t + ob), .int .i64 e.d, .int .i64 t.q, .int .i64 oa, .int .i64 ok, .int .i64 t.a, .int .i64 0] 50)).cell? ⟨wr.heap.size, 3, none⟩ = some (.int .i64 ok) ∧ (W1.drew.alloc (.cells #[.int .i64 (e.t + ob), .int .i64 e.d, .int .i64 t.q, .int .i64 oa, .int .i64 ok, .int .i64 t.a, .int .i64 0] 50)).cell? ⟨w.heap.size + 1 + 1, 0, none⟩ = some (.int .i64 e.t) ∧ (W1.drew.alloc (.cells #[.int .i64 (e.t + ob), .int .i64 e.d, .int .i64 t.q, .int .i64 oa, .int .i64 ok, .int .i64 t.a, .int .i64 0] 50)).cell? ⟨w.heap.size + 1 + 1, 3, none⟩ = some (.int .i64 e.d) ∧ (W1.drew.alloc (.cells #[.int .i64 (e.t + ob), .int .i64 e.d, .int .i64 t.q, .int .i64 oa, .int .i64 ok, .int .i64 t.a, .int .i64 0] 50)).cell? ⟨w1.heap.size, 0, none⟩ = some (vReg g cap) ∧ (W1.drew.alloc (.cells #[.int .i64 (e.t + ob), .int .i64 e.d, .int .i64 t.q, .int .i64 oa, .int .i64 ok, .int .i64 t.a, .int .i64 0] 50)).cell? ⟨w1.heap.size, 1, none⟩ = some (.int .i64 t.q) ∧ (W1.drew.alloc (.cells #[.int .i64 (e.t + ob), .int .i64 e.d, .int .i64 t.q, .int .i64 oa, .int .i64 ok, .int .i64 t.a, .int .i64 0] 50)).cell? ⟨g, 0, none⟩ = some (.int .i64 t.a)) := ⟨(HP2.out.drew.alloc (.cells #[.int .i64 (e.t + ob), .int .i64 e.d, .int .i64 t.q, .int .i64 oa, .int .i64 ok, .int .i64 t.a, .int .i64 0] 50)).cell (i := 1) rfl, (HP2.out.drew.alloc (.cells #[.int .i64 (e.t + ob), .int .i64 e.d, .int .i64 t.q, .int .i64 oa, .int .i64 ok, .int .i64 t.a, .int .i64 0] 50)).cell (i := 2) rfl, (HP2.out.drew.alloc (.cells #[.int .i64 (e.t + ob), .int .i64 e.d, .int .i64 t.q, .int .i64 oa, .int .i64 ok, .int .i64 t.a, .int .i64 0] 50)).cell (i := 3) rfl, (HV2.out.drew.alloc (.cells #[.int .i64 (e.t + ob), .int .i64 e.d, .int .i64 t.q, .int .i64 oa, .int .i64 ok, .int .i64 t.a, .int .i64 0] 50)).cell (i := 0) rfl, (HV2.out.drew.alloc (.cells #[.int .i64 (e.t + ob), .int .i64 e.d, .int .i64 t.q, .int .i64 oa, .int .i64 ok, .int .i64 t.a, .int .i64 0] 50)).cell (i := 3) rfl, (HE2.out.drew.alloc (.cells #[.int .i64 (e.t + ob), .int .i64 e.d, .int .i64 t.q, .int .i64 oa, .int .i64 ok, .int .i64 t.a, .int .i64 0] 50)).blk.cell (i := 0) rfl, (HE2.out.drew.alloc (.cells #[.int .i64 (e.t + ob), .int .i64 e.d, .int .i64 t.q, .int .i64 oa, .int .i64 ok, .int .i64 t.a, .int .i64 0] 50)).blk.cell (i := 1) rfl, (HE2.out.drew.alloc (.cells #[.int .i64 (e.t + ob), .int .i64 e.d, .int .i64 t.q, .int .i64 oa, .int .i64 ok, .int .i64 t.a, .int .i64 0] 50)).reg0⟩
        have HE1 : Hid (Eff W0.heap.size (W1.drew.alloc (.cells #[.int .i64 (e.t + ob), .int .i64 e.d, .int .i64 t.q, .int .i64 oa, .int .i64 ok, .int .i64 t.a, .int .i64 0] 50)) w1.heap.size 54 [] t (-1) g cap us ux) := HE2.out.drew.alloc _
        have HP1 : Hid (Bk (W1.drew.alloc (.cells #[.int .i64 (e.t + ob), .int .i64 e.d, .int .i64 t.q, .int .i64 oa, .int .i64 ok, .int .i64 t.a, .int .i64 0] 50)) wr.heap.size 181 #[.int .i64 2, .int .i64 oa, .int .i64 ob, .int .i64 ok]) := HP2.out.drew.alloc _
        have HV1 : Hid (Bk (W1.drew.alloc (.cells #[.int .i64 (e.t + ob), .int .i64 e.d, .int .i64 t.q, .int .i64 oa, .int .i64 ok, .int .i64 t.a, .int .i64 0] 50)) (w.heap.size + 1 + 1) 50 #[.int .i64 e.t, .int .i64 e.s, .int .i64 e.q, .int .i64 e.d, .int .i64 e.k, .int .i64 e.v, .int .i64 e.g]) := HV2.out.drew.alloc _
        have hSb : (W1.alloc (.cells #[.int .i64 (e.t + ob), .int .i64 e.d, .int .i64 t.q, .int .i64 oa, .int .i64 ok, .int .i64 t.a, .int .i64 0] 50)).cell? ⟨w1.heap.size, 3, none⟩ = some us := HE1.out.blk.cell (i := 3) rfl
        have hsz1 : W0.heap.size ≤ (W1.drew.alloc (.cells #[.int .i64 (e.t + ob), .int .i64 e.d, .int .i64 t.q, .int .i64 oa, .int .i64 ok, .int .i64 t.a, .int .i64 0] 50)).heap.size := HE1.out.le.1
        obtain ⟨i0, hi0, hz0', hz1', hz2'⟩ := info_parts info25
        have hoP : wr.heap.size ≠ w1.heap.size := by omega
        have hoV : (w.heap.size + 1 + 1) ≠ w1.heap.size := by omega
        have hszd : W0.heap.size ≤ W1.drew.heap.size := by show W0.heap.size ≤ W1.heap.size; omega
        have hq1 : t.q ≤ 100000 := by have := HG1.out.q1; omega
        have hq0 := HG1.out.q0
        have hwr : IntKind.i64.wrap (e.t + ob) = e.t + ob := by rw [IntKind.wrap_i64]; omega
        go_wp2
        clear hW1 g0 g1' g2 g3 c0'
        refine wp_region_held_drew (S := fun W => W.cell? ⟨wr.heap.size, 1, none⟩ = some (.int .i64 oa) ∧ W.cell? ⟨wr.heap.size, 2, none⟩ = some (.int .i64 ob) ∧ W.cell? ⟨wr.heap.size, 3, none⟩ = some (.int .i64 ok) ∧ W.cell? ⟨w.heap.size + 1 + 1, 0, none⟩ = some (.int .i64 e.t) ∧ W.cell? ⟨w.heap.size + 1 + 1, 3, none⟩ = some (.int .i64 e.d) ∧ W.cell? ⟨w1.heap.size, 0, none⟩ = some (vReg g cap) ∧ W.cell? ⟨w1.heap.size, 1, none⟩ = some (.int .i64 t.q) ∧ W.cell? ⟨g, 0, none⟩ = some (.int .i64 t.a)) (by kernel_rfl) HS0.out (fun hHeld => ?_)
        refine wpAnyH_take (i := 0) (oi := { dst := some 91, op := Op.fieldAddr 54 (Operand.tmp 9) 1, type := 0, pos := _, after := _, guard := none }) (v := .pointer (some ⟨w1.heap.size, 3, none⟩)) rfl (by kernel_rfl) (by kernel_rfl) (by kernel_rfl) (fun _ _ _ h => h) (Or.inl ⟨by rfl, ?_⟩) (by assumption) ?_
        · intro wX hSw
          try dsimp only at hSw
          go_simp
        try simp only [Act.put, List.setIfInBounds_toArray, List.set_cons_zero, List.set_cons_succ]
        refine wpAnyH_take (i := 2) (oi := { dst := some 93, op := Op.fieldAddr 50 (Operand.tmp 7) 0, type := 0, pos := _, after := _, guard := none }) (v := .pointer (some ⟨w.heap.size + 1 + 1, 0, none⟩)) rfl (by kernel_rfl) (by kernel_rfl) (by kernel_rfl) (fun _ _ _ h => h) (Or.inl ⟨by rfl, ?_⟩) (by assumption) ?_
        · intro wX hSw
          try dsimp only at hSw
          go_simp
        try simp only [Act.put, List.setIfInBounds_toArray, List.set_cons_zero, List.set_cons_succ]
        refine wpAnyH_take (i := 3) (oi := { dst := some 94, op := Op.load 3 (Operand.tmp 93), type := 3, pos := _, after := _, guard := none }) (v := .int .i64 e.t) rfl (by kernel_rfl) (by kernel_rfl) (by kernel_rfl) (fun _ _ _ h => h) (Or.inl ⟨by rfl, ?_⟩) (by assumption) ?_
        · intro wX hSw
          try dsimp only at hSw
          go_simp
        try simp only [Act.put, List.setIfInBounds_toArray, List.set_cons_zero, List.set_cons_succ]
        refine wpAnyH_take (i := 4) (oi := { dst := some 95, op := Op.fieldAddr 181 (Operand.tmp 12) 2, type := 0, pos := _, after := _, guard := none }) (v := .pointer (some ⟨wr.heap.size, 2, none⟩)) rfl (by kernel_rfl) (by kernel_rfl) (by kernel_rfl) (fun _ _ _ h => h) (Or.inl ⟨by rfl, ?_⟩) (by assumption) ?_
        · intro wX hSw
          try dsimp only at hSw
          go_simp
        try simp only [Act.put, List.setIfInBounds_toArray, List.set_cons_zero, List.set_cons_succ]
        refine wpAnyH_take (i := 5) (oi := { dst := some 96, op := Op.load 3 (Operand.tmp 95), type := 3, pos := _, after := _, guard := none }) (v := .int .i64 ob) rfl (by kernel_rfl) (by kernel_rfl) (by kernel_rfl) (fun _ _ _ h => h) (Or.inl ⟨by rfl, ?_⟩) (by assumption) ?_
        · intro wX hSw
          try dsimp only at hSw
          go_simp
        try simp only [Act.put, List.setIfInBounds_toArray, List.set_cons_zero, List.set_cons_succ]
        refine wpAnyH_take (i := 6) (oi := { dst := some 97, op := Op.binOp BinOp.add 3 (Operand.tmp 94) (Operand.tmp 96) 3, type := 3, pos := _, after := _, guard := none }) (v := .int .i64 (e.t + ob)) rfl (by kernel_rfl) (by kernel_rfl) (by kernel_rfl) (fun _ _ _ h => h) (Or.inl ⟨by rfl, ?_⟩) (by assumption) ?_
        · intro wX hSw
          try dsimp only at hSw
          go_simp
        try simp only [Act.put, List.setIfInBounds_toArray, List.set_cons_zero, List.set_cons_succ]
        refine wpAnyH_take (i := 7) (oi := { dst := some 98, op := Op.fieldAddr 50 (Operand.tmp 7) 3, type := 0, pos := _, after := _, guard := none }) (v := .pointer (some ⟨w.heap.size + 1 + 1, 3, none⟩)) rfl (by kernel_rfl) (by kernel_rfl) (by kernel_rfl) (fun _ _ _ h => h) (Or.inl ⟨by rfl, ?_⟩) (by assumption) ?_
        · intro wX hSw
          try dsimp only at hSw
          go_simp
        try simp only [Act.put, List.setIfInBounds_toArray, List.set_cons_zero, List.set_cons_succ]
        refine wpAnyH_take (i := 8) (oi := { dst := some 99, op := Op.load 3 (Operand.tmp 98), type := 3, pos := _, after := _, guard := none }) (v := .int .i64 e.d) rfl (by kernel_rfl) (by kernel_rfl) (by kernel_rfl) (fun _ _ _ h => h) (Or.inl ⟨by rfl, ?_⟩) (by assumption) ?_
        · intro wX hSw
          try dsimp only at hSw
          go_simp
        try simp only [Act.put, List.setIfInBounds_toArray, List.set_cons_zero, List.set_cons_succ]
        refine wpAnyH_take (i := 9) (oi := { dst := some 100, op := Op.fieldAddr 54 (Operand.tmp 9) 0, type := 0, pos := _, after := _, guard := none }) (v := .pointer (some ⟨w1.heap.size, 0, none⟩)) rfl (by kernel_rfl) (by kernel_rfl) (by kernel_rfl) (fun _ _ _ h => h) (Or.inl ⟨by rfl, ?_⟩) (by assumption) ?_
        · intro wX hSw
          try dsimp only at hSw
          go_simp
        try simp only [Act.put, List.setIfInBounds_toArray, List.set_cons_zero, List.set_cons_succ]
        refine wpAnyH_take (i := 10) (oi := { dst := some 101, op := Op.fieldAddr 48 (Operand.tmp 100) 1, type := 0, pos := _, after := _, guard := none }) (v := .pointer (some ⟨w1.heap.size, 1, none⟩)) rfl (by kernel_rfl) (by kernel_rfl) (by kernel_rfl) (fun _ _ _ h => h) (Or.inl ⟨by rfl, ?_⟩) (by assumption) ?_
        · intro wX hSw
          try dsimp only at hSw
          go_simp
        try simp only [Act.put, List.setIfInBounds_toArray, List.set_cons_zero, List.set_cons_succ]
        refine wpAnyH_take (i := 11) (oi := { dst := some 102, op := Op.load 3 (Operand.tmp 101), type := 3, pos := _, after := _, guard := none }) (v := .int .i64 t.q) rfl (by kernel_rfl) (by kernel_rfl) (by kernel_rfl) (fun _ _ _ h => h) (Or.inl ⟨by rfl, ?_⟩) (by assumption) ?_
        · intro wX hSw
          try dsimp only at hSw
          go_simp
        try simp only [Act.put, List.setIfInBounds_toArray, List.set_cons_zero, List.set_cons_succ]
        refine wpAnyH_take (i := 12) (oi := { dst := some 103, op := Op.fieldAddr 181 (Operand.tmp 12) 1, type := 0, pos := _, after := _, guard := none }) (v := .pointer (some ⟨wr.heap.size, 1, none⟩)) rfl (by kernel_rfl) (by kernel_rfl) (by kernel_rfl) (fun _ _ _ h => h) (Or.inl ⟨by rfl, ?_⟩) (by assumption) ?_
        · intro wX hSw
          try dsimp only at hSw
          go_simp
        try simp only [Act.put, List.setIfInBounds_toArray, List.set_cons_zero, List.set_cons_succ]
        refine wpAnyH_take (i := 13) (oi := { dst := some 104, op := Op.load 3 (Operand.tmp 103), type := 3, pos := _, after := _, guard := none }) (v := .int .i64 oa) rfl (by kernel_rfl) (by kernel_rfl) (by kernel_rfl) (fun _ _ _ h => h) (Or.inl ⟨by rfl, ?_⟩) (by assumption) ?_
        · intro wX hSw
          try dsimp only at hSw
          go_simp
        try simp only [Act.put, List.setIfInBounds_toArray, List.set_cons_zero, List.set_cons_succ]
        refine wpAnyH_take (i := 14) (oi := { dst := some 105, op := Op.fieldAddr 181 (Operand.tmp 12) 3, type := 0, pos := _, after := _, guard := none }) (v := .pointer (some ⟨wr.heap.size, 3, none⟩)) rfl (by kernel_rfl) (by kernel_rfl) (by kernel_rfl) (fun _ _ _ h => h) (Or.inl ⟨by rfl, ?_⟩) (by assumption) ?_
        · intro wX hSw
          try dsimp only at hSw
          go_simp
        try simp only [Act.put, List.setIfInBounds_toArray, List.set_cons_zero, List.set_cons_succ]
        refine wpAnyH_take (i := 15) (oi := { dst := some 106, op := Op.load 3 (Operand.tmp 105), type := 3, pos := _, after := _, guard := none }) (v := .int .i64 ok) rfl (by kernel_rfl) (by kernel_rfl) (by kernel_rfl) (fun _ _ _ h => h) (Or.inl ⟨by rfl, ?_⟩) (by assumption) ?_
        · intro wX hSw
          try dsimp only at hSw
          go_simp
        try simp only [Act.put, List.setIfInBounds_toArray, List.set_cons_zero, List.set_cons_succ]
        refine wpAnyH_take (i := 16) (oi := { dst := some 107, op := Op.fieldAddr 54 (Operand.tmp 9) 0, type := 0, pos := _, after := _, guard := none }) (v := .pointer (some ⟨w1.heap.size, 0, none⟩)) rfl (by kernel_rfl) (by kernel_rfl) (by kernel_rfl) (fun _ _ _ h => h) (Or.inl ⟨by rfl, ?_⟩) (by assumption) ?_
        · intro wX hSw
          try dsimp only at hSw
          go_simp
        try simp only [Act.put, List.setIfInBounds_toArray, List.set_cons_zero, List.set_cons_succ]
        refine wpAnyH_take (i := 17) (oi := { dst := some 108, op := Op.fieldAddr 48 (Operand.tmp 107) 0, type := 0, pos := _, after := _, guard := none }) (v := .pointer (some ⟨w1.heap.size, 0, none⟩)) rfl (by kernel_rfl) (by kernel_rfl) (by kernel_rfl) (fun _ _ _ h => h) (Or.inl ⟨by rfl, ?_⟩) (by assumption) ?_
        · intro wX hSw
          try dsimp only at hSw
          go_simp
        try simp only [Act.put, List.setIfInBounds_toArray, List.set_cons_zero, List.set_cons_succ]
        refine wpAnyH_take (i := 18) (oi := { dst := some 109, op := Op.load 22 (Operand.tmp 108), type := 22, pos := _, after := _, guard := none }) (v := vReg g cap) rfl (by kernel_rfl) (by kernel_rfl) (by kernel_rfl) (fun _ _ _ h => h) (Or.inl ⟨by rfl, ?_⟩) (by assumption) ?_
        · intro wX hSw
          try dsimp only at hSw
          go_simp
        try simp only [Act.put, List.setIfInBounds_toArray, List.set_cons_zero, List.set_cons_succ]
        refine wpAnyH_take (i := 19) (oi := { dst := some 110, op := Op.indexAddr 22 (Operand.tmp 109) (Operand.const (Value.int IntKind.i64 0)), type := 0, pos := _, after := _, guard := none }) (v := .pointer (some ⟨g, 0, none⟩)) rfl (by kernel_rfl) (by kernel_rfl) (by kernel_rfl) (fun _ _ _ h => h) (Or.inl ⟨by rfl, ?_⟩) (by assumption) ?_
        · intro wX hSw
          try dsimp only at hSw
          go_simp
        try simp only [Act.put, List.setIfInBounds_toArray, List.set_cons_zero, List.set_cons_succ]
        refine wpAnyH_take (i := 20) (oi := { dst := some 111, op := Op.load 3 (Operand.tmp 110), type := 3, pos := _, after := _, guard := none }) (v := .int .i64 t.a) rfl (by kernel_rfl) (by kernel_rfl) (by kernel_rfl) (fun _ _ _ h => h) (Or.inl ⟨by rfl, ?_⟩) (by assumption) ?_
        · intro wX hSw
          try dsimp only at hSw
          go_simp
        try simp only [Act.put, List.setIfInBounds_toArray, List.set_cons_zero, List.set_cons_succ]
        refine wpAnyH_take (i := 21) (oi := { dst := some 112, op := Op.build 50 #[(0, Operand.tmp 97), (1, Operand.tmp 99), (2, Operand.tmp 102), (3, Operand.tmp 104), (4, Operand.tmp 106), (5, Operand.tmp 111)], type := 50, pos := _, after := _, guard := none }) (v := .agg #[.int .i64 (e.t + ob), .int .i64 e.d, .int .i64 t.q, .int .i64 oa, .int .i64 ok, .int .i64 t.a, .int .i64 0]) rfl (by kernel_rfl) (by kernel_rfl) (by kernel_rfl) (fun _ _ _ h => h) (Or.inl ⟨by rfl, ?_⟩) (by assumption) ?_
        · intro wX hSw
          try dsimp only at hSw
          go_simp
        try simp only [Act.put, List.setIfInBounds_toArray, List.set_cons_zero, List.set_cons_succ]
        refine wpAnyH_ready (rs := [1, 22]) (by kernel_rfl) (by simp) ?_
        refine AllReadyH.cons (o := { dst := some 92, op := Op.load 28 (Operand.tmp 91), type := 28, pos := _, after := _, guard := none }) rfl (fun K hK => ?_) (AllReadyH.cons (o := { dst := some 113, op := Op.buildSlice 28 1 #[(0, Operand.tmp 112)], type := 28, pos := _, after := _, guard := none }) rfl (fun K hK => ?_) AllReadyH.nil)
        · go_simp
          refine hK.out _ _ HS0.out (fun hHeld => ?_)
          clear hK K
          try simp only [Act.put, List.setIfInBounds_toArray, List.set_cons_zero, List.set_cons_succ]
          refine wpAnyH_ready (rs := [22]) (by kernel_rfl) (by simp) ?_
          refine AllReadyH.cons (o := { dst := some 113, op := Op.buildSlice 28 1 #[(0, Operand.tmp 112)], type := 28, pos := _, after := _, guard := none }) rfl (fun K hK => ?_) AllReadyH.nil
          go_simp
          refine hK.out _ _ HS1.out (fun hHeld => ?_)
          clear hK K
          try simp only [Act.put, List.setIfInBounds_toArray, List.set_cons_zero, List.set_cons_succ]
          refine wpAnyH_ready (rs := [23]) (by kernel_rfl) (by simp) ?_
          refine AllReadyH.cons (o := { dst := some 114, op := Op.call { callee := Callee.builtin Builtin.append, args := #[Operand.tmp 92, Operand.tmp 113], argTypes := #[28, 28] }, type := 28, pos := _, after := _, guard := none }) rfl (fun K hK => ?_) AllReadyH.nil
          refine step_append_own (w := W1.drew.alloc (.cells #[.int .i64 (e.t + ob), .int .i64 e.d, .int .i64 t.q, .int .i64 oa, .int .i64 ok, .int .i64 t.a, .int .i64 0] 50)) rfl (.tmp 92) (.tmp 113) 28 rfl W0.heap.size 50 i0 (.agg #[.int .i64 0, .int .i64 0, .int .i64 0, .int .i64 0, .int .i64 0, .int .i64 0, .int .i64 0]) 7 56 Tryz.underlying28 hi0 hz0' hz1' hz2' rfl (by decide) us t.s.length (cellsL t.s) rfl HE1.out.s ⟨W1.heap.size, 0, none⟩ 1 1 ((sentE e ⟨2, oa, ob, ok⟩ t).cs) rfl rfl (at_newV W1.drew (sentE e ⟨2, oa, ob, ok⟩ t)) (ev_ones (sentE e ⟨2, oa, ob, ok⟩ t)) (by unfold maxLen; omega) (by omega) hsz1 ?_
          intro u3 w3 hown3 hgrow3
          obtain ⟨a3, cq3, hv3⟩ := own_slice hown3
          subst hv3
          have hb3 := HE1.out.blk.grown hgrow3 (HE1.out.blk.off HE1.out.s HE1.out.ty.2.1)
          have kS : w3.cell? ⟨w1.heap.size, 3, none⟩ = some us := hb3.cell (i := 3) rfl
          have fS : w3.frozen? ⟨w1.heap.size, 3, none⟩ = false := hb3.free 3
          have hr3 := HE1.out.r.kept hgrow3 (own_apart HE1.out.r HE1.out.s (by decide))
          have hP3 := HP1.out.grown hgrow3 (HP1.out.off HE1.out.s (by decide))
          have hV3 : Bk w3 (w.heap.size + 1 + 1) 50 #[.int .i64 e.t, .int .i64 e.s, .int .i64 e.q, .int .i64 e.d, .int .i64 e.k, .int .i64 e.v, .int .i64 e.g] := HV1.out.grown hgrow3 (fun e1 => by have := row_ge HE1.out.s e1.symm; omega)
          have HS3 : Hid (w3.cell? ⟨wr.heap.size, 1, none⟩ = some (.int .i64 oa) ∧ w3.cell? ⟨wr.heap.size, 2, none⟩ = some (.int .i64 ob) ∧ w3.cell? ⟨wr.heap.size, 3, none⟩ = some (.int .i64 ok) ∧ w3.cell? ⟨w.heap.size + 1 + 1, 0, none⟩ = some (.int .i64 e.t) ∧ w3.cell? ⟨w.heap.size + 1 + 1, 3, none⟩ = some (.int .i64 e.d) ∧ w3.cell? ⟨w1.heap.size, 0, none⟩ = some (vReg g cap) ∧ w3.cell? ⟨w1.heap.size, 1, none⟩ = some (.int .i64 t.q) ∧ w3.cell? ⟨g, 0, none⟩ = some (.int .i64 t.a)) := ⟨hP3.cell (i := 1) rfl, hP3.cell (i := 2) rfl, hP3.cell (i := 3) rfl, hV3.cell (i := 0) rfl, hV3.cell (i := 3) rfl, hb3.cell (i := 0) rfl, hb3.cell (i := 1) rfl, hr3.cellAt 0 (by omega)⟩
          have HE4 : Hid (Eff W0.heap.size (w3.setCell ⟨w1.heap.size, 3, none⟩ (.slice a3 (t.s.length + 1) cq3)) w1.heap.size 54 [] { t with s := t.s ++ [(sentE e ⟨2, oa, ob, ok⟩ t)] } (-1) g cap (.slice a3 (t.s.length + 1) cq3) ux) := HE1.out.sent hown3 hgrow3
          have HS4 : Hid ((w3.setCell ⟨w1.heap.size, 3, none⟩ (.slice a3 (t.s.length + 1) cq3)).cell? ⟨wr.heap.size, 1, none⟩ = some (.int .i64 oa) ∧ (w3.setCell ⟨w1.heap.size, 3, none⟩ (.slice a3 (t.s.length + 1) cq3)).cell? ⟨wr.heap.size, 2, none⟩ = some (.int .i64 ob) ∧ (w3.setCell ⟨w1.heap.size, 3, none⟩ (.slice a3 (t.s.length + 1) cq3)).cell? ⟨wr.heap.size, 3, none⟩ = some (.int .i64 ok) ∧ (w3.setCell ⟨w1.heap.size, 3, none⟩ (.slice a3 (t.s.length + 1) cq3)).cell? ⟨w.heap.size + 1 + 1, 0, none⟩ = some (.int .i64 e.t) ∧ (w3.setCell ⟨w1.heap.size, 3, none⟩ (.slice a3 (t.s.length + 1) cq3)).cell? ⟨w.heap.size + 1 + 1, 3, none⟩ = some (.int .i64 e.d) ∧ (w3.setCell ⟨w1.heap.size, 3, none⟩ (.slice a3 (t.s.length + 1) cq3)).cell? ⟨w1.heap.size, 0, none⟩ = some (vReg g cap) ∧ (w3.setCell ⟨w1.heap.size, 3, none⟩ (.slice a3 (t.s.length + 1) cq3)).cell? ⟨w1.heap.size, 1, none⟩ = some (.int .i64 t.q) ∧ (w3.setCell ⟨w1.heap.size, 3, none⟩ (.slice a3 (t.s.length + 1) cq3)).cell? ⟨g, 0, none⟩ = some (.int .i64 t.a)) := ⟨(hP3.other 3 _ hoP).cell (i := 1) rfl, (hP3.other 3 _ hoP).cell (i := 2) rfl, (hP3.other 3 _ hoP).cell (i := 3) rfl, (hV3.other 3 _ hoV).cell (i := 0) rfl, (hV3.other 3 _ hoV).cell (i := 3) rfl, HE4.out.blk.cell (i := 0) rfl, HE4.out.blk.cell (i := 1) rfl, (HE4.out).reg0⟩
          have HB4 : Hid (Below W0.heap.size W0 (w3.setCell ⟨w1.heap.size, 3, none⟩ (.slice a3 (t.s.length + 1) cq3))) := ((HB2.out.drew.alloc hszd _).grown hgrow3 hsz1 (fun k e => row_ge HE1.out.s e)).setCell (p := ⟨w1.heap.size, 3, none⟩) HE1.out.lo _
          refine hK.out _ _ HS3.out (fun hHeld => ?_)
          clear hK K
          try simp only [Act.put, List.setIfInBounds_toArray, List.set_cons_zero, List.set_cons_succ]
          refine wpAnyH_take (i := 24) (oi := { dst := some 115, op := Op.fieldAddr 54 (Operand.tmp 9) 1, type := 0, pos := _, after := _, guard := none }) (v := .pointer (some ⟨w1.heap.size, 3, none⟩)) rfl (by kernel_rfl) (by kernel_rfl) (by kernel_rfl) (fun _ _ _ h => h) (Or.inl ⟨by rfl, ?_⟩) (by assumption) ?_
          · intro wX hSw
            try dsimp only at hSw
            go_simp
          try simp only [Act.put, List.setIfInBounds_toArray, List.set_cons_zero, List.set_cons_succ]
          refine wpAnyH_ready (rs := [25]) (by kernel_rfl) (by simp) ?_
          refine AllReadyH.cons (o := { dst := none, op := Op.store 28 (Operand.tmp 115) (Operand.tmp 114), type := 0, pos := _, after := _, guard := none }) rfl (fun K hK => ?_) AllReadyH.nil
          go_simp
          refine hK.out _ _ HS4.out (fun hHeld => ?_)
          clear hK K
          try simp only [Act.put, List.setIfInBounds_toArray, List.set_cons_zero, List.set_cons_succ]
          refine wpAnyH_done (by kernel_rfl) ?_ _
          clear hS hSb kS fS HS0 HS1 HS3 HS4 hown3 hgrow3 hb3 hr3 hP3 hV3
          generalize w3.setCell ⟨w1.heap.size, 3, none⟩ (.slice a3 (t.s.length + 1) cq3) = V at HE4 HB4 ⊢
          have q1 : V.cell? ⟨w1.heap.size, 1, none⟩ = some (.int .i64 t.q) := HE4.out.blk.cell (i := 1) rfl
          have f1 : V.frozen? ⟨w1.heap.size, 1, none⟩ = false := HE4.out.blk.free 1
          have HE5 : Hid (Eff W0.heap.size (V.setCell ⟨w1.heap.size, 1, none⟩ (.int .i64 (t.q + 1))) w1.heap.size 54 [] { t with s := t.s ++ [(sentE e ⟨2, oa, ob, ok⟩ t)], q := t.q + 1 } (-1) g cap (.slice a3 (t.s.length + 1) cq3) ux) := HE4.out.putQ (t.q + 1)
          have HB5 : Hid (Below W0.heap.size W0 (V.setCell ⟨w1.heap.size, 1, none⟩ (.int .i64 (t.q + 1)))) := HB4.out.setCell (p := ⟨w1.heap.size, 1, none⟩) HE4.out.lo _
          have hwn : ¬ waitsO [c0, c1, c2, c3] (⟨2, oa, ob, ok⟩ : O) := (fun h => absurd h.1 (by show ¬ (2 : Int) = 4; decide))
          obtain ⟨f', hf', hr'⟩ := HST.out RR HRN.out hwn
          have hps : passes (⟨2, oa, ob, ok⟩ : O) t = 0 := by simp [passes]
          have hgs : GoodT (stepO m.s [c0, c1, c2, c3] e (⟨2, oa, ob, ok⟩ : O) t) (j + 1) := HG1.out.step HOO.out (fun h4 => absurd h4 (by show ¬ (2 : Int) = 4; decide))
          have hst : stepO m.s [c0, c1, c2, c3] e (⟨2, oa, ob, ok⟩ : O) t = { t with s := t.s ++ [(sentE e ⟨2, oa, ob, ok⟩ t)], q := t.q + 1 } := by simp [stepO]
          rw [hps] at hf' hr'
          rw [hst] at hr' hgs
          have HI : Hid (ShInv W0.heap.size w1.heap.size W0 (V.setCell ⟨w1.heap.size, 1, none⟩ (.int .i64 (t.q + 1))) m.s [c0, c1, c2, c3] e l RR (i + 1 + 0)) := ⟨⟨f', _, j + 1, g, cap, _, _, HE5.out, hgs, by omega, by omega, hf', hr'⟩, HB5.out, by omega⟩
          clear hf' hr' hgs hst hps
          go_wp2
          go_roundw
          case rel => exact ⟨i + 1 + 0, by go_num, HI.out⟩
          case measure => simp [intOf]; omega
        · go_simp
          refine hK.out _ _ HS1.out (fun hHeld => ?_)
          clear hK K
          try simp only [Act.put, List.setIfInBounds_toArray, List.set_cons_zero, List.set_cons_succ]
          refine wpAnyH_ready (rs := [1]) (by kernel_rfl) (by simp) ?_
          refine AllReadyH.cons (o := { dst := some 92, op := Op.load 28 (Operand.tmp 91), type := 28, pos := _, after := _, guard := none }) rfl (fun K hK => ?_) AllReadyH.nil
          go_simp
          refine hK.out _ _ HS1.out (fun hHeld => ?_)
          clear hK K
          try simp only [Act.put, List.setIfInBounds_toArray, List.set_cons_zero, List.set_cons_succ]
          refine wpAnyH_ready (rs := [23]) (by kernel_rfl) (by simp) ?_
          refine AllReadyH.cons (o := { dst := some 114, op := Op.call { callee := Callee.builtin Builtin.append, args := #[Operand.tmp 92, Operand.tmp 113], argTypes := #[28, 28] }, type := 28, pos := _, after := _, guard := none }) rfl (fun K hK => ?_) AllReadyH.nil
          refine step_append_own (w := W1.drew.alloc (.cells #[.int .i64 (e.t + ob), .int .i64 e.d, .int .i64 t.q, .int .i64 oa, .int .i64 ok, .int .i64 t.a, .int .i64 0] 50)) rfl (.tmp 92) (.tmp 113) 28 rfl W0.heap.size 50 i0 (.agg #[.int .i64 0, .int .i64 0, .int .i64 0, .int .i64 0, .int .i64 0, .int .i64 0, .int .i64 0]) 7 56 Tryz.underlying28 hi0 hz0' hz1' hz2' rfl (by decide) us t.s.length (cellsL t.s) rfl HE1.out.s ⟨W1.heap.size, 0, none⟩ 1 1 ((sentE e ⟨2, oa, ob, ok⟩ t).cs) rfl rfl (at_newV W1.drew (sentE e ⟨2, oa, ob, ok⟩ t)) (ev_ones (sentE e ⟨2, oa, ob, ok⟩ t)) (by unfold maxLen; omega) (by omega) hsz1 ?_
          intro u3 w3 hown3 hgrow3
          obtain ⟨a3, cq3, hv3⟩ := own_slice hown3
          subst hv3
          have hb3 := HE1.out.blk.grown hgrow3 (HE1.out.blk.off HE1.out.s HE1.out.ty.2.1)
          have kS : w3.cell? ⟨w1.heap.size, 3, none⟩ = some us := hb3.cell (i := 3) rfl
          have fS : w3.frozen? ⟨w1.heap.size, 3, none⟩ = false := hb3.free 3
          have hr3 := HE1.out.r.kept hgrow3 (own_apart HE1.out.r HE1.out.s (by decide))
          have hP3 := HP1.out.grown hgrow3 (HP1.out.off HE1.out.s (by decide))
          have hV3 : Bk w3 (w.heap.size + 1 + 1) 50 #[.int .i64 e.t, .int .i64 e.s, .int .i64 e.q, .int .i64 e.d, .int .i64 e.k, .int .i64 e.v, .int .i64 e.g] := HV1.out.grown hgrow3 (fun e1 => by have := row_ge HE1.out.s e1.symm; omega)
          have HS3 : Hid (w3.cell? ⟨wr.heap.size, 1, none⟩ = some (.int .i64 oa) ∧ w3.cell? ⟨wr.heap.size, 2, none⟩ = some (.int .i64 ob) ∧ w3.cell? ⟨wr.heap.size, 3, none⟩ = some (.int .i64 ok) ∧ w3.cell? ⟨w.heap.size + 1 + 1, 0, none⟩ = some (.int .i64 e.t) ∧ w3.cell? ⟨w.heap.size + 1 + 1, 3, none⟩ = some (.int .i64 e.d) ∧ w3.cell? ⟨w1.heap.size, 0, none⟩ = some (vReg g cap) ∧ w3.cell? ⟨w1.heap.size, 1, none⟩ = some (.int .i64 t.q) ∧ w3.cell? ⟨g, 0, none⟩ = some (.int .i64 t.a)) := ⟨hP3.cell (i := 1) rfl, hP3.cell (i := 2) rfl, hP3.cell (i := 3) rfl, hV3.cell (i := 0) rfl, hV3.cell (i := 3) rfl, hb3.cell (i := 0) rfl, hb3.cell (i := 1) rfl, hr3.cellAt 0 (by omega)⟩
          have HE4 : Hid (Eff W0.heap.size (w3.setCell ⟨w1.heap.size, 3, none⟩ (.slice a3 (t.s.length + 1) cq3)) w1.heap.size 54 [] { t with s := t.s ++ [(sentE e ⟨2, oa, ob, ok⟩ t)] } (-1) g cap (.slice a3 (t.s.length + 1) cq3) ux) := HE1.out.sent hown3 hgrow3
          have HS4 : Hid ((w3.setCell ⟨w1.heap.size, 3, none⟩ (.slice a3 (t.s.length + 1) cq3)).cell? ⟨wr.heap.size, 1, none⟩ = some (.int .i64 oa) ∧ (w3.setCell ⟨w1.heap.size, 3, none⟩ (.slice a3 (t.s.length + 1) cq3)).cell? ⟨wr.heap.size, 2, none⟩ = some (.int .i64 ob) ∧ (w3.setCell ⟨w1.heap.size, 3, none⟩ (.slice a3 (t.s.length + 1) cq3)).cell? ⟨wr.heap.size, 3, none⟩ = some (.int .i64 ok) ∧ (w3.setCell ⟨w1.heap.size, 3, none⟩ (.slice a3 (t.s.length + 1) cq3)).cell? ⟨w.heap.size + 1 + 1, 0, none⟩ = some (.int .i64 e.t) ∧ (w3.setCell ⟨w1.heap.size, 3, none⟩ (.slice a3 (t.s.length + 1) cq3)).cell? ⟨w.heap.size + 1 + 1, 3, none⟩ = some (.int .i64 e.d) ∧ (w3.setCell ⟨w1.heap.size, 3, none⟩ (.slice a3 (t.s.length + 1) cq3)).cell? ⟨w1.heap.size, 0, none⟩ = some (vReg g cap) ∧ (w3.setCell ⟨w1.heap.size, 3, none⟩ (.slice a3 (t.s.length + 1) cq3)).cell? ⟨w1.heap.size, 1, none⟩ = some (.int .i64 t.q) ∧ (w3.setCell ⟨w1.heap.size, 3, none⟩ (.slice a3 (t.s.length + 1) cq3)).cell? ⟨g, 0, none⟩ = some (.int .i64 t.a)) := ⟨(hP3.other 3 _ hoP).cell (i := 1) rfl, (hP3.other 3 _ hoP).cell (i := 2) rfl, (hP3.other 3 _ hoP).cell (i := 3) rfl, (hV3.other 3 _ hoV).cell (i := 0) rfl, (hV3.other 3 _ hoV).cell (i := 3) rfl, HE4.out.blk.cell (i := 0) rfl, HE4.out.blk.cell (i := 1) rfl, (HE4.out).reg0⟩
          have HB4 : Hid (Below W0.heap.size W0 (w3.setCell ⟨w1.heap.size, 3, none⟩ (.slice a3 (t.s.length + 1) cq3))) := ((HB2.out.drew.alloc hszd _).grown hgrow3 hsz1 (fun k e => row_ge HE1.out.s e)).setCell (p := ⟨w1.heap.size, 3, none⟩) HE1.out.lo _
          refine hK.out _ _ HS3.out (fun hHeld => ?_)
          clear hK K
          try simp only [Act.put, List.setIfInBounds_toArray, List.set_cons_zero, List.set_cons_succ]
          refine wpAnyH_take (i := 24) (oi := { dst := some 115, op := Op.fieldAddr 54 (Operand.tmp 9) 1, type := 0, pos := _, after := _, guard := none }) (v := .pointer (some ⟨w1.heap.size, 3, none⟩)) rfl (by kernel_rfl) (by kernel_rfl) (by kernel_rfl) (fun _ _ _ h => h) (Or.inl ⟨by rfl, ?_⟩) (by assumption) ?_
          · intro wX hSw
            try dsimp only at hSw
            go_simp
          try simp only [Act.put, List.setIfInBounds_toArray, List.set_cons_zero, List.set_cons_succ]
          refine wpAnyH_ready (rs := [25]) (by kernel_rfl) (by simp) ?_
          refine AllReadyH.cons (o := { dst := none, op := Op.store 28 (Operand.tmp 115) (Operand.tmp 114), type := 0, pos := _, after := _, guard := none }) rfl (fun K hK => ?_) AllReadyH.nil
          go_simp
          refine hK.out _ _ HS4.out (fun hHeld => ?_)
          clear hK K
          try simp only [Act.put, List.setIfInBounds_toArray, List.set_cons_zero, List.set_cons_succ]
          refine wpAnyH_done (by kernel_rfl) ?_ _
          clear hS hSb kS fS HS0 HS1 HS3 HS4 hown3 hgrow3 hb3 hr3 hP3 hV3
          generalize w3.setCell ⟨w1.heap.size, 3, none⟩ (.slice a3 (t.s.length + 1) cq3) = V at HE4 HB4 ⊢
          have q1 : V.cell? ⟨w1.heap.size, 1, none⟩ = some (.int .i64 t.q) := HE4.out.blk.cell (i := 1) rfl
          have f1 : V.frozen? ⟨w1.heap.size, 1, none⟩ = false := HE4.out.blk.free 1
          have HE5 : Hid (Eff W0.heap.size (V.setCell ⟨w1.heap.size, 1, none⟩ (.int .i64 (t.q + 1))) w1.heap.size 54 [] { t with s := t.s ++ [(sentE e ⟨2, oa, ob, ok⟩ t)], q := t.q + 1 } (-1) g cap (.slice a3 (t.s.length + 1) cq3) ux) := HE4.out.putQ (t.q + 1)
          have HB5 : Hid (Below W0.heap.size W0 (V.setCell ⟨w1.heap.size, 1, none⟩ (.int .i64 (t.q + 1)))) := HB4.out.setCell (p := ⟨w1.heap.size, 1, none⟩) HE4.out.lo _
          have hwn : ¬ waitsO [c0, c1, c2, c3] (⟨2, oa, ob, ok⟩ : O) := (fun h => absurd h.1 (by show ¬ (2 : Int) = 4; decide))
          obtain ⟨f', hf', hr'⟩ := HST.out RR HRN.out hwn
          have hps : passes (⟨2, oa, ob, ok⟩ : O) t = 0 := by simp [passes]
          have hgs : GoodT (stepO m.s [c0, c1, c2, c3] e (⟨2, oa, ob, ok⟩ : O) t) (j + 1) := HG1.out.step HOO.out (fun h4 => absurd h4 (by show ¬ (2 : Int) = 4; decide))
          have hst : stepO m.s [c0, c1, c2, c3] e (⟨2, oa, ob, ok⟩ : O) t = { t with s := t.s ++ [(sentE e ⟨2, oa, ob, ok⟩ t)], q := t.q + 1 } := by simp [stepO]
          rw [hps] at hf' hr'
          rw [hst] at hr' hgs
          have HI : Hid (ShInv W0.heap.size w1.heap.size W0 (V.setCell ⟨w1.heap.size, 1, none⟩ (.int .i64 (t.q + 1))) m.s [c0, c1, c2, c3] e l RR (i + 1 + 0)) := ⟨⟨f', _, j + 1, g, cap, _, _, HE5.out, hgs, by omega, by omega, hf', hr'⟩, HB5.out, by omega⟩
          clear hf' hr' hgs hst hps
          go_wp2
          go_roundw
          case rel => exact ⟨i + 1 + 0, by go_num, HI.out⟩
          case measure => simp [intOf]; omega
      · obtain ⟨q, rfl⟩ : ∃ q : Nat, oa = (q : Int) := ⟨(oa).toNat, by omega⟩
        have hq1 : q ≤ 1 := by omega
        have hq2 : (q : Int) < 2 := by omega
        obtain ⟨hr0, hr1⟩ := HG1.out.reg (q : Int)
        have q0 : W1.cell? ⟨w1.heap.size, 0, none⟩ = some (vReg g cap) := HE2.out.blk.cell (i := 0) rfl
        have rc := HE2.out.reg q hq1
        have rfz := HE2.out.free q
        have p1 : W1.cell? ⟨wr.heap.size, 1, none⟩ = some (.int .i64 (q : Int)) := HP2.out.cell (i := 1) rfl
        have p2 : W1.cell? ⟨wr.heap.size, 2, none⟩ = some (.int .i64 ob) := HP2.out.cell (i := 2) rfl
        by_cases hsk : t.reg q < ob
        · obtain ⟨kq, rfl⟩ : ∃ kq : Nat, ok = (kq : Int) := ⟨ok.toNat, by omega⟩
          have hkk' : kq ≤ 8 := by omega
          have HE3 : Hid (Eff W0.heap.size W1.drew w1.heap.size 54 [] t (-1) g cap us ux) := HE2.out.drew
          have HB3 : Hid (Below W0.heap.size W0 W1.drew) := HB2.out.drew
          have p3 : W1.cell? ⟨wr.heap.size, 3, none⟩ = some (.int .i64 (kq : Int)) := HP2.out.cell (i := 3) rfl
          go_wp2
          clear hW1 g0 g1' g2 g3
          go_region
          have hwn : ¬ waitsO [c0, c1, c2, c3] (⟨3, (q : Int), ob, (kq : Int)⟩ : O) := (fun h => absurd h.1 (by show ¬ (3 : Int) = 4; decide))
          obtain ⟨f', hf', hr'⟩ := HST.out RR HRN.out hwn
          have hps : passes (⟨3, (q : Int), ob, (kq : Int)⟩ : O) t = kq := by (unfold passes; rw [if_pos ⟨rfl, hsk⟩]; rfl)
          have hgs : GoodT (stepO m.s [c0, c1, c2, c3] e (⟨3, (q : Int), ob, (kq : Int)⟩ : O) t) (j + 1) := HG1.out.step HOO.out (fun h4 => absurd h4 (by show ¬ (3 : Int) = 4; decide))
          have hst : stepO m.s [c0, c1, c2, c3] e (⟨3, (q : Int), ob, (kq : Int)⟩ : O) t = t := by simp [stepO]
          rw [hps] at hf' hr'
          rw [hst] at hr' hgs
          have HI : Hid (ShInv W0.heap.size w1.heap.size W0 W1.drew m.s [c0, c1, c2, c3] e l RR (i + 1 + kq)) := ⟨⟨f', _, j + 1, g, cap, _, _, HE3.out, hgs, by omega, by omega, hf', hr'⟩, HB3.out, by omega⟩
          clear hf' hr' hgs hst hps
          go_wp2
          go_roundw
          case rel => exact ⟨i + 1 + kq, by go_num, HI.out⟩
          case measure => simp [intOf]; omega
        · have hsk2 : decide (t.reg q < ob) = false := decide_eq_false hsk
          have HE3 : Hid (Eff W0.heap.size W1.drew w1.heap.size 54 [] t (-1) g cap us ux) := HE2.out.drew
          have HB3 : Hid (Below W0.heap.size W0 W1.drew) := HB2.out.drew
          go_wp2
          clear hW1 g0 g1' g2 g3
          go_region
          have hwn : ¬ waitsO [c0, c1, c2, c3] (⟨3, (q : Int), ob, ok⟩ : O) := (fun h => absurd h.1 (by show ¬ (3 : Int) = 4; decide))
          obtain ⟨f', hf', hr'⟩ := HST.out RR HRN.out hwn
          have hps : passes (⟨3, (q : Int), ob, ok⟩ : O) t = 0 := by (unfold passes; rw [if_neg (fun h => by have h2 : t.reg q < ob := h.2; omega)])
          have hgs : GoodT (stepO m.s [c0, c1, c2, c3] e (⟨3, (q : Int), ob, ok⟩ : O) t) (j + 1) := HG1.out.step HOO.out (fun h4 => absurd h4 (by show ¬ (3 : Int) = 4; decide))
          have hst : stepO m.s [c0, c1, c2, c3] e (⟨3, (q : Int), ob, ok⟩ : O) t = t := by simp [stepO]
          rw [hps] at hf' hr'
          rw [hst] at hr' hgs
          have HI : Hid (ShInv W0.heap.size w1.heap.size W0 W1.drew m.s [c0, c1, c2, c3] e l RR (i + 1 + 0)) := ⟨⟨f', _, j + 1, g, cap, _, _, HE3.out, hgs, by omega, by omega, hf', hr'⟩, HB3.out, by omega⟩
          clear hf' hr' hgs hst hps
          go_wp2
          go_roundw
          case rel => exact ⟨i + 1 + 0, by go_num, HI.out⟩
          case measure => simp [intOf]; omega
      · obtain ⟨a, rfl⟩ : ∃ a : Nat, oa = (a : Int) := ⟨(oa).toNat, by omega⟩
        have ha3 : a < 4 := by omega
        have ha4 : (a : Int) < 4 := by omega
        have hva := HVC.out (a : Int)
        have dc : W1.cell? ⟨bd, offd + a, none⟩ = some (.int .i64 (vecAt c0 c1 c2 c3 a)) := by
          rw [← vec_at c0 c1 c2 c3 (by omega) (by omega)]
          exact (HB2.out.cell (p := ⟨bd, offd + a, none⟩) (by show bd < W0.heap.size; omega)).trans ((HB0.out.cell (p := ⟨bd, offd + a, none⟩) hbd).trans (HCD.out a ha3))
        have p1 : W1.cell? ⟨wr.heap.size, 1, none⟩ = some (.int .i64 (a : Int)) := HP2.out.cell (i := 1) rfl
        by_cases hw : vecAt c0 c1 c2 c3 (a : Int) = -1
        · have hRe := HAS.out ⟨rfl, by show intAt [c0, c1, c2, c3] (a : Int).toNat < 0; rw [vec_at c0 c1 c2 c3 (by omega) (by omega)]; omega⟩
          have HEF2 : Hid (EF = resE s (.asks (a : Int))) := HEF.out.trans (by rw [hRe])
          have HQ0 : Hid (W1.drew.cell? ⟨w.heap.size + 1, 0, none⟩ = some (.slice (some ⟨b2, off2, none⟩) 2 cap2) ∧ W1.drew.cell? ⟨w.heap.size + 1, 1, none⟩ = some (.int .i64 s.q) ∧ W1.drew.cell? ⟨w.heap.size + 1, 2, none⟩ = some (.int .i64 s.d) ∧ W1.drew.cell? ⟨wr.heap.size, 1, none⟩ = some (.int .i64 a)) := ⟨(HS2.out.drew).cell (i := 0) rfl, (HS2.out.drew).cell (i := 1) rfl, (HS2.out.drew).cell (i := 2) rfl, (HP2.out.drew).cell (i := 1) rfl⟩
          have HSS3 : Hid (IsS W1 (.agg #[.slice (some ⟨b2, off2, none⟩) 2 cap2, .int .i64 s.q, .int .i64 s.d]) s) := HSS.out.below (HB0.out.trans (HB2.out.mono hz0))
          have HBw : Hid (Below w.heap.size w W1) := HB0.out.trans (HB2.out.mono hz0)
          have hzw := HBw.out.size
          have dneg : vecAt c0 c1 c2 c3 (a : Int) < 0 := by omega
          clear hRe
          go_wp2
          clear hW1 g0 g1' g2 g3 c0' p1 dc
          go_region_held3 (fun W => W.cell? ⟨w.heap.size + 1, 0, none⟩ = some (.slice (some ⟨b2, off2, none⟩) 2 cap2) ∧ W.cell? ⟨w.heap.size + 1, 1, none⟩ = some (.int .i64 s.q) ∧ W.cell? ⟨w.heap.size + 1, 2, none⟩ = some (.int .i64 s.d) ∧ W.cell? ⟨wr.heap.size, 1, none⟩ = some (.int .i64 a)) (first | with_reducible exact HQ0.out | with_reducible exact HQ1.out | with_reducible exact HQ2.out)
            (first | (go_at_call 164; refine (sOwn _ s _ (HSS3.out.below ((Below.refl _ W1).drew)) h2).mono ?_; rintro r w4 ⟨gc, cc, rfl, hown, hb4⟩; have hb5 : Below W1.heap.size W1 w4 := (Below.refl _ W1).drew.trans hb4; have HB4 : Hid (Below w.heap.size w w4) := HBw.out.trans (hb5.mono hzw); have hS4 := HS2.out.below hb5; have hP4 := HP2.out.below hb5; have hR4 := HR2.out.below hb5; have HQ1 : Hid (w4.cell? ⟨w.heap.size + 1, 0, none⟩ = some (.slice (some ⟨b2, off2, none⟩) 2 cap2) ∧ w4.cell? ⟨w.heap.size + 1, 1, none⟩ = some (.int .i64 s.q) ∧ w4.cell? ⟨w.heap.size + 1, 2, none⟩ = some (.int .i64 s.d) ∧ w4.cell? ⟨wr.heap.size, 1, none⟩ = some (.int .i64 a)) := ⟨(hS4).cell (i := 0) rfl, (hS4).cell (i := 1) rfl, (hS4).cell (i := 2) rfl, (hP4).cell (i := 1) rfl⟩; have htt := put6_turns w4 (w.heap.size + 1 + 1 + 1) (vReg gc cc) (.int .i64 s.q) (.int .i64 s.d) (.slice none 0 0) (.slice none 0 0) (.int .i64 (a : Int)); have HQ2 : Hid ((put6 w4 (w.heap.size + 1 + 1 + 1) (vReg gc cc) (.int .i64 s.q) (.int .i64 s.d) (.slice none 0 0) (.slice none 0 0) (.int .i64 (a : Int))).cell? ⟨w.heap.size + 1, 0, none⟩ = some (.slice (some ⟨b2, off2, none⟩) 2 cap2) ∧ (put6 w4 (w.heap.size + 1 + 1 + 1) (vReg gc cc) (.int .i64 s.q) (.int .i64 s.d) (.slice none 0 0) (.slice none 0 0) (.int .i64 (a : Int))).cell? ⟨w.heap.size + 1, 1, none⟩ = some (.int .i64 s.q) ∧ (put6 w4 (w.heap.size + 1 + 1 + 1) (vReg gc cc) (.int .i64 s.q) (.int .i64 s.d) (.slice none 0 0) (.slice none 0 0) (.int .i64 (a : Int))).cell? ⟨w.heap.size + 1, 2, none⟩ = some (.int .i64 s.d) ∧ (put6 w4 (w.heap.size + 1 + 1 + 1) (vReg gc cc) (.int .i64 s.q) (.int .i64 s.d) (.slice none 0 0) (.slice none 0 0) (.int .i64 (a : Int))).cell? ⟨wr.heap.size, 1, none⟩ = some (.int .i64 a)) := ⟨(hS4.turns htt (fun e => by omega)).cell (i := 0) rfl, (hS4.turns htt (fun e => by omega)).cell (i := 1) rfl, (hS4.turns htt (fun e => by omega)).cell (i := 2) rfl, (hP4.turns htt (fun e => by omega)).cell (i := 1) rfl⟩; have HR4 : Hid (Bk w4 (w.heap.size + 1 + 1 + 1) 54 #[.slice none 0 0, .int .i64 0, .int .i64 0, .slice none 0 0, .slice none 0 0, .int .i64 0]) := hR4; have HO4 : Hid (w4.ownsRow w.heap.size 3 1 (vReg gc cc) 2 [.int .i64 (intAt s.r 0), .int .i64 (intAt s.r 1)]) := own_mono hown hzw; have r0 := hR4.cell (i := 0) rfl; have r1 := hR4.cell (i := 1) rfl; have r2 := hR4.cell (i := 2) rfl; have r3 := hR4.cell (i := 3) rfl; have r4 := hR4.cell (i := 4) rfl; have r5 := hR4.cell (i := 5) rfl; have rf := hR4.free; clear hown hb4 hb5 hS4 hP4 hR4 htt))
          clear r0 r1 r2 r3 r4 r5 rf HQ0 HQ1 HQ2
          obtain ⟨X5, hX5⟩ : ∃ X5, put6 w4 (w.heap.size + 1 + 1 + 1) (vReg gc cc) (.int .i64 s.q) (.int .i64 s.d) (.slice none 0 0) (.slice none 0 0) (.int .i64 (a : Int)) = X5 := ⟨_, rfl⟩
          have hR := HR4.out.put6 (vReg gc cc) (.int .i64 s.q) (.int .i64 s.d) (.slice none 0 0) (.slice none 0 0) (.int .i64 (a : Int))
          have ht := put6_turns w4 (w.heap.size + 1 + 1 + 1) (vReg gc cc) (.int .i64 s.q) (.int .i64 s.d) (.slice none 0 0) (.slice none 0 0) (.int .i64 (a : Int))
          rw [hX5] at hR ht
          unfold put6 at hX5
          rw [hX5]
          have t0 := hR.cell (i := 0) rfl
          have t1 := hR.cell (i := 1) rfl
          have t2 := hR.cell (i := 2) rfl
          have t3 := hR.cell (i := 3) rfl
          have t4 := hR.cell (i := 4) rfl
          have t5 := hR.cell (i := 5) rfl
          have hs5 := ht.size
          go_wp2
          refine bodyPost_ret (v := .agg #[vReg gc cc, .int .i64 s.q, .int .i64 s.d, .slice none 0 0, .slice none 0 0, .int .i64 (a : Int)]) (by simp [results, Tryz.results144, go_sem, t0, t1, t2, t3, t4, t5]) rfl ⟨_, rfl, HB4.out.trans (ht.to_below (fun k e => by omega) HB4.out.size), ?_⟩
          rw [HEF2.out]
          have hn : ∀ (T' : TypeId), T' ≠ 54 → ∀ k cur, w4.heap[k]? = some (.cells cur T') → ¬ k = (w.heap.size + 1 + 1 + 1) := fun T' hT k cur e1 e2 => by
            have e3 : w4.heap[(w.heap.size + 1 + 1 + 1)]? = some (.cells #[.slice none 0 0, .int .i64 0, .int .i64 0, .slice none 0 0, .slice none 0 0, .int .i64 0] 54) := HR4.out
            rw [e2, e3] at e1
            cases e1
            exact hT rfl
          exact ef_of (r := [intAt s.r 0, intAt s.r 1]) (s := []) (x := []) (own_turns HO4.out ht (hn _ (by decide))) (World.ownsRow_nil _ _ _ _) (World.ownsRow_nil _ _ _ _)
        · obtain ⟨q, rfl⟩ : ∃ q : Nat, ob = (q : Int) := ⟨(ob).toNat, by omega⟩
          have hq1 : q ≤ 1 := by omega
          have hq2 : (q : Int) < 2 := by omega
          have rc := HE2.out.reg q hq1
          have rfz := HE2.out.free q
          have HE3 : Hid (Eff W0.heap.size (W1.drew.setCell ⟨g, q, none⟩ (.int .i64 (vecAt c0 c1 c2 c3 a))) w1.heap.size 54 [] (t.put q (vecAt c0 c1 c2 c3 a)) (-1) g cap us ux) := HE2.out.drew.put q hq1 _
          have HB3 : Hid (Below W0.heap.size W0 (W1.drew.setCell ⟨g, q, none⟩ (.int .i64 (vecAt c0 c1 c2 c3 a)))) := HB2.out.drew.setCell (p := ⟨g, q, none⟩) hgB _
          have hoP : wr.heap.size ≠ g := by omega
          have hoD : bd ≠ g := by omega
          have dcd : W1.drew.cell? ⟨bd, offd + a, none⟩ = some (.int .i64 (vecAt c0 c1 c2 c3 a)) := dc
          have HS0 : Hid (W1.drew.cell? ⟨wr.heap.size, 1, none⟩ = some (.int .i64 a) ∧ W1.drew.cell? ⟨wr.heap.size, 2, none⟩ = some (.int .i64 q) ∧ W1.drew.cell? ⟨w1.heap.size, 0, none⟩ = some (vReg g cap) ∧ W1.drew.cell? ⟨bd, offd + a, none⟩ = some (.int .i64 (vecAt c0 c1 c2 c3 a))) := ⟨HP2.out.drew.cell (i := 1) rfl, HP2.out.drew.cell (i := 2) rfl, HE2.out.drew.blk.cell (i := 0) rfl, dcd⟩
          have HS4 : Hid ((W1.drew.setCell ⟨g, q, none⟩ (.int .i64 (vecAt c0 c1 c2 c3 a))).cell? ⟨wr.heap.size, 1, none⟩ = some (.int .i64 a) ∧ (W1.drew.setCell ⟨g, q, none⟩ (.int .i64 (vecAt c0 c1 c2 c3 a))).cell? ⟨wr.heap.size, 2, none⟩ = some (.int .i64 q) ∧ (W1.drew.setCell ⟨g, q, none⟩ (.int .i64 (vecAt c0 c1 c2 c3 a))).cell? ⟨w1.heap.size, 0, none⟩ = some (vReg g cap) ∧ (W1.drew.setCell ⟨g, q, none⟩ (.int .i64 (vecAt c0 c1 c2 c3 a))).cell? ⟨bd, offd + a, none⟩ = some (.int .i64 (vecAt c0 c1 c2 c3 a))) := ⟨(HP2.out.drew.other q _ hoP).cell (i := 1) rfl, (HP2.out.drew.other q _ hoP).cell (i := 2) rfl, (HE2.out.drew.blk.other q _ hne).cell (i := 0) rfl, far_eq rfl hoD dcd⟩
          have dneg : ¬ vecAt c0 c1 c2 c3 (a : Int) < 0 := by omega
          go_wp2
          clear hW1 g0 g1' g2 g3 c0' p1 dc dcd
          go_region_held3 (fun W => W.cell? ⟨wr.heap.size, 1, none⟩ = some (.int .i64 a) ∧ W.cell? ⟨wr.heap.size, 2, none⟩ = some (.int .i64 q) ∧ W.cell? ⟨w1.heap.size, 0, none⟩ = some (vReg g cap) ∧ W.cell? ⟨bd, offd + a, none⟩ = some (.int .i64 (vecAt c0 c1 c2 c3 a))) (first | with_reducible exact HS0.out | exact HS4.out) (fail)
          clear HS0 HS4 rc rfz
          have hwn : ¬ waitsO [c0, c1, c2, c3] (⟨4, (a : Int), (q : Int), ok⟩ : O) := (fun h => by have h2 : intAt [c0, c1, c2, c3] (a : Int).toNat < 0 := h.2; rw [vec_at c0 c1 c2 c3 (by omega) (by omega)] at h2; omega)
          obtain ⟨f', hf', hr'⟩ := HST.out RR HRN.out hwn
          have hps : passes (⟨4, (a : Int), (q : Int), ok⟩ : O) t = 0 := by simp [passes]
          have hgs : GoodT (stepO m.s [c0, c1, c2, c3] e (⟨4, (a : Int), (q : Int), ok⟩ : O) t) (j + 1) := HG1.out.step HOO.out (fun h4 => by show 0 ≤ intAt [c0, c1, c2, c3] (a : Int).toNat ∧ intAt [c0, c1, c2, c3] (a : Int).toNat ≤ 1; rw [vec_at c0 c1 c2 c3 (by omega) (by omega)]; omega)
          have hst : stepO m.s [c0, c1, c2, c3] e (⟨4, (a : Int), (q : Int), ok⟩ : O) t = (t.put q (vecAt c0 c1 c2 c3 a)) := by rw [← vec_at c0 c1 c2 c3 (by omega) (by omega)]; simp [stepO]
          rw [hps] at hf' hr'
          rw [hst] at hr' hgs
          have HI : Hid (ShInv W0.heap.size w1.heap.size W0 (W1.drew.setCell ⟨g, q, none⟩ (.int .i64 (vecAt c0 c1 c2 c3 a))) m.s [c0, c1, c2, c3] e l RR (i + 1 + 0)) := ⟨⟨f', _, j + 1, g, cap, _, _, HE3.out, hgs, by omega, by omega, hf', hr'⟩, HB3.out, by omega⟩
          clear hf' hr' hgs hst hps
          go_wp2
          go_roundw
          case rel => exact ⟨i + 1 + 0, by go_num, HI.out⟩
          case measure => simp [intOf]; omega
      · obtain ⟨q, rfl⟩ : ∃ q : Nat, oa = (q : Int) := ⟨(oa).toNat, by omega⟩
        have hq1 : q ≤ 1 := by omega
        have hq2 : (q : Int) < 2 := by omega
        obtain ⟨hr0, hr1⟩ := HG1.out.reg (q : Int)
        have hS : W1.cell? ⟨w1.heap.size, 4, none⟩ = some ux := HE2.out.blk.cell (i := 4) rfl
        have hlen : t.x.length ≤ 8 := by have := HG1.out.x1; omega
        have HS0 : Hid (W1.drew.cell? ⟨wr.heap.size, 1, none⟩ = some (.int .i64 q) ∧ W1.drew.cell? ⟨wr.heap.size, 2, none⟩ = some (.int .i64 ob) ∧ W1.drew.cell? ⟨wr.heap.size, 3, none⟩ = some (.int .i64 ok) ∧ W1.drew.cell? ⟨w.heap.size + 1 + 1, 0, none⟩ = some (.int .i64 e.t) ∧ W1.drew.cell? ⟨w.heap.size + 1 + 1, 3, none⟩ = some (.int .i64 e.d) ∧ W1.drew.cell? ⟨w1.heap.size, 0, none⟩ = some (vReg g cap) ∧ W1.drew.cell? ⟨g, q, none⟩ = some (.int .i64 (t.reg q))) := ⟨(HP2.out.drew).cell (i := 1) rfl, (HP2.out.drew).cell (i := 2) rfl, (HP2.out.drew).cell (i := 3) rfl, (HV2.out.drew).cell (i := 0) rfl, (HV2.out.drew).cell (i := 3) rfl, (HE2.out.drew).blk.cell (i := 0) rfl, (HE2.out.drew).reg q hq1⟩
        have HS1 : Hid ((W1.drew.alloc (.cells #[.int .i64 e.t, .int .i64 e.d, .int .i64 (t.reg q)] 61)).cell? ⟨wr.heap.size, 1, none⟩ = some (.int .i64 q) ∧ (W1.drew.alloc (.cells #[.int .i64 e.t, .int .i64 e.d, .int .i64 (t.reg q)] 61)).cell? ⟨wr.heap.size, 2, none⟩ = some (.int .i64 ob) ∧ (W1.drew.alloc (.cells #[.int .i64 e.t, .int .i64 e.d, .int .i64 (t.reg q)] 61)).cell? ⟨wr.heap.size, 3, none⟩ = some (.int .i64 ok) ∧ (W1.drew.alloc (.cells #[.int .i64 e.t, .int .i64 e.d, .int .i64 (t.reg q)] 61)).cell? ⟨w.heap.size + 1 + 1, 0, none⟩ = some (.int .i64 e.t) ∧ (W1.drew.alloc (.cells #[.int .i64 e.t, .int .i64 e.d, .int .i64 (t.reg q)] 61)).cell? ⟨w.heap.size + 1 + 1, 3, none⟩ = some (.int .i64 e.d) ∧ (W1.drew.alloc (.cells #[.int .i64 e.t, .int .i64 e.d, .int .i64 (t.reg q)] 61)).cell? ⟨w1.heap.size, 0, none⟩ = some (vReg g cap) ∧ (W1.drew.alloc (.cells #[.int .i64 e.t, .int .i64 e.d, .int .i64 (t.reg q)] 61)).cell? ⟨g, q, none⟩ = some (.int .i64 (t.reg q))) := ⟨(HP2.out.drew.alloc (.cells #[.int .i64 e.t, .int .i64 e.d, .int .i64 (t.reg q)] 61)).cell (i := 1) rfl, (HP2.out.drew.alloc (.cells #[.int .i64 e.t, .int .i64 e.d, .int .i64 (t.reg q)] 61)).cell (i := 2) rfl, (HP2.out.drew.alloc (.cells #[.int .i64 e.t, .int .i64 e.d, .int .i64 (t.reg q)] 61)).cell (i := 3) rfl, (HV2.out.drew.alloc (.cells #[.int .i64 e.t, .int .i64 e.d, .int .i64 (t.reg q)] 61)).cell (i := 0) rfl, (HV2.out.drew.alloc (.cells #[.int .i64 e.t, .int .i64 e.d, .int .i64 (t.reg q)] 61)).cell (i := 3) rfl, (HE2.out.drew.alloc (.cells #[.int .i64 e.t, .int .i64 e.d, .int .i64 (t.reg q)] 61)).blk.cell (i := 0) rfl, (HE2.out.drew.alloc (.cells #[.int .i64 e.t, .int .i64 e.d, .int .i64 (t.reg q)] 61)).reg q hq1⟩
        have HE1 : Hid (Eff W0.heap.size (W1.drew.alloc (.cells #[.int .i64 e.t, .int .i64 e.d, .int .i64 (t.reg q)] 61)) w1.heap.size 54 [] t (-1) g cap us ux) := HE2.out.drew.alloc _
        have HP1 : Hid (Bk (W1.drew.alloc (.cells #[.int .i64 e.t, .int .i64 e.d, .int .i64 (t.reg q)] 61)) wr.heap.size 181 #[.int .i64 5, .int .i64 q, .int .i64 ob, .int .i64 ok]) := HP2.out.drew.alloc _
        have HV1 : Hid (Bk (W1.drew.alloc (.cells #[.int .i64 e.t, .int .i64 e.d, .int .i64 (t.reg q)] 61)) (w.heap.size + 1 + 1) 50 #[.int .i64 e.t, .int .i64 e.s, .int .i64 e.q, .int .i64 e.d, .int .i64 e.k, .int .i64 e.v, .int .i64 e.g]) := HV2.out.drew.alloc _
        have hSb : (W1.alloc (.cells #[.int .i64 e.t, .int .i64 e.d, .int .i64 (t.reg q)] 61)).cell? ⟨w1.heap.size, 4, none⟩ = some ux := HE1.out.blk.cell (i := 4) rfl
        have hsz1 : W0.heap.size ≤ (W1.drew.alloc (.cells #[.int .i64 e.t, .int .i64 e.d, .int .i64 (t.reg q)] 61)).heap.size := HE1.out.le.1
        obtain ⟨i0, hi0, hz0', hz1', hz2'⟩ := info_parts infoEm
        have hoP : wr.heap.size ≠ w1.heap.size := by omega
        have hoV : (w.heap.size + 1 + 1) ≠ w1.heap.size := by omega
        have hszd : W0.heap.size ≤ W1.drew.heap.size := by show W0.heap.size ≤ W1.heap.size; omega
        go_wp2
        clear hW1 g0 g1' g2 g3 c0'
        refine wp_region_held_drew (S := fun W => W.cell? ⟨wr.heap.size, 1, none⟩ = some (.int .i64 q) ∧ W.cell? ⟨wr.heap.size, 2, none⟩ = some (.int .i64 ob) ∧ W.cell? ⟨wr.heap.size, 3, none⟩ = some (.int .i64 ok) ∧ W.cell? ⟨w.heap.size + 1 + 1, 0, none⟩ = some (.int .i64 e.t) ∧ W.cell? ⟨w.heap.size + 1 + 1, 3, none⟩ = some (.int .i64 e.d) ∧ W.cell? ⟨w1.heap.size, 0, none⟩ = some (vReg g cap) ∧ W.cell? ⟨g, q, none⟩ = some (.int .i64 (t.reg q))) (by kernel_rfl) HS0.out (fun hHeld => ?_)
        refine wpAnyH_take (i := 0) (oi := { dst := some 34, op := Op.fieldAddr 54 (Operand.tmp 9) 2, type := 0, pos := _, after := _, guard := none }) (v := .pointer (some ⟨w1.heap.size, 4, none⟩)) rfl (by kernel_rfl) (by kernel_rfl) (by kernel_rfl) (fun _ _ _ h => h) (Or.inl ⟨by rfl, ?_⟩) (by assumption) ?_
        · intro wX hSw
          try dsimp only at hSw
          go_simp
        try simp only [Act.put, List.setIfInBounds_toArray, List.set_cons_zero, List.set_cons_succ]
        refine wpAnyH_take (i := 2) (oi := { dst := some 36, op := Op.fieldAddr 50 (Operand.tmp 7) 0, type := 0, pos := _, after := _, guard := none }) (v := .pointer (some ⟨w.heap.size + 1 + 1, 0, none⟩)) rfl (by kernel_rfl) (by kernel_rfl) (by kernel_rfl) (fun _ _ _ h => h) (Or.inl ⟨by rfl, ?_⟩) (by assumption) ?_
        · intro wX hSw
          try dsimp only at hSw
          go_simp
        try simp only [Act.put, List.setIfInBounds_toArray, List.set_cons_zero, List.set_cons_succ]
        refine wpAnyH_take (i := 3) (oi := { dst := some 37, op := Op.load 3 (Operand.tmp 36), type := 3, pos := _, after := _, guard := none }) (v := .int .i64 e.t) rfl (by kernel_rfl) (by kernel_rfl) (by kernel_rfl) (fun _ _ _ h => h) (Or.inl ⟨by rfl, ?_⟩) (by assumption) ?_
        · intro wX hSw
          try dsimp only at hSw
          go_simp
        try simp only [Act.put, List.setIfInBounds_toArray, List.set_cons_zero, List.set_cons_succ]
        refine wpAnyH_take (i := 4) (oi := { dst := some 38, op := Op.fieldAddr 50 (Operand.tmp 7) 3, type := 0, pos := _, after := _, guard := none }) (v := .pointer (some ⟨w.heap.size + 1 + 1, 3, none⟩)) rfl (by kernel_rfl) (by kernel_rfl) (by kernel_rfl) (fun _ _ _ h => h) (Or.inl ⟨by rfl, ?_⟩) (by assumption) ?_
        · intro wX hSw
          try dsimp only at hSw
          go_simp
        try simp only [Act.put, List.setIfInBounds_toArray, List.set_cons_zero, List.set_cons_succ]
        refine wpAnyH_take (i := 5) (oi := { dst := some 39, op := Op.load 3 (Operand.tmp 38), type := 3, pos := _, after := _, guard := none }) (v := .int .i64 e.d) rfl (by kernel_rfl) (by kernel_rfl) (by kernel_rfl) (fun _ _ _ h => h) (Or.inl ⟨by rfl, ?_⟩) (by assumption) ?_
        · intro wX hSw
          try dsimp only at hSw
          go_simp
        try simp only [Act.put, List.setIfInBounds_toArray, List.set_cons_zero, List.set_cons_succ]
        refine wpAnyH_take (i := 6) (oi := { dst := some 40, op := Op.fieldAddr 54 (Operand.tmp 9) 0, type := 0, pos := _, after := _, guard := none }) (v := .pointer (some ⟨w1.heap.size, 0, none⟩)) rfl (by kernel_rfl) (by kernel_rfl) (by kernel_rfl) (fun _ _ _ h => h) (Or.inl ⟨by rfl, ?_⟩) (by assumption) ?_
        · intro wX hSw
          try dsimp only at hSw
          go_simp
        try simp only [Act.put, List.setIfInBounds_toArray, List.set_cons_zero, List.set_cons_succ]
        refine wpAnyH_take (i := 7) (oi := { dst := some 41, op := Op.fieldAddr 48 (Operand.tmp 40) 0, type := 0, pos := _, after := _, guard := none }) (v := .pointer (some ⟨w1.heap.size, 0, none⟩)) rfl (by kernel_rfl) (by kernel_rfl) (by kernel_rfl) (fun _ _ _ h => h) (Or.inl ⟨by rfl, ?_⟩) (by assumption) ?_
        · intro wX hSw
          try dsimp only at hSw
          go_simp
        try simp only [Act.put, List.setIfInBounds_toArray, List.set_cons_zero, List.set_cons_succ]
        refine wpAnyH_take (i := 8) (oi := { dst := some 42, op := Op.load 22 (Operand.tmp 41), type := 22, pos := _, after := _, guard := none }) (v := vReg g cap) rfl (by kernel_rfl) (by kernel_rfl) (by kernel_rfl) (fun _ _ _ h => h) (Or.inl ⟨by rfl, ?_⟩) (by assumption) ?_
        · intro wX hSw
          try dsimp only at hSw
          go_simp
        try simp only [Act.put, List.setIfInBounds_toArray, List.set_cons_zero, List.set_cons_succ]
        refine wpAnyH_take (i := 9) (oi := { dst := some 43, op := Op.fieldAddr 181 (Operand.tmp 12) 1, type := 0, pos := _, after := _, guard := none }) (v := .pointer (some ⟨wr.heap.size, 1, none⟩)) rfl (by kernel_rfl) (by kernel_rfl) (by kernel_rfl) (fun _ _ _ h => h) (Or.inl ⟨by rfl, ?_⟩) (by assumption) ?_
        · intro wX hSw
          try dsimp only at hSw
          go_simp
        try simp only [Act.put, List.setIfInBounds_toArray, List.set_cons_zero, List.set_cons_succ]
        refine wpAnyH_take (i := 10) (oi := { dst := some 44, op := Op.load 3 (Operand.tmp 43), type := 3, pos := _, after := _, guard := none }) (v := .int .i64 q) rfl (by kernel_rfl) (by kernel_rfl) (by kernel_rfl) (fun _ _ _ h => h) (Or.inl ⟨by rfl, ?_⟩) (by assumption) ?_
        · intro wX hSw
          try dsimp only at hSw
          go_simp
        try simp only [Act.put, List.setIfInBounds_toArray, List.set_cons_zero, List.set_cons_succ]
        refine wpAnyH_take (i := 11) (oi := { dst := some 45, op := Op.indexAddr 22 (Operand.tmp 42) (Operand.tmp 44), type := 0, pos := _, after := _, guard := none }) (v := .pointer (some ⟨g, q, none⟩)) rfl (by kernel_rfl) (by kernel_rfl) (by kernel_rfl) (fun _ _ _ h => h) (Or.inl ⟨by rfl, ?_⟩) (by assumption) ?_
        · intro wX hSw
          try dsimp only at hSw
          go_simp
        try simp only [Act.put, List.setIfInBounds_toArray, List.set_cons_zero, List.set_cons_succ]
        refine wpAnyH_take (i := 12) (oi := { dst := some 46, op := Op.load 3 (Operand.tmp 45), type := 3, pos := _, after := _, guard := none }) (v := .int .i64 (t.reg q)) rfl (by kernel_rfl) (by kernel_rfl) (by kernel_rfl) (fun _ _ _ h => h) (Or.inl ⟨by rfl, ?_⟩) (by assumption) ?_
        · intro wX hSw
          try dsimp only at hSw
          go_simp
        try simp only [Act.put, List.setIfInBounds_toArray, List.set_cons_zero, List.set_cons_succ]
        refine wpAnyH_take (i := 13) (oi := { dst := some 47, op := Op.build 61 #[(0, Operand.tmp 37), (1, Operand.tmp 39), (2, Operand.tmp 46)], type := 61, pos := _, after := _, guard := none }) (v := .agg #[.int .i64 e.t, .int .i64 e.d, .int .i64 (t.reg q)]) rfl (by kernel_rfl) (by kernel_rfl) (by kernel_rfl) (fun _ _ _ h => h) (Or.inl ⟨by rfl, ?_⟩) (by assumption) ?_
        · intro wX hSw
          try dsimp only at hSw
          go_simp
        try simp only [Act.put, List.setIfInBounds_toArray, List.set_cons_zero, List.set_cons_succ]
        refine wpAnyH_ready (rs := [1, 14]) (by kernel_rfl) (by simp) ?_
        refine AllReadyH.cons (o := { dst := some 35, op := Op.load 29 (Operand.tmp 34), type := 29, pos := _, after := _, guard := none }) rfl (fun K hK => ?_) (AllReadyH.cons (o := { dst := some 48, op := Op.buildSlice 29 1 #[(0, Operand.tmp 47)], type := 29, pos := _, after := _, guard := none }) rfl (fun K hK => ?_) AllReadyH.nil)
        · go_simp
          refine hK.out _ _ HS0.out (fun hHeld => ?_)
          clear hK K
          try simp only [Act.put, List.setIfInBounds_toArray, List.set_cons_zero, List.set_cons_succ]
          refine wpAnyH_ready (rs := [14]) (by kernel_rfl) (by simp) ?_
          refine AllReadyH.cons (o := { dst := some 48, op := Op.buildSlice 29 1 #[(0, Operand.tmp 47)], type := 29, pos := _, after := _, guard := none }) rfl (fun K hK => ?_) AllReadyH.nil
          go_simp
          refine hK.out _ _ HS1.out (fun hHeld => ?_)
          clear hK K
          try simp only [Act.put, List.setIfInBounds_toArray, List.set_cons_zero, List.set_cons_succ]
          refine wpAnyH_ready (rs := [15]) (by kernel_rfl) (by simp) ?_
          refine AllReadyH.cons (o := { dst := some 49, op := Op.call { callee := Callee.builtin Builtin.append, args := #[Operand.tmp 35, Operand.tmp 48], argTypes := #[29, 29] }, type := 29, pos := _, after := _, guard := none }) rfl (fun K hK => ?_) AllReadyH.nil
          refine step_append_own (w := W1.drew.alloc (.cells #[.int .i64 e.t, .int .i64 e.d, .int .i64 (t.reg q)] 61)) rfl (.tmp 35) (.tmp 48) 29 rfl W0.heap.size 61 i0 (.agg #[.int .i64 0, .int .i64 0, .int .i64 0]) 3 24 Tryz.underlying29 hi0 hz0' hz1' hz2' rfl (by decide) ux t.x.length (cellsX t.x) rfl HE1.out.x ⟨W1.heap.size, 0, none⟩ 1 1 ((⟨e.t, e.d, t.reg q⟩ : Em).cs) rfl rfl (at_newX W1.drew (⟨e.t, e.d, t.reg q⟩ : Em)) (em_ones (⟨e.t, e.d, t.reg q⟩ : Em)) (by unfold maxLen; omega) (by omega) hsz1 ?_
          intro u3 w3 hown3 hgrow3
          obtain ⟨a3, cq3, hv3⟩ := own_slice hown3
          subst hv3
          have hb3 := HE1.out.blk.grown hgrow3 (HE1.out.blk.off HE1.out.x HE1.out.ty.2.2)
          have kS : w3.cell? ⟨w1.heap.size, 4, none⟩ = some ux := hb3.cell (i := 4) rfl
          have fS : w3.frozen? ⟨w1.heap.size, 4, none⟩ = false := hb3.free 4
          have hr3 := HE1.out.r.kept hgrow3 (own_apart HE1.out.r HE1.out.x (by decide))
          have hP3 := HP1.out.grown hgrow3 (HP1.out.off HE1.out.x (by decide))
          have hV3 : Bk w3 (w.heap.size + 1 + 1) 50 #[.int .i64 e.t, .int .i64 e.s, .int .i64 e.q, .int .i64 e.d, .int .i64 e.k, .int .i64 e.v, .int .i64 e.g] := HV1.out.grown hgrow3 (fun e1 => by have := row_ge HE1.out.x e1.symm; omega)
          have HS3 : Hid (w3.cell? ⟨wr.heap.size, 1, none⟩ = some (.int .i64 q) ∧ w3.cell? ⟨wr.heap.size, 2, none⟩ = some (.int .i64 ob) ∧ w3.cell? ⟨wr.heap.size, 3, none⟩ = some (.int .i64 ok) ∧ w3.cell? ⟨w.heap.size + 1 + 1, 0, none⟩ = some (.int .i64 e.t) ∧ w3.cell? ⟨w.heap.size + 1 + 1, 3, none⟩ = some (.int .i64 e.d) ∧ w3.cell? ⟨w1.heap.size, 0, none⟩ = some (vReg g cap) ∧ w3.cell? ⟨g, q, none⟩ = some (.int .i64 (t.reg q))) := ⟨hP3.cell (i := 1) rfl, hP3.cell (i := 2) rfl, hP3.cell (i := 3) rfl, hV3.cell (i := 0) rfl, hV3.cell (i := 3) rfl, hb3.cell (i := 0) rfl, regOf hr3 hq1⟩
          have HE4 : Hid (Eff W0.heap.size (w3.setCell ⟨w1.heap.size, 4, none⟩ (.slice a3 (t.x.length + 1) cq3)) w1.heap.size 54 [] { t with x := t.x ++ [(⟨e.t, e.d, t.reg q⟩ : Em)] } (-1) g cap us (.slice a3 (t.x.length + 1) cq3)) := HE1.out.told hown3 hgrow3
          have HS4 : Hid ((w3.setCell ⟨w1.heap.size, 4, none⟩ (.slice a3 (t.x.length + 1) cq3)).cell? ⟨wr.heap.size, 1, none⟩ = some (.int .i64 q) ∧ (w3.setCell ⟨w1.heap.size, 4, none⟩ (.slice a3 (t.x.length + 1) cq3)).cell? ⟨wr.heap.size, 2, none⟩ = some (.int .i64 ob) ∧ (w3.setCell ⟨w1.heap.size, 4, none⟩ (.slice a3 (t.x.length + 1) cq3)).cell? ⟨wr.heap.size, 3, none⟩ = some (.int .i64 ok) ∧ (w3.setCell ⟨w1.heap.size, 4, none⟩ (.slice a3 (t.x.length + 1) cq3)).cell? ⟨w.heap.size + 1 + 1, 0, none⟩ = some (.int .i64 e.t) ∧ (w3.setCell ⟨w1.heap.size, 4, none⟩ (.slice a3 (t.x.length + 1) cq3)).cell? ⟨w.heap.size + 1 + 1, 3, none⟩ = some (.int .i64 e.d) ∧ (w3.setCell ⟨w1.heap.size, 4, none⟩ (.slice a3 (t.x.length + 1) cq3)).cell? ⟨w1.heap.size, 0, none⟩ = some (vReg g cap) ∧ (w3.setCell ⟨w1.heap.size, 4, none⟩ (.slice a3 (t.x.length + 1) cq3)).cell? ⟨g, q, none⟩ = some (.int .i64 (t.reg q))) := ⟨(hP3.other 4 _ hoP).cell (i := 1) rfl, (hP3.other 4 _ hoP).cell (i := 2) rfl, (hP3.other 4 _ hoP).cell (i := 3) rfl, (hV3.other 4 _ hoV).cell (i := 0) rfl, (hV3.other 4 _ hoV).cell (i := 3) rfl, HE4.out.blk.cell (i := 0) rfl, (HE4.out).reg q hq1⟩
          have HB4 : Hid (Below W0.heap.size W0 (w3.setCell ⟨w1.heap.size, 4, none⟩ (.slice a3 (t.x.length + 1) cq3))) := ((HB2.out.drew.alloc hszd _).grown hgrow3 hsz1 (fun k e => row_ge HE1.out.x e)).setCell (p := ⟨w1.heap.size, 4, none⟩) HE1.out.lo _
          refine hK.out _ _ HS3.out (fun hHeld => ?_)
          clear hK K
          try simp only [Act.put, List.setIfInBounds_toArray, List.set_cons_zero, List.set_cons_succ]
          refine wpAnyH_take (i := 16) (oi := { dst := some 50, op := Op.fieldAddr 54 (Operand.tmp 9) 2, type := 0, pos := _, after := _, guard := none }) (v := .pointer (some ⟨w1.heap.size, 4, none⟩)) rfl (by kernel_rfl) (by kernel_rfl) (by kernel_rfl) (fun _ _ _ h => h) (Or.inl ⟨by rfl, ?_⟩) (by assumption) ?_
          · intro wX hSw
            try dsimp only at hSw
            go_simp
          try simp only [Act.put, List.setIfInBounds_toArray, List.set_cons_zero, List.set_cons_succ]
          refine wpAnyH_ready (rs := [17]) (by kernel_rfl) (by simp) ?_
          refine AllReadyH.cons (o := { dst := none, op := Op.store 29 (Operand.tmp 50) (Operand.tmp 49), type := 0, pos := _, after := _, guard := none }) rfl (fun K hK => ?_) AllReadyH.nil
          go_simp
          refine hK.out _ _ HS4.out (fun hHeld => ?_)
          clear hK K
          try simp only [Act.put, List.setIfInBounds_toArray, List.set_cons_zero, List.set_cons_succ]
          refine wpAnyH_done (by kernel_rfl) ?_ _
          clear hS hSb kS fS HS0 HS1 HS3 HS4 hown3 hgrow3 hb3 hr3 hP3 hV3
          generalize w3.setCell ⟨w1.heap.size, 4, none⟩ (.slice a3 (t.x.length + 1) cq3) = V at HE4 HB4 ⊢
          have hwn : ¬ waitsO [c0, c1, c2, c3] (⟨5, (q : Int), ob, ok⟩ : O) := (fun h => absurd h.1 (by show ¬ (5 : Int) = 4; decide))
          obtain ⟨f', hf', hr'⟩ := HST.out RR HRN.out hwn
          have hps : passes (⟨5, (q : Int), ob, ok⟩ : O) t = 0 := by simp [passes]
          have hgs : GoodT (stepO m.s [c0, c1, c2, c3] e (⟨5, (q : Int), ob, ok⟩ : O) t) (j + 1) := HG1.out.step HOO.out (fun h4 => absurd h4 (by show ¬ (5 : Int) = 4; decide))
          have hst : stepO m.s [c0, c1, c2, c3] e (⟨5, (q : Int), ob, ok⟩ : O) t = { t with x := t.x ++ [(⟨e.t, e.d, t.reg q⟩ : Em)] } := by simp [stepO]
          rw [hps] at hf' hr'
          rw [hst] at hr' hgs
          have HI : Hid (ShInv W0.heap.size w1.heap.size W0 V m.s [c0, c1, c2, c3] e l RR (i + 1 + 0)) := ⟨⟨f', _, j + 1, g, cap, _, _, HE4.out, hgs, by omega, by omega, hf', hr'⟩, HB4.out, by omega⟩
          clear hf' hr' hgs hst hps
          go_wp2
          go_roundw
          case rel => exact ⟨i + 1 + 0, by go_num, HI.out⟩
          case measure => simp [intOf]; omega
        · go_simp
          refine hK.out _ _ HS1.out (fun hHeld => ?_)
          clear hK K
          try simp only [Act.put, List.setIfInBounds_toArray, List.set_cons_zero, List.set_cons_succ]
          refine wpAnyH_ready (rs := [1]) (by kernel_rfl) (by simp) ?_
          refine AllReadyH.cons (o := { dst := some 35, op := Op.load 29 (Operand.tmp 34), type := 29, pos := _, after := _, guard := none }) rfl (fun K hK => ?_) AllReadyH.nil
          go_simp
          refine hK.out _ _ HS1.out (fun hHeld => ?_)
          clear hK K
          try simp only [Act.put, List.setIfInBounds_toArray, List.set_cons_zero, List.set_cons_succ]
          refine wpAnyH_ready (rs := [15]) (by kernel_rfl) (by simp) ?_
          refine AllReadyH.cons (o := { dst := some 49, op := Op.call { callee := Callee.builtin Builtin.append, args := #[Operand.tmp 35, Operand.tmp 48], argTypes := #[29, 29] }, type := 29, pos := _, after := _, guard := none }) rfl (fun K hK => ?_) AllReadyH.nil
          refine step_append_own (w := W1.drew.alloc (.cells #[.int .i64 e.t, .int .i64 e.d, .int .i64 (t.reg q)] 61)) rfl (.tmp 35) (.tmp 48) 29 rfl W0.heap.size 61 i0 (.agg #[.int .i64 0, .int .i64 0, .int .i64 0]) 3 24 Tryz.underlying29 hi0 hz0' hz1' hz2' rfl (by decide) ux t.x.length (cellsX t.x) rfl HE1.out.x ⟨W1.heap.size, 0, none⟩ 1 1 ((⟨e.t, e.d, t.reg q⟩ : Em).cs) rfl rfl (at_newX W1.drew (⟨e.t, e.d, t.reg q⟩ : Em)) (em_ones (⟨e.t, e.d, t.reg q⟩ : Em)) (by unfold maxLen; omega) (by omega) hsz1 ?_
          intro u3 w3 hown3 hgrow3
          obtain ⟨a3, cq3, hv3⟩ := own_slice hown3
          subst hv3
          have hb3 := HE1.out.blk.grown hgrow3 (HE1.out.blk.off HE1.out.x HE1.out.ty.2.2)
          have kS : w3.cell? ⟨w1.heap.size, 4, none⟩ = some ux := hb3.cell (i := 4) rfl
          have fS : w3.frozen? ⟨w1.heap.size, 4, none⟩ = false := hb3.free 4
          have hr3 := HE1.out.r.kept hgrow3 (own_apart HE1.out.r HE1.out.x (by decide))
          have hP3 := HP1.out.grown hgrow3 (HP1.out.off HE1.out.x (by decide))
          have hV3 : Bk w3 (w.heap.size + 1 + 1) 50 #[.int .i64 e.t, .int .i64 e.s, .int .i64 e.q, .int .i64 e.d, .int .i64 e.k, .int .i64 e.v, .int .i64 e.g] := HV1.out.grown hgrow3 (fun e1 => by have := row_ge HE1.out.x e1.symm; omega)
          have HS3 : Hid (w3.cell? ⟨wr.heap.size, 1, none⟩ = some (.int .i64 q) ∧ w3.cell? ⟨wr.heap.size, 2, none⟩ = some (.int .i64 ob) ∧ w3.cell? ⟨wr.heap.size, 3, none⟩ = some (.int .i64 ok) ∧ w3.cell? ⟨w.heap.size + 1 + 1, 0, none⟩ = some (.int .i64 e.t) ∧ w3.cell? ⟨w.heap.size + 1 + 1, 3, none⟩ = some (.int .i64 e.d) ∧ w3.cell? ⟨w1.heap.size, 0, none⟩ = some (vReg g cap) ∧ w3.cell? ⟨g, q, none⟩ = some (.int .i64 (t.reg q))) := ⟨hP3.cell (i := 1) rfl, hP3.cell (i := 2) rfl, hP3.cell (i := 3) rfl, hV3.cell (i := 0) rfl, hV3.cell (i := 3) rfl, hb3.cell (i := 0) rfl, regOf hr3 hq1⟩
          have HE4 : Hid (Eff W0.heap.size (w3.setCell ⟨w1.heap.size, 4, none⟩ (.slice a3 (t.x.length + 1) cq3)) w1.heap.size 54 [] { t with x := t.x ++ [(⟨e.t, e.d, t.reg q⟩ : Em)] } (-1) g cap us (.slice a3 (t.x.length + 1) cq3)) := HE1.out.told hown3 hgrow3
          have HS4 : Hid ((w3.setCell ⟨w1.heap.size, 4, none⟩ (.slice a3 (t.x.length + 1) cq3)).cell? ⟨wr.heap.size, 1, none⟩ = some (.int .i64 q) ∧ (w3.setCell ⟨w1.heap.size, 4, none⟩ (.slice a3 (t.x.length + 1) cq3)).cell? ⟨wr.heap.size, 2, none⟩ = some (.int .i64 ob) ∧ (w3.setCell ⟨w1.heap.size, 4, none⟩ (.slice a3 (t.x.length + 1) cq3)).cell? ⟨wr.heap.size, 3, none⟩ = some (.int .i64 ok) ∧ (w3.setCell ⟨w1.heap.size, 4, none⟩ (.slice a3 (t.x.length + 1) cq3)).cell? ⟨w.heap.size + 1 + 1, 0, none⟩ = some (.int .i64 e.t) ∧ (w3.setCell ⟨w1.heap.size, 4, none⟩ (.slice a3 (t.x.length + 1) cq3)).cell? ⟨w.heap.size + 1 + 1, 3, none⟩ = some (.int .i64 e.d) ∧ (w3.setCell ⟨w1.heap.size, 4, none⟩ (.slice a3 (t.x.length + 1) cq3)).cell? ⟨w1.heap.size, 0, none⟩ = some (vReg g cap) ∧ (w3.setCell ⟨w1.heap.size, 4, none⟩ (.slice a3 (t.x.length + 1) cq3)).cell? ⟨g, q, none⟩ = some (.int .i64 (t.reg q))) := ⟨(hP3.other 4 _ hoP).cell (i := 1) rfl, (hP3.other 4 _ hoP).cell (i := 2) rfl, (hP3.other 4 _ hoP).cell (i := 3) rfl, (hV3.other 4 _ hoV).cell (i := 0) rfl, (hV3.other 4 _ hoV).cell (i := 3) rfl, HE4.out.blk.cell (i := 0) rfl, (HE4.out).reg q hq1⟩
          have HB4 : Hid (Below W0.heap.size W0 (w3.setCell ⟨w1.heap.size, 4, none⟩ (.slice a3 (t.x.length + 1) cq3))) := ((HB2.out.drew.alloc hszd _).grown hgrow3 hsz1 (fun k e => row_ge HE1.out.x e)).setCell (p := ⟨w1.heap.size, 4, none⟩) HE1.out.lo _
          refine hK.out _ _ HS3.out (fun hHeld => ?_)
          clear hK K
          try simp only [Act.put, List.setIfInBounds_toArray, List.set_cons_zero, List.set_cons_succ]
          refine wpAnyH_take (i := 16) (oi := { dst := some 50, op := Op.fieldAddr 54 (Operand.tmp 9) 2, type := 0, pos := _, after := _, guard := none }) (v := .pointer (some ⟨w1.heap.size, 4, none⟩)) rfl (by kernel_rfl) (by kernel_rfl) (by kernel_rfl) (fun _ _ _ h => h) (Or.inl ⟨by rfl, ?_⟩) (by assumption) ?_
          · intro wX hSw
            try dsimp only at hSw
            go_simp
          try simp only [Act.put, List.setIfInBounds_toArray, List.set_cons_zero, List.set_cons_succ]
          refine wpAnyH_ready (rs := [17]) (by kernel_rfl) (by simp) ?_
          refine AllReadyH.cons (o := { dst := none, op := Op.store 29 (Operand.tmp 50) (Operand.tmp 49), type := 0, pos := _, after := _, guard := none }) rfl (fun K hK => ?_) AllReadyH.nil
          go_simp
          refine hK.out _ _ HS4.out (fun hHeld => ?_)
          clear hK K
          try simp only [Act.put, List.setIfInBounds_toArray, List.set_cons_zero, List.set_cons_succ]
          refine wpAnyH_done (by kernel_rfl) ?_ _
          clear hS hSb kS fS HS0 HS1 HS3 HS4 hown3 hgrow3 hb3 hr3 hP3 hV3
          generalize w3.setCell ⟨w1.heap.size, 4, none⟩ (.slice a3 (t.x.length + 1) cq3) = V at HE4 HB4 ⊢
          have hwn : ¬ waitsO [c0, c1, c2, c3] (⟨5, (q : Int), ob, ok⟩ : O) := (fun h => absurd h.1 (by show ¬ (5 : Int) = 4; decide))
          obtain ⟨f', hf', hr'⟩ := HST.out RR HRN.out hwn
          have hps : passes (⟨5, (q : Int), ob, ok⟩ : O) t = 0 := by simp [passes]
          have hgs : GoodT (stepO m.s [c0, c1, c2, c3] e (⟨5, (q : Int), ob, ok⟩ : O) t) (j + 1) := HG1.out.step HOO.out (fun h4 => absurd h4 (by show ¬ (5 : Int) = 4; decide))
          have hst : stepO m.s [c0, c1, c2, c3] e (⟨5, (q : Int), ob, ok⟩ : O) t = { t with x := t.x ++ [(⟨e.t, e.d, t.reg q⟩ : Em)] } := by simp [stepO]
          rw [hps] at hf' hr'
          rw [hst] at hr' hgs
          have HI : Hid (ShInv W0.heap.size w1.heap.size W0 V m.s [c0, c1, c2, c3] e l RR (i + 1 + 0)) := ⟨⟨f', _, j + 1, g, cap, _, _, HE4.out, hgs, by omega, by omega, hf', hr'⟩, HB4.out, by omega⟩
          clear hf' hr' hgs hst hps
          go_wp2
          go_roundw
          case rel => exact ⟨i + 1 + 0, by go_num, HI.out⟩
          case measure => simp [intOf]; omega
      · obtain ⟨q, rfl⟩ : ∃ q : Nat, oa = (q : Int) := ⟨(oa).toNat, by omega⟩
        have hq1 : q ≤ 1 := by omega
        have hq2 : (q : Int) < 2 := by omega
        obtain ⟨hr0, hr1⟩ := HG1.out.reg (q : Int)
        have rc := HE2.out.reg q hq1
        have rfz := HE2.out.free q
        have hqd : t.d ≤ 100000 := by have := HG1.out.d1; omega
        have hqd0 := HG1.out.d0
        have hmod : Int.tmod (randI m.s e.d t.d) ob = randI m.s e.d t.d % ob := Int.tmod_eq_emod_of_nonneg (randI_low _ _ _)
        have hob : ¬ ob = 0 := by omega
        have HPL : Hid (placeB m.s e.d t.d = true) := placeB_iff.2 (by omega)
        have HE3 : Hid (Eff W0.heap.size (W1.setCell ⟨g, q, none⟩ (.int .i64 (randI m.s e.d t.d % ob))).drew w1.heap.size 54 [] (t.put q (randI m.s e.d t.d % ob)) (-1) g cap us ux) := (HE2.out.put q hq1 _).drew
        have HB3 : Hid (Below W0.heap.size W0 (W1.setCell ⟨g, q, none⟩ (.int .i64 (randI m.s e.d t.d % ob))).drew) := (HB2.out.setCell (p := ⟨g, q, none⟩) hgB _).drew
        have hoP : wr.heap.size ≠ g := by omega
        have hoV : (w.heap.size + 1 + 1) ≠ g := by omega
        have hoM : w.heap.size ≠ g := by omega
        have HS0 : Hid (W1.drew.cell? ⟨wr.heap.size, 1, none⟩ = some (.int .i64 q) ∧ W1.drew.cell? ⟨wr.heap.size, 2, none⟩ = some (.int .i64 ob) ∧ W1.drew.cell? ⟨w.heap.size, 1, none⟩ = some (.int .i64 m.s) ∧ W1.drew.cell? ⟨w.heap.size + 1 + 1, 3, none⟩ = some (.int .i64 e.d) ∧ W1.drew.cell? ⟨w1.heap.size, 0, none⟩ = some (vReg g cap) ∧ W1.drew.cell? ⟨w1.heap.size, 2, none⟩ = some (.int .i64 t.d)) := ⟨(HP2.out.drew).cell (i := 1) rfl, (HP2.out.drew).cell (i := 2) rfl, (HM2.out.drew).cell (i := 1) rfl, (HV2.out.drew).cell (i := 3) rfl, (HE2.out.drew.blk).cell (i := 0) rfl, (HE2.out.drew.blk).cell (i := 2) rfl⟩
        have HS4 : Hid ((W1.setCell ⟨g, q, none⟩ (.int .i64 (randI m.s e.d t.d % ob))).drew.cell? ⟨wr.heap.size, 1, none⟩ = some (.int .i64 q) ∧ (W1.setCell ⟨g, q, none⟩ (.int .i64 (randI m.s e.d t.d % ob))).drew.cell? ⟨wr.heap.size, 2, none⟩ = some (.int .i64 ob) ∧ (W1.setCell ⟨g, q, none⟩ (.int .i64 (randI m.s e.d t.d % ob))).drew.cell? ⟨w.heap.size, 1, none⟩ = some (.int .i64 m.s) ∧ (W1.setCell ⟨g, q, none⟩ (.int .i64 (randI m.s e.d t.d % ob))).drew.cell? ⟨w.heap.size + 1 + 1, 3, none⟩ = some (.int .i64 e.d) ∧ (W1.setCell ⟨g, q, none⟩ (.int .i64 (randI m.s e.d t.d % ob))).drew.cell? ⟨w1.heap.size, 0, none⟩ = some (vReg g cap) ∧ (W1.setCell ⟨g, q, none⟩ (.int .i64 (randI m.s e.d t.d % ob))).drew.cell? ⟨w1.heap.size, 2, none⟩ = some (.int .i64 t.d)) := ⟨((HP2.out.other q _ hoP).drew).cell (i := 1) rfl, ((HP2.out.other q _ hoP).drew).cell (i := 2) rfl, ((HM2.out.other q _ hoM).drew).cell (i := 1) rfl, ((HV2.out.other q _ hoV).drew).cell (i := 3) rfl, ((HE2.out.blk.other q _ hne).drew).cell (i := 0) rfl, ((HE2.out.blk.other q _ hne).drew).cell (i := 2) rfl⟩
        have hlo := randI_low m.s e.d t.d
        have hhi := randI_high m.s e.d t.d
        go_wp2
        clear hW1 g0 g1' g2 g3 c0'
        go_region_held3 (fun W => W.cell? ⟨wr.heap.size, 1, none⟩ = some (.int .i64 q) ∧ W.cell? ⟨wr.heap.size, 2, none⟩ = some (.int .i64 ob) ∧ W.cell? ⟨w.heap.size, 1, none⟩ = some (.int .i64 m.s) ∧ W.cell? ⟨w.heap.size + 1 + 1, 3, none⟩ = some (.int .i64 e.d) ∧ W.cell? ⟨w1.heap.size, 0, none⟩ = some (vReg g cap) ∧ W.cell? ⟨w1.heap.size, 2, none⟩ = some (.int .i64 t.d)) (first | with_reducible exact HS0.out | exact HS4.out)
          (first | (go_at_call 202; refine (l9rand_any _ _ _ HPL.out _).mono ?_; rintro r w4 ⟨rfl, hw4⟩; subst hw4))
        have qd : (W1.setCell ⟨g, q, none⟩ (.int .i64 (randI m.s e.d t.d % ob))).drew.cell? ⟨w1.heap.size, 2, none⟩ = some (.int .i64 t.d) := HS4.out.2.2.2.2.2
        clear HS0 HS4 rc rfz hmod hlo hhi
        generalize (W1.setCell ⟨g, q, none⟩ (.int .i64 (randI m.s e.d t.d % ob))).drew = V at HE3 HB3 qd ⊢
        have fd : V.frozen? ⟨w1.heap.size, 2, none⟩ = false := HE3.out.blk.free 2
        have HE5 : Hid (Eff W0.heap.size (V.setCell ⟨w1.heap.size, 2, none⟩ (.int .i64 (t.d + 1))) w1.heap.size 54 [] { t.put q (randI m.s e.d t.d % ob) with d := t.d + 1 } (-1) g cap us ux) := HE3.out.putD (t.d + 1)
        have HB5 : Hid (Below W0.heap.size W0 (V.setCell ⟨w1.heap.size, 2, none⟩ (.int .i64 (t.d + 1)))) := HB3.out.setCell (p := ⟨w1.heap.size, 2, none⟩) HE3.out.lo _
        have hwn : ¬ waitsO [c0, c1, c2, c3] (⟨6, (q : Int), ob, ok⟩ : O) := (fun h => absurd h.1 (by show ¬ (6 : Int) = 4; decide))
        obtain ⟨f', hf', hr'⟩ := HST.out RR HRN.out hwn
        have hps : passes (⟨6, (q : Int), ob, ok⟩ : O) t = 0 := by simp [passes]
        have hgs : GoodT (stepO m.s [c0, c1, c2, c3] e (⟨6, (q : Int), ob, ok⟩ : O) t) (j + 1) := HG1.out.step HOO.out (fun h4 => absurd h4 (by show ¬ (6 : Int) = 4; decide))
        have hst : stepO m.s [c0, c1, c2, c3] e (⟨6, (q : Int), ob, ok⟩ : O) t = { t.put q (randI m.s e.d t.d % ob) with d := t.d + 1 } := by simp [stepO]
        rw [hps] at hf' hr'
        rw [hst] at hr' hgs
        have HI : Hid (ShInv W0.heap.size w1.heap.size W0 (V.setCell ⟨w1.heap.size, 2, none⟩ (.int .i64 (t.d + 1))) m.s [c0, c1, c2, c3] e l RR (i + 1 + 0)) := ⟨⟨f', _, j + 1, g, cap, _, _, HE5.out, hgs, by omega, by omega, hf', hr'⟩, HB5.out, by omega⟩
        clear hf' hr' hgs hst hps
        go_wp2
        go_roundw
        case rel => exact ⟨i + 1 + 0, by go_num, HI.out⟩
        case measure => simp [intOf]; omega
    · have hR : RR = .done t := HRN.out.symm.trans (run_end hlt)
      have HEF2 : Hid (EF = t.ef) := HEF.out.trans (by rw [hR]; rfl)
      have hil : ¬ (i : Int) < (l.length : Int) := by omega
      have HR1 : Hid (Bk wr (w.heap.size + 1 + 1 + 1) 54 #[.slice none 0 0, .int .i64 0, .int .i64 0, .slice none 0 0, .slice none 0 0, .int .i64 0]) := HR0.out.keep HB1.out (by omega)
      obtain ⟨us1, us2, hus⟩ := own_slice HE1.out.s
      obtain ⟨ux1, ux2, hux⟩ := own_slice HE1.out.x
      subst hus hux
      have hne2 : ¬ w1.heap.size = (w.heap.size + 1 + 1 + 1) := by omega
      have r0 := HR1.out.cell (i := 0) rfl
      have r1 := HR1.out.cell (i := 1) rfl
      have r2 := HR1.out.cell (i := 2) rfl
      have r3 := HR1.out.cell (i := 3) rfl
      have r4 := HR1.out.cell (i := 4) rfl
      have r5 := HR1.out.cell (i := 5) rfl
      have rf := HR1.out.free
      have q0 : wr.cell? ⟨w1.heap.size, 0, none⟩ = some (vReg g cap) := HE1.out.blk.cell (i := 0) rfl
      have q1 : wr.cell? ⟨w1.heap.size, 1, none⟩ = some (.int .i64 t.q) := HE1.out.blk.cell (i := 1) rfl
      have q2 : wr.cell? ⟨w1.heap.size, 2, none⟩ = some (.int .i64 t.d) := HE1.out.blk.cell (i := 2) rfl
      have q3 : wr.cell? ⟨w1.heap.size, 3, none⟩ = some (.slice us1 t.s.length us2) := HE1.out.blk.cell (i := 3) rfl
      have q4 : wr.cell? ⟨w1.heap.size, 4, none⟩ = some (.slice ux1 t.x.length ux2) := HE1.out.blk.cell (i := 4) rfl
      have q5 : wr.cell? ⟨w1.heap.size, 5, none⟩ = some (.int .i64 (-1)) := HE1.out.blk.cell (i := 5) rfl
      go_wp2
      clear r0 r1 r2 r3 r4 r5 rf q0 q1 q2 q3 q4 q5
      obtain ⟨X5, hX5⟩ : ∃ X5, put6 wr (w.heap.size + 1 + 1 + 1) (vReg g cap) (.int .i64 t.q) (.int .i64 t.d) (.slice us1 t.s.length us2) (.slice ux1 t.x.length ux2) (.int .i64 (-1)) = X5 := ⟨_, rfl⟩
      have hR := HR1.out.put6 (vReg g cap) (.int .i64 t.q) (.int .i64 t.d) (.slice us1 t.s.length us2) (.slice ux1 t.x.length ux2) (.int .i64 (-1))
      have ht := put6_turns wr (w.heap.size + 1 + 1 + 1) (vReg g cap) (.int .i64 t.q) (.int .i64 t.d) (.slice us1 t.s.length us2) (.slice ux1 t.x.length ux2) (.int .i64 (-1))
      rw [hX5] at hR ht
      unfold put6 at hX5
      rw [hX5]
      have t0 := hR.cell (i := 0) rfl
      have t1 := hR.cell (i := 1) rfl
      have t2 := hR.cell (i := 2) rfl
      have t3 := hR.cell (i := 3) rfl
      have t4 := hR.cell (i := 4) rfl
      have t5 := hR.cell (i := 5) rfl
      have hs5 := ht.size
      have HBw : Below w.heap.size w wr := HB0.out.trans (HB1.out.mono hz0)
      refine bodyPost_ret (v := .agg #[vReg g cap, .int .i64 t.q, .int .i64 t.d, .slice us1 t.s.length us2, .slice ux1 t.x.length ux2, .int .i64 (-1)]) (by simp [results, Tryz.results144, go_sem, t0, t1, t2, t3, t4, t5]) rfl ⟨_, rfl, HBw.trans (ht.to_below (fun k e => by omega) (by omega)), ?_⟩
      rw [HEF2.out]
      exact (efR_turns HE1.out HR1.out ht).mono (fun k e => by omega)
end Go.Proofs.YtmpoffepoafblaaGreat
