/- At every code of at most 2^47 - 4096 bytes (the form's own reach): a drawn vector comes back from its text; two are in order; who refines one meets it, and is of no more whole ones; the fixed model asks at its third; the code reads as it did; no condition. -/
import Derived.Test.YtmpoffepoafblaaGreatClVectors
import Derived.Test.YtmpoffepoafblaaGreatVectorsG07
import Derived.Test.YtmpoffepoafblaaGreatVectorsG47
namespace Go.Proofs.YtmpoffepoafblaaGreat.LawVectors
open Go.ChangeShapes Go.WideShapes Go.ChangeAt Go.RowKit Go.Proofs.YtmpoffepoafblaaGreat

set_option maxRecDepth 100000 in
set_option maxHeartbeats 16000000 in
theorem walk (a : Option Addr) (n cap : Nat) (w : World) (hn : n ≤ 140737488351232) (hC : CodeIn w w.heap.size a n) :
    Calls Tryz.prog 5 #[.slice a n cap] w fun e w' => e = .returned (.bool true) ∧ Below w.heap.size w w' := by
  have HC : Hid (CodeIn w w.heap.size a n) := hC
  clear hC
  go_enter Tryz.func5, Tryz.ntmps5
  go_wp2_with fail
  refine (drawMeet_any a n cap _ (by omega) HC.out).mono ?_
  rintro e W0 ⟨va, vb, la, lb, rfl, hla, hlb, hoa, hob, hB⟩
  have HA : Hid (la.length = 4 ∧ IsI W0 va la) := ⟨hla, hoa.isI⟩
  have HB : Hid (lb.length = 4 ∧ IsI W0 vb lb) := ⟨hlb, hob.isI⟩
  have HB0 : Hid (Below w.heap.size w W0) := hB
  have HC0 : Hid (CodeIn W0 W0.heap.size a n) := (HC.out.below hB (Nat.le_refl _)).mono hB.size
  have HK0 : Hid (Below W0.heap.size W0 W0) := Below.refl _ _
  clear hla hlb hoa hob hB HC
  have ha := HA.out
  have hb := HB.out
  have SA : Hid (∀ W, Below W0.heap.size W0 W → Calls Tryz.prog 30 #[va] W fun e w' => e = .returned (.bool (vok la)) ∧ Below W.heap.size W w') := fun W hW => (sVok_any va la W (by omega) (ha.2.below hW)).mono fun e w' ⟨h1, h2⟩ => ⟨h1, h2 ▸ Below.refl _ _⟩
  have SB : Hid (∀ W, Below W0.heap.size W0 W → Calls Tryz.prog 30 #[vb] W fun e w' => e = .returned (.bool (vok lb)) ∧ Below W.heap.size W w') := fun W hW => (sVok_any vb lb W (by omega) (hb.2.below hW)).mono fun e w' ⟨h1, h2⟩ => ⟨h1, h2 ▸ Below.refl _ _⟩
  have IA : Hid (∀ W, Below W0.heap.size W0 W → Calls Tryz.prog 31 #[va] W fun e w' => e = .returned (.bool (vok la)) ∧ Below W.heap.size W w') := fun W hW => iVok_any va la W (by omega) (ha.2.below hW)
  have MAB : Hid (∀ W, Below W0.heap.size W0 W → Calls Tryz.prog 36 #[va, vb] W fun e w' => e = .returned (.bool (vok la && vok lb && meetB la lb)) ∧ Below W.heap.size W w') := fun W hW => iMeets_any va vb la lb W (by omega) (by omega) (ha.2.below hW) (hb.2.below hW)
  have MBA : Hid (∀ W, Below W0.heap.size W0 W → Calls Tryz.prog 36 #[vb, va] W fun e w' => e = .returned (.bool (vok lb && vok la && meetB lb la)) ∧ Below W.heap.size W w') := fun W hW => iMeets_any vb va lb la W (by omega) (by omega) (hb.2.below hW) (ha.2.below hW)
  have RAB : Hid (∀ W, Below W0.heap.size W0 W → Calls Tryz.prog 37 #[va, vb] W fun e w' => e = .returned (.bool (vok la && vok lb && refB la lb)) ∧ Below W.heap.size W w') := fun W hW => iRefines_any va vb la lb W (by omega) (by omega) (ha.2.below hW) (hb.2.below hW)
  have RBA : Hid (∀ W, Below W0.heap.size W0 W → Calls Tryz.prog 37 #[vb, va] W fun e w' => e = .returned (.bool (vok lb && vok la && refB lb la)) ∧ Below W.heap.size W w') := fun W hW => iRefines_any vb va lb la W (by omega) (by omega) (hb.2.below hW) (ha.2.below hW)
  have CAB : Hid (∀ W, Below W0.heap.size W0 W → Calls Tryz.prog 38 #[va, vb] W fun e w' => e = .returned (.int .i64 (if (vok la && vok lb) = true then cmpV la lb else 0)) ∧ Below W.heap.size W w') := fun W hW => iCmpV_any va vb la lb W (by omega) (by omega) (ha.2.below hW) (hb.2.below hW)
  have CBA : Hid (∀ W, Below W0.heap.size W0 W → Calls Tryz.prog 38 #[vb, va] W fun e w' => e = .returned (.int .i64 (if (vok lb && vok la) = true then cmpV lb la else 0)) ∧ Below W.heap.size W w') := fun W hW => iCmpV_any vb va lb la W (by omega) (by omega) (hb.2.below hW) (ha.2.below hW)
  have WA : Hid (∀ W, Below W0.heap.size W0 W → Calls Tryz.prog 39 #[va] W fun e w' => e = .returned (.int .i64 (if vok la = true then whN la else 0)) ∧ Below W.heap.size W w') := fun W hW => iWholes_any va la W (by omega) (ha.2.below hW)
  have WB : Hid (∀ W, Below W0.heap.size W0 W → Calls Tryz.prog 39 #[vb] W fun e w' => e = .returned (.int .i64 (if vok lb = true then whN lb else 0)) ∧ Below W.heap.size W w') := fun W hW => iWholes_any vb lb W (by omega) (hb.2.below hW)
  have EAB : Hid (∀ W, Below W0.heap.size W0 W → Calls Tryz.prog 33 #[va, vb] W fun e w' => e = .returned (.bool (decide (la = lb))) ∧ Below W.heap.size W w') := fun W hW => sameI_any va vb la lb W (by omega) (by omega) (ha.2.below hW) (hb.2.below hW)
  have MO : Hid (∀ W, Below W0.heap.size W0 W → Calls Tryz.prog 25 #[] W fun e w' => e = .returned (.bool true) ∧ Below W.heap.size W w') := fun W _ => models_any W
  have HL4 : Hid (la.length = 4) := ha.1
  have HAI : Hid (IsI W0 va la) := ha.2
  have HT : Hid (∀ W, Below W0.heap.size W0 W → Calls Tryz.prog 29 #[va] W fun e w' => ∃ v, e = .returned v ∧ By.OwnI W.heap.size w' v (if vok la = true then textB la else []) ∧ Below W.heap.size W w') := fun W hW => iText_any va la W (by omega) (ha.2.below hW)
  have HF : Hid (vok la = true → vok lb = true → ∃ (rab rba mab sm : Bool) (c wa wb : Int), refB la lb = rab ∧ refB lb la = rba ∧ meetB la lb = mab ∧ meetB lb la = mab ∧ cmpV la lb = c ∧ cmpV lb la = -c ∧ decide (la = lb) = sm ∧ whN la = wa ∧ whN lb = wb ∧
    (rab = true → mab = true) ∧ (rba = true → mab = true) ∧ (rab = true → wa ≤ wb) ∧ decide (c = 0) = sm ∧ (rab && rba) = sm ∧ -1 ≤ c ∧ c ≤ 1 ∧ 1 ≤ wa ∧ wa ≤ 16 ∧ 1 ≤ wb ∧ wb ≤ 16) := two_facts
  have HR : Hid (vok la = true → readOk (textB la) = true ∧ readV (textB la) = la ∧ (textB la).length = 4) := read_text
  clear ha hb HA HB
  cases hva : vok la with
  | false =>
    simp only [hva, Bool.false_and, Bool.and_false, Bool.false_eq_true, if_false] at SA IA MAB MBA RAB RBA CAB CBA WA HT
    clear hva HF HR HL4 HAI
    go_wp2_with fail
    refine (HT.out _ HK0.out).mono ?_
    rintro e x1 ⟨vt, rfl, hOt, hb⟩
    obtain ⟨at0, ct0, rfl, _⟩ := hOt
    have K1 : Hid (Below W0.heap.size W0 x1) := HK0.out.trans (hb.mono HK0.out.size)
    clear hb HT HK0
    go_wp2_with fail
    refine (SA.out _ K1.out).mono ?_
    rintro e x2 ⟨rfl, hb⟩
    have K2 : Hid (Below W0.heap.size W0 x2) := K1.out.trans (hb.mono K1.out.size)
    clear hb K1
    go_wp2_with fail
    refine (IA.out _ K2.out).mono ?_
    rintro e x3 ⟨rfl, hb⟩
    have K3 : Hid (Below W0.heap.size W0 x3) := K2.out.trans (hb.mono K2.out.size)
    clear hb K2
    go_wp2_with fail
    refine (SA.out _ K3.out).mono ?_
    rintro e x4 ⟨rfl, hb⟩
    have K4 : Hid (Below W0.heap.size W0 x4) := K3.out.trans (hb.mono K3.out.size)
    clear hb K3
    go_wp2_with fail
    refine (drawRead_any a n cap _ (by omega) ((HC0.out.below K4.out (Nat.le_refl _)).mono K4.out.size)).mono ?_
    rintro e x5 ⟨vn, ln, rfl, hln, hIn, hb⟩
    have HN : Hid (By.IsI x5 vn ln) := hIn
    have HNL : Hid (ln.length ≤ 4) := hln
    have K5 : Hid (Below W0.heap.size W0 x5) := K4.out.trans (hb.mono K4.out.size)
    clear hb hIn hln HC0 K4
    go_wp2_with fail
    refine (iRead_any vn ln _ (by have := HNL.out; omega) HN.out).mono ?_
    rintro e x6 ⟨vy, rfl, hOy, hb⟩
    have HY : Hid (IsI x6 vy (readV ln)) := hOy.isI
    have HN2 : Hid (By.IsI x6 vn ln) := HN.out.below hb
    have K6 : Hid (Below W0.heap.size W0 x6) := K5.out.trans (hb.mono K5.out.size)
    clear hb hOy HN K5
    cases hfn : readOk ln with
    | false =>
      clear hfn HY HN2 HNL
      go_wp2_with fail
      refine (SA.out _ K6.out).mono ?_
      rintro e x7 ⟨rfl, hb⟩
      have K7 : Hid (Below W0.heap.size W0 x7) := K6.out.trans (hb.mono K6.out.size)
      clear hb K6
      go_wp2_with fail
      refine (MAB.out _ K7.out).mono ?_
      rintro e x8 ⟨rfl, hb⟩
      have K8 : Hid (Below W0.heap.size W0 x8) := K7.out.trans (hb.mono K7.out.size)
      clear hb K7
      go_wp2_with fail
      refine (RAB.out _ K8.out).mono ?_
      rintro e x9 ⟨rfl, hb⟩
      have K9 : Hid (Below W0.heap.size W0 x9) := K8.out.trans (hb.mono K8.out.size)
      clear hb K8
      go_wp2_with fail
      refine (CAB.out _ K9.out).mono ?_
      rintro e x10 ⟨rfl, hb⟩
      have K10 : Hid (Below W0.heap.size W0 x10) := K9.out.trans (hb.mono K9.out.size)
      clear hb K9
      go_wp2_with fail
      refine (MO.out _ K10.out).mono ?_
      rintro e x11 ⟨rfl, hb⟩
      have K11 : Hid (Below W0.heap.size W0 x11) := K10.out.trans (hb.mono K10.out.size)
      clear hb K10
      go_wp2
      go_ret
      exact ⟨rfl, HB0.out.trans (K11.out.mono HB0.out.size)⟩
    | true =>
      obtain ⟨hq1, hq2, hq3⟩ := text_read hfn
      have HQ : Hid (vok (readV ln) = true ∧ textB (readV ln) = ln ∧ ln ≠ []) := ⟨hq1, hq2, fun e => by rw [e] at hq3; simp at hq3⟩
      have HRL : Hid ((readV ln).length ≤ 4) := by (show (readV ln).length ≤ 4; rw [show readV ln = ln.map numL by simp [readV, hfn]]; simp [hq3])
      clear hfn hq1 hq2 hq3
      go_wp2_with fail
      refine (iText_any vy (readV ln) _ (by have := HRL.out; omega) HY.out).mono ?_
      rintro e x12 ⟨vz, rfl, hOz, hb⟩
      have HZ : Hid (By.IsI x12 vz ln) := by (have h := hOz.isI; rw [if_pos HQ.out.1, HQ.out.2.1] at h; exact h)
      have HN3 : Hid (By.IsI x12 vn ln) := HN2.out.below hb
      have K12 : Hid (Below W0.heap.size W0 x12) := K6.out.trans (hb.mono K6.out.size)
      clear hb hOz HN2 HY K6
      go_wp2_with fail
      refine (sameB_same vz vn ln _ HQ.out.2.2 HZ.out HN3.out).mono ?_
      rintro e x13 ⟨rfl, hb⟩
      have K13 : Hid (Below W0.heap.size W0 x13) := K12.out.trans (hb.mono K12.out.size)
      clear hb HZ HN3 HQ HRL HNL K12
      go_wp2_with fail
      refine (SA.out _ K13.out).mono ?_
      rintro e x14 ⟨rfl, hb⟩
      have K14 : Hid (Below W0.heap.size W0 x14) := K13.out.trans (hb.mono K13.out.size)
      clear hb K13
      go_wp2_with fail
      refine (MAB.out _ K14.out).mono ?_
      rintro e x15 ⟨rfl, hb⟩
      have K15 : Hid (Below W0.heap.size W0 x15) := K14.out.trans (hb.mono K14.out.size)
      clear hb K14
      go_wp2_with fail
      refine (RAB.out _ K15.out).mono ?_
      rintro e x16 ⟨rfl, hb⟩
      have K16 : Hid (Below W0.heap.size W0 x16) := K15.out.trans (hb.mono K15.out.size)
      clear hb K15
      go_wp2_with fail
      refine (CAB.out _ K16.out).mono ?_
      rintro e x17 ⟨rfl, hb⟩
      have K17 : Hid (Below W0.heap.size W0 x17) := K16.out.trans (hb.mono K16.out.size)
      clear hb K16
      go_wp2_with fail
      refine (MO.out _ K17.out).mono ?_
      rintro e x18 ⟨rfl, hb⟩
      have K18 : Hid (Below W0.heap.size W0 x18) := K17.out.trans (hb.mono K17.out.size)
      clear hb K17
      go_wp2
      go_ret
      exact ⟨rfl, HB0.out.trans (K18.out.mono HB0.out.size)⟩
  | true =>
    have hvx := hva
    obtain ⟨hr1, hr2, hr3⟩ := HR.out hva
    simp only [hva, Bool.true_and, Bool.and_true, if_true] at SA IA MAB MBA RAB RBA CAB CBA WA HT
    have HR2 : Hid (readOk (textB la) = true ∧ readV (textB la) = la ∧ (textB la).length = 4) := ⟨hr1, hr2, hr3⟩
    clear hva HR hr1 hr2 hr3
    have HVA : Hid (vok la = true) := hvx
    clear hvx
    go_wp2_with fail
    refine (HT.out _ HK0.out).mono ?_
    rintro e x19 ⟨vt, rfl, hOt, hb⟩
    have HTI : Hid (By.IsI x19 vt (textB la)) := hOt.isI
    obtain ⟨at0, ct0, hvt, _⟩ := hOt
    rw [HR2.out.2.2] at hvt
    subst hvt
    have K19 : Hid (Below W0.heap.size W0 x19) := HK0.out.trans (hb.mono HK0.out.size)
    clear hb HT HK0
    go_wp2_with fail
    refine (SA.out _ K19.out).mono ?_
    rintro e x20 ⟨rfl, hb⟩
    have HTI20 : Hid (By.IsI x20 _ (textB la)) := HTI.out.below hb
    clear HTI
    rename Hid (By.IsI x20 _ (textB la)) => HTI
    have K20 : Hid (Below W0.heap.size W0 x20) := K19.out.trans (hb.mono K19.out.size)
    clear hb K19
    go_wp2_with fail
    refine (IA.out _ K20.out).mono ?_
    rintro e x21 ⟨rfl, hb⟩
    have HTI21 : Hid (By.IsI x21 _ (textB la)) := HTI.out.below hb
    clear HTI
    rename Hid (By.IsI x21 _ (textB la)) => HTI
    have K21 : Hid (Below W0.heap.size W0 x21) := K20.out.trans (hb.mono K20.out.size)
    clear hb K20
    go_wp2_with fail
    refine (SA.out _ K21.out).mono ?_
    rintro e x22 ⟨rfl, hb⟩
    have HTI22 : Hid (By.IsI x22 _ (textB la)) := HTI.out.below hb
    clear HTI
    rename Hid (By.IsI x22 _ (textB la)) => HTI
    have K22 : Hid (Below W0.heap.size W0 x22) := K21.out.trans (hb.mono K21.out.size)
    clear hb K21
    go_wp2_with fail
    refine (iRead_any _ (textB la) _ (by have := HR2.out.2.2; omega) HTI.out).mono ?_
    rintro e x23 ⟨vr, hre, hOr, hb⟩
    rw [HR2.out.1] at hre
    subst hre
    rw [HR2.out.2.1] at hOr
    have K23 : Hid (Below W0.heap.size W0 x23) := K22.out.trans (hb.mono K22.out.size)
    have HS : Hid (∀ W, Below x23.heap.size x23 W → Calls Tryz.prog 33 #[vr, va] W fun e w' => e = .returned (.bool true) ∧ Below W.heap.size W w') := fun W hW => (sameI_any vr va la la W (by have := HL4.out; omega) (by have := HL4.out; omega) (hOr.isI.below hW) ((HAI.out.below K23.out).below hW)).mono fun e w' ⟨h1, h2⟩ => ⟨by simpa using h1, h2⟩
    clear hb hOr HTI HR2 K22
    go_wp2_with fail
    refine (HS.out _ (Below.refl _ _)).mono ?_
    rintro e x24 ⟨rfl, hb⟩
    have K24 : Hid (Below W0.heap.size W0 x24) := K23.out.trans (hb.mono K23.out.size)
    clear hb HS HAI HL4 K23
    go_wp2_with fail
    refine (drawRead_any a n cap _ (by omega) ((HC0.out.below K24.out (Nat.le_refl _)).mono K24.out.size)).mono ?_
    rintro e x25 ⟨vn, ln, rfl, hln, hIn, hb⟩
    have HN : Hid (By.IsI x25 vn ln) := hIn
    have HNL : Hid (ln.length ≤ 4) := hln
    have K25 : Hid (Below W0.heap.size W0 x25) := K24.out.trans (hb.mono K24.out.size)
    clear hb hIn hln HC0 K24
    go_wp2_with fail
    refine (iRead_any vn ln _ (by have := HNL.out; omega) HN.out).mono ?_
    rintro e x26 ⟨vy, rfl, hOy, hb⟩
    have HY : Hid (IsI x26 vy (readV ln)) := hOy.isI
    have HN2 : Hid (By.IsI x26 vn ln) := HN.out.below hb
    have K26 : Hid (Below W0.heap.size W0 x26) := K25.out.trans (hb.mono K25.out.size)
    clear hb hOy HN K25
    cases hfn : readOk ln with
    | false =>
      clear hfn HY HN2 HNL
      cases hvb : vok lb with
      | false =>
        simp only [hvb, Bool.false_and, Bool.false_eq_true, if_false] at SB MAB RAB CAB
        clear hvb HF
        go_wp2_with fail
        refine (SA.out _ K26.out).mono ?_
        rintro e x27 ⟨rfl, hb⟩
        have K27 : Hid (Below W0.heap.size W0 x27) := K26.out.trans (hb.mono K26.out.size)
        clear hb K26
        go_wp2_with fail
        refine (SB.out _ K27.out).mono ?_
        rintro e x28 ⟨rfl, hb⟩
        have K28 : Hid (Below W0.heap.size W0 x28) := K27.out.trans (hb.mono K27.out.size)
        clear hb K27
        go_wp2_with fail
        refine (MAB.out _ K28.out).mono ?_
        rintro e x29 ⟨rfl, hb⟩
        have K29 : Hid (Below W0.heap.size W0 x29) := K28.out.trans (hb.mono K28.out.size)
        clear hb K28
        go_wp2_with fail
        refine (RAB.out _ K29.out).mono ?_
        rintro e x30 ⟨rfl, hb⟩
        have K30 : Hid (Below W0.heap.size W0 x30) := K29.out.trans (hb.mono K29.out.size)
        clear hb K29
        go_wp2_with fail
        refine (CAB.out _ K30.out).mono ?_
        rintro e x31 ⟨rfl, hb⟩
        have K31 : Hid (Below W0.heap.size W0 x31) := K30.out.trans (hb.mono K30.out.size)
        clear hb K30
        go_wp2_with fail
        refine (MO.out _ K31.out).mono ?_
        rintro e x32 ⟨rfl, hb⟩
        have K32 : Hid (Below W0.heap.size W0 x32) := K31.out.trans (hb.mono K31.out.size)
        clear hb K31
        go_wp2
        go_ret
        exact ⟨rfl, HB0.out.trans (K32.out.mono HB0.out.size)⟩
      | true =>
        obtain ⟨rab, rba, mab, sm, c, wa, wb, e1, e2, e3, e4, e5, e6, e7, e8, e9, f1, f2, f3, f4, f5, f6, f7, f8, f9, g1, g2⟩ := HF.out HVA.out hvb
        simp only [hvb, Bool.true_and, if_true, e1, e2, e3, e4, e5, e6, e7, e8, e9] at SB MAB MBA RAB RBA CAB CBA WA WB EAB
        clear hvb HF e1 e2 e3 e4 e5 e6 e7 e8 e9 HVA
        cases rab with
        | false =>
          obtain rfl : sm = false := by simpa using f5.symm
          have hc0 : ¬ c = 0 := by simpa using f4
          have hcc : c = -1 ∨ c = 1 := by omega
          clear f1 f2 f3 f4 f5 f6 f7 hc0
          rcases hcc with rfl | rfl
          · cases mab with
            | false =>
              go_wp2_with fail
              refine (SA.out _ K26.out).mono ?_
              rintro e x33 ⟨rfl, hb⟩
              have K33 : Hid (Below W0.heap.size W0 x33) := K26.out.trans (hb.mono K26.out.size)
              clear hb K26
              go_wp2_with fail
              refine (SB.out _ K33.out).mono ?_
              rintro e x34 ⟨rfl, hb⟩
              have K34 : Hid (Below W0.heap.size W0 x34) := K33.out.trans (hb.mono K33.out.size)
              clear hb K33
              go_wp2_with fail
              refine (RAB.out _ K34.out).mono ?_
              rintro e x35 ⟨rfl, hb⟩
              have K35 : Hid (Below W0.heap.size W0 x35) := K34.out.trans (hb.mono K34.out.size)
              clear hb K34
              go_wp2_with fail
              refine (MAB.out _ K35.out).mono ?_
              rintro e x36 ⟨rfl, hb⟩
              have K36 : Hid (Below W0.heap.size W0 x36) := K35.out.trans (hb.mono K35.out.size)
              clear hb K35
              go_wp2_with fail
              refine (MBA.out _ K36.out).mono ?_
              rintro e x37 ⟨rfl, hb⟩
              have K37 : Hid (Below W0.heap.size W0 x37) := K36.out.trans (hb.mono K36.out.size)
              clear hb K36
              go_wp2_with fail
              refine (CAB.out _ K37.out).mono ?_
              rintro e x38 ⟨rfl, hb⟩
              have K38 : Hid (Below W0.heap.size W0 x38) := K37.out.trans (hb.mono K37.out.size)
              clear hb K37
              go_wp2_with fail
              refine (CBA.out _ K38.out).mono ?_
              rintro e x39 ⟨rfl, hb⟩
              have K39 : Hid (Below W0.heap.size W0 x39) := K38.out.trans (hb.mono K38.out.size)
              clear hb K38
              go_wp2_with fail
              refine (CAB.out _ K39.out).mono ?_
              rintro e x40 ⟨rfl, hb⟩
              have K40 : Hid (Below W0.heap.size W0 x40) := K39.out.trans (hb.mono K39.out.size)
              clear hb K39
              go_wp2_with fail
              refine (EAB.out _ K40.out).mono ?_
              rintro e x41 ⟨rfl, hb⟩
              have K41 : Hid (Below W0.heap.size W0 x41) := K40.out.trans (hb.mono K40.out.size)
              clear hb K40
              go_wp2_with fail
              refine (RAB.out _ K41.out).mono ?_
              rintro e x42 ⟨rfl, hb⟩
              have K42 : Hid (Below W0.heap.size W0 x42) := K41.out.trans (hb.mono K41.out.size)
              clear hb K41
              go_wp2_with fail
              refine (EAB.out _ K42.out).mono ?_
              rintro e x43 ⟨rfl, hb⟩
              have K43 : Hid (Below W0.heap.size W0 x43) := K42.out.trans (hb.mono K42.out.size)
              clear hb K42
              go_wp2_with fail
              refine (MO.out _ K43.out).mono ?_
              rintro e x44 ⟨rfl, hb⟩
              have K44 : Hid (Below W0.heap.size W0 x44) := K43.out.trans (hb.mono K43.out.size)
              clear hb K43
              go_wp2
              go_ret
              exact ⟨rfl, HB0.out.trans (K44.out.mono HB0.out.size)⟩
            | true =>
              go_wp2_with fail
              refine (SA.out _ K26.out).mono ?_
              rintro e x45 ⟨rfl, hb⟩
              have K45 : Hid (Below W0.heap.size W0 x45) := K26.out.trans (hb.mono K26.out.size)
              clear hb K26
              go_wp2_with fail
              refine (SB.out _ K45.out).mono ?_
              rintro e x46 ⟨rfl, hb⟩
              have K46 : Hid (Below W0.heap.size W0 x46) := K45.out.trans (hb.mono K45.out.size)
              clear hb K45
              go_wp2_with fail
              refine (RAB.out _ K46.out).mono ?_
              rintro e x47 ⟨rfl, hb⟩
              have K47 : Hid (Below W0.heap.size W0 x47) := K46.out.trans (hb.mono K46.out.size)
              clear hb K46
              go_wp2_with fail
              refine (MAB.out _ K47.out).mono ?_
              rintro e x48 ⟨rfl, hb⟩
              have K48 : Hid (Below W0.heap.size W0 x48) := K47.out.trans (hb.mono K47.out.size)
              clear hb K47
              go_wp2_with fail
              refine (MBA.out _ K48.out).mono ?_
              rintro e x49 ⟨rfl, hb⟩
              have K49 : Hid (Below W0.heap.size W0 x49) := K48.out.trans (hb.mono K48.out.size)
              clear hb K48
              go_wp2_with fail
              refine (CAB.out _ K49.out).mono ?_
              rintro e x50 ⟨rfl, hb⟩
              have K50 : Hid (Below W0.heap.size W0 x50) := K49.out.trans (hb.mono K49.out.size)
              clear hb K49
              go_wp2_with fail
              refine (CBA.out _ K50.out).mono ?_
              rintro e x51 ⟨rfl, hb⟩
              have K51 : Hid (Below W0.heap.size W0 x51) := K50.out.trans (hb.mono K50.out.size)
              clear hb K50
              go_wp2_with fail
              refine (CAB.out _ K51.out).mono ?_
              rintro e x52 ⟨rfl, hb⟩
              have K52 : Hid (Below W0.heap.size W0 x52) := K51.out.trans (hb.mono K51.out.size)
              clear hb K51
              go_wp2_with fail
              refine (EAB.out _ K52.out).mono ?_
              rintro e x53 ⟨rfl, hb⟩
              have K53 : Hid (Below W0.heap.size W0 x53) := K52.out.trans (hb.mono K52.out.size)
              clear hb K52
              go_wp2_with fail
              refine (RAB.out _ K53.out).mono ?_
              rintro e x54 ⟨rfl, hb⟩
              have K54 : Hid (Below W0.heap.size W0 x54) := K53.out.trans (hb.mono K53.out.size)
              clear hb K53
              go_wp2_with fail
              refine (EAB.out _ K54.out).mono ?_
              rintro e x55 ⟨rfl, hb⟩
              have K55 : Hid (Below W0.heap.size W0 x55) := K54.out.trans (hb.mono K54.out.size)
              clear hb K54
              go_wp2_with fail
              refine (MO.out _ K55.out).mono ?_
              rintro e x56 ⟨rfl, hb⟩
              have K56 : Hid (Below W0.heap.size W0 x56) := K55.out.trans (hb.mono K55.out.size)
              clear hb K55
              go_wp2
              go_ret
              exact ⟨rfl, HB0.out.trans (K56.out.mono HB0.out.size)⟩
          · cases mab with
            | false =>
              go_wp2_with fail
              refine (SA.out _ K26.out).mono ?_
              rintro e x57 ⟨rfl, hb⟩
              have K57 : Hid (Below W0.heap.size W0 x57) := K26.out.trans (hb.mono K26.out.size)
              clear hb K26
              go_wp2_with fail
              refine (SB.out _ K57.out).mono ?_
              rintro e x58 ⟨rfl, hb⟩
              have K58 : Hid (Below W0.heap.size W0 x58) := K57.out.trans (hb.mono K57.out.size)
              clear hb K57
              go_wp2_with fail
              refine (RAB.out _ K58.out).mono ?_
              rintro e x59 ⟨rfl, hb⟩
              have K59 : Hid (Below W0.heap.size W0 x59) := K58.out.trans (hb.mono K58.out.size)
              clear hb K58
              go_wp2_with fail
              refine (MAB.out _ K59.out).mono ?_
              rintro e x60 ⟨rfl, hb⟩
              have K60 : Hid (Below W0.heap.size W0 x60) := K59.out.trans (hb.mono K59.out.size)
              clear hb K59
              go_wp2_with fail
              refine (MBA.out _ K60.out).mono ?_
              rintro e x61 ⟨rfl, hb⟩
              have K61 : Hid (Below W0.heap.size W0 x61) := K60.out.trans (hb.mono K60.out.size)
              clear hb K60
              go_wp2_with fail
              refine (CAB.out _ K61.out).mono ?_
              rintro e x62 ⟨rfl, hb⟩
              have K62 : Hid (Below W0.heap.size W0 x62) := K61.out.trans (hb.mono K61.out.size)
              clear hb K61
              go_wp2_with fail
              refine (CBA.out _ K62.out).mono ?_
              rintro e x63 ⟨rfl, hb⟩
              have K63 : Hid (Below W0.heap.size W0 x63) := K62.out.trans (hb.mono K62.out.size)
              clear hb K62
              go_wp2_with fail
              refine (CAB.out _ K63.out).mono ?_
              rintro e x64 ⟨rfl, hb⟩
              have K64 : Hid (Below W0.heap.size W0 x64) := K63.out.trans (hb.mono K63.out.size)
              clear hb K63
              go_wp2_with fail
              refine (EAB.out _ K64.out).mono ?_
              rintro e x65 ⟨rfl, hb⟩
              have K65 : Hid (Below W0.heap.size W0 x65) := K64.out.trans (hb.mono K64.out.size)
              clear hb K64
              go_wp2_with fail
              refine (RAB.out _ K65.out).mono ?_
              rintro e x66 ⟨rfl, hb⟩
              have K66 : Hid (Below W0.heap.size W0 x66) := K65.out.trans (hb.mono K65.out.size)
              clear hb K65
              go_wp2_with fail
              refine (EAB.out _ K66.out).mono ?_
              rintro e x67 ⟨rfl, hb⟩
              have K67 : Hid (Below W0.heap.size W0 x67) := K66.out.trans (hb.mono K66.out.size)
              clear hb K66
              go_wp2_with fail
              refine (MO.out _ K67.out).mono ?_
              rintro e x68 ⟨rfl, hb⟩
              have K68 : Hid (Below W0.heap.size W0 x68) := K67.out.trans (hb.mono K67.out.size)
              clear hb K67
              go_wp2
              go_ret
              exact ⟨rfl, HB0.out.trans (K68.out.mono HB0.out.size)⟩
            | true =>
              go_wp2_with fail
              refine (SA.out _ K26.out).mono ?_
              rintro e x69 ⟨rfl, hb⟩
              have K69 : Hid (Below W0.heap.size W0 x69) := K26.out.trans (hb.mono K26.out.size)
              clear hb K26
              go_wp2_with fail
              refine (SB.out _ K69.out).mono ?_
              rintro e x70 ⟨rfl, hb⟩
              have K70 : Hid (Below W0.heap.size W0 x70) := K69.out.trans (hb.mono K69.out.size)
              clear hb K69
              go_wp2_with fail
              refine (RAB.out _ K70.out).mono ?_
              rintro e x71 ⟨rfl, hb⟩
              have K71 : Hid (Below W0.heap.size W0 x71) := K70.out.trans (hb.mono K70.out.size)
              clear hb K70
              go_wp2_with fail
              refine (MAB.out _ K71.out).mono ?_
              rintro e x72 ⟨rfl, hb⟩
              have K72 : Hid (Below W0.heap.size W0 x72) := K71.out.trans (hb.mono K71.out.size)
              clear hb K71
              go_wp2_with fail
              refine (MBA.out _ K72.out).mono ?_
              rintro e x73 ⟨rfl, hb⟩
              have K73 : Hid (Below W0.heap.size W0 x73) := K72.out.trans (hb.mono K72.out.size)
              clear hb K72
              go_wp2_with fail
              refine (CAB.out _ K73.out).mono ?_
              rintro e x74 ⟨rfl, hb⟩
              have K74 : Hid (Below W0.heap.size W0 x74) := K73.out.trans (hb.mono K73.out.size)
              clear hb K73
              go_wp2_with fail
              refine (CBA.out _ K74.out).mono ?_
              rintro e x75 ⟨rfl, hb⟩
              have K75 : Hid (Below W0.heap.size W0 x75) := K74.out.trans (hb.mono K74.out.size)
              clear hb K74
              go_wp2_with fail
              refine (CAB.out _ K75.out).mono ?_
              rintro e x76 ⟨rfl, hb⟩
              have K76 : Hid (Below W0.heap.size W0 x76) := K75.out.trans (hb.mono K75.out.size)
              clear hb K75
              go_wp2_with fail
              refine (EAB.out _ K76.out).mono ?_
              rintro e x77 ⟨rfl, hb⟩
              have K77 : Hid (Below W0.heap.size W0 x77) := K76.out.trans (hb.mono K76.out.size)
              clear hb K76
              go_wp2_with fail
              refine (RAB.out _ K77.out).mono ?_
              rintro e x78 ⟨rfl, hb⟩
              have K78 : Hid (Below W0.heap.size W0 x78) := K77.out.trans (hb.mono K77.out.size)
              clear hb K77
              go_wp2_with fail
              refine (EAB.out _ K78.out).mono ?_
              rintro e x79 ⟨rfl, hb⟩
              have K79 : Hid (Below W0.heap.size W0 x79) := K78.out.trans (hb.mono K78.out.size)
              clear hb K78
              go_wp2_with fail
              refine (MO.out _ K79.out).mono ?_
              rintro e x80 ⟨rfl, hb⟩
              have K80 : Hid (Below W0.heap.size W0 x80) := K79.out.trans (hb.mono K79.out.size)
              clear hb K79
              go_wp2
              go_ret
              exact ⟨rfl, HB0.out.trans (K80.out.mono HB0.out.size)⟩
        | true =>
          obtain rfl : mab = true := f1 rfl
          have hw1 := f3 rfl
          have hw2 : ¬ wb < wa := by omega
          clear f1 f2 f3 hw1
          cases rba with
          | false =>
            obtain rfl : sm = false := by simpa using f5.symm
            have hc0 : ¬ c = 0 := by simpa using f4
            have hcc : c = -1 ∨ c = 1 := by omega
            clear f4 f5 f6 f7 hc0
            rcases hcc with rfl | rfl
            · skip
              go_wp2_with fail
              refine (SA.out _ K26.out).mono ?_
              rintro e x81 ⟨rfl, hb⟩
              have K81 : Hid (Below W0.heap.size W0 x81) := K26.out.trans (hb.mono K26.out.size)
              clear hb K26
              go_wp2_with fail
              refine (SB.out _ K81.out).mono ?_
              rintro e x82 ⟨rfl, hb⟩
              have K82 : Hid (Below W0.heap.size W0 x82) := K81.out.trans (hb.mono K81.out.size)
              clear hb K81
              go_wp2_with fail
              refine (RAB.out _ K82.out).mono ?_
              rintro e x83 ⟨rfl, hb⟩
              have K83 : Hid (Below W0.heap.size W0 x83) := K82.out.trans (hb.mono K82.out.size)
              clear hb K82
              go_wp2_with fail
              refine (MAB.out _ K83.out).mono ?_
              rintro e x84 ⟨rfl, hb⟩
              have K84 : Hid (Below W0.heap.size W0 x84) := K83.out.trans (hb.mono K83.out.size)
              clear hb K83
              go_wp2_with fail
              refine (WA.out _ K84.out).mono ?_
              rintro e x85 ⟨rfl, hb⟩
              have K85 : Hid (Below W0.heap.size W0 x85) := K84.out.trans (hb.mono K84.out.size)
              clear hb K84
              go_wp2_with fail
              refine (WB.out _ K85.out).mono ?_
              rintro e x86 ⟨rfl, hb⟩
              have K86 : Hid (Below W0.heap.size W0 x86) := K85.out.trans (hb.mono K85.out.size)
              clear hb K85
              go_wp2_with fail
              refine (MAB.out _ K86.out).mono ?_
              rintro e x87 ⟨rfl, hb⟩
              have K87 : Hid (Below W0.heap.size W0 x87) := K86.out.trans (hb.mono K86.out.size)
              clear hb K86
              go_wp2_with fail
              refine (MBA.out _ K87.out).mono ?_
              rintro e x88 ⟨rfl, hb⟩
              have K88 : Hid (Below W0.heap.size W0 x88) := K87.out.trans (hb.mono K87.out.size)
              clear hb K87
              go_wp2_with fail
              refine (CAB.out _ K88.out).mono ?_
              rintro e x89 ⟨rfl, hb⟩
              have K89 : Hid (Below W0.heap.size W0 x89) := K88.out.trans (hb.mono K88.out.size)
              clear hb K88
              go_wp2_with fail
              refine (CBA.out _ K89.out).mono ?_
              rintro e x90 ⟨rfl, hb⟩
              have K90 : Hid (Below W0.heap.size W0 x90) := K89.out.trans (hb.mono K89.out.size)
              clear hb K89
              go_wp2_with fail
              refine (CAB.out _ K90.out).mono ?_
              rintro e x91 ⟨rfl, hb⟩
              have K91 : Hid (Below W0.heap.size W0 x91) := K90.out.trans (hb.mono K90.out.size)
              clear hb K90
              go_wp2_with fail
              refine (EAB.out _ K91.out).mono ?_
              rintro e x92 ⟨rfl, hb⟩
              have K92 : Hid (Below W0.heap.size W0 x92) := K91.out.trans (hb.mono K91.out.size)
              clear hb K91
              go_wp2_with fail
              refine (RAB.out _ K92.out).mono ?_
              rintro e x93 ⟨rfl, hb⟩
              have K93 : Hid (Below W0.heap.size W0 x93) := K92.out.trans (hb.mono K92.out.size)
              clear hb K92
              go_wp2_with fail
              refine (RBA.out _ K93.out).mono ?_
              rintro e x94 ⟨rfl, hb⟩
              have K94 : Hid (Below W0.heap.size W0 x94) := K93.out.trans (hb.mono K93.out.size)
              clear hb K93
              go_wp2_with fail
              refine (EAB.out _ K94.out).mono ?_
              rintro e x95 ⟨rfl, hb⟩
              have K95 : Hid (Below W0.heap.size W0 x95) := K94.out.trans (hb.mono K94.out.size)
              clear hb K94
              go_wp2_with fail
              refine (MO.out _ K95.out).mono ?_
              rintro e x96 ⟨rfl, hb⟩
              have K96 : Hid (Below W0.heap.size W0 x96) := K95.out.trans (hb.mono K95.out.size)
              clear hb K95
              go_wp2
              go_ret
              exact ⟨rfl, HB0.out.trans (K96.out.mono HB0.out.size)⟩
            · skip
              go_wp2_with fail
              refine (SA.out _ K26.out).mono ?_
              rintro e x97 ⟨rfl, hb⟩
              have K97 : Hid (Below W0.heap.size W0 x97) := K26.out.trans (hb.mono K26.out.size)
              clear hb K26
              go_wp2_with fail
              refine (SB.out _ K97.out).mono ?_
              rintro e x98 ⟨rfl, hb⟩
              have K98 : Hid (Below W0.heap.size W0 x98) := K97.out.trans (hb.mono K97.out.size)
              clear hb K97
              go_wp2_with fail
              refine (RAB.out _ K98.out).mono ?_
              rintro e x99 ⟨rfl, hb⟩
              have K99 : Hid (Below W0.heap.size W0 x99) := K98.out.trans (hb.mono K98.out.size)
              clear hb K98
              go_wp2_with fail
              refine (MAB.out _ K99.out).mono ?_
              rintro e x100 ⟨rfl, hb⟩
              have K100 : Hid (Below W0.heap.size W0 x100) := K99.out.trans (hb.mono K99.out.size)
              clear hb K99
              go_wp2_with fail
              refine (WA.out _ K100.out).mono ?_
              rintro e x101 ⟨rfl, hb⟩
              have K101 : Hid (Below W0.heap.size W0 x101) := K100.out.trans (hb.mono K100.out.size)
              clear hb K100
              go_wp2_with fail
              refine (WB.out _ K101.out).mono ?_
              rintro e x102 ⟨rfl, hb⟩
              have K102 : Hid (Below W0.heap.size W0 x102) := K101.out.trans (hb.mono K101.out.size)
              clear hb K101
              go_wp2_with fail
              refine (MAB.out _ K102.out).mono ?_
              rintro e x103 ⟨rfl, hb⟩
              have K103 : Hid (Below W0.heap.size W0 x103) := K102.out.trans (hb.mono K102.out.size)
              clear hb K102
              go_wp2_with fail
              refine (MBA.out _ K103.out).mono ?_
              rintro e x104 ⟨rfl, hb⟩
              have K104 : Hid (Below W0.heap.size W0 x104) := K103.out.trans (hb.mono K103.out.size)
              clear hb K103
              go_wp2_with fail
              refine (CAB.out _ K104.out).mono ?_
              rintro e x105 ⟨rfl, hb⟩
              have K105 : Hid (Below W0.heap.size W0 x105) := K104.out.trans (hb.mono K104.out.size)
              clear hb K104
              go_wp2_with fail
              refine (CBA.out _ K105.out).mono ?_
              rintro e x106 ⟨rfl, hb⟩
              have K106 : Hid (Below W0.heap.size W0 x106) := K105.out.trans (hb.mono K105.out.size)
              clear hb K105
              go_wp2_with fail
              refine (CAB.out _ K106.out).mono ?_
              rintro e x107 ⟨rfl, hb⟩
              have K107 : Hid (Below W0.heap.size W0 x107) := K106.out.trans (hb.mono K106.out.size)
              clear hb K106
              go_wp2_with fail
              refine (EAB.out _ K107.out).mono ?_
              rintro e x108 ⟨rfl, hb⟩
              have K108 : Hid (Below W0.heap.size W0 x108) := K107.out.trans (hb.mono K107.out.size)
              clear hb K107
              go_wp2_with fail
              refine (RAB.out _ K108.out).mono ?_
              rintro e x109 ⟨rfl, hb⟩
              have K109 : Hid (Below W0.heap.size W0 x109) := K108.out.trans (hb.mono K108.out.size)
              clear hb K108
              go_wp2_with fail
              refine (RBA.out _ K109.out).mono ?_
              rintro e x110 ⟨rfl, hb⟩
              have K110 : Hid (Below W0.heap.size W0 x110) := K109.out.trans (hb.mono K109.out.size)
              clear hb K109
              go_wp2_with fail
              refine (EAB.out _ K110.out).mono ?_
              rintro e x111 ⟨rfl, hb⟩
              have K111 : Hid (Below W0.heap.size W0 x111) := K110.out.trans (hb.mono K110.out.size)
              clear hb K110
              go_wp2_with fail
              refine (MO.out _ K111.out).mono ?_
              rintro e x112 ⟨rfl, hb⟩
              have K112 : Hid (Below W0.heap.size W0 x112) := K111.out.trans (hb.mono K111.out.size)
              clear hb K111
              go_wp2
              go_ret
              exact ⟨rfl, HB0.out.trans (K112.out.mono HB0.out.size)⟩
          | true =>
            obtain rfl : sm = true := by simpa using f5.symm
            obtain rfl : c = 0 := by simpa using f4
            clear f4 f5 f6 f7
            go_wp2_with fail
            refine (SA.out _ K26.out).mono ?_
            rintro e x113 ⟨rfl, hb⟩
            have K113 : Hid (Below W0.heap.size W0 x113) := K26.out.trans (hb.mono K26.out.size)
            clear hb K26
            go_wp2_with fail
            refine (SB.out _ K113.out).mono ?_
            rintro e x114 ⟨rfl, hb⟩
            have K114 : Hid (Below W0.heap.size W0 x114) := K113.out.trans (hb.mono K113.out.size)
            clear hb K113
            go_wp2_with fail
            refine (RAB.out _ K114.out).mono ?_
            rintro e x115 ⟨rfl, hb⟩
            have K115 : Hid (Below W0.heap.size W0 x115) := K114.out.trans (hb.mono K114.out.size)
            clear hb K114
            go_wp2_with fail
            refine (MAB.out _ K115.out).mono ?_
            rintro e x116 ⟨rfl, hb⟩
            have K116 : Hid (Below W0.heap.size W0 x116) := K115.out.trans (hb.mono K115.out.size)
            clear hb K115
            go_wp2_with fail
            refine (WA.out _ K116.out).mono ?_
            rintro e x117 ⟨rfl, hb⟩
            have K117 : Hid (Below W0.heap.size W0 x117) := K116.out.trans (hb.mono K116.out.size)
            clear hb K116
            go_wp2_with fail
            refine (WB.out _ K117.out).mono ?_
            rintro e x118 ⟨rfl, hb⟩
            have K118 : Hid (Below W0.heap.size W0 x118) := K117.out.trans (hb.mono K117.out.size)
            clear hb K117
            go_wp2_with fail
            refine (MAB.out _ K118.out).mono ?_
            rintro e x119 ⟨rfl, hb⟩
            have K119 : Hid (Below W0.heap.size W0 x119) := K118.out.trans (hb.mono K118.out.size)
            clear hb K118
            go_wp2_with fail
            refine (MBA.out _ K119.out).mono ?_
            rintro e x120 ⟨rfl, hb⟩
            have K120 : Hid (Below W0.heap.size W0 x120) := K119.out.trans (hb.mono K119.out.size)
            clear hb K119
            go_wp2_with fail
            refine (CAB.out _ K120.out).mono ?_
            rintro e x121 ⟨rfl, hb⟩
            have K121 : Hid (Below W0.heap.size W0 x121) := K120.out.trans (hb.mono K120.out.size)
            clear hb K120
            go_wp2_with fail
            refine (CBA.out _ K121.out).mono ?_
            rintro e x122 ⟨rfl, hb⟩
            have K122 : Hid (Below W0.heap.size W0 x122) := K121.out.trans (hb.mono K121.out.size)
            clear hb K121
            go_wp2_with fail
            refine (CAB.out _ K122.out).mono ?_
            rintro e x123 ⟨rfl, hb⟩
            have K123 : Hid (Below W0.heap.size W0 x123) := K122.out.trans (hb.mono K122.out.size)
            clear hb K122
            go_wp2_with fail
            refine (EAB.out _ K123.out).mono ?_
            rintro e x124 ⟨rfl, hb⟩
            have K124 : Hid (Below W0.heap.size W0 x124) := K123.out.trans (hb.mono K123.out.size)
            clear hb K123
            go_wp2_with fail
            refine (RAB.out _ K124.out).mono ?_
            rintro e x125 ⟨rfl, hb⟩
            have K125 : Hid (Below W0.heap.size W0 x125) := K124.out.trans (hb.mono K124.out.size)
            clear hb K124
            go_wp2_with fail
            refine (RBA.out _ K125.out).mono ?_
            rintro e x126 ⟨rfl, hb⟩
            have K126 : Hid (Below W0.heap.size W0 x126) := K125.out.trans (hb.mono K125.out.size)
            clear hb K125
            go_wp2_with fail
            refine (EAB.out _ K126.out).mono ?_
            rintro e x127 ⟨rfl, hb⟩
            have K127 : Hid (Below W0.heap.size W0 x127) := K126.out.trans (hb.mono K126.out.size)
            clear hb K126
            go_wp2_with fail
            refine (MO.out _ K127.out).mono ?_
            rintro e x128 ⟨rfl, hb⟩
            have K128 : Hid (Below W0.heap.size W0 x128) := K127.out.trans (hb.mono K127.out.size)
            clear hb K127
            go_wp2
            go_ret
            exact ⟨rfl, HB0.out.trans (K128.out.mono HB0.out.size)⟩
    | true =>
      obtain ⟨hq1, hq2, hq3⟩ := text_read hfn
      have HQ : Hid (vok (readV ln) = true ∧ textB (readV ln) = ln ∧ ln ≠ []) := ⟨hq1, hq2, fun e => by rw [e] at hq3; simp at hq3⟩
      have HRL : Hid ((readV ln).length ≤ 4) := by (show (readV ln).length ≤ 4; rw [show readV ln = ln.map numL by simp [readV, hfn]]; simp [hq3])
      clear hfn hq1 hq2 hq3
      go_wp2_with fail
      refine (iText_any vy (readV ln) _ (by have := HRL.out; omega) HY.out).mono ?_
      rintro e x129 ⟨vz, rfl, hOz, hb⟩
      have HZ : Hid (By.IsI x129 vz ln) := by (have h := hOz.isI; rw [if_pos HQ.out.1, HQ.out.2.1] at h; exact h)
      have HN3 : Hid (By.IsI x129 vn ln) := HN2.out.below hb
      have K129 : Hid (Below W0.heap.size W0 x129) := K26.out.trans (hb.mono K26.out.size)
      clear hb hOz HN2 HY K26
      go_wp2_with fail
      refine (sameB_same vz vn ln _ HQ.out.2.2 HZ.out HN3.out).mono ?_
      rintro e x130 ⟨rfl, hb⟩
      have K130 : Hid (Below W0.heap.size W0 x130) := K129.out.trans (hb.mono K129.out.size)
      clear hb HZ HN3 HQ HRL HNL K129
      cases hvb : vok lb with
      | false =>
        simp only [hvb, Bool.false_and, Bool.false_eq_true, if_false] at SB MAB RAB CAB
        clear hvb HF
        go_wp2_with fail
        refine (SA.out _ K130.out).mono ?_
        rintro e x131 ⟨rfl, hb⟩
        have K131 : Hid (Below W0.heap.size W0 x131) := K130.out.trans (hb.mono K130.out.size)
        clear hb K130
        go_wp2_with fail
        refine (SB.out _ K131.out).mono ?_
        rintro e x132 ⟨rfl, hb⟩
        have K132 : Hid (Below W0.heap.size W0 x132) := K131.out.trans (hb.mono K131.out.size)
        clear hb K131
        go_wp2_with fail
        refine (MAB.out _ K132.out).mono ?_
        rintro e x133 ⟨rfl, hb⟩
        have K133 : Hid (Below W0.heap.size W0 x133) := K132.out.trans (hb.mono K132.out.size)
        clear hb K132
        go_wp2_with fail
        refine (RAB.out _ K133.out).mono ?_
        rintro e x134 ⟨rfl, hb⟩
        have K134 : Hid (Below W0.heap.size W0 x134) := K133.out.trans (hb.mono K133.out.size)
        clear hb K133
        go_wp2_with fail
        refine (CAB.out _ K134.out).mono ?_
        rintro e x135 ⟨rfl, hb⟩
        have K135 : Hid (Below W0.heap.size W0 x135) := K134.out.trans (hb.mono K134.out.size)
        clear hb K134
        go_wp2_with fail
        refine (MO.out _ K135.out).mono ?_
        rintro e x136 ⟨rfl, hb⟩
        have K136 : Hid (Below W0.heap.size W0 x136) := K135.out.trans (hb.mono K135.out.size)
        clear hb K135
        go_wp2
        go_ret
        exact ⟨rfl, HB0.out.trans (K136.out.mono HB0.out.size)⟩
      | true =>
        obtain ⟨rab, rba, mab, sm, c, wa, wb, e1, e2, e3, e4, e5, e6, e7, e8, e9, f1, f2, f3, f4, f5, f6, f7, f8, f9, g1, g2⟩ := HF.out HVA.out hvb
        simp only [hvb, Bool.true_and, if_true, e1, e2, e3, e4, e5, e6, e7, e8, e9] at SB MAB MBA RAB RBA CAB CBA WA WB EAB
        clear hvb HF e1 e2 e3 e4 e5 e6 e7 e8 e9 HVA
        cases rab with
        | false =>
          obtain rfl : sm = false := by simpa using f5.symm
          have hc0 : ¬ c = 0 := by simpa using f4
          have hcc : c = -1 ∨ c = 1 := by omega
          clear f1 f2 f3 f4 f5 f6 f7 hc0
          rcases hcc with rfl | rfl
          · cases mab with
            | false =>
              go_wp2_with fail
              refine (SA.out _ K130.out).mono ?_
              rintro e x137 ⟨rfl, hb⟩
              have K137 : Hid (Below W0.heap.size W0 x137) := K130.out.trans (hb.mono K130.out.size)
              clear hb K130
              go_wp2_with fail
              refine (SB.out _ K137.out).mono ?_
              rintro e x138 ⟨rfl, hb⟩
              have K138 : Hid (Below W0.heap.size W0 x138) := K137.out.trans (hb.mono K137.out.size)
              clear hb K137
              go_wp2_with fail
              refine (RAB.out _ K138.out).mono ?_
              rintro e x139 ⟨rfl, hb⟩
              have K139 : Hid (Below W0.heap.size W0 x139) := K138.out.trans (hb.mono K138.out.size)
              clear hb K138
              go_wp2_with fail
              refine (MAB.out _ K139.out).mono ?_
              rintro e x140 ⟨rfl, hb⟩
              have K140 : Hid (Below W0.heap.size W0 x140) := K139.out.trans (hb.mono K139.out.size)
              clear hb K139
              go_wp2_with fail
              refine (MBA.out _ K140.out).mono ?_
              rintro e x141 ⟨rfl, hb⟩
              have K141 : Hid (Below W0.heap.size W0 x141) := K140.out.trans (hb.mono K140.out.size)
              clear hb K140
              go_wp2_with fail
              refine (CAB.out _ K141.out).mono ?_
              rintro e x142 ⟨rfl, hb⟩
              have K142 : Hid (Below W0.heap.size W0 x142) := K141.out.trans (hb.mono K141.out.size)
              clear hb K141
              go_wp2_with fail
              refine (CBA.out _ K142.out).mono ?_
              rintro e x143 ⟨rfl, hb⟩
              have K143 : Hid (Below W0.heap.size W0 x143) := K142.out.trans (hb.mono K142.out.size)
              clear hb K142
              go_wp2_with fail
              refine (CAB.out _ K143.out).mono ?_
              rintro e x144 ⟨rfl, hb⟩
              have K144 : Hid (Below W0.heap.size W0 x144) := K143.out.trans (hb.mono K143.out.size)
              clear hb K143
              go_wp2_with fail
              refine (EAB.out _ K144.out).mono ?_
              rintro e x145 ⟨rfl, hb⟩
              have K145 : Hid (Below W0.heap.size W0 x145) := K144.out.trans (hb.mono K144.out.size)
              clear hb K144
              go_wp2_with fail
              refine (RAB.out _ K145.out).mono ?_
              rintro e x146 ⟨rfl, hb⟩
              have K146 : Hid (Below W0.heap.size W0 x146) := K145.out.trans (hb.mono K145.out.size)
              clear hb K145
              go_wp2_with fail
              refine (EAB.out _ K146.out).mono ?_
              rintro e x147 ⟨rfl, hb⟩
              have K147 : Hid (Below W0.heap.size W0 x147) := K146.out.trans (hb.mono K146.out.size)
              clear hb K146
              go_wp2_with fail
              refine (MO.out _ K147.out).mono ?_
              rintro e x148 ⟨rfl, hb⟩
              have K148 : Hid (Below W0.heap.size W0 x148) := K147.out.trans (hb.mono K147.out.size)
              clear hb K147
              go_wp2
              go_ret
              exact ⟨rfl, HB0.out.trans (K148.out.mono HB0.out.size)⟩
            | true =>
              go_wp2_with fail
              refine (SA.out _ K130.out).mono ?_
              rintro e x149 ⟨rfl, hb⟩
              have K149 : Hid (Below W0.heap.size W0 x149) := K130.out.trans (hb.mono K130.out.size)
              clear hb K130
              go_wp2_with fail
              refine (SB.out _ K149.out).mono ?_
              rintro e x150 ⟨rfl, hb⟩
              have K150 : Hid (Below W0.heap.size W0 x150) := K149.out.trans (hb.mono K149.out.size)
              clear hb K149
              go_wp2_with fail
              refine (RAB.out _ K150.out).mono ?_
              rintro e x151 ⟨rfl, hb⟩
              have K151 : Hid (Below W0.heap.size W0 x151) := K150.out.trans (hb.mono K150.out.size)
              clear hb K150
              go_wp2_with fail
              refine (MAB.out _ K151.out).mono ?_
              rintro e x152 ⟨rfl, hb⟩
              have K152 : Hid (Below W0.heap.size W0 x152) := K151.out.trans (hb.mono K151.out.size)
              clear hb K151
              go_wp2_with fail
              refine (MBA.out _ K152.out).mono ?_
              rintro e x153 ⟨rfl, hb⟩
              have K153 : Hid (Below W0.heap.size W0 x153) := K152.out.trans (hb.mono K152.out.size)
              clear hb K152
              go_wp2_with fail
              refine (CAB.out _ K153.out).mono ?_
              rintro e x154 ⟨rfl, hb⟩
              have K154 : Hid (Below W0.heap.size W0 x154) := K153.out.trans (hb.mono K153.out.size)
              clear hb K153
              go_wp2_with fail
              refine (CBA.out _ K154.out).mono ?_
              rintro e x155 ⟨rfl, hb⟩
              have K155 : Hid (Below W0.heap.size W0 x155) := K154.out.trans (hb.mono K154.out.size)
              clear hb K154
              go_wp2_with fail
              refine (CAB.out _ K155.out).mono ?_
              rintro e x156 ⟨rfl, hb⟩
              have K156 : Hid (Below W0.heap.size W0 x156) := K155.out.trans (hb.mono K155.out.size)
              clear hb K155
              go_wp2_with fail
              refine (EAB.out _ K156.out).mono ?_
              rintro e x157 ⟨rfl, hb⟩
              have K157 : Hid (Below W0.heap.size W0 x157) := K156.out.trans (hb.mono K156.out.size)
              clear hb K156
              go_wp2_with fail
              refine (RAB.out _ K157.out).mono ?_
              rintro e x158 ⟨rfl, hb⟩
              have K158 : Hid (Below W0.heap.size W0 x158) := K157.out.trans (hb.mono K157.out.size)
              clear hb K157
              go_wp2_with fail
              refine (EAB.out _ K158.out).mono ?_
              rintro e x159 ⟨rfl, hb⟩
              have K159 : Hid (Below W0.heap.size W0 x159) := K158.out.trans (hb.mono K158.out.size)
              clear hb K158
              go_wp2_with fail
              refine (MO.out _ K159.out).mono ?_
              rintro e x160 ⟨rfl, hb⟩
              have K160 : Hid (Below W0.heap.size W0 x160) := K159.out.trans (hb.mono K159.out.size)
              clear hb K159
              go_wp2
              go_ret
              exact ⟨rfl, HB0.out.trans (K160.out.mono HB0.out.size)⟩
          · cases mab with
            | false =>
              go_wp2_with fail
              refine (SA.out _ K130.out).mono ?_
              rintro e x161 ⟨rfl, hb⟩
              have K161 : Hid (Below W0.heap.size W0 x161) := K130.out.trans (hb.mono K130.out.size)
              clear hb K130
              go_wp2_with fail
              refine (SB.out _ K161.out).mono ?_
              rintro e x162 ⟨rfl, hb⟩
              have K162 : Hid (Below W0.heap.size W0 x162) := K161.out.trans (hb.mono K161.out.size)
              clear hb K161
              go_wp2_with fail
              refine (RAB.out _ K162.out).mono ?_
              rintro e x163 ⟨rfl, hb⟩
              have K163 : Hid (Below W0.heap.size W0 x163) := K162.out.trans (hb.mono K162.out.size)
              clear hb K162
              go_wp2_with fail
              refine (MAB.out _ K163.out).mono ?_
              rintro e x164 ⟨rfl, hb⟩
              have K164 : Hid (Below W0.heap.size W0 x164) := K163.out.trans (hb.mono K163.out.size)
              clear hb K163
              go_wp2_with fail
              refine (MBA.out _ K164.out).mono ?_
              rintro e x165 ⟨rfl, hb⟩
              have K165 : Hid (Below W0.heap.size W0 x165) := K164.out.trans (hb.mono K164.out.size)
              clear hb K164
              go_wp2_with fail
              refine (CAB.out _ K165.out).mono ?_
              rintro e x166 ⟨rfl, hb⟩
              have K166 : Hid (Below W0.heap.size W0 x166) := K165.out.trans (hb.mono K165.out.size)
              clear hb K165
              go_wp2_with fail
              refine (CBA.out _ K166.out).mono ?_
              rintro e x167 ⟨rfl, hb⟩
              have K167 : Hid (Below W0.heap.size W0 x167) := K166.out.trans (hb.mono K166.out.size)
              clear hb K166
              go_wp2_with fail
              refine (CAB.out _ K167.out).mono ?_
              rintro e x168 ⟨rfl, hb⟩
              have K168 : Hid (Below W0.heap.size W0 x168) := K167.out.trans (hb.mono K167.out.size)
              clear hb K167
              go_wp2_with fail
              refine (EAB.out _ K168.out).mono ?_
              rintro e x169 ⟨rfl, hb⟩
              have K169 : Hid (Below W0.heap.size W0 x169) := K168.out.trans (hb.mono K168.out.size)
              clear hb K168
              go_wp2_with fail
              refine (RAB.out _ K169.out).mono ?_
              rintro e x170 ⟨rfl, hb⟩
              have K170 : Hid (Below W0.heap.size W0 x170) := K169.out.trans (hb.mono K169.out.size)
              clear hb K169
              go_wp2_with fail
              refine (EAB.out _ K170.out).mono ?_
              rintro e x171 ⟨rfl, hb⟩
              have K171 : Hid (Below W0.heap.size W0 x171) := K170.out.trans (hb.mono K170.out.size)
              clear hb K170
              go_wp2_with fail
              refine (MO.out _ K171.out).mono ?_
              rintro e x172 ⟨rfl, hb⟩
              have K172 : Hid (Below W0.heap.size W0 x172) := K171.out.trans (hb.mono K171.out.size)
              clear hb K171
              go_wp2
              go_ret
              exact ⟨rfl, HB0.out.trans (K172.out.mono HB0.out.size)⟩
            | true =>
              go_wp2_with fail
              refine (SA.out _ K130.out).mono ?_
              rintro e x173 ⟨rfl, hb⟩
              have K173 : Hid (Below W0.heap.size W0 x173) := K130.out.trans (hb.mono K130.out.size)
              clear hb K130
              go_wp2_with fail
              refine (SB.out _ K173.out).mono ?_
              rintro e x174 ⟨rfl, hb⟩
              have K174 : Hid (Below W0.heap.size W0 x174) := K173.out.trans (hb.mono K173.out.size)
              clear hb K173
              go_wp2_with fail
              refine (RAB.out _ K174.out).mono ?_
              rintro e x175 ⟨rfl, hb⟩
              have K175 : Hid (Below W0.heap.size W0 x175) := K174.out.trans (hb.mono K174.out.size)
              clear hb K174
              go_wp2_with fail
              refine (MAB.out _ K175.out).mono ?_
              rintro e x176 ⟨rfl, hb⟩
              have K176 : Hid (Below W0.heap.size W0 x176) := K175.out.trans (hb.mono K175.out.size)
              clear hb K175
              go_wp2_with fail
              refine (MBA.out _ K176.out).mono ?_
              rintro e x177 ⟨rfl, hb⟩
              have K177 : Hid (Below W0.heap.size W0 x177) := K176.out.trans (hb.mono K176.out.size)
              clear hb K176
              go_wp2_with fail
              refine (CAB.out _ K177.out).mono ?_
              rintro e x178 ⟨rfl, hb⟩
              have K178 : Hid (Below W0.heap.size W0 x178) := K177.out.trans (hb.mono K177.out.size)
              clear hb K177
              go_wp2_with fail
              refine (CBA.out _ K178.out).mono ?_
              rintro e x179 ⟨rfl, hb⟩
              have K179 : Hid (Below W0.heap.size W0 x179) := K178.out.trans (hb.mono K178.out.size)
              clear hb K178
              go_wp2_with fail
              refine (CAB.out _ K179.out).mono ?_
              rintro e x180 ⟨rfl, hb⟩
              have K180 : Hid (Below W0.heap.size W0 x180) := K179.out.trans (hb.mono K179.out.size)
              clear hb K179
              go_wp2_with fail
              refine (EAB.out _ K180.out).mono ?_
              rintro e x181 ⟨rfl, hb⟩
              have K181 : Hid (Below W0.heap.size W0 x181) := K180.out.trans (hb.mono K180.out.size)
              clear hb K180
              go_wp2_with fail
              refine (RAB.out _ K181.out).mono ?_
              rintro e x182 ⟨rfl, hb⟩
              have K182 : Hid (Below W0.heap.size W0 x182) := K181.out.trans (hb.mono K181.out.size)
              clear hb K181
              go_wp2_with fail
              refine (EAB.out _ K182.out).mono ?_
              rintro e x183 ⟨rfl, hb⟩
              have K183 : Hid (Below W0.heap.size W0 x183) := K182.out.trans (hb.mono K182.out.size)
              clear hb K182
              go_wp2_with fail
              refine (MO.out _ K183.out).mono ?_
              rintro e x184 ⟨rfl, hb⟩
              have K184 : Hid (Below W0.heap.size W0 x184) := K183.out.trans (hb.mono K183.out.size)
              clear hb K183
              go_wp2
              go_ret
              exact ⟨rfl, HB0.out.trans (K184.out.mono HB0.out.size)⟩
        | true =>
          obtain rfl : mab = true := f1 rfl
          have hw1 := f3 rfl
          have hw2 : ¬ wb < wa := by omega
          clear f1 f2 f3 hw1
          cases rba with
          | false =>
            obtain rfl : sm = false := by simpa using f5.symm
            have hc0 : ¬ c = 0 := by simpa using f4
            have hcc : c = -1 ∨ c = 1 := by omega
            clear f4 f5 f6 f7 hc0
            rcases hcc with rfl | rfl
            · skip
              go_wp2_with fail
              refine (SA.out _ K130.out).mono ?_
              rintro e x185 ⟨rfl, hb⟩
              have K185 : Hid (Below W0.heap.size W0 x185) := K130.out.trans (hb.mono K130.out.size)
              clear hb K130
              go_wp2_with fail
              refine (SB.out _ K185.out).mono ?_
              rintro e x186 ⟨rfl, hb⟩
              have K186 : Hid (Below W0.heap.size W0 x186) := K185.out.trans (hb.mono K185.out.size)
              clear hb K185
              go_wp2_with fail
              refine (RAB.out _ K186.out).mono ?_
              rintro e x187 ⟨rfl, hb⟩
              have K187 : Hid (Below W0.heap.size W0 x187) := K186.out.trans (hb.mono K186.out.size)
              clear hb K186
              go_wp2_with fail
              refine (MAB.out _ K187.out).mono ?_
              rintro e x188 ⟨rfl, hb⟩
              have K188 : Hid (Below W0.heap.size W0 x188) := K187.out.trans (hb.mono K187.out.size)
              clear hb K187
              go_wp2_with fail
              refine (WA.out _ K188.out).mono ?_
              rintro e x189 ⟨rfl, hb⟩
              have K189 : Hid (Below W0.heap.size W0 x189) := K188.out.trans (hb.mono K188.out.size)
              clear hb K188
              go_wp2_with fail
              refine (WB.out _ K189.out).mono ?_
              rintro e x190 ⟨rfl, hb⟩
              have K190 : Hid (Below W0.heap.size W0 x190) := K189.out.trans (hb.mono K189.out.size)
              clear hb K189
              go_wp2_with fail
              refine (MAB.out _ K190.out).mono ?_
              rintro e x191 ⟨rfl, hb⟩
              have K191 : Hid (Below W0.heap.size W0 x191) := K190.out.trans (hb.mono K190.out.size)
              clear hb K190
              go_wp2_with fail
              refine (MBA.out _ K191.out).mono ?_
              rintro e x192 ⟨rfl, hb⟩
              have K192 : Hid (Below W0.heap.size W0 x192) := K191.out.trans (hb.mono K191.out.size)
              clear hb K191
              go_wp2_with fail
              refine (CAB.out _ K192.out).mono ?_
              rintro e x193 ⟨rfl, hb⟩
              have K193 : Hid (Below W0.heap.size W0 x193) := K192.out.trans (hb.mono K192.out.size)
              clear hb K192
              go_wp2_with fail
              refine (CBA.out _ K193.out).mono ?_
              rintro e x194 ⟨rfl, hb⟩
              have K194 : Hid (Below W0.heap.size W0 x194) := K193.out.trans (hb.mono K193.out.size)
              clear hb K193
              go_wp2_with fail
              refine (CAB.out _ K194.out).mono ?_
              rintro e x195 ⟨rfl, hb⟩
              have K195 : Hid (Below W0.heap.size W0 x195) := K194.out.trans (hb.mono K194.out.size)
              clear hb K194
              go_wp2_with fail
              refine (EAB.out _ K195.out).mono ?_
              rintro e x196 ⟨rfl, hb⟩
              have K196 : Hid (Below W0.heap.size W0 x196) := K195.out.trans (hb.mono K195.out.size)
              clear hb K195
              go_wp2_with fail
              refine (RAB.out _ K196.out).mono ?_
              rintro e x197 ⟨rfl, hb⟩
              have K197 : Hid (Below W0.heap.size W0 x197) := K196.out.trans (hb.mono K196.out.size)
              clear hb K196
              go_wp2_with fail
              refine (RBA.out _ K197.out).mono ?_
              rintro e x198 ⟨rfl, hb⟩
              have K198 : Hid (Below W0.heap.size W0 x198) := K197.out.trans (hb.mono K197.out.size)
              clear hb K197
              go_wp2_with fail
              refine (EAB.out _ K198.out).mono ?_
              rintro e x199 ⟨rfl, hb⟩
              have K199 : Hid (Below W0.heap.size W0 x199) := K198.out.trans (hb.mono K198.out.size)
              clear hb K198
              go_wp2_with fail
              refine (MO.out _ K199.out).mono ?_
              rintro e x200 ⟨rfl, hb⟩
              have K200 : Hid (Below W0.heap.size W0 x200) := K199.out.trans (hb.mono K199.out.size)
              clear hb K199
              go_wp2
              go_ret
              exact ⟨rfl, HB0.out.trans (K200.out.mono HB0.out.size)⟩
            · skip
              go_wp2_with fail
              refine (SA.out _ K130.out).mono ?_
              rintro e x201 ⟨rfl, hb⟩
              have K201 : Hid (Below W0.heap.size W0 x201) := K130.out.trans (hb.mono K130.out.size)
              clear hb K130
              go_wp2_with fail
              refine (SB.out _ K201.out).mono ?_
              rintro e x202 ⟨rfl, hb⟩
              have K202 : Hid (Below W0.heap.size W0 x202) := K201.out.trans (hb.mono K201.out.size)
              clear hb K201
              go_wp2_with fail
              refine (RAB.out _ K202.out).mono ?_
              rintro e x203 ⟨rfl, hb⟩
              have K203 : Hid (Below W0.heap.size W0 x203) := K202.out.trans (hb.mono K202.out.size)
              clear hb K202
              go_wp2_with fail
              refine (MAB.out _ K203.out).mono ?_
              rintro e x204 ⟨rfl, hb⟩
              have K204 : Hid (Below W0.heap.size W0 x204) := K203.out.trans (hb.mono K203.out.size)
              clear hb K203
              go_wp2_with fail
              refine (WA.out _ K204.out).mono ?_
              rintro e x205 ⟨rfl, hb⟩
              have K205 : Hid (Below W0.heap.size W0 x205) := K204.out.trans (hb.mono K204.out.size)
              clear hb K204
              go_wp2_with fail
              refine (WB.out _ K205.out).mono ?_
              rintro e x206 ⟨rfl, hb⟩
              have K206 : Hid (Below W0.heap.size W0 x206) := K205.out.trans (hb.mono K205.out.size)
              clear hb K205
              go_wp2_with fail
              refine (MAB.out _ K206.out).mono ?_
              rintro e x207 ⟨rfl, hb⟩
              have K207 : Hid (Below W0.heap.size W0 x207) := K206.out.trans (hb.mono K206.out.size)
              clear hb K206
              go_wp2_with fail
              refine (MBA.out _ K207.out).mono ?_
              rintro e x208 ⟨rfl, hb⟩
              have K208 : Hid (Below W0.heap.size W0 x208) := K207.out.trans (hb.mono K207.out.size)
              clear hb K207
              go_wp2_with fail
              refine (CAB.out _ K208.out).mono ?_
              rintro e x209 ⟨rfl, hb⟩
              have K209 : Hid (Below W0.heap.size W0 x209) := K208.out.trans (hb.mono K208.out.size)
              clear hb K208
              go_wp2_with fail
              refine (CBA.out _ K209.out).mono ?_
              rintro e x210 ⟨rfl, hb⟩
              have K210 : Hid (Below W0.heap.size W0 x210) := K209.out.trans (hb.mono K209.out.size)
              clear hb K209
              go_wp2_with fail
              refine (CAB.out _ K210.out).mono ?_
              rintro e x211 ⟨rfl, hb⟩
              have K211 : Hid (Below W0.heap.size W0 x211) := K210.out.trans (hb.mono K210.out.size)
              clear hb K210
              go_wp2_with fail
              refine (EAB.out _ K211.out).mono ?_
              rintro e x212 ⟨rfl, hb⟩
              have K212 : Hid (Below W0.heap.size W0 x212) := K211.out.trans (hb.mono K211.out.size)
              clear hb K211
              go_wp2_with fail
              refine (RAB.out _ K212.out).mono ?_
              rintro e x213 ⟨rfl, hb⟩
              have K213 : Hid (Below W0.heap.size W0 x213) := K212.out.trans (hb.mono K212.out.size)
              clear hb K212
              go_wp2_with fail
              refine (RBA.out _ K213.out).mono ?_
              rintro e x214 ⟨rfl, hb⟩
              have K214 : Hid (Below W0.heap.size W0 x214) := K213.out.trans (hb.mono K213.out.size)
              clear hb K213
              go_wp2_with fail
              refine (EAB.out _ K214.out).mono ?_
              rintro e x215 ⟨rfl, hb⟩
              have K215 : Hid (Below W0.heap.size W0 x215) := K214.out.trans (hb.mono K214.out.size)
              clear hb K214
              go_wp2_with fail
              refine (MO.out _ K215.out).mono ?_
              rintro e x216 ⟨rfl, hb⟩
              have K216 : Hid (Below W0.heap.size W0 x216) := K215.out.trans (hb.mono K215.out.size)
              clear hb K215
              go_wp2
              go_ret
              exact ⟨rfl, HB0.out.trans (K216.out.mono HB0.out.size)⟩
          | true =>
            obtain rfl : sm = true := by simpa using f5.symm
            obtain rfl : c = 0 := by simpa using f4
            clear f4 f5 f6 f7
            go_wp2_with fail
            refine (SA.out _ K130.out).mono ?_
            rintro e x217 ⟨rfl, hb⟩
            have K217 : Hid (Below W0.heap.size W0 x217) := K130.out.trans (hb.mono K130.out.size)
            clear hb K130
            go_wp2_with fail
            refine (SB.out _ K217.out).mono ?_
            rintro e x218 ⟨rfl, hb⟩
            have K218 : Hid (Below W0.heap.size W0 x218) := K217.out.trans (hb.mono K217.out.size)
            clear hb K217
            go_wp2_with fail
            refine (RAB.out _ K218.out).mono ?_
            rintro e x219 ⟨rfl, hb⟩
            have K219 : Hid (Below W0.heap.size W0 x219) := K218.out.trans (hb.mono K218.out.size)
            clear hb K218
            go_wp2_with fail
            refine (MAB.out _ K219.out).mono ?_
            rintro e x220 ⟨rfl, hb⟩
            have K220 : Hid (Below W0.heap.size W0 x220) := K219.out.trans (hb.mono K219.out.size)
            clear hb K219
            go_wp2_with fail
            refine (WA.out _ K220.out).mono ?_
            rintro e x221 ⟨rfl, hb⟩
            have K221 : Hid (Below W0.heap.size W0 x221) := K220.out.trans (hb.mono K220.out.size)
            clear hb K220
            go_wp2_with fail
            refine (WB.out _ K221.out).mono ?_
            rintro e x222 ⟨rfl, hb⟩
            have K222 : Hid (Below W0.heap.size W0 x222) := K221.out.trans (hb.mono K221.out.size)
            clear hb K221
            go_wp2_with fail
            refine (MAB.out _ K222.out).mono ?_
            rintro e x223 ⟨rfl, hb⟩
            have K223 : Hid (Below W0.heap.size W0 x223) := K222.out.trans (hb.mono K222.out.size)
            clear hb K222
            go_wp2_with fail
            refine (MBA.out _ K223.out).mono ?_
            rintro e x224 ⟨rfl, hb⟩
            have K224 : Hid (Below W0.heap.size W0 x224) := K223.out.trans (hb.mono K223.out.size)
            clear hb K223
            go_wp2_with fail
            refine (CAB.out _ K224.out).mono ?_
            rintro e x225 ⟨rfl, hb⟩
            have K225 : Hid (Below W0.heap.size W0 x225) := K224.out.trans (hb.mono K224.out.size)
            clear hb K224
            go_wp2_with fail
            refine (CBA.out _ K225.out).mono ?_
            rintro e x226 ⟨rfl, hb⟩
            have K226 : Hid (Below W0.heap.size W0 x226) := K225.out.trans (hb.mono K225.out.size)
            clear hb K225
            go_wp2_with fail
            refine (CAB.out _ K226.out).mono ?_
            rintro e x227 ⟨rfl, hb⟩
            have K227 : Hid (Below W0.heap.size W0 x227) := K226.out.trans (hb.mono K226.out.size)
            clear hb K226
            go_wp2_with fail
            refine (EAB.out _ K227.out).mono ?_
            rintro e x228 ⟨rfl, hb⟩
            have K228 : Hid (Below W0.heap.size W0 x228) := K227.out.trans (hb.mono K227.out.size)
            clear hb K227
            go_wp2_with fail
            refine (RAB.out _ K228.out).mono ?_
            rintro e x229 ⟨rfl, hb⟩
            have K229 : Hid (Below W0.heap.size W0 x229) := K228.out.trans (hb.mono K228.out.size)
            clear hb K228
            go_wp2_with fail
            refine (RBA.out _ K229.out).mono ?_
            rintro e x230 ⟨rfl, hb⟩
            have K230 : Hid (Below W0.heap.size W0 x230) := K229.out.trans (hb.mono K229.out.size)
            clear hb K229
            go_wp2_with fail
            refine (EAB.out _ K230.out).mono ?_
            rintro e x231 ⟨rfl, hb⟩
            have K231 : Hid (Below W0.heap.size W0 x231) := K230.out.trans (hb.mono K230.out.size)
            clear hb K230
            go_wp2_with fail
            refine (MO.out _ K231.out).mono ?_
            rintro e x232 ⟨rfl, hb⟩
            have K232 : Hid (Below W0.heap.size W0 x232) := K231.out.trans (hb.mono K231.out.size)
            clear hb K231
            go_wp2
            go_ret
            exact ⟨rfl, HB0.out.trans (K232.out.mono HB0.out.size)⟩

set_option maxRecDepth 100000 in
theorem lifted (os : Os) (started : os.Started) (H : Type) (enc : TypeId × Value → H) :
    ReturnsInHanded {} Tryz.checked os 5 .any (Rows.fnVectorsSpec.pre6 enc Tryz.prog Tryz.f5 Rows.fnVectorsRow.domain false) (Rows.fnVectorsSpec.post enc Tryz.prog Tryz.f5 false true false false) := by
  refine returnsInHanded_of_change_sized (C := Tryz.checked) own started (by kernel_rfl) Tryz.func5
    (ChangeSpec.witness6 (enc := enc) (C := Tryz.checked) false ⟨#[], #[.slice none 0 0], []⟩ 8 (by kernel_rfl) (by kernel_rfl) (by kernel_rfl) (by kernel_rfl)) ?_
  intro W base args ds gs before hval0 hW hcnd hsz _
  have hval : ∀ (j : Nat) t v, Tryz.f5.params[j]? = some t → args[j]? = some v → Value.okWide Tryz.prog W .any base t v := hval0
  have hW' := hW
  obtain ⟨p, q, hA0, hV, rfl, hfz, hnd⟩ := hW
  have hA : DataW.TrodAll enc Tryz.prog W 0 (fun _ => true) true Tryz.f5.params.toList args.toList ds p := hA0
  rw [Tryz.params5] at hA hval
  obtain ⟨v0, vs0, d0, ds0, p0, q0, hargs, rfl, rfl, h0, r0⟩ := trodAll_cons hA
  obtain ⟨rfl, rfl, rfl⟩ := trodAll_nil r0
  obtain rfl : args = #[v0] := by cases args; simp_all
  obtain ⟨rfl, rfl⟩ := trodVars_none hV
  have k0 := h0
  have lt0 : ∀ x ∈ p0, x.block < W.heap.size := by obtain ⟨m, hm⟩ := k0; exact DataW.trod_lt m _ _ _ hm
  obtain ⟨a, n, cap, rfl, hn, hcode⟩ := open_code (hval 0 46 v0 rfl rfl) h0 (fun elems spare e => sized_slice hsz (j := 0) (t := 46) (by rw [Tryz.params5]; rfl) (by subst e; rfl) Tryz.underlying46)
  clear hA0 hval0
  refine (walk a n cap W hn hcode).mono fun e W' ⟨he, bel⟩ => ?_
  subst he
  exact ⟨_, rfl, _, _, _, [], _, [], hW', trodAll_mk1 (shut_bool Tryz.underlying4 _), (trodAll_cons_mk (Below.trod laidOut (by kernel_rfl) (of_decide_eq_true (by kernel_rfl)) k0 bel lt0) trodAll_mk0), rfl, bel.frame _, fun h => by cases h⟩

theorem over : Rows.fnVectorsRow.holds Tryz.pinned (OpenSpec.ofChange Rows.fnVectorsSpec) :=
  OpenClaim.holds_of_wide 5 Tryz.f5 rfl rfl rfl rfl rfl rfl rfl ⟨rfl, rfl, rfl, rfl, rfl⟩ rfl rfl rfl rfl rfl (by as_aux_lemma => kernel_rfl) Tryz.func5 ClVectors.closed
    (by as_aux_lemma => exact of_decide_eq_true (by kernel_rfl)) (by unfold Func.isWrapper; first | (rw [if_pos (by decide +kernel)]; kernel_rfl) | (rw [if_neg (by decide +kernel)]; exact ⟨rfl, rfl⟩))
    (fun os started H enc _ => lifted os started H enc)
end Go.Proofs.YtmpoffepoafblaaGreat.LawVectors
namespace Go.Proofs.YtmpoffepoafblaaGreat
theorem fnVectors_holds : Rows.FnVectorsSaid := LawVectors.over
#print axioms fnVectors_holds
end Go.Proofs.YtmpoffepoafblaaGreat
