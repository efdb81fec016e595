/- The specification's text of a history. -/
import Derived.Test.YtbcdfacbhemijaaDoorExactHistoryTextCardG18
namespace Go.Proofs.YtbcdfacbhemijaaDoor
open Go.RowKit
theorem asks_no {h : Hy} (hn : ¬ 0 ≤ h.a) : asksT h = [] := if_neg hn
theorem asks_yes {h : Hy} (hn : 0 ≤ h.a) : asksT h = [97, 115, 107, 115, 32] ++ dec h.a ++ [10] := if_pos hn
theorem ev_line9 (t s q d k v : Int) : 9 ≤ (evText t s q d k v).length := by
  unfold evText
  simp only [List.length_append, List.length_cons, List.length_nil]
  omega
theorem em_line5 (t l v : Int) : 5 ≤ (emLine t l v).length := by
  unfold emLine
  simp only [List.length_append, List.length_cons, List.length_nil]
  omega
set_option maxRecDepth 100000 in
set_option maxHeartbeats 16000000 in
theorem sTextH (x : Value) (z : Hy) (w : World) (hi : z.inR) (h : IsHistory w x z) :
    Calls Tryd.prog 15 #[x] w fun e w' => ∃ y, e = .returned y ∧ OwnB w.heap.size w' y (histR z) ∧ Below w.heap.size w w' := by
  have HIN : Hid z.inR := hi
  clear hi
  obtain ⟨u0, u1, rfl, hd0, hd1⟩ := h
  obtain ⟨ae, ce, rfl, _, _, he⟩ := hd0.isEvs
  obtain ⟨ax, cx, rfl, _, _, hxx⟩ := hd1.isX
  have HEV : Hid (z.e = [] ∨ ∃ b off, ae = some ⟨b, off, none⟩ ∧ EvsAt w b off z.e) := he
  have HXX : Hid (z.x = [] ∨ ∃ b off, ax = some ⟨b, off, none⟩ ∧ XsAt w b off z.x) := hxx
  clear hd0 hd1 he hxx
  obtain ⟨W0, hW0⟩ : ∃ W0, w.alloc (.cells #[.slice ae z.e.length ce, .slice ax z.x.length cx, .int .i64 z.a, .bool z.f] 47) = W0 := ⟨_, rfl⟩
  have HP0 : Hid (Bk W0 w.heap.size 47 #[.slice ae z.e.length ce, .slice ax z.x.length cx, .int .i64 z.a, .bool z.f]) := hW0 ▸ Bk.new w _ _
  have HB0 : Hid (Below w.heap.size w W0) := hW0 ▸ (Below.refl _ w).alloc (Nat.le_refl _) _
  have p0 := HP0.out.cell (i := 0) rfl
  have p1 := HP0.out.cell (i := 1) rfl
  have p2 := HP0.out.cell (i := 2) rfl
  go_enter Tryd.func15, Tryd.ntmps15
  by_cases c1 : z.e.length ≤ 150
  case neg =>
    have d1 : (150 : Int) < (z.e.length : Int) := by omega
    have HNO : Hid (histR z = []) := histR_no (fun h9 => c1 h9.1.1)
    have HBN := HB0
    go_wp2
    go_ret
    exact ⟨_, rfl, by rw [HNO.out]; exact OwnB.nil _ _, HBN.out⟩
  have d1 : ¬ (150 : Int) < (z.e.length : Int) := by omega
  by_cases c2 : z.x.length ≤ 1200
  case neg =>
    have d2 : (1200 : Int) < (z.x.length : Int) := by omega
    have HNO : Hid (histR z = []) := histR_no (fun h9 => c2 h9.1.2.1)
    have HBN := HB0
    go_wp2
    go_ret
    exact ⟨_, rfl, by rw [HNO.out]; exact OwnB.nil _ _, HBN.out⟩
  have d2 : ¬ (1200 : Int) < (z.x.length : Int) := by omega
  by_cases c3 : -1 ≤ z.a
  case neg =>
    have d3 : z.a < -1 := by omega
    have HNO : Hid (histR z = []) := histR_no (fun h9 => c3 h9.1.2.2.1)
    have HBN := HB0
    go_wp2
    go_ret
    exact ⟨_, rfl, by rw [HNO.out]; exact OwnB.nil _ _, HBN.out⟩
  have d3 : ¬ z.a < -1 := by omega
  by_cases c4 : z.a ≤ 3
  case neg =>
    have d4 : 4 ≤ z.a := by omega
    have HNO : Hid (histR z = []) := histR_no (fun h9 => c4 h9.1.2.2.2)
    have HBN := HB0
    go_wp2
    go_ret
    exact ⟨_, rfl, by rw [HNO.out]; exact OwnB.nil _ _, HBN.out⟩
  have d4 : ¬ 4 ≤ z.a := by omega
  have HHD : Hid z.hd := ⟨c1, c2, c3, c4⟩
  obtain ⟨B, hBe⟩ : ∃ B, B = W0.heap.size := ⟨_, rfl⟩
  have HT0 : Hid (TxS B W0 W0 (.slice none 0 0) []) := TxS.nil (Below.refl _ _) (by omega)
  have hwB : w.heap.size < B := by have := HP0.out.lt; omega
  have HBE : Hid (B = W0.heap.size) := hBe
  clear hBe
  have HPB0 : Hid (∀ W, Below B W0 W → Bk W w.heap.size 47 #[.slice ae z.e.length ce, .slice ax z.x.length cx, .int .i64 z.a, .bool z.f]) := fun W hW => HP0.out.keep hW hwB
  go_wp2
  clear d1 d2 d3 d4 p0 p1 p2 hW0
  obtain ⟨w1, hw1⟩ : ∃ w1, w1 = W0 := ⟨_, rfl⟩
  rw [← hw1] at HT0 HP0 HB0 HBE HPB0 ⊢
  clear hw1
  have HPB := HPB0
  clear HPB0
  go_loopw [4, 3] (fun i s wr => ∃ (k : Nat) (v : Value) (Y : List UInt8), k ≤ z.e.length ∧ v = s ∧ i = .int .i64 k ∧ Hid (Y = linesText z.e k) ∧ Hid (∀ i, i < k → (evAt z.e i).ok = true) ∧ Y.length ≤ k * 7000000 ∧ (5 ≤ Y.length ∨ s = .slice none 0 0) ∧ Hid (TxS B w1 wr s Y) ∧ Hid (Bk wr w.heap.size 47 #[.slice ae z.e.length ce, .slice ax z.x.length cx, .int .i64 z.a, .bool z.f])) (fun i _ _ => z.e.length - (intOf i).toNat)
  case atStart => exact ⟨0, _, [], Nat.zero_le _, rfl, rfl, (rfl : ([] : List UInt8) = linesText z.e 0), (fun i hi => absurd hi (Nat.not_lt_zero _)), by simp, .inr rfl, HT0.out, HP0.out⟩
  case round =>
    clear HT0 HP0
    obtain ⟨k, o, Y, hk, rfl, rfl, HY, HKO, hl1, hl0, HTr, HPr⟩ := hrel
    have HBr : Hid (Below w.heap.size w wr) := HB0.out.trans (HTr.out.below.mono (by omega))
    have q0 := HPr.out.cell (i := 0) rfl
    by_cases hlt : k < z.e.length
    case pos =>
      have hkd : decide ((k : Int) < (z.e.length : Int)) = true := by simpa using hlt
      obtain ⟨b, off, rfl, hb, hc⟩ := HEV.out.resolve_left (by intro e; rw [e] at hlt; simp at hlt)
      obtain ⟨f0, f1, f2, f3, f4, f5, f6⟩ := (hc k hlt).below HBr.out hb
      have HNX : Hid (linesText z.e (k + 1) = linesText z.e k ++ lineText (evAt z.e k)) := rfl
      have HEK : Hid (evAt z.e k = evAt z.e k) := rfl
      generalize hev : evAt z.e k = e at f0 f1 f2 f3 f4 f5 f6 HNX
      obtain ⟨t, s, qq, d, kk, vv, g⟩ := e
      have HE : Hid (evAt z.e k = ⟨t, s, qq, d, kk, vv, g⟩) := hev
      clear hc hev HEK
      go_wp2_with fail
      refine (sOk_any t s qq d kk vv g _).mono ?_
      rintro e w2 ⟨rfl, hb2⟩
      have HT2 : Hid (TxS B w1 w2 o Y) := HTr.out.kept hb2
      have HP2 : Hid (Bk w2 w.heap.size 47 #[.slice (some ⟨b, off, none⟩) z.e.length ce, .slice ax z.x.length cx, .int .i64 z.a, .bool z.f]) := HPr.out.below hb2
      have HB2 : Hid (Below w.heap.size w w2) := HBr.out.trans (hb2.mono HBr.out.size)
      have hbb : b < wr.heap.size := Nat.lt_of_lt_of_le hb HBr.out.size
      have g0 := (hb2.cell (p := ⟨b, _, none⟩) hbb).trans f0
      have g1 := (hb2.cell (p := ⟨b, _, none⟩) hbb).trans f1
      have g2 := (hb2.cell (p := ⟨b, _, none⟩) hbb).trans f2
      have g3 := (hb2.cell (p := ⟨b, _, none⟩) hbb).trans f3
      have g4 := (hb2.cell (p := ⟨b, _, none⟩) hbb).trans f4
      have g5 := (hb2.cell (p := ⟨b, _, none⟩) hbb).trans f5
      have g6 := (hb2.cell (p := ⟨b, _, none⟩) hbb).trans f6
      have q2 := HP2.out.cell (i := 0) rfl
      clear f0 f1 f2 f3 f4 f5 f6 q0 hb2 HTr HPr HBr hbb
      cases hok : okB t s qq d kk vv g with
      | false =>
        clear g0 g1 g2 g3 g4 g5 g6 q2
        have HNO : Hid (histR z = []) := histR_no (fun h9 => by have h8 := h9.2.1 k hlt; rw [HE.out] at h8; have h7 : okB t s qq d kk vv g = true := h8; rw [hok] at h7; cases h7)
        have HBN := HB2
        go_wp2
        go_ret
        exact ⟨_, rfl, by rw [HNO.out]; exact OwnB.nil _ _, HBN.out⟩
      | true =>
        have hst := of_decide_eq_true hok
        obtain ⟨ht0, ht1, hs0x, hs1x, hq0, hq1, hd0, hd1, hk0, hk1, hv0, hv1, hg0, hg1⟩ := hst
        have HKO2 : Hid (∀ i, i < k + 1 → (evAt z.e i).ok = true) := fun i hi => by
          by_cases h7 : i < k
          · exact HKO.out i h7
          · obtain rfl : i = k := by omega
            rw [HE.out]; exact hok
        clear hok HKO
        have hle := ev_len t s qq d kk vv (by omega) (by omega) (by omega) (by omega) (by omega) (by omega)
        have hl9 := ev_line9 t s qq d kk vv
        go_wp2_with fail
        clear g0 g1 g2 g3 g4 g5 g6 q2
        refine (text_tx (B := B) (w1 := w1) t s qq d kk vv g ht0 (by omega) (by omega) hq0 (by omega) hd0 (by omega) hk0 (by omega) hv0 (by omega) o Y _ HT2.out).mono ?_
        rintro r w22 ⟨X22, c22, rfl, HS22, HT22, HK22⟩
        go_wp2_with (first | (at_builtin; refine txl_own (B := B) (w1 := w1) rfl _ _ rfl o Y rfl (by (repeat (first | assumption | (with_reducible refine Hid.out (p := TxS _ _ _ _ _) ?_; assumption) | with_reducible refine TxS.drew ?_ | with_reducible refine TxS.alloc ?_ _))) (evText t s qq d kk vv) X22 c22 rfl HS22.out (by (repeat rw [List.length_append]); (try simp only [List.length_cons, List.length_nil]); omega) ?_; intro y23 w23 ht22a hk22a; have HT22a : Hid (TxS B w1 w23 y23 (Y ++ (evText t s qq d kk vv))) := ht22a; have HK22a : Hid (Kp _ _ w23) := hk22a; clear ht22a hk22a) | (at_builtin; refine txl_own (B := B) (w1 := w1) rfl _ _ rfl y23 (Y ++ (evText t s qq d kk vv)) rfl (by (repeat (first | assumption | (with_reducible refine Hid.out (p := TxS _ _ _ _ _) ?_; assumption) | with_reducible refine TxS.drew ?_ | with_reducible refine TxS.alloc ?_ _))) [10] _ 1 rfl (Src.one rfl (by (repeat (first | assumption | (with_reducible refine Hid.out (p := Bk _ _ _ _) ?_; assumption) | exact Bk.new _ _ _ | exact Bk.newAt (by simp) _ _ | with_reducible refine Bk.drew ?_ | with_reducible refine Bk.alloc ?_ _ | refine Kp.bk (Hid.out (by assumption)) ?_ (by first | exact Or.inl (by decide) | (refine Or.inr ?_; simp; omega) | (refine Or.inr ?_; simp; done)))))) (by (repeat rw [List.length_append]); (try simp only [List.length_cons, List.length_nil]); omega) ?_; intro y24 w24 ht22b hk22b; have HT22b : Hid (TxS B w1 w24 y24 ((Y ++ (evText t s qq d kk vv)) ++ [10])) := ht22b; have HK22b : Hid (Kp _ _ w24) := hk22b; clear ht22b hk22b))
        have HP24 : Hid (Bk w24 w.heap.size 47 #[.slice (some ⟨b, off, none⟩) z.e.length ce, .slice ax z.x.length cx, .int .i64 z.a, .bool z.f]) := (by (repeat (first | assumption | (with_reducible refine Hid.out (p := Bk _ _ _ _) ?_; assumption) | exact Bk.new _ _ _ | exact Bk.newAt (by simp) _ _ | with_reducible refine Bk.drew ?_ | with_reducible refine Bk.alloc ?_ _ | refine Kp.bk (Hid.out (by assumption)) ?_ (by first | exact Or.inl (by decide) | (refine Or.inr ?_; simp; omega) | (refine Or.inr ?_; simp; done)))) : Bk w24 w.heap.size 47 #[.slice (some ⟨b, off, none⟩) z.e.length ce, .slice ax z.x.length cx, .int .i64 z.a, .bool z.f])
        go_wp2
        go_roundw
        case rel =>
          refine ⟨k + 1, _, ((Y ++ (evText t s qq d kk vv)) ++ [10]), by omega, rfl, by go_num, (?_ : ((Y ++ (evText t s qq d kk vv)) ++ [10]) = linesText z.e (k + 1)), HKO2.out, ?_, .inl ?_, HT22b.out, HP24.out⟩
          · rw [HNX.out, HY.out]
            simp [lineText]
          · simp only [List.length_append, List.length_cons, List.length_nil]; omega
          · simp only [List.length_append, List.length_cons, List.length_nil]; omega
        case measure => simp [intOf]; omega
    case neg =>
      obtain rfl : k = z.e.length := by omega
      have hkd : decide ((z.e.length : Int) < (z.e.length : Int)) = false := by simp
      have HYE : Hid (Y = linesText z.e z.e.length) := HY.out
      have HKA : Hid (∀ i, i < z.e.length → (evAt z.e i).ok = true) := HKO.out
      have hl2 : Y.length ≤ 1050000000 := by omega
      clear HY HKO
      go_wp2
      clear q0 HBr
      go_loopw [5, 3] (fun i s wr => ∃ (k : Nat) (v : Value) (Z : List UInt8), k ≤ z.x.length ∧ v = s ∧ i = .int .i64 k ∧ Hid (Z = Y ++ emsText z.x k) ∧ Hid (∀ i, i < k → emB (xAt z.x i) = true) ∧ Z.length ≤ Y.length + k * 71 ∧ (5 ≤ Z.length ∨ s = .slice none 0 0) ∧ Hid (TxS B w1 wr s Z) ∧ Hid (Bk wr w.heap.size 47 #[.slice ae z.e.length ce, .slice ax z.x.length cx, .int .i64 z.a, .bool z.f])) (fun i _ _ => z.x.length - (intOf i).toNat)
      case atStart => exact ⟨0, _, Y, Nat.zero_le _, rfl, rfl, (by simp [emsText] : Y = Y ++ emsText z.x 0), (fun i hi => absurd hi (Nat.not_lt_zero _)), by omega, hl0, HTr.out, HPr.out⟩
      case round =>
        clear HTr HPr hl0
        obtain ⟨k, o, Z, hk, rfl, rfl, HZ, HKO, hl1, hl0, HTr, HPr⟩ := hrel
        have HBr : Hid (Below w.heap.size w wr) := HB0.out.trans (HTr.out.below.mono (by omega))
        have q1 := HPr.out.cell (i := 1) rfl
        by_cases hlt : k < z.x.length
        case pos =>
          have hkd : decide ((k : Int) < (z.x.length : Int)) = true := by simpa using hlt
          obtain ⟨b, off, rfl, hb, hc⟩ := HXX.out.resolve_left (by intro e; rw [e] at hlt; simp at hlt)
          obtain ⟨f0, f1, f2⟩ := (hc k hlt).below HBr.out hb
          have hin := HIN.out k hlt
          have HNX : Hid (emsText z.x (k + 1) = emsText z.x k ++ (emLine (xAt z.x k).t (xAt z.x k).l (xAt z.x k).v ++ [10])) := rfl
          have hem := em_len hin
          generalize hev : xAt z.x k = e at f0 f1 f2 HNX hin hem
          obtain ⟨t, l, v⟩ := e
          have HE : Hid (xAt z.x k = ⟨t, l, v⟩) := hev
          obtain ⟨⟨_, ht1⟩, ⟨_, hl1'⟩, ⟨_, hv1⟩⟩ := hin
          simp only at ht1 hl1' hv1 hem
          clear hc hev
          obtain ⟨QB, hQB⟩ : ∃ QB, QB = wr.heap.size := ⟨_, rfl⟩
          obtain ⟨V, hV⟩ : ∃ V, wr.alloc (.cells #[.int .i64 t, .int .i64 l, .int .i64 v] 78) = V := ⟨_, rfl⟩
          have HTV : Hid (TxS B w1 V o Z) := hV ▸ HTr.out.alloc _
          have HPV : Hid (Bk V w.heap.size 47 #[.slice ae z.e.length ce, .slice (some ⟨b, off, none⟩) z.x.length cx, .int .i64 z.a, .bool z.f]) := hV ▸ HPr.out.alloc _
          have HQV : Hid (Bk V QB 78 #[.int .i64 t, .int .i64 l, .int .i64 v]) := hV ▸ Bk.newAt hQB _ _
          have HBV : Hid (Below w.heap.size w V) := hV ▸ HBr.out.alloc HBr.out.size _
          have e0 := HQV.out.cell (i := 0) rfl
          have e1 := HQV.out.cell (i := 1) rfl
          have e2 := HQV.out.cell (i := 2) rfl
          have hQB' := hQB.symm
          clear hQB
          by_cases c5 : 0 ≤ t
          case neg =>
            have d5 : t < 0 := by omega
            have HNO : Hid (histR z = []) := histR_no (fun h9 => by have h8 := h9.2.2 k hlt; rw [HE.out] at h8; have h7 := of_decide_eq_true h8; exact c5 h7.1)
            have HBN := HBV
            go_wp2
            go_ret
            exact ⟨_, rfl, by rw [HNO.out]; exact OwnB.nil _ _, HBN.out⟩
          have d5 : ¬ t < 0 := by omega
          by_cases c6 : 0 ≤ l
          case neg =>
            have d6 : l < 0 := by omega
            have HNO : Hid (histR z = []) := histR_no (fun h9 => by have h8 := h9.2.2 k hlt; rw [HE.out] at h8; have h7 := of_decide_eq_true h8; exact c6 h7.2.1)
            have HBN := HBV
            go_wp2
            go_ret
            exact ⟨_, rfl, by rw [HNO.out]; exact OwnB.nil _ _, HBN.out⟩
          have d6 : ¬ l < 0 := by omega
          by_cases c7 : 0 ≤ v
          case neg =>
            have d7 : v < 0 := by omega
            have HNO : Hid (histR z = []) := histR_no (fun h9 => by have h8 := h9.2.2 k hlt; rw [HE.out] at h8; have h7 := of_decide_eq_true h8; exact c7 h7.2.2)
            have HBN := HBV
            go_wp2
            go_ret
            exact ⟨_, rfl, by rw [HNO.out]; exact OwnB.nil _ _, HBN.out⟩
          have d7 : ¬ v < 0 := by omega
          have HKO2 : Hid (∀ i, i < k + 1 → emB (xAt z.x i) = true) := fun i hi => by
            by_cases h7 : i < k
            · exact HKO.out i h7
            · obtain rfl : i = k := by omega
              rw [HE.out]; exact decide_eq_true ⟨c5, c6, c7⟩
          clear HKO
          have hl5 := em_line5 t l v
          go_wp2_with fail
          clear f0 f1 f2 e0 e1 e2 q1 hV d5 d6 d7 HTr HPr HBr hQB'
          refine (emit_tx (B := B) (w1 := w1) t l v c5 ht1 c6 hl1' c7 hv1 o Z (by omega) _ HTV.out).mono ?_
          rintro r w3 ⟨y3, rfl, hT3⟩
          have HT3 : Hid (TxS B w1 w3 y3 (Z ++ (emLine t l v ++ [10]))) := hT3
          have HP3 : Hid (Bk w3 w.heap.size 47 #[.slice ae z.e.length ce, .slice (some ⟨b, off, none⟩) z.x.length cx, .int .i64 z.a, .bool z.f]) := HPB.out w3 hT3.below
          clear hT3
          go_wp2
          go_roundw
          case rel =>
            refine ⟨k + 1, _, Z ++ (emLine t l v ++ [10]), by omega, rfl, by go_num, (?_ : Z ++ (emLine t l v ++ [10]) = Y ++ emsText z.x (k + 1)), HKO2.out, ?_, .inl ?_, HT3.out, HP3.out⟩
            · rw [HNX.out, HZ.out]
              simp
            · simp only [List.length_append, List.length_cons, List.length_nil]; omega
            · simp only [List.length_append, List.length_cons, List.length_nil]; omega
          case measure => simp [intOf]; omega
        case neg =>
          obtain rfl : k = z.x.length := by omega
          have hkd : decide ((z.x.length : Int) < (z.x.length : Int)) = false := by simp
          have HOK : Hid (histR z = histText z) := histR_yes ⟨HHD.out, HKA.out, HKO.out⟩
          have hl3 : Z.length ≤ 1051000000 := by omega
          have q2 := HPr.out.cell (i := 2) rfl
          have q3 := HPr.out.cell (i := 3) rfl
          by_cases c5 : 0 ≤ z.a
          case neg =>
            have HAN := asks_no c5
            have hfin : ∀ W v U, TxS B w1 W v U → U = Z ++ fullT z → OwnB w.heap.size W v (histR z) ∧ Below w.heap.size w W := fun W v U hT hU => by
              have e9 : U = histR z := by rw [HOK.out, hU, HZ.out, HYE.out, histText, HAN]; simp
              exact ⟨e9 ▸ (OwnB.of_row hT.row).mono (by omega), HB0.out.trans (hT.below.mono (by omega))⟩
            have HFIN : Hid (∀ W v U, TxS B w1 W v U → U = Z ++ fullT z → OwnB w.heap.size W v (histR z) ∧ Below w.heap.size w W) := hfin
            clear hfin HAN
            have q3 := HPr.out.cell (i := 3) rfl
            cases hf : z.f with
            | false =>
              have hff : fullT z = [] := by unfold fullT; rw [if_neg (by rw [hf]; simp)]
              have HR : Hid (OwnB w.heap.size wr o (histR z) ∧ Below w.heap.size w wr) := HFIN.out _ _ _ HTr.out (by rw [hff]; simp)
              clear hff
              rw [hf] at q3
              go_wp2
              go_ret
              exact ⟨_, rfl, HR.out.1, HR.out.2⟩
            | true =>
              have hff : fullT z = [102, 117, 108, 108] ++ [10] := by unfold fullT; rw [if_pos hf]
              have HF : Hid (fullT z = [102, 117, 108, 108] ++ [10]) := hff
              clear hff
              rw [hf] at q3
              go_wp2_with (at_builtin; refine txl_text (B := B) (w1 := w1) rfl _ _ rfl o Z rfl (by (repeat (first | assumption | (with_reducible refine Hid.out (p := TxS _ _ _ _ _) ?_; assumption) | with_reducible refine TxS.drew ?_ | with_reducible refine TxS.alloc ?_ _))) ⟨#[102, 117, 108, 108, 10]⟩ rfl (by show _ + 5 ≤ _; (try simp only [List.length_append, List.length_cons, List.length_nil]); omega) ?_; intro y40 w40 ht20 hk20; have HT20 : Hid (TxS B w1 w40 y40 (Z ++ [102, 117, 108, 108, 10])) := ht20; have HK20 : Hid (Kp _ _ w40) := hk20; clear ht20 hk20)
              have HR : Hid (OwnB w.heap.size w40 y40 (histR z) ∧ Below w.heap.size w w40) := HFIN.out _ _ _ HT20.out (by rw [HF.out]; simp)
              go_wp2
              go_ret
              exact ⟨_, rfl, HR.out.1, HR.out.2⟩
          have hda := dec_len20 z.a (by omega)
          have HAY := asks_yes c5
          have hfin : ∀ W v U, TxS B w1 W v U → U = Z ++ [97, 115, 107, 115, 32] ++ dec z.a ++ [10] ++ fullT z → OwnB w.heap.size W v (histR z) ∧ Below w.heap.size w W := fun W v U hT hU => by
            have e9 : U = histR z := by rw [HOK.out, hU, HZ.out, HYE.out, histText, HAY]; simp
            exact ⟨e9 ▸ (OwnB.of_row hT.row).mono (by omega), HB0.out.trans (hT.below.mono (by omega))⟩
          have HFIN : Hid (∀ W v U, TxS B w1 W v U → U = Z ++ [97, 115, 107, 115, 32] ++ dec z.a ++ [10] ++ fullT z → OwnB w.heap.size W v (histR z) ∧ Below w.heap.size w W) := hfin
          clear hfin HAY
          go_upto_region 18 with (fail)
          clear q3 hkd
          go_region_held3 (fun W => W.cell? ⟨w.heap.size, 2, none⟩ = some (.int .i64 z.a)) (first | assumption | exact Bk.cell (i := 2) (vs := #[.slice ae z.e.length ce, .slice ax z.x.length cx, .int .i64 z.a, .bool z.f]) (T := 47) (P := w.heap.size) (by (repeat (first | assumption | (with_reducible refine Hid.out (p := Bk _ _ _ _) ?_; assumption) | exact Bk.new _ _ _ | exact Bk.newAt (by simp) _ _ | with_reducible refine Bk.drew ?_ | with_reducible refine Bk.alloc ?_ _ | refine Kp.bk (Hid.out (by assumption)) ?_ (by first | exact Or.inl (by decide) | (refine Or.inr ?_; simp; omega) | (refine Or.inr ?_; simp; done))))) rfl | (go_keep; done))
            (first
              | (go_at_call 24; refine (digits_tx9 (B := B) (w1 := w1) z.a c5 (by omega) y30 (Z ++ [97, 115, 107, 115, 32]) _ (by (repeat (first | assumption | (with_reducible refine Hid.out (p := TxS _ _ _ _ _) ?_; assumption) | with_reducible refine TxS.drew ?_ | with_reducible refine TxS.alloc ?_ _)))).mono ?_; rintro r w31 ⟨X18b, c18b, rfl, HS18b, HT18b, HK18b⟩)
              | (refine tx_own (B := B) (w1 := w1) rfl (.tmp 87) (.tmp 88) rfl y32 ((Z ++ [97, 115, 107, 115, 32]) ++ (dec z.a)) rfl (by (repeat (first | assumption | (with_reducible refine Hid.out (p := TxS _ _ _ _ _) ?_; assumption) | with_reducible refine TxS.drew ?_ | with_reducible refine TxS.alloc ?_ _))) [10] _ 1 rfl (Src.one rfl (by (repeat (first | assumption | (with_reducible refine Hid.out (p := Bk _ _ _ _) ?_; assumption) | exact Bk.new _ _ _ | exact Bk.newAt (by simp) _ _ | with_reducible refine Bk.drew ?_ | with_reducible refine Bk.alloc ?_ _ | refine Kp.bk (Hid.out (by assumption)) ?_ (by first | exact Or.inl (by decide) | (refine Or.inr ?_; simp; omega) | (refine Or.inr ?_; simp; done)))))) (by (repeat rw [List.length_append]); (try simp only [List.length_cons, List.length_nil]); omega) ?_; intro y33 w33 ht18d hk18d; have HT18d : Hid (TxS B w1 w33 y33 (((Z ++ [97, 115, 107, 115, 32]) ++ (dec z.a)) ++ [10])) := ht18d; have HK18d : Hid (Kp _ _ w33) := hk18d; clear ht18d hk18d)
              | (refine tx_own (B := B) (w1 := w1) rfl (.tmp 83) (.tmp 86) rfl y30 (Z ++ [97, 115, 107, 115, 32]) rfl (by (repeat (first | assumption | (with_reducible refine Hid.out (p := TxS _ _ _ _ _) ?_; assumption) | with_reducible refine TxS.drew ?_ | with_reducible refine TxS.alloc ?_ _))) (dec z.a) X18b c18b rfl (by (repeat (first | assumption | with_reducible refine Src.alloc ?_ _))) (by (repeat rw [List.length_append]); (try simp only [List.length_cons, List.length_nil]); omega) ?_; intro y32 w32 ht18c hk18c; have HT18c : Hid (TxS B w1 w32 y32 ((Z ++ [97, 115, 107, 115, 32]) ++ (dec z.a))) := ht18c; have HK18c : Hid (Kp _ _ w32) := hk18c; clear ht18c hk18c)
              | (refine tx_textN (B := B) (w1 := w1) rfl (.tmp 82) (.const (.string ⟨#[97, 115, 107, 115, 32]⟩)) rfl o Z rfl (by (repeat (first | assumption | (with_reducible refine Hid.out (p := TxS _ _ _ _ _) ?_; assumption) | with_reducible refine TxS.drew ?_ | with_reducible refine TxS.alloc ?_ _))) 5 hl0 ⟨#[97, 115, 107, 115, 32]⟩ rfl (by show _ + 5 ≤ _; omega) ?_; intro y30 w30 ht18a hk18a; have HT18a : Hid (TxS B w1 w30 y30 (Z ++ [97, 115, 107, 115, 32])) := ht18a; have HK18a : Hid (Kp _ _ w30) := hk18a; clear ht18a hk18a))
          all_goals
            have HP33 : Hid (Bk w33 w.heap.size 47 #[.slice ae z.e.length ce, .slice ax z.x.length cx, .int .i64 z.a, .bool z.f]) := (by (repeat (first | assumption | (with_reducible refine Hid.out (p := Bk _ _ _ _) ?_; assumption) | exact Bk.new _ _ _ | exact Bk.newAt (by simp) _ _ | with_reducible refine Bk.drew ?_ | with_reducible refine Bk.alloc ?_ _ | refine Kp.bk (Hid.out (by assumption)) ?_ (by first | exact Or.inl (by decide) | (refine Or.inr ?_; simp; omega) | (refine Or.inr ?_; simp; done)))) : Bk w33 w.heap.size 47 #[.slice ae z.e.length ce, .slice ax z.x.length cx, .int .i64 z.a, .bool z.f])
            have q3 := HP33.out.cell (i := 3) rfl
            cases hf : z.f with
            | false =>
              have hff : fullT z = [] := by unfold fullT; rw [if_neg (by rw [hf]; simp)]
              have HR : Hid (OwnB w.heap.size w33 y33 (histR z) ∧ Below w.heap.size w w33) := HFIN.out _ _ _ HT18d.out (by rw [hff]; simp)
              clear hff
              rw [hf] at q3
              go_wp2
              go_ret
              exact ⟨_, rfl, HR.out.1, HR.out.2⟩
            | true =>
              have hff : fullT z = [102, 117, 108, 108] ++ [10] := by unfold fullT; rw [if_pos hf]
              have HF : Hid (fullT z = [102, 117, 108, 108] ++ [10]) := hff
              clear hff
              rw [hf] at q3
              go_wp2_with (at_builtin; refine txl_text (B := B) (w1 := w1) rfl _ _ rfl y33 (((Z ++ [97, 115, 107, 115, 32]) ++ (dec z.a)) ++ [10]) rfl (by (repeat (first | assumption | (with_reducible refine Hid.out (p := TxS _ _ _ _ _) ?_; assumption) | with_reducible refine TxS.drew ?_ | with_reducible refine TxS.alloc ?_ _))) ⟨#[102, 117, 108, 108, 10]⟩ rfl (by show _ + 5 ≤ _; (try simp only [List.length_append, List.length_cons, List.length_nil]); omega) ?_; intro y40 w40 ht20 hk20; have HT20 : Hid (TxS B w1 w40 y40 ((((Z ++ [97, 115, 107, 115, 32]) ++ (dec z.a)) ++ [10]) ++ [102, 117, 108, 108, 10])) := ht20; have HK20 : Hid (Kp _ _ w40) := hk20; clear ht20 hk20)
              have HR : Hid (OwnB w.heap.size w40 y40 (histR z) ∧ Below w.heap.size w w40) := HFIN.out _ _ _ HT20.out (by rw [HF.out]; simp)
              go_wp2
              go_ret
              exact ⟨_, rfl, HR.out.1, HR.out.2⟩
end Go.Proofs.YtbcdfacbhemijaaDoor
