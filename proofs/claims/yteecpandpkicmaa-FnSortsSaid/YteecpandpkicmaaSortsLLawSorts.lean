/- At every code of at most 2^47 - 4096 bytes (the form's own reach): all that a drawn list has is in its heap and comes out in order; two heaps joined either way come out alike; the code reads as it did; no condition. -/
import Derived.Test.YteecpandpkicmaaSortsG44
namespace Go.Proofs.Yteecpandpkicmaa.LawSorts
open Go.ChangeShapes Go.WideShapes Go.ChangeAt Go.RowKit Go.Proofs.Yteecpandpkicmaa

set_option maxRecDepth 100000 in
set_option maxHeartbeats 8000000 in
theorem walk (a : Option Addr) (n cap : Nat) (w : World) (hn : n ≤ 140737488351232) (hC : CodeIn w w.heap.size a n) :
    Calls Try.prog 5 #[.slice a n cap] w fun e w' => e = .returned (.bool true) ∧ Below w.heap.size w w' := by
  have HC : Hid (CodeIn w w.heap.size a n) := hC
  clear hC
  have hnot : ∀ (x : Bool) (w : World), (Op.unary .not (.bool x)).run Try.prog w = .ok (.bool (!x)) w := fun _ _ => rfl
  go_enter Try.func5, Try.ntmps5
  go_wp2_with fail
  refine (drawOf_any a n cap _ (by omega) HC.out).mono ?_
  rintro r w1 ⟨v, l, rfl, hR1, hl, hz1, hB1⟩
  have HR1 : Hid (OwnR w.heap.size w1 v l) := hR1
  have HB1 : Hid (Below w.heap.size w w1) := hB1
  have hs1 : w.heap.size ≤ w1.heap.size := hB1.size
  clear hR1 hB1
  obtain ⟨va, vcap, rfl, _, _, _⟩ := HR1.out.evs
  go_wp2_with fail
  refine (of_all HR1.out hl (by omega)).mono ?_
  rintro r w2 ⟨hof, hB2⟩
  have HB2 : Hid (Below w.heap.size w w2) := HB1.out.trans (hB2.mono hs1)
  have HR2 : Hid (OwnR w.heap.size w2 (.slice va l.length vcap) l) := HR1.out.below hB2
  have hs2 : w1.heap.size ≤ w2.heap.size := hB2.size
  clear hB2 HR1 HB1
  rcases hof with ⟨ho, xa, xcap, rfl, hX⟩ | ⟨x, rfl⟩
  · have HO : Hid (OneL l) := ho
    have HX2 : Hid (Src w2 (.slice xa l.length xcap) (l.foldl pushL [])) := hX.src
    have HG : Hid (GoodH (l.foldl pushL [])) := of_good ho
    have HFD : Hid (∀ i, i < l.length → ∃ p, p < l.length ∧ evAt (sortN l.length (l.foldl pushL [])) p = evAt l i) := of_found ho
    have HLN : Hid ((l.foldl pushL []).length = l.length) := of_length l
    have HGQ : Hid (GoodQ (sortN l.length (l.foldl pushL []))) := sort_queue HLN.out HG.out
    clear ho hX HO
    generalize l.foldl pushL [] = F at HX2 HG HFD HLN HGQ
    go_wp2_with fail
    refine (sorted_of HX2.out HLN.out (by omega) (by omega) HG.out).mono ?_
    rintro r w3 ⟨sa, scap, rfl, hS, hB3⟩
    have HSL : Hid ((sortN l.length F).length = l.length) := sortN_length _ _
    have HB3 : Hid (Below w.heap.size w w3) := HB2.out.trans (hB3.mono HB2.out.size)
    have HR3 : Hid (OwnR w.heap.size w3 (.slice va l.length vcap) l) := HR2.out.below hB3
    have HX3 : Hid (Src w3 (.slice xa l.length xcap) F) := HX2.out.below hB3
    have HS3 : Hid (OwnR w2.heap.size w3 (.slice sa l.length scap) (sortN l.length F)) := hS
    have hs3 : w2.heap.size ≤ w3.heap.size := hB3.size
    clear hB3 HB2 HR2 HX2 hS
    generalize sortN l.length F = S at HS3 HFD HGQ HSL
    go_wp2_with fail
    refine (queueOk_of HS3.out.src HSL.out (by omega) (by omega) HGQ.out).mono ?_
    rintro r w4 ⟨rfl, hB4⟩
    have HB4 : Hid (Below w.heap.size w w4) := HB3.out.trans (hB4.mono HB3.out.size)
    have HR4 : Hid (OwnR w.heap.size w4 (.slice va l.length vcap) l) := HR3.out.below hB4
    have HX4 : Hid (Src w4 (.slice xa l.length xcap) F) := HX3.out.below hB4
    have HS4 : Hid (OwnR w2.heap.size w4 (.slice sa l.length scap) S) := HS3.out.below hB4
    have hs4 : w3.heap.size ≤ w4.heap.size := hB4.size
    clear hB4 HB3 HR3 HX3 HS3
    go_wp2_with fail
    refine (heapOk_of HX4.out HLN.out (by omega) (by omega) HG.out).mono ?_
    rintro r w5 ⟨rfl, hB5⟩
    have HB5 : Hid (Below w.heap.size w w5) := HB4.out.trans (hB5.mono HB4.out.size)
    have HR5 : Hid (OwnR w.heap.size w5 (.slice va l.length vcap) l) := HR4.out.below hB5
    have HS5 : Hid (OwnR w2.heap.size w5 (.slice sa l.length scap) S) := HS4.out.below hB5
    have hs5 : w4.heap.size ≤ w5.heap.size := hB5.size
    clear hB5 HB4 HR4 HX4 HS4
    go_wp2
    go_loopw [8] (fun i wr => ∃ k : Nat, k ≤ l.length ∧ i = .int .i64 k ∧ Hid (Below w5.heap.size w5 wr)) (fun i _ => l.length - (intOf i).toNat)
    case atStart => exact ⟨0, Nat.zero_le _, rfl, Below.refl _ _⟩
    case round =>
      rename World => wo
      obtain ⟨i, hi, rfl, HB⟩ := hrel
      have hsz : w5.heap.size ≤ wo.heap.size := HB.out.size
      have HB6 : Hid (Below w.heap.size w wo) := HB5.out.trans (HB.out.mono HB5.out.size)
      by_cases hlt : i < l.length
      · have hii : (i : Int) < (l.length : Int) := by omega
        obtain ⟨p, hp, hpe⟩ := HFD.out i hlt
        have HPE : Hid (evAt S p = evAt l i) := hpe
        clear hpe
        go_wp2
        go_loopw [9, 10] (fun fd k wq => ∃ (j : Nat) (bb : Bool), j ≤ l.length ∧ fd = .bool bb ∧ k = .int .i64 j ∧ (p < j → bb = true) ∧ Hid (Below wo.heap.size wo wq)) (fun _ k _ => l.length - (intOf k).toNat)
        case atStart => exact ⟨0, false, Nat.zero_le _, rfl, rfl, fun h => by omega, Below.refl _ _⟩
        case round =>
          obtain ⟨j, bb, hj, rfl, rfl, hbp, HBi⟩ := hrel
          have hsi : wo.heap.size ≤ wr.heap.size := HBi.out.size
          by_cases hjl : j < l.length
          · have hjj : (j : Int) < (l.length : Int) := by omega
            cases bb with
            | true =>
              go_wp2_with fail
              go_region
              go_wp2
              go_roundw
              case rel => exact ⟨j + 1, true, by omega, rfl, by go_num, fun _ => rfl, HBi.out.drew⟩
              case measure => simp [intOf]; omega
            | false =>
              have hpl : ¬ p < j := fun h => by cases hbp h
              clear hbp
              have HSr : Hid (OwnR w2.heap.size wr (.slice sa l.length scap) S) := (HS5.out.below HB.out).below HBi.out
              have HRr : Hid (OwnR w.heap.size wr (.slice va l.length vcap) l) := (HR5.out.below HB.out).below HBi.out
              obtain ⟨bs, rfl, hIs⟩ : ∃ g, sa = some ⟨g, 0, none⟩ ∧ EvsAt wr g 0 S := by
                rcases HSr.out.caps with ⟨_, h0⟩ | ⟨g, c, e, _, _, h, _⟩
                · have := HSL.out; rw [h0] at this; simp at this; omega
                · injection e with e1 _ _
                  exact ⟨g, e1, h⟩
              obtain ⟨bl, rfl, hIl⟩ : ∃ g, va = some ⟨g, 0, none⟩ ∧ EvsAt wr g 0 l := by
                rcases HRr.out.caps with ⟨_, h0⟩ | ⟨g, c, e, _, _, h, _⟩
                · rw [h0] at hjl; simp at hjl
                · injection e with e1 _ _
                  exact ⟨g, e1, h⟩
              obtain ⟨f0, f1, f2, f3, f4, f5, f6⟩ := hIs.2 j (by have := HSL.out; omega)
              obtain ⟨q0, q1, q2, q3, q4, q5, q6⟩ := hIl.2 i hlt
              simp only [Nat.zero_add] at f0 f1 f2 f3 f4 f5 f6 q0 q1 q2 q3 q4 q5 q6
              clear hIs hIl HSr HRr
              by_cases e0 : (evAt S j).t = (evAt l i).t
              · by_cases e1 : (evAt S j).s = (evAt l i).s
                · by_cases e2 : (evAt S j).q = (evAt l i).q
                  · by_cases e3 : (evAt S j).d = (evAt l i).d
                    · by_cases e4 : (evAt S j).k = (evAt l i).k
                      · by_cases e5 : (evAt S j).v = (evAt l i).v
                        · by_cases e6 : (evAt S j).g = (evAt l i).g
                          · rw [e0] at f0
                            rw [e1] at f1
                            rw [e2] at f2
                            rw [e3] at f3
                            rw [e4] at f4
                            rw [e5] at f5
                            rw [e6] at f6
                            clear e0 e1 e2 e3 e4 e5 e6
                            generalize (evAt l i).t = y0 at f0 q0
                            generalize (evAt l i).s = y1 at f1 q1
                            generalize (evAt l i).q = y2 at f2 q2
                            generalize (evAt l i).d = y3 at f3 q3
                            generalize (evAt l i).k = y4 at f4 q4
                            generalize (evAt l i).v = y5 at f5 q5
                            generalize (evAt l i).g = y6 at f6 q6
                            go_wp2_with fail
                            go_region_held3 (fun W => W.cell? ⟨bs, j * 7, none⟩ = some (.int .i64 y0) ∧ W.cell? ⟨bs, j * 7 + 1, none⟩ = some (.int .i64 y1) ∧ W.cell? ⟨bs, j * 7 + 2, none⟩ = some (.int .i64 y2) ∧ W.cell? ⟨bs, j * 7 + 3, none⟩ = some (.int .i64 y3) ∧ W.cell? ⟨bs, j * 7 + 4, none⟩ = some (.int .i64 y4) ∧ W.cell? ⟨bs, j * 7 + 5, none⟩ = some (.int .i64 y5) ∧ W.cell? ⟨bs, j * 7 + 6, none⟩ = some (.int .i64 y6) ∧ W.cell? ⟨bl, i * 7, none⟩ = some (.int .i64 y0) ∧ W.cell? ⟨bl, i * 7 + 1, none⟩ = some (.int .i64 y1) ∧ W.cell? ⟨bl, i * 7 + 2, none⟩ = some (.int .i64 y2) ∧ W.cell? ⟨bl, i * 7 + 3, none⟩ = some (.int .i64 y3) ∧ W.cell? ⟨bl, i * 7 + 4, none⟩ = some (.int .i64 y4) ∧ W.cell? ⟨bl, i * 7 + 5, none⟩ = some (.int .i64 y5) ∧ W.cell? ⟨bl, i * 7 + 6, none⟩ = some (.int .i64 y6)) ((repeat' apply And.intro) <;> go_keep) (fail)
                            go_wp2
                            go_roundw
                            case rel => exact ⟨j + 1, true, by omega, rfl, by go_num, fun _ => rfl, HBi.out.drew⟩
                            case measure => simp [intOf]; omega
                          · have hpj : ¬ p = j := fun h => e6 (by rw [← h, HPE.out])
                            have hbd : ((evAt S j).g == (evAt l i).g) = false := by simpa using e6
                            rw [e0] at f0
                            rw [e1] at f1
                            rw [e2] at f2
                            rw [e3] at f3
                            rw [e4] at f4
                            rw [e5] at f5
                            clear e0 e1 e2 e3 e4 e5
                            generalize (evAt S j).g = x6 at f6 e6 hbd
                            generalize (evAt l i).t = y0 at f0 q0
                            generalize (evAt l i).s = y1 at f1 q1
                            generalize (evAt l i).q = y2 at f2 q2
                            generalize (evAt l i).d = y3 at f3 q3
                            generalize (evAt l i).k = y4 at f4 q4
                            generalize (evAt l i).v = y5 at f5 q5
                            generalize (evAt l i).g = y6 at q6 e6 hbd
                            go_wp2_with fail
                            go_region_held3 (fun W => W.cell? ⟨bs, j * 7, none⟩ = some (.int .i64 y0) ∧ W.cell? ⟨bs, j * 7 + 1, none⟩ = some (.int .i64 y1) ∧ W.cell? ⟨bs, j * 7 + 2, none⟩ = some (.int .i64 y2) ∧ W.cell? ⟨bs, j * 7 + 3, none⟩ = some (.int .i64 y3) ∧ W.cell? ⟨bs, j * 7 + 4, none⟩ = some (.int .i64 y4) ∧ W.cell? ⟨bs, j * 7 + 5, none⟩ = some (.int .i64 y5) ∧ W.cell? ⟨bs, j * 7 + 6, none⟩ = some (.int .i64 x6) ∧ W.cell? ⟨bl, i * 7, none⟩ = some (.int .i64 y0) ∧ W.cell? ⟨bl, i * 7 + 1, none⟩ = some (.int .i64 y1) ∧ W.cell? ⟨bl, i * 7 + 2, none⟩ = some (.int .i64 y2) ∧ W.cell? ⟨bl, i * 7 + 3, none⟩ = some (.int .i64 y3) ∧ W.cell? ⟨bl, i * 7 + 4, none⟩ = some (.int .i64 y4) ∧ W.cell? ⟨bl, i * 7 + 5, none⟩ = some (.int .i64 y5) ∧ W.cell? ⟨bl, i * 7 + 6, none⟩ = some (.int .i64 y6)) ((repeat' apply And.intro) <;> go_keep) (fail)
                            go_wp2
                            go_roundw
                            case rel => exact ⟨j + 1, false, by omega, rfl, by go_num, fun h => absurd h (by omega), HBi.out.drew⟩
                            case measure => simp [intOf]; omega
                        · have hpj : ¬ p = j := fun h => e5 (by rw [← h, HPE.out])
                          have hbd : ((evAt S j).v == (evAt l i).v) = false := by simpa using e5
                          rw [e0] at f0
                          rw [e1] at f1
                          rw [e2] at f2
                          rw [e3] at f3
                          rw [e4] at f4
                          clear e0 e1 e2 e3 e4
                          generalize (evAt S j).v = x5 at f5 e5 hbd
                          generalize (evAt S j).g = x6 at f6
                          generalize (evAt l i).t = y0 at f0 q0
                          generalize (evAt l i).s = y1 at f1 q1
                          generalize (evAt l i).q = y2 at f2 q2
                          generalize (evAt l i).d = y3 at f3 q3
                          generalize (evAt l i).k = y4 at f4 q4
                          generalize (evAt l i).v = y5 at q5 e5 hbd
                          generalize (evAt l i).g = y6 at q6
                          go_wp2_with fail
                          go_region_held3 (fun W => W.cell? ⟨bs, j * 7, none⟩ = some (.int .i64 y0) ∧ W.cell? ⟨bs, j * 7 + 1, none⟩ = some (.int .i64 y1) ∧ W.cell? ⟨bs, j * 7 + 2, none⟩ = some (.int .i64 y2) ∧ W.cell? ⟨bs, j * 7 + 3, none⟩ = some (.int .i64 y3) ∧ W.cell? ⟨bs, j * 7 + 4, none⟩ = some (.int .i64 y4) ∧ W.cell? ⟨bs, j * 7 + 5, none⟩ = some (.int .i64 x5) ∧ W.cell? ⟨bs, j * 7 + 6, none⟩ = some (.int .i64 x6) ∧ W.cell? ⟨bl, i * 7, none⟩ = some (.int .i64 y0) ∧ W.cell? ⟨bl, i * 7 + 1, none⟩ = some (.int .i64 y1) ∧ W.cell? ⟨bl, i * 7 + 2, none⟩ = some (.int .i64 y2) ∧ W.cell? ⟨bl, i * 7 + 3, none⟩ = some (.int .i64 y3) ∧ W.cell? ⟨bl, i * 7 + 4, none⟩ = some (.int .i64 y4) ∧ W.cell? ⟨bl, i * 7 + 5, none⟩ = some (.int .i64 y5) ∧ W.cell? ⟨bl, i * 7 + 6, none⟩ = some (.int .i64 y6)) ((repeat' apply And.intro) <;> go_keep) (fail)
                          go_wp2
                          go_roundw
                          case rel => exact ⟨j + 1, false, by omega, rfl, by go_num, fun h => absurd h (by omega), HBi.out.drew⟩
                          case measure => simp [intOf]; omega
                      · have hpj : ¬ p = j := fun h => e4 (by rw [← h, HPE.out])
                        have hbd : ((evAt S j).k == (evAt l i).k) = false := by simpa using e4
                        rw [e0] at f0
                        rw [e1] at f1
                        rw [e2] at f2
                        rw [e3] at f3
                        clear e0 e1 e2 e3
                        generalize (evAt S j).k = x4 at f4 e4 hbd
                        generalize (evAt S j).v = x5 at f5
                        generalize (evAt S j).g = x6 at f6
                        generalize (evAt l i).t = y0 at f0 q0
                        generalize (evAt l i).s = y1 at f1 q1
                        generalize (evAt l i).q = y2 at f2 q2
                        generalize (evAt l i).d = y3 at f3 q3
                        generalize (evAt l i).k = y4 at q4 e4 hbd
                        generalize (evAt l i).v = y5 at q5
                        generalize (evAt l i).g = y6 at q6
                        go_wp2_with fail
                        go_region_held3 (fun W => W.cell? ⟨bs, j * 7, none⟩ = some (.int .i64 y0) ∧ W.cell? ⟨bs, j * 7 + 1, none⟩ = some (.int .i64 y1) ∧ W.cell? ⟨bs, j * 7 + 2, none⟩ = some (.int .i64 y2) ∧ W.cell? ⟨bs, j * 7 + 3, none⟩ = some (.int .i64 y3) ∧ W.cell? ⟨bs, j * 7 + 4, none⟩ = some (.int .i64 x4) ∧ W.cell? ⟨bs, j * 7 + 5, none⟩ = some (.int .i64 x5) ∧ W.cell? ⟨bs, j * 7 + 6, none⟩ = some (.int .i64 x6) ∧ W.cell? ⟨bl, i * 7, none⟩ = some (.int .i64 y0) ∧ W.cell? ⟨bl, i * 7 + 1, none⟩ = some (.int .i64 y1) ∧ W.cell? ⟨bl, i * 7 + 2, none⟩ = some (.int .i64 y2) ∧ W.cell? ⟨bl, i * 7 + 3, none⟩ = some (.int .i64 y3) ∧ W.cell? ⟨bl, i * 7 + 4, none⟩ = some (.int .i64 y4) ∧ W.cell? ⟨bl, i * 7 + 5, none⟩ = some (.int .i64 y5) ∧ W.cell? ⟨bl, i * 7 + 6, none⟩ = some (.int .i64 y6)) ((repeat' apply And.intro) <;> go_keep) (fail)
                        go_wp2
                        go_roundw
                        case rel => exact ⟨j + 1, false, by omega, rfl, by go_num, fun h => absurd h (by omega), HBi.out.drew⟩
                        case measure => simp [intOf]; omega
                    · have hpj : ¬ p = j := fun h => e3 (by rw [← h, HPE.out])
                      have hbd : ((evAt S j).d == (evAt l i).d) = false := by simpa using e3
                      rw [e0] at f0
                      rw [e1] at f1
                      rw [e2] at f2
                      clear e0 e1 e2
                      generalize (evAt S j).d = x3 at f3 e3 hbd
                      generalize (evAt S j).k = x4 at f4
                      generalize (evAt S j).v = x5 at f5
                      generalize (evAt S j).g = x6 at f6
                      generalize (evAt l i).t = y0 at f0 q0
                      generalize (evAt l i).s = y1 at f1 q1
                      generalize (evAt l i).q = y2 at f2 q2
                      generalize (evAt l i).d = y3 at q3 e3 hbd
                      generalize (evAt l i).k = y4 at q4
                      generalize (evAt l i).v = y5 at q5
                      generalize (evAt l i).g = y6 at q6
                      go_wp2_with fail
                      go_region_held3 (fun W => W.cell? ⟨bs, j * 7, none⟩ = some (.int .i64 y0) ∧ W.cell? ⟨bs, j * 7 + 1, none⟩ = some (.int .i64 y1) ∧ W.cell? ⟨bs, j * 7 + 2, none⟩ = some (.int .i64 y2) ∧ W.cell? ⟨bs, j * 7 + 3, none⟩ = some (.int .i64 x3) ∧ W.cell? ⟨bs, j * 7 + 4, none⟩ = some (.int .i64 x4) ∧ W.cell? ⟨bs, j * 7 + 5, none⟩ = some (.int .i64 x5) ∧ W.cell? ⟨bs, j * 7 + 6, none⟩ = some (.int .i64 x6) ∧ W.cell? ⟨bl, i * 7, none⟩ = some (.int .i64 y0) ∧ W.cell? ⟨bl, i * 7 + 1, none⟩ = some (.int .i64 y1) ∧ W.cell? ⟨bl, i * 7 + 2, none⟩ = some (.int .i64 y2) ∧ W.cell? ⟨bl, i * 7 + 3, none⟩ = some (.int .i64 y3) ∧ W.cell? ⟨bl, i * 7 + 4, none⟩ = some (.int .i64 y4) ∧ W.cell? ⟨bl, i * 7 + 5, none⟩ = some (.int .i64 y5) ∧ W.cell? ⟨bl, i * 7 + 6, none⟩ = some (.int .i64 y6)) ((repeat' apply And.intro) <;> go_keep) (fail)
                      go_wp2
                      go_roundw
                      case rel => exact ⟨j + 1, false, by omega, rfl, by go_num, fun h => absurd h (by omega), HBi.out.drew⟩
                      case measure => simp [intOf]; omega
                  · have hpj : ¬ p = j := fun h => e2 (by rw [← h, HPE.out])
                    have hbd : ((evAt S j).q == (evAt l i).q) = false := by simpa using e2
                    rw [e0] at f0
                    rw [e1] at f1
                    clear e0 e1
                    generalize (evAt S j).q = x2 at f2 e2 hbd
                    generalize (evAt S j).d = x3 at f3
                    generalize (evAt S j).k = x4 at f4
                    generalize (evAt S j).v = x5 at f5
                    generalize (evAt S j).g = x6 at f6
                    generalize (evAt l i).t = y0 at f0 q0
                    generalize (evAt l i).s = y1 at f1 q1
                    generalize (evAt l i).q = y2 at q2 e2 hbd
                    generalize (evAt l i).d = y3 at q3
                    generalize (evAt l i).k = y4 at q4
                    generalize (evAt l i).v = y5 at q5
                    generalize (evAt l i).g = y6 at q6
                    go_wp2_with fail
                    go_region_held3 (fun W => W.cell? ⟨bs, j * 7, none⟩ = some (.int .i64 y0) ∧ W.cell? ⟨bs, j * 7 + 1, none⟩ = some (.int .i64 y1) ∧ W.cell? ⟨bs, j * 7 + 2, none⟩ = some (.int .i64 x2) ∧ W.cell? ⟨bs, j * 7 + 3, none⟩ = some (.int .i64 x3) ∧ W.cell? ⟨bs, j * 7 + 4, none⟩ = some (.int .i64 x4) ∧ W.cell? ⟨bs, j * 7 + 5, none⟩ = some (.int .i64 x5) ∧ W.cell? ⟨bs, j * 7 + 6, none⟩ = some (.int .i64 x6) ∧ W.cell? ⟨bl, i * 7, none⟩ = some (.int .i64 y0) ∧ W.cell? ⟨bl, i * 7 + 1, none⟩ = some (.int .i64 y1) ∧ W.cell? ⟨bl, i * 7 + 2, none⟩ = some (.int .i64 y2) ∧ W.cell? ⟨bl, i * 7 + 3, none⟩ = some (.int .i64 y3) ∧ W.cell? ⟨bl, i * 7 + 4, none⟩ = some (.int .i64 y4) ∧ W.cell? ⟨bl, i * 7 + 5, none⟩ = some (.int .i64 y5) ∧ W.cell? ⟨bl, i * 7 + 6, none⟩ = some (.int .i64 y6)) ((repeat' apply And.intro) <;> go_keep) (fail)
                    go_wp2
                    go_roundw
                    case rel => exact ⟨j + 1, false, by omega, rfl, by go_num, fun h => absurd h (by omega), HBi.out.drew⟩
                    case measure => simp [intOf]; omega
                · have hpj : ¬ p = j := fun h => e1 (by rw [← h, HPE.out])
                  have hbd : ((evAt S j).s == (evAt l i).s) = false := by simpa using e1
                  rw [e0] at f0
                  clear e0
                  generalize (evAt S j).s = x1 at f1 e1 hbd
                  generalize (evAt S j).q = x2 at f2
                  generalize (evAt S j).d = x3 at f3
                  generalize (evAt S j).k = x4 at f4
                  generalize (evAt S j).v = x5 at f5
                  generalize (evAt S j).g = x6 at f6
                  generalize (evAt l i).t = y0 at f0 q0
                  generalize (evAt l i).s = y1 at q1 e1 hbd
                  generalize (evAt l i).q = y2 at q2
                  generalize (evAt l i).d = y3 at q3
                  generalize (evAt l i).k = y4 at q4
                  generalize (evAt l i).v = y5 at q5
                  generalize (evAt l i).g = y6 at q6
                  go_wp2_with fail
                  go_region_held3 (fun W => W.cell? ⟨bs, j * 7, none⟩ = some (.int .i64 y0) ∧ W.cell? ⟨bs, j * 7 + 1, none⟩ = some (.int .i64 x1) ∧ W.cell? ⟨bs, j * 7 + 2, none⟩ = some (.int .i64 x2) ∧ W.cell? ⟨bs, j * 7 + 3, none⟩ = some (.int .i64 x3) ∧ W.cell? ⟨bs, j * 7 + 4, none⟩ = some (.int .i64 x4) ∧ W.cell? ⟨bs, j * 7 + 5, none⟩ = some (.int .i64 x5) ∧ W.cell? ⟨bs, j * 7 + 6, none⟩ = some (.int .i64 x6) ∧ W.cell? ⟨bl, i * 7, none⟩ = some (.int .i64 y0) ∧ W.cell? ⟨bl, i * 7 + 1, none⟩ = some (.int .i64 y1) ∧ W.cell? ⟨bl, i * 7 + 2, none⟩ = some (.int .i64 y2) ∧ W.cell? ⟨bl, i * 7 + 3, none⟩ = some (.int .i64 y3) ∧ W.cell? ⟨bl, i * 7 + 4, none⟩ = some (.int .i64 y4) ∧ W.cell? ⟨bl, i * 7 + 5, none⟩ = some (.int .i64 y5) ∧ W.cell? ⟨bl, i * 7 + 6, none⟩ = some (.int .i64 y6)) ((repeat' apply And.intro) <;> go_keep) (fail)
                  go_wp2
                  go_roundw
                  case rel => exact ⟨j + 1, false, by omega, rfl, by go_num, fun h => absurd h (by omega), HBi.out.drew⟩
                  case measure => simp [intOf]; omega
              · have hpj : ¬ p = j := fun h => e0 (by rw [← h, HPE.out])
                have hbd : ((evAt S j).t == (evAt l i).t) = false := by simpa using e0
                generalize (evAt S j).t = x0 at f0 e0 hbd
                generalize (evAt S j).s = x1 at f1
                generalize (evAt S j).q = x2 at f2
                generalize (evAt S j).d = x3 at f3
                generalize (evAt S j).k = x4 at f4
                generalize (evAt S j).v = x5 at f5
                generalize (evAt S j).g = x6 at f6
                generalize (evAt l i).t = y0 at q0 e0 hbd
                generalize (evAt l i).s = y1 at q1
                generalize (evAt l i).q = y2 at q2
                generalize (evAt l i).d = y3 at q3
                generalize (evAt l i).k = y4 at q4
                generalize (evAt l i).v = y5 at q5
                generalize (evAt l i).g = y6 at q6
                go_wp2_with fail
                go_region_held3 (fun W => W.cell? ⟨bs, j * 7, none⟩ = some (.int .i64 x0) ∧ W.cell? ⟨bs, j * 7 + 1, none⟩ = some (.int .i64 x1) ∧ W.cell? ⟨bs, j * 7 + 2, none⟩ = some (.int .i64 x2) ∧ W.cell? ⟨bs, j * 7 + 3, none⟩ = some (.int .i64 x3) ∧ W.cell? ⟨bs, j * 7 + 4, none⟩ = some (.int .i64 x4) ∧ W.cell? ⟨bs, j * 7 + 5, none⟩ = some (.int .i64 x5) ∧ W.cell? ⟨bs, j * 7 + 6, none⟩ = some (.int .i64 x6) ∧ W.cell? ⟨bl, i * 7, none⟩ = some (.int .i64 y0) ∧ W.cell? ⟨bl, i * 7 + 1, none⟩ = some (.int .i64 y1) ∧ W.cell? ⟨bl, i * 7 + 2, none⟩ = some (.int .i64 y2) ∧ W.cell? ⟨bl, i * 7 + 3, none⟩ = some (.int .i64 y3) ∧ W.cell? ⟨bl, i * 7 + 4, none⟩ = some (.int .i64 y4) ∧ W.cell? ⟨bl, i * 7 + 5, none⟩ = some (.int .i64 y5) ∧ W.cell? ⟨bl, i * 7 + 6, none⟩ = some (.int .i64 y6)) ((repeat' apply And.intro) <;> go_keep) (fail)
                go_wp2
                go_roundw
                case rel => exact ⟨j + 1, false, by omega, rfl, by go_num, fun h => absurd h (by omega), HBi.out.drew⟩
                case measure => simp [intOf]; omega

          · have hjj : ¬ (j : Int) < (l.length : Int) := by omega
            obtain rfl : bb = true := hbp (by omega)
            go_wp2
            go_roundw
            case rel => exact ⟨i + 1, by omega, by go_num, HB.out.trans (HBi.out.mono hsz)⟩
            case measure => simp [intOf]; omega
      · have hii : ¬ (i : Int) < (l.length : Int) := by omega
        clear HB5 HR5 HS5
        have HCz : Hid (CodeIn wo wo.heap.size a n) := (HC.out.below HB6.out (Nat.le_refl _)).mono HB6.out.size
        go_wp2_with fail
        refine (drawJoin_any a n cap _ (by omega) HCz.out).mono ?_
        rintro r wa ⟨va, la, vb, lb, rfl, hRa, hRb, hla, hlb, hBa⟩
        have HBa : Hid (Below w.heap.size w wa) := HB6.out.trans (hBa.mono HB6.out.size)
        have HRa : Hid (Src wa va la) := hRa.src
        have HRb : Hid (Src wa vb lb) := hRb.src
        have hza : 0 < wa.heap.size := by have := hBa.size; omega
        obtain ⟨aa, ca, rfl, _, _, _⟩ := hRa.evs
        obtain ⟨ab, cb, rfl, _, _, _⟩ := hRb.evs
        clear hRa hRb hBa HCz
        go_wp2_with fail
        refine (join_all HRa.out HRb.out hla hlb hza).mono ?_
        rintro r wb ⟨hj1, hBb⟩
        have HBb : Hid (Below w.heap.size w wb) := HBa.out.trans (hBb.mono HBa.out.size)
        have HRa2 : Hid (Src wb (.slice aa la.length ca) la) := HRa.out.below hBb
        have HRb2 : Hid (Src wb (.slice ab lb.length cb) lb) := HRb.out.below hBb
        have hzb : 0 < wb.heap.size := by have := hBb.size; omega
        clear hBb HRa HRb HBa
        rcases hj1 with ⟨hgg, hcj, xa, xcap, rfl, hX⟩ | ⟨hnj, x, rfl⟩
        · have HGG : Hid (GoodH la ∧ GoodH lb) := hgg
          have HCJ : Hid (CanJ la lb) := hcj
          have HXb : Hid (Src wb (.slice xa (la.length + lb.length) xcap) (lb.foldl pushL la)) := hX.src
          clear hgg hcj hX
          go_wp2_with fail
          refine (join_all HRb2.out HRa2.out hlb hla hzb).mono ?_
          rintro r wc ⟨hj2, hBc⟩
          have HBc : Hid (Below w.heap.size w wc) := HBb.out.trans (hBc.mono HBb.out.size)
          have HXc : Hid (Src wc (.slice xa (la.length + lb.length) xcap) (lb.foldl pushL la)) := HXb.out.below hBc
          have hzc : 0 < wc.heap.size := by have := hBc.size; omega
          clear hBc HXb HRa2 HRb2 HBb
          rcases hj2 with ⟨_, _, ya, ycap, hr2, hY⟩ | ⟨hnj, _⟩
          · rw [Nat.add_comm lb.length la.length] at hr2 hY
            subst hr2
            have HYc : Hid (Src wc (.slice ya (la.length + lb.length) ycap) (la.foldl pushL lb)) := hY.src
            have HG1 : Hid (GoodH (lb.foldl pushL la)) := join_good HGG.out.1 HGG.out.2 HCJ.out
            have HG2 : Hid (GoodH (la.foldl pushL lb)) := join_good HGG.out.2 HGG.out.1 (can_comm HCJ.out)
            have HSS : Hid (sortN (la.length + lb.length) (lb.foldl pushL la) = sortN (la.length + lb.length) (la.foldl pushL lb)) := join_sort HGG.out.1 HGG.out.2 HCJ.out
            have HL1 : Hid ((lb.foldl pushL la).length = la.length + lb.length) := fold_length lb la
            have HL2 : Hid ((la.foldl pushL lb).length = la.length + lb.length) := by show _ = _; rw [fold_length]; omega
            clear hY HGG HCJ
            go_wp2_with fail
            refine (sorted_of HXc.out HL1.out (by omega) hzc HG1.out).mono ?_
            rintro r wd ⟨sa, scap, rfl, hS, hBd⟩
            have HBd : Hid (Below w.heap.size w wd) := HBc.out.trans (hBd.mono HBc.out.size)
            have HYd : Hid (Src wd (.slice ya (la.length + lb.length) ycap) (la.foldl pushL lb)) := HYc.out.below hBd
            have HSd : Hid (OwnR wc.heap.size wd (.slice sa (la.length + lb.length) scap) (sortN (la.length + lb.length) (lb.foldl pushL la))) := hS
            have hzd : 0 < wd.heap.size := by have := hBd.size; omega
            clear hS hBd HBc HXc HYc
            go_wp2_with fail
            refine (sorted_of HYd.out HL2.out (by omega) hzd HG2.out).mono ?_
            rintro r we ⟨ta, tcap, rfl, hT, hBe⟩
            have HBe : Hid (Below w.heap.size w we) := HBd.out.trans (hBe.mono HBd.out.size)
            have HSe : Hid (IsEvs we (.slice sa (la.length + lb.length) scap) (sortN (la.length + lb.length) (lb.foldl pushL la))) := (HSd.out.below hBe).evs
            have HTe : Hid (IsEvs we (.slice ta (la.length + lb.length) tcap) (sortN (la.length + lb.length) (lb.foldl pushL la))) := by rw [HSS.out]; exact hT.evs
            have hsum : ((la.length + lb.length : Nat) : Int) = (la.length : Int) + (lb.length : Int) := by omega
            clear hT hBe HBd HSd HYd
            go_wp2_with fail
            refine (sameE_same _ _ _ _ (by rw [sortN_length]; omega) HSe.out HTe.out).mono ?_
            rintro r wf ⟨rfl, hbf⟩
            have HBf : Hid (Below w.heap.size w wf) := HBe.out.trans (hbf.mono HBe.out.size)
            clear hbf
            go_wp2_with fail
            refine (queues_any _).mono ?_
            rintro r wg ⟨rfl, hbg⟩
            have HBg : Hid (Below w.heap.size w wg) := HBf.out.trans (hbg.mono HBf.out.size)
            clear hbg
            go_wp2
            go_ret
            exact ⟨rfl, HBg.out⟩
          · exact absurd ⟨⟨HGG.out.2, HGG.out.1⟩, can_comm HCJ.out⟩ hnj
        · have HNJ : Hid (¬ ((GoodH la ∧ GoodH lb) ∧ CanJ la lb)) := hnj
          clear hnj
          go_wp2_with fail
          refine (join_all HRb2.out HRa2.out hlb hla hzb).mono ?_
          rintro r wc ⟨hj2, hBc⟩
          have HBc : Hid (Below w.heap.size w wc) := HBb.out.trans (hBc.mono HBb.out.size)
          clear hBc HRa2 HRb2 HBb
          rcases hj2 with ⟨hgg, hcj, _⟩ | ⟨_, y, rfl⟩
          · exact absurd ⟨⟨hgg.2, hgg.1⟩, can_comm hcj⟩ HNJ.out
          · go_wp2_with fail
            refine (queues_any _).mono ?_
            rintro r wg ⟨rfl, hbg⟩
            have HBg : Hid (Below w.heap.size w wg) := HBc.out.trans (hbg.mono HBc.out.size)
            clear hbg
            go_wp2
            go_ret
            exact ⟨rfl, HBg.out⟩

  · clear HR2
    have HCz : Hid (CodeIn w2 w2.heap.size a n) := (HC.out.below HB2.out (Nat.le_refl _)).mono HB2.out.size
    go_wp2_with fail
    refine (drawJoin_any a n cap _ (by omega) HCz.out).mono ?_
    rintro r wa ⟨va, la, vb, lb, rfl, hRa, hRb, hla, hlb, hBa⟩
    have HBa : Hid (Below w.heap.size w wa) := HB2.out.trans (hBa.mono HB2.out.size)
    have HRa : Hid (Src wa va la) := hRa.src
    have HRb : Hid (Src wa vb lb) := hRb.src
    have hza : 0 < wa.heap.size := by have := hBa.size; omega
    obtain ⟨aa, ca, rfl, _, _, _⟩ := hRa.evs
    obtain ⟨ab, cb, rfl, _, _, _⟩ := hRb.evs
    clear hRa hRb hBa HCz
    go_wp2_with fail
    refine (join_all HRa.out HRb.out hla hlb hza).mono ?_
    rintro r wb ⟨hj1, hBb⟩
    have HBb : Hid (Below w.heap.size w wb) := HBa.out.trans (hBb.mono HBa.out.size)
    have HRa2 : Hid (Src wb (.slice aa la.length ca) la) := HRa.out.below hBb
    have HRb2 : Hid (Src wb (.slice ab lb.length cb) lb) := HRb.out.below hBb
    have hzb : 0 < wb.heap.size := by have := hBb.size; omega
    clear hBb HRa HRb HBa
    rcases hj1 with ⟨hgg, hcj, xa, xcap, rfl, hX⟩ | ⟨hnj, x, rfl⟩
    · have HGG : Hid (GoodH la ∧ GoodH lb) := hgg
      have HCJ : Hid (CanJ la lb) := hcj
      have HXb : Hid (Src wb (.slice xa (la.length + lb.length) xcap) (lb.foldl pushL la)) := hX.src
      clear hgg hcj hX
      go_wp2_with fail
      refine (join_all HRb2.out HRa2.out hlb hla hzb).mono ?_
      rintro r wc ⟨hj2, hBc⟩
      have HBc : Hid (Below w.heap.size w wc) := HBb.out.trans (hBc.mono HBb.out.size)
      have HXc : Hid (Src wc (.slice xa (la.length + lb.length) xcap) (lb.foldl pushL la)) := HXb.out.below hBc
      have hzc : 0 < wc.heap.size := by have := hBc.size; omega
      clear hBc HXb HRa2 HRb2 HBb
      rcases hj2 with ⟨_, _, ya, ycap, hr2, hY⟩ | ⟨hnj, _⟩
      · rw [Nat.add_comm lb.length la.length] at hr2 hY
        subst hr2
        have HYc : Hid (Src wc (.slice ya (la.length + lb.length) ycap) (la.foldl pushL lb)) := hY.src
        have HG1 : Hid (GoodH (lb.foldl pushL la)) := join_good HGG.out.1 HGG.out.2 HCJ.out
        have HG2 : Hid (GoodH (la.foldl pushL lb)) := join_good HGG.out.2 HGG.out.1 (can_comm HCJ.out)
        have HSS : Hid (sortN (la.length + lb.length) (lb.foldl pushL la) = sortN (la.length + lb.length) (la.foldl pushL lb)) := join_sort HGG.out.1 HGG.out.2 HCJ.out
        have HL1 : Hid ((lb.foldl pushL la).length = la.length + lb.length) := fold_length lb la
        have HL2 : Hid ((la.foldl pushL lb).length = la.length + lb.length) := by show _ = _; rw [fold_length]; omega
        clear hY HGG HCJ
        go_wp2_with fail
        refine (sorted_of HXc.out HL1.out (by omega) hzc HG1.out).mono ?_
        rintro r wd ⟨sa, scap, rfl, hS, hBd⟩
        have HBd : Hid (Below w.heap.size w wd) := HBc.out.trans (hBd.mono HBc.out.size)
        have HYd : Hid (Src wd (.slice ya (la.length + lb.length) ycap) (la.foldl pushL lb)) := HYc.out.below hBd
        have HSd : Hid (OwnR wc.heap.size wd (.slice sa (la.length + lb.length) scap) (sortN (la.length + lb.length) (lb.foldl pushL la))) := hS
        have hzd : 0 < wd.heap.size := by have := hBd.size; omega
        clear hS hBd HBc HXc HYc
        go_wp2_with fail
        refine (sorted_of HYd.out HL2.out (by omega) hzd HG2.out).mono ?_
        rintro r we ⟨ta, tcap, rfl, hT, hBe⟩
        have HBe : Hid (Below w.heap.size w we) := HBd.out.trans (hBe.mono HBd.out.size)
        have HSe : Hid (IsEvs we (.slice sa (la.length + lb.length) scap) (sortN (la.length + lb.length) (lb.foldl pushL la))) := (HSd.out.below hBe).evs
        have HTe : Hid (IsEvs we (.slice ta (la.length + lb.length) tcap) (sortN (la.length + lb.length) (lb.foldl pushL la))) := by rw [HSS.out]; exact hT.evs
        have hsum : ((la.length + lb.length : Nat) : Int) = (la.length : Int) + (lb.length : Int) := by omega
        clear hT hBe HBd HSd HYd
        go_wp2_with fail
        refine (sameE_same _ _ _ _ (by rw [sortN_length]; omega) HSe.out HTe.out).mono ?_
        rintro r wf ⟨rfl, hbf⟩
        have HBf : Hid (Below w.heap.size w wf) := HBe.out.trans (hbf.mono HBe.out.size)
        clear hbf
        go_wp2_with fail
        refine (queues_any _).mono ?_
        rintro r wg ⟨rfl, hbg⟩
        have HBg : Hid (Below w.heap.size w wg) := HBf.out.trans (hbg.mono HBf.out.size)
        clear hbg
        go_wp2
        go_ret
        exact ⟨rfl, HBg.out⟩
      · exact absurd ⟨⟨HGG.out.2, HGG.out.1⟩, can_comm HCJ.out⟩ hnj
    · have HNJ : Hid (¬ ((GoodH la ∧ GoodH lb) ∧ CanJ la lb)) := hnj
      clear hnj
      go_wp2_with fail
      refine (join_all HRb2.out HRa2.out hlb hla hzb).mono ?_
      rintro r wc ⟨hj2, hBc⟩
      have HBc : Hid (Below w.heap.size w wc) := HBb.out.trans (hBc.mono HBb.out.size)
      clear hBc HRa2 HRb2 HBb
      rcases hj2 with ⟨hgg, hcj, _⟩ | ⟨_, y, rfl⟩
      · exact absurd ⟨⟨hgg.2, hgg.1⟩, can_comm hcj⟩ HNJ.out
      · go_wp2_with fail
        refine (queues_any _).mono ?_
        rintro r wg ⟨rfl, hbg⟩
        have HBg : Hid (Below w.heap.size w wg) := HBc.out.trans (hbg.mono HBc.out.size)
        clear hbg
        go_wp2
        go_ret
        exact ⟨rfl, HBg.out⟩


set_option maxRecDepth 100000 in
theorem lifted (os : Os) (started : os.Started) (H : Type) (enc : TypeId × Value → H) :
    ReturnsInHanded {} Try.checked os 5 .any (Rows.fnSortsSpec.pre6 enc Try.prog Try.f5 Rows.fnSortsRow.domain false) (Rows.fnSortsSpec.post enc Try.prog Try.f5 false true false false) := by
  refine returnsInHanded_of_change_sized (C := Try.checked) own started (by kernel_rfl) Try.func5
    (ChangeSpec.witness6 (enc := enc) (C := Try.checked) false ⟨#[], #[.slice none 0 0], []⟩ 8 (by kernel_rfl) (by kernel_rfl) (by kernel_rfl) (by kernel_rfl)) ?_
  intro W base args ds gs before hval0 hW hcnd hsz _
  have hval : ∀ (j : Nat) t v, Try.f5.params[j]? = some t → args[j]? = some v → Value.okWide Try.prog W .any base t v := hval0
  have hW' := hW
  obtain ⟨p, q, hA0, hV, rfl, hfz, hnd⟩ := hW
  have hA : DataW.TrodAll enc Try.prog W 0 (fun _ => true) true Try.f5.params.toList args.toList ds p := hA0
  rw [Try.params5] at hA hval
  obtain ⟨v0, vs0, d0, ds0, p0, q0, hargs, rfl, rfl, h0, r0⟩ := trodAll_cons hA
  obtain ⟨rfl, rfl, rfl⟩ := trodAll_nil r0
  obtain rfl : args = #[v0] := by cases args; simp_all
  obtain ⟨rfl, rfl⟩ := trodVars_none hV
  have k0 := h0
  have lt0 : ∀ x ∈ p0, x.block < W.heap.size := by obtain ⟨m, hm⟩ := k0; exact DataW.trod_lt m _ _ _ hm
  obtain ⟨a, n, cap, rfl, hn, hcode⟩ := open_code (hval 0 22 v0 rfl rfl) h0 (fun elems spare e => sized_slice hsz (j := 0) (t := 22) (by rw [Try.params5]; rfl) (by subst e; rfl) Try.underlying22)
  clear hA0 hval0
  refine (walk a n cap W hn hcode).mono fun e W' ⟨he, bel⟩ => ?_
  subst he
  exact ⟨_, rfl, _, _, _, [], _, [], hW', trodAll_mk1 (shut_bool Try.underlying4 _), (trodAll_cons_mk (Below.trod laidOut (by kernel_rfl) (of_decide_eq_true (by kernel_rfl)) k0 bel lt0) trodAll_mk0), rfl, bel.frame _, fun h => by cases h⟩

theorem over : Rows.fnSortsRow.holds Try.pinned (OpenSpec.ofChange Rows.fnSortsSpec) :=
  OpenClaim.holds_of_wide 5 Try.f5 rfl rfl rfl rfl rfl rfl rfl ⟨rfl, rfl, rfl, rfl, rfl⟩ rfl rfl rfl rfl rfl (by kernel_rfl) Try.func5 (by kernel_rfl)
    (of_decide_eq_true (by kernel_rfl)) (by unfold Func.isWrapper; first | (rw [if_pos (by decide +kernel)]; kernel_rfl) | (rw [if_neg (by decide +kernel)]; exact ⟨rfl, rfl⟩))
    (fun os started H enc _ => lifted os started H enc)
end Go.Proofs.Yteecpandpkicmaa.LawSorts
namespace Go.Proofs.Yteecpandpkicmaa
theorem sorts_holds : Rows.FnSortsSaid := LawSorts.over
#print axioms sorts_holds
end Go.Proofs.Yteecpandpkicmaa
