/- The specification's l3sequence. -/
import Derived.Test.YtmpoffepoafblaaGreatExactSequenceG39
import Derived.Test.YtmpoffepoafblaaGreatExactSequenceG45
import Derived.Test.YtmpoffepoafblaaGreatExactSequenceLQuiet
import Derived.Test.YtmpoffepoafblaaGreatExactSequenceLESh
import Derived.Deep.Cut
import Derived.Deep.CutBlock
namespace Go.Proofs.YtmpoffepoafblaaGreat
open Go.RowKit
/- How many events happened, by the history's block. -/
def evLen (w : World) (H : Nat) : Nat := match w.cell? ⟨H, 0, none⟩ with
  | some (.slice _ n _) => n
  | _ => 0
theorem infoEmC : (Tryz.prog.info? 61).map (fun i => (i.zero, i.size, i.bytes)) = some (some (.agg #[.int .i64 0, .int .i64 0, .int .i64 0]), 3, 24) := by kernel_rfl
theorem RowF.cellsAt {F : Nat → Prop} {w : World} {ad : Addr} {n cap c : Nat} {cs : List Value} (h : RowF F w (.slice (some ad) n cap) n c cs) : ∀ j u, cs[j]? = some u → w.cell? (ad.add j) = some u := by
  intro j u hu
  obtain ⟨hl, a, cap', e, _, _, h⟩ := h
  cases e
  have hj := (List.getElem?_eq_some_iff.1 hu).1
  rcases h with h | ⟨g, e, _, _, hc⟩
  · subst h; omega
  · cases e
    rw [addr_add, Nat.zero_add, (hc j (by omega)).1, hu]
theorem xs_cells {w : World} {b off : Nat} {l : List Em} (h : XsAt w b off l) : ∀ j u, (cellsX l)[j]? = some u → w.cell? ((⟨b, off, none⟩ : Addr).add j) = some u := by
  intro j u hu
  have hj : j < l.length * 3 := by
    have := (List.getElem?_eq_some_iff.1 hu).1
    rw [cellsX_length] at this
    exact this
  have hi : j / 3 < l.length := by omega
  have hE := h.2 (j / 3) hi
  have hg := cellsX_get l (j / 3) (j % 3) hi (by omega)
  rw [show j / 3 * 3 + j % 3 = j from by omega, hu] at hg
  rw [addr_add]
  have hr : j % 3 = 0 ∨ j % 3 = 1 ∨ j % 3 = 2 := by omega
  rcases hr with e | e | e <;> rw [e] at hg
  · have := hE.f0
    rw [show off + j / 3 * 3 = off + j from by omega] at this
    rw [this, hg]; rfl
  · have := hE.f1
    rw [show off + j / 3 * 3 + 1 = off + j from by omega] at this
    rw [this, hg]; rfl
  · have := hE.f2
    rw [show off + j / 3 * 3 + 2 = off + j from by omega] at this
    rw [this, hg]; rfl
theorem infoSt : (Tryz.prog.info? 48).map (fun i => (i.zero, i.size, i.bytes)) = some (some (.agg #[.slice none 0 0, .int .i64 0, .int .i64 0]), 3, 40) := by kernel_rfl
set_option maxRecDepth 100000 in
set_option maxHeartbeats 4000000 in
theorem sSeq (x d : Value) (m : Md) (c0 c1 c2 c3 z : Int) (w : World) (hm : IsM w x m) (hd : IsI w d [c0, c1, c2, c3]) (hok : m.ok = true) (hvc : ∀ a : Int, -1 ≤ vecAt c0 c1 c2 c3 a ∧ vecAt c0 c1 c2 c3 a ≤ 1) :
    Calls Tryz.prog 63 #[x, d, .int .i64 z] w fun r w' => ∃ y, r = .returned y ∧ Below w.heap.size w w' ∧ HiF (fun k => w.heap.size ≤ k ∧ k < w'.heap.size) w' y (seqR m [c0, c1, c2, c3] z) := by
  obtain ⟨i0, hi0, hz0, hz1, hz2⟩ := info_parts infoSt
  have HM : Hid (IsM w x m) := hm
  have HD : Hid (IsI w d [c0, c1, c2, c3]) := hd
  have HOK : Hid (m.ok = true) := hok
  have HVC : Hid (∀ a : Int, -1 ≤ vecAt c0 c1 c2 c3 a ∧ vecAt c0 c1 c2 c3 a ≤ 1) := hvc
  obtain ⟨vi, vh, vs, rfl, ⟨ai, ci, rfl, hi1, hi2, hi3⟩, ⟨ah, ch, rfl, _⟩, ⟨ae, ce, rfl, he1, he2, he3⟩⟩ := hm
  have HE3 : Hid (m.e = [] ∨ ∃ b off, ae = some ⟨b, off, none⟩ ∧ EvsAt w b off m.e) := he3
  obtain ⟨ad, cd, rfl, hd1, hd2, hd3⟩ := hd
  clear hok hvc hi3 he3 hd3
  go_enter Tryz.func63, Tryz.ntmps63
  go_wp2
  obtain ⟨W0, hW0⟩ : ∃ W0, (((w.alloc (.cells #[.int .i64 m.n, .int .i64 m.s, .slice ai m.i.length ci, .slice ah m.h.length ch, .slice ae m.e.length ce, .int .i64 m.z] 36)).alloc (.cells #[.slice none 0 0, .slice none 0 0, .int .i64 0, .bool false] 31)).alloc (.cells #[.slice none 0 0, .slice none 0 0, .int .i64 (-1), .bool false] 31)) = W0 := ⟨_, rfl⟩
  have HP : Hid (Bk W0 w.heap.size 36 #[.int .i64 m.n, .int .i64 m.s, .slice ai m.i.length ci, .slice ah m.h.length ch, .slice ae m.e.length ce, .int .i64 m.z]) := by rw [← hW0]; exact ((Bk.new _ _ _).alloc _).alloc _
  have HR : Hid (Bk W0 (w.heap.size + 1) 31 #[.slice none 0 0, .slice none 0 0, .int .i64 0, .bool false]) := by rw [← hW0]; exact (Bk.newAt (by simp) _ _).alloc _
  have HH : Hid (Bk W0 (w.heap.size + 1 + 1) 31 #[.slice none 0 0, .slice none 0 0, .int .i64 (-1), .bool false]) := by rw [← hW0]; exact Bk.newAt (by simp) _ _
  have HB0 : Hid (Below w.heap.size w W0) := by rw [← hW0]; exact (((Below.refl _ w).alloc (Nat.le_refl _) _).alloc (by simp) _).alloc (by simp; omega) _
  have hs0 : W0.heap.size = w.heap.size + 1 + 1 + 1 := by rw [← hW0]; simp
  have HN : Hid ((m.i.length : Int) = m.n) := ok_init HOK.out
  have hn4 : m.i.length ≤ 4 := by have := ok_seed HOK.out; have := HN.out; omega
  rw [hW0]
  clear hW0
  go_loopw [9, 10] (fun st i wr => ∃ (k : Nat) (l : List Pt) (v : Value), k ≤ m.i.length ∧ v = st ∧ i = .int .i64 k ∧ Sts (AS W0.heap.size wr st) wr W0.heap.size st l ∧ stsOf l = firsts m k ∧ Below W0.heap.size W0 wr) (fun _ i _ => m.i.length - (intOf i).toNat)
  case atStart => exact ⟨0, [], _, Nat.zero_le _, rfl, rfl, Sts.nil _ _ _, rfl, Below.refl _ _⟩
  case round =>
    obtain ⟨k, l, st, hk, rfl, rfl, hS, hl, hb⟩ := hrel
    have HS : Hid (Sts (AS W0.heap.size wr st) wr W0.heap.size st l) := hS
    have HL : Hid (stsOf l = firsts m k) := hl
    have HB : Hid (Below W0.heap.size W0 wr) := hb
    have hsz : W0.heap.size ≤ wr.heap.size := hb.size
    have hll : l.length = k := by rw [← stsOf_length, hl, firsts_length]
    have HPr : Hid (Bk wr w.heap.size 36 #[.int .i64 m.n, .int .i64 m.s, .slice ai m.i.length ci, .slice ah m.h.length ch, .slice ae m.e.length ce, .int .i64 m.z]) := HP.out.keep hb (by omega)
    have HMr : Hid (IsM wr (.agg #[.int .i64 m.n, .int .i64 m.s, .slice ai m.i.length ci, .slice ah m.h.length ch, .slice ae m.e.length ce, .int .i64 m.z]) m) := HM.out.below (HB0.out.trans (hb.mono (by omega)))
    have p0 := HPr.out.cell (i := 0) rfl
    clear hS hl hb
    by_cases hlt : k < m.i.length
    · have hdk : decide ((k : Int) < m.n) = true := by have := HN.out; simp; omega
      have p1 := HPr.out.cell (i := 1) rfl
      have p2 := HPr.out.cell (i := 2) rfl
      have p3 := HPr.out.cell (i := 3) rfl
      have p4 := HPr.out.cell (i := 4) rfl
      have p5 := HPr.out.cell (i := 5) rfl
      have HC : Hid (Calls Tryz.prog 141 #[.agg #[.int .i64 m.n, .int .i64 m.s, .slice ai m.i.length ci, .slice ah m.h.length ch, .slice ae m.e.length ce, .int .i64 m.z], .int .i64 k] wr fun e w' => ∃ y, e = .returned y ∧ Below wr.heap.size wr w' ∧ StF (fun j => wr.heap.size ≤ j ∧ j < w'.heap.size) w' y ⟨[intAt m.i k, 0], 0, 0⟩) := sBegin (.agg #[.int .i64 m.n, .int .i64 m.s, .slice ai m.i.length ci, .slice ah m.h.length ch, .slice ae m.e.length ce, .int .i64 m.z]) m k wr hlt HMr.out
      go_wp2_with (fail)
      refine HC.out.mono ?_
      rintro r w1 ⟨y, rfl, hb1, vr, rfl, hrow⟩
      obtain ⟨_, va, vc, rfl, _⟩ := id hrow
      have HRw : Hid (RowF (fun j => wr.heap.size ≤ j ∧ j < w1.heap.size) w1 (.slice va 2 vc) [intAt m.i k, 0].length 1 (intCells [intAt m.i k, 0])) := hrow
      have HB1 : Hid (Below wr.heap.size wr w1) := hb1
      have hs1 : wr.heap.size ≤ w1.heap.size := hb1.size
      have HS1 : Hid ((w1.alloc (.cells #[.slice va 2 vc, .int .i64 0, .int .i64 0] 48)).ownsRow W0.heap.size 48 3 st l.length (cellsT l)) := (HS.out.below hb1).row.alloc _
      clear hrow hb1 HC
      go_wp2_with (at_builtin; refine wpList_append_own2 _ rfl _ _ 182 rfl W0.heap.size 48 i0 _ 3 40 Tryz.underlying182 hi0 hz0 hz1 hz2 rfl (by decide) st l.length (cellsT l) rfl HS1.out ⟨w1.heap.size, 0, none⟩ 1 1 [.slice va 2 vc, .int .i64 0, .int .i64 0] rfl rfl (new3 _ _ _ _ _) one3 (by unfold maxLen; omega) (by omega) (by simp; omega) ?_; intro v' w3 hr3 hg3 hn3)
      go_roundw
      case rel =>
        refine ⟨k + 1, l ++ [(.slice va 2 vc, firstS m (k : Int))], v', by omega, rfl, by go_num, Sts.appended (p := (.slice va 2 vc, firstS m (k : Int))) HS.out hsz HB1.out HRw.out hg3 hn3 hr3, ?_, ?_⟩
        · rw [stsOf_append, HL.out, firsts_snoc]; rfl
        · exact HB.out.trans ((((Below.refl W0.heap.size wr).trans (HB1.out.mono hsz)).alloc (by omega) _).grown hg3 (by simp; omega) (fun r e => row_ge HS1.out e))
      case measure => simp [intOf]; omega
    · obtain ⟨W1, rfl⟩ : ∃ W1, W1 = wr := ⟨wr, rfl⟩
      have HKE : Hid (k = m.i.length) := by show k = m.i.length; omega
      have hdk : decide ((k : Int) < m.n) = false := by have := HN.out; have := HKE.out; simp; omega
      clear HMr p0
      have HBw : Hid (Below w.heap.size w W1) := HB0.out.trans (HB.out.mono (by omega))
      have hsw : w.heap.size + 3 ≤ W1.heap.size := by omega
      have HP0 : Hid (Bk W1 w.heap.size 36 #[.int .i64 m.n, .int .i64 m.s, .slice ai m.i.length ci, .slice ah m.h.length ch, .slice ae m.e.length ce, .int .i64 m.z]) := HPr.out
      have p0 := HPr.out.cell (i := 0) rfl
      go_wp2
      go_loopw [8, 11] (fun td i wr => ∃ (j : Nat) (v : Value), j ≤ m.e.length ∧ v = td ∧ i = .int .i64 j ∧ OwnR W1.heap.size wr v (startO [] (m.e.take j)) ∧ Below W1.heap.size W1 wr) (fun _ i _ => m.e.length - (intOf i).toNat)
      case atStart => exact ⟨0, _, Nat.zero_le _, rfl, rfl, OwnR.nil _ _, Below.refl _ _⟩
      case round =>
        obtain ⟨j, td, hj, rfl, rfl, hO, hb⟩ := hrel
        have HO : Hid (OwnR W1.heap.size wr td (startO [] (m.e.take j))) := hO
        have HQ : Hid (Below W1.heap.size W1 wr) := hb
        have hsq : W1.heap.size ≤ wr.heap.size := hb.size
        have HPq : Hid (Bk wr w.heap.size 36 #[.int .i64 m.n, .int .i64 m.s, .slice ai m.i.length ci, .slice ah m.h.length ch, .slice ae m.e.length ce, .int .i64 m.z]) := HP0.out.keep hb (by omega)
        have q4 := HPq.out.cell (i := 4) rfl
        have hlen : (startO [] (m.e.take j)).length = j := by rw [startO_length]; simp; omega
        have hm6 : m.e.length ≤ 6 := ok_len6 HOK.out
        clear hO hb
        by_cases hjt : j < m.e.length
        · have hdj : decide ((j : Int) < (m.e.length : Int)) = true := by simp; omega
          have hji : (j : Int) < (m.e.length : Int) := by omega
          obtain ⟨b, off, hae, hI⟩ := HE3.out.resolve_left (by intro e; rw [e] at hjt; simp at hjt)
          subst hae
          have hbw : b < w.heap.size := hI.1
          have HIq : Hid (EvsAt wr b off m.e) := hI.below (HBw.out.trans (HQ.out.mono (by omega))) hbw
          obtain ⟨e0, e1, e2, e3, e4, e5, e6⟩ := HIq.out.2 j hjt
          have HC1 : Hid (∀ W, Calls Tryz.prog 143 #[.agg #[.int .i64 (evAt m.e j).t, .int .i64 (evAt m.e j).s, .int .i64 (evAt m.e j).q, .int .i64 (evAt m.e j).d, .int .i64 (evAt m.e j).k, .int .i64 (evAt m.e j).v, .int .i64 (evAt m.e j).g]] W fun r w' => r = .returned (.agg #[.int .i64 (evAt m.e j).t, .int .i64 (evAt m.e j).s, .int .i64 (evAt m.e j).q, .int .i64 (evAt m.e j).d, .int .i64 (evAt m.e j).k, .int .i64 (evAt m.e j).v, .int .i64 0]) ∧ Below W.heap.size W w') := fun W => bare_any (evAt m.e j) W
          clear hI
          go_wp2_with (fail)
          refine (HC1.out _).mono ?_
          rintro r w1 ⟨rfl, hb1⟩
          have HB1 : Hid (Below wr.heap.size wr w1) := hb1
          have hs1 : wr.heap.size ≤ w1.heap.size := hb1.size
          have HC2 : Hid (Calls Tryz.prog 142 #[td, .agg #[.int .i64 (evAt m.e j).t, .int .i64 (evAt m.e j).s, .int .i64 (evAt m.e j).q, .int .i64 (evAt m.e j).d, .int .i64 (evAt m.e j).k, .int .i64 (evAt m.e j).v, .int .i64 0]] w1 fun r w' => ∃ y, r = .returned y ∧ OwnR w1.heap.size w' y (insO (startO [] (m.e.take j)) (evAt m.e j).bare) ∧ Below w1.heap.size w1 w') := l3insert_own (evAt m.e j).bare w1 (by omega) (HO.out.below hb1)
          clear hb1 HC1 e0 e1 e2 e3 e4 e5 e6
          go_wp2_with (fail)
          refine HC2.out.mono ?_
          rintro r w2 ⟨y, rfl, ho, hb2⟩
          have HO2 : Hid (OwnR W1.heap.size w2 y (startO [] (m.e.take (j + 1)))) := by
            rw [take_snoc _ _ hjt, startO_snoc]
            exact ho.mono (by omega)
          have HB2 : Hid (Below W1.heap.size W1 w2) := (HQ.out.trans (HB1.out.mono hsq)).trans (hb2.mono (by omega))
          clear ho hb2 HC2
          go_wp2
          go_roundw
          case rel => exact ⟨j + 1, y, by omega, rfl, by go_num, HO2.out, HB2.out⟩
          case measure => simp [intOf]; omega
        · have hje : j = m.e.length := by omega
          subst hje
          have hdj : decide ((m.e.length : Int) < (m.e.length : Int)) = false := by simp
          have HOm : Hid (OwnR W1.heap.size wr td (startO [] m.e)) := by
            have := HO.out
            rwa [List.take_length] at this
          obtain ⟨W2, rfl⟩ : ∃ W2, W2 = wr := ⟨wr, rfl⟩
          have HBW2 : Hid (Below w.heap.size w W2) := HBw.out.trans (HQ.out.mono (by omega))
          have HP2 : Hid (Bk W2 w.heap.size 36 #[.int .i64 m.n, .int .i64 m.s, .slice ai m.i.length ci, .slice ah m.h.length ch, .slice ae m.e.length ce, .int .i64 m.z]) := HPq.out
          have HR2 : Hid (Bk W2 (w.heap.size + 1) 31 #[.slice none 0 0, .slice none 0 0, .int .i64 0, .bool false]) := (HR.out.keep HB.out (by omega)).keep HQ.out (by omega)
          have HH2 : Hid (Bk W2 (w.heap.size + 1 + 1) 31 #[.slice none 0 0, .slice none 0 0, .int .i64 (-1), .bool false]) := (HH.out.keep HB.out (by omega)).keep HQ.out (by omega)
          have HS2 : Hid (SCo W0.heap.size (w.heap.size + 1 + 1) W2 td st l (.slice none 0 0) (.slice none 0 0) (begC m)) := by
            refine SCo.begin (HOm.out.mono hsz) ((HS.out.below HQ.out).mono fun b hb => ⟨hb.1, Nat.lt_of_lt_of_le hb.2.1 hsq, hb.2.2⟩) ?_ HH2.out rfl rfl (by omega)
            rw [HL.out, HKE.out]
            show firsts m m.i.length = firsts m m.n.toNat
            congr 1
            have := HN.out
            omega
          clear HO HOm HS HQ HH2 HPq HP0 p0
          go_wp2
          clear q4
          go_loopw [8] (fun tv wr => ∃ (c : Co) (v : Value) (l : List Pt) (ve vx : Value) (f : Nat), v = tv ∧ SCo W0.heap.size (w.heap.size + 1 + 1) wr v st l ve vx c ∧ Inv m c ∧ 151 ≤ f + c.ev.length ∧ seqG (·.drop 1) (planO m.z) m [c0, c1, c2, c3] z f c = seqR m [c0, c1, c2, c3] z ∧ Turns (fun k => k = w.heap.size + 1 + 1 ∨ W0.heap.size ≤ k) W2 wr) (fun _ wr => 151 - evLen wr (w.heap.size + 1 + 1))
          case atStart => exact ⟨begC m, td, l, _, _, 151, rfl, HS2.out, beg_inv HOK.out, by omega, rfl, Turns.refl _ _⟩
          case round =>
            clear HS2
            obtain ⟨c, td', l', ve, vx, f, rfl, hS, hI, hf, hR, hT⟩ := hrel
            obtain ⟨ea, ec, rfl⟩ := owns_form hS.es
            obtain ⟨xa, xc, rfl⟩ := owns_form hS.xs
            have HS : Hid (SCo W0.heap.size (w.heap.size + 1 + 1) wr td' st l' (.slice ea c.ev.length ec) (.slice xa c.em.length xc) c) := hS
            have HI : Hid (Inv m c) := hI
            have HSQ : Hid (151 ≤ f + c.ev.length ∧ seqG (·.drop 1) (planO m.z) m [c0, c1, c2, c3] z f c = seqR m [c0, c1, c2, c3] z) := ⟨hf, hR⟩
            have HT : Hid (Turns (fun k => k = w.heap.size + 1 + 1 ∨ W0.heap.size ≤ k) W2 wr) := hT
            have hsr : W2.heap.size ≤ wr.heap.size := hT.size
            have HPr : Hid (Bk wr w.heap.size 36 #[.int .i64 m.n, .int .i64 m.s, .slice ai m.i.length ci, .slice ah m.h.length ch, .slice ae m.e.length ce, .int .i64 m.z]) := HP2.out.turns hT (by omega)
            have HRr : Hid (Bk wr (w.heap.size + 1) 31 #[.slice none 0 0, .slice none 0 0, .int .i64 0, .bool false]) := HR2.out.turns hT (by omega)
            have HBr : Hid (Turns (fun k => w.heap.size ≤ k) w wr) := (Turns.of_below HBW2.out).trans (hT.mono fun k hk => by omega)
            have h0 := hS.hb.cell (i := 0) rfl
            have h1 := hS.hb.cell (i := 1) rfl
            have h2 := hS.hb.cell (i := 2) rfl
            have h3 := hS.hb.cell (i := 3) rfl
            have k0 := HRr.out.cell (i := 0) rfl
            have k1 := HRr.out.cell (i := 1) rfl
            have k2 := HRr.out.cell (i := 2) rfl
            have k3 := HRr.out.cell (i := 3) rfl
            have r0 := HRr.out.free 0
            have r1 := HRr.out.free 1
            have r2 := HRr.out.free 2
            have r3 := HRr.out.free 3
            have hRw : w.heap.size + 1 < wr.heap.size := HRr.out.lt
            clear hf hR hT
            by_cases hl0 : 0 < c.td.length
            · rcases hS.to.capsC with ⟨_, e⟩ | ⟨g, cap, rfl, hc, hcm, hE, hBg⟩
              · rw [e] at hl0; simp at hl0
              have HEv : Hid (EvsAt wr g 0 c.td) := hE
              obtain ⟨e0, e1, e2, e3, e4, e5, e6⟩ := hE.2 0 hl0
              simp only [Nat.zero_mul, Nat.zero_add] at e0 e1 e2 e3 e4 e5 e6
              have hli : (0 : Int) < (c.td.length : Int) := by omega
              have hel := HI.out.el
              clear hS hI hE
              by_cases hz : (evAt c.td 0).t ≤ z
              · have hdz : decide ((evAt c.td 0).t ≤ z) = true := by simpa using hz
                by_cases hfull : c.ev.length = 150
                · have HE : Hid (seqR m [c0, c1, c2, c3] z = ⟨c.ev, c.em, -1, true⟩) := seq_full HSQ.out.1 ⟨hl0, hz⟩ hfull HSQ.out.2
                  have hd1 : decide ((150 : Int) ≤ (c.ev.length : Int)) = true := by simp; omega
                  have f3 := HS.out.hb.free 3
                  clear hfull
                  go_wp2
                  have HRx : Hid (Bk (wr.setCell ⟨w.heap.size + 1 + 1, 3, none⟩ (.bool true)) (w.heap.size + 1) 31 #[.slice none 0 0, .slice none 0 0, .int .i64 0, .bool false]) := HRr.out.other 3 _ (by omega)
                  have HTh : Turns (fun k => k = w.heap.size + 1 + 1 ∨ k = w.heap.size + 1) wr (wr.setCell ⟨w.heap.size + 1 + 1, 3, none⟩ (.bool true)) := (put1_turns wr (w.heap.size + 1 + 1) 3 (.bool true)).mono fun k e => .inl e
                  have hW := HRx.out.put4h (.slice ea c.ev.length ec) (.slice xa c.em.length xc) (.int .i64 (-1)) (.bool true)
                  have t0 := hW.cell (i := 0) rfl
                  have t1 := hW.cell (i := 1) rfl
                  have t2 := hW.cell (i := 2) rfl
                  have t3 := hW.cell (i := 3) rfl
                  have HTe := put4h_turns (wr.setCell ⟨w.heap.size + 1 + 1, 3, none⟩ (.bool true)) (w.heap.size + 1) (.slice ea c.ev.length ec) (.slice xa c.em.length xc) (.int .i64 (-1)) (.bool true)
                  refine bodyPost_ret (v := .agg #[.slice ea c.ev.length ec, .slice xa c.em.length xc, .int .i64 (-1), .bool true]) (by simp [results, Tryz.results63, go_sem, t0, t1, t2, t3]) rfl ⟨_, rfl, ?_, ?_⟩
                  · exact (HBr.out.trans ((HTh.trans (HTe.mono fun k e => .inr e)).mono fun k e => by omega)).to_below (fun k e => e) (Nat.le_refl _)
                  · rw [HE.out]
                    exact (HS.out.done (HTh.trans (HTe.mono fun k e => .inr e)) (fun k e => by omega) (-1) true).mono (fun k hk => ⟨by omega, hk.2⟩)
                · have hd1 : decide ((150 : Int) ≤ (c.ev.length : Int)) = false := by simp; omega
                  have hlt : c.ev.length < 150 := by omega
                  clear hfull
                  obtain ⟨i, hi⟩ : ∃ i : Nat, (evAt c.td 0).d = (i : Int) := ⟨(evAt c.td 0).d.toNat, by have := ev_d (HI.out.due hl0).ok; omega⟩
                  have hil : i < l'.length := by
                    have := HI.out.place hl0
                    rw [← HS.out.sl, stsOf_length, hi] at this
                    simpa using this
                  obtain ⟨G, gc9, hst9, hg1, hg2, hg3, hg4⟩ := HS.out.ss.form (n := l'.length - 1) (by omega)
                  subst hst9
                  obtain ⟨_, sa, sc, hsv, _⟩ := HS.out.ss.reg i hil
                  obtain ⟨s0, s1, s2⟩ := HS.out.ss.cells hil
                  rw [hsv] at s0
                  have HIi : Hid ((evAt c.td 0).d = (i : Int)) := hi
                  have HSv : Hid ((tAt l' i).1 = .slice sa (tAt l' i).2.r.length sc) := hsv
                  rw [hi] at e3
                  obtain ⟨W3, hW3⟩ : ∃ W3, wr.alloc (.cells #[.int .i64 (evAt c.td 0).t, .int .i64 (evAt c.td 0).s, .int .i64 (evAt c.td 0).q, .int .i64 (i : Int), .int .i64 (evAt c.td 0).k, .int .i64 (evAt c.td 0).v, .int .i64 (evAt c.td 0).g] 50) = W3 := ⟨_, rfl⟩
                  have hB3 : Below wr.heap.size wr W3 := by rw [← hW3]; exact (Below.refl _ wr).alloc (Nat.le_refl _) _
                  have HB3 : Hid (Below wr.heap.size wr W3) := hB3
                  have HE3' : Hid (Bk W3 wr.heap.size 50 #[.int .i64 (evAt c.td 0).t, .int .i64 (evAt c.td 0).s, .int .i64 (evAt c.td 0).q, .int .i64 (i : Int), .int .i64 (evAt c.td 0).k, .int .i64 (evAt c.td 0).v, .int .i64 (evAt c.td 0).g]) := by rw [← hW3]; exact Bk.new _ _ _
                  have HP3 : Hid (Bk W3 w.heap.size 36 #[.int .i64 m.n, .int .i64 m.s, .slice ai m.i.length ci, .slice ah m.h.length ch, .slice ae m.e.length ce, .int .i64 m.z]) := HPr.out.below hB3
                  have HS3 : Hid (SCo W0.heap.size (w.heap.size + 1 + 1) W3 (.slice (some ⟨g, 0, none⟩) c.td.length cap) (.slice (some ⟨G, 0, none⟩) l'.length gc9) l' (.slice ea c.ev.length ec) (.slice xa c.em.length xc) c) := HS.out.below hB3
                  have hG3 : G < W3.heap.size := Nat.lt_of_lt_of_le hg4 hB3.size
                  have hs3 : wr.heap.size < W3.heap.size := HE3'.out.lt
                  have HK : Hid (∀ W', Below W3.heap.size W3 W' → W'.cell? ⟨w.heap.size, 0, none⟩ = some (.int .i64 m.n) ∧ W'.cell? ⟨w.heap.size, 1, none⟩ = some (.int .i64 m.s) ∧ W'.cell? ⟨w.heap.size, 2, none⟩ = some (.slice ai m.i.length ci) ∧ W'.cell? ⟨w.heap.size, 3, none⟩ = some (.slice ah m.h.length ch) ∧ W'.cell? ⟨w.heap.size, 4, none⟩ = some (.slice ae m.e.length ce) ∧ W'.cell? ⟨w.heap.size, 5, none⟩ = some (.int .i64 m.z) ∧ W'.cell? ⟨wr.heap.size, 0, none⟩ = some (.int .i64 (evAt c.td 0).t) ∧ W'.cell? ⟨wr.heap.size, 1, none⟩ = some (.int .i64 (evAt c.td 0).s) ∧ W'.cell? ⟨wr.heap.size, 2, none⟩ = some (.int .i64 (evAt c.td 0).q) ∧ W'.cell? ⟨wr.heap.size, 3, none⟩ = some (.int .i64 (i : Int)) ∧ W'.cell? ⟨wr.heap.size, 4, none⟩ = some (.int .i64 (evAt c.td 0).k) ∧ W'.cell? ⟨wr.heap.size, 5, none⟩ = some (.int .i64 (evAt c.td 0).v) ∧ W'.cell? ⟨wr.heap.size, 6, none⟩ = some (.int .i64 (evAt c.td 0).g) ∧ W'.cell? ⟨G, i * 3, none⟩ = some (.slice sa (tAt l' i).2.r.length sc) ∧ W'.cell? ⟨G, i * 3 + 1, none⟩ = some (.int .i64 (tAt l' i).2.q) ∧ W'.cell? ⟨G, i * 3 + 2, none⟩ = some (.int .i64 (tAt l' i).2.d)) := by
                    intro W' hb
                    have q := HP3.out.below hb
                    have r := HE3'.out.below hb
                    have s := ((HS3.out.ss.below hb)).cells hil
                    rw [HSv.out] at s
                    exact ⟨q.cell (i := 0) rfl, q.cell (i := 1) rfl, q.cell (i := 2) rfl, q.cell (i := 3) rfl, q.cell (i := 4) rfl, q.cell (i := 5) rfl, r.cell (i := 0) rfl, r.cell (i := 1) rfl, r.cell (i := 2) rfl, r.cell (i := 3) rfl, r.cell (i := 4) rfl, r.cell (i := 5) rfl, r.cell (i := 6) rfl, s.1, s.2.1, s.2.2⟩
                  have hEF : ∃ EF, effC m [c0, c1, c2, c3] c = EF := ⟨_, rfl⟩
                  obtain ⟨EF, hEF⟩ := hEF
                  have HEF : Hid (effC m [c0, c1, c2, c3] c = EF) := hEF
                  have HC : Hid (∀ W, Below W3.heap.size W3 W → Calls Tryz.prog 144 #[.agg #[.int .i64 m.n, .int .i64 m.s, .slice ai m.i.length ci, .slice ah m.h.length ch, .slice ae m.e.length ce, .int .i64 m.z], .slice ad 4 cd, .agg #[.slice sa (tAt l' i).2.r.length sc, .int .i64 (tAt l' i).2.q, .int .i64 (tAt l' i).2.d], .agg #[.int .i64 (evAt c.td 0).t, .int .i64 (evAt c.td 0).s, .int .i64 (evAt c.td 0).q, .int .i64 (i : Int), .int .i64 (evAt c.td 0).k, .int .i64 (evAt c.td 0).v, .int .i64 (evAt c.td 0).g]] W fun r w' => ∃ u, r = .returned u ∧ Below W.heap.size W w' ∧ EfF (fun k => W.heap.size ≤ k ∧ k < w'.heap.size) w' u EF) := by
                    intro W hb
                    have hbw : Turns (fun k => w.heap.size ≤ k) w W := HBr.out.trans ((Turns.of_below HB3.out).trans (Turns.of_below hb))
                    have hbb : Below w.heap.size w W := hbw.to_below (fun k e => e) (Nat.le_refl _)
                    have hs := (HS3.out.ss.below hb).is hil
                    rw [HSv.out] at hs
                    have hst : (tAt l' i).2 = stAt c.st (evAt c.td 0).d.toNat := by rw [← HS.out.sl, tAt_st, HIi.out]; rfl
                    have h9 := sEff (.agg #[.int .i64 m.n, .int .i64 m.s, .slice ai m.i.length ci, .slice ah m.h.length ch, .slice ae m.e.length ce, .int .i64 m.z]) (.agg #[.slice sa (tAt l' i).2.r.length sc, .int .i64 (tAt l' i).2.q, .int .i64 (tAt l' i).2.d]) (.slice ad 4 cd) m c0 c1 c2 c3 (tAt l' i).2 (evAt c.td 0) W (HM.out.below hbb) (HD.out.below hbb) hs (by rw [hst]; exact HI.out.fit hl0 HOK.out HVC.out)
                    rw [HIi.out] at h9
                    have h8 : effR m [c0, c1, c2, c3] (tAt l' i).2 (evAt c.td 0) = EF := by rw [← HEF.out, hst]; rfl
                    rw [h8] at h9
                    exact h9
                  have hili : (i : Int) < (l'.length : Int) := by omega
                  clear hi hsv hEF hB3
                  go_wp2
                  go_cut [13] from 43 to 123 (fun s13 wc => ∃ PP fa fc ga gc ha hc, s13 = .pointer (some ⟨PP, 0, none⟩) ∧ Below W3.heap.size W3 wc ∧ (W3.heap.size ≤ PP ∧ PP < wc.heap.size) ∧ Bk wc PP 54 #[.slice fa EF.st.r.length fc, .int .i64 EF.st.q, .int .i64 EF.st.d, .slice ga EF.s.length gc, .slice ha EF.x.length hc, .int .i64 EF.k] ∧ EfF (fun k => (W3.heap.size ≤ k ∧ k < wc.heap.size) ∧ k ≠ PP) wc (.agg #[.slice fa EF.st.r.length fc, .int .i64 EF.st.q, .int .i64 EF.st.d, .slice ga EF.s.length gc, .slice ha EF.x.length hc, .int .i64 EF.k]) EF)
                  case first =>
                    refine wp_region_held_drew (S := fun W => W.cell? ⟨w.heap.size, 0, none⟩ = some (.int .i64 m.n) ∧ W.cell? ⟨w.heap.size, 1, none⟩ = some (.int .i64 m.s) ∧ W.cell? ⟨w.heap.size, 2, none⟩ = some (.slice ai m.i.length ci) ∧ W.cell? ⟨w.heap.size, 3, none⟩ = some (.slice ah m.h.length ch) ∧ W.cell? ⟨w.heap.size, 4, none⟩ = some (.slice ae m.e.length ce) ∧ W.cell? ⟨w.heap.size, 5, none⟩ = some (.int .i64 m.z) ∧ W.cell? ⟨wr.heap.size, 0, none⟩ = some (.int .i64 (evAt c.td 0).t) ∧ W.cell? ⟨wr.heap.size, 1, none⟩ = some (.int .i64 (evAt c.td 0).s) ∧ W.cell? ⟨wr.heap.size, 2, none⟩ = some (.int .i64 (evAt c.td 0).q) ∧ W.cell? ⟨wr.heap.size, 3, none⟩ = some (.int .i64 (i : Int)) ∧ W.cell? ⟨wr.heap.size, 4, none⟩ = some (.int .i64 (evAt c.td 0).k) ∧ W.cell? ⟨wr.heap.size, 5, none⟩ = some (.int .i64 (evAt c.td 0).v) ∧ W.cell? ⟨wr.heap.size, 6, none⟩ = some (.int .i64 (evAt c.td 0).g) ∧ W.cell? ⟨G, i * 3, none⟩ = some (.slice sa (tAt l' i).2.r.length sc) ∧ W.cell? ⟨G, i * 3 + 1, none⟩ = some (.int .i64 (tAt l' i).2.q) ∧ W.cell? ⟨G, i * 3 + 2, none⟩ = some (.int .i64 (tAt l' i).2.d)) (by kernel_rfl) (HK.out _ (Below.refl W3.heap.size W3).drew) (fun hHeld => ?_)
                    refine wpAnyH_take (i := 0) (oi := { dst := some 63, op := Op.load 36 (Operand.tmp 3), type := 36, pos := _, after := _, guard := none }) (v := .agg #[.int .i64 m.n, .int .i64 m.s, .slice ai m.i.length ci, .slice ah m.h.length ch, .slice ae m.e.length ce, .int .i64 m.z]) rfl (by kernel_rfl) (by kernel_rfl) (by kernel_rfl) (fun _ _ _ h => h) (Or.inl ⟨by rfl, ?_⟩) (by assumption) ?_
                    · intro wX hSw
                      try dsimp only at hSw
                      go_simp
                    try simp only [Act.put, List.setIfInBounds_toArray, List.set_cons_zero, List.set_cons_succ]
                    refine wpAnyH_take (i := 1) (oi := { dst := some 64, op := Op.move (Operand.tmp 1), type := 22, pos := _, after := _, guard := none }) (v := .slice ad 4 cd) rfl (by kernel_rfl) (by kernel_rfl) (by kernel_rfl) (fun _ _ _ h => h) (Or.inl ⟨by rfl, ?_⟩) (by assumption) ?_
                    · intro wX hSw
                      try dsimp only at hSw
                      go_simp
                    try simp only [Act.put, List.setIfInBounds_toArray, List.set_cons_zero, List.set_cons_succ]
                    refine wpAnyH_take (i := 2) (oi := { dst := some 65, op := Op.move (Operand.tmp 9), type := 182, pos := _, after := _, guard := none }) (v := (.slice (some ⟨G, 0, none⟩) l'.length gc9)) rfl (by kernel_rfl) (by kernel_rfl) (by kernel_rfl) (fun _ _ _ h => h) (Or.inl ⟨by rfl, ?_⟩) (by assumption) ?_
                    · intro wX hSw
                      try dsimp only at hSw
                      go_simp
                    try simp only [Act.put, List.setIfInBounds_toArray, List.set_cons_zero, List.set_cons_succ]
                    refine wpAnyH_take (i := 3) (oi := { dst := some 66, op := Op.fieldAddr 50 (Operand.tmp 12) 3, type := 0, pos := _, after := _, guard := none }) (v := .pointer (some ⟨wr.heap.size, 3, none⟩)) rfl (by kernel_rfl) (by kernel_rfl) (by kernel_rfl) (fun _ _ _ h => h) (Or.inl ⟨by rfl, ?_⟩) (by assumption) ?_
                    · intro wX hSw
                      try dsimp only at hSw
                      go_simp
                    try simp only [Act.put, List.setIfInBounds_toArray, List.set_cons_zero, List.set_cons_succ]
                    refine wpAnyH_take (i := 4) (oi := { dst := some 67, op := Op.load 3 (Operand.tmp 66), type := 3, pos := _, after := _, guard := none }) (v := .int .i64 (i : Int)) rfl (by kernel_rfl) (by kernel_rfl) (by kernel_rfl) (fun _ _ _ h => h) (Or.inl ⟨by rfl, ?_⟩) (by assumption) ?_
                    · intro wX hSw
                      try dsimp only at hSw
                      go_simp
                    try simp only [Act.put, List.setIfInBounds_toArray, List.set_cons_zero, List.set_cons_succ]
                    refine wpAnyH_take (i := 5) (oi := { dst := some 68, op := Op.indexAddr 182 (Operand.tmp 65) (Operand.tmp 67), type := 0, pos := _, after := _, guard := none }) (v := .pointer (some ⟨G, i * 3, none⟩)) rfl (by kernel_rfl) (by kernel_rfl) (by kernel_rfl) (fun _ _ _ h => h) (Or.inl ⟨by rfl, ?_⟩) (by assumption) ?_
                    · intro wX hSw
                      try dsimp only at hSw
                      go_simp
                    try simp only [Act.put, List.setIfInBounds_toArray, List.set_cons_zero, List.set_cons_succ]
                    refine wpAnyH_take (i := 6) (oi := { dst := some 69, op := Op.load 48 (Operand.tmp 68), type := 48, pos := _, after := _, guard := none }) (v := .agg #[.slice sa (tAt l' i).2.r.length sc, .int .i64 (tAt l' i).2.q, .int .i64 (tAt l' i).2.d]) rfl (by kernel_rfl) (by kernel_rfl) (by kernel_rfl) (fun _ _ _ h => h) (Or.inl ⟨by rfl, ?_⟩) (by assumption) ?_
                    · intro wX hSw
                      try dsimp only at hSw
                      go_simp
                    try simp only [Act.put, List.setIfInBounds_toArray, List.set_cons_zero, List.set_cons_succ]
                    refine wpAnyH_take (i := 7) (oi := { dst := some 70, op := Op.load 50 (Operand.tmp 12), type := 50, pos := _, after := _, guard := none }) (v := .agg #[.int .i64 (evAt c.td 0).t, .int .i64 (evAt c.td 0).s, .int .i64 (evAt c.td 0).q, .int .i64 (i : Int), .int .i64 (evAt c.td 0).k, .int .i64 (evAt c.td 0).v, .int .i64 (evAt c.td 0).g]) rfl (by kernel_rfl) (by kernel_rfl) (by kernel_rfl) (fun _ _ _ h => h) (Or.inl ⟨by rfl, ?_⟩) (by assumption) ?_
                    · intro wX hSw
                      try dsimp only at hSw
                      go_simp
                    try simp only [Act.put, List.setIfInBounds_toArray, List.set_cons_zero, List.set_cons_succ]
                    refine wpAnyH_ready (rs := [8, 9]) (by kernel_rfl) (by simp) ?_
                    refine AllReadyH.cons (o := { dst := some 71, op := Op.call { callee := Callee.value (Operand.func 144), args := #[Operand.tmp 63, Operand.tmp 64, Operand.tmp 69, Operand.tmp 70], argTypes := #[36, 22, 48, 50] }, type := 54, pos := _, after := _, guard := none }) rfl (fun K hK => ?_) (AllReadyH.cons (o := { dst := some 13, op := Op.alloc 54, type := 0, pos := _, after := _, guard := none }) rfl (fun K hK => ?_) AllReadyH.nil)
                    · go_simp
                      have hcW : W3.heap.size ≤ W3.drew.heap.size := ((Below.refl W3.heap.size W3).drew).size
                      refine (HC.out _ (Below.refl W3.heap.size W3).drew).mono ?_
                      rintro r we ⟨ue, rfl, hb, hue⟩
                      obtain ⟨fa, fc, ga, gc, ha, hc, rfl⟩ := hue.form
                      have hk0 : Below W3.heap.size W3 we := ((Below.refl W3.heap.size W3).drew).trans (hb.mono ((Below.refl W3.heap.size W3).drew).size)
                      have HU : Hid (EfF (fun k => W3.drew.heap.size ≤ k ∧ k < we.heap.size) we (.agg #[.slice fa EF.st.r.length fc, .int .i64 EF.st.q, .int .i64 EF.st.d, .slice ga EF.s.length gc, .slice ha EF.x.length hc, .int .i64 EF.k]) EF) := hue
                      clear hb
                      try go_simp
                      refine hK.out _ _ (HK.out _ hk0) (fun hHeld => ?_)
                      clear hK K
                      try simp only [Act.put, List.setIfInBounds_toArray, List.set_cons_zero, List.set_cons_succ]
                      refine wpAnyH_ready (rs := [9]) (by kernel_rfl) (by simp) ?_
                      refine AllReadyH.cons (o := { dst := some 13, op := Op.alloc 54, type := 0, pos := _, after := _, guard := none }) rfl (fun K hK => ?_) AllReadyH.nil
                      go_simp
                      refine hK.out _ _ (HK.out _ ((hk0).alloc (hk0).size (.cells #[.slice none 0 0, .int .i64 0, .int .i64 0, .slice none 0 0, .slice none 0 0, .int .i64 0] 54))) (fun hHeld => ?_)
                      clear hK K
                      try simp only [Act.put, List.setIfInBounds_toArray, List.set_cons_zero, List.set_cons_succ]
                      refine wpAnyH_ready (rs := [10]) (by kernel_rfl) (by simp) ?_
                      refine AllReadyH.cons (o := { dst := none, op := Op.store 54 (Operand.tmp 13) (Operand.tmp 71), type := 0, pos := _, after := _, guard := none }) rfl (fun K hK => ?_) AllReadyH.nil
                      go_simp
                      refine hK.out _ _ (HK.out _ (hk0.alloc hk0.size (.cells #[.slice fa EF.st.r.length fc, .int .i64 EF.st.q, .int .i64 EF.st.d, .slice ga EF.s.length gc, .slice ha EF.x.length hc, .int .i64 EF.k] 54))) (fun hHeld => ?_)
                      clear hK K
                      try simp only [Act.put, List.setIfInBounds_toArray, List.set_cons_zero, List.set_cons_succ]
                      refine wpAnyH_done (by kernel_rfl) ?_ _
                      go_wp2
                      go_meet
                      case rel =>
                        exact ⟨_, fa, fc, ga, gc, ha, hc, rfl, (hk0.alloc hk0.size (.cells #[.slice fa EF.st.r.length fc, .int .i64 EF.st.q, .int .i64 EF.st.d, .slice ga EF.s.length gc, .slice ha EF.x.length hc, .int .i64 EF.k] 54)), ⟨hk0.size, (Bk.new we 54 #[.slice fa EF.st.r.length fc, .int .i64 EF.st.q, .int .i64 EF.st.d, .slice ga EF.s.length gc, .slice ha EF.x.length hc, .int .i64 EF.k]).lt⟩, Bk.new we 54 #[.slice fa EF.st.r.length fc, .int .i64 EF.st.q, .int .i64 EF.st.d, .slice ga EF.s.length gc, .slice ha EF.x.length hc, .int .i64 EF.k], (HU.out.below ((Below.refl _ we).alloc (Nat.le_refl _) _)).mono (fun k e => ⟨⟨by omega, by simp; omega⟩, by omega⟩)⟩
                    · go_simp
                      refine hK.out _ _ (HK.out _ (((Below.refl W3.heap.size W3).drew).alloc ((Below.refl W3.heap.size W3).drew).size (.cells #[.slice none 0 0, .int .i64 0, .int .i64 0, .slice none 0 0, .slice none 0 0, .int .i64 0] 54))) (fun hHeld => ?_)
                      clear hK K
                      try simp only [Act.put, List.setIfInBounds_toArray, List.set_cons_zero, List.set_cons_succ]
                      refine wpAnyH_ready (rs := [8]) (by kernel_rfl) (by simp) ?_
                      refine AllReadyH.cons (o := { dst := some 71, op := Op.call { callee := Callee.value (Operand.func 144), args := #[Operand.tmp 63, Operand.tmp 64, Operand.tmp 69, Operand.tmp 70], argTypes := #[36, 22, 48, 50] }, type := 54, pos := _, after := _, guard := none }) rfl (fun K hK => ?_) AllReadyH.nil
                      go_simp
                      have hcW : W3.heap.size ≤ (W3.drew.alloc (.cells #[.slice none 0 0, .int .i64 0, .int .i64 0, .slice none 0 0, .slice none 0 0, .int .i64 0] 54)).heap.size := ((((Below.refl W3.heap.size W3).drew).alloc ((Below.refl W3.heap.size W3).drew).size (.cells #[.slice none 0 0, .int .i64 0, .int .i64 0, .slice none 0 0, .slice none 0 0, .int .i64 0] 54))).size
                      have hPW : W3.heap.size < (W3.drew.alloc (.cells #[.slice none 0 0, .int .i64 0, .int .i64 0, .slice none 0 0, .slice none 0 0, .int .i64 0] 54)).heap.size := ((Bk.new W3.drew 54 #[.slice none 0 0, .int .i64 0, .int .i64 0, .slice none 0 0, .slice none 0 0, .int .i64 0] : Bk (W3.drew.alloc (.cells #[.slice none 0 0, .int .i64 0, .int .i64 0, .slice none 0 0, .slice none 0 0, .int .i64 0] 54)) W3.heap.size 54 #[.slice none 0 0, .int .i64 0, .int .i64 0, .slice none 0 0, .slice none 0 0, .int .i64 0])).lt
                      refine (HC.out _ (((Below.refl W3.heap.size W3).drew).alloc ((Below.refl W3.heap.size W3).drew).size (.cells #[.slice none 0 0, .int .i64 0, .int .i64 0, .slice none 0 0, .slice none 0 0, .int .i64 0] 54))).mono ?_
                      rintro r we ⟨ue, rfl, hb, hue⟩
                      obtain ⟨fa, fc, ga, gc, ha, hc, rfl⟩ := hue.form
                      have hk0 : Below W3.heap.size W3 we := ((((Below.refl W3.heap.size W3).drew).alloc ((Below.refl W3.heap.size W3).drew).size (.cells #[.slice none 0 0, .int .i64 0, .int .i64 0, .slice none 0 0, .slice none 0 0, .int .i64 0] 54))).trans (hb.mono ((((Below.refl W3.heap.size W3).drew).alloc ((Below.refl W3.heap.size W3).drew).size (.cells #[.slice none 0 0, .int .i64 0, .int .i64 0, .slice none 0 0, .slice none 0 0, .int .i64 0] 54))).size)
                      have hz0 : Bk we W3.heap.size 54 #[.slice none 0 0, .int .i64 0, .int .i64 0, .slice none 0 0, .slice none 0 0, .int .i64 0] := ((Bk.new W3.drew 54 #[.slice none 0 0, .int .i64 0, .int .i64 0, .slice none 0 0, .slice none 0 0, .int .i64 0] : Bk (W3.drew.alloc (.cells #[.slice none 0 0, .int .i64 0, .int .i64 0, .slice none 0 0, .slice none 0 0, .int .i64 0] 54)) W3.heap.size 54 #[.slice none 0 0, .int .i64 0, .int .i64 0, .slice none 0 0, .slice none 0 0, .int .i64 0])).below hb
                      have HU : Hid (EfF (fun k => (W3.drew.alloc (.cells #[.slice none 0 0, .int .i64 0, .int .i64 0, .slice none 0 0, .slice none 0 0, .int .i64 0] 54)).heap.size ≤ k ∧ k < we.heap.size) we (.agg #[.slice fa EF.st.r.length fc, .int .i64 EF.st.q, .int .i64 EF.st.d, .slice ga EF.s.length gc, .slice ha EF.x.length hc, .int .i64 EF.k]) EF) := hue
                      clear hb
                      try go_simp
                      refine hK.out _ _ (HK.out _ hk0) (fun hHeld => ?_)
                      clear hK K
                      try simp only [Act.put, List.setIfInBounds_toArray, List.set_cons_zero, List.set_cons_succ]
                      have zc0 := hz0.cell (i := 0) rfl
                      have zc1 := hz0.cell (i := 1) rfl
                      have zc2 := hz0.cell (i := 2) rfl
                      have zc3 := hz0.cell (i := 3) rfl
                      have zc4 := hz0.cell (i := 4) rfl
                      have zc5 := hz0.cell (i := 5) rfl
                      have zf := hz0.free
                      have hPlo : W3.heap.size ≤ W3.heap.size := ((Below.refl W3.heap.size W3)).size
                      have hpt := put6_turns we (W3.heap.size) (.slice fa EF.st.r.length fc) (.int .i64 EF.st.q) (.int .i64 EF.st.d) (.slice ga EF.s.length gc) (.slice ha EF.x.length hc) (.int .i64 EF.k)
                      have T3 : Below W3.heap.size W3 (put6 we (W3.heap.size) (.slice fa EF.st.r.length fc) (.int .i64 EF.st.q) (.int .i64 EF.st.d) (.slice ga EF.s.length gc) (.slice ha EF.x.length hc) (.int .i64 EF.k)) := hk0.trans (hpt.to_below (fun k e => by rw [show k = W3.heap.size from e]; exact hPlo) hk0.size)
                      refine wpAnyH_ready (rs := [10]) (by kernel_rfl) (by simp) ?_
                      refine AllReadyH.cons (o := { dst := none, op := Op.store 54 (Operand.tmp 13) (Operand.tmp 71), type := 0, pos := _, after := _, guard := none }) rfl (fun K hK => ?_) AllReadyH.nil
                      go_simp
                      refine hK.out _ _ (HK.out _ T3) (fun hHeld => ?_)
                      clear hK K
                      try simp only [Act.put, List.setIfInBounds_toArray, List.set_cons_zero, List.set_cons_succ]
                      refine wpAnyH_done (by kernel_rfl) ?_ _
                      go_wp2
                      go_meet
                      case rel =>
                        exact ⟨_, fa, fc, ga, gc, ha, hc, rfl, T3, ⟨hPlo, (hz0.put6 (.slice fa EF.st.r.length fc) (.int .i64 EF.st.q) (.int .i64 EF.st.d) (.slice ga EF.s.length gc) (.slice ha EF.x.length hc) (.int .i64 EF.k)).lt⟩, hz0.put6 (.slice fa EF.st.r.length fc) (.int .i64 EF.st.q) (.int .i64 EF.st.d) (.slice ga EF.s.length gc) (.slice ha EF.x.length hc) (.int .i64 EF.k), (HU.out.turns hpt (fun k e1 e2 => by have e3 : k = W3.heap.size := e2; omega)).mono (fun k e => ⟨⟨by omega, Nat.lt_of_lt_of_le e.2 hpt.size⟩, by omega⟩)⟩
                  case rest =>
                    rename World => W4
                    obtain ⟨PP, fa, fc, ga, gc, ha, hc, rfl, hb, ⟨hPl, hPh⟩, hBk, hAn⟩ := hcut
                    have HB4 : Hid (Below W3.heap.size W3 W4) := hb
                    have HX4 : Hid (Bk W4 PP 54 #[.slice fa EF.st.r.length fc, .int .i64 EF.st.q, .int .i64 EF.st.d, .slice ga EF.s.length gc, .slice ha EF.x.length hc, .int .i64 EF.k]) := hBk
                    have HA4 : Hid (EfF (fun k => (W3.heap.size ≤ k ∧ k < W4.heap.size) ∧ k ≠ PP) W4 (.agg #[.slice fa EF.st.r.length fc, .int .i64 EF.st.q, .int .i64 EF.st.d, .slice ga EF.s.length gc, .slice ha EF.x.length hc, .int .i64 EF.k]) EF) := hAn
                    have HS4 : Hid (SCo W0.heap.size (w.heap.size + 1 + 1) W4 (.slice (some ⟨g, 0, none⟩) c.td.length cap) (.slice (some ⟨G, 0, none⟩) l'.length gc9) l' (.slice ea c.ev.length ec) (.slice xa c.em.length xc) c) := HS3.out.below hb
                    have HP4 : Hid (Bk W4 w.heap.size 36 #[.int .i64 m.n, .int .i64 m.s, .slice ai m.i.length ci, .slice ah m.h.length ch, .slice ae m.e.length ce, .int .i64 m.z]) := HP3.out.below hb
                    have HE4 : Hid (Bk W4 wr.heap.size 50 #[.int .i64 (evAt c.td 0).t, .int .i64 (evAt c.td 0).s, .int .i64 (evAt c.td 0).q, .int .i64 (i : Int), .int .i64 (evAt c.td 0).k, .int .i64 (evAt c.td 0).v, .int .i64 (evAt c.td 0).g]) := HE3'.out.below hb
                    have HR4 : Hid (Bk W4 (w.heap.size + 1) 31 #[.slice none 0 0, .slice none 0 0, .int .i64 0, .bool false]) := (HRr.out.below HB3.out).below hb
                    have HBr4 : Hid (Turns (fun k => w.heap.size ≤ k) w W4) := HBr.out.trans ((Turns.of_below HB3.out).trans (Turns.of_below hb))
                    have hs4 : W3.heap.size ≤ W4.heap.size := hb.size
                    have x5 := HX4.out.cell (i := 5) rfl
                    clear hb hBk hAn HK HC s0 s1 s2 e0 e1 e2 e3 e4 e5 e6 h0 h1 h2 h3 k0 k1 k2 k3 r0 r1 r2 r3
                    by_cases hk : 0 ≤ EF.k
                    · have hdk' : decide ((0 : Int) ≤ EF.k) = true := by simpa using hk
                      have HE : Hid (seqR m [c0, c1, c2, c3] z = ⟨c.ev, c.em, EF.k, false⟩) := by
                        have h := seq_asks HSQ.out.1 ⟨hl0, hz⟩ hlt (by rw [HEF.out]; exact hk) HSQ.out.2
                        rw [HEF.out] at h
                        exact h
                      have h0 := HS4.out.hb.cell (i := 0) rfl
                      have h1 := HS4.out.hb.cell (i := 1) rfl
                      have h2 := HS4.out.hb.cell (i := 2) rfl
                      have h3 := HS4.out.hb.cell (i := 3) rfl
                      have f2 := HS4.out.hb.free 2
                      have hHs := HS4.out.hb.lt
                      have k0 := HR4.out.cell (i := 0) rfl
                      have k1 := HR4.out.cell (i := 1) rfl
                      have k2 := HR4.out.cell (i := 2) rfl
                      have k3 := HR4.out.cell (i := 3) rfl
                      have r0 := HR4.out.free 0
                      have r1 := HR4.out.free 1
                      have r2 := HR4.out.free 2
                      have r3 := HR4.out.free 3
                      have hRw4 : w.heap.size + 1 < W4.heap.size := HR4.out.lt
                      go_wp2
                      have HRx : Hid (Bk (W4.setCell ⟨w.heap.size + 1 + 1, 2, none⟩ (.int .i64 EF.k)) (w.heap.size + 1) 31 #[.slice none 0 0, .slice none 0 0, .int .i64 0, .bool false]) := HR4.out.other 2 _ (by omega)
                      have HTh : Turns (fun k => k = w.heap.size + 1 + 1 ∨ k = w.heap.size + 1) W4 (W4.setCell ⟨w.heap.size + 1 + 1, 2, none⟩ (.int .i64 EF.k)) := (put1_turns W4 (w.heap.size + 1 + 1) 2 (.int .i64 EF.k)).mono fun k e => .inl e
                      have hW := HRx.out.put4h (.slice ea c.ev.length ec) (.slice xa c.em.length xc) (.int .i64 EF.k) (.bool false)
                      have t0 := hW.cell (i := 0) rfl
                      have t1 := hW.cell (i := 1) rfl
                      have t2 := hW.cell (i := 2) rfl
                      have t3 := hW.cell (i := 3) rfl
                      have HTe := put4h_turns (W4.setCell ⟨w.heap.size + 1 + 1, 2, none⟩ (.int .i64 EF.k)) (w.heap.size + 1) (.slice ea c.ev.length ec) (.slice xa c.em.length xc) (.int .i64 EF.k) (.bool false)
                      refine bodyPost_ret (v := .agg #[.slice ea c.ev.length ec, .slice xa c.em.length xc, .int .i64 EF.k, .bool false]) (by simp [results, Tryz.results63, go_sem, t0, t1, t2, t3]) rfl ⟨_, rfl, ?_, ?_⟩
                      · exact (HBr4.out.trans ((HTh.trans (HTe.mono fun k e => .inr e)).mono fun k e => by omega)).to_below (fun k e => e) (Nat.le_refl _)
                      · rw [HE.out]
                        exact (HS4.out.done (HTh.trans (HTe.mono fun k e => .inr e)) (fun k e => by omega) EF.k false).mono (fun k hk => ⟨by omega, hk.2⟩)
                    · have hdk' : decide ((0 : Int) ≤ EF.k) = false := by simpa using hk
                      have HG : Hid (Goes m [c0, c1, c2, c3] c) := (HI.out.goes hl0 HOK.out HVC.out hlt).resolve_left (fun x => hk (by rw [← HEF.out]; exact x.1))
                      have HEv4 : Hid (EvsAt W4 g 0 c.td) := (HEv.out.below HB3.out HEv.out.1).below HB4.out (Nat.lt_of_lt_of_le HEv.out.1 HB3.out.size)
                      obtain ⟨i1, hi1', hy0, hy1, hy2⟩ := info_parts info25
                      have h1l : (1 : Int) ≤ (c.td.length : Int) := by omega
                      have h1c : (1 : Int) ≤ (cap : Int) := by omega
                      have hlc : (c.td.length : Int) ≤ (cap : Int) := by omega
                      have htl' := HI.out.tl
                      have hR5 : Hid ((W4.alloc (.cells #[] 50)).ownsRow W4.heap.size 50 7 (.slice (some ⟨W4.heap.size, 0, none⟩) 0 0) 0 []) := row_empty W4
                      have hB5 : Hid (Below W4.heap.size W4 (W4.alloc (.cells #[] 50))) := (Below.refl _ W4).alloc (Nat.le_refl _) _
                      by_cases hc1 : cap = 1
                      · have h1t : c.td.length = 1 := by omega
                        have HD0 : Hid (c.td.drop 1 = []) := by
                          show c.td.drop 1 = []
                          exact List.drop_eq_nil_of_le (by omega)
                        go_wp2_with (at_builtin; go_loud (refine wpList_append_own2 _ rfl _ _ 28 rfl W4.heap.size 50 i1 _ 7 56 Tryz.underlying28 hi1' hy0 hy1 hy2 rfl (by decide) (.slice (some ⟨W4.heap.size, 0, none⟩) 0 0) 0 [] rfl hR5.out ⟨g, 0, none⟩ 0 0 [] rfl (by simp) (fun j u h => by simp at h) (fun u h => by cases h) (by unfold maxLen; omega) (by omega) hB5.out.size ?_; intro v5 w5 hr5 hg5 hn5; have hb5 : Below W4.heap.size W4 w5 := hB5.out.grown hg5 hB5.out.size (fun r e => row_ge hR5.out e); have HB5 : Hid (Below W4.heap.size W4 w5) := hb5; have HO5 : Hid (w5.ownsRow W4.heap.size 50 7 v5 (0 + 0) ([] ++ [])) := hr5; have s3 := (HE4.out.below hb5).cell (i := 3) rfl; have x0 := (HX4.out.below hb5).cell (i := 0) rfl; have x1 := (HX4.out.below hb5).cell (i := 1) rfl; have x2 := (HX4.out.below hb5).cell (i := 2) rfl; obtain ⟨s0, s1, s2⟩ := (HS4.out.ss.below hb5).cells hil; rw [HSv.out] at s0; have f0 := (HS4.out.ss.below hb5).frozen (i * 3); have f1 := (HS4.out.ss.below hb5).frozen (i * 3 + 1); have f2 := (HS4.out.ss.below hb5).frozen (i * 3 + 2); have hs5 : W4.heap.size ≤ w5.heap.size := hb5.size; obtain ⟨W6, hW6⟩ : ∃ W6, ((w5.setCell ⟨G, i * 3, none⟩ (.slice fa EF.st.r.length fc)).setCell ⟨G, i * 3 + 1, none⟩ (.int .i64 EF.st.q)).setCell ⟨G, i * 3 + 2, none⟩ (.int .i64 EF.st.d) = W6 := ⟨_, rfl⟩; clear hr5 hg5 hn5 hb5))
                        clear h1t hc1
                        have HW6 : Hid (((w5.setCell ⟨G, i * 3, none⟩ (.slice fa EF.st.r.length fc)).setCell ⟨G, i * 3 + 1, none⟩ (.int .i64 EF.st.q)).setCell ⟨G, i * 3 + 2, none⟩ (.int .i64 EF.st.d) = W6) := hW6
                        clear hW6 s0 s1 s2 f0 f1 f2 s3 x0 x1 x2 x5
                        have HT5 : Hid (OwnR W4.heap.size w5 v5 (c.td.drop 1)) := (by rw [HD0.out]; exact HO5.out)
                        clear HO5
                        obtain ⟨A1, A2, A3, q1, q2, q3, hq, hr1, hr2, hr3, hd1, hd2, hd3⟩ := HA4.out
                        cases hq
                        have hBW : W0.heap.size ≤ W4.heap.size := by have := hsz; have := hsq; have := hsr; omega
                        have hGW3 : G < W3.heap.size := hG3
                        have HSt : Hid (SCo W0.heap.size (w.heap.size + 1 + 1) w5 v5 (.slice (some ⟨G, 0, none⟩) l'.length gc9) l' (.slice ea c.ev.length ec) (.slice xa c.em.length xc) ⟨c.td.drop 1, c.st, c.ev, c.em⟩) := HS4.out.todo HB5.out HT5.out hBW
                        have hes3 : ∀ k, Value.ownBlock (.slice ea c.ev.length ec) = some k → k < W3.heap.size := fun k e => (World.ownsRow.lt HS3.out.es k e).2
                        have hxs3 : ∀ k, Value.ownBlock (.slice xa c.em.length xc) = some k → k < W3.heap.size := fun k e => (World.ownsRow.lt HS3.out.xs k e).2
                        have HR5 : RowF (AQ W0.heap.size w5 (.slice (some ⟨G, 0, none⟩) l'.length gc9) (.slice ea c.ev.length ec) (.slice xa c.em.length xc)) w5 (.slice fa EF.st.r.length fc) EF.st.r.length 1 (intCells EF.st.r) := (hr1.below HB5.out).mono fun k hk => by
                          have h9 := (hd1 k hk).1.1
                          refine ⟨by omega, by omega, fun e => ?_, fun e => ?_, fun e => ?_⟩
                          · have e9 : G = k := Option.some.inj e
                            omega
                          · have := hes3 k e; omega
                          · have := hxs3 k e; omega
                        have HS6 : Hid (SCo W0.heap.size (w.heap.size + 1 + 1) W6 v5 (.slice (some ⟨G, 0, none⟩) l'.length gc9) (l'.set i (.slice fa EF.st.r.length fc, EF.st)) (.slice ea c.ev.length ec) (.slice xa c.em.length xc) ⟨c.td.drop 1, c.st.set i EF.st, c.ev, c.em⟩) := HW6.out ▸ HSt.out.state hil (.slice fa EF.st.r.length fc, EF.st) HR5
                        have HT6 : Hid (Turns (fun k => k = G) w5 W6) := HW6.out ▸ put3o_turns w5 G (i * 3) (.slice fa EF.st.r.length fc) (.int .i64 EF.st.q) (.int .i64 EF.st.d)
                        have hs6 : w5.heap.size ≤ W6.heap.size := HT6.out.size
                        have HO6 : Hid (OwnR W4.heap.size W6 v5 (c.td.drop 1)) := owns_turns HT5.out HT6.out (fun k e e' => by have := (World.ownsRow.lt HT5.out k e).1; omega)
                        have HSe6 : Hid (IsEvs W6 (.slice ga EF.s.length gc) EF.s) := RowF.isEvs ((hr2.below HB5.out).turns HT6.out (fun k hk e => by have := (hd2 k hk).1.1; omega))
                        have HEm6 : Hid (RowF (fun k => W3.heap.size ≤ k) W6 (.slice ha EF.x.length hc) EF.x.length 3 (cellsX EF.x)) := ((hr3.below HB5.out).turns HT6.out (fun k hk e => by have := (hd3 k hk).1; omega)).mono (fun k hk => (hd3 k hk).1.1)
                        have HP6 : Hid (Bk W6 w.heap.size 36 #[.int .i64 m.n, .int .i64 m.s, .slice ai m.i.length ci, .slice ah m.h.length ch, .slice ae m.e.length ce, .int .i64 m.z]) := (HP4.out.below HB5.out).turns HT6.out (by omega)
                        have HE6 : Hid (Bk W6 wr.heap.size 50 #[.int .i64 (evAt c.td 0).t, .int .i64 (evAt c.td 0).s, .int .i64 (evAt c.td 0).q, .int .i64 (i : Int), .int .i64 (evAt c.td 0).k, .int .i64 (evAt c.td 0).v, .int .i64 (evAt c.td 0).g]) := (HE4.out.below HB5.out).turns HT6.out (by omega)
                        have HX6 : Hid (Bk W6 PP 54 #[.slice fa EF.st.r.length fc, .int .i64 EF.st.q, .int .i64 EF.st.d, .slice ga EF.s.length gc, .slice ha EF.x.length hc, .int .i64 EF.k]) := (HX4.out.below HB5.out).turns HT6.out (by omega)
                        have HR6 : Hid (Bk W6 (w.heap.size + 1) 31 #[.slice none 0 0, .slice none 0 0, .int .i64 0, .bool false]) := (HR4.out.below HB5.out).turns HT6.out (by omega)
                        have HTw : Hid (Turns (fun k => k = (w.heap.size + 1 + 1) ∨ W0.heap.size ≤ k) W2 W6) := HT.out.trans ((Turns.of_below HB3.out).trans ((Turns.of_below HB4.out).trans ((Turns.of_below HB5.out).trans (HT6.out.mono fun k e => by omega))))
                        have HEW : Hid (∀ k, Value.ownBlock (.slice ea c.ev.length ec) = some k → k < W3.heap.size) := hes3
                        have HML : Hid (evLen wr (w.heap.size + 1 + 1) = c.ev.length) := by
                          have h9 := HS.out.hb.cell (i := 0) rfl
                          show evLen wr (w.heap.size + 1 + 1) = _
                          unfold evLen
                          rw [h9]
                          rfl
                        have hsl8 : EF.s.length ≤ 8 := by have := HG.out.sl; rw [HEF.out] at this; exact this
                        have hxl8 : EF.x.length ≤ 8 := by have := HG.out.xl; rw [HEF.out] at this; exact this
                        have hel0 := HI.out.el
                        have hxl0 := HI.out.xl
                        clear hr1 hr2 hr3 hd1 hd2 hd3 hes3 hxs3 HR5 HSt HT5 HW6 HA4
                        obtain ⟨WR, rfl⟩ : ∃ WR, WR = wr := ⟨wr, rfl⟩
                        go_loopw [8, 14] (fun tv ji wl => ∃ (j : Nat) (v : Value), j ≤ EF.s.length ∧ v = tv ∧ ji = .int .i64 j ∧ OwnR W4.heap.size wl v (planO m.z (c.td.drop 1) (EF.s.take j)) ∧ Below W6.heap.size W6 wl) (fun _ ji _ => EF.s.length - (intOf ji).toNat)
                        case atStart => exact ⟨0, _, Nat.zero_le _, rfl, rfl, HO6.out, Below.refl _ _⟩
                        case round =>
                          obtain ⟨j, tj, hj, rfl, rfl, hO, hb⟩ := hrel
                          have HO : Hid (OwnR W4.heap.size wr tj (planO m.z (c.td.drop 1) (EF.s.take j))) := hO
                          have HQ : Hid (Below W6.heap.size W6 wr) := hb
                          have hsl : W6.heap.size ≤ wr.heap.size := hb.size
                          have HXl : Hid (Bk wr PP 54 #[.slice fa EF.st.r.length fc, .int .i64 EF.st.q, .int .i64 EF.st.d, .slice ga EF.s.length gc, .slice ha EF.x.length hc, .int .i64 EF.k]) := HX6.out.below hb
                          have HPl : Hid (Bk wr w.heap.size 36 #[.int .i64 m.n, .int .i64 m.s, .slice ai m.i.length ci, .slice ah m.h.length ch, .slice ae m.e.length ce, .int .i64 m.z]) := HP6.out.below hb
                          have x3 := HXl.out.cell (i := 3) rfl
                          have hpl : (planO m.z (c.td.drop 1) (EF.s.take j)).length ≤ 1048576 := by
                            have h7 := planO_length m.z (EF.s.take j) (c.td.drop 1)
                            have h8 : (EF.s.take j).length ≤ 8 := by simp; omega
                            have h9 : (c.td.drop 1).length ≤ c.td.length := by simp
                            omega
                          clear hO hb
                          by_cases hjt : j < EF.s.length
                          · have hdj : decide ((j : Int) < (EF.s.length : Int)) = true := by simp; omega
                            have hji : (j : Int) < (EF.s.length : Int) := by omega
                            obtain ⟨sa', sc', hsq', _, _, hI0⟩ := HSe6.out
                            cases hsq'
                            obtain ⟨b, off, hga, hI9⟩ := hI0.resolve_left (by intro e; rw [e] at hjt; simp at hjt)
                            subst hga
                            have hIl := hI9.below HQ.out hI9.1
                            have hbl : b < wr.heap.size := Nat.lt_of_lt_of_le hI9.1 hsl
                            have HEl : Hid (Ev.In wr b (off + j * 7) (evAt EF.s j)) := hIl.2 j hjt
                            obtain ⟨e0, e1, e2, e3, e4, e5, e6⟩ := HEl.out.beyond hbl
                            have y3 : ∀ q : Beyond wr, q.w.cell? ⟨PP, 3, none⟩ = some (.slice (some ⟨b, off, none⟩) EF.s.length gc) := fun q => q.cell HXl.out.lt (HXl.out.cell (i := 3) rfl)
                            have y5 : ∀ q : Beyond wr, q.w.cell? ⟨w.heap.size, 5, none⟩ = some (.int .i64 m.z) := fun q => q.cell HPl.out.lt (HPl.out.cell (i := 5) rfl)
                            have hne : Nonempty (Beyond wr) := ⟨⟨wr, Below.refl _ _⟩⟩
                            clear hI0 hI9 hIl
                            by_cases hzt : (evAt EF.s j).t ≤ m.z
                            · have hdz : decide ((evAt EF.s j).t ≤ m.z) = true := by simpa using hzt
                              have HZT : Hid ((evAt EF.s j).t ≤ m.z) := hzt
                              clear hzt
                              go_wp2_with fail
                              refine wp_region_beyond (by kernel_rfl) (by kernel_rfl) ?_
                              repeat (go_big_quiet_step (fail))
                              refine wpQuiet_nil ?_
                              rintro w7 ⟨⟨_, hb7⟩, rfl⟩
                              have HB7 : Hid (Below wr.heap.size wr w7) := hb7
                              obtain ⟨g0, g1, g2, g3, g4, g5, g6⟩ := HEl.out.below hb7 hbl
                              have x3' := (HXl.out.below hb7).cell (i := 3) rfl
                              have HC2 : Hid (Calls Tryz.prog 142 #[tj, .agg #[.int .i64 (evAt EF.s j).t, .int .i64 (evAt EF.s j).s, .int .i64 (evAt EF.s j).q, .int .i64 (evAt EF.s j).d, .int .i64 (evAt EF.s j).k, .int .i64 (evAt EF.s j).v, .int .i64 (evAt EF.s j).g]] w7 fun r w' => ∃ y, r = .returned y ∧ OwnR w7.heap.size w' y (insO (planO m.z (c.td.drop 1) (EF.s.take j)) (evAt EF.s j)) ∧ Below w7.heap.size w7 w') := l3insert_own (evAt EF.s j) w7 hpl (HO.out.below hb7)
                              have hs7 : wr.heap.size ≤ w7.heap.size := hb7.size
                              clear hb7 e0 e1 e2 e3 e4 e5 e6 y3 y5 hne hdz x3
                              go_wp2_with (fail)
                              refine HC2.out.mono ?_
                              rintro r w8 ⟨y, rfl, ho, hb8⟩
                              have HO8 : Hid (OwnR W4.heap.size w8 y (planO m.z (c.td.drop 1) (EF.s.take (j + 1)))) := by
                                rw [take_snoc _ _ hjt, planO_snoc, if_pos HZT.out]
                                exact ho.mono (by omega)
                              have HB8 : Hid (Below W6.heap.size W6 w8) := (HQ.out.trans (HB7.out.mono hsl)).trans (hb8.mono (by omega))
                              clear ho hb8 HC2 g0 g1 g2 g3 g4 g5 g6 x3'
                              go_wp2
                              go_roundw
                              case rel => exact ⟨j + 1, y, by omega, rfl, by go_num, HO8.out, HB8.out⟩
                              case measure => simp [intOf]; omega
                            · have hdz : decide ((evAt EF.s j).t ≤ m.z) = false := by simpa using hzt
                              have HZT : Hid (¬ (evAt EF.s j).t ≤ m.z) := hzt
                              clear hzt
                              go_wp2_with fail
                              refine wp_region_beyond (by kernel_rfl) (by kernel_rfl) ?_
                              repeat (go_big_quiet_step (fail))
                              refine wpQuiet_nil ?_
                              rintro w7 ⟨⟨_, hb7⟩, rfl⟩
                              have HB7 : Hid (Below W6.heap.size W6 w7) := HQ.out.trans (hb7.mono hsl)
                              have HO7 : Hid (OwnR W4.heap.size w7 tj (planO m.z (c.td.drop 1) (EF.s.take (j + 1)))) := by
                                rw [take_snoc _ _ hjt, planO_snoc, if_neg (by have := HZT.out; omega)]
                                exact HO.out.below hb7
                              clear hb7 e0 e1 e2 e3 e4 e5 e6 y3 y5 hne hdz x3
                              go_wp2
                              go_roundw
                              case rel => exact ⟨j + 1, tj, by omega, rfl, by go_num, HO7.out, HB7.out⟩
                              case measure => simp [intOf]; omega
                          · have hdj : decide ((j : Int) < (EF.s.length : Int)) = false := by simp; omega
                            have HOl : Hid (OwnR W4.heap.size wr tj (planO m.z (c.td.drop 1) EF.s)) := by
                              have h9 := HO.out
                              rw [List.take_of_length_le (by omega)] at h9
                              exact h9
                            have HSl : Hid (SCo W0.heap.size (w.heap.size + 1 + 1) wr tj (.slice (some ⟨G, 0, none⟩) l'.length gc9) (l'.set i (.slice fa EF.st.r.length fc, EF.st)) (.slice ea c.ev.length ec) (.slice xa c.em.length xc) ⟨planO m.z (c.td.drop 1) EF.s, c.st.set i EF.st, c.ev, c.em⟩) := by
                              have h9 := HS6.out.below HQ.out
                              exact ⟨HOl.out.mono hBW, h9.ss, h9.sl, h9.hb, h9.es, h9.xs, fun k e e' => by have h7 := (World.ownsRow.lt HOl.out k e).1; have h8 := HEW.out k e'; omega, h9.lo⟩
                            have HEl := HE6.out.below HQ.out
                            have g0 := HEl.cell (i := 0) rfl
                            have g1 := HEl.cell (i := 1) rfl
                            have g2 := HEl.cell (i := 2) rfl
                            have g3 := HEl.cell (i := 3) rfl
                            have g4 := HEl.cell (i := 4) rfl
                            have g5 := HEl.cell (i := 5) rfl
                            have g6 := HEl.cell (i := 6) rfl
                            have h0 := HSl.out.hb.cell (i := 0) rfl
                            have HHl := HSl.out.hb.lt
                            have HEml : Hid (RowF (fun k => W3.heap.size ≤ k) wr (.slice ha EF.x.length hc) EF.x.length 3 (cellsX EF.x)) := HEm6.out.below HQ.out
                            have HA9 : Hid (SCo W0.heap.size (w.heap.size + 1 + 1) (wr.alloc (.cells #[.int .i64 (evAt c.td 0).t, .int .i64 (evAt c.td 0).s, .int .i64 (evAt c.td 0).q, .int .i64 (i : Int), .int .i64 (evAt c.td 0).k, .int .i64 (evAt c.td 0).v, .int .i64 (evAt c.td 0).g] 50)) tj (.slice (some ⟨G, 0, none⟩) l'.length gc9) (l'.set i (.slice fa EF.st.r.length fc, EF.st)) (.slice ea c.ev.length ec) (.slice xa c.em.length xc) ⟨planO m.z (c.td.drop 1) EF.s, c.st.set i EF.st, c.ev, c.em⟩) := HSl.out.below ((Below.refl _ wr).alloc (Nat.le_refl _) _)
                            have HNW : Hid (∀ j u, [.int .i64 (evAt c.td 0).t, .int .i64 (evAt c.td 0).s, .int .i64 (evAt c.td 0).q, .int .i64 (i : Int), .int .i64 (evAt c.td 0).k, .int .i64 (evAt c.td 0).v, .int .i64 (evAt c.td 0).g][j]? = some u → (wr.alloc (.cells #[.int .i64 (evAt c.td 0).t, .int .i64 (evAt c.td 0).s, .int .i64 (evAt c.td 0).q, .int .i64 (i : Int), .int .i64 (evAt c.td 0).k, .int .i64 (evAt c.td 0).v, .int .i64 (evAt c.td 0).g] 50)).cell? (Addr.add ⟨wr.heap.size, 0, none⟩ j) = some u) := new7 _ _ _ _ _ _ _ _ _
                            have hBl : W0.heap.size ≤ (wr.alloc (.cells #[.int .i64 (evAt c.td 0).t, .int .i64 (evAt c.td 0).s, .int .i64 (evAt c.td 0).q, .int .i64 (i : Int), .int .i64 (evAt c.td 0).k, .int .i64 (evAt c.td 0).v, .int .i64 (evAt c.td 0).g] 50)).heap.size := by simp; omega
                            have HCS : Hid ((evAt c.td 0).cs = [.int .i64 (evAt c.td 0).t, .int .i64 (evAt c.td 0).s, .int .i64 (evAt c.td 0).q, .int .i64 (i : Int), .int .i64 (evAt c.td 0).k, .int .i64 (evAt c.td 0).v, .int .i64 (evAt c.td 0).g]) := by
                              show (evAt c.td 0).cs = _
                              unfold Ev.cs
                              rw [HIi.out]
                            have HX9 : Hid (Bk (wr.alloc (.cells #[.int .i64 (evAt c.td 0).t, .int .i64 (evAt c.td 0).s, .int .i64 (evAt c.td 0).q, .int .i64 (i : Int), .int .i64 (evAt c.td 0).k, .int .i64 (evAt c.td 0).v, .int .i64 (evAt c.td 0).g] 50)) PP 54 #[.slice fa EF.st.r.length fc, .int .i64 EF.st.q, .int .i64 EF.st.d, .slice ga EF.s.length gc, .slice ha EF.x.length hc, .int .i64 EF.k]) := HXl.out.alloc _
                            have HTl : Hid (Turns (fun k => k = (w.heap.size + 1 + 1) ∨ W0.heap.size ≤ k) W2 (wr.alloc (.cells #[.int .i64 (evAt c.td 0).t, .int .i64 (evAt c.td 0).s, .int .i64 (evAt c.td 0).q, .int .i64 (i : Int), .int .i64 (evAt c.td 0).k, .int .i64 (evAt c.td 0).v, .int .i64 (evAt c.td 0).g] 50))) := (HTw.out.trans (Turns.of_below HQ.out)).alloc _
                            obtain ⟨i9, hi9, hy3, hy4, hy5⟩ := info_parts infoEmC
                            have hPB : W0.heap.size ≤ PP := by omega
                            clear HO HOl HEl
                            cases ha with
                            | none =>
                              have hx0 : EF.x = [] := by
                                obtain ⟨_, a', c', e', _, _, h9⟩ := HEml.out
                                cases e'
                                exact List.eq_nil_of_length_eq_zero (h9.resolve_right (by rintro ⟨_, e, _⟩; cases e))
                              have HX0 : Hid (EF.x = []) := hx0
                              have hx00 : EF.x.length = 0 := by rw [hx0]; rfl
                              have HX00 : Hid (EF.x.length = 0) := hx00
                              clear hx0 hx00
                              go_wp2_with (at_builtin; first | (refine wpList_append_own2 _ rfl _ _ 28 rfl W0.heap.size 50 i1 _ 7 56 Tryz.underlying28 hi1' hy0 hy1 hy2 rfl (by decide) (.slice ea c.ev.length ec) c.ev.length (cellsL c.ev) rfl HA9.out.es ⟨wr.heap.size, 0, none⟩ 1 1 [.int .i64 (evAt c.td 0).t, .int .i64 (evAt c.td 0).s, .int .i64 (evAt c.td 0).q, .int .i64 (i : Int), .int .i64 (evAt c.td 0).k, .int .i64 (evAt c.td 0).v, .int .i64 (evAt c.td 0).g] rfl rfl HNW.out one7 (by unfold maxLen; omega) (by omega) hBl ?_; intro v8 w8 hr8 hg8 hn8; obtain ⟨ea8, ec8, hv8⟩ := owns_form hr8; subst hv8; have hH8 : Bk w8 (w.heap.size + 1 + 1) 31 #[.slice ea c.ev.length ec, .slice xa c.em.length xc, .int .i64 (-1), .bool false] := HA9.out.hb.turns ((Turns.refl _ _).grown hg8 (fun k e => e)) (fun e => row_off HA9.out.hb HA9.out.es (by decide) _ e rfl); have z0 := hH8.cell (i := 0) rfl; have z0f := hH8.free 0; obtain ⟨X8, hX8⟩ : ∃ X8, w8.setCell ⟨(w.heap.size + 1 + 1), 0, none⟩ (.slice ea8 (c.ev.length + 1) ec8) = X8 := ⟨_, rfl⟩; have hS8 := HA9.out.event (e := evAt c.td 0) hg8 hn8 (by rw [HCS.out]; exact hr8); have HS8 : Hid (SCo W0.heap.size (w.heap.size + 1 + 1) X8 tj (.slice (some ⟨G, 0, none⟩) l'.length gc9) (l'.set i (.slice fa EF.st.r.length fc, EF.st)) (.slice ea8 (c.ev.length + 1) ec8) (.slice xa c.em.length xc) ⟨planO m.z (c.td.drop 1) EF.s, c.st.set i EF.st, c.ev ++ [evAt c.td 0], c.em⟩) := hX8 ▸ hS8; have hX98 : Bk w8 PP 54 #[.slice fa EF.st.r.length fc, .int .i64 EF.st.q, .int .i64 EF.st.d, .slice ga EF.s.length gc, .slice none EF.x.length hc, .int .i64 EF.k] := HX9.out.turns ((Turns.refl _ _).grown hg8 (fun k e => e)) (fun e => Bk.off HX9.out HA9.out.es (by decide) e.symm); have HX8 : Hid (Bk X8 PP 54 #[.slice fa EF.st.r.length fc, .int .i64 EF.st.q, .int .i64 EF.st.d, .slice ga EF.s.length gc, .slice none EF.x.length hc, .int .i64 EF.k]) := hX8 ▸ hX98.other 0 _ (by omega); have HT8 : Hid (Turns (fun k => k = (w.heap.size + 1 + 1) ∨ W0.heap.size ≤ k) W2 X8) := hX8 ▸ ((HTl.out.grown hg8 (fun k e => .inr (row_ge HA9.out.es e))).trans ((put1_turns _ _ 0 _).mono (fun k e => .inl e))); have z1 := HS8.out.hb.cell (i := 1) rfl; have z1f := HS8.out.hb.free 1; have x4 := HX8.out.cell (i := 4) rfl; clear hr8 hg8 hn8 hH8 hS8 hX98) | (refine wpList_append_zero rfl _ _ 29 rfl W0.heap.size 61 i9 3 Tryz.underlying29 hi9 (.slice xa c.em.length xc) c.em.length hc (cellsX c.em) rfl HS8.out.xs rfl HX00.out ?_; obtain ⟨X9, hX9⟩ : ∃ X9, X8.setCell ⟨(w.heap.size + 1 + 1), 1, none⟩ (.slice xa c.em.length xc) = X9 := ⟨_, rfl⟩; have hS9 := HS8.out.emits (x := EF.x) (grown_self _ _) (.inl rfl) (by rw [HX0.out]; simpa [cellsX] using HS8.out.xs); have HS9 : Hid (SCo W0.heap.size (w.heap.size + 1 + 1) X9 tj (.slice (some ⟨G, 0, none⟩) l'.length gc9) (l'.set i (.slice fa EF.st.r.length fc, EF.st)) (.slice ea8 (c.ev.length + 1) ec8) (.slice xa c.em.length xc) ⟨planO m.z (c.td.drop 1) EF.s, c.st.set i EF.st, c.ev ++ [evAt c.td 0], c.em ++ EF.x⟩) := hX9 ▸ hS9; have HT9 : Hid (Turns (fun k => k = (w.heap.size + 1 + 1) ∨ W0.heap.size ≤ k) W2 X9) := hX9 ▸ (HT8.out.trans ((put1_turns _ _ 1 _).mono (fun k e => .inl e))); clear hS9))
                              go_roundw
                              case rel =>
                                obtain ⟨f', hf', hR'⟩ := seq_go HSQ.out.1 ⟨hl0, hz⟩ hlt (by rw [HEF.out]; omega) HSQ.out.2
                                have hn' : nextC (·.drop 1) (planO m.z) m [c0, c1, c2, c3] c = ⟨planO m.z (c.td.drop 1) EF.s, c.st.set i EF.st, c.ev ++ [evAt c.td 0], c.em ++ EF.x⟩ := by
                                  unfold nextC
                                  rw [HEF.out, HIi.out]
                                  rfl
                                rw [hn'] at hf' hR'
                                refine ⟨⟨planO m.z (c.td.drop 1) EF.s, c.st.set i EF.st, c.ev ++ [evAt c.td 0], c.em ++ EF.x⟩, tj, l'.set i (.slice fa EF.st.r.length fc, EF.st), (.slice ea8 (c.ev.length + 1) ec8), (.slice xa c.em.length xc), f', rfl, ?_, ?_, hf', hR', HT9.out⟩
                                · exact HS9.out
                                · rw [← hn']
                                  exact HI.out.next hl0 HOK.out hlt HG.out
                              case measure =>
                                have h9 := HS9.out.hb.cell (i := 0) rfl
                                have h8 : evLen X9 (w.heap.size + 1 + 1) = c.ev.length + 1 := by
                                  unfold evLen
                                  rw [h9]
                                  rfl
                                rw [HML.out, h8]
                                omega
                            | some ad9 =>
                              have HW3H : Hid (∀ k, W3.heap.size ≤ k → k ≠ (w.heap.size + 1 + 1)) := fun k hk e => by omega
                              go_wp2_with (at_builtin; first | (refine wpList_append_own2 _ rfl _ _ 28 rfl W0.heap.size 50 i1 _ 7 56 Tryz.underlying28 hi1' hy0 hy1 hy2 rfl (by decide) (.slice ea c.ev.length ec) c.ev.length (cellsL c.ev) rfl HA9.out.es ⟨wr.heap.size, 0, none⟩ 1 1 [.int .i64 (evAt c.td 0).t, .int .i64 (evAt c.td 0).s, .int .i64 (evAt c.td 0).q, .int .i64 (i : Int), .int .i64 (evAt c.td 0).k, .int .i64 (evAt c.td 0).v, .int .i64 (evAt c.td 0).g] rfl rfl HNW.out one7 (by unfold maxLen; omega) (by omega) hBl ?_; intro v8 w8 hr8 hg8 hn8; obtain ⟨ea8, ec8, hv8⟩ := owns_form hr8; subst hv8; have hH8 : Bk w8 (w.heap.size + 1 + 1) 31 #[.slice ea c.ev.length ec, .slice xa c.em.length xc, .int .i64 (-1), .bool false] := HA9.out.hb.turns ((Turns.refl _ _).grown hg8 (fun k e => e)) (fun e => row_off HA9.out.hb HA9.out.es (by decide) _ e rfl); have z0 := hH8.cell (i := 0) rfl; have z0f := hH8.free 0; obtain ⟨X8, hX8⟩ : ∃ X8, w8.setCell ⟨(w.heap.size + 1 + 1), 0, none⟩ (.slice ea8 (c.ev.length + 1) ec8) = X8 := ⟨_, rfl⟩; have hS8 := HA9.out.event (e := evAt c.td 0) hg8 hn8 (by rw [HCS.out]; exact hr8); have HS8 : Hid (SCo W0.heap.size (w.heap.size + 1 + 1) X8 tj (.slice (some ⟨G, 0, none⟩) l'.length gc9) (l'.set i (.slice fa EF.st.r.length fc, EF.st)) (.slice ea8 (c.ev.length + 1) ec8) (.slice xa c.em.length xc) ⟨planO m.z (c.td.drop 1) EF.s, c.st.set i EF.st, c.ev ++ [evAt c.td 0], c.em⟩) := hX8 ▸ hS8; have hX98 : Bk w8 PP 54 #[.slice fa EF.st.r.length fc, .int .i64 EF.st.q, .int .i64 EF.st.d, .slice ga EF.s.length gc, .slice (some ad9) EF.x.length hc, .int .i64 EF.k] := HX9.out.turns ((Turns.refl _ _).grown hg8 (fun k e => e)) (fun e => Bk.off HX9.out HA9.out.es (by decide) e.symm); have HX8 : Hid (Bk X8 PP 54 #[.slice fa EF.st.r.length fc, .int .i64 EF.st.q, .int .i64 EF.st.d, .slice ga EF.s.length gc, .slice (some ad9) EF.x.length hc, .int .i64 EF.k]) := hX8 ▸ hX98.other 0 _ (by omega); have HT8 : Hid (Turns (fun k => k = (w.heap.size + 1 + 1) ∨ W0.heap.size ≤ k) W2 X8) := hX8 ▸ ((HTl.out.grown hg8 (fun k e => .inr (row_ge HA9.out.es e))).trans ((put1_turns _ _ 0 _).mono (fun k e => .inl e))); have z1 := HS8.out.hb.cell (i := 1) rfl; have z1f := HS8.out.hb.free 1; have x4 := HX8.out.cell (i := 4) rfl; have hTe : Turns (fun k => k = (w.heap.size + 1 + 1) ∨ Value.ownBlock (.slice ea c.ev.length ec) = some k) wr X8 := hX8 ▸ ((((Turns.refl _ wr).alloc _).grown hg8 (fun k e => .inr e)).trans ((put1_turns _ _ 0 _).mono (fun k e => .inl e))); have HCX8 : Hid (∀ j u, (cellsX EF.x)[j]? = some u → X8.cell? (ad9.add j) = some u) := RowF.cellsAt (HEml.out.turns hTe (fun k hk e => e.elim (HW3H.out k hk) (fun e => Nat.lt_irrefl _ (Nat.lt_of_lt_of_le (HEW.out k e) hk)))); clear hTe; have hB8 : W0.heap.size ≤ X8.heap.size := Nat.le_trans (World.ownsRow.lt HS8.out.ss.row G rfl).1 (Nat.le_of_lt (World.ownsRow.lt HS8.out.ss.row G rfl).2); clear hr8 hg8 hn8 hH8 hS8 hX98) | (refine wpList_append_own2 _ rfl _ _ 29 rfl W0.heap.size 61 i9 _ 3 24 Tryz.underlying29 hi9 hy3 hy4 hy5 rfl (by decide) (.slice xa c.em.length xc) c.em.length (cellsX c.em) rfl HS8.out.xs ad9 EF.x.length hc (cellsX EF.x) rfl (cellsX_length _) HCX8.out (cellsX_one _) (by unfold maxLen; omega) (by omega) hB8 ?_; intro v9 w9 hr9 hg9 hn9; obtain ⟨xa9, xc9, hv9⟩ := owns_form hr9; subst hv9; have hH9 : Bk w9 (w.heap.size + 1 + 1) 31 #[.slice ea8 (c.ev.length + 1) ec8, .slice xa c.em.length xc, .int .i64 (-1), .bool false] := HS8.out.hb.turns ((Turns.refl _ _).grown hg9 (fun k e => e)) (fun e => row_off HS8.out.hb HS8.out.xs (by decide) _ e rfl); have z2 := hH9.cell (i := 1) rfl; have z2f := hH9.free 1; obtain ⟨X9, hX9⟩ : ∃ X9, w9.setCell ⟨(w.heap.size + 1 + 1), 1, none⟩ (.slice xa9 (c.em.length + EF.x.length) xc9) = X9 := ⟨_, rfl⟩; have hS9 := HS8.out.emits (x := EF.x) hg9 hn9 hr9; have HS9 : Hid (SCo W0.heap.size (w.heap.size + 1 + 1) X9 tj (.slice (some ⟨G, 0, none⟩) l'.length gc9) (l'.set i (.slice fa EF.st.r.length fc, EF.st)) (.slice ea8 (c.ev.length + 1) ec8) (.slice xa9 (c.em.length + EF.x.length) xc9) ⟨planO m.z (c.td.drop 1) EF.s, c.st.set i EF.st, c.ev ++ [evAt c.td 0], c.em ++ EF.x⟩) := hX9 ▸ hS9; have HT9 : Hid (Turns (fun k => k = (w.heap.size + 1 + 1) ∨ W0.heap.size ≤ k) W2 X9) := hX9 ▸ ((HT8.out.grown hg9 (fun k e => .inr (row_ge HS8.out.xs e))).trans ((put1_turns _ _ 1 _).mono (fun k e => .inl e))); clear hr9 hg9 hn9 hH9 hS9))
                              go_roundw
                              case rel =>
                                obtain ⟨f', hf', hR'⟩ := seq_go HSQ.out.1 ⟨hl0, hz⟩ hlt (by rw [HEF.out]; omega) HSQ.out.2
                                have hn' : nextC (·.drop 1) (planO m.z) m [c0, c1, c2, c3] c = ⟨planO m.z (c.td.drop 1) EF.s, c.st.set i EF.st, c.ev ++ [evAt c.td 0], c.em ++ EF.x⟩ := by
                                  unfold nextC
                                  rw [HEF.out, HIi.out]
                                  rfl
                                rw [hn'] at hf' hR'
                                refine ⟨⟨planO m.z (c.td.drop 1) EF.s, c.st.set i EF.st, c.ev ++ [evAt c.td 0], c.em ++ EF.x⟩, tj, l'.set i (.slice fa EF.st.r.length fc, EF.st), (.slice ea8 (c.ev.length + 1) ec8), (.slice xa9 (c.em.length + EF.x.length) xc9), f', rfl, ?_, ?_, hf', hR', HT9.out⟩
                                · exact HS9.out
                                · rw [← hn']
                                  exact HI.out.next hl0 HOK.out hlt HG.out
                              case measure =>
                                have h9 := HS9.out.hb.cell (i := 0) rfl
                                have h8 : evLen X9 (w.heap.size + 1 + 1) = c.ev.length + 1 := by
                                  unfold evLen
                                  rw [h9]
                                  rfl
                                rw [HML.out, h8]
                                omega
                      · have HD1 : Hid ((c.td.drop 1).length = c.td.length - 1) := by show (c.td.drop 1).length = c.td.length - 1; simp
                        go_wp2_with (at_builtin; go_loud (refine wpList_append_own2 _ rfl _ _ 28 rfl W4.heap.size 50 i1 _ 7 56 Tryz.underlying28 hi1' hy0 hy1 hy2 rfl (by decide) (.slice (some ⟨W4.heap.size, 0, none⟩) 0 0) 0 [] rfl hR5.out ⟨g, 0 + 1 * 7, none⟩ (c.td.length - 1) (cap - 1) (cellsL (c.td.drop 1)) rfl (by rw [cellsL_length, List.length_drop]) ((HEv4.out.drop 1).below hB5.out HEv4.out.1).cells (cellsL_one _) (by unfold maxLen; omega) (by omega) hB5.out.size ?_; intro v5 w5 hr5 hg5 hn5; have hb5 : Below W4.heap.size W4 w5 := hB5.out.grown hg5 hB5.out.size (fun r e => row_ge hR5.out e); have HB5 : Hid (Below W4.heap.size W4 w5) := hb5; have HO5 : Hid (w5.ownsRow W4.heap.size 50 7 v5 (0 + (c.td.length - 1)) ([] ++ (cellsL (c.td.drop 1)))) := hr5; have s3 := (HE4.out.below hb5).cell (i := 3) rfl; have x0 := (HX4.out.below hb5).cell (i := 0) rfl; have x1 := (HX4.out.below hb5).cell (i := 1) rfl; have x2 := (HX4.out.below hb5).cell (i := 2) rfl; obtain ⟨s0, s1, s2⟩ := (HS4.out.ss.below hb5).cells hil; rw [HSv.out] at s0; have f0 := (HS4.out.ss.below hb5).frozen (i * 3); have f1 := (HS4.out.ss.below hb5).frozen (i * 3 + 1); have f2 := (HS4.out.ss.below hb5).frozen (i * 3 + 2); have hs5 : W4.heap.size ≤ w5.heap.size := hb5.size; obtain ⟨W6, hW6⟩ : ∃ W6, ((w5.setCell ⟨G, i * 3, none⟩ (.slice fa EF.st.r.length fc)).setCell ⟨G, i * 3 + 1, none⟩ (.int .i64 EF.st.q)).setCell ⟨G, i * 3 + 2, none⟩ (.int .i64 EF.st.d) = W6 := ⟨_, rfl⟩; clear hr5 hg5 hn5 hb5))
                        have HW6 : Hid (((w5.setCell ⟨G, i * 3, none⟩ (.slice fa EF.st.r.length fc)).setCell ⟨G, i * 3 + 1, none⟩ (.int .i64 EF.st.q)).setCell ⟨G, i * 3 + 2, none⟩ (.int .i64 EF.st.d) = W6) := hW6
                        clear hW6 s0 s1 s2 f0 f1 f2 s3 x0 x1 x2 x5
                        have HT5 : Hid (OwnR W4.heap.size w5 v5 (c.td.drop 1)) := (by have h9 := HO5.out; rw [List.nil_append, Nat.zero_add] at h9; unfold OwnR; rw [HD1.out]; exact h9)
                        clear HO5
                        obtain ⟨A1, A2, A3, q1, q2, q3, hq, hr1, hr2, hr3, hd1, hd2, hd3⟩ := HA4.out
                        cases hq
                        have hBW : W0.heap.size ≤ W4.heap.size := by have := hsz; have := hsq; have := hsr; omega
                        have hGW3 : G < W3.heap.size := hG3
                        have HSt : Hid (SCo W0.heap.size (w.heap.size + 1 + 1) w5 v5 (.slice (some ⟨G, 0, none⟩) l'.length gc9) l' (.slice ea c.ev.length ec) (.slice xa c.em.length xc) ⟨c.td.drop 1, c.st, c.ev, c.em⟩) := HS4.out.todo HB5.out HT5.out hBW
                        have hes3 : ∀ k, Value.ownBlock (.slice ea c.ev.length ec) = some k → k < W3.heap.size := fun k e => (World.ownsRow.lt HS3.out.es k e).2
                        have hxs3 : ∀ k, Value.ownBlock (.slice xa c.em.length xc) = some k → k < W3.heap.size := fun k e => (World.ownsRow.lt HS3.out.xs k e).2
                        have HR5 : RowF (AQ W0.heap.size w5 (.slice (some ⟨G, 0, none⟩) l'.length gc9) (.slice ea c.ev.length ec) (.slice xa c.em.length xc)) w5 (.slice fa EF.st.r.length fc) EF.st.r.length 1 (intCells EF.st.r) := (hr1.below HB5.out).mono fun k hk => by
                          have h9 := (hd1 k hk).1.1
                          refine ⟨by omega, by omega, fun e => ?_, fun e => ?_, fun e => ?_⟩
                          · have e9 : G = k := Option.some.inj e
                            omega
                          · have := hes3 k e; omega
                          · have := hxs3 k e; omega
                        have HS6 : Hid (SCo W0.heap.size (w.heap.size + 1 + 1) W6 v5 (.slice (some ⟨G, 0, none⟩) l'.length gc9) (l'.set i (.slice fa EF.st.r.length fc, EF.st)) (.slice ea c.ev.length ec) (.slice xa c.em.length xc) ⟨c.td.drop 1, c.st.set i EF.st, c.ev, c.em⟩) := HW6.out ▸ HSt.out.state hil (.slice fa EF.st.r.length fc, EF.st) HR5
                        have HT6 : Hid (Turns (fun k => k = G) w5 W6) := HW6.out ▸ put3o_turns w5 G (i * 3) (.slice fa EF.st.r.length fc) (.int .i64 EF.st.q) (.int .i64 EF.st.d)
                        have hs6 : w5.heap.size ≤ W6.heap.size := HT6.out.size
                        have HO6 : Hid (OwnR W4.heap.size W6 v5 (c.td.drop 1)) := owns_turns HT5.out HT6.out (fun k e e' => by have := (World.ownsRow.lt HT5.out k e).1; omega)
                        have HSe6 : Hid (IsEvs W6 (.slice ga EF.s.length gc) EF.s) := RowF.isEvs ((hr2.below HB5.out).turns HT6.out (fun k hk e => by have := (hd2 k hk).1.1; omega))
                        have HEm6 : Hid (RowF (fun k => W3.heap.size ≤ k) W6 (.slice ha EF.x.length hc) EF.x.length 3 (cellsX EF.x)) := ((hr3.below HB5.out).turns HT6.out (fun k hk e => by have := (hd3 k hk).1; omega)).mono (fun k hk => (hd3 k hk).1.1)
                        have HP6 : Hid (Bk W6 w.heap.size 36 #[.int .i64 m.n, .int .i64 m.s, .slice ai m.i.length ci, .slice ah m.h.length ch, .slice ae m.e.length ce, .int .i64 m.z]) := (HP4.out.below HB5.out).turns HT6.out (by omega)
                        have HE6 : Hid (Bk W6 wr.heap.size 50 #[.int .i64 (evAt c.td 0).t, .int .i64 (evAt c.td 0).s, .int .i64 (evAt c.td 0).q, .int .i64 (i : Int), .int .i64 (evAt c.td 0).k, .int .i64 (evAt c.td 0).v, .int .i64 (evAt c.td 0).g]) := (HE4.out.below HB5.out).turns HT6.out (by omega)
                        have HX6 : Hid (Bk W6 PP 54 #[.slice fa EF.st.r.length fc, .int .i64 EF.st.q, .int .i64 EF.st.d, .slice ga EF.s.length gc, .slice ha EF.x.length hc, .int .i64 EF.k]) := (HX4.out.below HB5.out).turns HT6.out (by omega)
                        have HR6 : Hid (Bk W6 (w.heap.size + 1) 31 #[.slice none 0 0, .slice none 0 0, .int .i64 0, .bool false]) := (HR4.out.below HB5.out).turns HT6.out (by omega)
                        have HTw : Hid (Turns (fun k => k = (w.heap.size + 1 + 1) ∨ W0.heap.size ≤ k) W2 W6) := HT.out.trans ((Turns.of_below HB3.out).trans ((Turns.of_below HB4.out).trans ((Turns.of_below HB5.out).trans (HT6.out.mono fun k e => by omega))))
                        have HEW : Hid (∀ k, Value.ownBlock (.slice ea c.ev.length ec) = some k → k < W3.heap.size) := hes3
                        have HML : Hid (evLen wr (w.heap.size + 1 + 1) = c.ev.length) := by
                          have h9 := HS.out.hb.cell (i := 0) rfl
                          show evLen wr (w.heap.size + 1 + 1) = _
                          unfold evLen
                          rw [h9]
                          rfl
                        have hsl8 : EF.s.length ≤ 8 := by have := HG.out.sl; rw [HEF.out] at this; exact this
                        have hxl8 : EF.x.length ≤ 8 := by have := HG.out.xl; rw [HEF.out] at this; exact this
                        have hel0 := HI.out.el
                        have hxl0 := HI.out.xl
                        clear hr1 hr2 hr3 hd1 hd2 hd3 hes3 hxs3 HR5 HSt HT5 HW6 HA4
                        obtain ⟨WR, rfl⟩ : ∃ WR, WR = wr := ⟨wr, rfl⟩
                        go_loopw [8, 14] (fun tv ji wl => ∃ (j : Nat) (v : Value), j ≤ EF.s.length ∧ v = tv ∧ ji = .int .i64 j ∧ OwnR W4.heap.size wl v (planO m.z (c.td.drop 1) (EF.s.take j)) ∧ Below W6.heap.size W6 wl) (fun _ ji _ => EF.s.length - (intOf ji).toNat)
                        case atStart => exact ⟨0, _, Nat.zero_le _, rfl, rfl, HO6.out, Below.refl _ _⟩
                        case round =>
                          obtain ⟨j, tj, hj, rfl, rfl, hO, hb⟩ := hrel
                          have HO : Hid (OwnR W4.heap.size wr tj (planO m.z (c.td.drop 1) (EF.s.take j))) := hO
                          have HQ : Hid (Below W6.heap.size W6 wr) := hb
                          have hsl : W6.heap.size ≤ wr.heap.size := hb.size
                          have HXl : Hid (Bk wr PP 54 #[.slice fa EF.st.r.length fc, .int .i64 EF.st.q, .int .i64 EF.st.d, .slice ga EF.s.length gc, .slice ha EF.x.length hc, .int .i64 EF.k]) := HX6.out.below hb
                          have HPl : Hid (Bk wr w.heap.size 36 #[.int .i64 m.n, .int .i64 m.s, .slice ai m.i.length ci, .slice ah m.h.length ch, .slice ae m.e.length ce, .int .i64 m.z]) := HP6.out.below hb
                          have x3 := HXl.out.cell (i := 3) rfl
                          have hpl : (planO m.z (c.td.drop 1) (EF.s.take j)).length ≤ 1048576 := by
                            have h7 := planO_length m.z (EF.s.take j) (c.td.drop 1)
                            have h8 : (EF.s.take j).length ≤ 8 := by simp; omega
                            have h9 : (c.td.drop 1).length ≤ c.td.length := by simp
                            omega
                          clear hO hb
                          by_cases hjt : j < EF.s.length
                          · have hdj : decide ((j : Int) < (EF.s.length : Int)) = true := by simp; omega
                            have hji : (j : Int) < (EF.s.length : Int) := by omega
                            obtain ⟨sa', sc', hsq', _, _, hI0⟩ := HSe6.out
                            cases hsq'
                            obtain ⟨b, off, hga, hI9⟩ := hI0.resolve_left (by intro e; rw [e] at hjt; simp at hjt)
                            subst hga
                            have hIl := hI9.below HQ.out hI9.1
                            have hbl : b < wr.heap.size := Nat.lt_of_lt_of_le hI9.1 hsl
                            have HEl : Hid (Ev.In wr b (off + j * 7) (evAt EF.s j)) := hIl.2 j hjt
                            obtain ⟨e0, e1, e2, e3, e4, e5, e6⟩ := HEl.out.beyond hbl
                            have y3 : ∀ q : Beyond wr, q.w.cell? ⟨PP, 3, none⟩ = some (.slice (some ⟨b, off, none⟩) EF.s.length gc) := fun q => q.cell HXl.out.lt (HXl.out.cell (i := 3) rfl)
                            have y5 : ∀ q : Beyond wr, q.w.cell? ⟨w.heap.size, 5, none⟩ = some (.int .i64 m.z) := fun q => q.cell HPl.out.lt (HPl.out.cell (i := 5) rfl)
                            have hne : Nonempty (Beyond wr) := ⟨⟨wr, Below.refl _ _⟩⟩
                            clear hI0 hI9 hIl
                            by_cases hzt : (evAt EF.s j).t ≤ m.z
                            · have hdz : decide ((evAt EF.s j).t ≤ m.z) = true := by simpa using hzt
                              have HZT : Hid ((evAt EF.s j).t ≤ m.z) := hzt
                              clear hzt
                              go_wp2_with fail
                              refine wp_region_beyond (by kernel_rfl) (by kernel_rfl) ?_
                              repeat (go_big_quiet_step (fail))
                              refine wpQuiet_nil ?_
                              rintro w7 ⟨⟨_, hb7⟩, rfl⟩
                              have HB7 : Hid (Below wr.heap.size wr w7) := hb7
                              obtain ⟨g0, g1, g2, g3, g4, g5, g6⟩ := HEl.out.below hb7 hbl
                              have x3' := (HXl.out.below hb7).cell (i := 3) rfl
                              have HC2 : Hid (Calls Tryz.prog 142 #[tj, .agg #[.int .i64 (evAt EF.s j).t, .int .i64 (evAt EF.s j).s, .int .i64 (evAt EF.s j).q, .int .i64 (evAt EF.s j).d, .int .i64 (evAt EF.s j).k, .int .i64 (evAt EF.s j).v, .int .i64 (evAt EF.s j).g]] w7 fun r w' => ∃ y, r = .returned y ∧ OwnR w7.heap.size w' y (insO (planO m.z (c.td.drop 1) (EF.s.take j)) (evAt EF.s j)) ∧ Below w7.heap.size w7 w') := l3insert_own (evAt EF.s j) w7 hpl (HO.out.below hb7)
                              have hs7 : wr.heap.size ≤ w7.heap.size := hb7.size
                              clear hb7 e0 e1 e2 e3 e4 e5 e6 y3 y5 hne hdz x3
                              go_wp2_with (fail)
                              refine HC2.out.mono ?_
                              rintro r w8 ⟨y, rfl, ho, hb8⟩
                              have HO8 : Hid (OwnR W4.heap.size w8 y (planO m.z (c.td.drop 1) (EF.s.take (j + 1)))) := by
                                rw [take_snoc _ _ hjt, planO_snoc, if_pos HZT.out]
                                exact ho.mono (by omega)
                              have HB8 : Hid (Below W6.heap.size W6 w8) := (HQ.out.trans (HB7.out.mono hsl)).trans (hb8.mono (by omega))
                              clear ho hb8 HC2 g0 g1 g2 g3 g4 g5 g6 x3'
                              go_wp2
                              go_roundw
                              case rel => exact ⟨j + 1, y, by omega, rfl, by go_num, HO8.out, HB8.out⟩
                              case measure => simp [intOf]; omega
                            · have hdz : decide ((evAt EF.s j).t ≤ m.z) = false := by simpa using hzt
                              have HZT : Hid (¬ (evAt EF.s j).t ≤ m.z) := hzt
                              clear hzt
                              go_wp2_with fail
                              refine wp_region_beyond (by kernel_rfl) (by kernel_rfl) ?_
                              repeat (go_big_quiet_step (fail))
                              refine wpQuiet_nil ?_
                              rintro w7 ⟨⟨_, hb7⟩, rfl⟩
                              have HB7 : Hid (Below W6.heap.size W6 w7) := HQ.out.trans (hb7.mono hsl)
                              have HO7 : Hid (OwnR W4.heap.size w7 tj (planO m.z (c.td.drop 1) (EF.s.take (j + 1)))) := by
                                rw [take_snoc _ _ hjt, planO_snoc, if_neg (by have := HZT.out; omega)]
                                exact HO.out.below hb7
                              clear hb7 e0 e1 e2 e3 e4 e5 e6 y3 y5 hne hdz x3
                              go_wp2
                              go_roundw
                              case rel => exact ⟨j + 1, tj, by omega, rfl, by go_num, HO7.out, HB7.out⟩
                              case measure => simp [intOf]; omega
                          · have hdj : decide ((j : Int) < (EF.s.length : Int)) = false := by simp; omega
                            have HOl : Hid (OwnR W4.heap.size wr tj (planO m.z (c.td.drop 1) EF.s)) := by
                              have h9 := HO.out
                              rw [List.take_of_length_le (by omega)] at h9
                              exact h9
                            have HSl : Hid (SCo W0.heap.size (w.heap.size + 1 + 1) wr tj (.slice (some ⟨G, 0, none⟩) l'.length gc9) (l'.set i (.slice fa EF.st.r.length fc, EF.st)) (.slice ea c.ev.length ec) (.slice xa c.em.length xc) ⟨planO m.z (c.td.drop 1) EF.s, c.st.set i EF.st, c.ev, c.em⟩) := by
                              have h9 := HS6.out.below HQ.out
                              exact ⟨HOl.out.mono hBW, h9.ss, h9.sl, h9.hb, h9.es, h9.xs, fun k e e' => by have h7 := (World.ownsRow.lt HOl.out k e).1; have h8 := HEW.out k e'; omega, h9.lo⟩
                            have HEl := HE6.out.below HQ.out
                            have g0 := HEl.cell (i := 0) rfl
                            have g1 := HEl.cell (i := 1) rfl
                            have g2 := HEl.cell (i := 2) rfl
                            have g3 := HEl.cell (i := 3) rfl
                            have g4 := HEl.cell (i := 4) rfl
                            have g5 := HEl.cell (i := 5) rfl
                            have g6 := HEl.cell (i := 6) rfl
                            have h0 := HSl.out.hb.cell (i := 0) rfl
                            have HHl := HSl.out.hb.lt
                            have HEml : Hid (RowF (fun k => W3.heap.size ≤ k) wr (.slice ha EF.x.length hc) EF.x.length 3 (cellsX EF.x)) := HEm6.out.below HQ.out
                            have HA9 : Hid (SCo W0.heap.size (w.heap.size + 1 + 1) (wr.alloc (.cells #[.int .i64 (evAt c.td 0).t, .int .i64 (evAt c.td 0).s, .int .i64 (evAt c.td 0).q, .int .i64 (i : Int), .int .i64 (evAt c.td 0).k, .int .i64 (evAt c.td 0).v, .int .i64 (evAt c.td 0).g] 50)) tj (.slice (some ⟨G, 0, none⟩) l'.length gc9) (l'.set i (.slice fa EF.st.r.length fc, EF.st)) (.slice ea c.ev.length ec) (.slice xa c.em.length xc) ⟨planO m.z (c.td.drop 1) EF.s, c.st.set i EF.st, c.ev, c.em⟩) := HSl.out.below ((Below.refl _ wr).alloc (Nat.le_refl _) _)
                            have HNW : Hid (∀ j u, [.int .i64 (evAt c.td 0).t, .int .i64 (evAt c.td 0).s, .int .i64 (evAt c.td 0).q, .int .i64 (i : Int), .int .i64 (evAt c.td 0).k, .int .i64 (evAt c.td 0).v, .int .i64 (evAt c.td 0).g][j]? = some u → (wr.alloc (.cells #[.int .i64 (evAt c.td 0).t, .int .i64 (evAt c.td 0).s, .int .i64 (evAt c.td 0).q, .int .i64 (i : Int), .int .i64 (evAt c.td 0).k, .int .i64 (evAt c.td 0).v, .int .i64 (evAt c.td 0).g] 50)).cell? (Addr.add ⟨wr.heap.size, 0, none⟩ j) = some u) := new7 _ _ _ _ _ _ _ _ _
                            have hBl : W0.heap.size ≤ (wr.alloc (.cells #[.int .i64 (evAt c.td 0).t, .int .i64 (evAt c.td 0).s, .int .i64 (evAt c.td 0).q, .int .i64 (i : Int), .int .i64 (evAt c.td 0).k, .int .i64 (evAt c.td 0).v, .int .i64 (evAt c.td 0).g] 50)).heap.size := by simp; omega
                            have HCS : Hid ((evAt c.td 0).cs = [.int .i64 (evAt c.td 0).t, .int .i64 (evAt c.td 0).s, .int .i64 (evAt c.td 0).q, .int .i64 (i : Int), .int .i64 (evAt c.td 0).k, .int .i64 (evAt c.td 0).v, .int .i64 (evAt c.td 0).g]) := by
                              show (evAt c.td 0).cs = _
                              unfold Ev.cs
                              rw [HIi.out]
                            have HX9 : Hid (Bk (wr.alloc (.cells #[.int .i64 (evAt c.td 0).t, .int .i64 (evAt c.td 0).s, .int .i64 (evAt c.td 0).q, .int .i64 (i : Int), .int .i64 (evAt c.td 0).k, .int .i64 (evAt c.td 0).v, .int .i64 (evAt c.td 0).g] 50)) PP 54 #[.slice fa EF.st.r.length fc, .int .i64 EF.st.q, .int .i64 EF.st.d, .slice ga EF.s.length gc, .slice ha EF.x.length hc, .int .i64 EF.k]) := HXl.out.alloc _
                            have HTl : Hid (Turns (fun k => k = (w.heap.size + 1 + 1) ∨ W0.heap.size ≤ k) W2 (wr.alloc (.cells #[.int .i64 (evAt c.td 0).t, .int .i64 (evAt c.td 0).s, .int .i64 (evAt c.td 0).q, .int .i64 (i : Int), .int .i64 (evAt c.td 0).k, .int .i64 (evAt c.td 0).v, .int .i64 (evAt c.td 0).g] 50))) := (HTw.out.trans (Turns.of_below HQ.out)).alloc _
                            obtain ⟨i9, hi9, hy3, hy4, hy5⟩ := info_parts infoEmC
                            have hPB : W0.heap.size ≤ PP := by omega
                            clear HO HOl HEl
                            cases ha with
                            | none =>
                              have hx0 : EF.x = [] := by
                                obtain ⟨_, a', c', e', _, _, h9⟩ := HEml.out
                                cases e'
                                exact List.eq_nil_of_length_eq_zero (h9.resolve_right (by rintro ⟨_, e, _⟩; cases e))
                              have HX0 : Hid (EF.x = []) := hx0
                              have hx00 : EF.x.length = 0 := by rw [hx0]; rfl
                              have HX00 : Hid (EF.x.length = 0) := hx00
                              clear hx0 hx00
                              go_wp2_with (at_builtin; first | (refine wpList_append_own2 _ rfl _ _ 28 rfl W0.heap.size 50 i1 _ 7 56 Tryz.underlying28 hi1' hy0 hy1 hy2 rfl (by decide) (.slice ea c.ev.length ec) c.ev.length (cellsL c.ev) rfl HA9.out.es ⟨wr.heap.size, 0, none⟩ 1 1 [.int .i64 (evAt c.td 0).t, .int .i64 (evAt c.td 0).s, .int .i64 (evAt c.td 0).q, .int .i64 (i : Int), .int .i64 (evAt c.td 0).k, .int .i64 (evAt c.td 0).v, .int .i64 (evAt c.td 0).g] rfl rfl HNW.out one7 (by unfold maxLen; omega) (by omega) hBl ?_; intro v8 w8 hr8 hg8 hn8; obtain ⟨ea8, ec8, hv8⟩ := owns_form hr8; subst hv8; have hH8 : Bk w8 (w.heap.size + 1 + 1) 31 #[.slice ea c.ev.length ec, .slice xa c.em.length xc, .int .i64 (-1), .bool false] := HA9.out.hb.turns ((Turns.refl _ _).grown hg8 (fun k e => e)) (fun e => row_off HA9.out.hb HA9.out.es (by decide) _ e rfl); have z0 := hH8.cell (i := 0) rfl; have z0f := hH8.free 0; obtain ⟨X8, hX8⟩ : ∃ X8, w8.setCell ⟨(w.heap.size + 1 + 1), 0, none⟩ (.slice ea8 (c.ev.length + 1) ec8) = X8 := ⟨_, rfl⟩; have hS8 := HA9.out.event (e := evAt c.td 0) hg8 hn8 (by rw [HCS.out]; exact hr8); have HS8 : Hid (SCo W0.heap.size (w.heap.size + 1 + 1) X8 tj (.slice (some ⟨G, 0, none⟩) l'.length gc9) (l'.set i (.slice fa EF.st.r.length fc, EF.st)) (.slice ea8 (c.ev.length + 1) ec8) (.slice xa c.em.length xc) ⟨planO m.z (c.td.drop 1) EF.s, c.st.set i EF.st, c.ev ++ [evAt c.td 0], c.em⟩) := hX8 ▸ hS8; have hX98 : Bk w8 PP 54 #[.slice fa EF.st.r.length fc, .int .i64 EF.st.q, .int .i64 EF.st.d, .slice ga EF.s.length gc, .slice none EF.x.length hc, .int .i64 EF.k] := HX9.out.turns ((Turns.refl _ _).grown hg8 (fun k e => e)) (fun e => Bk.off HX9.out HA9.out.es (by decide) e.symm); have HX8 : Hid (Bk X8 PP 54 #[.slice fa EF.st.r.length fc, .int .i64 EF.st.q, .int .i64 EF.st.d, .slice ga EF.s.length gc, .slice none EF.x.length hc, .int .i64 EF.k]) := hX8 ▸ hX98.other 0 _ (by omega); have HT8 : Hid (Turns (fun k => k = (w.heap.size + 1 + 1) ∨ W0.heap.size ≤ k) W2 X8) := hX8 ▸ ((HTl.out.grown hg8 (fun k e => .inr (row_ge HA9.out.es e))).trans ((put1_turns _ _ 0 _).mono (fun k e => .inl e))); have z1 := HS8.out.hb.cell (i := 1) rfl; have z1f := HS8.out.hb.free 1; have x4 := HX8.out.cell (i := 4) rfl; clear hr8 hg8 hn8 hH8 hS8 hX98) | (refine wpList_append_zero rfl _ _ 29 rfl W0.heap.size 61 i9 3 Tryz.underlying29 hi9 (.slice xa c.em.length xc) c.em.length hc (cellsX c.em) rfl HS8.out.xs rfl HX00.out ?_; obtain ⟨X9, hX9⟩ : ∃ X9, X8.setCell ⟨(w.heap.size + 1 + 1), 1, none⟩ (.slice xa c.em.length xc) = X9 := ⟨_, rfl⟩; have hS9 := HS8.out.emits (x := EF.x) (grown_self _ _) (.inl rfl) (by rw [HX0.out]; simpa [cellsX] using HS8.out.xs); have HS9 : Hid (SCo W0.heap.size (w.heap.size + 1 + 1) X9 tj (.slice (some ⟨G, 0, none⟩) l'.length gc9) (l'.set i (.slice fa EF.st.r.length fc, EF.st)) (.slice ea8 (c.ev.length + 1) ec8) (.slice xa c.em.length xc) ⟨planO m.z (c.td.drop 1) EF.s, c.st.set i EF.st, c.ev ++ [evAt c.td 0], c.em ++ EF.x⟩) := hX9 ▸ hS9; have HT9 : Hid (Turns (fun k => k = (w.heap.size + 1 + 1) ∨ W0.heap.size ≤ k) W2 X9) := hX9 ▸ (HT8.out.trans ((put1_turns _ _ 1 _).mono (fun k e => .inl e))); clear hS9))
                              go_roundw
                              case rel =>
                                obtain ⟨f', hf', hR'⟩ := seq_go HSQ.out.1 ⟨hl0, hz⟩ hlt (by rw [HEF.out]; omega) HSQ.out.2
                                have hn' : nextC (·.drop 1) (planO m.z) m [c0, c1, c2, c3] c = ⟨planO m.z (c.td.drop 1) EF.s, c.st.set i EF.st, c.ev ++ [evAt c.td 0], c.em ++ EF.x⟩ := by
                                  unfold nextC
                                  rw [HEF.out, HIi.out]
                                  rfl
                                rw [hn'] at hf' hR'
                                refine ⟨⟨planO m.z (c.td.drop 1) EF.s, c.st.set i EF.st, c.ev ++ [evAt c.td 0], c.em ++ EF.x⟩, tj, l'.set i (.slice fa EF.st.r.length fc, EF.st), (.slice ea8 (c.ev.length + 1) ec8), (.slice xa c.em.length xc), f', rfl, ?_, ?_, hf', hR', HT9.out⟩
                                · exact HS9.out
                                · rw [← hn']
                                  exact HI.out.next hl0 HOK.out hlt HG.out
                              case measure =>
                                have h9 := HS9.out.hb.cell (i := 0) rfl
                                have h8 : evLen X9 (w.heap.size + 1 + 1) = c.ev.length + 1 := by
                                  unfold evLen
                                  rw [h9]
                                  rfl
                                rw [HML.out, h8]
                                omega
                            | some ad9 =>
                              have HW3H : Hid (∀ k, W3.heap.size ≤ k → k ≠ (w.heap.size + 1 + 1)) := fun k hk e => by omega
                              go_wp2_with (at_builtin; first | (refine wpList_append_own2 _ rfl _ _ 28 rfl W0.heap.size 50 i1 _ 7 56 Tryz.underlying28 hi1' hy0 hy1 hy2 rfl (by decide) (.slice ea c.ev.length ec) c.ev.length (cellsL c.ev) rfl HA9.out.es ⟨wr.heap.size, 0, none⟩ 1 1 [.int .i64 (evAt c.td 0).t, .int .i64 (evAt c.td 0).s, .int .i64 (evAt c.td 0).q, .int .i64 (i : Int), .int .i64 (evAt c.td 0).k, .int .i64 (evAt c.td 0).v, .int .i64 (evAt c.td 0).g] rfl rfl HNW.out one7 (by unfold maxLen; omega) (by omega) hBl ?_; intro v8 w8 hr8 hg8 hn8; obtain ⟨ea8, ec8, hv8⟩ := owns_form hr8; subst hv8; have hH8 : Bk w8 (w.heap.size + 1 + 1) 31 #[.slice ea c.ev.length ec, .slice xa c.em.length xc, .int .i64 (-1), .bool false] := HA9.out.hb.turns ((Turns.refl _ _).grown hg8 (fun k e => e)) (fun e => row_off HA9.out.hb HA9.out.es (by decide) _ e rfl); have z0 := hH8.cell (i := 0) rfl; have z0f := hH8.free 0; obtain ⟨X8, hX8⟩ : ∃ X8, w8.setCell ⟨(w.heap.size + 1 + 1), 0, none⟩ (.slice ea8 (c.ev.length + 1) ec8) = X8 := ⟨_, rfl⟩; have hS8 := HA9.out.event (e := evAt c.td 0) hg8 hn8 (by rw [HCS.out]; exact hr8); have HS8 : Hid (SCo W0.heap.size (w.heap.size + 1 + 1) X8 tj (.slice (some ⟨G, 0, none⟩) l'.length gc9) (l'.set i (.slice fa EF.st.r.length fc, EF.st)) (.slice ea8 (c.ev.length + 1) ec8) (.slice xa c.em.length xc) ⟨planO m.z (c.td.drop 1) EF.s, c.st.set i EF.st, c.ev ++ [evAt c.td 0], c.em⟩) := hX8 ▸ hS8; have hX98 : Bk w8 PP 54 #[.slice fa EF.st.r.length fc, .int .i64 EF.st.q, .int .i64 EF.st.d, .slice ga EF.s.length gc, .slice (some ad9) EF.x.length hc, .int .i64 EF.k] := HX9.out.turns ((Turns.refl _ _).grown hg8 (fun k e => e)) (fun e => Bk.off HX9.out HA9.out.es (by decide) e.symm); have HX8 : Hid (Bk X8 PP 54 #[.slice fa EF.st.r.length fc, .int .i64 EF.st.q, .int .i64 EF.st.d, .slice ga EF.s.length gc, .slice (some ad9) EF.x.length hc, .int .i64 EF.k]) := hX8 ▸ hX98.other 0 _ (by omega); have HT8 : Hid (Turns (fun k => k = (w.heap.size + 1 + 1) ∨ W0.heap.size ≤ k) W2 X8) := hX8 ▸ ((HTl.out.grown hg8 (fun k e => .inr (row_ge HA9.out.es e))).trans ((put1_turns _ _ 0 _).mono (fun k e => .inl e))); have z1 := HS8.out.hb.cell (i := 1) rfl; have z1f := HS8.out.hb.free 1; have x4 := HX8.out.cell (i := 4) rfl; have hTe : Turns (fun k => k = (w.heap.size + 1 + 1) ∨ Value.ownBlock (.slice ea c.ev.length ec) = some k) wr X8 := hX8 ▸ ((((Turns.refl _ wr).alloc _).grown hg8 (fun k e => .inr e)).trans ((put1_turns _ _ 0 _).mono (fun k e => .inl e))); have HCX8 : Hid (∀ j u, (cellsX EF.x)[j]? = some u → X8.cell? (ad9.add j) = some u) := RowF.cellsAt (HEml.out.turns hTe (fun k hk e => e.elim (HW3H.out k hk) (fun e => Nat.lt_irrefl _ (Nat.lt_of_lt_of_le (HEW.out k e) hk)))); clear hTe; have hB8 : W0.heap.size ≤ X8.heap.size := Nat.le_trans (World.ownsRow.lt HS8.out.ss.row G rfl).1 (Nat.le_of_lt (World.ownsRow.lt HS8.out.ss.row G rfl).2); clear hr8 hg8 hn8 hH8 hS8 hX98) | (refine wpList_append_own2 _ rfl _ _ 29 rfl W0.heap.size 61 i9 _ 3 24 Tryz.underlying29 hi9 hy3 hy4 hy5 rfl (by decide) (.slice xa c.em.length xc) c.em.length (cellsX c.em) rfl HS8.out.xs ad9 EF.x.length hc (cellsX EF.x) rfl (cellsX_length _) HCX8.out (cellsX_one _) (by unfold maxLen; omega) (by omega) hB8 ?_; intro v9 w9 hr9 hg9 hn9; obtain ⟨xa9, xc9, hv9⟩ := owns_form hr9; subst hv9; have hH9 : Bk w9 (w.heap.size + 1 + 1) 31 #[.slice ea8 (c.ev.length + 1) ec8, .slice xa c.em.length xc, .int .i64 (-1), .bool false] := HS8.out.hb.turns ((Turns.refl _ _).grown hg9 (fun k e => e)) (fun e => row_off HS8.out.hb HS8.out.xs (by decide) _ e rfl); have z2 := hH9.cell (i := 1) rfl; have z2f := hH9.free 1; obtain ⟨X9, hX9⟩ : ∃ X9, w9.setCell ⟨(w.heap.size + 1 + 1), 1, none⟩ (.slice xa9 (c.em.length + EF.x.length) xc9) = X9 := ⟨_, rfl⟩; have hS9 := HS8.out.emits (x := EF.x) hg9 hn9 hr9; have HS9 : Hid (SCo W0.heap.size (w.heap.size + 1 + 1) X9 tj (.slice (some ⟨G, 0, none⟩) l'.length gc9) (l'.set i (.slice fa EF.st.r.length fc, EF.st)) (.slice ea8 (c.ev.length + 1) ec8) (.slice xa9 (c.em.length + EF.x.length) xc9) ⟨planO m.z (c.td.drop 1) EF.s, c.st.set i EF.st, c.ev ++ [evAt c.td 0], c.em ++ EF.x⟩) := hX9 ▸ hS9; have HT9 : Hid (Turns (fun k => k = (w.heap.size + 1 + 1) ∨ W0.heap.size ≤ k) W2 X9) := hX9 ▸ ((HT8.out.grown hg9 (fun k e => .inr (row_ge HS8.out.xs e))).trans ((put1_turns _ _ 1 _).mono (fun k e => .inl e))); clear hr9 hg9 hn9 hH9 hS9))
                              go_roundw
                              case rel =>
                                obtain ⟨f', hf', hR'⟩ := seq_go HSQ.out.1 ⟨hl0, hz⟩ hlt (by rw [HEF.out]; omega) HSQ.out.2
                                have hn' : nextC (·.drop 1) (planO m.z) m [c0, c1, c2, c3] c = ⟨planO m.z (c.td.drop 1) EF.s, c.st.set i EF.st, c.ev ++ [evAt c.td 0], c.em ++ EF.x⟩ := by
                                  unfold nextC
                                  rw [HEF.out, HIi.out]
                                  rfl
                                rw [hn'] at hf' hR'
                                refine ⟨⟨planO m.z (c.td.drop 1) EF.s, c.st.set i EF.st, c.ev ++ [evAt c.td 0], c.em ++ EF.x⟩, tj, l'.set i (.slice fa EF.st.r.length fc, EF.st), (.slice ea8 (c.ev.length + 1) ec8), (.slice xa9 (c.em.length + EF.x.length) xc9), f', rfl, ?_, ?_, hf', hR', HT9.out⟩
                                · exact HS9.out
                                · rw [← hn']
                                  exact HI.out.next hl0 HOK.out hlt HG.out
                              case measure =>
                                have h9 := HS9.out.hb.cell (i := 0) rfl
                                have h8 : evLen X9 (w.heap.size + 1 + 1) = c.ev.length + 1 := by
                                  unfold evLen
                                  rw [h9]
                                  rfl
                                rw [HML.out, h8]
                                omega
              · have hdz : decide ((evAt c.td 0).t ≤ z) = false := by simpa using hz
                have HE : Hid (seqR m [c0, c1, c2, c3] z = ⟨c.ev, c.em, -1, false⟩) := seq_end (fun x => hz x.2) HSQ.out.2
                go_wp2
                have hW := HRr.out.put4h (.slice ea c.ev.length ec) (.slice xa c.em.length xc) (.int .i64 (-1)) (.bool false)
                have t0 := hW.cell (i := 0) rfl
                have t1 := hW.cell (i := 1) rfl
                have t2 := hW.cell (i := 2) rfl
                have t3 := hW.cell (i := 3) rfl
                have HTe := put4h_turns wr (w.heap.size + 1) (.slice ea c.ev.length ec) (.slice xa c.em.length xc) (.int .i64 (-1)) (.bool false)
                refine bodyPost_ret (v := .agg #[.slice ea c.ev.length ec, .slice xa c.em.length xc, .int .i64 (-1), .bool false]) (by simp [results, Tryz.results63, go_sem, t0, t1, t2, t3]) rfl ⟨_, rfl, ?_, ?_⟩
                · exact (HBr.out.trans (HTe.mono fun k e => by omega)).to_below (fun k e => e) (Nat.le_refl _)
                · rw [HE.out]
                  exact (HS.out.done HTe (fun k e => by omega) (-1) false).mono (fun k hk => ⟨by omega, hk.2⟩)
            · have hnil : c.td = [] := List.eq_nil_of_length_eq_zero (by omega)
              have htl : ∃ a cap, td' = .slice a 0 cap := by
                rcases hS.to.capsC with ⟨e, _⟩ | ⟨g, cap, e, _⟩
                · exact ⟨none, 0, e⟩
                · rw [hnil] at e; exact ⟨_, cap, e⟩
              obtain ⟨ta, tc, rfl⟩ := htl
              have HE : Hid (seqR m [c0, c1, c2, c3] z = ⟨c.ev, c.em, -1, false⟩) := seq_end (fun x => hl0 x.1) HSQ.out.2
              clear hS hI hnil
              go_wp2
              have hW := HRr.out.put4h (.slice ea c.ev.length ec) (.slice xa c.em.length xc) (.int .i64 (-1)) (.bool false)
              have t0 := hW.cell (i := 0) rfl
              have t1 := hW.cell (i := 1) rfl
              have t2 := hW.cell (i := 2) rfl
              have t3 := hW.cell (i := 3) rfl
              have HTe := put4h_turns wr (w.heap.size + 1) (.slice ea c.ev.length ec) (.slice xa c.em.length xc) (.int .i64 (-1)) (.bool false)
              refine bodyPost_ret (v := .agg #[.slice ea c.ev.length ec, .slice xa c.em.length xc, .int .i64 (-1), .bool false]) (by simp [results, Tryz.results63, go_sem, t0, t1, t2, t3]) rfl ⟨_, rfl, ?_, ?_⟩
              · exact (HBr.out.trans (HTe.mono fun k e => by omega)).to_below (fun k e => e) (Nat.le_refl _)
              · rw [HE.out]
                exact (HS.out.done HTe (fun k e => by omega) (-1) false).mono (fun k hk => ⟨by omega, hk.2⟩)
end Go.Proofs.YtmpoffepoafblaaGreat
