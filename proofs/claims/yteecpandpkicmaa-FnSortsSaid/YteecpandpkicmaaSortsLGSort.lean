/- The program's HeapSorted over slices of any room. -/
import Derived.Test.YteecpandpkicmaaSortsG29
import Derived.Test.YteecpandpkicmaaSortsG25
namespace Go.Proofs.Yteecpandpkicmaa
open Go.RowKit
def sortN : Nat → List Ev → List Ev
  | 0, _ => []
  | n + 1, l => evAt l 0 :: sortN n (takeL l 0)
theorem sortN_length : ∀ n l, (sortN n l).length = n
  | 0, _ => rfl
  | n + 1, l => by simp [sortN, sortN_length n]
def lenV : Value → Nat | .slice _ n _ => n | _ => 0
theorem OwnR.lenV {B : Nat} {w : World} {x : Value} {l : List Ev} (h : OwnR B w x l) : lenV x = l.length := by
  obtain ⟨_, ⟨e, h1⟩ | ⟨g, cap, cur, e, _⟩⟩ := h
  · rw [e, h1]; rfl
  · rw [e]; rfl
theorem OwnR.snoc {B : Nat} {w : World} {x : Value} {l : List Ev} {e : Ev} (h : w.ownsRow B 25 7 x (l.length + 1) (cellsL l ++ e.cs)) : OwnR B w x (l ++ [e]) := by
  unfold OwnR
  rw [List.length_append, cellsL_append]
  simpa [cellsL] using h
theorem takeL_oks {l : List Ev} (h : Kept (fun e => e.ok = true) l) (hl : 0 < l.length) : Kept (fun e => e.ok = true) (takeL l 0) := by
  have h1 : Kept (fun e => e.ok = true) (cutL l 0) := fun j hj => by
    rw [cutL_length] at hj
    unfold cutL
    rw [evAt_take _ _ _ (by omega), evAt_set _ _ _ _ hl]
    split
    · exact h _ (by omega)
    · exact h _ (by omega)
  unfold takeL
  split
  · next h2 =>
    rw [kept_upL (by rw [downL_length, cutL_length]; exact h2), kept_downL (by rw [cutL_length]; omega) h2]
    exact h1
  · exact h1
set_option maxRecDepth 100000 in
set_option maxHeartbeats 4000000 in
theorem gSort_good (a : Option Addr) (cap : Nat) (l : List Ev) (w : World) (hl : l.length ≤ 1048576) (hR : Src w (.slice a l.length cap) l) (hw0 : 0 < w.heap.size) (hg : GoodH l) :
    Calls Try.prog 20 #[.slice a l.length cap] w fun e w' => AnswersR w.heap.size (sortN l.length l) true e w' ∧ Below w.heap.size w w' := by
  have HR : Hid (Src w (.slice a l.length cap) l) := hR
  clear hR
  have HG : Hid (GoodH l) := hg
  clear hg
  go_enter Try.func20, Try.ntmps20
  go_wp2_with fail
  refine (iHeap_src _ _ l _ hl HR.out (by first | omega | (simp; done) | (have h9 := HB0.out.size; omega) | (have h9 := HB1.out.size; omega))).mono ?_
  rintro e w1 ⟨⟨bb, rfl, hs⟩, hb1⟩
  have hbb : bb = true := hs.2 HG.out
  subst hbb
  clear hs
  have HB1 : Hid (Below w.heap.size w w1) := hb1
  have HR1 : Hid (Src w1 (.slice a l.length cap) l) := HR.out.below hb1
  clear hb1 HR
  obtain ⟨i0, hi, hz0, hz1, hz2⟩ := info_parts info25
  go_wp2_with fail
  refine (pileOf_any _ l _ (by omega) HR1.out).mono ?_
  rintro e w2 ⟨P, v, rfl, hp2, hb2⟩
  have HP2 : Hid (Pl w2 w1.heap.size P v l) := hp2
  have HB2 : Hid (Below w.heap.size w w2) := HB1.out.trans (hb2.mono HB1.out.size)
  have HV2 : Hid (∀ g, v.ownBlock = some g → g < w2.heap.size) := fun g e => (OwnR.block hp2.row e).2
  have hPw : P < w2.heap.size := hp2.box.lt
  have hw12 : w1.heap.size ≤ w2.heap.size := hb2.size
  have HLO : Hid (w1.heap.size ≤ P) := hp2.low
  have hml := fun w => m_len P w
  clear hp2 hb2
  go_wp2
  go_loopw [4] (fun o wr => ∃ (n : Nat) (v : Value) (m acc : List Ev), n ≤ 1048576 ∧ Hid (m.length = n) ∧ Hid (Pl wr w1.heap.size P v m) ∧ Hid (∀ g, v.ownBlock = some g → g < w2.heap.size) ∧ Hid (OwnR w2.heap.size wr o acc) ∧ Hid (acc ++ sortN n m = sortN l.length l) ∧ Hid (acc.length + n = l.length) ∧ Hid (Below w.heap.size w wr) ∧ Hid (w2.heap.size ≤ wr.heap.size) ∧ Hid (Kept (fun e => e.ok = true) m)) (fun o _ => l.length - lenV o)
  case atStart => exact ⟨l.length, v, l, [], hl, rfl, HP2.out, HV2.out, OwnR.nil _ _, by simp [Hid], by simp [Hid], HB2.out, Nat.le_refl _, HG.out.oks⟩
  case round =>
    clear HP2 HV2
    obtain ⟨n, v, m, acc, hn, HM, HP, HV, HO, HS, HL, HB, HZ, HK⟩ := hrel
    have hal : acc.length ≤ 1048576 := by have := HL.out; omega
    have hzr : w2.heap.size ≤ wr.heap.size := HZ.out
    cases n with
    | zero =>
      obtain ⟨a, cap, rfl, _⟩ := HP.out.slice
      have HLN : Hid (Calls Try.prog 86 #[.pointer (some ⟨P, 0, none⟩)] wr fun e w' => e = .returned (.int .i64 0) ∧ w' = wr) := by
        have h9 := len_any a P m.length cap wr HP.out.box.cell
        rw [HM.out] at h9
        exact h9
      go_wp2_with fail
      refine HLN.out.mono ?_
      rintro e w' ⟨rfl, hw⟩
      have hw' := hw.symm
      clear hw
      subst hw'
      go_wp2
      go_ret2
      have hs := HS.out
      simp only [sortN, List.append_nil] at hs
      exact ⟨⟨_, rfl, by rw [← hs]; exact HO.out.mono HB2.out.size⟩, HB.out⟩
    | succ n =>
      obtain ⟨g5, cap5, hv5, hR5, hPg5⟩ := HP.out.form HM.out
      subst hv5
      have HLN : Hid (Calls Try.prog 86 #[.pointer (some ⟨P, 0, none⟩)] wr fun e w' => e = .returned (.int .i64 ((n : Int) + 1)) ∧ w' = wr) := by
        have h9 := len_any _ P (n + 1) cap5 wr HP.out.box.cell
        unfold Hid; simpa using h9
      have hg5 : g5 < w2.heap.size := HV.out g5 rfl
      have hg5l : w1.heap.size ≤ g5 := hR5.lt.1
      have HPF : Hid (Calls Try.prog 42 #[pv P] wr fun r w' => r = .returned (.agg #[.int .i64 (evAt m 0).t, .int .i64 (evAt m 0).s, .int .i64 (evAt m 0).q, .int .i64 (evAt m 0).d, .int .i64 (evAt m 0).k, .int .i64 (evAt m 0).v, .int .i64 (evAt m 0).g]) ∧ Pl w' w1.heap.size P (.slice (some ⟨g5, 0, none⟩) n cap5) (takeL m 0) ∧ Turns (fun b => b = P ∨ b = g5) wr w') := popFirst_any w1.heap.size P g5 cap5 m n wr HM.out HP.out (by have := HM.out; omega) HK.out
      have hnp : (0 : Int) < (n : Int) + 1 := by omega
      clear hR5
      go_wp2_with fail
      refine HLN.out.mono ?_
      rintro e w' ⟨rfl, hw⟩
      have hw' := hw.symm
      clear hw
      subst hw'
      go_wp2_with fail
      refine HPF.out.mono ?_
      rintro e w3 ⟨rfl, hp3, ht3⟩
      have hzt : wr.heap.size ≤ w3.heap.size := ht3.size
      have HP3 : Hid (Pl w3 w1.heap.size P (.slice (some ⟨g5, 0, none⟩) n cap5) (takeL m 0)) := hp3
      have HO3 : Hid (OwnR w2.heap.size w3 u4 acc) := HO.out.turns ht3 (fun k e => by omega)
      have HB3 : Hid (Below w.heap.size w w3) := HB.out.trans (ht3.to_below (fun k e => by have := HB1.out.size; have := HLO.out; omega) HB.out.size)
      clear hp3 ht3 HPF HLN HP HO HB
      go_wp2_with (at_builtin; refine wpList_append_own _ rfl _ _ 23 rfl w2.heap.size 25 i0 _ 7 56 Try.underlying23 hi hz0 hz1 hz2 rfl (by decide) u4 acc.length (cellsL acc) rfl (World.ownsRow.alloc HO3.out _) ⟨w3.heap.size, 0, none⟩ 1 1 (evAt m 0).cs rfl rfl (Ev.In.cells (newE w3 (evAt m 0))) (Ev.cs_one _) (by unfold maxLen; omega) (by omega) (by simp; omega) ?_; intro v4 w4 hown4 hgrow4 _)
      have hb4 : Below w2.heap.size w3 w4 := ((Below.refl _ w3).alloc (by omega) _).grown hgrow4 (by simp; omega) (fun k e => row_ge HO3.out e)
      have HO4 : Hid (OwnR w2.heap.size w4 v4 (acc ++ [evAt m 0])) := OwnR.snoc hown4
      have HP4 : Hid (Pl w4 w1.heap.size P (.slice (some ⟨g5, 0, none⟩) n cap5) (takeL m 0)) := HP3.out.low2 hb4 hPw (fun g e => by cases e; exact hg5)
      have HB4 : Hid (Below w.heap.size w w4) := HB3.out.trans (hb4.mono HB2.out.size)
      have hz4 : w3.heap.size ≤ w4.heap.size := hb4.size
      have HLV : Hid (lenV v4 = acc.length + 1 ∧ lenV u4 = acc.length) := ⟨by rw [HO4.out.lenV]; simp, HO3.out.lenV⟩
      clear hown4 hgrow4 hb4 HP3 HO3 HB3
      have HTL : Hid ((takeL m 0).length = n) := by unfold Hid; rw [takeL_length, HM.out]; rfl
      go_roundw
      case rel => exact ⟨n, _, takeL m 0, acc ++ [evAt m 0], by omega, HTL.out, HP4.out, fun g e => by cases e; exact hg5, HO4.out, by have := HS.out; simp only [sortN] at this; unfold Hid; rw [List.append_assoc]; exact this, by have := HL.out; unfold Hid; simp; omega, HB4.out, by unfold Hid; omega, takeL_oks HK.out (by have := HM.out; omega)⟩
      case measure => have := HLV.out; have := HL.out; simp; omega
end Go.Proofs.Yteecpandpkicmaa
