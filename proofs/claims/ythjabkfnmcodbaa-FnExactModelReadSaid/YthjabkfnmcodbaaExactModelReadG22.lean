/- MRdI, MRdN, MRdK -/
import Derived.Test.YthjabkfnmcodbaaExactModelReadLMRdS
/- The program's byteReader: one and two. -/
namespace Go.Proofs.Ythjabkfnmcodbaa
open Go.RowKit
/- The reader in block R: what is still to be read of the bytes l, from place p on; they lie elsewhere. -/
def Rd (B : Nat) (w : World) (R : Nat) (l : List UInt8) (p : Nat) : Prop := B ≤ R ∧ ∃ a cap, Bk w R 86 #[.slice a (l.length - p) cap] ∧ p ≤ l.length ∧ l.length - p ≤ cap ∧ cap ≤ maxLen ∧ (p = l.length ∨ ∃ b off, a = some ⟨b, off + p, none⟩ ∧ b < B ∧ By.IntsAt w b off l)
/- It panics. -/
def Pan (e : Ending) : Prop := ∃ u pv, e = .panicked [{ v := .iface u pv, recovered := false }]
theorem Rd.bk {B : Nat} {w : World} {R : Nat} {l : List UInt8} {p : Nat} (h : Rd B w R l p) : ∃ vs, Bk w R 86 vs := by
  obtain ⟨_, a, cap, hB, _⟩ := h
  exact ⟨_, hB⟩
theorem Rd.turns {S : Nat → Prop} {B : Nat} {w w' : World} {R : Nat} {l : List UInt8} {p : Nat} (h : Rd B w R l p) (ht : Turns S w w') (hR : ¬ S R) (hS : ∀ k, S k → B ≤ k) : Rd B w' R l p := by
  obtain ⟨h0, a, cap, hB, h1, h2, h3, h4⟩ := h
  refine ⟨h0, a, cap, hB.turns ht hR, h1, h2, h3, h4.imp id ?_⟩
  rintro ⟨b, off, rfl, hbR, hI⟩
  exact ⟨b, off, rfl, hbR, Nat.lt_of_lt_of_le hI.1 ht.size, fun i hi => (ht.cell hI.1 (fun e => Nat.lt_irrefl _ (Nat.lt_of_lt_of_le hbR (hS _ e)))).trans (hI.2 i hi)⟩
theorem Rd.below {B : Nat} {w w' : World} {R : Nat} {l : List UInt8} {p : Nat} (h : Rd B w R l p) (hb : Below w.heap.size w w') : Rd B w' R l p := h.turns (S := fun _ => False) (Turns.of_below hb) id (fun _ e => e.elim)
theorem Rd.alloc {B : Nat} {w : World} {R : Nat} {l : List UInt8} {p : Nat} (h : Rd B w R l p) (x : Obj) : Rd B (w.alloc x) R l p := h.below ((Below.refl _ w).alloc (Nat.le_refl _) x)
theorem Rd.drew {B : Nat} {w : World} {R : Nat} {l : List UInt8} {p : Nat} (h : Rd B w R l p) : Rd B w.drew R l p := h.below (Below.refl _ w).drew
theorem Rd.lt {B : Nat} {w : World} {R : Nat} {l : List UInt8} {p : Nat} (h : Rd B w R l p) : R < w.heap.size := h.bk.choose_spec.lt
theorem Rd.le {B : Nat} {w : World} {R : Nat} {l : List UInt8} {p : Nat} (h : Rd B w R l p) : p ≤ l.length := h.2.choose_spec.choose_spec.2.1
theorem Rd.put {B : Nat} {w : World} {R : Nat} {l : List UInt8} {p : Nat} (h : Rd B w R l p) {b : Nat} (hb : B ≤ b) (hR : R ≠ b) (o : Nat) (u : Value) : Rd B (w.setCell ⟨b, o, none⟩ u) R l p := h.turns (put1_turns w b o u) hR (fun _ e => e ▸ hb)
theorem rd_n {a p : Nat} (h : p < a) : ∃ n, a - p = n + 1 ∧ a - (p + 1) = n := ⟨a - p - 1, by omega, by omega⟩
theorem nxt_one {l : List UInt8} {p q : Nat} (h : nxt l 1 (some p) = some q) : p + 1 ≤ l.length ∧ q = p + 1 := by
  unfold nxt at h
  simp at h
  exact ⟨h.1, h.2.symm⟩
theorem nxt_one_none {l : List UInt8} {p : Nat} (h : nxt l 1 (some p) = none) : ¬ p + 1 ≤ l.length := by
  intro hp
  simp [nxt, hp] at h
theorem nxt_two_none {l : List UInt8} {p : Nat} (h : nxt l 1 (some (p + 1)) = none) : nxt l 2 (some p) = none := by
  have := nxt_one_none h
  have h2 : ¬ p + 2 ≤ l.length := this
  simp [nxt, h2]
theorem nxt_two_none' {l : List UInt8} {p : Nat} (h : nxt l 1 (some p) = none) : nxt l 2 (some p) = none := by
  have := nxt_one_none h
  have h2 : ¬ p + 2 ≤ l.length := by omega
  simp [nxt, h2]
set_option maxRecDepth 100000 in
set_option maxHeartbeats 8000000 in
theorem one_any (B R : Nat) (l : List UInt8) (p : Nat) (w : World) (_hl : l.length ≤ 1048576) (hR : Rd B w R l p) :
    Calls Try.prog 73 #[.pointer (some ⟨R, 0, none⟩)] w fun e w' => Turns (fun k => k = R) w w' ∧ ((∃ q, nxt l 1 (some p) = some q ∧ e = .returned (.int .i64 (val1 l (some p))) ∧ Rd B w' R l q) ∨ (nxt l 1 (some p) = none ∧ Pan e)) := by
  obtain ⟨h0, a, cap, hB, h1, h2, h3, h4⟩ := hR
  have HB : Hid (Bk w R 86 #[.slice a (l.length - p) cap]) := hB
  have c0 := hB.cell (i := 0) rfl
  have f0 := hB.free 0
  unfold maxLen at h3
  by_cases hp : p = l.length
  · have HN : Hid (nxt l 1 (some p) = none) := (by simp [nxt, hp] : nxt l 1 (some p) = none)
    have hz : l.length - p = 0 := by omega
    rw [hz] at c0
    clear hB h4
    go_enter Try.func73, Try.ntmps73
    go_wp2
    exact ⟨rfl, Turns.refl _ _, .inr ⟨HN.out, _, _, rfl⟩⟩
  · obtain ⟨b, off, rfl, hbB, hI⟩ := h4.resolve_left hp
    have hbR : b ≠ R := fun e => Nat.lt_irrefl _ (Nat.lt_of_lt_of_le hbB (e ▸ h0))
    have hlt : p < l.length := Nat.lt_of_le_of_ne h1 hp
    clear hp
    have HI : Hid (By.IntsAt w b off l) := hI
    obtain ⟨n, hn, hnn⟩ := rd_n hlt
    have HN : Hid (nxt l 1 (some p) = some (p + 1)) := (by have : p + 1 ≤ l.length := hlt; simp [nxt, this] : nxt l 1 (some p) = some (p + 1))
    have HV : Hid (val1 l (some p) = by8 l p) := (by have : p + 1 ≤ l.length := hlt; simp [val1, this] : val1 l (some p) = by8 l p)
    have g0 : w.cell? ⟨b, off + p, none⟩ = some (.int .u8 (by8 l p)) := hI.2 p (by omega)
    have hb0 := by8_low l p
    rw [hn] at c0 h2
    clear hB h4 hI
    generalize by8 l p = y0 at *
    go_enter Try.func73, Try.ntmps73
    go_wp2
    · rename_i hc1
      go_ret
      have ht := put1_turns w R 0 (.slice (some ⟨b, off + p, none⟩) n 0)
      refine ⟨ht, .inl ⟨p + 1, HN.out, ret_int HV.out.symm, h0, some ⟨b, off + p, none⟩, 0, ?_, hlt, ?_, ?_, .inl ?_⟩⟩
      · rw [hnn]
        exact HB.out.put 0 _
      · rw [hnn]; clear hbR; omega
      · exact Nat.zero_le _
      · clear hbR; omega
    · go_ret
      have ht := put1_turns w R 0 (.slice (some ⟨b, off + p + 1, none⟩) n (cap - 1))
      refine ⟨ht, .inl ⟨p + 1, HN.out, ret_int HV.out.symm, h0, _, cap - 1, ?_, hlt, ?_, ?_, .inr ⟨b, off, rfl, hbB, Nat.lt_of_lt_of_le HI.out.1 ht.size, fun i hi => (ht.cell HI.out.1 hbR).trans (HI.out.2 i hi)⟩⟩⟩
      · rw [hnn]
        exact HB.out.put 0 _
      · rw [hnn]; clear hbR; omega
      · clear hbR; unfold maxLen; omega
set_option maxRecDepth 100000 in
set_option maxHeartbeats 8000000 in
theorem two_any (B R : Nat) (l : List UInt8) (p : Nat) (w : World) (hl : l.length ≤ 1048576) (hR : Rd B w R l p) :
    Calls Try.prog 74 #[.pointer (some ⟨R, 0, none⟩)] w fun e w' => Turns (fun k => k = R) w w' ∧ ((∃ q, nxt l 2 (some p) = some q ∧ e = .returned (.int .i64 (val2 l (some p))) ∧ Rd B w' R l q) ∨ (nxt l 2 (some p) = none ∧ Pan e)) := by
  have HR : Hid (Rd B w R l p) := hR
  clear hR
  go_enter Try.func74, Try.ntmps74
  go_wp2_with fail
  refine (one_any B R l p _ hl HR.out).mono ?_
  rintro e w1 ⟨ht, (⟨q, hq, rfl, hR1⟩ | ⟨hq, u, pv, rfl⟩)⟩
  · have HT1 : Hid (Turns (fun k => k = R) w w1) := ht
    obtain ⟨hp1, rfl⟩ := nxt_one hq
    rw [show val1 l (some p) = by8 l p from by simp [val1, hp1]]
    have hb0 := by8_low l p
    have HR1 : Hid (Rd B w1 R l (p + 1)) := hR1
    have HY0 : Hid (∃ y, by8 l p = y) := ⟨_, rfl⟩
    clear ht hq hR1
    generalize h0 : by8 l p = y0 at hb0 ⊢
    have H0 : Hid (by8 l p = y0) := h0
    clear h0
    go_wp2_with fail
    refine (one_any B R l (p + 1) _ hl HR1.out).mono ?_
    rintro e w2 ⟨ht, (⟨q, hq, rfl, hR2⟩ | ⟨hq, u, pv, rfl⟩)⟩
    · obtain ⟨hp2, rfl⟩ := nxt_one hq
      rw [show val1 l (some (p + 1)) = by8 l (p + 1) from by simp [val1, hp2]]
      have hb1 := by8_low l (p + 1)
      have HF : Hid (Turns (fun k => k = R) w w2 ∧ nxt l 2 (some p) = some (p + 1 + 1) ∧ val2 l (some p) = by8 l p * 256 + by8 l (p + 1) ∧ Rd B w2 R l (p + 1 + 1)) := ⟨HT1.out.trans ht, by have : p + 2 ≤ l.length := hp2; simp [nxt, this], by have : p + 2 ≤ l.length := hp2; simp [val2, this], hR2⟩
      clear ht hq hR2
      generalize h1 : by8 l (p + 1) = y1 at hb1 ⊢
      have H1 : Hid (by8 l (p + 1) = y1) := h1
      clear h1
      go_wp2
      go_ret
      exact ⟨HF.out.1, .inl ⟨_, HF.out.2.1, ret_int (by rw [HF.out.2.2.1, H0.out, H1.out]), HF.out.2.2.2⟩⟩
    · have HF : Hid (Turns (fun k => k = R) w w2 ∧ nxt l 2 (some p) = none) := ⟨HT1.out.trans ht, nxt_two_none hq⟩
      go_wp2
      exact ⟨rfl, HF.out.1, .inr ⟨HF.out.2, _, _, rfl⟩⟩
  · have HF : Hid (Turns (fun k => k = R) w w1 ∧ nxt l 2 (some p) = none) := ⟨ht, nxt_two_none' hq⟩
    go_wp2
    exact ⟨rfl, HF.out.1, .inr ⟨HF.out.2, _, _, rfl⟩⟩
end Go.Proofs.Ythjabkfnmcodbaa

/- The program's byteReader: nextOp and start. -/
namespace Go.Proofs.Ythjabkfnmcodbaa
open Go.RowKit
theorem Turns.trans' {S : Nat → Prop} {a w w' : World} {b : Nat} (h : Turns S a w) (ht : Turns (fun k => k = b) w w') (hb : a.heap.size ≤ b) : Turns S a w' :=
  ⟨ht.os.trans h.os, ht.tape.trans h.tape, ht.output.trans h.output, Nat.le_trans h.size ht.size, fun k hk hS => (ht.block k (Nat.lt_of_lt_of_le hk h.size) (fun e => by omega)).trans (h.block k hk hS)⟩
abbrev pt4 (w : World) (R : Nat) (v0 v1 v2 v3 : Value) : World := ((((w.setCell ⟨R, 0, none⟩ v0).setCell ⟨R, 1, none⟩ v1).setCell ⟨R, 2, none⟩ v2).setCell ⟨R, 3, none⟩ v3)
theorem Bk.pt4 {w : World} {R : Nat} {T : TypeId} {a0 a1 a2 a3 : Value} (h : Bk w R T #[a0, a1, a2, a3]) (v0 v1 v2 v3 : Value) : Bk (pt4 w R v0 v1 v2 v3) R T #[v0, v1, v2, v3] := by
  have h : Bk (w.setCell ⟨R, 0, none⟩ v0) R T #[v0, a1, a2, a3] := h.put 0 v0
  have h : Bk ((w.setCell ⟨R, 0, none⟩ v0).setCell ⟨R, 1, none⟩ v1) R T #[v0, v1, a2, a3] := h.put 1 v1
  have h : Bk (((w.setCell ⟨R, 0, none⟩ v0).setCell ⟨R, 1, none⟩ v1).setCell ⟨R, 2, none⟩ v2) R T #[v0, v1, v2, a3] := h.put 2 v2
  have h : Bk ((((w.setCell ⟨R, 0, none⟩ v0).setCell ⟨R, 1, none⟩ v1).setCell ⟨R, 2, none⟩ v2).setCell ⟨R, 3, none⟩ v3) R T #[v0, v1, v2, v3] := h.put 3 v3
  exact h
theorem pt4_turns (w : World) (R : Nat) (v0 v1 v2 v3 : Value) : Turns (fun b => b = R) w (pt4 w R v0 v1 v2 v3) := ((((put1_turns w R 0 v0).trans (put1_turns _ R 1 v1)).trans (put1_turns _ R 2 v2)).trans (put1_turns _ R 3 v3))
abbrev pt7 (w : World) (R : Nat) (v0 v1 v2 v3 v4 v5 v6 : Value) : World := (((((((w.setCell ⟨R, 0, none⟩ v0).setCell ⟨R, 1, none⟩ v1).setCell ⟨R, 2, none⟩ v2).setCell ⟨R, 3, none⟩ v3).setCell ⟨R, 4, none⟩ v4).setCell ⟨R, 5, none⟩ v5).setCell ⟨R, 6, none⟩ v6)
theorem Bk.pt7 {w : World} {R : Nat} {T : TypeId} {a0 a1 a2 a3 a4 a5 a6 : Value} (h : Bk w R T #[a0, a1, a2, a3, a4, a5, a6]) (v0 v1 v2 v3 v4 v5 v6 : Value) : Bk (pt7 w R v0 v1 v2 v3 v4 v5 v6) R T #[v0, v1, v2, v3, v4, v5, v6] := by
  have h : Bk (w.setCell ⟨R, 0, none⟩ v0) R T #[v0, a1, a2, a3, a4, a5, a6] := h.put 0 v0
  have h : Bk ((w.setCell ⟨R, 0, none⟩ v0).setCell ⟨R, 1, none⟩ v1) R T #[v0, v1, a2, a3, a4, a5, a6] := h.put 1 v1
  have h : Bk (((w.setCell ⟨R, 0, none⟩ v0).setCell ⟨R, 1, none⟩ v1).setCell ⟨R, 2, none⟩ v2) R T #[v0, v1, v2, a3, a4, a5, a6] := h.put 2 v2
  have h : Bk ((((w.setCell ⟨R, 0, none⟩ v0).setCell ⟨R, 1, none⟩ v1).setCell ⟨R, 2, none⟩ v2).setCell ⟨R, 3, none⟩ v3) R T #[v0, v1, v2, v3, a4, a5, a6] := h.put 3 v3
  have h : Bk (((((w.setCell ⟨R, 0, none⟩ v0).setCell ⟨R, 1, none⟩ v1).setCell ⟨R, 2, none⟩ v2).setCell ⟨R, 3, none⟩ v3).setCell ⟨R, 4, none⟩ v4) R T #[v0, v1, v2, v3, v4, a5, a6] := h.put 4 v4
  have h : Bk ((((((w.setCell ⟨R, 0, none⟩ v0).setCell ⟨R, 1, none⟩ v1).setCell ⟨R, 2, none⟩ v2).setCell ⟨R, 3, none⟩ v3).setCell ⟨R, 4, none⟩ v4).setCell ⟨R, 5, none⟩ v5) R T #[v0, v1, v2, v3, v4, v5, a6] := h.put 5 v5
  have h : Bk (((((((w.setCell ⟨R, 0, none⟩ v0).setCell ⟨R, 1, none⟩ v1).setCell ⟨R, 2, none⟩ v2).setCell ⟨R, 3, none⟩ v3).setCell ⟨R, 4, none⟩ v4).setCell ⟨R, 5, none⟩ v5).setCell ⟨R, 6, none⟩ v6) R T #[v0, v1, v2, v3, v4, v5, v6] := h.put 6 v6
  exact h
theorem pt7_turns (w : World) (R : Nat) (v0 v1 v2 v3 v4 v5 v6 : Value) : Turns (fun b => b = R) w (pt7 w R v0 v1 v2 v3 v4 v5 v6) := (((((((put1_turns w R 0 v0).trans (put1_turns _ R 1 v1)).trans (put1_turns _ R 2 v2)).trans (put1_turns _ R 3 v3)).trans (put1_turns _ R 4 v4)).trans (put1_turns _ R 5 v5)).trans (put1_turns _ R 6 v6))
set_option maxRecDepth 100000 in
set_option maxHeartbeats 8000000 in
theorem nextOp_any (B R : Nat) (l : List UInt8) (k p : Nat) (w : World) (hl : l.length ≤ 1048576) (hR : Rd B w R l p) :
    Calls Try.prog 79 #[.pointer (some ⟨R, 0, none⟩)] w fun e w' => Turns (fun b => b = R) w w' ∧ ((∃ q, (fO l k (some p)).2 = some q ∧ e = .returned (.agg #[.int .i64 (fO l k (some p)).1.c, .int .i64 (fO l k (some p)).1.a, .int .i64 (fO l k (some p)).1.b, .int .i64 (fO l k (some p)).1.k]) ∧ Rd B w' R l q) ∨ ((fO l k (some p)).2 = none ∧ Pan e)) := by
  have HN : Hid ((fO l k (some p)).2 = nxt l 1 (nxt l 2 (nxt l 1 (nxt l 1 (some p))))) := rfl
  have HV : Hid ((fO l k (some p)).1 = ⟨val1 l (some p), val1 l (nxt l 1 (some p)), val2 l (nxt l 1 (nxt l 1 (some p))), val1 l (nxt l 2 (nxt l 1 (nxt l 1 (some p))))⟩) := rfl
  generalize fO l k (some p) = ff at HN HV ⊢
  obtain ⟨f1, f2⟩ := ff
  have hRw := hR.lt
  have hBw : B ≤ w.heap.size := Nat.le_trans hR.1 (Nat.le_of_lt hRw)
  have hB1 : B ≤ w.heap.size + 1 := by omega
  obtain ⟨W0, hW0⟩ : ∃ W0, (w.alloc (.cells #[.int .i64 0, .int .i64 0, .int .i64 0, .int .i64 0] 36)).alloc (.cells #[.int .i64 0, .int .i64 0, .int .i64 0, .int .i64 0] 36) = W0 := ⟨_, rfl⟩
  have HR0 : Hid (Rd B W0 R l p) := hW0 ▸ (hR.alloc _).alloc _
  have HP0 : Hid (Bk W0 w.heap.size 36 #[.int .i64 0, .int .i64 0, .int .i64 0, .int .i64 0]) := hW0 ▸ (Bk.new w _ _).alloc _
  have HQ0 : Hid (Bk W0 (w.heap.size + 1) 36 #[.int .i64 0, .int .i64 0, .int .i64 0, .int .i64 0]) := hW0 ▸ Bk.newAt (by simp) _ _
  have HT0 : Hid (Turns (fun b => b = R) w W0) := hW0 ▸ ((Turns.refl _ w).alloc _).alloc _
  have HW0 : Hid ((w.alloc (.cells #[.int .i64 0, .int .i64 0, .int .i64 0, .int .i64 0] 36)).alloc (.cells #[.int .i64 0, .int .i64 0, .int .i64 0, .int .i64 0] 36) = W0) := hW0
  clear hR hW0
  go_enter Try.func79, Try.ntmps79
  go_wp2_with fail
  rw [HW0.out]
  clear HW0
  refine (one_any B R l p _ hl HR0.out).mono ?_
  rintro e w1 ⟨ht, (⟨q1, hq, rfl, hR⟩ | ⟨hq, u, pv, rfl⟩)⟩
  rotate_left
  · have HF : Hid (Turns (fun b => b = R) w w1 ∧ f2 = none) := ⟨HT0.out.trans ht, by have := HN.out; rw [hq] at this; exact this⟩
    go_wp2
    exact ⟨rfl, HF.out.1, .inr ⟨HF.out.2, _, _, rfl⟩⟩
  rw [hq] at HN HV
  generalize val1 l (some p) = z0 at HV ⊢
  have hq1 := HQ0.out.turns ht (by omega)
  have hp1 := HP0.out.turns ht (by omega)
  have g0 := hq1.cell (i := 0) rfl
  have f0' := hq1.free 0
  obtain ⟨W1, hW⟩ : ∃ V, w1.setCell ⟨w.heap.size + 1, 0, none⟩ (.int .i64 z0) = V := ⟨_, rfl⟩
  have HR1 : Hid (Rd B W1 R l q1) := hW ▸ hR.put hB1 (by omega) _ _
  have HP1 : Hid (Bk W1 w.heap.size 36 #[.int .i64 0, .int .i64 0, .int .i64 0, .int .i64 0]) := hW ▸ hp1.other _ _ (by omega)
  have HQ1 : Hid (Bk W1 (w.heap.size + 1) 36 #[.int .i64 z0, .int .i64 0, .int .i64 0, .int .i64 0]) := hW ▸ hq1.put 0 _
  have HT1 : Hid (Turns (fun b => b = R) w W1) := hW ▸ (HT0.out.trans ht).setNew (by omega) _ _
  have HW1 : Hid (w1.setCell ⟨w.heap.size + 1, 0, none⟩ (.int .i64 z0) = W1) := hW
  clear ht hq hR hW hq1 hp1 HR0 HP0 HQ0 HT0
  go_wp2_with fail
  rw [HW1.out]
  clear HW1 g0 f0'
  refine (one_any B R l q1 _ hl HR1.out).mono ?_
  rintro e w2 ⟨ht, (⟨q2, hq, rfl, hR⟩ | ⟨hq, u, pv, rfl⟩)⟩
  rotate_left
  · have HF : Hid (Turns (fun b => b = R) w w2 ∧ f2 = none) := ⟨HT1.out.trans ht, by have := HN.out; rw [hq] at this; exact this⟩
    go_wp2
    exact ⟨rfl, HF.out.1, .inr ⟨HF.out.2, _, _, rfl⟩⟩
  rw [hq] at HN HV
  generalize val1 l (some q1) = z1 at HV ⊢
  have hq1 := HQ1.out.turns ht (by omega)
  have hp1 := HP1.out.turns ht (by omega)
  have g1 := hq1.cell (i := 1) rfl
  have f1' := hq1.free 1
  obtain ⟨W2, hW⟩ : ∃ V, w2.setCell ⟨w.heap.size + 1, 1, none⟩ (.int .i64 z1) = V := ⟨_, rfl⟩
  have HR2 : Hid (Rd B W2 R l q2) := hW ▸ hR.put hB1 (by omega) _ _
  have HP2 : Hid (Bk W2 w.heap.size 36 #[.int .i64 0, .int .i64 0, .int .i64 0, .int .i64 0]) := hW ▸ hp1.other _ _ (by omega)
  have HQ2 : Hid (Bk W2 (w.heap.size + 1) 36 #[.int .i64 z0, .int .i64 z1, .int .i64 0, .int .i64 0]) := hW ▸ hq1.put 1 _
  have HT2 : Hid (Turns (fun b => b = R) w W2) := hW ▸ (HT1.out.trans ht).setNew (by omega) _ _
  have HW2 : Hid (w2.setCell ⟨w.heap.size + 1, 1, none⟩ (.int .i64 z1) = W2) := hW
  clear ht hq hR hW hq1 hp1 HR1 HP1 HQ1 HT1
  go_wp2_with fail
  rw [HW2.out]
  clear HW2 g1 f1'
  refine (two_any B R l q2 _ hl HR2.out).mono ?_
  rintro e w3 ⟨ht, (⟨q3, hq, rfl, hR⟩ | ⟨hq, u, pv, rfl⟩)⟩
  rotate_left
  · have HF : Hid (Turns (fun b => b = R) w w3 ∧ f2 = none) := ⟨HT2.out.trans ht, by have := HN.out; rw [hq] at this; exact this⟩
    go_wp2
    exact ⟨rfl, HF.out.1, .inr ⟨HF.out.2, _, _, rfl⟩⟩
  rw [hq] at HN HV
  generalize val2 l (some q2) = z2 at HV ⊢
  have hq1 := HQ2.out.turns ht (by omega)
  have hp1 := HP2.out.turns ht (by omega)
  have g2 := hq1.cell (i := 2) rfl
  have f2' := hq1.free 2
  obtain ⟨W3, hW⟩ : ∃ V, w3.setCell ⟨w.heap.size + 1, 2, none⟩ (.int .i64 z2) = V := ⟨_, rfl⟩
  have HR3 : Hid (Rd B W3 R l q3) := hW ▸ hR.put hB1 (by omega) _ _
  have HP3 : Hid (Bk W3 w.heap.size 36 #[.int .i64 0, .int .i64 0, .int .i64 0, .int .i64 0]) := hW ▸ hp1.other _ _ (by omega)
  have HQ3 : Hid (Bk W3 (w.heap.size + 1) 36 #[.int .i64 z0, .int .i64 z1, .int .i64 z2, .int .i64 0]) := hW ▸ hq1.put 2 _
  have HT3 : Hid (Turns (fun b => b = R) w W3) := hW ▸ (HT2.out.trans ht).setNew (by omega) _ _
  have HW3 : Hid (w3.setCell ⟨w.heap.size + 1, 2, none⟩ (.int .i64 z2) = W3) := hW
  clear ht hq hR hW hq1 hp1 HR2 HP2 HQ2 HT2
  go_wp2_with fail
  rw [HW3.out]
  clear HW3 g2 f2'
  refine (one_any B R l q3 _ hl HR3.out).mono ?_
  rintro e w4 ⟨ht, (⟨q4, hq, rfl, hR⟩ | ⟨hq, u, pv, rfl⟩)⟩
  rotate_left
  · have HF : Hid (Turns (fun b => b = R) w w4 ∧ f2 = none) := ⟨HT3.out.trans ht, by have := HN.out; rw [hq] at this; exact this⟩
    go_wp2
    exact ⟨rfl, HF.out.1, .inr ⟨HF.out.2, _, _, rfl⟩⟩
  rw [hq] at HN
  generalize val1 l (some q3) = z3 at HV ⊢
  have hq1 := HQ3.out.turns ht (by omega)
  have hp1 := HP3.out.turns ht (by omega)
  have g3 := hq1.cell (i := 3) rfl
  have f3' := hq1.free 3
  obtain ⟨W4, hW⟩ : ∃ V, w4.setCell ⟨w.heap.size + 1, 3, none⟩ (.int .i64 z3) = V := ⟨_, rfl⟩
  have HR4 : Hid (Rd B W4 R l q4) := hW ▸ hR.put hB1 (by omega) _ _
  have HP4 : Hid (Bk W4 w.heap.size 36 #[.int .i64 0, .int .i64 0, .int .i64 0, .int .i64 0]) := hW ▸ hp1.other _ _ (by omega)
  have HQ4 : Hid (Bk W4 (w.heap.size + 1) 36 #[.int .i64 z0, .int .i64 z1, .int .i64 z2, .int .i64 z3]) := hW ▸ hq1.put 3 _
  have HT4 : Hid (Turns (fun b => b = R) w W4) := hW ▸ (HT3.out.trans ht).setNew (by omega) _ _
  have HW4 : id (w4.setCell ⟨w.heap.size + 1, 3, none⟩ (.int .i64 z3) = W4) := hW
  clear ht hq hR hq1 hp1 HR3 HP3 HQ3 HT3
  have a0 := HQ4.out.cell (i := 0) rfl
  have a1 := HQ4.out.cell (i := 1) rfl
  have a2 := HQ4.out.cell (i := 2) rfl
  have a3 := HQ4.out.cell (i := 3) rfl
  have b0 := HP4.out.cell (i := 0) rfl
  have b1 := HP4.out.cell (i := 1) rfl
  have b2 := HP4.out.cell (i := 2) rfl
  have b3 := HP4.out.cell (i := 3) rfl
  have bf := HP4.out.free
  clear HW4
  go_wp2
  clear a0 b0 a1 b1 a2 b2 a3 b3 bf
  obtain ⟨X5, hX5⟩ : ∃ X5, pt4 W4 w.heap.size (.int .i64 z0) (.int .i64 z1) (.int .i64 z2) (.int .i64 z3) = X5 := ⟨_, rfl⟩
  have hP := HP4.out.pt4 (.int .i64 z0) (.int .i64 z1) (.int .i64 z2) (.int .i64 z3)
  have ht := pt4_turns W4 w.heap.size (.int .i64 z0) (.int .i64 z1) (.int .i64 z2) (.int .i64 z3)
  rw [hX5] at hP ht
  unfold pt4 at hX5
  rw [hX5]
  have t0 := hP.cell (i := 0) rfl
  have t1 := hP.cell (i := 1) rfl
  have t2 := hP.cell (i := 2) rfl
  have t3 := hP.cell (i := 3) rfl
  refine bodyPost_ret (v := .agg #[.int .i64 z0, .int .i64 z1, .int .i64 z2, .int .i64 z3]) (by simp [results, Try.results79, go_sem, t0, t1, t2, t3]) rfl ⟨HT4.out.trans' ht (by omega), .inl ⟨q4, HN.out, ?_, HR4.out.turns ht (by omega) (fun k e => by omega)⟩⟩
  rw [HV.out]
set_option maxRecDepth 100000 in
set_option maxHeartbeats 8000000 in
theorem rstart_any (B R : Nat) (l : List UInt8) (k p : Nat) (w : World) (hl : l.length ≤ 1048576) (hR : Rd B w R l p) :
    Calls Try.prog 76 #[.pointer (some ⟨R, 0, none⟩), .int .i64 (k : Int)] w fun e w' => Turns (fun b => b = R) w w' ∧ ((∃ q, (fE l k (some p)).2 = some q ∧ e = .returned (.agg #[.int .i64 (fE l k (some p)).1.t, .int .i64 (fE l k (some p)).1.s, .int .i64 (fE l k (some p)).1.q, .int .i64 (fE l k (some p)).1.d, .int .i64 (fE l k (some p)).1.k, .int .i64 (fE l k (some p)).1.v, .int .i64 (fE l k (some p)).1.g]) ∧ Rd B w' R l q) ∨ ((fE l k (some p)).2 = none ∧ Pan e)) := by
  have HN : Hid ((fE l k (some p)).2 = nxt l 2 (nxt l 1 (nxt l 1 (nxt l 2 (some p))))) := rfl
  have HV : Hid ((fE l k (some p)).1 = ⟨val2 l (some p), -1, (k : Int), val1 l (nxt l 2 (some p)), val1 l (nxt l 1 (nxt l 2 (some p))), val2 l (nxt l 1 (nxt l 1 (nxt l 2 (some p)))), (k : Int)⟩) := rfl
  generalize fE l k (some p) = ff at HN HV ⊢
  obtain ⟨f1, f2⟩ := ff
  have hRw := hR.lt
  have hBw : B ≤ w.heap.size := Nat.le_trans hR.1 (Nat.le_of_lt hRw)
  have hB1 : B ≤ w.heap.size + 1 := by omega
  obtain ⟨W0, hW0⟩ : ∃ W0, (w.alloc (.cells #[.int .i64 0, .int .i64 0, .int .i64 0, .int .i64 0, .int .i64 0, .int .i64 0, .int .i64 0] 70)).alloc (.cells #[.int .i64 0, .int .i64 (-1), .int .i64 (k : Int), .int .i64 0, .int .i64 0, .int .i64 0, .int .i64 (k : Int)] 70) = W0 := ⟨_, rfl⟩
  have HR0 : Hid (Rd B W0 R l p) := hW0 ▸ (hR.alloc _).alloc _
  have HP0 : Hid (Bk W0 w.heap.size 70 #[.int .i64 0, .int .i64 0, .int .i64 0, .int .i64 0, .int .i64 0, .int .i64 0, .int .i64 0]) := hW0 ▸ (Bk.new w _ _).alloc _
  have HQ0 : Hid (Bk W0 (w.heap.size + 1) 70 #[.int .i64 0, .int .i64 (-1), .int .i64 (k : Int), .int .i64 0, .int .i64 0, .int .i64 0, .int .i64 (k : Int)]) := hW0 ▸ Bk.newAt (by simp) _ _
  have HT0 : Hid (Turns (fun b => b = R) w W0) := hW0 ▸ ((Turns.refl _ w).alloc _).alloc _
  have HW0 : Hid ((w.alloc (.cells #[.int .i64 0, .int .i64 0, .int .i64 0, .int .i64 0, .int .i64 0, .int .i64 0, .int .i64 0] 70)).alloc (.cells #[.int .i64 0, .int .i64 (-1), .int .i64 (k : Int), .int .i64 0, .int .i64 0, .int .i64 0, .int .i64 (k : Int)] 70) = W0) := hW0
  clear hR hW0
  go_enter Try.func76, Try.ntmps76
  go_wp2_with fail
  rw [HW0.out]
  clear HW0
  refine (two_any B R l p _ hl HR0.out).mono ?_
  rintro e w1 ⟨ht, (⟨q1, hq, rfl, hR⟩ | ⟨hq, u, pv, rfl⟩)⟩
  rotate_left
  · have HF : Hid (Turns (fun b => b = R) w w1 ∧ f2 = none) := ⟨HT0.out.trans ht, by have := HN.out; rw [hq] at this; exact this⟩
    go_wp2
    exact ⟨rfl, HF.out.1, .inr ⟨HF.out.2, _, _, rfl⟩⟩
  rw [hq] at HN HV
  generalize val2 l (some p) = z0 at HV ⊢
  have hq1 := HQ0.out.turns ht (by omega)
  have hp1 := HP0.out.turns ht (by omega)
  have g0 := hq1.cell (i := 0) rfl
  have f0' := hq1.free 0
  obtain ⟨W1, hW⟩ : ∃ V, w1.setCell ⟨w.heap.size + 1, 0, none⟩ (.int .i64 z0) = V := ⟨_, rfl⟩
  have HR1 : Hid (Rd B W1 R l q1) := hW ▸ hR.put hB1 (by omega) _ _
  have HP1 : Hid (Bk W1 w.heap.size 70 #[.int .i64 0, .int .i64 0, .int .i64 0, .int .i64 0, .int .i64 0, .int .i64 0, .int .i64 0]) := hW ▸ hp1.other _ _ (by omega)
  have HQ1 : Hid (Bk W1 (w.heap.size + 1) 70 #[.int .i64 z0, .int .i64 (-1), .int .i64 (k : Int), .int .i64 0, .int .i64 0, .int .i64 0, .int .i64 (k : Int)]) := hW ▸ hq1.put 0 _
  have HT1 : Hid (Turns (fun b => b = R) w W1) := hW ▸ (HT0.out.trans ht).setNew (by omega) _ _
  have HW1 : Hid (w1.setCell ⟨w.heap.size + 1, 0, none⟩ (.int .i64 z0) = W1) := hW
  clear ht hq hR hW hq1 hp1 HR0 HP0 HQ0 HT0
  go_wp2_with fail
  rw [HW1.out]
  clear HW1 g0 f0'
  refine (one_any B R l q1 _ hl HR1.out).mono ?_
  rintro e w2 ⟨ht, (⟨q2, hq, rfl, hR⟩ | ⟨hq, u, pv, rfl⟩)⟩
  rotate_left
  · have HF : Hid (Turns (fun b => b = R) w w2 ∧ f2 = none) := ⟨HT1.out.trans ht, by have := HN.out; rw [hq] at this; exact this⟩
    go_wp2
    exact ⟨rfl, HF.out.1, .inr ⟨HF.out.2, _, _, rfl⟩⟩
  rw [hq] at HN HV
  generalize val1 l (some q1) = z1 at HV ⊢
  have hq1 := HQ1.out.turns ht (by omega)
  have hp1 := HP1.out.turns ht (by omega)
  have g1 := hq1.cell (i := 3) rfl
  have f1' := hq1.free 3
  obtain ⟨W2, hW⟩ : ∃ V, w2.setCell ⟨w.heap.size + 1, 3, none⟩ (.int .i64 z1) = V := ⟨_, rfl⟩
  have HR2 : Hid (Rd B W2 R l q2) := hW ▸ hR.put hB1 (by omega) _ _
  have HP2 : Hid (Bk W2 w.heap.size 70 #[.int .i64 0, .int .i64 0, .int .i64 0, .int .i64 0, .int .i64 0, .int .i64 0, .int .i64 0]) := hW ▸ hp1.other _ _ (by omega)
  have HQ2 : Hid (Bk W2 (w.heap.size + 1) 70 #[.int .i64 z0, .int .i64 (-1), .int .i64 (k : Int), .int .i64 z1, .int .i64 0, .int .i64 0, .int .i64 (k : Int)]) := hW ▸ hq1.put 3 _
  have HT2 : Hid (Turns (fun b => b = R) w W2) := hW ▸ (HT1.out.trans ht).setNew (by omega) _ _
  have HW2 : Hid (w2.setCell ⟨w.heap.size + 1, 3, none⟩ (.int .i64 z1) = W2) := hW
  clear ht hq hR hW hq1 hp1 HR1 HP1 HQ1 HT1
  go_wp2_with fail
  rw [HW2.out]
  clear HW2 g1 f1'
  refine (one_any B R l q2 _ hl HR2.out).mono ?_
  rintro e w3 ⟨ht, (⟨q3, hq, rfl, hR⟩ | ⟨hq, u, pv, rfl⟩)⟩
  rotate_left
  · have HF : Hid (Turns (fun b => b = R) w w3 ∧ f2 = none) := ⟨HT2.out.trans ht, by have := HN.out; rw [hq] at this; exact this⟩
    go_wp2
    exact ⟨rfl, HF.out.1, .inr ⟨HF.out.2, _, _, rfl⟩⟩
  rw [hq] at HN HV
  generalize val1 l (some q2) = z2 at HV ⊢
  have hq1 := HQ2.out.turns ht (by omega)
  have hp1 := HP2.out.turns ht (by omega)
  have g2 := hq1.cell (i := 4) rfl
  have f2' := hq1.free 4
  obtain ⟨W3, hW⟩ : ∃ V, w3.setCell ⟨w.heap.size + 1, 4, none⟩ (.int .i64 z2) = V := ⟨_, rfl⟩
  have HR3 : Hid (Rd B W3 R l q3) := hW ▸ hR.put hB1 (by omega) _ _
  have HP3 : Hid (Bk W3 w.heap.size 70 #[.int .i64 0, .int .i64 0, .int .i64 0, .int .i64 0, .int .i64 0, .int .i64 0, .int .i64 0]) := hW ▸ hp1.other _ _ (by omega)
  have HQ3 : Hid (Bk W3 (w.heap.size + 1) 70 #[.int .i64 z0, .int .i64 (-1), .int .i64 (k : Int), .int .i64 z1, .int .i64 z2, .int .i64 0, .int .i64 (k : Int)]) := hW ▸ hq1.put 4 _
  have HT3 : Hid (Turns (fun b => b = R) w W3) := hW ▸ (HT2.out.trans ht).setNew (by omega) _ _
  have HW3 : Hid (w3.setCell ⟨w.heap.size + 1, 4, none⟩ (.int .i64 z2) = W3) := hW
  clear ht hq hR hW hq1 hp1 HR2 HP2 HQ2 HT2
  go_wp2_with fail
  rw [HW3.out]
  clear HW3 g2 f2'
  refine (two_any B R l q3 _ hl HR3.out).mono ?_
  rintro e w4 ⟨ht, (⟨q4, hq, rfl, hR⟩ | ⟨hq, u, pv, rfl⟩)⟩
  rotate_left
  · have HF : Hid (Turns (fun b => b = R) w w4 ∧ f2 = none) := ⟨HT3.out.trans ht, by have := HN.out; rw [hq] at this; exact this⟩
    go_wp2
    exact ⟨rfl, HF.out.1, .inr ⟨HF.out.2, _, _, rfl⟩⟩
  rw [hq] at HN
  generalize val2 l (some q3) = z3 at HV ⊢
  have hq1 := HQ3.out.turns ht (by omega)
  have hp1 := HP3.out.turns ht (by omega)
  have g3 := hq1.cell (i := 5) rfl
  have f3' := hq1.free 5
  obtain ⟨W4, hW⟩ : ∃ V, w4.setCell ⟨w.heap.size + 1, 5, none⟩ (.int .i64 z3) = V := ⟨_, rfl⟩
  have HR4 : Hid (Rd B W4 R l q4) := hW ▸ hR.put hB1 (by omega) _ _
  have HP4 : Hid (Bk W4 w.heap.size 70 #[.int .i64 0, .int .i64 0, .int .i64 0, .int .i64 0, .int .i64 0, .int .i64 0, .int .i64 0]) := hW ▸ hp1.other _ _ (by omega)
  have HQ4 : Hid (Bk W4 (w.heap.size + 1) 70 #[.int .i64 z0, .int .i64 (-1), .int .i64 (k : Int), .int .i64 z1, .int .i64 z2, .int .i64 z3, .int .i64 (k : Int)]) := hW ▸ hq1.put 5 _
  have HT4 : Hid (Turns (fun b => b = R) w W4) := hW ▸ (HT3.out.trans ht).setNew (by omega) _ _
  have HW4 : id (w4.setCell ⟨w.heap.size + 1, 5, none⟩ (.int .i64 z3) = W4) := hW
  clear ht hq hR hq1 hp1 HR3 HP3 HQ3 HT3
  have a0 := HQ4.out.cell (i := 0) rfl
  have a1 := HQ4.out.cell (i := 1) rfl
  have a2 := HQ4.out.cell (i := 2) rfl
  have a3 := HQ4.out.cell (i := 3) rfl
  have a4 := HQ4.out.cell (i := 4) rfl
  have a5 := HQ4.out.cell (i := 5) rfl
  have a6 := HQ4.out.cell (i := 6) rfl
  have b0 := HP4.out.cell (i := 0) rfl
  have b1 := HP4.out.cell (i := 1) rfl
  have b2 := HP4.out.cell (i := 2) rfl
  have b3 := HP4.out.cell (i := 3) rfl
  have b4 := HP4.out.cell (i := 4) rfl
  have b5 := HP4.out.cell (i := 5) rfl
  have b6 := HP4.out.cell (i := 6) rfl
  have bf := HP4.out.free
  clear HW4
  go_wp2
  clear a0 b0 a1 b1 a2 b2 a3 b3 a4 b4 a5 b5 a6 b6 bf
  obtain ⟨X5, hX5⟩ : ∃ X5, pt7 W4 w.heap.size (.int .i64 z0) (.int .i64 (-1)) (.int .i64 (k : Int)) (.int .i64 z1) (.int .i64 z2) (.int .i64 z3) (.int .i64 (k : Int)) = X5 := ⟨_, rfl⟩
  have hP := HP4.out.pt7 (.int .i64 z0) (.int .i64 (-1)) (.int .i64 (k : Int)) (.int .i64 z1) (.int .i64 z2) (.int .i64 z3) (.int .i64 (k : Int))
  have ht := pt7_turns W4 w.heap.size (.int .i64 z0) (.int .i64 (-1)) (.int .i64 (k : Int)) (.int .i64 z1) (.int .i64 z2) (.int .i64 z3) (.int .i64 (k : Int))
  rw [hX5] at hP ht
  unfold pt7 at hX5
  rw [hX5]
  have t0 := hP.cell (i := 0) rfl
  have t1 := hP.cell (i := 1) rfl
  have t2 := hP.cell (i := 2) rfl
  have t3 := hP.cell (i := 3) rfl
  have t4 := hP.cell (i := 4) rfl
  have t5 := hP.cell (i := 5) rfl
  have t6 := hP.cell (i := 6) rfl
  refine bodyPost_ret (v := .agg #[.int .i64 z0, .int .i64 (-1), .int .i64 (k : Int), .int .i64 z1, .int .i64 z2, .int .i64 z3, .int .i64 (k : Int)]) (by simp [results, Try.results76, go_sem, t0, t1, t2, t3, t4, t5, t6]) rfl ⟨HT4.out.trans' ht (by omega), .inl ⟨q4, HN.out, ?_, HR4.out.turns ht (by omega) (fun k e => by omega)⟩⟩
  rw [HV.out]
end Go.Proofs.Ythjabkfnmcodbaa

/- The program's byteReader.handler. -/
namespace Go.Proofs.Ythjabkfnmcodbaa
open Go.RowKit
set_option maxRecDepth 100000 in
set_option maxHeartbeats 8000000 in
theorem rhandler_any (B R : Nat) (l : List UInt8) (k p : Nat) (w : World) (hl : l.length ≤ 1048576) (hR : Rd B w R l p) :
    Calls Try.prog 75 #[.pointer (some ⟨R, 0, none⟩)] w fun e w' => Turns (fun b => b = R) w w' ∧ ((∃ q y, (fR l k (some p)).2 = some q ∧ e = .returned y ∧ w'.ownsRow w.heap.size 36 4 y (fR l k (some p)).1.length (cellsO (fR l k (some p)).1) ∧ Rd B w' R l q) ∨ ((fR l k (some p)).2 = none ∧ Pan e)) := by
  obtain ⟨i0, hi, hz0, hz1, hz2⟩ := info_parts infoOp
  have HR : Hid (Rd B w R l p) := hR
  have hRw := hR.lt
  have hBw : B ≤ w.heap.size := Nat.le_trans hR.1 (Nat.le_of_lt hRw)
  clear hR
  go_enter Try.func75, Try.ntmps75
  go_wp2_with fail
  refine (one_any B R l p _ hl HR.out).mono ?_
  rintro e w1 ⟨ht, (⟨p1, hq, rfl, hR⟩ | ⟨hq, u, pv, rfl⟩)⟩
  rotate_left
  · have HF : Hid (Turns (fun b => b = R) w w1 ∧ (fR l k (some p)).2 = none) := ⟨ht, by unfold fR; rw [hq]; exact run_from _ _⟩
    go_wp2
    exact ⟨rfl, HF.out.1, .inr ⟨HF.out.2, _, _, rfl⟩⟩
  have hv := val1_low l (some p)
  obtain ⟨n, hn⟩ : ∃ n : Nat, n = (val1 l (some p)).toNat := ⟨_, rfl⟩
  have hn2 : val1 l (some p) = (n : Int) := by omega
  have hn3 : n ≤ 255 := by omega
  rw [hn2]
  have HF : Hid (fR l k (some p) = run (fO l) (some p1) n) := (by unfold fR; rw [← hn, hq] : fR l k (some p) = run (fO l) (some p1) n)
  have HR1 : Hid (Rd B w1 R l p1) := hR
  have HT1 : Hid (Turns (fun b => b = R) w w1) := ht
  clear hR ht hv hn hn2 hq HR
  go_wp2
  go_loopw [3, 6] (fun o i wr => ∃ (q : Nat) (v : Value) (r : Nat), q ≤ n ∧ v = o ∧ i = .int .i64 q ∧ (run (fO l) (some p1) q).2 = some r ∧ wr.ownsRow w.heap.size 36 4 o (run (fO l) (some p1) q).1.length (cellsO (run (fO l) (some p1) q).1) ∧ Rd B wr R l r ∧ Turns (fun b => b = R) w wr) (fun _ i _ => n - (intOf i).toNat)
  case atStart => exact ⟨0, _, p1, Nat.zero_le _, rfl, rfl, rfl, World.ownsRow_nil w1 _ 36 4, HR1.out, HT1.out⟩
  case round =>
    clear HR1 HT1
    obtain ⟨q, o, r, hq, rfl, rfl, hr, hO, hR, hT⟩ := hrel
    have HO : Hid (wr.ownsRow w.heap.size 36 4 o (run (fO l) (some p1) q).1.length (cellsO (run (fO l) (some p1) q).1)) := hO
    have HRr : Hid (Rd B wr R l r) := hR
    have HT : Hid (Turns (fun b => b = R) w wr) := hT
    have hsz : w.heap.size ≤ wr.heap.size := hT.size
    have hlq := run_length (fO l) (some p1) q
    have Hr : Hid ((run (fO l) (some p1) q).2 = some r) := hr
    have HE : Hid (run (fO l) (some p1) (q + 1) = ((run (fO l) (some p1) q).1 ++ [(fO l q (some r)).1], (fO l q (some r)).2)) := run_some hr
    clear hR hT hO hr
    by_cases hlt : q < n
    · have hqn : (q : Int) < (n : Int) := by omega
      generalize (run (fO l) (some p1) q).1 = lq at HO HE hlq
      go_wp2_with fail
      refine (nextOp_any B R l q r _ hl HRr.out).mono ?_
      rintro e w2 ⟨ht, (⟨r2, hq2, rfl, hR2⟩ | ⟨hq2, u, pv, rfl⟩)⟩
      rotate_left
      · have HF2 : Hid (Turns (fun b => b = R) w w2 ∧ (fR l k (some p)).2 = none) := ⟨HT.out.trans ht, by
          have h2 : (run (fO l) (some p1) (q + 1)).2 = none := by rw [HE.out]; exact hq2
          rw [HF.out, run_none h2 n (by omega)]; exact h2⟩
        go_wp2
        exact ⟨rfl, HF2.out.1, .inr ⟨HF2.out.2, _, _, rfl⟩⟩
      generalize fO l q (some r) = ff at HE hq2 ⊢
      obtain ⟨⟨z0, z1, z2, z3⟩, f2⟩ := ff
      simp only at hq2
      subst hq2
      have HO2 : Hid (w2.ownsRow w.heap.size 36 4 o lq.length (cellsO lq)) := owns_kept HO.out HRr.out.bk.choose_spec (by decide) ht
      have HR2 : Hid (Rd B w2 R l r2) := hR2
      have HT2 : Hid (Turns (fun b => b = R) w w2) := HT.out.trans ht
      have hs2 : w.heap.size ≤ w2.heap.size := HT2.out.size
      clear ht hR2 HO HRr HT hsz
      go_wp2_with (at_builtin; refine wpList_append_own _ rfl _ _ 68 rfl w.heap.size 36 i0 (.agg #[.int .i64 0, .int .i64 0, .int .i64 0, .int .i64 0]) 4 32 Try.underlying68 hi hz0 hz1 hz2 rfl (by decide) o _ _ rfl (World.ownsRow.alloc HO2.out _) ⟨w2.heap.size, 0, none⟩ 1 1 (cellsO [⟨z0, z1, z2, z3⟩]) rfl rfl (at_newO w2 ⟨z0, z1, z2, z3⟩) (cellsO_one _) (by unfold maxLen; omega) (by omega) (by simp; omega) ?_; intro v' w6 hown hgrow hnil)
      go_roundw
      case rel =>
        refine ⟨q + 1, _, r2, by omega, rfl, by go_num, by rw [HE.out], ?_, ?_, (HT2.out.alloc _).grownNew hgrow (fun k e => row_ge HO2.out e)⟩
        · rw [HE.out, List.length_append, cellsO_append]
          exact hown
        · exact (HR2.out.alloc _).turns (grown_turns hgrow) (fun e => owns_ne HO2.out HR2.out.bk.choose_spec (by decide) e) (fun k e => Nat.le_trans hBw (row_ge HO2.out e))
      case measure => simp [intOf]; omega
    · obtain rfl : q = n := by omega
      go_wp2
      go_ret
      exact ⟨HT.out, .inl ⟨r, _, by rw [HF.out]; exact Hr.out, rfl, by rw [HF.out]; exact HO.out, HRr.out⟩⟩
end Go.Proofs.Ythjabkfnmcodbaa

