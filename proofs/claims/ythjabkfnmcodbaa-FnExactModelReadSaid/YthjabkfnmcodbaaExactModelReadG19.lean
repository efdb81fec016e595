/- MRdO, MRdH, MRdB -/
import Derived.Test.YthjabkfnmcodbaaExactModelReadG18
import Derived.Test.YthjabkfnmcodbaaExactModelReadG05
/- The specification's l2getOps. -/
namespace Go.Proofs.Ythjabkfnmcodbaa
open Go.RowKit
set_option maxRecDepth 100000 in
set_option maxHeartbeats 8000000 in
theorem getOps_any (C : Nat) (x : Value) (l : List UInt8) (σ : Option Nat) (w : World) (hl : l.length ≤ 1048576) (hσ : ∀ p, σ = some p → p ≤ l.length) (hC : Cu w C x σ) (hS : Src8 w C x l) :
    Calls Try.prog 54 #[.pointer (some ⟨C, 0, none⟩)] w fun e w' => ∃ y, e = .returned y ∧ w'.ownsRow w.heap.size 36 4 y (fR l 0 σ).1.length (cellsO (fR l 0 σ).1) ∧ Cu w' C x (fR l 0 σ).2 ∧ Turns (fun k => k = C) w w' := by
  obtain ⟨i0, hi, hz0, hz1, hz2⟩ := info_parts infoOp
  have HS : Hid (Src8 w C x l) := hS
  have HC : Hid (Cu w C x σ) := hC
  have Hσ : Hid (∀ p, σ = some p → p ≤ l.length) := hσ
  have hCw : C < w.heap.size := hC.lt
  clear hS hC hσ
  go_enter Try.func54, Try.ntmps54
  go_wp2_with fail
  refine (get1_any C x l σ _ hl Hσ.out HC.out HS.out).mono ?_
  rintro e w1 ⟨rfl, hc1, ht1⟩
  have hv := val1_low l σ
  obtain ⟨n, hn⟩ : ∃ n : Nat, n = (val1 l σ).toNat := ⟨_, rfl⟩
  have hn2 : val1 l σ = (n : Int) := by omega
  have hn3 : n ≤ 255 := by omega
  rw [hn2]
  obtain ⟨τ, hτ⟩ : ∃ τ, τ = nxt l 1 σ := ⟨_, rfl⟩
  have HF : Hid (fR l 0 σ = run (fO l) τ n) := (by unfold fR; rw [← hn, ← hτ] : fR l 0 σ = run (fO l) τ n)
  have HC1 : Hid (Cu w1 C x τ) := hτ ▸ hc1
  have HT1 : Hid (Turns (fun k => k = C) w w1) := ht1
  have Hτ : Hid (∀ p, τ = some p → p ≤ l.length) := fun p e => nxt_le (hτ ▸ e)
  clear hc1 ht1 HC hv hn hn2 hτ Hσ
  have c2 := HC1.out.flag
  go_wp2
  clear c2
  go_loopw [3, 5] (fun o i wr => ∃ (q : Nat) (v : Value), q ≤ n ∧ v = o ∧ i = .int .i64 q ∧ wr.ownsRow w.heap.size 36 4 o (run (fO l) τ q).1.length (cellsO (run (fO l) τ q).1) ∧ Cu wr C x (run (fO l) τ q).2 ∧ Turns (fun k => k = C) w wr) (fun _ i _ => n - (intOf i).toNat)
  case atStart => exact ⟨0, _, Nat.zero_le _, rfl, rfl, World.ownsRow_nil w1 _ 36 4, HC1.out, HT1.out⟩
  case round =>
    clear HC1 HT1
    obtain ⟨q, o, hq, rfl, rfl, hR, hC, hT⟩ := hrel
    have HR : Hid (wr.ownsRow w.heap.size 36 4 o (run (fO l) τ q).1.length (cellsO (run (fO l) τ q).1)) := hR
    have HCr : Hid (Cu wr C x (run (fO l) τ q).2) := hC
    have HT : Hid (Turns (fun k => k = C) w wr) := hT
    have HSr : Hid (Src8 wr C x l) := HS.out.turns hT
    have hsz : w.heap.size ≤ wr.heap.size := hT.size
    have hlq := run_length (fO l) τ q
    have c2 := hC.flag
    clear hR hC hT
    by_cases hlt : q < n
    · have hqn : (q : Int) < (n : Int) := by omega
      cases hρ : (run (fO l) τ q).2 with
      | none =>
        have HE : Hid (run (fO l) τ n = run (fO l) τ q) := run_none hρ n (by omega)
        rw [hρ] at c2
        simp only [Option.isNone_none] at c2
        have Hρ : Hid ((run (fO l) τ q).2 = none) := hρ
        clear hρ
        go_wp2
        go_ret
        exact ⟨_, rfl, by rw [HF.out, HE.out]; exact HR.out, by rw [HF.out, HE.out]; exact HCr.out, HT.out⟩
      | some p =>
        rw [hρ] at c2 HCr
        simp only [Option.isNone_some] at c2
        have HE : Hid (run (fO l) τ (q + 1) = ((run (fO l) τ q).1 ++ [(fO l q (some p)).1], (fO l q (some p)).2)) := run_some hρ
        have hp : ∀ r, some p = some r → r ≤ l.length := fun r e => run_le Hτ.out (fun k q r h => fO_le h) q r (hρ.trans e)
        have Hp : Hid (∀ r, some p = some r → r ≤ l.length) := hp
        have HFO : Hid (fO l q (some p) = (⟨val1 l (some p), val1 l (nxt l 1 (some p)), val2 l (nxt l 1 (nxt l 1 (some p))), val1 l (nxt l 2 (nxt l 1 (nxt l 1 (some p))))⟩, nxt l 1 (nxt l 2 (nxt l 1 (nxt l 1 (some p)))))) := rfl
        generalize (run (fO l) τ q).1 = lq at HR HE hlq
        clear hp hρ
        go_wp2_with fail
        clear c2
        refine (get1_any C x l (some p) _ hl Hp.out HCr.out HSr.out).mono ?_
        rintro e w2 ⟨rfl, hc2, ht2⟩
        obtain ⟨σ1, hσ1⟩ : ∃ σ1, σ1 = nxt l 1 (some p) := ⟨_, rfl⟩
        rw [← hσ1] at hc2 HFO
        have Hs1 : Hid (∀ r, σ1 = some r → r ≤ l.length) := fun r e => nxt_le (hσ1 ▸ e)
        generalize val1 l (some p) = z0 at HFO ⊢
        obtain ⟨V2, hV2⟩ : ∃ V, w2.alloc (.cells #[.int .i64 z0, .int .i64 0, .int .i64 0, .int .i64 0] 36) = V := ⟨_, rfl⟩
        have HR2 : Hid (V2.ownsRow w.heap.size 36 4 o lq.length (cellsO lq)) := hV2 ▸ World.ownsRow.alloc (owns_kept HR.out HCr.out.bk.choose_spec (by decide) ht2) _
        have HC2 : Hid (Cu V2 C x σ1) := hV2 ▸ hc2.alloc _
        have HQ2 : Hid (Bk V2 w2.heap.size 36 #[.int .i64 z0, .int .i64 0, .int .i64 0, .int .i64 0]) := hV2 ▸ Bk.new _ _ _
        have HT2 : Hid (Turns (fun k => k = C) w V2) := hV2 ▸ (HT.out.trans ht2).alloc _
        have HS2 : Hid (Src8 V2 C x l) := HS.out.turns HT2.out
        have hQC : C ≠ w2.heap.size := by have := ht2.size; omega
        have hQw : w.heap.size ≤ w2.heap.size := by have := ht2.size; omega
        have HON : Hid (¬ o.ownBlock = some w2.heap.size) := (fun e => by have := owns_lt (owns_kept HR.out HCr.out.bk.choose_spec (by decide) ht2) e; omega : ¬ o.ownBlock = some w2.heap.size)
        have HV2 : Hid (w2.alloc (.cells #[.int .i64 z0, .int .i64 0, .int .i64 0, .int .i64 0] 36) = V2) := hV2
        clear hc2 ht2 HR HCr HT HSr hσ1 hsz hV2
        go_wp2_with fail
        rw [HV2.out]
        clear HV2
        refine (get1_any C x l σ1 _ hl Hs1.out HC2.out HS2.out).mono ?_
        rintro e w3 ⟨rfl, hc3, ht3⟩
        obtain ⟨σ2, hσ2⟩ : ∃ τ, τ = nxt l 1 σ1 := ⟨_, rfl⟩
        rw [← hσ2] at hc3 HFO
        have Hs2 : Hid (∀ r, σ2 = some r → r ≤ l.length) := fun r e => nxt_le (hσ2 ▸ e)
        generalize val1 l σ1 = z1 at HFO ⊢
        have hk3 := HQ2.out.turns ht3 (fun e => hQC e.symm)
        have q3 := hk3.cell (i := 1) rfl
        have f3 := hk3.free 1
        obtain ⟨V3, hV3⟩ : ∃ V, w3.setCell ⟨w2.heap.size, 1, none⟩ (.int .i64 z1) = V := ⟨_, rfl⟩
        have HR3 : Hid (V3.ownsRow w.heap.size 36 4 o lq.length (cellsO lq)) := hV3 ▸ owns_turns (owns_kept HR2.out HC2.out.bk.choose_spec (by decide) ht3) (put1_turns _ _ _ _) (fun k hk e => HON.out (e ▸ hk))
        have HC3 : Hid (Cu V3 C x σ2) := hV3 ▸ hc3.other hQC _ _
        have HQ3 : Hid (Bk V3 w2.heap.size 36 #[.int .i64 z0, .int .i64 z1, .int .i64 0, .int .i64 0]) := hV3 ▸ hk3.put 1 _
        have HT3 : Hid (Turns (fun k => k = C) w V3) := hV3 ▸ (HT2.out.trans ht3).setNew hQw _ _
        have HS3 : Hid (Src8 V3 C x l) := HS.out.turns HT3.out
        clear hc3 ht3 hk3 HR2 HC2 HQ2 HT2 HS2 hσ2
        go_wp2_with fail
        refine (get2_any C x l σ2 _ hl Hs2.out HC3.out HS3.out).mono ?_
        rintro e w4 ⟨rfl, hc4, ht4⟩
        obtain ⟨σ3, hσ3⟩ : ∃ τ, τ = nxt l 2 σ2 := ⟨_, rfl⟩
        rw [← hσ3] at hc4 HFO
        have Hs3 : Hid (∀ r, σ3 = some r → r ≤ l.length) := fun r e => nxt_le (hσ3 ▸ e)
        generalize val2 l σ2 = z2 at HFO ⊢
        have hk4 := HQ3.out.turns ht4 (fun e => hQC e.symm)
        have q4 := hk4.cell (i := 2) rfl
        have f4 := hk4.free 2
        obtain ⟨V4, hV4⟩ : ∃ V, w4.setCell ⟨w2.heap.size, 2, none⟩ (.int .i64 z2) = V := ⟨_, rfl⟩
        have HR4 : Hid (V4.ownsRow w.heap.size 36 4 o lq.length (cellsO lq)) := hV4 ▸ owns_turns (owns_kept HR3.out HC3.out.bk.choose_spec (by decide) ht4) (put1_turns _ _ _ _) (fun k hk e => HON.out (e ▸ hk))
        have HC4 : Hid (Cu V4 C x σ3) := hV4 ▸ hc4.other hQC _ _
        have HQ4 : Hid (Bk V4 w2.heap.size 36 #[.int .i64 z0, .int .i64 z1, .int .i64 z2, .int .i64 0]) := hV4 ▸ hk4.put 2 _
        have HT4 : Hid (Turns (fun k => k = C) w V4) := hV4 ▸ (HT3.out.trans ht4).setNew hQw _ _
        have HS4 : Hid (Src8 V4 C x l) := HS.out.turns HT4.out
        clear hc4 ht4 hk4 HR3 HC3 HQ3 HT3 HS3 hσ3
        go_wp2_with fail
        refine (get1_any C x l σ3 _ hl Hs3.out HC4.out HS4.out).mono ?_
        rintro e w5 ⟨rfl, hc5, ht5⟩
        obtain ⟨σ4, hσ4⟩ : ∃ τ, τ = nxt l 1 σ3 := ⟨_, rfl⟩
        rw [← hσ4] at hc5 HFO
        have Hs4 : Hid (∀ r, σ4 = some r → r ≤ l.length) := fun r e => nxt_le (hσ4 ▸ e)
        generalize val1 l σ3 = z3 at HFO ⊢
        have hk5 := HQ4.out.turns ht5 (fun e => hQC e.symm)
        have q5 := hk5.cell (i := 3) rfl
        have f5 := hk5.free 3
        obtain ⟨V5, hV5⟩ : ∃ V, w5.setCell ⟨w2.heap.size, 3, none⟩ (.int .i64 z3) = V := ⟨_, rfl⟩
        have HR5 : Hid (V5.ownsRow w.heap.size 36 4 o lq.length (cellsO lq)) := hV5 ▸ owns_turns (owns_kept HR4.out HC4.out.bk.choose_spec (by decide) ht5) (put1_turns _ _ _ _) (fun k hk e => HON.out (e ▸ hk))
        have HC5 : Hid (Cu V5 C x σ4) := hV5 ▸ hc5.other hQC _ _
        have HQ5 : Hid (Bk V5 w2.heap.size 36 #[.int .i64 z0, .int .i64 z1, .int .i64 z2, .int .i64 z3]) := hV5 ▸ hk5.put 3 _
        have HT5 : Hid (Turns (fun k => k = C) w V5) := hV5 ▸ (HT4.out.trans ht5).setNew hQw _ _
        have HS5 : Hid (Src8 V5 C x l) := HS.out.turns HT5.out
        clear hc5 ht5 hk5 HR4 HC4 HQ4 HT4 HS4 hσ4
        have e0 := HQ5.out.cell (i := 0) rfl
        have e1 := HQ5.out.cell (i := 1) rfl
        have e2 := HQ5.out.cell (i := 2) rfl
        have e3 := HQ5.out.cell (i := 3) rfl
        have hs5 : w.heap.size ≤ V5.heap.size := HT5.out.size
        go_wp2_with (at_builtin; refine wpList_append_own _ rfl _ _ 68 rfl w.heap.size 36 i0 (.agg #[.int .i64 0, .int .i64 0, .int .i64 0, .int .i64 0]) 4 32 Try.underlying68 hi hz0 hz1 hz2 rfl (by decide) o _ _ rfl (World.ownsRow.alloc HR5.out _) ⟨V5.heap.size, 0, none⟩ 1 1 (cellsO [⟨z0, z1, z2, z3⟩]) rfl rfl (at_newO V5 ⟨z0, z1, z2, z3⟩) (cellsO_one _) (by unfold maxLen; omega) (by omega) (by simp; omega) ?_; intro v' w6 hown hgrow hnil)
        go_roundw
        case rel =>
          refine ⟨q + 1, _, by omega, rfl, by go_num, ?_, ?_, (HT5.out.alloc _).grownNew hgrow (fun k e => row_ge HR5.out e)⟩
          · rw [HE.out, HFO.out, List.length_append, cellsO_append]
            exact hown
          · rw [HE.out, HFO.out]
            exact (HC5.out.alloc _).turns (grown_turns hgrow) (fun e => owns_ne HR5.out HC5.out.bk.choose_spec (by decide) e)
        case measure => simp [intOf]; omega
    · obtain rfl : q = n := by omega
      go_wp2
      go_ret
      exact ⟨_, rfl, by rw [HF.out]; exact HR.out, by rw [HF.out]; exact HCr.out, HT.out⟩
end Go.Proofs.Ythjabkfnmcodbaa

/- Handlers that are read: rows, each of its own. -/
namespace Go.Proofs.Ythjabkfnmcodbaa
open Go.RowKit
def uAt (us : List Value) (i : Nat) : Value := us.getD i (.slice none 0 0)
def HsO (B : Nat) (w : World) (us : List Value) (hs : List (List O)) : Prop :=
  us.length = hs.length ∧ (∀ i, i < hs.length → w.ownsRow B 36 4 (uAt us i) (hAt hs i).length (cellsO (hAt hs i))) ∧ ∀ i j k, i < j → j < hs.length → (uAt us i).ownBlock = some k → ¬ (uAt us j).ownBlock = some k
theorem HsO.nil (B : Nat) (w : World) : HsO B w [] [] := ⟨rfl, fun i hi => by simp at hi, fun i j k _ hj => by simp at hj⟩
theorem HsO.turns {S : Nat → Prop} {B : Nat} {w w' : World} {us : List Value} {hs : List (List O)} (h : HsO B w us hs) (ht : Turns S w w') (hS : ∀ i k, i < hs.length → (uAt us i).ownBlock = some k → ¬ S k) : HsO B w' us hs :=
  ⟨h.1, fun i hi => owns_turns (h.2.1 i hi) ht (fun k hk => hS i k hi hk), h.2.2⟩
theorem HsO.kept {B C : Nat} {T : TypeId} {w w' : World} {us : List Value} {hs : List (List O)} {vs : Array Value} (h : HsO B w us hs) (hb : Bk w C T vs) (hT : T ≠ 36) (ht : Turns (fun k => k = C) w w') : HsO B w' us hs :=
  h.turns ht (fun i _ hi hk e => owns_ne (h.2.1 i hi) hb hT (e ▸ hk))
theorem HsO.below {B : Nat} {w w' : World} {us : List Value} {hs : List (List O)} (h : HsO B w us hs) (hb : Below w.heap.size w w') : HsO B w' us hs :=
  h.turns (S := fun _ => False) (Turns.of_below hb) (fun _ _ _ _ e => e)
theorem HsO.alloc {B : Nat} {w : World} {us : List Value} {hs : List (List O)} (h : HsO B w us hs) (o : Obj) : HsO B (w.alloc o) us hs := h.below ((Below.refl _ w).alloc (Nat.le_refl _) o)
theorem uAt_left {us : List Value} {u : Value} {i : Nat} (h : i < us.length) : uAt (us ++ [u]) i = uAt us i := by
  unfold uAt; simp [List.getElem?_append_left h]
theorem uAt_last (us : List Value) (u : Value) : uAt (us ++ [u]) us.length = u := by unfold uAt; simp
theorem hAt_left {hs : List (List O)} {r : List O} {i : Nat} (h : i < hs.length) : hAt (hs ++ [r]) i = hAt hs i := by
  unfold hAt; simp [List.getElem?_append_left h]
theorem hAt_last (hs : List (List O)) (r : List O) : hAt (hs ++ [r]) hs.length = r := by unfold hAt; simp
theorem owns_mono {B B' : Nat} {e : TypeId} {size n : Nat} {w : World} {v : Value} {xs : List Value} (h : w.ownsRow B e size v n xs) (hB : B' ≤ B) : w.ownsRow B' e size v n xs := by
  obtain ⟨h0, h1 | ⟨g, cap, cur, e, hg, h2⟩⟩ := h
  · exact ⟨h0, .inl h1⟩
  · exact ⟨h0, .inr ⟨g, cap, cur, e, Nat.le_trans hB hg, h2⟩⟩
theorem HsO.snoc {B B' : Nat} {w : World} {us : List Value} {hs : List (List O)} {u : Value} {r : List O} (h : HsO B w us hs) (hr : w.ownsRow B' 36 4 u r.length (cellsO r)) (hB : B ≤ B') (hold : ∀ i k, i < hs.length → (uAt us i).ownBlock = some k → k < B') : HsO B w (us ++ [u]) (hs ++ [r]) := by
  obtain ⟨h0, h1, h2⟩ := h
  refine ⟨by simp [h0], fun i hi => ?_, fun i j k hij hj hk => ?_⟩
  · by_cases e : i < hs.length
    · rw [uAt_left (by omega), hAt_left e]; exact h1 i e
    · have : i = hs.length := by simp at hi; omega
      subst this
      rw [hAt_last, ← h0, uAt_last]
      exact owns_mono hr hB
  · by_cases e : j < hs.length
    · rw [uAt_left (by omega)] at hk ⊢
      exact h2 i j k hij e hk
    · have : j = hs.length := by simp at hj; omega
      subst this
      rw [uAt_left (by omega)] at hk
      rw [← h0, uAt_last]
      intro e2
      have := hold i k hij hk
      have := row_ge hr e2
      omega
theorem HsO.old {B : Nat} {w : World} {us : List Value} {hs : List (List O)} (h : HsO B w us hs) : ∀ i k, i < hs.length → (uAt us i).ownBlock = some k → k < w.heap.size := fun i _ hi hk => owns_lt (h.2.1 i hi) hk
theorem HsO.isH {B B' : Nat} {w : World} {us : List Value} {hs : List (List O)} {v : Value} (h : HsO B w us hs) (hv : w.ownsRow B' 68 1 v hs.length us) : IsH w v hs := by
  have hF := RowF.of_owns (by rw [h.1]; omega) hv
  obtain ⟨hl, a, cap, rfl, h1, h2, h3⟩ := hF
  refine ⟨a, cap, rfl, h1, h2, h3.imp List.eq_nil_of_length_eq_zero ?_⟩
  rintro ⟨g, rfl, _, hg, hc⟩
  refine ⟨g, 0, rfl, hg, fun i hi => ⟨uAt us i, ?_, (RowF.of_owns (cellsO_length _) (h.2.1 i hi)).isO⟩⟩
  rw [Nat.zero_add, (hc i (by omega)).1]
  unfold uAt
  rw [List.getD_eq_getElem?_getD, List.getElem?_eq_getElem (by rw [h.1]; exact hi)]
  rfl
theorem infoSS : (Try.prog.info? 68).map (fun i => (i.zero, i.size, i.bytes)) = some (some (.slice none 0 0), 1, 24) := by kernel_rfl
theorem infoEv : (Try.prog.info? 70).map (fun i => (i.zero, i.size, i.bytes)) = some (some (.agg #[.int .i64 0, .int .i64 0, .int .i64 0, .int .i64 0, .int .i64 0, .int .i64 0, .int .i64 0]), 7, 56) := by kernel_rfl
theorem at_newI (w : World) (z : Int) : ∀ j u, (intCells [z])[j]? = some u → (w.alloc (.cells #[.int .i64 z] 3)).cell? ((⟨w.heap.size, 0, none⟩ : Addr).add j) = some u := by
  intro j u hu
  rw [Addr.add_lit, Nat.zero_add]
  exact (Bk.new w 3 #[.int .i64 z]).cell (by simpa [intCells] using hu)
theorem at_newS (w : World) (v : Value) (T : TypeId) : ∀ j u, [v][j]? = some u → (w.alloc (.cells #[v] T)).cell? ((⟨w.heap.size, 0, none⟩ : Addr).add j) = some u := by
  intro j u hu
  rw [Addr.add_lit, Nat.zero_add]
  exact (Bk.new w T #[v]).cell (by simpa using hu)
theorem at_newE (w : World) (e : Ev) : ∀ j u, (cellsL [e])[j]? = some u → (w.alloc (.cells #[.int .i64 e.t, .int .i64 e.s, .int .i64 e.q, .int .i64 e.d, .int .i64 e.k, .int .i64 e.v, .int .i64 e.g] 70)).cell? ((⟨w.heap.size, 0, none⟩ : Addr).add j) = some u := by
  intro j u hu
  rw [Addr.add_lit, Nat.zero_add]
  exact (Bk.new w 70 #[.int .i64 e.t, .int .i64 e.s, .int .i64 e.q, .int .i64 e.d, .int .i64 e.k, .int .i64 e.v, .int .i64 e.g]).cell (by simpa [cellsL, Ev.cs] using hu)
theorem intCells_ones (l : List Int) : ∀ u ∈ intCells l, u.oneCell' = true := by
  intro u hu
  obtain ⟨z, _, rfl⟩ := List.mem_map.1 hu
  rfl
theorem slice_ones (a : Option Addr) (n c : Nat) : ∀ u ∈ [Value.slice a n c], u.oneCell' = true := by
  intro u hu
  simp at hu
  subst hu
  rfl
theorem owns_slice {B : Nat} {e : TypeId} {size n : Nat} {w : World} {v : Value} {xs : List Value} (h : w.ownsRow B e size v n xs) : ∃ a cap, v = .slice a n cap := by
  obtain ⟨_, ⟨rfl, h0⟩ | ⟨g, cap, cur, rfl, _⟩⟩ := h
  · exact ⟨none, 0, by rw [h0]⟩
  · exact ⟨_, _, rfl⟩
theorem fR_le {l : List UInt8} {k p : Nat} {q : Nat} (h : (fR l k (some q)).2 = some p) : p ≤ l.length := run_le (σ := nxt l 1 (some q)) (fun _ e => nxt_le e) (fun _ _ _ h => fO_le h) _ _ h
theorem fE_le {l : List UInt8} {k p : Nat} {σ : Option Nat} (h : (fE l k σ).2 = some p) : p ≤ l.length := nxt_le h
theorem fI_le {l : List UInt8} {k p : Nat} {σ : Option Nat} (h : (fI l k σ).2 = some p) : p ≤ l.length := nxt_le h
end Go.Proofs.Ythjabkfnmcodbaa

/- A model that is being read: its struct in block Mb, its lists in rows of their own; the answer's struct, still zero, in block Rb. -/
namespace Go.Proofs.Ythjabkfnmcodbaa
open Go.RowKit
abbrev Z6 : Array Value := #[.int .i64 0, .int .i64 0, .slice none 0 0, .slice none 0 0, .slice none 0 0, .int .i64 0]
structure MB (w : World) (B Rb Mb : Nat) (m : Md) (vi vh vs : Value) (us : List Value) : Prop where
  ne : Rb ≠ Mb
  r : Bk w Rb 34 Z6
  b : Bk w Mb 34 #[.int .i64 m.n, .int .i64 m.s, vi, vh, vs, .int .i64 m.z]
  i : w.ownsRow B 3 1 vi m.i.length (intCells m.i)
  h : w.ownsRow B 68 1 vh m.h.length us
  u : HsO B w us m.h
  e : w.ownsRow B 70 7 vs m.e.length (cellsL m.e)
theorem MB.turns {S : Nat → Prop} {w w' : World} {B Rb Mb : Nat} {m : Md} {vi vh vs : Value} {us : List Value} (g : MB w B Rb Mb m vi vh vs us) (ht : Turns S w w') (h1 : ¬ S Rb) (h2 : ¬ S Mb) (h3 : ∀ k, vi.ownBlock = some k → ¬ S k) (h4 : ∀ k, vh.ownBlock = some k → ¬ S k) (h5 : ∀ i k, i < m.h.length → (uAt us i).ownBlock = some k → ¬ S k) (h6 : ∀ k, vs.ownBlock = some k → ¬ S k) : MB w' B Rb Mb m vi vh vs us :=
  ⟨g.ne, g.r.turns ht h1, g.b.turns ht h2, owns_turns g.i ht h3, owns_turns g.h ht h4, g.u.turns ht h5, owns_turns g.e ht h6⟩
theorem Bk.neq {w : World} {P Q : Nat} {T U : TypeId} {vs us : Array Value} (h : Bk w P T vs) (k : Bk w Q U us) (hT : T ≠ U) : P ≠ Q := by
  intro e
  subst e
  have h' : w.heap[P]? = some (.cells vs T) := h
  have k' : w.heap[P]? = some (.cells us U) := k
  rw [h'] at k'
  simp at k'
  exact hT k'.2
/- Another struct turns. -/
theorem MB.kept {w w' : World} {B Rb Mb C : Nat} {T : TypeId} {ws : Array Value} {m : Md} {vi vh vs : Value} {us : List Value} (g : MB w B Rb Mb m vi vh vs us) (hb : Bk w C T ws) (t1 : T ≠ 34) (t2 : T ≠ 3) (t3 : T ≠ 68) (t4 : T ≠ 36) (t5 : T ≠ 70) (ht : Turns (fun k => k = C) w w') : MB w' B Rb Mb m vi vh vs us :=
  g.turns ht (fun e => g.r.neq hb t1.symm e) (fun e => g.b.neq hb t1.symm e) (fun _ hk e => owns_ne g.i hb t2 (e ▸ hk)) (fun _ hk e => owns_ne g.h hb t3 (e ▸ hk)) (fun i _ hi hk e => owns_ne (g.u.2.1 i hi) hb t4 (e ▸ hk)) (fun _ hk e => owns_ne g.e hb t5 (e ▸ hk))
theorem MB.below {w w' : World} {B Rb Mb : Nat} {m : Md} {vi vh vs : Value} {us : List Value} (g : MB w B Rb Mb m vi vh vs us) (hb : Below w.heap.size w w') : MB w' B Rb Mb m vi vh vs us :=
  g.turns (S := fun _ => False) (Turns.of_below hb) id id (fun _ _ => id) (fun _ _ => id) (fun _ _ _ _ => id) (fun _ _ => id)
theorem MB.alloc {w : World} {B Rb Mb : Nat} {m : Md} {vi vh vs : Value} {us : List Value} (g : MB w B Rb Mb m vi vh vs us) (o : Obj) : MB (w.alloc o) B Rb Mb m vi vh vs us := g.below ((Below.refl _ w).alloc (Nat.le_refl _) o)
theorem MB.drew {w : World} {B Rb Mb : Nat} {m : Md} {vi vh vs : Value} {us : List Value} (g : MB w B Rb Mb m vi vh vs us) : MB w.drew B Rb Mb m vi vh vs us := g.below (Below.refl _ w).drew
theorem owns_apart {B B' : Nat} {e e' : TypeId} {size n size' n' : Nat} {w : World} {v v' : Value} {xs xs' : List Value} (h : w.ownsRow B e size v n xs) (h' : w.ownsRow B' e' size' v' n' xs') (he : e ≠ e') {k : Nat} (hk : v.ownBlock = some k) : ¬ v'.ownBlock = some k := by
  intro hk'
  obtain ⟨_, ⟨rfl, _⟩ | ⟨g, cap, cur, rfl, _, hc, _⟩⟩ := h
  · simp [Value.ownBlock] at hk
  · obtain ⟨_, ⟨rfl, _⟩ | ⟨g', cap', cur', rfl, _, hc', _⟩⟩ := h'
    · simp [Value.ownBlock] at hk'
    · simp [Value.ownBlock] at hk hk'
      subst hk hk'
      rw [hc] at hc'
      simp at hc'
      exact he hc'.2
/- A number goes into the struct. -/
theorem MB.putN {w : World} {B Rb Mb : Nat} {m : Md} {vi vh vs : Value} {us : List Value} (g : MB w B Rb Mb m vi vh vs us) (z : Int) : MB (w.setCell ⟨Mb, 5, none⟩ (.int .i64 z)) B Rb Mb ⟨m.n, m.s, m.i, m.h, m.e, z⟩ vi vh vs us := by
  have ht := put1_turns w Mb 5 (.int .i64 z)
  exact ⟨g.ne, g.r.turns ht g.ne, g.b.put 5 _, owns_turns g.i ht (fun k hk e => owns_ne g.i g.b (by decide) (e ▸ hk)), owns_turns g.h ht (fun k hk e => owns_ne g.h g.b (by decide) (e ▸ hk)), g.u.turns ht (fun i k hi hk e => owns_ne (g.u.2.1 i hi) g.b (by decide) (e ▸ hk)), owns_turns g.e ht (fun k hk e => owns_ne g.e g.b (by decide) (e ▸ hk))⟩
theorem MB.putS {w : World} {B Rb Mb : Nat} {m : Md} {vi vh vs : Value} {us : List Value} (g : MB w B Rb Mb m vi vh vs us) (z : Int) : MB (w.setCell ⟨Mb, 1, none⟩ (.int .i64 z)) B Rb Mb ⟨m.n, z, m.i, m.h, m.e, m.z⟩ vi vh vs us := by
  have ht := put1_turns w Mb 1 (.int .i64 z)
  exact ⟨g.ne, g.r.turns ht g.ne, g.b.put 1 _, owns_turns g.i ht (fun k hk e => owns_ne g.i g.b (by decide) (e ▸ hk)), owns_turns g.h ht (fun k hk e => owns_ne g.h g.b (by decide) (e ▸ hk)), g.u.turns ht (fun i k hi hk e => owns_ne (g.u.2.1 i hi) g.b (by decide) (e ▸ hk)), owns_turns g.e ht (fun k hk e => owns_ne g.e g.b (by decide) (e ▸ hk))⟩
theorem MB.putL {w : World} {B Rb Mb : Nat} {m : Md} {vi vh vs : Value} {us : List Value} (g : MB w B Rb Mb m vi vh vs us) (z : Int) : MB (w.setCell ⟨Mb, 0, none⟩ (.int .i64 z)) B Rb Mb ⟨z, m.s, m.i, m.h, m.e, m.z⟩ vi vh vs us := by
  have ht := put1_turns w Mb 0 (.int .i64 z)
  exact ⟨g.ne, g.r.turns ht g.ne, g.b.put 0 _, owns_turns g.i ht (fun k hk e => owns_ne g.i g.b (by decide) (e ▸ hk)), owns_turns g.h ht (fun k hk e => owns_ne g.h g.b (by decide) (e ▸ hk)), g.u.turns ht (fun i k hi hk e => owns_ne (g.u.2.1 i hi) g.b (by decide) (e ▸ hk)), owns_turns g.e ht (fun k hk e => owns_ne g.e g.b (by decide) (e ▸ hk))⟩
/- One of the lists has grown, and its new slice goes into the struct. -/
theorem MB.putI {w w3 : World} {B Rb Mb : Nat} {m : Md} {vi vh vs v3 : Value} {us : List Value} {z : Int} (g : MB w B Rb Mb m vi vh vs us) (ho : w3.ownsRow B 3 1 v3 (m.i.length + 1) (intCells m.i ++ intCells [z])) (hg : w.grownBy w3 vi.ownBlock) : MB (w3.setCell ⟨Mb, 2, none⟩ v3) B Rb Mb ⟨m.n, m.s, m.i ++ [z], m.h, m.e, m.z⟩ v3 vh vs us := by
  have ht := grown_turns hg
  have n1 := owns_ne g.i g.r (by decide)
  have n2 := owns_ne g.i g.b (by decide)
  have r3 := g.r.turns ht n1
  have b3 := g.b.turns ht n2
  have h3 := owns_turns g.h ht (fun k hk e => owns_apart g.i g.h (by decide) e hk)
  have u3 := g.u.turns ht (fun i k hi hk e => owns_apart g.i (g.u.2.1 i hi) (by decide) e hk)
  have e3 := owns_turns g.e ht (fun k hk e => owns_apart g.i g.e (by decide) e hk)
  have hp := put1_turns w3 Mb 2 v3
  refine ⟨g.ne, r3.turns hp g.ne, b3.put 2 _, ?_, owns_turns h3 hp (fun k hk e => owns_ne h3 b3 (by decide) (e ▸ hk)), u3.turns hp (fun i k hi hk e => owns_ne (u3.2.1 i hi) b3 (by decide) (e ▸ hk)), owns_turns e3 hp (fun k hk e => owns_ne e3 b3 (by decide) (e ▸ hk))⟩
  have := owns_turns ho hp (fun k hk e => owns_ne ho b3 (by decide) (e ▸ hk))
  simpa [intCells] using this
theorem MB.putH {w w3 : World} {B B' Rb Mb : Nat} {m : Md} {vi vh vs v3 u : Value} {us : List Value} {r : List O} (g : MB w B Rb Mb m vi vh vs us) (hu : w.ownsRow B' 36 4 u r.length (cellsO r)) (hB : B ≤ B') (hold : ∀ i k, i < m.h.length → (uAt us i).ownBlock = some k → k < B') (ho : w3.ownsRow B 68 1 v3 (m.h.length + 1) (us ++ [u])) (hg : w.grownBy w3 vh.ownBlock) : MB (w3.setCell ⟨Mb, 3, none⟩ v3) B Rb Mb ⟨m.n, m.s, m.i, m.h ++ [r], m.e, m.z⟩ vi v3 vs (us ++ [u]) := by
  have ht := grown_turns hg
  have r3 := g.r.turns ht (owns_ne g.h g.r (by decide))
  have b3 := g.b.turns ht (owns_ne g.h g.b (by decide))
  have i3 := owns_turns g.i ht (fun k hk e => owns_apart g.h g.i (by decide) e hk)
  have u3 := (g.u.snoc hu hB hold).turns ht (fun i k hi hk e => owns_apart g.h ((g.u.snoc hu hB hold).2.1 i hi) (by decide) e hk)
  have e3 := owns_turns g.e ht (fun k hk e => owns_apart g.h g.e (by decide) e hk)
  have hp := put1_turns w3 Mb 3 v3
  refine ⟨g.ne, r3.turns hp g.ne, b3.put 3 _, owns_turns i3 hp (fun k hk e => owns_ne i3 b3 (by decide) (e ▸ hk)), ?_, u3.turns hp (fun i k hi hk e => owns_ne (u3.2.1 i hi) b3 (by decide) (e ▸ hk)), owns_turns e3 hp (fun k hk e => owns_ne e3 b3 (by decide) (e ▸ hk))⟩
  have := owns_turns ho hp (fun k hk e => owns_ne ho b3 (by decide) (e ▸ hk))
  simpa using this
theorem MB.putE {w w3 : World} {B Rb Mb : Nat} {m : Md} {vi vh vs v3 : Value} {us : List Value} {x : Ev} (g : MB w B Rb Mb m vi vh vs us) (ho : w3.ownsRow B 70 7 v3 (m.e.length + 1) (cellsL m.e ++ cellsL [x])) (hg : w.grownBy w3 vs.ownBlock) : MB (w3.setCell ⟨Mb, 4, none⟩ v3) B Rb Mb ⟨m.n, m.s, m.i, m.h, m.e ++ [x], m.z⟩ vi vh v3 us := by
  have ht := grown_turns hg
  have r3 := g.r.turns ht (owns_ne g.e g.r (by decide))
  have b3 := g.b.turns ht (owns_ne g.e g.b (by decide))
  have i3 := owns_turns g.i ht (fun k hk e => owns_apart g.e g.i (by decide) e hk)
  have h3 := owns_turns g.h ht (fun k hk e => owns_apart g.e g.h (by decide) e hk)
  have u3 := g.u.turns ht (fun i k hi hk e => owns_apart g.e (g.u.2.1 i hi) (by decide) e hk)
  have hp := put1_turns w3 Mb 4 v3
  refine ⟨g.ne, r3.turns hp g.ne, b3.put 4 _, owns_turns i3 hp (fun k hk e => owns_ne i3 b3 (by decide) (e ▸ hk)), owns_turns h3 hp (fun k hk e => owns_ne h3 b3 (by decide) (e ▸ hk)), u3.turns hp (fun i k hi hk e => owns_ne (u3.2.1 i hi) b3 (by decide) (e ▸ hk)), ?_⟩
  have := owns_turns ho hp (fun k hk e => owns_ne ho b3 (by decide) (e ▸ hk))
  rw [List.length_append, cellsL_append]
  exact this
theorem MB.isM {w : World} {B Rb Mb : Nat} {m : Md} {vi vh vs : Value} {us : List Value} (g : MB w B Rb Mb m vi vh vs us) : IsM w (.agg #[.int .i64 m.n, .int .i64 m.s, vi, vh, vs, .int .i64 m.z]) m :=
  ⟨vi, vh, vs, rfl, (RowF.of_owns (by rw [intCells_length]; omega) g.i).isI, g.u.isH g.h, (RowF.of_owns (cellsL_length _) g.e).isEvs⟩
theorem MB.new {w : World} {B Rb Mb : Nat} {n : Int} (ne : Rb ≠ Mb) (r : Bk w Rb 34 Z6) (b : Bk w Mb 34 #[.int .i64 n, .int .i64 0, .slice none 0 0, .slice none 0 0, .slice none 0 0, .int .i64 0]) : MB w B Rb Mb ⟨n, 0, [], [], [], 0⟩ (.slice none 0 0) (.slice none 0 0) (.slice none 0 0) [] :=
  ⟨ne, r, b, World.ownsRow_nil w _ 3 1, World.ownsRow_nil w _ _ 1, HsO.nil _ _, World.ownsRow_nil w _ _ 7⟩
/- All of it lies below N. -/
def Aw (N Rb Mb : Nat) (vi vh vs : Value) (us : List Value) (n : Nat) : Prop := Rb < N ∧ Mb < N ∧ (∀ k, vi.ownBlock = some k → k < N) ∧ (∀ k, vh.ownBlock = some k → k < N) ∧ (∀ i k, i < n → (uAt us i).ownBlock = some k → k < N) ∧ ∀ k, vs.ownBlock = some k → k < N
theorem MB.aw {w : World} {B Rb Mb : Nat} {m : Md} {vi vh vs : Value} {us : List Value} (g : MB w B Rb Mb m vi vh vs us) : Aw w.heap.size Rb Mb vi vh vs us m.h.length :=
  ⟨g.r.lt, g.b.lt, fun _ hk => owns_lt g.i hk, fun _ hk => owns_lt g.h hk, g.u.old, fun _ hk => owns_lt g.e hk⟩
theorem MB.put1 {w : World} {N B Rb Mb : Nat} {m : Md} {vi vh vs : Value} {us : List Value} (g : MB w B Rb Mb m vi vh vs us) (a : Aw N Rb Mb vi vh vs us m.h.length) {b : Nat} (hb : N ≤ b) (o : Nat) (u : Value) : MB (w.setCell ⟨b, o, none⟩ u) B Rb Mb m vi vh vs us := by
  obtain ⟨a1, a2, a3, a4, a5, a6⟩ := a
  exact g.turns (put1_turns w b o u) (fun e => by omega) (fun e => by omega) (fun k hk e => by have := a3 k hk; omega) (fun k hk e => by have := a4 k hk; omega) (fun i k hi hk e => by have := a5 i k hi hk; omega) (fun k hk e => by have := a6 k hk; omega)
theorem HsO.isHT {S : Nat → Prop} {B B' : Nat} {w w' : World} {us : List Value} {hs : List (List O)} {v : Value} (h : HsO B w us hs) (hv : w.ownsRow B' 68 1 v hs.length us) (ht : Turns S w w') (h1 : ∀ i k, i < hs.length → (uAt us i).ownBlock = some k → ¬ S k) (h2 : ∀ k, v.ownBlock = some k → ¬ S k) : IsH w' v hs := (h.turns ht h1).isH (owns_turns hv ht h2)
/- The answer is laid into block Rb. -/
theorem MB.done {w w' : World} {B Rb Mb : Nat} {m : Md} {vi vh vs : Value} {us : List Value} (g : MB w B Rb Mb m vi vh vs us) (ht : Turns (fun k => k = Rb) w w') : IsM w' (.agg #[.int .i64 m.n, .int .i64 m.s, vi, vh, vs, .int .i64 m.z]) m :=
  ⟨vi, vh, vs, rfl, (RowF.of_owns (by rw [intCells_length]; omega) (owns_turns g.i ht (fun _ hk e => owns_ne g.i g.r (by decide) (e ▸ hk)))).isI, g.u.isHT g.h ht (fun i _ hi hk e => owns_ne (g.u.2.1 i hi) g.r (by decide) (e ▸ hk)) (fun _ hk e => owns_ne g.h g.r (by decide) (e ▸ hk)), (RowF.of_owns (cellsL_length _) (owns_turns g.e ht (fun _ hk e => owns_ne g.e g.r (by decide) (e ▸ hk)))).isEvs⟩
theorem isM_zero (w : World) : IsM w (.agg Z6) zeroM :=
  ⟨.slice none 0 0, .slice none 0 0, .slice none 0 0, rfl, ⟨none, 0, rfl, Nat.le_refl _, Nat.zero_le _, .inl rfl⟩, ⟨none, 0, rfl, Nat.le_refl _, Nat.zero_le _, .inl rfl⟩, ⟨none, 0, rfl, Nat.le_refl _, Nat.zero_le _, .inl rfl⟩⟩
end Go.Proofs.Ythjabkfnmcodbaa

