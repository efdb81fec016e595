/- MRdP, MRdG, MRdL -/
import Derived.Test.YthjabkfnmcodbaaExactModelReadG17
import Derived.Test.YthjabkfnmcodbaaExactModelReadG03
import Derived.Test.YthjabkfnmcodbaaExactModelReadLMOpJ
/- ModelRead: plain words. Where one is: some place, or nowhere (what is there was not enough). -/
namespace Go.Proofs.Ythjabkfnmcodbaa
open Go.RowKit
def by8 (l : List UInt8) (p : Nat) : Int := ((By.intAt l p).toNat : Int)
theorem by8_low (l : List UInt8) (p : Nat) : 0 ≤ by8 l p ∧ by8 l p ≤ 255 := by
  have := (By.intAt l p).toNat_lt
  unfold by8
  omega
def val1 (l : List UInt8) (σ : Option Nat) : Int := match σ with
  | none => 0
  | some p => if p + 1 ≤ l.length then by8 l p else 0
def val2 (l : List UInt8) (σ : Option Nat) : Int := match σ with
  | none => 0
  | some p => if p + 2 ≤ l.length then by8 l p * 256 + by8 l (p + 1) else 0
def nxt (l : List UInt8) (n : Nat) (σ : Option Nat) : Option Nat := match σ with
  | none => none
  | some p => if p + n ≤ l.length then some (p + n) else none
theorem val1_low (l : List UInt8) (σ : Option Nat) : 0 ≤ val1 l σ ∧ val1 l σ ≤ 255 := by
  unfold val1
  split
  · omega
  · next p =>
    split
    · exact by8_low l p
    · omega
theorem val2_low (l : List UInt8) (σ : Option Nat) : 0 ≤ val2 l σ ∧ val2 l σ ≤ 65535 := by
  unfold val2
  split
  · omega
  · next p =>
    split
    · have := by8_low l p
      have := by8_low l (p + 1)
      omega
    · omega
/- So many rounds of f, as long as one is somewhere. -/
def run {α : Type} (f : Nat → Option Nat → α × Option Nat) (σ : Option Nat) : Nat → List α × Option Nat
  | 0 => ([], σ)
  | k + 1 => match (run f σ k).2 with
    | none => run f σ k
    | some p => ((run f σ k).1 ++ [(f k (some p)).1], (f k (some p)).2)
theorem run_some {α : Type} {f : Nat → Option Nat → α × Option Nat} {σ : Option Nat} {k p : Nat} (h : (run f σ k).2 = some p) : run f σ (k + 1) = ((run f σ k).1 ++ [(f k (some p)).1], (f k (some p)).2) := by
  show (match (run f σ k).2 with | none => run f σ k | some p => _) = _
  rw [h]
theorem run_none {α : Type} {f : Nat → Option Nat → α × Option Nat} {σ : Option Nat} {k : Nat} (h : (run f σ k).2 = none) : ∀ n, k ≤ n → run f σ n = run f σ k := by
  intro n hn
  induction hn with
  | refl => rfl
  | step _ ih =>
    rename_i n _
    show (match (run f σ n).2 with | none => run f σ n | some p => _) = _
    rw [ih, h]
theorem run_length {α : Type} (f : Nat → Option Nat → α × Option Nat) (σ : Option Nat) : ∀ k, (run f σ k).1.length ≤ k
  | 0 => by simp [run]
  | k + 1 => by
    have ih := run_length f σ k
    show (match (run f σ k).2 with | none => run f σ k | some p => _).1.length ≤ k + 1
    split
    · omega
    · simp; omega
theorem run_full {α : Type} {f : Nat → Option Nat → α × Option Nat} {σ : Option Nat} : ∀ {k p : Nat}, (run f σ k).2 = some p → (run f σ k).1.length = k
  | 0, p, _ => by simp [run]
  | k + 1, p, h => by
    cases e : (run f σ k).2 with
    | none =>
      rw [run_none e (k + 1) (by omega), e] at h
      cases h
    | some q =>
      rw [run_some e]
      simp [run_full e]
theorem run_from {α : Type} (f : Nat → Option Nat → α × Option Nat) : ∀ k, (run f none k).2 = none
  | 0 => rfl
  | k + 1 => by rw [run_none (f := f) (σ := none) (k := 0) rfl (k + 1) (by omega)]; rfl
def fI (l : List UInt8) (_ : Nat) (σ : Option Nat) : Int × Option Nat := (val2 l σ, nxt l 2 σ)
def fO (l : List UInt8) (_ : Nat) (σ : Option Nat) : O × Option Nat :=
  (⟨val1 l σ, val1 l (nxt l 1 σ), val2 l (nxt l 1 (nxt l 1 σ)), val1 l (nxt l 2 (nxt l 1 (nxt l 1 σ)))⟩, nxt l 1 (nxt l 2 (nxt l 1 (nxt l 1 σ))))
def fR (l : List UInt8) (_ : Nat) (σ : Option Nat) : List O × Option Nat := run (fO l) (nxt l 1 σ) (val1 l σ).toNat
def fE (l : List UInt8) (i : Nat) (σ : Option Nat) : Ev × Option Nat :=
  (⟨val2 l σ, -1, (i : Int), val1 l (nxt l 2 σ), val1 l (nxt l 1 (nxt l 2 σ)), val2 l (nxt l 1 (nxt l 1 (nxt l 2 σ))), (i : Int)⟩, nxt l 2 (nxt l 1 (nxt l 1 (nxt l 2 σ))))
/- What is read, and where one is then. -/
def s5 (l : List UInt8) : Option Nat := nxt l 2 (nxt l 2 (nxt l 1 (nxt l 1 (nxt l 1 (some 0)))))
def nLps (l : List UInt8) : Int := val1 l (some 0)
def nKin (l : List UInt8) : Int := val1 l (nxt l 1 (some 0))
def nSta (l : List UInt8) : Int := val1 l (nxt l 1 (nxt l 1 (some 0)))
def rI (l : List UInt8) : List Int × Option Nat := run (fI l) (s5 l) (nLps l).toNat
def rH (l : List UInt8) : List (List O) × Option Nat := run (fR l) (rI l).2 (nKin l).toNat
def rE (l : List UInt8) : List Ev × Option Nat := run (fE l) (rH l).2 (nSta l).toNat
def rdM (l : List UInt8) : Md := ⟨nLps l, val2 l (nxt l 2 (nxt l 1 (nxt l 1 (nxt l 1 (some 0))))), (rI l).1, (rH l).1, (rE l).1, val2 l (nxt l 1 (nxt l 1 (nxt l 1 (some 0))))⟩
def zeroM : Md := ⟨0, 0, [], [], [], 0⟩
def readOk (l : List UInt8) : Bool := decide ((rE l).2 = some l.length) && (rdM l).ok
def readM (l : List UInt8) : Md := if readOk l = true then rdM l else zeroM
theorem sm_lengths (l : List UInt8) : (rI l).1.length ≤ 255 ∧ (rH l).1.length ≤ 255 ∧ (rE l).1.length ≤ 255 := by
  have h1 := run_length (fI l) (s5 l) (nLps l).toNat
  have h2 := run_length (fR l) (rI l).2 (nKin l).toNat
  have h3 := run_length (fE l) (rH l).2 (nSta l).toNat
  have a1 := val1_low l (some 0)
  have a2 := val1_low l (nxt l 1 (some 0))
  have a3 := val1_low l (nxt l 1 (nxt l 1 (some 0)))
  refine ⟨?_, ?_, ?_⟩
  · have : (nLps l).toNat ≤ 255 := by unfold nLps; omega
    exact Nat.le_trans h1 this
  · have : (nKin l).toNat ≤ 255 := by unfold nKin; omega
    exact Nat.le_trans h2 this
  · have : (nSta l).toNat ≤ 255 := by unfold nSta; omega
    exact Nat.le_trans h3 this
theorem run_mem {α : Type} {f : Nat → Option Nat → α × Option Nat} {σ : Option Nat} {P : α → Prop} (hf : ∀ k p, P (f k (some p)).1) : ∀ k, ∀ x ∈ (run f σ k).1, P x
  | 0, x, hx => by simp [run] at hx
  | k + 1, x, hx => by
    cases e : (run f σ k).2 with
    | none =>
      rw [run_none e (k + 1) (by omega)] at hx
      exact run_mem hf k x hx
    | some q =>
      rw [run_some e] at hx
      simp at hx
      rcases hx with hx | rfl
      · exact run_mem hf k x hx
      · exact hf k q
theorem row_len (l : List UInt8) (i : Nat) : (hAt (rH l).1 i).length ≤ 255 := by
  by_cases hi : i < (rH l).1.length
  · have hm : hAt (rH l).1 i ∈ (rH l).1 := by
      unfold hAt
      rw [List.getD_eq_getElem?_getD, List.getElem?_eq_getElem hi]
      exact List.getElem_mem hi
    refine run_mem (f := fR l) (P := fun r => r.length ≤ 255) (fun k p => ?_) _ _ hm
    have := run_length (fO l) (nxt l 1 (some p)) (val1 l (some p)).toNat
    have := val1_low l (some p)
    unfold fR
    omega
  · rw [hAt_out (by omega)]; simp
theorem sumL_le (L : Nat → Nat) (h : ∀ i, L i ≤ 255) : ∀ k, sumL L k ≤ 255 * k
  | 0 => by simp [sumL]
  | k + 1 => by
    have := sumL_le L h k
    have := h k
    simp only [sumL]; omega
theorem small_rdM (l : List UInt8) : SmallM (rdM l) := by
  obtain ⟨h1, h2, h3⟩ := sm_lengths l
  have h4 := fun i => row_len l i
  have h5 := sumL_le (lens (rH l).1) h4 (rH l).1.length
  exact ⟨by show (rI l).1.length ≤ _; omega, by show (rH l).1.length ≤ _; omega, fun i => by show (hAt (rH l).1 i).length ≤ _; have := h4 i; omega, by show sumL (lens (rH l).1) (rH l).1.length ≤ _; omega, by show (rE l).1.length ≤ _; omega⟩
theorem small_zero : SmallM zeroM := ⟨by simp [zeroM], by simp [zeroM], fun i => by simp [zeroM, hAt], by simp [zeroM, sumL], by simp [zeroM]⟩
theorem small_readM (l : List UInt8) : SmallM (readM l) := by
  unfold readM
  split
  · exact small_rdM l
  · exact small_zero
end Go.Proofs.Ythjabkfnmcodbaa

/- The specification's l2get. -/
namespace Go.Proofs.Ythjabkfnmcodbaa
open Go.RowKit
/- The cursor in block C: where one is in the bytes l, which lie elsewhere. -/
def Cu (w : World) (C : Nat) (x : Value) (σ : Option Nat) : Prop := ∃ at_ : Int, Bk w C 81 #[x, .int .i64 at_, .bool σ.isNone] ∧ ∀ p, σ = some p → at_ = (p : Int)
/- The bytes, in a block that is not C. -/
def Src8 (w : World) (C : Nat) (x : Value) (l : List UInt8) : Prop := ∃ a cap, x = .slice a l.length cap ∧ (l = [] ∨ ∃ b off, a = some ⟨b, off, none⟩ ∧ b ≠ C ∧ By.IntsAt w b off l)
theorem Src8.turns {w w' : World} {C : Nat} {x : Value} {l : List UInt8} (h : Src8 w C x l) (ht : Turns (fun k => k = C) w w') : Src8 w' C x l := by
  obtain ⟨a, cap, rfl, h⟩ := h
  refine ⟨a, cap, rfl, h.imp id ?_⟩
  rintro ⟨b, off, rfl, hb, hr⟩
  exact ⟨b, off, rfl, hb, Nat.lt_of_lt_of_le hr.1 ht.size, fun i hi => (ht.cell hr.1 hb).trans (hr.2 i hi)⟩
theorem Cu.bad {w : World} {C : Nat} {x : Value} {at_ : Int} {b : Value} (h : Bk w C 81 #[x, .int .i64 at_, b]) : Cu (w.setCell ⟨C, 2, none⟩ (.bool true)) C x none := ⟨at_, h.put 2 (.bool true), fun p e => by cases e⟩
theorem Cu.put {w : World} {C : Nat} {x : Value} {at_ z : Int} {q : Nat} (h : Bk w C 81 #[x, .int .i64 at_, .bool false]) (e : z = (q : Int)) : Cu (w.setCell ⟨C, 1, none⟩ (.int .i64 z)) C x (some q) := ⟨z, h.put 1 (.int .i64 z), fun p e' => by cases e'; exact e⟩
def pre (l : List UInt8) (p k : Nat) : Int := if k = 0 then 0 else if k = 1 then by8 l p else by8 l p * 256 + by8 l (p + 1)
set_option maxRecDepth 100000 in
set_option maxHeartbeats 8000000 in
theorem get1_any (C : Nat) (x : Value) (l : List UInt8) (σ : Option Nat) (w : World) (hl : l.length ≤ 1048576) (hσ : ∀ p, σ = some p → p ≤ l.length) (hC : Cu w C x σ) (hS : Src8 w C x l) :
    Calls Try.prog 53 #[.pointer (some ⟨C, 0, none⟩), .int .i64 1] w fun e w' => e = .returned (.int .i64 (val1 l σ)) ∧ Cu w' C x (nxt l 1 σ) ∧ Turns (fun k => k = C) w w' := by
  obtain ⟨at_, hB, hat⟩ := hC
  obtain ⟨a, cap, rfl, hS⟩ := hS
  have hne : Nonempty (Beyond w) := ⟨⟨w, Below.refl _ _⟩⟩
  cases σ with
  | none =>
    have HB : Hid (Bk w C 81 #[.slice a l.length cap, .int .i64 at_, .bool true]) := hB
    have P0 := hB.beyond (i := 0) rfl
    have P1 := hB.beyond (i := 1) rfl
    have P2 := hB.beyond (i := 2) rfl
    clear hat hS hB hσ
    go_enter Try.func53, Try.ntmps53
    go_wp2_with fail
    refine wp_region_beyond (by kernel_rfl) (by kernel_rfl) ?_
    repeat (go_big_quiet_step (fail))
    refine wpQuiet_nil ?_
    rintro w2 ⟨⟨_, hb2⟩, rfl⟩
    have HB2 : Hid (Bk w2 C 81 #[.slice a l.length cap, .int .i64 at_, .bool true]) := HB.out.below hb2
    have HT2 : Hid (Turns (fun k => k = C) w w2) := Turns.of_below hb2
    have c2 := HB2.out.cell (i := 2) rfl
    have f2 := HB2.out.free 2
    clear P0 P1 P2 hne hb2
    go_wp2
    go_ret
    exact ⟨rfl, Cu.bad HB2.out, HT2.out.trans (put1_turns _ _ _ _)⟩
  | some p =>
    obtain rfl := hat p rfl
    have hp : p ≤ l.length := hσ p rfl
    have HB : Hid (Bk w C 81 #[.slice a l.length cap, .int .i64 (p : Int), .bool false]) := hB
    have P0 := hB.beyond (i := 0) rfl
    have P1 := hB.beyond (i := 1) rfl
    have P2 := hB.beyond (i := 2) rfl
    clear hat hB hσ
    by_cases hlt : p + 1 ≤ l.length
    · have d0 : decide ((p : Int) + 1 > (l.length : Int)) = false := by simp; omega
      have d1 : decide ((l.length : Int) < (p : Int) + 1) = false := by simp; omega
      have HV : Hid (val1 l (some p) = pre l p 1) := (by simp [val1, hlt, pre] : val1 l (some p) = pre l p 1)
      have HN : Hid (nxt l 1 (some p) = some (p + 1)) := (by simp [nxt, hlt] : nxt l 1 (some p) = some (p + 1))
      obtain ⟨b, off, rfl, hbC, hI⟩ := hS.resolve_left (by intro e; rw [e] at hlt; simp at hlt)
      have HI : Hid (By.IntsAt w b off l) := hI
      clear hS hI
      go_enter Try.func53, Try.ntmps53
      go_wp2_with fail
      refine wp_region_beyond (by kernel_rfl) (by kernel_rfl) ?_
      repeat (go_big_quiet_step (fail))
      refine wpQuiet_nil ?_
      rintro w2 ⟨⟨_, hb2⟩, rfl⟩
      have HBL : Hid (Below w.heap.size w w2) := hb2
      clear P0 P1 P2 hne hb2 d0 d1
      go_wp2
      go_loopw [5, 6] (fun y i wr => ∃ k : Nat, k ≤ 1 ∧ i = .int .i64 k ∧ y = .int .i64 (pre l p k) ∧ Below w.heap.size w wr) (fun _ i _ => 1 - (intOf i).toNat)
      case atStart => exact ⟨0, by omega, rfl, rfl, HBL.out⟩
      case round =>
        clear HBL
        obtain ⟨k, hk, rfl, rfl, hBr⟩ := hrel
        have HBR : Hid (Below w.heap.size w wr) := hBr
        by_cases hkn : k < 1
        · have hBk : Bk wr C 81 #[.slice (some ⟨b, off, none⟩) l.length cap, .int .i64 (p : Int), .bool false] := HB.out.below hBr
          have hIr : By.IntsAt wr b off l := HI.out.below hBr HI.out.1
          have P0 := hBk.beyond (i := 0) rfl
          have P1 := hBk.beyond (i := 1) rfl
          have hne : Nonempty (Beyond wr) := ⟨⟨wr, Below.refl _ _⟩⟩
          have hb0 := by8_low l p
          have hb1 := by8_low l (p + 1)
          obtain rfl : k = 0 := by omega
          have B0 : ∀ q : Beyond wr, q.w.cell? ⟨b, off + p, none⟩ = some (.int .u8 (by8 l p)) := fun q => q.cell hIr.1 (hIr.2 p (by omega))
          have HP : Hid (pre l p (0 + 1) = by8 l p) := rfl
          rw [show pre l p 0 = 0 from rfl]
          generalize by8 l p = y0 at *
          generalize by8 l (p + 1) = y1 at *
          clear hBk hIr hBr
          go_wp2_with fail
          refine wp_region_beyond (by kernel_rfl) (by kernel_rfl) ?_
          repeat (go_big_quiet_step (fail))
          refine wpQuiet_nil ?_
          rintro w3 ⟨⟨_, hb3⟩, rfl⟩
          clear P0 P1 B0 hne
          go_wp2
          go_roundw
          case rel => exact ⟨0 + 1, by omega, by go_num, by rw [HP.out], HBR.out.trans (hb3.mono HBR.out.size)⟩
          case measure => simp [intOf]
        · obtain rfl : k = 1 := by omega
          have HBK : Hid (Bk wr C 81 #[.slice (some ⟨b, off, none⟩) l.length cap, .int .i64 (p : Int), .bool false]) := HB.out.below hBr
          have c1 := HBK.out.cell (i := 1) rfl
          have f1 := HBK.out.free 1
          clear hBr
          generalize hpr : pre l p 1 = z
          have HZ : Hid (pre l p 1 = z) := hpr
          clear hpr
          go_wp2
          go_ret
          refine ⟨ret_int (by rw [HV.out, HZ.out]), ?_, (Turns.of_below HBR.out).trans (put1_turns _ _ _ _)⟩
          rw [HN.out]
          exact Cu.put HBK.out (by omega)
    · have d0 : decide ((p : Int) + 1 > (l.length : Int)) = true := by simp; omega
      have d1 : decide ((l.length : Int) < (p : Int) + 1) = true := by simp; omega
      have HV : Hid (val1 l (some p) = 0) := (by simp [val1, hlt] : val1 l (some p) = 0)
      have HN : Hid (nxt l 1 (some p) = none) := (by simp [nxt, hlt] : nxt l 1 (some p) = none)
      clear hS
      go_enter Try.func53, Try.ntmps53
      go_wp2_with fail
      refine wp_region_beyond (by kernel_rfl) (by kernel_rfl) ?_
      repeat (go_big_quiet_step (fail))
      refine wpQuiet_nil ?_
      rintro w2 ⟨⟨_, hb2⟩, rfl⟩
      have HB2 : Hid (Bk w2 C 81 #[.slice a l.length cap, .int .i64 (p : Int), .bool false]) := HB.out.below hb2
      have HT2 : Hid (Turns (fun k => k = C) w w2) := Turns.of_below hb2
      have c2 := HB2.out.cell (i := 2) rfl
      have f2 := HB2.out.free 2
      clear P0 P1 P2 hne hb2
      go_wp2
      go_ret
      exact ⟨ret_int HV.out.symm, by rw [HN.out]; exact Cu.bad HB2.out, HT2.out.trans (put1_turns _ _ _ _)⟩
set_option maxRecDepth 100000 in
set_option maxHeartbeats 8000000 in
theorem get2_any (C : Nat) (x : Value) (l : List UInt8) (σ : Option Nat) (w : World) (hl : l.length ≤ 1048576) (hσ : ∀ p, σ = some p → p ≤ l.length) (hC : Cu w C x σ) (hS : Src8 w C x l) :
    Calls Try.prog 53 #[.pointer (some ⟨C, 0, none⟩), .int .i64 2] w fun e w' => e = .returned (.int .i64 (val2 l σ)) ∧ Cu w' C x (nxt l 2 σ) ∧ Turns (fun k => k = C) w w' := by
  obtain ⟨at_, hB, hat⟩ := hC
  obtain ⟨a, cap, rfl, hS⟩ := hS
  have hne : Nonempty (Beyond w) := ⟨⟨w, Below.refl _ _⟩⟩
  cases σ with
  | none =>
    have HB : Hid (Bk w C 81 #[.slice a l.length cap, .int .i64 at_, .bool true]) := hB
    have P0 := hB.beyond (i := 0) rfl
    have P1 := hB.beyond (i := 1) rfl
    have P2 := hB.beyond (i := 2) rfl
    clear hat hS hB hσ
    go_enter Try.func53, Try.ntmps53
    go_wp2_with fail
    refine wp_region_beyond (by kernel_rfl) (by kernel_rfl) ?_
    repeat (go_big_quiet_step (fail))
    refine wpQuiet_nil ?_
    rintro w2 ⟨⟨_, hb2⟩, rfl⟩
    have HB2 : Hid (Bk w2 C 81 #[.slice a l.length cap, .int .i64 at_, .bool true]) := HB.out.below hb2
    have HT2 : Hid (Turns (fun k => k = C) w w2) := Turns.of_below hb2
    have c2 := HB2.out.cell (i := 2) rfl
    have f2 := HB2.out.free 2
    clear P0 P1 P2 hne hb2
    go_wp2
    go_ret
    exact ⟨rfl, Cu.bad HB2.out, HT2.out.trans (put1_turns _ _ _ _)⟩
  | some p =>
    obtain rfl := hat p rfl
    have hp : p ≤ l.length := hσ p rfl
    have HB : Hid (Bk w C 81 #[.slice a l.length cap, .int .i64 (p : Int), .bool false]) := hB
    have P0 := hB.beyond (i := 0) rfl
    have P1 := hB.beyond (i := 1) rfl
    have P2 := hB.beyond (i := 2) rfl
    clear hat hB hσ
    by_cases hlt : p + 2 ≤ l.length
    · have d0 : decide ((p : Int) + 2 > (l.length : Int)) = false := by simp; omega
      have d1 : decide ((l.length : Int) < (p : Int) + 2) = false := by simp; omega
      have HV : Hid (val2 l (some p) = pre l p 2) := (by simp [val2, hlt, pre] : val2 l (some p) = pre l p 2)
      have HN : Hid (nxt l 2 (some p) = some (p + 2)) := (by simp [nxt, hlt] : nxt l 2 (some p) = some (p + 2))
      obtain ⟨b, off, rfl, hbC, hI⟩ := hS.resolve_left (by intro e; rw [e] at hlt; simp at hlt)
      have HI : Hid (By.IntsAt w b off l) := hI
      clear hS hI
      go_enter Try.func53, Try.ntmps53
      go_wp2_with fail
      refine wp_region_beyond (by kernel_rfl) (by kernel_rfl) ?_
      repeat (go_big_quiet_step (fail))
      refine wpQuiet_nil ?_
      rintro w2 ⟨⟨_, hb2⟩, rfl⟩
      have HBL : Hid (Below w.heap.size w w2) := hb2
      clear P0 P1 P2 hne hb2 d0 d1
      go_wp2
      go_loopw [5, 6] (fun y i wr => ∃ k : Nat, k ≤ 2 ∧ i = .int .i64 k ∧ y = .int .i64 (pre l p k) ∧ Below w.heap.size w wr) (fun _ i _ => 2 - (intOf i).toNat)
      case atStart => exact ⟨0, by omega, rfl, rfl, HBL.out⟩
      case round =>
        clear HBL
        obtain ⟨k, hk, rfl, rfl, hBr⟩ := hrel
        have HBR : Hid (Below w.heap.size w wr) := hBr
        by_cases hkn : k < 2
        · have hBk : Bk wr C 81 #[.slice (some ⟨b, off, none⟩) l.length cap, .int .i64 (p : Int), .bool false] := HB.out.below hBr
          have hIr : By.IntsAt wr b off l := HI.out.below hBr HI.out.1
          have P0 := hBk.beyond (i := 0) rfl
          have P1 := hBk.beyond (i := 1) rfl
          have hne : Nonempty (Beyond wr) := ⟨⟨wr, Below.refl _ _⟩⟩
          have hb0 := by8_low l p
          have hb1 := by8_low l (p + 1)
          have hk2 : k = 0 ∨ k = 1 := by omega
          rcases hk2 with rfl | rfl
          · have B0 : ∀ q : Beyond wr, q.w.cell? ⟨b, off + p, none⟩ = some (.int .u8 (by8 l p)) := fun q => q.cell hIr.1 (hIr.2 p (by omega))
            have HP : Hid (pre l p (0 + 1) = by8 l p) := rfl
            rw [show pre l p 0 = 0 from rfl]
            generalize by8 l p = y0 at *
            generalize by8 l (p + 1) = y1 at *
            clear hBk hIr hBr
            go_wp2_with fail
            refine wp_region_beyond (by kernel_rfl) (by kernel_rfl) ?_
            repeat (go_big_quiet_step (fail))
            refine wpQuiet_nil ?_
            rintro w3 ⟨⟨_, hb3⟩, rfl⟩
            clear P0 P1 B0 hne
            go_wp2
            go_roundw
            case rel => exact ⟨0 + 1, by omega, by go_num, by rw [HP.out], HBR.out.trans (hb3.mono HBR.out.size)⟩
            case measure => simp [intOf]
          · have B0 : ∀ q : Beyond wr, q.w.cell? ⟨b, off + (p + 1), none⟩ = some (.int .u8 (by8 l (p + 1))) := fun q => q.cell hIr.1 (hIr.2 (p + 1) (by omega))
            have HP : Hid (pre l p (1 + 1) = by8 l p * 256 + by8 l (p + 1)) := rfl
            rw [show pre l p 1 = by8 l p from rfl]
            generalize by8 l p = y0 at *
            generalize by8 l (p + 1) = y1 at *
            clear hBk hIr hBr
            go_wp2_with fail
            refine wp_region_beyond (by kernel_rfl) (by kernel_rfl) ?_
            repeat (go_big_quiet_step (fail))
            refine wpQuiet_nil ?_
            rintro w3 ⟨⟨_, hb3⟩, rfl⟩
            clear P0 P1 B0 hne
            go_wp2
            go_roundw
            case rel => exact ⟨1 + 1, by omega, by go_num, by rw [HP.out], HBR.out.trans (hb3.mono HBR.out.size)⟩
            case measure => simp [intOf]
        · obtain rfl : k = 2 := by omega
          have HBK : Hid (Bk wr C 81 #[.slice (some ⟨b, off, none⟩) l.length cap, .int .i64 (p : Int), .bool false]) := HB.out.below hBr
          have c1 := HBK.out.cell (i := 1) rfl
          have f1 := HBK.out.free 1
          clear hBr
          generalize hpr : pre l p 2 = z
          have HZ : Hid (pre l p 2 = z) := hpr
          clear hpr
          go_wp2
          go_ret
          refine ⟨ret_int (by rw [HV.out, HZ.out]), ?_, (Turns.of_below HBR.out).trans (put1_turns _ _ _ _)⟩
          rw [HN.out]
          exact Cu.put HBK.out (by omega)
    · have d0 : decide ((p : Int) + 2 > (l.length : Int)) = true := by simp; omega
      have d1 : decide ((l.length : Int) < (p : Int) + 2) = true := by simp; omega
      have HV : Hid (val2 l (some p) = 0) := (by simp [val2, hlt] : val2 l (some p) = 0)
      have HN : Hid (nxt l 2 (some p) = none) := (by simp [nxt, hlt] : nxt l 2 (some p) = none)
      clear hS
      go_enter Try.func53, Try.ntmps53
      go_wp2_with fail
      refine wp_region_beyond (by kernel_rfl) (by kernel_rfl) ?_
      repeat (go_big_quiet_step (fail))
      refine wpQuiet_nil ?_
      rintro w2 ⟨⟨_, hb2⟩, rfl⟩
      have HB2 : Hid (Bk w2 C 81 #[.slice a l.length cap, .int .i64 (p : Int), .bool false]) := HB.out.below hb2
      have HT2 : Hid (Turns (fun k => k = C) w w2) := Turns.of_below hb2
      have c2 := HB2.out.cell (i := 2) rfl
      have f2 := HB2.out.free 2
      clear P0 P1 P2 hne hb2
      go_wp2
      go_ret
      exact ⟨ret_int HV.out.symm, by rw [HN.out]; exact Cu.bad HB2.out, HT2.out.trans (put1_turns _ _ _ _)⟩
end Go.Proofs.Ythjabkfnmcodbaa

/- Rows of one's own, of whatever elements: what stays of them. -/
namespace Go.Proofs.Ythjabkfnmcodbaa
open Go.RowKit
theorem owns_ne {B : Nat} {e : TypeId} {size n : Nat} {w : World} {v : Value} {xs : List Value} (h : w.ownsRow B e size v n xs) {P : Nat} {T : TypeId} {vs : Array Value} (hb : Bk w P T vs) (hT : T ≠ e) : ¬ v.ownBlock = some P := by
  intro hE
  obtain ⟨_, ⟨rfl, _⟩ | ⟨g, cap, cur, rfl, _, hc, _⟩⟩ := h
  · simp [Value.ownBlock] at hE
  · simp [Value.ownBlock] at hE
    subst hE
    have hb' : w.heap[g]? = some (.cells vs T) := hb
    rw [hb'] at hc
    simp at hc
    exact hT hc.2
theorem owns_turns {S : Nat → Prop} {B : Nat} {e : TypeId} {size n : Nat} {w w' : World} {v : Value} {xs : List Value} (h : w.ownsRow B e size v n xs) (ht : Turns S w w') (hS : ∀ k, v.ownBlock = some k → ¬ S k) : w'.ownsRow B e size v n xs := by
  obtain ⟨h0, h1 | ⟨g, cap, cur, rfl, hg, hc, h2⟩⟩ := h
  · exact ⟨h0, .inl h1⟩
  · exact ⟨h0, .inr ⟨g, cap, cur, rfl, hg, (ht.block g (Array.getElem?_eq_some_iff.1 hc).1 (hS g rfl)).trans hc, h2⟩⟩
theorem owns_drew {B : Nat} {e : TypeId} {size n : Nat} {w : World} {v : Value} {xs : List Value} (h : w.ownsRow B e size v n xs) : w.drew.ownsRow B e size v n xs := h
theorem owns_lt {B : Nat} {e : TypeId} {size n : Nat} {w : World} {v : Value} {xs : List Value} (h : w.ownsRow B e size v n xs) {k : Nat} (hk : v.ownBlock = some k) : k < w.heap.size := by
  obtain ⟨_, ⟨rfl, _⟩ | ⟨g, cap, cur, rfl, _, hc, _⟩⟩ := h
  · simp [Value.ownBlock] at hk
  · simp [Value.ownBlock] at hk
    subst hk
    exact (Array.getElem?_eq_some_iff.1 hc).1
/- A row stays where only the struct in block C turns. -/
theorem owns_kept {B C : Nat} {e T : TypeId} {size n : Nat} {w w' : World} {v : Value} {xs : List Value} {vs : Array Value} (h : w.ownsRow B e size v n xs) (hb : Bk w C T vs) (hT : T ≠ e) (ht : Turns (fun k => k = C) w w') : w'.ownsRow B e size v n xs :=
  owns_turns h ht (fun _ hk e => owns_ne h hb hT (e ▸ hk))
theorem Turns.grownNew {S : Nat → Prop} {a w w' : World} {row : Option Nat} (h : Turns S a w) (hg : w.grownBy w' row) (hr : ∀ k, row = some k → a.heap.size ≤ k) : Turns S a w' :=
  ⟨hg.os.trans h.os, hg.tape.trans h.tape, hg.output.trans h.output, Nat.le_trans h.size hg.size, fun k hk hS => (hg.block k (Nat.lt_of_lt_of_le hk h.size) (fun e => by have := hr k e.symm; omega)).trans (h.block k hk hS)⟩
theorem Turns.setNew {S : Nat → Prop} {a w : World} (h : Turns S a w) {b : Nat} (hb : a.heap.size ≤ b) (o : Nat) (u : Value) : Turns S a (w.setCell ⟨b, o, none⟩ u) :=
  ⟨h.os, h.tape, h.output, Nat.le_trans h.size (by simp [World.setCell]), fun k hk hS => (Below.heap_setCell _ _ _ _ (by show k ≠ b; omega)).trans (h.block k hk hS)⟩
theorem Turns.one {C : Nat} {a w w' : World} (h : Turns (fun k => k = C) a w) (ht : Turns (fun k => k = C) w w') : Turns (fun k => k = C) a w' := h.trans ht
theorem Cu.bk {w : World} {C : Nat} {x : Value} {σ : Option Nat} (h : Cu w C x σ) : ∃ vs, Bk w C 81 vs := ⟨_, h.choose_spec.1⟩
theorem Cu.flag {w : World} {C : Nat} {x : Value} {σ : Option Nat} (h : Cu w C x σ) : w.cell? ⟨C, 2, none⟩ = some (.bool σ.isNone) := h.choose_spec.1.cell rfl
theorem Cu.lt {w : World} {C : Nat} {x : Value} {σ : Option Nat} (h : Cu w C x σ) : C < w.heap.size := h.choose_spec.1.lt
theorem Cu.alloc {w : World} {C : Nat} {x : Value} {σ : Option Nat} (h : Cu w C x σ) (o : Obj) : Cu (w.alloc o) C x σ := ⟨_, h.choose_spec.1.alloc o, h.choose_spec.2⟩
theorem Cu.other {w : World} {C b : Nat} {x : Value} {σ : Option Nat} (h : Cu w C x σ) (hb : C ≠ b) (o : Nat) (u : Value) : Cu (w.setCell ⟨b, o, none⟩ u) C x σ := ⟨_, h.choose_spec.1.other o u hb, h.choose_spec.2⟩
theorem Cu.turns {S : Nat → Prop} {w w' : World} {C : Nat} {x : Value} {σ : Option Nat} (h : Cu w C x σ) (ht : Turns S w w') (hS : ¬ S C) : Cu w' C x σ := ⟨_, h.choose_spec.1.turns ht hS, h.choose_spec.2⟩
theorem nxt_le {l : List UInt8} {n p : Nat} {σ : Option Nat} (h : nxt l n σ = some p) : p ≤ l.length := by
  unfold nxt at h
  split at h
  · cases h
  · split at h
    · cases h; assumption
    · cases h
theorem fO_le {l : List UInt8} {k p : Nat} {σ : Option Nat} (h : (fO l k σ).2 = some p) : p ≤ l.length := nxt_le h
theorem run_le {α : Type} {f : Nat → Option Nat → α × Option Nat} {l : List UInt8} {σ : Option Nat} (hσ : ∀ p, σ = some p → p ≤ l.length) (hf : ∀ k q p, (f k (some q)).2 = some p → p ≤ l.length) : ∀ k p, (run f σ k).2 = some p → p ≤ l.length
  | 0, p, h => hσ p h
  | k + 1, p, h => by
    cases e : (run f σ k).2 with
    | none => rw [run_none e (k + 1) (by omega), e] at h; cases h
    | some q => rw [run_some e] at h; exact hf k q p h
theorem at_newO (w : World) (e : O) : ∀ j u, (cellsO [e])[j]? = some u → (w.alloc (.cells #[.int .i64 e.c, .int .i64 e.a, .int .i64 e.b, .int .i64 e.k] 36)).cell? ((⟨w.heap.size, 0, none⟩ : Addr).add j) = some u := by
  intro j u hu
  rw [Addr.add_lit, Nat.zero_add]
  exact (Bk.new w 36 #[.int .i64 e.c, .int .i64 e.a, .int .i64 e.b, .int .i64 e.k]).cell (by simpa [cellsO, O.cs] using hu)
end Go.Proofs.Ythjabkfnmcodbaa

