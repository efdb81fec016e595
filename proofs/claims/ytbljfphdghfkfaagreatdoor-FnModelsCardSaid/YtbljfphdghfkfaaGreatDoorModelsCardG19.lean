/- Open, OpenS, VOpenB, MRdP, RdP, RdQ, RdR, RdS, DTextK, DShelf, DTextJ -/
import Derived.Test.YtbljfphdghfkfaaGreatDoorRows
import Derived.ProofKit
import Derived.ChangeOld
import Derived.Below
import Derived.OpenShut
import Derived.Test.YtbljfphdghfkfaaGreatDoorModelsCardG05
import Derived.Test.YtbljfphdghfkfaaGreatDoorModelsCardG17
import Derived.Test.YtbljfphdghfkfaaGreatDoorModelsCardG00
import Derived.SizedLaws
import Derived.Test.YtbljfphdghfkfaaGreatDoorModelsCardG18
import Derived.Deep.Cut
import Derived.Test.YtbljfphdghfkfaaGreatDoorModelsCardG07
import Derived.Test.YtbljfphdghfkfaaGreatDoorModelsCardG03
import Derived.OwnWalk
import Derived.Lib.UnsafeStr
import Derived.Lib.ItoaNum
import Derived.Lib.SlBytesConst
import Derived.Lib.AppendStr
import Derived.Deep.RegionHeld3
import Derived.ArgAppend
import Derived.Shelf.Strings.OnBuilder
import Derived.Shelf.LaysM
import Derived.Shelf.Strconv.Itoa3
import Derived.Test.YtbljfphdghfkfaaGreatDoorProg
import Derived.Lib.AppendIntMem
import Derived.Lib.ConvBytes
/- How an event that came in is read: seven integers. -/
namespace Go.Proofs.YtbljfphdghfkfaaGreatDoor
open Go.ChangeShapes Go.WideShapes Go.ChangeAt Go.RowKit
theorem own : ownKnob Tryz.prog.godebug = none := by kernel_rfl
theorem laidOut : laidOutB Tryz.prog = true := by kernel_rfl
end Go.Proofs.YtbljfphdghfkfaaGreatDoor

/- How a list of events that came in is read. -/
namespace Go.Proofs.YtbljfphdghfkfaaGreatDoor
open Go.ChangeShapes Go.WideShapes Go.ChangeAt Go.RowKit
theorem add_plain (b off n : Nat) : (⟨b, off, none⟩ : Addr).add n = ⟨b, off + n, none⟩ := by
 unfold Addr.add
 split <;> simp_all
end Go.Proofs.YtbljfphdghfkfaaGreatDoor

/- How a list of numbers that came in is read. -/
namespace Go.Proofs.YtbljfphdghfkfaaGreatDoor.By
open Go.ChangeShapes Go.WideShapes Go.ChangeAt Go.RowKit Go.Proofs.YtbljfphdghfkfaaGreatDoor
theorem cells5 : Tryz.prog.cellsOf 5 = 1 := by kernel_rfl
end Go.Proofs.YtbljfphdghfkfaaGreatDoor.By

/- ModelRead: plain words. Where one is: some place, or nowhere (what is there was not enough). -/
namespace Go.Proofs.YtbljfphdghfkfaaGreatDoor
open Go.RowKit
def by8 (l : List UInt8) (p : Nat) : Int := ((By.intAt l p).toNat : Int)
theorem by8_low (l : List UInt8) (p : Nat) : 0 ≤ by8 l p ∧ by8 l p ≤ 255 := by
 have := (By.intAt l p).toNat_lt
 unfold by8
 omega
def val1 (l : List UInt8) (σ : Option Nat) : Int := match σ with
 | none => 0
 | some p => if p + 1 ≤ l.length then by8 l p else 0
def val2 (l : List UInt8) (σ : Option Nat) : Int := match σ with
 | none => 0
 | some p => if p + 2 ≤ l.length then by8 l p * 256 + by8 l (p + 1) else 0
def nxt (l : List UInt8) (n : Nat) (σ : Option Nat) : Option Nat := match σ with
 | none => none
 | some p => if p + n ≤ l.length then some (p + n) else none
theorem val1_low (l : List UInt8) (σ : Option Nat) : 0 ≤ val1 l σ ∧ val1 l σ ≤ 255 := by
 unfold val1
 split
 ·omega
 ·next p =>
  split
  ·exact by8_low l p
  ·omega
def runG {α : Type} (f : Nat → Option Nat → α × Option Nat) (σ : Option Nat) : Nat → List α × Option Nat
 | 0 => ([], σ)
 | k + 1 => match (runG f σ k).2 with
  | none => runG f σ k
  | some p => ((runG f σ k).1 ++ [(f k (some p)).1], (f k (some p)).2)
theorem run_some {α : Type} {f : Nat → Option Nat → α × Option Nat} {σ : Option Nat} {k p : Nat} (h : (runG f σ k).2 = some p) : runG f σ (k + 1) = ((runG f σ k).1 ++ [(f k (some p)).1], (f k (some p)).2) := by
 show (match (runG f σ k).2 with | none => runG f σ k | some p => _) = _
 rw [h]
theorem run_none {α : Type} {f : Nat → Option Nat → α × Option Nat} {σ : Option Nat} {k : Nat} (h : (runG f σ k).2 = none) : ∀ n, k ≤ n → runG f σ n = runG f σ k := by
 intro n hn
 induction hn with
 | refl => rfl
 | step _ ih =>
  rename_i n _
  show (match (runG f σ n).2 with | none => runG f σ n | some p => _) = _
  rw [ih, h]
theorem run_length {α : Type} (f : Nat → Option Nat → α × Option Nat) (σ : Option Nat) : ∀ k, (runG f σ k).1.length ≤ k
 | 0 => by simp [runG]
 | k + 1 => by
  have ih := run_length f σ k
  show (match (runG f σ k).2 with | none => runG f σ k | some p => _).1.length ≤ k + 1
  split
  ·omega
  ·simp; omega
theorem run_full {α : Type} {f : Nat → Option Nat → α × Option Nat} {σ : Option Nat} : ∀ {k p : Nat}, (runG f σ k).2 = some p → (runG f σ k).1.length = k
 | 0, p, _ => by simp [runG]
 | k + 1, p, h => by
  cases e : (runG f σ k).2 with
  | none =>
   rw [run_none e (k + 1) (by omega), e] at h
   cases h
  | some q =>
   rw [run_some e]
   simp [run_full e]
theorem run_from {α : Type} (f : Nat → Option Nat → α × Option Nat) : ∀ k, (runG f none k).2 = none
 | 0 => rfl
 | k + 1 => by rw [run_none (f := f) (σ := none) (k := 0) rfl (k + 1) (by omega)]; rfl
def fI (l : List UInt8) (_ : Nat) (σ : Option Nat) : Int × Option Nat := (val2 l σ, nxt l 2 σ)
def fO (l : List UInt8) (_ : Nat) (σ : Option Nat) : O × Option Nat :=
 (⟨val1 l σ, val1 l (nxt l 1 σ), val2 l (nxt l 1 (nxt l 1 σ)), val1 l (nxt l 2 (nxt l 1 (nxt l 1 σ)))⟩, nxt l 1 (nxt l 2 (nxt l 1 (nxt l 1 σ))))
def fR (l : List UInt8) (_ : Nat) (σ : Option Nat) : List O × Option Nat := runG (fO l) (nxt l 1 σ) (val1 l σ).toNat
def fE (l : List UInt8) (i : Nat) (σ : Option Nat) : Ev × Option Nat :=
 (⟨val2 l σ, -1, (i : Int), val1 l (nxt l 2 σ), val1 l (nxt l 1 (nxt l 2 σ)), val2 l (nxt l 1 (nxt l 1 (nxt l 2 σ))), (i : Int)⟩, nxt l 2 (nxt l 1 (nxt l 1 (nxt l 2 σ))))
def s5 (l : List UInt8) : Option Nat := nxt l 2 (nxt l 2 (nxt l 1 (nxt l 1 (nxt l 1 (some 0)))))
def nLps (l : List UInt8) : Int := val1 l (some 0)
def nKin (l : List UInt8) : Int := val1 l (nxt l 1 (some 0))
def nSta (l : List UInt8) : Int := val1 l (nxt l 1 (nxt l 1 (some 0)))
def rI (l : List UInt8) : List Int × Option Nat := runG (fI l) (s5 l) (nLps l).toNat
def rH (l : List UInt8) : List (List O) × Option Nat := runG (fR l) (rI l).2 (nKin l).toNat
def rE (l : List UInt8) : List Ev × Option Nat := runG (fE l) (rH l).2 (nSta l).toNat
def rdM (l : List UInt8) : Md := ⟨nLps l, val2 l (nxt l 2 (nxt l 1 (nxt l 1 (nxt l 1 (some 0))))), (rI l).1, (rH l).1, (rE l).1, val2 l (nxt l 1 (nxt l 1 (nxt l 1 (some 0))))⟩
def zeroM : Md := ⟨0, 0, [], [], [], 0⟩
def readOk (l : List UInt8) : Bool := decide ((rE l).2 = some l.length) && (rdM l).ok
def readM (l : List UInt8) : Md := if readOk l = true then rdM l else zeroM
theorem sm_lengths (l : List UInt8) : (rI l).1.length ≤ 255 ∧ (rH l).1.length ≤ 255 ∧ (rE l).1.length ≤ 255 := by
 have h1 := run_length (fI l) (s5 l) (nLps l).toNat
 have h2 := run_length (fR l) (rI l).2 (nKin l).toNat
 have h3 := run_length (fE l) (rH l).2 (nSta l).toNat
 have a1 := val1_low l (some 0)
 have a2 := val1_low l (nxt l 1 (some 0))
 have a3 := val1_low l (nxt l 1 (nxt l 1 (some 0)))
 refine ⟨?_, ?_, ?_⟩
 ·have : (nLps l).toNat ≤ 255 := by unfold nLps; omega
  exact Nat.le_trans h1 this
 ·have : (nKin l).toNat ≤ 255 := by unfold nKin; omega
  exact Nat.le_trans h2 this
 ·have : (nSta l).toNat ≤ 255 := by unfold nSta; omega
  exact Nat.le_trans h3 this
theorem run_mem {α : Type} {f : Nat → Option Nat → α × Option Nat} {σ : Option Nat} {P : α → Prop} (hf : ∀ k p, P (f k (some p)).1) : ∀ k, ∀ x ∈ (runG f σ k).1, P x
 | 0, x, hx => by simp [runG] at hx
 | k + 1, x, hx => by
  cases e : (runG f σ k).2 with
  | none =>
   rw [run_none e (k + 1) (by omega)] at hx
   exact run_mem hf k x hx
  | some q =>
   rw [run_some e] at hx
   simp at hx
   rcases hx with hx | rfl
   ·exact run_mem hf k x hx
   ·exact hf k q
theorem row_len (l : List UInt8) (i : Nat) : (hAt (rH l).1 i).length ≤ 255 := by
 by_cases hi : i < (rH l).1.length
 ·have hm : hAt (rH l).1 i ∈ (rH l).1 := by
   unfold hAt
   rw [List.getD_eq_getElem?_getD, List.getElem?_eq_getElem hi]
   exact List.getElem_mem hi
  refine run_mem (f := fR l) (P := fun r => r.length ≤ 255) (fun k p => ?_) _ _ hm
  have := run_length (fO l) (nxt l 1 (some p)) (val1 l (some p)).toNat
  have := val1_low l (some p)
  unfold fR
  omega
 ·rw [hAt_out (by omega)]; simp
theorem sumLR_le (L : Nat → Nat) (h : ∀ i, L i ≤ 255) : ∀ k, sumL L k ≤ 255 * k
 | 0 => by simp [sumL]
 | k + 1 => by
  have := sumLR_le L h k
  have := h k
  simp only [sumL]; omega
theorem small_rdM (l : List UInt8) : SmallM (rdM l) := by
 obtain ⟨h1, h2, h3⟩ := sm_lengths l
 have h4 := fun i => row_len l i
 have h5 := sumLR_le (lens (rH l).1) h4 (rH l).1.length
 exact ⟨by show (rI l).1.length ≤ _; omega, by show (rH l).1.length ≤ _; omega, fun i => by show (hAt (rH l).1 i).length ≤ _; have := h4 i; omega, by show sumL (lens (rH l).1) (rH l).1.length ≤ _; omega, by show (rE l).1.length ≤ _; omega⟩
theorem small_zero : SmallM zeroM := ⟨by simp [zeroM], by simp [zeroM], fun i => by simp [zeroM, hAt], by simp [zeroM, sumL], by simp [zeroM]⟩
theorem small_readM (l : List UInt8) : SmallM (readM l) := by
 unfold readM
 split
 ·exact small_rdM l
 ·exact small_zero
end Go.Proofs.YtbljfphdghfkfaaGreatDoor

/- What stands in a row of bytes at a place; reading what was printed, printing what was read. -/
namespace Go.Proofs.YtbljfphdghfkfaaGreatDoor
open Go.RowKit
def Sits (l : List UInt8) (p : Nat) (s : List UInt8) : Prop := ∃ a c, l = a ++ s ++ c ∧ a.length = p
theorem Sits.left {l s t : List UInt8} {p : Nat} (h : Sits l p (s ++ t)) : Sits l p s := by
 obtain ⟨a, c, rfl, rfl⟩ := h
 exact ⟨a, t ++ c, by simp, rfl⟩
theorem Sits.right {l s t : List UInt8} {p : Nat} (h : Sits l p (s ++ t)) : Sits l (p + s.length) t := by
 obtain ⟨a, c, rfl, rfl⟩ := h
 exact ⟨a ++ s, c, by simp, by simp⟩
theorem Sits.at {l s : List UInt8} {p : Nat} (h : Sits l p s) {i : Nat} (hi : i < s.length) : p + i < l.length ∧ By.intAt l (p + i) = By.intAt s i := by
 obtain ⟨a, c, rfl, rfl⟩ := h
 refine ⟨by simp; omega, ?_⟩
 unfold By.intAt
 rw [List.getD_eq_getElem?_getD, List.getD_eq_getElem?_getD, List.append_assoc, List.getElem?_append_right (by omega), Nat.add_sub_cancel_left, List.getElem?_append_left hi]
theorem Sits.of {l s : List UInt8} {p : Nat} (hp : p + s.length ≤ l.length) (h : ∀ i, i < s.length → By.intAt l (p + i) = By.intAt s i) : Sits l p s := by
 refine ⟨l.take p, l.drop (p + s.length), ?_, by simp; omega⟩
 have e : s = (l.drop p).take s.length := by
  apply List.ext_getElem
  ·simp; omega
  ·intro i h1 h2
   have := h i h1
   unfold By.intAt at this
   rw [List.getD_eq_getElem?_getD, List.getD_eq_getElem?_getD, List.getElem?_eq_getElem (by omega : p + i < l.length), List.getElem?_eq_getElem h1] at this
   simp only [Option.getD_some] at this
   simp [this]
 rw [e]
 simp only [List.length_take, List.length_drop, Nat.min_eq_left (by omega : s.length ≤ l.length - p)]
 rw [List.append_assoc, ← List.drop_drop, List.take_append_drop, List.take_append_drop]
theorem Sits.append {l s t : List UInt8} {p : Nat} (h : Sits l p s) (k : Sits l (p + s.length) t) : Sits l p (s ++ t) := by
 have hl : p + (s ++ t).length ≤ l.length := by
  obtain ⟨a, c, e, ha⟩ := k
  have := congrArg List.length e
  simp at this ⊢
  omega
 refine Sits.of hl fun i hi => ?_
 by_cases h1 : i < s.length
 ·rw [(h.at h1).2]
  unfold By.intAt
  rw [List.getD_eq_getElem?_getD, List.getD_eq_getElem?_getD, List.getElem?_append_left h1]
 ·have h2 : i - s.length < t.length := by simp at hi; omega
  have e := (k.at h2).2
  rw [show p + s.length + (i - s.length) = p + i by omega] at e
  rw [e]
  unfold By.intAt
  rw [List.getD_eq_getElem?_getD, List.getD_eq_getElem?_getD, List.getElem?_append_right (by omega)]
theorem Sits.nil {l : List UInt8} {p : Nat} (h : p ≤ l.length) : Sits l p [] := Sits.of (by simpa using h) fun i hi => by simp at hi
theorem Sits.all {l s : List UInt8} (h : Sits l 0 s) (hs : s.length = l.length) : s = l := by
 obtain ⟨a, c, rfl, ha⟩ := h
 have ha' : a = [] := List.eq_nil_of_length_eq_zero ha
 subst ha'
 have hc : c = [] := by simpa using hs
 subst hc
 simp
theorem byteOf_small {z : Int} (h0 : 0 ≤ z) (h1 : z ≤ 255) : ((byteOf z).toNat : Int) = z := by rw [byteOf_val]; omega
theorem read1 {l : List UInt8} {p : Nat} {z : Int} (h : Sits l p [byteOf z]) (h0 : 0 ≤ z) (h1 : z ≤ 255) : val1 l (some p) = z ∧ nxt l 1 (some p) = some (p + 1) := by
 obtain ⟨hl, e⟩ := h.at (i := 0) (by simp)
 have hl2 : p + 1 ≤ l.length := by omega
 unfold val1 nxt
 simp only [if_pos hl2, and_true]
 unfold by8
 rw [show By.intAt l p = byteOf z from e]
 exact byteOf_small h0 h1
theorem read2 {l : List UInt8} {p : Nat} {z : Int} (h : Sits l p (twoB z)) (h0 : 0 ≤ z) (h1 : z ≤ 65535) : val2 l (some p) = z ∧ nxt l 2 (some p) = some (p + 2) := by
 obtain ⟨_, e⟩ := h.at (i := 0) (by simp [twoB])
 obtain ⟨hl, e'⟩ := h.at (i := 1) (by simp [twoB])
 have hl2 : p + 2 ≤ l.length := by omega
 unfold val2 nxt
 simp only [if_pos hl2, and_true]
 unfold by8
 rw [show By.intAt l p = byteOf (z / 256) from e, show By.intAt l (p + 1) = byteOf z from e', byteOf_val, byteOf_val]
 omega
theorem nxt_some {l : List UInt8} {n q : Nat} {σ : Option Nat} (h : nxt l n σ = some q) : ∃ p, σ = some p ∧ q = p + n ∧ p + n ≤ l.length := by
 cases σ with
 | none => cases h
 | some p =>
  unfold nxt at h
  by_cases hp : p + n ≤ l.length
  ·simp only [if_pos hp, Option.some.injEq] at h
   exact ⟨p, rfl, h.symm, hp⟩
  ·simp only [if_neg hp] at h
   cases h
theorem byteOf_back (b : UInt8) : byteOf (b.toNat : Int) = b := by
 have h := b.toNat_lt
 apply UInt8.toNat.inj
 have := byteOf_val (b.toNat : Int)
 omega
theorem print1 {l : List UInt8} {p : Nat} (h : p + 1 ≤ l.length) : Sits l p [byteOf (val1 l (some p))] := by
 refine Sits.of (by simpa using h) fun i hi => ?_
 have hi0 : i = 0 := by simp at hi; exact hi
 subst hi0
 unfold val1
 simp only [if_pos h]
 unfold by8
 rw [byteOf_back]
 rfl
theorem print2 {l : List UInt8} {p : Nat} (h : p + 2 ≤ l.length) : Sits l p (twoB (val2 l (some p))) := by
 have e : val2 l (some p) = by8 l p * 256 + by8 l (p + 1) := by unfold val2; simp only [if_pos h]
 have h0 := by8_low l p
 have h1 := by8_low l (p + 1)
 have e1 : byteOf (val2 l (some p) / 256) = By.intAt l p := by
  rw [e, show (by8 l p * 256 + by8 l (p + 1)) / 256 = by8 l p by omega]
  exact byteOf_back _
 have e2 : byteOf (val2 l (some p)) = By.intAt l (p + 1) := by
  have : byteOf (val2 l (some p)) = byteOf (by8 l (p + 1)) := by
   unfold byteOf
   rw [e, show (by8 l p * 256 + by8 l (p + 1)) % 256 = by8 l (p + 1) % 256 by omega]
  rw [this]
  exact byteOf_back _
 refine Sits.of (by simpa [twoB] using h) fun i hi => ?_
 have hi2 : i = 0 ∨ i = 1 := by simp [twoB] at hi; omega
 unfold twoB
 rw [e1, e2]
 rcases hi2 with rfl | rfl <;> rfl
def cat {α : Type} (pr : α → List UInt8) (xs : List α) : List UInt8 := (xs.map pr).flatten
theorem cat_snoc {α : Type} (pr : α → List UInt8) (xs : List α) (x : α) : cat pr (xs ++ [x]) = cat pr xs ++ pr x := by simp [cat]
theorem run_print {α : Type} {l : List UInt8} {f : Nat → Option Nat → α × Option Nat} {pr : α → List UInt8}
  (hf : ∀ k p q, (f k (some p)).2 = some q → q = p + (pr (f k (some p)).1).length ∧ Sits l p (pr (f k (some p)).1)) {p : Nat} (hp : p ≤ l.length) :
  ∀ k q, (runG f (some p) k).2 = some q → q = p + (cat pr (runG f (some p) k).1).length ∧ Sits l p (cat pr (runG f (some p) k).1)
 | 0, q, h => by
  simp only [runG, Option.some.injEq] at h
  subst h
  exact ⟨by simp [runG, cat], Sits.nil hp⟩
 | k + 1, q, h => by
  cases hs : (runG f (some p) k).2 with
  | none =>
   have e : runG f (some p) (k + 1) = runG f (some p) k := by simp [runG, hs]
   rw [e, hs] at h
   cases h
  | some r =>
   rw [run_some hs] at h ⊢
   obtain ⟨h1, h2⟩ := run_print hf hp k r hs
   obtain ⟨h3, h4⟩ := hf k r q h
   simp only [cat_snoc, List.length_append]
   refine ⟨by omega, h2.append ?_⟩
   rw [← h1]
   exact h4
theorem cat_append {α : Type} (pr : α → List UInt8) (xs ys : List α) : cat pr (xs ++ ys) = cat pr xs ++ cat pr ys := by simp [cat]
theorem run_read_to {α : Type} {l : List UInt8} {f : Nat → Option Nat → α × Option Nat} {pr : α → List UInt8} (p : Nat) (xs : List α)
  (hf : ∀ i (x : α), xs[i]? = some x → ∀ p, Sits l p (pr x) → f i (some p) = (x, some (p + (pr x).length))) (hs : Sits l p (cat pr xs)) :
  ∀ k, k ≤ xs.length → runG f (some p) k = (xs.take k, some (p + (cat pr (xs.take k)).length))
 | 0, _ => by simp [runG, cat]
 | k + 1, hk => by
  have h1 := run_read_to p xs hf hs k (by omega)
  have et : xs.take (k + 1) = xs.take k ++ [xs[k]] := by rw [List.take_succ_eq_append_getElem (by omega)]
  have h : Sits l p (cat pr (xs.take (k + 1))) := by
   rw [← List.take_append_drop (k + 1) xs, cat_append] at hs
   exact hs.left
  rw [et, cat_snoc] at h
  have h2 := hf k xs[k] (List.getElem?_eq_getElem (by omega)) _ h.right
  rw [run_some (by rw [h1]), h1, et, cat_snoc]
  simp only [h2, List.length_append]
  rw [Nat.add_assoc]
theorem run_read {α : Type} {l : List UInt8} {f : Nat → Option Nat → α × Option Nat} {pr : α → List UInt8} (p : Nat) (xs : List α)
  (hf : ∀ i (x : α), xs[i]? = some x → ∀ p, Sits l p (pr x) → f i (some p) = (x, some (p + (pr x).length))) (hs : Sits l p (cat pr xs)) :
  runG f (some p) xs.length = (xs, some (p + (cat pr xs).length)) := by
 have h := run_read_to p xs hf hs xs.length (Nat.le_refl _)
 rw [List.take_length] at h
 exact h
end Go.Proofs.YtbljfphdghfkfaaGreatDoor

/- The bytes of a model that is fit are read as that model; what is read from bytes prints as those bytes. -/
namespace Go.Proofs.YtbljfphdghfkfaaGreatDoor
open Go.RowKit
theorem cat_of {α : Type} {pr : α → List UInt8} {F : Nat → List UInt8} {g : Nat → α} {xs : List α} (h0 : F 0 = []) (hs : ∀ k, F (k + 1) = F k ++ pr (g k)) (hg : ∀ k x, xs[k]? = some x → g k = x) :
  ∀ k, k ≤ xs.length → F k = cat pr (xs.take k)
 | 0, _ => by rw [h0]; simp [cat]
 | k + 1, hk => by
  have et : xs.take (k + 1) = xs.take k ++ [xs[k]] := by rw [List.take_succ_eq_append_getElem (by omega)]
  rw [hs, cat_of h0 hs hg k (by omega), et, cat_snoc, hg k xs[k] (List.getElem?_eq_getElem (by omega))]
theorem cat_all {α : Type} {pr : α → List UInt8} {F : Nat → List UInt8} {g : Nat → α} {xs : List α} (h0 : F 0 = []) (hs : ∀ k, F (k + 1) = F k ++ pr (g k)) (hg : ∀ k x, xs[k]? = some x → g k = x) :
  F xs.length = cat pr xs := by
 have h := cat_of (pr := pr) h0 hs hg xs.length (Nat.le_refl _)
 rwa [List.take_length] at h
theorem iniB_cat (m : Md) : iniB m m.i.length = cat twoB m.i := cat_all (g := intAt m.i) rfl (fun _ => rfl) fun k x h => by unfold intAt; rw [List.getD_eq_getElem?_getD, h]; rfl
theorem rowsB_cat (m : Md) : rowsB m m.h.length = cat rowBs m.h := cat_all (g := hAt m.h) rfl (fun _ => rfl) fun k x h => by unfold hAt; rw [List.getD_eq_getElem?_getD, h]; rfl
theorem evsB_cat (m : Md) : evsB m m.e.length = cat evB m.e := cat_all (g := evAt m.e) rfl (fun _ => rfl) fun k x h => by unfold evAt; rw [List.getD_eq_getElem?_getD, h]; rfl
theorem opsB_cat (r : List O) : opsB r r.length = cat opB r := cat_all (g := oAt r) rfl (fun _ => rfl) fun k x h => by unfold oAt; rw [List.getD_eq_getElem?_getD, h]; rfl
theorem fI_print {l : List UInt8} (k p q : Nat) (h : (fI l k (some p)).2 = some q) : q = p + (twoB (fI l k (some p)).1).length ∧ Sits l p (twoB (fI l k (some p)).1) := by
 obtain ⟨p', e, rfl, hl⟩ := nxt_some (show nxt l 2 (some p) = some q from h)
 cases e
 exact ⟨rfl, print2 hl⟩
theorem fO_print {l : List UInt8} (k p q : Nat) (h : (fO l k (some p)).2 = some q) : q = p + (opB (fO l k (some p)).1).length ∧ Sits l p (opB (fO l k (some p)).1) := by
 obtain ⟨p3, e3, rfl, l3⟩ := nxt_some (show nxt l 1 (nxt l 2 (nxt l 1 (nxt l 1 (some p)))) = some q from h)
 obtain ⟨p2, e2, rfl, l2⟩ := nxt_some e3
 obtain ⟨p1, e1, rfl, l1⟩ := nxt_some e2
 obtain ⟨p0, e0, rfl, l0⟩ := nxt_some e1
 cases e0
 refine ⟨rfl, ?_⟩
 rw [e2] at e3
 rw [e1] at e2
 have e : opB (fO l k (some p)).1 = [byteOf (val1 l (some p))] ++ [byteOf (val1 l (some (p + 1)))] ++ twoB (val2 l (some (p + 1 + 1))) ++ [byteOf (val1 l (some (p + 1 + 1 + 2)))] := by
  unfold fO opB
  simp only [e1, e2, e3]
  rfl
 rw [e]
 exact (((print1 l0).append (print1 l1)).append (print2 l2)).append (print1 l3)
theorem fR_print {l : List UInt8} (k p q : Nat) (h : (fR l k (some p)).2 = some q) : q = p + (rowBs (fR l k (some p)).1).length ∧ Sits l p (rowBs (fR l k (some p)).1) := by
 cases e : nxt l 1 (some p) with
 | none =>
  unfold fR at h
  rw [e, run_from] at h
  cases h
 | some p1 =>
  obtain ⟨_, e0, rfl, l0⟩ := nxt_some e
  cases e0
  unfold fR at h ⊢
  rw [e] at h ⊢
  have hf := run_full h
  obtain ⟨h1, h2⟩ := run_print fO_print (by omega) _ q h
  have hv := val1_low l (some p)
  have hlen : ((runG (fO l) (some (p + 1)) (val1 l (some p)).toNat).1.length : Int) = val1 l (some p) := by rw [hf]; omega
  unfold rowBs
  rw [opsB_cat, hlen]
  refine ⟨by simp; omega, (print1 l0).append h2⟩
theorem fE_print {l : List UInt8} (k p q : Nat) (h : (fE l k (some p)).2 = some q) : q = p + (evB (fE l k (some p)).1).length ∧ Sits l p (evB (fE l k (some p)).1) := by
 obtain ⟨p3, e3, rfl, l3⟩ := nxt_some (show nxt l 2 (nxt l 1 (nxt l 1 (nxt l 2 (some p)))) = some q from h)
 obtain ⟨p2, e2, rfl, l2⟩ := nxt_some e3
 obtain ⟨p1, e1, rfl, l1⟩ := nxt_some e2
 obtain ⟨p0, e0, rfl, l0⟩ := nxt_some e1
 cases e0
 refine ⟨rfl, ?_⟩
 rw [e2] at e3
 rw [e1] at e2
 have e : evB (fE l k (some p)).1 = twoB (val2 l (some p)) ++ ([byteOf (val1 l (some (p + 2)))] ++ [byteOf (val1 l (some (p + 2 + 1)))]) ++ twoB (val2 l (some (p + 2 + 1 + 1))) := by
  unfold fE evB
  simp only [e1, e2, e3]
  rfl
 rw [e]
 exact ((print2 l0).append ((print1 l1).append (print1 l2))).append (print2 l3)
theorem run_dead {α : Type} {f : Nat → Option Nat → α × Option Nat} {σ : Option Nat} {k q : Nat} (h : (runG f σ k).2 = some q) : ∃ p, σ = some p := by
 cases σ with
 | none => rw [run_from] at h; cases h
 | some p => exact ⟨p, rfl⟩
theorem bytes_read {l : List UInt8} (h : readOk l = true) : bytesL (rdM l) = l := by
 unfold readOk at h
 rw [Bool.and_eq_true, decide_eq_true_eq] at h
 have hE : (rE l).2 = some l.length := h.1
 obtain ⟨pH, hH⟩ := run_dead hE
 obtain ⟨pI, hI⟩ := run_dead hH
 obtain ⟨p5, h5⟩ := run_dead hI
 obtain ⟨a4, e4, hp4, l4⟩ := nxt_some h5
 obtain ⟨a3, e3, hp3, l3⟩ := nxt_some e4
 obtain ⟨a2, e2, hp2, l2⟩ := nxt_some e3
 obtain ⟨a1, e1, hp1, l1⟩ := nxt_some e2
 obtain ⟨a0, e0, hp0, l0⟩ := nxt_some e1
 cases e0
 subst hp0 hp1 hp2 hp3 hp4
 have cI : (rI l).1.length = (nLps l).toNat := run_full hI
 have cH : (rH l).1.length = (nKin l).toNat := run_full hH
 have cE : (rE l).1.length = (nSta l).toNat := run_full hE
 unfold rI at hI
 rw [h5] at hI
 have sI := run_print fI_print l4 _ _ hI
 have eI : rI l = runG (fI l) (some (0 + 1 + 1 + 1 + 2 + 2)) (nLps l).toNat := by unfold rI; rw [h5]
 rw [← eI] at sI
 have eH : rH l = runG (fR l) (some pI) (nKin l).toNat := by unfold rH; rw [show (rI l).2 = some pI by rw [eI]; exact hI]
 have eE : rE l = runG (fE l) (some pH) (nSta l).toNat := by unfold rE; rw [hH]
 have lI : pI ≤ l.length := by
  obtain ⟨h1, a, c, h2, h3⟩ := sI
  have := congrArg List.length h2
  simp at this
  omega
 have hH' := hH
 rw [eH] at hH'
 have sH := run_print fR_print lI _ _ hH'
 rw [← eH] at sH
 have lH : pH ≤ l.length := by
  obtain ⟨h1, a, c, h2, h3⟩ := sH
  have := congrArg List.length h2
  simp at this
  omega
 have hE' := hE
 rw [eE] at hE'
 have sE := run_print fE_print lH _ _ hE'
 rw [← eE] at sE
 have v0 := val1_low l (some 0)
 have v1 := val1_low l (some (0 + 1))
 have v2 := val1_low l (some (0 + 1 + 1))
 have hh : headB (rdM l) = [byteOf (val1 l (some 0))] ++ [byteOf (val1 l (some (0 + 1)))] ++ [byteOf (val1 l (some (0 + 1 + 1)))] := by
  have k1 : ((rH l).1.length : Int) = val1 l (some (0 + 1)) := by rw [cH]; unfold nKin; rw [e1]; omega
  have k2 : ((rE l).1.length : Int) = val1 l (some (0 + 1 + 1)) := by rw [cE]; unfold nSta; rw [e2]; omega
  show [byteOf (nLps l), byteOf ((rH l).1.length : Int), byteOf ((rE l).1.length : Int)] = _
  rw [k1, k2]
  rfl
 have hz : (rdM l).z = val2 l (some (0 + 1 + 1 + 1)) := by unfold rdM; simp only [e3]
 have hs : (rdM l).s = val2 l (some (0 + 1 + 1 + 1 + 2)) := by unfold rdM; simp only [e4]
 have hall : Sits l 0 (bytesL (rdM l)) ∧ (bytesL (rdM l)).length = l.length := by
  unfold bytesL
  rw [iniB_cat, rowsB_cat, evsB_cat, hh, hz, hs]
  refine ⟨Sits.append (Sits.append (Sits.append (Sits.append (Sits.append (Sits.append (Sits.append (print1 l0) (print1 l1)) (print1 l2)) (print2 l3)) (print2 l4)) sI.2) ?_) ?_, ?_⟩
  ·have e := sI.1
   have k := sH.2
   simp only [List.length_append, List.length_singleton, twoB_length]
   rw [e] at k
   rw [show 0 + (1 + 1 + 1 + 2 + 2 + (cat twoB (rdM l).i).length) = 0 + 1 + 1 + 1 + 2 + 2 + (cat twoB (rI l).1).length by show 0 + (1 + 1 + 1 + 2 + 2 + (cat twoB (rI l).1).length) = _; omega]
   exact k
  ·have e := sI.1
   have e' := sH.1
   have k := sE.2
   simp only [List.length_append, List.length_singleton, twoB_length]
   rw [e', e] at k
   rw [show 0 + (1 + 1 + 1 + 2 + 2 + (cat twoB (rdM l).i).length + (cat rowBs (rdM l).h).length) = 0 + 1 + 1 + 1 + 2 + 2 + (cat twoB (rI l).1).length + (cat rowBs (rH l).1).length by show 0 + (1 + 1 + 1 + 2 + 2 + (cat twoB (rI l).1).length + (cat rowBs (rH l).1).length) = _; omega]
   exact k
  ·have e := sI.1
   have e' := sH.1
   have e'' := sE.1
   simp only [List.length_append, List.length_singleton, twoB_length]
   show 1 + 1 + 1 + 2 + 2 + (cat twoB (rI l).1).length + (cat rowBs (rH l).1).length + (cat evB (rE l).1).length = l.length
   omega
 exact hall.1.all hall.2
end Go.Proofs.YtbljfphdghfkfaaGreatDoor

/- The bytes of a model that is fit are read as that model. -/
namespace Go.Proofs.YtbljfphdghfkfaaGreatDoor
open Go.RowKit
theorem fI_read {l : List UInt8} (k p : Nat) (x : Int) (h0 : 0 ≤ x) (h1 : x ≤ 65535) (h : Sits l p (twoB x)) : fI l k (some p) = (x, some (p + (twoB x).length)) := by
 obtain ⟨e1, e2⟩ := read2 h h0 h1
 unfold fI
 rw [e1, e2]
 rfl
theorem fO_read {l : List UInt8} (k p : Nat) (x : O) (hs : small x) (h : Sits l p (opB x)) : fO l k (some p) = (x, some (p + (opB x).length)) := by
 obtain ⟨c0, c1, a0, a1, b0, b1, k0, k1⟩ := hs
 have h' : Sits l p ([byteOf x.c] ++ [byteOf x.a] ++ twoB x.b ++ [byteOf x.k]) := h
 obtain ⟨v0, n0⟩ := read1 h'.left.left.left c0 c1
 obtain ⟨v1, n1⟩ := read1 (p := p + 1) h'.left.left.right a0 a1
 obtain ⟨v2, n2⟩ := read2 (p := p + 1 + 1) h'.left.right b0 b1
 obtain ⟨v3, n3⟩ := read1 (p := p + 1 + 1 + 2) h'.right k0 k1
 unfold fO
 simp only [n0, n1, n2, n3, v0, v1, v2, v3]
 rfl
theorem fR_read {l : List UInt8} (k p : Nat) (r : List O) (hr : r.length ≤ 255) (hs : ∀ q, q < r.length → small (oAt r q)) (h : Sits l p (rowBs r)) : fR l k (some p) = (r, some (p + (rowBs r).length)) := by
 unfold rowBs at h ⊢
 rw [opsB_cat] at h ⊢
 obtain ⟨v0, n0⟩ := read1 h.left (by omega) (by omega)
 unfold fR
 rw [n0, v0, Int.toNat_natCast]
 have hrd := run_read (f := fO l) (pr := opB) (p + 1) r (fun i x hx q hq => fO_read i q x (by
  have hi : i < r.length := (List.getElem?_eq_some_iff.1 hx).1
  have hh := hs i hi
  unfold oAt at hh
  rw [List.getD_eq_getElem?_getD, hx] at hh
  exact hh) hq) h.right
 rw [hrd]
 simp only [List.length_append, List.length_singleton]
 rw [Nat.add_assoc]
theorem fE_read {l : List UInt8} (k p : Nat) (x : Ev) (t0 : 0 ≤ x.t) (t1 : x.t ≤ 65535) (d0 : 0 ≤ x.d) (d1 : x.d ≤ 255) (k0 : 0 ≤ x.k) (k1 : x.k ≤ 255) (v0 : 0 ≤ x.v) (v1 : x.v ≤ 65535) (hs : x.s = -1) (hq : x.q = (k : Int)) (hg : x.g = (k : Int)) (h : Sits l p (evB x)) : fE l k (some p) = (x, some (p + (evB x).length)) := by
 have h' : Sits l p (twoB x.t ++ ([byteOf x.d] ++ [byteOf x.k]) ++ twoB x.v) := h
 obtain ⟨w0, n0⟩ := read2 h'.left.left t0 t1
 obtain ⟨w1, n1⟩ := read1 (p := p + 2) h'.left.right.left d0 d1
 obtain ⟨w2, n2⟩ := read1 (p := p + 2 + 1) h'.left.right.right k0 k1
 obtain ⟨w3, n3⟩ := read2 (p := p + 2 + 1 + 1) h'.right v0 v1
 unfold fE
 simp only [n0, n1, n2, n3, w0, w1, w2, w3]
 rw [← hs, ← hq]
 have e : ({ t := x.t, s := x.s, q := x.q, d := x.d, k := x.k, v := x.v, g := x.q } : Ev) = x := by
  have hqg : x.q = x.g := by omega
  cases x
  simp only at hqg
  subst hqg
  rfl
 rw [e]
 rfl
theorem read_bytes {m : Md} (h : m.ok = true) : readOk (bytesL m) = true ∧ rdM (bytesL m) = m := by
 have hd := (ok_all h).1
 unfold Md.hd at hd
 obtain ⟨hn0, hn1, hs0, hs1, hil, hh0, hh1, he1, hz0, hz1⟩ := hd
 obtain ⟨l, hl⟩ : ∃ l, bytesL m = l := ⟨_, rfl⟩
 have hS : Sits l 0 (bytesL m) := ⟨[], [], by rw [hl]; simp, rfl⟩
 have hlen := congrArg List.length hl
 unfold bytesL at hS hlen
 rw [iniB_cat, rowsB_cat, evsB_cat] at hS hlen
 have hS' : Sits l 0 ([byteOf m.n] ++ [byteOf (m.h.length : Int)] ++ [byteOf (m.e.length : Int)] ++ twoB m.z ++ twoB m.s ++ cat twoB m.i ++ cat rowBs m.h ++ cat evB m.e) := hS
 obtain ⟨v0, n0⟩ := read1 hS'.left.left.left.left.left.left.left (by omega) (by omega)
 obtain ⟨v1, n1⟩ := read1 (p := 0 + 1) hS'.left.left.left.left.left.left.right (by omega) (by omega)
 obtain ⟨v2, n2⟩ := read1 (p := 0 + 1 + 1) hS'.left.left.left.left.left.right (by omega) (by omega)
 obtain ⟨v3, n3⟩ := read2 (p := 0 + 1 + 1 + 1) hS'.left.left.left.left.right (by omega) (by omega)
 obtain ⟨v4, n4⟩ := read2 (p := 0 + 1 + 1 + 1 + 2) hS'.left.left.left.right (by omega) (by omega)
 have s5e : s5 l = some (0 + 1 + 1 + 1 + 2 + 2) := by unfold s5; rw [n0, n1, n2, n3, n4]
 have nl : nLps l = m.n := by unfold nLps; rw [v0]
 have nk : nKin l = (m.h.length : Int) := by unfold nKin; rw [n0, v1]
 have ns : nSta l = (m.e.length : Int) := by unfold nSta; rw [n0, n1, v2]
 have pI : Sits l (0 + 1 + 1 + 1 + 2 + 2) (cat twoB m.i) := hS'.left.left.right
 have pH := hS'.left.right
 have pE := hS'.right
 have eI : rI l = (m.i, some (0 + 1 + 1 + 1 + 2 + 2 + (cat twoB m.i).length)) := by
  unfold rI
  rw [s5e, nl, show m.n.toNat = m.i.length by omega]
  exact run_read _ m.i (fun i x hx p hp => by
   have hi : i < m.i.length := (List.getElem?_eq_some_iff.1 hx).1
   have hh := ok_int h hi
   unfold intAt at hh
   rw [List.getD_eq_getElem?_getD, hx] at hh
   have hh' : 0 ≤ x ∧ x ≤ 999 := hh
   exact fI_read i p x (by omega) (by omega) hp) pI
 have eH : rH l = (m.h, some (0 + 1 + 1 + 1 + 2 + 2 + (cat twoB m.i).length + (cat rowBs m.h).length)) := by
  unfold rH
  rw [eI, nk, Int.toNat_natCast]
  refine run_read (l := l) _ m.h (fun i x hx p hp => ?_) ?_
  ·have hi : i < m.h.length := (List.getElem?_eq_some_iff.1 hx).1
   have e : hAt m.h i = x := by unfold hAt; rw [List.getD_eq_getElem?_getD, hx]; rfl
   have h8 := ok_rowB h i
   rw [e] at h8
   exact fR_read i p x (by omega) (fun q hq => by have := ok_small h hi (q := q) (by rw [e]; exact hq); rwa [e] at this) hp
  ·have k := pH
   simp only [List.length_append, List.length_singleton, twoB_length] at k
   rw [show 0 + (1 + 1 + 1 + 2 + 2 + (cat twoB m.i).length) = 0 + 1 + 1 + 1 + 2 + 2 + (cat twoB m.i).length by omega] at k
   exact k
 have eE : rE l = (m.e, some l.length) := by
  unfold rE
  rw [eH, ns, Int.toNat_natCast]
  have hr := run_read (l := l) (f := fE l) (pr := evB) (0 + 1 + 1 + 1 + 2 + 2 + (cat twoB m.i).length + (cat rowBs m.h).length) m.e (fun i x hx p hp => ?_) ?_
  ·rw [hr]
   congr 2
   rw [← hlen]
   simp [headB, twoB_length]
   omega
  ·have hi : i < m.e.length := (List.getElem?_eq_some_iff.1 hx).1
   have e : evAt m.e i = x := by unfold evAt; rw [List.getD_eq_getElem?_getD, hx]; rfl
   have h1 := List.all_eq_true.1 (ok_all h).2.2.2 i (by simpa using hi)
   rw [e] at h1
   simp only [stB, Ev.ok, okB, Bool.and_eq_true, decide_eq_true_eq] at h1
   exact fE_read i p x (by omega) (by omega) (by omega) (by omega) (by omega) (by omega) (by omega) (by omega) (by omega) (by omega) (by omega) hp
  ·have k := pE
   simp only [List.length_append, List.length_singleton, twoB_length] at k
   rw [show 0 + (1 + 1 + 1 + 2 + 2 + (cat twoB m.i).length + (cat rowBs m.h).length) = 0 + 1 + 1 + 1 + 2 + 2 + (cat twoB m.i).length + (cat rowBs m.h).length by omega] at k
   exact k
 have hm : rdM l = m := by
  unfold rdM
  rw [nl, eI, eH, eE, n0, n1, n2, n3, v3, v4]
 rw [hl]
 refine ⟨?_, hm⟩
 unfold readOk
 rw [hm, eE, h]
 simp
end Go.Proofs.YtbljfphdghfkfaaGreatDoor

/- laws.same of two rows of bytes that are alike. -/
namespace Go.Proofs.YtbljfphdghfkfaaGreatDoor
open Go.RowKit
abbrev strB (l : List UInt8) : ByteArray := ⟨l.toArray⟩
set_option maxRecDepth 100000 in
set_option maxHeartbeats 2000000 in
theorem sameB_same (x y : Value) (l : List UInt8) (w : World) (hne : l ≠ []) (hx : By.IsI w x l) (hy : By.IsI w y l) :
  Calls Tryz.prog 11 #[x, y] w fun e w' => e = .returned (.bool true) ∧ Below w.heap.size w w' := by
 obtain ⟨a, cap, rfl, _, _, h⟩ := hx
 obtain ⟨a', cap', rfl, _, _, h'⟩ := hy
 obtain ⟨b, off, rfl, hI⟩ := h.resolve_left hne
 obtain ⟨b', off', rfl, hJ⟩ := h'.resolve_left hne
 have hcv : (convert 22 9 (.slice (some ⟨b, off, none⟩) l.length cap)).run Tryz.prog w = .ok (.string (strB l)) w :=
  run_convert_bytes_back (P := Tryz.prog) w 22 9 5 ⟨b, off, none⟩ cap l Tryz.underlying22 Tryz.underlying5 Tryz.underlying9 (fun j hj => by
   rw [add_none, hI.2 j hj]
   simp [By.intAt, hj])
 have hcw : (convert 22 9 (.slice (some ⟨b', off', none⟩) l.length cap')).run Tryz.prog w = .ok (.string (strB l)) w :=
  run_convert_bytes_back (P := Tryz.prog) w 22 9 5 ⟨b', off', none⟩ cap' l Tryz.underlying22 Tryz.underlying5 Tryz.underlying9 (fun j hj => by
   rw [add_none, hJ.2 j hj]
   simp [By.intAt, hj])
 generalize strB l = s at hcv hcw
 clear h h' hI hJ hne
 go_enter Tryz.func11, Tryz.ntmps11
 go_wp2
 go_ret
 exact ⟨by simp, Below.refl _ _⟩
end Go.Proofs.YtbljfphdghfkfaaGreatDoor

/- What the text of an event is; bytes that lie in memory. -/
namespace Go.Proofs.YtbljfphdghfkfaaGreatDoor
open Go.RowKit
def byteAt (l : List UInt8) (i : Nat) : UInt8 := l.getD i 0
def BytesAt (w : World) (b off : Nat) (l : List UInt8) : Prop := b < w.heap.size ∧ ∀ i, i < l.length → w.cell? ⟨b, off + i, none⟩ = some (.int .u8 ((byteAt l i).toNat : Int))
def OwnB (B : Nat) (w : World) (x : Value) (l : List UInt8) : Prop := ∃ a cap, x = .slice a l.length cap ∧ l.length ≤ cap ∧ cap ≤ maxLen ∧ (l = [] ∨ ∃ g, a = some ⟨g, 0, none⟩ ∧ B ≤ g ∧ (∀ j, j < l.length → w.frozen? ⟨g, j, none⟩ = false) ∧ BytesAt w g 0 l)
theorem OwnB.nil (B : Nat) (w : World) : OwnB B w (.slice none 0 0) [] := ⟨none, 0, rfl, Nat.le_refl _, Nat.zero_le _, .inl rfl⟩
theorem OwnB.mono {B B' : Nat} {w : World} {x : Value} {l : List UInt8} (h : OwnB B w x l) (hb : B' ≤ B) : OwnB B' w x l := by
 obtain ⟨a, cap, rfl, h1, h2, h⟩ := h
 exact ⟨a, cap, rfl, h1, h2, h.imp id (fun ⟨g, e, hg, hr⟩ => ⟨g, e, Nat.le_trans hb hg, hr⟩)⟩
theorem decDigits_ge (n : Nat) (h : ¬ n < 10) : Lib.decDigits n = Lib.decDigits (n / 10) ++ [UInt8.ofNat (48 + n % 10)] := by rw [Lib.decDigits, dif_neg h]
theorem decDigits_len (n : Nat) : (Lib.decDigits n).length ≤ n + 1 := by
 induction n using Nat.strongRecOn with
 | _ n ih =>
  by_cases h : n < 10
  ·rw [Lib.decDigits_one h]; simp
  ·rw [decDigits_ge n h]
   have := ih (n / 10) (by omega)
   simp; omega
def dec (z : Int) : List UInt8 := Lib.decDigits z.toNat
theorem dec_len (z : Int) (h : z ≤ 1000000) : (dec z).length ≤ 1000001 := by
 have := decDigits_len z.toNat
 unfold dec
 omega
def fromText (s : Int) : List UInt8 := if s < 0 then [32, 111, 117, 116, 115, 105, 100, 101] else [32, 102, 114, 111, 109, 32] ++ dec s
def evText (t s q d k v : Int) : List UInt8 := [97, 116, 32] ++ dec t ++ fromText s ++ ([35] ++ dec q) ++ ([32, 116, 111, 32] ++ dec d) ++ ([32, 107, 105, 110, 100, 32] ++ dec k) ++ ([32, 118, 97, 108, 32] ++ dec v)
end Go.Proofs.YtbljfphdghfkfaaGreatDoor

/- The two library functions that the text calls, by their contracts: strings.Join and strconv.Itoa, at this dump. -/
namespace Go.Proofs
open Go.Shelf
def Tryz.lays156_ren : Go.Shelf.Ren := ⟨fun | 156 => 38 | 165 => 71 | 166 => 72 | 169 => 73 | 240 => 91 | 241 => 92 | 276 => 101 | 277 => 102 | n => n, fun | 31 => 68 | 9 => 9 | 3 => 3 | 4 => 4 | 0 => 0 | 20 => 20 | 72 => 122 | 76 => 126 | 70 => 120 | 37 => 22 | 75 => 125 | 127 => 159 | 164 => 179 | 5 => 5 | 80 => 128 | n => n, fun | n => n⟩
theorem Tryz.lays156 : Go.Proofs.Lays.n156 Tryz.prog Tryz.lays156_ren := {
 mixed := by kernel_rfl
 f156 := Tryz.func38.trans (congrArg some (by kernel_rfl))
 f165 := Tryz.func71.trans (congrArg some (by kernel_rfl))
 f166 := Tryz.func72.trans (congrArg some (by kernel_rfl))
 f169 := Tryz.func73.trans (congrArg some (by kernel_rfl))
 f240 := Tryz.func91.trans (congrArg some (by kernel_rfl))
 f241 := Tryz.func92.trans (congrArg some (by kernel_rfl))
 f276 := Tryz.func101.trans (congrArg some (by kernel_rfl))
 f277 := Tryz.func102.trans (congrArg some (by kernel_rfl))
 t0 := Tryz.underlying0
 a0 := Tryz.isAgg0
 z0 := Tryz.sizeOf0
 v0 := Tryz.zeroValue0
 t3 := Tryz.underlying3
 a3 := Tryz.isAgg3
 z3 := Tryz.sizeOf3
 v3 := Tryz.zeroValue3
 t4 := Tryz.underlying4
 a4 := Tryz.isAgg4
 z4 := Tryz.sizeOf4
 v4 := Tryz.zeroValue4
 t9 := Tryz.underlying9
 a9 := Tryz.isAgg9
 z9 := Tryz.sizeOf9
 v9 := Tryz.zeroValue9
 t20 := Tryz.underlying20
 a20 := Tryz.isAgg20
 z20 := Tryz.sizeOf20
 v20 := Tryz.zeroValue20
 t31 := Tryz.underlying68
 a31 := Tryz.isAgg68
 z31 := Tryz.sizeOf68
 v31 := Tryz.zeroValue68
 t37 := Tryz.underlying22
 a37 := Tryz.isAgg22
 z37 := Tryz.sizeOf22
 v37 := Tryz.zeroValue22
 t70 := Tryz.underlying120
 a70 := Tryz.isAgg120
 z70 := Tryz.sizeOf120
 v70 := Tryz.zeroValue120
 t72 := Tryz.underlying122
 a72 := Tryz.isAgg122
 z72 := Tryz.sizeOf122
 v72 := Tryz.zeroValue122
 t75 := Tryz.underlying125
 a75 := Tryz.isAgg125
 z75 := Tryz.sizeOf125
 v75 := Tryz.zeroValue125
 t76 := Tryz.underlying126
 a76 := Tryz.isAgg126
 z76 := Tryz.sizeOf126
 v76 := Tryz.zeroValue126
 t127 := Tryz.underlying159
 a127 := Tryz.isAgg159
 z127 := Tryz.sizeOf159
 v127 := Tryz.zeroValue159
 t164 := Tryz.underlying179
 a164 := Tryz.isAgg179
 z164 := Tryz.sizeOf179
 v164 := Tryz.zeroValue179 }
theorem Tryz.Builder_Extra_156 : Builder.Extra Tryz.prog Tryz.lays156_ren := {
 sizeBuilder := by kernel_rfl
 liesBuilder := by kernel_rfl
 t5 := Tryz.underlying5
 a5 := Tryz.isAgg5
 z5 := Tryz.sizeOf5
 v5 := Tryz.zeroValue5
 infoByte := by kernel_rfl
 cellsByte := by kernel_rfl
 sizeByte := by kernel_rfl
 neB5 := by decide }
open Go.RowKit in
theorem Tryz.strings_Join_none (a : Option Addr) (c : Nat) (sep : ByteArray) (w : World) :
  Calls Tryz.prog 38 #[.slice a 0 c, .string sep] w fun e w' => e = .returned (.string ⟨#[]⟩) ∧ w' = w := Any.strings_Join_none Tryz.lays156 Tryz.Builder_Extra_156 a c sep w
open Go.RowKit in
theorem Tryz.strings_Join (bk o c : Nat) (xs : List ByteArray) (sep : ByteArray) (w : World) (hcells : ∀ (j : Nat) x, xs[j]? = some x → w.cell? ⟨bk, o + j, none⟩ = some (.string x)) (hbk : bk < w.heap.size) (hN : xs.length ≤ 140737488355328) (hcap : xs.length ≤ c) (hlen : (Lib.join (xs.map (·.data.toList)) sep.data.toList).length ≤ 140737488355328) :
  Calls Tryz.prog 38 #[.slice (some ⟨bk, o, none⟩) xs.length c, .string sep] w fun e w' => e = .returned (.string ⟨(Lib.join (xs.map (·.data.toList)) sep.data.toList).toArray⟩) ∧ Below w.heap.size w w' := Any.strings_Join Tryz.lays156 Tryz.Builder_Extra_156 bk o c xs sep w hcells hbk hN hcap hlen
def Tryz.laysM171_ren : Go.Shelf.Ren := ⟨fun | 171 => 61 | 243 => 90 | 246 => 100 | 283 => 113 | 284 => 114 | 285 => 115 | 286 => 116 | 129 => 120 | 317 => 119 | 318 => 121 | 319 => 122 | 320 => 123 | 337 => 126 | 338 => 127 | n => n, fun | 3 => 3 | 9 => 9 | 2 => 2 | 4 => 4 | 171 => 189 | 0 => 0 | 53 => 190 | 37 => 22 | 5 => 5 | 173 => 193 | 212 => 198 | 51 => 199 | 20 => 20 | 213 => 200 | 46 => 147 | 232 => 205 | 233 => 206 | n => n, fun | 17 => 1 | 18 => 2 | 19 => 3 | n => n⟩
theorem Tryz.laysM171 : Go.Proofs.LaysM.n171 Tryz.prog Tryz.laysM171_ren := {
 mixed := by kernel_rfl
 f129 := Tryz.func120.trans (congrArg some (by kernel_rfl))
 f171 := Tryz.func61.trans (congrArg some (by kernel_rfl))
 f243 := Tryz.func90.trans (congrArg some (by kernel_rfl))
 f246 := Tryz.func100.trans (congrArg some (by kernel_rfl))
 f283 := Tryz.func113.trans (congrArg some (by kernel_rfl))
 f284 := Tryz.func114.trans (congrArg some (by kernel_rfl))
 f285 := Tryz.func115.trans (congrArg some (by kernel_rfl))
 f286 := Tryz.func116.trans (congrArg some (by kernel_rfl))
 f317 := Tryz.func119.trans (congrArg some (by kernel_rfl))
 f318 := Tryz.func121.trans (congrArg some (by kernel_rfl))
 f319 := Tryz.func122.trans (congrArg some (by kernel_rfl))
 f320 := Tryz.func123.trans (congrArg some (by kernel_rfl))
 f337 := Tryz.func126.trans (congrArg some (by kernel_rfl))
 f338 := Tryz.func127.trans (congrArg some (by kernel_rfl))
 t0 := Tryz.underlying0
 a0 := Tryz.isAgg0
 z0 := Tryz.sizeOf0
 v0 := Tryz.zeroValue0
 t2 := Tryz.underlying2
 a2 := Tryz.isAgg2
 z2 := Tryz.sizeOf2
 v2 := Tryz.zeroValue2
 t3 := Tryz.underlying3
 a3 := Tryz.isAgg3
 z3 := Tryz.sizeOf3
 v3 := Tryz.zeroValue3
 t4 := Tryz.underlying4
 a4 := Tryz.isAgg4
 z4 := Tryz.sizeOf4
 v4 := Tryz.zeroValue4
 t5 := Tryz.underlying5
 a5 := Tryz.isAgg5
 z5 := Tryz.sizeOf5
 v5 := Tryz.zeroValue5
 t9 := Tryz.underlying9
 a9 := Tryz.isAgg9
 z9 := Tryz.sizeOf9
 v9 := Tryz.zeroValue9
 t20 := Tryz.underlying20
 a20 := Tryz.isAgg20
 z20 := Tryz.sizeOf20
 v20 := Tryz.zeroValue20
 t37 := Tryz.underlying22
 a37 := Tryz.isAgg22
 z37 := Tryz.sizeOf22
 v37 := Tryz.zeroValue22
 t46 := Tryz.underlying147
 a46 := Tryz.isAgg147
 z46 := Tryz.sizeOf147
 v46 := Tryz.zeroValue147
 t51 := Tryz.underlying199
 a51 := Tryz.isAgg199
 z51 := Tryz.sizeOf199
 v51 := Tryz.zeroValue199
 t53 := Tryz.underlying190
 a53 := Tryz.isAgg190
 z53 := Tryz.sizeOf190
 v53 := Tryz.zeroValue190
 t171 := Tryz.underlying189
 a171 := Tryz.isAgg189
 z171 := Tryz.sizeOf189
 v171 := Tryz.zeroValue189
 t173 := Tryz.underlying193
 a173 := Tryz.isAgg193
 z173 := Tryz.sizeOf193
 v173 := Tryz.zeroValue193
 t212 := Tryz.underlying198
 a212 := Tryz.isAgg198
 z212 := Tryz.sizeOf198
 v212 := Tryz.zeroValue198
 t213 := Tryz.underlying200
 a213 := Tryz.isAgg200
 z213 := Tryz.sizeOf200
 t232 := Tryz.underlying205
 a232 := Tryz.isAgg205
 z232 := Tryz.sizeOf205
 v232 := Tryz.zeroValue205
 t233 := Tryz.underlying206
 a233 := Tryz.isAgg206
 z233 := Tryz.sizeOf206
 v233 := Tryz.zeroValue206
 g17 := by kernel_rfl
 g18 := by kernel_rfl
 g19 := by kernel_rfl
 i0 := by kernel_rfl
 i2 := by kernel_rfl
 i3 := by kernel_rfl
 i4 := by kernel_rfl
 i5 := by kernel_rfl
 i9 := by kernel_rfl
 i20 := by kernel_rfl
 i37 := by kernel_rfl
 i46 := by kernel_rfl
 i51 := by kernel_rfl
 i53 := by kernel_rfl
 i171 := by kernel_rfl
 i173 := by kernel_rfl
 i212 := by kernel_rfl
 i232 := by kernel_rfl
 i233 := by kernel_rfl
 m17 := by kernel_rfl
 m18 := by kernel_rfl
 m19 := by kernel_rfl }
open Go.RowKit Go.Sort Go.Lib in
theorem Tryz.strconv_Itoa (n : Int) (h0 : -9223372036854775808 ≤ n) (h1 : n ≤ 9223372036854775807) (w : World) (htab : Lib.TabIs Tryz.prog w "internal/strconv.uint64pow10" .u64 Lib.pow10Tab) :
  Calls Tryz.prog 61 #[.int .i64 n] w fun e w' => e = .returned (.string ⟨(Lib.itoa n).toArray⟩) ∧ ∃ k os, w' = grow (w.drewN k) os := Any.strconv_Itoa Tryz.laysM171 n h0 h1 w htab
end Go.Proofs

/- What the program's text of an event is made of: numbers, the sender, a string that turns into bytes. -/
namespace Go.Proofs.YtbljfphdghfkfaaGreatDoor
open Go.RowKit
theorem tab_kept {w w' : World} (h : Lib.TabIs Tryz.prog w "internal/strconv.uint64pow10" .u64 Lib.pow10Tab) (hb : Below w.heap.size w w') : Lib.TabIs Tryz.prog w' "internal/strconv.uint64pow10" .u64 Lib.pow10Tab := by
 have h9 : (w.var? Tryz.prog "internal/strconv.uint64pow10") = some _ := h
 show (w'.var? Tryz.prog "internal/strconv.uint64pow10") = some _
 unfold World.var? at h9 ⊢
 cases hx : Tryz.prog.globalNamed "internal/strconv.uint64pow10" with
 | none => rw [hx] at h9; cases h9
 | some x =>
  rw [hx] at h9
  simp only [Option.bind_some] at h9 ⊢
  by_cases hlt : x < w.heap.size
  ·rw [hb.block x hlt]; exact h9
  ·rw [Array.getElem?_eq_none (by omega)] at h9; cases h9
theorem itoa_any (z : Int) (h0 : 0 ≤ z) (h1 : z ≤ 1000000) (w : World) (htab : Lib.TabIs Tryz.prog w "internal/strconv.uint64pow10" .u64 Lib.pow10Tab) :
  Calls Tryz.prog 61 #[.int .i64 z] w fun e w' => ∃ b : ByteArray, e = .returned (.string b) ∧ b.data.toList = dec z ∧ Below w.heap.size w w' := by
 refine (Tryz.strconv_Itoa z (by omega) (by omega) w htab).mono ?_
 rintro e w' ⟨rfl, n, os, rfl⟩
 refine ⟨_, rfl, ?_, Lib.below_grow _ w (Nat.le_refl _) n os⟩
 show (Lib.itoa z).toArray.toList = Lib.decDigits z.toNat
 have e1 := Lib.itoa_nonneg z.toNat
 rw [show ((z.toNat : Nat) : Int) = z from by omega] at e1
 rw [e1]
def sender (s : Int) : List UInt8 := if s < 0 then [111, 117, 116, 115, 105, 100, 101] else [102, 114, 111, 109, 32] ++ dec s
theorem fromText_sender (s : Int) : fromText s = [32] ++ sender s := by
 unfold fromText sender
 by_cases h : s < 0
 ·rw [if_pos h, if_pos h]; rfl
 ·rw [if_neg h, if_neg h]; rfl
theorem bytes_append (a b : ByteArray) : (a ++ b).data.toList = a.data.toList ++ b.data.toList := by simp
set_option maxHeartbeats 1000000 in
theorem sender_any (s : Int) (h0 : -1 ≤ s) (h1 : s ≤ 1000000) (w : World) (htab : Lib.TabIs Tryz.prog w "internal/strconv.uint64pow10" .u64 Lib.pow10Tab) :
  Calls Tryz.prog 70 #[.int .i64 s] w fun e w' => ∃ b : ByteArray, e = .returned (.string b) ∧ b.data.toList = sender s ∧ Below w.heap.size w w' := by
 by_cases hs : s = -1
 ·subst hs
  go_enter Tryz.func70, Tryz.ntmps70
  go_wp2
  go_ret
  exact ⟨_, rfl, rfl, Below.refl _ _⟩
 ·have hs0 : 0 ≤ s := by omega
  have HC : Hid (Calls Tryz.prog 61 #[.int .i64 s] w fun e w' => ∃ b : ByteArray, e = .returned (.string b) ∧ b.data.toList = dec s ∧ Below w.heap.size w w') := itoa_any s hs0 h1 w htab
  clear htab
  go_enter Tryz.func70, Tryz.ntmps70
  go_wp2_with fail
  refine HC.out.mono ?_
  rintro r w1 ⟨b, rfl, hb, hbl⟩
  have hn : ¬ 9223372036854775807 < 5 + b.size := by
   have h9 := dec_len s h1
   have e9 : b.size = (dec s).length := by rw [← hb]; rfl
   omega
  go_wp2
  go_ret
  refine ⟨_, rfl, ?_, hbl⟩
  rw [bytes_append, hb, sender, if_neg (by omega)]
theorem evText_join (t s q d k v : Int) : Lib.join [[97, 116], dec t, sender s ++ [35] ++ dec q, [116, 111], dec d, [107, 105, 110, 100], dec k, [118, 97, 108], dec v] [32] = evText t s q d k v := by
 unfold evText
 rw [fromText_sender]
 simp [Lib.join, List.intercalate, List.intersperse]
theorem evText_len (t s q d k v : Int) (ht : t ≤ 1000000) (hs : s ≤ 1000000) (hq : q ≤ 1000000) (hd : d ≤ 1000000) (hk : k ≤ 1000000) (hv : v ≤ 1000000) : (evText t s q d k v).length ≤ 10000000 := by
 have a1 := dec_len t ht
 have a2 := dec_len s hs
 have a3 := dec_len q hq
 have a4 := dec_len d hd
 have a5 := dec_len k hk
 have a6 := dec_len v hv
 have a7 : (fromText s).length ≤ 1000010 := by
  unfold fromText
  split
  ·simp
  ·simp; omega
 unfold evText
 simp only [List.length_append, List.length_cons, List.length_nil]
 omega
theorem conv_below (w : World) (s : ByteArray) : Below w.heap.size w (Lib.bytesWorld w 5 s) :=
 ⟨by unfold Lib.bytesWorld World.freeze; split <;> rfl, by unfold Lib.bytesWorld World.freeze; split <;> rfl, by unfold Lib.bytesWorld World.freeze; split <;> rfl, by rw [Lib.bytesWorld_size]; omega, fun j hj => Lib.bytesWorld_at_old w 5 s j hj⟩
theorem conv_own (w : World) (s : ByteArray) (l : List UInt8) (hs : s.data.toList = l) (hl : l.length ≤ 10000000) : OwnB w.heap.size (Lib.bytesWorld w 5 s) (.slice (some ⟨w.heap.size, 0, none⟩) s.size (grownCap w s.size 0 5)) l := by
 have hsz : s.size = l.length := by rw [← hs]; rfl
 have hge := grownCap_ge w s.size 0 5
 refine ⟨_, _, by rw [hsz], by rw [← hsz]; exact hge, grownCap_le_maxLen w _ 0 5 (by unfold maxLen; omega), .inr ⟨w.heap.size, rfl, Nat.le_refl _, fun j hj => ?_, ?_, fun i hi => ?_⟩⟩
 ·simp only [World.frozen?, Lib.bytesWorld_at_new]
  have h9 : (Lib.bytesCells w 5 s).size = grownCap w s.size 0 5 := by
   unfold Lib.bytesCells
   simp
   have : s.data.size = s.size := rfl
   omega
  rw [h9]
  simp
  omega
 ·rw [Lib.bytesWorld_size]; omega
 ·rw [Nat.zero_add, Lib.bytesWorld_cell w 5 s i (by omega), hs]
  rfl
theorem conv9 (w : World) (s : ByteArray) : (convert 9 22 (.string s)).run Tryz.prog w = .ok (.slice (some ⟨w.heap.size, 0, none⟩) s.size (grownCap w s.size 0 5)) (Lib.bytesWorld w 5 s) :=
 Lib.run_convert_string_bytes w 9 22 5 s Tryz.underlying9 Tryz.underlying22 Tryz.underlying5
theorem cells9 (w : World) (a b c d e f g h i : ByteArray) : ∀ (j : Nat) x, [a, b, c, d, e, f, g, h, i][j]? = some x → (w.alloc (.cells #[.string a, .string b, .string c, .string d, .string e, .string f, .string g, .string h, .string i] 9)).cell? ⟨w.heap.size, 0 + j, none⟩ = some (.string x) := by
 intro j x hx
 have h0 := (MapKept.heap_alloc w (.cells #[.string a, .string b, .string c, .string d, .string e, .string f, .string g, .string h, .string i] 9)).1
 rw [Nat.zero_add]
 simp only [World.cell?, h0]
 have e1 : (#[Value.string a, .string b, .string c, .string d, .string e, .string f, .string g, .string h, .string i] : Array Value)[j]? = ([a, b, c, d, e, f, g, h, i][j]?).map Value.string := by
  rw [← List.getElem?_map]
  simp
 rw [e1, hx]
 rfl
theorem join_text (t s q d k v : Int) (w : World) (b1 b2 b3 b4 b5 b6 : ByteArray) (h1 : b1.data.toList = dec t) (h2 : b2.data.toList = sender s) (h3 : b3.data.toList = dec q) (h4 : b4.data.toList = dec d) (h5 : b5.data.toList = dec k) (h6 : b6.data.toList = dec v)
  (hl : (evText t s q d k v).length ≤ 10000000) :
  Calls Tryz.prog 38 #[.slice (some ⟨w.heap.size, 0, none⟩) 9 9, .string ⟨#[32]⟩] (w.alloc (.cells #[.string ⟨#[97, 116]⟩, .string b1, .string (b2 ++ ⟨#[35]⟩ ++ b3), .string ⟨#[116, 111]⟩, .string b4, .string ⟨#[107, 105, 110, 100]⟩, .string b5, .string ⟨#[118, 97, 108]⟩, .string b6] 9)) fun e w' =>
   ∃ b : ByteArray, e = .returned (.string b) ∧ b.data.toList = evText t s q d k v ∧ Below w.heap.size w w' := by
 have e1 : Lib.join ([(⟨#[97, 116]⟩ : ByteArray), b1, b2 ++ ⟨#[35]⟩ ++ b3, ⟨#[116, 111]⟩, b4, ⟨#[107, 105, 110, 100]⟩, b5, ⟨#[118, 97, 108]⟩, b6].map (·.data.toList)) (⟨#[32]⟩ : ByteArray).data.toList = evText t s q d k v := by
  rw [← evText_join]
  simp only [List.map_cons, List.map_nil, bytes_append, h1, h2, h3, h4, h5, h6]
 refine (Tryz.strings_Join w.heap.size 0 9 [(⟨#[97, 116]⟩ : ByteArray), b1, b2 ++ ⟨#[35]⟩ ++ b3, ⟨#[116, 111]⟩, b4, ⟨#[107, 105, 110, 100]⟩, b5, ⟨#[118, 97, 108]⟩, b6] ⟨#[32]⟩ _ (cells9 w _ _ _ _ _ _ _ _ _) (by simp) (by simp) (by simp) (by rw [e1]; omega)).mono ?_
 rintro e w' ⟨rfl, hb⟩
 exact ⟨_, rfl, e1, ((Below.refl _ w).alloc (Nat.le_refl _) _).trans (hb.mono (by simp))⟩
end Go.Proofs.YtbljfphdghfkfaaGreatDoor

