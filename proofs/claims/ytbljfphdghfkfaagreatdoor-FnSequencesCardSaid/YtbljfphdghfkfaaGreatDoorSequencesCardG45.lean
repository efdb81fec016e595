/- Open, OpenS, HyO, HPt, SqF -/
import Derived.Test.YtbljfphdghfkfaaGreatDoorRows
import Derived.ProofKit
import Derived.ChangeOld
import Derived.Below
import Derived.OpenShut
import Derived.Test.YtbljfphdghfkfaaGreatDoorSequencesCardG00
import Derived.Test.YtbljfphdghfkfaaGreatDoorSequencesCardG44
import Derived.Test.YtbljfphdghfkfaaGreatDoorSequencesCardG38
import Derived.SizedLaws
import Derived.Test.YtbljfphdghfkfaaGreatDoorSequencesCardG33
import Derived.Test.YtbljfphdghfkfaaGreatDoorSequencesCardG34
import Derived.Test.YtbljfphdghfkfaaGreatDoorSequencesCardG43
import Derived.Test.YtbljfphdghfkfaaGreatDoorSequencesCardG20
/- How a history that came in is read. -/
namespace Go.Proofs.YtbljfphdghfkfaaGreatDoor
open Go.ChangeShapes Go.WideShapes Go.ChangeAt Go.RowKit
def IntIn (z : Int) : Prop := -9223372036854775808 ≤ z ∧ z ≤ 9223372036854775807
def EmIn (e : Em) : Prop := IntIn e.t ∧ IntIn e.l ∧ IntIn e.v
def Hy.inR (h : Hy) : Prop := ∀ i, i < h.x.length → EmIn (xAt h.x i)
end Go.Proofs.YtbljfphdghfkfaaGreatDoor

/- The text of a history, in plain words. -/
namespace Go.Proofs.YtbljfphdghfkfaaGreatDoor
open Go.RowKit
def emB (e : Em) : Bool := decide (0 ≤ e.t ∧ 0 ≤ e.l ∧ 0 ≤ e.v)
def emLine (t l v : Int) : List UInt8 := [101, 109, 105, 116, 32] ++ dec t ++ ([32] ++ dec l) ++ ([32] ++ dec v)
def emsText (l : List Em) : Nat → List UInt8
 | 0 => []
 | k + 1 => emsText l k ++ (emLine (xAt l k).t (xAt l k).l (xAt l k).v ++ [10])
def Hy.hd (h : Hy) : Prop := h.e.length ≤ 150 ∧ h.x.length ≤ 1200 ∧ -1 ≤ h.a ∧ h.a ≤ 3
def Hy.ok (h : Hy) : Prop := h.hd ∧ (∀ i, i < h.e.length → (evAt h.e i).ok = true) ∧ (∀ i, i < h.x.length → emB (xAt h.x i) = true)
def asksT (h : Hy) : List UInt8 := if 0 ≤ h.a then [97, 115, 107, 115, 32] ++ dec h.a ++ [10] else []
def fullT (h : Hy) : List UInt8 := if h.f = true then [102, 117, 108, 108] ++ [10] else []
def histText (h : Hy) : List UInt8 := linesText h.e h.e.length ++ emsText h.x h.x.length ++ asksT h ++ fullT h
open Classical in
noncomputable def histR (h : Hy) : List UInt8 := if h.ok then histText h else []
theorem histR_no {h : Hy} (hn : ¬ h.ok) : histR h = [] := if_neg hn
theorem histR_yes {h : Hy} (hn : h.ok) : histR h = histText h := if_pos hn
theorem em_len {e : Em} (h : EmIn e) : (emLine e.t e.l e.v).length ≤ 70 := by
 have e1 := dec_len20 e.t h.1.2
 have e2 := dec_len20 e.l h.2.1.2
 have e3 := dec_len20 e.v h.2.2.2
 unfold emLine
 simp only [List.length_append, List.length_cons, List.length_nil]
 omega
theorem ems_len {h : Hy} (hi : h.inR) : ∀ k, k ≤ h.x.length → (emsText h.x k).length ≤ k * 71
 | 0, _ => by simp [emsText]
 | k + 1, hk => by
  have h1 := ems_len hi k (by omega)
  have h2 := em_len (hi k (by omega))
  show (emsText h.x k ++ (emLine (xAt h.x k).t (xAt h.x k).l (xAt h.x k).v ++ [10])).length ≤ _
  simp only [List.length_append, List.length_cons, List.length_nil]
  omega
theorem evl_len {h : Hy} (ho : ∀ i, i < h.e.length → (evAt h.e i).ok = true) : ∀ k, k ≤ h.e.length → (linesText h.e k).length ≤ k * 11000000
 | 0, _ => by simp [linesText]
 | k + 1, hk => by
  have h1 := evl_len ho k (by omega)
  have h9 : okB (evAt h.e k).t (evAt h.e k).s (evAt h.e k).q (evAt h.e k).d (evAt h.e k).k (evAt h.e k).v (evAt h.e k).g = true := ho k (by omega)
  have h2 := of_decide_eq_true h9
  have h3 := evText_len (evAt h.e k).t (evAt h.e k).s (evAt h.e k).q (evAt h.e k).d (evAt h.e k).k (evAt h.e k).v (by omega) (by omega) (by omega) (by omega) (by omega) (by omega)
  show (linesText h.e k ++ lineText (evAt h.e k)).length ≤ _
  unfold lineText
  simp only [List.length_append, List.length_cons, List.length_nil]
  omega
theorem asks_len (h : Hy) (ha : h.a ≤ 3) : (asksT h).length ≤ 30 := by
 have e1 := dec_len20 h.a (by omega)
 unfold asksT
 split
 ·simp only [List.length_append, List.length_cons, List.length_nil]; omega
 ·simp
theorem full_len (h : Hy) : (fullT h).length ≤ 5 := by
 unfold fullT
 split <;> simp
theorem hist_len {h : Hy} (ho : h.ok) (hi : h.inR) : (histText h).length ≤ 2000000000 := by
 have h1 := ems_len hi _ (Nat.le_refl _)
 have h2 := evl_len ho.2.1 _ (Nat.le_refl _)
 have h3 := asks_len h ho.1.2.2.2
 have h4 := full_len h
 have h5 := ho.1
 unfold Hy.hd at h5
 unfold histText
 simp only [List.length_append]
 omega
end Go.Proofs.YtbljfphdghfkfaaGreatDoor

/- What is asked of a history that the program's Sequence answers. -/
namespace Go.Proofs.YtbljfphdghfkfaaGreatDoor
open Go.RowKit
theorem vec_all {a b c d : Int} (h0 : -1 ≤ a ∧ a ≤ 1) (h1 : -1 ≤ b ∧ b ≤ 1) (h2 : -1 ≤ c ∧ c ≤ 1) (h3 : -1 ≤ d ∧ d ≤ 1) (k : Int) : -1 ≤ vecAt a b c d k ∧ vecAt a b c d k ≤ 1 := by
 unfold vecAt
 split
 ·exact h0
 ·split
  ·exact h1
  ·split
   ·exact h2
   ·exact h3
def hyO (h : Hi) : Hy := ⟨h.ev, h.em, h.k, h.f⟩
theorem lines_pos : ∀ (l : List Ev) (k : Nat), 0 < k → 0 < (linesText l k).length
 | _, 0, h => absurd h (by omega)
 | l, k + 1, _ => by
  show 0 < (linesText l k ++ lineText (evAt l k)).length
  have h9 : 0 < (lineText (evAt l k)).length := by unfold lineText; simp
  simp only [List.length_append]
  omega
theorem ems_pos : ∀ (l : List Em) (k : Nat), 0 < k → 0 < (emsText l k).length
 | _, 0, h => absurd h (by omega)
 | l, k + 1, _ => by
  show 0 < (emsText l k ++ (emLine (xAt l k).t (xAt l k).l (xAt l k).v ++ [10])).length
  simp only [List.length_append, List.length_cons, List.length_nil]
  omega
structure SqFacts (m : Md) (l : List Int) (z : Int) (R : Hi) : Prop where
 each : ∀ i, i < R.ev.length → (evAt R.ev i).ok = true ∧ (evAt R.ev i).t ≤ z
 ord : Ord1 R.ev
 el : R.ev.length ≤ 150
 xl : R.em.length ≤ 1200
 k0 : -1 ≤ R.k
 k1 : R.k ≤ 3
 inr : (hyO R).inR
 text : 0 < (histR (hyO R)).length ∨ (R.ev.length = 0 ∧ R.em.length = 0 ∧ (R.k < 0 → R.f = false))
 end_ : seqB m l m.z = true
 all : Begins R (seqA m l m.z)
 dec : 0 ≤ R.k → ∀ b, 0 ≤ b → b ≤ 1 → decF l R.k b = true ∧ (decR l R.k b).length = 4 ∧ seqB m (decR l R.k b) z = true ∧ Begins R (seqA m (decR l R.k b) z) ∧
  (R.ev.length < (seqA m (decR l R.k b) z).ev.length ∨ (0 ≤ (seqA m (decR l R.k b) z).k ∧ (seqA m (decR l R.k b) z).k ≠ R.k))
theorem seq_text {R : Hi} (h1 : ∀ i, i < R.ev.length → (evAt R.ev i).ok = true) (h2 : ∀ i, i < R.em.length → Tells (xAt R.em i)) (h3 : R.ev.length ≤ 150) (h4 : R.em.length ≤ 1200) (h5 : -1 ≤ R.k) (h6 : R.k ≤ 3) :
  (hyO R).inR ∧ (0 < (histR (hyO R)).length ∨ (R.ev.length = 0 ∧ R.em.length = 0 ∧ (R.k < 0 → R.f = false))) := by
 have hok : (hyO R).ok := ⟨⟨h3, h4, h5, h6⟩, h1, fun i hi => by
  have := h2 i hi
  unfold emB
  exact decide_eq_true ⟨this.1.1, this.2.1.1, this.2.2.1⟩⟩
 refine ⟨fun i hi => ?_, ?_⟩
 ·obtain ⟨⟨a, b⟩, ⟨c, d⟩, e, f⟩ := h2 i hi
  refine ⟨⟨?_, ?_⟩, ⟨?_, ?_⟩, ⟨?_, ?_⟩⟩
  ·show _ ≤ (xAt R.em i).t; omega
  ·show (xAt R.em i).t ≤ _; omega
  ·show _ ≤ (xAt R.em i).l; omega
  ·show (xAt R.em i).l ≤ _; omega
  ·show _ ≤ (xAt R.em i).v; omega
  ·show (xAt R.em i).v ≤ _; omega
 ·rw [histR_yes hok]
  by_cases he : 0 < R.ev.length
  ·left
   have := lines_pos R.ev R.ev.length he
   show 0 < (linesText R.ev R.ev.length ++ _ ++ _ ++ _).length
   simp only [List.length_append]
   omega
  ·by_cases hx : 0 < R.em.length
   ·left
    have := ems_pos R.em R.em.length hx
    show 0 < (linesText R.ev R.ev.length ++ emsText R.em R.em.length ++ _ ++ _).length
    simp only [List.length_append]
    omega
   ·cases hf : R.f with
    | true =>
     left
     show 0 < (linesText R.ev R.ev.length ++ emsText R.em R.em.length ++ asksT (hyO R) ++ fullT (hyO R)).length
     have : fullT (hyO R) = [102, 117, 108, 108] ++ [10] := by unfold fullT; rw [if_pos (show (hyO R).f = true from hf)]
     rw [this]
     simp only [List.length_append, List.length_cons, List.length_nil]
     omega
    | false => exact .inr ⟨by omega, by omega, fun _ => rfl⟩
theorem seq_facts {m : Md} {l : List Int} {z : Int} (h : seqB m l z = true) : SqFacts m l z (seqA m l z) := by
 have hq := h
 simp only [seqB, Bool.and_eq_true, decide_eq_true_eq] at hq
 obtain ⟨hm, hvk, hz0, hz1⟩ := hq
 obtain ⟨c0, c1, c2, c3, rfl, b0, b1, b2, b3⟩ := vok_four hvk
 have hv := vec_all b0 b1 b2 b3
 have hA : ∀ y, seqB m [c0, c1, c2, c3] y = true → seqA m [c0, c1, c2, c3] y = seqR m [c0, c1, c2, c3] y := fun y hy => if_pos hy
 have hE : seqB m [c0, c1, c2, c3] m.z = true := by
  simp only [seqB, Bool.and_eq_true, decide_eq_true_eq]
  exact ⟨hm, hvk, by omega, by omega⟩
 obtain ⟨f1, f2, f3, f4, f5, f6, f7⟩ := seqR_all hm hv z
 obtain ⟨g1, g2⟩ := seq_text (fun i hi => (f1 i hi).1) f2 f4 f5 f6 f7
 rw [hA z h]
 refine ⟨f1, f3, f4, f5, f6, f7, g1, g2, hE, ?_, fun hk b hb0 hb1 => ?_⟩
 ·rw [hA _ hE]
  exact seq_more hz1 151 (begC m)
 ·have hn : intAt [c0, c1, c2, c3] (seqR m [c0, c1, c2, c3] z).k.toNat < 0 := seq_neg 151 (begC m) hk
  obtain ⟨kn, hkn⟩ : ∃ kn : Nat, (seqR m [c0, c1, c2, c3] z).k = (kn : Int) := ⟨_, (Int.toNat_of_nonneg hk).symm⟩
  have hk4 : kn < 4 := by omega
  rw [hkn, Int.toNat_natCast] at hn
  have h1 : intAt [c0, c1, c2, c3] kn = -1 := by
   have := (vok_at hvk kn hk4).1
   omega
  have hD : decB [c0, c1, c2, c3] (kn : Int) b = true := decB_iff.2 ⟨hvk, by omega, by omega, hb0, hb1⟩
  have hF : decF [c0, c1, c2, c3] (kn : Int) b = true := by
   unfold decF
   rw [hD, Int.toNat_natCast, h1]
   rfl
  have hR : decR [c0, c1, c2, c3] (kn : Int) b = [c0, c1, c2, c3].set kn b := by
   unfold decR
   rw [if_pos hD, Int.toNat_natCast, if_pos h1]
  obtain ⟨e0, e1, e2, e3, he, d0, d1, d2, d3, hsame, hkb⟩ : ∃ e0 e1 e2 e3 : Int, [c0, c1, c2, c3].set kn b = [e0, e1, e2, e3] ∧ (-1 ≤ e0 ∧ e0 ≤ 1) ∧ (-1 ≤ e1 ∧ e1 ≤ 1) ∧ (-1 ≤ e2 ∧ e2 ≤ 1) ∧ (-1 ≤ e3 ∧ e3 ≤ 1) ∧
    (∀ a, 0 ≤ intAt [c0, c1, c2, c3] a → intAt [e0, e1, e2, e3] a = intAt [c0, c1, c2, c3] a) ∧ intAt [e0, e1, e2, e3] kn = b := by
   have hbb : -1 ≤ b ∧ b ≤ 1 := ⟨by omega, hb1⟩
   match kn, hk4, h1 with
   | 0, _, h1 =>
    refine ⟨b, c1, c2, c3, rfl, hbb, b1, b2, b3, fun a ha => ?_, rfl⟩
    match a with
    | 0 => rw [h1] at ha; omega
    | 1 => rfl
    | 2 => rfl
    | 3 => rfl
    | _ + 4 => simp [intAt]
   | 1, _, h1 =>
    refine ⟨c0, b, c2, c3, rfl, b0, hbb, b2, b3, fun a ha => ?_, rfl⟩
    match a with
    | 0 => rfl
    | 1 => rw [h1] at ha; omega
    | 2 => rfl
    | 3 => rfl
    | _ + 4 => simp [intAt]
   | 2, _, h1 =>
    refine ⟨c0, c1, b, c3, rfl, b0, b1, hbb, b3, fun a ha => ?_, rfl⟩
    match a with
    | 0 => rfl
    | 1 => rfl
    | 2 => rw [h1] at ha; omega
    | 3 => rfl
    | _ + 4 => simp [intAt]
   | 3, _, h1 =>
    refine ⟨c0, c1, c2, b, rfl, b0, b1, b2, hbb, fun a ha => ?_, rfl⟩
    match a with
    | 0 => rfl
    | 1 => rfl
    | 2 => rfl
    | 3 => rw [h1] at ha; omega
    | _ + 4 => simp [intAt]
  rw [hkn, hR, he]
  have hvk' : vok [e0, e1, e2, e3] = true := by
   simp [vok, numOk]
   omega
  have hB : seqB m [e0, e1, e2, e3] z = true := by
   simp only [seqB, Bool.and_eq_true, decide_eq_true_eq]
   exact ⟨hm, hvk', hz0, hz1⟩
  have hA' : seqA m [e0, e1, e2, e3] z = seqR m [e0, e1, e2, e3] z := if_pos hB
  obtain ⟨s1, s2⟩ := seq_dec (z := z) hm hv hsame 151 (begC m) (beg_inv hm)
  rw [hA', ← hkn]
  refine ⟨by rw [hkn]; exact hF, rfl, hB, s1, s2 hk ?_⟩
  show 0 ≤ intAt [e0, e1, e2, e3] (seqR m [c0, c1, c2, c3] z).k.toNat
  rw [hkn, Int.toNat_natCast, hkb]
  exact hb0
end Go.Proofs.YtbljfphdghfkfaaGreatDoor

