/- PA2, PTb, PTc -/
import Derived.Test.YtdcnimdhfhbdmaaExactBackG11
import Derived.Test.YtdcnimdhfhbdmaaExactBackG26
import Derived.Test.YtdcnimdhfhbdmaaExactBackG19
import Derived.Sort.BigQuietIn
/- An answer of a part and a list: what it reads as, what it owns. -/
namespace Go.Proofs.Ytdcnimdhfhbdmaa
open Go.RowKit
theorem IsPart.below {w w' : World} {x : Value} {p : Pa} (h : IsPart w x p) (hb : Below w.heap.size w w') : IsPart w' x p := h.under hb
theorem PartF.below {F : Nat → Prop} {w w' : World} {x : Value} {p : Pa} (h : PartF F w x p) (hb : Below w.heap.size w w') : PartF F w' x p := h.under hb
/- A part and a list, in blocks of R, told apart. -/
def A2 (R : Nat → Prop) (w : World) (y1 y2 : Value) (a : Pa) (d : Dat) : Prop := ∃ F G : Nat → Prop, PartF F w y1 a ∧ OwnD w G y2 d ∧ (∀ k, F k → R k ∧ ¬ G k) ∧ (∀ k, G k → R k)
theorem A2.turns {R S : Nat → Prop} {w w' : World} {y1 y2 : Value} {a : Pa} {d : Dat} (h : A2 R w y1 y2 a d) (ht : Turns S w w') (hS : ∀ k, R k → ¬ S k) : A2 R w' y1 y2 a d := by
 obtain ⟨F, G, h1, h2, hF, hG⟩ := h
 exact ⟨F, G, h1.turns ht (fun k hk => hS k (hF k hk).1), h2.turns ht (fun k hk => hS k (hG k hk)), hF, hG⟩
theorem A2.below {R : Nat → Prop} {w w' : World} {y1 y2 : Value} {a : Pa} {d : Dat} (h : A2 R w y1 y2 a d) (hb : Below w.heap.size w w') : A2 R w' y1 y2 a d :=
 h.turns (S := fun _ => False) (Turns.of_below hb) (fun _ _ => id)
theorem A2.mono {R R' : Nat → Prop} {w : World} {y1 y2 : Value} {a : Pa} {d : Dat} (h : A2 R w y1 y2 a d) (hR : ∀ k, R k → R' k) : A2 R' w y1 y2 a d := by
 obtain ⟨F, G, h1, h2, hF, hG⟩ := h
 exact ⟨F, G, h1, h2, fun k hk => ⟨hR k (hF k hk).1, (hF k hk).2⟩, fun k hk => hR k (hG k hk)⟩
theorem A2.part {R : Nat → Prop} {w : World} {y1 y2 : Value} {a : Pa} {d : Dat} (h : A2 R w y1 y2 a d) : IsPart w y1 a := by
 obtain ⟨F, G, h1, h2, hF, hG⟩ := h
 exact h1.is
theorem A2.list {R : Nat → Prop} {w : World} {y1 y2 : Value} {a : Pa} {d : Dat} (h : A2 R w y1 y2 a d) : IsD w y2 d := by
 obtain ⟨F, G, h1, h2, hF, hG⟩ := h
 exact h2.isD
theorem A2.form {R : Nat → Prop} {w : World} {y1 y2 : Value} {p : Pa} {c n : Nat} {f : Nat → Dat} (h : A2 R w y1 y2 p (.row c n f)) : ∃ a1 c1 a4 c4 a5 c5 a6 c6 a7 c7, y1 = .agg #[.int .i64 p.n, .slice a1 p.st.r.length c1, .int .i64 p.st.q, .int .i64 p.st.d, .slice a4 p.p.length c4, .slice a5 p.t.length c5, .slice a6 p.a.length c6] ∧ y2 = .slice a7 n c7 := by
 obtain ⟨F, G, h1, h2, hF, hG⟩ := h
 obtain ⟨a1, c1, a4, c4, a5, c5, a6, c6, rfl⟩ := h1.form
 obtain ⟨a7, c7, rfl, _⟩ := h2.parts
 exact ⟨a1, c1, a4, c4, a5, c5, a6, c6, a7, c7, rfl, rfl⟩
/- The same, marked: the part from one on, the list behind it. -/
def H2 (R : Nat → Prop) (w : World) (y1 y2 : Value) (a : Pa) (d : Dat) : Prop := ∃ F G : Nat → Prop, HeldPart F w y1 a 1 ∧ OwnD w G y2 (d.mark (1 + (a.cntA : Int))) ∧ (∀ k, F k → R k ∧ ¬ G k) ∧ (∀ k, G k → R k)
theorem H2.turns {R S : Nat → Prop} {w w' : World} {y1 y2 : Value} {a : Pa} {d : Dat} (h : H2 R w y1 y2 a d) (ht : Turns S w w') (hS : ∀ k, R k → ¬ S k) : H2 R w' y1 y2 a d := by
 obtain ⟨F, G, h1, h2, hF, hG⟩ := h
 exact ⟨F, G, h1.turns ht (fun k hk => hS k (hF k hk).1), h2.turns ht (fun k hk => hS k (hG k hk)), hF, hG⟩
theorem H2.below {R : Nat → Prop} {w w' : World} {y1 y2 : Value} {a : Pa} {d : Dat} (h : H2 R w y1 y2 a d) (hb : Below w.heap.size w w') : H2 R w' y1 y2 a d :=
 h.turns (S := fun _ => False) (Turns.of_below hb) (fun _ _ => id)
/- Half marked. -/
def H1 (R : Nat → Prop) (w : World) (y1 y2 : Value) (a : Pa) (d : Dat) : Prop := ∃ F G : Nat → Prop, HeldPart F w y1 a 1 ∧ OwnD w G y2 d ∧ (∀ k, F k → R k ∧ ¬ G k) ∧ (∀ k, G k → R k)
theorem Turns.wide {F R : Nat → Prop} {w w' : World} (h : Turns F w w') (hF : ∀ k, F k → R k) : Turns R w w' := h.mono hF
theorem A2.mark1 {R : Nat → Prop} {w : World} {y1 y2 : Value} {a : Pa} {d : Dat} (hn : a.wt ≤ 1048577) (h : A2 R w y1 y2 a d) :
  Calls Try.prog 12 #[y1, .int .i64 1] w fun e w' => e = .returned (.int .i64 (1 + (a.cntA : Int))) ∧ H1 R w' y1 y2 a d ∧ Turns R w w' := by
 obtain ⟨F, G, h1, h2, hF, hG⟩ := h
 refine (markPart_any 1 hn (by omega) (by have := Pa.cntA_le a; omega) h1).mono ?_
 rintro e w' ⟨rfl, hh, ht⟩
 exact ⟨rfl, ⟨F, G, hh, h2.turns ht (fun k hk hk' => (hF k hk').2 hk), hF, hG⟩, ht.wide (fun k hk => (hF k hk).1)⟩
theorem H2.held1 {R : Nat → Prop} {w : World} {y1 y2 : Value} {a : Pa} {d : Dat} (hn : a.wt ≤ 1048577) (h : H2 R w y1 y2 a d) :
  Calls Try.prog 14 #[y1, .int .i64 1] w fun e w' => e = .returned (.int .i64 (1 + (a.cntA : Int))) ∧ Below w.heap.size w w' := by
 obtain ⟨F, G, h1, h2, hF, hG⟩ := h
 exact heldPart_any 1 hn (by omega) (by have := Pa.cntA_le a; omega) h1
theorem H1.mark2e {R : Nat → Prop} {w : World} {y1 y2 : Value} {a : Pa} {l : List Ev} (hn : a.wt ≤ 1048577) (hl : l.length ≤ 1048577) (h : H1 R w y1 y2 a (evsD l)) :
  Calls Try.prog 19 #[y2, .int .i64 (1 + (a.cntA : Int))] w fun e w' => e = .returned (.int .i64 (1 + (a.cntA : Int) + ((evsD l).cnt : Int))) ∧ H2 R w' y1 y2 a (evsD l) ∧ Turns R w w' := by
 obtain ⟨F, G, h1, h2, hF, hG⟩ := h
 have t1 := Pa.cntA_le a
 refine (mark_evs _ hl (by omega) (by omega) h2).mono ?_
 rintro e w' ⟨rfl, hh, ht⟩
 exact ⟨rfl, ⟨F, G, h1.turns ht (fun k hk hk' => (hF k hk).2 hk'), hh, hF, hG⟩, ht.wide hG⟩
theorem H2.held2e {R : Nat → Prop} {w : World} {y1 y2 : Value} {a : Pa} {l : List Ev} (hn : a.wt ≤ 1048577) (hl : l.length ≤ 1048577) (h : H2 R w y1 y2 a (evsD l)) :
  Calls Try.prog 20 #[y2, .int .i64 (1 + (a.cntA : Int))] w fun e w' => e = .returned (.int .i64 (1 + (a.cntA : Int) + ((evsD l).cnt : Int))) ∧ Below w.heap.size w w' := by
 obtain ⟨F, G, h1, h2, hF, hG⟩ := h
 have t1 := Pa.cntA_le a
 exact held_evs _ hl (by omega) (by omega) h2
end Go.Proofs.Ytdcnimdhfhbdmaa

/- The program's pastCmp; slices.BinarySearchFunc over what was done. -/
namespace Go.Proofs.Ytdcnimdhfhbdmaa
open Go.RowKit
end Go.Proofs.Ytdcnimdhfhbdmaa

/- slices.BinarySearchFunc over what was done. -/
namespace Go.Proofs.Ytdcnimdhfhbdmaa
open Go.RowKit
end Go.Proofs.Ytdcnimdhfhbdmaa

