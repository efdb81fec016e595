/- PA2, PTb, PTc, PCpO -/
import Derived.Test.YtdcnimdhfhbdmaaExactBackG08
import Derived.Test.YtdcnimdhfhbdmaaExactBackLPTt
import Derived.Test.YtdcnimdhfhbdmaaExactBackG15
import Derived.Sort.BigQuietIn
/- An answer of a part and a list: what it reads as, what it owns. -/
namespace Go.Proofs.Ytdcnimdhfhbdmaa
open Go.RowKit
theorem IsPart.below {w w' : World} {x : Value} {p : Pa} (h : IsPart w x p) (hb : Below w.heap.size w w') : IsPart w' x p := h.under hb
theorem PartF.below {F : Nat → Prop} {w w' : World} {x : Value} {p : Pa} (h : PartF F w x p) (hb : Below w.heap.size w w') : PartF F w' x p := h.under hb
/- A part and a list, in blocks of R, told apart. -/
def A2 (R : Nat → Prop) (w : World) (y1 y2 : Value) (a : Pa) (d : Dat) : Prop := ∃ F G : Nat → Prop, PartF F w y1 a ∧ OwnD w G y2 d ∧ (∀ k, F k → R k ∧ ¬ G k) ∧ (∀ k, G k → R k)
theorem A2.turns {R S : Nat → Prop} {w w' : World} {y1 y2 : Value} {a : Pa} {d : Dat} (h : A2 R w y1 y2 a d) (ht : Turns S w w') (hS : ∀ k, R k → ¬ S k) : A2 R w' y1 y2 a d := by
  obtain ⟨F, G, h1, h2, hF, hG⟩ := h
  exact ⟨F, G, h1.turns ht (fun k hk => hS k (hF k hk).1), h2.turns ht (fun k hk => hS k (hG k hk)), hF, hG⟩
theorem A2.below {R : Nat → Prop} {w w' : World} {y1 y2 : Value} {a : Pa} {d : Dat} (h : A2 R w y1 y2 a d) (hb : Below w.heap.size w w') : A2 R w' y1 y2 a d :=
  h.turns (S := fun _ => False) (Turns.of_below hb) (fun _ _ => id)
theorem A2.mono {R R' : Nat → Prop} {w : World} {y1 y2 : Value} {a : Pa} {d : Dat} (h : A2 R w y1 y2 a d) (hR : ∀ k, R k → R' k) : A2 R' w y1 y2 a d := by
  obtain ⟨F, G, h1, h2, hF, hG⟩ := h
  exact ⟨F, G, h1, h2, fun k hk => ⟨hR k (hF k hk).1, (hF k hk).2⟩, fun k hk => hR k (hG k hk)⟩
theorem A2.part {R : Nat → Prop} {w : World} {y1 y2 : Value} {a : Pa} {d : Dat} (h : A2 R w y1 y2 a d) : IsPart w y1 a := by
  obtain ⟨F, G, h1, h2, hF, hG⟩ := h
  exact h1.is
theorem A2.list {R : Nat → Prop} {w : World} {y1 y2 : Value} {a : Pa} {d : Dat} (h : A2 R w y1 y2 a d) : IsD w y2 d := by
  obtain ⟨F, G, h1, h2, hF, hG⟩ := h
  exact h2.isD
theorem A2.form {R : Nat → Prop} {w : World} {y1 y2 : Value} {p : Pa} {c n : Nat} {f : Nat → Dat} (h : A2 R w y1 y2 p (.row c n f)) : ∃ a1 c1 a4 c4 a5 c5 a6 c6 a7 c7, y1 = .agg #[.int .i64 p.n, .slice a1 p.st.r.length c1, .int .i64 p.st.q, .int .i64 p.st.d, .slice a4 p.p.length c4, .slice a5 p.t.length c5, .slice a6 p.a.length c6] ∧ y2 = .slice a7 n c7 := by
  obtain ⟨F, G, h1, h2, hF, hG⟩ := h
  obtain ⟨a1, c1, a4, c4, a5, c5, a6, c6, rfl⟩ := h1.form
  obtain ⟨a7, c7, rfl, _⟩ := h2.parts
  exact ⟨a1, c1, a4, c4, a5, c5, a6, c6, a7, c7, rfl, rfl⟩
/- The same, marked: the part from one on, the list behind it. -/
def H2 (R : Nat → Prop) (w : World) (y1 y2 : Value) (a : Pa) (d : Dat) : Prop := ∃ F G : Nat → Prop, HeldPart F w y1 a 1 ∧ OwnD w G y2 (d.mark (1 + (a.cntA : Int))) ∧ (∀ k, F k → R k ∧ ¬ G k) ∧ (∀ k, G k → R k)
theorem H2.turns {R S : Nat → Prop} {w w' : World} {y1 y2 : Value} {a : Pa} {d : Dat} (h : H2 R w y1 y2 a d) (ht : Turns S w w') (hS : ∀ k, R k → ¬ S k) : H2 R w' y1 y2 a d := by
  obtain ⟨F, G, h1, h2, hF, hG⟩ := h
  exact ⟨F, G, h1.turns ht (fun k hk => hS k (hF k hk).1), h2.turns ht (fun k hk => hS k (hG k hk)), hF, hG⟩
theorem H2.below {R : Nat → Prop} {w w' : World} {y1 y2 : Value} {a : Pa} {d : Dat} (h : H2 R w y1 y2 a d) (hb : Below w.heap.size w w') : H2 R w' y1 y2 a d :=
  h.turns (S := fun _ => False) (Turns.of_below hb) (fun _ _ => id)
/- Half marked. -/
def H1 (R : Nat → Prop) (w : World) (y1 y2 : Value) (a : Pa) (d : Dat) : Prop := ∃ F G : Nat → Prop, HeldPart F w y1 a 1 ∧ OwnD w G y2 d ∧ (∀ k, F k → R k ∧ ¬ G k) ∧ (∀ k, G k → R k)
theorem H1.turns {R S : Nat → Prop} {w w' : World} {y1 y2 : Value} {a : Pa} {d : Dat} (h : H1 R w y1 y2 a d) (ht : Turns S w w') (hS : ∀ k, R k → ¬ S k) : H1 R w' y1 y2 a d := by
  obtain ⟨F, G, h1, h2, hF, hG⟩ := h
  exact ⟨F, G, h1.turns ht (fun k hk => hS k (hF k hk).1), h2.turns ht (fun k hk => hS k (hG k hk)), hF, hG⟩
theorem H1.below {R : Nat → Prop} {w w' : World} {y1 y2 : Value} {a : Pa} {d : Dat} (h : H1 R w y1 y2 a d) (hb : Below w.heap.size w w') : H1 R w' y1 y2 a d :=
  h.turns (S := fun _ => False) (Turns.of_below hb) (fun _ _ => id)
theorem Turns.wide {F R : Nat → Prop} {w w' : World} (h : Turns F w w') (hF : ∀ k, F k → R k) : Turns R w w' := h.mono hF
theorem A2.mark1 {R : Nat → Prop} {w : World} {y1 y2 : Value} {a : Pa} {d : Dat} (hn : a.wt ≤ 1048577) (h : A2 R w y1 y2 a d) :
    Calls Try.prog 12 #[y1, .int .i64 1] w fun e w' => e = .returned (.int .i64 (1 + (a.cntA : Int))) ∧ H1 R w' y1 y2 a d ∧ Turns R w w' := by
  obtain ⟨F, G, h1, h2, hF, hG⟩ := h
  refine (markPart_any 1 hn (by omega) (by have := Pa.cntA_le a; omega) h1).mono ?_
  rintro e w' ⟨rfl, hh, ht⟩
  exact ⟨rfl, ⟨F, G, hh, h2.turns ht (fun k hk hk' => (hF k hk').2 hk), hF, hG⟩, ht.wide (fun k hk => (hF k hk).1)⟩
theorem H2.held1 {R : Nat → Prop} {w : World} {y1 y2 : Value} {a : Pa} {d : Dat} (hn : a.wt ≤ 1048577) (h : H2 R w y1 y2 a d) :
    Calls Try.prog 14 #[y1, .int .i64 1] w fun e w' => e = .returned (.int .i64 (1 + (a.cntA : Int))) ∧ Below w.heap.size w w' := by
  obtain ⟨F, G, h1, h2, hF, hG⟩ := h
  exact heldPart_any 1 hn (by omega) (by have := Pa.cntA_le a; omega) h1
theorem H1.mark2p {R : Nat → Prop} {w : World} {y1 y2 : Value} {a : Pa} {l : List Ps} (hn : a.wt ≤ 1048577) (hl : (pastsD l).wt ≤ 1048577) (h : H1 R w y1 y2 a (pastsD l)) :
    Calls Try.prog 13 #[y2, .int .i64 (1 + (a.cntA : Int))] w fun e w' => e = .returned (.int .i64 (1 + (a.cntA : Int) + ((pastsD l).cnt : Int))) ∧ H2 R w' y1 y2 a (pastsD l) ∧ Turns R w w' := by
  obtain ⟨F, G, h1, h2, hF, hG⟩ := h
  have t1 := Pa.cntA_le a
  have t2 : (pastsD l).cnt ≤ 40 * (pastsD l).wt := Dat.cnt_le (pasts_thin l)
  refine (mark_pasts _ hl (by omega) (by omega) h2).mono ?_
  rintro e w' ⟨rfl, hh, ht⟩
  exact ⟨rfl, ⟨F, G, h1.turns ht (fun k hk hk' => (hF k hk).2 hk'), hh, hF, hG⟩, ht.wide hG⟩
theorem H2.held2p {R : Nat → Prop} {w : World} {y1 y2 : Value} {a : Pa} {l : List Ps} (hn : a.wt ≤ 1048577) (hl : (pastsD l).wt ≤ 1048577) (h : H2 R w y1 y2 a (pastsD l)) :
    Calls Try.prog 15 #[y2, .int .i64 (1 + (a.cntA : Int))] w fun e w' => e = .returned (.int .i64 (1 + (a.cntA : Int) + ((pastsD l).cnt : Int))) ∧ Below w.heap.size w w' := by
  obtain ⟨F, G, h1, h2, hF, hG⟩ := h
  have t1 := Pa.cntA_le a
  have t2 : (pastsD l).cnt ≤ 40 * (pastsD l).wt := Dat.cnt_le (pasts_thin l)
  exact held_pasts _ hl (by omega) (by omega) h2
theorem H1.mark2e {R : Nat → Prop} {w : World} {y1 y2 : Value} {a : Pa} {l : List Ev} (hn : a.wt ≤ 1048577) (hl : l.length ≤ 1048577) (h : H1 R w y1 y2 a (evsD l)) :
    Calls Try.prog 19 #[y2, .int .i64 (1 + (a.cntA : Int))] w fun e w' => e = .returned (.int .i64 (1 + (a.cntA : Int) + ((evsD l).cnt : Int))) ∧ H2 R w' y1 y2 a (evsD l) ∧ Turns R w w' := by
  obtain ⟨F, G, h1, h2, hF, hG⟩ := h
  have t1 := Pa.cntA_le a
  refine (mark_evs _ hl (by omega) (by omega) h2).mono ?_
  rintro e w' ⟨rfl, hh, ht⟩
  exact ⟨rfl, ⟨F, G, h1.turns ht (fun k hk hk' => (hF k hk).2 hk'), hh, hF, hG⟩, ht.wide hG⟩
theorem H2.held2e {R : Nat → Prop} {w : World} {y1 y2 : Value} {a : Pa} {l : List Ev} (hn : a.wt ≤ 1048577) (hl : l.length ≤ 1048577) (h : H2 R w y1 y2 a (evsD l)) :
    Calls Try.prog 20 #[y2, .int .i64 (1 + (a.cntA : Int))] w fun e w' => e = .returned (.int .i64 (1 + (a.cntA : Int) + ((evsD l).cnt : Int))) ∧ Below w.heap.size w w' := by
  obtain ⟨F, G, h1, h2, hF, hG⟩ := h
  have t1 := Pa.cntA_le a
  exact held_evs _ hl (by omega) (by omega) h2
end Go.Proofs.Ytdcnimdhfhbdmaa

/- The program's pastCmp; slices.BinarySearchFunc over what was done. -/
namespace Go.Proofs.Ytdcnimdhfhbdmaa
open Go.RowKit
set_option maxRecDepth 100000 in
set_option maxHeartbeats 4000000 in
theorem pastCmp_any (x v7 v10 v11 : Value) (p : Ps) (e : Ev) (z : Int) (hz : p.e.ecmp e = z) (w : World) (f7 : ∃ a n c, v7 = .slice a n c) (f10 : ∃ a n c, v10 = .slice a n c) (f11 : ∃ a n c, v11 = .slice a n c) (hx : x = .agg #[.int .i64 p.e.t, .int .i64 p.e.s, .int .i64 p.e.q, .int .i64 p.e.d, .int .i64 p.e.k, .int .i64 p.e.v, .int .i64 p.e.g, v7, .int .i64 p.b.q, .int .i64 p.b.d, v10, v11]) :
    Calls Try.prog 37 #[x, .agg #[.int .i64 e.t, .int .i64 e.s, .int .i64 e.q, .int .i64 e.d, .int .i64 e.k, .int .i64 e.v, .int .i64 e.g]] w fun r w' => r = .returned (.int .i64 z) ∧ Below w.heap.size w w' := by
  subst hx
  obtain ⟨a7, n7, c7, rfl⟩ := f7
  obtain ⟨a10, n10, c10, rfl⟩ := f10
  obtain ⟨a11, n11, c11, rfl⟩ := f11
  obtain ⟨W0, hW0⟩ : ∃ W0, (w.alloc (.cells #[.int .i64 p.e.t, .int .i64 p.e.s, .int .i64 p.e.q, .int .i64 p.e.d, .int .i64 p.e.k, .int .i64 p.e.v, .int .i64 p.e.g, .slice a7 n7 c7, .int .i64 p.b.q, .int .i64 p.b.d, .slice a10 n10 c10, .slice a11 n11 c11] 67)).alloc (.cells #[.int .i64 e.t, .int .i64 e.s, .int .i64 e.q, .int .i64 e.d, .int .i64 e.k, .int .i64 e.v, .int .i64 e.g] 40) = W0 := ⟨_, rfl⟩
  have HB0 : Hid (Below w.heap.size w W0) := by rw [← hW0]; exact ((Below.refl _ w).alloc (Nat.le_refl _) _).alloc (by simp) _
  have BX : Bk W0 w.heap.size 67 #[.int .i64 p.e.t, .int .i64 p.e.s, .int .i64 p.e.q, .int .i64 p.e.d, .int .i64 p.e.k, .int .i64 p.e.v, .int .i64 p.e.g, .slice a7 n7 c7, .int .i64 p.b.q, .int .i64 p.b.d, .slice a10 n10 c10, .slice a11 n11 c11] := hW0 ▸ (Bk.new w _ _).alloc _
  have BE : Bk W0 (w.heap.size + 1) 40 #[.int .i64 e.t, .int .i64 e.s, .int .i64 e.q, .int .i64 e.d, .int .i64 e.k, .int .i64 e.v, .int .i64 e.g] := hW0 ▸ Bk.newAt (by simp) _ _
  have x0 := BX.cell (i := 0) rfl
  have e0 := BE.cell (i := 0) rfl
  have x1 := BX.cell (i := 1) rfl
  have e1 := BE.cell (i := 1) rfl
  have x2 := BX.cell (i := 2) rfl
  have e2 := BE.cell (i := 2) rfl
  have x3 := BX.cell (i := 3) rfl
  have e3 := BE.cell (i := 3) rfl
  have x4 := BX.cell (i := 4) rfl
  have e4 := BE.cell (i := 4) rfl
  have x5 := BX.cell (i := 5) rfl
  have e5 := BE.cell (i := 5) rfl
  have x6 := BX.cell (i := 6) rfl
  have e6 := BE.cell (i := 6) rfl
  go_enter Try.func37, Try.ntmps37
  go_wp2_with fail
  refine (iCmp_ev p.e e z hz _).mono ?_
  rintro r w1 ⟨rfl, hb⟩
  have HB1 : Hid (Below w.heap.size w w1) := HB0.out.trans (hb.mono HB0.out.size)
  clear hb hW0 BX BE x0 e0 x1 e1 x2 e2 x3 e3 x4 e4 x5 e5 x6 e6
  go_wp2
  go_ret
  exact ⟨rfl, HB1.out⟩
end Go.Proofs.Ytdcnimdhfhbdmaa

/- slices.BinarySearchFunc over what was done. -/
namespace Go.Proofs.Ytdcnimdhfhbdmaa
open Go.RowKit
def FoundP (l : List Ps) (e : Ev) (r : Ending) : Prop := ∃ (i : Nat) (f : Bool), r = .returned (.tuple #[.int .i64 (i : Int), .bool f]) ∧ i ≤ l.length ∧ (i = 0 ∨ (psAt l (i - 1)).e.ecmp e < 0) ∧ (i < l.length → ¬ (psAt l i).e.ecmp e < 0)
set_option maxRecDepth 100000 in
set_option maxHeartbeats 8000000 in
theorem searchPast_any (x : Value) (l : List Ps) (e : Ev) (w : World) (hl : l.length ≤ 1048577) (h : IsD w x (pastsD l)) :
    Calls Try.prog 36 #[x, .agg #[.int .i64 e.t, .int .i64 e.s, .int .i64 e.q, .int .i64 e.d, .int .i64 e.k, .int .i64 e.v, .int .i64 e.g], .func (.func 37) #[] #[]] w fun r w' => FoundP l e r ∧ Below w.heap.size w w' := by
  obtain ⟨a4, c4, rfl, _⟩ := IsD.len h
  obtain ⟨W0, hW0⟩ : ∃ W0, w.alloc (.cells #[.int .i64 e.t, .int .i64 e.s, .int .i64 e.q, .int .i64 e.d, .int .i64 e.k, .int .i64 e.v, .int .i64 e.g] 40) = W0 := ⟨_, rfl⟩
  have HE0 : Hid (Bk W0 w.heap.size 40 #[.int .i64 e.t, .int .i64 e.s, .int .i64 e.q, .int .i64 e.d, .int .i64 e.k, .int .i64 e.v, .int .i64 e.g]) := hW0 ▸ Bk.new w _ _
  have HB0 : Hid (Below w.heap.size w W0) := by rw [← hW0]; exact (Below.refl _ w).alloc (Nat.le_refl _) _
  have hs0 : W0.heap.size = w.heap.size + 1 := by rw [← hW0]; simp
  have HI0 : Hid (IsD W0 (.slice a4 l.length c4) (pastsD l)) := h.under HB0.out
  clear h
  go_enter Try.func36, Try.ntmps36
  go_wp2
  clear hW0
  go_loopw [9, 10] (fun i j wr => ∃ x y : Nat, x ≤ y ∧ y ≤ l.length ∧ i = .int .i64 x ∧ j = .int .i64 y ∧ Hid (Below W0.heap.size W0 wr) ∧ Hid (x = 0 ∨ (psAt l (x - 1)).e.ecmp e < 0) ∧ Hid (y < l.length → ¬ (psAt l y).e.ecmp e < 0)) (fun i j _ => (intOf j).toNat - (intOf i).toNat)
  case atStart => exact ⟨0, l.length, Nat.zero_le _, Nat.le_refl _, rfl, rfl, Below.refl _ _, .inl rfl, fun h => absurd h (Nat.lt_irrefl _)⟩
  case round =>
    obtain ⟨x, y, hxy, hyn, rfl, rfl, HB, HL, HU⟩ := hrel
    have hsz : W0.heap.size ≤ wr.heap.size := HB.out.size
    have hne : Nonempty (Beyond wr) := ⟨⟨wr, Below.refl _ _⟩⟩
    have HE : Hid (Bk wr w.heap.size 40 #[.int .i64 e.t, .int .i64 e.s, .int .i64 e.q, .int .i64 e.d, .int .i64 e.k, .int .i64 e.v, .int .i64 e.g]) := HE0.out.below HB.out
    have HI : Hid (IsD wr (.slice a4 l.length c4) (pastsD l)) := HI0.out.under HB.out
    by_cases hlt : x < y
    · have hxi : (x : Int) < (y : Int) := by omega
      have hsum : (x : Int) + (y : Int) ≤ 2097154 := by omega
      go_wp2_with fail
      obtain ⟨h, hh⟩ : ∃ h : Nat, ((x : Int) + (y : Int)) / 2 = (h : Int) := ⟨(x + y) / 2, by omega⟩
      rw [hh]
      have hh1 : x ≤ h := by omega
      have hh2 : h < y := by omega
      clear hh
      have hhn : (h : Int) < (l.length : Int) := by omega
      have hh0 : (0 : Int) ≤ (h : Int) := by omega
      obtain ⟨a4', cap4, he4, _, _, h4⟩ := IsD.parts (c := 12) (n := l.length) HI.out
      obtain ⟨b, off, ha4, hb4, hc4⟩ := h4.resolve_left (by omega)
      obtain ⟨rfl, rfl⟩ : a4 = a4' ∧ c4 = cap4 := by simpa using he4
      subst ha4
      obtain ⟨u7, u10, u11, k0, k1, k2, k3, k4, k5, k6, k7, k8, k9, k10, k11, d7, d10, d11⟩ := pastsD_in hc4 (by omega : h < l.length)
      obtain ⟨a7, c7, rfl, _⟩ := IsD.len d7
      obtain ⟨a10, c10, rfl, _⟩ := IsD.len d10
      obtain ⟨a11, c11, rfl, _⟩ := IsD.len d11
      have f0 : ∀ q : Beyond wr, q.w.cell? ⟨b, off + h * 12, none⟩ = _ := fun q => q.cell hb4 k0
      have f1 : ∀ q : Beyond wr, q.w.cell? ⟨b, off + h * 12 + 1, none⟩ = _ := fun q => q.cell hb4 k1
      have f2 : ∀ q : Beyond wr, q.w.cell? ⟨b, off + h * 12 + 2, none⟩ = _ := fun q => q.cell hb4 k2
      have f3 : ∀ q : Beyond wr, q.w.cell? ⟨b, off + h * 12 + 3, none⟩ = _ := fun q => q.cell hb4 k3
      have f4 : ∀ q : Beyond wr, q.w.cell? ⟨b, off + h * 12 + 4, none⟩ = _ := fun q => q.cell hb4 k4
      have f5 : ∀ q : Beyond wr, q.w.cell? ⟨b, off + h * 12 + 5, none⟩ = _ := fun q => q.cell hb4 k5
      have f6 : ∀ q : Beyond wr, q.w.cell? ⟨b, off + h * 12 + 6, none⟩ = _ := fun q => q.cell hb4 k6
      have f7 : ∀ q : Beyond wr, q.w.cell? ⟨b, off + h * 12 + 7, none⟩ = _ := fun q => q.cell hb4 k7
      have f8 : ∀ q : Beyond wr, q.w.cell? ⟨b, off + h * 12 + 8, none⟩ = _ := fun q => q.cell hb4 k8
      have f9 : ∀ q : Beyond wr, q.w.cell? ⟨b, off + h * 12 + 9, none⟩ = _ := fun q => q.cell hb4 k9
      have f10 : ∀ q : Beyond wr, q.w.cell? ⟨b, off + h * 12 + 10, none⟩ = _ := fun q => q.cell hb4 k10
      have f11 : ∀ q : Beyond wr, q.w.cell? ⟨b, off + h * 12 + 11, none⟩ = _ := fun q => q.cell hb4 k11
      have g0 := HE.out.beyond (i := 0) rfl
      have g1 := HE.out.beyond (i := 1) rfl
      have g2 := HE.out.beyond (i := 2) rfl
      have g3 := HE.out.beyond (i := 3) rfl
      have g4 := HE.out.beyond (i := 4) rfl
      have g5 := HE.out.beyond (i := 5) rfl
      have g6 := HE.out.beyond (i := 6) rfl
      clear k0 k1 k2 k3 k4 k5 k6 k7 k8 k9 k10 k11 hc4 h4 he4 d7 d10 d11
      generalize hz : (psAt l h).e.ecmp e = z
      have HZ : Hid ((psAt l h).e.ecmp e = z) := hz
      clear hz
      by_cases hzl : z < 0
      · have hdz : decide (z < 0) = true := by simpa using hzl
        refine wp_region_beyond (by kernel_rfl) (by kernel_rfl) ?_
        repeat (go_big_quiet_step (first | (go_at_call 37; exact Beyond.of (pastCmp_any _ _ _ _ (psAt l h) e z HZ.out _ ⟨_, _, _, rfl⟩ ⟨_, _, _, rfl⟩ ⟨_, _, _, rfl⟩ rfl))))
        refine wpQuiet_nil ?_
        rintro w2 ⟨⟨_, hb2⟩, rfl⟩
        clear hne f0 f1 f2 f3 f4 f5 f6 f7 f8 f9 f10 f11 g0 g1 g2 g3 g4 g5 g6
        go_wp2
        go_roundw
        case rel => exact ⟨h + 1, y, by omega, hyn, by go_num, rfl, HB.out.trans (hb2.mono hsz), .inr (by rw [Nat.add_sub_cancel, HZ.out]; omega), fun hy => by have := HU.out hy; omega⟩
        case measure => simp [intOf]; omega
      · have hdz : decide (z < 0) = false := by simpa using hzl
        refine wp_region_beyond (by kernel_rfl) (by kernel_rfl) ?_
        repeat (go_big_quiet_step (first | (go_at_call 37; exact Beyond.of (pastCmp_any _ _ _ _ (psAt l h) e z HZ.out _ ⟨_, _, _, rfl⟩ ⟨_, _, _, rfl⟩ ⟨_, _, _, rfl⟩ rfl))))
        refine wpQuiet_nil ?_
        rintro w2 ⟨⟨_, hb2⟩, rfl⟩
        clear hne f0 f1 f2 f3 f4 f5 f6 f7 f8 f9 f10 f11 g0 g1 g2 g3 g4 g5 g6
        go_wp2
        go_roundw
        case rel => exact ⟨x, h, hh1, by omega, rfl, rfl, HB.out.trans (hb2.mono hsz), HL.out, fun _ => by rw [HZ.out]; omega⟩
        case measure => simp [intOf]; omega
    · obtain rfl : x = y := by omega
      clear hlt
      go_wp2_with fail
      by_cases hxn : x < l.length
      · have hd : decide (x < l.length) = true := by simpa using hxn
        have hxi : (x : Int) < (l.length : Int) := by omega
        obtain ⟨a4', cap4, he4, _, _, h4⟩ := IsD.parts (c := 12) (n := l.length) HI.out
        obtain ⟨b, off, ha4, hb4, hc4⟩ := h4.resolve_left (by omega)
        obtain ⟨rfl, rfl⟩ : a4 = a4' ∧ c4 = cap4 := by simpa using he4
        subst ha4
        obtain ⟨u7, u10, u11, k0, k1, k2, k3, k4, k5, k6, k7, k8, k9, k10, k11, d7, d10, d11⟩ := pastsD_in hc4 (hxn : x < l.length)
        obtain ⟨a7, c7, rfl, _⟩ := IsD.len d7
        obtain ⟨a10, c10, rfl, _⟩ := IsD.len d10
        obtain ⟨a11, c11, rfl, _⟩ := IsD.len d11
        have f0 : ∀ q : Beyond wr, q.w.cell? ⟨b, off + x * 12, none⟩ = _ := fun q => q.cell hb4 k0
        have f1 : ∀ q : Beyond wr, q.w.cell? ⟨b, off + x * 12 + 1, none⟩ = _ := fun q => q.cell hb4 k1
        have f2 : ∀ q : Beyond wr, q.w.cell? ⟨b, off + x * 12 + 2, none⟩ = _ := fun q => q.cell hb4 k2
        have f3 : ∀ q : Beyond wr, q.w.cell? ⟨b, off + x * 12 + 3, none⟩ = _ := fun q => q.cell hb4 k3
        have f4 : ∀ q : Beyond wr, q.w.cell? ⟨b, off + x * 12 + 4, none⟩ = _ := fun q => q.cell hb4 k4
        have f5 : ∀ q : Beyond wr, q.w.cell? ⟨b, off + x * 12 + 5, none⟩ = _ := fun q => q.cell hb4 k5
        have f6 : ∀ q : Beyond wr, q.w.cell? ⟨b, off + x * 12 + 6, none⟩ = _ := fun q => q.cell hb4 k6
        have f7 : ∀ q : Beyond wr, q.w.cell? ⟨b, off + x * 12 + 7, none⟩ = _ := fun q => q.cell hb4 k7
        have f8 : ∀ q : Beyond wr, q.w.cell? ⟨b, off + x * 12 + 8, none⟩ = _ := fun q => q.cell hb4 k8
        have f9 : ∀ q : Beyond wr, q.w.cell? ⟨b, off + x * 12 + 9, none⟩ = _ := fun q => q.cell hb4 k9
        have f10 : ∀ q : Beyond wr, q.w.cell? ⟨b, off + x * 12 + 10, none⟩ = _ := fun q => q.cell hb4 k10
        have f11 : ∀ q : Beyond wr, q.w.cell? ⟨b, off + x * 12 + 11, none⟩ = _ := fun q => q.cell hb4 k11
        have g0 := HE.out.beyond (i := 0) rfl
        have g1 := HE.out.beyond (i := 1) rfl
        have g2 := HE.out.beyond (i := 2) rfl
        have g3 := HE.out.beyond (i := 3) rfl
        have g4 := HE.out.beyond (i := 4) rfl
        have g5 := HE.out.beyond (i := 5) rfl
        have g6 := HE.out.beyond (i := 6) rfl
        clear k0 k1 k2 k3 k4 k5 k6 k7 k8 k9 k10 k11 hc4 h4 he4 d7 d10 d11
        generalize hz : (psAt l x).e.ecmp e = z
        have HZ : Hid ((psAt l x).e.ecmp e = z) := hz
        clear hz
        refine wp_region_beyond (by kernel_rfl) (by kernel_rfl) ?_
        repeat (go_big_quiet_step (first | (go_at_call 37; exact Beyond.of (pastCmp_any _ _ _ _ (psAt l x) e z HZ.out _ ⟨_, _, _, rfl⟩ ⟨_, _, _, rfl⟩ ⟨_, _, _, rfl⟩ rfl))))
        refine wpQuiet_nil ?_
        rintro w2 ⟨⟨_, hb2⟩, rfl⟩
        clear hne f0 f1 f2 f3 f4 f5 f6 f7 f8 f9 f10 f11 g0 g1 g2 g3 g4 g5 g6
        go_wp2
        go_ret2
        exact ⟨⟨x, _, rfl, hyn, HL.out, fun hy => by have := HU.out hy; omega⟩, HB0.out.trans ((HB.out.trans (hb2.mono hsz)).mono (by omega))⟩
      · have hd : decide (x < l.length) = false := by simpa using hxn
        have hxi : ¬ ((x : Int) < (l.length : Int)) := by omega
        refine wp_region_beyond (by kernel_rfl) (by kernel_rfl) ?_
        repeat (go_big_quiet_step (fail))
        refine wpQuiet_nil ?_
        rintro w2 ⟨⟨_, hb2⟩, rfl⟩
        clear hne
        go_wp2
        go_ret2
        exact ⟨⟨x, _, rfl, hyn, HL.out, fun hy => by have := HU.out hy; omega⟩, HB0.out.trans ((HB.out.trans (hb2.mono hsz)).mono (by omega))⟩
end Go.Proofs.Ytdcnimdhfhbdmaa

/- The program's copies: lists of any length, states. -/
namespace Go.Proofs.Ytdcnimdhfhbdmaa
open Go.RowKit
set_option maxRecDepth 100000 in
set_option maxHeartbeats 2000000 in
theorem copyEv_src (x : Value) (l : List Ev) (w : World) (hl : l.length ≤ 1048577) (h : SrcC w x 7 l.length (cellsL l)) :
    Calls Try.prog 71 #[x] w fun e w' => ∃ y, e = .returned y ∧ w'.ownsRow w.heap.size 40 7 y l.length (cellsL l) ∧ Below w.heap.size w w' := by
  obtain ⟨i0, hi, hz0, hz1, hz2⟩ := info_parts info25
  have HS : Hid (SrcC w x 7 l.length (cellsL l)) := h
  obtain ⟨_, a, c, rfl, _⟩ := h
  go_enter Try.func71, Try.ntmps71
  go_wp2_with (at_builtin; refine wpList_append_src _ rfl _ _ 34 rfl w.heap.size 40 i0 _ 7 56 Try.underlying34 hi hz0 hz1 hz2 rfl (by decide) (.slice none 0 0) 0 [] rfl (World.ownsRow_nil w w.heap.size 40 7) (.slice a l.length c) l.length (cellsL l) rfl HS.out (cellsL_ones l) (by unfold maxLen; omega) (by omega) (Nat.le_refl _) ?_; intro v' w' hown hgrow hnew)
  go_ret
  rw [Nat.zero_add, List.nil_append] at hown
  exact ⟨_, rfl, hown, (Below.refl _ w).grown hgrow (Nat.le_refl _) (fun k e => by cases e)⟩
set_option maxRecDepth 100000 in
set_option maxHeartbeats 2000000 in
theorem copyEm_src (x : Value) (l : List Em) (w : World) (hl : l.length ≤ 1048577) (h : SrcC w x 3 l.length (cellsX l)) :
    Calls Try.prog 72 #[x] w fun e w' => ∃ y, e = .returned y ∧ w'.ownsRow w.heap.size 99 3 y l.length (cellsX l) ∧ Below w.heap.size w w' := by
  obtain ⟨i0, hi, hz0, hz1, hz2⟩ := info_parts infoPX
  have HS : Hid (SrcC w x 3 l.length (cellsX l)) := h
  obtain ⟨_, a, c, rfl, _⟩ := h
  go_enter Try.func72, Try.ntmps72
  go_wp2_with (at_builtin; refine wpList_append_src _ rfl _ _ 65 rfl w.heap.size 99 i0 _ 3 24 Try.underlying65 hi hz0 hz1 hz2 rfl (by decide) (.slice none 0 0) 0 [] rfl (World.ownsRow_nil w w.heap.size 99 3) (.slice a l.length c) l.length (cellsX l) rfl HS.out (cellsX_ones l) (by unfold maxLen; omega) (by omega) (Nat.le_refl _) ?_; intro v' w' hown hgrow hnew)
  go_ret
  rw [Nat.zero_add, List.nil_append] at hown
  exact ⟨_, rfl, hown, (Below.refl _ w).grown hgrow (Nat.le_refl _) (fun k e => by cases e)⟩
set_option maxRecDepth 100000 in
set_option maxHeartbeats 2000000 in
theorem copyI_src (x : Value) (l : List Int) (w : World) (hl : l.length ≤ 1048577) (h : SrcC w x 1 l.length (intCells l)) :
    Calls Try.prog 73 #[x] w fun e w' => ∃ y, e = .returned y ∧ w'.ownsRow w.heap.size 3 1 y l.length (intCells l) ∧ Below w.heap.size w w' := by
  obtain ⟨i0, hi, hz0, hz1, hz2⟩ := info_parts info3
  have HS : Hid (SrcC w x 1 l.length (intCells l)) := h
  obtain ⟨_, a, c, rfl, _⟩ := h
  go_enter Try.func73, Try.ntmps73
  go_wp2_with (at_builtin; refine wpList_append_src _ rfl _ _ 22 rfl w.heap.size 3 i0 _ 1 8 Try.underlying22 hi hz0 hz1 hz2 rfl (by decide) (.slice none 0 0) 0 [] rfl (World.ownsRow_nil w w.heap.size 3 1) (.slice a l.length c) l.length (intCells l) rfl HS.out (intCells_ones l) (by unfold maxLen; omega) (by omega) (Nat.le_refl _) ?_; intro v' w' hown hgrow hnew)
  go_ret
  rw [Nat.zero_add, List.nil_append] at hown
  exact ⟨_, rfl, hown, (Below.refl _ w).grown hgrow (Nat.le_refl _) (fun k e => by cases e)⟩
set_option maxRecDepth 100000 in
set_option maxHeartbeats 4000000 in
theorem snap_src (x vr : Value) (s : St) (w : World) (hl : s.r.length ≤ 1048577) (hx : x = .agg #[vr, .int .i64 s.q, .int .i64 s.d]) (h : IsD w vr (intsD s.r)) :
    Calls Try.prog 70 #[x] w fun r w' => ∃ v, r = .returned (.agg #[v, .int .i64 s.q, .int .i64 s.d]) ∧ w'.ownsRow w.heap.size 3 1 v s.r.length (intCells s.r) ∧ Below w.heap.size w w' := by
  obtain ⟨ar, cr, rfl, _⟩ := IsD.len h
  subst hx
  obtain ⟨W0, hW0⟩ : ∃ W0, (w.alloc (.cells #[.slice ar s.r.length cr, .int .i64 s.q, .int .i64 s.d] 32)).alloc (.cells #[.slice none 0 0, .int .i64 0, .int .i64 0] 32) = W0 := ⟨_, rfl⟩
  have hz0 : W0.heap.size = w.heap.size + 1 + 1 := by rw [← hW0]; simp
  have hb0 : Below w.heap.size w W0 := hW0 ▸ ((Below.refl _ w).alloc (Nat.le_refl _) _).alloc (by simp) _
  have HBw : Hid (Below w.heap.size w W0) := hb0
  have HW0 : Hid ((w.alloc (.cells #[.slice ar s.r.length cr, .int .i64 s.q, .int .i64 s.d] 32)).alloc (.cells #[.slice none 0 0, .int .i64 0, .int .i64 0] 32) = W0) := hW0
  have BX : Hid (Bk W0 w.heap.size 32 #[.slice ar s.r.length cr, .int .i64 s.q, .int .i64 s.d]) := hW0 ▸ (Bk.new w _ _).alloc _
  have BZ : Hid (Bk W0 (w.heap.size + 1) 32 #[.slice none 0 0, .int .i64 0, .int .i64 0]) := hW0 ▸ Bk.newAt (by simp) _ _
  have D1 : Hid (IsD W0 (.slice ar s.r.length cr) (intsD s.r)) := h.under hb0
  have hz0' : W0.heap.size ≤ w.heap.size + 1 + 1 ∧ w.heap.size + 1 + 1 ≤ W0.heap.size := by omega
  have x0 := BX.out.cell (i := 0) rfl
  clear hb0 h hz0
  go_enter Try.func70, Try.ntmps70
  go_wp2_with fail
  clear hW0 x0
  refine (copyI_src _ s.r W0 hl D1.out.srcI).mono ?_
  rintro e w1 ⟨v, rfl, hown, hb⟩
  obtain ⟨av, cv, hv⟩ := owns_slice hown
  subst hv
  have HO : Hid (w1.ownsRow W0.heap.size 3 1 (.slice av s.r.length cv) s.r.length (intCells s.r)) := hown
  have hz1 : W0.heap.size ≤ w1.heap.size := hb.size
  have HB1 : Hid (Below w.heap.size w w1) := HBw.out.trans (hb.mono (by omega))
  have X1 : Hid (Bk w1 w.heap.size 32 #[.slice ar s.r.length cr, .int .i64 s.q, .int .i64 s.d]) := BX.out.below hb
  have Z1 : Hid (Bk w1 (w.heap.size + 1) 32 #[.slice none 0 0, .int .i64 0, .int .i64 0]) := BZ.out.below hb
  have x0 := X1.out.cell (i := 0) rfl
  have xf := X1.out.free
  obtain ⟨W2, hW2⟩ : ∃ V, w1.setCell ⟨w.heap.size, 0, none⟩ (.slice av s.r.length cv) = V := ⟨_, rfl⟩
  have hP := X1.out.put 0 (.slice av s.r.length cv)
  have ht := put1_turns w1 w.heap.size 0 (.slice av s.r.length cv)
  rw [hW2] at hP ht
  have HW2 : Hid (w1.setCell ⟨w.heap.size, 0, none⟩ (.slice av s.r.length cv) = W2) := hW2
  have X2 : Hid (Bk W2 w.heap.size 32 #[.slice av s.r.length cv, .int .i64 s.q, .int .i64 s.d]) := hP
  have Z2 : Hid (Bk W2 (w.heap.size + 1) 32 #[.slice none 0 0, .int .i64 0, .int .i64 0]) := Z1.out.turns ht (by omega)
  have T2 : Hid (Turns (fun b => b = w.heap.size) w1 W2) := ht
  clear hW2 hP ht hown hb
  have y0 := X2.out.cell (i := 0) rfl
  have y1 := X2.out.cell (i := 1) rfl
  have y2 := X2.out.cell (i := 2) rfl
  have z0 := Z2.out.cell (i := 0) rfl
  have z1 := Z2.out.cell (i := 1) rfl
  have z2 := Z2.out.cell (i := 2) rfl
  have zf := Z2.out.free
  have hW2 := HW2.out
  obtain ⟨X5, hX5⟩ : ∃ X5, put3s W2 (w.heap.size + 1) (.slice av s.r.length cv) (.int .i64 s.q) (.int .i64 s.d) = X5 := ⟨_, rfl⟩
  have hP5 := Z2.out.put3s (.slice av s.r.length cv) (.int .i64 s.q) (.int .i64 s.d)
  have ht5 := put3s_turns W2 (w.heap.size + 1) (.slice av s.r.length cv) (.int .i64 s.q) (.int .i64 s.d)
  rw [hX5] at hP5 ht5
  have HP5 : Hid (Bk X5 (w.heap.size + 1) 32 #[.slice av s.r.length cv, .int .i64 s.q, .int .i64 s.d]) := hP5
  have HT5 : Hid (Turns (fun b => b = (w.heap.size + 1)) W2 X5) := ht5
  unfold put3s at hX5
  have HX5 : Hid _ := hX5
  clear hP5 ht5 hX5
  go_wp2
  rw [HX5.out]
  have t0 := HP5.out.cell (i := 0) rfl
  have t1 := HP5.out.cell (i := 1) rfl
  have t2 := HP5.out.cell (i := 2) rfl
  refine bodyPost_ret (v := .agg #[.slice av s.r.length cv, .int .i64 s.q, .int .i64 s.d]) (by simp [results, Try.results70, go_sem, t0, t1, t2]) rfl ⟨_, rfl, ?_, (HB1.out.trans (T2.out.to_below (fun k e => by omega) (by omega))).trans (HT5.out.to_below (fun k e => by omega) (by have := T2.out.size; omega))⟩
  exact owns_mono (owns_turns (owns_turns HO.out T2.out (fun k hk e => by have := row_ge HO.out hk; omega)) HT5.out (fun k hk e => by have := row_ge HO.out hk; omega)) (by omega)
end Go.Proofs.Ytdcnimdhfhbdmaa

