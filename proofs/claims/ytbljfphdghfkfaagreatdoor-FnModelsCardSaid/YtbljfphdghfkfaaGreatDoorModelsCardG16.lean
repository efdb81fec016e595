/- SOk, ECopy, EEfV, CPure, EEfI, CRun, CCo, CSame, SOf -/
import Derived.Test.YtbljfphdghfkfaaGreatDoorModelsCardG09
import Derived.Test.YtbljfphdghfkfaaGreatDoorModelsCardG07
import Derived.Test.YtbljfphdghfkfaaGreatDoorModelsCardG05
import Derived.Test.YtbljfphdghfkfaaGreatDoorModelsCardLEDo
import Derived.Test.YtbljfphdghfkfaaGreatDoorModelsCardLMOkS
/- Both StateOk. -/
namespace Go.Proofs.YtbljfphdghfkfaaGreatDoor
open Go.RowKit
def St.ok (s : St) : Bool := decide (s.r.length = 2 ∧ (0 ≤ intAt s.r 0 ∧ intAt s.r 0 ≤ 999) ∧ (0 ≤ intAt s.r 1 ∧ intAt s.r 1 ≤ 999) ∧ 0 ≤ s.q ∧ s.q ≤ 99992 ∧ 0 ≤ s.d ∧ s.d ≤ 99992)
end Go.Proofs.YtbljfphdghfkfaaGreatDoor

/- A state of one's own: the program's copy, the specification's. -/
namespace Go.Proofs.YtbljfphdghfkfaaGreatDoor
open Go.RowKit
theorem own_form {w : World} {B : Nat} {T : TypeId} {c n : Nat} {v : Value} {cs : List Value} (h : w.ownsRow B T c v n cs) (hn : 0 < n) : ∃ g cap, v = .slice (some ⟨g, 0, none⟩) n cap := by
 obtain ⟨_, ⟨rfl, h0⟩ | ⟨g, cap, cur, rfl, _⟩⟩ := h
 ·omega
 ·exact ⟨g, cap, rfl⟩
theorem two_cells {w : World} {b off : Nat} {p q : Value} (h0 : w.cell? ⟨b, off, none⟩ = some p) (h1 : w.cell? ⟨b, off + 1, none⟩ = some q) : ∀ j u, [p, q][j]? = some u → w.cell? ((⟨b, off, none⟩ : Addr).add j) = some u := by
 intro j u hu
 rw [Addr.add_lit]
 match j, hu with
 | 0, hu => simp at hu; subst hu; exact h0
 | 1, hu => simp at hu; subst hu; exact h1
 | (j + 2), hu => simp at hu
theorem two_ones (p q : Int) : ∀ u ∈ [Value.int .i64 p, .int .i64 q], u.oneCell' = true := by
 intro u hu
 simp at hu
 rcases hu with rfl | rfl <;> rfl
theorem own_mono {w : World} {B B' : Nat} {T : TypeId} {c n : Nat} {v : Value} {cs : List Value} (h : w.ownsRow B T c v n cs) (hB : B' ≤ B) : w.ownsRow B' T c v n cs := by
 obtain ⟨hl, ⟨rfl, h0⟩ | ⟨g, cap, cur, rfl, hg, h1⟩⟩ := h
 ·exact ⟨hl, .inl ⟨rfl, h0⟩⟩
 ·exact ⟨hl, .inr ⟨g, cap, cur, rfl, Nat.le_trans hB hg, h1⟩⟩
theorem own_turns {w w' : World} {B : Nat} {S : Nat → Prop} {T : TypeId} {c n : Nat} {v : Value} {cs : List Value} (h : w.ownsRow B T c v n cs) (ht : Turns S w w') (hS : ∀ k cur, w.heap[k]? = some (.cells cur T) → ¬ S k) : w'.ownsRow B T c v n cs := by
 obtain ⟨hl, ⟨rfl, h0⟩ | ⟨g, cap, cur, rfl, hg, hc, h1⟩⟩ := h
 ·exact ⟨hl, .inl ⟨rfl, h0⟩⟩
 ·exact ⟨hl, .inr ⟨g, cap, cur, rfl, hg, (ht.block g (Array.getElem?_eq_some_iff.1 hc).1 (hS g cur hc)).trans hc, h1⟩⟩
set_option maxHeartbeats 1000000 in
theorem copy2 (b off cap : Nat) (p q : Int) (w : World) (h0 : w.cell? ⟨b, off, none⟩ = some (.int .i64 p)) (h1 : w.cell? ⟨b, off + 1, none⟩ = some (.int .i64 q)) :
  Calls Tryz.prog 105 #[.slice (some ⟨b, off, none⟩) 2 cap] w fun e w' => ∃ g c, e = .returned (vReg g c) ∧ w'.ownsRow w.heap.size 3 1 (vReg g c) 2 [.int .i64 p, .int .i64 q] ∧ Below w.heap.size w w' := by
 obtain ⟨i0, hi, hz0, hz1, hz2⟩ := info_parts info3
 have HC : Hid (∀ j u, [Value.int .i64 p, .int .i64 q][j]? = some u → w.cell? ((⟨b, off, none⟩ : Addr).add j) = some u) := two_cells h0 h1
 clear h0 h1
 go_enter Tryz.func105, Tryz.ntmps105
 go_wp2_with (at_builtin; refine wpList_append_own _ rfl _ _ 23 rfl w.heap.size 3 i0 _ 1 8 Tryz.underlying23 hi hz0 hz1 hz2 rfl (by decide) (.slice none 0 0) 0 [] rfl (World.ownsRow_nil w _ 3 1) ⟨b, off, none⟩ 2 cap [.int .i64 p, .int .i64 q] rfl rfl HC.out (two_ones p q) (by unfold maxLen; omega) (by omega) (Nat.le_refl _) ?_; intro v' w1 hown hgrow hnil)
 go_ret
 obtain ⟨g, c, rfl⟩ := own_form hown (by omega)
 exact ⟨g, c, rfl, hown, (Below.refl _ w).grown hgrow (Nat.le_refl _) (fun k e => by cases e)⟩
theorem IsS.two {w : World} {x : Value} {s : St} (h : IsS w x s) (h2 : s.r.length = 2) : ∃ b off cap, x = .agg #[.slice (some ⟨b, off, none⟩) 2 cap, .int .i64 s.q, .int .i64 s.d] ∧ b < w.heap.size ∧ w.cell? ⟨b, off, none⟩ = some (.int .i64 (intAt s.r 0)) ∧ w.cell? ⟨b, off + 1, none⟩ = some (.int .i64 (intAt s.r 1)) := by
 obtain ⟨vr, rfl, a, cap, rfl, _, _, h⟩ := h
 obtain ⟨b, off, rfl, hb, hc⟩ := h.resolve_left (by intro e; rw [e] at h2; simp at h2)
 exact ⟨b, off, cap, by rw [h2], hb, hc 0 (by omega), hc 1 (by omega)⟩
def SOwn (w : World) (s : St) (e : Ending) (w' : World) : Prop :=
 ∃ g c, e = .returned (.agg #[vReg g c, .int .i64 s.q, .int .i64 s.d]) ∧ w'.ownsRow w.heap.size 3 1 (vReg g c) 2 [.int .i64 (intAt s.r 0), .int .i64 (intAt s.r 1)] ∧ Below w.heap.size w w'
set_option maxRecDepth 100000 in
set_option maxHeartbeats 2000000 in
theorem iCopy (x : Value) (s : St) (w : World) (h : IsS w x s) (h2 : s.r.length = 2) : Calls Tryz.prog 98 #[x] w (SOwn w s) := by
 obtain ⟨b, off, cap, rfl, hb, h0, h1⟩ := h.two h2
 unfold SOwn
 generalize hp : intAt s.r 0 = p at h0 ⊢
 generalize hq : intAt s.r 1 = q at h1 ⊢
 clear h hp hq
 obtain ⟨W0, hW0⟩ : ∃ W0, (w.alloc (.cells #[.slice (some ⟨b, off, none⟩) 2 cap, .int .i64 s.q, .int .i64 s.d] 96)).alloc (.cells #[.slice none 0 0, .int .i64 0, .int .i64 0] 96) = W0 := ⟨_, rfl⟩
 have HP0 : Hid (Bk W0 w.heap.size 96 #[.slice (some ⟨b, off, none⟩) 2 cap, .int .i64 s.q, .int .i64 s.d]) := by rw [← hW0]; exact (Bk.new w _ _).alloc _
 have HR0 : Hid (Bk W0 (w.heap.size + 1) 96 #[.slice none 0 0, .int .i64 0, .int .i64 0]) := by rw [← hW0]; exact Bk.newAt (by simp) _ _
 have HB0 : Hid (Below w.heap.size w W0) := by rw [← hW0]; exact ((Below.refl _ w).alloc (Nat.le_refl _) _).alloc (by simp) _
 have k0 := (HB0.out.cell (p := ⟨b, off, none⟩) hb).trans h0
 have k1 := (HB0.out.cell (p := ⟨b, off + 1, none⟩) hb).trans h1
 have p0 := HP0.out.cell (i := 0) rfl
 clear h0 h1
 go_enter Tryz.func98, Tryz.ntmps98
 go_wp2_with fail
 clear p0 hW0
 refine (copy2 b off cap p q _ k0 k1).mono ?_
 rintro e w1 ⟨g, c, rfl, hown, hb1⟩
 have HP1 := HP0.out.below hb1
 have HR1 := HR0.out.below hb1
 have hs1 := HB0.out.size
 have hs2 := hb1.size
 have hPl := HP0.out.lt
 have hRl := HR0.out.lt
 obtain ⟨X1, hX1⟩ : ∃ X1, w1.setCell ⟨w.heap.size, 0, none⟩ (vReg g c) = X1 := ⟨_, rfl⟩
 have HP2 : Bk X1 w.heap.size 96 #[vReg g c, .int .i64 s.q, .int .i64 s.d] := hX1 ▸ HP1.put 0 _
 have HR2 : Bk X1 (w.heap.size + 1) 96 #[.slice none 0 0, .int .i64 0, .int .i64 0] := hX1 ▸ HR1.other 0 _ (by omega)
 have HO2 : X1.ownsRow w.heap.size 3 1 (vReg g c) 2 [.int .i64 p, .int .i64 q] := by
  rw [← hX1]
  exact own_mono (hown.kept (setCell_grown _ _ _ _) (own_off hown HP1 (by decide))) hs1
 have HB2 : Below w.heap.size w X1 := by
  rw [← hX1]
  exact (HB0.out.trans (hb1.mono hs1)).setCell (p := ⟨w.heap.size, 0, none⟩) (Nat.le_refl _) _
 have a0 := HP1.cell (i := 0) rfl
 have af := HP1.free
 have p0 := HP2.cell (i := 0) rfl
 have p1 := HP2.cell (i := 1) rfl
 have p2 := HP2.cell (i := 2) rfl
 have r0 := HR2.cell (i := 0) rfl
 have r1 := HR2.cell (i := 1) rfl
 have r2 := HR2.cell (i := 2) rfl
 have rf := HR2.free
 have HR2' : Hid (Bk X1 (w.heap.size + 1) 96 #[.slice none 0 0, .int .i64 0, .int .i64 0]) := HR2
 have HO2' : Hid (X1.ownsRow w.heap.size 3 1 (vReg g c) 2 [.int .i64 p, .int .i64 q]) := HO2
 have HB2' : Hid (Below w.heap.size w X1) := HB2
 clear HP1 HR1 HP2 HR2 HO2 HB2 hown hb1 hs2
 go_wp2
 clear a0 af p0 p1 p2 r0 r1 r2 rf hX1
 obtain ⟨X5, hX5⟩ : ∃ X5, put3 X1 (w.heap.size + 1) (vReg g c) (.int .i64 s.q) (.int .i64 s.d) = X5 := ⟨_, rfl⟩
 have hR := HR2'.out.put3 (vReg g c) (.int .i64 s.q) (.int .i64 s.d)
 have ht := put3_turns X1 (w.heap.size + 1) (vReg g c) (.int .i64 s.q) (.int .i64 s.d)
 have ho : (put3 X1 (w.heap.size + 1) (vReg g c) (.int .i64 s.q) (.int .i64 s.d)).ownsRow w.heap.size 3 1 (vReg g c) 2 [.int .i64 p, .int .i64 q] := own_turns HO2'.out ht (fun k cur e1 e2 => by
  have e3 := HR2'.out
  unfold Bk at e3
  rw [show k = w.heap.size + 1 from e2] at e1
  rw [e1] at e3
  cases e3)
 rw [hX5] at hR ht ho
 unfold put3 at hX5
 rw [hX5]
 have t0 := hR.cell (i := 0) rfl
 have t1 := hR.cell (i := 1) rfl
 have t2 := hR.cell (i := 2) rfl
 refine bodyPost_ret (v := .agg #[vReg g c, .int .i64 s.q, .int .i64 s.d]) (by simp [results, Tryz.results98, go_sem, t0, t1, t2]) rfl ⟨g, c, rfl, ho, HB2'.out.trans (ht.to_below (fun k e => by omega) HB2'.out.size)⟩
end Go.Proofs.YtbljfphdghfkfaaGreatDoor

/- Effects as plain values: what Handle answers. -/
namespace Go.Proofs.YtbljfphdghfkfaaGreatDoor
open Go.RowKit
structure Ef where
 st : St
 s : List Ev
 x : List Em
 k : Int
def startT (s : St) : Tn := ⟨intAt s.r 0, intAt s.r 1, s.q, s.d, [], []⟩
def Tn.ef (t : Tn) : Ef := ⟨⟨[t.a, t.b], t.q, t.d⟩, t.s, t.x, -1⟩
def resE (s : St) : Res → Ef
 | .done t => t.ef
 | .asks k => ⟨⟨[intAt s.r 0, intAt s.r 1], s.q, s.d⟩, [], [], k⟩
def effR (m : Md) (v : List Int) (s : St) (e : Ev) : Ef := resE s (run m.s v e (hAt m.h e.k.toNat) (hAt m.h e.k.toNat).length 0 (startT s))
def EfF (F : Nat → Prop) (w : World) (y : Value) (f : Ef) : Prop :=
 ∃ (A B C : Nat → Prop) (vr us ux : Value), y = .agg #[vr, .int .i64 f.st.q, .int .i64 f.st.d, us, ux, .int .i64 f.k] ∧ RowF A w vr f.st.r.length 1 (intCells f.st.r) ∧ RowF B w us f.s.length 7 (cellsL f.s) ∧ RowF C w ux f.x.length 3 (cellsX f.x) ∧
  (∀ k, A k → F k ∧ ¬ B k ∧ ¬ C k) ∧ (∀ k, B k → F k ∧ ¬ C k) ∧ ∀ k, C k → F k
theorem EfF.turns {F S : Nat → Prop} {w w' : World} {x : Value} {f : Ef} (h : EfF F w x f) (ht : Turns S w w') (hS : ∀ k, F k → ¬ S k) : EfF F w' x f := by
 obtain ⟨A, B, C, vr, us, ux, rfl, h1, h2, h3, h4, h5, h6⟩ := h
 exact ⟨A, B, C, vr, us, ux, rfl, h1.turns ht (fun k hk => hS k (h4 k hk).1), h2.turns ht (fun k hk => hS k (h5 k hk).1), h3.turns ht (fun k hk => hS k (h6 k hk)), h4, h5, h6⟩
theorem EfF.below {F : Nat → Prop} {w w' : World} {x : Value} {f : Ef} (h : EfF F w x f) (hb : Below w.heap.size w w') : EfF F w' x f :=
 h.turns (S := fun _ => False) (Turns.of_below hb) (fun _ _ => id)
theorem EfF.mono {F F' : Nat → Prop} {w : World} {x : Value} {f : Ef} (h : EfF F w x f) (hF : ∀ k, F k → F' k) : EfF F' w x f := by
 obtain ⟨A, B, C, vr, us, ux, rfl, h1, h2, h3, h4, h5, h6⟩ := h
 exact ⟨A, B, C, vr, us, ux, rfl, h1, h2, h3, fun k hk => ⟨hF k (h4 k hk).1, (h4 k hk).2⟩, fun k hk => ⟨hF k (h5 k hk).1, (h5 k hk).2⟩, fun k hk => hF k (h6 k hk)⟩
theorem EfF.form {F : Nat → Prop} {w : World} {x : Value} {f : Ef} (h : EfF F w x f) : ∃ a c as' cs' ax cx, x = .agg #[.slice a f.st.r.length c, .int .i64 f.st.q, .int .i64 f.st.d, .slice as' f.s.length cs', .slice ax f.x.length cx, .int .i64 f.k] := by
 obtain ⟨A, B, C, vr, us, ux, rfl, ⟨_, a1, c1, rfl, _⟩, ⟨_, a2, c2, rfl, _⟩, ⟨_, a3, c3, rfl, _⟩, _⟩ := h
 exact ⟨a1, c1, a2, c2, a3, c3, rfl⟩
theorem own_rowF {B : Nat} {T : TypeId} {w : World} {x : Value} {n c : Nat} {cs : List Value} (hcs : cs.length = n * c) (h : w.ownsRow B T c x n cs) : RowF (fun k => x.ownBlock = some k) w x n c cs := by
 obtain ⟨hl, ⟨rfl, h0⟩ | ⟨g, cap, cur, rfl, hg, hc, h1, h2, h3, h4⟩⟩ := h
 ·exact ⟨hcs, none, 0, by rw [h0], by omega, by unfold maxLen; omega, .inl h0⟩
 ·have hlt : g < w.heap.size := (Array.getElem?_eq_some_iff.1 hc).1
  refine ⟨hcs, _, cap, rfl, h1, h2, .inr ⟨g, rfl, rfl, hlt, fun j hj => ?_⟩⟩
  have hj2 : j < cur.size := by rw [h3]; exact Nat.lt_of_lt_of_le hj (Nat.mul_le_mul_right c h1)
  refine ⟨?_, by simp [World.frozen?, hc]⟩
  rw [← h4, List.getElem?_take_of_lt (by omega)]
  simp [World.cell?, hc]
theorem apart_blocks {w : World} {B B' : Nat} {T T' : TypeId} {c c' n n' : Nat} {v v' : Value} {cs cs' : List Value} (h : w.ownsRow B T c v n cs) (h' : w.ownsRow B' T' c' v' n' cs') (hT : T ≠ T') {k : Nat} (e : v.ownBlock = some k) (e' : v'.ownBlock = some k) : False := by
 rcases own_apart h h' hT with h1 | h1
 ·rw [h1] at e; cases e
 ·exact h1 (e.trans e'.symm)
theorem ef_of {w : World} {B : Nat} {vr us ux : Value} {r : List Int} {q d k : Int} {s : List Ev} {x : List Em} (h1 : w.ownsRow B 3 1 vr r.length (intCells r)) (h2 : w.ownsRow B 53 7 us s.length (cellsL s)) (h3 : w.ownsRow B 108 3 ux x.length (cellsX x)) :
  EfF (fun j => B ≤ j ∧ j < w.heap.size) w (.agg #[vr, .int .i64 q, .int .i64 d, us, ux, .int .i64 k]) ⟨⟨r, q, d⟩, s, x, k⟩ :=
 ⟨_, _, _, vr, us, ux, rfl, own_rowF (by simp [intCells]) h1, own_rowF (cellsL_length _) h2, own_rowF (cellsX_length _) h3,
  fun j e => ⟨h1.lt j e, fun e' => apart_blocks h1 h2 (by decide) e e', fun e' => apart_blocks h1 h3 (by decide) e e'⟩, fun j e => ⟨h2.lt j e, fun e' => apart_blocks h2 h3 (by decide) e e'⟩, fun j e => h3.lt j e⟩
abbrev put6o (w : World) (P o : Nat) (v0 v1 v2 v3 v4 v5 : Value) : World :=
 (((((w.setCell ⟨P, o, none⟩ v0).setCell ⟨P, o + 1, none⟩ v1).setCell ⟨P, o + 2, none⟩ v2).setCell ⟨P, o + 3, none⟩ v3).setCell ⟨P, o + 4, none⟩ v4).setCell ⟨P, o + 5, none⟩ v5
theorem put6o_turns (w : World) (P o : Nat) (v0 v1 v2 v3 v4 v5 : Value) : Turns (fun b => b = P) w (put6o w P o v0 v1 v2 v3 v4 v5) :=
 (((((put1_turns w P o v0).trans (put1_turns _ P (o + 1) v1)).trans (put1_turns _ P (o + 2) v2)).trans (put1_turns _ P (o + 3) v3)).trans (put1_turns _ P (o + 4) v4)).trans (put1_turns _ P (o + 5) v5)
theorem Bk.put6o {w : World} {P : Nat} {T : TypeId} {pre : List Value} {a0 a1 a2 a3 a4 a5 : Value} (h : Bk w P T (pre ++ [a0, a1, a2, a3, a4, a5]).toArray) (v0 v1 v2 v3 v4 v5 : Value) :
  Bk (put6o w P pre.length v0 v1 v2 v3 v4 v5) P T (pre ++ [v0, v1, v2, v3, v4, v5]).toArray := by
 have h0 := h.put (pre.length + 0) v0
 rw [set_pre] at h0
 have h1 := h0.put (pre.length + 1) v1
 rw [set_pre] at h1
 have h2 := h1.put (pre.length + 2) v2
 rw [set_pre] at h2
 have h3 := h2.put (pre.length + 3) v3
 rw [set_pre] at h3
 have h4 := h3.put (pre.length + 4) v4
 rw [set_pre] at h4
 have h5 := h4.put (pre.length + 5) v5
 rw [set_pre] at h5
 exact h5
end Go.Proofs.YtbljfphdghfkfaaGreatDoor

/- A course as plain values: what is still to do, as a heap and as a list in order, is the same. -/
namespace Go.Proofs.YtbljfphdghfkfaaGreatDoor
open Go.RowKit
def Un (l : List Ev) : Prop := ∀ i j, i < l.length → j < l.length → evAt l i = evAt l j → i = j
theorem un_swp {l : List Ev} {i k : Nat} (hi : i < l.length) (hk : k < l.length) (h : Un l) : Un (swp l i k) := by
 intro a b ha hb hg
 rw [swp_length] at ha hb
 rw [evAt_swp _ _ _ _ hi hk, evAt_swp _ _ _ _ hi hk] at hg
 by_cases a1 : k = a
 ·rw [if_pos a1] at hg
  by_cases b1 : k = b
  ·omega
  ·rw [if_neg b1] at hg
   by_cases b2 : i = b
   ·rw [if_pos b2] at hg
    have := h _ _ hi hk hg
    omega
   ·rw [if_neg b2] at hg
    have := h _ _ hi hb hg
    omega
 ·rw [if_neg a1] at hg
  by_cases a2 : i = a
  ·rw [if_pos a2] at hg
   by_cases b1 : k = b
   ·rw [if_pos b1] at hg
    have := h _ _ hk hi hg
    omega
   ·rw [if_neg b1] at hg
    by_cases b2 : i = b
    ·omega
    ·rw [if_neg b2] at hg
     have := h _ _ hk hb hg
     omega
  ·rw [if_neg a2] at hg
   by_cases b1 : k = b
   ·rw [if_pos b1] at hg
    have := h _ _ ha hi hg
    omega
   ·rw [if_neg b1] at hg
    by_cases b2 : i = b
    ·rw [if_pos b2] at hg
     have := h _ _ ha hk hg
     omega
    ·rw [if_neg b2] at hg
     exact h _ _ ha hb hg
theorem un_up {l : List Ev} {i : Nat} (hi : i < l.length) (h : Un l) : Un (upL l i) := by
 induction i using Nat.strongRecOn generalizing l with
 | _ i ih =>
  by_cases hc : 0 < i ∧ (evAt l i).cmp (evAt l ((i - 1) / 2)) < 0
  ·rw [upL_go hc.1 hc.2]
   exact ih _ (by omega) (by rw [swp_length]; omega) (un_swp hi (by omega) h)
  ·rw [upL_stop hc]; exact h
theorem un_down {l : List Ev} {n i : Nat} (hn : n ≤ l.length) (hi : i < n) (h : Un l) : Un (downL l n i) := by
 generalize hm : n - i = m
 induction m using Nat.strongRecOn generalizing l i with
 | _ m ih =>
  by_cases hk : pickL l n i = i
  ·rw [downL_stop hk]; exact h
  ·have hc := (pickL_cases l n i).resolve_left hk
   rw [downL_go hk]
   exact ih (n - pickL l n i) (by omega) (by rw [swp_length]; exact hn) hc.2 (un_swp (by omega) (by omega) h) rfl
theorem un_snoc {l : List Ev} {e : Ev} (h : Un l) (he : ∀ j, j < l.length → evAt l j ≠ e) : Un (l ++ [e]) := by
 intro a b ha hb hg
 simp at ha hb
 by_cases a1 : a = l.length
 ·by_cases b1 : b = l.length
  ·omega
  ·rw [a1, evAt_last, evAt_left _ _ _ (by omega)] at hg
   exact absurd hg.symm (he b (by omega))
 ·by_cases b1 : b = l.length
  ·rw [b1, evAt_last, evAt_left _ _ _ (by omega)] at hg
   exact absurd hg (he a (by omega))
  ·rw [evAt_left _ _ _ (by omega), evAt_left _ _ _ (by omega)] at hg
   exact h a b (by omega) (by omega) hg
theorem un_push {l : List Ev} {e : Ev} (h : Un l) (he : ∀ j, j < l.length → evAt l j ≠ e) : Un (pushL l e) := un_up (by simp) (un_snoc h he)
theorem un_cut {l : List Ev} {i : Nat} (hi : i < l.length) (h : Un l) : Un (cutL l i) := by
 intro a b ha hb hg
 rw [cutL_length] at ha hb
 rw [cut_at _ _ _ hi ha, cut_at _ _ _ hi hb] at hg
 by_cases a1 : i = a
 ·rw [if_pos a1] at hg
  by_cases b1 : i = b
  ·omega
  ·rw [if_neg b1] at hg
   have := h _ _ (by omega) (by omega) hg
   omega
 ·rw [if_neg a1] at hg
  by_cases b1 : i = b
  ·rw [if_pos b1] at hg
   have := h _ _ (by omega) (by omega) hg
   omega
  ·rw [if_neg b1] at hg
   exact h _ _ (by omega) (by omega) hg
theorem un_take {l : List Ev} {i : Nat} (hi : i < l.length) (h : Un l) : Un (takeL l i) := by
 unfold takeL
 by_cases h1 : i < l.length - 1
 ·rw [if_pos h1]
  exact un_up (by rw [downL_length, cutL_length]; exact h1) (un_down (by rw [cutL_length]; omega) h1 (un_cut hi h))
 ·rw [if_neg h1]; exact un_cut hi h
theorem inU_cut {e : Ev} {l : List Ev} {i : Nat} (hi : i < l.length) (h : Un l) : InL e (cutL l i) ↔ InL e l ∧ e ≠ evAt l i := by
 constructor
 ·rintro ⟨j, hj, he⟩
  rw [cutL_length] at hj
  rw [cut_at _ _ _ hi hj] at he
  by_cases h1 : i = j
  ·rw [if_pos h1] at he
   exact ⟨⟨_, by omega, he⟩, fun hh => by
    have := h (l.length - 1) i (by omega) hi (by rw [he, hh])
    omega⟩
  ·rw [if_neg h1] at he
   exact ⟨⟨j, by omega, he⟩, fun hh => h1 (h i j hi (by omega) (by rw [he, hh]))⟩
 ·rintro ⟨⟨j, hj, he⟩, hne⟩
  have hji : i ≠ j := fun hh => hne (by rw [hh, he])
  by_cases h1 : j = l.length - 1
  ·exact ⟨i, by rw [cutL_length]; omega, by rw [cut_at _ _ _ hi (by omega), if_pos rfl, ← h1, he]⟩
  ·exact ⟨j, by rw [cutL_length]; omega, by rw [cut_at _ _ _ hi (by omega), if_neg hji, he]⟩
theorem inU_take {e : Ev} {l : List Ev} {i : Nat} (hi : i < l.length) (h : Un l) : InL e (takeL l i) ↔ InL e l ∧ e ≠ evAt l i := by
 rw [← inU_cut hi h]
 unfold takeL
 by_cases h1 : i < l.length - 1
 ·rw [if_pos h1, inL_kept, kept_upL (by rw [downL_length, cutL_length]; exact h1), kept_downL (by rw [cutL_length]; omega) h1, ← inL_kept]
 ·rw [if_neg h1]
theorem cmp_tell {a b : Ev} (h : a.s ≠ b.s ∨ a.q ≠ b.q) : a.cmp b < 0 ∨ b.cmp a < 0 := by
 unfold Ev.cmp
 rw [cmpI_lt, cmpI_lt]
 omega
structure Alike (h t : List Ev) : Prop where
 w : HeapW h
 u : Un h
 o : Ord1 t
 i : ∀ e, InL e h ↔ InL e t
theorem alike_nil : Alike [] [] := ⟨fun i _ h => by simp at h, fun i j h => by simp at h, fun i j _ h => by simp at h, fun _ => Iff.rfl⟩
theorem Alike.none {h t : List Ev} (a : Alike h t) : 0 < h.length ↔ 0 < t.length := by
 constructor
 ·intro h0
  obtain ⟨j, hj, _⟩ := (a.i (evAt h 0)).1 ⟨0, h0, rfl⟩
  omega
 ·intro h0
  obtain ⟨j, hj, _⟩ := (a.i (evAt t 0)).2 ⟨0, h0, rfl⟩
  omega
theorem Alike.first {h t : List Ev} (a : Alike h t) (h0 : 0 < h.length) : evAt h 0 = evAt t 0 ∧ Alike (takeL h 0) (t.drop 1) := by
 have t0 := a.none.1 h0
 have he : evAt h 0 = evAt t 0 := by
  obtain ⟨j, hj, hje⟩ := (a.i (evAt h 0)).1 ⟨0, h0, rfl⟩
  obtain ⟨k, hk, hke⟩ := (a.i (evAt t 0)).2 ⟨0, t0, rfl⟩
  by_cases hz : j = 0
  ·rw [← hje, hz]
  ·have h1 := a.o 0 j (by omega) hj
   have h2 := heap_first a.w k hk
   rw [hke, ← hje] at h2
   exact absurd h1 h2
 refine ⟨he, take_heap a.w h0, un_take h0 a.u, fun i j hij hj => ?_, fun e => ?_⟩
 ·rw [evAt_drop, evAt_drop]
  exact a.o _ _ (by omega) (by simp at hj; omega)
 ·rw [inU_take h0 a.u, a.i, he]
  constructor
  ·rintro ⟨⟨j, hj, hje⟩, hne⟩
   have : j ≠ 0 := fun hz => hne (by rw [← hje, hz])
   exact ⟨j - 1, by simp; omega, by rw [evAt_drop, ← hje]; congr 1; omega⟩
  ·rintro ⟨j, hj, hje⟩
   rw [evAt_drop] at hje
   simp at hj
   exact ⟨⟨1 + j, by omega, hje⟩, fun hh => by
    have := a.o 0 (1 + j) (by omega) (by omega)
    rw [hje, hh] at this
    exact cmp_asymm this this⟩
def InsAt (l : List Ev) (e : Ev) (p : Nat) : Prop := p ≤ l.length ∧ (∀ j, j < p → (evAt l j).cmp e < 0) ∧ (p < l.length → ¬ (evAt l p).cmp e < 0)
def insL (l : List Ev) (p : Nat) (e : Ev) : List Ev := l.take p ++ e :: l.drop p
theorem insL_length {l : List Ev} {p : Nat} (hp : p ≤ l.length) (e : Ev) : (insL l p e).length = l.length + 1 := by simp [insL]; omega
theorem insL_at {l : List Ev} {p : Nat} (hp : p ≤ l.length) (e : Ev) (j : Nat) : evAt (insL l p e) j = if j < p then evAt l j else if j = p then e else evAt l (j - 1) := by
 have hl : (l.take p).length = p := by simp; omega
 unfold insL
 by_cases h1 : j < p
 ·rw [if_pos h1, evAt_left _ _ _ (by omega), evAt_take _ _ _ h1]
 ·rw [if_neg h1]
  obtain ⟨d, rfl⟩ : ∃ d, j = p + d := ⟨j - p, by omega⟩
  have := evAt_right (l.take p) (e :: l.drop p) d
  rw [hl] at this
  rw [this]
  cases d with
  | zero => rw [evAt_head, if_pos (by omega)]
  | succ d => rw [evAt_cons, evAt_drop, if_neg (by omega)]; congr 1
theorem Alike.push {h t : List Ev} (a : Alike h t) {e : Ev} {p : Nat} (hp : InsAt t e p) (hne : ∀ x, InL x t → x.s ≠ e.s ∨ x.q ≠ e.q) : Alike (pushL h e) (insL t p e) := by
 have hx : ∀ j, j < h.length → evAt h j ≠ e := fun j hj hh => by
  rcases hne _ ((a.i _).1 ⟨j, hj, rfl⟩) with h1 | h1
  ·exact h1 (by rw [hh])
  ·exact h1 (by rw [hh])
 have hup : ∀ j, p ≤ j → j < t.length → e.cmp (evAt t j) < 0 := fun j hj hl => by
  have h0 : e.cmp (evAt t p) < 0 := (cmp_tell (hne _ ⟨p, by omega, rfl⟩)).resolve_left (hp.2.2 (by omega))
  by_cases hz : j = p
  ·rw [hz]; exact h0
  ·exact cmp_trans h0 (a.o p j (by omega) hl)
 refine ⟨push_heap a.w, un_push a.u hx, fun i j hij hj => ?_, fun x => ?_⟩
 ·rw [insL_length hp.1] at hj
  rw [insL_at hp.1, insL_at hp.1]
  by_cases j1 : j < p
  ·rw [if_pos j1, if_pos (by omega)]
   exact a.o i j hij (by have := hp.1; omega)
  ·rw [if_neg j1]
   by_cases j2 : j = p
   ·rw [if_pos j2, if_pos (by omega)]
    exact hp.2.1 i (by omega)
   ·rw [if_neg j2]
    by_cases i1 : i < p
    ·rw [if_pos i1]
     exact a.o i (j - 1) (by omega) (by omega)
    ·rw [if_neg i1]
     by_cases i2 : i = p
     ·rw [if_pos i2]
      exact hup _ (by omega) (by omega)
     ·rw [if_neg i2]
      exact a.o _ _ (by omega) (by omega)
 ·rw [inL_push, a.i]
  constructor
  ·rintro (⟨j, hj, hje⟩ | rfl)
   ·by_cases h1 : j < p
    ·exact ⟨j, by rw [insL_length hp.1]; omega, by rw [insL_at hp.1, if_pos h1, hje]⟩
    ·exact ⟨j + 1, by rw [insL_length hp.1]; omega, by rw [insL_at hp.1, if_neg (by omega), if_neg (by omega), ← hje]; rfl⟩
   ·exact ⟨p, by rw [insL_length hp.1]; have := hp.1; omega, by rw [insL_at hp.1, if_neg (by omega), if_pos rfl]⟩
  ·rintro ⟨j, hj, hje⟩
   rw [insL_length hp.1] at hj
   rw [insL_at hp.1] at hje
   by_cases h1 : j < p
   ·rw [if_pos h1] at hje
    exact .inl ⟨j, by have := hp.1; omega, hje⟩
   ·rw [if_neg h1] at hje
    by_cases h2 : j = p
    ·rw [if_pos h2] at hje
     exact .inr hje.symm
    ·rw [if_neg h2] at hje
     exact .inl ⟨j - 1, by omega, hje⟩
end Go.Proofs.YtbljfphdghfkfaaGreatDoor

/- The program's effectOf: a part's turn over one event. -/
namespace Go.Proofs.YtbljfphdghfkfaaGreatDoor
open Go.RowKit
structure Fit (m : Md) (c0 c1 c2 c3 : Int) (s : St) (e : Ev) : Prop where
 ok : m.ok = true
 st : s.ok = true
 ev : e.ok = true
 d : e.d < m.n
 k : e.k < (m.h.length : Int)
 vc : ∀ a : Int, -1 ≤ vecAt c0 c1 c2 c3 a ∧ vecAt c0 c1 c2 c3 a ≤ 1
theorem ok_row {m : Md} (h : m.ok = true) {j : Nat} (hj : j < m.h.length) : (hAt m.h j).length ≤ 8 ∧ ∀ i, i < (hAt m.h j).length → (oAt (hAt m.h j) i).ok m.n m.h.length = true := by
 simp only [Md.ok, Bool.and_eq_true] at h
 have h1 := h.1.2
 unfold Md.okH at h1
 rw [List.all_eq_true] at h1
 have h2 := h1 j (by simpa using hj)
 unfold rowB at h2
 simp only [Bool.and_eq_true, decide_eq_true_eq] at h2
 refine ⟨h2.1, fun i hi => ?_⟩
 have h3 := h2.2
 rw [List.all_eq_true] at h3
 exact h3 i (by simpa using hi)
theorem ok_seed {m : Md} (h : m.ok = true) : 0 ≤ m.s ∧ m.s ≤ 65535 ∧ 1 ≤ m.n ∧ m.n ≤ 4 ∧ m.h.length ≤ 4 ∧ 0 ≤ m.z ∧ m.z ≤ 950 := by
 simp only [Md.ok, Bool.and_eq_true, decide_eq_true_eq] at h
 have := h.1.1.1
 unfold Md.hd at this
 omega
theorem ev_nums {e : Ev} (h : e.ok = true) : 0 ≤ e.t ∧ e.t ≤ 1000 ∧ 0 ≤ e.d ∧ e.d ≤ 3 ∧ 0 ≤ e.k ∧ e.k ≤ 3 ∧ 0 ≤ e.v ∧ e.v ≤ 999 := by
 have h' : okB e.t e.s e.q e.d e.k e.v e.g = true := h
 simp [okB] at h'
 omega
theorem st_good {s : St} (h : s.ok = true) : s.r.length = 2 ∧ GoodT (startT s) 0 := by
 simp only [St.ok, decide_eq_true_eq] at h
 exact ⟨h.1, ⟨h.2.1.1, h.2.1.2, h.2.2.1.1, h.2.2.1.2, h.2.2.2.1, by have := h.2.2.2.2.1; show s.q ≤ _; omega, h.2.2.2.2.2.1, by have := h.2.2.2.2.2.2; show s.d ≤ _; omega, by simp [startT], by simp [startT]⟩⟩
theorem efR_turns {w w' : World} {B P R : Nat} {pre : List Value} {T : TypeId} {t : Tn} {k : Int} {g cap : Nat} {us ux : Value} {vs : Array Value} (h : Eff B w P T pre t k g cap us ux) (hR : Bk w R 154 vs) (ht : Turns (fun k => k = R) w w') :
  EfF (fun j => B ≤ j ∧ j < w'.heap.size) w' (.agg #[vReg g cap, .int .i64 t.q, .int .i64 t.d, us, ux, .int .i64 (-1)]) t.ef := by
 have hn : ∀ (T' : TypeId), T' ≠ 154 → ∀ k cur, w.heap[k]? = some (.cells cur T') → ¬ k = R := fun T' hT k cur e1 e2 => by
  have e3 : w.heap[R]? = some (.cells vs 154) := hR
  rw [e2, e3] at e1
  cases e1
  exact hT rfl
 exact ef_of (r := [t.a, t.b]) (own_turns h.r ht (hn _ (by decide))) (own_turns h.s ht (hn _ (by decide))) (own_turns h.x ht (hn _ (by decide)))
set_option maxRecDepth 100000 in
set_option maxHeartbeats 16000000 in
theorem iEff (x y : Value) (m : Md) (c0 c1 c2 c3 : Int) (s : St) (e : Ev) (w : World) (hm : IsM w x m) (hs : IsS w y s) (hf : Fit m c0 c1 c2 c3 s e) :
  Calls Tryz.prog 86 #[x, vec c0 c1 c2 c3, y, .agg #[.int .i64 e.t, .int .i64 e.s, .int .i64 e.q, .int .i64 e.d, .int .i64 e.k, .int .i64 e.v, .int .i64 e.g]] w fun r w' => ∃ u, r = .returned u ∧ Below w.heap.size w w' ∧ EfF (fun k => w.heap.size ≤ k ∧ k < w'.heap.size) w' u (effR m [c0, c1, c2, c3] s e) := by
 obtain ⟨h2, hgt⟩ := st_good hf.st
 obtain ⟨hs0, hs1, hn0, hn1, hh4, _, _⟩ := ok_seed hf.ok
 obtain ⟨ht0, ht1, hd0, hd1, hk0, hk3, hv0, hv1⟩ := ev_nums hf.ev
 obtain ⟨kk, hkk⟩ : ∃ kk : Nat, e.k = (kk : Int) := ⟨e.k.toNat, by omega⟩
 have hkl : kk < m.h.length := by have := hf.k; omega
 obtain ⟨hr8, hrok⟩ := ok_row hf.ok hkl
 have HSS : Hid (IsS w y s) := hs
 obtain ⟨vi, vh, vs, rfl, ⟨ai, ci, rfl, _⟩, ⟨ah, ch, rfl, hh1, hh2, hh3⟩, ⟨ae, ce, rfl, _⟩⟩ := hm
 obtain ⟨bh, offh, rfl, hbh, hch⟩ := hh3.resolve_left (by intro e; rw [e] at hkl; simp at hkl)
 obtain ⟨uh, f0, ⟨a1, cu, rfl, _, _, hu⟩⟩ := hch kk hkl
 obtain ⟨b2, off2, cap2, rfl, hb2, q0, q1⟩ := hs.two h2
 have HRUN : Hid (effR m [c0, c1, c2, c3] s e = resE s (run m.s [c0, c1, c2, c3] e (hAt m.h kk) (hAt m.h kk).length 0 (startT s))) := by unfold effR; rw [hkk]; rfl
 have HVC : Hid (∀ a : Int, -1 ≤ vecAt c0 c1 c2 c3 a ∧ vecAt c0 c1 c2 c3 a ≤ 1) := hf.vc
 generalize effR m [c0, c1, c2, c3] s e = EF at HRUN ⊢
 have HU : Hid (hAt m.h kk = [] ∨ ∃ b off, a1 = some ⟨b, off, none⟩ ∧ OsAt w b off (hAt m.h kk)) := hu
 have HOK : Hid (∀ i, i < (hAt m.h kk).length → (oAt (hAt m.h kk) i).ok m.n m.h.length = true) := hrok
 have HGT : Hid (GoodT (startT s) 0) := hgt
 have hkh : (kk : Int) < (m.h.length : Int) := by omega
 have HKK : Hid (e.k = (kk : Int)) := hkk
 have HF0 : Hid (w.cell? ⟨bh, offh + kk, none⟩ = some (.slice a1 (hAt m.h kk).length cu)) := f0
 clear hu hrok hgt hf hs hh1 hh2 hh3 hch q0 q1 hkk f0
 obtain ⟨W0, hW0⟩ : ∃ W0, ((((((w).alloc (.cells #[.int .i64 m.n, .int .i64 m.s, .slice ai m.i.length ci, .slice (some ⟨bh, offh, none⟩) m.h.length ch, .slice ae m.e.length ce, .int .i64 m.z] 27)).alloc (.cells #[i64 c0, i64 c1, i64 c2, i64 c3] 90)).alloc (.cells #[.slice (some ⟨b2, off2, none⟩) 2 cap2, .int .i64 s.q, .int .i64 s.d] 96)).alloc (.cells #[.int .i64 e.t, .int .i64 e.s, .int .i64 e.q, .int .i64 e.d, .int .i64 e.k, .int .i64 e.v, .int .i64 e.g] 53)).alloc (.cells #[.slice none 0 0, .int .i64 0, .int .i64 0, .slice none 0 0, .slice none 0 0, .int .i64 0] 154)).alloc (.cells #[.int .i64 m.n, .int .i64 m.s, .slice ai m.i.length ci, .slice (some ⟨bh, offh, none⟩) m.h.length ch, .slice ae m.e.length ce, .int .i64 m.z, i64 c0, i64 c1, i64 c2, i64 c3, .int .i64 e.t, .int .i64 e.s, .int .i64 e.q, .int .i64 e.d, .int .i64 e.k, .int .i64 e.v, .int .i64 e.g, .slice none 0 0, .int .i64 0, .int .i64 0, .slice none 0 0, .slice none 0 0, .int .i64 0] 175) = W0 := ⟨_, rfl⟩
 have HM0 : Hid (Bk W0 w.heap.size 27 #[.int .i64 m.n, .int .i64 m.s, .slice ai m.i.length ci, .slice (some ⟨bh, offh, none⟩) m.h.length ch, .slice ae m.e.length ce, .int .i64 m.z]) := by rw [← hW0]; exact (((((Bk.new w _ _).alloc _).alloc _).alloc _).alloc _).alloc _
 have HS0 : Hid (Bk W0 (w.heap.size + 1 + 1) 96 #[.slice (some ⟨b2, off2, none⟩) 2 cap2, .int .i64 s.q, .int .i64 s.d]) := by rw [← hW0]; exact (((Bk.newAt (by simp) _ _).alloc _).alloc _).alloc _
 have HV0 : Hid (Bk W0 (w.heap.size + 1 + 1 + 1) 53 #[.int .i64 e.t, .int .i64 e.s, .int .i64 e.q, .int .i64 e.d, .int .i64 e.k, .int .i64 e.v, .int .i64 e.g]) := by rw [← hW0]; exact ((Bk.newAt (by simp) _ _).alloc _).alloc _
 have HR0 : Hid (Bk W0 (w.heap.size + 1 + 1 + 1 + 1) 154 #[.slice none 0 0, .int .i64 0, .int .i64 0, .slice none 0 0, .slice none 0 0, .int .i64 0]) := by rw [← hW0]; exact (Bk.newAt (by simp) _ _).alloc _
 have HP0 : Hid (Bk W0 (w.heap.size + 1 + 1 + 1 + 1 + 1) 175 ((preT m.n m.s m.z (.slice ai m.i.length ci) (.slice (some ⟨bh, offh, none⟩) m.h.length ch) (.slice ae m.e.length ce) c0 c1 c2 c3 e) ++ [.slice none 0 0, .int .i64 0, .int .i64 0, .slice none 0 0, .slice none 0 0, .int .i64 0] : List Value).toArray) := by rw [← hW0]; exact Bk.newAt (by simp) _ _
 have HB0 : Hid (Below w.heap.size w W0) := by rw [← hW0]; exact ((((((Below.refl _ w).alloc (Nat.le_refl _) _).alloc (by first | (simp; done) | (simp; omega)) _).alloc (by first | (simp; done) | (simp; omega)) _).alloc (by first | (simp; done) | (simp; omega)) _).alloc (by first | (simp; done) | (simp; omega)) _).alloc (by first | (simp; done) | (simp; omega)) _
 have hPl := HP0.out.lt
 have k0 := HS0.out.cell (i := 0) rfl
 have k1 := HS0.out.cell (i := 1) rfl
 have k2 := HS0.out.cell (i := 2) rfl
 go_enter Tryz.func86, Tryz.ntmps86
 go_wp2_with fail
 clear hW0 k0 k1 k2
 refine (iCopy _ s _ (HSS.out.below HB0.out) h2).mono ?_
 rintro r w1 ⟨g, c, rfl, hown, hb1⟩
 have hz1 := HB0.out.size
 have hz2 := hb1.size
 have HB1 : Hid (Below w.heap.size w w1) := HB0.out.trans (hb1.mono hz1)
 have HP1 := HP0.out.below hb1
 have hown' := own_mono hown hz1
 obtain ⟨X1, hX1⟩ : ∃ X1, put6o w1 (w.heap.size + 1 + 1 + 1 + 1 + 1) 17 (vReg g c) (.int .i64 s.q) (.int .i64 s.d) (.slice none 0 0) (.slice none 0 0) (.int .i64 (-1)) = X1 := ⟨_, rfl⟩
 have hT1 : Turns (fun k => k = (w.heap.size + 1 + 1 + 1 + 1 + 1)) w1 X1 := by rw [← hX1]; exact put6o_turns _ _ _ _ _ _ _ _ _
 have HP2 : Bk X1 (w.heap.size + 1 + 1 + 1 + 1 + 1) 175 ((preT m.n m.s m.z (.slice ai m.i.length ci) (.slice (some ⟨bh, offh, none⟩) m.h.length ch) (.slice ae m.e.length ce) c0 c1 c2 c3 e) ++ [vReg g c, .int .i64 s.q, .int .i64 s.d, .slice none 0 0, .slice none 0 0, .int .i64 (-1)] : List Value).toArray := by rw [← hX1]; exact HP1.put6o _ _ _ _ _ _
 have HE1 : Hid (Eff w.heap.size X1 (w.heap.size + 1 + 1 + 1 + 1 + 1) 175 (preT m.n m.s m.z (.slice ai m.i.length ci) (.slice (some ⟨bh, offh, none⟩) m.h.length ch) (.slice ae m.e.length ce) c0 c1 c2 c3 e) (startT s) (-1) g c (.slice none 0 0) (.slice none 0 0)) :=
  ⟨by omega, by decide, HP2, own_turns hown' hT1 (fun k cur e1 e2 => by
   have e3 : w1.heap[(w.heap.size + 1 + 1 + 1 + 1 + 1)]? = _ := HP1
   rw [show k = (w.heap.size + 1 + 1 + 1 + 1 + 1) from e2, e3] at e1
   cases e1), World.ownsRow_nil _ _ _ _, World.ownsRow_nil _ _ _ _⟩
 have HM1 : Hid (Bk X1 w.heap.size 27 #[.int .i64 m.n, .int .i64 m.s, .slice ai m.i.length ci, .slice (some ⟨bh, offh, none⟩) m.h.length ch, .slice ae m.e.length ce, .int .i64 m.z]) := (HM0.out.below hb1).turns hT1 (fun e => by omega)
 have HV1 : Hid (Bk X1 (w.heap.size + 1 + 1 + 1) 53 #[.int .i64 e.t, .int .i64 e.s, .int .i64 e.q, .int .i64 e.d, .int .i64 e.k, .int .i64 e.v, .int .i64 e.g]) := (HV0.out.below hb1).turns hT1 (fun e => by omega)
 have HS1 : Hid (Bk X1 (w.heap.size + 1 + 1) 96 #[.slice (some ⟨b2, off2, none⟩) 2 cap2, .int .i64 s.q, .int .i64 s.d]) := (HS0.out.below hb1).turns hT1 (fun e => by omega)
 have HR1 : Hid (Bk X1 (w.heap.size + 1 + 1 + 1 + 1) 154 #[.slice none 0 0, .int .i64 0, .int .i64 0, .slice none 0 0, .slice none 0 0, .int .i64 0]) := (HR0.out.below hb1).turns hT1 (fun e => by omega)
 have HB2 : Hid (Below w.heap.size w X1) := HB1.out.trans (hT1.to_below (fun k e => by omega) HB1.out.size)
 have hX1s := hT1.size
 have a17 : w1.cell? ⟨(w.heap.size + 1 + 1 + 1 + 1 + 1), 17, none⟩ = some (.slice none 0 0) := HP1.cell (i := 17) rfl
 have a18 : w1.cell? ⟨(w.heap.size + 1 + 1 + 1 + 1 + 1), 18, none⟩ = some (.int .i64 0) := HP1.cell (i := 18) rfl
 have a19 : w1.cell? ⟨(w.heap.size + 1 + 1 + 1 + 1 + 1), 19, none⟩ = some (.int .i64 0) := HP1.cell (i := 19) rfl
 have a20 : w1.cell? ⟨(w.heap.size + 1 + 1 + 1 + 1 + 1), 20, none⟩ = some (.slice none 0 0) := HP1.cell (i := 20) rfl
 have a21 : w1.cell? ⟨(w.heap.size + 1 + 1 + 1 + 1 + 1), 21, none⟩ = some (.slice none 0 0) := HP1.cell (i := 21) rfl
 have a22 : w1.cell? ⟨(w.heap.size + 1 + 1 + 1 + 1 + 1), 22, none⟩ = some (.int .i64 0) := HP1.cell (i := 22) rfl
 have af := HP1.free
 have p3 : X1.cell? ⟨w.heap.size, 3, none⟩ = some (.slice (some ⟨bh, offh, none⟩) m.h.length ch) := HM1.out.cell (i := 3) rfl
 have v4 : X1.cell? ⟨w.heap.size + 1 + 1 + 1, 4, none⟩ = some (.int .i64 (kk : Int)) := by rw [← HKK.out]; exact HV1.out.cell (i := 4) rfl
 have f1 : X1.cell? ⟨bh, offh + kk, none⟩ = some (.slice a1 (hAt m.h kk).length cu) := (HB2.out.cell (p := ⟨bh, offh + kk, none⟩) hbh).trans HF0.out
 clear hown hb1 HP1 HP2 hown' hT1 HM0 HV0 HS0 HR0 HP0
 go_wp2_with fail
 clear a17 a18 a19 a20 a21 a22 af p3 v4 f1 hX1
 refine (do_any w.heap.size (w.heap.size + 1 + 1 + 1 + 1 + 1) m.n m.s m.z _ _ _ c0 c1 c2 c3 e (startT s) g c _ _ (hAt m.h kk) _ m.n m.h.length X1 hs0 hs1 hd0 hd1 hv0 hv1 ht0 ht1 HVC.out hr8 HOK.out HGT.out ⟨a1, cu, rfl, HU.out.imp id (fun ⟨b, off, e1, h1⟩ => ⟨b, off, e1, h1.1, h1.below HB2.out h1.1⟩)⟩ HE1.out).mono ?_
 rintro r w2 ⟨rfl, hB3, hK3, t', k', g', cap', us', ux', hE3, hg3, hres⟩
 have hs3 := hB3.size
 have HB3 : Hid (Below w.heap.size w w2) := HB2.out.trans hB3
 have HR3 : Hid (Bk w2 (w.heap.size + 1 + 1 + 1 + 1) 154 #[.slice none 0 0, .int .i64 0, .int .i64 0, .slice none 0 0, .slice none 0 0, .int .i64 0]) := hK3 _ _ _ (by decide) HR1.out
 have HS3 : Hid (Bk w2 (w.heap.size + 1 + 1) 96 #[.slice (some ⟨b2, off2, none⟩) 2 cap2, .int .i64 s.q, .int .i64 s.d]) := hK3 _ _ _ (by decide) HS1.out
 have HE3 : Hid (Eff w.heap.size w2 (w.heap.size + 1 + 1 + 1 + 1 + 1) 175 (preT m.n m.s m.z (.slice ai m.i.length ci) (.slice (some ⟨bh, offh, none⟩) m.h.length ch) (.slice ae m.e.length ce) c0 c1 c2 c3 e) t' k' g' cap' us' ux') := hE3
 have HSS3 : Hid (IsS w2 (.agg #[.slice (some ⟨b2, off2, none⟩) 2 cap2, .int .i64 s.q, .int .i64 s.d]) s) := HSS.out.below HB3.out
 have HRES : Hid ((run m.s [c0, c1, c2, c3] e (hAt m.h kk) (hAt m.h kk).length 0 (startT s) = .done t' ∧ k' = -1) ∨ (run m.s [c0, c1, c2, c3] e (hAt m.h kk) (hAt m.h kk).length 0 (startT s) = .asks k' ∧ 0 ≤ k' ∧ k' ≤ 3)) := hres
 have q22 : w2.cell? ⟨(w.heap.size + 1 + 1 + 1 + 1 + 1), 22, none⟩ = some (.int .i64 k') := HE3.out.blk.cell (i := 22) rfl
 obtain ⟨us1, us2, hus⟩ := own_slice HE3.out.s
 obtain ⟨ux1, ux2, hux⟩ := own_slice HE3.out.x
 subst hus hux
 clear hB3 hK3 hE3 hg3 hres HE1 HB2 HM1 HV1 HS1 HR1 HB1 HB0 HSS HU HOK HGT HVC
 by_cases hk : k' = -1
 ·obtain ⟨hrun, _⟩ := HRES.out.resolve_right (fun h => by omega)
  have HEF : Hid (EF = t'.ef) := HRUN.out.trans (by rw [hrun]; rfl)
  subst hk
  have q17 : w2.cell? ⟨(w.heap.size + 1 + 1 + 1 + 1 + 1), 17, none⟩ = some (vReg g' cap') := HE3.out.blk.cell (i := 17) rfl
  have q18 : w2.cell? ⟨(w.heap.size + 1 + 1 + 1 + 1 + 1), 18, none⟩ = some (.int .i64 t'.q) := HE3.out.blk.cell (i := 18) rfl
  have q19 : w2.cell? ⟨(w.heap.size + 1 + 1 + 1 + 1 + 1), 19, none⟩ = some (.int .i64 t'.d) := HE3.out.blk.cell (i := 19) rfl
  have q20 : w2.cell? ⟨(w.heap.size + 1 + 1 + 1 + 1 + 1), 20, none⟩ = some (.slice us1 t'.s.length us2) := HE3.out.blk.cell (i := 20) rfl
  have q21 : w2.cell? ⟨(w.heap.size + 1 + 1 + 1 + 1 + 1), 21, none⟩ = some (.slice ux1 t'.x.length ux2) := HE3.out.blk.cell (i := 21) rfl
  have r0 := HR3.out.cell (i := 0) rfl
  have r1 := HR3.out.cell (i := 1) rfl
  have r2 := HR3.out.cell (i := 2) rfl
  have r3 := HR3.out.cell (i := 3) rfl
  have r4 := HR3.out.cell (i := 4) rfl
  have r5 := HR3.out.cell (i := 5) rfl
  have rf := HR3.out.free
  clear hrun
  go_wp2
  clear r0 r1 r2 r3 r4 r5 rf q17 q18 q19 q20 q21 q22
  obtain ⟨X5, hX5⟩ : ∃ X5, put6 w2 (w.heap.size + 1 + 1 + 1 + 1) (vReg g' cap') (.int .i64 t'.q) (.int .i64 t'.d) (.slice us1 t'.s.length us2) (.slice ux1 t'.x.length ux2) (.int .i64 (-1)) = X5 := ⟨_, rfl⟩
  have hR := HR3.out.put6 (vReg g' cap') (.int .i64 t'.q) (.int .i64 t'.d) (.slice us1 t'.s.length us2) (.slice ux1 t'.x.length ux2) (.int .i64 (-1))
  have ht := put6_turns w2 (w.heap.size + 1 + 1 + 1 + 1) (vReg g' cap') (.int .i64 t'.q) (.int .i64 t'.d) (.slice us1 t'.s.length us2) (.slice ux1 t'.x.length ux2) (.int .i64 (-1))
  rw [hX5] at hR ht
  unfold put6 at hX5
  rw [hX5]
  have t0 := hR.cell (i := 0) rfl
  have t1 := hR.cell (i := 1) rfl
  have t2 := hR.cell (i := 2) rfl
  have t3 := hR.cell (i := 3) rfl
  have t4 := hR.cell (i := 4) rfl
  have t5 := hR.cell (i := 5) rfl
  have hs5 := ht.size
  refine bodyPost_ret (v := .agg #[vReg g' cap', .int .i64 t'.q, .int .i64 t'.d, .slice us1 t'.s.length us2, .slice ux1 t'.x.length ux2, .int .i64 (-1)]) (by simp [results, Tryz.results86, go_sem, t0, t1, t2, t3, t4, t5]) rfl ⟨_, rfl, HB3.out.trans (ht.to_below (fun k e => by omega) HB3.out.size), ?_⟩
  rw [HEF.out]
  exact efR_turns HE3.out HR3.out ht
 ·obtain ⟨hrun, hk0, hk3⟩ := HRES.out.resolve_left (fun h => hk h.2)
  have HEF : Hid (EF = resE s (.asks k')) := HRUN.out.trans (by rw [hrun])
  clear hrun
  have HQ0 : Hid (w2.drew.cell? ⟨w.heap.size + 1 + 1, 0, none⟩ = some (.slice (some ⟨b2, off2, none⟩) 2 cap2) ∧ w2.drew.cell? ⟨w.heap.size + 1 + 1, 1, none⟩ = some (.int .i64 s.q) ∧ w2.drew.cell? ⟨w.heap.size + 1 + 1, 2, none⟩ = some (.int .i64 s.d) ∧ w2.drew.cell? ⟨(w.heap.size + 1 + 1 + 1 + 1 + 1), 22, none⟩ = some (.int .i64 k')) := ⟨(HS3.out.drew).cell (i := 0) rfl, (HS3.out.drew).cell (i := 1) rfl, (HS3.out.drew).cell (i := 2) rfl, (HE3.out.drew.blk).cell (i := 22) rfl⟩
  go_wp2
  clear q22
  go_region_held3 (fun W => W.cell? ⟨w.heap.size + 1 + 1, 0, none⟩ = some (.slice (some ⟨b2, off2, none⟩) 2 cap2) ∧ W.cell? ⟨w.heap.size + 1 + 1, 1, none⟩ = some (.int .i64 s.q) ∧ W.cell? ⟨w.heap.size + 1 + 1, 2, none⟩ = some (.int .i64 s.d) ∧ W.cell? ⟨(w.heap.size + 1 + 1 + 1 + 1 + 1), 22, none⟩ = some (.int .i64 k')) (first | with_reducible exact HQ0.out | with_reducible exact HQ1.out | with_reducible exact HQ2.out)
   (first | (go_at_call 98; refine (iCopy _ s _ (HSS3.out.below ((Below.refl _ w2).drew)) h2).mono ?_; rintro r w4 ⟨gc, cc, rfl, hown, hb4⟩; have hb5 : Below w2.heap.size w2 w4 := (Below.refl _ w2).drew.trans hb4; have HB4 : Hid (Below w.heap.size w w4) := HB3.out.trans (hb5.mono HB3.out.size); have hS4 := HS3.out.below hb5; have hP4 := HE3.out.blk.below hb5; have hR4 := HR3.out.below hb5; have HQ1 : Hid (w4.cell? ⟨w.heap.size + 1 + 1, 0, none⟩ = some (.slice (some ⟨b2, off2, none⟩) 2 cap2) ∧ w4.cell? ⟨w.heap.size + 1 + 1, 1, none⟩ = some (.int .i64 s.q) ∧ w4.cell? ⟨w.heap.size + 1 + 1, 2, none⟩ = some (.int .i64 s.d) ∧ w4.cell? ⟨(w.heap.size + 1 + 1 + 1 + 1 + 1), 22, none⟩ = some (.int .i64 k')) := ⟨(hS4).cell (i := 0) rfl, (hS4).cell (i := 1) rfl, (hS4).cell (i := 2) rfl, (hP4).cell (i := 22) rfl⟩; have htt := put6_turns w4 (w.heap.size + 1 + 1 + 1 + 1) (vReg gc cc) (.int .i64 s.q) (.int .i64 s.d) (.slice none 0 0) (.slice none 0 0) (.int .i64 k'); have HQ2 : Hid ((put6 w4 (w.heap.size + 1 + 1 + 1 + 1) (vReg gc cc) (.int .i64 s.q) (.int .i64 s.d) (.slice none 0 0) (.slice none 0 0) (.int .i64 k')).cell? ⟨w.heap.size + 1 + 1, 0, none⟩ = some (.slice (some ⟨b2, off2, none⟩) 2 cap2) ∧ (put6 w4 (w.heap.size + 1 + 1 + 1 + 1) (vReg gc cc) (.int .i64 s.q) (.int .i64 s.d) (.slice none 0 0) (.slice none 0 0) (.int .i64 k')).cell? ⟨w.heap.size + 1 + 1, 1, none⟩ = some (.int .i64 s.q) ∧ (put6 w4 (w.heap.size + 1 + 1 + 1 + 1) (vReg gc cc) (.int .i64 s.q) (.int .i64 s.d) (.slice none 0 0) (.slice none 0 0) (.int .i64 k')).cell? ⟨w.heap.size + 1 + 1, 2, none⟩ = some (.int .i64 s.d) ∧ (put6 w4 (w.heap.size + 1 + 1 + 1 + 1) (vReg gc cc) (.int .i64 s.q) (.int .i64 s.d) (.slice none 0 0) (.slice none 0 0) (.int .i64 k')).cell? ⟨(w.heap.size + 1 + 1 + 1 + 1 + 1), 22, none⟩ = some (.int .i64 k')) := ⟨(hS4.turns htt (fun e => by omega)).cell (i := 0) rfl, (hS4.turns htt (fun e => by omega)).cell (i := 1) rfl, (hS4.turns htt (fun e => by omega)).cell (i := 2) rfl, (hP4.turns htt (fun e => by omega)).cell (i := 22) rfl⟩; have HR4 : Hid (Bk w4 (w.heap.size + 1 + 1 + 1 + 1) 154 #[.slice none 0 0, .int .i64 0, .int .i64 0, .slice none 0 0, .slice none 0 0, .int .i64 0]) := hR4; have HO4 : Hid (w4.ownsRow w.heap.size 3 1 (vReg gc cc) 2 [.int .i64 (intAt s.r 0), .int .i64 (intAt s.r 1)]) := own_mono hown HB3.out.size; have r0 := hR4.cell (i := 0) rfl; have r1 := hR4.cell (i := 1) rfl; have r2 := hR4.cell (i := 2) rfl; have r3 := hR4.cell (i := 3) rfl; have r4 := hR4.cell (i := 4) rfl; have r5 := hR4.cell (i := 5) rfl; have rf := hR4.free; clear hown hb4 hb5 hS4 hP4 hR4 htt))
  clear r0 r1 r2 r3 r4 r5 rf HQ0 HQ1 HQ2
  obtain ⟨X5, hX5⟩ : ∃ X5, put6 w4 (w.heap.size + 1 + 1 + 1 + 1) (vReg gc cc) (.int .i64 s.q) (.int .i64 s.d) (.slice none 0 0) (.slice none 0 0) (.int .i64 k') = X5 := ⟨_, rfl⟩
  have hR := HR4.out.put6 (vReg gc cc) (.int .i64 s.q) (.int .i64 s.d) (.slice none 0 0) (.slice none 0 0) (.int .i64 k')
  have ht := put6_turns w4 (w.heap.size + 1 + 1 + 1 + 1) (vReg gc cc) (.int .i64 s.q) (.int .i64 s.d) (.slice none 0 0) (.slice none 0 0) (.int .i64 k')
  rw [hX5] at hR ht
  unfold put6 at hX5
  rw [hX5]
  have t0 := hR.cell (i := 0) rfl
  have t1 := hR.cell (i := 1) rfl
  have t2 := hR.cell (i := 2) rfl
  have t3 := hR.cell (i := 3) rfl
  have t4 := hR.cell (i := 4) rfl
  have t5 := hR.cell (i := 5) rfl
  have hs5 := ht.size
  go_wp2
  refine bodyPost_ret (v := .agg #[vReg gc cc, .int .i64 s.q, .int .i64 s.d, .slice none 0 0, .slice none 0 0, .int .i64 k']) (by simp [results, Tryz.results86, go_sem, t0, t1, t2, t3, t4, t5]) rfl ⟨_, rfl, HB4.out.trans (ht.to_below (fun k e => by omega) HB4.out.size), ?_⟩
  rw [HEF.out]
  have hn : ∀ (T' : TypeId), T' ≠ 154 → ∀ k cur, w4.heap[k]? = some (.cells cur T') → ¬ k = (w.heap.size + 1 + 1 + 1 + 1) := fun T' hT k cur e1 e2 => by
   have e3 : w4.heap[(w.heap.size + 1 + 1 + 1 + 1)]? = some (.cells #[.slice none 0 0, .int .i64 0, .int .i64 0, .slice none 0 0, .slice none 0 0, .int .i64 0] 154) := HR4.out
   rw [e2, e3] at e1
   cases e1
   exact hT rfl
  exact ef_of (r := [intAt s.r 0, intAt s.r 1]) (s := []) (x := []) (own_turns HO4.out ht (hn _ (by decide))) (World.ownsRow_nil _ _ _ _) (World.ownsRow_nil _ _ _ _)
end Go.Proofs.YtbljfphdghfkfaaGreatDoor

/- What a part at work has sent, told and drawn, as plain values. -/
namespace Go.Proofs.YtbljfphdghfkfaaGreatDoor
open Go.RowKit
structure Sent (m : Md) (e : Ev) (q : Int) (x : Ev) : Prop where
 s : x.s = e.d
 q : x.q = q
 g : x.g = 0
 d0 : 0 ≤ x.d
 d1 : x.d < m.n
 k0 : 0 ≤ x.k
 k1 : x.k < (m.h.length : Int)
 v0 : 0 ≤ x.v
 v1 : x.v ≤ 999
 t0 : e.t + 1 ≤ x.t
 t1 : x.t ≤ e.t + 50
structure Went (m : Md) (e : Ev) (q0 d0 : Int) (t : Tn) (c : Nat) : Prop where
 a0 : 0 ≤ t.a
 a1 : t.a ≤ 999
 b0 : 0 ≤ t.b
 b1 : t.b ≤ 999
 q : t.q = q0 + (t.s.length : Int)
 e0 : d0 ≤ t.d
 e1 : t.d ≤ d0 + c
 s1 : t.s.length ≤ c
 x1 : t.x.length ≤ c
 s : ∀ j, j < t.s.length → Sent m e (q0 + (j : Int)) (evAt t.s j)
theorem Went.more {m : Md} {e : Ev} {q0 d0 : Int} {t : Tn} {c c' : Nat} (h : Went m e q0 d0 t c) (hc : c ≤ c') : Went m e q0 d0 t c' :=
 ⟨h.a0, h.a1, h.b0, h.b1, h.q, h.e0, by have := h.e1; omega, by have := h.s1; omega, by have := h.x1; omega, h.s⟩
theorem Went.put {m : Md} {e : Ev} {q0 d0 : Int} {t : Tn} {c : Nat} (h : Went m e q0 d0 t c) (r z : Int) (h0 : 0 ≤ z) (h1 : z ≤ 999) : Went m e q0 d0 (t.put r z) c := by
 unfold Tn.put
 split
 ·exact ⟨h0, h1, h.b0, h.b1, h.q, h.e0, h.e1, h.s1, h.x1, h.s⟩
 ·exact ⟨h.a0, h.a1, h0, h1, h.q, h.e0, h.e1, h.s1, h.x1, h.s⟩
theorem Went.step {m : Md} {e : Ev} {q0 d0 sd : Int} {v : List Int} {o : O} {t : Tn} {c : Nat} (h : Went m e q0 d0 t c) (ho : o.ok m.n m.h.length = true) (hv : o.c = 4 → 0 ≤ intAt v o.a.toNat ∧ intAt v o.a.toNat ≤ 1) : Went m e q0 d0 (stepO sd v e o t) (c + 1) := by
 have hm := h.more (Nat.le_succ c)
 have hok : okO m.n m.h.length o.c o.a o.b o.k = true := ho
 simp only [okO, decide_eq_true_eq] at hok
 unfold stepO
 split
 ·exact hm.put _ _ (by omega) (by omega)
 ·split
  ·exact hm.put _ _ (by omega) (by omega)
  ·split
   ·rename_i h2
    have hs : 0 ≤ o.a ∧ o.a < m.n ∧ 1 ≤ o.b ∧ o.b ≤ 50 ∧ 0 ≤ o.k ∧ o.k < (m.h.length : Int) := by omega
    refine ⟨h.a0, h.a1, h.b0, h.b1, ?_, hm.e0, hm.e1, by have := h.s1; simp; omega, hm.x1, fun j hj => ?_⟩
    ·have := h.q
     show t.q + 1 = q0 + ((t.s ++ [sentE e o t]).length : Int)
     simp
     omega
    ·have hj' : j < t.s.length + 1 := by simpa using hj
     show Sent m e (q0 + (j : Int)) (evAt (t.s ++ [sentE e o t]) j)
     by_cases hjl : j < t.s.length
     ·rw [evAt_left _ _ _ hjl]; exact h.s j hjl
     ·have hje : j = t.s.length := by omega
      subst hje
      rw [evAt_last]
      exact ⟨rfl, h.q, rfl, hs.1, hs.2.1, hs.2.2.2.2.1, hs.2.2.2.2.2, h.a0, h.a1, by show e.t + 1 ≤ e.t + o.b; omega, by show e.t + o.b ≤ e.t + 50; omega⟩
   ·split
    ·rename_i h6
     have hb : 1 ≤ o.b ∧ o.b ≤ 999 := by omega
     have hp := h.put o.a (randI sd e.d t.d % o.b) (Int.emod_nonneg _ (by omega)) (by have := Int.emod_lt_of_pos (randI sd e.d t.d) (show 0 < o.b by omega); omega)
     exact ⟨hp.a0, hp.a1, hp.b0, hp.b1, hp.q, by have := h.e0; show d0 ≤ t.d + 1; omega, by have := h.e1; show t.d + 1 ≤ d0 + ((c + 1 : Nat) : Int); omega, (hp.more (Nat.le_succ c)).s1, (hp.more (Nat.le_succ c)).x1, hp.s⟩
    ·split
     ·rename_i h4
      have := hv h4
      exact hm.put _ _ this.1 (by omega)
     ·split
      ·exact ⟨h.a0, h.a1, h.b0, h.b1, h.q, hm.e0, hm.e1, hm.s1, by have := h.x1; simp; omega, h.s⟩
      ·exact hm
def Ends (m : Md) (e : Ev) (q0 d0 : Int) (n : Nat) : Res → Prop
 | .asks k => 0 ≤ k ∧ k ≤ 3
 | .done t => Went m e q0 d0 t n
theorem run_ends {m : Md} {e : Ev} {q0 d0 sd : Int} {v : List Int} {l : List O} (hl : ∀ j, j < l.length → (oAt l j).ok m.n m.h.length = true) (hv : ∀ a : Nat, -1 ≤ intAt v a ∧ intAt v a ≤ 1) :
  ∀ (f i c : Nat) (t : Tn), Went m e q0 d0 t c → c ≤ i → c ≤ l.length → Ends m e q0 d0 l.length (run sd v e l f i t)
 | 0, _, _, _, h, _, hc => h.more hc
 | f + 1, i, c, t, h, hi, hc => by
  unfold run
  by_cases h1 : i < l.length
  ·rw [if_pos h1]
   by_cases h2 : waitsO v (oAt l i)
   ·rw [if_pos h2]
    have hok : okO m.n m.h.length (oAt l i).c (oAt l i).a (oAt l i).b (oAt l i).k = true := hl i h1
    simp only [okO, decide_eq_true_eq] at hok
    have := h2.1
    show 0 ≤ (oAt l i).a ∧ (oAt l i).a ≤ 3
    omega
   ·rw [if_neg h2]
    refine run_ends hl hv f _ (c + 1) _ (h.step (hl i h1) fun h4 => ⟨?_, (hv _).2⟩) (by omega) (by omega)
    by_cases hlt : intAt v (oAt l i).a.toNat < 0
    ·exact absurd ⟨h4, hlt⟩ h2
    ·omega
  ·rw [if_neg h1]; exact h.more hc
theorem start_went {m : Md} {e : Ev} {s : St} (hs : s.ok = true) : Went m e s.q s.d (startT s) 0 := by
 simp only [St.ok, decide_eq_true_eq] at hs
 obtain ⟨_, ⟨h1, h2⟩, ⟨h3, h4⟩, _⟩ := hs
 exact ⟨h1, h2, h3, h4, by simp [startT], by show s.d ≤ s.d; omega, by show s.d ≤ s.d + ((0 : Nat) : Int); simp, by simp [startT], by simp [startT], fun j hj => by simp [startT] at hj⟩
theorem vec_int (c0 c1 c2 c3 : Int) (h : ∀ a : Int, -1 ≤ vecAt c0 c1 c2 c3 a ∧ vecAt c0 c1 c2 c3 a ≤ 1) (a : Nat) : -1 ≤ intAt [c0, c1, c2, c3] a ∧ intAt [c0, c1, c2, c3] a ≤ 1 := by
 have h0 := h 0
 have h1 := h 1
 have h2 := h 2
 have h3 := h 3
 simp [vecAt] at h0 h1 h2 h3
 match a with
 | 0 => simpa [intAt] using h0
 | 1 => simpa [intAt] using h1
 | 2 => simpa [intAt] using h2
 | 3 => simpa [intAt] using h3
 | _ + 4 => simp [intAt]
theorem ok_ops {m : Md} (h : m.ok = true) {j : Nat} (hj : j < m.h.length) : (hAt m.h j).length ≤ 8 ∧ ∀ q, q < (hAt m.h j).length → (oAt (hAt m.h j) q).ok m.n m.h.length = true := by
 simp only [Md.ok, Bool.and_eq_true, Md.okH, List.all_eq_true] at h
 have h1 := h.1.2 j (by simpa using hj)
 simp only [rowB, Bool.and_eq_true, decide_eq_true_eq, List.all_eq_true] at h1
 exact ⟨h1.1, fun q hq => h1.2 q (by simpa using hq)⟩
theorem eff_ends {m : Md} {c0 c1 c2 c3 : Int} {s : St} {e : Ev} (hf : Fit m c0 c1 c2 c3 s e) :
  (∃ k, 0 ≤ k ∧ k ≤ 3 ∧ (effR m [c0, c1, c2, c3] s e).k = k) ∨ ∃ t, effR m [c0, c1, c2, c3] s e = t.ef ∧ Went m e s.q s.d t 8 := by
 have hev := hf.ev
 simp only [Ev.ok, okB, decide_eq_true_eq] at hev
 have hk := hf.k
 have hkl : e.k.toNat < m.h.length := by omega
 obtain ⟨h8, hops⟩ := ok_ops hf.ok hkl
 have h := run_ends (sd := m.s) (v := [c0, c1, c2, c3]) hops (vec_int c0 c1 c2 c3 hf.vc) (hAt m.h e.k.toNat).length 0 0 (startT s) (start_went (m := m) (e := e) hf.st) (Nat.le_refl _) (Nat.zero_le _)
 unfold effR
 generalize run m.s [c0, c1, c2, c3] e (hAt m.h e.k.toNat) (hAt m.h e.k.toNat).length 0 (startT s) = R at h ⊢
 cases R with
 | asks k => exact .inl ⟨k, h.1, h.2, rfl⟩
 | done t => exact .inr ⟨t, rfl, Went.more h h8⟩
end Go.Proofs.YtbljfphdghfkfaaGreatDoor

/- Courses as plain values: one event behind the other, what is to do as a heap or in order. -/
namespace Go.Proofs.YtbljfphdghfkfaaGreatDoor
open Go.RowKit
def Ev.bare (e : Ev) : Ev := ⟨e.t, e.s, e.q, e.d, e.k, e.v, 0⟩
def stAt (l : List St) (i : Nat) : St := l.getD i ⟨[], 0, 0⟩
theorem stAt_set (l : List St) (i j : Nat) (s : St) (h : i < l.length) : stAt (l.set i s) j = if i = j then s else stAt l j := by
 unfold stAt
 rw [List.getD_eq_getElem?_getD, List.getD_eq_getElem?_getD, List.getElem?_set]
 by_cases e : i = j
 ·subst e; simp [h]
 ·simp [e]
structure Hi where
 ev : List Ev
 em : List Em
 k : Int
 f : Bool
structure Co where
 td : List Ev
 st : List St
 ev : List Ev
 em : List Em
def posO : List Ev → Ev → Nat
 | [], _ => 0
 | x :: l, e => if x.cmp e < 0 then posO l e + 1 else 0
theorem insAt_posO : ∀ (l : List Ev) (e : Ev), InsAt l e (posO l e)
 | [], e => ⟨Nat.le_refl _, fun j hj => by simp [posO] at hj, fun h => by simp at h⟩
 | x :: l, e => by
  obtain ⟨h1, h2, h3⟩ := insAt_posO l e
  unfold posO
  split
  ·rename_i hx
   refine ⟨by simp; omega, fun j hj => ?_, fun h => ?_⟩
   ·cases j with
    | zero => rw [evAt_head]; exact hx
    | succ j => rw [evAt_cons]; exact h2 j (by omega)
   ·rw [evAt_cons]; exact h3 (by simpa using h)
  ·rename_i hx
   exact ⟨Nat.zero_le _, fun j hj => by omega, fun _ => by rw [evAt_head]; exact hx⟩
def insO (l : List Ev) (e : Ev) : List Ev := insL l (posO l e) e
theorem insO_length (l : List Ev) (e : Ev) : (insO l e).length = l.length + 1 := insL_length (insAt_posO l e).1 e
def planO (z : Int) : List Ev → List Ev → List Ev
 | t, [] => t
 | t, e :: l => planO z (if e.t ≤ z then insO t e else t) l
def planH (z : Int) : List Ev → List Ev → List Ev
 | t, [] => t
 | t, e :: l => planH z (if e.t ≤ z then pushL t e else t) l
theorem planH_snoc (z : Int) : ∀ (l t : List Ev) (e : Ev), planH z t (l ++ [e]) = if e.t ≤ z then pushL (planH z t l) e else planH z t l
 | [], t, e => rfl
 | x :: l, t, e => by
  show planH z _ (l ++ [e]) = _
  rw [planH_snoc z l]
  rfl
theorem planO_length (z : Int) : ∀ (l t : List Ev), (planO z t l).length ≤ t.length + l.length
 | [], t => by simp [planO]
 | e :: l, t => by
  have h := planO_length z l (if e.t ≤ z then insO t e else t)
  have h' : (if e.t ≤ z then insO t e else t).length ≤ t.length + 1 := by split <;> simp [insO_length]
  simp only [planO, List.length_cons]
  omega
theorem planH_length (z : Int) : ∀ (l t : List Ev), (planH z t l).length ≤ t.length + l.length
 | [], t => by simp [planH]
 | e :: l, t => by
  have h := planH_length z l (if e.t ≤ z then pushL t e else t)
  have h' : (if e.t ≤ z then pushL t e else t).length ≤ t.length + 1 := by split <;> simp [pushL_length]
  simp only [planH, List.length_cons]
  omega
theorem inL_insO {e x : Ev} {l : List Ev} : InL x (insO l e) ↔ InL x l ∨ x = e := by
 have hp := (insAt_posO l e).1
 unfold insO
 generalize posO l e = p at hp ⊢
 constructor
 ·rintro ⟨j, hj, hje⟩
  rw [insL_length hp] at hj
  rw [insL_at hp] at hje
  by_cases h1 : j < p
  ·rw [if_pos h1] at hje
   exact .inl ⟨j, by omega, hje⟩
  ·rw [if_neg h1] at hje
   by_cases h2 : j = p
   ·rw [if_pos h2] at hje
    exact .inr hje.symm
   ·rw [if_neg h2] at hje
    exact .inl ⟨j - 1, by omega, hje⟩
 ·rintro (⟨j, hj, hje⟩ | rfl)
  ·by_cases h1 : j < p
   ·exact ⟨j, by rw [insL_length hp]; omega, by rw [insL_at hp, if_pos h1, hje]⟩
   ·exact ⟨j + 1, by rw [insL_length hp]; omega, by rw [insL_at hp, if_neg (by omega), if_neg (by omega), ← hje]; rfl⟩
  ·exact ⟨p, by rw [insL_length hp]; omega, by rw [insL_at hp, if_neg (by omega), if_pos rfl]⟩
theorem inL_planO {z : Int} {x : Ev} : ∀ {l t : List Ev}, InL x (planO z t l) → InL x t ∨ (InL x l ∧ x.t ≤ z)
 | [], _, h => .inl h
 | e :: l, t, h => by
  rcases inL_planO (l := l) h with h | h
  ·split at h
   ·rename_i hz
    rcases inL_insO.1 h with h | rfl
    ·exact .inl h
    ·exact .inr ⟨inL_cons.2 (.inl rfl), hz⟩
   ·exact .inl h
  ·exact .inr ⟨inL_cons.2 (.inr h.1), h.2⟩
theorem plan_alike {z d : Int} : ∀ (l : List Ev) (q : Int) (h t : List Ev), Alike h t → (∀ x, InL x t → x.s = d → x.q < q) → (∀ i, i < l.length → (evAt l i).s = d ∧ (evAt l i).q = q + (i : Int)) → Alike (planH z h l) (planO z t l)
 | [], _, _, _, a, _, _ => a
 | e :: l, q, h, t, a, ht, hl => by
  have h0 := hl 0 (by simp)
  rw [evAt_head] at h0
  have hr : ∀ i, i < l.length → (evAt l i).s = d ∧ (evAt l i).q = q + 1 + (i : Int) := fun i hi => by
   have := hl (i + 1) (by simpa using hi)
   rw [evAt_cons] at this
   exact ⟨this.1, by have := this.2; omega⟩
  simp only [planH, planO]
  by_cases hz : e.t ≤ z
  ·rw [if_pos hz, if_pos hz]
   refine plan_alike l (q + 1) _ _ (a.push (insAt_posO t e) fun x hx => ?_) (fun x hx hs => ?_) hr
   ·by_cases hs : x.s = e.s
    ·right
     have := ht x hx (hs.trans h0.1)
     omega
    ·exact .inl hs
   ·rcases inL_insO.1 hx with hx | rfl
    ·have := ht x hx hs; omega
    ·omega
  ·rw [if_neg hz, if_neg hz]
   exact plan_alike l (q + 1) _ _ a (fun x hx hs => by have := ht x hx hs; omega) hr
def effC (m : Md) (v : List Int) (c : Co) : Ef := effR m v (stAt c.st (evAt c.td 0).d.toNat) (evAt c.td 0)
def nextC (pop : List Ev → List Ev) (plan : List Ev → List Ev → List Ev) (m : Md) (v : List Int) (c : Co) : Co :=
 ⟨plan (pop c.td) (effC m v c).s, c.st.set (evAt c.td 0).d.toNat (effC m v c).st, c.ev ++ [evAt c.td 0], c.em ++ (effC m v c).x⟩
def seqG (pop : List Ev → List Ev) (plan : List Ev → List Ev → List Ev) (m : Md) (v : List Int) (z : Int) : Nat → Co → Hi
 | 0, c => ⟨c.ev, c.em, -1, false⟩
 | f + 1, c =>
  if 0 < c.td.length ∧ (evAt c.td 0).t ≤ z then
   if 150 ≤ c.ev.length then ⟨c.ev, c.em, -1, true⟩
   else if 0 ≤ (effC m v c).k then ⟨c.ev, c.em, (effC m v c).k, false⟩
   else seqG pop plan m v z f (nextC pop plan m v c)
  else ⟨c.ev, c.em, -1, false⟩
section
variable {pop : List Ev → List Ev} {plan : List Ev → List Ev → List Ev} {m : Md} {v : List Int} {z : Int} {f : Nat} {c : Co} {R : Hi}
theorem seq_end (h : ¬ (0 < c.td.length ∧ (evAt c.td 0).t ≤ z)) (hR : seqG pop plan m v z f c = R) : R = ⟨c.ev, c.em, -1, false⟩ := by
 cases f with
 | zero => exact hR.symm
 | succ f => rw [seqG, if_neg h] at hR; exact hR.symm
theorem seq_full (hf : 151 ≤ f + c.ev.length) (h : 0 < c.td.length ∧ (evAt c.td 0).t ≤ z) (h150 : c.ev.length = 150) (hR : seqG pop plan m v z f c = R) : R = ⟨c.ev, c.em, -1, true⟩ := by
 cases f with
 | zero => omega
 | succ f => rw [seqG, if_pos h, if_pos (by omega)] at hR; exact hR.symm
theorem seq_asks (hf : 151 ≤ f + c.ev.length) (h : 0 < c.td.length ∧ (evAt c.td 0).t ≤ z) (h150 : c.ev.length < 150) (hk : 0 ≤ (effC m v c).k) (hR : seqG pop plan m v z f c = R) : R = ⟨c.ev, c.em, (effC m v c).k, false⟩ := by
 cases f with
 | zero => omega
 | succ f => rw [seqG, if_pos h, if_neg (by omega), if_pos hk] at hR; exact hR.symm
theorem seq_go (hf : 151 ≤ f + c.ev.length) (h : 0 < c.td.length ∧ (evAt c.td 0).t ≤ z) (h150 : c.ev.length < 150) (hk : ¬ 0 ≤ (effC m v c).k) (hR : seqG pop plan m v z f c = R) :
  ∃ f', 151 ≤ f' + (nextC pop plan m v c).ev.length ∧ seqG pop plan m v z f' (nextC pop plan m v c) = R := by
 cases f with
 | zero => omega
 | succ f =>
  rw [seqG, if_pos h, if_neg (by omega), if_neg hk] at hR
  exact ⟨f, by simp [nextC]; omega, hR⟩
end
structure Due (m : Md) (st : List St) (x : Ev) : Prop where
 ok : x.ok = true
 g : x.g = 0
 d : x.d < m.n
 k : x.k < (m.h.length : Int)
 t : x.t ≤ m.z
 s : x.s = -1 ∨ (0 ≤ x.s ∧ x.s < m.n ∧ x.q < (stAt st x.s.toNat).q)
structure Inv (m : Md) (c : Co) : Prop where
 n : (c.st.length : Int) = m.n
 s : ∀ j, j < c.st.length → (stAt c.st j).ok = true ∧ (stAt c.st j).q ≤ 8 * (c.ev.length : Int) ∧ (stAt c.st j).d ≤ 8 * (c.ev.length : Int)
 e : ∀ x, InL x c.td → Due m c.st x
 tl : c.td.length ≤ 6 + 8 * c.ev.length
 xl : c.em.length ≤ 8 * c.ev.length
 el : c.ev.length ≤ 150
theorem Inv.due {m : Md} {c : Co} (h : Inv m c) (h0 : 0 < c.td.length) : Due m c.st (evAt c.td 0) := h.e _ ⟨0, h0, rfl⟩
theorem ev_d {e : Ev} (h : e.ok = true) : 0 ≤ e.d ∧ 0 ≤ e.k ∧ 0 ≤ e.t := by
 simp only [Ev.ok, okB, decide_eq_true_eq] at h
 omega
theorem Inv.place {m : Md} {c : Co} (h : Inv m c) (h0 : 0 < c.td.length) : (evAt c.td 0).d.toNat < c.st.length := by
 have hd := h.due h0
 have := ev_d hd.ok
 have := hd.d
 have := h.n
 omega
theorem Inv.fit {m : Md} {c : Co} (h : Inv m c) (h0 : 0 < c.td.length) (hm : m.ok = true) {c0 c1 c2 c3 : Int} (hv : ∀ a : Int, -1 ≤ vecAt c0 c1 c2 c3 a ∧ vecAt c0 c1 c2 c3 a ≤ 1) :
  Fit m c0 c1 c2 c3 (stAt c.st (evAt c.td 0).d.toNat) (evAt c.td 0) :=
 ⟨hm, (h.s _ (h.place h0)).1, (h.due h0).ok, (h.due h0).d, (h.due h0).k, hv⟩
end Go.Proofs.YtbljfphdghfkfaaGreatDoor

/- A course stays what it is, round by round; as a heap and in order it comes to the same history. -/
namespace Go.Proofs.YtbljfphdghfkfaaGreatDoor
open Go.RowKit
theorem inL_drop {x : Ev} {l : List Ev} {k : Nat} (h : InL x (l.drop k)) : InL x l := by
 obtain ⟨j, hj, e⟩ := h
 rw [evAt_drop] at e
 exact ⟨k + j, by simp at hj; omega, e⟩
theorem Due.grown {m : Md} {st st' : List St} {x : Ev} (h : Due m st x) (hg : ∀ j, (stAt st j).q ≤ (stAt st' j).q) : Due m st' x := by
 refine ⟨h.ok, h.g, h.d, h.k, h.t, ?_⟩
 rcases h.s with h1 | ⟨h1, h2, h3⟩
 ·exact .inl h1
 ·exact .inr ⟨h1, h2, by have := hg x.s.toNat; omega⟩
section
variable {m : Md} {c : Co} {c0 c1 c2 c3 : Int}
structure Goes (m : Md) (v : List Int) (c : Co) : Prop where
 st : (effC m v c).st.ok = true
 q : (effC m v c).st.q = (stAt c.st (evAt c.td 0).d.toNat).q + ((effC m v c).s.length : Int)
 d : (effC m v c).st.d ≤ (stAt c.st (evAt c.td 0).d.toNat).d + 8
 sl : (effC m v c).s.length ≤ 8
 xl : (effC m v c).x.length ≤ 8
 s : ∀ j, j < (effC m v c).s.length → Sent m (evAt c.td 0) ((stAt c.st (evAt c.td 0).d.toNat).q + (j : Int)) (evAt (effC m v c).s j)
 k : (effC m v c).k = -1
theorem Inv.goes (h : Inv m c) (h0 : 0 < c.td.length) (hm : m.ok = true) (hv : ∀ a : Int, -1 ≤ vecAt c0 c1 c2 c3 a ∧ vecAt c0 c1 c2 c3 a ≤ 1) (hl : c.ev.length < 150) :
  (0 ≤ (effC m [c0, c1, c2, c3] c).k ∧ (effC m [c0, c1, c2, c3] c).k ≤ 3) ∨ Goes m [c0, c1, c2, c3] c := by
 have hp := h.s _ (h.place h0)
 have hok := hp.1
 simp only [St.ok, decide_eq_true_eq] at hok
 rcases eff_ends (h.fit h0 hm hv) with ⟨k, hk0, hk1, hk⟩ | ⟨t, ht, hw⟩
 ·left
  show 0 ≤ (effR _ _ _ _).k ∧ (effR _ _ _ _).k ≤ 3
  rw [hk]
  exact ⟨hk0, hk1⟩
 ·right
  have he : effC m [c0, c1, c2, c3] c = t.ef := ht
  have h1 := hw.q
  have h2 := hw.e1
  have h3 := hw.s1
  have h4 := hw.e0
  refine ⟨?_, by rw [he]; exact hw.q, by rw [he]; exact hw.e1, by rw [he]; exact hw.s1, by rw [he]; exact hw.x1, by rw [he]; exact hw.s, by rw [he]; rfl⟩
  rw [he]
  have a0 := hw.a0
  have a1 := hw.a1
  have b0 := hw.b0
  have b1 := hw.b1
  simp only [St.ok, decide_eq_true_eq, Tn.ef, intAt, List.length_cons, List.length_nil, List.getD_cons_zero, List.getD_cons_succ]
  refine ⟨trivial, ⟨a0, a1⟩, ⟨b0, b1⟩, ?_⟩
  omega
theorem Inv.next (h : Inv m c) (h0 : 0 < c.td.length) (hm : m.ok = true) (hl : c.ev.length < 150) {v : List Int} (hg : Goes m v c) :
  Inv m (nextC (·.drop 1) (planO m.z) m v c) := by
 have hpl := h.place h0
 have hdu := h.due h0
 obtain ⟨hd0, _, ht0⟩ := ev_d hdu.ok
 have hs0 := h.s _ hpl
 have hst := hg.st
 have hs1 := hs0.1
 simp only [St.ok, decide_eq_true_eq] at hst hs1
 obtain ⟨_, _, hn0, hn1, hh4, hz0, hz1⟩ := ok_seed hm
 have hq := hg.q
 have hd8 := hg.d
 have hsl := hg.sl
 have hxl := hg.xl
 have hgr : ∀ j, (stAt c.st j).q ≤ (stAt (c.st.set (evAt c.td 0).d.toNat (effC m v c).st) j).q := fun j => by
  rw [stAt_set _ _ _ _ hpl]
  split
  ·rename_i e; rw [← e]; omega
  ·exact Int.le_refl _
 refine ⟨by simpa [nextC] using h.n, fun j hj => ?_, fun x hx => ?_, ?_, ?_, ?_⟩
 ·have hj' : j < c.st.length := by simpa [nextC] using hj
  have hsj := h.s j hj'
  simp only [nextC, stAt_set _ _ _ _ hpl, List.length_append, List.length_cons, List.length_nil]
  split
  ·exact ⟨hg.st, by omega, by omega⟩
  ·exact ⟨hsj.1, by omega, by omega⟩
 ·rcases inL_planO (show InL x (planO m.z (c.td.drop 1) (effC m v c).s) from hx) with hx | ⟨⟨j, hj, hje⟩, hxz⟩
  ·exact (h.e x (inL_drop hx)).grown hgr
  ·have hS := hg.s j hj
   rw [hje] at hS
   have a1 := hS.s
   have a2 := hS.q
   have a3 := hS.d1
   have a4 := hS.k1
   have a5 := hdu.d
   refine ⟨?_, hS.g, hS.d1, hS.k1, hxz, .inr ⟨by omega, by omega, ?_⟩⟩
   ·have b1 := hS.g
    have b2 := hS.d0
    have b3 := hS.k0
    have b4 := hS.v0
    have b5 := hS.v1
    have b6 := hS.t0
    simp only [Ev.ok, okB, decide_eq_true_eq]
    omega
   ·show x.q < (stAt (c.st.set (evAt c.td 0).d.toNat (effC m v c).st) x.s.toNat).q
    rw [stAt_set _ _ _ _ hpl, if_pos (by rw [a1])]
    omega
 ·have := planO_length m.z (effC m v c).s (c.td.drop 1)
  have := h.tl
  simp only [nextC, List.length_append, List.length_cons, List.length_nil]
  simp only [List.length_drop] at *
  omega
 ·have := h.xl
  simp only [nextC, List.length_append, List.length_cons, List.length_nil]
  omega
 ·simp only [nextC, List.length_append, List.length_cons, List.length_nil]
  omega
theorem alike_next {h : List Ev} (hi : Inv m c) (h0 : 0 < c.td.length) (a : Alike h c.td) {v : List Int} (hg : Goes m v c) :
  effC m v ⟨h, c.st, c.ev, c.em⟩ = effC m v c ∧ evAt h 0 = evAt c.td 0 ∧
  ∃ h', nextC (takeL · 0) (planH m.z) m v ⟨h, c.st, c.ev, c.em⟩ = { nextC (·.drop 1) (planO m.z) m v c with td := h' } ∧ Alike h' (nextC (·.drop 1) (planO m.z) m v c).td := by
 have hh0 := a.none.2 h0
 obtain ⟨he, a1⟩ := a.first hh0
 have hE : effC m v ⟨h, c.st, c.ev, c.em⟩ = effC m v c := by unfold effC; rw [he]
 refine ⟨hE, he, planH m.z (takeL h 0) (effC m v c).s, ?_, ?_⟩
 ·unfold nextC
  rw [hE, he]
 ·have hdu := hi.due h0
  refine plan_alike (d := (evAt c.td 0).d) _ (stAt c.st (evAt c.td 0).d.toNat).q _ _ a1 (fun x hx hs => ?_) (fun i hx => ⟨(hg.s i hx).s, (hg.s i hx).q⟩)
  have := ev_d hdu.ok
  rcases (hi.e x (inL_drop hx)).s with h1 | ⟨_, _, h3⟩
  ·omega
  ·rw [hs] at h3; exact h3
end
end Go.Proofs.YtbljfphdghfkfaaGreatDoor

/- Both StateOf. -/
namespace Go.Proofs.YtbljfphdghfkfaaGreatDoor
open Go.RowKit
def firstS (m : Md) (lp : Int) : St := ⟨[intAt m.i lp.toNat, 0], 0, 0⟩
theorem ok_init {m : Md} (h : m.ok = true) : (m.i.length : Int) = m.n := by
 simp only [Md.ok, Bool.and_eq_true, decide_eq_true_eq] at h
 exact h.1.1.1.2.2.2.2.1
theorem Bk.rowF {w : World} {P : Nat} {l : List Int} (hl : l.length ≤ maxLen) (h : Bk w P 3 (intCells l).toArray) : RowF (fun k => k = P) w (sl P l.length) l.length 1 (intCells l) := by
 refine ⟨by simp [intCells], _, _, rfl, Nat.le_refl _, hl, .inr ⟨P, rfl, rfl, h.lt, fun j hj => ⟨?_, h.free j⟩⟩⟩
 have hj' : j < (intCells l).length := by simp [intCells]; omega
 rw [h.cell (i := j) (v := (intCells l)[j]) (by simp [hj'])]
 simp [hj']
theorem made2 {w1 : World} {B C : Nat} (h : w1.ownsRow C 3 1 (.slice (some ⟨B, 0, none⟩) 2 2) 2 (madeCells (Value.int .i64 0).cells (2 * 1)).toList) : Bk w1 B 3 #[.int .i64 0, .int .i64 0] := by
 obtain ⟨hl, h | ⟨g, cap, cur, e, hg, hc, h1, h2, h3, h4⟩⟩ := h
 ·simp at h
 ·simp at e
  obtain ⟨rfl, rfl⟩ := e
  have h5 : cur.toList = (madeCells (Value.int .i64 0).cells (2 * 1)).toList := by
   rw [← h4, List.take_of_length_le (by simp; omega)]
  have h6 : (madeCells (Value.int .i64 0).cells (2 * 1)).toList = [.int .i64 0, .int .i64 0] := by kernel_rfl
  rw [h6] at h5
  unfold Bk
  rw [hc, show cur = #[.int .i64 0, .int .i64 0] from Array.toList_inj.1 h5]
set_option maxRecDepth 100000 in
set_option maxHeartbeats 4000000 in
theorem iBegin (x : Value) (m : Md) (lp : Nat) (w : World) (hlp : lp < m.i.length) (h : IsM w x m) :
  Calls Tryz.prog 83 #[x, .int .i64 lp] w fun e w' => ∃ y, e = .returned y ∧ Below w.heap.size w w' ∧ StF (fun k => w.heap.size ≤ k ∧ k < w'.heap.size) w' y ⟨[intAt m.i lp, 0], 0, 0⟩ := by
 obtain ⟨i0, hi, hz0, hz1, hz2⟩ := info_parts info3
 obtain ⟨vi, vh, vs, rfl, ⟨ai, ci, rfl, hi1, hi2, hi3⟩, ⟨ah, ch, rfl, _⟩, ⟨ae, ce, rfl, _⟩⟩ := h
 obtain ⟨b, off, rfl, hb, hc⟩ := hi3.resolve_left (by intro e; rw [e] at hlp; simp at hlp)
 have f0 := hc lp hlp
 clear hc hi3
 generalize intAt m.i lp = y at f0 ⊢
 obtain ⟨W0, hW0⟩ : ∃ W0, (w.alloc (.cells #[.int .i64 m.n, .int .i64 m.s, .slice (some ⟨b, off, none⟩) m.i.length ci, .slice ah m.h.length ch, .slice ae m.e.length ce, .int .i64 m.z] 27)).alloc (.cells #[.slice none 0 0, .int .i64 0, .int .i64 0] 96) = W0 := ⟨_, rfl⟩
 have HP0 : Hid (Bk W0 w.heap.size 27 #[.int .i64 m.n, .int .i64 m.s, .slice (some ⟨b, off, none⟩) m.i.length ci, .slice ah m.h.length ch, .slice ae m.e.length ce, .int .i64 m.z]) := by rw [← hW0]; exact (Bk.new _ _ _).alloc _
 have HR0 : Hid (Bk W0 (w.heap.size + 1) 96 #[.slice none 0 0, .int .i64 0, .int .i64 0]) := by rw [← hW0]; exact Bk.newAt (by simp) _ _
 have HB0 : Hid (Below w.heap.size w W0) := by rw [← hW0]; exact ((Below.refl _ w).alloc (Nat.le_refl _) _).alloc (by simp) _
 have hsz : W0.heap.size = w.heap.size + 1 + 1 := by rw [← hW0]; simp
 have HSZ : Hid (W0.heap.size = w.heap.size + 1 + 1) := hsz
 clear hsz
 go_enter Tryz.func83, Tryz.ntmps83
 go_wp2_with (at_make; refine wpList_make_full W0 rfl _ _ 23 rfl W0.heap.size 3 i0 _ 1 Tryz.underlying23 hi hz0 hz1 .i64 .i64 2 2 2 rfl rfl rfl rfl (by rw [hz2]; omega) (by unfold maxLen; omega) (Nat.le_refl _) ?_; intro w1 hown hgrow; have hN1 : Bk w1 W0.heap.size 3 #[.int .i64 0, .int .i64 0] := made2 hown; have hB1 : Below W0.heap.size W0 w1 := (Below.refl _ _).grown hgrow (Nat.le_refl _) (fun k e => by cases e); have hR1 := HR0.out.below hB1; have hP1 := HP0.out.below hB1; have p2 := hP1.cell (i := 2) rfl; have n0 := hN1.cell (i := 0) rfl; have nf := hN1.free; have f1 := (hB1.cell (p := ⟨b, off + lp, none⟩) (by have := HB0.out.size; show b < W0.heap.size; omega)).trans ((HB0.out.cell (p := ⟨b, off + lp, none⟩) hb).trans f0); obtain ⟨X1, hX1⟩ : ∃ X1, w1.setCell ⟨W0.heap.size, 0, none⟩ (.int .i64 y) = X1 := ⟨_, rfl⟩; have hR2 : Bk X1 (w.heap.size + 1) 96 #[.slice none 0 0, .int .i64 0, .int .i64 0] := hX1 ▸ hR1.other 0 _ (by have := HSZ.out; omega); have hN2 : Bk X1 W0.heap.size 3 #[.int .i64 y, .int .i64 0] := hX1 ▸ hN1.put 0 _; have hB2 : Below w.heap.size w X1 := (HB0.out.trans (hB1.mono HB0.out.size)).trans (by rw [← hX1]; exact (Below.refl _ _).setCell (p := ⟨W0.heap.size, 0, none⟩) HB0.out.size _); have r0 := hR2.cell (i := 0) rfl; have r1 := hR2.cell (i := 1) rfl; have r2 := hR2.cell (i := 2) rfl; have rf := hR2.free; have HR2 : Hid (Bk X1 (w.heap.size + 1) 96 #[.slice none 0 0, .int .i64 0, .int .i64 0]) := hR2; have HN2 : Hid (Bk X1 W0.heap.size 3 #[.int .i64 y, .int .i64 0]) := hN2; have HB2 : Hid (Below w.heap.size w X1) := hB2; clear hR1 hP1 hN1 hB1 hR2 hN2 hB2 hown hgrow)
 clear r0 r1 r2 rf p2 n0 nf f1 f0
 obtain ⟨X5, hX5⟩ : ∃ X5, put3 X1 (w.heap.size + 1) (sl W0.heap.size 2) (.int .i64 0) (.int .i64 0) = X5 := ⟨_, rfl⟩
 have hR := HR2.out.put3 (sl W0.heap.size 2) (.int .i64 0) (.int .i64 0)
 have ht := put3_turns X1 (w.heap.size + 1) (sl W0.heap.size 2) (.int .i64 0) (.int .i64 0)
 rw [hX5] at hR ht
 unfold put3 at hX5
 rw [hX5]
 have t0 := hR.cell (i := 0) rfl
 have t1 := hR.cell (i := 1) rfl
 have t2 := hR.cell (i := 2) rfl
 have hs1 := HB0.out.size
 have hs2 := HB2.out.size
 have hs3 := HSZ.out
 have hs4 := ht.size
 have hs5 := HN2.out.lt
 refine bodyPost_ret (v := .agg #[sl W0.heap.size 2, .int .i64 0, .int .i64 0]) (by simp [results, Tryz.results83, go_sem, t0, t1, t2]) rfl ⟨_, rfl, HB2.out.trans (ht.to_below (fun k e => by omega) (by omega)), _, rfl, ?_⟩
 exact ((Bk.rowF (l := [y, 0]) (by unfold maxLen; simp) HN2.out).turns ht (fun k e => by omega)).mono (fun k e => by omega)
end Go.Proofs.YtbljfphdghfkfaaGreatDoor

