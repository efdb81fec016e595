/- SOk, ECopy, EEfV, CPure -/
import Derived.Test.YtbljfphdghfkfaaGreatDoorSequencesCardG01
import Derived.Test.YtbljfphdghfkfaaGreatDoorSequencesCardG10
import Derived.Test.YtbljfphdghfkfaaGreatDoorSequencesCardLEDo
/- Both StateOk. -/
namespace Go.Proofs.YtbljfphdghfkfaaGreatDoor
open Go.RowKit
def St.ok (s : St) : Bool := decide (s.r.length = 2 ∧ (0 ≤ intAt s.r 0 ∧ intAt s.r 0 ≤ 999) ∧ (0 ≤ intAt s.r 1 ∧ intAt s.r 1 ≤ 999) ∧ 0 ≤ s.q ∧ s.q ≤ 99992 ∧ 0 ≤ s.d ∧ s.d ≤ 99992)
end Go.Proofs.YtbljfphdghfkfaaGreatDoor

/- A state of one's own: the program's copy, the specification's. -/
namespace Go.Proofs.YtbljfphdghfkfaaGreatDoor
open Go.RowKit
theorem own_form {w : World} {B : Nat} {T : TypeId} {c n : Nat} {v : Value} {cs : List Value} (h : w.ownsRow B T c v n cs) (hn : 0 < n) : ∃ g cap, v = .slice (some ⟨g, 0, none⟩) n cap := by
 obtain ⟨_, ⟨rfl, h0⟩ | ⟨g, cap, cur, rfl, _⟩⟩ := h
 ·omega
 ·exact ⟨g, cap, rfl⟩
theorem two_cells {w : World} {b off : Nat} {p q : Value} (h0 : w.cell? ⟨b, off, none⟩ = some p) (h1 : w.cell? ⟨b, off + 1, none⟩ = some q) : ∀ j u, [p, q][j]? = some u → w.cell? ((⟨b, off, none⟩ : Addr).add j) = some u := by
 intro j u hu
 rw [Addr.add_lit]
 match j, hu with
 | 0, hu => simp at hu; subst hu; exact h0
 | 1, hu => simp at hu; subst hu; exact h1
 | (j + 2), hu => simp at hu
theorem two_ones (p q : Int) : ∀ u ∈ [Value.int .i64 p, .int .i64 q], u.oneCell' = true := by
 intro u hu
 simp at hu
 rcases hu with rfl | rfl <;> rfl
theorem own_mono {w : World} {B B' : Nat} {T : TypeId} {c n : Nat} {v : Value} {cs : List Value} (h : w.ownsRow B T c v n cs) (hB : B' ≤ B) : w.ownsRow B' T c v n cs := by
 obtain ⟨hl, ⟨rfl, h0⟩ | ⟨g, cap, cur, rfl, hg, h1⟩⟩ := h
 ·exact ⟨hl, .inl ⟨rfl, h0⟩⟩
 ·exact ⟨hl, .inr ⟨g, cap, cur, rfl, Nat.le_trans hB hg, h1⟩⟩
theorem own_turns {w w' : World} {B : Nat} {S : Nat → Prop} {T : TypeId} {c n : Nat} {v : Value} {cs : List Value} (h : w.ownsRow B T c v n cs) (ht : Turns S w w') (hS : ∀ k cur, w.heap[k]? = some (.cells cur T) → ¬ S k) : w'.ownsRow B T c v n cs := by
 obtain ⟨hl, ⟨rfl, h0⟩ | ⟨g, cap, cur, rfl, hg, hc, h1⟩⟩ := h
 ·exact ⟨hl, .inl ⟨rfl, h0⟩⟩
 ·exact ⟨hl, .inr ⟨g, cap, cur, rfl, hg, (ht.block g (Array.getElem?_eq_some_iff.1 hc).1 (hS g cur hc)).trans hc, h1⟩⟩
set_option maxHeartbeats 1000000 in
theorem copy2 (b off cap : Nat) (p q : Int) (w : World) (h0 : w.cell? ⟨b, off, none⟩ = some (.int .i64 p)) (h1 : w.cell? ⟨b, off + 1, none⟩ = some (.int .i64 q)) :
  Calls Tryz.prog 105 #[.slice (some ⟨b, off, none⟩) 2 cap] w fun e w' => ∃ g c, e = .returned (vReg g c) ∧ w'.ownsRow w.heap.size 3 1 (vReg g c) 2 [.int .i64 p, .int .i64 q] ∧ Below w.heap.size w w' := by
 obtain ⟨i0, hi, hz0, hz1, hz2⟩ := info_parts info3
 have HC : Hid (∀ j u, [Value.int .i64 p, .int .i64 q][j]? = some u → w.cell? ((⟨b, off, none⟩ : Addr).add j) = some u) := two_cells h0 h1
 clear h0 h1
 go_enter Tryz.func105, Tryz.ntmps105
 go_wp2_with (at_builtin; refine wpList_append_own _ rfl _ _ 23 rfl w.heap.size 3 i0 _ 1 8 Tryz.underlying23 hi hz0 hz1 hz2 rfl (by decide) (.slice none 0 0) 0 [] rfl (World.ownsRow_nil w _ 3 1) ⟨b, off, none⟩ 2 cap [.int .i64 p, .int .i64 q] rfl rfl HC.out (two_ones p q) (by unfold maxLen; omega) (by omega) (Nat.le_refl _) ?_; intro v' w1 hown hgrow hnil)
 go_ret
 obtain ⟨g, c, rfl⟩ := own_form hown (by omega)
 exact ⟨g, c, rfl, hown, (Below.refl _ w).grown hgrow (Nat.le_refl _) (fun k e => by cases e)⟩
theorem IsS.two {w : World} {x : Value} {s : St} (h : IsS w x s) (h2 : s.r.length = 2) : ∃ b off cap, x = .agg #[.slice (some ⟨b, off, none⟩) 2 cap, .int .i64 s.q, .int .i64 s.d] ∧ b < w.heap.size ∧ w.cell? ⟨b, off, none⟩ = some (.int .i64 (intAt s.r 0)) ∧ w.cell? ⟨b, off + 1, none⟩ = some (.int .i64 (intAt s.r 1)) := by
 obtain ⟨vr, rfl, a, cap, rfl, _, _, h⟩ := h
 obtain ⟨b, off, rfl, hb, hc⟩ := h.resolve_left (by intro e; rw [e] at h2; simp at h2)
 exact ⟨b, off, cap, by rw [h2], hb, hc 0 (by omega), hc 1 (by omega)⟩
def SOwn (w : World) (s : St) (e : Ending) (w' : World) : Prop :=
 ∃ g c, e = .returned (.agg #[vReg g c, .int .i64 s.q, .int .i64 s.d]) ∧ w'.ownsRow w.heap.size 3 1 (vReg g c) 2 [.int .i64 (intAt s.r 0), .int .i64 (intAt s.r 1)] ∧ Below w.heap.size w w'
set_option maxRecDepth 100000 in
set_option maxHeartbeats 2000000 in
theorem iCopy (x : Value) (s : St) (w : World) (h : IsS w x s) (h2 : s.r.length = 2) : Calls Tryz.prog 98 #[x] w (SOwn w s) := by
 obtain ⟨b, off, cap, rfl, hb, h0, h1⟩ := h.two h2
 unfold SOwn
 generalize hp : intAt s.r 0 = p at h0 ⊢
 generalize hq : intAt s.r 1 = q at h1 ⊢
 clear h hp hq
 obtain ⟨W0, hW0⟩ : ∃ W0, (w.alloc (.cells #[.slice (some ⟨b, off, none⟩) 2 cap, .int .i64 s.q, .int .i64 s.d] 96)).alloc (.cells #[.slice none 0 0, .int .i64 0, .int .i64 0] 96) = W0 := ⟨_, rfl⟩
 have HP0 : Hid (Bk W0 w.heap.size 96 #[.slice (some ⟨b, off, none⟩) 2 cap, .int .i64 s.q, .int .i64 s.d]) := by rw [← hW0]; exact (Bk.new w _ _).alloc _
 have HR0 : Hid (Bk W0 (w.heap.size + 1) 96 #[.slice none 0 0, .int .i64 0, .int .i64 0]) := by rw [← hW0]; exact Bk.newAt (by simp) _ _
 have HB0 : Hid (Below w.heap.size w W0) := by rw [← hW0]; exact ((Below.refl _ w).alloc (Nat.le_refl _) _).alloc (by simp) _
 have k0 := (HB0.out.cell (p := ⟨b, off, none⟩) hb).trans h0
 have k1 := (HB0.out.cell (p := ⟨b, off + 1, none⟩) hb).trans h1
 have p0 := HP0.out.cell (i := 0) rfl
 clear h0 h1
 go_enter Tryz.func98, Tryz.ntmps98
 go_wp2_with fail
 clear p0 hW0
 refine (copy2 b off cap p q _ k0 k1).mono ?_
 rintro e w1 ⟨g, c, rfl, hown, hb1⟩
 have HP1 := HP0.out.below hb1
 have HR1 := HR0.out.below hb1
 have hs1 := HB0.out.size
 have hs2 := hb1.size
 have hPl := HP0.out.lt
 have hRl := HR0.out.lt
 obtain ⟨X1, hX1⟩ : ∃ X1, w1.setCell ⟨w.heap.size, 0, none⟩ (vReg g c) = X1 := ⟨_, rfl⟩
 have HP2 : Bk X1 w.heap.size 96 #[vReg g c, .int .i64 s.q, .int .i64 s.d] := hX1 ▸ HP1.put 0 _
 have HR2 : Bk X1 (w.heap.size + 1) 96 #[.slice none 0 0, .int .i64 0, .int .i64 0] := hX1 ▸ HR1.other 0 _ (by omega)
 have HO2 : X1.ownsRow w.heap.size 3 1 (vReg g c) 2 [.int .i64 p, .int .i64 q] := by
  rw [← hX1]
  exact own_mono (hown.kept (setCell_grown _ _ _ _) (own_off hown HP1 (by decide))) hs1
 have HB2 : Below w.heap.size w X1 := by
  rw [← hX1]
  exact (HB0.out.trans (hb1.mono hs1)).setCell (p := ⟨w.heap.size, 0, none⟩) (Nat.le_refl _) _
 have a0 := HP1.cell (i := 0) rfl
 have af := HP1.free
 have p0 := HP2.cell (i := 0) rfl
 have p1 := HP2.cell (i := 1) rfl
 have p2 := HP2.cell (i := 2) rfl
 have r0 := HR2.cell (i := 0) rfl
 have r1 := HR2.cell (i := 1) rfl
 have r2 := HR2.cell (i := 2) rfl
 have rf := HR2.free
 have HR2' : Hid (Bk X1 (w.heap.size + 1) 96 #[.slice none 0 0, .int .i64 0, .int .i64 0]) := HR2
 have HO2' : Hid (X1.ownsRow w.heap.size 3 1 (vReg g c) 2 [.int .i64 p, .int .i64 q]) := HO2
 have HB2' : Hid (Below w.heap.size w X1) := HB2
 clear HP1 HR1 HP2 HR2 HO2 HB2 hown hb1 hs2
 go_wp2
 clear a0 af p0 p1 p2 r0 r1 r2 rf hX1
 obtain ⟨X5, hX5⟩ : ∃ X5, put3 X1 (w.heap.size + 1) (vReg g c) (.int .i64 s.q) (.int .i64 s.d) = X5 := ⟨_, rfl⟩
 have hR := HR2'.out.put3 (vReg g c) (.int .i64 s.q) (.int .i64 s.d)
 have ht := put3_turns X1 (w.heap.size + 1) (vReg g c) (.int .i64 s.q) (.int .i64 s.d)
 have ho : (put3 X1 (w.heap.size + 1) (vReg g c) (.int .i64 s.q) (.int .i64 s.d)).ownsRow w.heap.size 3 1 (vReg g c) 2 [.int .i64 p, .int .i64 q] := own_turns HO2'.out ht (fun k cur e1 e2 => by
  have e3 := HR2'.out
  unfold Bk at e3
  rw [show k = w.heap.size + 1 from e2] at e1
  rw [e1] at e3
  cases e3)
 rw [hX5] at hR ht ho
 unfold put3 at hX5
 rw [hX5]
 have t0 := hR.cell (i := 0) rfl
 have t1 := hR.cell (i := 1) rfl
 have t2 := hR.cell (i := 2) rfl
 refine bodyPost_ret (v := .agg #[vReg g c, .int .i64 s.q, .int .i64 s.d]) (by simp [results, Tryz.results98, go_sem, t0, t1, t2]) rfl ⟨g, c, rfl, ho, HB2'.out.trans (ht.to_below (fun k e => by omega) HB2'.out.size)⟩
end Go.Proofs.YtbljfphdghfkfaaGreatDoor

/- Effects as plain values: what Handle answers. -/
namespace Go.Proofs.YtbljfphdghfkfaaGreatDoor
open Go.RowKit
structure Ef where
 st : St
 s : List Ev
 x : List Em
 k : Int
def startT (s : St) : Tn := ⟨intAt s.r 0, intAt s.r 1, s.q, s.d, [], []⟩
def Tn.ef (t : Tn) : Ef := ⟨⟨[t.a, t.b], t.q, t.d⟩, t.s, t.x, -1⟩
def resE (s : St) : Res → Ef
 | .done t => t.ef
 | .asks k => ⟨⟨[intAt s.r 0, intAt s.r 1], s.q, s.d⟩, [], [], k⟩
def effR (m : Md) (v : List Int) (s : St) (e : Ev) : Ef := resE s (run m.s v e (hAt m.h e.k.toNat) (hAt m.h e.k.toNat).length 0 (startT s))
def EfF (F : Nat → Prop) (w : World) (y : Value) (f : Ef) : Prop :=
 ∃ (A B C : Nat → Prop) (vr us ux : Value), y = .agg #[vr, .int .i64 f.st.q, .int .i64 f.st.d, us, ux, .int .i64 f.k] ∧ RowF A w vr f.st.r.length 1 (intCells f.st.r) ∧ RowF B w us f.s.length 7 (cellsL f.s) ∧ RowF C w ux f.x.length 3 (cellsX f.x) ∧
  (∀ k, A k → F k ∧ ¬ B k ∧ ¬ C k) ∧ (∀ k, B k → F k ∧ ¬ C k) ∧ ∀ k, C k → F k
theorem EfF.turns {F S : Nat → Prop} {w w' : World} {x : Value} {f : Ef} (h : EfF F w x f) (ht : Turns S w w') (hS : ∀ k, F k → ¬ S k) : EfF F w' x f := by
 obtain ⟨A, B, C, vr, us, ux, rfl, h1, h2, h3, h4, h5, h6⟩ := h
 exact ⟨A, B, C, vr, us, ux, rfl, h1.turns ht (fun k hk => hS k (h4 k hk).1), h2.turns ht (fun k hk => hS k (h5 k hk).1), h3.turns ht (fun k hk => hS k (h6 k hk)), h4, h5, h6⟩
theorem EfF.below {F : Nat → Prop} {w w' : World} {x : Value} {f : Ef} (h : EfF F w x f) (hb : Below w.heap.size w w') : EfF F w' x f :=
 h.turns (S := fun _ => False) (Turns.of_below hb) (fun _ _ => id)
theorem EfF.mono {F F' : Nat → Prop} {w : World} {x : Value} {f : Ef} (h : EfF F w x f) (hF : ∀ k, F k → F' k) : EfF F' w x f := by
 obtain ⟨A, B, C, vr, us, ux, rfl, h1, h2, h3, h4, h5, h6⟩ := h
 exact ⟨A, B, C, vr, us, ux, rfl, h1, h2, h3, fun k hk => ⟨hF k (h4 k hk).1, (h4 k hk).2⟩, fun k hk => ⟨hF k (h5 k hk).1, (h5 k hk).2⟩, fun k hk => hF k (h6 k hk)⟩
theorem EfF.form {F : Nat → Prop} {w : World} {x : Value} {f : Ef} (h : EfF F w x f) : ∃ a c as' cs' ax cx, x = .agg #[.slice a f.st.r.length c, .int .i64 f.st.q, .int .i64 f.st.d, .slice as' f.s.length cs', .slice ax f.x.length cx, .int .i64 f.k] := by
 obtain ⟨A, B, C, vr, us, ux, rfl, ⟨_, a1, c1, rfl, _⟩, ⟨_, a2, c2, rfl, _⟩, ⟨_, a3, c3, rfl, _⟩, _⟩ := h
 exact ⟨a1, c1, a2, c2, a3, c3, rfl⟩
theorem own_rowF {B : Nat} {T : TypeId} {w : World} {x : Value} {n c : Nat} {cs : List Value} (hcs : cs.length = n * c) (h : w.ownsRow B T c x n cs) : RowF (fun k => x.ownBlock = some k) w x n c cs := by
 obtain ⟨hl, ⟨rfl, h0⟩ | ⟨g, cap, cur, rfl, hg, hc, h1, h2, h3, h4⟩⟩ := h
 ·exact ⟨hcs, none, 0, by rw [h0], by omega, by unfold maxLen; omega, .inl h0⟩
 ·have hlt : g < w.heap.size := (Array.getElem?_eq_some_iff.1 hc).1
  refine ⟨hcs, _, cap, rfl, h1, h2, .inr ⟨g, rfl, rfl, hlt, fun j hj => ?_⟩⟩
  have hj2 : j < cur.size := by rw [h3]; exact Nat.lt_of_lt_of_le hj (Nat.mul_le_mul_right c h1)
  refine ⟨?_, by simp [World.frozen?, hc]⟩
  rw [← h4, List.getElem?_take_of_lt (by omega)]
  simp [World.cell?, hc]
theorem apart_blocks {w : World} {B B' : Nat} {T T' : TypeId} {c c' n n' : Nat} {v v' : Value} {cs cs' : List Value} (h : w.ownsRow B T c v n cs) (h' : w.ownsRow B' T' c' v' n' cs') (hT : T ≠ T') {k : Nat} (e : v.ownBlock = some k) (e' : v'.ownBlock = some k) : False := by
 rcases own_apart h h' hT with h1 | h1
 ·rw [h1] at e; cases e
 ·exact h1 (e.trans e'.symm)
theorem ef_of {w : World} {B : Nat} {vr us ux : Value} {r : List Int} {q d k : Int} {s : List Ev} {x : List Em} (h1 : w.ownsRow B 3 1 vr r.length (intCells r)) (h2 : w.ownsRow B 53 7 us s.length (cellsL s)) (h3 : w.ownsRow B 108 3 ux x.length (cellsX x)) :
  EfF (fun j => B ≤ j ∧ j < w.heap.size) w (.agg #[vr, .int .i64 q, .int .i64 d, us, ux, .int .i64 k]) ⟨⟨r, q, d⟩, s, x, k⟩ :=
 ⟨_, _, _, vr, us, ux, rfl, own_rowF (by simp [intCells]) h1, own_rowF (cellsL_length _) h2, own_rowF (cellsX_length _) h3,
  fun j e => ⟨h1.lt j e, fun e' => apart_blocks h1 h2 (by decide) e e', fun e' => apart_blocks h1 h3 (by decide) e e'⟩, fun j e => ⟨h2.lt j e, fun e' => apart_blocks h2 h3 (by decide) e e'⟩, fun j e => h3.lt j e⟩
abbrev put6o (w : World) (P o : Nat) (v0 v1 v2 v3 v4 v5 : Value) : World :=
 (((((w.setCell ⟨P, o, none⟩ v0).setCell ⟨P, o + 1, none⟩ v1).setCell ⟨P, o + 2, none⟩ v2).setCell ⟨P, o + 3, none⟩ v3).setCell ⟨P, o + 4, none⟩ v4).setCell ⟨P, o + 5, none⟩ v5
theorem put6o_turns (w : World) (P o : Nat) (v0 v1 v2 v3 v4 v5 : Value) : Turns (fun b => b = P) w (put6o w P o v0 v1 v2 v3 v4 v5) :=
 (((((put1_turns w P o v0).trans (put1_turns _ P (o + 1) v1)).trans (put1_turns _ P (o + 2) v2)).trans (put1_turns _ P (o + 3) v3)).trans (put1_turns _ P (o + 4) v4)).trans (put1_turns _ P (o + 5) v5)
theorem Bk.put6o {w : World} {P : Nat} {T : TypeId} {pre : List Value} {a0 a1 a2 a3 a4 a5 : Value} (h : Bk w P T (pre ++ [a0, a1, a2, a3, a4, a5]).toArray) (v0 v1 v2 v3 v4 v5 : Value) :
  Bk (put6o w P pre.length v0 v1 v2 v3 v4 v5) P T (pre ++ [v0, v1, v2, v3, v4, v5]).toArray := by
 have h0 := h.put (pre.length + 0) v0
 rw [set_pre] at h0
 have h1 := h0.put (pre.length + 1) v1
 rw [set_pre] at h1
 have h2 := h1.put (pre.length + 2) v2
 rw [set_pre] at h2
 have h3 := h2.put (pre.length + 3) v3
 rw [set_pre] at h3
 have h4 := h3.put (pre.length + 4) v4
 rw [set_pre] at h4
 have h5 := h4.put (pre.length + 5) v5
 rw [set_pre] at h5
 exact h5
end Go.Proofs.YtbljfphdghfkfaaGreatDoor

/- A course as plain values: what is still to do, as a heap and as a list in order, is the same. -/
namespace Go.Proofs.YtbljfphdghfkfaaGreatDoor
open Go.RowKit
def Un (l : List Ev) : Prop := ∀ i j, i < l.length → j < l.length → evAt l i = evAt l j → i = j
theorem un_swp {l : List Ev} {i k : Nat} (hi : i < l.length) (hk : k < l.length) (h : Un l) : Un (swp l i k) := by
 intro a b ha hb hg
 rw [swp_length] at ha hb
 rw [evAt_swp _ _ _ _ hi hk, evAt_swp _ _ _ _ hi hk] at hg
 by_cases a1 : k = a
 ·rw [if_pos a1] at hg
  by_cases b1 : k = b
  ·omega
  ·rw [if_neg b1] at hg
   by_cases b2 : i = b
   ·rw [if_pos b2] at hg
    have := h _ _ hi hk hg
    omega
   ·rw [if_neg b2] at hg
    have := h _ _ hi hb hg
    omega
 ·rw [if_neg a1] at hg
  by_cases a2 : i = a
  ·rw [if_pos a2] at hg
   by_cases b1 : k = b
   ·rw [if_pos b1] at hg
    have := h _ _ hk hi hg
    omega
   ·rw [if_neg b1] at hg
    by_cases b2 : i = b
    ·omega
    ·rw [if_neg b2] at hg
     have := h _ _ hk hb hg
     omega
  ·rw [if_neg a2] at hg
   by_cases b1 : k = b
   ·rw [if_pos b1] at hg
    have := h _ _ ha hi hg
    omega
   ·rw [if_neg b1] at hg
    by_cases b2 : i = b
    ·rw [if_pos b2] at hg
     have := h _ _ ha hk hg
     omega
    ·rw [if_neg b2] at hg
     exact h _ _ ha hb hg
theorem un_up {l : List Ev} {i : Nat} (hi : i < l.length) (h : Un l) : Un (upL l i) := by
 induction i using Nat.strongRecOn generalizing l with
 | _ i ih =>
  by_cases hc : 0 < i ∧ (evAt l i).cmp (evAt l ((i - 1) / 2)) < 0
  ·rw [upL_go hc.1 hc.2]
   exact ih _ (by omega) (by rw [swp_length]; omega) (un_swp hi (by omega) h)
  ·rw [upL_stop hc]; exact h
theorem un_down {l : List Ev} {n i : Nat} (hn : n ≤ l.length) (hi : i < n) (h : Un l) : Un (downL l n i) := by
 generalize hm : n - i = m
 induction m using Nat.strongRecOn generalizing l i with
 | _ m ih =>
  by_cases hk : pickL l n i = i
  ·rw [downL_stop hk]; exact h
  ·have hc := (pickL_cases l n i).resolve_left hk
   rw [downL_go hk]
   exact ih (n - pickL l n i) (by omega) (by rw [swp_length]; exact hn) hc.2 (un_swp (by omega) (by omega) h) rfl
theorem un_snoc {l : List Ev} {e : Ev} (h : Un l) (he : ∀ j, j < l.length → evAt l j ≠ e) : Un (l ++ [e]) := by
 intro a b ha hb hg
 simp at ha hb
 by_cases a1 : a = l.length
 ·by_cases b1 : b = l.length
  ·omega
  ·rw [a1, evAt_last, evAt_left _ _ _ (by omega)] at hg
   exact absurd hg.symm (he b (by omega))
 ·by_cases b1 : b = l.length
  ·rw [b1, evAt_last, evAt_left _ _ _ (by omega)] at hg
   exact absurd hg (he a (by omega))
  ·rw [evAt_left _ _ _ (by omega), evAt_left _ _ _ (by omega)] at hg
   exact h a b (by omega) (by omega) hg
theorem un_push {l : List Ev} {e : Ev} (h : Un l) (he : ∀ j, j < l.length → evAt l j ≠ e) : Un (pushL l e) := un_up (by simp) (un_snoc h he)
theorem un_cut {l : List Ev} {i : Nat} (hi : i < l.length) (h : Un l) : Un (cutL l i) := by
 intro a b ha hb hg
 rw [cutL_length] at ha hb
 rw [cut_at _ _ _ hi ha, cut_at _ _ _ hi hb] at hg
 by_cases a1 : i = a
 ·rw [if_pos a1] at hg
  by_cases b1 : i = b
  ·omega
  ·rw [if_neg b1] at hg
   have := h _ _ (by omega) (by omega) hg
   omega
 ·rw [if_neg a1] at hg
  by_cases b1 : i = b
  ·rw [if_pos b1] at hg
   have := h _ _ (by omega) (by omega) hg
   omega
  ·rw [if_neg b1] at hg
   exact h _ _ (by omega) (by omega) hg
theorem un_take {l : List Ev} {i : Nat} (hi : i < l.length) (h : Un l) : Un (takeL l i) := by
 unfold takeL
 by_cases h1 : i < l.length - 1
 ·rw [if_pos h1]
  exact un_up (by rw [downL_length, cutL_length]; exact h1) (un_down (by rw [cutL_length]; omega) h1 (un_cut hi h))
 ·rw [if_neg h1]; exact un_cut hi h
theorem inU_cut {e : Ev} {l : List Ev} {i : Nat} (hi : i < l.length) (h : Un l) : InL e (cutL l i) ↔ InL e l ∧ e ≠ evAt l i := by
 constructor
 ·rintro ⟨j, hj, he⟩
  rw [cutL_length] at hj
  rw [cut_at _ _ _ hi hj] at he
  by_cases h1 : i = j
  ·rw [if_pos h1] at he
   exact ⟨⟨_, by omega, he⟩, fun hh => by
    have := h (l.length - 1) i (by omega) hi (by rw [he, hh])
    omega⟩
  ·rw [if_neg h1] at he
   exact ⟨⟨j, by omega, he⟩, fun hh => h1 (h i j hi (by omega) (by rw [he, hh]))⟩
 ·rintro ⟨⟨j, hj, he⟩, hne⟩
  have hji : i ≠ j := fun hh => hne (by rw [hh, he])
  by_cases h1 : j = l.length - 1
  ·exact ⟨i, by rw [cutL_length]; omega, by rw [cut_at _ _ _ hi (by omega), if_pos rfl, ← h1, he]⟩
  ·exact ⟨j, by rw [cutL_length]; omega, by rw [cut_at _ _ _ hi (by omega), if_neg hji, he]⟩
theorem inU_take {e : Ev} {l : List Ev} {i : Nat} (hi : i < l.length) (h : Un l) : InL e (takeL l i) ↔ InL e l ∧ e ≠ evAt l i := by
 rw [← inU_cut hi h]
 unfold takeL
 by_cases h1 : i < l.length - 1
 ·rw [if_pos h1, inL_kept, kept_upL (by rw [downL_length, cutL_length]; exact h1), kept_downL (by rw [cutL_length]; omega) h1, ← inL_kept]
 ·rw [if_neg h1]
theorem cmp_tell {a b : Ev} (h : a.s ≠ b.s ∨ a.q ≠ b.q) : a.cmp b < 0 ∨ b.cmp a < 0 := by
 unfold Ev.cmp
 rw [cmpI_lt, cmpI_lt]
 omega
structure Alike (h t : List Ev) : Prop where
 w : HeapW h
 u : Un h
 o : Ord1 t
 i : ∀ e, InL e h ↔ InL e t
theorem alike_nil : Alike [] [] := ⟨fun i _ h => by simp at h, fun i j h => by simp at h, fun i j _ h => by simp at h, fun _ => Iff.rfl⟩
theorem Alike.none {h t : List Ev} (a : Alike h t) : 0 < h.length ↔ 0 < t.length := by
 constructor
 ·intro h0
  obtain ⟨j, hj, _⟩ := (a.i (evAt h 0)).1 ⟨0, h0, rfl⟩
  omega
 ·intro h0
  obtain ⟨j, hj, _⟩ := (a.i (evAt t 0)).2 ⟨0, h0, rfl⟩
  omega
theorem Alike.first {h t : List Ev} (a : Alike h t) (h0 : 0 < h.length) : evAt h 0 = evAt t 0 ∧ Alike (takeL h 0) (t.drop 1) := by
 have t0 := a.none.1 h0
 have he : evAt h 0 = evAt t 0 := by
  obtain ⟨j, hj, hje⟩ := (a.i (evAt h 0)).1 ⟨0, h0, rfl⟩
  obtain ⟨k, hk, hke⟩ := (a.i (evAt t 0)).2 ⟨0, t0, rfl⟩
  by_cases hz : j = 0
  ·rw [← hje, hz]
  ·have h1 := a.o 0 j (by omega) hj
   have h2 := heap_first a.w k hk
   rw [hke, ← hje] at h2
   exact absurd h1 h2
 refine ⟨he, take_heap a.w h0, un_take h0 a.u, fun i j hij hj => ?_, fun e => ?_⟩
 ·rw [evAt_drop, evAt_drop]
  exact a.o _ _ (by omega) (by simp at hj; omega)
 ·rw [inU_take h0 a.u, a.i, he]
  constructor
  ·rintro ⟨⟨j, hj, hje⟩, hne⟩
   have : j ≠ 0 := fun hz => hne (by rw [← hje, hz])
   exact ⟨j - 1, by simp; omega, by rw [evAt_drop, ← hje]; congr 1; omega⟩
  ·rintro ⟨j, hj, hje⟩
   rw [evAt_drop] at hje
   simp at hj
   exact ⟨⟨1 + j, by omega, hje⟩, fun hh => by
    have := a.o 0 (1 + j) (by omega) (by omega)
    rw [hje, hh] at this
    exact cmp_asymm this this⟩
def InsAt (l : List Ev) (e : Ev) (p : Nat) : Prop := p ≤ l.length ∧ (∀ j, j < p → (evAt l j).cmp e < 0) ∧ (p < l.length → ¬ (evAt l p).cmp e < 0)
def insL (l : List Ev) (p : Nat) (e : Ev) : List Ev := l.take p ++ e :: l.drop p
theorem insL_length {l : List Ev} {p : Nat} (hp : p ≤ l.length) (e : Ev) : (insL l p e).length = l.length + 1 := by simp [insL]; omega
theorem insL_at {l : List Ev} {p : Nat} (hp : p ≤ l.length) (e : Ev) (j : Nat) : evAt (insL l p e) j = if j < p then evAt l j else if j = p then e else evAt l (j - 1) := by
 have hl : (l.take p).length = p := by simp; omega
 unfold insL
 by_cases h1 : j < p
 ·rw [if_pos h1, evAt_left _ _ _ (by omega), evAt_take _ _ _ h1]
 ·rw [if_neg h1]
  obtain ⟨d, rfl⟩ : ∃ d, j = p + d := ⟨j - p, by omega⟩
  have := evAt_right (l.take p) (e :: l.drop p) d
  rw [hl] at this
  rw [this]
  cases d with
  | zero => rw [evAt_head, if_pos (by omega)]
  | succ d => rw [evAt_cons, evAt_drop, if_neg (by omega)]; congr 1
theorem Alike.push {h t : List Ev} (a : Alike h t) {e : Ev} {p : Nat} (hp : InsAt t e p) (hne : ∀ x, InL x t → x.s ≠ e.s ∨ x.q ≠ e.q) : Alike (pushL h e) (insL t p e) := by
 have hx : ∀ j, j < h.length → evAt h j ≠ e := fun j hj hh => by
  rcases hne _ ((a.i _).1 ⟨j, hj, rfl⟩) with h1 | h1
  ·exact h1 (by rw [hh])
  ·exact h1 (by rw [hh])
 have hup : ∀ j, p ≤ j → j < t.length → e.cmp (evAt t j) < 0 := fun j hj hl => by
  have h0 : e.cmp (evAt t p) < 0 := (cmp_tell (hne _ ⟨p, by omega, rfl⟩)).resolve_left (hp.2.2 (by omega))
  by_cases hz : j = p
  ·rw [hz]; exact h0
  ·exact cmp_trans h0 (a.o p j (by omega) hl)
 refine ⟨push_heap a.w, un_push a.u hx, fun i j hij hj => ?_, fun x => ?_⟩
 ·rw [insL_length hp.1] at hj
  rw [insL_at hp.1, insL_at hp.1]
  by_cases j1 : j < p
  ·rw [if_pos j1, if_pos (by omega)]
   exact a.o i j hij (by have := hp.1; omega)
  ·rw [if_neg j1]
   by_cases j2 : j = p
   ·rw [if_pos j2, if_pos (by omega)]
    exact hp.2.1 i (by omega)
   ·rw [if_neg j2]
    by_cases i1 : i < p
    ·rw [if_pos i1]
     exact a.o i (j - 1) (by omega) (by omega)
    ·rw [if_neg i1]
     by_cases i2 : i = p
     ·rw [if_pos i2]
      exact hup _ (by omega) (by omega)
     ·rw [if_neg i2]
      exact a.o _ _ (by omega) (by omega)
 ·rw [inL_push, a.i]
  constructor
  ·rintro (⟨j, hj, hje⟩ | rfl)
   ·by_cases h1 : j < p
    ·exact ⟨j, by rw [insL_length hp.1]; omega, by rw [insL_at hp.1, if_pos h1, hje]⟩
    ·exact ⟨j + 1, by rw [insL_length hp.1]; omega, by rw [insL_at hp.1, if_neg (by omega), if_neg (by omega), ← hje]; rfl⟩
   ·exact ⟨p, by rw [insL_length hp.1]; have := hp.1; omega, by rw [insL_at hp.1, if_neg (by omega), if_pos rfl]⟩
  ·rintro ⟨j, hj, hje⟩
   rw [insL_length hp.1] at hj
   rw [insL_at hp.1] at hje
   by_cases h1 : j < p
   ·rw [if_pos h1] at hje
    exact .inl ⟨j, by have := hp.1; omega, hje⟩
   ·rw [if_neg h1] at hje
    by_cases h2 : j = p
    ·rw [if_pos h2] at hje
     exact .inr hje.symm
    ·rw [if_neg h2] at hje
     exact .inl ⟨j - 1, by omega, hje⟩
end Go.Proofs.YtbljfphdghfkfaaGreatDoor

