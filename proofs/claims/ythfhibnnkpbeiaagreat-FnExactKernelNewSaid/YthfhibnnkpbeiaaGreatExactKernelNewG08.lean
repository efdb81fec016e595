/- TPsB, TPtA, TPtC, TMk -/
import Derived.Test.YthfhibnnkpbeiaaGreatExactKernelNewG07
import Derived.Deep.RegionHeld3
/- eqPastS: two rows alike. -/
namespace Go.Proofs.YthfhibnnkpbeiaaGreat
open Go.RowKit
set_option maxHeartbeats 8000000 in
theorem eq_pasts (x y : Value) (l : List Ps) (w : World) (hl : (pastsD l).wt ≤ 1048576) (hx : IsD w x (pastsD l)) (hy : IsD w y (pastsD l)) :
  Calls Tryz.prog 109 #[x, y] w fun e w' => e = .returned (.bool true) ∧ Below w.heap.size w w' := by
 obtain ⟨a, cap, rfl, h1, h2, h⟩ := IsD.parts (c := 12) (n := l.length) hx
 obtain ⟨a', cap', rfl, h1', h2', h'⟩ := IsD.parts (c := 12) (n := l.length) hy
 have HS : Hid ((pastsD l).wt ≤ 1048576) := hl
 have hl2 : l.length ≤ 1048576 := by rw [pastsD_wt] at hl; omega
 clear h1 h2 h1' h2' hx hy hl
 go_enter Tryz.func109, Tryz.ntmps109
 go_wp2
 go_loopw [5] (fun i wr => ∃ k : Nat, k ≤ l.length ∧ i = .int .i64 k ∧ Below w.heap.size w wr) (fun i _ => l.length - (intOf i).toNat)
 case atStart => exact ⟨0, Nat.zero_le _, rfl, Below.refl _ _⟩
 case round =>
  obtain ⟨k, hk, rfl, hB⟩ := hrel
  have HB : Hid (Below w.heap.size w wr) := hB
  by_cases hlt : k < l.length
  ·obtain ⟨b, off, rfl, hb, hc⟩ := h.resolve_left (by omega)
   obtain ⟨b', off', rfl, hb', hc'⟩ := h'.resolve_left (by omega)
   obtain ⟨u7, u10, u11, f0, f1, f2, f3, f4, f5, f6, f7, f8, f9, f10, f11, d7, d10, d11⟩ := pastsD_in (fun j hj => by
    obtain ⟨u, hu, hd⟩ := hc j hj
    exact ⟨u, (hB.cell (p := ⟨b, off + j, none⟩) hb).trans hu, hd.under hB⟩) hlt
   obtain ⟨v7, v10, v11, e0, e1, e2, e3, e4, e5, e6, e7, e8, e9, e10, e11, g7, g10, g11⟩ := pastsD_in (fun j hj => by
    obtain ⟨u, hu, hd⟩ := hc' j hj
    exact ⟨u, (hB.cell (p := ⟨b', off' + j, none⟩) hb').trans hu, hd.under hB⟩) hlt
   have HD : Hid (IsPast wr.drew (.agg #[.int .i64 (psAt l k).e.t, .int .i64 (psAt l k).e.s, .int .i64 (psAt l k).e.q, .int .i64 (psAt l k).e.d, .int .i64 (psAt l k).e.k, .int .i64 (psAt l k).e.v, .int .i64 (psAt l k).e.g, u7, .int .i64 (psAt l k).b.q, .int .i64 (psAt l k).b.d, u10, u11]) (psAt l k)) := IsPast.under (w := wr) ⟨u7, u10, u11, rfl, d7, d10, d11⟩ (Below.refl _ wr).drew
   have HG : Hid (IsPast wr.drew (.agg #[.int .i64 (psAt l k).e.t, .int .i64 (psAt l k).e.s, .int .i64 (psAt l k).e.q, .int .i64 (psAt l k).e.d, .int .i64 (psAt l k).e.k, .int .i64 (psAt l k).e.v, .int .i64 (psAt l k).e.g, v7, .int .i64 (psAt l k).b.q, .int .i64 (psAt l k).b.d, v10, v11]) (psAt l k)) := IsPast.under (w := wr) ⟨v7, v10, v11, rfl, g7, g10, g11⟩ (Below.refl _ wr).drew
   have HW : Hid ((psAt l k).wt ≤ 1048576) := Nat.le_trans (Ps.wt_le hlt) HS.out
   have hbr : b < wr.heap.size := Nat.lt_of_lt_of_le hb hB.size
   have hbr' : b' < wr.heap.size := Nat.lt_of_lt_of_le hb' hB.size
   clear hB hc hc' h h' d7 d10 d11 g7 g10 g11
   go_wp2_with fail
   go_region_held3 (fun W => W.cell? ⟨b, off + k * 12, none⟩ = some (.int .i64 (psAt l k).e.t) ∧ W.cell? ⟨b, off + k * 12 + 1, none⟩ = some (.int .i64 (psAt l k).e.s) ∧ W.cell? ⟨b, off + k * 12 + 2, none⟩ = some (.int .i64 (psAt l k).e.q) ∧ W.cell? ⟨b, off + k * 12 + 3, none⟩ = some (.int .i64 (psAt l k).e.d) ∧ W.cell? ⟨b, off + k * 12 + 4, none⟩ = some (.int .i64 (psAt l k).e.k) ∧ W.cell? ⟨b, off + k * 12 + 5, none⟩ = some (.int .i64 (psAt l k).e.v) ∧ W.cell? ⟨b, off + k * 12 + 6, none⟩ = some (.int .i64 (psAt l k).e.g) ∧ W.cell? ⟨b, off + k * 12 + 7, none⟩ = some (u7) ∧ W.cell? ⟨b, off + k * 12 + 8, none⟩ = some (.int .i64 (psAt l k).b.q) ∧ W.cell? ⟨b, off + k * 12 + 9, none⟩ = some (.int .i64 (psAt l k).b.d) ∧ W.cell? ⟨b, off + k * 12 + 10, none⟩ = some (u10) ∧ W.cell? ⟨b, off + k * 12 + 11, none⟩ = some (u11) ∧ W.cell? ⟨b', off' + k * 12, none⟩ = some (.int .i64 (psAt l k).e.t) ∧ W.cell? ⟨b', off' + k * 12 + 1, none⟩ = some (.int .i64 (psAt l k).e.s) ∧ W.cell? ⟨b', off' + k * 12 + 2, none⟩ = some (.int .i64 (psAt l k).e.q) ∧ W.cell? ⟨b', off' + k * 12 + 3, none⟩ = some (.int .i64 (psAt l k).e.d) ∧ W.cell? ⟨b', off' + k * 12 + 4, none⟩ = some (.int .i64 (psAt l k).e.k) ∧ W.cell? ⟨b', off' + k * 12 + 5, none⟩ = some (.int .i64 (psAt l k).e.v) ∧ W.cell? ⟨b', off' + k * 12 + 6, none⟩ = some (.int .i64 (psAt l k).e.g) ∧ W.cell? ⟨b', off' + k * 12 + 7, none⟩ = some (v7) ∧ W.cell? ⟨b', off' + k * 12 + 8, none⟩ = some (.int .i64 (psAt l k).b.q) ∧ W.cell? ⟨b', off' + k * 12 + 9, none⟩ = some (.int .i64 (psAt l k).b.d) ∧ W.cell? ⟨b', off' + k * 12 + 10, none⟩ = some (v10) ∧ W.cell? ⟨b', off' + k * 12 + 11, none⟩ = some (v11)) ((repeat' apply And.intro) <;> first | (go_keep; done) | (rw [hcA _ _ (by first | omega | (simp; omega) | simp [*])]; simp [*]; done))
    (first | (go_at_call 125; refine (eqPast_same _ _ (psAt l k) _ HW.out HD.out HG.out).mono ?_; rintro e w2 ⟨rfl, hb2⟩; obtain ⟨hcA, hfA⟩ := bcell hb2))
   clear hcA hfA
   go_wp2
   go_roundw
   case rel => exact ⟨k + 1, by omega, by go_num, HB.out.drew.trans (hb2.mono (by have := HB.out.size; simpa using this))⟩
   case measure => simp [intOf]; omega
  ·clear hB h h'
   go_wp2
   go_ret
   exact ⟨rfl, HB.out⟩
end Go.Proofs.YthfhibnnkpbeiaaGreat

/- szPart, eqPart. -/
namespace Go.Proofs.YthfhibnnkpbeiaaGreat
open Go.RowKit
set_option maxHeartbeats 4000000 in
theorem eqPart_same (x y : Value) (p : Pa) (w : World) (hw : p.wt ≤ 1048576) (hx : IsPart w x p) (hy : IsPart w y p) :
  Calls Tryz.prog 83 #[x, y] w fun e w' => e = .returned (.bool true) ∧ Below w.heap.size w w' := by
 obtain ⟨u1, u4, u5, u6, rfl, h1, h4, h5, h6⟩ := hx
 obtain ⟨v1, v4, v5, v6, rfl, k1, k4, k5, k6⟩ := hy
 have H1 : Hid (IsD w u1 (intsD p.st.r) ∧ IsD w v1 (intsD p.st.r)) := ⟨h1, k1⟩
 have H4 : Hid (IsD w u4 (pastsD p.p) ∧ IsD w v4 (pastsD p.p)) := ⟨h4, k4⟩
 have H5 : Hid (IsD w u5 (evsD p.t) ∧ IsD w v5 (evsD p.t)) := ⟨h5, k5⟩
 have H6 : Hid (IsD w u6 (intsD p.a) ∧ IsD w v6 (intsD p.a)) := ⟨h6, k6⟩
 have HS : Hid (p.wt ≤ 1048576) := hw
 clear hw h1 k1 h4 k4 h5 k5 h6 k6
 obtain ⟨W0, hW0⟩ : ∃ W0, (w.alloc (.cells #[.int .i64 p.n, u1, .int .i64 p.st.q, .int .i64 p.st.d, u4, u5, u6] 70)).alloc (.cells #[.int .i64 p.n, v1, .int .i64 p.st.q, .int .i64 p.st.d, v4, v5, v6] 70) = W0 := ⟨_, rfl⟩
 have HB0 : Hid (Below w.heap.size w W0) := by rw [← hW0]; exact ((Below.refl _ w).alloc (Nat.le_refl _) _).alloc (by simp) _
 have HP0 : Hid (Bk W0 w.heap.size 70 #[.int .i64 p.n, u1, .int .i64 p.st.q, .int .i64 p.st.d, u4, u5, u6]) := by rw [← hW0]; exact (Bk.new w _ _).alloc _
 have HQ0 : Hid (Bk W0 (w.heap.size + 1) 70 #[.int .i64 p.n, v1, .int .i64 p.st.q, .int .i64 p.st.d, v4, v5, v6]) := by rw [← hW0]; exact Bk.newAt (by simp) _ _
 have HW : Hid ((w.alloc (.cells #[.int .i64 p.n, u1, .int .i64 p.st.q, .int .i64 p.st.d, u4, u5, u6] 70)).alloc (.cells #[.int .i64 p.n, v1, .int .i64 p.st.q, .int .i64 p.st.d, v4, v5, v6] 70) = W0) := hW0
 clear hW0
 go_enter Tryz.func83, Tryz.ntmps83
 have p0 := HP0.out.cell (i := 0) rfl
 have q0 := HQ0.out.cell (i := 0) rfl
 have p1 := HP0.out.cell (i := 1) rfl
 have q1 := HQ0.out.cell (i := 1) rfl
 have p2 := HP0.out.cell (i := 2) rfl
 have q2 := HQ0.out.cell (i := 2) rfl
 have p3 := HP0.out.cell (i := 3) rfl
 have q3 := HQ0.out.cell (i := 3) rfl
 go_wp2_with fail
 rw [HW.out]
 clear HW
 clear p0 q0 p1 q1 p2 q2 p3 q3
 refine (eqState_same _ _ p.st _ (by have := HS.out; unfold Pa.wt at this; simp only [evs_wt, ints_wt] at this; omega) ⟨_, rfl, (H1.out.1.under HB0.out).isI⟩ ⟨_, rfl, (H1.out.2.under HB0.out).isI⟩).mono ?_
 rintro e w1 ⟨rfl, hb⟩
 have HB1 : Hid (Below w.heap.size w w1) := HB0.out.trans (hb.mono HB0.out.size)
 have HP1 : Hid (Bk w1 w.heap.size 70 #[.int .i64 p.n, u1, .int .i64 p.st.q, .int .i64 p.st.d, u4, u5, u6]) := HP0.out.below hb
 have HQ1 : Hid (Bk w1 (w.heap.size + 1) 70 #[.int .i64 p.n, v1, .int .i64 p.st.q, .int .i64 p.st.d, v4, v5, v6]) := HQ0.out.below hb
 clear hb
 have p4 := HP1.out.cell (i := 4) rfl
 have q4 := HQ1.out.cell (i := 4) rfl
 go_wp2_with fail
 clear p4 q4
 refine (eq_pasts _ _ p.p _ (by have := HS.out; unfold Pa.wt at this; simp only [evs_wt, ints_wt] at this; omega) (H4.out.1.under HB1.out) (H4.out.2.under HB1.out)).mono ?_
 rintro e w2 ⟨rfl, hb⟩
 have HB2 : Hid (Below w.heap.size w w2) := HB1.out.trans (hb.mono HB1.out.size)
 have HP2 : Hid (Bk w2 w.heap.size 70 #[.int .i64 p.n, u1, .int .i64 p.st.q, .int .i64 p.st.d, u4, u5, u6]) := HP1.out.below hb
 have HQ2 : Hid (Bk w2 (w.heap.size + 1) 70 #[.int .i64 p.n, v1, .int .i64 p.st.q, .int .i64 p.st.d, v4, v5, v6]) := HQ1.out.below hb
 clear hb
 have p5 := HP2.out.cell (i := 5) rfl
 have q5 := HQ2.out.cell (i := 5) rfl
 go_wp2_with fail
 clear p5 q5
 refine (eq_evs _ _ p.t _ (by have := HS.out; unfold Pa.wt at this; simp only [evs_wt, ints_wt] at this; omega) (H5.out.1.under HB2.out) (H5.out.2.under HB2.out)).mono ?_
 rintro e w3 ⟨rfl, hb⟩
 have HB3 : Hid (Below w.heap.size w w3) := HB2.out.trans (hb.mono HB2.out.size)
 have HP3 : Hid (Bk w3 w.heap.size 70 #[.int .i64 p.n, u1, .int .i64 p.st.q, .int .i64 p.st.d, u4, u5, u6]) := HP2.out.below hb
 have HQ3 : Hid (Bk w3 (w.heap.size + 1) 70 #[.int .i64 p.n, v1, .int .i64 p.st.q, .int .i64 p.st.d, v4, v5, v6]) := HQ2.out.below hb
 clear hb
 have p6 := HP3.out.cell (i := 6) rfl
 have q6 := HQ3.out.cell (i := 6) rfl
 go_wp2_with fail
 clear p6 q6
 refine (eq_ints _ _ p.a _ (by have := HS.out; unfold Pa.wt at this; simp only [evs_wt, ints_wt] at this; omega) (H6.out.1.under HB3.out) (H6.out.2.under HB3.out)).mono ?_
 rintro e w4 ⟨rfl, hb⟩
 have HB4 : Hid (Below w.heap.size w w4) := HB3.out.trans (hb.mono HB3.out.size)
 have HP4 : Hid (Bk w4 w.heap.size 70 #[.int .i64 p.n, u1, .int .i64 p.st.q, .int .i64 p.st.d, u4, u5, u6]) := HP3.out.below hb
 have HQ4 : Hid (Bk w4 (w.heap.size + 1) 70 #[.int .i64 p.n, v1, .int .i64 p.st.q, .int .i64 p.st.d, v4, v5, v6]) := HQ3.out.below hb
 clear hb
 go_wp2
 go_ret
 exact ⟨rfl, HB4.out⟩
end Go.Proofs.YthfhibnnkpbeiaaGreat

/- toPart: a copy of its own. -/
namespace Go.Proofs.YthfhibnnkpbeiaaGreat
open Go.RowKit
def PartF (F : Nat → Prop) (w : World) (y : Value) (p : Pa) : Prop :=
 ∃ (A1 A4 A5 A6 : Nat → Prop) (u1 u4 u5 u6 : Value), y = .agg #[.int .i64 p.n, u1, .int .i64 p.st.q, .int .i64 p.st.d, u4, u5, u6] ∧ OwnD w A1 u1 (intsD p.st.r) ∧ OwnD w A4 u4 (pastsD p.p) ∧ OwnD w A5 u5 (evsD p.t) ∧ OwnD w A6 u6 (intsD p.a) ∧ (∀ k, A1 k → F k ∧ ¬ A4 k ∧ ¬ A5 k ∧ ¬ A6 k) ∧ (∀ k, A4 k → F k ∧ ¬ A5 k ∧ ¬ A6 k) ∧ (∀ k, A5 k → F k ∧ ¬ A6 k) ∧ (∀ k, A6 k → F k)
theorem PartF.turns {F S : Nat → Prop} {w w' : World} {y : Value} {p : Pa} (h : PartF F w y p) (ht : Turns S w w') (hS : ∀ k, F k → ¬ S k) : PartF F w' y p := by
 obtain ⟨A1, A4, A5, A6, u1, u4, u5, u6, rfl, h1, h4, h5, h6, d1, d4, d5, d6⟩ := h
 exact ⟨A1, A4, A5, A6, u1, u4, u5, u6, rfl, h1.turns ht (fun k hk => hS k (d1 k hk).1), h4.turns ht (fun k hk => hS k (d4 k hk).1), h5.turns ht (fun k hk => hS k (d5 k hk).1), h6.turns ht (fun k hk => hS k (d6 k hk)), d1, d4, d5, d6⟩
theorem PartF.under {F : Nat → Prop} {w w' : World} {y : Value} {p : Pa} (h : PartF F w y p) (hb : Below w.heap.size w w') : PartF F w' y p :=
 h.turns (S := fun _ => False) (Turns.of_below hb) (fun _ _ => id)
theorem PartF.mono {F F' : Nat → Prop} {w : World} {y : Value} {p : Pa} (h : PartF F w y p) (hF : ∀ k, F k → F' k) : PartF F' w y p := by
 obtain ⟨A1, A4, A5, A6, u1, u4, u5, u6, rfl, h1, h4, h5, h6, d1, d4, d5, d6⟩ := h
 exact ⟨A1, A4, A5, A6, u1, u4, u5, u6, rfl, h1, h4, h5, h6, fun k hk => ⟨hF k (d1 k hk).1, (d1 k hk).2⟩, fun k hk => ⟨hF k (d4 k hk).1, (d4 k hk).2⟩, fun k hk => ⟨hF k (d5 k hk).1, (d5 k hk).2⟩, fun k hk => hF k (d6 k hk)⟩
theorem PartF.form {F : Nat → Prop} {w : World} {y : Value} {p : Pa} (h : PartF F w y p) : ∃ a1 c1 a4 c4 a5 c5 a6 c6, y = .agg #[.int .i64 p.n, .slice a1 p.st.r.length c1, .int .i64 p.st.q, .int .i64 p.st.d, .slice a4 p.p.length c4, .slice a5 p.t.length c5, .slice a6 p.a.length c6] := by
 obtain ⟨A1, A4, A5, A6, u1, u4, u5, u6, rfl, h1, h4, h5, h6, d1, d4, d5, d6⟩ := h
 obtain ⟨a1, c1, rfl, _⟩ := OwnD.parts (c := 1) (n := p.st.r.length) h1
 obtain ⟨a4, c4, rfl, _⟩ := OwnD.parts (c := 12) (n := p.p.length) h4
 obtain ⟨a5, c5, rfl, _⟩ := OwnD.parts (c := 7) (n := p.t.length) h5
 obtain ⟨a6, c6, rfl, _⟩ := OwnD.parts (c := 1) (n := p.a.length) h6
 exact ⟨a1, c1, a4, c4, a5, c5, a6, c6, rfl⟩
end Go.Proofs.YthfhibnnkpbeiaaGreat

/- Marks, cell by cell. -/
namespace Go.Proofs.YthfhibnnkpbeiaaGreat
open Go.RowKit
def sumC (f : Nat → Dat) (j : Nat) : Nat := sumL (fun i => (f i).cnt) j
def mkD (f : Nat → Dat) (z : Int) (m : Nat) : Nat → Dat := fun j => if j < m then (f j).mark (z + (sumC f j : Int)) else f j
theorem upd_mkD (f : Nat → Dat) (z : Int) (m : Nat) : upd (mkD f z m) m ((f m).mark (z + (sumC f m : Int))) = mkD f z (m + 1) := by
 funext j
 simp only [upd, mkD]
 by_cases e : j = m
 ·subst e; rw [if_pos rfl, if_pos (by omega)]
 ·rw [if_neg e]
  by_cases e2 : j < m
  ·rw [if_pos e2, if_pos (by omega)]
  ·rw [if_neg e2, if_neg (by omega)]
theorem OwnD.mk0 {F : Nat → Prop} {w : World} {x : Value} {c n : Nat} {f : Nat → Dat} (z : Int) (h : OwnD w F x (.row c n f)) : OwnD w F x (.row c n (mkD f z (0 * c))) :=
 h.congr (fun j _ => by simp [mkD])
theorem OwnD.mkAll {F : Nat → Prop} {w : World} {x : Value} {c n : Nat} {f : Nat → Dat} {z : Int} (h : OwnD w F x (.row c n (mkD f z (n * c)))) : OwnD w F x ((Dat.row c n f).mark z) :=
 OwnD.congr (f' := fun j => (f j).mark (z + (sumL (fun i => (f i).cnt) j : Int))) h (fun j hj => by simp only [mkD]; rw [if_pos hj]; rfl)
theorem OwnD.mk_val {F : Nat → Prop} {w : World} {g n cap c m : Nat} {f : Nat → Dat} {z : Int} (h : OwnD w F (.slice (some ⟨g, 0, none⟩) n cap) (.row c n (mkD f z m))) (hm : m < n * c) {u v : Value} (hv : f m = .val v) (hu : u = mark1 v (z + (sumC f m : Int))) :
  OwnD (w.setCell ⟨g, m, none⟩ u) F (.slice (some ⟨g, 0, none⟩) n cap) (.row c n (mkD f z (m + 1))) := by
 have := h.put_val hm u
 rw [← upd_mkD, hv]
 rw [hu] at this ⊢
 exact this
theorem OwnD.mk_row {F : Nat → Prop} {w : World} {g n cap c m : Nat} {f : Nat → Dat} {z : Int} (h : OwnD w F (.slice (some ⟨g, 0, none⟩) n cap) (.row c n (mkD f z m))) (hm : m < n * c) :
  ∃ u K, w.cell? ⟨g, m, none⟩ = some u ∧ OwnD w K u (f m) ∧ (∀ k, K k → F k) ∧ ∀ w', OwnD w' K u ((f m).mark (z + (sumC f m : Int))) → Turns K w w' → OwnD w' F (.slice (some ⟨g, 0, none⟩) n cap) (.row c n (mkD f z (m + 1))) := by
 obtain ⟨u, K, h1, _, h3, h4, h5⟩ := h.step hm
 refine ⟨u, K, h1, ?_, fun k hk => (h4 k hk).1, fun w' hw ht => ?_⟩
 ·have e : mkD f z m m = f m := by simp [mkD]
  rw [e] at h3; exact h3
 ·have := h5 w' _ hw ht
  rw [upd_mkD] at this; exact this
theorem OwnD.marked {F : Nat → Prop} {w : World} {g n cap c : Nat} {f : Nat → Dat} {z : Int} (h : OwnD w F (.slice (some ⟨g, 0, none⟩) n cap) ((Dat.row c n f).mark z)) {j : Nat} (hj : j < n * c) :
  ∃ u K, w.cell? ⟨g, j, none⟩ = some u ∧ OwnD w K u ((f j).mark (z + (sumC f j : Int))) := by
 obtain ⟨u, K, h1, _, h3, _⟩ := OwnD.step (f := fun j => (f j).mark (z + (sumL (fun i => (f i).cnt) j : Int))) h hj
 exact ⟨u, K, h1, h3⟩
theorem OwnD.marked_val {F : Nat → Prop} {w : World} {g n cap c : Nat} {f : Nat → Dat} {z : Int} (h : OwnD w F (.slice (some ⟨g, 0, none⟩) n cap) ((Dat.row c n f).mark z)) {j : Nat} (hj : j < n * c) {v u : Value} (hv : f j = .val v) (hu : u = mark1 v (z + (sumC f j : Int))) :
  w.cell? ⟨g, j, none⟩ = some u := by
 obtain ⟨u', K, h1, h2⟩ := h.marked hj
 rw [hv] at h2
 rw [h1, h2.isD.val_eq, hu]
theorem OwnD.mslice {F : Nat → Prop} {w : World} {x : Value} {n c : Nat} {f : Nat → Dat} {z : Int} (h : OwnD w F x ((Dat.row c n f).mark z)) : ∃ a cap, x = .slice a n cap ∧ n ≤ maxLen ∧ (n = 0 ∨ ∃ g, a = some ⟨g, 0, none⟩) := by
 obtain ⟨a, cap, e, h1, h2, h⟩ := OwnD.parts (f := fun j => (f j).mark (z + (sumL (fun i => (f i).cnt) j : Int))) h
 exact ⟨a, cap, e, Nat.le_trans h1 h2, h.imp id (fun ⟨g, e, _⟩ => ⟨g, e⟩)⟩
theorem sumC_le {c n : Nat} {f : Nat → Dat} {j : Nat} (h : j ≤ n * c) : sumC f j ≤ (Dat.row c n f).cnt := sumL_mono _ h
theorem sumC_succ (f : Nat → Dat) (j : Nat) : sumC f (j + 1) = sumC f j + (f j).cnt := rfl
end Go.Proofs.YthfhibnnkpbeiaaGreat

