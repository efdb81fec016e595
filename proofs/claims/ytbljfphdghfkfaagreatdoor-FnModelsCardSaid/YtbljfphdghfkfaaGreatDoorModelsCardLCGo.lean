/- The program's goesOn: one event happens, or the course is full, or it asks. -/
import Derived.Test.YtbljfphdghfkfaaGreatDoorModelsCardG37
import Derived.Test.YtbljfphdghfkfaaGreatDoorModelsCardG16
import Derived.Deep.RegionHeld3
import Derived.Deep.Cut
import Derived.Deep.CutBlock
namespace Go.Proofs.YtbljfphdghfkfaaGreatDoor
open Go.RowKit
theorem RowF.evsAt {F : Nat → Prop} {w : World} {a : Option Addr} {cap : Nat} {l : List Ev} (h : RowF F w (.slice a l.length cap) l.length 7 (cellsL l)) : l = [] ∨ ∃ g, a = some ⟨g, 0, none⟩ ∧ F g ∧ EvsAt w g 0 l := by
 obtain ⟨hl, a', cap', e, h1, h2, h⟩ := h
 cases e
 refine h.imp List.eq_nil_of_length_eq_zero ?_
 rintro ⟨g, rfl, hF, hg, hc⟩
 refine ⟨g, rfl, hF, hg, fun i hi => ?_⟩
 have hget : ∀ r, r < 7 → w.cell? ⟨g, 0 + i * 7 + r, none⟩ = (evAt l i).cs[r]? := fun r hr => by
  rw [← cellsL_get l i r hi hr, Nat.zero_add]
  exact (hc _ (by omega)).1
 exact ⟨hget 0 (by omega), hget 1 (by omega), hget 2 (by omega), hget 3 (by omega), hget 4 (by omega), hget 5 (by omega), hget 6 (by omega)⟩
theorem infoEmG : (Tryz.prog.info? 108).map (fun i => (i.zero, i.size, i.bytes)) = some (some (.agg #[.int .i64 0, .int .i64 0, .int .i64 0]), 3, 24) := by kernel_rfl
theorem RowF.cellsAtG {F : Nat → Prop} {w : World} {ad : Addr} {n cap c : Nat} {cs : List Value} (h : RowF F w (.slice (some ad) n cap) n c cs) : ∀ j u, cs[j]? = some u → w.cell? (ad.add j) = some u := by
 obtain ⟨hl, a', cap', e, h1, h2, h⟩ := h
 cases e
 intro j u hu
 have hj : j < cs.length := (List.getElem?_eq_some_iff.1 hu).1
 rcases h with h | ⟨g, e, hF, hg, hc⟩
 ·rw [h] at hl; omega
 ·cases e
  rw [addr_add, Nat.zero_add, (hc j (by omega)).1, hu]
theorem step_append_zero {P : Program} {ops : Array Oper} {o : Oper} {a : Act} {w : World} {K : Act → World → Prop} {Q : Exit → Act → World → Prop} {E : Prop}
  (hg : o.guard = none) (s x : Operand) (t : TypeId) (hop : o.op = Op.call { callee := Callee.builtin Builtin.append, args := #[s, x], argTypes := #[t, t] })
  (base : Nat) (e : TypeId) (i : TypeInfo) (size : Nat) (h1 : P.underlying t = some (.slice e)) (h2 : P.info? e = some i)
  (v : Value) (n c m : Nat) (xs : List Value) (hs : a.eval s = v) (hown : w.ownsRow base e size v n xs) (hx : a.eval x = .slice none m c) (hm : m = 0) (hK : K (a.put o.dst v) w) :
  if Region.wanted o (yielded ops a.tmps) = true then Oper.wp P o a w K Q else E := by
 subst hm
 have hw : Region.wanted o (yielded ops a.tmps) = true := by simp [Region.wanted, hg]
 rw [if_pos hw]
 have hr := run_append_zero (P := P) (w := w) base t o.type e i size h1 h2 v n c xs hown
 unfold Oper.wp execOp
 simp only [hop, resolve, invoke, builtin, Sem.run_bind, Sem.run_pure, Result.andThen_ok, List.map_toArray, List.map_cons, List.map_nil, hs, hx, hr]
 exact hK
def HiEnd (B Cb : Nat) (w : World) (h : Hi) : Prop := ∃ ve vx, HiF (fun j => B ≤ j ∧ j < w.heap.size) w (.agg #[ve, vx, .int .i64 h.k, .bool h.f]) h ∧ w.cell? ⟨Cb, 23, none⟩ = some ve ∧ w.cell? ⟨Cb, 24, none⟩ = some vx ∧ w.cell? ⟨Cb, 25, none⟩ = some (.int .i64 h.k) ∧ w.cell? ⟨Cb, 26, none⟩ = some (.bool h.f)
def GoesOn (B Cb P : Nat) (w : World) (ms : List Value) (c0 c1 c2 c3 z : Int) (c : Co) (i : Nat) (e : Ev) (EF : Ef) (bb : Bool) : Prop :=
 (c.ev.length = 150 ∧ bb = false ∧ HiEnd B Cb w ⟨c.ev, c.em, -1, true⟩) ∨ (c.ev.length ≠ 150 ∧ 0 ≤ EF.k ∧ bb = false ∧ HiEnd B Cb w ⟨c.ev, c.em, EF.k, false⟩) ∨
 (c.ev.length ≠ 150 ∧ ¬ 0 ≤ EF.k ∧ bb = true ∧ ∃ l' v' ve' vx', PCo B Cb P w ms c0 c1 c2 c3 l' v' ve' vx' ⟨planH z c.td (bares EF.s), c.st.set i EF.st, c.ev ++ [e], c.em ++ EF.x⟩)
def GoesEnd (B Cb P : Nat) (w w' : World) (ms : List Value) (c0 c1 c2 c3 z : Int) (c : Co) (i : Nat) (e : Ev) (EF : Ef) (r : Ending) : Prop := ∃ bb, r = .returned (.bool bb) ∧ Below B w w' ∧ GoesOn B Cb P w' ms c0 c1 c2 c3 z c i e EF bb
theorem PCo.ends {B Cb P : Nat} {w : World} {ms : List Value} {c0 c1 c2 c3 : Int} {l : List Pt} {v ve vx : Value} {c : Co} (h : PCo B Cb P w ms c0 c1 c2 c3 l v ve vx c) : HiEnd B Cb w ⟨c.ev, c.em, -1, false⟩ := by
 obtain ⟨_, q1, q2, q3, q4⟩ := course_td (ms := ms) (c0 := c0) (c1 := c1) (c2 := c2) (c3 := c3) (l := l) (P := P) (ve := ve) (vx := vx) h.m6 h.l4 (-1) false
 exact ⟨ve, vx, h.done (S := fun _ => False) (Turns.refl _ _) (fun _ h => h.elim) _ _, h.cb.cell q1, h.cb.cell q2, h.cb.cell q3, h.cb.cell q4⟩
theorem PCo.fulls {B Cb P : Nat} {w : World} {ms : List Value} {c0 c1 c2 c3 : Int} {l : List Pt} {v ve vx : Value} {c : Co} (h : PCo B Cb P w ms c0 c1 c2 c3 l v ve vx c) : HiEnd B Cb (w.setCell ⟨Cb, 26, none⟩ (.bool true)) ⟨c.ev, c.em, -1, true⟩ := by
 have hb := h.cb.put 26 (.bool true)
 rw [course_full h.m6 h.l4] at hb
 obtain ⟨_, q1, q2, q3, q4⟩ := course_td (ms := ms) (c0 := c0) (c1 := c1) (c2 := c2) (c3 := c3) (l := l) (P := P) (ve := ve) (vx := vx) h.m6 h.l4 (-1) true
 exact ⟨ve, vx, h.done (put1_turns w Cb 26 (.bool true)) (fun _ h => .inr h) _ _, hb.cell q1, hb.cell q2, hb.cell q3, hb.cell q4⟩
theorem PCo.asks {B Cb P : Nat} {w : World} {ms : List Value} {c0 c1 c2 c3 : Int} {l : List Pt} {v ve vx : Value} {c : Co} (h : PCo B Cb P w ms c0 c1 c2 c3 l v ve vx c) (k : Int) : HiEnd B Cb (w.setCell ⟨Cb, 25, none⟩ (.int .i64 k)) ⟨c.ev, c.em, k, false⟩ := by
 have hb := h.cb.put 25 (.int .i64 k)
 rw [course_asks h.m6 h.l4] at hb
 obtain ⟨_, q1, q2, q3, q4⟩ := course_td (ms := ms) (c0 := c0) (c1 := c1) (c2 := c2) (c3 := c3) (l := l) (P := P) (ve := ve) (vx := vx) h.m6 h.l4 k false
 exact ⟨ve, vx, h.done (put1_turns w Cb 25 (.int .i64 k)) (fun _ h => .inr h) _ _, hb.cell q1, hb.cell q2, hb.cell q3, hb.cell q4⟩
set_option maxRecDepth 100000 in
set_option maxHeartbeats 16000000 in
theorem goesOn_any (B Cb P i : Nat) (w0 w : World) (m : Md) (ai ah ae : Option Addr) (ci ch ce : Nat) (c0 c1 c2 c3 : Int) (l : List Pt) (v ve vx : Value) (c : Co) (e : Ev) (EF : Ef)
  (hm : IsM w0 (.agg #[.int .i64 m.n, .int .i64 m.s, .slice ai m.i.length ci, .slice ah m.h.length ch, .slice ae m.e.length ce, .int .i64 m.z]) m) (hB : w0.heap.size = B) (hbw : Below B w0 w) (h : PCo B Cb P w [.int .i64 m.n, .int .i64 m.s, .slice ai m.i.length ci, .slice ah m.h.length ch, .slice ae m.e.length ce, .int .i64 m.z] c0 c1 c2 c3 l v ve vx c) (hi : e.d = (i : Int)) (hi1 : i < c.st.length) (hi4 : i < 4) (hf : Fit m c0 c1 c2 c3 (stAt c.st i) e)
  (hEF : effR m [c0, c1, c2, c3] (stAt c.st i) e = EF) (hk0 : c.ev.length ≠ 150 → EF.k = -1 ∨ 0 ≤ EF.k) (hev : c.ev.length ≤ 150) (hem : c.em.length ≤ 1200) (htd : Kept (fun e => e.ok = true) c.td) (htl : c.td.length ≤ 2000)
  (hgo : c.ev.length ≠ 150 → ¬ 0 ≤ EF.k → EF.s.length ≤ 8 ∧ EF.x.length ≤ 8 ∧ ∀ j, j < EF.s.length → (evAt EF.s j).bare.ok = true) :
  Calls Tryz.prog 55 #[.pointer (some ⟨Cb, 0, none⟩), .agg #[.int .i64 e.t, .int .i64 e.s, .int .i64 e.q, .int .i64 (i : Int), .int .i64 e.k, .int .i64 e.v, .int .i64 e.g]] w fun r w' => GoesEnd B Cb P w w' [.int .i64 m.n, .int .i64 m.s, .slice ai m.i.length ci, .slice ah m.h.length ch, .slice ae m.e.length ce, .int .i64 m.z] c0 c1 c2 c3 m.z c i e EF r := by
 have HM : Hid (IsM w0 (.agg #[.int .i64 m.n, .int .i64 m.s, .slice ai m.i.length ci, .slice ah m.h.length ch, .slice ae m.e.length ce, .int .i64 m.z]) m) := hm
 have HF : Hid (Fit m c0 c1 c2 c3 (stAt c.st i) e) := hf
 have HEF : Hid (effR m [c0, c1, c2, c3] (stAt c.st i) e = EF) := hEF
 have HDi : Hid (e.d = (i : Int)) := hi
 have HTD : Hid (Kept (fun e => e.ok = true) c.td ∧ (c.ev.length ≠ 150 → ¬ 0 ≤ EF.k → EF.s.length ≤ 8 ∧ EF.x.length ≤ 8 ∧ ∀ j, j < EF.s.length → (evAt EF.s j).bare.ok = true)) := ⟨htd, hgo⟩
 have HBW : Hid (Below B w0 w) := hbw
 have HBe : Hid (w0.heap.size = B) := hB
 have hBw : B ≤ w.heap.size := by rw [← hB]; exact hbw.size
 obtain ⟨ea, ec, hve⟩ := owns_form h.es
 obtain ⟨xa, xc, hvx⟩ := owns_form h.xs
 subst hve hvx
 have HP : Hid (PCo B Cb P w [.int .i64 m.n, .int .i64 m.s, .slice ai m.i.length ci, .slice ah m.h.length ch, .slice ae m.e.length ce, .int .i64 m.z] c0 c1 c2 c3 l v (.slice ea c.ev.length ec) (.slice xa c.em.length xc) c) := h
 have hCw : Cb < w.heap.size := h.cb.lt
 have hBC : B ≤ Cb := h.lo
 obtain ⟨_, sa, sc, hsv, _⟩ := h.ss i hi4
 have HSv : Hid ((tAt l i).1 = .slice sa (tAt l i).2.r.length sc) := hsv
 have HK0 : Hid (c.ev.length ≠ 150 → EF.k = -1 ∨ 0 ≤ EF.k) := hk0
 obtain ⟨W3, hW3⟩ : ∃ W3, w.alloc (.cells #[.int .i64 e.t, .int .i64 e.s, .int .i64 e.q, .int .i64 (i : Int), .int .i64 e.k, .int .i64 e.v, .int .i64 e.g] 53) = W3 := ⟨_, rfl⟩
 have hB3 : Below w.heap.size w W3 := by rw [← hW3]; exact (Below.refl _ w).alloc (Nat.le_refl _) _
 have HB3 : Hid (Below w.heap.size w W3) := hB3
 have HE3 : Hid (Bk W3 w.heap.size 53 #[.int .i64 e.t, .int .i64 e.s, .int .i64 e.q, .int .i64 (i : Int), .int .i64 e.k, .int .i64 e.v, .int .i64 e.g]) := by rw [← hW3]; exact Bk.new _ _ _
 have HP3 : Hid (PCo B Cb P W3 [.int .i64 m.n, .int .i64 m.s, .slice ai m.i.length ci, .slice ah m.h.length ch, .slice ae m.e.length ce, .int .i64 m.z] c0 c1 c2 c3 l v (.slice ea c.ev.length ec) (.slice xa c.em.length xc) c) := h.below hB3
 have hs3 : w.heap.size < W3.heap.size := HE3.out.lt
 obtain ⟨q22, q23, q24, q25, q26⟩ := course_td (ms := [.int .i64 m.n, .int .i64 m.s, .slice ai m.i.length ci, .slice ah m.h.length ch, .slice ae m.e.length ce, .int .i64 m.z]) (c0 := c0) (c1 := c1) (c2 := c2) (c3 := c3) (l := l) (P := P) (ve := .slice ea c.ev.length ec) (vx := .slice xa c.em.length xc) rfl h.l4 (-1) false
 have g23 := HP3.out.cb.cell q23
 have g26 := HP3.out.cb.cell q26
 have f26 := HP3.out.cb.free 26
 clear h hm hf hEF hi hbw hB htd hgo hsv hk0 q22 q23 q24 q25 q26 hB3
 by_cases h150 : c.ev.length = 150
 ·have hbo : ((c.ev.length : Int) == 150) = true := by simp [h150]
  have H150 : Hid (c.ev.length = 150) := h150
  clear h150
  go_enter Tryz.func55, Tryz.ntmps55
  try simp only [hW3]
  go_wp2
  refine bodyPost_ret (v := .bool false) (by simp [results, Tryz.results55, go_sem]) rfl ?_
  unfold GoesEnd
  exact ⟨false, rfl, (HB3.out.mono hBw).trans ((put1_turns W3 Cb 26 (.bool true)).to_below (fun k e => by rw [show k = Cb from e]; exact hBC) (by omega)), .inl ⟨H150.out, rfl, HP3.out.fulls⟩⟩
 have hbo : ((c.ev.length : Int) == 150) = false := by simp; omega
 have H150 : Hid (¬ c.ev.length = 150) := h150
 clear h150
 go_enter Tryz.func55, Tryz.ntmps55
 go_wp2
 try simp only [hW3]
 have hst : (tAt l i).2 = stAt c.st i := HP3.out.sl i hi1
 have HST : Hid ((tAt l i).2 = stAt c.st i) := hst
 have HK : Hid (∀ W', Below W3.heap.size W3 W' → W'.cell? ⟨Cb, 0, none⟩ = some (.int .i64 m.n) ∧ W'.cell? ⟨Cb, 1, none⟩ = some (.int .i64 m.s) ∧ W'.cell? ⟨Cb, 2, none⟩ = some (.slice ai m.i.length ci) ∧ W'.cell? ⟨Cb, 3, none⟩ = some (.slice ah m.h.length ch) ∧ W'.cell? ⟨Cb, 4, none⟩ = some (.slice ae m.e.length ce) ∧ W'.cell? ⟨Cb, 5, none⟩ = some (.int .i64 m.z) ∧ W'.cell? ⟨Cb, 6, none⟩ = some (.int .i64 c0) ∧ W'.cell? ⟨Cb, 7, none⟩ = some (.int .i64 c1) ∧ W'.cell? ⟨Cb, 8, none⟩ = some (.int .i64 c2) ∧ W'.cell? ⟨Cb, 9, none⟩ = some (.int .i64 c3) ∧ W'.cell? ⟨w.heap.size, 0, none⟩ = some (.int .i64 e.t) ∧ W'.cell? ⟨w.heap.size, 1, none⟩ = some (.int .i64 e.s) ∧ W'.cell? ⟨w.heap.size, 2, none⟩ = some (.int .i64 e.q) ∧ W'.cell? ⟨w.heap.size, 3, none⟩ = some (.int .i64 (i : Int)) ∧ W'.cell? ⟨w.heap.size, 4, none⟩ = some (.int .i64 e.k) ∧ W'.cell? ⟨w.heap.size, 5, none⟩ = some (.int .i64 e.v) ∧ W'.cell? ⟨w.heap.size, 6, none⟩ = some (.int .i64 e.g) ∧ W'.cell? ⟨Cb, 10 + i * 3, none⟩ = some (.slice sa (tAt l i).2.r.length sc) ∧ W'.cell? ⟨Cb, 10 + i * 3 + 1, none⟩ = some (.int .i64 (tAt l i).2.q) ∧ W'.cell? ⟨Cb, 10 + i * 3 + 2, none⟩ = some (.int .i64 (tAt l i).2.d)) := by
  intro W' hb
  have q := HP3.out.cb.below hb
  have r := HE3.out.below hb
  obtain ⟨t0, t1, t2⟩ := course_at (ms := [.int .i64 m.n, .int .i64 m.s, .slice ai m.i.length ci, .slice ah m.h.length ch, .slice ae m.e.length ce, .int .i64 m.z]) (c0 := c0) (c1 := c1) (c2 := c2) (c3 := c3) (l := l) (P := P) (ve := .slice ea c.ev.length ec) (vx := .slice xa c.em.length xc) rfl HP3.out.l4 (-1) false hi4
  rw [HSv.out] at t0
  exact ⟨q.cell (i := 0) rfl, q.cell (i := 1) rfl, q.cell (i := 2) rfl, q.cell (i := 3) rfl, q.cell (i := 4) rfl, q.cell (i := 5) rfl, q.cell (i := 6) rfl, q.cell (i := 7) rfl, q.cell (i := 8) rfl, q.cell (i := 9) rfl, r.cell (i := 0) rfl, r.cell (i := 1) rfl, r.cell (i := 2) rfl, r.cell (i := 3) rfl, r.cell (i := 4) rfl, r.cell (i := 5) rfl, r.cell (i := 6) rfl, q.cell t0, q.cell t1, q.cell t2⟩
 have HC : Hid (∀ W, Below W3.heap.size W3 W → Calls Tryz.prog 86 #[.agg #[.int .i64 m.n, .int .i64 m.s, .slice ai m.i.length ci, .slice ah m.h.length ch, .slice ae m.e.length ce, .int .i64 m.z], .agg #[.int .i64 c0, .int .i64 c1, .int .i64 c2, .int .i64 c3], .agg #[.slice sa (tAt l i).2.r.length sc, .int .i64 (tAt l i).2.q, .int .i64 (tAt l i).2.d], .agg #[.int .i64 e.t, .int .i64 e.s, .int .i64 e.q, .int .i64 (i : Int), .int .i64 e.k, .int .i64 e.v, .int .i64 e.g]] W fun r w' => ∃ u, r = .returned u ∧ Below W.heap.size W w' ∧ EfF (fun k => W.heap.size ≤ k ∧ k < w'.heap.size) w' u EF) := by
  intro W hb
  have hbb : Below B w0 W := HBW.out.trans ((HB3.out.mono hBw).trans (hb.mono (by omega)))
  rw [← HBe.out] at hbb
  have hs : IsS W (.agg #[.slice sa (tAt l i).2.r.length sc, .int .i64 (tAt l i).2.q, .int .i64 (tAt l i).2.d]) (tAt l i).2 := ⟨_, rfl, by
   have h9 := ((HP3.out.ss i hi4).below hb).isI
   rw [HSv.out] at h9
   exact h9⟩
  have h9 := iEff (.agg #[.int .i64 m.n, .int .i64 m.s, .slice ai m.i.length ci, .slice ah m.h.length ch, .slice ae m.e.length ce, .int .i64 m.z]) (.agg #[.slice sa (tAt l i).2.r.length sc, .int .i64 (tAt l i).2.q, .int .i64 (tAt l i).2.d]) m c0 c1 c2 c3 (tAt l i).2 e W (HM.out.below hbb) hs (by rw [HST.out]; exact HF.out)
  rw [HDi.out, HST.out, HEF.out] at h9
  rw [HST.out]
  exact h9
 have hz4 : (i : Int) < 4 := by omega
 clear hst g23 g26 f26 hbo hW3
 go_cut [5] from 17 to 79 (fun s13 wc => ∃ PP fa fc ga gc ha hc, s13 = .pointer (some ⟨PP, 0, none⟩) ∧ Below W3.heap.size W3 wc ∧ (W3.heap.size ≤ PP ∧ PP < wc.heap.size) ∧ Bk wc PP 154 #[.slice fa EF.st.r.length fc, .int .i64 EF.st.q, .int .i64 EF.st.d, .slice ga EF.s.length gc, .slice ha EF.x.length hc, .int .i64 EF.k] ∧ EfF (fun k => (W3.heap.size ≤ k ∧ k < wc.heap.size) ∧ k ≠ PP) wc (.agg #[.slice fa EF.st.r.length fc, .int .i64 EF.st.q, .int .i64 EF.st.d, .slice ga EF.s.length gc, .slice ha EF.x.length hc, .int .i64 EF.k]) EF)
 case first =>
  refine wp_region_held_drew (S := fun W => W.cell? ⟨Cb, 0, none⟩ = some (.int .i64 m.n) ∧ W.cell? ⟨Cb, 1, none⟩ = some (.int .i64 m.s) ∧ W.cell? ⟨Cb, 2, none⟩ = some (.slice ai m.i.length ci) ∧ W.cell? ⟨Cb, 3, none⟩ = some (.slice ah m.h.length ch) ∧ W.cell? ⟨Cb, 4, none⟩ = some (.slice ae m.e.length ce) ∧ W.cell? ⟨Cb, 5, none⟩ = some (.int .i64 m.z) ∧ W.cell? ⟨Cb, 6, none⟩ = some (.int .i64 c0) ∧ W.cell? ⟨Cb, 7, none⟩ = some (.int .i64 c1) ∧ W.cell? ⟨Cb, 8, none⟩ = some (.int .i64 c2) ∧ W.cell? ⟨Cb, 9, none⟩ = some (.int .i64 c3) ∧ W.cell? ⟨w.heap.size, 0, none⟩ = some (.int .i64 e.t) ∧ W.cell? ⟨w.heap.size, 1, none⟩ = some (.int .i64 e.s) ∧ W.cell? ⟨w.heap.size, 2, none⟩ = some (.int .i64 e.q) ∧ W.cell? ⟨w.heap.size, 3, none⟩ = some (.int .i64 (i : Int)) ∧ W.cell? ⟨w.heap.size, 4, none⟩ = some (.int .i64 e.k) ∧ W.cell? ⟨w.heap.size, 5, none⟩ = some (.int .i64 e.v) ∧ W.cell? ⟨w.heap.size, 6, none⟩ = some (.int .i64 e.g) ∧ W.cell? ⟨Cb, 10 + i * 3, none⟩ = some (.slice sa (tAt l i).2.r.length sc) ∧ W.cell? ⟨Cb, 10 + i * 3 + 1, none⟩ = some (.int .i64 (tAt l i).2.q) ∧ W.cell? ⟨Cb, 10 + i * 3 + 2, none⟩ = some (.int .i64 (tAt l i).2.d)) (by kernel_rfl) (HK.out _ (Below.refl W3.heap.size W3).drew) (fun hHeld => ?_)
  refine wpAnyH_take (i := 0) (oi := { dst := some 17, op := Op.move (Operand.tmp 0), type := 93, pos := _, after := _, guard := none }) (v := .pointer (some ⟨Cb, 0, none⟩)) rfl (by kernel_rfl) (by kernel_rfl) (by kernel_rfl) (fun _ _ _ h => h) (Or.inl ⟨by rfl, ?_⟩) (by assumption) ?_
  ·intro wX hSw
   try dsimp only at hSw
   go_simp
  try simp only [Act.put, List.setIfInBounds_toArray, List.set_cons_zero, List.set_cons_succ]
  refine wpAnyH_take (i := 1) (oi := { dst := some 18, op := Op.nilCheck (Operand.tmp 17), type := 0, pos := _, after := _, guard := none }) (v := .pointer (some ⟨Cb, 0, none⟩)) rfl (by kernel_rfl) (by kernel_rfl) (by kernel_rfl) (fun _ _ _ h => h) (Or.inl ⟨by rfl, ?_⟩) (by assumption) ?_
  ·intro wX hSw
   try dsimp only at hSw
   go_simp
  try simp only [Act.put, List.setIfInBounds_toArray, List.set_cons_zero, List.set_cons_succ]
  refine wpAnyH_take (i := 2) (oi := { dst := some 19, op := Op.fieldAddr 101 (Operand.tmp 18) 0, type := 0, pos := _, after := _, guard := none }) (v := .pointer (some ⟨Cb, 0, none⟩)) rfl (by kernel_rfl) (by kernel_rfl) (by kernel_rfl) (fun _ _ _ h => h) (Or.inl ⟨by rfl, ?_⟩) (by assumption) ?_
  ·intro wX hSw
   try dsimp only at hSw
   go_simp
  try simp only [Act.put, List.setIfInBounds_toArray, List.set_cons_zero, List.set_cons_succ]
  refine wpAnyH_take (i := 3) (oi := { dst := some 20, op := Op.load 27 (Operand.tmp 19), type := 27, pos := _, after := _, guard := none }) (v := .agg #[.int .i64 m.n, .int .i64 m.s, .slice ai m.i.length ci, .slice ah m.h.length ch, .slice ae m.e.length ce, .int .i64 m.z]) rfl (by kernel_rfl) (by kernel_rfl) (by kernel_rfl) (fun _ _ _ h => h) (Or.inl ⟨by rfl, ?_⟩) (by assumption) ?_
  ·intro wX hSw
   try dsimp only at hSw
   go_simp
  try simp only [Act.put, List.setIfInBounds_toArray, List.set_cons_zero, List.set_cons_succ]
  refine wpAnyH_take (i := 4) (oi := { dst := some 21, op := Op.move (Operand.tmp 0), type := 93, pos := _, after := _, guard := none }) (v := .pointer (some ⟨Cb, 0, none⟩)) rfl (by kernel_rfl) (by kernel_rfl) (by kernel_rfl) (fun _ _ _ h => h) (Or.inl ⟨by rfl, ?_⟩) (by assumption) ?_
  ·intro wX hSw
   try dsimp only at hSw
   go_simp
  try simp only [Act.put, List.setIfInBounds_toArray, List.set_cons_zero, List.set_cons_succ]
  refine wpAnyH_take (i := 5) (oi := { dst := some 22, op := Op.nilCheck (Operand.tmp 21), type := 0, pos := _, after := _, guard := none }) (v := .pointer (some ⟨Cb, 0, none⟩)) rfl (by kernel_rfl) (by kernel_rfl) (by kernel_rfl) (fun _ _ _ h => h) (Or.inl ⟨by rfl, ?_⟩) (by assumption) ?_
  ·intro wX hSw
   try dsimp only at hSw
   go_simp
  try simp only [Act.put, List.setIfInBounds_toArray, List.set_cons_zero, List.set_cons_succ]
  refine wpAnyH_take (i := 6) (oi := { dst := some 23, op := Op.fieldAddr 101 (Operand.tmp 22) 1, type := 0, pos := _, after := _, guard := none }) (v := .pointer (some ⟨Cb, 6, none⟩)) rfl (by kernel_rfl) (by kernel_rfl) (by kernel_rfl) (fun _ _ _ h => h) (Or.inl ⟨by rfl, ?_⟩) (by assumption) ?_
  ·intro wX hSw
   try dsimp only at hSw
   go_simp
  try simp only [Act.put, List.setIfInBounds_toArray, List.set_cons_zero, List.set_cons_succ]
  refine wpAnyH_take (i := 7) (oi := { dst := some 24, op := Op.load 90 (Operand.tmp 23), type := 90, pos := _, after := _, guard := none }) (v := .agg #[.int .i64 c0, .int .i64 c1, .int .i64 c2, .int .i64 c3]) rfl (by kernel_rfl) (by kernel_rfl) (by kernel_rfl) (fun _ _ _ h => h) (Or.inl ⟨by rfl, ?_⟩) (by assumption) ?_
  ·intro wX hSw
   try dsimp only at hSw
   go_simp
  try simp only [Act.put, List.setIfInBounds_toArray, List.set_cons_zero, List.set_cons_succ]
  refine wpAnyH_take (i := 8) (oi := { dst := some 25, op := Op.move (Operand.tmp 0), type := 93, pos := _, after := _, guard := none }) (v := .pointer (some ⟨Cb, 0, none⟩)) rfl (by kernel_rfl) (by kernel_rfl) (by kernel_rfl) (fun _ _ _ h => h) (Or.inl ⟨by rfl, ?_⟩) (by assumption) ?_
  ·intro wX hSw
   try dsimp only at hSw
   go_simp
  try simp only [Act.put, List.setIfInBounds_toArray, List.set_cons_zero, List.set_cons_succ]
  refine wpAnyH_take (i := 9) (oi := { dst := some 26, op := Op.fieldAddr 53 (Operand.tmp 3) 3, type := 0, pos := _, after := _, guard := none }) (v := .pointer (some ⟨w.heap.size, 3, none⟩)) rfl (by kernel_rfl) (by kernel_rfl) (by kernel_rfl) (fun _ _ _ h => h) (Or.inl ⟨by rfl, ?_⟩) (by assumption) ?_
  ·intro wX hSw
   try dsimp only at hSw
   go_simp
  try simp only [Act.put, List.setIfInBounds_toArray, List.set_cons_zero, List.set_cons_succ]
  refine wpAnyH_take (i := 10) (oi := { dst := some 27, op := Op.load 3 (Operand.tmp 26), type := 3, pos := _, after := _, guard := none }) (v := .int .i64 (i : Int)) rfl (by kernel_rfl) (by kernel_rfl) (by kernel_rfl) (fun _ _ _ h => h) (Or.inl ⟨by rfl, ?_⟩) (by assumption) ?_
  ·intro wX hSw
   try dsimp only at hSw
   go_simp
  try simp only [Act.put, List.setIfInBounds_toArray, List.set_cons_zero, List.set_cons_succ]
  refine wpAnyH_take (i := 11) (oi := { dst := some 28, op := Op.nilCheck (Operand.tmp 25), type := 0, pos := _, after := _, guard := none }) (v := .pointer (some ⟨Cb, 0, none⟩)) rfl (by kernel_rfl) (by kernel_rfl) (by kernel_rfl) (fun _ _ _ h => h) (Or.inl ⟨by rfl, ?_⟩) (by assumption) ?_
  ·intro wX hSw
   try dsimp only at hSw
   go_simp
  try simp only [Act.put, List.setIfInBounds_toArray, List.set_cons_zero, List.set_cons_succ]
  refine wpAnyH_take (i := 12) (oi := { dst := some 29, op := Op.fieldAddr 101 (Operand.tmp 28) 2, type := 0, pos := _, after := _, guard := none }) (v := .pointer (some ⟨Cb, 10, none⟩)) rfl (by kernel_rfl) (by kernel_rfl) (by kernel_rfl) (fun _ _ _ h => h) (Or.inl ⟨by rfl, ?_⟩) (by assumption) ?_
  ·intro wX hSw
   try dsimp only at hSw
   go_simp
  try simp only [Act.put, List.setIfInBounds_toArray, List.set_cons_zero, List.set_cons_succ]
  refine wpAnyH_take (i := 13) (oi := { dst := some 30, op := Op.indexAddr 97 (Operand.tmp 29) (Operand.tmp 27), type := 0, pos := _, after := _, guard := none }) (v := .pointer (some ⟨Cb, 10 + i * 3, none⟩)) rfl (by kernel_rfl) (by kernel_rfl) (by kernel_rfl) (fun _ _ _ h => h) (Or.inl ⟨by rfl, ?_⟩) (by assumption) ?_
  ·intro wX hSw
   try dsimp only at hSw
   go_simp
  try simp only [Act.put, List.setIfInBounds_toArray, List.set_cons_zero, List.set_cons_succ]
  refine wpAnyH_take (i := 14) (oi := { dst := some 31, op := Op.load 96 (Operand.tmp 30), type := 96, pos := _, after := _, guard := none }) (v := .agg #[.slice sa (tAt l i).2.r.length sc, .int .i64 (tAt l i).2.q, .int .i64 (tAt l i).2.d]) rfl (by kernel_rfl) (by kernel_rfl) (by kernel_rfl) (fun _ _ _ h => h) (Or.inl ⟨by rfl, ?_⟩) (by assumption) ?_
  ·intro wX hSw
   try dsimp only at hSw
   go_simp
  try simp only [Act.put, List.setIfInBounds_toArray, List.set_cons_zero, List.set_cons_succ]
  refine wpAnyH_take (i := 15) (oi := { dst := some 32, op := Op.load 53 (Operand.tmp 3), type := 53, pos := _, after := _, guard := none }) (v := .agg #[.int .i64 e.t, .int .i64 e.s, .int .i64 e.q, .int .i64 (i : Int), .int .i64 e.k, .int .i64 e.v, .int .i64 e.g]) rfl (by kernel_rfl) (by kernel_rfl) (by kernel_rfl) (fun _ _ _ h => h) (Or.inl ⟨by rfl, ?_⟩) (by assumption) ?_
  ·intro wX hSw
   try dsimp only at hSw
   go_simp
  try simp only [Act.put, List.setIfInBounds_toArray, List.set_cons_zero, List.set_cons_succ]
  refine wpAnyH_ready (rs := [16, 17]) (by kernel_rfl) (by simp) ?_
  refine AllReadyH.cons (o := { dst := some 33, op := Op.call { callee := Callee.value (Operand.func 86), args := #[Operand.tmp 20, Operand.tmp 24, Operand.tmp 31, Operand.tmp 32], argTypes := #[27, 90, 96, 53] }, type := 154, pos := _, after := _, guard := none }) rfl (fun K hK => ?_) (AllReadyH.cons (o := { dst := some 5, op := Op.alloc 154, type := 0, pos := _, after := _, guard := none }) rfl (fun K hK => ?_) AllReadyH.nil)
  ·go_simp
   have hcW : W3.heap.size ≤ W3.drew.heap.size := ((Below.refl W3.heap.size W3).drew).size
   refine (HC.out _ (Below.refl W3.heap.size W3).drew).mono ?_
   rintro r we ⟨ue, rfl, hb, hue⟩
   obtain ⟨fa, fc, ga, gc, ha, hc, rfl⟩ := hue.form
   have hk0 : Below W3.heap.size W3 we := ((Below.refl W3.heap.size W3).drew).trans (hb.mono ((Below.refl W3.heap.size W3).drew).size)
   have HU : Hid (EfF (fun k => W3.drew.heap.size ≤ k ∧ k < we.heap.size) we (.agg #[.slice fa EF.st.r.length fc, .int .i64 EF.st.q, .int .i64 EF.st.d, .slice ga EF.s.length gc, .slice ha EF.x.length hc, .int .i64 EF.k]) EF) := hue
   clear hb
   try go_simp
   refine hK.out _ _ (HK.out _ hk0) (fun hHeld => ?_)
   clear hK K
   try simp only [Act.put, List.setIfInBounds_toArray, List.set_cons_zero, List.set_cons_succ]
   refine wpAnyH_ready (rs := [17]) (by kernel_rfl) (by simp) ?_
   refine AllReadyH.cons (o := { dst := some 5, op := Op.alloc 154, type := 0, pos := _, after := _, guard := none }) rfl (fun K hK => ?_) AllReadyH.nil
   go_simp
   refine hK.out _ _ (HK.out _ ((hk0).alloc (hk0).size (.cells #[.slice none 0 0, .int .i64 0, .int .i64 0, .slice none 0 0, .slice none 0 0, .int .i64 0] 154))) (fun hHeld => ?_)
   clear hK K
   try simp only [Act.put, List.setIfInBounds_toArray, List.set_cons_zero, List.set_cons_succ]
   refine wpAnyH_ready (rs := [18]) (by kernel_rfl) (by simp) ?_
   refine AllReadyH.cons (o := { dst := none, op := Op.store 154 (Operand.tmp 5) (Operand.tmp 33), type := 0, pos := _, after := _, guard := none }) rfl (fun K hK => ?_) AllReadyH.nil
   go_simp
   refine hK.out _ _ (HK.out _ (hk0.alloc hk0.size (.cells #[.slice fa EF.st.r.length fc, .int .i64 EF.st.q, .int .i64 EF.st.d, .slice ga EF.s.length gc, .slice ha EF.x.length hc, .int .i64 EF.k] 154))) (fun hHeld => ?_)
   clear hK K
   try simp only [Act.put, List.setIfInBounds_toArray, List.set_cons_zero, List.set_cons_succ]
   refine wpAnyH_done (by kernel_rfl) ?_ _
   go_wp2
   go_meet
   case rel =>
    exact ⟨_, fa, fc, ga, gc, ha, hc, rfl, (hk0.alloc hk0.size (.cells #[.slice fa EF.st.r.length fc, .int .i64 EF.st.q, .int .i64 EF.st.d, .slice ga EF.s.length gc, .slice ha EF.x.length hc, .int .i64 EF.k] 154)), ⟨hk0.size, (Bk.new we 154 #[.slice fa EF.st.r.length fc, .int .i64 EF.st.q, .int .i64 EF.st.d, .slice ga EF.s.length gc, .slice ha EF.x.length hc, .int .i64 EF.k]).lt⟩, Bk.new we 154 #[.slice fa EF.st.r.length fc, .int .i64 EF.st.q, .int .i64 EF.st.d, .slice ga EF.s.length gc, .slice ha EF.x.length hc, .int .i64 EF.k], (HU.out.below ((Below.refl _ we).alloc (Nat.le_refl _) _)).mono (fun k e => ⟨⟨by omega, by simp; omega⟩, by omega⟩)⟩
  ·go_simp
   refine hK.out _ _ (HK.out _ (((Below.refl W3.heap.size W3).drew).alloc ((Below.refl W3.heap.size W3).drew).size (.cells #[.slice none 0 0, .int .i64 0, .int .i64 0, .slice none 0 0, .slice none 0 0, .int .i64 0] 154))) (fun hHeld => ?_)
   clear hK K
   try simp only [Act.put, List.setIfInBounds_toArray, List.set_cons_zero, List.set_cons_succ]
   refine wpAnyH_ready (rs := [16]) (by kernel_rfl) (by simp) ?_
   refine AllReadyH.cons (o := { dst := some 33, op := Op.call { callee := Callee.value (Operand.func 86), args := #[Operand.tmp 20, Operand.tmp 24, Operand.tmp 31, Operand.tmp 32], argTypes := #[27, 90, 96, 53] }, type := 154, pos := _, after := _, guard := none }) rfl (fun K hK => ?_) AllReadyH.nil
   go_simp
   have hcW : W3.heap.size ≤ (W3.drew.alloc (.cells #[.slice none 0 0, .int .i64 0, .int .i64 0, .slice none 0 0, .slice none 0 0, .int .i64 0] 154)).heap.size := ((((Below.refl W3.heap.size W3).drew).alloc ((Below.refl W3.heap.size W3).drew).size (.cells #[.slice none 0 0, .int .i64 0, .int .i64 0, .slice none 0 0, .slice none 0 0, .int .i64 0] 154))).size
   have hPW : W3.heap.size < (W3.drew.alloc (.cells #[.slice none 0 0, .int .i64 0, .int .i64 0, .slice none 0 0, .slice none 0 0, .int .i64 0] 154)).heap.size := ((Bk.new W3.drew 154 #[.slice none 0 0, .int .i64 0, .int .i64 0, .slice none 0 0, .slice none 0 0, .int .i64 0] : Bk (W3.drew.alloc (.cells #[.slice none 0 0, .int .i64 0, .int .i64 0, .slice none 0 0, .slice none 0 0, .int .i64 0] 154)) W3.heap.size 154 #[.slice none 0 0, .int .i64 0, .int .i64 0, .slice none 0 0, .slice none 0 0, .int .i64 0])).lt
   refine (HC.out _ (((Below.refl W3.heap.size W3).drew).alloc ((Below.refl W3.heap.size W3).drew).size (.cells #[.slice none 0 0, .int .i64 0, .int .i64 0, .slice none 0 0, .slice none 0 0, .int .i64 0] 154))).mono ?_
   rintro r we ⟨ue, rfl, hb, hue⟩
   obtain ⟨fa, fc, ga, gc, ha, hc, rfl⟩ := hue.form
   have hk0 : Below W3.heap.size W3 we := ((((Below.refl W3.heap.size W3).drew).alloc ((Below.refl W3.heap.size W3).drew).size (.cells #[.slice none 0 0, .int .i64 0, .int .i64 0, .slice none 0 0, .slice none 0 0, .int .i64 0] 154))).trans (hb.mono ((((Below.refl W3.heap.size W3).drew).alloc ((Below.refl W3.heap.size W3).drew).size (.cells #[.slice none 0 0, .int .i64 0, .int .i64 0, .slice none 0 0, .slice none 0 0, .int .i64 0] 154))).size)
   have hz0 : Bk we W3.heap.size 154 #[.slice none 0 0, .int .i64 0, .int .i64 0, .slice none 0 0, .slice none 0 0, .int .i64 0] := ((Bk.new W3.drew 154 #[.slice none 0 0, .int .i64 0, .int .i64 0, .slice none 0 0, .slice none 0 0, .int .i64 0] : Bk (W3.drew.alloc (.cells #[.slice none 0 0, .int .i64 0, .int .i64 0, .slice none 0 0, .slice none 0 0, .int .i64 0] 154)) W3.heap.size 154 #[.slice none 0 0, .int .i64 0, .int .i64 0, .slice none 0 0, .slice none 0 0, .int .i64 0])).below hb
   have HU : Hid (EfF (fun k => (W3.drew.alloc (.cells #[.slice none 0 0, .int .i64 0, .int .i64 0, .slice none 0 0, .slice none 0 0, .int .i64 0] 154)).heap.size ≤ k ∧ k < we.heap.size) we (.agg #[.slice fa EF.st.r.length fc, .int .i64 EF.st.q, .int .i64 EF.st.d, .slice ga EF.s.length gc, .slice ha EF.x.length hc, .int .i64 EF.k]) EF) := hue
   clear hb
   try go_simp
   refine hK.out _ _ (HK.out _ hk0) (fun hHeld => ?_)
   clear hK K
   try simp only [Act.put, List.setIfInBounds_toArray, List.set_cons_zero, List.set_cons_succ]
   have zc0 := hz0.cell (i := 0) rfl
   have zc1 := hz0.cell (i := 1) rfl
   have zc2 := hz0.cell (i := 2) rfl
   have zc3 := hz0.cell (i := 3) rfl
   have zc4 := hz0.cell (i := 4) rfl
   have zc5 := hz0.cell (i := 5) rfl
   have zf := hz0.free
   have hPlo : W3.heap.size ≤ W3.heap.size := ((Below.refl W3.heap.size W3)).size
   have hpt := put6_turns we (W3.heap.size) (.slice fa EF.st.r.length fc) (.int .i64 EF.st.q) (.int .i64 EF.st.d) (.slice ga EF.s.length gc) (.slice ha EF.x.length hc) (.int .i64 EF.k)
   have T3 : Below W3.heap.size W3 (put6 we (W3.heap.size) (.slice fa EF.st.r.length fc) (.int .i64 EF.st.q) (.int .i64 EF.st.d) (.slice ga EF.s.length gc) (.slice ha EF.x.length hc) (.int .i64 EF.k)) := hk0.trans (hpt.to_below (fun k e => by rw [show k = W3.heap.size from e]; exact hPlo) hk0.size)
   refine wpAnyH_ready (rs := [18]) (by kernel_rfl) (by simp) ?_
   refine AllReadyH.cons (o := { dst := none, op := Op.store 154 (Operand.tmp 5) (Operand.tmp 33), type := 0, pos := _, after := _, guard := none }) rfl (fun K hK => ?_) AllReadyH.nil
   go_simp
   refine hK.out _ _ (HK.out _ T3) (fun hHeld => ?_)
   clear hK K
   try simp only [Act.put, List.setIfInBounds_toArray, List.set_cons_zero, List.set_cons_succ]
   refine wpAnyH_done (by kernel_rfl) ?_ _
   go_wp2
   go_meet
   case rel =>
    exact ⟨_, fa, fc, ga, gc, ha, hc, rfl, T3, ⟨hPlo, (hz0.put6 (.slice fa EF.st.r.length fc) (.int .i64 EF.st.q) (.int .i64 EF.st.d) (.slice ga EF.s.length gc) (.slice ha EF.x.length hc) (.int .i64 EF.k)).lt⟩, hz0.put6 (.slice fa EF.st.r.length fc) (.int .i64 EF.st.q) (.int .i64 EF.st.d) (.slice ga EF.s.length gc) (.slice ha EF.x.length hc) (.int .i64 EF.k), (HU.out.turns hpt (fun k e1 e2 => by have e3 : k = W3.heap.size := e2; omega)).mono (fun k e => ⟨⟨by omega, Nat.lt_of_lt_of_le e.2 hpt.size⟩, by omega⟩)⟩
 case rest =>
  rename World => W4
  obtain ⟨PP, fa, fc, ga, gc, ha, hc, rfl, hb, ⟨hPl, hPh⟩, hBk, hAn⟩ := hcut
  have HB4 : Hid (Below W3.heap.size W3 W4) := hb
  have HX4 : Hid (Bk W4 PP 154 #[.slice fa EF.st.r.length fc, .int .i64 EF.st.q, .int .i64 EF.st.d, .slice ga EF.s.length gc, .slice ha EF.x.length hc, .int .i64 EF.k]) := hBk
  have HA4 : Hid (EfF (fun k => (W3.heap.size ≤ k ∧ k < W4.heap.size) ∧ k ≠ PP) W4 (.agg #[.slice fa EF.st.r.length fc, .int .i64 EF.st.q, .int .i64 EF.st.d, .slice ga EF.s.length gc, .slice ha EF.x.length hc, .int .i64 EF.k]) EF) := hAn
  have HP4 : Hid (PCo B Cb P W4 [.int .i64 m.n, .int .i64 m.s, .slice ai m.i.length ci, .slice ah m.h.length ch, .slice ae m.e.length ce, .int .i64 m.z] c0 c1 c2 c3 l v (.slice ea c.ev.length ec) (.slice xa c.em.length xc) c) := HP3.out.below hb
  have HE4 : Hid (Bk W4 w.heap.size 53 #[.int .i64 e.t, .int .i64 e.s, .int .i64 e.q, .int .i64 (i : Int), .int .i64 e.k, .int .i64 e.v, .int .i64 e.g]) := HE3.out.below hb
  have HW4 : Hid (Below B w W4) := (HB3.out.mono hBw).trans (hb.mono (by omega))
  have hs4 : W3.heap.size ≤ W4.heap.size := hb.size
  have x5 := HX4.out.cell (i := 5) rfl
  obtain ⟨q22, q23, q24, q25, q26⟩ := course_td (ms := [.int .i64 m.n, .int .i64 m.s, .slice ai m.i.length ci, .slice ah m.h.length ch, .slice ae m.e.length ce, .int .i64 m.z]) (c0 := c0) (c1 := c1) (c2 := c2) (c3 := c3) (l := l) (P := P) (ve := .slice ea c.ev.length ec) (vx := .slice xa c.em.length xc) rfl HP4.out.l4 (-1) false
  have g25 := HP4.out.cb.cell q25
  have f25 := HP4.out.cb.free 25
  clear hb hBk hAn HK HC q22 q23 q24 q25 q26
  by_cases hk : 0 ≤ EF.k
  ·have hdk : (EF.k != -1) = true := by simp; omega
   have HKK : Hid (0 ≤ EF.k) := hk
   clear hk
   go_wp2
   refine bodyPost_ret (v := .bool false) (by simp [results, Tryz.results55, go_sem]) rfl ?_
   unfold GoesEnd
   exact ⟨false, rfl, HW4.out.trans ((put1_turns W4 Cb 25 (.int .i64 EF.k)).to_below (fun k e => by rw [show k = Cb from e]; exact hBC) (by omega)), .inr (.inl ⟨H150.out, HKK.out, rfl, HP4.out.asks _⟩)⟩
  have hk1 : EF.k = -1 := (HK0.out H150.out).resolve_right hk
  have hdk : (EF.k != -1) = false := by rw [hk1]; rfl
  have HKK : Hid (¬ 0 ≤ EF.k) := hk
  clear hk hk1
  have x0 := HX4.out.cell (i := 0) rfl
  have x1 := HX4.out.cell (i := 1) rfl
  have x2 := HX4.out.cell (i := 2) rfl
  have e3 := HE4.out.cell (i := 3) rfl
  obtain ⟨t0, t1, t2⟩ := course_at (ms := [.int .i64 m.n, .int .i64 m.s, .slice ai m.i.length ci, .slice ah m.h.length ch, .slice ae m.e.length ce, .int .i64 m.z]) (c0 := c0) (c1 := c1) (c2 := c2) (c3 := c3) (l := l) (P := P) (ve := .slice ea c.ev.length ec) (vx := .slice xa c.em.length xc) rfl HP4.out.l4 (-1) false hi4
  have s0 := HP4.out.cb.cell t0
  have s1 := HP4.out.cb.cell t1
  have s2 := HP4.out.cb.cell t2
  have f0 := HP4.out.cb.free (10 + i * 3)
  have f1 := HP4.out.cb.free (10 + i * 3 + 1)
  have f2 := HP4.out.cb.free (10 + i * 3 + 2)
  clear t0 t1 t2 g25 f25
  go_wp2
  go_region
  obtain ⟨W5, hW5⟩ : ∃ W5, (((W4.setCell ⟨Cb, 10 + i * 3, none⟩ (.slice fa EF.st.r.length fc)).setCell ⟨Cb, 10 + i * 3 + 1, none⟩ (.int .i64 EF.st.q)).setCell ⟨Cb, 10 + i * 3 + 2, none⟩ (.int .i64 EF.st.d)).drew = W5 := ⟨_, rfl⟩
  have ht5 : Turns (fun k => k = Cb) W4 W5 := by rw [← hW5]; exact (put3o_turns W4 Cb (10 + i * 3) (.slice fa EF.st.r.length fc) (.int .i64 EF.st.q) (.int .i64 EF.st.d)).trans (Turns.of_below (Below.refl _ _).drew)
  have hP3 : P < W3.heap.size := HP3.out.pl.box.lt
  have hlt3 : ∀ {T : TypeId} {n k : Nat} {u : Value} {cs : List Value}, W3.ownsRow B T n u k cs → ∀ j, W3.heap.size ≤ j → u.ownBlock ≠ some j := fun ho j hj e => by have := (World.ownsRow.lt ho j e).2; omega
  obtain ⟨A, D, C, vr, us, ux, hx, r1, r2, r3, r4, r5, r6⟩ := HA4.out
  cases hx
  have hA : ∀ k, A k → AP B W4 Cb P v (.slice ea c.ev.length ec) (.slice xa c.em.length xc) k := fun k hk => by
   have h9 := (r4 k hk).1
   exact ⟨⟨by omega, h9.1.2⟩, by omega, by omega, hlt3 HP3.out.pl.row k h9.1.1, hlt3 HP3.out.es k h9.1.1, hlt3 HP3.out.xs k h9.1.1⟩
  have HP5 : Hid (PCo B Cb P W5 [.int .i64 m.n, .int .i64 m.s, .slice ai m.i.length ci, .slice ah m.h.length ch, .slice ae m.e.length ce, .int .i64 m.z] c0 c1 c2 c3 (l.set i (.slice fa EF.st.r.length fc, EF.st)) v (.slice ea c.ev.length ec) (.slice xa c.em.length xc) ⟨c.td, c.st.set i EF.st, c.ev, c.em⟩) := by
   have h9 := HP4.out.state hi1 hi4 (.slice fa EF.st.r.length fc, EF.st) (r1.mono hA)
   rw [← hW5]
   exact h9.below ((Below.refl _ _).drew)
  have hs5 : W4.heap.size ≤ W5.heap.size := ht5.size
  have HX5 : Hid (Bk W5 PP 154 #[.slice fa EF.st.r.length fc, .int .i64 EF.st.q, .int .i64 EF.st.d, .slice ga EF.s.length gc, .slice ha EF.x.length hc, .int .i64 EF.k]) := HX4.out.turns ht5 (by omega)
  have HE5 : Hid (Bk W5 w.heap.size 53 #[.int .i64 e.t, .int .i64 e.s, .int .i64 e.q, .int .i64 (i : Int), .int .i64 e.k, .int .i64 e.v, .int .i64 e.g]) := HE4.out.turns ht5 (by omega)
  have HW5 : Hid (Below B w W5) := HW4.out.trans (ht5.to_below (fun k e => by rw [show k = Cb from e]; exact hBC) (by omega))
  have HD5 : Hid (RowF D W5 (.slice ga EF.s.length gc) EF.s.length 7 (cellsL EF.s)) := r2.turns ht5 (fun k hk e => by have := (r5 k hk).1; omega)
  have HC5 : Hid (RowF C W5 (.slice ha EF.x.length hc) EF.x.length 3 (cellsX EF.x)) := r3.turns ht5 (fun k hk e => by have := r6 k hk; omega)
  have HDC : Hid ((∀ k, D k → ((W3.heap.size ≤ k ∧ k < W4.heap.size) ∧ k ≠ PP) ∧ ¬ C k) ∧ ∀ k, C k → (W3.heap.size ≤ k ∧ k < W4.heap.size) ∧ k ≠ PP) := ⟨r5, r6⟩
  have HLT : Hid (∀ j, W3.heap.size ≤ j → v.ownBlock ≠ some j ∧ (Value.slice ea c.ev.length ec).ownBlock ≠ some j ∧ (Value.slice xa c.em.length xc).ownBlock ≠ some j) := fun j hj => ⟨hlt3 HP3.out.pl.row j hj, hlt3 HP3.out.es j hj, hlt3 HP3.out.xs j hj⟩
  obtain ⟨hsl, hxl, hsok⟩ := HTD.out.2 H150.out (by have := HKK.out; omega)
  have HPL : Hid (Calls Tryz.prog 84 #[.pointer (some ⟨Cb, 0, none⟩), .slice ga EF.s.length gc] W5 fun e w' => (∃ u, e = .returned u) ∧ (∃ v', Pl w' B P v' (planH m.z c.td (bares EF.s)) ∧ NewRow W5 v v') ∧ Turns (fun k => k = P ∨ v.ownBlock = some k) W5 w') := by
   have hc5 : W5.cell? ⟨Cb, 5, none⟩ = some (.int .i64 m.z) := HP5.out.cb.cell (i := 5) rfl
   have hl5 := HP5.out.l4
   obtain ⟨q22, _⟩ := course_td (ms := [.int .i64 m.n, .int .i64 m.s, .slice ai m.i.length ci, .slice ah m.h.length ch, .slice ae m.e.length ce, .int .i64 m.z]) (c0 := c0) (c1 := c1) (c2 := c2) (c3 := c3) (l := l.set i (.slice fa EF.st.r.length fc, EF.st)) (P := P) (ve := .slice ea c.ev.length ec) (vx := .slice xa c.em.length xc) rfl hl5 (-1) false
   have hvC : v.ownBlock ≠ some Cb := fun e => rowOff HP5.out.cb HP5.out.pl.row (by decide) Cb e rfl
   rcases HD5.out.evsAt with h9 | ⟨g, h8, h7, h6⟩
   ·exact plan_any B P Cb v c.td ga gc Cb EF.s m.z W5 (by omega) HP5.out.pl (.inl h9) (by omega) HP5.out.cp hvC hc5 (HP5.out.cb.cell q22) (by omega) HP5.out.cp hvC (by omega) HTD.out.1 hsok
   ·have h5 := (HDC.out.1 g h7).1
    exact plan_any B P Cb v c.td ga gc g EF.s m.z W5 (by omega) HP5.out.pl (.inr ⟨0, h8, h6⟩) (by omega) (by omega) (HLT.out g h5.1.1).1 hc5 (HP5.out.cb.cell q22) (by omega) HP5.out.cp hvC (by omega) HTD.out.1 hsok
  have x3 := HX5.out.cell (i := 3) rfl
  clear hA r1 r2 r3 r4 r5 r6 ht5 s0 s1 s2 f0 f1 f2 x0 x1 x2 x5 e3
  simp only [hW5]
  clear hW5
  go_wp2_with fail
  refine HPL.out.mono ?_
  rintro r W6 ⟨⟨u6, rfl⟩, ⟨v', hp6, hn6⟩, ht6⟩
  have HP6 : Hid (PCo B Cb P W6 [.int .i64 m.n, .int .i64 m.s, .slice ai m.i.length ci, .slice ah m.h.length ch, .slice ae m.e.length ce, .int .i64 m.z] c0 c1 c2 c3 (l.set i (.slice fa EF.st.r.length fc, EF.st)) v' (.slice ea c.ev.length ec) (.slice xa c.em.length xc) ⟨planH m.z c.td (bares EF.s), c.st.set i EF.st, c.ev, c.em⟩) := HP5.out.todo ht6 hp6 hn6
  have hs6 : W5.heap.size ≤ W6.heap.size := ht6.size
  have hn6' : ∀ k, W3.heap.size ≤ k → k < W5.heap.size → ¬ (k = P ∨ v.ownBlock = some k) := fun k h9 _ h8 => h8.elim (by omega) (HLT.out k h9).1
  have HX6 : Hid (Bk W6 PP 154 #[.slice fa EF.st.r.length fc, .int .i64 EF.st.q, .int .i64 EF.st.d, .slice ga EF.s.length gc, .slice ha EF.x.length hc, .int .i64 EF.k]) := HX5.out.turns ht6 (hn6' PP hPl (by omega))
  have HE6 : Hid (Bk W6 w.heap.size 53 #[.int .i64 e.t, .int .i64 e.s, .int .i64 e.q, .int .i64 (i : Int), .int .i64 e.k, .int .i64 e.v, .int .i64 e.g]) := HE5.out.turns ht6 (fun h9 => by
   rcases h9 with h9 | h9
   ·have := HP.out.pl.box.lt; omega
   ·have := (World.ownsRow.lt HP.out.pl.row _ h9).2; omega)
  have HC6 : Hid (RowF C W6 (.slice ha EF.x.length hc) EF.x.length 3 (cellsX EF.x)) := HC5.out.turns ht6 (fun k hk => hn6' k (HDC.out.2 k hk).1.1 (by have := (HDC.out.2 k hk).1.2; omega))
  have HW6 : Hid (Below B w W6) := HW5.out.trans (ht6.to_below (fun k e => by
   rcases e with e | e
   ·rw [show k = P from e]; exact HP.out.pl.low
   ·exact (World.ownsRow.lt HP.out.pl.row k e).1) (by omega))
  clear ht6 hp6 hn6 hn6' HPL x3
  obtain ⟨i0, hi0, hz0, hz1, hz2⟩ := info_parts info25
  have HCS : Hid ([.int .i64 e.t, .int .i64 e.s, .int .i64 e.q, .int .i64 (i : Int), .int .i64 e.k, .int .i64 e.v, .int .i64 e.g] = e.cs) := by unfold Hid; rw [← HDi.out]; rfl
  obtain ⟨q22, q23, q24, q25, q26⟩ := course_td (ms := [.int .i64 m.n, .int .i64 m.s, .slice ai m.i.length ci, .slice ah m.h.length ch, .slice ae m.e.length ce, .int .i64 m.z]) (c0 := c0) (c1 := c1) (c2 := c2) (c3 := c3) (l := l.set i (.slice fa EF.st.r.length fc, EF.st)) (P := P) (ve := .slice ea c.ev.length ec) (vx := .slice xa c.em.length xc) rfl HP6.out.l4 (-1) false
  have g23 := HP6.out.cb.cell q23
  have HQ23 : Hid (_) := q23
  have e0 := HE6.out.cell (i := 0) rfl
  have e1 := HE6.out.cell (i := 1) rfl
  have e2 := HE6.out.cell (i := 2) rfl
  have e3 := HE6.out.cell (i := 3) rfl
  have e4 := HE6.out.cell (i := 4) rfl
  have e5 := HE6.out.cell (i := 5) rfl
  have e6 := HE6.out.cell (i := 6) rfl
  have hC6 : Cb < W6.heap.size := HP6.out.cb.lt
  have hCn : Cb ≠ W6.heap.size := by omega
  have hCe : some Cb ≠ (Value.slice ea c.ev.length ec).ownBlock := fun h9 => rowOff HP6.out.cb HP6.out.es (by decide) Cb h9.symm rfl
  have hm6 : c.ev.length ≤ 149 := by have := H150.out; omega
  have hsz9 : W6.heap.size ≤ (W6.alloc (.cells #[.int .i64 e.t, .int .i64 e.s, .int .i64 e.q, .int .i64 (i : Int), .int .i64 e.k, .int .i64 e.v, .int .i64 e.g] 53)).drew.heap.size := by simp
  clear q22 q23 q24 q25 q26
  go_wp2
  go_region_law (refine step_append_own2 rfl (.tmp 60) (.tmp 62) 25 rfl B 53 i0 _ 7 56 Tryz.underlying25 hi0 hz0 hz1 hz2 rfl (by decide) (.slice ea c.ev.length ec) c.ev.length (cellsL c.ev) rfl ((World.ownsRow.alloc HP6.out.es _).drew) ⟨W6.heap.size, 0, none⟩ 1 1 [.int .i64 e.t, .int .i64 e.s, .int .i64 e.q, .int .i64 (i : Int), .int .i64 e.k, .int .i64 e.v, .int .i64 e.g] rfl rfl (new7 W6 53 _ _ _ _ _ _ _) one7 (by unfold maxLen; omega) (by omega) (by simp; omega) ?_; intro v1 w1 hown1 hgrow1 hnew1; have HNW : Hid (NewRow (W6.alloc (.cells #[.int .i64 e.t, .int .i64 e.s, .int .i64 e.q, .int .i64 (i : Int), .int .i64 e.k, .int .i64 e.v, .int .i64 e.g] 53)) (.slice ea c.ev.length ec) v1) := newRow_mono hnew1 (Nat.le_refl _); have HO1 : Hid (w1.ownsRow B 53 7 v1 (c.ev.length + 1) (cellsL c.ev ++ [.int .i64 e.t, .int .i64 e.s, .int .i64 e.q, .int .i64 (i : Int), .int .i64 e.k, .int .i64 e.v, .int .i64 e.g])) := hown1; obtain ⟨g1, cap1, rfl⟩ := ownsRow_succ hown1; have HG1 : Hid ((W6.alloc (.cells #[.int .i64 e.t, .int .i64 e.s, .int .i64 e.q, .int .i64 (i : Int), .int .i64 e.k, .int .i64 e.v, .int .i64 e.g] 53)).grownBy w1 (Value.slice ea c.ev.length ec).ownBlock) := grow_drew hgrow1; have hC1 := (HP6.out.cb.alloc (.cells #[.int .i64 e.t, .int .i64 e.s, .int .i64 e.q, .int .i64 (i : Int), .int .i64 e.k, .int .i64 e.v, .int .i64 e.g] 53)).grown HG1.out hCe; have c23 := hC1.cell HQ23.out; have f23 := hC1.free 23; clear hown1 hgrow1 hnew1 hC1)
  all_goals
   obtain ⟨W7, hW7⟩ : ∃ W7, w1.setCell ⟨Cb, 23, none⟩ (.slice (some ⟨g1, 0, none⟩) (c.ev.length + 1) cap1) = W7 := ⟨_, rfl⟩
   have HP7 : Hid (PCo B Cb P W7 [.int .i64 m.n, .int .i64 m.s, .slice ai m.i.length ci, .slice ah m.h.length ch, .slice ae m.e.length ce, .int .i64 m.z] c0 c1 c2 c3 (l.set i (.slice fa EF.st.r.length fc, EF.st)) v' (.slice (some ⟨g1, 0, none⟩) (c.ev.length + 1) cap1) (.slice xa c.em.length xc) ⟨planH m.z c.td (bares EF.s), c.st.set i EF.st, c.ev ++ [e], c.em⟩) := by
    have h9 := (HP6.out.below ((Below.refl _ W6).alloc (Nat.le_refl _) (.cells #[.int .i64 e.t, .int .i64 e.s, .int .i64 e.q, .int .i64 (i : Int), .int .i64 e.k, .int .i64 e.v, .int .i64 e.g] 53))).event (e := e) HG1.out HNW.out (by rw [← HCS.out]; exact HO1.out)
    rw [hW7] at h9
    exact h9
   have HX7 : Hid (Bk W7 PP 154 #[.slice fa EF.st.r.length fc, .int .i64 EF.st.q, .int .i64 EF.st.d, .slice ga EF.s.length gc, .slice ha EF.x.length hc, .int .i64 EF.k]) := by
    rw [← hW7]
    exact ((HX6.out.alloc _).grown HG1.out (HLT.out PP hPl).2.1.symm).other 23 _ (by omega)
   have ht7 : Turns (fun k => (Value.slice ea c.ev.length ec).ownBlock = some k ∨ k = Cb) (W6.alloc (.cells #[.int .i64 e.t, .int .i64 e.s, .int .i64 e.q, .int .i64 (i : Int), .int .i64 e.k, .int .i64 e.v, .int .i64 e.g] 53)) W7 := by
    rw [← hW7]
    exact ((Turns.refl _ _).grown HG1.out (fun k e => .inl e)).trans ((put1_turns w1 Cb 23 _).mono (fun k e => .inr e))
   have ha6 : Below W6.heap.size W6 (W6.alloc (.cells #[.int .i64 e.t, .int .i64 e.s, .int .i64 e.q, .int .i64 (i : Int), .int .i64 e.k, .int .i64 e.v, .int .i64 e.g] 53)) := (Below.refl _ W6).alloc (Nat.le_refl _) _
   have HC7 : Hid (RowF C W7 (.slice ha EF.x.length hc) EF.x.length 3 (cellsX EF.x)) := (HC6.out.below ha6).turns ht7 (fun k hk h8 => by
    have h9 := HDC.out.2 k hk
    rcases h8 with h8 | h8
    ·exact (HLT.out k h9.1.1).2.1 h8
    ·omega)
   have HW7 : Hid (Below B w W7) := HW6.out.trans ((ha6.mono (by omega)).trans (ht7.to_below (fun k h8 => by
    rcases h8 with h8 | h8
    ·exact (World.ownsRow.lt HP6.out.es k h8).1
    ·rw [show k = Cb from h8]; exact hBC) (by have := ha6.size; omega)))
   have hs7 : W6.heap.size ≤ W7.heap.size := Nat.le_trans ha6.size ht7.size
   simp only [hW7]
   clear hW7 ht7 ha6 c23 f23 HQ23 g23 e0 e1 e2 e3 e4 e5 e6 HNW HO1 HG1 hsz9
   obtain ⟨q22, q23, q24, q25, q26⟩ := course_td (ms := [.int .i64 m.n, .int .i64 m.s, .slice ai m.i.length ci, .slice ah m.h.length ch, .slice ae m.e.length ce, .int .i64 m.z]) (c0 := c0) (c1 := c1) (c2 := c2) (c3 := c3) (l := (l.set i (.slice fa EF.st.r.length fc, EF.st))) (P := P) (ve := (.slice (some ⟨g1, 0, none⟩) (c.ev.length + 1) cap1)) (vx := .slice xa c.em.length xc) rfl HP7.out.l4 (-1) false
   have g24 := HP7.out.cb.cell q24
   have f24 := HP7.out.cb.free 24
   have HQ24 : Hid (_) := q24
   have x4 := HX7.out.cell (i := 4) rfl
   have hCx : some Cb ≠ (Value.slice xa c.em.length xc).ownBlock := fun h9 => rowOff HP7.out.cb HP7.out.xs (by decide) Cb h9.symm rfl
   obtain ⟨i1, hj0, hy0, hy1, hy2⟩ := info_parts infoEmG
   clear q22 q23 q24 q25 q26
   rcases ha with _ | ad
   ·have hx0 : EF.x.length = 0 := by
     obtain ⟨_, a', cap', h8, _, _, h9⟩ := HC7.out
     cases h8
     rcases h9 with h9 | ⟨g, h9, _⟩
     ·exact h9
     ·cases h9
    have HX0 : Hid (EF.x.length = 0) := hx0
    clear hx0
    go_wp2
    go_region_law (refine step_append_zero rfl (.tmp 72) (.tmp 74) 46 rfl B 108 i1 3 Tryz.underlying46 hj0 (.slice xa c.em.length xc) c.em.length hc EF.x.length (cellsX c.em) rfl HP7.out.xs.drew rfl HX0.out ?_)
    all_goals
     have h9 := HP7.out.emits (x := EF.x) (vx' := .slice xa c.em.length xc) (grown_self W7 _) (.inl rfl) (by
      have h8 : EF.x = [] := List.eq_nil_of_length_eq_zero HX0.out
      rw [h8]
      simpa [cellsX] using HP7.out.xs)
     have HP8 := h9.below ((Below.refl _ _).drew)
     have HW8 : Below B w (W7.setCell ⟨Cb, 24, none⟩ (.slice xa c.em.length xc)).drew := HW7.out.trans (((put1_turns W7 Cb 24 _).to_below (fun k e => by rw [show k = Cb from e]; exact hBC) (by omega)).trans (Below.refl B _).drew)
     clear h9
     go_wp2
     refine bodyPost_ret (v := .bool true) (by simp [results, Tryz.results55, go_sem]) rfl ?_
     unfold GoesEnd
     exact ⟨true, rfl, HW8, .inr (.inr ⟨H150.out, by have := HKK.out; omega, rfl, _, _, _, _, HP8⟩)⟩
   ·go_wp2
    go_region_law (refine step_append_own2 rfl (.tmp 72) (.tmp 74) 46 rfl B 108 i1 _ 3 24 Tryz.underlying46 hj0 hy0 hy1 hy2 rfl (by decide) (.slice xa c.em.length xc) c.em.length (cellsX c.em) rfl HP7.out.xs.drew ad EF.x.length hc (cellsX EF.x) rfl (cellsX_length _) (HC7.out.cellsAtG) (cellsX_one _) (by unfold maxLen; omega) (by omega) (by simp; omega) ?_; intro v1 w1 hown1 hgrow1 hnew1; have HNX : Hid (NewRow W7 (.slice xa c.em.length xc) v1) := newRow_mono hnew1 (Nat.le_refl _); have HOX : Hid (w1.ownsRow B 108 3 v1 (c.em.length + EF.x.length) (cellsX c.em ++ cellsX EF.x)) := hown1; obtain ⟨g2, cap2, rfl⟩ := owns_form hown1; have HGX : Hid (W7.grownBy w1 (Value.slice xa c.em.length xc).ownBlock) := grow_drew hgrow1; have hC1 := HP7.out.cb.grown HGX.out hCx; have c24 := hC1.cell HQ24.out; have f24' := hC1.free 24; clear hown1 hgrow1 hnew1 hC1)
    all_goals
     have HP8 := HP7.out.emits (x := EF.x) HGX.out HNX.out HOX.out
     have hT8 : Turns (fun k => (Value.slice xa c.em.length xc).ownBlock = some k ∨ k = Cb) W7 (w1.setCell ⟨Cb, 24, none⟩ (.slice g2 (c.em.length + EF.x.length) cap2)) := ((Turns.refl _ _).grown HGX.out (fun k e => .inl e)).trans ((put1_turns w1 Cb 24 _).mono (fun k e => .inr e))
     have HW8 : Below B w (w1.setCell ⟨Cb, 24, none⟩ (.slice g2 (c.em.length + EF.x.length) cap2)) := HW7.out.trans (hT8.to_below (fun k h8 => by
      rcases h8 with h8 | h8
      ·exact (World.ownsRow.lt HP7.out.xs k h8).1
      ·rw [show k = Cb from h8]; exact hBC) (by omega))
     clear hT8
     go_wp2
     refine bodyPost_ret (v := .bool true) (by simp [results, Tryz.results55, go_sem]) rfl ?_
     unfold GoesEnd
     exact ⟨true, rfl, HW8, .inr (.inr ⟨H150.out, by have := HKK.out; omega, rfl, _, _, _, _, HP8⟩)⟩
end Go.Proofs.YtbljfphdghfkfaaGreatDoor
