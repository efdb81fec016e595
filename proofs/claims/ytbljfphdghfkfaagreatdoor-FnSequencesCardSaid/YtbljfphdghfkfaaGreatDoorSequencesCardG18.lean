/- CSame, MOkI, MOkJ -/
import Derived.Test.YtbljfphdghfkfaaGreatDoorSequencesCardG17
import Derived.Test.YtbljfphdghfkfaaGreatDoorSequencesCardG10
/- A course stays what it is, round by round; as a heap and in order it comes to the same history. -/
namespace Go.Proofs.YtbljfphdghfkfaaGreatDoor
open Go.RowKit
theorem inL_drop {x : Ev} {l : List Ev} {k : Nat} (h : InL x (l.drop k)) : InL x l := by
 obtain ⟨j, hj, e⟩ := h
 rw [evAt_drop] at e
 exact ⟨k + j, by simp at hj; omega, e⟩
theorem Due.grown {m : Md} {st st' : List St} {x : Ev} (h : Due m st x) (hg : ∀ j, (stAt st j).q ≤ (stAt st' j).q) : Due m st' x := by
 refine ⟨h.ok, h.g, h.d, h.k, h.t, ?_⟩
 rcases h.s with h1 | ⟨h1, h2, h3⟩
 ·exact .inl h1
 ·exact .inr ⟨h1, h2, by have := hg x.s.toNat; omega⟩
section
variable {m : Md} {c : Co} {c0 c1 c2 c3 : Int}
structure Goes (m : Md) (v : List Int) (c : Co) : Prop where
 st : (effC m v c).st.ok = true
 q : (effC m v c).st.q = (stAt c.st (evAt c.td 0).d.toNat).q + ((effC m v c).s.length : Int)
 d : (effC m v c).st.d ≤ (stAt c.st (evAt c.td 0).d.toNat).d + 8
 sl : (effC m v c).s.length ≤ 8
 xl : (effC m v c).x.length ≤ 8
 s : ∀ j, j < (effC m v c).s.length → Sent m (evAt c.td 0) ((stAt c.st (evAt c.td 0).d.toNat).q + (j : Int)) (evAt (effC m v c).s j)
 k : (effC m v c).k = -1
theorem Inv.goes (h : Inv m c) (h0 : 0 < c.td.length) (hm : m.ok = true) (hv : ∀ a : Int, -1 ≤ vecAt c0 c1 c2 c3 a ∧ vecAt c0 c1 c2 c3 a ≤ 1) (hl : c.ev.length < 150) :
  (0 ≤ (effC m [c0, c1, c2, c3] c).k ∧ (effC m [c0, c1, c2, c3] c).k ≤ 3) ∨ Goes m [c0, c1, c2, c3] c := by
 have hp := h.s _ (h.place h0)
 have hok := hp.1
 simp only [St.ok, decide_eq_true_eq] at hok
 rcases eff_ends (h.fit h0 hm hv) with ⟨k, hk0, hk1, hk⟩ | ⟨t, ht, hw⟩
 ·left
  show 0 ≤ (effR _ _ _ _).k ∧ (effR _ _ _ _).k ≤ 3
  rw [hk]
  exact ⟨hk0, hk1⟩
 ·right
  have he : effC m [c0, c1, c2, c3] c = t.ef := ht
  have h1 := hw.q
  have h2 := hw.e1
  have h3 := hw.s1
  have h4 := hw.e0
  refine ⟨?_, by rw [he]; exact hw.q, by rw [he]; exact hw.e1, by rw [he]; exact hw.s1, by rw [he]; exact hw.x1, by rw [he]; exact hw.s, by rw [he]; rfl⟩
  rw [he]
  have a0 := hw.a0
  have a1 := hw.a1
  have b0 := hw.b0
  have b1 := hw.b1
  simp only [St.ok, decide_eq_true_eq, Tn.ef, intAt, List.length_cons, List.length_nil, List.getD_cons_zero, List.getD_cons_succ]
  refine ⟨trivial, ⟨a0, a1⟩, ⟨b0, b1⟩, ?_⟩
  omega
theorem Inv.next (h : Inv m c) (h0 : 0 < c.td.length) (hm : m.ok = true) (hl : c.ev.length < 150) {v : List Int} (hg : Goes m v c) :
  Inv m (nextC (·.drop 1) (planO m.z) m v c) := by
 have hpl := h.place h0
 have hdu := h.due h0
 obtain ⟨hd0, _, ht0⟩ := ev_d hdu.ok
 have hs0 := h.s _ hpl
 have hst := hg.st
 have hs1 := hs0.1
 simp only [St.ok, decide_eq_true_eq] at hst hs1
 obtain ⟨_, _, hn0, hn1, hh4, hz0, hz1⟩ := ok_seed hm
 have hq := hg.q
 have hd8 := hg.d
 have hsl := hg.sl
 have hxl := hg.xl
 have hgr : ∀ j, (stAt c.st j).q ≤ (stAt (c.st.set (evAt c.td 0).d.toNat (effC m v c).st) j).q := fun j => by
  rw [stAt_set _ _ _ _ hpl]
  split
  ·rename_i e; rw [← e]; omega
  ·exact Int.le_refl _
 refine ⟨by simpa [nextC] using h.n, fun j hj => ?_, fun x hx => ?_, ?_, ?_, ?_⟩
 ·have hj' : j < c.st.length := by simpa [nextC] using hj
  have hsj := h.s j hj'
  simp only [nextC, stAt_set _ _ _ _ hpl, List.length_append, List.length_cons, List.length_nil]
  split
  ·exact ⟨hg.st, by omega, by omega⟩
  ·exact ⟨hsj.1, by omega, by omega⟩
 ·rcases inL_planO (show InL x (planO m.z (c.td.drop 1) (effC m v c).s) from hx) with hx | ⟨⟨j, hj, hje⟩, hxz⟩
  ·exact (h.e x (inL_drop hx)).grown hgr
  ·have hS := hg.s j hj
   rw [hje] at hS
   have a1 := hS.s
   have a2 := hS.q
   have a3 := hS.d1
   have a4 := hS.k1
   have a5 := hdu.d
   refine ⟨?_, hS.g, hS.d1, hS.k1, hxz, .inr ⟨by omega, by omega, ?_⟩⟩
   ·have b1 := hS.g
    have b2 := hS.d0
    have b3 := hS.k0
    have b4 := hS.v0
    have b5 := hS.v1
    have b6 := hS.t0
    simp only [Ev.ok, okB, decide_eq_true_eq]
    omega
   ·show x.q < (stAt (c.st.set (evAt c.td 0).d.toNat (effC m v c).st) x.s.toNat).q
    rw [stAt_set _ _ _ _ hpl, if_pos (by rw [a1])]
    omega
 ·have := planO_length m.z (effC m v c).s (c.td.drop 1)
  have := h.tl
  simp only [nextC, List.length_append, List.length_cons, List.length_nil]
  simp only [List.length_drop] at *
  omega
 ·have := h.xl
  simp only [nextC, List.length_append, List.length_cons, List.length_nil]
  omega
 ·simp only [nextC, List.length_append, List.length_cons, List.length_nil]
  omega
theorem alike_next {h : List Ev} (hi : Inv m c) (h0 : 0 < c.td.length) (a : Alike h c.td) {v : List Int} (hg : Goes m v c) :
  effC m v ⟨h, c.st, c.ev, c.em⟩ = effC m v c ∧ evAt h 0 = evAt c.td 0 ∧
  ∃ h', nextC (takeL · 0) (planH m.z) m v ⟨h, c.st, c.ev, c.em⟩ = { nextC (·.drop 1) (planO m.z) m v c with td := h' } ∧ Alike h' (nextC (·.drop 1) (planO m.z) m v c).td := by
 have hh0 := a.none.2 h0
 obtain ⟨he, a1⟩ := a.first hh0
 have hE : effC m v ⟨h, c.st, c.ev, c.em⟩ = effC m v c := by unfold effC; rw [he]
 refine ⟨hE, he, planH m.z (takeL h 0) (effC m v c).s, ?_, ?_⟩
 ·unfold nextC
  rw [hE, he]
 ·have hdu := hi.due h0
  refine plan_alike (d := (evAt c.td 0).d) _ (stAt c.st (evAt c.td 0).d.toNat).q _ _ a1 (fun x hx hs => ?_) (fun i hx => ⟨(hg.s i hx).s, (hg.s i hx).q⟩)
  have := ev_d hdu.ok
  rcases (hi.e x (inL_drop hx)).s with h1 | ⟨_, _, h3⟩
  ·omega
  ·rw [hs] at h3; exact h3
theorem seq_same (hm : m.ok = true) (hv : ∀ a : Int, -1 ≤ vecAt c0 c1 c2 c3 a ∧ vecAt c0 c1 c2 c3 a ≤ 1) {z : Int} :
  ∀ (f : Nat) (c : Co) (h : List Ev), Inv m c → Alike h c.td → seqG (takeL · 0) (planH m.z) m [c0, c1, c2, c3] z f ⟨h, c.st, c.ev, c.em⟩ = seqG (·.drop 1) (planO m.z) m [c0, c1, c2, c3] z f c
 | 0, _, _, _, _ => rfl
 | f + 1, c, h, hi, a => by
  unfold seqG
  by_cases h0 : 0 < c.td.length
  ·have hh0 := a.none.2 h0
   have he := (a.first hh0).1
   by_cases ht : (evAt c.td 0).t ≤ z
   ·rw [if_pos (show 0 < h.length ∧ (evAt h 0).t ≤ z from ⟨hh0, by rw [he]; exact ht⟩), if_pos (show 0 < c.td.length ∧ _ from ⟨h0, ht⟩)]
    by_cases h150 : 150 ≤ c.ev.length
    ·rw [if_pos (show 150 ≤ c.ev.length from h150), if_pos h150]
    ·rw [if_neg (show ¬ 150 ≤ c.ev.length from h150), if_neg h150]
     have hE : effC m [c0, c1, c2, c3] ⟨h, c.st, c.ev, c.em⟩ = effC m [c0, c1, c2, c3] c := by unfold effC; rw [he]
     rw [hE]
     by_cases hk : 0 ≤ (effC m [c0, c1, c2, c3] c).k
     ·rw [if_pos hk, if_pos hk]
     ·rw [if_neg hk, if_neg hk]
      have hg := (hi.goes h0 hm hv (by omega)).resolve_left (fun x => hk x.1)
      obtain ⟨_, _, h', hn, a'⟩ := alike_next hi h0 a hg
      rw [hn]
      exact seq_same hm hv f _ h' (hi.next h0 hm (by omega) hg) a'
   ·rw [if_neg (show ¬ (0 < h.length ∧ (evAt h 0).t ≤ z) from fun x => ht (by rw [← he]; exact x.2)), if_neg (fun x => ht x.2)]
  ·rw [if_neg (show ¬ (0 < h.length ∧ (evAt h 0).t ≤ z) from fun x => h0 (a.none.1 x.1)), if_neg (fun x => h0 x.1)]
end
end Go.Proofs.YtbljfphdghfkfaaGreatDoor

/- The program's ModelOk: its parts. -/
namespace Go.Proofs.YtbljfphdghfkfaaGreatDoor
open Go.RowKit
set_option maxRecDepth 100000 in
set_option maxHeartbeats 4000000 in
theorem initOk_any (x : Value) (m : Md) (w : World) (hs : SmallM m) (h : IsM w x m) :
  Calls Tryz.prog 32 #[x] w fun e w' => e = .returned (.bool (decide ((m.i.length : Int) = m.n) && m.okI)) ∧ Below w.heap.size w w' := by
 have HX : Hid (IsM w x m) := h
 obtain ⟨vi, vh, vs, rfl, ⟨ai, ci, rfl, hi1, hi2, hi3⟩, ⟨ah, ch, rfl, hh1, hh2, hh3⟩, ⟨ae, ce, rfl, he1, he2, he3⟩⟩ := h
 have hi0 : m.i.length ≤ 1048576 := hs.i
 have hh0 : m.h.length ≤ 1048576 := hs.h
 have he0 : m.e.length ≤ 1048576 := hs.e
 have HS : Hid (SmallM m) := hs
 clear hs hi1 hi2 hh1 hh2 he1 he2
 clear hh3 he3 HX HS
 obtain ⟨W0, hW0⟩ : ∃ W0, w.alloc (.cells #[.int .i64 m.n, .int .i64 m.s, .slice ai m.i.length ci, .slice ah m.h.length ch, .slice ae m.e.length ce, .int .i64 m.z] 27) = W0 := ⟨_, rfl⟩
 have HB0 : Hid (Below w.heap.size w W0) := by rw [← hW0]; exact (Below.refl _ w).alloc (Nat.le_refl _) _
 have HP0 : Hid (Bk W0 w.heap.size 27 #[.int .i64 m.n, .int .i64 m.s, .slice ai m.i.length ci, .slice ah m.h.length ch, .slice ae m.e.length ce, .int .i64 m.z]) := by rw [← hW0]; exact Bk.new w _ _
 have p0 := HP0.out.cell (i := 0) rfl
 have p2 := HP0.out.cell (i := 2) rfl
 by_cases c0 : (m.i.length : Int) = m.n
 case neg =>
  clear hi3
  go_enter Tryz.func32, Tryz.ntmps32
  go_wp2
  go_ret
  exact ⟨ret_bool (by simp [c0]), HB0.out⟩
 have HI : Hid (m.i = [] ∨ ∃ b off, ai = some ⟨b, off, none⟩ ∧ IntsAt W0 b off m.i) := hi3.imp id (fun ⟨b, off, e, h⟩ => ⟨b, off, e, h.below HB0.out h.1⟩)
 have HOK : Hid (∀ b, m.okI = b → (decide ((m.i.length : Int) = m.n) && m.okI) = b) := fun b e => by rw [e, c0]; simp
 generalize (decide ((m.i.length : Int) = m.n) && m.okI) = okv at HOK ⊢
 clear hi3
 go_enter Tryz.func32, Tryz.ntmps32
 go_wp2
 clear hW0
 have hn0 : m.n ≤ 1048576 := by omega
 have hn1 : 0 ≤ m.n := by omega
 go_loop [14] (fun i => ∃ k : Nat, k ≤ m.i.length ∧ i = .int .i64 k ∧ ∀ j, j < k → inB (intAt m.i j) = true) (fun i => m.i.length - (intOf i).toNat)
 case atStart => exact ⟨0, Nat.zero_le _, rfl, fun j hj => by omega⟩
 case round =>
  obtain ⟨k, hk, rfl, hall⟩ := hrel
  have HA : Hid (∀ j, j < k → inB (intAt m.i j) = true) := hall
  clear hall
  by_cases hlt : k < m.i.length
  ·obtain ⟨b, off, rfl, hb, hc⟩ := HI.out.resolve_left (by intro e; rw [e] at hlt; simp at hlt)
   have f0 := hc k hlt
   obtain ⟨y, hy⟩ : ∃ y, y = intAt m.i k := ⟨_, rfl⟩
   have HY : Hid (y = intAt m.i k) := hy
   rw [← hy] at f0
   have hkn : (k : Int) < m.n := by omega
   clear hc hy hb
   go_wp2_with fail
   refine (within_any _ _ _ _).mono ?_
   rintro e w2 ⟨rfl, hw⟩
   have hw' := hw.symm
   clear hw
   subst hw'
   by_cases y0 : 0 ≤ y ∧ y ≤ 999
   ·rw [show (decide (0 ≤ y) && decide (y ≤ 999)) = true from by simp [y0]]
    have HN : Hid (inB y = true) := decide_eq_true y0
    clear y0
    go_wp2
    go_round
    case rel => exact ⟨k + 1, by omega, by go_num, fun j hj => by
     by_cases e : j < k
     ·exact HA.out j e
     ·rw [show j = k by omega, ← HY.out]; exact HN.out⟩
    case measure => simp [intOf]; omega
   ·rw [show (decide (0 ≤ y) && decide (y ≤ 999)) = false from by simp; omega]
    have hno : okv = false := HOK.out _ (range_no hlt (by rw [← HY.out]; exact decide_eq_false y0))
    subst hno
    clear y0
    go_wp2
    go_ret
    exact ⟨rfl, HB0.out⟩
  ·have hyes : okv = true := HOK.out _ (range_yes (fun j hj => HA.out j (by omega)))
   subst hyes
   have hkn : ¬ (k : Int) < m.n := by omega
   go_wp2
   go_ret
   exact ⟨rfl, HB0.out⟩
def rowAll (m : Md) (r : List O) : Bool := (List.range r.length).all fun q => (oAt r q).ok m.n m.h.length
set_option maxRecDepth 100000 in
set_option maxHeartbeats 4000000 in
theorem opsOk_any (x u : Value) (m : Md) (r : List O) (w : World) (hs : SmallM m) (hr : r.length ≤ 1048576) (h : IsM w x m) (hu : IsO w u r) :
  Calls Tryz.prog 65 #[x, u] w fun e w' => e = .returned (.bool (rowAll m r)) ∧ Below w.heap.size w w' := by
 have HX : Hid (IsM w x m) := h
 obtain ⟨vi, vh, vs, rfl, ⟨ai, ci, rfl, hi1, hi2, hi3⟩, ⟨ah, ch, rfl, hh1, hh2, hh3⟩, ⟨ae, ce, rfl, he1, he2, he3⟩⟩ := h
 have hi0 : m.i.length ≤ 1048576 := hs.i
 have hh0 : m.h.length ≤ 1048576 := hs.h
 have he0 : m.e.length ≤ 1048576 := hs.e
 have HS : Hid (SmallM m) := hs
 clear hs hi1 hi2 hh1 hh2 he1 he2
 clear hi3 hh3 he3 HS hi0 hh0 he0
 obtain ⟨a1, c1, rfl, _, _, hu⟩ := hu
 have HU : Hid (r = [] ∨ ∃ b off, a1 = some ⟨b, off, none⟩ ∧ OsAt w b off r) := hu
 have HOK : Hid (∀ b, ((List.range r.length).all fun q => (oAt r q).ok m.n m.h.length) = b → rowAll m r = b) := fun b e => e
 generalize rowAll m r = okv at HOK ⊢
 clear hu
 go_enter Tryz.func65, Tryz.ntmps65
 go_wp2
 go_loopw [9] (fun i wr => ∃ k : Nat, k ≤ r.length ∧ i = .int .i64 k ∧ (∀ j, j < k → (oAt r j).ok m.n m.h.length = true) ∧ Below w.heap.size w wr ∧ Bk wr w.heap.size 27 #[.int .i64 m.n, .int .i64 m.s, .slice ai m.i.length ci, .slice ah m.h.length ch, .slice ae m.e.length ce, .int .i64 m.z]) (fun i _ => r.length - (intOf i).toNat)
 case atStart => exact ⟨0, Nat.zero_le _, rfl, fun j hj => by omega, (Below.refl _ w).alloc (Nat.le_refl _) _, Bk.new w _ _⟩
 case round =>
  obtain ⟨k, hk, rfl, hall, hB, hP⟩ := hrel
  have HA : Hid (∀ j, j < k → (oAt r j).ok m.n m.h.length = true) := hall
  have HB0 : Hid (Below w.heap.size w wr) := hB
  have HP0 : Hid (Bk wr w.heap.size 27 #[.int .i64 m.n, .int .i64 m.s, .slice ai m.i.length ci, .slice ah m.h.length ch, .slice ae m.e.length ce, .int .i64 m.z]) := hP
  clear hall hP
  by_cases hlt : k < r.length
  ·obtain ⟨b, off, rfl, hb, hc⟩ := HU.out.resolve_left (by intro e; rw [e] at hlt; simp at hlt)
   obtain ⟨f0, f1, f2, f3⟩ := (hc k hlt).below hB hb
   clear hB hc
   generalize hev : oAt r k = e at f0 f1 f2 f3
   have HEV : Hid (oAt r k = e) := hev
   obtain ⟨c, a, b2, k2⟩ := e
   clear hev
   obtain ⟨V, hV⟩ : ∃ V, wr.alloc (.cells #[.int .i64 c, .int .i64 a, .int .i64 b2, .int .i64 k2] 39) = V := ⟨_, rfl⟩
   have hbV : Below wr.heap.size wr V := hV ▸ (Below.refl _ wr).alloc (Nat.le_refl _) _
   have HBV : Hid (Below w.heap.size w V) := HB0.out.trans (hbV.mono HB0.out.size)
   have HPV : Hid (Bk V w.heap.size 27 #[.int .i64 m.n, .int .i64 m.s, .slice ai m.i.length ci, .slice ah m.h.length ch, .slice ae m.e.length ce, .int .i64 m.z]) := HP0.out.below hbV
   have hQV : Bk V wr.heap.size 39 #[.int .i64 c, .int .i64 a, .int .i64 b2, .int .i64 k2] := hV ▸ Bk.new _ _ _
   have p0 := HPV.out.cell (i := 0) rfl
   have p1 := HPV.out.cell (i := 1) rfl
   have p2 := HPV.out.cell (i := 2) rfl
   have p3 := HPV.out.cell (i := 3) rfl
   have p4 := HPV.out.cell (i := 4) rfl
   have p5 := HPV.out.cell (i := 5) rfl
   have e0 := hQV.cell (i := 0) rfl
   have e1 := hQV.cell (i := 1) rfl
   have e2 := hQV.cell (i := 2) rfl
   have e3 := hQV.cell (i := 3) rfl
   clear hbV hQV HB0 HP0
   go_wp2_with fail
   clear f0 f1 f2 f3 e0 e1 e2 e3 p0 p1 p2 p3 p4 p5 hV
   refine (iOpM _ m _ _ _ _ _ (HX.out.below HBV.out)).mono ?_
   rintro e w2 ⟨rfl, hb2⟩
   have HB2 : Hid (Below w.heap.size w w2) := HBV.out.trans (hb2.mono HBV.out.size)
   have HP2 : Hid (Bk w2 w.heap.size 27 #[.int .i64 m.n, .int .i64 m.s, .slice ai m.i.length ci, .slice ah m.h.length ch, .slice ae m.e.length ce, .int .i64 m.z]) := HPV.out.below hb2
   clear hb2 HBV HPV
   cases hv : okO m.n (m.h.length : Int) c a b2 k2
   ·have hno : okv = false := HOK.out _ (range_no hlt (by rw [HEV.out]; exact hv))
    subst hno
    clear hv
    go_wp2
    go_ret
    exact ⟨rfl, HB2.out⟩
   ·have HV : Hid (okO m.n (m.h.length : Int) c a b2 k2 = true) := hv
    clear hv
    go_wp2
    go_roundw
    case rel => exact ⟨k + 1, by omega, by go_num, fun j hj => by
     by_cases e : j < k
     ·exact HA.out j e
     ·rw [show j = k by omega, HEV.out]; exact HV.out, HB2.out, HP2.out⟩
    case measure => simp [intOf]; omega
  ·have hyes : okv = true := HOK.out _ (range_yes (fun j hj => HA.out j (by omega)))
   subst hyes
   clear hB
   go_wp2
   go_ret
   exact ⟨rfl, HB0.out⟩
set_option maxRecDepth 100000 in
set_option maxHeartbeats 4000000 in
theorem handlersOk_any (x : Value) (m : Md) (w : World) (hs : SmallM m) (h : IsM w x m) :
  Calls Tryz.prog 33 #[x] w fun e w' => e = .returned (.bool (decide (1 ≤ m.h.length ∧ m.h.length ≤ 4) && m.okH)) ∧ Below w.heap.size w w' := by
 have HX : Hid (IsM w x m) := h
 obtain ⟨vi, vh, vs, rfl, ⟨ai, ci, rfl, hi1, hi2, hi3⟩, ⟨ah, ch, rfl, hh1, hh2, hh3⟩, ⟨ae, ce, rfl, he1, he2, he3⟩⟩ := h
 have hi0 : m.i.length ≤ 1048576 := hs.i
 have hh0 : m.h.length ≤ 1048576 := hs.h
 have he0 : m.e.length ≤ 1048576 := hs.e
 have HS : Hid (SmallM m) := hs
 clear hs hi1 hi2 hh1 hh2 he1 he2
 clear hi3 he3
 have HH : Hid (m.h = [] ∨ ∃ b off, ah = some ⟨b, off, none⟩ ∧ b < w.heap.size ∧ ∀ i, i < m.h.length → ∃ u, w.cell? ⟨b, off + i, none⟩ = some u ∧ IsO w u (hAt m.h i)) := hh3
 clear hh3
 obtain ⟨W0, hW0⟩ : ∃ W0, w.alloc (.cells #[.int .i64 m.n, .int .i64 m.s, .slice ai m.i.length ci, .slice ah m.h.length ch, .slice ae m.e.length ce, .int .i64 m.z] 27) = W0 := ⟨_, rfl⟩
 have HB0 : Hid (Below w.heap.size w W0) := by rw [← hW0]; exact (Below.refl _ w).alloc (Nat.le_refl _) _
 have HP0 : Hid (Bk W0 w.heap.size 27 #[.int .i64 m.n, .int .i64 m.s, .slice ai m.i.length ci, .slice ah m.h.length ch, .slice ae m.e.length ce, .int .i64 m.z]) := by rw [← hW0]; exact Bk.new w _ _
 have p0 := HP0.out.cell (i := 0) rfl
 have p1 := HP0.out.cell (i := 1) rfl
 have p2 := HP0.out.cell (i := 2) rfl
 have p3 := HP0.out.cell (i := 3) rfl
 have p4 := HP0.out.cell (i := 4) rfl
 have p5 := HP0.out.cell (i := 5) rfl
 by_cases c0 : 1 ≤ m.h.length ∧ m.h.length ≤ 4
 case neg =>
  have d0 : (decide ((1 : Int) ≤ (m.h.length : Int)) && decide ((m.h.length : Int) ≤ 4)) = false := by simp; omega
  have HC : Hid (¬ (1 ≤ m.h.length ∧ m.h.length ≤ 4)) := c0
  clear c0
  go_enter Tryz.func33, Tryz.ntmps33
  go_wp2_with fail
  refine (within_any _ _ _ _).mono ?_
  rintro e w2 ⟨rfl, hw⟩
  have hw' := hw.symm
  clear hw
  subst hw'
  rw [d0]
  clear d0
  go_wp2
  go_ret
  exact ⟨ret_bool (by rw [decide_eq_false HC.out]; rfl), HB0.out⟩
 have d0 : (decide ((1 : Int) ≤ (m.h.length : Int)) && decide ((m.h.length : Int) ≤ 4)) = true := by simp; omega
 have HOK : Hid (∀ b, m.okH = b → (decide (1 ≤ m.h.length ∧ m.h.length ≤ 4) && m.okH) = b) := fun b e => by rw [e, decide_eq_true c0]; simp
 generalize (decide (1 ≤ m.h.length ∧ m.h.length ≤ 4) && m.okH) = okv at HOK ⊢
 clear c0
 go_enter Tryz.func33, Tryz.ntmps33
 go_wp2_with fail
 refine (within_any _ _ _ _).mono ?_
 rintro e w2 ⟨rfl, hw⟩
 have hw' := hw.symm
 clear hw
 subst hw'
 rw [d0]
 clear d0
 go_wp2
 clear hW0 p0 p1 p2 p3 p4 p5
 go_loopw [13] (fun i wr => ∃ k : Nat, k ≤ m.h.length ∧ i = .int .i64 k ∧ (∀ j, j < k → rowB m (hAt m.h j) = true) ∧ Below w.heap.size w wr ∧ Bk wr w.heap.size 27 #[.int .i64 m.n, .int .i64 m.s, .slice ai m.i.length ci, .slice ah m.h.length ch, .slice ae m.e.length ce, .int .i64 m.z]) (fun i _ => m.h.length - (intOf i).toNat)
 case atStart => exact ⟨0, Nat.zero_le _, rfl, fun j hj => by omega, HB0.out, HP0.out⟩
 case round =>
  clear HB0 HP0
  obtain ⟨k, hk, rfl, hall, hB, hP⟩ := hrel
  have HA : Hid (∀ j, j < k → rowB m (hAt m.h j) = true) := hall
  have HB0 : Hid (Below w.heap.size w wr) := hB
  have HP0 : Hid (Bk wr w.heap.size 27 #[.int .i64 m.n, .int .i64 m.s, .slice ai m.i.length ci, .slice ah m.h.length ch, .slice ae m.e.length ce, .int .i64 m.z]) := hP
  clear hall hP
  have p0 := HP0.out.cell (i := 0) rfl
  have p1 := HP0.out.cell (i := 1) rfl
  have p2 := HP0.out.cell (i := 2) rfl
  have p3 := HP0.out.cell (i := 3) rfl
  have p4 := HP0.out.cell (i := 4) rfl
  have p5 := HP0.out.cell (i := 5) rfl
  by_cases hlt : k < m.h.length
  ·obtain ⟨b, off, rfl, hb, hc⟩ := HH.out.resolve_left (by intro e; rw [e] at hlt; simp at hlt)
   obtain ⟨u, f0, hu⟩ := hc k hlt
   replace f0 := (hB.cell (p := ⟨b, off + k, none⟩) hb).trans f0
   have HL : Hid ((hAt m.h k).length ≤ 1048576) := HS.out.r k
   have HU : Hid (IsO w u (hAt m.h k)) := hu
   obtain ⟨a1, c1, rfl, _, _, _⟩ := hu
   clear hB hc
   by_cases h8 : 8 < ((hAt m.h k).length : Int)
   ·have hno : okv = false := HOK.out _ (range_no hlt (by simp [rowB]; omega))
    subst hno
    go_wp2
    go_ret
    exact ⟨rfl, HB0.out⟩
   ·have HROW : Hid (∀ b, rowAll m (hAt m.h k) = b → rowB m (hAt m.h k) = b) := fun b e => by
     have : decide ((hAt m.h k).length ≤ 8) = true := by simp; omega
     unfold rowB
     rw [this, Bool.true_and]
     exact e
    go_wp2_with fail
    refine (opsOk_any _ _ m (hAt m.h k) _ HS.out HL.out (HX.out.below HB0.out) (HU.out.below HB0.out)).mono ?_
    rintro e w2 ⟨rfl, hb2⟩
    have HB2 : Hid (Below w.heap.size w w2) := HB0.out.trans (hb2.mono HB0.out.size)
    have HP2 : Hid (Bk w2 w.heap.size 27 #[.int .i64 m.n, .int .i64 m.s, .slice ai m.i.length ci, .slice (some ⟨b, off, none⟩) m.h.length ch, .slice ae m.e.length ce, .int .i64 m.z]) := HP0.out.below hb2
    clear hb2 HB0 HP0 f0 p0 p1 p2 p3 p4 p5
    cases hv : rowAll m (hAt m.h k)
    ·have hno : okv = false := HOK.out _ (range_no hlt (HROW.out _ hv))
     subst hno
     clear hv
     go_wp2
     go_ret
     exact ⟨rfl, HB2.out⟩
    ·have HV : Hid (rowB m (hAt m.h k) = true) := HROW.out _ hv
     clear hv
     go_wp2
     go_roundw
     case rel => exact ⟨k + 1, by omega, by go_num, fun j hj => by
      by_cases e : j < k
      ·exact HA.out j e
      ·rw [show j = k by omega]; exact HV.out, HB2.out, HP2.out⟩
     case measure => simp [intOf]; omega
  ·have hyes : okv = true := HOK.out _ (range_yes (fun j hj => HA.out j (by omega)))
   subst hyes
   clear hB
   go_wp2
   go_ret
   exact ⟨rfl, HB0.out⟩
end Go.Proofs.YtbljfphdghfkfaaGreatDoor

/- The program's ModelOk: the events that begin it. -/
namespace Go.Proofs.YtbljfphdghfkfaaGreatDoor
open Go.RowKit
def fitB (m : Md) (t d kk : Int) : Bool := decide (0 ≤ d ∧ d < m.n ∧ 0 ≤ kk ∧ kk < (m.h.length : Int) ∧ t ≤ m.z)
set_option maxRecDepth 100000 in
set_option maxHeartbeats 4000000 in
theorem fits_any (x : Value) (m : Md) (t s1 qq d kk v g : Int) (w : World) (h : IsM w x m) :
  Calls Tryz.prog 67 #[x, .agg #[.int .i64 t, .int .i64 s1, .int .i64 qq, .int .i64 d, .int .i64 kk, .int .i64 v, .int .i64 g]] w fun e w' => e = .returned (.bool (fitB m t d kk)) ∧ Below w.heap.size w w' := by
 obtain ⟨vi, vh, vs, rfl, ⟨ai, ci, rfl, hi1, hi2, hi3⟩, ⟨ah, ch, rfl, hh1, hh2, hh3⟩, ⟨ae, ce, rfl, he1, he2, he3⟩⟩ := h
 clear hi1 hi2 hh1 hh2 he1 he2 hi3 hh3 he3
 go_enter Tryz.func67, Tryz.ntmps67
 go_wp2_with (go_at_call 79; refine (place_any _ _ _).mono ?_; rintro e w2 ⟨rfl, hw⟩; have hw' := hw.symm; clear hw; subst hw')
 all_goals
  go_ret
  refine ⟨?_, ((Below.refl _ _).alloc (Nat.le_refl _) _).alloc (by simp) _⟩
  first | exact ret_bool (by unfold fitB; rw [Bool.eq_iff_iff]; (try simp only [Bool.and_eq_true]); simp only [decide_eq_true_eq]; omega) | exact ret_bool (by unfold fitB; simp; omega) | exact ret_bool (by unfold fitB; simp [*])
def begB (place s1 qq g : Int) : Bool := decide (s1 = -1 ∧ qq = place ∧ g = place)
set_option maxRecDepth 100000 in
set_option maxHeartbeats 4000000 in
theorem isStart_any (place t s1 qq d kk v g : Int) (w : World) :
  Calls Tryz.prog 68 #[.agg #[.int .i64 t, .int .i64 s1, .int .i64 qq, .int .i64 d, .int .i64 kk, .int .i64 v, .int .i64 g], .int .i64 place] w fun e w' => e = .returned (.bool (begB place s1 qq g)) ∧ Below w.heap.size w w' := by
 by_cases c0 : s1 = -1
 ·by_cases c1 : qq = place
  ·by_cases c2 : g = place
   all_goals
    go_enter Tryz.func68, Tryz.ntmps68
    go_wp2
    go_ret
    exact ⟨ret_bool (by simp [begB, *]), (Below.refl _ _).alloc (Nat.le_refl _) _⟩
  ·go_enter Tryz.func68, Tryz.ntmps68
   go_wp2
   go_ret
   exact ⟨ret_bool (by simp [begB, *]), (Below.refl _ _).alloc (Nat.le_refl _) _⟩
 ·go_enter Tryz.func68, Tryz.ntmps68
  go_wp2
  go_ret
  exact ⟨ret_bool (by simp [begB, *]), (Below.refl _ _).alloc (Nat.le_refl _) _⟩
theorem stB_parts (m : Md) (k : Nat) (t s1 qq d kk v g : Int) : stB m k ⟨t, s1, qq, d, kk, v, g⟩ = (okB t s1 qq d kk v g && (fitB m t d kk && begB (k : Int) s1 qq g)) := by
 unfold stB Ev.ok fitB begB okB
 rw [Bool.eq_iff_iff]
 simp only [Bool.and_eq_true, decide_eq_true_eq]
 omega
set_option maxRecDepth 100000 in
set_option maxHeartbeats 4000000 in
theorem startOk_any (x : Value) (m : Md) (w : World) (hs : SmallM m) (h : IsM w x m) :
  Calls Tryz.prog 34 #[x] w fun e w' => e = .returned (.bool (decide (m.e.length ≤ 6) && m.okE)) ∧ Below w.heap.size w w' := by
 have HX : Hid (IsM w x m) := h
 obtain ⟨vi, vh, vs, rfl, ⟨ai, ci, rfl, hi1, hi2, hi3⟩, ⟨ah, ch, rfl, hh1, hh2, hh3⟩, ⟨ae, ce, rfl, he1, he2, he3⟩⟩ := h
 have hi0 : m.i.length ≤ 1048576 := hs.i
 have hh0 : m.h.length ≤ 1048576 := hs.h
 have he0 : m.e.length ≤ 1048576 := hs.e
 have HS : Hid (SmallM m) := hs
 clear hs hi1 hi2 hh1 hh2 he1 he2
 clear hi3 hh3
 have HE : Hid (m.e = [] ∨ ∃ b off, ae = some ⟨b, off, none⟩ ∧ EvsAt w b off m.e) := he3
 clear he3
 obtain ⟨W0, hW0⟩ : ∃ W0, w.alloc (.cells #[.int .i64 m.n, .int .i64 m.s, .slice ai m.i.length ci, .slice ah m.h.length ch, .slice ae m.e.length ce, .int .i64 m.z] 27) = W0 := ⟨_, rfl⟩
 have HB0 : Hid (Below w.heap.size w W0) := by rw [← hW0]; exact (Below.refl _ w).alloc (Nat.le_refl _) _
 have HP0 : Hid (Bk W0 w.heap.size 27 #[.int .i64 m.n, .int .i64 m.s, .slice ai m.i.length ci, .slice ah m.h.length ch, .slice ae m.e.length ce, .int .i64 m.z]) := by rw [← hW0]; exact Bk.new w _ _
 have p0 := HP0.out.cell (i := 0) rfl
 have p1 := HP0.out.cell (i := 1) rfl
 have p2 := HP0.out.cell (i := 2) rfl
 have p3 := HP0.out.cell (i := 3) rfl
 have p4 := HP0.out.cell (i := 4) rfl
 have p5 := HP0.out.cell (i := 5) rfl
 by_cases c0 : 6 < (m.e.length : Int)
 case pos =>
  go_enter Tryz.func34, Tryz.ntmps34
  go_wp2
  go_ret
  exact ⟨ret_bool (by rw [decide_eq_false (by omega)]; rfl), HB0.out⟩
 have HOK : Hid (∀ b, m.okE = b → (decide (m.e.length ≤ 6) && m.okE) = b) := fun b e => by rw [e, decide_eq_true (by omega)]; simp
 generalize (decide (m.e.length ≤ 6) && m.okE) = okv at HOK ⊢
 go_enter Tryz.func34, Tryz.ntmps34
 go_wp2
 clear hW0 p0 p1 p2 p3 p4 p5
 go_loopw [12] (fun i wr => ∃ k : Nat, k ≤ m.e.length ∧ i = .int .i64 k ∧ (∀ j, j < k → stB m j (evAt m.e j) = true) ∧ Below w.heap.size w wr ∧ Bk wr w.heap.size 27 #[.int .i64 m.n, .int .i64 m.s, .slice ai m.i.length ci, .slice ah m.h.length ch, .slice ae m.e.length ce, .int .i64 m.z]) (fun i _ => m.e.length - (intOf i).toNat)
 case atStart => exact ⟨0, Nat.zero_le _, rfl, fun j hj => by omega, HB0.out, HP0.out⟩
 case round =>
  clear HB0 HP0
  obtain ⟨k, hk, rfl, hall, hB, hP⟩ := hrel
  have HA : Hid (∀ j, j < k → stB m j (evAt m.e j) = true) := hall
  have HB0 : Hid (Below w.heap.size w wr) := hB
  have HP0 : Hid (Bk wr w.heap.size 27 #[.int .i64 m.n, .int .i64 m.s, .slice ai m.i.length ci, .slice ah m.h.length ch, .slice ae m.e.length ce, .int .i64 m.z]) := hP
  clear hall hP
  by_cases hlt : k < m.e.length
  ·obtain ⟨b, off, rfl, hb, hc⟩ := HE.out.resolve_left (by intro e; rw [e] at hlt; simp at hlt)
   obtain ⟨f0, f1, f2, f3, f4, f5, f6⟩ := (hc k hlt).below hB hb
   clear hB hc
   generalize hev : evAt m.e k = e at f0 f1 f2 f3 f4 f5 f6
   have HEV : Hid (evAt m.e k = e) := hev
   obtain ⟨t, s1, qq, d, kk, v, g⟩ := e
   clear hev
   obtain ⟨V, hV⟩ : ∃ V, wr.alloc (.cells #[.int .i64 t, .int .i64 s1, .int .i64 qq, .int .i64 d, .int .i64 kk, .int .i64 v, .int .i64 g] 53) = V := ⟨_, rfl⟩
   have hbV : Below wr.heap.size wr V := hV ▸ (Below.refl _ wr).alloc (Nat.le_refl _) _
   have HBV : Hid (Below w.heap.size w V) := HB0.out.trans (hbV.mono HB0.out.size)
   have HPV : Hid (Bk V w.heap.size 27 #[.int .i64 m.n, .int .i64 m.s, .slice ai m.i.length ci, .slice ah m.h.length ch, .slice (some ⟨b, off, none⟩) m.e.length ce, .int .i64 m.z]) := HP0.out.below hbV
   have HQV : Hid (Bk V wr.heap.size 53 #[.int .i64 t, .int .i64 s1, .int .i64 qq, .int .i64 d, .int .i64 kk, .int .i64 v, .int .i64 g]) := hV ▸ Bk.new _ _ _
   have p0 := HPV.out.cell (i := 0) rfl
   have p1 := HPV.out.cell (i := 1) rfl
   have p2 := HPV.out.cell (i := 2) rfl
   have p3 := HPV.out.cell (i := 3) rfl
   have p4 := HPV.out.cell (i := 4) rfl
   have p5 := HPV.out.cell (i := 5) rfl
   have e0 := HQV.out.cell (i := 0) rfl
   have e1 := HQV.out.cell (i := 1) rfl
   have e2 := HQV.out.cell (i := 2) rfl
   have e3 := HQV.out.cell (i := 3) rfl
   have e4 := HQV.out.cell (i := 4) rfl
   have e5 := HQV.out.cell (i := 5) rfl
   have e6 := HQV.out.cell (i := 6) rfl
   clear hbV HB0 HP0
   go_wp2_with fail
   clear f0 f1 f2 f3 f4 f5 f6 e0 e1 e2 e3 e4 e5 e6 p0 p1 p2 p3 p4 p5 hV
   refine (iOk_any _ _ _ _ _ _ _ _).mono ?_
   rintro e w2 ⟨rfl, hb2⟩
   have HB2 : Hid (Below w.heap.size w w2) := HBV.out.trans (hb2.mono HBV.out.size)
   have HP2 : Hid (Bk w2 w.heap.size 27 #[.int .i64 m.n, .int .i64 m.s, .slice ai m.i.length ci, .slice ah m.h.length ch, .slice (some ⟨b, off, none⟩) m.e.length ce, .int .i64 m.z]) := HPV.out.below hb2
   have HQ2 : Hid (Bk w2 wr.heap.size 53 #[.int .i64 t, .int .i64 s1, .int .i64 qq, .int .i64 d, .int .i64 kk, .int .i64 v, .int .i64 g]) := HQV.out.below hb2
   clear hb2 HBV HPV HQV
   have HST : Hid (stB m k (evAt m.e k) = (okB t s1 qq d kk v g && (fitB m t d kk && begB (k : Int) s1 qq g))) := HEV.out ▸ stB_parts m k t s1 qq d kk v g
   cases hokb : okB t s1 qq d kk v g
   ·have hno := HOK.out _ (range_no hlt (by rw [HST.out, hokb]; rfl))
    subst hno
    clear hokb
    have p0 := HP2.out.cell (i := 0) rfl
    have p1 := HP2.out.cell (i := 1) rfl
    have p2 := HP2.out.cell (i := 2) rfl
    have p3 := HP2.out.cell (i := 3) rfl
    have p4 := HP2.out.cell (i := 4) rfl
    have p5 := HP2.out.cell (i := 5) rfl
    have e0 := HQ2.out.cell (i := 0) rfl
    have e1 := HQ2.out.cell (i := 1) rfl
    have e2 := HQ2.out.cell (i := 2) rfl
    have e3 := HQ2.out.cell (i := 3) rfl
    have e4 := HQ2.out.cell (i := 4) rfl
    have e5 := HQ2.out.cell (i := 5) rfl
    have e6 := HQ2.out.cell (i := 6) rfl
    go_wp2
    go_ret
    exact ⟨rfl, HB2.out⟩
   ·have HOB : Hid (okB t s1 qq d kk v g = true) := hokb
    clear hokb
    have p0 := HP2.out.cell (i := 0) rfl
    have p1 := HP2.out.cell (i := 1) rfl
    have p2 := HP2.out.cell (i := 2) rfl
    have p3 := HP2.out.cell (i := 3) rfl
    have p4 := HP2.out.cell (i := 4) rfl
    have p5 := HP2.out.cell (i := 5) rfl
    have e0 := HQ2.out.cell (i := 0) rfl
    have e1 := HQ2.out.cell (i := 1) rfl
    have e2 := HQ2.out.cell (i := 2) rfl
    have e3 := HQ2.out.cell (i := 3) rfl
    have e4 := HQ2.out.cell (i := 4) rfl
    have e5 := HQ2.out.cell (i := 5) rfl
    have e6 := HQ2.out.cell (i := 6) rfl
    go_wp2_with fail
    clear e0 e1 e2 e3 e4 e5 e6 p0 p1 p2 p3 p4 p5
    refine (fits_any _ m _ _ _ _ _ _ _ _ (HX.out.below HB2.out)).mono ?_
    rintro e w3 ⟨rfl, hb3⟩
    have HB3 : Hid (Below w.heap.size w w3) := HB2.out.trans (hb3.mono HB2.out.size)
    have HP3 : Hid (Bk w3 w.heap.size 27 #[.int .i64 m.n, .int .i64 m.s, .slice ai m.i.length ci, .slice ah m.h.length ch, .slice (some ⟨b, off, none⟩) m.e.length ce, .int .i64 m.z]) := HP2.out.below hb3
    have HQ3 : Hid (Bk w3 wr.heap.size 53 #[.int .i64 t, .int .i64 s1, .int .i64 qq, .int .i64 d, .int .i64 kk, .int .i64 v, .int .i64 g]) := HQ2.out.below hb3
    clear hb3 HB2 HP2 HQ2
    cases hfit : fitB m t d kk
    ·have hno := HOK.out _ (range_no hlt (by rw [HST.out, hfit]; simp))
     subst hno
     clear hfit
     have e0 := HQ3.out.cell (i := 0) rfl
     have e1 := HQ3.out.cell (i := 1) rfl
     have e2 := HQ3.out.cell (i := 2) rfl
     have e3 := HQ3.out.cell (i := 3) rfl
     have e4 := HQ3.out.cell (i := 4) rfl
     have e5 := HQ3.out.cell (i := 5) rfl
     have e6 := HQ3.out.cell (i := 6) rfl
     go_wp2
     go_ret
     exact ⟨rfl, HB3.out⟩
    ·have HFI : Hid (fitB m t d kk = true) := hfit
     clear hfit
     have e0 := HQ3.out.cell (i := 0) rfl
     have e1 := HQ3.out.cell (i := 1) rfl
     have e2 := HQ3.out.cell (i := 2) rfl
     have e3 := HQ3.out.cell (i := 3) rfl
     have e4 := HQ3.out.cell (i := 4) rfl
     have e5 := HQ3.out.cell (i := 5) rfl
     have e6 := HQ3.out.cell (i := 6) rfl
     go_wp2_with fail
     clear e0 e1 e2 e3 e4 e5 e6
     refine (isStart_any _ _ _ _ _ _ _ _ _).mono ?_
     rintro e w4 ⟨rfl, hb4⟩
     have HB4 : Hid (Below w.heap.size w w4) := HB3.out.trans (hb4.mono HB3.out.size)
     have HP4 : Hid (Bk w4 w.heap.size 27 #[.int .i64 m.n, .int .i64 m.s, .slice ai m.i.length ci, .slice ah m.h.length ch, .slice (some ⟨b, off, none⟩) m.e.length ce, .int .i64 m.z]) := HP3.out.below hb4
     clear hb4 HB3 HP3 HQ3
     cases hbeg : begB (k : Int) s1 qq g
     ·have hno := HOK.out _ (range_no hlt (by rw [HST.out, hbeg]; simp))
      subst hno
      clear hbeg
      go_wp2
      go_ret
      exact ⟨rfl, HB4.out⟩
     ·have HV : Hid (stB m k (evAt m.e k) = true) := by rw [HST.out, HOB.out, HFI.out, hbeg]; rfl
      clear hbeg
      go_wp2
      go_roundw
      case rel => exact ⟨k + 1, by omega, by go_num, fun j hj => by
       by_cases e : j < k
       ·exact HA.out j e
       ·rw [show j = k by omega]; exact HV.out, HB4.out, HP4.out⟩
      case measure => simp [intOf]; omega
  ·have hyes : okv = true := HOK.out _ (range_yes (fun j hj => HA.out j (by omega)))
   subst hyes
   clear hB
   go_wp2
   go_ret
   exact ⟨rfl, HB0.out⟩
end Go.Proofs.YtbljfphdghfkfaaGreatDoor

