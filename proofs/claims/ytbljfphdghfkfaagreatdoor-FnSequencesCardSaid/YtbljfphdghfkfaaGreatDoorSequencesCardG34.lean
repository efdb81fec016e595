/- LSqB, SqO -/
import Derived.Test.YtbljfphdghfkfaaGreatDoorSequencesCardG33
import Derived.Test.YtbljfphdghfkfaaGreatDoorSequencesCardG19
/- laws.begins: one history as the beginning of another one. -/
namespace Go.Proofs.YtbljfphdghfkfaaGreatDoor
open Go.RowKit
theorem sliced0 (a : Option Addr) (k cap s : Nat) : sliced a 0 k cap s = .slice a k cap := by
 unfold sliced
 rw [Nat.zero_mul]
 have h : a.map (·.add 0) = a := by cases a <;> simp [Addr.add]
 rw [h]
 simp
theorem infoE9 : (Tryz.prog.info? 53).map (fun i => (i.zero, i.size, i.bytes)) = some (some (.agg #[.int .i64 0, .int .i64 0, .int .i64 0, .int .i64 0, .int .i64 0, .int .i64 0, .int .i64 0]), 7, 56) := by kernel_rfl
theorem infoX9 : (Tryz.prog.info? 108).map (fun i => (i.zero, i.size, i.bytes)) = some (some (.agg #[.int .i64 0, .int .i64 0, .int .i64 0]), 3, 24) := by kernel_rfl
theorem run_firstE (a : Option Addr) (n cap k : Nat) (hk : k ≤ cap) (w : World) : (Instr.sliceAt 25 (.slice a n cap) none (some (.int .i64 (k : Int))) none).run Tryz.prog w = .ok (.slice a k cap) w := by
 obtain ⟨i0, hi, hz0, hz1, hz2⟩ := info_parts infoE9
 have hu : Tryz.prog.underlying 25 = some (.slice (Tryz.prog.elem 25)) := by kernel_rfl
 have he : Tryz.prog.elem 25 = 53 := by kernel_rfl
 rw [run_sliceAt_slice (h := hu), run_slice_h (ht := hu) (h0 := by omega) (h2 := by omega), he]
 simp [sizeOf, typeInfo, hi, hz1, sliced0]
theorem run_firstX (a : Option Addr) (n cap k : Nat) (hk : k ≤ cap) (w : World) : (Instr.sliceAt 46 (.slice a n cap) none (some (.int .i64 (k : Int))) none).run Tryz.prog w = .ok (.slice a k cap) w := by
 obtain ⟨i0, hi, hz0, hz1, hz2⟩ := info_parts infoX9
 have hu : Tryz.prog.underlying 46 = some (.slice (Tryz.prog.elem 46)) := by kernel_rfl
 have he : Tryz.prog.elem 46 = 108 := by kernel_rfl
 rw [run_sliceAt_slice (h := hu), run_slice_h (ht := hu) (h0 := by omega) (h2 := by omega), he]
 simp [sizeOf, typeInfo, hi, hz1, sliced0]
def IsHi (w : World) (x : Value) (h : Hi) : Prop := ∃ a c ax cx, x = .agg #[.slice a h.ev.length c, .slice ax h.em.length cx, .int .i64 h.k, .bool h.f] ∧ IsEvs w (.slice a h.ev.length c) h.ev ∧ IsX w (.slice ax h.em.length cx) h.em
theorem HiF.isHi {F : Nat → Prop} {w : World} {x : Value} {h : Hi} (hh : HiF F w x h) : IsHi w x h := by
 obtain ⟨A, C, ve, vx, rfl, h1, h2, _⟩ := hh
 have e1 := h1.isEvs
 have e2 := h2.isX
 obtain ⟨a, c, rfl, _⟩ := id e1
 obtain ⟨ax, cx, rfl, _⟩ := id e2
 exact ⟨a, c, ax, cx, rfl, e1, e2⟩
theorem IsHi.below {w w' : World} {x : Value} {h : Hi} (hh : IsHi w x h) (hb : Below w.heap.size w w') : IsHi w' x h := by
 obtain ⟨a, c, ax, cx, rfl, h1, h2⟩ := hh
 exact ⟨a, c, ax, cx, rfl, h1.below hb, h2.below hb⟩
theorem first_evs {w : World} {a : Option Addr} {c : Nat} {l m : List Ev} (h : IsEvs w (.slice a m.length c) m) (hp : l <+: m) : IsEvs w (.slice a l.length c) l := by
 obtain ⟨a', c', e, h1, h2, h⟩ := h
 simp only [Value.slice.injEq, true_and] at e
 obtain ⟨rfl, rfl⟩ := e
 have hl := hp.length_le
 refine ⟨a, c, rfl, by omega, h2, ?_⟩
 by_cases h0 : l = []
 ·exact .inl h0
 ·right
  have hm : ¬ m = [] := fun e => h0 (by subst e; simpa using hp)
  obtain ⟨b, off, rfl, hb, hc⟩ := h.resolve_left hm
  refine ⟨b, off, rfl, hb, fun i hi => ?_⟩
  have e : evAt l i = evAt m i := by
   obtain ⟨t, rfl⟩ := hp
   exact (evAt_left l t i hi).symm
  rw [e]
  exact hc i (by omega)
theorem first_x {w : World} {a : Option Addr} {c : Nat} {l m : List Em} (h : IsX w (.slice a m.length c) m) (hp : l <+: m) : IsX w (.slice a l.length c) l := by
 obtain ⟨a', c', e, h1, h2, h⟩ := h
 simp only [Value.slice.injEq, true_and] at e
 obtain ⟨rfl, rfl⟩ := e
 have hl := hp.length_le
 refine ⟨a, c, rfl, by omega, h2, ?_⟩
 by_cases h0 : l = []
 ·exact .inl h0
 ·right
  have hm : ¬ m = [] := fun e => h0 (by subst e; simpa using hp)
  obtain ⟨b, off, rfl, hb, hc⟩ := h.resolve_left hm
  refine ⟨b, off, rfl, hb, fun i hi => ?_⟩
  have e : xAt l i = xAt m i := by
   obtain ⟨t, rfl⟩ := hp
   unfold xAt
   simp [List.getElem?_append_left hi]
  rw [e]
  exact hc i (by omega)
set_option maxRecDepth 100000 in
set_option maxHeartbeats 8000000 in
theorem begins_any (x y : Value) (g h : Hi) (w : World) (hbg : Begins g h) (he : h.ev.length ≤ 2000) (hm : h.em.length ≤ 2000) (hx : IsHi w x g) (hy : IsHi w y h) :
  Calls Tryz.prog 20 #[x, y] w fun e w' => e = .returned (.bool true) ∧ Below w.heap.size w w' := by
 obtain ⟨a, c, ax, cx, rfl, h1, h2⟩ := hx
 obtain ⟨a', c', ax', cx', rfl, h3, h4⟩ := hy
 have h5 := first_evs h3 hbg.1
 have h6 := first_x h4 hbg.2
 have hce : g.ev.length ≤ c' := by obtain ⟨_, _, e, hl, _⟩ := h5; simp only [Value.slice.injEq, true_and] at e; omega
 have hcx : g.em.length ≤ cx' := by obtain ⟨_, _, e, hl, _⟩ := h6; simp only [Value.slice.injEq, true_and] at e; omega
 have l1 := hbg.1.length_le
 have l2 := hbg.2.length_le
 obtain ⟨na, hna⟩ : ∃ n, n = g.ev.length := ⟨_, rfl⟩
 obtain ⟨ka, hka⟩ : ∃ n, n = g.em.length := ⟨_, rfl⟩
 obtain ⟨nb, hnb⟩ : ∃ n, n = h.ev.length := ⟨_, rfl⟩
 obtain ⟨kb, hkb⟩ : ∃ n, n = h.em.length := ⟨_, rfl⟩
 have HL : Hid (g.ev.length ≤ 2000 ∧ g.em.length ≤ 2000) := ⟨by omega, by omega⟩
 have H1 : Hid (IsEvs w (.slice a na c) g.ev) := hna ▸ h1
 have H2 : Hid (IsX w (.slice ax ka cx) g.em) := hka ▸ h2
 have H5 : Hid (IsEvs w (.slice a' na c') g.ev) := hna ▸ h5
 have H6 : Hid (IsX w (.slice ax' ka cx') g.em) := hka ▸ h6
 have r1 : ∀ w, (Instr.sliceAt 25 (.slice a' nb c') none (some (.int .i64 (na : Int))) none).run Tryz.prog w = .ok (.slice a' na c') w := run_firstE a' nb c' na (by omega)
 have r2 : ∀ w, (Instr.sliceAt 46 (.slice ax' kb cx') none (some (.int .i64 (ka : Int))) none).run Tryz.prog w = .ok (.slice ax' ka cx') w := run_firstX ax' kb cx' ka (by omega)
 have d1 : decide (na ≤ nb) = true := decide_eq_true (by omega)
 have d2 : decide (ka ≤ kb) = true := decide_eq_true (by omega)
 rw [← hna, ← hka, ← hnb, ← hkb]
 clear h1 h2 h3 h4 h5 h6 he hm hce hcx l1 l2 hna hka hnb hkb
 obtain ⟨W0, hW0⟩ : ∃ W0, (w.alloc (.cells #[.slice a na c, .slice ax ka cx, .int .i64 g.k, .bool g.f] 48)).alloc (.cells #[.slice a' nb c', .slice ax' kb cx', .int .i64 h.k, .bool h.f] 48) = W0 := ⟨_, rfl⟩
 have HB0 : Hid (Below w.heap.size w W0) := by rw [← hW0]; exact ((Below.refl _ w).alloc (Nat.le_refl _) _).alloc (by simp) _
 have HP0 : Bk W0 w.heap.size 48 #[.slice a na c, .slice ax ka cx, .int .i64 g.k, .bool g.f] := hW0 ▸ (Bk.new w _ _).alloc _
 have HQ0 : Bk W0 (w.heap.size + 1) 48 #[.slice a' nb c', .slice ax' kb cx', .int .i64 h.k, .bool h.f] := hW0 ▸ Bk.newAt (by simp) _ _
 have p0 : ∀ p : Beyond W0, p.w.cell? ⟨w.heap.size, 0, none⟩ = some (.slice a na c) := fun p => p.cell HP0.lt (HP0.cell rfl)
 have p1 : ∀ p : Beyond W0, p.w.cell? ⟨w.heap.size, 1, none⟩ = some (.slice ax ka cx) := fun p => p.cell HP0.lt (HP0.cell rfl)
 have q0 : ∀ p : Beyond W0, p.w.cell? ⟨w.heap.size + 1, 0, none⟩ = some (.slice a' nb c') := fun p => p.cell HQ0.lt (HQ0.cell rfl)
 have q1 : ∀ p : Beyond W0, p.w.cell? ⟨w.heap.size + 1, 1, none⟩ = some (.slice ax' kb cx') := fun p => p.cell HQ0.lt (HQ0.cell rfl)
 have hne : Nonempty (Beyond W0) := ⟨⟨W0, Below.refl _ _⟩⟩
 have HW0 : Hid ((w.alloc (.cells #[.slice a na c, .slice ax ka cx, .int .i64 g.k, .bool g.f] 48)).alloc (.cells #[.slice a' nb c', .slice ax' kb cx', .int .i64 h.k, .bool h.f] 48) = W0) := hW0
 have HE : Hid (∀ p : Beyond W0, Calls Tryz.prog 57 #[.slice a na c, .slice a' na c'] p.w fun e w' => e = .returned (.bool true) ∧ Below p.w.heap.size p.w w') := fun p => sameE_same _ _ g.ev _ (by have := HL.out.1; omega) (H1.out.below (HB0.out.trans (p.h.mono HB0.out.size))) (H5.out.below (HB0.out.trans (p.h.mono HB0.out.size)))
 have HX : Hid (∀ p : Beyond W0, Calls Tryz.prog 58 #[.slice ax ka cx, .slice ax' ka cx'] p.w fun e w' => e = .returned (.bool true) ∧ Below p.w.heap.size p.w w') := fun p => sameX_same _ _ g.em _ (by have := HL.out.2; omega) (H2.out.below (HB0.out.trans (p.h.mono HB0.out.size))) (H6.out.below (HB0.out.trans (p.h.mono HB0.out.size)))
 clear hW0 HP0 HQ0
 go_enter Tryz.func20, Tryz.ntmps20
 go_upto_region 1 with fail
 rw [HW0.out]
 clear HW0
 refine wp_region_beyond (by kernel_rfl) (by kernel_rfl) ?_
 repeat (go_big_quiet_step (first | (go_at_call 58; exact Beyond.of (HX.out _)) | (go_at_call 57; exact Beyond.of (HE.out _))))
 refine wpQuiet_nil ?_
 rintro w2 ⟨⟨_, hb2⟩, rfl⟩
 have HB2 : Hid (Below w.heap.size w _) := HB0.out.trans (hb2.mono HB0.out.size)
 clear hb2
 go_wp2
 go_ret
 exact ⟨rfl, HB2.out⟩
end Go.Proofs.YtbljfphdghfkfaaGreatDoor

/- A history: each event may be and is not later than the end, all in order; emits tell. -/
namespace Go.Proofs.YtbljfphdghfkfaaGreatDoor
open Go.RowKit
theorem evAt_mem {l : List Ev} {i : Nat} (h : i < l.length) : evAt l i ∈ l := by
 have : evAt l i = l[i] := by simp [evAt, h]
 rw [this]
 exact List.getElem_mem h
theorem sooner {a b : Ev} (h : a.t < b.t) : a.cmp b < 0 := by
 unfold Ev.cmp
 rw [cmpI_lt]
 exact .inl h
theorem ord_snoc {l : List Ev} {e : Ev} (h : Ord1 l) (he : ∀ x, x ∈ l → x.cmp e < 0) : Ord1 (l ++ [e]) := by
 intro i j hij hj
 simp only [List.length_append, List.length_cons, List.length_nil] at hj
 rw [evAt_left _ _ _ (by omega : i < l.length)]
 by_cases hl : j < l.length
 ·rw [evAt_left _ _ _ hl]
  exact h i j hij hl
 ·obtain rfl : j = l.length := by omega
  rw [evAt_last]
  exact he _ (evAt_mem (by omega))
def Tells (y : Em) : Prop := (0 ≤ y.t ∧ y.t ≤ 1000) ∧ (0 ≤ y.l ∧ y.l ≤ 3) ∧ (0 ≤ y.v ∧ y.v ≤ 999)
theorem put_x (t : Tn) (i z : Int) : (t.put i z).x = t.x := by unfold Tn.put; split <;> rfl
theorem step_tells {sd : Int} {v : List Int} {e : Ev} {o : O} {t : Tn} (he : (0 ≤ e.t ∧ e.t ≤ 1000) ∧ (0 ≤ e.d ∧ e.d ≤ 3)) (ha : (0 ≤ t.a ∧ t.a ≤ 999) ∧ (0 ≤ t.b ∧ t.b ≤ 999)) (h : ∀ y, y ∈ t.x → Tells y) : ∀ y, y ∈ (stepO sd v e o t).x → Tells y := by
 intro y hy
 unfold stepO at hy
 split at hy
 ·rw [put_x] at hy; exact h y hy
 ·split at hy
  ·rw [put_x] at hy; exact h y hy
  ·split at hy
   ·exact h y hy
   ·split at hy
    ·have hy' : y ∈ (t.put o.a (randI sd e.d t.d % o.b)).x := hy
     rw [put_x] at hy'; exact h y hy'
    ·split at hy
     ·rw [put_x] at hy; exact h y hy
     ·split at hy
      ·rcases List.mem_append.1 hy with hy | hy
       ·exact h y hy
       ·have : y = ⟨e.t, e.d, t.reg o.a⟩ := by simpa using hy
        subst this
        refine ⟨he.1, he.2, ?_⟩
        show 0 ≤ t.reg o.a ∧ t.reg o.a ≤ 999
        unfold Tn.reg
        split
        ·exact ha.1
        ·exact ha.2
      ·exact h y hy
theorem run_tells {m : Md} {e : Ev} {q0 d0 sd : Int} {v : List Int} {l : List O} (hl : ∀ j, j < l.length → (oAt l j).ok m.n m.h.length = true) (hv : ∀ a : Nat, -1 ≤ intAt v a ∧ intAt v a ≤ 1) (he : (0 ≤ e.t ∧ e.t ≤ 1000) ∧ (0 ≤ e.d ∧ e.d ≤ 3)) {u : Tn} :
  ∀ (f i c : Nat) (t : Tn), Went m e q0 d0 t c → (∀ y, y ∈ t.x → Tells y) → run sd v e l f i t = .done u → ∀ y, y ∈ u.x → Tells y
 | 0, _, _, t, _, h, hr => by cases hr; exact h
 | f + 1, i, c, t, hw, h, hr => by
  unfold run at hr
  split at hr
  ·rename_i h1
   split at hr
   ·cases hr
   ·rename_i h2
    refine run_tells hl hv he f _ (c + 1) _ (hw.step (hl i h1) fun h4 => ⟨?_, (hv _).2⟩) (step_tells he ⟨⟨hw.a0, hw.a1⟩, ⟨hw.b0, hw.b1⟩⟩ h) hr
    by_cases hlt : intAt v (oAt l i).a.toNat < 0
    ·exact absurd ⟨h4, hlt⟩ h2
    ·omega
  ·cases hr; exact h
theorem eff_tells {m : Md} {c0 c1 c2 c3 : Int} {s : St} {e : Ev} (hf : Fit m c0 c1 c2 c3 s e) : ∀ y, y ∈ (effR m [c0, c1, c2, c3] s e).x → Tells y := by
 have hev := ev_d hf.ev
 have hed : (0 ≤ e.t ∧ e.t ≤ 1000) ∧ (0 ≤ e.d ∧ e.d ≤ 3) := by
  have h9 := hf.ev
  simp only [Ev.ok, okB, decide_eq_true_eq] at h9
  omega
 have hk := hf.k
 have hkl : e.k.toNat < m.h.length := by omega
 obtain ⟨h8, hops⟩ := ok_ops hf.ok hkl
 unfold effR
 cases hr : run m.s [c0, c1, c2, c3] e (hAt m.h e.k.toNat) (hAt m.h e.k.toNat).length 0 (startT s) with
 | asks k => intro y hy; exact absurd hy (by simp [resE])
 | done t => exact run_tells (m := m) hops (vec_int c0 c1 c2 c3 hf.vc) hed _ 0 0 (startT s) (start_went (m := m) (e := e) hf.st) (fun y hy => absurd hy (by simp [startT])) hr
section
variable {m : Md} {c0 c1 c2 c3 : Int} {z : Int}
theorem seq_each (hm : m.ok = true) (hv : ∀ a : Int, -1 ≤ vecAt c0 c1 c2 c3 a ∧ vecAt c0 c1 c2 c3 a ≤ 1) :
  ∀ (f : Nat) (c : Co), Inv m c → (∀ x, x ∈ c.ev → x.ok = true ∧ x.t ≤ z) → (∀ y, y ∈ c.em → Tells y) →
   (∀ x, x ∈ (seqG (·.drop 1) (planO m.z) m [c0, c1, c2, c3] z f c).ev → x.ok = true ∧ x.t ≤ z) ∧ (∀ y, y ∈ (seqG (·.drop 1) (planO m.z) m [c0, c1, c2, c3] z f c).em → Tells y) ∧
   (seqG (·.drop 1) (planO m.z) m [c0, c1, c2, c3] z f c).ev.length ≤ 150 ∧ (seqG (·.drop 1) (planO m.z) m [c0, c1, c2, c3] z f c).em.length ≤ 1200 ∧ -1 ≤ (seqG (·.drop 1) (planO m.z) m [c0, c1, c2, c3] z f c).k ∧ (seqG (·.drop 1) (planO m.z) m [c0, c1, c2, c3] z f c).k ≤ 3
 | 0, c, hi, h, k => ⟨h, k, hi.el, by have := hi.xl; have := hi.el; show c.em.length ≤ _; omega, by show -1 ≤ (-1 : Int) ∧ (-1 : Int) ≤ 3; omega⟩
 | f + 1, c, hi, h, k => by
  have hx : c.em.length ≤ 1200 := by have := hi.xl; have := hi.el; omega
  unfold seqG
  split
  ·rename_i h0
   split
   ·exact ⟨h, k, hi.el, hx, by show -1 ≤ (-1 : Int) ∧ (-1 : Int) ≤ 3; omega⟩
   ·rename_i h150
    split
    ·rename_i hk
     refine ⟨h, k, hi.el, hx, ?_⟩
     rcases hi.goes h0.1 hm hv (by omega) with h9 | h9
     ·exact ⟨by have := h9.1; show -1 ≤ (effC m [c0, c1, c2, c3] c).k; omega, h9.2⟩
     ·have := h9.k
      omega
    ·rename_i hk
     have hg := (hi.goes h0.1 hm hv (by omega)).resolve_left (fun x => hk x.1)
     refine seq_each hm hv f _ (hi.next h0.1 hm (by omega) hg) (fun x hx => ?_) (fun y hy => ?_)
     ·rcases List.mem_append.1 hx with hx | hx
      ·exact h x hx
      ·have : x = evAt c.td 0 := by simpa using hx
       subst this
       exact ⟨(hi.due h0.1).ok, h0.2⟩
     ·rcases List.mem_append.1 hy with hy | hy
      ·exact k y hy
      ·exact eff_tells (hi.fit h0.1 hm hv) y hy
  ·exact ⟨h, k, hi.el, hx, by show -1 ≤ (-1 : Int) ∧ (-1 : Int) ≤ 3; omega⟩
theorem seq_ord (hm : m.ok = true) (hv : ∀ a : Int, -1 ≤ vecAt c0 c1 c2 c3 a ∧ vecAt c0 c1 c2 c3 a ≤ 1) :
  ∀ (f : Nat) (c : Co) (h : List Ev), Inv m c → Alike h c.td → Ord1 c.ev → (∀ x, x ∈ c.ev → ∀ y, InL y c.td → x.cmp y < 0) → Ord1 (seqG (·.drop 1) (planO m.z) m [c0, c1, c2, c3] z f c).ev
 | 0, _, _, _, _, ho, _ => ho
 | f + 1, c, h, hi, a, ho, hx => by
  unfold seqG
  split
  ·rename_i h0
   split
   ·exact ho
   ·rename_i h150
    split
    ·exact ho
    ·rename_i hk
     have hg := (hi.goes h0.1 hm hv (by omega)).resolve_left (fun x => hk x.1)
     obtain ⟨_, _, h', _, a'⟩ := alike_next hi h0.1 a hg
     have hlast : ∀ x, x ∈ c.ev → x.cmp (evAt c.td 0) < 0 := fun x hm' => hx x hm' _ ⟨0, h0.1, rfl⟩
     refine seq_ord hm hv f _ h' (hi.next h0.1 hm (by omega) hg) a' (ord_snoc ho hlast) (fun x hx' y hy => ?_)
     have hey : (evAt c.td 0).cmp y < 0 := by
      rcases inL_planO hy with hy | ⟨⟨j, hj, rfl⟩, _⟩
      ·obtain ⟨j, hj, rfl⟩ := hy
       have hj' : j + 1 < c.td.length := by simp at hj; omega
       have e : evAt (c.td.drop 1) j = evAt c.td (j + 1) := by simp [evAt]
       rw [e]
       exact a.o 0 (j + 1) (by omega) hj'
      ·refine sooner ?_
       have := (hg.s j hj).t0
       omega
     rcases List.mem_append.1 hx' with hx' | hx'
     ·exact cmp_trans (hlast x hx') hey
     ·have : x = evAt c.td 0 := by simpa using hx'
      subst this
      exact hey
  ·exact ho
end
theorem seqR_all {m : Md} {c0 c1 c2 c3 : Int} (hm : m.ok = true) (hv : ∀ a : Int, -1 ≤ vecAt c0 c1 c2 c3 a ∧ vecAt c0 c1 c2 c3 a ≤ 1) (z : Int) :
  (∀ i, i < (seqR m [c0, c1, c2, c3] z).ev.length → (evAt (seqR m [c0, c1, c2, c3] z).ev i).ok = true ∧ (evAt (seqR m [c0, c1, c2, c3] z).ev i).t ≤ z) ∧ (∀ i, i < (seqR m [c0, c1, c2, c3] z).em.length → Tells (xAt (seqR m [c0, c1, c2, c3] z).em i)) ∧
  Ord1 (seqR m [c0, c1, c2, c3] z).ev ∧ (seqR m [c0, c1, c2, c3] z).ev.length ≤ 150 ∧ (seqR m [c0, c1, c2, c3] z).em.length ≤ 1200 ∧ -1 ≤ (seqR m [c0, c1, c2, c3] z).k ∧ (seqR m [c0, c1, c2, c3] z).k ≤ 3 := by
 obtain ⟨h1, h2, h3, h4, h5, h6⟩ := seq_each (z := z) hm hv 151 (begC m) (beg_inv hm) (fun x hx => absurd hx (by simp [begC])) (fun y hy => absurd hy (by simp [begC]))
 refine ⟨fun i hi => h1 _ (evAt_mem hi), fun i hi => h2 _ ?_, seq_ord (z := z) hm hv 151 (begC m) (begH m).td (beg_inv hm) (beg_alike hm) (fun i j _ hj => by simp [begC] at hj) (fun x hx => absurd hx (by simp [begC])), h3, h4, h5, h6⟩
 have : xAt (seqR m [c0, c1, c2, c3] z).em i = (seqR m [c0, c1, c2, c3] z).em[i] := by simp [xAt, hi]
 rw [this]
 exact List.getElem_mem hi
end Go.Proofs.YtbljfphdghfkfaaGreatDoor

