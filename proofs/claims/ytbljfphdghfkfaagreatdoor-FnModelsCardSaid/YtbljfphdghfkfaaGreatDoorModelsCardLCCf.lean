/- The program's courseOf: the states as they begin, the start on the heap. -/
import Derived.Test.YtbljfphdghfkfaaGreatDoorModelsCardG37
import Derived.Test.YtbljfphdghfkfaaGreatDoorModelsCardG16
import Derived.Deep.RegionWith
import Derived.Deep.Cut
import Derived.Deep.CutBlock
namespace Go.Proofs.YtbljfphdghfkfaaGreatDoor
open Go.RowKit
theorem PCo.grow {B Cb P i : Nat} {w : World} {ms : List Value} {c0 c1 c2 c3 : Int} {l : List Pt} {v ve vx : Value} {c : Co} (h : PCo B Cb P w ms c0 c1 c2 c3 l v ve vx c) (hi : c.st.length = i) (hi4 : i < 4) (p : Pt) (hp : RowF (AP B w Cb P v ve vx) w p.1 p.2.r.length 1 (intCells p.2.r)) :
  PCo B Cb P (put3o w Cb (10 + i * 3) p.1 (.int .i64 p.2.q) (.int .i64 p.2.d)) ms c0 c1 c2 c3 (l.set i p) v ve vx ⟨c.td, c.st ++ [p.2], c.ev, c.em⟩ := by
 subst hi
 have h1 : PCo B Cb P w ms c0 c1 c2 c3 l v ve vx ⟨c.td, c.st ++ [(tAt l c.st.length).2], c.ev, c.em⟩ := ⟨h.pl, h.cb, h.m6, h.l4, h.ss, fun j hj => by
  simp at hj
  by_cases h9 : j = c.st.length
  ·subst h9; simp [stAt]
  ·have h8 := h.sl j (by omega)
   rw [h8]
   simp [stAt, List.getElem?_append_left (show j < c.st.length by omega)], h.es, h.xs, h.ap, h.lo⟩
 have h2 := h1.state (i := c.st.length) (by simp) hi4 p hp
 simpa using h2
theorem bk_ne {w : World} {P Cb : Nat} {v : Value} {vs : Array Value} (h1 : Bk w P 163 #[v]) (h2 : Bk w Cb 101 vs) : Cb ≠ P := fun e => by
 unfold Bk at h1 h2
 rw [e, h1] at h2
 simp at h2
def zeros4 : List Pt := [(.slice none 0 0, ⟨[], 0, 0⟩), (.slice none 0 0, ⟨[], 0, 0⟩), (.slice none 0 0, ⟨[], 0, 0⟩), (.slice none 0 0, ⟨[], 0, 0⟩)]
theorem PCo.begin {B Cb P : Nat} {w : World} {ms : List Value} {c0 c1 c2 c3 : Int} {v : Value} (hp : Pl w B P v []) (hc : Bk w Cb 101 (courseL ms c0 c1 c2 c3 zeros4 P (.slice none 0 0) (.slice none 0 0) (-1) false).toArray) (hm : ms.length = 6) (hlo : B ≤ Cb) :
  PCo B Cb P w ms c0 c1 c2 c3 zeros4 v (.slice none 0 0) (.slice none 0 0) ⟨[], [], [], []⟩ :=
 ⟨hp, hc, hm, rfl, fun j hj => by
  have h9 : tAt zeros4 j = (.slice none 0 0, ⟨[], 0, 0⟩) := by
   match j, hj with
   | 0, _ => rfl
   | 1, _ => rfl
   | 2, _ => rfl
   | 3, _ => rfl
  rw [h9]
  exact ⟨rfl, none, 0, rfl, Nat.le_refl _, by unfold maxLen; omega, .inl rfl⟩, fun j hj => absurd hj (Nat.not_lt_zero j), OwnR.nil _ _, World.ownsRow_nil w B _ 3, (fun k _ e => by cases e), hlo⟩
set_option maxRecDepth 100000 in
set_option maxHeartbeats 16000000 in
theorem courseOf_any (w : World) (m : Md) (ai ah ae : Option Addr) (ci ch ce : Nat) (c0 c1 c2 c3 : Int) (hm : IsM w (.agg #[.int .i64 m.n, .int .i64 m.s, .slice ai m.i.length ci, .slice ah m.h.length ch, .slice ae m.e.length ce, .int .i64 m.z]) m) (hok : m.ok = true) :
  Calls Tryz.prog 53 #[.agg #[.int .i64 m.n, .int .i64 m.s, .slice ai m.i.length ci, .slice ah m.h.length ch, .slice ae m.e.length ce, .int .i64 m.z], .agg #[.int .i64 c0, .int .i64 c1, .int .i64 c2, .int .i64 c3]] w fun r w' => ∃ W1 Cb P l v ve vx, r = .returned (.pointer (some ⟨Cb, 0, none⟩)) ∧ Below w.heap.size w W1 ∧ Below W1.heap.size W1 w' ∧ PCo W1.heap.size Cb P w' [.int .i64 m.n, .int .i64 m.s, .slice ai m.i.length ci, .slice ah m.h.length ch, .slice ae m.e.length ce, .int .i64 m.z] c0 c1 c2 c3 l v ve vx (begH m) := by
 have HM : Hid (IsM w (.agg #[.int .i64 m.n, .int .i64 m.s, .slice ai m.i.length ci, .slice ah m.h.length ch, .slice ae m.e.length ce, .int .i64 m.z]) m) := hm
 have HOK : Hid (m.ok = true) := hok
 clear hm hok
 obtain ⟨W1, hW1⟩ : ∃ W1, (w.alloc (.cells #[.int .i64 m.n, .int .i64 m.s, .slice ai m.i.length ci, .slice ah m.h.length ch, .slice ae m.e.length ce, .int .i64 m.z] 27)).alloc (.cells #[.int .i64 c0, .int .i64 c1, .int .i64 c2, .int .i64 c3] 90) = W1 := ⟨_, rfl⟩
 have hB1 : Below w.heap.size w W1 := by rw [← hW1]; exact ((Below.refl _ w).alloc (Nat.le_refl _) _).alloc (by simp) _
 have hM1 : Bk W1 w.heap.size 27 #[.int .i64 m.n, .int .i64 m.s, .slice ai m.i.length ci, .slice ah m.h.length ch, .slice ae m.e.length ce, .int .i64 m.z] := by rw [← hW1]; exact (Bk.new w _ _).alloc _
 have hV1 : Bk W1 (w.heap.size + 1) 90 #[.int .i64 c0, .int .i64 c1, .int .i64 c2, .int .i64 c3] := by rw [← hW1]; exact Bk.newAt (by simp) _ _
 have HM1 : Hid (Bk W1 w.heap.size 27 #[.int .i64 m.n, .int .i64 m.s, .slice ai m.i.length ci, .slice ah m.h.length ch, .slice ae m.e.length ce, .int .i64 m.z]) := hM1
 have HB1 : Hid (Below w.heap.size w W1) := hB1
 have m0 := hM1.cell (i := 0) rfl
 have m1 := hM1.cell (i := 1) rfl
 have m2 := hM1.cell (i := 2) rfl
 have m3 := hM1.cell (i := 3) rfl
 have m4 := hM1.cell (i := 4) rfl
 have m5 := hM1.cell (i := 5) rfl
 have v0 := hV1.cell (i := 0) rfl
 have v1 := hV1.cell (i := 1) rfl
 have v2 := hV1.cell (i := 2) rfl
 have v3 := hV1.cell (i := 3) rfl
 have hs1 : W1.heap.size = w.heap.size + 2 := by rw [← hW1]; simp
 have HPI : Hid (Calls Tryz.prog 82 #[.slice none 0 0] W1.drew fun e w' => ∃ P v, e = .returned (pv P) ∧ Pl w' W1.drew.heap.size P v [] ∧ Below W1.drew.heap.size W1.drew w') := pileOf_any (.slice none 0 0) [] W1.drew (by simp) (.inl ⟨rfl, rfl⟩)
 clear hM1 hV1 hB1
 go_enter Tryz.func53, Tryz.ntmps53
 go_wp2
 try simp only [hW1]
 go_cut [5] from 7 to 12 (fun s5 wc => ∃ Cb P v, s5 = .pointer (some ⟨Cb, 0, none⟩) ∧ Below W1.heap.size W1 wc ∧ Pl wc W1.heap.size P v [] ∧ Bk wc Cb 101 (courseL [.int .i64 m.n, .int .i64 m.s, .slice ai m.i.length ci, .slice ah m.h.length ch, .slice ae m.e.length ce, .int .i64 m.z] c0 c1 c2 c3 zeros4 P (.slice none 0 0) (.slice none 0 0) 0 false).toArray ∧ W1.heap.size ≤ Cb)
 case first =>
  go_region_with (go_at_call 82; refine HPI.out.mono ?_; rintro r W2 ⟨P, pvv, rfl, hp2, hb2⟩; have HP2 : Hid (Pl W2 W1.drew.heap.size P pvv []) := hp2; have HB2 : Hid (Below W1.heap.size W1 W2) := ((Below.refl _ W1).drew).trans hb2; have n0 := (hb2.cell (p := ⟨w.heap.size, 0, none⟩) (by simp; omega)).trans m0; have n1 := (hb2.cell (p := ⟨w.heap.size, 1, none⟩) (by simp; omega)).trans m1; have n2 := (hb2.cell (p := ⟨w.heap.size, 2, none⟩) (by simp; omega)).trans m2; have n3 := (hb2.cell (p := ⟨w.heap.size, 3, none⟩) (by simp; omega)).trans m3; have n4 := (hb2.cell (p := ⟨w.heap.size, 4, none⟩) (by simp; omega)).trans m4; have n5 := (hb2.cell (p := ⟨w.heap.size, 5, none⟩) (by simp; omega)).trans m5; have y0 := (hb2.cell (p := ⟨w.heap.size + 1, 0, none⟩) (by simp; omega)).trans v0; have y1 := (hb2.cell (p := ⟨w.heap.size + 1, 1, none⟩) (by simp; omega)).trans v1; have y2 := (hb2.cell (p := ⟨w.heap.size + 1, 2, none⟩) (by simp; omega)).trans v2; have y3 := (hb2.cell (p := ⟨w.heap.size + 1, 3, none⟩) (by simp; omega)).trans v3; clear hb2 hp2)
  all_goals
   have hs2 := HB2.out.size
   go_wp2
   go_meet
   case rel => exact ⟨_, P, pvv, rfl, HB2.out.alloc hs2 _, HP2.out.alloc _, Bk.new _ _ _, hs2⟩
 case rest =>
  rename World => W2
  obtain ⟨Cb, P, v, rfl, hb2, hp2, hc2, hlo⟩ := hcut
  have hcP : Cb ≠ P := bk_ne hp2.bk hc2
  have g25 := hc2.cell (i := 25) (v := .int .i64 0) rfl
  have f25 := hc2.free 25
  have HN : Hid ((m.i.length : Int) = m.n) := ok_init HOK.out
  have hn4 : m.i.length ≤ 4 := by have := ok_seed HOK.out; have := HN.out; omega
  obtain ⟨W3, hW3⟩ : ∃ W3, W2.setCell ⟨Cb, 25, none⟩ (.int .i64 (-1)) = W3 := ⟨_, rfl⟩
  have ht3 : Turns (fun k => k = Cb) W2 W3 := by rw [← hW3]; exact put1_turns W2 Cb 25 _
  have HP3 : Hid (PCo W1.heap.size Cb P W3 [.int .i64 m.n, .int .i64 m.s, .slice ai m.i.length ci, .slice ah m.h.length ch, .slice ae m.e.length ce, .int .i64 m.z] c0 c1 c2 c3 zeros4 v (.slice none 0 0) (.slice none 0 0) ⟨[], firsts m 0, [], []⟩) := by
   have h9 := hc2.put 25 (.int .i64 (-1))
   rw [course_asks rfl rfl, hW3] at h9
   exact PCo.begin (hp2.turns ht3 (fun e => hcP e.symm) (rowOff hc2 hp2.row (by decide))) h9 rfl hlo
  have HB3 : Hid (Below W1.heap.size W1 W3) := hb2.trans (ht3.to_below (fun k e => by rw [show k = Cb from e]; exact hlo) hb2.size)
  have k0 := (HM1.out.keep HB3.out (by omega)).cell (i := 0) rfl
  clear hb2 hp2 hc2 ht3 m0 m1 m2 m3 m4 m5 v0 v1 v2 v3 HPI hW1
  go_wp2
  try simp only [hW3]
  clear hW3 g25 f25
  go_loopw [18] (fun iv wr => ∃ (k : Nat) (l : List Pt), k ≤ m.i.length ∧ iv = .int .i64 k ∧ PCo W1.heap.size Cb P wr [.int .i64 m.n, .int .i64 m.s, .slice ai m.i.length ci, .slice ah m.h.length ch, .slice ae m.e.length ce, .int .i64 m.z] c0 c1 c2 c3 l v (.slice none 0 0) (.slice none 0 0) ⟨[], firsts m k, [], []⟩ ∧ Below W1.heap.size W1 wr) (fun iv _ => m.i.length - (intOf iv).toNat)
  case atStart => exact ⟨0, zeros4, Nat.zero_le _, rfl, HP3.out, HB3.out⟩
  case round =>
   obtain ⟨k, l, hk, rfl, hP, hb⟩ := hrel
   have HP : Hid (PCo W1.heap.size Cb P wr [.int .i64 m.n, .int .i64 m.s, .slice ai m.i.length ci, .slice ah m.h.length ch, .slice ae m.e.length ce, .int .i64 m.z] c0 c1 c2 c3 l v (.slice none 0 0) (.slice none 0 0) ⟨[], firsts m k, [], []⟩) := hP
   have HB : Hid (Below W1.heap.size W1 wr) := hb
   have hsz : W1.heap.size ≤ wr.heap.size := hb.size
   have HPr : Hid (Bk wr w.heap.size 27 #[.int .i64 m.n, .int .i64 m.s, .slice ai m.i.length ci, .slice ah m.h.length ch, .slice ae m.e.length ce, .int .i64 m.z]) := HM1.out.keep hb (by omega)
   have HMr : Hid (IsM wr (.agg #[.int .i64 m.n, .int .i64 m.s, .slice ai m.i.length ci, .slice ah m.h.length ch, .slice ae m.e.length ce, .int .i64 m.z]) m) := HM.out.below (HB1.out.trans (hb.mono (by omega)))
   clear hP hb k0
   by_cases hlt : k < m.i.length
   ·have hdk : decide ((k : Int) < m.n) = true := by have := HN.out; simp; omega
    have HLT : Hid (k < m.i.length) := hlt
    have p0 := HPr.out.cell (i := 0) rfl
    have p1 := HPr.out.cell (i := 1) rfl
    have p2 := HPr.out.cell (i := 2) rfl
    have p3 := HPr.out.cell (i := 3) rfl
    have p4 := HPr.out.cell (i := 4) rfl
    have p5 := HPr.out.cell (i := 5) rfl
    have hk4 : (k : Int) < 4 := by omega
    have HC : Hid (Calls Tryz.prog 83 #[.agg #[.int .i64 m.n, .int .i64 m.s, .slice ai m.i.length ci, .slice ah m.h.length ch, .slice ae m.e.length ce, .int .i64 m.z], .int .i64 k] wr.drew fun e w' => ∃ y, e = .returned y ∧ Below wr.drew.heap.size wr.drew w' ∧ StF (fun j => wr.drew.heap.size ≤ j ∧ j < w'.heap.size) w' y ⟨[intAt m.i k, 0], 0, 0⟩) := iBegin (.agg #[.int .i64 m.n, .int .i64 m.s, .slice ai m.i.length ci, .slice ah m.h.length ch, .slice ae m.e.length ce, .int .i64 m.z]) m k wr.drew hlt (HMr.out.below ((Below.refl _ wr).drew))
    have hkn : k < 4 := by omega
    go_wp2
    go_region_with (go_at_call 83; refine HC.out.mono ?_; rintro r w1 ⟨y, rfl, hb1, vr, rfl, hrow⟩; obtain ⟨_, va, vc, rfl, _⟩ := id hrow; have HRw : Hid (RowF (fun j => wr.heap.size ≤ j ∧ j < w1.heap.size) w1 (.slice va 2 vc) [intAt m.i k, 0].length 1 (intCells [intAt m.i k, 0])) := hrow; have HBw : Hid (Below wr.heap.size wr w1) := ((Below.refl _ wr).drew).trans hb1; obtain ⟨t0, t1, t2⟩ := course_at (ms := [.int .i64 m.n, .int .i64 m.s, .slice ai m.i.length ci, .slice ah m.h.length ch, .slice ae m.e.length ce, .int .i64 m.z]) (c0 := c0) (c1 := c1) (c2 := c2) (c3 := c3) (l := l) (P := P) (ve := (.slice none 0 0)) (vx := (.slice none 0 0)) rfl HP.out.l4 (-1) false hkn; have hcw := HP.out.cb.below HBw.out; have s0 := hcw.cell t0; have s1 := hcw.cell t1; have s2 := hcw.cell t2; have f0 := hcw.free (10 + k * 3); have f1 := hcw.free (10 + k * 3 + 1); have f2 := hcw.free (10 + k * 3 + 2); clear hrow hb1 hcw t0 t1 t2)
    all_goals
     have hs1 : wr.heap.size ≤ w1.heap.size := HBw.out.size
     have hCw : Cb < wr.heap.size := HP.out.cb.lt
     have hPw : P < wr.heap.size := HP.out.pl.box.lt
     have h9 := (HP.out.below HBw.out).grow (i := k) (firsts_length m k) hkn (.slice va 2 vc, firstS m (k : Int)) (HRw.out.mono (fun j hj => ⟨⟨by omega, hj.2⟩, by omega, by omega, fun e => by have := (World.ownsRow.lt HP.out.pl.row j e).2; omega, (fun e => by cases e), (fun e => by cases e)⟩))
     have HP9 : Hid (PCo W1.heap.size Cb P (put3o w1 Cb (10 + k * 3) (.slice va 2 vc) (.int .i64 0) (.int .i64 0)) [.int .i64 m.n, .int .i64 m.s, .slice ai m.i.length ci, .slice ah m.h.length ch, .slice ae m.e.length ce, .int .i64 m.z] c0 c1 c2 c3 (l.set k (.slice va 2 vc, firstS m (k : Int))) v (.slice none 0 0) (.slice none 0 0) ⟨[], firsts m (k + 1), [], []⟩) := by
      rw [firsts_snoc]
      exact h9
     have HB9 : Hid (Below W1.heap.size W1 (put3o w1 Cb (10 + k * 3) (.slice va 2 vc) (.int .i64 0) (.int .i64 0))) := HB.out.trans ((HBw.out.mono hsz).trans ((put3o_turns w1 Cb (10 + k * 3) _ _ _).to_below (fun j e => by rw [show j = Cb from e]; exact HP.out.lo) (by omega)))
     clear h9 s0 s1 s2 f0 f1 f2
     go_wp2
     go_roundw
     case rel => exact ⟨k + 1, _, by have := HLT.out; omega, by go_num, HP9.out, HB9.out⟩
     case measure => simp [intOf]; have := HLT.out; omega
   ·have HKE : Hid (k = m.i.length) := by show k = m.i.length; omega
    have hdk : decide ((k : Int) < m.n) = false := by have := HN.out; have := HKE.out; simp; omega
    have p4 := HPr.out.cell (i := 4) rfl
    obtain ⟨W4, rfl⟩ : ∃ W4, W4 = wr := ⟨wr, rfl⟩
    have HPL : Hid (Calls Tryz.prog 84 #[.pointer (some ⟨Cb, 0, none⟩), .slice ae m.e.length ce] W4 fun e w' => (∃ u, e = .returned u) ∧ (∃ v', Pl w' W1.heap.size P v' (planH m.z [] (bares m.e)) ∧ NewRow W4 v v') ∧ Turns (fun k => k = P ∨ v.ownBlock = some k) W4 w') := by
     have hc5 : W4.cell? ⟨Cb, 5, none⟩ = some (.int .i64 m.z) := HP.out.cb.cell (i := 5) rfl
     obtain ⟨q22, _⟩ := course_td (ms := [.int .i64 m.n, .int .i64 m.s, .slice ai m.i.length ci, .slice ah m.h.length ch, .slice ae m.e.length ce, .int .i64 m.z]) (c0 := c0) (c1 := c1) (c2 := c2) (c3 := c3) (l := l) (P := P) (ve := (.slice none 0 0)) (vx := (.slice none 0 0)) rfl HP.out.l4 (-1) false
     have hvC : v.ownBlock ≠ some Cb := fun e => rowOff HP.out.cb HP.out.pl.row (by decide) Cb e rfl
     have hvB : ∀ b, b < W1.heap.size → v.ownBlock ≠ some b := fun b hb e => by have := (World.ownsRow.lt HP.out.pl.row b e).1; omega
     have hPB := HP.out.pl.low
     have hCw : Cb < W4.heap.size := HP.out.cb.lt
     have h6 := ok_len6 HOK.out
     have hokl : ∀ i, i < m.e.length → (evAt m.e i).bare.ok = true := fun i hi => bare_ok (ok_start HOK.out hi).1
     obtain ⟨vi, vh, vs, h5, _, _, ⟨a', cap', h4, _, _, h3⟩⟩ := HM.out
     cases h5
     cases h4
     have hb4 : Below w.heap.size w W4 := HB1.out.trans (HB.out.mono (by omega))
     rcases h3 with h3 | ⟨b, off, h3, h2⟩
     ·exact plan_any W1.heap.size P Cb v [] ae ce w.heap.size m.e m.z W4 hsz HP.out.pl (.inl h3) (by omega) (by omega) (hvB _ (by omega)) hc5 (HP.out.cb.cell q22) hCw HP.out.cp hvC (by simp; omega) (fun i h => absurd h (Nat.not_lt_zero _)) hokl
     ·have hbw := h2.1
      exact plan_any W1.heap.size P Cb v [] ae ce b m.e m.z W4 hsz HP.out.pl (.inr ⟨off, h3, h2.below hb4 hbw⟩) (by omega) (by omega) (hvB _ (by omega)) hc5 (HP.out.cb.cell q22) hCw HP.out.cp hvC (by simp; omega) (fun i h => absurd h (Nat.not_lt_zero _)) hokl
    go_wp2_with fail
    refine HPL.out.mono ?_
    rintro r W5 ⟨⟨u5, rfl⟩, ⟨v', hp5, hn5⟩, ht5⟩
    have HP5 := HP.out.todo ht5 hp5 hn5
    have HB5 : Below W1.heap.size W1 W5 := HB.out.trans (ht5.to_below (fun k e => by
     rcases e with e | e
     ·rw [show k = P from e]; exact HP.out.pl.low
     ·exact (World.ownsRow.lt HP.out.pl.row k e).1) hsz)
    have hbeg : begH m = ⟨planH m.z [] (bares m.e), firsts m k, [], []⟩ := by
     have h9 : m.n.toNat = k := by have := HN.out; have := HKE.out; omega
     unfold begH
     rw [h9]
    have HP6 : Hid (PCo W1.heap.size Cb P W5 [.int .i64 m.n, .int .i64 m.s, .slice ai m.i.length ci, .slice ah m.h.length ch, .slice ae m.e.length ce, .int .i64 m.z] c0 c1 c2 c3 l v' (.slice none 0 0) (.slice none 0 0) (begH m)) := by rw [hbeg]; exact HP5
    have HB6 : Hid (Below W1.heap.size W1 W5) := HB5
    clear HP5 HB5 hbeg ht5 hp5 hn5
    go_wp2
    refine bodyPost_ret (v := .pointer (some ⟨Cb, 0, none⟩)) (by simp [results, Tryz.results53, go_sem]) rfl ?_
    exact ⟨W1, Cb, P, l, v', _, _, rfl, HB1.out, HB6.out, HP6.out⟩
end Go.Proofs.YtbljfphdghfkfaaGreatDoor
