/- EHanI, CSqG, CSqI -/
import Derived.Test.YtbljfphdghfkfaaGreatDoorModelsCardG16
import Derived.Test.YtbljfphdghfkfaaGreatDoorModelsCardG09
import Derived.Test.YtbljfphdghfkfaaGreatDoorModelsCardLCGo
import Derived.Test.YtbljfphdghfkfaaGreatDoorModelsCardLCCf
/- The program's Handle. -/
namespace Go.Proofs.YtbljfphdghfkfaaGreatDoor
open Go.RowKit
theorem vec_of {l : List Int} (h : vok l = true) : ∃ c0 c1 c2 c3, l = [c0, c1, c2, c3] ∧ ∀ a : Int, -1 ≤ vecAt c0 c1 c2 c3 a ∧ vecAt c0 c1 c2 c3 a ≤ 1 := by
 obtain ⟨a, b, c, d, rfl, h0, h1, h2, h3⟩ := vok_four h
 refine ⟨a, b, c, d, rfl, fun i => ?_⟩
 unfold vecAt
 split
 ·omega
 ·split
  ·omega
  ·split <;> omega
end Go.Proofs.YtbljfphdghfkfaaGreatDoor

/- The program's Sequence, where all is as it wants it. -/
namespace Go.Proofs.YtbljfphdghfkfaaGreatDoor
open Go.RowKit
def evLen2 (w : World) (H : Nat) : Nat := match w.cell? ⟨H, 23, none⟩ with
 | some (.slice _ n _) => n
 | _ => 0
theorem goes_ok {m : Md} {c : Co} {v : List Int} (h : Inv m c) (h0 : 0 < c.td.length) (hm : m.ok = true) (hl : c.ev.length < 150) (hg : Goes m v c) : ∀ j, j < (effC m v c).s.length → (evAt (effC m v c).s j).ok = true := fun j hj => by
 obtain ⟨_, _, hn0, hn1, hh4, hz0, hz1⟩ := ok_seed hm
 have hdu := h.due h0
 obtain ⟨hd0, _, ht0⟩ := ev_d hdu.ok
 have hpl := h.s _ (h.place h0)
 have hst := hg.st
 have hq := hg.q
 have hs1 := hpl.1
 simp only [St.ok, decide_eq_true_eq] at hst hs1
 have hS := hg.s j hj
 have a1 := hS.s
 have a2 := hS.q
 have a3 := hS.d1
 have a4 := hS.k1
 have a5 := hdu.d
 have a6 := hdu.t
 have b1 := hS.g
 have b2 := hS.d0
 have b3 := hS.k0
 have b4 := hS.v0
 have b5 := hS.v1
 have b6 := hS.t0
 have b7 := hS.t1
 simp only [Ev.ok, okB, decide_eq_true_eq]
 omega
theorem evLen2_of {w : World} {H : Nat} {a : Option Addr} {n c : Nat} (h : w.cell? ⟨H, 23, none⟩ = some (.slice a n c)) : evLen2 w H = n := by unfold evLen2; rw [h]
set_option maxRecDepth 100000 in
set_option maxHeartbeats 16000000 in
theorem iSeqG (x d : Value) (m : Md) (c0 c1 c2 c3 z : Int) (w : World) (hsm : SmallM m) (hm : IsM w x m) (hd : IsI w d [c0, c1, c2, c3]) (hok : m.ok = true) (hv : vok [c0, c1, c2, c3] = true) (hvc : ∀ a : Int, -1 ≤ vecAt c0 c1 c2 c3 a ∧ vecAt c0 c1 c2 c3 a ≤ 1) (hz0 : 0 ≤ z) (hz1 : z ≤ m.z) :
  Calls Tryz.prog 18 #[x, d, .int .i64 z] w fun r w' => ∃ u, r = .returned (.tuple #[u, .bool true]) ∧ Below w.heap.size w w' ∧ HiF (fun k => w.heap.size ≤ k ∧ k < w'.heap.size) w' u (seqR m [c0, c1, c2, c3] z) := by
 have HM : Hid (IsM w x m) := hm
 have HD : Hid (IsI w d [c0, c1, c2, c3]) := hd
 have HSM : Hid (SmallM m) := hsm
 have HOK : Hid (m.ok = true) := hok
 have HVC : Hid (∀ a : Int, -1 ≤ vecAt c0 c1 c2 c3 a ∧ vecAt c0 c1 c2 c3 a ≤ 1) := hvc
 have HZZ : Hid (0 ≤ z ∧ z ≤ m.z) := ⟨hz0, hz1⟩
 obtain ⟨vi, vh, vs, rfl, ⟨ai, ci, rfl, _⟩, ⟨ah, ch, rfl, _⟩, ⟨ae, ce, rfl, _⟩⟩ := hm
 clear hsm hd hvc
 obtain ⟨W0, hW0⟩ : ∃ W0, (w.alloc (.cells #[.int .i64 m.n, .int .i64 m.s, .slice ai m.i.length ci, .slice ah m.h.length ch, .slice ae m.e.length ce, .int .i64 m.z] 27)).alloc (.cells #[.slice none 0 0, .slice none 0 0, .int .i64 0, .bool false] 48) = W0 := ⟨_, rfl⟩
 have HM0 : Hid (Bk W0 w.heap.size 27 #[.int .i64 m.n, .int .i64 m.s, .slice ai m.i.length ci, .slice ah m.h.length ch, .slice ae m.e.length ce, .int .i64 m.z]) := by rw [← hW0]; exact (Bk.new w _ _).alloc _
 have HR0 : Hid (Bk W0 (w.heap.size + 1) 48 #[.slice none 0 0, .slice none 0 0, .int .i64 0, .bool false]) := by rw [← hW0]; exact Bk.newAt (by simp) _ _
 have HB0 : Hid (Below w.heap.size w W0) := by rw [← hW0]; exact ((Below.refl _ w).alloc (Nat.le_refl _) _).alloc (by simp) _
 have hs0 : W0.heap.size = w.heap.size + 2 := by rw [← hW0]; simp
 go_enter Tryz.func18, Tryz.ntmps18
 go_wp2_with fail
 clear hW0
 refine (of_any _ [c0, c1, c2, c3] _ (by simp) (HD.out.below HB0.out)).mono ?_
 rintro r w1 ⟨rfl, hb⟩
 have HB1 : Hid (Below w.heap.size w w1) := HB0.out.trans (hb.mono HB0.out.size)
 have HM1 : Hid (Bk w1 w.heap.size 27 #[.int .i64 m.n, .int .i64 m.s, .slice ai m.i.length ci, .slice ah m.h.length ch, .slice ae m.e.length ce, .int .i64 m.z]) := HM0.out.below hb
 have HR1 : Hid (Bk w1 (w.heap.size + 1) 48 #[.slice none 0 0, .slice none 0 0, .int .i64 0, .bool false]) := HR0.out.below hb
 clear hb HB0 HM0 HR0
 rw [show vecOf [c0, c1, c2, c3] = vec c0 c1 c2 c3 from by simp [vecOf, hv, intAt]]
 obtain ⟨w2, hw2⟩ : ∃ W, w1.alloc (.cells #[i64 c0, i64 c1, i64 c2, i64 c3] 90) = W := ⟨_, rfl⟩
 have hb : Below w1.heap.size w1 w2 := by rw [← hw2]; exact (Below.refl _ _).alloc (Nat.le_refl _) _
 have HC2 : Hid (Bk w2 w1.heap.size 90 #[i64 c0, i64 c1, i64 c2, i64 c3]) := by rw [← hw2]; exact Bk.new _ _ _
 have HB2 : Hid (Below w.heap.size w w2) := HB1.out.trans (hb.mono HB1.out.size)
 have HM2 : Hid (Bk w2 w.heap.size 27 #[.int .i64 m.n, .int .i64 m.s, .slice ai m.i.length ci, .slice ah m.h.length ch, .slice ae m.e.length ce, .int .i64 m.z]) := HM1.out.below hb
 have HR2 : Hid (Bk w2 (w.heap.size + 1) 48 #[.slice none 0 0, .slice none 0 0, .int .i64 0, .bool false]) := HR1.out.below hb
 clear hb HB1 HM1 HR1
 have p0 := HM2.out.cell (i := 0) rfl
 have p1 := HM2.out.cell (i := 1) rfl
 have p2 := HM2.out.cell (i := 2) rfl
 have p3 := HM2.out.cell (i := 3) rfl
 have p4 := HM2.out.cell (i := 4) rfl
 have p5 := HM2.out.cell (i := 5) rfl
 have hvk : vok [c0, c1, c2, c3] = true := hv
 go_wp2_with fail
 clear hw2
 clear p0 p1 p2 p3 p4 p5
 refine (iModM _ m _ HSM.out (HM.out.below HB2.out)).mono ?_
 rintro r w3 ⟨rfl, hb⟩
 have HC3 : Hid (Bk w3 w1.heap.size 90 #[i64 c0, i64 c1, i64 c2, i64 c3]) := HC2.out.below hb
 have HB3 : Hid (Below w.heap.size w w3) := HB2.out.trans (hb.mono HB2.out.size)
 have HM3 : Hid (Bk w3 w.heap.size 27 #[.int .i64 m.n, .int .i64 m.s, .slice ai m.i.length ci, .slice ah m.h.length ch, .slice ae m.e.length ce, .int .i64 m.z]) := HM2.out.below hb
 have HR3 : Hid (Bk w3 (w.heap.size + 1) 48 #[.slice none 0 0, .slice none 0 0, .int .i64 0, .bool false]) := HR2.out.below hb
 clear hb HB2 HM2 HR2 HC2
 rw [hok]
 have p5 := HM3.out.cell (i := 5) rfl
 go_wp2_with fail
 refine (within_any z 0 m.z _).mono ?_
 rintro r w' ⟨rfl, hw⟩
 have hw' := hw.symm
 clear hw
 subst hw'
 have hd0 : decide (0 ≤ z) = true := by simpa using hz0
 have hd1 : decide (z ≤ m.z) = true := by simpa using hz1
 have p0 := HM3.out.cell (i := 0) rfl
 have p1 := HM3.out.cell (i := 1) rfl
 have p2 := HM3.out.cell (i := 2) rfl
 have p3 := HM3.out.cell (i := 3) rfl
 have p4 := HM3.out.cell (i := 4) rfl
 have y0 := HC3.out.cell (i := 0) rfl
 have y1 := HC3.out.cell (i := 1) rfl
 have y2 := HC3.out.cell (i := 2) rfl
 have y3 := HC3.out.cell (i := 3) rfl
 go_wp2_with fail
 refine (courseOf_any _ m ai ah ae ci ch ce c0 c1 c2 c3 (HM.out.below HB3.out) HOK.out).mono ?_
 rintro r W5 ⟨W1, Cb, P, l, v, ve, vx, rfl, hb1, hb5, hp5⟩
 have HW1 : Hid (Below w.heap.size w W1) := HB3.out.trans (hb1.mono HB3.out.size)
 have HM1 : Hid (Bk W1 w.heap.size 27 #[.int .i64 m.n, .int .i64 m.s, .slice ai m.i.length ci, .slice ah m.h.length ch, .slice ae m.e.length ce, .int .i64 m.z]) := HM3.out.below hb1
 have HR1 : Hid (Bk W1 (w.heap.size + 1) 48 #[.slice none 0 0, .slice none 0 0, .int .i64 0, .bool false]) := HR3.out.below hb1
 have HB5 : Hid (Below W1.heap.size W1 W5) := hb5
 have HP5 : Hid (PCo W1.heap.size Cb P W5 [.int .i64 m.n, .int .i64 m.s, .slice ai m.i.length ci, .slice ah m.h.length ch, .slice ae m.e.length ce, .int .i64 m.z] c0 c1 c2 c3 l v ve vx (begH m)) := hp5
 have HMW : Hid (IsM W1 (.agg #[.int .i64 m.n, .int .i64 m.s, .slice ai m.i.length ci, .slice ah m.h.length ch, .slice ae m.e.length ce, .int .i64 m.z]) m) := HM.out.below HW1.out
 clear hb1 hb5 hp5 p0 p1 p2 p3 p4 p5 y0 y1 y2 y3 HM3 HR3 HC3 HB3 hd0 hd1
 have HRR : Hid (seqG (·.drop 1) (planO m.z) m [c0, c1, c2, c3] z 151 (begC m) = seqR m [c0, c1, c2, c3] z) := rfl
 obtain ⟨R, hR0⟩ : ∃ R, seqR m [c0, c1, c2, c3] z = R := ⟨_, rfl⟩
 rw [hR0] at HRR
 have HR9 : Hid (seqR m [c0, c1, c2, c3] z = R) := hR0
 clear hR0
 have hml := fun w => m_len P w
 have hs1 : w.heap.size + 1 < W1.heap.size := HR1.out.lt
 have hCW : W1.heap.size ≤ Cb := HP5.out.lo
 clear hok hv hz0 hz1 hvk
 go_wp2
 go_loopw [11] (fun _ wr => ∃ (c : Co) (h : List Ev) (l : List Pt) (v ve vx : Value) (f : Nat), PCo W1.heap.size Cb P wr [.int .i64 m.n, .int .i64 m.s, .slice ai m.i.length ci, .slice ah m.h.length ch, .slice ae m.e.length ce, .int .i64 m.z] c0 c1 c2 c3 l v ve vx ⟨h, c.st, c.ev, c.em⟩ ∧ Inv m c ∧ (Alike h c.td ∧ h.length ≤ 6 + 8 * c.ev.length) ∧ 151 ≤ f + c.ev.length ∧ seqG (·.drop 1) (planO m.z) m [c0, c1, c2, c3] z f c = R ∧ Below W1.heap.size W1 wr) (fun _ wr => 151 - evLen2 wr Cb)
 case atStart => exact ⟨begC m, (begH m).td, l, v, ve, vx, 151, HP5.out, beg_inv HOK.out, ⟨beg_alike HOK.out, by have h9 := planH_length m.z (bares m.e) []; have h8 := ok_len6 HOK.out; rw [bares_length] at h9; simp at h9; exact Nat.le_trans h9 (by omega)⟩, Nat.le_add_right 151 _, HRR.out, HB5.out⟩
 case round =>
  clear HP5 HB5 HRR
  obtain ⟨c, h, l', v', ve', vx', f, hP, hI, ⟨hA, hhl⟩, hf, hR, hb⟩ := hrel
  obtain ⟨ea, ec, rfl⟩ := owns_form hP.es
  obtain ⟨va, vc, rfl, hvm⟩ := hP.pl.slice
  have HP : Hid (PCo W1.heap.size Cb P wr [.int .i64 m.n, .int .i64 m.s, .slice ai m.i.length ci, .slice ah m.h.length ch, .slice ae m.e.length ce, .int .i64 m.z] c0 c1 c2 c3 l' (.slice va h.length vc) (.slice ea c.ev.length ec) vx' ⟨h, c.st, c.ev, c.em⟩) := hP
  have HI : Hid (Inv m c) := hI
  have HA : Hid (Alike h c.td) := hA
  have HSQ : Hid (151 ≤ f + c.ev.length ∧ seqG (·.drop 1) (planO m.z) m [c0, c1, c2, c3] z f c = R) := ⟨hf, hR⟩
  have HB : Hid (Below W1.heap.size W1 wr) := hb
  have hsr : W1.heap.size ≤ wr.heap.size := hb.size
  obtain ⟨q22, _⟩ := course_td (ms := [.int .i64 m.n, .int .i64 m.s, .slice ai m.i.length ci, .slice ah m.h.length ch, .slice ae m.e.length ce, .int .i64 m.z]) (c0 := c0) (c1 := c1) (c2 := c2) (c3 := c3) (l := l') (P := P) (ve := .slice ea c.ev.length ec) (vx := vx') rfl hP.l4 (-1) false
  have g22 := hP.cb.cell q22
  have HLN : Hid (Calls Tryz.prog 186 #[.pointer (some ⟨P, 0, none⟩)] wr fun e w' => e = .returned (.int .i64 (h.length : Int)) ∧ w' = wr) := len_any va P h.length vc wr hP.pl.box.cell
  have HQ22 : Hid _ := q22
  clear hP hI hA hf hR hb q22 hvm
  by_cases hl0 : 0 < h.length
  ·have hdl : decide ((0 : Int) < (h.length : Int)) = true := decide_eq_true (by omega)
   have hdl2 : decide (0 < h.length) = true := decide_eq_true hl0
   obtain ⟨n, hn⟩ : ∃ n, h.length = n + 1 := ⟨h.length - 1, by omega⟩
   obtain ⟨g, cap, hvg, _, hPg⟩ := HP.out.pl.form hn
   have ht0 : 0 < c.td.length := HA.out.none.1 hl0
   obtain ⟨he0, _⟩ := HA.out.first hl0
   have hdn := ev_d (HI.out.due ht0).ok
   obtain ⟨i, hi⟩ : ∃ i : Nat, (evAt h 0).d = (i : Int) := ⟨(evAt h 0).d.toNat, by rw [he0]; omega⟩
   have hit : (evAt c.td 0).d.toNat = i := by rw [← he0, hi]; try rfl
   have hi1 : i < c.st.length := by have := HI.out.place ht0; rw [hit] at this; exact this
   have hi4 : i < 4 := by have h1 := HI.out.n; have h2 := ok_seed HOK.out; omega
   have hev := HI.out.el
   have hxl := HI.out.xl
   have HPF : Hid (Calls Tryz.prog 54 #[pv P] wr fun r w' => r = .returned (.agg #[.int .i64 (evAt h 0).t, .int .i64 (evAt h 0).s, .int .i64 (evAt h 0).q, .int .i64 (i : Int), .int .i64 (evAt h 0).k, .int .i64 (evAt h 0).v, .int .i64 (evAt h 0).g]) ∧ Pl w' W1.heap.size P (.slice (some ⟨g, 0, none⟩) n cap) (takeL h 0) ∧ Turns (fun b => b = P ∨ b = g) wr w') := by
    have h9 := popFirst_any W1.heap.size P g cap h n wr hn (by rw [← hvg]; exact HP.out.pl) (by omega) (fun j hj => (HI.out.e _ ((HA.out.i _).1 ⟨j, hj, rfl⟩)).ok)
    rw [show (evAt h 0).val = .agg #[.int .i64 (evAt h 0).t, .int .i64 (evAt h 0).s, .int .i64 (evAt h 0).q, .int .i64 (i : Int), .int .i64 (evAt h 0).k, .int .i64 (evAt h 0).v, .int .i64 (evAt h 0).g] from by rw [← hi]; try rfl] at h9
    exact h9
   have HVG : Hid (Value.slice va h.length vc = .slice (some ⟨g, 0, none⟩) (n + 1) cap) := hvg
   have HDi : Hid ((evAt h 0).d = (i : Int)) := hi
   have HIT : Hid ((evAt c.td 0).d.toNat = i) := hit
   have HE0 : Hid (evAt h 0 = evAt c.td 0) := he0
   have HL0 : Hid (0 < c.td.length ∧ 0 < h.length ∧ h.length = n + 1) := ⟨ht0, hl0, hn⟩
   clear hvg hi hit he0 ht0 hl0 hn hdn
   go_wp2_with fail
   refine HLN.out.mono ?_
   rintro r w' ⟨rfl, hw⟩
   have hw' := hw.symm
   clear hw
   subst hw'
   go_wp2_with fail
   refine HPF.out.mono ?_
   rintro r W6 ⟨rfl, hp6, ht6⟩
   have hob : (Value.slice va h.length vc).ownBlock = some g := by rw [HVG.out]; try rfl
   have HP6 := HP.out.todo (ht6.mono (fun k e => e.imp id (fun e => by rw [e]; exact hob))) hp6 (.inl hob.symm)
   have hgB : W1.heap.size ≤ g := (World.ownsRow.lt HP.out.pl.row g hob).1
   have hPB : W1.heap.size ≤ P := HP.out.pl.low
   have HB6 : Below W1.heap.size W1 W6 := HB.out.trans (ht6.to_below (fun k e => by rcases e with e | e <;> omega) hsr)
   obtain ⟨W7, hW7⟩ : ∃ W7, W6.alloc (.cells #[.int .i64 (evAt h 0).t, .int .i64 (evAt h 0).s, .int .i64 (evAt h 0).q, .int .i64 (i : Int), .int .i64 (evAt h 0).k, .int .i64 (evAt h 0).v, .int .i64 (evAt h 0).g] 53) = W7 := ⟨_, rfl⟩
   have hb7 : Below W6.heap.size W6 W7 := by rw [← hW7]; exact (Below.refl _ W6).alloc (Nat.le_refl _) _
   have HP7 : Hid (PCo W1.heap.size Cb P W7 [.int .i64 m.n, .int .i64 m.s, .slice ai m.i.length ci, .slice ah m.h.length ch, .slice ae m.e.length ce, .int .i64 m.z] c0 c1 c2 c3 l' (.slice (some ⟨g, 0, none⟩) n cap) (.slice ea c.ev.length ec) vx' ⟨takeL h 0, c.st, c.ev, c.em⟩) := HP6.below hb7
   have HB7 : Hid (Below W1.heap.size W1 W7) := HB6.trans (hb7.mono HB6.size)
   have HE7 : Hid (Bk W7 W6.heap.size 53 #[.int .i64 (evAt h 0).t, .int .i64 (evAt h 0).s, .int .i64 (evAt h 0).q, .int .i64 (i : Int), .int .i64 (evAt h 0).k, .int .i64 (evAt h 0).v, .int .i64 (evAt h 0).g]) := by rw [← hW7]; exact Bk.new _ _ _
   have hs7 : W1.heap.size ≤ W7.heap.size := HB7.out.size
   have e0 := HE7.out.cell (i := 0) rfl
   clear HP6 HB6 hb7 hp6 ht6 hob HPF HLN g22
   by_cases hz : (evAt h 0).t ≤ z
   ·have hdz : decide (z < (evAt h 0).t) = false := decide_eq_false (by omega)
    have HZ : Hid ((evAt h 0).t ≤ z) := hz
    have e1 := HE7.out.cell (i := 1) rfl
    have e2 := HE7.out.cell (i := 2) rfl
    have e3 := HE7.out.cell (i := 3) rfl
    have e4 := HE7.out.cell (i := 4) rfl
    have e5 := HE7.out.cell (i := 5) rfl
    have e6 := HE7.out.cell (i := 6) rfl
    obtain ⟨EF, hEF⟩ : ∃ EF, effC m [c0, c1, c2, c3] c = EF := ⟨_, rfl⟩
    have HEF : Hid (effC m [c0, c1, c2, c3] c = EF) := hEF
    have HGS : Hid (c.ev.length ≠ 150 → (0 ≤ EF.k ∨ Goes m [c0, c1, c2, c3] c)) := fun h9 => by
     rw [← HEF.out]
     exact (HI.out.goes HL0.out.1 HOK.out HVC.out (by omega)).imp (fun h => h.1) id
    have HGO : Hid (Calls Tryz.prog 55 #[.pointer (some ⟨Cb, 0, none⟩), .agg #[.int .i64 (evAt h 0).t, .int .i64 (evAt h 0).s, .int .i64 (evAt h 0).q, .int .i64 (i : Int), .int .i64 (evAt h 0).k, .int .i64 (evAt h 0).v, .int .i64 (evAt h 0).g]] W7 fun r w' => GoesEnd W1.heap.size Cb P W7 w' [.int .i64 m.n, .int .i64 m.s, .slice ai m.i.length ci, .slice ah m.h.length ch, .slice ae m.e.length ce, .int .i64 m.z] c0 c1 c2 c3 m.z ⟨takeL h 0, c.st, c.ev, c.em⟩ i (evAt h 0) EF r) := by
     refine goesOn_any W1.heap.size Cb P i W1 W7 m ai ah ae ci ch ce c0 c1 c2 c3 l' _ _ vx' ⟨takeL h 0, c.st, c.ev, c.em⟩ (evAt h 0) EF HMW.out rfl HB7.out HP7.out HDi.out hi1 hi4 ?_ ?_ (fun h9 => ?_) hev (by show c.em.length ≤ 1200; omega) ?_ ?_ (fun h9 h8 => ?_)
     ·have h9 := HI.out.fit HL0.out.1 HOK.out HVC.out
      rw [HIT.out, ← HE0.out] at h9
      exact h9
     ·rw [← HEF.out]
      unfold effC
      rw [HIT.out, ← HE0.out]
     ·rcases HGS.out h9 with h8 | h8
      ·exact .inr h8
      ·rw [← HEF.out]; exact .inl h8.k
     ·exact fun j hj => by
       obtain ⟨q, hq, hqe⟩ := ((HA.out.first HL0.out.2.1).2.i _).1 ⟨j, hj, rfl⟩
       rw [← hqe]
       exact (HI.out.e _ (inL_drop ⟨q, hq, rfl⟩)).ok
     ·show (takeL h 0).length ≤ 2000
      rw [takeL_length]; omega
     ·have h7 := (HGS.out h9).resolve_left h8
      have h6 := goes_ok HI.out HL0.out.1 HOK.out (by have : c.ev.length ≠ 150 := h9; omega) h7
      rw [HEF.out] at h6
      exact ⟨by rw [← HEF.out]; exact h7.sl, by rw [← HEF.out]; exact h7.xl, fun j hj => bare_ok (h6 j hj)⟩
    clear hz hEF
    go_wp2_with fail
    try simp only [hW7]
    refine HGO.out.mono ?_
    rintro r W8 hg8
    unfold GoesEnd GoesOn at hg8
    obtain ⟨bb, rfl, hb8, hg8⟩ := hg8
    have HB8 : Hid (Below W1.heap.size W1 W8) := HB7.out.trans hb8
    clear e0 e1 e2 e3 e4 e5 e6 hW7 HGO
    rcases hg8 with ⟨h150, rfl, hE⟩ | ⟨h150, hk, rfl, hE⟩ | ⟨h150, hk, rfl, l8, v8, ve8, vx8, hP8⟩
    ·have HE : Hid (HiEnd W1.heap.size Cb W8 R) := by
      have h9 := seq_full HSQ.out.1 ⟨HL0.out.1, by rw [← HE0.out]; exact HZ.out⟩ h150 HSQ.out.2
      rw [h9]
      exact hE
     clear hE HB h150 hb8
     have HB := HB8
     obtain ⟨fe, fx, hh, g23, g24, g25, g26⟩ := HE.out
     obtain ⟨A9, C9, ve9, vx9, hq, ⟨_, qa, qc, rfl, _⟩, ⟨_, ra, rc, rfl, _⟩, _⟩ := id hh
     cases hq
     have HHH : Hid (HiF (fun j => W1.heap.size ≤ j ∧ j < W8.heap.size) W8 (.agg #[.slice qa R.ev.length qc, .slice ra R.em.length rc, .int .i64 R.k, .bool R.f]) R) := hh
     have HRe : Hid (Bk W8 (w.heap.size + 1) 48 #[.slice none 0 0, .slice none 0 0, .int .i64 0, .bool false]) := HR1.out.below HB.out
     have k0 := HRe.out.cell (i := 0) rfl
     have k1 := HRe.out.cell (i := 1) rfl
     have k2 := HRe.out.cell (i := 2) rfl
     have k3 := HRe.out.cell (i := 3) rfl
     have r0 := HRe.out.free 0
     have r1 := HRe.out.free 1
     have r2 := HRe.out.free 2
     have r3 := HRe.out.free 3
     clear hh
     go_wp2
     have hW := HRe.out.put4h (.slice qa R.ev.length qc) (.slice ra R.em.length rc) (.int .i64 R.k) (.bool R.f)
     have hT := put4h_turns W8 (w.heap.size + 1) (.slice qa R.ev.length qc) (.slice ra R.em.length rc) (.int .i64 R.k) (.bool R.f)
     have t0 := hW.cell (i := 0) rfl
     have t1 := hW.cell (i := 1) rfl
     have t2 := hW.cell (i := 2) rfl
     have t3 := hW.cell (i := 3) rfl
     refine bodyPost_ret (v := .tuple #[.agg #[.slice qa R.ev.length qc, .slice ra R.em.length rc, .int .i64 R.k, .bool R.f], .bool true]) (by simp [results, Tryz.results18, go_sem, t0, t1, t2, t3]) rfl ⟨_, rfl, (HW1.out.trans (HB.out.mono (by omega))).trans (hT.to_below (fun k e => by omega) (Nat.le_trans (by omega : w.heap.size ≤ W1.heap.size) HB.out.size)), ?_⟩
     rw [HR9.out]
     exact (HHH.out.turns hT (fun k hk e => by omega)).mono (fun k hk => ⟨by omega, Nat.lt_of_lt_of_le hk.2 hT.size⟩)
    ·have HE : Hid (HiEnd W1.heap.size Cb W8 R) := by
      have h9 := seq_asks HSQ.out.1 ⟨HL0.out.1, by rw [← HE0.out]; exact HZ.out⟩ (by have : c.ev.length ≠ 150 := h150; omega) (by rw [HEF.out]; exact hk) HSQ.out.2
      rw [h9, HEF.out]
      exact hE
     clear hE HB h150 hb8 hk
     have HB := HB8
     obtain ⟨fe, fx, hh, g23, g24, g25, g26⟩ := HE.out
     obtain ⟨A9, C9, ve9, vx9, hq, ⟨_, qa, qc, rfl, _⟩, ⟨_, ra, rc, rfl, _⟩, _⟩ := id hh
     cases hq
     have HHH : Hid (HiF (fun j => W1.heap.size ≤ j ∧ j < W8.heap.size) W8 (.agg #[.slice qa R.ev.length qc, .slice ra R.em.length rc, .int .i64 R.k, .bool R.f]) R) := hh
     have HRe : Hid (Bk W8 (w.heap.size + 1) 48 #[.slice none 0 0, .slice none 0 0, .int .i64 0, .bool false]) := HR1.out.below HB.out
     have k0 := HRe.out.cell (i := 0) rfl
     have k1 := HRe.out.cell (i := 1) rfl
     have k2 := HRe.out.cell (i := 2) rfl
     have k3 := HRe.out.cell (i := 3) rfl
     have r0 := HRe.out.free 0
     have r1 := HRe.out.free 1
     have r2 := HRe.out.free 2
     have r3 := HRe.out.free 3
     clear hh
     go_wp2
     have hW := HRe.out.put4h (.slice qa R.ev.length qc) (.slice ra R.em.length rc) (.int .i64 R.k) (.bool R.f)
     have hT := put4h_turns W8 (w.heap.size + 1) (.slice qa R.ev.length qc) (.slice ra R.em.length rc) (.int .i64 R.k) (.bool R.f)
     have t0 := hW.cell (i := 0) rfl
     have t1 := hW.cell (i := 1) rfl
     have t2 := hW.cell (i := 2) rfl
     have t3 := hW.cell (i := 3) rfl
     refine bodyPost_ret (v := .tuple #[.agg #[.slice qa R.ev.length qc, .slice ra R.em.length rc, .int .i64 R.k, .bool R.f], .bool true]) (by simp [results, Tryz.results18, go_sem, t0, t1, t2, t3]) rfl ⟨_, rfl, (HW1.out.trans (HB.out.mono (by omega))).trans (hT.to_below (fun k e => by omega) (Nat.le_trans (by omega : w.heap.size ≤ W1.heap.size) HB.out.size)), ?_⟩
     rw [HR9.out]
     exact (HHH.out.turns hT (fun k hk e => by omega)).mono (fun k hk => ⟨by omega, Nat.lt_of_lt_of_le hk.2 hT.size⟩)
    ·have h7 := (HGS.out h150).resolve_left hk
     have hlt : c.ev.length < 150 := by have : c.ev.length ≠ 150 := h150; omega
     obtain ⟨f', hf', hR'⟩ := seq_go HSQ.out.1 ⟨HL0.out.1, by rw [← HE0.out]; exact HZ.out⟩ hlt (by rw [HEF.out]; exact hk) HSQ.out.2
     obtain ⟨q1, _, h', hn', ha'⟩ := alike_next HI.out HL0.out.1 HA.out h7
     have hbs : bares EF.s = EF.s := bares_same (fun j hj => by have h9 := (h7.s j (by rw [HEF.out]; exact hj)).g; rw [HEF.out] at h9; exact h9)
     have hN : nextC (takeL · 0) (planH m.z) m [c0, c1, c2, c3] ⟨h, c.st, c.ev, c.em⟩ = ⟨planH m.z (takeL h 0) (bares EF.s), c.st.set i EF.st, c.ev ++ [evAt h 0], c.em ++ EF.x⟩ := by
      unfold nextC
      rw [q1, HEF.out, hbs]
      show (⟨_, c.st.set (evAt h 0).d.toNat EF.st, _, _⟩ : Co) = _
      rw [HDi.out]
      rfl
     rw [hn'] at hN
     have hh' : h' = planH m.z (takeL h 0) (bares EF.s) := congrArg Co.td hN
     have hcl : evLen2 W8 Cb = c.ev.length + 1 := by
      obtain ⟨fa, fc, rfl⟩ := owns_form hP8.es
      have h9 := course_td (ms := [.int .i64 m.n, .int .i64 m.s, .slice ai m.i.length ci, .slice ah m.h.length ch, .slice ae m.e.length ce, .int .i64 m.z]) (c0 := c0) (c1 := c1) (c2 := c2) (c3 := c3) (l := l8) (P := P) (ve := .slice fa (c.ev ++ [evAt h 0]).length fc) (vx := vx8) rfl hP8.l4 (-1) false
      rw [evLen2_of (hP8.cb.cell h9.2.1)]
      simp
     have hcw : evLen2 wr Cb = c.ev.length := by
      have h9 := course_td (ms := [.int .i64 m.n, .int .i64 m.s, .slice ai m.i.length ci, .slice ah m.h.length ch, .slice ae m.e.length ce, .int .i64 m.z]) (c0 := c0) (c1 := c1) (c2 := c2) (c3 := c3) (l := l') (P := P) (ve := .slice ea c.ev.length ec) (vx := vx') rfl HP.out.l4 (-1) false
      exact evLen2_of (HP.out.cb.cell h9.2.1)
     have hms : 151 - evLen2 W8 Cb < 151 - evLen2 wr Cb := by rw [hcl, hcw]; omega
     rw [← hN] at hP8
     have hl8 : h'.length ≤ 6 + 8 * (nextC (·.drop 1) (planO m.z) m [c0, c1, c2, c3] c).ev.length := by
      have h9 := planH_length m.z (bares EF.s) (takeL h 0)
      rw [bares_length, takeL_length] at h9
      have h5 := h7.sl
      rw [HEF.out] at h5
      have h4 : (nextC (·.drop 1) (planO m.z) m [c0, c1, c2, c3] c).ev.length = c.ev.length + 1 := by simp [nextC]
      rw [hh', h4]
      omega
     have HREL : Hid (∃ (c : Co) (h : List Ev) (l : List Pt) (v ve vx : Value) (f : Nat), PCo W1.heap.size Cb P W8 [.int .i64 m.n, .int .i64 m.s, .slice ai m.i.length ci, .slice ah m.h.length ch, .slice ae m.e.length ce, .int .i64 m.z] c0 c1 c2 c3 l v ve vx ⟨h, c.st, c.ev, c.em⟩ ∧ Inv m c ∧ (Alike h c.td ∧ h.length ≤ 6 + 8 * c.ev.length) ∧ 151 ≤ f + c.ev.length ∧ seqG (·.drop 1) (planO m.z) m [c0, c1, c2, c3] z f c = R ∧ Below W1.heap.size W1 W8) :=
      ⟨nextC (·.drop 1) (planO m.z) m [c0, c1, c2, c3] c, h', l8, v8, ve8, vx8, f', hP8, HI.out.next HL0.out.1 HOK.out hlt h7, ⟨ha', hl8⟩, hf', hR', HB8.out⟩
     have HMS : Hid (151 - evLen2 W8 Cb < 151 - evLen2 wr Cb) := hms
     clear hP8 hl8 hms hcw hcl hh' hN hbs hn' ha' q1 hf' hR' h7 hk h150 hlt hb8
     go_wp2
     go_roundw
     case rel => exact HREL.out
     case measure => exact HMS.out
   ·have hdz : decide (z < (evAt h 0).t) = true := decide_eq_true (by omega)
    have HE : Hid (HiEnd W1.heap.size Cb W7 R) := by
     have h9 := seq_end (c := c) (z := z) (fun h8 => hz (by rw [HE0.out]; exact h8.2)) HSQ.out.2
     rw [h9]
     exact HP7.out.ends
    clear hz HB
    have HB := HB7
    obtain ⟨fe, fx, hh, g23, g24, g25, g26⟩ := HE.out
    obtain ⟨A9, C9, ve9, vx9, hq, ⟨_, qa, qc, rfl, _⟩, ⟨_, ra, rc, rfl, _⟩, _⟩ := id hh
    cases hq
    have HHH : Hid (HiF (fun j => W1.heap.size ≤ j ∧ j < W7.heap.size) W7 (.agg #[.slice qa R.ev.length qc, .slice ra R.em.length rc, .int .i64 R.k, .bool R.f]) R) := hh
    have HRe : Hid (Bk W7 (w.heap.size + 1) 48 #[.slice none 0 0, .slice none 0 0, .int .i64 0, .bool false]) := HR1.out.below HB.out
    have k0 := HRe.out.cell (i := 0) rfl
    have k1 := HRe.out.cell (i := 1) rfl
    have k2 := HRe.out.cell (i := 2) rfl
    have k3 := HRe.out.cell (i := 3) rfl
    have r0 := HRe.out.free 0
    have r1 := HRe.out.free 1
    have r2 := HRe.out.free 2
    have r3 := HRe.out.free 3
    clear hh
    go_wp2
    have hW := HRe.out.put4h (.slice qa R.ev.length qc) (.slice ra R.em.length rc) (.int .i64 R.k) (.bool R.f)
    have hT := put4h_turns W7 (w.heap.size + 1) (.slice qa R.ev.length qc) (.slice ra R.em.length rc) (.int .i64 R.k) (.bool R.f)
    have t0 := hW.cell (i := 0) rfl
    have t1 := hW.cell (i := 1) rfl
    have t2 := hW.cell (i := 2) rfl
    have t3 := hW.cell (i := 3) rfl
    refine bodyPost_ret (v := .tuple #[.agg #[.slice qa R.ev.length qc, .slice ra R.em.length rc, .int .i64 R.k, .bool R.f], .bool true]) (by simp [results, Tryz.results18, go_sem, t0, t1, t2, t3]) rfl ⟨_, rfl, (HW1.out.trans (HB.out.mono (by omega))).trans (hT.to_below (fun k e => by omega) (Nat.le_trans (by omega : w.heap.size ≤ W1.heap.size) HB.out.size)), ?_⟩
    rw [HR9.out]
    exact (HHH.out.turns hT (fun k hk e => by omega)).mono (fun k hk => ⟨by omega, Nat.lt_of_lt_of_le hk.2 hT.size⟩)
  ·have hdl : decide ((0 : Int) < (h.length : Int)) = false := decide_eq_false (by omega)
   have hdl2 : decide (0 < h.length) = false := decide_eq_false hl0
   have HE : Hid (HiEnd W1.heap.size Cb wr R) := by
    have h9 := seq_end (c := c) (z := z) (fun h8 => hl0 (HA.out.none.2 h8.1)) HSQ.out.2
    rw [h9]
    exact HP.out.ends
   clear hl0
   go_wp2_with fail
   refine HLN.out.mono ?_
   rintro r w' ⟨rfl, hw⟩
   have hw' := hw.symm
   clear hw
   subst hw'
   obtain ⟨fe, fx, hh, g23, g24, g25, g26⟩ := HE.out
   obtain ⟨A9, C9, ve9, vx9, hq, ⟨_, qa, qc, rfl, _⟩, ⟨_, ra, rc, rfl, _⟩, _⟩ := id hh
   cases hq
   have HHH : Hid (HiF (fun j => W1.heap.size ≤ j ∧ j < wr.heap.size) wr (.agg #[.slice qa R.ev.length qc, .slice ra R.em.length rc, .int .i64 R.k, .bool R.f]) R) := hh
   have HRe : Hid (Bk wr (w.heap.size + 1) 48 #[.slice none 0 0, .slice none 0 0, .int .i64 0, .bool false]) := HR1.out.below HB.out
   have k0 := HRe.out.cell (i := 0) rfl
   have k1 := HRe.out.cell (i := 1) rfl
   have k2 := HRe.out.cell (i := 2) rfl
   have k3 := HRe.out.cell (i := 3) rfl
   have r0 := HRe.out.free 0
   have r1 := HRe.out.free 1
   have r2 := HRe.out.free 2
   have r3 := HRe.out.free 3
   clear hh
   go_wp2
   have hW := HRe.out.put4h (.slice qa R.ev.length qc) (.slice ra R.em.length rc) (.int .i64 R.k) (.bool R.f)
   have hT := put4h_turns wr (w.heap.size + 1) (.slice qa R.ev.length qc) (.slice ra R.em.length rc) (.int .i64 R.k) (.bool R.f)
   have t0 := hW.cell (i := 0) rfl
   have t1 := hW.cell (i := 1) rfl
   have t2 := hW.cell (i := 2) rfl
   have t3 := hW.cell (i := 3) rfl
   refine bodyPost_ret (v := .tuple #[.agg #[.slice qa R.ev.length qc, .slice ra R.em.length rc, .int .i64 R.k, .bool R.f], .bool true]) (by simp [results, Tryz.results18, go_sem, t0, t1, t2, t3]) rfl ⟨_, rfl, (HW1.out.trans (HB.out.mono (by omega))).trans (hT.to_below (fun k e => by omega) (Nat.le_trans (by omega : w.heap.size ≤ W1.heap.size) HB.out.size)), ?_⟩
   rw [HR9.out]
   exact (HHH.out.turns hT (fun k hk e => by omega)).mono (fun k hk => ⟨by omega, Nat.lt_of_lt_of_le hk.2 hT.size⟩)
end Go.Proofs.YtbljfphdghfkfaaGreatDoor

/- The program's Sequence, as a whole. -/
namespace Go.Proofs.YtbljfphdghfkfaaGreatDoor
open Go.RowKit
def seqB (m : Md) (l : List Int) (z : Int) : Bool := m.ok && (vok l && (decide (0 ≤ z) && decide (z ≤ m.z)))
def zeroH : Hi := ⟨[], [], 0, false⟩
def seqA (m : Md) (l : List Int) (z : Int) : Hi := if seqB m l z = true then seqR m l z else zeroH
theorem zero_hi (B : Nat) (w : World) : HiF (fun k => B ≤ k ∧ k < w.heap.size) w (.agg #[.slice none 0 0, .slice none 0 0, .int .i64 0, .bool false]) zeroH := hi_of (ev := []) (em := []) (OwnR.nil _ _) (World.ownsRow_nil _ _ _ 3)
theorem vec_some (l : List Int) : ∃ a b c d, vecOf l = vec a b c d := by
 cases hv : vok l with
 | false => exact ⟨0, 0, 0, 0, vec_no hv⟩
 | true =>
  obtain ⟨c0, c1, c2, c3, rfl, _⟩ := vec_of hv
  exact ⟨c0, c1, c2, c3, by simp [vecOf, hv, intAt]⟩
set_option maxRecDepth 100000 in
set_option maxHeartbeats 16000000 in
theorem iSeq (x d : Value) (m : Md) (l : List Int) (z : Int) (w : World) (hsm : SmallM m) (hl : l.length ≤ 1048576) (hm : IsM w x m) (hd : IsI w d l) : Calls Tryz.prog 18 #[x, d, .int .i64 z] w fun r w' => ∃ u, r = .returned (.tuple #[u, .bool (seqB m l z)]) ∧ Below w.heap.size w w' ∧ HiF (fun k => w.heap.size ≤ k ∧ k < w'.heap.size) w' u (seqA m l z) := by
 by_cases hno : seqB m l z = true
 ·have hq := hno
  simp only [seqB, Bool.and_eq_true, decide_eq_true_eq] at hq
  obtain ⟨c0, c1, c2, c3, rfl, hvc⟩ := vec_of hq.2.1
  refine (iSeqG x d m c0 c1 c2 c3 z w hsm hm hd hq.1 hq.2.1 hvc hq.2.2.1 hq.2.2.2).mono ?_
  rintro r w' ⟨u, rfl, h1, h2⟩
  exact ⟨u, by rw [hno], h1, by rw [show seqA m [c0, c1, c2, c3] z = seqR m [c0, c1, c2, c3] z from by simp [seqA, hno]]; exact h2⟩
 have HM : Hid (IsM w x m) := hm
 have HD : Hid (IsI w d l) := hd
 have HSM : Hid (SmallM m) := hsm
 have HL : Hid (l.length ≤ 1048576) := hl
 have HNO : Hid (seqB m l z = false) := (by simpa using hno : seqB m l z = false)
 obtain ⟨vi, vh, vs, rfl, ⟨ai, ci, rfl, _⟩, ⟨ah, ch, rfl, _⟩, ⟨ae, ce, rfl, _⟩⟩ := hm
 clear hsm hd hl hno
 obtain ⟨W0, hW0⟩ : ∃ W0, (w.alloc (.cells #[.int .i64 m.n, .int .i64 m.s, .slice ai m.i.length ci, .slice ah m.h.length ch, .slice ae m.e.length ce, .int .i64 m.z] 27)).alloc (.cells #[.slice none 0 0, .slice none 0 0, .int .i64 0, .bool false] 48) = W0 := ⟨_, rfl⟩
 have HM0 : Hid (Bk W0 w.heap.size 27 #[.int .i64 m.n, .int .i64 m.s, .slice ai m.i.length ci, .slice ah m.h.length ch, .slice ae m.e.length ce, .int .i64 m.z]) := by rw [← hW0]; exact (Bk.new w _ _).alloc _
 have HR0 : Hid (Bk W0 (w.heap.size + 1) 48 #[.slice none 0 0, .slice none 0 0, .int .i64 0, .bool false]) := by rw [← hW0]; exact Bk.newAt (by simp) _ _
 have HB0 : Hid (Below w.heap.size w W0) := by rw [← hW0]; exact ((Below.refl _ w).alloc (Nat.le_refl _) _).alloc (by simp) _
 go_enter Tryz.func18, Tryz.ntmps18
 go_wp2_with fail
 clear hW0
 refine (of_any _ l _ (by have := HL.out; omega) (HD.out.below HB0.out)).mono ?_
 rintro r w1 ⟨rfl, hb⟩
 have HB1 : Hid (Below w.heap.size w w1) := HB0.out.trans (hb.mono HB0.out.size)
 have HM1 : Hid (Bk w1 w.heap.size 27 #[.int .i64 m.n, .int .i64 m.s, .slice ai m.i.length ci, .slice ah m.h.length ch, .slice ae m.e.length ce, .int .i64 m.z]) := HM0.out.below hb
 have HR1 : Hid (Bk w1 (w.heap.size + 1) 48 #[.slice none 0 0, .slice none 0 0, .int .i64 0, .bool false]) := HR0.out.below hb
 clear hb HB0 HM0 HR0
 obtain ⟨a0, a1, a2, a3, hvec⟩ := vec_some l
 rw [hvec]
 clear hvec
 obtain ⟨w2, hw2⟩ : ∃ W, w1.alloc (.cells #[i64 a0, i64 a1, i64 a2, i64 a3] 90) = W := ⟨_, rfl⟩
 have hb : Below w1.heap.size w1 w2 := by rw [← hw2]; exact (Below.refl _ _).alloc (Nat.le_refl _) _
 have HB2 : Hid (Below w.heap.size w w2) := HB1.out.trans (hb.mono HB1.out.size)
 have HM2 : Hid (Bk w2 w.heap.size 27 #[.int .i64 m.n, .int .i64 m.s, .slice ai m.i.length ci, .slice ah m.h.length ch, .slice ae m.e.length ce, .int .i64 m.z]) := HM1.out.below hb
 have HR2 : Hid (Bk w2 (w.heap.size + 1) 48 #[.slice none 0 0, .slice none 0 0, .int .i64 0, .bool false]) := HR1.out.below hb
 have HC2 : Hid (Bk w2 w1.heap.size 90 #[i64 a0, i64 a1, i64 a2, i64 a3]) := by rw [← hw2]; exact Bk.new _ _ _
 have HW2 : Hid (w1.alloc (.cells #[i64 a0, i64 a1, i64 a2, i64 a3] 90) = w2) := hw2
 clear hb HB1 HR1 hw2
 have HX1 : Hid (Bk (w1.alloc (.cells #[i64 a0, i64 a1, i64 a2, i64 a3] 90)) w.heap.size 27 #[.int .i64 m.n, .int .i64 m.s, .slice ai m.i.length ci, .slice ah m.h.length ch, .slice ae m.e.length ce, .int .i64 m.z]) := HM1.out.alloc _
 have p0 := HX1.out.cell (i := 0) rfl
 have p1 := HX1.out.cell (i := 1) rfl
 have p2 := HX1.out.cell (i := 2) rfl
 have p3 := HX1.out.cell (i := 3) rfl
 have p4 := HX1.out.cell (i := 4) rfl
 have p5 := HX1.out.cell (i := 5) rfl
 go_wp2_with fail
 clear p0 p1 p2 p3 p4 p5
 try rw [HW2.out]
 clear HW2 HX1 HM1
 refine (iModM _ m _ HSM.out (HM.out.below HB2.out)).mono ?_
 rintro r w3 ⟨rfl, hb⟩
 have HB3 : Hid (Below w.heap.size w w3) := HB2.out.trans (hb.mono HB2.out.size)
 have HM3 : Hid (Bk w3 w.heap.size 27 #[.int .i64 m.n, .int .i64 m.s, .slice ai m.i.length ci, .slice ah m.h.length ch, .slice ae m.e.length ce, .int .i64 m.z]) := HM2.out.below hb
 have HR3 : Hid (Bk w3 (w.heap.size + 1) 48 #[.slice none 0 0, .slice none 0 0, .int .i64 0, .bool false]) := HR2.out.below hb
 clear hb HB2 HM2 HR2 HC2
 cases hmo : m.ok with
 | false =>
  have k0 := HR3.out.cell (i := 0) rfl
  have k1 := HR3.out.cell (i := 1) rfl
  have k2 := HR3.out.cell (i := 2) rfl
  have k3 := HR3.out.cell (i := 3) rfl
  have rf := HR3.out.free
  go_wp2
  have hW := HR3.out.put4h (.slice none 0 0) (.slice none 0 0) (.int .i64 0) (.bool false)
  have hT := put4h_turns w3 (w.heap.size + 1) (.slice none 0 0) (.slice none 0 0) (.int .i64 0) (.bool false)
  have t0 := hW.cell (i := 0) rfl
  have t1 := hW.cell (i := 1) rfl
  have t2 := hW.cell (i := 2) rfl
  have t3 := hW.cell (i := 3) rfl
  have hno : seqB m l z = false := HNO.out
  refine bodyPost_ret (v := .tuple #[.agg #[.slice none 0 0, .slice none 0 0, .int .i64 0, .bool false], .bool false]) (by simp [results, Tryz.results18, go_sem, t0, t1, t2, t3]) rfl ⟨_, by rw [hno], HB3.out.trans (hT.to_below (fun k e => by omega) HB3.out.size), ?_⟩
  rw [show seqA m l z = zeroH from by simp [seqA, hno]]
  exact zero_hi _ _
 | true =>
  cases hvo : vok l with
  | false =>
   have k0 := HR3.out.cell (i := 0) rfl
   have k1 := HR3.out.cell (i := 1) rfl
   have k2 := HR3.out.cell (i := 2) rfl
   have k3 := HR3.out.cell (i := 3) rfl
   have rf := HR3.out.free
   go_wp2
   have hW := HR3.out.put4h (.slice none 0 0) (.slice none 0 0) (.int .i64 0) (.bool false)
   have hT := put4h_turns w3 (w.heap.size + 1) (.slice none 0 0) (.slice none 0 0) (.int .i64 0) (.bool false)
   have t0 := hW.cell (i := 0) rfl
   have t1 := hW.cell (i := 1) rfl
   have t2 := hW.cell (i := 2) rfl
   have t3 := hW.cell (i := 3) rfl
   have hno : seqB m l z = false := HNO.out
   refine bodyPost_ret (v := .tuple #[.agg #[.slice none 0 0, .slice none 0 0, .int .i64 0, .bool false], .bool false]) (by simp [results, Tryz.results18, go_sem, t0, t1, t2, t3]) rfl ⟨_, by rw [hno], HB3.out.trans (hT.to_below (fun k e => by omega) HB3.out.size), ?_⟩
   rw [show seqA m l z = zeroH from by simp [seqA, hno]]
   exact zero_hi _ _
  | true =>
   have p5 := HM3.out.cell (i := 5) rfl
   go_wp2_with fail
   refine (within_any z 0 m.z _).mono ?_
   rintro r w' ⟨rfl, hw⟩
   have hw' := hw.symm
   clear hw
   subst hw'
   have hbz : (decide (0 ≤ z) && decide (z ≤ m.z)) = false := by
    have h9 := HNO.out
    simpa only [seqB, hmo, hvo, Bool.true_and] using h9
   rw [hbz]
   have k0 := HR3.out.cell (i := 0) rfl
   have k1 := HR3.out.cell (i := 1) rfl
   have k2 := HR3.out.cell (i := 2) rfl
   have k3 := HR3.out.cell (i := 3) rfl
   have rf := HR3.out.free
   go_wp2
   have hW := HR3.out.put4h (.slice none 0 0) (.slice none 0 0) (.int .i64 0) (.bool false)
   have hT := put4h_turns w3 (w.heap.size + 1) (.slice none 0 0) (.slice none 0 0) (.int .i64 0) (.bool false)
   have t0 := hW.cell (i := 0) rfl
   have t1 := hW.cell (i := 1) rfl
   have t2 := hW.cell (i := 2) rfl
   have t3 := hW.cell (i := 3) rfl
   have hno : seqB m l z = false := HNO.out
   refine bodyPost_ret (v := .tuple #[.agg #[.slice none 0 0, .slice none 0 0, .int .i64 0, .bool false], .bool false]) (by simp [results, Tryz.results18, go_sem, t0, t1, t2, t3]) rfl ⟨_, by rw [hno], HB3.out.trans (hT.to_below (fun k e => by omega) HB3.out.size), ?_⟩
   rw [show seqA m l z = zeroH from by simp [seqA, hno]]
   exact zero_hi _ _
end Go.Proofs.YtbljfphdghfkfaaGreatDoor

