/- A part's turn: its ops, one behind the other. -/
import Derived.Test.YtbljfphdghfkfaaGreatDoorModelsCardLEDraw
import Derived.WalkMore
import Derived.Laws.EntriesVeiled
namespace Go.Proofs.YtbljfphdghfkfaaGreatDoor
open Go.RowKit
theorem vec_at (c0 c1 c2 c3 : Int) {a : Int} (h0 : 0 ≤ a) (h1 : a ≤ 3) : intAt [c0, c1, c2, c3] a.toNat = vecAt c0 c1 c2 c3 a := by
 have h : a = 0 ∨ a = 1 ∨ a = 2 ∨ a = 3 := by omega
 rcases h with rfl | rfl | rfl | rfl <;> rfl
abbrev doFs : Array Value := #[.func (.func 106) #[] #[], .func (.func 107) #[] #[], .func (.func 108) #[] #[], .func (.func 109) #[] #[], .func (.func 110) #[] #[], .func (.func 111) #[] #[], .func (.func 112) #[] #[]]
structure DoInv (B P D : Nat) (w wr : World) (pre : List Value) (sd : Int) (v : List Int) (e : Ev) (l : List O) (R : Res) (i : Nat) : Prop where
 ex : ∃ f t1 j g cap us ux, Eff B wr P 175 pre t1 (-1) g cap us ux ∧ GoodT t1 j ∧ j ≤ i ∧ j ≤ 8 ∧ l.length ≤ i + f ∧ run sd v e l f i t1 = R
 b : Below B w wr
 d : Bk wr D 188 doFs
 n : i ≤ 17
 kp : Keeps w wr
def RunPost (B P : Nat) (w : World) (pre : List Value) (R : Res) (w' : World) : Prop :=
 Below B w w' ∧ Keeps w w' ∧ ∃ t' k' g cap us ux, Eff B w' P 175 pre t' k' g cap us ux ∧ GoodT t' 8 ∧ ((R = .done t' ∧ k' = -1) ∨ (R = .asks k' ∧ 0 ≤ k' ∧ k' ≤ 3))
set_option maxRecDepth 100000 in
set_option maxHeartbeats 16000000 in
theorem do_any (B P : Nat) (n s z : Int) (vi vh vs : Value) (c0 c1 c2 c3 : Int) (e : Ev) (t : Tn) (g cap : Nat) (us ux : Value) (l : List O) (x : Value) (nn len : Int) (w : World) (hs0 : 0 ≤ s) (hs1 : s ≤ 65535) (hd0 : 0 ≤ e.d) (hd1 : e.d ≤ 3) (hv0 : 0 ≤ e.v) (hv1 : e.v ≤ 999) (ht0 : 0 ≤ e.t) (ht1 : e.t ≤ 1000)
  (hc : ∀ a : Int, -1 ≤ vecAt c0 c1 c2 c3 a ∧ vecAt c0 c1 c2 c3 a ≤ 1) (hl : l.length ≤ 8) (hok : ∀ i, i < l.length → (oAt l i).ok nn len = true) (gt : GoodT t 0)
  (hx : ∃ a cx, x = .slice a l.length cx ∧ (l = [] ∨ ∃ b off, a = some ⟨b, off, none⟩ ∧ b < B ∧ OsAt w b off l)) (h : Eff B w P 175 (preT n s z vi vh vs c0 c1 c2 c3 e) t (-1) g cap us ux) :
  Calls Tryz.prog 99 #[.pointer (some ⟨P, 0, none⟩), x] w fun r w' => r = .returned (.tuple #[]) ∧ RunPost B P w (preT n s z vi vh vs c0 c1 c2 c3 e) (run s [c0, c1, c2, c3] e l l.length 0 t) w' := by
 obtain ⟨ax, cx, rfl, hx⟩ := hx
 have HX : Hid (l = [] ∨ ∃ b off, ax = some ⟨b, off, none⟩ ∧ b < B ∧ OsAt w b off l) := hx
 have HE : Hid (Eff B w P 175 (preT n s z vi vh vs c0 c1 c2 c3 e) t (-1) g cap us ux) := h
 obtain ⟨hBw, hPw⟩ := h.le
 clear hx h
 obtain ⟨R, hR⟩ : ∃ R, run s [c0, c1, c2, c3] e l l.length 0 t = R := ⟨_, rfl⟩
 have HR : Hid (run s [c0, c1, c2, c3] e l l.length 0 t = R) := hR
 rw [hR]
 clear hR
 go_enter Tryz.func99, Tryz.ntmps99
 go_wp2
 go_step3
 go_wp2
 go_step3
 go_wp2
 go_loopw [5] (fun iv wr => ∃ i : Nat, iv = .int .i64 i ∧ DoInv B P w.heap.size w wr (preT n s z vi vh vs c0 c1 c2 c3 e) s [c0, c1, c2, c3] e l R i) (fun iv _ => 20 - (intOf iv).toNat)
 case atStart => exact ⟨0, rfl, ⟨l.length, t, 0, g, cap, us, ux, HE.out.alloc _, gt, Nat.le_refl _, by omega, by omega, HR.out⟩, (Below.refl B w).alloc hBw _, Bk.new w _ _, by omega, keeps_alloc w _⟩
 case round =>
  obtain ⟨i, rfl, hI⟩ := hrel
  obtain ⟨⟨f, t1, j, g1, cap1, us1, ux1, hE, hg, hji, hj8, hf, hrun⟩, hB, hD, hi17, hkp⟩ := hI
  have HK1 : Hid (Keeps w wr) := hkp
  have HE1 : Hid (Eff B wr P 175 (preT n s z vi vh vs c0 c1 c2 c3 e) t1 (-1) g1 cap1 us1 ux1) := hE
  have HG1 : Hid (GoodT t1 j) := hg
  have HRN : Hid (run s [c0, c1, c2, c3] e l f i t1 = R) := hrun
  have HB1 : Hid (Below B w wr) := hB
  have HD1 : Hid (Bk wr w.heap.size 188 doFs) := hD
  clear hE hg hrun hB hD hkp
  by_cases hlt : i < l.length
  ·obtain ⟨b, off, rfl, hb, ho⟩ := HX.out.resolve_left (by intro e; rw [e] at hlt; simp at hlt)
   obtain ⟨g0, g1', g2, g3⟩ := (ho.2 i hlt).below HB1.out hb
   have hoo := hok i hlt
   have HST : Hid (∀ R', run s [c0, c1, c2, c3] e l f i t1 = R' → ¬ waitsO [c0, c1, c2, c3] (oAt l i) → ∃ f', l.length ≤ i + 1 + passes (oAt l i) t1 + f' ∧ run s [c0, c1, c2, c3] e l f' (i + 1 + passes (oAt l i) t1) (stepO s [c0, c1, c2, c3] e (oAt l i) t1) = R') := fun R' h1 h2 => run_step hf hlt h2 h1
   have HAS : Hid (waitsO [c0, c1, c2, c3] (oAt l i) → R = .asks (oAt l i).a) := fun h1 => HRN.out.symm.trans (run_asks hf hlt h1)
   have hil : (i : Int) < (l.length : Int) := by omega
   generalize oAt l i = o at g0 g1' g2 g3 hoo HST HAS
   obtain ⟨oc, oa, ob, ok⟩ := o
   dsimp only at g0 g1' g2 g3
   obtain ⟨W1, hW1⟩ : ∃ W1, wr.alloc (.cells #[.int .i64 oc, .int .i64 oa, .int .i64 ob, .int .i64 ok] 39) = W1 := ⟨_, rfl⟩
   have HE2 : Hid (Eff B W1 P 175 (preT n s z vi vh vs c0 c1 c2 c3 e) t1 (-1) g1 cap1 us1 ux1) := hW1 ▸ HE1.out.alloc _
   have HB2 : Hid (Below B w W1) := hW1 ▸ HB1.out.alloc (HE1.out.le.1) _
   have HK2 : Hid (Keeps w W1) := hW1 ▸ HK1.out.trans (keeps_alloc wr _)
   have HD2 : Hid (Bk W1 w.heap.size 188 doFs) := hW1 ▸ HD1.out.alloc _
   have HP2 : Hid (Bk W1 wr.heap.size 39 #[.int .i64 oc, .int .i64 oa, .int .i64 ob, .int .i64 ok]) := hW1 ▸ Bk.new wr _ _
   have hcod : okO nn len oc oa ob ok = true := hoo
   simp only [okO, decide_eq_true_eq] at hcod
   have hoc : oc = 0 ∨ oc = 1 ∨ oc = 2 ∨ oc = 3 ∨ oc = 4 ∨ oc = 5 ∨ oc = 6 := by omega
   have HOO : Hid ((⟨oc, oa, ob, ok⟩ : O).ok nn len = true) := hoo
   clear hoo hok HE1 HB1 HD1 HK1 HR HX ho
   go_wp2
   clear g0 g1' g2 g3 hW1
   rcases hoc with rfl | rfl | rfl | rfl | rfl | rfl | rfl
   ·have HS0 : Hid (W1.drew.cell? ⟨wr.heap.size, 0, none⟩ = some (.int .i64 0) ∧ W1.drew.cell? ⟨wr.heap.size, 1, none⟩ = some (.int .i64 oa) ∧ W1.drew.cell? ⟨wr.heap.size, 2, none⟩ = some (.int .i64 ob) ∧ W1.drew.cell? ⟨wr.heap.size, 3, none⟩ = some (.int .i64 ok) ∧ W1.drew.cell? ⟨w.heap.size, 0, none⟩ = some (.func (.func 106) #[] #[])) := ⟨HP2.out.drew.cell (i := 0) rfl, HP2.out.drew.cell (i := 1) rfl, HP2.out.drew.cell (i := 2) rfl, HP2.out.drew.cell (i := 3) rfl, HD2.out.drew.cell (i := 0) rfl⟩
    go_region_held3 (fun W => W.cell? ⟨wr.heap.size, 0, none⟩ = some (.int .i64 0) ∧ W.cell? ⟨wr.heap.size, 1, none⟩ = some (.int .i64 oa) ∧ W.cell? ⟨wr.heap.size, 2, none⟩ = some (.int .i64 ob) ∧ W.cell? ⟨wr.heap.size, 3, none⟩ = some (.int .i64 ok) ∧ W.cell? ⟨w.heap.size, 0, none⟩ = some (.func (.func 106) #[] #[])) (first | exact HS0.out | exact HS3.out)
     (first | (go_at_call 106; refine (add_any B P n s z vi vh vs c0 c1 c2 c3 e t1 (-1) g1 cap1 us1 ux1 ⟨0, oa, ob, ok⟩ j HG1.out (by show 0 ≤ oa; omega) (by show oa ≤ 1; omega) (by show 0 ≤ ob; omega) (by show ob ≤ 999; omega) _ HE2.out.drew).mono ?_; rintro r w3 ⟨rfl, hE3, hB3, hK3⟩; have hD3 := hK3 _ _ _ (by decide) HD2.out.drew; have hP3 := hK3 _ _ _ (by decide) HP2.out.drew; have HS3 : Hid (w3.cell? ⟨wr.heap.size, 0, none⟩ = some (.int .i64 0) ∧ w3.cell? ⟨wr.heap.size, 1, none⟩ = some (.int .i64 oa) ∧ w3.cell? ⟨wr.heap.size, 2, none⟩ = some (.int .i64 ob) ∧ w3.cell? ⟨wr.heap.size, 3, none⟩ = some (.int .i64 ok) ∧ w3.cell? ⟨w.heap.size, 0, none⟩ = some (.func (.func 106) #[] #[])) := ⟨hP3.cell (i := 0) rfl, hP3.cell (i := 1) rfl, hP3.cell (i := 2) rfl, hP3.cell (i := 3) rfl, hD3.cell (i := 0) rfl⟩; have HD3 : Hid (Bk w3 w.heap.size 188 doFs) := hD3; have HB3 : Hid (Below B w w3) := HB2.out.drew.trans hB3; have HK3 : Hid (Keeps w w3) := (HK2.out.trans (keeps_drew W1)).trans hK3; clear hD3 hP3 hK3 hB3))
    obtain ⟨g3, cap3, us3, ux3, hE3⟩ := hE3
    clear HS0 HS3
    have hwn : ¬ waitsO [c0, c1, c2, c3] (⟨0, oa, ob, ok⟩ : O) := (fun h => absurd h.1 (by show ¬ (0 : Int) = 4; decide))
    obtain ⟨f', hf', hr'⟩ := HST.out R HRN.out hwn
    have hps : passes (⟨0, oa, ob, ok⟩ : O) t1 = 0 := by simp [passes]
    have hgs : GoodT (stepO s [c0, c1, c2, c3] e (⟨0, oa, ob, ok⟩ : O) t1) (j + 1) := HG1.out.step HOO.out (fun h4 => absurd h4 (by show ¬ (0 : Int) = 4; decide))
    have hst : stepO s [c0, c1, c2, c3] e (⟨0, oa, ob, ok⟩ : O) t1 = (t1.put oa ((t1.reg oa + ob) % 1000)) := by simp [stepO]
    rw [hps] at hf' hr'
    rw [hst] at hr' hgs
    have HI : Hid (DoInv B P w.heap.size w w3 (preT n s z vi vh vs c0 c1 c2 c3 e) s [c0, c1, c2, c3] e l R (i + 1 + 0)) := ⟨⟨f', _, j + 1, g3, cap3, us3, ux3, hE3, hgs, by omega, by omega, hf', hr'⟩, HB3.out, HD3.out, by omega, HK3.out⟩
    clear hf' hr' hgs hst hps hE3
    go_wp2
    go_roundw
    case rel => exact ⟨i + 1 + 0, by go_num, HI.out⟩
    case measure => simp [intOf]; omega
   ·have HS0 : Hid (W1.drew.cell? ⟨wr.heap.size, 0, none⟩ = some (.int .i64 1) ∧ W1.drew.cell? ⟨wr.heap.size, 1, none⟩ = some (.int .i64 oa) ∧ W1.drew.cell? ⟨wr.heap.size, 2, none⟩ = some (.int .i64 ob) ∧ W1.drew.cell? ⟨wr.heap.size, 3, none⟩ = some (.int .i64 ok) ∧ W1.drew.cell? ⟨w.heap.size, 1, none⟩ = some (.func (.func 107) #[] #[])) := ⟨HP2.out.drew.cell (i := 0) rfl, HP2.out.drew.cell (i := 1) rfl, HP2.out.drew.cell (i := 2) rfl, HP2.out.drew.cell (i := 3) rfl, HD2.out.drew.cell (i := 1) rfl⟩
    go_region_held3 (fun W => W.cell? ⟨wr.heap.size, 0, none⟩ = some (.int .i64 1) ∧ W.cell? ⟨wr.heap.size, 1, none⟩ = some (.int .i64 oa) ∧ W.cell? ⟨wr.heap.size, 2, none⟩ = some (.int .i64 ob) ∧ W.cell? ⟨wr.heap.size, 3, none⟩ = some (.int .i64 ok) ∧ W.cell? ⟨w.heap.size, 1, none⟩ = some (.func (.func 107) #[] #[])) (first | exact HS0.out | exact HS3.out)
     (first | (go_at_call 107; refine (take_any B P n s z vi vh vs c0 c1 c2 c3 e t1 (-1) g1 cap1 us1 ux1 ⟨1, oa, ob, ok⟩ j HG1.out (by show 0 ≤ oa; omega) (by show oa ≤ 1; omega) hv0 hv1 _ HE2.out.drew).mono ?_; rintro r w3 ⟨rfl, hE3, hB3, hK3⟩; have hD3 := hK3 _ _ _ (by decide) HD2.out.drew; have hP3 := hK3 _ _ _ (by decide) HP2.out.drew; have HS3 : Hid (w3.cell? ⟨wr.heap.size, 0, none⟩ = some (.int .i64 1) ∧ w3.cell? ⟨wr.heap.size, 1, none⟩ = some (.int .i64 oa) ∧ w3.cell? ⟨wr.heap.size, 2, none⟩ = some (.int .i64 ob) ∧ w3.cell? ⟨wr.heap.size, 3, none⟩ = some (.int .i64 ok) ∧ w3.cell? ⟨w.heap.size, 1, none⟩ = some (.func (.func 107) #[] #[])) := ⟨hP3.cell (i := 0) rfl, hP3.cell (i := 1) rfl, hP3.cell (i := 2) rfl, hP3.cell (i := 3) rfl, hD3.cell (i := 1) rfl⟩; have HD3 : Hid (Bk w3 w.heap.size 188 doFs) := hD3; have HB3 : Hid (Below B w w3) := HB2.out.drew.trans hB3; have HK3 : Hid (Keeps w w3) := (HK2.out.trans (keeps_drew W1)).trans hK3; clear hD3 hP3 hK3 hB3))
    obtain ⟨g3, cap3, us3, ux3, hE3⟩ := hE3
    clear HS0 HS3
    have hwn : ¬ waitsO [c0, c1, c2, c3] (⟨1, oa, ob, ok⟩ : O) := (fun h => absurd h.1 (by show ¬ (1 : Int) = 4; decide))
    obtain ⟨f', hf', hr'⟩ := HST.out R HRN.out hwn
    have hps : passes (⟨1, oa, ob, ok⟩ : O) t1 = 0 := by simp [passes]
    have hgs : GoodT (stepO s [c0, c1, c2, c3] e (⟨1, oa, ob, ok⟩ : O) t1) (j + 1) := HG1.out.step HOO.out (fun h4 => absurd h4 (by show ¬ (1 : Int) = 4; decide))
    have hst : stepO s [c0, c1, c2, c3] e (⟨1, oa, ob, ok⟩ : O) t1 = (t1.put oa ((t1.reg oa + e.v) % 1000)) := by simp [stepO]
    rw [hps] at hf' hr'
    rw [hst] at hr' hgs
    have HI : Hid (DoInv B P w.heap.size w w3 (preT n s z vi vh vs c0 c1 c2 c3 e) s [c0, c1, c2, c3] e l R (i + 1 + 0)) := ⟨⟨f', _, j + 1, g3, cap3, us3, ux3, hE3, hgs, by omega, by omega, hf', hr'⟩, HB3.out, HD3.out, by omega, HK3.out⟩
    clear hf' hr' hgs hst hps hE3
    go_wp2
    go_roundw
    case rel => exact ⟨i + 1 + 0, by go_num, HI.out⟩
    case measure => simp [intOf]; omega
   ·have HS0 : Hid (W1.drew.cell? ⟨wr.heap.size, 0, none⟩ = some (.int .i64 2) ∧ W1.drew.cell? ⟨wr.heap.size, 1, none⟩ = some (.int .i64 oa) ∧ W1.drew.cell? ⟨wr.heap.size, 2, none⟩ = some (.int .i64 ob) ∧ W1.drew.cell? ⟨wr.heap.size, 3, none⟩ = some (.int .i64 ok) ∧ W1.drew.cell? ⟨w.heap.size, 2, none⟩ = some (.func (.func 108) #[] #[])) := ⟨HP2.out.drew.cell (i := 0) rfl, HP2.out.drew.cell (i := 1) rfl, HP2.out.drew.cell (i := 2) rfl, HP2.out.drew.cell (i := 3) rfl, HD2.out.drew.cell (i := 2) rfl⟩
    go_region_held3 (fun W => W.cell? ⟨wr.heap.size, 0, none⟩ = some (.int .i64 2) ∧ W.cell? ⟨wr.heap.size, 1, none⟩ = some (.int .i64 oa) ∧ W.cell? ⟨wr.heap.size, 2, none⟩ = some (.int .i64 ob) ∧ W.cell? ⟨wr.heap.size, 3, none⟩ = some (.int .i64 ok) ∧ W.cell? ⟨w.heap.size, 2, none⟩ = some (.func (.func 108) #[] #[])) (first | exact HS0.out | exact HS3.out)
     (first | (go_at_call 108; refine (send_any B P n s z vi vh vs c0 c1 c2 c3 e t1 (-1) g1 cap1 us1 ux1 ⟨2, oa, ob, ok⟩ j HG1.out hj8 ht0 ht1 (by show 0 ≤ ob; omega) (by show ob ≤ 50; omega) _ HE2.out.drew).mono ?_; rintro r w3 ⟨rfl, hE3, hB3, hK3⟩; have hD3 := hK3 _ _ _ (by decide) HD2.out.drew; have hP3 := hK3 _ _ _ (by decide) HP2.out.drew; have HS3 : Hid (w3.cell? ⟨wr.heap.size, 0, none⟩ = some (.int .i64 2) ∧ w3.cell? ⟨wr.heap.size, 1, none⟩ = some (.int .i64 oa) ∧ w3.cell? ⟨wr.heap.size, 2, none⟩ = some (.int .i64 ob) ∧ w3.cell? ⟨wr.heap.size, 3, none⟩ = some (.int .i64 ok) ∧ w3.cell? ⟨w.heap.size, 2, none⟩ = some (.func (.func 108) #[] #[])) := ⟨hP3.cell (i := 0) rfl, hP3.cell (i := 1) rfl, hP3.cell (i := 2) rfl, hP3.cell (i := 3) rfl, hD3.cell (i := 2) rfl⟩; have HD3 : Hid (Bk w3 w.heap.size 188 doFs) := hD3; have HB3 : Hid (Below B w w3) := HB2.out.drew.trans hB3; have HK3 : Hid (Keeps w w3) := (HK2.out.trans (keeps_drew W1)).trans hK3; clear hD3 hP3 hK3 hB3))
    obtain ⟨g3, cap3, us3, ux3, hE3⟩ := hE3
    clear HS0 HS3
    have hwn : ¬ waitsO [c0, c1, c2, c3] (⟨2, oa, ob, ok⟩ : O) := (fun h => absurd h.1 (by show ¬ (2 : Int) = 4; decide))
    obtain ⟨f', hf', hr'⟩ := HST.out R HRN.out hwn
    have hps : passes (⟨2, oa, ob, ok⟩ : O) t1 = 0 := by simp [passes]
    have hgs : GoodT (stepO s [c0, c1, c2, c3] e (⟨2, oa, ob, ok⟩ : O) t1) (j + 1) := HG1.out.step HOO.out (fun h4 => absurd h4 (by show ¬ (2 : Int) = 4; decide))
    have hst : stepO s [c0, c1, c2, c3] e (⟨2, oa, ob, ok⟩ : O) t1 = { t1 with s := t1.s ++ [sentE e ⟨2, oa, ob, ok⟩ t1], q := t1.q + 1 } := by simp [stepO]
    rw [hps] at hf' hr'
    rw [hst] at hr' hgs
    have HI : Hid (DoInv B P w.heap.size w w3 (preT n s z vi vh vs c0 c1 c2 c3 e) s [c0, c1, c2, c3] e l R (i + 1 + 0)) := ⟨⟨f', _, j + 1, g3, cap3, us3, ux3, hE3, hgs, by omega, by omega, hf', hr'⟩, HB3.out, HD3.out, by omega, HK3.out⟩
    clear hf' hr' hgs hst hps hE3
    go_wp2
    go_roundw
    case rel => exact ⟨i + 1 + 0, by go_num, HI.out⟩
    case measure => simp [intOf]; omega
   ·by_cases hsk : t1.reg oa < ob
    ·obtain ⟨kk, rfl⟩ : ∃ kk : Nat, ok = (kk : Int) := ⟨ok.toNat, by omega⟩
     have hkk : kk ≤ 8 := by omega
     have HC : Hid (Calls Tryz.prog 109 #[.pointer (some ⟨P, 0, none⟩), .agg #[.int .i64 3, .int .i64 oa, .int .i64 ob, .int .i64 (kk : Int)]] W1.drew (MPost B P W1.drew (preT n s z vi vh vs c0 c1 c2 c3 e) t1 (-1) (kk : Int))) := by
      have h9 := skip_any B P n s z vi vh vs c0 c1 c2 c3 e t1 (-1) g1 cap1 us1 ux1 ⟨3, oa, ob, (kk : Int)⟩ j HG1.out (by show 0 ≤ oa; omega) (by show oa ≤ 1; omega) W1.drew HE2.out.drew
      rw [if_pos hsk] at h9
      exact h9
     have HS0 : Hid (W1.drew.cell? ⟨wr.heap.size, 0, none⟩ = some (.int .i64 3) ∧ W1.drew.cell? ⟨wr.heap.size, 1, none⟩ = some (.int .i64 oa) ∧ W1.drew.cell? ⟨wr.heap.size, 2, none⟩ = some (.int .i64 ob) ∧ W1.drew.cell? ⟨wr.heap.size, 3, none⟩ = some (.int .i64 (kk : Int)) ∧ W1.drew.cell? ⟨w.heap.size, 3, none⟩ = some (.func (.func 109) #[] #[])) := ⟨HP2.out.drew.cell (i := 0) rfl, HP2.out.drew.cell (i := 1) rfl, HP2.out.drew.cell (i := 2) rfl, HP2.out.drew.cell (i := 3) rfl, HD2.out.drew.cell (i := 3) rfl⟩
     go_region_held3 (fun W => W.cell? ⟨wr.heap.size, 0, none⟩ = some (.int .i64 3) ∧ W.cell? ⟨wr.heap.size, 1, none⟩ = some (.int .i64 oa) ∧ W.cell? ⟨wr.heap.size, 2, none⟩ = some (.int .i64 ob) ∧ W.cell? ⟨wr.heap.size, 3, none⟩ = some (.int .i64 (kk : Int)) ∧ W.cell? ⟨w.heap.size, 3, none⟩ = some (.func (.func 109) #[] #[])) (first | exact HS0.out | exact HS3.out)
      (first | (go_at_call 109; refine HC.out.mono ?_; rintro r w3 ⟨rfl, hE3, hB3, hK3⟩; have hD3 := hK3 _ _ _ (by decide) HD2.out.drew; have hP3 := hK3 _ _ _ (by decide) HP2.out.drew; have HS3 : Hid (w3.cell? ⟨wr.heap.size, 0, none⟩ = some (.int .i64 3) ∧ w3.cell? ⟨wr.heap.size, 1, none⟩ = some (.int .i64 oa) ∧ w3.cell? ⟨wr.heap.size, 2, none⟩ = some (.int .i64 ob) ∧ w3.cell? ⟨wr.heap.size, 3, none⟩ = some (.int .i64 (kk : Int)) ∧ w3.cell? ⟨w.heap.size, 3, none⟩ = some (.func (.func 109) #[] #[])) := ⟨hP3.cell (i := 0) rfl, hP3.cell (i := 1) rfl, hP3.cell (i := 2) rfl, hP3.cell (i := 3) rfl, hD3.cell (i := 3) rfl⟩; have HD3 : Hid (Bk w3 w.heap.size 188 doFs) := hD3; have HB3 : Hid (Below B w w3) := HB2.out.drew.trans hB3; have HK3 : Hid (Keeps w w3) := (HK2.out.trans (keeps_drew W1)).trans hK3; clear hD3 hP3 hK3 hB3))
     obtain ⟨g3, cap3, us3, ux3, hE3⟩ := hE3
     clear HS0 HS3
     have hwn : ¬ waitsO [c0, c1, c2, c3] (⟨3, oa, ob, (kk : Int)⟩ : O) := (fun h => absurd h.1 (by show ¬ (3 : Int) = 4; decide))
     obtain ⟨f', hf', hr'⟩ := HST.out R HRN.out hwn
     have hps : passes (⟨3, oa, ob, (kk : Int)⟩ : O) t1 = kk := by (unfold passes; rw [if_pos ⟨rfl, hsk⟩]; rfl)
     have hgs : GoodT (stepO s [c0, c1, c2, c3] e (⟨3, oa, ob, (kk : Int)⟩ : O) t1) (j + 1) := HG1.out.step HOO.out (fun h4 => absurd h4 (by show ¬ (3 : Int) = 4; decide))
     have hst : stepO s [c0, c1, c2, c3] e (⟨3, oa, ob, (kk : Int)⟩ : O) t1 = t1 := by simp [stepO]
     rw [hps] at hf' hr'
     rw [hst] at hr' hgs
     have HI : Hid (DoInv B P w.heap.size w w3 (preT n s z vi vh vs c0 c1 c2 c3 e) s [c0, c1, c2, c3] e l R (i + 1 + kk)) := ⟨⟨f', _, j + 1, g3, cap3, us3, ux3, hE3, hgs, by omega, by omega, hf', hr'⟩, HB3.out, HD3.out, by omega, HK3.out⟩
     clear hf' hr' hgs hst hps hE3
     go_wp2
     go_roundw
     case rel => exact ⟨i + 1 + kk, by go_num, HI.out⟩
     case measure => simp [intOf]; omega
    ·have HC : Hid (Calls Tryz.prog 109 #[.pointer (some ⟨P, 0, none⟩), .agg #[.int .i64 3, .int .i64 oa, .int .i64 ob, .int .i64 ok]] W1.drew (MPost B P W1.drew (preT n s z vi vh vs c0 c1 c2 c3 e) t1 (-1) 0)) := by
      have h9 := skip_any B P n s z vi vh vs c0 c1 c2 c3 e t1 (-1) g1 cap1 us1 ux1 ⟨3, oa, ob, ok⟩ j HG1.out (by show 0 ≤ oa; omega) (by show oa ≤ 1; omega) W1.drew HE2.out.drew
      rw [if_neg hsk] at h9
      exact h9
     have HS0 : Hid (W1.drew.cell? ⟨wr.heap.size, 0, none⟩ = some (.int .i64 3) ∧ W1.drew.cell? ⟨wr.heap.size, 1, none⟩ = some (.int .i64 oa) ∧ W1.drew.cell? ⟨wr.heap.size, 2, none⟩ = some (.int .i64 ob) ∧ W1.drew.cell? ⟨wr.heap.size, 3, none⟩ = some (.int .i64 ok) ∧ W1.drew.cell? ⟨w.heap.size, 3, none⟩ = some (.func (.func 109) #[] #[])) := ⟨HP2.out.drew.cell (i := 0) rfl, HP2.out.drew.cell (i := 1) rfl, HP2.out.drew.cell (i := 2) rfl, HP2.out.drew.cell (i := 3) rfl, HD2.out.drew.cell (i := 3) rfl⟩
     go_region_held3 (fun W => W.cell? ⟨wr.heap.size, 0, none⟩ = some (.int .i64 3) ∧ W.cell? ⟨wr.heap.size, 1, none⟩ = some (.int .i64 oa) ∧ W.cell? ⟨wr.heap.size, 2, none⟩ = some (.int .i64 ob) ∧ W.cell? ⟨wr.heap.size, 3, none⟩ = some (.int .i64 ok) ∧ W.cell? ⟨w.heap.size, 3, none⟩ = some (.func (.func 109) #[] #[])) (first | exact HS0.out | exact HS3.out)
      (first | (go_at_call 109; refine HC.out.mono ?_; rintro r w3 ⟨rfl, hE3, hB3, hK3⟩; have hD3 := hK3 _ _ _ (by decide) HD2.out.drew; have hP3 := hK3 _ _ _ (by decide) HP2.out.drew; have HS3 : Hid (w3.cell? ⟨wr.heap.size, 0, none⟩ = some (.int .i64 3) ∧ w3.cell? ⟨wr.heap.size, 1, none⟩ = some (.int .i64 oa) ∧ w3.cell? ⟨wr.heap.size, 2, none⟩ = some (.int .i64 ob) ∧ w3.cell? ⟨wr.heap.size, 3, none⟩ = some (.int .i64 ok) ∧ w3.cell? ⟨w.heap.size, 3, none⟩ = some (.func (.func 109) #[] #[])) := ⟨hP3.cell (i := 0) rfl, hP3.cell (i := 1) rfl, hP3.cell (i := 2) rfl, hP3.cell (i := 3) rfl, hD3.cell (i := 3) rfl⟩; have HD3 : Hid (Bk w3 w.heap.size 188 doFs) := hD3; have HB3 : Hid (Below B w w3) := HB2.out.drew.trans hB3; have HK3 : Hid (Keeps w w3) := (HK2.out.trans (keeps_drew W1)).trans hK3; clear hD3 hP3 hK3 hB3))
     obtain ⟨g3, cap3, us3, ux3, hE3⟩ := hE3
     clear HS0 HS3
     have hwn : ¬ waitsO [c0, c1, c2, c3] (⟨3, oa, ob, ok⟩ : O) := (fun h => absurd h.1 (by show ¬ (3 : Int) = 4; decide))
     obtain ⟨f', hf', hr'⟩ := HST.out R HRN.out hwn
     have hps : passes (⟨3, oa, ob, ok⟩ : O) t1 = 0 := by (unfold passes; rw [if_neg (fun h => by have h2 : t1.reg oa < ob := h.2; omega)])
     have hgs : GoodT (stepO s [c0, c1, c2, c3] e (⟨3, oa, ob, ok⟩ : O) t1) (j + 1) := HG1.out.step HOO.out (fun h4 => absurd h4 (by show ¬ (3 : Int) = 4; decide))
     have hst : stepO s [c0, c1, c2, c3] e (⟨3, oa, ob, ok⟩ : O) t1 = t1 := by simp [stepO]
     rw [hps] at hf' hr'
     rw [hst] at hr' hgs
     have HI : Hid (DoInv B P w.heap.size w w3 (preT n s z vi vh vs c0 c1 c2 c3 e) s [c0, c1, c2, c3] e l R (i + 1 + 0)) := ⟨⟨f', _, j + 1, g3, cap3, us3, ux3, hE3, hgs, by omega, by omega, hf', hr'⟩, HB3.out, HD3.out, by omega, HK3.out⟩
     clear hf' hr' hgs hst hps hE3
     go_wp2
     go_roundw
     case rel => exact ⟨i + 1 + 0, by go_num, HI.out⟩
     case measure => simp [intOf]; omega
   ·have hva := hc oa
    by_cases hw : vecAt c0 c1 c2 c3 oa = -1
    ·have HS0 : Hid (W1.drew.cell? ⟨wr.heap.size, 0, none⟩ = some (.int .i64 4) ∧ W1.drew.cell? ⟨wr.heap.size, 1, none⟩ = some (.int .i64 oa) ∧ W1.drew.cell? ⟨wr.heap.size, 2, none⟩ = some (.int .i64 ob) ∧ W1.drew.cell? ⟨wr.heap.size, 3, none⟩ = some (.int .i64 ok) ∧ W1.drew.cell? ⟨w.heap.size, 4, none⟩ = some (.func (.func 110) #[] #[])) := ⟨HP2.out.drew.cell (i := 0) rfl, HP2.out.drew.cell (i := 1) rfl, HP2.out.drew.cell (i := 2) rfl, HP2.out.drew.cell (i := 3) rfl, HD2.out.drew.cell (i := 4) rfl⟩
     go_region_held3 (fun W => W.cell? ⟨wr.heap.size, 0, none⟩ = some (.int .i64 4) ∧ W.cell? ⟨wr.heap.size, 1, none⟩ = some (.int .i64 oa) ∧ W.cell? ⟨wr.heap.size, 2, none⟩ = some (.int .i64 ob) ∧ W.cell? ⟨wr.heap.size, 3, none⟩ = some (.int .i64 ok) ∧ W.cell? ⟨w.heap.size, 4, none⟩ = some (.func (.func 110) #[] #[])) (first | exact HS0.out | exact HS3.out)
      (first | (go_at_call 110; refine (ask_wait B P n s z vi vh vs c0 c1 c2 c3 e t1 (-1) g1 cap1 us1 ux1 ⟨4, oa, ob, ok⟩ (by show 0 ≤ oa; omega) (by show oa ≤ 3; omega) (by show 0 ≤ ob; omega) (by show ob ≤ 1; omega) hw _ HE2.out.drew).mono ?_; rintro r w3 ⟨rfl, hE3, hB3, hK3⟩; have hD3 := hK3 _ _ _ (by decide) HD2.out.drew; have hP3 := hK3 _ _ _ (by decide) HP2.out.drew; have HS3 : Hid (w3.cell? ⟨wr.heap.size, 0, none⟩ = some (.int .i64 4) ∧ w3.cell? ⟨wr.heap.size, 1, none⟩ = some (.int .i64 oa) ∧ w3.cell? ⟨wr.heap.size, 2, none⟩ = some (.int .i64 ob) ∧ w3.cell? ⟨wr.heap.size, 3, none⟩ = some (.int .i64 ok) ∧ w3.cell? ⟨w.heap.size, 4, none⟩ = some (.func (.func 110) #[] #[])) := ⟨hP3.cell (i := 0) rfl, hP3.cell (i := 1) rfl, hP3.cell (i := 2) rfl, hP3.cell (i := 3) rfl, hD3.cell (i := 4) rfl⟩; have HD3 : Hid (Bk w3 w.heap.size 188 doFs) := hD3; have HB3 : Hid (Below B w w3) := HB2.out.drew.trans hB3; have HK3 : Hid (Keeps w w3) := (HK2.out.trans (keeps_drew W1)).trans hK3; clear hD3 hP3 hK3 hB3))
     obtain ⟨g3, cap3, us3, ux3, hE3⟩ := hE3
     clear HS0 HS3
     have hR := HAS.out ⟨rfl, by show intAt [c0, c1, c2, c3] oa.toNat < 0; rw [vec_at c0 c1 c2 c3 (by omega) (by omega), hw]; decide⟩
     have HE4 : Hid (Eff B w3 P 175 (preT n s z vi vh vs c0 c1 c2 c3 e) t1 oa g3 cap3 us3 ux3) := hE3
     clear hE3
     go_wp2
     simp only [Exit.noGoto]
     go_end0
     exact ⟨rfl, HB3.out, HK3.out, t1, oa, g3, cap3, us3, ux3, HE4.out, HG1.out.mono hj8, .inr ⟨hR, by omega, by omega⟩⟩
    ·have HS0 : Hid (W1.drew.cell? ⟨wr.heap.size, 0, none⟩ = some (.int .i64 4) ∧ W1.drew.cell? ⟨wr.heap.size, 1, none⟩ = some (.int .i64 oa) ∧ W1.drew.cell? ⟨wr.heap.size, 2, none⟩ = some (.int .i64 ob) ∧ W1.drew.cell? ⟨wr.heap.size, 3, none⟩ = some (.int .i64 ok) ∧ W1.drew.cell? ⟨w.heap.size, 4, none⟩ = some (.func (.func 110) #[] #[])) := ⟨HP2.out.drew.cell (i := 0) rfl, HP2.out.drew.cell (i := 1) rfl, HP2.out.drew.cell (i := 2) rfl, HP2.out.drew.cell (i := 3) rfl, HD2.out.drew.cell (i := 4) rfl⟩
     go_region_held3 (fun W => W.cell? ⟨wr.heap.size, 0, none⟩ = some (.int .i64 4) ∧ W.cell? ⟨wr.heap.size, 1, none⟩ = some (.int .i64 oa) ∧ W.cell? ⟨wr.heap.size, 2, none⟩ = some (.int .i64 ob) ∧ W.cell? ⟨wr.heap.size, 3, none⟩ = some (.int .i64 ok) ∧ W.cell? ⟨w.heap.size, 4, none⟩ = some (.func (.func 110) #[] #[])) (first | exact HS0.out | exact HS3.out)
      (first | (go_at_call 110; refine (ask_made B P n s z vi vh vs c0 c1 c2 c3 e t1 (-1) g1 cap1 us1 ux1 ⟨4, oa, ob, ok⟩ (by show 0 ≤ oa; omega) (by show oa ≤ 3; omega) (by show 0 ≤ ob; omega) (by show ob ≤ 1; omega) hw _ HE2.out.drew).mono ?_; rintro r w3 ⟨rfl, hE3, hB3, hK3⟩; have hD3 := hK3 _ _ _ (by decide) HD2.out.drew; have hP3 := hK3 _ _ _ (by decide) HP2.out.drew; have HS3 : Hid (w3.cell? ⟨wr.heap.size, 0, none⟩ = some (.int .i64 4) ∧ w3.cell? ⟨wr.heap.size, 1, none⟩ = some (.int .i64 oa) ∧ w3.cell? ⟨wr.heap.size, 2, none⟩ = some (.int .i64 ob) ∧ w3.cell? ⟨wr.heap.size, 3, none⟩ = some (.int .i64 ok) ∧ w3.cell? ⟨w.heap.size, 4, none⟩ = some (.func (.func 110) #[] #[])) := ⟨hP3.cell (i := 0) rfl, hP3.cell (i := 1) rfl, hP3.cell (i := 2) rfl, hP3.cell (i := 3) rfl, hD3.cell (i := 4) rfl⟩; have HD3 : Hid (Bk w3 w.heap.size 188 doFs) := hD3; have HB3 : Hid (Below B w w3) := HB2.out.drew.trans hB3; have HK3 : Hid (Keeps w w3) := (HK2.out.trans (keeps_drew W1)).trans hK3; clear hD3 hP3 hK3 hB3))
     obtain ⟨g3, cap3, us3, ux3, hE3⟩ := hE3
     clear HS0 HS3
     have hwn : ¬ waitsO [c0, c1, c2, c3] (⟨4, oa, ob, ok⟩ : O) := (fun h => by have h2 : intAt [c0, c1, c2, c3] oa.toNat < 0 := h.2; rw [vec_at c0 c1 c2 c3 (by omega) (by omega)] at h2; omega)
     obtain ⟨f', hf', hr'⟩ := HST.out R HRN.out hwn
     have hps : passes (⟨4, oa, ob, ok⟩ : O) t1 = 0 := by simp [passes]
     have hgs : GoodT (stepO s [c0, c1, c2, c3] e (⟨4, oa, ob, ok⟩ : O) t1) (j + 1) := HG1.out.step HOO.out (fun h4 => by show 0 ≤ intAt [c0, c1, c2, c3] oa.toNat ∧ intAt [c0, c1, c2, c3] oa.toNat ≤ 1; rw [vec_at c0 c1 c2 c3 (by omega) (by omega)]; omega)
     have hst : stepO s [c0, c1, c2, c3] e (⟨4, oa, ob, ok⟩ : O) t1 = (t1.put ob (vecAt c0 c1 c2 c3 oa)) := by rw [← vec_at c0 c1 c2 c3 (by omega) (by omega)]; simp [stepO]
     rw [hps] at hf' hr'
     rw [hst] at hr' hgs
     have HI : Hid (DoInv B P w.heap.size w w3 (preT n s z vi vh vs c0 c1 c2 c3 e) s [c0, c1, c2, c3] e l R (i + 1 + 0)) := ⟨⟨f', _, j + 1, g3, cap3, us3, ux3, hE3, hgs, by omega, by omega, hf', hr'⟩, HB3.out, HD3.out, by omega, HK3.out⟩
     clear hf' hr' hgs hst hps hE3
     go_wp2
     go_roundw
     case rel => exact ⟨i + 1 + 0, by go_num, HI.out⟩
     case measure => simp [intOf]; omega
   ·have HS0 : Hid (W1.drew.cell? ⟨wr.heap.size, 0, none⟩ = some (.int .i64 5) ∧ W1.drew.cell? ⟨wr.heap.size, 1, none⟩ = some (.int .i64 oa) ∧ W1.drew.cell? ⟨wr.heap.size, 2, none⟩ = some (.int .i64 ob) ∧ W1.drew.cell? ⟨wr.heap.size, 3, none⟩ = some (.int .i64 ok) ∧ W1.drew.cell? ⟨w.heap.size, 5, none⟩ = some (.func (.func 111) #[] #[])) := ⟨HP2.out.drew.cell (i := 0) rfl, HP2.out.drew.cell (i := 1) rfl, HP2.out.drew.cell (i := 2) rfl, HP2.out.drew.cell (i := 3) rfl, HD2.out.drew.cell (i := 5) rfl⟩
    go_region_held3 (fun W => W.cell? ⟨wr.heap.size, 0, none⟩ = some (.int .i64 5) ∧ W.cell? ⟨wr.heap.size, 1, none⟩ = some (.int .i64 oa) ∧ W.cell? ⟨wr.heap.size, 2, none⟩ = some (.int .i64 ob) ∧ W.cell? ⟨wr.heap.size, 3, none⟩ = some (.int .i64 ok) ∧ W.cell? ⟨w.heap.size, 5, none⟩ = some (.func (.func 111) #[] #[])) (first | exact HS0.out | exact HS3.out)
     (first | (go_at_call 111; refine (emit_any B P n s z vi vh vs c0 c1 c2 c3 e t1 (-1) g1 cap1 us1 ux1 ⟨5, oa, ob, ok⟩ j HG1.out hj8 (by show 0 ≤ oa; omega) (by show oa ≤ 1; omega) _ HE2.out.drew).mono ?_; rintro r w3 ⟨rfl, hE3, hB3, hK3⟩; have hD3 := hK3 _ _ _ (by decide) HD2.out.drew; have hP3 := hK3 _ _ _ (by decide) HP2.out.drew; have HS3 : Hid (w3.cell? ⟨wr.heap.size, 0, none⟩ = some (.int .i64 5) ∧ w3.cell? ⟨wr.heap.size, 1, none⟩ = some (.int .i64 oa) ∧ w3.cell? ⟨wr.heap.size, 2, none⟩ = some (.int .i64 ob) ∧ w3.cell? ⟨wr.heap.size, 3, none⟩ = some (.int .i64 ok) ∧ w3.cell? ⟨w.heap.size, 5, none⟩ = some (.func (.func 111) #[] #[])) := ⟨hP3.cell (i := 0) rfl, hP3.cell (i := 1) rfl, hP3.cell (i := 2) rfl, hP3.cell (i := 3) rfl, hD3.cell (i := 5) rfl⟩; have HD3 : Hid (Bk w3 w.heap.size 188 doFs) := hD3; have HB3 : Hid (Below B w w3) := HB2.out.drew.trans hB3; have HK3 : Hid (Keeps w w3) := (HK2.out.trans (keeps_drew W1)).trans hK3; clear hD3 hP3 hK3 hB3))
    obtain ⟨g3, cap3, us3, ux3, hE3⟩ := hE3
    clear HS0 HS3
    have hwn : ¬ waitsO [c0, c1, c2, c3] (⟨5, oa, ob, ok⟩ : O) := (fun h => absurd h.1 (by show ¬ (5 : Int) = 4; decide))
    obtain ⟨f', hf', hr'⟩ := HST.out R HRN.out hwn
    have hps : passes (⟨5, oa, ob, ok⟩ : O) t1 = 0 := by simp [passes]
    have hgs : GoodT (stepO s [c0, c1, c2, c3] e (⟨5, oa, ob, ok⟩ : O) t1) (j + 1) := HG1.out.step HOO.out (fun h4 => absurd h4 (by show ¬ (5 : Int) = 4; decide))
    have hst : stepO s [c0, c1, c2, c3] e (⟨5, oa, ob, ok⟩ : O) t1 = { t1 with x := t1.x ++ [⟨e.t, e.d, t1.reg oa⟩] } := by simp [stepO]
    rw [hps] at hf' hr'
    rw [hst] at hr' hgs
    have HI : Hid (DoInv B P w.heap.size w w3 (preT n s z vi vh vs c0 c1 c2 c3 e) s [c0, c1, c2, c3] e l R (i + 1 + 0)) := ⟨⟨f', _, j + 1, g3, cap3, us3, ux3, hE3, hgs, by omega, by omega, hf', hr'⟩, HB3.out, HD3.out, by omega, HK3.out⟩
    clear hf' hr' hgs hst hps hE3
    go_wp2
    go_roundw
    case rel => exact ⟨i + 1 + 0, by go_num, HI.out⟩
    case measure => simp [intOf]; omega
   ·have HS0 : Hid (W1.drew.cell? ⟨wr.heap.size, 0, none⟩ = some (.int .i64 6) ∧ W1.drew.cell? ⟨wr.heap.size, 1, none⟩ = some (.int .i64 oa) ∧ W1.drew.cell? ⟨wr.heap.size, 2, none⟩ = some (.int .i64 ob) ∧ W1.drew.cell? ⟨wr.heap.size, 3, none⟩ = some (.int .i64 ok) ∧ W1.drew.cell? ⟨w.heap.size, 6, none⟩ = some (.func (.func 112) #[] #[])) := ⟨HP2.out.drew.cell (i := 0) rfl, HP2.out.drew.cell (i := 1) rfl, HP2.out.drew.cell (i := 2) rfl, HP2.out.drew.cell (i := 3) rfl, HD2.out.drew.cell (i := 6) rfl⟩
    go_region_held3 (fun W => W.cell? ⟨wr.heap.size, 0, none⟩ = some (.int .i64 6) ∧ W.cell? ⟨wr.heap.size, 1, none⟩ = some (.int .i64 oa) ∧ W.cell? ⟨wr.heap.size, 2, none⟩ = some (.int .i64 ob) ∧ W.cell? ⟨wr.heap.size, 3, none⟩ = some (.int .i64 ok) ∧ W.cell? ⟨w.heap.size, 6, none⟩ = some (.func (.func 112) #[] #[])) (first | exact HS0.out | exact HS3.out)
     (first | (go_at_call 112; refine (draw_any B P n s z vi vh vs c0 c1 c2 c3 e t1 (-1) g1 cap1 us1 ux1 ⟨6, oa, ob, ok⟩ j HG1.out hj8 (by show 0 ≤ oa; omega) (by show oa ≤ 1; omega) (by show 1 ≤ ob; omega) (by show ob ≤ 999; omega) hs0 hs1 hd0 hd1 _ HE2.out.drew).mono ?_; rintro r w3 ⟨rfl, hE3, hB3, hK3⟩; have hD3 := hK3 _ _ _ (by decide) HD2.out.drew; have hP3 := hK3 _ _ _ (by decide) HP2.out.drew; have HS3 : Hid (w3.cell? ⟨wr.heap.size, 0, none⟩ = some (.int .i64 6) ∧ w3.cell? ⟨wr.heap.size, 1, none⟩ = some (.int .i64 oa) ∧ w3.cell? ⟨wr.heap.size, 2, none⟩ = some (.int .i64 ob) ∧ w3.cell? ⟨wr.heap.size, 3, none⟩ = some (.int .i64 ok) ∧ w3.cell? ⟨w.heap.size, 6, none⟩ = some (.func (.func 112) #[] #[])) := ⟨hP3.cell (i := 0) rfl, hP3.cell (i := 1) rfl, hP3.cell (i := 2) rfl, hP3.cell (i := 3) rfl, hD3.cell (i := 6) rfl⟩; have HD3 : Hid (Bk w3 w.heap.size 188 doFs) := hD3; have HB3 : Hid (Below B w w3) := HB2.out.drew.trans hB3; have HK3 : Hid (Keeps w w3) := (HK2.out.trans (keeps_drew W1)).trans hK3; clear hD3 hP3 hK3 hB3))
    obtain ⟨g3, cap3, us3, ux3, hE3⟩ := hE3
    clear HS0 HS3
    have hwn : ¬ waitsO [c0, c1, c2, c3] (⟨6, oa, ob, ok⟩ : O) := (fun h => absurd h.1 (by show ¬ (6 : Int) = 4; decide))
    obtain ⟨f', hf', hr'⟩ := HST.out R HRN.out hwn
    have hps : passes (⟨6, oa, ob, ok⟩ : O) t1 = 0 := by simp [passes]
    have hgs : GoodT (stepO s [c0, c1, c2, c3] e (⟨6, oa, ob, ok⟩ : O) t1) (j + 1) := HG1.out.step HOO.out (fun h4 => absurd h4 (by show ¬ (6 : Int) = 4; decide))
    have hst : stepO s [c0, c1, c2, c3] e (⟨6, oa, ob, ok⟩ : O) t1 = { t1.put oa (randI s e.d t1.d % ob) with d := t1.d + 1 } := by simp [stepO]
    rw [hps] at hf' hr'
    rw [hst] at hr' hgs
    have HI : Hid (DoInv B P w.heap.size w w3 (preT n s z vi vh vs c0 c1 c2 c3 e) s [c0, c1, c2, c3] e l R (i + 1 + 0)) := ⟨⟨f', _, j + 1, g3, cap3, us3, ux3, hE3, hgs, by omega, by omega, hf', hr'⟩, HB3.out, HD3.out, by omega, HK3.out⟩
    clear hf' hr' hgs hst hps hE3
    go_wp2
    go_roundw
    case rel => exact ⟨i + 1 + 0, by go_num, HI.out⟩
    case measure => simp [intOf]; omega
  ·have hR : R = .done t1 := HRN.out.symm.trans (run_end hlt)
   have hil : ¬ (i : Int) < (l.length : Int) := by omega
   go_wp2
   go_end0
   exact ⟨rfl, HB1.out, HK1.out, t1, -1, g1, cap1, us1, ux1, HE1.out, HG1.out.mono hj8, .inl ⟨hR, rfl⟩⟩
end Go.Proofs.YtbljfphdghfkfaaGreatDoor
