/- The specification's l4back: what it answers stays, whatever turns among the blocks between. -/
import Derived.Test.YtnccenbkpocjgaaGreatExactHearLPBs
namespace Go.Proofs.YtnccenbkpocjgaaGreat
open Go.RowKit
theorem hidPBf {p : Prop} (h : p) : Hid p := h
def StayB (w0 w W : World) (y1 y2 : Value) (q : Pa) (L : List Ev) : Prop := ∀ (S : Nat → Prop) (W' : World), Turns S W W' → (∀ k, S k → w0.heap.size ≤ k ∧ k < w.heap.size) → IsPart W' y1 q ∧ IsEvs W' y2 L
theorem lb_part {w : World} {p : Pa} {cs : List Value} {S0 : Nat} {u6 : Value} {wr : World} {vr vp vt vu : Value} {j : Nat} (regs : IsD w vr (intsD (p.back j).st.r)) (past : RowO w wr S0 126 12 vu vp j (cs.take (j * 12))) (todo : RowO w wr S0 55 7 vu vt (p.back j).t.length (cellsL (p.back j).t)) (bel : Below w.heap.size w wr) (hj : j ≤ p.p.length) (hd : ∀ i, i < p.p.length * 12 → IsD w (nthV cs i) (pastsD_f p.p i)) (h6 : IsD w u6 (intsD p.a)) :
  IsPart wr (.agg #[.int .i64 p.n, vr, .int .i64 (p.back j).st.q, .int .i64 (p.back j).st.d, vp, vt, u6]) (p.back j) := by
 refine ⟨vr, vp, vt, u6, rfl, regs.under bel, ?_, ?_, h6.under bel⟩
 ·have h1 := past.read bel
  have h2 := h1.1.isD (f := pastsD_f (p.p.take j)) h1.2 bel (fun i hi => by
   have e1 : nthV (cs.take (j * 12)) i = nthV cs i := by simp [nthV, List.getElem?_take_of_lt hi]
   rw [e1]
   have e2 : pastsD_f (p.p.take j) i = pastsD_f p.p i := by
    show (psAt (p.p.take j) (i / 12)).cell (i % 12) = _
    rw [psAt_take (by omega)]
    rfl
   rw [e2]
   exact hd i (by omega))
  show IsD wr vp (.row 12 (p.p.take j).length (pastsD_f (p.p.take j)))
  rw [List.length_take, Nat.min_eq_left hj]
  exact h2
 ·have h1 := todo.read bel
  exact SrcC.isD (w0 := w) h1.1 h1.2 bel (fun i hi => by
   have : nthV (cellsL (p.back j).t) i = (cellsL (p.back j).t).getD i (.int .i64 0) := rfl
   rw [this]; exact .val _)
theorem LBk.stays {w0 w : World} {p : Pa} {cs : List Value} {S0 B4 : Nat} {u6 : Value} {wr : World} {vr vp vt vu : Value} {j : Nat} {L : List Ev} (h : LBk w0 p cs S0 B4 u6 wr vr vp vt vu j L) (hj : j ≤ p.p.length) (hd : ∀ i, i < p.p.length * 12 → IsD w0 (nthV cs i) (pastsD_f p.p i)) (h6 : IsD w0 u6 (intsD p.a)) (hS : w.heap.size ≤ S0) :
  StayB w0 w wr (.agg #[.int .i64 p.n, vr, .int .i64 (p.back j).st.q, .int .i64 (p.back j).st.d, vp, vt, u6]) vu (p.back j) L := fun S W' ht hs => by
 have hb : Below w0.heap.size w0 W' := h.bel.trans (ht.to_below (fun k hk => (hs k hk).1) h.bel.size)
 have hu : OwnR S0 W' vu L := owns_turns h.undo ht (fun k hk e1 => by have := row_ge h.undo hk; have := hs k e1; omega)
 exact ⟨lb_part h.regs (h.past.turns ht (fun k hk => by have := hs k hk; omega)) (h.todo.turns ht (fun k hk => by have := hs k hk; omega)) hb hj hd h6, hu.evs⟩
set_option maxRecDepth 100000 in
set_option maxHeartbeats 32000000 in
theorem l4backF (x : Value) (p : Pa) (e : Ev) (w0 w : World) (hw0 : Below w0.heap.size w0 w) (hw : p.wt ≤ 1048576) (hg : GoodP p) (h : IsPart w0 x p) :
  Calls Tryz.prog 112 #[x, .agg #[.int .i64 e.t, .int .i64 e.s, .int .i64 e.q, .int .i64 e.d, .int .i64 e.k, .int .i64 e.v, .int .i64 e.g]] w fun r w' => ∃ y1 y2, r = .returned (.tuple #[y1, y2]) ∧ IsPart w' y1 (p.back (cutK p.p e)) ∧ IsEvs w' y2 (undoL p.p (cutK p.p e)) ∧ Below w.heap.size w w' ∧ StayB w0 w w' y1 y2 (p.back (cutK p.p e)) (undoL p.p (cutK p.p e)) := by
 have hs00 : w0.heap.size ≤ w.heap.size := hw0.size
 obtain ⟨u1, u4, u5, u6, rfl, d1, d4, d5, d6⟩ := h
 obtain ⟨a1, c1, rfl, _⟩ := IsD.len d1
 obtain ⟨cs, hsrc, hdat⟩ := IsD.cells (c := 12) (n := p.p.length) d4
 obtain ⟨a4, c4, rfl, hn4, hm4, _⟩ := IsD.parts (c := 12) (n := p.p.length) d4
 obtain ⟨a5, c5, rfl, hn5, hm5, _⟩ := IsD.parts (c := 7) (n := p.t.length) d5
 obtain ⟨a6, c6, rfl, _⟩ := IsD.len d6
 have HG : Hid (GoodP p) := hg
 have HWT : Hid (p.wt ≤ 1048576) := hw
 have HCS : Hid (cs.length = p.p.length * 12 ∧ ∀ i, i < p.p.length * 12 → IsD w0 (nthV cs i) (pastsD_f p.p i)) := ⟨hsrc.1, hdat⟩
 have HD6 := hidPBf d6
 have hp9 : p.p.length ≤ 200 ∧ p.t.length ≤ 2000 := ⟨hg.1.1, hg.1.2.1⟩
 obtain ⟨ip, hip, hip0, hip1, hip2⟩ := info_parts infoPQ
 obtain ⟨ie, hie, hie0, hie1, hie2⟩ := info_parts infoEvE
 obtain ⟨W0, hW0⟩ : ∃ W0, (((w.alloc (.cells #[.int .i64 p.n, .slice a1 p.st.r.length c1, .int .i64 p.st.q, .int .i64 p.st.d, .slice a4 p.p.length c4, .slice a5 p.t.length c5, .slice a6 p.a.length c6] 33)).alloc (.cells #[.int .i64 e.t, .int .i64 e.s, .int .i64 e.q, .int .i64 e.d, .int .i64 e.k, .int .i64 e.v, .int .i64 e.g] 55)).alloc (.cells #[.int .i64 0, .slice none 0 0, .int .i64 0, .int .i64 0, .slice none 0 0, .slice none 0 0, .slice none 0 0] 33)).alloc (.cells #[.int .i64 p.n, .slice a1 p.st.r.length c1, .int .i64 p.st.q, .int .i64 p.st.d, .slice a4 p.p.length c4, .slice a5 p.t.length c5, .slice a6 p.a.length c6] 33) = W0 := ⟨_, rfl⟩
 have hz0 : W0.heap.size = w.heap.size + 1 + 1 + 1 + 1 := by rw [← hW0]; simp
 have hb0 : Below w.heap.size w W0 := hW0 ▸ ((((Below.refl _ w).alloc (Nat.le_refl _) _).alloc (by simp) _).alloc (by simp; omega) _).alloc (by simp; omega) _
 have HW0 := hidPBf hW0
 have BE : Hid (Bk W0 (w.heap.size + 1) 55 #[.int .i64 e.t, .int .i64 e.s, .int .i64 e.q, .int .i64 e.d, .int .i64 e.k, .int .i64 e.v, .int .i64 e.g]) := hW0 ▸ ((Bk.newAt (by simp) _ _).alloc _).alloc _
 have BZ : Hid (Bk W0 (w.heap.size + 1 + 1) 33 #[.int .i64 0, .slice none 0 0, .int .i64 0, .int .i64 0, .slice none 0 0, .slice none 0 0, .slice none 0 0]) := hW0 ▸ (Bk.newAt (by simp) _ _).alloc _
 have BO : Bk W0 (w.heap.size + 1 + 1 + 1) 33 #[.int .i64 p.n, .slice a1 p.st.r.length c1, .int .i64 p.st.q, .int .i64 p.st.d, .slice a4 p.p.length c4, .slice a5 p.t.length c5, .slice a6 p.a.length c6] := hW0 ▸ Bk.newAt (by simp) _ _
 have L0 : Hid (LBk w0 p cs W0.heap.size (w.heap.size + 1 + 1 + 1) (.slice a6 p.a.length c6) W0 (.slice a1 p.st.r.length c1) (.slice a4 p.p.length c4) (.slice a5 p.t.length c5) (.slice none 0 0) p.p.length []) := by
  refine ⟨?_, ?_, .inl ⟨?_, _, _, rfl, hn4, hm4⟩, .inl ⟨?_, ?_⟩, OwnR.nil _ _, hw0.trans (hb0.mono hw0.size)⟩
  ·rw [back_all]; exact BO
  ·rw [back_all]; exact d1
  ·rw [List.take_of_length_le (by have := hsrc.1; omega)]; exact hsrc
  ·rw [back_all]; exact d5.srcEv
  ·rw [back_all]; exact ⟨_, _, rfl, hn5, hm5⟩
 have hz0' : W0.heap.size ≤ w.heap.size + 1 + 1 + 1 + 1 ∧ w.heap.size + 1 + 1 + 1 + 1 ≤ W0.heap.size := by omega
 have HBW := hidPBf hb0
 clear hW0 hb0 d1 d4 d5 d6 hw hz0 hsrc hdat hg BO hn4 hm4 hn5 hm5
 go_enter Tryz.func112, Tryz.ntmps112
 go_wp2
 rw [HW0.out]
 clear HW0
 go_loopw [6, 8, 9] (fun u _ _ wr => ∃ (j : Nat) (vr vp vt vu : Value), vu = u ∧ j ≤ p.p.length ∧ Hid (LBk w0 p cs W0.heap.size (w.heap.size + 1 + 1 + 1) (.slice a6 p.a.length c6) wr vr vp vt vu j (undoL p.p j)) ∧ Hid (HiAt p.p e j) ∧ Hid (Turns (fun b => b = (w.heap.size + 1 + 1 + 1) ∨ W0.heap.size ≤ b) W0 wr)) (fun _ _ _ wr => lenAt wr (w.heap.size + 1 + 1 + 1) 4)
 case atStart => exact ⟨p.p.length, _, _, _, _, rfl, Nat.le_refl _, by rw [undo_all]; exact L0.out, fun i h1 h2 => by omega, Turns.refl _ _⟩
 case round =>
  clear L0
  obtain ⟨W1, rfl⟩ : ∃ W1, W1 = wr := ⟨wr, rfl⟩
  obtain ⟨j, vr, vp, vt, vu, rfl, hj, HL, HJ, HT⟩ := hrel
  have hsz : W0.heap.size ≤ W1.heap.size := HT.out.size
  have hne : Nonempty (Beyond W1) := ⟨⟨W1, Below.refl _ _⟩⟩
  have HE := hidPBf (BE.out.turns HT.out (by omega))
  have HZ7 := hidPBf (BZ.out.turns HT.out (by omega))
  obtain ⟨ap, cp, rfl, hcp, hcm⟩ := HL.out.vp
  have hcm2 : cp ≤ 9223372036854775807 := by unfold maxLen at hcm; omega
  obtain ⟨ar, cr, rfl, _⟩ := IsD.len (c := 1) (n := (p.back j).st.r.length) HL.out.regs
  obtain ⟨aq, cq, rfl, _, _⟩ := (HL.out.todo.read HL.out.bel).2
  have HLN := hidPBf HL.out.len
  have o4 := HL.out.blk.beyond (i := 4) rfl
  by_cases hj0 : j = 0
  ·have hd : decide (0 < j) = false := by simp; omega
   have hd2 : ¬ ((0 : Int) < (j : Int)) := by omega
   have HBA : Hid (BackAt p.p e j) := ⟨hj, HJ.out, fun h0 => absurd hj0 (by omega)⟩
   clear hj0
   go_wp2_with fail
   refine wp_region_beyond (by kernel_rfl) (by kernel_rfl) ?_
   repeat (go_big_quiet_step (fail))
   refine wpQuiet_nil ?_
   rintro w2 ⟨⟨_, hb2⟩, rfl⟩
   clear hne o4
   have hb2' : Below w0.heap.size w0 w2 := HL.out.bel.trans (hb2.mono HL.out.bel.size)
   have HB22 := hidPBf hb2
   have HL2 := HL.out.keep hb2
   have HZ2 := hidPBf (HZ7.out.below hb2)
   obtain ⟨jc, hjc⟩ : ∃ jc, cutK p.p e = jc := ⟨_, rfl⟩
   have hjj : j = jc := by rw [← hjc]; exact HBA.out.cut HG.out
   have HIP := hidPBf (HL2.isPart hj HCS.out.2 HD6.out)
   have HUE := hidPBf HL2.undo.evs
   have hbo := HL2.blk
   have x0 := hbo.cell (i := 0) rfl
   have x1 := hbo.cell (i := 1) rfl
   have x2 := hbo.cell (i := 2) rfl
   have x3 := hbo.cell (i := 3) rfl
   have x4 := hbo.cell (i := 4) rfl
   have x5 := hbo.cell (i := 5) rfl
   have x6 := hbo.cell (i := 6) rfl
   have q0 := HZ2.out.cell (i := 0) rfl
   have q1 := HZ2.out.cell (i := 1) rfl
   have q2 := HZ2.out.cell (i := 2) rfl
   have q3 := HZ2.out.cell (i := 3) rfl
   have q4 := HZ2.out.cell (i := 4) rfl
   have q5 := HZ2.out.cell (i := 5) rfl
   have q6 := HZ2.out.cell (i := 6) rfl
   have qf := HZ2.out.free
   obtain ⟨X5, hX5⟩ : ∃ X5, put7s w2 (w.heap.size + 1 + 1) (.int .i64 p.n) (.slice ar (p.back j).st.r.length cr) (.int .i64 (p.back j).st.q) (.int .i64 (p.back j).st.d) (.slice ap j cp) (.slice aq (p.back j).t.length cq) (.slice a6 p.a.length c6) = X5 := ⟨_, rfl⟩
   have hP := HZ2.out.put7s (.int .i64 p.n) (.slice ar (p.back j).st.r.length cr) (.int .i64 (p.back j).st.q) (.int .i64 (p.back j).st.d) (.slice ap j cp) (.slice aq (p.back j).t.length cq) (.slice a6 p.a.length c6)
   have ht := put7s_turns w2 (w.heap.size + 1 + 1) (.int .i64 p.n) (.slice ar (p.back j).st.r.length cr) (.int .i64 (p.back j).st.q) (.int .i64 (p.back j).st.d) (.slice ap j cp) (.slice aq (p.back j).t.length cq) (.slice a6 p.a.length c6)
   rw [hX5] at hP ht
   unfold put7s at hX5
   have HX5 : Hid _ := hX5
   have HP5 := hidPBf hP
   have HT5 := hidPBf ht
   have HB2 := hidPBf hb2'
   have HJJ : Hid (cutK p.p e = j) := by rw [hjj]; exact hjc
   have HLL := hidPBf HL2
   clear hX5 hP ht hjc hjj hb2' hb2 hbo HL2
   go_wp2
   try rw [HX5.out]
   have t0 := HP5.out.cell (i := 0) rfl
   have t1 := HP5.out.cell (i := 1) rfl
   have t2 := HP5.out.cell (i := 2) rfl
   have t3 := HP5.out.cell (i := 3) rfl
   have t4 := HP5.out.cell (i := 4) rfl
   have t5 := HP5.out.cell (i := 5) rfl
   have t6 := HP5.out.cell (i := 6) rfl
   refine bodyPost_ret (v := .tuple #[.agg #[.int .i64 p.n, (.slice ar (p.back j).st.r.length cr), .int .i64 (p.back j).st.q, .int .i64 (p.back j).st.d, (.slice ap j cp), (.slice aq (p.back j).t.length cq), .slice a6 p.a.length c6], vu]) (by simp [results, Tryz.results112, go_sem, t0, t1, t2, t3, t4, t5, t6]) rfl ?_
   rw [HJJ.out]
   have hbx : Below w0.heap.size w0 X5 := HB2.out.trans (HT5.out.to_below (fun b e1 => by omega) HB2.out.size)
   have hL5 : LBk w0 p cs W0.heap.size (w.heap.size + 1 + 1 + 1) (.slice a6 p.a.length c6) X5 (.slice ar (p.back j).st.r.length cr) (.slice ap j cp) (.slice aq (p.back j).t.length cq) vu j (undoL p.p j) := ⟨HLL.out.blk.turns HT5.out (by omega), HLL.out.regs, HLL.out.past.turns HT5.out (fun k e1 => by omega), HLL.out.todo.turns HT5.out (fun k e1 => by omega), owns_turns HLL.out.undo HT5.out (fun k hk e1 => by have := row_ge HLL.out.undo hk; omega), hbx⟩
   exact ⟨_, _, rfl, hL5.isPart hj HCS.out.2 HD6.out, hL5.undo.evs, HBW.out.trans (((HT.out.to_below (fun b e1 => by omega) (by omega)).trans (HB22.out.mono (by omega))).trans (HT5.out.to_below (fun b e1 => by omega) (by have := HB22.out.size; omega))), hL5.stays hj HCS.out.2 HD6.out (by omega)⟩
  ·have hd : decide (0 < j) = true := by simp; omega
   have hd2 : (0 : Int) < (j : Int) := by omega
   obtain ⟨k, hk⟩ : ∃ k, j = k + 1 := ⟨j - 1, by omega⟩
   have HK : Hid (j = k + 1) := hk
   have hkl : k < p.p.length := by omega
   have ek : ((j : Int) - 1).toNat = k := by omega
   have ek1 : (1 : Int) ≤ (j : Int) := by omega
   have ekj : (j : Int) - 1 < (j : Int) := by omega
   obtain ⟨⟨_, a', cap', he, hsr⟩, _⟩ := HL.out.past.read HL.out.bel
   obtain ⟨rfl, rfl⟩ : ap = a' ∧ cp = cap' := by simpa using he
   obtain ⟨b, off, rfl, hbl, hcc⟩ := hsr.resolve_left hj0
   obtain ⟨u7, u10, u11, f0, f1, f2, f3, f4, f5, f6, f7, f8, f9, f10, f11, i7, i10, i11⟩ := ps_cells hj HCS.out.1 HCS.out.2 (show k < j by omega) hcc
   obtain ⟨a7, c7, rfl, _⟩ := IsD.len (c := 1) (n := (psAt p.p k).b.r.length) i7
   obtain ⟨a11, c11, rfl, _⟩ := IsD.len (c := 3) (n := (psAt p.p k).x.length) i11
   have HI7 := hidPBf i7
   have HI10 := hidPBf i10.isEvs
   obtain ⟨a10, c10, rfl, h10a, h10b, h10⟩ := i10.isEvs
   have H10 := hidPBf h10
   have hs10 : (psAt p.p k).s.length ≤ 9223372036854775807 := by unfold maxLen at h10b; omega
   have g0 : ∀ q : Beyond W1, q.w.cell? ⟨b, off + k * 12, none⟩ = _ := fun q => q.cell hbl f0
   have g1 : ∀ q : Beyond W1, q.w.cell? ⟨b, off + k * 12 + 1, none⟩ = _ := fun q => q.cell hbl f1
   have g2 : ∀ q : Beyond W1, q.w.cell? ⟨b, off + k * 12 + 2, none⟩ = _ := fun q => q.cell hbl f2
   have g3 : ∀ q : Beyond W1, q.w.cell? ⟨b, off + k * 12 + 3, none⟩ = _ := fun q => q.cell hbl f3
   have g4 : ∀ q : Beyond W1, q.w.cell? ⟨b, off + k * 12 + 4, none⟩ = _ := fun q => q.cell hbl f4
   have g5 : ∀ q : Beyond W1, q.w.cell? ⟨b, off + k * 12 + 5, none⟩ = _ := fun q => q.cell hbl f5
   have g6 : ∀ q : Beyond W1, q.w.cell? ⟨b, off + k * 12 + 6, none⟩ = _ := fun q => q.cell hbl f6
   have e0 := HE.out.beyond (i := 0) rfl
   have e1 := HE.out.beyond (i := 1) rfl
   have e2 := HE.out.beyond (i := 2) rfl
   have e3 := HE.out.beyond (i := 3) rfl
   have e4 := HE.out.beyond (i := 4) rfl
   have e5 := HE.out.beyond (i := 5) rfl
   have e6 := HE.out.beyond (i := 6) rfl
   have HF : Hid (W1.cell? ⟨b, off + k * 12, none⟩ = some (.int .i64 (psAt p.p k).e.t) ∧ W1.cell? ⟨b, off + k * 12 + 1, none⟩ = some (.int .i64 (psAt p.p k).e.s) ∧ W1.cell? ⟨b, off + k * 12 + 2, none⟩ = some (.int .i64 (psAt p.p k).e.q) ∧ W1.cell? ⟨b, off + k * 12 + 3, none⟩ = some (.int .i64 (psAt p.p k).e.d) ∧ W1.cell? ⟨b, off + k * 12 + 4, none⟩ = some (.int .i64 (psAt p.p k).e.k) ∧ W1.cell? ⟨b, off + k * 12 + 5, none⟩ = some (.int .i64 (psAt p.p k).e.v) ∧ W1.cell? ⟨b, off + k * 12 + 6, none⟩ = some (.int .i64 (psAt p.p k).e.g) ∧ W1.cell? ⟨b, off + k * 12 + 7, none⟩ = some (.slice a7 (psAt p.p k).b.r.length c7) ∧ W1.cell? ⟨b, off + k * 12 + 8, none⟩ = some (.int .i64 (psAt p.p k).b.q) ∧ W1.cell? ⟨b, off + k * 12 + 9, none⟩ = some (.int .i64 (psAt p.p k).b.d) ∧ W1.cell? ⟨b, off + k * 12 + 10, none⟩ = some (.slice a10 (psAt p.p k).s.length c10) ∧ W1.cell? ⟨b, off + k * 12 + 11, none⟩ = some (.slice a11 (psAt p.p k).x.length c11)) := ⟨f0, f1, f2, f3, f4, f5, f6, f7, f8, f9, f10, f11⟩
   clear f0 f1 f2 f3 f4 f5 f6 f7 f8 f9 f10 f11 i7 i10 i11 hcc he hsr h10a h10b h10
   generalize hz : (psAt p.p k).e.cmp e = z
   have HZ := hidPBf hz
   clear hz hk
   by_cases hzl : z < 0
   ·have hdz : decide (0 ≤ z) = false := by simp; omega
    go_wp2_with fail
    refine wp_region_beyond (by kernel_rfl) (by kernel_rfl) ?_
    repeat (go_big_quiet_step (first | (go_at_call 109; exact Beyond.of (l1cmp_ev (psAt p.p k).e e z HZ.out _))))
    refine wpQuiet_nil ?_
    rintro w2 ⟨⟨_, hb2⟩, rfl⟩
    clear hne o4 e0 e1 e2 e3 e4 e5 e6 g0 g1 g2 g3 g4 g5 g6
    have hb2' : Below w0.heap.size w0 w2 := HL.out.bel.trans (hb2.mono HL.out.bel.size)
    have HB22 := hidPBf hb2
    have HL2 := HL.out.keep hb2
    have HZ2 := hidPBf (HZ7.out.below hb2)
    have HBA : Hid (BackAt p.p e j) := ⟨hj, HJ.out, fun _ => by rw [show j - 1 = k from by have := HK.out; omega, HZ.out]; exact hzl⟩
    obtain ⟨jc, hjc⟩ : ∃ jc, cutK p.p e = jc := ⟨_, rfl⟩
    have hjj : j = jc := by rw [← hjc]; exact HBA.out.cut HG.out
    have HIP := hidPBf (HL2.isPart hj HCS.out.2 HD6.out)
    have HUE := hidPBf HL2.undo.evs
    have hbo := HL2.blk
    have x0 := hbo.cell (i := 0) rfl
    have x1 := hbo.cell (i := 1) rfl
    have x2 := hbo.cell (i := 2) rfl
    have x3 := hbo.cell (i := 3) rfl
    have x4 := hbo.cell (i := 4) rfl
    have x5 := hbo.cell (i := 5) rfl
    have x6 := hbo.cell (i := 6) rfl
    have q0 := HZ2.out.cell (i := 0) rfl
    have q1 := HZ2.out.cell (i := 1) rfl
    have q2 := HZ2.out.cell (i := 2) rfl
    have q3 := HZ2.out.cell (i := 3) rfl
    have q4 := HZ2.out.cell (i := 4) rfl
    have q5 := HZ2.out.cell (i := 5) rfl
    have q6 := HZ2.out.cell (i := 6) rfl
    have qf := HZ2.out.free
    obtain ⟨X5, hX5⟩ : ∃ X5, put7s w2 (w.heap.size + 1 + 1) (.int .i64 p.n) (.slice ar (p.back j).st.r.length cr) (.int .i64 (p.back j).st.q) (.int .i64 (p.back j).st.d) (.slice (some ⟨b, off, none⟩) j cp) (.slice aq (p.back j).t.length cq) (.slice a6 p.a.length c6) = X5 := ⟨_, rfl⟩
    have hP := HZ2.out.put7s (.int .i64 p.n) (.slice ar (p.back j).st.r.length cr) (.int .i64 (p.back j).st.q) (.int .i64 (p.back j).st.d) (.slice (some ⟨b, off, none⟩) j cp) (.slice aq (p.back j).t.length cq) (.slice a6 p.a.length c6)
    have ht := put7s_turns w2 (w.heap.size + 1 + 1) (.int .i64 p.n) (.slice ar (p.back j).st.r.length cr) (.int .i64 (p.back j).st.q) (.int .i64 (p.back j).st.d) (.slice (some ⟨b, off, none⟩) j cp) (.slice aq (p.back j).t.length cq) (.slice a6 p.a.length c6)
    rw [hX5] at hP ht
    unfold put7s at hX5
    have HX5 : Hid _ := hX5
    have HP5 := hidPBf hP
    have HT5 := hidPBf ht
    have HB2 := hidPBf hb2'
    have HJJ : Hid (cutK p.p e = j) := by rw [hjj]; exact hjc
    have HLL := hidPBf HL2
    clear hX5 hP ht hjc hjj hb2' hb2 hbo HL2
    go_wp2
    try rw [HX5.out]
    have t0 := HP5.out.cell (i := 0) rfl
    have t1 := HP5.out.cell (i := 1) rfl
    have t2 := HP5.out.cell (i := 2) rfl
    have t3 := HP5.out.cell (i := 3) rfl
    have t4 := HP5.out.cell (i := 4) rfl
    have t5 := HP5.out.cell (i := 5) rfl
    have t6 := HP5.out.cell (i := 6) rfl
    refine bodyPost_ret (v := .tuple #[.agg #[.int .i64 p.n, (.slice ar (p.back j).st.r.length cr), .int .i64 (p.back j).st.q, .int .i64 (p.back j).st.d, (.slice (some ⟨b, off, none⟩) j cp), (.slice aq (p.back j).t.length cq), .slice a6 p.a.length c6], vu]) (by simp [results, Tryz.results112, go_sem, t0, t1, t2, t3, t4, t5, t6]) rfl ?_
    rw [HJJ.out]
    have hbx : Below w0.heap.size w0 X5 := HB2.out.trans (HT5.out.to_below (fun b e1 => by omega) HB2.out.size)
    have hL5 : LBk w0 p cs W0.heap.size (w.heap.size + 1 + 1 + 1) (.slice a6 p.a.length c6) X5 (.slice ar (p.back j).st.r.length cr) (.slice (some ⟨b, off, none⟩) j cp) (.slice aq (p.back j).t.length cq) vu j (undoL p.p j) := ⟨HLL.out.blk.turns HT5.out (by omega), HLL.out.regs, HLL.out.past.turns HT5.out (fun k e1 => by omega), HLL.out.todo.turns HT5.out (fun k e1 => by omega), owns_turns HLL.out.undo HT5.out (fun k hk e1 => by have := row_ge HLL.out.undo hk; omega), hbx⟩
    exact ⟨_, _, rfl, hL5.isPart hj HCS.out.2 HD6.out, hL5.undo.evs, HBW.out.trans (((HT.out.to_below (fun b e1 => by omega) (by omega)).trans (HB22.out.mono (by omega))).trans (HT5.out.to_below (fun b e1 => by omega) (by have := HB22.out.size; omega))), hL5.stays hj HCS.out.2 HD6.out (by omega)⟩
   ·have hdz : decide (0 ≤ z) = true := by simp; omega
    go_wp2_with fail
    refine wp_region_beyond (by kernel_rfl) (by kernel_rfl) ?_
    repeat (go_big_quiet_step (first | (go_at_call 109; exact Beyond.of (l1cmp_ev (psAt p.p k).e e z HZ.out _))))
    refine wpQuiet_nil ?_
    rintro w2 ⟨⟨_, hb2⟩, rfl⟩
    clear hne o4 e0 e1 e2 e3 e4 e5 e6 g0 g1 g2 g3 g4 g5 g6
    have hb2s : W1.heap.size ≤ w2.heap.size := hb2.size
    have HL2 := hidPBf (HL.out.keep hb2)
    have HT2 := hidPBf (HT.out.trans ((Turns.of_below hb2 (S := fun b => b = (w.heap.size + 1 + 1 + 1) ∨ W0.heap.size ≤ b))))
    obtain ⟨f0, f1, f2, f3, f4, f5, f6, f7, f8, f9, f10, f11⟩ := HF.out
    have m0 := (hb2.cell (p := ⟨b, off + k * 12, none⟩) hbl).trans f0
    have m1 := (hb2.cell (p := ⟨b, off + k * 12 + 1, none⟩) hbl).trans f1
    have m2 := (hb2.cell (p := ⟨b, off + k * 12 + 2, none⟩) hbl).trans f2
    have m3 := (hb2.cell (p := ⟨b, off + k * 12 + 3, none⟩) hbl).trans f3
    have m4 := (hb2.cell (p := ⟨b, off + k * 12 + 4, none⟩) hbl).trans f4
    have m5 := (hb2.cell (p := ⟨b, off + k * 12 + 5, none⟩) hbl).trans f5
    have m6 := (hb2.cell (p := ⟨b, off + k * 12 + 6, none⟩) hbl).trans f6
    have m7 := (hb2.cell (p := ⟨b, off + k * 12 + 7, none⟩) hbl).trans f7
    have m8 := (hb2.cell (p := ⟨b, off + k * 12 + 8, none⟩) hbl).trans f8
    have m9 := (hb2.cell (p := ⟨b, off + k * 12 + 9, none⟩) hbl).trans f9
    have m10 := (hb2.cell (p := ⟨b, off + k * 12 + 10, none⟩) hbl).trans f10
    have m11 := (hb2.cell (p := ⟨b, off + k * 12 + 11, none⟩) hbl).trans f11
    have x4 := HL2.out.blk.cell (i := 4) rfl
    obtain ⟨W3, hW3⟩ : ∃ V, w2.alloc (.cells #[.int .i64 (psAt p.p k).e.t, .int .i64 (psAt p.p k).e.s, .int .i64 (psAt p.p k).e.q, .int .i64 (psAt p.p k).e.d, .int .i64 (psAt p.p k).e.k, .int .i64 (psAt p.p k).e.v, .int .i64 (psAt p.p k).e.g, .slice a7 (psAt p.p k).b.r.length c7, .int .i64 (psAt p.p k).b.q, .int .i64 (psAt p.p k).b.d, .slice a10 (psAt p.p k).s.length c10, .slice a11 (psAt p.p k).x.length c11] 126) = V := ⟨_, rfl⟩
    have HX3 : Hid (Bk W3 w2.heap.size 126 #[.int .i64 (psAt p.p k).e.t, .int .i64 (psAt p.p k).e.s, .int .i64 (psAt p.p k).e.q, .int .i64 (psAt p.p k).e.d, .int .i64 (psAt p.p k).e.k, .int .i64 (psAt p.p k).e.v, .int .i64 (psAt p.p k).e.g, .slice a7 (psAt p.p k).b.r.length c7, .int .i64 (psAt p.p k).b.q, .int .i64 (psAt p.p k).b.d, .slice a10 (psAt p.p k).s.length c10, .slice a11 (psAt p.p k).x.length c11]) := hW3 ▸ Bk.new _ _ _
    have hb3' : Below w2.heap.size w2 W3 := hW3 ▸ (Below.refl _ w2).alloc (Nat.le_refl _) _
    have HL3 := hidPBf (HL2.out.keep hb3')
    have HT3 := hidPBf (HT2.out.trans (Turns.of_below hb3'))
    have hs3 : w2.heap.size < W3.heap.size := HX3.out.lt
    have HW3 := hidPBf hW3
    clear f0 f1 f2 f3 f4 f5 f6 f7 f8 f9 f10 f11 hb2 hb3' hW3 HL HT HE HZ7 HL2 HT2
    go_upto_region 5 with fail
    rw [HW3.out]
    clear HW3 x4 m0 m1 m2 m3 m4 m5 m6 m7 m8 m9 m10 m11
    obtain ⟨W4, hW4⟩ : ∃ V, W3.alloc (.cells #[] 126) = V := ⟨_, rfl⟩
    have HE4 : Hid (W4.ownsRow W3.heap.size 126 12 (.slice (some ⟨W3.heap.size, 0, none⟩) 0 0) 0 []) := by (rw [← hW4]; exact row_empty_any W3 126 12)
    have hb4' : Below W3.heap.size W3 W4 := hW4 ▸ (Below.refl _ W3).alloc (Nat.le_refl _) _
    have HB4 := hidPBf hb4'
    have hs4 : W3.heap.size < W4.heap.size := by rw [← hW4]; simp
    have HL4 := hidPBf (HL3.out.keep hb4')
    have HX4 := hidPBf (HX3.out.below hb4')
    have x4 := HL4.out.blk.cell (i := 4) rfl
    obtain ⟨V, hV⟩ : ∃ V, sliced (some ⟨b, off, none⟩) 0 k cp 12 = V := ⟨_, rfl⟩
    have hsl : ∀ w : World, (Instr.sliceAt 30 (.slice (some ⟨b, off, none⟩) j cp) none (some (.int .i64 ((j : Int) - 1))) none).run Tryz.prog w = .ok V w := fun w => by (rw [show (j : Int) - 1 = (k : Int) from by omega]; exact hV ▸ run_cutTo _ _ _ _ (by omega) w)
    have hsc : SrcC W4 V 12 k (cs.take (k * 12)) := by (have h9 := SrcC.cut (HL4.out.past.read HL4.out.bel).1 (show k ≤ j by omega) hcp; rw [hV, List.take_take, Nat.min_eq_left (by have := HK.out; omega)] at h9; exact h9)
    obtain ⟨_, av, cv, rfl, _⟩ := id hsc
    have HSC := hidPBf hsc
    have H1 : Hid (∀ u ∈ cs.take (k * 12), u.oneCell' = true) := fun u hu => src_ones HCS.out.1 HCS.out.2 u (List.mem_of_mem_take hu)
    have x4f := HL4.out.blk.free
    clear hV hsc hb4'
    go_upto_region 6 with (at_builtin; refine wpList_append_src _ rfl _ _ 30 rfl W3.heap.size 126 ip _ 12 144 Tryz.underlying30 hip hip0 hip1 hip2 rfl (by decide) (.slice (some ⟨W3.heap.size, 0, none⟩) 0 0) 0 [] rfl HE4.out (.slice av k cv) k (cs.take (k * 12)) rfl HSC.out H1.out (by unfold maxLen; omega) (by omega) (by omega) ?_; intro vn w5 hown hgrow hnew; have h45 := grown_turns hgrow; have hOB : ∀ b, (Value.slice (some ⟨W3.heap.size, 0, none⟩) 0 0).ownBlock = some b → b = W3.heap.size := fun b e1 => (by simpa [Value.ownBlock] using e1.symm); have HB5 : Hid (Below W3.heap.size W3 w5) := HB4.out.grown hgrow HB4.out.size (fun b e1 => by have := hOB b e1; omega); rw [Nat.zero_add, List.nil_append] at hown; obtain ⟨an, cn, hvn⟩ := owns_slice hown; subst hvn; have HO5 : Hid (w5.ownsRow W3.heap.size 126 12 (.slice an k cn) k (cs.take (k * 12))) := hown; have HL5 : Hid (LBk w0 p cs W0.heap.size (w.heap.size + 1 + 1 + 1) (.slice a6 p.a.length c6) w5 (.slice ar (p.back j).st.r.length cr) (.slice (some ⟨b, off, none⟩) j cp) (.slice aq (p.back j).t.length cq) vu j (undoL p.p j)) := HL3.out.keep HB5.out; have HX5 : Hid (Bk w5 w2.heap.size 126 #[.int .i64 (psAt p.p k).e.t, .int .i64 (psAt p.p k).e.s, .int .i64 (psAt p.p k).e.q, .int .i64 (psAt p.p k).e.d, .int .i64 (psAt p.p k).e.k, .int .i64 (psAt p.p k).e.v, .int .i64 (psAt p.p k).e.g, .slice a7 (psAt p.p k).b.r.length c7, .int .i64 (psAt p.p k).b.q, .int .i64 (psAt p.p k).b.d, .slice a10 (psAt p.p k).s.length c10, .slice a11 (psAt p.p k).x.length c11]) := HX3.out.below HB5.out; have y4 := HL5.out.blk.cell (i := 4) rfl; have yf := HL5.out.blk.free; clear hown hgrow hnew h45 hOB)
    clear x4 x4f hsl y4 yf hW4
    obtain ⟨W6, hW6⟩ : ∃ V, w5.setCell ⟨(w.heap.size + 1 + 1 + 1), 4, none⟩ (.slice an k cn) = V := ⟨_, rfl⟩
    have ht6 := put1_turns w5 (w.heap.size + 1 + 1 + 1) 4 (.slice an k cn)
    have hq6 := HL5.out.blk.put 4 (.slice an k cn)
    rw [hW6] at ht6 hq6 ⊢
    have HO6 := hidPBf hq6
    have HX6 := hidPBf (HX5.out.turns ht6 (by omega))
    have HPR6 := hidPBf (owns_turns HO5.out ht6 (fun b hb e1 => by have := row_ge HO5.out hb; omega))
    have HTD6 := hidPBf (HL5.out.todo.turns ht6 (fun k e1 => by omega))
    have HUN6 := hidPBf (owns_turns HL5.out.undo ht6 (fun b hb e1 => by have := row_ge HL5.out.undo hb; omega))
    have HT6 := hidPBf ((HT3.out.trans (Turns.of_below HB5.out)).trans (ht6.mono (fun b e1 => .inl e1)))
    have HB6 := hidPBf (HL5.out.bel.trans (ht6.to_below (fun b e1 => by omega) HL5.out.bel.size))
    have hs6 : W3.heap.size ≤ W6.heap.size := Nat.le_trans HB5.out.size ht6.size
    have HUL : Hid (∀ b, vu.ownBlock = some b → b < W3.heap.size) := fun b hb => owns_lt HL3.out.undo hb
    clear hW6 ht6 hq6 HL5 HX5 HO5 HB5 HL4 HX4 HL3 HX3 HT3 HSC H1 HE4 HB4
    have x7 := HX6.out.cell (i := 7) rfl
    have x8 := HX6.out.cell (i := 8) rfl
    have x9 := HX6.out.cell (i := 9) rfl
    have y1 := HO6.out.cell (i := 1) rfl
    have y2 := HO6.out.cell (i := 2) rfl
    have y3 := HO6.out.cell (i := 3) rfl
    have yf := HO6.out.free
    obtain ⟨W7, hW7⟩ : ∃ V, ((W6.setCell ⟨(w.heap.size + 1 + 1 + 1), 1, none⟩ (.slice a7 (psAt p.p k).b.r.length c7)).setCell ⟨(w.heap.size + 1 + 1 + 1), 2, none⟩ (.int .i64 (psAt p.p k).b.q)).setCell ⟨(w.heap.size + 1 + 1 + 1), 3, none⟩ (.int .i64 (psAt p.p k).b.d) = V := ⟨_, rfl⟩
    have ht7 := ((put1_turns W6 (w.heap.size + 1 + 1 + 1) 1 (.slice a7 (psAt p.p k).b.r.length c7)).trans (put1_turns _ (w.heap.size + 1 + 1 + 1) 2 (.int .i64 (psAt p.p k).b.q))).trans (put1_turns _ (w.heap.size + 1 + 1 + 1) 3 (.int .i64 (psAt p.p k).b.d))
    have hq7 := ((HO6.out.put 1 (.slice a7 (psAt p.p k).b.r.length c7)).put 2 (.int .i64 (psAt p.p k).b.q)).put 3 (.int .i64 (psAt p.p k).b.d)
    rw [hW7] at ht7 hq7
    have HO7 := hidPBf hq7
    have HX7 := hidPBf (HX6.out.turns ht7 (by omega))
    have HPR7 := hidPBf (owns_turns HPR6.out ht7 (fun b hb e1 => by have := row_ge HPR6.out hb; omega))
    have HTD7 := hidPBf (HTD6.out.turns ht7 (fun k e1 => by omega))
    have HUN7 : Hid (OwnR W0.heap.size W7 vu (undoL p.p j)) := owns_turns HUN6.out ht7 (fun b hb e1 => by have := row_ge HUN6.out hb; omega)
    have HT7 := hidPBf (HT6.out.trans (ht7.mono (fun b e1 => .inl e1)))
    have HB7 := hidPBf (HB6.out.trans (ht7.to_below (fun b e1 => by omega) HB6.out.size))
    have hs7 : W6.heap.size ≤ W7.heap.size := ht7.size
    have HW7 : Hid _ := hW7
    clear hW7 ht7 hq7 HO6 HX6 HPR6 HTD6 HUN6 HT6 HB6
    go_upto_region 7 with fail
    try rw [HW7.out]
    clear HW7 x7 x8 x9 y1 y2 y3 yf
    have y5 := HO7.out.cell (i := 5) rfl
    have x0 := HX7.out.cell (i := 0) rfl
    have x1 := HX7.out.cell (i := 1) rfl
    have x2 := HX7.out.cell (i := 2) rfl
    have x3 := HX7.out.cell (i := 3) rfl
    have x4 := HX7.out.cell (i := 4) rfl
    have x5 := HX7.out.cell (i := 5) rfl
    have x6 := HX7.out.cell (i := 6) rfl
    have HIE := hidPBf ((SrcC.isD (w0 := w0) (f := fun i => .val ((cellsL (p.back j).t).getD i (.int .i64 0))) (HTD7.out.read HB7.out).1 (HTD7.out.read HB7.out).2 HB7.out (fun i hi => .val _)).isEvs)
    go_wp2_with fail
    clear y5 x0 x1 x2 x3 x4 x5 x6
    refine (insert_any (.slice aq (p.back j).t.length cq) (p.back j).t (psAt p.p k).e W7 (by simp [Pa.back]; omega) HIE.out).mono ?_
    rintro r w8 ⟨pq, vt0, rfl, hins, hown, hb8⟩
    rw [HK.out] at hins hown
    have HB78 := hidPBf hb8
    obtain rfl := back_ins HG.out hkl hins
    have hto : OwnR W7.heap.size w8 vt0 (p.back k).t := by (rw [back_step p hkl]; simpa using hown)
    obtain ⟨aw, cw, rfl⟩ := owns_slice hto
    have HTO := hidPBf hto
    have HO8 := hidPBf (HO7.out.below hb8)
    have HX8 := hidPBf (HX7.out.below hb8)
    have z5 := HO8.out.cell (i := 5) rfl
    have zf := HO8.out.free
    have x10 := HX8.out.cell (i := 10) rfl
    obtain ⟨W9, hW9⟩ : ∃ V, w8.setCell ⟨(w.heap.size + 1 + 1 + 1), 5, none⟩ (.slice aw (p.back k).t.length cw) = V := ⟨_, rfl⟩
    have ht9 := put1_turns w8 (w.heap.size + 1 + 1 + 1) 5 (.slice aw (p.back k).t.length cw)
    have hq9 := HO8.out.put 5 (.slice aw (p.back k).t.length cw)
    rw [hW9] at ht9 hq9
    have hO9 : Bk W9 (w.heap.size + 1 + 1 + 1) 33 #[.int .i64 p.n, (.slice a7 (psAt p.p k).b.r.length c7), .int .i64 (psAt p.p k).b.q, .int .i64 (psAt p.p k).b.d, (.slice an k cn), (.slice aw (p.back k).t.length cw), .slice a6 p.a.length c6] := hq9
    have HX9 := hidPBf (HX8.out.turns ht9 (by omega))
    have hUN9 : OwnR W0.heap.size W9 vu (undoL p.p j) := owns_turns (HUN7.out.below hb8) ht9 (fun b hb e1 => by have := row_ge HUN7.out hb; omega)
    have hb9 : Below w0.heap.size w0 W9 := (HB7.out.trans (hb8.mono HB7.out.size)).trans (ht9.to_below (fun b e1 => by omega) (HB7.out.trans (hb8.mono HB7.out.size)).size)
    have HL9 : Hid (LBk w0 p cs W0.heap.size (w.heap.size + 1 + 1 + 1) (.slice a6 p.a.length c6) W9 (.slice a7 (psAt p.p k).b.r.length c7) (.slice an k cn) (.slice aw (p.back k).t.length cw) vu k (undoL p.p (k + 1) ++ ((psAt p.p k).s.drop (psAt p.p k).s.length).reverse)) := by
     have hst := back_st p hkl
     refine ⟨by rw [hst]; exact hO9, by rw [hst]; exact HI7.out, ?_, ?_, by simpa [← HK.out] using hUN9, hb9⟩
     ·exact .inr ⟨owns_mono (owns_turns (owns_same HPR7.out (fun b hb => hb8.block b (owns_lt HPR7.out hb))) ht9 (fun b hb e1 => by have := row_ge HPR7.out hb; omega)) (by omega), fun b hb e1 => by have := row_ge HPR7.out hb; have := HUL.out b e1; omega⟩
     ·exact .inr ⟨owns_mono (owns_turns HTO.out ht9 (fun b hb e1 => by have := row_ge HTO.out hb; omega)) (by omega), fun b hb e1 => by have := row_ge HTO.out hb; have := HUL.out b e1; omega⟩
    have HT9 := hidPBf ((HT7.out.trans (Turns.of_below hb8)).trans (ht9.mono (fun b e1 => .inl e1)))
    have x10' := HX9.out.cell (i := 10) rfl
    have HW9 : Hid _ := hW9
    clear hto hW9 ht9 hq9 hO9 hUN9 hb9 hown hb8 HO7 HX7 HPR7 HTD7 HUN7 HT7 HO8 HX8 HB78 HTO HIE hins x10
    go_upto_region 8 with fail
    rw [HW9.out]
    clear HW9 z5 zf
    go_wp2
    clear x10'
    go_loopw [6, 9] (fun u i wl => ∃ (m : Nat) (vu : Value), vu = u ∧ m ≤ (psAt p.p k).s.length ∧ i = .int .i64 ((m : Int) - 1) ∧ Hid (LBk w0 p cs W0.heap.size (w.heap.size + 1 + 1 + 1) (.slice a6 p.a.length c6) wl (.slice a7 (psAt p.p k).b.r.length c7) (.slice an k cn) (.slice aw (p.back k).t.length cw) vu k (undoL p.p (k + 1) ++ ((psAt p.p k).s.drop m).reverse)) ∧ Hid (Bk wl w2.heap.size 126 #[.int .i64 (psAt p.p k).e.t, .int .i64 (psAt p.p k).e.s, .int .i64 (psAt p.p k).e.q, .int .i64 (psAt p.p k).e.d, .int .i64 (psAt p.p k).e.k, .int .i64 (psAt p.p k).e.v, .int .i64 (psAt p.p k).e.g, .slice a7 (psAt p.p k).b.r.length c7, .int .i64 (psAt p.p k).b.q, .int .i64 (psAt p.p k).b.d, .slice a10 (psAt p.p k).s.length c10, .slice a11 (psAt p.p k).x.length c11]) ∧ Hid (Turns (fun b => b = (w.heap.size + 1 + 1 + 1) ∨ W0.heap.size ≤ b) W0 wl)) (fun _ i _ => (intOf i + 1).toNat)
    case atStart => exact ⟨_, vu, rfl, Nat.le_refl _, rfl, HL9.out, HX9.out, HT9.out⟩
    case round =>
     obtain ⟨m, vq, rfl, hm, rfl, HLm, HXm, HTm⟩ := hrel
     clear HL9 HX9 HT9
     have x10 := HXm.out.cell (i := 10) rfl
     by_cases hm0 : m = 0
     ·subst hm0
      clear x10
      go_wp2
      go_roundw
      case rel => exact ⟨k, _, _, _, _, rfl, Nat.le_of_lt hkl, show LBk _ _ _ _ _ _ _ _ _ _ _ _ _ from by (have h9 := HLm.out; rw [undo_step hkl]; simpa using h9), fun i h1 h2 => by
       by_cases hik : i = k
       ·subst hik; rw [HZ.out]; omega
       ·exact HJ.out i (by have := HK.out; omega) h2, HTm.out⟩
      case measure => rw [HLm.out.len, HLN.out]; have := HK.out; omega
     ·obtain ⟨m1, hm'⟩ : ∃ m1, m = m1 + 1 := ⟨m - 1, by omega⟩
      have HM : Hid (m = m1 + 1) := hm'
      obtain ⟨b10, o10, rfl, hE10⟩ := H10.out.resolve_left (fun e1 => by rw [e1] at hm; simp at hm; omega)
      have hE := (hE10.below HLm.out.bel hE10.1)
      obtain ⟨f0, f1, f2, f3, f4, f5, f6⟩ := hE.2 m1 (by omega)
      have hm1 : (0 : Int) ≤ (m : Int) - 1 := by omega
      have hm4 : (1 : Int) ≤ (m : Int) := by omega
      have hm2 : (m : Int) - 1 < ((psAt p.p k).s.length : Int) := by omega
      have hm3 : ((m : Int) - 1).toNat = m1 := by omega
      have hm5 : 0 < m := by omega
      have HLB : Hid ((undoL p.p (k + 1) ++ ((psAt p.p k).s.drop m).reverse).length + 1 ≤ 1048576) := by
       show (undoL p.p (k + 1) ++ ((psAt p.p k).s.drop m).reverse).length + 1 ≤ 1048576
       have h1 := undo_len (p := p) (Nat.le_of_lt hkl)
       rw [undo_step hkl] at h1
       have h2 := HWT.out
       unfold Pa.wt at h2
       simp only [List.length_append, List.length_reverse, List.length_drop] at h1 ⊢
       omega
      obtain ⟨L, hL⟩ : ∃ L, undoL p.p (k + 1) ++ ((psAt p.p k).s.drop m).reverse = L := ⟨_, rfl⟩
      have HLE : Hid (undoL p.p (k + 1) ++ ((psAt p.p k).s.drop m1).reverse = L ++ [evAt (psAt p.p k).s m1]) := by
       show undoL p.p (k + 1) ++ ((psAt p.p k).s.drop m1).reverse = L ++ [evAt (psAt p.p k).s m1]
       rw [← hL, drop_rev (by omega : m1 < (psAt p.p k).s.length), hm', List.append_assoc]
      rw [hL] at HLm HLB
      have hLB : L.length + 1 ≤ 1048576 := HLB.out
      obtain ⟨Wb, hWb⟩ : ∃ V, wr.alloc (.cells #[.int .i64 (evAt (psAt p.p k).s m1).t, .int .i64 (evAt (psAt p.p k).s m1).s, .int .i64 (evAt (psAt p.p k).s m1).q, .int .i64 (evAt (psAt p.p k).s m1).d, .int .i64 (evAt (psAt p.p k).s m1).k, .int .i64 (evAt (psAt p.p k).s m1).v, .int .i64 (evAt (psAt p.p k).s m1).g] 55) = V := ⟨_, rfl⟩
      have hbb : Below wr.heap.size wr Wb := hWb ▸ (Below.refl _ wr).alloc (Nat.le_refl _) _
      have HONE : Hid (SrcC Wb (.slice (some ⟨wr.heap.size, 0, none⟩) 1 1) 7 1 (evAt (psAt p.p k).s m1).cs) := Bk.one (hWb ▸ Bk.new _ _ _)
      have HLb := hidPBf (HLm.out.keep hbb)
      have HXb := hidPBf (HXm.out.below hbb)
      have HTb := hidPBf (HTm.out.trans (Turns.of_below hbb))
      have hUB : Wb.ownsRow W0.heap.size 55 7 vq L.length (cellsL L) := HLb.out.undo
      have HUB := hidPBf hUB
      have hsb : W0.heap.size ≤ Wb.heap.size := HTb.out.size
      clear hL hm' hbb hUB hE hE10
      go_wp2_with (at_builtin; refine wpList_append_src _ rfl _ _ 31 rfl W0.heap.size 55 ie (.agg #[.int .i64 0, .int .i64 0, .int .i64 0, .int .i64 0, .int .i64 0, .int .i64 0, .int .i64 0]) 7 56 Tryz.underlying31 hie hie0 hie1 hie2 rfl (by decide) vq L.length (cellsL L) rfl HUB.out (.slice (some ⟨wr.heap.size, 0, none⟩) 1 1) 1 (evAt (psAt p.p k).s m1).cs rfl HONE.out (Ev.cs_one _) (by unfold maxLen; omega) (by omega) hsb ?_; intro vn wn hown hgrow hnew)
      clear x10 f0 f1 f2 f3 f4 f5 f6
      go_roundw
      case rel =>
       have hgt := grown_turns hgrow
       refine ⟨m1, vn, rfl, by omega, by rw [show (m : Int) - 1 - 1 = (m1 : Int) - 1 from by omega], ?_, HXb.out.turns hgt (owns_ne HUB.out HXb.out (by decide)), HTb.out.trans (hgt.mono (fun b e1 => .inr (row_ge HUB.out e1)))⟩
       rw [HLE.out]
       exact ⟨HLb.out.blk.turns hgt (fun e1 => by have := row_ge HUB.out e1; omega), HLb.out.regs, HLb.out.past.grow hgrow hnew, HLb.out.todo.grow hgrow hnew, ownR_snoc hown, HLb.out.bel.grown hgrow HLb.out.bel.size (fun b e1 => by have := row_ge HUB.out e1; omega)⟩
      case measure => simp [intOf]; omega
end Go.Proofs.YtnccenbkpocjgaaGreat
