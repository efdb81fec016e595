/- The specification's l1insert, on any list of events. -/
import Derived.Test.YthfhibnnkpbeiaaGreatExactKernelNewLInsD
import Derived.Test.YthfhibnnkpbeiaaGreatExactKernelNewLPOwn
import Derived.Laws.Slices
import Derived.Test.YthfhibnnkpbeiaaGreatExactKernelNewG17
namespace Go.Proofs.YthfhibnnkpbeiaaGreat
open Go.RowKit
theorem SrcC.ofEvs {w : World} {x : Value} {l : List Ev} (h : IsEvs w x l) : SrcC w x 7 l.length (cellsL l) := h.isD.srcEv
theorem evs_take {w : World} {a : Option Addr} {cap k : Nat} {l : List Ev} (h : IsEvs w (.slice a l.length cap) l) (hk : k ≤ l.length) : IsEvs w (sliced a 0 k cap 7) (l.take k) := by
 obtain ⟨a', cap', he, h1, h2, h⟩ := h
 obtain ⟨rfl, rfl⟩ : a = a' ∧ cap = cap' := by simpa using he
 unfold sliced
 have hl : (l.take k).length = k := by simp; omega
 rw [show k - 0 = (l.take k).length from by omega]
 by_cases hn : k = 0
 ·exact ⟨_, _, rfl, by omega, by omega, .inl (by subst hn; simp)⟩
 ·obtain ⟨b, off, rfl, hc⟩ := h.resolve_left (fun e => by subst e; simp at hk; omega)
  rw [if_neg (by omega)]
  refine ⟨_, _, rfl, by omega, by omega, .inr ⟨b, off, by simp [Addr.add_lit], hc.1, fun i hi => ?_⟩⟩
  have e : evAt (l.take k) i = evAt l i := by
   unfold evAt
   rw [List.getD_eq_getElem?_getD, List.getD_eq_getElem?_getD, List.getElem?_take_of_lt (by omega)]
  rw [e]
  exact hc.2 i (by omega)
theorem evs_drop {w : World} {a : Option Addr} {cap k : Nat} {l : List Ev} (h : IsEvs w (.slice a l.length cap) l) (hk : k ≤ l.length) : IsEvs w (sliced a k l.length cap 7) (l.drop k) := by
 obtain ⟨a', cap', he, h1, h2, h⟩ := h
 obtain ⟨rfl, rfl⟩ : a = a' ∧ cap = cap' := by simpa using he
 unfold sliced
 have hl : (l.drop k).length = l.length - k := by simp
 rw [show l.length - k = (l.drop k).length from by omega]
 by_cases hn : k = l.length
 ·exact ⟨_, _, rfl, by omega, by omega, .inl (by subst hn; simp)⟩
 ·obtain ⟨b, off, rfl, hc⟩ := h.resolve_left (fun e => by subst e; simp at hk hn; omega)
  rw [if_neg (by omega)]
  refine ⟨_, _, rfl, by omega, by omega, .inr ⟨b, off + k * 7, by simp [Addr.add_lit], hc.1, fun i hi => ?_⟩⟩
  rw [evAt_drop, show off + k * 7 + i * 7 = off + (k + i) * 7 from by omega]
  exact hc.2 (k + i) (by omega)
theorem infoEvE : (Tryz.prog.info? 99).map (fun i => (i.zero, i.size, i.bytes)) = some (some (.agg #[.int .i64 0, .int .i64 0, .int .i64 0, .int .i64 0, .int .i64 0, .int .i64 0, .int .i64 0]), 7, 56) := by kernel_rfl
theorem run_cutToE (a : Option Addr) (n cap k : Nat) (hk : k ≤ cap) (w : World) : (Instr.sliceAt 29 (.slice a n cap) none (some (.int .i64 (k : Int))) none).run Tryz.prog w = .ok (sliced a 0 k cap 7) w := by
 obtain ⟨i0, hi, hz0, hz1, hz2⟩ := info_parts infoEvE
 have hu : Tryz.prog.underlying 29 = some (.slice (Tryz.prog.elem 29)) := by kernel_rfl
 have he : Tryz.prog.elem 29 = 99 := by kernel_rfl
 rw [run_sliceAt_slice (h := hu), run_slice_h (ht := hu) (h0 := by omega) (h2 := by omega), he]
 simp [sizeOf, typeInfo, hi, hz1]
theorem run_cutFromE (a : Option Addr) (n cap k : Nat) (hk : k ≤ n) (w : World) : (Instr.sliceAt 29 (.slice a n cap) (some (.int .i64 (k : Int))) none none).run Tryz.prog w = .ok (sliced a k n cap 7) w := by
 obtain ⟨i0, hi, hz0, hz1, hz2⟩ := info_parts infoEvE
 have hu : Tryz.prog.underlying 29 = some (.slice (Tryz.prog.elem 29)) := by kernel_rfl
 have he : Tryz.prog.elem 29 = 99 := by kernel_rfl
 rw [run_sliceAt_slice (h := hu), run_slice_l (ht := hu) (h0 := by omega) (h1 := by omega), he]
 simp [sizeOf, typeInfo, hi, hz1]
theorem Bk.one {w : World} {g : Nat} {e : Ev} (h : Bk w g 99 #[.int .i64 e.t, .int .i64 e.s, .int .i64 e.q, .int .i64 e.d, .int .i64 e.k, .int .i64 e.v, .int .i64 e.g]) : SrcC w (.slice (some ⟨g, 0, none⟩) 1 1) 7 1 e.cs := by
 refine ⟨rfl, _, _, rfl, .inr ⟨g, 0, rfl, h.lt, fun j hj => ?_⟩⟩
 rw [Nat.zero_add]
 have : j = 0 ∨ j = 1 ∨ j = 2 ∨ j = 3 ∨ j = 4 ∨ j = 5 ∨ j = 6 := by omega
 rcases this with rfl | rfl | rfl | rfl | rfl | rfl | rfl <;> exact h.cell rfl
theorem keepE {W : World} {b : Nat} {e : Ev} (h : Bk W b 99 #[.int .i64 e.t, .int .i64 e.s, .int .i64 e.q, .int .i64 e.d, .int .i64 e.k, .int .i64 e.v, .int .i64 e.g]) : W.cell? ⟨b, 0, none⟩ = some (.int .i64 e.t) ∧ W.cell? ⟨b, 1, none⟩ = some (.int .i64 e.s) ∧ W.cell? ⟨b, 2, none⟩ = some (.int .i64 e.q) ∧ W.cell? ⟨b, 3, none⟩ = some (.int .i64 e.d) ∧ W.cell? ⟨b, 4, none⟩ = some (.int .i64 e.k) ∧ W.cell? ⟨b, 5, none⟩ = some (.int .i64 e.v) ∧ W.cell? ⟨b, 6, none⟩ = some (.int .i64 e.g) := ⟨h.cell rfl, h.cell rfl, h.cell rfl, h.cell rfl, h.cell rfl, h.cell rfl, h.cell rfl⟩
set_option maxRecDepth 100000 in
set_option maxHeartbeats 16000000 in
theorem insert_any (x : Value) (l : List Ev) (e : Ev) (w : World) (hl : l.length ≤ 1048577) (h : IsEvs w x l) :
  Calls Tryz.prog 95 #[x, e.val] w fun r w' => ∃ p x, r = .returned x ∧ InsAt l e p ∧ OwnR w.heap.size w' x (l.take p ++ e :: l.drop p) ∧ Below w.heap.size w w' := by
 obtain ⟨i0, hi, hz0, hz1, hz2⟩ := info_parts infoEvE
 have HI : Hid (IsEvs w x l) := h
 obtain ⟨a, cap, rfl, hcap, hmax, h⟩ := h
 have hmax2 : cap ≤ 9223372036854775807 := by unfold maxLen at hmax; omega
 obtain ⟨W0, hW0⟩ : ∃ W0, w.alloc (.cells #[.int .i64 e.t, .int .i64 e.s, .int .i64 e.q, .int .i64 e.d, .int .i64 e.k, .int .i64 e.v, .int .i64 e.g] 99) = W0 := ⟨_, rfl⟩
 have HE0 : Hid (Bk W0 w.heap.size 99 #[.int .i64 e.t, .int .i64 e.s, .int .i64 e.q, .int .i64 e.d, .int .i64 e.k, .int .i64 e.v, .int .i64 e.g]) := by rw [← hW0]; exact Bk.new _ _ _
 have HB0 : Hid (Below w.heap.size w W0) := by rw [← hW0]; exact (Below.refl _ w).alloc (Nat.le_refl _) _
 have hs0 : W0.heap.size ≤ w.heap.size + 1 ∧ w.heap.size + 1 ≤ W0.heap.size := by rw [← hW0]; simp
 have HC : Hid (l = [] ∨ ∃ b off, a = some ⟨b, off, none⟩ ∧ EvsAt w b off l) := h
 clear h hmax
 go_enter Tryz.func95, Tryz.ntmps95
 go_wp2
 clear hW0
 go_loopw [5] (fun i wr => ∃ k : Nat, k ≤ l.length ∧ i = .int .i64 k ∧ Hid (Below W0.heap.size W0 wr) ∧ Hid (∀ j, j < k → (evAt l j).cmp e < 0)) (fun i _ => l.length - (intOf i).toNat)
 case atStart => exact ⟨0, Nat.zero_le _, rfl, Below.refl _ _, fun j hj => by omega⟩
 case round =>
  obtain ⟨k, hk, rfl, HB, HJ⟩ := hrel
  have hsz : W0.heap.size ≤ wr.heap.size := HB.out.size
  have hne : Nonempty (Beyond wr) := ⟨⟨wr, Below.refl _ _⟩⟩
  have HBw : Hid (Below w.heap.size w wr) := HB0.out.trans (HB.out.mono (by omega))
  have HE : Hid (Bk wr w.heap.size 99 #[.int .i64 e.t, .int .i64 e.s, .int .i64 e.q, .int .i64 e.d, .int .i64 e.k, .int .i64 e.v, .int .i64 e.g]) := HE0.out.below HB.out
  by_cases hlt : k < l.length
  ·have hd : decide (k < l.length) = true := by simpa using hlt
   have hkn : (k : Int) < (l.length : Int) := by omega
   obtain ⟨b, off, rfl, hI⟩ := HC.out.resolve_left (fun e1 => by subst e1; simp at hlt)
   have HIw : Hid (EvsAt wr b off l) := hI.below HBw.out hI.1
   clear hI
   obtain ⟨f0, f1, f2, f3, f4, f5, f6⟩ := (HIw.out.2 k hlt).beyond HIw.out.1
   have g0 := HE.out.beyond (i := 0) rfl
   have g1 := HE.out.beyond (i := 1) rfl
   have g2 := HE.out.beyond (i := 2) rfl
   have g3 := HE.out.beyond (i := 3) rfl
   have g4 := HE.out.beyond (i := 4) rfl
   have g5 := HE.out.beyond (i := 5) rfl
   have g6 := HE.out.beyond (i := 6) rfl
   generalize hz : (evAt l k).cmp e = z
   have HZ : Hid ((evAt l k).cmp e = z) := hz
   clear hz
   by_cases hzl : z < 0
   ·have hdz : decide (z < 0) = true := by simpa using hzl
    go_wp2_with fail
    refine wp_region_beyond (by kernel_rfl) (by kernel_rfl) ?_
    repeat (go_big_quiet_step (first | (go_at_call 112; exact Beyond.of (l1cmp_ev (evAt l k) e z HZ.out _))))
    refine wpQuiet_nil ?_
    rintro w2 ⟨⟨_, hb2⟩, rfl⟩
    clear f0 f1 f2 f3 f4 f5 f6 g0 g1 g2 g3 g4 g5 g6
    go_wp2
    go_roundw
    case rel => exact ⟨k + 1, by omega, by go_num, HB.out.trans (hb2.mono hsz), fun j hj => by
     by_cases ej : j = k
     ·subst ej; rw [HZ.out]; exact hzl
     ·exact HJ.out j (by omega)⟩
    case measure => simp [intOf]; omega
   ·have hdz : decide (z < 0) = false := by simpa using hzl
    go_wp2_with fail
    refine wp_region_beyond (by kernel_rfl) (by kernel_rfl) ?_
    repeat (go_big_quiet_step (first | (go_at_call 112; exact Beyond.of (l1cmp_ev (evAt l k) e z HZ.out _))))
    refine wpQuiet_nil ?_
    rintro w2 ⟨⟨_, hb2⟩, rfl⟩
    clear f0 f1 f2 f3 f4 f5 f6 g0 g1 g2 g3 g4 g5 g6
    go_wp2
    have HB2 : Hid (Below w.heap.size w w2) := HBw.out.trans (hb2.mono HBw.out.size)
    have HE2 : Hid (Bk w2 w.heap.size 99 #[.int .i64 e.t, .int .i64 e.s, .int .i64 e.q, .int .i64 e.d, .int .i64 e.k, .int .i64 e.v, .int .i64 e.g]) := HE.out.below hb2
    have hle2 : w.heap.size ≤ w2.heap.size := HB2.out.size
    have hlt2 : w.heap.size < w2.heap.size := HE2.out.lt
    clear hb2 HB HE HBw hne
    have hk8 : (k : Int) ≤ (l.length : Int) := by omega
    obtain ⟨V, hV⟩ : ∃ V, sliced (some ⟨b, off, none⟩) 0 k cap 7 = V := ⟨_, rfl⟩
    have hVD : IsEvs w V (l.take k) := hV ▸ evs_take HI.out hk
    have hsl : ∀ w : World, (Instr.sliceAt 29 (.slice (some ⟨b, off, none⟩) l.length cap) none (some (.int .i64 (k : Int))) none).run Tryz.prog w = .ok V w := fun w => hV ▸ run_cutToE _ _ _ _ (by omega) w
    obtain ⟨U, hU⟩ : ∃ U, sliced (some ⟨b, off, none⟩) k l.length cap 7 = U := ⟨_, rfl⟩
    have hUD : IsEvs w U (l.drop k) := hU ▸ evs_drop HI.out hk
    have hsl2 : ∀ w : World, (Instr.sliceAt 29 (.slice (some ⟨b, off, none⟩) l.length cap) (some (.int .i64 (k : Int))) none none).run Tryz.prog w = .ok U w := fun w => hU ▸ run_cutFromE _ _ _ _ hk w
    have hs1 := SrcC.ofEvs hVD
    have hs2 := SrcC.ofEvs hUD
    obtain ⟨av, cv, rfl, _⟩ := hVD
    obtain ⟨au, cu, rfl, _⟩ := hUD
    obtain ⟨m1, hm1⟩ : ∃ m, (l.take k).length = m := ⟨_, rfl⟩
    obtain ⟨m2, hm2⟩ : ∃ m, (l.drop k).length = m := ⟨_, rfl⟩
    have HM : Hid ((l.take k).length = m1 ∧ (l.drop k).length = m2) := ⟨hm1, hm2⟩
    have hm9 : m1 + m2 ≤ 1048577 := by rw [← hm1, ← hm2]; simp; omega
    rw [hm1] at hsl
    rw [hm2] at hsl2
    have HS1 : Hid (SrcC w (.slice av m1 cv) 7 m1 (cellsL (l.take k))) := by rw [hm1] at hs1; exact hs1
    have HS2 : Hid (SrcC w (.slice au m2 cu) 7 m2 (cellsL (l.drop k))) := by rw [hm2] at hs2; exact hs2
    have HINS : Hid (InsAt l e k) := ⟨hk, HJ.out, fun _ => by rw [HZ.out]; omega⟩
    clear hs1 hs2 hV hU hm1 hm2 HI HC HJ
    go_wp2_with fail
    have E_0 : Hid (Bk w2.drew w.heap.size 99 #[.int .i64 e.t, .int .i64 e.s, .int .i64 e.q, .int .i64 e.d, .int .i64 e.k, .int .i64 e.v, .int .i64 e.g]) := HE2.out.drew
    have B_0 : Hid (Below w2.heap.size w2 w2.drew) := (Below.refl _ w2).drew
    refine wp_region_held_drew (S := fun W => W.cell? ⟨w.heap.size, 0, none⟩ = some (.int .i64 e.t) ∧ W.cell? ⟨w.heap.size, 1, none⟩ = some (.int .i64 e.s) ∧ W.cell? ⟨w.heap.size, 2, none⟩ = some (.int .i64 e.q) ∧ W.cell? ⟨w.heap.size, 3, none⟩ = some (.int .i64 e.d) ∧ W.cell? ⟨w.heap.size, 4, none⟩ = some (.int .i64 e.k) ∧ W.cell? ⟨w.heap.size, 5, none⟩ = some (.int .i64 e.v) ∧ W.cell? ⟨w.heap.size, 6, none⟩ = some (.int .i64 e.g)) (by kernel_rfl) (keepE HE2.out.drew) (fun hHeld => ?_)
    refine wpAnyH_take (i := 1) (oi := { dst := some 23, op := Op.move (Operand.tmp 0), type := 29, pos := _, after := _, guard := none }) (v := .slice (some ⟨b, off, none⟩) l.length cap) rfl (by kernel_rfl) (by kernel_rfl) (by kernel_rfl) (fun _ _ _ h => h) (Or.inl ⟨by rfl, ?_⟩) (by assumption) ?_
    ·intro wX hSw
     try dsimp only at hSw
     go_simp
     try exact IntWalk.i64_in _ (by omega)
    try simp only [Act.put, List.setIfInBounds_toArray, List.set_cons_zero, List.set_cons_succ]
    refine wpAnyH_take (i := 2) (oi := { dst := some 24, op := Op.move (Operand.tmp 5), type := 3, pos := _, after := _, guard := none }) (v := .int .i64 (k : Int)) rfl (by kernel_rfl) (by kernel_rfl) (by kernel_rfl) (fun _ _ _ h => h) (Or.inl ⟨by rfl, ?_⟩) (by assumption) ?_
    ·intro wX hSw
     try dsimp only at hSw
     go_simp
     try exact IntWalk.i64_in _ (by omega)
    try simp only [Act.put, List.setIfInBounds_toArray, List.set_cons_zero, List.set_cons_succ]
    refine wpAnyH_take (i := 5) (oi := { dst := some 27, op := Op.load 99 (Operand.tmp 3), type := 99, pos := _, after := _, guard := none }) (v := .agg #[.int .i64 e.t, .int .i64 e.s, .int .i64 e.q, .int .i64 e.d, .int .i64 e.k, .int .i64 e.v, .int .i64 e.g]) rfl (by kernel_rfl) (by kernel_rfl) (by kernel_rfl) (fun _ _ _ h => h) (Or.inl ⟨by rfl, ?_⟩) (by assumption) ?_
    ·intro wX hSw
     try dsimp only at hSw
     go_simp
     try exact IntWalk.i64_in _ (by omega)
    try simp only [Act.put, List.setIfInBounds_toArray, List.set_cons_zero, List.set_cons_succ]
    refine wpAnyH_take (i := 3) (oi := { dst := some 25, op := Op.slice 29 (Operand.tmp 23) none (some (Operand.tmp 24)) none, type := 29, pos := _, after := _, guard := none }) (v := .slice av m1 cv) rfl (by kernel_rfl) (by kernel_rfl) (by kernel_rfl) (fun _ _ _ h => h) (Or.inl ⟨by rfl, ?_⟩) (by assumption) ?_
    ·intro wX hSw
     try dsimp only at hSw
     go_simp
     try exact IntWalk.i64_in _ (by omega)
    try simp only [Act.put, List.setIfInBounds_toArray, List.set_cons_zero, List.set_cons_succ]
    refine wpAnyH_ready (rs := [0, 6]) (by kernel_rfl) (by simp) ?_
    refine AllReadyH.cons (o := { dst := some 22, op := Op.buildSlice 29 0 #[], type := 29, pos := _, after := _, guard := none }) rfl (fun K hK => ?_) (AllReadyH.cons (o := { dst := some 28, op := Op.buildSlice 29 1 #[(0, Operand.tmp 27)], type := 29, pos := _, after := _, guard := none }) rfl (fun K hK => ?_) AllReadyH.nil)
    ·obtain ⟨g1, hg1⟩ : ∃ g, g = w2.heap.size := ⟨_, rfl⟩
     obtain ⟨v1, hv1⟩ : ∃ V, (w2.alloc (.cells #[] 99)).drew = V := ⟨_, rfl⟩
     have HW1 : Hid ((w2.alloc (.cells #[] 99)).drew = v1) := hv1
     have HG1 : Hid (g1 = w2.heap.size) := hg1
     have E_1 : Hid (Bk v1 w.heap.size 99 #[.int .i64 e.t, .int .i64 e.s, .int .i64 e.q, .int .i64 e.d, .int .i64 e.k, .int .i64 e.v, .int .i64 e.g]) := by (rw [← hv1]; exact E_0.out.alloc _)
     have B_1 : Hid (Below w2.heap.size w2 v1) := by (rw [← hv1]; exact B_0.out.alloc B_0.out.size _)
     have R_1 : Hid (v1.ownsRow w2.heap.size 99 7 (.slice (some ⟨g1, 0, none⟩) 0 0) 0 []) := by (rw [← hv1, hg1]; exact owns_mono (row_empty w2) (B_0.out.size))
     have hx1 : w2.heap.size ≤ g1 ∧ g1 ≤ w2.heap.size := by omega
     have hy1 : g1 < v1.heap.size := by (rw [← hv1, hg1]; exact (Bk.new w2 99 #[]).lt)
     clear hv1 hg1
     go_simp
     rw [HW1.out, ← HG1.out]
     refine hK.out _ _ (keepE E_1.out) (fun hHeld => ?_)
     clear hK K
     try simp only [Act.put, List.setIfInBounds_toArray, List.set_cons_zero, List.set_cons_succ]
     refine wpAnyH_ready (rs := [4, 6]) (by kernel_rfl) (by simp) ?_
     refine AllReadyH.cons (o := { dst := some 26, op := Op.call { callee := Callee.builtin Builtin.append, args := #[Operand.tmp 22, Operand.tmp 25], argTypes := #[29, 29] }, type := 29, pos := _, after := _, guard := none }) rfl (fun K hK => ?_) (AllReadyH.cons (o := { dst := some 28, op := Op.buildSlice 29 1 #[(0, Operand.tmp 27)], type := 29, pos := _, after := _, guard := none }) rfl (fun K hK => ?_) AllReadyH.nil)
     ·refine step_append_src (w := v1) rfl (.tmp 22) (.tmp 25) 29 rfl w2.heap.size 99 i0 (.agg #[.int .i64 0, .int .i64 0, .int .i64 0, .int .i64 0, .int .i64 0, .int .i64 0, .int .i64 0]) 7 56 Tryz.underlying29 hi hz0 hz1 hz2 rfl (by decide) (.slice (some ⟨g1, 0, none⟩) 0 0) (0) ([]) rfl R_1.out (.slice av m1 cv) (m1) (cellsL (l.take k)) rfl (HS1.out.below (HB2.out.trans (B_1.out.mono hle2))) (cellsL_one _) (by unfold maxLen; omega) (by omega) B_1.out.size ?_
      intro vn2 v2 hown hgrow hnew
      rw [Nat.zero_add, List.nil_append] at hown
      obtain ⟨aw2, cw2, hvw⟩ := owns_slice hown
      subst hvw
      have hgt := grown_turns hgrow
      have hzz2 : v1.heap.size ≤ v2.heap.size := hgrow.size
      have HRG2 : Hid (∀ b, (.slice (some ⟨g1, 0, none⟩) 0 0 : Value).ownBlock = some b → w2.heap.size ≤ b) := fun b hb => row_ge R_1.out hb
      have E_2 : Hid (Bk v2 w.heap.size 99 #[.int .i64 e.t, .int .i64 e.s, .int .i64 e.q, .int .i64 e.d, .int .i64 e.k, .int .i64 e.v, .int .i64 e.g]) := E_1.out.turns hgt (fun e1 => by have := HRG2.out _ e1; omega)
      have B_2 : Hid (Below w2.heap.size w2 v2) := B_1.out.grown hgrow B_1.out.size (fun b e1 => HRG2.out b e1)
      have R_2 : Hid (v2.ownsRow w2.heap.size 99 7 (.slice aw2 m1 cw2) m1 (cellsL (l.take k))) := hown
      clear hown hgrow hnew hgt
      refine hK.out _ _ (keepE E_2.out) (fun hHeld => ?_)
      clear hK K
      try simp only [Act.put, List.setIfInBounds_toArray, List.set_cons_zero, List.set_cons_succ]
      refine wpAnyH_ready (rs := [6]) (by kernel_rfl) (by simp) ?_
      refine AllReadyH.cons (o := { dst := some 28, op := Op.buildSlice 29 1 #[(0, Operand.tmp 27)], type := 29, pos := _, after := _, guard := none }) rfl (fun K hK => ?_) AllReadyH.nil
      ·obtain ⟨g3, hg3⟩ : ∃ g, g = v2.heap.size := ⟨_, rfl⟩
       obtain ⟨v3, hv3⟩ : ∃ V, (v2.alloc (.cells #[.int .i64 e.t, .int .i64 e.s, .int .i64 e.q, .int .i64 e.d, .int .i64 e.k, .int .i64 e.v, .int .i64 e.g] 99)) = V := ⟨_, rfl⟩
       have HW3 : Hid ((v2.alloc (.cells #[.int .i64 e.t, .int .i64 e.s, .int .i64 e.q, .int .i64 e.d, .int .i64 e.k, .int .i64 e.v, .int .i64 e.g] 99)) = v3) := hv3
       have HG3 : Hid (g3 = v2.heap.size) := hg3
       have E_3 : Hid (Bk v3 w.heap.size 99 #[.int .i64 e.t, .int .i64 e.s, .int .i64 e.q, .int .i64 e.d, .int .i64 e.k, .int .i64 e.v, .int .i64 e.g]) := by (rw [← hv3]; exact E_2.out.alloc _)
       have B_3 : Hid (Below w2.heap.size w2 v3) := by (rw [← hv3]; exact B_2.out.alloc B_2.out.size _)
       have R_3 : Hid (v3.ownsRow w2.heap.size 99 7 (.slice aw2 m1 cw2) m1 (cellsL (l.take k))) := by (rw [← hv3]; exact R_2.out.alloc _)
       have O_3 : Hid (Bk v3 g3 99 #[.int .i64 e.t, .int .i64 e.s, .int .i64 e.q, .int .i64 e.d, .int .i64 e.k, .int .i64 e.v, .int .i64 e.g]) := by (rw [← hv3, hg3]; exact Bk.new v2 _ _)
       have HNQ3 : Hid (∀ b, (.slice aw2 m1 cw2 : Value).ownBlock = some b → b ≠ g3) := fun b hb e1 => by have := owns_lt R_2.out hb; have := hg3; simp at *; omega
       have hx3 : v2.heap.size ≤ g3 ∧ g3 ≤ v2.heap.size := by omega
       have hy3 : g3 < v3.heap.size := by (rw [← hv3, hg3]; exact (Bk.new v2 99 #[.int .i64 e.t, .int .i64 e.s, .int .i64 e.q, .int .i64 e.d, .int .i64 e.k, .int .i64 e.v, .int .i64 e.g]).lt)
       clear hv3 hg3
       go_simp
       rw [HW3.out, ← HG3.out]
       refine hK.out _ _ (keepE E_3.out) (fun hHeld => ?_)
       clear hK K
       try simp only [Act.put, List.setIfInBounds_toArray, List.set_cons_zero, List.set_cons_succ]
       refine wpAnyH_ready (rs := [7]) (by kernel_rfl) (by simp) ?_
       refine AllReadyH.cons (o := { dst := some 29, op := Op.call { callee := Callee.builtin Builtin.append, args := #[Operand.tmp 26, Operand.tmp 28], argTypes := #[29, 29] }, type := 29, pos := _, after := _, guard := none }) rfl (fun K hK => ?_) AllReadyH.nil
       ·refine step_append_src (w := v3) rfl (.tmp 26) (.tmp 28) 29 rfl w2.heap.size 99 i0 (.agg #[.int .i64 0, .int .i64 0, .int .i64 0, .int .i64 0, .int .i64 0, .int .i64 0, .int .i64 0]) 7 56 Tryz.underlying29 hi hz0 hz1 hz2 rfl (by decide) (.slice aw2 m1 cw2) (m1) ((cellsL (l.take k))) rfl R_3.out (.slice (some ⟨g3, 0, none⟩) 1 1) (1) e.cs rfl O_3.out.one (Ev.cs_one e) (by unfold maxLen; omega) (by omega) B_3.out.size ?_
        intro vn4 v4 hown hgrow hnew
        obtain ⟨aw4, cw4, hvw⟩ := owns_slice hown
        subst hvw
        have hgt := grown_turns hgrow
        have hzz4 : v3.heap.size ≤ v4.heap.size := hgrow.size
        have HRG4 : Hid (∀ b, (.slice aw2 m1 cw2 : Value).ownBlock = some b → w2.heap.size ≤ b) := fun b hb => row_ge R_3.out hb
        have HNE4 : Hid (∀ b, (.slice aw2 m1 cw2 : Value).ownBlock = some b → b ≠ g3) := fun b hb e1 => HNQ3.out b hb e1
        have E_4 : Hid (Bk v4 w.heap.size 99 #[.int .i64 e.t, .int .i64 e.s, .int .i64 e.q, .int .i64 e.d, .int .i64 e.k, .int .i64 e.v, .int .i64 e.g]) := E_3.out.turns hgt (fun e1 => by have := HRG4.out _ e1; omega)
        have B_4 : Hid (Below w2.heap.size w2 v4) := B_3.out.grown hgrow B_3.out.size (fun b e1 => HRG4.out b e1)
        have O_4 : Hid (Bk v4 g3 99 #[.int .i64 e.t, .int .i64 e.s, .int .i64 e.q, .int .i64 e.d, .int .i64 e.k, .int .i64 e.v, .int .i64 e.g]) := O_3.out.turns hgt (fun e1 => HNE4.out _ e1 rfl)
        have R_4 : Hid (v4.ownsRow w2.heap.size 99 7 (.slice aw4 (m1 + 1) cw4) (m1 + 1) ((cellsL (l.take k)) ++ e.cs)) := hown
        clear hown hgrow hnew hgt
        refine hK.out _ _ (keepE E_4.out) (fun hHeld => ?_)
        clear hK K
        try simp only [Act.put, List.setIfInBounds_toArray, List.set_cons_zero, List.set_cons_succ]
        refine wpAnyH_take (i := 8) (oi := { dst := some 6, op := Op.assign (Operand.tmp 29), type := 29, pos := _, after := _, guard := none }) (v := .slice aw4 (m1 + 1) cw4) rfl (by kernel_rfl) (by kernel_rfl) (by kernel_rfl) (fun _ _ _ h => h) (Or.inl ⟨by rfl, ?_⟩) (by assumption) ?_
        ·intro wX hSw
         try dsimp only at hSw
         go_simp
         try exact IntWalk.i64_in _ (by omega)
        try simp only [Act.put, List.setIfInBounds_toArray, List.set_cons_zero, List.set_cons_succ]
        refine wpAnyH_done (by kernel_rfl) ?_ _
        clear hHeld
        go_wp2_with (at_builtin; refine wpList_append_src _ rfl _ _ 29 rfl w2.heap.size 99 i0 (.agg #[.int .i64 0, .int .i64 0, .int .i64 0, .int .i64 0, .int .i64 0, .int .i64 0, .int .i64 0]) 7 56 Tryz.underlying29 hi hz0 hz1 hz2 rfl (by decide) (.slice aw4 (m1 + 1) cw4) ((m1 + 1)) (((cellsL (l.take k)) ++ e.cs)) rfl R_4.out (.slice au m2 cu) m2 (cellsL (l.drop k)) rfl (HS2.out.below (HB2.out.trans (B_4.out.mono hle2))) (cellsL_one _) (by unfold maxLen; omega) (by omega) B_4.out.size ?_; intro vn wn hown hgrow hnew)
        go_ret
        refine ⟨k, vn, rfl, HINS.out, OwnR.mono (show OwnR w2.heap.size _ _ _ from ?_) hle2, HB2.out.trans ((B_4.out.grown hgrow B_4.out.size (fun b e1 => row_ge R_4.out e1)).mono hle2)⟩
        have hlen : (l.take k ++ e :: l.drop k).length = (m1 + 1) + m2 := by rw [← HM.out.1, ← HM.out.2]; simp; omega
        unfold OwnR
        rw [hlen, cellsL_append]
        show World.ownsRow _ _ _ _ _ _ (cellsL (l.take k) ++ (e.cs ++ cellsL (l.drop k)))
        rw [← List.append_assoc]
        simpa using hown
     ·obtain ⟨g5, hg5⟩ : ∃ g, g = v1.heap.size := ⟨_, rfl⟩
      obtain ⟨v5, hv5⟩ : ∃ V, (v1.alloc (.cells #[.int .i64 e.t, .int .i64 e.s, .int .i64 e.q, .int .i64 e.d, .int .i64 e.k, .int .i64 e.v, .int .i64 e.g] 99)) = V := ⟨_, rfl⟩
      have HW5 : Hid ((v1.alloc (.cells #[.int .i64 e.t, .int .i64 e.s, .int .i64 e.q, .int .i64 e.d, .int .i64 e.k, .int .i64 e.v, .int .i64 e.g] 99)) = v5) := hv5
      have HG5 : Hid (g5 = v1.heap.size) := hg5
      have E_5 : Hid (Bk v5 w.heap.size 99 #[.int .i64 e.t, .int .i64 e.s, .int .i64 e.q, .int .i64 e.d, .int .i64 e.k, .int .i64 e.v, .int .i64 e.g]) := by (rw [← hv5]; exact E_1.out.alloc _)
      have B_5 : Hid (Below w2.heap.size w2 v5) := by (rw [← hv5]; exact B_1.out.alloc B_1.out.size _)
      have R_5 : Hid (v5.ownsRow w2.heap.size 99 7 (.slice (some ⟨g1, 0, none⟩) 0 0) 0 []) := by (rw [← hv5]; exact R_1.out.alloc _)
      have O_5 : Hid (Bk v5 g5 99 #[.int .i64 e.t, .int .i64 e.s, .int .i64 e.q, .int .i64 e.d, .int .i64 e.k, .int .i64 e.v, .int .i64 e.g]) := by (rw [← hv5, hg5]; exact Bk.new v1 _ _)
      have HNQ5 : Hid (∀ b, (.slice (some ⟨g1, 0, none⟩) 0 0 : Value).ownBlock = some b → b ≠ g5) := fun b hb e1 => by have := owns_lt R_1.out hb; have := hg5; simp at *; omega
      have hx5 : v1.heap.size ≤ g5 ∧ g5 ≤ v1.heap.size := by omega
      have hy5 : g5 < v5.heap.size := by (rw [← hv5, hg5]; exact (Bk.new v1 99 #[.int .i64 e.t, .int .i64 e.s, .int .i64 e.q, .int .i64 e.d, .int .i64 e.k, .int .i64 e.v, .int .i64 e.g]).lt)
      clear hv5 hg5
      go_simp
      rw [HW5.out, ← HG5.out]
      refine hK.out _ _ (keepE E_5.out) (fun hHeld => ?_)
      clear hK K
      try simp only [Act.put, List.setIfInBounds_toArray, List.set_cons_zero, List.set_cons_succ]
      refine wpAnyH_ready (rs := [4]) (by kernel_rfl) (by simp) ?_
      refine AllReadyH.cons (o := { dst := some 26, op := Op.call { callee := Callee.builtin Builtin.append, args := #[Operand.tmp 22, Operand.tmp 25], argTypes := #[29, 29] }, type := 29, pos := _, after := _, guard := none }) rfl (fun K hK => ?_) AllReadyH.nil
      ·refine step_append_src (w := v5) rfl (.tmp 22) (.tmp 25) 29 rfl w2.heap.size 99 i0 (.agg #[.int .i64 0, .int .i64 0, .int .i64 0, .int .i64 0, .int .i64 0, .int .i64 0, .int .i64 0]) 7 56 Tryz.underlying29 hi hz0 hz1 hz2 rfl (by decide) (.slice (some ⟨g1, 0, none⟩) 0 0) (0) ([]) rfl R_5.out (.slice av m1 cv) (m1) (cellsL (l.take k)) rfl (HS1.out.below (HB2.out.trans (B_5.out.mono hle2))) (cellsL_one _) (by unfold maxLen; omega) (by omega) B_5.out.size ?_
       intro vn6 v6 hown hgrow hnew
       rw [Nat.zero_add, List.nil_append] at hown
       obtain ⟨aw6, cw6, hvw⟩ := owns_slice hown
       subst hvw
       have hgt := grown_turns hgrow
       have hzz6 : v5.heap.size ≤ v6.heap.size := hgrow.size
       have HRG6 : Hid (∀ b, (.slice (some ⟨g1, 0, none⟩) 0 0 : Value).ownBlock = some b → w2.heap.size ≤ b) := fun b hb => row_ge R_5.out hb
       have HNE6 : Hid (∀ b, (.slice (some ⟨g1, 0, none⟩) 0 0 : Value).ownBlock = some b → b ≠ g5) := fun b hb e1 => HNQ5.out b hb e1
       have E_6 : Hid (Bk v6 w.heap.size 99 #[.int .i64 e.t, .int .i64 e.s, .int .i64 e.q, .int .i64 e.d, .int .i64 e.k, .int .i64 e.v, .int .i64 e.g]) := E_5.out.turns hgt (fun e1 => by have := HRG6.out _ e1; omega)
       have B_6 : Hid (Below w2.heap.size w2 v6) := B_5.out.grown hgrow B_5.out.size (fun b e1 => HRG6.out b e1)
       have O_6 : Hid (Bk v6 g5 99 #[.int .i64 e.t, .int .i64 e.s, .int .i64 e.q, .int .i64 e.d, .int .i64 e.k, .int .i64 e.v, .int .i64 e.g]) := O_5.out.turns hgt (fun e1 => HNE6.out _ e1 rfl)
       have R_6 : Hid (v6.ownsRow w2.heap.size 99 7 (.slice aw6 m1 cw6) m1 (cellsL (l.take k))) := hown
       have HNQ6 : Hid (∀ b, (Value.slice aw6 m1 cw6).ownBlock = some b → b ≠ g5) := fun b hb e1 => by rcases hnew with h9 | h9; exact HNE6.out b (h9 ▸ hb) e1; have := h9 b hb; have := O_6.out.lt; omega
       clear hown hgrow hnew hgt
       refine hK.out _ _ (keepE E_6.out) (fun hHeld => ?_)
       clear hK K
       try simp only [Act.put, List.setIfInBounds_toArray, List.set_cons_zero, List.set_cons_succ]
       refine wpAnyH_ready (rs := [7]) (by kernel_rfl) (by simp) ?_
       refine AllReadyH.cons (o := { dst := some 29, op := Op.call { callee := Callee.builtin Builtin.append, args := #[Operand.tmp 26, Operand.tmp 28], argTypes := #[29, 29] }, type := 29, pos := _, after := _, guard := none }) rfl (fun K hK => ?_) AllReadyH.nil
       ·refine step_append_src (w := v6) rfl (.tmp 26) (.tmp 28) 29 rfl w2.heap.size 99 i0 (.agg #[.int .i64 0, .int .i64 0, .int .i64 0, .int .i64 0, .int .i64 0, .int .i64 0, .int .i64 0]) 7 56 Tryz.underlying29 hi hz0 hz1 hz2 rfl (by decide) (.slice aw6 m1 cw6) (m1) ((cellsL (l.take k))) rfl R_6.out (.slice (some ⟨g5, 0, none⟩) 1 1) (1) e.cs rfl O_6.out.one (Ev.cs_one e) (by unfold maxLen; omega) (by omega) B_6.out.size ?_
        intro vn7 v7 hown hgrow hnew
        obtain ⟨aw7, cw7, hvw⟩ := owns_slice hown
        subst hvw
        have hgt := grown_turns hgrow
        have hzz7 : v6.heap.size ≤ v7.heap.size := hgrow.size
        have HRG7 : Hid (∀ b, (.slice aw6 m1 cw6 : Value).ownBlock = some b → w2.heap.size ≤ b) := fun b hb => row_ge R_6.out hb
        have HNE7 : Hid (∀ b, (.slice aw6 m1 cw6 : Value).ownBlock = some b → b ≠ g5) := fun b hb e1 => HNQ6.out b hb e1
        have E_7 : Hid (Bk v7 w.heap.size 99 #[.int .i64 e.t, .int .i64 e.s, .int .i64 e.q, .int .i64 e.d, .int .i64 e.k, .int .i64 e.v, .int .i64 e.g]) := E_6.out.turns hgt (fun e1 => by have := HRG7.out _ e1; omega)
        have B_7 : Hid (Below w2.heap.size w2 v7) := B_6.out.grown hgrow B_6.out.size (fun b e1 => HRG7.out b e1)
        have O_7 : Hid (Bk v7 g5 99 #[.int .i64 e.t, .int .i64 e.s, .int .i64 e.q, .int .i64 e.d, .int .i64 e.k, .int .i64 e.v, .int .i64 e.g]) := O_6.out.turns hgt (fun e1 => HNE7.out _ e1 rfl)
        have R_7 : Hid (v7.ownsRow w2.heap.size 99 7 (.slice aw7 (m1 + 1) cw7) (m1 + 1) ((cellsL (l.take k)) ++ e.cs)) := hown
        clear hown hgrow hnew hgt
        refine hK.out _ _ (keepE E_7.out) (fun hHeld => ?_)
        clear hK K
        try simp only [Act.put, List.setIfInBounds_toArray, List.set_cons_zero, List.set_cons_succ]
        refine wpAnyH_take (i := 8) (oi := { dst := some 6, op := Op.assign (Operand.tmp 29), type := 29, pos := _, after := _, guard := none }) (v := .slice aw7 (m1 + 1) cw7) rfl (by kernel_rfl) (by kernel_rfl) (by kernel_rfl) (fun _ _ _ h => h) (Or.inl ⟨by rfl, ?_⟩) (by assumption) ?_
        ·intro wX hSw
         try dsimp only at hSw
         go_simp
         try exact IntWalk.i64_in _ (by omega)
        try simp only [Act.put, List.setIfInBounds_toArray, List.set_cons_zero, List.set_cons_succ]
        refine wpAnyH_done (by kernel_rfl) ?_ _
        clear hHeld
        go_wp2_with (at_builtin; refine wpList_append_src _ rfl _ _ 29 rfl w2.heap.size 99 i0 (.agg #[.int .i64 0, .int .i64 0, .int .i64 0, .int .i64 0, .int .i64 0, .int .i64 0, .int .i64 0]) 7 56 Tryz.underlying29 hi hz0 hz1 hz2 rfl (by decide) (.slice aw7 (m1 + 1) cw7) ((m1 + 1)) (((cellsL (l.take k)) ++ e.cs)) rfl R_7.out (.slice au m2 cu) m2 (cellsL (l.drop k)) rfl (HS2.out.below (HB2.out.trans (B_7.out.mono hle2))) (cellsL_one _) (by unfold maxLen; omega) (by omega) B_7.out.size ?_; intro vn wn hown hgrow hnew)
        go_ret
        refine ⟨k, vn, rfl, HINS.out, OwnR.mono (show OwnR w2.heap.size _ _ _ from ?_) hle2, HB2.out.trans ((B_7.out.grown hgrow B_7.out.size (fun b e1 => row_ge R_7.out e1)).mono hle2)⟩
        have hlen : (l.take k ++ e :: l.drop k).length = (m1 + 1) + m2 := by rw [← HM.out.1, ← HM.out.2]; simp; omega
        unfold OwnR
        rw [hlen, cellsL_append]
        show World.ownsRow _ _ _ _ _ _ (cellsL (l.take k) ++ (e.cs ++ cellsL (l.drop k)))
        rw [← List.append_assoc]
        simpa using hown
    ·obtain ⟨g8, hg8⟩ : ∃ g, g = w2.heap.size := ⟨_, rfl⟩
     obtain ⟨v8, hv8⟩ : ∃ V, (w2.alloc (.cells #[.int .i64 e.t, .int .i64 e.s, .int .i64 e.q, .int .i64 e.d, .int .i64 e.k, .int .i64 e.v, .int .i64 e.g] 99)).drew = V := ⟨_, rfl⟩
     have HW8 : Hid ((w2.alloc (.cells #[.int .i64 e.t, .int .i64 e.s, .int .i64 e.q, .int .i64 e.d, .int .i64 e.k, .int .i64 e.v, .int .i64 e.g] 99)).drew = v8) := hv8
     have HG8 : Hid (g8 = w2.heap.size) := hg8
     have E_8 : Hid (Bk v8 w.heap.size 99 #[.int .i64 e.t, .int .i64 e.s, .int .i64 e.q, .int .i64 e.d, .int .i64 e.k, .int .i64 e.v, .int .i64 e.g]) := by (rw [← hv8]; exact E_0.out.alloc _)
     have B_8 : Hid (Below w2.heap.size w2 v8) := by (rw [← hv8]; exact B_0.out.alloc B_0.out.size _)
     have O_8 : Hid (Bk v8 g8 99 #[.int .i64 e.t, .int .i64 e.s, .int .i64 e.q, .int .i64 e.d, .int .i64 e.k, .int .i64 e.v, .int .i64 e.g]) := by (rw [← hv8, hg8]; exact Bk.new w2 _ _)
     have hx8 : w2.heap.size ≤ g8 ∧ g8 ≤ w2.heap.size := by omega
     have hy8 : g8 < v8.heap.size := by (rw [← hv8, hg8]; exact (Bk.new w2 99 #[.int .i64 e.t, .int .i64 e.s, .int .i64 e.q, .int .i64 e.d, .int .i64 e.k, .int .i64 e.v, .int .i64 e.g]).lt)
     clear hv8 hg8
     go_simp
     rw [HW8.out, ← HG8.out]
     refine hK.out _ _ (keepE E_8.out) (fun hHeld => ?_)
     clear hK K
     try simp only [Act.put, List.setIfInBounds_toArray, List.set_cons_zero, List.set_cons_succ]
     refine wpAnyH_ready (rs := [0]) (by kernel_rfl) (by simp) ?_
     refine AllReadyH.cons (o := { dst := some 22, op := Op.buildSlice 29 0 #[], type := 29, pos := _, after := _, guard := none }) rfl (fun K hK => ?_) AllReadyH.nil
     ·obtain ⟨g9, hg9⟩ : ∃ g, g = v8.heap.size := ⟨_, rfl⟩
      obtain ⟨v9, hv9⟩ : ∃ V, (v8.alloc (.cells #[] 99)) = V := ⟨_, rfl⟩
      have HW9 : Hid ((v8.alloc (.cells #[] 99)) = v9) := hv9
      have HG9 : Hid (g9 = v8.heap.size) := hg9
      have E_9 : Hid (Bk v9 w.heap.size 99 #[.int .i64 e.t, .int .i64 e.s, .int .i64 e.q, .int .i64 e.d, .int .i64 e.k, .int .i64 e.v, .int .i64 e.g]) := by (rw [← hv9]; exact E_8.out.alloc _)
      have B_9 : Hid (Below w2.heap.size w2 v9) := by (rw [← hv9]; exact B_8.out.alloc B_8.out.size _)
      have O_9 : Hid (Bk v9 g8 99 #[.int .i64 e.t, .int .i64 e.s, .int .i64 e.q, .int .i64 e.d, .int .i64 e.k, .int .i64 e.v, .int .i64 e.g]) := by (rw [← hv9]; exact O_8.out.alloc _)
      have R_9 : Hid (v9.ownsRow w2.heap.size 99 7 (.slice (some ⟨g9, 0, none⟩) 0 0) 0 []) := by (rw [← hv9, hg9]; exact owns_mono (row_empty v8) (B_8.out.size))
      have hx9 : v8.heap.size ≤ g9 ∧ g9 ≤ v8.heap.size := by omega
      have hy9 : g9 < v9.heap.size := by (rw [← hv9, hg9]; exact (Bk.new v8 99 #[]).lt)
      clear hv9 hg9
      go_simp
      rw [HW9.out, ← HG9.out]
      refine hK.out _ _ (keepE E_9.out) (fun hHeld => ?_)
      clear hK K
      try simp only [Act.put, List.setIfInBounds_toArray, List.set_cons_zero, List.set_cons_succ]
      refine wpAnyH_ready (rs := [4]) (by kernel_rfl) (by simp) ?_
      refine AllReadyH.cons (o := { dst := some 26, op := Op.call { callee := Callee.builtin Builtin.append, args := #[Operand.tmp 22, Operand.tmp 25], argTypes := #[29, 29] }, type := 29, pos := _, after := _, guard := none }) rfl (fun K hK => ?_) AllReadyH.nil
      ·refine step_append_src (w := v9) rfl (.tmp 22) (.tmp 25) 29 rfl w2.heap.size 99 i0 (.agg #[.int .i64 0, .int .i64 0, .int .i64 0, .int .i64 0, .int .i64 0, .int .i64 0, .int .i64 0]) 7 56 Tryz.underlying29 hi hz0 hz1 hz2 rfl (by decide) (.slice (some ⟨g9, 0, none⟩) 0 0) (0) ([]) rfl R_9.out (.slice av m1 cv) (m1) (cellsL (l.take k)) rfl (HS1.out.below (HB2.out.trans (B_9.out.mono hle2))) (cellsL_one _) (by unfold maxLen; omega) (by omega) B_9.out.size ?_
       intro vn10 v10 hown hgrow hnew
       rw [Nat.zero_add, List.nil_append] at hown
       obtain ⟨aw10, cw10, hvw⟩ := owns_slice hown
       subst hvw
       have hgt := grown_turns hgrow
       have hzz10 : v9.heap.size ≤ v10.heap.size := hgrow.size
       have HRG10 : Hid (∀ b, (.slice (some ⟨g9, 0, none⟩) 0 0 : Value).ownBlock = some b → w2.heap.size ≤ b) := fun b hb => row_ge R_9.out hb
       have HNE10 : Hid (∀ b, (.slice (some ⟨g9, 0, none⟩) 0 0 : Value).ownBlock = some b → b ≠ g8) := fun b hb e1 => by simp [Value.ownBlock] at hb; omega
       have E_10 : Hid (Bk v10 w.heap.size 99 #[.int .i64 e.t, .int .i64 e.s, .int .i64 e.q, .int .i64 e.d, .int .i64 e.k, .int .i64 e.v, .int .i64 e.g]) := E_9.out.turns hgt (fun e1 => by have := HRG10.out _ e1; omega)
       have B_10 : Hid (Below w2.heap.size w2 v10) := B_9.out.grown hgrow B_9.out.size (fun b e1 => HRG10.out b e1)
       have O_10 : Hid (Bk v10 g8 99 #[.int .i64 e.t, .int .i64 e.s, .int .i64 e.q, .int .i64 e.d, .int .i64 e.k, .int .i64 e.v, .int .i64 e.g]) := O_9.out.turns hgt (fun e1 => HNE10.out _ e1 rfl)
       have R_10 : Hid (v10.ownsRow w2.heap.size 99 7 (.slice aw10 m1 cw10) m1 (cellsL (l.take k))) := hown
       have HNQ10 : Hid (∀ b, (Value.slice aw10 m1 cw10).ownBlock = some b → b ≠ g8) := fun b hb e1 => by rcases hnew with h9 | h9; exact HNE10.out b (h9 ▸ hb) e1; have := h9 b hb; have := O_10.out.lt; omega
       clear hown hgrow hnew hgt
       refine hK.out _ _ (keepE E_10.out) (fun hHeld => ?_)
       clear hK K
       try simp only [Act.put, List.setIfInBounds_toArray, List.set_cons_zero, List.set_cons_succ]
       refine wpAnyH_ready (rs := [7]) (by kernel_rfl) (by simp) ?_
       refine AllReadyH.cons (o := { dst := some 29, op := Op.call { callee := Callee.builtin Builtin.append, args := #[Operand.tmp 26, Operand.tmp 28], argTypes := #[29, 29] }, type := 29, pos := _, after := _, guard := none }) rfl (fun K hK => ?_) AllReadyH.nil
       ·refine step_append_src (w := v10) rfl (.tmp 26) (.tmp 28) 29 rfl w2.heap.size 99 i0 (.agg #[.int .i64 0, .int .i64 0, .int .i64 0, .int .i64 0, .int .i64 0, .int .i64 0, .int .i64 0]) 7 56 Tryz.underlying29 hi hz0 hz1 hz2 rfl (by decide) (.slice aw10 m1 cw10) (m1) ((cellsL (l.take k))) rfl R_10.out (.slice (some ⟨g8, 0, none⟩) 1 1) (1) e.cs rfl O_10.out.one (Ev.cs_one e) (by unfold maxLen; omega) (by omega) B_10.out.size ?_
        intro vn11 v11 hown hgrow hnew
        obtain ⟨aw11, cw11, hvw⟩ := owns_slice hown
        subst hvw
        have hgt := grown_turns hgrow
        have hzz11 : v10.heap.size ≤ v11.heap.size := hgrow.size
        have HRG11 : Hid (∀ b, (.slice aw10 m1 cw10 : Value).ownBlock = some b → w2.heap.size ≤ b) := fun b hb => row_ge R_10.out hb
        have HNE11 : Hid (∀ b, (.slice aw10 m1 cw10 : Value).ownBlock = some b → b ≠ g8) := fun b hb e1 => HNQ10.out b hb e1
        have E_11 : Hid (Bk v11 w.heap.size 99 #[.int .i64 e.t, .int .i64 e.s, .int .i64 e.q, .int .i64 e.d, .int .i64 e.k, .int .i64 e.v, .int .i64 e.g]) := E_10.out.turns hgt (fun e1 => by have := HRG11.out _ e1; omega)
        have B_11 : Hid (Below w2.heap.size w2 v11) := B_10.out.grown hgrow B_10.out.size (fun b e1 => HRG11.out b e1)
        have O_11 : Hid (Bk v11 g8 99 #[.int .i64 e.t, .int .i64 e.s, .int .i64 e.q, .int .i64 e.d, .int .i64 e.k, .int .i64 e.v, .int .i64 e.g]) := O_10.out.turns hgt (fun e1 => HNE11.out _ e1 rfl)
        have R_11 : Hid (v11.ownsRow w2.heap.size 99 7 (.slice aw11 (m1 + 1) cw11) (m1 + 1) ((cellsL (l.take k)) ++ e.cs)) := hown
        clear hown hgrow hnew hgt
        refine hK.out _ _ (keepE E_11.out) (fun hHeld => ?_)
        clear hK K
        try simp only [Act.put, List.setIfInBounds_toArray, List.set_cons_zero, List.set_cons_succ]
        refine wpAnyH_take (i := 8) (oi := { dst := some 6, op := Op.assign (Operand.tmp 29), type := 29, pos := _, after := _, guard := none }) (v := .slice aw11 (m1 + 1) cw11) rfl (by kernel_rfl) (by kernel_rfl) (by kernel_rfl) (fun _ _ _ h => h) (Or.inl ⟨by rfl, ?_⟩) (by assumption) ?_
        ·intro wX hSw
         try dsimp only at hSw
         go_simp
         try exact IntWalk.i64_in _ (by omega)
        try simp only [Act.put, List.setIfInBounds_toArray, List.set_cons_zero, List.set_cons_succ]
        refine wpAnyH_done (by kernel_rfl) ?_ _
        clear hHeld
        go_wp2_with (at_builtin; refine wpList_append_src _ rfl _ _ 29 rfl w2.heap.size 99 i0 (.agg #[.int .i64 0, .int .i64 0, .int .i64 0, .int .i64 0, .int .i64 0, .int .i64 0, .int .i64 0]) 7 56 Tryz.underlying29 hi hz0 hz1 hz2 rfl (by decide) (.slice aw11 (m1 + 1) cw11) ((m1 + 1)) (((cellsL (l.take k)) ++ e.cs)) rfl R_11.out (.slice au m2 cu) m2 (cellsL (l.drop k)) rfl (HS2.out.below (HB2.out.trans (B_11.out.mono hle2))) (cellsL_one _) (by unfold maxLen; omega) (by omega) B_11.out.size ?_; intro vn wn hown hgrow hnew)
        go_ret
        refine ⟨k, vn, rfl, HINS.out, OwnR.mono (show OwnR w2.heap.size _ _ _ from ?_) hle2, HB2.out.trans ((B_11.out.grown hgrow B_11.out.size (fun b e1 => row_ge R_11.out e1)).mono hle2)⟩
        have hlen : (l.take k ++ e :: l.drop k).length = (m1 + 1) + m2 := by rw [← HM.out.1, ← HM.out.2]; simp; omega
        unfold OwnR
        rw [hlen, cellsL_append]
        show World.ownsRow _ _ _ _ _ _ (cellsL (l.take k) ++ (e.cs ++ cellsL (l.drop k)))
        rw [← List.append_assoc]
        simpa using hown
  ·have hd : decide (k < l.length) = false := by simp; omega
   have hd2 : ¬ ((k : Int) < (l.length : Int)) := by omega
   go_wp2_with fail
   refine wp_region_beyond (by kernel_rfl) (by kernel_rfl) ?_
   repeat (go_big_quiet_step (fail))
   refine wpQuiet_nil ?_
   rintro w2 ⟨⟨_, hb2⟩, rfl⟩
   go_wp2
   have HB2 : Hid (Below w.heap.size w w2) := HBw.out.trans (hb2.mono HBw.out.size)
   have HE2 : Hid (Bk w2 w.heap.size 99 #[.int .i64 e.t, .int .i64 e.s, .int .i64 e.q, .int .i64 e.d, .int .i64 e.k, .int .i64 e.v, .int .i64 e.g]) := HE.out.below hb2
   have hle2 : w.heap.size ≤ w2.heap.size := HB2.out.size
   have hlt2 : w.heap.size < w2.heap.size := HE2.out.lt
   clear hb2 HB HE HBw hne
   have hk8 : (k : Int) ≤ (l.length : Int) := by omega
   obtain ⟨V, hV⟩ : ∃ V, sliced a 0 k cap 7 = V := ⟨_, rfl⟩
   have hVD : IsEvs w V (l.take k) := hV ▸ evs_take HI.out hk
   have hsl : ∀ w : World, (Instr.sliceAt 29 (.slice a l.length cap) none (some (.int .i64 (k : Int))) none).run Tryz.prog w = .ok V w := fun w => hV ▸ run_cutToE _ _ _ _ (by omega) w
   obtain ⟨U, hU⟩ : ∃ U, sliced a k l.length cap 7 = U := ⟨_, rfl⟩
   have hUD : IsEvs w U (l.drop k) := hU ▸ evs_drop HI.out hk
   have hsl2 : ∀ w : World, (Instr.sliceAt 29 (.slice a l.length cap) (some (.int .i64 (k : Int))) none none).run Tryz.prog w = .ok U w := fun w => hU ▸ run_cutFromE _ _ _ _ hk w
   have hs1 := SrcC.ofEvs hVD
   have hs2 := SrcC.ofEvs hUD
   obtain ⟨av, cv, rfl, _⟩ := hVD
   obtain ⟨au, cu, rfl, _⟩ := hUD
   obtain ⟨m1, hm1⟩ : ∃ m, (l.take k).length = m := ⟨_, rfl⟩
   obtain ⟨m2, hm2⟩ : ∃ m, (l.drop k).length = m := ⟨_, rfl⟩
   have HM : Hid ((l.take k).length = m1 ∧ (l.drop k).length = m2) := ⟨hm1, hm2⟩
   have hm9 : m1 + m2 ≤ 1048577 := by rw [← hm1, ← hm2]; simp; omega
   rw [hm1] at hsl
   rw [hm2] at hsl2
   have HS1 : Hid (SrcC w (.slice av m1 cv) 7 m1 (cellsL (l.take k))) := by rw [hm1] at hs1; exact hs1
   have HS2 : Hid (SrcC w (.slice au m2 cu) 7 m2 (cellsL (l.drop k))) := by rw [hm2] at hs2; exact hs2
   have HINS : Hid (InsAt l e k) := ⟨hk, HJ.out, fun h => absurd h hlt⟩
   clear hs1 hs2 hV hU hm1 hm2 HI HC HJ
   go_wp2_with fail
   have E_0 : Hid (Bk w2.drew w.heap.size 99 #[.int .i64 e.t, .int .i64 e.s, .int .i64 e.q, .int .i64 e.d, .int .i64 e.k, .int .i64 e.v, .int .i64 e.g]) := HE2.out.drew
   have B_0 : Hid (Below w2.heap.size w2 w2.drew) := (Below.refl _ w2).drew
   refine wp_region_held_drew (S := fun W => W.cell? ⟨w.heap.size, 0, none⟩ = some (.int .i64 e.t) ∧ W.cell? ⟨w.heap.size, 1, none⟩ = some (.int .i64 e.s) ∧ W.cell? ⟨w.heap.size, 2, none⟩ = some (.int .i64 e.q) ∧ W.cell? ⟨w.heap.size, 3, none⟩ = some (.int .i64 e.d) ∧ W.cell? ⟨w.heap.size, 4, none⟩ = some (.int .i64 e.k) ∧ W.cell? ⟨w.heap.size, 5, none⟩ = some (.int .i64 e.v) ∧ W.cell? ⟨w.heap.size, 6, none⟩ = some (.int .i64 e.g)) (by kernel_rfl) (keepE HE2.out.drew) (fun hHeld => ?_)
   refine wpAnyH_take (i := 1) (oi := { dst := some 23, op := Op.move (Operand.tmp 0), type := 29, pos := _, after := _, guard := none }) (v := .slice a l.length cap) rfl (by kernel_rfl) (by kernel_rfl) (by kernel_rfl) (fun _ _ _ h => h) (Or.inl ⟨by rfl, ?_⟩) (by assumption) ?_
   ·intro wX hSw
    try dsimp only at hSw
    go_simp
    try exact IntWalk.i64_in _ (by omega)
   try simp only [Act.put, List.setIfInBounds_toArray, List.set_cons_zero, List.set_cons_succ]
   refine wpAnyH_take (i := 2) (oi := { dst := some 24, op := Op.move (Operand.tmp 5), type := 3, pos := _, after := _, guard := none }) (v := .int .i64 (k : Int)) rfl (by kernel_rfl) (by kernel_rfl) (by kernel_rfl) (fun _ _ _ h => h) (Or.inl ⟨by rfl, ?_⟩) (by assumption) ?_
   ·intro wX hSw
    try dsimp only at hSw
    go_simp
    try exact IntWalk.i64_in _ (by omega)
   try simp only [Act.put, List.setIfInBounds_toArray, List.set_cons_zero, List.set_cons_succ]
   refine wpAnyH_take (i := 5) (oi := { dst := some 27, op := Op.load 99 (Operand.tmp 3), type := 99, pos := _, after := _, guard := none }) (v := .agg #[.int .i64 e.t, .int .i64 e.s, .int .i64 e.q, .int .i64 e.d, .int .i64 e.k, .int .i64 e.v, .int .i64 e.g]) rfl (by kernel_rfl) (by kernel_rfl) (by kernel_rfl) (fun _ _ _ h => h) (Or.inl ⟨by rfl, ?_⟩) (by assumption) ?_
   ·intro wX hSw
    try dsimp only at hSw
    go_simp
    try exact IntWalk.i64_in _ (by omega)
   try simp only [Act.put, List.setIfInBounds_toArray, List.set_cons_zero, List.set_cons_succ]
   refine wpAnyH_take (i := 3) (oi := { dst := some 25, op := Op.slice 29 (Operand.tmp 23) none (some (Operand.tmp 24)) none, type := 29, pos := _, after := _, guard := none }) (v := .slice av m1 cv) rfl (by kernel_rfl) (by kernel_rfl) (by kernel_rfl) (fun _ _ _ h => h) (Or.inl ⟨by rfl, ?_⟩) (by assumption) ?_
   ·intro wX hSw
    try dsimp only at hSw
    go_simp
    try exact IntWalk.i64_in _ (by omega)
   try simp only [Act.put, List.setIfInBounds_toArray, List.set_cons_zero, List.set_cons_succ]
   refine wpAnyH_ready (rs := [0, 6]) (by kernel_rfl) (by simp) ?_
   refine AllReadyH.cons (o := { dst := some 22, op := Op.buildSlice 29 0 #[], type := 29, pos := _, after := _, guard := none }) rfl (fun K hK => ?_) (AllReadyH.cons (o := { dst := some 28, op := Op.buildSlice 29 1 #[(0, Operand.tmp 27)], type := 29, pos := _, after := _, guard := none }) rfl (fun K hK => ?_) AllReadyH.nil)
   ·obtain ⟨g1, hg1⟩ : ∃ g, g = w2.heap.size := ⟨_, rfl⟩
    obtain ⟨v1, hv1⟩ : ∃ V, (w2.alloc (.cells #[] 99)).drew = V := ⟨_, rfl⟩
    have HW1 : Hid ((w2.alloc (.cells #[] 99)).drew = v1) := hv1
    have HG1 : Hid (g1 = w2.heap.size) := hg1
    have E_1 : Hid (Bk v1 w.heap.size 99 #[.int .i64 e.t, .int .i64 e.s, .int .i64 e.q, .int .i64 e.d, .int .i64 e.k, .int .i64 e.v, .int .i64 e.g]) := by (rw [← hv1]; exact E_0.out.alloc _)
    have B_1 : Hid (Below w2.heap.size w2 v1) := by (rw [← hv1]; exact B_0.out.alloc B_0.out.size _)
    have R_1 : Hid (v1.ownsRow w2.heap.size 99 7 (.slice (some ⟨g1, 0, none⟩) 0 0) 0 []) := by (rw [← hv1, hg1]; exact owns_mono (row_empty w2) (B_0.out.size))
    have hx1 : w2.heap.size ≤ g1 ∧ g1 ≤ w2.heap.size := by omega
    have hy1 : g1 < v1.heap.size := by (rw [← hv1, hg1]; exact (Bk.new w2 99 #[]).lt)
    clear hv1 hg1
    go_simp
    rw [HW1.out, ← HG1.out]
    refine hK.out _ _ (keepE E_1.out) (fun hHeld => ?_)
    clear hK K
    try simp only [Act.put, List.setIfInBounds_toArray, List.set_cons_zero, List.set_cons_succ]
    refine wpAnyH_ready (rs := [4, 6]) (by kernel_rfl) (by simp) ?_
    refine AllReadyH.cons (o := { dst := some 26, op := Op.call { callee := Callee.builtin Builtin.append, args := #[Operand.tmp 22, Operand.tmp 25], argTypes := #[29, 29] }, type := 29, pos := _, after := _, guard := none }) rfl (fun K hK => ?_) (AllReadyH.cons (o := { dst := some 28, op := Op.buildSlice 29 1 #[(0, Operand.tmp 27)], type := 29, pos := _, after := _, guard := none }) rfl (fun K hK => ?_) AllReadyH.nil)
    ·refine step_append_src (w := v1) rfl (.tmp 22) (.tmp 25) 29 rfl w2.heap.size 99 i0 (.agg #[.int .i64 0, .int .i64 0, .int .i64 0, .int .i64 0, .int .i64 0, .int .i64 0, .int .i64 0]) 7 56 Tryz.underlying29 hi hz0 hz1 hz2 rfl (by decide) (.slice (some ⟨g1, 0, none⟩) 0 0) (0) ([]) rfl R_1.out (.slice av m1 cv) (m1) (cellsL (l.take k)) rfl (HS1.out.below (HB2.out.trans (B_1.out.mono hle2))) (cellsL_one _) (by unfold maxLen; omega) (by omega) B_1.out.size ?_
     intro vn2 v2 hown hgrow hnew
     rw [Nat.zero_add, List.nil_append] at hown
     obtain ⟨aw2, cw2, hvw⟩ := owns_slice hown
     subst hvw
     have hgt := grown_turns hgrow
     have hzz2 : v1.heap.size ≤ v2.heap.size := hgrow.size
     have HRG2 : Hid (∀ b, (.slice (some ⟨g1, 0, none⟩) 0 0 : Value).ownBlock = some b → w2.heap.size ≤ b) := fun b hb => row_ge R_1.out hb
     have E_2 : Hid (Bk v2 w.heap.size 99 #[.int .i64 e.t, .int .i64 e.s, .int .i64 e.q, .int .i64 e.d, .int .i64 e.k, .int .i64 e.v, .int .i64 e.g]) := E_1.out.turns hgt (fun e1 => by have := HRG2.out _ e1; omega)
     have B_2 : Hid (Below w2.heap.size w2 v2) := B_1.out.grown hgrow B_1.out.size (fun b e1 => HRG2.out b e1)
     have R_2 : Hid (v2.ownsRow w2.heap.size 99 7 (.slice aw2 m1 cw2) m1 (cellsL (l.take k))) := hown
     clear hown hgrow hnew hgt
     refine hK.out _ _ (keepE E_2.out) (fun hHeld => ?_)
     clear hK K
     try simp only [Act.put, List.setIfInBounds_toArray, List.set_cons_zero, List.set_cons_succ]
     refine wpAnyH_ready (rs := [6]) (by kernel_rfl) (by simp) ?_
     refine AllReadyH.cons (o := { dst := some 28, op := Op.buildSlice 29 1 #[(0, Operand.tmp 27)], type := 29, pos := _, after := _, guard := none }) rfl (fun K hK => ?_) AllReadyH.nil
     ·obtain ⟨g3, hg3⟩ : ∃ g, g = v2.heap.size := ⟨_, rfl⟩
      obtain ⟨v3, hv3⟩ : ∃ V, (v2.alloc (.cells #[.int .i64 e.t, .int .i64 e.s, .int .i64 e.q, .int .i64 e.d, .int .i64 e.k, .int .i64 e.v, .int .i64 e.g] 99)) = V := ⟨_, rfl⟩
      have HW3 : Hid ((v2.alloc (.cells #[.int .i64 e.t, .int .i64 e.s, .int .i64 e.q, .int .i64 e.d, .int .i64 e.k, .int .i64 e.v, .int .i64 e.g] 99)) = v3) := hv3
      have HG3 : Hid (g3 = v2.heap.size) := hg3
      have E_3 : Hid (Bk v3 w.heap.size 99 #[.int .i64 e.t, .int .i64 e.s, .int .i64 e.q, .int .i64 e.d, .int .i64 e.k, .int .i64 e.v, .int .i64 e.g]) := by (rw [← hv3]; exact E_2.out.alloc _)
      have B_3 : Hid (Below w2.heap.size w2 v3) := by (rw [← hv3]; exact B_2.out.alloc B_2.out.size _)
      have R_3 : Hid (v3.ownsRow w2.heap.size 99 7 (.slice aw2 m1 cw2) m1 (cellsL (l.take k))) := by (rw [← hv3]; exact R_2.out.alloc _)
      have O_3 : Hid (Bk v3 g3 99 #[.int .i64 e.t, .int .i64 e.s, .int .i64 e.q, .int .i64 e.d, .int .i64 e.k, .int .i64 e.v, .int .i64 e.g]) := by (rw [← hv3, hg3]; exact Bk.new v2 _ _)
      have HNQ3 : Hid (∀ b, (.slice aw2 m1 cw2 : Value).ownBlock = some b → b ≠ g3) := fun b hb e1 => by have := owns_lt R_2.out hb; have := hg3; simp at *; omega
      have hx3 : v2.heap.size ≤ g3 ∧ g3 ≤ v2.heap.size := by omega
      have hy3 : g3 < v3.heap.size := by (rw [← hv3, hg3]; exact (Bk.new v2 99 #[.int .i64 e.t, .int .i64 e.s, .int .i64 e.q, .int .i64 e.d, .int .i64 e.k, .int .i64 e.v, .int .i64 e.g]).lt)
      clear hv3 hg3
      go_simp
      rw [HW3.out, ← HG3.out]
      refine hK.out _ _ (keepE E_3.out) (fun hHeld => ?_)
      clear hK K
      try simp only [Act.put, List.setIfInBounds_toArray, List.set_cons_zero, List.set_cons_succ]
      refine wpAnyH_ready (rs := [7]) (by kernel_rfl) (by simp) ?_
      refine AllReadyH.cons (o := { dst := some 29, op := Op.call { callee := Callee.builtin Builtin.append, args := #[Operand.tmp 26, Operand.tmp 28], argTypes := #[29, 29] }, type := 29, pos := _, after := _, guard := none }) rfl (fun K hK => ?_) AllReadyH.nil
      ·refine step_append_src (w := v3) rfl (.tmp 26) (.tmp 28) 29 rfl w2.heap.size 99 i0 (.agg #[.int .i64 0, .int .i64 0, .int .i64 0, .int .i64 0, .int .i64 0, .int .i64 0, .int .i64 0]) 7 56 Tryz.underlying29 hi hz0 hz1 hz2 rfl (by decide) (.slice aw2 m1 cw2) (m1) ((cellsL (l.take k))) rfl R_3.out (.slice (some ⟨g3, 0, none⟩) 1 1) (1) e.cs rfl O_3.out.one (Ev.cs_one e) (by unfold maxLen; omega) (by omega) B_3.out.size ?_
       intro vn4 v4 hown hgrow hnew
       obtain ⟨aw4, cw4, hvw⟩ := owns_slice hown
       subst hvw
       have hgt := grown_turns hgrow
       have hzz4 : v3.heap.size ≤ v4.heap.size := hgrow.size
       have HRG4 : Hid (∀ b, (.slice aw2 m1 cw2 : Value).ownBlock = some b → w2.heap.size ≤ b) := fun b hb => row_ge R_3.out hb
       have HNE4 : Hid (∀ b, (.slice aw2 m1 cw2 : Value).ownBlock = some b → b ≠ g3) := fun b hb e1 => HNQ3.out b hb e1
       have E_4 : Hid (Bk v4 w.heap.size 99 #[.int .i64 e.t, .int .i64 e.s, .int .i64 e.q, .int .i64 e.d, .int .i64 e.k, .int .i64 e.v, .int .i64 e.g]) := E_3.out.turns hgt (fun e1 => by have := HRG4.out _ e1; omega)
       have B_4 : Hid (Below w2.heap.size w2 v4) := B_3.out.grown hgrow B_3.out.size (fun b e1 => HRG4.out b e1)
       have O_4 : Hid (Bk v4 g3 99 #[.int .i64 e.t, .int .i64 e.s, .int .i64 e.q, .int .i64 e.d, .int .i64 e.k, .int .i64 e.v, .int .i64 e.g]) := O_3.out.turns hgt (fun e1 => HNE4.out _ e1 rfl)
       have R_4 : Hid (v4.ownsRow w2.heap.size 99 7 (.slice aw4 (m1 + 1) cw4) (m1 + 1) ((cellsL (l.take k)) ++ e.cs)) := hown
       clear hown hgrow hnew hgt
       refine hK.out _ _ (keepE E_4.out) (fun hHeld => ?_)
       clear hK K
       try simp only [Act.put, List.setIfInBounds_toArray, List.set_cons_zero, List.set_cons_succ]
       refine wpAnyH_take (i := 8) (oi := { dst := some 6, op := Op.assign (Operand.tmp 29), type := 29, pos := _, after := _, guard := none }) (v := .slice aw4 (m1 + 1) cw4) rfl (by kernel_rfl) (by kernel_rfl) (by kernel_rfl) (fun _ _ _ h => h) (Or.inl ⟨by rfl, ?_⟩) (by assumption) ?_
       ·intro wX hSw
        try dsimp only at hSw
        go_simp
        try exact IntWalk.i64_in _ (by omega)
       try simp only [Act.put, List.setIfInBounds_toArray, List.set_cons_zero, List.set_cons_succ]
       refine wpAnyH_done (by kernel_rfl) ?_ _
       clear hHeld
       go_wp2_with (at_builtin; refine wpList_append_src _ rfl _ _ 29 rfl w2.heap.size 99 i0 (.agg #[.int .i64 0, .int .i64 0, .int .i64 0, .int .i64 0, .int .i64 0, .int .i64 0, .int .i64 0]) 7 56 Tryz.underlying29 hi hz0 hz1 hz2 rfl (by decide) (.slice aw4 (m1 + 1) cw4) ((m1 + 1)) (((cellsL (l.take k)) ++ e.cs)) rfl R_4.out (.slice au m2 cu) m2 (cellsL (l.drop k)) rfl (HS2.out.below (HB2.out.trans (B_4.out.mono hle2))) (cellsL_one _) (by unfold maxLen; omega) (by omega) B_4.out.size ?_; intro vn wn hown hgrow hnew)
       go_ret
       refine ⟨k, vn, rfl, HINS.out, OwnR.mono (show OwnR w2.heap.size _ _ _ from ?_) hle2, HB2.out.trans ((B_4.out.grown hgrow B_4.out.size (fun b e1 => row_ge R_4.out e1)).mono hle2)⟩
       have hlen : (l.take k ++ e :: l.drop k).length = (m1 + 1) + m2 := by rw [← HM.out.1, ← HM.out.2]; simp; omega
       unfold OwnR
       rw [hlen, cellsL_append]
       show World.ownsRow _ _ _ _ _ _ (cellsL (l.take k) ++ (e.cs ++ cellsL (l.drop k)))
       rw [← List.append_assoc]
       simpa using hown
    ·obtain ⟨g5, hg5⟩ : ∃ g, g = v1.heap.size := ⟨_, rfl⟩
     obtain ⟨v5, hv5⟩ : ∃ V, (v1.alloc (.cells #[.int .i64 e.t, .int .i64 e.s, .int .i64 e.q, .int .i64 e.d, .int .i64 e.k, .int .i64 e.v, .int .i64 e.g] 99)) = V := ⟨_, rfl⟩
     have HW5 : Hid ((v1.alloc (.cells #[.int .i64 e.t, .int .i64 e.s, .int .i64 e.q, .int .i64 e.d, .int .i64 e.k, .int .i64 e.v, .int .i64 e.g] 99)) = v5) := hv5
     have HG5 : Hid (g5 = v1.heap.size) := hg5
     have E_5 : Hid (Bk v5 w.heap.size 99 #[.int .i64 e.t, .int .i64 e.s, .int .i64 e.q, .int .i64 e.d, .int .i64 e.k, .int .i64 e.v, .int .i64 e.g]) := by (rw [← hv5]; exact E_1.out.alloc _)
     have B_5 : Hid (Below w2.heap.size w2 v5) := by (rw [← hv5]; exact B_1.out.alloc B_1.out.size _)
     have R_5 : Hid (v5.ownsRow w2.heap.size 99 7 (.slice (some ⟨g1, 0, none⟩) 0 0) 0 []) := by (rw [← hv5]; exact R_1.out.alloc _)
     have O_5 : Hid (Bk v5 g5 99 #[.int .i64 e.t, .int .i64 e.s, .int .i64 e.q, .int .i64 e.d, .int .i64 e.k, .int .i64 e.v, .int .i64 e.g]) := by (rw [← hv5, hg5]; exact Bk.new v1 _ _)
     have HNQ5 : Hid (∀ b, (.slice (some ⟨g1, 0, none⟩) 0 0 : Value).ownBlock = some b → b ≠ g5) := fun b hb e1 => by have := owns_lt R_1.out hb; have := hg5; simp at *; omega
     have hx5 : v1.heap.size ≤ g5 ∧ g5 ≤ v1.heap.size := by omega
     have hy5 : g5 < v5.heap.size := by (rw [← hv5, hg5]; exact (Bk.new v1 99 #[.int .i64 e.t, .int .i64 e.s, .int .i64 e.q, .int .i64 e.d, .int .i64 e.k, .int .i64 e.v, .int .i64 e.g]).lt)
     clear hv5 hg5
     go_simp
     rw [HW5.out, ← HG5.out]
     refine hK.out _ _ (keepE E_5.out) (fun hHeld => ?_)
     clear hK K
     try simp only [Act.put, List.setIfInBounds_toArray, List.set_cons_zero, List.set_cons_succ]
     refine wpAnyH_ready (rs := [4]) (by kernel_rfl) (by simp) ?_
     refine AllReadyH.cons (o := { dst := some 26, op := Op.call { callee := Callee.builtin Builtin.append, args := #[Operand.tmp 22, Operand.tmp 25], argTypes := #[29, 29] }, type := 29, pos := _, after := _, guard := none }) rfl (fun K hK => ?_) AllReadyH.nil
     ·refine step_append_src (w := v5) rfl (.tmp 22) (.tmp 25) 29 rfl w2.heap.size 99 i0 (.agg #[.int .i64 0, .int .i64 0, .int .i64 0, .int .i64 0, .int .i64 0, .int .i64 0, .int .i64 0]) 7 56 Tryz.underlying29 hi hz0 hz1 hz2 rfl (by decide) (.slice (some ⟨g1, 0, none⟩) 0 0) (0) ([]) rfl R_5.out (.slice av m1 cv) (m1) (cellsL (l.take k)) rfl (HS1.out.below (HB2.out.trans (B_5.out.mono hle2))) (cellsL_one _) (by unfold maxLen; omega) (by omega) B_5.out.size ?_
      intro vn6 v6 hown hgrow hnew
      rw [Nat.zero_add, List.nil_append] at hown
      obtain ⟨aw6, cw6, hvw⟩ := owns_slice hown
      subst hvw
      have hgt := grown_turns hgrow
      have hzz6 : v5.heap.size ≤ v6.heap.size := hgrow.size
      have HRG6 : Hid (∀ b, (.slice (some ⟨g1, 0, none⟩) 0 0 : Value).ownBlock = some b → w2.heap.size ≤ b) := fun b hb => row_ge R_5.out hb
      have HNE6 : Hid (∀ b, (.slice (some ⟨g1, 0, none⟩) 0 0 : Value).ownBlock = some b → b ≠ g5) := fun b hb e1 => HNQ5.out b hb e1
      have E_6 : Hid (Bk v6 w.heap.size 99 #[.int .i64 e.t, .int .i64 e.s, .int .i64 e.q, .int .i64 e.d, .int .i64 e.k, .int .i64 e.v, .int .i64 e.g]) := E_5.out.turns hgt (fun e1 => by have := HRG6.out _ e1; omega)
      have B_6 : Hid (Below w2.heap.size w2 v6) := B_5.out.grown hgrow B_5.out.size (fun b e1 => HRG6.out b e1)
      have O_6 : Hid (Bk v6 g5 99 #[.int .i64 e.t, .int .i64 e.s, .int .i64 e.q, .int .i64 e.d, .int .i64 e.k, .int .i64 e.v, .int .i64 e.g]) := O_5.out.turns hgt (fun e1 => HNE6.out _ e1 rfl)
      have R_6 : Hid (v6.ownsRow w2.heap.size 99 7 (.slice aw6 m1 cw6) m1 (cellsL (l.take k))) := hown
      have HNQ6 : Hid (∀ b, (Value.slice aw6 m1 cw6).ownBlock = some b → b ≠ g5) := fun b hb e1 => by rcases hnew with h9 | h9; exact HNE6.out b (h9 ▸ hb) e1; have := h9 b hb; have := O_6.out.lt; omega
      clear hown hgrow hnew hgt
      refine hK.out _ _ (keepE E_6.out) (fun hHeld => ?_)
      clear hK K
      try simp only [Act.put, List.setIfInBounds_toArray, List.set_cons_zero, List.set_cons_succ]
      refine wpAnyH_ready (rs := [7]) (by kernel_rfl) (by simp) ?_
      refine AllReadyH.cons (o := { dst := some 29, op := Op.call { callee := Callee.builtin Builtin.append, args := #[Operand.tmp 26, Operand.tmp 28], argTypes := #[29, 29] }, type := 29, pos := _, after := _, guard := none }) rfl (fun K hK => ?_) AllReadyH.nil
      ·refine step_append_src (w := v6) rfl (.tmp 26) (.tmp 28) 29 rfl w2.heap.size 99 i0 (.agg #[.int .i64 0, .int .i64 0, .int .i64 0, .int .i64 0, .int .i64 0, .int .i64 0, .int .i64 0]) 7 56 Tryz.underlying29 hi hz0 hz1 hz2 rfl (by decide) (.slice aw6 m1 cw6) (m1) ((cellsL (l.take k))) rfl R_6.out (.slice (some ⟨g5, 0, none⟩) 1 1) (1) e.cs rfl O_6.out.one (Ev.cs_one e) (by unfold maxLen; omega) (by omega) B_6.out.size ?_
       intro vn7 v7 hown hgrow hnew
       obtain ⟨aw7, cw7, hvw⟩ := owns_slice hown
       subst hvw
       have hgt := grown_turns hgrow
       have hzz7 : v6.heap.size ≤ v7.heap.size := hgrow.size
       have HRG7 : Hid (∀ b, (.slice aw6 m1 cw6 : Value).ownBlock = some b → w2.heap.size ≤ b) := fun b hb => row_ge R_6.out hb
       have HNE7 : Hid (∀ b, (.slice aw6 m1 cw6 : Value).ownBlock = some b → b ≠ g5) := fun b hb e1 => HNQ6.out b hb e1
       have E_7 : Hid (Bk v7 w.heap.size 99 #[.int .i64 e.t, .int .i64 e.s, .int .i64 e.q, .int .i64 e.d, .int .i64 e.k, .int .i64 e.v, .int .i64 e.g]) := E_6.out.turns hgt (fun e1 => by have := HRG7.out _ e1; omega)
       have B_7 : Hid (Below w2.heap.size w2 v7) := B_6.out.grown hgrow B_6.out.size (fun b e1 => HRG7.out b e1)
       have O_7 : Hid (Bk v7 g5 99 #[.int .i64 e.t, .int .i64 e.s, .int .i64 e.q, .int .i64 e.d, .int .i64 e.k, .int .i64 e.v, .int .i64 e.g]) := O_6.out.turns hgt (fun e1 => HNE7.out _ e1 rfl)
       have R_7 : Hid (v7.ownsRow w2.heap.size 99 7 (.slice aw7 (m1 + 1) cw7) (m1 + 1) ((cellsL (l.take k)) ++ e.cs)) := hown
       clear hown hgrow hnew hgt
       refine hK.out _ _ (keepE E_7.out) (fun hHeld => ?_)
       clear hK K
       try simp only [Act.put, List.setIfInBounds_toArray, List.set_cons_zero, List.set_cons_succ]
       refine wpAnyH_take (i := 8) (oi := { dst := some 6, op := Op.assign (Operand.tmp 29), type := 29, pos := _, after := _, guard := none }) (v := .slice aw7 (m1 + 1) cw7) rfl (by kernel_rfl) (by kernel_rfl) (by kernel_rfl) (fun _ _ _ h => h) (Or.inl ⟨by rfl, ?_⟩) (by assumption) ?_
       ·intro wX hSw
        try dsimp only at hSw
        go_simp
        try exact IntWalk.i64_in _ (by omega)
       try simp only [Act.put, List.setIfInBounds_toArray, List.set_cons_zero, List.set_cons_succ]
       refine wpAnyH_done (by kernel_rfl) ?_ _
       clear hHeld
       go_wp2_with (at_builtin; refine wpList_append_src _ rfl _ _ 29 rfl w2.heap.size 99 i0 (.agg #[.int .i64 0, .int .i64 0, .int .i64 0, .int .i64 0, .int .i64 0, .int .i64 0, .int .i64 0]) 7 56 Tryz.underlying29 hi hz0 hz1 hz2 rfl (by decide) (.slice aw7 (m1 + 1) cw7) ((m1 + 1)) (((cellsL (l.take k)) ++ e.cs)) rfl R_7.out (.slice au m2 cu) m2 (cellsL (l.drop k)) rfl (HS2.out.below (HB2.out.trans (B_7.out.mono hle2))) (cellsL_one _) (by unfold maxLen; omega) (by omega) B_7.out.size ?_; intro vn wn hown hgrow hnew)
       go_ret
       refine ⟨k, vn, rfl, HINS.out, OwnR.mono (show OwnR w2.heap.size _ _ _ from ?_) hle2, HB2.out.trans ((B_7.out.grown hgrow B_7.out.size (fun b e1 => row_ge R_7.out e1)).mono hle2)⟩
       have hlen : (l.take k ++ e :: l.drop k).length = (m1 + 1) + m2 := by rw [← HM.out.1, ← HM.out.2]; simp; omega
       unfold OwnR
       rw [hlen, cellsL_append]
       show World.ownsRow _ _ _ _ _ _ (cellsL (l.take k) ++ (e.cs ++ cellsL (l.drop k)))
       rw [← List.append_assoc]
       simpa using hown
   ·obtain ⟨g8, hg8⟩ : ∃ g, g = w2.heap.size := ⟨_, rfl⟩
    obtain ⟨v8, hv8⟩ : ∃ V, (w2.alloc (.cells #[.int .i64 e.t, .int .i64 e.s, .int .i64 e.q, .int .i64 e.d, .int .i64 e.k, .int .i64 e.v, .int .i64 e.g] 99)).drew = V := ⟨_, rfl⟩
    have HW8 : Hid ((w2.alloc (.cells #[.int .i64 e.t, .int .i64 e.s, .int .i64 e.q, .int .i64 e.d, .int .i64 e.k, .int .i64 e.v, .int .i64 e.g] 99)).drew = v8) := hv8
    have HG8 : Hid (g8 = w2.heap.size) := hg8
    have E_8 : Hid (Bk v8 w.heap.size 99 #[.int .i64 e.t, .int .i64 e.s, .int .i64 e.q, .int .i64 e.d, .int .i64 e.k, .int .i64 e.v, .int .i64 e.g]) := by (rw [← hv8]; exact E_0.out.alloc _)
    have B_8 : Hid (Below w2.heap.size w2 v8) := by (rw [← hv8]; exact B_0.out.alloc B_0.out.size _)
    have O_8 : Hid (Bk v8 g8 99 #[.int .i64 e.t, .int .i64 e.s, .int .i64 e.q, .int .i64 e.d, .int .i64 e.k, .int .i64 e.v, .int .i64 e.g]) := by (rw [← hv8, hg8]; exact Bk.new w2 _ _)
    have hx8 : w2.heap.size ≤ g8 ∧ g8 ≤ w2.heap.size := by omega
    have hy8 : g8 < v8.heap.size := by (rw [← hv8, hg8]; exact (Bk.new w2 99 #[.int .i64 e.t, .int .i64 e.s, .int .i64 e.q, .int .i64 e.d, .int .i64 e.k, .int .i64 e.v, .int .i64 e.g]).lt)
    clear hv8 hg8
    go_simp
    rw [HW8.out, ← HG8.out]
    refine hK.out _ _ (keepE E_8.out) (fun hHeld => ?_)
    clear hK K
    try simp only [Act.put, List.setIfInBounds_toArray, List.set_cons_zero, List.set_cons_succ]
    refine wpAnyH_ready (rs := [0]) (by kernel_rfl) (by simp) ?_
    refine AllReadyH.cons (o := { dst := some 22, op := Op.buildSlice 29 0 #[], type := 29, pos := _, after := _, guard := none }) rfl (fun K hK => ?_) AllReadyH.nil
    ·obtain ⟨g9, hg9⟩ : ∃ g, g = v8.heap.size := ⟨_, rfl⟩
     obtain ⟨v9, hv9⟩ : ∃ V, (v8.alloc (.cells #[] 99)) = V := ⟨_, rfl⟩
     have HW9 : Hid ((v8.alloc (.cells #[] 99)) = v9) := hv9
     have HG9 : Hid (g9 = v8.heap.size) := hg9
     have E_9 : Hid (Bk v9 w.heap.size 99 #[.int .i64 e.t, .int .i64 e.s, .int .i64 e.q, .int .i64 e.d, .int .i64 e.k, .int .i64 e.v, .int .i64 e.g]) := by (rw [← hv9]; exact E_8.out.alloc _)
     have B_9 : Hid (Below w2.heap.size w2 v9) := by (rw [← hv9]; exact B_8.out.alloc B_8.out.size _)
     have O_9 : Hid (Bk v9 g8 99 #[.int .i64 e.t, .int .i64 e.s, .int .i64 e.q, .int .i64 e.d, .int .i64 e.k, .int .i64 e.v, .int .i64 e.g]) := by (rw [← hv9]; exact O_8.out.alloc _)
     have R_9 : Hid (v9.ownsRow w2.heap.size 99 7 (.slice (some ⟨g9, 0, none⟩) 0 0) 0 []) := by (rw [← hv9, hg9]; exact owns_mono (row_empty v8) (B_8.out.size))
     have hx9 : v8.heap.size ≤ g9 ∧ g9 ≤ v8.heap.size := by omega
     have hy9 : g9 < v9.heap.size := by (rw [← hv9, hg9]; exact (Bk.new v8 99 #[]).lt)
     clear hv9 hg9
     go_simp
     rw [HW9.out, ← HG9.out]
     refine hK.out _ _ (keepE E_9.out) (fun hHeld => ?_)
     clear hK K
     try simp only [Act.put, List.setIfInBounds_toArray, List.set_cons_zero, List.set_cons_succ]
     refine wpAnyH_ready (rs := [4]) (by kernel_rfl) (by simp) ?_
     refine AllReadyH.cons (o := { dst := some 26, op := Op.call { callee := Callee.builtin Builtin.append, args := #[Operand.tmp 22, Operand.tmp 25], argTypes := #[29, 29] }, type := 29, pos := _, after := _, guard := none }) rfl (fun K hK => ?_) AllReadyH.nil
     ·refine step_append_src (w := v9) rfl (.tmp 22) (.tmp 25) 29 rfl w2.heap.size 99 i0 (.agg #[.int .i64 0, .int .i64 0, .int .i64 0, .int .i64 0, .int .i64 0, .int .i64 0, .int .i64 0]) 7 56 Tryz.underlying29 hi hz0 hz1 hz2 rfl (by decide) (.slice (some ⟨g9, 0, none⟩) 0 0) (0) ([]) rfl R_9.out (.slice av m1 cv) (m1) (cellsL (l.take k)) rfl (HS1.out.below (HB2.out.trans (B_9.out.mono hle2))) (cellsL_one _) (by unfold maxLen; omega) (by omega) B_9.out.size ?_
      intro vn10 v10 hown hgrow hnew
      rw [Nat.zero_add, List.nil_append] at hown
      obtain ⟨aw10, cw10, hvw⟩ := owns_slice hown
      subst hvw
      have hgt := grown_turns hgrow
      have hzz10 : v9.heap.size ≤ v10.heap.size := hgrow.size
      have HRG10 : Hid (∀ b, (.slice (some ⟨g9, 0, none⟩) 0 0 : Value).ownBlock = some b → w2.heap.size ≤ b) := fun b hb => row_ge R_9.out hb
      have HNE10 : Hid (∀ b, (.slice (some ⟨g9, 0, none⟩) 0 0 : Value).ownBlock = some b → b ≠ g8) := fun b hb e1 => by simp [Value.ownBlock] at hb; omega
      have E_10 : Hid (Bk v10 w.heap.size 99 #[.int .i64 e.t, .int .i64 e.s, .int .i64 e.q, .int .i64 e.d, .int .i64 e.k, .int .i64 e.v, .int .i64 e.g]) := E_9.out.turns hgt (fun e1 => by have := HRG10.out _ e1; omega)
      have B_10 : Hid (Below w2.heap.size w2 v10) := B_9.out.grown hgrow B_9.out.size (fun b e1 => HRG10.out b e1)
      have O_10 : Hid (Bk v10 g8 99 #[.int .i64 e.t, .int .i64 e.s, .int .i64 e.q, .int .i64 e.d, .int .i64 e.k, .int .i64 e.v, .int .i64 e.g]) := O_9.out.turns hgt (fun e1 => HNE10.out _ e1 rfl)
      have R_10 : Hid (v10.ownsRow w2.heap.size 99 7 (.slice aw10 m1 cw10) m1 (cellsL (l.take k))) := hown
      have HNQ10 : Hid (∀ b, (Value.slice aw10 m1 cw10).ownBlock = some b → b ≠ g8) := fun b hb e1 => by rcases hnew with h9 | h9; exact HNE10.out b (h9 ▸ hb) e1; have := h9 b hb; have := O_10.out.lt; omega
      clear hown hgrow hnew hgt
      refine hK.out _ _ (keepE E_10.out) (fun hHeld => ?_)
      clear hK K
      try simp only [Act.put, List.setIfInBounds_toArray, List.set_cons_zero, List.set_cons_succ]
      refine wpAnyH_ready (rs := [7]) (by kernel_rfl) (by simp) ?_
      refine AllReadyH.cons (o := { dst := some 29, op := Op.call { callee := Callee.builtin Builtin.append, args := #[Operand.tmp 26, Operand.tmp 28], argTypes := #[29, 29] }, type := 29, pos := _, after := _, guard := none }) rfl (fun K hK => ?_) AllReadyH.nil
      ·refine step_append_src (w := v10) rfl (.tmp 26) (.tmp 28) 29 rfl w2.heap.size 99 i0 (.agg #[.int .i64 0, .int .i64 0, .int .i64 0, .int .i64 0, .int .i64 0, .int .i64 0, .int .i64 0]) 7 56 Tryz.underlying29 hi hz0 hz1 hz2 rfl (by decide) (.slice aw10 m1 cw10) (m1) ((cellsL (l.take k))) rfl R_10.out (.slice (some ⟨g8, 0, none⟩) 1 1) (1) e.cs rfl O_10.out.one (Ev.cs_one e) (by unfold maxLen; omega) (by omega) B_10.out.size ?_
       intro vn11 v11 hown hgrow hnew
       obtain ⟨aw11, cw11, hvw⟩ := owns_slice hown
       subst hvw
       have hgt := grown_turns hgrow
       have hzz11 : v10.heap.size ≤ v11.heap.size := hgrow.size
       have HRG11 : Hid (∀ b, (.slice aw10 m1 cw10 : Value).ownBlock = some b → w2.heap.size ≤ b) := fun b hb => row_ge R_10.out hb
       have HNE11 : Hid (∀ b, (.slice aw10 m1 cw10 : Value).ownBlock = some b → b ≠ g8) := fun b hb e1 => HNQ10.out b hb e1
       have E_11 : Hid (Bk v11 w.heap.size 99 #[.int .i64 e.t, .int .i64 e.s, .int .i64 e.q, .int .i64 e.d, .int .i64 e.k, .int .i64 e.v, .int .i64 e.g]) := E_10.out.turns hgt (fun e1 => by have := HRG11.out _ e1; omega)
       have B_11 : Hid (Below w2.heap.size w2 v11) := B_10.out.grown hgrow B_10.out.size (fun b e1 => HRG11.out b e1)
       have O_11 : Hid (Bk v11 g8 99 #[.int .i64 e.t, .int .i64 e.s, .int .i64 e.q, .int .i64 e.d, .int .i64 e.k, .int .i64 e.v, .int .i64 e.g]) := O_10.out.turns hgt (fun e1 => HNE11.out _ e1 rfl)
       have R_11 : Hid (v11.ownsRow w2.heap.size 99 7 (.slice aw11 (m1 + 1) cw11) (m1 + 1) ((cellsL (l.take k)) ++ e.cs)) := hown
       clear hown hgrow hnew hgt
       refine hK.out _ _ (keepE E_11.out) (fun hHeld => ?_)
       clear hK K
       try simp only [Act.put, List.setIfInBounds_toArray, List.set_cons_zero, List.set_cons_succ]
       refine wpAnyH_take (i := 8) (oi := { dst := some 6, op := Op.assign (Operand.tmp 29), type := 29, pos := _, after := _, guard := none }) (v := .slice aw11 (m1 + 1) cw11) rfl (by kernel_rfl) (by kernel_rfl) (by kernel_rfl) (fun _ _ _ h => h) (Or.inl ⟨by rfl, ?_⟩) (by assumption) ?_
       ·intro wX hSw
        try dsimp only at hSw
        go_simp
        try exact IntWalk.i64_in _ (by omega)
       try simp only [Act.put, List.setIfInBounds_toArray, List.set_cons_zero, List.set_cons_succ]
       refine wpAnyH_done (by kernel_rfl) ?_ _
       clear hHeld
       go_wp2_with (at_builtin; refine wpList_append_src _ rfl _ _ 29 rfl w2.heap.size 99 i0 (.agg #[.int .i64 0, .int .i64 0, .int .i64 0, .int .i64 0, .int .i64 0, .int .i64 0, .int .i64 0]) 7 56 Tryz.underlying29 hi hz0 hz1 hz2 rfl (by decide) (.slice aw11 (m1 + 1) cw11) ((m1 + 1)) (((cellsL (l.take k)) ++ e.cs)) rfl R_11.out (.slice au m2 cu) m2 (cellsL (l.drop k)) rfl (HS2.out.below (HB2.out.trans (B_11.out.mono hle2))) (cellsL_one _) (by unfold maxLen; omega) (by omega) B_11.out.size ?_; intro vn wn hown hgrow hnew)
       go_ret
       refine ⟨k, vn, rfl, HINS.out, OwnR.mono (show OwnR w2.heap.size _ _ _ from ?_) hle2, HB2.out.trans ((B_11.out.grown hgrow B_11.out.size (fun b e1 => row_ge R_11.out e1)).mono hle2)⟩
       have hlen : (l.take k ++ e :: l.drop k).length = (m1 + 1) + m2 := by rw [← HM.out.1, ← HM.out.2]; simp; omega
       unfold OwnR
       rw [hlen, cellsL_append]
       show World.ownsRow _ _ _ _ _ _ (cellsL (l.take k) ++ (e.cs ++ cellsL (l.drop k)))
       rw [← List.append_assoc]
       simpa using hown
end Go.Proofs.YthfhibnnkpbeiaaGreat
