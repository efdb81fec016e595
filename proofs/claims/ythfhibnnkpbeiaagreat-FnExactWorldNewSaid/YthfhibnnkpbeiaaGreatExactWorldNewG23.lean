/- InsG, Each -/
import Derived.Test.YthfhibnnkpbeiaaGreatExactWorldNewLInsD
import Derived.Test.YthfhibnnkpbeiaaGreatExactWorldNewLPOwn
import Derived.Laws.Slices
import Derived.Test.YthfhibnnkpbeiaaGreatExactWorldNewG16
import Derived.Test.YthfhibnnkpbeiaaGreatExactWorldNewG01
import Derived.RangeFuncNested
import Derived.RangeFuncBound
import Derived.RangeFuncCalls
import Derived.RangeFuncLeaves
import Derived.RangeFuncBox
import Derived.Shelf.Abstract
import Derived.Shelf.RegionOpen
import Derived.OwnWalkIn
import Derived.TacticsInMore
import Derived.LoopNIn
import Derived.LoopIn
/- The specification's l1insert, on any list of events. -/
namespace Go.Proofs.YthfhibnnkpbeiaaGreat
open Go.RowKit
theorem thInsG {P : Program} {md : Region.Mode} {ops : Array Oper} {Q : Exit → Act → World → Prop} {S : World → Prop} {fuel : Nat} {listed : Array Bool} {a : Act} {w : World} (i : Nat) (oi : Oper) (v : Value)
 (h : wpAnyH P md ops Q S fuel (listed.setIfInBounds i true) (a.put oi.dst v) w) (hi : ops[i]? = some oi := by rfl)
 (hs : Region.noSelect ops = true := by kernel_rfl) (hf : Region.free md ops listed i = true := by kernel_rfl) (hr : (Region.ready md ops listed).contains i = true := by kernel_rfl)
 (hQ : ∀ c a w, Q (.panic c) (a.put oi.dst v) w → Q (.panic c) a w := by exact fun _ _ _ h => h)
 (hy : YieldsIf P ops S oi v a := by exact Or.inl ⟨by rfl, by (intro wX hSw; (try dsimp only at hSw); go_simp; (try exact IntWalk.i64_in _ (by omega)))⟩) (hS : S w := by assumption) : wpAnyH P md ops Q S (fuel + 1) listed a w :=
 wpAnyH_take hi hs hf hr hQ hy hS h
theorem hidInsG {p : Prop} (h : p) : Hid p := h
theorem SrcC.ofEvs {w : World} {x : Value} {l : List Ev} (h : IsEvs w x l) : SrcC w x 7 l.length (cellsL l) := h.isD.srcEv
theorem evs_take {w : World} {a : Option Addr} {cap k : Nat} {l : List Ev} (h : IsEvs w (.slice a l.length cap) l) (hk : k ≤ l.length) : IsEvs w (sliced a 0 k cap 7) (l.take k) := by
 obtain ⟨a', cap', he, h1, h2, h⟩ := h
 obtain ⟨rfl, rfl⟩ : a = a' ∧ cap = cap' := by simpa using he
 unfold sliced
 have hl : (l.take k).length = k := by simp; omega
 rw [show k - 0 = (l.take k).length from by omega]
 by_cases hn : k = 0
 ·exact ⟨_, _, rfl, by omega, by omega, .inl (by subst hn; simp)⟩
 ·obtain ⟨b, off, rfl, hc⟩ := h.resolve_left (fun e => by subst e; simp at hk; omega)
  rw [if_neg (by omega)]
  refine ⟨_, _, rfl, by omega, by omega, .inr ⟨b, off, by simp [Addr.add_lit], hc.1, fun i hi => ?_⟩⟩
  have e : evAt (l.take k) i = evAt l i := by
   unfold evAt
   rw [List.getD_eq_getElem?_getD, List.getD_eq_getElem?_getD, List.getElem?_take_of_lt (by omega)]
  rw [e]
  exact hc.2 i (by omega)
theorem evs_drop {w : World} {a : Option Addr} {cap k : Nat} {l : List Ev} (h : IsEvs w (.slice a l.length cap) l) (hk : k ≤ l.length) : IsEvs w (sliced a k l.length cap 7) (l.drop k) := by
 obtain ⟨a', cap', he, h1, h2, h⟩ := h
 obtain ⟨rfl, rfl⟩ : a = a' ∧ cap = cap' := by simpa using he
 unfold sliced
 have hl : (l.drop k).length = l.length - k := by simp
 rw [show l.length - k = (l.drop k).length from by omega]
 by_cases hn : k = l.length
 ·exact ⟨_, _, rfl, by omega, by omega, .inl (by subst hn; simp)⟩
 ·obtain ⟨b, off, rfl, hc⟩ := h.resolve_left (fun e => by subst e; simp at hk hn; omega)
  rw [if_neg (by omega)]
  refine ⟨_, _, rfl, by omega, by omega, .inr ⟨b, off + k * 7, by simp [Addr.add_lit], hc.1, fun i hi => ?_⟩⟩
  rw [evAt_drop, show off + k * 7 + i * 7 = off + (k + i) * 7 from by omega]
  exact hc.2 (k + i) (by omega)
theorem infoEvE : (Tryz.prog.info? 99).map (fun i => (i.zero, i.size, i.bytes)) = some (some (.agg #[.int .i64 0, .int .i64 0, .int .i64 0, .int .i64 0, .int .i64 0, .int .i64 0, .int .i64 0]), 7, 56) := by kernel_rfl
theorem run_cutToE (a : Option Addr) (n cap k : Nat) (hk : k ≤ cap) (w : World) : (Instr.sliceAt 29 (.slice a n cap) none (some (.int .i64 (k : Int))) none).run Tryz.prog w = .ok (sliced a 0 k cap 7) w := by
 obtain ⟨i0, hi, hz0, hz1, hz2⟩ := info_parts infoEvE
 have hu : Tryz.prog.underlying 29 = some (.slice (Tryz.prog.elem 29)) := by kernel_rfl
 have he : Tryz.prog.elem 29 = 99 := by kernel_rfl
 rw [run_sliceAt_slice (h := hu), run_slice_h (ht := hu) (h0 := by omega) (h2 := by omega), he]
 simp [sizeOf, typeInfo, hi, hz1]
theorem run_cutFromE (a : Option Addr) (n cap k : Nat) (hk : k ≤ n) (w : World) : (Instr.sliceAt 29 (.slice a n cap) (some (.int .i64 (k : Int))) none none).run Tryz.prog w = .ok (sliced a k n cap 7) w := by
 obtain ⟨i0, hi, hz0, hz1, hz2⟩ := info_parts infoEvE
 have hu : Tryz.prog.underlying 29 = some (.slice (Tryz.prog.elem 29)) := by kernel_rfl
 have he : Tryz.prog.elem 29 = 99 := by kernel_rfl
 rw [run_sliceAt_slice (h := hu), run_slice_l (ht := hu) (h0 := by omega) (h1 := by omega), he]
 simp [sizeOf, typeInfo, hi, hz1]
theorem Bk.one {w : World} {g : Nat} {e : Ev} (h : Bk w g 99 #[.int .i64 e.t, .int .i64 e.s, .int .i64 e.q, .int .i64 e.d, .int .i64 e.k, .int .i64 e.v, .int .i64 e.g]) : SrcC w (.slice (some ⟨g, 0, none⟩) 1 1) 7 1 e.cs := by
 refine ⟨rfl, _, _, rfl, .inr ⟨g, 0, rfl, h.lt, fun j hj => ?_⟩⟩
 rw [Nat.zero_add]
 have : j = 0 ∨ j = 1 ∨ j = 2 ∨ j = 3 ∨ j = 4 ∨ j = 5 ∨ j = 6 := by omega
 rcases this with rfl | rfl | rfl | rfl | rfl | rfl | rfl <;> exact h.cell rfl
theorem keepE {W : World} {b : Nat} {e : Ev} (h : Bk W b 99 #[.int .i64 e.t, .int .i64 e.s, .int .i64 e.q, .int .i64 e.d, .int .i64 e.k, .int .i64 e.v, .int .i64 e.g]) : W.cell? ⟨b, 0, none⟩ = some (.int .i64 e.t) ∧ W.cell? ⟨b, 1, none⟩ = some (.int .i64 e.s) ∧ W.cell? ⟨b, 2, none⟩ = some (.int .i64 e.q) ∧ W.cell? ⟨b, 3, none⟩ = some (.int .i64 e.d) ∧ W.cell? ⟨b, 4, none⟩ = some (.int .i64 e.k) ∧ W.cell? ⟨b, 5, none⟩ = some (.int .i64 e.v) ∧ W.cell? ⟨b, 6, none⟩ = some (.int .i64 e.g) := ⟨h.cell rfl, h.cell rfl, h.cell rfl, h.cell rfl, h.cell rfl, h.cell rfl, h.cell rfl⟩
set_option maxRecDepth 100000 in
set_option maxHeartbeats 16000000 in
theorem insert_any (x : Value) (l : List Ev) (e : Ev) (w : World) (hl : l.length ≤ 1048577) (h : IsEvs w x l) :
  Calls Tryz.prog 95 #[x, e.val] w fun r w' => ∃ p x, r = .returned x ∧ InsAt l e p ∧ OwnR w.heap.size w' x (l.take p ++ e :: l.drop p) ∧ Below w.heap.size w w' := by
 obtain ⟨i0, hi, hz0, hz1, hz2⟩ := info_parts infoEvE
 have HI : Hid (IsEvs w x l) := h
 obtain ⟨a, cap, rfl, hcap, hmax, h⟩ := h
 have hmax2 : cap ≤ 9223372036854775807 := by unfold maxLen at hmax; omega
 obtain ⟨W0, hW0⟩ : ∃ W0, w.alloc (.cells #[.int .i64 e.t, .int .i64 e.s, .int .i64 e.q, .int .i64 e.d, .int .i64 e.k, .int .i64 e.v, .int .i64 e.g] 99) = W0 := ⟨_, rfl⟩
 have HE0 : Hid (Bk W0 w.heap.size 99 #[.int .i64 e.t, .int .i64 e.s, .int .i64 e.q, .int .i64 e.d, .int .i64 e.k, .int .i64 e.v, .int .i64 e.g]) := by rw [← hW0]; exact Bk.new _ _ _
 have HB0 : Hid (Below w.heap.size w W0) := by rw [← hW0]; exact (Below.refl _ w).alloc (Nat.le_refl _) _
 have hs0 : W0.heap.size ≤ w.heap.size + 1 ∧ w.heap.size + 1 ≤ W0.heap.size := by rw [← hW0]; simp
 have HC := hidInsG h
 clear h hmax
 go_enter Tryz.func95, Tryz.ntmps95
 go_wp2
 clear hW0
 go_loopw [5] (fun i wr => ∃ k : Nat, k ≤ l.length ∧ i = .int .i64 k ∧ Hid (Below W0.heap.size W0 wr) ∧ Hid (∀ j, j < k → (evAt l j).cmp e < 0)) (fun i _ => l.length - (intOf i).toNat)
 case atStart => exact ⟨0, Nat.zero_le _, rfl, Below.refl _ _, fun j hj => by omega⟩
 case round =>
  obtain ⟨k, hk, rfl, HB, HJ⟩ := hrel
  have hsz : W0.heap.size ≤ wr.heap.size := HB.out.size
  have hne : Nonempty (Beyond wr) := ⟨⟨wr, Below.refl _ _⟩⟩
  have HBw := hidInsG (HB0.out.trans (HB.out.mono (by omega)))
  have HE := hidInsG (HE0.out.below HB.out)
  by_cases hlt : k < l.length
  ·have hd : decide (k < l.length) = true := by simpa using hlt
   have hkn : (k : Int) < (l.length : Int) := by omega
   obtain ⟨b, off, rfl, hI⟩ := HC.out.resolve_left (fun e1 => by subst e1; simp at hlt)
   have HIw : Hid (EvsAt wr b off l) := hI.below HBw.out hI.1
   clear hI
   obtain ⟨f0, f1, f2, f3, f4, f5, f6⟩ := (HIw.out.2 k hlt).beyond HIw.out.1
   have g0 := HE.out.beyond (i := 0) rfl
   have g1 := HE.out.beyond (i := 1) rfl
   have g2 := HE.out.beyond (i := 2) rfl
   have g3 := HE.out.beyond (i := 3) rfl
   have g4 := HE.out.beyond (i := 4) rfl
   have g5 := HE.out.beyond (i := 5) rfl
   have g6 := HE.out.beyond (i := 6) rfl
   generalize hz : (evAt l k).cmp e = z
   have HZ := hidInsG hz
   clear hz
   by_cases hzl : z < 0
   ·have hdz : decide (z < 0) = true := by simpa using hzl
    go_wp2_with fail
    refine wp_region_beyond (by kernel_rfl) (by kernel_rfl) ?_
    repeat (go_big_quiet_step (first | (go_at_call 112; exact Beyond.of (l1cmp_ev (evAt l k) e z HZ.out _))))
    refine wpQuiet_nil ?_
    rintro w2 ⟨⟨_, hb2⟩, rfl⟩
    clear f0 f1 f2 f3 f4 f5 f6 g0 g1 g2 g3 g4 g5 g6
    go_wp2
    go_roundw
    case rel => exact ⟨k + 1, by omega, by go_num, HB.out.trans (hb2.mono hsz), fun j hj => by
     by_cases ej : j = k
     ·subst ej; rw [HZ.out]; exact hzl
     ·exact HJ.out j (by omega)⟩
    case measure => simp [intOf]; omega
   ·have hdz : decide (z < 0) = false := by simpa using hzl
    go_wp2_with fail
    refine wp_region_beyond (by kernel_rfl) (by kernel_rfl) ?_
    repeat (go_big_quiet_step (first | (go_at_call 112; exact Beyond.of (l1cmp_ev (evAt l k) e z HZ.out _))))
    refine wpQuiet_nil ?_
    rintro w2 ⟨⟨_, hb2⟩, rfl⟩
    clear f0 f1 f2 f3 f4 f5 f6 g0 g1 g2 g3 g4 g5 g6
    go_wp2
    have HB2 := hidInsG (HBw.out.trans (hb2.mono HBw.out.size))
    have HE2 := hidInsG (HE.out.below hb2)
    have hle2 : w.heap.size ≤ w2.heap.size := HB2.out.size
    have hlt2 : w.heap.size < w2.heap.size := HE2.out.lt
    clear hb2 HB HE HBw hne
    have hk8 : (k : Int) ≤ (l.length : Int) := by omega
    obtain ⟨V, hV⟩ : ∃ V, sliced (some ⟨b, off, none⟩) 0 k cap 7 = V := ⟨_, rfl⟩
    have hVD : IsEvs w V (l.take k) := hV ▸ evs_take HI.out hk
    have hsl : ∀ w : World, (Instr.sliceAt 29 (.slice (some ⟨b, off, none⟩) l.length cap) none (some (.int .i64 (k : Int))) none).run Tryz.prog w = .ok V w := fun w => hV ▸ run_cutToE _ _ _ _ (by omega) w
    obtain ⟨U, hU⟩ : ∃ U, sliced (some ⟨b, off, none⟩) k l.length cap 7 = U := ⟨_, rfl⟩
    have hUD : IsEvs w U (l.drop k) := hU ▸ evs_drop HI.out hk
    have hsl2 : ∀ w : World, (Instr.sliceAt 29 (.slice (some ⟨b, off, none⟩) l.length cap) (some (.int .i64 (k : Int))) none none).run Tryz.prog w = .ok U w := fun w => hU ▸ run_cutFromE _ _ _ _ hk w
    have hs1 := SrcC.ofEvs hVD
    have hs2 := SrcC.ofEvs hUD
    obtain ⟨av, cv, rfl, _⟩ := hVD
    obtain ⟨au, cu, rfl, _⟩ := hUD
    obtain ⟨m1, hm1⟩ : ∃ m, (l.take k).length = m := ⟨_, rfl⟩
    obtain ⟨m2, hm2⟩ : ∃ m, (l.drop k).length = m := ⟨_, rfl⟩
    have HM : Hid ((l.take k).length = m1 ∧ (l.drop k).length = m2) := ⟨hm1, hm2⟩
    have hm9 : m1 + m2 ≤ 1048577 := by rw [← hm1, ← hm2]; simp; omega
    rw [hm1] at hsl
    rw [hm2] at hsl2
    have HS1 : Hid (SrcC w (.slice av m1 cv) 7 m1 (cellsL (l.take k))) := by rw [hm1] at hs1; exact hs1
    have HS2 : Hid (SrcC w (.slice au m2 cu) 7 m2 (cellsL (l.drop k))) := by rw [hm2] at hs2; exact hs2
    have HINS : Hid (InsAt l e k) := ⟨hk, HJ.out, fun _ => by rw [HZ.out]; omega⟩
    clear hs1 hs2 hV hU hm1 hm2 HI HC HJ
    go_wp2_with fail
    have E_0 := hidInsG HE2.out.drew
    have B_0 : Hid (Below w2.heap.size w2 w2.drew) := (Below.refl _ w2).drew
    refine wp_region_held_drew (S := fun W => W.cell? ⟨w.heap.size, 0, none⟩ = some (.int .i64 e.t) ∧ W.cell? ⟨w.heap.size, 1, none⟩ = some (.int .i64 e.s) ∧ W.cell? ⟨w.heap.size, 2, none⟩ = some (.int .i64 e.q) ∧ W.cell? ⟨w.heap.size, 3, none⟩ = some (.int .i64 e.d) ∧ W.cell? ⟨w.heap.size, 4, none⟩ = some (.int .i64 e.k) ∧ W.cell? ⟨w.heap.size, 5, none⟩ = some (.int .i64 e.v) ∧ W.cell? ⟨w.heap.size, 6, none⟩ = some (.int .i64 e.g)) (by kernel_rfl) (keepE HE2.out.drew) (fun hHeld => ?_)
    refine thInsG 1 { dst := some 23, op := Op.move (Operand.tmp 0), type := 29, pos := _, after := _, guard := none } (.slice (some ⟨b, off, none⟩) l.length cap) ?_
    try simp only [Act.put, List.setIfInBounds_toArray, List.set_cons_zero, List.set_cons_succ]
    refine thInsG 2 { dst := some 24, op := Op.move (Operand.tmp 5), type := 3, pos := _, after := _, guard := none } (.int .i64 (k : Int)) ?_
    try simp only [Act.put, List.setIfInBounds_toArray, List.set_cons_zero, List.set_cons_succ]
    refine thInsG 5 { dst := some 27, op := Op.load 99 (Operand.tmp 3), type := 99, pos := _, after := _, guard := none } (.agg #[.int .i64 e.t, .int .i64 e.s, .int .i64 e.q, .int .i64 e.d, .int .i64 e.k, .int .i64 e.v, .int .i64 e.g]) ?_
    try simp only [Act.put, List.setIfInBounds_toArray, List.set_cons_zero, List.set_cons_succ]
    refine thInsG 3 { dst := some 25, op := Op.slice 29 (Operand.tmp 23) none (some (Operand.tmp 24)) none, type := 29, pos := _, after := _, guard := none } (.slice av m1 cv) ?_
    try simp only [Act.put, List.setIfInBounds_toArray, List.set_cons_zero, List.set_cons_succ]
    refine wpAnyH_ready (rs := [0, 6]) (by kernel_rfl) (by simp) ?_
    refine AllReadyH.cons (o := { dst := some 22, op := Op.buildSlice 29 0 #[], type := 29, pos := _, after := _, guard := none }) rfl (fun K hK => ?_) (AllReadyH.cons (o := { dst := some 28, op := Op.buildSlice 29 1 #[(0, Operand.tmp 27)], type := 29, pos := _, after := _, guard := none }) rfl (fun K hK => ?_) AllReadyH.nil)
    ·obtain ⟨g1, hg1⟩ : ∃ g, g = w2.heap.size := ⟨_, rfl⟩
     obtain ⟨v1, hv1⟩ : ∃ V, (w2.alloc (.cells #[] 99)).drew = V := ⟨_, rfl⟩
     have HW1 := hidInsG hv1
     have HG1 : Hid (g1 = w2.heap.size) := hg1
     have E_1 : Hid (Bk v1 w.heap.size 99 #[.int .i64 e.t, .int .i64 e.s, .int .i64 e.q, .int .i64 e.d, .int .i64 e.k, .int .i64 e.v, .int .i64 e.g]) := by (rw [← hv1]; exact E_0.out.alloc _)
     have B_1 : Hid (Below w2.heap.size w2 v1) := by (rw [← hv1]; exact B_0.out.alloc B_0.out.size _)
     have R_1 : Hid (v1.ownsRow w2.heap.size 99 7 (.slice (some ⟨g1, 0, none⟩) 0 0) 0 []) := by (rw [← hv1, hg1]; exact owns_mono (row_empty w2) (B_0.out.size))
     have hx1 : w2.heap.size ≤ g1 ∧ g1 ≤ w2.heap.size := by omega
     have hy1 : g1 < v1.heap.size := by (rw [← hv1, hg1]; exact (Bk.new w2 99 #[]).lt)
     clear hv1 hg1
     go_simp
     rw [HW1.out, ← HG1.out]
     refine hK.out _ _ (keepE E_1.out) (fun hHeld => ?_)
     clear hK K
     try simp only [Act.put, List.setIfInBounds_toArray, List.set_cons_zero, List.set_cons_succ]
     refine wpAnyH_ready (rs := [4, 6]) (by kernel_rfl) (by simp) ?_
     refine AllReadyH.cons (o := { dst := some 26, op := Op.call { callee := Callee.builtin Builtin.append, args := #[Operand.tmp 22, Operand.tmp 25], argTypes := #[29, 29] }, type := 29, pos := _, after := _, guard := none }) rfl (fun K hK => ?_) (AllReadyH.cons (o := { dst := some 28, op := Op.buildSlice 29 1 #[(0, Operand.tmp 27)], type := 29, pos := _, after := _, guard := none }) rfl (fun K hK => ?_) AllReadyH.nil)
     ·refine step_append_src (w := v1) rfl (.tmp 22) (.tmp 25) 29 rfl w2.heap.size 99 i0 (.agg #[.int .i64 0, .int .i64 0, .int .i64 0, .int .i64 0, .int .i64 0, .int .i64 0, .int .i64 0]) 7 56 Tryz.underlying29 hi hz0 hz1 hz2 rfl (by decide) (.slice (some ⟨g1, 0, none⟩) 0 0) (0) ([]) rfl R_1.out (.slice av m1 cv) (m1) (cellsL (l.take k)) rfl (HS1.out.below (HB2.out.trans (B_1.out.mono hle2))) (cellsL_one _) (by unfold maxLen; omega) (by omega) B_1.out.size ?_
      intro vn2 v2 hown hgrow hnew
      rw [Nat.zero_add, List.nil_append] at hown
      obtain ⟨aw2, cw2, hvw⟩ := owns_slice hown
      subst hvw
      have hgt := grown_turns hgrow
      have hzz2 : v1.heap.size ≤ v2.heap.size := hgrow.size
      have HRG2 : Hid (∀ b, (.slice (some ⟨g1, 0, none⟩) 0 0 : Value).ownBlock = some b → w2.heap.size ≤ b) := fun b hb => row_ge R_1.out hb
      have E_2 := hidInsG (E_1.out.turns hgt (fun e1 => by have := HRG2.out _ e1; omega))
      have B_2 := hidInsG (B_1.out.grown hgrow B_1.out.size (fun b e1 => HRG2.out b e1))
      have R_2 := hidInsG hown
      clear hown hgrow hnew hgt
      refine hK.out _ _ (keepE E_2.out) (fun hHeld => ?_)
      clear hK K
      try simp only [Act.put, List.setIfInBounds_toArray, List.set_cons_zero, List.set_cons_succ]
      refine wpAnyH_ready (rs := [6]) (by kernel_rfl) (by simp) ?_
      refine AllReadyH.cons (o := { dst := some 28, op := Op.buildSlice 29 1 #[(0, Operand.tmp 27)], type := 29, pos := _, after := _, guard := none }) rfl (fun K hK => ?_) AllReadyH.nil
      ·obtain ⟨g3, hg3⟩ : ∃ g, g = v2.heap.size := ⟨_, rfl⟩
       obtain ⟨v3, hv3⟩ : ∃ V, (v2.alloc (.cells #[.int .i64 e.t, .int .i64 e.s, .int .i64 e.q, .int .i64 e.d, .int .i64 e.k, .int .i64 e.v, .int .i64 e.g] 99)) = V := ⟨_, rfl⟩
       have HW3 := hidInsG hv3
       have HG3 : Hid (g3 = v2.heap.size) := hg3
       have E_3 : Hid (Bk v3 w.heap.size 99 #[.int .i64 e.t, .int .i64 e.s, .int .i64 e.q, .int .i64 e.d, .int .i64 e.k, .int .i64 e.v, .int .i64 e.g]) := by (rw [← hv3]; exact E_2.out.alloc _)
       have B_3 : Hid (Below w2.heap.size w2 v3) := by (rw [← hv3]; exact B_2.out.alloc B_2.out.size _)
       have R_3 : Hid (v3.ownsRow w2.heap.size 99 7 (.slice aw2 m1 cw2) m1 (cellsL (l.take k))) := by (rw [← hv3]; exact R_2.out.alloc _)
       have O_3 : Hid (Bk v3 g3 99 #[.int .i64 e.t, .int .i64 e.s, .int .i64 e.q, .int .i64 e.d, .int .i64 e.k, .int .i64 e.v, .int .i64 e.g]) := by (rw [← hv3, hg3]; exact Bk.new v2 _ _)
       have HNQ3 : Hid (∀ b, (.slice aw2 m1 cw2 : Value).ownBlock = some b → b ≠ g3) := fun b hb e1 => by have := owns_lt R_2.out hb; have := hg3; simp at *; omega
       have hx3 : v2.heap.size ≤ g3 ∧ g3 ≤ v2.heap.size := by omega
       have hy3 : g3 < v3.heap.size := by (rw [← hv3, hg3]; exact (Bk.new v2 99 #[.int .i64 e.t, .int .i64 e.s, .int .i64 e.q, .int .i64 e.d, .int .i64 e.k, .int .i64 e.v, .int .i64 e.g]).lt)
       clear hv3 hg3
       go_simp
       rw [HW3.out, ← HG3.out]
       refine hK.out _ _ (keepE E_3.out) (fun hHeld => ?_)
       clear hK K
       try simp only [Act.put, List.setIfInBounds_toArray, List.set_cons_zero, List.set_cons_succ]
       refine wpAnyH_ready (rs := [7]) (by kernel_rfl) (by simp) ?_
       refine AllReadyH.cons (o := { dst := some 29, op := Op.call { callee := Callee.builtin Builtin.append, args := #[Operand.tmp 26, Operand.tmp 28], argTypes := #[29, 29] }, type := 29, pos := _, after := _, guard := none }) rfl (fun K hK => ?_) AllReadyH.nil
       ·refine step_append_src (w := v3) rfl (.tmp 26) (.tmp 28) 29 rfl w2.heap.size 99 i0 (.agg #[.int .i64 0, .int .i64 0, .int .i64 0, .int .i64 0, .int .i64 0, .int .i64 0, .int .i64 0]) 7 56 Tryz.underlying29 hi hz0 hz1 hz2 rfl (by decide) (.slice aw2 m1 cw2) (m1) ((cellsL (l.take k))) rfl R_3.out (.slice (some ⟨g3, 0, none⟩) 1 1) (1) e.cs rfl O_3.out.one (Ev.cs_one e) (by unfold maxLen; omega) (by omega) B_3.out.size ?_
        intro vn4 v4 hown hgrow hnew
        obtain ⟨aw4, cw4, hvw⟩ := owns_slice hown
        subst hvw
        have hgt := grown_turns hgrow
        have hzz4 : v3.heap.size ≤ v4.heap.size := hgrow.size
        have HRG4 : Hid (∀ b, (.slice aw2 m1 cw2 : Value).ownBlock = some b → w2.heap.size ≤ b) := fun b hb => row_ge R_3.out hb
        have HNE4 : Hid (∀ b, (.slice aw2 m1 cw2 : Value).ownBlock = some b → b ≠ g3) := fun b hb e1 => HNQ3.out b hb e1
        have E_4 := hidInsG (E_3.out.turns hgt (fun e1 => by have := HRG4.out _ e1; omega))
        have B_4 := hidInsG (B_3.out.grown hgrow B_3.out.size (fun b e1 => HRG4.out b e1))
        have O_4 := hidInsG (O_3.out.turns hgt (fun e1 => HNE4.out _ e1 rfl))
        have R_4 := hidInsG hown
        clear hown hgrow hnew hgt
        refine hK.out _ _ (keepE E_4.out) (fun hHeld => ?_)
        clear hK K
        try simp only [Act.put, List.setIfInBounds_toArray, List.set_cons_zero, List.set_cons_succ]
        refine thInsG 8 { dst := some 6, op := Op.assign (Operand.tmp 29), type := 29, pos := _, after := _, guard := none } (.slice aw4 (m1 + 1) cw4) ?_
        try simp only [Act.put, List.setIfInBounds_toArray, List.set_cons_zero, List.set_cons_succ]
        refine wpAnyH_done (by kernel_rfl) ?_ _
        clear hHeld
        go_wp2_with (at_builtin; refine wpList_append_src _ rfl _ _ 29 rfl w2.heap.size 99 i0 (.agg #[.int .i64 0, .int .i64 0, .int .i64 0, .int .i64 0, .int .i64 0, .int .i64 0, .int .i64 0]) 7 56 Tryz.underlying29 hi hz0 hz1 hz2 rfl (by decide) (.slice aw4 (m1 + 1) cw4) ((m1 + 1)) (((cellsL (l.take k)) ++ e.cs)) rfl R_4.out (.slice au m2 cu) m2 (cellsL (l.drop k)) rfl (HS2.out.below (HB2.out.trans (B_4.out.mono hle2))) (cellsL_one _) (by unfold maxLen; omega) (by omega) B_4.out.size ?_; intro vn wn hown hgrow hnew)
        go_ret
        refine ⟨k, vn, rfl, HINS.out, OwnR.mono (show OwnR w2.heap.size _ _ _ from ?_) hle2, HB2.out.trans ((B_4.out.grown hgrow B_4.out.size (fun b e1 => row_ge R_4.out e1)).mono hle2)⟩
        have hlen : (l.take k ++ e :: l.drop k).length = (m1 + 1) + m2 := by rw [← HM.out.1, ← HM.out.2]; simp; omega
        unfold OwnR
        rw [hlen, cellsL_append]
        show World.ownsRow _ _ _ _ _ _ (cellsL (l.take k) ++ (e.cs ++ cellsL (l.drop k)))
        rw [← List.append_assoc]
        simpa using hown
     ·obtain ⟨g5, hg5⟩ : ∃ g, g = v1.heap.size := ⟨_, rfl⟩
      obtain ⟨v5, hv5⟩ : ∃ V, (v1.alloc (.cells #[.int .i64 e.t, .int .i64 e.s, .int .i64 e.q, .int .i64 e.d, .int .i64 e.k, .int .i64 e.v, .int .i64 e.g] 99)) = V := ⟨_, rfl⟩
      have HW5 := hidInsG hv5
      have HG5 : Hid (g5 = v1.heap.size) := hg5
      have E_5 : Hid (Bk v5 w.heap.size 99 #[.int .i64 e.t, .int .i64 e.s, .int .i64 e.q, .int .i64 e.d, .int .i64 e.k, .int .i64 e.v, .int .i64 e.g]) := by (rw [← hv5]; exact E_1.out.alloc _)
      have B_5 : Hid (Below w2.heap.size w2 v5) := by (rw [← hv5]; exact B_1.out.alloc B_1.out.size _)
      have R_5 : Hid (v5.ownsRow w2.heap.size 99 7 (.slice (some ⟨g1, 0, none⟩) 0 0) 0 []) := by (rw [← hv5]; exact R_1.out.alloc _)
      have O_5 : Hid (Bk v5 g5 99 #[.int .i64 e.t, .int .i64 e.s, .int .i64 e.q, .int .i64 e.d, .int .i64 e.k, .int .i64 e.v, .int .i64 e.g]) := by (rw [← hv5, hg5]; exact Bk.new v1 _ _)
      have HNQ5 : Hid (∀ b, (.slice (some ⟨g1, 0, none⟩) 0 0 : Value).ownBlock = some b → b ≠ g5) := fun b hb e1 => by have := owns_lt R_1.out hb; have := hg5; simp at *; omega
      have hx5 : v1.heap.size ≤ g5 ∧ g5 ≤ v1.heap.size := by omega
      have hy5 : g5 < v5.heap.size := by (rw [← hv5, hg5]; exact (Bk.new v1 99 #[.int .i64 e.t, .int .i64 e.s, .int .i64 e.q, .int .i64 e.d, .int .i64 e.k, .int .i64 e.v, .int .i64 e.g]).lt)
      clear hv5 hg5
      go_simp
      rw [HW5.out, ← HG5.out]
      refine hK.out _ _ (keepE E_5.out) (fun hHeld => ?_)
      clear hK K
      try simp only [Act.put, List.setIfInBounds_toArray, List.set_cons_zero, List.set_cons_succ]
      refine wpAnyH_ready (rs := [4]) (by kernel_rfl) (by simp) ?_
      refine AllReadyH.cons (o := { dst := some 26, op := Op.call { callee := Callee.builtin Builtin.append, args := #[Operand.tmp 22, Operand.tmp 25], argTypes := #[29, 29] }, type := 29, pos := _, after := _, guard := none }) rfl (fun K hK => ?_) AllReadyH.nil
      ·refine step_append_src (w := v5) rfl (.tmp 22) (.tmp 25) 29 rfl w2.heap.size 99 i0 (.agg #[.int .i64 0, .int .i64 0, .int .i64 0, .int .i64 0, .int .i64 0, .int .i64 0, .int .i64 0]) 7 56 Tryz.underlying29 hi hz0 hz1 hz2 rfl (by decide) (.slice (some ⟨g1, 0, none⟩) 0 0) (0) ([]) rfl R_5.out (.slice av m1 cv) (m1) (cellsL (l.take k)) rfl (HS1.out.below (HB2.out.trans (B_5.out.mono hle2))) (cellsL_one _) (by unfold maxLen; omega) (by omega) B_5.out.size ?_
       intro vn6 v6 hown hgrow hnew
       rw [Nat.zero_add, List.nil_append] at hown
       obtain ⟨aw6, cw6, hvw⟩ := owns_slice hown
       subst hvw
       have hgt := grown_turns hgrow
       have hzz6 : v5.heap.size ≤ v6.heap.size := hgrow.size
       have HRG6 : Hid (∀ b, (.slice (some ⟨g1, 0, none⟩) 0 0 : Value).ownBlock = some b → w2.heap.size ≤ b) := fun b hb => row_ge R_5.out hb
       have HNE6 : Hid (∀ b, (.slice (some ⟨g1, 0, none⟩) 0 0 : Value).ownBlock = some b → b ≠ g5) := fun b hb e1 => HNQ5.out b hb e1
       have E_6 := hidInsG (E_5.out.turns hgt (fun e1 => by have := HRG6.out _ e1; omega))
       have B_6 := hidInsG (B_5.out.grown hgrow B_5.out.size (fun b e1 => HRG6.out b e1))
       have O_6 := hidInsG (O_5.out.turns hgt (fun e1 => HNE6.out _ e1 rfl))
       have R_6 := hidInsG hown
       have HNQ6 : Hid (∀ b, (Value.slice aw6 m1 cw6).ownBlock = some b → b ≠ g5) := fun b hb e1 => by rcases hnew with h9 | h9; exact HNE6.out b (h9 ▸ hb) e1; have := h9 b hb; have := O_6.out.lt; omega
       clear hown hgrow hnew hgt
       refine hK.out _ _ (keepE E_6.out) (fun hHeld => ?_)
       clear hK K
       try simp only [Act.put, List.setIfInBounds_toArray, List.set_cons_zero, List.set_cons_succ]
       refine wpAnyH_ready (rs := [7]) (by kernel_rfl) (by simp) ?_
       refine AllReadyH.cons (o := { dst := some 29, op := Op.call { callee := Callee.builtin Builtin.append, args := #[Operand.tmp 26, Operand.tmp 28], argTypes := #[29, 29] }, type := 29, pos := _, after := _, guard := none }) rfl (fun K hK => ?_) AllReadyH.nil
       ·refine step_append_src (w := v6) rfl (.tmp 26) (.tmp 28) 29 rfl w2.heap.size 99 i0 (.agg #[.int .i64 0, .int .i64 0, .int .i64 0, .int .i64 0, .int .i64 0, .int .i64 0, .int .i64 0]) 7 56 Tryz.underlying29 hi hz0 hz1 hz2 rfl (by decide) (.slice aw6 m1 cw6) (m1) ((cellsL (l.take k))) rfl R_6.out (.slice (some ⟨g5, 0, none⟩) 1 1) (1) e.cs rfl O_6.out.one (Ev.cs_one e) (by unfold maxLen; omega) (by omega) B_6.out.size ?_
        intro vn7 v7 hown hgrow hnew
        obtain ⟨aw7, cw7, hvw⟩ := owns_slice hown
        subst hvw
        have hgt := grown_turns hgrow
        have hzz7 : v6.heap.size ≤ v7.heap.size := hgrow.size
        have HRG7 : Hid (∀ b, (.slice aw6 m1 cw6 : Value).ownBlock = some b → w2.heap.size ≤ b) := fun b hb => row_ge R_6.out hb
        have HNE7 : Hid (∀ b, (.slice aw6 m1 cw6 : Value).ownBlock = some b → b ≠ g5) := fun b hb e1 => HNQ6.out b hb e1
        have E_7 := hidInsG (E_6.out.turns hgt (fun e1 => by have := HRG7.out _ e1; omega))
        have B_7 := hidInsG (B_6.out.grown hgrow B_6.out.size (fun b e1 => HRG7.out b e1))
        have O_7 := hidInsG (O_6.out.turns hgt (fun e1 => HNE7.out _ e1 rfl))
        have R_7 := hidInsG hown
        clear hown hgrow hnew hgt
        refine hK.out _ _ (keepE E_7.out) (fun hHeld => ?_)
        clear hK K
        try simp only [Act.put, List.setIfInBounds_toArray, List.set_cons_zero, List.set_cons_succ]
        refine thInsG 8 { dst := some 6, op := Op.assign (Operand.tmp 29), type := 29, pos := _, after := _, guard := none } (.slice aw7 (m1 + 1) cw7) ?_
        try simp only [Act.put, List.setIfInBounds_toArray, List.set_cons_zero, List.set_cons_succ]
        refine wpAnyH_done (by kernel_rfl) ?_ _
        clear hHeld
        go_wp2_with (at_builtin; refine wpList_append_src _ rfl _ _ 29 rfl w2.heap.size 99 i0 (.agg #[.int .i64 0, .int .i64 0, .int .i64 0, .int .i64 0, .int .i64 0, .int .i64 0, .int .i64 0]) 7 56 Tryz.underlying29 hi hz0 hz1 hz2 rfl (by decide) (.slice aw7 (m1 + 1) cw7) ((m1 + 1)) (((cellsL (l.take k)) ++ e.cs)) rfl R_7.out (.slice au m2 cu) m2 (cellsL (l.drop k)) rfl (HS2.out.below (HB2.out.trans (B_7.out.mono hle2))) (cellsL_one _) (by unfold maxLen; omega) (by omega) B_7.out.size ?_; intro vn wn hown hgrow hnew)
        go_ret
        refine ⟨k, vn, rfl, HINS.out, OwnR.mono (show OwnR w2.heap.size _ _ _ from ?_) hle2, HB2.out.trans ((B_7.out.grown hgrow B_7.out.size (fun b e1 => row_ge R_7.out e1)).mono hle2)⟩
        have hlen : (l.take k ++ e :: l.drop k).length = (m1 + 1) + m2 := by rw [← HM.out.1, ← HM.out.2]; simp; omega
        unfold OwnR
        rw [hlen, cellsL_append]
        show World.ownsRow _ _ _ _ _ _ (cellsL (l.take k) ++ (e.cs ++ cellsL (l.drop k)))
        rw [← List.append_assoc]
        simpa using hown
    ·obtain ⟨g8, hg8⟩ : ∃ g, g = w2.heap.size := ⟨_, rfl⟩
     obtain ⟨v8, hv8⟩ : ∃ V, (w2.alloc (.cells #[.int .i64 e.t, .int .i64 e.s, .int .i64 e.q, .int .i64 e.d, .int .i64 e.k, .int .i64 e.v, .int .i64 e.g] 99)).drew = V := ⟨_, rfl⟩
     have HW8 := hidInsG hv8
     have HG8 : Hid (g8 = w2.heap.size) := hg8
     have E_8 : Hid (Bk v8 w.heap.size 99 #[.int .i64 e.t, .int .i64 e.s, .int .i64 e.q, .int .i64 e.d, .int .i64 e.k, .int .i64 e.v, .int .i64 e.g]) := by (rw [← hv8]; exact E_0.out.alloc _)
     have B_8 : Hid (Below w2.heap.size w2 v8) := by (rw [← hv8]; exact B_0.out.alloc B_0.out.size _)
     have O_8 : Hid (Bk v8 g8 99 #[.int .i64 e.t, .int .i64 e.s, .int .i64 e.q, .int .i64 e.d, .int .i64 e.k, .int .i64 e.v, .int .i64 e.g]) := by (rw [← hv8, hg8]; exact Bk.new w2 _ _)
     have hx8 : w2.heap.size ≤ g8 ∧ g8 ≤ w2.heap.size := by omega
     have hy8 : g8 < v8.heap.size := by (rw [← hv8, hg8]; exact (Bk.new w2 99 #[.int .i64 e.t, .int .i64 e.s, .int .i64 e.q, .int .i64 e.d, .int .i64 e.k, .int .i64 e.v, .int .i64 e.g]).lt)
     clear hv8 hg8
     go_simp
     rw [HW8.out, ← HG8.out]
     refine hK.out _ _ (keepE E_8.out) (fun hHeld => ?_)
     clear hK K
     try simp only [Act.put, List.setIfInBounds_toArray, List.set_cons_zero, List.set_cons_succ]
     refine wpAnyH_ready (rs := [0]) (by kernel_rfl) (by simp) ?_
     refine AllReadyH.cons (o := { dst := some 22, op := Op.buildSlice 29 0 #[], type := 29, pos := _, after := _, guard := none }) rfl (fun K hK => ?_) AllReadyH.nil
     ·obtain ⟨g9, hg9⟩ : ∃ g, g = v8.heap.size := ⟨_, rfl⟩
      obtain ⟨v9, hv9⟩ : ∃ V, (v8.alloc (.cells #[] 99)) = V := ⟨_, rfl⟩
      have HW9 := hidInsG hv9
      have HG9 : Hid (g9 = v8.heap.size) := hg9
      have E_9 : Hid (Bk v9 w.heap.size 99 #[.int .i64 e.t, .int .i64 e.s, .int .i64 e.q, .int .i64 e.d, .int .i64 e.k, .int .i64 e.v, .int .i64 e.g]) := by (rw [← hv9]; exact E_8.out.alloc _)
      have B_9 : Hid (Below w2.heap.size w2 v9) := by (rw [← hv9]; exact B_8.out.alloc B_8.out.size _)
      have O_9 : Hid (Bk v9 g8 99 #[.int .i64 e.t, .int .i64 e.s, .int .i64 e.q, .int .i64 e.d, .int .i64 e.k, .int .i64 e.v, .int .i64 e.g]) := by (rw [← hv9]; exact O_8.out.alloc _)
      have R_9 : Hid (v9.ownsRow w2.heap.size 99 7 (.slice (some ⟨g9, 0, none⟩) 0 0) 0 []) := by (rw [← hv9, hg9]; exact owns_mono (row_empty v8) (B_8.out.size))
      have hx9 : v8.heap.size ≤ g9 ∧ g9 ≤ v8.heap.size := by omega
      have hy9 : g9 < v9.heap.size := by (rw [← hv9, hg9]; exact (Bk.new v8 99 #[]).lt)
      clear hv9 hg9
      go_simp
      rw [HW9.out, ← HG9.out]
      refine hK.out _ _ (keepE E_9.out) (fun hHeld => ?_)
      clear hK K
      try simp only [Act.put, List.setIfInBounds_toArray, List.set_cons_zero, List.set_cons_succ]
      refine wpAnyH_ready (rs := [4]) (by kernel_rfl) (by simp) ?_
      refine AllReadyH.cons (o := { dst := some 26, op := Op.call { callee := Callee.builtin Builtin.append, args := #[Operand.tmp 22, Operand.tmp 25], argTypes := #[29, 29] }, type := 29, pos := _, after := _, guard := none }) rfl (fun K hK => ?_) AllReadyH.nil
      ·refine step_append_src (w := v9) rfl (.tmp 22) (.tmp 25) 29 rfl w2.heap.size 99 i0 (.agg #[.int .i64 0, .int .i64 0, .int .i64 0, .int .i64 0, .int .i64 0, .int .i64 0, .int .i64 0]) 7 56 Tryz.underlying29 hi hz0 hz1 hz2 rfl (by decide) (.slice (some ⟨g9, 0, none⟩) 0 0) (0) ([]) rfl R_9.out (.slice av m1 cv) (m1) (cellsL (l.take k)) rfl (HS1.out.below (HB2.out.trans (B_9.out.mono hle2))) (cellsL_one _) (by unfold maxLen; omega) (by omega) B_9.out.size ?_
       intro vn10 v10 hown hgrow hnew
       rw [Nat.zero_add, List.nil_append] at hown
       obtain ⟨aw10, cw10, hvw⟩ := owns_slice hown
       subst hvw
       have hgt := grown_turns hgrow
       have hzz10 : v9.heap.size ≤ v10.heap.size := hgrow.size
       have HRG10 : Hid (∀ b, (.slice (some ⟨g9, 0, none⟩) 0 0 : Value).ownBlock = some b → w2.heap.size ≤ b) := fun b hb => row_ge R_9.out hb
       have HNE10 : Hid (∀ b, (.slice (some ⟨g9, 0, none⟩) 0 0 : Value).ownBlock = some b → b ≠ g8) := fun b hb e1 => by simp [Value.ownBlock] at hb; omega
       have E_10 := hidInsG (E_9.out.turns hgt (fun e1 => by have := HRG10.out _ e1; omega))
       have B_10 := hidInsG (B_9.out.grown hgrow B_9.out.size (fun b e1 => HRG10.out b e1))
       have O_10 := hidInsG (O_9.out.turns hgt (fun e1 => HNE10.out _ e1 rfl))
       have R_10 := hidInsG hown
       have HNQ10 : Hid (∀ b, (Value.slice aw10 m1 cw10).ownBlock = some b → b ≠ g8) := fun b hb e1 => by rcases hnew with h9 | h9; exact HNE10.out b (h9 ▸ hb) e1; have := h9 b hb; have := O_10.out.lt; omega
       clear hown hgrow hnew hgt
       refine hK.out _ _ (keepE E_10.out) (fun hHeld => ?_)
       clear hK K
       try simp only [Act.put, List.setIfInBounds_toArray, List.set_cons_zero, List.set_cons_succ]
       refine wpAnyH_ready (rs := [7]) (by kernel_rfl) (by simp) ?_
       refine AllReadyH.cons (o := { dst := some 29, op := Op.call { callee := Callee.builtin Builtin.append, args := #[Operand.tmp 26, Operand.tmp 28], argTypes := #[29, 29] }, type := 29, pos := _, after := _, guard := none }) rfl (fun K hK => ?_) AllReadyH.nil
       ·refine step_append_src (w := v10) rfl (.tmp 26) (.tmp 28) 29 rfl w2.heap.size 99 i0 (.agg #[.int .i64 0, .int .i64 0, .int .i64 0, .int .i64 0, .int .i64 0, .int .i64 0, .int .i64 0]) 7 56 Tryz.underlying29 hi hz0 hz1 hz2 rfl (by decide) (.slice aw10 m1 cw10) (m1) ((cellsL (l.take k))) rfl R_10.out (.slice (some ⟨g8, 0, none⟩) 1 1) (1) e.cs rfl O_10.out.one (Ev.cs_one e) (by unfold maxLen; omega) (by omega) B_10.out.size ?_
        intro vn11 v11 hown hgrow hnew
        obtain ⟨aw11, cw11, hvw⟩ := owns_slice hown
        subst hvw
        have hgt := grown_turns hgrow
        have hzz11 : v10.heap.size ≤ v11.heap.size := hgrow.size
        have HRG11 : Hid (∀ b, (.slice aw10 m1 cw10 : Value).ownBlock = some b → w2.heap.size ≤ b) := fun b hb => row_ge R_10.out hb
        have HNE11 : Hid (∀ b, (.slice aw10 m1 cw10 : Value).ownBlock = some b → b ≠ g8) := fun b hb e1 => HNQ10.out b hb e1
        have E_11 := hidInsG (E_10.out.turns hgt (fun e1 => by have := HRG11.out _ e1; omega))
        have B_11 := hidInsG (B_10.out.grown hgrow B_10.out.size (fun b e1 => HRG11.out b e1))
        have O_11 := hidInsG (O_10.out.turns hgt (fun e1 => HNE11.out _ e1 rfl))
        have R_11 := hidInsG hown
        clear hown hgrow hnew hgt
        refine hK.out _ _ (keepE E_11.out) (fun hHeld => ?_)
        clear hK K
        try simp only [Act.put, List.setIfInBounds_toArray, List.set_cons_zero, List.set_cons_succ]
        refine thInsG 8 { dst := some 6, op := Op.assign (Operand.tmp 29), type := 29, pos := _, after := _, guard := none } (.slice aw11 (m1 + 1) cw11) ?_
        try simp only [Act.put, List.setIfInBounds_toArray, List.set_cons_zero, List.set_cons_succ]
        refine wpAnyH_done (by kernel_rfl) ?_ _
        clear hHeld
        go_wp2_with (at_builtin; refine wpList_append_src _ rfl _ _ 29 rfl w2.heap.size 99 i0 (.agg #[.int .i64 0, .int .i64 0, .int .i64 0, .int .i64 0, .int .i64 0, .int .i64 0, .int .i64 0]) 7 56 Tryz.underlying29 hi hz0 hz1 hz2 rfl (by decide) (.slice aw11 (m1 + 1) cw11) ((m1 + 1)) (((cellsL (l.take k)) ++ e.cs)) rfl R_11.out (.slice au m2 cu) m2 (cellsL (l.drop k)) rfl (HS2.out.below (HB2.out.trans (B_11.out.mono hle2))) (cellsL_one _) (by unfold maxLen; omega) (by omega) B_11.out.size ?_; intro vn wn hown hgrow hnew)
        go_ret
        refine ⟨k, vn, rfl, HINS.out, OwnR.mono (show OwnR w2.heap.size _ _ _ from ?_) hle2, HB2.out.trans ((B_11.out.grown hgrow B_11.out.size (fun b e1 => row_ge R_11.out e1)).mono hle2)⟩
        have hlen : (l.take k ++ e :: l.drop k).length = (m1 + 1) + m2 := by rw [← HM.out.1, ← HM.out.2]; simp; omega
        unfold OwnR
        rw [hlen, cellsL_append]
        show World.ownsRow _ _ _ _ _ _ (cellsL (l.take k) ++ (e.cs ++ cellsL (l.drop k)))
        rw [← List.append_assoc]
        simpa using hown
  ·have hd : decide (k < l.length) = false := by simp; omega
   have hd2 : ¬ ((k : Int) < (l.length : Int)) := by omega
   go_wp2_with fail
   refine wp_region_beyond (by kernel_rfl) (by kernel_rfl) ?_
   repeat (go_big_quiet_step (fail))
   refine wpQuiet_nil ?_
   rintro w2 ⟨⟨_, hb2⟩, rfl⟩
   go_wp2
   have HB2 := hidInsG (HBw.out.trans (hb2.mono HBw.out.size))
   have HE2 := hidInsG (HE.out.below hb2)
   have hle2 : w.heap.size ≤ w2.heap.size := HB2.out.size
   have hlt2 : w.heap.size < w2.heap.size := HE2.out.lt
   clear hb2 HB HE HBw hne
   have hk8 : (k : Int) ≤ (l.length : Int) := by omega
   obtain ⟨V, hV⟩ : ∃ V, sliced a 0 k cap 7 = V := ⟨_, rfl⟩
   have hVD : IsEvs w V (l.take k) := hV ▸ evs_take HI.out hk
   have hsl : ∀ w : World, (Instr.sliceAt 29 (.slice a l.length cap) none (some (.int .i64 (k : Int))) none).run Tryz.prog w = .ok V w := fun w => hV ▸ run_cutToE _ _ _ _ (by omega) w
   obtain ⟨U, hU⟩ : ∃ U, sliced a k l.length cap 7 = U := ⟨_, rfl⟩
   have hUD : IsEvs w U (l.drop k) := hU ▸ evs_drop HI.out hk
   have hsl2 : ∀ w : World, (Instr.sliceAt 29 (.slice a l.length cap) (some (.int .i64 (k : Int))) none none).run Tryz.prog w = .ok U w := fun w => hU ▸ run_cutFromE _ _ _ _ hk w
   have hs1 := SrcC.ofEvs hVD
   have hs2 := SrcC.ofEvs hUD
   obtain ⟨av, cv, rfl, _⟩ := hVD
   obtain ⟨au, cu, rfl, _⟩ := hUD
   obtain ⟨m1, hm1⟩ : ∃ m, (l.take k).length = m := ⟨_, rfl⟩
   obtain ⟨m2, hm2⟩ : ∃ m, (l.drop k).length = m := ⟨_, rfl⟩
   have HM : Hid ((l.take k).length = m1 ∧ (l.drop k).length = m2) := ⟨hm1, hm2⟩
   have hm9 : m1 + m2 ≤ 1048577 := by rw [← hm1, ← hm2]; simp; omega
   rw [hm1] at hsl
   rw [hm2] at hsl2
   have HS1 : Hid (SrcC w (.slice av m1 cv) 7 m1 (cellsL (l.take k))) := by rw [hm1] at hs1; exact hs1
   have HS2 : Hid (SrcC w (.slice au m2 cu) 7 m2 (cellsL (l.drop k))) := by rw [hm2] at hs2; exact hs2
   have HINS : Hid (InsAt l e k) := ⟨hk, HJ.out, fun h => absurd h hlt⟩
   clear hs1 hs2 hV hU hm1 hm2 HI HC HJ
   go_wp2_with fail
   have E_0 := hidInsG HE2.out.drew
   have B_0 : Hid (Below w2.heap.size w2 w2.drew) := (Below.refl _ w2).drew
   refine wp_region_held_drew (S := fun W => W.cell? ⟨w.heap.size, 0, none⟩ = some (.int .i64 e.t) ∧ W.cell? ⟨w.heap.size, 1, none⟩ = some (.int .i64 e.s) ∧ W.cell? ⟨w.heap.size, 2, none⟩ = some (.int .i64 e.q) ∧ W.cell? ⟨w.heap.size, 3, none⟩ = some (.int .i64 e.d) ∧ W.cell? ⟨w.heap.size, 4, none⟩ = some (.int .i64 e.k) ∧ W.cell? ⟨w.heap.size, 5, none⟩ = some (.int .i64 e.v) ∧ W.cell? ⟨w.heap.size, 6, none⟩ = some (.int .i64 e.g)) (by kernel_rfl) (keepE HE2.out.drew) (fun hHeld => ?_)
   refine thInsG 1 { dst := some 23, op := Op.move (Operand.tmp 0), type := 29, pos := _, after := _, guard := none } (.slice a l.length cap) ?_
   try simp only [Act.put, List.setIfInBounds_toArray, List.set_cons_zero, List.set_cons_succ]
   refine thInsG 2 { dst := some 24, op := Op.move (Operand.tmp 5), type := 3, pos := _, after := _, guard := none } (.int .i64 (k : Int)) ?_
   try simp only [Act.put, List.setIfInBounds_toArray, List.set_cons_zero, List.set_cons_succ]
   refine thInsG 5 { dst := some 27, op := Op.load 99 (Operand.tmp 3), type := 99, pos := _, after := _, guard := none } (.agg #[.int .i64 e.t, .int .i64 e.s, .int .i64 e.q, .int .i64 e.d, .int .i64 e.k, .int .i64 e.v, .int .i64 e.g]) ?_
   try simp only [Act.put, List.setIfInBounds_toArray, List.set_cons_zero, List.set_cons_succ]
   refine thInsG 3 { dst := some 25, op := Op.slice 29 (Operand.tmp 23) none (some (Operand.tmp 24)) none, type := 29, pos := _, after := _, guard := none } (.slice av m1 cv) ?_
   try simp only [Act.put, List.setIfInBounds_toArray, List.set_cons_zero, List.set_cons_succ]
   refine wpAnyH_ready (rs := [0, 6]) (by kernel_rfl) (by simp) ?_
   refine AllReadyH.cons (o := { dst := some 22, op := Op.buildSlice 29 0 #[], type := 29, pos := _, after := _, guard := none }) rfl (fun K hK => ?_) (AllReadyH.cons (o := { dst := some 28, op := Op.buildSlice 29 1 #[(0, Operand.tmp 27)], type := 29, pos := _, after := _, guard := none }) rfl (fun K hK => ?_) AllReadyH.nil)
   ·obtain ⟨g1, hg1⟩ : ∃ g, g = w2.heap.size := ⟨_, rfl⟩
    obtain ⟨v1, hv1⟩ : ∃ V, (w2.alloc (.cells #[] 99)).drew = V := ⟨_, rfl⟩
    have HW1 := hidInsG hv1
    have HG1 : Hid (g1 = w2.heap.size) := hg1
    have E_1 : Hid (Bk v1 w.heap.size 99 #[.int .i64 e.t, .int .i64 e.s, .int .i64 e.q, .int .i64 e.d, .int .i64 e.k, .int .i64 e.v, .int .i64 e.g]) := by (rw [← hv1]; exact E_0.out.alloc _)
    have B_1 : Hid (Below w2.heap.size w2 v1) := by (rw [← hv1]; exact B_0.out.alloc B_0.out.size _)
    have R_1 : Hid (v1.ownsRow w2.heap.size 99 7 (.slice (some ⟨g1, 0, none⟩) 0 0) 0 []) := by (rw [← hv1, hg1]; exact owns_mono (row_empty w2) (B_0.out.size))
    have hx1 : w2.heap.size ≤ g1 ∧ g1 ≤ w2.heap.size := by omega
    have hy1 : g1 < v1.heap.size := by (rw [← hv1, hg1]; exact (Bk.new w2 99 #[]).lt)
    clear hv1 hg1
    go_simp
    rw [HW1.out, ← HG1.out]
    refine hK.out _ _ (keepE E_1.out) (fun hHeld => ?_)
    clear hK K
    try simp only [Act.put, List.setIfInBounds_toArray, List.set_cons_zero, List.set_cons_succ]
    refine wpAnyH_ready (rs := [4, 6]) (by kernel_rfl) (by simp) ?_
    refine AllReadyH.cons (o := { dst := some 26, op := Op.call { callee := Callee.builtin Builtin.append, args := #[Operand.tmp 22, Operand.tmp 25], argTypes := #[29, 29] }, type := 29, pos := _, after := _, guard := none }) rfl (fun K hK => ?_) (AllReadyH.cons (o := { dst := some 28, op := Op.buildSlice 29 1 #[(0, Operand.tmp 27)], type := 29, pos := _, after := _, guard := none }) rfl (fun K hK => ?_) AllReadyH.nil)
    ·refine step_append_src (w := v1) rfl (.tmp 22) (.tmp 25) 29 rfl w2.heap.size 99 i0 (.agg #[.int .i64 0, .int .i64 0, .int .i64 0, .int .i64 0, .int .i64 0, .int .i64 0, .int .i64 0]) 7 56 Tryz.underlying29 hi hz0 hz1 hz2 rfl (by decide) (.slice (some ⟨g1, 0, none⟩) 0 0) (0) ([]) rfl R_1.out (.slice av m1 cv) (m1) (cellsL (l.take k)) rfl (HS1.out.below (HB2.out.trans (B_1.out.mono hle2))) (cellsL_one _) (by unfold maxLen; omega) (by omega) B_1.out.size ?_
     intro vn2 v2 hown hgrow hnew
     rw [Nat.zero_add, List.nil_append] at hown
     obtain ⟨aw2, cw2, hvw⟩ := owns_slice hown
     subst hvw
     have hgt := grown_turns hgrow
     have hzz2 : v1.heap.size ≤ v2.heap.size := hgrow.size
     have HRG2 : Hid (∀ b, (.slice (some ⟨g1, 0, none⟩) 0 0 : Value).ownBlock = some b → w2.heap.size ≤ b) := fun b hb => row_ge R_1.out hb
     have E_2 := hidInsG (E_1.out.turns hgt (fun e1 => by have := HRG2.out _ e1; omega))
     have B_2 := hidInsG (B_1.out.grown hgrow B_1.out.size (fun b e1 => HRG2.out b e1))
     have R_2 := hidInsG hown
     clear hown hgrow hnew hgt
     refine hK.out _ _ (keepE E_2.out) (fun hHeld => ?_)
     clear hK K
     try simp only [Act.put, List.setIfInBounds_toArray, List.set_cons_zero, List.set_cons_succ]
     refine wpAnyH_ready (rs := [6]) (by kernel_rfl) (by simp) ?_
     refine AllReadyH.cons (o := { dst := some 28, op := Op.buildSlice 29 1 #[(0, Operand.tmp 27)], type := 29, pos := _, after := _, guard := none }) rfl (fun K hK => ?_) AllReadyH.nil
     ·obtain ⟨g3, hg3⟩ : ∃ g, g = v2.heap.size := ⟨_, rfl⟩
      obtain ⟨v3, hv3⟩ : ∃ V, (v2.alloc (.cells #[.int .i64 e.t, .int .i64 e.s, .int .i64 e.q, .int .i64 e.d, .int .i64 e.k, .int .i64 e.v, .int .i64 e.g] 99)) = V := ⟨_, rfl⟩
      have HW3 := hidInsG hv3
      have HG3 : Hid (g3 = v2.heap.size) := hg3
      have E_3 : Hid (Bk v3 w.heap.size 99 #[.int .i64 e.t, .int .i64 e.s, .int .i64 e.q, .int .i64 e.d, .int .i64 e.k, .int .i64 e.v, .int .i64 e.g]) := by (rw [← hv3]; exact E_2.out.alloc _)
      have B_3 : Hid (Below w2.heap.size w2 v3) := by (rw [← hv3]; exact B_2.out.alloc B_2.out.size _)
      have R_3 : Hid (v3.ownsRow w2.heap.size 99 7 (.slice aw2 m1 cw2) m1 (cellsL (l.take k))) := by (rw [← hv3]; exact R_2.out.alloc _)
      have O_3 : Hid (Bk v3 g3 99 #[.int .i64 e.t, .int .i64 e.s, .int .i64 e.q, .int .i64 e.d, .int .i64 e.k, .int .i64 e.v, .int .i64 e.g]) := by (rw [← hv3, hg3]; exact Bk.new v2 _ _)
      have HNQ3 : Hid (∀ b, (.slice aw2 m1 cw2 : Value).ownBlock = some b → b ≠ g3) := fun b hb e1 => by have := owns_lt R_2.out hb; have := hg3; simp at *; omega
      have hx3 : v2.heap.size ≤ g3 ∧ g3 ≤ v2.heap.size := by omega
      have hy3 : g3 < v3.heap.size := by (rw [← hv3, hg3]; exact (Bk.new v2 99 #[.int .i64 e.t, .int .i64 e.s, .int .i64 e.q, .int .i64 e.d, .int .i64 e.k, .int .i64 e.v, .int .i64 e.g]).lt)
      clear hv3 hg3
      go_simp
      rw [HW3.out, ← HG3.out]
      refine hK.out _ _ (keepE E_3.out) (fun hHeld => ?_)
      clear hK K
      try simp only [Act.put, List.setIfInBounds_toArray, List.set_cons_zero, List.set_cons_succ]
      refine wpAnyH_ready (rs := [7]) (by kernel_rfl) (by simp) ?_
      refine AllReadyH.cons (o := { dst := some 29, op := Op.call { callee := Callee.builtin Builtin.append, args := #[Operand.tmp 26, Operand.tmp 28], argTypes := #[29, 29] }, type := 29, pos := _, after := _, guard := none }) rfl (fun K hK => ?_) AllReadyH.nil
      ·refine step_append_src (w := v3) rfl (.tmp 26) (.tmp 28) 29 rfl w2.heap.size 99 i0 (.agg #[.int .i64 0, .int .i64 0, .int .i64 0, .int .i64 0, .int .i64 0, .int .i64 0, .int .i64 0]) 7 56 Tryz.underlying29 hi hz0 hz1 hz2 rfl (by decide) (.slice aw2 m1 cw2) (m1) ((cellsL (l.take k))) rfl R_3.out (.slice (some ⟨g3, 0, none⟩) 1 1) (1) e.cs rfl O_3.out.one (Ev.cs_one e) (by unfold maxLen; omega) (by omega) B_3.out.size ?_
       intro vn4 v4 hown hgrow hnew
       obtain ⟨aw4, cw4, hvw⟩ := owns_slice hown
       subst hvw
       have hgt := grown_turns hgrow
       have hzz4 : v3.heap.size ≤ v4.heap.size := hgrow.size
       have HRG4 : Hid (∀ b, (.slice aw2 m1 cw2 : Value).ownBlock = some b → w2.heap.size ≤ b) := fun b hb => row_ge R_3.out hb
       have HNE4 : Hid (∀ b, (.slice aw2 m1 cw2 : Value).ownBlock = some b → b ≠ g3) := fun b hb e1 => HNQ3.out b hb e1
       have E_4 := hidInsG (E_3.out.turns hgt (fun e1 => by have := HRG4.out _ e1; omega))
       have B_4 := hidInsG (B_3.out.grown hgrow B_3.out.size (fun b e1 => HRG4.out b e1))
       have O_4 := hidInsG (O_3.out.turns hgt (fun e1 => HNE4.out _ e1 rfl))
       have R_4 := hidInsG hown
       clear hown hgrow hnew hgt
       refine hK.out _ _ (keepE E_4.out) (fun hHeld => ?_)
       clear hK K
       try simp only [Act.put, List.setIfInBounds_toArray, List.set_cons_zero, List.set_cons_succ]
       refine thInsG 8 { dst := some 6, op := Op.assign (Operand.tmp 29), type := 29, pos := _, after := _, guard := none } (.slice aw4 (m1 + 1) cw4) ?_
       try simp only [Act.put, List.setIfInBounds_toArray, List.set_cons_zero, List.set_cons_succ]
       refine wpAnyH_done (by kernel_rfl) ?_ _
       clear hHeld
       go_wp2_with (at_builtin; refine wpList_append_src _ rfl _ _ 29 rfl w2.heap.size 99 i0 (.agg #[.int .i64 0, .int .i64 0, .int .i64 0, .int .i64 0, .int .i64 0, .int .i64 0, .int .i64 0]) 7 56 Tryz.underlying29 hi hz0 hz1 hz2 rfl (by decide) (.slice aw4 (m1 + 1) cw4) ((m1 + 1)) (((cellsL (l.take k)) ++ e.cs)) rfl R_4.out (.slice au m2 cu) m2 (cellsL (l.drop k)) rfl (HS2.out.below (HB2.out.trans (B_4.out.mono hle2))) (cellsL_one _) (by unfold maxLen; omega) (by omega) B_4.out.size ?_; intro vn wn hown hgrow hnew)
       go_ret
       refine ⟨k, vn, rfl, HINS.out, OwnR.mono (show OwnR w2.heap.size _ _ _ from ?_) hle2, HB2.out.trans ((B_4.out.grown hgrow B_4.out.size (fun b e1 => row_ge R_4.out e1)).mono hle2)⟩
       have hlen : (l.take k ++ e :: l.drop k).length = (m1 + 1) + m2 := by rw [← HM.out.1, ← HM.out.2]; simp; omega
       unfold OwnR
       rw [hlen, cellsL_append]
       show World.ownsRow _ _ _ _ _ _ (cellsL (l.take k) ++ (e.cs ++ cellsL (l.drop k)))
       rw [← List.append_assoc]
       simpa using hown
    ·obtain ⟨g5, hg5⟩ : ∃ g, g = v1.heap.size := ⟨_, rfl⟩
     obtain ⟨v5, hv5⟩ : ∃ V, (v1.alloc (.cells #[.int .i64 e.t, .int .i64 e.s, .int .i64 e.q, .int .i64 e.d, .int .i64 e.k, .int .i64 e.v, .int .i64 e.g] 99)) = V := ⟨_, rfl⟩
     have HW5 := hidInsG hv5
     have HG5 : Hid (g5 = v1.heap.size) := hg5
     have E_5 : Hid (Bk v5 w.heap.size 99 #[.int .i64 e.t, .int .i64 e.s, .int .i64 e.q, .int .i64 e.d, .int .i64 e.k, .int .i64 e.v, .int .i64 e.g]) := by (rw [← hv5]; exact E_1.out.alloc _)
     have B_5 : Hid (Below w2.heap.size w2 v5) := by (rw [← hv5]; exact B_1.out.alloc B_1.out.size _)
     have R_5 : Hid (v5.ownsRow w2.heap.size 99 7 (.slice (some ⟨g1, 0, none⟩) 0 0) 0 []) := by (rw [← hv5]; exact R_1.out.alloc _)
     have O_5 : Hid (Bk v5 g5 99 #[.int .i64 e.t, .int .i64 e.s, .int .i64 e.q, .int .i64 e.d, .int .i64 e.k, .int .i64 e.v, .int .i64 e.g]) := by (rw [← hv5, hg5]; exact Bk.new v1 _ _)
     have HNQ5 : Hid (∀ b, (.slice (some ⟨g1, 0, none⟩) 0 0 : Value).ownBlock = some b → b ≠ g5) := fun b hb e1 => by have := owns_lt R_1.out hb; have := hg5; simp at *; omega
     have hx5 : v1.heap.size ≤ g5 ∧ g5 ≤ v1.heap.size := by omega
     have hy5 : g5 < v5.heap.size := by (rw [← hv5, hg5]; exact (Bk.new v1 99 #[.int .i64 e.t, .int .i64 e.s, .int .i64 e.q, .int .i64 e.d, .int .i64 e.k, .int .i64 e.v, .int .i64 e.g]).lt)
     clear hv5 hg5
     go_simp
     rw [HW5.out, ← HG5.out]
     refine hK.out _ _ (keepE E_5.out) (fun hHeld => ?_)
     clear hK K
     try simp only [Act.put, List.setIfInBounds_toArray, List.set_cons_zero, List.set_cons_succ]
     refine wpAnyH_ready (rs := [4]) (by kernel_rfl) (by simp) ?_
     refine AllReadyH.cons (o := { dst := some 26, op := Op.call { callee := Callee.builtin Builtin.append, args := #[Operand.tmp 22, Operand.tmp 25], argTypes := #[29, 29] }, type := 29, pos := _, after := _, guard := none }) rfl (fun K hK => ?_) AllReadyH.nil
     ·refine step_append_src (w := v5) rfl (.tmp 22) (.tmp 25) 29 rfl w2.heap.size 99 i0 (.agg #[.int .i64 0, .int .i64 0, .int .i64 0, .int .i64 0, .int .i64 0, .int .i64 0, .int .i64 0]) 7 56 Tryz.underlying29 hi hz0 hz1 hz2 rfl (by decide) (.slice (some ⟨g1, 0, none⟩) 0 0) (0) ([]) rfl R_5.out (.slice av m1 cv) (m1) (cellsL (l.take k)) rfl (HS1.out.below (HB2.out.trans (B_5.out.mono hle2))) (cellsL_one _) (by unfold maxLen; omega) (by omega) B_5.out.size ?_
      intro vn6 v6 hown hgrow hnew
      rw [Nat.zero_add, List.nil_append] at hown
      obtain ⟨aw6, cw6, hvw⟩ := owns_slice hown
      subst hvw
      have hgt := grown_turns hgrow
      have hzz6 : v5.heap.size ≤ v6.heap.size := hgrow.size
      have HRG6 : Hid (∀ b, (.slice (some ⟨g1, 0, none⟩) 0 0 : Value).ownBlock = some b → w2.heap.size ≤ b) := fun b hb => row_ge R_5.out hb
      have HNE6 : Hid (∀ b, (.slice (some ⟨g1, 0, none⟩) 0 0 : Value).ownBlock = some b → b ≠ g5) := fun b hb e1 => HNQ5.out b hb e1
      have E_6 := hidInsG (E_5.out.turns hgt (fun e1 => by have := HRG6.out _ e1; omega))
      have B_6 := hidInsG (B_5.out.grown hgrow B_5.out.size (fun b e1 => HRG6.out b e1))
      have O_6 := hidInsG (O_5.out.turns hgt (fun e1 => HNE6.out _ e1 rfl))
      have R_6 := hidInsG hown
      have HNQ6 : Hid (∀ b, (Value.slice aw6 m1 cw6).ownBlock = some b → b ≠ g5) := fun b hb e1 => by rcases hnew with h9 | h9; exact HNE6.out b (h9 ▸ hb) e1; have := h9 b hb; have := O_6.out.lt; omega
      clear hown hgrow hnew hgt
      refine hK.out _ _ (keepE E_6.out) (fun hHeld => ?_)
      clear hK K
      try simp only [Act.put, List.setIfInBounds_toArray, List.set_cons_zero, List.set_cons_succ]
      refine wpAnyH_ready (rs := [7]) (by kernel_rfl) (by simp) ?_
      refine AllReadyH.cons (o := { dst := some 29, op := Op.call { callee := Callee.builtin Builtin.append, args := #[Operand.tmp 26, Operand.tmp 28], argTypes := #[29, 29] }, type := 29, pos := _, after := _, guard := none }) rfl (fun K hK => ?_) AllReadyH.nil
      ·refine step_append_src (w := v6) rfl (.tmp 26) (.tmp 28) 29 rfl w2.heap.size 99 i0 (.agg #[.int .i64 0, .int .i64 0, .int .i64 0, .int .i64 0, .int .i64 0, .int .i64 0, .int .i64 0]) 7 56 Tryz.underlying29 hi hz0 hz1 hz2 rfl (by decide) (.slice aw6 m1 cw6) (m1) ((cellsL (l.take k))) rfl R_6.out (.slice (some ⟨g5, 0, none⟩) 1 1) (1) e.cs rfl O_6.out.one (Ev.cs_one e) (by unfold maxLen; omega) (by omega) B_6.out.size ?_
       intro vn7 v7 hown hgrow hnew
       obtain ⟨aw7, cw7, hvw⟩ := owns_slice hown
       subst hvw
       have hgt := grown_turns hgrow
       have hzz7 : v6.heap.size ≤ v7.heap.size := hgrow.size
       have HRG7 : Hid (∀ b, (.slice aw6 m1 cw6 : Value).ownBlock = some b → w2.heap.size ≤ b) := fun b hb => row_ge R_6.out hb
       have HNE7 : Hid (∀ b, (.slice aw6 m1 cw6 : Value).ownBlock = some b → b ≠ g5) := fun b hb e1 => HNQ6.out b hb e1
       have E_7 := hidInsG (E_6.out.turns hgt (fun e1 => by have := HRG7.out _ e1; omega))
       have B_7 := hidInsG (B_6.out.grown hgrow B_6.out.size (fun b e1 => HRG7.out b e1))
       have O_7 := hidInsG (O_6.out.turns hgt (fun e1 => HNE7.out _ e1 rfl))
       have R_7 := hidInsG hown
       clear hown hgrow hnew hgt
       refine hK.out _ _ (keepE E_7.out) (fun hHeld => ?_)
       clear hK K
       try simp only [Act.put, List.setIfInBounds_toArray, List.set_cons_zero, List.set_cons_succ]
       refine thInsG 8 { dst := some 6, op := Op.assign (Operand.tmp 29), type := 29, pos := _, after := _, guard := none } (.slice aw7 (m1 + 1) cw7) ?_
       try simp only [Act.put, List.setIfInBounds_toArray, List.set_cons_zero, List.set_cons_succ]
       refine wpAnyH_done (by kernel_rfl) ?_ _
       clear hHeld
       go_wp2_with (at_builtin; refine wpList_append_src _ rfl _ _ 29 rfl w2.heap.size 99 i0 (.agg #[.int .i64 0, .int .i64 0, .int .i64 0, .int .i64 0, .int .i64 0, .int .i64 0, .int .i64 0]) 7 56 Tryz.underlying29 hi hz0 hz1 hz2 rfl (by decide) (.slice aw7 (m1 + 1) cw7) ((m1 + 1)) (((cellsL (l.take k)) ++ e.cs)) rfl R_7.out (.slice au m2 cu) m2 (cellsL (l.drop k)) rfl (HS2.out.below (HB2.out.trans (B_7.out.mono hle2))) (cellsL_one _) (by unfold maxLen; omega) (by omega) B_7.out.size ?_; intro vn wn hown hgrow hnew)
       go_ret
       refine ⟨k, vn, rfl, HINS.out, OwnR.mono (show OwnR w2.heap.size _ _ _ from ?_) hle2, HB2.out.trans ((B_7.out.grown hgrow B_7.out.size (fun b e1 => row_ge R_7.out e1)).mono hle2)⟩
       have hlen : (l.take k ++ e :: l.drop k).length = (m1 + 1) + m2 := by rw [← HM.out.1, ← HM.out.2]; simp; omega
       unfold OwnR
       rw [hlen, cellsL_append]
       show World.ownsRow _ _ _ _ _ _ (cellsL (l.take k) ++ (e.cs ++ cellsL (l.drop k)))
       rw [← List.append_assoc]
       simpa using hown
   ·obtain ⟨g8, hg8⟩ : ∃ g, g = w2.heap.size := ⟨_, rfl⟩
    obtain ⟨v8, hv8⟩ : ∃ V, (w2.alloc (.cells #[.int .i64 e.t, .int .i64 e.s, .int .i64 e.q, .int .i64 e.d, .int .i64 e.k, .int .i64 e.v, .int .i64 e.g] 99)).drew = V := ⟨_, rfl⟩
    have HW8 := hidInsG hv8
    have HG8 : Hid (g8 = w2.heap.size) := hg8
    have E_8 : Hid (Bk v8 w.heap.size 99 #[.int .i64 e.t, .int .i64 e.s, .int .i64 e.q, .int .i64 e.d, .int .i64 e.k, .int .i64 e.v, .int .i64 e.g]) := by (rw [← hv8]; exact E_0.out.alloc _)
    have B_8 : Hid (Below w2.heap.size w2 v8) := by (rw [← hv8]; exact B_0.out.alloc B_0.out.size _)
    have O_8 : Hid (Bk v8 g8 99 #[.int .i64 e.t, .int .i64 e.s, .int .i64 e.q, .int .i64 e.d, .int .i64 e.k, .int .i64 e.v, .int .i64 e.g]) := by (rw [← hv8, hg8]; exact Bk.new w2 _ _)
    have hx8 : w2.heap.size ≤ g8 ∧ g8 ≤ w2.heap.size := by omega
    have hy8 : g8 < v8.heap.size := by (rw [← hv8, hg8]; exact (Bk.new w2 99 #[.int .i64 e.t, .int .i64 e.s, .int .i64 e.q, .int .i64 e.d, .int .i64 e.k, .int .i64 e.v, .int .i64 e.g]).lt)
    clear hv8 hg8
    go_simp
    rw [HW8.out, ← HG8.out]
    refine hK.out _ _ (keepE E_8.out) (fun hHeld => ?_)
    clear hK K
    try simp only [Act.put, List.setIfInBounds_toArray, List.set_cons_zero, List.set_cons_succ]
    refine wpAnyH_ready (rs := [0]) (by kernel_rfl) (by simp) ?_
    refine AllReadyH.cons (o := { dst := some 22, op := Op.buildSlice 29 0 #[], type := 29, pos := _, after := _, guard := none }) rfl (fun K hK => ?_) AllReadyH.nil
    ·obtain ⟨g9, hg9⟩ : ∃ g, g = v8.heap.size := ⟨_, rfl⟩
     obtain ⟨v9, hv9⟩ : ∃ V, (v8.alloc (.cells #[] 99)) = V := ⟨_, rfl⟩
     have HW9 := hidInsG hv9
     have HG9 : Hid (g9 = v8.heap.size) := hg9
     have E_9 : Hid (Bk v9 w.heap.size 99 #[.int .i64 e.t, .int .i64 e.s, .int .i64 e.q, .int .i64 e.d, .int .i64 e.k, .int .i64 e.v, .int .i64 e.g]) := by (rw [← hv9]; exact E_8.out.alloc _)
     have B_9 : Hid (Below w2.heap.size w2 v9) := by (rw [← hv9]; exact B_8.out.alloc B_8.out.size _)
     have O_9 : Hid (Bk v9 g8 99 #[.int .i64 e.t, .int .i64 e.s, .int .i64 e.q, .int .i64 e.d, .int .i64 e.k, .int .i64 e.v, .int .i64 e.g]) := by (rw [← hv9]; exact O_8.out.alloc _)
     have R_9 : Hid (v9.ownsRow w2.heap.size 99 7 (.slice (some ⟨g9, 0, none⟩) 0 0) 0 []) := by (rw [← hv9, hg9]; exact owns_mono (row_empty v8) (B_8.out.size))
     have hx9 : v8.heap.size ≤ g9 ∧ g9 ≤ v8.heap.size := by omega
     have hy9 : g9 < v9.heap.size := by (rw [← hv9, hg9]; exact (Bk.new v8 99 #[]).lt)
     clear hv9 hg9
     go_simp
     rw [HW9.out, ← HG9.out]
     refine hK.out _ _ (keepE E_9.out) (fun hHeld => ?_)
     clear hK K
     try simp only [Act.put, List.setIfInBounds_toArray, List.set_cons_zero, List.set_cons_succ]
     refine wpAnyH_ready (rs := [4]) (by kernel_rfl) (by simp) ?_
     refine AllReadyH.cons (o := { dst := some 26, op := Op.call { callee := Callee.builtin Builtin.append, args := #[Operand.tmp 22, Operand.tmp 25], argTypes := #[29, 29] }, type := 29, pos := _, after := _, guard := none }) rfl (fun K hK => ?_) AllReadyH.nil
     ·refine step_append_src (w := v9) rfl (.tmp 22) (.tmp 25) 29 rfl w2.heap.size 99 i0 (.agg #[.int .i64 0, .int .i64 0, .int .i64 0, .int .i64 0, .int .i64 0, .int .i64 0, .int .i64 0]) 7 56 Tryz.underlying29 hi hz0 hz1 hz2 rfl (by decide) (.slice (some ⟨g9, 0, none⟩) 0 0) (0) ([]) rfl R_9.out (.slice av m1 cv) (m1) (cellsL (l.take k)) rfl (HS1.out.below (HB2.out.trans (B_9.out.mono hle2))) (cellsL_one _) (by unfold maxLen; omega) (by omega) B_9.out.size ?_
      intro vn10 v10 hown hgrow hnew
      rw [Nat.zero_add, List.nil_append] at hown
      obtain ⟨aw10, cw10, hvw⟩ := owns_slice hown
      subst hvw
      have hgt := grown_turns hgrow
      have hzz10 : v9.heap.size ≤ v10.heap.size := hgrow.size
      have HRG10 : Hid (∀ b, (.slice (some ⟨g9, 0, none⟩) 0 0 : Value).ownBlock = some b → w2.heap.size ≤ b) := fun b hb => row_ge R_9.out hb
      have HNE10 : Hid (∀ b, (.slice (some ⟨g9, 0, none⟩) 0 0 : Value).ownBlock = some b → b ≠ g8) := fun b hb e1 => by simp [Value.ownBlock] at hb; omega
      have E_10 := hidInsG (E_9.out.turns hgt (fun e1 => by have := HRG10.out _ e1; omega))
      have B_10 := hidInsG (B_9.out.grown hgrow B_9.out.size (fun b e1 => HRG10.out b e1))
      have O_10 := hidInsG (O_9.out.turns hgt (fun e1 => HNE10.out _ e1 rfl))
      have R_10 := hidInsG hown
      have HNQ10 : Hid (∀ b, (Value.slice aw10 m1 cw10).ownBlock = some b → b ≠ g8) := fun b hb e1 => by rcases hnew with h9 | h9; exact HNE10.out b (h9 ▸ hb) e1; have := h9 b hb; have := O_10.out.lt; omega
      clear hown hgrow hnew hgt
      refine hK.out _ _ (keepE E_10.out) (fun hHeld => ?_)
      clear hK K
      try simp only [Act.put, List.setIfInBounds_toArray, List.set_cons_zero, List.set_cons_succ]
      refine wpAnyH_ready (rs := [7]) (by kernel_rfl) (by simp) ?_
      refine AllReadyH.cons (o := { dst := some 29, op := Op.call { callee := Callee.builtin Builtin.append, args := #[Operand.tmp 26, Operand.tmp 28], argTypes := #[29, 29] }, type := 29, pos := _, after := _, guard := none }) rfl (fun K hK => ?_) AllReadyH.nil
      ·refine step_append_src (w := v10) rfl (.tmp 26) (.tmp 28) 29 rfl w2.heap.size 99 i0 (.agg #[.int .i64 0, .int .i64 0, .int .i64 0, .int .i64 0, .int .i64 0, .int .i64 0, .int .i64 0]) 7 56 Tryz.underlying29 hi hz0 hz1 hz2 rfl (by decide) (.slice aw10 m1 cw10) (m1) ((cellsL (l.take k))) rfl R_10.out (.slice (some ⟨g8, 0, none⟩) 1 1) (1) e.cs rfl O_10.out.one (Ev.cs_one e) (by unfold maxLen; omega) (by omega) B_10.out.size ?_
       intro vn11 v11 hown hgrow hnew
       obtain ⟨aw11, cw11, hvw⟩ := owns_slice hown
       subst hvw
       have hgt := grown_turns hgrow
       have hzz11 : v10.heap.size ≤ v11.heap.size := hgrow.size
       have HRG11 : Hid (∀ b, (.slice aw10 m1 cw10 : Value).ownBlock = some b → w2.heap.size ≤ b) := fun b hb => row_ge R_10.out hb
       have HNE11 : Hid (∀ b, (.slice aw10 m1 cw10 : Value).ownBlock = some b → b ≠ g8) := fun b hb e1 => HNQ10.out b hb e1
       have E_11 := hidInsG (E_10.out.turns hgt (fun e1 => by have := HRG11.out _ e1; omega))
       have B_11 := hidInsG (B_10.out.grown hgrow B_10.out.size (fun b e1 => HRG11.out b e1))
       have O_11 := hidInsG (O_10.out.turns hgt (fun e1 => HNE11.out _ e1 rfl))
       have R_11 := hidInsG hown
       clear hown hgrow hnew hgt
       refine hK.out _ _ (keepE E_11.out) (fun hHeld => ?_)
       clear hK K
       try simp only [Act.put, List.setIfInBounds_toArray, List.set_cons_zero, List.set_cons_succ]
       refine thInsG 8 { dst := some 6, op := Op.assign (Operand.tmp 29), type := 29, pos := _, after := _, guard := none } (.slice aw11 (m1 + 1) cw11) ?_
       try simp only [Act.put, List.setIfInBounds_toArray, List.set_cons_zero, List.set_cons_succ]
       refine wpAnyH_done (by kernel_rfl) ?_ _
       clear hHeld
       go_wp2_with (at_builtin; refine wpList_append_src _ rfl _ _ 29 rfl w2.heap.size 99 i0 (.agg #[.int .i64 0, .int .i64 0, .int .i64 0, .int .i64 0, .int .i64 0, .int .i64 0, .int .i64 0]) 7 56 Tryz.underlying29 hi hz0 hz1 hz2 rfl (by decide) (.slice aw11 (m1 + 1) cw11) ((m1 + 1)) (((cellsL (l.take k)) ++ e.cs)) rfl R_11.out (.slice au m2 cu) m2 (cellsL (l.drop k)) rfl (HS2.out.below (HB2.out.trans (B_11.out.mono hle2))) (cellsL_one _) (by unfold maxLen; omega) (by omega) B_11.out.size ?_; intro vn wn hown hgrow hnew)
       go_ret
       refine ⟨k, vn, rfl, HINS.out, OwnR.mono (show OwnR w2.heap.size _ _ _ from ?_) hle2, HB2.out.trans ((B_11.out.grown hgrow B_11.out.size (fun b e1 => row_ge R_11.out e1)).mono hle2)⟩
       have hlen : (l.take k ++ e :: l.drop k).length = (m1 + 1) + m2 := by rw [← HM.out.1, ← HM.out.2]; simp; omega
       unfold OwnR
       rw [hlen, cellsL_append]
       show World.ownsRow _ _ _ _ _ _ (cellsL (l.take k) ++ (e.cs ++ cellsL (l.drop k)))
       rw [← List.append_assoc]
       simpa using hown
end Go.Proofs.YthfhibnnkpbeiaaGreat

/- The program's iterator over the events of a list: what it hands to its loop. -/
namespace Go.Proofs.YthfhibnnkpbeiaaGreat
open Go.RowKit Go.Shelf
theorem hidEach {p : Prop} (h : p) : Hid p := h
attribute [local go_sem] Oper.semAt_some
theorem fin_take_succ (n k : Nat) (h : k < n) : (List.finRange n).take (k + 1) = (List.finRange n).take k ++ [⟨k, h⟩] := by
 rw [List.take_succ_eq_append_getElem (by simpa using h)]; simp
theorem fin_take_length (n k : Nat) (h : k ≤ n) : ((List.finRange n).take k).length = k := by simp [h]
abbrev evArgs (l : List Ev) (x : Fin l.length) : Array Value := #[.int .i64 ((x.val : Nat) : Int), (evAt l x.val).val]
def Same2 (c b : Nat) (A B : World) : Prop := B.heap[c]? = A.heap[c]? ∧ B.heap[b]? = A.heap[b]?
theorem Same2.refl (c b : Nat) (A : World) : Same2 c b A A := ⟨rfl, rfl⟩
theorem Same2.trans {c b : Nat} {A B C : World} (h : Same2 c b A B) (k : Same2 c b B C) : Same2 c b A C := ⟨k.1.trans h.1, k.2.trans h.2⟩
theorem Same2.below {c b n : Nat} {A B : World} (h : Below n A B) (hc : c < n) (hb : b < n) : Same2 c b A B := ⟨h.block c hc, h.block b hb⟩
theorem Same2.putObj {c b : Nat} {w : World} (hc : c < w.heap.size) (hb : b < w.heap.size) (W : World) (l : Nat) (o o' : Obj) (hl : w.heap.size ≤ l) (_ : W.heap[l]? = some o) (_ : o.isCells = false) (_ : o.isWalk = false) : Same2 c b W (W.putObj l o') :=
 ⟨World.putObj_heap_other (by omega), World.putObj_heap_other (by omega)⟩
theorem Same2.cell1 {c b : Nat} {A B : World} (h : Same2 c b A B) (o : Nat) : B.cell? ⟨c, o, none⟩ = A.cell? ⟨c, o, none⟩ := World.cell?_of_block (w := A) h.1
theorem Same2.cell2 {c b : Nat} {A B : World} (h : Same2 c b A B) (o : Nat) : B.cell? ⟨b, o, none⟩ = A.cell? ⟨b, o, none⟩ := World.cell?_of_block (w := A) h.2
theorem Same2.ev {c b o : Nat} {A B : World} {e : Ev} (h : Same2 c b A B) (k : Ev.In A b o e) : Ev.In B b o e :=
 ⟨(h.cell2 _).trans k.f0, (h.cell2 _).trans k.f1, (h.cell2 _).trans k.f2, (h.cell2 _).trans k.f3, (h.cell2 _).trans k.f4, (h.cell2 _).trans k.f5, (h.cell2 _).trans k.f6⟩
set_option maxRecDepth 100000 in
set_option maxHeartbeats 2000000 in
theorem each1_in (F : Fence) (n : Nat) (h49 : F.fn 103) (hro : F.round = none) (hn : 1 ≤ n) (lp Bs b off cap : Nat) (l : List Ev) (hreach : l.length ≤ 1048576) (J Jx : List (Fin l.length) → World → Prop)
  (hY : ∀ pre x W, J pre W → pre.length < l.length → YieldAt F (n - 1) Tryz.prog lp (evArgs l x) W fun e W' =>
   (e = .returned (.bool true) ∧ J (pre ++ [x]) W' ∧ Same2 Bs b W W') ∨ (e = .returned (.bool false) ∧ Jx (pre ++ [x]) W'))
  (W : World) (hBs : W.cell? ⟨Bs, 0, none⟩ = some (.slice (some ⟨b, off, none⟩) l.length cap)) (hc : ∀ i, i < l.length → Ev.In W b (off + i * 7) (evAt l i)) (h0 : J [] W) :
  CallsIn F n Tryz.prog 103 #[.func (.yield lp) #[] #[], .pointer (some ⟨Bs, 0, none⟩)] W fun e W' => (∃ v, e = .returned v) ∧
   ((∃ ys, ys = List.finRange l.length ∧ J ys W') ∨ (∃ pre, (∃ k, k ≤ l.length ∧ pre = (List.finRange l.length).take k) ∧ Jx pre W')) := by
 refine callsIn_of_wp Tryz.func103 rfl h49 ?_ hro
 simp only [Tryz.ntmps103, List.size_toArray, List.length_cons, List.length_nil, Nat.reduceAdd, Nat.reduceSub, Array.replicate_succ, Array.replicate_zero, List.push_toArray, List.append_toArray, List.nil_append, List.cons_append]
 gi_wp2
 gi_loopw [6] (fun i wr => ∃ k : Nat, k ≤ l.length ∧ i = .int .i64 k ∧ J ((List.finRange l.length).take k) wr ∧ Same2 Bs b W wr)
  (fun i _ => l.length - (intOf i).toNat)
 case atStart => exact ⟨0, Nat.zero_le _, rfl, by simpa using h0, Same2.refl _ _ _⟩
 case round =>
  obtain ⟨k, hk, rfl, hJs, hnx⟩ := hrel
  have hBs' : wr.cell? ⟨Bs, 0, none⟩ = some (.slice (some ⟨b, off, none⟩) l.length cap) := (hnx.cell1 0).trans hBs
  by_cases hlt : k < l.length
  ·have hy0 := hY _ ⟨k, hlt⟩ wr hJs (by rw [fin_take_length _ _ hk]; exact hlt)
   rw [← fin_take_succ _ _ hlt] at hy0
   obtain ⟨fn, tmps, assign, body, hy, hR⟩ := hy0
   simp only [evArgs] at hy
   obtain ⟨f0, f1, f2, f3, f4, f5, f6⟩ := hnx.ev (hc k hlt)
   have HC := hidEach hc
   clear hc hY
   gi_wp2
   refine hR.mono ?_
   rintro e W3 (⟨rfl, hJ3, hk3⟩ | ⟨rfl, hJx3⟩)
   ·gi_wp2
    go_roundw
    case rel => exact ⟨k + 1, by omega, by simp, hJ3, hnx.trans hk3⟩
    case measure => simp [intOf]; omega
   ·gi_wp2
    refine bodyPost_ret (results_none rfl _ _ _) rfl ?_
    exact ⟨⟨_, rfl⟩, .inr ⟨_, ⟨k + 1, by omega, rfl⟩, hJx3⟩⟩
  ·obtain rfl : k = l.length := by omega
   gi_wp2
   go_end0
   exact ⟨⟨_, rfl⟩, .inl ⟨_, rfl, by rw [List.take_of_length_le (by simp)] at hJs; exact hJs⟩⟩
set_option maxRecDepth 100000 in
set_option maxHeartbeats 1000000 in
theorem each1_nil (F : Fence) (n : Nat) (h49 : F.fn 103) (hro : F.round = none) (lp Bs cap : Nat) (a : Option Addr) (J : List (Fin 0) → World → Prop) (W : World) (hBs : W.cell? ⟨Bs, 0, none⟩ = some (.slice a 0 cap)) (h0 : J [] W) :
  CallsIn F n Tryz.prog 103 #[.func (.yield lp) #[] #[], .pointer (some ⟨Bs, 0, none⟩)] W fun e W' => (∃ v, e = .returned v) ∧ J [] W' := by
 refine callsIn_of_wp Tryz.func103 rfl h49 ?_ hro
 simp only [Tryz.ntmps103, List.size_toArray, List.length_cons, List.length_nil, Nat.reduceAdd, Nat.reduceSub, Array.replicate_succ, Array.replicate_zero, List.push_toArray, List.append_toArray, List.nil_append, List.cons_append]
 gi_wp2
 gi_loopw [6] (fun i wr => i = .int .i64 0 ∧ J [] wr) (fun _ _ => 0)
 case atStart => exact ⟨rfl, h0⟩
 case round =>
  obtain ⟨rfl, hJs⟩ := hrel
  gi_wp2
  go_end0
  exact ⟨⟨_, rfl⟩, hJs⟩
set_option maxHeartbeats 1000000 in
theorem each_any (a : Option Addr) (len cap : Nat) (w : World) :
  Calls Tryz.prog 80 #[.slice a len cap] w fun e w' => e = .returned (.func (.func 103) #[] #[.pointer (some ⟨w.heap.size, 0, none⟩)]) ∧ w' = w.alloc (.cells #[.slice a len cap] 29) := by
 go_enter Tryz.func80, Tryz.ntmps80
 go_wp2
 go_ret
 exact ⟨rfl, rfl⟩
theorem each_stops (F : Fence) (n : Nat) (h49 : F.fn 103) (hro : F.round = none) (hn : 1 ≤ n) (c b : Nat) (a : Option Addr) (cap : Nat) (l : List Ev) (hreach : l.length ≤ 1048576) (w : World) (hcs : c < w.heap.size)
  (hc : w.cell? ⟨c, 0, none⟩ = some (.slice a l.length cap)) (hI : l = [] ∨ ∃ off, a = some ⟨b, off, none⟩ ∧ EvsAt w b off l) :
  SeqStopsK F n Tryz.prog 103 #[.pointer (some ⟨c, 0, none⟩)] (evArgs l) (Same2 c b) (fun ys => ys = List.finRange l.length) (fun pre => ∃ k, k ≤ l.length ∧ pre = (List.finRange l.length).take k) l.length w := fun lp J Jx W hW _ _ hY h0 => by
 have hc' := (hW.cell (p := ⟨c, 0, none⟩) hcs).trans hc
 rcases hI with rfl | ⟨off, rfl, hb, hev⟩
 ·exact (each1_nil F n h49 hro lp c cap a J W hc' h0).mono fun e W' ⟨he, hj⟩ => ⟨he, .inl ⟨_, rfl, hj⟩⟩
 ·exact each1_in F n h49 hro hn lp c b off cap l hreach J Jx hY W hc' (fun i hi => (hev i hi).below hW hb) h0
end Go.Proofs.YthfhibnnkpbeiaaGreat

