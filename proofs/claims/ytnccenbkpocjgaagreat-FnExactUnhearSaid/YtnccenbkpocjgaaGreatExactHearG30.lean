/- PA2, PTb, PTc, PCpO, PCp -/
import Derived.Test.YtnccenbkpocjgaaGreatExactHearG11
import Derived.Test.YtnccenbkpocjgaaGreatExactHearG26
import Derived.Test.YtnccenbkpocjgaaGreatExactHearG18
import Derived.Sort.BigQuietIn
import Derived.Deep.RegionHeld3
/- An answer of a part and a list: what it reads as, what it owns. -/
namespace Go.Proofs.YtnccenbkpocjgaaGreat
open Go.RowKit
theorem IsPart.below {w w' : World} {x : Value} {p : Pa} (h : IsPart w x p) (hb : Below w.heap.size w w') : IsPart w' x p := h.under hb
theorem PartF.below {F : Nat → Prop} {w w' : World} {x : Value} {p : Pa} (h : PartF F w x p) (hb : Below w.heap.size w w') : PartF F w' x p := h.under hb
def A2 (R : Nat → Prop) (w : World) (y1 y2 : Value) (a : Pa) (d : Dat) : Prop := ∃ F G : Nat → Prop, PartF F w y1 a ∧ OwnD w G y2 d ∧ (∀ k, F k → R k ∧ ¬ G k) ∧ (∀ k, G k → R k)
theorem A2.turns {R S : Nat → Prop} {w w' : World} {y1 y2 : Value} {a : Pa} {d : Dat} (h : A2 R w y1 y2 a d) (ht : Turns S w w') (hS : ∀ k, R k → ¬ S k) : A2 R w' y1 y2 a d := by
 obtain ⟨F, G, h1, h2, hF, hG⟩ := h
 exact ⟨F, G, h1.turns ht (fun k hk => hS k (hF k hk).1), h2.turns ht (fun k hk => hS k (hG k hk)), hF, hG⟩
theorem A2.below {R : Nat → Prop} {w w' : World} {y1 y2 : Value} {a : Pa} {d : Dat} (h : A2 R w y1 y2 a d) (hb : Below w.heap.size w w') : A2 R w' y1 y2 a d :=
 h.turns (S := fun _ => False) (Turns.of_below hb) (fun _ _ => id)
theorem A2.mono {R R' : Nat → Prop} {w : World} {y1 y2 : Value} {a : Pa} {d : Dat} (h : A2 R w y1 y2 a d) (hR : ∀ k, R k → R' k) : A2 R' w y1 y2 a d := by
 obtain ⟨F, G, h1, h2, hF, hG⟩ := h
 exact ⟨F, G, h1, h2, fun k hk => ⟨hR k (hF k hk).1, (hF k hk).2⟩, fun k hk => hR k (hG k hk)⟩
theorem A2.part {R : Nat → Prop} {w : World} {y1 y2 : Value} {a : Pa} {d : Dat} (h : A2 R w y1 y2 a d) : IsPart w y1 a := by
 obtain ⟨F, G, h1, h2, hF, hG⟩ := h
 exact h1.is
theorem A2.list {R : Nat → Prop} {w : World} {y1 y2 : Value} {a : Pa} {d : Dat} (h : A2 R w y1 y2 a d) : IsD w y2 d := by
 obtain ⟨F, G, h1, h2, hF, hG⟩ := h
 exact h2.isD
theorem A2.form {R : Nat → Prop} {w : World} {y1 y2 : Value} {p : Pa} {c n : Nat} {f : Nat → Dat} (h : A2 R w y1 y2 p (.row c n f)) : ∃ a1 c1 a4 c4 a5 c5 a6 c6 a7 c7, y1 = .agg #[.int .i64 p.n, .slice a1 p.st.r.length c1, .int .i64 p.st.q, .int .i64 p.st.d, .slice a4 p.p.length c4, .slice a5 p.t.length c5, .slice a6 p.a.length c6] ∧ y2 = .slice a7 n c7 := by
 obtain ⟨F, G, h1, h2, hF, hG⟩ := h
 obtain ⟨a1, c1, a4, c4, a5, c5, a6, c6, rfl⟩ := h1.form
 obtain ⟨a7, c7, rfl, _⟩ := h2.parts
 exact ⟨a1, c1, a4, c4, a5, c5, a6, c6, a7, c7, rfl, rfl⟩
def H2 (R : Nat → Prop) (w : World) (y1 y2 : Value) (a : Pa) (d : Dat) : Prop := ∃ F G : Nat → Prop, HeldPart F w y1 a 1 ∧ OwnD w G y2 (d.mark (1 + (a.cntA : Int))) ∧ (∀ k, F k → R k ∧ ¬ G k) ∧ (∀ k, G k → R k)
theorem H2.turns {R S : Nat → Prop} {w w' : World} {y1 y2 : Value} {a : Pa} {d : Dat} (h : H2 R w y1 y2 a d) (ht : Turns S w w') (hS : ∀ k, R k → ¬ S k) : H2 R w' y1 y2 a d := by
 obtain ⟨F, G, h1, h2, hF, hG⟩ := h
 exact ⟨F, G, h1.turns ht (fun k hk => hS k (hF k hk).1), h2.turns ht (fun k hk => hS k (hG k hk)), hF, hG⟩
theorem H2.below {R : Nat → Prop} {w w' : World} {y1 y2 : Value} {a : Pa} {d : Dat} (h : H2 R w y1 y2 a d) (hb : Below w.heap.size w w') : H2 R w' y1 y2 a d :=
 h.turns (S := fun _ => False) (Turns.of_below hb) (fun _ _ => id)
def H1 (R : Nat → Prop) (w : World) (y1 y2 : Value) (a : Pa) (d : Dat) : Prop := ∃ F G : Nat → Prop, HeldPart F w y1 a 1 ∧ OwnD w G y2 d ∧ (∀ k, F k → R k ∧ ¬ G k) ∧ (∀ k, G k → R k)
theorem Turns.wide {F R : Nat → Prop} {w w' : World} (h : Turns F w w') (hF : ∀ k, F k → R k) : Turns R w w' := h.mono hF
theorem A2.mark1 {R : Nat → Prop} {w : World} {y1 y2 : Value} {a : Pa} {d : Dat} (hn : a.wt ≤ 1048577) (h : A2 R w y1 y2 a d) :
  Calls Tryz.prog 14 #[y1, .int .i64 1] w fun e w' => e = .returned (.int .i64 (1 + (a.cntA : Int))) ∧ H1 R w' y1 y2 a d ∧ Turns R w w' := by
 obtain ⟨F, G, h1, h2, hF, hG⟩ := h
 refine (markPart_any 1 hn (by omega) (by have := Pa.cntA_le a; omega) h1).mono ?_
 rintro e w' ⟨rfl, hh, ht⟩
 exact ⟨rfl, ⟨F, G, hh, h2.turns ht (fun k hk hk' => (hF k hk').2 hk), hF, hG⟩, ht.wide (fun k hk => (hF k hk).1)⟩
theorem H2.held1 {R : Nat → Prop} {w : World} {y1 y2 : Value} {a : Pa} {d : Dat} (hn : a.wt ≤ 1048577) (h : H2 R w y1 y2 a d) :
  Calls Tryz.prog 15 #[y1, .int .i64 1] w fun e w' => e = .returned (.int .i64 (1 + (a.cntA : Int))) ∧ Below w.heap.size w w' := by
 obtain ⟨F, G, h1, h2, hF, hG⟩ := h
 exact heldPart_any 1 hn (by omega) (by have := Pa.cntA_le a; omega) h1
theorem H1.mark2e {R : Nat → Prop} {w : World} {y1 y2 : Value} {a : Pa} {l : List Ev} (hn : a.wt ≤ 1048577) (hl : l.length ≤ 1048577) (h : H1 R w y1 y2 a (evsD l)) :
  Calls Tryz.prog 22 #[y2, .int .i64 (1 + (a.cntA : Int))] w fun e w' => e = .returned (.int .i64 (1 + (a.cntA : Int) + ((evsD l).cnt : Int))) ∧ H2 R w' y1 y2 a (evsD l) ∧ Turns R w w' := by
 obtain ⟨F, G, h1, h2, hF, hG⟩ := h
 have t1 := Pa.cntA_le a
 refine (mark_evs _ hl (by omega) (by omega) h2).mono ?_
 rintro e w' ⟨rfl, hh, ht⟩
 exact ⟨rfl, ⟨F, G, h1.turns ht (fun k hk hk' => (hF k hk).2 hk'), hh, hF, hG⟩, ht.wide hG⟩
theorem H2.held2e {R : Nat → Prop} {w : World} {y1 y2 : Value} {a : Pa} {l : List Ev} (hn : a.wt ≤ 1048577) (hl : l.length ≤ 1048577) (h : H2 R w y1 y2 a (evsD l)) :
  Calls Tryz.prog 23 #[y2, .int .i64 (1 + (a.cntA : Int))] w fun e w' => e = .returned (.int .i64 (1 + (a.cntA : Int) + ((evsD l).cnt : Int))) ∧ Below w.heap.size w w' := by
 obtain ⟨F, G, h1, h2, hF, hG⟩ := h
 have t1 := Pa.cntA_le a
 exact held_evs _ hl (by omega) (by omega) h2
end Go.Proofs.YtnccenbkpocjgaaGreat

/- The program's pastCmp; slices.BinarySearchFunc over what was done. -/
namespace Go.Proofs.YtnccenbkpocjgaaGreat
open Go.RowKit
end Go.Proofs.YtnccenbkpocjgaaGreat

/- slices.BinarySearchFunc over what was done. -/
namespace Go.Proofs.YtnccenbkpocjgaaGreat
open Go.RowKit
end Go.Proofs.YtnccenbkpocjgaaGreat

/- The program's copies: lists of any length, states. -/
namespace Go.Proofs.YtnccenbkpocjgaaGreat
open Go.RowKit
theorem hidPCpO {p : Prop} (h : p) : Hid p := h
set_option maxRecDepth 100000 in
set_option maxHeartbeats 2000000 in
theorem copyEv_src (x : Value) (l : List Ev) (w : World) (hl : l.length ≤ 1048577) (h : SrcC w x 7 l.length (cellsL l)) :
  Calls Tryz.prog 83 #[x] w fun e w' => ∃ y, e = .returned y ∧ w'.ownsRow w.heap.size 55 7 y l.length (cellsL l) ∧ Below w.heap.size w w' := by
 obtain ⟨i0, hi, hz0, hz1, hz2⟩ := info_parts info25
 have HS := hidPCpO h
 obtain ⟨_, a, c, rfl, _⟩ := h
 go_enter Tryz.func83, Tryz.ntmps83
 go_wp2_with (at_builtin; refine wpList_append_src _ rfl _ _ 31 rfl w.heap.size 55 i0 _ 7 56 Tryz.underlying31 hi hz0 hz1 hz2 rfl (by decide) (.slice none 0 0) 0 [] rfl (World.ownsRow_nil w w.heap.size 55 7) (.slice a l.length c) l.length (cellsL l) rfl HS.out (cellsL_ones l) (by unfold maxLen; omega) (by omega) (Nat.le_refl _) ?_; intro v' w' hown hgrow hnew)
 go_ret
 rw [Nat.zero_add, List.nil_append] at hown
 exact ⟨_, rfl, hown, (Below.refl _ w).grown hgrow (Nat.le_refl _) (fun k e => by cases e)⟩
set_option maxRecDepth 100000 in
set_option maxHeartbeats 2000000 in
theorem copyEm_src (x : Value) (l : List Em) (w : World) (hl : l.length ≤ 1048577) (h : SrcC w x 3 l.length (cellsX l)) :
  Calls Tryz.prog 182 #[x] w fun e w' => ∃ y, e = .returned y ∧ w'.ownsRow w.heap.size 191 3 y l.length (cellsX l) ∧ Below w.heap.size w w' := by
 obtain ⟨i0, hi, hz0, hz1, hz2⟩ := info_parts infoPX
 have HS := hidPCpO h
 obtain ⟨_, a, c, rfl, _⟩ := h
 go_enter Tryz.func182, Tryz.ntmps182
 go_wp2_with (at_builtin; refine wpList_append_src _ rfl _ _ 110 rfl w.heap.size 191 i0 _ 3 24 Tryz.underlying110 hi hz0 hz1 hz2 rfl (by decide) (.slice none 0 0) 0 [] rfl (World.ownsRow_nil w w.heap.size 191 3) (.slice a l.length c) l.length (cellsX l) rfl HS.out (cellsX_ones l) (by unfold maxLen; omega) (by omega) (Nat.le_refl _) ?_; intro v' w' hown hgrow hnew)
 go_ret
 rw [Nat.zero_add, List.nil_append] at hown
 exact ⟨_, rfl, hown, (Below.refl _ w).grown hgrow (Nat.le_refl _) (fun k e => by cases e)⟩
set_option maxRecDepth 100000 in
set_option maxHeartbeats 2000000 in
theorem copyI_src (x : Value) (l : List Int) (w : World) (hl : l.length ≤ 1048577) (h : SrcC w x 1 l.length (intCells l)) :
  Calls Tryz.prog 136 #[x] w fun e w' => ∃ y, e = .returned y ∧ w'.ownsRow w.heap.size 3 1 y l.length (intCells l) ∧ Below w.heap.size w w' := by
 obtain ⟨i0, hi, hz0, hz1, hz2⟩ := info_parts info3
 have HS := hidPCpO h
 obtain ⟨_, a, c, rfl, _⟩ := h
 go_enter Tryz.func136, Tryz.ntmps136
 go_wp2_with (at_builtin; refine wpList_append_src _ rfl _ _ 22 rfl w.heap.size 3 i0 _ 1 8 Tryz.underlying22 hi hz0 hz1 hz2 rfl (by decide) (.slice none 0 0) 0 [] rfl (World.ownsRow_nil w w.heap.size 3 1) (.slice a l.length c) l.length (intCells l) rfl HS.out (intCells_ones l) (by unfold maxLen; omega) (by omega) (Nat.le_refl _) ?_; intro v' w' hown hgrow hnew)
 go_ret
 rw [Nat.zero_add, List.nil_append] at hown
 exact ⟨_, rfl, hown, (Below.refl _ w).grown hgrow (Nat.le_refl _) (fun k e => by cases e)⟩
set_option maxRecDepth 100000 in
set_option maxHeartbeats 4000000 in
theorem snap_src (x vr : Value) (s : St) (w : World) (hl : s.r.length ≤ 1048577) (hx : x = .agg #[vr, .int .i64 s.q, .int .i64 s.d]) (h : IsD w vr (intsD s.r)) :
  Calls Tryz.prog 134 #[x] w fun r w' => ∃ v, r = .returned (.agg #[v, .int .i64 s.q, .int .i64 s.d]) ∧ w'.ownsRow w.heap.size 3 1 v s.r.length (intCells s.r) ∧ Below w.heap.size w w' := by
 obtain ⟨ar, cr, rfl, _⟩ := IsD.len h
 subst hx
 obtain ⟨W0, hW0⟩ : ∃ W0, (w.alloc (.cells #[.slice ar s.r.length cr, .int .i64 s.q, .int .i64 s.d] 29)).alloc (.cells #[.slice none 0 0, .int .i64 0, .int .i64 0] 29) = W0 := ⟨_, rfl⟩
 have hz0 : W0.heap.size = w.heap.size + 1 + 1 := by rw [← hW0]; simp
 have hb0 : Below w.heap.size w W0 := hW0 ▸ ((Below.refl _ w).alloc (Nat.le_refl _) _).alloc (by simp) _
 have HBw := hidPCpO hb0
 have HW0 := hidPCpO hW0
 have BX : Hid (Bk W0 w.heap.size 29 #[.slice ar s.r.length cr, .int .i64 s.q, .int .i64 s.d]) := hW0 ▸ (Bk.new w _ _).alloc _
 have BZ : Hid (Bk W0 (w.heap.size + 1) 29 #[.slice none 0 0, .int .i64 0, .int .i64 0]) := hW0 ▸ Bk.newAt (by simp) _ _
 have D1 := hidPCpO (h.under hb0)
 have hz0' : W0.heap.size ≤ w.heap.size + 1 + 1 ∧ w.heap.size + 1 + 1 ≤ W0.heap.size := by omega
 have x0 := BX.out.cell (i := 0) rfl
 clear hb0 h hz0
 go_enter Tryz.func134, Tryz.ntmps134
 go_wp2_with fail
 clear hW0 x0
 refine (copyI_src _ s.r W0 hl D1.out.srcI).mono ?_
 rintro e w1 ⟨v, rfl, hown, hb⟩
 obtain ⟨av, cv, hv⟩ := owns_slice hown
 subst hv
 have HO := hidPCpO hown
 have hz1 : W0.heap.size ≤ w1.heap.size := hb.size
 have HB1 := hidPCpO (HBw.out.trans (hb.mono (by omega)))
 have X1 := hidPCpO (BX.out.below hb)
 have Z1 := hidPCpO (BZ.out.below hb)
 have x0 := X1.out.cell (i := 0) rfl
 have xf := X1.out.free
 obtain ⟨W2, hW2⟩ : ∃ V, w1.setCell ⟨w.heap.size, 0, none⟩ (.slice av s.r.length cv) = V := ⟨_, rfl⟩
 have hP := X1.out.put 0 (.slice av s.r.length cv)
 have ht := put1_turns w1 w.heap.size 0 (.slice av s.r.length cv)
 rw [hW2] at hP ht
 have HW2 := hidPCpO hW2
 have X2 := hidPCpO hP
 have Z2 := hidPCpO (Z1.out.turns ht (by omega))
 have T2 := hidPCpO ht
 clear hW2 hP ht hown hb
 have y0 := X2.out.cell (i := 0) rfl
 have y1 := X2.out.cell (i := 1) rfl
 have y2 := X2.out.cell (i := 2) rfl
 have z0 := Z2.out.cell (i := 0) rfl
 have z1 := Z2.out.cell (i := 1) rfl
 have z2 := Z2.out.cell (i := 2) rfl
 have zf := Z2.out.free
 have hW2 := HW2.out
 obtain ⟨X5, hX5⟩ : ∃ X5, put3s W2 (w.heap.size + 1) (.slice av s.r.length cv) (.int .i64 s.q) (.int .i64 s.d) = X5 := ⟨_, rfl⟩
 have hP5 := Z2.out.put3s (.slice av s.r.length cv) (.int .i64 s.q) (.int .i64 s.d)
 have ht5 := put3s_turns W2 (w.heap.size + 1) (.slice av s.r.length cv) (.int .i64 s.q) (.int .i64 s.d)
 rw [hX5] at hP5 ht5
 have HP5 := hidPCpO hP5
 have HT5 := hidPCpO ht5
 unfold put3s at hX5
 have HX5 : Hid _ := hX5
 clear hP5 ht5 hX5
 go_wp2
 rw [HX5.out]
 have t0 := HP5.out.cell (i := 0) rfl
 have t1 := HP5.out.cell (i := 1) rfl
 have t2 := HP5.out.cell (i := 2) rfl
 refine bodyPost_ret (v := .agg #[.slice av s.r.length cv, .int .i64 s.q, .int .i64 s.d]) (by simp [results, Tryz.results134, go_sem, t0, t1, t2]) rfl ⟨_, rfl, ?_, (HB1.out.trans (T2.out.to_below (fun k e => by omega) (by omega))).trans (HT5.out.to_below (fun k e => by omega) (by have := T2.out.size; omega))⟩
 exact owns_mono (owns_turns (owns_turns HO.out T2.out (fun k hk e => by have := row_ge HO.out hk; omega)) HT5.out (fun k hk e => by have := row_ge HO.out hk; omega)) (by omega)
end Go.Proofs.YtnccenbkpocjgaaGreat

/- The program's copy of what was done: all of it in memory of its own. -/
namespace Go.Proofs.YtnccenbkpocjgaaGreat
open Go.RowKit
theorem thPCp {P : Program} {md : Region.Mode} {ops : Array Oper} {Q : Exit → Act → World → Prop} {S : World → Prop} {fuel : Nat} {listed : Array Bool} {a : Act} {w : World} (i : Nat) (oi : Oper) (v : Value)
 (h : wpAnyH P md ops Q S fuel (listed.setIfInBounds i true) (a.put oi.dst v) w) (hi : ops[i]? = some oi := by rfl)
 (hs : Region.noSelect ops = true := by kernel_rfl) (hf : Region.free md ops listed i = true := by kernel_rfl) (hr : (Region.ready md ops listed).contains i = true := by kernel_rfl)
 (hQ : ∀ c a w, Q (.panic c) (a.put oi.dst v) w → Q (.panic c) a w := by exact fun _ _ _ h => h)
 (hy : YieldsIf P ops S oi v a := by exact Or.inl ⟨by rfl, by (intro wX hSw; (try dsimp only at hSw); go_simp; (try exact IntWalk.i64_in _ (by omega)))⟩) (hS : S w := by assumption) : wpAnyH P md ops Q S (fuel + 1) listed a w :=
 wpAnyH_take hi hs hf hr hQ hy hS h
theorem hidPCp {p : Prop} (h : p) : Hid p := h
set_option maxRecDepth 100000 in
set_option maxHeartbeats 16000000 in
theorem copyPasts_any (x : Value) (l : List Ps) (w : World) (hw : (pastsD l).wt ≤ 1048577) (h : IsD w x (pastsD l)) :
  Calls Tryz.prog 135 #[x] w fun r w' => ∃ y, r = .returned y ∧ Below w.heap.size w w' ∧ OwnD w' (fun k => w.heap.size ≤ k ∧ k < w'.heap.size) y (pastsD l) := by
 obtain ⟨a4, c4, rfl, _⟩ := IsD.len h
 have hl9 : l.length ≤ 1048577 := by
  have := pastsD_wt l
  omega
 have HWT := hidPCp hw
 have HD := hidPCp h
 obtain ⟨ip, hip, hip0, hip1, hip2⟩ := info_parts infoPQ
 clear hw h
 go_enter Tryz.func135, Tryz.ntmps135
 go_wp2
 go_loopw [3, 5, 8] (fun o3 u5 i wr => ∃ (k : Nat) (vp : Value) (cs : List Value) (G : Nat → Nat → Prop), k ≤ l.length ∧ vp = o3 ∧ i = .int .i64 k ∧ GrowD w.heap.size 126 wr vp 12 k cs (pastsD_f l) G ∧ Below w.heap.size w wr) (fun _ _ i _ => l.length - (intOf i).toNat)
 case atStart => exact ⟨0, _, [], fun _ _ => False, Nat.zero_le _, rfl, rfl, GrowD.nil _ _ _ _ _ _, Below.refl _ _⟩
 case round =>
  obtain ⟨k, vp, cs, G, hk, rfl, rfl, hG, hB⟩ := hrel
  obtain ⟨ap, cp, hvp⟩ := owns_slice hG.row
  subst hvp
  have HG := hidPCp hG
  have HBr := hidPCp hB
  have hzr : w.heap.size ≤ wr.heap.size := hB.size
  have HV : Hid (∀ b, (.slice ap k cp : Value).ownBlock = some b → b < wr.heap.size) := fun b e => owns_lt hG.row e
  clear hG hB
  by_cases hlt : k < l.length
  ·have hki : (k : Int) < (l.length : Int) := by omega
   have hD4 := HD.out.under HBr.out
   obtain ⟨a4', cap4, he4, _, _, h4⟩ := IsD.parts (c := 12) (n := l.length) hD4
   have h4' := h4.resolve_left (by omega)
   obtain ⟨b, off, ha4, hb4, hc4⟩ := h4'
   obtain ⟨rfl, rfl⟩ : a4 = a4' ∧ c4 = cap4 := by simpa using he4
   subst ha4
   obtain ⟨u7, u10, u11, f0, f1, f2, f3, f4, f5, f6, f7c, f8, f9, f10c, f11c, d7, d10, d11⟩ := pastsD_in hc4 hlt
   obtain ⟨f7, g7, rfl, _⟩ := IsD.len d7
   obtain ⟨f10, g10, rfl, _⟩ := IsD.len d10
   obtain ⟨f11, g11, rfl, _⟩ := IsD.len d11
   have hqs : (psAt l k).s.length ≤ 1048577 ∧ (psAt l k).x.length ≤ 1048577 ∧ (psAt l k).b.r.length ≤ 1048577 := by
    have e0 := ints_wt (psAt l k).b.r
    have e1 := Ps.wt_le hlt
    have e2 := evs_wt (psAt l k).s
    have e3 := ems_wt (psAt l k).x
    have e4 := HWT.out
    unfold Ps.wt at e1
    omega
   obtain ⟨hqs1, hqx1, hqr1⟩ := hqs
   obtain ⟨V0, hV0⟩ : ∃ V, wr.alloc (.cells #[.int .i64 (psAt l k).e.t, .int .i64 (psAt l k).e.s, .int .i64 (psAt l k).e.q, .int .i64 (psAt l k).e.d, .int .i64 (psAt l k).e.k, .int .i64 (psAt l k).e.v, .int .i64 (psAt l k).e.g, .slice f7 (psAt l k).b.r.length g7, .int .i64 (psAt l k).b.q, .int .i64 (psAt l k).b.d, .slice f10 (psAt l k).s.length g10, .slice f11 (psAt l k).x.length g11] 126) = V := ⟨_, rfl⟩
   have HV0 := hidPCp hV0
   have hbv : Below wr.heap.size wr V0 := hV0 ▸ (Below.refl _ wr).alloc (Nat.le_refl _) _
   obtain ⟨Eb, hEb⟩ : ∃ g, g = wr.heap.size := ⟨_, rfl⟩
   have HEb : Hid (Eb = wr.heap.size) := hEb
   have XE : Hid (Bk V0 Eb 126 #[.int .i64 (psAt l k).e.t, .int .i64 (psAt l k).e.s, .int .i64 (psAt l k).e.q, .int .i64 (psAt l k).e.d, .int .i64 (psAt l k).e.k, .int .i64 (psAt l k).e.v, .int .i64 (psAt l k).e.g, .slice f7 (psAt l k).b.r.length g7, .int .i64 (psAt l k).b.q, .int .i64 (psAt l k).b.d, .slice f10 (psAt l k).s.length g10, .slice f11 (psAt l k).x.length g11]) := hV0 ▸ hEb ▸ Bk.new wr _ _
   have GV := hidPCp (HG.out.below hbv)
   have D7V := hidPCp (d7.under hbv)
   have D10V := hidPCp (d10.under hbv)
   have D11V := hidPCp (d11.under hbv)
   have BV := hidPCp (HBr.out.trans (hbv.mono hzr))
   have hEl : Eb < V0.heap.size := XE.out.lt
   have hEy : wr.heap.size ≤ Eb ∧ Eb ≤ wr.heap.size := by omega
   have HVE : Hid (∀ b, (.slice ap k cp : Value).ownBlock = some b → b < Eb ∧ w.heap.size ≤ b) := fun b e => ⟨by have := HV.out b e; omega, row_ge HG.out.row e⟩
   clear hV0 hEb hbv d7 d10 d11 hD4 h4 hc4 he4 HG HV
   go_wp2_with fail
   rw [HV0.out, ← HEb.out]
   clear HV0 HEb f0 f1 f2 f3 f4 f5 f6 f7c f8 f9 f10c f11c
   have hzv : V0.drew.heap.size ≤ V0.heap.size ∧ V0.heap.size ≤ V0.drew.heap.size := ⟨Nat.le_refl _, Nat.le_refl _⟩
   have B_1 : Hid (Below V0.heap.size V0 V0.drew) := (Below.refl _ V0).drew
   have X_1 := hidPCp XE.out.drew
   have D7_1 := hidPCp (D7V.out.under (Below.refl _ V0).drew)
   have D10_1 := hidPCp (D10V.out.under (Below.refl _ V0).drew)
   have D11_1 := hidPCp (D11V.out.under (Below.refl _ V0).drew)
   have Q_1 : Hid (V0.drew.cell? ⟨Eb, 0, none⟩ = some (.int .i64 (psAt l k).e.t) ∧ V0.drew.cell? ⟨Eb, 1, none⟩ = some (.int .i64 (psAt l k).e.s) ∧ V0.drew.cell? ⟨Eb, 2, none⟩ = some (.int .i64 (psAt l k).e.q) ∧ V0.drew.cell? ⟨Eb, 3, none⟩ = some (.int .i64 (psAt l k).e.d) ∧ V0.drew.cell? ⟨Eb, 4, none⟩ = some (.int .i64 (psAt l k).e.k) ∧ V0.drew.cell? ⟨Eb, 5, none⟩ = some (.int .i64 (psAt l k).e.v) ∧ V0.drew.cell? ⟨Eb, 6, none⟩ = some (.int .i64 (psAt l k).e.g) ∧ V0.drew.cell? ⟨Eb, 7, none⟩ = some (.slice f7 (psAt l k).b.r.length g7) ∧ V0.drew.cell? ⟨Eb, 8, none⟩ = some (.int .i64 (psAt l k).b.q) ∧ V0.drew.cell? ⟨Eb, 9, none⟩ = some (.int .i64 (psAt l k).b.d) ∧ V0.drew.cell? ⟨Eb, 10, none⟩ = some (.slice f10 (psAt l k).s.length g10) ∧ V0.drew.cell? ⟨Eb, 11, none⟩ = some (.slice f11 (psAt l k).x.length g11)) := ⟨X_1.out.cell rfl, X_1.out.cell rfl, X_1.out.cell rfl, X_1.out.cell rfl, X_1.out.cell rfl, X_1.out.cell rfl, X_1.out.cell rfl, X_1.out.cell rfl, X_1.out.cell rfl, X_1.out.cell rfl, X_1.out.cell rfl, X_1.out.cell rfl⟩
   clear XE D7V D10V D11V
   refine wp_region_held_drew (S := fun W => W.cell? ⟨Eb, 0, none⟩ = some (.int .i64 (psAt l k).e.t) ∧ W.cell? ⟨Eb, 1, none⟩ = some (.int .i64 (psAt l k).e.s) ∧ W.cell? ⟨Eb, 2, none⟩ = some (.int .i64 (psAt l k).e.q) ∧ W.cell? ⟨Eb, 3, none⟩ = some (.int .i64 (psAt l k).e.d) ∧ W.cell? ⟨Eb, 4, none⟩ = some (.int .i64 (psAt l k).e.k) ∧ W.cell? ⟨Eb, 5, none⟩ = some (.int .i64 (psAt l k).e.v) ∧ W.cell? ⟨Eb, 6, none⟩ = some (.int .i64 (psAt l k).e.g) ∧ W.cell? ⟨Eb, 7, none⟩ = some (.slice f7 (psAt l k).b.r.length g7) ∧ W.cell? ⟨Eb, 8, none⟩ = some (.int .i64 (psAt l k).b.q) ∧ W.cell? ⟨Eb, 9, none⟩ = some (.int .i64 (psAt l k).b.d) ∧ W.cell? ⟨Eb, 10, none⟩ = some (.slice f10 (psAt l k).s.length g10) ∧ W.cell? ⟨Eb, 11, none⟩ = some (.slice f11 (psAt l k).x.length g11)) (by kernel_rfl) Q_1.out (fun hHeld => ?_)
   refine thPCp 0 { dst := some 12, op := Op.move (Operand.tmp 3), type := 30, pos := _, after := _, guard := none } (.slice ap k cp) ?_
   try simp only [Act.put, List.setIfInBounds_toArray, List.set_cons_zero, List.set_cons_succ]
   refine thPCp 1 { dst := some 13, op := Op.fieldAddr 126 (Operand.tmp 5) 0, type := 0, pos := _, after := _, guard := none } (.pointer (some ⟨Eb, 0, none⟩)) ?_
   try simp only [Act.put, List.setIfInBounds_toArray, List.set_cons_zero, List.set_cons_succ]
   refine thPCp 2 { dst := some 14, op := Op.load 55 (Operand.tmp 13), type := 55, pos := _, after := _, guard := none } (.agg #[.int .i64 (psAt l k).e.t, .int .i64 (psAt l k).e.s, .int .i64 (psAt l k).e.q, .int .i64 (psAt l k).e.d, .int .i64 (psAt l k).e.k, .int .i64 (psAt l k).e.v, .int .i64 (psAt l k).e.g]) ?_
   try simp only [Act.put, List.setIfInBounds_toArray, List.set_cons_zero, List.set_cons_succ]
   refine thPCp 3 { dst := some 15, op := Op.fieldAddr 126 (Operand.tmp 5) 1, type := 0, pos := _, after := _, guard := none } (.pointer (some ⟨Eb, 7, none⟩)) ?_
   try simp only [Act.put, List.setIfInBounds_toArray, List.set_cons_zero, List.set_cons_succ]
   refine thPCp 4 { dst := some 16, op := Op.load 29 (Operand.tmp 15), type := 29, pos := _, after := _, guard := none } (.agg #[.slice f7 (psAt l k).b.r.length g7, .int .i64 (psAt l k).b.q, .int .i64 (psAt l k).b.d]) ?_
   try simp only [Act.put, List.setIfInBounds_toArray, List.set_cons_zero, List.set_cons_succ]
   refine thPCp 6 { dst := some 18, op := Op.fieldAddr 126 (Operand.tmp 5) 2, type := 0, pos := _, after := _, guard := none } (.pointer (some ⟨Eb, 10, none⟩)) ?_
   try simp only [Act.put, List.setIfInBounds_toArray, List.set_cons_zero, List.set_cons_succ]
   refine thPCp 7 { dst := some 19, op := Op.load 31 (Operand.tmp 18), type := 31, pos := _, after := _, guard := none } (.slice f10 (psAt l k).s.length g10) ?_
   try simp only [Act.put, List.setIfInBounds_toArray, List.set_cons_zero, List.set_cons_succ]
   refine thPCp 9 { dst := some 21, op := Op.fieldAddr 126 (Operand.tmp 5) 3, type := 0, pos := _, after := _, guard := none } (.pointer (some ⟨Eb, 11, none⟩)) ?_
   try simp only [Act.put, List.setIfInBounds_toArray, List.set_cons_zero, List.set_cons_succ]
   refine thPCp 10 { dst := some 22, op := Op.load 110 (Operand.tmp 21), type := 110, pos := _, after := _, guard := none } (.slice f11 (psAt l k).x.length g11) ?_
   try simp only [Act.put, List.setIfInBounds_toArray, List.set_cons_zero, List.set_cons_succ]
   refine wpAnyH_ready (rs := [5]) (by kernel_rfl) (by simp) ?_
   refine AllReadyH.cons (o := { dst := some 17, op := Op.call { callee := Callee.value (Operand.func 134), args := #[Operand.tmp 16], argTypes := #[29] }, type := 29, pos := _, after := _, guard := none }) rfl (fun K hK => ?_) AllReadyH.nil
   have hbs2 : V0.heap.size ≤ V0.drew.heap.size := B_1.out.size
   go_simp
   refine (snap_src _ _ (psAt l k).b V0.drew hqr1 rfl D7_1.out ).mono ?_
   rintro e w2 ⟨vs1, rfl, hown, hb⟩
   obtain ⟨as1, cs1, hvs⟩ := owns_slice hown
   subst hvs
   have HLS := hidPCp (row_lim hown)
   have hz2 : V0.drew.heap.size ≤ w2.heap.size := hb.size
   have B_3 := hidPCp (B_1.out.trans (hb.mono B_1.out.size))
   have X_3 := hidPCp (X_1.out.below hb)
   have D10_3 := hidPCp (D10_1.out.under hb)
   have D11_3 := hidPCp (D11_1.out.under hb)
   clear B_1 X_1 D7_1 D10_1 D11_1
   have S_3 := hidPCp (owns_mono hown hbs2)
   clear hown hb
   have Q_3 : Hid (w2.cell? ⟨Eb, 0, none⟩ = some (.int .i64 (psAt l k).e.t) ∧ w2.cell? ⟨Eb, 1, none⟩ = some (.int .i64 (psAt l k).e.s) ∧ w2.cell? ⟨Eb, 2, none⟩ = some (.int .i64 (psAt l k).e.q) ∧ w2.cell? ⟨Eb, 3, none⟩ = some (.int .i64 (psAt l k).e.d) ∧ w2.cell? ⟨Eb, 4, none⟩ = some (.int .i64 (psAt l k).e.k) ∧ w2.cell? ⟨Eb, 5, none⟩ = some (.int .i64 (psAt l k).e.v) ∧ w2.cell? ⟨Eb, 6, none⟩ = some (.int .i64 (psAt l k).e.g) ∧ w2.cell? ⟨Eb, 7, none⟩ = some (.slice f7 (psAt l k).b.r.length g7) ∧ w2.cell? ⟨Eb, 8, none⟩ = some (.int .i64 (psAt l k).b.q) ∧ w2.cell? ⟨Eb, 9, none⟩ = some (.int .i64 (psAt l k).b.d) ∧ w2.cell? ⟨Eb, 10, none⟩ = some (.slice f10 (psAt l k).s.length g10) ∧ w2.cell? ⟨Eb, 11, none⟩ = some (.slice f11 (psAt l k).x.length g11)) := ⟨X_3.out.cell rfl, X_3.out.cell rfl, X_3.out.cell rfl, X_3.out.cell rfl, X_3.out.cell rfl, X_3.out.cell rfl, X_3.out.cell rfl, X_3.out.cell rfl, X_3.out.cell rfl, X_3.out.cell rfl, X_3.out.cell rfl, X_3.out.cell rfl⟩
   refine hK.out _ _ Q_3.out (fun hHeld => ?_)
   clear hK K
   try simp only [Act.put, List.setIfInBounds_toArray, List.set_cons_zero, List.set_cons_succ]
   refine wpAnyH_ready (rs := [8]) (by kernel_rfl) (by simp) ?_
   refine AllReadyH.cons (o := { dst := some 20, op := Op.call { callee := Callee.value (Operand.func 83), args := #[Operand.tmp 19], argTypes := #[31] }, type := 31, pos := _, after := _, guard := none }) rfl (fun K hK => ?_) AllReadyH.nil
   have hbs4 : V0.heap.size ≤ w2.heap.size := B_3.out.size
   go_simp
   refine (copyEv_src _ (psAt l k).s w2 hqs1 D10_3.out.srcEv ).mono ?_
   rintro e w4 ⟨vs1, rfl, hown, hb⟩
   obtain ⟨at1, ct1, hvs⟩ := owns_slice hown
   subst hvs
   have HLT := hidPCp (row_lim hown)
   have hz4 : w2.heap.size ≤ w4.heap.size := hb.size
   have B_5 := hidPCp (B_3.out.trans (hb.mono B_3.out.size))
   have X_5 := hidPCp (X_3.out.below hb)
   have D11_5 := hidPCp (D11_3.out.under hb)
   have S_5 := hidPCp (owns_turns S_3.out (Turns.of_below hb) (fun _ _ => id))
   clear B_3 X_3 D10_3 D11_3 S_3
   have T_5 := hidPCp (owns_mono hown hbs4)
   clear hown hb
   have Q_5 : Hid (w4.cell? ⟨Eb, 0, none⟩ = some (.int .i64 (psAt l k).e.t) ∧ w4.cell? ⟨Eb, 1, none⟩ = some (.int .i64 (psAt l k).e.s) ∧ w4.cell? ⟨Eb, 2, none⟩ = some (.int .i64 (psAt l k).e.q) ∧ w4.cell? ⟨Eb, 3, none⟩ = some (.int .i64 (psAt l k).e.d) ∧ w4.cell? ⟨Eb, 4, none⟩ = some (.int .i64 (psAt l k).e.k) ∧ w4.cell? ⟨Eb, 5, none⟩ = some (.int .i64 (psAt l k).e.v) ∧ w4.cell? ⟨Eb, 6, none⟩ = some (.int .i64 (psAt l k).e.g) ∧ w4.cell? ⟨Eb, 7, none⟩ = some (.slice f7 (psAt l k).b.r.length g7) ∧ w4.cell? ⟨Eb, 8, none⟩ = some (.int .i64 (psAt l k).b.q) ∧ w4.cell? ⟨Eb, 9, none⟩ = some (.int .i64 (psAt l k).b.d) ∧ w4.cell? ⟨Eb, 10, none⟩ = some (.slice f10 (psAt l k).s.length g10) ∧ w4.cell? ⟨Eb, 11, none⟩ = some (.slice f11 (psAt l k).x.length g11)) := ⟨X_5.out.cell rfl, X_5.out.cell rfl, X_5.out.cell rfl, X_5.out.cell rfl, X_5.out.cell rfl, X_5.out.cell rfl, X_5.out.cell rfl, X_5.out.cell rfl, X_5.out.cell rfl, X_5.out.cell rfl, X_5.out.cell rfl, X_5.out.cell rfl⟩
   refine hK.out _ _ Q_5.out (fun hHeld => ?_)
   clear hK K
   try simp only [Act.put, List.setIfInBounds_toArray, List.set_cons_zero, List.set_cons_succ]
   refine wpAnyH_ready (rs := [11]) (by kernel_rfl) (by simp) ?_
   refine AllReadyH.cons (o := { dst := some 23, op := Op.call { callee := Callee.value (Operand.func 182), args := #[Operand.tmp 22], argTypes := #[110] }, type := 110, pos := _, after := _, guard := none }) rfl (fun K hK => ?_) AllReadyH.nil
   have hbs6 : V0.heap.size ≤ w4.heap.size := B_5.out.size
   go_simp
   refine (copyEm_src _ (psAt l k).x w4 hqx1 D11_5.out.srcX ).mono ?_
   rintro e w6 ⟨vs1, rfl, hown, hb⟩
   obtain ⟨av1, cv1, hvs⟩ := owns_slice hown
   subst hvs
   have HLA := hidPCp (row_lim hown)
   have hz6 : w4.heap.size ≤ w6.heap.size := hb.size
   have B_7 := hidPCp (B_5.out.trans (hb.mono B_5.out.size))
   have X_7 := hidPCp (X_5.out.below hb)
   have S_7 := hidPCp (owns_turns S_5.out (Turns.of_below hb) (fun _ _ => id))
   have T_7 := hidPCp (owns_turns T_5.out (Turns.of_below hb) (fun _ _ => id))
   clear B_5 X_5 D11_5 S_5 T_5
   have A_7 := hidPCp (owns_mono hown hbs6)
   clear hown hb
   have Q_7 : Hid (w6.cell? ⟨Eb, 0, none⟩ = some (.int .i64 (psAt l k).e.t) ∧ w6.cell? ⟨Eb, 1, none⟩ = some (.int .i64 (psAt l k).e.s) ∧ w6.cell? ⟨Eb, 2, none⟩ = some (.int .i64 (psAt l k).e.q) ∧ w6.cell? ⟨Eb, 3, none⟩ = some (.int .i64 (psAt l k).e.d) ∧ w6.cell? ⟨Eb, 4, none⟩ = some (.int .i64 (psAt l k).e.k) ∧ w6.cell? ⟨Eb, 5, none⟩ = some (.int .i64 (psAt l k).e.v) ∧ w6.cell? ⟨Eb, 6, none⟩ = some (.int .i64 (psAt l k).e.g) ∧ w6.cell? ⟨Eb, 7, none⟩ = some (.slice f7 (psAt l k).b.r.length g7) ∧ w6.cell? ⟨Eb, 8, none⟩ = some (.int .i64 (psAt l k).b.q) ∧ w6.cell? ⟨Eb, 9, none⟩ = some (.int .i64 (psAt l k).b.d) ∧ w6.cell? ⟨Eb, 10, none⟩ = some (.slice f10 (psAt l k).s.length g10) ∧ w6.cell? ⟨Eb, 11, none⟩ = some (.slice f11 (psAt l k).x.length g11)) := ⟨X_7.out.cell rfl, X_7.out.cell rfl, X_7.out.cell rfl, X_7.out.cell rfl, X_7.out.cell rfl, X_7.out.cell rfl, X_7.out.cell rfl, X_7.out.cell rfl, X_7.out.cell rfl, X_7.out.cell rfl, X_7.out.cell rfl, X_7.out.cell rfl⟩
   refine hK.out _ _ Q_7.out (fun hHeld => ?_)
   clear hK K
   try simp only [Act.put, List.setIfInBounds_toArray, List.set_cons_zero, List.set_cons_succ]
   refine thPCp 12 { dst := some 24, op := Op.build 126 #[(0, Operand.tmp 14), (1, Operand.tmp 17), (2, Operand.tmp 20), (3, Operand.tmp 23)], type := 126, pos := _, after := _, guard := none } (.agg #[.int .i64 (psAt l k).e.t, .int .i64 (psAt l k).e.s, .int .i64 (psAt l k).e.q, .int .i64 (psAt l k).e.d, .int .i64 (psAt l k).e.k, .int .i64 (psAt l k).e.v, .int .i64 (psAt l k).e.g, .slice as1 (psAt l k).b.r.length cs1, .int .i64 (psAt l k).b.q, .int .i64 (psAt l k).b.d, .slice at1 (psAt l k).s.length ct1, .slice av1 (psAt l k).x.length cv1]) ?_
   try simp only [Act.put, List.setIfInBounds_toArray, List.set_cons_zero, List.set_cons_succ]
   refine wpAnyH_ready (rs := [13]) (by kernel_rfl) (by simp) ?_
   refine AllReadyH.cons (o := { dst := some 25, op := Op.buildSlice 30 1 #[(0, Operand.tmp 24)], type := 30, pos := _, after := _, guard := none }) rfl (fun K hK => ?_) AllReadyH.nil
   obtain ⟨Nb, hNb⟩ : ∃ g, g = w6.heap.size := ⟨_, rfl⟩
   obtain ⟨w8, hw8⟩ : ∃ V, w6.alloc (.cells #[.int .i64 (psAt l k).e.t, .int .i64 (psAt l k).e.s, .int .i64 (psAt l k).e.q, .int .i64 (psAt l k).e.d, .int .i64 (psAt l k).e.k, .int .i64 (psAt l k).e.v, .int .i64 (psAt l k).e.g, .slice as1 (psAt l k).b.r.length cs1, .int .i64 (psAt l k).b.q, .int .i64 (psAt l k).b.d, .slice at1 (psAt l k).s.length ct1, .slice av1 (psAt l k).x.length cv1] 126) = V := ⟨_, rfl⟩
   have HW8 := hidPCp hw8
   have HNb : Hid (Nb = w6.heap.size) := hNb
   have hs8 : V0.heap.size ≤ w6.heap.size := B_7.out.size
   have B_9 : Hid (Below V0.heap.size V0 w8) := by (rw [← hw8]; exact B_7.out.alloc B_7.out.size _)
   have X_9 : Hid (Bk w8 Eb 126 #[.int .i64 (psAt l k).e.t, .int .i64 (psAt l k).e.s, .int .i64 (psAt l k).e.q, .int .i64 (psAt l k).e.d, .int .i64 (psAt l k).e.k, .int .i64 (psAt l k).e.v, .int .i64 (psAt l k).e.g, .slice f7 (psAt l k).b.r.length g7, .int .i64 (psAt l k).b.q, .int .i64 (psAt l k).b.d, .slice f10 (psAt l k).s.length g10, .slice f11 (psAt l k).x.length g11]) := by (rw [← hw8]; exact X_7.out.alloc _)
   have S_9 : Hid (w8.ownsRow V0.heap.size 3 1 (.slice as1 (psAt l k).b.r.length cs1) (psAt l k).b.r.length (intCells (psAt l k).b.r)) := by (rw [← hw8]; exact S_7.out.alloc _)
   have T_9 : Hid (w8.ownsRow V0.heap.size 55 7 (.slice at1 (psAt l k).s.length ct1) (psAt l k).s.length (cellsL (psAt l k).s)) := by (rw [← hw8]; exact T_7.out.alloc _)
   have A_9 : Hid (w8.ownsRow V0.heap.size 191 3 (.slice av1 (psAt l k).x.length cv1) (psAt l k).x.length (cellsX (psAt l k).x)) := by (rw [← hw8]; exact A_7.out.alloc _)
   clear B_7 X_7 S_7 T_7 A_7
   have NB_9 : Hid (Bk w8 Nb 126 #[.int .i64 (psAt l k).e.t, .int .i64 (psAt l k).e.s, .int .i64 (psAt l k).e.q, .int .i64 (psAt l k).e.d, .int .i64 (psAt l k).e.k, .int .i64 (psAt l k).e.v, .int .i64 (psAt l k).e.g, .slice as1 (psAt l k).b.r.length cs1, .int .i64 (psAt l k).b.q, .int .i64 (psAt l k).b.d, .slice at1 (psAt l k).s.length ct1, .slice av1 (psAt l k).x.length cv1]) := by (rw [← hw8]; exact hNb ▸ Bk.new w6 _ _)
   have hz8 : Nb < w8.heap.size := NB_9.out.lt
   have hzy8 : w6.heap.size ≤ Nb ∧ Nb ≤ w6.heap.size := by omega
   clear hw8 hNb
   go_simp
   rw [HW8.out, ← HNb.out]
   have Q_9 : Hid (w8.cell? ⟨Eb, 0, none⟩ = some (.int .i64 (psAt l k).e.t) ∧ w8.cell? ⟨Eb, 1, none⟩ = some (.int .i64 (psAt l k).e.s) ∧ w8.cell? ⟨Eb, 2, none⟩ = some (.int .i64 (psAt l k).e.q) ∧ w8.cell? ⟨Eb, 3, none⟩ = some (.int .i64 (psAt l k).e.d) ∧ w8.cell? ⟨Eb, 4, none⟩ = some (.int .i64 (psAt l k).e.k) ∧ w8.cell? ⟨Eb, 5, none⟩ = some (.int .i64 (psAt l k).e.v) ∧ w8.cell? ⟨Eb, 6, none⟩ = some (.int .i64 (psAt l k).e.g) ∧ w8.cell? ⟨Eb, 7, none⟩ = some (.slice f7 (psAt l k).b.r.length g7) ∧ w8.cell? ⟨Eb, 8, none⟩ = some (.int .i64 (psAt l k).b.q) ∧ w8.cell? ⟨Eb, 9, none⟩ = some (.int .i64 (psAt l k).b.d) ∧ w8.cell? ⟨Eb, 10, none⟩ = some (.slice f10 (psAt l k).s.length g10) ∧ w8.cell? ⟨Eb, 11, none⟩ = some (.slice f11 (psAt l k).x.length g11)) := ⟨X_9.out.cell rfl, X_9.out.cell rfl, X_9.out.cell rfl, X_9.out.cell rfl, X_9.out.cell rfl, X_9.out.cell rfl, X_9.out.cell rfl, X_9.out.cell rfl, X_9.out.cell rfl, X_9.out.cell rfl, X_9.out.cell rfl, X_9.out.cell rfl⟩
   refine hK.out _ _ Q_9.out (fun hHeld => ?_)
   clear hK K
   try simp only [Act.put, List.setIfInBounds_toArray, List.set_cons_zero, List.set_cons_succ]
   refine wpAnyH_ready (rs := [14]) (by kernel_rfl) (by simp) ?_
   refine AllReadyH.cons (o := { dst := some 26, op := Op.call { callee := Callee.builtin Builtin.append, args := #[Operand.tmp 12, Operand.tmp 25], argTypes := #[30, 30] }, type := 30, pos := _, after := _, guard := none }) rfl (fun K hK => ?_) AllReadyH.nil
   have hbs10 : V0.heap.size ≤ w8.heap.size := B_9.out.size
   refine step_append_own2 (w := w8) rfl (.tmp 12) (.tmp 25) 30 rfl w.heap.size 126 ip _ 12 144 Tryz.underlying30 hip hip0 hip1 hip2 rfl (by decide) (.slice ap k cp) k cs rfl (GV.out.below B_9.out).row ⟨Nb, 0, none⟩ 1 1 (pastL (psAt l k) (.slice as1 (psAt l k).b.r.length cs1) (.slice at1 (psAt l k).s.length ct1) (.slice av1 (psAt l k).x.length cv1)) rfl rfl NB_9.out.src (by simp [pastL, Value.oneCell']) (by unfold maxLen; omega) (by omega) (by omega) ?_
   intro vn w10 hown hgrow hnew
   obtain ⟨ap3, cp3, hvn⟩ := owns_slice hown
   subst hvn
   have hgt := grown_turns hgrow
   have h7 : OwnD w8 (fun b => (.slice as1 (psAt l k).b.r.length cs1 : Value).ownBlock = some b) (.slice as1 (psAt l k).b.r.length cs1) (intsD (psAt l k).b.r) := (own_rowF (by rw [intCells_length]; omega) S_9.out).own
   have h10 : OwnD w8 (fun b => (.slice at1 (psAt l k).s.length ct1 : Value).ownBlock = some b) (.slice at1 (psAt l k).s.length ct1) (evsD (psAt l k).s) := (own_rowF (cellsL_length _) T_9.out).own
   have h11 : OwnD w8 (fun b => (.slice av1 (psAt l k).x.length cv1 : Value).ownBlock = some b) (.slice av1 (psAt l k).x.length cv1) (emsD (psAt l k).x) := (own_rowF (cellsX_length _) A_9.out).own
   have HGN := hidPCp (GV.out.snocPs B_9.out (by omega) h7 h10 h11 (fun b hb => row_lim S_9.out b hb) (fun b hb => row_lim T_9.out b hb) (fun b hb => row_lim A_9.out b hb) (fun b x y => by have := HLS.out b x; have := HLT.out b y; omega) (fun b x y => by have := HLS.out b x; have := HLA.out b y; omega) (fun b x y => by have := HLT.out b x; have := HLA.out b y; omega) hown hgrow hnew)
   have BN := hidPCp ((BV.out.trans (B_9.out.mono BV.out.size)).grown hgrow (by omega) (fun b e => (HVE.out b e).2))
   have X_11 := hidPCp (X_9.out.turns hgt (fun e => by have := HVE.out _ e; omega))
   clear B_9 X_9 S_9 T_9 A_9 NB_9
   clear hown hgrow hnew hgt h7 h10 h11
   have Q_11 : Hid (w10.cell? ⟨Eb, 0, none⟩ = some (.int .i64 (psAt l k).e.t) ∧ w10.cell? ⟨Eb, 1, none⟩ = some (.int .i64 (psAt l k).e.s) ∧ w10.cell? ⟨Eb, 2, none⟩ = some (.int .i64 (psAt l k).e.q) ∧ w10.cell? ⟨Eb, 3, none⟩ = some (.int .i64 (psAt l k).e.d) ∧ w10.cell? ⟨Eb, 4, none⟩ = some (.int .i64 (psAt l k).e.k) ∧ w10.cell? ⟨Eb, 5, none⟩ = some (.int .i64 (psAt l k).e.v) ∧ w10.cell? ⟨Eb, 6, none⟩ = some (.int .i64 (psAt l k).e.g) ∧ w10.cell? ⟨Eb, 7, none⟩ = some (.slice f7 (psAt l k).b.r.length g7) ∧ w10.cell? ⟨Eb, 8, none⟩ = some (.int .i64 (psAt l k).b.q) ∧ w10.cell? ⟨Eb, 9, none⟩ = some (.int .i64 (psAt l k).b.d) ∧ w10.cell? ⟨Eb, 10, none⟩ = some (.slice f10 (psAt l k).s.length g10) ∧ w10.cell? ⟨Eb, 11, none⟩ = some (.slice f11 (psAt l k).x.length g11)) := ⟨X_11.out.cell rfl, X_11.out.cell rfl, X_11.out.cell rfl, X_11.out.cell rfl, X_11.out.cell rfl, X_11.out.cell rfl, X_11.out.cell rfl, X_11.out.cell rfl, X_11.out.cell rfl, X_11.out.cell rfl, X_11.out.cell rfl, X_11.out.cell rfl⟩
   refine hK.out _ _ Q_11.out (fun hHeld => ?_)
   clear hK K
   try simp only [Act.put, List.setIfInBounds_toArray, List.set_cons_zero, List.set_cons_succ]
   refine thPCp 15 { dst := some 3, op := Op.assign (Operand.tmp 26), type := 30, pos := _, after := _, guard := none } (.slice ap3 (k + 1) cp3) ?_
   try simp only [Act.put, List.setIfInBounds_toArray, List.set_cons_zero, List.set_cons_succ]
   refine wpAnyH_done (by kernel_rfl) ?_ _
   clear hHeld
   go_wp2
   go_roundw
   case rel => exact ⟨k + 1, _, _, _, by omega, rfl, by go_num, HGN.out, BN.out⟩
   case measure => simp [intOf]; omega
  ·obtain rfl : k = l.length := by omega
   clear hlt hk
   go_wp2
   go_ret
   exact ⟨_, rfl, HBr.out, HG.out.ownD.mono (fun b hb => HG.out.blocks_ge hb)⟩
end Go.Proofs.YtnccenbkpocjgaaGreat

