/- PDu, PDb, PDp, PGa, PGc -/
import Derived.Test.YtdcnimdhfhbdmaaExactBackLPDt
import Derived.Test.YtdcnimdhfhbdmaaExactBackLPBs
import Derived.Test.YtdcnimdhfhbdmaaExactBackG11
import Derived.Test.YtdcnimdhfhbdmaaExactBackG17
import Derived.Test.YtdcnimdhfhbdmaaExactBackG33
import Derived.Test.YtdcnimdhfhbdmaaExactBackG32
/- An event is pushed; a state takes another one's place. -/
namespace Go.Proofs.Ytdcnimdhfhbdmaa
open Go.RowKit
set_option maxRecDepth 100000 in
set_option maxHeartbeats 16000000 in
theorem push_any (B D : Nat) (v0 v1 v2 v3 v4 vt v6 v7 : Value) (l : List Ev) (e : Ev) (w : World) (hBw : B ≤ w.heap.size) (hl : l.length + 1 ≤ 1048577) (hB : Bk w D 108 #[v0, v1, v2, v3, v4, vt, v6, v7]) (ho : w.ownsRow B 40 7 vt l.length (cellsL l)) :
  Calls Try.prog 80 #[.pointer (some ⟨D, 5, none⟩), e.val] w fun r w' => (∃ u, r = .returned u) ∧ ∃ vt', Bk w' D 108 #[v0, v1, v2, v3, v4, vt', v6, v7] ∧ w'.ownsRow B 40 7 vt' (l ++ [e]).length (cellsL (l ++ [e])) ∧ NewRow w vt vt' ∧ Turns (fun k => k = D ∨ vt.ownBlock = some k) w w' := by
 obtain ⟨ie, hie, hie0, hie1, hie2⟩ := info_parts infoEvE
 obtain ⟨a5, c5, rfl⟩ := owns_slice ho
 obtain ⟨W0, hW0⟩ : ∃ V, w.alloc (.cells #[.int .i64 e.t, .int .i64 e.s, .int .i64 e.q, .int .i64 e.d, .int .i64 e.k, .int .i64 e.v, .int .i64 e.g] 40) = V := ⟨_, rfl⟩
 have hb0 : Below w.heap.size w W0 := hW0 ▸ (Below.refl _ w).alloc (Nat.le_refl _) _
 have HB0 : Hid (Below w.heap.size w W0) := hb0
 have HD : Hid (Bk W0 D 108 #[v0, v1, v2, v3, v4, .slice a5 l.length c5, v6, v7]) := hB.below hb0
 have HE : Hid (Bk W0 w.heap.size 40 #[.int .i64 e.t, .int .i64 e.s, .int .i64 e.q, .int .i64 e.d, .int .i64 e.k, .int .i64 e.v, .int .i64 e.g]) := hW0 ▸ Bk.new _ _ _
 have HO : Hid (W0.ownsRow B 40 7 (.slice a5 l.length c5) l.length (cellsL l)) := owns_turns (S := fun _ => False) ho (Turns.of_below hb0) (fun _ _ => id)
 have HNE : Hid (¬ (Value.slice a5 l.length c5).ownBlock = some w.heap.size) := fun e1 => by have := owns_lt ho e1; omega
 have hs0 : w.heap.size < W0.heap.size := HE.out.lt
 have hBV : B ≤ W0.heap.size := by omega
 have HW0 : Hid (w.alloc (.cells #[.int .i64 e.t, .int .i64 e.s, .int .i64 e.q, .int .i64 e.d, .int .i64 e.k, .int .i64 e.v, .int .i64 e.g] 40) = W0) := hW0
 clear hb0 hW0 hB ho
 go_enter Try.func80, Try.ntmps80
 go_upto_region 1 with fail
 rw [HW0.out]
 clear HW0
 refine wp_region_z 10 (fun W => W.cell? ⟨D, 5, none⟩ = some (.slice a5 l.length c5) ∧ W.cell? ⟨w.heap.size, 0, none⟩ = some (.int .i64 e.t) ∧ W.cell? ⟨w.heap.size, 1, none⟩ = some (.int .i64 e.s) ∧ W.cell? ⟨w.heap.size, 2, none⟩ = some (.int .i64 e.q) ∧ W.cell? ⟨w.heap.size, 3, none⟩ = some (.int .i64 e.d) ∧ W.cell? ⟨w.heap.size, 4, none⟩ = some (.int .i64 e.k) ∧ W.cell? ⟨w.heap.size, 5, none⟩ = some (.int .i64 e.v) ∧ W.cell? ⟨w.heap.size, 6, none⟩ = some (.int .i64 e.g)) (by kernel_rfl) ⟨HD.out.drew.cell rfl, HE.out.drew.cell rfl, HE.out.drew.cell rfl, HE.out.drew.cell rfl, HE.out.drew.cell rfl, HE.out.drew.cell rfl, HE.out.drew.cell rfl, HE.out.drew.cell rfl⟩ (fun hHeld => ?_)
 refine wpAnyZ_take (i := 0) (oi := { dst := some 4, op := Op.move (Operand.tmp 0), type := 126, pos := _, after := _, guard := none }) (v := .pointer (some ⟨D, 5, none⟩)) 0 [] rfl (by kernel_rfl) (by kernel_rfl) (by kernel_rfl) (by kernel_rfl) (by kernel_rfl) (fun _ _ _ h => h) (Or.inl ⟨by rfl, ?_⟩) (by assumption) ?_
 ·intro wX hSw
  try dsimp only at hSw
  go_simp
  try exact IntWalk.i64_in _ (by omega)
 try simp only [Act.put, List.setIfInBounds_toArray, List.set_cons_zero, List.set_cons_succ]
 refine wpAnyZ_take (i := 1) (oi := { dst := some 5, op := Op.move (Operand.tmp 0), type := 126, pos := _, after := _, guard := none }) (v := .pointer (some ⟨D, 5, none⟩)) 1 [] rfl (by kernel_rfl) (by kernel_rfl) (by kernel_rfl) (by kernel_rfl) (by kernel_rfl) (fun _ _ _ h => h) (Or.inl ⟨by rfl, ?_⟩) (by assumption) ?_
 ·intro wX hSw
  try dsimp only at hSw
  go_simp
  try exact IntWalk.i64_in _ (by omega)
 try simp only [Act.put, List.setIfInBounds_toArray, List.set_cons_zero, List.set_cons_succ]
 refine wpAnyZ_take (i := 2) (oi := { dst := some 6, op := Op.nilCheck (Operand.tmp 5), type := 0, pos := _, after := _, guard := none }) (v := .pointer (some ⟨D, 5, none⟩)) 2 [] rfl (by kernel_rfl) (by kernel_rfl) (by kernel_rfl) (by kernel_rfl) (by kernel_rfl) (fun _ _ _ h => h) (Or.inl ⟨by rfl, ?_⟩) (by assumption) ?_
 ·intro wX hSw
  try dsimp only at hSw
  go_simp
  try exact IntWalk.i64_in _ (by omega)
 try simp only [Act.put, List.setIfInBounds_toArray, List.set_cons_zero, List.set_cons_succ]
 refine wpAnyZ_take (i := 3) (oi := { dst := some 7, op := Op.fieldAddr 106 (Operand.tmp 6) 0, type := 0, pos := _, after := _, guard := none }) (v := .pointer (some ⟨D, 5, none⟩)) 3 [] rfl (by kernel_rfl) (by kernel_rfl) (by kernel_rfl) (by kernel_rfl) (by kernel_rfl) (fun _ _ _ h => h) (Or.inl ⟨by rfl, ?_⟩) (by assumption) ?_
 ·intro wX hSw
  try dsimp only at hSw
  go_simp
  try exact IntWalk.i64_in _ (by omega)
 try simp only [Act.put, List.setIfInBounds_toArray, List.set_cons_zero, List.set_cons_succ]
 refine wpAnyZ_take (i := 4) (oi := { dst := some 8, op := Op.load 34 (Operand.tmp 7), type := 34, pos := _, after := _, guard := none }) (v := .slice a5 l.length c5) 4 [] rfl (by kernel_rfl) (by kernel_rfl) (by kernel_rfl) (by kernel_rfl) (by kernel_rfl) (fun _ _ _ h => h) (Or.inl ⟨by rfl, ?_⟩) (by assumption) ?_
 ·intro wX hSw
  try dsimp only at hSw
  go_simp
  try exact IntWalk.i64_in _ (by omega)
 try simp only [Act.put, List.setIfInBounds_toArray, List.set_cons_zero, List.set_cons_succ]
 refine wpAnyZ_take (i := 5) (oi := { dst := some 9, op := Op.load 40 (Operand.tmp 3), type := 40, pos := _, after := _, guard := none }) (v := .agg #[.int .i64 e.t, .int .i64 e.s, .int .i64 e.q, .int .i64 e.d, .int .i64 e.k, .int .i64 e.v, .int .i64 e.g]) 5 [] rfl (by kernel_rfl) (by kernel_rfl) (by kernel_rfl) (by kernel_rfl) (by kernel_rfl) (fun _ _ _ h => h) (Or.inl ⟨by rfl, ?_⟩) (by assumption) ?_
 ·intro wX hSw
  try dsimp only at hSw
  go_simp
  try exact IntWalk.i64_in _ (by omega)
 try simp only [Act.put, List.setIfInBounds_toArray, List.set_cons_zero, List.set_cons_succ]
 refine wpAnyZ_ready (rs := [6]) (by kernel_rfl) (by simp) ?_
 refine AllReadyZ.cons (o := { dst := some 10, op := Op.buildSlice 34 1 #[(0, Operand.tmp 9)], type := 34, pos := _, after := _, guard := none }) rfl (fun K hK => ?_) AllReadyZ.nil
 obtain ⟨g1, hg1⟩ : ∃ g, g = W0.heap.size := ⟨_, rfl⟩
 obtain ⟨V1, hV1⟩ : ∃ V, (W0.alloc (.cells #[.int .i64 e.t, .int .i64 e.s, .int .i64 e.q, .int .i64 e.d, .int .i64 e.k, .int .i64 e.v, .int .i64 e.g] 40)).drew = V := ⟨_, rfl⟩
 have HV1 : Hid ((W0.alloc (.cells #[.int .i64 e.t, .int .i64 e.s, .int .i64 e.q, .int .i64 e.d, .int .i64 e.k, .int .i64 e.v, .int .i64 e.g] 40)).drew = V1) := hV1
 have HG1 : Hid (g1 = W0.heap.size) := hg1
 have hbV : Below W0.heap.size W0 V1 := hV1 ▸ ((Below.refl _ W0).alloc (Nat.le_refl _) _).drew
 have HBV : Hid (Below W0.heap.size W0 V1) := hbV
 have HD1 : Hid (Bk V1 D 108 #[v0, v1, v2, v3, v4, .slice a5 l.length c5, v6, v7]) := HD.out.below hbV
 have HE1 : Hid (Bk V1 w.heap.size 40 #[.int .i64 e.t, .int .i64 e.s, .int .i64 e.q, .int .i64 e.d, .int .i64 e.k, .int .i64 e.v, .int .i64 e.g]) := HE.out.below hbV
 have HO1 : Hid (V1.ownsRow B 40 7 (.slice a5 l.length c5) l.length (cellsL l)) := owns_turns (S := fun _ => False) HO.out (Turns.of_below hbV) (fun _ _ => id)
 have HN1 : Hid (Bk V1 g1 40 #[.int .i64 e.t, .int .i64 e.s, .int .i64 e.q, .int .i64 e.d, .int .i64 e.k, .int .i64 e.v, .int .i64 e.g]) := by (rw [← hV1, hg1]; exact (Bk.new W0 _ _).drew)
 clear hV1 hg1 hbV
 go_simp
 rw [HV1.out, ← HG1.out]
 refine hK.out _ _ ⟨HD1.out.cell rfl, HE1.out.cell rfl, HE1.out.cell rfl, HE1.out.cell rfl, HE1.out.cell rfl, HE1.out.cell rfl, HE1.out.cell rfl, HE1.out.cell rfl⟩ (fun hHeld => ?_)
 clear hK K
 try simp only [Act.put, List.setIfInBounds_toArray, List.set_cons_zero, List.set_cons_succ]
 refine wpAnyZ_ready (rs := [7]) (by kernel_rfl) (by simp) ?_
 refine AllReadyZ.cons (o := { dst := some 11, op := Op.call { callee := Callee.builtin Builtin.append, args := #[Operand.tmp 8, Operand.tmp 10], argTypes := #[34, 34] }, type := 34, pos := _, after := _, guard := none }) rfl (fun K hK => ?_) AllReadyZ.nil
 refine step_append_src (w := V1) rfl (.tmp 8) (.tmp 10) 34 rfl B 40 ie (.agg #[.int .i64 0, .int .i64 0, .int .i64 0, .int .i64 0, .int .i64 0, .int .i64 0, .int .i64 0]) 7 56 Try.underlying34 hie hie0 hie1 hie2 rfl (by decide) (.slice a5 l.length c5) l.length (cellsL l) rfl HO1.out (.slice (some ⟨g1, 0, none⟩) 1 1) 1 e.cs rfl HN1.out.one (Ev.cs_one e) (by unfold maxLen; omega) (by omega) (Nat.le_trans hBV HBV.out.size) ?_
 intro vn w3 hown hgrow hnew
 obtain ⟨an, cn, hvn⟩ := owns_slice hown
 subst hvn
 have hgt := grown_turns hgrow
 have HD3 : Hid (Bk w3 D 108 #[v0, v1, v2, v3, v4, .slice a5 l.length c5, v6, v7]) := HD1.out.turns hgt (owns_ne HO1.out HD1.out (by decide))
 have HE3 : Hid (Bk w3 w.heap.size 40 #[.int .i64 e.t, .int .i64 e.s, .int .i64 e.q, .int .i64 e.d, .int .i64 e.k, .int .i64 e.v, .int .i64 e.g]) := HE1.out.turns hgt (HNE.out)
 have HO3 : Hid (w3.ownsRow B 40 7 (.slice an (l.length + 1) cn) (l.length + 1) (cellsL l ++ e.cs)) := hown
 have HT3 : Hid (Turns (fun k => (Value.slice a5 l.length c5).ownBlock = some k) V1 w3) := hgt
 have HNR : Hid (NewRow V1 (.slice a5 l.length c5) (.slice an (l.length + 1) cn)) := hnew
 clear hown hgrow hnew hgt
 refine hK.out _ _ ⟨HD3.out.cell rfl, HE3.out.cell rfl, HE3.out.cell rfl, HE3.out.cell rfl, HE3.out.cell rfl, HE3.out.cell rfl, HE3.out.cell rfl, HE3.out.cell rfl⟩ (fun hHeld => ?_)
 clear hK K
 try simp only [Act.put, List.setIfInBounds_toArray, List.set_cons_zero, List.set_cons_succ]
 refine wpAnyZ_take (i := 8) (oi := { dst := some 12, op := Op.nilCheck (Operand.tmp 4), type := 0, pos := _, after := _, guard := none }) (v := .pointer (some ⟨D, 5, none⟩)) 9 [8] rfl (by kernel_rfl) (by kernel_rfl) (by kernel_rfl) (by kernel_rfl) (by kernel_rfl) (fun _ _ _ h => h) (Or.inl ⟨by rfl, ?_⟩) (by assumption) ?_
 ·intro wX hSw
  try dsimp only at hSw
  go_simp
  try exact IntWalk.i64_in _ (by omega)
 try simp only [Act.put, List.setIfInBounds_toArray, List.set_cons_zero, List.set_cons_succ]
 refine wpAnyZ_take (i := 9) (oi := { dst := some 13, op := Op.fieldAddr 106 (Operand.tmp 12) 0, type := 0, pos := _, after := _, guard := none }) (v := .pointer (some ⟨D, 5, none⟩)) 9 [] rfl (by kernel_rfl) (by kernel_rfl) (by kernel_rfl) (by kernel_rfl) (by kernel_rfl) (fun _ _ _ h => h) (Or.inl ⟨by rfl, ?_⟩) (by assumption) ?_
 ·intro wX hSw
  try dsimp only at hSw
  go_simp
  try exact IntWalk.i64_in _ (by omega)
 try simp only [Act.put, List.setIfInBounds_toArray, List.set_cons_zero, List.set_cons_succ]
 refine wpAnyZ_ready (rs := [10]) (by kernel_rfl) (by simp) ?_
 refine AllReadyZ.last (o := { dst := none, op := Op.store 34 (Operand.tmp 13) (Operand.tmp 11), type := 0, pos := _, after := _, guard := none }) rfl (fun K hK => ?_)
 have q5 := HD3.out.cell (i := 5) rfl
 have qf := HD3.out.free
 obtain ⟨X5, hX5⟩ : ∃ X5, w3.setCell ⟨D, 5, none⟩ (.slice an (l.length + 1) cn) = X5 := ⟨_, rfl⟩
 have hP := HD3.out.put 5 (.slice an (l.length + 1) cn)
 have ht := put1_turns w3 D 5 (.slice an (l.length + 1) cn)
 rw [hX5] at hP ht
 have HX5 : Hid _ := hX5
 have HD5 : Hid (Bk X5 D 108 #[v0, v1, v2, v3, v4, .slice an (l.length + 1) cn, v6, v7]) := hP
 have HT5 : Hid (Turns (fun b => b = D) w3 X5) := ht
 clear hX5 hP ht
 go_simp
 clear q5 qf
 rw [HX5.out]
 refine hK.out _ _ ?_
 clear hK K
 try simp only [Act.put, List.setIfInBounds_toArray, List.set_cons_zero, List.set_cons_succ]
 refine wpAnyZ_done (by kernel_rfl) ?_ _
 clear hHeld
 go_wp2
 go_end0
 have hT : Turns (fun k => k = D ∨ (Value.slice a5 l.length c5).ownBlock = some k) w X5 := (((Turns.of_below HB0.out).trans (Turns.of_below HBV.out)).trans (HT3.out.mono (fun k e1 => .inr e1))).trans (HT5.out.mono (fun k e1 => .inl e1))
 have hOx := ownR_snoc (owns_turns HO3.out HT5.out (fun k hk e1 => owns_ne HO3.out HD3.out (by decide) (e1 ▸ hk)))
 refine ⟨⟨_, rfl⟩, _, HD5.out, hOx, ?_, hT⟩
 rcases HNR.out with h9 | h9
 ·exact .inl h9
 ·exact .inr (fun k hk => by have := h9 k hk; have := HBV.out.size; have := HB0.out.size; omega)
set_option maxRecDepth 100000 in
set_option maxHeartbeats 4000000 in
theorem become_any (D : Nat) (v0 v1 v2 v3 v4 v5 v6 v7 : Value) (a1 : Option Addr) (n1 c1 : Nat) (sq sd : Int) (w : World) (hB : Bk w D 108 #[v0, v1, v2, v3, v4, v5, v6, v7]) :
  Calls Try.prog 79 #[.pointer (some ⟨D, 0, none⟩), .agg #[.slice a1 n1 c1, .int .i64 sq, .int .i64 sd]] w fun r w' => (∃ u, r = .returned u) ∧ Bk w' D 108 #[.slice a1 n1 c1, .int .i64 sq, .int .i64 sd, v3, v4, v5, v6, v7] ∧ Turns (fun k => k = D) w w' := by
 obtain ⟨W0, hW0⟩ : ∃ V, w.alloc (.cells #[.slice a1 n1 c1, .int .i64 sq, .int .i64 sd] 32) = V := ⟨_, rfl⟩
 have hb0 : Below w.heap.size w W0 := hW0 ▸ (Below.refl _ w).alloc (Nat.le_refl _) _
 have HB0 : Hid (Below w.heap.size w W0) := hb0
 have HD : Hid (Bk W0 D 108 #[v0, v1, v2, v3, v4, v5, v6, v7]) := hB.below hb0
 have HE : Hid (Bk W0 w.heap.size 32 #[.slice a1 n1 c1, .int .i64 sq, .int .i64 sd]) := hW0 ▸ Bk.new _ _ _
 have HW0 : Hid (w.alloc (.cells #[.slice a1 n1 c1, .int .i64 sq, .int .i64 sd] 32) = W0) := hW0
 have x0 := HE.out.cell (i := 0) rfl
 have x1 := HE.out.cell (i := 1) rfl
 have x2 := HE.out.cell (i := 2) rfl
 have y0 := HD.out.cell (i := 0) rfl
 have y1 := HD.out.cell (i := 1) rfl
 have y2 := HD.out.cell (i := 2) rfl
 have yf := HD.out.free
 obtain ⟨X5, hX5⟩ : ∃ X5, ((W0.setCell ⟨D, 0, none⟩ (.slice a1 n1 c1)).setCell ⟨D, 1, none⟩ (.int .i64 sq)).setCell ⟨D, 2, none⟩ (.int .i64 sd) = X5 := ⟨_, rfl⟩
 have hP := ((HD.out.put 0 (.slice a1 n1 c1)).put 1 (.int .i64 sq)).put 2 (.int .i64 sd)
 have ht := ((put1_turns W0 D 0 (.slice a1 n1 c1)).trans (put1_turns _ D 1 (.int .i64 sq))).trans (put1_turns _ D 2 (.int .i64 sd))
 rw [hX5] at hP ht
 have HX5 : Hid _ := hX5
 have HD5 : Hid (Bk X5 D 108 #[.slice a1 n1 c1, .int .i64 sq, .int .i64 sd, v3, v4, v5, v6, v7]) := hP
 have HT5 : Hid (Turns (fun b => b = D) W0 X5) := ht
 clear hX5 hP ht hb0 hW0 hB
 go_enter Try.func79, Try.ntmps79
 go_upto_region 1 with fail
 rw [HW0.out]
 clear HW0
 go_wp2
 try rw [HX5.out]
 go_end0
 exact ⟨⟨_, rfl⟩, HD5.out, (Turns.of_below HB0.out).trans HT5.out⟩
end Go.Proofs.Ytdcnimdhfhbdmaa

/- slices.Backward over events: what it hands to its loop. -/
namespace Go.Proofs.Ytdcnimdhfhbdmaa
open Go.RowKit Go.Shelf
attribute [local go_sem] Oper.semAt_some
/- What the loop is handed in round x. -/
abbrev bkArgs (l : List Ev) (x : Fin l.length) : Array Value := #[.int .i64 ((l.length : Int) - 1 - ((x.val : Nat) : Int)), (evAt l (l.length - 1 - x.val)).val]
/- What has come in these rounds. -/
def bkOf (l : List Ev) (pre : List (Fin l.length)) : List Ev := pre.map fun x => evAt l (l.length - 1 - x.val)
theorem bkOf_snoc (l : List Ev) (pre : List (Fin l.length)) (x : Fin l.length) : bkOf l (pre ++ [x]) = bkOf l pre ++ [evAt l (l.length - 1 - x.val)] := by simp [bkOf]
theorem bkOf_all (l : List Ev) : bkOf l (List.finRange l.length) = l.reverse := by
 refine ext_ev (by simp [bkOf]) (fun j hj => ?_)
 have hj' : j < l.length := by simpa [bkOf] using hj
 rw [evAt_rev l hj']
 unfold bkOf evAt
 simp [hj']
set_option maxRecDepth 100000 in
set_option maxHeartbeats 2000000 in
theorem back1_in (F : Fence) (n : Nat) (h49 : F.fn 97) (hro : F.round = none) (hn : 1 ≤ n) (lp Bs b off cap : Nat) (l : List Ev) (hreach : l.length ≤ 1048576) (J Jx : List (Fin l.length) → World → Prop)
  (hY : ∀ pre x W, J pre W → pre.length < l.length → YieldAt F (n - 1) Try.prog lp (bkArgs l x) W fun e W' =>
   (e = .returned (.bool true) ∧ J (pre ++ [x]) W' ∧ Same2 Bs b W W') ∨ (e = .returned (.bool false) ∧ Jx (pre ++ [x]) W'))
  (W : World) (hBs : W.cell? ⟨Bs, 0, none⟩ = some (.slice (some ⟨b, off, none⟩) l.length cap)) (hc : ∀ i, i < l.length → Ev.In W b (off + i * 7) (evAt l i)) (h0 : J [] W) :
  CallsIn F n Try.prog 97 #[.func (.yield lp) #[] #[], .pointer (some ⟨Bs, 0, none⟩)] W fun e W' => (∃ v, e = .returned v) ∧
   ((∃ ys, ys = List.finRange l.length ∧ J ys W') ∨ (∃ pre, (∃ k, k ≤ l.length ∧ pre = (List.finRange l.length).take k) ∧ Jx pre W')) := by
 refine callsIn_of_wp Try.func97 rfl h49 ?_ hro
 simp only [Try.ntmps97, List.size_toArray, List.length_cons, List.length_nil, Nat.reduceAdd, Nat.reduceSub, Array.replicate_succ, Array.replicate_zero, List.push_toArray, List.append_toArray, List.nil_append, List.cons_append]
 gi_wp2
 gi_loopw [3] (fun i wr => ∃ k : Nat, k ≤ l.length ∧ i = .int .i64 ((l.length : Int) - 1 - (k : Int)) ∧ J ((List.finRange l.length).take k) wr ∧ Same2 Bs b W wr)
  (fun i _ => (intOf i + 1).toNat)
 case atStart => exact ⟨0, Nat.zero_le _, by simp, by simpa using h0, Same2.refl _ _ _⟩
 case round =>
  obtain ⟨k, hk, rfl, hJs, hnx⟩ := hrel
  have hBs' : wr.cell? ⟨Bs, 0, none⟩ = some (.slice (some ⟨b, off, none⟩) l.length cap) := (hnx.cell1 0).trans hBs
  by_cases hlt : k < l.length
  ·have hy0 := hY _ ⟨k, hlt⟩ wr hJs (by rw [fin_take_length _ _ hk]; exact hlt)
   rw [← fin_take_succ _ _ hlt] at hy0
   obtain ⟨fn, tmps, assign, body, hy, hR⟩ := hy0
   simp only [bkArgs] at hy
   obtain ⟨m, hm⟩ : ∃ m, l.length - 1 - k = m := ⟨_, rfl⟩
   have HM : Hid (l.length - 1 - k = m) := hm
   have hmz : (l.length : Int) - 1 - (k : Int) = (m : Int) := by omega
   have hmn : (m : Int) < (l.length : Int) := by omega
   rw [hmz] at hy ⊢
   rw [hm] at hy
   obtain ⟨f0, f1, f2, f3, f4, f5, f6⟩ := hnx.ev (hc m (by omega))
   have HC : Hid (∀ i, i < l.length → Ev.In W b (off + i * 7) (evAt l i)) := hc
   clear hc hY hm hmz
   gi_wp2
   refine hR.mono ?_
   rintro e W3 (⟨rfl, hJ3, hk3⟩ | ⟨rfl, hJx3⟩)
   ·gi_wp2
    go_roundw
    case rel => exact ⟨k + 1, by omega, by rw [show (l.length : Int) - 1 - ((k + 1 : Nat) : Int) = (m : Int) - 1 from by have := HM.out; omega], hJ3, hnx.trans hk3⟩
    case measure => first | (simp [intOf]; done) | (simp [intOf]; omega)
   ·gi_wp2
    refine bodyPost_ret (results_none rfl _ _ _) rfl ?_
    exact ⟨⟨_, rfl⟩, .inr ⟨_, ⟨k + 1, by omega, rfl⟩, hJx3⟩⟩
  ·obtain rfl : k = l.length := by omega
   have hng : ¬ ((0 : Int) ≤ (l.length : Int) - 1 - (l.length : Int)) := by omega
   gi_wp2
   go_end0
   have hJ9 : J (List.finRange l.length) wr := by rw [List.take_of_length_le (by simp)] at hJs; exact hJs
   first | exact ⟨⟨_, rfl⟩, .inl ⟨_, rfl, hJ9⟩⟩ | exact ⟨⟨_, rfl⟩, .inl hJ9⟩
set_option maxRecDepth 100000 in
set_option maxHeartbeats 1000000 in
theorem back1_nil (F : Fence) (n : Nat) (h49 : F.fn 97) (hro : F.round = none) (lp Bs cap : Nat) (a : Option Addr) (J : List (Fin 0) → World → Prop) (W : World) (hBs : W.cell? ⟨Bs, 0, none⟩ = some (.slice a 0 cap)) (h0 : J [] W) :
  CallsIn F n Try.prog 97 #[.func (.yield lp) #[] #[], .pointer (some ⟨Bs, 0, none⟩)] W fun e W' => (∃ v, e = .returned v) ∧ J [] W' := by
 refine callsIn_of_wp Try.func97 rfl h49 ?_ hro
 simp only [Try.ntmps97, List.size_toArray, List.length_cons, List.length_nil, Nat.reduceAdd, Nat.reduceSub, Array.replicate_succ, Array.replicate_zero, List.push_toArray, List.append_toArray, List.nil_append, List.cons_append]
 gi_wp2
 gi_loopw [3] (fun i wr => i = .int .i64 (-1) ∧ J [] wr) (fun _ _ => 0)
 case atStart => exact ⟨rfl, h0⟩
 case round =>
  obtain ⟨rfl, hJs⟩ := hrel
  gi_wp2
  go_end0
  exact ⟨⟨_, rfl⟩, hJs⟩
set_option maxHeartbeats 1000000 in
theorem backward_any (a : Option Addr) (len cap : Nat) (w : World) :
  Calls Try.prog 81 #[.slice a len cap] w fun e w' => e = .returned (.func (.func 97) #[] #[.pointer (some ⟨w.heap.size, 0, none⟩)]) ∧ w' = w.alloc (.cells #[.slice a len cap] 34) := by
 go_enter Try.func81, Try.ntmps81
 go_wp2
 go_ret
 exact ⟨rfl, rfl⟩
theorem back_stops (F : Fence) (n : Nat) (h49 : F.fn 97) (hro : F.round = none) (hn : 1 ≤ n) (c b : Nat) (a : Option Addr) (cap : Nat) (l : List Ev) (hreach : l.length ≤ 1048576) (w : World) (hcs : c < w.heap.size)
  (hc : w.cell? ⟨c, 0, none⟩ = some (.slice a l.length cap)) (hI : l = [] ∨ ∃ off, a = some ⟨b, off, none⟩ ∧ EvsAt w b off l) :
  SeqStopsK F n Try.prog 97 #[.pointer (some ⟨c, 0, none⟩)] (bkArgs l) (Same2 c b) (fun ys => ys = List.finRange l.length) (fun pre => ∃ k, k ≤ l.length ∧ pre = (List.finRange l.length).take k) l.length w := fun lp J Jx W hW _ _ hY h0 => by
 have hc' := (hW.cell (p := ⟨c, 0, none⟩) hcs).trans hc
 rcases hI with rfl | ⟨off, rfl, hb, hev⟩
 ·exact (back1_nil F n h49 hro lp c cap a J W hc' h0).mono fun e W' ⟨he, hj⟩ => ⟨he, .inl ⟨_, rfl, hj⟩⟩
 ·exact back1_in F n h49 hro hn lp c b off cap l hreach J Jx hY W hc' (fun i hi => (hev i hi).below hW hb) h0
end Go.Proofs.Ytdcnimdhfhbdmaa

/- The doer hands out its part; what became of it, or the part as it was. -/
namespace Go.Proofs.Ytdcnimdhfhbdmaa
open Go.RowKit
theorem DoR.uForm {B D : Nat} {w : World} {vr vp vt va vu : Value} {A1 A4 : Nat → Prop} {p : Pa} {u : List Ev} (h : DoR B D w vr vp vt va vu A1 A4 p u) : ∃ a7 c7, vu = .slice a7 u.length c7 := owns_slice h.und
set_option maxRecDepth 100000 in
set_option maxHeartbeats 8000000 in
theorem part_any (B D : Nat) (vr vp vt va vu : Value) (A1 A4 : Nat → Prop) (p : Pa) (u : List Ev) (w : World) (hl : p.t.length ≤ 1048577) (h : DoR B D w vr vp vt va vu A1 A4 p u) :
  Calls Try.prog 82 #[.pointer (some ⟨D, 0, none⟩)] w fun r w' => r = .returned (.agg #[.int .i64 p.n, vr, .int .i64 p.st.q, .int .i64 p.st.d, vp, vt, va]) ∧ DoR B D w' vr vp vt va vu A1 A4 p.rev u ∧ Turns (fun k => vt.ownBlock = some k) w w' := by
 have HH : Hid (DoR B D w vr vp vt va vu A1 A4 p u) := h
 obtain ⟨a1, c1, a4, c4, a5, c5, a6, c6, rfl, rfl, rfl, rfl⟩ := h.cp.forms
 obtain ⟨W0, hW0⟩ : ∃ W0, w.alloc (.cells #[.int .i64 0, .slice none 0 0, .int .i64 0, .int .i64 0, .slice none 0 0, .slice none 0 0, .slice none 0 0] 36) = W0 := ⟨_, rfl⟩
 have HR0 : Hid (Bk W0 w.heap.size 36 #[.int .i64 0, .slice none 0 0, .int .i64 0, .int .i64 0, .slice none 0 0, .slice none 0 0, .slice none 0 0]) := hW0 ▸ Bk.new _ _ _
 have HB0 : Hid (Below w.heap.size w W0) := hW0 ▸ (Below.refl _ w).alloc (Nat.le_refl _) _
 have HO0 : Hid (DoR B D W0 (.slice a1 p.st.r.length c1) (.slice a4 p.p.length c4) (.slice a5 p.t.length c5) (.slice a6 p.a.length c6) vu A1 A4 p u) := HH.out.below HB0.out
 have HW0 : Hid (w.alloc (.cells #[.int .i64 0, .slice none 0 0, .int .i64 0, .int .i64 0, .slice none 0 0, .slice none 0 0, .slice none 0 0] 36) = W0) := hW0
 have hD := h.blk.lt
 have hs0 : w.heap.size < W0.heap.size := HR0.out.lt
 have x5 := HO0.out.blk.cell (i := 5) rfl
 clear h hW0
 go_enter Try.func82, Try.ntmps82
 go_upto_region 1 with fail
 rw [HW0.out]
 clear HW0
 go_wp2_with fail
 clear x5
 refine (rev_any B _ p.t W0 hl HO0.out.cp.todo).mono ?_
 rintro r w1 ⟨⟨ur, rfl⟩, ho, ht⟩
 have HD1 : Hid (Bk w1 D 108 #[.slice a1 p.st.r.length c1, .int .i64 p.st.q, .int .i64 p.st.d, .int .i64 p.n, .slice a4 p.p.length c4, .slice a5 p.t.length c5, .slice a6 p.a.length c6, vu]) := HO0.out.blk.turns ht (owns_ne HO0.out.cp.todo HO0.out.blk (by decide))
 have HR1 : Hid (Bk w1 w.heap.size 36 #[.int .i64 0, .slice none 0 0, .int .i64 0, .int .i64 0, .slice none 0 0, .slice none 0 0, .slice none 0 0]) := HR0.out.turns ht (owns_ne HO0.out.cp.todo HR0.out (by decide))
 have HO1 : Hid (DoR B D w1 (.slice a1 p.st.r.length c1) (.slice a4 p.p.length c4) (.slice a5 p.t.length c5) (.slice a6 p.a.length c6) vu A1 A4 p.rev u) := ⟨HO0.out.cp.revd ho ht, owns_turns HO0.out.und ht (fun k hk e => (HO0.out.du k hk).2.2.1 e), HD1.out, HO0.out.du, HO0.out.dD, HO0.out.lo⟩
 have HT1 : Hid (Turns (fun k => (Value.slice a5 p.t.length c5).ownBlock = some k) w w1) := (Turns.of_below HB0.out).trans ht
 have hs1 : W0.heap.size ≤ w1.heap.size := ht.size
 clear ho ht
 go_wp2_with fail
 refine wp_region_held_drew (S := fun W => W.cell? ⟨D, 0, none⟩ = some (.slice a1 p.st.r.length c1) ∧ W.cell? ⟨D, 1, none⟩ = some (.int .i64 p.st.q) ∧ W.cell? ⟨D, 2, none⟩ = some (.int .i64 p.st.d) ∧ W.cell? ⟨D, 3, none⟩ = some (.int .i64 p.n) ∧ W.cell? ⟨D, 4, none⟩ = some (.slice a4 p.p.length c4) ∧ W.cell? ⟨D, 5, none⟩ = some (.slice a5 p.t.length c5) ∧ W.cell? ⟨D, 6, none⟩ = some (.slice a6 p.a.length c6)) (by kernel_rfl) ⟨HD1.out.drew.cell rfl, HD1.out.drew.cell rfl, HD1.out.drew.cell rfl, HD1.out.drew.cell rfl, HD1.out.drew.cell rfl, HD1.out.drew.cell rfl, HD1.out.drew.cell rfl⟩ (fun hHeld => ?_)
 refine wpAnyH_take (i := 0) (oi := { dst := some 9, op := Op.move (Operand.tmp 0), type := 75, pos := _, after := _, guard := none }) (v := .pointer (some ⟨D, 0, none⟩)) rfl (by kernel_rfl) (by kernel_rfl) (by kernel_rfl) (fun _ _ _ h => h) (Or.inl ⟨by rfl, ?_⟩) (by assumption) ?_
 ·intro wX hSw
  try dsimp only at hSw
  go_simp
  try exact IntWalk.i64_in _ (by omega)
 try simp only [Act.put, List.setIfInBounds_toArray, List.set_cons_zero, List.set_cons_succ]
 refine wpAnyH_take (i := 1) (oi := { dst := some 10, op := Op.nilCheck (Operand.tmp 9), type := 0, pos := _, after := _, guard := none }) (v := .pointer (some ⟨D, 0, none⟩)) rfl (by kernel_rfl) (by kernel_rfl) (by kernel_rfl) (fun _ _ _ h => h) (Or.inl ⟨by rfl, ?_⟩) (by assumption) ?_
 ·intro wX hSw
  try dsimp only at hSw
  go_simp
  try exact IntWalk.i64_in _ (by omega)
 try simp only [Act.put, List.setIfInBounds_toArray, List.set_cons_zero, List.set_cons_succ]
 refine wpAnyH_take (i := 2) (oi := { dst := some 11, op := Op.fieldAddr 108 (Operand.tmp 10) 1, type := 0, pos := _, after := _, guard := none }) (v := .pointer (some ⟨D, 3, none⟩)) rfl (by kernel_rfl) (by kernel_rfl) (by kernel_rfl) (fun _ _ _ h => h) (Or.inl ⟨by rfl, ?_⟩) (by assumption) ?_
 ·intro wX hSw
  try dsimp only at hSw
  go_simp
  try exact IntWalk.i64_in _ (by omega)
 try simp only [Act.put, List.setIfInBounds_toArray, List.set_cons_zero, List.set_cons_succ]
 refine wpAnyH_take (i := 3) (oi := { dst := some 12, op := Op.load 3 (Operand.tmp 11), type := 3, pos := _, after := _, guard := none }) (v := .int .i64 p.n) rfl (by kernel_rfl) (by kernel_rfl) (by kernel_rfl) (fun _ _ _ h => h) (Or.inl ⟨by rfl, ?_⟩) (by assumption) ?_
 ·intro wX hSw
  try dsimp only at hSw
  go_simp
  try exact IntWalk.i64_in _ (by omega)
 try simp only [Act.put, List.setIfInBounds_toArray, List.set_cons_zero, List.set_cons_succ]
 refine wpAnyH_take (i := 4) (oi := { dst := some 13, op := Op.move (Operand.tmp 0), type := 75, pos := _, after := _, guard := none }) (v := .pointer (some ⟨D, 0, none⟩)) rfl (by kernel_rfl) (by kernel_rfl) (by kernel_rfl) (fun _ _ _ h => h) (Or.inl ⟨by rfl, ?_⟩) (by assumption) ?_
 ·intro wX hSw
  try dsimp only at hSw
  go_simp
  try exact IntWalk.i64_in _ (by omega)
 try simp only [Act.put, List.setIfInBounds_toArray, List.set_cons_zero, List.set_cons_succ]
 refine wpAnyH_take (i := 5) (oi := { dst := some 14, op := Op.nilCheck (Operand.tmp 13), type := 0, pos := _, after := _, guard := none }) (v := .pointer (some ⟨D, 0, none⟩)) rfl (by kernel_rfl) (by kernel_rfl) (by kernel_rfl) (fun _ _ _ h => h) (Or.inl ⟨by rfl, ?_⟩) (by assumption) ?_
 ·intro wX hSw
  try dsimp only at hSw
  go_simp
  try exact IntWalk.i64_in _ (by omega)
 try simp only [Act.put, List.setIfInBounds_toArray, List.set_cons_zero, List.set_cons_succ]
 refine wpAnyH_take (i := 6) (oi := { dst := some 15, op := Op.fieldAddr 108 (Operand.tmp 14) 0, type := 0, pos := _, after := _, guard := none }) (v := .pointer (some ⟨D, 0, none⟩)) rfl (by kernel_rfl) (by kernel_rfl) (by kernel_rfl) (fun _ _ _ h => h) (Or.inl ⟨by rfl, ?_⟩) (by assumption) ?_
 ·intro wX hSw
  try dsimp only at hSw
  go_simp
  try exact IntWalk.i64_in _ (by omega)
 try simp only [Act.put, List.setIfInBounds_toArray, List.set_cons_zero, List.set_cons_succ]
 refine wpAnyH_take (i := 7) (oi := { dst := some 16, op := Op.load 32 (Operand.tmp 15), type := 32, pos := _, after := _, guard := none }) (v := .agg #[.slice a1 p.st.r.length c1, .int .i64 p.st.q, .int .i64 p.st.d]) rfl (by kernel_rfl) (by kernel_rfl) (by kernel_rfl) (fun _ _ _ h => h) (Or.inl ⟨by rfl, ?_⟩) (by assumption) ?_
 ·intro wX hSw
  try dsimp only at hSw
  go_simp
  try exact IntWalk.i64_in _ (by omega)
 try simp only [Act.put, List.setIfInBounds_toArray, List.set_cons_zero, List.set_cons_succ]
 refine wpAnyH_take (i := 8) (oi := { dst := some 17, op := Op.move (Operand.tmp 0), type := 75, pos := _, after := _, guard := none }) (v := .pointer (some ⟨D, 0, none⟩)) rfl (by kernel_rfl) (by kernel_rfl) (by kernel_rfl) (fun _ _ _ h => h) (Or.inl ⟨by rfl, ?_⟩) (by assumption) ?_
 ·intro wX hSw
  try dsimp only at hSw
  go_simp
  try exact IntWalk.i64_in _ (by omega)
 try simp only [Act.put, List.setIfInBounds_toArray, List.set_cons_zero, List.set_cons_succ]
 refine wpAnyH_take (i := 9) (oi := { dst := some 18, op := Op.nilCheck (Operand.tmp 17), type := 0, pos := _, after := _, guard := none }) (v := .pointer (some ⟨D, 0, none⟩)) rfl (by kernel_rfl) (by kernel_rfl) (by kernel_rfl) (fun _ _ _ h => h) (Or.inl ⟨by rfl, ?_⟩) (by assumption) ?_
 ·intro wX hSw
  try dsimp only at hSw
  go_simp
  try exact IntWalk.i64_in _ (by omega)
 try simp only [Act.put, List.setIfInBounds_toArray, List.set_cons_zero, List.set_cons_succ]
 refine wpAnyH_take (i := 10) (oi := { dst := some 19, op := Op.fieldAddr 108 (Operand.tmp 18) 2, type := 0, pos := _, after := _, guard := none }) (v := .pointer (some ⟨D, 4, none⟩)) rfl (by kernel_rfl) (by kernel_rfl) (by kernel_rfl) (fun _ _ _ h => h) (Or.inl ⟨by rfl, ?_⟩) (by assumption) ?_
 ·intro wX hSw
  try dsimp only at hSw
  go_simp
  try exact IntWalk.i64_in _ (by omega)
 try simp only [Act.put, List.setIfInBounds_toArray, List.set_cons_zero, List.set_cons_succ]
 refine wpAnyH_take (i := 11) (oi := { dst := some 20, op := Op.fieldAddr 104 (Operand.tmp 19) 0, type := 0, pos := _, after := _, guard := none }) (v := .pointer (some ⟨D, 4, none⟩)) rfl (by kernel_rfl) (by kernel_rfl) (by kernel_rfl) (fun _ _ _ h => h) (Or.inl ⟨by rfl, ?_⟩) (by assumption) ?_
 ·intro wX hSw
  try dsimp only at hSw
  go_simp
  try exact IntWalk.i64_in _ (by omega)
 try simp only [Act.put, List.setIfInBounds_toArray, List.set_cons_zero, List.set_cons_succ]
 refine wpAnyH_take (i := 12) (oi := { dst := some 21, op := Op.load 33 (Operand.tmp 20), type := 33, pos := _, after := _, guard := none }) (v := .slice a4 p.p.length c4) rfl (by kernel_rfl) (by kernel_rfl) (by kernel_rfl) (fun _ _ _ h => h) (Or.inl ⟨by rfl, ?_⟩) (by assumption) ?_
 ·intro wX hSw
  try dsimp only at hSw
  go_simp
  try exact IntWalk.i64_in _ (by omega)
 try simp only [Act.put, List.setIfInBounds_toArray, List.set_cons_zero, List.set_cons_succ]
 refine wpAnyH_take (i := 13) (oi := { dst := some 22, op := Op.move (Operand.tmp 0), type := 75, pos := _, after := _, guard := none }) (v := .pointer (some ⟨D, 0, none⟩)) rfl (by kernel_rfl) (by kernel_rfl) (by kernel_rfl) (fun _ _ _ h => h) (Or.inl ⟨by rfl, ?_⟩) (by assumption) ?_
 ·intro wX hSw
  try dsimp only at hSw
  go_simp
  try exact IntWalk.i64_in _ (by omega)
 try simp only [Act.put, List.setIfInBounds_toArray, List.set_cons_zero, List.set_cons_succ]
 refine wpAnyH_take (i := 14) (oi := { dst := some 23, op := Op.nilCheck (Operand.tmp 22), type := 0, pos := _, after := _, guard := none }) (v := .pointer (some ⟨D, 0, none⟩)) rfl (by kernel_rfl) (by kernel_rfl) (by kernel_rfl) (fun _ _ _ h => h) (Or.inl ⟨by rfl, ?_⟩) (by assumption) ?_
 ·intro wX hSw
  try dsimp only at hSw
  go_simp
  try exact IntWalk.i64_in _ (by omega)
 try simp only [Act.put, List.setIfInBounds_toArray, List.set_cons_zero, List.set_cons_succ]
 refine wpAnyH_take (i := 15) (oi := { dst := some 24, op := Op.fieldAddr 108 (Operand.tmp 23) 3, type := 0, pos := _, after := _, guard := none }) (v := .pointer (some ⟨D, 5, none⟩)) rfl (by kernel_rfl) (by kernel_rfl) (by kernel_rfl) (fun _ _ _ h => h) (Or.inl ⟨by rfl, ?_⟩) (by assumption) ?_
 ·intro wX hSw
  try dsimp only at hSw
  go_simp
  try exact IntWalk.i64_in _ (by omega)
 try simp only [Act.put, List.setIfInBounds_toArray, List.set_cons_zero, List.set_cons_succ]
 refine wpAnyH_take (i := 16) (oi := { dst := some 25, op := Op.fieldAddr 106 (Operand.tmp 24) 0, type := 0, pos := _, after := _, guard := none }) (v := .pointer (some ⟨D, 5, none⟩)) rfl (by kernel_rfl) (by kernel_rfl) (by kernel_rfl) (fun _ _ _ h => h) (Or.inl ⟨by rfl, ?_⟩) (by assumption) ?_
 ·intro wX hSw
  try dsimp only at hSw
  go_simp
  try exact IntWalk.i64_in _ (by omega)
 try simp only [Act.put, List.setIfInBounds_toArray, List.set_cons_zero, List.set_cons_succ]
 refine wpAnyH_take (i := 17) (oi := { dst := some 26, op := Op.load 34 (Operand.tmp 25), type := 34, pos := _, after := _, guard := none }) (v := .slice a5 p.t.length c5) rfl (by kernel_rfl) (by kernel_rfl) (by kernel_rfl) (fun _ _ _ h => h) (Or.inl ⟨by rfl, ?_⟩) (by assumption) ?_
 ·intro wX hSw
  try dsimp only at hSw
  go_simp
  try exact IntWalk.i64_in _ (by omega)
 try simp only [Act.put, List.setIfInBounds_toArray, List.set_cons_zero, List.set_cons_succ]
 refine wpAnyH_take (i := 18) (oi := { dst := some 27, op := Op.move (Operand.tmp 0), type := 75, pos := _, after := _, guard := none }) (v := .pointer (some ⟨D, 0, none⟩)) rfl (by kernel_rfl) (by kernel_rfl) (by kernel_rfl) (fun _ _ _ h => h) (Or.inl ⟨by rfl, ?_⟩) (by assumption) ?_
 ·intro wX hSw
  try dsimp only at hSw
  go_simp
  try exact IntWalk.i64_in _ (by omega)
 try simp only [Act.put, List.setIfInBounds_toArray, List.set_cons_zero, List.set_cons_succ]
 refine wpAnyH_take (i := 19) (oi := { dst := some 28, op := Op.nilCheck (Operand.tmp 27), type := 0, pos := _, after := _, guard := none }) (v := .pointer (some ⟨D, 0, none⟩)) rfl (by kernel_rfl) (by kernel_rfl) (by kernel_rfl) (fun _ _ _ h => h) (Or.inl ⟨by rfl, ?_⟩) (by assumption) ?_
 ·intro wX hSw
  try dsimp only at hSw
  go_simp
  try exact IntWalk.i64_in _ (by omega)
 try simp only [Act.put, List.setIfInBounds_toArray, List.set_cons_zero, List.set_cons_succ]
 refine wpAnyH_take (i := 20) (oi := { dst := some 29, op := Op.fieldAddr 108 (Operand.tmp 28) 4, type := 0, pos := _, after := _, guard := none }) (v := .pointer (some ⟨D, 6, none⟩)) rfl (by kernel_rfl) (by kernel_rfl) (by kernel_rfl) (fun _ _ _ h => h) (Or.inl ⟨by rfl, ?_⟩) (by assumption) ?_
 ·intro wX hSw
  try dsimp only at hSw
  go_simp
  try exact IntWalk.i64_in _ (by omega)
 try simp only [Act.put, List.setIfInBounds_toArray, List.set_cons_zero, List.set_cons_succ]
 refine wpAnyH_take (i := 21) (oi := { dst := some 30, op := Op.load 22 (Operand.tmp 29), type := 22, pos := _, after := _, guard := none }) (v := .slice a6 p.a.length c6) rfl (by kernel_rfl) (by kernel_rfl) (by kernel_rfl) (fun _ _ _ h => h) (Or.inl ⟨by rfl, ?_⟩) (by assumption) ?_
 ·intro wX hSw
  try dsimp only at hSw
  go_simp
  try exact IntWalk.i64_in _ (by omega)
 try simp only [Act.put, List.setIfInBounds_toArray, List.set_cons_zero, List.set_cons_succ]
 refine wpAnyH_take (i := 22) (oi := { dst := some 31, op := Op.build 36 #[(0, Operand.tmp 12), (1, Operand.tmp 16), (2, Operand.tmp 21), (3, Operand.tmp 26), (4, Operand.tmp 30)], type := 36, pos := _, after := _, guard := none }) (v := .agg #[.int .i64 p.n, .slice a1 p.st.r.length c1, .int .i64 p.st.q, .int .i64 p.st.d, .slice a4 p.p.length c4, .slice a5 p.t.length c5, .slice a6 p.a.length c6]) rfl (by kernel_rfl) (by kernel_rfl) (by kernel_rfl) (fun _ _ _ h => h) (Or.inl ⟨by rfl, ?_⟩) (by assumption) ?_
 ·intro wX hSw
  try dsimp only at hSw
  go_simp
  try exact IntWalk.i64_in _ (by omega)
 try simp only [Act.put, List.setIfInBounds_toArray, List.set_cons_zero, List.set_cons_succ]
 refine wpAnyH_ready (rs := [23]) (by kernel_rfl) (by simp) ?_
 refine AllReadyH.cons (o := { dst := none, op := Op.store 36 (Operand.tmp 2) (Operand.tmp 31), type := 0, pos := _, after := _, guard := none }) rfl (fun K hK => ?_) AllReadyH.nil
 have z0 := HR1.out.cell (i := 0) rfl
 have z1 := HR1.out.cell (i := 1) rfl
 have z2 := HR1.out.cell (i := 2) rfl
 have z3 := HR1.out.cell (i := 3) rfl
 have z4 := HR1.out.cell (i := 4) rfl
 have z5 := HR1.out.cell (i := 5) rfl
 have z6 := HR1.out.cell (i := 6) rfl
 have zf := HR1.out.free
 obtain ⟨X5, hX5⟩ : ∃ X5, (put7s w1 w.heap.size (.int .i64 p.n) (.slice a1 p.st.r.length c1) (.int .i64 p.st.q) (.int .i64 p.st.d) (.slice a4 p.p.length c4) (.slice a5 p.t.length c5) (.slice a6 p.a.length c6)).drew = X5 := ⟨_, rfl⟩
 have hP := (HR1.out.put7s (.int .i64 p.n) (.slice a1 p.st.r.length c1) (.int .i64 p.st.q) (.int .i64 p.st.d) (.slice a4 p.p.length c4) (.slice a5 p.t.length c5) (.slice a6 p.a.length c6)).drew
 have ht := (put7s_turns w1 w.heap.size (.int .i64 p.n) (.slice a1 p.st.r.length c1) (.int .i64 p.st.q) (.int .i64 p.st.d) (.slice a4 p.p.length c4) (.slice a5 p.t.length c5) (.slice a6 p.a.length c6)).drew
 rw [hX5] at hP ht
 unfold put7s at hX5
 have HX5 : Hid _ := hX5
 have HP5 : Hid (Bk X5 w.heap.size 36 #[.int .i64 p.n, .slice a1 p.st.r.length c1, .int .i64 p.st.q, .int .i64 p.st.d, .slice a4 p.p.length c4, .slice a5 p.t.length c5, .slice a6 p.a.length c6]) := hP
 have HT5 : Hid (Turns (fun b => b = w.heap.size) w1 X5) := ht
 have HD5 : Hid (Bk X5 D 108 #[.slice a1 p.st.r.length c1, .int .i64 p.st.q, .int .i64 p.st.d, .int .i64 p.n, .slice a4 p.p.length c4, .slice a5 p.t.length c5, .slice a6 p.a.length c6, vu]) := HD1.out.turns ht (by omega)
 clear hX5 hP ht
 go_simp
 clear zf z0 z1 z2 z3 z4 z5 z6
 rw [HX5.out]
 refine hK.out _ _ ⟨HD5.out.cell rfl, HD5.out.cell rfl, HD5.out.cell rfl, HD5.out.cell rfl, HD5.out.cell rfl, HD5.out.cell rfl, HD5.out.cell rfl⟩ (fun hHeld => ?_)
 clear hK K
 try simp only [Act.put, List.setIfInBounds_toArray, List.set_cons_zero, List.set_cons_succ]
 refine wpAnyH_done (by kernel_rfl) ?_ _
 clear hHeld
 go_wp2
 have t0 := HP5.out.cell (i := 0) rfl
 have t1 := HP5.out.cell (i := 1) rfl
 have t2 := HP5.out.cell (i := 2) rfl
 have t3 := HP5.out.cell (i := 3) rfl
 have t4 := HP5.out.cell (i := 4) rfl
 have t5 := HP5.out.cell (i := 5) rfl
 have t6 := HP5.out.cell (i := 6) rfl
 refine bodyPost_ret (v := .agg #[.int .i64 p.n, .slice a1 p.st.r.length c1, .int .i64 p.st.q, .int .i64 p.st.d, .slice a4 p.p.length c4, .slice a5 p.t.length c5, .slice a6 p.a.length c6]) (by simp [results, Try.results82, go_sem, t0, t1, t2, t3, t4, t5, t6]) rfl ?_
 have hbT : Below w.heap.size w1 X5 := HT5.out.to_below (fun k e => by omega) (by omega)
 have hh := HH.out
 have hne : ∀ k, k = w.heap.size → ¬ A1 k ∧ ¬ A4 k ∧ (Value.slice a5 p.t.length c5).ownBlock ≠ some k ∧ (Value.slice a6 p.a.length c6).ownBlock ≠ some k := fun k e => ⟨fun e1 => by have := (hh.cp.d1 k e1).1; omega, fun e1 => by have := (hh.cp.d4 k e1).1; omega, fun e1 => by have := owns_lt hh.cp.todo e1; omega, fun e1 => by have := owns_lt hh.cp.antis e1; omega⟩
 exact ⟨rfl, ⟨HO1.out.cp.turns HT5.out hne, owns_turns HO1.out.und HT5.out (fun k hk e => by have := owns_lt hh.und hk; omega), HD5.out, hh.du, hh.dD, hh.lo⟩, HT1.out.belowT hbT⟩
theorem part_rev (B D : Nat) (vr vp vt va vu : Value) (A1 A4 : Nat → Prop) (q : Pa) (u : List Ev) (w : World) (hl : q.t.length ≤ 1048577) (h : DoR B D w vr vp vt va vu A1 A4 q.rev u) :
  Calls Try.prog 82 #[.pointer (some ⟨D, 0, none⟩)] w fun r w' => r = .returned (.agg #[.int .i64 q.n, vr, .int .i64 q.st.q, .int .i64 q.st.d, vp, vt, va]) ∧ DoR B D w' vr vp vt va vu A1 A4 q u ∧ Turns (fun k => vt.ownBlock = some k) w w' :=
 (part_any B D vr vp vt va vu A1 A4 q.rev u w (by show q.t.reverse.length ≤ 1048577; rw [List.length_reverse]; exact hl) h).mono fun r w' hh => ⟨hh.1, by have h2 := hh.2.1; rw [Pa.rev_rev] at h2; exact h2, hh.2.2⟩
theorem DoR.a2 {B D : Nat} {w : World} {vr vp vt va vu : Value} {A1 A4 : Nat → Prop} {q : Pa} {u : List Ev} (h : DoR B D w vr vp vt va vu A1 A4 q u) : A2 (fun k => B ≤ k ∧ k < w.heap.size) w (.agg #[.int .i64 q.n, vr, .int .i64 q.st.q, .int .i64 q.st.d, vp, vt, va]) vu q (evsD u) := by
 refine ⟨fun k => A1 k ∨ A4 k ∨ vt.ownBlock = some k ∨ va.ownBlock = some k, fun k => vu.ownBlock = some k, h.cp.partF _ (fun k hk => hk), (own_rowF (cellsL_length _) h.und).own, fun k hk => ?_, fun k hk => ⟨row_ge h.und hk, owns_lt h.und hk⟩⟩
 have hd : vu.ownBlock = some k → ¬ (A1 k ∨ A4 k ∨ vt.ownBlock = some k ∨ va.ownBlock = some k) := fun e1 e2 => by
  have := h.du k e1
  rcases e2 with e2 | e2 | e2 | e2
  ·exact this.1 e2
  ·exact this.2.1 e2
  ·exact this.2.2.1 e2
  ·exact this.2.2.2 e2
 refine ⟨?_, fun e => hd e hk⟩
 rcases hk with e | e | e | e
 ·exact (h.cp.d1 k e).1
 ·exact (h.cp.d4 k e).1
 ·exact ⟨row_ge h.cp.todo e, owns_lt h.cp.todo e⟩
 ·exact ⟨row_ge h.cp.antis e, owns_lt h.cp.antis e⟩
theorem DoR.other {B D N : Nat} {w w' : World} {vr vp vt va vu : Value} {A1 A4 : Nat → Prop} {p : Pa} {u : List Ev} (h : DoR B D w vr vp vt va vu A1 A4 p u) (ht : Turns (fun k => k = N) w w') (hA : ∀ k, A1 k ∨ A4 k → k ≠ N) (h5 : ∀ k, vt.ownBlock = some k → k ≠ N) (h6 : ∀ k, va.ownBlock = some k → k ≠ N) (h7 : ∀ k, vu.ownBlock = some k → k ≠ N) (hD : D ≠ N) : DoR B D w' vr vp vt va vu A1 A4 p u :=
 ⟨h.cp.turns ht (fun k e => ⟨fun e1 => hA k (.inl e1) e, fun e1 => hA k (.inr e1) e, fun e1 => h5 k e1 e, fun e1 => h6 k e1 e⟩), owns_turns h.und ht (fun k hk e => h7 k hk e), h.blk.turns ht hD, h.du, h.dD, h.lo⟩
/- What became of it, or the part as it was. -/
noncomputable def outA (q p : Pa) : Pa := if q.ok = true then q else p
noncomputable def outB (q : Pa) (u : List Ev) : List Ev := if q.ok = true then u else []
set_option maxRecDepth 100000 in
set_option maxHeartbeats 16000000 in
theorem outcome_any (B D : Nat) (vr vp vt va vu : Value) (A1 A4 : Nat → Prop) (q p : Pa) (u : List Ev) (x : Value) (w : World) (hq : q.wt ≤ 1048576) (hp : p.wt ≤ 1048576) (hBw : B ≤ w.heap.size) (h : DoR B D w vr vp vt va vu A1 A4 q.rev u) (hx : ∀ w', Turns (fun k => vt.ownBlock = some k) w w' → IsPart w' x p) :
  Calls Try.prog 53 #[.pointer (some ⟨D, 0, none⟩), x] w fun r w' => ∃ y1 y2, r = .returned (.tuple #[y1, y2, .bool q.ok]) ∧ Turns (fun k => vt.ownBlock = some k) w w' ∧ A2 (fun k => B ≤ k ∧ k < w'.heap.size) w' y1 y2 (outA q p) (evsD (outB q u)) := by
 have hqw := hq
 have HIP0 : Hid (∀ w', Turns (fun k => vt.ownBlock = some k) w w' → IsPart w' x p) := hx
 have HH : Hid (DoR B D w vr vp vt va vu A1 A4 q.rev u) := h
 obtain ⟨u1, u4, u5, u6, rfl, _⟩ := hx w (Turns.refl _ _)
 obtain ⟨a7, c7, rfl⟩ := h.uForm
 have hD := h.blk.lt
 obtain ⟨W0, hW0⟩ : ∃ W0, (w.alloc (.cells #[.int .i64 p.n, u1, .int .i64 p.st.q, .int .i64 p.st.d, u4, u5, u6] 36)).alloc (.cells #[.int .i64 0, .slice none 0 0, .int .i64 0, .int .i64 0, .slice none 0 0, .slice none 0 0, .slice none 0 0] 36) = W0 := ⟨_, rfl⟩
 have hb0 : Below w.heap.size w W0 := hW0 ▸ ((Below.refl _ w).alloc (Nat.le_refl _) _).alloc (by simp) _
 have HX0 : Hid (Bk W0 w.heap.size 36 #[.int .i64 p.n, u1, .int .i64 p.st.q, .int .i64 p.st.d, u4, u5, u6]) := hW0 ▸ (Bk.new w _ _).alloc _
 have HZ0 : Hid (Bk W0 (w.heap.size + 1) 36 #[.int .i64 0, .slice none 0 0, .int .i64 0, .int .i64 0, .slice none 0 0, .slice none 0 0, .slice none 0 0]) := hW0 ▸ Bk.newAt (by simp) _ _
 have HO0 : Hid (DoR B D W0 vr vp vt va (.slice a7 u.length c7) A1 A4 q.rev u) := HH.out.below hb0
 have HB0 : Hid (Below w.heap.size w W0) := hb0
 have hs0 : w.heap.size + 1 < W0.heap.size := HZ0.out.lt
 have HW0 : Hid ((w.alloc (.cells #[.int .i64 p.n, u1, .int .i64 p.st.q, .int .i64 p.st.d, u4, u5, u6] 36)).alloc (.cells #[.int .i64 0, .slice none 0 0, .int .i64 0, .int .i64 0, .slice none 0 0, .slice none 0 0, .slice none 0 0] 36) = W0) := hW0
 have hql : q.t.length ≤ 1048577 := by
  have h9 := hq
  unfold Pa.wt at h9
  rw [evs_wt] at h9
  omega
 clear hx h hb0 hW0 hq
 go_enter Try.func53, Try.ntmps53
 go_upto_region 1 with fail
 rw [HW0.out]
 clear HW0
 go_wp2_with fail
 refine (part_rev B D vr vp vt va _ A1 A4 q u W0 hql HO0.out).mono ?_
 rintro r w3 ⟨rfl, hdo, ht⟩
 have hT3 : Turns (fun k => vt.ownBlock = some k) w w3 := (Turns.of_below HB0.out).trans ht
 have hX3 : Bk w3 w.heap.size 36 #[.int .i64 p.n, u1, .int .i64 p.st.q, .int .i64 p.st.d, u4, u5, u6] := HX0.out.turns ht (owns_ne HO0.out.cp.todo HX0.out (by decide))
 have hZ3 : Bk w3 (w.heap.size + 1) 36 #[.int .i64 0, .slice none 0 0, .int .i64 0, .int .i64 0, .slice none 0 0, .slice none 0 0, .slice none 0 0] := HZ0.out.turns ht (owns_ne HO0.out.cp.todo HZ0.out (by decide))
 have hs3 : W0.heap.size ≤ w3.heap.size := ht.size
 obtain ⟨a1, c1, a4, c4, a5, c5, a6, c6, rfl, rfl, rfl, rfl⟩ := hdo.cp.forms
 have HIP : Hid (∀ w', Turns (fun k => (Value.slice a5 q.t.length c5).ownBlock = some k) w w' → IsPart w' (.agg #[.int .i64 p.n, u1, .int .i64 p.st.q, .int .i64 p.st.d, u4, u5, u6]) p) := HIP0.out
 have HA3 : Hid (A2 (fun k => B ≤ k ∧ k < w3.heap.size) w3 (.agg #[.int .i64 q.n, .slice a1 q.st.r.length c1, .int .i64 q.st.q, .int .i64 q.st.d, .slice a4 q.p.length c4, .slice a5 q.t.length c5, .slice a6 q.a.length c6]) (.slice a7 u.length c7) q (evsD u)) := hdo.a2
 obtain ⟨W4, hW4⟩ : ∃ V, w3.alloc (.cells #[.int .i64 q.n, .slice a1 q.st.r.length c1, .int .i64 q.st.q, .int .i64 q.st.d, .slice a4 q.p.length c4, .slice a5 q.t.length c5, .slice a6 q.a.length c6] 36) = V := ⟨_, rfl⟩
 have hb4 : Below w3.heap.size w3 W4 := hW4 ▸ (Below.refl _ w3).alloc (Nat.le_refl _) _
 have HB34 : Hid (Below w3.heap.size w3 W4) := hb4
 have Q4 : Hid (Bk W4 w3.heap.size 36 #[.int .i64 q.n, .slice a1 q.st.r.length c1, .int .i64 q.st.q, .int .i64 q.st.d, .slice a4 q.p.length c4, .slice a5 q.t.length c5, .slice a6 q.a.length c6]) := hW4 ▸ Bk.new w3 _ _
 have Z4 : Hid (Bk W4 (w.heap.size + 1) 36 #[.int .i64 0, .slice none 0 0, .int .i64 0, .int .i64 0, .slice none 0 0, .slice none 0 0, .slice none 0 0]) := hZ3.below hb4
 have X4 : Hid (Bk W4 w.heap.size 36 #[.int .i64 p.n, u1, .int .i64 p.st.q, .int .i64 p.st.d, u4, u5, u6]) := hX3.below hb4
 have HD4 : Hid (DoR B D W4 (.slice a1 q.st.r.length c1) (.slice a4 q.p.length c4) (.slice a5 q.t.length c5) (.slice a6 q.a.length c6) (.slice a7 u.length c7) A1 A4 q u) := hdo.below hb4
 have HT4 : Hid (Turns (fun k => (Value.slice a5 q.t.length c5).ownBlock = some k) w W4) := hT3.trans (Turns.of_below hb4)
 have hs4 : w3.heap.size < W4.heap.size := Q4.out.lt
 have HNR : Hid (∀ k, A1 k ∨ A4 k → k < w.heap.size) := fun k hk => by
  rcases hk with e | e
  ·exact (HH.out.cp.d1 k e).1.2
  ·exact (HH.out.cp.d4 k e).1.2
 clear hT3 hX3 hZ3 hb4 ht
 have y0 := Q4.out.cell (i := 0) rfl
 have y1 := Q4.out.cell (i := 1) rfl
 have y2 := Q4.out.cell (i := 2) rfl
 have y3 := Q4.out.cell (i := 3) rfl
 have y4 := Q4.out.cell (i := 4) rfl
 have y5 := Q4.out.cell (i := 5) rfl
 have y6 := Q4.out.cell (i := 6) rfl
 go_wp2_with fail
 clear hW4 hdo y0 y1 y2 y3 y4 y5 y6
 refine (iPartOk_is _ q _ hqw (HA3.out.part.under HB34.out)).mono ?_
 rintro r w5 ⟨rfl, hb⟩
 have HB45 : Hid (Below w3.heap.size w3 w5) := HB34.out.trans (hb.mono HB34.out.size)
 have HB5 : Hid (Turns (fun k => (Value.slice a5 q.t.length c5).ownBlock = some k) w w5) := HT4.out.trans (Turns.of_below hb)
 have hs5 : W4.heap.size ≤ w5.heap.size := hb.size
 have Z5 : Hid (Bk w5 (w.heap.size + 1) 36 #[.int .i64 0, .slice none 0 0, .int .i64 0, .int .i64 0, .slice none 0 0, .slice none 0 0, .slice none 0 0]) := Z4.out.below hb
 have X5' : Hid (Bk w5 w.heap.size 36 #[.int .i64 p.n, u1, .int .i64 p.st.q, .int .i64 p.st.d, u4, u5, u6]) := X4.out.below hb
 have Q5 : Hid (Bk w5 w3.heap.size 36 #[.int .i64 q.n, .slice a1 q.st.r.length c1, .int .i64 q.st.q, .int .i64 q.st.d, .slice a4 q.p.length c4, .slice a5 q.t.length c5, .slice a6 q.a.length c6]) := Q4.out.below hb
 have HD5 : Hid (DoR B D w5 (.slice a1 q.st.r.length c1) (.slice a4 q.p.length c4) (.slice a5 q.t.length c5) (.slice a6 q.a.length c6) (.slice a7 u.length c7) A1 A4 q u) := HD4.out.below hb
 clear hb Z4 X4 Q4 HD4
 cases hoa : q.ok
 case false =>
  have HOA : Hid (q.ok = false) := hoa
  clear hoa
  have x0 := X5'.out.cell (i := 0) rfl
  have x1 := X5'.out.cell (i := 1) rfl
  have x2 := X5'.out.cell (i := 2) rfl
  have x3 := X5'.out.cell (i := 3) rfl
  have x4 := X5'.out.cell (i := 4) rfl
  have x5 := X5'.out.cell (i := 5) rfl
  have x6 := X5'.out.cell (i := 6) rfl
  go_wp2_with fail
  clear x0 x1 x2 x3 x4 x5 x6
  have hIP : IsPart w5 (.agg #[.int .i64 p.n, u1, .int .i64 p.st.q, .int .i64 p.st.d, u4, u5, u6]) p := HIP.out w5 HB5.out
  refine (copyPart_any _ p _ (by omega) hIP).mono ?_
  rintro r w6 ⟨y, rfl, hb, hF⟩
  have HB6 : Hid (Turns (fun k => (Value.slice a5 q.t.length c5).ownBlock = some k) w w6) := HB5.out.trans (Turns.of_below hb)
  have hs6 : w5.heap.size ≤ w6.heap.size := hb.size
  have Z6 : Hid (Bk w6 (w.heap.size + 1) 36 #[.int .i64 0, .slice none 0 0, .int .i64 0, .int .i64 0, .slice none 0 0, .slice none 0 0, .slice none 0 0]) := Z5.out.below hb
  have HF6 : Hid (PartF (fun b => w5.heap.size ≤ b ∧ b < w6.heap.size) w6 y p) := hF
  obtain ⟨r1, s1, r4, s4, r5, s5, r6, s6, rfl⟩ := PartF.form hF
  clear hb hF Z5 X5' Q5
  have z0 := Z6.out.cell (i := 0) rfl
  have z1 := Z6.out.cell (i := 1) rfl
  have z2 := Z6.out.cell (i := 2) rfl
  have z3 := Z6.out.cell (i := 3) rfl
  have z4 := Z6.out.cell (i := 4) rfl
  have z5 := Z6.out.cell (i := 5) rfl
  have z6 := Z6.out.cell (i := 6) rfl
  have zf := Z6.out.free
  obtain ⟨X5, hX5⟩ : ∃ X5, put7s w6 (w.heap.size + 1) (.int .i64 p.n) (.slice r1 p.st.r.length s1) (.int .i64 p.st.q) (.int .i64 p.st.d) (.slice r4 p.p.length s4) (.slice r5 p.t.length s5) (.slice r6 p.a.length s6) = X5 := ⟨_, rfl⟩
  have hP := Z6.out.put7s (.int .i64 p.n) (.slice r1 p.st.r.length s1) (.int .i64 p.st.q) (.int .i64 p.st.d) (.slice r4 p.p.length s4) (.slice r5 p.t.length s5) (.slice r6 p.a.length s6)
  have ht := put7s_turns w6 (w.heap.size + 1) (.int .i64 p.n) (.slice r1 p.st.r.length s1) (.int .i64 p.st.q) (.int .i64 p.st.d) (.slice r4 p.p.length s4) (.slice r5 p.t.length s5) (.slice r6 p.a.length s6)
  rw [hX5] at hP ht
  unfold put7s at hX5
  have HX5 : Hid _ := hX5
  have HP5 : Hid (Bk X5 (w.heap.size + 1) 36 #[.int .i64 p.n, .slice r1 p.st.r.length s1, .int .i64 p.st.q, .int .i64 p.st.d, .slice r4 p.p.length s4, .slice r5 p.t.length s5, .slice r6 p.a.length s6]) := hP
  have HT5 : Hid (Turns (fun b => b = (w.heap.size + 1)) w6 X5) := ht
  clear hX5 hP ht
  go_wp2
  try rw [HX5.out]
  have t0 := HP5.out.cell (i := 0) rfl
  have t1 := HP5.out.cell (i := 1) rfl
  have t2 := HP5.out.cell (i := 2) rfl
  have t3 := HP5.out.cell (i := 3) rfl
  have t4 := HP5.out.cell (i := 4) rfl
  have t5 := HP5.out.cell (i := 5) rfl
  have t6 := HP5.out.cell (i := 6) rfl
  refine bodyPost_ret (v := .tuple #[.agg #[.int .i64 p.n, .slice r1 p.st.r.length s1, .int .i64 p.st.q, .int .i64 p.st.d, .slice r4 p.p.length s4, .slice r5 p.t.length s5, .slice r6 p.a.length s6], .slice none 0 0, .bool false]) (by simp [results, Try.results53, go_sem, t0, t1, t2, t3, t4, t5, t6]) rfl ?_
  have hA : outA q p = p ∧ outB q u = [] := by unfold outA outB; rw [HOA.out]; exact ⟨rfl, rfl⟩
  rw [hA.1, hA.2, HOA.out]
  have hsx := HT5.out.size
  exact ⟨_, _, rfl, HB6.out.belowT (HT5.out.to_below (fun b e => by omega) (by omega)), _, fun _ => False, HF6.out.turns HT5.out (fun b hb e => by omega), nilE _, fun b hb => ⟨by omega, id⟩, fun b hb => hb.elim⟩
 have HOA : Hid (q.ok = true) := hoa
 clear hoa X5'
 go_wp2_with fail
 refine wp_region_held_drew (S := fun W => W.cell? ⟨w3.heap.size, 0, none⟩ = some (.int .i64 q.n) ∧ W.cell? ⟨w3.heap.size, 1, none⟩ = some (.slice a1 q.st.r.length c1) ∧ W.cell? ⟨w3.heap.size, 2, none⟩ = some (.int .i64 q.st.q) ∧ W.cell? ⟨w3.heap.size, 3, none⟩ = some (.int .i64 q.st.d) ∧ W.cell? ⟨w3.heap.size, 4, none⟩ = some (.slice a4 q.p.length c4) ∧ W.cell? ⟨w3.heap.size, 5, none⟩ = some (.slice a5 q.t.length c5) ∧ W.cell? ⟨w3.heap.size, 6, none⟩ = some (.slice a6 q.a.length c6) ∧ W.cell? ⟨D, 7, none⟩ = some (.slice a7 u.length c7)) (by kernel_rfl) ⟨Q5.out.drew.cell rfl, Q5.out.drew.cell rfl, Q5.out.drew.cell rfl, Q5.out.drew.cell rfl, Q5.out.drew.cell rfl, Q5.out.drew.cell rfl, Q5.out.drew.cell rfl, HD5.out.blk.drew.cell rfl⟩ (fun hHeld => ?_)
 refine wpAnyH_take (i := 0) (oi := { dst := some 15, op := Op.load 36 (Operand.tmp 7), type := 36, pos := _, after := _, guard := none }) (v := .agg #[.int .i64 q.n, .slice a1 q.st.r.length c1, .int .i64 q.st.q, .int .i64 q.st.d, .slice a4 q.p.length c4, .slice a5 q.t.length c5, .slice a6 q.a.length c6]) rfl (by kernel_rfl) (by kernel_rfl) (by kernel_rfl) (fun _ _ _ h => h) (Or.inl ⟨by rfl, ?_⟩) (by assumption) ?_
 ·intro wX hSw
  try dsimp only at hSw
  go_simp
  try exact IntWalk.i64_in _ (by omega)
 try simp only [Act.put, List.setIfInBounds_toArray, List.set_cons_zero, List.set_cons_succ]
 refine wpAnyH_take (i := 1) (oi := { dst := some 16, op := Op.move (Operand.tmp 0), type := 75, pos := _, after := _, guard := none }) (v := .pointer (some ⟨D, 0, none⟩)) rfl (by kernel_rfl) (by kernel_rfl) (by kernel_rfl) (fun _ _ _ h => h) (Or.inl ⟨by rfl, ?_⟩) (by assumption) ?_
 ·intro wX hSw
  try dsimp only at hSw
  go_simp
  try exact IntWalk.i64_in _ (by omega)
 try simp only [Act.put, List.setIfInBounds_toArray, List.set_cons_zero, List.set_cons_succ]
 refine wpAnyH_take (i := 2) (oi := { dst := some 17, op := Op.nilCheck (Operand.tmp 16), type := 0, pos := _, after := _, guard := none }) (v := .pointer (some ⟨D, 0, none⟩)) rfl (by kernel_rfl) (by kernel_rfl) (by kernel_rfl) (fun _ _ _ h => h) (Or.inl ⟨by rfl, ?_⟩) (by assumption) ?_
 ·intro wX hSw
  try dsimp only at hSw
  go_simp
  try exact IntWalk.i64_in _ (by omega)
 try simp only [Act.put, List.setIfInBounds_toArray, List.set_cons_zero, List.set_cons_succ]
 refine wpAnyH_take (i := 3) (oi := { dst := some 18, op := Op.fieldAddr 108 (Operand.tmp 17) 5, type := 0, pos := _, after := _, guard := none }) (v := .pointer (some ⟨D, 7, none⟩)) rfl (by kernel_rfl) (by kernel_rfl) (by kernel_rfl) (fun _ _ _ h => h) (Or.inl ⟨by rfl, ?_⟩) (by assumption) ?_
 ·intro wX hSw
  try dsimp only at hSw
  go_simp
  try exact IntWalk.i64_in _ (by omega)
 try simp only [Act.put, List.setIfInBounds_toArray, List.set_cons_zero, List.set_cons_succ]
 refine wpAnyH_take (i := 4) (oi := { dst := some 19, op := Op.load 34 (Operand.tmp 18), type := 34, pos := _, after := _, guard := none }) (v := .slice a7 u.length c7) rfl (by kernel_rfl) (by kernel_rfl) (by kernel_rfl) (fun _ _ _ h => h) (Or.inl ⟨by rfl, ?_⟩) (by assumption) ?_
 ·intro wX hSw
  try dsimp only at hSw
  go_simp
  try exact IntWalk.i64_in _ (by omega)
 try simp only [Act.put, List.setIfInBounds_toArray, List.set_cons_zero, List.set_cons_succ]
 refine wpAnyH_ready (rs := [5]) (by kernel_rfl) (by simp) ?_
 refine AllReadyH.cons (o := { dst := none, op := Op.store 36 (Operand.tmp 4) (Operand.tmp 15), type := 0, pos := _, after := _, guard := none }) rfl (fun K hK => ?_) AllReadyH.nil
 have z0 := Z5.out.cell (i := 0) rfl
 have z1 := Z5.out.cell (i := 1) rfl
 have z2 := Z5.out.cell (i := 2) rfl
 have z3 := Z5.out.cell (i := 3) rfl
 have z4 := Z5.out.cell (i := 4) rfl
 have z5 := Z5.out.cell (i := 5) rfl
 have z6 := Z5.out.cell (i := 6) rfl
 have zf := Z5.out.free
 obtain ⟨X5, hX5⟩ : ∃ X5, (put7s w5 (w.heap.size + 1) (.int .i64 q.n) (.slice a1 q.st.r.length c1) (.int .i64 q.st.q) (.int .i64 q.st.d) (.slice a4 q.p.length c4) (.slice a5 q.t.length c5) (.slice a6 q.a.length c6)).drew = X5 := ⟨_, rfl⟩
 have hP := (Z5.out.put7s (.int .i64 q.n) (.slice a1 q.st.r.length c1) (.int .i64 q.st.q) (.int .i64 q.st.d) (.slice a4 q.p.length c4) (.slice a5 q.t.length c5) (.slice a6 q.a.length c6)).drew
 have ht := (put7s_turns w5 (w.heap.size + 1) (.int .i64 q.n) (.slice a1 q.st.r.length c1) (.int .i64 q.st.q) (.int .i64 q.st.d) (.slice a4 q.p.length c4) (.slice a5 q.t.length c5) (.slice a6 q.a.length c6)).drew
 rw [hX5] at hP ht
 unfold put7s at hX5
 have HX5 : Hid _ := hX5
 have HP5 : Hid (Bk X5 (w.heap.size + 1) 36 #[.int .i64 q.n, .slice a1 q.st.r.length c1, .int .i64 q.st.q, .int .i64 q.st.d, .slice a4 q.p.length c4, .slice a5 q.t.length c5, .slice a6 q.a.length c6]) := hP
 have HT5 : Hid (Turns (fun b => b = (w.heap.size + 1)) w5 X5) := ht
 have QX : Hid (Bk X5 w3.heap.size 36 #[.int .i64 q.n, .slice a1 q.st.r.length c1, .int .i64 q.st.q, .int .i64 q.st.d, .slice a4 q.p.length c4, .slice a5 q.t.length c5, .slice a6 q.a.length c6]) := Q5.out.turns ht (by omega)
 have HDX : Hid (Bk X5 D 108 #[.slice a1 q.st.r.length c1, .int .i64 q.st.q, .int .i64 q.st.d, .int .i64 q.n, .slice a4 q.p.length c4, .slice a5 q.t.length c5, .slice a6 q.a.length c6, .slice a7 u.length c7]) := HD5.out.blk.turns ht (by omega)
 clear hX5 hP ht
 go_simp
 clear zf z0 z1 z2 z3 z4 z5 z6
 rw [HX5.out]
 refine hK.out _ _ ⟨QX.out.cell rfl, QX.out.cell rfl, QX.out.cell rfl, QX.out.cell rfl, QX.out.cell rfl, QX.out.cell rfl, QX.out.cell rfl, HDX.out.cell rfl⟩ (fun hHeld => ?_)
 clear hK K
 try simp only [Act.put, List.setIfInBounds_toArray, List.set_cons_zero, List.set_cons_succ]
 refine wpAnyH_take (i := 6) (oi := { dst := some 5, op := Op.assign (Operand.tmp 19), type := 34, pos := _, after := _, guard := none }) (v := .slice a7 u.length c7) rfl (by kernel_rfl) (by kernel_rfl) (by kernel_rfl) (fun _ _ _ h => h) (Or.inl ⟨by rfl, ?_⟩) (by assumption) ?_
 ·intro wX hSw
  try dsimp only at hSw
  go_simp
  try exact IntWalk.i64_in _ (by omega)
 try simp only [Act.put, List.setIfInBounds_toArray, List.set_cons_zero, List.set_cons_succ]
 refine wpAnyH_take (i := 7) (oi := { dst := some 6, op := Op.assign (Operand.const (Value.bool true)), type := 4, pos := _, after := _, guard := none }) (v := .bool true) rfl (by kernel_rfl) (by kernel_rfl) (by kernel_rfl) (fun _ _ _ h => h) (Or.inl ⟨by rfl, ?_⟩) (by assumption) ?_
 ·intro wX hSw
  try dsimp only at hSw
  go_simp
  try exact IntWalk.i64_in _ (by omega)
 try simp only [Act.put, List.setIfInBounds_toArray, List.set_cons_zero, List.set_cons_succ]
 refine wpAnyH_done (by kernel_rfl) ?_ _
 clear hHeld
 go_wp2
 have t0 := HP5.out.cell (i := 0) rfl
 have t1 := HP5.out.cell (i := 1) rfl
 have t2 := HP5.out.cell (i := 2) rfl
 have t3 := HP5.out.cell (i := 3) rfl
 have t4 := HP5.out.cell (i := 4) rfl
 have t5 := HP5.out.cell (i := 5) rfl
 have t6 := HP5.out.cell (i := 6) rfl
 refine bodyPost_ret (v := .tuple #[.agg #[.int .i64 q.n, .slice a1 q.st.r.length c1, .int .i64 q.st.q, .int .i64 q.st.d, .slice a4 q.p.length c4, .slice a5 q.t.length c5, .slice a6 q.a.length c6], .slice a7 u.length c7, .bool true]) (by simp [results, Try.results53, go_sem, t0, t1, t2, t3, t4, t5, t6]) rfl ?_
 have hA : outA q p = q ∧ outB q u = u := by unfold outA outB; rw [HOA.out]; exact ⟨rfl, rfl⟩
 rw [hA.1, hA.2, HOA.out]
 have hsx := HT5.out.size
 exact ⟨_, _, rfl, HB5.out.belowT (HT5.out.to_below (fun b e => by omega) (by omega)), (DoR.a2 (DoR.other HD5.out HT5.out (fun k hk => by have := HNR.out k hk; omega) (fun k hk e => by have := owns_lt HH.out.cp.todo hk; omega) (fun k hk e => by have := owns_lt HH.out.cp.antis hk; omega) (fun k hk e => by have := owns_lt HH.out.und hk; omega) (by omega))).mono (fun b hb => ⟨hb.1, by omega⟩)⟩
end Go.Proofs.Ytdcnimdhfhbdmaa

/- The last that was done, taken off what owns it. -/
namespace Go.Proofs.Ytdcnimdhfhbdmaa
open Go.RowKit
theorem psTake {l : List Ps} {j k : Nat} (h : k < j) : psAt (l.take j) k = psAt l k := psAt_take h
/- A row of what was done, with one more than k: what the last one is, what it owns, and what is left. -/
theorem past_last {W : World} {A4 : Nat → Prop} {a : Option Addr} {k cap : Nat} {l : List Ps} (hk : k < l.length) (h : OwnD W A4 (.slice a (k + 1) cap) (pastsD (l.take (k + 1)))) :
  ∃ (g : Nat) (u7 u10 u11 : Value) (K7 K10 A4' : Nat → Prop), a = some ⟨g, 0, none⟩ ∧ A4 g ∧ g < W.heap.size ∧ (k + 1 ≤ cap ∧ cap ≤ maxLen) ∧ PsAt W g (k * 12) (psAt l k) u7 u10 u11 ∧ OwnD W K7 u7 (intsD (psAt l k).b.r) ∧ OwnD W K10 u10 (evsD (psAt l k).s) ∧ IsD W u11 (emsD (psAt l k).x) ∧
   (∀ i, i < (k + 1) * 12 → W.frozen? ⟨g, i, none⟩ = false) ∧ (∀ q, K7 q → A4 q ∧ q ≠ g ∧ ¬ A4' q ∧ ¬ K10 q) ∧ (∀ q, K10 q → A4 q ∧ q ≠ g ∧ ¬ A4' q) ∧ (∀ q, A4' q → A4 q) ∧
   (∀ (S : Nat → Prop) (W' : World), Turns S W W' → (∀ i, i < k * 12 → W'.cell? ⟨g, i, none⟩ = W.cell? ⟨g, i, none⟩ ∧ W'.frozen? ⟨g, i, none⟩ = W.frozen? ⟨g, i, none⟩) → (∀ q, A4' q → q ≠ g → ¬ S q) → OwnD W' A4' (.slice (some ⟨g, 0, none⟩) k cap) (pastsD (l.take k))) := by
 have hl : (l.take (k + 1)).length = k + 1 := by rw [List.length_take]; omega
 have hl2 : (l.take k).length = k := by rw [List.length_take]; omega
 have h' : OwnD W A4 (.slice a (k + 1) cap) (.row 12 (k + 1) (pastsD_f (l.take (k + 1)))) := by
  have h9 := h
  unfold pastsD at h9
  rw [hl] at h9
  exact h9
 cases h' with
 | row F g _ _ _ _ U G h1 h2 hg hF hc hs hG hGG =>
  have hcell : ∀ r, r < 12 → W.cell? ⟨g, k * 12 + r, none⟩ = some (U (k * 12 + r)) ∧ OwnD W (G (k * 12 + r)) (U (k * 12 + r)) ((psAt l k).cell r) := fun r hr => by
   refine ⟨(hc (k * 12 + r) (by omega)).1, ?_⟩
   have := hs (k * 12 + r) (by omega)
   rw [pastsD_at _ k hr, psTake (by omega)] at this
   exact this
  have v0 := (hcell 0 (by omega)).2.isD.val_eq
  have v1 := (hcell 1 (by omega)).2.isD.val_eq
  have v2 := (hcell 2 (by omega)).2.isD.val_eq
  have v3 := (hcell 3 (by omega)).2.isD.val_eq
  have v4 := (hcell 4 (by omega)).2.isD.val_eq
  have v5 := (hcell 5 (by omega)).2.isD.val_eq
  have v6 := (hcell 6 (by omega)).2.isD.val_eq
  have v8 := (hcell 8 (by omega)).2.isD.val_eq
  have v9 := (hcell 9 (by omega)).2.isD.val_eq
  refine ⟨g, U (k * 12 + 7), U (k * 12 + 10), U (k * 12 + 11), G (k * 12 + 7), G (k * 12 + 10), fun q => q = g ∨ ∃ j, j < k * 12 ∧ G j q, rfl, hF, hg, ⟨h1, h2⟩,
   ⟨v0 ▸ (hcell 0 (by omega)).1, v1 ▸ (hcell 1 (by omega)).1, v2 ▸ (hcell 2 (by omega)).1, v3 ▸ (hcell 3 (by omega)).1, v4 ▸ (hcell 4 (by omega)).1, v5 ▸ (hcell 5 (by omega)).1, v6 ▸ (hcell 6 (by omega)).1, (hcell 7 (by omega)).1, v8 ▸ (hcell 8 (by omega)).1, v9 ▸ (hcell 9 (by omega)).1, (hcell 10 (by omega)).1, (hcell 11 (by omega)).1⟩,
   (hcell 7 (by omega)).2, (hcell 10 (by omega)).2, (hcell 11 (by omega)).2.isD, fun i hi => (hc i hi).2, fun q hq => ?_, fun q hq => ?_, fun q hq => ?_, ?_⟩
  ·have hh := hG (k * 12 + 7) (by omega) q hq
   refine ⟨hh.1, hh.2, fun e => ?_, hGG (k * 12 + 7) (k * 12 + 10) (by omega) (by omega) (by omega) q hq⟩
   rcases e with e | ⟨j, hj, e⟩
   ·exact hh.2 e
   ·exact hGG (k * 12 + 7) j (by omega) (by omega) (by omega) q hq e
  ·have hh := hG (k * 12 + 10) (by omega) q hq
   refine ⟨hh.1, hh.2, fun e => ?_⟩
   rcases e with e | ⟨j, hj, e⟩
   ·exact hh.2 e
   ·exact hGG (k * 12 + 10) j (by omega) (by omega) (by omega) q hq e
  ·rcases hq with rfl | ⟨j, hj, e⟩
   ·exact hF
   ·exact (hG j (by omega) q e).1
  ·intro S W' ht hlow hS
   unfold pastsD
   rw [hl2]
   by_cases hk0 : k = 0
   ·subst hk0
    exact .nil _ _ _ _ _ h2
   ·refine .row _ g k cap 12 _ U G (by omega) h2 (Nat.lt_of_lt_of_le hg ht.size) (.inl rfl) (fun j hj => ⟨(hlow j hj).1.trans (hc j (by omega)).1, (hlow j hj).2.trans (hc j (by omega)).2⟩) (fun j hj => ?_) (fun j hj q hq => ⟨.inr ⟨j, hj, hq⟩, (hG j (by omega) q hq).2⟩) (fun i j hi hj => hGG i j (by omega) (by omega))
    have hsj := hs j (by omega)
    have e1 : pastsD_f (l.take k) j = pastsD_f (l.take (k + 1)) j := by
     show (psAt (l.take k) (j / 12)).cell (j % 12) = (psAt (l.take (k + 1)) (j / 12)).cell (j % 12)
     rw [psTake (by omega), psTake (by omega)]
    rw [e1]
    exact hsj.turns ht (fun q hq => hS q (.inr ⟨j, hj, hq⟩) (hG j (by omega) q hq).2)
end Go.Proofs.Ytdcnimdhfhbdmaa

/- The last that was done is popped, its state taken over, its event pushed: what the doer is then. -/
namespace Go.Proofs.Ytdcnimdhfhbdmaa
open Go.RowKit
theorem popped {B D g k c4 : Nat} {p : Pa} {vr vt vt' va vu u7 : Value} {A1 A4 K7 K10 A4' : Nat → Prop} {U : List Ev} {W w4 w5 w6 w7 : World} (hk : k < p.p.length)
  (h : DoR B D W vr (.slice (some ⟨g, 0, none⟩) (k + 1) c4) vt va vu A1 A4 (p.back (k + 1)).rev U) (hA4g : A4 g) (hO7 : OwnD W K7 u7 (intsD (psAt p.p k).b.r))
  (hK7 : ∀ q, K7 q → A4 q ∧ q ≠ g ∧ ¬ A4' q ∧ ¬ K10 q) (hA4' : ∀ q, A4' q → A4 q)
  (hrest : ∀ (S : Nat → Prop) (W' : World), Turns S W W' → (∀ i, i < k * 12 → W'.cell? ⟨g, i, none⟩ = W.cell? ⟨g, i, none⟩ ∧ W'.frozen? ⟨g, i, none⟩ = W.frozen? ⟨g, i, none⟩) → (∀ q, A4' q → q ≠ g → ¬ S q) → OwnD W' A4' (.slice (some ⟨g, 0, none⟩) k c4) (pastsD (p.p.take k)))
  (hb4 : Below W.heap.size W w4)
  (hlow : ∀ i, i < k * 12 → w5.cell? ⟨g, i, none⟩ = w4.cell? ⟨g, i, none⟩ ∧ w5.frozen? ⟨g, i, none⟩ = w4.frozen? ⟨g, i, none⟩) (ht5 : Turns (fun q => q = D ∨ q = g) w4 w5)
  (ht6 : Turns (fun q => q = D) w5 w6)
  (hB7 : Bk w7 D 108 #[u7, .int .i64 (psAt p.p k).b.q, .int .i64 (psAt p.p k).b.d, .int .i64 p.n, .slice (some ⟨g, 0, none⟩) k c4, vt', va, vu])
  (ho7 : w7.ownsRow B 40 7 vt' ((p.back (k + 1)).t.reverse ++ [(psAt p.p k).e]).length (cellsL ((p.back (k + 1)).t.reverse ++ [(psAt p.p k).e]))) (hn7 : NewRow w6 vt vt') (ht7 : Turns (fun q => q = D ∨ vt.ownBlock = some q) w6 w7) :
  DoR B D w7 u7 (.slice (some ⟨g, 0, none⟩) k c4) vt' va vu K7 A4' (p.back k).rev U ∧ Turns (fun q => q = D ∨ q = g ∨ vt.ownBlock = some q) W w7 := by
 have hT : Turns (fun q => q = D ∨ q = g ∨ vt.ownBlock = some q) W w7 :=
  (((Turns.of_below hb4).trans (ht5.mono (fun q e => e.elim .inl (fun e => .inr (.inl e))))).trans (ht6.mono (fun q e => .inl e))).trans (ht7.mono (fun q e => e.elim .inl (fun e => .inr (.inr e))))
 have hT6 : Turns (fun q => q = D ∨ q = g) W w6 := ((Turns.of_below hb4).trans ht5).trans (ht6.mono (fun q e => .inl e))
 have hgD : g ≠ D := fun e => h.dD.2 (e ▸ hA4g)
 have hgW : g < W.heap.size := (h.cp.d4 g hA4g).1.2
 have hsz : W.heap.size ≤ w6.heap.size := hT6.size
 have hsz7 : W.heap.size ≤ w7.heap.size := hT.size
 have hvt' : ∀ q, q < W.heap.size → vt'.ownBlock = some q → vt.ownBlock = some q := fun q hq e => by
  rcases hn7 with e1 | e1
  ·rw [← e1]; exact e
  ·have := e1 q e; omega
 have hstk := back_st p hk
 refine ⟨⟨⟨?_, ?_, ?_, ?_, fun q hq => ?_, fun q hq => ?_, fun q hq e => ?_⟩, ?_, ?_, fun q hq => ?_, ⟨fun e => ?_, fun e => ?_⟩, h.lo⟩, hT⟩
 ·show OwnD w7 K7 u7 (intsD (p.back k).st.r)
  rw [hstk]
  exact hO7.turns hT (fun q hq e => by
   have h4 := (hK7 q hq)
   rcases e with e | e | e
   ·exact h.dD.2 (e ▸ h4.1)
   ·exact h4.2.1 e
   ·exact (h.cp.d4 q h4.1).2.1 e)
 ·refine hrest _ w7 hT (fun i hi => ?_) (fun q hq hqg e => ?_)
  ·have h5 := hlow i hi
   have hg4 : g < w4.heap.size := Nat.lt_of_lt_of_le hgW hb4.size
   have hg5 : g < w5.heap.size := Nat.lt_of_lt_of_le hg4 ht5.size
   have hg6 : g < w6.heap.size := Nat.lt_of_lt_of_le hg5 ht6.size
   have hS7 : ¬ (g = D ∨ vt.ownBlock = some g) := fun e => e.elim hgD (h.cp.d4 g hA4g).2.1
   exact ⟨((ht7.cell hg6 hS7).trans (ht6.cell hg5 hgD)).trans (h5.1.trans (hb4.cell (p := ⟨g, i, none⟩) hgW)), ((ht7.frozen hg6 hS7).trans (ht6.frozen hg5 hgD)).trans (h5.2.trans (hb4.frozen (p := ⟨g, i, none⟩) hgW))⟩
  ·rcases e with e | e | e
   ·exact h.dD.2 (e ▸ hA4' q hq)
   ·exact hqg e
   ·exact (h.cp.d4 q (hA4' q hq)).2.1 e
 ·have e1 : (p.back k).rev.t = (p.back (k + 1)).t.reverse ++ [(psAt p.p k).e] := by
   show (p.back k).t.reverse = _
   rw [back_step p hk]
   simp
  rw [e1]
  exact ho7
 ·refine owns_turns h.cp.antis hT (fun q hq e => ?_)
  rcases e with e | e | e
  ·exact h.neT.2.1 (e ▸ hq)
  ·exact (h.cp.d4 g hA4g).2.2 (e ▸ hq)
  ·exact h.cp.d5 q e hq
 ·have h4 := hK7 q hq
  have hd := h.cp.d4 q h4.1
  exact ⟨⟨hd.1.1, by have := hd.1.2; omega⟩, h4.2.2.1, fun e => hd.2.1 (hvt' q hd.1.2 e), hd.2.2⟩
 ·have hd := h.cp.d4 q (hA4' q hq)
  exact ⟨⟨hd.1.1, by have := hd.1.2; omega⟩, fun e => hd.2.1 (hvt' q hd.1.2 e), hd.2.2⟩
 ·have hva := owns_lt h.cp.antis e
  exact h.cp.d5 q (hvt' q hva hq) e
 ·refine owns_turns h.und hT (fun q hq e => ?_)
  rcases e with e | e | e
  ·exact h.neT.2.2 (e ▸ hq)
  ·exact (h.du q hq).2.1 (e ▸ hA4g)
  ·exact (h.du q hq).2.2.1 e
 ·show Bk w7 D 108 #[u7, .int .i64 (p.back k).st.q, .int .i64 (p.back k).st.d, .int .i64 p.n, .slice (some ⟨g, 0, none⟩) k c4, vt', va, vu]
  rw [hstk]
  exact hB7
 ·have hd := h.du q hq
  have hql := owns_lt h.und hq
  exact ⟨fun e => hd.2.1 (hK7 q e).1, fun e => hd.2.1 (hA4' q e), fun e => hd.2.2.1 (hvt' q hql e), hd.2.2.2⟩
 ·exact h.dD.2 (hK7 D e).1
 ·exact h.dD.2 (hA4' D e)
/- One more is undone. -/
theorem DoR.more {B D : Nat} {w w' : World} {vr vp vt va vu vu' : Value} {A1 A4 : Nat → Prop} {p : Pa} {u : List Ev} {e : Ev} (h : DoR B D w vr vp vt va vu A1 A4 p u) (hB : Bk w' D 108 #[vr, .int .i64 p.st.q, .int .i64 p.st.d, .int .i64 p.n, vp, vt, va, vu'])
  (ho : w'.ownsRow B 40 7 vu' (u ++ [e]).length (cellsL (u ++ [e]))) (hn : NewRow w vu vu') (ht : Turns (fun q => q = D ∨ vu.ownBlock = some q) w w') : DoR B D w' vr vp vt va vu' A1 A4 p (u ++ [e]) := by
 have hvu : ∀ q, q < w.heap.size → vu'.ownBlock = some q → vu.ownBlock = some q := fun q hq e => by
  rcases hn with e1 | e1
  ·rw [← e1]; exact e
  ·have := e1 q e; omega
 refine ⟨h.cp.turns ht (fun q e => ?_), ho, hB, fun q hq => ?_, h.dD, h.lo⟩
 ·rcases e with rfl | e
  ·exact ⟨h.dD.1, h.dD.2, h.neT.1, h.neT.2.1⟩
  ·exact h.du q e
 ·refine ⟨fun e => ?_, fun e => ?_, fun e => ?_, fun e => ?_⟩
  ·exact (h.du q (hvu q (h.cp.d1 q e).1.2 hq)).1 e
  ·exact (h.du q (hvu q (h.cp.d4 q e).1.2 hq)).2.1 e
  ·exact (h.du q (hvu q (owns_lt h.cp.todo e) hq)).2.2.1 e
  ·exact (h.du q (hvu q (owns_lt h.cp.antis e) hq)).2.2.2 e
end Go.Proofs.Ytdcnimdhfhbdmaa

