/- At every model, vector, state and event the program's Handle answers as the specification's, its answer owns its memory, and it writes into nothing that it is given; no condition. -/
import Derived.Test.YtnmcjgkeionjkaaGreatExactHandleG33
import Derived.Test.YtnmcjgkeionjkaaGreatExactHandleLXSz
import Derived.Test.YtnmcjgkeionjkaaGreatExactHandleG36
import Derived.Test.YtnmcjgkeionjkaaGreatExactHandleLVOpen
import Derived.Deep.Cut
namespace Go.Proofs.YtnmcjgkeionjkaaGreat.LawExactHandle
open Go.ChangeShapes Go.WideShapes Go.ChangeAt Go.RowKit Go.Proofs.YtnmcjgkeionjkaaGreat

theorem keepA {w W : World} {m : Md} {s : St} {e : Ev} {vi0 vh0 vs0 vr2 : Value} (h0 : Bk W w.heap.size 49 #[.int .i64 m.n, .int .i64 m.s, vi0, vh0, vs0, .int .i64 m.z]) (h1 : Bk W (w.heap.size + 1) 24 #[vr2, .int .i64 s.q, .int .i64 s.d]) (h2 : Bk W (w.heap.size + 1 + 1) 30 #[.int .i64 e.t, .int .i64 e.s, .int .i64 e.q, .int .i64 e.d, .int .i64 e.k, .int .i64 e.v, .int .i64 e.g]) : W.cell? ⟨w.heap.size, 0, none⟩ = some (.int .i64 m.n) ∧ W.cell? ⟨w.heap.size, 1, none⟩ = some (.int .i64 m.s) ∧ W.cell? ⟨w.heap.size, 2, none⟩ = some vi0 ∧ W.cell? ⟨w.heap.size, 3, none⟩ = some vh0 ∧ W.cell? ⟨w.heap.size, 4, none⟩ = some vs0 ∧ W.cell? ⟨w.heap.size, 5, none⟩ = some (.int .i64 m.z) ∧ W.cell? ⟨w.heap.size + 1, 0, none⟩ = some vr2 ∧ W.cell? ⟨w.heap.size + 1, 1, none⟩ = some (.int .i64 s.q) ∧ W.cell? ⟨w.heap.size + 1, 2, none⟩ = some (.int .i64 s.d) ∧ W.cell? ⟨w.heap.size + 1 + 1, 0, none⟩ = some (.int .i64 e.t) ∧ W.cell? ⟨w.heap.size + 1 + 1, 1, none⟩ = some (.int .i64 e.s) ∧ W.cell? ⟨w.heap.size + 1 + 1, 2, none⟩ = some (.int .i64 e.q) ∧ W.cell? ⟨w.heap.size + 1 + 1, 3, none⟩ = some (.int .i64 e.d) ∧ W.cell? ⟨w.heap.size + 1 + 1, 4, none⟩ = some (.int .i64 e.k) ∧ W.cell? ⟨w.heap.size + 1 + 1, 5, none⟩ = some (.int .i64 e.v) ∧ W.cell? ⟨w.heap.size + 1 + 1, 6, none⟩ = some (.int .i64 e.g) := ⟨h0.cell (i := 0) rfl, h0.cell (i := 1) rfl, h0.cell (i := 2) rfl, h0.cell (i := 3) rfl, h0.cell (i := 4) rfl, h0.cell (i := 5) rfl, h1.cell (i := 0) rfl, h1.cell (i := 1) rfl, h1.cell (i := 2) rfl, h2.cell (i := 0) rfl, h2.cell (i := 1) rfl, h2.cell (i := 2) rfl, h2.cell (i := 3) rfl, h2.cell (i := 4) rfl, h2.cell (i := 5) rfl, h2.cell (i := 6) rfl⟩
theorem keepB {w W : World} {bx by' : Nat} {m : Md} {s : St} {e : Ev} {aui auh aue an : Option Addr} {cui cuh cue cn : Nat} (h0 : Bk W bx 55 #[.int .i64 m.n, .int .i64 m.s, .slice aui m.i.length cui, .slice auh m.h.length cuh, .slice aue m.e.length cue, .int .i64 m.z]) (h1 : Bk W by' 32 #[.slice an s.r.length cn, .int .i64 s.q, .int .i64 s.d]) (h2 : Bk W (w.heap.size + 1 + 1) 30 #[.int .i64 e.t, .int .i64 e.s, .int .i64 e.q, .int .i64 e.d, .int .i64 e.k, .int .i64 e.v, .int .i64 e.g]) : W.cell? ⟨bx, 0, none⟩ = some (.int .i64 m.n) ∧ W.cell? ⟨bx, 1, none⟩ = some (.int .i64 m.s) ∧ W.cell? ⟨bx, 2, none⟩ = some (.slice aui m.i.length cui) ∧ W.cell? ⟨bx, 3, none⟩ = some (.slice auh m.h.length cuh) ∧ W.cell? ⟨bx, 4, none⟩ = some (.slice aue m.e.length cue) ∧ W.cell? ⟨bx, 5, none⟩ = some (.int .i64 m.z) ∧ W.cell? ⟨by', 0, none⟩ = some (.slice an s.r.length cn) ∧ W.cell? ⟨by', 1, none⟩ = some (.int .i64 s.q) ∧ W.cell? ⟨by', 2, none⟩ = some (.int .i64 s.d) ∧ W.cell? ⟨w.heap.size + 1 + 1, 0, none⟩ = some (.int .i64 e.t) ∧ W.cell? ⟨w.heap.size + 1 + 1, 1, none⟩ = some (.int .i64 e.s) ∧ W.cell? ⟨w.heap.size + 1 + 1, 2, none⟩ = some (.int .i64 e.q) ∧ W.cell? ⟨w.heap.size + 1 + 1, 3, none⟩ = some (.int .i64 e.d) ∧ W.cell? ⟨w.heap.size + 1 + 1, 4, none⟩ = some (.int .i64 e.k) ∧ W.cell? ⟨w.heap.size + 1 + 1, 5, none⟩ = some (.int .i64 e.v) ∧ W.cell? ⟨w.heap.size + 1 + 1, 6, none⟩ = some (.int .i64 e.g) := ⟨h0.cell (i := 0) rfl, h0.cell (i := 1) rfl, h0.cell (i := 2) rfl, h0.cell (i := 3) rfl, h0.cell (i := 4) rfl, h0.cell (i := 5) rfl, h1.cell (i := 0) rfl, h1.cell (i := 1) rfl, h1.cell (i := 2) rfl, h2.cell (i := 0) rfl, h2.cell (i := 1) rfl, h2.cell (i := 2) rfl, h2.cell (i := 3) rfl, h2.cell (i := 4) rfl, h2.cell (i := 5) rfl, h2.cell (i := 6) rfl⟩
set_option maxRecDepth 100000 in
set_option maxHeartbeats 64000000 in
theorem walk (x : Value) (m : Md) (d : Value) (l : List Int) (y : Value) (s : St) (e : Ev) (w : World) (hx : IsM w x m) (hd : IsI w d l) (hy : IsS w y s) :
    Calls Tryz.prog 7 #[x, d, y, .agg #[.int .i64 e.t, .int .i64 e.s, .int .i64 e.q, .int .i64 e.d, .int .i64 e.k, .int .i64 e.v, .int .i64 e.g]] w fun e w' => e = .returned (.bool true) ∧ Below w.heap.size w w' := by
  have HX : Hid (IsM w x m) := hx
  have HY : Hid (IsS w y s) := hy
  have HD : Hid (IsI w d l) := hd
  obtain ⟨vi0, vh0, vs0, rfl, _⟩ := hx
  obtain ⟨vr2, rfl, _⟩ := hy
  obtain ⟨ad, cd, rfl, hd1, hd2, _⟩ := hd
  have hdm : l.length ≤ maxLen := Nat.le_trans hd1 hd2
  clear hd1 hd2
  unfold maxLen at hdm
  obtain ⟨W0, hW0⟩ : ∃ W0, ((w.alloc (.cells #[.int .i64 m.n, .int .i64 m.s, vi0, vh0, vs0, .int .i64 m.z] 49)).alloc (.cells #[vr2, .int .i64 s.q, .int .i64 s.d] 24)).alloc (.cells #[.int .i64 e.t, .int .i64 e.s, .int .i64 e.q, .int .i64 e.d, .int .i64 e.k, .int .i64 e.v, .int .i64 e.g] 30) = W0 := ⟨_, rfl⟩
  have HB_W0 : Hid (Below w.heap.size w W0) := by rw [← hW0]; exact (((Below.refl _ w).alloc (Nat.le_refl _) _).alloc (by simp) _).alloc (by simp; omega) _
  have HP_W0 : Hid (Bk W0 w.heap.size 49 #[.int .i64 m.n, .int .i64 m.s, vi0, vh0, vs0, .int .i64 m.z]) := by rw [← hW0]; exact ((Bk.new w _ _).alloc _).alloc _
  have HQ_W0 : Hid (Bk W0 (w.heap.size + 1) 24 #[vr2, .int .i64 s.q, .int .i64 s.d]) := by rw [← hW0]; exact (Bk.newAt (by simp) _ _).alloc _
  have HV_W0 : Hid (Bk W0 (w.heap.size + 1 + 1) 30 #[.int .i64 e.t, .int .i64 e.s, .int .i64 e.q, .int .i64 e.d, .int .i64 e.k, .int .i64 e.v, .int .i64 e.g]) := by rw [← hW0]; exact Bk.newAt (by simp) _ _
  have hV0 : w.heap.size + 1 + 1 < W0.heap.size := HV_W0.out.lt
  by_cases hbig : (1048576 : Int) < (l.length : Int)
  case pos =>
    go_enter Tryz.func7, Tryz.ntmps7
    go_wp2
    go_ret
    exact ⟨rfl, HB_W0.out⟩
  have HL : Hid (l.length ≤ 1048576) := (by omega : l.length ≤ 1048576)
  have p0 := HP_W0.out.cell (i := 0) rfl
  have p1 := HP_W0.out.cell (i := 1) rfl
  have p2 := HP_W0.out.cell (i := 2) rfl
  have p3 := HP_W0.out.cell (i := 3) rfl
  have p4 := HP_W0.out.cell (i := 4) rfl
  have p5 := HP_W0.out.cell (i := 5) rfl
  go_enter Tryz.func7, Tryz.ntmps7
  go_wp2_with fail
  clear hW0 hdm
  clear p0 p1 p2 p3 p4 p5
  refine (szModel_le _ m _ (HX.out.below HB_W0.out)).mono ?_
  rintro r w1 ⟨⟨r1, rfl, hr⟩, hb⟩
  have z_w1 : W0.heap.size ≤ w1.heap.size := hb.size
  have HB_w1 : Hid (Below w.heap.size w w1) := HB_W0.out.trans (hb.mono HB_W0.out.size)
  have HP_w1 : Hid (Bk w1 w.heap.size 49 #[.int .i64 m.n, .int .i64 m.s, vi0, vh0, vs0, .int .i64 m.z]) := HP_W0.out.below hb
  have HQ_w1 : Hid (Bk w1 (w.heap.size + 1) 24 #[vr2, .int .i64 s.q, .int .i64 s.d]) := HQ_W0.out.below hb
  have HV_w1 : Hid (Bk w1 (w.heap.size + 1 + 1) 30 #[.int .i64 e.t, .int .i64 e.s, .int .i64 e.q, .int .i64 e.d, .int .i64 e.k, .int .i64 e.v, .int .i64 e.g]) := HV_W0.out.below hb
  clear HB_W0 HP_W0 HQ_W0 HV_W0
  clear hb
  rcases hr with rfl | ⟨hr0, hr9, hsm⟩
  case inl =>
    go_wp2
    go_ret
    exact ⟨rfl, HB_w1.out⟩
  have hr1 : ¬ (r1 < 0) := by omega
  have HSM : Hid (SmallM m) := hsm
  clear hsm
  have p0 := HQ_w1.out.cell (i := 0) rfl
  have p1 := HQ_w1.out.cell (i := 1) rfl
  have p2 := HQ_w1.out.cell (i := 2) rfl
  go_wp2_with fail
  clear p0 p1 p2
  refine (szState_any _ s _ _ hr0 hr9 (HY.out.below HB_w1.out)).mono ?_
  rintro r w2 ⟨⟨r2, rfl, hr⟩, hb⟩
  have z_w2 : w1.heap.size ≤ w2.heap.size := hb.size
  have HB_w2 : Hid (Below w.heap.size w w2) := HB_w1.out.trans (hb.mono HB_w1.out.size)
  have HP_w2 : Hid (Bk w2 w.heap.size 49 #[.int .i64 m.n, .int .i64 m.s, vi0, vh0, vs0, .int .i64 m.z]) := HP_w1.out.below hb
  have HQ_w2 : Hid (Bk w2 (w.heap.size + 1) 24 #[vr2, .int .i64 s.q, .int .i64 s.d]) := HQ_w1.out.below hb
  have HV_w2 : Hid (Bk w2 (w.heap.size + 1 + 1) 30 #[.int .i64 e.t, .int .i64 e.s, .int .i64 e.q, .int .i64 e.d, .int .i64 e.k, .int .i64 e.v, .int .i64 e.g]) := HV_w1.out.below hb
  clear HB_w1 HP_w1 HQ_w1 HV_w1
  clear hb hr0 hr9 hr1
  rcases hr with rfl | ⟨hr0, hr9, hsl⟩
  case inl =>
    go_wp2
    go_ret
    exact ⟨rfl, HB_w2.out⟩
  have hr1 : ¬ (r2 < 0) := by omega
  have HSL : Hid (s.r.length ≤ 1048576) := hsl
  clear hsl hr0 hr9
  have HC : Hid (∃ EF b, SmallE EF ∧ (∀ (v0 v1 v2 : Value) (W : World), IsM W v0 m → IsI W v1 l → IsS W v2 s → Calls Tryz.prog 35 #[v0, v1, v2, .agg #[.int .i64 e.t, .int .i64 e.s, .int .i64 e.q, .int .i64 e.d, .int .i64 e.k, .int .i64 e.v, .int .i64 e.g]] W fun r w' => ∃ u, r = .returned (.tuple #[u, .bool b]) ∧ Below W.heap.size W w' ∧ EfF (fun k => W.heap.size ≤ k ∧ k < w'.heap.size) w' u EF) ∧ (∀ (v0 v1 v2 : Value) (W : World), IsM W v0 m → IsI W v1 l → IsS W v2 s → Calls Tryz.prog 37 #[v0, v1, v2, .agg #[.int .i64 e.t, .int .i64 e.s, .int .i64 e.q, .int .i64 e.d, .int .i64 e.k, .int .i64 e.v, .int .i64 e.g]] W fun r w' => ∃ u, r = .returned (.tuple #[u, .bool b]) ∧ Below W.heap.size W w' ∧ EfF (fun k => W.heap.size ≤ k ∧ k < w'.heap.size) w' u EF)) := ⟨handR m l s e, handB m l s e, hand_small m l s e, fun v0 v1 v2 W h0 h1 h2 => sHan v0 v2 v1 m l s e W HSM.out HL.out h0 h1 h2, fun v0 v1 v2 W h0 h1 h2 => iHan v0 v2 v1 m l s e W HSM.out HL.out h0 h1 h2⟩
  obtain ⟨EF, b, hq, hsp, him⟩ := HC.out
  have HSP : Hid (∀ (v0 v1 v2 : Value) (W : World), IsM W v0 m → IsI W v1 l → IsS W v2 s → Calls Tryz.prog 35 #[v0, v1, v2, .agg #[.int .i64 e.t, .int .i64 e.s, .int .i64 e.q, .int .i64 e.d, .int .i64 e.k, .int .i64 e.v, .int .i64 e.g]] W fun r w' => ∃ u, r = .returned (.tuple #[u, .bool b]) ∧ Below W.heap.size W w' ∧ EfF (fun k => W.heap.size ≤ k ∧ k < w'.heap.size) w' u EF) := hsp
  have HIM : Hid (∀ (v0 v1 v2 : Value) (W : World), IsM W v0 m → IsI W v1 l → IsS W v2 s → Calls Tryz.prog 37 #[v0, v1, v2, .agg #[.int .i64 e.t, .int .i64 e.s, .int .i64 e.q, .int .i64 e.d, .int .i64 e.k, .int .i64 e.v, .int .i64 e.g]] W fun r w' => ∃ u, r = .returned (.tuple #[u, .bool b]) ∧ Below W.heap.size W w' ∧ EfF (fun k => W.heap.size ≤ k ∧ k < w'.heap.size) w' u EF) := him
  have HE : Hid (SmallE EF) := hq
  clear HC hsp him hq
  have p0 := HP_w2.out.cell (i := 0) rfl
  have p1 := HP_w2.out.cell (i := 1) rfl
  have p2 := HP_w2.out.cell (i := 2) rfl
  have p3 := HP_w2.out.cell (i := 3) rfl
  have p4 := HP_w2.out.cell (i := 4) rfl
  have p5 := HP_w2.out.cell (i := 5) rfl
  have q0 := HQ_w2.out.cell (i := 0) rfl
  have q1 := HQ_w2.out.cell (i := 1) rfl
  have q2 := HQ_w2.out.cell (i := 2) rfl
  have v0 := HV_w2.out.cell (i := 0) rfl
  have v1 := HV_w2.out.cell (i := 1) rfl
  have v2 := HV_w2.out.cell (i := 2) rfl
  have v3 := HV_w2.out.cell (i := 3) rfl
  have v4 := HV_w2.out.cell (i := 4) rfl
  have v5 := HV_w2.out.cell (i := 5) rfl
  have v6 := HV_w2.out.cell (i := 6) rfl
  go_wp2_with fail
  clear p0 p1 p2 p3 p4 p5
  clear q0 q1 q2
  clear v0 v1 v2 v3 v4 v5 v6
  go_cut [10, 11] from 22 (fun s10 s11 wc => ∃ PP fao fco gao gco hao hco, s10 = .pointer (some ⟨PP, 0, none⟩) ∧ s11 = .bool b ∧ Below w2.heap.size w2 wc ∧ (w2.heap.size ≤ PP ∧ PP < wc.heap.size) ∧ Bk wc PP 69 #[.slice fao EF.st.r.length fco, .int .i64 EF.st.q, .int .i64 EF.st.d, .slice gao EF.s.length gco, .slice hao EF.x.length hco, .int .i64 EF.k] ∧ EfF (fun k => (w2.heap.size ≤ k ∧ k < wc.heap.size) ∧ k ≠ PP) wc (.agg #[.slice fao EF.st.r.length fco, .int .i64 EF.st.q, .int .i64 EF.st.d, .slice gao EF.s.length gco, .slice hao EF.x.length hco, .int .i64 EF.k]) EF)
  case first =>
    refine wp_region_held_drew (S := fun W => W.cell? ⟨w.heap.size, 0, none⟩ = some (.int .i64 m.n) ∧ W.cell? ⟨w.heap.size, 1, none⟩ = some (.int .i64 m.s) ∧ W.cell? ⟨w.heap.size, 2, none⟩ = some vi0 ∧ W.cell? ⟨w.heap.size, 3, none⟩ = some vh0 ∧ W.cell? ⟨w.heap.size, 4, none⟩ = some vs0 ∧ W.cell? ⟨w.heap.size, 5, none⟩ = some (.int .i64 m.z) ∧ W.cell? ⟨w.heap.size + 1, 0, none⟩ = some vr2 ∧ W.cell? ⟨w.heap.size + 1, 1, none⟩ = some (.int .i64 s.q) ∧ W.cell? ⟨w.heap.size + 1, 2, none⟩ = some (.int .i64 s.d) ∧ W.cell? ⟨w.heap.size + 1 + 1, 0, none⟩ = some (.int .i64 e.t) ∧ W.cell? ⟨w.heap.size + 1 + 1, 1, none⟩ = some (.int .i64 e.s) ∧ W.cell? ⟨w.heap.size + 1 + 1, 2, none⟩ = some (.int .i64 e.q) ∧ W.cell? ⟨w.heap.size + 1 + 1, 3, none⟩ = some (.int .i64 e.d) ∧ W.cell? ⟨w.heap.size + 1 + 1, 4, none⟩ = some (.int .i64 e.k) ∧ W.cell? ⟨w.heap.size + 1 + 1, 5, none⟩ = some (.int .i64 e.v) ∧ W.cell? ⟨w.heap.size + 1 + 1, 6, none⟩ = some (.int .i64 e.g)) (by kernel_rfl) (keepA (HP_w2.out.below (Below.refl w2.heap.size w2).drew) (HQ_w2.out.below (Below.refl w2.heap.size w2).drew) (HV_w2.out.below (Below.refl w2.heap.size w2).drew)) (fun hHeld => ?_)
    refine wpAnyH_take (i := 0) (oi := { dst := some 36, op := Op.load 49 (Operand.tmp 4), type := 49, pos := _, after := _, guard := none }) (v := .agg #[.int .i64 m.n, .int .i64 m.s, vi0, vh0, vs0, .int .i64 m.z]) rfl (by kernel_rfl) (by kernel_rfl) (by kernel_rfl) (fun _ _ _ h => h) (Or.inl ⟨by rfl, ?_⟩) (by assumption) ?_
    · intro wX hSw
      try dsimp only at hSw
      go_simp
    try simp only [Act.put, List.setIfInBounds_toArray, List.set_cons_zero, List.set_cons_succ]
    refine wpAnyH_take (i := 2) (oi := { dst := some 38, op := Op.move (Operand.tmp 1), type := 22, pos := _, after := _, guard := none }) (v := .slice ad l.length cd) rfl (by kernel_rfl) (by kernel_rfl) (by kernel_rfl) (fun _ _ _ h => h) (Or.inl ⟨by rfl, ?_⟩) (by assumption) ?_
    · intro wX hSw
      try dsimp only at hSw
      go_simp
    try simp only [Act.put, List.setIfInBounds_toArray, List.set_cons_zero, List.set_cons_succ]
    refine wpAnyH_take (i := 4) (oi := { dst := some 40, op := Op.load 24 (Operand.tmp 6), type := 24, pos := _, after := _, guard := none }) (v := .agg #[vr2, .int .i64 s.q, .int .i64 s.d]) rfl (by kernel_rfl) (by kernel_rfl) (by kernel_rfl) (fun _ _ _ h => h) (Or.inl ⟨by rfl, ?_⟩) (by assumption) ?_
    · intro wX hSw
      try dsimp only at hSw
      go_simp
    try simp only [Act.put, List.setIfInBounds_toArray, List.set_cons_zero, List.set_cons_succ]
    refine wpAnyH_take (i := 6) (oi := { dst := some 42, op := Op.load 30 (Operand.tmp 7), type := 30, pos := _, after := _, guard := none }) (v := .agg #[.int .i64 e.t, .int .i64 e.s, .int .i64 e.q, .int .i64 e.d, .int .i64 e.k, .int .i64 e.v, .int .i64 e.g]) rfl (by kernel_rfl) (by kernel_rfl) (by kernel_rfl) (fun _ _ _ h => h) (Or.inl ⟨by rfl, ?_⟩) (by assumption) ?_
    · intro wX hSw
      try dsimp only at hSw
      go_simp
    try simp only [Act.put, List.setIfInBounds_toArray, List.set_cons_zero, List.set_cons_succ]
    refine wpAnyH_ready (rs := [1, 12]) (by kernel_rfl) (by simp) ?_
    refine AllReadyH.cons (o := { dst := some 37, op := Op.call { callee := Callee.value (Operand.func 25), args := #[Operand.tmp 36], argTypes := #[49] }, type := 55, pos := _, after := _, guard := none }) rfl (fun K hK => ?_) (AllReadyH.cons (o := { dst := some 10, op := Op.alloc 69, type := 0, pos := _, after := _, guard := none }) rfl (fun K hK => ?_) AllReadyH.nil)
    · go_simp
      refine (toModel_any _ m _ HSM.out (HX.out.below (HB_w2.out.trans (((Below.refl w2.heap.size w2).drew).mono HB_w2.out.size)))).mono ?_
      rintro r wa ⟨ya, rfl, hb, hra⟩
      have hk0 : Below w2.heap.size w2 wa := ((Below.refl w2.heap.size w2).drew).trans (hb.mono ((Below.refl w2.heap.size w2).drew).size)
      have HA0 : Hid (IsM wa ya m) := hra.isM
      clear hb
      try go_simp
      refine hK.out _ _ (keepA (HP_w2.out.below hk0) (HQ_w2.out.below hk0) (HV_w2.out.below hk0)) (fun hHeld => ?_)
      clear hK K
      try simp only [Act.put, List.setIfInBounds_toArray, List.set_cons_zero, List.set_cons_succ]
      refine wpAnyH_ready (rs := [3, 12]) (by kernel_rfl) (by simp) ?_
      refine AllReadyH.cons (o := { dst := some 39, op := Op.call { callee := Callee.value (Operand.func 30), args := #[Operand.tmp 38], argTypes := #[22] }, type := 22, pos := _, after := _, guard := none }) rfl (fun K hK => ?_) (AllReadyH.cons (o := { dst := some 10, op := Op.alloc 69, type := 0, pos := _, after := _, guard := none }) rfl (fun K hK => ?_) AllReadyH.nil)
      · go_simp
        refine (toI_any _ l _ HL.out (HD.out.below (HB_w2.out.trans ((hk0).mono HB_w2.out.size)))).mono ?_
        rintro r wb ⟨hrr, hb, hrb⟩
        generalize wa.heap.size = gi at hrr hrb
        subst hrr
        have hk1 : Below w2.heap.size w2 wb := (hk0).trans (hb.mono (hk0).size)
        have HA1 : Hid (IsM wb ya m) := HA0.out.below hb
        have HI1 : Hid (IsI wb (sl gi l.length) l) := hrb.isI (by have := HL.out; unfold maxLen; omega)
        clear hb
        try go_simp
        refine hK.out _ _ (keepA (HP_w2.out.below hk1) (HQ_w2.out.below hk1) (HV_w2.out.below hk1)) (fun hHeld => ?_)
        clear hK K
        try simp only [Act.put, List.setIfInBounds_toArray, List.set_cons_zero, List.set_cons_succ]
        refine wpAnyH_ready (rs := [5, 12]) (by kernel_rfl) (by simp) ?_
        refine AllReadyH.cons (o := { dst := some 41, op := Op.call { callee := Callee.value (Operand.func 36), args := #[Operand.tmp 40], argTypes := #[24] }, type := 32, pos := _, after := _, guard := none }) rfl (fun K hK => ?_) (AllReadyH.cons (o := { dst := some 10, op := Op.alloc 69, type := 0, pos := _, after := _, guard := none }) rfl (fun K hK => ?_) AllReadyH.nil)
        · go_simp
          refine (toState_any _ s _ HSL.out (HY.out.below (HB_w2.out.trans ((hk1).mono HB_w2.out.size)))).mono ?_
          rintro r wd ⟨yd, rfl, hb, hrd⟩
          have hk2 : Below w2.heap.size w2 wd := (hk1).trans (hb.mono (hk1).size)
          have HA2 : Hid (IsM wd ya m) := HA1.out.below hb
          have HI2 : Hid (IsI wd (sl gi l.length) l) := HI1.out.below hb
          have HT2 : Hid (IsS wd yd s) := hrd.isS
          clear hb
          try go_simp
          refine hK.out _ _ (keepA (HP_w2.out.below hk2) (HQ_w2.out.below hk2) (HV_w2.out.below hk2)) (fun hHeld => ?_)
          clear hK K
          try simp only [Act.put, List.setIfInBounds_toArray, List.set_cons_zero, List.set_cons_succ]
          refine wpAnyH_ready (rs := [7, 12]) (by kernel_rfl) (by simp) ?_
          refine AllReadyH.cons (o := { dst := some 43, op := Op.call { callee := Callee.value (Operand.func 13), args := #[Operand.tmp 42], argTypes := #[30] }, type := 40, pos := _, after := _, guard := none }) rfl (fun K hK => ?_) (AllReadyH.cons (o := { dst := some 10, op := Op.alloc 69, type := 0, pos := _, after := _, guard := none }) rfl (fun K hK => ?_) AllReadyH.nil)
          · go_simp
            refine (toEvent_any e.t e.s e.q e.d e.k e.v e.g _).mono ?_
            rintro r wf ⟨rfl, hb⟩
            have hk3 : Below w2.heap.size w2 wf := (hk2).trans (hb.mono (hk2).size)
            have HA3 : Hid (IsM wf ya m) := HA2.out.below hb
            have HI3 : Hid (IsI wf (sl gi l.length) l) := HI2.out.below hb
            have HT3 : Hid (IsS wf yd s) := HT2.out.below hb
            clear hb
            try go_simp
            refine hK.out _ _ (keepA (HP_w2.out.below hk3) (HQ_w2.out.below hk3) (HV_w2.out.below hk3)) (fun hHeld => ?_)
            clear hK K
            try simp only [Act.put, List.setIfInBounds_toArray, List.set_cons_zero, List.set_cons_succ]
            refine wpAnyH_ready (rs := [8, 12]) (by kernel_rfl) (by simp) ?_
            refine AllReadyH.cons (o := { dst := some 44, op := Op.call { callee := Callee.value (Operand.func 35), args := #[Operand.tmp 37, Operand.tmp 39, Operand.tmp 41, Operand.tmp 43], argTypes := #[55, 22, 32, 40] }, type := 70, pos := _, after := _, guard := none }) rfl (fun K hK => ?_) (AllReadyH.cons (o := { dst := some 10, op := Op.alloc 69, type := 0, pos := _, after := _, guard := none }) rfl (fun K hK => ?_) AllReadyH.nil)
            · go_simp
              have hcW : w2.heap.size ≤ wf.heap.size := (hk3).size
              refine (HSP.out _ _ _ _ HA3.out HI3.out HT3.out).mono ?_
              rintro r we ⟨ue, rfl, hb, hue⟩
              obtain ⟨fao, fco, gao, gco, hao, hco, rfl⟩ := hue.form
              have hk4 : Below w2.heap.size w2 we := (hk3).trans (hb.mono (hk3).size)
              have HU : Hid (EfF (fun k => wf.heap.size ≤ k ∧ k < we.heap.size) we (.agg #[.slice fao EF.st.r.length fco, .int .i64 EF.st.q, .int .i64 EF.st.d, .slice gao EF.s.length gco, .slice hao EF.x.length hco, .int .i64 EF.k]) EF) := hue
              clear hb
              try go_simp
              refine hK.out _ _ (keepA (HP_w2.out.below hk4) (HQ_w2.out.below hk4) (HV_w2.out.below hk4)) (fun hHeld => ?_)
              clear hK K
              try simp only [Act.put, List.setIfInBounds_toArray, List.set_cons_zero, List.set_cons_succ]
              refine wpAnyH_take (i := 9) (oi := { dst := some 35, op := Op.move (Operand.tmp 44), type := 70, pos := _, after := _, guard := none }) (v := .tuple #[.agg #[.slice fao EF.st.r.length fco, .int .i64 EF.st.q, .int .i64 EF.st.d, .slice gao EF.s.length gco, .slice hao EF.x.length hco, .int .i64 EF.k], .bool b]) rfl (by kernel_rfl) (by kernel_rfl) (by kernel_rfl) (fun _ _ _ h => h) (Or.inl ⟨by rfl, ?_⟩) (by assumption) ?_
              · intro wX hSw
                try dsimp only at hSw
                go_simp
              try simp only [Act.put, List.setIfInBounds_toArray, List.set_cons_zero, List.set_cons_succ]
              refine wpAnyH_take (i := 10) (oi := { dst := some 45, op := Op.extract (Operand.tmp 35) 0, type := 69, pos := _, after := _, guard := none }) (v := .agg #[.slice fao EF.st.r.length fco, .int .i64 EF.st.q, .int .i64 EF.st.d, .slice gao EF.s.length gco, .slice hao EF.x.length hco, .int .i64 EF.k]) rfl (by kernel_rfl) (by kernel_rfl) (by kernel_rfl) (fun _ _ _ h => h) (Or.inl ⟨by rfl, ?_⟩) (by assumption) ?_
              · intro wX hSw
                try dsimp only at hSw
                go_simp
              try simp only [Act.put, List.setIfInBounds_toArray, List.set_cons_zero, List.set_cons_succ]
              refine wpAnyH_take (i := 11) (oi := { dst := some 46, op := Op.extract (Operand.tmp 35) 1, type := 4, pos := _, after := _, guard := none }) (v := .bool b) rfl (by kernel_rfl) (by kernel_rfl) (by kernel_rfl) (fun _ _ _ h => h) (Or.inl ⟨by rfl, ?_⟩) (by assumption) ?_
              · intro wX hSw
                try dsimp only at hSw
                go_simp
              try simp only [Act.put, List.setIfInBounds_toArray, List.set_cons_zero, List.set_cons_succ]
              refine wpAnyH_ready (rs := [12]) (by kernel_rfl) (by simp) ?_
              refine AllReadyH.cons (o := { dst := some 10, op := Op.alloc 69, type := 0, pos := _, after := _, guard := none }) rfl (fun K hK => ?_) AllReadyH.nil
              go_simp
              refine hK.out _ _ (keepA (HP_w2.out.below ((hk4).alloc (hk4).size (.cells #[.slice none 0 0, .int .i64 0, .int .i64 0, .slice none 0 0, .slice none 0 0, .int .i64 0] 69))) (HQ_w2.out.below ((hk4).alloc (hk4).size (.cells #[.slice none 0 0, .int .i64 0, .int .i64 0, .slice none 0 0, .slice none 0 0, .int .i64 0] 69))) (HV_w2.out.below ((hk4).alloc (hk4).size (.cells #[.slice none 0 0, .int .i64 0, .int .i64 0, .slice none 0 0, .slice none 0 0, .int .i64 0] 69)))) (fun hHeld => ?_)
              clear hK K
              try simp only [Act.put, List.setIfInBounds_toArray, List.set_cons_zero, List.set_cons_succ]
              refine wpAnyH_ready (rs := [13]) (by kernel_rfl) (by simp) ?_
              refine AllReadyH.cons (o := { dst := none, op := Op.store 69 (Operand.tmp 10) (Operand.tmp 45), type := 0, pos := _, after := _, guard := none }) rfl (fun K hK => ?_) AllReadyH.nil
              go_simp
              refine hK.out _ _ (keepA (HP_w2.out.below (hk4.alloc hk4.size (.cells #[.slice fao EF.st.r.length fco, .int .i64 EF.st.q, .int .i64 EF.st.d, .slice gao EF.s.length gco, .slice hao EF.x.length hco, .int .i64 EF.k] 69))) (HQ_w2.out.below (hk4.alloc hk4.size (.cells #[.slice fao EF.st.r.length fco, .int .i64 EF.st.q, .int .i64 EF.st.d, .slice gao EF.s.length gco, .slice hao EF.x.length hco, .int .i64 EF.k] 69))) (HV_w2.out.below (hk4.alloc hk4.size (.cells #[.slice fao EF.st.r.length fco, .int .i64 EF.st.q, .int .i64 EF.st.d, .slice gao EF.s.length gco, .slice hao EF.x.length hco, .int .i64 EF.k] 69)))) (fun hHeld => ?_)
              clear hK K
              try simp only [Act.put, List.setIfInBounds_toArray, List.set_cons_zero, List.set_cons_succ]
              refine wpAnyH_take (i := 14) (oi := { dst := some 11, op := Op.assign (Operand.tmp 46), type := 4, pos := _, after := _, guard := none }) (v := .bool b) rfl (by kernel_rfl) (by kernel_rfl) (by kernel_rfl) (fun _ _ _ h => h) (Or.inl ⟨by rfl, ?_⟩) (by assumption) ?_
              · intro wX hSw
                try dsimp only at hSw
                go_simp
              try simp only [Act.put, List.setIfInBounds_toArray, List.set_cons_zero, List.set_cons_succ]
              refine wpAnyH_done (by kernel_rfl) ?_ _
              go_wp2
              go_meet
              case rel =>
                exact ⟨_, fao, fco, gao, gco, hao, hco, rfl, rfl, (hk4.alloc hk4.size (.cells #[.slice fao EF.st.r.length fco, .int .i64 EF.st.q, .int .i64 EF.st.d, .slice gao EF.s.length gco, .slice hao EF.x.length hco, .int .i64 EF.k] 69)), ⟨hk4.size, (Bk.new we 69 #[.slice fao EF.st.r.length fco, .int .i64 EF.st.q, .int .i64 EF.st.d, .slice gao EF.s.length gco, .slice hao EF.x.length hco, .int .i64 EF.k]).lt⟩, Bk.new we 69 #[.slice fao EF.st.r.length fco, .int .i64 EF.st.q, .int .i64 EF.st.d, .slice gao EF.s.length gco, .slice hao EF.x.length hco, .int .i64 EF.k], (HU.out.below ((Below.refl _ we).alloc (Nat.le_refl _) _)).mono (fun k e => ⟨⟨by omega, by simp; omega⟩, by omega⟩)⟩
            · go_simp
              refine hK.out _ _ (keepA (HP_w2.out.below ((hk3).alloc (hk3).size (.cells #[.slice none 0 0, .int .i64 0, .int .i64 0, .slice none 0 0, .slice none 0 0, .int .i64 0] 69))) (HQ_w2.out.below ((hk3).alloc (hk3).size (.cells #[.slice none 0 0, .int .i64 0, .int .i64 0, .slice none 0 0, .slice none 0 0, .int .i64 0] 69))) (HV_w2.out.below ((hk3).alloc (hk3).size (.cells #[.slice none 0 0, .int .i64 0, .int .i64 0, .slice none 0 0, .slice none 0 0, .int .i64 0] 69)))) (fun hHeld => ?_)
              clear hK K
              try simp only [Act.put, List.setIfInBounds_toArray, List.set_cons_zero, List.set_cons_succ]
              refine wpAnyH_ready (rs := [8]) (by kernel_rfl) (by simp) ?_
              refine AllReadyH.cons (o := { dst := some 44, op := Op.call { callee := Callee.value (Operand.func 35), args := #[Operand.tmp 37, Operand.tmp 39, Operand.tmp 41, Operand.tmp 43], argTypes := #[55, 22, 32, 40] }, type := 70, pos := _, after := _, guard := none }) rfl (fun K hK => ?_) AllReadyH.nil
              go_simp
              have hcW : w2.heap.size ≤ (wf.alloc (.cells #[.slice none 0 0, .int .i64 0, .int .i64 0, .slice none 0 0, .slice none 0 0, .int .i64 0] 69)).heap.size := (((hk3).alloc (hk3).size (.cells #[.slice none 0 0, .int .i64 0, .int .i64 0, .slice none 0 0, .slice none 0 0, .int .i64 0] 69))).size
              have hPW : wf.heap.size < (wf.alloc (.cells #[.slice none 0 0, .int .i64 0, .int .i64 0, .slice none 0 0, .slice none 0 0, .int .i64 0] 69)).heap.size := ((Bk.new wf 69 #[.slice none 0 0, .int .i64 0, .int .i64 0, .slice none 0 0, .slice none 0 0, .int .i64 0] : Bk (wf.alloc (.cells #[.slice none 0 0, .int .i64 0, .int .i64 0, .slice none 0 0, .slice none 0 0, .int .i64 0] 69)) wf.heap.size 69 #[.slice none 0 0, .int .i64 0, .int .i64 0, .slice none 0 0, .slice none 0 0, .int .i64 0])).lt
              refine (HSP.out _ _ _ _ (HA3.out.below ((Below.refl _ wf).alloc (Nat.le_refl _) _)) (HI3.out.below ((Below.refl _ wf).alloc (Nat.le_refl _) _)) (HT3.out.below ((Below.refl _ wf).alloc (Nat.le_refl _) _))).mono ?_
              rintro r we ⟨ue, rfl, hb, hue⟩
              obtain ⟨fao, fco, gao, gco, hao, hco, rfl⟩ := hue.form
              have hk4 : Below w2.heap.size w2 we := (((hk3).alloc (hk3).size (.cells #[.slice none 0 0, .int .i64 0, .int .i64 0, .slice none 0 0, .slice none 0 0, .int .i64 0] 69))).trans (hb.mono (((hk3).alloc (hk3).size (.cells #[.slice none 0 0, .int .i64 0, .int .i64 0, .slice none 0 0, .slice none 0 0, .int .i64 0] 69))).size)
              have hz4 : Bk we wf.heap.size 69 #[.slice none 0 0, .int .i64 0, .int .i64 0, .slice none 0 0, .slice none 0 0, .int .i64 0] := ((Bk.new wf 69 #[.slice none 0 0, .int .i64 0, .int .i64 0, .slice none 0 0, .slice none 0 0, .int .i64 0] : Bk (wf.alloc (.cells #[.slice none 0 0, .int .i64 0, .int .i64 0, .slice none 0 0, .slice none 0 0, .int .i64 0] 69)) wf.heap.size 69 #[.slice none 0 0, .int .i64 0, .int .i64 0, .slice none 0 0, .slice none 0 0, .int .i64 0])).below hb
              have HU : Hid (EfF (fun k => (wf.alloc (.cells #[.slice none 0 0, .int .i64 0, .int .i64 0, .slice none 0 0, .slice none 0 0, .int .i64 0] 69)).heap.size ≤ k ∧ k < we.heap.size) we (.agg #[.slice fao EF.st.r.length fco, .int .i64 EF.st.q, .int .i64 EF.st.d, .slice gao EF.s.length gco, .slice hao EF.x.length hco, .int .i64 EF.k]) EF) := hue
              clear hb
              try go_simp
              refine hK.out _ _ (keepA (HP_w2.out.below hk4) (HQ_w2.out.below hk4) (HV_w2.out.below hk4)) (fun hHeld => ?_)
              clear hK K
              try simp only [Act.put, List.setIfInBounds_toArray, List.set_cons_zero, List.set_cons_succ]
              refine wpAnyH_take (i := 9) (oi := { dst := some 35, op := Op.move (Operand.tmp 44), type := 70, pos := _, after := _, guard := none }) (v := .tuple #[.agg #[.slice fao EF.st.r.length fco, .int .i64 EF.st.q, .int .i64 EF.st.d, .slice gao EF.s.length gco, .slice hao EF.x.length hco, .int .i64 EF.k], .bool b]) rfl (by kernel_rfl) (by kernel_rfl) (by kernel_rfl) (fun _ _ _ h => h) (Or.inl ⟨by rfl, ?_⟩) (by assumption) ?_
              · intro wX hSw
                try dsimp only at hSw
                go_simp
              try simp only [Act.put, List.setIfInBounds_toArray, List.set_cons_zero, List.set_cons_succ]
              refine wpAnyH_take (i := 10) (oi := { dst := some 45, op := Op.extract (Operand.tmp 35) 0, type := 69, pos := _, after := _, guard := none }) (v := .agg #[.slice fao EF.st.r.length fco, .int .i64 EF.st.q, .int .i64 EF.st.d, .slice gao EF.s.length gco, .slice hao EF.x.length hco, .int .i64 EF.k]) rfl (by kernel_rfl) (by kernel_rfl) (by kernel_rfl) (fun _ _ _ h => h) (Or.inl ⟨by rfl, ?_⟩) (by assumption) ?_
              · intro wX hSw
                try dsimp only at hSw
                go_simp
              try simp only [Act.put, List.setIfInBounds_toArray, List.set_cons_zero, List.set_cons_succ]
              refine wpAnyH_take (i := 11) (oi := { dst := some 46, op := Op.extract (Operand.tmp 35) 1, type := 4, pos := _, after := _, guard := none }) (v := .bool b) rfl (by kernel_rfl) (by kernel_rfl) (by kernel_rfl) (fun _ _ _ h => h) (Or.inl ⟨by rfl, ?_⟩) (by assumption) ?_
              · intro wX hSw
                try dsimp only at hSw
                go_simp
              try simp only [Act.put, List.setIfInBounds_toArray, List.set_cons_zero, List.set_cons_succ]
              have zc0 := hz4.cell (i := 0) rfl
              have zc1 := hz4.cell (i := 1) rfl
              have zc2 := hz4.cell (i := 2) rfl
              have zc3 := hz4.cell (i := 3) rfl
              have zc4 := hz4.cell (i := 4) rfl
              have zc5 := hz4.cell (i := 5) rfl
              have zf := hz4.free
              have hPlo : w2.heap.size ≤ wf.heap.size := (hk3).size
              have hpt := put6_turns we (wf.heap.size) (.slice fao EF.st.r.length fco) (.int .i64 EF.st.q) (.int .i64 EF.st.d) (.slice gao EF.s.length gco) (.slice hao EF.x.length hco) (.int .i64 EF.k)
              have T3 : Below w2.heap.size w2 (put6 we (wf.heap.size) (.slice fao EF.st.r.length fco) (.int .i64 EF.st.q) (.int .i64 EF.st.d) (.slice gao EF.s.length gco) (.slice hao EF.x.length hco) (.int .i64 EF.k)) := hk4.trans (hpt.to_below (fun k e => by rw [show k = wf.heap.size from e]; exact hPlo) hk4.size)
              refine wpAnyH_ready (rs := [13]) (by kernel_rfl) (by simp) ?_
              refine AllReadyH.cons (o := { dst := none, op := Op.store 69 (Operand.tmp 10) (Operand.tmp 45), type := 0, pos := _, after := _, guard := none }) rfl (fun K hK => ?_) AllReadyH.nil
              go_simp
              refine hK.out _ _ (keepA (HP_w2.out.below T3) (HQ_w2.out.below T3) (HV_w2.out.below T3)) (fun hHeld => ?_)
              clear hK K
              try simp only [Act.put, List.setIfInBounds_toArray, List.set_cons_zero, List.set_cons_succ]
              refine wpAnyH_take (i := 14) (oi := { dst := some 11, op := Op.assign (Operand.tmp 46), type := 4, pos := _, after := _, guard := none }) (v := .bool b) rfl (by kernel_rfl) (by kernel_rfl) (by kernel_rfl) (fun _ _ _ h => h) (Or.inl ⟨by rfl, ?_⟩) (by assumption) ?_
              · intro wX hSw
                try dsimp only at hSw
                go_simp
              try simp only [Act.put, List.setIfInBounds_toArray, List.set_cons_zero, List.set_cons_succ]
              refine wpAnyH_done (by kernel_rfl) ?_ _
              go_wp2
              go_meet
              case rel =>
                exact ⟨_, fao, fco, gao, gco, hao, hco, rfl, rfl, T3, ⟨hPlo, (hz4.put6 (.slice fao EF.st.r.length fco) (.int .i64 EF.st.q) (.int .i64 EF.st.d) (.slice gao EF.s.length gco) (.slice hao EF.x.length hco) (.int .i64 EF.k)).lt⟩, hz4.put6 (.slice fao EF.st.r.length fco) (.int .i64 EF.st.q) (.int .i64 EF.st.d) (.slice gao EF.s.length gco) (.slice hao EF.x.length hco) (.int .i64 EF.k), (HU.out.turns hpt (fun k e1 e2 => by have e3 : k = wf.heap.size := e2; omega)).mono (fun k e => ⟨⟨by omega, Nat.lt_of_lt_of_le e.2 hpt.size⟩, by omega⟩)⟩
          · go_simp
            refine hK.out _ _ (keepA (HP_w2.out.below ((hk2).alloc (hk2).size (.cells #[.slice none 0 0, .int .i64 0, .int .i64 0, .slice none 0 0, .slice none 0 0, .int .i64 0] 69))) (HQ_w2.out.below ((hk2).alloc (hk2).size (.cells #[.slice none 0 0, .int .i64 0, .int .i64 0, .slice none 0 0, .slice none 0 0, .int .i64 0] 69))) (HV_w2.out.below ((hk2).alloc (hk2).size (.cells #[.slice none 0 0, .int .i64 0, .int .i64 0, .slice none 0 0, .slice none 0 0, .int .i64 0] 69)))) (fun hHeld => ?_)
            clear hK K
            try simp only [Act.put, List.setIfInBounds_toArray, List.set_cons_zero, List.set_cons_succ]
            refine wpAnyH_ready (rs := [7]) (by kernel_rfl) (by simp) ?_
            refine AllReadyH.cons (o := { dst := some 43, op := Op.call { callee := Callee.value (Operand.func 13), args := #[Operand.tmp 42], argTypes := #[30] }, type := 40, pos := _, after := _, guard := none }) rfl (fun K hK => ?_) AllReadyH.nil
            go_simp
            refine (toEvent_any e.t e.s e.q e.d e.k e.v e.g _).mono ?_
            rintro r wf ⟨rfl, hb⟩
            have hk3 : Below w2.heap.size w2 wf := (((hk2).alloc (hk2).size (.cells #[.slice none 0 0, .int .i64 0, .int .i64 0, .slice none 0 0, .slice none 0 0, .int .i64 0] 69))).trans (hb.mono (((hk2).alloc (hk2).size (.cells #[.slice none 0 0, .int .i64 0, .int .i64 0, .slice none 0 0, .slice none 0 0, .int .i64 0] 69))).size)
            have hz3 : Bk wf wd.heap.size 69 #[.slice none 0 0, .int .i64 0, .int .i64 0, .slice none 0 0, .slice none 0 0, .int .i64 0] := ((Bk.new wd 69 #[.slice none 0 0, .int .i64 0, .int .i64 0, .slice none 0 0, .slice none 0 0, .int .i64 0] : Bk (wd.alloc (.cells #[.slice none 0 0, .int .i64 0, .int .i64 0, .slice none 0 0, .slice none 0 0, .int .i64 0] 69)) wd.heap.size 69 #[.slice none 0 0, .int .i64 0, .int .i64 0, .slice none 0 0, .slice none 0 0, .int .i64 0])).below hb
            have HA3 : Hid (IsM wf ya m) := (HA2.out.below ((Below.refl _ wd).alloc (Nat.le_refl _) _)).below hb
            have HI3 : Hid (IsI wf (sl gi l.length) l) := (HI2.out.below ((Below.refl _ wd).alloc (Nat.le_refl _) _)).below hb
            have HT3 : Hid (IsS wf yd s) := (HT2.out.below ((Below.refl _ wd).alloc (Nat.le_refl _) _)).below hb
            clear hb
            try go_simp
            refine hK.out _ _ (keepA (HP_w2.out.below hk3) (HQ_w2.out.below hk3) (HV_w2.out.below hk3)) (fun hHeld => ?_)
            clear hK K
            try simp only [Act.put, List.setIfInBounds_toArray, List.set_cons_zero, List.set_cons_succ]
            refine wpAnyH_ready (rs := [8]) (by kernel_rfl) (by simp) ?_
            refine AllReadyH.cons (o := { dst := some 44, op := Op.call { callee := Callee.value (Operand.func 35), args := #[Operand.tmp 37, Operand.tmp 39, Operand.tmp 41, Operand.tmp 43], argTypes := #[55, 22, 32, 40] }, type := 70, pos := _, after := _, guard := none }) rfl (fun K hK => ?_) AllReadyH.nil
            go_simp
            have hcW : w2.heap.size ≤ wf.heap.size := (hk3).size
            have hPW : wd.heap.size < wf.heap.size := (hz3).lt
            refine (HSP.out _ _ _ _ HA3.out HI3.out HT3.out).mono ?_
            rintro r we ⟨ue, rfl, hb, hue⟩
            obtain ⟨fao, fco, gao, gco, hao, hco, rfl⟩ := hue.form
            have hk4 : Below w2.heap.size w2 we := (hk3).trans (hb.mono (hk3).size)
            have hz4 : Bk we wd.heap.size 69 #[.slice none 0 0, .int .i64 0, .int .i64 0, .slice none 0 0, .slice none 0 0, .int .i64 0] := (hz3).below hb
            have HU : Hid (EfF (fun k => wf.heap.size ≤ k ∧ k < we.heap.size) we (.agg #[.slice fao EF.st.r.length fco, .int .i64 EF.st.q, .int .i64 EF.st.d, .slice gao EF.s.length gco, .slice hao EF.x.length hco, .int .i64 EF.k]) EF) := hue
            clear hb
            try go_simp
            refine hK.out _ _ (keepA (HP_w2.out.below hk4) (HQ_w2.out.below hk4) (HV_w2.out.below hk4)) (fun hHeld => ?_)
            clear hK K
            try simp only [Act.put, List.setIfInBounds_toArray, List.set_cons_zero, List.set_cons_succ]
            refine wpAnyH_take (i := 9) (oi := { dst := some 35, op := Op.move (Operand.tmp 44), type := 70, pos := _, after := _, guard := none }) (v := .tuple #[.agg #[.slice fao EF.st.r.length fco, .int .i64 EF.st.q, .int .i64 EF.st.d, .slice gao EF.s.length gco, .slice hao EF.x.length hco, .int .i64 EF.k], .bool b]) rfl (by kernel_rfl) (by kernel_rfl) (by kernel_rfl) (fun _ _ _ h => h) (Or.inl ⟨by rfl, ?_⟩) (by assumption) ?_
            · intro wX hSw
              try dsimp only at hSw
              go_simp
            try simp only [Act.put, List.setIfInBounds_toArray, List.set_cons_zero, List.set_cons_succ]
            refine wpAnyH_take (i := 10) (oi := { dst := some 45, op := Op.extract (Operand.tmp 35) 0, type := 69, pos := _, after := _, guard := none }) (v := .agg #[.slice fao EF.st.r.length fco, .int .i64 EF.st.q, .int .i64 EF.st.d, .slice gao EF.s.length gco, .slice hao EF.x.length hco, .int .i64 EF.k]) rfl (by kernel_rfl) (by kernel_rfl) (by kernel_rfl) (fun _ _ _ h => h) (Or.inl ⟨by rfl, ?_⟩) (by assumption) ?_
            · intro wX hSw
              try dsimp only at hSw
              go_simp
            try simp only [Act.put, List.setIfInBounds_toArray, List.set_cons_zero, List.set_cons_succ]
            refine wpAnyH_take (i := 11) (oi := { dst := some 46, op := Op.extract (Operand.tmp 35) 1, type := 4, pos := _, after := _, guard := none }) (v := .bool b) rfl (by kernel_rfl) (by kernel_rfl) (by kernel_rfl) (fun _ _ _ h => h) (Or.inl ⟨by rfl, ?_⟩) (by assumption) ?_
            · intro wX hSw
              try dsimp only at hSw
              go_simp
            try simp only [Act.put, List.setIfInBounds_toArray, List.set_cons_zero, List.set_cons_succ]
            have zc0 := hz4.cell (i := 0) rfl
            have zc1 := hz4.cell (i := 1) rfl
            have zc2 := hz4.cell (i := 2) rfl
            have zc3 := hz4.cell (i := 3) rfl
            have zc4 := hz4.cell (i := 4) rfl
            have zc5 := hz4.cell (i := 5) rfl
            have zf := hz4.free
            have hPlo : w2.heap.size ≤ wd.heap.size := (hk2).size
            have hpt := put6_turns we (wd.heap.size) (.slice fao EF.st.r.length fco) (.int .i64 EF.st.q) (.int .i64 EF.st.d) (.slice gao EF.s.length gco) (.slice hao EF.x.length hco) (.int .i64 EF.k)
            have T3 : Below w2.heap.size w2 (put6 we (wd.heap.size) (.slice fao EF.st.r.length fco) (.int .i64 EF.st.q) (.int .i64 EF.st.d) (.slice gao EF.s.length gco) (.slice hao EF.x.length hco) (.int .i64 EF.k)) := hk4.trans (hpt.to_below (fun k e => by rw [show k = wd.heap.size from e]; exact hPlo) hk4.size)
            refine wpAnyH_ready (rs := [13]) (by kernel_rfl) (by simp) ?_
            refine AllReadyH.cons (o := { dst := none, op := Op.store 69 (Operand.tmp 10) (Operand.tmp 45), type := 0, pos := _, after := _, guard := none }) rfl (fun K hK => ?_) AllReadyH.nil
            go_simp
            refine hK.out _ _ (keepA (HP_w2.out.below T3) (HQ_w2.out.below T3) (HV_w2.out.below T3)) (fun hHeld => ?_)
            clear hK K
            try simp only [Act.put, List.setIfInBounds_toArray, List.set_cons_zero, List.set_cons_succ]
            refine wpAnyH_take (i := 14) (oi := { dst := some 11, op := Op.assign (Operand.tmp 46), type := 4, pos := _, after := _, guard := none }) (v := .bool b) rfl (by kernel_rfl) (by kernel_rfl) (by kernel_rfl) (fun _ _ _ h => h) (Or.inl ⟨by rfl, ?_⟩) (by assumption) ?_
            · intro wX hSw
              try dsimp only at hSw
              go_simp
            try simp only [Act.put, List.setIfInBounds_toArray, List.set_cons_zero, List.set_cons_succ]
            refine wpAnyH_done (by kernel_rfl) ?_ _
            go_wp2
            go_meet
            case rel =>
              exact ⟨_, fao, fco, gao, gco, hao, hco, rfl, rfl, T3, ⟨hPlo, (hz4.put6 (.slice fao EF.st.r.length fco) (.int .i64 EF.st.q) (.int .i64 EF.st.d) (.slice gao EF.s.length gco) (.slice hao EF.x.length hco) (.int .i64 EF.k)).lt⟩, hz4.put6 (.slice fao EF.st.r.length fco) (.int .i64 EF.st.q) (.int .i64 EF.st.d) (.slice gao EF.s.length gco) (.slice hao EF.x.length hco) (.int .i64 EF.k), (HU.out.turns hpt (fun k e1 e2 => by have e3 : k = wd.heap.size := e2; omega)).mono (fun k e => ⟨⟨by omega, Nat.lt_of_lt_of_le e.2 hpt.size⟩, by omega⟩)⟩
        · go_simp
          refine hK.out _ _ (keepA (HP_w2.out.below ((hk1).alloc (hk1).size (.cells #[.slice none 0 0, .int .i64 0, .int .i64 0, .slice none 0 0, .slice none 0 0, .int .i64 0] 69))) (HQ_w2.out.below ((hk1).alloc (hk1).size (.cells #[.slice none 0 0, .int .i64 0, .int .i64 0, .slice none 0 0, .slice none 0 0, .int .i64 0] 69))) (HV_w2.out.below ((hk1).alloc (hk1).size (.cells #[.slice none 0 0, .int .i64 0, .int .i64 0, .slice none 0 0, .slice none 0 0, .int .i64 0] 69)))) (fun hHeld => ?_)
          clear hK K
          try simp only [Act.put, List.setIfInBounds_toArray, List.set_cons_zero, List.set_cons_succ]
          refine wpAnyH_ready (rs := [5]) (by kernel_rfl) (by simp) ?_
          refine AllReadyH.cons (o := { dst := some 41, op := Op.call { callee := Callee.value (Operand.func 36), args := #[Operand.tmp 40], argTypes := #[24] }, type := 32, pos := _, after := _, guard := none }) rfl (fun K hK => ?_) AllReadyH.nil
          go_simp
          refine (toState_any _ s _ HSL.out (HY.out.below (HB_w2.out.trans ((((hk1).alloc (hk1).size (.cells #[.slice none 0 0, .int .i64 0, .int .i64 0, .slice none 0 0, .slice none 0 0, .int .i64 0] 69))).mono HB_w2.out.size)))).mono ?_
          rintro r wd ⟨yd, rfl, hb, hrd⟩
          have hk2 : Below w2.heap.size w2 wd := (((hk1).alloc (hk1).size (.cells #[.slice none 0 0, .int .i64 0, .int .i64 0, .slice none 0 0, .slice none 0 0, .int .i64 0] 69))).trans (hb.mono (((hk1).alloc (hk1).size (.cells #[.slice none 0 0, .int .i64 0, .int .i64 0, .slice none 0 0, .slice none 0 0, .int .i64 0] 69))).size)
          have hz2 : Bk wd wb.heap.size 69 #[.slice none 0 0, .int .i64 0, .int .i64 0, .slice none 0 0, .slice none 0 0, .int .i64 0] := ((Bk.new wb 69 #[.slice none 0 0, .int .i64 0, .int .i64 0, .slice none 0 0, .slice none 0 0, .int .i64 0] : Bk (wb.alloc (.cells #[.slice none 0 0, .int .i64 0, .int .i64 0, .slice none 0 0, .slice none 0 0, .int .i64 0] 69)) wb.heap.size 69 #[.slice none 0 0, .int .i64 0, .int .i64 0, .slice none 0 0, .slice none 0 0, .int .i64 0])).below hb
          have HA2 : Hid (IsM wd ya m) := (HA1.out.below ((Below.refl _ wb).alloc (Nat.le_refl _) _)).below hb
          have HI2 : Hid (IsI wd (sl gi l.length) l) := (HI1.out.below ((Below.refl _ wb).alloc (Nat.le_refl _) _)).below hb
          have HT2 : Hid (IsS wd yd s) := hrd.isS
          clear hb
          try go_simp
          refine hK.out _ _ (keepA (HP_w2.out.below hk2) (HQ_w2.out.below hk2) (HV_w2.out.below hk2)) (fun hHeld => ?_)
          clear hK K
          try simp only [Act.put, List.setIfInBounds_toArray, List.set_cons_zero, List.set_cons_succ]
          refine wpAnyH_ready (rs := [7]) (by kernel_rfl) (by simp) ?_
          refine AllReadyH.cons (o := { dst := some 43, op := Op.call { callee := Callee.value (Operand.func 13), args := #[Operand.tmp 42], argTypes := #[30] }, type := 40, pos := _, after := _, guard := none }) rfl (fun K hK => ?_) AllReadyH.nil
          go_simp
          refine (toEvent_any e.t e.s e.q e.d e.k e.v e.g _).mono ?_
          rintro r wf ⟨rfl, hb⟩
          have hk3 : Below w2.heap.size w2 wf := (hk2).trans (hb.mono (hk2).size)
          have hz3 : Bk wf wb.heap.size 69 #[.slice none 0 0, .int .i64 0, .int .i64 0, .slice none 0 0, .slice none 0 0, .int .i64 0] := (hz2).below hb
          have HA3 : Hid (IsM wf ya m) := HA2.out.below hb
          have HI3 : Hid (IsI wf (sl gi l.length) l) := HI2.out.below hb
          have HT3 : Hid (IsS wf yd s) := HT2.out.below hb
          clear hb
          try go_simp
          refine hK.out _ _ (keepA (HP_w2.out.below hk3) (HQ_w2.out.below hk3) (HV_w2.out.below hk3)) (fun hHeld => ?_)
          clear hK K
          try simp only [Act.put, List.setIfInBounds_toArray, List.set_cons_zero, List.set_cons_succ]
          refine wpAnyH_ready (rs := [8]) (by kernel_rfl) (by simp) ?_
          refine AllReadyH.cons (o := { dst := some 44, op := Op.call { callee := Callee.value (Operand.func 35), args := #[Operand.tmp 37, Operand.tmp 39, Operand.tmp 41, Operand.tmp 43], argTypes := #[55, 22, 32, 40] }, type := 70, pos := _, after := _, guard := none }) rfl (fun K hK => ?_) AllReadyH.nil
          go_simp
          have hcW : w2.heap.size ≤ wf.heap.size := (hk3).size
          have hPW : wb.heap.size < wf.heap.size := (hz3).lt
          refine (HSP.out _ _ _ _ HA3.out HI3.out HT3.out).mono ?_
          rintro r we ⟨ue, rfl, hb, hue⟩
          obtain ⟨fao, fco, gao, gco, hao, hco, rfl⟩ := hue.form
          have hk4 : Below w2.heap.size w2 we := (hk3).trans (hb.mono (hk3).size)
          have hz4 : Bk we wb.heap.size 69 #[.slice none 0 0, .int .i64 0, .int .i64 0, .slice none 0 0, .slice none 0 0, .int .i64 0] := (hz3).below hb
          have HU : Hid (EfF (fun k => wf.heap.size ≤ k ∧ k < we.heap.size) we (.agg #[.slice fao EF.st.r.length fco, .int .i64 EF.st.q, .int .i64 EF.st.d, .slice gao EF.s.length gco, .slice hao EF.x.length hco, .int .i64 EF.k]) EF) := hue
          clear hb
          try go_simp
          refine hK.out _ _ (keepA (HP_w2.out.below hk4) (HQ_w2.out.below hk4) (HV_w2.out.below hk4)) (fun hHeld => ?_)
          clear hK K
          try simp only [Act.put, List.setIfInBounds_toArray, List.set_cons_zero, List.set_cons_succ]
          refine wpAnyH_take (i := 9) (oi := { dst := some 35, op := Op.move (Operand.tmp 44), type := 70, pos := _, after := _, guard := none }) (v := .tuple #[.agg #[.slice fao EF.st.r.length fco, .int .i64 EF.st.q, .int .i64 EF.st.d, .slice gao EF.s.length gco, .slice hao EF.x.length hco, .int .i64 EF.k], .bool b]) rfl (by kernel_rfl) (by kernel_rfl) (by kernel_rfl) (fun _ _ _ h => h) (Or.inl ⟨by rfl, ?_⟩) (by assumption) ?_
          · intro wX hSw
            try dsimp only at hSw
            go_simp
          try simp only [Act.put, List.setIfInBounds_toArray, List.set_cons_zero, List.set_cons_succ]
          refine wpAnyH_take (i := 10) (oi := { dst := some 45, op := Op.extract (Operand.tmp 35) 0, type := 69, pos := _, after := _, guard := none }) (v := .agg #[.slice fao EF.st.r.length fco, .int .i64 EF.st.q, .int .i64 EF.st.d, .slice gao EF.s.length gco, .slice hao EF.x.length hco, .int .i64 EF.k]) rfl (by kernel_rfl) (by kernel_rfl) (by kernel_rfl) (fun _ _ _ h => h) (Or.inl ⟨by rfl, ?_⟩) (by assumption) ?_
          · intro wX hSw
            try dsimp only at hSw
            go_simp
          try simp only [Act.put, List.setIfInBounds_toArray, List.set_cons_zero, List.set_cons_succ]
          refine wpAnyH_take (i := 11) (oi := { dst := some 46, op := Op.extract (Operand.tmp 35) 1, type := 4, pos := _, after := _, guard := none }) (v := .bool b) rfl (by kernel_rfl) (by kernel_rfl) (by kernel_rfl) (fun _ _ _ h => h) (Or.inl ⟨by rfl, ?_⟩) (by assumption) ?_
          · intro wX hSw
            try dsimp only at hSw
            go_simp
          try simp only [Act.put, List.setIfInBounds_toArray, List.set_cons_zero, List.set_cons_succ]
          have zc0 := hz4.cell (i := 0) rfl
          have zc1 := hz4.cell (i := 1) rfl
          have zc2 := hz4.cell (i := 2) rfl
          have zc3 := hz4.cell (i := 3) rfl
          have zc4 := hz4.cell (i := 4) rfl
          have zc5 := hz4.cell (i := 5) rfl
          have zf := hz4.free
          have hPlo : w2.heap.size ≤ wb.heap.size := (hk1).size
          have hpt := put6_turns we (wb.heap.size) (.slice fao EF.st.r.length fco) (.int .i64 EF.st.q) (.int .i64 EF.st.d) (.slice gao EF.s.length gco) (.slice hao EF.x.length hco) (.int .i64 EF.k)
          have T3 : Below w2.heap.size w2 (put6 we (wb.heap.size) (.slice fao EF.st.r.length fco) (.int .i64 EF.st.q) (.int .i64 EF.st.d) (.slice gao EF.s.length gco) (.slice hao EF.x.length hco) (.int .i64 EF.k)) := hk4.trans (hpt.to_below (fun k e => by rw [show k = wb.heap.size from e]; exact hPlo) hk4.size)
          refine wpAnyH_ready (rs := [13]) (by kernel_rfl) (by simp) ?_
          refine AllReadyH.cons (o := { dst := none, op := Op.store 69 (Operand.tmp 10) (Operand.tmp 45), type := 0, pos := _, after := _, guard := none }) rfl (fun K hK => ?_) AllReadyH.nil
          go_simp
          refine hK.out _ _ (keepA (HP_w2.out.below T3) (HQ_w2.out.below T3) (HV_w2.out.below T3)) (fun hHeld => ?_)
          clear hK K
          try simp only [Act.put, List.setIfInBounds_toArray, List.set_cons_zero, List.set_cons_succ]
          refine wpAnyH_take (i := 14) (oi := { dst := some 11, op := Op.assign (Operand.tmp 46), type := 4, pos := _, after := _, guard := none }) (v := .bool b) rfl (by kernel_rfl) (by kernel_rfl) (by kernel_rfl) (fun _ _ _ h => h) (Or.inl ⟨by rfl, ?_⟩) (by assumption) ?_
          · intro wX hSw
            try dsimp only at hSw
            go_simp
          try simp only [Act.put, List.setIfInBounds_toArray, List.set_cons_zero, List.set_cons_succ]
          refine wpAnyH_done (by kernel_rfl) ?_ _
          go_wp2
          go_meet
          case rel =>
            exact ⟨_, fao, fco, gao, gco, hao, hco, rfl, rfl, T3, ⟨hPlo, (hz4.put6 (.slice fao EF.st.r.length fco) (.int .i64 EF.st.q) (.int .i64 EF.st.d) (.slice gao EF.s.length gco) (.slice hao EF.x.length hco) (.int .i64 EF.k)).lt⟩, hz4.put6 (.slice fao EF.st.r.length fco) (.int .i64 EF.st.q) (.int .i64 EF.st.d) (.slice gao EF.s.length gco) (.slice hao EF.x.length hco) (.int .i64 EF.k), (HU.out.turns hpt (fun k e1 e2 => by have e3 : k = wb.heap.size := e2; omega)).mono (fun k e => ⟨⟨by omega, Nat.lt_of_lt_of_le e.2 hpt.size⟩, by omega⟩)⟩
      · go_simp
        refine hK.out _ _ (keepA (HP_w2.out.below ((hk0).alloc (hk0).size (.cells #[.slice none 0 0, .int .i64 0, .int .i64 0, .slice none 0 0, .slice none 0 0, .int .i64 0] 69))) (HQ_w2.out.below ((hk0).alloc (hk0).size (.cells #[.slice none 0 0, .int .i64 0, .int .i64 0, .slice none 0 0, .slice none 0 0, .int .i64 0] 69))) (HV_w2.out.below ((hk0).alloc (hk0).size (.cells #[.slice none 0 0, .int .i64 0, .int .i64 0, .slice none 0 0, .slice none 0 0, .int .i64 0] 69)))) (fun hHeld => ?_)
        clear hK K
        try simp only [Act.put, List.setIfInBounds_toArray, List.set_cons_zero, List.set_cons_succ]
        refine wpAnyH_ready (rs := [3]) (by kernel_rfl) (by simp) ?_
        refine AllReadyH.cons (o := { dst := some 39, op := Op.call { callee := Callee.value (Operand.func 30), args := #[Operand.tmp 38], argTypes := #[22] }, type := 22, pos := _, after := _, guard := none }) rfl (fun K hK => ?_) AllReadyH.nil
        go_simp
        refine (toI_any _ l _ HL.out (HD.out.below (HB_w2.out.trans ((((hk0).alloc (hk0).size (.cells #[.slice none 0 0, .int .i64 0, .int .i64 0, .slice none 0 0, .slice none 0 0, .int .i64 0] 69))).mono HB_w2.out.size)))).mono ?_
        rintro r wb ⟨hrr, hb, hrb⟩
        generalize (wa.alloc (.cells #[.slice none 0 0, .int .i64 0, .int .i64 0, .slice none 0 0, .slice none 0 0, .int .i64 0] 69)).heap.size = gi at hrr hrb
        subst hrr
        have hk1 : Below w2.heap.size w2 wb := (((hk0).alloc (hk0).size (.cells #[.slice none 0 0, .int .i64 0, .int .i64 0, .slice none 0 0, .slice none 0 0, .int .i64 0] 69))).trans (hb.mono (((hk0).alloc (hk0).size (.cells #[.slice none 0 0, .int .i64 0, .int .i64 0, .slice none 0 0, .slice none 0 0, .int .i64 0] 69))).size)
        have hz1 : Bk wb wa.heap.size 69 #[.slice none 0 0, .int .i64 0, .int .i64 0, .slice none 0 0, .slice none 0 0, .int .i64 0] := ((Bk.new wa 69 #[.slice none 0 0, .int .i64 0, .int .i64 0, .slice none 0 0, .slice none 0 0, .int .i64 0] : Bk (wa.alloc (.cells #[.slice none 0 0, .int .i64 0, .int .i64 0, .slice none 0 0, .slice none 0 0, .int .i64 0] 69)) wa.heap.size 69 #[.slice none 0 0, .int .i64 0, .int .i64 0, .slice none 0 0, .slice none 0 0, .int .i64 0])).below hb
        have HA1 : Hid (IsM wb ya m) := (HA0.out.below ((Below.refl _ wa).alloc (Nat.le_refl _) _)).below hb
        have HI1 : Hid (IsI wb (sl gi l.length) l) := hrb.isI (by have := HL.out; unfold maxLen; omega)
        clear hb
        try go_simp
        refine hK.out _ _ (keepA (HP_w2.out.below hk1) (HQ_w2.out.below hk1) (HV_w2.out.below hk1)) (fun hHeld => ?_)
        clear hK K
        try simp only [Act.put, List.setIfInBounds_toArray, List.set_cons_zero, List.set_cons_succ]
        refine wpAnyH_ready (rs := [5]) (by kernel_rfl) (by simp) ?_
        refine AllReadyH.cons (o := { dst := some 41, op := Op.call { callee := Callee.value (Operand.func 36), args := #[Operand.tmp 40], argTypes := #[24] }, type := 32, pos := _, after := _, guard := none }) rfl (fun K hK => ?_) AllReadyH.nil
        go_simp
        refine (toState_any _ s _ HSL.out (HY.out.below (HB_w2.out.trans ((hk1).mono HB_w2.out.size)))).mono ?_
        rintro r wd ⟨yd, rfl, hb, hrd⟩
        have hk2 : Below w2.heap.size w2 wd := (hk1).trans (hb.mono (hk1).size)
        have hz2 : Bk wd wa.heap.size 69 #[.slice none 0 0, .int .i64 0, .int .i64 0, .slice none 0 0, .slice none 0 0, .int .i64 0] := (hz1).below hb
        have HA2 : Hid (IsM wd ya m) := HA1.out.below hb
        have HI2 : Hid (IsI wd (sl gi l.length) l) := HI1.out.below hb
        have HT2 : Hid (IsS wd yd s) := hrd.isS
        clear hb
        try go_simp
        refine hK.out _ _ (keepA (HP_w2.out.below hk2) (HQ_w2.out.below hk2) (HV_w2.out.below hk2)) (fun hHeld => ?_)
        clear hK K
        try simp only [Act.put, List.setIfInBounds_toArray, List.set_cons_zero, List.set_cons_succ]
        refine wpAnyH_ready (rs := [7]) (by kernel_rfl) (by simp) ?_
        refine AllReadyH.cons (o := { dst := some 43, op := Op.call { callee := Callee.value (Operand.func 13), args := #[Operand.tmp 42], argTypes := #[30] }, type := 40, pos := _, after := _, guard := none }) rfl (fun K hK => ?_) AllReadyH.nil
        go_simp
        refine (toEvent_any e.t e.s e.q e.d e.k e.v e.g _).mono ?_
        rintro r wf ⟨rfl, hb⟩
        have hk3 : Below w2.heap.size w2 wf := (hk2).trans (hb.mono (hk2).size)
        have hz3 : Bk wf wa.heap.size 69 #[.slice none 0 0, .int .i64 0, .int .i64 0, .slice none 0 0, .slice none 0 0, .int .i64 0] := (hz2).below hb
        have HA3 : Hid (IsM wf ya m) := HA2.out.below hb
        have HI3 : Hid (IsI wf (sl gi l.length) l) := HI2.out.below hb
        have HT3 : Hid (IsS wf yd s) := HT2.out.below hb
        clear hb
        try go_simp
        refine hK.out _ _ (keepA (HP_w2.out.below hk3) (HQ_w2.out.below hk3) (HV_w2.out.below hk3)) (fun hHeld => ?_)
        clear hK K
        try simp only [Act.put, List.setIfInBounds_toArray, List.set_cons_zero, List.set_cons_succ]
        refine wpAnyH_ready (rs := [8]) (by kernel_rfl) (by simp) ?_
        refine AllReadyH.cons (o := { dst := some 44, op := Op.call { callee := Callee.value (Operand.func 35), args := #[Operand.tmp 37, Operand.tmp 39, Operand.tmp 41, Operand.tmp 43], argTypes := #[55, 22, 32, 40] }, type := 70, pos := _, after := _, guard := none }) rfl (fun K hK => ?_) AllReadyH.nil
        go_simp
        have hcW : w2.heap.size ≤ wf.heap.size := (hk3).size
        have hPW : wa.heap.size < wf.heap.size := (hz3).lt
        refine (HSP.out _ _ _ _ HA3.out HI3.out HT3.out).mono ?_
        rintro r we ⟨ue, rfl, hb, hue⟩
        obtain ⟨fao, fco, gao, gco, hao, hco, rfl⟩ := hue.form
        have hk4 : Below w2.heap.size w2 we := (hk3).trans (hb.mono (hk3).size)
        have hz4 : Bk we wa.heap.size 69 #[.slice none 0 0, .int .i64 0, .int .i64 0, .slice none 0 0, .slice none 0 0, .int .i64 0] := (hz3).below hb
        have HU : Hid (EfF (fun k => wf.heap.size ≤ k ∧ k < we.heap.size) we (.agg #[.slice fao EF.st.r.length fco, .int .i64 EF.st.q, .int .i64 EF.st.d, .slice gao EF.s.length gco, .slice hao EF.x.length hco, .int .i64 EF.k]) EF) := hue
        clear hb
        try go_simp
        refine hK.out _ _ (keepA (HP_w2.out.below hk4) (HQ_w2.out.below hk4) (HV_w2.out.below hk4)) (fun hHeld => ?_)
        clear hK K
        try simp only [Act.put, List.setIfInBounds_toArray, List.set_cons_zero, List.set_cons_succ]
        refine wpAnyH_take (i := 9) (oi := { dst := some 35, op := Op.move (Operand.tmp 44), type := 70, pos := _, after := _, guard := none }) (v := .tuple #[.agg #[.slice fao EF.st.r.length fco, .int .i64 EF.st.q, .int .i64 EF.st.d, .slice gao EF.s.length gco, .slice hao EF.x.length hco, .int .i64 EF.k], .bool b]) rfl (by kernel_rfl) (by kernel_rfl) (by kernel_rfl) (fun _ _ _ h => h) (Or.inl ⟨by rfl, ?_⟩) (by assumption) ?_
        · intro wX hSw
          try dsimp only at hSw
          go_simp
        try simp only [Act.put, List.setIfInBounds_toArray, List.set_cons_zero, List.set_cons_succ]
        refine wpAnyH_take (i := 10) (oi := { dst := some 45, op := Op.extract (Operand.tmp 35) 0, type := 69, pos := _, after := _, guard := none }) (v := .agg #[.slice fao EF.st.r.length fco, .int .i64 EF.st.q, .int .i64 EF.st.d, .slice gao EF.s.length gco, .slice hao EF.x.length hco, .int .i64 EF.k]) rfl (by kernel_rfl) (by kernel_rfl) (by kernel_rfl) (fun _ _ _ h => h) (Or.inl ⟨by rfl, ?_⟩) (by assumption) ?_
        · intro wX hSw
          try dsimp only at hSw
          go_simp
        try simp only [Act.put, List.setIfInBounds_toArray, List.set_cons_zero, List.set_cons_succ]
        refine wpAnyH_take (i := 11) (oi := { dst := some 46, op := Op.extract (Operand.tmp 35) 1, type := 4, pos := _, after := _, guard := none }) (v := .bool b) rfl (by kernel_rfl) (by kernel_rfl) (by kernel_rfl) (fun _ _ _ h => h) (Or.inl ⟨by rfl, ?_⟩) (by assumption) ?_
        · intro wX hSw
          try dsimp only at hSw
          go_simp
        try simp only [Act.put, List.setIfInBounds_toArray, List.set_cons_zero, List.set_cons_succ]
        have zc0 := hz4.cell (i := 0) rfl
        have zc1 := hz4.cell (i := 1) rfl
        have zc2 := hz4.cell (i := 2) rfl
        have zc3 := hz4.cell (i := 3) rfl
        have zc4 := hz4.cell (i := 4) rfl
        have zc5 := hz4.cell (i := 5) rfl
        have zf := hz4.free
        have hPlo : w2.heap.size ≤ wa.heap.size := (hk0).size
        have hpt := put6_turns we (wa.heap.size) (.slice fao EF.st.r.length fco) (.int .i64 EF.st.q) (.int .i64 EF.st.d) (.slice gao EF.s.length gco) (.slice hao EF.x.length hco) (.int .i64 EF.k)
        have T3 : Below w2.heap.size w2 (put6 we (wa.heap.size) (.slice fao EF.st.r.length fco) (.int .i64 EF.st.q) (.int .i64 EF.st.d) (.slice gao EF.s.length gco) (.slice hao EF.x.length hco) (.int .i64 EF.k)) := hk4.trans (hpt.to_below (fun k e => by rw [show k = wa.heap.size from e]; exact hPlo) hk4.size)
        refine wpAnyH_ready (rs := [13]) (by kernel_rfl) (by simp) ?_
        refine AllReadyH.cons (o := { dst := none, op := Op.store 69 (Operand.tmp 10) (Operand.tmp 45), type := 0, pos := _, after := _, guard := none }) rfl (fun K hK => ?_) AllReadyH.nil
        go_simp
        refine hK.out _ _ (keepA (HP_w2.out.below T3) (HQ_w2.out.below T3) (HV_w2.out.below T3)) (fun hHeld => ?_)
        clear hK K
        try simp only [Act.put, List.setIfInBounds_toArray, List.set_cons_zero, List.set_cons_succ]
        refine wpAnyH_take (i := 14) (oi := { dst := some 11, op := Op.assign (Operand.tmp 46), type := 4, pos := _, after := _, guard := none }) (v := .bool b) rfl (by kernel_rfl) (by kernel_rfl) (by kernel_rfl) (fun _ _ _ h => h) (Or.inl ⟨by rfl, ?_⟩) (by assumption) ?_
        · intro wX hSw
          try dsimp only at hSw
          go_simp
        try simp only [Act.put, List.setIfInBounds_toArray, List.set_cons_zero, List.set_cons_succ]
        refine wpAnyH_done (by kernel_rfl) ?_ _
        go_wp2
        go_meet
        case rel =>
          exact ⟨_, fao, fco, gao, gco, hao, hco, rfl, rfl, T3, ⟨hPlo, (hz4.put6 (.slice fao EF.st.r.length fco) (.int .i64 EF.st.q) (.int .i64 EF.st.d) (.slice gao EF.s.length gco) (.slice hao EF.x.length hco) (.int .i64 EF.k)).lt⟩, hz4.put6 (.slice fao EF.st.r.length fco) (.int .i64 EF.st.q) (.int .i64 EF.st.d) (.slice gao EF.s.length gco) (.slice hao EF.x.length hco) (.int .i64 EF.k), (HU.out.turns hpt (fun k e1 e2 => by have e3 : k = wa.heap.size := e2; omega)).mono (fun k e => ⟨⟨by omega, Nat.lt_of_lt_of_le e.2 hpt.size⟩, by omega⟩)⟩
    · go_simp
      refine hK.out _ _ (keepA (HP_w2.out.below (((Below.refl w2.heap.size w2).drew).alloc ((Below.refl w2.heap.size w2).drew).size (.cells #[.slice none 0 0, .int .i64 0, .int .i64 0, .slice none 0 0, .slice none 0 0, .int .i64 0] 69))) (HQ_w2.out.below (((Below.refl w2.heap.size w2).drew).alloc ((Below.refl w2.heap.size w2).drew).size (.cells #[.slice none 0 0, .int .i64 0, .int .i64 0, .slice none 0 0, .slice none 0 0, .int .i64 0] 69))) (HV_w2.out.below (((Below.refl w2.heap.size w2).drew).alloc ((Below.refl w2.heap.size w2).drew).size (.cells #[.slice none 0 0, .int .i64 0, .int .i64 0, .slice none 0 0, .slice none 0 0, .int .i64 0] 69)))) (fun hHeld => ?_)
      clear hK K
      try simp only [Act.put, List.setIfInBounds_toArray, List.set_cons_zero, List.set_cons_succ]
      refine wpAnyH_ready (rs := [1]) (by kernel_rfl) (by simp) ?_
      refine AllReadyH.cons (o := { dst := some 37, op := Op.call { callee := Callee.value (Operand.func 25), args := #[Operand.tmp 36], argTypes := #[49] }, type := 55, pos := _, after := _, guard := none }) rfl (fun K hK => ?_) AllReadyH.nil
      go_simp
      refine (toModel_any _ m _ HSM.out (HX.out.below (HB_w2.out.trans (((((Below.refl w2.heap.size w2).drew).alloc ((Below.refl w2.heap.size w2).drew).size (.cells #[.slice none 0 0, .int .i64 0, .int .i64 0, .slice none 0 0, .slice none 0 0, .int .i64 0] 69))).mono HB_w2.out.size)))).mono ?_
      rintro r wa ⟨ya, rfl, hb, hra⟩
      have hk0 : Below w2.heap.size w2 wa := ((((Below.refl w2.heap.size w2).drew).alloc ((Below.refl w2.heap.size w2).drew).size (.cells #[.slice none 0 0, .int .i64 0, .int .i64 0, .slice none 0 0, .slice none 0 0, .int .i64 0] 69))).trans (hb.mono ((((Below.refl w2.heap.size w2).drew).alloc ((Below.refl w2.heap.size w2).drew).size (.cells #[.slice none 0 0, .int .i64 0, .int .i64 0, .slice none 0 0, .slice none 0 0, .int .i64 0] 69))).size)
      have hz0 : Bk wa w2.heap.size 69 #[.slice none 0 0, .int .i64 0, .int .i64 0, .slice none 0 0, .slice none 0 0, .int .i64 0] := ((Bk.new w2.drew 69 #[.slice none 0 0, .int .i64 0, .int .i64 0, .slice none 0 0, .slice none 0 0, .int .i64 0] : Bk (w2.drew.alloc (.cells #[.slice none 0 0, .int .i64 0, .int .i64 0, .slice none 0 0, .slice none 0 0, .int .i64 0] 69)) w2.heap.size 69 #[.slice none 0 0, .int .i64 0, .int .i64 0, .slice none 0 0, .slice none 0 0, .int .i64 0])).below hb
      have HA0 : Hid (IsM wa ya m) := hra.isM
      clear hb
      try go_simp
      refine hK.out _ _ (keepA (HP_w2.out.below hk0) (HQ_w2.out.below hk0) (HV_w2.out.below hk0)) (fun hHeld => ?_)
      clear hK K
      try simp only [Act.put, List.setIfInBounds_toArray, List.set_cons_zero, List.set_cons_succ]
      refine wpAnyH_ready (rs := [3]) (by kernel_rfl) (by simp) ?_
      refine AllReadyH.cons (o := { dst := some 39, op := Op.call { callee := Callee.value (Operand.func 30), args := #[Operand.tmp 38], argTypes := #[22] }, type := 22, pos := _, after := _, guard := none }) rfl (fun K hK => ?_) AllReadyH.nil
      go_simp
      refine (toI_any _ l _ HL.out (HD.out.below (HB_w2.out.trans ((hk0).mono HB_w2.out.size)))).mono ?_
      rintro r wb ⟨hrr, hb, hrb⟩
      generalize wa.heap.size = gi at hrr hrb
      subst hrr
      have hk1 : Below w2.heap.size w2 wb := (hk0).trans (hb.mono (hk0).size)
      have hz1 : Bk wb w2.heap.size 69 #[.slice none 0 0, .int .i64 0, .int .i64 0, .slice none 0 0, .slice none 0 0, .int .i64 0] := (hz0).below hb
      have HA1 : Hid (IsM wb ya m) := HA0.out.below hb
      have HI1 : Hid (IsI wb (sl gi l.length) l) := hrb.isI (by have := HL.out; unfold maxLen; omega)
      clear hb
      try go_simp
      refine hK.out _ _ (keepA (HP_w2.out.below hk1) (HQ_w2.out.below hk1) (HV_w2.out.below hk1)) (fun hHeld => ?_)
      clear hK K
      try simp only [Act.put, List.setIfInBounds_toArray, List.set_cons_zero, List.set_cons_succ]
      refine wpAnyH_ready (rs := [5]) (by kernel_rfl) (by simp) ?_
      refine AllReadyH.cons (o := { dst := some 41, op := Op.call { callee := Callee.value (Operand.func 36), args := #[Operand.tmp 40], argTypes := #[24] }, type := 32, pos := _, after := _, guard := none }) rfl (fun K hK => ?_) AllReadyH.nil
      go_simp
      refine (toState_any _ s _ HSL.out (HY.out.below (HB_w2.out.trans ((hk1).mono HB_w2.out.size)))).mono ?_
      rintro r wd ⟨yd, rfl, hb, hrd⟩
      have hk2 : Below w2.heap.size w2 wd := (hk1).trans (hb.mono (hk1).size)
      have hz2 : Bk wd w2.heap.size 69 #[.slice none 0 0, .int .i64 0, .int .i64 0, .slice none 0 0, .slice none 0 0, .int .i64 0] := (hz1).below hb
      have HA2 : Hid (IsM wd ya m) := HA1.out.below hb
      have HI2 : Hid (IsI wd (sl gi l.length) l) := HI1.out.below hb
      have HT2 : Hid (IsS wd yd s) := hrd.isS
      clear hb
      try go_simp
      refine hK.out _ _ (keepA (HP_w2.out.below hk2) (HQ_w2.out.below hk2) (HV_w2.out.below hk2)) (fun hHeld => ?_)
      clear hK K
      try simp only [Act.put, List.setIfInBounds_toArray, List.set_cons_zero, List.set_cons_succ]
      refine wpAnyH_ready (rs := [7]) (by kernel_rfl) (by simp) ?_
      refine AllReadyH.cons (o := { dst := some 43, op := Op.call { callee := Callee.value (Operand.func 13), args := #[Operand.tmp 42], argTypes := #[30] }, type := 40, pos := _, after := _, guard := none }) rfl (fun K hK => ?_) AllReadyH.nil
      go_simp
      refine (toEvent_any e.t e.s e.q e.d e.k e.v e.g _).mono ?_
      rintro r wf ⟨rfl, hb⟩
      have hk3 : Below w2.heap.size w2 wf := (hk2).trans (hb.mono (hk2).size)
      have hz3 : Bk wf w2.heap.size 69 #[.slice none 0 0, .int .i64 0, .int .i64 0, .slice none 0 0, .slice none 0 0, .int .i64 0] := (hz2).below hb
      have HA3 : Hid (IsM wf ya m) := HA2.out.below hb
      have HI3 : Hid (IsI wf (sl gi l.length) l) := HI2.out.below hb
      have HT3 : Hid (IsS wf yd s) := HT2.out.below hb
      clear hb
      try go_simp
      refine hK.out _ _ (keepA (HP_w2.out.below hk3) (HQ_w2.out.below hk3) (HV_w2.out.below hk3)) (fun hHeld => ?_)
      clear hK K
      try simp only [Act.put, List.setIfInBounds_toArray, List.set_cons_zero, List.set_cons_succ]
      refine wpAnyH_ready (rs := [8]) (by kernel_rfl) (by simp) ?_
      refine AllReadyH.cons (o := { dst := some 44, op := Op.call { callee := Callee.value (Operand.func 35), args := #[Operand.tmp 37, Operand.tmp 39, Operand.tmp 41, Operand.tmp 43], argTypes := #[55, 22, 32, 40] }, type := 70, pos := _, after := _, guard := none }) rfl (fun K hK => ?_) AllReadyH.nil
      go_simp
      have hcW : w2.heap.size ≤ wf.heap.size := (hk3).size
      have hPW : w2.heap.size < wf.heap.size := (hz3).lt
      refine (HSP.out _ _ _ _ HA3.out HI3.out HT3.out).mono ?_
      rintro r we ⟨ue, rfl, hb, hue⟩
      obtain ⟨fao, fco, gao, gco, hao, hco, rfl⟩ := hue.form
      have hk4 : Below w2.heap.size w2 we := (hk3).trans (hb.mono (hk3).size)
      have hz4 : Bk we w2.heap.size 69 #[.slice none 0 0, .int .i64 0, .int .i64 0, .slice none 0 0, .slice none 0 0, .int .i64 0] := (hz3).below hb
      have HU : Hid (EfF (fun k => wf.heap.size ≤ k ∧ k < we.heap.size) we (.agg #[.slice fao EF.st.r.length fco, .int .i64 EF.st.q, .int .i64 EF.st.d, .slice gao EF.s.length gco, .slice hao EF.x.length hco, .int .i64 EF.k]) EF) := hue
      clear hb
      try go_simp
      refine hK.out _ _ (keepA (HP_w2.out.below hk4) (HQ_w2.out.below hk4) (HV_w2.out.below hk4)) (fun hHeld => ?_)
      clear hK K
      try simp only [Act.put, List.setIfInBounds_toArray, List.set_cons_zero, List.set_cons_succ]
      refine wpAnyH_take (i := 9) (oi := { dst := some 35, op := Op.move (Operand.tmp 44), type := 70, pos := _, after := _, guard := none }) (v := .tuple #[.agg #[.slice fao EF.st.r.length fco, .int .i64 EF.st.q, .int .i64 EF.st.d, .slice gao EF.s.length gco, .slice hao EF.x.length hco, .int .i64 EF.k], .bool b]) rfl (by kernel_rfl) (by kernel_rfl) (by kernel_rfl) (fun _ _ _ h => h) (Or.inl ⟨by rfl, ?_⟩) (by assumption) ?_
      · intro wX hSw
        try dsimp only at hSw
        go_simp
      try simp only [Act.put, List.setIfInBounds_toArray, List.set_cons_zero, List.set_cons_succ]
      refine wpAnyH_take (i := 10) (oi := { dst := some 45, op := Op.extract (Operand.tmp 35) 0, type := 69, pos := _, after := _, guard := none }) (v := .agg #[.slice fao EF.st.r.length fco, .int .i64 EF.st.q, .int .i64 EF.st.d, .slice gao EF.s.length gco, .slice hao EF.x.length hco, .int .i64 EF.k]) rfl (by kernel_rfl) (by kernel_rfl) (by kernel_rfl) (fun _ _ _ h => h) (Or.inl ⟨by rfl, ?_⟩) (by assumption) ?_
      · intro wX hSw
        try dsimp only at hSw
        go_simp
      try simp only [Act.put, List.setIfInBounds_toArray, List.set_cons_zero, List.set_cons_succ]
      refine wpAnyH_take (i := 11) (oi := { dst := some 46, op := Op.extract (Operand.tmp 35) 1, type := 4, pos := _, after := _, guard := none }) (v := .bool b) rfl (by kernel_rfl) (by kernel_rfl) (by kernel_rfl) (fun _ _ _ h => h) (Or.inl ⟨by rfl, ?_⟩) (by assumption) ?_
      · intro wX hSw
        try dsimp only at hSw
        go_simp
      try simp only [Act.put, List.setIfInBounds_toArray, List.set_cons_zero, List.set_cons_succ]
      have zc0 := hz4.cell (i := 0) rfl
      have zc1 := hz4.cell (i := 1) rfl
      have zc2 := hz4.cell (i := 2) rfl
      have zc3 := hz4.cell (i := 3) rfl
      have zc4 := hz4.cell (i := 4) rfl
      have zc5 := hz4.cell (i := 5) rfl
      have zf := hz4.free
      have hPlo : w2.heap.size ≤ w2.heap.size := ((Below.refl w2.heap.size w2)).size
      have hpt := put6_turns we (w2.heap.size) (.slice fao EF.st.r.length fco) (.int .i64 EF.st.q) (.int .i64 EF.st.d) (.slice gao EF.s.length gco) (.slice hao EF.x.length hco) (.int .i64 EF.k)
      have T3 : Below w2.heap.size w2 (put6 we (w2.heap.size) (.slice fao EF.st.r.length fco) (.int .i64 EF.st.q) (.int .i64 EF.st.d) (.slice gao EF.s.length gco) (.slice hao EF.x.length hco) (.int .i64 EF.k)) := hk4.trans (hpt.to_below (fun k e => by rw [show k = w2.heap.size from e]; exact hPlo) hk4.size)
      refine wpAnyH_ready (rs := [13]) (by kernel_rfl) (by simp) ?_
      refine AllReadyH.cons (o := { dst := none, op := Op.store 69 (Operand.tmp 10) (Operand.tmp 45), type := 0, pos := _, after := _, guard := none }) rfl (fun K hK => ?_) AllReadyH.nil
      go_simp
      refine hK.out _ _ (keepA (HP_w2.out.below T3) (HQ_w2.out.below T3) (HV_w2.out.below T3)) (fun hHeld => ?_)
      clear hK K
      try simp only [Act.put, List.setIfInBounds_toArray, List.set_cons_zero, List.set_cons_succ]
      refine wpAnyH_take (i := 14) (oi := { dst := some 11, op := Op.assign (Operand.tmp 46), type := 4, pos := _, after := _, guard := none }) (v := .bool b) rfl (by kernel_rfl) (by kernel_rfl) (by kernel_rfl) (fun _ _ _ h => h) (Or.inl ⟨by rfl, ?_⟩) (by assumption) ?_
      · intro wX hSw
        try dsimp only at hSw
        go_simp
      try simp only [Act.put, List.setIfInBounds_toArray, List.set_cons_zero, List.set_cons_succ]
      refine wpAnyH_done (by kernel_rfl) ?_ _
      go_wp2
      go_meet
      case rel =>
        exact ⟨_, fao, fco, gao, gco, hao, hco, rfl, rfl, T3, ⟨hPlo, (hz4.put6 (.slice fao EF.st.r.length fco) (.int .i64 EF.st.q) (.int .i64 EF.st.d) (.slice gao EF.s.length gco) (.slice hao EF.x.length hco) (.int .i64 EF.k)).lt⟩, hz4.put6 (.slice fao EF.st.r.length fco) (.int .i64 EF.st.q) (.int .i64 EF.st.d) (.slice gao EF.s.length gco) (.slice hao EF.x.length hco) (.int .i64 EF.k), (HU.out.turns hpt (fun k e1 e2 => by have e3 : k = w2.heap.size := e2; omega)).mono (fun k e => ⟨⟨by omega, Nat.lt_of_lt_of_le e.2 hpt.size⟩, by omega⟩)⟩
  case rest =>
    rename World => w3
    obtain ⟨PPo, fao, fco, gao, gco, hao, hco, rfl, rfl, hb, ⟨hPlo, hPho⟩, hBk, hAn⟩ := hcut
    have z_w3 : w2.heap.size ≤ w3.heap.size := hb.size
    have HB_w3 : Hid (Below w.heap.size w w3) := HB_w2.out.trans (hb.mono HB_w2.out.size)
    have HP_w3 : Hid (Bk w3 w.heap.size 49 #[.int .i64 m.n, .int .i64 m.s, vi0, vh0, vs0, .int .i64 m.z]) := HP_w2.out.below hb
    have HQ_w3 : Hid (Bk w3 (w.heap.size + 1) 24 #[vr2, .int .i64 s.q, .int .i64 s.d]) := HQ_w2.out.below hb
    have HV_w3 : Hid (Bk w3 (w.heap.size + 1 + 1) 30 #[.int .i64 e.t, .int .i64 e.s, .int .i64 e.q, .int .i64 e.d, .int .i64 e.k, .int .i64 e.v, .int .i64 e.g]) := HV_w2.out.below hb
    clear HB_w2 HP_w2 HQ_w2 HV_w2
    have HSb_w3 : Hid (Bk w3 PPo 69 #[.slice fao EF.st.r.length fco, .int .i64 EF.st.q, .int .i64 EF.st.d, .slice gao EF.s.length gco, .slice hao EF.x.length hco, .int .i64 EF.k]) := hBk
    have HS_w3 : Hid (EfF (fun k => (w2.heap.size ≤ k ∧ k < w3.heap.size) ∧ k ≠ PPo) w3 (.agg #[.slice fao EF.st.r.length fco, .int .i64 EF.st.q, .int .i64 EF.st.d, .slice gao EF.s.length gco, .slice hao EF.x.length hco, .int .i64 EF.k]) EF) := hAn
    clear hb hBk hAn
    clear HSP
    have p0 := HP_w3.out.cell (i := 0) rfl
    have p1 := HP_w3.out.cell (i := 1) rfl
    have p2 := HP_w3.out.cell (i := 2) rfl
    have p3 := HP_w3.out.cell (i := 3) rfl
    have p4 := HP_w3.out.cell (i := 4) rfl
    have p5 := HP_w3.out.cell (i := 5) rfl
    go_wp2_with fail
    clear p0 p1 p2 p3 p4 p5
    refine (toModel_any _ m _ HSM.out (HX.out.below HB_w3.out)).mono ?_
    rintro r w4 ⟨y1, rfl, hb, hr⟩
    have z_w4 : w3.heap.size ≤ w4.heap.size := hb.size
    have HB_w4 : Hid (Below w.heap.size w w4) := HB_w3.out.trans (hb.mono HB_w3.out.size)
    have HP_w4 : Hid (Bk w4 w.heap.size 49 #[.int .i64 m.n, .int .i64 m.s, vi0, vh0, vs0, .int .i64 m.z]) := HP_w3.out.below hb
    have HQ_w4 : Hid (Bk w4 (w.heap.size + 1) 24 #[vr2, .int .i64 s.q, .int .i64 s.d]) := HQ_w3.out.below hb
    have HV_w4 : Hid (Bk w4 (w.heap.size + 1 + 1) 30 #[.int .i64 e.t, .int .i64 e.s, .int .i64 e.q, .int .i64 e.d, .int .i64 e.k, .int .i64 e.v, .int .i64 e.g]) := HV_w3.out.below hb
    have HSb_w4 : Hid (Bk w4 PPo 69 #[.slice fao EF.st.r.length fco, .int .i64 EF.st.q, .int .i64 EF.st.d, .slice gao EF.s.length gco, .slice hao EF.x.length hco, .int .i64 EF.k]) := HSb_w3.out.below hb
    have HS_w4 : Hid (EfF (fun k => (w2.heap.size ≤ k ∧ k < w3.heap.size) ∧ k ≠ PPo) w4 (.agg #[.slice fao EF.st.r.length fco, .int .i64 EF.st.q, .int .i64 EF.st.d, .slice gao EF.s.length gco, .slice hao EF.x.length hco, .int .i64 EF.k]) EF) := HS_w3.out.below hb
    clear HB_w3 HP_w3 HQ_w3 HV_w3 HSb_w3 HS_w3
    have HR_w4 : Hid (MdF (fun k => w3.heap.size ≤ k ∧ k < w4.heap.size) w4 y1 m) := hr
    clear hb hr
    obtain ⟨aui, cui, auh, cuh, aue, cue, rfl⟩ := HR_w4.out.form
    obtain ⟨Vw4, hVw4⟩ : ∃ V, w4.alloc (.cells #[.int .i64 m.n, .int .i64 m.s, .slice aui m.i.length cui, .slice auh m.h.length cuh, .slice aue m.e.length cue, .int .i64 m.z] 55) = V := ⟨_, rfl⟩
    have BHX0 : Bk Vw4 w4.heap.size 55 #[.int .i64 m.n, .int .i64 m.s, .slice aui m.i.length cui, .slice auh m.h.length cuh, .slice aue m.e.length cue, .int .i64 m.z] := by rw [← hVw4]; exact Bk.new _ _ _
    have hb : Below w4.heap.size w4 Vw4 := by rw [← hVw4]; exact (Below.refl _ _).alloc (Nat.le_refl _) _
    have y_Vw4 : w4.heap.size < Vw4.heap.size := BHX0.lt
    have z_Vw4 : w4.heap.size ≤ Vw4.heap.size := hb.size
    have HB_Vw4 : Hid (Below w.heap.size w Vw4) := HB_w4.out.trans (hb.mono HB_w4.out.size)
    have HP_Vw4 : Hid (Bk Vw4 w.heap.size 49 #[.int .i64 m.n, .int .i64 m.s, vi0, vh0, vs0, .int .i64 m.z]) := HP_w4.out.below hb
    have HQ_Vw4 : Hid (Bk Vw4 (w.heap.size + 1) 24 #[vr2, .int .i64 s.q, .int .i64 s.d]) := HQ_w4.out.below hb
    have HV_Vw4 : Hid (Bk Vw4 (w.heap.size + 1 + 1) 30 #[.int .i64 e.t, .int .i64 e.s, .int .i64 e.q, .int .i64 e.d, .int .i64 e.k, .int .i64 e.v, .int .i64 e.g]) := HV_w4.out.below hb
    have HSb_Vw4 : Hid (Bk Vw4 PPo 69 #[.slice fao EF.st.r.length fco, .int .i64 EF.st.q, .int .i64 EF.st.d, .slice gao EF.s.length gco, .slice hao EF.x.length hco, .int .i64 EF.k]) := HSb_w4.out.below hb
    have HS_Vw4 : Hid (EfF (fun k => (w2.heap.size ≤ k ∧ k < w3.heap.size) ∧ k ≠ PPo) Vw4 (.agg #[.slice fao EF.st.r.length fco, .int .i64 EF.st.q, .int .i64 EF.st.d, .slice gao EF.s.length gco, .slice hao EF.x.length hco, .int .i64 EF.k]) EF) := HS_w4.out.below hb
    have HR_Vw4 : Hid (MdF (fun k => w3.heap.size ≤ k ∧ k < w4.heap.size) Vw4 (.agg #[.int .i64 m.n, .int .i64 m.s, .slice aui m.i.length cui, .slice auh m.h.length cuh, .slice aue m.e.length cue, .int .i64 m.z]) m) := HR_w4.out.below hb
    clear HB_w4 HP_w4 HQ_w4 HV_w4 HSb_w4 HS_w4 HR_w4
    clear hb
    have HX0_Vw4 : Hid (Bk Vw4 w4.heap.size 55 #[.int .i64 m.n, .int .i64 m.s, .slice aui m.i.length cui, .slice auh m.h.length cuh, .slice aue m.e.length cue, .int .i64 m.z]) := BHX0
    clear BHX0
    go_wp2_with fail
    clear hVw4
    refine (toI_any _ l _ HL.out (HD.out.below HB_Vw4.out)).mono ?_
    rintro r w5 ⟨rfl, hb, hr⟩
    have yy_w5 : Vw4.heap.size < w5.heap.size := hr.1
    have z_w5 : Vw4.heap.size ≤ w5.heap.size := hb.size
    have HB_w5 : Hid (Below w.heap.size w w5) := HB_Vw4.out.trans (hb.mono HB_Vw4.out.size)
    have HP_w5 : Hid (Bk w5 w.heap.size 49 #[.int .i64 m.n, .int .i64 m.s, vi0, vh0, vs0, .int .i64 m.z]) := HP_Vw4.out.below hb
    have HQ_w5 : Hid (Bk w5 (w.heap.size + 1) 24 #[vr2, .int .i64 s.q, .int .i64 s.d]) := HQ_Vw4.out.below hb
    have HV_w5 : Hid (Bk w5 (w.heap.size + 1 + 1) 30 #[.int .i64 e.t, .int .i64 e.s, .int .i64 e.q, .int .i64 e.d, .int .i64 e.k, .int .i64 e.v, .int .i64 e.g]) := HV_Vw4.out.below hb
    have HSb_w5 : Hid (Bk w5 PPo 69 #[.slice fao EF.st.r.length fco, .int .i64 EF.st.q, .int .i64 EF.st.d, .slice gao EF.s.length gco, .slice hao EF.x.length hco, .int .i64 EF.k]) := HSb_Vw4.out.below hb
    have HS_w5 : Hid (EfF (fun k => (w2.heap.size ≤ k ∧ k < w3.heap.size) ∧ k ≠ PPo) w5 (.agg #[.slice fao EF.st.r.length fco, .int .i64 EF.st.q, .int .i64 EF.st.d, .slice gao EF.s.length gco, .slice hao EF.x.length hco, .int .i64 EF.k]) EF) := HS_Vw4.out.below hb
    have HR_w5 : Hid (MdF (fun k => w3.heap.size ≤ k ∧ k < w4.heap.size) w5 (.agg #[.int .i64 m.n, .int .i64 m.s, .slice aui m.i.length cui, .slice auh m.h.length cuh, .slice aue m.e.length cue, .int .i64 m.z]) m) := HR_Vw4.out.below hb
    have HX0_w5 : Hid (Bk w5 w4.heap.size 55 #[.int .i64 m.n, .int .i64 m.s, .slice aui m.i.length cui, .slice auh m.h.length cuh, .slice aue m.e.length cue, .int .i64 m.z]) := HX0_Vw4.out.below hb
    clear HB_Vw4 HP_Vw4 HQ_Vw4 HV_Vw4 HSb_Vw4 HS_Vw4 HR_Vw4 HX0_Vw4
    have HJ_w5 : Hid (RowF (fun k => k = Vw4.heap.size) w5 (sl Vw4.heap.size l.length) l.length 1 (intCells l)) := hr.rowF (by have := HL.out; unfold maxLen; omega)
    clear hb hr
    have q0 := HQ_w5.out.cell (i := 0) rfl
    have q1 := HQ_w5.out.cell (i := 1) rfl
    have q2 := HQ_w5.out.cell (i := 2) rfl
    go_wp2_with fail
    clear q0 q1 q2
    refine (toState_any _ s _ HSL.out (HY.out.below HB_w5.out)).mono ?_
    rintro r w6 ⟨y2, rfl, hb, hr⟩
    have z_w6 : w5.heap.size ≤ w6.heap.size := hb.size
    have HB_w6 : Hid (Below w.heap.size w w6) := HB_w5.out.trans (hb.mono HB_w5.out.size)
    have HP_w6 : Hid (Bk w6 w.heap.size 49 #[.int .i64 m.n, .int .i64 m.s, vi0, vh0, vs0, .int .i64 m.z]) := HP_w5.out.below hb
    have HQ_w6 : Hid (Bk w6 (w.heap.size + 1) 24 #[vr2, .int .i64 s.q, .int .i64 s.d]) := HQ_w5.out.below hb
    have HV_w6 : Hid (Bk w6 (w.heap.size + 1 + 1) 30 #[.int .i64 e.t, .int .i64 e.s, .int .i64 e.q, .int .i64 e.d, .int .i64 e.k, .int .i64 e.v, .int .i64 e.g]) := HV_w5.out.below hb
    have HSb_w6 : Hid (Bk w6 PPo 69 #[.slice fao EF.st.r.length fco, .int .i64 EF.st.q, .int .i64 EF.st.d, .slice gao EF.s.length gco, .slice hao EF.x.length hco, .int .i64 EF.k]) := HSb_w5.out.below hb
    have HS_w6 : Hid (EfF (fun k => (w2.heap.size ≤ k ∧ k < w3.heap.size) ∧ k ≠ PPo) w6 (.agg #[.slice fao EF.st.r.length fco, .int .i64 EF.st.q, .int .i64 EF.st.d, .slice gao EF.s.length gco, .slice hao EF.x.length hco, .int .i64 EF.k]) EF) := HS_w5.out.below hb
    have HR_w6 : Hid (MdF (fun k => w3.heap.size ≤ k ∧ k < w4.heap.size) w6 (.agg #[.int .i64 m.n, .int .i64 m.s, .slice aui m.i.length cui, .slice auh m.h.length cuh, .slice aue m.e.length cue, .int .i64 m.z]) m) := HR_w5.out.below hb
    have HX0_w6 : Hid (Bk w6 w4.heap.size 55 #[.int .i64 m.n, .int .i64 m.s, .slice aui m.i.length cui, .slice auh m.h.length cuh, .slice aue m.e.length cue, .int .i64 m.z]) := HX0_w5.out.below hb
    have HJ_w6 : Hid (RowF (fun k => k = Vw4.heap.size) w6 (sl Vw4.heap.size l.length) l.length 1 (intCells l)) := HJ_w5.out.below hb
    clear HB_w5 HP_w5 HQ_w5 HV_w5 HSb_w5 HS_w5 HR_w5 HX0_w5 HJ_w5
    have HT2_w6 : Hid (StF (fun k => w5.heap.size ≤ k ∧ k < w6.heap.size) w6 y2 s) := hr
    clear hb hr
    obtain ⟨an, cn, rfl⟩ := HT2_w6.out.form
    obtain ⟨Vw6, hVw6⟩ : ∃ V, w6.alloc (.cells #[.slice an s.r.length cn, .int .i64 s.q, .int .i64 s.d] 32) = V := ⟨_, rfl⟩
    have BHX2 : Bk Vw6 w6.heap.size 32 #[.slice an s.r.length cn, .int .i64 s.q, .int .i64 s.d] := by rw [← hVw6]; exact Bk.new _ _ _
    have hb : Below w6.heap.size w6 Vw6 := by rw [← hVw6]; exact (Below.refl _ _).alloc (Nat.le_refl _) _
    have y_Vw6 : w6.heap.size < Vw6.heap.size := BHX2.lt
    have z_Vw6 : w6.heap.size ≤ Vw6.heap.size := hb.size
    have HB_Vw6 : Hid (Below w.heap.size w Vw6) := HB_w6.out.trans (hb.mono HB_w6.out.size)
    have HP_Vw6 : Hid (Bk Vw6 w.heap.size 49 #[.int .i64 m.n, .int .i64 m.s, vi0, vh0, vs0, .int .i64 m.z]) := HP_w6.out.below hb
    have HQ_Vw6 : Hid (Bk Vw6 (w.heap.size + 1) 24 #[vr2, .int .i64 s.q, .int .i64 s.d]) := HQ_w6.out.below hb
    have HV_Vw6 : Hid (Bk Vw6 (w.heap.size + 1 + 1) 30 #[.int .i64 e.t, .int .i64 e.s, .int .i64 e.q, .int .i64 e.d, .int .i64 e.k, .int .i64 e.v, .int .i64 e.g]) := HV_w6.out.below hb
    have HSb_Vw6 : Hid (Bk Vw6 PPo 69 #[.slice fao EF.st.r.length fco, .int .i64 EF.st.q, .int .i64 EF.st.d, .slice gao EF.s.length gco, .slice hao EF.x.length hco, .int .i64 EF.k]) := HSb_w6.out.below hb
    have HS_Vw6 : Hid (EfF (fun k => (w2.heap.size ≤ k ∧ k < w3.heap.size) ∧ k ≠ PPo) Vw6 (.agg #[.slice fao EF.st.r.length fco, .int .i64 EF.st.q, .int .i64 EF.st.d, .slice gao EF.s.length gco, .slice hao EF.x.length hco, .int .i64 EF.k]) EF) := HS_w6.out.below hb
    have HR_Vw6 : Hid (MdF (fun k => w3.heap.size ≤ k ∧ k < w4.heap.size) Vw6 (.agg #[.int .i64 m.n, .int .i64 m.s, .slice aui m.i.length cui, .slice auh m.h.length cuh, .slice aue m.e.length cue, .int .i64 m.z]) m) := HR_w6.out.below hb
    have HX0_Vw6 : Hid (Bk Vw6 w4.heap.size 55 #[.int .i64 m.n, .int .i64 m.s, .slice aui m.i.length cui, .slice auh m.h.length cuh, .slice aue m.e.length cue, .int .i64 m.z]) := HX0_w6.out.below hb
    have HJ_Vw6 : Hid (RowF (fun k => k = Vw4.heap.size) Vw6 (sl Vw4.heap.size l.length) l.length 1 (intCells l)) := HJ_w6.out.below hb
    have HT2_Vw6 : Hid (StF (fun k => w5.heap.size ≤ k ∧ k < w6.heap.size) Vw6 (.agg #[.slice an s.r.length cn, .int .i64 s.q, .int .i64 s.d]) s) := HT2_w6.out.below hb
    clear HB_w6 HP_w6 HQ_w6 HV_w6 HSb_w6 HS_w6 HR_w6 HX0_w6 HJ_w6 HT2_w6
    clear hb
    have HX2_Vw6 : Hid (Bk Vw6 w6.heap.size 32 #[.slice an s.r.length cn, .int .i64 s.q, .int .i64 s.d]) := BHX2
    clear BHX2
    have r0 := HX0_Vw6.out.cell (i := 0) rfl
    have r1 := HX0_Vw6.out.cell (i := 1) rfl
    have r2 := HX0_Vw6.out.cell (i := 2) rfl
    have r3 := HX0_Vw6.out.cell (i := 3) rfl
    have r4 := HX0_Vw6.out.cell (i := 4) rfl
    have r5 := HX0_Vw6.out.cell (i := 5) rfl
    have q0 := HX2_Vw6.out.cell (i := 0) rfl
    have q1 := HX2_Vw6.out.cell (i := 1) rfl
    have q2 := HX2_Vw6.out.cell (i := 2) rfl
    have v0 := HV_Vw6.out.cell (i := 0) rfl
    have v1 := HV_Vw6.out.cell (i := 1) rfl
    have v2 := HV_Vw6.out.cell (i := 2) rfl
    have v3 := HV_Vw6.out.cell (i := 3) rfl
    have v4 := HV_Vw6.out.cell (i := 4) rfl
    have v5 := HV_Vw6.out.cell (i := 5) rfl
    have v6 := HV_Vw6.out.cell (i := 6) rfl
    go_wp2_with fail
    clear hVw6
    clear r0 r1 r2 r3 r4 r5
    clear q0 q1 q2
    clear v0 v1 v2 v3 v4 v5 v6
    go_cut [15, 16] from 22 (fun s15 s16 wc => ∃ PP fag fcg gag gcg hag hcg, s15 = .pointer (some ⟨PP, 0, none⟩) ∧ s16 = .bool b ∧ Below Vw6.heap.size Vw6 wc ∧ (Vw6.heap.size ≤ PP ∧ PP < wc.heap.size) ∧ Bk wc PP 69 #[.slice fag EF.st.r.length fcg, .int .i64 EF.st.q, .int .i64 EF.st.d, .slice gag EF.s.length gcg, .slice hag EF.x.length hcg, .int .i64 EF.k] ∧ EfF (fun k => (Vw6.heap.size ≤ k ∧ k < wc.heap.size) ∧ k ≠ PP) wc (.agg #[.slice fag EF.st.r.length fcg, .int .i64 EF.st.q, .int .i64 EF.st.d, .slice gag EF.s.length gcg, .slice hag EF.x.length hcg, .int .i64 EF.k]) EF)
    case first =>
      refine wp_region_held_drew (S := fun W => W.cell? ⟨w4.heap.size, 0, none⟩ = some (.int .i64 m.n) ∧ W.cell? ⟨w4.heap.size, 1, none⟩ = some (.int .i64 m.s) ∧ W.cell? ⟨w4.heap.size, 2, none⟩ = some (.slice aui m.i.length cui) ∧ W.cell? ⟨w4.heap.size, 3, none⟩ = some (.slice auh m.h.length cuh) ∧ W.cell? ⟨w4.heap.size, 4, none⟩ = some (.slice aue m.e.length cue) ∧ W.cell? ⟨w4.heap.size, 5, none⟩ = some (.int .i64 m.z) ∧ W.cell? ⟨w6.heap.size, 0, none⟩ = some (.slice an s.r.length cn) ∧ W.cell? ⟨w6.heap.size, 1, none⟩ = some (.int .i64 s.q) ∧ W.cell? ⟨w6.heap.size, 2, none⟩ = some (.int .i64 s.d) ∧ W.cell? ⟨w.heap.size + 1 + 1, 0, none⟩ = some (.int .i64 e.t) ∧ W.cell? ⟨w.heap.size + 1 + 1, 1, none⟩ = some (.int .i64 e.s) ∧ W.cell? ⟨w.heap.size + 1 + 1, 2, none⟩ = some (.int .i64 e.q) ∧ W.cell? ⟨w.heap.size + 1 + 1, 3, none⟩ = some (.int .i64 e.d) ∧ W.cell? ⟨w.heap.size + 1 + 1, 4, none⟩ = some (.int .i64 e.k) ∧ W.cell? ⟨w.heap.size + 1 + 1, 5, none⟩ = some (.int .i64 e.v) ∧ W.cell? ⟨w.heap.size + 1 + 1, 6, none⟩ = some (.int .i64 e.g)) (by kernel_rfl) (keepB (HX0_Vw6.out.below (Below.refl Vw6.heap.size Vw6).drew) (HX2_Vw6.out.below (Below.refl Vw6.heap.size Vw6).drew) (HV_Vw6.out.below (Below.refl Vw6.heap.size Vw6).drew)) (fun hHeld => ?_)
      refine wpAnyH_take (i := 0) (oi := { dst := some 54, op := Op.load 55 (Operand.tmp 12), type := 55, pos := _, after := _, guard := none }) (v := .agg #[.int .i64 m.n, .int .i64 m.s, .slice aui m.i.length cui, .slice auh m.h.length cuh, .slice aue m.e.length cue, .int .i64 m.z]) rfl (by kernel_rfl) (by kernel_rfl) (by kernel_rfl) (fun _ _ _ h => h) (Or.inl ⟨by rfl, ?_⟩) (by assumption) ?_
      · intro wX hSw
        try dsimp only at hSw
        go_simp
      try simp only [Act.put, List.setIfInBounds_toArray, List.set_cons_zero, List.set_cons_succ]
      refine wpAnyH_take (i := 1) (oi := { dst := some 55, op := Op.move (Operand.tmp 13), type := 22, pos := _, after := _, guard := none }) (v := sl Vw4.heap.size l.length) rfl (by kernel_rfl) (by kernel_rfl) (by kernel_rfl) (fun _ _ _ h => h) (Or.inl ⟨by rfl, ?_⟩) (by assumption) ?_
      · intro wX hSw
        try dsimp only at hSw
        go_simp
      try simp only [Act.put, List.setIfInBounds_toArray, List.set_cons_zero, List.set_cons_succ]
      refine wpAnyH_take (i := 2) (oi := { dst := some 56, op := Op.load 32 (Operand.tmp 14), type := 32, pos := _, after := _, guard := none }) (v := .agg #[.slice an s.r.length cn, .int .i64 s.q, .int .i64 s.d]) rfl (by kernel_rfl) (by kernel_rfl) (by kernel_rfl) (fun _ _ _ h => h) (Or.inl ⟨by rfl, ?_⟩) (by assumption) ?_
      · intro wX hSw
        try dsimp only at hSw
        go_simp
      try simp only [Act.put, List.setIfInBounds_toArray, List.set_cons_zero, List.set_cons_succ]
      refine wpAnyH_take (i := 3) (oi := { dst := some 57, op := Op.load 30 (Operand.tmp 7), type := 30, pos := _, after := _, guard := none }) (v := .agg #[.int .i64 e.t, .int .i64 e.s, .int .i64 e.q, .int .i64 e.d, .int .i64 e.k, .int .i64 e.v, .int .i64 e.g]) rfl (by kernel_rfl) (by kernel_rfl) (by kernel_rfl) (fun _ _ _ h => h) (Or.inl ⟨by rfl, ?_⟩) (by assumption) ?_
      · intro wX hSw
        try dsimp only at hSw
        go_simp
      try simp only [Act.put, List.setIfInBounds_toArray, List.set_cons_zero, List.set_cons_succ]
      refine wpAnyH_ready (rs := [4, 9]) (by kernel_rfl) (by simp) ?_
      refine AllReadyH.cons (o := { dst := some 58, op := Op.call { callee := Callee.value (Operand.func 13), args := #[Operand.tmp 57], argTypes := #[30] }, type := 40, pos := _, after := _, guard := none }) rfl (fun K hK => ?_) (AllReadyH.cons (o := { dst := some 15, op := Op.alloc 69, type := 0, pos := _, after := _, guard := none }) rfl (fun K hK => ?_) AllReadyH.nil)
      · go_simp
        refine (toEvent_any e.t e.s e.q e.d e.k e.v e.g _).mono ?_
        rintro r wf ⟨rfl, hb⟩
        have hk0 : Below Vw6.heap.size Vw6 wf := ((Below.refl Vw6.heap.size Vw6).drew).trans (hb.mono ((Below.refl Vw6.heap.size Vw6).drew).size)
        clear hb
        try go_simp
        refine hK.out _ _ (keepB (HX0_Vw6.out.below hk0) (HX2_Vw6.out.below hk0) (HV_Vw6.out.below hk0)) (fun hHeld => ?_)
        clear hK K
        try simp only [Act.put, List.setIfInBounds_toArray, List.set_cons_zero, List.set_cons_succ]
        refine wpAnyH_ready (rs := [5, 9]) (by kernel_rfl) (by simp) ?_
        refine AllReadyH.cons (o := { dst := some 59, op := Op.call { callee := Callee.value (Operand.func 37), args := #[Operand.tmp 54, Operand.tmp 55, Operand.tmp 56, Operand.tmp 58], argTypes := #[55, 22, 32, 40] }, type := 70, pos := _, after := _, guard := none }) rfl (fun K hK => ?_) (AllReadyH.cons (o := { dst := some 15, op := Op.alloc 69, type := 0, pos := _, after := _, guard := none }) rfl (fun K hK => ?_) AllReadyH.nil)
        · go_simp
          have hcW : Vw6.heap.size ≤ wf.heap.size := (hk0).size
          refine (HIM.out _ _ _ _ (HR_Vw6.out.isM.below hk0) (HJ_Vw6.out.isI.below hk0) (HT2_Vw6.out.isS.below hk0)).mono ?_
          rintro r we ⟨ue, rfl, hb, hue⟩
          obtain ⟨fag, fcg, gag, gcg, hag, hcg, rfl⟩ := hue.form
          have hk1 : Below Vw6.heap.size Vw6 we := (hk0).trans (hb.mono (hk0).size)
          have HU : Hid (EfF (fun k => wf.heap.size ≤ k ∧ k < we.heap.size) we (.agg #[.slice fag EF.st.r.length fcg, .int .i64 EF.st.q, .int .i64 EF.st.d, .slice gag EF.s.length gcg, .slice hag EF.x.length hcg, .int .i64 EF.k]) EF) := hue
          clear hb
          try go_simp
          refine hK.out _ _ (keepB (HX0_Vw6.out.below hk1) (HX2_Vw6.out.below hk1) (HV_Vw6.out.below hk1)) (fun hHeld => ?_)
          clear hK K
          try simp only [Act.put, List.setIfInBounds_toArray, List.set_cons_zero, List.set_cons_succ]
          refine wpAnyH_take (i := 6) (oi := { dst := some 53, op := Op.move (Operand.tmp 59), type := 70, pos := _, after := _, guard := none }) (v := .tuple #[.agg #[.slice fag EF.st.r.length fcg, .int .i64 EF.st.q, .int .i64 EF.st.d, .slice gag EF.s.length gcg, .slice hag EF.x.length hcg, .int .i64 EF.k], .bool b]) rfl (by kernel_rfl) (by kernel_rfl) (by kernel_rfl) (fun _ _ _ h => h) (Or.inl ⟨by rfl, ?_⟩) (by assumption) ?_
          · intro wX hSw
            try dsimp only at hSw
            go_simp
          try simp only [Act.put, List.setIfInBounds_toArray, List.set_cons_zero, List.set_cons_succ]
          refine wpAnyH_take (i := 7) (oi := { dst := some 60, op := Op.extract (Operand.tmp 53) 0, type := 69, pos := _, after := _, guard := none }) (v := .agg #[.slice fag EF.st.r.length fcg, .int .i64 EF.st.q, .int .i64 EF.st.d, .slice gag EF.s.length gcg, .slice hag EF.x.length hcg, .int .i64 EF.k]) rfl (by kernel_rfl) (by kernel_rfl) (by kernel_rfl) (fun _ _ _ h => h) (Or.inl ⟨by rfl, ?_⟩) (by assumption) ?_
          · intro wX hSw
            try dsimp only at hSw
            go_simp
          try simp only [Act.put, List.setIfInBounds_toArray, List.set_cons_zero, List.set_cons_succ]
          refine wpAnyH_take (i := 8) (oi := { dst := some 61, op := Op.extract (Operand.tmp 53) 1, type := 4, pos := _, after := _, guard := none }) (v := .bool b) rfl (by kernel_rfl) (by kernel_rfl) (by kernel_rfl) (fun _ _ _ h => h) (Or.inl ⟨by rfl, ?_⟩) (by assumption) ?_
          · intro wX hSw
            try dsimp only at hSw
            go_simp
          try simp only [Act.put, List.setIfInBounds_toArray, List.set_cons_zero, List.set_cons_succ]
          refine wpAnyH_ready (rs := [9]) (by kernel_rfl) (by simp) ?_
          refine AllReadyH.cons (o := { dst := some 15, op := Op.alloc 69, type := 0, pos := _, after := _, guard := none }) rfl (fun K hK => ?_) AllReadyH.nil
          go_simp
          refine hK.out _ _ (keepB (HX0_Vw6.out.below ((hk1).alloc (hk1).size (.cells #[.slice none 0 0, .int .i64 0, .int .i64 0, .slice none 0 0, .slice none 0 0, .int .i64 0] 69))) (HX2_Vw6.out.below ((hk1).alloc (hk1).size (.cells #[.slice none 0 0, .int .i64 0, .int .i64 0, .slice none 0 0, .slice none 0 0, .int .i64 0] 69))) (HV_Vw6.out.below ((hk1).alloc (hk1).size (.cells #[.slice none 0 0, .int .i64 0, .int .i64 0, .slice none 0 0, .slice none 0 0, .int .i64 0] 69)))) (fun hHeld => ?_)
          clear hK K
          try simp only [Act.put, List.setIfInBounds_toArray, List.set_cons_zero, List.set_cons_succ]
          refine wpAnyH_ready (rs := [10]) (by kernel_rfl) (by simp) ?_
          refine AllReadyH.cons (o := { dst := none, op := Op.store 69 (Operand.tmp 15) (Operand.tmp 60), type := 0, pos := _, after := _, guard := none }) rfl (fun K hK => ?_) AllReadyH.nil
          go_simp
          refine hK.out _ _ (keepB (HX0_Vw6.out.below (hk1.alloc hk1.size (.cells #[.slice fag EF.st.r.length fcg, .int .i64 EF.st.q, .int .i64 EF.st.d, .slice gag EF.s.length gcg, .slice hag EF.x.length hcg, .int .i64 EF.k] 69))) (HX2_Vw6.out.below (hk1.alloc hk1.size (.cells #[.slice fag EF.st.r.length fcg, .int .i64 EF.st.q, .int .i64 EF.st.d, .slice gag EF.s.length gcg, .slice hag EF.x.length hcg, .int .i64 EF.k] 69))) (HV_Vw6.out.below (hk1.alloc hk1.size (.cells #[.slice fag EF.st.r.length fcg, .int .i64 EF.st.q, .int .i64 EF.st.d, .slice gag EF.s.length gcg, .slice hag EF.x.length hcg, .int .i64 EF.k] 69)))) (fun hHeld => ?_)
          clear hK K
          try simp only [Act.put, List.setIfInBounds_toArray, List.set_cons_zero, List.set_cons_succ]
          refine wpAnyH_take (i := 11) (oi := { dst := some 16, op := Op.assign (Operand.tmp 61), type := 4, pos := _, after := _, guard := none }) (v := .bool b) rfl (by kernel_rfl) (by kernel_rfl) (by kernel_rfl) (fun _ _ _ h => h) (Or.inl ⟨by rfl, ?_⟩) (by assumption) ?_
          · intro wX hSw
            try dsimp only at hSw
            go_simp
          try simp only [Act.put, List.setIfInBounds_toArray, List.set_cons_zero, List.set_cons_succ]
          refine wpAnyH_done (by kernel_rfl) ?_ _
          go_wp2
          go_meet
          case rel =>
            exact ⟨_, fag, fcg, gag, gcg, hag, hcg, rfl, rfl, (hk1.alloc hk1.size (.cells #[.slice fag EF.st.r.length fcg, .int .i64 EF.st.q, .int .i64 EF.st.d, .slice gag EF.s.length gcg, .slice hag EF.x.length hcg, .int .i64 EF.k] 69)), ⟨hk1.size, (Bk.new we 69 #[.slice fag EF.st.r.length fcg, .int .i64 EF.st.q, .int .i64 EF.st.d, .slice gag EF.s.length gcg, .slice hag EF.x.length hcg, .int .i64 EF.k]).lt⟩, Bk.new we 69 #[.slice fag EF.st.r.length fcg, .int .i64 EF.st.q, .int .i64 EF.st.d, .slice gag EF.s.length gcg, .slice hag EF.x.length hcg, .int .i64 EF.k], (HU.out.below ((Below.refl _ we).alloc (Nat.le_refl _) _)).mono (fun k e => ⟨⟨by omega, by simp; omega⟩, by omega⟩)⟩
        · go_simp
          refine hK.out _ _ (keepB (HX0_Vw6.out.below ((hk0).alloc (hk0).size (.cells #[.slice none 0 0, .int .i64 0, .int .i64 0, .slice none 0 0, .slice none 0 0, .int .i64 0] 69))) (HX2_Vw6.out.below ((hk0).alloc (hk0).size (.cells #[.slice none 0 0, .int .i64 0, .int .i64 0, .slice none 0 0, .slice none 0 0, .int .i64 0] 69))) (HV_Vw6.out.below ((hk0).alloc (hk0).size (.cells #[.slice none 0 0, .int .i64 0, .int .i64 0, .slice none 0 0, .slice none 0 0, .int .i64 0] 69)))) (fun hHeld => ?_)
          clear hK K
          try simp only [Act.put, List.setIfInBounds_toArray, List.set_cons_zero, List.set_cons_succ]
          refine wpAnyH_ready (rs := [5]) (by kernel_rfl) (by simp) ?_
          refine AllReadyH.cons (o := { dst := some 59, op := Op.call { callee := Callee.value (Operand.func 37), args := #[Operand.tmp 54, Operand.tmp 55, Operand.tmp 56, Operand.tmp 58], argTypes := #[55, 22, 32, 40] }, type := 70, pos := _, after := _, guard := none }) rfl (fun K hK => ?_) AllReadyH.nil
          go_simp
          have hcW : Vw6.heap.size ≤ (wf.alloc (.cells #[.slice none 0 0, .int .i64 0, .int .i64 0, .slice none 0 0, .slice none 0 0, .int .i64 0] 69)).heap.size := (((hk0).alloc (hk0).size (.cells #[.slice none 0 0, .int .i64 0, .int .i64 0, .slice none 0 0, .slice none 0 0, .int .i64 0] 69))).size
          have hPW : wf.heap.size < (wf.alloc (.cells #[.slice none 0 0, .int .i64 0, .int .i64 0, .slice none 0 0, .slice none 0 0, .int .i64 0] 69)).heap.size := ((Bk.new wf 69 #[.slice none 0 0, .int .i64 0, .int .i64 0, .slice none 0 0, .slice none 0 0, .int .i64 0] : Bk (wf.alloc (.cells #[.slice none 0 0, .int .i64 0, .int .i64 0, .slice none 0 0, .slice none 0 0, .int .i64 0] 69)) wf.heap.size 69 #[.slice none 0 0, .int .i64 0, .int .i64 0, .slice none 0 0, .slice none 0 0, .int .i64 0])).lt
          refine (HIM.out _ _ _ _ (HR_Vw6.out.isM.below ((hk0).alloc (hk0).size (.cells #[.slice none 0 0, .int .i64 0, .int .i64 0, .slice none 0 0, .slice none 0 0, .int .i64 0] 69))) (HJ_Vw6.out.isI.below ((hk0).alloc (hk0).size (.cells #[.slice none 0 0, .int .i64 0, .int .i64 0, .slice none 0 0, .slice none 0 0, .int .i64 0] 69))) (HT2_Vw6.out.isS.below ((hk0).alloc (hk0).size (.cells #[.slice none 0 0, .int .i64 0, .int .i64 0, .slice none 0 0, .slice none 0 0, .int .i64 0] 69)))).mono ?_
          rintro r we ⟨ue, rfl, hb, hue⟩
          obtain ⟨fag, fcg, gag, gcg, hag, hcg, rfl⟩ := hue.form
          have hk1 : Below Vw6.heap.size Vw6 we := (((hk0).alloc (hk0).size (.cells #[.slice none 0 0, .int .i64 0, .int .i64 0, .slice none 0 0, .slice none 0 0, .int .i64 0] 69))).trans (hb.mono (((hk0).alloc (hk0).size (.cells #[.slice none 0 0, .int .i64 0, .int .i64 0, .slice none 0 0, .slice none 0 0, .int .i64 0] 69))).size)
          have hz1 : Bk we wf.heap.size 69 #[.slice none 0 0, .int .i64 0, .int .i64 0, .slice none 0 0, .slice none 0 0, .int .i64 0] := ((Bk.new wf 69 #[.slice none 0 0, .int .i64 0, .int .i64 0, .slice none 0 0, .slice none 0 0, .int .i64 0] : Bk (wf.alloc (.cells #[.slice none 0 0, .int .i64 0, .int .i64 0, .slice none 0 0, .slice none 0 0, .int .i64 0] 69)) wf.heap.size 69 #[.slice none 0 0, .int .i64 0, .int .i64 0, .slice none 0 0, .slice none 0 0, .int .i64 0])).below hb
          have HU : Hid (EfF (fun k => (wf.alloc (.cells #[.slice none 0 0, .int .i64 0, .int .i64 0, .slice none 0 0, .slice none 0 0, .int .i64 0] 69)).heap.size ≤ k ∧ k < we.heap.size) we (.agg #[.slice fag EF.st.r.length fcg, .int .i64 EF.st.q, .int .i64 EF.st.d, .slice gag EF.s.length gcg, .slice hag EF.x.length hcg, .int .i64 EF.k]) EF) := hue
          clear hb
          try go_simp
          refine hK.out _ _ (keepB (HX0_Vw6.out.below hk1) (HX2_Vw6.out.below hk1) (HV_Vw6.out.below hk1)) (fun hHeld => ?_)
          clear hK K
          try simp only [Act.put, List.setIfInBounds_toArray, List.set_cons_zero, List.set_cons_succ]
          refine wpAnyH_take (i := 6) (oi := { dst := some 53, op := Op.move (Operand.tmp 59), type := 70, pos := _, after := _, guard := none }) (v := .tuple #[.agg #[.slice fag EF.st.r.length fcg, .int .i64 EF.st.q, .int .i64 EF.st.d, .slice gag EF.s.length gcg, .slice hag EF.x.length hcg, .int .i64 EF.k], .bool b]) rfl (by kernel_rfl) (by kernel_rfl) (by kernel_rfl) (fun _ _ _ h => h) (Or.inl ⟨by rfl, ?_⟩) (by assumption) ?_
          · intro wX hSw
            try dsimp only at hSw
            go_simp
          try simp only [Act.put, List.setIfInBounds_toArray, List.set_cons_zero, List.set_cons_succ]
          refine wpAnyH_take (i := 7) (oi := { dst := some 60, op := Op.extract (Operand.tmp 53) 0, type := 69, pos := _, after := _, guard := none }) (v := .agg #[.slice fag EF.st.r.length fcg, .int .i64 EF.st.q, .int .i64 EF.st.d, .slice gag EF.s.length gcg, .slice hag EF.x.length hcg, .int .i64 EF.k]) rfl (by kernel_rfl) (by kernel_rfl) (by kernel_rfl) (fun _ _ _ h => h) (Or.inl ⟨by rfl, ?_⟩) (by assumption) ?_
          · intro wX hSw
            try dsimp only at hSw
            go_simp
          try simp only [Act.put, List.setIfInBounds_toArray, List.set_cons_zero, List.set_cons_succ]
          refine wpAnyH_take (i := 8) (oi := { dst := some 61, op := Op.extract (Operand.tmp 53) 1, type := 4, pos := _, after := _, guard := none }) (v := .bool b) rfl (by kernel_rfl) (by kernel_rfl) (by kernel_rfl) (fun _ _ _ h => h) (Or.inl ⟨by rfl, ?_⟩) (by assumption) ?_
          · intro wX hSw
            try dsimp only at hSw
            go_simp
          try simp only [Act.put, List.setIfInBounds_toArray, List.set_cons_zero, List.set_cons_succ]
          have zc0 := hz1.cell (i := 0) rfl
          have zc1 := hz1.cell (i := 1) rfl
          have zc2 := hz1.cell (i := 2) rfl
          have zc3 := hz1.cell (i := 3) rfl
          have zc4 := hz1.cell (i := 4) rfl
          have zc5 := hz1.cell (i := 5) rfl
          have zf := hz1.free
          have hPlo : Vw6.heap.size ≤ wf.heap.size := (hk0).size
          have hpt := put6_turns we (wf.heap.size) (.slice fag EF.st.r.length fcg) (.int .i64 EF.st.q) (.int .i64 EF.st.d) (.slice gag EF.s.length gcg) (.slice hag EF.x.length hcg) (.int .i64 EF.k)
          have T3 : Below Vw6.heap.size Vw6 (put6 we (wf.heap.size) (.slice fag EF.st.r.length fcg) (.int .i64 EF.st.q) (.int .i64 EF.st.d) (.slice gag EF.s.length gcg) (.slice hag EF.x.length hcg) (.int .i64 EF.k)) := hk1.trans (hpt.to_below (fun k e => by rw [show k = wf.heap.size from e]; exact hPlo) hk1.size)
          refine wpAnyH_ready (rs := [10]) (by kernel_rfl) (by simp) ?_
          refine AllReadyH.cons (o := { dst := none, op := Op.store 69 (Operand.tmp 15) (Operand.tmp 60), type := 0, pos := _, after := _, guard := none }) rfl (fun K hK => ?_) AllReadyH.nil
          go_simp
          refine hK.out _ _ (keepB (HX0_Vw6.out.below T3) (HX2_Vw6.out.below T3) (HV_Vw6.out.below T3)) (fun hHeld => ?_)
          clear hK K
          try simp only [Act.put, List.setIfInBounds_toArray, List.set_cons_zero, List.set_cons_succ]
          refine wpAnyH_take (i := 11) (oi := { dst := some 16, op := Op.assign (Operand.tmp 61), type := 4, pos := _, after := _, guard := none }) (v := .bool b) rfl (by kernel_rfl) (by kernel_rfl) (by kernel_rfl) (fun _ _ _ h => h) (Or.inl ⟨by rfl, ?_⟩) (by assumption) ?_
          · intro wX hSw
            try dsimp only at hSw
            go_simp
          try simp only [Act.put, List.setIfInBounds_toArray, List.set_cons_zero, List.set_cons_succ]
          refine wpAnyH_done (by kernel_rfl) ?_ _
          go_wp2
          go_meet
          case rel =>
            exact ⟨_, fag, fcg, gag, gcg, hag, hcg, rfl, rfl, T3, ⟨hPlo, (hz1.put6 (.slice fag EF.st.r.length fcg) (.int .i64 EF.st.q) (.int .i64 EF.st.d) (.slice gag EF.s.length gcg) (.slice hag EF.x.length hcg) (.int .i64 EF.k)).lt⟩, hz1.put6 (.slice fag EF.st.r.length fcg) (.int .i64 EF.st.q) (.int .i64 EF.st.d) (.slice gag EF.s.length gcg) (.slice hag EF.x.length hcg) (.int .i64 EF.k), (HU.out.turns hpt (fun k e1 e2 => by have e3 : k = wf.heap.size := e2; omega)).mono (fun k e => ⟨⟨by omega, Nat.lt_of_lt_of_le e.2 hpt.size⟩, by omega⟩)⟩
      · go_simp
        refine hK.out _ _ (keepB (HX0_Vw6.out.below (((Below.refl Vw6.heap.size Vw6).drew).alloc ((Below.refl Vw6.heap.size Vw6).drew).size (.cells #[.slice none 0 0, .int .i64 0, .int .i64 0, .slice none 0 0, .slice none 0 0, .int .i64 0] 69))) (HX2_Vw6.out.below (((Below.refl Vw6.heap.size Vw6).drew).alloc ((Below.refl Vw6.heap.size Vw6).drew).size (.cells #[.slice none 0 0, .int .i64 0, .int .i64 0, .slice none 0 0, .slice none 0 0, .int .i64 0] 69))) (HV_Vw6.out.below (((Below.refl Vw6.heap.size Vw6).drew).alloc ((Below.refl Vw6.heap.size Vw6).drew).size (.cells #[.slice none 0 0, .int .i64 0, .int .i64 0, .slice none 0 0, .slice none 0 0, .int .i64 0] 69)))) (fun hHeld => ?_)
        clear hK K
        try simp only [Act.put, List.setIfInBounds_toArray, List.set_cons_zero, List.set_cons_succ]
        refine wpAnyH_ready (rs := [4]) (by kernel_rfl) (by simp) ?_
        refine AllReadyH.cons (o := { dst := some 58, op := Op.call { callee := Callee.value (Operand.func 13), args := #[Operand.tmp 57], argTypes := #[30] }, type := 40, pos := _, after := _, guard := none }) rfl (fun K hK => ?_) AllReadyH.nil
        go_simp
        refine (toEvent_any e.t e.s e.q e.d e.k e.v e.g _).mono ?_
        rintro r wf ⟨rfl, hb⟩
        have hk0 : Below Vw6.heap.size Vw6 wf := ((((Below.refl Vw6.heap.size Vw6).drew).alloc ((Below.refl Vw6.heap.size Vw6).drew).size (.cells #[.slice none 0 0, .int .i64 0, .int .i64 0, .slice none 0 0, .slice none 0 0, .int .i64 0] 69))).trans (hb.mono ((((Below.refl Vw6.heap.size Vw6).drew).alloc ((Below.refl Vw6.heap.size Vw6).drew).size (.cells #[.slice none 0 0, .int .i64 0, .int .i64 0, .slice none 0 0, .slice none 0 0, .int .i64 0] 69))).size)
        have hz0 : Bk wf Vw6.heap.size 69 #[.slice none 0 0, .int .i64 0, .int .i64 0, .slice none 0 0, .slice none 0 0, .int .i64 0] := ((Bk.new Vw6.drew 69 #[.slice none 0 0, .int .i64 0, .int .i64 0, .slice none 0 0, .slice none 0 0, .int .i64 0] : Bk (Vw6.drew.alloc (.cells #[.slice none 0 0, .int .i64 0, .int .i64 0, .slice none 0 0, .slice none 0 0, .int .i64 0] 69)) Vw6.heap.size 69 #[.slice none 0 0, .int .i64 0, .int .i64 0, .slice none 0 0, .slice none 0 0, .int .i64 0])).below hb
        clear hb
        try go_simp
        refine hK.out _ _ (keepB (HX0_Vw6.out.below hk0) (HX2_Vw6.out.below hk0) (HV_Vw6.out.below hk0)) (fun hHeld => ?_)
        clear hK K
        try simp only [Act.put, List.setIfInBounds_toArray, List.set_cons_zero, List.set_cons_succ]
        refine wpAnyH_ready (rs := [5]) (by kernel_rfl) (by simp) ?_
        refine AllReadyH.cons (o := { dst := some 59, op := Op.call { callee := Callee.value (Operand.func 37), args := #[Operand.tmp 54, Operand.tmp 55, Operand.tmp 56, Operand.tmp 58], argTypes := #[55, 22, 32, 40] }, type := 70, pos := _, after := _, guard := none }) rfl (fun K hK => ?_) AllReadyH.nil
        go_simp
        have hcW : Vw6.heap.size ≤ wf.heap.size := (hk0).size
        have hPW : Vw6.heap.size < wf.heap.size := (hz0).lt
        refine (HIM.out _ _ _ _ (HR_Vw6.out.isM.below hk0) (HJ_Vw6.out.isI.below hk0) (HT2_Vw6.out.isS.below hk0)).mono ?_
        rintro r we ⟨ue, rfl, hb, hue⟩
        obtain ⟨fag, fcg, gag, gcg, hag, hcg, rfl⟩ := hue.form
        have hk1 : Below Vw6.heap.size Vw6 we := (hk0).trans (hb.mono (hk0).size)
        have hz1 : Bk we Vw6.heap.size 69 #[.slice none 0 0, .int .i64 0, .int .i64 0, .slice none 0 0, .slice none 0 0, .int .i64 0] := (hz0).below hb
        have HU : Hid (EfF (fun k => wf.heap.size ≤ k ∧ k < we.heap.size) we (.agg #[.slice fag EF.st.r.length fcg, .int .i64 EF.st.q, .int .i64 EF.st.d, .slice gag EF.s.length gcg, .slice hag EF.x.length hcg, .int .i64 EF.k]) EF) := hue
        clear hb
        try go_simp
        refine hK.out _ _ (keepB (HX0_Vw6.out.below hk1) (HX2_Vw6.out.below hk1) (HV_Vw6.out.below hk1)) (fun hHeld => ?_)
        clear hK K
        try simp only [Act.put, List.setIfInBounds_toArray, List.set_cons_zero, List.set_cons_succ]
        refine wpAnyH_take (i := 6) (oi := { dst := some 53, op := Op.move (Operand.tmp 59), type := 70, pos := _, after := _, guard := none }) (v := .tuple #[.agg #[.slice fag EF.st.r.length fcg, .int .i64 EF.st.q, .int .i64 EF.st.d, .slice gag EF.s.length gcg, .slice hag EF.x.length hcg, .int .i64 EF.k], .bool b]) rfl (by kernel_rfl) (by kernel_rfl) (by kernel_rfl) (fun _ _ _ h => h) (Or.inl ⟨by rfl, ?_⟩) (by assumption) ?_
        · intro wX hSw
          try dsimp only at hSw
          go_simp
        try simp only [Act.put, List.setIfInBounds_toArray, List.set_cons_zero, List.set_cons_succ]
        refine wpAnyH_take (i := 7) (oi := { dst := some 60, op := Op.extract (Operand.tmp 53) 0, type := 69, pos := _, after := _, guard := none }) (v := .agg #[.slice fag EF.st.r.length fcg, .int .i64 EF.st.q, .int .i64 EF.st.d, .slice gag EF.s.length gcg, .slice hag EF.x.length hcg, .int .i64 EF.k]) rfl (by kernel_rfl) (by kernel_rfl) (by kernel_rfl) (fun _ _ _ h => h) (Or.inl ⟨by rfl, ?_⟩) (by assumption) ?_
        · intro wX hSw
          try dsimp only at hSw
          go_simp
        try simp only [Act.put, List.setIfInBounds_toArray, List.set_cons_zero, List.set_cons_succ]
        refine wpAnyH_take (i := 8) (oi := { dst := some 61, op := Op.extract (Operand.tmp 53) 1, type := 4, pos := _, after := _, guard := none }) (v := .bool b) rfl (by kernel_rfl) (by kernel_rfl) (by kernel_rfl) (fun _ _ _ h => h) (Or.inl ⟨by rfl, ?_⟩) (by assumption) ?_
        · intro wX hSw
          try dsimp only at hSw
          go_simp
        try simp only [Act.put, List.setIfInBounds_toArray, List.set_cons_zero, List.set_cons_succ]
        have zc0 := hz1.cell (i := 0) rfl
        have zc1 := hz1.cell (i := 1) rfl
        have zc2 := hz1.cell (i := 2) rfl
        have zc3 := hz1.cell (i := 3) rfl
        have zc4 := hz1.cell (i := 4) rfl
        have zc5 := hz1.cell (i := 5) rfl
        have zf := hz1.free
        have hPlo : Vw6.heap.size ≤ Vw6.heap.size := ((Below.refl Vw6.heap.size Vw6)).size
        have hpt := put6_turns we (Vw6.heap.size) (.slice fag EF.st.r.length fcg) (.int .i64 EF.st.q) (.int .i64 EF.st.d) (.slice gag EF.s.length gcg) (.slice hag EF.x.length hcg) (.int .i64 EF.k)
        have T3 : Below Vw6.heap.size Vw6 (put6 we (Vw6.heap.size) (.slice fag EF.st.r.length fcg) (.int .i64 EF.st.q) (.int .i64 EF.st.d) (.slice gag EF.s.length gcg) (.slice hag EF.x.length hcg) (.int .i64 EF.k)) := hk1.trans (hpt.to_below (fun k e => by rw [show k = Vw6.heap.size from e]; exact hPlo) hk1.size)
        refine wpAnyH_ready (rs := [10]) (by kernel_rfl) (by simp) ?_
        refine AllReadyH.cons (o := { dst := none, op := Op.store 69 (Operand.tmp 15) (Operand.tmp 60), type := 0, pos := _, after := _, guard := none }) rfl (fun K hK => ?_) AllReadyH.nil
        go_simp
        refine hK.out _ _ (keepB (HX0_Vw6.out.below T3) (HX2_Vw6.out.below T3) (HV_Vw6.out.below T3)) (fun hHeld => ?_)
        clear hK K
        try simp only [Act.put, List.setIfInBounds_toArray, List.set_cons_zero, List.set_cons_succ]
        refine wpAnyH_take (i := 11) (oi := { dst := some 16, op := Op.assign (Operand.tmp 61), type := 4, pos := _, after := _, guard := none }) (v := .bool b) rfl (by kernel_rfl) (by kernel_rfl) (by kernel_rfl) (fun _ _ _ h => h) (Or.inl ⟨by rfl, ?_⟩) (by assumption) ?_
        · intro wX hSw
          try dsimp only at hSw
          go_simp
        try simp only [Act.put, List.setIfInBounds_toArray, List.set_cons_zero, List.set_cons_succ]
        refine wpAnyH_done (by kernel_rfl) ?_ _
        go_wp2
        go_meet
        case rel =>
          exact ⟨_, fag, fcg, gag, gcg, hag, hcg, rfl, rfl, T3, ⟨hPlo, (hz1.put6 (.slice fag EF.st.r.length fcg) (.int .i64 EF.st.q) (.int .i64 EF.st.d) (.slice gag EF.s.length gcg) (.slice hag EF.x.length hcg) (.int .i64 EF.k)).lt⟩, hz1.put6 (.slice fag EF.st.r.length fcg) (.int .i64 EF.st.q) (.int .i64 EF.st.d) (.slice gag EF.s.length gcg) (.slice hag EF.x.length hcg) (.int .i64 EF.k), (HU.out.turns hpt (fun k e1 e2 => by have e3 : k = Vw6.heap.size := e2; omega)).mono (fun k e => ⟨⟨by omega, Nat.lt_of_lt_of_le e.2 hpt.size⟩, by omega⟩)⟩
    case rest =>
      rename World => w7
      obtain ⟨PPg, fag, fcg, gag, gcg, hag, hcg, rfl, rfl, hb, ⟨hPlg, hPhg⟩, hBk, hAn⟩ := hcut
      have z_w7 : Vw6.heap.size ≤ w7.heap.size := hb.size
      have HB_w7 : Hid (Below w.heap.size w w7) := HB_Vw6.out.trans (hb.mono HB_Vw6.out.size)
      have HP_w7 : Hid (Bk w7 w.heap.size 49 #[.int .i64 m.n, .int .i64 m.s, vi0, vh0, vs0, .int .i64 m.z]) := HP_Vw6.out.below hb
      have HQ_w7 : Hid (Bk w7 (w.heap.size + 1) 24 #[vr2, .int .i64 s.q, .int .i64 s.d]) := HQ_Vw6.out.below hb
      have HV_w7 : Hid (Bk w7 (w.heap.size + 1 + 1) 30 #[.int .i64 e.t, .int .i64 e.s, .int .i64 e.q, .int .i64 e.d, .int .i64 e.k, .int .i64 e.v, .int .i64 e.g]) := HV_Vw6.out.below hb
      have HSb_w7 : Hid (Bk w7 PPo 69 #[.slice fao EF.st.r.length fco, .int .i64 EF.st.q, .int .i64 EF.st.d, .slice gao EF.s.length gco, .slice hao EF.x.length hco, .int .i64 EF.k]) := HSb_Vw6.out.below hb
      have HS_w7 : Hid (EfF (fun k => (w2.heap.size ≤ k ∧ k < w3.heap.size) ∧ k ≠ PPo) w7 (.agg #[.slice fao EF.st.r.length fco, .int .i64 EF.st.q, .int .i64 EF.st.d, .slice gao EF.s.length gco, .slice hao EF.x.length hco, .int .i64 EF.k]) EF) := HS_Vw6.out.below hb
      have HR_w7 : Hid (MdF (fun k => w3.heap.size ≤ k ∧ k < w4.heap.size) w7 (.agg #[.int .i64 m.n, .int .i64 m.s, .slice aui m.i.length cui, .slice auh m.h.length cuh, .slice aue m.e.length cue, .int .i64 m.z]) m) := HR_Vw6.out.below hb
      have HX0_w7 : Hid (Bk w7 w4.heap.size 55 #[.int .i64 m.n, .int .i64 m.s, .slice aui m.i.length cui, .slice auh m.h.length cuh, .slice aue m.e.length cue, .int .i64 m.z]) := HX0_Vw6.out.below hb
      have HJ_w7 : Hid (RowF (fun k => k = Vw4.heap.size) w7 (sl Vw4.heap.size l.length) l.length 1 (intCells l)) := HJ_Vw6.out.below hb
      have HT2_w7 : Hid (StF (fun k => w5.heap.size ≤ k ∧ k < w6.heap.size) w7 (.agg #[.slice an s.r.length cn, .int .i64 s.q, .int .i64 s.d]) s) := HT2_Vw6.out.below hb
      have HX2_w7 : Hid (Bk w7 w6.heap.size 32 #[.slice an s.r.length cn, .int .i64 s.q, .int .i64 s.d]) := HX2_Vw6.out.below hb
      clear HB_Vw6 HP_Vw6 HQ_Vw6 HV_Vw6 HSb_Vw6 HS_Vw6 HR_Vw6 HX0_Vw6 HJ_Vw6 HT2_Vw6 HX2_Vw6
      have HGb_w7 : Hid (Bk w7 PPg 69 #[.slice fag EF.st.r.length fcg, .int .i64 EF.st.q, .int .i64 EF.st.d, .slice gag EF.s.length gcg, .slice hag EF.x.length hcg, .int .i64 EF.k]) := hBk
      have HG_w7 : Hid (EfF (fun k => (Vw6.heap.size ≤ k ∧ k < w7.heap.size) ∧ k ≠ PPg) w7 (.agg #[.slice fag EF.st.r.length fcg, .int .i64 EF.st.q, .int .i64 EF.st.d, .slice gag EF.s.length gcg, .slice hag EF.x.length hcg, .int .i64 EF.k]) EF) := hAn
      clear hb hBk hAn
      have g0 := HGb_w7.out.cell (i := 0) rfl
      have g1 := HGb_w7.out.cell (i := 1) rfl
      have g2 := HGb_w7.out.cell (i := 2) rfl
      have g3 := HGb_w7.out.cell (i := 3) rfl
      have g4 := HGb_w7.out.cell (i := 4) rfl
      have g5 := HGb_w7.out.cell (i := 5) rfl
      have t0 := HSb_w7.out.cell (i := 0) rfl
      have t1 := HSb_w7.out.cell (i := 1) rfl
      have t2 := HSb_w7.out.cell (i := 2) rfl
      have t3 := HSb_w7.out.cell (i := 3) rfl
      have t4 := HSb_w7.out.cell (i := 4) rfl
      have t5 := HSb_w7.out.cell (i := 5) rfl
      go_wp2_with fail
      clear g0 g1 g2 g3 g4 g5
      clear t0 t1 t2 t3 t4 t5
      refine (eqEffect_same _ _ EF _ HE.out HG_w7.out HS_w7.out).mono ?_
      rintro r w8 ⟨rfl, hb⟩
      have z_w8 : w7.heap.size ≤ w8.heap.size := hb.size
      have HB_w8 : Hid (Below w.heap.size w w8) := HB_w7.out.trans (hb.mono HB_w7.out.size)
      have HP_w8 : Hid (Bk w8 w.heap.size 49 #[.int .i64 m.n, .int .i64 m.s, vi0, vh0, vs0, .int .i64 m.z]) := HP_w7.out.below hb
      have HQ_w8 : Hid (Bk w8 (w.heap.size + 1) 24 #[vr2, .int .i64 s.q, .int .i64 s.d]) := HQ_w7.out.below hb
      have HV_w8 : Hid (Bk w8 (w.heap.size + 1 + 1) 30 #[.int .i64 e.t, .int .i64 e.s, .int .i64 e.q, .int .i64 e.d, .int .i64 e.k, .int .i64 e.v, .int .i64 e.g]) := HV_w7.out.below hb
      have HSb_w8 : Hid (Bk w8 PPo 69 #[.slice fao EF.st.r.length fco, .int .i64 EF.st.q, .int .i64 EF.st.d, .slice gao EF.s.length gco, .slice hao EF.x.length hco, .int .i64 EF.k]) := HSb_w7.out.below hb
      have HS_w8 : Hid (EfF (fun k => (w2.heap.size ≤ k ∧ k < w3.heap.size) ∧ k ≠ PPo) w8 (.agg #[.slice fao EF.st.r.length fco, .int .i64 EF.st.q, .int .i64 EF.st.d, .slice gao EF.s.length gco, .slice hao EF.x.length hco, .int .i64 EF.k]) EF) := HS_w7.out.below hb
      have HR_w8 : Hid (MdF (fun k => w3.heap.size ≤ k ∧ k < w4.heap.size) w8 (.agg #[.int .i64 m.n, .int .i64 m.s, .slice aui m.i.length cui, .slice auh m.h.length cuh, .slice aue m.e.length cue, .int .i64 m.z]) m) := HR_w7.out.below hb
      have HX0_w8 : Hid (Bk w8 w4.heap.size 55 #[.int .i64 m.n, .int .i64 m.s, .slice aui m.i.length cui, .slice auh m.h.length cuh, .slice aue m.e.length cue, .int .i64 m.z]) := HX0_w7.out.below hb
      have HJ_w8 : Hid (RowF (fun k => k = Vw4.heap.size) w8 (sl Vw4.heap.size l.length) l.length 1 (intCells l)) := HJ_w7.out.below hb
      have HT2_w8 : Hid (StF (fun k => w5.heap.size ≤ k ∧ k < w6.heap.size) w8 (.agg #[.slice an s.r.length cn, .int .i64 s.q, .int .i64 s.d]) s) := HT2_w7.out.below hb
      have HX2_w8 : Hid (Bk w8 w6.heap.size 32 #[.slice an s.r.length cn, .int .i64 s.q, .int .i64 s.d]) := HX2_w7.out.below hb
      have HGb_w8 : Hid (Bk w8 PPg 69 #[.slice fag EF.st.r.length fcg, .int .i64 EF.st.q, .int .i64 EF.st.d, .slice gag EF.s.length gcg, .slice hag EF.x.length hcg, .int .i64 EF.k]) := HGb_w7.out.below hb
      have HG_w8 : Hid (EfF (fun k => (Vw6.heap.size ≤ k ∧ k < w7.heap.size) ∧ k ≠ PPg) w8 (.agg #[.slice fag EF.st.r.length fcg, .int .i64 EF.st.q, .int .i64 EF.st.d, .slice gag EF.s.length gcg, .slice hag EF.x.length hcg, .int .i64 EF.k]) EF) := HG_w7.out.below hb
      clear HB_w7 HP_w7 HQ_w7 HV_w7 HSb_w7 HS_w7 HR_w7 HX0_w7 HJ_w7 HT2_w7 HX2_w7 HGb_w7 HG_w7
      clear hb
      have r0 := HX0_w8.out.cell (i := 0) rfl
      have r1 := HX0_w8.out.cell (i := 1) rfl
      have r2 := HX0_w8.out.cell (i := 2) rfl
      have r3 := HX0_w8.out.cell (i := 3) rfl
      have r4 := HX0_w8.out.cell (i := 4) rfl
      have r5 := HX0_w8.out.cell (i := 5) rfl
      have p0 := HP_w8.out.cell (i := 0) rfl
      have p1 := HP_w8.out.cell (i := 1) rfl
      have p2 := HP_w8.out.cell (i := 2) rfl
      have p3 := HP_w8.out.cell (i := 3) rfl
      have p4 := HP_w8.out.cell (i := 4) rfl
      have p5 := HP_w8.out.cell (i := 5) rfl
      go_wp2_with fail
      go_region_held3 (fun W => W.cell? ⟨w4.heap.size, 0, none⟩ = some (.int .i64 m.n) ∧ W.cell? ⟨w4.heap.size, 1, none⟩ = some (.int .i64 m.s) ∧ W.cell? ⟨w4.heap.size, 2, none⟩ = some (.slice aui m.i.length cui) ∧ W.cell? ⟨w4.heap.size, 3, none⟩ = some (.slice auh m.h.length cuh) ∧ W.cell? ⟨w4.heap.size, 4, none⟩ = some (.slice aue m.e.length cue) ∧ W.cell? ⟨w4.heap.size, 5, none⟩ = some (.int .i64 m.z) ∧ W.cell? ⟨w.heap.size, 0, none⟩ = some (.int .i64 m.n) ∧ W.cell? ⟨w.heap.size, 1, none⟩ = some (.int .i64 m.s) ∧ W.cell? ⟨w.heap.size, 2, none⟩ = some vi0 ∧ W.cell? ⟨w.heap.size, 3, none⟩ = some vh0 ∧ W.cell? ⟨w.heap.size, 4, none⟩ = some vs0 ∧ W.cell? ⟨w.heap.size, 5, none⟩ = some (.int .i64 m.z)) ((repeat' apply And.intro) <;> first | (go_keep; done) | (rw [hcA _ _ (by first | omega | (simp; omega))]; simp [*]; done))
        (first | (go_at_call 25; refine (toModel_any _ m _ HSM.out (HX.out.below HB_w8.out.drew)).mono ?_; rintro r w9 ⟨yx, rfl, hbw9, hr2⟩; obtain ⟨hcA, hfA⟩ := bcell hbw9; have hzw9 : w8.heap.size ≤ w9.heap.size := hbw9.size) | (go_at_call 27; refine (eqModel_same _ _ m _ HSM.out (HR_w8.out.below ((Below.refl _ w8).drew.trans hbw9)).isM hr2.isM).mono ?_; rintro r w10 ⟨rfl, hbw10⟩; obtain ⟨hcA, hfA⟩ := bcell hbw10; have hzw10 : w9.heap.size ≤ w10.heap.size := hbw10.size))
      clear hcA hfA
      have hbc : Below w8.heap.size w8 w10 := ((Below.refl w8.heap.size w8).drew.trans (hbw9.mono (Nat.le_refl _))).trans (hbw10.mono (by omega))
      clear r0 r1 r2 r3 r4 r5
      clear p0 p1 p2 p3 p4 p5
      have z_w10 : w8.heap.size ≤ w10.heap.size := hbc.size
      have HB_w10 : Hid (Below w.heap.size w w10) := HB_w8.out.trans (hbc.mono HB_w8.out.size)
      have HP_w10 : Hid (Bk w10 w.heap.size 49 #[.int .i64 m.n, .int .i64 m.s, vi0, vh0, vs0, .int .i64 m.z]) := HP_w8.out.below hbc
      have HQ_w10 : Hid (Bk w10 (w.heap.size + 1) 24 #[vr2, .int .i64 s.q, .int .i64 s.d]) := HQ_w8.out.below hbc
      have HV_w10 : Hid (Bk w10 (w.heap.size + 1 + 1) 30 #[.int .i64 e.t, .int .i64 e.s, .int .i64 e.q, .int .i64 e.d, .int .i64 e.k, .int .i64 e.v, .int .i64 e.g]) := HV_w8.out.below hbc
      have HSb_w10 : Hid (Bk w10 PPo 69 #[.slice fao EF.st.r.length fco, .int .i64 EF.st.q, .int .i64 EF.st.d, .slice gao EF.s.length gco, .slice hao EF.x.length hco, .int .i64 EF.k]) := HSb_w8.out.below hbc
      have HS_w10 : Hid (EfF (fun k => (w2.heap.size ≤ k ∧ k < w3.heap.size) ∧ k ≠ PPo) w10 (.agg #[.slice fao EF.st.r.length fco, .int .i64 EF.st.q, .int .i64 EF.st.d, .slice gao EF.s.length gco, .slice hao EF.x.length hco, .int .i64 EF.k]) EF) := HS_w8.out.below hbc
      have HR_w10 : Hid (MdF (fun k => w3.heap.size ≤ k ∧ k < w4.heap.size) w10 (.agg #[.int .i64 m.n, .int .i64 m.s, .slice aui m.i.length cui, .slice auh m.h.length cuh, .slice aue m.e.length cue, .int .i64 m.z]) m) := HR_w8.out.below hbc
      have HX0_w10 : Hid (Bk w10 w4.heap.size 55 #[.int .i64 m.n, .int .i64 m.s, .slice aui m.i.length cui, .slice auh m.h.length cuh, .slice aue m.e.length cue, .int .i64 m.z]) := HX0_w8.out.below hbc
      have HJ_w10 : Hid (RowF (fun k => k = Vw4.heap.size) w10 (sl Vw4.heap.size l.length) l.length 1 (intCells l)) := HJ_w8.out.below hbc
      have HT2_w10 : Hid (StF (fun k => w5.heap.size ≤ k ∧ k < w6.heap.size) w10 (.agg #[.slice an s.r.length cn, .int .i64 s.q, .int .i64 s.d]) s) := HT2_w8.out.below hbc
      have HX2_w10 : Hid (Bk w10 w6.heap.size 32 #[.slice an s.r.length cn, .int .i64 s.q, .int .i64 s.d]) := HX2_w8.out.below hbc
      have HGb_w10 : Hid (Bk w10 PPg 69 #[.slice fag EF.st.r.length fcg, .int .i64 EF.st.q, .int .i64 EF.st.d, .slice gag EF.s.length gcg, .slice hag EF.x.length hcg, .int .i64 EF.k]) := HGb_w8.out.below hbc
      have HG_w10 : Hid (EfF (fun k => (Vw6.heap.size ≤ k ∧ k < w7.heap.size) ∧ k ≠ PPg) w10 (.agg #[.slice fag EF.st.r.length fcg, .int .i64 EF.st.q, .int .i64 EF.st.d, .slice gag EF.s.length gcg, .slice hag EF.x.length hcg, .int .i64 EF.k]) EF) := HG_w8.out.below hbc
      clear HB_w8 HP_w8 HQ_w8 HV_w8 HSb_w8 HS_w8 HR_w8 HX0_w8 HJ_w8 HT2_w8 HX2_w8 HGb_w8 HG_w8
      clear hbc hr2 hbw9 hzw9 hbw10 hzw10
      go_wp2_with fail
      refine (toI_any _ l _ HL.out (HD.out.below HB_w10.out)).mono ?_
      rintro r w11 ⟨rfl, hb, hr⟩
      have z_w11 : w10.heap.size ≤ w11.heap.size := hb.size
      have HB_w11 : Hid (Below w.heap.size w w11) := HB_w10.out.trans (hb.mono HB_w10.out.size)
      have HP_w11 : Hid (Bk w11 w.heap.size 49 #[.int .i64 m.n, .int .i64 m.s, vi0, vh0, vs0, .int .i64 m.z]) := HP_w10.out.below hb
      have HQ_w11 : Hid (Bk w11 (w.heap.size + 1) 24 #[vr2, .int .i64 s.q, .int .i64 s.d]) := HQ_w10.out.below hb
      have HV_w11 : Hid (Bk w11 (w.heap.size + 1 + 1) 30 #[.int .i64 e.t, .int .i64 e.s, .int .i64 e.q, .int .i64 e.d, .int .i64 e.k, .int .i64 e.v, .int .i64 e.g]) := HV_w10.out.below hb
      have HSb_w11 : Hid (Bk w11 PPo 69 #[.slice fao EF.st.r.length fco, .int .i64 EF.st.q, .int .i64 EF.st.d, .slice gao EF.s.length gco, .slice hao EF.x.length hco, .int .i64 EF.k]) := HSb_w10.out.below hb
      have HS_w11 : Hid (EfF (fun k => (w2.heap.size ≤ k ∧ k < w3.heap.size) ∧ k ≠ PPo) w11 (.agg #[.slice fao EF.st.r.length fco, .int .i64 EF.st.q, .int .i64 EF.st.d, .slice gao EF.s.length gco, .slice hao EF.x.length hco, .int .i64 EF.k]) EF) := HS_w10.out.below hb
      have HR_w11 : Hid (MdF (fun k => w3.heap.size ≤ k ∧ k < w4.heap.size) w11 (.agg #[.int .i64 m.n, .int .i64 m.s, .slice aui m.i.length cui, .slice auh m.h.length cuh, .slice aue m.e.length cue, .int .i64 m.z]) m) := HR_w10.out.below hb
      have HX0_w11 : Hid (Bk w11 w4.heap.size 55 #[.int .i64 m.n, .int .i64 m.s, .slice aui m.i.length cui, .slice auh m.h.length cuh, .slice aue m.e.length cue, .int .i64 m.z]) := HX0_w10.out.below hb
      have HJ_w11 : Hid (RowF (fun k => k = Vw4.heap.size) w11 (sl Vw4.heap.size l.length) l.length 1 (intCells l)) := HJ_w10.out.below hb
      have HT2_w11 : Hid (StF (fun k => w5.heap.size ≤ k ∧ k < w6.heap.size) w11 (.agg #[.slice an s.r.length cn, .int .i64 s.q, .int .i64 s.d]) s) := HT2_w10.out.below hb
      have HX2_w11 : Hid (Bk w11 w6.heap.size 32 #[.slice an s.r.length cn, .int .i64 s.q, .int .i64 s.d]) := HX2_w10.out.below hb
      have HGb_w11 : Hid (Bk w11 PPg 69 #[.slice fag EF.st.r.length fcg, .int .i64 EF.st.q, .int .i64 EF.st.d, .slice gag EF.s.length gcg, .slice hag EF.x.length hcg, .int .i64 EF.k]) := HGb_w10.out.below hb
      have HG_w11 : Hid (EfF (fun k => (Vw6.heap.size ≤ k ∧ k < w7.heap.size) ∧ k ≠ PPg) w11 (.agg #[.slice fag EF.st.r.length fcg, .int .i64 EF.st.q, .int .i64 EF.st.d, .slice gag EF.s.length gcg, .slice hag EF.x.length hcg, .int .i64 EF.k]) EF) := HG_w10.out.below hb
      clear HB_w10 HP_w10 HQ_w10 HV_w10 HSb_w10 HS_w10 HR_w10 HX0_w10 HJ_w10 HT2_w10 HX2_w10 HGb_w10 HG_w10
      have HJ2_w11 : Hid (IsI w11 (sl w10.heap.size l.length) l) := hr.isI (by have := HL.out; unfold maxLen; omega)
      clear hb hr
      go_wp2_with fail
      refine (eqI_same _ _ l _ (by have := HL.out; omega) HJ_w11.out.isI HJ2_w11.out).mono ?_
      rintro r w12 ⟨rfl, hb⟩
      have z_w12 : w11.heap.size ≤ w12.heap.size := hb.size
      have HB_w12 : Hid (Below w.heap.size w w12) := HB_w11.out.trans (hb.mono HB_w11.out.size)
      have HP_w12 : Hid (Bk w12 w.heap.size 49 #[.int .i64 m.n, .int .i64 m.s, vi0, vh0, vs0, .int .i64 m.z]) := HP_w11.out.below hb
      have HQ_w12 : Hid (Bk w12 (w.heap.size + 1) 24 #[vr2, .int .i64 s.q, .int .i64 s.d]) := HQ_w11.out.below hb
      have HV_w12 : Hid (Bk w12 (w.heap.size + 1 + 1) 30 #[.int .i64 e.t, .int .i64 e.s, .int .i64 e.q, .int .i64 e.d, .int .i64 e.k, .int .i64 e.v, .int .i64 e.g]) := HV_w11.out.below hb
      have HSb_w12 : Hid (Bk w12 PPo 69 #[.slice fao EF.st.r.length fco, .int .i64 EF.st.q, .int .i64 EF.st.d, .slice gao EF.s.length gco, .slice hao EF.x.length hco, .int .i64 EF.k]) := HSb_w11.out.below hb
      have HS_w12 : Hid (EfF (fun k => (w2.heap.size ≤ k ∧ k < w3.heap.size) ∧ k ≠ PPo) w12 (.agg #[.slice fao EF.st.r.length fco, .int .i64 EF.st.q, .int .i64 EF.st.d, .slice gao EF.s.length gco, .slice hao EF.x.length hco, .int .i64 EF.k]) EF) := HS_w11.out.below hb
      have HR_w12 : Hid (MdF (fun k => w3.heap.size ≤ k ∧ k < w4.heap.size) w12 (.agg #[.int .i64 m.n, .int .i64 m.s, .slice aui m.i.length cui, .slice auh m.h.length cuh, .slice aue m.e.length cue, .int .i64 m.z]) m) := HR_w11.out.below hb
      have HX0_w12 : Hid (Bk w12 w4.heap.size 55 #[.int .i64 m.n, .int .i64 m.s, .slice aui m.i.length cui, .slice auh m.h.length cuh, .slice aue m.e.length cue, .int .i64 m.z]) := HX0_w11.out.below hb
      have HJ_w12 : Hid (RowF (fun k => k = Vw4.heap.size) w12 (sl Vw4.heap.size l.length) l.length 1 (intCells l)) := HJ_w11.out.below hb
      have HT2_w12 : Hid (StF (fun k => w5.heap.size ≤ k ∧ k < w6.heap.size) w12 (.agg #[.slice an s.r.length cn, .int .i64 s.q, .int .i64 s.d]) s) := HT2_w11.out.below hb
      have HX2_w12 : Hid (Bk w12 w6.heap.size 32 #[.slice an s.r.length cn, .int .i64 s.q, .int .i64 s.d]) := HX2_w11.out.below hb
      have HGb_w12 : Hid (Bk w12 PPg 69 #[.slice fag EF.st.r.length fcg, .int .i64 EF.st.q, .int .i64 EF.st.d, .slice gag EF.s.length gcg, .slice hag EF.x.length hcg, .int .i64 EF.k]) := HGb_w11.out.below hb
      have HG_w12 : Hid (EfF (fun k => (Vw6.heap.size ≤ k ∧ k < w7.heap.size) ∧ k ≠ PPg) w12 (.agg #[.slice fag EF.st.r.length fcg, .int .i64 EF.st.q, .int .i64 EF.st.d, .slice gag EF.s.length gcg, .slice hag EF.x.length hcg, .int .i64 EF.k]) EF) := HG_w11.out.below hb
      clear HB_w11 HP_w11 HQ_w11 HV_w11 HSb_w11 HS_w11 HR_w11 HX0_w11 HJ_w11 HT2_w11 HX2_w11 HGb_w11 HG_w11 HJ2_w11
      clear hb
      have r0 := HX2_w12.out.cell (i := 0) rfl
      have r1 := HX2_w12.out.cell (i := 1) rfl
      have r2 := HX2_w12.out.cell (i := 2) rfl
      have p0 := HQ_w12.out.cell (i := 0) rfl
      have p1 := HQ_w12.out.cell (i := 1) rfl
      have p2 := HQ_w12.out.cell (i := 2) rfl
      go_wp2_with fail
      go_region_held3 (fun W => W.cell? ⟨w6.heap.size, 0, none⟩ = some (.slice an s.r.length cn) ∧ W.cell? ⟨w6.heap.size, 1, none⟩ = some (.int .i64 s.q) ∧ W.cell? ⟨w6.heap.size, 2, none⟩ = some (.int .i64 s.d) ∧ W.cell? ⟨w.heap.size + 1, 0, none⟩ = some vr2 ∧ W.cell? ⟨w.heap.size + 1, 1, none⟩ = some (.int .i64 s.q) ∧ W.cell? ⟨w.heap.size + 1, 2, none⟩ = some (.int .i64 s.d)) ((repeat' apply And.intro) <;> first | (go_keep; done) | (rw [hcA _ _ (by first | omega | (simp; omega))]; simp [*]; done))
        (first | (go_at_call 36; refine (toState_any _ s _ HSL.out (HY.out.below HB_w12.out.drew)).mono ?_; rintro r w13 ⟨yx, rfl, hbw13, hr2⟩; obtain ⟨hcA, hfA⟩ := bcell hbw13; have hzw13 : w12.heap.size ≤ w13.heap.size := hbw13.size) | (go_at_call 39; refine (eqState_same _ _ s _ HSL.out (HT2_w12.out.below ((Below.refl _ w12).drew.trans hbw13)).isS hr2.isS).mono ?_; rintro r w14 ⟨rfl, hbw14⟩; obtain ⟨hcA, hfA⟩ := bcell hbw14; have hzw14 : w13.heap.size ≤ w14.heap.size := hbw14.size))
      clear hcA hfA
      have hbc : Below w12.heap.size w12 w14 := ((Below.refl w12.heap.size w12).drew.trans (hbw13.mono (Nat.le_refl _))).trans (hbw14.mono (by omega))
      clear r0 r1 r2
      clear p0 p1 p2
      have z_w14 : w12.heap.size ≤ w14.heap.size := hbc.size
      have HB_w14 : Hid (Below w.heap.size w w14) := HB_w12.out.trans (hbc.mono HB_w12.out.size)
      have HP_w14 : Hid (Bk w14 w.heap.size 49 #[.int .i64 m.n, .int .i64 m.s, vi0, vh0, vs0, .int .i64 m.z]) := HP_w12.out.below hbc
      have HQ_w14 : Hid (Bk w14 (w.heap.size + 1) 24 #[vr2, .int .i64 s.q, .int .i64 s.d]) := HQ_w12.out.below hbc
      have HV_w14 : Hid (Bk w14 (w.heap.size + 1 + 1) 30 #[.int .i64 e.t, .int .i64 e.s, .int .i64 e.q, .int .i64 e.d, .int .i64 e.k, .int .i64 e.v, .int .i64 e.g]) := HV_w12.out.below hbc
      have HSb_w14 : Hid (Bk w14 PPo 69 #[.slice fao EF.st.r.length fco, .int .i64 EF.st.q, .int .i64 EF.st.d, .slice gao EF.s.length gco, .slice hao EF.x.length hco, .int .i64 EF.k]) := HSb_w12.out.below hbc
      have HS_w14 : Hid (EfF (fun k => (w2.heap.size ≤ k ∧ k < w3.heap.size) ∧ k ≠ PPo) w14 (.agg #[.slice fao EF.st.r.length fco, .int .i64 EF.st.q, .int .i64 EF.st.d, .slice gao EF.s.length gco, .slice hao EF.x.length hco, .int .i64 EF.k]) EF) := HS_w12.out.below hbc
      have HR_w14 : Hid (MdF (fun k => w3.heap.size ≤ k ∧ k < w4.heap.size) w14 (.agg #[.int .i64 m.n, .int .i64 m.s, .slice aui m.i.length cui, .slice auh m.h.length cuh, .slice aue m.e.length cue, .int .i64 m.z]) m) := HR_w12.out.below hbc
      have HX0_w14 : Hid (Bk w14 w4.heap.size 55 #[.int .i64 m.n, .int .i64 m.s, .slice aui m.i.length cui, .slice auh m.h.length cuh, .slice aue m.e.length cue, .int .i64 m.z]) := HX0_w12.out.below hbc
      have HJ_w14 : Hid (RowF (fun k => k = Vw4.heap.size) w14 (sl Vw4.heap.size l.length) l.length 1 (intCells l)) := HJ_w12.out.below hbc
      have HT2_w14 : Hid (StF (fun k => w5.heap.size ≤ k ∧ k < w6.heap.size) w14 (.agg #[.slice an s.r.length cn, .int .i64 s.q, .int .i64 s.d]) s) := HT2_w12.out.below hbc
      have HX2_w14 : Hid (Bk w14 w6.heap.size 32 #[.slice an s.r.length cn, .int .i64 s.q, .int .i64 s.d]) := HX2_w12.out.below hbc
      have HGb_w14 : Hid (Bk w14 PPg 69 #[.slice fag EF.st.r.length fcg, .int .i64 EF.st.q, .int .i64 EF.st.d, .slice gag EF.s.length gcg, .slice hag EF.x.length hcg, .int .i64 EF.k]) := HGb_w12.out.below hbc
      have HG_w14 : Hid (EfF (fun k => (Vw6.heap.size ≤ k ∧ k < w7.heap.size) ∧ k ≠ PPg) w14 (.agg #[.slice fag EF.st.r.length fcg, .int .i64 EF.st.q, .int .i64 EF.st.d, .slice gag EF.s.length gcg, .slice hag EF.x.length hcg, .int .i64 EF.k]) EF) := HG_w12.out.below hbc
      clear HB_w12 HP_w12 HQ_w12 HV_w12 HSb_w12 HS_w12 HR_w12 HX0_w12 HJ_w12 HT2_w12 HX2_w12 HGb_w12 HG_w12
      clear hbc hr2 hbw13 hzw13 hbw14 hzw14
      have r0 := HX0_w14.out.cell (i := 0) rfl
      have r1 := HX0_w14.out.cell (i := 1) rfl
      have r2 := HX0_w14.out.cell (i := 2) rfl
      have r3 := HX0_w14.out.cell (i := 3) rfl
      have r4 := HX0_w14.out.cell (i := 4) rfl
      have r5 := HX0_w14.out.cell (i := 5) rfl
      go_wp2_with fail
      clear r0 r1 r2 r3 r4 r5
      refine (markModel_any HSM.out HR_w14.out (fun k e => by omega)).mono ?_
      rintro r w15 ⟨rfl, _, ht⟩
      have z_w15 : w14.heap.size ≤ w15.heap.size := ht.size
      have HB_w15 : Hid (Below w.heap.size w w15) := HB_w14.out.trans (ht.to_below (fun k e => by omega) (by omega))
      have HP_w15 : Hid (Bk w15 w.heap.size 49 #[.int .i64 m.n, .int .i64 m.s, vi0, vh0, vs0, .int .i64 m.z]) := HP_w14.out.turns ht (fun e => by omega)
      have HQ_w15 : Hid (Bk w15 (w.heap.size + 1) 24 #[vr2, .int .i64 s.q, .int .i64 s.d]) := HQ_w14.out.turns ht (fun e => by omega)
      have HV_w15 : Hid (Bk w15 (w.heap.size + 1 + 1) 30 #[.int .i64 e.t, .int .i64 e.s, .int .i64 e.q, .int .i64 e.d, .int .i64 e.k, .int .i64 e.v, .int .i64 e.g]) := HV_w14.out.turns ht (fun e => by omega)
      have HSb_w15 : Hid (Bk w15 PPo 69 #[.slice fao EF.st.r.length fco, .int .i64 EF.st.q, .int .i64 EF.st.d, .slice gao EF.s.length gco, .slice hao EF.x.length hco, .int .i64 EF.k]) := HSb_w14.out.turns ht (fun e => by omega)
      have HS_w15 : Hid (EfF (fun k => (w2.heap.size ≤ k ∧ k < w3.heap.size) ∧ k ≠ PPo) w15 (.agg #[.slice fao EF.st.r.length fco, .int .i64 EF.st.q, .int .i64 EF.st.d, .slice gao EF.s.length gco, .slice hao EF.x.length hco, .int .i64 EF.k]) EF) := HS_w14.out.turns ht (fun k e => by omega)
      have HJ_w15 : Hid (RowF (fun k => k = Vw4.heap.size) w15 (sl Vw4.heap.size l.length) l.length 1 (intCells l)) := HJ_w14.out.turns ht (fun k e => by omega)
      have HT2_w15 : Hid (StF (fun k => w5.heap.size ≤ k ∧ k < w6.heap.size) w15 (.agg #[.slice an s.r.length cn, .int .i64 s.q, .int .i64 s.d]) s) := HT2_w14.out.turns ht (fun k e => by omega)
      have HX2_w15 : Hid (Bk w15 w6.heap.size 32 #[.slice an s.r.length cn, .int .i64 s.q, .int .i64 s.d]) := HX2_w14.out.turns ht (fun e => by omega)
      have HGb_w15 : Hid (Bk w15 PPg 69 #[.slice fag EF.st.r.length fcg, .int .i64 EF.st.q, .int .i64 EF.st.d, .slice gag EF.s.length gcg, .slice hag EF.x.length hcg, .int .i64 EF.k]) := HGb_w14.out.turns ht (fun e => by omega)
      have HG_w15 : Hid (EfF (fun k => (Vw6.heap.size ≤ k ∧ k < w7.heap.size) ∧ k ≠ PPg) w15 (.agg #[.slice fag EF.st.r.length fcg, .int .i64 EF.st.q, .int .i64 EF.st.d, .slice gag EF.s.length gcg, .slice hag EF.x.length hcg, .int .i64 EF.k]) EF) := HG_w14.out.turns ht (fun k e => by omega)
      clear HB_w14 HP_w14 HQ_w14 HV_w14 HSb_w14 HS_w14 HR_w14 HX0_w14 HJ_w14 HT2_w14 HX2_w14 HGb_w14 HG_w14
      clear ht
      obtain ⟨mk, hmk⟩ : ∃ mk, markNo m = mk := ⟨_, rfl⟩
      have hmk0 : 1 ≤ mk := hmk ▸ markNo_pos m
      have hmk1 : mk ≤ 1000000000 := hmk ▸ markNo_high HSM.out
      rw [hmk]
      clear hmk
      have hl9 : l.length ≤ 1048577 := by have := HL.out; omega
      have hs9 : s.r.length ≤ 1048577 := by have := HSL.out; omega
      go_wp2_with fail
      refine (markIF (F := fun k => k = Vw4.heap.size) mk hl9 (by omega) (by omega) HJ_w15.out).mono ?_
      rintro r w16 ⟨rfl, _, ht⟩
      have z_w16 : w15.heap.size ≤ w16.heap.size := ht.size
      have HB_w16 : Hid (Below w.heap.size w w16) := HB_w15.out.trans (ht.to_below (fun k e => by omega) (by omega))
      have HP_w16 : Hid (Bk w16 w.heap.size 49 #[.int .i64 m.n, .int .i64 m.s, vi0, vh0, vs0, .int .i64 m.z]) := HP_w15.out.turns ht (fun e => by omega)
      have HQ_w16 : Hid (Bk w16 (w.heap.size + 1) 24 #[vr2, .int .i64 s.q, .int .i64 s.d]) := HQ_w15.out.turns ht (fun e => by omega)
      have HV_w16 : Hid (Bk w16 (w.heap.size + 1 + 1) 30 #[.int .i64 e.t, .int .i64 e.s, .int .i64 e.q, .int .i64 e.d, .int .i64 e.k, .int .i64 e.v, .int .i64 e.g]) := HV_w15.out.turns ht (fun e => by omega)
      have HSb_w16 : Hid (Bk w16 PPo 69 #[.slice fao EF.st.r.length fco, .int .i64 EF.st.q, .int .i64 EF.st.d, .slice gao EF.s.length gco, .slice hao EF.x.length hco, .int .i64 EF.k]) := HSb_w15.out.turns ht (fun e => by omega)
      have HS_w16 : Hid (EfF (fun k => (w2.heap.size ≤ k ∧ k < w3.heap.size) ∧ k ≠ PPo) w16 (.agg #[.slice fao EF.st.r.length fco, .int .i64 EF.st.q, .int .i64 EF.st.d, .slice gao EF.s.length gco, .slice hao EF.x.length hco, .int .i64 EF.k]) EF) := HS_w15.out.turns ht (fun k e => by omega)
      have HT2_w16 : Hid (StF (fun k => w5.heap.size ≤ k ∧ k < w6.heap.size) w16 (.agg #[.slice an s.r.length cn, .int .i64 s.q, .int .i64 s.d]) s) := HT2_w15.out.turns ht (fun k e => by omega)
      have HX2_w16 : Hid (Bk w16 w6.heap.size 32 #[.slice an s.r.length cn, .int .i64 s.q, .int .i64 s.d]) := HX2_w15.out.turns ht (fun e => by omega)
      have HGb_w16 : Hid (Bk w16 PPg 69 #[.slice fag EF.st.r.length fcg, .int .i64 EF.st.q, .int .i64 EF.st.d, .slice gag EF.s.length gcg, .slice hag EF.x.length hcg, .int .i64 EF.k]) := HGb_w15.out.turns ht (fun e => by omega)
      have HG_w16 : Hid (EfF (fun k => (Vw6.heap.size ≤ k ∧ k < w7.heap.size) ∧ k ≠ PPg) w16 (.agg #[.slice fag EF.st.r.length fcg, .int .i64 EF.st.q, .int .i64 EF.st.d, .slice gag EF.s.length gcg, .slice hag EF.x.length hcg, .int .i64 EF.k]) EF) := HG_w15.out.turns ht (fun k e => by omega)
      clear HB_w15 HP_w15 HQ_w15 HV_w15 HSb_w15 HS_w15 HJ_w15 HT2_w15 HX2_w15 HGb_w15 HG_w15
      clear ht
      have q0 := HX2_w16.out.cell (i := 0) rfl
      have q1 := HX2_w16.out.cell (i := 1) rfl
      have q2 := HX2_w16.out.cell (i := 2) rfl
      go_wp2_with fail
      clear q0 q1 q2
      refine (markState_any (mk + (l.length : Int)) hs9 (by omega) (by omega) HT2_w16.out).mono ?_
      rintro r w17 ⟨rfl, _, ht⟩
      have z_w17 : w16.heap.size ≤ w17.heap.size := ht.size
      have HB_w17 : Hid (Below w.heap.size w w17) := HB_w16.out.trans (ht.to_below (fun k e => by omega) (by omega))
      have HP_w17 : Hid (Bk w17 w.heap.size 49 #[.int .i64 m.n, .int .i64 m.s, vi0, vh0, vs0, .int .i64 m.z]) := HP_w16.out.turns ht (fun e => by omega)
      have HQ_w17 : Hid (Bk w17 (w.heap.size + 1) 24 #[vr2, .int .i64 s.q, .int .i64 s.d]) := HQ_w16.out.turns ht (fun e => by omega)
      have HV_w17 : Hid (Bk w17 (w.heap.size + 1 + 1) 30 #[.int .i64 e.t, .int .i64 e.s, .int .i64 e.q, .int .i64 e.d, .int .i64 e.k, .int .i64 e.v, .int .i64 e.g]) := HV_w16.out.turns ht (fun e => by omega)
      have HSb_w17 : Hid (Bk w17 PPo 69 #[.slice fao EF.st.r.length fco, .int .i64 EF.st.q, .int .i64 EF.st.d, .slice gao EF.s.length gco, .slice hao EF.x.length hco, .int .i64 EF.k]) := HSb_w16.out.turns ht (fun e => by omega)
      have HS_w17 : Hid (EfF (fun k => (w2.heap.size ≤ k ∧ k < w3.heap.size) ∧ k ≠ PPo) w17 (.agg #[.slice fao EF.st.r.length fco, .int .i64 EF.st.q, .int .i64 EF.st.d, .slice gao EF.s.length gco, .slice hao EF.x.length hco, .int .i64 EF.k]) EF) := HS_w16.out.turns ht (fun k e => by omega)
      have HGb_w17 : Hid (Bk w17 PPg 69 #[.slice fag EF.st.r.length fcg, .int .i64 EF.st.q, .int .i64 EF.st.d, .slice gag EF.s.length gcg, .slice hag EF.x.length hcg, .int .i64 EF.k]) := HGb_w16.out.turns ht (fun e => by omega)
      have HG_w17 : Hid (EfF (fun k => (Vw6.heap.size ≤ k ∧ k < w7.heap.size) ∧ k ≠ PPg) w17 (.agg #[.slice fag EF.st.r.length fcg, .int .i64 EF.st.q, .int .i64 EF.st.d, .slice gag EF.s.length gcg, .slice hag EF.x.length hcg, .int .i64 EF.k]) EF) := HG_w16.out.turns ht (fun k e => by omega)
      clear HB_w16 HP_w16 HQ_w16 HV_w16 HSb_w16 HS_w16 HT2_w16 HX2_w16 HGb_w16 HG_w16
      clear ht
      have hkn : ¬ (mk + (l.length : Int) + (s.r.length : Int) < 0) := by omega
      have g0 := HGb_w17.out.cell (i := 0) rfl
      have g1 := HGb_w17.out.cell (i := 1) rfl
      have g2 := HGb_w17.out.cell (i := 2) rfl
      have g3 := HGb_w17.out.cell (i := 3) rfl
      have g4 := HGb_w17.out.cell (i := 4) rfl
      have g5 := HGb_w17.out.cell (i := 5) rfl
      have t0 := HSb_w17.out.cell (i := 0) rfl
      have t1 := HSb_w17.out.cell (i := 1) rfl
      have t2 := HSb_w17.out.cell (i := 2) rfl
      have t3 := HSb_w17.out.cell (i := 3) rfl
      have t4 := HSb_w17.out.cell (i := 4) rfl
      have t5 := HSb_w17.out.cell (i := 5) rfl
      go_wp2_with fail
      clear g0 g1 g2 g3 g4 g5
      clear t0 t1 t2 t3 t4 t5
      refine (eqEffect_same _ _ EF _ HE.out HG_w17.out HS_w17.out).mono ?_
      rintro r w18 ⟨rfl, hb⟩
      have z_w18 : w17.heap.size ≤ w18.heap.size := hb.size
      have HB_w18 : Hid (Below w.heap.size w w18) := HB_w17.out.trans (hb.mono HB_w17.out.size)
      have HP_w18 : Hid (Bk w18 w.heap.size 49 #[.int .i64 m.n, .int .i64 m.s, vi0, vh0, vs0, .int .i64 m.z]) := HP_w17.out.below hb
      have HQ_w18 : Hid (Bk w18 (w.heap.size + 1) 24 #[vr2, .int .i64 s.q, .int .i64 s.d]) := HQ_w17.out.below hb
      have HV_w18 : Hid (Bk w18 (w.heap.size + 1 + 1) 30 #[.int .i64 e.t, .int .i64 e.s, .int .i64 e.q, .int .i64 e.d, .int .i64 e.k, .int .i64 e.v, .int .i64 e.g]) := HV_w17.out.below hb
      have HSb_w18 : Hid (Bk w18 PPo 69 #[.slice fao EF.st.r.length fco, .int .i64 EF.st.q, .int .i64 EF.st.d, .slice gao EF.s.length gco, .slice hao EF.x.length hco, .int .i64 EF.k]) := HSb_w17.out.below hb
      have HS_w18 : Hid (EfF (fun k => (w2.heap.size ≤ k ∧ k < w3.heap.size) ∧ k ≠ PPo) w18 (.agg #[.slice fao EF.st.r.length fco, .int .i64 EF.st.q, .int .i64 EF.st.d, .slice gao EF.s.length gco, .slice hao EF.x.length hco, .int .i64 EF.k]) EF) := HS_w17.out.below hb
      have HGb_w18 : Hid (Bk w18 PPg 69 #[.slice fag EF.st.r.length fcg, .int .i64 EF.st.q, .int .i64 EF.st.d, .slice gag EF.s.length gcg, .slice hag EF.x.length hcg, .int .i64 EF.k]) := HGb_w17.out.below hb
      have HG_w18 : Hid (EfF (fun k => (Vw6.heap.size ≤ k ∧ k < w7.heap.size) ∧ k ≠ PPg) w18 (.agg #[.slice fag EF.st.r.length fcg, .int .i64 EF.st.q, .int .i64 EF.st.d, .slice gag EF.s.length gcg, .slice hag EF.x.length hcg, .int .i64 EF.k]) EF) := HG_w17.out.below hb
      clear HB_w17 HP_w17 HQ_w17 HV_w17 HSb_w17 HS_w17 HGb_w17 HG_w17
      clear hb
      have g0 := HGb_w18.out.cell (i := 0) rfl
      have g1 := HGb_w18.out.cell (i := 1) rfl
      have g2 := HGb_w18.out.cell (i := 2) rfl
      have g3 := HGb_w18.out.cell (i := 3) rfl
      have g4 := HGb_w18.out.cell (i := 4) rfl
      have g5 := HGb_w18.out.cell (i := 5) rfl
      go_wp2_with fail
      clear g0 g1 g2 g3 g4 g5
      refine (markEffect_any HE.out HG_w18.out (fun k e => by omega)).mono ?_
      rintro r w19 ⟨rfl, hh, ht⟩
      have z_w19 : w18.heap.size ≤ w19.heap.size := ht.size
      have HB_w19 : Hid (Below w.heap.size w w19) := HB_w18.out.trans (ht.to_below (fun k e => by omega) (by omega))
      have HP_w19 : Hid (Bk w19 w.heap.size 49 #[.int .i64 m.n, .int .i64 m.s, vi0, vh0, vs0, .int .i64 m.z]) := HP_w18.out.turns ht (fun e => by omega)
      have HQ_w19 : Hid (Bk w19 (w.heap.size + 1) 24 #[vr2, .int .i64 s.q, .int .i64 s.d]) := HQ_w18.out.turns ht (fun e => by omega)
      have HV_w19 : Hid (Bk w19 (w.heap.size + 1 + 1) 30 #[.int .i64 e.t, .int .i64 e.s, .int .i64 e.q, .int .i64 e.d, .int .i64 e.k, .int .i64 e.v, .int .i64 e.g]) := HV_w18.out.turns ht (fun e => by omega)
      have HSb_w19 : Hid (Bk w19 PPo 69 #[.slice fao EF.st.r.length fco, .int .i64 EF.st.q, .int .i64 EF.st.d, .slice gao EF.s.length gco, .slice hao EF.x.length hco, .int .i64 EF.k]) := HSb_w18.out.turns ht (fun e => by omega)
      have HS_w19 : Hid (EfF (fun k => (w2.heap.size ≤ k ∧ k < w3.heap.size) ∧ k ≠ PPo) w19 (.agg #[.slice fao EF.st.r.length fco, .int .i64 EF.st.q, .int .i64 EF.st.d, .slice gao EF.s.length gco, .slice hao EF.x.length hco, .int .i64 EF.k]) EF) := HS_w18.out.turns ht (fun k e => by omega)
      have HGb_w19 : Hid (Bk w19 PPg 69 #[.slice fag EF.st.r.length fcg, .int .i64 EF.st.q, .int .i64 EF.st.d, .slice gag EF.s.length gcg, .slice hag EF.x.length hcg, .int .i64 EF.k]) := HGb_w18.out.turns ht (fun e => by omega)
      clear HB_w18 HP_w18 HQ_w18 HV_w18 HSb_w18 HS_w18 HGb_w18 HG_w18
      have HH_w19 : Hid (HeldE (fun k => (Vw6.heap.size ≤ k ∧ k < w7.heap.size) ∧ k ≠ PPg) w19 (.agg #[.slice fag EF.st.r.length fcg, .int .i64 EF.st.q, .int .i64 EF.st.d, .slice gag EF.s.length gcg, .slice hag EF.x.length hcg, .int .i64 EF.k]) EF) := hh
      clear hh ht
      have hmn : ¬ (markE EF < 0) := by have := markE_pos EF; omega
      have g0 := HGb_w19.out.cell (i := 0) rfl
      have g1 := HGb_w19.out.cell (i := 1) rfl
      have g2 := HGb_w19.out.cell (i := 2) rfl
      have g3 := HGb_w19.out.cell (i := 3) rfl
      have g4 := HGb_w19.out.cell (i := 4) rfl
      have g5 := HGb_w19.out.cell (i := 5) rfl
      go_wp2_with fail
      clear g0 g1 g2 g3 g4 g5
      refine (heldEffect_any HE.out HH_w19.out).mono ?_
      rintro r w20 ⟨rfl, hb⟩
      have z_w20 : w19.heap.size ≤ w20.heap.size := hb.size
      have HB_w20 : Hid (Below w.heap.size w w20) := HB_w19.out.trans (hb.mono HB_w19.out.size)
      have HP_w20 : Hid (Bk w20 w.heap.size 49 #[.int .i64 m.n, .int .i64 m.s, vi0, vh0, vs0, .int .i64 m.z]) := HP_w19.out.below hb
      have HQ_w20 : Hid (Bk w20 (w.heap.size + 1) 24 #[vr2, .int .i64 s.q, .int .i64 s.d]) := HQ_w19.out.below hb
      have HV_w20 : Hid (Bk w20 (w.heap.size + 1 + 1) 30 #[.int .i64 e.t, .int .i64 e.s, .int .i64 e.q, .int .i64 e.d, .int .i64 e.k, .int .i64 e.v, .int .i64 e.g]) := HV_w19.out.below hb
      have HSb_w20 : Hid (Bk w20 PPo 69 #[.slice fao EF.st.r.length fco, .int .i64 EF.st.q, .int .i64 EF.st.d, .slice gao EF.s.length gco, .slice hao EF.x.length hco, .int .i64 EF.k]) := HSb_w19.out.below hb
      have HS_w20 : Hid (EfF (fun k => (w2.heap.size ≤ k ∧ k < w3.heap.size) ∧ k ≠ PPo) w20 (.agg #[.slice fao EF.st.r.length fco, .int .i64 EF.st.q, .int .i64 EF.st.d, .slice gao EF.s.length gco, .slice hao EF.x.length hco, .int .i64 EF.k]) EF) := HS_w19.out.below hb
      have HGb_w20 : Hid (Bk w20 PPg 69 #[.slice fag EF.st.r.length fcg, .int .i64 EF.st.q, .int .i64 EF.st.d, .slice gag EF.s.length gcg, .slice hag EF.x.length hcg, .int .i64 EF.k]) := HGb_w19.out.below hb
      have HH_w20 : Hid (HeldE (fun k => (Vw6.heap.size ≤ k ∧ k < w7.heap.size) ∧ k ≠ PPg) w20 (.agg #[.slice fag EF.st.r.length fcg, .int .i64 EF.st.q, .int .i64 EF.st.d, .slice gag EF.s.length gcg, .slice hag EF.x.length hcg, .int .i64 EF.k]) EF) := HH_w19.out.below hb
      clear HB_w19 HP_w19 HQ_w19 HV_w19 HSb_w19 HS_w19 HGb_w19 HH_w19
      clear hb
      have p0 := HP_w20.out.cell (i := 0) rfl
      have p1 := HP_w20.out.cell (i := 1) rfl
      have p2 := HP_w20.out.cell (i := 2) rfl
      have p3 := HP_w20.out.cell (i := 3) rfl
      have p4 := HP_w20.out.cell (i := 4) rfl
      have p5 := HP_w20.out.cell (i := 5) rfl
      have q0 := HQ_w20.out.cell (i := 0) rfl
      have q1 := HQ_w20.out.cell (i := 1) rfl
      have q2 := HQ_w20.out.cell (i := 2) rfl
      have v0 := HV_w20.out.cell (i := 0) rfl
      have v1 := HV_w20.out.cell (i := 1) rfl
      have v2 := HV_w20.out.cell (i := 2) rfl
      have v3 := HV_w20.out.cell (i := 3) rfl
      have v4 := HV_w20.out.cell (i := 4) rfl
      have v5 := HV_w20.out.cell (i := 5) rfl
      have v6 := HV_w20.out.cell (i := 6) rfl
      go_wp2_with fail
      clear p0 p1 p2 p3 p4 p5
      clear q0 q1 q2
      clear v0 v1 v2 v3 v4 v5 v6
      go_cut [20, 21] from 22 (fun s20 s21 wc => ∃ PP fak fck gak gck hak hck, s20 = .pointer (some ⟨PP, 0, none⟩) ∧ s21 = .bool b ∧ Below w20.heap.size w20 wc ∧ (w20.heap.size ≤ PP ∧ PP < wc.heap.size) ∧ Bk wc PP 69 #[.slice fak EF.st.r.length fck, .int .i64 EF.st.q, .int .i64 EF.st.d, .slice gak EF.s.length gck, .slice hak EF.x.length hck, .int .i64 EF.k] ∧ EfF (fun k => (w20.heap.size ≤ k ∧ k < wc.heap.size) ∧ k ≠ PP) wc (.agg #[.slice fak EF.st.r.length fck, .int .i64 EF.st.q, .int .i64 EF.st.d, .slice gak EF.s.length gck, .slice hak EF.x.length hck, .int .i64 EF.k]) EF)
      case first =>
        refine wp_region_held_drew (S := fun W => W.cell? ⟨w.heap.size, 0, none⟩ = some (.int .i64 m.n) ∧ W.cell? ⟨w.heap.size, 1, none⟩ = some (.int .i64 m.s) ∧ W.cell? ⟨w.heap.size, 2, none⟩ = some vi0 ∧ W.cell? ⟨w.heap.size, 3, none⟩ = some vh0 ∧ W.cell? ⟨w.heap.size, 4, none⟩ = some vs0 ∧ W.cell? ⟨w.heap.size, 5, none⟩ = some (.int .i64 m.z) ∧ W.cell? ⟨w.heap.size + 1, 0, none⟩ = some vr2 ∧ W.cell? ⟨w.heap.size + 1, 1, none⟩ = some (.int .i64 s.q) ∧ W.cell? ⟨w.heap.size + 1, 2, none⟩ = some (.int .i64 s.d) ∧ W.cell? ⟨w.heap.size + 1 + 1, 0, none⟩ = some (.int .i64 e.t) ∧ W.cell? ⟨w.heap.size + 1 + 1, 1, none⟩ = some (.int .i64 e.s) ∧ W.cell? ⟨w.heap.size + 1 + 1, 2, none⟩ = some (.int .i64 e.q) ∧ W.cell? ⟨w.heap.size + 1 + 1, 3, none⟩ = some (.int .i64 e.d) ∧ W.cell? ⟨w.heap.size + 1 + 1, 4, none⟩ = some (.int .i64 e.k) ∧ W.cell? ⟨w.heap.size + 1 + 1, 5, none⟩ = some (.int .i64 e.v) ∧ W.cell? ⟨w.heap.size + 1 + 1, 6, none⟩ = some (.int .i64 e.g)) (by kernel_rfl) (keepA (HP_w20.out.below (Below.refl w20.heap.size w20).drew) (HQ_w20.out.below (Below.refl w20.heap.size w20).drew) (HV_w20.out.below (Below.refl w20.heap.size w20).drew)) (fun hHeld => ?_)
        refine wpAnyH_take (i := 0) (oi := { dst := some 120, op := Op.load 49 (Operand.tmp 4), type := 49, pos := _, after := _, guard := none }) (v := .agg #[.int .i64 m.n, .int .i64 m.s, vi0, vh0, vs0, .int .i64 m.z]) rfl (by kernel_rfl) (by kernel_rfl) (by kernel_rfl) (fun _ _ _ h => h) (Or.inl ⟨by rfl, ?_⟩) (by assumption) ?_
        · intro wX hSw
          try dsimp only at hSw
          go_simp
        try simp only [Act.put, List.setIfInBounds_toArray, List.set_cons_zero, List.set_cons_succ]
        refine wpAnyH_take (i := 2) (oi := { dst := some 122, op := Op.move (Operand.tmp 1), type := 22, pos := _, after := _, guard := none }) (v := .slice ad l.length cd) rfl (by kernel_rfl) (by kernel_rfl) (by kernel_rfl) (fun _ _ _ h => h) (Or.inl ⟨by rfl, ?_⟩) (by assumption) ?_
        · intro wX hSw
          try dsimp only at hSw
          go_simp
        try simp only [Act.put, List.setIfInBounds_toArray, List.set_cons_zero, List.set_cons_succ]
        refine wpAnyH_take (i := 4) (oi := { dst := some 124, op := Op.load 24 (Operand.tmp 6), type := 24, pos := _, after := _, guard := none }) (v := .agg #[vr2, .int .i64 s.q, .int .i64 s.d]) rfl (by kernel_rfl) (by kernel_rfl) (by kernel_rfl) (fun _ _ _ h => h) (Or.inl ⟨by rfl, ?_⟩) (by assumption) ?_
        · intro wX hSw
          try dsimp only at hSw
          go_simp
        try simp only [Act.put, List.setIfInBounds_toArray, List.set_cons_zero, List.set_cons_succ]
        refine wpAnyH_take (i := 6) (oi := { dst := some 126, op := Op.load 30 (Operand.tmp 7), type := 30, pos := _, after := _, guard := none }) (v := .agg #[.int .i64 e.t, .int .i64 e.s, .int .i64 e.q, .int .i64 e.d, .int .i64 e.k, .int .i64 e.v, .int .i64 e.g]) rfl (by kernel_rfl) (by kernel_rfl) (by kernel_rfl) (fun _ _ _ h => h) (Or.inl ⟨by rfl, ?_⟩) (by assumption) ?_
        · intro wX hSw
          try dsimp only at hSw
          go_simp
        try simp only [Act.put, List.setIfInBounds_toArray, List.set_cons_zero, List.set_cons_succ]
        refine wpAnyH_ready (rs := [1, 12]) (by kernel_rfl) (by simp) ?_
        refine AllReadyH.cons (o := { dst := some 121, op := Op.call { callee := Callee.value (Operand.func 25), args := #[Operand.tmp 120], argTypes := #[49] }, type := 55, pos := _, after := _, guard := none }) rfl (fun K hK => ?_) (AllReadyH.cons (o := { dst := some 20, op := Op.alloc 69, type := 0, pos := _, after := _, guard := none }) rfl (fun K hK => ?_) AllReadyH.nil)
        · go_simp
          refine (toModel_any _ m _ HSM.out (HX.out.below (HB_w20.out.trans (((Below.refl w20.heap.size w20).drew).mono HB_w20.out.size)))).mono ?_
          rintro r wa ⟨ya, rfl, hb, hra⟩
          have hk0 : Below w20.heap.size w20 wa := ((Below.refl w20.heap.size w20).drew).trans (hb.mono ((Below.refl w20.heap.size w20).drew).size)
          have HA0 : Hid (IsM wa ya m) := hra.isM
          clear hb
          try go_simp
          refine hK.out _ _ (keepA (HP_w20.out.below hk0) (HQ_w20.out.below hk0) (HV_w20.out.below hk0)) (fun hHeld => ?_)
          clear hK K
          try simp only [Act.put, List.setIfInBounds_toArray, List.set_cons_zero, List.set_cons_succ]
          refine wpAnyH_ready (rs := [3, 12]) (by kernel_rfl) (by simp) ?_
          refine AllReadyH.cons (o := { dst := some 123, op := Op.call { callee := Callee.value (Operand.func 30), args := #[Operand.tmp 122], argTypes := #[22] }, type := 22, pos := _, after := _, guard := none }) rfl (fun K hK => ?_) (AllReadyH.cons (o := { dst := some 20, op := Op.alloc 69, type := 0, pos := _, after := _, guard := none }) rfl (fun K hK => ?_) AllReadyH.nil)
          · go_simp
            refine (toI_any _ l _ HL.out (HD.out.below (HB_w20.out.trans ((hk0).mono HB_w20.out.size)))).mono ?_
            rintro r wb ⟨hrr, hb, hrb⟩
            generalize wa.heap.size = gi at hrr hrb
            subst hrr
            have hk1 : Below w20.heap.size w20 wb := (hk0).trans (hb.mono (hk0).size)
            have HA1 : Hid (IsM wb ya m) := HA0.out.below hb
            have HI1 : Hid (IsI wb (sl gi l.length) l) := hrb.isI (by have := HL.out; unfold maxLen; omega)
            clear hb
            try go_simp
            refine hK.out _ _ (keepA (HP_w20.out.below hk1) (HQ_w20.out.below hk1) (HV_w20.out.below hk1)) (fun hHeld => ?_)
            clear hK K
            try simp only [Act.put, List.setIfInBounds_toArray, List.set_cons_zero, List.set_cons_succ]
            refine wpAnyH_ready (rs := [5, 12]) (by kernel_rfl) (by simp) ?_
            refine AllReadyH.cons (o := { dst := some 125, op := Op.call { callee := Callee.value (Operand.func 36), args := #[Operand.tmp 124], argTypes := #[24] }, type := 32, pos := _, after := _, guard := none }) rfl (fun K hK => ?_) (AllReadyH.cons (o := { dst := some 20, op := Op.alloc 69, type := 0, pos := _, after := _, guard := none }) rfl (fun K hK => ?_) AllReadyH.nil)
            · go_simp
              refine (toState_any _ s _ HSL.out (HY.out.below (HB_w20.out.trans ((hk1).mono HB_w20.out.size)))).mono ?_
              rintro r wd ⟨yd, rfl, hb, hrd⟩
              have hk2 : Below w20.heap.size w20 wd := (hk1).trans (hb.mono (hk1).size)
              have HA2 : Hid (IsM wd ya m) := HA1.out.below hb
              have HI2 : Hid (IsI wd (sl gi l.length) l) := HI1.out.below hb
              have HT2 : Hid (IsS wd yd s) := hrd.isS
              clear hb
              try go_simp
              refine hK.out _ _ (keepA (HP_w20.out.below hk2) (HQ_w20.out.below hk2) (HV_w20.out.below hk2)) (fun hHeld => ?_)
              clear hK K
              try simp only [Act.put, List.setIfInBounds_toArray, List.set_cons_zero, List.set_cons_succ]
              refine wpAnyH_ready (rs := [7, 12]) (by kernel_rfl) (by simp) ?_
              refine AllReadyH.cons (o := { dst := some 127, op := Op.call { callee := Callee.value (Operand.func 13), args := #[Operand.tmp 126], argTypes := #[30] }, type := 40, pos := _, after := _, guard := none }) rfl (fun K hK => ?_) (AllReadyH.cons (o := { dst := some 20, op := Op.alloc 69, type := 0, pos := _, after := _, guard := none }) rfl (fun K hK => ?_) AllReadyH.nil)
              · go_simp
                refine (toEvent_any e.t e.s e.q e.d e.k e.v e.g _).mono ?_
                rintro r wf ⟨rfl, hb⟩
                have hk3 : Below w20.heap.size w20 wf := (hk2).trans (hb.mono (hk2).size)
                have HA3 : Hid (IsM wf ya m) := HA2.out.below hb
                have HI3 : Hid (IsI wf (sl gi l.length) l) := HI2.out.below hb
                have HT3 : Hid (IsS wf yd s) := HT2.out.below hb
                clear hb
                try go_simp
                refine hK.out _ _ (keepA (HP_w20.out.below hk3) (HQ_w20.out.below hk3) (HV_w20.out.below hk3)) (fun hHeld => ?_)
                clear hK K
                try simp only [Act.put, List.setIfInBounds_toArray, List.set_cons_zero, List.set_cons_succ]
                refine wpAnyH_ready (rs := [8, 12]) (by kernel_rfl) (by simp) ?_
                refine AllReadyH.cons (o := { dst := some 128, op := Op.call { callee := Callee.value (Operand.func 37), args := #[Operand.tmp 121, Operand.tmp 123, Operand.tmp 125, Operand.tmp 127], argTypes := #[55, 22, 32, 40] }, type := 70, pos := _, after := _, guard := none }) rfl (fun K hK => ?_) (AllReadyH.cons (o := { dst := some 20, op := Op.alloc 69, type := 0, pos := _, after := _, guard := none }) rfl (fun K hK => ?_) AllReadyH.nil)
                · go_simp
                  have hcW : w20.heap.size ≤ wf.heap.size := (hk3).size
                  refine (HIM.out _ _ _ _ HA3.out HI3.out HT3.out).mono ?_
                  rintro r we ⟨ue, rfl, hb, hue⟩
                  obtain ⟨fak, fck, gak, gck, hak, hck, rfl⟩ := hue.form
                  have hk4 : Below w20.heap.size w20 we := (hk3).trans (hb.mono (hk3).size)
                  have HU : Hid (EfF (fun k => wf.heap.size ≤ k ∧ k < we.heap.size) we (.agg #[.slice fak EF.st.r.length fck, .int .i64 EF.st.q, .int .i64 EF.st.d, .slice gak EF.s.length gck, .slice hak EF.x.length hck, .int .i64 EF.k]) EF) := hue
                  clear hb
                  try go_simp
                  refine hK.out _ _ (keepA (HP_w20.out.below hk4) (HQ_w20.out.below hk4) (HV_w20.out.below hk4)) (fun hHeld => ?_)
                  clear hK K
                  try simp only [Act.put, List.setIfInBounds_toArray, List.set_cons_zero, List.set_cons_succ]
                  refine wpAnyH_take (i := 9) (oi := { dst := some 119, op := Op.move (Operand.tmp 128), type := 70, pos := _, after := _, guard := none }) (v := .tuple #[.agg #[.slice fak EF.st.r.length fck, .int .i64 EF.st.q, .int .i64 EF.st.d, .slice gak EF.s.length gck, .slice hak EF.x.length hck, .int .i64 EF.k], .bool b]) rfl (by kernel_rfl) (by kernel_rfl) (by kernel_rfl) (fun _ _ _ h => h) (Or.inl ⟨by rfl, ?_⟩) (by assumption) ?_
                  · intro wX hSw
                    try dsimp only at hSw
                    go_simp
                  try simp only [Act.put, List.setIfInBounds_toArray, List.set_cons_zero, List.set_cons_succ]
                  refine wpAnyH_take (i := 10) (oi := { dst := some 129, op := Op.extract (Operand.tmp 119) 0, type := 69, pos := _, after := _, guard := none }) (v := .agg #[.slice fak EF.st.r.length fck, .int .i64 EF.st.q, .int .i64 EF.st.d, .slice gak EF.s.length gck, .slice hak EF.x.length hck, .int .i64 EF.k]) rfl (by kernel_rfl) (by kernel_rfl) (by kernel_rfl) (fun _ _ _ h => h) (Or.inl ⟨by rfl, ?_⟩) (by assumption) ?_
                  · intro wX hSw
                    try dsimp only at hSw
                    go_simp
                  try simp only [Act.put, List.setIfInBounds_toArray, List.set_cons_zero, List.set_cons_succ]
                  refine wpAnyH_take (i := 11) (oi := { dst := some 130, op := Op.extract (Operand.tmp 119) 1, type := 4, pos := _, after := _, guard := none }) (v := .bool b) rfl (by kernel_rfl) (by kernel_rfl) (by kernel_rfl) (fun _ _ _ h => h) (Or.inl ⟨by rfl, ?_⟩) (by assumption) ?_
                  · intro wX hSw
                    try dsimp only at hSw
                    go_simp
                  try simp only [Act.put, List.setIfInBounds_toArray, List.set_cons_zero, List.set_cons_succ]
                  refine wpAnyH_ready (rs := [12]) (by kernel_rfl) (by simp) ?_
                  refine AllReadyH.cons (o := { dst := some 20, op := Op.alloc 69, type := 0, pos := _, after := _, guard := none }) rfl (fun K hK => ?_) AllReadyH.nil
                  go_simp
                  refine hK.out _ _ (keepA (HP_w20.out.below ((hk4).alloc (hk4).size (.cells #[.slice none 0 0, .int .i64 0, .int .i64 0, .slice none 0 0, .slice none 0 0, .int .i64 0] 69))) (HQ_w20.out.below ((hk4).alloc (hk4).size (.cells #[.slice none 0 0, .int .i64 0, .int .i64 0, .slice none 0 0, .slice none 0 0, .int .i64 0] 69))) (HV_w20.out.below ((hk4).alloc (hk4).size (.cells #[.slice none 0 0, .int .i64 0, .int .i64 0, .slice none 0 0, .slice none 0 0, .int .i64 0] 69)))) (fun hHeld => ?_)
                  clear hK K
                  try simp only [Act.put, List.setIfInBounds_toArray, List.set_cons_zero, List.set_cons_succ]
                  refine wpAnyH_ready (rs := [13]) (by kernel_rfl) (by simp) ?_
                  refine AllReadyH.cons (o := { dst := none, op := Op.store 69 (Operand.tmp 20) (Operand.tmp 129), type := 0, pos := _, after := _, guard := none }) rfl (fun K hK => ?_) AllReadyH.nil
                  go_simp
                  refine hK.out _ _ (keepA (HP_w20.out.below (hk4.alloc hk4.size (.cells #[.slice fak EF.st.r.length fck, .int .i64 EF.st.q, .int .i64 EF.st.d, .slice gak EF.s.length gck, .slice hak EF.x.length hck, .int .i64 EF.k] 69))) (HQ_w20.out.below (hk4.alloc hk4.size (.cells #[.slice fak EF.st.r.length fck, .int .i64 EF.st.q, .int .i64 EF.st.d, .slice gak EF.s.length gck, .slice hak EF.x.length hck, .int .i64 EF.k] 69))) (HV_w20.out.below (hk4.alloc hk4.size (.cells #[.slice fak EF.st.r.length fck, .int .i64 EF.st.q, .int .i64 EF.st.d, .slice gak EF.s.length gck, .slice hak EF.x.length hck, .int .i64 EF.k] 69)))) (fun hHeld => ?_)
                  clear hK K
                  try simp only [Act.put, List.setIfInBounds_toArray, List.set_cons_zero, List.set_cons_succ]
                  refine wpAnyH_take (i := 14) (oi := { dst := some 21, op := Op.assign (Operand.tmp 130), type := 4, pos := _, after := _, guard := none }) (v := .bool b) rfl (by kernel_rfl) (by kernel_rfl) (by kernel_rfl) (fun _ _ _ h => h) (Or.inl ⟨by rfl, ?_⟩) (by assumption) ?_
                  · intro wX hSw
                    try dsimp only at hSw
                    go_simp
                  try simp only [Act.put, List.setIfInBounds_toArray, List.set_cons_zero, List.set_cons_succ]
                  refine wpAnyH_done (by kernel_rfl) ?_ _
                  go_wp2
                  go_meet
                  case rel =>
                    exact ⟨_, fak, fck, gak, gck, hak, hck, rfl, rfl, (hk4.alloc hk4.size (.cells #[.slice fak EF.st.r.length fck, .int .i64 EF.st.q, .int .i64 EF.st.d, .slice gak EF.s.length gck, .slice hak EF.x.length hck, .int .i64 EF.k] 69)), ⟨hk4.size, (Bk.new we 69 #[.slice fak EF.st.r.length fck, .int .i64 EF.st.q, .int .i64 EF.st.d, .slice gak EF.s.length gck, .slice hak EF.x.length hck, .int .i64 EF.k]).lt⟩, Bk.new we 69 #[.slice fak EF.st.r.length fck, .int .i64 EF.st.q, .int .i64 EF.st.d, .slice gak EF.s.length gck, .slice hak EF.x.length hck, .int .i64 EF.k], (HU.out.below ((Below.refl _ we).alloc (Nat.le_refl _) _)).mono (fun k e => ⟨⟨by omega, by simp; omega⟩, by omega⟩)⟩
                · go_simp
                  refine hK.out _ _ (keepA (HP_w20.out.below ((hk3).alloc (hk3).size (.cells #[.slice none 0 0, .int .i64 0, .int .i64 0, .slice none 0 0, .slice none 0 0, .int .i64 0] 69))) (HQ_w20.out.below ((hk3).alloc (hk3).size (.cells #[.slice none 0 0, .int .i64 0, .int .i64 0, .slice none 0 0, .slice none 0 0, .int .i64 0] 69))) (HV_w20.out.below ((hk3).alloc (hk3).size (.cells #[.slice none 0 0, .int .i64 0, .int .i64 0, .slice none 0 0, .slice none 0 0, .int .i64 0] 69)))) (fun hHeld => ?_)
                  clear hK K
                  try simp only [Act.put, List.setIfInBounds_toArray, List.set_cons_zero, List.set_cons_succ]
                  refine wpAnyH_ready (rs := [8]) (by kernel_rfl) (by simp) ?_
                  refine AllReadyH.cons (o := { dst := some 128, op := Op.call { callee := Callee.value (Operand.func 37), args := #[Operand.tmp 121, Operand.tmp 123, Operand.tmp 125, Operand.tmp 127], argTypes := #[55, 22, 32, 40] }, type := 70, pos := _, after := _, guard := none }) rfl (fun K hK => ?_) AllReadyH.nil
                  go_simp
                  have hcW : w20.heap.size ≤ (wf.alloc (.cells #[.slice none 0 0, .int .i64 0, .int .i64 0, .slice none 0 0, .slice none 0 0, .int .i64 0] 69)).heap.size := (((hk3).alloc (hk3).size (.cells #[.slice none 0 0, .int .i64 0, .int .i64 0, .slice none 0 0, .slice none 0 0, .int .i64 0] 69))).size
                  have hPW : wf.heap.size < (wf.alloc (.cells #[.slice none 0 0, .int .i64 0, .int .i64 0, .slice none 0 0, .slice none 0 0, .int .i64 0] 69)).heap.size := ((Bk.new wf 69 #[.slice none 0 0, .int .i64 0, .int .i64 0, .slice none 0 0, .slice none 0 0, .int .i64 0] : Bk (wf.alloc (.cells #[.slice none 0 0, .int .i64 0, .int .i64 0, .slice none 0 0, .slice none 0 0, .int .i64 0] 69)) wf.heap.size 69 #[.slice none 0 0, .int .i64 0, .int .i64 0, .slice none 0 0, .slice none 0 0, .int .i64 0])).lt
                  refine (HIM.out _ _ _ _ (HA3.out.below ((Below.refl _ wf).alloc (Nat.le_refl _) _)) (HI3.out.below ((Below.refl _ wf).alloc (Nat.le_refl _) _)) (HT3.out.below ((Below.refl _ wf).alloc (Nat.le_refl _) _))).mono ?_
                  rintro r we ⟨ue, rfl, hb, hue⟩
                  obtain ⟨fak, fck, gak, gck, hak, hck, rfl⟩ := hue.form
                  have hk4 : Below w20.heap.size w20 we := (((hk3).alloc (hk3).size (.cells #[.slice none 0 0, .int .i64 0, .int .i64 0, .slice none 0 0, .slice none 0 0, .int .i64 0] 69))).trans (hb.mono (((hk3).alloc (hk3).size (.cells #[.slice none 0 0, .int .i64 0, .int .i64 0, .slice none 0 0, .slice none 0 0, .int .i64 0] 69))).size)
                  have hz4 : Bk we wf.heap.size 69 #[.slice none 0 0, .int .i64 0, .int .i64 0, .slice none 0 0, .slice none 0 0, .int .i64 0] := ((Bk.new wf 69 #[.slice none 0 0, .int .i64 0, .int .i64 0, .slice none 0 0, .slice none 0 0, .int .i64 0] : Bk (wf.alloc (.cells #[.slice none 0 0, .int .i64 0, .int .i64 0, .slice none 0 0, .slice none 0 0, .int .i64 0] 69)) wf.heap.size 69 #[.slice none 0 0, .int .i64 0, .int .i64 0, .slice none 0 0, .slice none 0 0, .int .i64 0])).below hb
                  have HU : Hid (EfF (fun k => (wf.alloc (.cells #[.slice none 0 0, .int .i64 0, .int .i64 0, .slice none 0 0, .slice none 0 0, .int .i64 0] 69)).heap.size ≤ k ∧ k < we.heap.size) we (.agg #[.slice fak EF.st.r.length fck, .int .i64 EF.st.q, .int .i64 EF.st.d, .slice gak EF.s.length gck, .slice hak EF.x.length hck, .int .i64 EF.k]) EF) := hue
                  clear hb
                  try go_simp
                  refine hK.out _ _ (keepA (HP_w20.out.below hk4) (HQ_w20.out.below hk4) (HV_w20.out.below hk4)) (fun hHeld => ?_)
                  clear hK K
                  try simp only [Act.put, List.setIfInBounds_toArray, List.set_cons_zero, List.set_cons_succ]
                  refine wpAnyH_take (i := 9) (oi := { dst := some 119, op := Op.move (Operand.tmp 128), type := 70, pos := _, after := _, guard := none }) (v := .tuple #[.agg #[.slice fak EF.st.r.length fck, .int .i64 EF.st.q, .int .i64 EF.st.d, .slice gak EF.s.length gck, .slice hak EF.x.length hck, .int .i64 EF.k], .bool b]) rfl (by kernel_rfl) (by kernel_rfl) (by kernel_rfl) (fun _ _ _ h => h) (Or.inl ⟨by rfl, ?_⟩) (by assumption) ?_
                  · intro wX hSw
                    try dsimp only at hSw
                    go_simp
                  try simp only [Act.put, List.setIfInBounds_toArray, List.set_cons_zero, List.set_cons_succ]
                  refine wpAnyH_take (i := 10) (oi := { dst := some 129, op := Op.extract (Operand.tmp 119) 0, type := 69, pos := _, after := _, guard := none }) (v := .agg #[.slice fak EF.st.r.length fck, .int .i64 EF.st.q, .int .i64 EF.st.d, .slice gak EF.s.length gck, .slice hak EF.x.length hck, .int .i64 EF.k]) rfl (by kernel_rfl) (by kernel_rfl) (by kernel_rfl) (fun _ _ _ h => h) (Or.inl ⟨by rfl, ?_⟩) (by assumption) ?_
                  · intro wX hSw
                    try dsimp only at hSw
                    go_simp
                  try simp only [Act.put, List.setIfInBounds_toArray, List.set_cons_zero, List.set_cons_succ]
                  refine wpAnyH_take (i := 11) (oi := { dst := some 130, op := Op.extract (Operand.tmp 119) 1, type := 4, pos := _, after := _, guard := none }) (v := .bool b) rfl (by kernel_rfl) (by kernel_rfl) (by kernel_rfl) (fun _ _ _ h => h) (Or.inl ⟨by rfl, ?_⟩) (by assumption) ?_
                  · intro wX hSw
                    try dsimp only at hSw
                    go_simp
                  try simp only [Act.put, List.setIfInBounds_toArray, List.set_cons_zero, List.set_cons_succ]
                  have zc0 := hz4.cell (i := 0) rfl
                  have zc1 := hz4.cell (i := 1) rfl
                  have zc2 := hz4.cell (i := 2) rfl
                  have zc3 := hz4.cell (i := 3) rfl
                  have zc4 := hz4.cell (i := 4) rfl
                  have zc5 := hz4.cell (i := 5) rfl
                  have zf := hz4.free
                  have hPlo : w20.heap.size ≤ wf.heap.size := (hk3).size
                  have hpt := put6_turns we (wf.heap.size) (.slice fak EF.st.r.length fck) (.int .i64 EF.st.q) (.int .i64 EF.st.d) (.slice gak EF.s.length gck) (.slice hak EF.x.length hck) (.int .i64 EF.k)
                  have T3 : Below w20.heap.size w20 (put6 we (wf.heap.size) (.slice fak EF.st.r.length fck) (.int .i64 EF.st.q) (.int .i64 EF.st.d) (.slice gak EF.s.length gck) (.slice hak EF.x.length hck) (.int .i64 EF.k)) := hk4.trans (hpt.to_below (fun k e => by rw [show k = wf.heap.size from e]; exact hPlo) hk4.size)
                  refine wpAnyH_ready (rs := [13]) (by kernel_rfl) (by simp) ?_
                  refine AllReadyH.cons (o := { dst := none, op := Op.store 69 (Operand.tmp 20) (Operand.tmp 129), type := 0, pos := _, after := _, guard := none }) rfl (fun K hK => ?_) AllReadyH.nil
                  go_simp
                  refine hK.out _ _ (keepA (HP_w20.out.below T3) (HQ_w20.out.below T3) (HV_w20.out.below T3)) (fun hHeld => ?_)
                  clear hK K
                  try simp only [Act.put, List.setIfInBounds_toArray, List.set_cons_zero, List.set_cons_succ]
                  refine wpAnyH_take (i := 14) (oi := { dst := some 21, op := Op.assign (Operand.tmp 130), type := 4, pos := _, after := _, guard := none }) (v := .bool b) rfl (by kernel_rfl) (by kernel_rfl) (by kernel_rfl) (fun _ _ _ h => h) (Or.inl ⟨by rfl, ?_⟩) (by assumption) ?_
                  · intro wX hSw
                    try dsimp only at hSw
                    go_simp
                  try simp only [Act.put, List.setIfInBounds_toArray, List.set_cons_zero, List.set_cons_succ]
                  refine wpAnyH_done (by kernel_rfl) ?_ _
                  go_wp2
                  go_meet
                  case rel =>
                    exact ⟨_, fak, fck, gak, gck, hak, hck, rfl, rfl, T3, ⟨hPlo, (hz4.put6 (.slice fak EF.st.r.length fck) (.int .i64 EF.st.q) (.int .i64 EF.st.d) (.slice gak EF.s.length gck) (.slice hak EF.x.length hck) (.int .i64 EF.k)).lt⟩, hz4.put6 (.slice fak EF.st.r.length fck) (.int .i64 EF.st.q) (.int .i64 EF.st.d) (.slice gak EF.s.length gck) (.slice hak EF.x.length hck) (.int .i64 EF.k), (HU.out.turns hpt (fun k e1 e2 => by have e3 : k = wf.heap.size := e2; omega)).mono (fun k e => ⟨⟨by omega, Nat.lt_of_lt_of_le e.2 hpt.size⟩, by omega⟩)⟩
              · go_simp
                refine hK.out _ _ (keepA (HP_w20.out.below ((hk2).alloc (hk2).size (.cells #[.slice none 0 0, .int .i64 0, .int .i64 0, .slice none 0 0, .slice none 0 0, .int .i64 0] 69))) (HQ_w20.out.below ((hk2).alloc (hk2).size (.cells #[.slice none 0 0, .int .i64 0, .int .i64 0, .slice none 0 0, .slice none 0 0, .int .i64 0] 69))) (HV_w20.out.below ((hk2).alloc (hk2).size (.cells #[.slice none 0 0, .int .i64 0, .int .i64 0, .slice none 0 0, .slice none 0 0, .int .i64 0] 69)))) (fun hHeld => ?_)
                clear hK K
                try simp only [Act.put, List.setIfInBounds_toArray, List.set_cons_zero, List.set_cons_succ]
                refine wpAnyH_ready (rs := [7]) (by kernel_rfl) (by simp) ?_
                refine AllReadyH.cons (o := { dst := some 127, op := Op.call { callee := Callee.value (Operand.func 13), args := #[Operand.tmp 126], argTypes := #[30] }, type := 40, pos := _, after := _, guard := none }) rfl (fun K hK => ?_) AllReadyH.nil
                go_simp
                refine (toEvent_any e.t e.s e.q e.d e.k e.v e.g _).mono ?_
                rintro r wf ⟨rfl, hb⟩
                have hk3 : Below w20.heap.size w20 wf := (((hk2).alloc (hk2).size (.cells #[.slice none 0 0, .int .i64 0, .int .i64 0, .slice none 0 0, .slice none 0 0, .int .i64 0] 69))).trans (hb.mono (((hk2).alloc (hk2).size (.cells #[.slice none 0 0, .int .i64 0, .int .i64 0, .slice none 0 0, .slice none 0 0, .int .i64 0] 69))).size)
                have hz3 : Bk wf wd.heap.size 69 #[.slice none 0 0, .int .i64 0, .int .i64 0, .slice none 0 0, .slice none 0 0, .int .i64 0] := ((Bk.new wd 69 #[.slice none 0 0, .int .i64 0, .int .i64 0, .slice none 0 0, .slice none 0 0, .int .i64 0] : Bk (wd.alloc (.cells #[.slice none 0 0, .int .i64 0, .int .i64 0, .slice none 0 0, .slice none 0 0, .int .i64 0] 69)) wd.heap.size 69 #[.slice none 0 0, .int .i64 0, .int .i64 0, .slice none 0 0, .slice none 0 0, .int .i64 0])).below hb
                have HA3 : Hid (IsM wf ya m) := (HA2.out.below ((Below.refl _ wd).alloc (Nat.le_refl _) _)).below hb
                have HI3 : Hid (IsI wf (sl gi l.length) l) := (HI2.out.below ((Below.refl _ wd).alloc (Nat.le_refl _) _)).below hb
                have HT3 : Hid (IsS wf yd s) := (HT2.out.below ((Below.refl _ wd).alloc (Nat.le_refl _) _)).below hb
                clear hb
                try go_simp
                refine hK.out _ _ (keepA (HP_w20.out.below hk3) (HQ_w20.out.below hk3) (HV_w20.out.below hk3)) (fun hHeld => ?_)
                clear hK K
                try simp only [Act.put, List.setIfInBounds_toArray, List.set_cons_zero, List.set_cons_succ]
                refine wpAnyH_ready (rs := [8]) (by kernel_rfl) (by simp) ?_
                refine AllReadyH.cons (o := { dst := some 128, op := Op.call { callee := Callee.value (Operand.func 37), args := #[Operand.tmp 121, Operand.tmp 123, Operand.tmp 125, Operand.tmp 127], argTypes := #[55, 22, 32, 40] }, type := 70, pos := _, after := _, guard := none }) rfl (fun K hK => ?_) AllReadyH.nil
                go_simp
                have hcW : w20.heap.size ≤ wf.heap.size := (hk3).size
                have hPW : wd.heap.size < wf.heap.size := (hz3).lt
                refine (HIM.out _ _ _ _ HA3.out HI3.out HT3.out).mono ?_
                rintro r we ⟨ue, rfl, hb, hue⟩
                obtain ⟨fak, fck, gak, gck, hak, hck, rfl⟩ := hue.form
                have hk4 : Below w20.heap.size w20 we := (hk3).trans (hb.mono (hk3).size)
                have hz4 : Bk we wd.heap.size 69 #[.slice none 0 0, .int .i64 0, .int .i64 0, .slice none 0 0, .slice none 0 0, .int .i64 0] := (hz3).below hb
                have HU : Hid (EfF (fun k => wf.heap.size ≤ k ∧ k < we.heap.size) we (.agg #[.slice fak EF.st.r.length fck, .int .i64 EF.st.q, .int .i64 EF.st.d, .slice gak EF.s.length gck, .slice hak EF.x.length hck, .int .i64 EF.k]) EF) := hue
                clear hb
                try go_simp
                refine hK.out _ _ (keepA (HP_w20.out.below hk4) (HQ_w20.out.below hk4) (HV_w20.out.below hk4)) (fun hHeld => ?_)
                clear hK K
                try simp only [Act.put, List.setIfInBounds_toArray, List.set_cons_zero, List.set_cons_succ]
                refine wpAnyH_take (i := 9) (oi := { dst := some 119, op := Op.move (Operand.tmp 128), type := 70, pos := _, after := _, guard := none }) (v := .tuple #[.agg #[.slice fak EF.st.r.length fck, .int .i64 EF.st.q, .int .i64 EF.st.d, .slice gak EF.s.length gck, .slice hak EF.x.length hck, .int .i64 EF.k], .bool b]) rfl (by kernel_rfl) (by kernel_rfl) (by kernel_rfl) (fun _ _ _ h => h) (Or.inl ⟨by rfl, ?_⟩) (by assumption) ?_
                · intro wX hSw
                  try dsimp only at hSw
                  go_simp
                try simp only [Act.put, List.setIfInBounds_toArray, List.set_cons_zero, List.set_cons_succ]
                refine wpAnyH_take (i := 10) (oi := { dst := some 129, op := Op.extract (Operand.tmp 119) 0, type := 69, pos := _, after := _, guard := none }) (v := .agg #[.slice fak EF.st.r.length fck, .int .i64 EF.st.q, .int .i64 EF.st.d, .slice gak EF.s.length gck, .slice hak EF.x.length hck, .int .i64 EF.k]) rfl (by kernel_rfl) (by kernel_rfl) (by kernel_rfl) (fun _ _ _ h => h) (Or.inl ⟨by rfl, ?_⟩) (by assumption) ?_
                · intro wX hSw
                  try dsimp only at hSw
                  go_simp
                try simp only [Act.put, List.setIfInBounds_toArray, List.set_cons_zero, List.set_cons_succ]
                refine wpAnyH_take (i := 11) (oi := { dst := some 130, op := Op.extract (Operand.tmp 119) 1, type := 4, pos := _, after := _, guard := none }) (v := .bool b) rfl (by kernel_rfl) (by kernel_rfl) (by kernel_rfl) (fun _ _ _ h => h) (Or.inl ⟨by rfl, ?_⟩) (by assumption) ?_
                · intro wX hSw
                  try dsimp only at hSw
                  go_simp
                try simp only [Act.put, List.setIfInBounds_toArray, List.set_cons_zero, List.set_cons_succ]
                have zc0 := hz4.cell (i := 0) rfl
                have zc1 := hz4.cell (i := 1) rfl
                have zc2 := hz4.cell (i := 2) rfl
                have zc3 := hz4.cell (i := 3) rfl
                have zc4 := hz4.cell (i := 4) rfl
                have zc5 := hz4.cell (i := 5) rfl
                have zf := hz4.free
                have hPlo : w20.heap.size ≤ wd.heap.size := (hk2).size
                have hpt := put6_turns we (wd.heap.size) (.slice fak EF.st.r.length fck) (.int .i64 EF.st.q) (.int .i64 EF.st.d) (.slice gak EF.s.length gck) (.slice hak EF.x.length hck) (.int .i64 EF.k)
                have T3 : Below w20.heap.size w20 (put6 we (wd.heap.size) (.slice fak EF.st.r.length fck) (.int .i64 EF.st.q) (.int .i64 EF.st.d) (.slice gak EF.s.length gck) (.slice hak EF.x.length hck) (.int .i64 EF.k)) := hk4.trans (hpt.to_below (fun k e => by rw [show k = wd.heap.size from e]; exact hPlo) hk4.size)
                refine wpAnyH_ready (rs := [13]) (by kernel_rfl) (by simp) ?_
                refine AllReadyH.cons (o := { dst := none, op := Op.store 69 (Operand.tmp 20) (Operand.tmp 129), type := 0, pos := _, after := _, guard := none }) rfl (fun K hK => ?_) AllReadyH.nil
                go_simp
                refine hK.out _ _ (keepA (HP_w20.out.below T3) (HQ_w20.out.below T3) (HV_w20.out.below T3)) (fun hHeld => ?_)
                clear hK K
                try simp only [Act.put, List.setIfInBounds_toArray, List.set_cons_zero, List.set_cons_succ]
                refine wpAnyH_take (i := 14) (oi := { dst := some 21, op := Op.assign (Operand.tmp 130), type := 4, pos := _, after := _, guard := none }) (v := .bool b) rfl (by kernel_rfl) (by kernel_rfl) (by kernel_rfl) (fun _ _ _ h => h) (Or.inl ⟨by rfl, ?_⟩) (by assumption) ?_
                · intro wX hSw
                  try dsimp only at hSw
                  go_simp
                try simp only [Act.put, List.setIfInBounds_toArray, List.set_cons_zero, List.set_cons_succ]
                refine wpAnyH_done (by kernel_rfl) ?_ _
                go_wp2
                go_meet
                case rel =>
                  exact ⟨_, fak, fck, gak, gck, hak, hck, rfl, rfl, T3, ⟨hPlo, (hz4.put6 (.slice fak EF.st.r.length fck) (.int .i64 EF.st.q) (.int .i64 EF.st.d) (.slice gak EF.s.length gck) (.slice hak EF.x.length hck) (.int .i64 EF.k)).lt⟩, hz4.put6 (.slice fak EF.st.r.length fck) (.int .i64 EF.st.q) (.int .i64 EF.st.d) (.slice gak EF.s.length gck) (.slice hak EF.x.length hck) (.int .i64 EF.k), (HU.out.turns hpt (fun k e1 e2 => by have e3 : k = wd.heap.size := e2; omega)).mono (fun k e => ⟨⟨by omega, Nat.lt_of_lt_of_le e.2 hpt.size⟩, by omega⟩)⟩
            · go_simp
              refine hK.out _ _ (keepA (HP_w20.out.below ((hk1).alloc (hk1).size (.cells #[.slice none 0 0, .int .i64 0, .int .i64 0, .slice none 0 0, .slice none 0 0, .int .i64 0] 69))) (HQ_w20.out.below ((hk1).alloc (hk1).size (.cells #[.slice none 0 0, .int .i64 0, .int .i64 0, .slice none 0 0, .slice none 0 0, .int .i64 0] 69))) (HV_w20.out.below ((hk1).alloc (hk1).size (.cells #[.slice none 0 0, .int .i64 0, .int .i64 0, .slice none 0 0, .slice none 0 0, .int .i64 0] 69)))) (fun hHeld => ?_)
              clear hK K
              try simp only [Act.put, List.setIfInBounds_toArray, List.set_cons_zero, List.set_cons_succ]
              refine wpAnyH_ready (rs := [5]) (by kernel_rfl) (by simp) ?_
              refine AllReadyH.cons (o := { dst := some 125, op := Op.call { callee := Callee.value (Operand.func 36), args := #[Operand.tmp 124], argTypes := #[24] }, type := 32, pos := _, after := _, guard := none }) rfl (fun K hK => ?_) AllReadyH.nil
              go_simp
              refine (toState_any _ s _ HSL.out (HY.out.below (HB_w20.out.trans ((((hk1).alloc (hk1).size (.cells #[.slice none 0 0, .int .i64 0, .int .i64 0, .slice none 0 0, .slice none 0 0, .int .i64 0] 69))).mono HB_w20.out.size)))).mono ?_
              rintro r wd ⟨yd, rfl, hb, hrd⟩
              have hk2 : Below w20.heap.size w20 wd := (((hk1).alloc (hk1).size (.cells #[.slice none 0 0, .int .i64 0, .int .i64 0, .slice none 0 0, .slice none 0 0, .int .i64 0] 69))).trans (hb.mono (((hk1).alloc (hk1).size (.cells #[.slice none 0 0, .int .i64 0, .int .i64 0, .slice none 0 0, .slice none 0 0, .int .i64 0] 69))).size)
              have hz2 : Bk wd wb.heap.size 69 #[.slice none 0 0, .int .i64 0, .int .i64 0, .slice none 0 0, .slice none 0 0, .int .i64 0] := ((Bk.new wb 69 #[.slice none 0 0, .int .i64 0, .int .i64 0, .slice none 0 0, .slice none 0 0, .int .i64 0] : Bk (wb.alloc (.cells #[.slice none 0 0, .int .i64 0, .int .i64 0, .slice none 0 0, .slice none 0 0, .int .i64 0] 69)) wb.heap.size 69 #[.slice none 0 0, .int .i64 0, .int .i64 0, .slice none 0 0, .slice none 0 0, .int .i64 0])).below hb
              have HA2 : Hid (IsM wd ya m) := (HA1.out.below ((Below.refl _ wb).alloc (Nat.le_refl _) _)).below hb
              have HI2 : Hid (IsI wd (sl gi l.length) l) := (HI1.out.below ((Below.refl _ wb).alloc (Nat.le_refl _) _)).below hb
              have HT2 : Hid (IsS wd yd s) := hrd.isS
              clear hb
              try go_simp
              refine hK.out _ _ (keepA (HP_w20.out.below hk2) (HQ_w20.out.below hk2) (HV_w20.out.below hk2)) (fun hHeld => ?_)
              clear hK K
              try simp only [Act.put, List.setIfInBounds_toArray, List.set_cons_zero, List.set_cons_succ]
              refine wpAnyH_ready (rs := [7]) (by kernel_rfl) (by simp) ?_
              refine AllReadyH.cons (o := { dst := some 127, op := Op.call { callee := Callee.value (Operand.func 13), args := #[Operand.tmp 126], argTypes := #[30] }, type := 40, pos := _, after := _, guard := none }) rfl (fun K hK => ?_) AllReadyH.nil
              go_simp
              refine (toEvent_any e.t e.s e.q e.d e.k e.v e.g _).mono ?_
              rintro r wf ⟨rfl, hb⟩
              have hk3 : Below w20.heap.size w20 wf := (hk2).trans (hb.mono (hk2).size)
              have hz3 : Bk wf wb.heap.size 69 #[.slice none 0 0, .int .i64 0, .int .i64 0, .slice none 0 0, .slice none 0 0, .int .i64 0] := (hz2).below hb
              have HA3 : Hid (IsM wf ya m) := HA2.out.below hb
              have HI3 : Hid (IsI wf (sl gi l.length) l) := HI2.out.below hb
              have HT3 : Hid (IsS wf yd s) := HT2.out.below hb
              clear hb
              try go_simp
              refine hK.out _ _ (keepA (HP_w20.out.below hk3) (HQ_w20.out.below hk3) (HV_w20.out.below hk3)) (fun hHeld => ?_)
              clear hK K
              try simp only [Act.put, List.setIfInBounds_toArray, List.set_cons_zero, List.set_cons_succ]
              refine wpAnyH_ready (rs := [8]) (by kernel_rfl) (by simp) ?_
              refine AllReadyH.cons (o := { dst := some 128, op := Op.call { callee := Callee.value (Operand.func 37), args := #[Operand.tmp 121, Operand.tmp 123, Operand.tmp 125, Operand.tmp 127], argTypes := #[55, 22, 32, 40] }, type := 70, pos := _, after := _, guard := none }) rfl (fun K hK => ?_) AllReadyH.nil
              go_simp
              have hcW : w20.heap.size ≤ wf.heap.size := (hk3).size
              have hPW : wb.heap.size < wf.heap.size := (hz3).lt
              refine (HIM.out _ _ _ _ HA3.out HI3.out HT3.out).mono ?_
              rintro r we ⟨ue, rfl, hb, hue⟩
              obtain ⟨fak, fck, gak, gck, hak, hck, rfl⟩ := hue.form
              have hk4 : Below w20.heap.size w20 we := (hk3).trans (hb.mono (hk3).size)
              have hz4 : Bk we wb.heap.size 69 #[.slice none 0 0, .int .i64 0, .int .i64 0, .slice none 0 0, .slice none 0 0, .int .i64 0] := (hz3).below hb
              have HU : Hid (EfF (fun k => wf.heap.size ≤ k ∧ k < we.heap.size) we (.agg #[.slice fak EF.st.r.length fck, .int .i64 EF.st.q, .int .i64 EF.st.d, .slice gak EF.s.length gck, .slice hak EF.x.length hck, .int .i64 EF.k]) EF) := hue
              clear hb
              try go_simp
              refine hK.out _ _ (keepA (HP_w20.out.below hk4) (HQ_w20.out.below hk4) (HV_w20.out.below hk4)) (fun hHeld => ?_)
              clear hK K
              try simp only [Act.put, List.setIfInBounds_toArray, List.set_cons_zero, List.set_cons_succ]
              refine wpAnyH_take (i := 9) (oi := { dst := some 119, op := Op.move (Operand.tmp 128), type := 70, pos := _, after := _, guard := none }) (v := .tuple #[.agg #[.slice fak EF.st.r.length fck, .int .i64 EF.st.q, .int .i64 EF.st.d, .slice gak EF.s.length gck, .slice hak EF.x.length hck, .int .i64 EF.k], .bool b]) rfl (by kernel_rfl) (by kernel_rfl) (by kernel_rfl) (fun _ _ _ h => h) (Or.inl ⟨by rfl, ?_⟩) (by assumption) ?_
              · intro wX hSw
                try dsimp only at hSw
                go_simp
              try simp only [Act.put, List.setIfInBounds_toArray, List.set_cons_zero, List.set_cons_succ]
              refine wpAnyH_take (i := 10) (oi := { dst := some 129, op := Op.extract (Operand.tmp 119) 0, type := 69, pos := _, after := _, guard := none }) (v := .agg #[.slice fak EF.st.r.length fck, .int .i64 EF.st.q, .int .i64 EF.st.d, .slice gak EF.s.length gck, .slice hak EF.x.length hck, .int .i64 EF.k]) rfl (by kernel_rfl) (by kernel_rfl) (by kernel_rfl) (fun _ _ _ h => h) (Or.inl ⟨by rfl, ?_⟩) (by assumption) ?_
              · intro wX hSw
                try dsimp only at hSw
                go_simp
              try simp only [Act.put, List.setIfInBounds_toArray, List.set_cons_zero, List.set_cons_succ]
              refine wpAnyH_take (i := 11) (oi := { dst := some 130, op := Op.extract (Operand.tmp 119) 1, type := 4, pos := _, after := _, guard := none }) (v := .bool b) rfl (by kernel_rfl) (by kernel_rfl) (by kernel_rfl) (fun _ _ _ h => h) (Or.inl ⟨by rfl, ?_⟩) (by assumption) ?_
              · intro wX hSw
                try dsimp only at hSw
                go_simp
              try simp only [Act.put, List.setIfInBounds_toArray, List.set_cons_zero, List.set_cons_succ]
              have zc0 := hz4.cell (i := 0) rfl
              have zc1 := hz4.cell (i := 1) rfl
              have zc2 := hz4.cell (i := 2) rfl
              have zc3 := hz4.cell (i := 3) rfl
              have zc4 := hz4.cell (i := 4) rfl
              have zc5 := hz4.cell (i := 5) rfl
              have zf := hz4.free
              have hPlo : w20.heap.size ≤ wb.heap.size := (hk1).size
              have hpt := put6_turns we (wb.heap.size) (.slice fak EF.st.r.length fck) (.int .i64 EF.st.q) (.int .i64 EF.st.d) (.slice gak EF.s.length gck) (.slice hak EF.x.length hck) (.int .i64 EF.k)
              have T3 : Below w20.heap.size w20 (put6 we (wb.heap.size) (.slice fak EF.st.r.length fck) (.int .i64 EF.st.q) (.int .i64 EF.st.d) (.slice gak EF.s.length gck) (.slice hak EF.x.length hck) (.int .i64 EF.k)) := hk4.trans (hpt.to_below (fun k e => by rw [show k = wb.heap.size from e]; exact hPlo) hk4.size)
              refine wpAnyH_ready (rs := [13]) (by kernel_rfl) (by simp) ?_
              refine AllReadyH.cons (o := { dst := none, op := Op.store 69 (Operand.tmp 20) (Operand.tmp 129), type := 0, pos := _, after := _, guard := none }) rfl (fun K hK => ?_) AllReadyH.nil
              go_simp
              refine hK.out _ _ (keepA (HP_w20.out.below T3) (HQ_w20.out.below T3) (HV_w20.out.below T3)) (fun hHeld => ?_)
              clear hK K
              try simp only [Act.put, List.setIfInBounds_toArray, List.set_cons_zero, List.set_cons_succ]
              refine wpAnyH_take (i := 14) (oi := { dst := some 21, op := Op.assign (Operand.tmp 130), type := 4, pos := _, after := _, guard := none }) (v := .bool b) rfl (by kernel_rfl) (by kernel_rfl) (by kernel_rfl) (fun _ _ _ h => h) (Or.inl ⟨by rfl, ?_⟩) (by assumption) ?_
              · intro wX hSw
                try dsimp only at hSw
                go_simp
              try simp only [Act.put, List.setIfInBounds_toArray, List.set_cons_zero, List.set_cons_succ]
              refine wpAnyH_done (by kernel_rfl) ?_ _
              go_wp2
              go_meet
              case rel =>
                exact ⟨_, fak, fck, gak, gck, hak, hck, rfl, rfl, T3, ⟨hPlo, (hz4.put6 (.slice fak EF.st.r.length fck) (.int .i64 EF.st.q) (.int .i64 EF.st.d) (.slice gak EF.s.length gck) (.slice hak EF.x.length hck) (.int .i64 EF.k)).lt⟩, hz4.put6 (.slice fak EF.st.r.length fck) (.int .i64 EF.st.q) (.int .i64 EF.st.d) (.slice gak EF.s.length gck) (.slice hak EF.x.length hck) (.int .i64 EF.k), (HU.out.turns hpt (fun k e1 e2 => by have e3 : k = wb.heap.size := e2; omega)).mono (fun k e => ⟨⟨by omega, Nat.lt_of_lt_of_le e.2 hpt.size⟩, by omega⟩)⟩
          · go_simp
            refine hK.out _ _ (keepA (HP_w20.out.below ((hk0).alloc (hk0).size (.cells #[.slice none 0 0, .int .i64 0, .int .i64 0, .slice none 0 0, .slice none 0 0, .int .i64 0] 69))) (HQ_w20.out.below ((hk0).alloc (hk0).size (.cells #[.slice none 0 0, .int .i64 0, .int .i64 0, .slice none 0 0, .slice none 0 0, .int .i64 0] 69))) (HV_w20.out.below ((hk0).alloc (hk0).size (.cells #[.slice none 0 0, .int .i64 0, .int .i64 0, .slice none 0 0, .slice none 0 0, .int .i64 0] 69)))) (fun hHeld => ?_)
            clear hK K
            try simp only [Act.put, List.setIfInBounds_toArray, List.set_cons_zero, List.set_cons_succ]
            refine wpAnyH_ready (rs := [3]) (by kernel_rfl) (by simp) ?_
            refine AllReadyH.cons (o := { dst := some 123, op := Op.call { callee := Callee.value (Operand.func 30), args := #[Operand.tmp 122], argTypes := #[22] }, type := 22, pos := _, after := _, guard := none }) rfl (fun K hK => ?_) AllReadyH.nil
            go_simp
            refine (toI_any _ l _ HL.out (HD.out.below (HB_w20.out.trans ((((hk0).alloc (hk0).size (.cells #[.slice none 0 0, .int .i64 0, .int .i64 0, .slice none 0 0, .slice none 0 0, .int .i64 0] 69))).mono HB_w20.out.size)))).mono ?_
            rintro r wb ⟨hrr, hb, hrb⟩
            generalize (wa.alloc (.cells #[.slice none 0 0, .int .i64 0, .int .i64 0, .slice none 0 0, .slice none 0 0, .int .i64 0] 69)).heap.size = gi at hrr hrb
            subst hrr
            have hk1 : Below w20.heap.size w20 wb := (((hk0).alloc (hk0).size (.cells #[.slice none 0 0, .int .i64 0, .int .i64 0, .slice none 0 0, .slice none 0 0, .int .i64 0] 69))).trans (hb.mono (((hk0).alloc (hk0).size (.cells #[.slice none 0 0, .int .i64 0, .int .i64 0, .slice none 0 0, .slice none 0 0, .int .i64 0] 69))).size)
            have hz1 : Bk wb wa.heap.size 69 #[.slice none 0 0, .int .i64 0, .int .i64 0, .slice none 0 0, .slice none 0 0, .int .i64 0] := ((Bk.new wa 69 #[.slice none 0 0, .int .i64 0, .int .i64 0, .slice none 0 0, .slice none 0 0, .int .i64 0] : Bk (wa.alloc (.cells #[.slice none 0 0, .int .i64 0, .int .i64 0, .slice none 0 0, .slice none 0 0, .int .i64 0] 69)) wa.heap.size 69 #[.slice none 0 0, .int .i64 0, .int .i64 0, .slice none 0 0, .slice none 0 0, .int .i64 0])).below hb
            have HA1 : Hid (IsM wb ya m) := (HA0.out.below ((Below.refl _ wa).alloc (Nat.le_refl _) _)).below hb
            have HI1 : Hid (IsI wb (sl gi l.length) l) := hrb.isI (by have := HL.out; unfold maxLen; omega)
            clear hb
            try go_simp
            refine hK.out _ _ (keepA (HP_w20.out.below hk1) (HQ_w20.out.below hk1) (HV_w20.out.below hk1)) (fun hHeld => ?_)
            clear hK K
            try simp only [Act.put, List.setIfInBounds_toArray, List.set_cons_zero, List.set_cons_succ]
            refine wpAnyH_ready (rs := [5]) (by kernel_rfl) (by simp) ?_
            refine AllReadyH.cons (o := { dst := some 125, op := Op.call { callee := Callee.value (Operand.func 36), args := #[Operand.tmp 124], argTypes := #[24] }, type := 32, pos := _, after := _, guard := none }) rfl (fun K hK => ?_) AllReadyH.nil
            go_simp
            refine (toState_any _ s _ HSL.out (HY.out.below (HB_w20.out.trans ((hk1).mono HB_w20.out.size)))).mono ?_
            rintro r wd ⟨yd, rfl, hb, hrd⟩
            have hk2 : Below w20.heap.size w20 wd := (hk1).trans (hb.mono (hk1).size)
            have hz2 : Bk wd wa.heap.size 69 #[.slice none 0 0, .int .i64 0, .int .i64 0, .slice none 0 0, .slice none 0 0, .int .i64 0] := (hz1).below hb
            have HA2 : Hid (IsM wd ya m) := HA1.out.below hb
            have HI2 : Hid (IsI wd (sl gi l.length) l) := HI1.out.below hb
            have HT2 : Hid (IsS wd yd s) := hrd.isS
            clear hb
            try go_simp
            refine hK.out _ _ (keepA (HP_w20.out.below hk2) (HQ_w20.out.below hk2) (HV_w20.out.below hk2)) (fun hHeld => ?_)
            clear hK K
            try simp only [Act.put, List.setIfInBounds_toArray, List.set_cons_zero, List.set_cons_succ]
            refine wpAnyH_ready (rs := [7]) (by kernel_rfl) (by simp) ?_
            refine AllReadyH.cons (o := { dst := some 127, op := Op.call { callee := Callee.value (Operand.func 13), args := #[Operand.tmp 126], argTypes := #[30] }, type := 40, pos := _, after := _, guard := none }) rfl (fun K hK => ?_) AllReadyH.nil
            go_simp
            refine (toEvent_any e.t e.s e.q e.d e.k e.v e.g _).mono ?_
            rintro r wf ⟨rfl, hb⟩
            have hk3 : Below w20.heap.size w20 wf := (hk2).trans (hb.mono (hk2).size)
            have hz3 : Bk wf wa.heap.size 69 #[.slice none 0 0, .int .i64 0, .int .i64 0, .slice none 0 0, .slice none 0 0, .int .i64 0] := (hz2).below hb
            have HA3 : Hid (IsM wf ya m) := HA2.out.below hb
            have HI3 : Hid (IsI wf (sl gi l.length) l) := HI2.out.below hb
            have HT3 : Hid (IsS wf yd s) := HT2.out.below hb
            clear hb
            try go_simp
            refine hK.out _ _ (keepA (HP_w20.out.below hk3) (HQ_w20.out.below hk3) (HV_w20.out.below hk3)) (fun hHeld => ?_)
            clear hK K
            try simp only [Act.put, List.setIfInBounds_toArray, List.set_cons_zero, List.set_cons_succ]
            refine wpAnyH_ready (rs := [8]) (by kernel_rfl) (by simp) ?_
            refine AllReadyH.cons (o := { dst := some 128, op := Op.call { callee := Callee.value (Operand.func 37), args := #[Operand.tmp 121, Operand.tmp 123, Operand.tmp 125, Operand.tmp 127], argTypes := #[55, 22, 32, 40] }, type := 70, pos := _, after := _, guard := none }) rfl (fun K hK => ?_) AllReadyH.nil
            go_simp
            have hcW : w20.heap.size ≤ wf.heap.size := (hk3).size
            have hPW : wa.heap.size < wf.heap.size := (hz3).lt
            refine (HIM.out _ _ _ _ HA3.out HI3.out HT3.out).mono ?_
            rintro r we ⟨ue, rfl, hb, hue⟩
            obtain ⟨fak, fck, gak, gck, hak, hck, rfl⟩ := hue.form
            have hk4 : Below w20.heap.size w20 we := (hk3).trans (hb.mono (hk3).size)
            have hz4 : Bk we wa.heap.size 69 #[.slice none 0 0, .int .i64 0, .int .i64 0, .slice none 0 0, .slice none 0 0, .int .i64 0] := (hz3).below hb
            have HU : Hid (EfF (fun k => wf.heap.size ≤ k ∧ k < we.heap.size) we (.agg #[.slice fak EF.st.r.length fck, .int .i64 EF.st.q, .int .i64 EF.st.d, .slice gak EF.s.length gck, .slice hak EF.x.length hck, .int .i64 EF.k]) EF) := hue
            clear hb
            try go_simp
            refine hK.out _ _ (keepA (HP_w20.out.below hk4) (HQ_w20.out.below hk4) (HV_w20.out.below hk4)) (fun hHeld => ?_)
            clear hK K
            try simp only [Act.put, List.setIfInBounds_toArray, List.set_cons_zero, List.set_cons_succ]
            refine wpAnyH_take (i := 9) (oi := { dst := some 119, op := Op.move (Operand.tmp 128), type := 70, pos := _, after := _, guard := none }) (v := .tuple #[.agg #[.slice fak EF.st.r.length fck, .int .i64 EF.st.q, .int .i64 EF.st.d, .slice gak EF.s.length gck, .slice hak EF.x.length hck, .int .i64 EF.k], .bool b]) rfl (by kernel_rfl) (by kernel_rfl) (by kernel_rfl) (fun _ _ _ h => h) (Or.inl ⟨by rfl, ?_⟩) (by assumption) ?_
            · intro wX hSw
              try dsimp only at hSw
              go_simp
            try simp only [Act.put, List.setIfInBounds_toArray, List.set_cons_zero, List.set_cons_succ]
            refine wpAnyH_take (i := 10) (oi := { dst := some 129, op := Op.extract (Operand.tmp 119) 0, type := 69, pos := _, after := _, guard := none }) (v := .agg #[.slice fak EF.st.r.length fck, .int .i64 EF.st.q, .int .i64 EF.st.d, .slice gak EF.s.length gck, .slice hak EF.x.length hck, .int .i64 EF.k]) rfl (by kernel_rfl) (by kernel_rfl) (by kernel_rfl) (fun _ _ _ h => h) (Or.inl ⟨by rfl, ?_⟩) (by assumption) ?_
            · intro wX hSw
              try dsimp only at hSw
              go_simp
            try simp only [Act.put, List.setIfInBounds_toArray, List.set_cons_zero, List.set_cons_succ]
            refine wpAnyH_take (i := 11) (oi := { dst := some 130, op := Op.extract (Operand.tmp 119) 1, type := 4, pos := _, after := _, guard := none }) (v := .bool b) rfl (by kernel_rfl) (by kernel_rfl) (by kernel_rfl) (fun _ _ _ h => h) (Or.inl ⟨by rfl, ?_⟩) (by assumption) ?_
            · intro wX hSw
              try dsimp only at hSw
              go_simp
            try simp only [Act.put, List.setIfInBounds_toArray, List.set_cons_zero, List.set_cons_succ]
            have zc0 := hz4.cell (i := 0) rfl
            have zc1 := hz4.cell (i := 1) rfl
            have zc2 := hz4.cell (i := 2) rfl
            have zc3 := hz4.cell (i := 3) rfl
            have zc4 := hz4.cell (i := 4) rfl
            have zc5 := hz4.cell (i := 5) rfl
            have zf := hz4.free
            have hPlo : w20.heap.size ≤ wa.heap.size := (hk0).size
            have hpt := put6_turns we (wa.heap.size) (.slice fak EF.st.r.length fck) (.int .i64 EF.st.q) (.int .i64 EF.st.d) (.slice gak EF.s.length gck) (.slice hak EF.x.length hck) (.int .i64 EF.k)
            have T3 : Below w20.heap.size w20 (put6 we (wa.heap.size) (.slice fak EF.st.r.length fck) (.int .i64 EF.st.q) (.int .i64 EF.st.d) (.slice gak EF.s.length gck) (.slice hak EF.x.length hck) (.int .i64 EF.k)) := hk4.trans (hpt.to_below (fun k e => by rw [show k = wa.heap.size from e]; exact hPlo) hk4.size)
            refine wpAnyH_ready (rs := [13]) (by kernel_rfl) (by simp) ?_
            refine AllReadyH.cons (o := { dst := none, op := Op.store 69 (Operand.tmp 20) (Operand.tmp 129), type := 0, pos := _, after := _, guard := none }) rfl (fun K hK => ?_) AllReadyH.nil
            go_simp
            refine hK.out _ _ (keepA (HP_w20.out.below T3) (HQ_w20.out.below T3) (HV_w20.out.below T3)) (fun hHeld => ?_)
            clear hK K
            try simp only [Act.put, List.setIfInBounds_toArray, List.set_cons_zero, List.set_cons_succ]
            refine wpAnyH_take (i := 14) (oi := { dst := some 21, op := Op.assign (Operand.tmp 130), type := 4, pos := _, after := _, guard := none }) (v := .bool b) rfl (by kernel_rfl) (by kernel_rfl) (by kernel_rfl) (fun _ _ _ h => h) (Or.inl ⟨by rfl, ?_⟩) (by assumption) ?_
            · intro wX hSw
              try dsimp only at hSw
              go_simp
            try simp only [Act.put, List.setIfInBounds_toArray, List.set_cons_zero, List.set_cons_succ]
            refine wpAnyH_done (by kernel_rfl) ?_ _
            go_wp2
            go_meet
            case rel =>
              exact ⟨_, fak, fck, gak, gck, hak, hck, rfl, rfl, T3, ⟨hPlo, (hz4.put6 (.slice fak EF.st.r.length fck) (.int .i64 EF.st.q) (.int .i64 EF.st.d) (.slice gak EF.s.length gck) (.slice hak EF.x.length hck) (.int .i64 EF.k)).lt⟩, hz4.put6 (.slice fak EF.st.r.length fck) (.int .i64 EF.st.q) (.int .i64 EF.st.d) (.slice gak EF.s.length gck) (.slice hak EF.x.length hck) (.int .i64 EF.k), (HU.out.turns hpt (fun k e1 e2 => by have e3 : k = wa.heap.size := e2; omega)).mono (fun k e => ⟨⟨by omega, Nat.lt_of_lt_of_le e.2 hpt.size⟩, by omega⟩)⟩
        · go_simp
          refine hK.out _ _ (keepA (HP_w20.out.below (((Below.refl w20.heap.size w20).drew).alloc ((Below.refl w20.heap.size w20).drew).size (.cells #[.slice none 0 0, .int .i64 0, .int .i64 0, .slice none 0 0, .slice none 0 0, .int .i64 0] 69))) (HQ_w20.out.below (((Below.refl w20.heap.size w20).drew).alloc ((Below.refl w20.heap.size w20).drew).size (.cells #[.slice none 0 0, .int .i64 0, .int .i64 0, .slice none 0 0, .slice none 0 0, .int .i64 0] 69))) (HV_w20.out.below (((Below.refl w20.heap.size w20).drew).alloc ((Below.refl w20.heap.size w20).drew).size (.cells #[.slice none 0 0, .int .i64 0, .int .i64 0, .slice none 0 0, .slice none 0 0, .int .i64 0] 69)))) (fun hHeld => ?_)
          clear hK K
          try simp only [Act.put, List.setIfInBounds_toArray, List.set_cons_zero, List.set_cons_succ]
          refine wpAnyH_ready (rs := [1]) (by kernel_rfl) (by simp) ?_
          refine AllReadyH.cons (o := { dst := some 121, op := Op.call { callee := Callee.value (Operand.func 25), args := #[Operand.tmp 120], argTypes := #[49] }, type := 55, pos := _, after := _, guard := none }) rfl (fun K hK => ?_) AllReadyH.nil
          go_simp
          refine (toModel_any _ m _ HSM.out (HX.out.below (HB_w20.out.trans (((((Below.refl w20.heap.size w20).drew).alloc ((Below.refl w20.heap.size w20).drew).size (.cells #[.slice none 0 0, .int .i64 0, .int .i64 0, .slice none 0 0, .slice none 0 0, .int .i64 0] 69))).mono HB_w20.out.size)))).mono ?_
          rintro r wa ⟨ya, rfl, hb, hra⟩
          have hk0 : Below w20.heap.size w20 wa := ((((Below.refl w20.heap.size w20).drew).alloc ((Below.refl w20.heap.size w20).drew).size (.cells #[.slice none 0 0, .int .i64 0, .int .i64 0, .slice none 0 0, .slice none 0 0, .int .i64 0] 69))).trans (hb.mono ((((Below.refl w20.heap.size w20).drew).alloc ((Below.refl w20.heap.size w20).drew).size (.cells #[.slice none 0 0, .int .i64 0, .int .i64 0, .slice none 0 0, .slice none 0 0, .int .i64 0] 69))).size)
          have hz0 : Bk wa w20.heap.size 69 #[.slice none 0 0, .int .i64 0, .int .i64 0, .slice none 0 0, .slice none 0 0, .int .i64 0] := ((Bk.new w20.drew 69 #[.slice none 0 0, .int .i64 0, .int .i64 0, .slice none 0 0, .slice none 0 0, .int .i64 0] : Bk (w20.drew.alloc (.cells #[.slice none 0 0, .int .i64 0, .int .i64 0, .slice none 0 0, .slice none 0 0, .int .i64 0] 69)) w20.heap.size 69 #[.slice none 0 0, .int .i64 0, .int .i64 0, .slice none 0 0, .slice none 0 0, .int .i64 0])).below hb
          have HA0 : Hid (IsM wa ya m) := hra.isM
          clear hb
          try go_simp
          refine hK.out _ _ (keepA (HP_w20.out.below hk0) (HQ_w20.out.below hk0) (HV_w20.out.below hk0)) (fun hHeld => ?_)
          clear hK K
          try simp only [Act.put, List.setIfInBounds_toArray, List.set_cons_zero, List.set_cons_succ]
          refine wpAnyH_ready (rs := [3]) (by kernel_rfl) (by simp) ?_
          refine AllReadyH.cons (o := { dst := some 123, op := Op.call { callee := Callee.value (Operand.func 30), args := #[Operand.tmp 122], argTypes := #[22] }, type := 22, pos := _, after := _, guard := none }) rfl (fun K hK => ?_) AllReadyH.nil
          go_simp
          refine (toI_any _ l _ HL.out (HD.out.below (HB_w20.out.trans ((hk0).mono HB_w20.out.size)))).mono ?_
          rintro r wb ⟨hrr, hb, hrb⟩
          generalize wa.heap.size = gi at hrr hrb
          subst hrr
          have hk1 : Below w20.heap.size w20 wb := (hk0).trans (hb.mono (hk0).size)
          have hz1 : Bk wb w20.heap.size 69 #[.slice none 0 0, .int .i64 0, .int .i64 0, .slice none 0 0, .slice none 0 0, .int .i64 0] := (hz0).below hb
          have HA1 : Hid (IsM wb ya m) := HA0.out.below hb
          have HI1 : Hid (IsI wb (sl gi l.length) l) := hrb.isI (by have := HL.out; unfold maxLen; omega)
          clear hb
          try go_simp
          refine hK.out _ _ (keepA (HP_w20.out.below hk1) (HQ_w20.out.below hk1) (HV_w20.out.below hk1)) (fun hHeld => ?_)
          clear hK K
          try simp only [Act.put, List.setIfInBounds_toArray, List.set_cons_zero, List.set_cons_succ]
          refine wpAnyH_ready (rs := [5]) (by kernel_rfl) (by simp) ?_
          refine AllReadyH.cons (o := { dst := some 125, op := Op.call { callee := Callee.value (Operand.func 36), args := #[Operand.tmp 124], argTypes := #[24] }, type := 32, pos := _, after := _, guard := none }) rfl (fun K hK => ?_) AllReadyH.nil
          go_simp
          refine (toState_any _ s _ HSL.out (HY.out.below (HB_w20.out.trans ((hk1).mono HB_w20.out.size)))).mono ?_
          rintro r wd ⟨yd, rfl, hb, hrd⟩
          have hk2 : Below w20.heap.size w20 wd := (hk1).trans (hb.mono (hk1).size)
          have hz2 : Bk wd w20.heap.size 69 #[.slice none 0 0, .int .i64 0, .int .i64 0, .slice none 0 0, .slice none 0 0, .int .i64 0] := (hz1).below hb
          have HA2 : Hid (IsM wd ya m) := HA1.out.below hb
          have HI2 : Hid (IsI wd (sl gi l.length) l) := HI1.out.below hb
          have HT2 : Hid (IsS wd yd s) := hrd.isS
          clear hb
          try go_simp
          refine hK.out _ _ (keepA (HP_w20.out.below hk2) (HQ_w20.out.below hk2) (HV_w20.out.below hk2)) (fun hHeld => ?_)
          clear hK K
          try simp only [Act.put, List.setIfInBounds_toArray, List.set_cons_zero, List.set_cons_succ]
          refine wpAnyH_ready (rs := [7]) (by kernel_rfl) (by simp) ?_
          refine AllReadyH.cons (o := { dst := some 127, op := Op.call { callee := Callee.value (Operand.func 13), args := #[Operand.tmp 126], argTypes := #[30] }, type := 40, pos := _, after := _, guard := none }) rfl (fun K hK => ?_) AllReadyH.nil
          go_simp
          refine (toEvent_any e.t e.s e.q e.d e.k e.v e.g _).mono ?_
          rintro r wf ⟨rfl, hb⟩
          have hk3 : Below w20.heap.size w20 wf := (hk2).trans (hb.mono (hk2).size)
          have hz3 : Bk wf w20.heap.size 69 #[.slice none 0 0, .int .i64 0, .int .i64 0, .slice none 0 0, .slice none 0 0, .int .i64 0] := (hz2).below hb
          have HA3 : Hid (IsM wf ya m) := HA2.out.below hb
          have HI3 : Hid (IsI wf (sl gi l.length) l) := HI2.out.below hb
          have HT3 : Hid (IsS wf yd s) := HT2.out.below hb
          clear hb
          try go_simp
          refine hK.out _ _ (keepA (HP_w20.out.below hk3) (HQ_w20.out.below hk3) (HV_w20.out.below hk3)) (fun hHeld => ?_)
          clear hK K
          try simp only [Act.put, List.setIfInBounds_toArray, List.set_cons_zero, List.set_cons_succ]
          refine wpAnyH_ready (rs := [8]) (by kernel_rfl) (by simp) ?_
          refine AllReadyH.cons (o := { dst := some 128, op := Op.call { callee := Callee.value (Operand.func 37), args := #[Operand.tmp 121, Operand.tmp 123, Operand.tmp 125, Operand.tmp 127], argTypes := #[55, 22, 32, 40] }, type := 70, pos := _, after := _, guard := none }) rfl (fun K hK => ?_) AllReadyH.nil
          go_simp
          have hcW : w20.heap.size ≤ wf.heap.size := (hk3).size
          have hPW : w20.heap.size < wf.heap.size := (hz3).lt
          refine (HIM.out _ _ _ _ HA3.out HI3.out HT3.out).mono ?_
          rintro r we ⟨ue, rfl, hb, hue⟩
          obtain ⟨fak, fck, gak, gck, hak, hck, rfl⟩ := hue.form
          have hk4 : Below w20.heap.size w20 we := (hk3).trans (hb.mono (hk3).size)
          have hz4 : Bk we w20.heap.size 69 #[.slice none 0 0, .int .i64 0, .int .i64 0, .slice none 0 0, .slice none 0 0, .int .i64 0] := (hz3).below hb
          have HU : Hid (EfF (fun k => wf.heap.size ≤ k ∧ k < we.heap.size) we (.agg #[.slice fak EF.st.r.length fck, .int .i64 EF.st.q, .int .i64 EF.st.d, .slice gak EF.s.length gck, .slice hak EF.x.length hck, .int .i64 EF.k]) EF) := hue
          clear hb
          try go_simp
          refine hK.out _ _ (keepA (HP_w20.out.below hk4) (HQ_w20.out.below hk4) (HV_w20.out.below hk4)) (fun hHeld => ?_)
          clear hK K
          try simp only [Act.put, List.setIfInBounds_toArray, List.set_cons_zero, List.set_cons_succ]
          refine wpAnyH_take (i := 9) (oi := { dst := some 119, op := Op.move (Operand.tmp 128), type := 70, pos := _, after := _, guard := none }) (v := .tuple #[.agg #[.slice fak EF.st.r.length fck, .int .i64 EF.st.q, .int .i64 EF.st.d, .slice gak EF.s.length gck, .slice hak EF.x.length hck, .int .i64 EF.k], .bool b]) rfl (by kernel_rfl) (by kernel_rfl) (by kernel_rfl) (fun _ _ _ h => h) (Or.inl ⟨by rfl, ?_⟩) (by assumption) ?_
          · intro wX hSw
            try dsimp only at hSw
            go_simp
          try simp only [Act.put, List.setIfInBounds_toArray, List.set_cons_zero, List.set_cons_succ]
          refine wpAnyH_take (i := 10) (oi := { dst := some 129, op := Op.extract (Operand.tmp 119) 0, type := 69, pos := _, after := _, guard := none }) (v := .agg #[.slice fak EF.st.r.length fck, .int .i64 EF.st.q, .int .i64 EF.st.d, .slice gak EF.s.length gck, .slice hak EF.x.length hck, .int .i64 EF.k]) rfl (by kernel_rfl) (by kernel_rfl) (by kernel_rfl) (fun _ _ _ h => h) (Or.inl ⟨by rfl, ?_⟩) (by assumption) ?_
          · intro wX hSw
            try dsimp only at hSw
            go_simp
          try simp only [Act.put, List.setIfInBounds_toArray, List.set_cons_zero, List.set_cons_succ]
          refine wpAnyH_take (i := 11) (oi := { dst := some 130, op := Op.extract (Operand.tmp 119) 1, type := 4, pos := _, after := _, guard := none }) (v := .bool b) rfl (by kernel_rfl) (by kernel_rfl) (by kernel_rfl) (fun _ _ _ h => h) (Or.inl ⟨by rfl, ?_⟩) (by assumption) ?_
          · intro wX hSw
            try dsimp only at hSw
            go_simp
          try simp only [Act.put, List.setIfInBounds_toArray, List.set_cons_zero, List.set_cons_succ]
          have zc0 := hz4.cell (i := 0) rfl
          have zc1 := hz4.cell (i := 1) rfl
          have zc2 := hz4.cell (i := 2) rfl
          have zc3 := hz4.cell (i := 3) rfl
          have zc4 := hz4.cell (i := 4) rfl
          have zc5 := hz4.cell (i := 5) rfl
          have zf := hz4.free
          have hPlo : w20.heap.size ≤ w20.heap.size := ((Below.refl w20.heap.size w20)).size
          have hpt := put6_turns we (w20.heap.size) (.slice fak EF.st.r.length fck) (.int .i64 EF.st.q) (.int .i64 EF.st.d) (.slice gak EF.s.length gck) (.slice hak EF.x.length hck) (.int .i64 EF.k)
          have T3 : Below w20.heap.size w20 (put6 we (w20.heap.size) (.slice fak EF.st.r.length fck) (.int .i64 EF.st.q) (.int .i64 EF.st.d) (.slice gak EF.s.length gck) (.slice hak EF.x.length hck) (.int .i64 EF.k)) := hk4.trans (hpt.to_below (fun k e => by rw [show k = w20.heap.size from e]; exact hPlo) hk4.size)
          refine wpAnyH_ready (rs := [13]) (by kernel_rfl) (by simp) ?_
          refine AllReadyH.cons (o := { dst := none, op := Op.store 69 (Operand.tmp 20) (Operand.tmp 129), type := 0, pos := _, after := _, guard := none }) rfl (fun K hK => ?_) AllReadyH.nil
          go_simp
          refine hK.out _ _ (keepA (HP_w20.out.below T3) (HQ_w20.out.below T3) (HV_w20.out.below T3)) (fun hHeld => ?_)
          clear hK K
          try simp only [Act.put, List.setIfInBounds_toArray, List.set_cons_zero, List.set_cons_succ]
          refine wpAnyH_take (i := 14) (oi := { dst := some 21, op := Op.assign (Operand.tmp 130), type := 4, pos := _, after := _, guard := none }) (v := .bool b) rfl (by kernel_rfl) (by kernel_rfl) (by kernel_rfl) (fun _ _ _ h => h) (Or.inl ⟨by rfl, ?_⟩) (by assumption) ?_
          · intro wX hSw
            try dsimp only at hSw
            go_simp
          try simp only [Act.put, List.setIfInBounds_toArray, List.set_cons_zero, List.set_cons_succ]
          refine wpAnyH_done (by kernel_rfl) ?_ _
          go_wp2
          go_meet
          case rel =>
            exact ⟨_, fak, fck, gak, gck, hak, hck, rfl, rfl, T3, ⟨hPlo, (hz4.put6 (.slice fak EF.st.r.length fck) (.int .i64 EF.st.q) (.int .i64 EF.st.d) (.slice gak EF.s.length gck) (.slice hak EF.x.length hck) (.int .i64 EF.k)).lt⟩, hz4.put6 (.slice fak EF.st.r.length fck) (.int .i64 EF.st.q) (.int .i64 EF.st.d) (.slice gak EF.s.length gck) (.slice hak EF.x.length hck) (.int .i64 EF.k), (HU.out.turns hpt (fun k e1 e2 => by have e3 : k = w20.heap.size := e2; omega)).mono (fun k e => ⟨⟨by omega, Nat.lt_of_lt_of_le e.2 hpt.size⟩, by omega⟩)⟩
      case rest =>
        rename World => w21
        obtain ⟨PPk, fak, fck, gak, gck, hak, hck, rfl, rfl, hb, ⟨hPlk, hPhk⟩, hBk, hAn⟩ := hcut
        have z_w21 : w20.heap.size ≤ w21.heap.size := hb.size
        have HB_w21 : Hid (Below w.heap.size w w21) := HB_w20.out.trans (hb.mono HB_w20.out.size)
        have HP_w21 : Hid (Bk w21 w.heap.size 49 #[.int .i64 m.n, .int .i64 m.s, vi0, vh0, vs0, .int .i64 m.z]) := HP_w20.out.below hb
        have HQ_w21 : Hid (Bk w21 (w.heap.size + 1) 24 #[vr2, .int .i64 s.q, .int .i64 s.d]) := HQ_w20.out.below hb
        have HV_w21 : Hid (Bk w21 (w.heap.size + 1 + 1) 30 #[.int .i64 e.t, .int .i64 e.s, .int .i64 e.q, .int .i64 e.d, .int .i64 e.k, .int .i64 e.v, .int .i64 e.g]) := HV_w20.out.below hb
        have HSb_w21 : Hid (Bk w21 PPo 69 #[.slice fao EF.st.r.length fco, .int .i64 EF.st.q, .int .i64 EF.st.d, .slice gao EF.s.length gco, .slice hao EF.x.length hco, .int .i64 EF.k]) := HSb_w20.out.below hb
        have HS_w21 : Hid (EfF (fun k => (w2.heap.size ≤ k ∧ k < w3.heap.size) ∧ k ≠ PPo) w21 (.agg #[.slice fao EF.st.r.length fco, .int .i64 EF.st.q, .int .i64 EF.st.d, .slice gao EF.s.length gco, .slice hao EF.x.length hco, .int .i64 EF.k]) EF) := HS_w20.out.below hb
        have HGb_w21 : Hid (Bk w21 PPg 69 #[.slice fag EF.st.r.length fcg, .int .i64 EF.st.q, .int .i64 EF.st.d, .slice gag EF.s.length gcg, .slice hag EF.x.length hcg, .int .i64 EF.k]) := HGb_w20.out.below hb
        have HH_w21 : Hid (HeldE (fun k => (Vw6.heap.size ≤ k ∧ k < w7.heap.size) ∧ k ≠ PPg) w21 (.agg #[.slice fag EF.st.r.length fcg, .int .i64 EF.st.q, .int .i64 EF.st.d, .slice gag EF.s.length gcg, .slice hag EF.x.length hcg, .int .i64 EF.k]) EF) := HH_w20.out.below hb
        clear HB_w20 HP_w20 HQ_w20 HV_w20 HSb_w20 HS_w20 HGb_w20 HH_w20
        have HKb_w21 : Hid (Bk w21 PPk 69 #[.slice fak EF.st.r.length fck, .int .i64 EF.st.q, .int .i64 EF.st.d, .slice gak EF.s.length gck, .slice hak EF.x.length hck, .int .i64 EF.k]) := hBk
        have HK_w21 : Hid (EfF (fun k => (w20.heap.size ≤ k ∧ k < w21.heap.size) ∧ k ≠ PPk) w21 (.agg #[.slice fak EF.st.r.length fck, .int .i64 EF.st.q, .int .i64 EF.st.d, .slice gak EF.s.length gck, .slice hak EF.x.length hck, .int .i64 EF.k]) EF) := hAn
        clear hb hBk hAn
        have g0 := HKb_w21.out.cell (i := 0) rfl
        have g1 := HKb_w21.out.cell (i := 1) rfl
        have g2 := HKb_w21.out.cell (i := 2) rfl
        have g3 := HKb_w21.out.cell (i := 3) rfl
        have g4 := HKb_w21.out.cell (i := 4) rfl
        have g5 := HKb_w21.out.cell (i := 5) rfl
        have t0 := HSb_w21.out.cell (i := 0) rfl
        have t1 := HSb_w21.out.cell (i := 1) rfl
        have t2 := HSb_w21.out.cell (i := 2) rfl
        have t3 := HSb_w21.out.cell (i := 3) rfl
        have t4 := HSb_w21.out.cell (i := 4) rfl
        have t5 := HSb_w21.out.cell (i := 5) rfl
        go_wp2_with fail
        clear g0 g1 g2 g3 g4 g5
        clear t0 t1 t2 t3 t4 t5
        refine (eqEffect_same _ _ EF _ HE.out HK_w21.out HS_w21.out).mono ?_
        rintro r w22 ⟨rfl, hb⟩
        have z_w22 : w21.heap.size ≤ w22.heap.size := hb.size
        have HB_w22 : Hid (Below w.heap.size w w22) := HB_w21.out.trans (hb.mono HB_w21.out.size)
        have HP_w22 : Hid (Bk w22 w.heap.size 49 #[.int .i64 m.n, .int .i64 m.s, vi0, vh0, vs0, .int .i64 m.z]) := HP_w21.out.below hb
        have HQ_w22 : Hid (Bk w22 (w.heap.size + 1) 24 #[vr2, .int .i64 s.q, .int .i64 s.d]) := HQ_w21.out.below hb
        have HV_w22 : Hid (Bk w22 (w.heap.size + 1 + 1) 30 #[.int .i64 e.t, .int .i64 e.s, .int .i64 e.q, .int .i64 e.d, .int .i64 e.k, .int .i64 e.v, .int .i64 e.g]) := HV_w21.out.below hb
        have HSb_w22 : Hid (Bk w22 PPo 69 #[.slice fao EF.st.r.length fco, .int .i64 EF.st.q, .int .i64 EF.st.d, .slice gao EF.s.length gco, .slice hao EF.x.length hco, .int .i64 EF.k]) := HSb_w21.out.below hb
        have HS_w22 : Hid (EfF (fun k => (w2.heap.size ≤ k ∧ k < w3.heap.size) ∧ k ≠ PPo) w22 (.agg #[.slice fao EF.st.r.length fco, .int .i64 EF.st.q, .int .i64 EF.st.d, .slice gao EF.s.length gco, .slice hao EF.x.length hco, .int .i64 EF.k]) EF) := HS_w21.out.below hb
        have HGb_w22 : Hid (Bk w22 PPg 69 #[.slice fag EF.st.r.length fcg, .int .i64 EF.st.q, .int .i64 EF.st.d, .slice gag EF.s.length gcg, .slice hag EF.x.length hcg, .int .i64 EF.k]) := HGb_w21.out.below hb
        have HH_w22 : Hid (HeldE (fun k => (Vw6.heap.size ≤ k ∧ k < w7.heap.size) ∧ k ≠ PPg) w22 (.agg #[.slice fag EF.st.r.length fcg, .int .i64 EF.st.q, .int .i64 EF.st.d, .slice gag EF.s.length gcg, .slice hag EF.x.length hcg, .int .i64 EF.k]) EF) := HH_w21.out.below hb
        have HKb_w22 : Hid (Bk w22 PPk 69 #[.slice fak EF.st.r.length fck, .int .i64 EF.st.q, .int .i64 EF.st.d, .slice gak EF.s.length gck, .slice hak EF.x.length hck, .int .i64 EF.k]) := HKb_w21.out.below hb
        have HK_w22 : Hid (EfF (fun k => (w20.heap.size ≤ k ∧ k < w21.heap.size) ∧ k ≠ PPk) w22 (.agg #[.slice fak EF.st.r.length fck, .int .i64 EF.st.q, .int .i64 EF.st.d, .slice gak EF.s.length gck, .slice hak EF.x.length hck, .int .i64 EF.k]) EF) := HK_w21.out.below hb
        clear HB_w21 HP_w21 HQ_w21 HV_w21 HSb_w21 HS_w21 HGb_w21 HH_w21 HKb_w21 HK_w21
        clear hb
        have g0 := HGb_w22.out.cell (i := 0) rfl
        have g1 := HGb_w22.out.cell (i := 1) rfl
        have g2 := HGb_w22.out.cell (i := 2) rfl
        have g3 := HGb_w22.out.cell (i := 3) rfl
        have g4 := HGb_w22.out.cell (i := 4) rfl
        have g5 := HGb_w22.out.cell (i := 5) rfl
        go_wp2_with fail
        clear g0 g1 g2 g3 g4 g5
        refine (heldEffect_any HE.out HH_w22.out).mono ?_
        rintro r w23 ⟨rfl, hb⟩
        have z_w23 : w22.heap.size ≤ w23.heap.size := hb.size
        have HB_w23 : Hid (Below w.heap.size w w23) := HB_w22.out.trans (hb.mono HB_w22.out.size)
        have HP_w23 : Hid (Bk w23 w.heap.size 49 #[.int .i64 m.n, .int .i64 m.s, vi0, vh0, vs0, .int .i64 m.z]) := HP_w22.out.below hb
        have HQ_w23 : Hid (Bk w23 (w.heap.size + 1) 24 #[vr2, .int .i64 s.q, .int .i64 s.d]) := HQ_w22.out.below hb
        have HV_w23 : Hid (Bk w23 (w.heap.size + 1 + 1) 30 #[.int .i64 e.t, .int .i64 e.s, .int .i64 e.q, .int .i64 e.d, .int .i64 e.k, .int .i64 e.v, .int .i64 e.g]) := HV_w22.out.below hb
        have HSb_w23 : Hid (Bk w23 PPo 69 #[.slice fao EF.st.r.length fco, .int .i64 EF.st.q, .int .i64 EF.st.d, .slice gao EF.s.length gco, .slice hao EF.x.length hco, .int .i64 EF.k]) := HSb_w22.out.below hb
        have HS_w23 : Hid (EfF (fun k => (w2.heap.size ≤ k ∧ k < w3.heap.size) ∧ k ≠ PPo) w23 (.agg #[.slice fao EF.st.r.length fco, .int .i64 EF.st.q, .int .i64 EF.st.d, .slice gao EF.s.length gco, .slice hao EF.x.length hco, .int .i64 EF.k]) EF) := HS_w22.out.below hb
        have HGb_w23 : Hid (Bk w23 PPg 69 #[.slice fag EF.st.r.length fcg, .int .i64 EF.st.q, .int .i64 EF.st.d, .slice gag EF.s.length gcg, .slice hag EF.x.length hcg, .int .i64 EF.k]) := HGb_w22.out.below hb
        have HH_w23 : Hid (HeldE (fun k => (Vw6.heap.size ≤ k ∧ k < w7.heap.size) ∧ k ≠ PPg) w23 (.agg #[.slice fag EF.st.r.length fcg, .int .i64 EF.st.q, .int .i64 EF.st.d, .slice gag EF.s.length gcg, .slice hag EF.x.length hcg, .int .i64 EF.k]) EF) := HH_w22.out.below hb
        have HKb_w23 : Hid (Bk w23 PPk 69 #[.slice fak EF.st.r.length fck, .int .i64 EF.st.q, .int .i64 EF.st.d, .slice gak EF.s.length gck, .slice hak EF.x.length hck, .int .i64 EF.k]) := HKb_w22.out.below hb
        have HK_w23 : Hid (EfF (fun k => (w20.heap.size ≤ k ∧ k < w21.heap.size) ∧ k ≠ PPk) w23 (.agg #[.slice fak EF.st.r.length fck, .int .i64 EF.st.q, .int .i64 EF.st.d, .slice gak EF.s.length gck, .slice hak EF.x.length hck, .int .i64 EF.k]) EF) := HK_w22.out.below hb
        clear HB_w22 HP_w22 HQ_w22 HV_w22 HSb_w22 HS_w22 HGb_w22 HH_w22 HKb_w22 HK_w22
        clear hb
        go_wp2
        go_ret
        exact ⟨rfl, HB_w23.out⟩
end Go.Proofs.YtnmcjgkeionjkaaGreat.LawExactHandle
