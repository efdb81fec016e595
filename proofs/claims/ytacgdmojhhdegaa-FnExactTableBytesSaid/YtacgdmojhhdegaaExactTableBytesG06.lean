/- TbS, VOpen, Open, OpenS, MOpen, TbO, MTurn -/
import Derived.Test.YtacgdmojhhdegaaExactTableBytesG05
import Derived.Deep.RegionHeld3
import Derived.Test.YtacgdmojhhdegaaExactTableBytesG00
import Derived.ProofKit
import Derived.ChangeOld
import Derived.OpenShut
import Derived.SizedLaws
import Derived.Test.YtacgdmojhhdegaaRows
import Derived.Below
import Derived.Test.YtacgdmojhhdegaaExactTableBytesG02
import Derived.Test.YtacgdmojhhdegaaExactTableBytesG04
/- The specification's TableBytes. -/
namespace Go.Proofs.Ytacgdmojhhdegaa
open Go.RowKit
theorem wrap_u8 (z : Int) : IntKind.u8.wrap z = z % 256 := by rfl
theorem cells_w (z : Int) : By.intCells [byteOf z] = [.int .u8 (IntKind.u8.wrap z)] := by rw [wrap_u8, cells_one]
theorem step_append_own {P : Program} {ops : Array Oper} {o : Oper} {a : Act} {w : World} {K : Act → World → Prop} {Q : Exit → Act → World → Prop} {E : Prop}
    (hg : o.guard = none) (s x : Operand) (t : TypeId) (hop : o.op = Op.call { callee := Callee.builtin Builtin.append, args := #[s, x], argTypes := #[t, t] })
    (base : Nat) (e : TypeId) (i : TypeInfo) (z : Value) (size bytes : Nat) (h1 : P.underlying t = some (.slice e)) (h2 : P.info? e = some i) (h3 : i.zero = some z) (h4 : i.size = size) (h5 : i.bytes = bytes) (h6 : z.cells.size = size) (h7 : 0 < size)
    (v : Value) (n : Nat) (xs : List Value) (hs : a.eval s = v) (hown : w.ownsRow base e size v n xs)
    (ad : Addr) (m c : Nat) (news : List Value) (hx : a.eval x = .slice (some ad) m c) (hn : news.length = m * size) (hc : ∀ j u, news[j]? = some u → w.cell? (ad.add j) = some u) (h1c : ∀ u ∈ news, u.oneCell' = true)
    (b1 : n + m ≤ maxLen) (b2 : (n + m) * bytes ≤ 140737488355328) (hbase : base ≤ w.heap.size)
    (hK : ∀ v' w', w'.ownsRow base e size v' (n + m) (xs ++ news) → w.grownBy w' v.ownBlock → K (a.put o.dst v') w') :
    if Region.wanted o (yielded ops a.tmps) = true then Oper.wp P o a w K Q else E := by
  have hw : Region.wanted o (yielded ops a.tmps) = true := by simp [Region.wanted, hg]
  rw [if_pos hw]
  exact wp_append_own w s x t hop base e i z size bytes h1 h2 h3 h4 h5 h6 h7 v n xs hs hown ad m c news hx hn hc h1c b1 b2 hbase (fun v' w' r1 r2 _ => hK v' w' r1 r2)
theorem bk_src1 {w : World} {X : Nat} {a : Value} (h : Bk w X 5 #[a]) : ∀ j u, [a][j]? = some u → w.cell? ((⟨X, 0, none⟩ : Addr).add j) = some u := by
  intro j u hu
  rw [Addr.add_lit, Nat.zero_add]
  exact h.cell (by simpa using hu)
theorem ones1 (a : Int) : ∀ u ∈ [Value.int .u8 a], u.oneCell' = true := by
  intro u hu
  simp at hu
  subst hu
  rfl
set_option maxRecDepth 100000 in
set_option maxHeartbeats 8000000 in
theorem sTabs (x : Value) (l : List Em) (w : World) (hl : l.length ≤ 1048576) (h : IsX w x l) :
    Calls Try.prog 19 #[x] w fun e w' => ∃ u, e = .returned u ∧ By.OwnI w.heap.size w' u (tabB l) ∧ Below w.heap.size w w' := by
  obtain ⟨a, cap, rfl, h1, h2, h3⟩ := h
  have H3 : Hid (l = [] ∨ ∃ b off, a = some ⟨b, off, none⟩ ∧ XsAt w b off l) := h3
  clear h1 h2 h3
  obtain ⟨i0, hi, hz0, hz1, hz2⟩ := info_parts By.info5
  obtain ⟨B, hB⟩ : ∃ B, B = w.heap.size := ⟨_, rfl⟩
  have hBw : B ≤ w.heap.size ∧ w.heap.size ≤ B := by omega
  clear hB
  go_enter Try.func19, Try.ntmps19
  go_wp2
  go_loopw [3, 4] (fun o i wr => ∃ (k : Nat) (v : Value), k ≤ l.length ∧ v = o ∧ i = .int .i64 k ∧ RowBy B wr o (tabB (l.take k)) ∧ Below B w wr) (fun _ i _ => l.length - (intOf i).toNat)
  case atStart => exact ⟨0, _, Nat.zero_le _, rfl, rfl, RowBy.nil _ _, Below.refl _ _⟩
  case round =>
    obtain ⟨k, o, hk, rfl, rfl, hR, hBr⟩ := hrel
    have HR1 : Hid (RowBy B wr o (tabB (l.take k))) := hR
    have HB1 : Hid (Below B w wr) := hBr
    have HSZ : Hid (B ≤ wr.heap.size) := Nat.le_trans hBw.1 hBr.size
    have hln : (tabB (l.take k)).length ≤ 5242880 := tabB_take_len hk hl
    clear hR
    by_cases hlt : k < l.length
    · obtain ⟨b, off, rfl, hb0, hc⟩ := H3.out.resolve_left (by intro e; rw [e] at hlt; simp at hlt)
      have hb : b < B := Nat.lt_of_lt_of_le hb0 hBw.2
      obtain ⟨g0, g1, g2⟩ := (hc k hlt).below hBr hb
      have HS : Hid (tabB (l.take (k + 1)) = tabB (l.take k) ++ emB (xAt l k)) := tabB_snoc hlt
      clear hc hBr
      generalize tabB (l.take k) = lq at HR1 hln HS
      generalize xAt l k = e at g0 g1 g2 HS
      obtain ⟨et, el, ev⟩ := e
      dsimp only at g0 g1 g2
      have HK0 : Hid (wr.drew.cell? ⟨b, off + k * 3, none⟩ = some (.int .i64 et) ∧ wr.drew.cell? ⟨b, off + k * 3 + 1, none⟩ = some (.int .i64 el) ∧ wr.drew.cell? ⟨b, off + k * 3 + 2, none⟩ = some (.int .i64 ev)) := ⟨g0, g1, g2⟩
      have HR0 : Hid (RowBy B wr.drew o lq) := HR1.out
      go_wp2_with fail
      refine wp_region_held_drew (S := fun W => W.cell? ⟨b, off + k * 3, none⟩ = some (.int .i64 et) ∧ W.cell? ⟨b, off + k * 3 + 1, none⟩ = some (.int .i64 el) ∧ W.cell? ⟨b, off + k * 3 + 2, none⟩ = some (.int .i64 ev)) (by kernel_rfl) HK0.out (fun hHeld => ?_)
      refine wpAnyH_take (i := 0) (oi := { dst := some 11, op := Op.move (Operand.tmp 3), type := 24, pos := _, after := _, guard := none }) (v := o) rfl (by kernel_rfl) (by kernel_rfl) (by kernel_rfl) (fun _ _ _ h => h) (Or.inl ⟨by rfl, ?_⟩) (by assumption) ?_
      · intro wX hSw
        try dsimp only at hSw
        go_simp
        try exact IntWalk.i64_in _ (by omega)
      try simp only [Act.put, List.setIfInBounds_toArray, List.set_cons_zero, List.set_cons_succ]
      refine wpAnyH_take (i := 1) (oi := { dst := some 12, op := Op.move (Operand.tmp 0), type := 27, pos := _, after := _, guard := none }) (v := .slice (some ⟨b, off, none⟩) l.length cap) rfl (by kernel_rfl) (by kernel_rfl) (by kernel_rfl) (fun _ _ _ h => h) (Or.inl ⟨by rfl, ?_⟩) (by assumption) ?_
      · intro wX hSw
        try dsimp only at hSw
        go_simp
        try exact IntWalk.i64_in _ (by omega)
      try simp only [Act.put, List.setIfInBounds_toArray, List.set_cons_zero, List.set_cons_succ]
      refine wpAnyH_take (i := 2) (oi := { dst := some 13, op := Op.move (Operand.tmp 4), type := 3, pos := _, after := _, guard := none }) (v := .int .i64 (k : Int)) rfl (by kernel_rfl) (by kernel_rfl) (by kernel_rfl) (fun _ _ _ h => h) (Or.inl ⟨by rfl, ?_⟩) (by assumption) ?_
      · intro wX hSw
        try dsimp only at hSw
        go_simp
        try exact IntWalk.i64_in _ (by omega)
      try simp only [Act.put, List.setIfInBounds_toArray, List.set_cons_zero, List.set_cons_succ]
      refine wpAnyH_take (i := 3) (oi := { dst := some 14, op := Op.indexAddr 27 (Operand.tmp 12) (Operand.tmp 13), type := 0, pos := _, after := _, guard := none }) (v := .pointer (some ⟨b, off + k * 3, none⟩)) rfl (by kernel_rfl) (by kernel_rfl) (by kernel_rfl) (fun _ _ _ h => h) (Or.inl ⟨by rfl, ?_⟩) (by assumption) ?_
      · intro wX hSw
        try dsimp only at hSw
        go_simp
        try exact IntWalk.i64_in _ (by omega)
      try simp only [Act.put, List.setIfInBounds_toArray, List.set_cons_zero, List.set_cons_succ]
      refine wpAnyH_take (i := 4) (oi := { dst := some 15, op := Op.fieldAddr 40 (Operand.tmp 14) 0, type := 0, pos := _, after := _, guard := none }) (v := .pointer (some ⟨b, off + k * 3, none⟩)) rfl (by kernel_rfl) (by kernel_rfl) (by kernel_rfl) (fun _ _ _ h => h) (Or.inl ⟨by rfl, ?_⟩) (by assumption) ?_
      · intro wX hSw
        try dsimp only at hSw
        go_simp
        try exact IntWalk.i64_in _ (by omega)
      try simp only [Act.put, List.setIfInBounds_toArray, List.set_cons_zero, List.set_cons_succ]
      refine wpAnyH_take (i := 5) (oi := { dst := some 16, op := Op.load 3 (Operand.tmp 15), type := 3, pos := _, after := _, guard := none }) (v := .int .i64 et) rfl (by kernel_rfl) (by kernel_rfl) (by kernel_rfl) (fun _ _ _ h => h) (Or.inl ⟨by rfl, ?_⟩) (by assumption) ?_
      · intro wX hSw
        try dsimp only at hSw
        go_simp
        try exact IntWalk.i64_in _ (by omega)
      try simp only [Act.put, List.setIfInBounds_toArray, List.set_cons_zero, List.set_cons_succ]
      refine wpAnyH_take (i := 7) (oi := { dst := some 18, op := Op.move (Operand.tmp 0), type := 27, pos := _, after := _, guard := none }) (v := .slice (some ⟨b, off, none⟩) l.length cap) rfl (by kernel_rfl) (by kernel_rfl) (by kernel_rfl) (fun _ _ _ h => h) (Or.inl ⟨by rfl, ?_⟩) (by assumption) ?_
      · intro wX hSw
        try dsimp only at hSw
        go_simp
        try exact IntWalk.i64_in _ (by omega)
      try simp only [Act.put, List.setIfInBounds_toArray, List.set_cons_zero, List.set_cons_succ]
      refine wpAnyH_take (i := 8) (oi := { dst := some 19, op := Op.move (Operand.tmp 4), type := 3, pos := _, after := _, guard := none }) (v := .int .i64 (k : Int)) rfl (by kernel_rfl) (by kernel_rfl) (by kernel_rfl) (fun _ _ _ h => h) (Or.inl ⟨by rfl, ?_⟩) (by assumption) ?_
      · intro wX hSw
        try dsimp only at hSw
        go_simp
        try exact IntWalk.i64_in _ (by omega)
      try simp only [Act.put, List.setIfInBounds_toArray, List.set_cons_zero, List.set_cons_succ]
      refine wpAnyH_take (i := 9) (oi := { dst := some 20, op := Op.indexAddr 27 (Operand.tmp 18) (Operand.tmp 19), type := 0, pos := _, after := _, guard := none }) (v := .pointer (some ⟨b, off + k * 3, none⟩)) rfl (by kernel_rfl) (by kernel_rfl) (by kernel_rfl) (fun _ _ _ h => h) (Or.inl ⟨by rfl, ?_⟩) (by assumption) ?_
      · intro wX hSw
        try dsimp only at hSw
        go_simp
        try exact IntWalk.i64_in _ (by omega)
      try simp only [Act.put, List.setIfInBounds_toArray, List.set_cons_zero, List.set_cons_succ]
      refine wpAnyH_take (i := 10) (oi := { dst := some 21, op := Op.fieldAddr 40 (Operand.tmp 20) 1, type := 0, pos := _, after := _, guard := none }) (v := .pointer (some ⟨b, off + k * 3 + 1, none⟩)) rfl (by kernel_rfl) (by kernel_rfl) (by kernel_rfl) (fun _ _ _ h => h) (Or.inl ⟨by rfl, ?_⟩) (by assumption) ?_
      · intro wX hSw
        try dsimp only at hSw
        go_simp
        try exact IntWalk.i64_in _ (by omega)
      try simp only [Act.put, List.setIfInBounds_toArray, List.set_cons_zero, List.set_cons_succ]
      refine wpAnyH_take (i := 11) (oi := { dst := some 22, op := Op.load 3 (Operand.tmp 21), type := 3, pos := _, after := _, guard := none }) (v := .int .i64 el) rfl (by kernel_rfl) (by kernel_rfl) (by kernel_rfl) (fun _ _ _ h => h) (Or.inl ⟨by rfl, ?_⟩) (by assumption) ?_
      · intro wX hSw
        try dsimp only at hSw
        go_simp
        try exact IntWalk.i64_in _ (by omega)
      try simp only [Act.put, List.setIfInBounds_toArray, List.set_cons_zero, List.set_cons_succ]
      refine wpAnyH_take (i := 15) (oi := { dst := some 26, op := Op.move (Operand.tmp 0), type := 27, pos := _, after := _, guard := none }) (v := .slice (some ⟨b, off, none⟩) l.length cap) rfl (by kernel_rfl) (by kernel_rfl) (by kernel_rfl) (fun _ _ _ h => h) (Or.inl ⟨by rfl, ?_⟩) (by assumption) ?_
      · intro wX hSw
        try dsimp only at hSw
        go_simp
        try exact IntWalk.i64_in _ (by omega)
      try simp only [Act.put, List.setIfInBounds_toArray, List.set_cons_zero, List.set_cons_succ]
      refine wpAnyH_take (i := 16) (oi := { dst := some 27, op := Op.move (Operand.tmp 4), type := 3, pos := _, after := _, guard := none }) (v := .int .i64 (k : Int)) rfl (by kernel_rfl) (by kernel_rfl) (by kernel_rfl) (fun _ _ _ h => h) (Or.inl ⟨by rfl, ?_⟩) (by assumption) ?_
      · intro wX hSw
        try dsimp only at hSw
        go_simp
        try exact IntWalk.i64_in _ (by omega)
      try simp only [Act.put, List.setIfInBounds_toArray, List.set_cons_zero, List.set_cons_succ]
      refine wpAnyH_take (i := 17) (oi := { dst := some 28, op := Op.indexAddr 27 (Operand.tmp 26) (Operand.tmp 27), type := 0, pos := _, after := _, guard := none }) (v := .pointer (some ⟨b, off + k * 3, none⟩)) rfl (by kernel_rfl) (by kernel_rfl) (by kernel_rfl) (fun _ _ _ h => h) (Or.inl ⟨by rfl, ?_⟩) (by assumption) ?_
      · intro wX hSw
        try dsimp only at hSw
        go_simp
        try exact IntWalk.i64_in _ (by omega)
      try simp only [Act.put, List.setIfInBounds_toArray, List.set_cons_zero, List.set_cons_succ]
      refine wpAnyH_take (i := 18) (oi := { dst := some 29, op := Op.fieldAddr 40 (Operand.tmp 28) 2, type := 0, pos := _, after := _, guard := none }) (v := .pointer (some ⟨b, off + k * 3 + 2, none⟩)) rfl (by kernel_rfl) (by kernel_rfl) (by kernel_rfl) (fun _ _ _ h => h) (Or.inl ⟨by rfl, ?_⟩) (by assumption) ?_
      · intro wX hSw
        try dsimp only at hSw
        go_simp
        try exact IntWalk.i64_in _ (by omega)
      try simp only [Act.put, List.setIfInBounds_toArray, List.set_cons_zero, List.set_cons_succ]
      refine wpAnyH_take (i := 19) (oi := { dst := some 30, op := Op.load 3 (Operand.tmp 29), type := 3, pos := _, after := _, guard := none }) (v := .int .i64 ev) rfl (by kernel_rfl) (by kernel_rfl) (by kernel_rfl) (fun _ _ _ h => h) (Or.inl ⟨by rfl, ?_⟩) (by assumption) ?_
      · intro wX hSw
        try dsimp only at hSw
        go_simp
        try exact IntWalk.i64_in _ (by omega)
      try simp only [Act.put, List.setIfInBounds_toArray, List.set_cons_zero, List.set_cons_succ]
      refine wpAnyH_take (i := 12) (oi := { dst := some 23, op := Op.convert 3 5 (Operand.tmp 22), type := 5, pos := _, after := _, guard := none }) (v := .int .u8 (IntKind.u8.wrap el)) rfl (by kernel_rfl) (by kernel_rfl) (by kernel_rfl) (fun _ _ _ h => h) (Or.inl ⟨by rfl, ?_⟩) (by assumption) ?_
      · intro wX hSw
        try dsimp only at hSw
        go_simp
        try exact IntWalk.i64_in _ (by omega)
      try simp only [Act.put, List.setIfInBounds_toArray, List.set_cons_zero, List.set_cons_succ]
      refine wpAnyH_ready (rs := [6, 13]) (by kernel_rfl) (by simp) ?_
      refine AllReadyH.cons (o := { dst := some 17, op := Op.call { callee := Callee.value (Operand.func 25), args := #[Operand.tmp 11, Operand.tmp 16], argTypes := #[24, 3] }, type := 24, pos := _, after := _, guard := none }) rfl (fun K hK => ?_) (AllReadyH.cons (o := { dst := some 24, op := Op.buildSlice 24 1 #[(0, Operand.tmp 23)], type := 24, pos := _, after := _, guard := none }) rfl (fun K hK => ?_) AllReadyH.nil)
      · go_simp
        refine (sTwo_any B _ lq et wr.drew HSZ.out (by omega) HR0.out).mono ?_
        rintro e x1 ⟨y1, rfl, hr, ht⟩
        have HR1 : Hid (RowBy B x1 y1 (lq ++ twoB et)) := hr
        have HBL1 : Hid (Below B wr x1) := (Below.refl B wr).drew.trans (ht.to_below (fun k e => row_ge HR0.out e) HSZ.out)
        have HK1 : Hid (x1.cell? ⟨b, off + k * 3, none⟩ = some (.int .i64 et) ∧ x1.cell? ⟨b, off + k * 3 + 1, none⟩ = some (.int .i64 el) ∧ x1.cell? ⟨b, off + k * 3 + 2, none⟩ = some (.int .i64 ev)) := ⟨(HBL1.out.cell (p := ⟨b, _, none⟩) hb).trans g0, (HBL1.out.cell (p := ⟨b, _, none⟩) hb).trans g1, (HBL1.out.cell (p := ⟨b, _, none⟩) hb).trans g2⟩
        clear hr ht
        refine hK.out _ _ HK1.out (fun hHeld => ?_)
        clear hK K
        try simp only [Act.put, List.setIfInBounds_toArray, List.set_cons_zero, List.set_cons_succ]
        obtain ⟨X, hX⟩ : ∃ X, X = x1.heap.size := ⟨_, rfl⟩
        obtain ⟨x2, hx2⟩ : ∃ V, x1.alloc (.cells #[.int .u8 (IntKind.u8.wrap el)] 5) = V := ⟨_, rfl⟩
        have HW2 : Hid (x1.alloc (.cells #[.int .u8 (IntKind.u8.wrap el)] 5) = x2) := hx2
        have HX : Hid (X = x1.heap.size) := hX
        have HR2 : Hid (RowBy B x2 y1 (lq ++ twoB et)) := by (rw [← hx2]; exact HR1.out.alloc _)
        have HO : Hid (Bk x2 X 5 #[.int .u8 (IntKind.u8.wrap el)]) := by (rw [← hx2, hX]; exact Bk.new _ _ _)
        have HBL2 : Hid (Below B wr x2) := by (rw [← hx2]; exact HBL1.out.alloc (Nat.le_trans HSZ.out HBL1.out.size) _)
        have HK2 : Hid (x2.cell? ⟨b, off + k * 3, none⟩ = some (.int .i64 et) ∧ x2.cell? ⟨b, off + k * 3 + 1, none⟩ = some (.int .i64 el) ∧ x2.cell? ⟨b, off + k * 3 + 2, none⟩ = some (.int .i64 ev)) := ⟨(HBL2.out.cell (p := ⟨b, _, none⟩) hb).trans g0, (HBL2.out.cell (p := ⟨b, _, none⟩) hb).trans g1, (HBL2.out.cell (p := ⟨b, _, none⟩) hb).trans g2⟩
        clear hX hx2
        refine wpAnyH_ready (rs := [13]) (by kernel_rfl) (by simp) ?_
        refine AllReadyH.cons (o := { dst := some 24, op := Op.buildSlice 24 1 #[(0, Operand.tmp 23)], type := 24, pos := _, after := _, guard := none }) rfl (fun K hK => ?_) AllReadyH.nil
        go_simp
        rw [HW2.out, ← HX.out]
        refine hK.out _ _ HK2.out (fun hHeld => ?_)
        clear hK K
        try simp only [Act.put, List.setIfInBounds_toArray, List.set_cons_zero, List.set_cons_succ]
        have hl2 : (lq ++ twoB et).length = lq.length + 2 := by (rw [List.length_append]; rfl)
        have HSZ2 : Hid (B ≤ x2.heap.size) := Nat.le_trans HSZ.out HBL2.out.size
        refine wpAnyH_ready (rs := [14]) (by kernel_rfl) (by simp) ?_
        refine AllReadyH.cons (o := { dst := some 25, op := Op.call { callee := Callee.builtin Builtin.append, args := #[Operand.tmp 17, Operand.tmp 24], argTypes := #[24, 24] }, type := 24, pos := _, after := _, guard := none }) rfl (fun K hK => ?_) AllReadyH.nil
        refine step_append_own (w := x2) rfl (.tmp 17) (.tmp 24) 24 rfl B 5 i0 (.int .u8 0) 1 1 Try.underlying24 hi hz0 hz1 hz2 rfl (by decide) y1 _ _ rfl HR2.out ⟨X, 0, none⟩ 1 1 [.int .u8 (IntKind.u8.wrap el)] rfl rfl (bk_src1 HO.out) (ones1 _) (by unfold maxLen; omega) (by omega) HSZ2.out ?_
        intro y3 x3 hown hgrow
        have HR3 : Hid (RowBy B x3 y3 (lq ++ twoB et ++ [byteOf el])) := RowBy.grow hown (cells_w el) rfl
        have HBL3 : Hid (Below B wr x3) := HBL2.out.grown hgrow HSZ2.out (fun j e => row_ge HR2.out e)
        have HSZ3 : Hid (B ≤ x3.heap.size) := Nat.le_trans HSZ.out HBL3.out.size
        have HK3 : Hid (x3.cell? ⟨b, off + k * 3, none⟩ = some (.int .i64 et) ∧ x3.cell? ⟨b, off + k * 3 + 1, none⟩ = some (.int .i64 el) ∧ x3.cell? ⟨b, off + k * 3 + 2, none⟩ = some (.int .i64 ev)) := ⟨(HBL3.out.cell (p := ⟨b, _, none⟩) hb).trans g0, (HBL3.out.cell (p := ⟨b, _, none⟩) hb).trans g1, (HBL3.out.cell (p := ⟨b, _, none⟩) hb).trans g2⟩
        clear hown hgrow
        refine hK.out _ _ HK3.out (fun hHeld => ?_)
        clear hK K
        try simp only [Act.put, List.setIfInBounds_toArray, List.set_cons_zero, List.set_cons_succ]
        have hl3 : (lq ++ twoB et ++ [byteOf el]).length = lq.length + 3 := by (rw [List.length_append, hl2]; rfl)
        refine wpAnyH_ready (rs := [20]) (by kernel_rfl) (by simp) ?_
        refine AllReadyH.cons (o := { dst := some 31, op := Op.call { callee := Callee.value (Operand.func 25), args := #[Operand.tmp 25, Operand.tmp 30], argTypes := #[24, 3] }, type := 24, pos := _, after := _, guard := none }) rfl (fun K hK => ?_) AllReadyH.nil
        go_simp
        refine (sTwo_any B _ (lq ++ twoB et ++ [byteOf el]) ev x3 HSZ3.out (by omega) HR3.out).mono ?_
        rintro e x4 ⟨y4, rfl, hr, ht⟩
        have HR4 : Hid (RowBy B x4 y4 (lq ++ twoB et ++ [byteOf el] ++ twoB ev)) := hr
        have HBL4 : Hid (Below B wr x4) := HBL3.out.trans (ht.to_below (fun k e => row_ge HR3.out e) HSZ3.out)
        have HK4 : Hid (x4.cell? ⟨b, off + k * 3, none⟩ = some (.int .i64 et) ∧ x4.cell? ⟨b, off + k * 3 + 1, none⟩ = some (.int .i64 el) ∧ x4.cell? ⟨b, off + k * 3 + 2, none⟩ = some (.int .i64 ev)) := ⟨(HBL4.out.cell (p := ⟨b, _, none⟩) hb).trans g0, (HBL4.out.cell (p := ⟨b, _, none⟩) hb).trans g1, (HBL4.out.cell (p := ⟨b, _, none⟩) hb).trans g2⟩
        clear hr ht
        refine hK.out _ _ HK4.out (fun hHeld => ?_)
        clear hK K
        try simp only [Act.put, List.setIfInBounds_toArray, List.set_cons_zero, List.set_cons_succ]
        refine wpAnyH_take (i := 21) (oi := { dst := some 3, op := Op.assign (Operand.tmp 31), type := 24, pos := _, after := _, guard := none }) (v := y4) rfl (by kernel_rfl) (by kernel_rfl) (by kernel_rfl) (fun _ _ _ h => h) (Or.inl ⟨by rfl, ?_⟩) (by assumption) ?_
        · intro wX hSw
          try dsimp only at hSw
          go_simp
          try exact IntWalk.i64_in _ (by omega)
        try simp only [Act.put, List.setIfInBounds_toArray, List.set_cons_zero, List.set_cons_succ]
        refine wpAnyH_done (by kernel_rfl) ?_ _
        clear hHeld HK0 HK1 HK2 HK3 HK4 g0 g1 g2
        go_wp2
        go_roundw
        case rel =>
          refine ⟨k + 1, _, by omega, rfl, by go_num, ?_, HB1.out.trans HBL4.out⟩
          rw [HS.out]
          simpa [emB] using HR4.out
        case measure => simp [intOf]; omega
      · obtain ⟨X, hX⟩ : ∃ X, X = wr.heap.size := ⟨_, rfl⟩
        obtain ⟨x1, hx1⟩ : ∃ V, (wr.alloc (.cells #[.int .u8 (IntKind.u8.wrap el)] 5)).drew = V := ⟨_, rfl⟩
        have HW1 : Hid ((wr.alloc (.cells #[.int .u8 (IntKind.u8.wrap el)] 5)).drew = x1) := hx1
        have HX : Hid (X = wr.heap.size) := hX
        have HR1 : Hid (RowBy B x1 o lq) := by (rw [← hx1]; exact RowBy.alloc HR0.out _)
        have HO1 : Hid (Bk x1 X 5 #[.int .u8 (IntKind.u8.wrap el)]) := by (rw [← hx1, hX]; exact Bk.new _ _ _)
        have HBL1 : Hid (Below B wr x1) := by (rw [← hx1]; exact ((Below.refl B wr).alloc HSZ.out _).drew)
        have HNE : Hid (¬ o.ownBlock = some X) := fun e => by have := RowBy.lt HR0.out e; simp at this; omega
        have HSZ1 : Hid (B ≤ x1.heap.size) := Nat.le_trans HSZ.out HBL1.out.size
        have HK1 : Hid (x1.cell? ⟨b, off + k * 3, none⟩ = some (.int .i64 et) ∧ x1.cell? ⟨b, off + k * 3 + 1, none⟩ = some (.int .i64 el) ∧ x1.cell? ⟨b, off + k * 3 + 2, none⟩ = some (.int .i64 ev)) := ⟨(HBL1.out.cell (p := ⟨b, _, none⟩) hb).trans g0, (HBL1.out.cell (p := ⟨b, _, none⟩) hb).trans g1, (HBL1.out.cell (p := ⟨b, _, none⟩) hb).trans g2⟩
        clear hX hx1
        go_simp
        rw [HW1.out, ← HX.out]
        refine hK.out _ _ HK1.out (fun hHeld => ?_)
        clear hK K
        try simp only [Act.put, List.setIfInBounds_toArray, List.set_cons_zero, List.set_cons_succ]
        refine wpAnyH_ready (rs := [6]) (by kernel_rfl) (by simp) ?_
        refine AllReadyH.cons (o := { dst := some 17, op := Op.call { callee := Callee.value (Operand.func 25), args := #[Operand.tmp 11, Operand.tmp 16], argTypes := #[24, 3] }, type := 24, pos := _, after := _, guard := none }) rfl (fun K hK => ?_) AllReadyH.nil
        go_simp
        refine (sTwo_any B _ lq et x1 HSZ1.out (by omega) HR1.out).mono ?_
        rintro e x2 ⟨y1, rfl, hr, ht⟩
        have HR2 : Hid (RowBy B x2 y1 (lq ++ twoB et)) := hr
        have HBL2 : Hid (Below B wr x2) := HBL1.out.trans (ht.to_below (fun k e => row_ge HR1.out e) HSZ1.out)
        have HO : Hid (Bk x2 X 5 #[.int .u8 (IntKind.u8.wrap el)]) := HO1.out.turns ht HNE.out
        have HK2 : Hid (x2.cell? ⟨b, off + k * 3, none⟩ = some (.int .i64 et) ∧ x2.cell? ⟨b, off + k * 3 + 1, none⟩ = some (.int .i64 el) ∧ x2.cell? ⟨b, off + k * 3 + 2, none⟩ = some (.int .i64 ev)) := ⟨(HBL2.out.cell (p := ⟨b, _, none⟩) hb).trans g0, (HBL2.out.cell (p := ⟨b, _, none⟩) hb).trans g1, (HBL2.out.cell (p := ⟨b, _, none⟩) hb).trans g2⟩
        clear hr ht
        refine hK.out _ _ HK2.out (fun hHeld => ?_)
        clear hK K
        try simp only [Act.put, List.setIfInBounds_toArray, List.set_cons_zero, List.set_cons_succ]
        have hl2 : (lq ++ twoB et).length = lq.length + 2 := by (rw [List.length_append]; rfl)
        have HSZ2 : Hid (B ≤ x2.heap.size) := Nat.le_trans HSZ.out HBL2.out.size
        refine wpAnyH_ready (rs := [14]) (by kernel_rfl) (by simp) ?_
        refine AllReadyH.cons (o := { dst := some 25, op := Op.call { callee := Callee.builtin Builtin.append, args := #[Operand.tmp 17, Operand.tmp 24], argTypes := #[24, 24] }, type := 24, pos := _, after := _, guard := none }) rfl (fun K hK => ?_) AllReadyH.nil
        refine step_append_own (w := x2) rfl (.tmp 17) (.tmp 24) 24 rfl B 5 i0 (.int .u8 0) 1 1 Try.underlying24 hi hz0 hz1 hz2 rfl (by decide) y1 _ _ rfl HR2.out ⟨X, 0, none⟩ 1 1 [.int .u8 (IntKind.u8.wrap el)] rfl rfl (bk_src1 HO.out) (ones1 _) (by unfold maxLen; omega) (by omega) HSZ2.out ?_
        intro y3 x3 hown hgrow
        have HR3 : Hid (RowBy B x3 y3 (lq ++ twoB et ++ [byteOf el])) := RowBy.grow hown (cells_w el) rfl
        have HBL3 : Hid (Below B wr x3) := HBL2.out.grown hgrow HSZ2.out (fun j e => row_ge HR2.out e)
        have HSZ3 : Hid (B ≤ x3.heap.size) := Nat.le_trans HSZ.out HBL3.out.size
        have HK3 : Hid (x3.cell? ⟨b, off + k * 3, none⟩ = some (.int .i64 et) ∧ x3.cell? ⟨b, off + k * 3 + 1, none⟩ = some (.int .i64 el) ∧ x3.cell? ⟨b, off + k * 3 + 2, none⟩ = some (.int .i64 ev)) := ⟨(HBL3.out.cell (p := ⟨b, _, none⟩) hb).trans g0, (HBL3.out.cell (p := ⟨b, _, none⟩) hb).trans g1, (HBL3.out.cell (p := ⟨b, _, none⟩) hb).trans g2⟩
        clear hown hgrow
        refine hK.out _ _ HK3.out (fun hHeld => ?_)
        clear hK K
        try simp only [Act.put, List.setIfInBounds_toArray, List.set_cons_zero, List.set_cons_succ]
        have hl3 : (lq ++ twoB et ++ [byteOf el]).length = lq.length + 3 := by (rw [List.length_append, hl2]; rfl)
        refine wpAnyH_ready (rs := [20]) (by kernel_rfl) (by simp) ?_
        refine AllReadyH.cons (o := { dst := some 31, op := Op.call { callee := Callee.value (Operand.func 25), args := #[Operand.tmp 25, Operand.tmp 30], argTypes := #[24, 3] }, type := 24, pos := _, after := _, guard := none }) rfl (fun K hK => ?_) AllReadyH.nil
        go_simp
        refine (sTwo_any B _ (lq ++ twoB et ++ [byteOf el]) ev x3 HSZ3.out (by omega) HR3.out).mono ?_
        rintro e x4 ⟨y4, rfl, hr, ht⟩
        have HR4 : Hid (RowBy B x4 y4 (lq ++ twoB et ++ [byteOf el] ++ twoB ev)) := hr
        have HBL4 : Hid (Below B wr x4) := HBL3.out.trans (ht.to_below (fun k e => row_ge HR3.out e) HSZ3.out)
        have HK4 : Hid (x4.cell? ⟨b, off + k * 3, none⟩ = some (.int .i64 et) ∧ x4.cell? ⟨b, off + k * 3 + 1, none⟩ = some (.int .i64 el) ∧ x4.cell? ⟨b, off + k * 3 + 2, none⟩ = some (.int .i64 ev)) := ⟨(HBL4.out.cell (p := ⟨b, _, none⟩) hb).trans g0, (HBL4.out.cell (p := ⟨b, _, none⟩) hb).trans g1, (HBL4.out.cell (p := ⟨b, _, none⟩) hb).trans g2⟩
        clear hr ht
        refine hK.out _ _ HK4.out (fun hHeld => ?_)
        clear hK K
        try simp only [Act.put, List.setIfInBounds_toArray, List.set_cons_zero, List.set_cons_succ]
        refine wpAnyH_take (i := 21) (oi := { dst := some 3, op := Op.assign (Operand.tmp 31), type := 24, pos := _, after := _, guard := none }) (v := y4) rfl (by kernel_rfl) (by kernel_rfl) (by kernel_rfl) (fun _ _ _ h => h) (Or.inl ⟨by rfl, ?_⟩) (by assumption) ?_
        · intro wX hSw
          try dsimp only at hSw
          go_simp
          try exact IntWalk.i64_in _ (by omega)
        try simp only [Act.put, List.setIfInBounds_toArray, List.set_cons_zero, List.set_cons_succ]
        refine wpAnyH_done (by kernel_rfl) ?_ _
        clear hHeld HK0 HK1 HK2 HK3 HK4 g0 g1 g2
        go_wp2
        go_roundw
        case rel =>
          refine ⟨k + 1, _, by omega, rfl, by go_num, ?_, HB1.out.trans HBL4.out⟩
          rw [HS.out]
          simpa [emB] using HR4.out
        case measure => simp [intOf]; omega
    · obtain rfl : l.length = k := by omega
      clear hBr
      go_wp2
      go_ret
      exact ⟨_, rfl, by have := HR1.out; rw [List.take_length] at this; exact (RowBy.mono this hBw.2).own, HB1.out.mono hBw.2⟩
set_option maxRecDepth 100000 in
set_option maxHeartbeats 8000000 in
theorem sTab (x : Value) (l : List Em) (w : World) (hl : l.length ≤ 1048576) (h : IsX w x l) :
    Calls Try.prog 6 #[x] w fun e w' => ∃ u, e = .returned (.tuple #[u, .bool (emsC l)]) ∧ By.OwnI w.heap.size w' u (tabR l) ∧ Below w.heap.size w w' := by
  have HX : Hid (IsX w x l) := h
  obtain ⟨a, cap, rfl, h1, h2, h3⟩ := h
  have H3 : Hid (l = [] ∨ ∃ b off, a = some ⟨b, off, none⟩ ∧ XsAt w b off l) := h3
  clear h1 h2 h3
  go_enter Try.func6, Try.ntmps6
  go_wp2
  go_loopw [4] (fun i wr => ∃ k : Nat, k ≤ l.length ∧ i = .int .i64 k ∧ Hid (∀ j, j < k → (xAt l j).okB = true) ∧ Below w.heap.size w wr) (fun i _ => l.length - (intOf i).toNat)
  case atStart => exact ⟨0, Nat.zero_le _, rfl, fun j hj => by omega, Below.refl _ _⟩
  case round =>
    obtain ⟨k, hk, rfl, HA, hBr⟩ := hrel
    have HB1 : Hid (Below w.heap.size w wr) := hBr
    by_cases hlt : k < l.length
    · obtain ⟨b, off, rfl, hb, hc⟩ := H3.out.resolve_left (by intro e; rw [e] at hlt; simp at hlt)
      obtain ⟨g0, g1, g2⟩ := (hc k hlt).below hBr hb
      clear hc hBr
      have HNO : Hid ((xAt l k).okB = false → emsC l = false) := fun h => by unfold emsC; rw [all_no hlt h]
      have HE : Hid (xAt l k = ⟨(xAt l k).t, (xAt l k).l, (xAt l k).v⟩) := (rfl : xAt l k = _)
      generalize (xAt l k).t = et at g0 HE
      generalize (xAt l k).l = el at g1 HE
      generalize (xAt l k).v = ev at g2 HE
      go_wp2_with fail
      refine (sEmit et el ev _).mono ?_
      rintro e w2 ⟨rfl, hb2⟩
      have HB2 : Hid (Below w.heap.size w w2) := HB1.out.trans (hb2.mono HB1.out.size)
      clear hb2 HB1 g0 g1 g2
      cases hok : Em.okB ⟨et, el, ev⟩ with
      | false =>
        have HN : Hid (emsC l = false) := HNO.out (by rw [HE.out, hok])
        clear hok
        go_wp2
        go_ret2
        exact ⟨_, by rw [HN.out]; rfl, by rw [show tabR l = [] by simp [tabR, HN.out]]; exact By.OwnI.nil _ _, HB2.out⟩
      | true =>
        have HY : Hid ((xAt l k).okB = true) := by rw [HE.out]; exact hok
        clear hok
        go_wp2
        go_roundw
        case rel => exact ⟨k + 1, by omega, by go_num, fun j hj => by
          by_cases e : j = k
          · subst e; exact HY.out
          · exact HA.out j (by omega), HB2.out⟩
        case measure => simp [intOf]; omega
    · obtain rfl : l.length = k := by omega
      have HY : Hid (emsC l = true) := all_yes HA.out
      clear hBr
      go_wp2_with fail
      refine (sTabs _ l _ hl (HX.out.below HB1.out)).mono ?_
      rintro e w2 ⟨u, rfl, ho, hb2⟩
      have HO : Hid (By.OwnI wr.heap.size w2 u (tabB l)) := ho
      have HB2 : Hid (Below w.heap.size w w2) := HB1.out.trans (hb2.mono HB1.out.size)
      clear ho hb2
      go_wp2
      go_ret2
      exact ⟨_, by rw [HY.out]; rfl, by rw [show tabR l = tabB l by simp [tabR, HY.out]]; exact HO.out.mono HB1.out.size, HB2.out⟩
end Go.Proofs.Ytacgdmojhhdegaa

/- How a list of numbers that came in is read. -/
namespace Go.Proofs.Ytacgdmojhhdegaa
open Go.ChangeShapes Go.WideShapes Go.ChangeAt Go.RowKit

theorem own : ownKnob Try.prog.godebug = none := by kernel_rfl
theorem laidOut : laidOutB Try.prog = true := by kernel_rfl
theorem cells3 : Try.prog.cellsOf 3 = 1 := by kernel_rfl
theorem add_plain (b off n : Nat) : (⟨b, off, none⟩ : Addr).add n = ⟨b, off + n, none⟩ := by
  unfold Addr.add
  split <;> simp_all
theorem ints_list {w : World} {b off : Nat} : ∀ n, (∀ i, i < n → ∃ z : Int, w.cell? ⟨b, off + i, none⟩ = some (.int .i64 z)) → ∃ l : List Int, l.length = n ∧ ∀ i, i < n → w.cell? ⟨b, off + i, none⟩ = some (.int .i64 (intAt l i))
  | 0, _ => ⟨[], rfl, fun i hi => by omega⟩
  | n + 1, h => by
    obtain ⟨l, hl, hi⟩ := ints_list n (fun i hi => h i (by omega))
    obtain ⟨e, he⟩ := h n (by omega)
    refine ⟨l ++ [e], by simp [hl], fun i hi' => ?_⟩
    by_cases hin : i < n
    · have : intAt (l ++ [e]) i = intAt l i := by unfold intAt; simp [List.getElem?_append_left (by omega : i < l.length)]
      rw [this]; exact hi i hin
    · have : intAt (l ++ [e]) i = e := by unfold intAt; simp [show i = l.length by omega]
      rw [this, show i = n by omega]; exact he
end Go.Proofs.Ytacgdmojhhdegaa

/- How an event that came in is read: seven integers. -/
namespace Go.Proofs.Ytacgdmojhhdegaa
open Go.ChangeShapes Go.WideShapes Go.ChangeAt Go.RowKit

def wfI (x : Int) : Prop := (Lit.int .i64 x).wf = true

theorem list7 {α : Type} {l : List α} (h : l.length = 7) : ∃ a b c d e f g, l = [a, b, c, d, e, f, g] := by
  match l, h with
  | [a, b, c, d, e, f, g], _ => exact ⟨a, b, c, d, e, f, g, rfl⟩

end Go.Proofs.Ytacgdmojhhdegaa

/- How a list of events that came in is read. -/
namespace Go.Proofs.Ytacgdmojhhdegaa
open Go.ChangeShapes Go.WideShapes Go.ChangeAt Go.RowKit

theorem evs_list {w : World} {b off : Nat} : ∀ n, (∀ i, i < n → ∃ e : Ev, Ev.In w b (off + i * 7) e) → ∃ l : List Ev, l.length = n ∧ ∀ i, i < n → Ev.In w b (off + i * 7) (evAt l i)
  | 0, _ => ⟨[], rfl, fun i hi => by omega⟩
  | n + 1, h => by
    obtain ⟨l, hl, hi⟩ := evs_list n (fun i hi => h i (by omega))
    obtain ⟨e, he⟩ := h n (by omega)
    refine ⟨l ++ [e], by simp [hl], fun i hi' => ?_⟩
    by_cases hin : i < n
    · have : evAt (l ++ [e]) i = evAt l i := by unfold evAt; simp [List.getElem?_append_left (by omega : i < l.length)]
      rw [this]; exact hi i hin
    · have : evAt (l ++ [e]) i = e := by unfold evAt; simp [show i = l.length by omega]
      rw [this, show i = n by omega]; exact he

end Go.Proofs.Ytacgdmojhhdegaa

/- How a model that came in is read. -/
namespace Go.Proofs.Ytacgdmojhhdegaa
open Go.ChangeShapes Go.WideShapes Go.ChangeAt Go.RowKit
theorem list4 {α : Type} {l : List α} (h : l.length = 4) : ∃ a b c d, l = [a, b, c, d] := by
  match l, h with
  | [a, b, c, d], _ => exact ⟨a, b, c, d, rfl⟩
theorem list6 {α : Type} {l : List α} (h : l.length = 6) : ∃ a b c d e f, l = [a, b, c, d, e, f] := by
  match l, h with
  | [a, b, c, d, e, f], _ => exact ⟨a, b, c, d, e, f, rfl⟩
theorem os_list {w : World} {b off : Nat} : ∀ n, (∀ i, i < n → ∃ e : O, OAt w b (off + i * 4) e) → ∃ l : List O, l.length = n ∧ ∀ i, i < n → OAt w b (off + i * 4) (oAt l i)
  | 0, _ => ⟨[], rfl, fun i hi => by omega⟩
  | n + 1, h => by
    obtain ⟨l, hl, hi⟩ := os_list n (fun i hi => h i (by omega))
    obtain ⟨e, he⟩ := h n (by omega)
    refine ⟨l ++ [e], by simp [hl], fun i hi' => ?_⟩
    by_cases hin : i < n
    · have : oAt (l ++ [e]) i = oAt l i := by unfold oAt; simp [List.getElem?_append_left (by omega : i < l.length)]
      rw [this]; exact hi i hin
    · have : oAt (l ++ [e]) i = e := by unfold oAt; simp [show i = l.length by omega]
      rw [this, show i = n by omega]; exact he
theorem hs_list {w : World} {b off : Nat} : ∀ n, (∀ i, i < n → ∃ u l, w.cell? ⟨b, off + i, none⟩ = some u ∧ IsO w u l) → ∃ l : List (List O), l.length = n ∧ ∀ i, i < n → ∃ u, w.cell? ⟨b, off + i, none⟩ = some u ∧ IsO w u (hAt l i)
  | 0, _ => ⟨[], rfl, fun i hi => by omega⟩
  | n + 1, h => by
    obtain ⟨l, hl, hi⟩ := hs_list n (fun i hi => h i (by omega))
    obtain ⟨u, r, hu, hr⟩ := h n (by omega)
    refine ⟨l ++ [r], by simp [hl], fun i hi' => ?_⟩
    by_cases hin : i < n
    · have : hAt (l ++ [r]) i = hAt l i := by unfold hAt; simp [List.getElem?_append_left (by omega : i < l.length)]
      rw [this]; exact hi i hin
    · have : hAt (l ++ [r]) i = r := by unfold hAt; simp [show i = l.length by omega]
      rw [this, show i = n by omega]; exact ⟨u, hu, hr⟩
end Go.Proofs.Ytacgdmojhhdegaa

/- An argument that is a list of emits, opened. -/
namespace Go.Proofs.Ytacgdmojhhdegaa
open Go.ChangeShapes Go.WideShapes Go.ChangeAt Go.RowKit
theorem list3 {α : Type} {l : List α} (h : l.length = 3) : ∃ a b c, l = [a, b, c] := by
  match l, h with
  | [a, b, c], _ => exact ⟨a, b, c, rfl⟩
theorem cellsEm : Try.prog.cellsOf 43 = 3 := by kernel_rfl
set_option maxRecDepth 100000 in
theorem trod_emit {H : Type} {enc : TypeId × Value → H} {w : World} {base : Nat} {spare : Nat → Bool} {held : Bool} {fuel : Nat} {cs : List Value} {x : DataW H × List MemPlace}
    (h : DataW.trod enc Try.prog w base spare held fuel 43 cs = some x) : ∃ t l v : Int, cs = [.int .i64 t, .int .i64 l, .int .i64 v] := by
  obtain ⟨xs, n, _, rfl, hl, hlen, hf⟩ := DataW.trod_struct Try.underlying43 h
  rw [cellsEm] at hl
  obtain ⟨c0, c1, c2, rfl⟩ := list3 hl
  have hx : xs.length = 3 := by simpa using hlen
  obtain ⟨y0, y1, y2, rfl⟩ := list3 hx
  have h0 := hf 0 _ rfl
  have h1 := hf 1 _ rfl
  have h2 := hf 2 _ rfl
  obtain ⟨a0, e0, _, w0⟩ := DataW.trod_int Try.underlying3 h0
  obtain ⟨a1, e1, _, w1⟩ := DataW.trod_int Try.underlying3 h1
  obtain ⟨a2, e2, _, w2⟩ := DataW.trod_int Try.underlying3 h2
  simp [cells3] at e0 e1 e2
  subst e0 e1 e2
  exact ⟨a0, a1, a2, rfl⟩
theorem xs_list {w : World} {b off : Nat} : ∀ n, (∀ i, i < n → ∃ e : Em, XAt w b (off + i * 3) e) → ∃ l : List Em, l.length = n ∧ ∀ i, i < n → XAt w b (off + i * 3) (xAt l i)
  | 0, _ => ⟨[], rfl, fun i hi => by omega⟩
  | n + 1, h => by
    obtain ⟨l, hl, hi⟩ := xs_list n (fun i hi => h i (by omega))
    obtain ⟨e, he⟩ := h n (by omega)
    refine ⟨l ++ [e], by simp [hl], fun i hi' => ?_⟩
    by_cases hin : i < n
    · have : xAt (l ++ [e]) i = xAt l i := by unfold xAt; simp [List.getElem?_append_left (by omega : i < l.length)]
      rw [this]; exact hi i hin
    · have : xAt (l ++ [e]) i = e := by unfold xAt; simp [show i = l.length by omega]
      rw [this, show i = n by omega]; exact he
set_option maxRecDepth 100000 in
theorem trod_ems {H : Type} {enc : TypeId × Value → H} {w : World} {spare : Nat → Bool} {held : Bool} {fuel : Nat} {cs : List Value} {x : DataW H × List MemPlace}
    (hf : DataW.trod enc Try.prog w 0 spare held fuel 22 cs = some x) : ∃ v l, cs = [v] ∧ IsX w v l := by
  rcases DataW.trod_slice Try.underlying22 hf with ⟨rfl, _⟩ | ⟨a, len, cap, elems, rest, n, _, rfl, _, hb, hl, hm, hlen, hel, _, _⟩
  · exact ⟨_, [], rfl, none, 0, rfl, Nat.le_refl _, by unfold maxLen; omega, .inl rfl⟩
  · by_cases h0 : len = 0
    · subst h0
      exact ⟨_, [], rfl, _, _, rfl, hl, hm, .inl rfl⟩
    · obtain ⟨b, off, spot⟩ := a
      have hs : spot = none := by
        have h1 := hel 0 (by omega)
        rw [cellsEm, List.getElem?_eq_getElem (by omega)] at h1
        obtain ⟨cs, hc, ht⟩ := Option.bind_eq_some_iff.1 h1
        obtain ⟨t, l, v, rfl⟩ := trod_emit ht
        have c0 := (World.cells?_some hc).2.2 0 (by omega)
        simpa [Addr.add] using World.cell?_spot c0
      subst hs
      have each : ∀ i, i < len → ∃ e : Em, XAt w b (off + i * 3) e ∧ b < w.heap.size := by
        intro i hi
        have h1 := hel i hi
        rw [cellsEm, List.getElem?_eq_getElem (by omega), add_plain] at h1
        obtain ⟨cs, hc, ht⟩ := Option.bind_eq_some_iff.1 h1
        obtain ⟨t, l, v, rfl⟩ := trod_emit ht
        have hblk : b < w.heap.size := World.cells?_block hc (by omega)
        obtain ⟨_, _, hcell⟩ := World.cells?_some hc
        simp only [add_plain] at hcell
        exact ⟨⟨t, l, v⟩, ⟨hcell 0 (by omega), hcell 1 (by omega), hcell 2 (by omega)⟩, hblk⟩
      obtain ⟨_, _, hblk⟩ := each 0 (by omega)
      obtain ⟨l, rfl, hi⟩ := xs_list (w := w) (b := b) (off := off) len (fun i hi => by
        obtain ⟨e, he, _⟩ := each i hi
        exact ⟨e, he⟩)
      exact ⟨_, l, rfl, _, _, rfl, hl, hm, .inr ⟨b, off, rfl, hblk, hi⟩⟩
theorem open_ems {H : Type} {enc : TypeId × Value → H} {w : World} {b0 : Nat} {spare : Nat → Bool} {held : Bool} {r : Reach} {v : Value} {d : DataW H} {p : List MemPlace}
    (hv : Value.okWide Try.prog w r b0 22 v) (h : DataW.Trod enc Try.prog w 0 spare held 22 v d p) : ∃ l : List Em, IsX w v l := by
  obtain ⟨a0, len, cap, rfl⟩ := okWide_slice Try.underlying22 hv
  obtain ⟨fuel, hf⟩ := h
  obtain ⟨u, l, e, g⟩ := trod_ems hf
  simp [Value.cells] at e
  subst e
  exact ⟨l, g⟩
end Go.Proofs.Ytacgdmojhhdegaa

/- Rows of one's own stay where others turn. -/
namespace Go.Proofs.Ytacgdmojhhdegaa
open Go.RowKit
theorem OwnI.turns {B : Nat} {S : Nat → Prop} {w w' : World} {x : Value} {l : List Int} (h : OwnI B w x l) (ht : Turns S w w') (hS : ∀ k, S k → k < B) : OwnI B w' x l := by
  obtain ⟨a, cap, rfl, h1, h2, h⟩ := h
  refine ⟨a, cap, rfl, h1, h2, h.imp id ?_⟩
  rintro ⟨b, rfl, hB, hf, hr⟩
  have hn : ¬ S b := fun e => by have := hS b e; omega
  exact ⟨b, rfl, hB, fun j hj => (ht.frozen hr.1 hn).trans (hf j hj), Nat.lt_of_lt_of_le hr.1 ht.size, fun i hi => (ht.cell hr.1 hn).trans (hr.2 i hi)⟩
theorem By.OwnI.turns {B : Nat} {S : Nat → Prop} {w w' : World} {x : Value} {l : List UInt8} (h : By.OwnI B w x l) (ht : Turns S w w') (hS : ∀ k, S k → k < B) : By.OwnI B w' x l := by
  obtain ⟨a, cap, rfl, h1, h2, h⟩ := h
  refine ⟨a, cap, rfl, h1, h2, h.imp id ?_⟩
  rintro ⟨b, rfl, hB, hf, hr⟩
  have hn : ¬ S b := fun e => by have := hS b e; omega
  exact ⟨b, rfl, hB, fun j hj => (ht.frozen hr.1 hn).trans (hf j hj), Nat.lt_of_lt_of_le hr.1 ht.size, fun i hi => (ht.cell hr.1 hn).trans (hr.2 i hi)⟩
end Go.Proofs.Ytacgdmojhhdegaa

