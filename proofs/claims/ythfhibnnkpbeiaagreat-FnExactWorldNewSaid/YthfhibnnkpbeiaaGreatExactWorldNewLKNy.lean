/- The specification's new kernel, its answer in full. -/
import Derived.Test.YthfhibnnkpbeiaaGreatExactWorldNewG01
import Derived.Test.YthfhibnnkpbeiaaGreatExactWorldNewG26
namespace Go.Proofs.YthfhibnnkpbeiaaGreat
open Go.RowKit
theorem tzKNy {P : Program} {md : Region.Mode} {ops : Array Oper} {Q : Exit → Act → World → Prop} {S : World → Prop} {z fuel : Nat} {listed : Array Bool} {a : Act} {w : World} (i : Nat) (oi : Oper) (v : Value)
 (h : wpAnyZ P md ops Q S z fuel (listed.setIfInBounds i true) (a.put oi.dst v) w) (hi : ops[i]? = some oi := by rfl)
 (hs : Region.noSelect ops = true := by kernel_rfl) (hf : Region.free md ops listed i = true := by kernel_rfl) (hr : (Region.ready md ops listed).contains i = true := by kernel_rfl)
 (hc : chainB md ops i z [i] = true := by kernel_rfl) (hu : [i].all (fun p => !listed.getD p true) = true := by kernel_rfl)
 (hQ : ∀ c a w, Q (.panic c) (a.put oi.dst v) w → Q (.panic c) a w := by exact fun _ _ _ h => h)
 (hy : YieldsIf P ops S oi v a := by exact Or.inl ⟨by rfl, by (intro wX hSw; (try dsimp only at hSw); go_simp; (try exact IntWalk.i64_in _ (by omega)))⟩) (hS : S w := by assumption) : wpAnyZ P md ops Q S z (fuel + 1) listed a w :=
 wpAnyZ_take i [] hi hs hf hr hc hu hQ hy hS h
theorem hidKNy {p : Prop} (h : p) : Hid p := h
set_option maxRecDepth 100000 in
set_option maxHeartbeats 16000000 in
theorem l5new_ex (m : Md) (ai : Option Addr) (ci : Nat) (ah : Option Addr) (ch : Nat) (ae : Option Addr) (ce : Nat) (ad : Option Addr) (cd : Nat) (d : List Int) (w : World) (hok : m.ok = true) (h : IsM w (.agg #[.int .i64 m.n, .int .i64 m.s, .slice ai m.i.length ci, .slice ah m.h.length ch, .slice ae m.e.length ce, .int .i64 m.z]) m) (hd : IsI w (.slice ad d.length cd) d) :
  Calls Tryz.prog 28 #[.agg #[.int .i64 m.n, .int .i64 m.s, .slice ai m.i.length ci, .slice ah m.h.length ch, .slice ae m.e.length ce, .int .i64 m.z], .slice ad d.length cd] w fun e w' => (∃ ap cp, e = .returned (.agg #[.int .i64 m.n, .int .i64 m.s, .slice ai m.i.length ci, .slice ah m.h.length ch, .slice ae m.e.length ce, .int .i64 m.z, .slice ad d.length cd, .slice ap m.n.toNat cp, .slice none 0 0, .int .i64 6, .int .i64 (-1), .bool false, .slice none 0 0, .slice none 0 0]) ∧ IsM w' (.agg #[.int .i64 m.n, .int .i64 m.s, .slice ai m.i.length ci, .slice ah m.h.length ch, .slice ae m.e.length ce, .int .i64 m.z]) m ∧ IsD w' (.slice ad d.length cd) (intsD d) ∧ IsD w' (.slice ap m.n.toNat cp) (partsD (newPs m m.n.toNat))) ∧ Below w.heap.size w w' := by
 have HM := hidKNy h
 have HD := hidKNy hd
 clear h
 obtain ⟨hil, hn0, hn4, he6⟩ := ok_lps hok
 obtain ⟨N, hN⟩ : ∃ N, N = m.n.toNat := ⟨_, rfl⟩
 have HNI : Hid (m.n = (N : Int)) := (by omega : m.n = (N : Int))
 have hNl : N = m.i.length := by omega
 have hN4 : N ≤ 4 := by omega
 have HNK : Hid (N = m.n.toNat) := hN
 have HNL : Hid (N = m.i.length) := hNl
 clear hN hok hd hil hn0 hn4 hNl
 obtain ⟨Rb, hRb⟩ : ∃ Rb, Rb = w.heap.size + 1 := ⟨_, rfl⟩
 obtain ⟨Kb, hKb⟩ : ∃ Kb, Kb = w.heap.size + 1 + 1 := ⟨_, rfl⟩
 obtain ⟨W0, hW0⟩ : ∃ W0, ((w.alloc (.cells #[.int .i64 m.n, .int .i64 m.s, .slice ai m.i.length ci, .slice ah m.h.length ch, .slice ae m.e.length ce, .int .i64 m.z] 31)).alloc (.cells #[.int .i64 0, .int .i64 0, .slice none 0 0, .slice none 0 0, .slice none 0 0, .int .i64 0, .slice none 0 0, .slice none 0 0, .slice none 0 0, .int .i64 0, .int .i64 0, .bool false, .slice none 0 0, .slice none 0 0] 36)).alloc (.cells #[.int .i64 m.n, .int .i64 m.s, .slice ai m.i.length ci, .slice ah m.h.length ch, .slice ae m.e.length ce, .int .i64 m.z, .slice ad d.length cd, .slice none 0 0, .slice none 0 0, .int .i64 6, .int .i64 (-1), .bool false, .slice none 0 0, .slice none 0 0] 36) = W0 := ⟨_, rfl⟩
 have HP0 : Hid (Bk W0 w.heap.size 31 #[.int .i64 m.n, .int .i64 m.s, .slice ai m.i.length ci, .slice ah m.h.length ch, .slice ae m.e.length ce, .int .i64 m.z]) := hW0 ▸ ((Bk.new w _ _).alloc _).alloc _
 have HR0 : Hid (Bk W0 Rb 36 #[.int .i64 0, .int .i64 0, .slice none 0 0, .slice none 0 0, .slice none 0 0, .int .i64 0, .slice none 0 0, .slice none 0 0, .slice none 0 0, .int .i64 0, .int .i64 0, .bool false, .slice none 0 0, .slice none 0 0]) := by rw [← hW0]; exact (Bk.newAt (by simp [hRb]) _ _).alloc _
 have HK0 : Hid (Bk W0 Kb 36 #[.int .i64 m.n, .int .i64 m.s, .slice ai m.i.length ci, .slice ah m.h.length ch, .slice ae m.e.length ce, .int .i64 m.z, .slice ad d.length cd, .slice none 0 0, .slice none 0 0, .int .i64 6, .int .i64 (-1), .bool false, .slice none 0 0, .slice none 0 0]) := by rw [← hW0]; exact Bk.newAt (by simp [hKb]) _ _
 have HB0 : Hid (Below w.heap.size w W0) := by rw [← hW0]; exact (((Below.refl _ w).alloc (Nat.le_refl _) _).alloc (by simp) _).alloc (by simp; omega) _
 obtain ⟨B, hBe⟩ : ∃ B, B = W0.heap.size := ⟨_, rfl⟩
 have hBW : B ≤ W0.heap.size := by omega
 have hKB : Kb < B := hBe ▸ HK0.out.lt
 have HG0 : Hid (PsG B W0 (.slice none 0 0) 0 (newPs m N)) := PsG.nil _ _ _
 obtain ⟨p0, p1, p2, p3, p4, p5⟩ := c6_6 HP0.out
 have hRb' := hRb.symm
 have hKb' := hKb.symm
 clear hBe
 have HW0 := hidKNy hW0
 have c0 := (Bk.new w 31 #[.int .i64 m.n, .int .i64 m.s, .slice ai m.i.length ci, .slice ah m.h.length ch, .slice ae m.e.length ce, .int .i64 m.z]).cell (i := 0) rfl
 have HKB := hidKNy hKb
 have HRB := hidKNy hRb
 have hRK : Rb < Kb := by omega
 have hRw : w.heap.size < Rb := by omega
 clear hW0 hRb' hKb' hRb hKb p0 p1 p2 p3 p4 p5
 go_enter Tryz.func28, Tryz.ntmps28
 go_wp2
 rw [HW0.out, ← HKB.out, ← HRB.out]
 clear HW0 c0
 go_loopw [6] (fun i wr => ∃ (k : Nat) (vp : Value), k ≤ N ∧ i = .int .i64 k ∧ Hid (PsG B wr vp k (newPs m N)) ∧ Hid (Bk wr Kb 36 #[.int .i64 m.n, .int .i64 m.s, .slice ai m.i.length ci, .slice ah m.h.length ch, .slice ae m.e.length ce, .int .i64 m.z, .slice ad d.length cd, vp, .slice none 0 0, .int .i64 6, .int .i64 (-1), .bool false, .slice none 0 0, .slice none 0 0]) ∧ Hid (Bk wr w.heap.size 31 #[.int .i64 m.n, .int .i64 m.s, .slice ai m.i.length ci, .slice ah m.h.length ch, .slice ae m.e.length ce, .int .i64 m.z]) ∧ Hid (Bk wr Rb 36 #[.int .i64 0, .int .i64 0, .slice none 0 0, .slice none 0 0, .slice none 0 0, .int .i64 0, .slice none 0 0, .slice none 0 0, .slice none 0 0, .int .i64 0, .int .i64 0, .bool false, .slice none 0 0, .slice none 0 0]) ∧ Hid (Below w.heap.size w wr) ∧ Hid (B ≤ wr.heap.size)) (fun i _ => N - (intOf i).toNat)
 case atStart => exact ⟨0, _, Nat.zero_le _, rfl, HG0.out, HK0.out, HP0.out, HR0.out, HB0.out, hBW⟩
 case round =>
  clear HG0 HK0 HP0 HR0 HB0
  obtain ⟨k, vp, hk, rfl, HGr, HKr, HPr, HRr, HBr, HSr⟩ := hrel
  have q0 := HPr.out.cell (i := 0) rfl
  rw [HNI.out] at q0
  obtain ⟨cs9, hrow9⟩ := HGr.out.row
  obtain ⟨ap, cp, rfl⟩ := owns_slice hrow9
  clear hrow9
  by_cases hkN : k < N
  case pos =>
   have hkd : decide ((k : Int) < (N : Int)) = true := by simpa using hkN
   go_upto_region 5 with fail
   clear q0
   refine wp_region_z 8 (fun W => W.cell? ⟨Kb, 7, none⟩ = some (.slice ap k cp) ∧ W.cell? ⟨w.heap.size, 0, none⟩ = some (.int .i64 m.n) ∧ W.cell? ⟨w.heap.size, 1, none⟩ = some (.int .i64 m.s) ∧ W.cell? ⟨w.heap.size, 2, none⟩ = some (.slice ai m.i.length ci) ∧ W.cell? ⟨w.heap.size, 3, none⟩ = some (.slice ah m.h.length ch) ∧ W.cell? ⟨w.heap.size, 4, none⟩ = some (.slice ae m.e.length ce) ∧ W.cell? ⟨w.heap.size, 5, none⟩ = some (.int .i64 m.z)) (by kernel_rfl) ⟨HKr.out.drew.cell (i := 7) rfl, HPr.out.drew.cell (i := 0) rfl, HPr.out.drew.cell (i := 1) rfl, HPr.out.drew.cell (i := 2) rfl, HPr.out.drew.cell (i := 3) rfl, HPr.out.drew.cell (i := 4) rfl, HPr.out.drew.cell (i := 5) rfl⟩ (fun hHeld => ?_)
   obtain ⟨wd, hwd⟩ : ∃ wd, wr.drew = wd := ⟨_, rfl⟩
   rw [hwd] at hHeld
   rw [hwd]
   have HKX : Hid (Bk wd Kb 36 #[.int .i64 m.n, .int .i64 m.s, .slice ai m.i.length ci, .slice ah m.h.length ch, .slice ae m.e.length ce, .int .i64 m.z, .slice ad d.length cd, .slice ap k cp, .slice none 0 0, .int .i64 6, .int .i64 (-1), .bool false, .slice none 0 0, .slice none 0 0]) := hwd ▸ HKr.out.drew
   have HPX : Hid (Bk wd w.heap.size 31 #[.int .i64 m.n, .int .i64 m.s, .slice ai m.i.length ci, .slice ah m.h.length ch, .slice ae m.e.length ce, .int .i64 m.z]) := hwd ▸ HPr.out.drew
   have HRX : Hid (Bk wd Rb 36 #[.int .i64 0, .int .i64 0, .slice none 0 0, .slice none 0 0, .slice none 0 0, .int .i64 0, .slice none 0 0, .slice none 0 0, .slice none 0 0, .int .i64 0, .int .i64 0, .bool false, .slice none 0 0, .slice none 0 0]) := hwd ▸ HRr.out.drew
   have HBX : Hid (Below w.heap.size w wd) := hwd ▸ HBr.out.drew
   have HGX : Hid (PsG B wd (.slice ap k cp) k (newPs m N)) := HGr.out.below (hwd ▸ (Below.refl _ wr).drew)
   have HSX : Hid (B ≤ wd.heap.size) := hwd ▸ HSr.out
   clear hwd HKr HPr HGr HRr HBr HSr
   refine tzKNy 0 { dst := some 16, op := Op.fieldAddr 36 (Operand.tmp 5) 2, type := 0, pos := _, after := _, guard := none } (.pointer (some ⟨Kb, 7, none⟩)) ?_
   try simp only [Act.put, List.setIfInBounds_toArray, List.set_cons_zero, List.set_cons_succ]
   refine tzKNy 1 { dst := some 17, op := Op.load 32 (Operand.tmp 16), type := 32, pos := _, after := _, guard := none } (.slice ap k cp) ?_
   try simp only [Act.put, List.setIfInBounds_toArray, List.set_cons_zero, List.set_cons_succ]
   refine tzKNy 2 { dst := some 18, op := Op.load 31 (Operand.tmp 2), type := 31, pos := _, after := _, guard := none } (.agg #[.int .i64 m.n, .int .i64 m.s, .slice ai m.i.length ci, .slice ah m.h.length ch, .slice ae m.e.length ce, .int .i64 m.z]) ?_
   try simp only [Act.put, List.setIfInBounds_toArray, List.set_cons_zero, List.set_cons_succ]
   refine tzKNy 3 { dst := some 19, op := Op.move (Operand.tmp 6), type := 3, pos := _, after := _, guard := none } (.int .i64 (k : Int)) ?_
   try simp only [Act.put, List.setIfInBounds_toArray, List.set_cons_zero, List.set_cons_succ]
   refine wpAnyZ_ready (rs := [4]) (by kernel_rfl) (by simp) ?_
   refine AllReadyZ.cons (o := { dst := some 20, op := Op.call { callee := Callee.value (Operand.func 68), args := #[Operand.tmp 18, Operand.tmp 19], argTypes := #[31, 3] }, type := 70, pos := _, after := _, guard := none }) rfl (fun K hK => ?_) AllReadyZ.nil
   go_simp
   refine (l4new_any _ m k wd (by have h9 := HNL.out; omega) (by omega) (HM.out.below HBX.out)).mono ?_
   rintro e v1 ⟨⟨y1, rfl, hy⟩, hb⟩
   rw [← newPs_at m hkN] at hy
   obtain ⟨q, hq⟩ : ∃ q, q = paAt (newPs m N) k := ⟨_, rfl⟩
   rw [← hq] at hy
   obtain ⟨b1, e1, b4, e4, b5, e5, b6, e6, rfl⟩ := hy.form
   have HQ := hidKNy hq
   have HY := hidKNy hy
   have HBW := hidKNy hb
   have HSD : Hid (B ≤ wd.heap.size) := HSX.out
   have HB1 := hidKNy (HBX.out.trans (hb.mono HBX.out.size))
   have HS1 : Hid (B ≤ v1.heap.size) := Nat.le_trans HSX.out hb.size
   have HK1 := hidKNy (HKX.out.below hb)
   have HP1 := hidKNy (HPX.out.below hb)
   have HR1 := hidKNy (HRX.out.below hb)
   clear hb hy hq
   clear HKX HPX HRX HBX HSX
   have HKX := HK1
   have HPX := HP1
   have HRX := HR1
   have HBX := HB1
   have HSX := HS1
   clear HK1 HP1 HR1 HB1 HS1
   try go_simp
   refine hK.out _ _ ⟨HKX.out.cell (i := 7) rfl, HPX.out.cell (i := 0) rfl, HPX.out.cell (i := 1) rfl, HPX.out.cell (i := 2) rfl, HPX.out.cell (i := 3) rfl, HPX.out.cell (i := 4) rfl, HPX.out.cell (i := 5) rfl⟩ (fun hHeld => ?_)
   clear hK K
   try simp only [Act.put, List.setIfInBounds_toArray, List.set_cons_zero, List.set_cons_succ]
   refine wpAnyZ_ready (rs := [5]) (by kernel_rfl) (by simp) ?_
   refine AllReadyZ.cons (o := { dst := some 21, op := Op.buildSlice 32 1 #[(0, Operand.tmp 20)], type := 32, pos := _, after := _, guard := none }) rfl (fun K hK => ?_) AllReadyZ.nil
   obtain ⟨v2, hV⟩ : ∃ V, v1.alloc (.cells #[.int .i64 q.n, .slice b1 q.st.r.length e1, .int .i64 q.st.q, .int .i64 q.st.d, .slice b4 q.p.length e4, .slice b5 q.t.length e5, .slice b6 q.a.length e6] 70) = V := ⟨_, rfl⟩
   obtain ⟨X2, hX2⟩ : ∃ X, X = v1.heap.size := ⟨_, rfl⟩
   have hbv : Below v1.heap.size v1 v2 := hV ▸ (Below.refl _ v1).alloc (Nat.le_refl _) _
   have HS2 : Hid (Bk v2 X2 70 #[.int .i64 q.n, .slice b1 q.st.r.length e1, .int .i64 q.st.q, .int .i64 q.st.d, .slice b4 q.p.length e4, .slice b5 q.t.length e5, .slice b6 q.a.length e6]) := hV ▸ Bk.newAt hX2 _ _
   have HY2 : Hid (PartF (fun j => wd.heap.size ≤ j ∧ j < v2.heap.size) v2 (.agg #[.int .i64 q.n, .slice b1 q.st.r.length e1, .int .i64 q.st.q, .int .i64 q.st.d, .slice b4 q.p.length e4, .slice b5 q.t.length e5, .slice b6 q.a.length e6]) q) := (HY.out.under hbv).mono (fun j hj => ⟨hj.1, Nat.lt_of_lt_of_le hj.2 hbv.size⟩)
   have HB1 := hidKNy (HBX.out.trans (hbv.mono HBX.out.size))
   have HS1 : Hid (B ≤ v2.heap.size) := Nat.le_trans HSX.out hbv.size
   have HBW2 := hidKNy (HBW.out.trans (hbv.mono HBW.out.size))
   have HV := hidKNy hV
   have HX2 : Hid (X2 = v1.heap.size) := hX2
   have HK1 := hidKNy (HKX.out.below hbv)
   have HP1 := hidKNy (HPX.out.below hbv)
   have HR1 := hidKNy (HRX.out.below hbv)
   clear hV hX2 HY HBW hbv
   clear HKX HPX HRX HBX HSX
   have HKX := HK1
   have HPX := HP1
   have HRX := HR1
   have HBX := HB1
   have HSX := HS1
   clear HK1 HP1 HR1 HB1 HS1
   go_simp
   rw [HV.out, ← HX2.out]
   clear HV HX2
   refine hK.out _ _ ⟨HKX.out.cell (i := 7) rfl, HPX.out.cell (i := 0) rfl, HPX.out.cell (i := 1) rfl, HPX.out.cell (i := 2) rfl, HPX.out.cell (i := 3) rfl, HPX.out.cell (i := 4) rfl, HPX.out.cell (i := 5) rfl⟩ (fun hHeld => ?_)
   clear hK K
   try simp only [Act.put, List.setIfInBounds_toArray, List.set_cons_zero, List.set_cons_succ]
   refine wpAnyZ_ready (rs := [6]) (by kernel_rfl) (by simp) ?_
   refine AllReadyZ.cons (o := { dst := some 22, op := Op.call { callee := Callee.builtin Builtin.append, args := #[Operand.tmp 17, Operand.tmp 21], argTypes := #[32, 32] }, type := 32, pos := _, after := _, guard := none }) rfl (fun K hK => ?_) AllReadyZ.nil
   obtain ⟨cs, G, hgd⟩ := HGX.out
   have hrow := (hgd.below HBW2.out).row
   obtain ⟨i0, hi0, hz0, hz1, hz2⟩ := info_parts infoPt
   refine step_append_src rfl (.tmp 17) (.tmp 21) 32 rfl B 70 i0 (.agg #[.int .i64 0, .slice none 0 0, .int .i64 0, .int .i64 0, .slice none 0 0, .slice none 0 0, .slice none 0 0]) 7 120 Tryz.underlying32 hi0 hz0 hz1 hz2 rfl (by decide) (.slice ap k cp) k cs rfl hrow (.slice (some ⟨X2, 0, none⟩) 1 1) 1 (partL q (.slice b1 q.st.r.length e1) (.slice b4 q.p.length e4) (.slice b5 q.t.length e5) (.slice b6 q.a.length e6)) rfl (src_part HS2.out) (partL_ones _ _ _ _ _ _ _ _ _ _ _ _ _) (by unfold maxLen; omega) (by omega) HSX.out ?_
   intro v9 v4 ho hg hnr
   obtain ⟨a9, c9, rfl⟩ := owns_slice ho
   have HG4 : Hid (PsG B v4 (.slice a9 (k + 1) c9) (k + 1) (newPs m N)) := by
    have h9 := HY2.out
    have h8 := HQ.out
    subst h8
    exact hgd.snocPa HBW2.out HSD.out h9 _ _ _ _ rfl ho hg hnr
   have HB1 := hidKNy (HBX.out.trans ((Below.refl _ v2).grown hg HBX.out.size (fun j e => by have h9 := row_ge hrow e; omega)))
   have HS1 : Hid (B ≤ v4.heap.size) := Nat.le_trans HSX.out hg.size
   have HK1 := hidKNy (HKX.out.turns (grown_turns hg) (owns_ne hrow HKX.out (by decide)))
   have HP1 := hidKNy (HPX.out.turns (grown_turns hg) (owns_ne hrow HPX.out (by decide)))
   have HR1 := hidKNy (HRX.out.turns (grown_turns hg) (owns_ne hrow HRX.out (by decide)))
   clear ho hg hnr hgd hrow hi0 hz0 hz1 hz2 HS2 HY2 HGX HBW2 HSD HQ
   clear HKX HPX HRX HBX HSX
   have HKX := HK1
   have HPX := HP1
   have HRX := HR1
   have HBX := HB1
   have HSX := HS1
   clear HK1 HP1 HR1 HB1 HS1
   refine hK.out _ _ ⟨HKX.out.cell (i := 7) rfl, HPX.out.cell (i := 0) rfl, HPX.out.cell (i := 1) rfl, HPX.out.cell (i := 2) rfl, HPX.out.cell (i := 3) rfl, HPX.out.cell (i := 4) rfl, HPX.out.cell (i := 5) rfl⟩ (fun hHeld => ?_)
   clear hK K
   try simp only [Act.put, List.setIfInBounds_toArray, List.set_cons_zero, List.set_cons_succ]
   refine tzKNy 7 { dst := some 23, op := Op.fieldAddr 36 (Operand.tmp 5) 2, type := 0, pos := _, after := _, guard := none } (.pointer (some ⟨Kb, 7, none⟩)) ?_
   try simp only [Act.put, List.setIfInBounds_toArray, List.set_cons_zero, List.set_cons_succ]
   refine wpAnyZ_ready (rs := [8]) (by kernel_rfl) (by simp) ?_
   refine AllReadyZ.last (o := { dst := none, op := Op.store 32 (Operand.tmp 23) (Operand.tmp 22), type := 0, pos := _, after := _, guard := none }) rfl (fun K hK => ?_)
   have k7 := HKX.out.cell (i := 7) rfl
   have kf := HKX.out.free
   obtain ⟨wf, hwf⟩ : ∃ X, v4.setCell ⟨Kb, 7, none⟩ (.slice a9 (k + 1) c9) = X := ⟨_, rfl⟩
   have HTF : Hid (Turns (fun k => k = Kb) v4 wf) := hwf ▸ put1_turns _ _ 7 _
   have HKF : Hid (Bk wf Kb 36 #[.int .i64 m.n, .int .i64 m.s, .slice ai m.i.length ci, .slice ah m.h.length ch, .slice ae m.e.length ce, .int .i64 m.z, .slice ad d.length cd, .slice a9 (k + 1) c9, .slice none 0 0, .int .i64 6, .int .i64 (-1), .bool false, .slice none 0 0, .slice none 0 0]) := hwf ▸ HKX.out.put 7 _
   have HPF := hidKNy (HPX.out.turns HTF.out (fun e => by omega))
   have HRF := hidKNy (HRX.out.turns HTF.out (fun e => by omega))
   have HBF := hidKNy (HBX.out.trans (HTF.out.to_below (fun k hk => by omega) HBX.out.size))
   have HGF := hidKNy (HG4.out.low HTF.out (fun j hj e => by omega))
   have HSF : Hid (B ≤ wf.heap.size) := Nat.le_trans HSX.out HTF.out.size
   have HWF : Hid _ := hwf
   clear hwf
   go_simp
   rw [HWF.out]
   clear HWF k7 kf HTF HKX HPX HRX HBX HG4 HSX
   refine hK.out _ _ ?_
   clear hK K
   try simp only [Act.put, List.setIfInBounds_toArray, List.set_cons_zero, List.set_cons_succ]
   refine wpAnyZ_done (by kernel_rfl) ?_ _
   clear hHeld
   go_wp2
   go_roundw
   case rel => exact ⟨k + 1, _, by omega, by go_num, HGF.out, HKF.out, HPF.out, HRF.out, HBF.out, HSF.out⟩
   case measure => simp [intOf]; omega
  case neg =>
   obtain rfl : k = N := by omega
   have hkd : decide ((k : Int) < (k : Int)) = false := by simp
   obtain ⟨m0, m1, m2, m3, m4, m5, m6, m7, m8, m9, m10, m11, m12, m13⟩ := c14_14 HKr.out
   obtain ⟨r0, r1, r2, r3, r4, r5, r6, r7, r8, r9, r10, r11, r12, r13⟩ := c14_14 HRr.out
   have rf := HRr.out.free
   obtain ⟨wf, hwf⟩ : ∃ X, put14 wr Rb (.int .i64 m.n) (.int .i64 m.s) (.slice ai m.i.length ci) (.slice ah m.h.length ch) (.slice ae m.e.length ce) (.int .i64 m.z) (.slice ad d.length cd) (.slice ap k cp) (.slice none 0 0) (.int .i64 6) (.int .i64 (-1)) (.bool false) (.slice none 0 0) (.slice none 0 0) = X := ⟨_, rfl⟩
   have HTF : Hid (Turns (fun j => j = Rb) wr wf) := hwf ▸ put14_turns _ _ _ _ _ _ _ _ _ _ _ _ _ _ _ _
   have HRF : Hid (Bk wf Rb 36 #[.int .i64 m.n, .int .i64 m.s, .slice ai m.i.length ci, .slice ah m.h.length ch, .slice ae m.e.length ce, .int .i64 m.z, .slice ad d.length cd, .slice ap k cp, .slice none 0 0, .int .i64 6, .int .i64 (-1), .bool false, .slice none 0 0, .slice none 0 0]) := hwf ▸ HRr.out.put14 _ _ _ _ _ _ _ _ _ _ _ _ _ _
   have HBF := hidKNy (HBr.out.trans (HTF.out.to_below (fun j hj => by omega) HBr.out.size))
   have HGF := hidKNy (HGr.out.low HTF.out (fun j hj e => by omega))
   obtain ⟨t0, t1, t2, t3, t4, t5, t6, t7, t8, t9, t10, t11, t12, t13⟩ := c14_14 HRF.out
   unfold put14 at hwf
   go_wp2
   refine bodyPost_ret (v := .agg #[.int .i64 m.n, .int .i64 m.s, .slice ai m.i.length ci, .slice ah m.h.length ch, .slice ae m.e.length ce, .int .i64 m.z, .slice ad d.length cd, .slice ap k cp, .slice none 0 0, .int .i64 6, .int .i64 (-1), .bool false, .slice none 0 0, .slice none 0 0]) (by simp [results, Tryz.results28, go_sem, t0, t1, t2, t3, t4, t5, t6, t7, t8, t9, t10, t11, t12, t13]) rfl ?_
   rw [← HNK.out]
   obtain ⟨A, hA, _⟩ := PsG.ownD (l := newPs m k) (by rw [newPs_len]; exact HGF.out)
   exact ⟨⟨ap, cp, rfl, HM.out.below HBF.out, (HD.out.below HBF.out).isD, hA.isD⟩, HBF.out⟩
end Go.Proofs.YthfhibnnkpbeiaaGreat
