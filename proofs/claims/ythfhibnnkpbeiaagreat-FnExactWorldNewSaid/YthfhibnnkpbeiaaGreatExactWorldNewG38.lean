/- WNs, WNt -/
import Derived.Test.YthfhibnnkpbeiaaGreatExactWorldNewG01
import Derived.Test.YthfhibnnkpbeiaaGreatExactWorldNewG33
import Derived.Test.YthfhibnnkpbeiaaGreatExactWorldNewLKOw
import Derived.Test.YthfhibnnkpbeiaaGreatExactWorldNewLKNy
import Derived.Test.YthfhibnnkpbeiaaGreatExactWorldNewLMOkS
/- The specification's WorldNew. -/
namespace Go.Proofs.YthfhibnnkpbeiaaGreat
open Go.RowKit
theorem tzWNs {P : Program} {md : Region.Mode} {ops : Array Oper} {Q : Exit → Act → World → Prop} {S : World → Prop} {z fuel : Nat} {listed : Array Bool} {a : Act} {w : World} (i : Nat) (oi : Oper) (v : Value)
 (h : wpAnyZ P md ops Q S z fuel (listed.setIfInBounds i true) (a.put oi.dst v) w) (hi : ops[i]? = some oi := by rfl)
 (hs : Region.noSelect ops = true := by kernel_rfl) (hf : Region.free md ops listed i = true := by kernel_rfl) (hr : (Region.ready md ops listed).contains i = true := by kernel_rfl)
 (hc : chainB md ops i z [i] = true := by kernel_rfl) (hu : [i].all (fun p => !listed.getD p true) = true := by kernel_rfl)
 (hQ : ∀ c a w, Q (.panic c) (a.put oi.dst v) w → Q (.panic c) a w := by exact fun _ _ _ h => h)
 (hy : YieldsIf P ops S oi v a := by exact Or.inl ⟨by rfl, by (intro wX hSw; (try dsimp only at hSw); go_simp; (try exact IntWalk.i64_in _ (by omega)))⟩) (hS : S w := by assumption) : wpAnyZ P md ops Q S z (fuel + 1) listed a w :=
 wpAnyZ_take i [] hi hs hf hr hc hu hQ hy hS h
theorem hidWNs {p : Prop} (h : p) : Hid p := h
set_option maxRecDepth 100000 in
set_option maxHeartbeats 16000000 in
theorem own6_one (m : Md) (d : List Int) (ai : Option Addr) (ci : Nat) (ah : Option Addr) (ch : Nat) (ae : Option Addr) (ce : Nat) (ad : Option Addr) (cd : Nat) (ap : Option Addr) (cp N X : Nat) (w : World) (hok : m.ok = true) (hN : N = m.n.toNat) (hdl : d.length = 4) (hM : IsM w (.agg #[.int .i64 m.n, .int .i64 m.s, .slice ai m.i.length ci, .slice ah m.h.length ch, .slice ae m.e.length ce, .int .i64 m.z]) m) (hD : IsD w (.slice ad d.length cd) (intsD d)) (hPs : IsD w (.slice ap N cp) (partsD (newPs m N))) (hX : Bk w X 36 #[.int .i64 m.n, .int .i64 m.s, .slice ai m.i.length ci, .slice ah m.h.length ch, .slice ae m.e.length ce, .int .i64 m.z, .slice ad d.length cd, .slice ap N cp, .slice none 0 0, .int .i64 6, .int .i64 (-1), .bool false, .slice none 0 0, .slice none 0 0]) :
  Calls Tryz.prog 52 #[.agg #[.int .i64 m.n, .int .i64 m.s, .slice ai m.i.length ci, .slice ah m.h.length ch, .slice ae m.e.length ce, .int .i64 m.z, .slice (some ⟨X, 0, none⟩) 1 1, .slice none 0 0]] w fun e w' => (∃ y, e = .returned y ∧ WorF (fun j => w.heap.size ≤ j ∧ j < w'.heap.size) w' y ⟨m, [newK m d], []⟩) ∧ Below w.heap.size w w' := by
 have HM := hidWNs hM
 have HD := hidWNs hD
 have HPS := hidWNs hPs
 have HOK : Hid (m.ok = true) := hok
 have HNN : Hid (N = m.n.toNat) := hN
 have HDL : Hid (d.length = 4) := hdl
 have HML : Hid (∀ j, (hAt m.h j).length ≤ 8) := fun j => rows8 hok j
 have HMS := hidWNs (small3 hok)
 have hXl : X < w.heap.size := hX.lt
 obtain ⟨Rb, hRb⟩ : ∃ Rb, Rb = w.heap.size + 1 := ⟨_, rfl⟩
 obtain ⟨W0, hW0⟩ : ∃ W0, (w.alloc (.cells #[.int .i64 m.n, .int .i64 m.s, .slice ai m.i.length ci, .slice ah m.h.length ch, .slice ae m.e.length ce, .int .i64 m.z, .slice (some ⟨X, 0, none⟩) 1 1, .slice none 0 0] 51)).alloc (.cells #[.int .i64 0, .int .i64 0, .slice none 0 0, .slice none 0 0, .slice none 0 0, .int .i64 0, .slice none 0 0, .slice none 0 0] 51) = W0 := ⟨_, rfl⟩
 have HP0 : Hid (Bk W0 w.heap.size 51 #[.int .i64 m.n, .int .i64 m.s, .slice ai m.i.length ci, .slice ah m.h.length ch, .slice ae m.e.length ce, .int .i64 m.z, .slice (some ⟨X, 0, none⟩) 1 1, .slice none 0 0]) := hW0 ▸ (Bk.new w _ _).alloc _
 have HR0 : Hid (Bk W0 Rb 51 #[.int .i64 0, .int .i64 0, .slice none 0 0, .slice none 0 0, .slice none 0 0, .int .i64 0, .slice none 0 0, .slice none 0 0]) := by rw [← hW0]; exact Bk.newAt (by simp [hRb]) _ _
 have HX0 : Hid (Bk W0 X 36 #[.int .i64 m.n, .int .i64 m.s, .slice ai m.i.length ci, .slice ah m.h.length ch, .slice ae m.e.length ce, .int .i64 m.z, .slice ad d.length cd, .slice ap N cp, .slice none 0 0, .int .i64 6, .int .i64 (-1), .bool false, .slice none 0 0, .slice none 0 0]) := hW0 ▸ (hX.alloc _).alloc _
 have HB0 : Hid (Below w.heap.size w W0) := by rw [← hW0]; exact ((Below.refl _ w).alloc (Nat.le_refl _) _).alloc (by simp) _
 have HW0 := hidWNs hW0
 have HRB := hidWNs hRb
 have hRw : w.heap.size < Rb := by omega
 have hXR : X < Rb := by omega
 obtain ⟨c0, c1, c2, c3, c4, c5⟩ := c6_8 ((Bk.new w 51 #[.int .i64 m.n, .int .i64 m.s, .slice ai m.i.length ci, .slice ah m.h.length ch, .slice ae m.e.length ce, .int .i64 m.z, .slice (some ⟨X, 0, none⟩) 1 1, .slice none 0 0]).alloc (.cells #[.int .i64 0, .int .i64 0, .slice none 0 0, .slice none 0 0, .slice none 0 0, .int .i64 0, .slice none 0 0, .slice none 0 0] 51))
 clear hW0 hRb hM hD hPs hok hN hdl hX
 go_enter Tryz.func52, Tryz.ntmps52
 go_wp2_with fail
 rw [HW0.out, ← HRB.out]
 clear HW0 c0 c1 c2 c3 c4 c5
 refine (ownM_any _ m W0 (by have h9 := HMS.out; omega) (by have h9 := HMS.out; omega) (by have h9 := HMS.out; omega) (fun j hj => Nat.le_trans (HML.out j) (by omega)) (HM.out.below HB0.out)).mono ?_
 rintro e w1 ⟨y0, rfl, hb, hmd⟩
 obtain ⟨avi, cvi, avh, cvh, avs, cvs, rfl⟩ := hmd.form
 obtain ⟨n0, hn0⟩ : ∃ n, n = W0.heap.size := ⟨_, rfl⟩
 obtain ⟨n1, hn1⟩ : ∃ n, n = w1.heap.size := ⟨_, rfl⟩
 rw [← hn0, ← hn1] at hmd
 have HM1 := hidWNs hmd
 have HN0 : Hid (w.heap.size ≤ n0) := hn0 ▸ HB0.out.size
 have HRN : Hid (Rb < n0) := hn0 ▸ HR0.out.lt
 have HN01 : Hid (n0 ≤ n1) := (by rw [hn0, hn1]; exact hb.size : n0 ≤ n1)
 have HP1 := hidWNs (HP0.out.below hb)
 have HR1 := hidWNs (HR0.out.below hb)
 have HX1 := hidWNs (HX0.out.below hb)
 have HB1 := hidWNs (HB0.out.trans (hb.mono HB0.out.size))
 obtain ⟨Ob, w2, HOB, HV2, hb2, ho2⟩ := lay_any w1 #[.int .i64 m.n, .int .i64 m.s, .slice avi m.i.length cvi, .slice avh m.h.length cvh, .slice avs m.e.length cvs, .int .i64 m.z, .slice none 0 0, .slice none 0 0] 51
 have HOn : Hid (Ob = n1) := (by rw [HOB.out, hn1] : Ob = n1)
 have HO2 := hidWNs ho2
 have HM2 := hidWNs (HM1.out.below hb2)
 have HP2 := hidWNs (HP1.out.below hb2)
 have HR2 := hidWNs (HR1.out.below hb2)
 have HX2 := hidWNs (HX1.out.below hb2)
 have HB2 := hidWNs (HB1.out.trans (hb2.mono HB1.out.size))
 obtain ⟨B, hB⟩ : ∃ B, B = w2.heap.size := ⟨_, rfl⟩
 have HBE : Hid (B = w2.heap.size) := hB
 have HOB9 : Hid (Ob < B) := hB ▸ ho2.lt
 clear hb hmd hn0 hn1 hb2 ho2 hB HP0 HR0 HX0 HB0 HP1 HR1 HX1 HB1 HM1
 have hRn := HRN.out
 have hnn := HN01.out
 have hwn := HN0.out
 have hOn : Ob = n1 := HOn.out
 have hOR : Rb < Ob := by omega
 have hOP : w.heap.size < Ob := by omega
 have hOX : X < Ob := by omega
 have hOB9 := HOB9.out
 have hOn1 : n1 ≤ Ob := by omega
 clear hOn
 go_wp2
 rw [HV2.out, ← HOB.out]
 clear HV2
 go_loopw [4] (fun i wr => (i = .int .i64 0 ∧ Hid (Bk wr Ob 51 #[.int .i64 m.n, .int .i64 m.s, .slice avi m.i.length cvi, .slice avh m.h.length cvh, .slice avs m.e.length cvs, .int .i64 m.z, .slice none 0 0, .slice none 0 0]) ∧ Hid (Turns (fun j => j = Ob) w2 wr)) ∨ (i = .int .i64 1 ∧ ∃ a9 c9 A9, Hid (Bk wr Ob 51 #[.int .i64 m.n, .int .i64 m.s, .slice avi m.i.length cvi, .slice avh m.h.length cvh, .slice avs m.e.length cvs, .int .i64 m.z, .slice a9 1 c9, .slice none 0 0]) ∧ Hid (Turns (fun j => j = Ob) w2 wr) ∧ Hid (OwnD wr A9 (.slice a9 1 c9) (knsD [newK m d])) ∧ Hid (∀ j, A9 j → B ≤ j ∧ j < wr.heap.size))) (fun i _ => 1 - (intOf i).toNat)
 case atStart => exact .inl ⟨rfl, HO2.out, Turns.refl _ _⟩
 case round =>
  rcases hrel with ⟨rfl, HOr, HTr⟩ | ⟨rfl, a9, c9, A9, HOr, HTr, HKr, HAr⟩
  ·have HPr := hidWNs (HP2.out.turns HTr.out (fun e => by omega))
   have HXr := hidWNs (HX2.out.turns HTr.out (fun e => by omega))
   have HBr := hidWNs (HB2.out.trans (HTr.out.to_below (fun j hj => by omega) HB2.out.size))
   have HSr : Hid (B ≤ wr.heap.size) := HBE.out ▸ HTr.out.size
   have q6 := HPr.out.cell (i := 6) rfl
   go_wp2_with fail
   clear q6
   have HOX := hidWNs HOr.out.drew
   have HPX := hidWNs HPr.out.drew
   have HXX := hidWNs HXr.out.drew
   have HBX := hidWNs HBr.out.drew
   refine wp_region_z 11 (fun W => W.cell? ⟨Ob, 6, none⟩ = some (.slice none 0 0) ∧ W.cell? ⟨w.heap.size, 6, none⟩ = some (.slice (some ⟨X, 0, none⟩) 1 1) ∧ W.cell? ⟨X, 0, none⟩ = some (.int .i64 m.n) ∧ W.cell? ⟨X, 1, none⟩ = some (.int .i64 m.s) ∧ W.cell? ⟨X, 2, none⟩ = some (.slice ai m.i.length ci) ∧ W.cell? ⟨X, 3, none⟩ = some (.slice ah m.h.length ch) ∧ W.cell? ⟨X, 4, none⟩ = some (.slice ae m.e.length ce) ∧ W.cell? ⟨X, 5, none⟩ = some (.int .i64 m.z) ∧ W.cell? ⟨X, 6, none⟩ = some (.slice ad d.length cd) ∧ W.cell? ⟨X, 7, none⟩ = some (.slice ap N cp) ∧ W.cell? ⟨X, 8, none⟩ = some (.slice none 0 0) ∧ W.cell? ⟨X, 9, none⟩ = some (.int .i64 6) ∧ W.cell? ⟨X, 10, none⟩ = some (.int .i64 (-1)) ∧ W.cell? ⟨X, 11, none⟩ = some (.bool false) ∧ W.cell? ⟨X, 12, none⟩ = some (.slice none 0 0) ∧ W.cell? ⟨X, 13, none⟩ = some (.slice none 0 0)) (by kernel_rfl) ⟨HOX.out.cell (i := 6) rfl, HPX.out.cell (i := 6) rfl, HXX.out.cell (i := 0) rfl, HXX.out.cell (i := 1) rfl, HXX.out.cell (i := 2) rfl, HXX.out.cell (i := 3) rfl, HXX.out.cell (i := 4) rfl, HXX.out.cell (i := 5) rfl, HXX.out.cell (i := 6) rfl, HXX.out.cell (i := 7) rfl, HXX.out.cell (i := 8) rfl, HXX.out.cell (i := 9) rfl, HXX.out.cell (i := 10) rfl, HXX.out.cell (i := 11) rfl, HXX.out.cell (i := 12) rfl, HXX.out.cell (i := 13) rfl⟩ (fun hHeld => ?_)
   obtain ⟨wd, hwd⟩ : ∃ wd, wr.drew = wd := ⟨_, rfl⟩
   have HTX : Hid (Turns (fun j => j = Ob) w2 wd) := HTr.out.trans (S := fun j => j = Ob) (hwd ▸ Turns.of_below (Below.refl _ wr).drew)
   have HSX : Hid (B ≤ wd.heap.size) := hwd ▸ HSr.out
   rw [hwd] at hHeld HOX HPX HXX HBX
   rw [hwd]
   clear hwd HOr HPr HXr HBr HSr HTr
   refine tzWNs 0 { dst := some 17, op := Op.fieldAddr 51 (Operand.tmp 3) 1, type := 0, pos := _, after := _, guard := none } (.pointer (some ⟨Ob, 6, none⟩)) ?_
   try simp only [Act.put, List.setIfInBounds_toArray, List.set_cons_zero, List.set_cons_succ]
   refine tzWNs 1 { dst := some 18, op := Op.load 48 (Operand.tmp 17), type := 48, pos := _, after := _, guard := none } (.slice none 0 0) ?_
   try simp only [Act.put, List.setIfInBounds_toArray, List.set_cons_zero, List.set_cons_succ]
   refine tzWNs 2 { dst := some 19, op := Op.fieldAddr 51 (Operand.tmp 1) 1, type := 0, pos := _, after := _, guard := none } (.pointer (some ⟨w.heap.size, 6, none⟩)) ?_
   try simp only [Act.put, List.setIfInBounds_toArray, List.set_cons_zero, List.set_cons_succ]
   refine tzWNs 3 { dst := some 20, op := Op.load 48 (Operand.tmp 19), type := 48, pos := _, after := _, guard := none } (.slice (some ⟨X, 0, none⟩) 1 1) ?_
   try simp only [Act.put, List.setIfInBounds_toArray, List.set_cons_zero, List.set_cons_succ]
   refine tzWNs 4 { dst := some 21, op := Op.move (Operand.tmp 4), type := 3, pos := _, after := _, guard := none } (.int .i64 0) ?_
   try simp only [Act.put, List.setIfInBounds_toArray, List.set_cons_zero, List.set_cons_succ]
   refine tzWNs 5 { dst := some 22, op := Op.indexAddr 48 (Operand.tmp 20) (Operand.tmp 21), type := 0, pos := _, after := _, guard := none } (.pointer (some ⟨X, 0, none⟩)) ?_
   try simp only [Act.put, List.setIfInBounds_toArray, List.set_cons_zero, List.set_cons_succ]
   refine tzWNs 6 { dst := some 23, op := Op.load 36 (Operand.tmp 22), type := 36, pos := _, after := _, guard := none } (.agg #[.int .i64 m.n, .int .i64 m.s, .slice ai m.i.length ci, .slice ah m.h.length ch, .slice ae m.e.length ce, .int .i64 m.z, .slice ad d.length cd, .slice ap N cp, .slice none 0 0, .int .i64 6, .int .i64 (-1), .bool false, .slice none 0 0, .slice none 0 0]) ?_
   try simp only [Act.put, List.setIfInBounds_toArray, List.set_cons_zero, List.set_cons_succ]
   refine wpAnyZ_ready (rs := [7]) (by kernel_rfl) (by simp) ?_
   refine AllReadyZ.cons (o := { dst := some 24, op := Op.call { callee := Callee.value (Operand.func 27), args := #[Operand.tmp 23], argTypes := #[36] }, type := 36, pos := _, after := _, guard := none }) rfl (fun K hK => ?_) AllReadyZ.nil
   go_simp
   refine (own5_any m d ai ci ah ch ae ce ad cd ap cp N wd HOK.out HNN.out HDL.out (HM.out.below HBX.out) (HD.out.under HBX.out) (HPS.out.under HBX.out)).mono ?_
   rintro e v1 ⟨⟨y1, rfl, hy⟩, hb9⟩
   obtain ⟨b2, e2, b3, e3, b4, e4, b6, e6, b7, e7, b8, e8, b12, e12, b13, e13, rfl⟩ := hy.newForm'
   have HY := hidWNs hy
   have HSD : Hid (B ≤ wd.heap.size) := HSX.out
   have HB1 := hidWNs (HBX.out.trans (hb9.mono HBX.out.size))
   have HS1 : Hid (B ≤ v1.heap.size) := Nat.le_trans HSX.out hb9.size
   have HT1 := hidWNs (HTX.out.trans (S := fun j => j = Ob) (Turns.of_below hb9))
   have HO1 := hidWNs (HOX.out.below hb9)
   have HP1 := hidWNs (HPX.out.below hb9)
   have HX1 := hidWNs (HXX.out.below hb9)
   clear hb9 hy
   clear HOX HPX HXX HTX HBX HSX
   have HOX := HO1
   have HPX := HP1
   have HXX := HX1
   have HTX := HT1
   have HBX := HB1
   have HSX := HS1
   clear HO1 HP1 HX1 HT1 HB1 HS1
   try go_simp
   refine hK.out _ _ ⟨HOX.out.cell (i := 6) rfl, HPX.out.cell (i := 6) rfl, HXX.out.cell (i := 0) rfl, HXX.out.cell (i := 1) rfl, HXX.out.cell (i := 2) rfl, HXX.out.cell (i := 3) rfl, HXX.out.cell (i := 4) rfl, HXX.out.cell (i := 5) rfl, HXX.out.cell (i := 6) rfl, HXX.out.cell (i := 7) rfl, HXX.out.cell (i := 8) rfl, HXX.out.cell (i := 9) rfl, HXX.out.cell (i := 10) rfl, HXX.out.cell (i := 11) rfl, HXX.out.cell (i := 12) rfl, HXX.out.cell (i := 13) rfl⟩ (fun hHeld => ?_)
   clear hK K
   try simp only [Act.put, List.setIfInBounds_toArray, List.set_cons_zero, List.set_cons_succ]
   refine wpAnyZ_ready (rs := [8]) (by kernel_rfl) (by simp) ?_
   refine AllReadyZ.cons (o := { dst := some 25, op := Op.buildSlice 48 1 #[(0, Operand.tmp 24)], type := 48, pos := _, after := _, guard := none }) rfl (fun K hK => ?_) AllReadyZ.nil
   obtain ⟨X2, v2, HX2, HV, hbv, hs2⟩ := lay_any v1 #[.int .i64 m.n, .int .i64 m.s, .slice b2 m.i.length e2, .slice b3 m.h.length e3, .slice b4 m.e.length e4, .int .i64 m.z, .slice b6 d.length e6, .slice b7 m.n.toNat e7, .slice b8 0 e8, .int .i64 6, .int .i64 (-1), .bool false, .slice b12 0 e12, .slice b13 0 e13] 36
   have HS2 := hidWNs hs2
   have HY2 := hidWNs (HY.out.under hbv)
   have HL2 := hidWNs hbv.size
   have HB1 := hidWNs (HBX.out.trans (hbv.mono HBX.out.size))
   have HS1 : Hid (B ≤ v2.heap.size) := Nat.le_trans HSX.out hbv.size
   have HT1 := hidWNs (HTX.out.trans (S := fun j => j = Ob) (Turns.of_below hbv))
   have HO1 := hidWNs (HOX.out.below hbv)
   have HP1 := hidWNs (HPX.out.below hbv)
   have HX1 := hidWNs (HXX.out.below hbv)
   clear HY hbv hs2
   clear HOX HPX HXX HTX HBX HSX
   have HOX := HO1
   have HPX := HP1
   have HXX := HX1
   have HTX := HT1
   have HBX := HB1
   have HSX := HS1
   clear HO1 HP1 HX1 HT1 HB1 HS1
   go_simp
   rw [HV.out, ← HX2.out]
   clear HV HX2
   refine hK.out _ _ ⟨HOX.out.cell (i := 6) rfl, HPX.out.cell (i := 6) rfl, HXX.out.cell (i := 0) rfl, HXX.out.cell (i := 1) rfl, HXX.out.cell (i := 2) rfl, HXX.out.cell (i := 3) rfl, HXX.out.cell (i := 4) rfl, HXX.out.cell (i := 5) rfl, HXX.out.cell (i := 6) rfl, HXX.out.cell (i := 7) rfl, HXX.out.cell (i := 8) rfl, HXX.out.cell (i := 9) rfl, HXX.out.cell (i := 10) rfl, HXX.out.cell (i := 11) rfl, HXX.out.cell (i := 12) rfl, HXX.out.cell (i := 13) rfl⟩ (fun hHeld => ?_)
   clear hK K
   try simp only [Act.put, List.setIfInBounds_toArray, List.set_cons_zero, List.set_cons_succ]
   refine wpAnyZ_ready (rs := [9]) (by kernel_rfl) (by simp) ?_
   refine AllReadyZ.cons (o := { dst := some 26, op := Op.call { callee := Callee.builtin Builtin.append, args := #[Operand.tmp 18, Operand.tmp 25], argTypes := #[48, 48] }, type := 48, pos := _, after := _, guard := none }) rfl (fun K hK => ?_) AllReadyZ.nil
   obtain ⟨i0, hi0, hz0, hz1, hz2⟩ := info_parts infoKn
   refine step_append_src rfl (.tmp 18) (.tmp 25) 48 rfl B 36 i0 (.agg #[.int .i64 0, .int .i64 0, .slice none 0 0, .slice none 0 0, .slice none 0 0, .int .i64 0, .slice none 0 0, .slice none 0 0, .slice none 0 0, .int .i64 0, .int .i64 0, .bool false, .slice none 0 0, .slice none 0 0]) 14 240 Tryz.underlying48 hi0 hz0 hz1 hz2 rfl (by decide) (.slice none 0 0) 0 [] rfl (World.ownsRow_nil v2 _ 36 14) (.slice (some ⟨X2, 0, none⟩) 1 1) 1 [.int .i64 m.n, .int .i64 m.s, .slice b2 m.i.length e2, .slice b3 m.h.length e3, .slice b4 m.e.length e4, .int .i64 m.z, .slice b6 d.length e6, .slice b7 m.n.toNat e7, .slice b8 0 e8, .int .i64 6, .int .i64 (-1), .bool false, .slice b12 0 e12, .slice b13 0 e13] rfl (src_kern HS2.out) (kern_ones _ _ _ _ _ _ _ _ _ _ _ _ _ _ _ _ _ _ _ _ _ _ _ _ _ _ _ _ _) (by unfold maxLen; omega) (by omega) HSX.out ?_
   intro v9 v4 ho hg hnr
   have hnew : ∀ j, v9.ownBlock = some j → v2.heap.size ≤ j := fun j hj => hnr.elim (fun e => by rw [e] at hj; cases hj) (fun h => h j hj)
   have hyy : KernF (fun j => wd.heap.size ≤ j ∧ j < v1.heap.size) v4 (.agg #[.int .i64 m.n, .int .i64 m.s, .slice b2 m.i.length e2, .slice b3 m.h.length e3, .slice b4 m.e.length e4, .int .i64 m.z, .slice b6 d.length e6, .slice b7 m.n.toNat e7, .slice b8 0 e8, .int .i64 6, .int .i64 (-1), .bool false, .slice b12 0 e12, .slice b13 0 e13]) (newK m d) := HY2.out.turns (grown_turns hg) (fun j hj e => by cases e)
   obtain ⟨a9, c9, A9, rfl, hk9, hA9⟩ := kns_own ho hyy (fun j hj e => by have h9 := hnew j e; have h8 := HL2.out; omega)
   have HK4 := hidWNs hk9
   have HA4 : Hid (∀ j, A9 j → B ≤ j ∧ j < v4.heap.size) := fun j hj => by
    rcases hA9 j hj with h9 | h9
    ·have h8 := HSD.out; have h7 := HL2.out; have h6 := hg.size; omega
    ·exact h9
   have HB1 := hidWNs (HBX.out.trans ((Below.refl _ v2).grown hg HBX.out.size (fun j e => by cases e)))
   have HS1 : Hid (B ≤ v4.heap.size) := Nat.le_trans HSX.out hg.size
   have HT1 := hidWNs (HTX.out.trans (S := fun j => j = Ob) ((grown_turns hg).mono (fun j e => by cases e)))
   have HO1 := hidWNs (HOX.out.turns (grown_turns hg) (fun e => by cases e))
   have HP1 := hidWNs (HPX.out.turns (grown_turns hg) (fun e => by cases e))
   have HX1 := hidWNs (HXX.out.turns (grown_turns hg) (fun e => by cases e))
   clear ho hg hnr hnew hyy hk9 hA9 hi0 hz0 hz1 hz2 HS2 HY2 HSD HL2
   clear HOX HPX HXX HTX HBX HSX
   have HOX := HO1
   have HPX := HP1
   have HXX := HX1
   have HTX := HT1
   have HBX := HB1
   have HSX := HS1
   clear HO1 HP1 HX1 HT1 HB1 HS1
   refine hK.out _ _ ⟨HOX.out.cell (i := 6) rfl, HPX.out.cell (i := 6) rfl, HXX.out.cell (i := 0) rfl, HXX.out.cell (i := 1) rfl, HXX.out.cell (i := 2) rfl, HXX.out.cell (i := 3) rfl, HXX.out.cell (i := 4) rfl, HXX.out.cell (i := 5) rfl, HXX.out.cell (i := 6) rfl, HXX.out.cell (i := 7) rfl, HXX.out.cell (i := 8) rfl, HXX.out.cell (i := 9) rfl, HXX.out.cell (i := 10) rfl, HXX.out.cell (i := 11) rfl, HXX.out.cell (i := 12) rfl, HXX.out.cell (i := 13) rfl⟩ (fun hHeld => ?_)
   clear hK K
   try simp only [Act.put, List.setIfInBounds_toArray, List.set_cons_zero, List.set_cons_succ]
   refine tzWNs 10 { dst := some 27, op := Op.fieldAddr 51 (Operand.tmp 3) 1, type := 0, pos := _, after := _, guard := none } (.pointer (some ⟨Ob, 6, none⟩)) ?_
   try simp only [Act.put, List.setIfInBounds_toArray, List.set_cons_zero, List.set_cons_succ]
   refine wpAnyZ_ready (rs := [11]) (by kernel_rfl) (by simp) ?_
   refine AllReadyZ.last (o := { dst := none, op := Op.store 48 (Operand.tmp 27) (Operand.tmp 26), type := 0, pos := _, after := _, guard := none }) rfl (fun K hK => ?_)
   have k6 := HOX.out.cell (i := 6) rfl
   have kf := HOX.out.free
   obtain ⟨wf, hwf⟩ : ∃ Y, v4.setCell ⟨Ob, 6, none⟩ (.slice a9 1 c9) = Y := ⟨_, rfl⟩
   have HTF : Hid (Turns (fun j => j = Ob) v4 wf) := hwf ▸ put1_turns _ _ 6 _
   have HOF : Hid (Bk wf Ob 51 #[.int .i64 m.n, .int .i64 m.s, .slice avi m.i.length cvi, .slice avh m.h.length cvh, .slice avs m.e.length cvs, .int .i64 m.z, .slice a9 1 c9, .slice none 0 0]) := hwf ▸ HOX.out.put 6 _
   have HTT := hidWNs (HTX.out.trans HTF.out)
   have HKF := hidWNs (HK4.out.turns HTF.out (fun j hj e => by have h9 := HA4.out j hj; have h8 := HOB9.out; omega))
   have HAF : Hid (∀ j, A9 j → B ≤ j ∧ j < wf.heap.size) := fun j hj => ⟨(HA4.out j hj).1, Nat.lt_of_lt_of_le (HA4.out j hj).2 HTF.out.size⟩
   have HWF : Hid _ := hwf
   clear hwf
   go_simp
   rw [HWF.out]
   clear HWF k6 kf HTF HOX HPX HXX HBX HTX HK4 HA4 HSX
   refine hK.out _ _ ?_
   clear hK K
   try simp only [Act.put, List.setIfInBounds_toArray, List.set_cons_zero, List.set_cons_succ]
   refine wpAnyZ_done (by kernel_rfl) ?_ _
   clear hHeld
   go_wp2
   refine ⟨.inr ⟨rfl, a9, c9, A9, HOF.out, HTT.out, HKF.out, HAF.out⟩, by simp [intOf]⟩
  ·have HPr := hidWNs (HP2.out.turns HTr.out (fun e => by omega))
   have HRr := hidWNs (HR2.out.turns HTr.out (fun e => by omega))
   have HBr := hidWNs (HB2.out.trans (HTr.out.to_below (fun j hj => by omega) HB2.out.size))
   have HMr := hidWNs (HM2.out.turns HTr.out (fun j hj e => by omega))
   have q6 := HPr.out.cell (i := 6) rfl
   go_wp2
   clear q6
   obtain ⟨wx, rfl⟩ : ∃ X, X = wr := ⟨wr, rfl⟩
   go_loopw [5] (fun i wq => i = .int .i64 0 ∧ wq = wx) (fun _ _ => 0)
   case atStart => exact ⟨rfl, rfl⟩
   case round =>
    obtain ⟨rfl, hq⟩ := hrel
    have hq' := hq.symm
    clear hq
    subst hq'
    have q7 := HPr.out.cell (i := 7) rfl
    obtain ⟨m0, m1, m2, m3, m4, m5, m6, m7⟩ := c8_8 HOr.out
    obtain ⟨r0, r1, r2, r3, r4, r5, r6, r7⟩ := c8_8 HRr.out
    have rf := HRr.out.free
    obtain ⟨wf, hwf⟩ : ∃ X, put8w wx Rb (.int .i64 m.n) (.int .i64 m.s) (.slice avi m.i.length cvi) (.slice avh m.h.length cvh) (.slice avs m.e.length cvs) (.int .i64 m.z) (.slice a9 1 c9) (.slice none 0 0) = X := ⟨_, rfl⟩
    have HTF : Hid (Turns (fun j => j = Rb) wx wf) := hwf ▸ put8w_turns _ _ _ _ _ _ _ _ _ _
    have HRF : Hid (Bk wf Rb 51 #[.int .i64 m.n, .int .i64 m.s, .slice avi m.i.length cvi, .slice avh m.h.length cvh, .slice avs m.e.length cvs, .int .i64 m.z, .slice a9 1 c9, .slice none 0 0]) := hwf ▸ HRr.out.put8w _ _ _ _ _ _ _ _
    obtain ⟨t0, t1, t2, t3, t4, t5, t6, t7⟩ := c8_8 HRF.out
    have HBF := hidWNs (HBr.out.trans (HTF.out.to_below (fun j hj => by omega) HBr.out.size))
    have HMF := hidWNs (HMr.out.turns HTF.out (fun j hj e => by omega))
    have HKF := hidWNs (HKr.out.turns HTF.out (fun j hj e => by have h9 := HAr.out j hj; omega))
    have HSF : Hid (n1 ≤ wf.heap.size) := (by have h9 := HTF.out.size; have h8 := HTr.out.size; have h7 := HBE.out; have h6 := HOn.out; have h5 := HOB9.out; omega : n1 ≤ wf.heap.size)
    unfold put8w at hwf
    go_wp2
    refine bodyPost_ret (v := .agg #[.int .i64 m.n, .int .i64 m.s, .slice avi m.i.length cvi, .slice avh m.h.length cvh, .slice avs m.e.length cvs, .int .i64 m.z, .slice a9 1 c9, .slice none 0 0]) (by simp [results, Tryz.results52, go_sem, t0, t1, t2, t3, t4, t5, t6, t7]) rfl ⟨⟨_, rfl, ?_⟩, HBF.out⟩
    exact ⟨_, A9, fun _ => False, _, _, _, _, _, rfl, HMF.out, HKF.out, .nil _ _ _ _ _ (Nat.zero_le _), fun j hj => ⟨⟨by omega, by have h9 := HSF.out; omega⟩, fun e => by have h9 := HAr.out j e; have h8 := HOn.out; omega, id⟩, fun j hj => ⟨⟨by have h9 := HAr.out j hj; omega, Nat.lt_of_lt_of_le (HAr.out j hj).2 HTF.out.size⟩, id⟩, fun _ h => h.elim⟩
end Go.Proofs.YthfhibnnkpbeiaaGreat

/- The specification's WorldNew. -/
namespace Go.Proofs.YthfhibnnkpbeiaaGreat
open Go.RowKit
theorem hidWNt {p : Prop} (h : p) : Hid p := h
set_option maxRecDepth 100000 in
set_option maxHeartbeats 16000000 in
theorem sWorldNew (x : Value) (m : Md) (w : World) (hs : SmallM m) (h : IsM w x m) :
  Calls Tryz.prog 17 #[x] w fun e w' => ∃ y, e = .returned (.tuple #[y, .bool (wOk m)]) ∧ Below w.heap.size w w' ∧ WorF (fun j => w.heap.size ≤ j ∧ j < w'.heap.size) w' y (worldA m) := by
 have HM : Hid (IsM w x m) := h
 have HS : Hid (SmallM m) := hs
 obtain ⟨vi0, vh0, vs0, rfl, hI, hH, hE⟩ := h
 obtain ⟨ai, ci, rfl, _⟩ := hI
 obtain ⟨ah, ch, rfl, _⟩ := hH
 obtain ⟨ae, ce, rfl, _⟩ := hE
 clear hs
 obtain ⟨Rb, hRb⟩ : ∃ Rb, Rb = w.heap.size + 1 := ⟨_, rfl⟩
 obtain ⟨W0, hW0⟩ : ∃ W0, (w.alloc (.cells #[.int .i64 m.n, .int .i64 m.s, .slice ai m.i.length ci, .slice ah m.h.length ch, .slice ae m.e.length ce, .int .i64 m.z] 31)).alloc (.cells #[.int .i64 0, .int .i64 0, .slice none 0 0, .slice none 0 0, .slice none 0 0, .int .i64 0, .slice none 0 0, .slice none 0 0] 51) = W0 := ⟨_, rfl⟩
 have HP0 : Hid (Bk W0 w.heap.size 31 #[.int .i64 m.n, .int .i64 m.s, .slice ai m.i.length ci, .slice ah m.h.length ch, .slice ae m.e.length ce, .int .i64 m.z]) := hW0 ▸ (Bk.new w _ _).alloc _
 have HR0 : Hid (Bk W0 Rb 51 #[.int .i64 0, .int .i64 0, .slice none 0 0, .slice none 0 0, .slice none 0 0, .int .i64 0, .slice none 0 0, .slice none 0 0]) := by rw [← hW0]; exact Bk.newAt (by simp [hRb]) _ _
 have HB0 : Hid (Below w.heap.size w W0) := by rw [← hW0]; exact ((Below.refl _ w).alloc (Nat.le_refl _) _).alloc (by simp) _
 have HW0 := hidWNt hW0
 have HRB := hidWNt hRb
 have hRw : w.heap.size < Rb := by omega
 have hRl : Rb < W0.heap.size := HR0.out.lt
 obtain ⟨c0, c1, c2, c3, c4, c5⟩ := c6_6 ((Bk.new w 31 #[.int .i64 m.n, .int .i64 m.s, .slice ai m.i.length ci, .slice ah m.h.length ch, .slice ae m.e.length ce, .int .i64 m.z]).alloc (.cells #[.int .i64 0, .int .i64 0, .slice none 0 0, .slice none 0 0, .slice none 0 0, .int .i64 0, .slice none 0 0, .slice none 0 0] 51))
 clear hW0 hRb
 go_enter Tryz.func17, Tryz.ntmps17
 go_wp2_with fail
 rw [HW0.out, ← HRB.out]
 clear HW0 c0 c1 c2 c3 c4 c5
 refine (sModM _ m W0 HS.out (HM.out.below HB0.out)).mono ?_
 rintro e w1 ⟨rfl, hb⟩
 have HB1 := hidWNt hb
 clear hb
 cases hok : m.ok
 case false =>
  have HNO : Hid (wOk m = false) := (by unfold wOk; exact hok : wOk m = false)
  clear hok
  obtain ⟨r0, r1, r2, r3, r4, r5, r6, r7⟩ := c8_8 (HR0.out.below HB1.out)
  have rf := (HR0.out.below HB1.out).free
  obtain ⟨wf, hwf⟩ : ∃ X, put8w w1 Rb (.int .i64 0) (.int .i64 0) (.slice none 0 0) (.slice none 0 0) (.slice none 0 0) (.int .i64 0) (.slice none 0 0) (.slice none 0 0) = X := ⟨_, rfl⟩
  have HTF : Hid (Turns (fun j => j = Rb) w1 wf) := hwf ▸ put8w_turns _ _ _ _ _ _ _ _ _ _
  have HRF : Hid (Bk wf Rb 51 #[.int .i64 0, .int .i64 0, .slice none 0 0, .slice none 0 0, .slice none 0 0, .int .i64 0, .slice none 0 0, .slice none 0 0]) := hwf ▸ (HR0.out.below HB1.out).put8w _ _ _ _ _ _ _ _
  have HBF := hidWNt ((HB0.out.trans ((HB1.out).mono HB0.out.size)).trans (HTF.out.to_below (fun j hj => by omega) (HB0.out.trans ((HB1.out).mono HB0.out.size)).size))
  obtain ⟨t0, t1, t2, t3, t4, t5, t6, t7⟩ := c8_8 HRF.out
  unfold put8w at hwf
  go_wp2
  refine bodyPost_ret (v := .tuple #[.agg #[.int .i64 0, .int .i64 0, .slice none 0 0, .slice none 0 0, .slice none 0 0, .int .i64 0, .slice none 0 0, .slice none 0 0], .bool false]) (by simp [results, Tryz.results17, go_sem, t0, t1, t2, t3, t4, t5, t6, t7]) rfl ⟨_, by rw [HNO.out], HBF.out, ?_⟩
  rw [world_no HNO.out]
  exact wd0_own _ _
 have HYE : Hid (wOk m = true) := (by unfold wOk; exact hok : wOk m = true)
 have HOK : Hid (m.ok = true) := hok
 clear hok
 go_wp2_with fail
 refine wp_region_held_drew (S := fun W => W.cell? ⟨w.heap.size, 0, none⟩ = some (.int .i64 m.n) ∧ W.cell? ⟨w.heap.size, 1, none⟩ = some (.int .i64 m.s) ∧ W.cell? ⟨w.heap.size, 2, none⟩ = some (.slice ai m.i.length ci) ∧ W.cell? ⟨w.heap.size, 3, none⟩ = some (.slice ah m.h.length ch) ∧ W.cell? ⟨w.heap.size, 4, none⟩ = some (.slice ae m.e.length ce) ∧ W.cell? ⟨w.heap.size, 5, none⟩ = some (.int .i64 m.z)) (by kernel_rfl) (c6_6 (HP0.out.below HB1.out.drew)) (fun hHeld => ?_)
 obtain ⟨wd, hwd⟩ : ∃ wd, w1.drew = wd := ⟨_, rfl⟩
 have HBX : Hid (Below W0.heap.size W0 wd) := hwd ▸ HB1.out.drew
 rw [hwd] at hHeld
 rw [hwd]
 clear hwd
 refine wpAnyH_take (i := 0) (oi := { dst := some 8, op := Op.load 31 (Operand.tmp 1), type := 31, pos := _, after := _, guard := none }) (v := .agg #[.int .i64 m.n, .int .i64 m.s, .slice ai m.i.length ci, .slice ah m.h.length ch, .slice ae m.e.length ce, .int .i64 m.z]) rfl (by kernel_rfl) (by kernel_rfl) (by kernel_rfl) (fun _ _ _ h => h) (Or.inl ⟨by rfl, ?_⟩) (by assumption) ?_
 ·intro wX hSw
  try dsimp only at hSw
  go_simp
  try exact IntWalk.i64_in _ (by omega)
 try simp only [Act.put, List.setIfInBounds_toArray, List.set_cons_zero, List.set_cons_succ]
 refine wpAnyH_take (i := 1) (oi := { dst := some 9, op := Op.load 31 (Operand.tmp 1), type := 31, pos := _, after := _, guard := none }) (v := .agg #[.int .i64 m.n, .int .i64 m.s, .slice ai m.i.length ci, .slice ah m.h.length ch, .slice ae m.e.length ce, .int .i64 m.z]) rfl (by kernel_rfl) (by kernel_rfl) (by kernel_rfl) (fun _ _ _ h => h) (Or.inl ⟨by rfl, ?_⟩) (by assumption) ?_
 ·intro wX hSw
  try dsimp only at hSw
  go_simp
  try exact IntWalk.i64_in _ (by omega)
 try simp only [Act.put, List.setIfInBounds_toArray, List.set_cons_zero, List.set_cons_succ]
 refine wpAnyH_ready (rs := [2]) (by kernel_rfl) (by simp) ?_
 refine AllReadyH.cons rfl (fun K hK => ?_) AllReadyH.nil
 go_simp
 refine (none_any wd).mono ?_
 rintro e v1 ⟨⟨ad, cd, rfl, hi⟩, hb⟩
 have HB2 := hidWNt (HBX.out.trans (hb.mono HBX.out.size))
 have HI := hidWNt hi
 clear hb hi
 clear HBX
 have HBX := HB2
 clear HB2
 try go_simp
 refine hK.out _ _ (c6_6 (HP0.out.below HBX.out)) (fun hHeld => ?_)
 clear hK K
 try simp only [Act.put, List.setIfInBounds_toArray, List.set_cons_zero, List.set_cons_succ]
 refine wpAnyH_ready (rs := [3]) (by kernel_rfl) (by simp) ?_
 refine AllReadyH.cons rfl (fun K hK => ?_) AllReadyH.nil
 go_simp
 refine (l5new_ex m ai ci ah ch ae ce ad cd none4 v1 HOK.out (HM.out.below (HB0.out.trans (HBX.out.mono HB0.out.size))) HI.out).mono ?_
 rintro e v2 ⟨⟨ap, cp, rfl, h1, h2, h3⟩, hb⟩
 have HB2 := hidWNt (HBX.out.trans (hb.mono HBX.out.size))
 have HD2 := hidWNt h2
 have HPs2 := hidWNt h3
 clear hb h1 h2 h3 HI
 clear HBX
 have HBX := HB2
 clear HB2
 try go_simp
 refine hK.out _ _ (c6_6 (HP0.out.below HBX.out)) (fun hHeld => ?_)
 clear hK K
 try simp only [Act.put, List.setIfInBounds_toArray, List.set_cons_zero, List.set_cons_succ]
 refine wpAnyH_ready (rs := [4]) (by kernel_rfl) (by simp) ?_
 refine AllReadyH.cons rfl (fun K hK => ?_) AllReadyH.nil
 obtain ⟨X, v3, HX, HV, hb, hk⟩ := lay_any v2 #[.int .i64 m.n, .int .i64 m.s, .slice ai m.i.length ci, .slice ah m.h.length ch, .slice ae m.e.length ce, .int .i64 m.z, .slice ad none4.length cd, .slice ap m.n.toNat cp, .slice none 0 0, .int .i64 6, .int .i64 (-1), .bool false, .slice none 0 0, .slice none 0 0] 36
 have HB2 := hidWNt (HBX.out.trans (hb.mono HBX.out.size))
 have HX3 := hidWNt hk
 have HD3 := hidWNt (HD2.out.under hb)
 have HPs3 := hidWNt (HPs2.out.under hb)
 clear hb hk HD2 HPs2
 clear HBX
 have HBX := HB2
 clear HB2
 go_simp
 rw [HV.out, ← HX.out]
 clear HV HX
 refine hK.out _ _ (c6_6 (HP0.out.below HBX.out)) (fun hHeld => ?_)
 clear hK K
 try simp only [Act.put, List.setIfInBounds_toArray, List.set_cons_zero, List.set_cons_succ]
 refine wpAnyH_take (i := 5) (oi := { dst := some 13, op := Op.build 51 #[(0, Operand.tmp 8), (1, Operand.tmp 12)], type := 51, pos := _, after := _, guard := none }) (v := .agg #[.int .i64 m.n, .int .i64 m.s, .slice ai m.i.length ci, .slice ah m.h.length ch, .slice ae m.e.length ce, .int .i64 m.z, .slice (some ⟨X, 0, none⟩) 1 1, .slice none 0 0]) rfl (by kernel_rfl) (by kernel_rfl) (by kernel_rfl) (fun _ _ _ h => h) (Or.inl ⟨by rfl, ?_⟩) (by assumption) ?_
 ·intro wX hSw
  try dsimp only at hSw
  go_simp
  try exact IntWalk.i64_in _ (by omega)
 try simp only [Act.put, List.setIfInBounds_toArray, List.set_cons_zero, List.set_cons_succ]
 refine wpAnyH_ready (rs := [6]) (by kernel_rfl) (by simp) ?_
 refine AllReadyH.cons rfl (fun K hK => ?_) AllReadyH.nil
 go_simp
 refine (own6_one m none4 ai ci ah ch ae ce ad cd ap cp m.n.toNat X v3 HOK.out rfl (by decide) (HM.out.below (HB0.out.trans (HBX.out.mono HB0.out.size))) HD3.out HPs3.out HX3.out).mono ?_
 rintro e v4 ⟨⟨y4, rfl, hw4⟩, hb⟩
 obtain ⟨qa, qb, qc, qd, qe, qf, qg, qh, qi, qj, rfl⟩ := hw4.form
 have HB2 := hidWNt (HBX.out.trans (hb.mono HBX.out.size))
 have HL4 := hidWNt HBX.out.size
 have HW4 := hidWNt hw4
 clear hb hw4 HD3 HPs3 HX3
 clear HBX
 have HBX := HB2
 clear HB2
 try go_simp
 refine hK.out _ _ (c6_6 (HP0.out.below HBX.out)) (fun hHeld => ?_)
 clear hK K
 try simp only [Act.put, List.setIfInBounds_toArray, List.set_cons_zero, List.set_cons_succ]
 refine wpAnyH_ready (rs := [7]) (by kernel_rfl) (by simp) ?_
 refine AllReadyH.cons rfl (fun K hK => ?_) AllReadyH.nil
 obtain ⟨z0, z1, z2, z3, z4, z5, z6, z7⟩ := c8_8 (HR0.out.below HBX.out)
 have zf := (HR0.out.below HBX.out).free
 obtain ⟨wf, hwf⟩ : ∃ X, put8w v4 Rb (.int .i64 m.n) (.int .i64 m.s) (.slice qa m.i.length qb) (.slice qc m.h.length qd) (.slice qe m.e.length qf) (.int .i64 m.z) (.slice qg 1 qh) (.slice qi 0 qj) = X := ⟨_, rfl⟩
 have HTF : Hid (Turns (fun j => j = Rb) v4 wf) := hwf ▸ put8w_turns _ _ _ _ _ _ _ _ _ _
 have HRF : Hid (Bk wf Rb 51 #[.int .i64 m.n, .int .i64 m.s, .slice qa m.i.length qb, .slice qc m.h.length qd, .slice qe m.e.length qf, .int .i64 m.z, .slice qg 1 qh, .slice qi 0 qj]) := hwf ▸ (HR0.out.below HBX.out).put8w _ _ _ _ _ _ _ _
 have HBF := hidWNt ((HB0.out.trans ((HBX.out).mono HB0.out.size)).trans (HTF.out.to_below (fun j hj => by omega) (HB0.out.trans ((HBX.out).mono HB0.out.size)).size))
 have HPF := hidWNt ((HP0.out.below HBX.out).turns HTF.out (fun e => by omega))
 unfold put8w at hwf
 have HWF : Hid _ := hwf
 clear hwf
 go_simp
 rw [HWF.out]
 clear HWF zf z0 z1 z2 z3 z4 z5 z6 z7
 refine hK.out _ _ (c6_6 HPF.out) (fun hHeld => ?_)
 clear hK K
 try simp only [Act.put, List.setIfInBounds_toArray, List.set_cons_zero, List.set_cons_succ]
 refine wpAnyH_take (i := 8) (oi := { dst := some 3, op := Op.assign (Operand.const (Value.bool true)), type := 4, pos := _, after := _, guard := none }) (v := .bool true) rfl (by kernel_rfl) (by kernel_rfl) (by kernel_rfl) (fun _ _ _ h => h) (Or.inl ⟨by rfl, ?_⟩) (by assumption) ?_
 ·intro wX hSw
  try dsimp only at hSw
  go_simp
  try exact IntWalk.i64_in _ (by omega)
 try simp only [Act.put, List.setIfInBounds_toArray, List.set_cons_zero, List.set_cons_succ]
 refine wpAnyH_done (by kernel_rfl) ?_ _
 go_wp2_with fail
 have hl4 := HL4.out
 obtain ⟨t0, t1, t2, t3, t4, t5, t6, t7⟩ := c8_8 HRF.out
 refine bodyPost_ret (v := .tuple #[.agg #[.int .i64 m.n, .int .i64 m.s, .slice qa m.i.length qb, .slice qc m.h.length qd, .slice qe m.e.length qf, .int .i64 m.z, .slice qg 1 qh, .slice qi 0 qj], .bool true]) (by simp [results, Tryz.results17, go_sem, t0, t1, t2, t3, t4, t5, t6, t7]) rfl ⟨_, by rw [HYE.out], HBF.out, ?_⟩
 rw [world_yes HOK.out]
 exact (HW4.out.turns HTF.out (fun j hj e => by omega)).wider (fun j hj => ⟨by have h9 := HB0.out.size; omega, Nat.lt_of_lt_of_le hj.2 HTF.out.size⟩)
end Go.Proofs.YthfhibnnkpbeiaaGreat

