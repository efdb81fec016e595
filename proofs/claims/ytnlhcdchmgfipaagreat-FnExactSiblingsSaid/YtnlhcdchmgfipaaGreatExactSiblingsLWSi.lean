/- WSi -/
import Derived.Test.YtnlhcdchmgfipaaGreatExactSiblingsLWSb
import Derived.Test.YtnlhcdchmgfipaaGreatRegZ
import Derived.Test.YtnlhcdchmgfipaaGreatExactSiblingsG01
/- The program's Siblings. -/
namespace Go.Proofs.YtnlhcdchmgfipaaGreat
open Go.RowKit
theorem tzWSi {P : Program} {md : Region.Mode} {ops : Array Oper} {Q : Exit → Act → World → Prop} {S : World → Prop} {z fuel : Nat} {listed : Array Bool} {a : Act} {w : World} (i : Nat) (oi : Oper) (v : Value)
 (h : wpAnyZ P md ops Q S z fuel (listed.setIfInBounds i true) (a.put oi.dst v) w) (hi : ops[i]? = some oi := by rfl)
 (hs : Region.noSelect ops = true := by kernel_rfl) (hf : Region.free md ops listed i = true := by kernel_rfl) (hr : (Region.ready md ops listed).contains i = true := by kernel_rfl)
 (hc : chainB md ops i z [i] = true := by kernel_rfl) (hu : [i].all (fun p => !listed.getD p true) = true := by kernel_rfl)
 (hQ : ∀ c a w, Q (.panic c) (a.put oi.dst v) w → Q (.panic c) a w := by exact fun _ _ _ h => h)
 (hy : YieldsIf P ops S oi v a := by exact Or.inl ⟨by rfl, by (intro wX hSw; (try dsimp only at hSw); go_simp; (try exact IntWalk.i64_in _ (by omega)))⟩) (hS : S w := by assumption) : wpAnyZ P md ops Q S z (fuel + 1) listed a w :=
 wpAnyZ_take i [] hi hs hf hr hc hu hQ hy hS h
theorem hidWSi {p : Prop} (h : p) : Hid p := h
def Q3 (w w1 : World) (b off ia ib n ck : Nat) (ka6 kb6 : Option Addr) (da6 db6 : Nat) (W : World) : Prop := (W.cell? ⟨w.heap.size, 6, none⟩ = some (.slice (some ⟨b, off, none⟩) n ck) ∧ W.cell? ⟨b, off + ia * 14 + 6, none⟩ = some (.slice ka6 4 da6) ∧ W.cell? ⟨b, off + ib * 14 + 6, none⟩ = some (.slice kb6 4 db6)) ∧ Below w1.heap.size w1 W
theorem Q3.below {w w1 W W2 : World} {b off ia ib n ck : Nat} {ka6 kb6 : Option Addr} {da6 db6 : Nat} (h : Q3 w w1 b off ia ib n ck ka6 kb6 da6 db6 W) (hb : Below W.heap.size W W2) (h1 : w.heap.size < w1.heap.size) (h2 : b < w1.heap.size) : Q3 w w1 b off ia ib n ck ka6 kb6 da6 db6 W2 :=
 ⟨⟨(hb.cell (p := ⟨w.heap.size, _, none⟩) (Nat.lt_of_lt_of_le h1 h.2.size)).trans h.1.1, (hb.cell (p := ⟨b, _, none⟩) (Nat.lt_of_lt_of_le h2 h.2.size)).trans h.1.2.1, (hb.cell (p := ⟨b, _, none⟩) (Nat.lt_of_lt_of_le h2 h.2.size)).trans h.1.2.2⟩, h.2.trans (hb.mono h.2.size)⟩
theorem lay4 (W : World) : ∃ p V, p = W.heap.size ∧ W.alloc (cell4 0 0 0 0) = V ∧ Below W.heap.size W V ∧ Bk V p 118 #[.int .i64 0, .int .i64 0, .int .i64 0, .int .i64 0] :=
 ⟨_, _, rfl, rfl, (Below.refl _ W).alloc (Nat.le_refl _) _, Bk.new _ _ _⟩
theorem four4 {W : World} {p : Nat} {z0 z1 z2 z3 : Value} (h : Bk W p 118 #[z0, z1, z2, z3]) : W.cell? ⟨p, 0, none⟩ = some z0 ∧ W.cell? ⟨p, 1, none⟩ = some z1 ∧ W.cell? ⟨p, 2, none⟩ = some z2 ∧ W.cell? ⟨p, 3, none⟩ = some z3 ∧ ∀ j, W.frozen? ⟨p, j, none⟩ = false :=
 ⟨h.cell (i := 0) rfl, h.cell (i := 1) rfl, h.cell (i := 2) rfl, h.cell (i := 3) rfl, h.free⟩
theorem store4 {w w1 W : World} {b off ia ib n ck p q : Nat} {ka6 kb6 : Option Addr} {da6 db6 : Nat} {z0 z1 z2 z3 : Value} {vs : Array Value} (hp : Bk W p 118 #[z0, z1, z2, z3]) (hq : Bk W q 118 vs) (hne : p ≠ q) (h : Q3 w w1 b off ia ib n ck ka6 kb6 da6 db6 W) (hl : w1.heap.size ≤ p) (h1 : w.heap.size < w1.heap.size) (h2 : b < w1.heap.size) (v0 v1 v2 v3 : Int) (X : World) (hX : put4 W p v0 v1 v2 v3 = X) :
  Bk X p 118 #[i64 v0, i64 v1, i64 v2, i64 v3] ∧ Bk X q 118 vs ∧ Q3 w w1 b off ia ib n ck ka6 kb6 da6 db6 X := by
 have ht : Turns (fun k => k = p) W X := hX ▸ (((put1_turns _ _ 0 _).trans (put1_turns _ _ 1 _)).trans (put1_turns _ _ 2 _)).trans (put1_turns _ _ 3 _)
 refine ⟨hX ▸ (((hp.put 0 _).put 1 _).put 2 _).put 3 _, hq.turns ht (fun e1 => hne e1.symm), ⟨⟨(ht.cell (Nat.lt_of_lt_of_le h1 h.2.size) (by omega)).trans h.1.1, (ht.cell (Nat.lt_of_lt_of_le h2 h.2.size) (by omega)).trans h.1.2.1, (ht.cell (Nat.lt_of_lt_of_le h2 h.2.size) (by omega)).trans h.1.2.2⟩, h.2.trans (ht.to_below (fun k hk => by omega) h.2.size)⟩⟩
set_option maxRecDepth 100000 in
set_option maxHeartbeats 16000000 in
theorem iSibl (x : Value) (v : Wd) (i1 i2 : Int) (w : World) (hs : SmallWd v) (h : IsW w x v) :
  Calls Tryz.prog 45 #[x, .int .i64 i1, .int .i64 i2] w fun e w' => e = .returned (.int .i64 (sibA v i1 i2)) ∧ Below w.heap.size w w' := by
 have HSW : Hid (SmallWd v) := hs
 have HSM : Hid (SmallM v.m) := hs.1
 have HSK : Hid (SmallKs v.k) := hs.2.1
 have HSV := hidWSi hs.2.2
 have hkl : v.k.length ≤ 1048576 := hs.2.1.1
 have hcl : v.c.length ≤ 1048576 := by have h9 := hs.2.2; rw [vecs_wt] at h9; omega
 obtain ⟨ai, ci, ah, ch, ae, ce, ak, ck, ac, cc, rfl, hm, hk, hc⟩ := h.form
 have HWW := hidWSi h
 have HMW := hidWSi hm
 have HKS := hidWSi hk
 have HCS := hidWSi hc
 clear h hm hk hc
 obtain ⟨W0, hW0⟩ : ∃ W0, w.alloc (.cells #[.int .i64 v.m.n, .int .i64 v.m.s, .slice ai v.m.i.length ci, .slice ah v.m.h.length ch, .slice ae v.m.e.length ce, .int .i64 v.m.z, .slice ak v.k.length ck, .slice ac v.c.length cc] 60) = W0 := ⟨_, rfl⟩
 have HB0 : Hid (Below w.heap.size w W0) := by rw [← hW0]; exact (Below.refl _ w).alloc (Nat.le_refl _) _
 have HP0 : Hid (Bk W0 w.heap.size 60 #[.int .i64 v.m.n, .int .i64 v.m.s, .slice ai v.m.i.length ci, .slice ah v.m.h.length ch, .slice ae v.m.e.length ce, .int .i64 v.m.z, .slice ak v.k.length ck, .slice ac v.c.length cc]) := by rw [← hW0]; exact Bk.new w _ _
 have q0 := HP0.out.cell (i := 0) rfl
 have q1 := HP0.out.cell (i := 1) rfl
 have q2 := HP0.out.cell (i := 2) rfl
 have q3 := HP0.out.cell (i := 3) rfl
 have q4 := HP0.out.cell (i := 4) rfl
 have q5 := HP0.out.cell (i := 5) rfl
 have q6 := HP0.out.cell (i := 6) rfl
 have q7 := HP0.out.cell (i := 7) rfl
 go_enter Tryz.func45, Tryz.ntmps45
 go_wp2_with fail
 clear q0 q1 q2 q3 q4 q5 q6 q7 hW0
 refine (iWorldOk _ v _ HSW.out (HWW.out.under HB0.out)).mono ?_
 rintro e w1 ⟨rfl, hb1⟩
 have HBX := hidWSi (HB0.out.trans (hb1.mono HB0.out.size))
 have HP1 := hidWSi (HP0.out.below hb1)
 have q6 := HP1.out.cell (i := 6) rfl
 clear hb1 HB0 HP0
 cases hok : v.ok
 case false =>
  have HN : Hid (sibA v i1 i2 = -1) := sib_no (fun h9 => by rw [h9.1] at hok; cases hok)
  clear hok
  go_wp2
  go_ret
  exact ⟨ret_int HN.out.symm, HBX.out⟩
 have HOK : Hid (v.ok = true) := hok
 clear hok
 by_cases c3 : i1 = i2
 case pos =>
  have HN : Hid (sibA v i1 i2 = -1) := sib_no (fun h9 => h9.2.1 c3)
  have c3' : (i1 == i2) = true := by simpa using c3
  clear c3
  go_wp2
  go_ret
  exact ⟨ret_int HN.out.symm, HBX.out⟩
 have c3' : (i1 == i2) = false := by simpa using c3
 have hpl : ∀ (z : Int) (c : Bool) (W : World), (decide (0 ≤ z) && decide (z < (v.k.length : Int))) = c → Calls Tryz.prog 104 #[.int .i64 z, .int .i64 (v.k.length : Int)] W fun e w' => e = .returned (.bool c) ∧ w' = W := fun z c W hc => hc ▸ place_any z _ W
 have HPL := hidWSi hpl
 clear hpl
 cases hp1 : (decide (0 ≤ i1) && decide (i1 < (v.k.length : Int)))
 case false =>
  have HN : Hid (sibA v i1 i2 = -1) := sib_no (fun h9 => by rw [decide_eq_true h9.2.2.1.1, decide_eq_true h9.2.2.1.2] at hp1; cases hp1)
  have HQ1 := hidWSi hp1
  clear hp1 c3
  go_wp2_with (go_at_call 104; refine (HPL.out i1 false _ HQ1.out).mono ?_; rintro e w2 ⟨rfl, rfl⟩)
  go_ret
  exact ⟨ret_int HN.out.symm, HBX.out⟩
 have HQ1 := hidWSi hp1
 cases hp2 : (decide (0 ≤ i2) && decide (i2 < (v.k.length : Int)))
 case false =>
  have HN : Hid (sibA v i1 i2 = -1) := sib_no (fun h9 => by rw [decide_eq_true h9.2.2.2.1, decide_eq_true h9.2.2.2.2] at hp2; cases hp2)
  have HQ2 := hidWSi hp2
  clear hp1 hp2 c3
  go_wp2_with fail
  refine (HPL.out i1 true _ HQ1.out).mono ?_
  rintro e w2 ⟨rfl, hw2⟩
  have hw2' := hw2.symm
  clear hw2
  subst hw2'
  go_wp2_with fail
  refine (HPL.out i2 false _ HQ2.out).mono ?_
  rintro e w3 ⟨rfl, hw3⟩
  have hw3' := hw3.symm
  clear hw3
  subst hw3'
  go_wp2
  go_ret
  exact ⟨ret_int HN.out.symm, HBX.out⟩
 have HQ2 := hidWSi hp2
 simp only [Bool.and_eq_true, decide_eq_true_eq] at hp1 hp2
 have HSI : Hid (sibOk v i1 i2) := ⟨HOK.out, c3, hp1, hp2⟩
 go_wp2_with fail
 refine (HPL.out i1 true _ HQ1.out).mono ?_
 rintro e w2 ⟨rfl, hw2⟩
 have hw2' := hw2.symm
 clear hw2
 subst hw2'
 go_wp2_with fail
 refine (HPL.out i2 true _ HQ2.out).mono ?_
 rintro e w3 ⟨rfl, hw3⟩
 have hw3' := hw3.symm
 clear hw3
 subst hw3'
 clear HPL HQ1 HQ2
 obtain ⟨ia, rfl⟩ : ∃ n : Nat, i1 = (n : Int) := ⟨i1.toNat, by omega⟩
 obtain ⟨ib, rfl⟩ : ∃ n : Nat, i2 = (n : Int) := ⟨i2.toNat, by omega⟩
 have hia : ia < v.k.length := by omega
 have hib : ib < v.k.length := by omega
 obtain ⟨b, off, rfl, hbl, hKA⟩ := HKS.out.resolve_left (by omega)
 obtain ⟨_, _, _, _, _, _, ka6, da6, _, _, _, _, _, _, _, _, ⟨_, _, _, _, _, _, fa6, _⟩, _, _, hda⟩ := (hKA ia hia).form
 obtain ⟨_, _, _, _, _, _, kb6, db6, _, _, _, _, _, _, _, _, ⟨_, _, _, _, _, _, fb6, _⟩, _, _, hdb⟩ := (hKA ib hib).form
 have hva : vok (knAt v.k ia).d = true ∧ vok (knAt v.k ib).d = true := ⟨kd_vok HOK.out hia, kd_vok HOK.out hib⟩
 have hre : sibA v (ia : Int) (ib : Int) = cntU (knAt v.k ia).d (knAt v.k ib).d 4 := by rw [sib_yes HSI.out]; rfl
 obtain ⟨a0, a1, a2, a3, ha9, _⟩ := vok_four hva.1
 obtain ⟨b0, b1, b2, b3, hb9, _⟩ := vok_four hva.2
 rw [ha9] at hda fa6 hva hre
 rw [hb9] at hdb fb6 hva hre
 have HTW : Hid (∀ W, Below w.heap.size w W → Calls Tryz.prog 105 #[.slice ka6 4 da6, .slice kb6 4 db6] W fun e w' => e = .returned (.tuple #[vec a0 a1 a2 a3, vec b0 b1 b2 b3, .bool true]) ∧ Below W.heap.size W w') := fun W hW => by
  have h9 := two_any _ _ [a0, a1, a2, a3] [b0, b1, b2, b3] W (by simp) (by simp) (hda.under hW).isI (hdb.under hW).isI
  rw [vecOf_four _ _ _ _ hva.1, vecOf_four _ _ _ _ hva.2, hva.1, hva.2] at h9
  exact h9
 have HRE := hidWSi hre
 have hbl1 : b < w1.heap.size := Nat.lt_of_lt_of_le hbl HBX.out.size
 have f1 : w1.cell? ⟨b, off + ia * 14 + 6, none⟩ = some (.slice ka6 4 da6) := (HBX.out.cell (p := ⟨b, _, none⟩) hbl).trans fa6
 have f2 : w1.cell? ⟨b, off + ib * 14 + 6, none⟩ = some (.slice kb6 4 db6) := (HBX.out.cell (p := ⟨b, _, none⟩) hbl).trans fb6
 have hwl : w.heap.size < w1.heap.size := HP1.out.lt
 clear hKA hda hdb fa6 fb6 hva hre ha9 hb9 c3 hp1 hp2
 go_upto_region 3 with fail
 clear c3'
 go_cut [7, 8] from 34 to 50 (fun s7 s8 wc => ∃ P Q, s7 = .pointer (some ⟨P, 0, none⟩) ∧ s8 = .pointer (some ⟨Q, 0, none⟩) ∧ Bk wc P 118 #[i64 a0, i64 a1, i64 a2, i64 a3] ∧ Bk wc Q 118 #[i64 b0, i64 b1, i64 b2, i64 b3] ∧ Below w1.heap.size w1 wc)
 case first =>
  have HSd : w1.drew.cell? ⟨w.heap.size, 6, none⟩ = some (.slice (some ⟨b, off, none⟩) v.k.length ck) ∧ w1.drew.cell? ⟨b, off + ia * 14 + 6, none⟩ = some (.slice ka6 4 da6) ∧ w1.drew.cell? ⟨b, off + ib * 14 + 6, none⟩ = some (.slice kb6 4 db6) := ⟨HP1.out.drew.cell (i := 6) rfl, ((Below.refl _ w1).drew.cell (p := ⟨b, _, none⟩) hbl1).trans f1, ((Below.refl _ w1).drew.cell (p := ⟨b, _, none⟩) hbl1).trans f2⟩
  refine wp_region_z 21 (fun W => W.cell? ⟨w.heap.size, 6, none⟩ = some (.slice (some ⟨b, off, none⟩) v.k.length ck) ∧ W.cell? ⟨b, off + ia * 14 + 6, none⟩ = some (.slice ka6 4 da6) ∧ W.cell? ⟨b, off + ib * 14 + 6, none⟩ = some (.slice kb6 4 db6)) (by kernel_rfl) HSd (fun hHeld => ?_)
  obtain ⟨wd, hwd⟩ : ∃ wd, w1.drew = wd := ⟨_, rfl⟩
  have hbd : Below w1.heap.size w1 wd := hwd ▸ (Below.refl _ w1).drew
  rw [hwd] at hHeld HSd
  rw [hwd]
  have HQ : Hid (Q3 w w1 b off ia ib v.k.length ck ka6 kb6 da6 db6 wd) := ⟨HSd, hbd⟩
  clear hwd hbd HSd q6 f1 f2
  refine tzWSi 0 { dst := some 35, op := Op.fieldAddr 60 (Operand.tmp 3) 1, type := 0, pos := _, after := _, guard := none } (.pointer (some ⟨w.heap.size, 6, none⟩)) ?_
  try simp only [Act.put, List.setIfInBounds_toArray, List.set_cons_zero, List.set_cons_succ]
  refine tzWSi 1 { dst := some 36, op := Op.load 58 (Operand.tmp 35), type := 58, pos := _, after := _, guard := none } (.slice (some ⟨b, off, none⟩) v.k.length ck) ?_
  try simp only [Act.put, List.setIfInBounds_toArray, List.set_cons_zero, List.set_cons_succ]
  refine tzWSi 2 { dst := some 37, op := Op.move (Operand.tmp 1), type := 3, pos := _, after := _, guard := none } (.int .i64 (ia : Int)) ?_
  try simp only [Act.put, List.setIfInBounds_toArray, List.set_cons_zero, List.set_cons_succ]
  refine tzWSi 3 { dst := some 38, op := Op.indexAddr 58 (Operand.tmp 36) (Operand.tmp 37), type := 0, pos := _, after := _, guard := none } (.pointer (some ⟨b, off + ia * 14, none⟩)) ?_
  try simp only [Act.put, List.setIfInBounds_toArray, List.set_cons_zero, List.set_cons_succ]
  refine tzWSi 4 { dst := some 39, op := Op.fieldAddr 42 (Operand.tmp 38) 1, type := 0, pos := _, after := _, guard := none } (.pointer (some ⟨b, off + ia * 14 + 6, none⟩)) ?_
  try simp only [Act.put, List.setIfInBounds_toArray, List.set_cons_zero, List.set_cons_succ]
  refine tzWSi 5 { dst := some 40, op := Op.load 22 (Operand.tmp 39), type := 22, pos := _, after := _, guard := none } (.slice ka6 4 da6) ?_
  try simp only [Act.put, List.setIfInBounds_toArray, List.set_cons_zero, List.set_cons_succ]
  refine tzWSi 6 { dst := some 41, op := Op.fieldAddr 60 (Operand.tmp 3) 1, type := 0, pos := _, after := _, guard := none } (.pointer (some ⟨w.heap.size, 6, none⟩)) ?_
  try simp only [Act.put, List.setIfInBounds_toArray, List.set_cons_zero, List.set_cons_succ]
  refine tzWSi 7 { dst := some 42, op := Op.load 58 (Operand.tmp 41), type := 58, pos := _, after := _, guard := none } (.slice (some ⟨b, off, none⟩) v.k.length ck) ?_
  try simp only [Act.put, List.setIfInBounds_toArray, List.set_cons_zero, List.set_cons_succ]
  refine tzWSi 8 { dst := some 43, op := Op.move (Operand.tmp 2), type := 3, pos := _, after := _, guard := none } (.int .i64 (ib : Int)) ?_
  try simp only [Act.put, List.setIfInBounds_toArray, List.set_cons_zero, List.set_cons_succ]
  refine tzWSi 9 { dst := some 44, op := Op.indexAddr 58 (Operand.tmp 42) (Operand.tmp 43), type := 0, pos := _, after := _, guard := none } (.pointer (some ⟨b, off + ib * 14, none⟩)) ?_
  try simp only [Act.put, List.setIfInBounds_toArray, List.set_cons_zero, List.set_cons_succ]
  refine tzWSi 10 { dst := some 45, op := Op.fieldAddr 42 (Operand.tmp 44) 1, type := 0, pos := _, after := _, guard := none } (.pointer (some ⟨b, off + ib * 14 + 6, none⟩)) ?_
  try simp only [Act.put, List.setIfInBounds_toArray, List.set_cons_zero, List.set_cons_succ]
  refine tzWSi 11 { dst := some 46, op := Op.load 22 (Operand.tmp 45), type := 22, pos := _, after := _, guard := none } (.slice kb6 4 db6) ?_
  try simp only [Act.put, List.setIfInBounds_toArray, List.set_cons_zero, List.set_cons_succ]
  refine wpAnyZ_ready (rs := [12, 17, 18]) (by kernel_rfl) (by simp) ?_
  refine AllReadyZ.cons (o := { dst := some 47, op := Op.call { callee := Callee.value (Operand.func 105), args := #[Operand.tmp 40, Operand.tmp 46], argTypes := #[22, 22] }, type := 127, pos := _, after := _, guard := none }) rfl (fun K hK => ?g3) (AllReadyZ.cons (o := { dst := some 7, op := Op.alloc 118, type := 0, pos := _, after := _, guard := none }) rfl (fun K hK => ?g2) (AllReadyZ.cons (o := { dst := some 8, op := Op.alloc 118, type := 0, pos := _, after := _, guard := none }) rfl (fun K hK => ?g1) AllReadyZ.nil))
  case' g3 =>
   go_simp
   refine (HTW.out wd (HBX.out.trans (HQ.out.2.mono HBX.out.size))).mono ?_
   rintro e v4 ⟨rfl, hb2⟩
   have HQ' : Hid (Q3 w w1 b off ia ib v.k.length ck ka6 kb6 da6 db6 v4) := HQ.out.below hb2 hwl hbl1
   clear HQ
   have HQ := HQ'
   clear HQ'
   clear hb2
   try go_simp
   refine hK.out _ _ HQ.out.1 (fun hHeld => ?_)
   clear hK K
   try simp only [Act.put, List.setIfInBounds_toArray, List.set_cons_zero, List.set_cons_succ]
   refine tzWSi 13 { dst := some 34, op := Op.move (Operand.tmp 47), type := 127, pos := _, after := _, guard := none } (.tuple #[vec a0 a1 a2 a3, vec b0 b1 b2 b3, .bool true]) ?_
   try simp only [Act.put, List.setIfInBounds_toArray, List.set_cons_zero, List.set_cons_succ]
   refine tzWSi 14 { dst := some 48, op := Op.extract (Operand.tmp 34) 0, type := 118, pos := _, after := _, guard := none } (vec a0 a1 a2 a3) ?_
   try simp only [Act.put, List.setIfInBounds_toArray, List.set_cons_zero, List.set_cons_succ]
   refine tzWSi 15 { dst := some 49, op := Op.extract (Operand.tmp 34) 1, type := 118, pos := _, after := _, guard := none } (vec b0 b1 b2 b3) ?_
   try simp only [Act.put, List.setIfInBounds_toArray, List.set_cons_zero, List.set_cons_succ]
   refine tzWSi 16 { dst := some 50, op := Op.extract (Operand.tmp 34) 2, type := 4, pos := _, after := _, guard := none } (.bool true) ?_
   try simp only [Act.put, List.setIfInBounds_toArray, List.set_cons_zero, List.set_cons_succ]
   refine wpAnyZ_ready (rs := [17, 18]) (by kernel_rfl) (by simp) ?_
   refine AllReadyZ.cons (o := { dst := some 7, op := Op.alloc 118, type := 0, pos := _, after := _, guard := none }) rfl (fun K hK => ?g6) (AllReadyZ.cons (o := { dst := some 8, op := Op.alloc 118, type := 0, pos := _, after := _, guard := none }) rfl (fun K hK => ?g5) AllReadyZ.nil)
   case' g6 =>
    obtain ⟨p7, v7, hp7, hW2, hb2, hk2⟩ := lay4 v4
    have HW2 := hidWSi hW2
    have HG : Hid (p7 = v4.heap.size) := hp7
    have HLp7 : Hid (w1.heap.size ≤ p7) := hp7 ▸ HQ.out.2.size
    have HQ' : Hid (Q3 w w1 b off ia ib v.k.length ck ka6 kb6 da6 db6 v7) := HQ.out.below hb2 hwl hbl1
    clear HQ
    have HQ := HQ'
    clear HQ'
    have Hp7 := hidWSi hk2
    clear hW2 hp7 hb2 hk2
    go_simp
    rw [HW2.out, ← HG.out]
    clear HW2 HG
    refine hK.out _ _ HQ.out.1 (fun hHeld => ?_)
    clear hK K
    try simp only [Act.put, List.setIfInBounds_toArray, List.set_cons_zero, List.set_cons_succ]
    refine wpAnyZ_ready (rs := [18]) (by kernel_rfl) (by simp) ?_
    refine AllReadyZ.cons (o := { dst := some 8, op := Op.alloc 118, type := 0, pos := _, after := _, guard := none }) rfl (fun K hK => ?g8) AllReadyZ.nil
    case' g8 =>
     obtain ⟨p8, vz, hp8, hW2, hb2, hk2⟩ := lay4 v7
     have HW2 := hidWSi hW2
     have HG : Hid (p8 = v7.heap.size) := hp8
     have HLp8 : Hid (w1.heap.size ≤ p8) := hp8 ▸ HQ.out.2.size
     have HNE : Hid (p7 ≠ p8) := by (show p7 ≠ p8; have h9 := Hp7.out.lt; omega)
     have HQ' : Hid (Q3 w w1 b off ia ib v.k.length ck ka6 kb6 da6 db6 vz) := HQ.out.below hb2 hwl hbl1
     have Hp7' : Hid (Bk vz p7 118 #[.int .i64 0, .int .i64 0, .int .i64 0, .int .i64 0]) := Hp7.out.below hb2
     clear HQ Hp7
     have HQ := HQ'
     have Hp7 := Hp7'
     clear HQ' Hp7'
     have Hp8 := hidWSi hk2
     clear hW2 hp8 hb2 hk2
     go_simp
     rw [HW2.out, ← HG.out]
     clear HW2 HG
     refine hK.out _ _ HQ.out.1 (fun hHeld => ?_)
     clear hK K
     try simp only [Act.put, List.setIfInBounds_toArray, List.set_cons_zero, List.set_cons_succ]
   case' g5 =>
    obtain ⟨p8, v10, hp8, hW2, hb2, hk2⟩ := lay4 v4
    have HW2 := hidWSi hW2
    have HG : Hid (p8 = v4.heap.size) := hp8
    have HLp8 : Hid (w1.heap.size ≤ p8) := hp8 ▸ HQ.out.2.size
    have HQ' : Hid (Q3 w w1 b off ia ib v.k.length ck ka6 kb6 da6 db6 v10) := HQ.out.below hb2 hwl hbl1
    clear HQ
    have HQ := HQ'
    clear HQ'
    have Hp8 := hidWSi hk2
    clear hW2 hp8 hb2 hk2
    go_simp
    rw [HW2.out, ← HG.out]
    clear HW2 HG
    refine hK.out _ _ HQ.out.1 (fun hHeld => ?_)
    clear hK K
    try simp only [Act.put, List.setIfInBounds_toArray, List.set_cons_zero, List.set_cons_succ]
    refine wpAnyZ_ready (rs := [17]) (by kernel_rfl) (by simp) ?_
    refine AllReadyZ.cons (o := { dst := some 7, op := Op.alloc 118, type := 0, pos := _, after := _, guard := none }) rfl (fun K hK => ?g11) AllReadyZ.nil
    case' g11 =>
     obtain ⟨p7, vz, hp7, hW2, hb2, hk2⟩ := lay4 v10
     have HW2 := hidWSi hW2
     have HG : Hid (p7 = v10.heap.size) := hp7
     have HLp7 : Hid (w1.heap.size ≤ p7) := hp7 ▸ HQ.out.2.size
     have HNE : Hid (p7 ≠ p8) := by (show p7 ≠ p8; have h9 := Hp8.out.lt; omega)
     have HQ' : Hid (Q3 w w1 b off ia ib v.k.length ck ka6 kb6 da6 db6 vz) := HQ.out.below hb2 hwl hbl1
     have Hp8' : Hid (Bk vz p8 118 #[.int .i64 0, .int .i64 0, .int .i64 0, .int .i64 0]) := Hp8.out.below hb2
     clear HQ Hp8
     have HQ := HQ'
     have Hp8 := Hp8'
     clear HQ' Hp8'
     have Hp7 := hidWSi hk2
     clear hW2 hp7 hb2 hk2
     go_simp
     rw [HW2.out, ← HG.out]
     clear HW2 HG
     refine hK.out _ _ HQ.out.1 (fun hHeld => ?_)
     clear hK K
     try simp only [Act.put, List.setIfInBounds_toArray, List.set_cons_zero, List.set_cons_succ]
  case' g2 =>
   obtain ⟨p7, v13, hp7, hW2, hb2, hk2⟩ := lay4 wd
   have HW2 := hidWSi hW2
   have HG : Hid (p7 = wd.heap.size) := hp7
   have HLp7 : Hid (w1.heap.size ≤ p7) := hp7 ▸ HQ.out.2.size
   have HQ' : Hid (Q3 w w1 b off ia ib v.k.length ck ka6 kb6 da6 db6 v13) := HQ.out.below hb2 hwl hbl1
   clear HQ
   have HQ := HQ'
   clear HQ'
   have Hp7 := hidWSi hk2
   clear hW2 hp7 hb2 hk2
   go_simp
   rw [HW2.out, ← HG.out]
   clear HW2 HG
   refine hK.out _ _ HQ.out.1 (fun hHeld => ?_)
   clear hK K
   try simp only [Act.put, List.setIfInBounds_toArray, List.set_cons_zero, List.set_cons_succ]
   refine wpAnyZ_ready (rs := [12, 18]) (by kernel_rfl) (by simp) ?_
   refine AllReadyZ.cons (o := { dst := some 47, op := Op.call { callee := Callee.value (Operand.func 105), args := #[Operand.tmp 40, Operand.tmp 46], argTypes := #[22, 22] }, type := 127, pos := _, after := _, guard := none }) rfl (fun K hK => ?g15) (AllReadyZ.cons (o := { dst := some 8, op := Op.alloc 118, type := 0, pos := _, after := _, guard := none }) rfl (fun K hK => ?g14) AllReadyZ.nil)
   case' g15 =>
    go_simp
    refine (HTW.out v13 (HBX.out.trans (HQ.out.2.mono HBX.out.size))).mono ?_
    rintro e v16 ⟨rfl, hb2⟩
    have HQ' : Hid (Q3 w w1 b off ia ib v.k.length ck ka6 kb6 da6 db6 v16) := HQ.out.below hb2 hwl hbl1
    have Hp7' : Hid (Bk v16 p7 118 #[.int .i64 0, .int .i64 0, .int .i64 0, .int .i64 0]) := Hp7.out.below hb2
    clear HQ Hp7
    have HQ := HQ'
    have Hp7 := Hp7'
    clear HQ' Hp7'
    clear hb2
    try go_simp
    refine hK.out _ _ HQ.out.1 (fun hHeld => ?_)
    clear hK K
    try simp only [Act.put, List.setIfInBounds_toArray, List.set_cons_zero, List.set_cons_succ]
    refine tzWSi 13 { dst := some 34, op := Op.move (Operand.tmp 47), type := 127, pos := _, after := _, guard := none } (.tuple #[vec a0 a1 a2 a3, vec b0 b1 b2 b3, .bool true]) ?_
    try simp only [Act.put, List.setIfInBounds_toArray, List.set_cons_zero, List.set_cons_succ]
    refine tzWSi 14 { dst := some 48, op := Op.extract (Operand.tmp 34) 0, type := 118, pos := _, after := _, guard := none } (vec a0 a1 a2 a3) ?_
    try simp only [Act.put, List.setIfInBounds_toArray, List.set_cons_zero, List.set_cons_succ]
    refine tzWSi 15 { dst := some 49, op := Op.extract (Operand.tmp 34) 1, type := 118, pos := _, after := _, guard := none } (vec b0 b1 b2 b3) ?_
    try simp only [Act.put, List.setIfInBounds_toArray, List.set_cons_zero, List.set_cons_succ]
    refine tzWSi 16 { dst := some 50, op := Op.extract (Operand.tmp 34) 2, type := 4, pos := _, after := _, guard := none } (.bool true) ?_
    try simp only [Act.put, List.setIfInBounds_toArray, List.set_cons_zero, List.set_cons_succ]
    refine wpAnyZ_ready (rs := [18]) (by kernel_rfl) (by simp) ?_
    refine AllReadyZ.cons (o := { dst := some 8, op := Op.alloc 118, type := 0, pos := _, after := _, guard := none }) rfl (fun K hK => ?g17) AllReadyZ.nil
    case' g17 =>
     obtain ⟨p8, vz, hp8, hW2, hb2, hk2⟩ := lay4 v16
     have HW2 := hidWSi hW2
     have HG : Hid (p8 = v16.heap.size) := hp8
     have HLp8 : Hid (w1.heap.size ≤ p8) := hp8 ▸ HQ.out.2.size
     have HNE : Hid (p7 ≠ p8) := by (show p7 ≠ p8; have h9 := Hp7.out.lt; omega)
     have HQ' : Hid (Q3 w w1 b off ia ib v.k.length ck ka6 kb6 da6 db6 vz) := HQ.out.below hb2 hwl hbl1
     have Hp7' : Hid (Bk vz p7 118 #[.int .i64 0, .int .i64 0, .int .i64 0, .int .i64 0]) := Hp7.out.below hb2
     clear HQ Hp7
     have HQ := HQ'
     have Hp7 := Hp7'
     clear HQ' Hp7'
     have Hp8 := hidWSi hk2
     clear hW2 hp8 hb2 hk2
     go_simp
     rw [HW2.out, ← HG.out]
     clear HW2 HG
     refine hK.out _ _ HQ.out.1 (fun hHeld => ?_)
     clear hK K
     try simp only [Act.put, List.setIfInBounds_toArray, List.set_cons_zero, List.set_cons_succ]
   case' g14 =>
    obtain ⟨p8, v19, hp8, hW2, hb2, hk2⟩ := lay4 v13
    have HW2 := hidWSi hW2
    have HG : Hid (p8 = v13.heap.size) := hp8
    have HLp8 : Hid (w1.heap.size ≤ p8) := hp8 ▸ HQ.out.2.size
    have HNE : Hid (p7 ≠ p8) := by (show p7 ≠ p8; have h9 := Hp7.out.lt; omega)
    have HQ' : Hid (Q3 w w1 b off ia ib v.k.length ck ka6 kb6 da6 db6 v19) := HQ.out.below hb2 hwl hbl1
    have Hp7' : Hid (Bk v19 p7 118 #[.int .i64 0, .int .i64 0, .int .i64 0, .int .i64 0]) := Hp7.out.below hb2
    clear HQ Hp7
    have HQ := HQ'
    have Hp7 := Hp7'
    clear HQ' Hp7'
    have Hp8 := hidWSi hk2
    clear hW2 hp8 hb2 hk2
    go_simp
    rw [HW2.out, ← HG.out]
    clear HW2 HG
    refine hK.out _ _ HQ.out.1 (fun hHeld => ?_)
    clear hK K
    try simp only [Act.put, List.setIfInBounds_toArray, List.set_cons_zero, List.set_cons_succ]
    refine wpAnyZ_ready (rs := [12]) (by kernel_rfl) (by simp) ?_
    refine AllReadyZ.cons (o := { dst := some 47, op := Op.call { callee := Callee.value (Operand.func 105), args := #[Operand.tmp 40, Operand.tmp 46], argTypes := #[22, 22] }, type := 127, pos := _, after := _, guard := none }) rfl (fun K hK => ?g20) AllReadyZ.nil
    case' g20 =>
     go_simp
     refine (HTW.out v19 (HBX.out.trans (HQ.out.2.mono HBX.out.size))).mono ?_
     rintro e vz ⟨rfl, hb2⟩
     have HQ' : Hid (Q3 w w1 b off ia ib v.k.length ck ka6 kb6 da6 db6 vz) := HQ.out.below hb2 hwl hbl1
     have Hp7' : Hid (Bk vz p7 118 #[.int .i64 0, .int .i64 0, .int .i64 0, .int .i64 0]) := Hp7.out.below hb2
     have Hp8' : Hid (Bk vz p8 118 #[.int .i64 0, .int .i64 0, .int .i64 0, .int .i64 0]) := Hp8.out.below hb2
     clear HQ Hp7 Hp8
     have HQ := HQ'
     have Hp7 := Hp7'
     have Hp8 := Hp8'
     clear HQ' Hp7' Hp8'
     clear hb2
     try go_simp
     refine hK.out _ _ HQ.out.1 (fun hHeld => ?_)
     clear hK K
     try simp only [Act.put, List.setIfInBounds_toArray, List.set_cons_zero, List.set_cons_succ]
     refine tzWSi 13 { dst := some 34, op := Op.move (Operand.tmp 47), type := 127, pos := _, after := _, guard := none } (.tuple #[vec a0 a1 a2 a3, vec b0 b1 b2 b3, .bool true]) ?_
     try simp only [Act.put, List.setIfInBounds_toArray, List.set_cons_zero, List.set_cons_succ]
     refine tzWSi 14 { dst := some 48, op := Op.extract (Operand.tmp 34) 0, type := 118, pos := _, after := _, guard := none } (vec a0 a1 a2 a3) ?_
     try simp only [Act.put, List.setIfInBounds_toArray, List.set_cons_zero, List.set_cons_succ]
     refine tzWSi 15 { dst := some 49, op := Op.extract (Operand.tmp 34) 1, type := 118, pos := _, after := _, guard := none } (vec b0 b1 b2 b3) ?_
     try simp only [Act.put, List.setIfInBounds_toArray, List.set_cons_zero, List.set_cons_succ]
     refine tzWSi 16 { dst := some 50, op := Op.extract (Operand.tmp 34) 2, type := 4, pos := _, after := _, guard := none } (.bool true) ?_
     try simp only [Act.put, List.setIfInBounds_toArray, List.set_cons_zero, List.set_cons_succ]
  case' g1 =>
   obtain ⟨p8, v22, hp8, hW2, hb2, hk2⟩ := lay4 wd
   have HW2 := hidWSi hW2
   have HG : Hid (p8 = wd.heap.size) := hp8
   have HLp8 : Hid (w1.heap.size ≤ p8) := hp8 ▸ HQ.out.2.size
   have HQ' : Hid (Q3 w w1 b off ia ib v.k.length ck ka6 kb6 da6 db6 v22) := HQ.out.below hb2 hwl hbl1
   clear HQ
   have HQ := HQ'
   clear HQ'
   have Hp8 := hidWSi hk2
   clear hW2 hp8 hb2 hk2
   go_simp
   rw [HW2.out, ← HG.out]
   clear HW2 HG
   refine hK.out _ _ HQ.out.1 (fun hHeld => ?_)
   clear hK K
   try simp only [Act.put, List.setIfInBounds_toArray, List.set_cons_zero, List.set_cons_succ]
   refine wpAnyZ_ready (rs := [12, 17]) (by kernel_rfl) (by simp) ?_
   refine AllReadyZ.cons (o := { dst := some 47, op := Op.call { callee := Callee.value (Operand.func 105), args := #[Operand.tmp 40, Operand.tmp 46], argTypes := #[22, 22] }, type := 127, pos := _, after := _, guard := none }) rfl (fun K hK => ?g24) (AllReadyZ.cons (o := { dst := some 7, op := Op.alloc 118, type := 0, pos := _, after := _, guard := none }) rfl (fun K hK => ?g23) AllReadyZ.nil)
   case' g24 =>
    go_simp
    refine (HTW.out v22 (HBX.out.trans (HQ.out.2.mono HBX.out.size))).mono ?_
    rintro e v25 ⟨rfl, hb2⟩
    have HQ' : Hid (Q3 w w1 b off ia ib v.k.length ck ka6 kb6 da6 db6 v25) := HQ.out.below hb2 hwl hbl1
    have Hp8' : Hid (Bk v25 p8 118 #[.int .i64 0, .int .i64 0, .int .i64 0, .int .i64 0]) := Hp8.out.below hb2
    clear HQ Hp8
    have HQ := HQ'
    have Hp8 := Hp8'
    clear HQ' Hp8'
    clear hb2
    try go_simp
    refine hK.out _ _ HQ.out.1 (fun hHeld => ?_)
    clear hK K
    try simp only [Act.put, List.setIfInBounds_toArray, List.set_cons_zero, List.set_cons_succ]
    refine tzWSi 13 { dst := some 34, op := Op.move (Operand.tmp 47), type := 127, pos := _, after := _, guard := none } (.tuple #[vec a0 a1 a2 a3, vec b0 b1 b2 b3, .bool true]) ?_
    try simp only [Act.put, List.setIfInBounds_toArray, List.set_cons_zero, List.set_cons_succ]
    refine tzWSi 14 { dst := some 48, op := Op.extract (Operand.tmp 34) 0, type := 118, pos := _, after := _, guard := none } (vec a0 a1 a2 a3) ?_
    try simp only [Act.put, List.setIfInBounds_toArray, List.set_cons_zero, List.set_cons_succ]
    refine tzWSi 15 { dst := some 49, op := Op.extract (Operand.tmp 34) 1, type := 118, pos := _, after := _, guard := none } (vec b0 b1 b2 b3) ?_
    try simp only [Act.put, List.setIfInBounds_toArray, List.set_cons_zero, List.set_cons_succ]
    refine tzWSi 16 { dst := some 50, op := Op.extract (Operand.tmp 34) 2, type := 4, pos := _, after := _, guard := none } (.bool true) ?_
    try simp only [Act.put, List.setIfInBounds_toArray, List.set_cons_zero, List.set_cons_succ]
    refine wpAnyZ_ready (rs := [17]) (by kernel_rfl) (by simp) ?_
    refine AllReadyZ.cons (o := { dst := some 7, op := Op.alloc 118, type := 0, pos := _, after := _, guard := none }) rfl (fun K hK => ?g26) AllReadyZ.nil
    case' g26 =>
     obtain ⟨p7, vz, hp7, hW2, hb2, hk2⟩ := lay4 v25
     have HW2 := hidWSi hW2
     have HG : Hid (p7 = v25.heap.size) := hp7
     have HLp7 : Hid (w1.heap.size ≤ p7) := hp7 ▸ HQ.out.2.size
     have HNE : Hid (p7 ≠ p8) := by (show p7 ≠ p8; have h9 := Hp8.out.lt; omega)
     have HQ' : Hid (Q3 w w1 b off ia ib v.k.length ck ka6 kb6 da6 db6 vz) := HQ.out.below hb2 hwl hbl1
     have Hp8' : Hid (Bk vz p8 118 #[.int .i64 0, .int .i64 0, .int .i64 0, .int .i64 0]) := Hp8.out.below hb2
     clear HQ Hp8
     have HQ := HQ'
     have Hp8 := Hp8'
     clear HQ' Hp8'
     have Hp7 := hidWSi hk2
     clear hW2 hp7 hb2 hk2
     go_simp
     rw [HW2.out, ← HG.out]
     clear HW2 HG
     refine hK.out _ _ HQ.out.1 (fun hHeld => ?_)
     clear hK K
     try simp only [Act.put, List.setIfInBounds_toArray, List.set_cons_zero, List.set_cons_succ]
   case' g23 =>
    obtain ⟨p7, v28, hp7, hW2, hb2, hk2⟩ := lay4 v22
    have HW2 := hidWSi hW2
    have HG : Hid (p7 = v22.heap.size) := hp7
    have HLp7 : Hid (w1.heap.size ≤ p7) := hp7 ▸ HQ.out.2.size
    have HNE : Hid (p7 ≠ p8) := by (show p7 ≠ p8; have h9 := Hp8.out.lt; omega)
    have HQ' : Hid (Q3 w w1 b off ia ib v.k.length ck ka6 kb6 da6 db6 v28) := HQ.out.below hb2 hwl hbl1
    have Hp8' : Hid (Bk v28 p8 118 #[.int .i64 0, .int .i64 0, .int .i64 0, .int .i64 0]) := Hp8.out.below hb2
    clear HQ Hp8
    have HQ := HQ'
    have Hp8 := Hp8'
    clear HQ' Hp8'
    have Hp7 := hidWSi hk2
    clear hW2 hp7 hb2 hk2
    go_simp
    rw [HW2.out, ← HG.out]
    clear HW2 HG
    refine hK.out _ _ HQ.out.1 (fun hHeld => ?_)
    clear hK K
    try simp only [Act.put, List.setIfInBounds_toArray, List.set_cons_zero, List.set_cons_succ]
    refine wpAnyZ_ready (rs := [12]) (by kernel_rfl) (by simp) ?_
    refine AllReadyZ.cons (o := { dst := some 47, op := Op.call { callee := Callee.value (Operand.func 105), args := #[Operand.tmp 40, Operand.tmp 46], argTypes := #[22, 22] }, type := 127, pos := _, after := _, guard := none }) rfl (fun K hK => ?g29) AllReadyZ.nil
    case' g29 =>
     go_simp
     refine (HTW.out v28 (HBX.out.trans (HQ.out.2.mono HBX.out.size))).mono ?_
     rintro e vz ⟨rfl, hb2⟩
     have HQ' : Hid (Q3 w w1 b off ia ib v.k.length ck ka6 kb6 da6 db6 vz) := HQ.out.below hb2 hwl hbl1
     have Hp7' : Hid (Bk vz p7 118 #[.int .i64 0, .int .i64 0, .int .i64 0, .int .i64 0]) := Hp7.out.below hb2
     have Hp8' : Hid (Bk vz p8 118 #[.int .i64 0, .int .i64 0, .int .i64 0, .int .i64 0]) := Hp8.out.below hb2
     clear HQ Hp7 Hp8
     have HQ := HQ'
     have Hp7 := Hp7'
     have Hp8 := Hp8'
     clear HQ' Hp7' Hp8'
     clear hb2
     try go_simp
     refine hK.out _ _ HQ.out.1 (fun hHeld => ?_)
     clear hK K
     try simp only [Act.put, List.setIfInBounds_toArray, List.set_cons_zero, List.set_cons_succ]
     refine tzWSi 13 { dst := some 34, op := Op.move (Operand.tmp 47), type := 127, pos := _, after := _, guard := none } (.tuple #[vec a0 a1 a2 a3, vec b0 b1 b2 b3, .bool true]) ?_
     try simp only [Act.put, List.setIfInBounds_toArray, List.set_cons_zero, List.set_cons_succ]
     refine tzWSi 14 { dst := some 48, op := Op.extract (Operand.tmp 34) 0, type := 118, pos := _, after := _, guard := none } (vec a0 a1 a2 a3) ?_
     try simp only [Act.put, List.setIfInBounds_toArray, List.set_cons_zero, List.set_cons_succ]
     refine tzWSi 15 { dst := some 49, op := Op.extract (Operand.tmp 34) 1, type := 118, pos := _, after := _, guard := none } (vec b0 b1 b2 b3) ?_
     try simp only [Act.put, List.setIfInBounds_toArray, List.set_cons_zero, List.set_cons_succ]
     refine tzWSi 16 { dst := some 50, op := Op.extract (Operand.tmp 34) 2, type := 4, pos := _, after := _, guard := none } (.bool true) ?_
     try simp only [Act.put, List.setIfInBounds_toArray, List.set_cons_zero, List.set_cons_succ]
  all_goals
   refine wpAnyZ_ready (rs := [19]) (by kernel_rfl) (by simp) ?_
   refine AllReadyZ.cons (o := { dst := none, op := Op.store 118 (Operand.tmp 7) (Operand.tmp 48), type := 0, pos := _, after := _, guard := none }) rfl (fun K hK => ?_) AllReadyZ.nil
   obtain ⟨k0, k1, k2, k3, kf⟩ := four4 Hp7.out
   obtain ⟨x31, hX⟩ : ∃ X, put4 vz p7 a0 a1 a2 a3 = X := ⟨_, rfl⟩
   obtain ⟨r1, r2, r3⟩ := store4 Hp7.out Hp8.out (HNE.out) HQ.out HLp7.out hwl hbl1 a0 a1 a2 a3 x31 hX
   unfold put4 at hX
   have HX : Hid _ := hX
   clear hX Hp7 Hp8 HQ
   have Hp7 := hidWSi r1
   have Hp8 := hidWSi r2
   have HQ := hidWSi r3
   clear r1 r2 r3
   go_simp
   rw [HX.out]
   clear HX k0 k1 k2 k3 kf
   refine hK.out _ _ HQ.out.1 (fun hHeld => ?_)
   clear hK K
   try simp only [Act.put, List.setIfInBounds_toArray, List.set_cons_zero, List.set_cons_succ]
   refine wpAnyZ_ready (rs := [20]) (by kernel_rfl) (by simp) ?_
   refine AllReadyZ.cons (o := { dst := none, op := Op.store 118 (Operand.tmp 8) (Operand.tmp 49), type := 0, pos := _, after := _, guard := none }) rfl (fun K hK => ?_) AllReadyZ.nil
   obtain ⟨k0, k1, k2, k3, kf⟩ := four4 Hp8.out
   obtain ⟨y31, hX⟩ : ∃ X, put4 x31 p8 b0 b1 b2 b3 = X := ⟨_, rfl⟩
   obtain ⟨r1, r2, r3⟩ := store4 Hp8.out Hp7.out (HNE.out.symm) HQ.out HLp8.out hwl hbl1 b0 b1 b2 b3 y31 hX
   unfold put4 at hX
   have HX : Hid _ := hX
   clear hX Hp8 Hp7 HQ
   have Hp8 := hidWSi r1
   have Hp7 := hidWSi r2
   have HQ := hidWSi r3
   clear r1 r2 r3
   go_simp
   rw [HX.out]
   clear HX k0 k1 k2 k3 kf
   refine hK.out _ _ HQ.out.1 (fun hHeld => ?_)
   clear hK K
   try simp only [Act.put, List.setIfInBounds_toArray, List.set_cons_zero, List.set_cons_succ]
   refine wpAnyZ_ready (rs := [21]) (by kernel_rfl) (by simp) ?_
   refine AllReadyZ.last (o := { dst := some 9, op := Op.assign (Operand.tmp 50), type := 4, pos := _, after := _, guard := none }) rfl (fun K hK => ?_)
   go_simp
   refine hK.out _ _ ?_
   clear hK K
   try simp only [Act.put, List.setIfInBounds_toArray, List.set_cons_zero, List.set_cons_succ]
   refine wpAnyZ_done (by kernel_rfl) ?_ _
   clear hHeld
   go_wp2
   go_meet
   case rel => exact ⟨_, _, rfl, rfl, Hp7.out, Hp8.out, HQ.out.2⟩
 case rest =>
  rename World => w4
  obtain ⟨P, Q, rfl, rfl, hP, hQ, hb4⟩ := hcut
  have HB4 := hidWSi (HBX.out.trans (hb4.mono HBX.out.size))
  have p0 := hP.cell (i := 0) rfl
  have p1 := hP.cell (i := 1) rfl
  have p2 := hP.cell (i := 2) rfl
  have p3 := hP.cell (i := 3) rfl
  have r0 := hQ.cell (i := 0) rfl
  have r1 := hQ.cell (i := 1) rfl
  have r2 := hQ.cell (i := 2) rfl
  have r3 := hQ.cell (i := 3) rfl
  clear q6 f1 f2 hP hQ hb4
  go_wp2_with fail
  clear p0 p1 p2 p3 r0 r1 r2 r3
  refine (unlike_any a0 a1 a2 a3 b0 b1 b2 b3 w4).mono ?_
  rintro e w5 ⟨rfl, hb5⟩
  have HB5 := hidWSi (HB4.out.trans (hb5.mono HB4.out.size))
  clear hb5
  go_wp2
  go_ret
  exact ⟨ret_int HRE.out.symm, HB5.out⟩
end Go.Proofs.YtnlhcdchmgfipaaGreat
