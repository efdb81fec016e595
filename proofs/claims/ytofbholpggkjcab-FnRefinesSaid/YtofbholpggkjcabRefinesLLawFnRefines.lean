/- At every code of at most 2^47 - 4096 bytes (the form's own reach) who refines one that refines another one refines that, who meets the finer one meets the other one, and the code reads as it did; no condition. -/
import Derived.Test.YtofbholpggkjcabRefinesG03
import Derived.Test.YtofbholpggkjcabRefinesG05
import Derived.Test.YtofbholpggkjcabRefinesG06
namespace Go.Proofs.Ytofbholpggkjcab.LawRefines
open Go.ChangeShapes Go.WideShapes Go.ChangeAt Go.RowKit Go.Proofs.Ytofbholpggkjcab

def rfn (l r : List Int) : Bool := vok l && vok r && refB l r
def mts (l r : List Int) : Bool := vok l && vok r && meetB l r
theorem rfn_iff {l r : List Int} : rfn l r = true ↔ vok l = true ∧ vok r = true ∧ ∀ j, j < 4 → rB (intAt l j) (intAt r j) = true := by
  simp [rfn, refB, and_assoc]
theorem mts_iff {l r : List Int} : mts l r = true ↔ vok l = true ∧ vok r = true ∧ ∀ j, j < 4 → mB (intAt l j) (intAt r j) = true := by
  simp [mts, meetB, and_assoc]
theorem rfn_trans {a b c : List Int} (h : rfn a b = true) (k : rfn b c = true) : rfn a c = true := by
  rw [rfn_iff] at *
  refine ⟨h.1, k.2.1, fun j hj => ?_⟩
  have h1 := h.2.2 j hj
  have h2 := k.2.2 j hj
  simp only [rB, Bool.or_eq_true, decide_eq_true_eq] at *
  omega
theorem rfn_meet {a b d : List Int} (h : rfn a b = true) (k : mts a d = true) : mts b d = true := by
  rw [rfn_iff] at h
  rw [mts_iff] at *
  refine ⟨h.2.1, k.2.1, fun j hj => ?_⟩
  have h1 := h.2.2 j hj
  have h2 := k.2.2 j hj
  simp only [rB, mB, Bool.or_eq_true, decide_eq_true_eq] at *
  omega
theorem lit1 : rfn [1, 0, 1, 0] [1, -1, -1, 0] = true := by decide
theorem lit2 : rfn [1, -1, 1, 0] [1, 0, -1, 0] = false := by decide
theorem isI4 {w : World} {g : Nat} {l : List Int} (h : IntsAt w g 0 l) (hl : l.length = 4) : IsI w (.slice (some ⟨g, 0, none⟩) 4 4) l :=
  ⟨_, 4, by rw [hl], by omega, by unfold maxLen; omega, .inr ⟨g, 0, rfl, h⟩⟩
theorem two_lits (W : World) (a0 a1 a2 a3 b0 b1 b2 b3 : Int) (r : Bool) (hr : rfn [a0, a1, a2, a3] [b0, b1, b2, b3] = r) : Calls Try.prog 17 #[.slice (some ⟨W.heap.size, 0, none⟩) 4 4, .slice (some ⟨W.heap.size + 1, 0, none⟩) 4 4] ((W.alloc (.cells #[.int .i64 a0, .int .i64 a1, .int .i64 a2, .int .i64 a3] 3)).alloc (.cells #[.int .i64 b0, .int .i64 b1, .int .i64 b2, .int .i64 b3] 3)) fun e w' => e = .returned (.bool r) ∧ Below W.heap.size W w' := by
  have h1 := ints_alloc W a0 a1 a2 a3 3
  have h2 := ints_alloc (W.alloc (.cells #[.int .i64 a0, .int .i64 a1, .int .i64 a2, .int .i64 a3] 3)) b0 b1 b2 b3 3
  rw [show (W.alloc (.cells #[.int .i64 a0, .int .i64 a1, .int .i64 a2, .int .i64 a3] 3)).heap.size = W.heap.size + 1 by simp] at h2
  have h3 := h1.below ((Below.refl (W.heap.size + 1) (W.alloc (.cells #[.int .i64 a0, .int .i64 a1, .int .i64 a2, .int .i64 a3] 3))).alloc (by simp) (.cells #[.int .i64 b0, .int .i64 b1, .int .i64 b2, .int .i64 b3] 3)) (by omega)
  refine (iRefines_any _ _ [a0, a1, a2, a3] [b0, b1, b2, b3] _ (by simp) (by simp) (isI4 h3 rfl) (isI4 h2 rfl)).mono fun e w' ⟨he, hb⟩ => ⟨?_, ?_⟩
  · rw [← hr]; exact he
  · exact (((Below.refl _ W).alloc (Nat.le_refl _) _).alloc (by simp) _).trans (hb.mono (by simp; omega))

set_option maxRecDepth 100000 in
set_option maxHeartbeats 4000000 in
theorem walk (a : Option Addr) (n cap : Nat) (w : World) (hn : n ≤ 140737488351232) (hC : CodeIn w w.heap.size a n) :
    Calls Try.prog 5 #[.slice a n cap] w fun e w' => e = .returned (.bool true) ∧ Below w.heap.size w w' := by
  have HC : Hid (CodeIn w w.heap.size a n) := hC
  clear hC
  go_enter Try.func5, Try.ntmps5
  go_wp2_with fail
  refine (drawRef_any a n cap _ (by omega) HC.out).mono ?_
  rintro e w1 ⟨va, vb, la, lb, rfl, hla, hlb, hoa, hob, hB1⟩
  have HA1 : Hid (la.length = 4 ∧ IsI w1 va la) := ⟨hla, hoa.isI⟩
  have HB1' : Hid (lb.length = 4 ∧ IsI w1 vb lb) := ⟨hlb, hob.isI⟩
  have HB1 : Hid (Below w.heap.size w w1) := hB1
  have HC1 : Hid (CodeIn w1 w1.heap.size a n) := (HC.out.below hB1 (Nat.le_refl _)).mono hB1.size
  clear hla hlb hoa hob hB1 HC
  go_wp2_with fail
  refine (more_any a n cap _ hn HC1.out).mono ?_
  rintro e w2 ⟨a', cap', rfl, hC2, hB2⟩
  have HC2 : Hid (CodeIn w2 w2.heap.size a' (n + 2)) := hC2
  have HB2 : Hid (Below w1.heap.size w1 w2) := hB2
  clear hC2 hB2 HC1
  go_wp2_with fail
  refine (drawMeet_any a' (n + 2) cap' _ (by omega) HC2.out).mono ?_
  rintro e W4 ⟨vc, vd, lc, ld, rfl, hlc, hld, hoc, hod, hB3⟩
  have HB4 : Hid (Below w.heap.size w W4) := (HB1.out.trans (HB2.out.mono HB1.out.size)).trans (hB3.mono (Nat.le_trans HB1.out.size HB2.out.size))
  have ha := HA1.out.2.below (HB2.out.trans (hB3.mono HB2.out.size))
  have hb := HB1'.out.2.below (HB2.out.trans (hB3.mono HB2.out.size))
  have hc := hoc.isI
  have hd := hod.isI
  have l1 := HA1.out.1
  have l2 := HB1'.out.1
  have HRab : Hid (∀ W, Below W4.heap.size W4 W → Calls Try.prog 17 #[va, vb] W fun e w' => e = .returned (.bool (rfn la lb)) ∧ Below W.heap.size W w') := fun W hW => iRefines_any va vb la lb W (by omega) (by omega) (ha.below hW) (hb.below hW)
  have HRbc : Hid (∀ W, Below W4.heap.size W4 W → Calls Try.prog 17 #[vb, vc] W fun e w' => e = .returned (.bool (rfn lb lc)) ∧ Below W.heap.size W w') := fun W hW => iRefines_any vb vc lb lc W (by omega) (by omega) (hb.below hW) (hc.below hW)
  have HRac : Hid (∀ W, Below W4.heap.size W4 W → Calls Try.prog 17 #[va, vc] W fun e w' => e = .returned (.bool (rfn la lc)) ∧ Below W.heap.size W w') := fun W hW => iRefines_any va vc la lc W (by omega) (by omega) (ha.below hW) (hc.below hW)
  have HMad : Hid (∀ W, Below W4.heap.size W4 W → Calls Try.prog 18 #[va, vd] W fun e w' => e = .returned (.bool (mts la ld)) ∧ Below W.heap.size W w') := fun W hW => iMeets_any va vd la ld W (by omega) (by omega) (ha.below hW) (hd.below hW)
  have HMbd : Hid (∀ W, Below W4.heap.size W4 W → Calls Try.prog 18 #[vb, vd] W fun e w' => e = .returned (.bool (mts lb ld)) ∧ Below W.heap.size W w') := fun W hW => iMeets_any vb vd lb ld W (by omega) (by omega) (hb.below hW) (hd.below hW)
  have T1 : rfn la lb = true → rfn lb lc = true → rfn la lc = true := rfn_trans
  have T2 : rfn la lb = true → mts la ld = true → mts lb ld = true := rfn_meet
  generalize rfn la lb = rab at HRab T1 T2
  generalize rfn lb lc = rbc at HRbc T1
  generalize rfn la lc = rac at HRac T1
  generalize mts la ld = mad at HMad T2
  generalize mts lb ld = mbd at HMbd T2
  clear hlc hld hoc hod hB3 ha hb hc hd l1 l2 HA1 HB1' HB1 HB2 HC2
  have HB0 : Hid (Below W4.heap.size W4 W4) := Below.refl _ _
  cases rab with
  | false =>
    clear T1 T2
    go_wp2_with fail
    refine (HRab.out _ HB0.out).mono ?_
    rintro e x0 ⟨rfl, hb⟩
    have K0 : Hid (Below W4.heap.size W4 x0) := HB0.out.trans (hb.mono HB0.out.size)
    clear hb HB0
    go_wp2_with fail
    refine (HRab.out _ K0.out).mono ?_
    rintro e x1 ⟨rfl, hb⟩
    have K1 : Hid (Below W4.heap.size W4 x1) := K0.out.trans (hb.mono K0.out.size)
    clear hb K0
    go_wp2_with fail
    refine (two_lits _ 1 0 1 0 1 (-1) (-1) 0 true lit1).mono ?_
    rintro e y1 ⟨rfl, hb⟩
    have J1 : Hid (Below W4.heap.size W4 y1) := K1.out.trans (hb.mono K1.out.size)
    clear hb
    go_wp2_with fail
    refine (two_lits _ 1 (-1) 1 0 1 0 (-1) 0 false lit2).mono ?_
    rintro e y2 ⟨rfl, hb⟩
    have J2 : Hid (Below W4.heap.size W4 y2) := J1.out.trans (hb.mono J1.out.size)
    clear hb
    go_wp2
    go_ret
    exact ⟨rfl, HB4.out.trans (J2.out.mono HB4.out.size)⟩
  | true =>
    cases rbc with
    | false =>
      clear T1
      cases mad with
      | false =>
        clear T2
        go_wp2_with fail
        refine (HRab.out _ HB0.out).mono ?_
        rintro e x0 ⟨rfl, hb⟩
        have K0 : Hid (Below W4.heap.size W4 x0) := HB0.out.trans (hb.mono HB0.out.size)
        clear hb HB0
        go_wp2_with fail
        refine (HRbc.out _ K0.out).mono ?_
        rintro e x1 ⟨rfl, hb⟩
        have K1 : Hid (Below W4.heap.size W4 x1) := K0.out.trans (hb.mono K0.out.size)
        clear hb K0
        go_wp2_with fail
        refine (HRab.out _ K1.out).mono ?_
        rintro e x2 ⟨rfl, hb⟩
        have K2 : Hid (Below W4.heap.size W4 x2) := K1.out.trans (hb.mono K1.out.size)
        clear hb K1
        go_wp2_with fail
        refine (HMad.out _ K2.out).mono ?_
        rintro e x3 ⟨rfl, hb⟩
        have K3 : Hid (Below W4.heap.size W4 x3) := K2.out.trans (hb.mono K2.out.size)
        clear hb K2
        go_wp2_with fail
        refine (two_lits _ 1 0 1 0 1 (-1) (-1) 0 true lit1).mono ?_
        rintro e y1 ⟨rfl, hb⟩
        have J1 : Hid (Below W4.heap.size W4 y1) := K3.out.trans (hb.mono K3.out.size)
        clear hb
        go_wp2_with fail
        refine (two_lits _ 1 (-1) 1 0 1 0 (-1) 0 false lit2).mono ?_
        rintro e y2 ⟨rfl, hb⟩
        have J2 : Hid (Below W4.heap.size W4 y2) := J1.out.trans (hb.mono J1.out.size)
        clear hb
        go_wp2
        go_ret
        exact ⟨rfl, HB4.out.trans (J2.out.mono HB4.out.size)⟩
      | true =>
        obtain rfl : mbd = true := T2 rfl rfl
        clear T2
        go_wp2_with fail
        refine (HRab.out _ HB0.out).mono ?_
        rintro e x0 ⟨rfl, hb⟩
        have K0 : Hid (Below W4.heap.size W4 x0) := HB0.out.trans (hb.mono HB0.out.size)
        clear hb HB0
        go_wp2_with fail
        refine (HRbc.out _ K0.out).mono ?_
        rintro e x1 ⟨rfl, hb⟩
        have K1 : Hid (Below W4.heap.size W4 x1) := K0.out.trans (hb.mono K0.out.size)
        clear hb K0
        go_wp2_with fail
        refine (HRab.out _ K1.out).mono ?_
        rintro e x2 ⟨rfl, hb⟩
        have K2 : Hid (Below W4.heap.size W4 x2) := K1.out.trans (hb.mono K1.out.size)
        clear hb K1
        go_wp2_with fail
        refine (HMad.out _ K2.out).mono ?_
        rintro e x3 ⟨rfl, hb⟩
        have K3 : Hid (Below W4.heap.size W4 x3) := K2.out.trans (hb.mono K2.out.size)
        clear hb K2
        go_wp2_with fail
        refine (HMbd.out _ K3.out).mono ?_
        rintro e x4 ⟨rfl, hb⟩
        have K4 : Hid (Below W4.heap.size W4 x4) := K3.out.trans (hb.mono K3.out.size)
        clear hb K3
        go_wp2_with fail
        refine (two_lits _ 1 0 1 0 1 (-1) (-1) 0 true lit1).mono ?_
        rintro e y1 ⟨rfl, hb⟩
        have J1 : Hid (Below W4.heap.size W4 y1) := K4.out.trans (hb.mono K4.out.size)
        clear hb
        go_wp2_with fail
        refine (two_lits _ 1 (-1) 1 0 1 0 (-1) 0 false lit2).mono ?_
        rintro e y2 ⟨rfl, hb⟩
        have J2 : Hid (Below W4.heap.size W4 y2) := J1.out.trans (hb.mono J1.out.size)
        clear hb
        go_wp2
        go_ret
        exact ⟨rfl, HB4.out.trans (J2.out.mono HB4.out.size)⟩
    | true =>
      obtain rfl : rac = true := T1 rfl rfl
      clear T1
      cases mad with
      | false =>
        clear T2
        go_wp2_with fail
        refine (HRab.out _ HB0.out).mono ?_
        rintro e x0 ⟨rfl, hb⟩
        have K0 : Hid (Below W4.heap.size W4 x0) := HB0.out.trans (hb.mono HB0.out.size)
        clear hb HB0
        go_wp2_with fail
        refine (HRbc.out _ K0.out).mono ?_
        rintro e x1 ⟨rfl, hb⟩
        have K1 : Hid (Below W4.heap.size W4 x1) := K0.out.trans (hb.mono K0.out.size)
        clear hb K0
        go_wp2_with fail
        refine (HRac.out _ K1.out).mono ?_
        rintro e x2 ⟨rfl, hb⟩
        have K2 : Hid (Below W4.heap.size W4 x2) := K1.out.trans (hb.mono K1.out.size)
        clear hb K1
        go_wp2_with fail
        refine (HRab.out _ K2.out).mono ?_
        rintro e x3 ⟨rfl, hb⟩
        have K3 : Hid (Below W4.heap.size W4 x3) := K2.out.trans (hb.mono K2.out.size)
        clear hb K2
        go_wp2_with fail
        refine (HMad.out _ K3.out).mono ?_
        rintro e x4 ⟨rfl, hb⟩
        have K4 : Hid (Below W4.heap.size W4 x4) := K3.out.trans (hb.mono K3.out.size)
        clear hb K3
        go_wp2_with fail
        refine (two_lits _ 1 0 1 0 1 (-1) (-1) 0 true lit1).mono ?_
        rintro e y1 ⟨rfl, hb⟩
        have J1 : Hid (Below W4.heap.size W4 y1) := K4.out.trans (hb.mono K4.out.size)
        clear hb
        go_wp2_with fail
        refine (two_lits _ 1 (-1) 1 0 1 0 (-1) 0 false lit2).mono ?_
        rintro e y2 ⟨rfl, hb⟩
        have J2 : Hid (Below W4.heap.size W4 y2) := J1.out.trans (hb.mono J1.out.size)
        clear hb
        go_wp2
        go_ret
        exact ⟨rfl, HB4.out.trans (J2.out.mono HB4.out.size)⟩
      | true =>
        obtain rfl : mbd = true := T2 rfl rfl
        clear T2
        go_wp2_with fail
        refine (HRab.out _ HB0.out).mono ?_
        rintro e x0 ⟨rfl, hb⟩
        have K0 : Hid (Below W4.heap.size W4 x0) := HB0.out.trans (hb.mono HB0.out.size)
        clear hb HB0
        go_wp2_with fail
        refine (HRbc.out _ K0.out).mono ?_
        rintro e x1 ⟨rfl, hb⟩
        have K1 : Hid (Below W4.heap.size W4 x1) := K0.out.trans (hb.mono K0.out.size)
        clear hb K0
        go_wp2_with fail
        refine (HRac.out _ K1.out).mono ?_
        rintro e x2 ⟨rfl, hb⟩
        have K2 : Hid (Below W4.heap.size W4 x2) := K1.out.trans (hb.mono K1.out.size)
        clear hb K1
        go_wp2_with fail
        refine (HRab.out _ K2.out).mono ?_
        rintro e x3 ⟨rfl, hb⟩
        have K3 : Hid (Below W4.heap.size W4 x3) := K2.out.trans (hb.mono K2.out.size)
        clear hb K2
        go_wp2_with fail
        refine (HMad.out _ K3.out).mono ?_
        rintro e x4 ⟨rfl, hb⟩
        have K4 : Hid (Below W4.heap.size W4 x4) := K3.out.trans (hb.mono K3.out.size)
        clear hb K3
        go_wp2_with fail
        refine (HMbd.out _ K4.out).mono ?_
        rintro e x5 ⟨rfl, hb⟩
        have K5 : Hid (Below W4.heap.size W4 x5) := K4.out.trans (hb.mono K4.out.size)
        clear hb K4
        go_wp2_with fail
        refine (two_lits _ 1 0 1 0 1 (-1) (-1) 0 true lit1).mono ?_
        rintro e y1 ⟨rfl, hb⟩
        have J1 : Hid (Below W4.heap.size W4 y1) := K5.out.trans (hb.mono K5.out.size)
        clear hb
        go_wp2_with fail
        refine (two_lits _ 1 (-1) 1 0 1 0 (-1) 0 false lit2).mono ?_
        rintro e y2 ⟨rfl, hb⟩
        have J2 : Hid (Below W4.heap.size W4 y2) := J1.out.trans (hb.mono J1.out.size)
        clear hb
        go_wp2
        go_ret
        exact ⟨rfl, HB4.out.trans (J2.out.mono HB4.out.size)⟩

set_option maxRecDepth 100000 in
theorem lifted (os : Os) (started : os.Started) (H : Type) (enc : TypeId × Value → H) :
    ReturnsInHanded {} Try.checked os 5 .any (Rows.fnRefinesSpec.pre6 enc Try.prog Try.f5 Rows.fnRefinesRow.domain false) (Rows.fnRefinesSpec.post enc Try.prog Try.f5 false true false false) := by
  refine returnsInHanded_of_change_sized (C := Try.checked) own started (by kernel_rfl) Try.func5
    (ChangeSpec.witness6 (enc := enc) (C := Try.checked) false ⟨#[], #[.slice none 0 0], []⟩ 8 (by kernel_rfl) (by kernel_rfl) (by kernel_rfl) (by kernel_rfl)) ?_
  intro W base args ds gs before hval0 hW hcnd hsz _
  have hval : ∀ (j : Nat) t v, Try.f5.params[j]? = some t → args[j]? = some v → Value.okWide Try.prog W .any base t v := hval0
  have hW' := hW
  obtain ⟨p, q, hA0, hV, rfl, hfz, hnd⟩ := hW
  have hA : DataW.TrodAll enc Try.prog W 0 (fun _ => true) true Try.f5.params.toList args.toList ds p := hA0
  rw [Try.params5] at hA hval
  obtain ⟨v0, vs0, d0, ds0, p0, q0, hargs, rfl, rfl, h0, r0⟩ := trodAll_cons hA
  obtain ⟨rfl, rfl, rfl⟩ := trodAll_nil r0
  obtain rfl : args = #[v0] := by cases args; simp_all
  obtain ⟨rfl, rfl⟩ := trodVars_none hV
  have k0 := h0
  have lt0 : ∀ x ∈ p0, x.block < W.heap.size := by obtain ⟨m, hm⟩ := k0; exact DataW.trod_lt m _ _ _ hm
  obtain ⟨a, n, cap, rfl, hn, hcode⟩ := open_code (hval 0 31 v0 rfl rfl) h0 (fun elems spare e => sized_slice hsz (j := 0) (t := 31) (by rw [Try.params5]; rfl) (by subst e; rfl) Try.underlying31)
  clear hA0 hval0
  refine (walk a n cap W hn hcode).mono fun e W' ⟨he, bel⟩ => ?_
  subst he
  exact ⟨_, rfl, _, _, _, [], _, [], hW', trodAll_mk1 (shut_bool Try.underlying4 _), (trodAll_cons_mk (Below.trod laidOut (by kernel_rfl) (of_decide_eq_true (by kernel_rfl)) k0 bel lt0) trodAll_mk0), rfl, bel.frame _, fun h => by cases h⟩

theorem over : Rows.fnRefinesRow.holds Try.pinned (OpenSpec.ofChange Rows.fnRefinesSpec) :=
  OpenClaim.holds_of_wide 5 Try.f5 rfl rfl rfl rfl rfl rfl rfl ⟨rfl, rfl, rfl, rfl, rfl⟩ rfl rfl rfl rfl rfl (by kernel_rfl) Try.func5 (by kernel_rfl)
    (of_decide_eq_true (by kernel_rfl)) (by unfold Func.isWrapper; first | (rw [if_pos (by decide +kernel)]; kernel_rfl) | (rw [if_neg (by decide +kernel)]; exact ⟨rfl, rfl⟩))
    (fun os started H enc _ => lifted os started H enc)
end Go.Proofs.Ytofbholpggkjcab.LawRefines
namespace Go.Proofs.Ytofbholpggkjcab
theorem fnRefines_holds : Rows.FnRefinesSaid := LawRefines.over
#print axioms fnRefines_holds
end Go.Proofs.Ytofbholpggkjcab
