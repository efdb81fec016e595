/- At every code of at most 2^47 - 4096 bytes (the form's own reach) each drawn number is told by itself, is one of its row, and different numbers are stirred to different ones; the code reads as it did; no condition. -/
import Derived.Test.YtmpnlmmmopablaaNMore
import Derived.Test.YtmpnlmmmopablaaNOpen
namespace Go.Proofs.Ytmpnlmmmopablaa.LawRandoms
open Go.ChangeShapes Go.WideShapes Go.ChangeAt Go.RowKit Go.Proofs.Ytmpnlmmmopablaa

theorem bcell {W w1 : World} (hb : Below W.heap.size W w1) : (∀ b o, b < W.heap.size → w1.cell? ⟨b, o, none⟩ = W.cell? ⟨b, o, none⟩) ∧ (∀ b o, b < W.heap.size → w1.frozen? ⟨b, o, none⟩ = W.frozen? ⟨b, o, none⟩) :=
  ⟨fun b o h => hb.cell (p := ⟨b, o, none⟩) h, fun b o h => hb.frozen (p := ⟨b, o, none⟩) h⟩
theorem rowL3 {s l f : Int} {k : Nat} (h : k < (rowL s l f 3).length) : (intAt (rowL s l f 3) k = rnd s l (f + (k : Int))) ∧ k < 3 ∧ 0 ≤ f ∧ f ≤ 100000 := by
  unfold rowL at *
  by_cases hB : rowB s l f 3 = true
  · rw [if_pos hB] at h ⊢
    obtain ⟨hp, _, _, h3⟩ := rowB_iff.1 hB
    obtain ⟨p0, p1, p2, p3, p4, p5⟩ := placeB_iff.1 hp
    rw [rowI_length] at h
    have h' : k < 3 := by simpa using h
    refine ⟨?_, h', p4, p5⟩
    rw [rowI_at s l f _ k h]
    unfold rnd
    rw [if_pos (placeB_iff.2 ⟨p0, p1, p2, p3, by omega, by omega⟩)]
  · rw [if_neg hB] at h
    simp at h
theorem rowL_none {s l f m : Int} (h : rnd s l f < 0) : rowL s l f 3 = [] ∧ rndB s l f m = -1 := by
  have hp : ¬ placeB s l f = true := fun hp => by
    unfold rnd at h
    rw [if_pos hp] at h
    have := randI_low s l f
    omega
  refine ⟨?_, ?_⟩
  · unfold rowL
    rw [if_neg (fun hB => hp (rowB_iff.1 hB).1)]
  · unfold rndB
    rw [if_neg (fun hh => hp hh.1)]
theorem rnd_some {s l f : Int} (h : ¬ rnd s l f < 0) : rnd s l f < 2147483647 ∧ (∀ m, 1 ≤ m → m ≤ 1000 → rndB s l f m = rnd s l f % m) ∧ ∀ m, ¬ (1 ≤ m ∧ m ≤ 1000) → rndB s l f m = -1 := by
  have hp : placeB s l f = true := by
    by_cases hp : placeB s l f = true
    · exact hp
    · unfold rnd at h
      rw [if_neg hp] at h
      omega
  have e : rnd s l f = randI s l f := by unfold rnd; rw [if_pos hp]
  rw [e]
  refine ⟨randI_high s l f, fun m h1 h2 => ?_, fun m hm => ?_⟩
  · unfold rndB
    rw [if_pos ⟨hp, by simp [modB]; omega⟩]
  · unfold rndB
    rw [if_neg (fun hh => hm (by have := hh.2; simpa [modB] using this))]

set_option maxRecDepth 100000 in
set_option maxHeartbeats 4000000 in
theorem walk (a : Option Addr) (n cap : Nat) (w : World) (hn : n ≤ 140737488351232) (hC : CodeIn w w.heap.size a n) :
    Calls Try.prog 7 #[.slice a n cap] w fun e w' => e = .returned (.bool true) ∧ Below w.heap.size w w' := by
  have HC : Hid (CodeIn w w.heap.size a n) := hC
  clear hC
  have e1 : mixed 1 = 48271 := by decide +kernel
  have e2 : mixed (-1) = -1 := by decide +kernel
  go_enter Try.func7, Try.ntmps7
  go_wp2_with fail
  refine (drawBelow_any a n cap _ (by omega) HC.out).mono ?_
  rintro e w1 ⟨s, l, f, m, rfl, hB1⟩
  have HB1 : Hid (Below w.heap.size w w1) := hB1
  clear hB1
  go_wp2_with fail
  refine (iRand_any s l f _).mono ?_
  rintro e w2 ⟨rfl, hB2⟩
  have HB2 : Hid (Below w.heap.size w w2) := HB1.out.trans (hB2.mono HB1.out.size)
  clear hB2 HB1
  go_wp2_with fail
  refine (iBelow_any s l f m _).mono ?_
  rintro e w3 ⟨rfl, hB3⟩
  have HB3 : Hid (Below w.heap.size w w3) := HB2.out.trans (hB3.mono HB2.out.size)
  clear hB3 HB2
  go_wp2_with fail
  refine (iRow_any s l f 3 _).mono ?_
  rintro e w4 ⟨v, rfl, hO4, hB4⟩
  have HI4 : Hid (IsI w4 v (rowL s l f 3)) := hO4.isI
  have HB4 : Hid (Below w.heap.size w w4) := HB3.out.trans (hB4.mono HB3.out.size)
  clear hB4 HB3 hO4
  obtain ⟨va, vcap, rfl, _, _, hIn⟩ := HI4.out
  have hlen := rowL_length s l f 3
  by_cases hr : rnd s l f < 0
  · obtain ⟨h1, h2⟩ := rowL_none (m := m) hr
    rw [h1, h2]
    clear hIn HI4 hlen
    generalize rnd s l f = r at hr ⊢
    go_wp2_with (go_at_call 10; refine (iMixed_any _ _).mono ?_; rintro e w' ⟨rfl, hw'⟩; obtain rfl := hw'.symm; first | rw [e1] | rw [e2])
    go_ret
    exact ⟨rfl, HB4.out⟩
  · obtain ⟨h1, h2, h3⟩ := rnd_some hr
    have HCELL : Hid (∀ k : Nat, k < (rowL s l f 3).length → ∃ b off, va = some ⟨b, off, none⟩ ∧ b < w4.heap.size ∧ w4.cell? ⟨b, off + k, none⟩ = some (.int .i64 (rnd s l (f + (k : Int)))) ∧ k < 3 ∧ 0 ≤ f ∧ f ≤ 100000) := by
      intro k hk
      obtain ⟨b, off, ha, hb, hc⟩ := hIn.resolve_left (fun e => by rw [e] at hk; simp at hk)
      obtain ⟨g1, g2, g3, g4⟩ := rowL3 hk
      exact ⟨b, off, ha, hb, by rw [← g1]; exact hc k hk, g2, g3, g4⟩
    clear hIn HI4
    generalize (rowL s l f 3).length = L at HCELL hlen ⊢
    have hr1 : ¬ 2147483647 ≤ rnd s l f := by omega
    by_cases hm : 1 ≤ m ∧ m ≤ 1000
    · rw [h2 m hm.1 hm.2]
      obtain ⟨m1, m2⟩ := hm
      have hm0 : ¬ m = 0 := by omega
      have m3 : ¬ m < 1 := by omega
      have m4 : ¬ 1000 < m := by omega
      have ht : Int.tmod (rnd s l f) m = rnd s l f % m := tmod_pos (by omega)
      clear h1 h2 h3
      generalize rnd s l f = r at hr hr1 ht ⊢
      go_wp2_with (go_at_call 10; refine (iMixed_any _ _).mono ?_; rintro e w' ⟨rfl, hw'⟩; obtain rfl := hw'.symm; first | rw [e1] | rw [e2])
      clear hr hr1 ht hm0 m1 m2 m3 m4 e1 e2
      go_loopw [10] (fun i wr => ∃ k : Nat, k ≤ L ∧ i = .int .i64 k ∧ Below w4.heap.size w4 wr) (fun i _ => L - (intOf i).toNat)
      case atStart => exact ⟨0, Nat.zero_le _, rfl, Below.refl _ _⟩
      case round =>
        obtain ⟨k, hk, rfl, hBr⟩ := hrel
        have HBr : Hid (Below w4.heap.size w4 wr) := hBr
        clear hBr
        by_cases hlt : k < L
        · obtain ⟨b, off, hab, hb, hcell, hk3, hf0, hf1⟩ := HCELL.out k hlt
          subst hab
          have c0 := (HBr.out.cell (p := ⟨b, off + k, none⟩) hb).trans hcell
          have hbr : b < wr.heap.size := Nat.lt_of_lt_of_le hb HBr.out.size
          have hidx : (0 : Int) ≤ (k : Int) ∧ (k : Int) < (L : Int) := by omega
          have q0 : IntKind.i64.wrap (f + (k : Int)) = f + (k : Int) := by rw [IntKind.wrap_i64]; omega
          have HZ := fun W => iRand_any s l (f + (k : Int)) W
          generalize rnd s l (f + (k : Int)) = z at c0 HZ
          have HZ' : Hid (∀ W, _) := HZ
          clear HZ hcell
          go_wp2_with fail
          go_region_held3 (fun W => b < W.heap.size ∧ W.cell? ⟨b, off + k, none⟩ = some (.int .i64 z)) ((repeat' apply And.intro) <;> first | (go_keep; done) | (simp; omega) | omega | (rw [hcA _ _ (by first | omega | (simp; omega))]; simp [*]; done))
            (first | (go_at_call 12; refine (HZ'.out _).mono ?_; rintro e wA ⟨rfl, hbA⟩; obtain ⟨hcA, hfA⟩ := bcell hbA; have hzA := hbA.size))
          go_wp2
          go_roundw
          case rel => exact ⟨k + 1, by omega, by go_num, HBr.out.trans ((Below.refl _ wr).drew.trans hbA |>.mono HBr.out.size)⟩
          case measure => simp [intOf]; omega
        · go_wp2_with fail
          have hn2 : n ≤ 281474976710656 := by omega
          have hs4 := HB4.out.size
          have hsr := HBr.out.size
          have HB5 : Hid (Below w.heap.size w wr) := HB4.out.trans (HBr.out.mono hs4)
          refine (drawMixed_any a n cap _ hn2 ((HC.out.below HB5.out (Nat.le_refl _)).mono HB5.out.size)).mono ?_
          rintro e w6 ⟨x, rfl, hB6⟩
          have HB6 : Hid (Below w.heap.size w w6) := HB5.out.trans (hB6.mono HB5.out.size)
          clear hB6
          go_wp2_with fail
          refine (more_any a n cap _ hn ((HC.out.below HB6.out (Nat.le_refl _)).mono HB6.out.size)).mono ?_
          rintro e w7 ⟨a7, cap7, rfl, hc7, hB7⟩
          have HC7 : Hid (CodeIn w7 w7.heap.size a7 (n + 2)) := hc7
          have HB7 : Hid (Below w.heap.size w w7) := HB6.out.trans (hB7.mono HB6.out.size)
          clear hc7 hB7
          go_wp2_with fail
          refine (drawMixed_any a7 (n + 2) cap7 _ (by omega) HC7.out).mono ?_
          rintro e w8 ⟨y, rfl, hB8⟩
          have HB8 : Hid (Below w.heap.size w w8) := HB7.out.trans (hB8.mono HB7.out.size)
          clear hB8
          go_wp2_with fail
          refine (iMixed_any x _).mono ?_
          rintro e w' ⟨rfl, hw'⟩
          obtain rfl := hw'.symm
          go_wp2_with fail
          refine (iMixed_any y _).mono ?_
          rintro e w' ⟨rfl, hw'⟩
          obtain rfl := hw'.symm
          have HS := mixed_same x y
          generalize mixed x = px at HS ⊢
          generalize mixed y = py at HS ⊢
          clear hw'
          by_cases s1 : px < 0
          · clear HS
            go_wp2
            go_ret
            exact ⟨rfl, HB8.out⟩
          · by_cases s2 : py < 0
            · clear HS
              go_wp2
              go_ret
              exact ⟨rfl, HB8.out⟩
            · have s3 : (px == py) = (x == y) := by
                rw [Bool.eq_iff_iff, beq_iff_eq, beq_iff_eq]
                exact HS s1 s2
              clear HS
              go_wp2
              go_ret
              exact ⟨rfl, HB8.out⟩
    · rw [h3 m hm]
      clear h1 h2 h3
      generalize rnd s l f = r at hr hr1 ⊢
      by_cases m1 : m < 1
      · have m2 : ¬ 1 ≤ m := by omega
        go_wp2_with (go_at_call 10; refine (iMixed_any _ _).mono ?_; rintro e w' ⟨rfl, hw'⟩; obtain rfl := hw'.symm; first | rw [e1] | rw [e2])
        clear hr hr1 m1 m2 hm e1 e2
        go_loopw [10] (fun i wr => ∃ k : Nat, k ≤ L ∧ i = .int .i64 k ∧ Below w4.heap.size w4 wr) (fun i _ => L - (intOf i).toNat)
        case atStart => exact ⟨0, Nat.zero_le _, rfl, Below.refl _ _⟩
        case round =>
          obtain ⟨k, hk, rfl, hBr⟩ := hrel
          have HBr : Hid (Below w4.heap.size w4 wr) := hBr
          clear hBr
          by_cases hlt : k < L
          · obtain ⟨b, off, hab, hb, hcell, hk3, hf0, hf1⟩ := HCELL.out k hlt
            subst hab
            have c0 := (HBr.out.cell (p := ⟨b, off + k, none⟩) hb).trans hcell
            have hbr : b < wr.heap.size := Nat.lt_of_lt_of_le hb HBr.out.size
            have hidx : (0 : Int) ≤ (k : Int) ∧ (k : Int) < (L : Int) := by omega
            have q0 : IntKind.i64.wrap (f + (k : Int)) = f + (k : Int) := by rw [IntKind.wrap_i64]; omega
            have HZ := fun W => iRand_any s l (f + (k : Int)) W
            generalize rnd s l (f + (k : Int)) = z at c0 HZ
            have HZ' : Hid (∀ W, _) := HZ
            clear HZ hcell
            go_wp2_with fail
            go_region_held3 (fun W => b < W.heap.size ∧ W.cell? ⟨b, off + k, none⟩ = some (.int .i64 z)) ((repeat' apply And.intro) <;> first | (go_keep; done) | (simp; omega) | omega | (rw [hcA _ _ (by first | omega | (simp; omega))]; simp [*]; done))
              (first | (go_at_call 12; refine (HZ'.out _).mono ?_; rintro e wA ⟨rfl, hbA⟩; obtain ⟨hcA, hfA⟩ := bcell hbA; have hzA := hbA.size))
            go_wp2
            go_roundw
            case rel => exact ⟨k + 1, by omega, by go_num, HBr.out.trans ((Below.refl _ wr).drew.trans hbA |>.mono HBr.out.size)⟩
            case measure => simp [intOf]; omega
          · go_wp2_with fail
            have hn2 : n ≤ 281474976710656 := by omega
            have hs4 := HB4.out.size
            have hsr := HBr.out.size
            have HB5 : Hid (Below w.heap.size w wr) := HB4.out.trans (HBr.out.mono hs4)
            refine (drawMixed_any a n cap _ hn2 ((HC.out.below HB5.out (Nat.le_refl _)).mono HB5.out.size)).mono ?_
            rintro e w6 ⟨x, rfl, hB6⟩
            have HB6 : Hid (Below w.heap.size w w6) := HB5.out.trans (hB6.mono HB5.out.size)
            clear hB6
            go_wp2_with fail
            refine (more_any a n cap _ hn ((HC.out.below HB6.out (Nat.le_refl _)).mono HB6.out.size)).mono ?_
            rintro e w7 ⟨a7, cap7, rfl, hc7, hB7⟩
            have HC7 : Hid (CodeIn w7 w7.heap.size a7 (n + 2)) := hc7
            have HB7 : Hid (Below w.heap.size w w7) := HB6.out.trans (hB7.mono HB6.out.size)
            clear hc7 hB7
            go_wp2_with fail
            refine (drawMixed_any a7 (n + 2) cap7 _ (by omega) HC7.out).mono ?_
            rintro e w8 ⟨y, rfl, hB8⟩
            have HB8 : Hid (Below w.heap.size w w8) := HB7.out.trans (hB8.mono HB7.out.size)
            clear hB8
            go_wp2_with fail
            refine (iMixed_any x _).mono ?_
            rintro e w' ⟨rfl, hw'⟩
            obtain rfl := hw'.symm
            go_wp2_with fail
            refine (iMixed_any y _).mono ?_
            rintro e w' ⟨rfl, hw'⟩
            obtain rfl := hw'.symm
            have HS := mixed_same x y
            generalize mixed x = px at HS ⊢
            generalize mixed y = py at HS ⊢
            clear hw'
            by_cases s1 : px < 0
            · clear HS
              go_wp2
              go_ret
              exact ⟨rfl, HB8.out⟩
            · by_cases s2 : py < 0
              · clear HS
                go_wp2
                go_ret
                exact ⟨rfl, HB8.out⟩
              · have s3 : (px == py) = (x == y) := by
                  rw [Bool.eq_iff_iff, beq_iff_eq, beq_iff_eq]
                  exact HS s1 s2
                clear HS
                go_wp2
                go_ret
                exact ⟨rfl, HB8.out⟩
      · have m2 : 1 ≤ m := by omega
        have m3 : 1000 < m := by omega
        have m4 : ¬ m ≤ 1000 := by omega
        go_wp2_with (go_at_call 10; refine (iMixed_any _ _).mono ?_; rintro e w' ⟨rfl, hw'⟩; obtain rfl := hw'.symm; first | rw [e1] | rw [e2])
        clear hr hr1 m1 m2 m3 m4 hm e1 e2
        go_loopw [10] (fun i wr => ∃ k : Nat, k ≤ L ∧ i = .int .i64 k ∧ Below w4.heap.size w4 wr) (fun i _ => L - (intOf i).toNat)
        case atStart => exact ⟨0, Nat.zero_le _, rfl, Below.refl _ _⟩
        case round =>
          obtain ⟨k, hk, rfl, hBr⟩ := hrel
          have HBr : Hid (Below w4.heap.size w4 wr) := hBr
          clear hBr
          by_cases hlt : k < L
          · obtain ⟨b, off, hab, hb, hcell, hk3, hf0, hf1⟩ := HCELL.out k hlt
            subst hab
            have c0 := (HBr.out.cell (p := ⟨b, off + k, none⟩) hb).trans hcell
            have hbr : b < wr.heap.size := Nat.lt_of_lt_of_le hb HBr.out.size
            have hidx : (0 : Int) ≤ (k : Int) ∧ (k : Int) < (L : Int) := by omega
            have q0 : IntKind.i64.wrap (f + (k : Int)) = f + (k : Int) := by rw [IntKind.wrap_i64]; omega
            have HZ := fun W => iRand_any s l (f + (k : Int)) W
            generalize rnd s l (f + (k : Int)) = z at c0 HZ
            have HZ' : Hid (∀ W, _) := HZ
            clear HZ hcell
            go_wp2_with fail
            go_region_held3 (fun W => b < W.heap.size ∧ W.cell? ⟨b, off + k, none⟩ = some (.int .i64 z)) ((repeat' apply And.intro) <;> first | (go_keep; done) | (simp; omega) | omega | (rw [hcA _ _ (by first | omega | (simp; omega))]; simp [*]; done))
              (first | (go_at_call 12; refine (HZ'.out _).mono ?_; rintro e wA ⟨rfl, hbA⟩; obtain ⟨hcA, hfA⟩ := bcell hbA; have hzA := hbA.size))
            go_wp2
            go_roundw
            case rel => exact ⟨k + 1, by omega, by go_num, HBr.out.trans ((Below.refl _ wr).drew.trans hbA |>.mono HBr.out.size)⟩
            case measure => simp [intOf]; omega
          · go_wp2_with fail
            have hn2 : n ≤ 281474976710656 := by omega
            have hs4 := HB4.out.size
            have hsr := HBr.out.size
            have HB5 : Hid (Below w.heap.size w wr) := HB4.out.trans (HBr.out.mono hs4)
            refine (drawMixed_any a n cap _ hn2 ((HC.out.below HB5.out (Nat.le_refl _)).mono HB5.out.size)).mono ?_
            rintro e w6 ⟨x, rfl, hB6⟩
            have HB6 : Hid (Below w.heap.size w w6) := HB5.out.trans (hB6.mono HB5.out.size)
            clear hB6
            go_wp2_with fail
            refine (more_any a n cap _ hn ((HC.out.below HB6.out (Nat.le_refl _)).mono HB6.out.size)).mono ?_
            rintro e w7 ⟨a7, cap7, rfl, hc7, hB7⟩
            have HC7 : Hid (CodeIn w7 w7.heap.size a7 (n + 2)) := hc7
            have HB7 : Hid (Below w.heap.size w w7) := HB6.out.trans (hB7.mono HB6.out.size)
            clear hc7 hB7
            go_wp2_with fail
            refine (drawMixed_any a7 (n + 2) cap7 _ (by omega) HC7.out).mono ?_
            rintro e w8 ⟨y, rfl, hB8⟩
            have HB8 : Hid (Below w.heap.size w w8) := HB7.out.trans (hB8.mono HB7.out.size)
            clear hB8
            go_wp2_with fail
            refine (iMixed_any x _).mono ?_
            rintro e w' ⟨rfl, hw'⟩
            obtain rfl := hw'.symm
            go_wp2_with fail
            refine (iMixed_any y _).mono ?_
            rintro e w' ⟨rfl, hw'⟩
            obtain rfl := hw'.symm
            have HS := mixed_same x y
            generalize mixed x = px at HS ⊢
            generalize mixed y = py at HS ⊢
            clear hw'
            by_cases s1 : px < 0
            · clear HS
              go_wp2
              go_ret
              exact ⟨rfl, HB8.out⟩
            · by_cases s2 : py < 0
              · clear HS
                go_wp2
                go_ret
                exact ⟨rfl, HB8.out⟩
              · have s3 : (px == py) = (x == y) := by
                  rw [Bool.eq_iff_iff, beq_iff_eq, beq_iff_eq]
                  exact HS s1 s2
                clear HS
                go_wp2
                go_ret
                exact ⟨rfl, HB8.out⟩

set_option maxRecDepth 100000 in
theorem lifted (os : Os) (started : os.Started) (H : Type) (enc : TypeId × Value → H) :
    ReturnsInHanded {} Try.checked os 7 .any (Rows.fnRandomsSpec.pre6 enc Try.prog Try.f7 Rows.fnRandomsRow.domain false) (Rows.fnRandomsSpec.post enc Try.prog Try.f7 false true false false) := by
  refine returnsInHanded_of_change_sized (C := Try.checked) own started (by kernel_rfl) Try.func7
    (ChangeSpec.witness6 (enc := enc) (C := Try.checked) false ⟨#[], #[.slice none 0 0], []⟩ 8 (by kernel_rfl) (by kernel_rfl) (by kernel_rfl) (by kernel_rfl)) ?_
  intro W base args ds gs before hval0 hW hcnd hsz _
  have hval : ∀ (j : Nat) t v, Try.f7.params[j]? = some t → args[j]? = some v → Value.okWide Try.prog W .any base t v := hval0
  have hW' := hW
  obtain ⟨p, q, hA0, hV, rfl, hfz, hnd⟩ := hW
  have hA : DataW.TrodAll enc Try.prog W 0 (fun _ => true) true Try.f7.params.toList args.toList ds p := hA0
  rw [Try.params7] at hA hval
  obtain ⟨v0, vs0, d0, ds0, p0, q0, hargs, rfl, rfl, h0, r0⟩ := trodAll_cons hA
  obtain ⟨rfl, rfl, rfl⟩ := trodAll_nil r0
  obtain rfl : args = #[v0] := by cases args; simp_all
  obtain ⟨rfl, rfl⟩ := trodVars_none hV
  have k0 := h0
  have lt0 : ∀ x ∈ p0, x.block < W.heap.size := by obtain ⟨m, hm⟩ := k0; exact DataW.trod_lt m _ _ _ hm
  obtain ⟨a, n, cap, rfl, hn, hcode⟩ := open_code (hval 0 32 v0 rfl rfl) h0 (fun elems spare e => sized_slice hsz (j := 0) (t := 32) (by rw [Try.params7]; rfl) (by subst e; rfl) Try.underlying32)
  clear hA0 hval0
  refine (walk a n cap W hn hcode).mono fun e W' ⟨he, bel⟩ => ?_
  subst he
  exact ⟨_, rfl, _, _, _, [], _, [], hW', trodAll_mk1 (shut_bool Try.underlying4 _), (trodAll_cons_mk (Below.trod laidOut (by kernel_rfl) (of_decide_eq_true (by kernel_rfl)) k0 bel lt0) trodAll_mk0), rfl, bel.frame _, fun h => by cases h⟩

theorem over : Rows.fnRandomsRow.holds Try.pinned (OpenSpec.ofChange Rows.fnRandomsSpec) :=
  OpenClaim.holds_of_wide 7 Try.f7 rfl rfl rfl rfl rfl rfl rfl ⟨rfl, rfl, rfl, rfl, rfl⟩ rfl rfl rfl rfl rfl (by kernel_rfl) Try.func7 (by kernel_rfl)
    (of_decide_eq_true (by kernel_rfl)) (by unfold Func.isWrapper; first | (rw [if_pos (by decide +kernel)]; kernel_rfl) | (rw [if_neg (by decide +kernel)]; exact ⟨rfl, rfl⟩))
    (fun os started H enc _ => lifted os started H enc)
end Go.Proofs.Ytmpnlmmmopablaa.LawRandoms
namespace Go.Proofs.Ytmpnlmmmopablaa
theorem randoms_holds : Rows.FnRandomsSaid := LawRandoms.over
#print axioms randoms_holds
end Go.Proofs.Ytmpnlmmmopablaa
