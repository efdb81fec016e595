/- XEm, XEf, XSm -/
import Derived.Test.YtnmcjgkeionjkaaGreatExactHandleG06
import Derived.Deep.RegionHeld3
import Derived.Test.YtnmcjgkeionjkaaGreatExactHandleG24
import Derived.Test.YtnmcjgkeionjkaaGreatExactHandleLEHanS
/- Emits: how they are read, held against each other, marked, and found again. -/
namespace Go.Proofs.YtnmcjgkeionjkaaGreat
open Go.RowKit
structure XAt (w : World) (b o : Nat) (e : Em) : Prop where
  f0 : w.cell? ⟨b, o, none⟩ = some (.int .i64 e.t)
  f1 : w.cell? ⟨b, o + 1, none⟩ = some (.int .i64 e.l)
  f2 : w.cell? ⟨b, o + 2, none⟩ = some (.int .i64 e.v)
theorem XAt.below {w w' : World} {B b o : Nat} {e : Em} (h : XAt w b o e) (hb : Below B w w') (hlt : b < B) : XAt w' b o e :=
  ⟨(hb.cell hlt).trans h.f0, (hb.cell hlt).trans h.f1, (hb.cell hlt).trans h.f2⟩
def XsAt (w : World) (b off : Nat) (l : List Em) : Prop := b < w.heap.size ∧ ∀ i, i < l.length → XAt w b (off + i * 3) (xAt l i)
def IsX (w : World) (x : Value) (l : List Em) : Prop := ∃ a cap, x = .slice a l.length cap ∧ l.length ≤ cap ∧ cap ≤ maxLen ∧ (l = [] ∨ ∃ b off, a = some ⟨b, off, none⟩ ∧ XsAt w b off l)
theorem XsAt.below {w w' : World} {B b off : Nat} {l : List Em} (h : XsAt w b off l) (hb : Below B w w') (hB : b < B) : XsAt w' b off l :=
  ⟨Nat.lt_of_lt_of_le h.1 hb.size, fun i hi => (h.2 i hi).below hb hB⟩
theorem IsX.below {w w' : World} {x : Value} {l : List Em} (h : IsX w x l) (hb : Below w.heap.size w w') : IsX w' x l := by
  obtain ⟨a, cap, rfl, h1, h2, h⟩ := h
  exact ⟨a, cap, rfl, h1, h2, h.imp id (fun ⟨b, off, e, h⟩ => ⟨b, off, e, h.below hb h.1⟩)⟩
theorem RowF.isX {F : Nat → Prop} {w : World} {x : Value} {l : List Em} (h : RowF F w x l.length 3 (cellsX l)) : IsX w x l := by
  obtain ⟨hl, a, cap, rfl, h1, h2, h⟩ := h
  refine ⟨a, cap, rfl, h1, h2, h.imp List.eq_nil_of_length_eq_zero ?_⟩
  rintro ⟨g, rfl, hF, hg, hc⟩
  refine ⟨g, 0, rfl, hg, fun i hi => ?_⟩
  have hget : ∀ r, r < 3 → w.cell? ⟨g, 0 + i * 3 + r, none⟩ = (xAt l i).cs[r]? := fun r hr => by
    rw [← cellsX_get l i r hi hr, Nat.zero_add]
    exact (hc _ (by omega)).1
  exact ⟨hget 0 (by omega), hget 1 (by omega), hget 2 (by omega)⟩
set_option maxHeartbeats 1000000 in
theorem eqEmit_same (t l v : Int) (w : World) :
    Calls Tryz.prog 180 #[.agg #[.int .i64 t, .int .i64 l, .int .i64 v], .agg #[.int .i64 t, .int .i64 l, .int .i64 v]] w fun e w' => e = .returned (.bool true) ∧ Below w.heap.size w w' := by
  go_enter Tryz.func180, Tryz.ntmps180
  go_wp2
  go_ret
  exact ⟨rfl, ((Below.refl _ _).alloc (Nat.le_refl _) _).alloc (by simp) _⟩
set_option maxHeartbeats 1000000 in
theorem eqX_same (x y : Value) (l : List Em) (w : World) (hl : l.length ≤ 1048576) (hx : IsX w x l) (hy : IsX w y l) :
    Calls Tryz.prog 109 #[x, y] w fun e w' => e = .returned (.bool true) ∧ Below w.heap.size w w' := by
  obtain ⟨a, cap, rfl, h1, h2, h⟩ := hx
  obtain ⟨a', cap', rfl, h1', h2', h'⟩ := hy
  clear h1 h2 h1' h2'
  by_cases hz : l = []
  · subst hz
    clear h h'
    go_enter Tryz.func109, Tryz.ntmps109
    go_wp2
    go_loop [5] (fun i => i = .int .i64 0) (fun _ => 0)
    case atStart => rfl
    case round =>
      subst hrel
      go_wp2
      go_ret
      exact ⟨rfl, Below.refl _ _⟩
  · obtain ⟨b, off, rfl, hb, hc⟩ := h.resolve_left hz
    obtain ⟨b', off', rfl, hb', hc'⟩ := h'.resolve_left hz
    clear h h' hz
    go_enter Tryz.func109, Tryz.ntmps109
    go_wp2
    go_loopw [5] (fun i wr => ∃ k : Nat, k ≤ l.length ∧ i = .int .i64 k ∧ Below w.heap.size w wr) (fun i _ => l.length - (intOf i).toNat)
    case atStart => exact ⟨0, Nat.zero_le _, rfl, Below.refl _ _⟩
    case round =>
      obtain ⟨k, hk, rfl, hB⟩ := hrel
      have HB : Hid (Below w.heap.size w wr) := hB
      by_cases hlt : k < l.length
      · obtain ⟨f0, f1, f2⟩ := (hc k hlt).below hB hb
        obtain ⟨e0, e1, e2⟩ := (hc' k hlt).below hB hb'
        have hbr : b < wr.heap.size := Nat.lt_of_lt_of_le hb hB.size
        have hbr' : b' < wr.heap.size := Nat.lt_of_lt_of_le hb' hB.size
        clear hB hc hc'
        go_wp2_with fail
        go_region_held3 (fun W => W.cell? ⟨b, off + k * 3, none⟩ = some (.int .i64 (xAt l k).t) ∧ W.cell? ⟨b, off + k * 3 + 1, none⟩ = some (.int .i64 (xAt l k).l) ∧ W.cell? ⟨b, off + k * 3 + 2, none⟩ = some (.int .i64 (xAt l k).v) ∧ W.cell? ⟨b', off' + k * 3, none⟩ = some (.int .i64 (xAt l k).t) ∧ W.cell? ⟨b', off' + k * 3 + 1, none⟩ = some (.int .i64 (xAt l k).l) ∧ W.cell? ⟨b', off' + k * 3 + 2, none⟩ = some (.int .i64 (xAt l k).v)) ((repeat' apply And.intro) <;> first | (go_keep; done) | (rw [hcA _ _ (by first | omega | (simp; omega) | simp [*])]; simp [*]; done))
          (first | (go_at_call 180; refine (eqEmit_same _ _ _ _).mono ?_; rintro e w2 ⟨rfl, hb2⟩; obtain ⟨hcA, hfA⟩ := bcell hb2))
        clear hcA hfA
        go_wp2
        go_roundw
        case rel => exact ⟨k + 1, by omega, by go_num, HB.out.drew.trans (hb2.mono (by have := HB.out.size; simpa using this))⟩
        case measure => simp [intOf]; omega
      · clear hB hc hc'
        go_wp2
        go_ret
        exact ⟨rfl, HB.out⟩
set_option maxHeartbeats 4000000 in
theorem markXF {F : Nat → Prop} {x : Value} {n : Nat} {cs : List Value} {w : World} (z : Int) (hn : n ≤ 1048577) (hz0 : 0 ≤ z) (hz1 : z ≤ 1073741824) (h : RowF F w x n 3 cs) :
    Calls Tryz.prog 110 #[x, .int .i64 z] w fun e w' => e = .returned (.int .i64 (z + 3 * (n : Int))) ∧ RowF F w' x n 3 (mkCells z (n * 3)) ∧ Turns F w w' := by
  obtain ⟨a, cap, rfl, h1, h2, h⟩ := h.mkTo z
  have HM : Hid (n ≤ cap ∧ cap ≤ maxLen) := ⟨h1, h2⟩
  clear h1 h2
  by_cases hz : n = 0
  · subst hz
    clear h
    go_enter Tryz.func110, Tryz.ntmps110
    go_wp2
    go_loop [5, 1] (fun i y => i = .int .i64 0 ∧ y = .int .i64 z) (fun _ _ => 0)
    case atStart => exact ⟨rfl, rfl⟩
    case round =>
      obtain ⟨rfl, rfl⟩ := hrel
      go_wp2
      go_ret
      exact ⟨ret_int (by simp), RowF.nil HM.out.2, Turns.refl _ _⟩
  · obtain ⟨g, rfl, hF, h⟩ := h.resolve_left hz
    have HR0 : Hid (MkTo w g (n * 3) z 0) := h
    have HF : Hid (F g) := hF
    clear h hz hF
    go_enter Tryz.func110, Tryz.ntmps110
    go_wp2
    go_loopw [5, 1] (fun i y wr => ∃ k : Nat, k ≤ n ∧ i = .int .i64 k ∧ y = .int .i64 (z + 3 * (k : Int)) ∧ MkTo wr g (n * 3) z (k * 3) ∧ Turns (fun b => b = g) w wr) (fun i _ _ => n - (intOf i).toNat)
    case atStart => exact ⟨0, Nat.zero_le _, rfl, by simp, by rw [Nat.zero_mul]; exact HR0.out, Turns.refl _ _⟩
    case round =>
      obtain ⟨k, hk, rfl, rfl, hR, hg⟩ := hrel
      have HR : Hid (MkTo wr g (n * 3) z (k * 3)) := hR
      have HG : Hid (Turns (fun b => b = g) w wr) := hg
      clear hR hg
      by_cases hlt : k < n
      · have hh : ∀ j, j < 3 → (∃ u, wr.cell? ⟨g, k * 3 + j, none⟩ = some u) ∧ wr.frozen? ⟨g, k * 3 + j, none⟩ = false := fun j hj => ⟨Option.isSome_iff_exists.1 (HR.out.2.1 _ (by omega)).1, (HR.out.2.1 _ (by omega)).2⟩
        obtain ⟨⟨v0, g0⟩, f0⟩ := hh 0 (by omega)
        obtain ⟨⟨v1, g1⟩, f1⟩ := hh 1 (by omega)
        obtain ⟨⟨v2, g2⟩, f2⟩ := hh 2 (by omega)
        rw [Nat.add_zero] at g0 f0
        clear hh
        obtain ⟨y, hy⟩ : ∃ y : Int, y = z + 3 * (k : Int) := ⟨_, rfl⟩
        have hy0 : 0 ≤ y := by omega
        have hy1 : y ≤ 1090000000 := by omega
        have HY : Hid (y = z + 3 * (k : Int)) := hy
        rw [← hy]
        clear hy
        go_wp2
        go_roundw
        case rel =>
          have hY := HY.out
          refine ⟨k + 1, by omega, by go_num, by rw [show y + 1 + 1 + 1 = z + 3 * ((k + 1 : Nat) : Int) from by omega], ?_, ?_⟩
          · rw [show (k + 1) * 3 = k * 3 + 3 from by omega]
            exact ((HR.out.put (by omega) (u := y) (by omega)).put (by omega) (u := y + 1) (by omega)).put (by omega) (u := y + 1 + 1) (by omega)
          · exact HG.out.trans (((one_add wr g _ _).trans (one_add _ _ _ _)).trans (one_add _ _ _ _))
        case measure => simp [intOf]; omega
      · go_wp2
        go_ret
        obtain rfl : k = n := by omega
        exact ⟨rfl, MkTo.row HR.out HF.out HM.out.1 HM.out.2, HG.out.mono (fun k e => e ▸ HF.out)⟩

set_option maxHeartbeats 4000000 in
theorem heldXF {F : Nat → Prop} {x : Value} {n : Nat} {w : World} (z : Int) (hn : n ≤ 1048577) (hz0 : 0 ≤ z) (hz1 : z ≤ 1073741824) (h : RowF F w x n 3 (mkCells z (n * 3))) :
    Calls Tryz.prog 111 #[x, .int .i64 z] w fun e w' => e = .returned (.int .i64 (z + 3 * (n : Int))) ∧ w' = w := by
  obtain ⟨a, cap, rfl, hm⟩ := h.marked
  clear h
  by_cases hz : n = 0
  · subst hz
    clear hm
    go_enter Tryz.func111, Tryz.ntmps111
    go_wp2
    go_loop [5, 1] (fun i y => i = .int .i64 0 ∧ y = .int .i64 z) (fun _ _ => 0)
    case atStart => exact ⟨rfl, rfl⟩
    case round =>
      obtain ⟨rfl, rfl⟩ := hrel
      go_wp2
      go_ret
      exact ⟨ret_int (by simp), rfl⟩
  · obtain ⟨g, rfl, h⟩ := hm.resolve_left hz
    have HR : Hid (∀ j, j < n * 3 → w.cell? ⟨g, j, none⟩ = some (.int .i64 (z + (j : Int)))) := h
    clear h hz hm
    go_enter Tryz.func111, Tryz.ntmps111
    go_wp2
    go_loop [5, 1] (fun i y => ∃ k : Nat, k ≤ n ∧ i = .int .i64 k ∧ y = .int .i64 (z + 3 * (k : Int))) (fun i _ => n - (intOf i).toNat)
    case atStart => exact ⟨0, Nat.zero_le _, rfl, by simp⟩
    case round =>
      obtain ⟨k, hk, rfl, rfl⟩ := hrel
      by_cases hlt : k < n
      · have hh := fun j (hj : j < 3) => HR.out (k * 3 + j) (by omega)
        obtain ⟨y, hy⟩ : ∃ y : Int, y = z + 3 * (k : Int) := ⟨_, rfl⟩
        have g0 := hh 0 (by omega)
        rw [show z + ((k * 3 + 0 : Nat) : Int) = y from by omega] at g0
        have g1 := hh 1 (by omega)
        rw [show z + ((k * 3 + 1 : Nat) : Int) = y + 1 from by omega] at g1
        have g2 := hh 2 (by omega)
        rw [show z + ((k * 3 + 2 : Nat) : Int) = y + 1 + 1 from by omega] at g2
        rw [Nat.add_zero] at g0
        clear hh
        have hy0 : 0 ≤ y := by omega
        have hy1 : y ≤ 1090000000 := by omega
        have HY : Hid (y = z + 3 * (k : Int)) := hy
        rw [← hy]
        clear hy
        go_wp2
        go_round
        case rel => exact ⟨k + 1, by omega, by go_num, by rw [show y + 1 + 1 + 1 = z + 3 * ((k + 1 : Nat) : Int) from by have := HY.out; omega]⟩
        case measure => simp [intOf]; omega
      · go_wp2
        go_ret
        obtain rfl : k = n := by omega
        exact ⟨rfl, rfl⟩

end Go.Proofs.YtnmcjgkeionjkaaGreat

/- Effects: held against each other, marked, and found again. -/
namespace Go.Proofs.YtnmcjgkeionjkaaGreat
open Go.RowKit
structure SmallE (f : Ef) : Prop where
  r : f.st.r.length ≤ 1048576
  s : f.s.length ≤ 1048576
  x : f.x.length ≤ 1048576
set_option maxHeartbeats 4000000 in
theorem eqEffect_same {F G : Nat → Prop} (x y : Value) (f : Ef) (w : World) (hs : SmallE f) (hx : EfF F w x f) (hy : EfF G w y f) :
    Calls Tryz.prog 38 #[x, y] w fun e w' => e = .returned (.bool true) ∧ Below w.heap.size w w' := by
  obtain ⟨_, _, _, vr, us, ux, rfl, h1, h2, h3, _⟩ := hx
  obtain ⟨_, _, _, vr', us', ux', rfl, k1, k2, k3, _⟩ := hy
  obtain ⟨⟨r, q, d⟩, s, x, k⟩ := f
  have HI : Hid (IsS w (.agg #[vr, .int .i64 q, .int .i64 d]) ⟨r, q, d⟩ ∧ IsS w (.agg #[vr', .int .i64 q, .int .i64 d]) ⟨r, q, d⟩) := ⟨⟨vr, rfl, h1.isI⟩, ⟨vr', rfl, k1.isI⟩⟩
  have HE : Hid (IsEvs w us s ∧ IsEvs w us' s) := ⟨h2.isEvs, k2.isEvs⟩
  have HX : Hid (IsX w ux x ∧ IsX w ux' x) := ⟨h3.isX, k3.isX⟩
  have HS : Hid (SmallE ⟨⟨r, q, d⟩, s, x, k⟩) := hs
  clear h1 h2 h3 k1 k2 k3 hs
  obtain ⟨W0, hW0⟩ : ∃ W0, (w.alloc (.cells #[vr, .int .i64 q, .int .i64 d, us, ux, .int .i64 k] 69)).alloc (.cells #[vr', .int .i64 q, .int .i64 d, us', ux', .int .i64 k] 69) = W0 := ⟨_, rfl⟩
  have HB0 : Hid (Below w.heap.size w W0) := by rw [← hW0]; exact ((Below.refl _ w).alloc (Nat.le_refl _) _).alloc (by simp) _
  have HP0 : Hid (Bk W0 w.heap.size 69 #[vr, .int .i64 q, .int .i64 d, us, ux, .int .i64 k]) := by rw [← hW0]; exact (Bk.new w _ _).alloc _
  have HQ0 : Hid (Bk W0 (w.heap.size + 1) 69 #[vr', .int .i64 q, .int .i64 d, us', ux', .int .i64 k]) := by rw [← hW0]; exact Bk.newAt (by simp) _ _
  have p0 := HP0.out.cell (i := 0) rfl
  have p1 := HP0.out.cell (i := 1) rfl
  have p2 := HP0.out.cell (i := 2) rfl
  have q0 := HQ0.out.cell (i := 0) rfl
  have q1 := HQ0.out.cell (i := 1) rfl
  have q2 := HQ0.out.cell (i := 2) rfl
  go_enter Tryz.func38, Tryz.ntmps38
  go_wp2_with fail
  clear p0 p1 p2 q0 q1 q2 hW0
  refine (eqState_same _ _ ⟨r, q, d⟩ _ HS.out.r (HI.out.1.below HB0.out) (HI.out.2.below HB0.out)).mono ?_
  rintro e w1 ⟨rfl, hb⟩
  have HB1 : Hid (Below w.heap.size w w1) := HB0.out.trans (hb.mono HB0.out.size)
  have HP1 : Hid (Bk w1 w.heap.size 69 #[vr, .int .i64 q, .int .i64 d, us, ux, .int .i64 k]) := HP0.out.below hb
  have HQ1 : Hid (Bk w1 (w.heap.size + 1) 69 #[vr', .int .i64 q, .int .i64 d, us', ux', .int .i64 k]) := HQ0.out.below hb
  have p3 := HP1.out.cell (i := 3) rfl
  have q3 := HQ1.out.cell (i := 3) rfl
  clear hb HB0 HP0 HQ0
  go_wp2_with fail
  clear p3 q3
  refine (eqS_same _ _ s _ HS.out.s (HE.out.1.below HB1.out) (HE.out.2.below HB1.out)).mono ?_
  rintro e w2 ⟨rfl, hb⟩
  have HB2 : Hid (Below w.heap.size w w2) := HB1.out.trans (hb.mono HB1.out.size)
  have HP2 : Hid (Bk w2 w.heap.size 69 #[vr, .int .i64 q, .int .i64 d, us, ux, .int .i64 k]) := HP1.out.below hb
  have HQ2 : Hid (Bk w2 (w.heap.size + 1) 69 #[vr', .int .i64 q, .int .i64 d, us', ux', .int .i64 k]) := HQ1.out.below hb
  have p4 := HP2.out.cell (i := 4) rfl
  have q4 := HQ2.out.cell (i := 4) rfl
  clear hb HB1 HP1 HQ1
  go_wp2_with fail
  clear p4 q4
  refine (eqX_same _ _ x _ HS.out.x (HX.out.1.below HB2.out) (HX.out.2.below HB2.out)).mono ?_
  rintro e w3 ⟨rfl, hb⟩
  have HB3 : Hid (Below w.heap.size w w3) := HB2.out.trans (hb.mono HB2.out.size)
  have p5 := (HP2.out.below hb).cell (i := 5) rfl
  have q5 := (HQ2.out.below hb).cell (i := 5) rfl
  clear hb HB2 HP2 HQ2
  go_wp2
  go_ret
  exact ⟨rfl, HB3.out⟩
/- The marks that heldEffect finds again. -/
def HeldE (F : Nat → Prop) (w : World) (y : Value) (f : Ef) : Prop :=
  ∃ (A B C : Nat → Prop) (vr us ux : Value), y = .agg #[vr, .int .i64 f.st.q, .int .i64 f.st.d, us, ux, .int .i64 f.k] ∧ RowF A w vr f.st.r.length 1 (mkCells 1 (f.st.r.length * 1)) ∧ RowF B w us f.s.length 7 (mkCells (1 + (f.st.r.length : Int)) (f.s.length * 7)) ∧
    RowF C w ux f.x.length 3 (mkCells (1 + (f.st.r.length : Int) + 7 * (f.s.length : Int)) (f.x.length * 3)) ∧ (∀ k, A k → F k ∧ ¬ B k ∧ ¬ C k) ∧ (∀ k, B k → F k ∧ ¬ C k) ∧ ∀ k, C k → F k
theorem HeldE.turns {F S : Nat → Prop} {w w' : World} {x : Value} {f : Ef} (h : HeldE F w x f) (ht : Turns S w w') (hS : ∀ k, F k → ¬ S k) : HeldE F w' x f := by
  obtain ⟨A, B, C, vr, us, ux, rfl, h1, h2, h3, h4, h5, h6⟩ := h
  exact ⟨A, B, C, vr, us, ux, rfl, h1.turns ht (fun k hk => hS k (h4 k hk).1), h2.turns ht (fun k hk => hS k (h5 k hk).1), h3.turns ht (fun k hk => hS k (h6 k hk)), h4, h5, h6⟩
theorem HeldE.below {F : Nat → Prop} {w w' : World} {x : Value} {f : Ef} (h : HeldE F w x f) (hb : Below w.heap.size w w') : HeldE F w' x f :=
  h.turns (S := fun _ => False) (Turns.of_below hb) (fun _ _ => id)
def markE (f : Ef) : Int := 1 + (f.st.r.length : Int) + 7 * (f.s.length : Int) + 3 * (f.x.length : Int)
theorem markE_pos (f : Ef) : 1 ≤ markE f := by unfold markE; omega
set_option maxHeartbeats 4000000 in
theorem markEffect_any {F : Nat → Prop} {x : Value} {f : Ef} {w : World} (hs : SmallE f) (h : EfF F w x f) (hF : ∀ k, F k → k < w.heap.size) :
    Calls Tryz.prog 41 #[x, .int .i64 1] w fun e w' => e = .returned (.int .i64 (markE f)) ∧ HeldE F w' x f ∧ Turns F w w' := by
  obtain ⟨A, B, C, vr, us, ux, rfl, h1, h2, h3, h4, h5, h6⟩ := h
  obtain ⟨⟨r, q, d⟩, s, x, k⟩ := f
  have HI : Hid (RowF A w vr r.length 1 (intCells r)) := h1
  have HE : Hid (RowF B w us s.length 7 (cellsL s)) := h2
  have HX : Hid (RowF C w ux x.length 3 (cellsX x)) := h3
  have HF : Hid ((∀ k, F k → k < w.heap.size) ∧ (∀ k, A k → F k ∧ ¬ B k ∧ ¬ C k) ∧ (∀ k, B k → F k ∧ ¬ C k) ∧ ∀ k, C k → F k) := ⟨hF, h4, h5, h6⟩
  have hr : r.length ≤ 1048576 := hs.r
  have he : s.length ≤ 1048576 := hs.s
  have hx : x.length ≤ 1048576 := hs.x
  clear h1 h2 h3 h4 h5 h6 hs hF
  obtain ⟨W0, hW0⟩ : ∃ W0, w.alloc (.cells #[vr, .int .i64 q, .int .i64 d, us, ux, .int .i64 k] 69) = W0 := ⟨_, rfl⟩
  have HB0 : Hid (Below w.heap.size w W0) := by rw [← hW0]; exact (Below.refl _ w).alloc (Nat.le_refl _) _
  have HP0 : Hid (Bk W0 w.heap.size 69 #[vr, .int .i64 q, .int .i64 d, us, ux, .int .i64 k]) := by rw [← hW0]; exact Bk.new w _ _
  have p0 := HP0.out.cell (i := 0) rfl
  have p1 := HP0.out.cell (i := 1) rfl
  have p2 := HP0.out.cell (i := 2) rfl
  go_enter Tryz.func41, Tryz.ntmps41
  go_wp2_with fail
  clear p0 p1 p2 hW0
  refine (markState_any (F := A) (s := ⟨r, q, d⟩) 1 (by show r.length ≤ 1048577; omega) (by omega) (by omega) ⟨vr, rfl, HI.out.below HB0.out⟩).mono ?_
  rintro e w1 ⟨rfl, ⟨vr', hvr, hr1⟩, ht⟩
  obtain rfl : vr = vr' := by simpa using hvr
  have HT1 : Hid (Turns F W0 w1) := ht.mono (fun k hk => (HF.out.2.1 k hk).1)
  have HI1 : Hid (RowF A w1 vr r.length 1 (mkCells 1 (r.length * 1))) := hr1
  have HE1 : Hid (RowF B w1 us s.length 7 (cellsL s)) := (HE.out.below HB0.out).turns ht (fun k hk ha => (HF.out.2.1 k ha).2.1 hk)
  have HX1 : Hid (RowF C w1 ux x.length 3 (cellsX x)) := (HX.out.below HB0.out).turns ht (fun k hk ha => (HF.out.2.1 k ha).2.2 hk)
  have HP1 : Hid (Bk w1 w.heap.size 69 #[vr, .int .i64 q, .int .i64 d, us, ux, .int .i64 k]) := HP0.out.turns HT1.out (fun hk => by have := HF.out.1 _ hk; omega)
  have p3 := HP1.out.cell (i := 3) rfl
  clear hr1 ht hvr HI HE HX HP0
  go_wp2_with fail
  clear p3
  refine (markEF (F := B) (1 + (r.length : Int)) (by omega) (by omega) (by omega) HE1.out).mono ?_
  rintro e w2 ⟨rfl, hr2, ht⟩
  have HT2 : Hid (Turns F W0 w2) := HT1.out.trans (ht.mono (fun k hk => (HF.out.2.2.1 k hk).1))
  have HI2 : Hid (RowF A w2 vr r.length 1 (mkCells 1 (r.length * 1))) := HI1.out.turns ht (fun k hk hb => (HF.out.2.1 k hk).2.1 hb)
  have HE2 : Hid (RowF B w2 us s.length 7 (mkCells (1 + (r.length : Int)) (s.length * 7))) := hr2
  have HX2 : Hid (RowF C w2 ux x.length 3 (cellsX x)) := HX1.out.turns ht (fun k hk hb => (HF.out.2.2.1 k hb).2 hk)
  have HP2 : Hid (Bk w2 w.heap.size 69 #[vr, .int .i64 q, .int .i64 d, us, ux, .int .i64 k]) := HP1.out.turns ht (fun hk => by have := HF.out.1 _ (HF.out.2.2.1 _ hk).1; omega)
  have p4 := HP2.out.cell (i := 4) rfl
  clear hr2 ht HI1 HE1 HX1 HP1 HT1
  go_wp2_with fail
  clear p4
  refine (markXF (F := C) (1 + (r.length : Int) + 7 * (s.length : Int)) (by omega) (by omega) (by omega) HX2.out).mono ?_
  rintro e w3 ⟨rfl, hr3, ht⟩
  have HT3 : Hid (Turns F W0 w3) := HT2.out.trans (ht.mono (fun k hk => HF.out.2.2.2 k hk))
  have HI3 : Hid (RowF A w3 vr r.length 1 (mkCells 1 (r.length * 1))) := HI2.out.turns ht (fun k hk hc => (HF.out.2.1 k hk).2.2 hc)
  have HE3 : Hid (RowF B w3 us s.length 7 (mkCells (1 + (r.length : Int)) (s.length * 7))) := HE2.out.turns ht (fun k hk hc => (HF.out.2.2.1 k hk).2 hc)
  have HX3 : Hid (RowF C w3 ux x.length 3 (mkCells (1 + (r.length : Int) + 7 * (s.length : Int)) (x.length * 3))) := hr3
  clear hr3 ht HI2 HE2 HX2 HP2 HT2
  go_wp2
  go_ret
  exact ⟨rfl, ⟨A, B, C, vr, us, ux, rfl, HI3.out, HE3.out, HX3.out, HF.out.2⟩, (Turns.of_below HB0.out).trans HT3.out⟩
set_option maxHeartbeats 4000000 in
theorem heldEffect_any {F : Nat → Prop} {x : Value} {f : Ef} {w : World} (hs : SmallE f) (h : HeldE F w x f) :
    Calls Tryz.prog 42 #[x, .int .i64 1] w fun e w' => e = .returned (.int .i64 (markE f)) ∧ Below w.heap.size w w' := by
  obtain ⟨A, B, C, vr, us, ux, rfl, h1, h2, h3, _⟩ := h
  obtain ⟨⟨r, q, d⟩, s, x, k⟩ := f
  have HI : Hid (RowF A w vr r.length 1 (mkCells 1 (r.length * 1))) := h1
  have HE : Hid (RowF B w us s.length 7 (mkCells (1 + (r.length : Int)) (s.length * 7))) := h2
  have HX : Hid (RowF C w ux x.length 3 (mkCells (1 + (r.length : Int) + 7 * (s.length : Int)) (x.length * 3))) := h3
  have hr : r.length ≤ 1048576 := hs.r
  have he : s.length ≤ 1048576 := hs.s
  have hx : x.length ≤ 1048576 := hs.x
  clear h1 h2 h3 hs
  obtain ⟨W0, hW0⟩ : ∃ W0, w.alloc (.cells #[vr, .int .i64 q, .int .i64 d, us, ux, .int .i64 k] 69) = W0 := ⟨_, rfl⟩
  have HB0 : Hid (Below w.heap.size w W0) := by rw [← hW0]; exact (Below.refl _ w).alloc (Nat.le_refl _) _
  have HP0 : Hid (Bk W0 w.heap.size 69 #[vr, .int .i64 q, .int .i64 d, us, ux, .int .i64 k]) := by rw [← hW0]; exact Bk.new w _ _
  have p0 := HP0.out.cell (i := 0) rfl
  have p1 := HP0.out.cell (i := 1) rfl
  have p2 := HP0.out.cell (i := 2) rfl
  have n1 : ¬ (1 + (r.length : Int) < 0) := by omega
  have n2 : ¬ (1 + (r.length : Int) + 7 * (s.length : Int) < 0) := by omega
  have n3 : ¬ (1 + (r.length : Int) + 7 * (s.length : Int) + 3 * (x.length : Int) < 0) := by omega
  go_enter Tryz.func42, Tryz.ntmps42
  go_wp2_with fail
  clear p0 p1 p2 hW0
  refine (heldState_any (F := A) (s := ⟨r, q, d⟩) 1 (by show r.length ≤ 1048577; omega) (by omega) (by omega) ⟨vr, rfl, HI.out.below HB0.out⟩).mono ?_
  rintro e w1 ⟨rfl, hb⟩
  have HB1 : Hid (Below w.heap.size w w1) := HB0.out.trans (hb.mono HB0.out.size)
  have p3 := (HP0.out.below hb).cell (i := 3) rfl
  have p4 := (HP0.out.below hb).cell (i := 4) rfl
  clear hb HB0 HP0
  go_wp2_with fail
  refine (heldEF (F := B) (1 + (r.length : Int)) (by omega) (by omega) (by omega) (HE.out.below HB1.out)).mono ?_
  rintro e w' ⟨rfl, hw⟩
  have hw' := hw.symm
  clear hw
  subst hw'
  go_wp2_with fail
  refine (heldXF (F := C) (1 + (r.length : Int) + 7 * (s.length : Int)) (by omega) (by omega) (by omega) (HX.out.below HB1.out)).mono ?_
  rintro e w' ⟨rfl, hw⟩
  have hw' := hw.symm
  clear hw
  subst hw'
  go_wp2
  go_ret
  exact ⟨rfl, HB1.out⟩
end Go.Proofs.YtnmcjgkeionjkaaGreat

/- How long the lists of an effect can be. -/
namespace Go.Proofs.YtnmcjgkeionjkaaGreat
open Go.RowKit
theorem step_len (sd : Int) (v : List Int) (e : Ev) (o : O) (t : Tn) : (stepO sd v e o t).s.length ≤ t.s.length + 1 ∧ (stepO sd v e o t).x.length ≤ t.x.length + 1 := by
  have hp : ∀ i z, (t.put i z).s = t.s ∧ (t.put i z).x = t.x := fun i z => by unfold Tn.put; split <;> exact ⟨rfl, rfl⟩
  unfold stepO
  repeat' split
  all_goals simp [hp]
theorem run_len (sd : Int) (v : List Int) (e : Ev) (l : List O) : ∀ (f i : Nat) (t t' : Tn), run sd v e l f i t = .done t' → t'.s.length ≤ t.s.length + f ∧ t'.x.length ≤ t.x.length + f
  | 0, i, t, t', h => by
    simp only [run, Res.done.injEq] at h
    subst h
    exact ⟨by omega, by omega⟩
  | f + 1, i, t, t', h => by
    unfold run at h
    split at h
    · split at h
      · cases h
      · have h1 := run_len sd v e l f _ _ _ h
        have h2 := step_len sd v e (oAt l i) t
        omega
    · simp only [Res.done.injEq] at h
      subst h
      exact ⟨by omega, by omega⟩
theorem hand_small (m : Md) (l : List Int) (s : St) (e : Ev) : SmallE (handR m l s e) := by
  unfold handR
  split
  · rename_i hb
    simp only [handB, Bool.and_eq_true] at hb
    have hk := ev_nums hb.2.2.2.1
    have hf : fitB m e.t e.d e.k = true := hb.2.2.2.2
    simp [fitB] at hf
    have hrow := (ok_row hb.1 (j := e.k.toNat) (by omega)).1
    unfold effR
    cases hr : run m.s l e (hAt m.h e.k.toNat) (hAt m.h e.k.toNat).length 0 (startT s) with
    | asks k => exact ⟨by simp [resE], by simp [resE], by simp [resE]⟩
    | done t =>
      have h1 := run_len _ _ _ _ _ _ _ _ hr
      have h2 : (startT s).s.length = 0 := rfl
      have h3 : (startT s).x.length = 0 := rfl
      exact ⟨by simp [resE, Tn.ef], by show t.s.length ≤ _; omega, by show t.x.length ≤ _; omega⟩
  · exact ⟨by simp [zeroE], by simp [zeroE], by simp [zeroE]⟩
theorem markNo_high {m : Md} (h : SmallM m) : markNo m ≤ 1000000000 := by
  have h1 := h.i
  have h2 := h.t
  have h3 := h.e
  unfold markNo
  omega
end Go.Proofs.YtnmcjgkeionjkaaGreat

