/- CIns, XEm -/
import Derived.Test.YtmpoffepoafblaaGreatExactSequenceLInsC
import Derived.Test.YtmpoffepoafblaaGreatExactSequenceG24
import Derived.Test.YtmpoffepoafblaaGreatExactSequenceG06
import Derived.Deep.RegionHeld3
/- The specification's l3bare and l3insert. -/
namespace Go.Proofs.YtmpoffepoafblaaGreat
open Go.RowKit
set_option maxRecDepth 100000 in
set_option maxHeartbeats 4000000 in
theorem bare_any (e : Ev) (w : World) :
    Calls Tryz.prog 143 #[.agg #[.int .i64 e.t, .int .i64 e.s, .int .i64 e.q, .int .i64 e.d, .int .i64 e.k, .int .i64 e.v, .int .i64 e.g]] w fun r w' => r = .returned e.bare.val ∧ Below w.heap.size w w' := by
  obtain ⟨t, s, q, d, k, v, g⟩ := e
  go_enter Tryz.func143, Tryz.ntmps143
  go_wp2
  have hB : Below w.heap.size w ((w.alloc (.cells #[.int .i64 t, .int .i64 s, .int .i64 q, .int .i64 d, .int .i64 k, .int .i64 v, .int .i64 0] 50)).alloc (.cells #[.int .i64 t, .int .i64 s, .int .i64 q, .int .i64 d, .int .i64 k, .int .i64 v, .int .i64 0] 50)) := ((Below.refl _ w).alloc (Nat.le_refl _) _).alloc (by simp) _
  refine bodyPost_ret (v := .agg #[.int .i64 t, .int .i64 s, .int .i64 q, .int .i64 d, .int .i64 k, .int .i64 v, .int .i64 0]) (by simp [results, Tryz.results143, go_sem]) rfl ⟨rfl, hB⟩
theorem OwnR.capsC {B : Nat} {w : World} {x : Value} {l : List Ev} (h : OwnR B w x l) : (x = .slice none 0 0 ∧ l = []) ∨ ∃ g cap, x = .slice (some ⟨g, 0, none⟩) l.length cap ∧ l.length ≤ cap ∧ cap ≤ maxLen ∧ EvsAt w g 0 l ∧ B ≤ g := by
  have h' := h
  obtain ⟨h0, ⟨e, h1⟩ | ⟨g, cap, cur, e, hg, hc, h1, h2, h3, h4⟩⟩ := h
  · exact .inl ⟨e, List.eq_nil_of_length_eq_zero h1⟩
  · subst e
    rcases h'.src with ⟨e, _⟩ | ⟨b, off, cap', e, he⟩
    · cases e
    · cases e
      exact .inr ⟨g, cap, rfl, h1, h2, he, hg⟩
theorem insert_own {B : Nat} {x : Value} {l : List Ev} (e : Ev) (w : World) (hl : l.length ≤ 1048576) (h : OwnR B w x l) :
    Calls Tryz.prog 165 #[x, e.val] w fun r w' => ∃ y, r = .returned y ∧ OwnR w.heap.size w' y (insO l e) ∧ Below w.heap.size w w' := by
  rcases h.capsC with ⟨rfl, rfl⟩ | ⟨g, cap, rfl, hc, _, hI, _⟩
  · exact insert_nil_row e w
  · refine (insert_row g 0 cap l e w hc hl hI).mono ?_
    rintro r w' ⟨p, y, rfl, hp, ho, hb⟩
    rw [insO_of hp] at ho
    exact ⟨y, rfl, ho, hb⟩
set_option maxRecDepth 100000 in
set_option maxHeartbeats 4000000 in
theorem l3insert_own {B : Nat} {x : Value} {l : List Ev} (e : Ev) (w : World) (hl : l.length ≤ 1048576) (h : OwnR B w x l) :
    Calls Tryz.prog 142 #[x, .agg #[.int .i64 e.t, .int .i64 e.s, .int .i64 e.q, .int .i64 e.d, .int .i64 e.k, .int .i64 e.v, .int .i64 e.g]] w fun r w' => ∃ y, r = .returned y ∧ OwnR w.heap.size w' y (insO l e) ∧ Below w.heap.size w w' := by
  obtain ⟨W0, hW0⟩ : ∃ W0, w.alloc (.cells #[.int .i64 e.t, .int .i64 e.s, .int .i64 e.q, .int .i64 e.d, .int .i64 e.k, .int .i64 e.v, .int .i64 e.g] 50) = W0 := ⟨_, rfl⟩
  have HB0 : Hid (Below w.heap.size w W0) := by rw [← hW0]; exact (Below.refl _ w).alloc (Nat.le_refl _) _
  have hs0 : W0.heap.size = w.heap.size + 1 := by rw [← hW0]; simp
  have HC : Hid (Calls Tryz.prog 165 #[x, .agg #[.int .i64 e.t, .int .i64 e.s, .int .i64 e.q, .int .i64 e.d, .int .i64 e.k, .int .i64 e.v, .int .i64 e.g]] W0 fun r w' => ∃ y, r = .returned y ∧ OwnR W0.heap.size w' y (insO l e) ∧ Below W0.heap.size W0 w') := insert_own e W0 hl (h.below HB0.out)
  have he0 : Ev.In W0 w.heap.size 0 e := by rw [← hW0]; exact EvAt.new _ _ _ _ _ _ _ _ _
  obtain ⟨q0, q1, q2, q3, q4, q5, q6⟩ := he0.lits
  clear he0
  go_enter Tryz.func142, Tryz.ntmps142
  go_wp2_with (fail)
  refine HC.out.mono ?_
  rintro r w1 ⟨y, rfl, ho, hb⟩
  have HO : Hid (OwnR w.heap.size w1 y (insO l e)) := ho.mono (by omega)
  have HB : Hid (Below w.heap.size w w1) := HB0.out.trans (hb.mono (by omega))
  clear ho hb hW0 HC HB0 q0 q1 q2 q3 q4 q5 q6
  go_wp2
  go_ret
  exact ⟨y, rfl, HO.out, HB.out⟩
end Go.Proofs.YtmpoffepoafblaaGreat

/- Emits: how they are read, held against each other, marked, and found again. -/
namespace Go.Proofs.YtmpoffepoafblaaGreat
open Go.RowKit
structure XAt (w : World) (b o : Nat) (e : Em) : Prop where
  f0 : w.cell? ⟨b, o, none⟩ = some (.int .i64 e.t)
  f1 : w.cell? ⟨b, o + 1, none⟩ = some (.int .i64 e.l)
  f2 : w.cell? ⟨b, o + 2, none⟩ = some (.int .i64 e.v)
theorem XAt.below {w w' : World} {B b o : Nat} {e : Em} (h : XAt w b o e) (hb : Below B w w') (hlt : b < B) : XAt w' b o e :=
  ⟨(hb.cell hlt).trans h.f0, (hb.cell hlt).trans h.f1, (hb.cell hlt).trans h.f2⟩
def XsAt (w : World) (b off : Nat) (l : List Em) : Prop := b < w.heap.size ∧ ∀ i, i < l.length → XAt w b (off + i * 3) (xAt l i)
def IsX (w : World) (x : Value) (l : List Em) : Prop := ∃ a cap, x = .slice a l.length cap ∧ l.length ≤ cap ∧ cap ≤ maxLen ∧ (l = [] ∨ ∃ b off, a = some ⟨b, off, none⟩ ∧ XsAt w b off l)
theorem XsAt.below {w w' : World} {B b off : Nat} {l : List Em} (h : XsAt w b off l) (hb : Below B w w') (hB : b < B) : XsAt w' b off l :=
  ⟨Nat.lt_of_lt_of_le h.1 hb.size, fun i hi => (h.2 i hi).below hb hB⟩
theorem IsX.below {w w' : World} {x : Value} {l : List Em} (h : IsX w x l) (hb : Below w.heap.size w w') : IsX w' x l := by
  obtain ⟨a, cap, rfl, h1, h2, h⟩ := h
  exact ⟨a, cap, rfl, h1, h2, h.imp id (fun ⟨b, off, e, h⟩ => ⟨b, off, e, h.below hb h.1⟩)⟩
theorem RowF.isX {F : Nat → Prop} {w : World} {x : Value} {l : List Em} (h : RowF F w x l.length 3 (cellsX l)) : IsX w x l := by
  obtain ⟨hl, a, cap, rfl, h1, h2, h⟩ := h
  refine ⟨a, cap, rfl, h1, h2, h.imp List.eq_nil_of_length_eq_zero ?_⟩
  rintro ⟨g, rfl, hF, hg, hc⟩
  refine ⟨g, 0, rfl, hg, fun i hi => ?_⟩
  have hget : ∀ r, r < 3 → w.cell? ⟨g, 0 + i * 3 + r, none⟩ = (xAt l i).cs[r]? := fun r hr => by
    rw [← cellsX_get l i r hi hr, Nat.zero_add]
    exact (hc _ (by omega)).1
  exact ⟨hget 0 (by omega), hget 1 (by omega), hget 2 (by omega)⟩
set_option maxHeartbeats 1000000 in
theorem eqEmit_same (t l v : Int) (w : World) :
    Calls Tryz.prog 153 #[.agg #[.int .i64 t, .int .i64 l, .int .i64 v], .agg #[.int .i64 t, .int .i64 l, .int .i64 v]] w fun e w' => e = .returned (.bool true) ∧ Below w.heap.size w w' := by
  go_enter Tryz.func153, Tryz.ntmps153
  go_wp2
  go_ret
  exact ⟨rfl, ((Below.refl _ _).alloc (Nat.le_refl _) _).alloc (by simp) _⟩
set_option maxHeartbeats 1000000 in
theorem eqX_same (x y : Value) (l : List Em) (w : World) (hl : l.length ≤ 1048576) (hx : IsX w x l) (hy : IsX w y l) :
    Calls Tryz.prog 72 #[x, y] w fun e w' => e = .returned (.bool true) ∧ Below w.heap.size w w' := by
  obtain ⟨a, cap, rfl, h1, h2, h⟩ := hx
  obtain ⟨a', cap', rfl, h1', h2', h'⟩ := hy
  clear h1 h2 h1' h2'
  by_cases hz : l = []
  · subst hz
    clear h h'
    go_enter Tryz.func72, Tryz.ntmps72
    go_wp2
    go_loop [5] (fun i => i = .int .i64 0) (fun _ => 0)
    case atStart => rfl
    case round =>
      subst hrel
      go_wp2
      go_ret
      exact ⟨rfl, Below.refl _ _⟩
  · obtain ⟨b, off, rfl, hb, hc⟩ := h.resolve_left hz
    obtain ⟨b', off', rfl, hb', hc'⟩ := h'.resolve_left hz
    clear h h' hz
    go_enter Tryz.func72, Tryz.ntmps72
    go_wp2
    go_loopw [5] (fun i wr => ∃ k : Nat, k ≤ l.length ∧ i = .int .i64 k ∧ Below w.heap.size w wr) (fun i _ => l.length - (intOf i).toNat)
    case atStart => exact ⟨0, Nat.zero_le _, rfl, Below.refl _ _⟩
    case round =>
      obtain ⟨k, hk, rfl, hB⟩ := hrel
      have HB : Hid (Below w.heap.size w wr) := hB
      by_cases hlt : k < l.length
      · obtain ⟨f0, f1, f2⟩ := (hc k hlt).below hB hb
        obtain ⟨e0, e1, e2⟩ := (hc' k hlt).below hB hb'
        have hbr : b < wr.heap.size := Nat.lt_of_lt_of_le hb hB.size
        have hbr' : b' < wr.heap.size := Nat.lt_of_lt_of_le hb' hB.size
        clear hB hc hc'
        go_wp2_with fail
        go_region_held3 (fun W => W.cell? ⟨b, off + k * 3, none⟩ = some (.int .i64 (xAt l k).t) ∧ W.cell? ⟨b, off + k * 3 + 1, none⟩ = some (.int .i64 (xAt l k).l) ∧ W.cell? ⟨b, off + k * 3 + 2, none⟩ = some (.int .i64 (xAt l k).v) ∧ W.cell? ⟨b', off' + k * 3, none⟩ = some (.int .i64 (xAt l k).t) ∧ W.cell? ⟨b', off' + k * 3 + 1, none⟩ = some (.int .i64 (xAt l k).l) ∧ W.cell? ⟨b', off' + k * 3 + 2, none⟩ = some (.int .i64 (xAt l k).v)) ((repeat' apply And.intro) <;> first | (go_keep; done) | (rw [hcA _ _ (by first | omega | (simp; omega) | simp [*])]; simp [*]; done))
          (first | (go_at_call 153; refine (eqEmit_same _ _ _ _).mono ?_; rintro e w2 ⟨rfl, hb2⟩; obtain ⟨hcA, hfA⟩ := bcell hb2))
        clear hcA hfA
        go_wp2
        go_roundw
        case rel => exact ⟨k + 1, by omega, by go_num, HB.out.drew.trans (hb2.mono (by have := HB.out.size; simpa using this))⟩
        case measure => simp [intOf]; omega
      · clear hB hc hc'
        go_wp2
        go_ret
        exact ⟨rfl, HB.out⟩
set_option maxHeartbeats 4000000 in
theorem markXF {F : Nat → Prop} {x : Value} {n : Nat} {cs : List Value} {w : World} (z : Int) (hn : n ≤ 1048577) (hz0 : 0 ≤ z) (hz1 : z ≤ 1073741824) (h : RowF F w x n 3 cs) :
    Calls Tryz.prog 75 #[x, .int .i64 z] w fun e w' => e = .returned (.int .i64 (z + 3 * (n : Int))) ∧ RowF F w' x n 3 (mkCells z (n * 3)) ∧ Turns F w w' := by
  obtain ⟨a, cap, rfl, h1, h2, h⟩ := h.mkTo z
  have HM : Hid (n ≤ cap ∧ cap ≤ maxLen) := ⟨h1, h2⟩
  clear h1 h2
  by_cases hz : n = 0
  · subst hz
    clear h
    go_enter Tryz.func75, Tryz.ntmps75
    go_wp2
    go_loop [5, 1] (fun i y => i = .int .i64 0 ∧ y = .int .i64 z) (fun _ _ => 0)
    case atStart => exact ⟨rfl, rfl⟩
    case round =>
      obtain ⟨rfl, rfl⟩ := hrel
      go_wp2
      go_ret
      exact ⟨ret_int (by simp), RowF.nil HM.out.2, Turns.refl _ _⟩
  · obtain ⟨g, rfl, hF, h⟩ := h.resolve_left hz
    have HR0 : Hid (MkTo w g (n * 3) z 0) := h
    have HF : Hid (F g) := hF
    clear h hz hF
    go_enter Tryz.func75, Tryz.ntmps75
    go_wp2
    go_loopw [5, 1] (fun i y wr => ∃ k : Nat, k ≤ n ∧ i = .int .i64 k ∧ y = .int .i64 (z + 3 * (k : Int)) ∧ MkTo wr g (n * 3) z (k * 3) ∧ Turns (fun b => b = g) w wr) (fun i _ _ => n - (intOf i).toNat)
    case atStart => exact ⟨0, Nat.zero_le _, rfl, by simp, by rw [Nat.zero_mul]; exact HR0.out, Turns.refl _ _⟩
    case round =>
      obtain ⟨k, hk, rfl, rfl, hR, hg⟩ := hrel
      have HR : Hid (MkTo wr g (n * 3) z (k * 3)) := hR
      have HG : Hid (Turns (fun b => b = g) w wr) := hg
      clear hR hg
      by_cases hlt : k < n
      · have hh : ∀ j, j < 3 → (∃ u, wr.cell? ⟨g, k * 3 + j, none⟩ = some u) ∧ wr.frozen? ⟨g, k * 3 + j, none⟩ = false := fun j hj => ⟨Option.isSome_iff_exists.1 (HR.out.2.1 _ (by omega)).1, (HR.out.2.1 _ (by omega)).2⟩
        obtain ⟨⟨v0, g0⟩, f0⟩ := hh 0 (by omega)
        obtain ⟨⟨v1, g1⟩, f1⟩ := hh 1 (by omega)
        obtain ⟨⟨v2, g2⟩, f2⟩ := hh 2 (by omega)
        rw [Nat.add_zero] at g0 f0
        clear hh
        obtain ⟨y, hy⟩ : ∃ y : Int, y = z + 3 * (k : Int) := ⟨_, rfl⟩
        have hy0 : 0 ≤ y := by omega
        have hy1 : y ≤ 1090000000 := by omega
        have HY : Hid (y = z + 3 * (k : Int)) := hy
        rw [← hy]
        clear hy
        go_wp2
        go_roundw
        case rel =>
          have hY := HY.out
          refine ⟨k + 1, by omega, by go_num, by rw [show y + 1 + 1 + 1 = z + 3 * ((k + 1 : Nat) : Int) from by omega], ?_, ?_⟩
          · rw [show (k + 1) * 3 = k * 3 + 3 from by omega]
            exact ((HR.out.put (by omega) (u := y) (by omega)).put (by omega) (u := y + 1) (by omega)).put (by omega) (u := y + 1 + 1) (by omega)
          · exact HG.out.trans (((one_add wr g _ _).trans (one_add _ _ _ _)).trans (one_add _ _ _ _))
        case measure => simp [intOf]; omega
      · go_wp2
        go_ret
        obtain rfl : k = n := by omega
        exact ⟨rfl, MkTo.row HR.out HF.out HM.out.1 HM.out.2, HG.out.mono (fun k e => e ▸ HF.out)⟩

set_option maxHeartbeats 4000000 in
theorem heldXF {F : Nat → Prop} {x : Value} {n : Nat} {w : World} (z : Int) (hn : n ≤ 1048577) (hz0 : 0 ≤ z) (hz1 : z ≤ 1073741824) (h : RowF F w x n 3 (mkCells z (n * 3))) :
    Calls Tryz.prog 76 #[x, .int .i64 z] w fun e w' => e = .returned (.int .i64 (z + 3 * (n : Int))) ∧ w' = w := by
  obtain ⟨a, cap, rfl, hm⟩ := h.marked
  clear h
  by_cases hz : n = 0
  · subst hz
    clear hm
    go_enter Tryz.func76, Tryz.ntmps76
    go_wp2
    go_loop [5, 1] (fun i y => i = .int .i64 0 ∧ y = .int .i64 z) (fun _ _ => 0)
    case atStart => exact ⟨rfl, rfl⟩
    case round =>
      obtain ⟨rfl, rfl⟩ := hrel
      go_wp2
      go_ret
      exact ⟨ret_int (by simp), rfl⟩
  · obtain ⟨g, rfl, h⟩ := hm.resolve_left hz
    have HR : Hid (∀ j, j < n * 3 → w.cell? ⟨g, j, none⟩ = some (.int .i64 (z + (j : Int)))) := h
    clear h hz hm
    go_enter Tryz.func76, Tryz.ntmps76
    go_wp2
    go_loop [5, 1] (fun i y => ∃ k : Nat, k ≤ n ∧ i = .int .i64 k ∧ y = .int .i64 (z + 3 * (k : Int))) (fun i _ => n - (intOf i).toNat)
    case atStart => exact ⟨0, Nat.zero_le _, rfl, by simp⟩
    case round =>
      obtain ⟨k, hk, rfl, rfl⟩ := hrel
      by_cases hlt : k < n
      · have hh := fun j (hj : j < 3) => HR.out (k * 3 + j) (by omega)
        obtain ⟨y, hy⟩ : ∃ y : Int, y = z + 3 * (k : Int) := ⟨_, rfl⟩
        have g0 := hh 0 (by omega)
        rw [show z + ((k * 3 + 0 : Nat) : Int) = y from by omega] at g0
        have g1 := hh 1 (by omega)
        rw [show z + ((k * 3 + 1 : Nat) : Int) = y + 1 from by omega] at g1
        have g2 := hh 2 (by omega)
        rw [show z + ((k * 3 + 2 : Nat) : Int) = y + 1 + 1 from by omega] at g2
        rw [Nat.add_zero] at g0
        clear hh
        have hy0 : 0 ≤ y := by omega
        have hy1 : y ≤ 1090000000 := by omega
        have HY : Hid (y = z + 3 * (k : Int)) := hy
        rw [← hy]
        clear hy
        go_wp2
        go_round
        case rel => exact ⟨k + 1, by omega, by go_num, by rw [show y + 1 + 1 + 1 = z + 3 * ((k + 1 : Nat) : Int) from by have := HY.out; omega]⟩
        case measure => simp [intOf]; omega
      · go_wp2
        go_ret
        obtain rfl : k = n := by omega
        exact ⟨rfl, rfl⟩

end Go.Proofs.YtmpoffepoafblaaGreat

