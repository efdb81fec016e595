/- MTo, MMark -/
import Derived.Test.YtmpoffepoafblaaGreatHandlesG01
/- toOp, toOpS: ops that are copied into a row of one's own. -/
namespace Go.Proofs.YtmpoffepoafblaaGreat
open Go.RowKit
set_option maxHeartbeats 400000 in
theorem toOp_any (c a b k : Int) (w : World) :
    Calls Tryz.prog 203 #[.agg #[.int .i64 c, .int .i64 a, .int .i64 b, .int .i64 k]] w fun e w' =>
      e = .returned (.agg #[.int .i64 c, .int .i64 a, .int .i64 b, .int .i64 k]) ∧ Below w.heap.size w w' := by
  go_enter Tryz.func203, Tryz.ntmps203
  go_wp2
  exact bodyPost_ret (v := .agg #[.int .i64 c, .int .i64 a, .int .i64 b, .int .i64 k]) (by simp [results, Tryz.results203, go_sem]) rfl
    ⟨rfl, (((Below.refl _ _).alloc (Nat.le_refl _) _).alloc (by simp) _).alloc (by simp; omega) _⟩
/- As far as k the block g holds the ops of l; all n rows of four cells may be written. -/
def FillO (w : World) (g n : Nat) (l : List O) (k : Nat) : Prop := g < w.heap.size ∧ (∀ j, j < n * 4 → (w.cell? ⟨g, j, none⟩).isSome = true ∧ w.frozen? ⟨g, j, none⟩ = false) ∧ ∀ i, i < k → OAt w g (i * 4) (oAt l i)
theorem FillO.made {B : Nat} {w1 : World} {z : List Value} {n : Nat} {l : List O} (h : w1.ownsRow B 181 4 (.slice (some ⟨B, 0, none⟩) n n) n z) : FillO w1 B n l 0 := by
  obtain ⟨hl, h | ⟨g, cap, cur, e, hg, hc, h1, h2, h3, h4⟩⟩ := h
  · simp at h
  · simp at e
    obtain ⟨rfl, rfl⟩ := e
    have hlt : B < w1.heap.size := (Array.getElem?_eq_some_iff.1 hc).1
    refine ⟨hlt, fun j hj => ?_, fun i hi => by omega⟩
    simp [World.cell?, World.frozen?, hc, h3, hj]
theorem FillO.below {w w' : World} {B g n k : Nat} {l : List O} (h : FillO w g n l k) (hb : Below B w w') (hB : g < B) : FillO w' g n l k :=
  ⟨Nat.lt_of_lt_of_le h.1 hb.size, fun j hj => by rw [hb.cell (p := ⟨g, j, none⟩) hB, hb.frozen (p := ⟨g, j, none⟩) hB]; exact h.2.1 j hj, fun i hi => (h.2.2 i hi).below hb hB⟩
abbrev putO (w : World) (g o : Nat) (e : O) : World :=
  (((w.setCell ⟨g, o, none⟩ (.int .i64 e.c)).setCell ⟨g, o + 1, none⟩ (.int .i64 e.a)).setCell ⟨g, o + 2, none⟩ (.int .i64 e.b)).setCell ⟨g, o + 3, none⟩ (.int .i64 e.k)
theorem putO_eq (w : World) (g o : Nat) (e : O) : putO w g o e = w.setCells g o [.int .i64 e.c, .int .i64 e.a, .int .i64 e.b, .int .i64 e.k] := rfl
theorem putO_in {w : World} {g o : Nat} (e : O) (h : ∀ j, j < 4 → (w.cell? ⟨g, o + j, none⟩).isSome = true) : OAt (putO w g o e) g o e := by
  rw [putO_eq]
  have hin := World.cell?_setCells_in g [.int .i64 e.c, .int .i64 e.a, .int .i64 e.b, .int .i64 e.k] o w (by simpa using h)
  exact ⟨hin 0 (by simp), hin 1 (by simp), hin 2 (by simp), hin 3 (by simp)⟩
theorem putO_out {w : World} {g o : Nat} (e : O) {b p : Nat} (h : b = g → p < o ∨ o + 4 ≤ p) : (putO w g o e).cell? ⟨b, p, none⟩ = w.cell? ⟨b, p, none⟩ := by
  rw [putO_eq]
  exact World.cell?_setCells_out g _ o w ⟨b, p, none⟩ (fun hb _ => by simpa using h hb)
theorem putO_oAt {w : World} {g o b p : Nat} (e e' : O) (h : OAt w b p e') (hd : b = g → p + 4 ≤ o ∨ o + 4 ≤ p) : OAt (putO w g o e) b p e' := by
  have h0 := fun j (_ : j < 4) => putO_out (w := w) (g := g) (o := o) e (b := b) (p := p + j) (fun hb => by have := hd hb; omega)
  exact ⟨(h0 0 (by omega)).trans h.f0, (h0 1 (by omega)).trans h.f1, (h0 2 (by omega)).trans h.f2, (h0 3 (by omega)).trans h.f3⟩
theorem putO_some {w : World} {g o : Nat} (e : O) (h : ∀ j, j < 4 → (w.cell? ⟨g, o + j, none⟩).isSome = true) {p : Nat} (hp : (w.cell? ⟨g, p, none⟩).isSome = true) : ((putO w g o e).cell? ⟨g, p, none⟩).isSome = true := by
  by_cases hr : p < o ∨ o + 4 ≤ p
  · rw [putO_out e (fun _ => hr)]; exact hp
  · obtain ⟨j, rfl⟩ : ∃ j, p = o + j := ⟨p - o, by omega⟩
    rw [putO_eq, World.cell?_setCells_in g _ o w (by simpa using h) j (by simp; omega)]
    rfl
theorem putO_frozen (w : World) (g o : Nat) (e : O) (a : Addr) : (putO w g o e).frozen? a = w.frozen? a := by rw [putO_eq]; exact World.frozen?_setCells _ _ _ _ _
theorem putO_size (w : World) (g o : Nat) (e : O) : (putO w g o e).heap.size = w.heap.size := by simp
theorem putO_below {B : Nat} {a w : World} (h : Below B a w) {g : Nat} (hg : B ≤ g) (o : Nat) (e : O) : Below B a (putO w g o e) :=
  (((h.setCell (p := ⟨g, o, none⟩) hg _).setCell (p := ⟨g, o + 1, none⟩) hg _).setCell (p := ⟨g, o + 2, none⟩) hg _).setCell (p := ⟨g, o + 3, none⟩) hg _
theorem FillO.put {w : World} {g n k : Nat} {l : List O} (h : FillO w g n l k) (hk : k < n) : FillO (putO w g (k * 4) (oAt l k)) g n l (k + 1) := by
  obtain ⟨h1, h2, h3⟩ := h
  have hs : ∀ j, j < 4 → (w.cell? ⟨g, k * 4 + j, none⟩).isSome = true := fun j hj => (h2 _ (by omega)).1
  refine ⟨by rw [putO_size]; exact h1, fun j hj => ⟨putO_some _ hs (h2 j hj).1, by rw [putO_frozen]; exact (h2 j hj).2⟩, fun i hi => ?_⟩
  by_cases e : i = k
  · subst e; exact putO_in _ hs
  · exact putO_oAt _ _ (h3 i (by omega)) (fun _ => by omega)
theorem FillO.cells {w : World} {g n k : Nat} {l : List O} (h : FillO w g n l k) {i : Nat} (hi : i < n) : ∃ c0 c1 c2 c3, (w.cell? ⟨g, i * 4, none⟩ = some c0 ∧ w.cell? ⟨g, i * 4 + 1, none⟩ = some c1 ∧ w.cell? ⟨g, i * 4 + 2, none⟩ = some c2 ∧ w.cell? ⟨g, i * 4 + 3, none⟩ = some c3) ∧
    (w.frozen? ⟨g, i * 4, none⟩ = false ∧ w.frozen? ⟨g, i * 4 + 1, none⟩ = false ∧ w.frozen? ⟨g, i * 4 + 2, none⟩ = false ∧ w.frozen? ⟨g, i * 4 + 3, none⟩ = false) := by
  have hh : ∀ j, j < 4 → (∃ c, w.cell? ⟨g, i * 4 + j, none⟩ = some c) ∧ w.frozen? ⟨g, i * 4 + j, none⟩ = false := fun j hj => ⟨Option.isSome_iff_exists.1 (h.2.1 _ (by omega)).1, (h.2.1 _ (by omega)).2⟩
  obtain ⟨⟨c0, g0⟩, z0⟩ := hh 0 (by omega)
  obtain ⟨⟨c1, g1⟩, z1⟩ := hh 1 (by omega)
  obtain ⟨⟨c2, g2⟩, z2⟩ := hh 2 (by omega)
  obtain ⟨⟨c3, g3⟩, z3⟩ := hh 3 (by omega)
  exact ⟨c0, c1, c2, c3, ⟨g0, g1, g2, g3⟩, ⟨z0, z1, z2, z3⟩⟩
theorem OAt.get {w : World} {b o : Nat} {e : O} (h : OAt w b o e) {r : Nat} (hr : r < 4) : w.cell? ⟨b, o + r, none⟩ = e.cs[r]? := by
  have h4 : r = 0 ∨ r = 1 ∨ r = 2 ∨ r = 3 := by omega
  rcases h4 with rfl | rfl | rfl | rfl
  · exact h.f0
  · exact h.f1
  · exact h.f2
  · exact h.f3
theorem FillO.row {w : World} {g : Nat} {l : List O} (h : FillO w g l.length l l.length) (hl : l.length ≤ maxLen) : RowF (fun k => k = g) w (sl g l.length) l.length 4 (cellsO l) := by
  refine ⟨cellsO_length l, _, _, rfl, Nat.le_refl _, hl, .inr ⟨g, rfl, rfl, h.1, fun j hj => ⟨?_, (h.2.1 j hj).2⟩⟩⟩
  have hi : j / 4 < l.length := by omega
  have h1 := (h.2.2 _ hi).get (r := j % 4) (by omega)
  rw [← cellsO_get l _ _ hi (by omega)] at h1
  rw [show j = j / 4 * 4 + j % 4 from by omega]
  exact h1
theorem infoOp : (Tryz.prog.info? 181).map (fun i => (i.zero, i.size, i.bytes)) = some (some (.agg #[.int .i64 0, .int .i64 0, .int .i64 0, .int .i64 0]), 4, 32) := by kernel_rfl
set_option maxHeartbeats 1000000 in
theorem toOpS_any (x : Value) (l : List O) (w : World) (hl : l.length ≤ 1048576) (h : IsO w x l) :
    Calls Tryz.prog 145 #[x] w fun e w' => e = .returned (sl w.heap.size l.length) ∧ Below w.heap.size w w' ∧ FillO w' w.heap.size l.length l l.length := by
  obtain ⟨a, cap, rfl, h1, h2, h⟩ := h
  rcases h with rfl | ⟨b, off, rfl, hb, h⟩
  · obtain ⟨i0, hi, hz0, hz1, hz2⟩ := info_parts infoOp
    go_enter Tryz.func145, Tryz.ntmps145
    go_wp2_with (at_make; refine wpList_make_full _ rfl _ _ 178 rfl w.heap.size 181 i0 _ 4 Tryz.underlying178 hi hz0 hz1 .i64 .i64 0 0 0 rfl rfl rfl rfl (by rw [hz2]; omega) (by unfold maxLen; omega) (Nat.le_refl _) ?_; intro w1 hown hgrow)
    have hB1 : Below w.heap.size w w1 := (Below.refl _ _).grown hgrow (Nat.le_refl _) (fun k e => by cases e)
    have hR1 : FillO w1 w.heap.size 0 [] 0 := FillO.made hown
    clear hown hgrow hi hz0 hz1 hz2
    go_loop [4] (fun i => i = .int .i64 0) (fun _ => 0)
    case atStart => rfl
    case round =>
      subst hrel
      go_wp2
      go_ret
      exact ⟨rfl, hB1, hR1⟩
  · have hp : (0 : Int) ≤ (l.length : Int) := by omega
    obtain ⟨i0, hi, hz0, hz1, hz2⟩ := info_parts infoOp
    go_enter Tryz.func145, Tryz.ntmps145
    go_wp2_with (at_make; refine wpList_make_full _ rfl _ _ 178 rfl w.heap.size 181 i0 _ 4 Tryz.underlying178 hi hz0 hz1 .i64 .i64 l.length l.length l.length rfl rfl rfl rfl (by rw [hz2]; omega) (by unfold maxLen; omega) (Nat.le_refl _) ?_; intro w1 hown hgrow)
    have hB1 : Below w.heap.size w w1 := (Below.refl _ _).grown hgrow (Nat.le_refl _) (fun k e => by cases e)
    have hR1 : FillO w1 w.heap.size l.length l 0 := FillO.made hown
    clear hown hgrow hi hz0 hz1 hz2
    go_loopw [4] (fun i wr => ∃ k : Nat, k ≤ l.length ∧ i = .int .i64 k ∧ Below w.heap.size w wr ∧ FillO wr w.heap.size l.length l k) (fun i _ => l.length - (intOf i).toNat)
    case atStart => exact ⟨0, Nat.zero_le _, rfl, hB1, hR1⟩
    case round =>
      obtain ⟨k, hk, rfl, hB, hR⟩ := hrel
      have HB : Hid (Below w.heap.size w wr) := hB
      have HR : Hid (FillO wr w.heap.size l.length l k) := hR
      by_cases hlt : k < l.length
      · obtain ⟨f0, f1, f2, f3⟩ := (h k hlt).below hB hb
        clear hB hR hB1 hR1 h
        have hg : w.heap.size < wr.heap.size := HR.out.1
        go_wp2_with (go_at_call 203; refine (toOp_any _ _ _ _ _).mono ?_; rintro e w2 ⟨rfl, hb2⟩; have HR2 : Hid (FillO w2 w.heap.size l.length l k) := HR.out.below hb2 hg; obtain ⟨c0, c1, c2, c3, ⟨g0, g1, g2, g3⟩, ⟨z0, z1, z2, z3⟩⟩ := HR2.out.cells hlt)
        go_roundw
        case rel => exact ⟨k + 1, by omega, by go_num, putO_below (HB.out.trans (hb2.mono (by omega))) (Nat.le_refl _) _ _, HR2.out.put hlt⟩
        case measure => simp [intOf]; omega
      · clear hB hR hB1 hR1 h
        go_wp2
        go_ret
        obtain rfl : k = l.length := by omega
        exact ⟨rfl, HB.out, HR.out⟩
end Go.Proofs.YtmpoffepoafblaaGreat

/- markIntS, markOpS, markEventS from any number on; heldIntS, heldOpS, heldEventS. -/
namespace Go.Proofs.YtmpoffepoafblaaGreat
open Go.RowKit
def mkCells (z : Int) (n : Nat) : List Value := (List.range n).map fun i : Nat => .int .i64 (z + (i : Int))
theorem mkCells_length (z : Int) (n : Nat) : (mkCells z n).length = n := by simp [mkCells]
theorem mkCells_get {z : Int} {n i : Nat} (h : i < n) : (mkCells z n)[i]? = some (.int .i64 (z + (i : Int))) := by simp [mkCells, h]
/- The block g holds N cells that may be written, of which the first k hold the numbers from z on. -/
def MkTo (w : World) (g N : Nat) (z : Int) (k : Nat) : Prop := g < w.heap.size ∧ (∀ j, j < N → (w.cell? ⟨g, j, none⟩).isSome = true ∧ w.frozen? ⟨g, j, none⟩ = false) ∧ ∀ i, i < k → w.cell? ⟨g, i, none⟩ = some (.int .i64 (z + (i : Int)))
theorem MkTo.put {w : World} {g N k : Nat} {z : Int} (h : MkTo w g N z k) (hk : k < N) {u : Int} (hu : u = z + (k : Int)) : MkTo (w.setCell ⟨g, k, none⟩ (.int .i64 u)) g N z (k + 1) := by
  subst hu
  have e1 : w.setCell ⟨g, k, none⟩ (.int .i64 (z + (k : Int))) = w.setCells g k [.int .i64 (z + (k : Int))] := rfl
  have hsame : ∀ j, j ≠ k → (w.setCell ⟨g, k, none⟩ (.int .i64 (z + (k : Int)))).cell? ⟨g, j, none⟩ = w.cell? ⟨g, j, none⟩ := fun j hj => by
    rw [e1]
    exact World.cell?_setCells_out g _ k w ⟨g, j, none⟩ (fun _ _ => by simp; omega)
  have hat : (w.setCell ⟨g, k, none⟩ (.int .i64 (z + (k : Int)))).cell? ⟨g, k, none⟩ = some (.int .i64 (z + (k : Int))) := by
    rw [e1]
    have h0 := World.cell?_setCells_in g [.int .i64 (z + (k : Int))] k w (fun j hj => by
      obtain rfl : j = 0 := by simpa using hj
      exact (h.2.1 k hk).1) 0 (by simp)
    simpa using h0
  refine ⟨by simpa using h.1, fun j hj => ⟨?_, ?_⟩, fun i hi => ?_⟩
  · by_cases e : j = k
    · subst e; rw [hat]; rfl
    · rw [hsame j e]; exact (h.2.1 j hj).1
  · rw [e1, World.frozen?_setCells]; exact (h.2.1 j hj).2
  · by_cases e : i = k
    · subst e; exact hat
    · rw [hsame i e]; exact h.2.2 i (by omega)
theorem RowF.mkTo {F : Nat → Prop} {w : World} {x : Value} {n c : Nat} {cs : List Value} (h : RowF F w x n c cs) (z : Int) : ∃ a cap, x = .slice a n cap ∧ n ≤ cap ∧ cap ≤ maxLen ∧ (n = 0 ∨ ∃ g, a = some ⟨g, 0, none⟩ ∧ F g ∧ MkTo w g (n * c) z 0) := by
  obtain ⟨hl, a, cap, rfl, h1, h2, h⟩ := h
  refine ⟨a, cap, rfl, h1, h2, h.imp id ?_⟩
  rintro ⟨g, rfl, hF, hg, hc⟩
  refine ⟨g, rfl, hF, hg, fun j hj => ⟨?_, (hc j hj).2⟩, fun i hi => by omega⟩
  rw [(hc j hj).1, List.getElem?_eq_getElem (by omega)]
  rfl
theorem MkTo.row {F : Nat → Prop} {w : World} {g n c cap : Nat} {z : Int} (h : MkTo w g (n * c) z (n * c)) (hF : F g) (h1 : n ≤ cap) (h2 : cap ≤ maxLen) : RowF F w (.slice (some ⟨g, 0, none⟩) n cap) n c (mkCells z (n * c)) :=
  ⟨mkCells_length _ _, _, cap, rfl, h1, h2, .inr ⟨g, rfl, hF, h.1, fun j hj => ⟨by rw [mkCells_get hj]; exact h.2.2 j hj, (h.2.1 j hj).2⟩⟩⟩
theorem RowF.nil {F : Nat → Prop} {w : World} {a : Option Addr} {cap c : Nat} {z : Int} (h2 : cap ≤ maxLen) : RowF F w (.slice a 0 cap) 0 c (mkCells z (0 * c)) :=
  ⟨by simp [mkCells], a, cap, rfl, Nat.zero_le _, h2, .inl rfl⟩
theorem RowF.marked {F : Nat → Prop} {w : World} {x : Value} {n c : Nat} {z : Int} (h : RowF F w x n c (mkCells z (n * c))) : ∃ a cap, x = .slice a n cap ∧ (n = 0 ∨ ∃ g, a = some ⟨g, 0, none⟩ ∧ ∀ j, j < n * c → w.cell? ⟨g, j, none⟩ = some (.int .i64 (z + (j : Int)))) := by
  obtain ⟨hl, a, cap, rfl, h1, h2, h⟩ := h
  refine ⟨a, cap, rfl, h.imp id ?_⟩
  rintro ⟨g, rfl, hF, hg, hc⟩
  exact ⟨g, rfl, fun j hj => by rw [(hc j hj).1, mkCells_get hj]⟩
theorem one_add (w : World) (g o : Nat) (u : Value) : Turns (fun b => b = g) w (w.setCell ⟨g, o, none⟩ u) := (Turns.refl (fun b => b = g) w).setCell (p := ⟨g, o, none⟩) rfl _

set_option maxHeartbeats 2000000 in
theorem markIF {F : Nat → Prop} {x : Value} {n : Nat} {cs : List Value} {w : World} (z : Int) (hn : n ≤ 1048577) (hz0 : 0 ≤ z) (hz1 : z ≤ 1073741824) (h : RowF F w x n 1 cs) :
    Calls Tryz.prog 20 #[x, .int .i64 z] w fun e w' => e = .returned (.int .i64 (z + (n : Int))) ∧ RowF F w' x n 1 (mkCells z (n * 1)) ∧ Turns F w w' := by
  obtain ⟨a, cap, rfl, h1, h2, h⟩ := h.mkTo z
  have HM : Hid (n ≤ cap ∧ cap ≤ maxLen) := ⟨h1, h2⟩
  clear h1 h2
  by_cases hz : n = 0
  · subst hz
    clear h
    go_enter Tryz.func20, Tryz.ntmps20
    go_wp2
    go_loop [5, 1] (fun i y => i = .int .i64 0 ∧ y = .int .i64 z) (fun _ _ => 0)
    case atStart => exact ⟨rfl, rfl⟩
    case round =>
      obtain ⟨rfl, rfl⟩ := hrel
      go_wp2
      go_ret
      exact ⟨ret_int (by simp), RowF.nil HM.out.2, Turns.refl _ _⟩
  · obtain ⟨g, rfl, hF, h⟩ := h.resolve_left hz
    have HR0 : Hid (MkTo w g n z 0) := by rw [Nat.mul_one] at h; exact h
    have HF : Hid (F g) := hF
    clear h hz hF
    go_enter Tryz.func20, Tryz.ntmps20
    go_wp2
    go_loopw [5, 1] (fun i y wr => ∃ k : Nat, k ≤ n ∧ i = .int .i64 k ∧ y = .int .i64 (z + (k : Int)) ∧ MkTo wr g n z k ∧ Turns (fun b => b = g) w wr) (fun i _ _ => n - (intOf i).toNat)
    case atStart => exact ⟨0, Nat.zero_le _, rfl, by simp, HR0.out, Turns.refl _ _⟩
    case round =>
      obtain ⟨k, hk, rfl, rfl, hR, hg⟩ := hrel
      have HR : Hid (MkTo wr g n z k) := hR
      have HG : Hid (Turns (fun b => b = g) w wr) := hg
      clear hR hg
      by_cases hlt : k < n
      · obtain ⟨v, hv⟩ := Option.isSome_iff_exists.1 (HR.out.2.1 k hlt).1
        have hf := (HR.out.2.1 k hlt).2
        obtain ⟨y, hy⟩ : ∃ y : Int, y = z + (k : Int) := ⟨_, rfl⟩
        have hy0 : 0 ≤ y := by omega
        have hy1 : y ≤ 1075000000 := by omega
        have HY : Hid (y = z + (k : Int)) := hy
        rw [← hy]
        clear hy
        go_wp2
        go_roundw
        case rel => exact ⟨k + 1, by omega, by go_num, by rw [show y + 1 = z + ((k + 1 : Nat) : Int) from by have := HY.out; omega], HR.out.put hlt HY.out, HG.out.trans (one_add _ _ _ _)⟩
        case measure => simp [intOf]; omega
      · go_wp2
        go_ret
        obtain rfl : k = n := by omega
        exact ⟨rfl, MkTo.row (by rw [Nat.mul_one]; exact HR.out) HF.out HM.out.1 HM.out.2, HG.out.mono (fun k e => e ▸ HF.out)⟩

set_option maxHeartbeats 2000000 in
theorem heldIF {F : Nat → Prop} {x : Value} {n : Nat} {w : World} (z : Int) (hn : n ≤ 1048577) (hz0 : 0 ≤ z) (hz1 : z ≤ 1073741824) (h : RowF F w x n 1 (mkCells z (n * 1))) :
    Calls Tryz.prog 111 #[x, .int .i64 z] w fun e w' => e = .returned (.int .i64 (z + (n : Int))) ∧ w' = w := by
  obtain ⟨a, cap, rfl, hm⟩ := h.marked
  clear h
  by_cases hz : n = 0
  · subst hz
    clear hm
    go_enter Tryz.func111, Tryz.ntmps111
    go_wp2
    go_loop [5, 1] (fun i y => i = .int .i64 0 ∧ y = .int .i64 z) (fun _ _ => 0)
    case atStart => exact ⟨rfl, rfl⟩
    case round =>
      obtain ⟨rfl, rfl⟩ := hrel
      go_wp2
      go_ret
      exact ⟨ret_int (by simp), rfl⟩
  · obtain ⟨g, rfl, h⟩ := hm.resolve_left hz
    have HR : Hid (∀ j, j < n * 1 → w.cell? ⟨g, j, none⟩ = some (.int .i64 (z + (j : Int)))) := h
    clear h hz hm
    go_enter Tryz.func111, Tryz.ntmps111
    go_wp2
    go_loop [5, 1] (fun i y => ∃ k : Nat, k ≤ n ∧ i = .int .i64 k ∧ y = .int .i64 (z + (k : Int))) (fun i _ => n - (intOf i).toNat)
    case atStart => exact ⟨0, Nat.zero_le _, rfl, by simp⟩
    case round =>
      obtain ⟨k, hk, rfl, rfl⟩ := hrel
      by_cases hlt : k < n
      · have hev := HR.out k (by omega)
        obtain ⟨y, hy⟩ : ∃ y : Int, y = z + (k : Int) := ⟨_, rfl⟩
        have hy0 : 0 ≤ y := by omega
        have hy1 : y ≤ 1075000000 := by omega
        have HY : Hid (y = z + (k : Int)) := hy
        rw [← hy] at hev ⊢
        clear hy
        go_wp2
        go_round
        case rel => exact ⟨k + 1, by omega, by go_num, by rw [show y + 1 = z + ((k + 1 : Nat) : Int) from by have := HY.out; omega]⟩
        case measure => simp [intOf]; omega
      · go_wp2
        go_ret
        obtain rfl : k = n := by omega
        exact ⟨rfl, rfl⟩

set_option maxHeartbeats 4000000 in
theorem markOF {F : Nat → Prop} {x : Value} {n : Nat} {cs : List Value} {w : World} (z : Int) (hn : n ≤ 1048577) (hz0 : 0 ≤ z) (hz1 : z ≤ 1073741824) (h : RowF F w x n 4 cs) :
    Calls Tryz.prog 155 #[x, .int .i64 z] w fun e w' => e = .returned (.int .i64 (z + 4 * (n : Int))) ∧ RowF F w' x n 4 (mkCells z (n * 4)) ∧ Turns F w w' := by
  obtain ⟨a, cap, rfl, h1, h2, h⟩ := h.mkTo z
  have HM : Hid (n ≤ cap ∧ cap ≤ maxLen) := ⟨h1, h2⟩
  clear h1 h2
  by_cases hz : n = 0
  · subst hz
    clear h
    go_enter Tryz.func155, Tryz.ntmps155
    go_wp2
    go_loop [5, 1] (fun i y => i = .int .i64 0 ∧ y = .int .i64 z) (fun _ _ => 0)
    case atStart => exact ⟨rfl, rfl⟩
    case round =>
      obtain ⟨rfl, rfl⟩ := hrel
      go_wp2
      go_ret
      exact ⟨ret_int (by simp), RowF.nil HM.out.2, Turns.refl _ _⟩
  · obtain ⟨g, rfl, hF, h⟩ := h.resolve_left hz
    have HR0 : Hid (MkTo w g (n * 4) z 0) := h
    have HF : Hid (F g) := hF
    clear h hz hF
    go_enter Tryz.func155, Tryz.ntmps155
    go_wp2
    go_loopw [5, 1] (fun i y wr => ∃ k : Nat, k ≤ n ∧ i = .int .i64 k ∧ y = .int .i64 (z + 4 * (k : Int)) ∧ MkTo wr g (n * 4) z (k * 4) ∧ Turns (fun b => b = g) w wr) (fun i _ _ => n - (intOf i).toNat)
    case atStart => exact ⟨0, Nat.zero_le _, rfl, by simp, by rw [Nat.zero_mul]; exact HR0.out, Turns.refl _ _⟩
    case round =>
      obtain ⟨k, hk, rfl, rfl, hR, hg⟩ := hrel
      have HR : Hid (MkTo wr g (n * 4) z (k * 4)) := hR
      have HG : Hid (Turns (fun b => b = g) w wr) := hg
      clear hR hg
      by_cases hlt : k < n
      · have hh : ∀ j, j < 4 → (∃ u, wr.cell? ⟨g, k * 4 + j, none⟩ = some u) ∧ wr.frozen? ⟨g, k * 4 + j, none⟩ = false := fun j hj => ⟨Option.isSome_iff_exists.1 (HR.out.2.1 _ (by omega)).1, (HR.out.2.1 _ (by omega)).2⟩
        obtain ⟨⟨v0, g0⟩, f0⟩ := hh 0 (by omega)
        obtain ⟨⟨v1, g1⟩, f1⟩ := hh 1 (by omega)
        obtain ⟨⟨v2, g2⟩, f2⟩ := hh 2 (by omega)
        obtain ⟨⟨v3, g3⟩, f3⟩ := hh 3 (by omega)
        rw [Nat.add_zero] at g0 f0
        clear hh
        obtain ⟨y, hy⟩ : ∃ y : Int, y = z + 4 * (k : Int) := ⟨_, rfl⟩
        have hy0 : 0 ≤ y := by omega
        have hy1 : y ≤ 1090000000 := by omega
        have HY : Hid (y = z + 4 * (k : Int)) := hy
        rw [← hy]
        clear hy
        go_wp2
        go_roundw
        case rel =>
          have hY := HY.out
          refine ⟨k + 1, by omega, by go_num, by rw [show y + 1 + 1 + 1 + 1 = z + 4 * ((k + 1 : Nat) : Int) from by omega], ?_, ?_⟩
          · rw [show (k + 1) * 4 = k * 4 + 4 from by omega]
            exact (((HR.out.put (by omega) (u := y) (by omega)).put (by omega) (u := y + 1) (by omega)).put (by omega) (u := y + 1 + 1) (by omega)).put (by omega) (u := y + 1 + 1 + 1) (by omega)
          · exact HG.out.trans ((((one_add wr g _ _).trans (one_add _ _ _ _)).trans (one_add _ _ _ _)).trans (one_add _ _ _ _))
        case measure => simp [intOf]; omega
      · go_wp2
        go_ret
        obtain rfl : k = n := by omega
        exact ⟨rfl, MkTo.row HR.out HF.out HM.out.1 HM.out.2, HG.out.mono (fun k e => e ▸ HF.out)⟩

set_option maxHeartbeats 4000000 in
theorem markEF {F : Nat → Prop} {x : Value} {n : Nat} {cs : List Value} {w : World} (z : Int) (hn : n ≤ 1048577) (hz0 : 0 ≤ z) (hz1 : z ≤ 1073741824) (h : RowF F w x n 7 cs) :
    Calls Tryz.prog 52 #[x, .int .i64 z] w fun e w' => e = .returned (.int .i64 (z + 7 * (n : Int))) ∧ RowF F w' x n 7 (mkCells z (n * 7)) ∧ Turns F w w' := by
  obtain ⟨a, cap, rfl, h1, h2, h⟩ := h.mkTo z
  have HM : Hid (n ≤ cap ∧ cap ≤ maxLen) := ⟨h1, h2⟩
  clear h1 h2
  by_cases hz : n = 0
  · subst hz
    clear h
    go_enter Tryz.func52, Tryz.ntmps52
    go_wp2
    go_loop [5, 1] (fun i y => i = .int .i64 0 ∧ y = .int .i64 z) (fun _ _ => 0)
    case atStart => exact ⟨rfl, rfl⟩
    case round =>
      obtain ⟨rfl, rfl⟩ := hrel
      go_wp2
      go_ret
      exact ⟨ret_int (by simp), RowF.nil HM.out.2, Turns.refl _ _⟩
  · obtain ⟨g, rfl, hF, h⟩ := h.resolve_left hz
    have HR0 : Hid (MkTo w g (n * 7) z 0) := h
    have HF : Hid (F g) := hF
    clear h hz hF
    go_enter Tryz.func52, Tryz.ntmps52
    go_wp2
    go_loopw [5, 1] (fun i y wr => ∃ k : Nat, k ≤ n ∧ i = .int .i64 k ∧ y = .int .i64 (z + 7 * (k : Int)) ∧ MkTo wr g (n * 7) z (k * 7) ∧ Turns (fun b => b = g) w wr) (fun i _ _ => n - (intOf i).toNat)
    case atStart => exact ⟨0, Nat.zero_le _, rfl, by simp, by rw [Nat.zero_mul]; exact HR0.out, Turns.refl _ _⟩
    case round =>
      obtain ⟨k, hk, rfl, rfl, hR, hg⟩ := hrel
      have HR : Hid (MkTo wr g (n * 7) z (k * 7)) := hR
      have HG : Hid (Turns (fun b => b = g) w wr) := hg
      clear hR hg
      by_cases hlt : k < n
      · have hh : ∀ j, j < 7 → (∃ u, wr.cell? ⟨g, k * 7 + j, none⟩ = some u) ∧ wr.frozen? ⟨g, k * 7 + j, none⟩ = false := fun j hj => ⟨Option.isSome_iff_exists.1 (HR.out.2.1 _ (by omega)).1, (HR.out.2.1 _ (by omega)).2⟩
        obtain ⟨⟨v0, g0⟩, f0⟩ := hh 0 (by omega)
        obtain ⟨⟨v1, g1⟩, f1⟩ := hh 1 (by omega)
        obtain ⟨⟨v2, g2⟩, f2⟩ := hh 2 (by omega)
        obtain ⟨⟨v3, g3⟩, f3⟩ := hh 3 (by omega)
        obtain ⟨⟨v4, g4⟩, f4⟩ := hh 4 (by omega)
        obtain ⟨⟨v5, g5⟩, f5⟩ := hh 5 (by omega)
        obtain ⟨⟨v6, g6⟩, f6⟩ := hh 6 (by omega)
        rw [Nat.add_zero] at g0 f0
        clear hh
        obtain ⟨y, hy⟩ : ∃ y : Int, y = z + 7 * (k : Int) := ⟨_, rfl⟩
        have hy0 : 0 ≤ y := by omega
        have hy1 : y ≤ 1090000000 := by omega
        have HY : Hid (y = z + 7 * (k : Int)) := hy
        rw [← hy]
        clear hy
        go_wp2
        go_roundw
        case rel =>
          have hY := HY.out
          refine ⟨k + 1, by omega, by go_num, by rw [show y + 1 + 1 + 1 + 1 + 1 + 1 + 1 = z + 7 * ((k + 1 : Nat) : Int) from by omega], ?_, ?_⟩
          · rw [show (k + 1) * 7 = k * 7 + 7 from by omega]
            exact ((((((HR.out.put (by omega) (u := y) (by omega)).put (by omega) (u := y + 1) (by omega)).put (by omega) (u := y + 1 + 1) (by omega)).put (by omega) (u := y + 1 + 1 + 1) (by omega)).put (by omega) (u := y + 1 + 1 + 1 + 1) (by omega)).put (by omega) (u := y + 1 + 1 + 1 + 1 + 1) (by omega)).put (by omega) (u := y + 1 + 1 + 1 + 1 + 1 + 1) (by omega)
          · exact HG.out.trans (((((((one_add wr g _ _).trans (one_add _ _ _ _)).trans (one_add _ _ _ _)).trans (one_add _ _ _ _)).trans (one_add _ _ _ _)).trans (one_add _ _ _ _)).trans (one_add _ _ _ _))
        case measure => simp [intOf]; omega
      · go_wp2
        go_ret
        obtain rfl : k = n := by omega
        exact ⟨rfl, MkTo.row HR.out HF.out HM.out.1 HM.out.2, HG.out.mono (fun k e => e ▸ HF.out)⟩

set_option maxHeartbeats 4000000 in
theorem heldEF {F : Nat → Prop} {x : Value} {n : Nat} {w : World} (z : Int) (hn : n ≤ 1048577) (hz0 : 0 ≤ z) (hz1 : z ≤ 1073741824) (h : RowF F w x n 7 (mkCells z (n * 7))) :
    Calls Tryz.prog 53 #[x, .int .i64 z] w fun e w' => e = .returned (.int .i64 (z + 7 * (n : Int))) ∧ w' = w := by
  obtain ⟨a, cap, rfl, hm⟩ := h.marked
  clear h
  by_cases hz : n = 0
  · subst hz
    clear hm
    go_enter Tryz.func53, Tryz.ntmps53
    go_wp2
    go_loop [5, 1] (fun i y => i = .int .i64 0 ∧ y = .int .i64 z) (fun _ _ => 0)
    case atStart => exact ⟨rfl, rfl⟩
    case round =>
      obtain ⟨rfl, rfl⟩ := hrel
      go_wp2
      go_ret
      exact ⟨ret_int (by simp), rfl⟩
  · obtain ⟨g, rfl, h⟩ := hm.resolve_left hz
    have HR : Hid (∀ j, j < n * 7 → w.cell? ⟨g, j, none⟩ = some (.int .i64 (z + (j : Int)))) := h
    clear h hz hm
    go_enter Tryz.func53, Tryz.ntmps53
    go_wp2
    go_loop [5, 1] (fun i y => ∃ k : Nat, k ≤ n ∧ i = .int .i64 k ∧ y = .int .i64 (z + 7 * (k : Int))) (fun i _ => n - (intOf i).toNat)
    case atStart => exact ⟨0, Nat.zero_le _, rfl, by simp⟩
    case round =>
      obtain ⟨k, hk, rfl, rfl⟩ := hrel
      by_cases hlt : k < n
      · have hh := fun j (hj : j < 7) => HR.out (k * 7 + j) (by omega)
        obtain ⟨y, hy⟩ : ∃ y : Int, y = z + 7 * (k : Int) := ⟨_, rfl⟩
        have g0 := hh 0 (by omega)
        rw [show z + ((k * 7 + 0 : Nat) : Int) = y from by omega] at g0
        have g1 := hh 1 (by omega)
        rw [show z + ((k * 7 + 1 : Nat) : Int) = y + 1 from by omega] at g1
        have g2 := hh 2 (by omega)
        rw [show z + ((k * 7 + 2 : Nat) : Int) = y + 1 + 1 from by omega] at g2
        have g3 := hh 3 (by omega)
        rw [show z + ((k * 7 + 3 : Nat) : Int) = y + 1 + 1 + 1 from by omega] at g3
        have g4 := hh 4 (by omega)
        rw [show z + ((k * 7 + 4 : Nat) : Int) = y + 1 + 1 + 1 + 1 from by omega] at g4
        have g5 := hh 5 (by omega)
        rw [show z + ((k * 7 + 5 : Nat) : Int) = y + 1 + 1 + 1 + 1 + 1 from by omega] at g5
        have g6 := hh 6 (by omega)
        rw [show z + ((k * 7 + 6 : Nat) : Int) = y + 1 + 1 + 1 + 1 + 1 + 1 from by omega] at g6
        rw [Nat.add_zero] at g0
        clear hh
        have hy0 : 0 ≤ y := by omega
        have hy1 : y ≤ 1090000000 := by omega
        have HY : Hid (y = z + 7 * (k : Int)) := hy
        rw [← hy]
        clear hy
        go_wp2
        go_round
        case rel => exact ⟨k + 1, by omega, by go_num, by rw [show y + 1 + 1 + 1 + 1 + 1 + 1 + 1 = z + 7 * ((k + 1 : Nat) : Int) from by have := HY.out; omega]⟩
        case measure => simp [intOf]; omega
      · go_wp2
        go_ret
        obtain rfl : k = n := by omega
        exact ⟨rfl, rfl⟩
end Go.Proofs.YtmpoffepoafblaaGreat

