/- VTo, MTo -/
import Derived.Test.YtglmdocokfnmcaaExactPartOkG00
import Derived.Test.YtglmdocokfnmcaaExactPartOkG01
/- toIntS: a row of one's own. -/
namespace Go.Proofs.Ytglmdocokfnmcaa
open Go.RowKit
/- The block g holds the numbers of l, from its first cell on, and they may be written. -/
def RowI (w : World) (g : Nat) (l : List Int) : Prop := g < w.heap.size ∧ ∀ j, j < l.length → w.cell? ⟨g, j, none⟩ = some (.int .i64 (intAt l j)) ∧ w.frozen? ⟨g, j, none⟩ = false
theorem RowI.below {w w' : World} {B g : Nat} {l : List Int} (h : RowI w g l) (hb : Below B w w') (hB : g < B) : RowI w' g l :=
  ⟨Nat.lt_of_lt_of_le h.1 hb.size, fun j hj => by rw [hb.cell (p := ⟨g, j, none⟩) hB, hb.frozen (p := ⟨g, j, none⟩) hB]; exact h.2 j hj⟩
abbrev sl (g n : Nat) : Value := .slice (some ⟨g, 0, none⟩) n n
theorem RowI.own {w : World} {g : Nat} {l : List Int} (h : RowI w g l) (hl : l.length ≤ maxLen) {B : Nat} (hB : B ≤ g) : OwnI B w (sl g l.length) l :=
  ⟨_, _, rfl, Nat.le_refl _, hl, .inr ⟨g, rfl, hB, fun j hj => (h.2 j hj).2, h.1, fun i hi => by rw [Nat.zero_add]; exact (h.2 i hi).1⟩⟩
theorem RowI.isI {w : World} {g : Nat} {l : List Int} (h : RowI w g l) (hl : l.length ≤ maxLen) : IsI w (sl g l.length) l := (h.own hl (Nat.zero_le _)).isI
theorem RowI.mark {w : World} {g : Nat} {l : List Int} (h : RowI w g l) : MarkTo w g l.length 0 :=
  ⟨h.1, fun j hj => by rw [(h.2 j hj).1]; exact ⟨rfl, (h.2 j hj).2⟩, fun i hi => by omega⟩
/- As far as k it holds them; all n cells may be written. -/
def FillI (w : World) (g n : Nat) (l : List Int) (k : Nat) : Prop := g < w.heap.size ∧ (∀ j, j < n → (w.cell? ⟨g, j, none⟩).isSome = true ∧ w.frozen? ⟨g, j, none⟩ = false) ∧ ∀ i, i < k → w.cell? ⟨g, i, none⟩ = some (.int .i64 (intAt l i))
theorem FillI.row {w : World} {g : Nat} {l : List Int} (h : FillI w g l.length l l.length) : RowI w g l := ⟨h.1, fun j hj => ⟨h.2.2 j hj, (h.2.1 j hj).2⟩⟩
theorem FillI.put {w : World} {g n k : Nat} {l : List Int} (h : FillI w g n l k) (hk : k < n) : FillI (w.setCell ⟨g, k, none⟩ (.int .i64 (intAt l k))) g n l (k + 1) := by
  have e1 : w.setCell ⟨g, k, none⟩ (.int .i64 (intAt l k)) = w.setCells g k [.int .i64 (intAt l k)] := rfl
  have hsame : ∀ j, j ≠ k → (w.setCell ⟨g, k, none⟩ (.int .i64 (intAt l k))).cell? ⟨g, j, none⟩ = w.cell? ⟨g, j, none⟩ := fun j hj => by
    rw [e1]
    exact World.cell?_setCells_out g _ k w ⟨g, j, none⟩ (fun _ _ => by simp; omega)
  have hat : (w.setCell ⟨g, k, none⟩ (.int .i64 (intAt l k))).cell? ⟨g, k, none⟩ = some (.int .i64 (intAt l k)) := by
    rw [e1]
    have h0 := World.cell?_setCells_in g [.int .i64 (intAt l k)] k w (fun j hj => by
      obtain rfl : j = 0 := by simpa using hj
      exact (h.2.1 k hk).1) 0 (by simp)
    simpa using h0
  refine ⟨by simpa using h.1, fun j hj => ?_, fun i hi => ?_⟩
  · refine ⟨?_, ?_⟩
    · by_cases e : j = k
      · subst e; rw [hat]; rfl
      · rw [hsame j e]; exact (h.2.1 j hj).1
    · rw [e1, World.frozen?_setCells]; exact (h.2.1 j hj).2
  · by_cases e : i = k
    · subst e; exact hat
    · rw [hsame i e]; exact h.2.2 i (by omega)
theorem FillI.made {w1 : World} {B : Nat} {z : List Value} {n : Nat} {l : List Int} (h : w1.ownsRow B 3 1 (.slice (some ⟨B, 0, none⟩) n n) n z) : FillI w1 B n l 0 := by
  obtain ⟨hl, h | ⟨g, cap, cur, e, hg, hc, h1, h2, h3, h4⟩⟩ := h
  · simp at h
  · simp at e
    obtain ⟨rfl, rfl⟩ := e
    have hlt : B < w1.heap.size := (Array.getElem?_eq_some_iff.1 hc).1
    refine ⟨hlt, fun j hj => ?_, fun i hi => by omega⟩
    have hj2 : j < cur.size := by omega
    simp [World.cell?, World.frozen?, hc, hj2]
theorem info3 : (Try.prog.info? 3).map (fun i => (i.zero, i.size, i.bytes)) = some (some (.int .i64 0), 1, 8) := by kernel_rfl
theorem info_parts {i : TypeId} {z : Option Value} {s b : Nat} (h : (Try.prog.info? i).map (fun i => (i.zero, i.size, i.bytes)) = some (z, s, b)) : ∃ i0, Try.prog.info? i = some i0 ∧ i0.zero = z ∧ i0.size = s ∧ i0.bytes = b := by
  obtain ⟨i0, h1, h2⟩ := Option.map_eq_some_iff.1 h
  simp only [Prod.mk.injEq] at h2
  exact ⟨i0, h1, h2.1, h2.2.1, h2.2.2⟩
set_option maxHeartbeats 1000000 in
theorem toI_any (x : Value) (l : List Int) (w : World) (hl : l.length ≤ 1048576) (h : IsI w x l) :
    Calls Try.prog 45 #[x] w fun e w' => e = .returned (sl w.heap.size l.length) ∧ Below w.heap.size w w' ∧ RowI w' w.heap.size l := by
  obtain ⟨a, cap, rfl, h1, h2, h⟩ := h
  rcases h with rfl | ⟨b, off, rfl, hb, h⟩
  · obtain ⟨i0, hi, hz0, hz1, hz2⟩ := info_parts info3
    go_enter Try.func45, Try.ntmps45
    go_wp2_with (at_make; refine wpList_make_full _ rfl _ _ 22 rfl w.heap.size 3 i0 _ 1 Try.underlying22 hi hz0 hz1 .i64 .i64 0 0 0 rfl rfl rfl rfl (by rw [hz2]; omega) (by unfold maxLen; omega) (Nat.le_refl _) ?_; intro w1 hown hgrow)
    have hB1 : Below w.heap.size w w1 := (Below.refl _ _).grown hgrow (Nat.le_refl _) (fun k e => by cases e)
    have hR1 : RowI w1 w.heap.size [] := (FillI.made (n := 0) (l := []) hown).row
    clear hown hgrow hi hz0 hz1 hz2
    go_loop [4] (fun i => i = .int .i64 0) (fun _ => 0)
    case atStart => rfl
    case round =>
      subst hrel
      go_wp2
      go_ret
      exact ⟨rfl, hB1, hR1⟩
  · have hp : (0 : Int) ≤ (l.length : Int) := by omega
    obtain ⟨i0, hi, hz0, hz1, hz2⟩ := info_parts info3
    go_enter Try.func45, Try.ntmps45
    go_wp2_with (at_make; refine wpList_make_full _ rfl _ _ 22 rfl w.heap.size 3 i0 _ 1 Try.underlying22 hi hz0 hz1 .i64 .i64 l.length l.length l.length rfl rfl rfl rfl (by rw [hz2]; omega) (by unfold maxLen; omega) (Nat.le_refl _) ?_; intro w1 hown hgrow)
    have hB1 : Below w.heap.size w w1 := (Below.refl _ _).grown hgrow (Nat.le_refl _) (fun k e => by cases e)
    have hR1 : FillI w1 w.heap.size l.length l 0 := FillI.made hown
    clear hown hgrow hi hz0 hz1 hz2
    go_loopw [4] (fun i wr => ∃ k : Nat, k ≤ l.length ∧ i = .int .i64 k ∧ Below w.heap.size w wr ∧ FillI wr w.heap.size l.length l k) (fun i _ => l.length - (intOf i).toNat)
    case atStart => exact ⟨0, Nat.zero_le _, rfl, hB1, hR1⟩
    case round =>
      obtain ⟨k, hk, rfl, hB, hR⟩ := hrel
      have HB : Hid (Below w.heap.size w wr) := hB
      have HR : Hid (FillI wr w.heap.size l.length l k) := hR
      by_cases hlt : k < l.length
      · have f0 := (hB.cell (p := ⟨b, off + k, none⟩) hb).trans (h k hlt)
        obtain ⟨v, hv⟩ := Option.isSome_iff_exists.1 (hR.2.1 k hlt).1
        have hf := (hR.2.1 k hlt).2
        clear hB hR hB1 hR1 h
        go_wp2
        go_roundw
        case rel => exact ⟨k + 1, by omega, by go_num, HB.out.setCell (Nat.le_refl _) _, HR.out.put hlt⟩
        case measure => simp [intOf]; omega
      · clear hB hR hB1 hR1 h
        go_wp2
        go_ret
        obtain rfl : k = l.length := by omega
        exact ⟨rfl, HB.out, HR.out.row⟩
end Go.Proofs.Ytglmdocokfnmcaa

/- toOp, toOpS: ops that are copied into a row of one's own. -/
namespace Go.Proofs.Ytglmdocokfnmcaa
open Go.RowKit
/- As far as k the block g holds the ops of l; all n rows of four cells may be written. -/
def FillO (w : World) (g n : Nat) (l : List O) (k : Nat) : Prop := g < w.heap.size ∧ (∀ j, j < n * 4 → (w.cell? ⟨g, j, none⟩).isSome = true ∧ w.frozen? ⟨g, j, none⟩ = false) ∧ ∀ i, i < k → OAt w g (i * 4) (oAt l i)
theorem FillO.below {w w' : World} {B g n k : Nat} {l : List O} (h : FillO w g n l k) (hb : Below B w w') (hB : g < B) : FillO w' g n l k :=
  ⟨Nat.lt_of_lt_of_le h.1 hb.size, fun j hj => by rw [hb.cell (p := ⟨g, j, none⟩) hB, hb.frozen (p := ⟨g, j, none⟩) hB]; exact h.2.1 j hj, fun i hi => (h.2.2 i hi).below hb hB⟩
abbrev putO (w : World) (g o : Nat) (e : O) : World :=
  (((w.setCell ⟨g, o, none⟩ (.int .i64 e.c)).setCell ⟨g, o + 1, none⟩ (.int .i64 e.a)).setCell ⟨g, o + 2, none⟩ (.int .i64 e.b)).setCell ⟨g, o + 3, none⟩ (.int .i64 e.k)
theorem putO_eq (w : World) (g o : Nat) (e : O) : putO w g o e = w.setCells g o [.int .i64 e.c, .int .i64 e.a, .int .i64 e.b, .int .i64 e.k] := rfl
theorem putO_in {w : World} {g o : Nat} (e : O) (h : ∀ j, j < 4 → (w.cell? ⟨g, o + j, none⟩).isSome = true) : OAt (putO w g o e) g o e := by
  rw [putO_eq]
  have hin := World.cell?_setCells_in g [.int .i64 e.c, .int .i64 e.a, .int .i64 e.b, .int .i64 e.k] o w (by simpa using h)
  exact ⟨hin 0 (by simp), hin 1 (by simp), hin 2 (by simp), hin 3 (by simp)⟩
theorem putO_out {w : World} {g o : Nat} (e : O) {b p : Nat} (h : b = g → p < o ∨ o + 4 ≤ p) : (putO w g o e).cell? ⟨b, p, none⟩ = w.cell? ⟨b, p, none⟩ := by
  rw [putO_eq]
  exact World.cell?_setCells_out g _ o w ⟨b, p, none⟩ (fun hb _ => by simpa using h hb)
theorem putO_oAt {w : World} {g o b p : Nat} (e e' : O) (h : OAt w b p e') (hd : b = g → p + 4 ≤ o ∨ o + 4 ≤ p) : OAt (putO w g o e) b p e' := by
  have h0 := fun j (_ : j < 4) => putO_out (w := w) (g := g) (o := o) e (b := b) (p := p + j) (fun hb => by have := hd hb; omega)
  exact ⟨(h0 0 (by omega)).trans h.f0, (h0 1 (by omega)).trans h.f1, (h0 2 (by omega)).trans h.f2, (h0 3 (by omega)).trans h.f3⟩
theorem putO_some {w : World} {g o : Nat} (e : O) (h : ∀ j, j < 4 → (w.cell? ⟨g, o + j, none⟩).isSome = true) {p : Nat} (hp : (w.cell? ⟨g, p, none⟩).isSome = true) : ((putO w g o e).cell? ⟨g, p, none⟩).isSome = true := by
  by_cases hr : p < o ∨ o + 4 ≤ p
  · rw [putO_out e (fun _ => hr)]; exact hp
  · obtain ⟨j, rfl⟩ : ∃ j, p = o + j := ⟨p - o, by omega⟩
    rw [putO_eq, World.cell?_setCells_in g _ o w (by simpa using h) j (by simp; omega)]
    rfl
theorem putO_frozen (w : World) (g o : Nat) (e : O) (a : Addr) : (putO w g o e).frozen? a = w.frozen? a := by rw [putO_eq]; exact World.frozen?_setCells _ _ _ _ _
theorem putO_size (w : World) (g o : Nat) (e : O) : (putO w g o e).heap.size = w.heap.size := by simp
theorem putO_below {B : Nat} {a w : World} (h : Below B a w) {g : Nat} (hg : B ≤ g) (o : Nat) (e : O) : Below B a (putO w g o e) :=
  (((h.setCell (p := ⟨g, o, none⟩) hg _).setCell (p := ⟨g, o + 1, none⟩) hg _).setCell (p := ⟨g, o + 2, none⟩) hg _).setCell (p := ⟨g, o + 3, none⟩) hg _
theorem FillO.put {w : World} {g n k : Nat} {l : List O} (h : FillO w g n l k) (hk : k < n) : FillO (putO w g (k * 4) (oAt l k)) g n l (k + 1) := by
  obtain ⟨h1, h2, h3⟩ := h
  have hs : ∀ j, j < 4 → (w.cell? ⟨g, k * 4 + j, none⟩).isSome = true := fun j hj => (h2 _ (by omega)).1
  refine ⟨by rw [putO_size]; exact h1, fun j hj => ⟨putO_some _ hs (h2 j hj).1, by rw [putO_frozen]; exact (h2 j hj).2⟩, fun i hi => ?_⟩
  by_cases e : i = k
  · subst e; exact putO_in _ hs
  · exact putO_oAt _ _ (h3 i (by omega)) (fun _ => by omega)
theorem FillO.cells {w : World} {g n k : Nat} {l : List O} (h : FillO w g n l k) {i : Nat} (hi : i < n) : ∃ c0 c1 c2 c3, (w.cell? ⟨g, i * 4, none⟩ = some c0 ∧ w.cell? ⟨g, i * 4 + 1, none⟩ = some c1 ∧ w.cell? ⟨g, i * 4 + 2, none⟩ = some c2 ∧ w.cell? ⟨g, i * 4 + 3, none⟩ = some c3) ∧
    (w.frozen? ⟨g, i * 4, none⟩ = false ∧ w.frozen? ⟨g, i * 4 + 1, none⟩ = false ∧ w.frozen? ⟨g, i * 4 + 2, none⟩ = false ∧ w.frozen? ⟨g, i * 4 + 3, none⟩ = false) := by
  have hh : ∀ j, j < 4 → (∃ c, w.cell? ⟨g, i * 4 + j, none⟩ = some c) ∧ w.frozen? ⟨g, i * 4 + j, none⟩ = false := fun j hj => ⟨Option.isSome_iff_exists.1 (h.2.1 _ (by omega)).1, (h.2.1 _ (by omega)).2⟩
  obtain ⟨⟨c0, g0⟩, z0⟩ := hh 0 (by omega)
  obtain ⟨⟨c1, g1⟩, z1⟩ := hh 1 (by omega)
  obtain ⟨⟨c2, g2⟩, z2⟩ := hh 2 (by omega)
  obtain ⟨⟨c3, g3⟩, z3⟩ := hh 3 (by omega)
  exact ⟨c0, c1, c2, c3, ⟨g0, g1, g2, g3⟩, ⟨z0, z1, z2, z3⟩⟩
theorem OAt.get {w : World} {b o : Nat} {e : O} (h : OAt w b o e) {r : Nat} (hr : r < 4) : w.cell? ⟨b, o + r, none⟩ = e.cs[r]? := by
  have h4 : r = 0 ∨ r = 1 ∨ r = 2 ∨ r = 3 := by omega
  rcases h4 with rfl | rfl | rfl | rfl
  · exact h.f0
  · exact h.f1
  · exact h.f2
  · exact h.f3
theorem FillO.row {w : World} {g : Nat} {l : List O} (h : FillO w g l.length l l.length) (hl : l.length ≤ maxLen) : RowF (fun k => k = g) w (sl g l.length) l.length 4 (cellsO l) := by
  refine ⟨cellsO_length l, _, _, rfl, Nat.le_refl _, hl, .inr ⟨g, rfl, rfl, h.1, fun j hj => ⟨?_, (h.2.1 j hj).2⟩⟩⟩
  have hi : j / 4 < l.length := by omega
  have h1 := (h.2.2 _ hi).get (r := j % 4) (by omega)
  rw [← cellsO_get l _ _ hi (by omega)] at h1
  rw [show j = j / 4 * 4 + j % 4 from by omega]
  exact h1
end Go.Proofs.Ytglmdocokfnmcaa

