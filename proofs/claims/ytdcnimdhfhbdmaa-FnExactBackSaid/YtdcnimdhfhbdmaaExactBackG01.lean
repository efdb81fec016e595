/- MTo, MMark, MSz, MMarkH, MToH, MEq, Eqs -/
import Derived.Test.YtdcnimdhfhbdmaaExactBackG00
import Derived.Deep.RegionHeld3
/- toOp, toOpS: ops that are copied into a row of one's own. -/
namespace Go.Proofs.Ytdcnimdhfhbdmaa
open Go.RowKit
/- As far as k the block g holds the ops of l; all n rows of four cells may be written. -/
def FillO (w : World) (g n : Nat) (l : List O) (k : Nat) : Prop := g < w.heap.size ∧ (∀ j, j < n * 4 → (w.cell? ⟨g, j, none⟩).isSome = true ∧ w.frozen? ⟨g, j, none⟩ = false) ∧ ∀ i, i < k → OAt w g (i * 4) (oAt l i)
theorem FillO.below {w w' : World} {B g n k : Nat} {l : List O} (h : FillO w g n l k) (hb : Below B w w') (hB : g < B) : FillO w' g n l k :=
  ⟨Nat.lt_of_lt_of_le h.1 hb.size, fun j hj => by rw [hb.cell (p := ⟨g, j, none⟩) hB, hb.frozen (p := ⟨g, j, none⟩) hB]; exact h.2.1 j hj, fun i hi => (h.2.2 i hi).below hb hB⟩
abbrev putO (w : World) (g o : Nat) (e : O) : World :=
  (((w.setCell ⟨g, o, none⟩ (.int .i64 e.c)).setCell ⟨g, o + 1, none⟩ (.int .i64 e.a)).setCell ⟨g, o + 2, none⟩ (.int .i64 e.b)).setCell ⟨g, o + 3, none⟩ (.int .i64 e.k)
theorem putO_eq (w : World) (g o : Nat) (e : O) : putO w g o e = w.setCells g o [.int .i64 e.c, .int .i64 e.a, .int .i64 e.b, .int .i64 e.k] := rfl
theorem putO_in {w : World} {g o : Nat} (e : O) (h : ∀ j, j < 4 → (w.cell? ⟨g, o + j, none⟩).isSome = true) : OAt (putO w g o e) g o e := by
  rw [putO_eq]
  have hin := World.cell?_setCells_in g [.int .i64 e.c, .int .i64 e.a, .int .i64 e.b, .int .i64 e.k] o w (by simpa using h)
  exact ⟨hin 0 (by simp), hin 1 (by simp), hin 2 (by simp), hin 3 (by simp)⟩
theorem putO_out {w : World} {g o : Nat} (e : O) {b p : Nat} (h : b = g → p < o ∨ o + 4 ≤ p) : (putO w g o e).cell? ⟨b, p, none⟩ = w.cell? ⟨b, p, none⟩ := by
  rw [putO_eq]
  exact World.cell?_setCells_out g _ o w ⟨b, p, none⟩ (fun hb _ => by simpa using h hb)
theorem putO_oAt {w : World} {g o b p : Nat} (e e' : O) (h : OAt w b p e') (hd : b = g → p + 4 ≤ o ∨ o + 4 ≤ p) : OAt (putO w g o e) b p e' := by
  have h0 := fun j (_ : j < 4) => putO_out (w := w) (g := g) (o := o) e (b := b) (p := p + j) (fun hb => by have := hd hb; omega)
  exact ⟨(h0 0 (by omega)).trans h.f0, (h0 1 (by omega)).trans h.f1, (h0 2 (by omega)).trans h.f2, (h0 3 (by omega)).trans h.f3⟩
theorem putO_some {w : World} {g o : Nat} (e : O) (h : ∀ j, j < 4 → (w.cell? ⟨g, o + j, none⟩).isSome = true) {p : Nat} (hp : (w.cell? ⟨g, p, none⟩).isSome = true) : ((putO w g o e).cell? ⟨g, p, none⟩).isSome = true := by
  by_cases hr : p < o ∨ o + 4 ≤ p
  · rw [putO_out e (fun _ => hr)]; exact hp
  · obtain ⟨j, rfl⟩ : ∃ j, p = o + j := ⟨p - o, by omega⟩
    rw [putO_eq, World.cell?_setCells_in g _ o w (by simpa using h) j (by simp; omega)]
    rfl
theorem putO_frozen (w : World) (g o : Nat) (e : O) (a : Addr) : (putO w g o e).frozen? a = w.frozen? a := by rw [putO_eq]; exact World.frozen?_setCells _ _ _ _ _
theorem putO_size (w : World) (g o : Nat) (e : O) : (putO w g o e).heap.size = w.heap.size := by simp
theorem putO_below {B : Nat} {a w : World} (h : Below B a w) {g : Nat} (hg : B ≤ g) (o : Nat) (e : O) : Below B a (putO w g o e) :=
  (((h.setCell (p := ⟨g, o, none⟩) hg _).setCell (p := ⟨g, o + 1, none⟩) hg _).setCell (p := ⟨g, o + 2, none⟩) hg _).setCell (p := ⟨g, o + 3, none⟩) hg _
theorem FillO.put {w : World} {g n k : Nat} {l : List O} (h : FillO w g n l k) (hk : k < n) : FillO (putO w g (k * 4) (oAt l k)) g n l (k + 1) := by
  obtain ⟨h1, h2, h3⟩ := h
  have hs : ∀ j, j < 4 → (w.cell? ⟨g, k * 4 + j, none⟩).isSome = true := fun j hj => (h2 _ (by omega)).1
  refine ⟨by rw [putO_size]; exact h1, fun j hj => ⟨putO_some _ hs (h2 j hj).1, by rw [putO_frozen]; exact (h2 j hj).2⟩, fun i hi => ?_⟩
  by_cases e : i = k
  · subst e; exact putO_in _ hs
  · exact putO_oAt _ _ (h3 i (by omega)) (fun _ => by omega)
theorem FillO.cells {w : World} {g n k : Nat} {l : List O} (h : FillO w g n l k) {i : Nat} (hi : i < n) : ∃ c0 c1 c2 c3, (w.cell? ⟨g, i * 4, none⟩ = some c0 ∧ w.cell? ⟨g, i * 4 + 1, none⟩ = some c1 ∧ w.cell? ⟨g, i * 4 + 2, none⟩ = some c2 ∧ w.cell? ⟨g, i * 4 + 3, none⟩ = some c3) ∧
    (w.frozen? ⟨g, i * 4, none⟩ = false ∧ w.frozen? ⟨g, i * 4 + 1, none⟩ = false ∧ w.frozen? ⟨g, i * 4 + 2, none⟩ = false ∧ w.frozen? ⟨g, i * 4 + 3, none⟩ = false) := by
  have hh : ∀ j, j < 4 → (∃ c, w.cell? ⟨g, i * 4 + j, none⟩ = some c) ∧ w.frozen? ⟨g, i * 4 + j, none⟩ = false := fun j hj => ⟨Option.isSome_iff_exists.1 (h.2.1 _ (by omega)).1, (h.2.1 _ (by omega)).2⟩
  obtain ⟨⟨c0, g0⟩, z0⟩ := hh 0 (by omega)
  obtain ⟨⟨c1, g1⟩, z1⟩ := hh 1 (by omega)
  obtain ⟨⟨c2, g2⟩, z2⟩ := hh 2 (by omega)
  obtain ⟨⟨c3, g3⟩, z3⟩ := hh 3 (by omega)
  exact ⟨c0, c1, c2, c3, ⟨g0, g1, g2, g3⟩, ⟨z0, z1, z2, z3⟩⟩
theorem OAt.get {w : World} {b o : Nat} {e : O} (h : OAt w b o e) {r : Nat} (hr : r < 4) : w.cell? ⟨b, o + r, none⟩ = e.cs[r]? := by
  have h4 : r = 0 ∨ r = 1 ∨ r = 2 ∨ r = 3 := by omega
  rcases h4 with rfl | rfl | rfl | rfl
  · exact h.f0
  · exact h.f1
  · exact h.f2
  · exact h.f3
theorem FillO.row {w : World} {g : Nat} {l : List O} (h : FillO w g l.length l l.length) (hl : l.length ≤ maxLen) : RowF (fun k => k = g) w (sl g l.length) l.length 4 (cellsO l) := by
  refine ⟨cellsO_length l, _, _, rfl, Nat.le_refl _, hl, .inr ⟨g, rfl, rfl, h.1, fun j hj => ⟨?_, (h.2.1 j hj).2⟩⟩⟩
  have hi : j / 4 < l.length := by omega
  have h1 := (h.2.2 _ hi).get (r := j % 4) (by omega)
  rw [← cellsO_get l _ _ hi (by omega)] at h1
  rw [show j = j / 4 * 4 + j % 4 from by omega]
  exact h1
end Go.Proofs.Ytdcnimdhfhbdmaa

/- markIntS, markOpS, markEventS from any number on; heldIntS, heldOpS, heldEventS. -/
namespace Go.Proofs.Ytdcnimdhfhbdmaa
open Go.RowKit
def mkCells (z : Int) (n : Nat) : List Value := (List.range n).map fun i : Nat => .int .i64 (z + (i : Int))
theorem mkCells_length (z : Int) (n : Nat) : (mkCells z n).length = n := by simp [mkCells]
theorem mkCells_get {z : Int} {n i : Nat} (h : i < n) : (mkCells z n)[i]? = some (.int .i64 (z + (i : Int))) := by simp [mkCells, h]
/- The block g holds N cells that may be written, of which the first k hold the numbers from z on. -/
def MkTo (w : World) (g N : Nat) (z : Int) (k : Nat) : Prop := g < w.heap.size ∧ (∀ j, j < N → (w.cell? ⟨g, j, none⟩).isSome = true ∧ w.frozen? ⟨g, j, none⟩ = false) ∧ ∀ i, i < k → w.cell? ⟨g, i, none⟩ = some (.int .i64 (z + (i : Int)))
theorem MkTo.put {w : World} {g N k : Nat} {z : Int} (h : MkTo w g N z k) (hk : k < N) {u : Int} (hu : u = z + (k : Int)) : MkTo (w.setCell ⟨g, k, none⟩ (.int .i64 u)) g N z (k + 1) := by
  subst hu
  have e1 : w.setCell ⟨g, k, none⟩ (.int .i64 (z + (k : Int))) = w.setCells g k [.int .i64 (z + (k : Int))] := rfl
  have hsame : ∀ j, j ≠ k → (w.setCell ⟨g, k, none⟩ (.int .i64 (z + (k : Int)))).cell? ⟨g, j, none⟩ = w.cell? ⟨g, j, none⟩ := fun j hj => by
    rw [e1]
    exact World.cell?_setCells_out g _ k w ⟨g, j, none⟩ (fun _ _ => by simp; omega)
  have hat : (w.setCell ⟨g, k, none⟩ (.int .i64 (z + (k : Int)))).cell? ⟨g, k, none⟩ = some (.int .i64 (z + (k : Int))) := by
    rw [e1]
    have h0 := World.cell?_setCells_in g [.int .i64 (z + (k : Int))] k w (fun j hj => by
      obtain rfl : j = 0 := by simpa using hj
      exact (h.2.1 k hk).1) 0 (by simp)
    simpa using h0
  refine ⟨by simpa using h.1, fun j hj => ⟨?_, ?_⟩, fun i hi => ?_⟩
  · by_cases e : j = k
    · subst e; rw [hat]; rfl
    · rw [hsame j e]; exact (h.2.1 j hj).1
  · rw [e1, World.frozen?_setCells]; exact (h.2.1 j hj).2
  · by_cases e : i = k
    · subst e; exact hat
    · rw [hsame i e]; exact h.2.2 i (by omega)
theorem RowF.mkTo {F : Nat → Prop} {w : World} {x : Value} {n c : Nat} {cs : List Value} (h : RowF F w x n c cs) (z : Int) : ∃ a cap, x = .slice a n cap ∧ n ≤ cap ∧ cap ≤ maxLen ∧ (n = 0 ∨ ∃ g, a = some ⟨g, 0, none⟩ ∧ F g ∧ MkTo w g (n * c) z 0) := by
  obtain ⟨hl, a, cap, rfl, h1, h2, h⟩ := h
  refine ⟨a, cap, rfl, h1, h2, h.imp id ?_⟩
  rintro ⟨g, rfl, hF, hg, hc⟩
  refine ⟨g, rfl, hF, hg, fun j hj => ⟨?_, (hc j hj).2⟩, fun i hi => by omega⟩
  rw [(hc j hj).1, List.getElem?_eq_getElem (by omega)]
  rfl
theorem MkTo.row {F : Nat → Prop} {w : World} {g n c cap : Nat} {z : Int} (h : MkTo w g (n * c) z (n * c)) (hF : F g) (h1 : n ≤ cap) (h2 : cap ≤ maxLen) : RowF F w (.slice (some ⟨g, 0, none⟩) n cap) n c (mkCells z (n * c)) :=
  ⟨mkCells_length _ _, _, cap, rfl, h1, h2, .inr ⟨g, rfl, hF, h.1, fun j hj => ⟨by rw [mkCells_get hj]; exact h.2.2 j hj, (h.2.1 j hj).2⟩⟩⟩
theorem RowF.nil {F : Nat → Prop} {w : World} {a : Option Addr} {cap c : Nat} {z : Int} (h2 : cap ≤ maxLen) : RowF F w (.slice a 0 cap) 0 c (mkCells z (0 * c)) :=
  ⟨by simp [mkCells], a, cap, rfl, Nat.zero_le _, h2, .inl rfl⟩
theorem RowF.marked {F : Nat → Prop} {w : World} {x : Value} {n c : Nat} {z : Int} (h : RowF F w x n c (mkCells z (n * c))) : ∃ a cap, x = .slice a n cap ∧ (n = 0 ∨ ∃ g, a = some ⟨g, 0, none⟩ ∧ ∀ j, j < n * c → w.cell? ⟨g, j, none⟩ = some (.int .i64 (z + (j : Int)))) := by
  obtain ⟨hl, a, cap, rfl, h1, h2, h⟩ := h
  refine ⟨a, cap, rfl, h.imp id ?_⟩
  rintro ⟨g, rfl, hF, hg, hc⟩
  exact ⟨g, rfl, fun j hj => by rw [(hc j hj).1, mkCells_get hj]⟩
theorem one_add (w : World) (g o : Nat) (u : Value) : Turns (fun b => b = g) w (w.setCell ⟨g, o, none⟩ u) := (Turns.refl (fun b => b = g) w).setCell (p := ⟨g, o, none⟩) rfl _

set_option maxHeartbeats 2000000 in
theorem markIF {F : Nat → Prop} {x : Value} {n : Nat} {cs : List Value} {w : World} (z : Int) (hn : n ≤ 1048577) (hz0 : 0 ≤ z) (hz1 : z ≤ 1073741824) (h : RowF F w x n 1 cs) :
    Calls Try.prog 44 #[x, .int .i64 z] w fun e w' => e = .returned (.int .i64 (z + (n : Int))) ∧ RowF F w' x n 1 (mkCells z (n * 1)) ∧ Turns F w w' := by
  obtain ⟨a, cap, rfl, h1, h2, h⟩ := h.mkTo z
  have HM : Hid (n ≤ cap ∧ cap ≤ maxLen) := ⟨h1, h2⟩
  clear h1 h2
  by_cases hz : n = 0
  · subst hz
    clear h
    go_enter Try.func44, Try.ntmps44
    go_wp2
    go_loop [5, 1] (fun i y => i = .int .i64 0 ∧ y = .int .i64 z) (fun _ _ => 0)
    case atStart => exact ⟨rfl, rfl⟩
    case round =>
      obtain ⟨rfl, rfl⟩ := hrel
      go_wp2
      go_ret
      exact ⟨ret_int (by simp), RowF.nil HM.out.2, Turns.refl _ _⟩
  · obtain ⟨g, rfl, hF, h⟩ := h.resolve_left hz
    have HR0 : Hid (MkTo w g n z 0) := by rw [Nat.mul_one] at h; exact h
    have HF : Hid (F g) := hF
    clear h hz hF
    go_enter Try.func44, Try.ntmps44
    go_wp2
    go_loopw [5, 1] (fun i y wr => ∃ k : Nat, k ≤ n ∧ i = .int .i64 k ∧ y = .int .i64 (z + (k : Int)) ∧ MkTo wr g n z k ∧ Turns (fun b => b = g) w wr) (fun i _ _ => n - (intOf i).toNat)
    case atStart => exact ⟨0, Nat.zero_le _, rfl, by simp, HR0.out, Turns.refl _ _⟩
    case round =>
      obtain ⟨k, hk, rfl, rfl, hR, hg⟩ := hrel
      have HR : Hid (MkTo wr g n z k) := hR
      have HG : Hid (Turns (fun b => b = g) w wr) := hg
      clear hR hg
      by_cases hlt : k < n
      · obtain ⟨v, hv⟩ := Option.isSome_iff_exists.1 (HR.out.2.1 k hlt).1
        have hf := (HR.out.2.1 k hlt).2
        obtain ⟨y, hy⟩ : ∃ y : Int, y = z + (k : Int) := ⟨_, rfl⟩
        have hy0 : 0 ≤ y := by omega
        have hy1 : y ≤ 1075000000 := by omega
        have HY : Hid (y = z + (k : Int)) := hy
        rw [← hy]
        clear hy
        go_wp2
        go_roundw
        case rel => exact ⟨k + 1, by omega, by go_num, by rw [show y + 1 = z + ((k + 1 : Nat) : Int) from by have := HY.out; omega], HR.out.put hlt HY.out, HG.out.trans (one_add _ _ _ _)⟩
        case measure => simp [intOf]; omega
      · go_wp2
        go_ret
        obtain rfl : k = n := by omega
        exact ⟨rfl, MkTo.row (by rw [Nat.mul_one]; exact HR.out) HF.out HM.out.1 HM.out.2, HG.out.mono (fun k e => e ▸ HF.out)⟩

set_option maxHeartbeats 2000000 in
theorem heldIF {F : Nat → Prop} {x : Value} {n : Nat} {w : World} (z : Int) (hn : n ≤ 1048577) (hz0 : 0 ≤ z) (hz1 : z ≤ 1073741824) (h : RowF F w x n 1 (mkCells z (n * 1))) :
    Calls Try.prog 47 #[x, .int .i64 z] w fun e w' => e = .returned (.int .i64 (z + (n : Int))) ∧ w' = w := by
  obtain ⟨a, cap, rfl, hm⟩ := h.marked
  clear h
  by_cases hz : n = 0
  · subst hz
    clear hm
    go_enter Try.func47, Try.ntmps47
    go_wp2
    go_loop [5, 1] (fun i y => i = .int .i64 0 ∧ y = .int .i64 z) (fun _ _ => 0)
    case atStart => exact ⟨rfl, rfl⟩
    case round =>
      obtain ⟨rfl, rfl⟩ := hrel
      go_wp2
      go_ret
      exact ⟨ret_int (by simp), rfl⟩
  · obtain ⟨g, rfl, h⟩ := hm.resolve_left hz
    have HR : Hid (∀ j, j < n * 1 → w.cell? ⟨g, j, none⟩ = some (.int .i64 (z + (j : Int)))) := h
    clear h hz hm
    go_enter Try.func47, Try.ntmps47
    go_wp2
    go_loop [5, 1] (fun i y => ∃ k : Nat, k ≤ n ∧ i = .int .i64 k ∧ y = .int .i64 (z + (k : Int))) (fun i _ => n - (intOf i).toNat)
    case atStart => exact ⟨0, Nat.zero_le _, rfl, by simp⟩
    case round =>
      obtain ⟨k, hk, rfl, rfl⟩ := hrel
      by_cases hlt : k < n
      · have hev := HR.out k (by omega)
        obtain ⟨y, hy⟩ : ∃ y : Int, y = z + (k : Int) := ⟨_, rfl⟩
        have hy0 : 0 ≤ y := by omega
        have hy1 : y ≤ 1075000000 := by omega
        have HY : Hid (y = z + (k : Int)) := hy
        rw [← hy] at hev ⊢
        clear hy
        go_wp2
        go_round
        case rel => exact ⟨k + 1, by omega, by go_num, by rw [show y + 1 = z + ((k + 1 : Nat) : Int) from by have := HY.out; omega]⟩
        case measure => simp [intOf]; omega
      · go_wp2
        go_ret
        obtain rfl : k = n := by omega
        exact ⟨rfl, rfl⟩

set_option maxHeartbeats 4000000 in
theorem markEF {F : Nat → Prop} {x : Value} {n : Nat} {cs : List Value} {w : World} (z : Int) (hn : n ≤ 1048577) (hz0 : 0 ≤ z) (hz1 : z ≤ 1073741824) (h : RowF F w x n 7 cs) :
    Calls Try.prog 19 #[x, .int .i64 z] w fun e w' => e = .returned (.int .i64 (z + 7 * (n : Int))) ∧ RowF F w' x n 7 (mkCells z (n * 7)) ∧ Turns F w w' := by
  obtain ⟨a, cap, rfl, h1, h2, h⟩ := h.mkTo z
  have HM : Hid (n ≤ cap ∧ cap ≤ maxLen) := ⟨h1, h2⟩
  clear h1 h2
  by_cases hz : n = 0
  · subst hz
    clear h
    go_enter Try.func19, Try.ntmps19
    go_wp2
    go_loop [5, 1] (fun i y => i = .int .i64 0 ∧ y = .int .i64 z) (fun _ _ => 0)
    case atStart => exact ⟨rfl, rfl⟩
    case round =>
      obtain ⟨rfl, rfl⟩ := hrel
      go_wp2
      go_ret
      exact ⟨ret_int (by simp), RowF.nil HM.out.2, Turns.refl _ _⟩
  · obtain ⟨g, rfl, hF, h⟩ := h.resolve_left hz
    have HR0 : Hid (MkTo w g (n * 7) z 0) := h
    have HF : Hid (F g) := hF
    clear h hz hF
    go_enter Try.func19, Try.ntmps19
    go_wp2
    go_loopw [5, 1] (fun i y wr => ∃ k : Nat, k ≤ n ∧ i = .int .i64 k ∧ y = .int .i64 (z + 7 * (k : Int)) ∧ MkTo wr g (n * 7) z (k * 7) ∧ Turns (fun b => b = g) w wr) (fun i _ _ => n - (intOf i).toNat)
    case atStart => exact ⟨0, Nat.zero_le _, rfl, by simp, by rw [Nat.zero_mul]; exact HR0.out, Turns.refl _ _⟩
    case round =>
      obtain ⟨k, hk, rfl, rfl, hR, hg⟩ := hrel
      have HR : Hid (MkTo wr g (n * 7) z (k * 7)) := hR
      have HG : Hid (Turns (fun b => b = g) w wr) := hg
      clear hR hg
      by_cases hlt : k < n
      · have hh : ∀ j, j < 7 → (∃ u, wr.cell? ⟨g, k * 7 + j, none⟩ = some u) ∧ wr.frozen? ⟨g, k * 7 + j, none⟩ = false := fun j hj => ⟨Option.isSome_iff_exists.1 (HR.out.2.1 _ (by omega)).1, (HR.out.2.1 _ (by omega)).2⟩
        obtain ⟨⟨v0, g0⟩, f0⟩ := hh 0 (by omega)
        obtain ⟨⟨v1, g1⟩, f1⟩ := hh 1 (by omega)
        obtain ⟨⟨v2, g2⟩, f2⟩ := hh 2 (by omega)
        obtain ⟨⟨v3, g3⟩, f3⟩ := hh 3 (by omega)
        obtain ⟨⟨v4, g4⟩, f4⟩ := hh 4 (by omega)
        obtain ⟨⟨v5, g5⟩, f5⟩ := hh 5 (by omega)
        obtain ⟨⟨v6, g6⟩, f6⟩ := hh 6 (by omega)
        rw [Nat.add_zero] at g0 f0
        clear hh
        obtain ⟨y, hy⟩ : ∃ y : Int, y = z + 7 * (k : Int) := ⟨_, rfl⟩
        have hy0 : 0 ≤ y := by omega
        have hy1 : y ≤ 1090000000 := by omega
        have HY : Hid (y = z + 7 * (k : Int)) := hy
        rw [← hy]
        clear hy
        go_wp2
        go_roundw
        case rel =>
          have hY := HY.out
          refine ⟨k + 1, by omega, by go_num, by rw [show y + 1 + 1 + 1 + 1 + 1 + 1 + 1 = z + 7 * ((k + 1 : Nat) : Int) from by omega], ?_, ?_⟩
          · rw [show (k + 1) * 7 = k * 7 + 7 from by omega]
            exact ((((((HR.out.put (by omega) (u := y) (by omega)).put (by omega) (u := y + 1) (by omega)).put (by omega) (u := y + 1 + 1) (by omega)).put (by omega) (u := y + 1 + 1 + 1) (by omega)).put (by omega) (u := y + 1 + 1 + 1 + 1) (by omega)).put (by omega) (u := y + 1 + 1 + 1 + 1 + 1) (by omega)).put (by omega) (u := y + 1 + 1 + 1 + 1 + 1 + 1) (by omega)
          · exact HG.out.trans (((((((one_add wr g _ _).trans (one_add _ _ _ _)).trans (one_add _ _ _ _)).trans (one_add _ _ _ _)).trans (one_add _ _ _ _)).trans (one_add _ _ _ _)).trans (one_add _ _ _ _))
        case measure => simp [intOf]; omega
      · go_wp2
        go_ret
        obtain rfl : k = n := by omega
        exact ⟨rfl, MkTo.row HR.out HF.out HM.out.1 HM.out.2, HG.out.mono (fun k e => e ▸ HF.out)⟩

set_option maxHeartbeats 4000000 in
theorem heldEF {F : Nat → Prop} {x : Value} {n : Nat} {w : World} (z : Int) (hn : n ≤ 1048577) (hz0 : 0 ≤ z) (hz1 : z ≤ 1073741824) (h : RowF F w x n 7 (mkCells z (n * 7))) :
    Calls Try.prog 20 #[x, .int .i64 z] w fun e w' => e = .returned (.int .i64 (z + 7 * (n : Int))) ∧ w' = w := by
  obtain ⟨a, cap, rfl, hm⟩ := h.marked
  clear h
  by_cases hz : n = 0
  · subst hz
    clear hm
    go_enter Try.func20, Try.ntmps20
    go_wp2
    go_loop [5, 1] (fun i y => i = .int .i64 0 ∧ y = .int .i64 z) (fun _ _ => 0)
    case atStart => exact ⟨rfl, rfl⟩
    case round =>
      obtain ⟨rfl, rfl⟩ := hrel
      go_wp2
      go_ret
      exact ⟨ret_int (by simp), rfl⟩
  · obtain ⟨g, rfl, h⟩ := hm.resolve_left hz
    have HR : Hid (∀ j, j < n * 7 → w.cell? ⟨g, j, none⟩ = some (.int .i64 (z + (j : Int)))) := h
    clear h hz hm
    go_enter Try.func20, Try.ntmps20
    go_wp2
    go_loop [5, 1] (fun i y => ∃ k : Nat, k ≤ n ∧ i = .int .i64 k ∧ y = .int .i64 (z + 7 * (k : Int))) (fun i _ => n - (intOf i).toNat)
    case atStart => exact ⟨0, Nat.zero_le _, rfl, by simp⟩
    case round =>
      obtain ⟨k, hk, rfl, rfl⟩ := hrel
      by_cases hlt : k < n
      · have hh := fun j (hj : j < 7) => HR.out (k * 7 + j) (by omega)
        obtain ⟨y, hy⟩ : ∃ y : Int, y = z + 7 * (k : Int) := ⟨_, rfl⟩
        have g0 := hh 0 (by omega)
        rw [show z + ((k * 7 + 0 : Nat) : Int) = y from by omega] at g0
        have g1 := hh 1 (by omega)
        rw [show z + ((k * 7 + 1 : Nat) : Int) = y + 1 from by omega] at g1
        have g2 := hh 2 (by omega)
        rw [show z + ((k * 7 + 2 : Nat) : Int) = y + 1 + 1 from by omega] at g2
        have g3 := hh 3 (by omega)
        rw [show z + ((k * 7 + 3 : Nat) : Int) = y + 1 + 1 + 1 from by omega] at g3
        have g4 := hh 4 (by omega)
        rw [show z + ((k * 7 + 4 : Nat) : Int) = y + 1 + 1 + 1 + 1 from by omega] at g4
        have g5 := hh 5 (by omega)
        rw [show z + ((k * 7 + 5 : Nat) : Int) = y + 1 + 1 + 1 + 1 + 1 from by omega] at g5
        have g6 := hh 6 (by omega)
        rw [show z + ((k * 7 + 6 : Nat) : Int) = y + 1 + 1 + 1 + 1 + 1 + 1 from by omega] at g6
        rw [Nat.add_zero] at g0
        clear hh
        have hy0 : 0 ≤ y := by omega
        have hy1 : y ≤ 1090000000 := by omega
        have HY : Hid (y = z + 7 * (k : Int)) := hy
        rw [← hy]
        clear hy
        go_wp2
        go_round
        case rel => exact ⟨k + 1, by omega, by go_num, by rw [show y + 1 + 1 + 1 + 1 + 1 + 1 + 1 = z + 7 * ((k + 1 : Nat) : Int) from by have := HY.out; omega]⟩
        case measure => simp [intOf]; omega
      · go_wp2
        go_ret
        obtain rfl : k = n := by omega
        exact ⟨rfl, rfl⟩
end Go.Proofs.Ytdcnimdhfhbdmaa

/- szModel: whether there is too much of it. -/
namespace Go.Proofs.Ytdcnimdhfhbdmaa
open Go.RowKit
def szN (n left : Int) : Int := if left - n < 0 then -1 else left - n
set_option maxHeartbeats 400000 in
theorem szI_any (a : Option Addr) (n cap : Nat) (left : Int) (w : World) (hn : n ≤ maxLen) (h0 : 0 ≤ left) (h1 : left ≤ 1048576) :
    Calls Try.prog 24 #[.slice a n cap, .int .i64 left] w fun e w' => e = .returned (.int .i64 (szN n left)) ∧ w' = w := by
  unfold maxLen at hn
  by_cases hp : left - (n : Int) < 0
  · go_enter Try.func24, Try.ntmps24
    go_wp2
    go_ret
    exact ⟨ret_int (by unfold szN; rw [if_pos hp]), rfl⟩
  · go_enter Try.func24, Try.ntmps24
    go_wp2
    go_ret
    exact ⟨ret_int (by unfold szN; rw [if_neg (by omega)]), rfl⟩
set_option maxHeartbeats 400000 in
theorem szE_any (a : Option Addr) (n cap : Nat) (left : Int) (w : World) (hn : n ≤ maxLen) (h0 : 0 ≤ left) (h1 : left ≤ 1048576) :
    Calls Try.prog 23 #[.slice a n cap, .int .i64 left] w fun e w' => e = .returned (.int .i64 (szN n left)) ∧ w' = w := by
  unfold maxLen at hn
  by_cases hp : left - (n : Int) < 0
  · go_enter Try.func23, Try.ntmps23
    go_wp2
    go_ret
    exact ⟨ret_int (by unfold szN; rw [if_pos hp]), rfl⟩
  · go_enter Try.func23, Try.ntmps23
    go_wp2
    go_ret
    exact ⟨ret_int (by unfold szN; rw [if_neg (by omega)]), rfl⟩
/- Either all rows are small, and a number of 0 .. 1048576 comes back, or -1 does. -/
def sumL (L : Nat → Nat) : Nat → Nat
  | 0 => 0
  | k + 1 => sumL L k + L k
def lens (l : List (List O)) (i : Nat) : Nat := (hAt l i).length
def SzH (l : List (List O)) (left r : Int) : Prop := (r = -1) ∨ (0 ≤ r ∧ r ≤ left ∧ (l.length : Int) ≤ 1048576 ∧ (∀ i, (hAt l i).length ≤ 1048576) ∧ sumL (lens l) l.length ≤ 1048576)
theorem hAt_out {l : List (List O)} {i : Nat} (h : l.length ≤ i) : hAt l i = [] := by simp [hAt, h]
end Go.Proofs.Ytdcnimdhfhbdmaa

/- markOpSS, heldOpSS. -/
namespace Go.Proofs.Ytdcnimdhfhbdmaa
open Go.RowKit
theorem sumL_mono (L : Nat → Nat) : ∀ {i j : Nat}, i ≤ j → sumL L i ≤ sumL L j := by
  intro i j h
  induction h with
  | refl => exact Nat.le_refl _
  | step _ ih => exact Nat.le_trans ih (by simp [sumL])
theorem RowsF.step {F : Nat → Prop} {w : World} {x : Value} {n : Nat} {U : Nat → Value} {L : Nat → Nat} {C : Nat → List Value} (h : RowsF F w x n U L C) {k : Nat} (hk : k < n) :
    ∃ K : Nat → Prop, RowF K w (U k) (L k) 4 (C k) ∧ (∀ b, K b → F b) ∧ ∀ w' cs, RowF K w' (U k) (L k) 4 cs → Turns K w w' → RowsF F w' x n U L (fun i => if i = k then cs else C i) := by
  obtain ⟨F0, G, h0, hF, h1, h2⟩ := h
  refine ⟨G k, (h1 k hk).1, fun b hb => ((h1 k hk).2 b hb).1, fun w' cs hr ht => ⟨F0, G, h0.turns ht (fun b hb hg => ((h1 k hk).2 b hg).2 hb), hF, fun i hi => ⟨?_, (h1 i hi).2⟩, h2⟩⟩
  by_cases e : i = k
  · subst e
    simpa using hr
  · simp only [if_neg e]
    exact (h1 i hi).1.turns ht (fun b hb hg => h2 i k hi hk e b hb hg)
theorem RowsF.slice {F : Nat → Prop} {w : World} {x : Value} {n : Nat} {U : Nat → Value} {L : Nat → Nat} {C : Nat → List Value} (h : RowsF F w x n U L C) : ∃ a cap, x = .slice a n cap ∧ (n = 0 ∨ ∃ g, a = some ⟨g, 0, none⟩) := by
  obtain ⟨F0, G, ⟨_, a, cap, e, _, _, h⟩, _⟩ := h
  exact ⟨a, cap, e, h.imp id (fun ⟨g, e, _⟩ => ⟨g, e⟩)⟩
theorem RowsF.cell {F : Nat → Prop} {w : World} {n cap g : Nat} {U : Nat → Value} {L : Nat → Nat} {C : Nat → List Value} (h : RowsF F w (.slice (some ⟨g, 0, none⟩) n cap) n U L C) {i : Nat} (hi : i < n) : w.cell? ⟨g, i, none⟩ = some (U i) := by
  obtain ⟨F0, G, ⟨_, a, cap', e, _, _, h⟩, _⟩ := h
  rcases h with h | ⟨g', e', _, _, hc⟩
  · omega
  · subst e'
    simp at e
    obtain ⟨rfl, rfl⟩ := e
    rw [(hc i (by omega)).1]
    simp [hi]
theorem RowsF.len {F : Nat → Prop} {w : World} {x : Value} {n : Nat} {U : Nat → Value} {L : Nat → Nat} {C : Nat → List Value} (h : RowsF F w x n U L C) {i : Nat} (hi : i < n) : ∃ a cap, U i = .slice a (L i) cap := by
  obtain ⟨F0, G, _, _, h1, _⟩ := h
  obtain ⟨⟨_, a, cap, e, _⟩, _⟩ := h1 i hi
  exact ⟨a, cap, e⟩
def mkRows (z : Int) (L : Nat → Nat) (i : Nat) : List Value := mkCells (z + 4 * (sumL L i : Int)) (L i * 4)
theorem RowsF.congr {F : Nat → Prop} {w : World} {x : Value} {n : Nat} {U : Nat → Value} {L : Nat → Nat} {C C' : Nat → List Value} (h : RowsF F w x n U L C) (hC : ∀ i, i < n → C i = C' i) : RowsF F w x n U L C' := by
  obtain ⟨F0, G, h0, hF, h1, h2⟩ := h
  exact ⟨F0, G, h0, hF, fun i hi => by rw [← hC i hi]; exact h1 i hi, h2⟩

end Go.Proofs.Ytdcnimdhfhbdmaa

/- toOpSS: rows of ops, each copied into a row of its own. -/
namespace Go.Proofs.Ytdcnimdhfhbdmaa
open Go.RowKit
theorem OAt.turns {S : Nat → Prop} {w w' : World} {b o : Nat} {e : O} (h : OAt w b o e) (ht : Turns S w w') (hb : b < w.heap.size) (hS : ¬ S b) : OAt w' b o e :=
  ⟨(ht.cell hb hS).trans h.f0, (ht.cell hb hS).trans h.f1, (ht.cell hb hS).trans h.f2, (ht.cell hb hS).trans h.f3⟩
theorem FillO.turns {S : Nat → Prop} {w w' : World} {g n k : Nat} {l : List O} (h : FillO w g n l k) (ht : Turns S w w') (hS : ¬ S g) : FillO w' g n l k :=
  ⟨Nat.lt_of_lt_of_le h.1 ht.size, fun j hj => by rw [ht.cell h.1 hS, ht.frozen h.1 hS]; exact h.2.1 j hj, fun i hi => (h.2.2 i hi).turns ht h.1 hS⟩
/- As far as k the block g holds rows of their own, each in a block of its own, later ones in later blocks. -/
def FillH (w : World) (g n : Nat) (l : List (List O)) (k : Nat) : Prop := g < w.heap.size ∧ (∀ j, j < n → (w.cell? ⟨g, j, none⟩).isSome = true ∧ w.frozen? ⟨g, j, none⟩ = false) ∧
  ∃ G : Nat → Nat, ∀ i, i < k → w.cell? ⟨g, i, none⟩ = some (sl (G i) (hAt l i).length) ∧ FillO w (G i) (hAt l i).length (hAt l i) (hAt l i).length ∧ g < G i ∧ ∀ j, j < i → G j < G i
theorem FillH.below {w w' : World} {g n k : Nat} {l : List (List O)} (h : FillH w g n l k) (hb : Below w.heap.size w w') : FillH w' g n l k := by
  obtain ⟨h1, h2, G, h3⟩ := h
  refine ⟨Nat.lt_of_lt_of_le h1 hb.size, fun j hj => by rw [hb.cell (p := ⟨g, j, none⟩) h1, hb.frozen (p := ⟨g, j, none⟩) h1]; exact h2 j hj, G, fun i hi => ?_⟩
  obtain ⟨a, b, c, d⟩ := h3 i hi
  exact ⟨(hb.cell (p := ⟨g, i, none⟩) h1).trans a, b.below hb b.1, c, d⟩
theorem FillH.put {w : World} {g n k R : Nat} {l : List (List O)} (h : FillH w g n l k) (hk : k < n) (hr : FillO w R (hAt l k).length (hAt l k) (hAt l k).length) (hg : g < R) (hnew : ∀ j, j < k → ∀ r, w.cell? ⟨g, j, none⟩ = some (sl r (hAt l j).length) → r < R) :
    FillH (w.setCell ⟨g, k, none⟩ (sl R (hAt l k).length)) g n l (k + 1) := by
  obtain ⟨h1, h2, G, h3⟩ := h
  have e1 : w.setCell ⟨g, k, none⟩ (sl R (hAt l k).length) = w.setCells g k [sl R (hAt l k).length] := rfl
  have hsame : ∀ j, j ≠ k → (w.setCell ⟨g, k, none⟩ (sl R (hAt l k).length)).cell? ⟨g, j, none⟩ = w.cell? ⟨g, j, none⟩ := fun j hj => by
    rw [e1]
    exact World.cell?_setCells_out g _ k w ⟨g, j, none⟩ (fun _ _ => by simp; omega)
  have hat : (w.setCell ⟨g, k, none⟩ (sl R (hAt l k).length)).cell? ⟨g, k, none⟩ = some (sl R (hAt l k).length) := by
    rw [e1]
    have h0 := World.cell?_setCells_in g [sl R (hAt l k).length] k w (fun j hj => by
      obtain rfl : j = 0 := by simpa using hj
      exact (h2 k hk).1) 0 (by simp)
    simpa using h0
  have ht : Turns (fun b => b = g) w (w.setCell ⟨g, k, none⟩ (sl R (hAt l k).length)) := (Turns.refl (fun b => b = g) w).setCell (p := ⟨g, k, none⟩) rfl _
  refine ⟨by simpa using h1, fun j hj => ⟨?_, ?_⟩, fun i => if i = k then R else G i, fun i hi => ?_⟩
  · by_cases e : j = k
    · subst e; rw [hat]; rfl
    · rw [hsame j e]; exact (h2 j hj).1
  · rw [e1, World.frozen?_setCells]; exact (h2 j hj).2
  · by_cases e : i = k
    · subst e
      simp only [if_true]
      refine ⟨hat, hr.turns ht (by omega), hg, fun j hj => ?_⟩
      rw [if_neg (by omega)]
      exact hnew j hj _ (h3 j hj).1
    · obtain ⟨a, b, c, d⟩ := h3 i (by omega)
      simp only [if_neg e]
      refine ⟨(hsame i e).trans a, b.turns ht (by omega), c, fun j hj => ?_⟩
      rw [if_neg (by omega)]
      exact d j hj
theorem FillH.old {w : World} {g n k : Nat} {l : List (List O)} (h : FillH w g n l k) : ∀ j, j < k → ∀ r, w.cell? ⟨g, j, none⟩ = some (sl r (hAt l j).length) → r < w.heap.size := by
  obtain ⟨h1, h2, G, h3⟩ := h
  intro j hj r hr
  obtain ⟨a, b, _⟩ := h3 j hj
  rw [a] at hr
  simp at hr
  exact hr ▸ b.1
theorem FillH.rows {w : World} {g : Nat} {l : List (List O)} (h : FillH w g l.length l l.length) (hl : l.length ≤ maxLen) (hr : ∀ i, (hAt l i).length ≤ maxLen) : HsF (fun k => g ≤ k ∧ k < w.heap.size) w (sl g l.length) l := by
  obtain ⟨h1, h2, G, h3⟩ := h
  refine ⟨fun i => sl (G i) (hAt l i).length, fun k => k = g, fun i k => k = G i, ⟨by simp, _, _, rfl, Nat.le_refl _, hl, .inr ⟨g, rfl, rfl, h1, fun j hj => ?_⟩⟩, fun k e => by subst e; exact ⟨Nat.le_refl _, h1⟩, fun i hi => ⟨(h3 i hi).2.1.row (hr i), fun k e => ?_⟩, fun i j hi hj hij k e1 e2 => ?_⟩
  · have hj' : j < l.length := by omega
    refine ⟨?_, (h2 j hj').2⟩
    rw [(h3 j hj').1]
    simp [hj']
  · obtain ⟨_, b, c, _⟩ := h3 i hi
    subst e
    exact ⟨⟨Nat.le_of_lt c, b.1⟩, by omega⟩
  · rcases Nat.lt_or_gt_of_ne hij with h | h
    · have := (h3 j hj).2.2.2 i h; omega
    · have := (h3 i hi).2.2.2 j h; omega
end Go.Proofs.Ytdcnimdhfhbdmaa

/- eqOp, eqOpS where both sides are the same. -/
namespace Go.Proofs.Ytdcnimdhfhbdmaa
open Go.RowKit
/- eqOpSS where both sides are the same. -/
theorem IsO.slice {w : World} {u : Value} {l : List O} (h : IsO w u l) : ∃ a cap, u = .slice a l.length cap := by
  obtain ⟨a, cap, e, _⟩ := h
  exact ⟨a, cap, e⟩
end Go.Proofs.Ytdcnimdhfhbdmaa

/- eqEvent and eqEventS where both sides are the same. -/
namespace Go.Proofs.Ytdcnimdhfhbdmaa
open Go.RowKit
set_option maxHeartbeats 1000000 in
theorem eqEvent_same (t s q d k v g : Int) (w : World) :
    Calls Try.prog 54 #[.agg #[.int .i64 t, .int .i64 s, .int .i64 q, .int .i64 d, .int .i64 k, .int .i64 v, .int .i64 g], .agg #[.int .i64 t, .int .i64 s, .int .i64 q, .int .i64 d, .int .i64 k, .int .i64 v, .int .i64 g]] w fun e w' => e = .returned (.bool true) ∧ Below w.heap.size w w' := by
  go_enter Try.func54, Try.ntmps54
  go_wp2
  go_ret
  exact ⟨rfl, ((Below.refl _ _).alloc (Nat.le_refl _) _).alloc (by simp) _⟩

set_option maxHeartbeats 1000000 in
theorem eqS_same (x y : Value) (l : List Ev) (w : World) (hl : l.length ≤ 1048576) (hx : IsEvs w x l) (hy : IsEvs w y l) :
    Calls Try.prog 18 #[x, y] w fun e w' => e = .returned (.bool true) ∧ Below w.heap.size w w' := by
  obtain ⟨a, cap, rfl, h1, h2, h⟩ := hx
  obtain ⟨a', cap', rfl, h1', h2', h'⟩ := hy
  clear h1 h2 h1' h2'
  by_cases hz : l = []
  · subst hz
    clear h h'
    go_enter Try.func18, Try.ntmps18
    go_wp2
    go_loop [5] (fun i => i = .int .i64 0) (fun _ => 0)
    case atStart => rfl
    case round =>
      subst hrel
      go_wp2
      go_ret
      exact ⟨rfl, Below.refl _ _⟩
  · obtain ⟨b, off, rfl, hb, hc⟩ := h.resolve_left hz
    obtain ⟨b', off', rfl, hb', hc'⟩ := h'.resolve_left hz
    clear h h' hz
    go_enter Try.func18, Try.ntmps18
    go_wp2
    go_loopw [5] (fun i wr => ∃ k : Nat, k ≤ l.length ∧ i = .int .i64 k ∧ Below w.heap.size w wr) (fun i _ => l.length - (intOf i).toNat)
    case atStart => exact ⟨0, Nat.zero_le _, rfl, Below.refl _ _⟩
    case round =>
      obtain ⟨k, hk, rfl, hB⟩ := hrel
      have HB : Hid (Below w.heap.size w wr) := hB
      by_cases hlt : k < l.length
      · obtain ⟨f0, f1, f2, f3, f4, f5, f6⟩ := (hc k hlt).below hB hb
        obtain ⟨e0, e1, e2, e3, e4, e5, e6⟩ := (hc' k hlt).below hB hb'
        have hbr : b < wr.heap.size := Nat.lt_of_lt_of_le hb hB.size
        have hbr' : b' < wr.heap.size := Nat.lt_of_lt_of_le hb' hB.size
        clear hB hc hc'
        go_wp2_with fail
        go_region_held3 (fun W => W.cell? ⟨b, off + k * 7, none⟩ = some (.int .i64 (evAt l k).t) ∧ W.cell? ⟨b, off + k * 7 + 1, none⟩ = some (.int .i64 (evAt l k).s) ∧ W.cell? ⟨b, off + k * 7 + 2, none⟩ = some (.int .i64 (evAt l k).q) ∧ W.cell? ⟨b, off + k * 7 + 3, none⟩ = some (.int .i64 (evAt l k).d) ∧ W.cell? ⟨b, off + k * 7 + 4, none⟩ = some (.int .i64 (evAt l k).k) ∧ W.cell? ⟨b, off + k * 7 + 5, none⟩ = some (.int .i64 (evAt l k).v) ∧ W.cell? ⟨b, off + k * 7 + 6, none⟩ = some (.int .i64 (evAt l k).g) ∧ W.cell? ⟨b', off' + k * 7, none⟩ = some (.int .i64 (evAt l k).t) ∧ W.cell? ⟨b', off' + k * 7 + 1, none⟩ = some (.int .i64 (evAt l k).s) ∧ W.cell? ⟨b', off' + k * 7 + 2, none⟩ = some (.int .i64 (evAt l k).q) ∧ W.cell? ⟨b', off' + k * 7 + 3, none⟩ = some (.int .i64 (evAt l k).d) ∧ W.cell? ⟨b', off' + k * 7 + 4, none⟩ = some (.int .i64 (evAt l k).k) ∧ W.cell? ⟨b', off' + k * 7 + 5, none⟩ = some (.int .i64 (evAt l k).v) ∧ W.cell? ⟨b', off' + k * 7 + 6, none⟩ = some (.int .i64 (evAt l k).g)) ((repeat' apply And.intro) <;> first | (go_keep; done) | (rw [hcA _ _ (by first | omega | (simp; omega) | simp [*])]; simp [*]; done))
          (first | (go_at_call 54; refine (eqEvent_same _ _ _ _ _ _ _ _).mono ?_; rintro e w2 ⟨rfl, hb2⟩; obtain ⟨hcA, hfA⟩ := bcell hb2))
        clear hcA hfA
        go_wp2
        go_roundw
        case rel => exact ⟨k + 1, by omega, by go_num, HB.out.drew.trans (hb2.mono (by have := HB.out.size; simpa using this))⟩
        case measure => simp [intOf]; omega
      · clear hB hc hc'
        go_wp2
        go_ret
        exact ⟨rfl, HB.out⟩
end Go.Proofs.Ytdcnimdhfhbdmaa

