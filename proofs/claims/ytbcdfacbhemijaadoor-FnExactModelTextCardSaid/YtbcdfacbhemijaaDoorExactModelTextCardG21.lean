/- VLow, NBytes, VToB, VLowB, MTurn, VOpen, Open, OpenS -/
import Derived.Test.YtbcdfacbhemijaaDoorExactModelTextCardG06
import Derived.Test.YtbcdfacbhemijaaDoorExactModelTextCardG00
import Derived.Lib.UnsafeStr
import Derived.OwnWalk
import Derived.Deep.RegionHeld3
import Derived.ProofKit
import Derived.ChangeOld
import Derived.OpenShut
import Derived.SizedLaws
import Derived.Test.YtbcdfacbhemijaaDoorRows
import Derived.Below
/- Rows of numbers: what stays where another row turns. -/
namespace Go.Proofs.YtbcdfacbhemijaaDoor
open Go.RowKit
/- As IsI, in a block below B. -/
def LowI (B : Nat) (w : World) (x : Value) (l : List Int) : Prop := ∃ a cap, x = .slice a l.length cap ∧ l.length ≤ cap ∧ cap ≤ maxLen ∧ (l = [] ∨ ∃ b off, a = some ⟨b, off, none⟩ ∧ b < B ∧ IntsAt w b off l)
theorem LowI.isI {B : Nat} {w : World} {x : Value} {l : List Int} (h : LowI B w x l) : IsI w x l := by
  obtain ⟨a, cap, rfl, h1, h2, h⟩ := h
  exact ⟨a, cap, rfl, h1, h2, h.imp id (fun ⟨b, off, e, _, h⟩ => ⟨b, off, e, h⟩)⟩
theorem IsI.low {w : World} {x : Value} {l : List Int} (h : IsI w x l) : LowI w.heap.size w x l := by
  obtain ⟨a, cap, rfl, h1, h2, h⟩ := h
  exact ⟨a, cap, rfl, h1, h2, h.imp id (fun ⟨b, off, e, h⟩ => ⟨b, off, e, h.1, h⟩)⟩
theorem LowI.below {B : Nat} {w w' : World} {x : Value} {l : List Int} (h : LowI B w x l) (hb : Below B w w') : LowI B w' x l := by
  obtain ⟨a, cap, rfl, h1, h2, h⟩ := h
  exact ⟨a, cap, rfl, h1, h2, h.imp id (fun ⟨b, off, e, hB, h⟩ => ⟨b, off, e, hB, h.below hb hB⟩)⟩
theorem OwnI.other {B g : Nat} {w w' : World} {x : Value} {l : List Int} (h : OwnI B w x l) (hg : g < B) (hgr : w.grownBy w' (some g)) : OwnI B w' x l := by
  obtain ⟨a, cap, rfl, h1, h2, h⟩ := h
  refine ⟨a, cap, rfl, h1, h2, h.imp id ?_⟩
  rintro ⟨b, rfl, hB, hf, hr⟩
  have hk : w'.heap[b]? = w.heap[b]? := hgr.block b hr.1 (by intro e; have := Option.some.inj e; omega)
  have hc : ∀ o, w'.cell? ⟨b, o, none⟩ = w.cell? ⟨b, o, none⟩ := fun o => World.cell?_of_block (w := w) hk
  have hz : ∀ o, w'.frozen? ⟨b, o, none⟩ = w.frozen? ⟨b, o, none⟩ := fun o => World.frozen?_of_block (w := w) hk
  exact ⟨b, rfl, hB, fun j hj => (hz j).trans (hf j hj), Nat.lt_of_lt_of_le hr.1 hgr.size, fun i hi => (hc _).trans (hr.2 i hi)⟩
/- An answer: a list of one's own and a flag. -/
def AnsI (B : Nat) (r : List Int) (b : Bool) (e : Ending) (w' : World) : Prop := ∃ v, e = .returned (.tuple #[v, .bool b]) ∧ OwnI B w' v r
end Go.Proofs.YtbcdfacbhemijaaDoor

/- Rows of numbers: eqByteS where both sides are the same, markByteS, heldByteS. -/
namespace Go.Proofs.YtbcdfacbhemijaaDoor.By
open Go.RowKit Go.Proofs.YtbcdfacbhemijaaDoor
def intAt (l : List UInt8) (i : Nat) : UInt8 := l.getD i 0
def intCells (l : List UInt8) : List Value := l.map (fun z => Value.int .u8 (z.toNat : Int))
/- The bytes of l lie in block b from off on. -/
def IntsAt (w : World) (b off : Nat) (l : List UInt8) : Prop := b < w.heap.size ∧ ∀ i, i < l.length → w.cell? ⟨b, off + i, none⟩ = some (.int .u8 ((intAt l i).toNat : Int))
def IsI (w : World) (x : Value) (l : List UInt8) : Prop := ∃ a cap, x = .slice a l.length cap ∧ l.length ≤ cap ∧ cap ≤ maxLen ∧ (l = [] ∨ ∃ b off, a = some ⟨b, off, none⟩ ∧ IntsAt w b off l)
theorem IntsAt.below {w w' : World} {B b off : Nat} {l : List UInt8} (h : IntsAt w b off l) (hb : Below B w w') (hB : b < B) : IntsAt w' b off l :=
  ⟨Nat.lt_of_lt_of_le h.1 hb.size, fun i hi => (hb.cell hB).trans (h.2 i hi)⟩
theorem IsI.below {w w' : World} {x : Value} {l : List UInt8} (h : IsI w x l) (hb : Below w.heap.size w w') : IsI w' x l := by
  obtain ⟨a, cap, rfl, h1, h2, h⟩ := h
  exact ⟨a, cap, rfl, h1, h2, h.imp id (fun ⟨b, off, e, h⟩ => ⟨b, off, e, h.below hb h.1⟩)⟩
/- The block g holds n cells that may be written; the first k of them hold the marks. -/
def MarkTo (w : World) (g n k : Nat) : Prop := g < w.heap.size ∧ (∀ j, j < n → (w.cell? ⟨g, j, none⟩).isSome = true ∧ w.frozen? ⟨g, j, none⟩ = false) ∧ ∀ i, i < k → w.cell? ⟨g, i, none⟩ = some (.int .u8 (((i : Int) + 1) % 256))
theorem MarkTo.below {w w' : World} {B g n k : Nat} (h : MarkTo w g n k) (hb : Below B w w') (hB : g < B) : MarkTo w' g n k :=
  ⟨Nat.lt_of_lt_of_le h.1 hb.size, fun j hj => by rw [hb.cell (p := ⟨g, j, none⟩) hB, hb.frozen (p := ⟨g, j, none⟩) hB]; exact h.2.1 j hj, fun i hi => (hb.cell hB).trans (h.2.2 i hi)⟩
theorem MarkTo.put {w : World} {g n k : Nat} (h : MarkTo w g n k) (hk : k < n) : MarkTo (w.setCell ⟨g, k, none⟩ (.int .u8 (((k : Int) + 1) % 256))) g n (k + 1) := by
  have e1 : w.setCell ⟨g, k, none⟩ (.int .u8 (((k : Int) + 1) % 256)) = w.setCells g k [.int .u8 (((k : Int) + 1) % 256)] := rfl
  have hsame : ∀ j, j ≠ k → (w.setCell ⟨g, k, none⟩ (.int .u8 (((k : Int) + 1) % 256))).cell? ⟨g, j, none⟩ = w.cell? ⟨g, j, none⟩ := fun j hj => by
    rw [e1]
    exact World.cell?_setCells_out g _ k w ⟨g, j, none⟩ (fun _ _ => by simp; omega)
  have hat : (w.setCell ⟨g, k, none⟩ (.int .u8 (((k : Int) + 1) % 256))).cell? ⟨g, k, none⟩ = some (.int .u8 (((k : Int) + 1) % 256)) := by
    rw [e1]
    have h0 := World.cell?_setCells_in g [.int .u8 (((k : Int) + 1) % 256)] k w (fun j hj => by
      obtain rfl : j = 0 := by simpa using hj
      exact (h.2.1 k hk).1) 0 (by simp)
    simpa using h0
  refine ⟨by simpa using h.1, fun j hj => ?_, fun i hi => ?_⟩
  · refine ⟨?_, ?_⟩
    · by_cases e : j = k
      · subst e; rw [hat]; rfl
      · rw [hsame j e]; exact (h.2.1 j hj).1
    · rw [e1, World.frozen?_setCells]; exact (h.2.1 j hj).2
  · by_cases e : i = k
    · subst e; exact hat
    · rw [hsame i e]; exact h.2.2 i (by omega)
theorem grown_refl (w : World) (row : Option Nat) : w.grownBy w row := ⟨rfl, rfl, rfl, Nat.le_refl _, fun _ _ _ => rfl⟩
theorem grown_trans {w w' w'' : World} {row : Option Nat} (h : w.grownBy w' row) (h' : w'.grownBy w'' row) : w.grownBy w'' row :=
  ⟨h'.os.trans h.os, h'.tape.trans h.tape, h'.output.trans h.output, Nat.le_trans h.size h'.size, fun k hk hr => (h'.block k (Nat.lt_of_lt_of_le hk h.size) hr).trans (h.block k hk hr)⟩
theorem setCell_grown (w : World) (g o : Nat) (v : Value) : w.grownBy (w.setCell ⟨g, o, none⟩ v) (some g) := by
  refine ⟨?_, ?_, ?_, by simp, fun k _ hk => Below.heap_setCell _ _ _ _ (fun e => hk (by rw [e]))⟩
  all_goals (unfold World.setCell; rfl)

set_option maxHeartbeats 2000000 in
theorem eqI_same (x y : Value) (l : List UInt8) (w : World) (hl : l.length ≤ 4611686018427387904) (hx : IsI w x l) (hy : IsI w y l) :
    Calls Tryd.prog 9 #[x, y] w fun e w' => e = .returned (.bool true) ∧ Below w.heap.size w w' := by
  obtain ⟨a, cap, rfl, h1, h2, h⟩ := hx
  obtain ⟨a', cap', rfl, h1', h2', h'⟩ := hy
  clear h1 h2 h1' h2'
  by_cases hz : l = []
  · subst hz
    clear h h'
    go_enter Tryd.func9, Tryd.ntmps9
    go_wp2
    go_loop [5] (fun i => i = .int .i64 0) (fun _ => 0)
    case atStart => rfl
    case round =>
      subst hrel
      go_wp2
      go_ret
      exact ⟨rfl, Below.refl _ _⟩
  · obtain ⟨b, off, rfl, hb, hc⟩ := h.resolve_left hz
    obtain ⟨b', off', rfl, hb', hc'⟩ := h'.resolve_left hz
    clear h h' hz
    go_enter Tryd.func9, Tryd.ntmps9
    go_wp2
    go_loopw [5] (fun i wr => ∃ k : Nat, k ≤ l.length ∧ i = .int .i64 k ∧ Below w.heap.size w wr) (fun i _ => l.length - (intOf i).toNat)
    case atStart => exact ⟨0, Nat.zero_le _, rfl, Below.refl _ _⟩
    case round =>
      obtain ⟨k, hk, rfl, hB⟩ := hrel
      have HB : Hid (Below w.heap.size w wr) := hB
      by_cases hlt : k < l.length
      · have f0 := (hB.cell (p := ⟨b, off + k, none⟩) hb).trans (hc k hlt)
        have e0 := (hB.cell (p := ⟨b', off' + k, none⟩) hb').trans (hc' k hlt)
        generalize ((intAt l k).toNat : Int) = z at f0 e0
        clear hB hc hc'
        go_wp2_with fail
        go_region_held3 (fun W => W.cell? ⟨b, off + k, none⟩ = some (.int .u8 z) ∧ W.cell? ⟨b', off' + k, none⟩ = some (.int .u8 z)) ((repeat' apply And.intro) <;> go_keep) (fail)
        go_wp2
        go_roundw
        case rel => exact ⟨k + 1, by omega, by go_num, HB.out.drew⟩
        case measure => simp [intOf]; omega
      · clear hB hc hc'
        go_wp2
        go_ret
        exact ⟨rfl, HB.out⟩

set_option maxHeartbeats 2000000 in
theorem markI_any (g n cap : Nat) (w : World) (hn : n ≤ 4611686018427387904) (hR : MarkTo w g n 0) :
    Calls Tryd.prog 12 #[.slice (some ⟨g, 0, none⟩) n cap, .int .i64 1] w fun e w' => e = .returned (.int .i64 ((n : Int) + 1)) ∧ MarkTo w' g n n ∧ w.grownBy w' (some g) := by
  have HR0 : Hid (MarkTo w g n 0) := hR
  clear hR
  go_enter Tryd.func12, Tryd.ntmps12
  go_wp2
  go_loopw [5, 1] (fun i z wr => ∃ k : Nat, k ≤ n ∧ i = .int .i64 k ∧ z = .int .i64 ((k : Int) + 1) ∧ MarkTo wr g n k ∧ w.grownBy wr (some g)) (fun i _ _ => n - (intOf i).toNat)
  case atStart => exact ⟨0, Nat.zero_le _, rfl, rfl, HR0.out, grown_refl _ _⟩
  case round =>
    obtain ⟨k, hk, rfl, rfl, hR, hg⟩ := hrel
    have HR : Hid (MarkTo wr g n k) := hR
    have HG : Hid (w.grownBy wr (some g)) := hg
    clear hR hg
    by_cases hlt : k < n
    · obtain ⟨v, hv⟩ := Option.isSome_iff_exists.1 (HR.out.2.1 k hlt).1
      have hf := (HR.out.2.1 k hlt).2
      go_wp2
      go_roundw
      case rel => exact ⟨k + 1, by omega, by go_num, by go_num, HR.out.put hlt, grown_trans HG.out (setCell_grown _ _ _ _)⟩
      case measure => simp [intOf]; omega
    · go_wp2
      go_ret
      obtain rfl : k = n := by omega
      exact ⟨rfl, HR.out, HG.out⟩

set_option maxHeartbeats 2000000 in
theorem heldI_any (g n cap : Nat) (w : World) (hn : n ≤ 4611686018427387904) (hR : MarkTo w g n n) :
    Calls Tryd.prog 13 #[.slice (some ⟨g, 0, none⟩) n cap, .int .i64 1] w fun e w' => e = .returned (.int .i64 ((n : Int) + 1)) ∧ w' = w := by
  have HR : Hid (MarkTo w g n n) := hR
  clear hR
  go_enter Tryd.func13, Tryd.ntmps13
  go_wp2
  go_loop [5, 1] (fun i z => ∃ k : Nat, k ≤ n ∧ i = .int .i64 k ∧ z = .int .i64 ((k : Int) + 1)) (fun i _ => n - (intOf i).toNat)
  case atStart => exact ⟨0, Nat.zero_le _, rfl, rfl⟩
  case round =>
    obtain ⟨k, hk, rfl, rfl⟩ := hrel
    by_cases hlt : k < n
    · have hev := HR.out.2.2 k hlt
      go_wp2
      go_round
      case rel => exact ⟨k + 1, by omega, by go_num, by go_num⟩
      case measure => simp [intOf]; omega
    · go_wp2
      go_ret
      obtain rfl : k = n := by omega
      exact ⟨rfl, rfl⟩

set_option maxHeartbeats 1000000 in
theorem markI_nil (a : Option Addr) (cap : Nat) (w : World) : Calls Tryd.prog 12 #[.slice a 0 cap, .int .i64 1] w fun e w' => e = .returned (.int .i64 1) ∧ w' = w := by
  go_enter Tryd.func12, Tryd.ntmps12
  go_wp2
  go_loop [5, 1] (fun i z => i = .int .i64 0 ∧ z = .int .i64 1) (fun _ _ => 0)
  case atStart => exact ⟨rfl, rfl⟩
  case round =>
    obtain ⟨rfl, rfl⟩ := hrel
    go_wp2
    go_ret
    exact ⟨rfl, rfl⟩
set_option maxHeartbeats 1000000 in
theorem heldI_nil (a : Option Addr) (cap : Nat) (w : World) : Calls Tryd.prog 13 #[.slice a 0 cap, .int .i64 1] w fun e w' => e = .returned (.int .i64 1) ∧ w' = w := by
  go_enter Tryd.func13, Tryd.ntmps13
  go_wp2
  go_loop [5, 1] (fun i z => i = .int .i64 0 ∧ z = .int .i64 1) (fun _ _ => 0)
  case atStart => exact ⟨rfl, rfl⟩
  case round =>
    obtain ⟨rfl, rfl⟩ := hrel
    go_wp2
    go_ret
    exact ⟨rfl, rfl⟩

/- A slice over the bytes l, in a block of its own from B on, all of whose cells may be written. -/
def OwnI (B : Nat) (w : World) (x : Value) (l : List UInt8) : Prop := ∃ a cap, x = .slice a l.length cap ∧ l.length ≤ cap ∧ cap ≤ maxLen ∧ (l = [] ∨ ∃ g, a = some ⟨g, 0, none⟩ ∧ B ≤ g ∧ (∀ j, j < l.length → w.frozen? ⟨g, j, none⟩ = false) ∧ IntsAt w g 0 l)
theorem OwnI.nil (B : Nat) (w : World) : OwnI B w (.slice none 0 0) [] := ⟨none, 0, rfl, Nat.le_refl _, Nat.zero_le _, .inl rfl⟩
theorem OwnI.isI {B : Nat} {w : World} {x : Value} {l : List UInt8} (h : OwnI B w x l) : IsI w x l := by
  obtain ⟨a, cap, rfl, h1, h2, h⟩ := h
  exact ⟨a, cap, rfl, h1, h2, h.imp id (fun ⟨g, e, _, _, hr⟩ => ⟨g, 0, e, hr⟩)⟩
theorem OwnI.below {B : Nat} {w w' : World} {x : Value} {l : List UInt8} (h : OwnI B w x l) (hb : Below w.heap.size w w') : OwnI B w' x l := by
  obtain ⟨a, cap, rfl, h1, h2, h⟩ := h
  exact ⟨a, cap, rfl, h1, h2, h.imp id (fun ⟨g, e, hg, hf, hr⟩ => ⟨g, e, hg, fun j hj => (hb.frozen (p := ⟨g, j, none⟩) hr.1).trans (hf j hj), hr.below hb hr.1⟩)⟩
theorem OwnI.mono {B B' : Nat} {w : World} {x : Value} {l : List UInt8} (h : OwnI B w x l) (hb : B' ≤ B) : OwnI B' w x l := by
  obtain ⟨a, cap, rfl, h1, h2, h⟩ := h
  exact ⟨a, cap, rfl, h1, h2, h.imp id (fun ⟨g, e, hg, hr⟩ => ⟨g, e, Nat.le_trans hb hg, hr⟩)⟩
theorem OwnI.of_row {B : Nat} {w : World} {x : Value} {l : List UInt8} (h : w.ownsRow B 5 1 x l.length (intCells l)) : OwnI B w x l := by
  obtain ⟨hl, ⟨rfl, h0⟩ | ⟨g, cap, cur, rfl, hg, hc, h1, h2, h3, h4⟩⟩ := h
  · exact ⟨none, 0, by rw [h0], by omega, by unfold maxLen; omega, .inl (List.eq_nil_of_length_eq_zero h0)⟩
  · refine ⟨_, cap, rfl, h1, h2, .inr ⟨g, rfl, hg, fun j hj => ?_, (Array.getElem?_eq_some_iff.1 hc).1, fun i hi => ?_⟩⟩
    · have hj2 : j < cur.size := by omega
      simp [World.frozen?, hc]
    · have e1 : w.cell? ⟨g, i, none⟩ = (intCells l)[i]? := by
        rw [← h4, List.getElem?_take_of_lt (by omega)]
        simp [World.cell?, hc]
      rw [Nat.zero_add, e1]
      simp [intCells, intAt, hi]
/- At most one row, at or above B, has turned. -/
def Turned (B : Nat) (w w' : World) : Prop := w' = w ∨ ∃ g, B ≤ g ∧ w.grownBy w' (some g)
theorem Turned.below {B : Nat} {w w' : World} (h : Turned B w w') (hB : B ≤ w.heap.size) : Below B w w' := by
  rcases h with rfl | ⟨g, hg, h⟩
  · exact Below.refl _ _
  · exact (Below.refl B w).grown h hB (fun k e => by cases e; exact hg)
def HeldI (w : World) (x : Value) (m : Int) : Prop := ∃ a n cap, x = .slice a n cap ∧ m = ((n : Nat) : Int) + 1 ∧ n ≤ 4611686018427387904 ∧ (n = 0 ∨ ∃ g, a = some ⟨g, 0, none⟩ ∧ MarkTo w g n n)
theorem HeldI.below {w w' : World} {x : Value} {m : Int} (h : HeldI w x m) (hb : Below w.heap.size w w') : HeldI w' x m := by
  obtain ⟨a, n, cap, h1, h2, h3, h4⟩ := h
  exact ⟨a, n, cap, h1, h2, h3, h4.imp id (fun ⟨g, e, hr⟩ => ⟨g, e, hr.below hb hr.1⟩)⟩
theorem heldI_in {w : World} {x : Value} {m : Int} (h : HeldI w x m) : Calls Tryd.prog 13 #[x, .int .i64 1] w fun e w' => e = .returned (.int .i64 m) ∧ w' = w := by
  obtain ⟨a, n, cap, rfl, rfl, hn, rfl | ⟨g, rfl, hr⟩⟩ := h
  · exact heldI_nil a cap w
  · exact heldI_any g n cap w hn hr
theorem markI_own {B : Nat} {w : World} {x : Value} {l : List UInt8} (h : OwnI B w x l) (hl : l.length ≤ 4611686018427387904) :
    Calls Tryd.prog 12 #[x, .int .i64 1] w fun e w' => ∃ m : Int, 1 ≤ m ∧ e = .returned (.int .i64 m) ∧ HeldI w' x m ∧ Turned B w w' := by
  obtain ⟨a, cap, rfl, h1, h2, h⟩ := h
  by_cases h0 : l = []
  · subst h0
    refine (markI_nil a cap w).mono ?_
    rintro e w' ⟨rfl, rfl⟩
    exact ⟨1, by omega, rfl, ⟨a, 0, cap, rfl, by simp, by omega, .inl rfl⟩, .inl rfl⟩
  · obtain ⟨g, rfl, hg, hf, hr⟩ := h.resolve_left h0
    refine (markI_any g l.length cap w hl ⟨hr.1, fun j hj => ⟨by have := hr.2 j hj; rw [Nat.zero_add] at this; rw [this]; rfl, hf j hj⟩, fun i hi => by omega⟩).mono ?_
    rintro e w' ⟨rfl, hr', hgr⟩
    exact ⟨_, by omega, rfl, ⟨_, l.length, cap, rfl, rfl, hl, .inr ⟨g, rfl, hr'⟩⟩, .inr ⟨g, hg, hgr⟩⟩
end Go.Proofs.YtbcdfacbhemijaaDoor.By

/- toByteS: a row of one's own. -/
namespace Go.Proofs.YtbcdfacbhemijaaDoor.By
open Go.RowKit Go.Proofs.YtbcdfacbhemijaaDoor
/- The block g holds the numbers of l, from its first cell on, and they may be written. -/
def RowI (w : World) (g : Nat) (l : List UInt8) : Prop := g < w.heap.size ∧ ∀ j, j < l.length → w.cell? ⟨g, j, none⟩ = some (.int .u8 ((intAt l j).toNat : Int)) ∧ w.frozen? ⟨g, j, none⟩ = false
theorem RowI.below {w w' : World} {B g : Nat} {l : List UInt8} (h : RowI w g l) (hb : Below B w w') (hB : g < B) : RowI w' g l :=
  ⟨Nat.lt_of_lt_of_le h.1 hb.size, fun j hj => by rw [hb.cell (p := ⟨g, j, none⟩) hB, hb.frozen (p := ⟨g, j, none⟩) hB]; exact h.2 j hj⟩
theorem RowI.own {w : World} {g : Nat} {l : List UInt8} (h : RowI w g l) (hl : l.length ≤ maxLen) {B : Nat} (hB : B ≤ g) : OwnI B w (sl g l.length) l :=
  ⟨_, _, rfl, Nat.le_refl _, hl, .inr ⟨g, rfl, hB, fun j hj => (h.2 j hj).2, h.1, fun i hi => by rw [Nat.zero_add]; exact (h.2 i hi).1⟩⟩
theorem RowI.isI {w : World} {g : Nat} {l : List UInt8} (h : RowI w g l) (hl : l.length ≤ maxLen) : IsI w (sl g l.length) l := (h.own hl (Nat.zero_le _)).isI
theorem RowI.mark {w : World} {g : Nat} {l : List UInt8} (h : RowI w g l) : MarkTo w g l.length 0 :=
  ⟨h.1, fun j hj => by rw [(h.2 j hj).1]; exact ⟨rfl, (h.2 j hj).2⟩, fun i hi => by omega⟩
/- As far as k it holds them; all n cells may be written. -/
def FillI (w : World) (g n : Nat) (l : List UInt8) (k : Nat) : Prop := g < w.heap.size ∧ (∀ j, j < n → (w.cell? ⟨g, j, none⟩).isSome = true ∧ w.frozen? ⟨g, j, none⟩ = false) ∧ ∀ i, i < k → w.cell? ⟨g, i, none⟩ = some (.int .u8 ((intAt l i).toNat : Int))
theorem FillI.row {w : World} {g : Nat} {l : List UInt8} (h : FillI w g l.length l l.length) : RowI w g l := ⟨h.1, fun j hj => ⟨h.2.2 j hj, (h.2.1 j hj).2⟩⟩
theorem FillI.put {w : World} {g n k : Nat} {l : List UInt8} (h : FillI w g n l k) (hk : k < n) : FillI (w.setCell ⟨g, k, none⟩ (.int .u8 ((intAt l k).toNat : Int))) g n l (k + 1) := by
  have e1 : w.setCell ⟨g, k, none⟩ (.int .u8 ((intAt l k).toNat : Int)) = w.setCells g k [.int .u8 ((intAt l k).toNat : Int)] := rfl
  have hsame : ∀ j, j ≠ k → (w.setCell ⟨g, k, none⟩ (.int .u8 ((intAt l k).toNat : Int))).cell? ⟨g, j, none⟩ = w.cell? ⟨g, j, none⟩ := fun j hj => by
    rw [e1]
    exact World.cell?_setCells_out g _ k w ⟨g, j, none⟩ (fun _ _ => by simp; omega)
  have hat : (w.setCell ⟨g, k, none⟩ (.int .u8 ((intAt l k).toNat : Int))).cell? ⟨g, k, none⟩ = some (.int .u8 ((intAt l k).toNat : Int)) := by
    rw [e1]
    have h0 := World.cell?_setCells_in g [.int .u8 ((intAt l k).toNat : Int)] k w (fun j hj => by
      obtain rfl : j = 0 := by simpa using hj
      exact (h.2.1 k hk).1) 0 (by simp)
    simpa using h0
  refine ⟨by simpa using h.1, fun j hj => ?_, fun i hi => ?_⟩
  · refine ⟨?_, ?_⟩
    · by_cases e : j = k
      · subst e; rw [hat]; rfl
      · rw [hsame j e]; exact (h.2.1 j hj).1
    · rw [e1, World.frozen?_setCells]; exact (h.2.1 j hj).2
  · by_cases e : i = k
    · subst e; exact hat
    · rw [hsame i e]; exact h.2.2 i (by omega)
theorem FillI.made {w1 : World} {B : Nat} {z : List Value} {n : Nat} {l : List UInt8} (h : w1.ownsRow B 5 1 (.slice (some ⟨B, 0, none⟩) n n) n z) : FillI w1 B n l 0 := by
  obtain ⟨hl, h | ⟨g, cap, cur, e, hg, hc, h1, h2, h3, h4⟩⟩ := h
  · simp at h
  · simp at e
    obtain ⟨rfl, rfl⟩ := e
    have hlt : B < w1.heap.size := (Array.getElem?_eq_some_iff.1 hc).1
    refine ⟨hlt, fun j hj => ?_, fun i hi => by omega⟩
    have hj2 : j < cur.size := by omega
    simp [World.cell?, World.frozen?, hc, hj2]
theorem info5 : (Tryd.prog.info? 5).map (fun i => (i.zero, i.size, i.bytes)) = some (some (.int .u8 0), 1, 1) := by kernel_rfl
end Go.Proofs.YtbcdfacbhemijaaDoor.By

/- Rows of numbers: what stays where another row turns. -/
namespace Go.Proofs.YtbcdfacbhemijaaDoor.By
open Go.RowKit Go.Proofs.YtbcdfacbhemijaaDoor
/- As IsI, in a block below B. -/
def LowI (B : Nat) (w : World) (x : Value) (l : List UInt8) : Prop := ∃ a cap, x = .slice a l.length cap ∧ l.length ≤ cap ∧ cap ≤ maxLen ∧ (l = [] ∨ ∃ b off, a = some ⟨b, off, none⟩ ∧ b < B ∧ IntsAt w b off l)
theorem LowI.isI {B : Nat} {w : World} {x : Value} {l : List UInt8} (h : LowI B w x l) : IsI w x l := by
  obtain ⟨a, cap, rfl, h1, h2, h⟩ := h
  exact ⟨a, cap, rfl, h1, h2, h.imp id (fun ⟨b, off, e, _, h⟩ => ⟨b, off, e, h⟩)⟩
theorem IsI.low {w : World} {x : Value} {l : List UInt8} (h : IsI w x l) : LowI w.heap.size w x l := by
  obtain ⟨a, cap, rfl, h1, h2, h⟩ := h
  exact ⟨a, cap, rfl, h1, h2, h.imp id (fun ⟨b, off, e, h⟩ => ⟨b, off, e, h.1, h⟩)⟩
theorem LowI.below {B : Nat} {w w' : World} {x : Value} {l : List UInt8} (h : LowI B w x l) (hb : Below B w w') : LowI B w' x l := by
  obtain ⟨a, cap, rfl, h1, h2, h⟩ := h
  exact ⟨a, cap, rfl, h1, h2, h.imp id (fun ⟨b, off, e, hB, h⟩ => ⟨b, off, e, hB, h.below hb hB⟩)⟩
theorem OwnI.other {B g : Nat} {w w' : World} {x : Value} {l : List UInt8} (h : OwnI B w x l) (hg : g < B) (hgr : w.grownBy w' (some g)) : OwnI B w' x l := by
  obtain ⟨a, cap, rfl, h1, h2, h⟩ := h
  refine ⟨a, cap, rfl, h1, h2, h.imp id ?_⟩
  rintro ⟨b, rfl, hB, hf, hr⟩
  have hk : w'.heap[b]? = w.heap[b]? := hgr.block b hr.1 (by intro e; have := Option.some.inj e; omega)
  have hc : ∀ o, w'.cell? ⟨b, o, none⟩ = w.cell? ⟨b, o, none⟩ := fun o => World.cell?_of_block (w := w) hk
  have hz : ∀ o, w'.frozen? ⟨b, o, none⟩ = w.frozen? ⟨b, o, none⟩ := fun o => World.frozen?_of_block (w := w) hk
  exact ⟨b, rfl, hB, fun j hj => (hz j).trans (hf j hj), Nat.lt_of_lt_of_le hr.1 hgr.size, fun i hi => (hc _).trans (hr.2 i hi)⟩
/- An answer: a list of one's own and a flag. -/
def AnsI (B : Nat) (r : List UInt8) (b : Bool) (e : Ending) (w' : World) : Prop := ∃ v, e = .returned (.tuple #[v, .bool b]) ∧ OwnI B w' v r
end Go.Proofs.YtbcdfacbhemijaaDoor.By

/- Rows of one's own stay where others turn. -/
namespace Go.Proofs.YtbcdfacbhemijaaDoor
open Go.RowKit
theorem OwnI.turns {B : Nat} {S : Nat → Prop} {w w' : World} {x : Value} {l : List Int} (h : OwnI B w x l) (ht : Turns S w w') (hS : ∀ k, S k → k < B) : OwnI B w' x l := by
  obtain ⟨a, cap, rfl, h1, h2, h⟩ := h
  refine ⟨a, cap, rfl, h1, h2, h.imp id ?_⟩
  rintro ⟨b, rfl, hB, hf, hr⟩
  have hn : ¬ S b := fun e => by have := hS b e; omega
  exact ⟨b, rfl, hB, fun j hj => (ht.frozen hr.1 hn).trans (hf j hj), Nat.lt_of_lt_of_le hr.1 ht.size, fun i hi => (ht.cell hr.1 hn).trans (hr.2 i hi)⟩
theorem By.OwnI.turns {B : Nat} {S : Nat → Prop} {w w' : World} {x : Value} {l : List UInt8} (h : By.OwnI B w x l) (ht : Turns S w w') (hS : ∀ k, S k → k < B) : By.OwnI B w' x l := by
  obtain ⟨a, cap, rfl, h1, h2, h⟩ := h
  refine ⟨a, cap, rfl, h1, h2, h.imp id ?_⟩
  rintro ⟨b, rfl, hB, hf, hr⟩
  have hn : ¬ S b := fun e => by have := hS b e; omega
  exact ⟨b, rfl, hB, fun j hj => (ht.frozen hr.1 hn).trans (hf j hj), Nat.lt_of_lt_of_le hr.1 ht.size, fun i hi => (ht.cell hr.1 hn).trans (hr.2 i hi)⟩
end Go.Proofs.YtbcdfacbhemijaaDoor

/- How a list of numbers that came in is read. -/
namespace Go.Proofs.YtbcdfacbhemijaaDoor
open Go.ChangeShapes Go.WideShapes Go.ChangeAt Go.RowKit

theorem own : ownKnob Tryd.prog.godebug = none := by kernel_rfl
theorem laidOut : laidOutB Tryd.prog = true := by kernel_rfl
theorem cells3 : Tryd.prog.cellsOf 3 = 1 := by kernel_rfl
theorem add_plain (b off n : Nat) : (⟨b, off, none⟩ : Addr).add n = ⟨b, off + n, none⟩ := by
  unfold Addr.add
  split <;> simp_all
theorem ints_list {w : World} {b off : Nat} : ∀ n, (∀ i, i < n → ∃ z : Int, w.cell? ⟨b, off + i, none⟩ = some (.int .i64 z)) → ∃ l : List Int, l.length = n ∧ ∀ i, i < n → w.cell? ⟨b, off + i, none⟩ = some (.int .i64 (intAt l i))
  | 0, _ => ⟨[], rfl, fun i hi => by omega⟩
  | n + 1, h => by
    obtain ⟨l, hl, hi⟩ := ints_list n (fun i hi => h i (by omega))
    obtain ⟨e, he⟩ := h n (by omega)
    refine ⟨l ++ [e], by simp [hl], fun i hi' => ?_⟩
    by_cases hin : i < n
    · have : intAt (l ++ [e]) i = intAt l i := by unfold intAt; simp [List.getElem?_append_left (by omega : i < l.length)]
      rw [this]; exact hi i hin
    · have : intAt (l ++ [e]) i = e := by unfold intAt; simp [show i = l.length by omega]
      rw [this, show i = n by omega]; exact he
set_option maxRecDepth 100000 in
theorem open_ints' {H : Type} {enc : TypeId × Value → H} {w : World} {b0 : Nat} {spare : Nat → Bool} {held : Bool} {r : Reach} {v : Value} {d : DataW H} {p : List MemPlace}
    (hv : Value.okWide Tryd.prog w r b0 22 v) (h : DataW.Trod enc Tryd.prog w 0 spare held 22 v d p) : ∃ l : List Int, IsI w v l := by
  obtain ⟨a0, len, cap, rfl⟩ := okWide_slice Tryd.underlying22 hv
  obtain ⟨fuel, hf⟩ := h
  rcases DataW.trod_slice Tryd.underlying22 hf with ⟨hcs, _⟩ | ⟨a, len', cap', elems, rest, n, _, hcs, _, hb, hl, hm, hlen, hel, _, _⟩
  · simp [Value.cells] at hcs
    obtain ⟨rfl, rfl, rfl⟩ := hcs
    exact ⟨[], _, _, rfl, Nat.le_refl _, by unfold maxLen; omega, .inl rfl⟩
  · simp [Value.cells] at hcs
    obtain ⟨rfl, rfl, rfl⟩ := hcs
    by_cases h0 : len = 0
    · subst h0
      exact ⟨[], _, _, rfl, hl, hm, .inl rfl⟩
    · obtain ⟨b, off, spot⟩ := a
      have hs : spot = none := by
        have h1 := hel 0 (by omega)
        rw [cells3, List.getElem?_eq_getElem (by omega)] at h1
        obtain ⟨cs, hc, ht⟩ := Option.bind_eq_some_iff.1 h1
        obtain ⟨t, rfl, _⟩ := DataW.trod_int Tryd.underlying3 ht
        have c0 := (World.cells?_some hc).2.2 0 (by omega)
        simpa [Addr.add] using World.cell?_spot c0
      subst hs
      have each : ∀ i, i < len → ∃ z : Int, w.cell? ⟨b, off + i, none⟩ = some (.int .i64 z) ∧ b < w.heap.size := by
        intro i hi
        have h1 := hel i hi
        rw [cells3, List.getElem?_eq_getElem (by omega), add_plain] at h1
        obtain ⟨cs, hc, ht⟩ := Option.bind_eq_some_iff.1 h1
        obtain ⟨t, rfl, _, hw⟩ := DataW.trod_int Tryd.underlying3 ht
        have hblk : b < w.heap.size := World.cells?_block hc (by omega)
        obtain ⟨_, _, hcell⟩ := World.cells?_some hc
        have h2 := hcell 0 (by omega)
        simp only [add_plain] at h2
        exact ⟨t, by simpa using h2, hblk⟩
      obtain ⟨_, _, hblk⟩ := each 0 (by omega)
      obtain ⟨l, rfl, hi⟩ := ints_list (w := w) (b := b) (off := off) len (fun i hi => by
        obtain ⟨e, he, _⟩ := each i hi
        exact ⟨e, he⟩)
      exact ⟨l, _, _, rfl, hl, hm, .inr ⟨b, off, rfl, hblk, hi⟩⟩
end Go.Proofs.YtbcdfacbhemijaaDoor

/- How an event that came in is read: seven integers. -/
namespace Go.Proofs.YtbcdfacbhemijaaDoor
open Go.ChangeShapes Go.WideShapes Go.ChangeAt Go.RowKit

theorem cells23 : Tryd.prog.cellsOf 91 = 7 := by kernel_rfl

def wfI (x : Int) : Prop := (Lit.int .i64 x).wf = true

theorem list7 {α : Type} {l : List α} (h : l.length = 7) : ∃ a b c d e f g, l = [a, b, c, d, e, f, g] := by
  match l, h with
  | [a, b, c, d, e, f, g], _ => exact ⟨a, b, c, d, e, f, g, rfl⟩

set_option maxRecDepth 100000 in
theorem trod_ev {H : Type} {enc : TypeId × Value → H} {w : World} {base : Nat} {spare : Nat → Bool} {held : Bool} {fuel : Nat} {cs : List Value} {x : DataW H × List MemPlace}
    (h : DataW.trod enc Tryd.prog w base spare held fuel 91 cs = some x) :
    ∃ t s q d k v g : Int, cs = [.int .i64 t, .int .i64 s, .int .i64 q, .int .i64 d, .int .i64 k, .int .i64 v, .int .i64 g] ∧ wfI t ∧ wfI s ∧ wfI q ∧ wfI d ∧ wfI k ∧ wfI v ∧ wfI g := by
  obtain ⟨xs, n, _, rfl, hl, hlen, hf⟩ := DataW.trod_struct Tryd.underlying91 h
  rw [cells23] at hl
  obtain ⟨c0, c1, c2, c3, c4, c5, c6, rfl⟩ := list7 hl
  have hx : xs.length = 7 := by simpa using hlen
  obtain ⟨y0, y1, y2, y3, y4, y5, y6, rfl⟩ := list7 hx
  have h0 := hf 0 _ rfl
  have h1 := hf 1 _ rfl
  have h2 := hf 2 _ rfl
  have h3 := hf 3 _ rfl
  have h4 := hf 4 _ rfl
  have h5 := hf 5 _ rfl
  have h6 := hf 6 _ rfl
  obtain ⟨a0, e0, _, w0⟩ := DataW.trod_int Tryd.underlying3 h0
  obtain ⟨a1, e1, _, w1⟩ := DataW.trod_int Tryd.underlying3 h1
  obtain ⟨a2, e2, _, w2⟩ := DataW.trod_int Tryd.underlying3 h2
  obtain ⟨a3, e3, _, w3⟩ := DataW.trod_int Tryd.underlying3 h3
  obtain ⟨a4, e4, _, w4⟩ := DataW.trod_int Tryd.underlying3 h4
  obtain ⟨a5, e5, _, w5⟩ := DataW.trod_int Tryd.underlying3 h5
  obtain ⟨a6, e6, _, w6⟩ := DataW.trod_int Tryd.underlying3 h6
  simp [cells3] at e0 e1 e2 e3 e4 e5 e6
  subst e0 e1 e2 e3 e4 e5 e6
  exact ⟨a0, a1, a2, a3, a4, a5, a6, rfl, w0, w1, w2, w3, w4, w5, w6⟩

set_option maxRecDepth 100000 in
theorem open_ev {H : Type} {enc : TypeId × Value → H} {w : World} {base b0 : Nat} {spare : Nat → Bool} {held : Bool} {r : Reach} {v : Value} {d : DataW H} {p : List MemPlace}
    (hv : Value.okWide Tryd.prog w r b0 91 v) (h : DataW.Trod enc Tryd.prog w base spare held 91 v d p) :
    ∃ t s q d k z g : Int, v = .agg #[.int .i64 t, .int .i64 s, .int .i64 q, .int .i64 d, .int .i64 k, .int .i64 z, .int .i64 g] ∧ wfI t ∧ wfI s ∧ wfI q ∧ wfI d ∧ wfI k ∧ wfI z ∧ wfI g := by
  obtain ⟨cs, rfl, hsz⟩ := okWide_struct Tryd.underlying91 hv
  obtain ⟨fuel, hf⟩ := h
  obtain ⟨t, s, q, d, k, z, g, e, hw⟩ := trod_ev hf
  refine ⟨t, s, q, d, k, z, g, ?_, hw⟩
  rw [show cs = #[.int .i64 t, .int .i64 s, .int .i64 q, .int .i64 d, .int .i64 k, .int .i64 z, .int .i64 g] from by
    apply Array.toList_inj.1
    simpa [Value.cells] using e]
end Go.Proofs.YtbcdfacbhemijaaDoor

/- How a list of events that came in is read. -/
namespace Go.Proofs.YtbcdfacbhemijaaDoor
open Go.ChangeShapes Go.WideShapes Go.ChangeAt Go.RowKit

theorem evs_list {w : World} {b off : Nat} : ∀ n, (∀ i, i < n → ∃ e : Ev, Ev.In w b (off + i * 7) e) → ∃ l : List Ev, l.length = n ∧ ∀ i, i < n → Ev.In w b (off + i * 7) (evAt l i)
  | 0, _ => ⟨[], rfl, fun i hi => by omega⟩
  | n + 1, h => by
    obtain ⟨l, hl, hi⟩ := evs_list n (fun i hi => h i (by omega))
    obtain ⟨e, he⟩ := h n (by omega)
    refine ⟨l ++ [e], by simp [hl], fun i hi' => ?_⟩
    by_cases hin : i < n
    · have : evAt (l ++ [e]) i = evAt l i := by unfold evAt; simp [List.getElem?_append_left (by omega : i < l.length)]
      rw [this]; exact hi i hin
    · have : evAt (l ++ [e]) i = e := by unfold evAt; simp [show i = l.length by omega]
      rw [this, show i = n by omega]; exact he

set_option maxRecDepth 100000 in
theorem open_evs {H : Type} {enc : TypeId × Value → H} {w : World} {b0 : Nat} {spare : Nat → Bool} {held : Bool} {r : Reach} {v : Value} {d : DataW H} {p : List MemPlace}
    (hv : Value.okWide Tryd.prog w r b0 24 v) (h : DataW.Trod enc Tryd.prog w 0 spare held 24 v d p) : ∃ l : List Ev, IsEvs w v l := by
  obtain ⟨a0, len, cap, rfl⟩ := okWide_slice Tryd.underlying24 hv
  obtain ⟨fuel, hf⟩ := h
  rcases DataW.trod_slice Tryd.underlying24 hf with ⟨hcs, _⟩ | ⟨a, len', cap', elems, rest, n, _, hcs, _, hb, hl, hm, hlen, hel, _, _⟩
  · simp [Value.cells] at hcs
    obtain ⟨rfl, rfl, rfl⟩ := hcs
    exact ⟨[], _, _, rfl, Nat.le_refl _, by unfold maxLen; omega, .inl rfl⟩
  · simp [Value.cells] at hcs
    obtain ⟨rfl, rfl, rfl⟩ := hcs
    by_cases h0 : len = 0
    · subst h0
      exact ⟨[], _, _, rfl, hl, hm, .inl rfl⟩
    · obtain ⟨b, off, spot⟩ := a
      have hs : spot = none := by
        have h1 := hel 0 (by omega)
        rw [cells23, List.getElem?_eq_getElem (by omega)] at h1
        obtain ⟨cs, hc, ht⟩ := Option.bind_eq_some_iff.1 h1
        obtain ⟨t, s, q, d, k, v, g, rfl, _⟩ := trod_ev ht
        have c0 := (World.cells?_some hc).2.2 0 (by omega)
        simpa [Addr.add] using World.cell?_spot c0
      subst hs
      have each : ∀ i, i < len → ∃ e : Ev, Ev.In w b (off + i * 7) e ∧ b < w.heap.size := by
        intro i hi
        have h1 := hel i hi
        rw [cells23, List.getElem?_eq_getElem (by omega), add_plain] at h1
        obtain ⟨cs, hc, ht⟩ := Option.bind_eq_some_iff.1 h1
        obtain ⟨t, s, q, d, k, v, g, rfl, _⟩ := trod_ev ht
        have hblk : b < w.heap.size := World.cells?_block hc (by omega)
        obtain ⟨_, _, hcell⟩ := World.cells?_some hc
        simp only [add_plain] at hcell
        exact ⟨⟨t, s, q, d, k, v, g⟩, ⟨hcell 0 (by omega), hcell 1 (by omega), hcell 2 (by omega), hcell 3 (by omega), hcell 4 (by omega), hcell 5 (by omega), hcell 6 (by omega)⟩, hblk⟩
      obtain ⟨_, _, hblk⟩ := each 0 (by omega)
      obtain ⟨l, rfl, hi⟩ := evs_list (w := w) (b := b) (off := off) len (fun i hi => by
        obtain ⟨e, he, _⟩ := each i hi
        exact ⟨e, he⟩)
      exact ⟨l, _, _, rfl, hl, hm, .inr ⟨b, off, rfl, hblk, hi⟩⟩
end Go.Proofs.YtbcdfacbhemijaaDoor

