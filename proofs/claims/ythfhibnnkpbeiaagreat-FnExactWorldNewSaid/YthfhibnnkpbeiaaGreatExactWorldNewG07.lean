/- KKt, Copies, Find, OwnE, Quiet, SOk, TMk -/
import Derived.Test.YthfhibnnkpbeiaaGreatExactWorldNewG06
import Derived.Test.YthfhibnnkpbeiaaGreatExactWorldNewG02
import Derived.Deep.RegionLaw
import Derived.Test.YthfhibnnkpbeiaaGreatExactWorldNewG01
import Derived.Laws.OwnMore
import Derived.WalkSmall
import Derived.Laws.AppendOwnNone
import Derived.Deep.QuietTactic
import Derived.BigQuiet
import Derived.Test.YthfhibnnkpbeiaaGreatExactWorldNewG05
/- A kernel: a copy of its own. -/
namespace Go.Proofs.YthfhibnnkpbeiaaGreat
open Go.RowKit
def KernF (F : Nat → Prop) (w : World) (y : Value) (k : Kn) : Prop := ∃ (A0 A6 A7 A8 A12 A13 : Nat → Prop) (vi vh vs u6 u7 u8 u12 u13 : Value), y = .agg #[.int .i64 k.m.n, .int .i64 k.m.s, vi, vh, vs, .int .i64 k.m.z, u6, u7, u8, .int .i64 k.t, .int .i64 k.q, .bool k.f, u12, u13] ∧ MdF A0 w (.agg #[.int .i64 k.m.n, .int .i64 k.m.s, vi, vh, vs, .int .i64 k.m.z]) k.m ∧ OwnD w A6 u6 (intsD k.d) ∧ OwnD w A7 u7 (partsD k.p) ∧ OwnD w A8 u8 (mailsD k.b) ∧ OwnD w A12 u12 (evsD k.s) ∧ OwnD w A13 u13 (emsD k.x) ∧ (∀ j, A0 j → F j ∧ ¬ A6 j ∧ ¬ A7 j ∧ ¬ A8 j ∧ ¬ A12 j ∧ ¬ A13 j) ∧ (∀ j, A6 j → F j ∧ ¬ A7 j ∧ ¬ A8 j ∧ ¬ A12 j ∧ ¬ A13 j) ∧ (∀ j, A7 j → F j ∧ ¬ A8 j ∧ ¬ A12 j ∧ ¬ A13 j) ∧ (∀ j, A8 j → F j ∧ ¬ A12 j ∧ ¬ A13 j) ∧ (∀ j, A12 j → F j ∧ ¬ A13 j) ∧ (∀ j, A13 j → F j)
theorem KernF.turns {F S : Nat → Prop} {w w' : World} {y : Value} {k : Kn} (h : KernF F w y k) (ht : Turns S w w') (hS : ∀ j, F j → ¬ S j) : KernF F w' y k := by
 obtain ⟨A0, A6, A7, A8, A12, A13, vi, vh, vs, u6, u7, u8, u12, u13, rfl, hm, h6, h7, h8, h12, h13, d0, d6, d7, d8, d12, d13⟩ := h
 exact ⟨A0, A6, A7, A8, A12, A13, vi, vh, vs, u6, u7, u8, u12, u13, rfl, hm.turns ht (fun j hj => hS j (d0 j hj).1), h6.turns ht (fun j hj => hS j (d6 j hj).1), h7.turns ht (fun j hj => hS j (d7 j hj).1), h8.turns ht (fun j hj => hS j (d8 j hj).1), h12.turns ht (fun j hj => hS j (d12 j hj).1), h13.turns ht (fun j hj => hS j (d13 j hj)), d0, d6, d7, d8, d12, d13⟩
end Go.Proofs.YthfhibnnkpbeiaaGreat

/- The copies: l1own, copyOf; marks: markEventS, heldEventS. -/
namespace Go.Proofs.YthfhibnnkpbeiaaGreat
open Go.RowKit
theorem row_empty (w : World) : (w.alloc (.cells #[] 99)).ownsRow w.heap.size 99 7 (.slice (some ⟨w.heap.size, 0, none⟩) 0 0) 0 [] :=
 ⟨rfl, .inr ⟨w.heap.size, 0, #[], rfl, Nat.le_refl _, (MapKept.heap_alloc w _).1, Nat.le_refl _, Nat.zero_le _, rfl, rfl⟩⟩
end Go.Proofs.YthfhibnnkpbeiaaGreat

/- The specification's l1find. -/
namespace Go.Proofs.YthfhibnnkpbeiaaGreat
open Go.RowKit
theorem step_append_own {P : Program} {ops : Array Oper} {o : Oper} {a : Act} {w : World} {K : Act → World → Prop} {Q : Exit → Act → World → Prop} {E : Prop}
  (hg : o.guard = none) (s x : Operand) (t : TypeId) (hop : o.op = Op.call { callee := Callee.builtin Builtin.append, args := #[s, x], argTypes := #[t, t] })
  (base : Nat) (e : TypeId) (i : TypeInfo) (z : Value) (size bytes : Nat) (h1 : P.underlying t = some (.slice e)) (h2 : P.info? e = some i) (h3 : i.zero = some z) (h4 : i.size = size) (h5 : i.bytes = bytes) (h6 : z.cells.size = size) (h7 : 0 < size)
  (v : Value) (n : Nat) (xs : List Value) (hs : a.eval s = v) (hown : w.ownsRow base e size v n xs)
  (ad : Addr) (m c : Nat) (news : List Value) (hx : a.eval x = .slice (some ad) m c) (hn : news.length = m * size) (hc : ∀ j u, news[j]? = some u → w.cell? (ad.add j) = some u) (h1c : ∀ u ∈ news, u.oneCell' = true)
  (b1 : n + m ≤ maxLen) (b2 : (n + m) * bytes ≤ 140737488355328) (hbase : base ≤ w.heap.size)
  (hK : ∀ v' w', w'.ownsRow base e size v' (n + m) (xs ++ news) → w.grownBy w' v.ownBlock → K (a.put o.dst v') w') :
  if Region.wanted o (yielded ops a.tmps) = true then Oper.wp P o a w K Q else E := by
 have hw : Region.wanted o (yielded ops a.tmps) = true := by simp [Region.wanted, hg]
 rw [if_pos hw]
 exact wp_append_own w s x t hop base e i z size bytes h1 h2 h3 h4 h5 h6 h7 v n xs hs hown ad m c news hx hn hc h1c b1 b2 hbase (fun v' w' r1 r2 _ => hK v' w' r1 r2)
theorem row_ge {w : World} {B : Nat} {e : TypeId} {size n : Nat} {v : Value} {xs : List Value} (h : w.ownsRow B e size v n xs) {r : Nat} (hr : v.ownBlock = some r) : B ≤ r := by
 obtain ⟨_, ⟨rfl, _⟩ | ⟨g, cap, cur, rfl, hg, _⟩⟩ := h
 ·cases hr
 ·cases hr; exact hg
end Go.Proofs.YthfhibnnkpbeiaaGreat

/- Lists that are read, nil or not; the copies of both sides, as rows of one's own. -/
namespace Go.Proofs.YthfhibnnkpbeiaaGreat
open Go.RowKit
def OwnR (B : Nat) (w : World) (x : Value) (l : List Ev) : Prop := w.ownsRow B 99 7 x l.length (cellsL l)
theorem OwnR.mono {B B' : Nat} {w : World} {x : Value} {l : List Ev} (h : OwnR B w x l) (hB : B' ≤ B) : OwnR B' w x l := by
 obtain ⟨h0, ⟨e, h1⟩ | ⟨g, cap, cur, e, hg, h1⟩⟩ := h
 ·exact ⟨h0, .inl ⟨e, h1⟩⟩
 ·exact ⟨h0, .inr ⟨g, cap, cur, e, Nat.le_trans hB hg, h1⟩⟩
end Go.Proofs.YthfhibnnkpbeiaaGreat

/- A region that draws its order, whose operations only read and whose callees lay blocks of their own, is walked once, in the order of the text. -/
namespace Go.Proofs.YthfhibnnkpbeiaaGreat
open Go.RowKit
structure Beyond (W : World) where
 w : World
 h : Below W.heap.size W w
theorem Beyond.cell {W : World} (p : Beyond W) {b o : Nat} {v : Value} (hb : b < W.heap.size) (h : W.cell? ⟨b, o, none⟩ = some v) : p.w.cell? ⟨b, o, none⟩ = some v := (p.h.cell (p := ⟨b, o, none⟩) hb).trans h
theorem Beyond.of {P : Program} {f : FuncId} {args : Array Value} {W : World} {p : Beyond W} {v : Value} (h : Calls P f args p.w fun e w' => e = .returned v ∧ Below p.w.heap.size p.w w') :
  Calls P f args p.w fun e w'' => e = .returned v ∧ ∃ p' : Beyond W, w'' = p'.w :=
 h.mono fun _ w'' ⟨he, hb⟩ => ⟨he, ⟨w'', p.h.trans (hb.mono p.h.size)⟩, rfl⟩
theorem wp_region_beyond {P : Program} {id : Nat} {Q : Exit → Act → World → Prop} {a : Act} {W : World} {l : List Oper} (hm : P.follows .mixedOrders = true) (hB : Region.lexB .any l.toArray = true)
  (h : wpQuiet P l.toArray (fun w' => ∃ p : Beyond W, w' = p.w) (fun a' => ∀ w', (∃ p : Beyond W, w' = p.w) → Q .normal a' w') l a) : (Code.region id l.toArray true).wp P Q a W :=
 wp_region_quiet (C := fun w' => ∃ p : Beyond W, w' = p.w) hm hB ⟨⟨_, (Below.refl _ W).drew⟩, rfl⟩ (by simpa using h)
theorem EvAt.beyond {W : World} {b o : Nat} {t s q d k v g : Int} (h : EvAt W b o t s q d k v g) (hb : b < W.heap.size) :
  (∀ p : Beyond W, p.w.cell? ⟨b, o, none⟩ = some (.int .i64 t)) ∧ (∀ p : Beyond W, p.w.cell? ⟨b, o + 1, none⟩ = some (.int .i64 s)) ∧ (∀ p : Beyond W, p.w.cell? ⟨b, o + 2, none⟩ = some (.int .i64 q)) ∧ (∀ p : Beyond W, p.w.cell? ⟨b, o + 3, none⟩ = some (.int .i64 d)) ∧
  (∀ p : Beyond W, p.w.cell? ⟨b, o + 4, none⟩ = some (.int .i64 k)) ∧ (∀ p : Beyond W, p.w.cell? ⟨b, o + 5, none⟩ = some (.int .i64 v)) ∧ (∀ p : Beyond W, p.w.cell? ⟨b, o + 6, none⟩ = some (.int .i64 g)) :=
 ⟨fun p => p.cell hb h.f0, fun p => p.cell hb h.f1, fun p => p.cell hb h.f2, fun p => p.cell hb h.f3, fun p => p.cell hb h.f4, fun p => p.cell hb h.f5, fun p => p.cell hb h.f6⟩
end Go.Proofs.YthfhibnnkpbeiaaGreat

/- Both StateOk. -/
namespace Go.Proofs.YthfhibnnkpbeiaaGreat
open Go.RowKit
def inB (x : Int) : Bool := decide (0 ≤ x ∧ x ≤ 999)
end Go.Proofs.YthfhibnnkpbeiaaGreat

/- Marks, cell by cell. -/
namespace Go.Proofs.YthfhibnnkpbeiaaGreat
open Go.RowKit
def sumC (f : Nat → Dat) (j : Nat) : Nat := sumL (fun i => (f i).cnt) j
def mkD (f : Nat → Dat) (z : Int) (m : Nat) : Nat → Dat := fun j => if j < m then (f j).mark (z + (sumC f j : Int)) else f j
theorem upd_mkD (f : Nat → Dat) (z : Int) (m : Nat) : upd (mkD f z m) m ((f m).mark (z + (sumC f m : Int))) = mkD f z (m + 1) := by
 funext j
 simp only [upd, mkD]
 by_cases e : j = m
 ·subst e; rw [if_pos rfl, if_pos (by omega)]
 ·rw [if_neg e]
  by_cases e2 : j < m
  ·rw [if_pos e2, if_pos (by omega)]
  ·rw [if_neg e2, if_neg (by omega)]
theorem OwnD.mk0 {F : Nat → Prop} {w : World} {x : Value} {c n : Nat} {f : Nat → Dat} (z : Int) (h : OwnD w F x (.row c n f)) : OwnD w F x (.row c n (mkD f z (0 * c))) :=
 h.congr (fun j _ => by simp [mkD])
theorem OwnD.mkAll {F : Nat → Prop} {w : World} {x : Value} {c n : Nat} {f : Nat → Dat} {z : Int} (h : OwnD w F x (.row c n (mkD f z (n * c)))) : OwnD w F x ((Dat.row c n f).mark z) :=
 OwnD.congr (f' := fun j => (f j).mark (z + (sumL (fun i => (f i).cnt) j : Int))) h (fun j hj => by simp only [mkD]; rw [if_pos hj]; rfl)
theorem OwnD.mk_val {F : Nat → Prop} {w : World} {g n cap c m : Nat} {f : Nat → Dat} {z : Int} (h : OwnD w F (.slice (some ⟨g, 0, none⟩) n cap) (.row c n (mkD f z m))) (hm : m < n * c) {u v : Value} (hv : f m = .val v) (hu : u = mark1 v (z + (sumC f m : Int))) :
  OwnD (w.setCell ⟨g, m, none⟩ u) F (.slice (some ⟨g, 0, none⟩) n cap) (.row c n (mkD f z (m + 1))) := by
 have := h.put_val hm u
 rw [← upd_mkD, hv]
 rw [hu] at this ⊢
 exact this
theorem OwnD.mk_row {F : Nat → Prop} {w : World} {g n cap c m : Nat} {f : Nat → Dat} {z : Int} (h : OwnD w F (.slice (some ⟨g, 0, none⟩) n cap) (.row c n (mkD f z m))) (hm : m < n * c) :
  ∃ u K, w.cell? ⟨g, m, none⟩ = some u ∧ OwnD w K u (f m) ∧ (∀ k, K k → F k) ∧ ∀ w', OwnD w' K u ((f m).mark (z + (sumC f m : Int))) → Turns K w w' → OwnD w' F (.slice (some ⟨g, 0, none⟩) n cap) (.row c n (mkD f z (m + 1))) := by
 obtain ⟨u, K, h1, _, h3, h4, h5⟩ := h.step hm
 refine ⟨u, K, h1, ?_, fun k hk => (h4 k hk).1, fun w' hw ht => ?_⟩
 ·have e : mkD f z m m = f m := by simp [mkD]
  rw [e] at h3; exact h3
 ·have := h5 w' _ hw ht
  rw [upd_mkD] at this; exact this
theorem OwnD.marked {F : Nat → Prop} {w : World} {g n cap c : Nat} {f : Nat → Dat} {z : Int} (h : OwnD w F (.slice (some ⟨g, 0, none⟩) n cap) ((Dat.row c n f).mark z)) {j : Nat} (hj : j < n * c) :
  ∃ u K, w.cell? ⟨g, j, none⟩ = some u ∧ OwnD w K u ((f j).mark (z + (sumC f j : Int))) := by
 obtain ⟨u, K, h1, _, h3, _⟩ := OwnD.step (f := fun j => (f j).mark (z + (sumL (fun i => (f i).cnt) j : Int))) h hj
 exact ⟨u, K, h1, h3⟩
theorem OwnD.marked_val {F : Nat → Prop} {w : World} {g n cap c : Nat} {f : Nat → Dat} {z : Int} (h : OwnD w F (.slice (some ⟨g, 0, none⟩) n cap) ((Dat.row c n f).mark z)) {j : Nat} (hj : j < n * c) {v u : Value} (hv : f j = .val v) (hu : u = mark1 v (z + (sumC f j : Int))) :
  w.cell? ⟨g, j, none⟩ = some u := by
 obtain ⟨u', K, h1, h2⟩ := h.marked hj
 rw [hv] at h2
 rw [h1, h2.isD.val_eq, hu]
theorem OwnD.mslice {F : Nat → Prop} {w : World} {x : Value} {n c : Nat} {f : Nat → Dat} {z : Int} (h : OwnD w F x ((Dat.row c n f).mark z)) : ∃ a cap, x = .slice a n cap ∧ n ≤ maxLen ∧ (n = 0 ∨ ∃ g, a = some ⟨g, 0, none⟩) := by
 obtain ⟨a, cap, e, h1, h2, h⟩ := OwnD.parts (f := fun j => (f j).mark (z + (sumL (fun i => (f i).cnt) j : Int))) h
 exact ⟨a, cap, e, Nat.le_trans h1 h2, h.imp id (fun ⟨g, e, _⟩ => ⟨g, e⟩)⟩
theorem sumC_le {c n : Nat} {f : Nat → Dat} {j : Nat} (h : j ≤ n * c) : sumC f j ≤ (Dat.row c n f).cnt := sumL_mono _ h
theorem sumC_succ (f : Nat → Dat) (j : Nat) : sumC f (j + 1) = sumC f j + (f j).cnt := rfl
end Go.Proofs.YthfhibnnkpbeiaaGreat

