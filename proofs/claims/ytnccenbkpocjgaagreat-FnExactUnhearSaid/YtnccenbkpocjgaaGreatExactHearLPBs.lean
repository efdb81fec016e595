/- The specification's l4back: one that was done behind the other is undone. -/
import Derived.Test.YtnccenbkpocjgaaGreatExactHearG28
import Derived.Deep.Cut
namespace Go.Proofs.YtnccenbkpocjgaaGreat
open Go.RowKit
structure LBk (w : World) (p : Pa) (cs : List Value) (S0 B4 : Nat) (u6 : Value) (wr : World) (vr vp vt vu : Value) (j : Nat) (L : List Ev) : Prop where
 blk : Bk wr B4 33 #[.int .i64 p.n, vr, .int .i64 (p.back j).st.q, .int .i64 (p.back j).st.d, vp, vt, u6]
 regs : IsD w vr (intsD (p.back j).st.r)
 past : RowO w wr S0 126 12 vu vp j (cs.take (j * 12))
 todo : RowO w wr S0 55 7 vu vt (p.back j).t.length (cellsL (p.back j).t)
 undo : OwnR S0 wr vu L
 bel : Below w.heap.size w wr
def lenAt (w : World) (b i : Nat) : Nat := match w.cell? ⟨b, i, none⟩ with
 | some (.slice _ n _) => n
 | _ => 0
theorem lenAt_of {w : World} {b i : Nat} {a : Option Addr} {n c : Nat} (h : w.cell? ⟨b, i, none⟩ = some (.slice a n c)) : lenAt w b i = n := by unfold lenAt; rw [h]
def HiAt (l : List Ps) (e : Ev) (j : Nat) : Prop := ∀ i, j ≤ i → i < l.length → ¬ (psAt l i).e.cmp e < 0
theorem LBk.vp {w : World} {p : Pa} {cs : List Value} {S0 B4 : Nat} {u6 : Value} {wr : World} {vr vp vt vu : Value} {j : Nat} {L : List Ev} (h : LBk w p cs S0 B4 u6 wr vr vp vt vu j L) : ∃ a cap, vp = .slice a j cap ∧ j ≤ cap ∧ cap ≤ maxLen := (h.past.read h.bel).2
theorem LBk.len {w : World} {p : Pa} {cs : List Value} {S0 B4 : Nat} {u6 : Value} {wr : World} {vr vp vt vu : Value} {j : Nat} {L : List Ev} (h : LBk w p cs S0 B4 u6 wr vr vp vt vu j L) : lenAt wr B4 4 = j := by
 obtain ⟨a, cap, e, _⟩ := h.vp
 have hc := h.blk.cell (i := 4) rfl
 rw [e] at hc
 exact lenAt_of hc
theorem LBk.keep {w : World} {p : Pa} {cs : List Value} {S0 B4 : Nat} {u6 : Value} {wr w' : World} {vr vp vt vu : Value} {j : Nat} {L : List Ev} (h : LBk w p cs S0 B4 u6 wr vr vp vt vu j L) (hb : Below wr.heap.size wr w') : LBk w p cs S0 B4 u6 w' vr vp vt vu j L :=
 ⟨h.blk.below hb, h.regs, h.past.keep hb, h.todo.keep hb, h.undo.below hb, h.bel.trans (hb.mono h.bel.size)⟩
theorem LBk.isPart {w : World} {p : Pa} {cs : List Value} {S0 B4 : Nat} {u6 : Value} {wr : World} {vr vp vt vu : Value} {j : Nat} {L : List Ev} (h : LBk w p cs S0 B4 u6 wr vr vp vt vu j L) (hj : j ≤ p.p.length) (hd : ∀ i, i < p.p.length * 12 → IsD w (nthV cs i) (pastsD_f p.p i)) (h6 : IsD w u6 (intsD p.a)) :
  IsPart wr (.agg #[.int .i64 p.n, vr, .int .i64 (p.back j).st.q, .int .i64 (p.back j).st.d, vp, vt, u6]) (p.back j) := by
 refine ⟨vr, vp, vt, u6, rfl, h.regs.under h.bel, ?_, ?_, h6.under h.bel⟩
 ·have h1 := h.past.read h.bel
  have h2 := h1.1.isD (f := pastsD_f (p.p.take j)) h1.2 h.bel (fun i hi => by
   have e1 : nthV (cs.take (j * 12)) i = nthV cs i := by simp [nthV, List.getElem?_take_of_lt hi]
   rw [e1]
   have e2 : pastsD_f (p.p.take j) i = pastsD_f p.p i := by
    show (psAt (p.p.take j) (i / 12)).cell (i % 12) = _
    rw [psAt_take (by omega)]
    rfl
   rw [e2]
   exact hd i (by omega))
  show IsD wr vp (.row 12 (p.p.take j).length (pastsD_f (p.p.take j)))
  rw [List.length_take, Nat.min_eq_left hj]
  exact h2
 ·have h1 := h.todo.read h.bel
  exact SrcC.isD (w0 := w) h1.1 h1.2 h.bel (fun i hi => by
   have : nthV (cellsL (p.back j).t) i = (cellsL (p.back j).t).getD i (.int .i64 0) := rfl
   rw [this]; exact .val _)
theorem ownR_snoc {B : Nat} {w : World} {x : Value} {l : List Ev} {e : Ev} (h : w.ownsRow B 55 7 x (l.length + 1) (cellsL l ++ e.cs)) : OwnR B w x (l ++ [e]) := by
 unfold OwnR
 rw [cellsL_append, List.length_append]
 show World.ownsRow _ _ _ _ _ (l.length + 1) (cellsL l ++ (e.cs ++ []))
 rw [List.append_nil]
 exact h
theorem drop_rev {s : List Ev} {m : Nat} (h : m < s.length) : (s.drop m).reverse = (s.drop (m + 1)).reverse ++ [evAt s m] := by
 rw [List.drop_eq_getElem_cons h]
 simp [evAt, h]
end Go.Proofs.YtnccenbkpocjgaaGreat
