/- Rowed, OwnE, Find, PId -/
import Derived.Test.YtglmdocokfnmcaaExactLastG20
import Derived.Test.YtglmdocokfnmcaaExactLastG00
import Derived.Laws.OwnMore
import Derived.WalkSmall
import Derived.Laws.AppendOwnNone
import Derived.Deep.RegionLaw
import Derived.Test.YtglmdocokfnmcaaExactLastG13
/- A row of events of one's own, whose places are written; what turns beside it. -/
namespace Go.Proofs.Ytglmdocokfnmcaa
open Go.RowKit

def Row (w : World) (B g cap : Nat) (l : List Ev) : Prop := w.ownsRow B 40 7 (.slice (some ⟨g, 0, none⟩) l.length cap) l.length (cellsL l)
theorem cellsL_set : ∀ (l : List Ev) (i : Nat) (e : Ev), i < l.length →
    (((((((cellsL l).set (i * 7) (.int .i64 e.t)).set (i * 7 + 1) (.int .i64 e.s)).set (i * 7 + 2) (.int .i64 e.q)).set (i * 7 + 3) (.int .i64 e.d)).set (i * 7 + 4) (.int .i64 e.k)).set (i * 7 + 5) (.int .i64 e.v)).set (i * 7 + 6) (.int .i64 e.g) = cellsL (l.set i e)
  | [], _, _, h => by simp at h
  | a :: l, 0, e, _ => by simp [cellsL, Ev.cs]
  | a :: l, i + 1, e, h => by
    have ih := cellsL_set l i e (by simpa using h)
    have hk0 : (i + 1) * 7 = i * 7 + 1 + 1 + 1 + 1 + 1 + 1 + 1 := by omega
    simp only [cellsL, Ev.cs, List.cons_append, List.nil_append, List.set_cons_succ, hk0, ih]
theorem Row.put {w : World} {B g cap : Nat} {l : List Ev} (h : Row w B g cap l) {i : Nat} (hi : i < l.length) (e : Ev) : Row (put7 w g (i * 7) e) B g cap (l.set i e) := by
  have h0 := (World.ownsRow.stored h (i * 7) (.int .i64 e.t)).1
  have h1 := (World.ownsRow.stored h0 (i * 7 + 1) (.int .i64 e.s)).1
  have h2 := (World.ownsRow.stored h1 (i * 7 + 2) (.int .i64 e.q)).1
  have h3 := (World.ownsRow.stored h2 (i * 7 + 3) (.int .i64 e.d)).1
  have h4 := (World.ownsRow.stored h3 (i * 7 + 4) (.int .i64 e.k)).1
  have h5 := (World.ownsRow.stored h4 (i * 7 + 5) (.int .i64 e.v)).1
  have h6 := (World.ownsRow.stored h5 (i * 7 + 6) (.int .i64 e.g)).1
  unfold Row
  rw [List.length_set, ← cellsL_set l i e hi]
  exact h6
theorem Row.lt {w : World} {B g cap : Nat} {l : List Ev} (h : Row w B g cap l) : B ≤ g ∧ g < w.heap.size := World.ownsRow.lt h g rfl
theorem Row.caps {w : World} {B g cap : Nat} {l : List Ev} (h : Row w B g cap l) : l.length ≤ cap ∧ cap ≤ maxLen := by
  obtain ⟨_, ⟨h, _⟩ | ⟨g', cap', cur, e, _, _, h1, h2, _⟩⟩ := h
  · cases h
  · cases e; exact ⟨h1, h2⟩
theorem Row.ev {w : World} {B g cap : Nat} {l : List Ev} (h : Row w B g cap l) {i : Nat} (hi : i < l.length) : Ev.In w g (i * 7) (evAt l i) := by
  have hget : ∀ r, r < 7 → w.cell? ⟨g, i * 7 + r, none⟩ = (evAt l i).cs[r]? := fun r hr => by
    rw [World.ownsRow.cellAt h (i * 7 + r) (by omega), cellsL_get l i r hi hr]
  exact ⟨hget 0 (by omega), hget 1 (by omega), hget 2 (by omega), hget 3 (by omega), hget 4 (by omega), hget 5 (by omega), hget 6 (by omega)⟩
theorem Row.frozen {w : World} {B g cap : Nat} {l : List Ev} (h : Row w B g cap l) (j : Nat) : w.frozen? ⟨g, j, none⟩ = false := World.ownsRow.frozenAt h j
theorem Row.evs {w : World} {B g cap : Nat} {l : List Ev} (h : Row w B g cap l) : EvsAt w g 0 l := ⟨h.lt.2, fun i hi => by rw [Nat.zero_add]; exact h.ev hi⟩
theorem Row.same {w w' : World} {B g cap : Nat} {l : List Ev} (h : Row w B g cap l) (hb : w'.heap[g]? = w.heap[g]?) : Row w' B g cap l := by
  obtain ⟨h0, ⟨h, _⟩ | ⟨g', cap', cur, e, hg, hc, h1, h2, h3, h4⟩⟩ := h
  · cases h
  · cases e; exact ⟨h0, .inr ⟨g, cap, cur, rfl, hg, hb.trans hc, h1, h2, h3, h4⟩⟩
theorem Row.below {w w' : World} {B B' g cap : Nat} {l : List Ev} (h : Row w B g cap l) (hb : Below B' w w') (hB : g < B') : Row w' B g cap l := h.same (hb.block g hB)
theorem Row.base {w : World} {B B' g cap : Nat} {l : List Ev} (h : Row w B g cap l) (hB : B' ≤ g) : Row w B' g cap l := by
  obtain ⟨h0, ⟨h, _⟩ | ⟨g', cap', cur, e, hg, hc, h1, h2, h3, h4⟩⟩ := h
  · cases h
  · cases e; exact ⟨h0, .inr ⟨g, cap, cur, rfl, hB, hc, h1, h2, h3, h4⟩⟩
theorem Row.own {w : World} {B g cap : Nat} {l : List Ev} (h : Row w B g cap l) : OwnEvs B w (.slice (some ⟨g, 0, none⟩) l.length cap) l := OwnEvs.of_row h
theorem Row.drew {w : World} {B g cap : Nat} {l : List Ev} (h : Row w B g cap l) : Row w.drew B g cap l := World.ownsRow.drew h
theorem Row.pop {w : World} {B g cap : Nat} {l : List Ev} {e : Ev} (h : Row w B g cap (l ++ [e])) : Row w B g cap l := by
  unfold Row at h
  rw [List.length_append, List.length_singleton, cellsL_append] at h
  exact ownsRow_pop (cellsL_length l) h

/- All blocks but those of S stay as they were. -/
theorem Turns.put {S : Nat → Prop} {a w : World} (h : Turns S a w) {g : Nat} (hg : S g) (o : Nat) (e : Ev) : Turns S a (put7 w g o e) :=
  ((((((h.setCell (p := ⟨g, o, none⟩) hg _).setCell (p := ⟨g, o + 1, none⟩) hg _).setCell (p := ⟨g, o + 2, none⟩) hg _).setCell (p := ⟨g, o + 3, none⟩) hg _).setCell (p := ⟨g, o + 4, none⟩) hg _).setCell (p := ⟨g, o + 5, none⟩) hg _).setCell (p := ⟨g, o + 6, none⟩) hg _
theorem Turns.row {S : Nat → Prop} {w w' : World} (h : Turns S w w') {B g cap : Nat} {l : List Ev} (hr : Row w B g cap l) (hg : ¬ S g) : Row w' B g cap l := hr.same (h.block g hr.lt.2 hg)
end Go.Proofs.Ytglmdocokfnmcaa

/- Lists that are read, nil or not; the copies of both sides, as rows of one's own. -/
namespace Go.Proofs.Ytglmdocokfnmcaa
open Go.RowKit
def SrcE (w : World) (x : Value) (l : List Ev) : Prop := (x = .slice none 0 0 ∧ l = []) ∨ ∃ b off cap, x = .slice (some ⟨b, off, none⟩) l.length cap ∧ EvsAt w b off l
def OwnR (B : Nat) (w : World) (x : Value) (l : List Ev) : Prop := w.ownsRow B 40 7 x l.length (cellsL l)
theorem SrcE.below {w w' : World} {x : Value} {l : List Ev} (h : SrcE w x l) (hb : Below w.heap.size w w') : SrcE w' x l :=
  h.imp id (fun ⟨b, off, cap, e, h⟩ => ⟨b, off, cap, e, h.below hb h.1⟩)
theorem OwnR.src {B : Nat} {w : World} {x : Value} {l : List Ev} (h : OwnR B w x l) : SrcE w x l := by
  have h' := h
  obtain ⟨_, ⟨e, h0⟩ | ⟨g, cap, cur, rfl, h1⟩⟩ := h
  · exact .inl ⟨e, List.eq_nil_of_length_eq_zero h0⟩
  · exact .inr ⟨g, 0, cap, rfl, Row.evs h'⟩
theorem OwnR.own {B : Nat} {w : World} {x : Value} {l : List Ev} (h : OwnR B w x l) : OwnEvs B w x l := OwnEvs.of_row h
theorem OwnR.rowed {B : Nat} {w : World} {x : Value} {l : List Ev} (h : OwnR B w x l) {n : Nat} (hl : l.length = n + 1) : ∃ g cap, x = .slice (some ⟨g, 0, none⟩) (n + 1) cap ∧ Row w B g cap l := by
  have h' := h
  obtain ⟨_, ⟨e, h0⟩ | ⟨g, cap, cur, rfl, h1⟩⟩ := h
  · omega
  · exact ⟨g, cap, by rw [hl], h'⟩
theorem OwnR.below {B : Nat} {w w' : World} {x : Value} {l : List Ev} (h : OwnR B w x l) (hb : Below w.heap.size w w') : OwnR B w' x l := by
  obtain ⟨h0, ⟨e, h1⟩ | ⟨g, cap, cur, e, hg, hc, h1⟩⟩ := h
  · exact ⟨h0, .inl ⟨e, h1⟩⟩
  · exact ⟨h0, .inr ⟨g, cap, cur, e, hg, (hb.block g (Array.getElem?_eq_some_iff.1 hc).1).trans hc, h1⟩⟩
theorem OwnR.mono {B B' : Nat} {w : World} {x : Value} {l : List Ev} (h : OwnR B w x l) (hB : B' ≤ B) : OwnR B' w x l := by
  obtain ⟨h0, ⟨e, h1⟩ | ⟨g, cap, cur, e, hg, h1⟩⟩ := h
  · exact ⟨h0, .inl ⟨e, h1⟩⟩
  · exact ⟨h0, .inr ⟨g, cap, cur, e, Nat.le_trans hB hg, h1⟩⟩
theorem OwnR.nil (B : Nat) (w : World) : OwnR B w (.slice none 0 0) [] := World.ownsRow_nil w B _ 7
theorem OwnR.evs {B : Nat} {w : World} {x : Value} {l : List Ev} (h : OwnR B w x l) : IsEvs w x l := h.own.isEvs
theorem RowTo.src {w : World} {g : Nat} {l : List Ev} (h : RowTo w g l.length l l.length) : SrcE w (.slice (some ⟨g, 0, none⟩) l.length l.length) l := .inr ⟨g, 0, _, rfl, h.evs⟩

set_option maxHeartbeats 1000000 in
theorem copy_row (x : Value) (l : List Ev) (w : World) (hl : l.length ≤ 1048577) (hI : SrcE w x l) :
    Calls Try.prog 86 #[x] w fun e w' => ∃ y, e = .returned y ∧ OwnR w.heap.size w' y l ∧ Below w.heap.size w w' := by
  obtain ⟨i0, hi, hz0, hz1, hz2⟩ := info_parts info25
  rcases hI with ⟨rfl, rfl⟩ | ⟨b, off, cap, rfl, hI⟩
  · go_enter Try.func86, Try.ntmps86
    go_wp2_with (at_builtin; refine wpList_append_own_none rfl _ _ 33 rfl w.heap.size 40 i0 7 Try.underlying33 hi (.slice none 0 0) 0 [] rfl (World.ownsRow_nil w _ 40 7) rfl ?_)
    go_ret
    exact ⟨_, rfl, OwnR.nil _ _, Below.refl _ _⟩
  · have HI : Hid (EvsAt w b off l) := hI
    clear hI
    go_enter Try.func86, Try.ntmps86
    go_wp2_with (at_builtin; refine wpList_append_own _ rfl _ _ 33 rfl w.heap.size 40 i0 _ 7 56 Try.underlying33 hi hz0 hz1 hz2 rfl (by decide) (.slice none 0 0) 0 [] rfl (World.ownsRow_nil w _ 40 7) ⟨b, off, none⟩ l.length cap (cellsL l) rfl (cellsL_length l) HI.out.cells (cellsL_one l) (by unfold maxLen; omega) (by omega) (Nat.le_refl _) ?_; intro v' w1 hown hgrow hnil)
    go_ret
    exact ⟨_, rfl, by unfold OwnR; simpa using hown, (Below.refl _ w).grown hgrow (Nat.le_refl _) (fun k e => by cases e)⟩

set_option maxHeartbeats 1000000 in
theorem own_row (x : Value) (l : List Ev) (w : World) (hl : l.length ≤ 1048577) (hI : SrcE w x l) :
    Calls Try.prog 69 #[x] w fun e w' => ∃ y, e = .returned y ∧ OwnR w.heap.size w' y l ∧ Below w.heap.size w w' := by
  obtain ⟨i0, hi, hz0, hz1, hz2⟩ := info_parts info25
  rcases hI with ⟨rfl, rfl⟩ | ⟨b, off, cap, rfl, hI⟩
  · go_enter Try.func69, Try.ntmps69
    go_wp2_with (at_builtin; refine wpList_append_own_none rfl _ _ 33 rfl w.heap.size 40 i0 7 Try.underlying33 hi (.slice (some ⟨w.heap.size, 0, none⟩) 0 0) 0 [] rfl (row_empty w) rfl ?_)
    go_ret
    exact ⟨_, rfl, row_empty w, (Below.refl _ w).alloc (Nat.le_refl _) _⟩
  · have HI : Hid (EvsAt w b off l) := hI
    clear hI
    go_enter Try.func69, Try.ntmps69
    go_wp2_with (at_builtin; refine wpList_append_own _ rfl _ _ 33 rfl w.heap.size 40 i0 _ 7 56 Try.underlying33 hi hz0 hz1 hz2 rfl (by decide) (.slice (some ⟨w.heap.size, 0, none⟩) 0 0) 0 [] rfl (row_empty w) ⟨b, off, none⟩ l.length cap (cellsL l) rfl (cellsL_length l) (HI.out.below ((Below.refl _ w).alloc (Nat.le_refl _) _) HI.out.1).cells (cellsL_one l) (by unfold maxLen; omega) (by omega) (by simp) ?_; intro v' w1 hown hgrow hnil)
    go_ret
    exact ⟨_, rfl, by unfold OwnR; simpa using hown, ((Below.refl _ w).alloc (Nat.le_refl _) _).grown hgrow (by simp) (fun k e => by cases e; exact Nat.le_refl _)⟩

end Go.Proofs.Ytglmdocokfnmcaa

/- The specification's l1find. -/
namespace Go.Proofs.Ytglmdocokfnmcaa
open Go.RowKit

/- The first place of a tag. -/
def FirstAt (l : List Ev) (tag : Int) (i : Nat) : Prop := i < l.length ∧ (evAt l i).g = tag ∧ ∀ j, j < i → (evAt l j).g ≠ tag
def NoTag (l : List Ev) (tag : Int) : Prop := ∀ j, j < l.length → (evAt l j).g ≠ tag
theorem firstAt_or (l : List Ev) (tag : Int) : (∃ i, FirstAt l tag i) ∨ NoTag l tag := by
  have key : ∀ n, n ≤ l.length → (∃ i, FirstAt l tag i) ∨ ∀ j, j < n → (evAt l j).g ≠ tag := by
    intro n
    induction n with
    | zero => intro _; exact .inr (fun j hj => by omega)
    | succ n ih =>
      intro hn
      rcases ih (by omega) with h | h
      · exact .inl h
      · by_cases e : (evAt l n).g = tag
        · exact .inl ⟨n, by omega, e, h⟩
        · exact .inr (fun j hj => by
            by_cases ej : j = n
            · subst ej; exact e
            · exact h j (by omega))
  exact key l.length (Nat.le_refl _)

theorem step_append_own {P : Program} {ops : Array Oper} {o : Oper} {a : Act} {w : World} {K : Act → World → Prop} {Q : Exit → Act → World → Prop} {E : Prop}
    (hg : o.guard = none) (s x : Operand) (t : TypeId) (hop : o.op = Op.call { callee := Callee.builtin Builtin.append, args := #[s, x], argTypes := #[t, t] })
    (base : Nat) (e : TypeId) (i : TypeInfo) (z : Value) (size bytes : Nat) (h1 : P.underlying t = some (.slice e)) (h2 : P.info? e = some i) (h3 : i.zero = some z) (h4 : i.size = size) (h5 : i.bytes = bytes) (h6 : z.cells.size = size) (h7 : 0 < size)
    (v : Value) (n : Nat) (xs : List Value) (hs : a.eval s = v) (hown : w.ownsRow base e size v n xs)
    (ad : Addr) (m c : Nat) (news : List Value) (hx : a.eval x = .slice (some ad) m c) (hn : news.length = m * size) (hc : ∀ j u, news[j]? = some u → w.cell? (ad.add j) = some u) (h1c : ∀ u ∈ news, u.oneCell' = true)
    (b1 : n + m ≤ maxLen) (b2 : (n + m) * bytes ≤ 140737488355328) (hbase : base ≤ w.heap.size)
    (hK : ∀ v' w', w'.ownsRow base e size v' (n + m) (xs ++ news) → w.grownBy w' v.ownBlock → K (a.put o.dst v') w') :
    if Region.wanted o (yielded ops a.tmps) = true then Oper.wp P o a w K Q else E := by
  have hw : Region.wanted o (yielded ops a.tmps) = true := by simp [Region.wanted, hg]
  rw [if_pos hw]
  exact wp_append_own w s x t hop base e i z size bytes h1 h2 h3 h4 h5 h6 h7 v n xs hs hown ad m c news hx hn hc h1c b1 b2 hbase (fun v' w' r1 r2 _ => hK v' w' r1 r2)

theorem EvsAt.take {w : World} {b off : Nat} {l : List Ev} (h : EvsAt w b off l) (k : Nat) : EvsAt w b off (l.take k) :=
  ⟨h.1, fun i hi => by
    have h1 : i < k ∧ i < l.length := by simp at hi; omega
    rw [evAt_take _ _ _ h1.1]; exact h.2 i h1.2⟩
theorem EvsAt.drop {w : World} {b off : Nat} {l : List Ev} (h : EvsAt w b off l) (k : Nat) : EvsAt w b (off + k * 7) (l.drop k) :=
  ⟨h.1, fun i hi => by
    have h1 : k + i < l.length := by simp at hi; omega
    rw [evAt_drop, show off + k * 7 + i * 7 = off + (k + i) * 7 from by omega]; exact h.2 _ h1⟩

theorem row_ge {w : World} {B : Nat} {e : TypeId} {size n : Nat} {v : Value} {xs : List Value} (h : w.ownsRow B e size v n xs) {r : Nat} (hr : v.ownBlock = some r) : B ≤ r := by
  obtain ⟨_, ⟨rfl, _⟩ | ⟨g, cap, cur, rfl, hg, _⟩⟩ := h
  · cases hr
  · cases hr; exact hg
end Go.Proofs.Ytglmdocokfnmcaa

/- The program's doneOf. -/
namespace Go.Proofs.Ytglmdocokfnmcaa
open Go.RowKit
/- A row whose first k elements are l's. -/
def RowK (w : World) (B g n : Nat) (l : List Ev) (k : Nat) : Prop := ∃ cs, w.ownsRow B 40 7 (.slice (some ⟨g, 0, none⟩) n n) n cs ∧ cs.take (k * 7) = cellsL (l.take k)
theorem cellsL_take : ∀ (l : List Ev) (k : Nat), (cellsL l).take (k * 7) = cellsL (l.take k)
  | [], k => by simp [cellsL]
  | e :: l, 0 => by simp [cellsL]
  | e :: l, k + 1 => by
    have h : (k + 1) * 7 = e.cs.length + k * 7 := by simp [Ev.cs]; omega
    simp only [cellsL, List.take_succ_cons]
    rw [h, List.take_length_add_append, cellsL_take l k]
theorem set7_take {cs : List Value} {k : Nat} (hl : k * 7 + 7 ≤ cs.length) (v0 v1 v2 v3 v4 v5 v6 : Value) :
    (((((((cs.set (k * 7) v0).set (k * 7 + 1) v1).set (k * 7 + 2) v2).set (k * 7 + 3) v3).set (k * 7 + 4) v4).set (k * 7 + 5) v5).set (k * 7 + 6) v6).take ((k + 1) * 7) = cs.take (k * 7) ++ [v0, v1, v2, v3, v4, v5, v6] := by
  apply List.ext_getElem?
  intro j
  have hlt : (cs.take (k * 7)).length = k * 7 := by simp; omega
  by_cases h1 : j < k * 7
  · rw [List.getElem?_take_of_lt (by omega), List.getElem?_append_left (by omega), List.getElem?_take_of_lt h1]
    rw [List.getElem?_set_ne (by omega), List.getElem?_set_ne (by omega), List.getElem?_set_ne (by omega), List.getElem?_set_ne (by omega), List.getElem?_set_ne (by omega), List.getElem?_set_ne (by omega), List.getElem?_set_ne (by omega)]
  · rw [List.getElem?_append_right (by omega), hlt]
    obtain ⟨r, rfl⟩ : ∃ r, j = k * 7 + r := ⟨j - k * 7, by omega⟩
    by_cases h2 : r < 7
    · rw [List.getElem?_take_of_lt (by omega), Nat.add_sub_cancel_left]
      match r, h2 with
      | 0, _ => simp [List.getElem?_set]; omega
      | 1, _ => simp [List.getElem?_set]; omega
      | 2, _ => simp [List.getElem?_set]; omega
      | 3, _ => simp [List.getElem?_set]; omega
      | 4, _ => simp [List.getElem?_set]; omega
      | 5, _ => simp [List.getElem?_set]; omega
      | 6, _ => simp [List.getElem?_set]; omega
    · rw [List.getElem?_eq_none (by simp; omega), List.getElem?_eq_none (by simp; omega)]
theorem RowK.put {w : World} {B g n k : Nat} {l : List Ev} (h : RowK w B g n l k) (hk : k < n) (hl : l.length = n) : RowK (put7 w g (k * 7) (evAt l k)) B g n l (k + 1) := by
  obtain ⟨cs, h1, h2⟩ := h
  have hlen : cs.length = n * 7 := h1.1
  have s0 := (World.ownsRow.stored h1 (k * 7) (.int .i64 (evAt l k).t)).1
  have s1 := (World.ownsRow.stored s0 (k * 7 + 1) (.int .i64 (evAt l k).s)).1
  have s2 := (World.ownsRow.stored s1 (k * 7 + 2) (.int .i64 (evAt l k).q)).1
  have s3 := (World.ownsRow.stored s2 (k * 7 + 3) (.int .i64 (evAt l k).d)).1
  have s4 := (World.ownsRow.stored s3 (k * 7 + 4) (.int .i64 (evAt l k).k)).1
  have s5 := (World.ownsRow.stored s4 (k * 7 + 5) (.int .i64 (evAt l k).v)).1
  have s6 := (World.ownsRow.stored s5 (k * 7 + 6) (.int .i64 (evAt l k).g)).1
  refine ⟨_, s6, ?_⟩
  rw [set7_take (by omega), h2]
  have e : l.take (k + 1) = l.take k ++ [evAt l k] := by
    rw [List.take_add_one, List.getElem?_eq_getElem (by omega)]
    simp [evAt, show k < l.length by omega]
  rw [e, cellsL_append]
  rfl
theorem RowK.cells {w : World} {B g n k : Nat} {l : List Ev} (h : RowK w B g n l k) (hk : k < n) : ∃ c0 c1 c2 c3 c4 c5 c6, (w.cell? ⟨g, k * 7, none⟩ = some c0 ∧ w.cell? ⟨g, k * 7 + 1, none⟩ = some c1 ∧ w.cell? ⟨g, k * 7 + 2, none⟩ = some c2 ∧ w.cell? ⟨g, k * 7 + 3, none⟩ = some c3 ∧ w.cell? ⟨g, k * 7 + 4, none⟩ = some c4 ∧ w.cell? ⟨g, k * 7 + 5, none⟩ = some c5 ∧ w.cell? ⟨g, k * 7 + 6, none⟩ = some c6) ∧ ∀ j, w.frozen? ⟨g, j, none⟩ = false := by
  obtain ⟨cs, h1, h2⟩ := h
  have hlen : cs.length = n * 7 := h1.1
  have hh : ∀ r, r < 7 → ∃ c, w.cell? ⟨g, k * 7 + r, none⟩ = some c := fun r hr => ⟨_, (World.ownsRow.cellAt h1 (k * 7 + r) (by omega)).trans (List.getElem?_eq_getElem (by omega))⟩
  obtain ⟨c0, g0⟩ := hh 0 (by omega)
  obtain ⟨c1, g1⟩ := hh 1 (by omega)
  obtain ⟨c2, g2⟩ := hh 2 (by omega)
  obtain ⟨c3, g3⟩ := hh 3 (by omega)
  obtain ⟨c4, g4⟩ := hh 4 (by omega)
  obtain ⟨c5, g5⟩ := hh 5 (by omega)
  obtain ⟨c6, g6⟩ := hh 6 (by omega)
  exact ⟨c0, c1, c2, c3, c4, c5, c6, ⟨g0, g1, g2, g3, g4, g5, g6⟩, fun j => World.ownsRow.frozenAt h1 j⟩
theorem RowK.below {w w' : World} {B g n k : Nat} {l : List Ev} (h : RowK w B g n l k) (hb : Below w.heap.size w w') : RowK w' B g n l k := by
  obtain ⟨cs, h1, h2⟩ := h
  obtain ⟨h0, ⟨e, h1⟩ | ⟨g', cap, cur, e, hg, hc, h1⟩⟩ := h1
  · exact ⟨cs, ⟨h0, .inl ⟨e, h1⟩⟩, h2⟩
  · exact ⟨cs, ⟨h0, .inr ⟨g', cap, cur, e, hg, (hb.block g' (Array.getElem?_eq_some_iff.1 hc).1).trans hc, h1⟩⟩, h2⟩
theorem RowK.all {w : World} {B g n : Nat} {l : List Ev} (h : RowK w B g n l n) (hl : l.length = n) : OwnR B w (.slice (some ⟨g, 0, none⟩) n n) l := by
  obtain ⟨cs, h1, h2⟩ := h
  have hlen : cs.length = n * 7 := h1.1
  rw [List.take_of_length_le (by omega), List.take_of_length_le (by omega)] at h2
  unfold OwnR
  rw [hl, ← h2]
  exact h1
theorem RowK.lt {w : World} {B g n k : Nat} {l : List Ev} (h : RowK w B g n l k) : B ≤ g ∧ g < w.heap.size := by
  obtain ⟨cs, h1, _⟩ := h
  exact World.ownsRow.lt h1 g rfl
set_option maxRecDepth 100000 in
set_option maxHeartbeats 8000000 in
theorem iDone (x : Value) (p : Pa) (w : World) (hw : p.wt ≤ 1048576) (h : IsPart w x p) :
    Calls Try.prog 101 #[x] w fun e w' => ∃ y, e = .returned y ∧ OwnR w.heap.size w' y p.es ∧ Below w.heap.size w w' := by
  obtain ⟨v1, v4, v5, v6, rfl, h1, h4, h5, h6⟩ := h
  have hpl : p.p.length ≤ 1048576 := by have := pastsD_wt p.p; unfold Pa.wt at hw; omega
  obtain ⟨pa, pc, rfl, _, _, h4⟩ := IsD.parts (c := 12) (n := p.p.length) h4
  have H4 : Hid (p.p.length = 0 ∨ ∃ b off, pa = some ⟨b, off, none⟩ ∧ b < w.heap.size ∧ ∀ j, j < p.p.length * 12 → ∃ u, w.cell? ⟨b, off + j, none⟩ = some u ∧ IsD w u (pastsD_f p.p j)) := h4
  clear h1 h4 h5 h6 hw
  have hp : (0 : Int) ≤ (p.p.length : Int) := by omega
  obtain ⟨i0, hi, hz0, hz1, hz2⟩ := info_parts info25
  obtain ⟨W0, hW0⟩ : ∃ W0, w.alloc (.cells #[.int .i64 p.n, v1, .int .i64 p.st.q, .int .i64 p.st.d, .slice pa p.p.length pc, v5, v6] 35) = W0 := ⟨_, rfl⟩
  have HB0 : Hid (Below w.heap.size w W0) := by rw [← hW0]; exact (Below.refl _ w).alloc (Nat.le_refl _) _
  have HP0 : Hid (Bk W0 w.heap.size 35 #[.int .i64 p.n, v1, .int .i64 p.st.q, .int .i64 p.st.d, .slice pa p.p.length pc, v5, v6]) := by rw [← hW0]; exact Bk.new w _ _
  have hs0 : w.heap.size < W0.heap.size := HP0.out.lt
  have p4 := HP0.out.cell (i := 4) rfl
  go_enter Try.func101, Try.ntmps101
  go_wp2_with (at_make; refine wpList_make_full _ rfl _ _ 33 rfl W0.heap.size 40 i0 _ 7 Try.underlying33 hi hz0 hz1 .i64 .i64 p.p.length p.p.length p.p.length rfl rfl rfl rfl (by rw [hz2]; omega) (by unfold maxLen; omega) (Nat.le_refl _) ?_; intro w1 hown hgrow; have hb1 : Below W0.heap.size W0 w1 := (Below.refl _ _).grown hgrow (Nat.le_refl _) (fun k e => by cases e); have hR1 : RowK w1 W0.heap.size W0.heap.size p.p.length p.es 0 := ⟨_, hown, by simp [cellsL]⟩; have q4 := (HP0.out.below hb1).cell (i := 4) rfl; have HB1 : Hid (Below W0.heap.size W0 w1) := hb1; have HR1 : Hid (RowK w1 W0.heap.size W0.heap.size p.p.length p.es 0) := hR1; clear hown hgrow hb1 hR1)
  clear p4 q4 hW0 hi hz0 hz1 hz2
  go_loopw [13] (fun i wr => ∃ k : Nat, k ≤ p.p.length ∧ i = .int .i64 k ∧ Below W0.heap.size W0 wr ∧ RowK wr W0.heap.size W0.heap.size p.p.length p.es k) (fun i _ => p.p.length - (intOf i).toNat)
  case atStart => exact ⟨0, Nat.zero_le _, rfl, HB1.out, HR1.out⟩
  case round =>
    clear HB1 HR1
    obtain ⟨k, hk, rfl, hB, hR⟩ := hrel
    have HB : Hid (Below W0.heap.size W0 wr) := hB
    have HBw : Hid (Below w.heap.size w wr) := HB0.out.trans (hB.mono (by omega))
    have HR : Hid (RowK wr W0.heap.size W0.heap.size p.p.length p.es k) := hR
    have hsr : W0.heap.size < wr.heap.size := hR.lt.2
    clear hB hR
    by_cases hlt : k < p.p.length
    · obtain ⟨b, off, rfl, hb, hc⟩ := H4.out.resolve_left (by omega)
      obtain ⟨ua, ub, uc, f0, f1, f2, f3, f4, f5, f6, f7, f8, f9, f10, f11, d7, d10, d11⟩ := pastsD_in (l := p.p) (n := p.p.length) (fun j hj => by
        obtain ⟨u, hu, hd⟩ := hc j hj
        exact ⟨u, (HBw.out.cell (p := ⟨b, off + j, none⟩) hb).trans hu, hd.under HBw.out⟩) hlt
      obtain ⟨a7, c7, rfl, _⟩ := IsD.len (c := 1) (n := (psAt p.p k).b.r.length) d7
      obtain ⟨a10, c10, rfl, _⟩ := IsD.len (c := 7) (n := (psAt p.p k).s.length) d10
      obtain ⟨a11, c11, rfl, _⟩ := IsD.len (c := 3) (n := (psAt p.p k).x.length) d11
      have hki : (k : Int) < (p.p.length : Int) := by omega
      obtain ⟨W1, hW1⟩ : ∃ W1, wr.alloc (.cells #[.int .i64 (psAt p.p k).e.t, .int .i64 (psAt p.p k).e.s, .int .i64 (psAt p.p k).e.q, .int .i64 (psAt p.p k).e.d, .int .i64 (psAt p.p k).e.k, .int .i64 (psAt p.p k).e.v, .int .i64 (psAt p.p k).e.g, .slice a7 (psAt p.p k).b.r.length c7, .int .i64 (psAt p.p k).b.q, .int .i64 (psAt p.p k).b.d, .slice a10 (psAt p.p k).s.length c10, .slice a11 (psAt p.p k).x.length c11] 65) = W1 := ⟨_, rfl⟩
      have hB1 : Below wr.heap.size wr W1 := by rw [← hW1]; exact (Below.refl _ wr).alloc (Nat.le_refl _) _
      have HB1 : Hid (Below wr.heap.size wr W1) := hB1
      have HX : Bk W1 wr.heap.size 65 #[.int .i64 (psAt p.p k).e.t, .int .i64 (psAt p.p k).e.s, .int .i64 (psAt p.p k).e.q, .int .i64 (psAt p.p k).e.d, .int .i64 (psAt p.p k).e.k, .int .i64 (psAt p.p k).e.v, .int .i64 (psAt p.p k).e.g, .slice a7 (psAt p.p k).b.r.length c7, .int .i64 (psAt p.p k).b.q, .int .i64 (psAt p.p k).b.d, .slice a10 (psAt p.p k).s.length c10, .slice a11 (psAt p.p k).x.length c11] := by rw [← hW1]; exact Bk.new _ _ _
      have HR1 : Hid (RowK W1 W0.heap.size W0.heap.size p.p.length p.es k) := HR.out.below hB1
      have x0 := HX.cell (i := 0) rfl
      have x1 := HX.cell (i := 1) rfl
      have x2 := HX.cell (i := 2) rfl
      have x3 := HX.cell (i := 3) rfl
      have x4 := HX.cell (i := 4) rfl
      have x5 := HX.cell (i := 5) rfl
      have x6 := HX.cell (i := 6) rfl
      obtain ⟨c0', c1', c2', c3', c4', c5', c6', ⟨g0, g1, g2, g3, g4, g5, g6⟩, gf⟩ := HR1.out.cells hlt
      have z0 := gf (k * 7)
      have z1 := gf (k * 7 + 1)
      have z2 := gf (k * 7 + 2)
      have z3 := gf (k * 7 + 3)
      have z4 := gf (k * 7 + 4)
      have z5 := gf (k * 7 + 5)
      have z6 := gf (k * 7 + 6)
      clear hc d7 d10 d11 hB1 HX gf
      go_wp2
      go_roundw
      case rel =>
        have hp7 := HR1.out.put hlt (es_length p)
        rw [es_at p hlt] at hp7
        have hbb : Below W0.heap.size W0 W1 := HB.out.trans (HB1.out.mono (by omega))
        exact ⟨k + 1, by omega, by go_num, put7_below hbb (Nat.le_refl _) _ _, hp7⟩
      case measure => simp [intOf]; omega
    · have he : k = p.p.length := by omega
      have HRe : Hid (RowK wr W0.heap.size W0.heap.size p.p.length p.es p.p.length) := by
        have h9 := HR.out
        rw [he] at h9
        exact h9
      go_wp2
      go_ret
      exact ⟨_, rfl, (HRe.out.all (es_length p)).mono (by omega), HBw.out⟩
end Go.Proofs.Ytglmdocokfnmcaa

