/- Steps, Meth, PileI, InsS, OwnS, InsR -/
import Derived.Test.YteecpandpkicmaaDoorOrdersCardG00
import Derived.Test.YteecpandpkicmaaDoorOrdersCardLSwapJ
import Derived.Test.YteecpandpkicmaaDoorOrdersCardLLessI
import Derived.Test.YteecpandpkicmaaDoorOrdersCardG01
import Derived.RangeFuncBox
import Derived.Test.YteecpandpkicmaaDoorOrdersCardG13
import Derived.Test.YteecpandpkicmaaDoorOrdersCardG04
import Derived.Laws.AppendOwnNone
/- One step of lifting, one of sinking. -/
namespace Go.Proofs.YteecpandpkicmaaDoor
theorem upL_step {l : List Ev} {i p : Nat} (hp : (i - 1) / 2 = p) (hi : p < i) (hc : (evAt l i).cmp (evAt l p) < 0) : upL (swp l i p) p = upL l i := by
  subst hp; exact (upL_go (by omega) hc).symm
theorem downL_step {l : List Ev} {n i k : Nat} (hk : pickL l n i = k) (hne : k ≠ i) : downL (swp l i k) n k = downL l n i := by
  subst hk; exact (downL_go hne).symm
theorem pick_none {l : List Ev} {n i : Nat} (h : ¬ 2 * i + 1 < n) : pickL l n i = i := by
  rw [pick_lib, if_neg h]
/- The document's way, test by test. -/
theorem pick_left {l : List Ev} {n i : Nat} (h1 : 2 * i + 1 < n) (a : (evAt l (2 * i + 1)).cmp (evAt l i) < 0) (b : ¬ (2 * i + 2 < n ∧ (evAt l (2 * i + 2)).cmp (evAt l (2 * i + 1)) < 0)) : pickL l n i = 2 * i + 1 := by
  unfold pickL; rw [if_pos (And.intro h1 a), if_neg b]
theorem pick_right {l : List Ev} {n i : Nat} (h1 : 2 * i + 1 < n) (a : (evAt l (2 * i + 1)).cmp (evAt l i) < 0) (h2 : 2 * i + 2 < n) (b : (evAt l (2 * i + 2)).cmp (evAt l (2 * i + 1)) < 0) : pickL l n i = 2 * i + 2 := by
  unfold pickL; rw [if_pos (And.intro h1 a), if_pos (And.intro h2 b)]
theorem pick_right' {l : List Ev} {n i : Nat} (a : ¬ (2 * i + 1 < n ∧ (evAt l (2 * i + 1)).cmp (evAt l i) < 0)) (h2 : 2 * i + 2 < n) (b : (evAt l (2 * i + 2)).cmp (evAt l i) < 0) : pickL l n i = 2 * i + 2 := by
  unfold pickL; rw [if_neg a, if_pos (And.intro h2 b)]
theorem pick_stay {l : List Ev} {n i : Nat} (a : ¬ (2 * i + 1 < n ∧ (evAt l (2 * i + 1)).cmp (evAt l i) < 0)) (b : ¬ (2 * i + 2 < n ∧ (evAt l (2 * i + 2)).cmp (evAt l i) < 0)) : pickL l n i = i := by
  unfold pickL; rw [if_neg a, if_neg b]
/- The library's way. -/
theorem lib_right {l : List Ev} {n i : Nat} (h2 : 2 * i + 2 < n) (b : (evAt l (2 * i + 2)).cmp (evAt l (2 * i + 1)) < 0) (c : (evAt l (2 * i + 2)).cmp (evAt l i) < 0) : pickL l n i = 2 * i + 2 := by
  rw [pick_lib, if_pos (by omega), if_pos ⟨h2, b⟩, if_pos c]
theorem lib_right_stay {l : List Ev} {n i : Nat} (h2 : 2 * i + 2 < n) (b : (evAt l (2 * i + 2)).cmp (evAt l (2 * i + 1)) < 0) (c : ¬ (evAt l (2 * i + 2)).cmp (evAt l i) < 0) : pickL l n i = i := by
  rw [pick_lib, if_pos (by omega), if_pos ⟨h2, b⟩, if_neg c]
theorem lib_left {l : List Ev} {n i : Nat} (h1 : 2 * i + 1 < n) (b : ¬ (2 * i + 2 < n ∧ (evAt l (2 * i + 2)).cmp (evAt l (2 * i + 1)) < 0)) (c : (evAt l (2 * i + 1)).cmp (evAt l i) < 0) : pickL l n i = 2 * i + 1 := by
  rw [pick_lib, if_pos h1, if_neg b, if_pos c]
theorem lib_left_stay {l : List Ev} {n i : Nat} (h1 : 2 * i + 1 < n) (b : ¬ (2 * i + 2 < n ∧ (evAt l (2 * i + 2)).cmp (evAt l (2 * i + 1)) < 0)) (c : ¬ (evAt l (2 * i + 1)).cmp (evAt l i) < 0) : pickL l n i = i := by
  rw [pick_lib, if_pos h1, if_neg b, if_neg c]
end Go.Proofs.YteecpandpkicmaaDoor

/- Which methods a pile has. -/
namespace Go.Proofs.YteecpandpkicmaaDoor
open Go.RowKit
abbrev pv (P : Nat) : Value := .iface 84 (.pointer (some ⟨P, 0, none⟩))
theorem m_len (P : Nat) (w : World) : (method 233 84 (.pointer (some ⟨P, 0, none⟩)) "Len").run Tryd.prog w = .ok (84, .pointer (some ⟨P, 0, none⟩)) w := by kernel_rfl
theorem m_less (P : Nat) (w : World) : (method 233 84 (.pointer (some ⟨P, 0, none⟩)) "Less").run Tryd.prog w = .ok (85, .pointer (some ⟨P, 0, none⟩)) w := by kernel_rfl
theorem m_swap (P : Nat) (w : World) : (method 233 84 (.pointer (some ⟨P, 0, none⟩)) "Swap").run Tryd.prog w = .ok (88, .pointer (some ⟨P, 0, none⟩)) w := by kernel_rfl
theorem m_push (P : Nat) (w : World) : (method 233 84 (.pointer (some ⟨P, 0, none⟩)) "Push").run Tryd.prog w = .ok (87, .pointer (some ⟨P, 0, none⟩)) w := by kernel_rfl
theorem m_events (P : Nat) (w : World) : (method 233 84 (.pointer (some ⟨P, 0, none⟩)) "loop.example/g00603/impl.events").run Tryd.prog w = .ok (89, .pointer (some ⟨P, 0, none⟩)) w := by kernel_rfl
end Go.Proofs.YteecpandpkicmaaDoor

/- The pile as a box; its Push and Pop. -/
namespace Go.Proofs.YteecpandpkicmaaDoor
open Go.RowKit
/- At block P lies a pile whose list is the slice value v over a row of its own. -/
structure Pl (w : World) (B P : Nat) (v : Value) (l : List Ev) : Prop where
  box : Boxed w P 86 v
  row : w.ownsRow B 24 7 v l.length (cellsL l)
  low : B ≤ P
theorem Pl.slice {w : World} {B P : Nat} {v : Value} {l : List Ev} (h : Pl w B P v l) : ∃ a cap, v = .slice a l.length cap ∧ l.length ≤ maxLen := by
  obtain ⟨_, ⟨e, h0⟩ | ⟨g, cap, cur, e, _, _, h1, h2, _⟩⟩ := h.row
  · exact ⟨none, 0, by rw [e, h0], by omega⟩
  · exact ⟨_, cap, e, by omega⟩
theorem Pl.rowed {w : World} {B P : Nat} {v : Value} {l : List Ev} (h : Pl w B P v l) (hl : 0 < l.length) : ∃ g cap, v = sl g l.length cap ∧ Row w B g cap l ∧ P ≠ g := by
  obtain ⟨h0, ⟨e, h1⟩ | ⟨g, cap, cur, e, h1⟩⟩ := h.row
  · omega
  · have hr := h.row
    refine ⟨g, cap, e, ?_, fun e1 => h.box.not_row (by decide) hr (by rw [e, e1]; rfl)⟩
    rw [e] at hr
    exact hr
theorem Pl.alloc {w : World} {B P : Nat} {v : Value} {l : List Ev} (h : Pl w B P v l) (o : Obj) : Pl (w.alloc o) B P v l := ⟨h.box.alloc o, h.row.alloc o, h.low⟩
/- What Turns on the row alone leaves of a pile. -/
theorem Pl.turned {w w' : World} {B P g cap : Nat} {l l' : List Ev} (h : Pl w B P (sl g l.length cap) l) (ht : Turns (fun b => b = g) w w') (hg : P ≠ g) (hr : Row w' B g cap l') (hl : l'.length = l.length) : Pl w' B P (sl g l'.length cap) l' :=
  ⟨by rw [hl]; exact (ht.block P h.box.lt hg).trans h.box, hr, h.low⟩
theorem Ev.cs_one (e : Ev) : ∀ u ∈ e.cs, u.oneCell' = true := by
  intro u h
  simp [Ev.cs] at h
  rcases h with rfl | rfl | rfl | rfl | rfl | rfl | rfl <;> rfl
theorem Ev.In.cells {w : World} {b : Nat} {e : Ev} (h : Ev.In w b 0 e) : ∀ j u, e.cs[j]? = some u → w.cell? ((⟨b, 0, none⟩ : Addr).add j) = some u := fun j u hu => by
  rw [addr_add]; exact h.get hu
theorem newE (w : World) (e : Ev) : Ev.In (w.alloc (.cells #[.int .i64 e.t, .int .i64 e.s, .int .i64 e.q, .int .i64 e.d, .int .i64 e.k, .int .i64 e.v, .int .i64 e.g] 24)) w.heap.size 0 e := EvAt.new _ _ _ _ _ _ _ _ _

theorem newED (w : World) (e : Ev) : Ev.In (w.alloc (.cells #[.int .i64 e.t, .int .i64 e.s, .int .i64 e.q, .int .i64 e.d, .int .i64 e.k, .int .i64 e.v, .int .i64 e.g] 24)).drew w.heap.size 0 e := ⟨(newE w e).f0, (newE w e).f1, (newE w e).f2, (newE w e).f3, (newE w e).f4, (newE w e).f5, (newE w e).f6⟩
theorem grow_drew {w w' : World} {row : Option Nat} (h : w.drew.grownBy w' row) : w.grownBy w' row := ⟨h.os, h.tape, h.output, h.size, h.block⟩
theorem assert_ev (t s q d k v g : Int) (w : World) : (Instr.typeAssert (.iface 24 (.agg #[.int .i64 t, .int .i64 s, .int .i64 q, .int .i64 d, .int .i64 k, .int .i64 v, .int .i64 g])) 20 24 true).run Tryd.prog w = .ok (.tuple #[.agg #[.int .i64 t, .int .i64 s, .int .i64 q, .int .i64 d, .int .i64 k, .int .i64 v, .int .i64 g], .bool true]) w := by kernel_rfl
set_option maxRecDepth 100000 in
set_option maxHeartbeats 4000000 in
theorem push_any (B P : Nat) (v : Value) (l : List Ev) (e : Ev) (w : World) (hB : B ≤ w.heap.size) (h : Pl w B P v l) (hl : l.length ≤ 1048577) :
    Calls Tryd.prog 87 #[.pointer (some ⟨P, 0, none⟩), .iface 24 (.agg #[.int .i64 e.t, .int .i64 e.s, .int .i64 e.q, .int .i64 e.d, .int .i64 e.k, .int .i64 e.v, .int .i64 e.g])] w fun r w' => (∃ u, r = .returned u) ∧ (∃ g cap, Pl w' B P (sl g (l ++ [e]).length cap) (l ++ [e])) ∧ Below B w w' := by
  obtain ⟨a, cap, rfl, hm⟩ := h.slice
  obtain ⟨i0, hi, hz0, hz1, hz2⟩ := info_parts info25
  have HH : Hid (Pl w B P (.slice a l.length cap) l) := h
  have hPw : P < w.heap.size := h.box.lt
  have hPn : P ≠ w.heap.size := by omega
  have hcP := h.box.cell
  have hfP := h.box.frozen
  clear h
  have hta := assert_ev e.t e.s e.q e.d e.k e.v e.g
  go_enter Tryd.func87, Tryd.ntmps87
  go_wp2
  have HB1 : Hid (Boxed (w.alloc (.cells #[.int .i64 e.t, .int .i64 e.s, .int .i64 e.q, .int .i64 e.d, .int .i64 e.k, .int .i64 e.v, .int .i64 e.g] 24)) P 86 (.slice a l.length cap)) := HH.out.box.alloc _
  have HR1 : Hid ((w.alloc (.cells #[.int .i64 e.t, .int .i64 e.s, .int .i64 e.q, .int .i64 e.d, .int .i64 e.k, .int .i64 e.v, .int .i64 e.g] 24)).ownsRow B 24 7 (.slice a l.length cap) l.length (cellsL l)) := HH.out.row.alloc _
  have HW1 : Hid (Below B w (w.alloc (.cells #[.int .i64 e.t, .int .i64 e.s, .int .i64 e.q, .int .i64 e.d, .int .i64 e.k, .int .i64 e.v, .int .i64 e.g] 24))) := (Below.refl _ w).alloc hB _
  obtain ⟨x0, x1, x2, x3, x4, x5, x6⟩ := (newE w e).lits
  generalize hW : w.alloc (.cells #[.int .i64 e.t, .int .i64 e.s, .int .i64 e.q, .int .i64 e.d, .int .i64 e.k, .int .i64 e.v, .int .i64 e.g] 24) = W at *
  have hBW : B ≤ W.heap.size := by rw [← hW]; simp; omega
  have hPW : P < W.heap.size := HB1.out.lt
  have hPWn : P ≠ W.heap.size := by omega
  have hwW : w.heap.size < W.heap.size := by rw [← hW]; simp
  have hcP1 := HB1.out.cell
  have hfP1 := HB1.out.frozen
  clear hW hcP hfP hta
  go_region_law (refine step_append_own rfl (.tmp 16) (.tmp 18) 40 rfl B 24 i0 _ 7 56 Tryd.underlying40 hi hz0 hz1 hz2 rfl (by decide) (.slice a l.length cap) l.length (cellsL l) rfl ((World.ownsRow.alloc HR1.out _).drew) ⟨W.heap.size, 0, none⟩ 1 1 e.cs rfl rfl (Ev.In.cells (newED W e)) (Ev.cs_one e) (by unfold maxLen at hm ⊢; omega) (by omega) (by simp; omega) ?_; intro v1 w1 hown1 hgrow1; obtain ⟨g1, cap1, rfl⟩ := ownsRow_succ hown1; obtain ⟨hA, hC, hD, _, hE⟩ := Boxed.appended (W := W) HB1.out (by decide) HR1.out hBW HH.out.low hown1 (grow_drew hgrow1); have hcP2 := hA.cell; have hfP2 := hA.frozen)
  all_goals
    go_wp2
    go_end0
    refine ⟨⟨_, rfl⟩, ⟨g1, cap1, ?_⟩, HW1.out.trans hE⟩
    have e1 : (l ++ [e]).length = l.length + 1 := by simp
    rw [e1]
    exact ⟨hC, by rw [e1, cellsL_append]; simpa [cellsL] using hD, HH.out.low⟩

end Go.Proofs.YteecpandpkicmaaDoor

/- The specification's l1insert. -/
namespace Go.Proofs.YteecpandpkicmaaDoor
open Go.RowKit
theorem rowE1 (w : World) : (w.alloc (.cells #[] 24)).drew.ownsRow w.heap.size 24 7 (.slice (some ⟨w.heap.size, 0, none⟩) 0 0) 0 [] := row_empty w
theorem rowE2 (w : World) (o : Obj) : ((w.alloc (.cells #[] 24)).alloc o).drew.ownsRow w.heap.size 24 7 (.slice (some ⟨w.heap.size, 0, none⟩) 0 0) 0 [] := (row_empty w).alloc o
theorem rowE3 (w : World) (o : Obj) : ((w.alloc o).alloc (.cells #[] 24)).drew.ownsRow w.heap.size 24 7 (.slice (some ⟨w.heap.size + 1, 0, none⟩) 0 0) 0 [] := by
  have h := row_empty (w.alloc o)
  rw [World.size_alloc] at h
  obtain ⟨h1, ⟨h2, _⟩ | ⟨g, cap, cur, h2, h3, h4⟩⟩ := h
  · cases h2
  · exact ⟨h1, .inr ⟨g, cap, cur, h2, by omega, h4⟩⟩
theorem newE2 (w : World) (e : Ev) : Ev.In ((w.alloc (.cells #[] 24)).alloc (.cells #[.int .i64 e.t, .int .i64 e.s, .int .i64 e.q, .int .i64 e.d, .int .i64 e.k, .int .i64 e.v, .int .i64 e.g] 24)).drew (w.heap.size + 1) 0 e := by
  have h := EvAt.new (w.alloc (.cells #[] 24)) 24 e.t e.s e.q e.d e.k e.v e.g
  rw [World.size_alloc] at h
  exact ⟨h.f0, h.f1, h.f2, h.f3, h.f4, h.f5, h.f6⟩
theorem newE3 (w : World) (e : Ev) : Ev.In ((w.alloc (.cells #[.int .i64 e.t, .int .i64 e.s, .int .i64 e.q, .int .i64 e.d, .int .i64 e.k, .int .i64 e.v, .int .i64 e.g] 24)).alloc (.cells #[] 24)).drew w.heap.size 0 e := by
  have h := (EvAt.new w 24 e.t e.s e.q e.d e.k e.v e.g).alloc (by simp) (.cells #[] 24)
  exact ⟨h.f0, h.f1, h.f2, h.f3, h.f4, h.f5, h.f6⟩
theorem EvAt.grown {w w' : World} {row : Option Nat} {b o : Nat} {t s q d k v g : Int} (h : EvAt w b o t s q d k v g) (hg : w.grownBy w' row) (hb : b < w.heap.size) (hr : some b ≠ row) : EvAt w' b o t s q d k v g := by
  have hc : ∀ x, w'.cell? ⟨b, x, none⟩ = w.cell? ⟨b, x, none⟩ := fun x => World.cell?_of_block (w := w) (hg.block b hb hr)
  exact ⟨(hc _).trans h.f0, (hc _).trans h.f1, (hc _).trans h.f2, (hc _).trans h.f3, (hc _).trans h.f4, (hc _).trans h.f5, (hc _).trans h.f6⟩
end Go.Proofs.YteecpandpkicmaaDoor

/- Lists that are read, nil or not; the copies of both sides, as rows of one's own. -/
namespace Go.Proofs.YteecpandpkicmaaDoor
open Go.RowKit
def Src (w : World) (x : Value) (l : List Ev) : Prop := (x = .slice none 0 0 ∧ l = []) ∨ ∃ b off cap, x = .slice (some ⟨b, off, none⟩) l.length cap ∧ EvsAt w b off l
def OwnR (B : Nat) (w : World) (x : Value) (l : List Ev) : Prop := w.ownsRow B 24 7 x l.length (cellsL l)
theorem Src.below {w w' : World} {x : Value} {l : List Ev} (h : Src w x l) (hb : Below w.heap.size w w') : Src w' x l :=
  h.imp id (fun ⟨b, off, cap, e, h⟩ => ⟨b, off, cap, e, h.below hb h.1⟩)
theorem OwnR.src {B : Nat} {w : World} {x : Value} {l : List Ev} (h : OwnR B w x l) : Src w x l := by
  have h' := h
  obtain ⟨_, ⟨e, h0⟩ | ⟨g, cap, cur, rfl, h1⟩⟩ := h
  · exact .inl ⟨e, List.eq_nil_of_length_eq_zero h0⟩
  · exact .inr ⟨g, 0, cap, rfl, Row.evs h'⟩
theorem OwnR.own {B : Nat} {w : World} {x : Value} {l : List Ev} (h : OwnR B w x l) : OwnEvs B w x l := OwnEvs.of_row h
theorem OwnR.rowed {B : Nat} {w : World} {x : Value} {l : List Ev} (h : OwnR B w x l) {n : Nat} (hl : l.length = n + 1) : ∃ g cap, x = .slice (some ⟨g, 0, none⟩) (n + 1) cap ∧ Row w B g cap l := by
  have h' := h
  obtain ⟨_, ⟨e, h0⟩ | ⟨g, cap, cur, rfl, h1⟩⟩ := h
  · omega
  · exact ⟨g, cap, by rw [hl], h'⟩
theorem OwnR.below {B : Nat} {w w' : World} {x : Value} {l : List Ev} (h : OwnR B w x l) (hb : Below w.heap.size w w') : OwnR B w' x l := by
  obtain ⟨h0, ⟨e, h1⟩ | ⟨g, cap, cur, e, hg, hc, h1⟩⟩ := h
  · exact ⟨h0, .inl ⟨e, h1⟩⟩
  · exact ⟨h0, .inr ⟨g, cap, cur, e, hg, (hb.block g (Array.getElem?_eq_some_iff.1 hc).1).trans hc, h1⟩⟩
theorem OwnR.mono {B B' : Nat} {w : World} {x : Value} {l : List Ev} (h : OwnR B w x l) (hB : B' ≤ B) : OwnR B' w x l := by
  obtain ⟨h0, ⟨e, h1⟩ | ⟨g, cap, cur, e, hg, h1⟩⟩ := h
  · exact ⟨h0, .inl ⟨e, h1⟩⟩
  · exact ⟨h0, .inr ⟨g, cap, cur, e, Nat.le_trans hB hg, h1⟩⟩
theorem OwnR.nil (B : Nat) (w : World) : OwnR B w (.slice none 0 0) [] := World.ownsRow_nil w B _ 7
theorem OwnR.evs {B : Nat} {w : World} {x : Value} {l : List Ev} (h : OwnR B w x l) : IsEvs w x l := h.own.isEvs
theorem RowTo.src {w : World} {g : Nat} {l : List Ev} (h : RowTo w g l.length l l.length) : Src w (.slice (some ⟨g, 0, none⟩) l.length l.length) l := .inr ⟨g, 0, _, rfl, h.evs⟩

set_option maxHeartbeats 1000000 in
theorem copy_row (x : Value) (l : List Ev) (w : World) (hl : l.length ≤ 1048577) (hI : Src w x l) :
    Calls Tryd.prog 31 #[x] w fun e w' => ∃ y, e = .returned y ∧ OwnR w.heap.size w' y l ∧ Below w.heap.size w w' := by
  obtain ⟨i0, hi, hz0, hz1, hz2⟩ := info_parts info25
  rcases hI with ⟨rfl, rfl⟩ | ⟨b, off, cap, rfl, hI⟩
  · go_enter Tryd.func31, Tryd.ntmps31
    go_wp2_with (at_builtin; refine wpList_append_own_none rfl _ _ 40 rfl w.heap.size 24 i0 7 Tryd.underlying40 hi (.slice none 0 0) 0 [] rfl (World.ownsRow_nil w _ 24 7) rfl ?_)
    go_ret
    exact ⟨_, rfl, OwnR.nil _ _, Below.refl _ _⟩
  · have HI : Hid (EvsAt w b off l) := hI
    clear hI
    go_enter Tryd.func31, Tryd.ntmps31
    go_wp2_with (at_builtin; refine wpList_append_own _ rfl _ _ 40 rfl w.heap.size 24 i0 _ 7 56 Tryd.underlying40 hi hz0 hz1 hz2 rfl (by decide) (.slice none 0 0) 0 [] rfl (World.ownsRow_nil w _ 24 7) ⟨b, off, none⟩ l.length cap (cellsL l) rfl (cellsL_length l) HI.out.cells (cellsL_one l) (by unfold maxLen; omega) (by omega) (Nat.le_refl _) ?_; intro v' w1 hown hgrow hnil)
    go_ret
    exact ⟨_, rfl, by unfold OwnR; simpa using hown, (Below.refl _ w).grown hgrow (Nat.le_refl _) (fun k e => by cases e)⟩

set_option maxHeartbeats 1000000 in
theorem pileOf_any (x : Value) (l : List Ev) (w : World) (hl : l.length ≤ 1048577) (hI : Src w x l) :
    Calls Tryd.prog 36 #[x] w fun e w' => ∃ P v, e = .returned (pv P) ∧ Pl w' w.heap.size P v l ∧ Below w.heap.size w w' := by
  have HI : Hid (Src w x l) := hI
  clear hI
  go_enter Tryd.func36, Tryd.ntmps36
  go_wp2_with fail
  refine (copy_row x l w hl HI.out).mono ?_
  rintro e w1 ⟨y, rfl, hy, hb⟩
  have HY : Hid (OwnR w.heap.size w1 y l) := hy
  obtain ⟨a, cap, rfl⟩ : ∃ a cap, y = .slice a l.length cap := by
    obtain ⟨_, ⟨e, h0⟩ | ⟨g, cap, cur, e, _⟩⟩ := hy
    · exact ⟨none, 0, by rw [e, h0]⟩
    · exact ⟨_, cap, e⟩
  clear hy
  go_wp2
  go_ret
  exact ⟨w1.heap.size, _, rfl, ⟨Boxed.new _ _ _, World.ownsRow.alloc HY.out _, hb.size⟩, hb.alloc hb.size _⟩

set_option maxHeartbeats 1000000 in
theorem events_any (B P : Nat) (v : Value) (l : List Ev) (w : World) (hl : l.length ≤ 1048577) (h : Pl w B P v l) :
    Calls Tryd.prog 89 #[.pointer (some ⟨P, 0, none⟩)] w fun e w' => ∃ y, e = .returned y ∧ OwnR w.heap.size w' y l ∧ Below w.heap.size w w' := by
  obtain ⟨a, cap, rfl, hm⟩ := h.slice
  have HI : Hid (Src w (.slice a l.length cap) l) := OwnR.src h.row
  have hcP := h.box.cell
  clear h
  go_enter Tryd.func89, Tryd.ntmps89
  go_wp2_with fail
  refine (copy_row _ l w hl HI.out).mono ?_
  rintro e w1 ⟨y, rfl, hy, hb⟩
  go_wp2
  go_ret
  exact ⟨_, rfl, hy, hb⟩
end Go.Proofs.YteecpandpkicmaaDoor

/- l1insert: the row that comes out is one's own. -/
namespace Go.Proofs.YteecpandpkicmaaDoor
open Go.RowKit
end Go.Proofs.YteecpandpkicmaaDoor

