/- Steps, Meth, PileI -/
import Derived.Test.YteecpandpkicmaaSortsG01
import Derived.Test.YteecpandpkicmaaSortsLSwapJ
import Derived.Test.YteecpandpkicmaaSortsLLessI
import Derived.RangeFuncBox
/- One step of lifting, one of sinking. -/
namespace Go.Proofs.Yteecpandpkicmaa
theorem upL_step {l : List Ev} {i p : Nat} (hp : (i - 1) / 2 = p) (hi : p < i) (hc : (evAt l i).cmp (evAt l p) < 0) : upL (swp l i p) p = upL l i := by
  subst hp; exact (upL_go (by omega) hc).symm
theorem downL_step {l : List Ev} {n i k : Nat} (hk : pickL l n i = k) (hne : k ≠ i) : downL (swp l i k) n k = downL l n i := by
  subst hk; exact (downL_go hne).symm
theorem pick_none {l : List Ev} {n i : Nat} (h : ¬ 2 * i + 1 < n) : pickL l n i = i := by
  rw [pick_lib, if_neg h]
/- The document's way, test by test. -/
theorem pick_left {l : List Ev} {n i : Nat} (h1 : 2 * i + 1 < n) (a : (evAt l (2 * i + 1)).cmp (evAt l i) < 0) (b : ¬ (2 * i + 2 < n ∧ (evAt l (2 * i + 2)).cmp (evAt l (2 * i + 1)) < 0)) : pickL l n i = 2 * i + 1 := by
  unfold pickL; rw [if_pos (And.intro h1 a), if_neg b]
theorem pick_right {l : List Ev} {n i : Nat} (h1 : 2 * i + 1 < n) (a : (evAt l (2 * i + 1)).cmp (evAt l i) < 0) (h2 : 2 * i + 2 < n) (b : (evAt l (2 * i + 2)).cmp (evAt l (2 * i + 1)) < 0) : pickL l n i = 2 * i + 2 := by
  unfold pickL; rw [if_pos (And.intro h1 a), if_pos (And.intro h2 b)]
theorem pick_right' {l : List Ev} {n i : Nat} (a : ¬ (2 * i + 1 < n ∧ (evAt l (2 * i + 1)).cmp (evAt l i) < 0)) (h2 : 2 * i + 2 < n) (b : (evAt l (2 * i + 2)).cmp (evAt l i) < 0) : pickL l n i = 2 * i + 2 := by
  unfold pickL; rw [if_neg a, if_pos (And.intro h2 b)]
theorem pick_stay {l : List Ev} {n i : Nat} (a : ¬ (2 * i + 1 < n ∧ (evAt l (2 * i + 1)).cmp (evAt l i) < 0)) (b : ¬ (2 * i + 2 < n ∧ (evAt l (2 * i + 2)).cmp (evAt l i) < 0)) : pickL l n i = i := by
  unfold pickL; rw [if_neg a, if_neg b]
/- The library's way. -/
theorem lib_right {l : List Ev} {n i : Nat} (h2 : 2 * i + 2 < n) (b : (evAt l (2 * i + 2)).cmp (evAt l (2 * i + 1)) < 0) (c : (evAt l (2 * i + 2)).cmp (evAt l i) < 0) : pickL l n i = 2 * i + 2 := by
  rw [pick_lib, if_pos (by omega), if_pos ⟨h2, b⟩, if_pos c]
theorem lib_right_stay {l : List Ev} {n i : Nat} (h2 : 2 * i + 2 < n) (b : (evAt l (2 * i + 2)).cmp (evAt l (2 * i + 1)) < 0) (c : ¬ (evAt l (2 * i + 2)).cmp (evAt l i) < 0) : pickL l n i = i := by
  rw [pick_lib, if_pos (by omega), if_pos ⟨h2, b⟩, if_neg c]
theorem lib_left {l : List Ev} {n i : Nat} (h1 : 2 * i + 1 < n) (b : ¬ (2 * i + 2 < n ∧ (evAt l (2 * i + 2)).cmp (evAt l (2 * i + 1)) < 0)) (c : (evAt l (2 * i + 1)).cmp (evAt l i) < 0) : pickL l n i = 2 * i + 1 := by
  rw [pick_lib, if_pos h1, if_neg b, if_pos c]
theorem lib_left_stay {l : List Ev} {n i : Nat} (h1 : 2 * i + 1 < n) (b : ¬ (2 * i + 2 < n ∧ (evAt l (2 * i + 2)).cmp (evAt l (2 * i + 1)) < 0)) (c : ¬ (evAt l (2 * i + 1)).cmp (evAt l i) < 0) : pickL l n i = i := by
  rw [pick_lib, if_pos h1, if_neg b, if_neg c]
end Go.Proofs.Yteecpandpkicmaa

/- Which methods a pile has. -/
namespace Go.Proofs.Yteecpandpkicmaa
open Go.RowKit
abbrev pv (P : Nat) : Value := .iface 87 (.pointer (some ⟨P, 0, none⟩))
theorem m_len (P : Nat) (w : World) : (method 221 87 (.pointer (some ⟨P, 0, none⟩)) "Len").run Try.prog w = .ok (86, .pointer (some ⟨P, 0, none⟩)) w := by kernel_rfl
theorem m_less (P : Nat) (w : World) : (method 221 87 (.pointer (some ⟨P, 0, none⟩)) "Less").run Try.prog w = .ok (87, .pointer (some ⟨P, 0, none⟩)) w := by kernel_rfl
theorem m_swap (P : Nat) (w : World) : (method 221 87 (.pointer (some ⟨P, 0, none⟩)) "Swap").run Try.prog w = .ok (90, .pointer (some ⟨P, 0, none⟩)) w := by kernel_rfl
theorem m_push (P : Nat) (w : World) : (method 221 87 (.pointer (some ⟨P, 0, none⟩)) "Push").run Try.prog w = .ok (89, .pointer (some ⟨P, 0, none⟩)) w := by kernel_rfl
theorem m_pop (P : Nat) (w : World) : (method 221 87 (.pointer (some ⟨P, 0, none⟩)) "Pop").run Try.prog w = .ok (88, .pointer (some ⟨P, 0, none⟩)) w := by kernel_rfl
theorem m_events (P : Nat) (w : World) : (method 221 87 (.pointer (some ⟨P, 0, none⟩)) "loop.example/g00603/impl.events").run Try.prog w = .ok (91, .pointer (some ⟨P, 0, none⟩)) w := by kernel_rfl
end Go.Proofs.Yteecpandpkicmaa

/- The pile as a box; its Push and Pop. -/
namespace Go.Proofs.Yteecpandpkicmaa
open Go.RowKit
/- At block P lies a pile whose list is the slice value v over a row of its own. -/
structure Pl (w : World) (B P : Nat) (v : Value) (l : List Ev) : Prop where
  box : Boxed w P 89 v
  row : w.ownsRow B 25 7 v l.length (cellsL l)
  low : B ≤ P
theorem Pl.slice {w : World} {B P : Nat} {v : Value} {l : List Ev} (h : Pl w B P v l) : ∃ a cap, v = .slice a l.length cap ∧ l.length ≤ maxLen := by
  obtain ⟨_, ⟨e, h0⟩ | ⟨g, cap, cur, e, _, _, h1, h2, _⟩⟩ := h.row
  · exact ⟨none, 0, by rw [e, h0], by omega⟩
  · exact ⟨_, cap, e, by omega⟩
theorem Pl.rowed {w : World} {B P : Nat} {v : Value} {l : List Ev} (h : Pl w B P v l) (hl : 0 < l.length) : ∃ g cap, v = sl g l.length cap ∧ Row w B g cap l ∧ P ≠ g := by
  obtain ⟨h0, ⟨e, h1⟩ | ⟨g, cap, cur, e, h1⟩⟩ := h.row
  · omega
  · have hr := h.row
    refine ⟨g, cap, e, ?_, fun e1 => h.box.not_row (by decide) hr (by rw [e, e1]; rfl)⟩
    rw [e] at hr
    exact hr
theorem Pl.alloc {w : World} {B P : Nat} {v : Value} {l : List Ev} (h : Pl w B P v l) (o : Obj) : Pl (w.alloc o) B P v l := ⟨h.box.alloc o, h.row.alloc o, h.low⟩
/- What Turns on the row alone leaves of a pile. -/
theorem Pl.turned {w w' : World} {B P g cap : Nat} {l l' : List Ev} (h : Pl w B P (sl g l.length cap) l) (ht : Turns (fun b => b = g) w w') (hg : P ≠ g) (hr : Row w' B g cap l') (hl : l'.length = l.length) : Pl w' B P (sl g l'.length cap) l' :=
  ⟨by rw [hl]; exact (ht.block P h.box.lt hg).trans h.box, hr, h.low⟩
theorem Ev.cs_one (e : Ev) : ∀ u ∈ e.cs, u.oneCell' = true := by
  intro u h
  simp [Ev.cs] at h
  rcases h with rfl | rfl | rfl | rfl | rfl | rfl | rfl <;> rfl
theorem Ev.In.cells {w : World} {b : Nat} {e : Ev} (h : Ev.In w b 0 e) : ∀ j u, e.cs[j]? = some u → w.cell? ((⟨b, 0, none⟩ : Addr).add j) = some u := fun j u hu => by
  rw [addr_add]; exact h.get hu
theorem newE (w : World) (e : Ev) : Ev.In (w.alloc (.cells #[.int .i64 e.t, .int .i64 e.s, .int .i64 e.q, .int .i64 e.d, .int .i64 e.k, .int .i64 e.v, .int .i64 e.g] 25)) w.heap.size 0 e := EvAt.new _ _ _ _ _ _ _ _ _

theorem newED (w : World) (e : Ev) : Ev.In (w.alloc (.cells #[.int .i64 e.t, .int .i64 e.s, .int .i64 e.q, .int .i64 e.d, .int .i64 e.k, .int .i64 e.v, .int .i64 e.g] 25)).drew w.heap.size 0 e := ⟨(newE w e).f0, (newE w e).f1, (newE w e).f2, (newE w e).f3, (newE w e).f4, (newE w e).f5, (newE w e).f6⟩
theorem grow_drew {w w' : World} {row : Option Nat} (h : w.drew.grownBy w' row) : w.grownBy w' row := ⟨h.os, h.tape, h.output, h.size, h.block⟩
theorem assert_ev (t s q d k v g : Int) (w : World) : (Instr.typeAssert (.iface 25 (.agg #[.int .i64 t, .int .i64 s, .int .i64 q, .int .i64 d, .int .i64 k, .int .i64 v, .int .i64 g])) 20 25 true).run Try.prog w = .ok (.tuple #[.agg #[.int .i64 t, .int .i64 s, .int .i64 q, .int .i64 d, .int .i64 k, .int .i64 v, .int .i64 g], .bool true]) w := by kernel_rfl
set_option maxRecDepth 100000 in
set_option maxHeartbeats 4000000 in
theorem push_any (B P : Nat) (v : Value) (l : List Ev) (e : Ev) (w : World) (hB : B ≤ w.heap.size) (h : Pl w B P v l) (hl : l.length ≤ 1048577) :
    Calls Try.prog 89 #[.pointer (some ⟨P, 0, none⟩), .iface 25 (.agg #[.int .i64 e.t, .int .i64 e.s, .int .i64 e.q, .int .i64 e.d, .int .i64 e.k, .int .i64 e.v, .int .i64 e.g])] w fun r w' => (∃ u, r = .returned u) ∧ (∃ g cap, Pl w' B P (sl g (l ++ [e]).length cap) (l ++ [e])) ∧ Below B w w' := by
  obtain ⟨a, cap, rfl, hm⟩ := h.slice
  obtain ⟨i0, hi, hz0, hz1, hz2⟩ := info_parts info25
  have HH : Hid (Pl w B P (.slice a l.length cap) l) := h
  have hPw : P < w.heap.size := h.box.lt
  have hPn : P ≠ w.heap.size := by omega
  have hcP := h.box.cell
  have hfP := h.box.frozen
  clear h
  have hta := assert_ev e.t e.s e.q e.d e.k e.v e.g
  go_enter Try.func89, Try.ntmps89
  go_wp2
  have HB1 : Hid (Boxed (w.alloc (.cells #[.int .i64 e.t, .int .i64 e.s, .int .i64 e.q, .int .i64 e.d, .int .i64 e.k, .int .i64 e.v, .int .i64 e.g] 25)) P 89 (.slice a l.length cap)) := HH.out.box.alloc _
  have HR1 : Hid ((w.alloc (.cells #[.int .i64 e.t, .int .i64 e.s, .int .i64 e.q, .int .i64 e.d, .int .i64 e.k, .int .i64 e.v, .int .i64 e.g] 25)).ownsRow B 25 7 (.slice a l.length cap) l.length (cellsL l)) := HH.out.row.alloc _
  have HW1 : Hid (Below B w (w.alloc (.cells #[.int .i64 e.t, .int .i64 e.s, .int .i64 e.q, .int .i64 e.d, .int .i64 e.k, .int .i64 e.v, .int .i64 e.g] 25))) := (Below.refl _ w).alloc hB _
  obtain ⟨x0, x1, x2, x3, x4, x5, x6⟩ := (newE w e).lits
  generalize hW : w.alloc (.cells #[.int .i64 e.t, .int .i64 e.s, .int .i64 e.q, .int .i64 e.d, .int .i64 e.k, .int .i64 e.v, .int .i64 e.g] 25) = W at *
  have hBW : B ≤ W.heap.size := by rw [← hW]; simp; omega
  have hPW : P < W.heap.size := HB1.out.lt
  have hPWn : P ≠ W.heap.size := by omega
  have hwW : w.heap.size < W.heap.size := by rw [← hW]; simp
  have hcP1 := HB1.out.cell
  have hfP1 := HB1.out.frozen
  clear hW hcP hfP hta
  go_region_law (refine step_append_own rfl (.tmp 16) (.tmp 18) 23 rfl B 25 i0 _ 7 56 Try.underlying23 hi hz0 hz1 hz2 rfl (by decide) (.slice a l.length cap) l.length (cellsL l) rfl ((World.ownsRow.alloc HR1.out _).drew) ⟨W.heap.size, 0, none⟩ 1 1 e.cs rfl rfl (Ev.In.cells (newED W e)) (Ev.cs_one e) (by unfold maxLen at hm ⊢; omega) (by omega) (by simp; omega) ?_; intro v1 w1 hown1 hgrow1; obtain ⟨g1, cap1, rfl⟩ := ownsRow_succ hown1; obtain ⟨hA, hC, hD, _, hE⟩ := Boxed.appended (W := W) HB1.out (by decide) HR1.out hBW HH.out.low hown1 (grow_drew hgrow1); have hcP2 := hA.cell; have hfP2 := hA.frozen)
  all_goals
    go_wp2
    go_end0
    refine ⟨⟨_, rfl⟩, ⟨g1, cap1, ?_⟩, HW1.out.trans hE⟩
    have e1 : (l ++ [e]).length = l.length + 1 := by simp
    rw [e1]
    exact ⟨hC, by rw [e1, cellsL_append]; simpa [cellsL] using hD, HH.out.low⟩

set_option maxRecDepth 100000 in
set_option maxHeartbeats 4000000 in
theorem pop_any (B P g cap : Nat) (l : List Ev) (e : Ev) (w : World) (h : Pl w B P (sl g (l.length + 1) cap) (l ++ [e])) :
    Calls Try.prog 88 #[.pointer (some ⟨P, 0, none⟩)] w fun r w' => r = .returned (.iface 25 (.agg #[.int .i64 e.t, .int .i64 e.s, .int .i64 e.q, .int .i64 e.d, .int .i64 e.k, .int .i64 e.v, .int .i64 e.g])) ∧ Pl w' B P (sl g l.length cap) l ∧ Turns (fun b => b = P) w w' := by
  have HH : Hid (Pl w B P (sl g (l.length + 1) cap) (l ++ [e])) := h
  have hPw : P < w.heap.size := h.box.lt
  have hcP := h.box.cell
  have hfP := h.box.frozen
  have hR : Row w B g cap (l ++ [e]) := by have := h.row; unfold Row; rw [List.length_append] at this ⊢; exact this
  have HR : Hid (Row w B g cap (l ++ [e])) := hR
  have hgw : g < w.heap.size := hR.lt.2
  have hcap := hR.caps
  rw [List.length_append] at hcap
  simp only [List.length_singleton] at hcap
  obtain ⟨f0, f1, f2, f3, f4, f5, f6⟩ := hR.ev (i := l.length) (by simp)
  rw [evAt_last] at f0 f1 f2 f3 f4 f5 f6
  have hmx : cap ≤ maxLen := hcap.2
  unfold maxLen at hmx
  clear h hR
  go_enter Try.func88, Try.ntmps88
  go_wp2
  go_ret
  have hne : some P ≠ (sl g (l.length + 1) cap).ownBlock := HH.out.box.not_row (by decide) HH.out.row
  have hr2 : w.ownsRow B 25 7 (sl g l.length cap) l.length (cellsL l) := HR.out.pop
  exact ⟨rfl, ⟨(HH.out.box.set (sl g l.length cap)).alloc _, (hr2.kept (grownBy_setCell' w P _) (.inr (fun h => hne h.symm))).alloc _, HH.out.low⟩, ((Turns.refl (fun b => b = P) w).setCell (p := ⟨P, 0, none⟩) rfl _).alloc _⟩
end Go.Proofs.Yteecpandpkicmaa

