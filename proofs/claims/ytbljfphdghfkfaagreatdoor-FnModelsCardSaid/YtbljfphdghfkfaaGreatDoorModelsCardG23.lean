/- LessI, Steps, Meth, PileI, OwnS, UpI -/
import Derived.Test.YtbljfphdghfkfaaGreatDoorModelsCardLSwapI
import Derived.Test.YtbljfphdghfkfaaGreatDoorModelsCardG22
import Derived.Test.YtbljfphdghfkfaaGreatDoorModelsCardG03
import Derived.Test.YtbljfphdghfkfaaGreatDoorModelsCardG00
import Derived.Test.YtbljfphdghfkfaaGreatDoorModelsCardG09
import Derived.RangeFuncBox
import Derived.Laws.AppendOwnNone
/- The pile's Less. -/
namespace Go.Proofs.YtbljfphdghfkfaaGreatDoor
open Go.RowKit
theorem cmpI_range (t s q g t' s' q' g' : Int) : cmpI t s q g t' s' q' g' = -1 ∨ 0 ≤ cmpI t s q g t' s' q' g' := by
 unfold cmpI num
 split <;> (try split) <;> (try split) <;> (try split) <;> (try split) <;> omega
theorem iCmp_ok (a b : Ev) (ha : a.ok = true) (hb : b.ok = true) (z : Int) (hz : a.cmp b = z) (w : World) : Calls Tryz.prog 192 #[a.val, b.val] w fun r w' => r = .returned (.int .i64 z) ∧ Below w.heap.size w w' := by
 refine (iCmp_any a.t a.s a.q a.d a.k a.v a.g b.t b.s b.q b.d b.k b.v b.g w).mono ?_
 rintro e w' ⟨rfl, h⟩
 refine ⟨?_, h⟩
 rw [← hz]
 unfold ecmp Ev.cmp
 rw [if_pos ⟨ha, hb⟩]
set_option maxRecDepth 100000 in
set_option maxHeartbeats 4000000 in
theorem less_any (B P g cap : Nat) (l : List Ev) (i k : Nat) (w : World) (hP : w.cell? ⟨P, 0, none⟩ = some (.slice (some ⟨g, 0, none⟩) l.length cap)) (hPw : P < w.heap.size) (hR : Row w B g cap l) (hi : i < l.length) (hk : k < l.length) (hoi : (evAt l i).ok = true) (hok : (evAt l k).ok = true) (b : Bool) (hb : decide ((evAt l i).cmp (evAt l k) < 0) = b) :
  Calls Tryz.prog 187 #[.pointer (some ⟨P, 0, none⟩), .int .i64 (i : Int), .int .i64 (k : Int)] w fun e w' => e = .returned (.bool b) ∧ Below w.heap.size w w' := by
 have hg : g < w.heap.size := hR.lt.2
 obtain ⟨z, hz⟩ : ∃ z, (evAt l i).cmp (evAt l k) = z := ⟨_, rfl⟩
 have HC : Hid (∀ w, Calls Tryz.prog 192 #[(evAt l i).val, (evAt l k).val] w fun r w' => r = .returned (.int .i64 z) ∧ Below w.heap.size w w') := iCmp_ok _ _ hoi hok z hz
 have hzb : (z == -1) = b := by
  rw [← hb]
  have := cmpI_range (evAt l i).t (evAt l i).s (evAt l i).q (evAt l i).g (evAt l k).t (evAt l k).s (evAt l k).q (evAt l k).g
  unfold Ev.cmp at hz ⊢
  rw [hz] at this ⊢
  by_cases h : z = -1
  ·subst h; rfl
  ·have h0 : ¬ z < 0 := by omega
   simp [h, h0]
 have hcP : ∀ p : Beyond w, p.w.cell? ⟨P, 0, none⟩ = some (.slice (some ⟨g, 0, none⟩) l.length cap) := fun p => p.cell hPw hP
 obtain ⟨f0, f1, f2, f3, f4, f5, f6⟩ := (hR.ev hi).beyond hg
 obtain ⟨e0, e1, e2, e3, e4, e5, e6⟩ := (hR.ev hk).beyond hg
 have hi1 : (i : Int) < (l.length : Int) := by omega
 have hk1 : (k : Int) < (l.length : Int) := by omega
 have hne : Nonempty (Beyond w) := ⟨⟨w, Below.refl _ _⟩⟩
 clear hR hP hb hz hoi hok
 go_enter Tryz.func187, Tryz.ntmps187
 go_wp2_with fail
 refine wp_region_beyond (by kernel_rfl) (by kernel_rfl) ?_
 repeat (go_big_quiet_step (first | (go_at_call 192; exact Beyond.of (HC.out _))))
 refine wpQuiet_nil ?_
 rintro w2 ⟨⟨_, hb2⟩, rfl⟩
 clear f0 f1 f2 f3 f4 f5 f6 e0 e1 e2 e3 e4 e5 e6 hne hcP
 go_wp2
 go_ret
 exact ⟨rfl, hb2⟩
end Go.Proofs.YtbljfphdghfkfaaGreatDoor

/- One step of lifting, one of sinking. -/
namespace Go.Proofs.YtbljfphdghfkfaaGreatDoor
theorem upL_step {l : List Ev} {i p : Nat} (hp : (i - 1) / 2 = p) (hi : p < i) (hc : (evAt l i).cmp (evAt l p) < 0) : upL (swp l i p) p = upL l i := by
 subst hp; exact (upL_go (by omega) hc).symm
theorem downL_step {l : List Ev} {n i k : Nat} (hk : pickL l n i = k) (hne : k ≠ i) : downL (swp l i k) n k = downL l n i := by
 subst hk; exact (downL_go hne).symm
theorem pick_none {l : List Ev} {n i : Nat} (h : ¬ 2 * i + 1 < n) : pickL l n i = i := by
 rw [pick_lib, if_neg h]
theorem lib_right {l : List Ev} {n i : Nat} (h2 : 2 * i + 2 < n) (b : (evAt l (2 * i + 2)).cmp (evAt l (2 * i + 1)) < 0) (c : (evAt l (2 * i + 2)).cmp (evAt l i) < 0) : pickL l n i = 2 * i + 2 := by
 rw [pick_lib, if_pos (by omega), if_pos ⟨h2, b⟩, if_pos c]
theorem lib_right_stay {l : List Ev} {n i : Nat} (h2 : 2 * i + 2 < n) (b : (evAt l (2 * i + 2)).cmp (evAt l (2 * i + 1)) < 0) (c : ¬ (evAt l (2 * i + 2)).cmp (evAt l i) < 0) : pickL l n i = i := by
 rw [pick_lib, if_pos (by omega), if_pos ⟨h2, b⟩, if_neg c]
theorem lib_left {l : List Ev} {n i : Nat} (h1 : 2 * i + 1 < n) (b : ¬ (2 * i + 2 < n ∧ (evAt l (2 * i + 2)).cmp (evAt l (2 * i + 1)) < 0)) (c : (evAt l (2 * i + 1)).cmp (evAt l i) < 0) : pickL l n i = 2 * i + 1 := by
 rw [pick_lib, if_pos h1, if_neg b, if_pos c]
theorem lib_left_stay {l : List Ev} {n i : Nat} (h1 : 2 * i + 1 < n) (b : ¬ (2 * i + 2 < n ∧ (evAt l (2 * i + 2)).cmp (evAt l (2 * i + 1)) < 0)) (c : ¬ (evAt l (2 * i + 1)).cmp (evAt l i) < 0) : pickL l n i = i := by
 rw [pick_lib, if_pos h1, if_neg b, if_neg c]
end Go.Proofs.YtbljfphdghfkfaaGreatDoor

/- Which methods a pile has. -/
namespace Go.Proofs.YtbljfphdghfkfaaGreatDoor
open Go.RowKit
abbrev pv (P : Nat) : Value := .iface 160 (.pointer (some ⟨P, 0, none⟩))
theorem m_len (P : Nat) (w : World) : (method 355 160 (.pointer (some ⟨P, 0, none⟩)) "Len").run Tryz.prog w = .ok (186, .pointer (some ⟨P, 0, none⟩)) w := by kernel_rfl
theorem m_less (P : Nat) (w : World) : (method 355 160 (.pointer (some ⟨P, 0, none⟩)) "Less").run Tryz.prog w = .ok (187, .pointer (some ⟨P, 0, none⟩)) w := by kernel_rfl
theorem m_swap (P : Nat) (w : World) : (method 355 160 (.pointer (some ⟨P, 0, none⟩)) "Swap").run Tryz.prog w = .ok (190, .pointer (some ⟨P, 0, none⟩)) w := by kernel_rfl
theorem m_push (P : Nat) (w : World) : (method 355 160 (.pointer (some ⟨P, 0, none⟩)) "Push").run Tryz.prog w = .ok (189, .pointer (some ⟨P, 0, none⟩)) w := by kernel_rfl
theorem m_pop (P : Nat) (w : World) : (method 355 160 (.pointer (some ⟨P, 0, none⟩)) "Pop").run Tryz.prog w = .ok (188, .pointer (some ⟨P, 0, none⟩)) w := by kernel_rfl
end Go.Proofs.YtbljfphdghfkfaaGreatDoor

/- The pile as a box; its Push and Pop. -/
namespace Go.Proofs.YtbljfphdghfkfaaGreatDoor
open Go.RowKit
structure Pl (w : World) (B P : Nat) (v : Value) (l : List Ev) : Prop where
 box : Boxed w P 163 v
 row : w.ownsRow B 53 7 v l.length (cellsL l)
 low : B ≤ P
theorem Pl.slice {w : World} {B P : Nat} {v : Value} {l : List Ev} (h : Pl w B P v l) : ∃ a cap, v = .slice a l.length cap ∧ l.length ≤ maxLen := by
 obtain ⟨_, ⟨e, h0⟩ | ⟨g, cap, cur, e, _, _, h1, h2, _⟩⟩ := h.row
 ·exact ⟨none, 0, by rw [e, h0], by omega⟩
 ·exact ⟨_, cap, e, by omega⟩
theorem Pl.rowed {w : World} {B P : Nat} {v : Value} {l : List Ev} (h : Pl w B P v l) (hl : 0 < l.length) : ∃ g cap, v = slh g l.length cap ∧ Row w B g cap l ∧ P ≠ g := by
 obtain ⟨h0, ⟨e, h1⟩ | ⟨g, cap, cur, e, h1⟩⟩ := h.row
 ·omega
 ·have hr := h.row
  refine ⟨g, cap, e, ?_, fun e1 => h.box.not_row (by decide) hr (by rw [e, e1]; rfl)⟩
  rw [e] at hr
  exact hr
theorem Pl.alloc {w : World} {B P : Nat} {v : Value} {l : List Ev} (h : Pl w B P v l) (o : Obj) : Pl (w.alloc o) B P v l := ⟨h.box.alloc o, h.row.alloc o, h.low⟩
theorem Ev.cs_one (e : Ev) : ∀ u ∈ e.cs, u.oneCell' = true := by
 intro u h
 simp [Ev.cs] at h
 rcases h with rfl | rfl | rfl | rfl | rfl | rfl | rfl <;> rfl
theorem Ev.In.cells {w : World} {b : Nat} {e : Ev} (h : Ev.In w b 0 e) : ∀ j u, e.cs[j]? = some u → w.cell? ((⟨b, 0, none⟩ : Addr).add j) = some u := fun j u hu => by
 rw [addr_add]; exact h.get hu
theorem newE (w : World) (e : Ev) : Ev.In (w.alloc (.cells #[.int .i64 e.t, .int .i64 e.s, .int .i64 e.q, .int .i64 e.d, .int .i64 e.k, .int .i64 e.v, .int .i64 e.g] 53)) w.heap.size 0 e := EvAt.new _ _ _ _ _ _ _ _ _
theorem newED (w : World) (e : Ev) : Ev.In (w.alloc (.cells #[.int .i64 e.t, .int .i64 e.s, .int .i64 e.q, .int .i64 e.d, .int .i64 e.k, .int .i64 e.v, .int .i64 e.g] 53)).drew w.heap.size 0 e := ⟨(newE w e).f0, (newE w e).f1, (newE w e).f2, (newE w e).f3, (newE w e).f4, (newE w e).f5, (newE w e).f6⟩
theorem grow_drew {w w' : World} {row : Option Nat} (h : w.drew.grownBy w' row) : w.grownBy w' row := ⟨h.os, h.tape, h.output, h.size, h.block⟩
theorem assert_ev (t s q d k v g : Int) (w : World) : (Instr.typeAssert (.iface 53 (.agg #[.int .i64 t, .int .i64 s, .int .i64 q, .int .i64 d, .int .i64 k, .int .i64 v, .int .i64 g])) 20 53 true).run Tryz.prog w = .ok (.tuple #[.agg #[.int .i64 t, .int .i64 s, .int .i64 q, .int .i64 d, .int .i64 k, .int .i64 v, .int .i64 g], .bool true]) w := by kernel_rfl
set_option maxRecDepth 100000 in
set_option maxHeartbeats 4000000 in
theorem pop_any (B P g cap : Nat) (l : List Ev) (e : Ev) (w : World) (h : Pl w B P (slh g (l.length + 1) cap) (l ++ [e])) :
  Calls Tryz.prog 188 #[.pointer (some ⟨P, 0, none⟩)] w fun r w' => r = .returned (.iface 53 (.agg #[.int .i64 e.t, .int .i64 e.s, .int .i64 e.q, .int .i64 e.d, .int .i64 e.k, .int .i64 e.v, .int .i64 e.g])) ∧ Pl w' B P (slh g l.length cap) l ∧ Turns (fun b => b = P) w w' := by
 have HH : Hid (Pl w B P (slh g (l.length + 1) cap) (l ++ [e])) := h
 have hPw : P < w.heap.size := h.box.lt
 have hcP := h.box.cell
 have hfP := h.box.frozen
 have hR : Row w B g cap (l ++ [e]) := by have := h.row; unfold Row; rw [List.length_append] at this ⊢; exact this
 have HR : Hid (Row w B g cap (l ++ [e])) := hR
 have hgw : g < w.heap.size := hR.lt.2
 have hcap := hR.caps
 rw [List.length_append] at hcap
 simp only [List.length_singleton] at hcap
 obtain ⟨f0, f1, f2, f3, f4, f5, f6⟩ := hR.ev (i := l.length) (by simp)
 rw [evAt_last] at f0 f1 f2 f3 f4 f5 f6
 have hmx : cap ≤ maxLen := hcap.2
 unfold maxLen at hmx
 clear h hR
 go_enter Tryz.func188, Tryz.ntmps188
 go_wp2
 go_ret
 have hne : some P ≠ (slh g (l.length + 1) cap).ownBlock := HH.out.box.not_row (by decide) HH.out.row
 have hr2 : w.ownsRow B 53 7 (slh g l.length cap) l.length (cellsL l) := HR.out.pop
 exact ⟨rfl, ⟨(HH.out.box.set (slh g l.length cap)).alloc _, (hr2.kept (grownBy_setCell' w P _) (.inr (fun h => hne h.symm))).alloc _, HH.out.low⟩, ((Turns.refl (fun b => b = P) w).setCell (p := ⟨P, 0, none⟩) rfl _).alloc _⟩
end Go.Proofs.YtbljfphdghfkfaaGreatDoor

/- Lists that are read, nil or not; the copies of both sides, as rows of one's own. -/
namespace Go.Proofs.YtbljfphdghfkfaaGreatDoor
open Go.RowKit
def SrcE (w : World) (x : Value) (l : List Ev) : Prop := (x = .slice none 0 0 ∧ l = []) ∨ ∃ b off cap, x = .slice (some ⟨b, off, none⟩) l.length cap ∧ EvsAt w b off l
def OwnR (B : Nat) (w : World) (x : Value) (l : List Ev) : Prop := w.ownsRow B 53 7 x l.length (cellsL l)
theorem OwnR.below {B : Nat} {w w' : World} {x : Value} {l : List Ev} (h : OwnR B w x l) (hb : Below w.heap.size w w') : OwnR B w' x l := by
 obtain ⟨h0, ⟨e, h1⟩ | ⟨g, cap, cur, e, hg, hc, h1⟩⟩ := h
 ·exact ⟨h0, .inl ⟨e, h1⟩⟩
 ·exact ⟨h0, .inr ⟨g, cap, cur, e, hg, (hb.block g (Array.getElem?_eq_some_iff.1 hc).1).trans hc, h1⟩⟩
theorem OwnR.nil (B : Nat) (w : World) : OwnR B w (.slice none 0 0) [] := World.ownsRow_nil w B _ 7
set_option maxHeartbeats 1000000 in
theorem copy_row (x : Value) (l : List Ev) (w : World) (hl : l.length ≤ 1048577) (hI : SrcE w x l) :
  Calls Tryz.prog 94 #[x] w fun e w' => ∃ y, e = .returned y ∧ OwnR w.heap.size w' y l ∧ Below w.heap.size w w' := by
 obtain ⟨i0, hi, hz0, hz1, hz2⟩ := info_parts info25
 rcases hI with ⟨rfl, rfl⟩ | ⟨b, off, cap, rfl, hI⟩
 ·go_enter Tryz.func94, Tryz.ntmps94
  go_wp2_with (at_builtin; refine wpList_append_own_none rfl _ _ 25 rfl w.heap.size 53 i0 7 Tryz.underlying25 hi (.slice none 0 0) 0 [] rfl (World.ownsRow_nil w _ 53 7) rfl ?_)
  go_ret
  exact ⟨_, rfl, OwnR.nil _ _, Below.refl _ _⟩
 ·have HI : Hid (EvsAt w b off l) := hI
  clear hI
  go_enter Tryz.func94, Tryz.ntmps94
  go_wp2_with (at_builtin; refine wpList_append_own _ rfl _ _ 25 rfl w.heap.size 53 i0 _ 7 56 Tryz.underlying25 hi hz0 hz1 hz2 rfl (by decide) (.slice none 0 0) 0 [] rfl (World.ownsRow_nil w _ 53 7) ⟨b, off, none⟩ l.length cap (cellsL l) rfl (cellsL_length l) HI.out.cells (cellsL_one l) (by unfold maxLen; omega) (by omega) (Nat.le_refl _) ?_; intro v' w1 hown hgrow hnil)
  go_ret
  exact ⟨_, rfl, by unfold OwnR; simpa using hown, (Below.refl _ w).grown hgrow (Nat.le_refl _) (fun k e => by cases e)⟩
set_option maxHeartbeats 1000000 in
theorem pileOf_any (x : Value) (l : List Ev) (w : World) (hl : l.length ≤ 1048577) (hI : SrcE w x l) :
  Calls Tryz.prog 82 #[x] w fun e w' => ∃ P v, e = .returned (pv P) ∧ Pl w' w.heap.size P v l ∧ Below w.heap.size w w' := by
 have HI : Hid (SrcE w x l) := hI
 clear hI
 go_enter Tryz.func82, Tryz.ntmps82
 go_wp2_with fail
 refine (copy_row x l w hl HI.out).mono ?_
 rintro e w1 ⟨y, rfl, hy, hb⟩
 have HY : Hid (OwnR w.heap.size w1 y l) := hy
 obtain ⟨a, cap, rfl⟩ : ∃ a cap, y = .slice a l.length cap := by
  obtain ⟨_, ⟨e, h0⟩ | ⟨g, cap, cur, e, _⟩⟩ := hy
  ·exact ⟨none, 0, by rw [e, h0]⟩
  ·exact ⟨_, cap, e⟩
 clear hy
 go_wp2
 go_ret
 exact ⟨w1.heap.size, _, rfl, ⟨Boxed.new _ _ _, World.ownsRow.alloc HY.out _, hb.size⟩, hb.alloc hb.size _⟩
end Go.Proofs.YtbljfphdghfkfaaGreatDoor

/- The library's up, over a pile. -/
namespace Go.Proofs.YtbljfphdghfkfaaGreatDoor
open Go.RowKit
set_option maxRecDepth 100000 in
set_option maxHeartbeats 4000000 in
theorem up_any (B P g cap : Nat) (l : List Ev) (i : Nat) (w : World) (hl : l.length ≤ 1048577) (hP : w.cell? ⟨P, 0, none⟩ = some (.slice (some ⟨g, 0, none⟩) l.length cap)) (hPw : P < w.heap.size) (hPg : P ≠ g) (hR : Row w B g cap l) (hi : i < l.length) (hok : Kept (fun e => e.ok = true) l) :
  Calls Tryz.prog 104 #[pv P, .int .i64 (i : Int)] w fun e w' => (∃ v, e = .returned v) ∧ Row w' B g cap (upL l i) ∧ Turns (fun b => b = g) w w' := by
 have HR : Hid (Row w B g cap l) := hR
 have HP : Hid (w.cell? ⟨P, 0, none⟩ = some (.slice (some ⟨g, 0, none⟩) l.length cap)) := hP
 have HO : Hid (Kept (fun e => e.ok = true) l) := hok
 have hml := fun w => m_less P w
 have hms := fun w => m_swap P w
 clear hR hP hok
 go_enter Tryz.func104, Tryz.ntmps104
 go_wp2
 go_loopw [1] (fun j wr => ∃ (k : Nat) (m : List Ev), k < l.length ∧ j = .int .i64 k ∧ Hid (m.length = l.length) ∧ Hid (Row wr B g cap m) ∧ Hid (upL m k = upL l i) ∧ Hid (Kept (fun e => e.ok = true) m) ∧ Hid (Turns (fun b => b = g) w wr)) (fun j _ => (intOf j).toNat)
 case atStart => exact ⟨i, l, hi, rfl, rfl, HR.out, rfl, HO.out, Turns.refl _ _⟩
 case round =>
  clear HR HO
  obtain ⟨k, m, hk, rfl, HM, HR, HU, HO, HT⟩ := hrel
  have hkm : k < m.length := by have := HM.out; omega
  have HP2 : Hid (wr.cell? ⟨P, 0, none⟩ = some (.slice (some ⟨g, 0, none⟩) m.length cap)) := by
   unfold Hid; rw [HM.out]; exact (HT.out.cell hPw hPg).trans HP.out
  have hPr : P < wr.heap.size := Nat.lt_of_lt_of_le hPw HT.out.size
  by_cases hk0 : k = 0
  ·have HK : Hid (k = 0) := hk0
   have e1 : IntKind.i64.wrap (((k : Int) - 1).tdiv 2) = 0 := by subst hk0; rfl
   have e0 : ((k : Int) - 1).tdiv 2 = 0 := by subst hk0; rfl
   have e2 : ((0 : Int) == (k : Int)) = true := by subst hk0; rfl
   clear hk0
   go_wp2
   go_end0
   refine ⟨⟨_, rfl⟩, ?_, HT.out⟩
   rw [← HU.out, upL_stop (by have := HK.out; omega)]
   exact HR.out
  ·obtain ⟨p, hp⟩ : ∃ p, (k - 1) / 2 = p := ⟨_, rfl⟩
   have HPP : Hid ((k - 1) / 2 = p) := hp
   have hpk : p < k := by omega
   have hpm : p < m.length := by omega
   have hkp : (1 : Int) ≤ (k : Int) := by omega
   have ek1 : ((k : Int) - 1) / 2 = (p : Int) := by omega
   have ek2 : ((k : Int) - 1).tdiv 2 = (p : Int) := by rw [Int.tdiv_eq_ediv_of_nonneg (by omega)]; exact ek1
   have ek3 : ((p : Int) == (k : Int)) = false := beq_eq_false_iff_ne.2 (by omega)
   clear hp hk0
   obtain ⟨b, hb⟩ : ∃ b, decide ((evAt m k).cmp (evAt m p) < 0) = b := ⟨_, rfl⟩
   have HL : Hid (Calls Tryz.prog 187 #[.pointer (some ⟨P, 0, none⟩), .int .i64 (k : Int), .int .i64 (p : Int)] wr fun e w' => e = .returned (.bool b) ∧ Below wr.heap.size wr w') := less_any B P g cap m k p wr HP2.out hPr HR.out hkm hpm (HO.out k hkm) (HO.out p hpm) b hb
   have HZ : Hid (decide ((evAt m k).cmp (evAt m p) < 0) = b) := hb
   clear hb
   go_wp2_with fail
   refine HL.out.mono ?_
   rintro e w2 ⟨rfl, hb2⟩
   have HR2 : Hid (Row w2 B g cap m) := HR.out.below hb2 HR.out.lt.2
   have HT2 : Hid (Turns (fun b => b = g) w w2) := HT.out.trans (Turns.of_below hb2)
   have HP3 : Hid (w2.cell? ⟨P, 0, none⟩ = some (.slice (some ⟨g, 0, none⟩) m.length cap)) := (hb2.cell (p := ⟨P, 0, none⟩) hPr).trans HP2.out
   clear hb2 HL
   cases b
   ·go_wp2
    go_end0
    refine ⟨⟨_, rfl⟩, ?_, HT2.out⟩
    rw [← HU.out, upL_stop (by rw [HPP.out]; have := of_decide_eq_false HZ.out; omega)]
    exact HR2.out
   ·have HSW : Hid (Calls Tryz.prog 190 #[.pointer (some ⟨P, 0, none⟩), .int .i64 (p : Int), .int .i64 (k : Int)] w2 fun e w' => (∃ v, e = .returned v) ∧ Row w' B g cap (swp m k p) ∧ Turns (fun b => b = g) w2 w') := by
     have := swap_any B P g cap m p k w2 HP3.out hPg HR2.out hpm hkm
     rwa [swp_comm] at this
    go_wp2_with fail
    refine HSW.out.mono ?_
    rintro e w3 ⟨⟨v, rfl⟩, hr3, ht3⟩
    have HR3 : Hid (Row w3 B g cap (swp m k p)) := hr3
    have HT3 : Hid (Turns (fun b => b = g) w w3) := HT2.out.trans ht3
    clear hr3 ht3 HR2 HT2 HT HR HSW HP2 HP3
    go_wp2
    go_roundw
    case rel => exact ⟨p, swp m k p, by omega, by go_num, by have := HM.out; unfold Hid; rw [swp_length]; exact this, HR3.out, (upL_step HPP.out hpk (of_decide_eq_true HZ.out)).trans HU.out, (kept_swp hkm hpm).2 HO.out, HT3.out⟩
    case measure => simp [intOf]; omega
end Go.Proofs.YtbljfphdghfkfaaGreatDoor

