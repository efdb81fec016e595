/- LibI, LibPop, PopF, PushU, CHi -/
import Derived.Test.YtbljfphdghfkfaaGreatDoorModelsCardG23
import Derived.Test.YtbljfphdghfkfaaGreatDoorModelsCardLDownI
import Derived.ArgAppend
import Derived.Test.YtbljfphdghfkfaaGreatDoorModelsCardG17
import Derived.Test.YtbljfphdghfkfaaGreatDoorModelsCardG16
/- The pile's form. -/
namespace Go.Proofs.YtbljfphdghfkfaaGreatDoor
open Go.RowKit
theorem Pl.form {w : World} {B P : Nat} {v : Value} {l : List Ev} (h : Pl w B P v l) {n : Nat} (hl : l.length = n + 1) : ∃ g cap, v = .slice (some ⟨g, 0, none⟩) (n + 1) cap ∧ Row w B g cap l ∧ P ≠ g := by
 obtain ⟨g, cap, e, hr, hg⟩ := h.rowed (by omega)
 exact ⟨g, cap, by rw [e, hl], hr, hg⟩
theorem Pl.at {w : World} {B P g cap n : Nat} {l : List Ev} (hb : Boxed w P 163 (.slice (some ⟨g, 0, none⟩) n cap)) (hr : Row w B g cap l) (hl : l.length = n) (hB : B ≤ P) : Pl w B P (.slice (some ⟨g, 0, none⟩) n cap) l := by
 subst hl; exact ⟨hb, hr, hB⟩
end Go.Proofs.YtbljfphdghfkfaaGreatDoor

/- The library's Pop over a pile. -/
namespace Go.Proofs.YtbljfphdghfkfaaGreatDoor
open Go.RowKit
set_option maxRecDepth 100000 in
set_option maxHeartbeats 4000000 in
theorem libPop_any (B P g cap : Nat) (l : List Ev) (n : Nat) (w : World) (hn : l.length = n + 1) (h : Pl w B P (.slice (some ⟨g, 0, none⟩) (n + 1) cap) l) (hl : l.length ≤ 1048576) (hok : Kept (fun e => e.ok = true) l) :
  Calls Tryz.prog 85 #[pv P] w fun r w' => r = .returned (.iface 53 (evAt l 0).val) ∧ Pl w' B P (.slice (some ⟨g, 0, none⟩) n cap) (takeL l 0) ∧ Turns (fun b => b = P ∨ b = g) w w' := by
 have HN : Hid (l.length = n + 1) := hn
 have HBX : Hid (Boxed w P 163 (.slice (some ⟨g, 0, none⟩) (n + 1) cap)) := h.box
 obtain ⟨g', cap', hv, hR, hPg⟩ := h.form hn
 cases hv
 have hPw : P < w.heap.size := h.box.lt
 have HLO : Hid (B ≤ P) := h.low
 have HLN : Hid (Calls Tryz.prog 186 #[.pointer (some ⟨P, 0, none⟩)] w fun e w' => e = .returned (.int .i64 ((n : Int) + 1)) ∧ w' = w) := by
  have := len_any _ P (n + 1) cap w h.box.cell
  unfold Hid; simpa using this
 have HSW : Hid (Calls Tryz.prog 190 #[.pointer (some ⟨P, 0, none⟩), .int .i64 0, .int .i64 (n : Int)] w fun e w' => (∃ v, e = .returned v) ∧ Row w' B g cap (swp l 0 n) ∧ Turns (fun b => b = g) w w') :=
  swap_any B P g cap l 0 n w (by rw [hn]; exact h.box.cell) hPg hR (by omega) (by omega)
 have HO2 : Hid (Kept (fun e => e.ok = true) (swp l 0 n)) := (kept_swp (by omega) (by omega)).2 hok
 have hsl : (swp l 0 n).length = n + 1 := by rw [swp_length]; exact hn
 have HSL : Hid ((swp l 0 n).length = n + 1) := hsl
 have HPO : Hid ((downL (swp l 0 n) n 0).take n = takeL l 0 ∧ evAt (downL (swp l 0 n) n 0) n = evAt l 0) := by
  have := pop_same l (by omega)
  rw [hn, Nat.add_sub_cancel] at this
  exact this
 have hml := fun w => m_len P w
 have hms := fun w => m_swap P w
 have hmp := fun w => m_pop P w
 have hn1 : n ≤ 1048575 := by omega
 clear h hok hR hn hsl
 go_enter Tryz.func85, Tryz.ntmps85
 go_wp2_with fail
 refine HLN.out.mono ?_
 rintro r w' ⟨rfl, hw⟩
 have hw' := hw.symm
 clear hw
 subst hw'
 go_wp2_with fail
 refine HSW.out.mono ?_
 rintro r w1 ⟨⟨u1, rfl⟩, hr1, ht1⟩
 have HBX1 : Hid (Boxed w1 P 163 (.slice (some ⟨g, 0, none⟩) (n + 1) cap)) := (ht1.block P hPw hPg).trans HBX.out
 have HT1 : Hid (Turns (fun b => b = g) w w1) := ht1
 obtain ⟨bb, hbb⟩ : ∃ bb, decide (pickL (swp l 0 n) n 0 ≠ 0) = bb := ⟨_, rfl⟩
 have HD : Hid (Calls Tryz.prog 97 #[pv P, .int .i64 0, .int .i64 (n : Int)] w1 fun e w' => e = .returned (.bool bb) ∧ Row w' B g cap (downL (swp l 0 n) n 0) ∧ Turns (fun b => b = g) w1 w') :=
  down_any B P g cap (swp l 0 n) 0 n w1 (by have := HSL.out; omega) (by rw [HSL.out]; exact HBX1.out.cell) HBX1.out.lt hPg hr1 (by have := HSL.out; omega) (by have := HSL.out; omega) HO2.out bb hbb
 clear hr1 ht1 hbb HSW HLN
 go_wp2_with fail
 refine HD.out.mono ?_
 rintro r w2 ⟨rfl, hr2, ht2⟩
 have HT2 : Hid (Turns (fun b => b = g) w w2) := HT1.out.trans ht2
 have HBX2 : Hid (Boxed w2 P 163 (.slice (some ⟨g, 0, none⟩) (n + 1) cap)) := (ht2.block P HBX1.out.lt hPg).trans HBX1.out
 have hdl : (downL (swp l 0 n) n 0).length = n + 1 := by rw [downL_length]; exact HSL.out
 have hdd : downL (swp l 0 n) n 0 = takeL l 0 ++ [evAt l 0] := by
  refine ext_ev (by rw [hdl, List.length_append, takeL_length, HN.out]; simp) (fun j hj => ?_)
  rw [hdl] at hj
  have htl : (takeL l 0).length = n := by rw [takeL_length, HN.out]; rfl
  by_cases hjn : j = n
  ·subst hjn
   rw [HPO.out.2]
   have := evAt_last (takeL l 0) (evAt l 0)
   rw [htl] at this
   exact this.symm
  ·rw [evAt_left _ _ _ (by omega), ← HPO.out.1, evAt_take _ _ _ (by omega)]
 have HPP : Hid (Calls Tryz.prog 188 #[.pointer (some ⟨P, 0, none⟩)] w2 fun r w' => r = .returned (.iface 53 (.agg #[.int .i64 (evAt l 0).t, .int .i64 (evAt l 0).s, .int .i64 (evAt l 0).q, .int .i64 (evAt l 0).d, .int .i64 (evAt l 0).k, .int .i64 (evAt l 0).v, .int .i64 (evAt l 0).g])) ∧ Pl w' B P (.slice (some ⟨g, 0, none⟩) n cap) (takeL l 0) ∧ Turns (fun b => b = P) w2 w') := by
  have htl : (takeL l 0).length = n := by rw [takeL_length, HN.out]; rfl
  rw [hdd] at hr2
  have h9 := pop_any B P g cap (takeL l 0) (evAt l 0) w2 (by rw [htl]; exact Pl.at HBX2.out hr2 (by simp [htl]) HLO.out)
  rw [htl] at h9
  exact h9
 clear hr2 ht2 HD hdl hdd
 go_wp2_with fail
 refine HPP.out.mono ?_
 rintro r w3 ⟨rfl, hp3, ht3⟩
 have HP3 : Hid (Pl w3 B P (.slice (some ⟨g, 0, none⟩) n cap) (takeL l 0)) := hp3
 have HT3 : Hid (Turns (fun b => b = P ∨ b = g) w w3) := (HT2.out.mono (fun _ h => .inr h)).trans (ht3.mono (fun _ h => .inl h))
 clear hp3 ht3 HPP
 go_wp2
 go_ret
 exact ⟨rfl, HP3.out, HT3.out⟩
end Go.Proofs.YtbljfphdghfkfaaGreatDoor

/- The program's popFirst. -/
namespace Go.Proofs.YtbljfphdghfkfaaGreatDoor
open Go.RowKit
theorem Turns.later {S : Nat → Prop} {w w1 w2 : World} (h : Turns S w w1) (k : Turns (fun b => w.heap.size ≤ b) w1 w2) : Turns S w w2 :=
 ⟨k.os.trans h.os, k.tape.trans h.tape, k.output.trans h.output, Nat.le_trans h.size k.size, fun i hi hS => (k.block i (Nat.lt_of_lt_of_le hi h.size) (by omega)).trans (h.block i hi hS)⟩
theorem Pl.turns {S : Nat → Prop} {w w' : World} {B P : Nat} {v : Value} {l : List Ev} (h : Pl w B P v l) (ht : Turns S w w') (hP : ¬ S P) (hg : ∀ g, v.ownBlock = Option.some g → ¬ S g) : Pl w' B P v l := by
 refine ⟨(ht.block P h.box.lt hP).trans h.box, ?_, h.low⟩
 obtain ⟨h0, ⟨e, h1⟩ | ⟨g, cap, cur, rfl, hgB, hc, h1⟩⟩ := h.row
 ·exact ⟨h0, .inl ⟨e, h1⟩⟩
 ·exact ⟨h0, .inr ⟨g, cap, cur, rfl, hgB, (ht.block g (Array.getElem?_eq_some_iff.1 hc).1 (hg g rfl)).trans hc, h1⟩⟩
set_option maxRecDepth 100000 in
set_option maxHeartbeats 4000000 in
theorem popFirst_any (B P g cap : Nat) (l : List Ev) (n : Nat) (w : World) (hn : l.length = n + 1) (h : Pl w B P (.slice (some ⟨g, 0, none⟩) (n + 1) cap) l) (hl : l.length ≤ 1048576) (hok : Kept (fun e => e.ok = true) l) :
  Calls Tryz.prog 54 #[pv P] w fun r w' => r = .returned (evAt l 0).val ∧ Pl w' B P (.slice (some ⟨g, 0, none⟩) n cap) (takeL l 0) ∧ Turns (fun b => b = P ∨ b = g) w w' := by
 have HC : Hid (Calls Tryz.prog 85 #[pv P] (w.alloc (.cells #[.int .i64 0, .int .i64 0, .int .i64 0, .int .i64 0, .int .i64 0, .int .i64 0, .int .i64 0] 53)) fun r w' => r = .returned (.iface 53 (.agg #[.int .i64 (evAt l 0).t, .int .i64 (evAt l 0).s, .int .i64 (evAt l 0).q, .int .i64 (evAt l 0).d, .int .i64 (evAt l 0).k, .int .i64 (evAt l 0).v, .int .i64 (evAt l 0).g])) ∧ Pl w' B P (.slice (some ⟨g, 0, none⟩) n cap) (takeL l 0) ∧ Turns (fun b => b = P ∨ b = g) (w.alloc (.cells #[.int .i64 0, .int .i64 0, .int .i64 0, .int .i64 0, .int .i64 0, .int .i64 0, .int .i64 0] 53)) w') := libPop_any B P g cap l n _ hn (h.alloc _) hl hok
 have hPw : P < w.heap.size := h.box.lt
 obtain ⟨g', cap', hv, hR, hPg⟩ := h.form hn
 cases hv
 have hgw : g < w.heap.size := hR.lt.2
 have HLO : Hid (B ≤ P ∧ B ≤ g) := ⟨h.low, hR.lt.1⟩
 clear hR
 have hta := assert_ev (evAt l 0).t (evAt l 0).s (evAt l 0).q (evAt l 0).d (evAt l 0).k (evAt l 0).v (evAt l 0).g
 clear h hok
 go_enter Tryz.func54, Tryz.ntmps54
 go_wp2_with fail
 refine HC.out.mono ?_
 rintro r w1 ⟨rfl, hp, ht⟩
 have HP : Hid (Pl w1 B P (.slice (some ⟨g, 0, none⟩) n cap) (takeL l 0)) := hp
 have hzw : w.heap.size < w1.heap.size := by have := ht.size; simp at this; omega
 have hSn : ¬ (w.heap.size = P ∨ w.heap.size = g) := by omega
 have hcl : ∀ o, w1.cell? ⟨w.heap.size, o, none⟩ = (w.alloc (.cells #[.int .i64 0, .int .i64 0, .int .i64 0, .int .i64 0, .int .i64 0, .int .i64 0, .int .i64 0] 53)).cell? ⟨w.heap.size, o, none⟩ := fun o => ht.cell (by simp) hSn
 have hfz : ∀ o, w1.frozen? ⟨w.heap.size, o, none⟩ = false := fun o => (ht.frozen (by simp) hSn).trans (by simp)
 obtain ⟨z0, z1, z2, z3, z4, z5, z6⟩ := (EvAt.new w 53 0 0 0 0 0 0 0).lits
 rw [← hcl] at z0 z1 z2 z3 z4 z5 z6
 have HT : Hid (Turns (fun b => b = P ∨ b = g) w w1) := ((Turns.refl _ w).alloc _).trans ht
 clear hp ht hcl hSn
 go_wp2
 have HX : Turns (fun b => w.heap.size ≤ b) w1 ((put7 w1 w.heap.size 0 (evAt l 0)).alloc (.cells #[.int .i64 (evAt l 0).t, .int .i64 (evAt l 0).s, .int .i64 (evAt l 0).q, .int .i64 (evAt l 0).d, .int .i64 (evAt l 0).k, .int .i64 (evAt l 0).v, .int .i64 (evAt l 0).g] 53)) := ((Turns.refl (fun b => w.heap.size ≤ b) w1).put (g := w.heap.size) (Nat.le_refl _) 0 (evAt l 0)).alloc _
 refine bodyPost_ret (v := (evAt l 0).val) (by simp [hzw, results, Tryz.results54, go_sem, z0, z1, z2, z3, z4, z5, z6]) rfl ⟨rfl, ?_, ?_⟩
 ·exact HP.out.turns HX (by omega) (fun g' e => by cases e; simpa using hgw)
 ·exact HT.out.later HX
end Go.Proofs.YtbljfphdghfkfaaGreatDoor

/- The pile's Push and the library's: the pile and its row alone may turn; the row stays in its block, or lies in a new one. -/
namespace Go.Proofs.YtbljfphdghfkfaaGreatDoor
open Go.RowKit
theorem Turns.grown {S : Nat → Prop} {a w w' : World} {row : Option Nat} (h : Turns S a w) (hg : w.grownBy w' row) (hr : ∀ k, row = some k → S k) : Turns S a w' :=
 h.trans ⟨hg.os, hg.tape, hg.output, hg.size, fun k hk hn => hg.block k hk (fun e => hn (hr k e.symm))⟩
def NewRow (w : World) (v v' : Value) : Prop := v'.ownBlock = v.ownBlock ∨ ∀ k, v'.ownBlock = some k → w.heap.size ≤ k
theorem run_append_own2 {P : Program} (w : World) (base : Nat) (t ty e : TypeId) (i : TypeInfo) (z : Value) (size bytes : Nat) (ht : P.underlying t = some (.slice e)) (hi : P.info? e = some i) (hz : i.zero = some z) (hsize : i.size = size) (hby : i.bytes = bytes) (hzs : z.cells.size = size) (hsz : 0 < size)
  (v : Value) (n : Nat) (xs : List Value) (hown : w.ownsRow base e size v n xs) (ad : Addr) (m c : Nat) (news : List Value) (hl : news.length = m * size) (hnews : ∀ j u, news[j]? = some u → w.cell? (ad.add j) = some u) (h1 : ∀ u ∈ news, u.oneCell' = true)
  (h63 : n + m ≤ maxLen) (hbytes : (n + m) * bytes ≤ 140737488355328) (hbase : base ≤ w.heap.size) :
  ∃ v' w', (Builtin.append_ #[t, t] ty #[v, .slice (some ad) m c]).run P w = .ok v' w' ∧ w'.ownsRow base e size v' (n + m) (xs ++ news) ∧ w.grownBy w' v.ownBlock ∧ NewRow w v v' := by
 obtain ⟨v', w', hr, h2, h3, _⟩ := run_append_own (P := P) w base t ty e i z size bytes ht hi hz hsize hby hzs hsz v n xs hown ad m c news hl hnews h1 h63 hbytes hbase
 refine ⟨v', w', hr, h2, h3, ?_⟩
 have hown' := hown
 obtain ⟨_, ⟨rfl, h0⟩ | ⟨g, cap, cur, rfl, hg, hc, hnc, hcm, hcs, htk⟩⟩ := hown
 ·right
  obtain ⟨v2, w2, hr2, r1, _⟩ := run_append_own (P := P) w w.heap.size t ty e i z size bytes ht hi hz hsize hby hzs hsz (.slice none 0 0) n xs ⟨hown'.1, .inl ⟨rfl, h0⟩⟩ ad m c news hl hnews h1 h63 hbytes (Nat.le_refl _)
  rw [hr] at hr2
  cases hr2
  exact fun k e => (World.ownsRow.lt r1 k e).1
 ·by_cases hroom : n + m ≤ cap
  ·left
   obtain ⟨w2, hr2, _⟩ := run_append_fits (P := P) w base t ty e i size ht hi hsize g n cap xs hown' ad m c news hl hnews h1 hroom
   rw [hr] at hr2
   cases hr2
   rfl
  ·right
   obtain ⟨v2, w2, hr2, r1, _⟩ := run_append_arg_grows (P := P) w t ty e i z size bytes ht hi hz hsize hby hzs hsz ⟨g, 0, none⟩ n cap xs hown'.1 (World.ownsRow.cells hown' rfl) ad m c news hl hnews (by omega) h63 hbytes
   rw [hr] at hr2
   cases hr2
   exact fun k e => (World.ownsRow.lt r1 k e).1
theorem step_append_own2 {P : Program} {ops : Array Oper} {o : Oper} {a : Act} {w : World} {K : Act → World → Prop} {Q : Exit → Act → World → Prop} {E : Prop}
  (hg : o.guard = none) (s x : Operand) (t : TypeId) (hop : o.op = Op.call { callee := Callee.builtin Builtin.append, args := #[s, x], argTypes := #[t, t] })
  (base : Nat) (e : TypeId) (i : TypeInfo) (z : Value) (size bytes : Nat) (h1 : P.underlying t = some (.slice e)) (h2 : P.info? e = some i) (h3 : i.zero = some z) (h4 : i.size = size) (h5 : i.bytes = bytes) (h6 : z.cells.size = size) (h7 : 0 < size)
  (v : Value) (n : Nat) (xs : List Value) (hs : a.eval s = v) (hown : w.ownsRow base e size v n xs)
  (ad : Addr) (m c : Nat) (news : List Value) (hx : a.eval x = .slice (some ad) m c) (hn : news.length = m * size) (hc : ∀ j u, news[j]? = some u → w.cell? (ad.add j) = some u) (h1c : ∀ u ∈ news, u.oneCell' = true)
  (b1 : n + m ≤ maxLen) (b2 : (n + m) * bytes ≤ 140737488355328) (hbase : base ≤ w.heap.size)
  (hK : ∀ v' w', w'.ownsRow base e size v' (n + m) (xs ++ news) → w.grownBy w' v.ownBlock → NewRow w v v' → K (a.put o.dst v') w') :
  if Region.wanted o (yielded ops a.tmps) = true then Oper.wp P o a w K Q else E := by
 have hw : Region.wanted o (yielded ops a.tmps) = true := by simp [Region.wanted, hg]
 rw [if_pos hw]
 obtain ⟨v', w', hr, q1, q2, q3⟩ := run_append_own2 (P := P) w base t o.type e i z size bytes h1 h2 h3 h4 h5 h6 h7 v n xs hown ad m c news hn hc h1c b1 b2 hbase
 unfold Oper.wp execOp
 simp only [hop, resolve, invoke, builtin, Sem.run_bind, Sem.run_pure, Result.andThen_ok, List.map_toArray, List.map_cons, List.map_nil, hs, hx, hr]
 exact hK v' w' q1 q2 q3
theorem newRow_mono {w w' : World} {v v' : Value} (h : NewRow w' v v') (hs : w.heap.size ≤ w'.heap.size) : NewRow w v v' := h.imp id (fun h k e => Nat.le_trans hs (h k e))
set_option maxRecDepth 100000 in
set_option maxHeartbeats 4000000 in
theorem push_one (B P : Nat) (v : Value) (l : List Ev) (e : Ev) (w : World) (hB : B ≤ w.heap.size) (h : Pl w B P v l) (hl : l.length ≤ 1048577) :
  Calls Tryz.prog 189 #[.pointer (some ⟨P, 0, none⟩), .iface 53 (.agg #[.int .i64 e.t, .int .i64 e.s, .int .i64 e.q, .int .i64 e.d, .int .i64 e.k, .int .i64 e.v, .int .i64 e.g])] w fun r w' => (∃ u, r = .returned u) ∧ (∃ g cap, Pl w' B P (slh g (l ++ [e]).length cap) (l ++ [e]) ∧ NewRow w v (slh g (l ++ [e]).length cap)) ∧ Turns (fun k => k = P ∨ v.ownBlock = some k) w w' := by
 obtain ⟨a, cap, hva, hm⟩ := h.slice
 subst hva
 obtain ⟨i0, hi, hz0, hz1, hz2⟩ := info_parts info25
 have HH : Hid (Pl w B P (.slice a l.length cap) l) := h
 have hPw : P < w.heap.size := h.box.lt
 have hPn : P ≠ w.heap.size := by omega
 have hcP := h.box.cell
 have hfP := h.box.frozen
 clear h
 have hta := assert_ev e.t e.s e.q e.d e.k e.v e.g
 go_enter Tryz.func189, Tryz.ntmps189
 go_wp2
 have HB1 : Hid (Boxed (w.alloc (.cells #[.int .i64 e.t, .int .i64 e.s, .int .i64 e.q, .int .i64 e.d, .int .i64 e.k, .int .i64 e.v, .int .i64 e.g] 53)) P 163 (.slice a l.length cap)) := HH.out.box.alloc _
 have HR1 : Hid ((w.alloc (.cells #[.int .i64 e.t, .int .i64 e.s, .int .i64 e.q, .int .i64 e.d, .int .i64 e.k, .int .i64 e.v, .int .i64 e.g] 53)).ownsRow B 53 7 (.slice a l.length cap) l.length (cellsL l)) := HH.out.row.alloc _
 have HW1 : Hid (Turns (fun k => k = P ∨ (Value.slice a l.length cap).ownBlock = some k) w (w.alloc (.cells #[.int .i64 e.t, .int .i64 e.s, .int .i64 e.q, .int .i64 e.d, .int .i64 e.k, .int .i64 e.v, .int .i64 e.g] 53))) := (Turns.refl _ w).alloc _
 obtain ⟨x0, x1, x2, x3, x4, x5, x6⟩ := (newE w e).lits
 generalize hW : w.alloc (.cells #[.int .i64 e.t, .int .i64 e.s, .int .i64 e.q, .int .i64 e.d, .int .i64 e.k, .int .i64 e.v, .int .i64 e.g] 53) = W at *
 have hBW : B ≤ W.heap.size := by rw [← hW]; simp; omega
 have hPW : P < W.heap.size := HB1.out.lt
 have hPWn : P ≠ W.heap.size := by omega
 have hwW : w.heap.size < W.heap.size := by rw [← hW]; simp
 have hsz9 : w.heap.size ≤ (W.alloc (.cells #[.int .i64 e.t, .int .i64 e.s, .int .i64 e.q, .int .i64 e.d, .int .i64 e.k, .int .i64 e.v, .int .i64 e.g] 53)).drew.heap.size := by simp; omega
 have hcP1 := HB1.out.cell
 have hfP1 := HB1.out.frozen
 clear hW hcP hfP hta
 go_region_law (refine step_append_own2 rfl (.tmp 16) (.tmp 18) 25 rfl B 53 i0 _ 7 56 Tryz.underlying25 hi hz0 hz1 hz2 rfl (by decide) (.slice a l.length cap) l.length (cellsL l) rfl ((World.ownsRow.alloc HR1.out _).drew) ⟨W.heap.size, 0, none⟩ 1 1 e.cs rfl rfl (Ev.In.cells (newED W e)) (Ev.cs_one e) (by unfold maxLen at hm ⊢; omega) (by omega) (by simp; omega) ?_; intro v1 w1 hown1 hgrow1 hnew1; have HNW : Hid (NewRow w (.slice a l.length cap) v1) := newRow_mono hnew1 hsz9; obtain ⟨g1, cap1, rfl⟩ := ownsRow_succ hown1; obtain ⟨hA, hC, hD, _, hE⟩ := Boxed.appended (W := W) HB1.out (by decide) HR1.out hBW HH.out.low hown1 (grow_drew hgrow1); have hcP2 := hA.cell; have hfP2 := hA.frozen; have hE2 : Turns (fun k => k = P ∨ (Value.slice a l.length cap).ownBlock = some k) w w1 := ((HW1.out.alloc _).drew).grown hgrow1 (fun k e => .inr e))
 all_goals
  go_wp2
  go_end0
  refine ⟨⟨_, rfl⟩, ⟨g1, cap1, ?_⟩, hE2.setCell (p := ⟨P, 0, none⟩) (.inl rfl) _⟩
  have e1 : (l ++ [e]).length = l.length + 1 := by simp
  rw [e1]
  exact ⟨⟨hC, by rw [e1, cellsL_append]; simpa [cellsL] using hD, HH.out.low⟩, HNW.out⟩
theorem turns_new {w w1 w2 : World} {P g n cap : Nat} {v : Value} (h : Turns (fun k => k = P ∨ v.ownBlock = some k) w w1) (hn : NewRow w v (.slice (some ⟨g, 0, none⟩) n cap)) (k : Turns (fun b => b = g) w1 w2) : Turns (fun k => k = P ∨ v.ownBlock = some k) w w2 := by
 refine ⟨k.os.trans h.os, k.tape.trans h.tape, k.output.trans h.output, Nat.le_trans h.size k.size, fun i hi hS => (k.block i (Nat.lt_of_lt_of_le hi h.size) (fun e => ?_)).trans (h.block i hi hS)⟩
 subst e
 rcases hn with e | e
 ·exact hS (.inr e.symm)
 ·have := e i rfl; omega
set_option maxRecDepth 100000 in
set_option maxHeartbeats 4000000 in
theorem libPush_one (B P : Nat) (v : Value) (l : List Ev) (e : Ev) (w : World) (hB : B ≤ w.heap.size) (h : Pl w B P v l) (hl : l.length ≤ 1048576) (hok : Kept (fun e => e.ok = true) l) (he : e.ok = true) :
  Calls Tryz.prog 96 #[pv P, .iface 53 (.agg #[.int .i64 e.t, .int .i64 e.s, .int .i64 e.q, .int .i64 e.d, .int .i64 e.k, .int .i64 e.v, .int .i64 e.g])] w fun r w' => (∃ u, r = .returned u) ∧ (∃ v', Pl w' B P v' (pushL l e) ∧ NewRow w v v') ∧ Turns (fun k => k = P ∨ v.ownBlock = some k) w w' := by
 have HO : Hid (Kept (fun e => e.ok = true) (l ++ [e])) := kept_snoc.2 ⟨hok, he⟩
 have HH : Hid (Pl w B P v l) := h
 have hmp := fun w => m_push P w
 have hml := fun w => m_len P w
 clear h hok he
 go_enter Tryz.func96, Tryz.ntmps96
 go_wp2_with fail
 refine (push_one B P v l e w hB HH.out (by omega)).mono ?_
 rintro r w1 ⟨⟨u, rfl⟩, ⟨g, cap, hp, hnw⟩, hb⟩
 have hlen : (l ++ [e]).length = l.length + 1 := by simp
 obtain ⟨g', cap', hv, hR, hPg⟩ := hp.form hlen
 have HNW : Hid (NewRow w v (.slice (some ⟨g', 0, none⟩) (l.length + 1) cap')) := by rw [← hv]; exact hnw
 clear hnw
 have hbx : Boxed w1 P 163 (.slice (some ⟨g', 0, none⟩) (l.length + 1) cap') := by rw [← hv]; exact hp.box
 have HBX : Hid (Boxed w1 P 163 (.slice (some ⟨g', 0, none⟩) (l.length + 1) cap')) := hbx
 have HR : Hid (Row w1 B g' cap' (l ++ [e])) := hR
 have hPw : P < w1.heap.size := hbx.lt
 have HLO : Hid (B ≤ P) := hp.low
 have HB : Hid (Turns (fun k => k = P ∨ v.ownBlock = some k) w w1) := hb
 have HU : Hid (Calls Tryz.prog 104 #[pv P, .int .i64 (l.length : Int)] w1 fun e' w' => (∃ v, e' = .returned v) ∧ Row w' B g' cap' (pushL l e) ∧ Turns (fun b => b = g') w1 w') :=
  up_any B P g' cap' (l ++ [e]) l.length w1 (by rw [hlen]; omega) (by rw [hlen]; exact hbx.cell) hPw hPg hR (by rw [hlen]; omega) HO.out
 have HLN : Hid (Calls Tryz.prog 186 #[.pointer (some ⟨P, 0, none⟩)] w1 fun e w' => e = .returned (.int .i64 ((l.length : Int) + 1)) ∧ w' = w1) := by
  have := len_any _ P (l.length + 1) cap' w1 hbx.cell
  unfold Hid; simpa using this
 clear hv hbx hR hb hp
 go_wp2_with fail
 refine HLN.out.mono ?_
 rintro r w' ⟨rfl, hw⟩
 have hw' := hw.symm
 clear hw
 subst hw'
 go_wp2_with fail
 refine HU.out.mono ?_
 rintro r w2 ⟨⟨u2, rfl⟩, hr2, ht2⟩
 have HR2 : Hid (Row w2 B g' cap' (pushL l e)) := hr2
 have HT2 : Hid (Turns (fun b => b = g') w1 w2) := ht2
 clear hr2 ht2 HU HLN
 go_wp2
 go_end0
 exact ⟨⟨_, rfl⟩, ⟨_, Pl.at ((HT2.out.block P hPw hPg).trans HBX.out) HR2.out (pushL_length l e) HLO.out, HNW.out⟩, turns_new HB.out HNW.out HT2.out⟩
end Go.Proofs.YtbljfphdghfkfaaGreatDoor

/- Histories, and a course in memory. -/
namespace Go.Proofs.YtbljfphdghfkfaaGreatDoor
open Go.RowKit
def HiF (F : Nat → Prop) (w : World) (y : Value) (h : Hi) : Prop :=
 ∃ (A C : Nat → Prop) (ve vx : Value), y = .agg #[ve, vx, .int .i64 h.k, .bool h.f] ∧ RowF A w ve h.ev.length 7 (cellsL h.ev) ∧ RowF C w vx h.em.length 3 (cellsX h.em) ∧ (∀ k, A k → F k ∧ ¬ C k) ∧ ∀ k, C k → F k
theorem HiF.turns {F S : Nat → Prop} {w w' : World} {x : Value} {h : Hi} (hh : HiF F w x h) (ht : Turns S w w') (hS : ∀ k, F k → ¬ S k) : HiF F w' x h := by
 obtain ⟨A, C, ve, vx, rfl, h1, h2, h3, h4⟩ := hh
 exact ⟨A, C, ve, vx, rfl, h1.turns ht (fun k hk => hS k (h3 k hk).1), h2.turns ht (fun k hk => hS k (h4 k hk)), h3, h4⟩
theorem HiF.mono {F F' : Nat → Prop} {w : World} {x : Value} {h : Hi} (hh : HiF F w x h) (hF : ∀ k, F k → F' k) : HiF F' w x h := by
 obtain ⟨A, C, ve, vx, rfl, h1, h2, h3, h4⟩ := hh
 exact ⟨A, C, ve, vx, rfl, h1, h2, fun k hk => ⟨hF k (h3 k hk).1, (h3 k hk).2⟩, fun k hk => hF k (h4 k hk)⟩
theorem hi_of {w : World} {B : Nat} {ve vx : Value} {ev : List Ev} {em : List Em} {k : Int} {f : Bool} (h1 : OwnR B w ve ev) (h2 : w.ownsRow B 108 3 vx em.length (cellsX em)) :
  HiF (fun j => B ≤ j ∧ j < w.heap.size) w (.agg #[ve, vx, .int .i64 k, .bool f]) ⟨ev, em, k, f⟩ :=
 ⟨_, _, ve, vx, rfl, own_rowF (cellsL_length _) h1, own_rowF (cellsX_length _) h2, fun j e => ⟨World.ownsRow.lt h1 j e, fun e' => apart_blocks h1 h2 (by decide) e e'⟩, fun j e => World.ownsRow.lt h2 j e⟩
def AQ (B : Nat) (w : World) (st ve vx : Value) (k : Nat) : Prop := B ≤ k ∧ k < w.heap.size ∧ st.ownBlock ≠ some k ∧ ve.ownBlock ≠ some k ∧ vx.ownBlock ≠ some k
theorem owns_form {w : World} {B : Nat} {T : TypeId} {c n : Nat} {v : Value} {cs : List Value} (h : w.ownsRow B T c v n cs) : ∃ a cap, v = .slice a n cap := by
 obtain ⟨_, ⟨rfl, h0⟩ | ⟨g, cap, cur, rfl, _⟩⟩ := h
 ·exact ⟨none, 0, by rw [h0]⟩
 ·exact ⟨_, cap, rfl⟩
structure SCo (B H : Nat) (w : World) (td st : Value) (l : List Pt) (ve vx : Value) (c : Co) : Prop where
 to : OwnR B w td c.td
 ss : Sts (AQ B w st ve vx) w B st l
 sl : stsOf l = c.st
 hb : Bk w H 48 #[ve, vx, .int .i64 (-1), .bool false]
 es : OwnR B w ve c.ev
 xs : w.ownsRow B 108 3 vx c.em.length (cellsX c.em)
 ap : ∀ k, td.ownBlock = some k → ve.ownBlock ≠ some k
 lo : H < B
section
variable {B H : Nat} {w w' : World} {td st ve vx : Value} {l : List Pt} {c : Co}
theorem newRow_ne {v v' u : Value} {c n : Nat} {T : TypeId} {cs : List Value} (hn : NewRow w v v') (hu : ∀ k, u.ownBlock = some k → v.ownBlock ≠ some k) (ho : w.ownsRow B T c u n cs) : ∀ k, u.ownBlock = some k → v'.ownBlock ≠ some k := fun k e e' => by
 rcases hn with h | h
 ·rw [h] at e'; exact hu k e e'
 ·have := h k e'; have := (World.ownsRow.lt ho k e).2; omega
abbrev put4h (w : World) (P : Nat) (v0 v1 v2 v3 : Value) : World := (((w.setCell ⟨P, 0, none⟩ v0).setCell ⟨P, 1, none⟩ v1).setCell ⟨P, 2, none⟩ v2).setCell ⟨P, 3, none⟩ v3
theorem put4h_turns (w : World) (P : Nat) (v0 v1 v2 v3 : Value) : Turns (fun b => b = P) w (put4h w P v0 v1 v2 v3) :=
 (((put1_turns w P 0 v0).trans (put1_turns _ P 1 v1)).trans (put1_turns _ P 2 v2)).trans (put1_turns _ P 3 v3)
theorem Bk.put4h {P : Nat} {T : TypeId} {a0 a1 a2 a3 : Value} (h : Bk w P T #[a0, a1, a2, a3]) (v0 v1 v2 v3 : Value) : Bk (put4h w P v0 v1 v2 v3) P T #[v0, v1, v2, v3] :=
 (((h.put 0 v0).put 1 v1).put 2 v2).put 3 v3
end
end Go.Proofs.YtbljfphdghfkfaaGreatDoor

