/- MRdR, MRdT, MTxR, MTxQ, MTxI -/
import Derived.Test.YtbljfphdghfkfaaGreatDoorModelsCardLMRdM
import Derived.Test.YtbljfphdghfkfaaGreatDoorModelsCardG17
import Derived.Defers
import Derived.Recover
import Derived.Test.YtbljfphdghfkfaaGreatDoorModelsCardG20
import Derived.Lib.Join
import Derived.Laws.IdiomStrings
import Derived.Test.YtbljfphdghfkfaaGreatDoorModelsCardG09
/- The program's ModelRead: what is deferred; the answer's rows. -/
namespace Go.Proofs.YtbljfphdghfkfaaGreatDoor
open Go.RowKit
theorem mdf_zero (F : Nat → Prop) (w : World) : MdF F w (.agg Z6) zeroM :=
 ⟨(fun _ => False), (fun _ => False), (fun _ => False), .slice none 0 0, .slice none 0 0, .slice none 0 0, rfl, ⟨rfl, none, 0, rfl, Nat.le_refl _, Nat.zero_le _, .inl rfl⟩, ⟨fun _ => .slice none 0 0, (fun _ => False), (fun _ _ => False), ⟨rfl, none, 0, rfl, Nat.le_refl _, Nat.zero_le _, .inl rfl⟩, fun _ e => e, fun i hi => absurd hi (Nat.not_lt_zero i), fun _ _ _ _ _ _ e => e.elim⟩, ⟨rfl, none, 0, rfl, Nat.le_refl _, Nat.zero_le _, .inl rfl⟩, fun _ e => e.elim, fun _ e => e.elim, fun _ e => e.elim⟩
set_option maxHeartbeats 4000000 in
theorem rcatch_panicking (P Q : Nat) (a0 a1 a2 a3 a4 a5 b : Value) (u : TypeId) (pv : Value) (older : List PanicEntry) (w : World) (hP : Bk w P 27 #[a0, a1, a2, a3, a4, a5]) (hQ : Bk w Q 4 #[b]) (hPQ : P ≠ Q) :
  CallsD Tryz.prog 39 #[.pointer (some ⟨P, 0, none⟩), .pointer (some ⟨Q, 0, none⟩)] (.panicking ({ v := .iface u pv, recovered := false } :: older)) w fun e u' w' =>
   e = .returned (.tuple #[]) ∧ u' = .panicking ({ v := .iface u pv, recovered := true } :: older) ∧ w' = (put6 w P (.int .i64 0) (.int .i64 0) (.slice none 0 0) (.slice none 0 0) (.slice none 0 0) (.int .i64 0)).setCell ⟨Q, 0, none⟩ (.bool false) := by
 have h0 : Bk (w.setCell ⟨P, 0, none⟩ (.int .i64 0)) P 27 #[.int .i64 0, a1, a2, a3, a4, a5] := hP.put 0 _
 have g1 := h0.cell (i := 1) rfl
 have x1 := h0.free 1
 have h1 : Bk ((w.setCell ⟨P, 0, none⟩ (.int .i64 0)).setCell ⟨P, 1, none⟩ (.int .i64 0)) P 27 #[.int .i64 0, .int .i64 0, a2, a3, a4, a5] := h0.put 1 _
 have g2 := h1.cell (i := 2) rfl
 have x2 := h1.free 2
 have h2 : Bk (((w.setCell ⟨P, 0, none⟩ (.int .i64 0)).setCell ⟨P, 1, none⟩ (.int .i64 0)).setCell ⟨P, 2, none⟩ (.slice none 0 0)) P 27 #[.int .i64 0, .int .i64 0, .slice none 0 0, a3, a4, a5] := h1.put 2 _
 have g3 := h2.cell (i := 3) rfl
 have x3 := h2.free 3
 have h3 : Bk ((((w.setCell ⟨P, 0, none⟩ (.int .i64 0)).setCell ⟨P, 1, none⟩ (.int .i64 0)).setCell ⟨P, 2, none⟩ (.slice none 0 0)).setCell ⟨P, 3, none⟩ (.slice none 0 0)) P 27 #[.int .i64 0, .int .i64 0, .slice none 0 0, .slice none 0 0, a4, a5] := h2.put 3 _
 have g4 := h3.cell (i := 4) rfl
 have x4 := h3.free 4
 have h4 : Bk (((((w.setCell ⟨P, 0, none⟩ (.int .i64 0)).setCell ⟨P, 1, none⟩ (.int .i64 0)).setCell ⟨P, 2, none⟩ (.slice none 0 0)).setCell ⟨P, 3, none⟩ (.slice none 0 0)).setCell ⟨P, 4, none⟩ (.slice none 0 0)) P 27 #[.int .i64 0, .int .i64 0, .slice none 0 0, .slice none 0 0, .slice none 0 0, a5] := h3.put 4 _
 have g5 := h4.cell (i := 5) rfl
 have x5 := h4.free 5
 have h5 : Bk ((((((w.setCell ⟨P, 0, none⟩ (.int .i64 0)).setCell ⟨P, 1, none⟩ (.int .i64 0)).setCell ⟨P, 2, none⟩ (.slice none 0 0)).setCell ⟨P, 3, none⟩ (.slice none 0 0)).setCell ⟨P, 4, none⟩ (.slice none 0 0)).setCell ⟨P, 5, none⟩ (.int .i64 0)) P 27 #[.int .i64 0, .int .i64 0, .slice none 0 0, .slice none 0 0, .slice none 0 0, .int .i64 0] := h4.put 5 _
 have hq : Bk ((((((w.setCell ⟨P, 0, none⟩ (.int .i64 0)).setCell ⟨P, 1, none⟩ (.int .i64 0)).setCell ⟨P, 2, none⟩ (.slice none 0 0)).setCell ⟨P, 3, none⟩ (.slice none 0 0)).setCell ⟨P, 4, none⟩ (.slice none 0 0)).setCell ⟨P, 5, none⟩ (.int .i64 0)) Q 4 #[b] := (((((hQ.other 0 _ hPQ.symm).other 1 _ hPQ.symm).other 2 _ hPQ.symm).other 3 _ hPQ.symm).other 4 _ hPQ.symm).other 5 _ hPQ.symm
 have g6 := hq.cell (i := 0) rfl
 have x6 := hq.free 0
 have g0 := hP.cell (i := 0) rfl
 have x0 := hP.free 0
 refine callsD_of_wpS Tryz.func39 rfl fun c₀ cs hu => ?_
 apply wpS_seq
 apply wpS_region
 simp [wpOpsS, go_sem, recoverD, hu, Tryz.ntmps39, Exit.thenS]
 refine wpS_cond (t := true) (by simp [Act.eval, Array.replicate]) ?_
 simp only [if_true]
 apply wpS_region
 simp [wpOpsS, go_sem, g1, x1, g2, x2, g3, x3, g4, x4, g5, x5, g6, x6, g0, x0, bodyPostS, results, Tryz.results39]
theorem rcatch_idle (P Q : Addr) (w : World) :
  CallsD Tryz.prog 39 #[.pointer (some P), .pointer (some Q)] .returning w fun e u' w' => e = .returned (.tuple #[]) ∧ u' = .returning ∧ w' = w := by
 refine callsD_of_wpS Tryz.func39 rfl fun c₀ cs hu => ?_
 apply wpS_seq
 apply wpS_region
 simp [wpOpsS, go_sem, recoverD, hu, Tryz.ntmps39, Exit.thenS]
 refine wpS_cond (t := false) (by simp [Act.eval, Array.replicate]) ?_
 simp only [Bool.false_eq_true, if_false]
 refine wpS_of_wp (wp_skip ?_)
 cases c₀
 simp_all [bodyPostS, results, Tryz.results39]
end Go.Proofs.YtbljfphdghfkfaaGreatDoor

/- The program's ModelRead. -/
namespace Go.Proofs.YtbljfphdghfkfaaGreatDoor
open Go.RowKit
set_option maxRecDepth 100000 in
set_option maxHeartbeats 8000000 in
theorem iReadM (x : Value) (l : List UInt8) (w : World) (hl : l.length ≤ 1048576) (hx : By.IsI w x l) :
  Calls Tryz.prog 10 #[x] w fun e w' => ∃ y, e = .returned (.tuple #[y, .bool (readOk l)]) ∧ Below w.heap.size w w' ∧ MdF (fun k => w.heap.size ≤ k ∧ k < w'.heap.size) w' y (readM l) := by
 have hmf : ∀ (fn : Fn) (first cap : Array Value) (w : World), (Instr.makeFunc fn first cap).run Tryz.prog w = .ok (.func fn first cap) w := fun _ _ _ _ => rfl
 obtain ⟨a, cap, rfl, h1, h2, h3⟩ := hx
 obtain ⟨R, hR⟩ : ∃ R, R = w.heap.size + 1 + 1 := ⟨_, rfl⟩
 obtain ⟨W0, hW0⟩ : ∃ W0, ((w.alloc (.cells Z6 27)).alloc (.cells #[.bool false] 4)).alloc (.cells #[.slice a l.length cap] 74) = W0 := ⟨_, rfl⟩
 have HB0 : Hid (Below w.heap.size w W0) := by rw [← hW0]; exact (((Below.refl _ w).alloc (Nat.le_refl _) _).alloc (by simp) _).alloc (by simp; omega) _
 have HP0 : Hid (Bk W0 w.heap.size 27 Z6) := by rw [← hW0]; exact ((Bk.new w _ _).alloc _).alloc _
 have HQ0 : Hid (Bk W0 (w.heap.size + 1) 4 #[.bool false]) := by rw [← hW0]; exact (Bk.newAt (by simp) _ _).alloc _
 have HR0 : Hid (Rd w.heap.size W0 R l 0) := by
  refine ⟨by omega, a, cap, ?_, Nat.zero_le _, h1, h2, ?_⟩
  ·rw [← hW0, hR]; exact Bk.newAt (by simp) _ _
  ·rcases h3 with rfl | ⟨b, off, rfl, hI⟩
   ·exact .inl rfl
   ·exact .inr ⟨b, off, rfl, hI.1, hI.below HB0.out hI.1⟩
 have HW0 : Hid (((w.alloc (.cells Z6 27)).alloc (.cells #[.bool false] 4)).alloc (.cells #[.slice a l.length cap] 74) = W0) := hW0
 have HRe : Hid (R = w.heap.size + 1 + 1) := hR
 have hRw : w.heap.size + 1 < R := by omega
 have hRs : R < W0.heap.size := HR0.out.lt
 clear h1 h2 h3 hW0 hR
 go_enter_defers Tryz.func10, Tryz.ntmps10
 go_wp2_with fail
 rw [HW0.out, ← HRe.out]
 refine (model_any w.heap.size R l _ hl HR0.out).mono ?_
 rintro e w1 ⟨ht, (⟨hok, vi, vh, vs, us, rfl, hM⟩ | ⟨hok, u, pv, rfl⟩)⟩
 ·have HM1 : Hid (MO w1 W0.heap.size (rdM l) vi vh vs us) := hM
  have HB1 : Hid (Below w.heap.size w w1) := HB0.out.trans (ht.to_below (fun k e => by omega) (by omega))
  have HP1 : Hid (Bk w1 w.heap.size 27 Z6) := HP0.out.turns ht (by omega)
  have HQ1 : Hid (Bk w1 (w.heap.size + 1) 4 #[.bool false]) := HQ0.out.turns ht (by omega)
  have HOT : Hid (readOk l = true) := hok
  obtain ⟨ai, ci, hvi⟩ := owns_slice HM1.out.i
  obtain ⟨ah, ch, hvh⟩ := owns_slice HM1.out.h
  obtain ⟨ae, ce, hve⟩ := owns_slice HM1.out.e
  subst hvi hvh hve
  have hs1 := ht.size
  have q0 := HP1.out.cell (i := 0) rfl
  have q1 := HP1.out.cell (i := 1) rfl
  have q2 := HP1.out.cell (i := 2) rfl
  have q3 := HP1.out.cell (i := 3) rfl
  have q4 := HP1.out.cell (i := 4) rfl
  have q5 := HP1.out.cell (i := 5) rfl
  have qf := HP1.out.free
  have c0 := HQ1.out.cell (i := 0) rfl
  have cf := HQ1.out.free 0
  clear hok hM ht
  go_wp2
  clear q0 q1 q2 q3 q4 q5 qf c0 cf
  obtain ⟨X5, hX5⟩ : ∃ X5, put6 w1 w.heap.size (.int .i64 (rdM l).n) (.int .i64 (rdM l).s) (.slice ai (rdM l).i.length ci) (.slice ah (rdM l).h.length ch) (.slice ae (rdM l).e.length ce) (.int .i64 (rdM l).z) = X5 := ⟨_, rfl⟩
  have hP := HP1.out.put6 (.int .i64 (rdM l).n) (.int .i64 (rdM l).s) (.slice ai (rdM l).i.length ci) (.slice ah (rdM l).h.length ch) (.slice ae (rdM l).e.length ce) (.int .i64 (rdM l).z)
  have ht := put6_turns w1 w.heap.size (.int .i64 (rdM l).n) (.int .i64 (rdM l).s) (.slice ai (rdM l).i.length ci) (.slice ah (rdM l).h.length ch) (.slice ae (rdM l).e.length ce) (.int .i64 (rdM l).z)
  have hQ : Bk X5 (w.heap.size + 1) 4 #[.bool false] := hX5 ▸ HQ1.out.turns ht (by omega)
  rw [hX5] at hP ht
  unfold put6 at hX5
  rw [hX5]
  obtain ⟨X6, hX6⟩ : ∃ X6, X5.setCell ⟨w.heap.size + 1, 0, none⟩ (.bool true) = X6 := ⟨_, rfl⟩
  have hP6 : Bk X6 w.heap.size 27 #[.int .i64 (rdM l).n, .int .i64 (rdM l).s, .slice ai (rdM l).i.length ci, .slice ah (rdM l).h.length ch, .slice ae (rdM l).e.length ce, .int .i64 (rdM l).z] := hX6 ▸ hP.other 0 _ (by omega)
  have hQ6 : Bk X6 (w.heap.size + 1) 4 #[.bool true] := hX6 ▸ hQ.put 0 _
  have ht6 : Turns (fun k => k = w.heap.size ∨ k = w.heap.size + 1) w1 X6 := (ht.mono (fun k e => .inl e)).trans ((hX6 ▸ put1_turns X5 (w.heap.size + 1) 0 (.bool true) : Turns (fun k => k = w.heap.size + 1) X5 X6).mono (fun k e => .inr e))
  rw [hX6]
  clear hX5 hX6
  have hM6 : MdF (fun k => W0.heap.size ≤ k ∧ k < w1.heap.size) X6 (.agg #[.int .i64 (rdM l).n, .int .i64 (rdM l).s, .slice ai (rdM l).i.length ci, .slice ah (rdM l).h.length ch, .slice ae (rdM l).e.length ce, .int .i64 (rdM l).z]) (rdM l) := HM1.out.mdf.turns ht6 (fun k e => by omega)
  have t0 := hP6.cell (i := 0) rfl
  have t1 := hP6.cell (i := 1) rfl
  have t2 := hP6.cell (i := 2) rfl
  have t3 := hP6.cell (i := 3) rfl
  have t4 := hP6.cell (i := 4) rfl
  have t5 := hP6.cell (i := 5) rfl
  have t6 := hQ6.cell (i := 0) rfl
  have hs6 := ht6.size
  have hB6 : Below w.heap.size w X6 := HB1.out.trans (ht6.to_below (fun k e => by omega) HB1.out.size)
  refine leaves_cons (f := 39) (args := #[.pointer (some ⟨w.heap.size, 0, none⟩), .pointer (some ⟨w.heap.size + 1, 0, none⟩)]) (by simp) (by simp [go_sem]) ?_
  refine (rcatch_idle ⟨w.heap.size, 0, none⟩ ⟨w.heap.size + 1, 0, none⟩ _).mono ?_
  rintro e u' w'' ⟨rfl, rfl, rfl⟩
  have hfin : ∃ y, Ending.returned (.tuple #[.agg #[.int .i64 (rdM l).n, .int .i64 (rdM l).s, .slice ai (rdM l).i.length ci, .slice ah (rdM l).h.length ch, .slice ae (rdM l).e.length ce, .int .i64 (rdM l).z], .bool true]) = .returned (.tuple #[y, .bool (readOk l)]) ∧ Below w.heap.size w w'' ∧ MdF (fun k => w.heap.size ≤ k ∧ k < w''.heap.size) w'' y (readM l) := by
   refine ⟨_, by rw [HOT.out], hB6, ?_⟩
   rw [show readM l = rdM l from by simp [readM, HOT.out]]
   exact hM6.mono (fun k e => by omega)
  refine ⟨.tuple #[.agg #[.int .i64 (rdM l).n, .int .i64 (rdM l).s, .slice ai (rdM l).i.length ci, .slice ah (rdM l).h.length ch, .slice ae (rdM l).e.length ce, .int .i64 (rdM l).z], .bool true], by simp [results, Tryz.results10, go_sem, t0, t1, t2, t3, t4, t5, t6], hfin⟩
 ·have HOF : Hid (readOk l = false) := hok
  have HP1 : Bk w1 w.heap.size 27 Z6 := HP0.out.turns ht (by omega)
  have HQ1 : Bk w1 (w.heap.size + 1) 4 #[.bool false] := HQ0.out.turns ht (by omega)
  have hB1 : Below w.heap.size w w1 := HB0.out.trans (ht.to_below (fun k e => by omega) (by omega))
  clear hok ht
  go_wp2
  refine leaves_cons (f := 39) (args := #[.pointer (some ⟨w.heap.size, 0, none⟩), .pointer (some ⟨w.heap.size + 1, 0, none⟩)]) (by simp) (by simp [go_sem]) ?_
  refine (rcatch_panicking w.heap.size (w.heap.size + 1) _ _ _ _ _ _ _ u pv [] _ HP1 HQ1 (by omega)).mono ?_
  rintro e u' w'' ⟨rfl, rfl, hw⟩
  have hP := HP1.put6 (.int .i64 0) (.int .i64 0) (.slice none 0 0) (.slice none 0 0) (.slice none 0 0) (.int .i64 0)
  have ht := put6_turns w1 w.heap.size (.int .i64 0) (.int .i64 0) (.slice none 0 0) (.slice none 0 0) (.slice none 0 0) (.int .i64 0)
  have hQ := HQ1.turns ht (by omega)
  have hP6 : Bk w'' w.heap.size 27 Z6 := hw ▸ hP.other 0 _ (by omega)
  have hQ6 : Bk w'' (w.heap.size + 1) 4 #[.bool false] := hw ▸ hQ.put 0 _
  have ht6 : Turns (fun k => k = w.heap.size ∨ k = w.heap.size + 1) w1 w'' := hw ▸ (ht.mono (fun k e => .inl e)).trans ((put1_turns _ (w.heap.size + 1) 0 (.bool false)).mono (fun k e => .inr e))
  have t0 := hP6.cell (i := 0) rfl
  have t1 := hP6.cell (i := 1) rfl
  have t2 := hP6.cell (i := 2) rfl
  have t3 := hP6.cell (i := 3) rfl
  have t4 := hP6.cell (i := 4) rfl
  have t5 := hP6.cell (i := 5) rfl
  have t6 := hQ6.cell (i := 0) rfl
  have hB6 : Below w.heap.size w w'' := hB1.trans (ht6.to_below (fun k e => by omega) hB1.size)
  clear hw
  have hfin : ∃ y, Ending.returned (.tuple #[.agg Z6, .bool false]) = .returned (.tuple #[y, .bool (readOk l)]) ∧ Below w.heap.size w w'' ∧ MdF (fun k => w.heap.size ≤ k ∧ k < w''.heap.size) w'' y (readM l) := by
   refine ⟨_, by rw [HOF.out], hB6, ?_⟩
   rw [show readM l = zeroM from by simp [readM, HOF.out]]
   exact mdf_zero _ _
  refine ⟨.tuple #[.agg Z6, .bool false], by simp [results, Tryz.results10, go_sem, t0, t1, t2, t3, t4, t5, t6], hfin⟩
end Go.Proofs.YtbljfphdghfkfaaGreatDoor

/- Rows of strings; texts that are joined. -/
namespace Go.Proofs.YtbljfphdghfkfaaGreatDoor
open Go.RowKit
theorem info9 : (Tryz.prog.info? 9).map (fun i => (i.zero, i.size, i.bytes)) = some (some (.string ⟨#[]⟩), 1, 16) := by kernel_rfl
def strs (l : List ByteArray) : List Value := l.map Value.string
def txts (l : List ByteArray) : List (List UInt8) := l.map (·.data.toList)
def SrS (B : Nat) (w : World) (x : Value) (l : List ByteArray) : Prop := w.ownsRow B 9 1 x l.length (strs l)
theorem SrS.below {B : Nat} {w w' : World} {x : Value} {l : List ByteArray} (h : SrS B w x l) (hb : Below w.heap.size w w') : SrS B w' x l := by
 obtain ⟨h0, h1 | ⟨x, cap, cur, e, hx, hc, h2⟩⟩ := h
 ·exact ⟨h0, .inl h1⟩
 ·exact ⟨h0, .inr ⟨x, cap, cur, e, hx, (hb.block _ (Array.getElem?_eq_some_iff.1 hc).1).trans hc, h2⟩⟩
theorem SrS.alloc {B : Nat} {w : World} {x : Value} {l : List ByteArray} (h : SrS B w x l) (o : Obj) : SrS B (w.alloc o) x l := World.ownsRow.alloc h o
theorem SrS.drew {B : Nat} {w : World} {x : Value} {l : List ByteArray} (h : SrS B w x l) : SrS B w.drew x l := World.ownsRow.drew h
theorem SrS.ge {B : Nat} {w : World} {x : Value} {l : List ByteArray} (h : SrS B w x l) {r : Nat} (e : x.ownBlock = some r) : B ≤ r := by
 obtain ⟨_, ⟨rfl, _⟩ | ⟨g, cap, cur, rfl, hg, _⟩⟩ := h
 ·cases e
 ·cases e; exact hg
theorem SrS.made (w : World) (l : List ByteArray) (arr : Array Value) (ha : arr.toList = strs l) (n : Nat) (hn : n = l.length) (hl : l.length ≤ 100000) : SrS w.heap.size (w.alloc (.cells arr 9)) (.slice (some ⟨w.heap.size, 0, none⟩) n n) l := by
 subst hn
 have hs : arr.size = l.length := by
  have := congrArg List.length ha
  simpa [strs] using this
 refine ⟨by simp [strs], .inr ⟨w.heap.size, l.length, arr, rfl, Nat.le_refl _, heap_alloc_new w _, Nat.le_refl _, by unfold maxLen; omega, by omega, ?_⟩⟩
 rw [ha]
 exact List.take_of_length_le (by simp [strs])
theorem SrS.cells {B : Nat} {w : World} {x : Value} {l : List ByteArray} (h : SrS B w x l) (hne : l ≠ []) : ∃ g cap, x = .slice (some ⟨g, 0, none⟩) l.length cap ∧ g < w.heap.size ∧ l.length ≤ cap ∧ ∀ (j : Nat) y, l[j]? = some y → w.cell? ⟨g, 0 + j, none⟩ = some (.string y) := by
 obtain ⟨h0, ⟨_, h1⟩ | ⟨g, cap, cur, rfl, _, hc, h2, _, h4, h5⟩⟩ := h
 ·exact absurd (List.length_eq_zero_iff.1 h1) hne
 ·refine ⟨g, cap, rfl, (Array.getElem?_eq_some_iff.1 hc).1, h2, fun j y hy => ?_⟩
  have hj : j < l.length := (List.getElem?_eq_some_iff.1 hy).1
  rw [Nat.zero_add]
  simp only [World.cell?, hc]
  have e1 : (cur.toList.take (l.length * 1))[j]? = some (.string y) := by
   rw [h5]
   simp [strs, hy]
  rw [List.getElem?_take] at e1
  have e2 : j < l.length ∧ cur[j]? = some (.string y) := by simpa using e1
  exact e2.2
def Srt (w : World) (X : Nat) (r : List ByteArray) : Prop := ∀ j u, (strs r)[j]? = some u → w.cell? ((⟨X, 0, none⟩ : Addr).add j) = some u
theorem Srt.new (w : World) (r : List ByteArray) (arr : Array Value) (ha : arr.toList = strs r) : Srt (w.alloc (.cells arr 9)) w.heap.size r := by
 intro j u hu
 have h0 := (MapKept.heap_alloc w (.cells arr 9)).1
 rw [Addr.add_lit, Nat.zero_add]
 simp only [World.cell?, h0]
 rw [← ha] at hu
 simpa using hu
def Kp9 (w w' : World) : Prop := ∀ ob t arr, t ≠ 9 → Bk w ob t arr → Bk w' ob t arr
theorem SrS.kp {B : Nat} {w w' : World} {x : Value} {l : List ByteArray} (h : SrS B w x l) (hg : w.grownBy w' x.ownBlock) : Kp9 w w' := by
 intro ob t arr hs hb
 have hb' : w.heap[ob]? = some (.cells arr t) := hb
 refine (hg.block ob hb.lt (fun e => ?_)).trans hb'
 obtain ⟨_, ⟨rfl, _⟩ | ⟨g, cap, cur, rfl, _, hc, h1, _, h3, _⟩⟩ := h
 ·simp [Value.ownBlock] at e
 ·simp [Value.ownBlock] at e
  subst e
  rw [hb'] at hc
  simp at hc
  first | exact hs hc.2 | exact hs hc.2.1
theorem strs_ones (l : List ByteArray) : ∀ u ∈ strs l, u.oneCell' = true := by
 intro u hu
 obtain ⟨b, _, rfl⟩ := List.mem_map.1 hu
 rfl
theorem sr_own {ops : Array Oper} {o : Oper} {a : Act} {w : World} {K : Act → World → Prop} {Q : Exit → Act → World → Prop} {E : Prop} {B : Nat} (hg : o.guard = none) (sl x : Operand) (hop : o.op = Op.call { callee := Callee.builtin Builtin.append, args := #[sl, x], argTypes := #[68, 68] })
  (v : Value) (l : List ByteArray) (hs : a.eval sl = v) (h : SrS B w v l) (r : List ByteArray) (X c : Nat) (hx : a.eval x = .slice (some ⟨X, 0, none⟩) r.length c) (hc : Srt w X r) (hl : l.length + r.length ≤ 100000) (hB : B ≤ w.heap.size)
  (hK : ∀ v' w', SrS B w' v' (l ++ r) → Below B w w' → Kp9 w w' → K (a.put o.dst v') w') : if Region.wanted o (yielded ops a.tmps) = true then Oper.wp Tryz.prog o a w K Q else E := by
 obtain ⟨i0, hi, hz0, hz1, hz2⟩ := info_parts info9
 refine step_append_ownT hg sl x 68 hop B 9 i0 (.string ⟨#[]⟩) 1 16 Tryz.underlying68 hi hz0 hz1 hz2 rfl (by decide) v l.length (strs l) hs h ⟨X, 0, none⟩ r.length c (strs r) hx (by simp [strs]) hc (strs_ones _) (by unfold maxLen; omega) (by omega) hB ?_
 intro v' w' hown hgrow
 exact hK v' w' (by unfold SrS; rw [List.length_append, strs, List.map_append]; exact hown) ((Below.refl B w).grown hgrow hB (fun k e => h.ge e)) (h.kp hgrow)
theorem srl_own {ops : Array Oper} {rest : List Oper} {o : Oper} {a : Act} {w : World} {Q : Exit → Act → World → Prop} {B : Nat} (hg : o.guard = none) (sl x : Operand) (hop : o.op = Op.call { callee := Callee.builtin Builtin.append, args := #[sl, x], argTypes := #[68, 68] })
  (v : Value) (l : List ByteArray) (hs : a.eval sl = v) (h : SrS B w v l) (r : List ByteArray) (X c : Nat) (hx : a.eval x = .slice (some ⟨X, 0, none⟩) r.length c) (hc : Srt w X r) (hl : l.length + r.length ≤ 100000) (hB : B ≤ w.heap.size)
  (hK : ∀ v' w', SrS B w' v' (l ++ r) → Below B w w' → Kp9 w w' → wpList Tryz.prog ops Q rest (a.put o.dst v') w') : wpList Tryz.prog ops Q (o :: rest) a w := by
 obtain ⟨i0, hi, hz0, hz1, hz2⟩ := info_parts info9
 refine wpList_append_own _ hg sl x 68 hop B 9 i0 (.string ⟨#[]⟩) 1 16 Tryz.underlying68 hi hz0 hz1 hz2 rfl (by decide) v l.length (strs l) hs h ⟨X, 0, none⟩ r.length c (strs r) hx (by simp [strs]) hc (strs_ones _) (by unfold maxLen; omega) (by omega) hB ?_
 intro v' w' hown hgrow _
 exact hK v' w' (by unfold SrS; rw [List.length_append, strs, List.map_append]; exact hown) ((Below.refl B w).grown hgrow hB (fun k e => h.ge e)) (h.kp hgrow)
theorem join_any {B : Nat} (w : World) (x : Value) (l : List ByteArray) (sep : ByteArray) (h : SrS B w x l) (hne : l ≠ []) (hl : l.length ≤ 100000) (Y : List UInt8) (hY : Lib.join (txts l) sep.data.toList = Y) (hb : Y.length ≤ 1000000000) :
  Calls Tryz.prog 38 #[x, .string sep] w fun e w' => ∃ b : ByteArray, e = .returned (.string b) ∧ b.data.toList = Y ∧ Below w.heap.size w w' := by
 obtain ⟨g, cap, rfl, hg, hc, hcells⟩ := h.cells hne
 subst hY
 refine (Tryz.strings_Join g 0 cap l sep w hcells hg (by omega) hc (by have h9 : (Lib.join (txts l) sep.data.toList).length ≤ 1000000000 := hb; have e9 : txts l = l.map (·.data.toList) := rfl; rw [e9] at h9; omega)).mono ?_
 rintro e w' ⟨rfl, hb'⟩
 exact ⟨_, rfl, rfl, hb'⟩
def endL (L : List (List UInt8)) : List UInt8 := (L.map (· ++ [10])).flatten
def spL (L : List (List UInt8)) : List UInt8 := Lib.joinTail [32] L
theorem endL_append (a b : List (List UInt8)) : endL (a ++ b) = endL a ++ endL b := by simp [endL]
theorem spL_append (a b : List (List UInt8)) : spL (a ++ b) = spL a ++ spL b := by simp [spL, Lib.joinTail]
theorem join_end : ∀ (L : List (List UInt8)), L ≠ [] → Lib.join L [10] ++ [10] = endL L
 | [], h => absurd rfl h
 | a :: l, _ => by
  rw [Lib.join_cons]
  have h9 : ∀ l : List (List UInt8), Lib.joinTail [10] l ++ [10] = [10] ++ endL l := by
   intro l
   induction l with
   | nil => rfl
   | cons b l ih =>
    have e1 : Lib.joinTail [10] (b :: l) = [10] ++ b ++ Lib.joinTail [10] l := by simp [Lib.joinTail]
    rw [e1, List.append_assoc, ih]
    simp [endL]
  rw [List.append_assoc, h9]
  simp [endL]
theorem txts_append (a b : List ByteArray) : txts (a ++ b) = txts a ++ txts b := by simp [txts]
theorem conv_own2 (w : World) (s : ByteArray) (l : List UInt8) (hs : s.data.toList = l) (hl : l.length ≤ 1000000000) : OwnB w.heap.size (Lib.bytesWorld w 5 s) (.slice (some ⟨w.heap.size, 0, none⟩) s.size (grownCap w s.size 0 5)) l := by
 have hsz : s.size = l.length := by rw [← hs]; rfl
 have hge := grownCap_ge w s.size 0 5
 refine ⟨_, _, by rw [hsz], by rw [← hsz]; exact hge, grownCap_le_maxLen w _ 0 5 (by unfold maxLen; omega), .inr ⟨w.heap.size, rfl, Nat.le_refl _, fun j hj => ?_, ?_, fun i hi => ?_⟩⟩
 ·simp only [World.frozen?, Lib.bytesWorld_at_new]
  have h9 : (Lib.bytesCells w 5 s).size = grownCap w s.size 0 5 := by
   unfold Lib.bytesCells
   simp
   have : s.data.size = s.size := rfl
   omega
  rw [h9]
  simp
  omega
 ·rw [Lib.bytesWorld_size]; omega
 ·rw [Nat.zero_add, Lib.bytesWorld_cell w 5 s i (by omega), hs]
  rfl
theorem conv_back {B : Nat} {w : World} {x : Value} {l : List UInt8} (h : OwnB B w x l) (hne : l ≠ []) : (convert 22 9 x).run Tryz.prog w = .ok (.string ⟨l.toArray⟩) w := by
 obtain ⟨X, c, rfl, hs⟩ := own_src h hne
 have hs' := hs
 refine run_convert_bytes_back w 22 9 5 ⟨X, 0, none⟩ c l Tryz.underlying22 Tryz.underlying5 Tryz.underlying9 (fun j hj => ?_)
 refine src_at9 hs' j _ ?_
 simp [Lib.byteCells, List.getElem?_eq_getElem hj]
theorem op_len (x : O) (h1 : x.a ≤ 999) (h2 : x.b ≤ 999) (h3 : x.k ≤ 999) : (opText x).length ≤ 4000000 := by
 have e0 := opWord_len x.c
 have e1 := dec_len x.a (by omega)
 have e2 := dec_len x.b (by omega)
 have e3 := dec_len x.k (by omega)
 unfold opText
 simp only [List.length_append, List.length_cons, List.length_nil]
 omega
theorem ops_len (r : List O) : (∀ q, q < r.length → (oAt r q).a ≤ 999 ∧ (oAt r q).b ≤ 999 ∧ (oAt r q).k ≤ 999) → ∀ q, q ≤ r.length → (opsText (r.take q)).length ≤ q * 4000000
 | _, 0, _ => by simp [opsText]
 | h, q + 1, hq => by
  obtain ⟨h1, h2, h3⟩ := h q (by omega)
  have h4 := ops_len r h q (by omega)
  have h5 := op_len (oAt r q) h1 h2 h3
  rw [ops_snoc (by omega), List.length_append]
  omega
theorem kinds_len {m : Md} (h : m.ok = true) : ∀ k, k ≤ m.h.length → (kindsText m.h k).length ≤ k * 40000000
 | 0, _ => by simp [kindsText]
 | k + 1, hk => by
  have h1 := kinds_len h k (by omega)
  have h2 := ok_row8 h (k := k) (by omega)
  have h3 := ops_len (hAt m.h k) (fun q hq => by obtain ⟨_, ⟨_, h4⟩, ⟨_, h5⟩, ⟨_, h6⟩⟩ := ok_op9 h (k := k) (by omega) hq; exact ⟨h4, h5, h6⟩) _ (Nat.le_refl _)
  rw [List.take_of_length_le (Nat.le_refl _)] at h3
  have h4 := (ok_nums h).2.2.2.1
  have h5 := dec_len (k : Int) (by omega)
  show (kindsText m.h k ++ kindText k (hAt m.h k)).length ≤ _
  unfold kindText
  simp only [List.length_append, List.length_cons, List.length_nil]
  omega
theorem head_len {m : Md} (h : m.ok = true) : (headText m).length ≤ 4000000 := by
 obtain ⟨h1, h2, h3, _⟩ := ok_nums h
 have e1 := dec_len m.n (by omega)
 have e2 := dec_len m.s (by omega)
 have e3 := dec_len m.z (by omega)
 unfold headText
 simp only [List.length_append, List.length_cons, List.length_nil]
 omega
theorem ev_ok9 {m : Md} (h : m.ok = true) {k : Nat} (hk : k < m.e.length) : okB (evAt m.e k).t (evAt m.e k).s (evAt m.e k).q (evAt m.e k).d (evAt m.e k).k (evAt m.e k).v (evAt m.e k).g = true := by
 have h1 := ok_ev9 h hk
 simp only [stB, Bool.and_eq_true, decide_eq_true_eq] at h1
 first | exact h1.1 | exact h1.1.1 | exact h1.1.1.1 | exact h1.1.1.1.1
theorem lines_len {m : Md} (h : m.ok = true) : ∀ k, k ≤ m.e.length → (linesText m.e k).length ≤ k * 11000000
 | 0, _ => by simp [linesText]
 | k + 1, hk => by
  have h1 := lines_len h k (by omega)
  have h2 := of_decide_eq_true (ev_ok9 h (k := k) (by omega))
  have h3 := evText_len (evAt m.e k).t (evAt m.e k).s (evAt m.e k).q (evAt m.e k).d (evAt m.e k).k (evAt m.e k).v (by omega) (by omega) (by omega) (by omega) (by omega) (by omega)
  show (linesText m.e k ++ lineText (evAt m.e k)).length ≤ _
  unfold lineText
  simp only [List.length_append, List.length_cons, List.length_nil]
  omega
theorem mod_len {m : Md} (h : m.ok = true) : (modText m).length ≤ 300000000 := by
 have h1 := head_len h
 have h2 := kinds_len h _ (Nat.le_refl _)
 have h3 := lines_len h _ (Nat.le_refl _)
 obtain ⟨_, _, _, h4, h5⟩ := ok_nums h
 unfold modText
 simp only [List.length_append]
 omega
end Go.Proofs.YtbljfphdghfkfaaGreatDoor

/- The program's text of a model: its first line, the line of a handler. -/
namespace Go.Proofs.YtbljfphdghfkfaaGreatDoor
open Go.RowKit
def headLine (m : Md) : List UInt8 := [112, 97, 114, 116, 115, 32] ++ dec m.n ++ ([32, 101, 110, 100, 32] ++ dec m.z) ++ ([32, 115, 101, 101, 100, 32] ++ dec m.s)
theorem head_end (m : Md) : headLine m ++ [10] = headText m := by simp [headLine, headText]
theorem head_join (m : Md) : Lib.join [[112, 97, 114, 116, 115], dec m.n, [101, 110, 100], dec m.z, [115, 101, 101, 100], dec m.s] [32] = headLine m := by
 rw [Lib.join_cons]
 simp [Lib.joinTail, headLine]
theorem tab_keptB {w w' : World} {B : Nat} (h : Lib.TabIs Tryz.prog w "internal/strconv.uint64pow10" .u64 Lib.pow10Tab) (hb : Below B w w') (hB : w.heap.size ≤ B) : Lib.TabIs Tryz.prog w' "internal/strconv.uint64pow10" .u64 Lib.pow10Tab := tab_kept h (hb.mono hB)
set_option maxRecDepth 100000 in
set_option maxHeartbeats 8000000 in
theorem parts_any (x : Value) (m : Md) (w : World) (hok : m.ok = true) (h : IsM w x m) (htab : Lib.TabIs Tryz.prog w "internal/strconv.uint64pow10" .u64 Lib.pow10Tab) :
  Calls Tryz.prog 35 #[x] w fun e w' => ∃ b : ByteArray, e = .returned (.string b) ∧ b.data.toList = headLine m ∧ Below w.heap.size w w' := by
 obtain ⟨vi, vh, vs, rfl, ⟨ai, ci, rfl, _⟩, ⟨ah, ch, rfl, hh1, hh2, hh3⟩, ⟨ae, ce, rfl, he1, he2, he3⟩⟩ := h
 have HH : Hid (m.h = [] ∨ ∃ b off, ah = some ⟨b, off, none⟩ ∧ b < w.heap.size ∧ ∀ i, i < m.h.length → ∃ u, w.cell? ⟨b, off + i, none⟩ = some u ∧ IsO w u (hAt m.h i)) := hh3
 have HEV : Hid (m.e = [] ∨ ∃ b off, ae = some ⟨b, off, none⟩ ∧ EvsAt w b off m.e) := he3
 clear hh1 hh2 hh3 he1 he2 he3
 clear HH HEV
 obtain ⟨⟨hN0, hN1'⟩, ⟨hS0, hS1'⟩, ⟨hZ0, hZ1'⟩, _, _⟩ := ok_nums hok
 have hN1 : m.n ≤ 1000000 := by omega
 have hS1 : m.s ≤ 1000000 := by omega
 have hZ1 : m.z ≤ 1000000 := by omega
 have HLEN : Hid ((headLine m).length ≤ 1000000000) := by
  have h9 := head_len hok
  rw [← head_end, List.length_append] at h9
  show (headLine m).length ≤ 1000000000
  omega
 clear hok hN1' hS1' hZ1'
 obtain ⟨W0, hW0⟩ : ∃ W0, w.alloc (.cells #[.int .i64 m.n, .int .i64 m.s, .slice ai m.i.length ci, .slice ah m.h.length ch, .slice ae m.e.length ce, .int .i64 m.z] 27) = W0 := ⟨_, rfl⟩
 have HP0 : Hid (Bk W0 w.heap.size 27 #[.int .i64 m.n, .int .i64 m.s, .slice ai m.i.length ci, .slice ah m.h.length ch, .slice ae m.e.length ce, .int .i64 m.z]) := hW0 ▸ Bk.new w _ _
 have HB0 : Hid (Below w.heap.size w W0) := hW0 ▸ (Below.refl _ w).alloc (Nat.le_refl _) _
 have HT0 : Hid (Lib.TabIs Tryz.prog W0 "internal/strconv.uint64pow10" .u64 Lib.pow10Tab) := tab_kept htab HB0.out
 clear htab
 go_enter Tryz.func35, Tryz.ntmps35
 go_upto_region 1 with fail
 try rw [hW0]
 clear hW0
 refine wp_region_held_drew (S := fun W => W.cell? ⟨w.heap.size, 0, none⟩ = some (.int .i64 m.n) ∧ W.cell? ⟨w.heap.size, 5, none⟩ = some (.int .i64 m.z) ∧ W.cell? ⟨w.heap.size, 1, none⟩ = some (.int .i64 m.s)) (by kernel_rfl) ⟨HP0.out.drew.cell (i := 0) rfl, HP0.out.drew.cell (i := 5) rfl, HP0.out.drew.cell (i := 1) rfl⟩ (fun hHeld => ?_)
 obtain ⟨wd, hwd⟩ : ∃ wd, W0.drew = wd := ⟨_, rfl⟩
 have HBwd : Hid (Below w.heap.size w wd) := hwd ▸ HB0.out.drew
 have HPwd : Hid (Bk wd w.heap.size 27 #[.int .i64 m.n, .int .i64 m.s, .slice ai m.i.length ci, .slice ah m.h.length ch, .slice ae m.e.length ce, .int .i64 m.z]) := hwd ▸ HP0.out.drew
 have HTwd : Hid (Lib.TabIs Tryz.prog wd "internal/strconv.uint64pow10" .u64 Lib.pow10Tab) := hwd ▸ tab_kept HT0.out (Below.refl _ W0).drew
 rw [hwd] at hHeld
 rw [hwd]
 clear hwd HB0 HP0 HT0
 refine wpAnyH_take (i := 0) (oi := { dst := some 3, op := Op.fieldAddr 27 (Operand.tmp 1) 0, type := 0, pos := _, after := _, guard := none }) (v := .pointer (some ⟨w.heap.size, 0, none⟩)) rfl (by kernel_rfl) (by kernel_rfl) (by kernel_rfl) (fun _ _ _ h => h) (Or.inl ⟨by rfl, ?_⟩) (by assumption) ?_
 ·intro wX hSw
  try dsimp only at hSw
  go_simp
  try exact IntWalk.i64_in _ (by omega)
 try simp only [Act.put, List.setIfInBounds_toArray, List.set_cons_zero, List.set_cons_succ]
 refine wpAnyH_take (i := 1) (oi := { dst := some 4, op := Op.load 3 (Operand.tmp 3), type := 3, pos := _, after := _, guard := none }) (v := .int .i64 m.n) rfl (by kernel_rfl) (by kernel_rfl) (by kernel_rfl) (fun _ _ _ h => h) (Or.inl ⟨by rfl, ?_⟩) (by assumption) ?_
 ·intro wX hSw
  try dsimp only at hSw
  go_simp
  try exact IntWalk.i64_in _ (by omega)
 try simp only [Act.put, List.setIfInBounds_toArray, List.set_cons_zero, List.set_cons_succ]
 refine wpAnyH_take (i := 3) (oi := { dst := some 6, op := Op.fieldAddr 27 (Operand.tmp 1) 5, type := 0, pos := _, after := _, guard := none }) (v := .pointer (some ⟨w.heap.size, 5, none⟩)) rfl (by kernel_rfl) (by kernel_rfl) (by kernel_rfl) (fun _ _ _ h => h) (Or.inl ⟨by rfl, ?_⟩) (by assumption) ?_
 ·intro wX hSw
  try dsimp only at hSw
  go_simp
  try exact IntWalk.i64_in _ (by omega)
 try simp only [Act.put, List.setIfInBounds_toArray, List.set_cons_zero, List.set_cons_succ]
 refine wpAnyH_take (i := 4) (oi := { dst := some 7, op := Op.load 3 (Operand.tmp 6), type := 3, pos := _, after := _, guard := none }) (v := .int .i64 m.z) rfl (by kernel_rfl) (by kernel_rfl) (by kernel_rfl) (fun _ _ _ h => h) (Or.inl ⟨by rfl, ?_⟩) (by assumption) ?_
 ·intro wX hSw
  try dsimp only at hSw
  go_simp
  try exact IntWalk.i64_in _ (by omega)
 try simp only [Act.put, List.setIfInBounds_toArray, List.set_cons_zero, List.set_cons_succ]
 refine wpAnyH_take (i := 6) (oi := { dst := some 9, op := Op.fieldAddr 27 (Operand.tmp 1) 1, type := 0, pos := _, after := _, guard := none }) (v := .pointer (some ⟨w.heap.size, 1, none⟩)) rfl (by kernel_rfl) (by kernel_rfl) (by kernel_rfl) (fun _ _ _ h => h) (Or.inl ⟨by rfl, ?_⟩) (by assumption) ?_
 ·intro wX hSw
  try dsimp only at hSw
  go_simp
  try exact IntWalk.i64_in _ (by omega)
 try simp only [Act.put, List.setIfInBounds_toArray, List.set_cons_zero, List.set_cons_succ]
 refine wpAnyH_take (i := 7) (oi := { dst := some 10, op := Op.load 3 (Operand.tmp 9), type := 3, pos := _, after := _, guard := none }) (v := .int .i64 m.s) rfl (by kernel_rfl) (by kernel_rfl) (by kernel_rfl) (fun _ _ _ h => h) (Or.inl ⟨by rfl, ?_⟩) (by assumption) ?_
 ·intro wX hSw
  try dsimp only at hSw
  go_simp
  try exact IntWalk.i64_in _ (by omega)
 try simp only [Act.put, List.setIfInBounds_toArray, List.set_cons_zero, List.set_cons_succ]
 refine wpAnyH_ready (rs := [2]) (by kernel_rfl) (by simp) ?_
 refine AllReadyH.cons (o := { dst := some 5, op := Op.call { callee := Callee.value (Operand.func 61), args := #[Operand.tmp 4], argTypes := #[3] }, type := 9, pos := _, after := _, guard := none }) rfl (fun K hK => ?_) AllReadyH.nil
 go_simp
 refine (itoa_any m.n hN0 hN1 _ HTwd.out).mono ?_
 rintro r wA ⟨bA, rfl, hA, hbA⟩
 have HBwA : Hid (Below w.heap.size w wA) := HBwd.out.trans (hbA.mono HBwd.out.size)
 have HTwA : Hid (Lib.TabIs Tryz.prog wA "internal/strconv.uint64pow10" .u64 Lib.pow10Tab) := tab_kept HTwd.out hbA
 have HPwA : Hid (Bk wA w.heap.size 27 #[.int .i64 m.n, .int .i64 m.s, .slice ai m.i.length ci, .slice ah m.h.length ch, .slice ae m.e.length ce, .int .i64 m.z]) := HPwd.out.below hbA
 have HLA : Hid (bA.data.toList = dec m.n) := hA
 clear hbA hA HTwd HPwd HBwd
 try go_simp
 refine hK.out _ _ ⟨HPwA.out.cell (i := 0) rfl, HPwA.out.cell (i := 5) rfl, HPwA.out.cell (i := 1) rfl⟩ (fun hHeld => ?_)
 clear hK K
 try simp only [Act.put, List.setIfInBounds_toArray, List.set_cons_zero, List.set_cons_succ]
 refine wpAnyH_ready (rs := [5]) (by kernel_rfl) (by simp) ?_
 refine AllReadyH.cons (o := { dst := some 8, op := Op.call { callee := Callee.value (Operand.func 61), args := #[Operand.tmp 7], argTypes := #[3] }, type := 9, pos := _, after := _, guard := none }) rfl (fun K hK => ?_) AllReadyH.nil
 go_simp
 refine (itoa_any m.z hZ0 hZ1 _ HTwA.out).mono ?_
 rintro r wB ⟨bB, rfl, hB, hbB⟩
 have HBwB : Hid (Below w.heap.size w wB) := HBwA.out.trans (hbB.mono HBwA.out.size)
 have HTwB : Hid (Lib.TabIs Tryz.prog wB "internal/strconv.uint64pow10" .u64 Lib.pow10Tab) := tab_kept HTwA.out hbB
 have HPwB : Hid (Bk wB w.heap.size 27 #[.int .i64 m.n, .int .i64 m.s, .slice ai m.i.length ci, .slice ah m.h.length ch, .slice ae m.e.length ce, .int .i64 m.z]) := HPwA.out.below hbB
 have HLB : Hid (bB.data.toList = dec m.z) := hB
 clear hbB hB HTwA HPwA HBwA
 try go_simp
 refine hK.out _ _ ⟨HPwB.out.cell (i := 0) rfl, HPwB.out.cell (i := 5) rfl, HPwB.out.cell (i := 1) rfl⟩ (fun hHeld => ?_)
 clear hK K
 try simp only [Act.put, List.setIfInBounds_toArray, List.set_cons_zero, List.set_cons_succ]
 refine wpAnyH_ready (rs := [8]) (by kernel_rfl) (by simp) ?_
 refine AllReadyH.cons (o := { dst := some 11, op := Op.call { callee := Callee.value (Operand.func 61), args := #[Operand.tmp 10], argTypes := #[3] }, type := 9, pos := _, after := _, guard := none }) rfl (fun K hK => ?_) AllReadyH.nil
 go_simp
 refine (itoa_any m.s hS0 hS1 _ HTwB.out).mono ?_
 rintro r wC ⟨bC, rfl, hC, hbC⟩
 have HBwC : Hid (Below w.heap.size w wC) := HBwB.out.trans (hbC.mono HBwB.out.size)
 have HTwC : Hid (Lib.TabIs Tryz.prog wC "internal/strconv.uint64pow10" .u64 Lib.pow10Tab) := tab_kept HTwB.out hbC
 have HPwC : Hid (Bk wC w.heap.size 27 #[.int .i64 m.n, .int .i64 m.s, .slice ai m.i.length ci, .slice ah m.h.length ch, .slice ae m.e.length ce, .int .i64 m.z]) := HPwB.out.below hbC
 have HLC : Hid (bC.data.toList = dec m.s) := hC
 clear hbC hC HTwB HPwB HBwB
 try go_simp
 refine hK.out _ _ ⟨HPwC.out.cell (i := 0) rfl, HPwC.out.cell (i := 5) rfl, HPwC.out.cell (i := 1) rfl⟩ (fun hHeld => ?_)
 clear hK K
 try simp only [Act.put, List.setIfInBounds_toArray, List.set_cons_zero, List.set_cons_succ]
 refine wpAnyH_ready (rs := [9]) (by kernel_rfl) (by simp) ?_
 refine AllReadyH.cons (o := { dst := some 12, op := Op.buildSlice 68 6 #[(0, Operand.const (Value.string { data := #[112, 97, 114, 116, 115] })), (1, Operand.tmp 5), (2, Operand.const (Value.string { data := #[101, 110, 100] })), (3, Operand.tmp 8), (4, Operand.const (Value.string { data := #[115, 101, 101, 100] })), (5, Operand.tmp 11)], type := 68, pos := _, after := _, guard := none }) rfl (fun K hK => ?_) AllReadyH.nil
 obtain ⟨X6, hX6⟩ : ∃ X, X = wC.heap.size := ⟨_, rfl⟩
 obtain ⟨w6, hw6⟩ : ∃ V, wC.alloc (.cells #[.string ⟨#[112, 97, 114, 116, 115]⟩, .string bA, .string ⟨#[101, 110, 100]⟩, .string bB, .string ⟨#[115, 101, 101, 100]⟩, .string bC] 9) = V := ⟨_, rfl⟩
 have HR6 : Hid (SrS wC.heap.size w6 (.slice (some ⟨wC.heap.size, 0, none⟩) 6 6) [(⟨#[112, 97, 114, 116, 115]⟩ : ByteArray), bA, ⟨#[101, 110, 100]⟩, bB, ⟨#[115, 101, 101, 100]⟩, bC]) := hw6 ▸ SrS.made wC _ _ rfl 6 rfl (by simp)
 have HB6 : Hid (Below w.heap.size w w6) := hw6 ▸ HBwC.out.alloc HBwC.out.size _
 have HP6 : Hid (Bk w6 w.heap.size 27 #[.int .i64 m.n, .int .i64 m.s, .slice ai m.i.length ci, .slice ah m.h.length ch, .slice ae m.e.length ce, .int .i64 m.z]) := hw6 ▸ HPwC.out.alloc _
 have HW6 : Hid (wC.alloc (.cells #[.string ⟨#[112, 97, 114, 116, 115]⟩, .string bA, .string ⟨#[101, 110, 100]⟩, .string bB, .string ⟨#[115, 101, 101, 100]⟩, .string bC] 9) = w6) := hw6
 clear hw6 hX6 HTwC HBwC HPwC
 go_simp
 rw [HW6.out]
 clear HW6
 refine hK.out _ _ ⟨HP6.out.cell (i := 0) rfl, HP6.out.cell (i := 5) rfl, HP6.out.cell (i := 1) rfl⟩ (fun hHeld => ?_)
 clear hK K
 try simp only [Act.put, List.setIfInBounds_toArray, List.set_cons_zero, List.set_cons_succ]
 refine wpAnyH_ready (rs := [10]) (by kernel_rfl) (by simp) ?_
 refine AllReadyH.cons (o := { dst := some 13, op := Op.call { callee := Callee.value (Operand.func 38), args := #[Operand.tmp 12, Operand.const (Value.string { data := #[32] })], argTypes := #[68, 9] }, type := 9, pos := _, after := _, guard := none }) rfl (fun K hK => ?_) AllReadyH.nil
 go_simp
 refine (join_any w6 _ [(⟨#[112, 97, 114, 116, 115]⟩ : ByteArray), bA, ⟨#[101, 110, 100]⟩, bB, ⟨#[115, 101, 101, 100]⟩, bC] ⟨#[32]⟩ HR6.out (by simp) (by simp) (headLine m) (by show Lib.join [_, bA.data.toList, _, bB.data.toList, _, bC.data.toList] _ = _; rw [HLA.out, HLB.out, HLC.out]; exact head_join m) HLEN.out).mono ?_
 rintro r wJ ⟨bJ, rfl, hJ, hbJ⟩
 have HBJ : Hid (Below w.heap.size w wJ) := HB6.out.trans (hbJ.mono HB6.out.size)
 have HJ : Hid (bJ.data.toList = headLine m) := hJ
 have HPJ : Hid (Bk wJ w.heap.size 27 #[.int .i64 m.n, .int .i64 m.s, .slice ai m.i.length ci, .slice ah m.h.length ch, .slice ae m.e.length ce, .int .i64 m.z]) := HP6.out.below hbJ
 clear hbJ hJ HR6 HB6 HP6
 try go_simp
 refine hK.out _ _ ⟨HPJ.out.cell (i := 0) rfl, HPJ.out.cell (i := 5) rfl, HPJ.out.cell (i := 1) rfl⟩ (fun hHeld => ?_)
 clear hK K
 try simp only [Act.put, List.setIfInBounds_toArray, List.set_cons_zero, List.set_cons_succ]
 refine wpAnyH_take (i := 11) (oi := { dst := some 2, op := Op.assign (Operand.tmp 13), type := 9, pos := _, after := _, guard := none }) (v := .string bJ) rfl (by kernel_rfl) (by kernel_rfl) (by kernel_rfl) (fun _ _ _ h => h) (Or.inl ⟨by rfl, ?_⟩) (by assumption) ?_
 ·intro wX hSw
  try dsimp only at hSw
  go_simp
  try exact IntWalk.i64_in _ (by omega)
 try simp only [Act.put, List.setIfInBounds_toArray, List.set_cons_zero, List.set_cons_succ]
 refine wpAnyH_done (by kernel_rfl) ?_ _
 go_wp2
 go_ret
 exact ⟨_, rfl, HJ.out, HBJ.out⟩
def kindLine (i : Nat) (r : List O) : List UInt8 := [107, 105, 110, 100, 32] ++ dec (i : Int) ++ opsText r
theorem kind_end (i : Nat) (r : List O) : kindLine i r ++ [10] = kindText i r := by simp [kindLine, kindText]
def opIn (o : O) : Prop := (0 ≤ o.c ∧ o.c ≤ 6) ∧ (0 ≤ o.a ∧ o.a ≤ 999) ∧ (0 ≤ o.b ∧ o.b ≤ 999) ∧ (0 ≤ o.k ∧ o.k ≤ 999)
set_option maxRecDepth 100000 in
set_option maxHeartbeats 8000000 in
theorem handlerT_any (kd : Nat) (u : Value) (r : List O) (w : World) (hkd : (kd : Int) ≤ 1000000) (hr8 : r.length ≤ 8) (hop : ∀ q, q < r.length → opIn (oAt r q)) (hu : IsO w u r) (htab : Lib.TabIs Tryz.prog w "internal/strconv.uint64pow10" .u64 Lib.pow10Tab) :
  Calls Tryz.prog 36 #[.int .i64 (kd : Int), u] w fun e w' => ∃ b : ByteArray, e = .returned (.string b) ∧ b.data.toList = kindLine kd r ∧ Below w.heap.size w w' := by
 obtain ⟨a1, c1, rfl, _, _, hu⟩ := hu
 have HU : Hid (r = [] ∨ ∃ b off, a1 = some ⟨b, off, none⟩ ∧ OsAt w b off r) := hu
 have HOP : Hid (∀ q, q < r.length → opIn (oAt r q)) := hop
 have HC : Hid (Calls Tryz.prog 61 #[.int .i64 (kd : Int)] w fun e w' => ∃ b : ByteArray, e = .returned (.string b) ∧ b.data.toList = dec (kd : Int) ∧ Below w.heap.size w w') := itoa_any (kd : Int) (by omega) hkd w htab
 have HTw : Hid (Lib.TabIs Tryz.prog w "internal/strconv.uint64pow10" .u64 Lib.pow10Tab) := htab
 have HLEN : Hid ((kindLine kd r).length ≤ 1000000000) := by
  have h3 := ops_len r (fun q hq => by obtain ⟨_, ⟨_, h4⟩, ⟨_, h5⟩, ⟨_, h6⟩⟩ := hop q hq; exact ⟨h4, h5, h6⟩) _ (Nat.le_refl _)
  rw [List.take_of_length_le (Nat.le_refl _)] at h3
  have h5 := dec_len (kd : Int) hkd
  show (kindLine kd r).length ≤ 1000000000
  unfold kindLine
  simp only [List.length_append, List.length_cons, List.length_nil]
  omega
 clear hu hop htab
 go_enter Tryz.func36, Tryz.ntmps36
 go_wp2_with fail
 refine HC.out.mono ?_
 rintro e w0 ⟨b0, rfl, hb0, hbw⟩
 have HB0 : Hid (Below w.heap.size w w0) := hbw
 have HL0 : Hid (b0.data.toList = dec (kd : Int)) := hb0
 have HT0 : Hid (Lib.TabIs Tryz.prog w0 "internal/strconv.uint64pow10" .u64 Lib.pow10Tab) := tab_kept HTw.out hbw
 clear hbw hb0 HC HTw
 obtain ⟨B, hBe⟩ : ∃ B, B = w0.heap.size := ⟨_, rfl⟩
 obtain ⟨w1, hw1⟩ : ∃ V, w0.alloc (.cells #[.string ⟨#[107, 105, 110, 100]⟩, .string b0] 9) = V := ⟨_, rfl⟩
 have HR1 : Hid (SrS B w1 (.slice (some ⟨w0.heap.size, 0, none⟩) 2 2) [(⟨#[107, 105, 110, 100]⟩ : ByteArray), b0]) := hw1 ▸ hBe ▸ SrS.made w0 _ _ rfl 2 rfl (by simp)
 have HT1 : Hid (Lib.TabIs Tryz.prog w1 "internal/strconv.uint64pow10" .u64 Lib.pow10Tab) := hw1 ▸ tab_kept HT0.out ((Below.refl _ w0).alloc (Nat.le_refl _) _)
 have HB1 : Hid (Below w.heap.size w w1) := hw1 ▸ HB0.out.alloc HB0.out.size _
 have hwB : w.heap.size ≤ B := hBe ▸ HB0.out.size
 have hBw : B ≤ w1.heap.size := by rw [← hw1, hBe]; simp
 have HTB : Hid (∀ W, Below B w1 W → Lib.TabIs Tryz.prog W "internal/strconv.uint64pow10" .u64 Lib.pow10Tab) := fun W hW => tab_keptB HT0.out (((Below.refl B w0).alloc (by omega) _).trans (hw1 ▸ hW)) (by omega)
 clear HT0 HB0 HT1
 go_wp2
 try rw [hw1]
 clear hw1 hBe
 go_loopw [5, 13] (fun s i wr => ∃ (q : Nat) (v : Value) (l : List ByteArray), q ≤ r.length ∧ v = s ∧ i = .int .i64 q ∧ Hid (SrS B wr s ((⟨#[107, 105, 110, 100]⟩ : ByteArray) :: l)) ∧ Hid (spL (txts l) = [32] ++ dec (kd : Int) ++ opsText (r.take q)) ∧ l.length = 1 + 4 * q ∧ Hid (Below B w1 wr)) (fun _ i _ => r.length - (intOf i).toNat)
 case atStart =>
  refine ⟨0, _, [b0], Nat.zero_le _, rfl, rfl, HR1.out, (?_ : spL (txts [b0]) = _), rfl, Below.refl _ _⟩
  show spL [b0.data.toList] = _
  rw [HL0.out]
  simp [spL, Lib.joinTail, opsText]
 case round =>
  clear HR1
  obtain ⟨q, o2, l, hq, rfl, rfl, HR, HZ, hll, HBq⟩ := hrel
  have HBX : Hid (Below w.heap.size w wr) := HB1.out.trans (HBq.out.mono (by omega))
  by_cases hlt : q < r.length
  case pos =>
   obtain ⟨b, off, rfl, hb, hc⟩ := HU.out.resolve_left (by intro e; rw [e] at hlt; simp at hlt)
   obtain ⟨g0, g1, g2, g3⟩ := (hc q hlt).below HBX.out hb
   obtain ⟨⟨hc0, hc6⟩, ⟨ha0, ha1'⟩, ⟨hb0, hb1'⟩, ⟨hk0, hk1'⟩⟩ := HOP.out q hlt
   have HNX : Hid (opsText (r.take (q + 1)) = opsText (r.take q) ++ opText (oAt r q)) := ops_snoc hlt
   generalize oAt r q = e at g0 g1 g2 g3 HNX hc0 hc6 ha0 ha1' hb0 hb1' hk0 hk1'
   obtain ⟨c, a, b2, k2⟩ := e
   simp only at hc0 hc6 ha0 ha1' hb0 hb1' hk0 hk1'
   have ha1 : a ≤ 1000000 := by omega
   have hb1 : b2 ≤ 1000000 := by omega
   have hk1 : k2 ≤ 1000000 := by omega
   have hqd : decide ((q : Int) < (r.length : Int)) = true := by simpa using hlt
   clear hc
   obtain ⟨QB, hQB⟩ : ∃ QB, QB = wr.heap.size := ⟨_, rfl⟩
   obtain ⟨V, hV⟩ : ∃ V, wr.alloc (.cells #[.int .i64 c, .int .i64 a, .int .i64 b2, .int .i64 k2] 39) = V := ⟨_, rfl⟩
   have HRV : Hid (SrS B V o2 ((⟨#[107, 105, 110, 100]⟩ : ByteArray) :: l)) := hV ▸ HR.out.alloc _
   have HQV : Hid (Bk V QB 39 #[.int .i64 c, .int .i64 a, .int .i64 b2, .int .i64 k2]) := hV ▸ Bk.newAt hQB _ _
   have HBV : Hid (Below B w1 V) := hV ▸ HBq.out.alloc (Nat.le_trans hBw HBq.out.size) _
   have HTV : Hid (Lib.TabIs Tryz.prog V "internal/strconv.uint64pow10" .u64 Lib.pow10Tab) := HTB.out V HBV.out
   have hQB' := hQB.symm
   clear hQB
   go_upto_region 5 with (fail)
   clear g0 g1 g2 g3 hV HR HBq HBX hqd
   generalize hL : (⟨#[107, 105, 110, 100]⟩ : ByteArray) :: l = ls at HRV
   refine wp_region_held_drew (S := fun W => W.cell? ⟨QB, 0, none⟩ = some (.int .i64 c) ∧ W.cell? ⟨QB, 1, none⟩ = some (.int .i64 a) ∧ W.cell? ⟨QB, 2, none⟩ = some (.int .i64 b2) ∧ W.cell? ⟨QB, 3, none⟩ = some (.int .i64 k2)) (by kernel_rfl) ⟨HQV.out.drew.cell (i := 0) rfl, HQV.out.drew.cell (i := 1) rfl, HQV.out.drew.cell (i := 2) rfl, HQV.out.drew.cell (i := 3) rfl⟩ (fun hHeld => ?_)
   obtain ⟨wd, hwd⟩ : ∃ wd, V.drew = wd := ⟨_, rfl⟩
   have HBwd : Hid (Below B w1 wd) := hwd ▸ HBV.out.drew
   have HQwd : Hid (Bk wd QB 39 #[.int .i64 c, .int .i64 a, .int .i64 b2, .int .i64 k2]) := hwd ▸ HQV.out.drew
   have HTwd : Hid (Lib.TabIs Tryz.prog wd "internal/strconv.uint64pow10" .u64 Lib.pow10Tab) := hwd ▸ tab_kept HTV.out (Below.refl _ V).drew
   have HRwd : Hid (SrS B wd o2 ls) := hwd ▸ HRV.out.drew
   have hls : ls.length = 2 + 4 * q := by rw [← hL]; simp; omega
   have HLS : Hid ((⟨#[107, 105, 110, 100]⟩ : ByteArray) :: l = ls) := hL
   rw [hwd] at hHeld
   rw [hwd]
   clear hwd HBV HQV HTV HRV hL
   refine wpAnyH_take (i := 0) (oi := { dst := some 17, op := Op.move (Operand.tmp 5), type := 68, pos := _, after := _, guard := none }) (v := o2) rfl (by kernel_rfl) (by kernel_rfl) (by kernel_rfl) (fun _ _ _ h => h) (Or.inl ⟨by rfl, ?_⟩) (by assumption) ?_
   ·intro wX hSw
    try dsimp only at hSw
    go_simp
    try exact IntWalk.i64_in _ (by omega)
   try simp only [Act.put, List.setIfInBounds_toArray, List.set_cons_zero, List.set_cons_succ]
   refine wpAnyH_take (i := 1) (oi := { dst := some 18, op := Op.load 39 (Operand.tmp 7), type := 39, pos := _, after := _, guard := none }) (v := .agg #[.int .i64 c, .int .i64 a, .int .i64 b2, .int .i64 k2]) rfl (by kernel_rfl) (by kernel_rfl) (by kernel_rfl) (fun _ _ _ h => h) (Or.inl ⟨by rfl, ?_⟩) (by assumption) ?_
   ·intro wX hSw
    try dsimp only at hSw
    go_simp
    try exact IntWalk.i64_in _ (by omega)
   try simp only [Act.put, List.setIfInBounds_toArray, List.set_cons_zero, List.set_cons_succ]
   refine wpAnyH_take (i := 4) (oi := { dst := some 21, op := Op.fieldAddr 39 (Operand.tmp 7) 1, type := 0, pos := _, after := _, guard := none }) (v := .pointer (some ⟨QB, 1, none⟩)) rfl (by kernel_rfl) (by kernel_rfl) (by kernel_rfl) (fun _ _ _ h => h) (Or.inl ⟨by rfl, ?_⟩) (by assumption) ?_
   ·intro wX hSw
    try dsimp only at hSw
    go_simp
    try exact IntWalk.i64_in _ (by omega)
   try simp only [Act.put, List.setIfInBounds_toArray, List.set_cons_zero, List.set_cons_succ]
   refine wpAnyH_take (i := 5) (oi := { dst := some 22, op := Op.load 3 (Operand.tmp 21), type := 3, pos := _, after := _, guard := none }) (v := .int .i64 a) rfl (by kernel_rfl) (by kernel_rfl) (by kernel_rfl) (fun _ _ _ h => h) (Or.inl ⟨by rfl, ?_⟩) (by assumption) ?_
   ·intro wX hSw
    try dsimp only at hSw
    go_simp
    try exact IntWalk.i64_in _ (by omega)
   try simp only [Act.put, List.setIfInBounds_toArray, List.set_cons_zero, List.set_cons_succ]
   refine wpAnyH_take (i := 7) (oi := { dst := some 24, op := Op.fieldAddr 39 (Operand.tmp 7) 2, type := 0, pos := _, after := _, guard := none }) (v := .pointer (some ⟨QB, 2, none⟩)) rfl (by kernel_rfl) (by kernel_rfl) (by kernel_rfl) (fun _ _ _ h => h) (Or.inl ⟨by rfl, ?_⟩) (by assumption) ?_
   ·intro wX hSw
    try dsimp only at hSw
    go_simp
    try exact IntWalk.i64_in _ (by omega)
   try simp only [Act.put, List.setIfInBounds_toArray, List.set_cons_zero, List.set_cons_succ]
   refine wpAnyH_take (i := 8) (oi := { dst := some 25, op := Op.load 3 (Operand.tmp 24), type := 3, pos := _, after := _, guard := none }) (v := .int .i64 b2) rfl (by kernel_rfl) (by kernel_rfl) (by kernel_rfl) (fun _ _ _ h => h) (Or.inl ⟨by rfl, ?_⟩) (by assumption) ?_
   ·intro wX hSw
    try dsimp only at hSw
    go_simp
    try exact IntWalk.i64_in _ (by omega)
   try simp only [Act.put, List.setIfInBounds_toArray, List.set_cons_zero, List.set_cons_succ]
   refine wpAnyH_take (i := 10) (oi := { dst := some 27, op := Op.fieldAddr 39 (Operand.tmp 7) 3, type := 0, pos := _, after := _, guard := none }) (v := .pointer (some ⟨QB, 3, none⟩)) rfl (by kernel_rfl) (by kernel_rfl) (by kernel_rfl) (fun _ _ _ h => h) (Or.inl ⟨by rfl, ?_⟩) (by assumption) ?_
   ·intro wX hSw
    try dsimp only at hSw
    go_simp
    try exact IntWalk.i64_in _ (by omega)
   try simp only [Act.put, List.setIfInBounds_toArray, List.set_cons_zero, List.set_cons_succ]
   refine wpAnyH_take (i := 11) (oi := { dst := some 28, op := Op.load 3 (Operand.tmp 27), type := 3, pos := _, after := _, guard := none }) (v := .int .i64 k2) rfl (by kernel_rfl) (by kernel_rfl) (by kernel_rfl) (fun _ _ _ h => h) (Or.inl ⟨by rfl, ?_⟩) (by assumption) ?_
   ·intro wX hSw
    try dsimp only at hSw
    go_simp
    try exact IntWalk.i64_in _ (by omega)
   try simp only [Act.put, List.setIfInBounds_toArray, List.set_cons_zero, List.set_cons_succ]
   refine wpAnyH_ready (rs := [2]) (by kernel_rfl) (by simp) ?_
   refine AllReadyH.cons (o := { dst := some 19, op := Op.call { callee := Callee.value (Operand.func 42), args := #[Operand.tmp 18], argTypes := #[39] }, type := 80, pos := _, after := _, guard := none }) rfl (fun K hK => ?_) AllReadyH.nil
   go_simp
   refine (deedOf_any c a b2 k2 wd).mono ?_
   rintro r wA ⟨rfl, hbwA⟩
   have HTwA : Hid (Lib.TabIs Tryz.prog wA "internal/strconv.uint64pow10" .u64 Lib.pow10Tab) := tab_kept HTwd.out hbwA
   have HQwA : Hid (Bk wA QB 39 #[.int .i64 c, .int .i64 a, .int .i64 b2, .int .i64 k2]) := HQwd.out.below hbwA
   have HRwA : Hid (SrS B wA o2 ls) := HRwd.out.below hbwA
   have HBwA : Hid (Below B w1 wA) := HBwd.out.trans (hbwA.mono (Nat.le_trans hBw HBwd.out.size))
   clear hbwA HTwd HQwd HRwd HBwd
   try go_simp
   refine hK.out _ _ ⟨HQwA.out.cell (i := 0) rfl, HQwA.out.cell (i := 1) rfl, HQwA.out.cell (i := 2) rfl, HQwA.out.cell (i := 3) rfl⟩ (fun hHeld => ?_)
   clear hK K
   try simp only [Act.put, List.setIfInBounds_toArray, List.set_cons_zero, List.set_cons_succ]
   refine wpAnyH_ready (rs := [3]) (by kernel_rfl) (by simp) ?_
   refine AllReadyH.cons (o := { dst := some 20, op := Op.call { callee := Callee.value (Operand.func 69), args := #[Operand.tmp 19], argTypes := #[80] }, type := 9, pos := _, after := _, guard := none }) rfl (fun K hK => ?_) AllReadyH.nil
   go_simp
   refine (deedWord_any c a b2 k2 wA hc0 hc6).mono ?_
   rintro r wB ⟨rfl, hbwB⟩
   have HTwB : Hid (Lib.TabIs Tryz.prog wB "internal/strconv.uint64pow10" .u64 Lib.pow10Tab) := tab_kept HTwA.out hbwB
   have HQwB : Hid (Bk wB QB 39 #[.int .i64 c, .int .i64 a, .int .i64 b2, .int .i64 k2]) := HQwA.out.below hbwB
   have HRwB : Hid (SrS B wB o2 ls) := HRwA.out.below hbwB
   have HBwB : Hid (Below B w1 wB) := HBwA.out.trans (hbwB.mono (Nat.le_trans hBw HBwA.out.size))
   clear hbwB HTwA HQwA HRwA HBwA
   try go_simp
   refine hK.out _ _ ⟨HQwB.out.cell (i := 0) rfl, HQwB.out.cell (i := 1) rfl, HQwB.out.cell (i := 2) rfl, HQwB.out.cell (i := 3) rfl⟩ (fun hHeld => ?_)
   clear hK K
   try simp only [Act.put, List.setIfInBounds_toArray, List.set_cons_zero, List.set_cons_succ]
   refine wpAnyH_ready (rs := [6]) (by kernel_rfl) (by simp) ?_
   refine AllReadyH.cons (o := { dst := some 23, op := Op.call { callee := Callee.value (Operand.func 61), args := #[Operand.tmp 22], argTypes := #[3] }, type := 9, pos := _, after := _, guard := none }) rfl (fun K hK => ?_) AllReadyH.nil
   go_simp
   refine (itoa_any a ha0 ha1 wB HTwB.out).mono ?_
   rintro r wC ⟨bwC, rfl, hwC, hbwC⟩
   have HLwC : Hid (bwC.data.toList = dec a) := hwC
   have HTwC : Hid (Lib.TabIs Tryz.prog wC "internal/strconv.uint64pow10" .u64 Lib.pow10Tab) := tab_kept HTwB.out hbwC
   have HQwC : Hid (Bk wC QB 39 #[.int .i64 c, .int .i64 a, .int .i64 b2, .int .i64 k2]) := HQwB.out.below hbwC
   have HRwC : Hid (SrS B wC o2 ls) := HRwB.out.below hbwC
   have HBwC : Hid (Below B w1 wC) := HBwB.out.trans (hbwC.mono (Nat.le_trans hBw HBwB.out.size))
   clear hbwC HTwB HQwB HRwB HBwB
   clear hwC
   try go_simp
   refine hK.out _ _ ⟨HQwC.out.cell (i := 0) rfl, HQwC.out.cell (i := 1) rfl, HQwC.out.cell (i := 2) rfl, HQwC.out.cell (i := 3) rfl⟩ (fun hHeld => ?_)
   clear hK K
   try simp only [Act.put, List.setIfInBounds_toArray, List.set_cons_zero, List.set_cons_succ]
   refine wpAnyH_ready (rs := [9]) (by kernel_rfl) (by simp) ?_
   refine AllReadyH.cons (o := { dst := some 26, op := Op.call { callee := Callee.value (Operand.func 61), args := #[Operand.tmp 25], argTypes := #[3] }, type := 9, pos := _, after := _, guard := none }) rfl (fun K hK => ?_) AllReadyH.nil
   go_simp
   refine (itoa_any b2 hb0 hb1 wC HTwC.out).mono ?_
   rintro r wD ⟨bwD, rfl, hwD, hbwD⟩
   have HLwD : Hid (bwD.data.toList = dec b2) := hwD
   have HTwD : Hid (Lib.TabIs Tryz.prog wD "internal/strconv.uint64pow10" .u64 Lib.pow10Tab) := tab_kept HTwC.out hbwD
   have HQwD : Hid (Bk wD QB 39 #[.int .i64 c, .int .i64 a, .int .i64 b2, .int .i64 k2]) := HQwC.out.below hbwD
   have HRwD : Hid (SrS B wD o2 ls) := HRwC.out.below hbwD
   have HBwD : Hid (Below B w1 wD) := HBwC.out.trans (hbwD.mono (Nat.le_trans hBw HBwC.out.size))
   clear hbwD HTwC HQwC HRwC HBwC
   clear hwD
   try go_simp
   refine hK.out _ _ ⟨HQwD.out.cell (i := 0) rfl, HQwD.out.cell (i := 1) rfl, HQwD.out.cell (i := 2) rfl, HQwD.out.cell (i := 3) rfl⟩ (fun hHeld => ?_)
   clear hK K
   try simp only [Act.put, List.setIfInBounds_toArray, List.set_cons_zero, List.set_cons_succ]
   refine wpAnyH_ready (rs := [12]) (by kernel_rfl) (by simp) ?_
   refine AllReadyH.cons (o := { dst := some 29, op := Op.call { callee := Callee.value (Operand.func 61), args := #[Operand.tmp 28], argTypes := #[3] }, type := 9, pos := _, after := _, guard := none }) rfl (fun K hK => ?_) AllReadyH.nil
   go_simp
   refine (itoa_any k2 hk0 hk1 wD HTwD.out).mono ?_
   rintro r wE ⟨bwE, rfl, hwE, hbwE⟩
   have HLwE : Hid (bwE.data.toList = dec k2) := hwE
   have HTwE : Hid (Lib.TabIs Tryz.prog wE "internal/strconv.uint64pow10" .u64 Lib.pow10Tab) := tab_kept HTwD.out hbwE
   have HQwE : Hid (Bk wE QB 39 #[.int .i64 c, .int .i64 a, .int .i64 b2, .int .i64 k2]) := HQwD.out.below hbwE
   have HRwE : Hid (SrS B wE o2 ls) := HRwD.out.below hbwE
   have HBwE : Hid (Below B w1 wE) := HBwD.out.trans (hbwE.mono (Nat.le_trans hBw HBwD.out.size))
   clear hbwE HTwD HQwD HRwD HBwD
   clear hwE
   try go_simp
   refine hK.out _ _ ⟨HQwE.out.cell (i := 0) rfl, HQwE.out.cell (i := 1) rfl, HQwE.out.cell (i := 2) rfl, HQwE.out.cell (i := 3) rfl⟩ (fun hHeld => ?_)
   clear hK K
   try simp only [Act.put, List.setIfInBounds_toArray, List.set_cons_zero, List.set_cons_succ]
   refine wpAnyH_ready (rs := [13]) (by kernel_rfl) (by simp) ?_
   refine AllReadyH.cons (o := { dst := some 30, op := Op.buildSlice 68 4 #[(0, Operand.tmp 20), (1, Operand.tmp 23), (2, Operand.tmp 26), (3, Operand.tmp 29)], type := 68, pos := _, after := _, guard := none }) rfl (fun K hK => ?_) AllReadyH.nil
   obtain ⟨X4, hX4⟩ : ∃ X, X = wE.heap.size := ⟨_, rfl⟩
   obtain ⟨wF, hwF⟩ : ∃ V, wE.alloc (.cells #[.string ⟨(opWord c).toArray⟩, .string bwC, .string bwD, .string bwE] 9) = V := ⟨_, rfl⟩
   have HS4 : Hid (Srt wF X4 [(⟨(opWord c).toArray⟩ : ByteArray), bwC, bwD, bwE]) := hwF ▸ hX4 ▸ Srt.new wE _ _ rfl
   have hbwF : Below wE.heap.size wE wF := hwF ▸ (Below.refl _ wE).alloc (Nat.le_refl _) _
   have HWF : Hid (wE.alloc (.cells #[.string ⟨(opWord c).toArray⟩, .string bwC, .string bwD, .string bwE] 9) = wF) := hwF
   have HX4 : Hid (X4 = wE.heap.size) := hX4
   clear hwF hX4
   have HTwF : Hid (Lib.TabIs Tryz.prog wF "internal/strconv.uint64pow10" .u64 Lib.pow10Tab) := tab_kept HTwE.out hbwF
   have HQwF : Hid (Bk wF QB 39 #[.int .i64 c, .int .i64 a, .int .i64 b2, .int .i64 k2]) := HQwE.out.below hbwF
   have HRwF : Hid (SrS B wF o2 ls) := HRwE.out.below hbwF
   have HBwF : Hid (Below B w1 wF) := HBwE.out.trans (hbwF.mono (Nat.le_trans hBw HBwE.out.size))
   clear hbwF HTwE HQwE HRwE HBwE
   go_simp
   rw [HWF.out, ← HX4.out]
   clear HWF HX4
   refine hK.out _ _ ⟨HQwF.out.cell (i := 0) rfl, HQwF.out.cell (i := 1) rfl, HQwF.out.cell (i := 2) rfl, HQwF.out.cell (i := 3) rfl⟩ (fun hHeld => ?_)
   clear hK K
   try simp only [Act.put, List.setIfInBounds_toArray, List.set_cons_zero, List.set_cons_succ]
   refine wpAnyH_ready (rs := [14]) (by kernel_rfl) (by simp) ?_
   refine AllReadyH.cons (o := { dst := some 31, op := Op.call { callee := Callee.builtin Builtin.append, args := #[Operand.tmp 17, Operand.tmp 30], argTypes := #[68, 68] }, type := 68, pos := _, after := _, guard := none }) rfl (fun K hK => ?_) AllReadyH.nil
   refine sr_own (B := B) rfl (.tmp 17) (.tmp 30) rfl o2 ls rfl HRwF.out [(⟨(opWord c).toArray⟩ : ByteArray), bwC, bwD, bwE] X4 4 rfl HS4.out (by show _ + 4 ≤ _; omega) (Nat.le_trans hBw HBwF.out.size) ?_
   intro yz wz hr hbB hk
   have HRz : Hid (SrS B wz yz (ls ++ [(⟨(opWord c).toArray⟩ : ByteArray), bwC, bwD, bwE])) := hr
   have HQz : Hid (Bk wz QB 39 #[.int .i64 c, .int .i64 a, .int .i64 b2, .int .i64 k2]) := hk QB _ _ (by decide) HQwF.out
   have HBz : Hid (Below B w1 wz) := HBwF.out.trans hbB
   clear hr hbB hk HRwF HQwF HBwF HTwF HS4
   refine hK.out _ _ ⟨HQz.out.cell (i := 0) rfl, HQz.out.cell (i := 1) rfl, HQz.out.cell (i := 2) rfl, HQz.out.cell (i := 3) rfl⟩ (fun hHeld => ?_)
   clear hK K
   try simp only [Act.put, List.setIfInBounds_toArray, List.set_cons_zero, List.set_cons_succ]
   refine wpAnyH_take (i := 15) (oi := { dst := some 5, op := Op.assign (Operand.tmp 31), type := 68, pos := _, after := _, guard := none }) (v := yz) rfl (by kernel_rfl) (by kernel_rfl) (by kernel_rfl) (fun _ _ _ h => h) (Or.inl ⟨by rfl, ?_⟩) (by assumption) ?_
   ·intro wX hSw
    try dsimp only at hSw
    go_simp
    try exact IntWalk.i64_in _ (by omega)
   try simp only [Act.put, List.setIfInBounds_toArray, List.set_cons_zero, List.set_cons_succ]
   refine wpAnyH_done (by kernel_rfl) ?_ _
   clear hHeld
   go_wp2
   go_roundw
   case rel =>
    refine ⟨q + 1, _, l ++ [(⟨(opWord c).toArray⟩ : ByteArray), bwC, bwD, bwE], by omega, rfl, by go_num, (by have h9 := HRz.out; rw [← HLS.out] at h9; exact h9), (?_ : spL (txts (l ++ [(⟨(opWord c).toArray⟩ : ByteArray), bwC, bwD, bwE])) = _), by simp; omega, HBz.out⟩
    rw [txts_append, spL_append, HNX.out, HZ.out]
    show _ ++ spL [(opWord c).toArray.toList, bwC.data.toList, bwD.data.toList, bwE.data.toList] = _
    rw [HLwC.out, HLwD.out, HLwE.out]
    simp [spL, Lib.joinTail, opText]
   case measure => simp [intOf]; omega
  case neg =>
   obtain rfl : q = r.length := by omega
   have hqd : decide ((r.length : Int) < (r.length : Int)) = false := by simp
   have HZE : Hid (Lib.join (txts ((⟨#[107, 105, 110, 100]⟩ : ByteArray) :: l)) [32] = kindLine kd r) := by
    have h9 := HZ.out
    rw [List.take_of_length_le (Nat.le_refl _)] at h9
    show Lib.join ([107, 105, 110, 100] :: txts l) [32] = _
    rw [Lib.join_cons]
    show _ ++ spL (txts l) = _
    rw [h9]
    simp [kindLine]
   go_wp2_with fail
   refine (join_any wr _ ((⟨#[107, 105, 110, 100]⟩ : ByteArray) :: l) ⟨#[32]⟩ HR.out (by simp) (by simp; omega) (kindLine kd r) HZE.out HLEN.out).mono ?_
   rintro e w9 ⟨b9, rfl, h9, hb9⟩
   have HB9 : Hid (Below w.heap.size w w9) := HBX.out.trans (hb9.mono HBX.out.size)
   have H9 : Hid (b9.data.toList = kindLine kd r) := h9
   clear hb9 h9
   go_wp2
   go_ret
   exact ⟨_, rfl, H9.out, HB9.out⟩
end Go.Proofs.YtbljfphdghfkfaaGreatDoor

/- The program's text of a model. -/
namespace Go.Proofs.YtbljfphdghfkfaaGreatDoor
open Go.RowKit
set_option maxRecDepth 100000 in
set_option maxHeartbeats 16000000 in
theorem iTextM (x : Value) (m : Md) (w : World) (hs : SmallM m) (h : IsM w x m) (htab : Lib.TabIs Tryz.prog w "internal/strconv.uint64pow10" .u64 Lib.pow10Tab) :
  Calls Tryz.prog 9 #[x] w fun e w' => ∃ y, e = .returned y ∧ OwnB w.heap.size w' y (textR m) ∧ Below w.heap.size w w' := by
 have HX : Hid (IsM w x m) := h
 have HS : Hid (SmallM m) := hs
 have HTw : Hid (Lib.TabIs Tryz.prog w "internal/strconv.uint64pow10" .u64 Lib.pow10Tab) := htab
 clear htab hs
 obtain ⟨vi, vh, vs, rfl, ⟨ai, ci, rfl, _⟩, ⟨ah, ch, rfl, hh1, hh2, hh3⟩, ⟨ae, ce, rfl, he1, he2, he3⟩⟩ := h
 have HH : Hid (m.h = [] ∨ ∃ b off, ah = some ⟨b, off, none⟩ ∧ b < w.heap.size ∧ ∀ i, i < m.h.length → ∃ u, w.cell? ⟨b, off + i, none⟩ = some u ∧ IsO w u (hAt m.h i)) := hh3
 have HEV : Hid (m.e = [] ∨ ∃ b off, ae = some ⟨b, off, none⟩ ∧ EvsAt w b off m.e) := he3
 clear hh1 hh2 hh3 he1 he2 he3
 obtain ⟨W0, hW0⟩ : ∃ W0, w.alloc (.cells #[.int .i64 m.n, .int .i64 m.s, .slice ai m.i.length ci, .slice ah m.h.length ch, .slice ae m.e.length ce, .int .i64 m.z] 27) = W0 := ⟨_, rfl⟩
 have HP0 : Hid (Bk W0 w.heap.size 27 #[.int .i64 m.n, .int .i64 m.s, .slice ai m.i.length ci, .slice ah m.h.length ch, .slice ae m.e.length ce, .int .i64 m.z]) := hW0 ▸ Bk.new w _ _
 have HB0 : Hid (Below w.heap.size w W0) := hW0 ▸ (Below.refl _ w).alloc (Nat.le_refl _) _
 have p0 := HP0.out.cell (i := 0) rfl
 have p1 := HP0.out.cell (i := 1) rfl
 have p2 := HP0.out.cell (i := 2) rfl
 have p3 := HP0.out.cell (i := 3) rfl
 have p4 := HP0.out.cell (i := 4) rfl
 have p5 := HP0.out.cell (i := 5) rfl
 go_enter Tryz.func9, Tryz.ntmps9
 go_wp2_with fail
 clear hW0 p0 p1 p2 p3 p4 p5
 refine (iModM _ m _ HS.out (HX.out.below HB0.out)).mono ?_
 rintro e w1 ⟨rfl, hb⟩
 have HB1 : Hid (Below w.heap.size w w1) := HB0.out.trans (hb.mono HB0.out.size)
 have HP1 : Hid (Bk w1 w.heap.size 27 #[.int .i64 m.n, .int .i64 m.s, .slice ai m.i.length ci, .slice ah m.h.length ch, .slice ae m.e.length ce, .int .i64 m.z]) := HP0.out.below hb
 clear hb HB0 HP0 HS
 cases hok : m.ok with
 | false =>
  have HT : Hid (textR m = []) := (by simp [textR, hok] : textR m = [])
  clear hok
  go_wp2
  go_ret
  exact ⟨_, rfl, by rw [HT.out]; exact OwnB.nil _ _, HB1.out⟩
 | true =>
  have HT : Hid (textR m = modText m) := (by simp [textR, hok] : textR m = modText m)
  have HOK : Hid (m.ok = true) := hok
  obtain ⟨_, _, _, hhl, hel⟩ := ok_nums hok
  clear hok
  have p0 := HP1.out.cell (i := 0) rfl
  have p1 := HP1.out.cell (i := 1) rfl
  have p2 := HP1.out.cell (i := 2) rfl
  have p3 := HP1.out.cell (i := 3) rfl
  have p4 := HP1.out.cell (i := 4) rfl
  have p5 := HP1.out.cell (i := 5) rfl
  go_wp2_with fail
  clear p0 p1 p2 p3 p4 p5
  refine (parts_any _ m _ HOK.out (HX.out.below HB1.out) (tab_kept HTw.out HB1.out)).mono ?_
  rintro e w2 ⟨b2, rfl, hb2, hbw2⟩
  have HB2 : Hid (Below w.heap.size w w2) := HB1.out.trans (hbw2.mono HB1.out.size)
  have HP2 : Hid (Bk w2 w.heap.size 27 #[.int .i64 m.n, .int .i64 m.s, .slice ai m.i.length ci, .slice ah m.h.length ch, .slice ae m.e.length ce, .int .i64 m.z]) := HP1.out.below hbw2
  have HL2 : Hid (b2.data.toList = headLine m) := hb2
  clear hb2 hbw2 HB1 HP1
  obtain ⟨B, hBe⟩ : ∃ B, B = w2.heap.size := ⟨_, rfl⟩
  obtain ⟨w3, hw3⟩ : ∃ V, w2.alloc (.cells #[.string b2] 9) = V := ⟨_, rfl⟩
  have HR3 : Hid (SrS B w3 (.slice (some ⟨w2.heap.size, 0, none⟩) 1 1) [b2]) := hw3 ▸ hBe ▸ SrS.made w2 _ _ rfl 1 rfl (by simp)
  have HB3 : Hid (Below w.heap.size w w3) := hw3 ▸ HB2.out.alloc HB2.out.size _
  have HP3 : Hid (Bk w3 w.heap.size 27 #[.int .i64 m.n, .int .i64 m.s, .slice ai m.i.length ci, .slice ah m.h.length ch, .slice ae m.e.length ce, .int .i64 m.z]) := hw3 ▸ HP2.out.alloc _
  have hwB : w.heap.size < B := hBe ▸ HP2.out.lt
  have hBw : B ≤ w3.heap.size := by rw [← hw3, hBe]; simp
  have HBE : Hid (∀ W, Below B w3 W → Below w.heap.size w W) := fun W hW => HB3.out.trans (hW.mono (by omega))
  have p3 := HP3.out.cell (i := 3) rfl
  clear HB2 HP2 hBe
  go_wp2
  try rw [hw3]
  clear hw3 p3
  go_loopw [3, 17] (fun s i wr => ∃ (k : Nat) (v : Value) (l : List ByteArray), k ≤ m.h.length ∧ v = s ∧ i = .int .i64 k ∧ Hid (SrS B wr s l) ∧ Hid (endL (txts l) = headText m ++ kindsText m.h k) ∧ l.length = 1 + k ∧ Hid (Below B w3 wr)) (fun _ i _ => m.h.length - (intOf i).toNat)
  case atStart =>
   refine ⟨0, _, [b2], Nat.zero_le _, rfl, rfl, HR3.out, (?_ : endL (txts [b2]) = _), rfl, Below.refl _ _⟩
   show endL [b2.data.toList] = _
   rw [HL2.out, ← head_end]
   simp [endL, kindsText]
  case round =>
   clear HR3
   obtain ⟨k, o, l, hk, rfl, rfl, HR, HZ, hll, HBq⟩ := hrel
   have HBX : Hid (Below w.heap.size w wr) := HBE.out wr HBq.out
   have HPr : Hid (Bk wr w.heap.size 27 #[.int .i64 m.n, .int .i64 m.s, .slice ai m.i.length ci, .slice ah m.h.length ch, .slice ae m.e.length ce, .int .i64 m.z]) := HP3.out.keep HBq.out hwB
   by_cases hlt : k < m.h.length
   case pos =>
    have hkd : decide ((k : Int) < (m.h.length : Int)) = true := by simpa using hlt
    obtain ⟨b, off, rfl, hb, hc⟩ := HH.out.resolve_left (by intro e; rw [e] at hlt; simp at hlt)
    obtain ⟨u, f0, hu⟩ := hc k hlt
    have f1 := (HBX.out.cell (p := ⟨b, off + k, none⟩) hb).trans f0
    have HU : Hid (IsO wr u (hAt m.h k)) := hu.below HBX.out
    clear hc hu f0
    go_wp2_with fail
    clear f1
    refine (handlerT_any k u (hAt m.h k) wr (by omega) (ok_row8 HOK.out hlt) (fun q hq => ok_op9 HOK.out hlt hq) HU.out (tab_kept HTw.out HBX.out)).mono ?_
    rintro e w4 ⟨b4, rfl, h4, hb4⟩
    have HB4 : Hid (Below B w3 w4) := HBq.out.trans (hb4.mono (Nat.le_trans hBw HBq.out.size))
    have HR4 : Hid (SrS B w4 o l) := HR.out.below hb4
    have HL4 : Hid (b4.data.toList = kindLine k (hAt m.h k)) := h4
    clear hb4 h4 HR HBq HBX HPr
    have hs4 : B ≤ w4.heap.size := Nat.le_trans hBw HB4.out.size
    go_wp2_with (at_builtin; refine srl_own (B := B) rfl _ _ rfl o l rfl (HR4.out.alloc _) [b4] w4.heap.size 1 rfl (Srt.new w4 _ _ rfl) (by show _ + 1 ≤ _; omega) (by simp; omega) ?_; intro v5 w5 hr5 hb5 hk5; have HR5 : Hid (SrS B w5 v5 (l ++ [b4])) := hr5; have HB5 : Hid (Below B w3 w5) := (HB4.out.alloc hs4 _).trans hb5; clear hr5 hb5 hk5)
    go_roundw
    case rel =>
     refine ⟨k + 1, _, l ++ [b4], by omega, rfl, by go_num, HR5.out, (?_ : endL (txts (l ++ [b4])) = _), by simp; omega, HB5.out⟩
     rw [txts_append, endL_append, HZ.out]
     show _ ++ endL [b4.data.toList] = headText m ++ (kindsText m.h k ++ kindText k (hAt m.h k))
     rw [HL4.out, ← kind_end]
     simp [endL]
    case measure => simp [intOf]; omega
   case neg =>
    obtain rfl : k = m.h.length := by omega
    have hkd : decide ((m.h.length : Int) < (m.h.length : Int)) = false := by simp
    have p4 := HPr.out.cell (i := 4) rfl
    obtain ⟨w6, hw6⟩ : ∃ V, V = wr := ⟨_, rfl⟩
    have HZ6 : Hid (endL (txts l) = headText m ++ kindsText m.h m.h.length) := HZ.out
    have HB6 : Hid (Below B w3 wr) := HBq.out
    clear HZ HBq
    go_wp2
    clear p4 hw6
    go_loopw [3, 32] (fun s i wr => ∃ (k : Nat) (v : Value) (l : List ByteArray), k ≤ m.e.length ∧ v = s ∧ i = .int .i64 k ∧ Hid (SrS B wr s l) ∧ Hid (endL (txts l) = headText m ++ kindsText m.h m.h.length ++ linesText m.e k) ∧ l.length = 1 + m.h.length + k ∧ Hid (Below B w3 wr)) (fun _ i _ => m.e.length - (intOf i).toNat)
    case atStart => exact ⟨0, _, l, Nat.zero_le _, rfl, rfl, HR.out, (by rw [HZ6.out]; simp [linesText] : endL (txts l) = _), by omega, HB6.out⟩
    case round =>
     clear HR HB6 HPr HBX HZ6 hll
     obtain ⟨k, o, l, hk, rfl, rfl, HR, HZ, hll, HBq⟩ := hrel
     have HBX : Hid (Below w.heap.size w wr) := HBE.out wr HBq.out
     by_cases hlt : k < m.e.length
     case pos =>
      have hkd2 : decide ((k : Int) < (m.e.length : Int)) = true := by simpa using hlt
      obtain ⟨b, off, rfl, hb, hc⟩ := HEV.out.resolve_left (by intro e; rw [e] at hlt; simp at hlt)
      obtain ⟨f0, f1, f2, f3, f4, f5, f6⟩ := (hc k hlt).below HBX.out hb
      have HEO : Hid (okB (evAt m.e k).t (evAt m.e k).s (evAt m.e k).q (evAt m.e k).d (evAt m.e k).k (evAt m.e k).v (evAt m.e k).g = true) := ev_ok9 HOK.out hlt
      have HNX : Hid (linesText m.e (k + 1) = linesText m.e k ++ lineText (evAt m.e k)) := rfl
      generalize evAt m.e k = e at f0 f1 f2 f3 f4 f5 f6 HNX HEO
      obtain ⟨t, s, qq, d, kk, vv, g⟩ := e
      clear hc
      obtain ⟨V, hV⟩ : ∃ V, wr.alloc (.cells #[.int .i64 t, .int .i64 s, .int .i64 qq, .int .i64 d, .int .i64 kk, .int .i64 vv, .int .i64 g] 53) = V := ⟨_, rfl⟩
      obtain ⟨QB, hQB⟩ : ∃ QB, QB = wr.heap.size := ⟨_, rfl⟩
      have HQV : Hid (Bk V QB 53 #[.int .i64 t, .int .i64 s, .int .i64 qq, .int .i64 d, .int .i64 kk, .int .i64 vv, .int .i64 g]) := hV ▸ Bk.newAt hQB _ _
      have HRV : Hid (SrS B V o l) := hV ▸ HR.out.alloc _
      have HBV : Hid (Below B w3 V) := hV ▸ HBq.out.alloc (Nat.le_trans hBw HBq.out.size) _
      have HTV : Hid (Lib.TabIs Tryz.prog V "internal/strconv.uint64pow10" .u64 Lib.pow10Tab) := tab_kept HTw.out (HBE.out V HBV.out)
      have e0 := HQV.out.cell (i := 0) rfl
      have e1 := HQV.out.cell (i := 1) rfl
      have e2 := HQV.out.cell (i := 2) rfl
      have e3 := HQV.out.cell (i := 3) rfl
      have e4 := HQV.out.cell (i := 4) rfl
      have e5 := HQV.out.cell (i := 5) rfl
      have e6 := HQV.out.cell (i := 6) rfl
      have hQB' := hQB.symm
      clear hQB
      go_wp2_with fail
      clear f0 f1 f2 f3 f4 f5 f6 e0 e1 e2 e3 e4 e5 e6 hV hQB' HR HBq HBX
      refine (iText_ok t s qq d kk vv g V HEO.out HTV.out).mono ?_
      rintro e w7 ⟨x7, rfl, hx7, hb7⟩
      have hcv := conv_back hx7 (ev_ne t s qq d kk vv)
      have HB7 : Hid (Below B w3 w7) := HBV.out.trans (hb7.mono (Nat.le_trans hBw HBV.out.size))
      have HR7 : Hid (SrS B w7 o l) := HRV.out.below hb7
      have hs7 : B ≤ w7.heap.size := Nat.le_trans hBw HB7.out.size
      clear hb7 hx7 HRV HBV HTV HQV
      go_wp2_with (at_builtin; refine srl_own (B := B) rfl _ _ rfl o l rfl (HR7.out.alloc _) [(⟨(evText t s qq d kk vv).toArray⟩ : ByteArray)] w7.heap.size 1 rfl (Srt.new w7 _ _ rfl) (by show _ + 1 ≤ _; omega) (by simp; omega) ?_; intro v8 w8 hr8 hb8 hk8; have HR8 : Hid (SrS B w8 v8 (l ++ [(⟨(evText t s qq d kk vv).toArray⟩ : ByteArray)])) := hr8; have HB8 : Hid (Below B w3 w8) := (HB7.out.alloc hs7 _).trans hb8; clear hr8 hb8 hk8)
      go_roundw
      case rel =>
       refine ⟨k + 1, _, l ++ [(⟨(evText t s qq d kk vv).toArray⟩ : ByteArray)], by omega, rfl, by go_num, HR8.out, (?_ : endL (txts (l ++ [(⟨(evText t s qq d kk vv).toArray⟩ : ByteArray)])) = _), by simp; omega, HB8.out⟩
       rw [txts_append, endL_append, HZ.out, HNX.out]
       show _ ++ endL [evText t s qq d kk vv] = _
       simp [endL, lineText]
      case measure => simp [intOf]; omega
     case neg =>
      obtain rfl : k = m.e.length := by omega
      have hkd2 : decide ((m.e.length : Int) < (m.e.length : Int)) = false := by simp
      have hne : l ≠ [] := by intro e9; rw [e9] at hll; simp at hll; omega
      have HJE : Hid (Lib.join (txts l) [10] ++ [10] = modText m) := by
       show _ = _
       rw [join_end _ (by intro e9; exact hne (by simpa [txts] using e9)), HZ.out]
       rfl
      have hml := mod_len HOK.out
      have hjl : (Lib.join (txts l) [10]).length ≤ 1000000000 := by
       rw [← HJE.out, List.length_append] at hml
       omega
      go_wp2_with fail
      refine (join_any wr _ l ⟨#[10]⟩ HR.out hne (by omega) _ rfl hjl).mono ?_
      rintro e w9 ⟨b9, rfl, h9, hb9⟩
      have HB9 : Hid (Below w.heap.size w w9) := HBX.out.trans (hb9.mono HBX.out.size)
      have H9 : Hid ((b9 ++ ⟨#[10]⟩ : ByteArray).data.toList = modText m) := by
       show _ = _
       rw [bytes_append, h9]
       exact HJE.out
      have hn : ¬ 9223372036854775807 < b9.size + 1 := by
       have e9 : b9.size = (Lib.join (txts l) [10]).length := by
        have h8 : b9.data.toList = Lib.join (txts l) [10] := h9
        rw [← h8]; rfl
       omega
      have kc := conv9
      clear hb9 h9
      go_wp2
      go_ret
      refine ⟨_, rfl, ?_, HB9.out.trans ((conv_below _ _).mono HB9.out.size)⟩
      rw [HT.out]
      have hsz : (b9 ++ ⟨#[10]⟩ : ByteArray).size = b9.size + 1 := by rw [ByteArray.size_append]; rfl
      have h8 := (conv_own2 w9 _ _ H9.out (by omega)).mono HB9.out.size
      rw [hsz] at h8
      exact h8
end Go.Proofs.YtbljfphdghfkfaaGreatDoor

