/- PushAll, PushNo, PushS, PushS2, Push, OpenS, LawHeapPush -/
import Derived.Test.YthklekjglocbgaaPushU
import Derived.Test.YthklekjglocbgaaHas
import Derived.Test.YthklekjglocbgaaQuietR
import Derived.Test.YthklekjglocbgaaSorted
import Derived.Test.YthklekjglocbgaaOwnS
import Derived.Test.YthklekjglocbgaaUpS
import Derived.Deep.RegionHeld3
import Derived.Deep.Cut
import Derived.Test.YthklekjglocbgaaDrop
import Derived.Test.YthklekjglocbgaaOpen
import Derived.Test.YthklekjglocbgaaEvs
import Derived.Test.YthklekjglocbgaaFrame
import Derived.Test.YthklekjglocbgaaEqs2
import Derived.Test.YthklekjglocbgaaEqs
/- The program's pushAll, where all go in. -/
namespace Go.Proofs.Ythklekjglocbgaa
open Go.RowKit Go.Shelf Go.Maps Go.WideShapes
attribute [local go_sem] Oper.semAt_some
theorem wideFn (f : FuncId) : Fence.wide.fn f = True := eq_true trivial
theorem OwnR.parts {B : Nat} {w : World} {x : Value} {l : List Ev} (h : OwnR B w x l) (hw : 0 < w.heap.size) : ∃ a cap b, x = .slice a l.length cap ∧ b < w.heap.size ∧ (l = [] ∨ ∃ off, a = some ⟨b, off, none⟩ ∧ EvsAt w b off l) := h.evs.parts hw

theorem atKey_no {l : List Ev} {tag : Int} (hw : ∀ i, i < l.length → wfI (evAt l i).g) (ht : wfI tag) (h : NoTag l tag) (d : DataW Unit) : (placesD (H := Unit) l (List.finRange l.length)).atKey (keyL tag) d = d := by
  have hD := placesD_isMap l l.length (Nat.le_refl _)
  rw [finRange_all] at hD
  rw [hD]
  simp only [DataW.atKey]
  cases hf : (placesE l l.length).find? (fun p => p.1.sameKey (keyL tag)) with
  | none => rfl
  | some q =>
    have hq := List.find?_some hf
    obtain ⟨j, hj, rfl, _⟩ := (placesAt l hw l.length (Nat.le_refl _)).ent q (List.mem_of_find?_eq_some hf)
    simp only [sameKey_keyL (hw j hj) ht, decide_eq_true_eq] at hq
    exact absurd hq (h j hj)
theorem look_no {w : World} {M n : Nat} {l : List Ev} {tag : Int} (hown : w.ownsMap Try.prog 33 (plainElem (H := Unit) Try.prog 3) M n (placesD l (List.finRange l.length))) (hw : ∀ i, i < l.length → wfI (evAt l i).g) (ht : wfI tag) (h : NoTag l tag) :
    (Instr.lookup 55 (.map (some M)) (keyV tag) true).run Try.prog w = .ok (.tuple #[.int .i64 0, .bool false]) w := by
  obtain ⟨v, ps, hrun, hv⟩ := hown.look_ok keyed25 Try.underlying55 (Try.zeroValue3 w) (plainElem_int Try.underlying3 (by decide)) (keyOf_tag tag ht)
  rw [has_no hw ht h] at hrun
  rw [atKey_no hw ht h] at hv
  obtain ⟨c, rfl, hc, _⟩ := plainElem_int_inv Try.underlying3 hv
  cases hc
  exact hrun
theorem keepsOthers_of_turns {S : Nat → Prop} {W W' : World} (h : Turns S W W') (hS : ∀ k o, S k → W.heap[k]? = some o → o.isCells = true) : KeepsOthers W W' :=
  ⟨h.size, fun k o hk ho => (h.block k (Array.getElem?_eq_some_iff.1 hk).1 (fun hs => by have := hS k o hs hk; rw [ho] at this; cases this)).trans hk⟩
/- The events of some places, in order. -/
def evsOf (l : List Ev) (pre : List (Fin l.length)) : List Ev := pre.map fun x => evAt l x.val
theorem evsOf_all (l : List Ev) : evsOf l (List.finRange l.length) = l := by
  refine ext_ev (by simp [evsOf]) (fun j hj => ?_)
  have hj' : j < l.length := by simpa [evsOf] using hj
  unfold evsOf
  simp [evAt, hj']
theorem fold_length : ∀ (l m : List Ev), (l.foldl pushL m).length = m.length + l.length
  | [], m => by simp
  | e :: l, m => by rw [List.foldl_cons, fold_length l, pushL_length, List.length_cons]; omega
theorem kept_fold {Q : Ev → Prop} : ∀ (l m : List Ev), Kept Q m → (∀ e ∈ l, Q e) → Kept Q (l.foldl pushL m)
  | [], _, h, _ => h
  | e :: l, m, h, k => kept_fold l (pushL m e) (kept_pushL.2 ⟨h, k e (by simp)⟩) (fun e' he => k e' (by simp [he]))
theorem pile_own (B P : Nat) (v : Value) (m l : List Ev) (W2 : World) : OwnFrom W2.heap.size (fun (pre : List (Fin l.length)) W3 => ∃ v', Pl W3 B P v' ((evsOf l pre).foldl pushL m) ∧ NewRow W2 v v' ∧ Turns (fun k => k = P ∨ v.ownBlock = some k) W2 W3) := by
  rintro pre X Y row ⟨v', h1, h2, h3⟩ hg hr
  have hrow := fun r e => (hr r e).2
  refine ⟨v', ⟨h1.box.kept hg (fun e => ?_), ?_, h1.low⟩, h2, h3.later ⟨hg.os, hg.tape, hg.output, hg.size, fun k hk hn => hg.block k hk (fun e => hn (hr k e.symm).1)⟩⟩
  · obtain ⟨o, ho, hc⟩ := hrow P e.symm
    have hh := h1.box
    unfold Boxed at hh
    rw [hh] at ho; cases ho; cases hc
  · refine h1.row.kept hg ?_
    obtain ⟨_, ⟨e1, _⟩ | ⟨g1, cap1, cur1, e1, _, hc1, _⟩⟩ := h1.row
    · subst e1; exact .inl rfl
    · subst e1
      refine .inr (fun e => ?_)
      obtain ⟨o, ho, hc⟩ := hrow g1 e.symm
      rw [hc1] at ho; cases ho; cases hc
set_option maxRecDepth 100000 in
set_option maxHeartbeats 8000000 in
theorem pushAll_ok (B P : Nat) (v : Value) (m : List Ev) (a : Option Addr) (cap b : Nat) (l : List Ev) (w : World) (hl : l.length ≤ 2000) (hB : B ≤ w.heap.size) (hp : Pl w B P v m)
    (hI : l = [] ∨ ∃ off, a = some ⟨b, off, none⟩ ∧ EvsAt w b off l) (hb : b < w.heap.size) (hbP : b ≠ P) (hbv : v.ownBlock ≠ some b) (hsum : m.length + l.length ≤ 2000)
    (hok : Kept (fun e => e.ok = true) m) (hokl : ∀ i, i < l.length → (evAt l i).ok = true) (hdis : ∀ i, i < l.length → NoTag m (evAt l i).g) :
    Calls Try.prog 38 #[pv P, .slice a l.length cap] w fun e w' => e = .returned (.bool true) ∧ (∃ v', Pl w' B P v' (l.foldl pushL m) ∧ NewRow w v v') ∧ Turns (fun k => k = P ∨ v.ownBlock = some k) w w' := by
  have hml := fun w => m_len P w
  have hme := fun w => m_events P w
  have HVW0 : Hid (∀ g, v.ownBlock = some g → g < w.heap.size) := fun g e => (OwnR.block hp.row e).2
  obtain ⟨av, capv, hv, hmm⟩ := hp.slice
  have hPw : P < w.heap.size := hp.box.lt
  have hP0 : Pl ((w.alloc (.cells #[pv P] 48)).alloc (.cells #[.bool false] 4)) B P v m := (hp.alloc _).alloc _
  have HLN : Hid (Calls Try.prog 76 #[.pointer (some ⟨P, 0, none⟩)] ((w.alloc (.cells #[pv P] 48)).alloc (.cells #[.bool false] 4)) fun e w' => e = .returned (.int .i64 (m.length : Int)) ∧ w' = ((w.alloc (.cells #[pv P] 48)).alloc (.cells #[.bool false] 4))) := len_any av P m.length capv _ (by have := hP0.box.cell; rw [hv] at this; exact this)
  have HEV : Hid (Calls Try.prog 81 #[.pointer (some ⟨P, 0, none⟩)] ((w.alloc (.cells #[pv P] 48)).alloc (.cells #[.bool false] 4)) fun e w' => ∃ y, e = .returned y ∧ OwnR ((w.alloc (.cells #[pv P] 48)).alloc (.cells #[.bool false] 4)).heap.size w' y m ∧ Below ((w.alloc (.cells #[pv P] 48)).alloc (.cells #[.bool false] 4)).heap.size ((w.alloc (.cells #[pv P] 48)).alloc (.cells #[.bool false] 4)) w') := events_any B P v m _ (by omega) hP0
  have cP := (Boxed.new w 48 (pv P)).alloc (.cells #[.bool false] 4)
  have cR := Boxed.new (w.alloc (.cells #[pv P] 48)) 4 (.bool false)
  simp only [World.size_alloc] at cP cR
  have hsum' : ¬ ((2000 : Int) < (m.length : Int) + (l.length : Int)) := by omega
  have hT0 : Turns (fun k => k = P ∨ v.ownBlock = some k) w ((w.alloc (.cells #[pv P] 48)).alloc (.cells #[.bool false] 4)) := ((Turns.refl _ w).alloc _).alloc _
  have hT0_b : Below w.heap.size w ((w.alloc (.cells #[pv P] 48)).alloc (.cells #[.bool false] 4)) := ((Below.refl _ w).alloc (Nat.le_refl _) _).alloc (by simp) _
  have hs0 : ((w.alloc (.cells #[pv P] 48)).alloc (.cells #[.bool false] 4)).heap.size = w.heap.size + 2 := by simp
  refine (callsIn_wide (n := 5)).1 ?_
  refine callsIn_of_wp_marks Try.func38 rfl trivial ?_ rfl
  simp only [Try.ntmps38, List.size_toArray, List.length_cons, List.length_nil, Nat.reduceAdd, Nat.reduceSub, Array.replicate_succ, Array.replicate_zero, List.push_toArray, List.append_toArray, List.nil_append, List.cons_append]
  gi_wp2_with (refine ⟨trivial, ?_⟩; gi_at_call 76; refine (callsIn_wide.2 HLN.out).mono ?_; rintro e w' ⟨rfl, rfl⟩)
  refine ⟨trivial, (callsIn_wide.2 HEV.out).mono ?_⟩
  rintro e wE ⟨y, rfl, hy, hbE⟩
  have hwf : ∀ i, i < m.length → wfI (evAt m i).g := fun i hi => okB_tag (hok i hi)
  rw [hs0] at hbE hy
  have hsE : w.heap.size + 2 ≤ wE.heap.size := by have := hbE.size; omega
  obtain ⟨ay, capy, bY, rfl, hbY, hIY⟩ := hy.parts (by omega)
  clear HLN HEV
  gi_wp2_with fail
  refine ⟨trivial, (callsIn_wide.2 (places_any (H := Unit) ay capy bY m wE (by omega) hIY hbY hwf)).mono ?_⟩
  rintro e wM ⟨rfl, hownM, hbM⟩
  have hsM : wE.heap.size < wM.heap.size := by obtain ⟨es, ck, h1, _⟩ := hownM; exact (Array.getElem?_eq_some_iff.1 h1).1
  have hbA : Below (w.heap.size + 2) ((w.alloc (.cells #[pv P] 48)).alloc (.cells #[.bool false] 4)) wM := hbE.trans (hbM.mono hsE)
  have hbB : Below wM.heap.size wM ((wM.alloc (.cells #[.map (some wE.heap.size)] 55)).alloc (.cells #[.slice a l.length cap] 25)) := ((Below.refl _ wM).alloc (Nat.le_refl _) _).alloc (by simp) _
  have cM := (Boxed.new wM 55 (.map (some wE.heap.size))).alloc (.cells #[.slice a l.length cap] 25)
  have cS := Boxed.new (wM.alloc (.cells #[.map (some wE.heap.size)] 55)) 25 (.slice a l.length cap)
  simp only [World.size_alloc] at cM cS
  have hownL := ownsMap_below hownM hbB hsM
  have hbL : Below (w.heap.size + 2) ((w.alloc (.cells #[pv P] 48)).alloc (.cells #[.bool false] 4)) ((wM.alloc (.cells #[.map (some wE.heap.size)] 55)).alloc (.cells #[.slice a l.length cap] 25)) := hbA.trans (hbB.mono (by omega))
  have hzL : ((wM.alloc (.cells #[.map (some wE.heap.size)] 55)).alloc (.cells #[.slice a l.length cap] 25)).heap.size = wM.heap.size + 2 := by simp
  gi_wp2_with (refine ⟨trivial, ?_⟩; gi_at_call 45; refine (callsIn_wide.2 (each_any _ _ _ _)).mono ?_; rintro e w' ⟨rfl, rfl⟩)
  generalize (wM.alloc (.cells #[.map (some wE.heap.size)] 55)).alloc (.cells #[.slice a l.length cap] 25) = WL at *
  have cPL : Boxed WL w.heap.size 48 (pv P) := (hbL.block _ (by omega)).trans cP
  have cRL : Boxed WL (w.heap.size + 1) 4 (.bool false) := (hbL.block _ (by omega)).trans cR
  have hPL : Pl WL B P v m := hP0.low2 hbL (by omega) (fun g e => by have := (OwnR.block hp.row e).2; omega)
  have hIL : l = [] ∨ ∃ off, a = some ⟨b, off, none⟩ ∧ EvsAt WL b off l := hI.imp id (fun ⟨off, e, h⟩ => ⟨off, e, (h.below hT0_b (by omega)).below hbL (by omega)⟩)
  have hTL : Turns (fun k => k = P ∨ v.ownBlock = some k) w WL := hT0.trans ⟨hbL.os, hbL.tape, hbL.output, hbL.size, fun k hk _ => hbL.block k (by rw [hs0] at hk; exact hk)⟩
  clear hP0 hT0 hbB hbM hbE hbA hownM cP cR hbL hIY hy hp
  have HVW : Hid (∀ g, v.ownBlock = some g → g < w.heap.size) := HVW0.out
  have HOKM : Hid (Kept (fun e => e.ok = true) m) := hok
  have HWF : Hid (∀ i, i < m.length → wfI (evAt m i).g) := hwf
  have HOKL : Hid (∀ i, i < l.length → (evAt l i).ok = true) := hokl
  have HDIS : Hid (∀ i, i < l.length → NoTag m (evAt l i).g) := hdis
  have hmo : Try.prog.follows .mixedOrders = true := by kernel_rfl
  clear hwf hokl hdis hml hme
  refine wpIn_rangeFunc_ownH rfl (by omega) (gf := 55) (lb := #[.pointer (some ⟨wM.heap.size + 1, 0, none⟩)]) rfl trivial (enters_of Try.func55 (by kernel_rfl) rfl)
    (each_stops Fence.wide 4 trivial rfl (by omega) (wM.heap.size + 1) b a cap l (by omega) WL (by omega) cS.cell hIL) Same2.trans (Same2.putObj (by omega) (by omega)) (Below.refl _ _) (fun _ => rfl)
    (fun pre W => Below WL.heap.size WL W)
    (fun _ _ _ => False)
    (ownFrom_below (Nat.le_refl _) (Nat.le_refl _))
    (fun _ _ _ _ _ hs _ _ => hs)
    (Below.refl _ _)
    (fun x a' W => ∃ Bx, WL.heap.size ≤ Bx ∧ Bx < W.heap.size ∧ Ev.In W Bx 0 (evAt l x.val) ∧ a' = { tmps := #[pv P, .slice a l.length cap, .pointer (some ⟨w.heap.size, 0, none⟩), undef, .pointer (some ⟨w.heap.size + 1, 0, none⟩), .pointer (some ⟨wM.heap.size, 0, none⟩), undef, .pointer (some ⟨Bx, 0, none⟩), undef, undef, undef, undef, pv P, .int .i64 (m.length : Int), .slice a l.length cap, .int .i64 (l.length : Int), .int .i64 ((m.length : Int) + (l.length : Int)), .bool (decide ((2000 : Int) < (m.length : Int) + (l.length : Int))), pv P, .slice ay m.length capy, .map (some wE.heap.size), .slice a l.length cap, .func (.func 55) #[] #[.pointer (some ⟨wM.heap.size + 1, 0, none⟩)], .int .i64 ((x.val : Nat) : Int), (evAt l x.val).val, undef, undef, undef, undef, undef, undef, undef, undef, undef, undef, undef, undef, undef, undef, undef, undef, undef], defers := [] })
    (fun x a' s A B row hs hg hr => by obtain ⟨Bx, h1, h2, h3, h4⟩ := hs; exact ⟨Bx, h1, Nat.lt_of_lt_of_le h2 hg.size, h3.kept hg (fun r e => (hr r e).2), h4⟩) ?assign ?body ?done ?stop
  case assign =>
    rintro lp pre x W K hB hK
    have hz := hB.size
    gi_wp2
    have hBW : Below W.heap.size W (W.alloc (.cells #[.int .i64 (evAt l x.val).t, .int .i64 (evAt l x.val).s, .int .i64 (evAt l x.val).q, .int .i64 (evAt l x.val).d, .int .i64 (evAt l x.val).k, .int .i64 (evAt l x.val).v, .int .i64 (evAt l x.val).g] 33)) := (Below.refl _ W).alloc (Nat.le_refl _) _
    exact hK _ _ ((KeepsOthers.alloc _ _).from _) (Same2.below hBW (by omega) (by omega)) (hB.trans (hBW.mono hz)) ⟨W.heap.size, hz, by simp, EvAt.new _ _ _ _ _ _ _ _ _, rfl⟩
  case body =>
    rintro lp pre x a' W hlp _ hB ⟨Bx, h1, h2, h3, rfl⟩ hlt
    have hz := hB.size
    have HB : Hid (Below WL.heap.size WL W) := hB
    obtain ⟨kx, hkx⟩ : ∃ kx, x.val = kx := ⟨_, rfl⟩
    have hkl : kx < l.length := by rw [← hkx]; exact x.isLt
    rw [hkx] at h3
    have f6 := (h3.beyond h2).2.2.2.2.2.2
    have hcM : ∀ p : Beyond W, p.w.cell? ⟨wM.heap.size, 0, none⟩ = some (.map (some wE.heap.size)) := fun p => p.cell (by omega) ((hB.cell (p := ⟨wM.heap.size, 0, none⟩) (by simp; omega)).trans cM.cell)
    have hlk : ∀ p : Beyond W, (Instr.lookup 55 (.map (some wE.heap.size)) (keyV (evAt l kx).g) true).run Try.prog p.w = .ok (.tuple #[.int .i64 0, .bool false]) p.w := fun p => look_no (ownsMap_below (ownsMap_below hownL hB (by omega)) p.h (by omega)) HWF.out (okB_tag (HOKL.out kx hkl)) (HDIS.out kx hkl)
    have hne : Nonempty (Beyond W) := ⟨⟨W, Below.refl _ _⟩⟩
    have hwf : ∀ f, Fence.wide.fn f = True := wideFn
    clear h3 hB cM cS hownL cPL cRL hPL hIL hTL
    simp only [hkx]
    gi_wp2
    refine region_round hmo (by kernel_rfl) (by simp) ?_
    repeat (gi_big_quiet_step (first | (gi_at_call 42; exact Beyond.inRound lp (callsIn_wide.2 (tagKey_any _ _)))))
    refine wpQuietIn_nil ?_
    rintro w2 ⟨⟨_, hb2⟩, rfl⟩
    clear f6 hcM hlk
    gi_wp2
    exact ⟨(keepsOthers_of_below hb2).from _, Same2.below hb2 (by omega) (by omega), HB.out.trans (hb2.mono hz)⟩
  case stop =>
    rintro D c pre W _ _ h _
    exact h.elim
  case done =>
    rintro D1 ys W hD1 rfl hBW1 hK1
    have hz := hBW1.size
    have hvw : ∀ g, v.ownBlock = some g → g < w.heap.size := HVW.out
    have cS2 := Boxed.new W 25 (.slice a l.length cap)
    have hb2 : Below WL.heap.size WL (W.alloc (.cells #[.slice a l.length cap] 25)) := hBW1.alloc hz _
    have hK2 : (W.alloc (.cells #[.slice a l.length cap] 25)).heap[D1]? = some (.deferred (some [])) := (Below.heap_alloc _ _ _ (Array.getElem?_eq_some_iff.1 hK1).1).trans hK1
    have hz2 : (W.alloc (.cells #[.slice a l.length cap] 25)).heap.size = W.heap.size + 1 := by simp
    have hD1w : D1 < W.heap.size := (Array.getElem?_eq_some_iff.1 hK1).1
    gi_wp2_with (refine ⟨trivial, ?_⟩; gi_at_call 45; refine (callsIn_wide.2 (each_any _ _ _ _)).mono ?_; rintro e w' ⟨rfl, rfl⟩)
    generalize W.alloc (.cells #[.slice a l.length cap] 25) = W2 at *
    have cP2 : Boxed W2 w.heap.size 48 (pv P) := (hb2.block _ (by omega)).trans cPL
    have cR2 : Boxed W2 (w.heap.size + 1) 4 (.bool false) := (hb2.block _ (by omega)).trans cRL
    have hP2 : Pl W2 B P v m := hPL.low2 hb2 (by omega) (fun g e => by have := hvw g e; omega)
    have hI2 : l = [] ∨ ∃ off, a = some ⟨b, off, none⟩ ∧ EvsAt W2 b off l := hIL.imp id (fun ⟨off, e, h⟩ => ⟨off, e, h.below hb2 (by omega)⟩)
    have hT2 : Turns (fun k => k = P ∨ v.ownBlock = some k) w W2 := hTL.trans (Turns.of_below hb2)
    clear hK1 hBW1 cS cM hownL cPL cRL hPL hIL hTL
    refine wpIn_rangeFunc_ownH rfl (by omega) (gf := 55) (lb := #[.pointer (some ⟨W.heap.size, 0, none⟩)]) rfl trivial (enters_of Try.func55 (by kernel_rfl) rfl)
      (each_stops Fence.wide 4 trivial rfl (by omega) W.heap.size b a cap l (by omega) W2 (by omega) cS2.cell hI2) Same2.trans (Same2.putObj (by omega) (by omega)) (Below.refl _ _) (fun _ => rfl)
      (fun pre W3 => ∃ v', Pl W3 B P v' ((evsOf l pre).foldl pushL m) ∧ NewRow W2 v v' ∧ Turns (fun k => k = P ∨ v.ownBlock = some k) W2 W3)
      (fun _ _ _ => False)
      (pile_own B P v m l W2)
      (fun _ _ _ _ _ hs _ _ => hs)
      ⟨v, hP2, .inl rfl, Turns.refl _ _⟩
      (fun x a' W3 => ∃ Bx, W2.heap.size ≤ Bx ∧ Bx < W3.heap.size ∧ Ev.In W3 Bx 0 (evAt l x.val) ∧ a' = { tmps := #[pv P, .slice a l.length cap, .pointer (some ⟨w.heap.size, 0, none⟩), undef, .pointer (some ⟨w.heap.size + 1, 0, none⟩), .pointer (some ⟨wM.heap.size, 0, none⟩), undef, undef, undef, undef, undef, .pointer (some ⟨Bx, 0, none⟩), pv P, .int .i64 (m.length : Int), .slice a l.length cap, .int .i64 (l.length : Int), .int .i64 ((m.length : Int) + (l.length : Int)), .bool (decide ((2000 : Int) < (m.length : Int) + (l.length : Int))), pv P, .slice ay m.length capy, .map (some wE.heap.size), .slice a l.length cap, .func (.func 55) #[] #[.pointer (some ⟨wM.heap.size + 1, 0, none⟩)], undef, undef, undef, undef, undef, undef, undef, undef, undef, undef, undef, .slice a l.length cap, .func (.func 55) #[] #[.pointer (some ⟨W.heap.size, 0, none⟩)], .int .i64 ((x.val : Nat) : Int), (evAt l x.val).val, undef, undef, undef, undef], defers := [] })
      (fun x a' s A B row hs hg hr => by obtain ⟨Bx, h1, h2, h3, h4⟩ := hs; exact ⟨Bx, h1, Nat.lt_of_lt_of_le h2 hg.size, h3.kept hg (fun r e => (hr r e).2), h4⟩) ?assign ?body ?done ?stop
    case assign =>
      rintro lp pre x W3 K ⟨v', hp3, hn3, ht3⟩ hK
      have hz3 := ht3.size
      gi_wp2
      have hBW : Below W3.heap.size W3 (W3.alloc (.cells #[.int .i64 (evAt l x.val).t, .int .i64 (evAt l x.val).s, .int .i64 (evAt l x.val).q, .int .i64 (evAt l x.val).d, .int .i64 (evAt l x.val).k, .int .i64 (evAt l x.val).v, .int .i64 (evAt l x.val).g] 33)) := (Below.refl _ W3).alloc (Nat.le_refl _) _
      exact hK _ _ ((KeepsOthers.alloc _ _).from _) (Same2.below hBW (by omega) (by omega)) ⟨v', hp3.alloc _, hn3, ht3.alloc _⟩ ⟨W3.heap.size, hz3, by simp, EvAt.new _ _ _ _ _ _ _ _ _, rfl⟩
    case body =>
      rintro lp pre x a' W3 hlp _ ⟨v', hp3, hn3, ht3⟩ ⟨Bx, h1, h2, h3, rfl⟩ hlt
      have hz3 := ht3.size
      obtain ⟨f0, f1, f2, f3, f4, f5, f6⟩ := h3.lits
      have hcp : W3.cell? ⟨w.heap.size, 0, none⟩ = some (pv P) := (ht3.cell (by omega) (fun h => by rcases h with h | h; omega; have := hvw _ h; omega)).trans cP2.cell
      have hoks : Kept (fun e => e.ok = true) ((evsOf l pre).foldl pushL m) := kept_fold (evsOf l pre) m HOKM.out (fun e he => by
        obtain ⟨y, _, rfl⟩ := List.mem_map.1 he
        exact HOKL.out y.val y.isLt)
      have hlenf : ((evsOf l pre).foldl pushL m).length = m.length + pre.length := by rw [fold_length]; simp [evsOf]
      have HPU : Hid (Calls Try.prog 50 #[pv P, .iface 33 (.agg #[.int .i64 (evAt l x.val).t, .int .i64 (evAt l x.val).s, .int .i64 (evAt l x.val).q, .int .i64 (evAt l x.val).d, .int .i64 (evAt l x.val).k, .int .i64 (evAt l x.val).v, .int .i64 (evAt l x.val).g])] W3 fun r w' => (∃ u, r = .returned u) ∧ (∃ v2, Pl w' B P v2 (pushL ((evsOf l pre).foldl pushL m) (evAt l x.val)) ∧ NewRow W3 v' v2) ∧ Turns (fun k => k = P ∨ v'.ownBlock = some k) W3 w') := libPush_one B P v' ((evsOf l pre).foldl pushL m) (evAt l x.val) W3 (by omega) hp3 (by omega) hoks (HOKL.out x.val x.isLt)
      have HP3 : Hid (Pl W3 B P v' ((evsOf l pre).foldl pushL m)) := hp3
      have HN3 : Hid (NewRow W2 v v') := hn3
      have HT3 : Hid (Turns (fun k => k = P ∨ v.ownBlock = some k) W2 W3) := ht3
      have HV' : Hid (∀ k, k < W2.heap.size → v'.ownBlock = some k → v.ownBlock = some k) := fun k hk e => by
        rcases hn3 with h | h
        · rw [← h]; exact e
        · have := h k e; omega
      clear hp3 hn3 ht3 hoks hlenf h3
      gi_wp2_with (refine ⟨trivial, ?_⟩; gi_at_call 50; refine (CallsIn.inRound lp (callsIn_wide.2 HPU.out)).mono ?_; rintro e w4 ⟨⟨u, rfl⟩, ⟨v2, hp4, hn4⟩, ht4⟩)
      refine ⟨(keepsOthers_of_turns ht4 ?_).from _, ⟨ht4.block _ (by omega) (fun h => ?_), ht4.block _ (by omega) (fun h => ?_)⟩, v2, ?_, ?_, ?_⟩
      · rintro k o (rfl | e) hk
        · have hh := HP3.out.box
          unfold Boxed at hh
          rw [hh] at hk; cases hk; rfl
        · obtain ⟨_, ⟨e1, _⟩ | ⟨g1, cap1, cur1, e1, _, hc1, _⟩⟩ := HP3.out.row
          · rw [e1] at e; cases e
          · rw [e1] at e; cases e; rw [hc1] at hk; cases hk; rfl
      · rcases h with h | h
        · omega
        · have := hvw _ (HV'.out _ (by omega) h); omega
      · rcases h with h | h
        · exact hbP h
        · exact hbv (HV'.out _ (by omega) h)
      · unfold evsOf; rw [List.map_append, List.foldl_append]; exact hp4
      · rcases hn4 with h | h
        · rcases HN3.out with h' | h'
          · exact .inl (h.trans h')
          · exact .inr (fun k e => h' k (by rw [← h]; exact e))
        · exact .inr (fun k e => by have := h k e; omega)
      · exact ⟨ht4.os.trans HT3.out.os, ht4.tape.trans HT3.out.tape, ht4.output.trans HT3.out.output, Nat.le_trans hz3 ht4.size, fun k hk hS => (ht4.block k (by omega) (fun h => hS (h.imp id (HV'.out k hk)))).trans (HT3.out.block k hk hS)⟩
    case stop =>
      rintro D c pre W3 _ _ h _
      exact h.elim
    case done =>
      rintro D2 ys W3 hD2 rfl ⟨v', hp3, hn3, ht3⟩ hK3
      have hz3 := ht3.size
      have hcr : W3.cell? ⟨w.heap.size + 1, 0, none⟩ = some (.bool false) := (ht3.cell (by omega) (fun h => by rcases h with h | h; omega; have := hvw _ h; omega)).trans cR2.cell
      have hfr : W3.frozen? ⟨w.heap.size + 1, 0, none⟩ = false := (ht3.frozen (by omega) (fun h => by rcases h with h | h; omega; have := hvw _ h; omega)).trans cR2.frozen
      have hK1 : W3.heap[D1]? = some (.deferred (some [])) := (ht3.block D1 (by omega) (fun h => by rcases h with h | h; omega; have := hvw _ h; omega)).trans hK2
      have HP3 : Hid (Pl W3 B P v' ((evsOf l (List.finRange l.length)).foldl pushL m)) := hp3
      have HN3 : Hid (NewRow W2 v v') := hn3
      have HT3 : Hid (Turns (fun k => k = P ∨ v.ownBlock = some k) W2 W3) := ht3
      clear hp3 hn3 ht3
      gi_wp2
      have hD12 : D1 ≠ D2 := by omega
      have hK3' := (KeepsOthers.setCell W3 ⟨w.heap.size + 1, 0, none⟩ (.bool true)).same D2 _ hK3 rfl
      have hK1' := (KeepsOthers.setCell W3 ⟨w.heap.size + 1, 0, none⟩ (.bool true)).same D1 _ hK1 rfl
      have hK1'' : ((W3.setCell ⟨w.heap.size + 1, 0, none⟩ (.bool true)).putObj D2 (.deferred none)).heap[D1]? = some (.deferred (some [])) := (World.putObj_heap_other hD12).trans hK1'
      have hc5 := cell_kept (World.cell?_setCell_same' W3 ⟨w.heap.size + 1, 0, none⟩ (.bool true) (by rw [hcr]; rfl)) (grownBy_putObj' _ D2 (.deferred none)) (fun r e => by cases e; exact ⟨_, hK3', rfl⟩)
      have hc6 := cell_kept hc5 (grownBy_putObj' _ D1 (.deferred none)) (fun r e => by cases e; exact ⟨_, hK1'', rfl⟩)
      have hTf : Turns (fun k => k = w.heap.size + 1 ∨ k = D2 ∨ k = D1) W3 (((W3.setCell ⟨w.heap.size + 1, 0, none⟩ (.bool true)).putObj D2 (.deferred none)).putObj D1 (.deferred none)) := (((Turns.refl (fun k => k = w.heap.size + 1 ∨ k = D2 ∨ k = D1) W3).setCell (p := ⟨w.heap.size + 1, 0, none⟩) (.inl rfl) (.bool true)).grown (grownBy_putObj' _ D2 (.deferred none)) (fun k e => by cases e; exact .inr (.inl rfl))).grown (grownBy_putObj' _ D1 (.deferred none)) (fun k e => by cases e; exact .inr (.inr rfl))
      have hgo : ∀ g, v'.ownBlock = some g → ¬ (g = w.heap.size + 1 ∨ g = D2 ∨ g = D1) := fun g e => by
        have hcell : ∃ cur q, W3.heap[g]? = some (.cells cur 33 q) := by
          obtain ⟨_, ⟨e1, _⟩ | ⟨g1, cap1, cur1, e1, _, hc1, _⟩⟩ := HP3.out.row
          · rw [e1] at e; cases e
          · rw [e1] at e; cases e; exact ⟨cur1, _, hc1⟩
        obtain ⟨cur, q, hcell⟩ := hcell
        rintro (h | h | h)
        · rcases HN3.out with h' | h'
          · have := hvw g (by rw [← h']; exact e); omega
          · have := h' g e; omega
        · rw [h, hK3] at hcell; cases hcell
        · rw [h, hK1] at hcell; cases hcell
      refine ⟨by simp, .inl ⟨_, _, rfl, run_takeDeferred hK3', by simp, .inl ⟨_, _, rfl, run_takeDeferred hK1'', ?_⟩⟩⟩
      refine ⟨.bool true, ?_, rfl, ⟨v', ?_, newRow_mono HN3.out (by omega)⟩, ((hT2.trans HT3.out).later (hTf.mono (fun k h => by omega)))⟩
      · simp [results, Try.f38, go_sem, hc6]
      · have h9 := HP3.out
        rw [evsOf_all] at h9
        exact h9.turns hTf (by omega) hgo
end Go.Proofs.Ythklekjglocbgaa

/- The program's pushAll, where nothing goes in. -/
namespace Go.Proofs.Ythklekjglocbgaa
open Go.RowKit Go.Shelf Go.Maps Go.WideShapes
attribute [local go_sem] Oper.semAt_some
theorem look_yes {w : World} {M n : Nat} {l : List Ev} {tag : Int} {i : Nat} (hown : w.ownsMap Try.prog 33 (plainElem (H := Unit) Try.prog 3) M n (placesD l (List.finRange l.length))) (hw : ∀ i, i < l.length → wfI (evAt l i).g) (hd : ∀ i, i < l.length → ∀ j, j < i → (evAt l j).g ≠ (evAt l i).g) (ht : wfI tag) (h : FirstAt l tag i) :
    (Instr.lookup 55 (.map (some M)) (keyV tag) true).run Try.prog w = .ok (.tuple #[.int .i64 (i : Int), .bool true]) w := by
  obtain ⟨v, ps, hrun, hv⟩ := hown.look_ok keyed25 Try.underlying55 (Try.zeroValue3 w) (plainElem_int Try.underlying3 (by decide)) (keyOf_tag tag ht)
  have hy := has_yes hw ht hd h
  rw [hy.1] at hrun
  obtain ⟨c, rfl, hc, _⟩ := plainElem_int_inv Try.underlying3 hv
  have := hy.2 c (congrArg Prod.fst hc)
  subst this
  exact hrun
set_option maxRecDepth 100000 in
set_option maxHeartbeats 8000000 in
theorem pushAll_full (B P : Nat) (v : Value) (m : List Ev) (a : Option Addr) (cap : Nat) (l : List Ev) (w : World) (hl : l.length ≤ 2000) (_hB : B ≤ w.heap.size) (hp : Pl w B P v m)
    (hml0 : m.length ≤ 1048576) (hsum : 2000 < m.length + l.length) :
    Calls Try.prog 38 #[pv P, .slice a l.length cap] w fun e w' => e = .returned (.bool false) ∧ Pl w' B P v m ∧ Below w.heap.size w w' := by
  have hml := fun w => m_len P w
  have HVW0 : Hid (∀ g, v.ownBlock = some g → g < w.heap.size) := fun g e => (OwnR.block hp.row e).2
  obtain ⟨av, capv, hv, hmm⟩ := hp.slice
  have hPw : P < w.heap.size := hp.box.lt
  have hP0 : Pl ((w.alloc (.cells #[pv P] 48)).alloc (.cells #[.bool false] 4)) B P v m := (hp.alloc _).alloc _
  have HLN : Hid (Calls Try.prog 76 #[.pointer (some ⟨P, 0, none⟩)] ((w.alloc (.cells #[pv P] 48)).alloc (.cells #[.bool false] 4)) fun e w' => e = .returned (.int .i64 (m.length : Int)) ∧ w' = ((w.alloc (.cells #[pv P] 48)).alloc (.cells #[.bool false] 4))) := len_any av P m.length capv _ (by have := hP0.box.cell; rw [hv] at this; exact this)
  have cP := (Boxed.new w 48 (pv P)).alloc (.cells #[.bool false] 4)
  have cR := Boxed.new (w.alloc (.cells #[pv P] 48)) 4 (.bool false)
  simp only [World.size_alloc] at cP cR
  have hsum' : (2000 : Int) < (m.length : Int) + (l.length : Int) := by omega
  have hT0_b : Below w.heap.size w ((w.alloc (.cells #[pv P] 48)).alloc (.cells #[.bool false] 4)) := ((Below.refl _ w).alloc (Nat.le_refl _) _).alloc (by simp) _
  have hs0 : ((w.alloc (.cells #[pv P] 48)).alloc (.cells #[.bool false] 4)).heap.size = w.heap.size + 2 := by simp
  have hcr := cR.cell
  have hfr := cR.frozen
  have hvw : ∀ g, v.ownBlock = some g → g < w.heap.size := HVW0.out
  have HP0 : Hid (Pl ((w.alloc (.cells #[pv P] 48)).alloc (.cells #[.bool false] 4)) B P v m) := hP0
  have HB0 : Hid (Below w.heap.size w ((w.alloc (.cells #[pv P] 48)).alloc (.cells #[.bool false] 4))) := hT0_b
  clear hp hP0 cP cR hv
  go_enter Try.func38, Try.ntmps38
  go_wp2_with fail
  refine HLN.out.mono ?_
  rintro e w' ⟨rfl, hw⟩
  have hw' := hw.symm
  clear hw
  subst hw'
  go_wp2
  exact bodyPost_ret (v := .bool false) (by simp [results, Try.results38, go_sem, hcr]) rfl ⟨rfl, HP0.out, HB0.out⟩
set_option maxRecDepth 100000 in
set_option maxHeartbeats 8000000 in
theorem pushAll_dup (B P : Nat) (v : Value) (m : List Ev) (a : Option Addr) (cap b : Nat) (l : List Ev) (w : World) (k : Nat) (hl1 : l.length = 1) (_hB : B ≤ w.heap.size) (hp : Pl w B P v m)
    (hI : l = [] ∨ ∃ off, a = some ⟨b, off, none⟩ ∧ EvsAt w b off l) (hb : b < w.heap.size) (hsum : m.length + l.length ≤ 2000)
    (hok : Kept (fun e => e.ok = true) m) (hdm : ∀ i, i < m.length → ∀ j, j < i → (evAt m j).g ≠ (evAt m i).g) (hokl : (evAt l 0).ok = true) (hk : FirstAt m (evAt l 0).g k) :
    Calls Try.prog 38 #[pv P, .slice a l.length cap] w fun e w' => e = .returned (.bool false) ∧ Pl w' B P v m ∧ Below w.heap.size w w' := by
  have hl : l.length ≤ 2000 := by omega
  have HL1 : Hid (l.length = 1) := hl1
  clear hl1
  have hml := fun w => m_len P w
  have hme := fun w => m_events P w
  have HVW0 : Hid (∀ g, v.ownBlock = some g → g < w.heap.size) := fun g e => (OwnR.block hp.row e).2
  obtain ⟨av, capv, hv, hmm⟩ := hp.slice
  have hPw : P < w.heap.size := hp.box.lt
  have hP0 : Pl ((w.alloc (.cells #[pv P] 48)).alloc (.cells #[.bool false] 4)) B P v m := (hp.alloc _).alloc _
  have HLN : Hid (Calls Try.prog 76 #[.pointer (some ⟨P, 0, none⟩)] ((w.alloc (.cells #[pv P] 48)).alloc (.cells #[.bool false] 4)) fun e w' => e = .returned (.int .i64 (m.length : Int)) ∧ w' = ((w.alloc (.cells #[pv P] 48)).alloc (.cells #[.bool false] 4))) := len_any av P m.length capv _ (by have := hP0.box.cell; rw [hv] at this; exact this)
  have HEV : Hid (Calls Try.prog 81 #[.pointer (some ⟨P, 0, none⟩)] ((w.alloc (.cells #[pv P] 48)).alloc (.cells #[.bool false] 4)) fun e w' => ∃ y, e = .returned y ∧ OwnR ((w.alloc (.cells #[pv P] 48)).alloc (.cells #[.bool false] 4)).heap.size w' y m ∧ Below ((w.alloc (.cells #[pv P] 48)).alloc (.cells #[.bool false] 4)).heap.size ((w.alloc (.cells #[pv P] 48)).alloc (.cells #[.bool false] 4)) w') := events_any B P v m _ (by omega) hP0
  have cP := (Boxed.new w 48 (pv P)).alloc (.cells #[.bool false] 4)
  have cR := Boxed.new (w.alloc (.cells #[pv P] 48)) 4 (.bool false)
  simp only [World.size_alloc] at cP cR
  have hsum' : ¬ ((2000 : Int) < (m.length : Int) + (l.length : Int)) := by omega
  have hT0 : Turns (fun k => k = P ∨ v.ownBlock = some k) w ((w.alloc (.cells #[pv P] 48)).alloc (.cells #[.bool false] 4)) := ((Turns.refl _ w).alloc _).alloc _
  have hT0_b : Below w.heap.size w ((w.alloc (.cells #[pv P] 48)).alloc (.cells #[.bool false] 4)) := ((Below.refl _ w).alloc (Nat.le_refl _) _).alloc (by simp) _
  have hs0 : ((w.alloc (.cells #[pv P] 48)).alloc (.cells #[.bool false] 4)).heap.size = w.heap.size + 2 := by simp
  refine (callsIn_wide (n := 5)).1 ?_
  refine callsIn_of_wp_marks Try.func38 rfl trivial ?_ rfl
  simp only [Try.ntmps38, List.size_toArray, List.length_cons, List.length_nil, Nat.reduceAdd, Nat.reduceSub, Array.replicate_succ, Array.replicate_zero, List.push_toArray, List.append_toArray, List.nil_append, List.cons_append]
  gi_wp2_with (refine ⟨trivial, ?_⟩; gi_at_call 76; refine (callsIn_wide.2 HLN.out).mono ?_; rintro e w' ⟨rfl, rfl⟩)
  refine ⟨trivial, (callsIn_wide.2 HEV.out).mono ?_⟩
  rintro e wE ⟨y, rfl, hy, hbE⟩
  have hwf : ∀ i, i < m.length → wfI (evAt m i).g := fun i hi => okB_tag (hok i hi)
  rw [hs0] at hbE hy
  have hsE : w.heap.size + 2 ≤ wE.heap.size := by have := hbE.size; omega
  obtain ⟨ay, capy, bY, rfl, hbY, hIY⟩ := hy.parts (by omega)
  clear HLN HEV
  gi_wp2_with fail
  refine ⟨trivial, (callsIn_wide.2 (places_any (H := Unit) ay capy bY m wE (by omega) hIY hbY hwf)).mono ?_⟩
  rintro e wM ⟨rfl, hownM, hbM⟩
  have hsM : wE.heap.size < wM.heap.size := by obtain ⟨es, ck, h1, _⟩ := hownM; exact (Array.getElem?_eq_some_iff.1 h1).1
  have hbA : Below (w.heap.size + 2) ((w.alloc (.cells #[pv P] 48)).alloc (.cells #[.bool false] 4)) wM := hbE.trans (hbM.mono hsE)
  have hbB : Below wM.heap.size wM ((wM.alloc (.cells #[.map (some wE.heap.size)] 55)).alloc (.cells #[.slice a l.length cap] 25)) := ((Below.refl _ wM).alloc (Nat.le_refl _) _).alloc (by simp) _
  have cM := (Boxed.new wM 55 (.map (some wE.heap.size))).alloc (.cells #[.slice a l.length cap] 25)
  have cS := Boxed.new (wM.alloc (.cells #[.map (some wE.heap.size)] 55)) 25 (.slice a l.length cap)
  simp only [World.size_alloc] at cM cS
  have hownL := ownsMap_below hownM hbB hsM
  have hbL : Below (w.heap.size + 2) ((w.alloc (.cells #[pv P] 48)).alloc (.cells #[.bool false] 4)) ((wM.alloc (.cells #[.map (some wE.heap.size)] 55)).alloc (.cells #[.slice a l.length cap] 25)) := hbA.trans (hbB.mono (by omega))
  have hzL : ((wM.alloc (.cells #[.map (some wE.heap.size)] 55)).alloc (.cells #[.slice a l.length cap] 25)).heap.size = wM.heap.size + 2 := by simp
  gi_wp2_with (refine ⟨trivial, ?_⟩; gi_at_call 45; refine (callsIn_wide.2 (each_any _ _ _ _)).mono ?_; rintro e w' ⟨rfl, rfl⟩)
  generalize (wM.alloc (.cells #[.map (some wE.heap.size)] 55)).alloc (.cells #[.slice a l.length cap] 25) = WL at *
  have cPL : Boxed WL w.heap.size 48 (pv P) := (hbL.block _ (by omega)).trans cP
  have cRL : Boxed WL (w.heap.size + 1) 4 (.bool false) := (hbL.block _ (by omega)).trans cR
  have hPL : Pl WL B P v m := hP0.low2 hbL (by omega) (fun g e => by have := (OwnR.block hp.row e).2; omega)
  have hIL : l = [] ∨ ∃ off, a = some ⟨b, off, none⟩ ∧ EvsAt WL b off l := hI.imp id (fun ⟨off, e, h⟩ => ⟨off, e, (h.below hT0_b (by omega)).below hbL (by omega)⟩)
  have hBWL : Below w.heap.size w WL := hT0_b.trans (hbL.mono (by omega))
  have hTL : Turns (fun k => k = P ∨ v.ownBlock = some k) w WL := hT0.trans ⟨hbL.os, hbL.tape, hbL.output, hbL.size, fun k hk _ => hbL.block k (by rw [hs0] at hk; exact hk)⟩
  clear hP0 hT0 hbB hbM hbE hbA hownM cP cR hbL hIY hy hp
  have HVW : Hid (∀ g, v.ownBlock = some g → g < w.heap.size) := HVW0.out
  have HOKM : Hid (Kept (fun e => e.ok = true) m) := hok
  have HWF : Hid (∀ i, i < m.length → wfI (evAt m i).g) := hwf
  have HOKL : Hid ((evAt l 0).ok = true) := hokl
  have HDM : Hid (∀ i, i < m.length → ∀ j, j < i → (evAt m j).g ≠ (evAt m i).g) := hdm
  have HK : Hid (FirstAt m (evAt l 0).g k) := hk
  have HBL : Hid (Below w.heap.size w WL) := hBWL
  have hmo : Try.prog.follows .mixedOrders = true := by kernel_rfl
  clear hwf hokl hdm hk hml hme hBWL
  refine wpIn_rangeFunc_ownH rfl (by omega) (gf := 55) (lb := #[.pointer (some ⟨wM.heap.size + 1, 0, none⟩)]) rfl trivial (enters_of Try.func55 (by kernel_rfl) rfl)
    (each_stops Fence.wide 4 trivial rfl (by omega) (wM.heap.size + 1) b a cap l (by omega) WL (by omega) cS.cell hIL) Same2.trans (Same2.putObj (by omega) (by omega)) (Below.refl _ _) (fun _ => rfl)
    (fun pre W => pre = [] ∧ Below WL.heap.size WL W)
    (fun c _ W => c = .ret ∧ W.cell? ⟨w.heap.size + 1, 0, none⟩ = some (.bool false) ∧ Turns (fun k => k = w.heap.size + 1) WL W)
    (OwnFrom.and (ownFrom_pure _ _) (ownFrom_below (Nat.le_refl _) (Nat.le_refl _)))
    (fun c s X Y row hs hg hr => ⟨hs.1, cell_kept hs.2.1 hg (fun r e => (hr r e).2), hs.2.2.later ⟨hg.os, hg.tape, hg.output, hg.size, fun k hk hn => hg.block k hk (fun e => hn (hr k e.symm).1)⟩⟩)
    ⟨rfl, Below.refl _ _⟩
    (fun x a' W => ∃ Bx, WL.heap.size ≤ Bx ∧ Bx < W.heap.size ∧ Ev.In W Bx 0 (evAt l x.val) ∧ a' = { tmps := #[pv P, .slice a l.length cap, .pointer (some ⟨w.heap.size, 0, none⟩), undef, .pointer (some ⟨w.heap.size + 1, 0, none⟩), .pointer (some ⟨wM.heap.size, 0, none⟩), undef, .pointer (some ⟨Bx, 0, none⟩), undef, undef, undef, undef, pv P, .int .i64 (m.length : Int), .slice a l.length cap, .int .i64 (l.length : Int), .int .i64 ((m.length : Int) + (l.length : Int)), .bool (decide ((2000 : Int) < (m.length : Int) + (l.length : Int))), pv P, .slice ay m.length capy, .map (some wE.heap.size), .slice a l.length cap, .func (.func 55) #[] #[.pointer (some ⟨wM.heap.size + 1, 0, none⟩)], .int .i64 ((x.val : Nat) : Int), (evAt l x.val).val, undef, undef, undef, undef, undef, undef, undef, undef, undef, undef, undef, undef, undef, undef, undef, undef, undef], defers := [] })
    (fun x a' s A B row hs hg hr => by obtain ⟨Bx, h1, h2, h3, h4⟩ := hs; exact ⟨Bx, h1, Nat.lt_of_lt_of_le h2 hg.size, h3.kept hg (fun r e => (hr r e).2), h4⟩) ?assign ?body ?done ?stop
  case assign =>
    rintro lp pre x W K ⟨hpre, hB⟩ hK
    have hz := hB.size
    gi_wp2
    have hBW : Below W.heap.size W (W.alloc (.cells #[.int .i64 (evAt l x.val).t, .int .i64 (evAt l x.val).s, .int .i64 (evAt l x.val).q, .int .i64 (evAt l x.val).d, .int .i64 (evAt l x.val).k, .int .i64 (evAt l x.val).v, .int .i64 (evAt l x.val).g] 33)) := (Below.refl _ W).alloc (Nat.le_refl _) _
    exact hK _ _ ((KeepsOthers.alloc _ _).from _) (Same2.below hBW (by omega) (by omega)) ⟨hpre, hB.trans (hBW.mono hz)⟩ ⟨W.heap.size, hz, by simp, EvAt.new _ _ _ _ _ _ _ _ _, rfl⟩
  case body =>
    rintro lp pre x a' W hlp _ ⟨hpre, hB⟩ ⟨Bx, h1, h2, h3, rfl⟩ hlt
    have hz := hB.size
    have HB : Hid (Below WL.heap.size WL W) := hB
    obtain ⟨kx, hkx⟩ : ∃ kx, x.val = kx := ⟨_, rfl⟩
    have hkx0 : kx = 0 := by have := x.isLt; have := HL1.out; omega
    subst hkx0
    rw [hkx] at h3
    have f6 := (h3.beyond h2).2.2.2.2.2.2
    have hcM : ∀ p : Beyond W, p.w.cell? ⟨wM.heap.size, 0, none⟩ = some (.map (some wE.heap.size)) := fun p => p.cell (by omega) ((hB.cell (p := ⟨wM.heap.size, 0, none⟩) (by simp; omega)).trans cM.cell)
    have hlk : ∀ p : Beyond W, (Instr.lookup 55 (.map (some wE.heap.size)) (keyV (evAt l 0).g) true).run Try.prog p.w = .ok (.tuple #[.int .i64 (k : Int), .bool true]) p.w := fun p => look_yes (ownsMap_below (ownsMap_below hownL hB (by omega)) p.h (by omega)) HWF.out HDM.out (okB_tag HOKL.out) HK.out
    have hcr : W.cell? ⟨w.heap.size + 1, 0, none⟩ = some (.bool false) := (hB.cell (p := ⟨w.heap.size + 1, 0, none⟩) (by simp; omega)).trans cRL.cell
    have hfr : W.frozen? ⟨w.heap.size + 1, 0, none⟩ = false := (hB.frozen (p := ⟨w.heap.size + 1, 0, none⟩) (by simp; omega)).trans cRL.frozen
    have hne : Nonempty (Beyond W) := ⟨⟨W, Below.refl _ _⟩⟩
    have hwf : ∀ f, Fence.wide.fn f = True := wideFn
    clear h3 hB cM cS hownL cPL cRL hPL hIL hTL
    simp only [hkx]
    gi_wp2
    refine region_round hmo (by kernel_rfl) (by simp) ?_
    repeat (gi_big_quiet_step (first | (gi_at_call 42; exact Beyond.inRound lp (callsIn_wide.2 (tagKey_any _ _)))))
    refine wpQuietIn_nil ?_
    rintro w2 ⟨⟨_, hb2⟩, rfl⟩
    have hc2 := (hb2.cell (p := ⟨w.heap.size + 1, 0, none⟩) (by simp; omega)).trans hcr
    have hf2 := (hb2.frozen (p := ⟨w.heap.size + 1, 0, none⟩) (by simp; omega)).trans hfr
    clear f6 hcM hlk hcr hfr
    gi_wp2
    exact ⟨((keepsOthers_of_below hb2).trans (KeepsOthers.setCell _ _ _)).from _, rfl, World.cell?_setCell_same' _ _ _ (by rw [hc2]; rfl), (((Turns.of_below (S := fun k => k = w.heap.size + 1) HB.out).trans (Turns.of_below hb2)).setCell (p := ⟨w.heap.size + 1, 0, none⟩) rfl _)⟩
  case stop =>
    rintro D c pre W hD _ ⟨rfl, hc, ht⟩ hK
    have hvw : ∀ g, v.ownBlock = some g → g < w.heap.size := HVW.out
    have HPW : Hid (Pl W B P v m) := hPL.turns ht (by omega) (fun g e h => by have := hvw g e; omega)
    have HTW : Hid (Turns (fun k => k = w.heap.size + 1) WL W) := ht
    have hz := ht.size
    clear ht
    gi_wp2
    refine ⟨by simp, .inl ⟨_, _, rfl, run_takeDeferred hK, ?_⟩⟩
    have hc5 := cell_kept hc (grownBy_putObj' _ D (.deferred none)) (fun r e => by cases e; exact ⟨_, hK, rfl⟩)
    have hTD : Turns (fun k => k = D) W (W.putObj D (.deferred none)) := (Turns.refl (fun k => k = D) W).grown (grownBy_putObj' _ D (.deferred none)) (fun k e => by cases e; rfl)
    refine ⟨.bool false, ?_, rfl, HPW.out.turns hTD (by omega) (fun g e h => by have := hvw g e; omega), HBL.out.trans ((HTW.out.to_below (fun k e => by omega) (by omega)).trans (hTD.to_below (fun k e => by omega) (by omega)))⟩
    simp [results, Try.f38, go_sem, hc5]
  case done =>
    rintro D1 ys W hD1 rfl ⟨hpre, _⟩ _
    have h9 := congrArg List.length hpre
    rw [List.length_finRange] at h9
    exact absurd h9 (by have := HL1.out; rw [this]; decide)
end Go.Proofs.Ythklekjglocbgaa

/- The specification's l0push. -/
namespace Go.Proofs.Ythklekjglocbgaa
open Go.RowKit
set_option maxRecDepth 100000 in
set_option maxHeartbeats 8000000 in
theorem sPush_any (x : Value) (l : List Ev) (e : Ev) (w : World) (hl : l.length ≤ 1048576) (hI : Src w x l) :
    Calls Try.prog 35 #[x, .agg #[.int .i64 e.t, .int .i64 e.s, .int .i64 e.q, .int .i64 e.d, .int .i64 e.k, .int .i64 e.v, .int .i64 e.g]] w fun r w' => ∃ y, r = .returned y ∧ OwnR w.heap.size w' y (pushL l e) ∧ Below w.heap.size w w' := by
  obtain ⟨i0, hi, hz0, hz1, hz2⟩ := info_parts info25
  have hB0 : Below w.heap.size w (w.alloc (.cells #[.int .i64 e.t, .int .i64 e.s, .int .i64 e.q, .int .i64 e.d, .int .i64 e.k, .int .i64 e.v, .int .i64 e.g] 33)) := (Below.refl _ w).alloc (Nat.le_refl _) _
  have HI : Hid (Src (w.alloc (.cells #[.int .i64 e.t, .int .i64 e.s, .int .i64 e.q, .int .i64 e.d, .int .i64 e.k, .int .i64 e.v, .int .i64 e.g] 33)) x l) := hI.below hB0
  have HE : Hid (Ev.In (w.alloc (.cells #[.int .i64 e.t, .int .i64 e.s, .int .i64 e.q, .int .i64 e.d, .int .i64 e.k, .int .i64 e.v, .int .i64 e.g] 33)) w.heap.size 0 e) := newE w e
  have hzs : w.heap.size < (w.alloc (.cells #[.int .i64 e.t, .int .i64 e.s, .int .i64 e.q, .int .i64 e.d, .int .i64 e.k, .int .i64 e.v, .int .i64 e.g] 33)).heap.size := by simp
  have HB0 : Hid (Below w.heap.size w (w.alloc (.cells #[.int .i64 e.t, .int .i64 e.s, .int .i64 e.q, .int .i64 e.d, .int .i64 e.k, .int .i64 e.v, .int .i64 e.g] 33))) := hB0
  clear hI hB0
  go_enter Try.func35, Try.ntmps35
  go_upto_region 1 with fail
  generalize w.alloc (.cells #[.int .i64 e.t, .int .i64 e.s, .int .i64 e.q, .int .i64 e.d, .int .i64 e.k, .int .i64 e.v, .int .i64 e.g] 33) = W at *
  generalize hbx : w.heap.size = bx at *
  obtain ⟨f0, f1, f2, f3, f4, f5, f6⟩ := HE.out.lits
  have HOWN : Hid (∀ W' : World, Below W.heap.size W W' → Calls Try.prog 34 #[x] W' fun r w' => ∃ y, r = .returned y ∧ OwnR W.heap.size w' y l ∧ Below W'.heap.size W' w' ∧ Below W.heap.size W w' ∧ Ev.In w' bx 0 e) := fun W' hb => by
    refine (own_row x l W' (by omega) (HI.out.below hb)).mono ?_
    rintro r w' ⟨y, rfl, hy, hb2⟩
    have hb3 : Below W.heap.size W w' := hb.trans (hb2.mono hb.size)
    exact ⟨y, rfl, hy.mono hb.size, hb2, hb3, HE.out.below hb3 hzs⟩
  have hbW : bx ≠ W.heap.size := by omega
  have HF : Hid (∀ (w1 w2 : World) (y v2 : Value) (n : Nat), OwnR W.heap.size w1 y l → Ev.In w1 bx 0 e → Below W.heap.size W w1 → w1.grownBy w2 y.ownBlock → w2.ownsRow W.heap.size 33 7 v2 (l.length + 1) (cellsL l ++ e.cs) → Ev.In w2 bx 0 e ∧ Below W.heap.size W w2 ∧ OwnR W.heap.size w2 v2 (l ++ [e])) := fun w1 w2 y v2 n hy hE hb hg ho => by
    have hlt : bx < w1.heap.size := Nat.lt_of_lt_of_le hzs hb.size
    have hblk : w2.heap[bx]? = w1.heap[bx]? := hg.block bx hlt (fun er => by have := row_ge hy er.symm; omega)
    have hc : ∀ o, w2.cell? ⟨bx, o, none⟩ = w1.cell? ⟨bx, o, none⟩ := fun o => World.cell?_of_block (w := w1) hblk
    refine ⟨⟨(hc _).trans hE.f0, (hc _).trans hE.f1, (hc _).trans hE.f2, (hc _).trans hE.f3, (hc _).trans hE.f4, (hc _).trans hE.f5, (hc _).trans hE.f6⟩, hb.grown hg hb.size (fun k er => row_ge hy er), ?_⟩
    unfold OwnR
    rw [List.length_append, cellsL_append]
    simpa [cellsL] using ho
  go_region_held3 (fun V => V.cell? ⟨bx, 0, none⟩ = some (.int .i64 e.t) ∧ V.cell? ⟨bx, 1, none⟩ = some (.int .i64 e.s) ∧ V.cell? ⟨bx, 2, none⟩ = some (.int .i64 e.q) ∧ V.cell? ⟨bx, 3, none⟩ = some (.int .i64 e.d) ∧ V.cell? ⟨bx, 4, none⟩ = some (.int .i64 e.k) ∧ V.cell? ⟨bx, 5, none⟩ = some (.int .i64 e.v) ∧ V.cell? ⟨bx, 6, none⟩ = some (.int .i64 e.g)) (go_keep)
    (first
      | (go_at_call 34; refine (HOWN.out _ ?_).mono ?_; (first | exact (Below.refl _ W).drew | exact ((Below.refl _ W).alloc (Nat.le_refl _) _).drew | exact (Below.refl _ W).drew.alloc (Nat.le_refl _) _); rintro r w1 ⟨y, rfl, hy, hb1, hbW1, hE1⟩; obtain ⟨y0, y1, y2, y3, y4, y5, y6⟩ := hE1.lits; have hlt1 : bx < w1.heap.size := Nat.lt_of_lt_of_le hzs hbW1.size; have hbw1 : bx ≠ w1.heap.size := Nat.ne_of_lt hlt1; have hWw1 : W.heap.size ≤ w1.heap.size := hbW1.size)
      | (refine step_append_own rfl (.tmp 7) (.tmp 9) 25 rfl W.heap.size 33 i0 _ 7 56 Try.underlying25 hi hz0 hz1 hz2 rfl (by decide) y l.length (cellsL l) rfl (World.ownsRow.alloc hy _) ⟨w1.heap.size, 0, none⟩ 1 1 e.cs rfl rfl (Ev.In.cells (newE w1 e)) (Ev.cs_one e) (by unfold maxLen; omega) (by omega) (by simp; omega) ?_; intro v2 w2 hown2 hgrow2; obtain ⟨g2, cap2, rfl⟩ := ownsRow_succ hown2; have HX1 : Hid (Ev.In w2 bx 0 e ∧ Below W.heap.size W w2 ∧ OwnR W.heap.size w2 (.slice (some ⟨g2, 0, none⟩) (l.length + 1) cap2) (l ++ [e])) := HF.out _ _ _ _ 0 (World.ownsRow.alloc hy _) (hE1.alloc hlt1 _) (hbW1.alloc hbW1.size _) hgrow2 hown2; clear hown2 hgrow2; obtain ⟨x0, x1, x2, x3, x4, x5, x6⟩ := HX1.out.1.lits)
      | (refine step_append_own rfl (.tmp 7) (.tmp 9) 25 rfl W.heap.size 33 i0 _ 7 56 Try.underlying25 hi hz0 hz1 hz2 rfl (by decide) y l.length (cellsL l) rfl hy ⟨W.heap.size, 0, none⟩ 1 1 e.cs rfl rfl (Ev.In.cells ((newED W e).below hb1 (by simp))) (Ev.cs_one e) (by unfold maxLen; omega) (by omega) hbW1.size ?_; intro v2 w2 hown2 hgrow2; obtain ⟨g2, cap2, rfl⟩ := ownsRow_succ hown2; have HX1 : Hid (Ev.In w2 bx 0 e ∧ Below W.heap.size W w2 ∧ OwnR W.heap.size w2 (.slice (some ⟨g2, 0, none⟩) (l.length + 1) cap2) (l ++ [e])) := HF.out _ _ _ _ 0 hy hE1 hbW1 hgrow2 hown2; clear hown2 hgrow2; obtain ⟨x0, x1, x2, x3, x4, x5, x6⟩ := HX1.out.1.lits))
  all_goals
    have HR : Hid (Row w2 W.heap.size g2 cap2 (l ++ [e])) := by
      have h9 := HX1.out.2.2
      unfold Hid Row
      unfold OwnR at h9
      rw [List.length_append] at h9 ⊢
      exact h9
    have HB2 : Hid (Below W.heap.size W w2) := HX1.out.2.1
    clear HX1 x0 x1 x2 x3 x4 x5 x6
    have HU : Hid (Calls Try.prog 47 #[.slice (some ⟨g2, 0, none⟩) (l.length + 1) cap2, .int .i64 (l.length : Int)] w2 fun r w' => (∃ v, r = .returned v) ∧ Row w' W.heap.size g2 cap2 (pushL l e) ∧ Turns (fun b => b = g2) w2 w') := by
      have h9 := sUp_any W.heap.size g2 cap2 (l ++ [e]) l.length w2 (by simp; omega) HR.out (by simp)
      rw [List.length_append] at h9
      exact h9
    go_wp2_with fail
    refine HU.out.mono ?_
    rintro r w3 ⟨⟨v3, rfl⟩, hr3, ht3⟩
    have HR3 : Hid (Row w3 W.heap.size g2 cap2 (pushL l e)) := hr3
    have HB3 : Hid (Below W.heap.size W w3) := HB2.out.trans (ht3.to_below (fun k er => by subst er; exact hr3.lt.1) HB2.out.size)
    clear hr3 ht3 HU
    go_wp2
    go_ret
    refine ⟨_, rfl, ?_, ?_⟩
    · have h8 := HR3.out
      unfold Row at h8
      have h9 : OwnR W.heap.size w3 (.slice (some ⟨g2, 0, none⟩) (l.length + 1) cap2) (pushL l e) := by
        unfold OwnR
        rw [pushL_length] at h8 ⊢
        exact h8
      rw [hbx]
      exact h9.mono (Nat.le_of_lt hzs)
    · rw [hbx]
      exact HB0.out.trans (HB3.out.mono (Nat.le_of_lt hzs))
end Go.Proofs.Ythklekjglocbgaa

/- The specification's HeapPush. -/
namespace Go.Proofs.Ythklekjglocbgaa
open Go.RowKit
set_option maxRecDepth 100000 in
set_option maxHeartbeats 4000000 in
theorem sPush_bad (g : Nat) (l : List Ev) (e : Ev) (w : World) (hl : l.length ≤ 1048576) (hR : RowTo w g l.length l l.length) (hg : ¬ GoodH l) :
    Calls Try.prog 14 #[.slice (some ⟨g, 0, none⟩) l.length l.length, .agg #[.int .i64 e.t, .int .i64 e.s, .int .i64 e.q, .int .i64 e.d, .int .i64 e.k, .int .i64 e.v, .int .i64 e.g]] w fun r w' => Answers w.heap.size [] false r w' ∧ Below w.heap.size w w' := by
  have hgw : g < w.heap.size := hR.1
  have hB0 : Below w.heap.size w (w.alloc (.cells #[.int .i64 e.t, .int .i64 e.s, .int .i64 e.q, .int .i64 e.d, .int .i64 e.k, .int .i64 e.v, .int .i64 e.g] 33)) := (Below.refl _ w).alloc (Nat.le_refl _) _
  have HR : Hid (RowTo (w.alloc (.cells #[.int .i64 e.t, .int .i64 e.s, .int .i64 e.q, .int .i64 e.d, .int .i64 e.k, .int .i64 e.v, .int .i64 e.g] 33)) g l.length l l.length) := hR.below hB0 hgw
  have HB0 : Hid (Below w.heap.size w (w.alloc (.cells #[.int .i64 e.t, .int .i64 e.s, .int .i64 e.q, .int .i64 e.d, .int .i64 e.k, .int .i64 e.v, .int .i64 e.g] 33))) := hB0
  have HE0 : Hid (Ev.In (w.alloc (.cells #[.int .i64 e.t, .int .i64 e.s, .int .i64 e.q, .int .i64 e.d, .int .i64 e.k, .int .i64 e.v, .int .i64 e.g] 33)) w.heap.size 0 e) := newE w e
  have hs0 : w.heap.size < (w.alloc (.cells #[.int .i64 e.t, .int .i64 e.s, .int .i64 e.q, .int .i64 e.d, .int .i64 e.k, .int .i64 e.v, .int .i64 e.g] 33)).heap.size := by simp
  clear hR hB0
  have HG : Hid (¬ GoodH l) := hg
  clear hg
  go_enter Try.func14, Try.ntmps14
  go_wp2_with fail
  generalize w.alloc (.cells #[.int .i64 e.t, .int .i64 e.s, .int .i64 e.q, .int .i64 e.d, .int .i64 e.k, .int .i64 e.v, .int .i64 e.g] 33) = W at *
  refine (sHeap_any g 0 _ l _ hl (Nat.le_refl _) (by unfold maxLen; omega) HR.out.evs).mono ?_
  rintro r w1 ⟨⟨bb, rfl, hs⟩, hb1⟩
  have hbb : bb = false := by cases bb with | false => rfl | true => exact (HG.out (hs.1 rfl)).elim
  subst hbb
  clear hs
  have HB1 : Hid (Below w.heap.size w w1) := HB0.out.trans (hb1.mono (Nat.le_of_lt hs0))
  have HR1 : Hid (RowTo w1 g l.length l l.length) := HR.out.below hb1 HR.out.1
  have HE1 : Hid (Ev.In w1 w.heap.size 0 e) := HE0.out.below hb1 hs0
  have hs1 : w.heap.size < w1.heap.size := Nat.lt_of_lt_of_le hs0 hb1.size
  clear hb1 HR HE0
  go_wp2
  go_ret2
  exact ⟨⟨_, rfl, OwnEvs.nil _ _⟩, HB1.out⟩
set_option maxRecDepth 100000 in
set_option maxHeartbeats 4000000 in
theorem sPush_bade (g : Nat) (l : List Ev) (e : Ev) (w : World) (hl : l.length ≤ 1048576) (hR : RowTo w g l.length l l.length) (hg : GoodH l) (he : e.ok = false) :
    Calls Try.prog 14 #[.slice (some ⟨g, 0, none⟩) l.length l.length, .agg #[.int .i64 e.t, .int .i64 e.s, .int .i64 e.q, .int .i64 e.d, .int .i64 e.k, .int .i64 e.v, .int .i64 e.g]] w fun r w' => Answers w.heap.size [] false r w' ∧ Below w.heap.size w w' := by
  have hgw : g < w.heap.size := hR.1
  have hB0 : Below w.heap.size w (w.alloc (.cells #[.int .i64 e.t, .int .i64 e.s, .int .i64 e.q, .int .i64 e.d, .int .i64 e.k, .int .i64 e.v, .int .i64 e.g] 33)) := (Below.refl _ w).alloc (Nat.le_refl _) _
  have HR : Hid (RowTo (w.alloc (.cells #[.int .i64 e.t, .int .i64 e.s, .int .i64 e.q, .int .i64 e.d, .int .i64 e.k, .int .i64 e.v, .int .i64 e.g] 33)) g l.length l l.length) := hR.below hB0 hgw
  have HB0 : Hid (Below w.heap.size w (w.alloc (.cells #[.int .i64 e.t, .int .i64 e.s, .int .i64 e.q, .int .i64 e.d, .int .i64 e.k, .int .i64 e.v, .int .i64 e.g] 33))) := hB0
  have HE0 : Hid (Ev.In (w.alloc (.cells #[.int .i64 e.t, .int .i64 e.s, .int .i64 e.q, .int .i64 e.d, .int .i64 e.k, .int .i64 e.v, .int .i64 e.g] 33)) w.heap.size 0 e) := newE w e
  have hs0 : w.heap.size < (w.alloc (.cells #[.int .i64 e.t, .int .i64 e.s, .int .i64 e.q, .int .i64 e.d, .int .i64 e.k, .int .i64 e.v, .int .i64 e.g] 33)).heap.size := by simp
  clear hR hB0
  have HG : Hid (GoodH l) := hg
  have HEO : Hid (e.ok = false) := he
  clear hg he
  go_enter Try.func14, Try.ntmps14
  go_wp2_with fail
  generalize w.alloc (.cells #[.int .i64 e.t, .int .i64 e.s, .int .i64 e.q, .int .i64 e.d, .int .i64 e.k, .int .i64 e.v, .int .i64 e.g] 33) = W at *
  refine (sHeap_any g 0 _ l _ hl (Nat.le_refl _) (by unfold maxLen; omega) HR.out.evs).mono ?_
  rintro r w1 ⟨⟨bb, rfl, hs⟩, hb1⟩
  have hbb : bb = true := hs.2 HG.out
  subst hbb
  clear hs
  have HB1 : Hid (Below w.heap.size w w1) := HB0.out.trans (hb1.mono (Nat.le_of_lt hs0))
  have HR1 : Hid (RowTo w1 g l.length l l.length) := HR.out.below hb1 HR.out.1
  have HE1 : Hid (Ev.In w1 w.heap.size 0 e) := HE0.out.below hb1 hs0
  have hs1 : w.heap.size < w1.heap.size := Nat.lt_of_lt_of_le hs0 hb1.size
  clear hb1 HR HE0
  obtain ⟨f0, f1, f2, f3, f4, f5, f6⟩ := HE1.out.lits
  go_wp2_with fail
  refine (sOk_ev e false HEO.out _).mono ?_
  rintro r w2 ⟨rfl, hb2⟩
  clear f0 f1 f2 f3 f4 f5 f6
  have HB2 : Hid (Below w.heap.size w w2) := HB1.out.trans (hb2.mono HB1.out.size)
  have HR2 : Hid (RowTo w2 g l.length l l.length) := HR1.out.below hb2 HR1.out.1
  have HE2 : Hid (Ev.In w2 w.heap.size 0 e) := HE1.out.below hb2 hs1
  have hs2 : w.heap.size < w2.heap.size := Nat.lt_of_lt_of_le hs1 hb2.size
  clear hb2 HR1 HE1 HB1
  go_wp2
  go_ret2
  exact ⟨⟨_, rfl, OwnEvs.nil _ _⟩, HB2.out⟩
set_option maxRecDepth 100000 in
set_option maxHeartbeats 4000000 in
theorem sPush_tag (g : Nat) (l : List Ev) (e : Ev) (w : World) (hl : l.length ≤ 1048576) (hR : RowTo w g l.length l l.length) (hg : GoodH l) (he : e.ok = true) (k : Nat) (hk : FirstAt l e.g k) :
    Calls Try.prog 14 #[.slice (some ⟨g, 0, none⟩) l.length l.length, .agg #[.int .i64 e.t, .int .i64 e.s, .int .i64 e.q, .int .i64 e.d, .int .i64 e.k, .int .i64 e.v, .int .i64 e.g]] w fun r w' => Answers w.heap.size l false r w' ∧ Below w.heap.size w w' := by
  have hgw : g < w.heap.size := hR.1
  have hB0 : Below w.heap.size w (w.alloc (.cells #[.int .i64 e.t, .int .i64 e.s, .int .i64 e.q, .int .i64 e.d, .int .i64 e.k, .int .i64 e.v, .int .i64 e.g] 33)) := (Below.refl _ w).alloc (Nat.le_refl _) _
  have HR : Hid (RowTo (w.alloc (.cells #[.int .i64 e.t, .int .i64 e.s, .int .i64 e.q, .int .i64 e.d, .int .i64 e.k, .int .i64 e.v, .int .i64 e.g] 33)) g l.length l l.length) := hR.below hB0 hgw
  have HB0 : Hid (Below w.heap.size w (w.alloc (.cells #[.int .i64 e.t, .int .i64 e.s, .int .i64 e.q, .int .i64 e.d, .int .i64 e.k, .int .i64 e.v, .int .i64 e.g] 33))) := hB0
  have HE0 : Hid (Ev.In (w.alloc (.cells #[.int .i64 e.t, .int .i64 e.s, .int .i64 e.q, .int .i64 e.d, .int .i64 e.k, .int .i64 e.v, .int .i64 e.g] 33)) w.heap.size 0 e) := newE w e
  have hs0 : w.heap.size < (w.alloc (.cells #[.int .i64 e.t, .int .i64 e.s, .int .i64 e.q, .int .i64 e.d, .int .i64 e.k, .int .i64 e.v, .int .i64 e.g] 33)).heap.size := by simp
  clear hR hB0
  have HG : Hid (GoodH l) := hg
  have HEO : Hid (e.ok = true) := he
  have HK : Hid (FirstAt l e.g k) := hk
  have hk1 : (0 : Int) ≤ (k : Int) := by omega
  have hk2 : decide ((0 : Int) ≤ (k : Int)) = true := by simp
  clear hg he hk
  go_enter Try.func14, Try.ntmps14
  go_wp2_with fail
  generalize w.alloc (.cells #[.int .i64 e.t, .int .i64 e.s, .int .i64 e.q, .int .i64 e.d, .int .i64 e.k, .int .i64 e.v, .int .i64 e.g] 33) = W at *
  refine (sHeap_any g 0 _ l _ hl (Nat.le_refl _) (by unfold maxLen; omega) HR.out.evs).mono ?_
  rintro r w1 ⟨⟨bb, rfl, hs⟩, hb1⟩
  have hbb : bb = true := hs.2 HG.out
  subst hbb
  clear hs
  have HB1 : Hid (Below w.heap.size w w1) := HB0.out.trans (hb1.mono (Nat.le_of_lt hs0))
  have HR1 : Hid (RowTo w1 g l.length l l.length) := HR.out.below hb1 HR.out.1
  have HE1 : Hid (Ev.In w1 w.heap.size 0 e) := HE0.out.below hb1 hs0
  have hs1 : w.heap.size < w1.heap.size := Nat.lt_of_lt_of_le hs0 hb1.size
  clear hb1 HR HE0
  obtain ⟨f0, f1, f2, f3, f4, f5, f6⟩ := HE1.out.lits
  go_wp2_with fail
  refine (sOk_ev e true HEO.out _).mono ?_
  rintro r w2 ⟨rfl, hb2⟩
  clear f0 f1 f2 f3 f4 f5 f6
  have HB2 : Hid (Below w.heap.size w w2) := HB1.out.trans (hb2.mono HB1.out.size)
  have HR2 : Hid (RowTo w2 g l.length l l.length) := HR1.out.below hb2 HR1.out.1
  have HE2 : Hid (Ev.In w2 w.heap.size 0 e) := HE1.out.below hb2 hs1
  have hs2 : w.heap.size < w2.heap.size := Nat.lt_of_lt_of_le hs1 hb2.size
  clear hb2 HR1 HE1 HB1
  obtain ⟨f0, f1, f2, f3, f4, f5, f6⟩ := HE2.out.lits
  go_wp2_with fail
  refine (find_some g 0 _ l e.g k _ hl HR2.out.evs HK.out).mono ?_
  rintro r w3 ⟨rfl, hw⟩
  have hw' := hw.symm
  clear hw
  subst hw'
  go_wp2_with fail
  refine (own_row _ l _ (by omega) HR2.out.src).mono ?_
  rintro r w4 ⟨y, rfl, hy, hb4⟩
  have HY : Hid (OwnR w2.heap.size w4 y l) := hy
  have HB4 : Hid (Below w.heap.size w w4) := HB2.out.trans (hb4.mono HB2.out.size)
  clear hy hb4
  go_wp2
  go_ret2
  exact ⟨ans_of HB2.out HB2.out.size HY.out, HB4.out⟩
set_option maxRecDepth 100000 in
set_option maxHeartbeats 4000000 in
theorem sPush_full (g : Nat) (l : List Ev) (e : Ev) (w : World) (hl : l.length ≤ 1048576) (hR : RowTo w g l.length l l.length) (hg : GoodH l) (he : e.ok = true) (hk : NoTag l e.g) (hf : 2000 ≤ l.length) :
    Calls Try.prog 14 #[.slice (some ⟨g, 0, none⟩) l.length l.length, .agg #[.int .i64 e.t, .int .i64 e.s, .int .i64 e.q, .int .i64 e.d, .int .i64 e.k, .int .i64 e.v, .int .i64 e.g]] w fun r w' => Answers w.heap.size l false r w' ∧ Below w.heap.size w w' := by
  have hgw : g < w.heap.size := hR.1
  have hB0 : Below w.heap.size w (w.alloc (.cells #[.int .i64 e.t, .int .i64 e.s, .int .i64 e.q, .int .i64 e.d, .int .i64 e.k, .int .i64 e.v, .int .i64 e.g] 33)) := (Below.refl _ w).alloc (Nat.le_refl _) _
  have HR : Hid (RowTo (w.alloc (.cells #[.int .i64 e.t, .int .i64 e.s, .int .i64 e.q, .int .i64 e.d, .int .i64 e.k, .int .i64 e.v, .int .i64 e.g] 33)) g l.length l l.length) := hR.below hB0 hgw
  have HB0 : Hid (Below w.heap.size w (w.alloc (.cells #[.int .i64 e.t, .int .i64 e.s, .int .i64 e.q, .int .i64 e.d, .int .i64 e.k, .int .i64 e.v, .int .i64 e.g] 33))) := hB0
  have HE0 : Hid (Ev.In (w.alloc (.cells #[.int .i64 e.t, .int .i64 e.s, .int .i64 e.q, .int .i64 e.d, .int .i64 e.k, .int .i64 e.v, .int .i64 e.g] 33)) w.heap.size 0 e) := newE w e
  have hs0 : w.heap.size < (w.alloc (.cells #[.int .i64 e.t, .int .i64 e.s, .int .i64 e.q, .int .i64 e.d, .int .i64 e.k, .int .i64 e.v, .int .i64 e.g] 33)).heap.size := by simp
  clear hR hB0
  have HG : Hid (GoodH l) := hg
  have HEO : Hid (e.ok = true) := he
  have HK : Hid (NoTag l e.g) := hk
  have hf1 : (2000 : Int) ≤ (l.length : Int) := by omega
  clear hg he hk
  go_enter Try.func14, Try.ntmps14
  go_wp2_with fail
  generalize w.alloc (.cells #[.int .i64 e.t, .int .i64 e.s, .int .i64 e.q, .int .i64 e.d, .int .i64 e.k, .int .i64 e.v, .int .i64 e.g] 33) = W at *
  refine (sHeap_any g 0 _ l _ hl (Nat.le_refl _) (by unfold maxLen; omega) HR.out.evs).mono ?_
  rintro r w1 ⟨⟨bb, rfl, hs⟩, hb1⟩
  have hbb : bb = true := hs.2 HG.out
  subst hbb
  clear hs
  have HB1 : Hid (Below w.heap.size w w1) := HB0.out.trans (hb1.mono (Nat.le_of_lt hs0))
  have HR1 : Hid (RowTo w1 g l.length l l.length) := HR.out.below hb1 HR.out.1
  have HE1 : Hid (Ev.In w1 w.heap.size 0 e) := HE0.out.below hb1 hs0
  have hs1 : w.heap.size < w1.heap.size := Nat.lt_of_lt_of_le hs0 hb1.size
  clear hb1 HR HE0
  obtain ⟨f0, f1, f2, f3, f4, f5, f6⟩ := HE1.out.lits
  go_wp2_with fail
  refine (sOk_ev e true HEO.out _).mono ?_
  rintro r w2 ⟨rfl, hb2⟩
  clear f0 f1 f2 f3 f4 f5 f6
  have HB2 : Hid (Below w.heap.size w w2) := HB1.out.trans (hb2.mono HB1.out.size)
  have HR2 : Hid (RowTo w2 g l.length l l.length) := HR1.out.below hb2 HR1.out.1
  have HE2 : Hid (Ev.In w2 w.heap.size 0 e) := HE1.out.below hb2 hs1
  have hs2 : w.heap.size < w2.heap.size := Nat.lt_of_lt_of_le hs1 hb2.size
  clear hb2 HR1 HE1 HB1
  obtain ⟨f0, f1, f2, f3, f4, f5, f6⟩ := HE2.out.lits
  go_wp2_with fail
  refine (find_none g 0 _ l e.g _ hl HR2.out.evs HK.out).mono ?_
  rintro r w3 ⟨rfl, hw⟩
  have hw' := hw.symm
  clear hw
  subst hw'
  go_wp2_with fail
  refine (own_row _ l _ (by omega) HR2.out.src).mono ?_
  rintro r w4 ⟨y, rfl, hy, hb4⟩
  have HY : Hid (OwnR w2.heap.size w4 y l) := hy
  have HB4 : Hid (Below w.heap.size w w4) := HB2.out.trans (hb4.mono HB2.out.size)
  clear hy hb4
  go_wp2
  go_ret2
  exact ⟨ans_of HB2.out HB2.out.size HY.out, HB4.out⟩
set_option maxRecDepth 100000 in
set_option maxHeartbeats 4000000 in
theorem sPush_good (g : Nat) (l : List Ev) (e : Ev) (w : World) (hl : l.length ≤ 1048576) (hR : RowTo w g l.length l l.length) (hg : GoodH l) (he : e.ok = true) (hk : NoTag l e.g) (hf : l.length < 2000) :
    Calls Try.prog 14 #[.slice (some ⟨g, 0, none⟩) l.length l.length, .agg #[.int .i64 e.t, .int .i64 e.s, .int .i64 e.q, .int .i64 e.d, .int .i64 e.k, .int .i64 e.v, .int .i64 e.g]] w fun r w' => Answers w.heap.size (pushL l e) true r w' ∧ Below w.heap.size w w' := by
  have hgw : g < w.heap.size := hR.1
  have hB0 : Below w.heap.size w (w.alloc (.cells #[.int .i64 e.t, .int .i64 e.s, .int .i64 e.q, .int .i64 e.d, .int .i64 e.k, .int .i64 e.v, .int .i64 e.g] 33)) := (Below.refl _ w).alloc (Nat.le_refl _) _
  have HR : Hid (RowTo (w.alloc (.cells #[.int .i64 e.t, .int .i64 e.s, .int .i64 e.q, .int .i64 e.d, .int .i64 e.k, .int .i64 e.v, .int .i64 e.g] 33)) g l.length l l.length) := hR.below hB0 hgw
  have HB0 : Hid (Below w.heap.size w (w.alloc (.cells #[.int .i64 e.t, .int .i64 e.s, .int .i64 e.q, .int .i64 e.d, .int .i64 e.k, .int .i64 e.v, .int .i64 e.g] 33))) := hB0
  have HE0 : Hid (Ev.In (w.alloc (.cells #[.int .i64 e.t, .int .i64 e.s, .int .i64 e.q, .int .i64 e.d, .int .i64 e.k, .int .i64 e.v, .int .i64 e.g] 33)) w.heap.size 0 e) := newE w e
  have hs0 : w.heap.size < (w.alloc (.cells #[.int .i64 e.t, .int .i64 e.s, .int .i64 e.q, .int .i64 e.d, .int .i64 e.k, .int .i64 e.v, .int .i64 e.g] 33)).heap.size := by simp
  clear hR hB0
  have HG : Hid (GoodH l) := hg
  have HEO : Hid (e.ok = true) := he
  have HK : Hid (NoTag l e.g) := hk
  have hf1 : ¬ ((2000 : Int) ≤ (l.length : Int)) := by omega
  have hf2 : ¬ (2000 ≤ l.length) := by omega
  clear hg he hk
  go_enter Try.func14, Try.ntmps14
  go_wp2_with fail
  generalize w.alloc (.cells #[.int .i64 e.t, .int .i64 e.s, .int .i64 e.q, .int .i64 e.d, .int .i64 e.k, .int .i64 e.v, .int .i64 e.g] 33) = W at *
  refine (sHeap_any g 0 _ l _ hl (Nat.le_refl _) (by unfold maxLen; omega) HR.out.evs).mono ?_
  rintro r w1 ⟨⟨bb, rfl, hs⟩, hb1⟩
  have hbb : bb = true := hs.2 HG.out
  subst hbb
  clear hs
  have HB1 : Hid (Below w.heap.size w w1) := HB0.out.trans (hb1.mono (Nat.le_of_lt hs0))
  have HR1 : Hid (RowTo w1 g l.length l l.length) := HR.out.below hb1 HR.out.1
  have HE1 : Hid (Ev.In w1 w.heap.size 0 e) := HE0.out.below hb1 hs0
  have hs1 : w.heap.size < w1.heap.size := Nat.lt_of_lt_of_le hs0 hb1.size
  clear hb1 HR HE0
  obtain ⟨f0, f1, f2, f3, f4, f5, f6⟩ := HE1.out.lits
  go_wp2_with fail
  refine (sOk_ev e true HEO.out _).mono ?_
  rintro r w2 ⟨rfl, hb2⟩
  clear f0 f1 f2 f3 f4 f5 f6
  have HB2 : Hid (Below w.heap.size w w2) := HB1.out.trans (hb2.mono HB1.out.size)
  have HR2 : Hid (RowTo w2 g l.length l l.length) := HR1.out.below hb2 HR1.out.1
  have HE2 : Hid (Ev.In w2 w.heap.size 0 e) := HE1.out.below hb2 hs1
  have hs2 : w.heap.size < w2.heap.size := Nat.lt_of_lt_of_le hs1 hb2.size
  clear hb2 HR1 HE1 HB1
  obtain ⟨f0, f1, f2, f3, f4, f5, f6⟩ := HE2.out.lits
  go_wp2_with fail
  refine (find_none g 0 _ l e.g _ hl HR2.out.evs HK.out).mono ?_
  rintro r w3 ⟨rfl, hw⟩
  have hw' := hw.symm
  clear hw
  subst hw'
  go_wp2_with fail
  refine (sPush_any _ l e _ hl HR2.out.src).mono ?_
  rintro r w4 ⟨y, rfl, hy, hb4⟩
  have HY : Hid (OwnR w2.heap.size w4 y (pushL l e)) := hy
  have HB4 : Hid (Below w.heap.size w w4) := HB2.out.trans (hb4.mono HB2.out.size)
  clear hy hb4
  go_wp2
  go_ret2
  exact ⟨ans_of HB2.out HB2.out.size HY.out, HB4.out⟩
end Go.Proofs.Ythklekjglocbgaa

/- The program's HeapPush; both give the same. -/
namespace Go.Proofs.Ythklekjglocbgaa
open Go.RowKit
set_option maxRecDepth 100000 in
set_option maxHeartbeats 4000000 in
theorem iPush_bad (g : Nat) (l : List Ev) (e : Ev) (w : World) (hl : l.length ≤ 1048576) (hR : RowTo w g l.length l l.length) (hg : ¬ GoodH l) :
    Calls Try.prog 16 #[.slice (some ⟨g, 0, none⟩) l.length l.length, .agg #[.int .i64 e.t, .int .i64 e.s, .int .i64 e.q, .int .i64 e.d, .int .i64 e.k, .int .i64 e.v, .int .i64 e.g]] w fun r w' => Answers w.heap.size [] false r w' ∧ Below w.heap.size w w' := by
  have hgw : g < w.heap.size := hR.1
  have hB0 : Below w.heap.size w (w.alloc (.cells #[.int .i64 e.t, .int .i64 e.s, .int .i64 e.q, .int .i64 e.d, .int .i64 e.k, .int .i64 e.v, .int .i64 e.g] 33)) := (Below.refl _ w).alloc (Nat.le_refl _) _
  have HR : Hid (RowTo (w.alloc (.cells #[.int .i64 e.t, .int .i64 e.s, .int .i64 e.q, .int .i64 e.d, .int .i64 e.k, .int .i64 e.v, .int .i64 e.g] 33)) g l.length l l.length) := hR.below hB0 hgw
  have HB0 : Hid (Below w.heap.size w (w.alloc (.cells #[.int .i64 e.t, .int .i64 e.s, .int .i64 e.q, .int .i64 e.d, .int .i64 e.k, .int .i64 e.v, .int .i64 e.g] 33))) := hB0
  have HE0 : Hid (Ev.In (w.alloc (.cells #[.int .i64 e.t, .int .i64 e.s, .int .i64 e.q, .int .i64 e.d, .int .i64 e.k, .int .i64 e.v, .int .i64 e.g] 33)) w.heap.size 0 e) := newE w e
  have hs0 : w.heap.size < (w.alloc (.cells #[.int .i64 e.t, .int .i64 e.s, .int .i64 e.q, .int .i64 e.d, .int .i64 e.k, .int .i64 e.v, .int .i64 e.g] 33)).heap.size := by simp
  clear hR hB0
  have HG : Hid (¬ GoodH l) := hg
  clear hg
  go_enter Try.func16, Try.ntmps16
  go_wp2_with fail
  generalize w.alloc (.cells #[.int .i64 e.t, .int .i64 e.s, .int .i64 e.q, .int .i64 e.d, .int .i64 e.k, .int .i64 e.v, .int .i64 e.g] 33) = W at *
  refine (iHeap_any g 0 _ l _ hl HR.out.evs).mono ?_
  rintro r w1 ⟨⟨bb, rfl, hs⟩, hb1⟩
  have hbb : bb = false := by cases bb with | false => rfl | true => exact (HG.out (hs.1 rfl)).elim
  subst hbb
  clear hs
  have HB1 : Hid (Below w.heap.size w w1) := HB0.out.trans (hb1.mono (Nat.le_of_lt hs0))
  have HR1 : Hid (RowTo w1 g l.length l l.length) := HR.out.below hb1 HR.out.1
  have HE1 : Hid (Ev.In w1 w.heap.size 0 e) := HE0.out.below hb1 hs0
  have hs1 : w.heap.size < w1.heap.size := Nat.lt_of_lt_of_le hs0 hb1.size
  clear hb1 HR HE0
  go_wp2
  go_ret2
  exact ⟨⟨_, rfl, OwnEvs.nil _ _⟩, HB1.out⟩
set_option maxRecDepth 100000 in
set_option maxHeartbeats 4000000 in
theorem iPush_bade (g : Nat) (l : List Ev) (e : Ev) (w : World) (hl : l.length ≤ 1048576) (hR : RowTo w g l.length l l.length) (hg : GoodH l) (he : e.ok = false) :
    Calls Try.prog 16 #[.slice (some ⟨g, 0, none⟩) l.length l.length, .agg #[.int .i64 e.t, .int .i64 e.s, .int .i64 e.q, .int .i64 e.d, .int .i64 e.k, .int .i64 e.v, .int .i64 e.g]] w fun r w' => Answers w.heap.size [] false r w' ∧ Below w.heap.size w w' := by
  have hgw : g < w.heap.size := hR.1
  have hB0 : Below w.heap.size w (w.alloc (.cells #[.int .i64 e.t, .int .i64 e.s, .int .i64 e.q, .int .i64 e.d, .int .i64 e.k, .int .i64 e.v, .int .i64 e.g] 33)) := (Below.refl _ w).alloc (Nat.le_refl _) _
  have HR : Hid (RowTo (w.alloc (.cells #[.int .i64 e.t, .int .i64 e.s, .int .i64 e.q, .int .i64 e.d, .int .i64 e.k, .int .i64 e.v, .int .i64 e.g] 33)) g l.length l l.length) := hR.below hB0 hgw
  have HB0 : Hid (Below w.heap.size w (w.alloc (.cells #[.int .i64 e.t, .int .i64 e.s, .int .i64 e.q, .int .i64 e.d, .int .i64 e.k, .int .i64 e.v, .int .i64 e.g] 33))) := hB0
  have HE0 : Hid (Ev.In (w.alloc (.cells #[.int .i64 e.t, .int .i64 e.s, .int .i64 e.q, .int .i64 e.d, .int .i64 e.k, .int .i64 e.v, .int .i64 e.g] 33)) w.heap.size 0 e) := newE w e
  have hs0 : w.heap.size < (w.alloc (.cells #[.int .i64 e.t, .int .i64 e.s, .int .i64 e.q, .int .i64 e.d, .int .i64 e.k, .int .i64 e.v, .int .i64 e.g] 33)).heap.size := by simp
  clear hR hB0
  have HG : Hid (GoodH l) := hg
  have HEO : Hid (e.ok = false) := he
  clear hg he
  go_enter Try.func16, Try.ntmps16
  go_wp2_with fail
  generalize w.alloc (.cells #[.int .i64 e.t, .int .i64 e.s, .int .i64 e.q, .int .i64 e.d, .int .i64 e.k, .int .i64 e.v, .int .i64 e.g] 33) = W at *
  refine (iHeap_any g 0 _ l _ hl HR.out.evs).mono ?_
  rintro r w1 ⟨⟨bb, rfl, hs⟩, hb1⟩
  have hbb : bb = true := hs.2 HG.out
  subst hbb
  clear hs
  have HB1 : Hid (Below w.heap.size w w1) := HB0.out.trans (hb1.mono (Nat.le_of_lt hs0))
  have HR1 : Hid (RowTo w1 g l.length l l.length) := HR.out.below hb1 HR.out.1
  have HE1 : Hid (Ev.In w1 w.heap.size 0 e) := HE0.out.below hb1 hs0
  have hs1 : w.heap.size < w1.heap.size := Nat.lt_of_lt_of_le hs0 hb1.size
  clear hb1 HR HE0
  obtain ⟨f0, f1, f2, f3, f4, f5, f6⟩ := HE1.out.lits
  go_wp2_with fail
  refine (iOk_ev e false HEO.out _).mono ?_
  rintro r w2 ⟨rfl, hb2⟩
  clear f0 f1 f2 f3 f4 f5 f6
  have HB2 : Hid (Below w.heap.size w w2) := HB1.out.trans (hb2.mono HB1.out.size)
  have HR2 : Hid (RowTo w2 g l.length l l.length) := HR1.out.below hb2 HR1.out.1
  have HE2 : Hid (Ev.In w2 w.heap.size 0 e) := HE1.out.below hb2 hs1
  have hs2 : w.heap.size < w2.heap.size := Nat.lt_of_lt_of_le hs1 hb2.size
  clear hb2 HR1 HE1 HB1
  go_wp2
  go_ret2
  exact ⟨⟨_, rfl, OwnEvs.nil _ _⟩, HB2.out⟩
set_option maxRecDepth 100000 in
set_option maxHeartbeats 4000000 in
theorem iPush_full (g : Nat) (l : List Ev) (e : Ev) (w : World) (hl : l.length ≤ 1048576) (hR : RowTo w g l.length l l.length) (hg : GoodH l) (he : e.ok = true) (hf : 2000 ≤ l.length) :
    Calls Try.prog 16 #[.slice (some ⟨g, 0, none⟩) l.length l.length, .agg #[.int .i64 e.t, .int .i64 e.s, .int .i64 e.q, .int .i64 e.d, .int .i64 e.k, .int .i64 e.v, .int .i64 e.g]] w fun r w' => Answers w.heap.size l false r w' ∧ Below w.heap.size w w' := by
  have hgw : g < w.heap.size := hR.1
  have hB0 : Below w.heap.size w (w.alloc (.cells #[.int .i64 e.t, .int .i64 e.s, .int .i64 e.q, .int .i64 e.d, .int .i64 e.k, .int .i64 e.v, .int .i64 e.g] 33)) := (Below.refl _ w).alloc (Nat.le_refl _) _
  have HR : Hid (RowTo (w.alloc (.cells #[.int .i64 e.t, .int .i64 e.s, .int .i64 e.q, .int .i64 e.d, .int .i64 e.k, .int .i64 e.v, .int .i64 e.g] 33)) g l.length l l.length) := hR.below hB0 hgw
  have HB0 : Hid (Below w.heap.size w (w.alloc (.cells #[.int .i64 e.t, .int .i64 e.s, .int .i64 e.q, .int .i64 e.d, .int .i64 e.k, .int .i64 e.v, .int .i64 e.g] 33))) := hB0
  have HE0 : Hid (Ev.In (w.alloc (.cells #[.int .i64 e.t, .int .i64 e.s, .int .i64 e.q, .int .i64 e.d, .int .i64 e.k, .int .i64 e.v, .int .i64 e.g] 33)) w.heap.size 0 e) := newE w e
  have hs0 : w.heap.size < (w.alloc (.cells #[.int .i64 e.t, .int .i64 e.s, .int .i64 e.q, .int .i64 e.d, .int .i64 e.k, .int .i64 e.v, .int .i64 e.g] 33)).heap.size := by simp
  clear hR hB0
  have HG : Hid (GoodH l) := hg
  have HEO : Hid (e.ok = true) := he
  have hf1 : (2000 : Int) ≤ (l.length : Int) := by omega
  clear hg he
  go_enter Try.func16, Try.ntmps16
  go_wp2_with fail
  generalize w.alloc (.cells #[.int .i64 e.t, .int .i64 e.s, .int .i64 e.q, .int .i64 e.d, .int .i64 e.k, .int .i64 e.v, .int .i64 e.g] 33) = W at *
  refine (iHeap_any g 0 _ l _ hl HR.out.evs).mono ?_
  rintro r w1 ⟨⟨bb, rfl, hs⟩, hb1⟩
  have hbb : bb = true := hs.2 HG.out
  subst hbb
  clear hs
  have HB1 : Hid (Below w.heap.size w w1) := HB0.out.trans (hb1.mono (Nat.le_of_lt hs0))
  have HR1 : Hid (RowTo w1 g l.length l l.length) := HR.out.below hb1 HR.out.1
  have HE1 : Hid (Ev.In w1 w.heap.size 0 e) := HE0.out.below hb1 hs0
  have hs1 : w.heap.size < w1.heap.size := Nat.lt_of_lt_of_le hs0 hb1.size
  clear hb1 HR HE0
  obtain ⟨f0, f1, f2, f3, f4, f5, f6⟩ := HE1.out.lits
  go_wp2_with fail
  refine (iOk_ev e true HEO.out _).mono ?_
  rintro r w2 ⟨rfl, hb2⟩
  clear f0 f1 f2 f3 f4 f5 f6
  have HB2 : Hid (Below w.heap.size w w2) := HB1.out.trans (hb2.mono HB1.out.size)
  have HR2 : Hid (RowTo w2 g l.length l l.length) := HR1.out.below hb2 HR1.out.1
  have HE2 : Hid (Ev.In w2 w.heap.size 0 e) := HE1.out.below hb2 hs1
  have hs2 : w.heap.size < w2.heap.size := Nat.lt_of_lt_of_le hs1 hb2.size
  clear hb2 HR1 HE1 HB1
  have hme := fun w P => m_events P w
  go_wp2_with fail
  refine (pileOf_any _ l _ (by omega) HR2.out.src).mono ?_
  rintro r w3 ⟨P, v, rfl, hp3, hb3⟩
  have HP3 : Hid (Pl w3 w2.heap.size P v l) := hp3
  have HB3 : Hid (Below w2.heap.size w2 w3) := hb3
  have HE3 : Hid (Ev.In w3 w.heap.size 0 e) := HE2.out.below hb3 hs2
  have hs3 : w.heap.size < w3.heap.size := Nat.lt_of_lt_of_le hs2 hb3.size
  have HPX : Hid (Pl (w3.alloc (.cells #[.int .i64 e.t, .int .i64 e.s, .int .i64 e.q, .int .i64 e.d, .int .i64 e.k, .int .i64 e.v, .int .i64 e.g] 33)) w2.heap.size P v l) := hp3.alloc _
  have HBX : Hid (Below w2.heap.size w2 (w3.alloc (.cells #[.int .i64 e.t, .int .i64 e.s, .int .i64 e.q, .int .i64 e.d, .int .i64 e.k, .int .i64 e.v, .int .i64 e.g] 33))) := hb3.alloc hb3.size _
  have HEX : Hid (EvsAt (w3.alloc (.cells #[.int .i64 e.t, .int .i64 e.s, .int .i64 e.q, .int .i64 e.d, .int .i64 e.k, .int .i64 e.v, .int .i64 e.g] 33)) w3.heap.size 0 [e]) := ⟨by simp, fun i hi => by
    have h0 : i = 0 := by simp at hi; omega
    subst h0
    exact newE w3 e⟩
  have HLO : Hid (P < w3.heap.size ∧ w2.heap.size ≤ P ∧ (∀ k, v.ownBlock = some k → w2.heap.size ≤ k ∧ k < w3.heap.size)) := ⟨hp3.box.lt, hp3.low, fun k e => OwnR.block hp3.row e⟩
  have hz3 : w2.heap.size ≤ w3.heap.size := hb3.size
  have hzX : w3.heap.size < (w3.alloc (.cells #[.int .i64 e.t, .int .i64 e.s, .int .i64 e.q, .int .i64 e.d, .int .i64 e.k, .int .i64 e.v, .int .i64 e.g] 33)).heap.size := by simp
  clear hp3 hb3
  obtain ⟨f0, f1, f2, f3, f4, f5, f6⟩ := HE3.out.lits
  go_wp2_with fail
  generalize w3.alloc (.cells #[.int .i64 e.t, .int .i64 e.s, .int .i64 e.q, .int .i64 e.d, .int .i64 e.k, .int .i64 e.v, .int .i64 e.g] 33) = V at *
  clear f0 f1 f2 f3 f4 f5 f6
  refine (pushAll_full w2.heap.size P v l (some ⟨w3.heap.size, 0, none⟩) 1 [e] V (by simp) (by omega) HPX.out (by omega) (by simp; omega)).mono ?_
  rintro r w4 ⟨rfl, hp4, ht4⟩
  have HP4 : Hid (Pl w4 w2.heap.size P v l) := hp4
  have HB4 : Hid (Below w.heap.size w w4) := HB2.out.trans ((HBX.out.trans (ht4.mono (by omega))).mono HB2.out.size)
  clear hp4 ht4
  go_wp2_with fail
  refine (events_any w2.heap.size P v l _ (by omega) HP4.out).mono ?_
  rintro r w5 ⟨y, rfl, hy, hb5⟩
  have HY : Hid (OwnR w4.heap.size w5 y l) := hy
  have HB5 : Hid (Below w.heap.size w w5) := HB4.out.trans (hb5.mono HB4.out.size)
  clear hy hb5
  go_wp2
  go_ret2
  exact ⟨ans_of HB4.out HB4.out.size HY.out, HB5.out⟩
set_option maxRecDepth 100000 in
set_option maxHeartbeats 4000000 in
theorem iPush_tag (g : Nat) (l : List Ev) (e : Ev) (w : World) (hl : l.length ≤ 1048576) (hR : RowTo w g l.length l l.length) (hg : GoodH l) (he : e.ok = true) (k : Nat) (hk : FirstAt l e.g k) (hf : l.length < 2000) :
    Calls Try.prog 16 #[.slice (some ⟨g, 0, none⟩) l.length l.length, .agg #[.int .i64 e.t, .int .i64 e.s, .int .i64 e.q, .int .i64 e.d, .int .i64 e.k, .int .i64 e.v, .int .i64 e.g]] w fun r w' => Answers w.heap.size l false r w' ∧ Below w.heap.size w w' := by
  have hgw : g < w.heap.size := hR.1
  have hB0 : Below w.heap.size w (w.alloc (.cells #[.int .i64 e.t, .int .i64 e.s, .int .i64 e.q, .int .i64 e.d, .int .i64 e.k, .int .i64 e.v, .int .i64 e.g] 33)) := (Below.refl _ w).alloc (Nat.le_refl _) _
  have HR : Hid (RowTo (w.alloc (.cells #[.int .i64 e.t, .int .i64 e.s, .int .i64 e.q, .int .i64 e.d, .int .i64 e.k, .int .i64 e.v, .int .i64 e.g] 33)) g l.length l l.length) := hR.below hB0 hgw
  have HB0 : Hid (Below w.heap.size w (w.alloc (.cells #[.int .i64 e.t, .int .i64 e.s, .int .i64 e.q, .int .i64 e.d, .int .i64 e.k, .int .i64 e.v, .int .i64 e.g] 33))) := hB0
  have HE0 : Hid (Ev.In (w.alloc (.cells #[.int .i64 e.t, .int .i64 e.s, .int .i64 e.q, .int .i64 e.d, .int .i64 e.k, .int .i64 e.v, .int .i64 e.g] 33)) w.heap.size 0 e) := newE w e
  have hs0 : w.heap.size < (w.alloc (.cells #[.int .i64 e.t, .int .i64 e.s, .int .i64 e.q, .int .i64 e.d, .int .i64 e.k, .int .i64 e.v, .int .i64 e.g] 33)).heap.size := by simp
  clear hR hB0
  have HG : Hid (GoodH l) := hg
  have HEO : Hid (e.ok = true) := he
  have HK : Hid (FirstAt l e.g k) := hk
  have hk1 : (0 : Int) ≤ (k : Int) := by omega
  have hk2 : decide ((0 : Int) ≤ (k : Int)) = true := by simp
  clear hg he hk
  go_enter Try.func16, Try.ntmps16
  go_wp2_with fail
  generalize w.alloc (.cells #[.int .i64 e.t, .int .i64 e.s, .int .i64 e.q, .int .i64 e.d, .int .i64 e.k, .int .i64 e.v, .int .i64 e.g] 33) = W at *
  refine (iHeap_any g 0 _ l _ hl HR.out.evs).mono ?_
  rintro r w1 ⟨⟨bb, rfl, hs⟩, hb1⟩
  have hbb : bb = true := hs.2 HG.out
  subst hbb
  clear hs
  have HB1 : Hid (Below w.heap.size w w1) := HB0.out.trans (hb1.mono (Nat.le_of_lt hs0))
  have HR1 : Hid (RowTo w1 g l.length l l.length) := HR.out.below hb1 HR.out.1
  have HE1 : Hid (Ev.In w1 w.heap.size 0 e) := HE0.out.below hb1 hs0
  have hs1 : w.heap.size < w1.heap.size := Nat.lt_of_lt_of_le hs0 hb1.size
  clear hb1 HR HE0
  obtain ⟨f0, f1, f2, f3, f4, f5, f6⟩ := HE1.out.lits
  go_wp2_with fail
  refine (iOk_ev e true HEO.out _).mono ?_
  rintro r w2 ⟨rfl, hb2⟩
  clear f0 f1 f2 f3 f4 f5 f6
  have HB2 : Hid (Below w.heap.size w w2) := HB1.out.trans (hb2.mono HB1.out.size)
  have HR2 : Hid (RowTo w2 g l.length l l.length) := HR1.out.below hb2 HR1.out.1
  have HE2 : Hid (Ev.In w2 w.heap.size 0 e) := HE1.out.below hb2 hs1
  have hs2 : w.heap.size < w2.heap.size := Nat.lt_of_lt_of_le hs1 hb2.size
  clear hb2 HR1 HE1 HB1
  have hme := fun w P => m_events P w
  go_wp2_with fail
  refine (pileOf_any _ l _ (by omega) HR2.out.src).mono ?_
  rintro r w3 ⟨P, v, rfl, hp3, hb3⟩
  have HP3 : Hid (Pl w3 w2.heap.size P v l) := hp3
  have HB3 : Hid (Below w2.heap.size w2 w3) := hb3
  have HE3 : Hid (Ev.In w3 w.heap.size 0 e) := HE2.out.below hb3 hs2
  have hs3 : w.heap.size < w3.heap.size := Nat.lt_of_lt_of_le hs2 hb3.size
  have HPX : Hid (Pl (w3.alloc (.cells #[.int .i64 e.t, .int .i64 e.s, .int .i64 e.q, .int .i64 e.d, .int .i64 e.k, .int .i64 e.v, .int .i64 e.g] 33)) w2.heap.size P v l) := hp3.alloc _
  have HBX : Hid (Below w2.heap.size w2 (w3.alloc (.cells #[.int .i64 e.t, .int .i64 e.s, .int .i64 e.q, .int .i64 e.d, .int .i64 e.k, .int .i64 e.v, .int .i64 e.g] 33))) := hb3.alloc hb3.size _
  have HEX : Hid (EvsAt (w3.alloc (.cells #[.int .i64 e.t, .int .i64 e.s, .int .i64 e.q, .int .i64 e.d, .int .i64 e.k, .int .i64 e.v, .int .i64 e.g] 33)) w3.heap.size 0 [e]) := ⟨by simp, fun i hi => by
    have h0 : i = 0 := by simp at hi; omega
    subst h0
    exact newE w3 e⟩
  have HLO : Hid (P < w3.heap.size ∧ w2.heap.size ≤ P ∧ (∀ k, v.ownBlock = some k → w2.heap.size ≤ k ∧ k < w3.heap.size)) := ⟨hp3.box.lt, hp3.low, fun k e => OwnR.block hp3.row e⟩
  have hz3 : w2.heap.size ≤ w3.heap.size := hb3.size
  have hzX : w3.heap.size < (w3.alloc (.cells #[.int .i64 e.t, .int .i64 e.s, .int .i64 e.q, .int .i64 e.d, .int .i64 e.k, .int .i64 e.v, .int .i64 e.g] 33)).heap.size := by simp
  clear hp3 hb3
  obtain ⟨f0, f1, f2, f3, f4, f5, f6⟩ := HE3.out.lits
  go_wp2_with fail
  generalize w3.alloc (.cells #[.int .i64 e.t, .int .i64 e.s, .int .i64 e.q, .int .i64 e.d, .int .i64 e.k, .int .i64 e.v, .int .i64 e.g] 33) = V at *
  clear f0 f1 f2 f3 f4 f5 f6
  refine (pushAll_dup w2.heap.size P v l (some ⟨w3.heap.size, 0, none⟩) 1 w3.heap.size [e] V k rfl (by omega) HPX.out (.inr ⟨0, rfl, HEX.out⟩) HEX.out.1 (by simp; omega) HG.out.oks (fun i hi => (HG.out.2 i hi).2.2) HEO.out HK.out).mono ?_
  rintro r w4 ⟨rfl, hp4, ht4⟩
  have HP4 : Hid (Pl w4 w2.heap.size P v l) := hp4
  have HB4 : Hid (Below w.heap.size w w4) := HB2.out.trans ((HBX.out.trans (ht4.mono (by omega))).mono HB2.out.size)
  clear hp4 ht4
  go_wp2_with fail
  refine (events_any w2.heap.size P v l _ (by omega) HP4.out).mono ?_
  rintro r w5 ⟨y, rfl, hy, hb5⟩
  have HY : Hid (OwnR w4.heap.size w5 y l) := hy
  have HB5 : Hid (Below w.heap.size w w5) := HB4.out.trans (hb5.mono HB4.out.size)
  clear hy hb5
  go_wp2
  go_ret2
  exact ⟨ans_of HB4.out HB4.out.size HY.out, HB5.out⟩
set_option maxRecDepth 100000 in
set_option maxHeartbeats 4000000 in
theorem iPush_good (g : Nat) (l : List Ev) (e : Ev) (w : World) (hl : l.length ≤ 1048576) (hR : RowTo w g l.length l l.length) (hg : GoodH l) (he : e.ok = true) (hk : NoTag l e.g) (hf : l.length < 2000) :
    Calls Try.prog 16 #[.slice (some ⟨g, 0, none⟩) l.length l.length, .agg #[.int .i64 e.t, .int .i64 e.s, .int .i64 e.q, .int .i64 e.d, .int .i64 e.k, .int .i64 e.v, .int .i64 e.g]] w fun r w' => Answers w.heap.size (pushL l e) true r w' ∧ Below w.heap.size w w' := by
  have hgw : g < w.heap.size := hR.1
  have hB0 : Below w.heap.size w (w.alloc (.cells #[.int .i64 e.t, .int .i64 e.s, .int .i64 e.q, .int .i64 e.d, .int .i64 e.k, .int .i64 e.v, .int .i64 e.g] 33)) := (Below.refl _ w).alloc (Nat.le_refl _) _
  have HR : Hid (RowTo (w.alloc (.cells #[.int .i64 e.t, .int .i64 e.s, .int .i64 e.q, .int .i64 e.d, .int .i64 e.k, .int .i64 e.v, .int .i64 e.g] 33)) g l.length l l.length) := hR.below hB0 hgw
  have HB0 : Hid (Below w.heap.size w (w.alloc (.cells #[.int .i64 e.t, .int .i64 e.s, .int .i64 e.q, .int .i64 e.d, .int .i64 e.k, .int .i64 e.v, .int .i64 e.g] 33))) := hB0
  have HE0 : Hid (Ev.In (w.alloc (.cells #[.int .i64 e.t, .int .i64 e.s, .int .i64 e.q, .int .i64 e.d, .int .i64 e.k, .int .i64 e.v, .int .i64 e.g] 33)) w.heap.size 0 e) := newE w e
  have hs0 : w.heap.size < (w.alloc (.cells #[.int .i64 e.t, .int .i64 e.s, .int .i64 e.q, .int .i64 e.d, .int .i64 e.k, .int .i64 e.v, .int .i64 e.g] 33)).heap.size := by simp
  clear hR hB0
  have HG : Hid (GoodH l) := hg
  have HEO : Hid (e.ok = true) := he
  have HK : Hid (NoTag l e.g) := hk
  have hf1 : ¬ ((2000 : Int) ≤ (l.length : Int)) := by omega
  have hf2 : ¬ (2000 ≤ l.length) := by omega
  clear hg he hk
  go_enter Try.func16, Try.ntmps16
  go_wp2_with fail
  generalize w.alloc (.cells #[.int .i64 e.t, .int .i64 e.s, .int .i64 e.q, .int .i64 e.d, .int .i64 e.k, .int .i64 e.v, .int .i64 e.g] 33) = W at *
  refine (iHeap_any g 0 _ l _ hl HR.out.evs).mono ?_
  rintro r w1 ⟨⟨bb, rfl, hs⟩, hb1⟩
  have hbb : bb = true := hs.2 HG.out
  subst hbb
  clear hs
  have HB1 : Hid (Below w.heap.size w w1) := HB0.out.trans (hb1.mono (Nat.le_of_lt hs0))
  have HR1 : Hid (RowTo w1 g l.length l l.length) := HR.out.below hb1 HR.out.1
  have HE1 : Hid (Ev.In w1 w.heap.size 0 e) := HE0.out.below hb1 hs0
  have hs1 : w.heap.size < w1.heap.size := Nat.lt_of_lt_of_le hs0 hb1.size
  clear hb1 HR HE0
  obtain ⟨f0, f1, f2, f3, f4, f5, f6⟩ := HE1.out.lits
  go_wp2_with fail
  refine (iOk_ev e true HEO.out _).mono ?_
  rintro r w2 ⟨rfl, hb2⟩
  clear f0 f1 f2 f3 f4 f5 f6
  have HB2 : Hid (Below w.heap.size w w2) := HB1.out.trans (hb2.mono HB1.out.size)
  have HR2 : Hid (RowTo w2 g l.length l l.length) := HR1.out.below hb2 HR1.out.1
  have HE2 : Hid (Ev.In w2 w.heap.size 0 e) := HE1.out.below hb2 hs1
  have hs2 : w.heap.size < w2.heap.size := Nat.lt_of_lt_of_le hs1 hb2.size
  clear hb2 HR1 HE1 HB1
  have hme := fun w P => m_events P w
  go_wp2_with fail
  refine (pileOf_any _ l _ (by omega) HR2.out.src).mono ?_
  rintro r w3 ⟨P, v, rfl, hp3, hb3⟩
  have HP3 : Hid (Pl w3 w2.heap.size P v l) := hp3
  have HB3 : Hid (Below w2.heap.size w2 w3) := hb3
  have HE3 : Hid (Ev.In w3 w.heap.size 0 e) := HE2.out.below hb3 hs2
  have hs3 : w.heap.size < w3.heap.size := Nat.lt_of_lt_of_le hs2 hb3.size
  have HPX : Hid (Pl (w3.alloc (.cells #[.int .i64 e.t, .int .i64 e.s, .int .i64 e.q, .int .i64 e.d, .int .i64 e.k, .int .i64 e.v, .int .i64 e.g] 33)) w2.heap.size P v l) := hp3.alloc _
  have HBX : Hid (Below w2.heap.size w2 (w3.alloc (.cells #[.int .i64 e.t, .int .i64 e.s, .int .i64 e.q, .int .i64 e.d, .int .i64 e.k, .int .i64 e.v, .int .i64 e.g] 33))) := hb3.alloc hb3.size _
  have HEX : Hid (EvsAt (w3.alloc (.cells #[.int .i64 e.t, .int .i64 e.s, .int .i64 e.q, .int .i64 e.d, .int .i64 e.k, .int .i64 e.v, .int .i64 e.g] 33)) w3.heap.size 0 [e]) := ⟨by simp, fun i hi => by
    have h0 : i = 0 := by simp at hi; omega
    subst h0
    exact newE w3 e⟩
  have HLO : Hid (P < w3.heap.size ∧ w2.heap.size ≤ P ∧ (∀ k, v.ownBlock = some k → w2.heap.size ≤ k ∧ k < w3.heap.size)) := ⟨hp3.box.lt, hp3.low, fun k e => OwnR.block hp3.row e⟩
  have hz3 : w2.heap.size ≤ w3.heap.size := hb3.size
  have hzX : w3.heap.size < (w3.alloc (.cells #[.int .i64 e.t, .int .i64 e.s, .int .i64 e.q, .int .i64 e.d, .int .i64 e.k, .int .i64 e.v, .int .i64 e.g] 33)).heap.size := by simp
  clear hp3 hb3
  obtain ⟨f0, f1, f2, f3, f4, f5, f6⟩ := HE3.out.lits
  go_wp2_with fail
  generalize w3.alloc (.cells #[.int .i64 e.t, .int .i64 e.s, .int .i64 e.q, .int .i64 e.d, .int .i64 e.k, .int .i64 e.v, .int .i64 e.g] 33) = V at *
  clear f0 f1 f2 f3 f4 f5 f6
  refine (pushAll_ok w2.heap.size P v l (some ⟨w3.heap.size, 0, none⟩) 1 w3.heap.size [e] V (by simp) (by omega) HPX.out (.inr ⟨0, rfl, HEX.out⟩) HEX.out.1 (by have := HLO.out.1; omega) (fun e9 => by have := (HLO.out.2.2 _ e9).2; omega) (by simp; omega) HG.out.oks (fun i hi => by have h0 : i = 0 := (by simp at hi; omega); subst h0; exact HEO.out) (fun i hi => by have h0 : i = 0 := (by simp at hi; omega); subst h0; exact HK.out)).mono ?_
  rintro r w4 ⟨rfl, ⟨v4, hp4, _⟩, ht4⟩
  have HP4 : Hid (Pl w4 w2.heap.size P v4 (pushL l e)) := hp4
  have HB4 : Hid (Below w.heap.size w w4) := HB2.out.trans ((HBX.out.trans (ht4.to_below (fun k h => by rcases h with rfl | h; exact HLO.out.2.1; exact (HLO.out.2.2 k h).1) (by omega))).mono HB2.out.size)
  clear hp4 ht4
  go_wp2_with fail
  refine (events_any w2.heap.size P v4 (pushL l e) _ (by rw [pushL_length]; omega) HP4.out).mono ?_
  rintro r w5 ⟨y, rfl, hy, hb5⟩
  have HY : Hid (OwnR w4.heap.size w5 y (pushL l e)) := hy
  have HB5 : Hid (Below w.heap.size w w5) := HB4.out.trans (hb5.mono HB4.out.size)
  clear hy hb5
  go_wp2
  go_ret2
  exact ⟨ans_of HB4.out HB4.out.size HY.out, HB5.out⟩
theorem push_both (l : List Ev) (e : Ev) (hl : l.length ≤ 1048576) : ∃ (l' : List Ev) (bb : Bool), l'.length ≤ 1048577 ∧
    (∀ (w : World) (g : Nat), RowTo w g l.length l l.length → Calls Try.prog 14 #[.slice (some ⟨g, 0, none⟩) l.length l.length, .agg #[.int .i64 e.t, .int .i64 e.s, .int .i64 e.q, .int .i64 e.d, .int .i64 e.k, .int .i64 e.v, .int .i64 e.g]] w fun r w' => Answers w.heap.size l' bb r w' ∧ Below w.heap.size w w') ∧
    (∀ (w : World) (g : Nat), RowTo w g l.length l l.length → Calls Try.prog 16 #[.slice (some ⟨g, 0, none⟩) l.length l.length, .agg #[.int .i64 e.t, .int .i64 e.s, .int .i64 e.q, .int .i64 e.d, .int .i64 e.k, .int .i64 e.v, .int .i64 e.g]] w fun r w' => Answers w.heap.size l' bb r w' ∧ Below w.heap.size w w') := by
  by_cases hg : GoodH l
  · cases he : e.ok with
    | false => exact ⟨[], false, by simp, fun w g h => sPush_bade g l e w hl h hg he, fun w g h => iPush_bade g l e w hl h hg he⟩
    | true =>
      by_cases hf : l.length < 2000
      · rcases firstAt_or l e.g with ⟨k, hk⟩ | hno
        · exact ⟨l, false, by omega, fun w g h => sPush_tag g l e w hl h hg he k hk, fun w g h => iPush_tag g l e w hl h hg he k hk hf⟩
        · exact ⟨pushL l e, true, by rw [pushL_length]; omega, fun w g h => sPush_good g l e w hl h hg he hno hf, fun w g h => iPush_good g l e w hl h hg he hno hf⟩
      · refine ⟨l, false, by omega, fun w g h => ?_, fun w g h => iPush_full g l e w hl h hg he (by omega)⟩
        rcases firstAt_or l e.g with ⟨k, hk⟩ | hno
        · exact sPush_tag g l e w hl h hg he k hk
        · exact sPush_full g l e w hl h hg he hno (by omega)
  · exact ⟨[], false, by simp, fun w g h => sPush_bad g l e w hl h hg, fun w g h => iPush_bad g l e w hl h hg⟩
end Go.Proofs.Ythklekjglocbgaa

/- How a list of events that came in is read. -/
namespace Go.Proofs.Ythklekjglocbgaa
open Go.ChangeShapes Go.WideShapes Go.ChangeAt Go.RowKit

theorem evs_list {w : World} {b off : Nat} : ∀ n, (∀ i, i < n → ∃ e : Ev, Ev.In w b (off + i * 7) e) → ∃ l : List Ev, l.length = n ∧ ∀ i, i < n → Ev.In w b (off + i * 7) (evAt l i)
  | 0, _ => ⟨[], rfl, fun i hi => by omega⟩
  | n + 1, h => by
    obtain ⟨l, hl, hi⟩ := evs_list n (fun i hi => h i (by omega))
    obtain ⟨e, he⟩ := h n (by omega)
    refine ⟨l ++ [e], by simp [hl], fun i hi' => ?_⟩
    by_cases hin : i < n
    · have : evAt (l ++ [e]) i = evAt l i := by unfold evAt; simp [List.getElem?_append_left (by omega : i < l.length)]
      rw [this]; exact hi i hin
    · have : evAt (l ++ [e]) i = e := by unfold evAt; simp [show i = l.length by omega]
      rw [this, show i = n by omega]; exact he

theorem add_plain (b off n : Nat) : (⟨b, off, none⟩ : Addr).add n = ⟨b, off + n, none⟩ := by
  unfold Addr.add
  split <;> simp_all
theorem open_evs {H : Type} {enc : TypeId × Value → H} {w : World} {b0 : Nat} {spare : Nat → Bool} {held : Bool} {r : Reach} {v : Value} {d : DataW H} {p : List MemPlace}
    (hv : Value.okWide Try.prog w r b0 22 v) (h : DataW.Trod enc Try.prog w 0 spare held 22 v d p) : ∃ l : List Ev, IsEvs w v l := by
  obtain ⟨a0, len, cap, rfl⟩ := okWide_slice Try.underlying22 hv
  obtain ⟨fuel, hf⟩ := h
  rcases DataW.trod_slice Try.underlying22 hf with ⟨hcs, _⟩ | ⟨a, len', cap', elems, rest, n, _, hcs, _, hb, hl, hm, hlen, hel, _, _⟩
  · simp [Value.cells] at hcs
    obtain ⟨rfl, rfl, rfl⟩ := hcs
    exact ⟨[], _, _, rfl, Nat.le_refl _, by unfold maxLen; omega, .inl rfl⟩
  · simp [Value.cells] at hcs
    obtain ⟨rfl, rfl, rfl⟩ := hcs
    by_cases h0 : len = 0
    · subst h0
      exact ⟨[], _, _, rfl, hl, hm, .inl rfl⟩
    · obtain ⟨b, off, spot⟩ := a
      have hs : spot = none := by
        have h1 := hel 0 (by omega)
        rw [cells23, List.getElem?_eq_getElem (by omega)] at h1
        obtain ⟨cs, hc, ht⟩ := Option.bind_eq_some_iff.1 h1
        obtain ⟨t, s, q, d, k, v, g, rfl, _⟩ := trod_ev ht
        have c0 := (World.cells?_some hc).2.2 0 (by omega)
        simpa [Addr.add] using World.cell?_spot c0
      subst hs
      have each : ∀ i, i < len → ∃ e : Ev, Ev.In w b (off + i * 7) e ∧ b < w.heap.size := by
        intro i hi
        have h1 := hel i hi
        rw [cells23, List.getElem?_eq_getElem (by omega), add_plain] at h1
        obtain ⟨cs, hc, ht⟩ := Option.bind_eq_some_iff.1 h1
        obtain ⟨t, s, q, d, k, v, g, rfl, _⟩ := trod_ev ht
        have hblk : b < w.heap.size := World.cells?_block hc (by omega)
        obtain ⟨_, _, hcell⟩ := World.cells?_some hc
        simp only [add_plain] at hcell
        exact ⟨⟨t, s, q, d, k, v, g⟩, ⟨hcell 0 (by omega), hcell 1 (by omega), hcell 2 (by omega), hcell 3 (by omega), hcell 4 (by omega), hcell 5 (by omega), hcell 6 (by omega)⟩, hblk⟩
      obtain ⟨_, _, hblk⟩ := each 0 (by omega)
      obtain ⟨l, rfl, hi⟩ := evs_list (w := w) (b := b) (off := off) len (fun i hi => by
        obtain ⟨e, he, _⟩ := each i hi
        exact ⟨e, he⟩)
      exact ⟨l, _, _, rfl, hl, hm, .inr ⟨b, off, rfl, hblk, hi⟩⟩
end Go.Proofs.Ythklekjglocbgaa

/- At every list of events and every event the program's HeapPush answers as the specification's, writes into no argument and keeps nothing of one, its answer owns its memory, behind another call too; the arguments read behind the call as they read before; no condition. -/
namespace Go.Proofs.Ythklekjglocbgaa.LawHeapPush
open Go.ChangeShapes Go.WideShapes Go.ChangeAt Go.RowKit Go.Proofs.Ythklekjglocbgaa

set_option maxRecDepth 100000 in
set_option maxHeartbeats 8000000 in
theorem walkE (x : Value) (l : List Ev) (e : Ev) (w : World) (hx : IsEvs w x l) :
    Calls Try.prog 4 #[x, .agg #[.int .i64 e.t, .int .i64 e.s, .int .i64 e.q, .int .i64 e.d, .int .i64 e.k, .int .i64 e.v, .int .i64 e.g]] w fun e w' => e = .returned (.bool true) ∧ Below w.heap.size w w' := by
  have hB0 : Below w.heap.size w (w.alloc (.cells #[.int .i64 e.t, .int .i64 e.s, .int .i64 e.q, .int .i64 e.d, .int .i64 e.k, .int .i64 e.v, .int .i64 e.g] 30)) := (Below.refl _ w).alloc (Nat.le_refl _) _
  have HE : Hid (EvAt (w.alloc (.cells #[.int .i64 e.t, .int .i64 e.s, .int .i64 e.q, .int .i64 e.d, .int .i64 e.k, .int .i64 e.v, .int .i64 e.g] 30)) w.heap.size 0 e.t e.s e.q e.d e.k e.v e.g) := EvAt.new w 30 e.t e.s e.q e.d e.k e.v e.g
  have hbz : w.heap.size < (w.alloc (.cells #[.int .i64 e.t, .int .i64 e.s, .int .i64 e.q, .int .i64 e.d, .int .i64 e.k, .int .i64 e.v, .int .i64 e.g] 30)).heap.size := by simp
  have hx0 : IsEvs (w.alloc (.cells #[.int .i64 e.t, .int .i64 e.s, .int .i64 e.q, .int .i64 e.d, .int .i64 e.k, .int .i64 e.v, .int .i64 e.g] 30)) x l := hx.below hB0
  have HX : Hid (LowEvs (w.alloc (.cells #[.int .i64 e.t, .int .i64 e.s, .int .i64 e.q, .int .i64 e.d, .int .i64 e.k, .int .i64 e.v, .int .i64 e.g] 30)).heap.size (w.alloc (.cells #[.int .i64 e.t, .int .i64 e.s, .int .i64 e.q, .int .i64 e.d, .int .i64 e.k, .int .i64 e.v, .int .i64 e.g] 30)) x l) := hx0.low
  clear hx0
  obtain ⟨a, cap, rfl, h1, h2, _⟩ := hx
  by_cases hl : l.length ≤ 1048576
  · have hlt : ¬ ((1048576 : Int) - (l.length : Int) < 0) := by omega
    obtain ⟨l', bb, hl', hsp, him⟩ := push_both l e hl
    have HSP : Hid (∀ (w : World) (g : Nat), RowTo w g l.length l l.length → Calls Try.prog 14 #[.slice (some ⟨g, 0, none⟩) l.length l.length, .agg #[.int .i64 e.t, .int .i64 e.s, .int .i64 e.q, .int .i64 e.d, .int .i64 e.k, .int .i64 e.v, .int .i64 e.g]] w fun e w' => Answers w.heap.size l' bb e w' ∧ Below w.heap.size w w') := hsp
    have HIM : Hid (∀ (w : World) (g : Nat), RowTo w g l.length l l.length → Calls Try.prog 16 #[.slice (some ⟨g, 0, none⟩) l.length l.length, .agg #[.int .i64 e.t, .int .i64 e.s, .int .i64 e.q, .int .i64 e.d, .int .i64 e.k, .int .i64 e.v, .int .i64 e.g]] w fun e w' => Answers w.heap.size l' bb e w' ∧ Below w.heap.size w w') := him
    have hk0 : (0 : Int) ≤ 7 * (l.length : Int) + 1 := by omega
    clear h1 h2 hsp him
    go_enter Try.func4, Try.ntmps4
    go_wp2_with fail
    generalize w.alloc (.cells #[.int .i64 e.t, .int .i64 e.s, .int .i64 e.q, .int .i64 e.d, .int .i64 e.k, .int .i64 e.v, .int .i64 e.g] 30) = W0 at *
    generalize hbx : w.heap.size = bx at *
    refine (sz_small a l.length cap _ hl).mono ?_
    rintro r w' ⟨rfl, hw⟩
    have hw' := hw.symm
    clear hw
    subst hw'
    obtain ⟨f0, f1, f2, f3, f4, f5, f6⟩ := HE.out.lits
    go_wp2_with fail
    go_region_held3 (fun W => bx < W.heap.size ∧ W.cell? ⟨bx, 0, none⟩ = some (.int .i64 e.t) ∧ W.cell? ⟨bx, 1, none⟩ = some (.int .i64 e.s) ∧ W.cell? ⟨bx, 2, none⟩ = some (.int .i64 e.q) ∧ W.cell? ⟨bx, 3, none⟩ = some (.int .i64 e.d) ∧ W.cell? ⟨bx, 4, none⟩ = some (.int .i64 e.k) ∧ W.cell? ⟨bx, 5, none⟩ = some (.int .i64 e.v) ∧ W.cell? ⟨bx, 6, none⟩ = some (.int .i64 e.g)) ((repeat' apply And.intro) <;> first | (go_keep; done) | (simp; omega) | omega | (rw [hcA _ _ (by first | omega | (simp; omega))]; simp [*]; done) | (rw [hcB _ _ (by first | omega | (simp; omega))]; simp [*]; done) | (rw [hcC _ _ (by first | omega | (simp; omega))]; simp [*]; done))
      (first
        | (go_at_call 11; refine (toEventS_any _ l _ hl (HX.out.below (Below.refl _ W0).drew).isEvs).mono ?_; rintro e wA ⟨rfl, hbA, hrA⟩; have HRA : Hid (RowTo wA _ l.length l l.length) := hrA; obtain ⟨hcA, hfA⟩ := bcell hbA; have hzA := hbA.size)
        | (go_at_call 15; refine (toEvent_any e.t e.s e.q e.d e.k e.v e.g _).mono ?_; rintro e wB ⟨rfl, hbB⟩; obtain ⟨hcB, hfB⟩ := bcell hbB; have hzB := hbB.size)
        | (go_at_call 14; refine (HSP.out _ _ (HRA.out.below hbB HRA.out.1)).mono ?_; rintro e wC ⟨⟨xC, rfl, hxC⟩, hbC⟩; obtain ⟨hcC, hfC⟩ := bcell hbC; have hzC := hbC.size))

    have HS2 : Hid (LowEvs wC.heap.size wC xC l') := hxC.isEvs.low
    have HB2 : Hid (Below W0.heap.size W0 wC) := (((Below.refl _ W0).drew.trans (hbA.mono (by simp))).trans (hbB.mono (by simp at hzA; omega))).trans (hbC.mono (by simp at hzA; omega))
    have HX2 : Hid (LowEvs W0.heap.size wC (.slice a l.length cap) l) := HX.out.below HB2.out
    clear hxC hbA hbB hbC hcA hcB hcC hfA hfB hfC hzA hzB hzC hrA HRA HSP f0 f1 f2 f3 f4 f5 f6
    go_wp2_with fail
    refine (toEventS_any _ l _ hl HX2.out.isEvs).mono ?_
    rintro r w3 ⟨rfl, hb3, hr3⟩
    have HR3 : Hid (RowTo w3 wC.heap.size l.length l l.length) := hr3
    have HB3 : Hid (Below W0.heap.size W0 w3) := HB2.out.trans (hb3.mono HB2.out.size)
    have HS3 : Hid (LowEvs wC.heap.size w3 xC l') := HS2.out.below hb3
    have hz23 : wC.heap.size < w3.heap.size := hr3.1
    have hz02 : W0.heap.size ≤ wC.heap.size := HB2.out.size
    have HE3 : Hid (EvAt w3 bx 0 e.t e.s e.q e.d e.k e.v e.g) := HE.out.below HB3.out hbz
    obtain ⟨f0, f1, f2, f3, f4, f5, f6⟩ := HE3.out.lits
    clear hr3 hb3 HS2 HX2
    go_wp2_with fail
    refine (toEvent_any e.t e.s e.q e.d e.k e.v e.g _).mono ?_
    rintro r w3' ⟨rfl, hb3'⟩
    have HR3' : Hid (RowTo w3' wC.heap.size l.length l l.length) := HR3.out.below hb3' hz23
    have HB3' : Hid (Below W0.heap.size W0 w3') := HB3.out.trans (hb3'.mono (by omega))
    have HS3' : Hid (LowEvs wC.heap.size w3' xC l') := HS3.out.below (hb3'.mono (by omega))
    have hz33 : w3.heap.size ≤ w3'.heap.size := hb3'.size
    clear hb3' HR3 HB3 HS3 HE3 f0 f1 f2 f3 f4 f5 f6
    go_wp2_with fail
    refine (HIM.out _ _ HR3'.out).mono ?_
    rintro r w4 ⟨⟨xg, rfl, hxg⟩, hb4⟩
    have HG4 : Hid (OwnEvs w3'.heap.size w4 xg l') := hxg
    have HB4 : Hid (Below W0.heap.size W0 w4) := HB3'.out.trans (hb4.mono HB3'.out.size)
    have HS4 : Hid (LowEvs wC.heap.size w4 xC l') := HS3'.out.below (hb4.mono (by omega))
    have HR4 : Hid (RowTo w4 wC.heap.size l.length l l.length) := HR3'.out.below hb4 (by omega)
    have hz34 : w3'.heap.size ≤ w4.heap.size := hb4.size
    clear hxg hb4 HS3' HR3' HB3'
    have hL' : l'.length ≤ 1048576 ∨ l'.length = 1048577 := by omega
    go_wp2_with fail
    refine (eqS_same' _ _ l' _ hl' HG4.out.isEvs HS4.out.isEvs).mono ?_
    rintro r w5 ⟨rfl, hb5⟩
    have HG5 : Hid (OwnEvs w3'.heap.size w5 xg l') := HG4.out.below hb5
    have HB5 : Hid (Below W0.heap.size W0 w5) := HB4.out.trans (hb5.mono HB4.out.size)
    have HS5 : Hid (LowEvs wC.heap.size w5 xC l') := HS4.out.below (hb5.mono (by omega))
    have HR5 : Hid (RowTo w5 wC.heap.size l.length l l.length) := HR4.out.below hb5 (by omega)
    have hz45 : w4.heap.size ≤ w5.heap.size := hb5.size
    have HX5 : Hid (LowEvs W0.heap.size w5 (.slice a l.length cap) l) := HX.out.below HB5.out
    clear hb5 HG4 HS4 HR4 HB4 HB2
    go_wp2_with fail
    refine (toEventS_any _ l _ hl HX5.out.isEvs).mono ?_
    rintro r w6 ⟨rfl, hb6, hr6⟩
    have HT6 : Hid (IsEvs w6 (.slice (some ⟨w5.heap.size, 0, none⟩) l.length l.length) l) := hr6.isEvs hl
    have HG6 : Hid (OwnEvs w3'.heap.size w6 xg l') := HG5.out.below hb6
    have HB6 : Hid (Below W0.heap.size W0 w6) := HB5.out.trans (hb6.mono HB5.out.size)
    have HS6 : Hid (LowEvs wC.heap.size w6 xC l') := HS5.out.below (hb6.mono (by omega))
    have HR6 : Hid (RowTo w6 wC.heap.size l.length l l.length) := HR5.out.below hb6 (by omega)
    have hz56 : w5.heap.size ≤ w6.heap.size := hb6.size
    clear hb6 hr6 HG5 HS5 HR5 HB5 HX5
    go_wp2_with fail
    refine (eqS_same _ _ l _ hl (HR6.out.isEvs hl) HT6.out).mono ?_
    rintro r w7 ⟨rfl, hb7⟩
    have HG7 : Hid (OwnEvs w3'.heap.size w7 xg l') := HG6.out.below hb7
    have HB7 : Hid (Below W0.heap.size W0 w7) := HB6.out.trans (hb7.mono HB6.out.size)
    have HS7 : Hid (LowEvs wC.heap.size w7 xC l') := HS6.out.below (hb7.mono (by omega))
    have HR7 : Hid (RowTo w7 wC.heap.size l.length l l.length) := HR6.out.below hb7 (by omega)
    have hz67 : w6.heap.size ≤ w7.heap.size := hb7.size
    clear hb7 HG6 HS6 HR6 HB6 HT6
    go_wp2_with fail
    refine (mark_any wC.heap.size l.length l.length l _ (by omega) ⟨HR7.out.1, HR7.out.2.1, fun i hi => by omega⟩).mono ?_
    rintro r w8 ⟨rfl, _, hg8⟩
    have HG8 : Hid (OwnEvs w3'.heap.size w8 xg l') := HG7.out.other (Nat.lt_of_lt_of_le hz23 hz33) hg8
    have HB8 : Hid (Below W0.heap.size W0 w8) := HB7.out.grown hg8 (by omega) (fun k e => by cases e; omega)
    have HS8 : Hid (LowEvs wC.heap.size w8 xC l') := HS7.out.below ((Below.refl _ w7).grown hg8 (by omega) (fun k e => by cases e; exact Nat.le_refl _))
    have hz78 : w7.heap.size ≤ w8.heap.size := hg8.size
    clear hg8 HG7 HS7 HR7 HB7
    go_wp2_with fail
    refine (eqS_same' _ _ l' _ hl' HG8.out.isEvs HS8.out.isEvs).mono ?_
    rintro r w9 ⟨rfl, hb9⟩
    have HG9 : Hid (OwnEvs w3'.heap.size w9 xg l') := HG8.out.below hb9
    have HB9 : Hid (Below W0.heap.size W0 w9) := HB8.out.trans (hb9.mono HB8.out.size)
    have HS9 : Hid (LowEvs wC.heap.size w9 xC l') := HS8.out.below (hb9.mono (by omega))
    have hz89 : w8.heap.size ≤ w9.heap.size := hb9.size
    clear hb9 HG8 HS8 HB8
    go_wp2_with fail
    refine (mark_own HG9.out hl').mono ?_
    rintro r w10 ⟨m, hm, rfl, hh10, ht10⟩
    have HH10 : Hid (HeldIn w10 xg m) := hh10
    have hbt : Below w3'.heap.size w9 w10 := ht10.below (by omega)
    have HB10 : Hid (Below W0.heap.size W0 w10) := HB9.out.trans (hbt.mono (by omega))
    have HS10 : Hid (LowEvs wC.heap.size w10 xC l') := HS9.out.below (hbt.mono (by omega))
    have hz910 : w9.heap.size ≤ w10.heap.size := hbt.size
    have hmn : ¬ (m < 0) := by omega
    clear hh10 ht10 hbt HG9 HS9 HB9
    go_wp2_with fail
    refine (held_in HH10.out).mono ?_
    rintro r w' ⟨rfl, hw⟩
    have hw' := hw.symm
    clear hw
    subst hw'
    have HX10 : Hid (LowEvs W0.heap.size w10 (.slice a l.length cap) l) := HX.out.below HB10.out
    have HE10 : Hid (EvAt w10 bx 0 e.t e.s e.q e.d e.k e.v e.g) := HE.out.below HB10.out hbz
    obtain ⟨f0, f1, f2, f3, f4, f5, f6⟩ := HE10.out.lits
    go_wp2_with fail
    go_region_held3 (fun W => bx < W.heap.size ∧ W.cell? ⟨bx, 0, none⟩ = some (.int .i64 e.t) ∧ W.cell? ⟨bx, 1, none⟩ = some (.int .i64 e.s) ∧ W.cell? ⟨bx, 2, none⟩ = some (.int .i64 e.q) ∧ W.cell? ⟨bx, 3, none⟩ = some (.int .i64 e.d) ∧ W.cell? ⟨bx, 4, none⟩ = some (.int .i64 e.k) ∧ W.cell? ⟨bx, 5, none⟩ = some (.int .i64 e.v) ∧ W.cell? ⟨bx, 6, none⟩ = some (.int .i64 e.g)) ((repeat' apply And.intro) <;> first | (go_keep; done) | (simp; omega) | omega | (rw [hcD _ _ (by first | omega | (simp; omega))]; simp [*]; done) | (rw [hcE _ _ (by first | omega | (simp; omega))]; simp [*]; done) | (rw [hcF _ _ (by first | omega | (simp; omega))]; simp [*]; done))
      (first
        | (go_at_call 11; refine (toEventS_any _ l _ hl (HX10.out.below (Below.refl _ w10).drew).isEvs).mono ?_; rintro e wD ⟨rfl, hbD, hrD⟩; have HRD : Hid (RowTo wD _ l.length l l.length) := hrD; obtain ⟨hcD, hfD⟩ := bcell hbD; have hzD := hbD.size)
        | (go_at_call 15; refine (toEvent_any e.t e.s e.q e.d e.k e.v e.g _).mono ?_; rintro e wE ⟨rfl, hbE⟩; obtain ⟨hcE, hfE⟩ := bcell hbE; have hzE := hbE.size)
        | (go_at_call 16; refine (HIM.out _ _ (HRD.out.below hbE HRD.out.1)).mono ?_; rintro e wF ⟨⟨xF, rfl, hxF⟩, hbF⟩; obtain ⟨hcF, hfF⟩ := bcell hbF; have hzF := hbF.size))

    have HB12 : Hid (Below w10.heap.size w10 wF) := (((Below.refl _ w10).drew.trans (hbD.mono (by simp))).trans (hbE.mono (by simp at hzD; omega))).trans (hbF.mono (by simp at hzD; omega))
    have HK12 : Hid (IsEvs wF xF l') := hxF.isEvs
    have HH12 : Hid (HeldIn wF xg m) := HH10.out.below HB12.out
    have HS12 : Hid (LowEvs wC.heap.size wF xC l') := HS10.out.below (HB12.out.mono (by omega))
    have hz1012 : w10.heap.size ≤ wF.heap.size := HB12.out.size
    clear hxF hbD hbE hbF hcD hcE hcF hfD hfE hfF hzD hzE hzF hrD HRD HIM HE10 HX10 HS10 HH10 f0 f1 f2 f3 f4 f5 f6
    go_wp2_with fail
    refine (eqS_same' _ _ l' _ hl' HK12.out HS12.out.isEvs).mono ?_
    rintro r w13 ⟨rfl, hb13⟩
    have HH13 : Hid (HeldIn w13 xg m) := HH12.out.below hb13
    have HB13 : Hid (Below W0.heap.size W0 w13) := (HB10.out.trans (HB12.out.mono (by omega))).trans (hb13.mono (by omega))
    clear hb13 HH12 HS12 HB12 HK12 HB10
    go_wp2_with fail
    refine (held_in HH13.out).mono ?_
    rintro r w' ⟨rfl, hw⟩
    have hw' := hw.symm
    clear hw
    subst hw'
    go_wp2
    go_ret
    exact ⟨rfl, by rw [hbx]; exact hB0.trans (HB13.out.mono (by omega))⟩
  · go_enter Try.func4, Try.ntmps4
    go_wp2_with fail
    refine (sz_big a l.length cap _ (Nat.le_trans h1 h2) hl).mono ?_
    rintro r w' ⟨rfl, hw⟩
    have hw' := hw.symm
    clear hw
    subst hw'
    go_wp2
    go_ret
    exact ⟨rfl, hB0⟩
theorem walk (x : Value) (l : List Ev) (t s q d k v g : Int) (w : World) (hx : IsEvs w x l) :
    Calls Try.prog 4 #[x, .agg #[.int .i64 t, .int .i64 s, .int .i64 q, .int .i64 d, .int .i64 k, .int .i64 v, .int .i64 g]] w fun e w' => e = .returned (.bool true) ∧ Below w.heap.size w w' := walkE x l ⟨t, s, q, d, k, v, g⟩ w hx

set_option maxRecDepth 100000 in
theorem lifted (os : Os) (started : os.Started) (H : Type) (enc : TypeId × Value → H) :
    ReturnsInHanded {} Try.checked os 4 .any (Rows.fnExactHeapPushSpec.pre6 enc Try.prog Try.f4 Rows.fnExactHeapPushRow.domain false) (Rows.fnExactHeapPushSpec.post enc Try.prog Try.f4 false true false false) := by
  refine returnsInHanded_of_change (C := Try.checked) own started (by kernel_rfl) Try.func4
    (ChangeSpec.witness6 (enc := enc) (C := Try.checked) false ⟨#[], #[.slice none 0 0, .agg #[.int .i64 0, .int .i64 0, .int .i64 0, .int .i64 0, .int .i64 0, .int .i64 0, .int .i64 0]], []⟩ 8 (by kernel_rfl) (by kernel_rfl) (by kernel_rfl) (by kernel_rfl)) ?_
  intro W base args ds gs before hval0 hW hcnd _
  have hval : ∀ (j : Nat) t v, Try.f4.params[j]? = some t → args[j]? = some v → Value.okWide Try.prog W .any base t v := hval0
  have hW' := hW
  obtain ⟨p, q, hA0, hV, rfl, hfz, hnd⟩ := hW
  have hA : DataW.TrodAll enc Try.prog W 0 (fun _ => true) true Try.f4.params.toList args.toList ds p := hA0
  rw [Try.params4] at hA hval
  obtain ⟨v0, vs0, d0, ds0, p0, q0, hargs, rfl, rfl, h0, r0⟩ := trodAll_cons hA
  obtain ⟨v1, vs1, d1, ds1, p1, q1, rfl, rfl, rfl, h1, r1⟩ := trodAll_cons r0
  obtain ⟨rfl, rfl, rfl⟩ := trodAll_nil r1
  obtain rfl : args = #[v0, v1] := by cases args; simp_all
  obtain ⟨rfl, rfl⟩ := trodVars_none hV
  have k0 := h0
  have lt0 : ∀ x ∈ p0, x.block < W.heap.size := by obtain ⟨m, hm⟩ := k0; exact DataW.trod_lt m _ _ _ hm
  have k1 := h1
  have lt1 : ∀ x ∈ p1, x.block < W.heap.size := by obtain ⟨m, hm⟩ := k1; exact DataW.trod_lt m _ _ _ hm
  obtain ⟨l0, g0⟩ := open_evs (hval 0 22 v0 rfl rfl) h0
  obtain ⟨x10, x11, x12, x13, x14, x15, x16, rfl, u10, u11, u12, u13, u14, u15, u16⟩ := open_ev (hval 1 30 v1 rfl rfl) h1
  clear hA0 hval0
  refine (walk v0 l0 x10 x11 x12 x13 x14 x15 x16 W g0).mono fun e W' ⟨he, bel⟩ => ?_
  subst he
  exact ⟨_, rfl, _, _, _, [], _, [], hW', trodAll_mk1 (shut_bool Try.underlying4 _), (trodAll_cons_mk (Below.trod laidOut (by kernel_rfl) (of_decide_eq_true (by kernel_rfl)) k0 bel lt0) (trodAll_cons_mk (Below.trod laidOut (by kernel_rfl) (of_decide_eq_true (by kernel_rfl)) k1 bel lt1) trodAll_mk0)), rfl, bel.frame _, fun h => by cases h⟩

theorem over : Rows.fnExactHeapPushRow.holds Try.pinned (OpenSpec.ofChange Rows.fnExactHeapPushSpec) :=
  OpenClaim.holds_of_wide 4 Try.f4 rfl rfl rfl rfl rfl rfl rfl ⟨rfl, rfl, rfl, rfl, rfl⟩ rfl rfl rfl rfl rfl (by kernel_rfl) Try.func4 (by kernel_rfl)
    (of_decide_eq_true (by kernel_rfl)) (by unfold Func.isWrapper; first | (rw [if_pos (by decide +kernel)]; kernel_rfl) | (rw [if_neg (by decide +kernel)]; exact ⟨rfl, rfl⟩))
    (fun os started H enc _ => lifted os started H enc)
end Go.Proofs.Ythklekjglocbgaa.LawHeapPush
namespace Go.Proofs.Ythklekjglocbgaa
theorem heapPush_holds : Rows.FnExactHeapPushSaid := LawHeapPush.over
#print axioms heapPush_holds
end Go.Proofs.Ythklekjglocbgaa

