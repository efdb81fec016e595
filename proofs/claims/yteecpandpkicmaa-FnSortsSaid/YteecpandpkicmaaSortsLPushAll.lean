/- The program's pushAll, where all go in. -/
import Derived.Test.YteecpandpkicmaaSortsLPushU
import Derived.Test.YteecpandpkicmaaSortsG09
import Derived.Test.YteecpandpkicmaaSortsLQuietR
import Derived.Test.YteecpandpkicmaaSortsG26
import Derived.Test.YteecpandpkicmaaSortsG05
namespace Go.Proofs.Yteecpandpkicmaa
open Go.RowKit Go.Shelf Go.Maps Go.WideShapes
attribute [local go_sem] Oper.semAt_some
theorem wideFn (f : FuncId) : Fence.wide.fn f = True := eq_true trivial
theorem OwnR.parts {B : Nat} {w : World} {x : Value} {l : List Ev} (h : OwnR B w x l) (hw : 0 < w.heap.size) : ∃ a cap b, x = .slice a l.length cap ∧ b < w.heap.size ∧ (l = [] ∨ ∃ off, a = some ⟨b, off, none⟩ ∧ EvsAt w b off l) := h.evs.parts hw

theorem atKey_no {l : List Ev} {tag : Int} (hw : ∀ i, i < l.length → wfI (evAt l i).g) (ht : wfI tag) (h : NoTag l tag) (d : DataW Unit) : (placesD (H := Unit) l (List.finRange l.length)).atKey (keyL tag) d = d := by
  have hD := placesD_isMap l l.length (Nat.le_refl _)
  rw [finRange_all] at hD
  rw [hD]
  simp only [DataW.atKey]
  cases hf : (placesE l l.length).find? (fun p => p.1.sameKey (keyL tag)) with
  | none => rfl
  | some q =>
    have hq := List.find?_some hf
    obtain ⟨j, hj, rfl, _⟩ := (placesAt l hw l.length (Nat.le_refl _)).ent q (List.mem_of_find?_eq_some hf)
    simp only [sameKey_keyL (hw j hj) ht, decide_eq_true_eq] at hq
    exact absurd hq (h j hj)
theorem look_no {w : World} {M n : Nat} {l : List Ev} {tag : Int} (hown : w.ownsMap Try.prog 25 (plainElem (H := Unit) Try.prog 3) M n (placesD l (List.finRange l.length))) (hw : ∀ i, i < l.length → wfI (evAt l i).g) (ht : wfI tag) (h : NoTag l tag) :
    (Instr.lookup 51 (.map (some M)) (keyV tag) true).run Try.prog w = .ok (.tuple #[.int .i64 0, .bool false]) w := by
  obtain ⟨v, ps, hrun, hv⟩ := hown.look_ok keyed25 Try.underlying51 (Try.zeroValue3 w) (plainElem_int Try.underlying3 (by decide)) (keyOf_tag tag ht)
  rw [has_no hw ht h] at hrun
  rw [atKey_no hw ht h] at hv
  obtain ⟨c, rfl, hc, _⟩ := plainElem_int_inv Try.underlying3 hv
  cases hc
  exact hrun
theorem keepsOthers_of_turns {S : Nat → Prop} {W W' : World} (h : Turns S W W') (hS : ∀ k o, S k → W.heap[k]? = some o → o.isCells = true) : KeepsOthers W W' :=
  ⟨h.size, fun k o hk ho => (h.block k (Array.getElem?_eq_some_iff.1 hk).1 (fun hs => by have := hS k o hs hk; rw [ho] at this; cases this)).trans hk⟩
/- The events of some places, in order. -/
def evsOf (l : List Ev) (pre : List (Fin l.length)) : List Ev := pre.map fun x => evAt l x.val
theorem evsOf_all (l : List Ev) : evsOf l (List.finRange l.length) = l := by
  refine ext_ev (by simp [evsOf]) (fun j hj => ?_)
  have hj' : j < l.length := by simpa [evsOf] using hj
  unfold evsOf
  simp [evAt, hj']
theorem fold_length : ∀ (l m : List Ev), (l.foldl pushL m).length = m.length + l.length
  | [], m => by simp
  | e :: l, m => by rw [List.foldl_cons, fold_length l, pushL_length, List.length_cons]; omega
theorem kept_fold {Q : Ev → Prop} : ∀ (l m : List Ev), Kept Q m → (∀ e ∈ l, Q e) → Kept Q (l.foldl pushL m)
  | [], _, h, _ => h
  | e :: l, m, h, k => kept_fold l (pushL m e) (kept_pushL.2 ⟨h, k e (by simp)⟩) (fun e' he => k e' (by simp [he]))
theorem pile_own (B P : Nat) (v : Value) (m l : List Ev) (W2 : World) : OwnFrom W2.heap.size (fun (pre : List (Fin l.length)) W3 => ∃ v', Pl W3 B P v' ((evsOf l pre).foldl pushL m) ∧ NewRow W2 v v' ∧ Turns (fun k => k = P ∨ v.ownBlock = some k) W2 W3) := by
  rintro pre X Y row ⟨v', h1, h2, h3⟩ hg hr
  have hrow := fun r e => (hr r e).2
  refine ⟨v', ⟨h1.box.kept hg (fun e => ?_), ?_, h1.low⟩, h2, h3.later ⟨hg.os, hg.tape, hg.output, hg.size, fun k hk hn => hg.block k hk (fun e => hn (hr k e.symm).1)⟩⟩
  · obtain ⟨o, ho, hc⟩ := hrow P e.symm
    have hh := h1.box
    unfold Boxed at hh
    rw [hh] at ho; cases ho; cases hc
  · refine h1.row.kept hg ?_
    obtain ⟨_, ⟨e1, _⟩ | ⟨g1, cap1, cur1, e1, _, hc1, _⟩⟩ := h1.row
    · subst e1; exact .inl rfl
    · subst e1
      refine .inr (fun e => ?_)
      obtain ⟨o, ho, hc⟩ := hrow g1 e.symm
      rw [hc1] at ho; cases ho; cases hc
set_option maxRecDepth 100000 in
set_option maxHeartbeats 8000000 in
theorem pushAll_ok (B P : Nat) (v : Value) (m : List Ev) (a : Option Addr) (cap b : Nat) (l : List Ev) (w : World) (hl : l.length ≤ 2000) (hB : B ≤ w.heap.size) (hp : Pl w B P v m)
    (hI : l = [] ∨ ∃ off, a = some ⟨b, off, none⟩ ∧ EvsAt w b off l) (hb : b < w.heap.size) (hbP : b ≠ P) (hbv : v.ownBlock ≠ some b) (hsum : m.length + l.length ≤ 2000)
    (hok : Kept (fun e => e.ok = true) m) (hokl : ∀ i, i < l.length → (evAt l i).ok = true) (hdis : ∀ i, i < l.length → NoTag m (evAt l i).g) :
    Calls Try.prog 41 #[pv P, .slice a l.length cap] w fun e w' => e = .returned (.bool true) ∧ (∃ v', Pl w' B P v' (l.foldl pushL m) ∧ NewRow w v v') ∧ Turns (fun k => k = P ∨ v.ownBlock = some k) w w' := by
  have hml := fun w => m_len P w
  have hme := fun w => m_events P w
  have HVW0 : Hid (∀ g, v.ownBlock = some g → g < w.heap.size) := fun g e => (OwnR.block hp.row e).2
  obtain ⟨av, capv, hv, hmm⟩ := hp.slice
  have hPw : P < w.heap.size := hp.box.lt
  have hP0 : Pl ((w.alloc (.cells #[pv P] 61)).alloc (.cells #[.bool false] 4)) B P v m := (hp.alloc _).alloc _
  have HLN : Hid (Calls Try.prog 86 #[.pointer (some ⟨P, 0, none⟩)] ((w.alloc (.cells #[pv P] 61)).alloc (.cells #[.bool false] 4)) fun e w' => e = .returned (.int .i64 (m.length : Int)) ∧ w' = ((w.alloc (.cells #[pv P] 61)).alloc (.cells #[.bool false] 4))) := len_any av P m.length capv _ (by have := hP0.box.cell; rw [hv] at this; exact this)
  have HEV : Hid (Calls Try.prog 91 #[.pointer (some ⟨P, 0, none⟩)] ((w.alloc (.cells #[pv P] 61)).alloc (.cells #[.bool false] 4)) fun e w' => ∃ y, e = .returned y ∧ OwnR ((w.alloc (.cells #[pv P] 61)).alloc (.cells #[.bool false] 4)).heap.size w' y m ∧ Below ((w.alloc (.cells #[pv P] 61)).alloc (.cells #[.bool false] 4)).heap.size ((w.alloc (.cells #[pv P] 61)).alloc (.cells #[.bool false] 4)) w') := events_any B P v m _ (by omega) hP0
  have cP := (Boxed.new w 61 (pv P)).alloc (.cells #[.bool false] 4)
  have cR := Boxed.new (w.alloc (.cells #[pv P] 61)) 4 (.bool false)
  simp only [World.size_alloc] at cP cR
  have hsum' : ¬ ((2000 : Int) < (m.length : Int) + (l.length : Int)) := by omega
  have hT0 : Turns (fun k => k = P ∨ v.ownBlock = some k) w ((w.alloc (.cells #[pv P] 61)).alloc (.cells #[.bool false] 4)) := ((Turns.refl _ w).alloc _).alloc _
  have hT0_b : Below w.heap.size w ((w.alloc (.cells #[pv P] 61)).alloc (.cells #[.bool false] 4)) := ((Below.refl _ w).alloc (Nat.le_refl _) _).alloc (by simp) _
  have hs0 : ((w.alloc (.cells #[pv P] 61)).alloc (.cells #[.bool false] 4)).heap.size = w.heap.size + 2 := by simp
  refine (callsIn_wide (n := 5)).1 ?_
  refine callsIn_of_wp_marks Try.func41 rfl trivial ?_ rfl
  simp only [Try.ntmps41, List.size_toArray, List.length_cons, List.length_nil, Nat.reduceAdd, Nat.reduceSub, Array.replicate_succ, Array.replicate_zero, List.push_toArray, List.append_toArray, List.nil_append, List.cons_append]
  gi_wp2_with (refine ⟨trivial, ?_⟩; gi_at_call 86; refine (callsIn_wide.2 HLN.out).mono ?_; rintro e w' ⟨rfl, rfl⟩)
  refine ⟨trivial, (callsIn_wide.2 HEV.out).mono ?_⟩
  rintro e wE ⟨y, rfl, hy, hbE⟩
  have hwf : ∀ i, i < m.length → wfI (evAt m i).g := fun i hi => okB_tag (hok i hi)
  rw [hs0] at hbE hy
  have hsE : w.heap.size + 2 ≤ wE.heap.size := by have := hbE.size; omega
  obtain ⟨ay, capy, bY, rfl, hbY, hIY⟩ := hy.parts (by omega)
  clear HLN HEV
  gi_wp2_with fail
  refine ⟨trivial, (callsIn_wide.2 (places_any (H := Unit) ay capy bY m wE (by omega) hIY hbY hwf)).mono ?_⟩
  rintro e wM ⟨rfl, hownM, hbM⟩
  have hsM : wE.heap.size < wM.heap.size := by obtain ⟨es, ck, h1, _⟩ := hownM; exact (Array.getElem?_eq_some_iff.1 h1).1
  have hbA : Below (w.heap.size + 2) ((w.alloc (.cells #[pv P] 61)).alloc (.cells #[.bool false] 4)) wM := hbE.trans (hbM.mono hsE)
  have hbB : Below wM.heap.size wM ((wM.alloc (.cells #[.map (some wE.heap.size)] 51)).alloc (.cells #[.slice a l.length cap] 23)) := ((Below.refl _ wM).alloc (Nat.le_refl _) _).alloc (by simp) _
  have cM := (Boxed.new wM 51 (.map (some wE.heap.size))).alloc (.cells #[.slice a l.length cap] 23)
  have cS := Boxed.new (wM.alloc (.cells #[.map (some wE.heap.size)] 51)) 23 (.slice a l.length cap)
  simp only [World.size_alloc] at cM cS
  have hownL := ownsMap_below hownM hbB hsM
  have hbL : Below (w.heap.size + 2) ((w.alloc (.cells #[pv P] 61)).alloc (.cells #[.bool false] 4)) ((wM.alloc (.cells #[.map (some wE.heap.size)] 51)).alloc (.cells #[.slice a l.length cap] 23)) := hbA.trans (hbB.mono (by omega))
  have hzL : ((wM.alloc (.cells #[.map (some wE.heap.size)] 51)).alloc (.cells #[.slice a l.length cap] 23)).heap.size = wM.heap.size + 2 := by simp
  gi_wp2_with (refine ⟨trivial, ?_⟩; gi_at_call 54; refine (callsIn_wide.2 (each_any _ _ _ _)).mono ?_; rintro e w' ⟨rfl, rfl⟩)
  generalize (wM.alloc (.cells #[.map (some wE.heap.size)] 51)).alloc (.cells #[.slice a l.length cap] 23) = WL at *
  have cPL : Boxed WL w.heap.size 61 (pv P) := (hbL.block _ (by omega)).trans cP
  have cRL : Boxed WL (w.heap.size + 1) 4 (.bool false) := (hbL.block _ (by omega)).trans cR
  have hPL : Pl WL B P v m := hP0.low2 hbL (by omega) (fun g e => by have := (OwnR.block hp.row e).2; omega)
  have hIL : l = [] ∨ ∃ off, a = some ⟨b, off, none⟩ ∧ EvsAt WL b off l := hI.imp id (fun ⟨off, e, h⟩ => ⟨off, e, (h.below hT0_b (by omega)).below hbL (by omega)⟩)
  have hTL : Turns (fun k => k = P ∨ v.ownBlock = some k) w WL := hT0.trans ⟨hbL.os, hbL.tape, hbL.output, hbL.size, fun k hk _ => hbL.block k (by rw [hs0] at hk; exact hk)⟩
  clear hP0 hT0 hbB hbM hbE hbA hownM cP cR hbL hIY hy hp
  have HVW : Hid (∀ g, v.ownBlock = some g → g < w.heap.size) := HVW0.out
  have HOKM : Hid (Kept (fun e => e.ok = true) m) := hok
  have HWF : Hid (∀ i, i < m.length → wfI (evAt m i).g) := hwf
  have HOKL : Hid (∀ i, i < l.length → (evAt l i).ok = true) := hokl
  have HDIS : Hid (∀ i, i < l.length → NoTag m (evAt l i).g) := hdis
  have hmo : Try.prog.follows .mixedOrders = true := by kernel_rfl
  clear hwf hokl hdis hml hme
  refine wpIn_rangeFunc_ownH rfl (by omega) (gf := 65) (lb := #[.pointer (some ⟨wM.heap.size + 1, 0, none⟩)]) rfl trivial (enters_of Try.func65 (by kernel_rfl) rfl)
    (each_stops Fence.wide 4 trivial rfl (by omega) (wM.heap.size + 1) b a cap l (by omega) WL (by omega) cS.cell hIL) Same2.trans (Same2.putObj (by omega) (by omega)) (Below.refl _ _) (fun _ => rfl)
    (fun pre W => Below WL.heap.size WL W)
    (fun _ _ _ => False)
    (ownFrom_below (Nat.le_refl _) (Nat.le_refl _))
    (fun _ _ _ _ _ hs _ _ => hs)
    (Below.refl _ _)
    (fun x a' W => ∃ Bx, WL.heap.size ≤ Bx ∧ Bx < W.heap.size ∧ Ev.In W Bx 0 (evAt l x.val) ∧ a' = { tmps := #[pv P, .slice a l.length cap, .pointer (some ⟨w.heap.size, 0, none⟩), undef, .pointer (some ⟨w.heap.size + 1, 0, none⟩), .pointer (some ⟨wM.heap.size, 0, none⟩), undef, .pointer (some ⟨Bx, 0, none⟩), undef, undef, undef, undef, pv P, .int .i64 (m.length : Int), .slice a l.length cap, .int .i64 (l.length : Int), .int .i64 ((m.length : Int) + (l.length : Int)), .bool (decide ((2000 : Int) < (m.length : Int) + (l.length : Int))), pv P, .slice ay m.length capy, .map (some wE.heap.size), .slice a l.length cap, .func (.func 65) #[] #[.pointer (some ⟨wM.heap.size + 1, 0, none⟩)], .int .i64 ((x.val : Nat) : Int), (evAt l x.val).val, undef, undef, undef, undef, undef, undef, undef, undef, undef, undef, undef, undef, undef, undef, undef, undef, undef], defers := [] })
    (fun x a' s A B row hs hg hr => by obtain ⟨Bx, h1, h2, h3, h4⟩ := hs; exact ⟨Bx, h1, Nat.lt_of_lt_of_le h2 hg.size, h3.kept hg (fun r e => (hr r e).2), h4⟩) ?assign ?body ?done ?stop
  case assign =>
    rintro lp pre x W K hB hK
    have hz := hB.size
    gi_wp2
    have hBW : Below W.heap.size W (W.alloc (.cells #[.int .i64 (evAt l x.val).t, .int .i64 (evAt l x.val).s, .int .i64 (evAt l x.val).q, .int .i64 (evAt l x.val).d, .int .i64 (evAt l x.val).k, .int .i64 (evAt l x.val).v, .int .i64 (evAt l x.val).g] 25)) := (Below.refl _ W).alloc (Nat.le_refl _) _
    exact hK _ _ ((KeepsOthers.alloc _ _).from _) (Same2.below hBW (by omega) (by omega)) (hB.trans (hBW.mono hz)) ⟨W.heap.size, hz, by simp, EvAt.new _ _ _ _ _ _ _ _ _, rfl⟩
  case body =>
    rintro lp pre x a' W hlp _ hB ⟨Bx, h1, h2, h3, rfl⟩ hlt
    have hz := hB.size
    have HB : Hid (Below WL.heap.size WL W) := hB
    obtain ⟨kx, hkx⟩ : ∃ kx, x.val = kx := ⟨_, rfl⟩
    have hkl : kx < l.length := by rw [← hkx]; exact x.isLt
    rw [hkx] at h3
    have f6 := (h3.beyond h2).2.2.2.2.2.2
    have hcM : ∀ p : Beyond W, p.w.cell? ⟨wM.heap.size, 0, none⟩ = some (.map (some wE.heap.size)) := fun p => p.cell (by omega) ((hB.cell (p := ⟨wM.heap.size, 0, none⟩) (by simp; omega)).trans cM.cell)
    have hlk : ∀ p : Beyond W, (Instr.lookup 51 (.map (some wE.heap.size)) (keyV (evAt l kx).g) true).run Try.prog p.w = .ok (.tuple #[.int .i64 0, .bool false]) p.w := fun p => look_no (ownsMap_below (ownsMap_below hownL hB (by omega)) p.h (by omega)) HWF.out (okB_tag (HOKL.out kx hkl)) (HDIS.out kx hkl)
    have hne : Nonempty (Beyond W) := ⟨⟨W, Below.refl _ _⟩⟩
    have hwf : ∀ f, Fence.wide.fn f = True := wideFn
    clear h3 hB cM cS hownL cPL cRL hPL hIL hTL
    simp only [hkx]
    gi_wp2
    refine region_round hmo (by kernel_rfl) (by simp) ?_
    repeat (gi_big_quiet_step (first | (gi_at_call 30; exact Beyond.inRound lp (callsIn_wide.2 (tagKey_any _ _)))))
    refine wpQuietIn_nil ?_
    rintro w2 ⟨⟨_, hb2⟩, rfl⟩
    clear f6 hcM hlk
    gi_wp2
    exact ⟨(keepsOthers_of_below hb2).from _, Same2.below hb2 (by omega) (by omega), HB.out.trans (hb2.mono hz)⟩
  case stop =>
    rintro D c pre W _ _ h _
    exact h.elim
  case done =>
    rintro D1 ys W hD1 rfl hBW1 hK1
    have hz := hBW1.size
    have hvw : ∀ g, v.ownBlock = some g → g < w.heap.size := HVW.out
    have cS2 := Boxed.new W 23 (.slice a l.length cap)
    have hb2 : Below WL.heap.size WL (W.alloc (.cells #[.slice a l.length cap] 23)) := hBW1.alloc hz _
    have hK2 : (W.alloc (.cells #[.slice a l.length cap] 23)).heap[D1]? = some (.deferred (some [])) := (Below.heap_alloc _ _ _ (Array.getElem?_eq_some_iff.1 hK1).1).trans hK1
    have hz2 : (W.alloc (.cells #[.slice a l.length cap] 23)).heap.size = W.heap.size + 1 := by simp
    have hD1w : D1 < W.heap.size := (Array.getElem?_eq_some_iff.1 hK1).1
    gi_wp2_with (refine ⟨trivial, ?_⟩; gi_at_call 54; refine (callsIn_wide.2 (each_any _ _ _ _)).mono ?_; rintro e w' ⟨rfl, rfl⟩)
    generalize W.alloc (.cells #[.slice a l.length cap] 23) = W2 at *
    have cP2 : Boxed W2 w.heap.size 61 (pv P) := (hb2.block _ (by omega)).trans cPL
    have cR2 : Boxed W2 (w.heap.size + 1) 4 (.bool false) := (hb2.block _ (by omega)).trans cRL
    have hP2 : Pl W2 B P v m := hPL.low2 hb2 (by omega) (fun g e => by have := hvw g e; omega)
    have hI2 : l = [] ∨ ∃ off, a = some ⟨b, off, none⟩ ∧ EvsAt W2 b off l := hIL.imp id (fun ⟨off, e, h⟩ => ⟨off, e, h.below hb2 (by omega)⟩)
    have hT2 : Turns (fun k => k = P ∨ v.ownBlock = some k) w W2 := hTL.trans (Turns.of_below hb2)
    clear hK1 hBW1 cS cM hownL cPL cRL hPL hIL hTL
    refine wpIn_rangeFunc_ownH rfl (by omega) (gf := 65) (lb := #[.pointer (some ⟨W.heap.size, 0, none⟩)]) rfl trivial (enters_of Try.func65 (by kernel_rfl) rfl)
      (each_stops Fence.wide 4 trivial rfl (by omega) W.heap.size b a cap l (by omega) W2 (by omega) cS2.cell hI2) Same2.trans (Same2.putObj (by omega) (by omega)) (Below.refl _ _) (fun _ => rfl)
      (fun pre W3 => ∃ v', Pl W3 B P v' ((evsOf l pre).foldl pushL m) ∧ NewRow W2 v v' ∧ Turns (fun k => k = P ∨ v.ownBlock = some k) W2 W3)
      (fun _ _ _ => False)
      (pile_own B P v m l W2)
      (fun _ _ _ _ _ hs _ _ => hs)
      ⟨v, hP2, .inl rfl, Turns.refl _ _⟩
      (fun x a' W3 => ∃ Bx, W2.heap.size ≤ Bx ∧ Bx < W3.heap.size ∧ Ev.In W3 Bx 0 (evAt l x.val) ∧ a' = { tmps := #[pv P, .slice a l.length cap, .pointer (some ⟨w.heap.size, 0, none⟩), undef, .pointer (some ⟨w.heap.size + 1, 0, none⟩), .pointer (some ⟨wM.heap.size, 0, none⟩), undef, undef, undef, undef, undef, .pointer (some ⟨Bx, 0, none⟩), pv P, .int .i64 (m.length : Int), .slice a l.length cap, .int .i64 (l.length : Int), .int .i64 ((m.length : Int) + (l.length : Int)), .bool (decide ((2000 : Int) < (m.length : Int) + (l.length : Int))), pv P, .slice ay m.length capy, .map (some wE.heap.size), .slice a l.length cap, .func (.func 65) #[] #[.pointer (some ⟨wM.heap.size + 1, 0, none⟩)], undef, undef, undef, undef, undef, undef, undef, undef, undef, undef, undef, .slice a l.length cap, .func (.func 65) #[] #[.pointer (some ⟨W.heap.size, 0, none⟩)], .int .i64 ((x.val : Nat) : Int), (evAt l x.val).val, undef, undef, undef, undef], defers := [] })
      (fun x a' s A B row hs hg hr => by obtain ⟨Bx, h1, h2, h3, h4⟩ := hs; exact ⟨Bx, h1, Nat.lt_of_lt_of_le h2 hg.size, h3.kept hg (fun r e => (hr r e).2), h4⟩) ?assign ?body ?done ?stop
    case assign =>
      rintro lp pre x W3 K ⟨v', hp3, hn3, ht3⟩ hK
      have hz3 := ht3.size
      gi_wp2
      have hBW : Below W3.heap.size W3 (W3.alloc (.cells #[.int .i64 (evAt l x.val).t, .int .i64 (evAt l x.val).s, .int .i64 (evAt l x.val).q, .int .i64 (evAt l x.val).d, .int .i64 (evAt l x.val).k, .int .i64 (evAt l x.val).v, .int .i64 (evAt l x.val).g] 25)) := (Below.refl _ W3).alloc (Nat.le_refl _) _
      exact hK _ _ ((KeepsOthers.alloc _ _).from _) (Same2.below hBW (by omega) (by omega)) ⟨v', hp3.alloc _, hn3, ht3.alloc _⟩ ⟨W3.heap.size, hz3, by simp, EvAt.new _ _ _ _ _ _ _ _ _, rfl⟩
    case body =>
      rintro lp pre x a' W3 hlp _ ⟨v', hp3, hn3, ht3⟩ ⟨Bx, h1, h2, h3, rfl⟩ hlt
      have hz3 := ht3.size
      obtain ⟨f0, f1, f2, f3, f4, f5, f6⟩ := h3.lits
      have hcp : W3.cell? ⟨w.heap.size, 0, none⟩ = some (pv P) := (ht3.cell (by omega) (fun h => by rcases h with h | h; omega; have := hvw _ h; omega)).trans cP2.cell
      have hoks : Kept (fun e => e.ok = true) ((evsOf l pre).foldl pushL m) := kept_fold (evsOf l pre) m HOKM.out (fun e he => by
        obtain ⟨y, _, rfl⟩ := List.mem_map.1 he
        exact HOKL.out y.val y.isLt)
      have hlenf : ((evsOf l pre).foldl pushL m).length = m.length + pre.length := by rw [fold_length]; simp [evsOf]
      have HPU : Hid (Calls Try.prog 59 #[pv P, .iface 25 (.agg #[.int .i64 (evAt l x.val).t, .int .i64 (evAt l x.val).s, .int .i64 (evAt l x.val).q, .int .i64 (evAt l x.val).d, .int .i64 (evAt l x.val).k, .int .i64 (evAt l x.val).v, .int .i64 (evAt l x.val).g])] W3 fun r w' => (∃ u, r = .returned u) ∧ (∃ v2, Pl w' B P v2 (pushL ((evsOf l pre).foldl pushL m) (evAt l x.val)) ∧ NewRow W3 v' v2) ∧ Turns (fun k => k = P ∨ v'.ownBlock = some k) W3 w') := libPush_one B P v' ((evsOf l pre).foldl pushL m) (evAt l x.val) W3 (by omega) hp3 (by omega) hoks (HOKL.out x.val x.isLt)
      have HP3 : Hid (Pl W3 B P v' ((evsOf l pre).foldl pushL m)) := hp3
      have HN3 : Hid (NewRow W2 v v') := hn3
      have HT3 : Hid (Turns (fun k => k = P ∨ v.ownBlock = some k) W2 W3) := ht3
      have HV' : Hid (∀ k, k < W2.heap.size → v'.ownBlock = some k → v.ownBlock = some k) := fun k hk e => by
        rcases hn3 with h | h
        · rw [← h]; exact e
        · have := h k e; omega
      clear hp3 hn3 ht3 hoks hlenf h3
      gi_wp2_with (refine ⟨trivial, ?_⟩; gi_at_call 59; refine (CallsIn.inRound lp (callsIn_wide.2 HPU.out)).mono ?_; rintro e w4 ⟨⟨u, rfl⟩, ⟨v2, hp4, hn4⟩, ht4⟩)
      refine ⟨(keepsOthers_of_turns ht4 ?_).from _, ⟨ht4.block _ (by omega) (fun h => ?_), ht4.block _ (by omega) (fun h => ?_)⟩, v2, ?_, ?_, ?_⟩
      · rintro k o (rfl | e) hk
        · have hh := HP3.out.box
          unfold Boxed at hh
          rw [hh] at hk; cases hk; rfl
        · obtain ⟨_, ⟨e1, _⟩ | ⟨g1, cap1, cur1, e1, _, hc1, _⟩⟩ := HP3.out.row
          · rw [e1] at e; cases e
          · rw [e1] at e; cases e; rw [hc1] at hk; cases hk; rfl
      · rcases h with h | h
        · omega
        · have := hvw _ (HV'.out _ (by omega) h); omega
      · rcases h with h | h
        · exact hbP h
        · exact hbv (HV'.out _ (by omega) h)
      · unfold evsOf; rw [List.map_append, List.foldl_append]; exact hp4
      · rcases hn4 with h | h
        · rcases HN3.out with h' | h'
          · exact .inl (h.trans h')
          · exact .inr (fun k e => h' k (by rw [← h]; exact e))
        · exact .inr (fun k e => by have := h k e; omega)
      · exact ⟨ht4.os.trans HT3.out.os, ht4.tape.trans HT3.out.tape, ht4.output.trans HT3.out.output, Nat.le_trans hz3 ht4.size, fun k hk hS => (ht4.block k (by omega) (fun h => hS (h.imp id (HV'.out k hk)))).trans (HT3.out.block k hk hS)⟩
    case stop =>
      rintro D c pre W3 _ _ h _
      exact h.elim
    case done =>
      rintro D2 ys W3 hD2 rfl ⟨v', hp3, hn3, ht3⟩ hK3
      have hz3 := ht3.size
      have hcr : W3.cell? ⟨w.heap.size + 1, 0, none⟩ = some (.bool false) := (ht3.cell (by omega) (fun h => by rcases h with h | h; omega; have := hvw _ h; omega)).trans cR2.cell
      have hfr : W3.frozen? ⟨w.heap.size + 1, 0, none⟩ = false := (ht3.frozen (by omega) (fun h => by rcases h with h | h; omega; have := hvw _ h; omega)).trans cR2.frozen
      have hK1 : W3.heap[D1]? = some (.deferred (some [])) := (ht3.block D1 (by omega) (fun h => by rcases h with h | h; omega; have := hvw _ h; omega)).trans hK2
      have HP3 : Hid (Pl W3 B P v' ((evsOf l (List.finRange l.length)).foldl pushL m)) := hp3
      have HN3 : Hid (NewRow W2 v v') := hn3
      have HT3 : Hid (Turns (fun k => k = P ∨ v.ownBlock = some k) W2 W3) := ht3
      clear hp3 hn3 ht3
      gi_wp2
      have hD12 : D1 ≠ D2 := by omega
      have hK3' := (KeepsOthers.setCell W3 ⟨w.heap.size + 1, 0, none⟩ (.bool true)).same D2 _ hK3 rfl
      have hK1' := (KeepsOthers.setCell W3 ⟨w.heap.size + 1, 0, none⟩ (.bool true)).same D1 _ hK1 rfl
      have hK1'' : ((W3.setCell ⟨w.heap.size + 1, 0, none⟩ (.bool true)).putObj D2 (.deferred none)).heap[D1]? = some (.deferred (some [])) := (World.putObj_heap_other hD12).trans hK1'
      have hc5 := cell_kept (World.cell?_setCell_same' W3 ⟨w.heap.size + 1, 0, none⟩ (.bool true) (by rw [hcr]; rfl)) (grownBy_putObj' _ D2 (.deferred none)) (fun r e => by cases e; exact ⟨_, hK3', rfl⟩)
      have hc6 := cell_kept hc5 (grownBy_putObj' _ D1 (.deferred none)) (fun r e => by cases e; exact ⟨_, hK1'', rfl⟩)
      have hTf : Turns (fun k => k = w.heap.size + 1 ∨ k = D2 ∨ k = D1) W3 (((W3.setCell ⟨w.heap.size + 1, 0, none⟩ (.bool true)).putObj D2 (.deferred none)).putObj D1 (.deferred none)) := (((Turns.refl (fun k => k = w.heap.size + 1 ∨ k = D2 ∨ k = D1) W3).setCell (p := ⟨w.heap.size + 1, 0, none⟩) (.inl rfl) (.bool true)).grown (grownBy_putObj' _ D2 (.deferred none)) (fun k e => by cases e; exact .inr (.inl rfl))).grown (grownBy_putObj' _ D1 (.deferred none)) (fun k e => by cases e; exact .inr (.inr rfl))
      have hgo : ∀ g, v'.ownBlock = some g → ¬ (g = w.heap.size + 1 ∨ g = D2 ∨ g = D1) := fun g e => by
        have hcell : ∃ cur q, W3.heap[g]? = some (.cells cur 25 q) := by
          obtain ⟨_, ⟨e1, _⟩ | ⟨g1, cap1, cur1, e1, _, hc1, _⟩⟩ := HP3.out.row
          · rw [e1] at e; cases e
          · rw [e1] at e; cases e; exact ⟨cur1, _, hc1⟩
        obtain ⟨cur, q, hcell⟩ := hcell
        rintro (h | h | h)
        · rcases HN3.out with h' | h'
          · have := hvw g (by rw [← h']; exact e); omega
          · have := h' g e; omega
        · rw [h, hK3] at hcell; cases hcell
        · rw [h, hK1] at hcell; cases hcell
      refine ⟨by simp, .inl ⟨_, _, rfl, run_takeDeferred hK3', by simp, .inl ⟨_, _, rfl, run_takeDeferred hK1'', ?_⟩⟩⟩
      refine ⟨.bool true, ?_, rfl, ⟨v', ?_, newRow_mono HN3.out (by omega)⟩, ((hT2.trans HT3.out).later (hTf.mono (fun k h => by omega)))⟩
      · simp [results, Try.f41, go_sem, hc6]
      · have h9 := HP3.out
        rw [evsOf_all] at h9
        exact h9.turns hTf (by omega) hgo
end Go.Proofs.Yteecpandpkicmaa
