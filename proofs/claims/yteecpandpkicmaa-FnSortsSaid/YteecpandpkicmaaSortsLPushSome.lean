/- The program's pushAll, where a tag is there already. -/
import Derived.Test.YteecpandpkicmaaSortsLPushNo
namespace Go.Proofs.Yteecpandpkicmaa
open Go.RowKit Go.Shelf Go.Maps Go.WideShapes
attribute [local go_sem] Oper.semAt_some
set_option maxRecDepth 100000 in
set_option maxHeartbeats 8000000 in
theorem pushAll_some (B P : Nat) (v : Value) (m : List Ev) (a : Option Addr) (cap b : Nat) (l : List Ev) (w : World) (q : Nat) (hl : l.length ≤ 2000) (_hB : B ≤ w.heap.size) (hp : Pl w B P v m)
    (hI : l = [] ∨ ∃ off, a = some ⟨b, off, none⟩ ∧ EvsAt w b off l) (hb : b < w.heap.size) (hsum : m.length + l.length ≤ 2000)
    (hok : Kept (fun e => e.ok = true) m) (hdm : ∀ i, i < m.length → ∀ j, j < i → (evAt m j).g ≠ (evAt m i).g) (hokl : ∀ i, i < l.length → (evAt l i).ok = true) (hq : q < l.length) (hk : ¬ NoTag m (evAt l q).g) :
    Calls Try.prog 41 #[pv P, .slice a l.length cap] w fun e w' => e = .returned (.bool false) ∧ Pl w' B P v m ∧ Below w.heap.size w w' := by
  have hml := fun w => m_len P w
  have hme := fun w => m_events P w
  have HVW0 : Hid (∀ g, v.ownBlock = some g → g < w.heap.size) := fun g e => (OwnR.block hp.row e).2
  obtain ⟨av, capv, hv, hmm⟩ := hp.slice
  have hPw : P < w.heap.size := hp.box.lt
  have hP0 : Pl ((w.alloc (.cells #[pv P] 61)).alloc (.cells #[.bool false] 4)) B P v m := (hp.alloc _).alloc _
  have HLN : Hid (Calls Try.prog 86 #[.pointer (some ⟨P, 0, none⟩)] ((w.alloc (.cells #[pv P] 61)).alloc (.cells #[.bool false] 4)) fun e w' => e = .returned (.int .i64 (m.length : Int)) ∧ w' = ((w.alloc (.cells #[pv P] 61)).alloc (.cells #[.bool false] 4))) := len_any av P m.length capv _ (by have := hP0.box.cell; rw [hv] at this; exact this)
  have HEV : Hid (Calls Try.prog 91 #[.pointer (some ⟨P, 0, none⟩)] ((w.alloc (.cells #[pv P] 61)).alloc (.cells #[.bool false] 4)) fun e w' => ∃ y, e = .returned y ∧ OwnR ((w.alloc (.cells #[pv P] 61)).alloc (.cells #[.bool false] 4)).heap.size w' y m ∧ Below ((w.alloc (.cells #[pv P] 61)).alloc (.cells #[.bool false] 4)).heap.size ((w.alloc (.cells #[pv P] 61)).alloc (.cells #[.bool false] 4)) w') := events_any B P v m _ (by omega) hP0
  have cP := (Boxed.new w 61 (pv P)).alloc (.cells #[.bool false] 4)
  have cR := Boxed.new (w.alloc (.cells #[pv P] 61)) 4 (.bool false)
  simp only [World.size_alloc] at cP cR
  have hsum' : ¬ ((2000 : Int) < (m.length : Int) + (l.length : Int)) := by omega
  have hT0 : Turns (fun k => k = P ∨ v.ownBlock = some k) w ((w.alloc (.cells #[pv P] 61)).alloc (.cells #[.bool false] 4)) := ((Turns.refl _ w).alloc _).alloc _
  have hT0_b : Below w.heap.size w ((w.alloc (.cells #[pv P] 61)).alloc (.cells #[.bool false] 4)) := ((Below.refl _ w).alloc (Nat.le_refl _) _).alloc (by simp) _
  have hs0 : ((w.alloc (.cells #[pv P] 61)).alloc (.cells #[.bool false] 4)).heap.size = w.heap.size + 2 := by simp
  refine (callsIn_wide (n := 5)).1 ?_
  refine callsIn_of_wp_marks Try.func41 rfl trivial ?_ rfl
  simp only [Try.ntmps41, List.size_toArray, List.length_cons, List.length_nil, Nat.reduceAdd, Nat.reduceSub, Array.replicate_succ, Array.replicate_zero, List.push_toArray, List.append_toArray, List.nil_append, List.cons_append]
  gi_wp2_with (refine ⟨trivial, ?_⟩; gi_at_call 86; refine (callsIn_wide.2 HLN.out).mono ?_; rintro e w' ⟨rfl, rfl⟩)
  refine ⟨trivial, (callsIn_wide.2 HEV.out).mono ?_⟩
  rintro e wE ⟨y, rfl, hy, hbE⟩
  have hwf : ∀ i, i < m.length → wfI (evAt m i).g := fun i hi => okB_tag (hok i hi)
  rw [hs0] at hbE hy
  have hsE : w.heap.size + 2 ≤ wE.heap.size := by have := hbE.size; omega
  obtain ⟨ay, capy, bY, rfl, hbY, hIY⟩ := hy.parts (by omega)
  clear HLN HEV
  gi_wp2_with fail
  refine ⟨trivial, (callsIn_wide.2 (places_any (H := Unit) ay capy bY m wE (by omega) hIY hbY hwf)).mono ?_⟩
  rintro e wM ⟨rfl, hownM, hbM⟩
  have hsM : wE.heap.size < wM.heap.size := by obtain ⟨es, ck, h1, _⟩ := hownM; exact (Array.getElem?_eq_some_iff.1 h1).1
  have hbA : Below (w.heap.size + 2) ((w.alloc (.cells #[pv P] 61)).alloc (.cells #[.bool false] 4)) wM := hbE.trans (hbM.mono hsE)
  have hbB : Below wM.heap.size wM ((wM.alloc (.cells #[.map (some wE.heap.size)] 51)).alloc (.cells #[.slice a l.length cap] 23)) := ((Below.refl _ wM).alloc (Nat.le_refl _) _).alloc (by simp) _
  have cM := (Boxed.new wM 51 (.map (some wE.heap.size))).alloc (.cells #[.slice a l.length cap] 23)
  have cS := Boxed.new (wM.alloc (.cells #[.map (some wE.heap.size)] 51)) 23 (.slice a l.length cap)
  simp only [World.size_alloc] at cM cS
  have hownL := ownsMap_below hownM hbB hsM
  have hbL : Below (w.heap.size + 2) ((w.alloc (.cells #[pv P] 61)).alloc (.cells #[.bool false] 4)) ((wM.alloc (.cells #[.map (some wE.heap.size)] 51)).alloc (.cells #[.slice a l.length cap] 23)) := hbA.trans (hbB.mono (by omega))
  have hzL : ((wM.alloc (.cells #[.map (some wE.heap.size)] 51)).alloc (.cells #[.slice a l.length cap] 23)).heap.size = wM.heap.size + 2 := by simp
  gi_wp2_with (refine ⟨trivial, ?_⟩; gi_at_call 54; refine (callsIn_wide.2 (each_any _ _ _ _)).mono ?_; rintro e w' ⟨rfl, rfl⟩)
  generalize (wM.alloc (.cells #[.map (some wE.heap.size)] 51)).alloc (.cells #[.slice a l.length cap] 23) = WL at *
  have cPL : Boxed WL w.heap.size 61 (pv P) := (hbL.block _ (by omega)).trans cP
  have cRL : Boxed WL (w.heap.size + 1) 4 (.bool false) := (hbL.block _ (by omega)).trans cR
  have hPL : Pl WL B P v m := hP0.low2 hbL (by omega) (fun g e => by have := (OwnR.block hp.row e).2; omega)
  have hIL : l = [] ∨ ∃ off, a = some ⟨b, off, none⟩ ∧ EvsAt WL b off l := hI.imp id (fun ⟨off, e, h⟩ => ⟨off, e, (h.below hT0_b (by omega)).below hbL (by omega)⟩)
  have hBWL : Below w.heap.size w WL := hT0_b.trans (hbL.mono (by omega))
  have hTL : Turns (fun k => k = P ∨ v.ownBlock = some k) w WL := hT0.trans ⟨hbL.os, hbL.tape, hbL.output, hbL.size, fun k hk _ => hbL.block k (by rw [hs0] at hk; exact hk)⟩
  clear hP0 hT0 hbB hbM hbE hbA hownM cP cR hbL hIY hy hp
  have HVW : Hid (∀ g, v.ownBlock = some g → g < w.heap.size) := HVW0.out
  have HOKM : Hid (Kept (fun e => e.ok = true) m) := hok
  have HWF : Hid (∀ i, i < m.length → wfI (evAt m i).g) := hwf
  have HOKL : Hid (∀ i, i < l.length → (evAt l i).ok = true) := hokl
  have HDM : Hid (∀ i, i < m.length → ∀ j, j < i → (evAt m j).g ≠ (evAt m i).g) := hdm
  have HK : Hid (¬ NoTag m (evAt l q).g) := hk
  have HBL : Hid (Below w.heap.size w WL) := hBWL
  have hmo : Try.prog.follows .mixedOrders = true := by kernel_rfl
  clear hwf hokl hdm hk hml hme hBWL
  refine wpIn_rangeFunc_ownH rfl (by omega) (gf := 65) (lb := #[.pointer (some ⟨wM.heap.size + 1, 0, none⟩)]) rfl trivial (enters_of Try.func65 (by kernel_rfl) rfl)
    (each_stops Fence.wide 4 trivial rfl (by omega) (wM.heap.size + 1) b a cap l (by omega) WL (by omega) cS.cell hIL) Same2.trans (Same2.putObj (by omega) (by omega)) (Below.refl _ _) (fun _ => rfl)
    (fun pre W => (∀ x ∈ pre, NoTag m (evAt l x.val).g) ∧ Below WL.heap.size WL W)
    (fun c _ W => c = .ret ∧ W.cell? ⟨w.heap.size + 1, 0, none⟩ = some (.bool false) ∧ Turns (fun k => k = w.heap.size + 1) WL W)
    (OwnFrom.and (ownFrom_pure _ _) (ownFrom_below (Nat.le_refl _) (Nat.le_refl _)))
    (fun c s X Y row hs hg hr => ⟨hs.1, cell_kept hs.2.1 hg (fun r e => (hr r e).2), hs.2.2.later ⟨hg.os, hg.tape, hg.output, hg.size, fun k hk hn => hg.block k hk (fun e => hn (hr k e.symm).1)⟩⟩)
    ⟨by simp, Below.refl _ _⟩
    (fun x a' W => ∃ Bx, WL.heap.size ≤ Bx ∧ Bx < W.heap.size ∧ Ev.In W Bx 0 (evAt l x.val) ∧ a' = { tmps := #[pv P, .slice a l.length cap, .pointer (some ⟨w.heap.size, 0, none⟩), undef, .pointer (some ⟨w.heap.size + 1, 0, none⟩), .pointer (some ⟨wM.heap.size, 0, none⟩), undef, .pointer (some ⟨Bx, 0, none⟩), undef, undef, undef, undef, pv P, .int .i64 (m.length : Int), .slice a l.length cap, .int .i64 (l.length : Int), .int .i64 ((m.length : Int) + (l.length : Int)), .bool (decide ((2000 : Int) < (m.length : Int) + (l.length : Int))), pv P, .slice ay m.length capy, .map (some wE.heap.size), .slice a l.length cap, .func (.func 65) #[] #[.pointer (some ⟨wM.heap.size + 1, 0, none⟩)], .int .i64 ((x.val : Nat) : Int), (evAt l x.val).val, undef, undef, undef, undef, undef, undef, undef, undef, undef, undef, undef, undef, undef, undef, undef, undef, undef], defers := [] })
    (fun x a' s A B row hs hg hr => by obtain ⟨Bx, h1, h2, h3, h4⟩ := hs; exact ⟨Bx, h1, Nat.lt_of_lt_of_le h2 hg.size, h3.kept hg (fun r e => (hr r e).2), h4⟩) ?assign ?body ?done ?stop
  case assign =>
    rintro lp pre x W K ⟨hpre, hB⟩ hK
    have hz := hB.size
    gi_wp2
    have hBW : Below W.heap.size W (W.alloc (.cells #[.int .i64 (evAt l x.val).t, .int .i64 (evAt l x.val).s, .int .i64 (evAt l x.val).q, .int .i64 (evAt l x.val).d, .int .i64 (evAt l x.val).k, .int .i64 (evAt l x.val).v, .int .i64 (evAt l x.val).g] 25)) := (Below.refl _ W).alloc (Nat.le_refl _) _
    exact hK _ _ ((KeepsOthers.alloc _ _).from _) (Same2.below hBW (by omega) (by omega)) ⟨hpre, hB.trans (hBW.mono hz)⟩ ⟨W.heap.size, hz, by simp, EvAt.new _ _ _ _ _ _ _ _ _, rfl⟩
  case body =>
    rintro lp pre x a' W hlp _ ⟨hpre, hB⟩ ⟨Bx, h1, h2, h3, rfl⟩ hlt
    have hz := hB.size
    have HB : Hid (Below WL.heap.size WL W) := hB
    obtain ⟨kx, hkx⟩ : ∃ kx, x.val = kx := ⟨_, rfl⟩
    have hkl : kx < l.length := by rw [← hkx]; exact x.isLt
    have HPRE : Hid (∀ x ∈ pre, NoTag m (evAt l x.val).g) := hpre
    clear hpre
    rw [hkx] at h3
    have f6 := (h3.beyond h2).2.2.2.2.2.2
    have hcM : ∀ p : Beyond W, p.w.cell? ⟨wM.heap.size, 0, none⟩ = some (.map (some wE.heap.size)) := fun p => p.cell (by omega) ((hB.cell (p := ⟨wM.heap.size, 0, none⟩) (by simp; omega)).trans cM.cell)
    have hcr : W.cell? ⟨w.heap.size + 1, 0, none⟩ = some (.bool false) := (hB.cell (p := ⟨w.heap.size + 1, 0, none⟩) (by simp; omega)).trans cRL.cell
    have hfr : W.frozen? ⟨w.heap.size + 1, 0, none⟩ = false := (hB.frozen (p := ⟨w.heap.size + 1, 0, none⟩) (by simp; omega)).trans cRL.frozen
    have hne : Nonempty (Beyond W) := ⟨⟨W, Below.refl _ _⟩⟩
    have hwf : ∀ f, Fence.wide.fn f = True := wideFn
    rcases firstAt_or m (evAt l kx).g with ⟨k, hfk⟩ | hno
    · have hlk : ∀ p : Beyond W, (Instr.lookup 51 (.map (some wE.heap.size)) (keyV (evAt l kx).g) true).run Try.prog p.w = .ok (.tuple #[.int .i64 (k : Int), .bool true]) p.w := fun p => look_yes (ownsMap_below (ownsMap_below hownL hB (by omega)) p.h (by omega)) HWF.out HDM.out (okB_tag (HOKL.out kx hkl)) hfk
      clear hfk h3 hB cM cS hownL cPL cRL hPL hIL hTL
      simp only [hkx]
      gi_wp2
      refine region_round hmo (by kernel_rfl) (by simp) ?_
      repeat (gi_big_quiet_step (first | (gi_at_call 30; exact Beyond.inRound lp (callsIn_wide.2 (tagKey_any _ _)))))
      refine wpQuietIn_nil ?_
      rintro w2 ⟨⟨_, hb2⟩, rfl⟩
      have hc2 := (hb2.cell (p := ⟨w.heap.size + 1, 0, none⟩) (by simp; omega)).trans hcr
      have hf2 := (hb2.frozen (p := ⟨w.heap.size + 1, 0, none⟩) (by simp; omega)).trans hfr
      clear f6 hcM hlk hcr hfr
      gi_wp2
      exact ⟨((keepsOthers_of_below hb2).trans (KeepsOthers.setCell _ _ _)).from _, rfl, World.cell?_setCell_same' _ _ _ (by rw [hc2]; rfl), (((Turns.of_below (S := fun k => k = w.heap.size + 1) HB.out).trans (Turns.of_below hb2)).setCell (p := ⟨w.heap.size + 1, 0, none⟩) rfl _)⟩
    · have HNO : Hid (NoTag m (evAt l kx).g) := hno
      have hlk : ∀ p : Beyond W, (Instr.lookup 51 (.map (some wE.heap.size)) (keyV (evAt l kx).g) true).run Try.prog p.w = .ok (.tuple #[.int .i64 0, .bool false]) p.w := fun p => look_no (ownsMap_below (ownsMap_below hownL hB (by omega)) p.h (by omega)) HWF.out (okB_tag (HOKL.out kx hkl)) hno
      clear hno h3 hB cM cS hownL cPL cRL hPL hIL hTL
      simp only [hkx]
      gi_wp2
      refine region_round hmo (by kernel_rfl) (by simp) ?_
      repeat (gi_big_quiet_step (first | (gi_at_call 30; exact Beyond.inRound lp (callsIn_wide.2 (tagKey_any _ _)))))
      refine wpQuietIn_nil ?_
      rintro w2 ⟨⟨_, hb2⟩, rfl⟩
      have hc2 := (hb2.cell (p := ⟨w.heap.size + 1, 0, none⟩) (by simp; omega)).trans hcr
      have hf2 := (hb2.frozen (p := ⟨w.heap.size + 1, 0, none⟩) (by simp; omega)).trans hfr
      clear f6 hcM hlk hcr hfr
      gi_wp2
      exact ⟨(keepsOthers_of_below hb2).from _, Same2.below hb2 (by omega) (by omega), fun y hy => (List.mem_append.1 hy).elim (HPRE.out y) (fun e9 => by simp at e9; subst e9; rw [hkx]; exact HNO.out), HB.out.trans (hb2.mono hz)⟩
  case stop =>
    rintro D c pre W hD _ ⟨rfl, hc, ht⟩ hK
    have hvw : ∀ g, v.ownBlock = some g → g < w.heap.size := HVW.out
    have HPW : Hid (Pl W B P v m) := hPL.turns ht (by omega) (fun g e h => by have := hvw g e; omega)
    have HTW : Hid (Turns (fun k => k = w.heap.size + 1) WL W) := ht
    have hz := ht.size
    clear ht
    gi_wp2
    refine ⟨by simp, .inl ⟨_, _, rfl, run_takeDeferred hK, ?_⟩⟩
    have hc5 := cell_kept hc (grownBy_putObj' _ D (.deferred none)) (fun r e => by cases e; exact ⟨_, hK, rfl⟩)
    have hTD : Turns (fun k => k = D) W (W.putObj D (.deferred none)) := (Turns.refl (fun k => k = D) W).grown (grownBy_putObj' _ D (.deferred none)) (fun k e => by cases e; rfl)
    refine ⟨.bool false, ?_, rfl, HPW.out.turns hTD (by omega) (fun g e h => by have := hvw g e; omega), HBL.out.trans ((HTW.out.to_below (fun k e => by omega) (by omega)).trans (hTD.to_below (fun k e => by omega) (by omega)))⟩
    simp [results, Try.f41, go_sem, hc5]
  case done =>
    rintro D1 ys W hD1 rfl ⟨hpre, _⟩ _
    exact absurd (hpre ⟨q, hq⟩ (List.mem_finRange _)) HK.out
end Go.Proofs.Yteecpandpkicmaa
