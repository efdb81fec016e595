/- OfG, QQs, OpenS, NOpen -/
import Derived.Test.YteecpandpkicmaaDoorOrdersCardLPushAll
import Derived.Test.YteecpandpkicmaaDoorOrdersCardG28
import Derived.Test.YteecpandpkicmaaDoorOrdersCardG09
import Derived.Test.YteecpandpkicmaaDoorOrdersCardG05
import Derived.Test.YteecpandpkicmaaDoorOrdersCardG18
import Derived.Test.YteecpandpkicmaaDoorOrdersCardLInsN
import Derived.Test.YteecpandpkicmaaDoorOrdersCardG24
import Derived.Test.YteecpandpkicmaaDoorOrdersCardG00
import Derived.Test.YteecpandpkicmaaDoorOrdersCardG01
import Derived.ProofKit
import Derived.ChangeOld
import Derived.OpenShut
import Derived.SizedLaws
/- The program's HeapOf over slices of any room. -/
namespace Go.Proofs.YteecpandpkicmaaDoor
open Go.RowKit
def Good1L (l : List Ev) (i : Nat) : Prop := (evAt l i).ok = true ∧ ∀ j, j < i → (evAt l j).g ≠ (evAt l i).g
def GoodL (l : List Ev) : Prop := l.length ≤ 2000 ∧ ∀ i, i < l.length → Good1L l i
def AnsL (l : List Ev) (B : Nat) (e : Ending) (w' : World) : Prop := (GoodL l ∧ Answers B (l.foldl pushL []) true e w') ∨ (¬ GoodL l ∧ Answers B [] false e w')
set_option maxRecDepth 100000 in
set_option maxHeartbeats 4000000 in
theorem iOf_gen (a : Option Addr) (cap b : Nat) (l : List Ev) (w : World) (hl : l.length ≤ 1048576) (hR : l = [] ∨ ∃ off, a = some ⟨b, off, none⟩ ∧ EvsAt w b off l) (hgw : b < w.heap.size) :
    Calls Tryd.prog 19 #[.slice a l.length cap] w fun e w' => AnsL l w.heap.size e w' ∧ Below w.heap.size w w' := by
  have HR : Hid (l = [] ∨ ∃ off, a = some ⟨b, off, none⟩ ∧ EvsAt w b off l) := hR
  clear hR
  by_cases h0 : l.length ≤ 2000
  · have hd : ¬ ((2000 : Int) < (l.length : Int)) := by omega
    have hd2 : decide ((2000 : Int) < (l.length : Int)) = false := by simp; omega
    have hd3 : decide (2000 < l.length) = false := by simp; omega
    have hme := fun w P => m_events P w
    go_enter Tryd.func19, Tryd.ntmps19
    go_wp2_with fail
    refine (eventsOk_any a _ b l _ hl HR.out hgw).mono ?_
    rintro e w1 ⟨⟨b1, rfl, hs1⟩, hb1⟩
    have HS1 : Hid (b1 = true ↔ ∀ i, i < l.length → (evAt l i).ok = true) := hs1
    clear hs1
    have HB1 : Hid (Below w.heap.size w w1) := hb1
    have HR1 : Hid (l = [] ∨ ∃ off, a = some ⟨b, off, none⟩ ∧ EvsAt w1 b off l) := parts_below HR.out hgw hb1
    have hg1 : b < w1.heap.size := by have := hb1.size; omega
    clear hb1 HR
    cases b1
    · go_wp2
      go_ret2
      exact ⟨.inr ⟨fun h => (by have := HS1.out.2 (fun i hi => (h.2 i hi).1); cases this), _, rfl, OwnEvs.nil _ _⟩, HB1.out⟩
    · have HOK : Hid (∀ i, i < l.length → (evAt l i).ok = true) := HS1.out.1 rfl
      clear HS1
      go_wp2_with fail
      refine (tagsDiffer_any a _ b l _ hl HR1.out hg1 (fun i hi => okB_tag (HOK.out i hi))).mono ?_
      rintro e w2 ⟨⟨b2, rfl, hs2⟩, hb2⟩
      have HS2 : Hid (b2 = true ↔ ∀ i, i < l.length → ∀ j, j < i → (evAt l j).g ≠ (evAt l i).g) := hs2
      have HB2 : Hid (Below w.heap.size w w2) := HB1.out.trans (hb2.mono HB1.out.size)
      have HR2 : Hid (l = [] ∨ ∃ off, a = some ⟨b, off, none⟩ ∧ EvsAt w2 b off l) := parts_below HR1.out hg1 hb2
      have hg2 : b < w2.heap.size := by have := hb2.size; omega
      clear hs2 hb2 HR1
      cases b2
      · go_wp2
        go_ret2
        exact ⟨.inr ⟨fun h => (by have := HS2.out.2 (fun i hi => (h.2 i hi).2); cases this), _, rfl, OwnEvs.nil _ _⟩, HB2.out⟩
      · have HO2 : Hid (∀ i, i < l.length → ∀ j, j < i → (evAt l j).g ≠ (evAt l i).g) := HS2.out.1 rfl
        clear HS2
        go_wp2_with fail
        refine (pileOf_any (.slice none 0 0) [] _ (by simp) (.inl ⟨rfl, rfl⟩)).mono ?_
        rintro e w3 ⟨P, v, rfl, hp3, hb3⟩
        have HP3 : Hid (Pl w3 w2.heap.size P v []) := hp3
        have HB3 : Hid (Below w2.heap.size w2 w3) := hb3
        have HR3 : Hid (l = [] ∨ ∃ off, a = some ⟨b, off, none⟩ ∧ EvsAt w3 b off l) := parts_below HR2.out hg2 hb3
        have hg3 : b < w3.heap.size := by have := hb3.size; omega
        have HPA : Hid (Calls Tryd.prog 37 #[pv P, .slice a l.length cap] w3 fun e w' => e = .returned (.bool true) ∧ (∃ v', Pl w' w2.heap.size P v' (l.foldl pushL []) ∧ NewRow w3 v v') ∧ Turns (fun k => k = P ∨ v.ownBlock = some k) w3 w') :=
          pushAll_ok w2.heap.size P v [] a cap b l w3 h0 hb3.size hp3 HR3.out hg3 (by have := hp3.low; omega) (fun e => by have := (OwnR.block hp3.row e).1; omega) (by simpa using h0) (fun j hj => by simp at hj) HOK.out (fun i hi j hj => by simp at hj)
        have HLO : Hid (w2.heap.size ≤ P ∧ ∀ k, v.ownBlock = some k → w2.heap.size ≤ k) := ⟨hp3.low, fun k e => (OwnR.block hp3.row e).1⟩
        clear hp3 hb3 HR2
        go_wp2_with fail
        refine HPA.out.mono ?_
        rintro e w4 ⟨rfl, ⟨v4, hp4, _⟩, ht4⟩
        have HP4 : Hid (Pl w4 w2.heap.size P v4 (l.foldl pushL [])) := hp4
        have HB4 : Hid (Below w.heap.size w w4) := HB2.out.trans ((HB3.out.trans (ht4.to_below (fun k h => by rcases h with rfl | h; exact HLO.out.1; exact HLO.out.2 k h) HB3.out.size)).mono HB2.out.size)
        clear hp4 ht4 HPA
        go_wp2_with fail
        refine (events_any w2.heap.size P v4 (l.foldl pushL []) _ (by rw [fold_length]; simp; omega) HP4.out).mono ?_
        rintro e w5 ⟨y, rfl, hy, hb5⟩
        have HY : Hid (OwnR w4.heap.size w5 y (l.foldl pushL [])) := hy
        have HB5 : Hid (Below w.heap.size w w5) := HB4.out.trans (hb5.mono HB4.out.size)
        clear hy hb5
        go_wp2
        go_ret2
        exact ⟨.inl ⟨⟨h0, fun i hi => ⟨HOK.out i hi, HO2.out i hi⟩⟩, ans_of HB4.out HB4.out.size HY.out⟩, HB5.out⟩
  · have hd : (2000 : Int) < (l.length : Int) := by omega
    go_enter Tryd.func19, Tryd.ntmps19
    go_wp2
    go_ret2
    exact ⟨.inr ⟨fun h => h0 h.1, _, rfl, OwnEvs.nil _ _⟩, Below.refl _ _⟩
end Go.Proofs.YteecpandpkicmaaDoor

/- queues(): two events go in, the first one is the earlier one, in the heap too. -/
namespace Go.Proofs.YteecpandpkicmaaDoor
open Go.RowKit

def E1 : Ev := ⟨5, 0, 0, 0, 0, 0, 1⟩
def E2 : Ev := ⟨3, 0, 0, 0, 0, 0, 2⟩
theorem E1_ok : E1.ok = true := by decide
theorem E2_ok : E2.ok = true := by decide
theorem good_nil : GoodQ [] := ⟨by simp, fun i hi => by simp at hi⟩
theorem noTag_nil (g : Int) : NoTag [] g := fun j hj => by simp at hj
theorem ins_nil (e : Ev) : insL [] e 0 = [e] := rfl
theorem good_E1 : GoodQ [E1] := ins_good (p := 0) good_nil E1_ok (noTag_nil _) (by simp) ⟨Nat.le_refl _, fun j hj => by omega, fun h => by simp at h⟩
theorem insAt_E2 : InsAt [E1] E2 0 := ⟨by simp, fun j hj => by omega, fun _ => by decide⟩
theorem insAt_E2_only {p : Nat} (h : InsAt [E1] E2 p) : p = 0 := by
  by_cases hp : p = 0
  · exact hp
  · exact absurd (h.2.1 0 (by omega)) (by decide)
theorem noTag_E1 : NoTag [E1] E2.g := fun j hj => by
  have : j = 0 := by simpa using hj
  subst this
  decide
theorem good_E2 : GoodQ [E2, E1] := ins_good (p := 0) good_E1 E2_ok noTag_E1 (by simp) insAt_E2
theorem fold_E2 : [E2, E1].foldl pushL [] = [E2, E1] := by
  have h1 : pushL [] E2 = [E2] := by
    unfold pushL
    exact upL_stop (by simp)
  have h2 : pushL [E2] E1 = [E2, E1] := by
    unfold pushL
    exact upL_stop (by decide)
  show pushL (pushL [] E2) E1 = _
  rw [h1, h2]
theorem goodL_E2 : GoodL [E2, E1] := ⟨by simp, fun i hi => ⟨(good_E2.2 i hi).1, (good_E2.2 i hi).2.2⟩⟩
theorem OwnEvs.some {B : Nat} {w : World} {x : Value} {l : List Ev} (h : OwnEvs B w x l) (hl : l ≠ []) : ∃ g cap, x = .slice (some ⟨g, 0, none⟩) l.length cap ∧ l.length ≤ cap ∧ cap ≤ maxLen ∧ B ≤ g ∧ EvsAt w g 0 l := by
  obtain ⟨a, cap, rfl, h1, h2, h⟩ := h
  obtain ⟨g, rfl, h3, h4⟩ := h.resolve_left hl
  exact ⟨g, cap, rfl, h1, h2, h3, h4.evs⟩

set_option maxRecDepth 100000 in
set_option maxHeartbeats 4000000 in
theorem queues_any (w : World) : Calls Tryd.prog 8 #[] w fun e w' => e = .returned (.bool true) ∧ Below w.heap.size w w' := by
  have HI1 : Hid (∀ W, Calls Tryd.prog 17 #[.slice none 0 0, .agg #[.int .i64 5, .int .i64 0, .int .i64 0, .int .i64 0, .int .i64 0, .int .i64 0, .int .i64 1]] W fun r w' => (∃ g cap, r = .returned (.tuple #[.slice (some ⟨g, 0, none⟩) 1 cap, .bool true]) ∧ 1 ≤ cap ∧ cap ≤ maxLen ∧ EvsAt w' g 0 [E1]) ∧ Below W.heap.size W w') := fun W => by
    refine (iInsert_nil E1 W E1_ok).mono ?_
    rintro r w' ⟨⟨k, x, rfl, hk, hx⟩, hb⟩
    have hk0 : k = 0 := by have := hk.1; simpa using this
    subst hk0
    obtain ⟨g, cap, rfl, h1, h2, _, h3⟩ := hx.some (by simp)
    exact ⟨⟨g, cap, rfl, by simpa using h1, h2, h3⟩, hb⟩
  have HI2 : Hid (∀ W g cap, 1 ≤ cap → EvsAt W g 0 [E1] → Calls Tryd.prog 17 #[.slice (some ⟨g, 0, none⟩) 1 cap, .agg #[.int .i64 3, .int .i64 0, .int .i64 0, .int .i64 0, .int .i64 0, .int .i64 0, .int .i64 2]] W fun r w' => (∃ g cap, r = .returned (.tuple #[.slice (some ⟨g, 0, none⟩) 2 cap, .bool true]) ∧ 2 ≤ cap ∧ cap ≤ maxLen ∧ EvsAt w' g 0 [E2, E1]) ∧ Below W.heap.size W w') := fun W g cap hcap hE => by
    refine (iInsert_yes g 0 cap [E1] E2 W (by simpa using hcap) (by simp) hE good_E1 E2_ok noTag_E1 (by simp)).mono ?_
    rintro r w' ⟨⟨k, x, rfl, hk, hx⟩, hb⟩
    obtain rfl := insAt_E2_only hk
    obtain ⟨g, cap, rfl, h1, h2, _, h3⟩ := hx.some (by simp)
    exact ⟨⟨g, cap, rfl, by simpa using h1, h2, h3⟩, hb⟩
  have HF : Hid (∀ W g cap, 2 ≤ cap → cap ≤ maxLen → EvsAt W g 0 [E2, E1] → Calls Tryd.prog 18 #[.slice (some ⟨g, 0, none⟩) 2 cap] W fun r w' => r = .returned (.tuple #[.agg #[.int .i64 3, .int .i64 0, .int .i64 0, .int .i64 0, .int .i64 0, .int .i64 0, .int .i64 2], .bool true]) ∧ Below W.heap.size W w') := fun W g cap h1 h2 hE => iFirst_yes g 0 cap [E2, E1] W (by simp) hE (by simpa using h1) h2 (by simp) good_E2
  have HH : Hid (∀ W g cap, EvsAt W g 0 [E2, E1] → Calls Tryd.prog 19 #[.slice (some ⟨g, 0, none⟩) 2 cap] W fun r w' => (∃ g' cap', r = .returned (.tuple #[.slice (some ⟨g', 0, none⟩) 2 cap', .bool true]) ∧ w'.cell? ⟨g', 0, none⟩ = some (.int .i64 3)) ∧ Below W.heap.size W w') := fun W g cap hE => by
    refine (iOf_gen (some ⟨g, 0, none⟩) cap g [E2, E1] W (by simp) (.inr ⟨0, rfl, hE⟩) hE.1).mono ?_
    rintro r w' ⟨h, hb⟩
    refine ⟨?_, hb⟩
    rcases h with ⟨_, x, rfl, hx⟩ | ⟨h, _⟩
    · rw [fold_E2] at hx
      obtain ⟨g', cap', rfl, _, _, _, h3⟩ := hx.some (by simp)
      exact ⟨g', cap', rfl, (h3.2 0 (by simp)).f0⟩
    · exact absurd goodL_E2 h
  go_enter Tryd.func8, Tryd.ntmps8
  go_wp2_with fail
  refine (HI1.out _).mono ?_
  rintro r w1 ⟨⟨g1, cap1, rfl, hc1, hm1, he1⟩, hb1⟩
  have HB1 : Hid (Below w.heap.size w w1) := hb1
  have HE1 : Hid (EvsAt w1 g1 0 [E1]) := he1
  clear hb1 he1
  go_wp2_with fail
  refine (HI2.out _ g1 cap1 hc1 HE1.out).mono ?_
  rintro r w2 ⟨⟨g2, cap2, rfl, hc2, hm2, he2⟩, hb2⟩
  have HB2 : Hid (Below w.heap.size w w2) := HB1.out.trans (hb2.mono HB1.out.size)
  have HE2 : Hid (EvsAt w2 g2 0 [E2, E1]) := he2
  clear hb2 he2 HB1 HE1
  go_wp2_with fail
  refine (HF.out _ g2 cap2 hc2 hm2 HE2.out).mono ?_
  rintro r w3 ⟨rfl, hb3⟩
  have HB3 : Hid (Below w.heap.size w w3) := HB2.out.trans (hb3.mono HB2.out.size)
  have HE3 : Hid (EvsAt w3 g2 0 [E2, E1]) := HE2.out.below hb3 HE2.out.1
  clear hb3 HB2 HE2
  have HE4 : Hid (EvsAt (w3.alloc (.cells #[.int .i64 3, .int .i64 0, .int .i64 0, .int .i64 0, .int .i64 0, .int .i64 0, .int .i64 2] 24)) g2 0 [E2, E1]) := HE3.out.below ((Below.refl _ w3).alloc (Nat.le_refl _) _) HE3.out.1
  go_wp2_with fail
  refine (HH.out _ g2 cap2 HE4.out).mono ?_
  rintro r w5 ⟨⟨g5, cap5, rfl, hc5⟩, hb5⟩
  have hf : w5.cell? ⟨w3.heap.size, 0, none⟩ = some (.int .i64 3) := (hb5.cell (p := ⟨w3.heap.size, 0, none⟩) (by simp)).trans (by simp)
  have HB5 : Hid (Below w.heap.size w w5) := (HB3.out.alloc HB3.out.size _).trans (hb5.mono (by have := HB3.out.size; simp; omega))
  clear hb5
  go_wp2
  go_ret
  exact ⟨rfl, HB5.out⟩
end Go.Proofs.YteecpandpkicmaaDoor

/- How a list of events that came in is read. -/
namespace Go.Proofs.YteecpandpkicmaaDoor
open Go.ChangeShapes Go.WideShapes Go.ChangeAt Go.RowKit

theorem evs_list {w : World} {b off : Nat} : ∀ n, (∀ i, i < n → ∃ e : Ev, Ev.In w b (off + i * 7) e) → ∃ l : List Ev, l.length = n ∧ ∀ i, i < n → Ev.In w b (off + i * 7) (evAt l i)
  | 0, _ => ⟨[], rfl, fun i hi => by omega⟩
  | n + 1, h => by
    obtain ⟨l, hl, hi⟩ := evs_list n (fun i hi => h i (by omega))
    obtain ⟨e, he⟩ := h n (by omega)
    refine ⟨l ++ [e], by simp [hl], fun i hi' => ?_⟩
    by_cases hin : i < n
    · have : evAt (l ++ [e]) i = evAt l i := by unfold evAt; simp [List.getElem?_append_left (by omega : i < l.length)]
      rw [this]; exact hi i hin
    · have : evAt (l ++ [e]) i = e := by unfold evAt; simp [show i = l.length by omega]
      rw [this, show i = n by omega]; exact he

theorem add_plain (b off n : Nat) : (⟨b, off, none⟩ : Addr).add n = ⟨b, off + n, none⟩ := by
  unfold Addr.add
  split <;> simp_all
end Go.Proofs.YteecpandpkicmaaDoor

/- How a code that came in is read: bytes, of which there are no more than the form's own reach. -/
namespace Go.Proofs.YteecpandpkicmaaDoor
open Go.ChangeShapes Go.WideShapes Go.ChangeAt Go.RowKit

theorem cells5 : Tryd.prog.cellsOf 5 = 1 := by kernel_rfl
theorem bytes5 : Tryd.prog.bytesOf 5 = 1 := by kernel_rfl
set_option maxRecDepth 100000 in
theorem open_code {H : Type} {enc : TypeId × Value → H} {w : World} {b0 : Nat} {spare : Nat → Bool} {held : Bool} {r : Reach} {v : Value} {d : DataW H} {p : List MemPlace}
    (hv : Value.okWide Tryd.prog w r b0 22 v) (h : DataW.Trod enc Tryd.prog w 0 spare held 22 v d p)
    (hs : ∀ elems spare, d = .slice elems spare → (elems.length + spare.length) * Tryd.prog.bytesOf 5 ≤ reachBytes) : ∃ a n cap, v = .slice a n cap ∧ n ≤ 140737488351232 ∧ CodeIn w w.heap.size a n := by
  obtain ⟨a0, len, cap, rfl⟩ := okWide_slice Tryd.underlying22 hv
  obtain ⟨fuel, hf⟩ := h
  rcases DataW.trod_slice Tryd.underlying22 hf with ⟨hcs, _⟩ | ⟨a, len', cap', elems, rest, n, _, hcs, hx, hb, hl, hm, hlen, hel, _, _⟩
  · simp [Value.cells] at hcs
    obtain ⟨rfl, rfl, rfl⟩ := hcs
    exact ⟨_, _, _, rfl, by omega, .inl rfl⟩
  · simp [Value.cells] at hcs
    obtain ⟨rfl, rfl, rfl⟩ := hcs
    have hd := hs _ _ (congrArg Prod.fst hx)
    rw [bytes5] at hd
    simp only [List.length_map] at hd
    have hr : reachBytes = 140737488351232 := rfl
    refine ⟨_, _, _, rfl, by omega, ?_⟩
    by_cases h0 : len = 0
    · exact .inl h0
    · obtain ⟨b, off, spot⟩ := a
      have hs : spot = none := by
        have h1 := hel 0 (by omega)
        rw [cells5, List.getElem?_eq_getElem (by omega)] at h1
        obtain ⟨cs, hc, ht⟩ := Option.bind_eq_some_iff.1 h1
        obtain ⟨t, rfl, _⟩ := DataW.trod_int Tryd.underlying5 ht
        have c0 := (World.cells?_some hc).2.2 0 (by omega)
        simpa [Addr.add] using World.cell?_spot c0
      subst hs
      have each : ∀ i, i < len → ∃ z : Nat, z < 256 ∧ w.cell? ⟨b, off + i, none⟩ = some (.int .u8 (z : Int)) ∧ b < w.heap.size := by
        intro i hi
        have h1 := hel i hi
        rw [cells5, List.getElem?_eq_getElem (by omega), add_plain] at h1
        obtain ⟨cs, hc, ht⟩ := Option.bind_eq_some_iff.1 h1
        obtain ⟨t, rfl, _, hw⟩ := DataW.trod_int Tryd.underlying5 ht
        have hblk : b < w.heap.size := World.cells?_block hc (by omega)
        obtain ⟨_, _, hcell⟩ := World.cells?_some hc
        have h2 := hcell 0 (by omega)
        simp only [add_plain] at h2
        have hmin : IntKind.u8.min = 0 := rfl
        have hmax : IntKind.u8.max = 255 := rfl
        simp only [Lit.wf, Bool.and_eq_true, decide_eq_true_eq] at hw
        refine ⟨t.toNat, by omega, ?_, hblk⟩
        rw [show ((t.toNat : Nat) : Int) = t from by omega]
        simpa using h2
      obtain ⟨_, _, _, hblk⟩ := each 0 (by omega)
      exact .inr ⟨b, off, rfl, hblk, fun i hi => by obtain ⟨z, h1, h2, _⟩ := each i hi; exact ⟨z, h1, h2⟩⟩
end Go.Proofs.YteecpandpkicmaaDoor

