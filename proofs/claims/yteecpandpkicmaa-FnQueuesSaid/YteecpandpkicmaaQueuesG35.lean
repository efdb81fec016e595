/- OfG, QQs, QSame -/
import Derived.Test.YteecpandpkicmaaQueuesLPushAll
import Derived.Test.YteecpandpkicmaaQueuesG26
import Derived.Test.YteecpandpkicmaaQueuesG09
import Derived.Test.YteecpandpkicmaaQueuesG05
import Derived.Test.YteecpandpkicmaaQueuesLInsN
import Derived.Test.YteecpandpkicmaaQueuesLFirst
import Derived.Test.YteecpandpkicmaaQueuesG01
import Derived.Deep.RegionHeld3
import Derived.Laws.StructEq
/- The program's HeapOf over slices of any room. -/
namespace Go.Proofs.Yteecpandpkicmaa
open Go.RowKit
def Good1L (l : List Ev) (i : Nat) : Prop := (evAt l i).ok = true ∧ ∀ j, j < i → (evAt l j).g ≠ (evAt l i).g
def GoodL (l : List Ev) : Prop := l.length ≤ 2000 ∧ ∀ i, i < l.length → Good1L l i
def AnsL (l : List Ev) (B : Nat) (e : Ending) (w' : World) : Prop := (GoodL l ∧ Answers B (l.foldl pushL []) true e w') ∨ (¬ GoodL l ∧ Answers B [] false e w')
set_option maxRecDepth 100000 in
set_option maxHeartbeats 4000000 in
theorem iOf_gen (a : Option Addr) (cap b : Nat) (l : List Ev) (w : World) (hl : l.length ≤ 1048576) (hR : l = [] ∨ ∃ off, a = some ⟨b, off, none⟩ ∧ EvsAt w b off l) (hgw : b < w.heap.size) :
    Calls Try.prog 22 #[.slice a l.length cap] w fun e w' => AnsL l w.heap.size e w' ∧ Below w.heap.size w w' := by
  have HR : Hid (l = [] ∨ ∃ off, a = some ⟨b, off, none⟩ ∧ EvsAt w b off l) := hR
  clear hR
  by_cases h0 : l.length ≤ 2000
  · have hd : ¬ ((2000 : Int) < (l.length : Int)) := by omega
    have hd2 : decide ((2000 : Int) < (l.length : Int)) = false := by simp; omega
    have hd3 : decide (2000 < l.length) = false := by simp; omega
    have hme := fun w P => m_events P w
    go_enter Try.func22, Try.ntmps22
    go_wp2_with fail
    refine (eventsOk_any a _ b l _ hl HR.out hgw).mono ?_
    rintro e w1 ⟨⟨b1, rfl, hs1⟩, hb1⟩
    have HS1 : Hid (b1 = true ↔ ∀ i, i < l.length → (evAt l i).ok = true) := hs1
    clear hs1
    have HB1 : Hid (Below w.heap.size w w1) := hb1
    have HR1 : Hid (l = [] ∨ ∃ off, a = some ⟨b, off, none⟩ ∧ EvsAt w1 b off l) := parts_below HR.out hgw hb1
    have hg1 : b < w1.heap.size := by have := hb1.size; omega
    clear hb1 HR
    cases b1
    · go_wp2
      go_ret2
      exact ⟨.inr ⟨fun h => (by have := HS1.out.2 (fun i hi => (h.2 i hi).1); cases this), _, rfl, OwnEvs.nil _ _⟩, HB1.out⟩
    · have HOK : Hid (∀ i, i < l.length → (evAt l i).ok = true) := HS1.out.1 rfl
      clear HS1
      go_wp2_with fail
      refine (tagsDiffer_any a _ b l _ hl HR1.out hg1 (fun i hi => okB_tag (HOK.out i hi))).mono ?_
      rintro e w2 ⟨⟨b2, rfl, hs2⟩, hb2⟩
      have HS2 : Hid (b2 = true ↔ ∀ i, i < l.length → ∀ j, j < i → (evAt l j).g ≠ (evAt l i).g) := hs2
      have HB2 : Hid (Below w.heap.size w w2) := HB1.out.trans (hb2.mono HB1.out.size)
      have HR2 : Hid (l = [] ∨ ∃ off, a = some ⟨b, off, none⟩ ∧ EvsAt w2 b off l) := parts_below HR1.out hg1 hb2
      have hg2 : b < w2.heap.size := by have := hb2.size; omega
      clear hs2 hb2 HR1
      cases b2
      · go_wp2
        go_ret2
        exact ⟨.inr ⟨fun h => (by have := HS2.out.2 (fun i hi => (h.2 i hi).2); cases this), _, rfl, OwnEvs.nil _ _⟩, HB2.out⟩
      · have HO2 : Hid (∀ i, i < l.length → ∀ j, j < i → (evAt l j).g ≠ (evAt l i).g) := HS2.out.1 rfl
        clear HS2
        go_wp2_with fail
        refine (pileOf_any (.slice none 0 0) [] _ (by simp) (.inl ⟨rfl, rfl⟩)).mono ?_
        rintro e w3 ⟨P, v, rfl, hp3, hb3⟩
        have HP3 : Hid (Pl w3 w2.heap.size P v []) := hp3
        have HB3 : Hid (Below w2.heap.size w2 w3) := hb3
        have HR3 : Hid (l = [] ∨ ∃ off, a = some ⟨b, off, none⟩ ∧ EvsAt w3 b off l) := parts_below HR2.out hg2 hb3
        have hg3 : b < w3.heap.size := by have := hb3.size; omega
        have HPA : Hid (Calls Try.prog 41 #[pv P, .slice a l.length cap] w3 fun e w' => e = .returned (.bool true) ∧ (∃ v', Pl w' w2.heap.size P v' (l.foldl pushL []) ∧ NewRow w3 v v') ∧ Turns (fun k => k = P ∨ v.ownBlock = some k) w3 w') :=
          pushAll_ok w2.heap.size P v [] a cap b l w3 h0 hb3.size hp3 HR3.out hg3 (by have := hp3.low; omega) (fun e => by have := (OwnR.block hp3.row e).1; omega) (by simpa using h0) (fun j hj => by simp at hj) HOK.out (fun i hi j hj => by simp at hj)
        have HLO : Hid (w2.heap.size ≤ P ∧ ∀ k, v.ownBlock = some k → w2.heap.size ≤ k) := ⟨hp3.low, fun k e => (OwnR.block hp3.row e).1⟩
        clear hp3 hb3 HR2
        go_wp2_with fail
        refine HPA.out.mono ?_
        rintro e w4 ⟨rfl, ⟨v4, hp4, _⟩, ht4⟩
        have HP4 : Hid (Pl w4 w2.heap.size P v4 (l.foldl pushL [])) := hp4
        have HB4 : Hid (Below w.heap.size w w4) := HB2.out.trans ((HB3.out.trans (ht4.to_below (fun k h => by rcases h with rfl | h; exact HLO.out.1; exact HLO.out.2 k h) HB3.out.size)).mono HB2.out.size)
        clear hp4 ht4 HPA
        go_wp2_with fail
        refine (events_any w2.heap.size P v4 (l.foldl pushL []) _ (by rw [fold_length]; simp; omega) HP4.out).mono ?_
        rintro e w5 ⟨y, rfl, hy, hb5⟩
        have HY : Hid (OwnR w4.heap.size w5 y (l.foldl pushL [])) := hy
        have HB5 : Hid (Below w.heap.size w w5) := HB4.out.trans (hb5.mono HB4.out.size)
        clear hy hb5
        go_wp2
        go_ret2
        exact ⟨.inl ⟨⟨h0, fun i hi => ⟨HOK.out i hi, HO2.out i hi⟩⟩, ans_of HB4.out HB4.out.size HY.out⟩, HB5.out⟩
  · have hd : (2000 : Int) < (l.length : Int) := by omega
    go_enter Try.func22, Try.ntmps22
    go_wp2
    go_ret2
    exact ⟨.inr ⟨fun h => h0 h.1, _, rfl, OwnEvs.nil _ _⟩, Below.refl _ _⟩
end Go.Proofs.Yteecpandpkicmaa

/- queues(): two events go in, the first one is the earlier one, in the heap too. -/
namespace Go.Proofs.Yteecpandpkicmaa
open Go.RowKit

def E1 : Ev := ⟨5, 0, 0, 0, 0, 0, 1⟩
def E2 : Ev := ⟨3, 0, 0, 0, 0, 0, 2⟩
theorem E1_ok : E1.ok = true := by decide
theorem E2_ok : E2.ok = true := by decide
theorem good_nil : GoodQ [] := ⟨by simp, fun i hi => by simp at hi⟩
theorem noTag_nil (g : Int) : NoTag [] g := fun j hj => by simp at hj
theorem ins_nil (e : Ev) : insL [] e 0 = [e] := rfl
theorem good_E1 : GoodQ [E1] := ins_good (p := 0) good_nil E1_ok (noTag_nil _) (by simp) ⟨Nat.le_refl _, fun j hj => by omega, fun h => by simp at h⟩
theorem insAt_E2 : InsAt [E1] E2 0 := ⟨by simp, fun j hj => by omega, fun _ => by decide⟩
theorem insAt_E2_only {p : Nat} (h : InsAt [E1] E2 p) : p = 0 := by
  by_cases hp : p = 0
  · exact hp
  · exact absurd (h.2.1 0 (by omega)) (by decide)
theorem noTag_E1 : NoTag [E1] E2.g := fun j hj => by
  have : j = 0 := by simpa using hj
  subst this
  decide
theorem good_E2 : GoodQ [E2, E1] := ins_good (p := 0) good_E1 E2_ok noTag_E1 (by simp) insAt_E2
theorem fold_E2 : [E2, E1].foldl pushL [] = [E2, E1] := by
  have h1 : pushL [] E2 = [E2] := by
    unfold pushL
    exact upL_stop (by simp)
  have h2 : pushL [E2] E1 = [E2, E1] := by
    unfold pushL
    exact upL_stop (by decide)
  show pushL (pushL [] E2) E1 = _
  rw [h1, h2]
theorem goodL_E2 : GoodL [E2, E1] := ⟨by simp, fun i hi => ⟨(good_E2.2 i hi).1, (good_E2.2 i hi).2.2⟩⟩
theorem OwnEvs.some {B : Nat} {w : World} {x : Value} {l : List Ev} (h : OwnEvs B w x l) (hl : l ≠ []) : ∃ g cap, x = .slice (some ⟨g, 0, none⟩) l.length cap ∧ l.length ≤ cap ∧ cap ≤ maxLen ∧ B ≤ g ∧ EvsAt w g 0 l := by
  obtain ⟨a, cap, rfl, h1, h2, h⟩ := h
  obtain ⟨g, rfl, h3, h4⟩ := h.resolve_left hl
  exact ⟨g, cap, rfl, h1, h2, h3, h4.evs⟩

set_option maxRecDepth 100000 in
set_option maxHeartbeats 4000000 in
theorem queues_any (w : World) : Calls Try.prog 9 #[] w fun e w' => e = .returned (.bool true) ∧ Below w.heap.size w w' := by
  have HI1 : Hid (∀ W, Calls Try.prog 7 #[.slice none 0 0, .agg #[.int .i64 5, .int .i64 0, .int .i64 0, .int .i64 0, .int .i64 0, .int .i64 0, .int .i64 1]] W fun r w' => (∃ g cap, r = .returned (.tuple #[.slice (some ⟨g, 0, none⟩) 1 cap, .bool true]) ∧ 1 ≤ cap ∧ cap ≤ maxLen ∧ EvsAt w' g 0 [E1]) ∧ Below W.heap.size W w') := fun W => by
    refine (iInsert_nil E1 W E1_ok).mono ?_
    rintro r w' ⟨⟨k, x, rfl, hk, hx⟩, hb⟩
    have hk0 : k = 0 := by have := hk.1; simpa using this
    subst hk0
    obtain ⟨g, cap, rfl, h1, h2, _, h3⟩ := hx.some (by simp)
    exact ⟨⟨g, cap, rfl, by simpa using h1, h2, h3⟩, hb⟩
  have HI2 : Hid (∀ W g cap, 1 ≤ cap → EvsAt W g 0 [E1] → Calls Try.prog 7 #[.slice (some ⟨g, 0, none⟩) 1 cap, .agg #[.int .i64 3, .int .i64 0, .int .i64 0, .int .i64 0, .int .i64 0, .int .i64 0, .int .i64 2]] W fun r w' => (∃ g cap, r = .returned (.tuple #[.slice (some ⟨g, 0, none⟩) 2 cap, .bool true]) ∧ 2 ≤ cap ∧ cap ≤ maxLen ∧ EvsAt w' g 0 [E2, E1]) ∧ Below W.heap.size W w') := fun W g cap hcap hE => by
    refine (iInsert_yes g 0 cap [E1] E2 W (by simpa using hcap) (by simp) hE good_E1 E2_ok noTag_E1 (by simp)).mono ?_
    rintro r w' ⟨⟨k, x, rfl, hk, hx⟩, hb⟩
    obtain rfl := insAt_E2_only hk
    obtain ⟨g, cap, rfl, h1, h2, _, h3⟩ := hx.some (by simp)
    exact ⟨⟨g, cap, rfl, by simpa using h1, h2, h3⟩, hb⟩
  have HF : Hid (∀ W g cap, 2 ≤ cap → cap ≤ maxLen → EvsAt W g 0 [E2, E1] → Calls Try.prog 11 #[.slice (some ⟨g, 0, none⟩) 2 cap] W fun r w' => r = .returned (.tuple #[.agg #[.int .i64 3, .int .i64 0, .int .i64 0, .int .i64 0, .int .i64 0, .int .i64 0, .int .i64 2], .bool true]) ∧ Below W.heap.size W w') := fun W g cap h1 h2 hE => iFirst_yes g 0 cap [E2, E1] W (by simp) hE (by simpa using h1) h2 (by simp) good_E2
  have HH : Hid (∀ W g cap, EvsAt W g 0 [E2, E1] → Calls Try.prog 22 #[.slice (some ⟨g, 0, none⟩) 2 cap] W fun r w' => (∃ g' cap', r = .returned (.tuple #[.slice (some ⟨g', 0, none⟩) 2 cap', .bool true]) ∧ w'.cell? ⟨g', 0, none⟩ = some (.int .i64 3)) ∧ Below W.heap.size W w') := fun W g cap hE => by
    refine (iOf_gen (some ⟨g, 0, none⟩) cap g [E2, E1] W (by simp) (.inr ⟨0, rfl, hE⟩) hE.1).mono ?_
    rintro r w' ⟨h, hb⟩
    refine ⟨?_, hb⟩
    rcases h with ⟨_, x, rfl, hx⟩ | ⟨h, _⟩
    · rw [fold_E2] at hx
      obtain ⟨g', cap', rfl, _, _, _, h3⟩ := hx.some (by simp)
      exact ⟨g', cap', rfl, (h3.2 0 (by simp)).f0⟩
    · exact absurd goodL_E2 h
  go_enter Try.func9, Try.ntmps9
  go_wp2_with fail
  refine (HI1.out _).mono ?_
  rintro r w1 ⟨⟨g1, cap1, rfl, hc1, hm1, he1⟩, hb1⟩
  have HB1 : Hid (Below w.heap.size w w1) := hb1
  have HE1 : Hid (EvsAt w1 g1 0 [E1]) := he1
  clear hb1 he1
  go_wp2_with fail
  refine (HI2.out _ g1 cap1 hc1 HE1.out).mono ?_
  rintro r w2 ⟨⟨g2, cap2, rfl, hc2, hm2, he2⟩, hb2⟩
  have HB2 : Hid (Below w.heap.size w w2) := HB1.out.trans (hb2.mono HB1.out.size)
  have HE2 : Hid (EvsAt w2 g2 0 [E2, E1]) := he2
  clear hb2 he2 HB1 HE1
  go_wp2_with fail
  refine (HF.out _ g2 cap2 hc2 hm2 HE2.out).mono ?_
  rintro r w3 ⟨rfl, hb3⟩
  have HB3 : Hid (Below w.heap.size w w3) := HB2.out.trans (hb3.mono HB2.out.size)
  have HE3 : Hid (EvsAt w3 g2 0 [E2, E1]) := HE2.out.below hb3 HE2.out.1
  clear hb3 HB2 HE2
  have HE4 : Hid (EvsAt (w3.alloc (.cells #[.int .i64 3, .int .i64 0, .int .i64 0, .int .i64 0, .int .i64 0, .int .i64 0, .int .i64 2] 25)) g2 0 [E2, E1]) := HE3.out.below ((Below.refl _ w3).alloc (Nat.le_refl _) _) HE3.out.1
  go_wp2_with fail
  refine (HH.out _ g2 cap2 HE4.out).mono ?_
  rintro r w5 ⟨⟨g5, cap5, rfl, hc5⟩, hb5⟩
  have hf : w5.cell? ⟨w3.heap.size, 0, none⟩ = some (.int .i64 3) := (hb5.cell (p := ⟨w3.heap.size, 0, none⟩) (by simp)).trans (by simp)
  have HB5 : Hid (Below w.heap.size w w5) := (HB3.out.alloc HB3.out.size _).trans (hb5.mono (by have := HB3.out.size; simp; omega))
  clear hb5
  go_wp2
  go_ret
  exact ⟨rfl, HB5.out⟩
end Go.Proofs.Yteecpandpkicmaa

/- sameEvents, where both lists are the same. -/
namespace Go.Proofs.Yteecpandpkicmaa
open Go.RowKit
set_option maxHeartbeats 4000000 in
theorem sameE_same (x y : Value) (l : List Ev) (w : World) (hl : l.length ≤ 1048577) (hx : IsEvs w x l) (hy : IsEvs w y l) :
    Calls Try.prog 8 #[x, y] w fun e w' => e = .returned (.bool true) ∧ Below w.heap.size w w' := by
  obtain ⟨a, cap, rfl, h1, h2, h⟩ := hx
  obtain ⟨a', cap', rfl, h1', h2', h'⟩ := hy
  clear h1 h2 h1' h2'
  by_cases hz : l = []
  · subst hz
    clear h h'
    go_enter Try.func8, Try.ntmps8
    go_wp2
    go_loop [5] (fun i => i = .int .i64 0) (fun _ => 0)
    case atStart => rfl
    case round =>
      subst hrel
      go_wp2
      go_ret
      exact ⟨rfl, Below.refl _ _⟩
  · obtain ⟨b, off, rfl, hb, hc⟩ := h.resolve_left hz
    obtain ⟨b', off', rfl, hb', hc'⟩ := h'.resolve_left hz
    have HC : Hid (∀ i, i < l.length → Ev.In w b (off + i * 7) (evAt l i)) := hc
    have HC' : Hid (∀ i, i < l.length → Ev.In w b' (off' + i * 7) (evAt l i)) := hc'
    clear h h' hz hc hc'
    go_enter Try.func8, Try.ntmps8
    go_wp2
    go_loopw [5] (fun i wr => ∃ k : Nat, k ≤ l.length ∧ i = .int .i64 k ∧ Below w.heap.size w wr) (fun i _ => l.length - (intOf i).toNat)
    case atStart => exact ⟨0, Nat.zero_le _, rfl, Below.refl _ _⟩
    case round =>
      obtain ⟨k, hk, rfl, hB⟩ := hrel
      have HB : Hid (Below w.heap.size w wr) := hB
      by_cases hlt : k < l.length
      · obtain ⟨f0, f1, f2, f3, f4, f5, f6⟩ := (HC.out k hlt).below hB hb
        obtain ⟨g0, g1, g2, g3, g4, g5, g6⟩ := (HC'.out k hlt).below hB hb'
        clear hB
        generalize (evAt l k).t = t at f0 g0
        generalize (evAt l k).s = s at f1 g1
        generalize (evAt l k).q = q at f2 g2
        generalize (evAt l k).d = d at f3 g3
        generalize (evAt l k).k = kk at f4 g4
        generalize (evAt l k).v = v at f5 g5
        generalize (evAt l k).g = g at f6 g6
        go_wp2_with fail
        go_region_held3 (fun W => W.cell? ⟨b, off + k * 7, none⟩ = some (.int .i64 t) ∧ W.cell? ⟨b, off + k * 7 + 1, none⟩ = some (.int .i64 s) ∧ W.cell? ⟨b, off + k * 7 + 2, none⟩ = some (.int .i64 q) ∧ W.cell? ⟨b, off + k * 7 + 3, none⟩ = some (.int .i64 d) ∧ W.cell? ⟨b, off + k * 7 + 4, none⟩ = some (.int .i64 kk) ∧ W.cell? ⟨b, off + k * 7 + 5, none⟩ = some (.int .i64 v) ∧ W.cell? ⟨b, off + k * 7 + 6, none⟩ = some (.int .i64 g) ∧ W.cell? ⟨b', off' + k * 7, none⟩ = some (.int .i64 t) ∧ W.cell? ⟨b', off' + k * 7 + 1, none⟩ = some (.int .i64 s) ∧ W.cell? ⟨b', off' + k * 7 + 2, none⟩ = some (.int .i64 q) ∧ W.cell? ⟨b', off' + k * 7 + 3, none⟩ = some (.int .i64 d) ∧ W.cell? ⟨b', off' + k * 7 + 4, none⟩ = some (.int .i64 kk) ∧ W.cell? ⟨b', off' + k * 7 + 5, none⟩ = some (.int .i64 v) ∧ W.cell? ⟨b', off' + k * 7 + 6, none⟩ = some (.int .i64 g)) ((repeat' apply And.intro) <;> go_keep) (fail)
        go_wp2
        go_roundw
        case rel => exact ⟨k + 1, by omega, by go_num, HB.out.drew⟩
        case measure => simp [intOf]; omega
      · clear hB
        go_wp2
        go_ret
        exact ⟨rfl, HB.out⟩
end Go.Proofs.Yteecpandpkicmaa

