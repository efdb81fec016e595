/- Pp5, Pp6, PopX, Eqs, Eqs2, OpenS, LawHeapPop -/
import Derived.Test.YthklekjglocbgaaPop0
import Derived.Test.YthklekjglocbgaaPp1
import Derived.Test.YthklekjglocbgaaPp2
import Derived.Test.YthklekjglocbgaaPp3
import Derived.Test.YthklekjglocbgaaPp4
import Derived.Test.YthklekjglocbgaaEvs
import Derived.Deep.RegionHeld3
import Derived.Test.YthklekjglocbgaaOpen
import Derived.Test.YthklekjglocbgaaFrame
/- A part of HeapPop. -/
namespace Go.Proofs.Ythklekjglocbgaa
open Go.RowKit
set_option maxRecDepth 100000 in
set_option maxHeartbeats 4000000 in
theorem iPop_nil (g : Nat) (l : List Ev) (w : World) (hl : l.length ≤ 1048576) (hR : RowTo w g l.length l l.length) (hn : l.length = 0) :
    Calls Try.prog 20 #[.slice (some ⟨g, 0, none⟩) l.length l.length] w fun e w' => Answers3 w.heap.size [] zeroEv false e w' ∧ Below w.heap.size w w' := by
  have hgw : g < w.heap.size := hR.1
  have hB0 : Below w.heap.size w (w.alloc (.cells #[.int .i64 0, .int .i64 0, .int .i64 0, .int .i64 0, .int .i64 0, .int .i64 0, .int .i64 0] 33)) := (Below.refl _ w).alloc (Nat.le_refl _) _
  have HR : Hid (RowTo (w.alloc (.cells #[.int .i64 0, .int .i64 0, .int .i64 0, .int .i64 0, .int .i64 0, .int .i64 0, .int .i64 0] 33)) g l.length l l.length) := hR.below hB0 hgw
  have HB0 : Hid (Below w.heap.size w (w.alloc (.cells #[.int .i64 0, .int .i64 0, .int .i64 0, .int .i64 0, .int .i64 0, .int .i64 0, .int .i64 0] 33))) := hB0
  clear hR hB0
  obtain rfl : l = [] := List.eq_nil_of_length_eq_zero hn
  clear hn
  obtain ⟨z0, z1, z2, z3, z4, z5, z6⟩ := (EvAt.new w 33 0 0 0 0 0 0 0).lits
  go_enter Try.func20, Try.ntmps20
  go_wp2
  exact bodyPost_ret (v := .tuple #[.slice none 0 0, .agg #[.int .i64 0, .int .i64 0, .int .i64 0, .int .i64 0, .int .i64 0, .int .i64 0, .int .i64 0], .bool false]) (by simp [results, Try.results20, go_sem]) rfl ⟨⟨_, rfl, OwnEvs.nil _ _⟩, (Below.refl _ w).alloc (Nat.le_refl _) _⟩
end Go.Proofs.Ythklekjglocbgaa

/- A part of HeapPop. -/
namespace Go.Proofs.Ythklekjglocbgaa
open Go.RowKit
set_option maxRecDepth 100000 in
set_option maxHeartbeats 4000000 in
theorem iPop_good (g : Nat) (l : List Ev) (w : World) (hl : l.length ≤ 1048576) (hR : RowTo w g l.length l l.length) (hg : GoodH l) (n : Nat) (hn : l.length = n + 1) :
    Calls Try.prog 20 #[.slice (some ⟨g, 0, none⟩) l.length l.length] w fun e w' => Answers3 w.heap.size (takeL l 0) (evAt l 0) true e w' ∧ Below w.heap.size w w' := by
  have hgw : g < w.heap.size := hR.1
  have hB0 : Below w.heap.size w (w.alloc (.cells #[.int .i64 0, .int .i64 0, .int .i64 0, .int .i64 0, .int .i64 0, .int .i64 0, .int .i64 0] 33)) := (Below.refl _ w).alloc (Nat.le_refl _) _
  have HR : Hid (RowTo (w.alloc (.cells #[.int .i64 0, .int .i64 0, .int .i64 0, .int .i64 0, .int .i64 0, .int .i64 0, .int .i64 0] 33)) g l.length l l.length) := hR.below hB0 hgw
  have HB0 : Hid (Below w.heap.size w (w.alloc (.cells #[.int .i64 0, .int .i64 0, .int .i64 0, .int .i64 0, .int .i64 0, .int .i64 0, .int .i64 0] 33))) := hB0
  clear hR hB0
  have HG : Hid (GoodH l) := hg
  have HN : Hid (l.length = n + 1) := hn
  have hlen : ((l.length : Int) == 0) = false := beq_eq_false_iff_ne.2 (by omega)
  have hn0 : ¬ l.length = 0 := by omega
  have hpos : (0 : Int) < (l.length : Int) := by omega
  have hn1 : n ≤ 1048575 := by omega
  have hl0 : 0 < l.length := by omega
  clear hg hn
  have hme := fun w P => m_events P w
  go_enter Try.func20, Try.ntmps20
  go_wp2_with fail
  refine (iHeap_any g 0 _ l _ hl HR.out.evs).mono ?_
  rintro e w1 ⟨⟨bb, rfl, hs⟩, hb1⟩
  have hbb : bb = true := hs.2 HG.out
  subst hbb
  clear hs
  have hz1 : w.heap.size < w1.heap.size := by have := hb1.size; simp at this; omega
  have HB1 : Hid (Below w.heap.size w w1) := HB0.out.trans (hb1.mono (by simp))
  have HR1 : Hid (RowTo w1 g l.length l l.length) := HR.out.below hb1 (by simp; omega)
  have HZ1 : Hid (EvAt w1 w.heap.size 0 0 0 0 0 0 0 0) := (EvAt.new w 33 0 0 0 0 0 0 0).below hb1 (by simp)
  have hfz : ∀ o, w1.frozen? ⟨w.heap.size, o, none⟩ = false := fun o => (hb1.frozen (p := ⟨w.heap.size, o, none⟩) (by simp)).trans (by simp)
  obtain ⟨z0, z1, z2, z3, z4, z5, z6⟩ := HZ1.out.lits
  clear hb1 HR
  go_wp2_with fail
  refine (pileOf_any _ l _ (by omega) HR1.out.src).mono ?_
  rintro e w2 ⟨P, v, rfl, hp2, hb2⟩
  have HP2 : Hid (Pl w2 w1.heap.size P v l) := hp2
  have HB2 : Hid (Below w1.heap.size w1 w2) := hb2
  clear hp2 hb2
  obtain ⟨g5, cap5, hv5, hR5, hPg5⟩ := HP2.out.form HN.out
  subst hv5
  have HLT : Hid (w1.heap.size ≤ P ∧ w1.heap.size ≤ g5) := ⟨HP2.out.low, hR5.lt.1⟩
  clear hR5
  go_wp2_with fail
  refine (popFirst_any w1.heap.size P g5 cap5 l n _ HN.out HP2.out hl HG.out.oks).mono ?_
  rintro e w3 ⟨rfl, hp3, ht3⟩
  have HP3 : Hid (Pl w3 w1.heap.size P (.slice (some ⟨g5, 0, none⟩) n cap5) (takeL l 0)) := hp3
  have HB3 : Hid (Below w1.heap.size w1 w3) := HB2.out.trans (ht3.to_below (fun b hb => by have := HLT.out; omega) HB2.out.size)
  clear hp3 ht3
  have HZ3 : Hid (EvAt w3 w.heap.size 0 0 0 0 0 0 0 0) := HZ1.out.below HB3.out hz1
  have hfz3 : ∀ o, w3.frozen? ⟨w.heap.size, o, none⟩ = false := fun o => (HB3.out.frozen (p := ⟨w.heap.size, o, none⟩) hz1).trans (hfz o)
  have hz3 : w1.heap.size ≤ w3.heap.size := HB3.out.size
  clear z0 z1 z2 z3 z4 z5 z6 hfz
  have HN4 : Hid (Ev.In (w3.alloc (.cells #[.int .i64 (evAt l 0).t, .int .i64 (evAt l 0).s, .int .i64 (evAt l 0).q, .int .i64 (evAt l 0).d, .int .i64 (evAt l 0).k, .int .i64 (evAt l 0).v, .int .i64 (evAt l 0).g] 33)) w3.heap.size 0 (evAt l 0)) := newE w3 (evAt l 0)
  have HZ4 : Hid (EvAt (w3.alloc (.cells #[.int .i64 (evAt l 0).t, .int .i64 (evAt l 0).s, .int .i64 (evAt l 0).q, .int .i64 (evAt l 0).d, .int .i64 (evAt l 0).k, .int .i64 (evAt l 0).v, .int .i64 (evAt l 0).g] 33)) w.heap.size 0 0 0 0 0 0 0 0) := HZ3.out.alloc (by omega) _
  have hfz4 : ∀ o, (w3.alloc (.cells #[.int .i64 (evAt l 0).t, .int .i64 (evAt l 0).s, .int .i64 (evAt l 0).q, .int .i64 (evAt l 0).d, .int .i64 (evAt l 0).k, .int .i64 (evAt l 0).v, .int .i64 (evAt l 0).g] 33)).frozen? ⟨w.heap.size, o, none⟩ = false := fun o => (((Below.refl _ w3).alloc (Nat.le_refl _) (.cells #[.int .i64 (evAt l 0).t, .int .i64 (evAt l 0).s, .int .i64 (evAt l 0).q, .int .i64 (evAt l 0).d, .int .i64 (evAt l 0).k, .int .i64 (evAt l 0).v, .int .i64 (evAt l 0).g] 33)).frozen (p := ⟨w.heap.size, o, none⟩) (by simp; omega)).trans (hfz3 o)
  have HP4 : Hid (Pl (w3.alloc (.cells #[.int .i64 (evAt l 0).t, .int .i64 (evAt l 0).s, .int .i64 (evAt l 0).q, .int .i64 (evAt l 0).d, .int .i64 (evAt l 0).k, .int .i64 (evAt l 0).v, .int .i64 (evAt l 0).g] 33)) w1.heap.size P (.slice (some ⟨g5, 0, none⟩) n cap5) (takeL l 0)) := HP3.out.alloc _
  have HB4 : Hid (Below w1.heap.size w1 (w3.alloc (.cells #[.int .i64 (evAt l 0).t, .int .i64 (evAt l 0).s, .int .i64 (evAt l 0).q, .int .i64 (evAt l 0).d, .int .i64 (evAt l 0).k, .int .i64 (evAt l 0).v, .int .i64 (evAt l 0).g] 33))) := HB3.out.alloc hz3 _
  have hv3 : w3.heap.size < (w3.alloc (.cells #[.int .i64 (evAt l 0).t, .int .i64 (evAt l 0).s, .int .i64 (evAt l 0).q, .int .i64 (evAt l 0).d, .int .i64 (evAt l 0).k, .int .i64 (evAt l 0).v, .int .i64 (evAt l 0).g] 33)).heap.size := by simp
  go_wp2_with fail
  generalize w3.alloc (.cells #[.int .i64 (evAt l 0).t, .int .i64 (evAt l 0).s, .int .i64 (evAt l 0).q, .int .i64 (evAt l 0).d, .int .i64 (evAt l 0).k, .int .i64 (evAt l 0).v, .int .i64 (evAt l 0).g] 33) = V at *
  obtain ⟨z0, z1, z2, z3, z4, z5, z6⟩ := HZ4.out.lits
  obtain ⟨c0, c1, c2, c3, c4, c5, c6⟩ := HN4.out.lits
  have hzV : w.heap.size < V.heap.size := by omega
  have HEV : Hid (Calls Try.prog 81 #[.pointer (some ⟨P, 0, none⟩)] V.drew fun e w' => ∃ y, e = .returned y ∧ OwnR V.heap.size w' y (takeL l 0) ∧ Below V.heap.size V w') := by
    refine (events_any w1.heap.size P _ (takeL l 0) V.drew (by rw [takeL_length]; omega) (Pl.drew HP4.out)).mono ?_
    rintro e w' ⟨y, rfl, hy, hb⟩
    exact ⟨y, rfl, hy, (Below.refl _ V).drew.trans hb⟩
  clear HZ3 hfz3 HP3 HP2
  go_region_with (go_at_call 81; refine HEV.out.mono ?_; rintro e w5 ⟨y, rfl, hy, hb5⟩; obtain ⟨a0, a1, a2, a3, a4, a5, a6⟩ := (HZ4.out.below hb5 hzV).lits; obtain ⟨d0, d1, d2, d3, d4, d5, d6⟩ := (HN4.out.below hb5 hv3).lits; have hfz5 : ∀ o, w5.frozen? ⟨w.heap.size, o, none⟩ = false := (fun o => (hb5.frozen (p := ⟨w.heap.size, o, none⟩) hzV).trans (hfz4 o)))
  all_goals
    have HY : Hid (OwnR V.heap.size w5 y (takeL l 0)) := hy
    have HB5 : Hid (Below w1.heap.size w1 w5) := HB4.out.trans (hb5.mono (by omega))
    clear hy hb5 z0 z1 z2 z3 z4 z5 z6 c0 c1 c2 c3 c4 c5 c6 d0 d1 d2 d3 d4 d5 d6 HEV
    go_wp2
    exact bodyPost_ret (v := .tuple #[y, .agg #[.int .i64 (evAt l 0).t, .int .i64 (evAt l 0).s, .int .i64 (evAt l 0).q, .int .i64 (evAt l 0).d, .int .i64 (evAt l 0).k, .int .i64 (evAt l 0).v, .int .i64 (evAt l 0).g], .bool true]) (by simp [results, Try.results20, go_sem, a0, a1, a2, a3, a4, a5, a6]) rfl ⟨⟨_, rfl, ((HY.out.turns ((Turns.refl (fun b => b = w.heap.size) w5).put (g := w.heap.size) rfl 0 (evAt l 0)) (fun k e => by omega)).mono (Nat.le_of_lt hzV)).own⟩, put7_below (HB1.out.trans (HB5.out.mono (Nat.le_of_lt hz1))) (Nat.le_refl _) 0 (evAt l 0)⟩
end Go.Proofs.Ythklekjglocbgaa

/- Both HeapPop give the same. -/
namespace Go.Proofs.Ythklekjglocbgaa
open Go.RowKit
theorem pop_both (l : List Ev) (hl : l.length ≤ 1048576) : ∃ (l' : List Ev) (f : Ev) (bb : Bool), l'.length ≤ 1048577 ∧
    (∀ (w : World) (g : Nat), RowTo w g l.length l l.length → Calls Try.prog 19 #[.slice (some ⟨g, 0, none⟩) l.length l.length] w fun e w' => Answers3 w.heap.size l' f bb e w' ∧ Below w.heap.size w w') ∧
    (∀ (w : World) (g : Nat), RowTo w g l.length l l.length → Calls Try.prog 20 #[.slice (some ⟨g, 0, none⟩) l.length l.length] w fun e w' => Answers3 w.heap.size l' f bb e w' ∧ Below w.heap.size w w') := by
  by_cases hn : l.length = 0
  · exact ⟨[], zeroEv, false, by simp, fun w g h => sPop_nil g l w hl h hn, fun w g h => iPop_nil g l w hl h hn⟩
  · by_cases hg : GoodH l
    · obtain ⟨n, hn'⟩ : ∃ n, l.length = n + 1 := ⟨l.length - 1, by omega⟩
      exact ⟨takeL l 0, evAt l 0, true, by rw [takeL_length]; omega, fun w g h => sPop_good g l w hl h hg n hn', fun w g h => iPop_good g l w hl h hg n hn'⟩
    · exact ⟨[], zeroEv, false, by simp, fun w g h => sPop_bad g l w hl h hg (by omega), fun w g h => iPop_bad g l w hl h hg (by omega)⟩
end Go.Proofs.Ythklekjglocbgaa

/- eqEvent and eqEventS where both sides are the same. -/
namespace Go.Proofs.Ythklekjglocbgaa
open Go.RowKit
set_option maxHeartbeats 1000000 in
theorem eqEvent_same (t s q d k v g : Int) (w : World) :
    Calls Try.prog 21 #[.agg #[.int .i64 t, .int .i64 s, .int .i64 q, .int .i64 d, .int .i64 k, .int .i64 v, .int .i64 g], .agg #[.int .i64 t, .int .i64 s, .int .i64 q, .int .i64 d, .int .i64 k, .int .i64 v, .int .i64 g]] w fun e w' => e = .returned (.bool true) ∧ Below w.heap.size w w' := by
  go_enter Try.func21, Try.ntmps21
  go_wp2
  go_ret
  exact ⟨rfl, ((Below.refl _ _).alloc (Nat.le_refl _) _).alloc (by simp) _⟩

set_option maxHeartbeats 1000000 in
theorem eqS_same (x y : Value) (l : List Ev) (w : World) (hl : l.length ≤ 1048576) (hx : IsEvs w x l) (hy : IsEvs w y l) :
    Calls Try.prog 13 #[x, y] w fun e w' => e = .returned (.bool true) ∧ Below w.heap.size w w' := by
  obtain ⟨a, cap, rfl, h1, h2, h⟩ := hx
  obtain ⟨a', cap', rfl, h1', h2', h'⟩ := hy
  clear h1 h2 h1' h2'
  by_cases hz : l = []
  · subst hz
    clear h h'
    go_enter Try.func13, Try.ntmps13
    go_wp2
    go_loop [5] (fun i => i = .int .i64 0) (fun _ => 0)
    case atStart => rfl
    case round =>
      subst hrel
      go_wp2
      go_ret
      exact ⟨rfl, Below.refl _ _⟩
  · obtain ⟨b, off, rfl, hb, hc⟩ := h.resolve_left hz
    obtain ⟨b', off', rfl, hb', hc'⟩ := h'.resolve_left hz
    clear h h' hz
    go_enter Try.func13, Try.ntmps13
    go_wp2
    go_loopw [5] (fun i wr => ∃ k : Nat, k ≤ l.length ∧ i = .int .i64 k ∧ Below w.heap.size w wr) (fun i _ => l.length - (intOf i).toNat)
    case atStart => exact ⟨0, Nat.zero_le _, rfl, Below.refl _ _⟩
    case round =>
      obtain ⟨k, hk, rfl, hB⟩ := hrel
      have HB : Hid (Below w.heap.size w wr) := hB
      by_cases hlt : k < l.length
      · obtain ⟨f0, f1, f2, f3, f4, f5, f6⟩ := (hc k hlt).below hB hb
        obtain ⟨e0, e1, e2, e3, e4, e5, e6⟩ := (hc' k hlt).below hB hb'
        have hbr : b < wr.heap.size := Nat.lt_of_lt_of_le hb hB.size
        have hbr' : b' < wr.heap.size := Nat.lt_of_lt_of_le hb' hB.size
        clear hB hc hc'
        go_wp2_with fail
        go_region_held3 (fun W => W.cell? ⟨b, off + k * 7, none⟩ = some (.int .i64 (evAt l k).t) ∧ W.cell? ⟨b, off + k * 7 + 1, none⟩ = some (.int .i64 (evAt l k).s) ∧ W.cell? ⟨b, off + k * 7 + 2, none⟩ = some (.int .i64 (evAt l k).q) ∧ W.cell? ⟨b, off + k * 7 + 3, none⟩ = some (.int .i64 (evAt l k).d) ∧ W.cell? ⟨b, off + k * 7 + 4, none⟩ = some (.int .i64 (evAt l k).k) ∧ W.cell? ⟨b, off + k * 7 + 5, none⟩ = some (.int .i64 (evAt l k).v) ∧ W.cell? ⟨b, off + k * 7 + 6, none⟩ = some (.int .i64 (evAt l k).g) ∧ W.cell? ⟨b', off' + k * 7, none⟩ = some (.int .i64 (evAt l k).t) ∧ W.cell? ⟨b', off' + k * 7 + 1, none⟩ = some (.int .i64 (evAt l k).s) ∧ W.cell? ⟨b', off' + k * 7 + 2, none⟩ = some (.int .i64 (evAt l k).q) ∧ W.cell? ⟨b', off' + k * 7 + 3, none⟩ = some (.int .i64 (evAt l k).d) ∧ W.cell? ⟨b', off' + k * 7 + 4, none⟩ = some (.int .i64 (evAt l k).k) ∧ W.cell? ⟨b', off' + k * 7 + 5, none⟩ = some (.int .i64 (evAt l k).v) ∧ W.cell? ⟨b', off' + k * 7 + 6, none⟩ = some (.int .i64 (evAt l k).g)) ((repeat' apply And.intro) <;> first | (go_keep; done) | (rw [hcA _ _ (by first | omega | (simp; omega) | simp [*])]; simp [*]; done))
          (first | (go_at_call 21; refine (eqEvent_same _ _ _ _ _ _ _ _).mono ?_; rintro e w2 ⟨rfl, hb2⟩; obtain ⟨hcA, hfA⟩ := bcell hb2))
        clear hcA hfA
        go_wp2
        go_roundw
        case rel => exact ⟨k + 1, by omega, by go_num, HB.out.drew.trans (hb2.mono (by have := HB.out.size; simpa using this))⟩
        case measure => simp [intOf]; omega
      · clear hB hc hc'
        go_wp2
        go_ret
        exact ⟨rfl, HB.out⟩
end Go.Proofs.Ythklekjglocbgaa

/- eqEventS, for lists one longer. -/
namespace Go.Proofs.Ythklekjglocbgaa
open Go.RowKit
set_option maxHeartbeats 1000000 in
theorem eqS_same' (x y : Value) (l : List Ev) (w : World) (hl : l.length ≤ 1048577) (hx : IsEvs w x l) (hy : IsEvs w y l) :
    Calls Try.prog 13 #[x, y] w fun e w' => e = .returned (.bool true) ∧ Below w.heap.size w w' := by
  obtain ⟨a, cap, rfl, h1, h2, h⟩ := hx
  obtain ⟨a', cap', rfl, h1', h2', h'⟩ := hy
  clear h1 h2 h1' h2'
  by_cases hz : l = []
  · subst hz
    clear h h'
    go_enter Try.func13, Try.ntmps13
    go_wp2
    go_loop [5] (fun i => i = .int .i64 0) (fun _ => 0)
    case atStart => rfl
    case round =>
      subst hrel
      go_wp2
      go_ret
      exact ⟨rfl, Below.refl _ _⟩
  · obtain ⟨b, off, rfl, hb, hc⟩ := h.resolve_left hz
    obtain ⟨b', off', rfl, hb', hc'⟩ := h'.resolve_left hz
    clear h h' hz
    go_enter Try.func13, Try.ntmps13
    go_wp2
    go_loopw [5] (fun i wr => ∃ k : Nat, k ≤ l.length ∧ i = .int .i64 k ∧ Below w.heap.size w wr) (fun i _ => l.length - (intOf i).toNat)
    case atStart => exact ⟨0, Nat.zero_le _, rfl, Below.refl _ _⟩
    case round =>
      obtain ⟨k, hk, rfl, hB⟩ := hrel
      have HB : Hid (Below w.heap.size w wr) := hB
      by_cases hlt : k < l.length
      · obtain ⟨f0, f1, f2, f3, f4, f5, f6⟩ := (hc k hlt).below hB hb
        obtain ⟨e0, e1, e2, e3, e4, e5, e6⟩ := (hc' k hlt).below hB hb'
        have hbr : b < wr.heap.size := Nat.lt_of_lt_of_le hb hB.size
        have hbr' : b' < wr.heap.size := Nat.lt_of_lt_of_le hb' hB.size
        clear hB hc hc'
        go_wp2_with fail
        go_region_held3 (fun W => W.cell? ⟨b, off + k * 7, none⟩ = some (.int .i64 (evAt l k).t) ∧ W.cell? ⟨b, off + k * 7 + 1, none⟩ = some (.int .i64 (evAt l k).s) ∧ W.cell? ⟨b, off + k * 7 + 2, none⟩ = some (.int .i64 (evAt l k).q) ∧ W.cell? ⟨b, off + k * 7 + 3, none⟩ = some (.int .i64 (evAt l k).d) ∧ W.cell? ⟨b, off + k * 7 + 4, none⟩ = some (.int .i64 (evAt l k).k) ∧ W.cell? ⟨b, off + k * 7 + 5, none⟩ = some (.int .i64 (evAt l k).v) ∧ W.cell? ⟨b, off + k * 7 + 6, none⟩ = some (.int .i64 (evAt l k).g) ∧ W.cell? ⟨b', off' + k * 7, none⟩ = some (.int .i64 (evAt l k).t) ∧ W.cell? ⟨b', off' + k * 7 + 1, none⟩ = some (.int .i64 (evAt l k).s) ∧ W.cell? ⟨b', off' + k * 7 + 2, none⟩ = some (.int .i64 (evAt l k).q) ∧ W.cell? ⟨b', off' + k * 7 + 3, none⟩ = some (.int .i64 (evAt l k).d) ∧ W.cell? ⟨b', off' + k * 7 + 4, none⟩ = some (.int .i64 (evAt l k).k) ∧ W.cell? ⟨b', off' + k * 7 + 5, none⟩ = some (.int .i64 (evAt l k).v) ∧ W.cell? ⟨b', off' + k * 7 + 6, none⟩ = some (.int .i64 (evAt l k).g)) ((repeat' apply And.intro) <;> first | (go_keep; done) | (rw [hcA _ _ (by first | omega | (simp; omega) | simp [*])]; simp [*]; done))
          (first | (go_at_call 21; refine (eqEvent_same _ _ _ _ _ _ _ _).mono ?_; rintro e w2 ⟨rfl, hb2⟩; obtain ⟨hcA, hfA⟩ := bcell hb2))
        clear hcA hfA
        go_wp2
        go_roundw
        case rel => exact ⟨k + 1, by omega, by go_num, HB.out.drew.trans (hb2.mono (by have := HB.out.size; simpa using this))⟩
        case measure => simp [intOf]; omega
      · clear hB hc hc'
        go_wp2
        go_ret
        exact ⟨rfl, HB.out⟩
end Go.Proofs.Ythklekjglocbgaa

/- How a list of events that came in is read. -/
namespace Go.Proofs.Ythklekjglocbgaa
open Go.ChangeShapes Go.WideShapes Go.ChangeAt Go.RowKit

theorem evs_list {w : World} {b off : Nat} : ∀ n, (∀ i, i < n → ∃ e : Ev, Ev.In w b (off + i * 7) e) → ∃ l : List Ev, l.length = n ∧ ∀ i, i < n → Ev.In w b (off + i * 7) (evAt l i)
  | 0, _ => ⟨[], rfl, fun i hi => by omega⟩
  | n + 1, h => by
    obtain ⟨l, hl, hi⟩ := evs_list n (fun i hi => h i (by omega))
    obtain ⟨e, he⟩ := h n (by omega)
    refine ⟨l ++ [e], by simp [hl], fun i hi' => ?_⟩
    by_cases hin : i < n
    · have : evAt (l ++ [e]) i = evAt l i := by unfold evAt; simp [List.getElem?_append_left (by omega : i < l.length)]
      rw [this]; exact hi i hin
    · have : evAt (l ++ [e]) i = e := by unfold evAt; simp [show i = l.length by omega]
      rw [this, show i = n by omega]; exact he

theorem add_plain (b off n : Nat) : (⟨b, off, none⟩ : Addr).add n = ⟨b, off + n, none⟩ := by
  unfold Addr.add
  split <;> simp_all
theorem open_evs {H : Type} {enc : TypeId × Value → H} {w : World} {b0 : Nat} {spare : Nat → Bool} {held : Bool} {r : Reach} {v : Value} {d : DataW H} {p : List MemPlace}
    (hv : Value.okWide Try.prog w r b0 22 v) (h : DataW.Trod enc Try.prog w 0 spare held 22 v d p) : ∃ l : List Ev, IsEvs w v l := by
  obtain ⟨a0, len, cap, rfl⟩ := okWide_slice Try.underlying22 hv
  obtain ⟨fuel, hf⟩ := h
  rcases DataW.trod_slice Try.underlying22 hf with ⟨hcs, _⟩ | ⟨a, len', cap', elems, rest, n, _, hcs, _, hb, hl, hm, hlen, hel, _, _⟩
  · simp [Value.cells] at hcs
    obtain ⟨rfl, rfl, rfl⟩ := hcs
    exact ⟨[], _, _, rfl, Nat.le_refl _, by unfold maxLen; omega, .inl rfl⟩
  · simp [Value.cells] at hcs
    obtain ⟨rfl, rfl, rfl⟩ := hcs
    by_cases h0 : len = 0
    · subst h0
      exact ⟨[], _, _, rfl, hl, hm, .inl rfl⟩
    · obtain ⟨b, off, spot⟩ := a
      have hs : spot = none := by
        have h1 := hel 0 (by omega)
        rw [cells23, List.getElem?_eq_getElem (by omega)] at h1
        obtain ⟨cs, hc, ht⟩ := Option.bind_eq_some_iff.1 h1
        obtain ⟨t, s, q, d, k, v, g, rfl, _⟩ := trod_ev ht
        have c0 := (World.cells?_some hc).2.2 0 (by omega)
        simpa [Addr.add] using World.cell?_spot c0
      subst hs
      have each : ∀ i, i < len → ∃ e : Ev, Ev.In w b (off + i * 7) e ∧ b < w.heap.size := by
        intro i hi
        have h1 := hel i hi
        rw [cells23, List.getElem?_eq_getElem (by omega), add_plain] at h1
        obtain ⟨cs, hc, ht⟩ := Option.bind_eq_some_iff.1 h1
        obtain ⟨t, s, q, d, k, v, g, rfl, _⟩ := trod_ev ht
        have hblk : b < w.heap.size := World.cells?_block hc (by omega)
        obtain ⟨_, _, hcell⟩ := World.cells?_some hc
        simp only [add_plain] at hcell
        exact ⟨⟨t, s, q, d, k, v, g⟩, ⟨hcell 0 (by omega), hcell 1 (by omega), hcell 2 (by omega), hcell 3 (by omega), hcell 4 (by omega), hcell 5 (by omega), hcell 6 (by omega)⟩, hblk⟩
      obtain ⟨_, _, hblk⟩ := each 0 (by omega)
      obtain ⟨l, rfl, hi⟩ := evs_list (w := w) (b := b) (off := off) len (fun i hi => by
        obtain ⟨e, he, _⟩ := each i hi
        exact ⟨e, he⟩)
      exact ⟨l, _, _, rfl, hl, hm, .inr ⟨b, off, rfl, hblk, hi⟩⟩
end Go.Proofs.Ythklekjglocbgaa

/- At every list of events the program's HeapPop answers as the specification's, writes into no argument and keeps nothing of one, its answer owns its memory, behind another call too; the arguments read behind the call as they read before; no condition. -/
namespace Go.Proofs.Ythklekjglocbgaa.LawHeapPop
open Go.ChangeShapes Go.WideShapes Go.ChangeAt Go.RowKit Go.Proofs.Ythklekjglocbgaa

set_option maxRecDepth 100000 in
set_option maxHeartbeats 8000000 in
theorem walk (x : Value) (l : List Ev) (w : World) (hx : IsEvs w x l) :
    Calls Try.prog 5 #[x] w fun e w' => e = .returned (.bool true) ∧ Below w.heap.size w w' := by
  have HX : Hid (LowEvs w.heap.size w x l) := hx.low
  obtain ⟨a, cap, rfl, h1, h2, _⟩ := hx
  by_cases hl : l.length ≤ 1048576
  · have hlt : ¬ ((1048576 : Int) - (l.length : Int) < 0) := by omega
    obtain ⟨l', f, bb, hl', hsp, him⟩ := pop_both l hl
    have HSP : Hid (∀ (w : World) (g : Nat), RowTo w g l.length l l.length → Calls Try.prog 19 #[.slice (some ⟨g, 0, none⟩) l.length l.length] w fun e w' => Answers3 w.heap.size l' f bb e w' ∧ Below w.heap.size w w') := hsp
    have HIM : Hid (∀ (w : World) (g : Nat), RowTo w g l.length l l.length → Calls Try.prog 20 #[.slice (some ⟨g, 0, none⟩) l.length l.length] w fun e w' => Answers3 w.heap.size l' f bb e w' ∧ Below w.heap.size w w') := him
    have hk0 : (0 : Int) ≤ 7 * (l.length : Int) + 1 := by omega
    clear h1 h2 hsp him
    go_enter Try.func5, Try.ntmps5
    go_wp2_with fail
    refine (sz_small a l.length cap _ hl).mono ?_
    rintro e w' ⟨rfl, hw⟩
    have hw' := hw.symm
    clear hw
    subst hw'
    go_wp2_with fail
    refine (toEventS_any _ l _ hl HX.out.isEvs).mono ?_
    rintro e w1 ⟨rfl, hb1, hr1⟩
    have HR1 : Hid (RowTo w1 w.heap.size l.length l l.length) := hr1
    have HB_w1 : Hid (Below w.heap.size w w1) := hb1
    clear hr1 hb1
    go_wp2_with fail
    refine (HSP.out _ _ HR1.out).mono ?_
    rintro e w2 ⟨⟨xs, rfl, hxs⟩, hb2⟩
    have HB_w2 : Hid (Below w.heap.size w w2) := HB_w1.out.trans (hb2.mono HB_w1.out.size)
    have HS_w2 : Hid (LowEvs w2.heap.size w2 xs l') := hxs.isEvs.low
    have hz_w2 : w.heap.size ≤ w2.heap.size := HB_w2.out.size
    clear hxs hb2 HR1 HB_w1 HSP
    have hbA : Below w2.heap.size w2 (w2.alloc (.cells #[.int .i64 f.t, .int .i64 f.s, .int .i64 f.q, .int .i64 f.d, .int .i64 f.k, .int .i64 f.v, .int .i64 f.g] 33)) := (Below.refl _ _).alloc (Nat.le_refl _) _
    have hnA : Ev.In (w2.alloc (.cells #[.int .i64 f.t, .int .i64 f.s, .int .i64 f.q, .int .i64 f.d, .int .i64 f.k, .int .i64 f.v, .int .i64 f.g] 33)) w2.heap.size 0 f := newE w2 f
    have hsA : w2.heap.size < (w2.alloc (.cells #[.int .i64 f.t, .int .i64 f.s, .int .i64 f.q, .int .i64 f.d, .int .i64 f.k, .int .i64 f.v, .int .i64 f.g] 33)).heap.size := by simp
    have HbA : Hid (Below w2.heap.size w2 (w2.alloc (.cells #[.int .i64 f.t, .int .i64 f.s, .int .i64 f.q, .int .i64 f.d, .int .i64 f.k, .int .i64 f.v, .int .i64 f.g] 33))) := hbA
    have HnA : Hid (Ev.In (w2.alloc (.cells #[.int .i64 f.t, .int .i64 f.s, .int .i64 f.q, .int .i64 f.d, .int .i64 f.k, .int .i64 f.v, .int .i64 f.g] 33)) w2.heap.size 0 f) := hnA
    clear hbA hnA
    go_wp2_with fail
    generalize w2.alloc (.cells #[.int .i64 f.t, .int .i64 f.s, .int .i64 f.q, .int .i64 f.d, .int .i64 f.k, .int .i64 f.v, .int .i64 f.g] 33) = v2 at *
    have HFW_v2 : Hid (Ev.In v2 w2.heap.size 0 f) := HnA.out
    have hz_v2 : w2.heap.size ≤ v2.heap.size := HbA.out.size
    have HB_v2 : Hid (Below w.heap.size w v2) := HB_w2.out.trans (HbA.out.mono HB_w2.out.size)
    have HS_v2 : Hid (LowEvs w2.heap.size v2 xs l') := HS_w2.out.below (HbA.out.mono (by omega))
    clear HB_w2 HS_w2 HbA HnA
    have HXc : Hid (LowEvs w.heap.size v2 (.slice a l.length cap) l) := HX.out.below HB_v2.out
    refine (toEventS_any _ l _ hl HXc.out.isEvs).mono ?_
    rintro e w3 ⟨rfl, hb3, hr3⟩
    have HR_w3 : Hid (RowTo w3 v2.heap.size l.length l l.length) := hr3
    have hx3 : v2.heap.size < w3.heap.size := hr3.1
    have hz_w3 : v2.heap.size ≤ w3.heap.size := hb3.size
    have HB_w3 : Hid (Below w.heap.size w w3) := HB_v2.out.trans (hb3.mono HB_v2.out.size)
    have HS_w3 : Hid (LowEvs w2.heap.size w3 xs l') := HS_v2.out.below (hb3.mono (by omega))
    have HFW_w3 : Hid (Ev.In w3 w2.heap.size 0 f) := HFW_v2.out.below hb3 (by omega)
    clear HB_v2 HS_v2 HFW_v2 HXc hr3 hb3
    go_wp2_with fail
    refine (HIM.out _ _ HR_w3.out).mono ?_
    rintro e w4 ⟨⟨xg, rfl, hxg⟩, hb4⟩
    have HG_w4 : Hid (OwnEvs w3.heap.size w4 xg l') := hxg
    have hz_w4 : w3.heap.size ≤ w4.heap.size := hb4.size
    have HB_w4 : Hid (Below w.heap.size w w4) := HB_w3.out.trans (hb4.mono HB_w3.out.size)
    have HS_w4 : Hid (LowEvs w2.heap.size w4 xs l') := HS_w3.out.below (hb4.mono (by omega))
    have HFW_w4 : Hid (Ev.In w4 w2.heap.size 0 f) := HFW_w3.out.below hb4 (by omega)
    have HR_w4 : Hid (RowTo w4 v2.heap.size l.length l l.length) := HR_w3.out.below hb4 (by omega)
    clear HB_w3 HS_w3 HFW_w3 HR_w3 hxg hb4
    have hbA : Below w4.heap.size w4 (w4.alloc (.cells #[.int .i64 f.t, .int .i64 f.s, .int .i64 f.q, .int .i64 f.d, .int .i64 f.k, .int .i64 f.v, .int .i64 f.g] 33)) := (Below.refl _ _).alloc (Nat.le_refl _) _
    have hnA : Ev.In (w4.alloc (.cells #[.int .i64 f.t, .int .i64 f.s, .int .i64 f.q, .int .i64 f.d, .int .i64 f.k, .int .i64 f.v, .int .i64 f.g] 33)) w4.heap.size 0 f := newE w4 f
    have hsA : w4.heap.size < (w4.alloc (.cells #[.int .i64 f.t, .int .i64 f.s, .int .i64 f.q, .int .i64 f.d, .int .i64 f.k, .int .i64 f.v, .int .i64 f.g] 33)).heap.size := by simp
    have HbA : Hid (Below w4.heap.size w4 (w4.alloc (.cells #[.int .i64 f.t, .int .i64 f.s, .int .i64 f.q, .int .i64 f.d, .int .i64 f.k, .int .i64 f.v, .int .i64 f.g] 33))) := hbA
    have HnA : Hid (Ev.In (w4.alloc (.cells #[.int .i64 f.t, .int .i64 f.s, .int .i64 f.q, .int .i64 f.d, .int .i64 f.k, .int .i64 f.v, .int .i64 f.g] 33)) w4.heap.size 0 f) := hnA
    clear hbA hnA
    go_wp2_with fail
    generalize w4.alloc (.cells #[.int .i64 f.t, .int .i64 f.s, .int .i64 f.q, .int .i64 f.d, .int .i64 f.k, .int .i64 f.v, .int .i64 f.g] 33) = v4 at *
    have HFG_v4 : Hid (Ev.In v4 w4.heap.size 0 f) := HnA.out
    have hz_v4 : w4.heap.size ≤ v4.heap.size := HbA.out.size
    have HB_v4 : Hid (Below w.heap.size w v4) := HB_w4.out.trans (HbA.out.mono HB_w4.out.size)
    have HS_v4 : Hid (LowEvs w2.heap.size v4 xs l') := HS_w4.out.below (HbA.out.mono (by omega))
    have HFW_v4 : Hid (Ev.In v4 w2.heap.size 0 f) := HFW_w4.out.below HbA.out (by omega)
    have HR_v4 : Hid (RowTo v4 v2.heap.size l.length l l.length) := HR_w4.out.below HbA.out (by omega)
    have HG_v4 : Hid (OwnEvs w3.heap.size v4 xg l') := HG_w4.out.below HbA.out
    clear HB_w4 HS_w4 HFW_w4 HR_w4 HG_w4 HbA HnA
    refine (eqS_same' _ _ l' _ hl' HG_v4.out.isEvs HS_v4.out.isEvs).mono ?_
    rintro e w5 ⟨rfl, hbw5⟩
    have hz_w5 : v4.heap.size ≤ w5.heap.size := hbw5.size
    have HB_w5 : Hid (Below w.heap.size w w5) := HB_v4.out.trans (hbw5.mono HB_v4.out.size)
    have HS_w5 : Hid (LowEvs w2.heap.size w5 xs l') := HS_v4.out.below (hbw5.mono (by omega))
    have HFW_w5 : Hid (Ev.In w5 w2.heap.size 0 f) := HFW_v4.out.below hbw5 (by omega)
    have HR_w5 : Hid (RowTo w5 v2.heap.size l.length l l.length) := HR_v4.out.below hbw5 (by omega)
    have HG_w5 : Hid (OwnEvs w3.heap.size w5 xg l') := HG_v4.out.below hbw5
    have HFG_w5 : Hid (Ev.In w5 w4.heap.size 0 f) := HFG_v4.out.below hbw5 (by omega)
    clear HB_v4 HS_v4 HFW_v4 HR_v4 HG_v4 HFG_v4 hbw5
    obtain ⟨p0, p1, p2, p3, p4, p5, p6⟩ := HFG_w5.out.lits
    obtain ⟨q0, q1, q2, q3, q4, q5, q6⟩ := HFW_w5.out.lits
    go_wp2_with fail
    refine (eqEvent_same f.t f.s f.q f.d f.k f.v f.g _).mono ?_
    rintro e v5 ⟨rfl, hbv5⟩
    clear p0 p1 p2 p3 p4 p5 p6 q0 q1 q2 q3 q4 q5 q6
    have hz_v5 : w5.heap.size ≤ v5.heap.size := hbv5.size
    have HB_v5 : Hid (Below w.heap.size w v5) := HB_w5.out.trans (hbv5.mono HB_w5.out.size)
    have HS_v5 : Hid (LowEvs w2.heap.size v5 xs l') := HS_w5.out.below (hbv5.mono (by omega))
    have HFW_v5 : Hid (Ev.In v5 w2.heap.size 0 f) := HFW_w5.out.below hbv5 (by omega)
    have HR_v5 : Hid (RowTo v5 v2.heap.size l.length l l.length) := HR_w5.out.below hbv5 (by omega)
    have HG_v5 : Hid (OwnEvs w3.heap.size v5 xg l') := HG_w5.out.below hbv5
    have HFG_v5 : Hid (Ev.In v5 w4.heap.size 0 f) := HFG_w5.out.below hbv5 (by omega)
    clear HB_w5 HS_w5 HFW_w5 HR_w5 HG_w5 HFG_w5 hbv5
    go_wp2_with fail
    have HXc : Hid (LowEvs w.heap.size v5 (.slice a l.length cap) l) := HX.out.below HB_v5.out
    refine (toEventS_any _ l _ hl HXc.out.isEvs).mono ?_
    rintro e w6 ⟨rfl, hb6, hr6⟩
    have HT_w6 : Hid (IsEvs w6 (.slice (some ⟨v5.heap.size, 0, none⟩) l.length l.length) l) := hr6.isEvs hl
    have hz_w6 : v5.heap.size ≤ w6.heap.size := hb6.size
    have HB_w6 : Hid (Below w.heap.size w w6) := HB_v5.out.trans (hb6.mono HB_v5.out.size)
    have HS_w6 : Hid (LowEvs w2.heap.size w6 xs l') := HS_v5.out.below (hb6.mono (by omega))
    have HFW_w6 : Hid (Ev.In w6 w2.heap.size 0 f) := HFW_v5.out.below hb6 (by omega)
    have HR_w6 : Hid (RowTo w6 v2.heap.size l.length l l.length) := HR_v5.out.below hb6 (by omega)
    have HG_w6 : Hid (OwnEvs w3.heap.size w6 xg l') := HG_v5.out.below hb6
    have HFG_w6 : Hid (Ev.In w6 w4.heap.size 0 f) := HFG_v5.out.below hb6 (by omega)
    clear HB_v5 HS_v5 HFW_v5 HR_v5 HG_v5 HFG_v5 HXc hr6 hb6
    go_wp2_with fail
    refine (eqS_same _ _ l _ hl (HR_w6.out.isEvs hl) HT_w6.out).mono ?_
    rintro e w7 ⟨rfl, hb7⟩
    have hz_w7 : w6.heap.size ≤ w7.heap.size := hb7.size
    have HB_w7 : Hid (Below w.heap.size w w7) := HB_w6.out.trans (hb7.mono HB_w6.out.size)
    have HS_w7 : Hid (LowEvs w2.heap.size w7 xs l') := HS_w6.out.below (hb7.mono (by omega))
    have HFW_w7 : Hid (Ev.In w7 w2.heap.size 0 f) := HFW_w6.out.below hb7 (by omega)
    have HR_w7 : Hid (RowTo w7 v2.heap.size l.length l l.length) := HR_w6.out.below hb7 (by omega)
    have HG_w7 : Hid (OwnEvs w3.heap.size w7 xg l') := HG_w6.out.below hb7
    have HFG_w7 : Hid (Ev.In w7 w4.heap.size 0 f) := HFG_w6.out.below hb7 (by omega)
    clear HB_w6 HS_w6 HFW_w6 HR_w6 HG_w6 HFG_w6 HT_w6 hb7
    go_wp2_with fail
    refine (mark_any v2.heap.size l.length l.length l _ (by omega) ⟨HR_w7.out.1, HR_w7.out.2.1, fun i hi => by omega⟩).mono ?_
    rintro e w8 ⟨rfl, _, hg8⟩
    have hz_w8 : w7.heap.size ≤ w8.heap.size := hg8.size
    have hbx8 : Below v2.heap.size w7 w8 := (Below.refl _ w7).grown hg8 (by omega) (fun k e => by cases e; exact Nat.le_refl _)
    have HB_w8 : Hid (Below w.heap.size w w8) := HB_w7.out.trans (hbx8.mono (by omega))
    have HS_w8 : Hid (LowEvs w2.heap.size w8 xs l') := HS_w7.out.below (hbx8.mono (by omega))
    have HFW_w8 : Hid (Ev.In w8 w2.heap.size 0 f) := HFW_w7.out.below hbx8 (by omega)
    have HG_w8 : Hid (OwnEvs w3.heap.size w8 xg l') := HG_w7.out.other hx3 hg8
    have hblk8 : w8.heap[w4.heap.size]? = w7.heap[w4.heap.size]? := hg8.block _ (by omega) (by intro e; have := Option.some.inj e; omega)
    have hcl8 : ∀ o, w8.cell? ⟨w4.heap.size, o, none⟩ = w7.cell? ⟨w4.heap.size, o, none⟩ := fun o => World.cell?_of_block (w := w7) hblk8
    have HFG_w8 : Hid (Ev.In w8 w4.heap.size 0 f) := ⟨(hcl8 _).trans HFG_w7.out.f0, (hcl8 _).trans HFG_w7.out.f1, (hcl8 _).trans HFG_w7.out.f2, (hcl8 _).trans HFG_w7.out.f3, (hcl8 _).trans HFG_w7.out.f4, (hcl8 _).trans HFG_w7.out.f5, (hcl8 _).trans HFG_w7.out.f6⟩
    clear hg8 hbx8 hblk8 hcl8 HB_w7 HS_w7 HFW_w7 HG_w7 HFG_w7 HR_w7
    go_wp2_with fail
    refine (eqS_same' _ _ l' _ hl' HG_w8.out.isEvs HS_w8.out.isEvs).mono ?_
    rintro e w9 ⟨rfl, hbw9⟩
    have hz_w9 : w8.heap.size ≤ w9.heap.size := hbw9.size
    have HB_w9 : Hid (Below w.heap.size w w9) := HB_w8.out.trans (hbw9.mono HB_w8.out.size)
    have HS_w9 : Hid (LowEvs w2.heap.size w9 xs l') := HS_w8.out.below (hbw9.mono (by omega))
    have HFW_w9 : Hid (Ev.In w9 w2.heap.size 0 f) := HFW_w8.out.below hbw9 (by omega)
    have HG_w9 : Hid (OwnEvs w3.heap.size w9 xg l') := HG_w8.out.below hbw9
    have HFG_w9 : Hid (Ev.In w9 w4.heap.size 0 f) := HFG_w8.out.below hbw9 (by omega)
    clear HB_w8 HS_w8 HFW_w8 HG_w8 HFG_w8 hbw9
    obtain ⟨p0, p1, p2, p3, p4, p5, p6⟩ := HFG_w9.out.lits
    obtain ⟨q0, q1, q2, q3, q4, q5, q6⟩ := HFW_w9.out.lits
    go_wp2_with fail
    refine (eqEvent_same f.t f.s f.q f.d f.k f.v f.g _).mono ?_
    rintro e v9 ⟨rfl, hbv9⟩
    clear p0 p1 p2 p3 p4 p5 p6 q0 q1 q2 q3 q4 q5 q6
    have hz_v9 : w9.heap.size ≤ v9.heap.size := hbv9.size
    have HB_v9 : Hid (Below w.heap.size w v9) := HB_w9.out.trans (hbv9.mono HB_w9.out.size)
    have HS_v9 : Hid (LowEvs w2.heap.size v9 xs l') := HS_w9.out.below (hbv9.mono (by omega))
    have HFW_v9 : Hid (Ev.In v9 w2.heap.size 0 f) := HFW_w9.out.below hbv9 (by omega)
    have HG_v9 : Hid (OwnEvs w3.heap.size v9 xg l') := HG_w9.out.below hbv9
    have HFG_v9 : Hid (Ev.In v9 w4.heap.size 0 f) := HFG_w9.out.below hbv9 (by omega)
    clear HB_w9 HS_w9 HFW_w9 HG_w9 HFG_w9 hbv9
    go_wp2_with fail
    refine (mark_own HG_v9.out hl').mono ?_
    rintro e w10 ⟨m, hm, rfl, hh10, ht10⟩
    have hbt : Below w3.heap.size v9 w10 := ht10.below (by omega)
    have hz_w10 : v9.heap.size ≤ w10.heap.size := hbt.size
    have hmn : ¬ (m < 0) := by omega
    have HB_w10 : Hid (Below w.heap.size w w10) := HB_v9.out.trans (hbt.mono (by omega))
    have HS_w10 : Hid (LowEvs w2.heap.size w10 xs l') := HS_v9.out.below (hbt.mono (by omega))
    have HFW_w10 : Hid (Ev.In w10 w2.heap.size 0 f) := HFW_v9.out.below hbt (by omega)
    have HHH_w10 : Hid (HeldIn w10 xg m) := hh10
    clear hh10 ht10 hbt HB_v9 HS_v9 HFW_v9 HG_v9 HFG_v9
    go_wp2_with fail
    refine (held_in HHH_w10.out).mono ?_
    rintro e w' ⟨rfl, hw⟩
    have hw' := hw.symm
    clear hw
    subst hw'
    have HXc : Hid (LowEvs w.heap.size w10 (.slice a l.length cap) l) := HX.out.below HB_w10.out
    go_wp2_with fail
    refine (toEventS_any _ l _ hl HXc.out.isEvs).mono ?_
    rintro e w11 ⟨rfl, hb11, hr11⟩
    have HR_w11 : Hid (RowTo w11 w10.heap.size l.length l l.length) := hr11
    have hx11 : w10.heap.size < w11.heap.size := hr11.1
    have hz_w11 : w10.heap.size ≤ w11.heap.size := hb11.size
    have HB_w11 : Hid (Below w.heap.size w w11) := HB_w10.out.trans (hb11.mono HB_w10.out.size)
    have HS_w11 : Hid (LowEvs w2.heap.size w11 xs l') := HS_w10.out.below (hb11.mono (by omega))
    have HFW_w11 : Hid (Ev.In w11 w2.heap.size 0 f) := HFW_w10.out.below hb11 (by omega)
    have HHH_w11 : Hid (HeldIn w11 xg m) := HHH_w10.out.below hb11
    clear HB_w10 HS_w10 HFW_w10 HHH_w10 HXc hr11 hb11
    go_wp2_with fail
    refine (HIM.out _ _ HR_w11.out).mono ?_
    rintro e w12 ⟨⟨xh, rfl, hxh⟩, hb12⟩
    have HK_w12 : Hid (OwnEvs w11.heap.size w12 xh l') := hxh
    have hz_w12 : w11.heap.size ≤ w12.heap.size := hb12.size
    have HB_w12 : Hid (Below w.heap.size w w12) := HB_w11.out.trans (hb12.mono HB_w11.out.size)
    have HS_w12 : Hid (LowEvs w2.heap.size w12 xs l') := HS_w11.out.below (hb12.mono (by omega))
    have HFW_w12 : Hid (Ev.In w12 w2.heap.size 0 f) := HFW_w11.out.below hb12 (by omega)
    have HHH_w12 : Hid (HeldIn w12 xg m) := HHH_w11.out.below hb12
    clear HB_w11 HS_w11 HFW_w11 HHH_w11 HR_w11 hxh hb12 HIM
    have hbA : Below w12.heap.size w12 (w12.alloc (.cells #[.int .i64 f.t, .int .i64 f.s, .int .i64 f.q, .int .i64 f.d, .int .i64 f.k, .int .i64 f.v, .int .i64 f.g] 33)) := (Below.refl _ _).alloc (Nat.le_refl _) _
    have hnA : Ev.In (w12.alloc (.cells #[.int .i64 f.t, .int .i64 f.s, .int .i64 f.q, .int .i64 f.d, .int .i64 f.k, .int .i64 f.v, .int .i64 f.g] 33)) w12.heap.size 0 f := newE w12 f
    have hsA : w12.heap.size < (w12.alloc (.cells #[.int .i64 f.t, .int .i64 f.s, .int .i64 f.q, .int .i64 f.d, .int .i64 f.k, .int .i64 f.v, .int .i64 f.g] 33)).heap.size := by simp
    have HbA : Hid (Below w12.heap.size w12 (w12.alloc (.cells #[.int .i64 f.t, .int .i64 f.s, .int .i64 f.q, .int .i64 f.d, .int .i64 f.k, .int .i64 f.v, .int .i64 f.g] 33))) := hbA
    have HnA : Hid (Ev.In (w12.alloc (.cells #[.int .i64 f.t, .int .i64 f.s, .int .i64 f.q, .int .i64 f.d, .int .i64 f.k, .int .i64 f.v, .int .i64 f.g] 33)) w12.heap.size 0 f) := hnA
    clear hbA hnA
    have HKA : Hid (OwnEvs w11.heap.size (w12.alloc (.cells #[.int .i64 f.t, .int .i64 f.s, .int .i64 f.q, .int .i64 f.d, .int .i64 f.k, .int .i64 f.v, .int .i64 f.g] 33)) xh l') := HK_w12.out.below HbA.out
    clear HK_w12
    go_wp2_with fail
    generalize w12.alloc (.cells #[.int .i64 f.t, .int .i64 f.s, .int .i64 f.q, .int .i64 f.d, .int .i64 f.k, .int .i64 f.v, .int .i64 f.g] 33) = v12 at *
    have HFG_v12 : Hid (Ev.In v12 w12.heap.size 0 f) := HnA.out
    have hz_v12 : w12.heap.size ≤ v12.heap.size := HbA.out.size
    have HB_v12 : Hid (Below w.heap.size w v12) := HB_w12.out.trans (HbA.out.mono HB_w12.out.size)
    have HS_v12 : Hid (LowEvs w2.heap.size v12 xs l') := HS_w12.out.below (HbA.out.mono (by omega))
    have HFW_v12 : Hid (Ev.In v12 w2.heap.size 0 f) := HFW_w12.out.below HbA.out (by omega)
    have HHH_v12 : Hid (HeldIn v12 xg m) := HHH_w12.out.below HbA.out
    clear HB_w12 HS_w12 HFW_w12 HHH_w12 HbA HnA
    refine (eqS_same' _ _ l' _ hl' HKA.out.isEvs HS_v12.out.isEvs).mono ?_
    rintro e w13 ⟨rfl, hbw13⟩
    have hz_w13 : v12.heap.size ≤ w13.heap.size := hbw13.size
    have HB_w13 : Hid (Below w.heap.size w w13) := HB_v12.out.trans (hbw13.mono HB_v12.out.size)
    have HFW_w13 : Hid (Ev.In w13 w2.heap.size 0 f) := HFW_v12.out.below hbw13 (by omega)
    have HHH_w13 : Hid (HeldIn w13 xg m) := HHH_v12.out.below hbw13
    have HFG_w13 : Hid (Ev.In w13 w12.heap.size 0 f) := HFG_v12.out.below hbw13 (by omega)
    clear HB_v12 HS_v12 HFW_v12 HHH_v12 HFG_v12 hbw13 HKA
    obtain ⟨p0, p1, p2, p3, p4, p5, p6⟩ := HFG_w13.out.lits
    obtain ⟨q0, q1, q2, q3, q4, q5, q6⟩ := HFW_w13.out.lits
    go_wp2_with fail
    refine (eqEvent_same f.t f.s f.q f.d f.k f.v f.g _).mono ?_
    rintro e v13 ⟨rfl, hbv13⟩
    clear p0 p1 p2 p3 p4 p5 p6 q0 q1 q2 q3 q4 q5 q6
    have hz_v13 : w13.heap.size ≤ v13.heap.size := hbv13.size
    have HB_v13 : Hid (Below w.heap.size w v13) := HB_w13.out.trans (hbv13.mono HB_w13.out.size)
    have HFW_v13 : Hid (Ev.In v13 w2.heap.size 0 f) := HFW_w13.out.below hbv13 (by omega)
    have HHH_v13 : Hid (HeldIn v13 xg m) := HHH_w13.out.below hbv13
    have HFG_v13 : Hid (Ev.In v13 w12.heap.size 0 f) := HFG_w13.out.below hbv13 (by omega)
    clear HB_w13 HFW_w13 HHH_w13 HFG_w13 hbv13
    go_wp2_with fail
    refine (held_in HHH_v13.out).mono ?_
    rintro e w' ⟨rfl, hw⟩
    have hw' := hw.symm
    clear hw
    subst hw'
    go_wp2
    go_ret
    exact ⟨rfl, HB_v13.out⟩
  · go_enter Try.func5, Try.ntmps5
    go_wp2_with fail
    refine (sz_big a l.length cap _ (Nat.le_trans h1 h2) hl).mono ?_
    rintro e w' ⟨rfl, hw⟩
    have hw' := hw.symm
    clear hw
    subst hw'
    go_wp2
    go_ret
    exact ⟨rfl, Below.refl _ _⟩

set_option maxRecDepth 100000 in
theorem lifted (os : Os) (started : os.Started) (H : Type) (enc : TypeId × Value → H) :
    ReturnsInHanded {} Try.checked os 5 .any (Rows.fnExactHeapPopSpec.pre6 enc Try.prog Try.f5 Rows.fnExactHeapPopRow.domain false) (Rows.fnExactHeapPopSpec.post enc Try.prog Try.f5 false true false false) := by
  refine returnsInHanded_of_change (C := Try.checked) own started (by kernel_rfl) Try.func5
    (ChangeSpec.witness6 (enc := enc) (C := Try.checked) false ⟨#[], #[.slice none 0 0], []⟩ 8 (by kernel_rfl) (by kernel_rfl) (by kernel_rfl) (by kernel_rfl)) ?_
  intro W base args ds gs before hval0 hW hcnd _
  have hval : ∀ (j : Nat) t v, Try.f5.params[j]? = some t → args[j]? = some v → Value.okWide Try.prog W .any base t v := hval0
  have hW' := hW
  obtain ⟨p, q, hA0, hV, rfl, hfz, hnd⟩ := hW
  have hA : DataW.TrodAll enc Try.prog W 0 (fun _ => true) true Try.f5.params.toList args.toList ds p := hA0
  rw [Try.params5] at hA hval
  obtain ⟨v0, vs0, d0, ds0, p0, q0, hargs, rfl, rfl, h0, r0⟩ := trodAll_cons hA
  obtain ⟨rfl, rfl, rfl⟩ := trodAll_nil r0
  obtain rfl : args = #[v0] := by cases args; simp_all
  obtain ⟨rfl, rfl⟩ := trodVars_none hV
  have k0 := h0
  have lt0 : ∀ x ∈ p0, x.block < W.heap.size := by obtain ⟨m, hm⟩ := k0; exact DataW.trod_lt m _ _ _ hm
  obtain ⟨l0, g0⟩ := open_evs (hval 0 22 v0 rfl rfl) h0
  clear hA0 hval0
  refine (walk v0 l0 W g0).mono fun e W' ⟨he, bel⟩ => ?_
  subst he
  exact ⟨_, rfl, _, _, _, [], _, [], hW', trodAll_mk1 (shut_bool Try.underlying4 _), (trodAll_cons_mk (Below.trod laidOut (by kernel_rfl) (of_decide_eq_true (by kernel_rfl)) k0 bel lt0) trodAll_mk0), rfl, bel.frame _, fun h => by cases h⟩

theorem over : Rows.fnExactHeapPopRow.holds Try.pinned (OpenSpec.ofChange Rows.fnExactHeapPopSpec) :=
  OpenClaim.holds_of_wide 5 Try.f5 rfl rfl rfl rfl rfl rfl rfl ⟨rfl, rfl, rfl, rfl, rfl⟩ rfl rfl rfl rfl rfl (by kernel_rfl) Try.func5 (by kernel_rfl)
    (of_decide_eq_true (by kernel_rfl)) (by unfold Func.isWrapper; first | (rw [if_pos (by decide +kernel)]; kernel_rfl) | (rw [if_neg (by decide +kernel)]; exact ⟨rfl, rfl⟩))
    (fun os started H enc _ => lifted os started H enc)
end Go.Proofs.Ythklekjglocbgaa.LawHeapPop
namespace Go.Proofs.Ythklekjglocbgaa
theorem heapPop_holds : Rows.FnExactHeapPopSaid := LawHeapPop.over
#print axioms heapPop_holds
end Go.Proofs.Ythklekjglocbgaa

