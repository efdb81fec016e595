/- QQs, QSame, OpenS, NOpen, HSrt -/
import Derived.Test.YteecpandpkicmaaSortsLQPure
import Derived.Test.YteecpandpkicmaaSortsLInsN
import Derived.Test.YteecpandpkicmaaSortsG43
import Derived.Test.YteecpandpkicmaaSortsG01
import Derived.Deep.RegionHeld3
import Derived.Laws.StructEq
import Derived.Test.YteecpandpkicmaaSortsG05
import Derived.Test.YteecpandpkicmaaSortsG00
import Derived.ProofKit
import Derived.ChangeOld
import Derived.OpenShut
import Derived.SizedLaws
import Derived.Test.YteecpandpkicmaaSortsG31
import Derived.Test.YteecpandpkicmaaSortsG37
/- queues(): two events go in, the first one is the earlier one, in the heap too. -/
namespace Go.Proofs.Yteecpandpkicmaa
open Go.RowKit

def E1 : Ev := ⟨5, 0, 0, 0, 0, 0, 1⟩
def E2 : Ev := ⟨3, 0, 0, 0, 0, 0, 2⟩
theorem E1_ok : E1.ok = true := by decide
theorem E2_ok : E2.ok = true := by decide
theorem good_nil : GoodQ [] := ⟨by simp, fun i hi => by simp at hi⟩
theorem noTag_nil (g : Int) : NoTag [] g := fun j hj => by simp at hj
theorem ins_nil (e : Ev) : insL [] e 0 = [e] := rfl
theorem good_E1 : GoodQ [E1] := ins_good (p := 0) good_nil E1_ok (noTag_nil _) (by simp) ⟨Nat.le_refl _, fun j hj => by omega, fun h => by simp at h⟩
theorem insAt_E2 : InsAt [E1] E2 0 := ⟨by simp, fun j hj => by omega, fun _ => by decide⟩
theorem insAt_E2_only {p : Nat} (h : InsAt [E1] E2 p) : p = 0 := by
  by_cases hp : p = 0
  · exact hp
  · exact absurd (h.2.1 0 (by omega)) (by decide)
theorem noTag_E1 : NoTag [E1] E2.g := fun j hj => by
  have : j = 0 := by simpa using hj
  subst this
  decide
theorem good_E2 : GoodQ [E2, E1] := ins_good (p := 0) good_E1 E2_ok noTag_E1 (by simp) insAt_E2
theorem fold_E2 : [E2, E1].foldl pushL [] = [E2, E1] := by
  have h1 : pushL [] E2 = [E2] := by
    unfold pushL
    exact upL_stop (by simp)
  have h2 : pushL [E2] E1 = [E2, E1] := by
    unfold pushL
    exact upL_stop (by decide)
  show pushL (pushL [] E2) E1 = _
  rw [h1, h2]
theorem goodL_E2 : GoodL [E2, E1] := ⟨by simp, fun i hi => ⟨(good_E2.2 i hi).1, (good_E2.2 i hi).2.2⟩⟩
theorem OwnEvs.some {B : Nat} {w : World} {x : Value} {l : List Ev} (h : OwnEvs B w x l) (hl : l ≠ []) : ∃ g cap, x = .slice (some ⟨g, 0, none⟩) l.length cap ∧ l.length ≤ cap ∧ cap ≤ maxLen ∧ B ≤ g ∧ EvsAt w g 0 l := by
  obtain ⟨a, cap, rfl, h1, h2, h⟩ := h
  obtain ⟨g, rfl, h3, h4⟩ := h.resolve_left hl
  exact ⟨g, cap, rfl, h1, h2, h3, h4.evs⟩

set_option maxRecDepth 100000 in
set_option maxHeartbeats 4000000 in
theorem queues_any (w : World) : Calls Try.prog 9 #[] w fun e w' => e = .returned (.bool true) ∧ Below w.heap.size w w' := by
  have HI1 : Hid (∀ W, Calls Try.prog 7 #[.slice none 0 0, .agg #[.int .i64 5, .int .i64 0, .int .i64 0, .int .i64 0, .int .i64 0, .int .i64 0, .int .i64 1]] W fun r w' => (∃ g cap, r = .returned (.tuple #[.slice (some ⟨g, 0, none⟩) 1 cap, .bool true]) ∧ 1 ≤ cap ∧ cap ≤ maxLen ∧ EvsAt w' g 0 [E1]) ∧ Below W.heap.size W w') := fun W => by
    refine (iInsert_nil E1 W E1_ok).mono ?_
    rintro r w' ⟨⟨k, x, rfl, hk, hx⟩, hb⟩
    have hk0 : k = 0 := by have := hk.1; simpa using this
    subst hk0
    obtain ⟨g, cap, rfl, h1, h2, _, h3⟩ := hx.some (by simp)
    exact ⟨⟨g, cap, rfl, by simpa using h1, h2, h3⟩, hb⟩
  have HI2 : Hid (∀ W g cap, 1 ≤ cap → EvsAt W g 0 [E1] → Calls Try.prog 7 #[.slice (some ⟨g, 0, none⟩) 1 cap, .agg #[.int .i64 3, .int .i64 0, .int .i64 0, .int .i64 0, .int .i64 0, .int .i64 0, .int .i64 2]] W fun r w' => (∃ g cap, r = .returned (.tuple #[.slice (some ⟨g, 0, none⟩) 2 cap, .bool true]) ∧ 2 ≤ cap ∧ cap ≤ maxLen ∧ EvsAt w' g 0 [E2, E1]) ∧ Below W.heap.size W w') := fun W g cap hcap hE => by
    refine (iInsert_yes g 0 cap [E1] E2 W (by simpa using hcap) (by simp) hE good_E1 E2_ok noTag_E1 (by simp)).mono ?_
    rintro r w' ⟨⟨k, x, rfl, hk, hx⟩, hb⟩
    obtain rfl := insAt_E2_only hk
    obtain ⟨g, cap, rfl, h1, h2, _, h3⟩ := hx.some (by simp)
    exact ⟨⟨g, cap, rfl, by simpa using h1, h2, h3⟩, hb⟩
  have HF : Hid (∀ W g cap, 2 ≤ cap → cap ≤ maxLen → EvsAt W g 0 [E2, E1] → Calls Try.prog 11 #[.slice (some ⟨g, 0, none⟩) 2 cap] W fun r w' => r = .returned (.tuple #[.agg #[.int .i64 3, .int .i64 0, .int .i64 0, .int .i64 0, .int .i64 0, .int .i64 0, .int .i64 2], .bool true]) ∧ Below W.heap.size W w') := fun W g cap h1 h2 hE => iFirst_yes g 0 cap [E2, E1] W (by simp) hE (by simpa using h1) h2 (by simp) good_E2
  have HH : Hid (∀ W g cap, EvsAt W g 0 [E2, E1] → Calls Try.prog 22 #[.slice (some ⟨g, 0, none⟩) 2 cap] W fun r w' => (∃ g' cap', r = .returned (.tuple #[.slice (some ⟨g', 0, none⟩) 2 cap', .bool true]) ∧ w'.cell? ⟨g', 0, none⟩ = some (.int .i64 3)) ∧ Below W.heap.size W w') := fun W g cap hE => by
    refine (iOf_gen (some ⟨g, 0, none⟩) cap g [E2, E1] W (by simp) (.inr ⟨0, rfl, hE⟩) hE.1).mono ?_
    rintro r w' ⟨h, hb⟩
    refine ⟨?_, hb⟩
    rcases h with ⟨_, x, rfl, hx⟩ | ⟨h, _⟩
    · rw [fold_E2] at hx
      obtain ⟨g', cap', rfl, _, _, _, h3⟩ := hx.some (by simp)
      exact ⟨g', cap', rfl, (h3.2 0 (by simp)).f0⟩
    · exact absurd goodL_E2 h
  go_enter Try.func9, Try.ntmps9
  go_wp2_with fail
  refine (HI1.out _).mono ?_
  rintro r w1 ⟨⟨g1, cap1, rfl, hc1, hm1, he1⟩, hb1⟩
  have HB1 : Hid (Below w.heap.size w w1) := hb1
  have HE1 : Hid (EvsAt w1 g1 0 [E1]) := he1
  clear hb1 he1
  go_wp2_with fail
  refine (HI2.out _ g1 cap1 hc1 HE1.out).mono ?_
  rintro r w2 ⟨⟨g2, cap2, rfl, hc2, hm2, he2⟩, hb2⟩
  have HB2 : Hid (Below w.heap.size w w2) := HB1.out.trans (hb2.mono HB1.out.size)
  have HE2 : Hid (EvsAt w2 g2 0 [E2, E1]) := he2
  clear hb2 he2 HB1 HE1
  go_wp2_with fail
  refine (HF.out _ g2 cap2 hc2 hm2 HE2.out).mono ?_
  rintro r w3 ⟨rfl, hb3⟩
  have HB3 : Hid (Below w.heap.size w w3) := HB2.out.trans (hb3.mono HB2.out.size)
  have HE3 : Hid (EvsAt w3 g2 0 [E2, E1]) := HE2.out.below hb3 HE2.out.1
  clear hb3 HB2 HE2
  have HE4 : Hid (EvsAt (w3.alloc (.cells #[.int .i64 3, .int .i64 0, .int .i64 0, .int .i64 0, .int .i64 0, .int .i64 0, .int .i64 2] 25)) g2 0 [E2, E1]) := HE3.out.below ((Below.refl _ w3).alloc (Nat.le_refl _) _) HE3.out.1
  go_wp2_with fail
  refine (HH.out _ g2 cap2 HE4.out).mono ?_
  rintro r w5 ⟨⟨g5, cap5, rfl, hc5⟩, hb5⟩
  have hf : w5.cell? ⟨w3.heap.size, 0, none⟩ = some (.int .i64 3) := (hb5.cell (p := ⟨w3.heap.size, 0, none⟩) (by simp)).trans (by simp)
  have HB5 : Hid (Below w.heap.size w w5) := (HB3.out.alloc HB3.out.size _).trans (hb5.mono (by have := HB3.out.size; simp; omega))
  clear hb5
  go_wp2
  go_ret
  exact ⟨rfl, HB5.out⟩
end Go.Proofs.Yteecpandpkicmaa

/- sameEvents, where both lists are the same. -/
namespace Go.Proofs.Yteecpandpkicmaa
open Go.RowKit
set_option maxHeartbeats 4000000 in
theorem sameE_same (x y : Value) (l : List Ev) (w : World) (hl : l.length ≤ 1048577) (hx : IsEvs w x l) (hy : IsEvs w y l) :
    Calls Try.prog 8 #[x, y] w fun e w' => e = .returned (.bool true) ∧ Below w.heap.size w w' := by
  obtain ⟨a, cap, rfl, h1, h2, h⟩ := hx
  obtain ⟨a', cap', rfl, h1', h2', h'⟩ := hy
  clear h1 h2 h1' h2'
  by_cases hz : l = []
  · subst hz
    clear h h'
    go_enter Try.func8, Try.ntmps8
    go_wp2
    go_loop [5] (fun i => i = .int .i64 0) (fun _ => 0)
    case atStart => rfl
    case round =>
      subst hrel
      go_wp2
      go_ret
      exact ⟨rfl, Below.refl _ _⟩
  · obtain ⟨b, off, rfl, hb, hc⟩ := h.resolve_left hz
    obtain ⟨b', off', rfl, hb', hc'⟩ := h'.resolve_left hz
    have HC : Hid (∀ i, i < l.length → Ev.In w b (off + i * 7) (evAt l i)) := hc
    have HC' : Hid (∀ i, i < l.length → Ev.In w b' (off' + i * 7) (evAt l i)) := hc'
    clear h h' hz hc hc'
    go_enter Try.func8, Try.ntmps8
    go_wp2
    go_loopw [5] (fun i wr => ∃ k : Nat, k ≤ l.length ∧ i = .int .i64 k ∧ Below w.heap.size w wr) (fun i _ => l.length - (intOf i).toNat)
    case atStart => exact ⟨0, Nat.zero_le _, rfl, Below.refl _ _⟩
    case round =>
      obtain ⟨k, hk, rfl, hB⟩ := hrel
      have HB : Hid (Below w.heap.size w wr) := hB
      by_cases hlt : k < l.length
      · obtain ⟨f0, f1, f2, f3, f4, f5, f6⟩ := (HC.out k hlt).below hB hb
        obtain ⟨g0, g1, g2, g3, g4, g5, g6⟩ := (HC'.out k hlt).below hB hb'
        clear hB
        generalize (evAt l k).t = t at f0 g0
        generalize (evAt l k).s = s at f1 g1
        generalize (evAt l k).q = q at f2 g2
        generalize (evAt l k).d = d at f3 g3
        generalize (evAt l k).k = kk at f4 g4
        generalize (evAt l k).v = v at f5 g5
        generalize (evAt l k).g = g at f6 g6
        go_wp2_with fail
        go_region_held3 (fun W => W.cell? ⟨b, off + k * 7, none⟩ = some (.int .i64 t) ∧ W.cell? ⟨b, off + k * 7 + 1, none⟩ = some (.int .i64 s) ∧ W.cell? ⟨b, off + k * 7 + 2, none⟩ = some (.int .i64 q) ∧ W.cell? ⟨b, off + k * 7 + 3, none⟩ = some (.int .i64 d) ∧ W.cell? ⟨b, off + k * 7 + 4, none⟩ = some (.int .i64 kk) ∧ W.cell? ⟨b, off + k * 7 + 5, none⟩ = some (.int .i64 v) ∧ W.cell? ⟨b, off + k * 7 + 6, none⟩ = some (.int .i64 g) ∧ W.cell? ⟨b', off' + k * 7, none⟩ = some (.int .i64 t) ∧ W.cell? ⟨b', off' + k * 7 + 1, none⟩ = some (.int .i64 s) ∧ W.cell? ⟨b', off' + k * 7 + 2, none⟩ = some (.int .i64 q) ∧ W.cell? ⟨b', off' + k * 7 + 3, none⟩ = some (.int .i64 d) ∧ W.cell? ⟨b', off' + k * 7 + 4, none⟩ = some (.int .i64 kk) ∧ W.cell? ⟨b', off' + k * 7 + 5, none⟩ = some (.int .i64 v) ∧ W.cell? ⟨b', off' + k * 7 + 6, none⟩ = some (.int .i64 g)) ((repeat' apply And.intro) <;> go_keep) (fail)
        go_wp2
        go_roundw
        case rel => exact ⟨k + 1, by omega, by go_num, HB.out.drew⟩
        case measure => simp [intOf]; omega
      · clear hB
        go_wp2
        go_ret
        exact ⟨rfl, HB.out⟩
end Go.Proofs.Yteecpandpkicmaa

/- How a list of events that came in is read. -/
namespace Go.Proofs.Yteecpandpkicmaa
open Go.ChangeShapes Go.WideShapes Go.ChangeAt Go.RowKit

theorem evs_list {w : World} {b off : Nat} : ∀ n, (∀ i, i < n → ∃ e : Ev, Ev.In w b (off + i * 7) e) → ∃ l : List Ev, l.length = n ∧ ∀ i, i < n → Ev.In w b (off + i * 7) (evAt l i)
  | 0, _ => ⟨[], rfl, fun i hi => by omega⟩
  | n + 1, h => by
    obtain ⟨l, hl, hi⟩ := evs_list n (fun i hi => h i (by omega))
    obtain ⟨e, he⟩ := h n (by omega)
    refine ⟨l ++ [e], by simp [hl], fun i hi' => ?_⟩
    by_cases hin : i < n
    · have : evAt (l ++ [e]) i = evAt l i := by unfold evAt; simp [List.getElem?_append_left (by omega : i < l.length)]
      rw [this]; exact hi i hin
    · have : evAt (l ++ [e]) i = e := by unfold evAt; simp [show i = l.length by omega]
      rw [this, show i = n by omega]; exact he

theorem add_plain (b off n : Nat) : (⟨b, off, none⟩ : Addr).add n = ⟨b, off + n, none⟩ := by
  unfold Addr.add
  split <;> simp_all
end Go.Proofs.Yteecpandpkicmaa

/- How a code that came in is read: bytes, of which there are no more than the form's own reach. -/
namespace Go.Proofs.Yteecpandpkicmaa
open Go.ChangeShapes Go.WideShapes Go.ChangeAt Go.RowKit

theorem cells5 : Try.prog.cellsOf 5 = 1 := by kernel_rfl
theorem bytes5 : Try.prog.bytesOf 5 = 1 := by kernel_rfl
set_option maxRecDepth 100000 in
theorem open_code {H : Type} {enc : TypeId × Value → H} {w : World} {b0 : Nat} {spare : Nat → Bool} {held : Bool} {r : Reach} {v : Value} {d : DataW H} {p : List MemPlace}
    (hv : Value.okWide Try.prog w r b0 22 v) (h : DataW.Trod enc Try.prog w 0 spare held 22 v d p)
    (hs : ∀ elems spare, d = .slice elems spare → (elems.length + spare.length) * Try.prog.bytesOf 5 ≤ reachBytes) : ∃ a n cap, v = .slice a n cap ∧ n ≤ 140737488351232 ∧ CodeIn w w.heap.size a n := by
  obtain ⟨a0, len, cap, rfl⟩ := okWide_slice Try.underlying22 hv
  obtain ⟨fuel, hf⟩ := h
  rcases DataW.trod_slice Try.underlying22 hf with ⟨hcs, _⟩ | ⟨a, len', cap', elems, rest, n, _, hcs, hx, hb, hl, hm, hlen, hel, _, _⟩
  · simp [Value.cells] at hcs
    obtain ⟨rfl, rfl, rfl⟩ := hcs
    exact ⟨_, _, _, rfl, by omega, .inl rfl⟩
  · simp [Value.cells] at hcs
    obtain ⟨rfl, rfl, rfl⟩ := hcs
    have hd := hs _ _ (congrArg Prod.fst hx)
    rw [bytes5] at hd
    simp only [List.length_map] at hd
    have hr : reachBytes = 140737488351232 := rfl
    refine ⟨_, _, _, rfl, by omega, ?_⟩
    by_cases h0 : len = 0
    · exact .inl h0
    · obtain ⟨b, off, spot⟩ := a
      have hs : spot = none := by
        have h1 := hel 0 (by omega)
        rw [cells5, List.getElem?_eq_getElem (by omega)] at h1
        obtain ⟨cs, hc, ht⟩ := Option.bind_eq_some_iff.1 h1
        obtain ⟨t, rfl, _⟩ := DataW.trod_int Try.underlying5 ht
        have c0 := (World.cells?_some hc).2.2 0 (by omega)
        simpa [Addr.add] using World.cell?_spot c0
      subst hs
      have each : ∀ i, i < len → ∃ z : Nat, z < 256 ∧ w.cell? ⟨b, off + i, none⟩ = some (.int .u8 (z : Int)) ∧ b < w.heap.size := by
        intro i hi
        have h1 := hel i hi
        rw [cells5, List.getElem?_eq_getElem (by omega), add_plain] at h1
        obtain ⟨cs, hc, ht⟩ := Option.bind_eq_some_iff.1 h1
        obtain ⟨t, rfl, _, hw⟩ := DataW.trod_int Try.underlying5 ht
        have hblk : b < w.heap.size := World.cells?_block hc (by omega)
        obtain ⟨_, _, hcell⟩ := World.cells?_some hc
        have h2 := hcell 0 (by omega)
        simp only [add_plain] at h2
        have hmin : IntKind.u8.min = 0 := rfl
        have hmax : IntKind.u8.max = 255 := rfl
        simp only [Lit.wf, Bool.and_eq_true, decide_eq_true_eq] at hw
        refine ⟨t.toNat, by omega, ?_, hblk⟩
        rw [show ((t.toNat : Nat) : Int) = t from by omega]
        simpa using h2
      obtain ⟨_, _, _, hblk⟩ := each 0 (by omega)
      exact .inr ⟨b, off, rfl, hblk, fun i hi => by obtain ⟨z, h1, h2, _⟩ := each i hi; exact ⟨z, h1, h2⟩⟩
end Go.Proofs.Yteecpandpkicmaa

/- HeapOf, HeapSorted, QueueOk, HeapJoin on what was drawn. -/
namespace Go.Proofs.Yteecpandpkicmaa
open Go.RowKit
/- HeapSorted of a good heap. -/
theorem sorted_of {W : World} {a : Option Addr} {cap n : Nat} {F : List Ev} (hE : Src W (.slice a n cap) F) (hn : F.length = n) (hl : n ≤ 2000) (hW : 0 < W.heap.size) (hg : GoodH F) :
    Calls Try.prog 20 #[.slice a n cap] W fun r w' => ∃ sa scap, r = .returned (.tuple #[.slice sa n scap, .bool true]) ∧ OwnR W.heap.size w' (.slice sa n scap) (sortN n F) ∧ Below W.heap.size W w' := by
  subst hn
  refine (gSort_good a cap F W (by omega) hE hW hg).mono ?_
  rintro r w' ⟨⟨y, rfl, hy⟩, hb⟩
  obtain ⟨ya, ycap, rfl, _, _, _⟩ := hy.evs
  rw [sortN_length] at hy ⊢
  exact ⟨ya, ycap, rfl, hy, hb⟩
theorem heapOk_of {W : World} {a : Option Addr} {cap n : Nat} {F : List Ev} (hE : Src W (.slice a n cap) F) (hn : F.length = n) (hl : n ≤ 2000) (hW : 0 < W.heap.size) (hg : GoodH F) :
    Calls Try.prog 17 #[.slice a n cap] W fun r w' => r = .returned (.bool true) ∧ Below W.heap.size W w' := by
  subst hn
  refine (iHeap_src a cap F W (by omega) hE hW).mono ?_
  rintro r w' ⟨⟨bb, rfl, hs⟩, hb⟩
  obtain rfl := hs.2 hg
  exact ⟨rfl, hb⟩
theorem queueOk_of {W : World} {a : Option Addr} {cap n : Nat} {F : List Ev} (hE : Src W (.slice a n cap) F) (hn : F.length = n) (hl : n ≤ 2000) (hW : 0 < W.heap.size) (hg : GoodQ F) :
    Calls Try.prog 13 #[.slice a n cap] W fun r w' => r = .returned (.bool true) ∧ Below W.heap.size W w' := by
  subst hn
  obtain ⟨b, hb, hI⟩ := hE.parts hW
  refine (iQueue_parts a cap b F W (by omega) hI hb).mono ?_
  rintro r w' ⟨⟨bb, rfl, hs⟩, hb⟩
  obtain rfl := hs.2 hg
  exact ⟨rfl, hb⟩
/- HeapOf. -/
def OfYes (B : Nat) (l : List Ev) (r : Ending) (w' : World) : Prop := OneL l ∧ ∃ a cap, r = .returned (.tuple #[.slice a l.length cap, .bool true]) ∧ OwnR B w' (.slice a l.length cap) (l.foldl pushL [])
def OfNo (r : Ending) : Prop := ∃ x, r = .returned (.tuple #[x, .bool false])
theorem of_all {B : Nat} {w : World} {a : Option Addr} {cap : Nat} {l : List Ev} (h : OwnR B w (.slice a l.length cap) l) (hl : l.length ≤ 10) (hw : 0 < w.heap.size) :
    Calls Try.prog 22 #[.slice a l.length cap] w fun r w' => (OfYes w.heap.size l r w' ∨ OfNo r) ∧ Below w.heap.size w w' := by
  obtain ⟨b, hb, hI⟩ := h.src.parts hw
  refine (gOf_any a cap b l w (by omega) hI hb).mono ?_
  rintro r w' ⟨⟨hg, x, rfl, hx⟩ | ⟨_, x, rfl, hx⟩, hB⟩
  · obtain ⟨xa, xcap, rfl, _, _, _⟩ := hx.evs
    rw [of_length] at hx ⊢
    exact ⟨.inl ⟨hg, xa, xcap, rfl, hx⟩, hB⟩
  · exact ⟨.inr ⟨x, rfl⟩, hB⟩
/- HeapJoin. -/
def JoinYes (B : Nat) (l r : List Ev) (e : Ending) (w' : World) : Prop := (GoodH l ∧ GoodH r) ∧ CanJ l r ∧ ∃ a cap, e = .returned (.tuple #[.slice a (l.length + r.length) cap, .bool true]) ∧ OwnR B w' (.slice a (l.length + r.length) cap) (r.foldl pushL l)
def JoinNo (l r : List Ev) (e : Ending) : Prop := ¬ ((GoodH l ∧ GoodH r) ∧ CanJ l r) ∧ ∃ x, e = .returned (.tuple #[x, .bool false])
theorem join_all {W : World} {a a' : Option Addr} {cap cap' : Nat} {l r : List Ev} (h : Src W (.slice a l.length cap) l) (h' : Src W (.slice a' r.length cap') r) (hl : l.length ≤ 10) (hr : r.length ≤ 10) (hw : 0 < W.heap.size) :
    Calls Try.prog 24 #[.slice a l.length cap, .slice a' r.length cap'] W fun e w' => (JoinYes W.heap.size l r e w' ∨ JoinNo l r e) ∧ Below W.heap.size W w' := by
  refine (gJoin_any a a' cap cap' l r W (by omega) (by omega) h h' hw).mono ?_
  rintro e w' ⟨⟨hg, x, rfl, hx⟩ | ⟨hg, hc, x, rfl, hx⟩ | ⟨hg, hc, x, rfl, hx⟩, hB⟩
  · exact ⟨.inr ⟨fun hh => hg hh.1, x, rfl⟩, hB⟩
  · obtain ⟨xa, xcap, rfl, _, _, _⟩ := hx.evs
    rw [fold_length] at hx ⊢
    exact ⟨.inl ⟨hg, hc, xa, xcap, rfl, hx⟩, hB⟩
  · exact ⟨.inr ⟨fun hh => hc hh.2, x, rfl⟩, hB⟩
end Go.Proofs.Yteecpandpkicmaa

