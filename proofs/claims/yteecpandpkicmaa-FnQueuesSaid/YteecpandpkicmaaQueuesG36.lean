/- OpenS, NOpen, QIns -/
import Derived.Test.YteecpandpkicmaaQueuesG05
import Derived.Test.YteecpandpkicmaaQueuesG01
import Derived.Test.YteecpandpkicmaaQueuesG00
import Derived.ProofKit
import Derived.ChangeOld
import Derived.OpenShut
import Derived.SizedLaws
import Derived.Test.YteecpandpkicmaaQueuesG26
import Derived.Test.YteecpandpkicmaaQueuesG35
import Derived.Test.YteecpandpkicmaaQueuesG15
/- How a list of events that came in is read. -/
namespace Go.Proofs.Yteecpandpkicmaa
open Go.ChangeShapes Go.WideShapes Go.ChangeAt Go.RowKit

theorem evs_list {w : World} {b off : Nat} : ∀ n, (∀ i, i < n → ∃ e : Ev, Ev.In w b (off + i * 7) e) → ∃ l : List Ev, l.length = n ∧ ∀ i, i < n → Ev.In w b (off + i * 7) (evAt l i)
  | 0, _ => ⟨[], rfl, fun i hi => by omega⟩
  | n + 1, h => by
    obtain ⟨l, hl, hi⟩ := evs_list n (fun i hi => h i (by omega))
    obtain ⟨e, he⟩ := h n (by omega)
    refine ⟨l ++ [e], by simp [hl], fun i hi' => ?_⟩
    by_cases hin : i < n
    · have : evAt (l ++ [e]) i = evAt l i := by unfold evAt; simp [List.getElem?_append_left (by omega : i < l.length)]
      rw [this]; exact hi i hin
    · have : evAt (l ++ [e]) i = e := by unfold evAt; simp [show i = l.length by omega]
      rw [this, show i = n by omega]; exact he

theorem add_plain (b off n : Nat) : (⟨b, off, none⟩ : Addr).add n = ⟨b, off + n, none⟩ := by
  unfold Addr.add
  split <;> simp_all
end Go.Proofs.Yteecpandpkicmaa

/- How a code that came in is read: bytes, of which there are no more than the form's own reach. -/
namespace Go.Proofs.Yteecpandpkicmaa
open Go.ChangeShapes Go.WideShapes Go.ChangeAt Go.RowKit

theorem cells5 : Try.prog.cellsOf 5 = 1 := by kernel_rfl
theorem bytes5 : Try.prog.bytesOf 5 = 1 := by kernel_rfl
set_option maxRecDepth 100000 in
theorem open_code {H : Type} {enc : TypeId × Value → H} {w : World} {b0 : Nat} {spare : Nat → Bool} {held : Bool} {r : Reach} {v : Value} {d : DataW H} {p : List MemPlace}
    (hv : Value.okWide Try.prog w r b0 22 v) (h : DataW.Trod enc Try.prog w 0 spare held 22 v d p)
    (hs : ∀ elems spare, d = .slice elems spare → (elems.length + spare.length) * Try.prog.bytesOf 5 ≤ reachBytes) : ∃ a n cap, v = .slice a n cap ∧ n ≤ 140737488351232 ∧ CodeIn w w.heap.size a n := by
  obtain ⟨a0, len, cap, rfl⟩ := okWide_slice Try.underlying22 hv
  obtain ⟨fuel, hf⟩ := h
  rcases DataW.trod_slice Try.underlying22 hf with ⟨hcs, _⟩ | ⟨a, len', cap', elems, rest, n, _, hcs, hx, hb, hl, hm, hlen, hel, _, _⟩
  · simp [Value.cells] at hcs
    obtain ⟨rfl, rfl, rfl⟩ := hcs
    exact ⟨_, _, _, rfl, by omega, .inl rfl⟩
  · simp [Value.cells] at hcs
    obtain ⟨rfl, rfl, rfl⟩ := hcs
    have hd := hs _ _ (congrArg Prod.fst hx)
    rw [bytes5] at hd
    simp only [List.length_map] at hd
    have hr : reachBytes = 140737488351232 := rfl
    refine ⟨_, _, _, rfl, by omega, ?_⟩
    by_cases h0 : len = 0
    · exact .inl h0
    · obtain ⟨b, off, spot⟩ := a
      have hs : spot = none := by
        have h1 := hel 0 (by omega)
        rw [cells5, List.getElem?_eq_getElem (by omega)] at h1
        obtain ⟨cs, hc, ht⟩ := Option.bind_eq_some_iff.1 h1
        obtain ⟨t, rfl, _⟩ := DataW.trod_int Try.underlying5 ht
        have c0 := (World.cells?_some hc).2.2 0 (by omega)
        simpa [Addr.add] using World.cell?_spot c0
      subst hs
      have each : ∀ i, i < len → ∃ z : Nat, z < 256 ∧ w.cell? ⟨b, off + i, none⟩ = some (.int .u8 (z : Int)) ∧ b < w.heap.size := by
        intro i hi
        have h1 := hel i hi
        rw [cells5, List.getElem?_eq_getElem (by omega), add_plain] at h1
        obtain ⟨cs, hc, ht⟩ := Option.bind_eq_some_iff.1 h1
        obtain ⟨t, rfl, _, hw⟩ := DataW.trod_int Try.underlying5 ht
        have hblk : b < w.heap.size := World.cells?_block hc (by omega)
        obtain ⟨_, _, hcell⟩ := World.cells?_some hc
        have h2 := hcell 0 (by omega)
        simp only [add_plain] at h2
        have hmin : IntKind.u8.min = 0 := rfl
        have hmax : IntKind.u8.max = 255 := rfl
        simp only [Lit.wf, Bool.and_eq_true, decide_eq_true_eq] at hw
        refine ⟨t.toNat, by omega, ?_, hblk⟩
        rw [show ((t.toNat : Nat) : Int) = t from by omega]
        simpa using h2
      obtain ⟨_, _, _, hblk⟩ := each 0 (by omega)
      exact .inr ⟨b, off, rfl, hblk, fun i hi => by obtain ⟨z, h1, h2, _⟩ := each i hi; exact ⟨z, h1, h2⟩⟩
end Go.Proofs.Yteecpandpkicmaa

/- DrawInsert; Insert on a list that was drawn. -/
namespace Go.Proofs.Yteecpandpkicmaa
open Go.RowKit

set_option maxHeartbeats 4000000 in
theorem drawInsert_any (a : Option Addr) (n cap : Nat) (w : World) (hn : n ≤ 281474976710656) (hC : CodeIn w w.heap.size a n) :
    Calls Try.prog 6 #[.slice a n cap] w fun r w' => ∃ v l, ∃ e : Ev, r = .returned (.tuple #[v, e.val]) ∧ OwnR w.heap.size w' v l ∧ l.length ≤ 9 ∧ Below w.heap.size w w' := by
  have HC : Hid (CodeIn w w.heap.size a n) := hC
  clear hC
  have HB0 : Hid (Below w.heap.size w (w.alloc (.cells #[.int .i64 0, .int .i64 0, .int .i64 0, .int .i64 0, .int .i64 0, .int .i64 0, .int .i64 0] 25))) := (Below.refl _ w).alloc (Nat.le_refl _) _
  have HX0 : Hid (Bx (w.alloc (.cells #[.int .i64 0, .int .i64 0, .int .i64 0, .int .i64 0, .int .i64 0, .int .i64 0, .int .i64 0] 25)) w.heap.size ⟨0, 0, 0, 0, 0, 0, 0⟩) := Bx.new w 25 ⟨0, 0, 0, 0, 0, 0, 0⟩
  go_enter Try.func6, Try.ntmps6
  go_wp2_with fail
  refine (new_any a n cap _ hn ((HC.out.below HB0.out (Nat.le_refl _)).mono HB0.out.size)).mono ?_
  rintro r w1 ⟨c, rfl, hc, hC1, hB1⟩
  have HC1 : Hid (Cur w1 c) := hC1
  have HB1 : Hid (Below w.heap.size w w1) := HB0.out.trans (hB1.mono HB0.out.size)
  have HX1 : Hid (Bx w1 w.heap.size ⟨0, 0, 0, 0, 0, 0, 0⟩) := HX0.out.turns (S := fun _ => False) (Turns.of_below hB1) id
  have hcw : w.heap.size < c := by simp at hc; omega
  clear hC1 hB1 HX0 HB0
  go_wp2_with fail
  refine (queue_any c _ HC1.out).mono ?_
  rintro r w2 ⟨v, l, rfl, hR2, hl2, hC2, hT2⟩
  have HC2 : Hid (Cur w2 c) := hC2
  have HX2 : Hid (Bx w2 w.heap.size ⟨0, 0, 0, 0, 0, 0, 0⟩) := HX1.out.turns hT2 (by omega)
  have HR2 : Hid (OwnR w1.heap.size w2 v l) := hR2
  have HB2 : Hid (Below w.heap.size w w2) := HB1.out.trans (hT2.to_below (fun k hk => by omega) HB1.out.size)
  have hcw1 : c < w1.heap.size := HC1.out.lt
  have hw1 : w.heap.size ≤ w1.heap.size := HB1.out.size
  clear hC2 hR2 hT2 HX1 HC1
  go_wp2_with fail
  refine (bent_any c _ HC2.out).mono ?_
  rintro r w3 ⟨e, rfl, hC3, hT3⟩
  have HX3 : Hid (Bx w3 w.heap.size ⟨0, 0, 0, 0, 0, 0, 0⟩) := HX2.out.turns hT3 (by omega)
  have HR3 : Hid (OwnR w1.heap.size w3 v l) := HR2.out.turns hT3 (fun k hk => by omega)
  have HB3 : Hid (Below w.heap.size w w3) := HB2.out.trans (hT3.to_below (fun k hk => by omega) HB2.out.size)
  clear hC3 hT3 HX2 HR2 HB1 HB2
  obtain ⟨⟨f0, f1, f2, f3, f4, f5, f6⟩, hfz, hlt⟩ := HX3.out
  simp only [Nat.zero_add] at f1 f2 f3 f4 f5 f6
  go_wp2
  refine bodyPost_ret (v := .tuple #[v, e.val]) (by simp [results, Try.results6, go_sem, f0, f1, f2, f3, f4, f5, f6]) rfl ⟨v, l, e, rfl, ?_, hl2, ?_⟩
  · have hne : ∀ k, (fun k => k = w.heap.size) k → k < w1.heap.size := fun k hk => by have : k = w.heap.size := hk; omega
    exact ((HR3.out.turns ((((((((Turns.refl (fun k => k = w.heap.size) w3).setCell (p := ⟨w.heap.size, 0, none⟩) rfl _).setCell (p := ⟨w.heap.size, 1, none⟩) rfl _).setCell (p := ⟨w.heap.size, 2, none⟩) rfl _).setCell (p := ⟨w.heap.size, 3, none⟩) rfl _).setCell (p := ⟨w.heap.size, 4, none⟩) rfl _).setCell (p := ⟨w.heap.size, 5, none⟩) rfl _).setCell (p := ⟨w.heap.size, 6, none⟩) rfl _) hne).mono hw1)
  · exact ((((((HB3.out.setCell (Nat.le_refl _) _).setCell (Nat.le_refl _) _).setCell (Nat.le_refl _) _).setCell (Nat.le_refl _) _).setCell (Nat.le_refl _) _).setCell (Nat.le_refl _) _).setCell (Nat.le_refl _) _

/- What Insert answers on a drawn list. -/
def InsYes (l : List Ev) (e : Ev) (r : Ending) (w' : World) : Prop := GoodQ l ∧ e.ok = true ∧ NoTag l e.g ∧ ∃ p g cap, r = .returned (.tuple #[.slice (some ⟨g, 0, none⟩) (l.length + 1) cap, .bool true]) ∧ InsAt l e p ∧ l.length + 1 ≤ cap ∧ cap ≤ maxLen ∧ EvsAt w' g 0 (insL l e p)
def InsNo (l : List Ev) (r : Ending) (w' : World) : Prop := ∃ x l', r = .returned (.tuple #[x, .bool false]) ∧ IsEvs w' x l' ∧ (l' = [] ∨ l' = l)
theorem insYes_of {B : Nat} {l : List Ev} {e : Ev} {r : Ending} {w' : World} (hg : GoodQ l) (he : e.ok = true) (hno : NoTag l e.g) (h : Inserted B l e r w') : InsYes l e r w' := by
  obtain ⟨k, x, rfl, hk, hx⟩ := h
  obtain ⟨g, cap, rfl, h1, h2, _, h3⟩ := hx.some (by simp)
  have hlen : (l.take k ++ e :: l.drop k).length = l.length + 1 := insL_length l e k hk.1
  rw [hlen] at h1 ⊢
  exact ⟨hg, he, hno, k, g, cap, rfl, hk, h1, h2, h3⟩
theorem insNo_of {B : Nat} {l l' : List Ev} {r : Ending} {w' : World} (h : Answers B l' false r w') (hl : l' = [] ∨ l' = l) : InsNo l r w' := by
  obtain ⟨x, rfl, hx⟩ := h
  exact ⟨x, l', rfl, hx.isEvs, hl⟩
theorem insert_all {B : Nat} {w : World} {v : Value} {l : List Ev} (e : Ev) (h : OwnR B w v l) (hl : l.length ≤ 9) :
    Calls Try.prog 7 #[v, e.val] w fun r w' => (InsYes l e r w' ∨ InsNo l r w') ∧ Below w.heap.size w w' := by
  rcases h.caps with ⟨rfl, rfl⟩ | ⟨g, cap, rfl, h1, h2, he, _⟩
  · cases hk : e.ok with
    | false => exact (iInsert_nil_bad e w hk).mono fun r w' ⟨h1, h2⟩ => ⟨.inr (insNo_of h1 (.inl rfl)), h2⟩
    | true => exact (iInsert_nil e w hk).mono fun r w' ⟨h1, h2⟩ => ⟨.inl (insYes_of good_nil hk (noTag_nil _) h1), h2⟩
  · by_cases hg : GoodQ l
    · cases hk : e.ok with
      | false => exact (iInsert_bad2 g 0 cap l e w (by omega) he hg hk).mono fun r w' ⟨h1, h2⟩ => ⟨.inr (insNo_of h1 (.inl rfl)), h2⟩
      | true =>
        rcases firstAt_or l e.g with hd | hno
        · exact (iInsert_dup g 0 cap l e w (by omega) he hg hk hd).mono fun r w' ⟨h1, h2⟩ => ⟨.inr (insNo_of h1 (.inr rfl)), h2⟩
        · exact (iInsert_yes g 0 cap l e w h1 (by omega) he hg hk hno (by omega)).mono fun r w' ⟨h1, h2⟩ => ⟨.inl (insYes_of hg hk hno h1), h2⟩
    · exact (iInsert_bad1 g 0 cap l e w (by omega) he hg).mono fun r w' ⟨h1, h2⟩ => ⟨.inr (insNo_of h1 (.inl rfl)), h2⟩
end Go.Proofs.Yteecpandpkicmaa

