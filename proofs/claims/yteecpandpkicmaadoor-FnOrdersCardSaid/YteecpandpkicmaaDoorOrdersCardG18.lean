/- DMore, QPure, DTextK, DPure, DShelf -/
import Derived.Test.YteecpandpkicmaaDoorOrdersCardG01
import Derived.OwnWalk
import Derived.Test.YteecpandpkicmaaDoorOrdersCardG13
import Derived.Test.YteecpandpkicmaaDoorOrdersCardG00
import Derived.Test.YteecpandpkicmaaDoorOrdersCardG04
import Derived.Lib.UnsafeStr
import Derived.Lib.ItoaNum
import Derived.Lib.SlBytesConst
import Derived.Lib.AppendStr
import Derived.Deep.Cut
import Derived.Deep.RegionHeld3
import Derived.ArgAppend
import Derived.Shelf.Strings.OnBuilder
import Derived.Shelf.LaysM
import Derived.Shelf.Strconv.Itoa3
import Derived.Test.YteecpandpkicmaaDoorProg
/- A code that is another one: two bytes ahead. -/
namespace Go.Proofs.YteecpandpkicmaaDoor
open Go.RowKit
theorem code_list {w : World} {b off : Nat} : ∀ n, (∀ i, i < n → ∃ z : Nat, z < 256 ∧ w.cell? ⟨b, off + i, none⟩ = some (.int .u8 (z : Int))) → ∃ l : List Nat, l.length = n ∧ (∀ z ∈ l, z < 256) ∧ ∀ i, i < n → w.cell? ⟨b, off + i, none⟩ = some (.int .u8 ((l.getD i 0 : Nat) : Int))
  | 0, _ => ⟨[], rfl, fun z hz => by simp at hz, fun i hi => by omega⟩
  | n + 1, h => by
    obtain ⟨l, hl, h2, hi⟩ := code_list n (fun i hi => h i (by omega))
    obtain ⟨z, hz, hc⟩ := h n (by omega)
    refine ⟨l ++ [z], by simp [hl], fun y hy => ?_, fun i hi' => ?_⟩
    · simp at hy
      rcases hy with hy | rfl
      · exact h2 y hy
      · exact hz
    · by_cases hin : i < n
      · have : (l ++ [z]).getD i 0 = l.getD i 0 := by simp [List.getElem?_append_left (by omega : i < l.length)]
        rw [this]; exact hi i hin
      · have : (l ++ [z]).getD i 0 = z := by simp [show i = l.length by omega]
        rw [this, show i = n by omega]; exact hc
def u8Cells (l : List Nat) : List Value := l.map fun z => Value.int .u8 ((z : Nat) : Int)
theorem u8Cells_one {l : List Nat} : ∀ u ∈ u8Cells l, u.oneCell' = true := by
  intro u hu
  simp [u8Cells] at hu
  obtain ⟨x, _, rfl⟩ := hu
  rfl
theorem info5 : (Tryd.prog.info? 5).map (fun i => (i.zero, i.size, i.bytes)) = some (some (.int .u8 0), 1, 1) := by kernel_rfl
theorem row_two (w : World) : (w.alloc (.cells #[.int .u8 1, .int .u8 7] 5)).ownsRow w.heap.size 5 1 (.slice (some ⟨w.heap.size, 0, none⟩) 2 2) 2 (u8Cells [1, 7]) :=
  ⟨rfl, .inr ⟨w.heap.size, 2, #[.int .u8 1, .int .u8 7], rfl, Nat.le_refl _, (MapKept.heap_alloc w _).1, Nat.le_refl _, by unfold maxLen; omega, rfl, rfl⟩⟩
theorem row_code {w : World} {B : Nat} {v : Value} {n : Nat} {l : List Nat} (h : w.ownsRow B 5 1 v n (u8Cells l)) (hl : l.length = n) (h2 : ∀ z ∈ l, z < 256) (h0 : 0 < n) : ∃ a cap, v = .slice a n cap ∧ CodeIn w w.heap.size a n := by
  have h' := h
  obtain ⟨_, ⟨_, h1⟩ | ⟨g, cap, cur, rfl, hg, hc, _, _, _, _⟩⟩ := h
  · omega
  · refine ⟨_, cap, rfl, .inr ⟨g, 0, rfl, (World.ownsRow.lt h' g rfl).2, fun i hi => ?_⟩⟩
    have e1 := World.ownsRow.cellAt h' i (by omega)
    rw [Nat.zero_add, e1]
    have hi' : i < l.length := by omega
    exact ⟨l[i], h2 _ (List.getElem_mem hi'), by simp [u8Cells, hi']⟩

set_option maxHeartbeats 2000000 in
theorem more_any (a : Option Addr) (n cap : Nat) (w : World) (hn : n ≤ 140737488351232) (hC : CodeIn w w.heap.size a n) :
    Calls Tryd.prog 5 #[.slice a n cap, .int .i64 1] w fun e w' => ∃ a' cap', e = .returned (.slice a' (n + 2) cap') ∧ CodeIn w' w'.heap.size a' (n + 2) ∧ Below w.heap.size w w' := by
  obtain ⟨i0, hi, hz0, hz1, hz2⟩ := info_parts info5
  by_cases h0 : n = 0
  · subst h0
    clear hC
    have hend : ∀ v2 : Value, ∀ w2 : World, w2.ownsRow w.heap.size 5 1 v2 2 (u8Cells [1, 7]) → Below w.heap.size w w2 → ∃ a' cap', v2 = .slice a' 2 cap' ∧ CodeIn w2 w2.heap.size a' 2 ∧ Below w.heap.size w w2 := fun v2 w2 ho hb => by
      obtain ⟨a', cap', hv, hcode⟩ := row_code ho rfl (fun z hz => by
        simp at hz
        rcases hz with rfl | rfl <;> omega) (by omega)
      exact ⟨a', cap', hv, hcode, hb⟩
    have HE : Hid _ := hend
    clear hend
    cases a with
    | none =>
      go_enter Tryd.func5, Tryd.ntmps5
      go_wp2
      go_ret
      obtain ⟨a', cap', hv, hcode, hb⟩ := HE.out _ _ (row_two w) ((Below.refl _ w).alloc (Nat.le_refl _) _)
      first | exact ⟨a', cap', by rw [← hv]; rfl, hcode, hb⟩ | exact ⟨a', ⟨cap', by rw [← hv]; rfl⟩, hcode, hb⟩
    | some ad =>
      go_enter Tryd.func5, Tryd.ntmps5
      go_wp2_with (at_builtin; refine wpList_append_own _ rfl _ _ 22 rfl w.heap.size 5 i0 (.int .u8 0) 1 1 Tryd.underlying22 hi hz0 hz1 hz2 rfl (by decide) (.slice (some ⟨w.heap.size, 0, none⟩) 2 2) 2 (u8Cells [1, 7]) rfl (row_two w) ad 0 cap [] rfl rfl (fun j u hu => by simp at hu) (fun u hu => by simp at hu) (by unfold maxLen; omega) (by omega) (by simp) ?_; intro v' w2 hown hgrow hnil)
      go_ret
      obtain ⟨a', cap', hv, hcode, hb⟩ := HE.out v' w2 (by simpa using hown) (((Below.refl _ w).alloc (Nat.le_refl _) _).grown hgrow (by simp) (fun j e => by cases e; exact Nat.le_refl _))
      first | exact ⟨a', cap', by rw [← hv]; rfl, hcode, hb⟩ | exact ⟨a', ⟨cap', by rw [← hv]; rfl⟩, hcode, hb⟩
  · obtain ⟨b, off, rfl, hb, hz⟩ := hC.resolve_left h0
    obtain ⟨l, hl, h2, hc⟩ := code_list n hz
    have HL : Hid (l.length = n) := hl
    have H2 : Hid (∀ z ∈ l, z < 256) := h2
    have HCell : Hid (∀ j u, (u8Cells l)[j]? = some u → (w.alloc (.cells #[.int .u8 1, .int .u8 7] 5)).cell? ((⟨b, off, none⟩ : Addr).add j) = some u) := by
      intro j u hu
      have hj : j < l.length := by
        by_cases hj : j < l.length
        · exact hj
        · rw [List.getElem?_eq_none (by simp [u8Cells]; omega)] at hu
          cases hu
      have e1 : (⟨b, off, none⟩ : Addr).add j = ⟨b, off + j, none⟩ := by unfold Addr.add; split <;> simp_all
      rw [e1]
      refine (((Below.refl _ w).alloc (Nat.le_refl _) _).cell (p := ⟨b, off + j, none⟩) hb).trans ?_
      rw [hc j (by omega)]
      simp [u8Cells, hj] at hu
      simp [hj, hu]
    clear hz hc hl h2 hC
    go_enter Tryd.func5, Tryd.ntmps5
    go_wp2_with (at_builtin; refine wpList_append_own _ rfl _ _ 22 rfl w.heap.size 5 i0 (.int .u8 0) 1 1 Tryd.underlying22 hi hz0 hz1 hz2 rfl (by decide) (.slice (some ⟨w.heap.size, 0, none⟩) 2 2) 2 (u8Cells [1, 7]) rfl (row_two w) ⟨b, off, none⟩ n cap (u8Cells l) rfl (by rw [show (u8Cells l).length = l.length from by simp [u8Cells], HL.out]; omega) HCell.out u8Cells_one (by unfold maxLen; omega) (by omega) (by simp) ?_; intro v' w2 hown hgrow hnil)
    go_ret
    have hrow : w2.ownsRow w.heap.size 5 1 v' (n + 2) (u8Cells ([1, 7] ++ l)) := by
      rw [show n + 2 = 2 + n from by omega, show u8Cells ([1, 7] ++ l) = u8Cells [1, 7] ++ u8Cells l from by simp [u8Cells]]
      exact hown
    obtain ⟨a', cap', hv, hcode⟩ := row_code hrow (by have := HL.out; simp; omega) (fun z hz => by
      simp at hz
      rcases hz with rfl | rfl | hz
      · omega
      · omega
      · exact H2.out z hz) (by omega)
    exact ⟨a', cap', by rw [← hv]; rfl, hcode, ((Below.refl _ w).alloc (Nat.le_refl _) _).grown hgrow (by simp) (fun j e => by cases e; exact Nat.le_refl _)⟩
end Go.Proofs.YteecpandpkicmaaDoor

/- What follows of an event that is put into its place. -/
namespace Go.Proofs.YteecpandpkicmaaDoor
open Go.RowKit

def insL (l : List Ev) (e : Ev) (p : Nat) : List Ev := l.take p ++ e :: l.drop p
theorem insL_length (l : List Ev) (e : Ev) (p : Nat) (hp : p ≤ l.length) : (insL l e p).length = l.length + 1 := by simp [insL]; omega
theorem insL_lt (l : List Ev) (e : Ev) (p i : Nat) (hp : p ≤ l.length) (hi : i < p) : evAt (insL l e p) i = evAt l i := by
  unfold evAt insL
  simp [List.getElem?_append_left (by simp; omega : i < (l.take p).length), List.getElem?_take_of_lt hi]
theorem insL_eq (l : List Ev) (e : Ev) (p : Nat) (hp : p ≤ l.length) : evAt (insL l e p) p = e := by
  unfold evAt insL
  have h1 : (l.take p).length = p := by simp; omega
  simp [h1]
theorem insL_gt (l : List Ev) (e : Ev) (p i : Nat) (hp : p ≤ l.length) (hi : p < i) : evAt (insL l e p) i = evAt l (i - 1) := by
  unfold evAt insL
  have h1 : (l.take p).length = p := by simp; omega
  have h2 : i - p = (i - p - 1) + 1 := by omega
  have h3 : p + (i - p - 1) = i - 1 := by omega
  simp only [List.getD_eq_getElem?_getD]
  rw [List.getElem?_append_right (by omega), h1, h2, List.getElem?_cons_succ, List.getElem?_drop, h3]
theorem cmp_lt_iff (a b : Ev) : a.cmp b < 0 ↔ a.t < b.t ∨ (a.t = b.t ∧ (a.s < b.s ∨ (a.s = b.s ∧ (a.q < b.q ∨ (a.q = b.q ∧ a.g < b.g))))) := cmpI_lt _ _ _ _ _ _ _ _
theorem cmp_other {a b : Ev} (h : ¬ a.cmp b < 0) (hg : a.g ≠ b.g) : b.cmp a < 0 := by
  rw [cmp_lt_iff] at *
  omega
theorem cmp_self (a : Ev) : a.cmp a = 0 := by simp [Ev.cmp, cmpI, num]
theorem ins_good {l : List Ev} {e : Ev} {p : Nat} (hg : GoodQ l) (he : e.ok = true) (hno : NoTag l e.g) (hl : l.length < 2000) (hp : InsAt l e p) : GoodQ (insL l e p) := by
  obtain ⟨h1, h2, h3⟩ := hp
  refine ⟨by rw [insL_length _ _ _ h1]; omega, fun i hi => ?_⟩
  rw [insL_length _ _ _ h1] at hi
  rcases Nat.lt_trichotomy i p with h | h | h
  · obtain ⟨a, b, c⟩ := hg.2 i (by omega)
    unfold Good1
    rw [insL_lt _ _ _ _ h1 h]
    refine ⟨a, fun h0 => ?_, fun j hj => ?_⟩
    · rw [insL_lt _ _ _ _ h1 (by omega)]; exact b h0
    · rw [insL_lt _ _ _ _ h1 (by omega)]; exact c j hj
  · subst h
    unfold Good1
    rw [insL_eq _ _ _ h1]
    refine ⟨he, fun h0 => ?_, fun j hj => ?_⟩
    · rw [insL_lt _ _ _ _ h1 (by omega)]; exact h2 _ (by omega)
    · rw [insL_lt _ _ _ _ h1 hj]; exact hno j (by omega)
  · obtain ⟨a, b, c⟩ := hg.2 (i - 1) (by omega)
    unfold Good1
    rw [insL_gt _ _ _ _ h1 h]
    refine ⟨a, fun h0 => ?_, fun j hj => ?_⟩
    · by_cases h4 : i = p + 1
      · subst h4
        rw [show p + 1 - 1 = p from by omega, insL_eq _ _ _ h1]
        exact cmp_other (h3 (by omega)) (hno p (by omega))
      · rw [insL_gt _ _ _ _ h1 (by omega)]
        exact b (by omega)
    · rcases Nat.lt_trichotomy j p with h5 | h5 | h5
      · rw [insL_lt _ _ _ _ h1 h5]; exact c j (by omega)
      · subst h5
        rw [insL_eq _ _ _ h1]
        exact fun e' => hno (i - 1) (by omega) e'.symm
      · rw [insL_gt _ _ _ _ h1 h5]; exact c (j - 1) (by omega)
theorem ins_first {l : List Ev} {e : Ev} {p : Nat} (hno : NoTag l e.g) (hp : p ≤ l.length) : FirstAt (insL l e p) e.g p :=
  ⟨by rw [insL_length _ _ _ hp]; omega, by rw [insL_eq _ _ _ hp], fun j hj => by rw [insL_lt _ _ _ _ hp hj]; exact hno j (by omega)⟩
theorem ins_take (l : List Ev) (e : Ev) (p : Nat) (hp : p ≤ l.length) : (insL l e p).take p ++ (insL l e p).drop (p + 1) = l := by
  have h1 : (l.take p).length = p := by simp; omega
  have h2 : (insL l e p).take p = l.take p := by
    unfold insL
    rw [List.take_append_of_le_length (by omega), List.take_of_length_le (by omega)]
  have h3 : (insL l e p).drop (p + 1) = l.drop p := by
    unfold insL
    rw [List.drop_append, h1, List.drop_of_length_le (by omega), show p + 1 - p = 1 from by omega]
    simp
  rw [h2, h3, List.take_append_drop]
theorem good_lt {l : List Ev} (hg : GoodQ l) (i : Nat) : ∀ j, i < j → j < l.length → (evAt l i).cmp (evAt l j) < 0
  | 0, h, _ => by omega
  | j + 1, h, hl => by
    have h1 := (hg.2 (j + 1) hl).2.1 (by omega)
    rw [Nat.add_sub_cancel] at h1
    by_cases e : i = j
    · subst e; exact h1
    · exact cmp_trans (good_lt hg i j (by omega) (by omega)) h1
theorem good_first {l : List Ev} (hg : GoodQ l) {i : Nat} (hi : i < l.length) : ¬ 0 < (evAt l 0).ecmp (evAt l i) := by
  have h0 := (hg.2 0 (by omega)).1
  have h1 := (hg.2 i hi).1
  unfold Ev.ecmp ecmp
  rw [if_pos ⟨h0, h1⟩]
  by_cases e : i = 0
  · subst e
    have := cmp_self (evAt l 0)
    unfold Ev.cmp at this
    omega
  · have := good_lt hg 0 i (by omega) hi
    unfold Ev.cmp at this
    omega
end Go.Proofs.YteecpandpkicmaaDoor

/- What the text of an event is; bytes that lie in memory. -/
namespace Go.Proofs.YteecpandpkicmaaDoor
open Go.RowKit
def byteAt (l : List UInt8) (i : Nat) : UInt8 := l.getD i 0
def BytesAt (w : World) (b off : Nat) (l : List UInt8) : Prop := b < w.heap.size ∧ ∀ i, i < l.length → w.cell? ⟨b, off + i, none⟩ = some (.int .u8 ((byteAt l i).toNat : Int))
def OwnB (B : Nat) (w : World) (x : Value) (l : List UInt8) : Prop := ∃ a cap, x = .slice a l.length cap ∧ l.length ≤ cap ∧ cap ≤ maxLen ∧ (l = [] ∨ ∃ g, a = some ⟨g, 0, none⟩ ∧ B ≤ g ∧ (∀ j, j < l.length → w.frozen? ⟨g, j, none⟩ = false) ∧ BytesAt w g 0 l)
theorem OwnB.nil (B : Nat) (w : World) : OwnB B w (.slice none 0 0) [] := ⟨none, 0, rfl, Nat.le_refl _, Nat.zero_le _, .inl rfl⟩
theorem OwnB.mono {B B' : Nat} {w : World} {x : Value} {l : List UInt8} (h : OwnB B w x l) (hb : B' ≤ B) : OwnB B' w x l := by
  obtain ⟨a, cap, rfl, h1, h2, h⟩ := h
  exact ⟨a, cap, rfl, h1, h2, h.imp id (fun ⟨g, e, hg, hr⟩ => ⟨g, e, Nat.le_trans hb hg, hr⟩)⟩
theorem decDigits_ge (n : Nat) (h : ¬ n < 10) : Lib.decDigits n = Lib.decDigits (n / 10) ++ [UInt8.ofNat (48 + n % 10)] := by rw [Lib.decDigits, dif_neg h]
theorem decDigits_len (n : Nat) : (Lib.decDigits n).length ≤ n + 1 := by
  induction n using Nat.strongRecOn with
  | _ n ih =>
    by_cases h : n < 10
    · rw [Lib.decDigits_one h]; simp
    · rw [decDigits_ge n h]
      have := ih (n / 10) (by omega)
      simp; omega
def dec (z : Int) : List UInt8 := Lib.decDigits z.toNat
theorem dec_len (z : Int) (h : z ≤ 1000000) : (dec z).length ≤ 1000001 := by
  have := decDigits_len z.toNat
  unfold dec
  omega
theorem decDigits_ne (n : Nat) : Lib.decDigits n ≠ [] := by
  intro h
  by_cases hn : n < 10
  · rw [Lib.decDigits_one hn] at h; cases h
  · rw [decDigits_ge n hn] at h; simp at h
def fromText (s : Int) : List UInt8 := if s < 0 then [32, 111, 117, 116, 115, 105, 100, 101] else [32, 102, 114, 111, 109, 32] ++ dec s
def evText (t s q d k v : Int) : List UInt8 := [97, 116, 32] ++ dec t ++ fromText s ++ ([35] ++ dec q) ++ ([32, 116, 111, 32] ++ dec d) ++ ([32, 107, 105, 110, 100, 32] ++ dec k) ++ ([32, 118, 97, 108, 32] ++ dec v)
end Go.Proofs.YteecpandpkicmaaDoor

/- The order of two events, and of three. -/
namespace Go.Proofs.YteecpandpkicmaaDoor
open Go.RowKit
theorem ecmp_of {a b : Ev} (ha : a.ok = true) (hb : b.ok = true) : a.ecmp b = a.cmp b := by
  unfold Ev.ecmp Ev.cmp ecmp
  rw [if_pos ⟨ha, hb⟩]
theorem ecmp_no {a b : Ev} (h : ¬ (a.ok = true ∧ b.ok = true)) : a.ecmp b = 0 := by
  unfold Ev.ecmp ecmp
  exact if_neg h
theorem num_neg (a b : Int) : num a b = - num b a := by
  unfold num
  split <;> split <;> (try split) <;> omega
theorem cmp_opp (a b : Ev) : a.cmp b = - b.cmp a := by
  unfold Ev.cmp cmpI
  rw [num_neg a.t b.t, num_neg a.s b.s, num_neg a.q b.q, num_neg a.g b.g]
  by_cases h1 : a.t = b.t
  · by_cases h2 : a.s = b.s
    · by_cases h3 : a.q = b.q
      · simp [h1, h2, h3]
      · have h3' : ¬ b.q = a.q := fun e => h3 e.symm
        simp [h1, h2, h3, h3']
    · have h2' : ¬ b.s = a.s := fun e => h2 e.symm
      simp [h1, h2, h2']
  · have h1' : ¬ b.t = a.t := fun e => h1 e.symm
    simp [h1, h1']
theorem num_in (a b : Int) : num a b = -1 ∨ num a b = 0 ∨ num a b = 1 := by
  unfold num
  split
  · exact .inl rfl
  · split
    · exact .inr (.inr rfl)
    · exact .inr (.inl rfl)
theorem cmp_in (a b : Ev) : a.cmp b = -1 ∨ a.cmp b = 0 ∨ a.cmp b = 1 := by
  unfold Ev.cmp cmpI
  split
  · exact num_in _ _
  · split
    · exact num_in _ _
    · split
      · exact num_in _ _
      · exact num_in _ _
theorem cmp_early {a b : Ev} (h : a.t < b.t) : a.cmp b = -1 := by
  have h1 : a.cmp b < 0 := (cmp_lt_iff a b).2 (.inl h)
  rcases cmp_in a b with h2 | h2 | h2 <;> omega
theorem evText_pos (t s q d k v : Int) : 0 < (evText t s q d k v).length := by
  unfold evText
  simp
end Go.Proofs.YteecpandpkicmaaDoor

/- The two library functions that the text calls, by their contracts: strings.Join and strconv.Itoa, at this dump. -/
namespace Go.Proofs
open Go.Shelf
def Tryd.lays156_ren : Go.Shelf.Ren := ⟨fun | 156 => 21 | 165 => 38 | 166 => 39 | 169 => 40 | 240 => 46 | 241 => 47 | 276 => 52 | 277 => 53 | n => n, fun | 31 => 49 | 9 => 9 | 3 => 3 | 4 => 4 | 0 => 0 | 20 => 20 | 72 => 71 | 76 => 75 | 70 => 69 | 37 => 22 | 75 => 74 | 127 => 89 | 164 => 99 | 5 => 5 | 80 => 77 | n => n, fun | n => n⟩
theorem Tryd.lays156 : Go.Proofs.Lays.n156 Tryd.prog Tryd.lays156_ren := {
  mixed := by kernel_rfl
  f156 := Tryd.func21.trans (congrArg some (by kernel_rfl))
  f165 := Tryd.func38.trans (congrArg some (by kernel_rfl))
  f166 := Tryd.func39.trans (congrArg some (by kernel_rfl))
  f169 := Tryd.func40.trans (congrArg some (by kernel_rfl))
  f240 := Tryd.func46.trans (congrArg some (by kernel_rfl))
  f241 := Tryd.func47.trans (congrArg some (by kernel_rfl))
  f276 := Tryd.func52.trans (congrArg some (by kernel_rfl))
  f277 := Tryd.func53.trans (congrArg some (by kernel_rfl))
  t0 := Tryd.underlying0
  a0 := Tryd.isAgg0
  z0 := Tryd.sizeOf0
  v0 := Tryd.zeroValue0
  t3 := Tryd.underlying3
  a3 := Tryd.isAgg3
  z3 := Tryd.sizeOf3
  v3 := Tryd.zeroValue3
  t4 := Tryd.underlying4
  a4 := Tryd.isAgg4
  z4 := Tryd.sizeOf4
  v4 := Tryd.zeroValue4
  t9 := Tryd.underlying9
  a9 := Tryd.isAgg9
  z9 := Tryd.sizeOf9
  v9 := Tryd.zeroValue9
  t20 := Tryd.underlying20
  a20 := Tryd.isAgg20
  z20 := Tryd.sizeOf20
  v20 := Tryd.zeroValue20
  t31 := Tryd.underlying49
  a31 := Tryd.isAgg49
  z31 := Tryd.sizeOf49
  v31 := Tryd.zeroValue49
  t37 := Tryd.underlying22
  a37 := Tryd.isAgg22
  z37 := Tryd.sizeOf22
  v37 := Tryd.zeroValue22
  t70 := Tryd.underlying69
  a70 := Tryd.isAgg69
  z70 := Tryd.sizeOf69
  v70 := Tryd.zeroValue69
  t72 := Tryd.underlying71
  a72 := Tryd.isAgg71
  z72 := Tryd.sizeOf71
  v72 := Tryd.zeroValue71
  t75 := Tryd.underlying74
  a75 := Tryd.isAgg74
  z75 := Tryd.sizeOf74
  v75 := Tryd.zeroValue74
  t76 := Tryd.underlying75
  a76 := Tryd.isAgg75
  z76 := Tryd.sizeOf75
  v76 := Tryd.zeroValue75
  t127 := Tryd.underlying89
  a127 := Tryd.isAgg89
  z127 := Tryd.sizeOf89
  v127 := Tryd.zeroValue89
  t164 := Tryd.underlying99
  a164 := Tryd.isAgg99
  z164 := Tryd.sizeOf99
  v164 := Tryd.zeroValue99 }
theorem Tryd.Builder_Extra_156 : Builder.Extra Tryd.prog Tryd.lays156_ren := {
  sizeBuilder := by kernel_rfl
  liesBuilder := by kernel_rfl
  t5 := Tryd.underlying5
  a5 := Tryd.isAgg5
  z5 := Tryd.sizeOf5
  v5 := Tryd.zeroValue5
  infoByte := by kernel_rfl
  cellsByte := by kernel_rfl
  sizeByte := by kernel_rfl
  neB5 := by decide }
open Go.RowKit in
theorem Tryd.strings_Join_none (a : Option Addr) (c : Nat) (sep : ByteArray) (w : World) :
    Calls Tryd.prog 21 #[.slice a 0 c, .string sep] w fun e w' => e = .returned (.string ⟨#[]⟩) ∧ w' = w := Any.strings_Join_none Tryd.lays156 Tryd.Builder_Extra_156 a c sep w
open Go.RowKit in
theorem Tryd.strings_Join (bk o c : Nat) (xs : List ByteArray) (sep : ByteArray) (w : World) (hcells : ∀ (j : Nat) x, xs[j]? = some x → w.cell? ⟨bk, o + j, none⟩ = some (.string x)) (hbk : bk < w.heap.size) (hN : xs.length ≤ 140737488355328) (hcap : xs.length ≤ c) (hlen : (Lib.join (xs.map (·.data.toList)) sep.data.toList).length ≤ 140737488355328) :
    Calls Tryd.prog 21 #[.slice (some ⟨bk, o, none⟩) xs.length c, .string sep] w fun e w' => e = .returned (.string ⟨(Lib.join (xs.map (·.data.toList)) sep.data.toList).toArray⟩) ∧ Below w.heap.size w w' := Any.strings_Join Tryd.lays156 Tryd.Builder_Extra_156 bk o c xs sep w hcells hbk hN hcap hlen
def Tryd.laysM171_ren : Go.Shelf.Ren := ⟨fun | 171 => 22 | 243 => 41 | 246 => 48 | 283 => 54 | 284 => 55 | 285 => 56 | 286 => 57 | 129 => 60 | 317 => 59 | 318 => 61 | 319 => 62 | 320 => 63 | 337 => 64 | 338 => 65 | n => n, fun | 3 => 3 | 9 => 9 | 2 => 2 | 4 => 4 | 171 => 102 | 0 => 0 | 53 => 103 | 37 => 22 | 5 => 5 | 173 => 106 | 212 => 113 | 51 => 114 | 20 => 20 | 213 => 115 | 46 => 78 | 232 => 118 | 233 => 119 | n => n, fun | 17 => 1 | 18 => 2 | 19 => 3 | n => n⟩
theorem Tryd.laysM171 : Go.Proofs.LaysM.n171 Tryd.prog Tryd.laysM171_ren := {
  mixed := by kernel_rfl
  f129 := Tryd.func60.trans (congrArg some (by kernel_rfl))
  f171 := Tryd.func22.trans (congrArg some (by kernel_rfl))
  f243 := Tryd.func41.trans (congrArg some (by kernel_rfl))
  f246 := Tryd.func48.trans (congrArg some (by kernel_rfl))
  f283 := Tryd.func54.trans (congrArg some (by kernel_rfl))
  f284 := Tryd.func55.trans (congrArg some (by kernel_rfl))
  f285 := Tryd.func56.trans (congrArg some (by kernel_rfl))
  f286 := Tryd.func57.trans (congrArg some (by kernel_rfl))
  f317 := Tryd.func59.trans (congrArg some (by kernel_rfl))
  f318 := Tryd.func61.trans (congrArg some (by kernel_rfl))
  f319 := Tryd.func62.trans (congrArg some (by kernel_rfl))
  f320 := Tryd.func63.trans (congrArg some (by kernel_rfl))
  f337 := Tryd.func64.trans (congrArg some (by kernel_rfl))
  f338 := Tryd.func65.trans (congrArg some (by kernel_rfl))
  t0 := Tryd.underlying0
  a0 := Tryd.isAgg0
  z0 := Tryd.sizeOf0
  v0 := Tryd.zeroValue0
  t2 := Tryd.underlying2
  a2 := Tryd.isAgg2
  z2 := Tryd.sizeOf2
  v2 := Tryd.zeroValue2
  t3 := Tryd.underlying3
  a3 := Tryd.isAgg3
  z3 := Tryd.sizeOf3
  v3 := Tryd.zeroValue3
  t4 := Tryd.underlying4
  a4 := Tryd.isAgg4
  z4 := Tryd.sizeOf4
  v4 := Tryd.zeroValue4
  t5 := Tryd.underlying5
  a5 := Tryd.isAgg5
  z5 := Tryd.sizeOf5
  v5 := Tryd.zeroValue5
  t9 := Tryd.underlying9
  a9 := Tryd.isAgg9
  z9 := Tryd.sizeOf9
  v9 := Tryd.zeroValue9
  t20 := Tryd.underlying20
  a20 := Tryd.isAgg20
  z20 := Tryd.sizeOf20
  v20 := Tryd.zeroValue20
  t37 := Tryd.underlying22
  a37 := Tryd.isAgg22
  z37 := Tryd.sizeOf22
  v37 := Tryd.zeroValue22
  t46 := Tryd.underlying78
  a46 := Tryd.isAgg78
  z46 := Tryd.sizeOf78
  v46 := Tryd.zeroValue78
  t51 := Tryd.underlying114
  a51 := Tryd.isAgg114
  z51 := Tryd.sizeOf114
  v51 := Tryd.zeroValue114
  t53 := Tryd.underlying103
  a53 := Tryd.isAgg103
  z53 := Tryd.sizeOf103
  v53 := Tryd.zeroValue103
  t171 := Tryd.underlying102
  a171 := Tryd.isAgg102
  z171 := Tryd.sizeOf102
  v171 := Tryd.zeroValue102
  t173 := Tryd.underlying106
  a173 := Tryd.isAgg106
  z173 := Tryd.sizeOf106
  v173 := Tryd.zeroValue106
  t212 := Tryd.underlying113
  a212 := Tryd.isAgg113
  z212 := Tryd.sizeOf113
  v212 := Tryd.zeroValue113
  t213 := Tryd.underlying115
  a213 := Tryd.isAgg115
  z213 := Tryd.sizeOf115
  t232 := Tryd.underlying118
  a232 := Tryd.isAgg118
  z232 := Tryd.sizeOf118
  v232 := Tryd.zeroValue118
  t233 := Tryd.underlying119
  a233 := Tryd.isAgg119
  z233 := Tryd.sizeOf119
  v233 := Tryd.zeroValue119
  g17 := by kernel_rfl
  g18 := by kernel_rfl
  g19 := by kernel_rfl
  i0 := by kernel_rfl
  i2 := by kernel_rfl
  i3 := by kernel_rfl
  i4 := by kernel_rfl
  i5 := by kernel_rfl
  i9 := by kernel_rfl
  i20 := by kernel_rfl
  i37 := by kernel_rfl
  i46 := by kernel_rfl
  i51 := by kernel_rfl
  i53 := by kernel_rfl
  i171 := by kernel_rfl
  i173 := by kernel_rfl
  i212 := by kernel_rfl
  i232 := by kernel_rfl
  i233 := by kernel_rfl
  m17 := by kernel_rfl
  m18 := by kernel_rfl
  m19 := by kernel_rfl }
open Go.RowKit Go.Sort Go.Lib in
theorem Tryd.strconv_Itoa (n : Int) (h0 : -9223372036854775808 ≤ n) (h1 : n ≤ 9223372036854775807) (w : World) (htab : Lib.TabIs Tryd.prog w "internal/strconv.uint64pow10" .u64 Lib.pow10Tab) :
    Calls Tryd.prog 22 #[.int .i64 n] w fun e w' => e = .returned (.string ⟨(Lib.itoa n).toArray⟩) ∧ ∃ k os, w' = grow (w.drewN k) os := Any.strconv_Itoa Tryd.laysM171 n h0 h1 w htab
end Go.Proofs

