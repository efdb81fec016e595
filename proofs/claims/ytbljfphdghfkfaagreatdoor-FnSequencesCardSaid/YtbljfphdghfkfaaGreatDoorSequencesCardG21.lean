/- VDraw, LMB, SwapS -/
import Derived.Test.YtbljfphdghfkfaaGreatDoorSequencesCardG20
import Derived.Test.YtbljfphdghfkfaaGreatDoorSequencesCardG00
import Derived.Test.YtbljfphdghfkfaaGreatDoorSequencesCardG01
import Derived.Test.YtbljfphdghfkfaaGreatDoorSequencesCardG19
/- Vectors that are drawn. -/
namespace Go.Proofs.YtbljfphdghfkfaaGreatDoor
open Go.RowKit
theorem Cur.alloc {w : World} {c : Nat} (H : Cur w c) (o : Obj) : Cur (w.alloc o) c := H.below ((Below.refl _ w).alloc (Nat.le_refl _) o) H.lt
theorem Cur.set {w : World} {c : Nat} (H : Cur w c) {p : Addr} (hp : c < p.block) (v : Value) : Cur (w.setCell p v) c := H.below ((Below.refl (c + 1) w).setCell (by omega) v) (by omega)
theorem Turns.grownBy {w w' : World} {c : Nat} (h : Turns (fun k => k = c) w w') : w.grownBy w' (some c) := ⟨h.os, h.tape, h.output, h.size, fun k hk hr => h.block k hk (fun e => hr (by rw [e]))⟩
theorem Turns.belowT {S : Nat → Prop} {a b c : World} (h : Turns S a b) (k : Below a.heap.size b c) : Turns S a c :=
 ⟨k.os.trans h.os, k.tape.trans h.tape, k.output.trans h.output, Nat.le_trans h.size k.size, fun i hi hS => (k.block i hi).trans (h.block i hi hS)⟩
theorem own_turnsC {w w' : World} {B c n : Nat} {v : Value} {xs : List Value} (h : w.ownsRow B 3 1 v n xs) (ht : Turns (fun k => k = c) w w') (hc : c < B) : w'.ownsRow B 3 1 v n xs := by
 refine h.kept ht.grownBy (.inr fun e => ?_)
 have := (h.lt c e).1
 omega
theorem OwnI.turns {B c : Nat} {w w' : World} {x : Value} {l : List Int} (h : OwnI B w x l) (ht : Turns (fun k => k = c) w w') (hc : c < B) : OwnI B w' x l := h.other hc ht.grownBy
theorem RowI.turns {c g : Nat} {w w' : World} {l : List Int} (h : RowI w g l) (ht : Turns (fun k => k = c) w w') (hc : ¬ g = c) : RowI w' g l :=
 ⟨Nat.lt_of_lt_of_le h.1 ht.size, fun j hj => by rw [ht.cell h.1 hc, ht.frozen h.1 hc]; exact h.2 j hj⟩
theorem lst5 (w : World) (T : TypeId) (y0 y1 y2 y3 y4 : Int) : ListAt (w.alloc (.cells #[.int .i64 y0, .int .i64 y1, .int .i64 y2, .int .i64 y3, .int .i64 y4] T)) w.heap.size 5 (fun _ => True) :=
 ⟨by simp, fun j hj => by
  have h5 : j = 0 ∨ j = 1 ∨ j = 2 ∨ j = 3 ∨ j = 4 := by omega
  rcases h5 with rfl | rfl | rfl | rfl | rfl <;> simp⟩
theorem lst2 (w : World) (T : TypeId) (y0 y1 : Int) : ListAt (w.alloc (.cells #[.int .i64 y0, .int .i64 y1] T)) w.heap.size 2 (fun _ => True) :=
 ⟨by simp, fun j hj => by
  have h2 : j = 0 ∨ j = 1 := by omega
  rcases h2 with rfl | rfl <;> simp⟩
set_option maxHeartbeats 2000000 in
theorem once_any (c : Nat) (n : Int) (w : World) (H : Cur w c) :
  Calls Tryz.prog 46 #[.pointer (some ⟨c, 0, none⟩), .int .i64 n] w fun e w' => ∃ x : Bool, e = .returned (.bool x) ∧ Cur w' c ∧ Turns (fun k => k = c) w w' := by
 have HC : Hid (Cur w c) := H
 clear H
 go_enter Tryz.func46, Tryz.ntmps46
 go_wp2_with fail
 refine (below_any c _ _ HC.out).mono ?_
 rintro e w1 ⟨x, rfl, hx0, _, hC1, hT1⟩
 go_wp2
 go_ret
 exact ⟨_, rfl, hC1, hT1⟩
set_option maxRecDepth 100000 in
set_option maxHeartbeats 4000000 in
theorem l3_any (c : Nat) (w : World) (H : Cur w c) :
  Calls Tryz.prog 50 #[.pointer (some ⟨c, 0, none⟩)] w fun e w' => ∃ (v : Value) (l : List Int), e = .returned v ∧ l.length = 4 ∧ OwnI w.heap.size w' v l ∧ Cur w' c ∧ Turns (fun k => k = c) w w' := by
 have HC : Hid (Cur w c) := H
 have hcw : c < w.heap.size := H.lt
 clear H
 obtain ⟨i0, hi, hz0, hz1, hz2⟩ := info_parts info3
 go_enter Tryz.func50, Tryz.ntmps50
 go_wp2
 go_loopw [3, 4] (fun o i wr => ∃ (k : Nat) (v : Value) (l : List Int), k ≤ 4 ∧ v = o ∧ i = .int .i64 k ∧ Hid (l.length = k) ∧ wr.ownsRow w.heap.size 3 1 o k (intCells l) ∧ Cur wr c ∧ Turns (fun k => k = c) w wr) (fun _ i _ => 4 - (intOf i).toNat)
 case atStart => exact ⟨0, _, [], Nat.zero_le _, rfl, rfl, rfl, World.ownsRow_nil w _ 3 1, HC.out, Turns.refl _ _⟩
 case round =>
  obtain ⟨k, o, l, hk, rfl, rfl, HK, hR, hC, hT⟩ := hrel
  have HR : Hid (wr.ownsRow w.heap.size 3 1 o k (intCells l)) := hR
  have HC1 : Hid (Cur wr c) := hC
  have HT : Hid (Turns (fun k => k = c) w wr) := hT
  have hs : w.heap.size ≤ wr.heap.size := hT.size
  clear hR hC hT
  by_cases hlt : k < 4
  ·have hki : (k : Int) < 4 := by omega
   have HL5 : Hid (ListAt (wr.alloc (.cells #[.int .i64 (-1), .int .i64 0, .int .i64 1, .int .i64 0, .int .i64 1] 3)) wr.heap.size 5 (fun _ => True)) := lst5 wr 3 (-1) 0 1 0 1
   have HCa : Hid (Cur (wr.alloc (.cells #[.int .i64 (-1), .int .i64 0, .int .i64 1, .int .i64 0, .int .i64 1] 3)) c) := HC1.out.alloc _
   have HRa : Hid ((wr.alloc (.cells #[.int .i64 (-1), .int .i64 0, .int .i64 1, .int .i64 0, .int .i64 1] 3)).ownsRow w.heap.size 3 1 o k (intCells l)) := HR.out.alloc _
   have HTa : Hid (Turns (fun k => k = c) w (wr.alloc (.cells #[.int .i64 (-1), .int .i64 0, .int .i64 1, .int .i64 0, .int .i64 1] 3))) := HT.out.alloc _
   clear HR HC1 HT
   go_wp2_with fail
   refine (pick_any c wr.heap.size 5 _ _ (by omega) (by omega) (by omega) HCa.out HL5.out).mono ?_
   rintro e w2 ⟨y, rfl, _, hC2, hT2⟩
   have HC2 : Hid (Cur w2 c) := hC2
   have HT2 : Hid (Turns (fun k => k = c) w w2) := HTa.out.trans hT2
   have HR2 : Hid (w2.ownsRow w.heap.size 3 1 o k (intCells l)) := own_turnsC HRa.out hT2 hcw
   have hs2 : w.heap.size ≤ w2.heap.size := HT2.out.size
   clear hC2 hT2 HL5 HCa HRa HTa
   go_wp2_with (at_builtin; refine wpList_append_own _ rfl _ _ 23 rfl w.heap.size 3 i0 (.int .i64 0) 1 8 Tryz.underlying23 hi hz0 hz1 hz2 rfl (by decide) o _ _ rfl (HR2.out.alloc _) ⟨w2.heap.size, 0, none⟩ 1 1 [.int .i64 y] rfl rfl (fun j u hu => by (match j, hu with | 0, hu => simp at hu; subst hu; simp [Addr.add] | (j + 1), hu => simp at hu)) (fun u hu => by simp at hu; subst hu; rfl) (by unfold maxLen; omega) (by omega) (by simp; omega) ?_; intro v' w3 hown hgrow hnil)
   have hg : ∀ j, o.ownBlock = some j → w.heap.size ≤ j := fun j e => (HR2.out.lt j e).1
   have hB3 : Below w.heap.size (w2.alloc (.cells #[.int .i64 y] 3)) w3 := (Below.refl _ _).grown hgrow (by simp; omega) hg
   go_roundw
   case rel =>
    refine ⟨k + 1, _, l ++ [y], by omega, rfl, by go_num, by show _ = _; simp [HK.out], ?_, (HC2.out.alloc _).below hB3 hcw, ?_⟩
    ·rw [show intCells (l ++ [y]) = intCells l ++ [.int .i64 y] by simp [intCells]]
     exact hown
    ·exact (HT2.out.alloc _).belowT hB3
   case measure => simp [intOf]; omega
  ·have HO : Hid (OwnI w.heap.size wr o l) := OwnI.of_row (by rw [HK.out]; exact HR.out)
   have hk4 : k = 4 := by omega
   subst hk4
   clear HR
   go_wp2_with fail
   refine (once_any c _ _ HC1.out).mono ?_
   rintro e w2 ⟨x, rfl, hC2, hT2⟩
   have HC2 : Hid (Cur w2 c) := hC2
   have HT2 : Hid (Turns (fun k => k = c) w w2) := HT.out.trans hT2
   have HO2 : Hid (OwnI w.heap.size w2 o l) := HO.out.turns hT2 hcw
   clear hC2 hT2 HT HC1 HO
   cases x with
   | false =>
    go_wp2
    go_ret
    exact ⟨o, l, rfl, HK.out, HO2.out, HC2.out, HT2.out⟩
   | true =>
    obtain ⟨g, cap, hv, hc1, hc2, hBg, hRow⟩ := HO2.out.four HK.out
    subst hv
    have HRow : Hid (RowI w2 g l) := hRow
    clear hRow HO2
    have HL2 : Hid (ListAt (w2.alloc (.cells #[.int .i64 (-2), .int .i64 2] 3)) w2.heap.size 2 (fun _ => True)) := lst2 w2 3 (-2) 2
    have hs2 : w.heap.size ≤ w2.heap.size := HT2.out.size
    go_wp2_with fail
    refine (pick_any c w2.heap.size 2 _ _ (by omega) (by omega) (by omega) (HC2.out.alloc _) HL2.out).mono ?_
    rintro e w3 ⟨y, rfl, _, hC3, hT3⟩
    have HC3 : Hid (Cur w3 c) := hC3
    have HT3 : Hid (Turns (fun k => k = c) w w3) := (HT2.out.alloc _).trans hT3
    have HR3 : Hid (RowI w3 g l) := RowI.turns (HRow.out.below ((Below.refl _ w2).alloc (Nat.le_refl _) _) HRow.out.1) hT3 (by omega)
    have f0 := (HR3.out.2 0 (by rw [HK.out]; omega)).1
    have f1 := (HR3.out.2 0 (by rw [HK.out]; omega)).2
    clear hC3 hT3 HC2 HT2 HRow HL2
    go_wp2
    go_ret
    exact ⟨_, l.set 0 y, rfl, by simp [HK.out], (HR3.out.put (by rw [HK.out]; omega) y).ownC (by simp [HK.out]) hc1 hc2 hBg, HC3.out.set (p := ⟨g, 0, none⟩) (by show c < g; omega) _, HT3.out.belowT ((Below.refl _ w3).setCell (p := ⟨g, 0, none⟩) hBg _)⟩
end Go.Proofs.YtbljfphdghfkfaaGreatDoor

/- A model that is being made: its struct in a block, its lists in rows of their own. -/
namespace Go.Proofs.YtbljfphdghfkfaaGreatDoor
open Go.RowKit
theorem grown_turns {w w' : World} {row : Option Nat} (h : w.grownBy w' row) : Turns (fun k => row = some k) w w' := ⟨h.os, h.tape, h.output, h.size, fun k hk hS => h.block k hk (fun e => hS e.symm)⟩
theorem sza (w : World) (o : Obj) : w.heap.size ≤ (w.alloc o).heap.size := by simp
theorem owns_ne {B : Nat} {e : TypeId} {size n : Nat} {w : World} {v : Value} {xs : List Value} (h : w.ownsRow B e size v n xs) {P : Nat} {T : TypeId} {vs : Array Value} (hb : Bk w P T vs) (hT : T ≠ e) : ¬ v.ownBlock = some P := by
 intro hE
 obtain ⟨_, ⟨rfl, _⟩ | ⟨g, cap, cur, rfl, _, hc, _⟩⟩ := h
 ·simp [Value.ownBlock] at hE
 ·simp [Value.ownBlock] at hE
  subst hE
  have hb' : w.heap[g]? = some (.cells vs T) := hb
  rw [hb'] at hc
  simp at hc
  exact hT hc.2
theorem owns_lt {B : Nat} {e : TypeId} {size n : Nat} {w : World} {v : Value} {xs : List Value} (h : w.ownsRow B e size v n xs) {k : Nat} (hk : v.ownBlock = some k) : k < w.heap.size := by
 obtain ⟨_, ⟨rfl, _⟩ | ⟨g, cap, cur, rfl, _, hc, _⟩⟩ := h
 ·simp [Value.ownBlock] at hk
 ·simp [Value.ownBlock] at hk
  subst hk
  exact (Array.getElem?_eq_some_iff.1 hc).1
theorem Turns.grownNew {S : Nat → Prop} {a w w' : World} {row : Option Nat} (h : Turns S a w) (hg : w.grownBy w' row) (hr : ∀ k, row = some k → a.heap.size ≤ k) : Turns S a w' :=
 ⟨hg.os.trans h.os, hg.tape.trans h.tape, hg.output.trans h.output, Nat.le_trans h.size hg.size, fun k hk hS => (hg.block k (Nat.lt_of_lt_of_le hk h.size) (fun e => by have := hr k e.symm; omega)).trans (h.block k hk hS)⟩
theorem Turns.setNew {S : Nat → Prop} {a w : World} (h : Turns S a w) {b : Nat} (hb : a.heap.size ≤ b) (o : Nat) (u : Value) : Turns S a (w.setCell ⟨b, o, none⟩ u) :=
 ⟨h.os, h.tape, h.output, Nat.le_trans h.size (by simp [World.setCell]), fun k hk hS => (Below.heap_setCell _ _ _ _ (by show k ≠ b; omega)).trans (h.block k hk hS)⟩
theorem at_newO (w : World) (e : O) : ∀ j u, (cellsO [e])[j]? = some u → (w.alloc (.cells #[.int .i64 e.c, .int .i64 e.a, .int .i64 e.b, .int .i64 e.k] 39)).cell? ((⟨w.heap.size, 0, none⟩ : Addr).add j) = some u := by
 intro j u hu
 rw [Addr.add_lit, Nat.zero_add]
 exact (Bk.new w 39 #[.int .i64 e.c, .int .i64 e.a, .int .i64 e.b, .int .i64 e.k]).cell (by simpa [cellsO, O.cs] using hu)
def uAt (us : List Value) (i : Nat) : Value := us.getD i (.slice none 0 0)
def HsO (B : Nat) (w : World) (us : List Value) (hs : List (List O)) : Prop :=
 us.length = hs.length ∧ (∀ i, i < hs.length → w.ownsRow B 39 4 (uAt us i) (hAt hs i).length (cellsO (hAt hs i))) ∧ ∀ i j k, i < j → j < hs.length → (uAt us i).ownBlock = some k → ¬ (uAt us j).ownBlock = some k
theorem HsO.nil (B : Nat) (w : World) : HsO B w [] [] := ⟨rfl, fun i hi => by simp at hi, fun i j k _ hj => by simp at hj⟩
theorem HsO.turns {S : Nat → Prop} {B : Nat} {w w' : World} {us : List Value} {hs : List (List O)} (h : HsO B w us hs) (ht : Turns S w w') (hS : ∀ i k, i < hs.length → (uAt us i).ownBlock = some k → ¬ S k) : HsO B w' us hs :=
 ⟨h.1, fun i hi => owns_turns (h.2.1 i hi) ht (fun k hk => hS i k hi hk), h.2.2⟩
theorem HsO.below {B : Nat} {w w' : World} {us : List Value} {hs : List (List O)} (h : HsO B w us hs) (hb : Below w.heap.size w w') : HsO B w' us hs :=
 h.turns (S := fun _ => False) (Turns.of_below hb) (fun _ _ _ _ e => e)
theorem HsO.alloc {B : Nat} {w : World} {us : List Value} {hs : List (List O)} (h : HsO B w us hs) (o : Obj) : HsO B (w.alloc o) us hs := h.below ((Below.refl _ w).alloc (Nat.le_refl _) o)
theorem uAt_left {us : List Value} {u : Value} {i : Nat} (h : i < us.length) : uAt (us ++ [u]) i = uAt us i := by
 unfold uAt; simp [List.getElem?_append_left h]
theorem uAt_last (us : List Value) (u : Value) : uAt (us ++ [u]) us.length = u := by unfold uAt; simp
theorem hAt_left {hs : List (List O)} {r : List O} {i : Nat} (h : i < hs.length) : hAt (hs ++ [r]) i = hAt hs i := by
 unfold hAt; simp [List.getElem?_append_left h]
theorem hAt_last (hs : List (List O)) (r : List O) : hAt (hs ++ [r]) hs.length = r := by unfold hAt; simp
theorem owns_mono {B B' : Nat} {e : TypeId} {size n : Nat} {w : World} {v : Value} {xs : List Value} (h : w.ownsRow B e size v n xs) (hB : B' ≤ B) : w.ownsRow B' e size v n xs := by
 obtain ⟨h0, h1 | ⟨g, cap, cur, e, hg, h2⟩⟩ := h
 ·exact ⟨h0, .inl h1⟩
 ·exact ⟨h0, .inr ⟨g, cap, cur, e, Nat.le_trans hB hg, h2⟩⟩
theorem HsO.snoc {B B' : Nat} {w : World} {us : List Value} {hs : List (List O)} {u : Value} {r : List O} (h : HsO B w us hs) (hr : w.ownsRow B' 39 4 u r.length (cellsO r)) (hB : B ≤ B') (hold : ∀ i k, i < hs.length → (uAt us i).ownBlock = some k → k < B') : HsO B w (us ++ [u]) (hs ++ [r]) := by
 obtain ⟨h0, h1, h2⟩ := h
 refine ⟨by simp [h0], fun i hi => ?_, fun i j k hij hj hk => ?_⟩
 ·by_cases e : i < hs.length
  ·rw [uAt_left (by omega), hAt_left e]; exact h1 i e
  ·have : i = hs.length := by simp at hi; omega
   subst this
   rw [hAt_last, ← h0, uAt_last]
   exact owns_mono hr hB
 ·by_cases e : j < hs.length
  ·rw [uAt_left (by omega)] at hk ⊢
   exact h2 i j k hij e hk
  ·have : j = hs.length := by simp at hj; omega
   subst this
   rw [uAt_left (by omega)] at hk
   rw [← h0, uAt_last]
   intro e2
   have := hold i k hij hk
   have := row_ge hr e2
   omega
theorem HsO.old {B : Nat} {w : World} {us : List Value} {hs : List (List O)} (h : HsO B w us hs) : ∀ i k, i < hs.length → (uAt us i).ownBlock = some k → k < w.heap.size := fun i _ hi hk => owns_lt (h.2.1 i hi) hk
theorem HsO.isH {B B' : Nat} {w : World} {us : List Value} {hs : List (List O)} {v : Value} (h : HsO B w us hs) (hv : w.ownsRow B' 37 1 v hs.length us) : IsH w v hs := by
 have hF := RowF.of_owns (by rw [h.1]; omega) hv
 obtain ⟨hl, a, cap, rfl, h1, h2, h3⟩ := hF
 refine ⟨a, cap, rfl, h1, h2, h3.imp List.eq_nil_of_length_eq_zero ?_⟩
 rintro ⟨g, rfl, _, hg, hc⟩
 refine ⟨g, 0, rfl, hg, fun i hi => ⟨uAt us i, ?_, (RowF.of_owns (cellsO_length _) (h.2.1 i hi)).isO⟩⟩
 rw [Nat.zero_add, (hc i (by omega)).1]
 unfold uAt
 rw [List.getD_eq_getElem?_getD, List.getElem?_eq_getElem (by rw [h.1]; exact hi)]
 rfl
theorem infoSS : (Tryz.prog.info? 37).map (fun i => (i.zero, i.size, i.bytes)) = some (some (.slice none 0 0), 1, 24) := by kernel_rfl
theorem infoEv : (Tryz.prog.info? 53).map (fun i => (i.zero, i.size, i.bytes)) = some (some (.agg #[.int .i64 0, .int .i64 0, .int .i64 0, .int .i64 0, .int .i64 0, .int .i64 0, .int .i64 0]), 7, 56) := by kernel_rfl
theorem at_newI (w : World) (z : Int) : ∀ j u, (intCells [z])[j]? = some u → (w.alloc (.cells #[.int .i64 z] 3)).cell? ((⟨w.heap.size, 0, none⟩ : Addr).add j) = some u := by
 intro j u hu
 rw [Addr.add_lit, Nat.zero_add]
 exact (Bk.new w 3 #[.int .i64 z]).cell (by simpa [intCells] using hu)
theorem at_newS (w : World) (v : Value) (T : TypeId) : ∀ j u, [v][j]? = some u → (w.alloc (.cells #[v] T)).cell? ((⟨w.heap.size, 0, none⟩ : Addr).add j) = some u := by
 intro j u hu
 rw [Addr.add_lit, Nat.zero_add]
 exact (Bk.new w T #[v]).cell (by simpa using hu)
theorem at_newE (w : World) (e : Ev) : ∀ j u, (cellsL [e])[j]? = some u → (w.alloc (.cells #[.int .i64 e.t, .int .i64 e.s, .int .i64 e.q, .int .i64 e.d, .int .i64 e.k, .int .i64 e.v, .int .i64 e.g] 53)).cell? ((⟨w.heap.size, 0, none⟩ : Addr).add j) = some u := by
 intro j u hu
 rw [Addr.add_lit, Nat.zero_add]
 exact (Bk.new w 53 #[.int .i64 e.t, .int .i64 e.s, .int .i64 e.q, .int .i64 e.d, .int .i64 e.k, .int .i64 e.v, .int .i64 e.g]).cell (by simpa [cellsL, Ev.cs] using hu)
theorem intCells_ones (l : List Int) : ∀ u ∈ intCells l, u.oneCell' = true := by
 intro u hu
 obtain ⟨z, _, rfl⟩ := List.mem_map.1 hu
 rfl
theorem slice_ones (a : Option Addr) (n c : Nat) : ∀ u ∈ [Value.slice a n c], u.oneCell' = true := by
 intro u hu
 simp at hu
 subst hu
 rfl
theorem owns_slice {B : Nat} {e : TypeId} {size n : Nat} {w : World} {v : Value} {xs : List Value} (h : w.ownsRow B e size v n xs) : ∃ a cap, v = .slice a n cap := by
 obtain ⟨_, ⟨rfl, h0⟩ | ⟨g, cap, cur, rfl, _⟩⟩ := h
 ·exact ⟨none, 0, by rw [h0]⟩
 ·exact ⟨_, _, rfl⟩
abbrev Z6 : Array Value := #[.int .i64 0, .int .i64 0, .slice none 0 0, .slice none 0 0, .slice none 0 0, .int .i64 0]
structure MB (w : World) (B Rb Mb : Nat) (m : Md) (vi vh vs : Value) (us : List Value) : Prop where
 ne : Rb ≠ Mb
 r : Bk w Rb 27 Z6
 b : Bk w Mb 27 #[.int .i64 m.n, .int .i64 m.s, vi, vh, vs, .int .i64 m.z]
 i : w.ownsRow B 3 1 vi m.i.length (intCells m.i)
 h : w.ownsRow B 37 1 vh m.h.length us
 u : HsO B w us m.h
 e : w.ownsRow B 53 7 vs m.e.length (cellsL m.e)
theorem MB.turns {S : Nat → Prop} {w w' : World} {B Rb Mb : Nat} {m : Md} {vi vh vs : Value} {us : List Value} (g : MB w B Rb Mb m vi vh vs us) (ht : Turns S w w') (h1 : ¬ S Rb) (h2 : ¬ S Mb) (h3 : ∀ k, vi.ownBlock = some k → ¬ S k) (h4 : ∀ k, vh.ownBlock = some k → ¬ S k) (h5 : ∀ i k, i < m.h.length → (uAt us i).ownBlock = some k → ¬ S k) (h6 : ∀ k, vs.ownBlock = some k → ¬ S k) : MB w' B Rb Mb m vi vh vs us :=
 ⟨g.ne, g.r.turns ht h1, g.b.turns ht h2, owns_turns g.i ht h3, owns_turns g.h ht h4, g.u.turns ht h5, owns_turns g.e ht h6⟩
theorem MB.below {w w' : World} {B Rb Mb : Nat} {m : Md} {vi vh vs : Value} {us : List Value} (g : MB w B Rb Mb m vi vh vs us) (hb : Below w.heap.size w w') : MB w' B Rb Mb m vi vh vs us :=
 g.turns (S := fun _ => False) (Turns.of_below hb) id id (fun _ _ => id) (fun _ _ => id) (fun _ _ _ _ => id) (fun _ _ => id)
theorem MB.alloc {w : World} {B Rb Mb : Nat} {m : Md} {vi vh vs : Value} {us : List Value} (g : MB w B Rb Mb m vi vh vs us) (o : Obj) : MB (w.alloc o) B Rb Mb m vi vh vs us := g.below ((Below.refl _ w).alloc (Nat.le_refl _) o)
theorem MB.drew {w : World} {B Rb Mb : Nat} {m : Md} {vi vh vs : Value} {us : List Value} (g : MB w B Rb Mb m vi vh vs us) : MB w.drew B Rb Mb m vi vh vs us := g.below (Below.refl _ w).drew
theorem owns_apart {B B' : Nat} {e e' : TypeId} {size n size' n' : Nat} {w : World} {v v' : Value} {xs xs' : List Value} (h : w.ownsRow B e size v n xs) (h' : w.ownsRow B' e' size' v' n' xs') (he : e ≠ e') {k : Nat} (hk : v.ownBlock = some k) : ¬ v'.ownBlock = some k := by
 intro hk'
 obtain ⟨_, ⟨rfl, _⟩ | ⟨g, cap, cur, rfl, _, hc, _⟩⟩ := h
 ·simp [Value.ownBlock] at hk
 ·obtain ⟨_, ⟨rfl, _⟩ | ⟨g', cap', cur', rfl, _, hc', _⟩⟩ := h'
  ·simp [Value.ownBlock] at hk'
  ·simp [Value.ownBlock] at hk hk'
   subst hk hk'
   rw [hc] at hc'
   simp at hc'
   exact he hc'.2
theorem MB.putN {w : World} {B Rb Mb : Nat} {m : Md} {vi vh vs : Value} {us : List Value} (g : MB w B Rb Mb m vi vh vs us) (z : Int) : MB (w.setCell ⟨Mb, 5, none⟩ (.int .i64 z)) B Rb Mb ⟨m.n, m.s, m.i, m.h, m.e, z⟩ vi vh vs us := by
 have ht := put1_turns w Mb 5 (.int .i64 z)
 exact ⟨g.ne, g.r.turns ht g.ne, g.b.put 5 _, owns_turns g.i ht (fun k hk e => owns_ne g.i g.b (by decide) (e ▸ hk)), owns_turns g.h ht (fun k hk e => owns_ne g.h g.b (by decide) (e ▸ hk)), g.u.turns ht (fun i k hi hk e => owns_ne (g.u.2.1 i hi) g.b (by decide) (e ▸ hk)), owns_turns g.e ht (fun k hk e => owns_ne g.e g.b (by decide) (e ▸ hk))⟩
theorem MB.putS {w : World} {B Rb Mb : Nat} {m : Md} {vi vh vs : Value} {us : List Value} (g : MB w B Rb Mb m vi vh vs us) (z : Int) : MB (w.setCell ⟨Mb, 1, none⟩ (.int .i64 z)) B Rb Mb ⟨m.n, z, m.i, m.h, m.e, m.z⟩ vi vh vs us := by
 have ht := put1_turns w Mb 1 (.int .i64 z)
 exact ⟨g.ne, g.r.turns ht g.ne, g.b.put 1 _, owns_turns g.i ht (fun k hk e => owns_ne g.i g.b (by decide) (e ▸ hk)), owns_turns g.h ht (fun k hk e => owns_ne g.h g.b (by decide) (e ▸ hk)), g.u.turns ht (fun i k hi hk e => owns_ne (g.u.2.1 i hi) g.b (by decide) (e ▸ hk)), owns_turns g.e ht (fun k hk e => owns_ne g.e g.b (by decide) (e ▸ hk))⟩
theorem MB.putL {w : World} {B Rb Mb : Nat} {m : Md} {vi vh vs : Value} {us : List Value} (g : MB w B Rb Mb m vi vh vs us) (z : Int) : MB (w.setCell ⟨Mb, 0, none⟩ (.int .i64 z)) B Rb Mb ⟨z, m.s, m.i, m.h, m.e, m.z⟩ vi vh vs us := by
 have ht := put1_turns w Mb 0 (.int .i64 z)
 exact ⟨g.ne, g.r.turns ht g.ne, g.b.put 0 _, owns_turns g.i ht (fun k hk e => owns_ne g.i g.b (by decide) (e ▸ hk)), owns_turns g.h ht (fun k hk e => owns_ne g.h g.b (by decide) (e ▸ hk)), g.u.turns ht (fun i k hi hk e => owns_ne (g.u.2.1 i hi) g.b (by decide) (e ▸ hk)), owns_turns g.e ht (fun k hk e => owns_ne g.e g.b (by decide) (e ▸ hk))⟩
theorem MB.putI {w w3 : World} {B Rb Mb : Nat} {m : Md} {vi vh vs v3 : Value} {us : List Value} {z : Int} (g : MB w B Rb Mb m vi vh vs us) (ho : w3.ownsRow B 3 1 v3 (m.i.length + 1) (intCells m.i ++ intCells [z])) (hg : w.grownBy w3 vi.ownBlock) : MB (w3.setCell ⟨Mb, 2, none⟩ v3) B Rb Mb ⟨m.n, m.s, m.i ++ [z], m.h, m.e, m.z⟩ v3 vh vs us := by
 have ht := grown_turns hg
 have n1 := owns_ne g.i g.r (by decide)
 have n2 := owns_ne g.i g.b (by decide)
 have r3 := g.r.turns ht n1
 have b3 := g.b.turns ht n2
 have h3 := owns_turns g.h ht (fun k hk e => owns_apart g.i g.h (by decide) e hk)
 have u3 := g.u.turns ht (fun i k hi hk e => owns_apart g.i (g.u.2.1 i hi) (by decide) e hk)
 have e3 := owns_turns g.e ht (fun k hk e => owns_apart g.i g.e (by decide) e hk)
 have hp := put1_turns w3 Mb 2 v3
 refine ⟨g.ne, r3.turns hp g.ne, b3.put 2 _, ?_, owns_turns h3 hp (fun k hk e => owns_ne h3 b3 (by decide) (e ▸ hk)), u3.turns hp (fun i k hi hk e => owns_ne (u3.2.1 i hi) b3 (by decide) (e ▸ hk)), owns_turns e3 hp (fun k hk e => owns_ne e3 b3 (by decide) (e ▸ hk))⟩
 have := owns_turns ho hp (fun k hk e => owns_ne ho b3 (by decide) (e ▸ hk))
 simpa [intCells] using this
theorem MB.putH {w w3 : World} {B B' Rb Mb : Nat} {m : Md} {vi vh vs v3 u : Value} {us : List Value} {r : List O} (g : MB w B Rb Mb m vi vh vs us) (hu : w.ownsRow B' 39 4 u r.length (cellsO r)) (hB : B ≤ B') (hold : ∀ i k, i < m.h.length → (uAt us i).ownBlock = some k → k < B') (ho : w3.ownsRow B 37 1 v3 (m.h.length + 1) (us ++ [u])) (hg : w.grownBy w3 vh.ownBlock) : MB (w3.setCell ⟨Mb, 3, none⟩ v3) B Rb Mb ⟨m.n, m.s, m.i, m.h ++ [r], m.e, m.z⟩ vi v3 vs (us ++ [u]) := by
 have ht := grown_turns hg
 have r3 := g.r.turns ht (owns_ne g.h g.r (by decide))
 have b3 := g.b.turns ht (owns_ne g.h g.b (by decide))
 have i3 := owns_turns g.i ht (fun k hk e => owns_apart g.h g.i (by decide) e hk)
 have u3 := (g.u.snoc hu hB hold).turns ht (fun i k hi hk e => owns_apart g.h ((g.u.snoc hu hB hold).2.1 i hi) (by decide) e hk)
 have e3 := owns_turns g.e ht (fun k hk e => owns_apart g.h g.e (by decide) e hk)
 have hp := put1_turns w3 Mb 3 v3
 refine ⟨g.ne, r3.turns hp g.ne, b3.put 3 _, owns_turns i3 hp (fun k hk e => owns_ne i3 b3 (by decide) (e ▸ hk)), ?_, u3.turns hp (fun i k hi hk e => owns_ne (u3.2.1 i hi) b3 (by decide) (e ▸ hk)), owns_turns e3 hp (fun k hk e => owns_ne e3 b3 (by decide) (e ▸ hk))⟩
 have := owns_turns ho hp (fun k hk e => owns_ne ho b3 (by decide) (e ▸ hk))
 simpa using this
theorem MB.putE {w w3 : World} {B Rb Mb : Nat} {m : Md} {vi vh vs v3 : Value} {us : List Value} {x : Ev} (g : MB w B Rb Mb m vi vh vs us) (ho : w3.ownsRow B 53 7 v3 (m.e.length + 1) (cellsL m.e ++ cellsL [x])) (hg : w.grownBy w3 vs.ownBlock) : MB (w3.setCell ⟨Mb, 4, none⟩ v3) B Rb Mb ⟨m.n, m.s, m.i, m.h, m.e ++ [x], m.z⟩ vi vh v3 us := by
 have ht := grown_turns hg
 have r3 := g.r.turns ht (owns_ne g.e g.r (by decide))
 have b3 := g.b.turns ht (owns_ne g.e g.b (by decide))
 have i3 := owns_turns g.i ht (fun k hk e => owns_apart g.e g.i (by decide) e hk)
 have h3 := owns_turns g.h ht (fun k hk e => owns_apart g.e g.h (by decide) e hk)
 have u3 := g.u.turns ht (fun i k hi hk e => owns_apart g.e (g.u.2.1 i hi) (by decide) e hk)
 have hp := put1_turns w3 Mb 4 v3
 refine ⟨g.ne, r3.turns hp g.ne, b3.put 4 _, owns_turns i3 hp (fun k hk e => owns_ne i3 b3 (by decide) (e ▸ hk)), owns_turns h3 hp (fun k hk e => owns_ne h3 b3 (by decide) (e ▸ hk)), u3.turns hp (fun i k hi hk e => owns_ne (u3.2.1 i hi) b3 (by decide) (e ▸ hk)), ?_⟩
 have := owns_turns ho hp (fun k hk e => owns_ne ho b3 (by decide) (e ▸ hk))
 rw [List.length_append, cellsL_append]
 exact this
theorem MB.isM {w : World} {B Rb Mb : Nat} {m : Md} {vi vh vs : Value} {us : List Value} (g : MB w B Rb Mb m vi vh vs us) : IsM w (.agg #[.int .i64 m.n, .int .i64 m.s, vi, vh, vs, .int .i64 m.z]) m :=
 ⟨vi, vh, vs, rfl, (RowF.of_owns (by rw [intCells_length]; omega) g.i).isI, g.u.isH g.h, (RowF.of_owns (cellsL_length _) g.e).isEvs⟩
def Aw (N Rb Mb : Nat) (vi vh vs : Value) (us : List Value) (n : Nat) : Prop := Rb < N ∧ Mb < N ∧ (∀ k, vi.ownBlock = some k → k < N) ∧ (∀ k, vh.ownBlock = some k → k < N) ∧ (∀ i k, i < n → (uAt us i).ownBlock = some k → k < N) ∧ ∀ k, vs.ownBlock = some k → k < N
theorem MB.aw {w : World} {B Rb Mb : Nat} {m : Md} {vi vh vs : Value} {us : List Value} (g : MB w B Rb Mb m vi vh vs us) : Aw w.heap.size Rb Mb vi vh vs us m.h.length :=
 ⟨g.r.lt, g.b.lt, fun _ hk => owns_lt g.i hk, fun _ hk => owns_lt g.h hk, g.u.old, fun _ hk => owns_lt g.e hk⟩
structure MO (w : World) (B : Nat) (m : Md) (vi vh vs : Value) (us : List Value) : Prop where
 i : w.ownsRow B 3 1 vi m.i.length (intCells m.i)
 h : w.ownsRow B 37 1 vh m.h.length us
 u : HsO B w us m.h
 e : w.ownsRow B 53 7 vs m.e.length (cellsL m.e)
theorem MB.mo {w w' : World} {B Rb Mb : Nat} {m : Md} {vi vh vs : Value} {us : List Value} (g : MB w B Rb Mb m vi vh vs us) (ht : Turns (fun k => k = Rb) w w') : MO w' B m vi vh vs us :=
 ⟨owns_turns g.i ht (fun _ hk e => owns_ne g.i g.r (by decide) (e ▸ hk)), owns_turns g.h ht (fun _ hk e => owns_ne g.h g.r (by decide) (e ▸ hk)), g.u.turns ht (fun i _ hi hk e => owns_ne (g.u.2.1 i hi) g.r (by decide) (e ▸ hk)), owns_turns g.e ht (fun _ hk e => owns_ne g.e g.r (by decide) (e ▸ hk))⟩
theorem Turns.trans' {S : Nat → Prop} {a w w' : World} {b : Nat} (h : Turns S a w) (ht : Turns (fun k => k = b) w w') (hb : a.heap.size ≤ b) : Turns S a w' :=
 ⟨ht.os.trans h.os, ht.tape.trans h.tape, ht.output.trans h.output, Nat.le_trans h.size ht.size, fun k hk hS => (ht.block k (Nat.lt_of_lt_of_le hk h.size) (fun e => by omega)).trans (h.block k hk hS)⟩
theorem MB.keptC {w w' : World} {B Rb Mb c : Nat} {m : Md} {vi vh vs : Value} {us : List Value} (g : MB w B Rb Mb m vi vh vs us) (hc : c < B) (h1 : B ≤ Rb) (h2 : B ≤ Mb) (ht : Turns (fun k => k = c) w w') : MB w' B Rb Mb m vi vh vs us :=
 g.turns ht (fun e => by omega) (fun e => by omega) (fun k hk e => by have := row_ge g.i hk; omega) (fun k hk e => by have := row_ge g.h hk; omega) (fun i k hi hk e => by have := row_ge (g.u.2.1 i hi) hk; omega) (fun k hk e => by have := row_ge g.e hk; omega)
theorem Cur.drew {w : World} {c : Nat} (H : Cur w c) : Cur w.drew c := H.below (Below.refl _ w).drew H.lt
theorem Cur.turns {w w' : World} {c : Nat} {S : Nat → Prop} (H : Cur w c) (ht : Turns S w w') (hS : ∀ k, k ≤ c → ¬ S k) : Cur w' c :=
 H.below (B := c + 1) ⟨ht.os, ht.tape, ht.output, ht.size, fun k hk => ht.block k (by have := H.lt; omega) (hS k (by omega))⟩ (by omega)
theorem MB.grownA {w w' : World} {N B Rb Mb : Nat} {m : Md} {vi vh vs : Value} {us : List Value} {row : Option Nat} (g : MB w B Rb Mb m vi vh vs us) (a : Aw N Rb Mb vi vh vs us m.h.length) (hg : w.grownBy w' row) (hr : ∀ k, row = some k → N ≤ k) : MB w' B Rb Mb m vi vh vs us := by
 obtain ⟨a1, a2, a3, a4, a5, a6⟩ := a
 exact g.turns (grown_turns hg) (fun e => by have := hr _ e; omega) (fun e => by have := hr _ e; omega) (fun k hk e => by have := a3 k hk; have := hr _ e; omega) (fun k hk e => by have := a4 k hk; have := hr _ e; omega) (fun i k hi hk e => by have := a5 i k hi hk; have := hr _ e; omega) (fun k hk e => by have := a6 k hk; have := hr _ e; omega)
theorem Cur.grown {w w' : World} {c : Nat} {row : Option Nat} (H : Cur w c) (hg : w.grownBy w' row) (hr : ∀ k, row = some k → c < k) : Cur w' c := H.turns (grown_turns hg) (fun k hk e => by have := hr k e; omega)
theorem Cur.put {w : World} {c b : Nat} (H : Cur w c) (hb : c < b) (o : Nat) (u : Value) : Cur (w.setCell ⟨b, o, none⟩ u) c := H.set (p := ⟨b, o, none⟩) hb u
theorem RowF.ownB {B : Nat} {T : TypeId} {w : World} {x : Value} {n c : Nat} {cs : List Value} (hcs : cs.length = n * c) (h : w.ownsRow B T c x n cs) : RowF (fun k => x.ownBlock = some k) w x n c cs := by
 obtain ⟨hl, a, cap, rfl, h1, h2, h3⟩ := RowF.of_owns hcs h
 refine ⟨hl, a, cap, rfl, h1, h2, h3.imp id ?_⟩
 rintro ⟨g, rfl, _, h4⟩
 exact ⟨g, rfl, by simp [Value.ownBlock], h4⟩
theorem us_range {us : List Value} {n : Nat} (h : us.length = n) : (List.range n).map (uAt us) = us := by
 subst h
 apply List.ext_getElem?
 intro i
 by_cases hi : i < us.length
 ·simp [hi, uAt]
 ·simp [hi]
theorem HsO.hsF {B B' : Nat} {w : World} {us : List Value} {hs : List (List O)} {v : Value} (h : HsO B w us hs) (hv : w.ownsRow B' 37 1 v hs.length us) : HsF (fun k => v.ownBlock = some k ∨ ∃ i, i < hs.length ∧ (uAt us i).ownBlock = some k) w v hs := by
 refine ⟨uAt us, (fun k => v.ownBlock = some k), (fun i k => (uAt us i).ownBlock = some k), ?_, fun k e => .inl e, fun i hi => ⟨RowF.ownB (cellsO_length _) (h.2.1 i hi), fun k e => ⟨.inr ⟨i, hi, e⟩, fun e' => owns_apart hv (h.2.1 i hi) (by decide) e' e⟩⟩, fun i j hi hj hij k e => ?_⟩
 ·rw [us_range h.1]
  exact RowF.ownB (by rw [h.1]; omega) hv
 ·by_cases hlt : i < j
  ·exact h.2.2 i j k hlt hj e
  ·intro e'
   exact h.2.2 j i k (by omega) hi e' e
theorem MO.mdf {w : World} {B : Nat} {m : Md} {vi vh vs : Value} {us : List Value} (g : MO w B m vi vh vs us) : MdF (fun k => B ≤ k ∧ k < w.heap.size) w (.agg #[.int .i64 m.n, .int .i64 m.s, vi, vh, vs, .int .i64 m.z]) m := by
 refine ⟨(fun k => vi.ownBlock = some k), (fun k => vh.ownBlock = some k ∨ ∃ i, i < m.h.length ∧ (uAt us i).ownBlock = some k), (fun k => vs.ownBlock = some k), vi, vh, vs, rfl, RowF.ownB (by rw [intCells_length]; omega) g.i, g.u.hsF g.h, RowF.ownB (cellsL_length _) g.e, fun k e => ⟨⟨row_ge g.i e, owns_lt g.i e⟩, ?_, owns_apart g.i g.e (by decide) e⟩, ?_, fun k e => ⟨row_ge g.e e, owns_lt g.e e⟩⟩
 ·rintro (e' | ⟨i, hi, e'⟩)
  ·exact owns_apart g.i g.h (by decide) e e'
  ·exact owns_apart g.i (g.u.2.1 i hi) (by decide) e e'
 ·rintro k (e | ⟨i, hi, e⟩)
  ·exact ⟨⟨row_ge g.h e, owns_lt g.h e⟩, owns_apart g.h g.e (by decide) e⟩
  ·exact ⟨⟨row_ge (g.u.2.1 i hi) e, owns_lt (g.u.2.1 i hi) e⟩, owns_apart (g.u.2.1 i hi) g.e (by decide) e⟩
end Go.Proofs.YtbljfphdghfkfaaGreatDoor

/- The specification's l0swap. -/
namespace Go.Proofs.YtbljfphdghfkfaaGreatDoor
open Go.RowKit
theorem Row.cells7 {w : World} {B g cap : Nat} {l : List Ev} (h : Row w B g cap l) {i : Nat} (hi : i < l.length) :
  (w.cell? ⟨g, i * 7, none⟩ = some (.int .i64 (evAt l i).t) ∧ w.cell? ⟨g, i * 7 + 1, none⟩ = some (.int .i64 (evAt l i).s) ∧ w.cell? ⟨g, i * 7 + 2, none⟩ = some (.int .i64 (evAt l i).q) ∧ w.cell? ⟨g, i * 7 + 3, none⟩ = some (.int .i64 (evAt l i).d) ∧ w.cell? ⟨g, i * 7 + 4, none⟩ = some (.int .i64 (evAt l i).k) ∧ w.cell? ⟨g, i * 7 + 5, none⟩ = some (.int .i64 (evAt l i).v) ∧ w.cell? ⟨g, i * 7 + 6, none⟩ = some (.int .i64 (evAt l i).g)) ∧
  (w.frozen? ⟨g, i * 7, none⟩ = false ∧ w.frozen? ⟨g, i * 7 + 1, none⟩ = false ∧ w.frozen? ⟨g, i * 7 + 2, none⟩ = false ∧ w.frozen? ⟨g, i * 7 + 3, none⟩ = false ∧ w.frozen? ⟨g, i * 7 + 4, none⟩ = false ∧ w.frozen? ⟨g, i * 7 + 5, none⟩ = false ∧ w.frozen? ⟨g, i * 7 + 6, none⟩ = false) :=
 ⟨⟨(h.ev hi).f0, (h.ev hi).f1, (h.ev hi).f2, (h.ev hi).f3, (h.ev hi).f4, (h.ev hi).f5, (h.ev hi).f6⟩, ⟨h.frozen _, h.frozen _, h.frozen _, h.frozen _, h.frozen _, h.frozen _, h.frozen _⟩⟩
theorem Row.swap {w : World} {B g cap : Nat} {l : List Ev} (h : Row w B g cap l) {i k : Nat} (hi : i < l.length) (hk : k < l.length) : Row (put7 (put7 w g (i * 7) (evAt l k)) g (k * 7) (evAt l i)) B g cap (swp l i k) :=
 (h.put hi (evAt l k)).put (by simpa using hk) (evAt l i)
end Go.Proofs.YtbljfphdghfkfaaGreatDoor

