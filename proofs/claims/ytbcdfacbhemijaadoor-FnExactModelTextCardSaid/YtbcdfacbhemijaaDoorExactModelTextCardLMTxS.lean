/- The specification's ModelText. -/
import Derived.Test.YtbcdfacbhemijaaDoorExactModelTextCardLMTxL
import Derived.Deep.CutBlock
namespace Go.Proofs.YtbcdfacbhemijaaDoor
open Go.RowKit
theorem at_new6 (w : World) (a0 : Value) (a1 : Value) (a2 : Value) (a3 : Value) (a4 : Value) (a5 : Value) (fz : Nat × Nat) : ∀ j u, [a0, a1, a2, a3, a4, a5][j]? = some u → (w.alloc (.cells #[a0, a1, a2, a3, a4, a5] 5 fz)).cell? ((⟨w.heap.size, 0, none⟩ : Addr).add j) = some u := by
  intro j u hu
  have h := (MapKept.heap_alloc w (.cells #[a0, a1, a2, a3, a4, a5] 5 fz)).1
  rw [Addr.add_lit, Nat.zero_add]
  simp only [World.cell?, h]
  match j, hu with
  | 0, hu => exact hu
  | 1, hu => exact hu
  | 2, hu => exact hu
  | 3, hu => exact hu
  | 4, hu => exact hu
  | 5, hu => exact hu
  | (j + 6), hu => simp at hu
def STR7 : Array Value := #[.string ⟨#[97, 100, 100]⟩, .string ⟨#[116, 97, 107, 101]⟩, .string ⟨#[115, 101, 110, 100]⟩, .string ⟨#[115, 107, 105, 112]⟩, .string ⟨#[97, 115, 107]⟩, .string ⟨#[101, 109, 105, 116]⟩, .string ⟨#[100, 114, 97, 119]⟩]
theorem str_cell {w : World} {X n : Nat} (h : Bk w X 9 STR7) (hn : n < 7) : w.cell? ⟨X, n, none⟩ = some (.string ⟨(opWord (n : Int)).toArray⟩) := by
  have hc : n = 0 ∨ n = 1 ∨ n = 2 ∨ n = 3 ∨ n = 4 ∨ n = 5 ∨ n = 6 := by omega
  rcases hc with rfl | rfl | rfl | rfl | rfl | rfl | rfl <;> exact h.cell rfl
theorem opw_size (c : Int) : (⟨(opWord c).toArray⟩ : ByteArray).size ≤ 4 := by
  show (opWord c).toArray.size ≤ 4
  have := opWord_len c
  simpa using this
set_option maxRecDepth 100000 in
set_option maxHeartbeats 16000000 in
theorem sTextM (x : Value) (m : Md) (w : World) (hs : SmallM m) (h : IsM w x m) :
    Calls Tryd.prog 6 #[x] w fun e w' => ∃ y, e = .returned y ∧ OwnB w.heap.size w' y (textR m) ∧ Below w.heap.size w w' := by
  obtain ⟨i0, hi, hz0, hz1, hz2⟩ := info_parts info5
  have HX : Hid (IsM w x m) := h
  have HS : Hid (SmallM m) := hs
  obtain ⟨vi, vh, vs, rfl, ⟨ai, ci, rfl, _⟩, ⟨ah, ch, rfl, hh1, hh2, hh3⟩, ⟨ae, ce, rfl, he1, he2, he3⟩⟩ := h
  have HH : Hid (m.h = [] ∨ ∃ b off, ah = some ⟨b, off, none⟩ ∧ b < w.heap.size ∧ ∀ i, i < m.h.length → ∃ u, w.cell? ⟨b, off + i, none⟩ = some u ∧ IsO w u (hAt m.h i)) := hh3
  have HEV : Hid (m.e = [] ∨ ∃ b off, ae = some ⟨b, off, none⟩ ∧ EvsAt w b off m.e) := he3
  clear hh1 hh2 hh3 he1 he2 he3
  obtain ⟨W0, hW0⟩ : ∃ W0, w.alloc (.cells #[.int .i64 m.n, .int .i64 m.s, .slice ai m.i.length ci, .slice ah m.h.length ch, .slice ae m.e.length ce, .int .i64 m.z] 33) = W0 := ⟨_, rfl⟩
  have HP0 : Hid (Bk W0 w.heap.size 33 #[.int .i64 m.n, .int .i64 m.s, .slice ai m.i.length ci, .slice ah m.h.length ch, .slice ae m.e.length ce, .int .i64 m.z]) := hW0 ▸ Bk.new w _ _
  have HB0 : Hid (Below w.heap.size w W0) := hW0 ▸ (Below.refl _ w).alloc (Nat.le_refl _) _
  have p0 := HP0.out.cell (i := 0) rfl
  have p1 := HP0.out.cell (i := 1) rfl
  have p2 := HP0.out.cell (i := 2) rfl
  have p3 := HP0.out.cell (i := 3) rfl
  have p4 := HP0.out.cell (i := 4) rfl
  have p5 := HP0.out.cell (i := 5) rfl
  clear hs
  go_enter Tryd.func6, Tryd.ntmps6
  go_wp2_with fail
  clear hW0 p0 p1 p2 p3 p4 p5
  refine (sModM _ m _ HS.out (HX.out.below HB0.out)).mono ?_
  rintro e w1 ⟨rfl, hb⟩
  have HB1 : Hid (Below w.heap.size w w1) := HB0.out.trans (hb.mono HB0.out.size)
  have HPb : Hid (Bk w1 w.heap.size 33 #[.int .i64 m.n, .int .i64 m.s, .slice ai m.i.length ci, .slice ah m.h.length ch, .slice ae m.e.length ce, .int .i64 m.z]) := HP0.out.below hb
  clear hb HB0 HP0 HS HX
  cases hok : m.ok with
  | false =>
    have HT : Hid (textR m = []) := (by simp [textR, hok] : textR m = [])
    clear hok
    go_wp2
    go_ret
    exact ⟨_, rfl, by rw [HT.out]; exact OwnB.nil _ _, HB1.out⟩
  | true =>
    have HT : Hid (textR m = modText m) := (by simp [textR, hok] : textR m = modText m)
    obtain ⟨⟨hn0, hn1⟩, ⟨hs0, hs1⟩, ⟨hz0', hz1'⟩, hhl, hel⟩ := ok_nums hok
    have HOK : Hid (m.ok = true) := hok
    have hln := dec_len m.n (by omega)
    have hls := dec_len m.s (by omega)
    have hlz := dec_len m.z (by omega)
    clear hok
    have hMl : w.heap.size < w1.heap.size := HPb.out.lt
    obtain ⟨B, hBe⟩ : ∃ B, B = w1.heap.size := ⟨_, rfl⟩
    have hwB : w.heap.size < B := by omega
    have p0 := HPb.out.cell (i := 0) rfl
    have kc := conv28
    go_wp2_with fail
    refine (digits_int m.n hn0 (by omega) _).mono ?_
    rintro r w2 ⟨x1, c1, rfl, hc1, hb1⟩
    have hA := at_below (at_new6 w1 (.int .u8 112) (.int .u8 97) (.int .u8 114) (.int .u8 116) (.int .u8 115) (.int .u8 32) (6, 7)) hb1 (by simp)
    have hB1 : Below w1.heap.size w1 w2 := ((Below.refl w1.heap.size w1).alloc (Nat.le_refl _) _).trans (hb1.mono (by simp))
    clear kc p0
    have hne : 0 < (dec m.n).length := List.length_pos_iff.2 (decDigits_ne _)
    go_upto_region 4 with (at_builtin; refine wpList_append_grows _ rfl _ _ 28 rfl 5 i0 (.int .u8 0) 1 1 Tryd.underlying28 hi hz0 hz1 hz2 rfl (by decide) (some ⟨w1.heap.size, 0, none⟩) 6 6 [.int .u8 112, .int .u8 97, .int .u8 114, .int .u8 116, .int .u8 115, .int .u8 32] rfl (fun e => by cases e) rfl (fun b e => by cases e; exact hA) ⟨x1, 0, none⟩ (dec m.n).length c1 (Lib.byteCells (dec m.n)) rfl (by rw [Lib.byteCells_length]; omega) hc1 (byteCells_ones _) (by omega) (by unfold maxLen; omega) (by omega) ?_; intro y3 w3 hown3 hgrow3; have hB3 : Below w1.heap.size w1 w3 := hB1.grown hgrow3 hB1.size (fun k e => by cases e))
    obtain ⟨Y3, hY3⟩ : ∃ X, X = [112, 97, 114, 116, 115, 32] ++ dec m.n := ⟨_, rfl⟩
    have hlY3 : Y3.length = 6 + (dec m.n).length := by rw [hY3, List.length_append]; rfl
    have HT3 : Hid (TxS B w1 w3 y3 Y3) := by
      have h9 : w3.ownsRow w1.heap.size 5 1 y3 (6 + (dec m.n).length) ([.int .u8 112, .int .u8 97, .int .u8 114, .int .u8 116, .int .u8 115, .int .u8 32] ++ Lib.byteCells (dec m.n)) := row_mono hown3 hB1.size
      rw [← hlY3] at h9
      refine TxS.mk ?_ (hBe ▸ hB3) (by omega)
      show w3.ownsRow B 5 1 y3 Y3.length (Lib.byteCells Y3)
      rw [show Lib.byteCells Y3 = [.int .u8 112, .int .u8 97, .int .u8 114, .int .u8 116, .int .u8 115, .int .u8 32] ++ Lib.byteCells (dec m.n) from by rw [hY3]; rfl, hBe]
      exact h9
    have HPK : Hid (Bk w3 w.heap.size 33 #[.int .i64 m.n, .int .i64 m.s, .slice ai m.i.length ci, .slice ah m.h.length ch, .slice ae m.e.length ce, .int .i64 m.z]) := HPb.out.keep (hBe ▸ hB3) hwB
    clear hown3 hgrow3 hB1 hb1 hA hc1 hB3
    have HBE : Hid (B = w1.heap.size) := hBe
    clear hBe hMl
    have p5 := HPK.out.cell (i := 5) rfl
    go_wp2_with fail
    go_region_held3 (fun W => W.cell? ⟨w.heap.size, 5, none⟩ = some (.int .i64 m.z)) (first | assumption | exact Bk.cell (i := 5) (vs := #[.int .i64 m.n, .int .i64 m.s, .slice ai m.i.length ci, .slice ah m.h.length ch, .slice ae m.e.length ce, .int .i64 m.z]) (T := 33) (P := w.heap.size) (by (repeat (first | assumption | (with_reducible refine Hid.out (p := Bk _ _ _ _) ?_; assumption) | exact Bk.new _ _ _ | with_reducible refine Bk.drew ?_ | with_reducible refine Bk.alloc ?_ _ | refine Kp.bk (Hid.out (by assumption)) ?_ (by first | exact Or.inl (by decide) | (refine Or.inr ?_; simp; omega) | (refine Or.inr ?_; simp; done))))) rfl | (go_keep; done))
      (first
        | (go_at_call 24; refine (digits_tx (B := B) (w1 := w1) m.z hz0' (by omega) y4 (Y3 ++ [32, 101, 110, 100, 32]) _ (by (repeat (first | assumption | (with_reducible refine Hid.out (p := TxS _ _ _ _ _) ?_; assumption) | with_reducible refine TxS.drew ?_ | with_reducible refine TxS.alloc ?_ _)))).mono ?_; rintro r w5 ⟨X4b, c4b, rfl, HS4b, HT4b, HK4b⟩)
        | (refine tx_own (B := B) (w1 := w1) rfl (.tmp 18) (.tmp 21) rfl y4 (Y3 ++ [32, 101, 110, 100, 32]) rfl (by (repeat (first | assumption | (with_reducible refine Hid.out (p := TxS _ _ _ _ _) ?_; assumption) | with_reducible refine TxS.drew ?_ | with_reducible refine TxS.alloc ?_ _))) (dec m.z) X4b c4b rfl (by (repeat (first | assumption | with_reducible refine Src.alloc ?_ _))) (by (repeat rw [List.length_append]); (try simp only [List.length_cons, List.length_nil]); omega) ?_; intro y6 w6 ht4c hk4c; have HT4c : Hid (TxS B w1 w6 y6 ((Y3 ++ [32, 101, 110, 100, 32]) ++ (dec m.z))) := ht4c; have HK4c : Hid (Kp _ _ w6) := hk4c; clear ht4c hk4c)
        | (refine tx_text (B := B) (w1 := w1) rfl (.tmp 17) (.const (.string ⟨#[32, 101, 110, 100, 32]⟩)) rfl y3 Y3 rfl (by (repeat (first | assumption | (with_reducible refine Hid.out (p := TxS _ _ _ _ _) ?_; assumption) | with_reducible refine TxS.drew ?_ | with_reducible refine TxS.alloc ?_ _))) ⟨#[32, 101, 110, 100, 32]⟩ rfl (by show _ + 5 ≤ _; (try simp only [List.length_append, List.length_cons, List.length_nil]); omega) ?_; intro y4 w4 ht4a hk4a; have HT4a : Hid (TxS B w1 w4 y4 (Y3 ++ [32, 101, 110, 100, 32])) := ht4a; have HK4a : Hid (Kp _ _ w4) := hk4a; clear ht4a hk4a))
    have HPK6 : Hid (Bk w6 w.heap.size 33 #[.int .i64 m.n, .int .i64 m.s, .slice ai m.i.length ci, .slice ah m.h.length ch, .slice ae m.e.length ce, .int .i64 m.z]) := (by (repeat (first | assumption | (with_reducible refine Hid.out (p := Bk _ _ _ _) ?_; assumption) | exact Bk.new _ _ _ | with_reducible refine Bk.drew ?_ | with_reducible refine Bk.alloc ?_ _ | refine Kp.bk (Hid.out (by assumption)) ?_ (by first | exact Or.inl (by decide) | (refine Or.inr ?_; simp; omega) | (refine Or.inr ?_; simp; done)))) : Bk w6 w.heap.size 33 #[.int .i64 m.n, .int .i64 m.s, .slice ai m.i.length ci, .slice ah m.h.length ch, .slice ae m.e.length ce, .int .i64 m.z])
    clear p5 HPK HK4a HK4b HK4c HT4a HT4b HS4b HT3
    obtain ⟨Y6, hY6⟩ : ∃ X, X = ((Y3 ++ [32, 101, 110, 100, 32]) ++ (dec m.z)) := ⟨_, rfl⟩
    rw [← hY6] at HT4c
    have hlY6 : Y6.length ≤ 2000020 := by rw [hY6, List.length_append, List.length_append, hlY3]; simp only [List.length_cons, List.length_nil]; omega
    have hlY6' : 11 ≤ Y6.length := by rw [hY6, List.length_append, List.length_append, hlY3]; simp only [List.length_cons, List.length_nil]; omega
    have HY6 : Hid (Y6 = [112, 97, 114, 116, 115, 32] ++ dec m.n ++ [32, 101, 110, 100, 32] ++ dec m.z) := (by rw [hY6, hY3] : Y6 = [112, 97, 114, 116, 115, 32] ++ dec m.n ++ [32, 101, 110, 100, 32] ++ dec m.z)
    clear hY6 hlY3 hY3
    obtain ⟨Y10, hY10⟩ : ∃ X, X = (((Y6 ++ [32, 115, 101, 101, 100, 32]) ++ (dec m.s)) ++ [10]) := ⟨_, rfl⟩
    have hlY10 : Y10.length ≤ 3000040 := by rw [hY10]; simp only [List.length_append, List.length_cons, List.length_nil]; omega
    have hlY10' : 11 ≤ Y10.length := by rw [hY10]; simp only [List.length_append, List.length_cons, List.length_nil]; omega
    have HY10 : Hid (Y10 = headText m) := (by rw [hY10, HY6.out]; simp [headText] : Y10 = headText m)
    have p1 := HPK6.out.cell (i := 1) rfl
    have HCY : Hid ((((Y6 ++ [32, 115, 101, 101, 100, 32]) ++ (dec m.s)) ++ [10]) = Y10) := hY10.symm
    clear hY10 HY6
    go_upto_region 5 with (fail)
    go_cut [3] from 4 (fun s3 wc => TxS B w1 wc s3 Y10 ∧ Bk wc w.heap.size 33 #[.int .i64 m.n, .int .i64 m.s, .slice ai m.i.length ci, .slice ah m.h.length ch, .slice ae m.e.length ce, .int .i64 m.z])
    case first =>
      go_wp2_with fail
      go_region_held3 (fun W => W.cell? ⟨w.heap.size, 1, none⟩ = some (.int .i64 m.s)) (first | assumption | exact Bk.cell (i := 1) (vs := #[.int .i64 m.n, .int .i64 m.s, .slice ai m.i.length ci, .slice ah m.h.length ch, .slice ae m.e.length ce, .int .i64 m.z]) (T := 33) (P := w.heap.size) (by (repeat (first | assumption | (with_reducible refine Hid.out (p := Bk _ _ _ _) ?_; assumption) | exact Bk.new _ _ _ | with_reducible refine Bk.drew ?_ | with_reducible refine Bk.alloc ?_ _ | refine Kp.bk (Hid.out (by assumption)) ?_ (by first | exact Or.inl (by decide) | (refine Or.inr ?_; simp; omega) | (refine Or.inr ?_; simp; done))))) rfl | (go_keep; done))
        (first
          | (go_at_call 24; refine (digits_tx (B := B) (w1 := w1) m.s hs0 (by omega) y7 (Y6 ++ [32, 115, 101, 101, 100, 32]) _ (by (repeat (first | assumption | (with_reducible refine Hid.out (p := TxS _ _ _ _ _) ?_; assumption) | with_reducible refine TxS.drew ?_ | with_reducible refine TxS.alloc ?_ _)))).mono ?_; rintro r w8 ⟨X5b, c5b, rfl, HS5b, HT5b, HK5b⟩)
          | (refine tx_own (B := B) (w1 := w1) rfl (.tmp 28) (.tmp 29) rfl y9 ((Y6 ++ [32, 115, 101, 101, 100, 32]) ++ (dec m.s)) rfl (by (repeat (first | assumption | (with_reducible refine Hid.out (p := TxS _ _ _ _ _) ?_; assumption) | with_reducible refine TxS.drew ?_ | with_reducible refine TxS.alloc ?_ _))) [10] _ 1 rfl (Src.one rfl (by (repeat (first | assumption | (with_reducible refine Hid.out (p := Bk _ _ _ _) ?_; assumption) | exact Bk.new _ _ _ | with_reducible refine Bk.drew ?_ | with_reducible refine Bk.alloc ?_ _ | refine Kp.bk (Hid.out (by assumption)) ?_ (by first | exact Or.inl (by decide) | (refine Or.inr ?_; simp; omega) | (refine Or.inr ?_; simp; done)))))) (by (repeat rw [List.length_append]); (try simp only [List.length_cons, List.length_nil]); omega) ?_; intro y10 w10 ht5d hk5d; have HT5d : Hid (TxS B w1 w10 y10 (((Y6 ++ [32, 115, 101, 101, 100, 32]) ++ (dec m.s)) ++ [10])) := ht5d; have HK5d : Hid (Kp _ _ w10) := hk5d; clear ht5d hk5d)
          | (refine tx_own (B := B) (w1 := w1) rfl (.tmp 24) (.tmp 27) rfl y7 (Y6 ++ [32, 115, 101, 101, 100, 32]) rfl (by (repeat (first | assumption | (with_reducible refine Hid.out (p := TxS _ _ _ _ _) ?_; assumption) | with_reducible refine TxS.drew ?_ | with_reducible refine TxS.alloc ?_ _))) (dec m.s) X5b c5b rfl (by (repeat (first | assumption | with_reducible refine Src.alloc ?_ _))) (by (repeat rw [List.length_append]); (try simp only [List.length_cons, List.length_nil]); omega) ?_; intro y9 w9 ht5c hk5c; have HT5c : Hid (TxS B w1 w9 y9 ((Y6 ++ [32, 115, 101, 101, 100, 32]) ++ (dec m.s))) := ht5c; have HK5c : Hid (Kp _ _ w9) := hk5c; clear ht5c hk5c)
          | (refine tx_text (B := B) (w1 := w1) rfl (.tmp 23) (.const (.string ⟨#[32, 115, 101, 101, 100, 32]⟩)) rfl y6 Y6 rfl (by (repeat (first | assumption | (with_reducible refine Hid.out (p := TxS _ _ _ _ _) ?_; assumption) | with_reducible refine TxS.drew ?_ | with_reducible refine TxS.alloc ?_ _))) ⟨#[32, 115, 101, 101, 100, 32]⟩ rfl (by show _ + 6 ≤ _; (try simp only [List.length_append, List.length_cons, List.length_nil]); omega) ?_; intro y7 w7 ht5a hk5a; have HT5a : Hid (TxS B w1 w7 y7 (Y6 ++ [32, 115, 101, 101, 100, 32])) := ht5a; have HK5a : Hid (Kp _ _ w7) := hk5a; clear ht5a hk5a))
      all_goals
        have HPK10 : Hid (Bk w10 w.heap.size 33 #[.int .i64 m.n, .int .i64 m.s, .slice ai m.i.length ci, .slice ah m.h.length ch, .slice ae m.e.length ce, .int .i64 m.z]) := (by (repeat (first | assumption | (with_reducible refine Hid.out (p := Bk _ _ _ _) ?_; assumption) | exact Bk.new _ _ _ | with_reducible refine Bk.drew ?_ | with_reducible refine Bk.alloc ?_ _ | refine Kp.bk (Hid.out (by assumption)) ?_ (by first | exact Or.inl (by decide) | (refine Or.inr ?_; simp; omega) | (refine Or.inr ?_; simp; done)))) : Bk w10 w.heap.size 33 #[.int .i64 m.n, .int .i64 m.s, .slice ai m.i.length ci, .slice ah m.h.length ch, .slice ae m.e.length ce, .int .i64 m.z])
        try go_wp2_with fail
        go_meet
        case rel => exact ⟨HCY.out ▸ HT5d.out, HPK10.out⟩
    case rest =>
      obtain ⟨hT9, hP9⟩ := hcut
      have HT0 : Hid (TxS B w1 wc u3 Y10) := hT9
      have HP0 : Hid (Bk wc w.heap.size 33 #[.int .i64 m.n, .int .i64 m.s, .slice ai m.i.length ci, .slice ah m.h.length ch, .slice ae m.e.length ce, .int .i64 m.z]) := hP9
      clear hT9 hP9 HPK6 p1 HCY HT4c hlY6 hlY6'
      have q3 := HP0.out.cell (i := 3) rfl
      go_wp2
      clear q3
      go_loopw [4, 3] (fun i s wr => ∃ (k : Nat) (v : Value) (Y : List UInt8), k ≤ m.h.length ∧ v = s ∧ i = .int .i64 k ∧ Hid (Y = Y10 ++ kindsText m.h k) ∧ (11 ≤ Y.length ∧ Y.length ≤ 3000040 + k * 40000000) ∧ Hid (TxS B w1 wr s Y) ∧ Hid (Bk wr w.heap.size 33 #[.int .i64 m.n, .int .i64 m.s, .slice ai m.i.length ci, .slice ah m.h.length ch, .slice ae m.e.length ce, .int .i64 m.z])) (fun i _ _ => m.h.length - (intOf i).toNat)
      case atStart => exact ⟨0, _, Y10, Nat.zero_le _, rfl, rfl, (by simp [kindsText] : Y10 = Y10 ++ kindsText m.h 0), ⟨by omega, by omega⟩, HT0.out, HP0.out⟩
      case round =>
        clear HT0 HP0
        obtain ⟨k, o, Y, hk, rfl, rfl, HY, ⟨hl0, hl1⟩, HTr, HPr⟩ := hrel
        have HBr : Hid (Below w.heap.size w wr) := HB1.out.trans (HTr.out.below.mono (by omega))
        have q3 := HPr.out.cell (i := 3) rfl
        by_cases hlt : k < m.h.length
        case pos =>
          have hkd : decide ((k : Int) < (m.h.length : Int)) = true := by simpa using hlt
          obtain ⟨b, off, rfl, hb, hc⟩ := HH.out.resolve_left (by intro e; rw [e] at hlt; simp at hlt)
          obtain ⟨u, f0, hu⟩ := hc k hlt
          have HF : Hid (w.cell? ⟨b, off + k, none⟩ = some u) := f0
          obtain ⟨a1, c1', rfl, _, _, hu⟩ := hu
          have HU : Hid (hAt m.h k = [] ∨ ∃ b off, a1 = some ⟨b, off, none⟩ ∧ OsAt w b off (hAt m.h k)) := hu
          clear hc hu f0
          have hdk := dec_len (k : Int) (by omega)
          have hr8 := ok_row8 HOK.out hlt
          go_wp2_with (at_builtin; refine txl_text (B := B) (w1 := w1) rfl _ _ rfl o Y rfl (by (repeat (first | assumption | (with_reducible refine Hid.out (p := TxS _ _ _ _ _) ?_; assumption) | with_reducible refine TxS.drew ?_ | with_reducible refine TxS.alloc ?_ _))) ⟨#[107, 105, 110, 100, 32]⟩ rfl (by show _ + 5 ≤ _; (try simp only [List.length_append, List.length_cons, List.length_nil]); omega) ?_; intro y11 w11 ht9a hk9a; have HT9a : Hid (TxS B w1 w11 y11 (Y ++ [107, 105, 110, 100, 32])) := ht9a; have HK9a : Hid (Kp _ _ w11) := hk9a; clear ht9a hk9a)
          refine (digits_tx (B := B) (w1 := w1) (k : Int) (by omega) (by omega) y11 (Y ++ [107, 105, 110, 100, 32]) _ (by (repeat (first | assumption | (with_reducible refine Hid.out (p := TxS _ _ _ _ _) ?_; assumption) | with_reducible refine TxS.drew ?_ | with_reducible refine TxS.alloc ?_ _)))).mono ?_; rintro r w12 ⟨X9b, c9b, rfl, HS9b, HT9b, HK9b⟩
          have HPX : Hid (Bk w12 w.heap.size 33 #[.int .i64 m.n, .int .i64 m.s, .slice ai m.i.length ci, .slice (some ⟨b, off, none⟩) m.h.length ch, .slice ae m.e.length ce, .int .i64 m.z]) := (by (repeat (first | assumption | (with_reducible refine Hid.out (p := Bk _ _ _ _) ?_; assumption) | exact Bk.new _ _ _ | with_reducible refine Bk.drew ?_ | with_reducible refine Bk.alloc ?_ _ | refine Kp.bk (Hid.out (by assumption)) ?_ (by first | exact Or.inl (by decide) | (refine Or.inr ?_; simp; omega) | (refine Or.inr ?_; simp; done)))) : Bk w12 w.heap.size 33 #[.int .i64 m.n, .int .i64 m.s, .slice ai m.i.length ci, .slice (some ⟨b, off, none⟩) m.h.length ch, .slice ae m.e.length ce, .int .i64 m.z])
          go_wp2_with (at_builtin; refine txl_own (B := B) (w1 := w1) rfl _ _ rfl y11 (Y ++ [107, 105, 110, 100, 32]) rfl (by (repeat (first | assumption | (with_reducible refine Hid.out (p := TxS _ _ _ _ _) ?_; assumption) | with_reducible refine TxS.drew ?_ | with_reducible refine TxS.alloc ?_ _))) (dec (k : Int)) X9b c9b rfl (by (repeat (first | assumption | with_reducible refine Src.alloc ?_ _))) (by (repeat rw [List.length_append]); (try simp only [List.length_cons, List.length_nil]); omega) ?_; intro y13 w13 ht9c hk9c; have HT9c : Hid (TxS B w1 w13 y13 ((Y ++ [107, 105, 110, 100, 32]) ++ (dec (k : Int)))) := ht9c; have HK9c : Hid (Kp _ _ w13) := hk9c; clear ht9c hk9c)
          have HP13 : Hid (Bk w13 w.heap.size 33 #[.int .i64 m.n, .int .i64 m.s, .slice ai m.i.length ci, .slice (some ⟨b, off, none⟩) m.h.length ch, .slice ae m.e.length ce, .int .i64 m.z]) := (by (repeat (first | assumption | (with_reducible refine Hid.out (p := Bk _ _ _ _) ?_; assumption) | exact Bk.new _ _ _ | with_reducible refine Bk.drew ?_ | with_reducible refine Bk.alloc ?_ _ | refine Kp.bk (Hid.out (by assumption)) ?_ (by first | exact Or.inl (by decide) | (refine Or.inr ?_; simp; omega) | (refine Or.inr ?_; simp; done)))) : Bk w13 w.heap.size 33 #[.int .i64 m.n, .int .i64 m.s, .slice ai m.i.length ci, .slice (some ⟨b, off, none⟩) m.h.length ch, .slice ae m.e.length ce, .int .i64 m.z])
          clear HPX HK9a HK9b HK9c HT9a HT9b HS9b HTr HPr q3
          obtain ⟨Y13, hY13⟩ : ∃ X, X = ((Y ++ [107, 105, 110, 100, 32]) ++ (dec (k : Int))) := ⟨_, rfl⟩
          rw [← hY13] at HT9c
          have hl13 : 11 ≤ Y13.length ∧ Y13.length ≤ Y.length + 1000006 := by rw [hY13]; simp only [List.length_append, List.length_cons, List.length_nil]; omega
          have HY13 : Hid (Y13 = ((Y ++ [107, 105, 110, 100, 32]) ++ (dec (k : Int)))) := hY13
          clear hY13 HBr
          go_loopw [5, 3] (fun i s wr => ∃ (q : Nat) (v : Value) (Z : List UInt8), q ≤ (hAt m.h k).length ∧ v = s ∧ i = .int .i64 q ∧ Hid (Z = Y13 ++ opsText ((hAt m.h k).take q)) ∧ (11 ≤ Z.length ∧ Z.length ≤ Y13.length + q * 4000000) ∧ Hid (TxS B w1 wr s Z) ∧ Hid (Bk wr w.heap.size 33 #[.int .i64 m.n, .int .i64 m.s, .slice ai m.i.length ci, .slice (some ⟨b, off, none⟩) m.h.length ch, .slice ae m.e.length ce, .int .i64 m.z])) (fun i _ _ => (hAt m.h k).length - (intOf i).toNat)
          case atStart => exact ⟨0, _, Y13, Nat.zero_le _, rfl, rfl, (by simp [opsText] : Y13 = Y13 ++ opsText ((hAt m.h k).take 0)), ⟨by omega, by omega⟩, HT9c.out, HP13.out⟩
          case round =>
            clear HT9c HP13
            obtain ⟨q, o2, Z, hq, rfl, rfl, HZ, ⟨hz10, hz11⟩, HTq, HPq⟩ := hrel
            have HBq : Hid (Below w.heap.size w wr) := HB1.out.trans (HTq.out.below.mono (by omega))
            have q3 := HPq.out.cell (i := 3) rfl
            have f0 := (HBq.out.cell (p := ⟨b, off + k, none⟩) hb).trans HF.out
            by_cases hlt2 : q < (hAt m.h k).length
            case pos =>
              have hqd : decide ((q : Int) < ((hAt m.h k).length : Int)) = true := by simpa using hlt2
              obtain ⟨b1, off1, rfl, hb1, hc1⟩ := HU.out.resolve_left (by intro e; rw [e] at hlt2; simp at hlt2)
              obtain ⟨g0, g1, g2, g3⟩ := (hc1 q hlt2).below HBq.out hb1
              obtain ⟨⟨hc0, hc6⟩, ⟨ha0, ha1⟩, ⟨hb0, hb9⟩, ⟨hk0, hk1⟩⟩ := ok_op9 HOK.out hlt hlt2
              have HNX : Hid (opsText ((hAt m.h k).take (q + 1)) = opsText ((hAt m.h k).take q) ++ opText (oAt (hAt m.h k) q)) := ops_snoc hlt2
              generalize oAt (hAt m.h k) q = e at g0 g1 g2 g3 HNX hc0 hc6 ha0 ha1 hb0 hb9 hk0 hk1
              obtain ⟨c, a, b2, k2⟩ := e
              simp only at hc0 hc6 ha0 ha1 hb0 hb9 hk0 hk1
              clear hc1
              obtain ⟨QB, hQB⟩ : ∃ QB, QB = wr.heap.size := ⟨_, rfl⟩
              obtain ⟨V, hV⟩ : ∃ V, wr.alloc (.cells #[.int .i64 c, .int .i64 a, .int .i64 b2, .int .i64 k2] 59) = V := ⟨_, rfl⟩
              have HTV : Hid (TxS B w1 V o2 Z) := hV ▸ HTq.out.alloc _
              have HPV : Hid (Bk V w.heap.size 33 #[.int .i64 m.n, .int .i64 m.s, .slice ai m.i.length ci, .slice (some ⟨b, off, none⟩) m.h.length ch, .slice ae m.e.length ce, .int .i64 m.z]) := hV ▸ HPq.out.alloc _
              have HQV : Hid (Bk V QB 59 #[.int .i64 c, .int .i64 a, .int .i64 b2, .int .i64 k2]) := hV ▸ Bk.newAt hQB _ _
              have e0 : V.cell? ⟨QB, 0, none⟩ = some (.int .i64 c) := HQV.out.cell rfl
              have hQB' := hQB.symm
              clear hQB
              go_upto_region 14 with (fail)
              clear g0 g1 g2 g3 hV q3 f0 HTq HPq HBq
              have hlw := opWord_len c
              go_cut [3] from 43 to 90 (fun s3 wc => TxS B w1 wc s3 (Z ++ [32] ++ opWord c) ∧ Bk wc w.heap.size 33 #[.int .i64 m.n, .int .i64 m.s, .slice ai m.i.length ci, .slice (some ⟨b, off, none⟩) m.h.length ch, .slice ae m.e.length ce, .int .i64 m.z] ∧ Bk wc QB 59 #[.int .i64 c, .int .i64 a, .int .i64 b2, .int .i64 k2])
              case first =>
                go_wp2_with fail
                obtain ⟨n, rfl⟩ : ∃ n : Nat, c = (n : Int) := ⟨c.toNat, by omega⟩
                have hn : n < 7 := by omega
                clear HNX hlw e0
                have HT : Hid (TxS B w1 V.drew o2 Z) := HTV.out.drew
                have HP : Hid (Bk V.drew w.heap.size 33 #[.int .i64 m.n, .int .i64 m.s, .slice ai m.i.length ci, .slice (some ⟨b, off, none⟩) m.h.length ch, .slice ae m.e.length ce, .int .i64 m.z]) := HPV.out.drew
                have HQ : Hid (Bk V.drew QB 59 #[.int .i64 (n : Int), .int .i64 a, .int .i64 b2, .int .i64 k2]) := HQV.out.drew
                clear HTV HPV HQV
                refine wp_region_held_drew (S := fun W => W.cell? ⟨QB, 0, none⟩ = some (.int .i64 (n : Int))) (by kernel_rfl) (HQ.out.cell (i := 0) rfl) (fun hHeld => ?_)
                obtain ⟨wd, hwd⟩ : ∃ wd, V.drew = wd := ⟨_, rfl⟩
                rw [hwd] at hHeld HT HP HQ
                rw [hwd]
                clear hwd
                refine wpAnyH_take (i := 0) (oi := { dst := some 61, op := Op.move (Operand.tmp 3), type := 28, pos := _, after := _, guard := none }) (v := o2) rfl (by kernel_rfl) (by kernel_rfl) (by kernel_rfl) (fun _ _ _ h => h) (Or.inl ⟨by rfl, ?_⟩) (by assumption) ?_
                · intro wX hSw
                  try dsimp only at hSw
                  go_simp
                  try exact IntWalk.i64_in _ (by omega)
                try simp only [Act.put, List.setIfInBounds_toArray, List.set_cons_zero, List.set_cons_succ]
                refine wpAnyH_take (i := 4) (oi := { dst := some 65, op := Op.fieldAddr 59 (Operand.tmp 6) 0, type := 0, pos := _, after := _, guard := none }) (v := .pointer (some ⟨QB, 0, none⟩)) rfl (by kernel_rfl) (by kernel_rfl) (by kernel_rfl) (fun _ _ _ h => h) (Or.inl ⟨by rfl, ?_⟩) (by assumption) ?_
                · intro wX hSw
                  try dsimp only at hSw
                  go_simp
                  try exact IntWalk.i64_in _ (by omega)
                try simp only [Act.put, List.setIfInBounds_toArray, List.set_cons_zero, List.set_cons_succ]
                refine wpAnyH_take (i := 5) (oi := { dst := some 66, op := Op.load 3 (Operand.tmp 65), type := 3, pos := _, after := _, guard := none }) (v := .int .i64 (n : Int)) rfl (by kernel_rfl) (by kernel_rfl) (by kernel_rfl) (fun _ _ _ h => h) (Or.inl ⟨by rfl, ?_⟩) (by assumption) ?_
                · intro wX hSw
                  try dsimp only at hSw
                  go_simp
                  try exact IntWalk.i64_in _ (by omega)
                try simp only [Act.put, List.setIfInBounds_toArray, List.set_cons_zero, List.set_cons_succ]
                refine wpAnyH_ready (rs := [1, 3]) (by kernel_rfl) (by simp) ?_
                refine AllReadyH.cons (o := { dst := some 62, op := Op.buildSlice 28 1 #[(0, Operand.const (Value.int IntKind.u8 32))], type := 28, pos := _, after := _, guard := none }) rfl (fun K hK => ?g2) (AllReadyH.cons (o := { dst := some 64, op := Op.buildSlice 60 7 #[(0, Operand.const (Value.string { data := #[97, 100, 100] })), (1, Operand.const (Value.string { data := #[116, 97, 107, 101] })), (2, Operand.const (Value.string { data := #[115, 101, 110, 100] })), (3, Operand.const (Value.string { data := #[115, 107, 105, 112] })), (4, Operand.const (Value.string { data := #[97, 115, 107] })), (5, Operand.const (Value.string { data := #[101, 109, 105, 116] })), (6, Operand.const (Value.string { data := #[100, 114, 97, 119] }))], type := 60, pos := _, after := _, guard := none }) rfl (fun K hK => ?g1) AllReadyH.nil)
                case' g2 =>
                  obtain ⟨X1, hX1⟩ : ∃ X, X = wd.heap.size := ⟨_, rfl⟩
                  obtain ⟨v3, hV⟩ : ∃ V, wd.alloc (.cells #[.int .u8 32] 5) = V := ⟨_, rfl⟩
                  have HT' : Hid (TxS B w1 v3 o2 Z) := hV ▸ HT.out.alloc _
                  have HP' : Hid (Bk v3 w.heap.size 33 #[.int .i64 m.n, .int .i64 m.s, .slice ai m.i.length ci, .slice (some ⟨b, off, none⟩) m.h.length ch, .slice ae m.e.length ce, .int .i64 m.z]) := hV ▸ HP.out.alloc _
                  have HQ' : Hid (Bk v3 QB 59 #[.int .i64 (n : Int), .int .i64 a, .int .i64 b2, .int .i64 k2]) := hV ▸ HQ.out.alloc _
                  clear HT HP HQ
                  have HT := HT'
                  have HP := HP'
                  have HQ := HQ'
                  clear HT' HP' HQ'
                  have HO : Hid (Bk v3 X1 5 #[.int .u8 32]) := hV ▸ Bk.newAt hX1 _ _
                  have HX : Hid (X1 = wd.heap.size) := hX1
                  have HV : Hid (wd.alloc (.cells #[.int .u8 32] 5) = v3) := hV
                  clear hV hX1
                  go_simp
                  rw [HV.out, ← HX.out]
                  clear HV HX
                  refine hK.out _ _ (HQ.out.cell (i := 0) rfl) (fun hHeld => ?_)
                  clear hK K
                  try simp only [Act.put, List.setIfInBounds_toArray, List.set_cons_zero, List.set_cons_succ]
                  refine wpAnyH_ready (rs := [2, 3]) (by kernel_rfl) (by simp) ?_
                  refine AllReadyH.cons (o := { dst := some 63, op := Op.call { callee := Callee.builtin Builtin.append, args := #[Operand.tmp 61, Operand.tmp 62], argTypes := #[28, 28] }, type := 28, pos := _, after := _, guard := none }) rfl (fun K hK => ?g5) (AllReadyH.cons (o := { dst := some 64, op := Op.buildSlice 60 7 #[(0, Operand.const (Value.string { data := #[97, 100, 100] })), (1, Operand.const (Value.string { data := #[116, 97, 107, 101] })), (2, Operand.const (Value.string { data := #[115, 101, 110, 100] })), (3, Operand.const (Value.string { data := #[115, 107, 105, 112] })), (4, Operand.const (Value.string { data := #[97, 115, 107] })), (5, Operand.const (Value.string { data := #[101, 109, 105, 116] })), (6, Operand.const (Value.string { data := #[100, 114, 97, 119] }))], type := 60, pos := _, after := _, guard := none }) rfl (fun K hK => ?g4) AllReadyH.nil)
                  case' g5 =>
                    refine tx_own (B := B) (w1 := w1) rfl (.tmp 61) (.tmp 62) rfl o2 Z rfl HT.out [32] X1 1 rfl (Src.one rfl HO.out) (by (repeat rw [List.length_append]); (try simp only [List.length_cons, List.length_nil]); omega) ?_
                    intro yz v6 ht hk
                    have HT' : Hid (TxS B w1 v6 yz (Z ++ [32])) := ht
                    have HP' : Hid (Bk v6 w.heap.size 33 #[.int .i64 m.n, .int .i64 m.s, .slice ai m.i.length ci, .slice (some ⟨b, off, none⟩) m.h.length ch, .slice ae m.e.length ce, .int .i64 m.z]) := hk.bk HP.out (Or.inl (by decide))
                    have HQ' : Hid (Bk v6 QB 59 #[.int .i64 (n : Int), .int .i64 a, .int .i64 b2, .int .i64 k2]) := hk.bk HQ.out (Or.inl (by decide))
                    clear HT HP HQ
                    have HT := HT'
                    have HP := HP'
                    have HQ := HQ'
                    clear HT' HP' HQ'
                    clear ht hk HO
                    refine hK.out _ _ (HQ.out.cell (i := 0) rfl) (fun hHeld => ?_)
                    clear hK K
                    try simp only [Act.put, List.setIfInBounds_toArray, List.set_cons_zero, List.set_cons_succ]
                    refine wpAnyH_ready (rs := [3]) (by kernel_rfl) (by simp) ?_
                    refine AllReadyH.cons (o := { dst := some 64, op := Op.buildSlice 60 7 #[(0, Operand.const (Value.string { data := #[97, 100, 100] })), (1, Operand.const (Value.string { data := #[116, 97, 107, 101] })), (2, Operand.const (Value.string { data := #[115, 101, 110, 100] })), (3, Operand.const (Value.string { data := #[115, 107, 105, 112] })), (4, Operand.const (Value.string { data := #[97, 115, 107] })), (5, Operand.const (Value.string { data := #[101, 109, 105, 116] })), (6, Operand.const (Value.string { data := #[100, 114, 97, 119] }))], type := 60, pos := _, after := _, guard := none }) rfl (fun K hK => ?g7) AllReadyH.nil
                    case' g7 =>
                      obtain ⟨X3, hX3⟩ : ∃ X, X = v6.heap.size := ⟨_, rfl⟩
                      obtain ⟨v8, hV⟩ : ∃ V, v6.alloc (.cells STR7 9) = V := ⟨_, rfl⟩
                      have HT' : Hid (TxS B w1 v8 yz (Z ++ [32])) := hV ▸ HT.out.alloc _
                      have HP' : Hid (Bk v8 w.heap.size 33 #[.int .i64 m.n, .int .i64 m.s, .slice ai m.i.length ci, .slice (some ⟨b, off, none⟩) m.h.length ch, .slice ae m.e.length ce, .int .i64 m.z]) := hV ▸ HP.out.alloc _
                      have HQ' : Hid (Bk v8 QB 59 #[.int .i64 (n : Int), .int .i64 a, .int .i64 b2, .int .i64 k2]) := hV ▸ HQ.out.alloc _
                      clear HT HP HQ
                      have HT := HT'
                      have HP := HP'
                      have HQ := HQ'
                      clear HT' HP' HQ'
                      have HS : Hid (Bk v8 X3 9 STR7) := hV ▸ Bk.newAt hX3 _ _
                      have HX : Hid (X3 = v6.heap.size) := hX3
                      have HV : Hid (v6.alloc (.cells STR7 9) = v8) := hV
                      clear hV hX3
                      go_simp
                      rw [show (Obj.cells #[.string ⟨#[97, 100, 100]⟩, .string ⟨#[116, 97, 107, 101]⟩, .string ⟨#[115, 101, 110, 100]⟩, .string ⟨#[115, 107, 105, 112]⟩, .string ⟨#[97, 115, 107]⟩, .string ⟨#[101, 109, 105, 116]⟩, .string ⟨#[100, 114, 97, 119]⟩] 9 : Obj) = .cells STR7 9 from rfl]
                      rw [HV.out, ← HX.out]
                      clear HV HX
                      refine hK.out _ _ (HQ.out.cell (i := 0) rfl) (fun hHeld => ?_)
                      clear hK K
                      try simp only [Act.put, List.setIfInBounds_toArray, List.set_cons_zero, List.set_cons_succ]
                      refine wpAnyH_take (i := 6) (oi := { dst := some 67, op := Op.indexAddr 60 (Operand.tmp 64) (Operand.tmp 66), type := 0, pos := _, after := _, guard := none }) (v := .pointer (some ⟨X3, n, none⟩)) rfl (by kernel_rfl) (by kernel_rfl) (by kernel_rfl) (fun _ _ _ h => h) (Or.inl ⟨by rfl, ?_⟩) (by assumption) ?_
                      · intro wX hSw
                        try dsimp only at hSw
                        go_simp
                        try exact IntWalk.i64_in _ (by omega)
                        try (intro h9; exfalso; omega)
                      try simp only [Act.put, List.setIfInBounds_toArray, List.set_cons_zero, List.set_cons_succ]
                      refine wpAnyH_ready (rs := [7]) (by kernel_rfl) (by simp) ?_
                      refine AllReadyH.cons (o := { dst := some 68, op := Op.load 9 (Operand.tmp 67), type := 9, pos := _, after := _, guard := none }) rfl (fun K hK => ?g9) AllReadyH.nil
                      case' g9 =>
                        have f7 := str_cell HS.out hn
                        go_simp
                        clear f7 HS
                        obtain ⟨vz, hvz⟩ : ∃ V, V = v8 := ⟨_, rfl⟩
                        rw [← hvz] at HT HP HQ
                        rw [← hvz]
                        clear hvz
                        refine hK.out _ _ (HQ.out.cell (i := 0) rfl) (fun hHeld => ?_)
                        clear hK K
                        try simp only [Act.put, List.setIfInBounds_toArray, List.set_cons_zero, List.set_cons_succ]
                  case' g4 =>
                    obtain ⟨X3, hX3⟩ : ∃ X, X = v3.heap.size := ⟨_, rfl⟩
                    obtain ⟨v11, hV⟩ : ∃ V, v3.alloc (.cells STR7 9) = V := ⟨_, rfl⟩
                    have HT' : Hid (TxS B w1 v11 o2 Z) := hV ▸ HT.out.alloc _
                    have HP' : Hid (Bk v11 w.heap.size 33 #[.int .i64 m.n, .int .i64 m.s, .slice ai m.i.length ci, .slice (some ⟨b, off, none⟩) m.h.length ch, .slice ae m.e.length ce, .int .i64 m.z]) := hV ▸ HP.out.alloc _
                    have HQ' : Hid (Bk v11 QB 59 #[.int .i64 (n : Int), .int .i64 a, .int .i64 b2, .int .i64 k2]) := hV ▸ HQ.out.alloc _
                    have HO' : Hid (Bk v11 X1 5 #[.int .u8 32]) := hV ▸ HO.out.alloc _
                    clear HT HP HQ HO
                    have HT := HT'
                    have HP := HP'
                    have HQ := HQ'
                    have HO := HO'
                    clear HT' HP' HQ' HO'
                    have HS : Hid (Bk v11 X3 9 STR7) := hV ▸ Bk.newAt hX3 _ _
                    have HX : Hid (X3 = v3.heap.size) := hX3
                    have HV : Hid (v3.alloc (.cells STR7 9) = v11) := hV
                    clear hV hX3
                    go_simp
                    rw [show (Obj.cells #[.string ⟨#[97, 100, 100]⟩, .string ⟨#[116, 97, 107, 101]⟩, .string ⟨#[115, 101, 110, 100]⟩, .string ⟨#[115, 107, 105, 112]⟩, .string ⟨#[97, 115, 107]⟩, .string ⟨#[101, 109, 105, 116]⟩, .string ⟨#[100, 114, 97, 119]⟩] 9 : Obj) = .cells STR7 9 from rfl]
                    rw [HV.out, ← HX.out]
                    clear HV HX
                    refine hK.out _ _ (HQ.out.cell (i := 0) rfl) (fun hHeld => ?_)
                    clear hK K
                    try simp only [Act.put, List.setIfInBounds_toArray, List.set_cons_zero, List.set_cons_succ]
                    refine wpAnyH_take (i := 6) (oi := { dst := some 67, op := Op.indexAddr 60 (Operand.tmp 64) (Operand.tmp 66), type := 0, pos := _, after := _, guard := none }) (v := .pointer (some ⟨X3, n, none⟩)) rfl (by kernel_rfl) (by kernel_rfl) (by kernel_rfl) (fun _ _ _ h => h) (Or.inl ⟨by rfl, ?_⟩) (by assumption) ?_
                    · intro wX hSw
                      try dsimp only at hSw
                      go_simp
                      try exact IntWalk.i64_in _ (by omega)
                      try (intro h9; exfalso; omega)
                    try simp only [Act.put, List.setIfInBounds_toArray, List.set_cons_zero, List.set_cons_succ]
                    refine wpAnyH_ready (rs := [2, 7]) (by kernel_rfl) (by simp) ?_
                    refine AllReadyH.cons (o := { dst := some 63, op := Op.call { callee := Callee.builtin Builtin.append, args := #[Operand.tmp 61, Operand.tmp 62], argTypes := #[28, 28] }, type := 28, pos := _, after := _, guard := none }) rfl (fun K hK => ?g13) (AllReadyH.cons (o := { dst := some 68, op := Op.load 9 (Operand.tmp 67), type := 9, pos := _, after := _, guard := none }) rfl (fun K hK => ?g12) AllReadyH.nil)
                    case' g13 =>
                      refine tx_own (B := B) (w1 := w1) rfl (.tmp 61) (.tmp 62) rfl o2 Z rfl HT.out [32] X1 1 rfl (Src.one rfl HO.out) (by (repeat rw [List.length_append]); (try simp only [List.length_cons, List.length_nil]); omega) ?_
                      intro yz v14 ht hk
                      have HT' : Hid (TxS B w1 v14 yz (Z ++ [32])) := ht
                      have HP' : Hid (Bk v14 w.heap.size 33 #[.int .i64 m.n, .int .i64 m.s, .slice ai m.i.length ci, .slice (some ⟨b, off, none⟩) m.h.length ch, .slice ae m.e.length ce, .int .i64 m.z]) := hk.bk HP.out (Or.inl (by decide))
                      have HQ' : Hid (Bk v14 QB 59 #[.int .i64 (n : Int), .int .i64 a, .int .i64 b2, .int .i64 k2]) := hk.bk HQ.out (Or.inl (by decide))
                      have HS' : Hid (Bk v14 X3 9 STR7) := hk.bk HS.out (Or.inl (by decide))
                      clear HT HP HQ HS
                      have HT := HT'
                      have HP := HP'
                      have HQ := HQ'
                      have HS := HS'
                      clear HT' HP' HQ' HS'
                      clear ht hk HO
                      refine hK.out _ _ (HQ.out.cell (i := 0) rfl) (fun hHeld => ?_)
                      clear hK K
                      try simp only [Act.put, List.setIfInBounds_toArray, List.set_cons_zero, List.set_cons_succ]
                      refine wpAnyH_ready (rs := [7]) (by kernel_rfl) (by simp) ?_
                      refine AllReadyH.cons (o := { dst := some 68, op := Op.load 9 (Operand.tmp 67), type := 9, pos := _, after := _, guard := none }) rfl (fun K hK => ?g15) AllReadyH.nil
                      case' g15 =>
                        have f7 := str_cell HS.out hn
                        go_simp
                        clear f7 HS
                        obtain ⟨vz, hvz⟩ : ∃ V, V = v14 := ⟨_, rfl⟩
                        rw [← hvz] at HT HP HQ
                        rw [← hvz]
                        clear hvz
                        refine hK.out _ _ (HQ.out.cell (i := 0) rfl) (fun hHeld => ?_)
                        clear hK K
                        try simp only [Act.put, List.setIfInBounds_toArray, List.set_cons_zero, List.set_cons_succ]
                    case' g12 =>
                      have f7 := str_cell HS.out hn
                      go_simp
                      clear f7 HS
                      refine hK.out _ _ (HQ.out.cell (i := 0) rfl) (fun hHeld => ?_)
                      clear hK K
                      try simp only [Act.put, List.setIfInBounds_toArray, List.set_cons_zero, List.set_cons_succ]
                      refine wpAnyH_ready (rs := [2]) (by kernel_rfl) (by simp) ?_
                      refine AllReadyH.cons (o := { dst := some 63, op := Op.call { callee := Callee.builtin Builtin.append, args := #[Operand.tmp 61, Operand.tmp 62], argTypes := #[28, 28] }, type := 28, pos := _, after := _, guard := none }) rfl (fun K hK => ?g18) AllReadyH.nil
                      case' g18 =>
                        refine tx_own (B := B) (w1 := w1) rfl (.tmp 61) (.tmp 62) rfl o2 Z rfl HT.out [32] X1 1 rfl (Src.one rfl HO.out) (by (repeat rw [List.length_append]); (try simp only [List.length_cons, List.length_nil]); omega) ?_
                        intro yz vz ht hk
                        have HT' : Hid (TxS B w1 vz yz (Z ++ [32])) := ht
                        have HP' : Hid (Bk vz w.heap.size 33 #[.int .i64 m.n, .int .i64 m.s, .slice ai m.i.length ci, .slice (some ⟨b, off, none⟩) m.h.length ch, .slice ae m.e.length ce, .int .i64 m.z]) := hk.bk HP.out (Or.inl (by decide))
                        have HQ' : Hid (Bk vz QB 59 #[.int .i64 (n : Int), .int .i64 a, .int .i64 b2, .int .i64 k2]) := hk.bk HQ.out (Or.inl (by decide))
                        clear HT HP HQ
                        have HT := HT'
                        have HP := HP'
                        have HQ := HQ'
                        clear HT' HP' HQ'
                        clear ht hk HO
                        refine hK.out _ _ (HQ.out.cell (i := 0) rfl) (fun hHeld => ?_)
                        clear hK K
                        try simp only [Act.put, List.setIfInBounds_toArray, List.set_cons_zero, List.set_cons_succ]
                case' g1 =>
                  obtain ⟨X3, hX3⟩ : ∃ X, X = wd.heap.size := ⟨_, rfl⟩
                  obtain ⟨v20, hV⟩ : ∃ V, wd.alloc (.cells STR7 9) = V := ⟨_, rfl⟩
                  have HT' : Hid (TxS B w1 v20 o2 Z) := hV ▸ HT.out.alloc _
                  have HP' : Hid (Bk v20 w.heap.size 33 #[.int .i64 m.n, .int .i64 m.s, .slice ai m.i.length ci, .slice (some ⟨b, off, none⟩) m.h.length ch, .slice ae m.e.length ce, .int .i64 m.z]) := hV ▸ HP.out.alloc _
                  have HQ' : Hid (Bk v20 QB 59 #[.int .i64 (n : Int), .int .i64 a, .int .i64 b2, .int .i64 k2]) := hV ▸ HQ.out.alloc _
                  clear HT HP HQ
                  have HT := HT'
                  have HP := HP'
                  have HQ := HQ'
                  clear HT' HP' HQ'
                  have HS : Hid (Bk v20 X3 9 STR7) := hV ▸ Bk.newAt hX3 _ _
                  have HX : Hid (X3 = wd.heap.size) := hX3
                  have HV : Hid (wd.alloc (.cells STR7 9) = v20) := hV
                  clear hV hX3
                  go_simp
                  rw [show (Obj.cells #[.string ⟨#[97, 100, 100]⟩, .string ⟨#[116, 97, 107, 101]⟩, .string ⟨#[115, 101, 110, 100]⟩, .string ⟨#[115, 107, 105, 112]⟩, .string ⟨#[97, 115, 107]⟩, .string ⟨#[101, 109, 105, 116]⟩, .string ⟨#[100, 114, 97, 119]⟩] 9 : Obj) = .cells STR7 9 from rfl]
                  rw [HV.out, ← HX.out]
                  clear HV HX
                  refine hK.out _ _ (HQ.out.cell (i := 0) rfl) (fun hHeld => ?_)
                  clear hK K
                  try simp only [Act.put, List.setIfInBounds_toArray, List.set_cons_zero, List.set_cons_succ]
                  refine wpAnyH_take (i := 6) (oi := { dst := some 67, op := Op.indexAddr 60 (Operand.tmp 64) (Operand.tmp 66), type := 0, pos := _, after := _, guard := none }) (v := .pointer (some ⟨X3, n, none⟩)) rfl (by kernel_rfl) (by kernel_rfl) (by kernel_rfl) (fun _ _ _ h => h) (Or.inl ⟨by rfl, ?_⟩) (by assumption) ?_
                  · intro wX hSw
                    try dsimp only at hSw
                    go_simp
                    try exact IntWalk.i64_in _ (by omega)
                    try (intro h9; exfalso; omega)
                  try simp only [Act.put, List.setIfInBounds_toArray, List.set_cons_zero, List.set_cons_succ]
                  refine wpAnyH_ready (rs := [1, 7]) (by kernel_rfl) (by simp) ?_
                  refine AllReadyH.cons (o := { dst := some 62, op := Op.buildSlice 28 1 #[(0, Operand.const (Value.int IntKind.u8 32))], type := 28, pos := _, after := _, guard := none }) rfl (fun K hK => ?g22) (AllReadyH.cons (o := { dst := some 68, op := Op.load 9 (Operand.tmp 67), type := 9, pos := _, after := _, guard := none }) rfl (fun K hK => ?g21) AllReadyH.nil)
                  case' g22 =>
                    obtain ⟨X1, hX1⟩ : ∃ X, X = v20.heap.size := ⟨_, rfl⟩
                    obtain ⟨v23, hV⟩ : ∃ V, v20.alloc (.cells #[.int .u8 32] 5) = V := ⟨_, rfl⟩
                    have HT' : Hid (TxS B w1 v23 o2 Z) := hV ▸ HT.out.alloc _
                    have HP' : Hid (Bk v23 w.heap.size 33 #[.int .i64 m.n, .int .i64 m.s, .slice ai m.i.length ci, .slice (some ⟨b, off, none⟩) m.h.length ch, .slice ae m.e.length ce, .int .i64 m.z]) := hV ▸ HP.out.alloc _
                    have HQ' : Hid (Bk v23 QB 59 #[.int .i64 (n : Int), .int .i64 a, .int .i64 b2, .int .i64 k2]) := hV ▸ HQ.out.alloc _
                    have HS' : Hid (Bk v23 X3 9 STR7) := hV ▸ HS.out.alloc _
                    clear HT HP HQ HS
                    have HT := HT'
                    have HP := HP'
                    have HQ := HQ'
                    have HS := HS'
                    clear HT' HP' HQ' HS'
                    have HO : Hid (Bk v23 X1 5 #[.int .u8 32]) := hV ▸ Bk.newAt hX1 _ _
                    have HX : Hid (X1 = v20.heap.size) := hX1
                    have HV : Hid (v20.alloc (.cells #[.int .u8 32] 5) = v23) := hV
                    clear hV hX1
                    go_simp
                    rw [HV.out, ← HX.out]
                    clear HV HX
                    refine hK.out _ _ (HQ.out.cell (i := 0) rfl) (fun hHeld => ?_)
                    clear hK K
                    try simp only [Act.put, List.setIfInBounds_toArray, List.set_cons_zero, List.set_cons_succ]
                    refine wpAnyH_ready (rs := [2, 7]) (by kernel_rfl) (by simp) ?_
                    refine AllReadyH.cons (o := { dst := some 63, op := Op.call { callee := Callee.builtin Builtin.append, args := #[Operand.tmp 61, Operand.tmp 62], argTypes := #[28, 28] }, type := 28, pos := _, after := _, guard := none }) rfl (fun K hK => ?g25) (AllReadyH.cons (o := { dst := some 68, op := Op.load 9 (Operand.tmp 67), type := 9, pos := _, after := _, guard := none }) rfl (fun K hK => ?g24) AllReadyH.nil)
                    case' g25 =>
                      refine tx_own (B := B) (w1 := w1) rfl (.tmp 61) (.tmp 62) rfl o2 Z rfl HT.out [32] X1 1 rfl (Src.one rfl HO.out) (by (repeat rw [List.length_append]); (try simp only [List.length_cons, List.length_nil]); omega) ?_
                      intro yz v26 ht hk
                      have HT' : Hid (TxS B w1 v26 yz (Z ++ [32])) := ht
                      have HP' : Hid (Bk v26 w.heap.size 33 #[.int .i64 m.n, .int .i64 m.s, .slice ai m.i.length ci, .slice (some ⟨b, off, none⟩) m.h.length ch, .slice ae m.e.length ce, .int .i64 m.z]) := hk.bk HP.out (Or.inl (by decide))
                      have HQ' : Hid (Bk v26 QB 59 #[.int .i64 (n : Int), .int .i64 a, .int .i64 b2, .int .i64 k2]) := hk.bk HQ.out (Or.inl (by decide))
                      have HS' : Hid (Bk v26 X3 9 STR7) := hk.bk HS.out (Or.inl (by decide))
                      clear HT HP HQ HS
                      have HT := HT'
                      have HP := HP'
                      have HQ := HQ'
                      have HS := HS'
                      clear HT' HP' HQ' HS'
                      clear ht hk HO
                      refine hK.out _ _ (HQ.out.cell (i := 0) rfl) (fun hHeld => ?_)
                      clear hK K
                      try simp only [Act.put, List.setIfInBounds_toArray, List.set_cons_zero, List.set_cons_succ]
                      refine wpAnyH_ready (rs := [7]) (by kernel_rfl) (by simp) ?_
                      refine AllReadyH.cons (o := { dst := some 68, op := Op.load 9 (Operand.tmp 67), type := 9, pos := _, after := _, guard := none }) rfl (fun K hK => ?g27) AllReadyH.nil
                      case' g27 =>
                        have f7 := str_cell HS.out hn
                        go_simp
                        clear f7 HS
                        obtain ⟨vz, hvz⟩ : ∃ V, V = v26 := ⟨_, rfl⟩
                        rw [← hvz] at HT HP HQ
                        rw [← hvz]
                        clear hvz
                        refine hK.out _ _ (HQ.out.cell (i := 0) rfl) (fun hHeld => ?_)
                        clear hK K
                        try simp only [Act.put, List.setIfInBounds_toArray, List.set_cons_zero, List.set_cons_succ]
                    case' g24 =>
                      have f7 := str_cell HS.out hn
                      go_simp
                      clear f7 HS
                      refine hK.out _ _ (HQ.out.cell (i := 0) rfl) (fun hHeld => ?_)
                      clear hK K
                      try simp only [Act.put, List.setIfInBounds_toArray, List.set_cons_zero, List.set_cons_succ]
                      refine wpAnyH_ready (rs := [2]) (by kernel_rfl) (by simp) ?_
                      refine AllReadyH.cons (o := { dst := some 63, op := Op.call { callee := Callee.builtin Builtin.append, args := #[Operand.tmp 61, Operand.tmp 62], argTypes := #[28, 28] }, type := 28, pos := _, after := _, guard := none }) rfl (fun K hK => ?g30) AllReadyH.nil
                      case' g30 =>
                        refine tx_own (B := B) (w1 := w1) rfl (.tmp 61) (.tmp 62) rfl o2 Z rfl HT.out [32] X1 1 rfl (Src.one rfl HO.out) (by (repeat rw [List.length_append]); (try simp only [List.length_cons, List.length_nil]); omega) ?_
                        intro yz vz ht hk
                        have HT' : Hid (TxS B w1 vz yz (Z ++ [32])) := ht
                        have HP' : Hid (Bk vz w.heap.size 33 #[.int .i64 m.n, .int .i64 m.s, .slice ai m.i.length ci, .slice (some ⟨b, off, none⟩) m.h.length ch, .slice ae m.e.length ce, .int .i64 m.z]) := hk.bk HP.out (Or.inl (by decide))
                        have HQ' : Hid (Bk vz QB 59 #[.int .i64 (n : Int), .int .i64 a, .int .i64 b2, .int .i64 k2]) := hk.bk HQ.out (Or.inl (by decide))
                        clear HT HP HQ
                        have HT := HT'
                        have HP := HP'
                        have HQ := HQ'
                        clear HT' HP' HQ'
                        clear ht hk HO
                        refine hK.out _ _ (HQ.out.cell (i := 0) rfl) (fun hHeld => ?_)
                        clear hK K
                        try simp only [Act.put, List.setIfInBounds_toArray, List.set_cons_zero, List.set_cons_succ]
                  case' g21 =>
                    have f7 := str_cell HS.out hn
                    go_simp
                    clear f7 HS
                    refine hK.out _ _ (HQ.out.cell (i := 0) rfl) (fun hHeld => ?_)
                    clear hK K
                    try simp only [Act.put, List.setIfInBounds_toArray, List.set_cons_zero, List.set_cons_succ]
                    refine wpAnyH_ready (rs := [1]) (by kernel_rfl) (by simp) ?_
                    refine AllReadyH.cons (o := { dst := some 62, op := Op.buildSlice 28 1 #[(0, Operand.const (Value.int IntKind.u8 32))], type := 28, pos := _, after := _, guard := none }) rfl (fun K hK => ?g33) AllReadyH.nil
                    case' g33 =>
                      obtain ⟨X1, hX1⟩ : ∃ X, X = v20.heap.size := ⟨_, rfl⟩
                      obtain ⟨v34, hV⟩ : ∃ V, v20.alloc (.cells #[.int .u8 32] 5) = V := ⟨_, rfl⟩
                      have HT' : Hid (TxS B w1 v34 o2 Z) := hV ▸ HT.out.alloc _
                      have HP' : Hid (Bk v34 w.heap.size 33 #[.int .i64 m.n, .int .i64 m.s, .slice ai m.i.length ci, .slice (some ⟨b, off, none⟩) m.h.length ch, .slice ae m.e.length ce, .int .i64 m.z]) := hV ▸ HP.out.alloc _
                      have HQ' : Hid (Bk v34 QB 59 #[.int .i64 (n : Int), .int .i64 a, .int .i64 b2, .int .i64 k2]) := hV ▸ HQ.out.alloc _
                      clear HT HP HQ
                      have HT := HT'
                      have HP := HP'
                      have HQ := HQ'
                      clear HT' HP' HQ'
                      have HO : Hid (Bk v34 X1 5 #[.int .u8 32]) := hV ▸ Bk.newAt hX1 _ _
                      have HX : Hid (X1 = v20.heap.size) := hX1
                      have HV : Hid (v20.alloc (.cells #[.int .u8 32] 5) = v34) := hV
                      clear hV hX1
                      go_simp
                      rw [HV.out, ← HX.out]
                      clear HV HX
                      refine hK.out _ _ (HQ.out.cell (i := 0) rfl) (fun hHeld => ?_)
                      clear hK K
                      try simp only [Act.put, List.setIfInBounds_toArray, List.set_cons_zero, List.set_cons_succ]
                      refine wpAnyH_ready (rs := [2]) (by kernel_rfl) (by simp) ?_
                      refine AllReadyH.cons (o := { dst := some 63, op := Op.call { callee := Callee.builtin Builtin.append, args := #[Operand.tmp 61, Operand.tmp 62], argTypes := #[28, 28] }, type := 28, pos := _, after := _, guard := none }) rfl (fun K hK => ?g35) AllReadyH.nil
                      case' g35 =>
                        refine tx_own (B := B) (w1 := w1) rfl (.tmp 61) (.tmp 62) rfl o2 Z rfl HT.out [32] X1 1 rfl (Src.one rfl HO.out) (by (repeat rw [List.length_append]); (try simp only [List.length_cons, List.length_nil]); omega) ?_
                        intro yz vz ht hk
                        have HT' : Hid (TxS B w1 vz yz (Z ++ [32])) := ht
                        have HP' : Hid (Bk vz w.heap.size 33 #[.int .i64 m.n, .int .i64 m.s, .slice ai m.i.length ci, .slice (some ⟨b, off, none⟩) m.h.length ch, .slice ae m.e.length ce, .int .i64 m.z]) := hk.bk HP.out (Or.inl (by decide))
                        have HQ' : Hid (Bk vz QB 59 #[.int .i64 (n : Int), .int .i64 a, .int .i64 b2, .int .i64 k2]) := hk.bk HQ.out (Or.inl (by decide))
                        clear HT HP HQ
                        have HT := HT'
                        have HP := HP'
                        have HQ := HQ'
                        clear HT' HP' HQ'
                        clear ht hk HO
                        refine hK.out _ _ (HQ.out.cell (i := 0) rfl) (fun hHeld => ?_)
                        clear hK K
                        try simp only [Act.put, List.setIfInBounds_toArray, List.set_cons_zero, List.set_cons_succ]
                all_goals
                  refine wpAnyH_ready (rs := [8]) (by kernel_rfl) (by simp) ?_
                  refine AllReadyH.cons (o := { dst := some 69, op := Op.call { callee := Callee.builtin Builtin.append, args := #[Operand.tmp 63, Operand.tmp 68], argTypes := #[28, 9] }, type := 28, pos := _, after := _, guard := none }) rfl (fun K hK => ?_) AllReadyH.nil
                  refine tx_text (B := B) (w1 := w1) rfl (.tmp 63) (.tmp 68) rfl yz (Z ++ [32]) rfl HT.out ⟨(opWord (n : Int)).toArray⟩ rfl (by have h9 := opw_size (n : Int); (try simp only [List.length_append, List.length_cons, List.length_nil]); omega) ?_
                  intro yf wf ht hk
                  have HT' : Hid (TxS B w1 wf yf (Z ++ [32] ++ opWord (n : Int))) := ht
                  have HP' : Hid (Bk wf w.heap.size 33 #[.int .i64 m.n, .int .i64 m.s, .slice ai m.i.length ci, .slice (some ⟨b, off, none⟩) m.h.length ch, .slice ae m.e.length ce, .int .i64 m.z]) := hk.bk HP.out (Or.inl (by decide))
                  have HQ' : Hid (Bk wf QB 59 #[.int .i64 (n : Int), .int .i64 a, .int .i64 b2, .int .i64 k2]) := hk.bk HQ.out (Or.inl (by decide))
                  clear ht hk HT HP HQ
                  refine hK.out _ _ (HQ'.out.cell (i := 0) rfl) (fun hHeld => ?_)
                  clear hK K
                  try simp only [Act.put, List.setIfInBounds_toArray, List.set_cons_zero, List.set_cons_succ]
                  refine wpAnyH_take (i := 9) (oi := { dst := some 3, op := Op.assign (Operand.tmp 69), type := 28, pos := _, after := _, guard := none }) (v := yf) rfl (by kernel_rfl) (by kernel_rfl) (by kernel_rfl) (fun _ _ _ h => h) (Or.inl ⟨by rfl, ?_⟩) (by assumption) ?_
                  · intro wX hSw
                    try dsimp only at hSw
                    go_simp
                    try exact IntWalk.i64_in _ (by omega)
                  try simp only [Act.put, List.setIfInBounds_toArray, List.set_cons_zero, List.set_cons_succ]
                  refine wpAnyH_done (by kernel_rfl) ?_ _
                  clear hHeld
                  try go_wp2_with fail
                  go_meet
                  case rel => exact ⟨HT'.out, HP'.out, HQ'.out⟩
              case rest =>
                clear HTV HPV HQV e0
                obtain ⟨hT9, hP9, hQ9⟩ := hcut
                have HT0 : Hid (TxS B w1 wc u3 (Z ++ [32] ++ opWord c)) := hT9
                have HP0 : Hid (Bk wc w.heap.size 33 #[.int .i64 m.n, .int .i64 m.s, .slice ai m.i.length ci, .slice (some ⟨b, off, none⟩) m.h.length ch, .slice ae m.e.length ce, .int .i64 m.z]) := hP9
                have HQ0 : Hid (Bk wc QB 59 #[.int .i64 c, .int .i64 a, .int .i64 b2, .int .i64 k2]) := hQ9
                clear hT9 hP9 hQ9
                have hda := dec_len a (by omega)
                have hdb := dec_len b2 (by omega)
                have hdk2 := dec_len k2 (by omega)
                have e1 := HQ0.out.cell (i := 1) rfl
                go_wp2_with fail
                go_region_held3 (fun W => W.cell? ⟨QB, 1, none⟩ = some (.int .i64 a)) (first | assumption | exact Bk.cell (i := 1) (vs := #[.int .i64 c, .int .i64 a, .int .i64 b2, .int .i64 k2]) (T := 59) (P := QB) (by (repeat (first | assumption | (with_reducible refine Hid.out (p := Bk _ _ _ _) ?_; assumption) | exact Bk.new _ _ _ | with_reducible refine Bk.drew ?_ | with_reducible refine Bk.alloc ?_ _ | refine Kp.bk (Hid.out (by assumption)) ?_ (by first | exact Or.inl (by decide) | (refine Or.inr ?_; simp; omega) | (refine Or.inr ?_; simp; done))))) rfl | (go_keep; done))
                  (first
                    | (go_at_call 24; refine (digits_tx (B := B) (w1 := w1) a ha0 (by omega) ya15 ((Z ++ [32] ++ opWord c) ++ [32]) _ (by (repeat (first | assumption | (with_reducible refine Hid.out (p := TxS _ _ _ _ _) ?_; assumption) | with_reducible refine TxS.drew ?_ | with_reducible refine TxS.alloc ?_ _)))).mono ?_; rintro r wb15 ⟨X15b, c15b, rfl, HS15b, HT15b, HK15b⟩)
                    | (refine tx_own (B := B) (w1 := w1) rfl (.tmp 72) (.tmp 75) rfl ya15 ((Z ++ [32] ++ opWord c) ++ [32]) rfl (by (repeat (first | assumption | (with_reducible refine Hid.out (p := TxS _ _ _ _ _) ?_; assumption) | with_reducible refine TxS.drew ?_ | with_reducible refine TxS.alloc ?_ _))) (dec a) X15b c15b rfl (by (repeat (first | assumption | with_reducible refine Src.alloc ?_ _))) (by (repeat rw [List.length_append]); (try simp only [List.length_cons, List.length_nil]); omega) ?_; intro y15z w15z ht15c hk15c; have HT15c : Hid (TxS B w1 w15z y15z (((Z ++ [32] ++ opWord c) ++ [32]) ++ (dec a))) := ht15c; have HK15c : Hid (Kp _ _ w15z) := hk15c; clear ht15c hk15c)
                    | (refine tx_own (B := B) (w1 := w1) rfl (.tmp 70) (.tmp 71) rfl u3 (Z ++ [32] ++ opWord c) rfl (by (repeat (first | assumption | (with_reducible refine Hid.out (p := TxS _ _ _ _ _) ?_; assumption) | with_reducible refine TxS.drew ?_ | with_reducible refine TxS.alloc ?_ _))) [32] _ 1 rfl (Src.one rfl (by (repeat (first | assumption | (with_reducible refine Hid.out (p := Bk _ _ _ _) ?_; assumption) | exact Bk.new _ _ _ | with_reducible refine Bk.drew ?_ | with_reducible refine Bk.alloc ?_ _ | refine Kp.bk (Hid.out (by assumption)) ?_ (by first | exact Or.inl (by decide) | (refine Or.inr ?_; simp; omega) | (refine Or.inr ?_; simp; done)))))) (by (repeat rw [List.length_append]); (try simp only [List.length_cons, List.length_nil]); omega) ?_; intro ya15 wa15 ht15a hk15a; have HT15a : Hid (TxS B w1 wa15 ya15 ((Z ++ [32] ++ opWord c) ++ [32])) := ht15a; have HK15a : Hid (Kp _ _ wa15) := hk15a; clear ht15a hk15a))
                have HP15 : Hid (Bk w15z w.heap.size 33 #[.int .i64 m.n, .int .i64 m.s, .slice ai m.i.length ci, .slice (some ⟨b, off, none⟩) m.h.length ch, .slice ae m.e.length ce, .int .i64 m.z]) := (by (repeat (first | assumption | (with_reducible refine Hid.out (p := Bk _ _ _ _) ?_; assumption) | exact Bk.new _ _ _ | with_reducible refine Bk.drew ?_ | with_reducible refine Bk.alloc ?_ _ | refine Kp.bk (Hid.out (by assumption)) ?_ (by first | exact Or.inl (by decide) | (refine Or.inr ?_; simp; omega) | (refine Or.inr ?_; simp; done)))) : Bk w15z w.heap.size 33 #[.int .i64 m.n, .int .i64 m.s, .slice ai m.i.length ci, .slice (some ⟨b, off, none⟩) m.h.length ch, .slice ae m.e.length ce, .int .i64 m.z])
                have HQ15 : Hid (Bk w15z QB 59 #[.int .i64 c, .int .i64 a, .int .i64 b2, .int .i64 k2]) := (by (repeat (first | assumption | (with_reducible refine Hid.out (p := Bk _ _ _ _) ?_; assumption) | exact Bk.new _ _ _ | with_reducible refine Bk.drew ?_ | with_reducible refine Bk.alloc ?_ _ | refine Kp.bk (Hid.out (by assumption)) ?_ (by first | exact Or.inl (by decide) | (refine Or.inr ?_; simp; omega) | (refine Or.inr ?_; simp; done)))) : Bk w15z QB 59 #[.int .i64 c, .int .i64 a, .int .i64 b2, .int .i64 k2])
                clear HK15a HK15b HK15c HT15a HT15b HS15b e1
                have e2 := HQ15.out.cell (i := 2) rfl
                go_wp2_with fail
                go_region_held3 (fun W => W.cell? ⟨QB, 2, none⟩ = some (.int .i64 b2)) (first | assumption | exact Bk.cell (i := 2) (vs := #[.int .i64 c, .int .i64 a, .int .i64 b2, .int .i64 k2]) (T := 59) (P := QB) (by (repeat (first | assumption | (with_reducible refine Hid.out (p := Bk _ _ _ _) ?_; assumption) | exact Bk.new _ _ _ | with_reducible refine Bk.drew ?_ | with_reducible refine Bk.alloc ?_ _ | refine Kp.bk (Hid.out (by assumption)) ?_ (by first | exact Or.inl (by decide) | (refine Or.inr ?_; simp; omega) | (refine Or.inr ?_; simp; done))))) rfl | (go_keep; done))
                  (first
                    | (go_at_call 24; refine (digits_tx (B := B) (w1 := w1) b2 hb0 (by omega) ya16 ((((Z ++ [32] ++ opWord c) ++ [32]) ++ (dec a)) ++ [32]) _ (by (repeat (first | assumption | (with_reducible refine Hid.out (p := TxS _ _ _ _ _) ?_; assumption) | with_reducible refine TxS.drew ?_ | with_reducible refine TxS.alloc ?_ _)))).mono ?_; rintro r wb16 ⟨X16b, c16b, rfl, HS16b, HT16b, HK16b⟩)
                    | (refine tx_own (B := B) (w1 := w1) rfl (.tmp 79) (.tmp 82) rfl ya16 ((((Z ++ [32] ++ opWord c) ++ [32]) ++ (dec a)) ++ [32]) rfl (by (repeat (first | assumption | (with_reducible refine Hid.out (p := TxS _ _ _ _ _) ?_; assumption) | with_reducible refine TxS.drew ?_ | with_reducible refine TxS.alloc ?_ _))) (dec b2) X16b c16b rfl (by (repeat (first | assumption | with_reducible refine Src.alloc ?_ _))) (by (repeat rw [List.length_append]); (try simp only [List.length_cons, List.length_nil]); omega) ?_; intro y16z w16z ht16c hk16c; have HT16c : Hid (TxS B w1 w16z y16z (((((Z ++ [32] ++ opWord c) ++ [32]) ++ (dec a)) ++ [32]) ++ (dec b2))) := ht16c; have HK16c : Hid (Kp _ _ w16z) := hk16c; clear ht16c hk16c)
                    | (refine tx_own (B := B) (w1 := w1) rfl (.tmp 77) (.tmp 78) rfl y15z (((Z ++ [32] ++ opWord c) ++ [32]) ++ (dec a)) rfl (by (repeat (first | assumption | (with_reducible refine Hid.out (p := TxS _ _ _ _ _) ?_; assumption) | with_reducible refine TxS.drew ?_ | with_reducible refine TxS.alloc ?_ _))) [32] _ 1 rfl (Src.one rfl (by (repeat (first | assumption | (with_reducible refine Hid.out (p := Bk _ _ _ _) ?_; assumption) | exact Bk.new _ _ _ | with_reducible refine Bk.drew ?_ | with_reducible refine Bk.alloc ?_ _ | refine Kp.bk (Hid.out (by assumption)) ?_ (by first | exact Or.inl (by decide) | (refine Or.inr ?_; simp; omega) | (refine Or.inr ?_; simp; done)))))) (by (repeat rw [List.length_append]); (try simp only [List.length_cons, List.length_nil]); omega) ?_; intro ya16 wa16 ht16a hk16a; have HT16a : Hid (TxS B w1 wa16 ya16 ((((Z ++ [32] ++ opWord c) ++ [32]) ++ (dec a)) ++ [32])) := ht16a; have HK16a : Hid (Kp _ _ wa16) := hk16a; clear ht16a hk16a))
                have HP16 : Hid (Bk w16z w.heap.size 33 #[.int .i64 m.n, .int .i64 m.s, .slice ai m.i.length ci, .slice (some ⟨b, off, none⟩) m.h.length ch, .slice ae m.e.length ce, .int .i64 m.z]) := (by (repeat (first | assumption | (with_reducible refine Hid.out (p := Bk _ _ _ _) ?_; assumption) | exact Bk.new _ _ _ | with_reducible refine Bk.drew ?_ | with_reducible refine Bk.alloc ?_ _ | refine Kp.bk (Hid.out (by assumption)) ?_ (by first | exact Or.inl (by decide) | (refine Or.inr ?_; simp; omega) | (refine Or.inr ?_; simp; done)))) : Bk w16z w.heap.size 33 #[.int .i64 m.n, .int .i64 m.s, .slice ai m.i.length ci, .slice (some ⟨b, off, none⟩) m.h.length ch, .slice ae m.e.length ce, .int .i64 m.z])
                have HQ16 : Hid (Bk w16z QB 59 #[.int .i64 c, .int .i64 a, .int .i64 b2, .int .i64 k2]) := (by (repeat (first | assumption | (with_reducible refine Hid.out (p := Bk _ _ _ _) ?_; assumption) | exact Bk.new _ _ _ | with_reducible refine Bk.drew ?_ | with_reducible refine Bk.alloc ?_ _ | refine Kp.bk (Hid.out (by assumption)) ?_ (by first | exact Or.inl (by decide) | (refine Or.inr ?_; simp; omega) | (refine Or.inr ?_; simp; done)))) : Bk w16z QB 59 #[.int .i64 c, .int .i64 a, .int .i64 b2, .int .i64 k2])
                clear HK16a HK16b HK16c HT16a HT16b HS16b e2
                have e3 := HQ16.out.cell (i := 3) rfl
                go_wp2_with fail
                go_region_held3 (fun W => W.cell? ⟨QB, 3, none⟩ = some (.int .i64 k2)) (first | assumption | exact Bk.cell (i := 3) (vs := #[.int .i64 c, .int .i64 a, .int .i64 b2, .int .i64 k2]) (T := 59) (P := QB) (by (repeat (first | assumption | (with_reducible refine Hid.out (p := Bk _ _ _ _) ?_; assumption) | exact Bk.new _ _ _ | with_reducible refine Bk.drew ?_ | with_reducible refine Bk.alloc ?_ _ | refine Kp.bk (Hid.out (by assumption)) ?_ (by first | exact Or.inl (by decide) | (refine Or.inr ?_; simp; omega) | (refine Or.inr ?_; simp; done))))) rfl | (go_keep; done))
                  (first
                    | (go_at_call 24; refine (digits_tx (B := B) (w1 := w1) k2 hk0 (by omega) ya17 ((((((Z ++ [32] ++ opWord c) ++ [32]) ++ (dec a)) ++ [32]) ++ (dec b2)) ++ [32]) _ (by (repeat (first | assumption | (with_reducible refine Hid.out (p := TxS _ _ _ _ _) ?_; assumption) | with_reducible refine TxS.drew ?_ | with_reducible refine TxS.alloc ?_ _)))).mono ?_; rintro r wb17 ⟨X17b, c17b, rfl, HS17b, HT17b, HK17b⟩)
                    | (refine tx_own (B := B) (w1 := w1) rfl (.tmp 86) (.tmp 89) rfl ya17 ((((((Z ++ [32] ++ opWord c) ++ [32]) ++ (dec a)) ++ [32]) ++ (dec b2)) ++ [32]) rfl (by (repeat (first | assumption | (with_reducible refine Hid.out (p := TxS _ _ _ _ _) ?_; assumption) | with_reducible refine TxS.drew ?_ | with_reducible refine TxS.alloc ?_ _))) (dec k2) X17b c17b rfl (by (repeat (first | assumption | with_reducible refine Src.alloc ?_ _))) (by (repeat rw [List.length_append]); (try simp only [List.length_cons, List.length_nil]); omega) ?_; intro y17z w17z ht17c hk17c; have HT17c : Hid (TxS B w1 w17z y17z (((((((Z ++ [32] ++ opWord c) ++ [32]) ++ (dec a)) ++ [32]) ++ (dec b2)) ++ [32]) ++ (dec k2))) := ht17c; have HK17c : Hid (Kp _ _ w17z) := hk17c; clear ht17c hk17c)
                    | (refine tx_own (B := B) (w1 := w1) rfl (.tmp 84) (.tmp 85) rfl y16z (((((Z ++ [32] ++ opWord c) ++ [32]) ++ (dec a)) ++ [32]) ++ (dec b2)) rfl (by (repeat (first | assumption | (with_reducible refine Hid.out (p := TxS _ _ _ _ _) ?_; assumption) | with_reducible refine TxS.drew ?_ | with_reducible refine TxS.alloc ?_ _))) [32] _ 1 rfl (Src.one rfl (by (repeat (first | assumption | (with_reducible refine Hid.out (p := Bk _ _ _ _) ?_; assumption) | exact Bk.new _ _ _ | with_reducible refine Bk.drew ?_ | with_reducible refine Bk.alloc ?_ _ | refine Kp.bk (Hid.out (by assumption)) ?_ (by first | exact Or.inl (by decide) | (refine Or.inr ?_; simp; omega) | (refine Or.inr ?_; simp; done)))))) (by (repeat rw [List.length_append]); (try simp only [List.length_cons, List.length_nil]); omega) ?_; intro ya17 wa17 ht17a hk17a; have HT17a : Hid (TxS B w1 wa17 ya17 ((((((Z ++ [32] ++ opWord c) ++ [32]) ++ (dec a)) ++ [32]) ++ (dec b2)) ++ [32])) := ht17a; have HK17a : Hid (Kp _ _ wa17) := hk17a; clear ht17a hk17a))
                have HP17 : Hid (Bk w17z w.heap.size 33 #[.int .i64 m.n, .int .i64 m.s, .slice ai m.i.length ci, .slice (some ⟨b, off, none⟩) m.h.length ch, .slice ae m.e.length ce, .int .i64 m.z]) := (by (repeat (first | assumption | (with_reducible refine Hid.out (p := Bk _ _ _ _) ?_; assumption) | exact Bk.new _ _ _ | with_reducible refine Bk.drew ?_ | with_reducible refine Bk.alloc ?_ _ | refine Kp.bk (Hid.out (by assumption)) ?_ (by first | exact Or.inl (by decide) | (refine Or.inr ?_; simp; omega) | (refine Or.inr ?_; simp; done)))) : Bk w17z w.heap.size 33 #[.int .i64 m.n, .int .i64 m.s, .slice ai m.i.length ci, .slice (some ⟨b, off, none⟩) m.h.length ch, .slice ae m.e.length ce, .int .i64 m.z])
                have HQ17 : Hid (Bk w17z QB 59 #[.int .i64 c, .int .i64 a, .int .i64 b2, .int .i64 k2]) := (by (repeat (first | assumption | (with_reducible refine Hid.out (p := Bk _ _ _ _) ?_; assumption) | exact Bk.new _ _ _ | with_reducible refine Bk.drew ?_ | with_reducible refine Bk.alloc ?_ _ | refine Kp.bk (Hid.out (by assumption)) ?_ (by first | exact Or.inl (by decide) | (refine Or.inr ?_; simp; omega) | (refine Or.inr ?_; simp; done)))) : Bk w17z QB 59 #[.int .i64 c, .int .i64 a, .int .i64 b2, .int .i64 k2])
                clear HK17a HK17b HK17c HT17a HT17b HS17b e3
                go_wp2
                go_roundw
                case rel =>
                  refine ⟨q + 1, _, (((((((Z ++ [32] ++ opWord c) ++ [32]) ++ (dec a)) ++ [32]) ++ (dec b2)) ++ [32]) ++ (dec k2)), by omega, rfl, by go_num, (?_ : (((((((Z ++ [32] ++ opWord c) ++ [32]) ++ (dec a)) ++ [32]) ++ (dec b2)) ++ [32]) ++ (dec k2)) = Y13 ++ opsText ((hAt m.h k).take (q + 1))), ⟨?_, ?_⟩, HT17c.out, HP17.out⟩
                  · rw [HNX.out, HZ.out]
                    simp [opText]
                  · simp only [List.length_append, List.length_cons, List.length_nil]; omega
                  · simp only [List.length_append, List.length_cons, List.length_nil]; omega
                case measure => simp [intOf]; omega
            case neg =>
              have hqe : q = (hAt m.h k).length := by omega
              have HZE : Hid (Z ++ [10] = Y10 ++ kindsText m.h (k + 1)) := by
                have h9 := HZ.out
                rw [hqe, List.take_of_length_le (Nat.le_refl _)] at h9
                show Z ++ [10] = Y10 ++ (kindsText m.h k ++ kindText k (hAt m.h k))
                rw [h9, HY13.out, HY.out]
                simp [kindText]
              have hqd : decide ((q : Int) < ((hAt m.h k).length : Int)) = false := by simp; omega
              subst hqe
              go_wp2_with (at_builtin; refine txl_own (B := B) (w1 := w1) rfl _ _ rfl o2 Z rfl (by (repeat (first | assumption | (with_reducible refine Hid.out (p := TxS _ _ _ _ _) ?_; assumption) | with_reducible refine TxS.drew ?_ | with_reducible refine TxS.alloc ?_ _))) [10] _ 1 rfl (Src.one rfl (by (repeat (first | assumption | (with_reducible refine Hid.out (p := Bk _ _ _ _) ?_; assumption) | exact Bk.new _ _ _ | with_reducible refine Bk.drew ?_ | with_reducible refine Bk.alloc ?_ _ | refine Kp.bk (Hid.out (by assumption)) ?_ (by first | exact Or.inl (by decide) | (refine Or.inr ?_; simp; omega) | (refine Or.inr ?_; simp; done)))))) (by (repeat rw [List.length_append]); (try simp only [List.length_cons, List.length_nil]); omega) ?_; intro y18 w18 ht18a hk18a; have HT18a : Hid (TxS B w1 w18 y18 (Z ++ [10])) := ht18a; have HK18a : Hid (Kp _ _ w18) := hk18a; clear ht18a hk18a)
              have HP18 : Hid (Bk w18 w.heap.size 33 #[.int .i64 m.n, .int .i64 m.s, .slice ai m.i.length ci, .slice (some ⟨b, off, none⟩) m.h.length ch, .slice ae m.e.length ce, .int .i64 m.z]) := (by (repeat (first | assumption | (with_reducible refine Hid.out (p := Bk _ _ _ _) ?_; assumption) | exact Bk.new _ _ _ | with_reducible refine Bk.drew ?_ | with_reducible refine Bk.alloc ?_ _ | refine Kp.bk (Hid.out (by assumption)) ?_ (by first | exact Or.inl (by decide) | (refine Or.inr ?_; simp; omega) | (refine Or.inr ?_; simp; done)))) : Bk w18 w.heap.size 33 #[.int .i64 m.n, .int .i64 m.s, .slice ai m.i.length ci, .slice (some ⟨b, off, none⟩) m.h.length ch, .slice ae m.e.length ce, .int .i64 m.z])
              go_wp2
              go_roundw
              case rel =>
                refine ⟨k + 1, _, Z ++ [10], by omega, rfl, by go_num, HZE.out, ⟨?_, ?_⟩, HT18a.out, HP18.out⟩
                · simp only [List.length_append, List.length_cons, List.length_nil]; omega
                · simp only [List.length_append, List.length_cons, List.length_nil]; omega
              case measure => simp [intOf]; omega
        case neg =>
          have hke : k = m.h.length := by omega
          have hkd : decide ((k : Int) < (m.h.length : Int)) = false := by simp; omega
          have HYE : Hid (Y = headText m ++ kindsText m.h m.h.length) := (by rw [HY.out, HY10.out, hke] : Y = headText m ++ kindsText m.h m.h.length)
          clear HY
          have hl9 : Y.length ≤ 163000040 := by omega
          subst hke
          go_wp2
          clear q3 HBr
          go_loopw [7, 3] (fun i s wr => ∃ (k : Nat) (v : Value) (Z : List UInt8), k ≤ m.e.length ∧ v = s ∧ i = .int .i64 k ∧ Hid (Z = Y ++ linesText m.e k) ∧ (11 ≤ Z.length ∧ Z.length ≤ Y.length + k * 7000000) ∧ Hid (TxS B w1 wr s Z) ∧ Hid (Bk wr w.heap.size 33 #[.int .i64 m.n, .int .i64 m.s, .slice ai m.i.length ci, .slice ah m.h.length ch, .slice ae m.e.length ce, .int .i64 m.z])) (fun i _ _ => m.e.length - (intOf i).toNat)
          case atStart => exact ⟨0, _, Y, Nat.zero_le _, rfl, rfl, (by simp [linesText] : Y = Y ++ linesText m.e 0), ⟨by omega, by omega⟩, HTr.out, HPr.out⟩
          case round =>
            clear HTr HPr
            obtain ⟨j, o2, Z, hj, rfl, rfl, HZ, ⟨hz10, hz11⟩, HTq, HPq⟩ := hrel
            have HBq : Hid (Below w.heap.size w wr) := HB1.out.trans (HTq.out.below.mono (by omega))
            have q4 := HPq.out.cell (i := 4) rfl
            by_cases hlt2 : j < m.e.length
            case pos =>
              have hqd : decide ((j : Int) < (m.e.length : Int)) = true := by simpa using hlt2
              obtain ⟨b, off, rfl, hb, hc⟩ := HEV.out.resolve_left (by intro e; rw [e] at hlt2; simp at hlt2)
              obtain ⟨f0, f1, f2, f3, f4, f5, f6⟩ := (hc j hlt2).below HBq.out hb
              have hst := ok_ev9 HOK.out hlt2
              simp only [stB, Ev.ok, okB, Bool.and_eq_true, decide_eq_true_eq] at hst
              have HNX : Hid (linesText m.e (j + 1) = linesText m.e j ++ lineText (evAt m.e j)) := rfl
              generalize evAt m.e j = e at f0 f1 f2 f3 f4 f5 f6 HNX hst
              obtain ⟨t, s, qq, d, kk, vv, g⟩ := e
              simp only at hst
              clear hc
              obtain ⟨⟨ht0, ht1, hs0x, hs1x, hq0, hq1, hd0, hd1, hk0, hk1, hv0, hv1, hg0, hg1⟩, hs9, hq9, hg9, _⟩ := hst
              subst hs9 hq9 hg9
              have hle := ev_len t (-1) (j : Int) d kk vv (by omega) (by omega) (by omega) (by omega) (by omega) (by omega)
              go_wp2_with fail
              clear f0 f1 f2 f3 f4 f5 f6 q4
              refine (text_tx (B := B) (w1 := w1) t (-1) (j : Int) d kk vv (j : Int) ht0 (by omega) (by omega) (by omega) (by omega) hd0 (by omega) hk0 (by omega) hv0 (by omega) o2 Z _ HTq.out).mono ?_
              rintro r w22 ⟨X22, c22, rfl, HS22, HT22, HK22⟩
              go_wp2_with (first | (at_builtin; refine txl_own (B := B) (w1 := w1) rfl _ _ rfl o2 Z rfl (by (repeat (first | assumption | (with_reducible refine Hid.out (p := TxS _ _ _ _ _) ?_; assumption) | with_reducible refine TxS.drew ?_ | with_reducible refine TxS.alloc ?_ _))) (evText t (-1) (j : Int) d kk vv) X22 c22 rfl HS22.out (by (repeat rw [List.length_append]); (try simp only [List.length_cons, List.length_nil]); omega) ?_; intro y23 w23 ht22a hk22a; have HT22a : Hid (TxS B w1 w23 y23 (Z ++ (evText t (-1) (j : Int) d kk vv))) := ht22a; have HK22a : Hid (Kp _ _ w23) := hk22a; clear ht22a hk22a) | (at_builtin; refine txl_own (B := B) (w1 := w1) rfl _ _ rfl y23 (Z ++ (evText t (-1) (j : Int) d kk vv)) rfl (by (repeat (first | assumption | (with_reducible refine Hid.out (p := TxS _ _ _ _ _) ?_; assumption) | with_reducible refine TxS.drew ?_ | with_reducible refine TxS.alloc ?_ _))) [10] _ 1 rfl (Src.one rfl (by (repeat (first | assumption | (with_reducible refine Hid.out (p := Bk _ _ _ _) ?_; assumption) | exact Bk.new _ _ _ | with_reducible refine Bk.drew ?_ | with_reducible refine Bk.alloc ?_ _ | refine Kp.bk (Hid.out (by assumption)) ?_ (by first | exact Or.inl (by decide) | (refine Or.inr ?_; simp; omega) | (refine Or.inr ?_; simp; done)))))) (by (repeat rw [List.length_append]); (try simp only [List.length_cons, List.length_nil]); omega) ?_; intro y24 w24 ht22b hk22b; have HT22b : Hid (TxS B w1 w24 y24 ((Z ++ (evText t (-1) (j : Int) d kk vv)) ++ [10])) := ht22b; have HK22b : Hid (Kp _ _ w24) := hk22b; clear ht22b hk22b))
              have HP24 : Hid (Bk w24 w.heap.size 33 #[.int .i64 m.n, .int .i64 m.s, .slice ai m.i.length ci, .slice ah m.h.length ch, .slice (some ⟨b, off, none⟩) m.e.length ce, .int .i64 m.z]) := (by (repeat (first | assumption | (with_reducible refine Hid.out (p := Bk _ _ _ _) ?_; assumption) | exact Bk.new _ _ _ | with_reducible refine Bk.drew ?_ | with_reducible refine Bk.alloc ?_ _ | refine Kp.bk (Hid.out (by assumption)) ?_ (by first | exact Or.inl (by decide) | (refine Or.inr ?_; simp; omega) | (refine Or.inr ?_; simp; done)))) : Bk w24 w.heap.size 33 #[.int .i64 m.n, .int .i64 m.s, .slice ai m.i.length ci, .slice ah m.h.length ch, .slice (some ⟨b, off, none⟩) m.e.length ce, .int .i64 m.z])
              go_wp2
              go_roundw
              case rel =>
                refine ⟨j + 1, _, ((Z ++ (evText t (-1) (j : Int) d kk vv)) ++ [10]), by omega, rfl, by go_num, (?_ : ((Z ++ (evText t (-1) (j : Int) d kk vv)) ++ [10]) = Y ++ linesText m.e (j + 1)), ⟨?_, ?_⟩, HT22b.out, HP24.out⟩
                · rw [HNX.out, HZ.out]
                  simp [lineText]
                · simp only [List.length_append, List.length_cons, List.length_nil]; omega
                · simp only [List.length_append, List.length_cons, List.length_nil]; omega
              case measure => simp [intOf]; omega
            case neg =>
              have hje : j = m.e.length := by omega
              have HZE : Hid (Z = modText m) := by
                have h9 := HZ.out
                rw [hje, HYE.out] at h9
                exact h9
              have hqd : decide ((j : Int) < (m.e.length : Int)) = false := by simp; omega
              subst hje
              go_wp2
              go_ret
              refine ⟨_, rfl, ?_, HBq.out⟩
              rw [HT.out, ← HZE.out]
              exact (OwnB.of_row HTq.out.row).mono (by omega)
end Go.Proofs.YtbcdfacbhemijaaDoor
