/- At every two lists of events the program's HeapJoin answers as the specification's, writes into no argument and keeps nothing of one, its answer owns its memory, behind another call too; the arguments read behind the call as they read before; no condition. -/
import Derived.Test.YthklekjglocbgabFrame
import Derived.Test.YthklekjglocbgabJoin
import Derived.Test.YthklekjglocbgabEqs2
import Derived.Test.YthklekjglocbgabEqs
import Derived.Test.YthklekjglocbgabOpenS
namespace Go.Proofs.Ythklekjglocbgab.LawHeapJoin
open Go.ChangeShapes Go.WideShapes Go.ChangeAt Go.RowKit Go.Proofs.Ythklekjglocbgab
theorem row_any {w : World} {g n : Nat} {l : List Ev} (h : RowTo w g n l 0) {k : Nat} (hk : k < n) (e : Ev) : RowTo (put7 w g (k * 7) e) g n l 0 := by
  obtain ⟨h1, h2, _⟩ := h
  have hs : ∀ j, j < 7 → (w.cell? ⟨g, k * 7 + j, none⟩).isSome = true := fun j hj => (h2 _ (by omega)).1
  exact ⟨by rw [put7_size]; exact h1, fun j hj => ⟨put7_some _ hs (h2 j hj).1, by rw [put7_frozen]; exact (h2 j hj).2⟩, fun i hi => by omega⟩
set_option maxHeartbeats 400000 in
theorem sz_rest (a : Option Addr) (n cap k : Nat) (w : World) (hk : k ≤ 1048576) (h : n ≤ 1048576 - k) :
    Calls Try.prog 7 #[.slice a n cap, .int .i64 (1048576 - (k : Int))] w fun e w' => e = .returned (.int .i64 (1048576 - (k : Int) - n)) ∧ w' = w := by
  have hp : (n : Int) ≤ 1048576 - (k : Int) := by omega
  go_enter Try.func7, Try.ntmps7
  go_wp2
  go_ret
  exact ⟨rfl, rfl⟩
set_option maxHeartbeats 400000 in
theorem sz_over (a : Option Addr) (n cap k : Nat) (w : World) (hn : n ≤ maxLen) (hk : k ≤ 1048576) (h : ¬ n ≤ 1048576 - k) :
    Calls Try.prog 7 #[.slice a n cap, .int .i64 (1048576 - (k : Int))] w fun e w' => e = .returned (.int .i64 (-1)) ∧ w' = w := by
  unfold maxLen at hn
  have hp : 1048576 - (k : Int) < (n : Int) := by omega
  go_enter Try.func7, Try.ntmps7
  go_wp2
  go_ret
  exact ⟨rfl, rfl⟩
set_option maxHeartbeats 2000000 in
theorem mark_from (g n cap : Nat) (z0 : Int) (l : List Ev) (w : World) (hn : n ≤ 1048577) (hz0 : 0 ≤ z0) (hz1 : z0 ≤ 7340040) (hR : RowTo w g n l n) :
    Calls Try.prog 12 #[.slice (some ⟨g, 0, none⟩) n cap, .int .i64 z0] w fun e w' => e = .returned (.int .i64 (z0 + 7 * (n : Int))) ∧ w.grownBy w' (some g) := by
  have HR0 : Hid (∃ l, RowTo w g n l 0) := ⟨l, hR.1, hR.2.1, fun i hi => by omega⟩
  clear hR
  go_enter Try.func12, Try.ntmps12
  go_wp2
  go_loopw [5, 1] (fun i z wr => ∃ k : Nat, k ≤ n ∧ i = .int .i64 k ∧ z = .int .i64 (z0 + 7 * (k : Int)) ∧ Hid (∃ l, RowTo wr g n l 0) ∧ Hid (w.grownBy wr (some g))) (fun i _ _ => n - (intOf i).toNat)
  case atStart => exact ⟨0, Nat.zero_le _, rfl, by simp, HR0.out, grown_refl _ _⟩
  case round =>
    obtain ⟨k, hk, rfl, rfl, HR, HG⟩ := hrel
    by_cases hlt : k < n
    · obtain ⟨l0, hr0⟩ := HR.out
      obtain ⟨c0, c1, c2, c3, c4, c5, c6, ⟨g0, g1, g2, g3, g4, g5, g6⟩, ⟨y0, y1, y2, y3, y4, y5, y6⟩⟩ := hr0.cells hlt
      have HR1 : Hid (RowTo wr g n l0 0) := hr0
      clear hr0
      generalize hz : z0 + 7 * (k : Int) = z
      have hzz0 : 0 ≤ z := by omega
      have hzz1 : z ≤ 14680200 := by omega
      have HZ : Hid (z0 + 7 * (k : Int) = z) := hz
      clear hz
      go_wp2
      go_roundw
      case rel =>
        refine ⟨k + 1, by omega, by go_num, ?_, ?_, ?_⟩
        · rw [show z + 1 + 1 + 1 + 1 + 1 + 1 + 1 = z0 + 7 * ((k + 1 : Nat) : Int) from by have := HZ.out; omega]
        · exact ⟨l0, row_any HR1.out hlt (markEv z)⟩
        · exact grown_trans HG.out (put7_grown wr g (k * 7) (markEv z))
      case measure => simp [intOf]; omega
    · go_wp2
      go_ret
      obtain rfl : k = n := by omega
      exact ⟨rfl, HG.out⟩
theorem join_both (l r : List Ev) (hl : l.length ≤ 1048576) (hr : r.length ≤ 1048576) (hs : r.length ≤ 1048576 - l.length) : ∃ (l' : List Ev) (bb : Bool), l'.length ≤ 1048577 ∧
    (∀ (w : World) (g h : Nat), RowTo w g l.length l l.length → RowTo w h r.length r r.length → Calls Try.prog 8 #[.slice (some ⟨g, 0, none⟩) l.length l.length, .slice (some ⟨h, 0, none⟩) r.length r.length] w fun e w' => Answers w.heap.size l' bb e w' ∧ Below w.heap.size w w') ∧
    (∀ (w : World) (g h : Nat), RowTo w g l.length l l.length → RowTo w h r.length r r.length → Calls Try.prog 10 #[.slice (some ⟨g, 0, none⟩) l.length l.length, .slice (some ⟨h, 0, none⟩) r.length r.length] w fun e w' => Answers w.heap.size l' bb e w' ∧ Below w.heap.size w w') := by
  by_cases hg : GoodH l ∧ GoodH r
  · by_cases hc : CanJ l r
    · have key : ∀ {B e w'}, AnsJ l r B e w' → Answers B (r.foldl pushL l) true e w' := fun hh => hh.elim (fun x => absurd hg x.1) (fun x => x.elim (fun y => y.2.2) (fun y => absurd hc y.2.1))
      exact ⟨r.foldl pushL l, true, by rw [fold_length]; omega, fun w g h h1 h2 => (sJoin_any g h l r w hl hr h1 h2).mono fun e w' ⟨k1, k2⟩ => ⟨key k1, k2⟩, fun w g h h1 h2 => (iJoin_any g h l r w hl hr h1 h2).mono fun e w' ⟨k1, k2⟩ => ⟨key k1, k2⟩⟩
    · have key : ∀ {B e w'}, AnsJ l r B e w' → Answers B l false e w' := fun hh => hh.elim (fun x => absurd hg x.1) (fun x => x.elim (fun y => absurd y.2.1 hc) (fun y => y.2.2))
      exact ⟨l, false, by omega, fun w g h h1 h2 => (sJoin_any g h l r w hl hr h1 h2).mono fun e w' ⟨k1, k2⟩ => ⟨key k1, k2⟩, fun w g h h1 h2 => (iJoin_any g h l r w hl hr h1 h2).mono fun e w' ⟨k1, k2⟩ => ⟨key k1, k2⟩⟩
  · have key : ∀ {B e w'}, AnsJ l r B e w' → Answers B [] false e w' := fun hh => hh.elim (fun x => x.2) (fun x => x.elim (fun y => absurd y.1 hg) (fun y => absurd y.1 hg))
    exact ⟨[], false, by simp, fun w g h h1 h2 => (sJoin_any g h l r w hl hr h1 h2).mono fun e w' ⟨k1, k2⟩ => ⟨key k1, k2⟩, fun w g h h1 h2 => (iJoin_any g h l r w hl hr h1 h2).mono fun e w' ⟨k1, k2⟩ => ⟨key k1, k2⟩⟩
set_option maxRecDepth 100000 in
set_option maxHeartbeats 8000000 in
theorem walk1 (a : Option Addr) (cap : Nat) (a2 : Option Addr) (cap2 : Nat) (l r : List Ev) (w : World) (hl : l.length ≤ 1048576) (hr : r.length ≤ 1048576) (hs : r.length ≤ 1048576 - l.length) (hX : LowEvs w.heap.size w (.slice a l.length cap) l) (hV : LowEvs w.heap.size w (.slice a2 r.length cap2) r) :
    Calls Try.prog 3 #[.slice a l.length cap, .slice a2 r.length cap2] w fun e w' => e = .returned (.bool true) ∧ Below w.heap.size w w' := by
    have HX : Hid (LowEvs w.heap.size w (.slice a l.length cap) l) := hX
    have HV : Hid (LowEvs w.heap.size w (.slice a2 r.length cap2) r) := hV
    clear hX hV
    have hlt : ¬ ((1048576 : Int) - (l.length : Int) < 0) := by omega
    have hlt2 : ¬ ((1048576 : Int) - (l.length : Int) - (r.length : Int) < 0) := by omega
    obtain ⟨l', bb, hl', hsp, him⟩ := join_both l r hl hr hs
    have HSP : Hid (∀ (w : World) (g h : Nat), RowTo w g l.length l l.length → RowTo w h r.length r r.length → Calls Try.prog 8 #[.slice (some ⟨g, 0, none⟩) l.length l.length, .slice (some ⟨h, 0, none⟩) r.length r.length] w fun e w' => Answers w.heap.size l' bb e w' ∧ Below w.heap.size w w') := hsp
    have HIM : Hid (∀ (w : World) (g h : Nat), RowTo w g l.length l l.length → RowTo w h r.length r r.length → Calls Try.prog 10 #[.slice (some ⟨g, 0, none⟩) l.length l.length, .slice (some ⟨h, 0, none⟩) r.length r.length] w fun e w' => Answers w.heap.size l' bb e w' ∧ Below w.heap.size w w') := him
    clear hsp him
    go_enter Try.func3, Try.ntmps3
    go_wp2_with fail
    refine (sz_small a l.length cap _ hl).mono ?_
    rintro e w' ⟨rfl, hw⟩
    have hw' := hw.symm
    clear hw
    subst hw'
    go_wp2_with fail
    refine (sz_rest a2 r.length cap2 l.length _ hl hs).mono ?_
    rintro e w' ⟨rfl, hw⟩
    have hw' := hw.symm
    clear hw
    subst hw'
    have HB_w : Hid (Below w.heap.size w w) := Below.refl _ _
    go_wp2_with fail
    have HXc : Hid (LowEvs w.heap.size w (.slice a l.length cap) l) := HX.out.below HB_w.out
    refine (toEventS_any _ l _ hl HXc.out.isEvs).mono ?_
    rintro e wa ⟨rfl, hbwa, hrwa⟩
    have HR_wa : Hid (RowTo wa w.heap.size l.length l l.length) := hrwa
    have hxwa : w.heap.size < wa.heap.size := hrwa.1
    have hz_wa : w.heap.size ≤ wa.heap.size := hbwa.size
    have HB_wa : Hid (Below w.heap.size w wa) := HB_w.out.trans (hbwa.mono HB_w.out.size)
    clear HB_w HXc hrwa hbwa
    go_wp2_with fail
    have HXc : Hid (LowEvs w.heap.size wa (.slice a2 r.length cap2) r) := HV.out.below HB_wa.out
    refine (toEventS_any _ r _ hr HXc.out.isEvs).mono ?_
    rintro e wb ⟨rfl, hbwb, hrwb⟩
    have HQ_wb : Hid (RowTo wb wa.heap.size r.length r r.length) := hrwb
    have hxwb : wa.heap.size < wb.heap.size := hrwb.1
    have hz_wb : wa.heap.size ≤ wb.heap.size := hbwb.size
    have HB_wb : Hid (Below w.heap.size w wb) := HB_wa.out.trans (hbwb.mono HB_wa.out.size)
    have HR_wb : Hid (RowTo wb w.heap.size l.length l l.length) := HR_wa.out.below hbwb (by omega)
    clear HB_wa HR_wa HXc hrwb hbwb
    go_wp2_with fail
    refine (HSP.out _ _ _ HR_wb.out HQ_wb.out).mono ?_
    rintro e w2 ⟨⟨xs, rfl, hxs⟩, hbw2⟩
    have HS_w2 : Hid (LowEvs w2.heap.size w2 xs l') := hxs.isEvs.low
    have hz_w2 : wb.heap.size ≤ w2.heap.size := hbw2.size
    have HB_w2 : Hid (Below w.heap.size w w2) := HB_wb.out.trans (hbw2.mono HB_wb.out.size)
    clear HB_wb HR_wb HQ_wb hxs hbw2 HSP
    go_wp2_with fail
    have HXc : Hid (LowEvs w.heap.size w2 (.slice a l.length cap) l) := HX.out.below HB_w2.out
    refine (toEventS_any _ l _ hl HXc.out.isEvs).mono ?_
    rintro e w3 ⟨rfl, hbw3, hrw3⟩
    have HR_w3 : Hid (RowTo w3 w2.heap.size l.length l l.length) := hrw3
    have hxw3 : w2.heap.size < w3.heap.size := hrw3.1
    have hz_w3 : w2.heap.size ≤ w3.heap.size := hbw3.size
    have HB_w3 : Hid (Below w.heap.size w w3) := HB_w2.out.trans (hbw3.mono HB_w2.out.size)
    have HS_w3 : Hid (LowEvs w2.heap.size w3 xs l') := HS_w2.out.below (hbw3.mono (by omega))
    clear HB_w2 HS_w2 HXc hrw3 hbw3
    go_wp2_with fail
    have HXc : Hid (LowEvs w.heap.size w3 (.slice a2 r.length cap2) r) := HV.out.below HB_w3.out
    refine (toEventS_any _ r _ hr HXc.out.isEvs).mono ?_
    rintro e w3b ⟨rfl, hbw3b, hrw3b⟩
    have HQ_w3b : Hid (RowTo w3b w3.heap.size r.length r r.length) := hrw3b
    have hxw3b : w3.heap.size < w3b.heap.size := hrw3b.1
    have hz_w3b : w3.heap.size ≤ w3b.heap.size := hbw3b.size
    have HB_w3b : Hid (Below w.heap.size w w3b) := HB_w3.out.trans (hbw3b.mono HB_w3.out.size)
    have HS_w3b : Hid (LowEvs w2.heap.size w3b xs l') := HS_w3.out.below (hbw3b.mono (by omega))
    have HR_w3b : Hid (RowTo w3b w2.heap.size l.length l l.length) := HR_w3.out.below hbw3b (by omega)
    clear HB_w3 HS_w3 HR_w3 HXc hrw3b hbw3b
    go_wp2_with fail
    refine (HIM.out _ _ _ HR_w3b.out HQ_w3b.out).mono ?_
    rintro e w4 ⟨⟨xg, rfl, hxg⟩, hbw4⟩
    have HG_w4 : Hid (OwnEvs w3b.heap.size w4 xg l') := hxg
    have hz_w4 : w3b.heap.size ≤ w4.heap.size := hbw4.size
    have HB_w4 : Hid (Below w.heap.size w w4) := HB_w3b.out.trans (hbw4.mono HB_w3b.out.size)
    have HS_w4 : Hid (LowEvs w2.heap.size w4 xs l') := HS_w3b.out.below (hbw4.mono (by omega))
    have HR_w4 : Hid (RowTo w4 w2.heap.size l.length l l.length) := HR_w3b.out.below hbw4 (by omega)
    have HQ_w4 : Hid (RowTo w4 w3.heap.size r.length r r.length) := HQ_w3b.out.below hbw4 (by omega)
    clear HB_w3b HS_w3b HR_w3b HQ_w3b hxg hbw4
    go_wp2_with fail
    refine (eqS_same' _ _ l' _ hl' HG_w4.out.isEvs HS_w4.out.isEvs).mono ?_
    rintro e w5 ⟨rfl, hbw5⟩
    have hz_w5 : w4.heap.size ≤ w5.heap.size := hbw5.size
    have HB_w5 : Hid (Below w.heap.size w w5) := HB_w4.out.trans (hbw5.mono HB_w4.out.size)
    have HS_w5 : Hid (LowEvs w2.heap.size w5 xs l') := HS_w4.out.below (hbw5.mono (by omega))
    have HR_w5 : Hid (RowTo w5 w2.heap.size l.length l l.length) := HR_w4.out.below hbw5 (by omega)
    have HQ_w5 : Hid (RowTo w5 w3.heap.size r.length r r.length) := HQ_w4.out.below hbw5 (by omega)
    have HG_w5 : Hid (OwnEvs w3b.heap.size w5 xg l') := HG_w4.out.below hbw5
    clear HB_w4 HS_w4 HR_w4 HQ_w4 HG_w4 hbw5
    go_wp2_with fail
    have HXc : Hid (LowEvs w.heap.size w5 (.slice a l.length cap) l) := HX.out.below HB_w5.out
    refine (toEventS_any _ l _ hl HXc.out.isEvs).mono ?_
    rintro e w6 ⟨rfl, hbw6, hrw6⟩
    have HT_w6 : Hid (IsEvs w6 (.slice (some ⟨w5.heap.size, 0, none⟩) l.length l.length) l) := hrw6.isEvs hl
    have hz_w6 : w5.heap.size ≤ w6.heap.size := hbw6.size
    have HB_w6 : Hid (Below w.heap.size w w6) := HB_w5.out.trans (hbw6.mono HB_w5.out.size)
    have HS_w6 : Hid (LowEvs w2.heap.size w6 xs l') := HS_w5.out.below (hbw6.mono (by omega))
    have HR_w6 : Hid (RowTo w6 w2.heap.size l.length l l.length) := HR_w5.out.below hbw6 (by omega)
    have HQ_w6 : Hid (RowTo w6 w3.heap.size r.length r r.length) := HQ_w5.out.below hbw6 (by omega)
    have HG_w6 : Hid (OwnEvs w3b.heap.size w6 xg l') := HG_w5.out.below hbw6
    clear HB_w5 HS_w5 HR_w5 HQ_w5 HG_w5 HXc hrw6 hbw6
    go_wp2_with fail
    refine (eqS_same _ _ l _ hl (HR_w6.out.isEvs hl) HT_w6.out).mono ?_
    rintro e w7 ⟨rfl, hbw7⟩
    have hz_w7 : w6.heap.size ≤ w7.heap.size := hbw7.size
    have HB_w7 : Hid (Below w.heap.size w w7) := HB_w6.out.trans (hbw7.mono HB_w6.out.size)
    have HS_w7 : Hid (LowEvs w2.heap.size w7 xs l') := HS_w6.out.below (hbw7.mono (by omega))
    have HR_w7 : Hid (RowTo w7 w2.heap.size l.length l l.length) := HR_w6.out.below hbw7 (by omega)
    have HQ_w7 : Hid (RowTo w7 w3.heap.size r.length r r.length) := HQ_w6.out.below hbw7 (by omega)
    have HG_w7 : Hid (OwnEvs w3b.heap.size w7 xg l') := HG_w6.out.below hbw7
    clear HB_w6 HS_w6 HR_w6 HQ_w6 HG_w6 HT_w6 hbw7
    go_wp2_with fail
    have HXc : Hid (LowEvs w.heap.size w7 (.slice a2 r.length cap2) r) := HV.out.below HB_w7.out
    refine (toEventS_any _ r _ hr HXc.out.isEvs).mono ?_
    rintro e w6b ⟨rfl, hbw6b, hrw6b⟩
    have HU_w6b : Hid (IsEvs w6b (.slice (some ⟨w7.heap.size, 0, none⟩) r.length r.length) r) := hrw6b.isEvs hr
    have hz_w6b : w7.heap.size ≤ w6b.heap.size := hbw6b.size
    have HB_w6b : Hid (Below w.heap.size w w6b) := HB_w7.out.trans (hbw6b.mono HB_w7.out.size)
    have HS_w6b : Hid (LowEvs w2.heap.size w6b xs l') := HS_w7.out.below (hbw6b.mono (by omega))
    have HR_w6b : Hid (RowTo w6b w2.heap.size l.length l l.length) := HR_w7.out.below hbw6b (by omega)
    have HQ_w6b : Hid (RowTo w6b w3.heap.size r.length r r.length) := HQ_w7.out.below hbw6b (by omega)
    have HG_w6b : Hid (OwnEvs w3b.heap.size w6b xg l') := HG_w7.out.below hbw6b
    clear HB_w7 HS_w7 HR_w7 HQ_w7 HG_w7 HXc hrw6b hbw6b
    go_wp2_with fail
    refine (eqS_same _ _ r _ hr (HQ_w6b.out.isEvs hr) HU_w6b.out).mono ?_
    rintro e w7b ⟨rfl, hbw7b⟩
    have hz_w7b : w6b.heap.size ≤ w7b.heap.size := hbw7b.size
    have HB_w7b : Hid (Below w.heap.size w w7b) := HB_w6b.out.trans (hbw7b.mono HB_w6b.out.size)
    have HS_w7b : Hid (LowEvs w2.heap.size w7b xs l') := HS_w6b.out.below (hbw7b.mono (by omega))
    have HR_w7b : Hid (RowTo w7b w2.heap.size l.length l l.length) := HR_w6b.out.below hbw7b (by omega)
    have HQ_w7b : Hid (RowTo w7b w3.heap.size r.length r r.length) := HQ_w6b.out.below hbw7b (by omega)
    have HG_w7b : Hid (OwnEvs w3b.heap.size w7b xg l') := HG_w6b.out.below hbw7b
    clear HB_w6b HS_w6b HR_w6b HQ_w6b HG_w6b HU_w6b hbw7b
    go_wp2_with fail
    refine (mark_any w2.heap.size l.length l.length l _ (by omega) ⟨HR_w7b.out.1, HR_w7b.out.2.1, fun i hi => by omega⟩).mono ?_
    rintro e w8 ⟨rfl, _, hg8⟩
    have hz_w8 : w7b.heap.size ≤ w8.heap.size := hg8.size
    have hbx8 : Below w2.heap.size w7b w8 := (Below.refl _ w7b).grown hg8 (by omega) (fun k e => by cases e; exact Nat.le_refl _)
    have HB_w8 : Hid (Below w.heap.size w w8) := HB_w7b.out.trans (hbx8.mono (by omega))
    have HS_w8 : Hid (LowEvs w2.heap.size w8 xs l') := HS_w7b.out.below hbx8
    have HG_w8 : Hid (OwnEvs w3b.heap.size w8 xg l') := HG_w7b.out.other (by omega) hg8
    have HQ_w8 : Hid (RowTo w8 w3.heap.size r.length r r.length) := HQ_w7b.out.same (hg8.block _ (by have := HQ_w7b.out.1; omega) (by intro e; have := Option.some.inj e; omega)) hg8.size
    clear hg8 hbx8 HB_w7b HS_w7b HG_w7b HQ_w7b HR_w7b
    go_wp2_with fail
    refine (mark_from w3.heap.size r.length r.length (7 * (l.length : Int) + 1) r _ (by omega) (by omega) (by omega) HQ_w8.out).mono ?_
    rintro e w8b ⟨rfl, hg8⟩
    have hk0 : ¬ (7 * (l.length : Int) + 1 + 7 * (r.length : Int) < 0) := by omega
    have hz_w8b : w8.heap.size ≤ w8b.heap.size := hg8.size
    have hbx8 : Below w3.heap.size w8 w8b := (Below.refl _ w8).grown hg8 (by omega) (fun k e => by cases e; exact Nat.le_refl _)
    have HB_w8b : Hid (Below w.heap.size w w8b) := HB_w8.out.trans (hbx8.mono (by omega))
    have HS_w8b : Hid (LowEvs w2.heap.size w8b xs l') := HS_w8.out.below (hbx8.mono (by omega))
    have HG_w8b : Hid (OwnEvs w3b.heap.size w8b xg l') := HG_w8.out.other (by omega) hg8
    clear hg8 hbx8 HB_w8 HS_w8 HG_w8 HQ_w8
    go_wp2_with fail
    refine (eqS_same' _ _ l' _ hl' HG_w8b.out.isEvs HS_w8b.out.isEvs).mono ?_
    rintro e w9 ⟨rfl, hbw9⟩
    have hz_w9 : w8b.heap.size ≤ w9.heap.size := hbw9.size
    have HB_w9 : Hid (Below w.heap.size w w9) := HB_w8b.out.trans (hbw9.mono HB_w8b.out.size)
    have HS_w9 : Hid (LowEvs w2.heap.size w9 xs l') := HS_w8b.out.below (hbw9.mono (by omega))
    have HG_w9 : Hid (OwnEvs w3b.heap.size w9 xg l') := HG_w8b.out.below hbw9
    clear HB_w8b HS_w8b HG_w8b hbw9
    go_wp2_with fail
    refine (mark_own HG_w9.out hl').mono ?_
    rintro e w10 ⟨m, hm, rfl, hh10, ht10⟩
    have hbt : Below w3b.heap.size w9 w10 := ht10.below (by omega)
    have hz_w10 : w9.heap.size ≤ w10.heap.size := hbt.size
    have hmn : ¬ (m < 0) := by omega
    have HB_w10 : Hid (Below w.heap.size w w10) := HB_w9.out.trans (hbt.mono (by omega))
    have HS_w10 : Hid (LowEvs w2.heap.size w10 xs l') := HS_w9.out.below (hbt.mono (by omega))
    have HHH_w10 : Hid (HeldIn w10 xg m) := hh10
    clear hh10 ht10 hbt HB_w9 HS_w9 HG_w9
    go_wp2_with fail
    refine (held_in HHH_w10.out).mono ?_
    rintro e w' ⟨rfl, hw⟩
    have hw' := hw.symm
    clear hw
    subst hw'
    go_wp2_with fail
    have HXc : Hid (LowEvs w.heap.size w10 (.slice a l.length cap) l) := HX.out.below HB_w10.out
    refine (toEventS_any _ l _ hl HXc.out.isEvs).mono ?_
    rintro e w11 ⟨rfl, hbw11, hrw11⟩
    have HR_w11 : Hid (RowTo w11 w10.heap.size l.length l l.length) := hrw11
    have hxw11 : w10.heap.size < w11.heap.size := hrw11.1
    have hz_w11 : w10.heap.size ≤ w11.heap.size := hbw11.size
    have HB_w11 : Hid (Below w.heap.size w w11) := HB_w10.out.trans (hbw11.mono HB_w10.out.size)
    have HS_w11 : Hid (LowEvs w2.heap.size w11 xs l') := HS_w10.out.below (hbw11.mono (by omega))
    have HHH_w11 : Hid (HeldIn w11 xg m) := HHH_w10.out.below hbw11
    clear HB_w10 HS_w10 HHH_w10 HXc hrw11 hbw11
    go_wp2_with fail
    have HXc : Hid (LowEvs w.heap.size w11 (.slice a2 r.length cap2) r) := HV.out.below HB_w11.out
    refine (toEventS_any _ r _ hr HXc.out.isEvs).mono ?_
    rintro e w11b ⟨rfl, hbw11b, hrw11b⟩
    have HQ_w11b : Hid (RowTo w11b w11.heap.size r.length r r.length) := hrw11b
    have hxw11b : w11.heap.size < w11b.heap.size := hrw11b.1
    have hz_w11b : w11.heap.size ≤ w11b.heap.size := hbw11b.size
    have HB_w11b : Hid (Below w.heap.size w w11b) := HB_w11.out.trans (hbw11b.mono HB_w11.out.size)
    have HS_w11b : Hid (LowEvs w2.heap.size w11b xs l') := HS_w11.out.below (hbw11b.mono (by omega))
    have HHH_w11b : Hid (HeldIn w11b xg m) := HHH_w11.out.below hbw11b
    have HR_w11b : Hid (RowTo w11b w10.heap.size l.length l l.length) := HR_w11.out.below hbw11b (by omega)
    clear HB_w11 HS_w11 HHH_w11 HR_w11 HXc hrw11b hbw11b
    go_wp2_with fail
    refine (HIM.out _ _ _ HR_w11b.out HQ_w11b.out).mono ?_
    rintro e w12 ⟨⟨xh, rfl, hxh⟩, hbw12⟩
    have HK : Hid (IsEvs w12 xh l') := hxh.isEvs
    have hz_w12 : w11b.heap.size ≤ w12.heap.size := hbw12.size
    have HB_w12 : Hid (Below w.heap.size w w12) := HB_w11b.out.trans (hbw12.mono HB_w11b.out.size)
    have HS_w12 : Hid (LowEvs w2.heap.size w12 xs l') := HS_w11b.out.below (hbw12.mono (by omega))
    have HHH_w12 : Hid (HeldIn w12 xg m) := HHH_w11b.out.below hbw12
    clear HB_w11b HS_w11b HHH_w11b HR_w11b HQ_w11b hxh hbw12 HIM
    go_wp2_with fail
    refine (eqS_same' _ _ l' _ hl' HK.out HS_w12.out.isEvs).mono ?_
    rintro e w13 ⟨rfl, hbw13⟩
    have hz_w13 : w12.heap.size ≤ w13.heap.size := hbw13.size
    have HB_w13 : Hid (Below w.heap.size w w13) := HB_w12.out.trans (hbw13.mono HB_w12.out.size)
    have HHH_w13 : Hid (HeldIn w13 xg m) := HHH_w12.out.below hbw13
    clear HB_w12 HS_w12 HHH_w12 hbw13 HK
    go_wp2_with fail
    refine (held_in HHH_w13.out).mono ?_
    rintro e w' ⟨rfl, hw⟩
    have hw' := hw.symm
    clear hw
    subst hw'
    go_wp2
    go_ret
    exact ⟨rfl, HB_w13.out⟩
set_option maxRecDepth 100000 in
set_option maxHeartbeats 8000000 in
theorem walk (x : Value) (l : List Ev) (x2 : Value) (r : List Ev) (w : World) (hx : IsEvs w x l) (hx2 : IsEvs w x2 r) :
    Calls Try.prog 3 #[x, x2] w fun e w' => e = .returned (.bool true) ∧ Below w.heap.size w w' := by
  have HX : Hid (LowEvs w.heap.size w x l) := hx.low
  have HV : Hid (LowEvs w.heap.size w x2 r) := hx2.low
  obtain ⟨a, cap, rfl, h1, h2, _⟩ := hx
  obtain ⟨a2, cap2, rfl, h3, h4, _⟩ := hx2
  by_cases hl : l.length ≤ 1048576
  · have hlt : ¬ ((1048576 : Int) - (l.length : Int) < 0) := by omega
    by_cases hs : r.length ≤ 1048576 - l.length
    · have hr : r.length ≤ 1048576 := by omega
      exact walk1 a cap a2 cap2 l r w hl hr hs HX.out HV.out
    · have hs1 : ¬ ((r.length : Int) ≤ 1048576 - (l.length : Int)) := by omega
      go_enter Try.func3, Try.ntmps3
      go_wp2_with fail
      refine (sz_small a l.length cap _ hl).mono ?_
      rintro e w' ⟨rfl, hw⟩
      have hw' := hw.symm
      clear hw
      subst hw'
      go_wp2_with fail
      refine (sz_over a2 r.length cap2 l.length _ (Nat.le_trans h3 h4) hl hs).mono ?_
      rintro e w' ⟨rfl, hw⟩
      have hw' := hw.symm
      clear hw
      subst hw'
      go_wp2
      go_ret
      exact ⟨rfl, Below.refl _ _⟩
  · go_enter Try.func3, Try.ntmps3
    go_wp2_with fail
    refine (sz_big a l.length cap _ (Nat.le_trans h1 h2) hl).mono ?_
    rintro e w' ⟨rfl, hw⟩
    have hw' := hw.symm
    clear hw
    subst hw'
    go_wp2
    go_ret
    exact ⟨rfl, Below.refl _ _⟩
set_option maxRecDepth 100000 in
theorem lifted (os : Os) (started : os.Started) (H : Type) (enc : TypeId × Value → H) :
    ReturnsInHanded {} Try.checked os 3 .any (Rows.fnExactHeapJoinSpec.pre6 enc Try.prog Try.f3 Rows.fnExactHeapJoinRow.domain false) (Rows.fnExactHeapJoinSpec.post enc Try.prog Try.f3 false true false false) := by
  refine returnsInHanded_of_change (C := Try.checked) own started (by kernel_rfl) Try.func3
    (ChangeSpec.witness6 (enc := enc) (C := Try.checked) false ⟨#[], #[.slice none 0 0, .slice none 0 0], []⟩ 8 (by kernel_rfl) (by kernel_rfl) (by kernel_rfl) (by kernel_rfl)) ?_
  intro W base args ds gs before hval0 hW hcnd _
  have hval : ∀ (j : Nat) t v, Try.f3.params[j]? = some t → args[j]? = some v → Value.okWide Try.prog W .any base t v := hval0
  have hW' := hW
  obtain ⟨p, q, hA0, hV, rfl, hfz, hnd⟩ := hW
  have hA : DataW.TrodAll enc Try.prog W 0 (fun _ => true) true Try.f3.params.toList args.toList ds p := hA0
  rw [Try.params3] at hA hval
  obtain ⟨v0, vs0, d0, ds0, p0, q0, hargs, rfl, rfl, h0, r0⟩ := trodAll_cons hA
  obtain ⟨v1, vs1, d1, ds1, p1, q1, rfl, rfl, rfl, h1, r1⟩ := trodAll_cons r0
  obtain ⟨rfl, rfl, rfl⟩ := trodAll_nil r1
  obtain rfl : args = #[v0, v1] := by cases args; simp_all
  obtain ⟨rfl, rfl⟩ := trodVars_none hV
  have k0 := h0
  have lt0 : ∀ x ∈ p0, x.block < W.heap.size := by obtain ⟨m, hm⟩ := k0; exact DataW.trod_lt m _ _ _ hm
  have k1 := h1
  have lt1 : ∀ x ∈ p1, x.block < W.heap.size := by obtain ⟨m, hm⟩ := k1; exact DataW.trod_lt m _ _ _ hm
  obtain ⟨l0, g0⟩ := open_evs (hval 0 22 v0 rfl rfl) h0
  obtain ⟨l1, g1⟩ := open_evs (hval 1 22 v1 rfl rfl) h1
  clear hA0 hval0
  refine (walk v0 l0 v1 l1 W g0 g1).mono fun e W' ⟨he, bel⟩ => ?_
  subst he
  exact ⟨_, rfl, _, _, _, [], _, [], hW', trodAll_mk1 (shut_bool Try.underlying4 _), (trodAll_cons_mk (Below.trod laidOut (by kernel_rfl) (of_decide_eq_true (by kernel_rfl)) k0 bel lt0) (trodAll_cons_mk (Below.trod laidOut (by kernel_rfl) (of_decide_eq_true (by kernel_rfl)) k1 bel lt1) trodAll_mk0)), rfl, bel.frame _, fun h => by cases h⟩

theorem over : Rows.fnExactHeapJoinRow.holds Try.pinned (OpenSpec.ofChange Rows.fnExactHeapJoinSpec) :=
  OpenClaim.holds_of_wide 3 Try.f3 rfl rfl rfl rfl rfl rfl rfl ⟨rfl, rfl, rfl, rfl, rfl⟩ rfl rfl rfl rfl rfl (by kernel_rfl) Try.func3 (by kernel_rfl)
    (of_decide_eq_true (by kernel_rfl)) (by unfold Func.isWrapper; first | (rw [if_pos (by decide +kernel)]; kernel_rfl) | (rw [if_neg (by decide +kernel)]; exact ⟨rfl, rfl⟩))
    (fun os started H enc _ => lifted os started H enc)
end Go.Proofs.Ythklekjglocbgab.LawHeapJoin
namespace Go.Proofs.Ythklekjglocbgab
theorem heapJoin_holds : Rows.FnExactHeapJoinSaid := LawHeapJoin.over
#print axioms heapJoin_holds
end Go.Proofs.Ythklekjglocbgab
