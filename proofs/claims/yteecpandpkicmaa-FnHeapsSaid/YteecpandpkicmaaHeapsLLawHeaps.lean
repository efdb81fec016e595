/- At every code of at most 2^47 - 4096 bytes (the form's own reach): what is pushed on a drawn heap leaves a heap; what is popped is ahead of all that stays; a drop of the tag pushed leaves what was there; the code reads as it did; no condition. -/
import Derived.Test.YteecpandpkicmaaHeapsG43
namespace Go.Proofs.Yteecpandpkicmaa.LawHeaps
open Go.ChangeShapes Go.WideShapes Go.ChangeAt Go.RowKit Go.Proofs.Yteecpandpkicmaa

set_option maxRecDepth 100000 in
set_option maxHeartbeats 8000000 in
theorem walk (a : Option Addr) (n cap : Nat) (w : World) (hn : n ≤ 140737488351232) (hC : CodeIn w w.heap.size a n) :
    Calls Try.prog 4 #[.slice a n cap] w fun e w' => e = .returned (.bool true) ∧ Below w.heap.size w w' := by
  have HC : Hid (CodeIn w w.heap.size a n) := hC
  clear hC
  have hnot : ∀ (x : Bool) (w : World), (Op.unary .not (.bool x)).run Try.prog w = .ok (.bool (!x)) w := fun _ _ => rfl
  go_enter Try.func4, Try.ntmps4
  go_wp2_with fail
  refine (drawPush_any a n cap _ (by omega) HC.out).mono ?_
  rintro r w1 ⟨v, l, e, rfl, hR1, hl, hB1⟩
  have HR1 : Hid (OwnR w.heap.size w1 v l) := hR1
  have HB1 : Hid (Below w.heap.size w w1) := hB1
  have hs1 : w.heap.size ≤ w1.heap.size := hB1.size
  clear hR1 hB1 HC
  have HBa : Hid (Below w1.heap.size w1 (w1.alloc (.cells #[.int .i64 e.t, .int .i64 e.s, .int .i64 e.q, .int .i64 e.d, .int .i64 e.k, .int .i64 e.v, .int .i64 e.g] 25))) := (Below.refl _ w1).alloc (Nat.le_refl _) _
  have HRa : Hid (OwnR w.heap.size (w1.alloc (.cells #[.int .i64 e.t, .int .i64 e.s, .int .i64 e.q, .int .i64 e.d, .int .i64 e.k, .int .i64 e.v, .int .i64 e.g] 25)) v l) := HR1.out.below HBa.out
  have HXa : Hid (Ev.In (w1.alloc (.cells #[.int .i64 e.t, .int .i64 e.s, .int .i64 e.q, .int .i64 e.d, .int .i64 e.k, .int .i64 e.v, .int .i64 e.g] 25)) w1.heap.size 0 e) := EvAt.new _ _ _ _ _ _ _ _ _
  obtain ⟨va, vcap, rfl, _, _, _⟩ := HR1.out.evs
  go_wp2_with fail
  refine (push_all e HRa.out hl (by simp)).mono ?_
  rintro r w2 ⟨hins, hB2⟩
  have HB2 : Hid (Below w.heap.size w w2) := (HB1.out.alloc hs1 _).trans (hB2.mono (by simp; omega))
  have HR2 : Hid (OwnR w.heap.size w2 (.slice va l.length vcap) l) := HRa.out.below hB2
  have HX2 : Hid (Ev.In w2 w1.heap.size 0 e) := HXa.out.below hB2 (by simp)
  have hz2 : w1.heap.size < w2.heap.size := by have := hB2.size; simp at this; omega
  clear hB2 HRa HBa HXa HR1 HB1
  rcases hins with ⟨hg, he, hno, xa, xcap, rfl, hX⟩ | ⟨x, l', rfl, hx, hl'⟩
  · obtain ⟨k0, hk0, hzg, hzs⟩ := push_drop hg he hno (by omega)
    have HGL : Hid (GoodH l) := hg
    have HG : Hid (GoodH (pushL l e)) := goodH_push hg he hno (by omega)
    have HLN : Hid ((pushL l e).length = l.length + 1) := pushL_length l e
    have HW : Hid (wfI e.g) := okB_tag he
    have HX : Hid (Src w2 (.slice xa (l.length + 1) xcap) (pushL l e)) := hX.src
    have HFA : Hid (FirstAt (pushL l e) e.g k0) := hk0
    have HZG : Hid (GoodH (takeL (pushL l e) k0)) := hzg
    have HZS : Hid (sortN l.length (takeL (pushL l e) k0) = sortN l.length l) := hzs
    clear hg he hno hX hk0 hzg hzs
    generalize pushL l e = m at HG HFA HLN HX HZG HZS
    have HAH : Hid (∀ j, j < l.length → (evAt m 0).ecmp (evAt (takeL m 0) j) < 0) := fun j hj => pop_ahead HG.out (by have := HLN.out; omega) j (by have := HLN.out; rw [takeL_length]; omega)
    have HTG : Hid (GoodH (takeL m 0)) := goodH_take HG.out (by have := HLN.out; omega)
    have HTL : Hid ((takeL m 0).length = l.length) := by have := HLN.out; show _ = _; rw [takeL_length]; omega
    have HKL : Hid ((takeL m k0).length = l.length) := by have := HLN.out; show _ = _; rw [takeL_length]; omega
    have HPO : Hid (∀ W, Src W (.slice xa (l.length + 1) xcap) m → 0 < W.heap.size → Calls Try.prog 16 #[.slice xa (l.length + 1) xcap] W fun r w' => ∃ ya ycap, r = .returned (.tuple #[.slice ya l.length ycap, (evAt m 0).val, .bool true]) ∧ OwnR W.heap.size w' (.slice ya l.length ycap) (takeL m 0) ∧ Below W.heap.size W w') := fun W hE hW => by
      rw [← HLN.out] at hE ⊢
      refine (gPop_good xa xcap m W (by have := HLN.out; omega) hE hW HG.out l.length HLN.out).mono ?_
      rintro r w' ⟨⟨y, rfl, hy⟩, hb⟩
      obtain ⟨ya, ycap, rfl, _, _, _⟩ := hy.evs
      rw [HTL.out] at hy ⊢
      exact ⟨ya, ycap, rfl, hy, hb⟩
    have HDR : Hid (∀ W, Src W (.slice xa (l.length + 1) xcap) m → 0 < W.heap.size → Calls Try.prog 19 #[.slice xa (l.length + 1) xcap, .int .i64 e.g] W fun r w' => ∃ ya ycap, r = .returned (.tuple #[.slice ya l.length ycap, .bool true]) ∧ OwnR W.heap.size w' (.slice ya l.length ycap) (takeL m k0) ∧ Below W.heap.size W w') := fun W hE hW => by
      rw [← HLN.out] at hE ⊢
      refine (gDrop_some xa xcap m e.g k0 W (by have := HLN.out; omega) hE hW HG.out HW.out HFA.out).mono ?_
      rintro r w' ⟨⟨y, rfl, hy⟩, hb⟩
      obtain ⟨ya, ycap, rfl, _, _, _⟩ := hy.evs
      rw [HKL.out] at hy ⊢
      exact ⟨ya, ycap, rfl, hy, hb⟩
    have HOK : Hid (∀ W, Src W (.slice xa (l.length + 1) xcap) m → 0 < W.heap.size → Calls Try.prog 17 #[.slice xa (l.length + 1) xcap] W fun r w' => r = .returned (.bool true) ∧ Below W.heap.size W w') := fun W hE hW => by
      rw [← HLN.out] at hE ⊢
      refine (iHeap_src xa xcap m W (by have := HLN.out; omega) hE hW).mono ?_
      rintro r w' ⟨⟨bb, rfl, hs⟩, hb⟩
      obtain rfl := hs.2 HG.out
      exact ⟨rfl, hb⟩
    have HOT : Hid (∀ W ya ycap, Src W (.slice ya l.length ycap) (takeL m 0) → 0 < W.heap.size → Calls Try.prog 17 #[.slice ya l.length ycap] W fun r w' => r = .returned (.bool true) ∧ Below W.heap.size W w') := fun W ya ycap hE hW => by
      rw [← HTL.out] at hE ⊢
      refine (iHeap_src ya ycap (takeL m 0) W (by have := HTL.out; omega) hE hW).mono ?_
      rintro r w' ⟨⟨bb, rfl, hs⟩, hb⟩
      obtain rfl := hs.2 HTG.out
      exact ⟨rfl, hb⟩
    have HSZ : Hid (∀ W ya ycap, Src W (.slice ya l.length ycap) (takeL m k0) → 0 < W.heap.size → Calls Try.prog 20 #[.slice ya l.length ycap] W fun r w' => ∃ x, r = .returned (.tuple #[x, .bool true]) ∧ OwnR W.heap.size w' x (sortN l.length l) ∧ Below W.heap.size W w') := fun W ya ycap hE hW => by
      have hzs := HZS.out
      rw [← HKL.out] at hE hzs ⊢
      refine (gSort_good ya ycap (takeL m k0) W (by have := HKL.out; omega) hE hW HZG.out).mono ?_
      rintro r w' ⟨⟨x, rfl, hx⟩, hb⟩
      rw [hzs] at hx
      exact ⟨x, rfl, hx, hb⟩
    have HSH : Hid (∀ W, Src W (.slice va l.length vcap) l → 0 < W.heap.size → Calls Try.prog 20 #[.slice va l.length vcap] W fun r w' => ∃ x, r = .returned (.tuple #[x, .bool true]) ∧ OwnR W.heap.size w' x (sortN l.length l) ∧ Below W.heap.size W w') := fun W hE hW => by
      refine (gSort_good va vcap l W (by omega) hE hW HGL.out).mono ?_
      rintro r w' ⟨⟨x, rfl, hx⟩, hb⟩
      exact ⟨x, rfl, hx, hb⟩
    clear HG HFA HZG HZS HGL HW
    go_wp2_with fail
    refine (HPO.out _ HX.out (by omega)).mono ?_
    rintro r w3 ⟨ya, ycap, rfl, hY3, hB3⟩
    have HB3 : Hid (Below w.heap.size w w3) := HB2.out.trans (hB3.mono HB2.out.size)
    have HY3 : Hid (OwnR w2.heap.size w3 (.slice ya l.length ycap) (takeL m 0)) := hY3
    have HR3 : Hid (OwnR w.heap.size w3 (.slice va l.length vcap) l) := HR2.out.below hB3
    have HX3 : Hid (Src w3 (.slice xa (l.length + 1) xcap) m) := HX.out.below hB3
    have HE3 : Hid (Ev.In w3 w1.heap.size 0 e) := HX2.out.below hB3 hz2
    have hz3 : w1.heap.size < w3.heap.size := by have := hB3.size; omega
    clear hB3 HB2 HR2 HX hY3 HX2
    generalize hf : evAt m 0 = f at HAH
    have HF0 : Hid (evAt m 0 = f) := hf
    clear hf
    obtain ⟨W5, hW5⟩ : ∃ W5, w3.alloc (.cells #[.int .i64 f.t, .int .i64 f.s, .int .i64 f.q, .int .i64 f.d, .int .i64 f.k, .int .i64 f.v, .int .i64 f.g] 25) = W5 := ⟨_, rfl⟩
    have hBW : Below w3.heap.size w3 W5 := by rw [← hW5]; exact (Below.refl _ w3).alloc (Nat.le_refl _) _
    have HB5 : Hid (Below w.heap.size w W5) := HB3.out.trans (hBW.mono HB3.out.size)
    have HY5 : Hid (OwnR w2.heap.size W5 (.slice ya l.length ycap) (takeL m 0)) := HY3.out.below hBW
    have HR5 : Hid (OwnR w.heap.size W5 (.slice va l.length vcap) l) := HR3.out.below hBW
    have HX5 : Hid (Src W5 (.slice xa (l.length + 1) xcap) m) := HX3.out.below hBW
    have HF5 : Hid (Ev.In W5 w3.heap.size 0 f) := by rw [← hW5]; exact EvAt.new _ _ _ _ _ _ _ _ _
    have HE5 : Hid (Ev.In W5 w1.heap.size 0 e) := HE3.out.below hBW hz3
    have hz5 : w3.heap.size < W5.heap.size := by rw [← hW5]; simp
    clear hBW HB3 HY3 HR3 HX3 HE3
    go_wp2_with fail
    clear hW5
    refine (HOK.out _ HX5.out (by omega)).mono ?_
    rintro r w6 ⟨rfl, hB6⟩
    have HB6 : Hid (Below w.heap.size w w6) := HB5.out.trans (hB6.mono HB5.out.size)
    have HY6 : Hid (OwnR w2.heap.size w6 (.slice ya l.length ycap) (takeL m 0)) := HY5.out.below hB6
    have HR6 : Hid (OwnR w.heap.size w6 (.slice va l.length vcap) l) := HR5.out.below hB6
    have HX6 : Hid (Src w6 (.slice xa (l.length + 1) xcap) m) := HX5.out.below hB6
    have HF6 : Hid (Ev.In w6 w3.heap.size 0 f) := HF5.out.below hB6 hz5
    have HE6 : Hid (Ev.In w6 w1.heap.size 0 e) := HE5.out.below hB6 (by omega)
    have hz6 : w3.heap.size < w6.heap.size := by have := hB6.size; omega
    clear hB6 HB5 HY5 HR5 HX5 HE5 HF5 hz5
    go_wp2_with fail
    refine (HOT.out _ _ _ HY6.out.src (by omega)).mono ?_
    rintro r w7 ⟨rfl, hB7⟩
    have HB7 : Hid (Below w.heap.size w w7) := HB6.out.trans (hB7.mono HB6.out.size)
    have HY7 : Hid (OwnR w2.heap.size w7 (.slice ya l.length ycap) (takeL m 0)) := HY6.out.below hB7
    have HR7 : Hid (OwnR w.heap.size w7 (.slice va l.length vcap) l) := HR6.out.below hB7
    have HX7 : Hid (Src w7 (.slice xa (l.length + 1) xcap) m) := HX6.out.below hB7
    have HF7 : Hid (Ev.In w7 w3.heap.size 0 f) := HF6.out.below hB7 hz6
    have HE7 : Hid (Ev.In w7 w1.heap.size 0 e) := HE6.out.below hB7 (by omega)
    have hz7 : w3.heap.size < w7.heap.size := by have := hB7.size; omega
    clear hB7 HB6 HY6 HR6 HX6 HE6 HF6 hz6
    go_wp2
    go_loopw [10] (fun i wr => ∃ k : Nat, k ≤ l.length ∧ i = .int .i64 k ∧ Hid (Below w7.heap.size w7 wr)) (fun i _ => l.length - (intOf i).toNat)
    case atStart => exact ⟨0, Nat.zero_le _, rfl, Below.refl _ _⟩
    case round =>
      obtain ⟨k, hk, rfl, HB⟩ := hrel
      have hsz : w7.heap.size ≤ wr.heap.size := HB.out.size
      by_cases hlt : k < l.length
      · have hki : (k : Int) < (l.length : Int) := by omega
        have hk0 : (0 : Int) ≤ (k : Int) := by omega
        have hne : Nonempty (Beyond wr) := ⟨⟨wr, Below.refl _ _⟩⟩
        have HYr : Hid (OwnR w2.heap.size wr (.slice ya l.length ycap) (takeL m 0)) := HY7.out.below HB.out
        obtain ⟨g, rfl, hI⟩ : ∃ g, ya = some ⟨g, 0, none⟩ ∧ EvsAt wr g 0 (takeL m 0) := by
          rcases HYr.out.caps with ⟨_, h0⟩ | ⟨g, c, e, _, _, h, _⟩
          · have := HTL.out; rw [h0] at this; simp at this; omega
          · injection e with e1 _ _
            exact ⟨g, e1, h⟩
        have HI : Hid (EvsAt wr g 0 (takeL m 0)) := hI
        clear hI
        have HF : Hid (Ev.In wr w3.heap.size 0 f) := HF7.out.below HB.out hz7
        have hgl : g < wr.heap.size := HI.out.1
        obtain ⟨q0, q1, q2, q3, q4, q5, q6⟩ := (HI.out.2 k (by have := HTL.out; omega)).beyond hgl
        obtain ⟨g0, g1, g2, g3, g4, g5, g6⟩ := HF.out.beyond (by omega)
        simp only [Nat.zero_add] at q0 q1 q2 q3 q4 q5 q6 g0 g1 g2 g3 g4 g5 g6
        have hnz : f.ecmp (evAt (takeL m 0) k) < 0 := HAH.out k hlt
        generalize hz : f.ecmp (evAt (takeL m 0) k) = z at hnz
        have HZ : Hid (f.ecmp (evAt (takeL m 0) k) = z) := hz
        have hnz' : ¬ 0 ≤ z := by omega
        have hdz : decide (0 ≤ z) = false := by simpa using hnz'
        clear hz
        go_wp2_with fail
        refine wp_region_beyond (by kernel_rfl) (by kernel_rfl) ?_
        repeat (go_big_quiet_step (first | (go_at_call 18; exact Beyond.of (sCmp_ev f (evAt (takeL m 0) k) z HZ.out _))))
        refine wpQuiet_nil ?_
        rintro w8 ⟨⟨_, hb8⟩, rfl⟩
        clear q0 q1 q2 q3 q4 q5 q6 g0 g1 g2 g3 g4 g5 g6 hne
        go_wp2
        go_roundw
        case rel => exact ⟨k + 1, by omega, by go_num, HB.out.trans (hb8.mono hsz)⟩
        case measure => simp [intOf]; omega
      · have hki : ¬ (k : Int) < (l.length : Int) := by omega
        have HR8 : Hid (OwnR w.heap.size wr (.slice va l.length vcap) l) := HR7.out.below HB.out
        have HX8 : Hid (Src wr (.slice xa (l.length + 1) xcap) m) := HX7.out.below HB.out
        have HE8 : Hid (Ev.In wr w1.heap.size 0 e) := HE7.out.below HB.out (by omega)
        have HB8 : Hid (Below w.heap.size w wr) := HB7.out.trans (HB.out.mono HB7.out.size)
        clear HB7 HR7 HX7 HE7 HY7 HF7
        obtain ⟨f0, f1, f2, f3, f4, f5, f6⟩ := HE8.out.lits
        clear f0 f1 f2 f3 f4 f5
        go_wp2_with fail
        refine (HDR.out _ HX8.out (by omega)).mono ?_
        rintro r w9 ⟨za, zcap, rfl, hZ9, hB9⟩
        clear f6
        have HZ9 : Hid (Src w9 (.slice za l.length zcap) (takeL m k0)) := hZ9.src
        have HR9 : Hid (Src w9 (.slice va l.length vcap) l) := (HR8.out.below hB9).src
        have HB9 : Hid (Below w.heap.size w w9) := HB8.out.trans (hB9.mono HB8.out.size)
        have hz9 : 0 < w9.heap.size := by have := hB9.size; omega
        clear hZ9 hB9 HB8 HR8 HX8 HE8
        go_wp2_with fail
        refine (HSZ.out _ _ _ HZ9.out hz9).mono ?_
        rintro r wa ⟨x, rfl, hxa, hBa⟩
        have HXa : Hid (OwnR w9.heap.size wa x (sortN l.length l)) := hxa
        have HRa : Hid (Src wa (.slice va l.length vcap) l) := HR9.out.below hBa
        have HBa : Hid (Below w.heap.size w wa) := HB9.out.trans (hBa.mono HB9.out.size)
        have hza : 0 < wa.heap.size := by have := hBa.size; omega
        clear hxa hBa HB9 HR9 HZ9
        go_wp2_with fail
        refine (HSH.out _ HRa.out hza).mono ?_
        rintro r wb ⟨y, rfl, hyb, hBb⟩
        have HXb : Hid (IsEvs wb x (sortN l.length l)) := (HXa.out.below hBb).evs
        have HYb : Hid (IsEvs wb y (sortN l.length l)) := hyb.evs
        have HBb : Hid (Below w.heap.size w wb) := HBa.out.trans (hBb.mono HBa.out.size)
        clear hyb hBb HBa HRa HXa
        go_wp2_with fail
        refine (sameE_same x y (sortN l.length l) _ (by rw [sortN_length]; omega) HXb.out HYb.out).mono ?_
        rintro r wc ⟨rfl, hbc⟩
        have HBc : Hid (Below w.heap.size w wc) := HBb.out.trans (hbc.mono HBb.out.size)
        clear hbc
        go_wp2_with fail
        refine (queues_any _).mono ?_
        rintro r wd ⟨rfl, hbd⟩
        have HBd : Hid (Below w.heap.size w wd) := HBc.out.trans (hbd.mono HBc.out.size)
        clear hbd
        go_wp2
        go_ret
        exact ⟨rfl, HBd.out⟩
  · have HR3 : Hid (IsEvs w2 (.slice va l.length vcap) l) := HR2.out.evs
    have HXX : Hid (IsEvs w2 x l') := hx
    obtain ⟨xa, xcap, rfl, _, _, _⟩ := hx
    by_cases h0 : l' = []
    · subst h0
      go_wp2_with fail
      refine (queues_any _).mono ?_
      rintro r w3 ⟨rfl, hb3⟩
      have HB3 : Hid (Below w.heap.size w w3) := HB2.out.trans (hb3.mono HB2.out.size)
      clear hb3
      go_wp2
      go_ret
      exact ⟨rfl, HB3.out⟩
    · obtain rfl := hl'.resolve_left h0
      have hpos : 0 < l'.length := List.length_pos_iff.2 h0
      have hne0 : ((l'.length : Int) == 0) = false := by simp; omega
      go_wp2_with fail
      refine (sameE_same (.slice xa l'.length xcap) (.slice va l'.length vcap) l' _ (by omega) HXX.out HR3.out).mono ?_
      rintro r w3 ⟨rfl, hb3⟩
      have HB3 : Hid (Below w.heap.size w w3) := HB2.out.trans (hb3.mono HB2.out.size)
      clear hb3
      go_wp2_with fail
      refine (queues_any _).mono ?_
      rintro r w4 ⟨rfl, hb4⟩
      have HB4 : Hid (Below w.heap.size w w4) := HB3.out.trans (hb4.mono HB3.out.size)
      clear hb4
      go_wp2
      go_ret
      exact ⟨rfl, HB4.out⟩

set_option maxRecDepth 100000 in
theorem lifted (os : Os) (started : os.Started) (H : Type) (enc : TypeId × Value → H) :
    ReturnsInHanded {} Try.checked os 4 .any (Rows.fnHeapsSpec.pre6 enc Try.prog Try.f4 Rows.fnHeapsRow.domain false) (Rows.fnHeapsSpec.post enc Try.prog Try.f4 false true false false) := by
  refine returnsInHanded_of_change_sized (C := Try.checked) own started (by kernel_rfl) Try.func4
    (ChangeSpec.witness6 (enc := enc) (C := Try.checked) false ⟨#[], #[.slice none 0 0], []⟩ 8 (by kernel_rfl) (by kernel_rfl) (by kernel_rfl) (by kernel_rfl)) ?_
  intro W base args ds gs before hval0 hW hcnd hsz _
  have hval : ∀ (j : Nat) t v, Try.f4.params[j]? = some t → args[j]? = some v → Value.okWide Try.prog W .any base t v := hval0
  have hW' := hW
  obtain ⟨p, q, hA0, hV, rfl, hfz, hnd⟩ := hW
  have hA : DataW.TrodAll enc Try.prog W 0 (fun _ => true) true Try.f4.params.toList args.toList ds p := hA0
  rw [Try.params4] at hA hval
  obtain ⟨v0, vs0, d0, ds0, p0, q0, hargs, rfl, rfl, h0, r0⟩ := trodAll_cons hA
  obtain ⟨rfl, rfl, rfl⟩ := trodAll_nil r0
  obtain rfl : args = #[v0] := by cases args; simp_all
  obtain ⟨rfl, rfl⟩ := trodVars_none hV
  have k0 := h0
  have lt0 : ∀ x ∈ p0, x.block < W.heap.size := by obtain ⟨m, hm⟩ := k0; exact DataW.trod_lt m _ _ _ hm
  obtain ⟨a, n, cap, rfl, hn, hcode⟩ := open_code (hval 0 22 v0 rfl rfl) h0 (fun elems spare e => sized_slice hsz (j := 0) (t := 22) (by rw [Try.params4]; rfl) (by subst e; rfl) Try.underlying22)
  clear hA0 hval0
  refine (walk a n cap W hn hcode).mono fun e W' ⟨he, bel⟩ => ?_
  subst he
  exact ⟨_, rfl, _, _, _, [], _, [], hW', trodAll_mk1 (shut_bool Try.underlying4 _), (trodAll_cons_mk (Below.trod laidOut (by kernel_rfl) (of_decide_eq_true (by kernel_rfl)) k0 bel lt0) trodAll_mk0), rfl, bel.frame _, fun h => by cases h⟩

theorem over : Rows.fnHeapsRow.holds Try.pinned (OpenSpec.ofChange Rows.fnHeapsSpec) :=
  OpenClaim.holds_of_wide 4 Try.f4 rfl rfl rfl rfl rfl rfl rfl ⟨rfl, rfl, rfl, rfl, rfl⟩ rfl rfl rfl rfl rfl (by kernel_rfl) Try.func4 (by kernel_rfl)
    (of_decide_eq_true (by kernel_rfl)) (by unfold Func.isWrapper; first | (rw [if_pos (by decide +kernel)]; kernel_rfl) | (rw [if_neg (by decide +kernel)]; exact ⟨rfl, rfl⟩))
    (fun os started H enc _ => lifted os started H enc)
end Go.Proofs.Yteecpandpkicmaa.LawHeaps
namespace Go.Proofs.Yteecpandpkicmaa
theorem heaps_holds : Rows.FnHeapsSaid := LawHeaps.over
#print axioms heaps_holds
end Go.Proofs.Yteecpandpkicmaa
