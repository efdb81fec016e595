/- At every code of at most 2^47 - 4096 bytes (the form's own reach) what is put into a drawn queue is in its place, what is taken out is not there, the first one is ahead of all; the code reads as it did; no condition. -/
import Derived.Test.YteecpandpkicmaaQueuesG36
namespace Go.Proofs.Yteecpandpkicmaa.LawQueues
open Go.ChangeShapes Go.WideShapes Go.ChangeAt Go.RowKit Go.Proofs.Yteecpandpkicmaa

set_option maxRecDepth 100000 in
set_option maxHeartbeats 8000000 in
theorem walk (a : Option Addr) (n cap : Nat) (w : World) (hn : n ≤ 140737488351232) (hC : CodeIn w w.heap.size a n) :
    Calls Try.prog 3 #[.slice a n cap] w fun e w' => e = .returned (.bool true) ∧ Below w.heap.size w w' := by
  have HC : Hid (CodeIn w w.heap.size a n) := hC
  clear hC
  have hnot : ∀ (x : Bool) (w : World), (Op.unary .not (.bool x)).run Try.prog w = .ok (.bool (!x)) w := fun _ _ => rfl
  go_enter Try.func3, Try.ntmps3
  go_wp2_with fail
  refine (drawInsert_any a n cap _ (by omega) HC.out).mono ?_
  rintro r w1 ⟨v, l, e, rfl, hR1, hl, hB1⟩
  have HR1 : Hid (OwnR w.heap.size w1 v l) := hR1
  have HB1 : Hid (Below w.heap.size w w1) := hB1
  have hs1 : w.heap.size ≤ w1.heap.size := hB1.size
  clear hR1 hB1 HC
  have HBa : Hid (Below w1.heap.size w1 (w1.alloc (.cells #[.int .i64 e.t, .int .i64 e.s, .int .i64 e.q, .int .i64 e.d, .int .i64 e.k, .int .i64 e.v, .int .i64 e.g] 25))) := (Below.refl _ w1).alloc (Nat.le_refl _) _
  have HRa : Hid (OwnR w.heap.size (w1.alloc (.cells #[.int .i64 e.t, .int .i64 e.s, .int .i64 e.q, .int .i64 e.d, .int .i64 e.k, .int .i64 e.v, .int .i64 e.g] 25)) v l) := HR1.out.below HBa.out
  have HXa : Hid (Ev.In (w1.alloc (.cells #[.int .i64 e.t, .int .i64 e.s, .int .i64 e.q, .int .i64 e.d, .int .i64 e.k, .int .i64 e.v, .int .i64 e.g] 25)) w1.heap.size 0 e) := EvAt.new _ _ _ _ _ _ _ _ _
  obtain ⟨va, vcap, rfl, _, _, _⟩ := HR1.out.evs
  go_wp2_with fail
  refine (insert_all e HRa.out hl).mono ?_
  rintro r w2 ⟨hins, hB2⟩
  have HB2 : Hid (Below w.heap.size w w2) := (HB1.out.alloc hs1 _).trans (hB2.mono (by simp; omega))
  have HR2 : Hid (OwnR w.heap.size w2 (.slice va l.length vcap) l) := HRa.out.below hB2
  have HX2 : Hid (Ev.In w2 w1.heap.size 0 e) := HXa.out.below hB2 (by simp)
  have hz2 : w1.heap.size < w2.heap.size := by have := hB2.size; simp at this; omega
  clear hB2 HRa HBa HXa HR1 HB1
  rcases hins with ⟨hg, he, hno, p, g, xcap, rfl, hp, hc1, hc2, hX⟩ | ⟨x, l', rfl, hx, hl'⟩
  · have HG : Hid (GoodQ (insL l e p)) := ins_good hg he hno (by omega) hp
    have HFA : Hid (FirstAt (insL l e p) e.g p) := ins_first hno hp.1
    have HTK : Hid ((insL l e p).take p ++ (insL l e p).drop (p + 1) = l) := ins_take l e p hp.1
    have HLN : Hid ((insL l e p).length = l.length + 1) := insL_length l e p hp.1
    have HW : Hid (wfI e.g) := okB_tag he
    have HX : Hid (EvsAt w2 g 0 (insL l e p)) := hX
    have hgl : g < w2.heap.size := hX.1
    clear hg he hno hp hX
    generalize insL l e p = m at HG HFA HTK HLN HX
    have HRM : Hid (∀ W, EvsAt W g 0 m → Calls Try.prog 10 #[.slice (some ⟨g, 0, none⟩) (l.length + 1) xcap, .int .i64 e.g] W fun r w' => ∃ x, r = .returned (.tuple #[x, .bool true]) ∧ OwnEvs W.heap.size w' x l ∧ Below W.heap.size W w') := fun W hE => by
      have h := iRemove_some g 0 xcap m e.g p W (by have := HLN.out; omega) (by have := HLN.out; omega) hE HG.out HW.out HFA.out
      rw [HTK.out, HLN.out] at h
      exact h
    have HFI : Hid (∀ W, EvsAt W g 0 m → Calls Try.prog 11 #[.slice (some ⟨g, 0, none⟩) (l.length + 1) xcap] W fun r w' => r = .returned (.tuple #[(evAt m 0).val, .bool true]) ∧ Below W.heap.size W w') := fun W hE => by
      have h := iFirst_yes g 0 xcap m W (by have := HLN.out; omega) hE (by have := HLN.out; omega) hc2 (by have := HLN.out; omega) HG.out
      rw [HLN.out] at h
      exact h
    have HQO : Hid (∀ W, EvsAt W g 0 m → Calls Try.prog 13 #[.slice (some ⟨g, 0, none⟩) (l.length + 1) xcap] W fun r w' => r = .returned (.bool true) ∧ Below W.heap.size W w') := fun W hE => by
      have h := iQueue_parts (some ⟨g, 0, none⟩) xcap g m W (by have := HLN.out; omega) (.inr ⟨0, rfl, hE⟩) hE.1
      rw [HLN.out] at h
      refine h.mono ?_
      rintro r w' ⟨⟨bb, rfl, hs⟩, hb⟩
      obtain rfl := hs.2 HG.out
      exact ⟨rfl, hb⟩
    obtain ⟨f0, f1, f2, f3, f4, f5, f6⟩ := HX2.out.lits
    clear f0 f1 f2 f3 f4 f5
    go_wp2_with fail
    refine (HRM.out _ HX.out).mono ?_
    rintro r w3 ⟨y, rfl, hY3, hB3⟩
    have HB3 : Hid (Below w.heap.size w w3) := HB2.out.trans (hB3.mono HB2.out.size)
    have HY3 : Hid (IsEvs w3 y l) := hY3.isEvs
    have HR3 : Hid (IsEvs w3 (.slice va l.length vcap) l) := (HR2.out.below hB3).evs
    have HX3 : Hid (EvsAt w3 g 0 m) := HX.out.below hB3 hgl
    have hz3 : w1.heap.size < w3.heap.size := by have := hB3.size; omega
    clear hB3 HB2 HR2 HX hY3 f6 HX2
    go_wp2_with fail
    refine (HFI.out _ HX3.out).mono ?_
    rintro r w4 ⟨rfl, hB4⟩
    have HB4 : Hid (Below w.heap.size w w4) := HB3.out.trans (hB4.mono HB3.out.size)
    have HY4 : Hid (IsEvs w4 y l) := HY3.out.below hB4
    have HR4 : Hid (IsEvs w4 (.slice va l.length vcap) l) := HR3.out.below hB4
    have HX4 : Hid (EvsAt w4 g 0 m) := HX3.out.below hB4 HX3.out.1
    clear hB4 HB3 HR3 HX3 HY3
    generalize hf : evAt m 0 = f
    have HF0 : Hid (evAt m 0 = f) := hf
    clear hf
    obtain ⟨W5, hW5⟩ : ∃ W5, w4.alloc (.cells #[.int .i64 f.t, .int .i64 f.s, .int .i64 f.q, .int .i64 f.d, .int .i64 f.k, .int .i64 f.v, .int .i64 f.g] 25) = W5 := ⟨_, rfl⟩
    have hBW : Below w4.heap.size w4 W5 := by rw [← hW5]; exact (Below.refl _ w4).alloc (Nat.le_refl _) _
    have HB5 : Hid (Below w.heap.size w W5) := HB4.out.trans (hBW.mono HB4.out.size)
    have HY5 : Hid (IsEvs W5 y l) := HY4.out.below hBW
    have HR5 : Hid (IsEvs W5 (.slice va l.length vcap) l) := HR4.out.below hBW
    have HX5 : Hid (EvsAt W5 g 0 m) := HX4.out.below hBW HX4.out.1
    have HF5 : Hid (Ev.In W5 w4.heap.size 0 f) := by rw [← hW5]; exact EvAt.new _ _ _ _ _ _ _ _ _
    have hz5 : w4.heap.size < W5.heap.size := by rw [← hW5]; simp
    have hg5 : g < W5.heap.size := HX5.out.1
    clear hBW HB4 HY4 HR4 HX4
    go_wp2
    clear hW5
    have hlen1 : ((l.length + 1 : Nat) : Int) = (l.length : Int) + 1 := by omega
    go_loopw [11] (fun i wr => ∃ k : Nat, k ≤ l.length + 1 ∧ i = .int .i64 k ∧ Hid (Below W5.heap.size W5 wr)) (fun i _ => l.length + 1 - (intOf i).toNat)
    case atStart => exact ⟨0, Nat.zero_le _, rfl, Below.refl _ _⟩
    case round =>
      obtain ⟨k, hk, rfl, HB⟩ := hrel
      have hsz : W5.heap.size ≤ wr.heap.size := HB.out.size
      by_cases hlt : k < l.length + 1
      · have hki : (k : Int) < (l.length : Int) + 1 := by omega
        have hki' : (k : Int) < ((l.length + 1 : Nat) : Int) := by omega
        have hk0 : (0 : Int) ≤ (k : Int) := by omega
        have hne : Nonempty (Beyond wr) := ⟨⟨wr, Below.refl _ _⟩⟩
        have HI : Hid (EvsAt wr g 0 m) := HX5.out.below HB.out hg5
        have HF : Hid (Ev.In wr w4.heap.size 0 f) := HF5.out.below HB.out hz5
        obtain ⟨q0, q1, q2, q3, q4, q5, q6⟩ := (HI.out.2 k (by have := HLN.out; omega)).beyond (by omega)
        obtain ⟨g0, g1, g2, g3, g4, g5, g6⟩ := HF.out.beyond (by omega)
        simp only [Nat.zero_add] at q0 q1 q2 q3 q4 q5 q6 g0 g1 g2 g3 g4 g5 g6
        have hnz : ¬ 0 < (f.ecmp (evAt m k)) := by
          have h := good_first HG.out (i := k) (by have := HLN.out; omega)
          rw [HF0.out] at h
          exact h
        generalize hz : f.ecmp (evAt m k) = z at hnz
        have HZ : Hid (f.ecmp (evAt m k) = z) := hz
        have hdz : decide (0 < z) = false := by simpa using hnz
        clear hz
        go_wp2_with fail
        refine wp_region_beyond (by kernel_rfl) (by kernel_rfl) ?_
        repeat (go_big_quiet_step (first | (go_at_call 12; exact Beyond.of (iCmp_ev f (evAt m k) z HZ.out _))))
        refine wpQuiet_nil ?_
        rintro w6 ⟨⟨_, hb6⟩, rfl⟩
        clear q0 q1 q2 q3 q4 q5 q6 g0 g1 g2 g3 g4 g5 g6 hne
        go_wp2
        go_roundw
        case rel => exact ⟨k + 1, by omega, by go_num, HB.out.trans (hb6.mono hsz)⟩
        case measure => simp [intOf]; omega
      · have hki : ¬ (k : Int) < (l.length : Int) + 1 := by omega
        have hki' : ¬ (k : Int) < ((l.length + 1 : Nat) : Int) := by omega
        have HY6 : Hid (IsEvs wr y l) := HY5.out.below HB.out
        have HR6 : Hid (IsEvs wr (.slice va l.length vcap) l) := HR5.out.below HB.out
        have HX6 : Hid (EvsAt wr g 0 m) := HX5.out.below HB.out hg5
        have HB6 : Hid (Below w.heap.size w wr) := HB5.out.trans (HB.out.mono HB5.out.size)
        go_wp2_with fail
        refine (sameE_same y (.slice va l.length vcap) l _ (by omega) HY6.out HR6.out).mono ?_
        rintro r w7 ⟨rfl, hb7⟩
        have HB7 : Hid (Below w.heap.size w w7) := HB6.out.trans (hb7.mono HB6.out.size)
        have HX7 : Hid (EvsAt w7 g 0 m) := HX6.out.below hb7 HX6.out.1
        clear hb7
        go_wp2_with fail
        refine (HQO.out _ HX7.out).mono ?_
        rintro r w8 ⟨rfl, hb8⟩
        have HB8 : Hid (Below w.heap.size w w8) := HB7.out.trans (hb8.mono HB7.out.size)
        clear hb8
        go_wp2_with fail
        refine (queues_any _).mono ?_
        rintro r w9 ⟨rfl, hb9⟩
        have HB9 : Hid (Below w.heap.size w w9) := HB8.out.trans (hb9.mono HB8.out.size)
        clear hb9
        go_wp2
        go_ret
        exact ⟨rfl, HB9.out⟩
  · have HR3 : Hid (IsEvs w2 (.slice va l.length vcap) l) := HR2.out.evs
    have HXX : Hid (IsEvs w2 x l') := hx
    obtain ⟨xa, xcap, rfl, _, _, _⟩ := hx
    by_cases h0 : l' = []
    · subst h0
      go_wp2_with fail
      refine (queues_any _).mono ?_
      rintro r w3 ⟨rfl, hb3⟩
      have HB3 : Hid (Below w.heap.size w w3) := HB2.out.trans (hb3.mono HB2.out.size)
      clear hb3
      go_wp2
      go_ret
      exact ⟨rfl, HB3.out⟩
    · obtain rfl := hl'.resolve_left h0
      have hpos : 0 < l'.length := List.length_pos_iff.2 h0
      have hne0 : ((l'.length : Int) == 0) = false := by simp; omega
      go_wp2_with fail
      refine (sameE_same (.slice xa l'.length xcap) (.slice va l'.length vcap) l' _ (by omega) HXX.out HR3.out).mono ?_
      rintro r w3 ⟨rfl, hb3⟩
      have HB3 : Hid (Below w.heap.size w w3) := HB2.out.trans (hb3.mono HB2.out.size)
      clear hb3
      go_wp2_with fail
      refine (queues_any _).mono ?_
      rintro r w4 ⟨rfl, hb4⟩
      have HB4 : Hid (Below w.heap.size w w4) := HB3.out.trans (hb4.mono HB3.out.size)
      clear hb4
      go_wp2
      go_ret
      exact ⟨rfl, HB4.out⟩

set_option maxRecDepth 100000 in
theorem lifted (os : Os) (started : os.Started) (H : Type) (enc : TypeId × Value → H) :
    ReturnsInHanded {} Try.checked os 3 .any (Rows.fnQueuesSpec.pre6 enc Try.prog Try.f3 Rows.fnQueuesRow.domain false) (Rows.fnQueuesSpec.post enc Try.prog Try.f3 false true false false) := by
  refine returnsInHanded_of_change_sized (C := Try.checked) own started (by kernel_rfl) Try.func3
    (ChangeSpec.witness6 (enc := enc) (C := Try.checked) false ⟨#[], #[.slice none 0 0], []⟩ 8 (by kernel_rfl) (by kernel_rfl) (by kernel_rfl) (by kernel_rfl)) ?_
  intro W base args ds gs before hval0 hW hcnd hsz _
  have hval : ∀ (j : Nat) t v, Try.f3.params[j]? = some t → args[j]? = some v → Value.okWide Try.prog W .any base t v := hval0
  have hW' := hW
  obtain ⟨p, q, hA0, hV, rfl, hfz, hnd⟩ := hW
  have hA : DataW.TrodAll enc Try.prog W 0 (fun _ => true) true Try.f3.params.toList args.toList ds p := hA0
  rw [Try.params3] at hA hval
  obtain ⟨v0, vs0, d0, ds0, p0, q0, hargs, rfl, rfl, h0, r0⟩ := trodAll_cons hA
  obtain ⟨rfl, rfl, rfl⟩ := trodAll_nil r0
  obtain rfl : args = #[v0] := by cases args; simp_all
  obtain ⟨rfl, rfl⟩ := trodVars_none hV
  have k0 := h0
  have lt0 : ∀ x ∈ p0, x.block < W.heap.size := by obtain ⟨m, hm⟩ := k0; exact DataW.trod_lt m _ _ _ hm
  obtain ⟨a, n, cap, rfl, hn, hcode⟩ := open_code (hval 0 22 v0 rfl rfl) h0 (fun elems spare e => sized_slice hsz (j := 0) (t := 22) (by rw [Try.params3]; rfl) (by subst e; rfl) Try.underlying22)
  clear hA0 hval0
  refine (walk a n cap W hn hcode).mono fun e W' ⟨he, bel⟩ => ?_
  subst he
  exact ⟨_, rfl, _, _, _, [], _, [], hW', trodAll_mk1 (shut_bool Try.underlying4 _), (trodAll_cons_mk (Below.trod laidOut (by kernel_rfl) (of_decide_eq_true (by kernel_rfl)) k0 bel lt0) trodAll_mk0), rfl, bel.frame _, fun h => by cases h⟩

theorem over : Rows.fnQueuesRow.holds Try.pinned (OpenSpec.ofChange Rows.fnQueuesSpec) :=
  OpenClaim.holds_of_wide 3 Try.f3 rfl rfl rfl rfl rfl rfl rfl ⟨rfl, rfl, rfl, rfl, rfl⟩ rfl rfl rfl rfl rfl (by kernel_rfl) Try.func3 (by kernel_rfl)
    (of_decide_eq_true (by kernel_rfl)) (by unfold Func.isWrapper; first | (rw [if_pos (by decide +kernel)]; kernel_rfl) | (rw [if_neg (by decide +kernel)]; exact ⟨rfl, rfl⟩))
    (fun os started H enc _ => lifted os started H enc)
end Go.Proofs.Yteecpandpkicmaa.LawQueues
namespace Go.Proofs.Yteecpandpkicmaa
theorem queues_holds : Rows.FnQueuesSaid := LawQueues.over
#print axioms queues_holds
end Go.Proofs.Yteecpandpkicmaa
