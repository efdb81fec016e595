/- The program's HeapPop over slices of any room. -/
import Derived.Test.YteecpandpkicmaaHeapsG29
import Derived.Test.YteecpandpkicmaaHeapsG25
import Derived.Deep.RegionWith
namespace Go.Proofs.Yteecpandpkicmaa
open Go.RowKit
def Answers3R (B : Nat) (l' : List Ev) (f : Ev) (bb : Bool) (e : Ending) (w' : World) : Prop := ∃ x, e = .returned (.tuple #[x, .agg #[.int .i64 f.t, .int .i64 f.s, .int .i64 f.q, .int .i64 f.d, .int .i64 f.k, .int .i64 f.v, .int .i64 f.g], .bool bb]) ∧ OwnR B w' x l'
set_option maxRecDepth 100000 in
set_option maxHeartbeats 4000000 in
theorem gPop_good (a : Option Addr) (cap : Nat) (l : List Ev) (w : World) (hl : l.length ≤ 1048576) (hR : Src w (.slice a l.length cap) l) (_hw0 : 0 < w.heap.size) (hg : GoodH l) (n : Nat) (hn : l.length = n + 1) :
    Calls Try.prog 16 #[.slice a l.length cap] w fun e w' => Answers3R w.heap.size (takeL l 0) (evAt l 0) true e w' ∧ Below w.heap.size w w' := by
  have hB0 : Below w.heap.size w (w.alloc (.cells #[.int .i64 0, .int .i64 0, .int .i64 0, .int .i64 0, .int .i64 0, .int .i64 0, .int .i64 0] 25)) := (Below.refl _ w).alloc (Nat.le_refl _) _
  have HR : Hid (Src (w.alloc (.cells #[.int .i64 0, .int .i64 0, .int .i64 0, .int .i64 0, .int .i64 0, .int .i64 0, .int .i64 0] 25)) (.slice a l.length cap) l) := hR.below hB0
  have HB0 : Hid (Below w.heap.size w (w.alloc (.cells #[.int .i64 0, .int .i64 0, .int .i64 0, .int .i64 0, .int .i64 0, .int .i64 0, .int .i64 0] 25))) := hB0
  clear hR hB0
  have HG : Hid (GoodH l) := hg
  have HN : Hid (l.length = n + 1) := hn
  have hlen : ((l.length : Int) == 0) = false := beq_eq_false_iff_ne.2 (by omega)
  have hn0 : ¬ l.length = 0 := by omega
  have hpos : (0 : Int) < (l.length : Int) := by omega
  have hn1 : n ≤ 1048575 := by omega
  have hl0 : 0 < l.length := by omega
  clear hg hn
  have hme := fun w P => m_events P w
  go_enter Try.func16, Try.ntmps16
  go_wp2_with fail
  refine (iHeap_src _ _ l _ hl HR.out (by first | omega | (simp; done) | (have h9 := HB0.out.size; omega) | (have h9 := HB1.out.size; omega))).mono ?_
  rintro e w1 ⟨⟨bb, rfl, hs⟩, hb1⟩
  have hbb : bb = true := hs.2 HG.out
  subst hbb
  clear hs
  have hz1 : w.heap.size < w1.heap.size := by have := hb1.size; simp at this; omega
  have HB1 : Hid (Below w.heap.size w w1) := HB0.out.trans (hb1.mono (by simp))
  have HR1 : Hid (Src w1 (.slice a l.length cap) l) := HR.out.below hb1
  have HZ1 : Hid (EvAt w1 w.heap.size 0 0 0 0 0 0 0 0) := (EvAt.new w 25 0 0 0 0 0 0 0).below hb1 (by simp)
  have hfz : ∀ o, w1.frozen? ⟨w.heap.size, o, none⟩ = false := fun o => (hb1.frozen (p := ⟨w.heap.size, o, none⟩) (by simp)).trans (by simp)
  obtain ⟨z0, z1, z2, z3, z4, z5, z6⟩ := HZ1.out.lits
  clear hb1 HR
  go_wp2_with fail
  refine (pileOf_any _ l _ (by omega) HR1.out).mono ?_
  rintro e w2 ⟨P, v, rfl, hp2, hb2⟩
  have HP2 : Hid (Pl w2 w1.heap.size P v l) := hp2
  have HB2 : Hid (Below w1.heap.size w1 w2) := hb2
  clear hp2 hb2
  obtain ⟨g5, cap5, hv5, hR5, hPg5⟩ := HP2.out.form HN.out
  subst hv5
  have HLT : Hid (w1.heap.size ≤ P ∧ w1.heap.size ≤ g5) := ⟨HP2.out.low, hR5.lt.1⟩
  clear hR5
  go_wp2_with fail
  refine (popFirst_any w1.heap.size P g5 cap5 l n _ HN.out HP2.out hl HG.out.oks).mono ?_
  rintro e w3 ⟨rfl, hp3, ht3⟩
  have HP3 : Hid (Pl w3 w1.heap.size P (.slice (some ⟨g5, 0, none⟩) n cap5) (takeL l 0)) := hp3
  have HB3 : Hid (Below w1.heap.size w1 w3) := HB2.out.trans (ht3.to_below (fun b hb => by have := HLT.out; omega) HB2.out.size)
  clear hp3 ht3
  have HZ3 : Hid (EvAt w3 w.heap.size 0 0 0 0 0 0 0 0) := HZ1.out.below HB3.out hz1
  have hfz3 : ∀ o, w3.frozen? ⟨w.heap.size, o, none⟩ = false := fun o => (HB3.out.frozen (p := ⟨w.heap.size, o, none⟩) hz1).trans (hfz o)
  have hz3 : w1.heap.size ≤ w3.heap.size := HB3.out.size
  clear z0 z1 z2 z3 z4 z5 z6 hfz
  have HN4 : Hid (Ev.In (w3.alloc (.cells #[.int .i64 (evAt l 0).t, .int .i64 (evAt l 0).s, .int .i64 (evAt l 0).q, .int .i64 (evAt l 0).d, .int .i64 (evAt l 0).k, .int .i64 (evAt l 0).v, .int .i64 (evAt l 0).g] 25)) w3.heap.size 0 (evAt l 0)) := newE w3 (evAt l 0)
  have HZ4 : Hid (EvAt (w3.alloc (.cells #[.int .i64 (evAt l 0).t, .int .i64 (evAt l 0).s, .int .i64 (evAt l 0).q, .int .i64 (evAt l 0).d, .int .i64 (evAt l 0).k, .int .i64 (evAt l 0).v, .int .i64 (evAt l 0).g] 25)) w.heap.size 0 0 0 0 0 0 0 0) := HZ3.out.alloc (by omega) _
  have hfz4 : ∀ o, (w3.alloc (.cells #[.int .i64 (evAt l 0).t, .int .i64 (evAt l 0).s, .int .i64 (evAt l 0).q, .int .i64 (evAt l 0).d, .int .i64 (evAt l 0).k, .int .i64 (evAt l 0).v, .int .i64 (evAt l 0).g] 25)).frozen? ⟨w.heap.size, o, none⟩ = false := fun o => (((Below.refl _ w3).alloc (Nat.le_refl _) (.cells #[.int .i64 (evAt l 0).t, .int .i64 (evAt l 0).s, .int .i64 (evAt l 0).q, .int .i64 (evAt l 0).d, .int .i64 (evAt l 0).k, .int .i64 (evAt l 0).v, .int .i64 (evAt l 0).g] 25)).frozen (p := ⟨w.heap.size, o, none⟩) (by simp; omega)).trans (hfz3 o)
  have HP4 : Hid (Pl (w3.alloc (.cells #[.int .i64 (evAt l 0).t, .int .i64 (evAt l 0).s, .int .i64 (evAt l 0).q, .int .i64 (evAt l 0).d, .int .i64 (evAt l 0).k, .int .i64 (evAt l 0).v, .int .i64 (evAt l 0).g] 25)) w1.heap.size P (.slice (some ⟨g5, 0, none⟩) n cap5) (takeL l 0)) := HP3.out.alloc _
  have HB4 : Hid (Below w1.heap.size w1 (w3.alloc (.cells #[.int .i64 (evAt l 0).t, .int .i64 (evAt l 0).s, .int .i64 (evAt l 0).q, .int .i64 (evAt l 0).d, .int .i64 (evAt l 0).k, .int .i64 (evAt l 0).v, .int .i64 (evAt l 0).g] 25))) := HB3.out.alloc hz3 _
  have hv3 : w3.heap.size < (w3.alloc (.cells #[.int .i64 (evAt l 0).t, .int .i64 (evAt l 0).s, .int .i64 (evAt l 0).q, .int .i64 (evAt l 0).d, .int .i64 (evAt l 0).k, .int .i64 (evAt l 0).v, .int .i64 (evAt l 0).g] 25)).heap.size := by simp
  go_wp2_with fail
  generalize w3.alloc (.cells #[.int .i64 (evAt l 0).t, .int .i64 (evAt l 0).s, .int .i64 (evAt l 0).q, .int .i64 (evAt l 0).d, .int .i64 (evAt l 0).k, .int .i64 (evAt l 0).v, .int .i64 (evAt l 0).g] 25) = V at *
  obtain ⟨z0, z1, z2, z3, z4, z5, z6⟩ := HZ4.out.lits
  obtain ⟨c0, c1, c2, c3, c4, c5, c6⟩ := HN4.out.lits
  have hzV : w.heap.size < V.heap.size := by omega
  have HEV : Hid (Calls Try.prog 91 #[.pointer (some ⟨P, 0, none⟩)] V.drew fun e w' => ∃ y, e = .returned y ∧ OwnR V.heap.size w' y (takeL l 0) ∧ Below V.heap.size V w') := by
    refine (events_any w1.heap.size P _ (takeL l 0) V.drew (by rw [takeL_length]; omega) (Pl.drew HP4.out)).mono ?_
    rintro e w' ⟨y, rfl, hy, hb⟩
    exact ⟨y, rfl, hy, (Below.refl _ V).drew.trans hb⟩
  clear HZ3 hfz3 HP3 HP2
  go_region_with (go_at_call 91; refine HEV.out.mono ?_; rintro e w5 ⟨y, rfl, hy, hb5⟩; obtain ⟨a0, a1, a2, a3, a4, a5, a6⟩ := (HZ4.out.below hb5 hzV).lits; obtain ⟨d0, d1, d2, d3, d4, d5, d6⟩ := (HN4.out.below hb5 hv3).lits; have hfz5 : ∀ o, w5.frozen? ⟨w.heap.size, o, none⟩ = false := (fun o => (hb5.frozen (p := ⟨w.heap.size, o, none⟩) hzV).trans (hfz4 o)))
  all_goals
    have HY : Hid (OwnR V.heap.size w5 y (takeL l 0)) := hy
    have HB5 : Hid (Below w1.heap.size w1 w5) := HB4.out.trans (hb5.mono (by omega))
    clear hy hb5 z0 z1 z2 z3 z4 z5 z6 c0 c1 c2 c3 c4 c5 c6 d0 d1 d2 d3 d4 d5 d6 HEV
    go_wp2
    exact bodyPost_ret (v := .tuple #[y, .agg #[.int .i64 (evAt l 0).t, .int .i64 (evAt l 0).s, .int .i64 (evAt l 0).q, .int .i64 (evAt l 0).d, .int .i64 (evAt l 0).k, .int .i64 (evAt l 0).v, .int .i64 (evAt l 0).g], .bool true]) (by simp [results, Try.results16, go_sem, a0, a1, a2, a3, a4, a5, a6]) rfl ⟨⟨_, rfl, ((HY.out.turns ((Turns.refl (fun b => b = w.heap.size) w5).put (g := w.heap.size) rfl 0 (evAt l 0)) (fun k e => by omega)).mono (Nat.le_of_lt hzV))⟩, put7_below (HB1.out.trans (HB5.out.mono (Nat.le_of_lt hz1))) (Nat.le_refl _) 0 (evAt l 0)⟩
end Go.Proofs.Yteecpandpkicmaa
