/- CmpS, Says, PTs, Good -/
import Derived.Test.YtdcnimdhfhbdmaaExactBackG00
import Derived.Test.YtdcnimdhfhbdmaaExactBackLOkS
import Derived.Test.YtdcnimdhfhbdmaaExactBackG02
import Derived.Test.YtdcnimdhfhbdmaaExactBackG10
import Derived.Sort.BigQuietIn
/- The specification's l1cmp. -/
namespace Go.Proofs.Ytdcnimdhfhbdmaa
open Go.RowKit
set_option maxHeartbeats 2000000 in
theorem l1cmp_any (t s q d k v g t' s' q' d' k' v' g' : Int) (w : World) :
    Calls Try.prog 61 #[.agg #[.int .i64 t, .int .i64 s, .int .i64 q, .int .i64 d, .int .i64 k, .int .i64 v, .int .i64 g], .agg #[.int .i64 t', .int .i64 s', .int .i64 q', .int .i64 d', .int .i64 k', .int .i64 v', .int .i64 g']] w fun e w' =>
      e = .returned (.int .i64 (cmpI t s q g t' s' q' g')) ∧ Below w.heap.size w w' := by
  have hb : ∀ o1 o2 : Obj, Below w.heap.size w ((w.alloc o1).alloc o2) := fun o1 o2 => ((Below.refl _ _).alloc (Nat.le_refl _) o1).alloc (by simp) o2
  by_cases h1 : t = t'
  · subst h1
    by_cases h2 : s = s'
    · subst h2
      by_cases h3 : q = q'
      · subst h3
        go_enter Try.func61, Try.ntmps61
        go_wp2_with (go_at_call 84; refine (num_any _ _ _).mono ?_; rintro e w' ⟨rfl, rfl⟩)
        go_ret
        exact ⟨ret_int (by simp [cmpI]), hb _ _⟩
      · have e3 : (q != q') = true := by simpa using h3
        go_enter Try.func61, Try.ntmps61
        go_wp2_with (go_at_call 84; refine (num_any _ _ _).mono ?_; rintro e w' ⟨rfl, rfl⟩)
        go_ret
        exact ⟨ret_int (by simp [cmpI, h3]), hb _ _⟩
    · have e2 : (s != s') = true := by simpa using h2
      go_enter Try.func61, Try.ntmps61
      go_wp2_with (go_at_call 84; refine (num_any _ _ _).mono ?_; rintro e w' ⟨rfl, rfl⟩)
      go_ret
      exact ⟨ret_int (by simp [cmpI, h2]), hb _ _⟩
  · have e1 : (t != t') = true := by simpa using h1
    go_enter Try.func61, Try.ntmps61
    go_wp2_with (go_at_call 84; refine (num_any _ _ _).mono ?_; rintro e w' ⟨rfl, rfl⟩)
    go_ret
    exact ⟨ret_int (by simp [cmpI, h1]), hb _ _⟩

theorem sOk_is (t s q d k v g : Int) (b : Bool) (h : okB t s q d k v g = b) (w : World) :
    Calls Try.prog 26 #[.agg #[.int .i64 t, .int .i64 s, .int .i64 q, .int .i64 d, .int .i64 k, .int .i64 v, .int .i64 g]] w fun e w' => e = .returned (.bool b) ∧ Below w.heap.size w w' := by
  subst h; exact sOk_any t s q d k v g w

end Go.Proofs.Ytdcnimdhfhbdmaa

/- The specification's EventOk and l1cmp of events; what a bool says. -/
namespace Go.Proofs.Ytdcnimdhfhbdmaa
open Go.RowKit
/- A bool is returned that says whether p holds. -/
def Says (e : Ending) (p : Prop) : Prop := ∃ b : Bool, e = .returned (.bool b) ∧ (b = true ↔ p)
theorem Says.yes {p : Prop} (h : p) : Says (.returned (.bool true)) p := ⟨true, rfl, fun _ => h, fun _ => rfl⟩
theorem Says.no {p : Prop} (h : ¬ p) : Says (.returned (.bool false)) p := ⟨false, rfl, fun e => (by cases e), fun e => (h e).elim⟩
theorem Says.dec {p q : Prop} [Decidable q] (h : q ↔ p) : Says (.returned (.bool (decide q))) p := ⟨_, rfl, by simpa using h⟩

theorem sOk_ev (e : Ev) (b : Bool) (h : e.ok = b) (w : World) : Calls Try.prog 26 #[e.val] w fun r w' => r = .returned (.bool b) ∧ Below w.heap.size w w' := sOk_is _ _ _ _ _ _ _ b h w
theorem l1cmp_ev (a b : Ev) (z : Int) (h : a.cmp b = z) (w : World) : Calls Try.prog 61 #[a.val, b.val] w fun r w' => r = .returned (.int .i64 z) ∧ Below w.heap.size w w' := by
  subst h; exact l1cmp_any _ _ _ _ _ _ _ _ _ _ _ _ _ _ w

end Go.Proofs.Ytdcnimdhfhbdmaa

/- The specification's cut of a part in two. -/
namespace Go.Proofs.Ytdcnimdhfhbdmaa
open Go.RowKit
theorem Bk.beyond {W : World} {P : Nat} {T : TypeId} {vs : Array Value} (h : Bk W P T vs) {i : Nat} {v : Value} (hv : vs[i]? = some v) : ∀ p : Beyond W, p.w.cell? ⟨P, i, none⟩ = some v := fun p => p.cell h.lt (h.cell hv)
/- Ahead of k all is before e, and at k it is not. -/
structure CutAt (l : List Ps) (e : Ev) (k : Nat) : Prop where
  le : k ≤ l.length
  lo : ∀ j, j < k → (psAt l j).e.cmp e < 0
  hi : k < l.length → ¬ (psAt l k).e.cmp e < 0
theorem CutAt.same {l : List Ps} {e : Ev} {k k' : Nat} (h : CutAt l e k) (h' : CutAt l e k') : k = k' := by
  rcases Nat.lt_trichotomy k k' with c | c | c
  · exact absurd (h'.lo k c) (h.hi (by have := h'.le; omega))
  · exact c
  · exact absurd (h.lo k' c) (h'.hi (by have := h.le; omega))
theorem src_ones {w : World} {l : List Ps} {cs : List Value} (hl : cs.length = l.length * 12) (hd : ∀ j, j < l.length * 12 → IsD w (nthV cs j) (pastsD_f l j)) : ∀ u ∈ cs, u.oneCell' = true := fun u hu => by
  obtain ⟨j, hj, rfl⟩ := List.mem_iff_getElem.1 hu
  have h := hd j (by omega)
  have e : nthV cs j = cs[j] := by simp [nthV, hj]
  rw [e] at h
  exact Ps.one h
def Pa.cut (p : Pa) (k : Nat) : Pa := ⟨p.n, p.st, p.p.drop k, p.t, p.a⟩
set_option maxRecDepth 100000 in
set_option maxHeartbeats 16000000 in
theorem l4trim_any (x : Value) (p : Pa) (e : Ev) (w : World) (hw : p.wt ≤ 1048577) (h : IsPart w x p) :
    Calls Try.prog 27 #[x, .agg #[.int .i64 e.t, .int .i64 e.s, .int .i64 e.q, .int .i64 e.d, .int .i64 e.k, .int .i64 e.v, .int .i64 e.g]] w fun r w' => ∃ y1 y2 k, r = .returned (.tuple #[y1, y2]) ∧ CutAt p.p e k ∧ IsPart w' y1 (p.cut k) ∧ IsD w' y2 (pastsD (p.p.take k)) ∧ Below w.heap.size w w' := by
  obtain ⟨u1, u4, u5, u6, rfl, d1, d4, d5, d6⟩ := h
  obtain ⟨a1, c1, rfl, _⟩ := IsD.len d1
  obtain ⟨a4, c4, rfl, hn4, _⟩ := IsD.parts (c := 12) (n := p.p.length) d4
  obtain ⟨a5, c5, rfl, _⟩ := IsD.len d5
  obtain ⟨a6, c6, rfl, _⟩ := IsD.len d6
  have hp9 : p.p.length ≤ 1048577 := by
    have e3 := pastsD_wt p.p
    unfold Pa.wt at hw
    omega
  obtain ⟨ip, hip, hip0, hip1, hip2⟩ := info_parts infoPQ
  obtain ⟨W0, hW0⟩ : ∃ W0, ((w.alloc (.cells #[.int .i64 p.n, .slice a1 p.st.r.length c1, .int .i64 p.st.q, .int .i64 p.st.d, .slice a4 p.p.length c4, .slice a5 p.t.length c5, .slice a6 p.a.length c6] 36)).alloc (.cells #[.int .i64 e.t, .int .i64 e.s, .int .i64 e.q, .int .i64 e.d, .int .i64 e.k, .int .i64 e.v, .int .i64 e.g] 40)).alloc (.cells #[.int .i64 0, .slice none 0 0, .int .i64 0, .int .i64 0, .slice none 0 0, .slice none 0 0, .slice none 0 0] 36) = W0 := ⟨_, rfl⟩
  have hz0 : W0.heap.size = w.heap.size + 1 + 1 + 1 := by rw [← hW0]; simp
  have hb0 : Below w.heap.size w W0 := hW0 ▸ (((Below.refl _ w).alloc (Nat.le_refl _) _).alloc (by simp) _).alloc (by simp; omega) _
  have HB0 : Hid (Below w.heap.size w W0) := hb0
  have HW0 : Hid (((w.alloc (.cells #[.int .i64 p.n, .slice a1 p.st.r.length c1, .int .i64 p.st.q, .int .i64 p.st.d, .slice a4 p.p.length c4, .slice a5 p.t.length c5, .slice a6 p.a.length c6] 36)).alloc (.cells #[.int .i64 e.t, .int .i64 e.s, .int .i64 e.q, .int .i64 e.d, .int .i64 e.k, .int .i64 e.v, .int .i64 e.g] 40)).alloc (.cells #[.int .i64 0, .slice none 0 0, .int .i64 0, .int .i64 0, .slice none 0 0, .slice none 0 0, .slice none 0 0] 36) = W0) := hW0
  have BX : Hid (Bk W0 w.heap.size 36 #[.int .i64 p.n, .slice a1 p.st.r.length c1, .int .i64 p.st.q, .int .i64 p.st.d, .slice a4 p.p.length c4, .slice a5 p.t.length c5, .slice a6 p.a.length c6]) := hW0 ▸ ((Bk.new w _ _).alloc _).alloc _
  have BE : Hid (Bk W0 (w.heap.size + 1) 40 #[.int .i64 e.t, .int .i64 e.s, .int .i64 e.q, .int .i64 e.d, .int .i64 e.k, .int .i64 e.v, .int .i64 e.g]) := hW0 ▸ (Bk.newAt (by simp) _ _).alloc _
  have BZ : Hid (Bk W0 (w.heap.size + 1 + 1) 36 #[.int .i64 0, .slice none 0 0, .int .i64 0, .int .i64 0, .slice none 0 0, .slice none 0 0, .slice none 0 0]) := hW0 ▸ Bk.newAt (by simp) _ _
  have O1 : Hid (IsD w (.slice a1 p.st.r.length c1) (intsD p.st.r)) := d1
  have O4 : Hid (IsD w (.slice a4 p.p.length c4) (pastsD p.p)) := d4
  have O5 : Hid (IsD w (.slice a5 p.t.length c5) (evsD p.t)) := d5
  have O6 : Hid (IsD w (.slice a6 p.a.length c6) (intsD p.a)) := d6
  have D4 : Hid (IsD W0 (.slice a4 p.p.length c4) (pastsD p.p)) := d4.under hb0
  have hz0' : W0.heap.size ≤ w.heap.size + 1 + 1 + 1 ∧ w.heap.size + 1 + 1 + 1 ≤ W0.heap.size := by omega
  clear hW0 hb0 d1 d4 d5 d6 hw hz0
  go_enter Try.func27, Try.ntmps27
  go_wp2
  rw [HW0.out]
  clear HW0
  go_loopw [6] (fun i wr => ∃ k : Nat, k ≤ p.p.length ∧ i = .int .i64 k ∧ Hid (Below W0.heap.size W0 wr) ∧ Hid (∀ j, j < k → (psAt p.p j).e.cmp e < 0)) (fun i _ => p.p.length - (intOf i).toNat)
  case atStart => exact ⟨0, Nat.zero_le _, rfl, Below.refl _ _, fun j hj => by omega⟩
  case round =>
    obtain ⟨k, hk, rfl, HB, HJ⟩ := hrel
    have hsz : W0.heap.size ≤ wr.heap.size := HB.out.size
    have hne : Nonempty (Beyond wr) := ⟨⟨wr, Below.refl _ _⟩⟩
    have HX : Hid (Bk wr w.heap.size 36 #[.int .i64 p.n, .slice a1 p.st.r.length c1, .int .i64 p.st.q, .int .i64 p.st.d, .slice a4 p.p.length c4, .slice a5 p.t.length c5, .slice a6 p.a.length c6]) := BX.out.below HB.out
    have HE : Hid (Bk wr (w.heap.size + 1) 40 #[.int .i64 e.t, .int .i64 e.s, .int .i64 e.q, .int .i64 e.d, .int .i64 e.k, .int .i64 e.v, .int .i64 e.g]) := BE.out.below HB.out
    have x4 := HX.out.beyond (i := 4) rfl
    have e0 := HE.out.beyond (i := 0) rfl
    have e1 := HE.out.beyond (i := 1) rfl
    have e2 := HE.out.beyond (i := 2) rfl
    have e3 := HE.out.beyond (i := 3) rfl
    have e4 := HE.out.beyond (i := 4) rfl
    have e5 := HE.out.beyond (i := 5) rfl
    have e6 := HE.out.beyond (i := 6) rfl
    by_cases hlt : k < p.p.length
    · have hkn : (k : Int) < (p.p.length : Int) := by omega
      have hd : decide (k < p.p.length) = true := by simpa using hlt
      obtain ⟨a4', cap4, he4, _, _, h4⟩ := IsD.parts (c := 12) (n := p.p.length) (D4.out.under HB.out)
      obtain ⟨b, off, ha4, hb4, hc4⟩ := h4.resolve_left (by omega)
      obtain ⟨rfl, rfl⟩ : a4 = a4' ∧ c4 = cap4 := by simpa using he4
      subst ha4
      obtain ⟨u7, u10, u11, f0, f1, f2, f3, f4, f5, f6, _⟩ := pastsD_in hc4 hlt
      have g0 : ∀ q : Beyond wr, q.w.cell? ⟨b, off + k * 12, none⟩ = _ := fun q => q.cell hb4 f0
      have g1 : ∀ q : Beyond wr, q.w.cell? ⟨b, off + k * 12 + 1, none⟩ = _ := fun q => q.cell hb4 f1
      have g2 : ∀ q : Beyond wr, q.w.cell? ⟨b, off + k * 12 + 2, none⟩ = _ := fun q => q.cell hb4 f2
      have g3 : ∀ q : Beyond wr, q.w.cell? ⟨b, off + k * 12 + 3, none⟩ = _ := fun q => q.cell hb4 f3
      have g4 : ∀ q : Beyond wr, q.w.cell? ⟨b, off + k * 12 + 4, none⟩ = _ := fun q => q.cell hb4 f4
      have g5 : ∀ q : Beyond wr, q.w.cell? ⟨b, off + k * 12 + 5, none⟩ = _ := fun q => q.cell hb4 f5
      have g6 : ∀ q : Beyond wr, q.w.cell? ⟨b, off + k * 12 + 6, none⟩ = _ := fun q => q.cell hb4 f6
      clear f0 f1 f2 f3 f4 f5 f6 hc4 h4 he4
      generalize hz : (psAt p.p k).e.cmp e = z
      have HZ : Hid ((psAt p.p k).e.cmp e = z) := hz
      clear hz
      by_cases hzl : z < 0
      · have hdz : decide (z < 0) = true := by simpa using hzl
        go_wp2_with fail
        refine wp_region_beyond (by kernel_rfl) (by kernel_rfl) ?_
        repeat (go_big_quiet_step (first | (go_at_call 61; exact Beyond.of (l1cmp_ev (psAt p.p k).e e z HZ.out _))))
        refine wpQuiet_nil ?_
        rintro w2 ⟨⟨_, hb2⟩, rfl⟩
        clear hne x4 e0 e1 e2 e3 e4 e5 e6 g0 g1 g2 g3 g4 g5 g6
        go_wp2
        go_roundw
        case rel => exact ⟨k + 1, by omega, by go_num, HB.out.trans (hb2.mono hsz), fun j hj => by
          by_cases ej : j = k
          · subst ej; rw [HZ.out]; exact hzl
          · exact HJ.out j (by omega)⟩
        case measure => simp [intOf]; omega
      · have hdz : decide (z < 0) = false := by simpa using hzl
        go_wp2_with fail
        refine wp_region_beyond (by kernel_rfl) (by kernel_rfl) ?_
        repeat (go_big_quiet_step (first | (go_at_call 61; exact Beyond.of (l1cmp_ev (psAt p.p k).e e z HZ.out _))))
        refine wpQuiet_nil ?_
        rintro w2 ⟨⟨_, hb2⟩, rfl⟩
        clear hne x4 e0 e1 e2 e3 e4 e5 e6 g0 g1 g2 g3 g4 g5 g6
        have HC : Hid (CutAt p.p e k) := ⟨hk, HJ.out, fun _ => by rw [HZ.out]; omega⟩
        have HBw : Hid (Below w.heap.size w w2) := HB0.out.trans ((HB.out.trans (hb2.mono hsz)).mono (by omega))
        have HB2 : Hid (Below W0.heap.size W0 w2) := HB.out.trans (hb2.mono hsz)
        clear hb2
        have hs2 : W0.heap.size ≤ w2.heap.size := HB2.out.size
        have HX2 : Hid (Bk w2 w.heap.size 36 #[.int .i64 p.n, .slice a1 p.st.r.length c1, .int .i64 p.st.q, .int .i64 p.st.d, .slice (some ⟨b, off, none⟩) p.p.length c4, .slice a5 p.t.length c5, .slice a6 p.a.length c6]) := BX.out.below HB2.out
        have HZ2 : Hid (Bk w2 (w.heap.size + 1 + 1) 36 #[.int .i64 0, .slice none 0 0, .int .i64 0, .int .i64 0, .slice none 0 0, .slice none 0 0, .slice none 0 0]) := BZ.out.below HB2.out
        have x0 := HX2.out.cell (i := 0) rfl
        have x1 := HX2.out.cell (i := 1) rfl
        have x2 := HX2.out.cell (i := 2) rfl
        have x3 := HX2.out.cell (i := 3) rfl
        have x4 := HX2.out.cell (i := 4) rfl
        have x5 := HX2.out.cell (i := 5) rfl
        have x6 := HX2.out.cell (i := 6) rfl
        have hk8 : (k : Int) ≤ (p.p.length : Int) := by omega
        obtain ⟨W4, hW4⟩ : ∃ V, (w2.alloc (.cells #[.int .i64 p.n, .slice a1 p.st.r.length c1, .int .i64 p.st.q, .int .i64 p.st.d, .slice (some ⟨b, off, none⟩) p.p.length c4, .slice a5 p.t.length c5, .slice a6 p.a.length c6] 36)).alloc (.cells #[] 67) = V := ⟨_, rfl⟩
        have HX4 : Hid (Bk W4 w.heap.size 36 #[.int .i64 p.n, .slice a1 p.st.r.length c1, .int .i64 p.st.q, .int .i64 p.st.d, .slice (some ⟨b, off, none⟩) p.p.length c4, .slice a5 p.t.length c5, .slice a6 p.a.length c6]) := hW4 ▸ (HX2.out.alloc _).alloc _
        have HQ4 : Hid (Bk W4 w2.heap.size 36 #[.int .i64 p.n, .slice a1 p.st.r.length c1, .int .i64 p.st.q, .int .i64 p.st.d, .slice (some ⟨b, off, none⟩) p.p.length c4, .slice a5 p.t.length c5, .slice a6 p.a.length c6]) := hW4 ▸ (Bk.new w2 _ _).alloc _
        have HZ4 : Hid (Bk W4 (w.heap.size + 1 + 1) 36 #[.int .i64 0, .slice none 0 0, .int .i64 0, .int .i64 0, .slice none 0 0, .slice none 0 0, .slice none 0 0]) := hW4 ▸ (HZ2.out.alloc _).alloc _
        have HE4 : Hid (W4.ownsRow (w2.heap.size + 1) 67 12 (.slice (some ⟨w2.heap.size + 1, 0, none⟩) 0 0) 0 []) := by (rw [← hW4]; have := row_empty_any (w2.alloc (.cells #[.int .i64 p.n, .slice a1 p.st.r.length c1, .int .i64 p.st.q, .int .i64 p.st.d, .slice (some ⟨b, off, none⟩) p.p.length c4, .slice a5 p.t.length c5, .slice a6 p.a.length c6] 36)) 67 12; rw [World.size_alloc] at this; exact this)
        have hb4' : Below w2.heap.size w2 W4 := hW4 ▸ ((Below.refl _ w2).alloc (Nat.le_refl _) _).alloc (by simp) _
        have HB4 : Hid (Below w2.heap.size w2 W4) := hb4'
        have x4' := HX4.out.cell (i := 4) rfl
        clear hb4'
        have hkd : (p.p.drop k).length ≤ 1048577 ∧ (p.p.take k).length ≤ 1048577 := by
          rw [List.length_drop, List.length_take]
          omega
        obtain ⟨V, hV⟩ : ∃ V, sliced (some ⟨b, off, none⟩) k p.p.length c4 12 = V := ⟨_, rfl⟩
        have hVD : IsD w V (pastsD (p.p.drop k)) := hV ▸ pasts_drop O4.out hk
        have hsl : ∀ w : World, (Instr.sliceAt 33 (.slice (some ⟨b, off, none⟩) p.p.length c4) (some (.int .i64 (k : Int))) none none).run Try.prog w = .ok V w := fun w => hV ▸ run_cutFrom _ _ _ _ hk w
        obtain ⟨U, hU⟩ : ∃ U, sliced (some ⟨b, off, none⟩) 0 k c4 12 = U := ⟨_, rfl⟩
        have hUD : IsD w U (pastsD (p.p.take k)) := hU ▸ pasts_take O4.out hk
        have hsl2 : ∀ w : World, (Instr.sliceAt 33 (.slice (some ⟨b, off, none⟩) p.p.length c4) none (some (.int .i64 (k : Int))) none).run Try.prog w = .ok U w := fun w => hU ▸ run_cutTo _ _ _ _ (by omega) w
        obtain ⟨cs, hsrc, hdat⟩ := IsD.cells hVD
        obtain ⟨cs2, hsrc2, hdat2⟩ := IsD.cells hUD
        obtain ⟨av, cv, rfl, _⟩ := IsD.len hVD
        obtain ⟨au, cu, rfl, _⟩ := IsD.len hUD
        have HSR : Hid (SrcC w (.slice av (p.p.drop k).length cv) 12 (p.p.drop k).length cs) := hsrc
        have HDA : Hid (∀ j, j < (p.p.drop k).length * 12 → IsD w (nthV cs j) (pastsD_f (p.p.drop k) j)) := hdat
        have HSR2 : Hid (SrcC w (.slice au (p.p.take k).length cu) 12 (p.p.take k).length cs2) := hsrc2
        have HDA2 : Hid (∀ j, j < (p.p.take k).length * 12 → IsD w (nthV cs2 j) (pastsD_f (p.p.take k) j)) := hdat2
        have H1 : Hid (∀ u ∈ cs, u.oneCell' = true) := src_ones hsrc.1 hdat
        have H2 : Hid (∀ u ∈ cs2, u.oneCell' = true) := src_ones hsrc2.1 hdat2
        have HBw4 : Hid (Below w.heap.size w W4) := HBw.out.trans (HB4.out.mono HBw.out.size)
        have hsz4 : w2.heap.size + 1 + 1 ≤ W4.heap.size := by rw [← hW4]; simp
        have hszw := HBw.out.size
        obtain ⟨m, hm⟩ : ∃ m, (p.p.drop k).length = m := ⟨_, rfl⟩
        obtain ⟨m2, hm2⟩ : ∃ m, (p.p.take k).length = m := ⟨_, rfl⟩
        have HM : Hid ((p.p.drop k).length = m ∧ (p.p.take k).length = m2) := ⟨hm, hm2⟩
        rw [hm] at hsl hkd HSR HDA
        rw [hm2] at hsl2 hkd HSR2 HDA2
        clear hV hU hsrc hdat hsrc2 hdat2 hVD hUD hm hm2
        go_wp2_with (at_builtin; refine wpList_append_src _ rfl _ _ 33 rfl (w2.heap.size + 1) 67 ip _ 12 144 Try.underlying33 hip hip0 hip1 hip2 rfl (by decide) (.slice (some ⟨w2.heap.size + 1, 0, none⟩) 0 0) 0 [] rfl HE4.out (.slice av m cv) m cs rfl (HSR.out.below HBw4.out) H1.out (by unfold maxLen; omega) (by omega) (by omega) ?_; intro vn w5 hown hgrow hnew; have h45 := grown_turns hgrow; have HQ5 : Hid (Bk w5 w2.heap.size 36 #[.int .i64 p.n, .slice a1 p.st.r.length c1, .int .i64 p.st.q, .int .i64 p.st.d, .slice (some ⟨b, off, none⟩) p.p.length c4, .slice a5 p.t.length c5, .slice a6 p.a.length c6]) := HQ4.out.turns h45 (by simp [Value.ownBlock]); have HX5 : Hid (Bk w5 w.heap.size 36 #[.int .i64 p.n, .slice a1 p.st.r.length c1, .int .i64 p.st.q, .int .i64 p.st.d, .slice (some ⟨b, off, none⟩) p.p.length c4, .slice a5 p.t.length c5, .slice a6 p.a.length c6]) := HX4.out.turns h45 (by simp [Value.ownBlock]; omega); have HZ5 : Hid (Bk w5 (w.heap.size + 1 + 1) 36 #[.int .i64 0, .slice none 0 0, .int .i64 0, .int .i64 0, .slice none 0 0, .slice none 0 0, .slice none 0 0]) := HZ4.out.turns h45 (by simp [Value.ownBlock]; omega); have HBw5 : Hid (Below w.heap.size w w5) := HBw4.out.grown hgrow (by omega) (fun b e => by simp [Value.ownBlock] at e; omega); rw [Nat.zero_add, List.nil_append] at hown; obtain ⟨an, cn, hvn⟩ := owns_slice hown; subst hvn; have HO5 : Hid (w5.ownsRow (w2.heap.size + 1) 67 12 (.slice an m cn) m cs) := hown; have hs5 : W4.heap.size ≤ w5.heap.size := hgrow.size; have z4 := HQ5.out.cell (i := 4) rfl; have zf := HQ5.out.free; clear hown hgrow hnew h45)
        clear x4' zf z4 hW4 hsl x0 x1 x2 x3 x4 x5 x6
        obtain ⟨W6, hW6⟩ : ∃ V, w5.setCell ⟨w2.heap.size, 4, none⟩ (.slice an m cn) = V := ⟨_, rfl⟩
        have ht6 := put1_turns w5 w2.heap.size 4 (.slice an m cn)
        have hq6 := HQ5.out.put 4 (.slice an m cn)
        rw [hW6] at ht6 hq6 ⊢
        clear hW6
        have Q_0 : Hid (Bk W6.drew w2.heap.size 36 #[.int .i64 p.n, .slice a1 p.st.r.length c1, .int .i64 p.st.q, .int .i64 p.st.d, .slice an m cn, .slice a5 p.t.length c5, .slice a6 p.a.length c6]) := hq6.drew
        have X_0 : Hid (Bk W6.drew w.heap.size 36 #[.int .i64 p.n, .slice a1 p.st.r.length c1, .int .i64 p.st.q, .int .i64 p.st.d, .slice (some ⟨b, off, none⟩) p.p.length c4, .slice a5 p.t.length c5, .slice a6 p.a.length c6]) := (HX5.out.turns ht6 (by omega)).drew
        have Z_0 : Hid (Bk W6.drew (w.heap.size + 1 + 1) 36 #[.int .i64 0, .slice none 0 0, .int .i64 0, .int .i64 0, .slice none 0 0, .slice none 0 0, .slice none 0 0]) := (HZ5.out.turns ht6 (by omega)).drew
        have R_0 : Hid (W6.drew.ownsRow (w2.heap.size + 1) 67 12 (.slice an m cn) m cs) := (owns_turns HO5.out ht6 (fun b hb e => by have := row_ge HO5.out hb; omega)).drew
        have HL6 : Hid (∀ b, (Value.slice an m cn).ownBlock = some b → b < W6.heap.size) := fun b hb => owns_lt R_0.out hb
        have BW_0 : Hid (Below w.heap.size w W6.drew) := (HBw5.out.trans (ht6.to_below (fun b e => by omega) HBw5.out.size)).drew
        have hs6 : w5.heap.size ≤ W6.heap.size := ht6.size
        have hsd6 : W6.drew.heap.size ≤ W6.heap.size ∧ W6.heap.size ≤ W6.drew.heap.size := ⟨Nat.le_refl _, Nat.le_refl _⟩
        clear ht6 hq6 HQ5 HX5 HZ5 HO5 HBw5
        have S_0 : Hid (W6.drew.cell? ⟨w2.heap.size, 0, none⟩ = some (.int .i64 p.n) ∧ W6.drew.cell? ⟨w2.heap.size, 1, none⟩ = some (.slice a1 p.st.r.length c1) ∧ W6.drew.cell? ⟨w2.heap.size, 2, none⟩ = some (.int .i64 p.st.q) ∧ W6.drew.cell? ⟨w2.heap.size, 3, none⟩ = some (.int .i64 p.st.d) ∧ W6.drew.cell? ⟨w2.heap.size, 4, none⟩ = some (.slice an m cn) ∧ W6.drew.cell? ⟨w2.heap.size, 5, none⟩ = some (.slice a5 p.t.length c5) ∧ W6.drew.cell? ⟨w2.heap.size, 6, none⟩ = some (.slice a6 p.a.length c6) ∧ W6.drew.cell? ⟨w.heap.size, 4, none⟩ = some (.slice (some ⟨b, off, none⟩) p.p.length c4)) := ⟨Q_0.out.cell rfl, Q_0.out.cell rfl, Q_0.out.cell rfl, Q_0.out.cell rfl, Q_0.out.cell rfl, Q_0.out.cell rfl, Q_0.out.cell rfl, X_0.out.cell rfl⟩
        refine wp_region_held_drew (S := fun W => W.cell? ⟨w2.heap.size, 0, none⟩ = some (.int .i64 p.n) ∧ W.cell? ⟨w2.heap.size, 1, none⟩ = some (.slice a1 p.st.r.length c1) ∧ W.cell? ⟨w2.heap.size, 2, none⟩ = some (.int .i64 p.st.q) ∧ W.cell? ⟨w2.heap.size, 3, none⟩ = some (.int .i64 p.st.d) ∧ W.cell? ⟨w2.heap.size, 4, none⟩ = some (.slice an m cn) ∧ W.cell? ⟨w2.heap.size, 5, none⟩ = some (.slice a5 p.t.length c5) ∧ W.cell? ⟨w2.heap.size, 6, none⟩ = some (.slice a6 p.a.length c6) ∧ W.cell? ⟨w.heap.size, 4, none⟩ = some (.slice (some ⟨b, off, none⟩) p.p.length c4)) (by kernel_rfl) S_0.out (fun hHeld => ?_)
        refine wpAnyH_take (i := 0) (oi := { dst := some 34, op := Op.load 36 (Operand.tmp 7), type := 36, pos := _, after := _, guard := none }) (v := .agg #[.int .i64 p.n, .slice a1 p.st.r.length c1, .int .i64 p.st.q, .int .i64 p.st.d, .slice an m cn, .slice a5 p.t.length c5, .slice a6 p.a.length c6]) rfl (by kernel_rfl) (by kernel_rfl) (by kernel_rfl) (fun _ _ _ h => h) (Or.inl ⟨by rfl, ?_⟩) (by assumption) ?_
        · intro wX hSw
          try dsimp only at hSw
          go_simp
          try exact IntWalk.i64_in _ (by omega)
        try simp only [Act.put, List.setIfInBounds_toArray, List.set_cons_zero, List.set_cons_succ]
        refine wpAnyH_take (i := 2) (oi := { dst := some 36, op := Op.fieldAddr 36 (Operand.tmp 2) 2, type := 0, pos := _, after := _, guard := none }) (v := .pointer (some ⟨w.heap.size, 4, none⟩)) rfl (by kernel_rfl) (by kernel_rfl) (by kernel_rfl) (fun _ _ _ h => h) (Or.inl ⟨by rfl, ?_⟩) (by assumption) ?_
        · intro wX hSw
          try dsimp only at hSw
          go_simp
          try exact IntWalk.i64_in _ (by omega)
        try simp only [Act.put, List.setIfInBounds_toArray, List.set_cons_zero, List.set_cons_succ]
        refine wpAnyH_take (i := 3) (oi := { dst := some 37, op := Op.load 33 (Operand.tmp 36), type := 33, pos := _, after := _, guard := none }) (v := .slice (some ⟨b, off, none⟩) p.p.length c4) rfl (by kernel_rfl) (by kernel_rfl) (by kernel_rfl) (fun _ _ _ h => h) (Or.inl ⟨by rfl, ?_⟩) (by assumption) ?_
        · intro wX hSw
          try dsimp only at hSw
          go_simp
          try exact IntWalk.i64_in _ (by omega)
        try simp only [Act.put, List.setIfInBounds_toArray, List.set_cons_zero, List.set_cons_succ]
        refine wpAnyH_take (i := 4) (oi := { dst := some 38, op := Op.move (Operand.tmp 6), type := 3, pos := _, after := _, guard := none }) (v := .int .i64 (k : Int)) rfl (by kernel_rfl) (by kernel_rfl) (by kernel_rfl) (fun _ _ _ h => h) (Or.inl ⟨by rfl, ?_⟩) (by assumption) ?_
        · intro wX hSw
          try dsimp only at hSw
          go_simp
          try exact IntWalk.i64_in _ (by omega)
        try simp only [Act.put, List.setIfInBounds_toArray, List.set_cons_zero, List.set_cons_succ]
        refine wpAnyH_take (i := 5) (oi := { dst := some 39, op := Op.slice 33 (Operand.tmp 37) none (some (Operand.tmp 38)) none, type := 33, pos := _, after := _, guard := none }) (v := .slice au m2 cu) rfl (by kernel_rfl) (by kernel_rfl) (by kernel_rfl) (fun _ _ _ h => h) (Or.inl ⟨by rfl, ?_⟩) (by assumption) ?_
        · intro wX hSw
          try dsimp only at hSw
          go_simp
          try exact IntWalk.i64_in _ (by omega)
        try simp only [Act.put, List.setIfInBounds_toArray, List.set_cons_zero, List.set_cons_succ]
        refine wpAnyH_ready (rs := [1]) (by kernel_rfl) (by simp) ?_
        refine AllReadyH.cons (o := { dst := some 35, op := Op.buildSlice 33 0 #[], type := 33, pos := _, after := _, guard := none }) rfl (fun K hK => ?_) AllReadyH.nil
        obtain ⟨g8, hg8⟩ : ∃ g, g = W6.heap.size := ⟨_, rfl⟩
        obtain ⟨w1x, hw1⟩ : ∃ V, (W6.alloc (.cells #[] 67)).drew = V := ⟨_, rfl⟩
        have HW1 : Hid ((W6.alloc (.cells #[] 67)).drew = w1x) := hw1
        have HG8 : Hid (g8 = W6.heap.size) := hg8
        have Q_2 : Hid (Bk w1x w2.heap.size 36 #[.int .i64 p.n, .slice a1 p.st.r.length c1, .int .i64 p.st.q, .int .i64 p.st.d, .slice an m cn, .slice a5 p.t.length c5, .slice a6 p.a.length c6]) := by (rw [← hw1]; exact Q_0.out.alloc _)
        have X_2 : Hid (Bk w1x w.heap.size 36 #[.int .i64 p.n, .slice a1 p.st.r.length c1, .int .i64 p.st.q, .int .i64 p.st.d, .slice (some ⟨b, off, none⟩) p.p.length c4, .slice a5 p.t.length c5, .slice a6 p.a.length c6]) := by (rw [← hw1]; exact X_0.out.alloc _)
        have Z_2 : Hid (Bk w1x (w.heap.size + 1 + 1) 36 #[.int .i64 0, .slice none 0 0, .int .i64 0, .int .i64 0, .slice none 0 0, .slice none 0 0, .slice none 0 0]) := by (rw [← hw1]; exact Z_0.out.alloc _)
        have R_2 : Hid (w1x.ownsRow (w2.heap.size + 1) 67 12 (.slice an m cn) m cs) := by (rw [← hw1]; exact R_0.out.alloc _)
        have BW_2 : Hid (Below w.heap.size w w1x) := by (rw [← hw1]; exact BW_0.out.alloc BW_0.out.size _)
        clear Q_0 X_0 Z_0 R_0 BW_0
        have E_2 : Hid (w1x.ownsRow W6.heap.size 67 12 (.slice (some ⟨g8, 0, none⟩) 0 0) 0 []) := by (rw [← hw1, hg8]; exact row_empty_any W6 67 12)
        have hz1 : g8 < w1x.heap.size := by (rw [← hw1, hg8]; exact (Bk.new W6 67 #[]).lt)
        have hzy1 : W6.heap.size ≤ g8 ∧ g8 ≤ W6.heap.size := by omega
        clear hw1 hg8
        go_simp
        rw [HW1.out, ← HG8.out]
        have S_2 : Hid (w1x.cell? ⟨w2.heap.size, 0, none⟩ = some (.int .i64 p.n) ∧ w1x.cell? ⟨w2.heap.size, 1, none⟩ = some (.slice a1 p.st.r.length c1) ∧ w1x.cell? ⟨w2.heap.size, 2, none⟩ = some (.int .i64 p.st.q) ∧ w1x.cell? ⟨w2.heap.size, 3, none⟩ = some (.int .i64 p.st.d) ∧ w1x.cell? ⟨w2.heap.size, 4, none⟩ = some (.slice an m cn) ∧ w1x.cell? ⟨w2.heap.size, 5, none⟩ = some (.slice a5 p.t.length c5) ∧ w1x.cell? ⟨w2.heap.size, 6, none⟩ = some (.slice a6 p.a.length c6) ∧ w1x.cell? ⟨w.heap.size, 4, none⟩ = some (.slice (some ⟨b, off, none⟩) p.p.length c4)) := ⟨Q_2.out.cell rfl, Q_2.out.cell rfl, Q_2.out.cell rfl, Q_2.out.cell rfl, Q_2.out.cell rfl, Q_2.out.cell rfl, Q_2.out.cell rfl, X_2.out.cell rfl⟩
        refine hK.out _ _ S_2.out (fun hHeld => ?_)
        clear hK K
        try simp only [Act.put, List.setIfInBounds_toArray, List.set_cons_zero, List.set_cons_succ]
        refine wpAnyH_ready (rs := [6]) (by kernel_rfl) (by simp) ?_
        refine AllReadyH.cons (o := { dst := some 40, op := Op.call { callee := Callee.builtin Builtin.append, args := #[Operand.tmp 35, Operand.tmp 39], argTypes := #[33, 33] }, type := 33, pos := _, after := _, guard := none }) rfl (fun K hK => ?_) AllReadyH.nil
        refine step_append_src (w := w1x) rfl (.tmp 35) (.tmp 39) 33 rfl W6.heap.size 67 ip _ 12 144 Try.underlying33 hip hip0 hip1 hip2 rfl (by decide) (.slice (some ⟨g8, 0, none⟩) 0 0) 0 [] rfl E_2.out (.slice au m2 cu) m2 cs2 rfl (HSR2.out.below BW_2.out) H2.out (by unfold maxLen; omega) (by omega) (by omega) ?_
        intro vn w3x hown hgrow hnew
        rw [Nat.zero_add, List.nil_append] at hown
        obtain ⟨ae, ce, hve⟩ := owns_slice hown
        subst hve
        have hgt := grown_turns hgrow
        have hS8 : ∀ k, (Value.slice (some ⟨g8, 0, none⟩) 0 0).ownBlock = some k → k = g8 := fun k e => by simpa [Value.ownBlock] using e.symm
        have hz3 : w1x.heap.size ≤ w3x.heap.size := hgrow.size
        have HLR : Hid (∀ b, (Value.slice an m cn).ownBlock = some b → b < W6.heap.size ∧ w2.heap.size + 1 ≤ b) := fun b hb => ⟨HL6.out b hb, row_ge R_2.out hb⟩
        have Q_4 : Hid (Bk w3x w2.heap.size 36 #[.int .i64 p.n, .slice a1 p.st.r.length c1, .int .i64 p.st.q, .int .i64 p.st.d, .slice an m cn, .slice a5 p.t.length c5, .slice a6 p.a.length c6]) := Q_2.out.turns hgt (fun e => by have := hS8 _ e; omega)
        have X_4 : Hid (Bk w3x w.heap.size 36 #[.int .i64 p.n, .slice a1 p.st.r.length c1, .int .i64 p.st.q, .int .i64 p.st.d, .slice (some ⟨b, off, none⟩) p.p.length c4, .slice a5 p.t.length c5, .slice a6 p.a.length c6]) := X_2.out.turns hgt (fun e => by have := hS8 _ e; omega)
        have Z_4 : Hid (Bk w3x (w.heap.size + 1 + 1) 36 #[.int .i64 0, .slice none 0 0, .int .i64 0, .int .i64 0, .slice none 0 0, .slice none 0 0, .slice none 0 0]) := Z_2.out.turns hgt (fun e => by have := hS8 _ e; omega)
        have R_4 : Hid (w3x.ownsRow (w2.heap.size + 1) 67 12 (.slice an m cn) m cs) := owns_turns R_2.out hgt (fun b hb e => by have := hS8 b e; have := HLR.out b hb; omega)
        have BW_4 : Hid (Below w.heap.size w w3x) := BW_2.out.grown hgrow BW_2.out.size (fun k e => by have := hS8 k e; omega)
        clear Q_2 X_2 Z_2 R_2 BW_2 E_2
        have A_4 : Hid (w3x.ownsRow W6.heap.size 67 12 (.slice ae m2 ce) m2 cs2) := hown
        clear hown hgrow hnew hgt hS8
        have S_4 : Hid (w3x.cell? ⟨w2.heap.size, 0, none⟩ = some (.int .i64 p.n) ∧ w3x.cell? ⟨w2.heap.size, 1, none⟩ = some (.slice a1 p.st.r.length c1) ∧ w3x.cell? ⟨w2.heap.size, 2, none⟩ = some (.int .i64 p.st.q) ∧ w3x.cell? ⟨w2.heap.size, 3, none⟩ = some (.int .i64 p.st.d) ∧ w3x.cell? ⟨w2.heap.size, 4, none⟩ = some (.slice an m cn) ∧ w3x.cell? ⟨w2.heap.size, 5, none⟩ = some (.slice a5 p.t.length c5) ∧ w3x.cell? ⟨w2.heap.size, 6, none⟩ = some (.slice a6 p.a.length c6) ∧ w3x.cell? ⟨w.heap.size, 4, none⟩ = some (.slice (some ⟨b, off, none⟩) p.p.length c4)) := ⟨Q_4.out.cell rfl, Q_4.out.cell rfl, Q_4.out.cell rfl, Q_4.out.cell rfl, Q_4.out.cell rfl, Q_4.out.cell rfl, Q_4.out.cell rfl, X_4.out.cell rfl⟩
        refine hK.out _ _ S_4.out (fun hHeld => ?_)
        clear hK K
        try simp only [Act.put, List.setIfInBounds_toArray, List.set_cons_zero, List.set_cons_succ]
        refine wpAnyH_ready (rs := [7]) (by kernel_rfl) (by simp) ?_
        refine AllReadyH.cons (o := { dst := none, op := Op.store 36 (Operand.tmp 4) (Operand.tmp 34), type := 0, pos := _, after := _, guard := none }) rfl (fun K hK => ?_) AllReadyH.nil
        have q0 := Z_4.out.cell (i := 0) rfl
        have q1 := Z_4.out.cell (i := 1) rfl
        have q2 := Z_4.out.cell (i := 2) rfl
        have q3 := Z_4.out.cell (i := 3) rfl
        have q4 := Z_4.out.cell (i := 4) rfl
        have q5 := Z_4.out.cell (i := 5) rfl
        have q6 := Z_4.out.cell (i := 6) rfl
        have qf := Z_4.out.free
        obtain ⟨X5, hX5⟩ : ∃ X5, put7s w3x (w.heap.size + 1 + 1) (.int .i64 p.n) (.slice a1 p.st.r.length c1) (.int .i64 p.st.q) (.int .i64 p.st.d) (.slice an m cn) (.slice a5 p.t.length c5) (.slice a6 p.a.length c6) = X5 := ⟨_, rfl⟩
        have hP := Z_4.out.put7s (.int .i64 p.n) (.slice a1 p.st.r.length c1) (.int .i64 p.st.q) (.int .i64 p.st.d) (.slice an m cn) (.slice a5 p.t.length c5) (.slice a6 p.a.length c6)
        have ht := put7s_turns w3x (w.heap.size + 1 + 1) (.int .i64 p.n) (.slice a1 p.st.r.length c1) (.int .i64 p.st.q) (.int .i64 p.st.d) (.slice an m cn) (.slice a5 p.t.length c5) (.slice a6 p.a.length c6)
        rw [hX5] at hP ht
        unfold put7s at hX5
        have HX5 : Hid _ := hX5
        have HP5 : Hid (Bk X5 (w.heap.size + 1 + 1) 36 #[.int .i64 p.n, .slice a1 p.st.r.length c1, .int .i64 p.st.q, .int .i64 p.st.d, .slice an m cn, .slice a5 p.t.length c5, .slice a6 p.a.length c6]) := hP
        have HT5 : Hid (Turns (fun b => b = (w.heap.size + 1 + 1)) w3x X5) := ht
        have QX : Hid (Bk X5 w2.heap.size 36 #[.int .i64 p.n, .slice a1 p.st.r.length c1, .int .i64 p.st.q, .int .i64 p.st.d, .slice an m cn, .slice a5 p.t.length c5, .slice a6 p.a.length c6]) := Q_4.out.turns ht (by omega)
        have XX : Hid (Bk X5 w.heap.size 36 #[.int .i64 p.n, .slice a1 p.st.r.length c1, .int .i64 p.st.q, .int .i64 p.st.d, .slice (some ⟨b, off, none⟩) p.p.length c4, .slice a5 p.t.length c5, .slice a6 p.a.length c6]) := X_4.out.turns ht (by omega)
        clear hX5 hP ht
        go_simp
        clear qf q0 q1 q2 q3 q4 q5 q6
        rw [HX5.out]
        refine hK.out _ _ ⟨QX.out.cell rfl, QX.out.cell rfl, QX.out.cell rfl, QX.out.cell rfl, QX.out.cell rfl, QX.out.cell rfl, QX.out.cell rfl, XX.out.cell rfl⟩ (fun hHeld => ?_)
        clear hK K
        try simp only [Act.put, List.setIfInBounds_toArray, List.set_cons_zero, List.set_cons_succ]
        refine wpAnyH_take (i := 8) (oi := { dst := some 5, op := Op.assign (Operand.tmp 40), type := 33, pos := _, after := _, guard := none }) (v := .slice ae m2 ce) rfl (by kernel_rfl) (by kernel_rfl) (by kernel_rfl) (fun _ _ _ h => h) (Or.inl ⟨by rfl, ?_⟩) (by assumption) ?_
        · intro wX hSw
          try dsimp only at hSw
          go_simp
          try exact IntWalk.i64_in _ (by omega)
        try simp only [Act.put, List.setIfInBounds_toArray, List.set_cons_zero, List.set_cons_succ]
        refine wpAnyH_done (by kernel_rfl) ?_ _
        clear hHeld
        go_wp2
        have t0 := HP5.out.cell (i := 0) rfl
        have t1 := HP5.out.cell (i := 1) rfl
        have t2 := HP5.out.cell (i := 2) rfl
        have t3 := HP5.out.cell (i := 3) rfl
        have t4 := HP5.out.cell (i := 4) rfl
        have t5 := HP5.out.cell (i := 5) rfl
        have t6 := HP5.out.cell (i := 6) rfl
        refine bodyPost_ret (v := .tuple #[.agg #[.int .i64 p.n, .slice a1 p.st.r.length c1, .int .i64 p.st.q, .int .i64 p.st.d, .slice an m cn, .slice a5 p.t.length c5, .slice a6 p.a.length c6], .slice ae m2 ce]) (by simp [results, Try.results27, go_sem, t0, t1, t2, t3, t4, t5, t6]) rfl ?_
        have hBX : Below w.heap.size w X5 := BW_4.out.trans (HT5.out.to_below (fun b e => by omega) BW_4.out.size)
        refine ⟨_, _, k, rfl, HC.out, ⟨_, _, _, _, rfl, O1.out.under hBX, ?_, O5.out.under hBX, O6.out.under hBX⟩, ?_, hBX⟩
        · show IsD X5 (.slice an m cn) (.row 12 (p.p.drop k).length (pastsD_f (p.p.drop k)))
          rw [HM.out.1]
          exact isD_row (owns_turns R_4.out HT5.out (fun b hb e => by have := row_ge R_4.out hb; omega)) (fun j hj => (HDA.out j hj).under hBX)
        · show IsD X5 (.slice ae m2 ce) (.row 12 (p.p.take k).length (pastsD_f (p.p.take k)))
          rw [HM.out.2]
          exact isD_row (owns_turns A_4.out HT5.out (fun b hb e => by have := row_ge A_4.out hb; omega)) (fun j hj => (HDA2.out j hj).under hBX)
    · have hd : decide (k < p.p.length) = false := by simp; omega
      have hd2 : ¬ ((k : Int) < (p.p.length : Int)) := by omega
      go_wp2_with fail
      refine wp_region_beyond (by kernel_rfl) (by kernel_rfl) ?_
      repeat (go_big_quiet_step (fail))
      refine wpQuiet_nil ?_
      rintro w2 ⟨⟨_, hb2⟩, rfl⟩
      clear hne x4 e0 e1 e2 e3 e4 e5 e6
      have HC : Hid (CutAt p.p e k) := ⟨hk, HJ.out, fun c => absurd c hlt⟩
      have HBw : Hid (Below w.heap.size w w2) := HB0.out.trans ((HB.out.trans (hb2.mono hsz)).mono (by omega))
      have HB2 : Hid (Below W0.heap.size W0 w2) := HB.out.trans (hb2.mono hsz)
      clear hb2
      have hs2 : W0.heap.size ≤ w2.heap.size := HB2.out.size
      have HX2 : Hid (Bk w2 w.heap.size 36 #[.int .i64 p.n, .slice a1 p.st.r.length c1, .int .i64 p.st.q, .int .i64 p.st.d, .slice a4 p.p.length c4, .slice a5 p.t.length c5, .slice a6 p.a.length c6]) := BX.out.below HB2.out
      have HZ2 : Hid (Bk w2 (w.heap.size + 1 + 1) 36 #[.int .i64 0, .slice none 0 0, .int .i64 0, .int .i64 0, .slice none 0 0, .slice none 0 0, .slice none 0 0]) := BZ.out.below HB2.out
      have x0 := HX2.out.cell (i := 0) rfl
      have x1 := HX2.out.cell (i := 1) rfl
      have x2 := HX2.out.cell (i := 2) rfl
      have x3 := HX2.out.cell (i := 3) rfl
      have x4 := HX2.out.cell (i := 4) rfl
      have x5 := HX2.out.cell (i := 5) rfl
      have x6 := HX2.out.cell (i := 6) rfl
      have hk8 : (k : Int) ≤ (p.p.length : Int) := by omega
      obtain ⟨W4, hW4⟩ : ∃ V, (w2.alloc (.cells #[.int .i64 p.n, .slice a1 p.st.r.length c1, .int .i64 p.st.q, .int .i64 p.st.d, .slice a4 p.p.length c4, .slice a5 p.t.length c5, .slice a6 p.a.length c6] 36)).alloc (.cells #[] 67) = V := ⟨_, rfl⟩
      have HX4 : Hid (Bk W4 w.heap.size 36 #[.int .i64 p.n, .slice a1 p.st.r.length c1, .int .i64 p.st.q, .int .i64 p.st.d, .slice a4 p.p.length c4, .slice a5 p.t.length c5, .slice a6 p.a.length c6]) := hW4 ▸ (HX2.out.alloc _).alloc _
      have HQ4 : Hid (Bk W4 w2.heap.size 36 #[.int .i64 p.n, .slice a1 p.st.r.length c1, .int .i64 p.st.q, .int .i64 p.st.d, .slice a4 p.p.length c4, .slice a5 p.t.length c5, .slice a6 p.a.length c6]) := hW4 ▸ (Bk.new w2 _ _).alloc _
      have HZ4 : Hid (Bk W4 (w.heap.size + 1 + 1) 36 #[.int .i64 0, .slice none 0 0, .int .i64 0, .int .i64 0, .slice none 0 0, .slice none 0 0, .slice none 0 0]) := hW4 ▸ (HZ2.out.alloc _).alloc _
      have HE4 : Hid (W4.ownsRow (w2.heap.size + 1) 67 12 (.slice (some ⟨w2.heap.size + 1, 0, none⟩) 0 0) 0 []) := by (rw [← hW4]; have := row_empty_any (w2.alloc (.cells #[.int .i64 p.n, .slice a1 p.st.r.length c1, .int .i64 p.st.q, .int .i64 p.st.d, .slice a4 p.p.length c4, .slice a5 p.t.length c5, .slice a6 p.a.length c6] 36)) 67 12; rw [World.size_alloc] at this; exact this)
      have hb4' : Below w2.heap.size w2 W4 := hW4 ▸ ((Below.refl _ w2).alloc (Nat.le_refl _) _).alloc (by simp) _
      have HB4 : Hid (Below w2.heap.size w2 W4) := hb4'
      have x4' := HX4.out.cell (i := 4) rfl
      clear hb4'
      have hkd : (p.p.drop k).length ≤ 1048577 ∧ (p.p.take k).length ≤ 1048577 := by
        rw [List.length_drop, List.length_take]
        omega
      obtain ⟨V, hV⟩ : ∃ V, sliced a4 k p.p.length c4 12 = V := ⟨_, rfl⟩
      have hVD : IsD w V (pastsD (p.p.drop k)) := hV ▸ pasts_drop O4.out hk
      have hsl : ∀ w : World, (Instr.sliceAt 33 (.slice a4 p.p.length c4) (some (.int .i64 (k : Int))) none none).run Try.prog w = .ok V w := fun w => hV ▸ run_cutFrom _ _ _ _ hk w
      obtain ⟨U, hU⟩ : ∃ U, sliced a4 0 k c4 12 = U := ⟨_, rfl⟩
      have hUD : IsD w U (pastsD (p.p.take k)) := hU ▸ pasts_take O4.out hk
      have hsl2 : ∀ w : World, (Instr.sliceAt 33 (.slice a4 p.p.length c4) none (some (.int .i64 (k : Int))) none).run Try.prog w = .ok U w := fun w => hU ▸ run_cutTo _ _ _ _ (by omega) w
      obtain ⟨cs, hsrc, hdat⟩ := IsD.cells hVD
      obtain ⟨cs2, hsrc2, hdat2⟩ := IsD.cells hUD
      obtain ⟨av, cv, rfl, _⟩ := IsD.len hVD
      obtain ⟨au, cu, rfl, _⟩ := IsD.len hUD
      have HSR : Hid (SrcC w (.slice av (p.p.drop k).length cv) 12 (p.p.drop k).length cs) := hsrc
      have HDA : Hid (∀ j, j < (p.p.drop k).length * 12 → IsD w (nthV cs j) (pastsD_f (p.p.drop k) j)) := hdat
      have HSR2 : Hid (SrcC w (.slice au (p.p.take k).length cu) 12 (p.p.take k).length cs2) := hsrc2
      have HDA2 : Hid (∀ j, j < (p.p.take k).length * 12 → IsD w (nthV cs2 j) (pastsD_f (p.p.take k) j)) := hdat2
      have H1 : Hid (∀ u ∈ cs, u.oneCell' = true) := src_ones hsrc.1 hdat
      have H2 : Hid (∀ u ∈ cs2, u.oneCell' = true) := src_ones hsrc2.1 hdat2
      have HBw4 : Hid (Below w.heap.size w W4) := HBw.out.trans (HB4.out.mono HBw.out.size)
      have hsz4 : w2.heap.size + 1 + 1 ≤ W4.heap.size := by rw [← hW4]; simp
      have hszw := HBw.out.size
      obtain ⟨m, hm⟩ : ∃ m, (p.p.drop k).length = m := ⟨_, rfl⟩
      obtain ⟨m2, hm2⟩ : ∃ m, (p.p.take k).length = m := ⟨_, rfl⟩
      have HM : Hid ((p.p.drop k).length = m ∧ (p.p.take k).length = m2) := ⟨hm, hm2⟩
      rw [hm] at hsl hkd HSR HDA
      rw [hm2] at hsl2 hkd HSR2 HDA2
      clear hV hU hsrc hdat hsrc2 hdat2 hVD hUD hm hm2
      go_wp2_with (at_builtin; refine wpList_append_src _ rfl _ _ 33 rfl (w2.heap.size + 1) 67 ip _ 12 144 Try.underlying33 hip hip0 hip1 hip2 rfl (by decide) (.slice (some ⟨w2.heap.size + 1, 0, none⟩) 0 0) 0 [] rfl HE4.out (.slice av m cv) m cs rfl (HSR.out.below HBw4.out) H1.out (by unfold maxLen; omega) (by omega) (by omega) ?_; intro vn w5 hown hgrow hnew; have h45 := grown_turns hgrow; have HQ5 : Hid (Bk w5 w2.heap.size 36 #[.int .i64 p.n, .slice a1 p.st.r.length c1, .int .i64 p.st.q, .int .i64 p.st.d, .slice a4 p.p.length c4, .slice a5 p.t.length c5, .slice a6 p.a.length c6]) := HQ4.out.turns h45 (by simp [Value.ownBlock]); have HX5 : Hid (Bk w5 w.heap.size 36 #[.int .i64 p.n, .slice a1 p.st.r.length c1, .int .i64 p.st.q, .int .i64 p.st.d, .slice a4 p.p.length c4, .slice a5 p.t.length c5, .slice a6 p.a.length c6]) := HX4.out.turns h45 (by simp [Value.ownBlock]; omega); have HZ5 : Hid (Bk w5 (w.heap.size + 1 + 1) 36 #[.int .i64 0, .slice none 0 0, .int .i64 0, .int .i64 0, .slice none 0 0, .slice none 0 0, .slice none 0 0]) := HZ4.out.turns h45 (by simp [Value.ownBlock]; omega); have HBw5 : Hid (Below w.heap.size w w5) := HBw4.out.grown hgrow (by omega) (fun b e => by simp [Value.ownBlock] at e; omega); rw [Nat.zero_add, List.nil_append] at hown; obtain ⟨an, cn, hvn⟩ := owns_slice hown; subst hvn; have HO5 : Hid (w5.ownsRow (w2.heap.size + 1) 67 12 (.slice an m cn) m cs) := hown; have hs5 : W4.heap.size ≤ w5.heap.size := hgrow.size; have z4 := HQ5.out.cell (i := 4) rfl; have zf := HQ5.out.free; clear hown hgrow hnew h45)
      clear x4' zf z4 hW4 hsl x0 x1 x2 x3 x4 x5 x6
      obtain ⟨W6, hW6⟩ : ∃ V, w5.setCell ⟨w2.heap.size, 4, none⟩ (.slice an m cn) = V := ⟨_, rfl⟩
      have ht6 := put1_turns w5 w2.heap.size 4 (.slice an m cn)
      have hq6 := HQ5.out.put 4 (.slice an m cn)
      rw [hW6] at ht6 hq6 ⊢
      clear hW6
      have Q_0 : Hid (Bk W6.drew w2.heap.size 36 #[.int .i64 p.n, .slice a1 p.st.r.length c1, .int .i64 p.st.q, .int .i64 p.st.d, .slice an m cn, .slice a5 p.t.length c5, .slice a6 p.a.length c6]) := hq6.drew
      have X_0 : Hid (Bk W6.drew w.heap.size 36 #[.int .i64 p.n, .slice a1 p.st.r.length c1, .int .i64 p.st.q, .int .i64 p.st.d, .slice a4 p.p.length c4, .slice a5 p.t.length c5, .slice a6 p.a.length c6]) := (HX5.out.turns ht6 (by omega)).drew
      have Z_0 : Hid (Bk W6.drew (w.heap.size + 1 + 1) 36 #[.int .i64 0, .slice none 0 0, .int .i64 0, .int .i64 0, .slice none 0 0, .slice none 0 0, .slice none 0 0]) := (HZ5.out.turns ht6 (by omega)).drew
      have R_0 : Hid (W6.drew.ownsRow (w2.heap.size + 1) 67 12 (.slice an m cn) m cs) := (owns_turns HO5.out ht6 (fun b hb e => by have := row_ge HO5.out hb; omega)).drew
      have HL6 : Hid (∀ b, (Value.slice an m cn).ownBlock = some b → b < W6.heap.size) := fun b hb => owns_lt R_0.out hb
      have BW_0 : Hid (Below w.heap.size w W6.drew) := (HBw5.out.trans (ht6.to_below (fun b e => by omega) HBw5.out.size)).drew
      have hs6 : w5.heap.size ≤ W6.heap.size := ht6.size
      have hsd6 : W6.drew.heap.size ≤ W6.heap.size ∧ W6.heap.size ≤ W6.drew.heap.size := ⟨Nat.le_refl _, Nat.le_refl _⟩
      clear ht6 hq6 HQ5 HX5 HZ5 HO5 HBw5
      have S_0 : Hid (W6.drew.cell? ⟨w2.heap.size, 0, none⟩ = some (.int .i64 p.n) ∧ W6.drew.cell? ⟨w2.heap.size, 1, none⟩ = some (.slice a1 p.st.r.length c1) ∧ W6.drew.cell? ⟨w2.heap.size, 2, none⟩ = some (.int .i64 p.st.q) ∧ W6.drew.cell? ⟨w2.heap.size, 3, none⟩ = some (.int .i64 p.st.d) ∧ W6.drew.cell? ⟨w2.heap.size, 4, none⟩ = some (.slice an m cn) ∧ W6.drew.cell? ⟨w2.heap.size, 5, none⟩ = some (.slice a5 p.t.length c5) ∧ W6.drew.cell? ⟨w2.heap.size, 6, none⟩ = some (.slice a6 p.a.length c6) ∧ W6.drew.cell? ⟨w.heap.size, 4, none⟩ = some (.slice a4 p.p.length c4)) := ⟨Q_0.out.cell rfl, Q_0.out.cell rfl, Q_0.out.cell rfl, Q_0.out.cell rfl, Q_0.out.cell rfl, Q_0.out.cell rfl, Q_0.out.cell rfl, X_0.out.cell rfl⟩
      refine wp_region_held_drew (S := fun W => W.cell? ⟨w2.heap.size, 0, none⟩ = some (.int .i64 p.n) ∧ W.cell? ⟨w2.heap.size, 1, none⟩ = some (.slice a1 p.st.r.length c1) ∧ W.cell? ⟨w2.heap.size, 2, none⟩ = some (.int .i64 p.st.q) ∧ W.cell? ⟨w2.heap.size, 3, none⟩ = some (.int .i64 p.st.d) ∧ W.cell? ⟨w2.heap.size, 4, none⟩ = some (.slice an m cn) ∧ W.cell? ⟨w2.heap.size, 5, none⟩ = some (.slice a5 p.t.length c5) ∧ W.cell? ⟨w2.heap.size, 6, none⟩ = some (.slice a6 p.a.length c6) ∧ W.cell? ⟨w.heap.size, 4, none⟩ = some (.slice a4 p.p.length c4)) (by kernel_rfl) S_0.out (fun hHeld => ?_)
      refine wpAnyH_take (i := 0) (oi := { dst := some 34, op := Op.load 36 (Operand.tmp 7), type := 36, pos := _, after := _, guard := none }) (v := .agg #[.int .i64 p.n, .slice a1 p.st.r.length c1, .int .i64 p.st.q, .int .i64 p.st.d, .slice an m cn, .slice a5 p.t.length c5, .slice a6 p.a.length c6]) rfl (by kernel_rfl) (by kernel_rfl) (by kernel_rfl) (fun _ _ _ h => h) (Or.inl ⟨by rfl, ?_⟩) (by assumption) ?_
      · intro wX hSw
        try dsimp only at hSw
        go_simp
        try exact IntWalk.i64_in _ (by omega)
      try simp only [Act.put, List.setIfInBounds_toArray, List.set_cons_zero, List.set_cons_succ]
      refine wpAnyH_take (i := 2) (oi := { dst := some 36, op := Op.fieldAddr 36 (Operand.tmp 2) 2, type := 0, pos := _, after := _, guard := none }) (v := .pointer (some ⟨w.heap.size, 4, none⟩)) rfl (by kernel_rfl) (by kernel_rfl) (by kernel_rfl) (fun _ _ _ h => h) (Or.inl ⟨by rfl, ?_⟩) (by assumption) ?_
      · intro wX hSw
        try dsimp only at hSw
        go_simp
        try exact IntWalk.i64_in _ (by omega)
      try simp only [Act.put, List.setIfInBounds_toArray, List.set_cons_zero, List.set_cons_succ]
      refine wpAnyH_take (i := 3) (oi := { dst := some 37, op := Op.load 33 (Operand.tmp 36), type := 33, pos := _, after := _, guard := none }) (v := .slice a4 p.p.length c4) rfl (by kernel_rfl) (by kernel_rfl) (by kernel_rfl) (fun _ _ _ h => h) (Or.inl ⟨by rfl, ?_⟩) (by assumption) ?_
      · intro wX hSw
        try dsimp only at hSw
        go_simp
        try exact IntWalk.i64_in _ (by omega)
      try simp only [Act.put, List.setIfInBounds_toArray, List.set_cons_zero, List.set_cons_succ]
      refine wpAnyH_take (i := 4) (oi := { dst := some 38, op := Op.move (Operand.tmp 6), type := 3, pos := _, after := _, guard := none }) (v := .int .i64 (k : Int)) rfl (by kernel_rfl) (by kernel_rfl) (by kernel_rfl) (fun _ _ _ h => h) (Or.inl ⟨by rfl, ?_⟩) (by assumption) ?_
      · intro wX hSw
        try dsimp only at hSw
        go_simp
        try exact IntWalk.i64_in _ (by omega)
      try simp only [Act.put, List.setIfInBounds_toArray, List.set_cons_zero, List.set_cons_succ]
      refine wpAnyH_take (i := 5) (oi := { dst := some 39, op := Op.slice 33 (Operand.tmp 37) none (some (Operand.tmp 38)) none, type := 33, pos := _, after := _, guard := none }) (v := .slice au m2 cu) rfl (by kernel_rfl) (by kernel_rfl) (by kernel_rfl) (fun _ _ _ h => h) (Or.inl ⟨by rfl, ?_⟩) (by assumption) ?_
      · intro wX hSw
        try dsimp only at hSw
        go_simp
        try exact IntWalk.i64_in _ (by omega)
      try simp only [Act.put, List.setIfInBounds_toArray, List.set_cons_zero, List.set_cons_succ]
      refine wpAnyH_ready (rs := [1]) (by kernel_rfl) (by simp) ?_
      refine AllReadyH.cons (o := { dst := some 35, op := Op.buildSlice 33 0 #[], type := 33, pos := _, after := _, guard := none }) rfl (fun K hK => ?_) AllReadyH.nil
      obtain ⟨g8, hg8⟩ : ∃ g, g = W6.heap.size := ⟨_, rfl⟩
      obtain ⟨w1x, hw1⟩ : ∃ V, (W6.alloc (.cells #[] 67)).drew = V := ⟨_, rfl⟩
      have HW1 : Hid ((W6.alloc (.cells #[] 67)).drew = w1x) := hw1
      have HG8 : Hid (g8 = W6.heap.size) := hg8
      have Q_2 : Hid (Bk w1x w2.heap.size 36 #[.int .i64 p.n, .slice a1 p.st.r.length c1, .int .i64 p.st.q, .int .i64 p.st.d, .slice an m cn, .slice a5 p.t.length c5, .slice a6 p.a.length c6]) := by (rw [← hw1]; exact Q_0.out.alloc _)
      have X_2 : Hid (Bk w1x w.heap.size 36 #[.int .i64 p.n, .slice a1 p.st.r.length c1, .int .i64 p.st.q, .int .i64 p.st.d, .slice a4 p.p.length c4, .slice a5 p.t.length c5, .slice a6 p.a.length c6]) := by (rw [← hw1]; exact X_0.out.alloc _)
      have Z_2 : Hid (Bk w1x (w.heap.size + 1 + 1) 36 #[.int .i64 0, .slice none 0 0, .int .i64 0, .int .i64 0, .slice none 0 0, .slice none 0 0, .slice none 0 0]) := by (rw [← hw1]; exact Z_0.out.alloc _)
      have R_2 : Hid (w1x.ownsRow (w2.heap.size + 1) 67 12 (.slice an m cn) m cs) := by (rw [← hw1]; exact R_0.out.alloc _)
      have BW_2 : Hid (Below w.heap.size w w1x) := by (rw [← hw1]; exact BW_0.out.alloc BW_0.out.size _)
      clear Q_0 X_0 Z_0 R_0 BW_0
      have E_2 : Hid (w1x.ownsRow W6.heap.size 67 12 (.slice (some ⟨g8, 0, none⟩) 0 0) 0 []) := by (rw [← hw1, hg8]; exact row_empty_any W6 67 12)
      have hz1 : g8 < w1x.heap.size := by (rw [← hw1, hg8]; exact (Bk.new W6 67 #[]).lt)
      have hzy1 : W6.heap.size ≤ g8 ∧ g8 ≤ W6.heap.size := by omega
      clear hw1 hg8
      go_simp
      rw [HW1.out, ← HG8.out]
      have S_2 : Hid (w1x.cell? ⟨w2.heap.size, 0, none⟩ = some (.int .i64 p.n) ∧ w1x.cell? ⟨w2.heap.size, 1, none⟩ = some (.slice a1 p.st.r.length c1) ∧ w1x.cell? ⟨w2.heap.size, 2, none⟩ = some (.int .i64 p.st.q) ∧ w1x.cell? ⟨w2.heap.size, 3, none⟩ = some (.int .i64 p.st.d) ∧ w1x.cell? ⟨w2.heap.size, 4, none⟩ = some (.slice an m cn) ∧ w1x.cell? ⟨w2.heap.size, 5, none⟩ = some (.slice a5 p.t.length c5) ∧ w1x.cell? ⟨w2.heap.size, 6, none⟩ = some (.slice a6 p.a.length c6) ∧ w1x.cell? ⟨w.heap.size, 4, none⟩ = some (.slice a4 p.p.length c4)) := ⟨Q_2.out.cell rfl, Q_2.out.cell rfl, Q_2.out.cell rfl, Q_2.out.cell rfl, Q_2.out.cell rfl, Q_2.out.cell rfl, Q_2.out.cell rfl, X_2.out.cell rfl⟩
      refine hK.out _ _ S_2.out (fun hHeld => ?_)
      clear hK K
      try simp only [Act.put, List.setIfInBounds_toArray, List.set_cons_zero, List.set_cons_succ]
      refine wpAnyH_ready (rs := [6]) (by kernel_rfl) (by simp) ?_
      refine AllReadyH.cons (o := { dst := some 40, op := Op.call { callee := Callee.builtin Builtin.append, args := #[Operand.tmp 35, Operand.tmp 39], argTypes := #[33, 33] }, type := 33, pos := _, after := _, guard := none }) rfl (fun K hK => ?_) AllReadyH.nil
      refine step_append_src (w := w1x) rfl (.tmp 35) (.tmp 39) 33 rfl W6.heap.size 67 ip _ 12 144 Try.underlying33 hip hip0 hip1 hip2 rfl (by decide) (.slice (some ⟨g8, 0, none⟩) 0 0) 0 [] rfl E_2.out (.slice au m2 cu) m2 cs2 rfl (HSR2.out.below BW_2.out) H2.out (by unfold maxLen; omega) (by omega) (by omega) ?_
      intro vn w3x hown hgrow hnew
      rw [Nat.zero_add, List.nil_append] at hown
      obtain ⟨ae, ce, hve⟩ := owns_slice hown
      subst hve
      have hgt := grown_turns hgrow
      have hS8 : ∀ k, (Value.slice (some ⟨g8, 0, none⟩) 0 0).ownBlock = some k → k = g8 := fun k e => by simpa [Value.ownBlock] using e.symm
      have hz3 : w1x.heap.size ≤ w3x.heap.size := hgrow.size
      have HLR : Hid (∀ b, (Value.slice an m cn).ownBlock = some b → b < W6.heap.size ∧ w2.heap.size + 1 ≤ b) := fun b hb => ⟨HL6.out b hb, row_ge R_2.out hb⟩
      have Q_4 : Hid (Bk w3x w2.heap.size 36 #[.int .i64 p.n, .slice a1 p.st.r.length c1, .int .i64 p.st.q, .int .i64 p.st.d, .slice an m cn, .slice a5 p.t.length c5, .slice a6 p.a.length c6]) := Q_2.out.turns hgt (fun e => by have := hS8 _ e; omega)
      have X_4 : Hid (Bk w3x w.heap.size 36 #[.int .i64 p.n, .slice a1 p.st.r.length c1, .int .i64 p.st.q, .int .i64 p.st.d, .slice a4 p.p.length c4, .slice a5 p.t.length c5, .slice a6 p.a.length c6]) := X_2.out.turns hgt (fun e => by have := hS8 _ e; omega)
      have Z_4 : Hid (Bk w3x (w.heap.size + 1 + 1) 36 #[.int .i64 0, .slice none 0 0, .int .i64 0, .int .i64 0, .slice none 0 0, .slice none 0 0, .slice none 0 0]) := Z_2.out.turns hgt (fun e => by have := hS8 _ e; omega)
      have R_4 : Hid (w3x.ownsRow (w2.heap.size + 1) 67 12 (.slice an m cn) m cs) := owns_turns R_2.out hgt (fun b hb e => by have := hS8 b e; have := HLR.out b hb; omega)
      have BW_4 : Hid (Below w.heap.size w w3x) := BW_2.out.grown hgrow BW_2.out.size (fun k e => by have := hS8 k e; omega)
      clear Q_2 X_2 Z_2 R_2 BW_2 E_2
      have A_4 : Hid (w3x.ownsRow W6.heap.size 67 12 (.slice ae m2 ce) m2 cs2) := hown
      clear hown hgrow hnew hgt hS8
      have S_4 : Hid (w3x.cell? ⟨w2.heap.size, 0, none⟩ = some (.int .i64 p.n) ∧ w3x.cell? ⟨w2.heap.size, 1, none⟩ = some (.slice a1 p.st.r.length c1) ∧ w3x.cell? ⟨w2.heap.size, 2, none⟩ = some (.int .i64 p.st.q) ∧ w3x.cell? ⟨w2.heap.size, 3, none⟩ = some (.int .i64 p.st.d) ∧ w3x.cell? ⟨w2.heap.size, 4, none⟩ = some (.slice an m cn) ∧ w3x.cell? ⟨w2.heap.size, 5, none⟩ = some (.slice a5 p.t.length c5) ∧ w3x.cell? ⟨w2.heap.size, 6, none⟩ = some (.slice a6 p.a.length c6) ∧ w3x.cell? ⟨w.heap.size, 4, none⟩ = some (.slice a4 p.p.length c4)) := ⟨Q_4.out.cell rfl, Q_4.out.cell rfl, Q_4.out.cell rfl, Q_4.out.cell rfl, Q_4.out.cell rfl, Q_4.out.cell rfl, Q_4.out.cell rfl, X_4.out.cell rfl⟩
      refine hK.out _ _ S_4.out (fun hHeld => ?_)
      clear hK K
      try simp only [Act.put, List.setIfInBounds_toArray, List.set_cons_zero, List.set_cons_succ]
      refine wpAnyH_ready (rs := [7]) (by kernel_rfl) (by simp) ?_
      refine AllReadyH.cons (o := { dst := none, op := Op.store 36 (Operand.tmp 4) (Operand.tmp 34), type := 0, pos := _, after := _, guard := none }) rfl (fun K hK => ?_) AllReadyH.nil
      have q0 := Z_4.out.cell (i := 0) rfl
      have q1 := Z_4.out.cell (i := 1) rfl
      have q2 := Z_4.out.cell (i := 2) rfl
      have q3 := Z_4.out.cell (i := 3) rfl
      have q4 := Z_4.out.cell (i := 4) rfl
      have q5 := Z_4.out.cell (i := 5) rfl
      have q6 := Z_4.out.cell (i := 6) rfl
      have qf := Z_4.out.free
      obtain ⟨X5, hX5⟩ : ∃ X5, put7s w3x (w.heap.size + 1 + 1) (.int .i64 p.n) (.slice a1 p.st.r.length c1) (.int .i64 p.st.q) (.int .i64 p.st.d) (.slice an m cn) (.slice a5 p.t.length c5) (.slice a6 p.a.length c6) = X5 := ⟨_, rfl⟩
      have hP := Z_4.out.put7s (.int .i64 p.n) (.slice a1 p.st.r.length c1) (.int .i64 p.st.q) (.int .i64 p.st.d) (.slice an m cn) (.slice a5 p.t.length c5) (.slice a6 p.a.length c6)
      have ht := put7s_turns w3x (w.heap.size + 1 + 1) (.int .i64 p.n) (.slice a1 p.st.r.length c1) (.int .i64 p.st.q) (.int .i64 p.st.d) (.slice an m cn) (.slice a5 p.t.length c5) (.slice a6 p.a.length c6)
      rw [hX5] at hP ht
      unfold put7s at hX5
      have HX5 : Hid _ := hX5
      have HP5 : Hid (Bk X5 (w.heap.size + 1 + 1) 36 #[.int .i64 p.n, .slice a1 p.st.r.length c1, .int .i64 p.st.q, .int .i64 p.st.d, .slice an m cn, .slice a5 p.t.length c5, .slice a6 p.a.length c6]) := hP
      have HT5 : Hid (Turns (fun b => b = (w.heap.size + 1 + 1)) w3x X5) := ht
      have QX : Hid (Bk X5 w2.heap.size 36 #[.int .i64 p.n, .slice a1 p.st.r.length c1, .int .i64 p.st.q, .int .i64 p.st.d, .slice an m cn, .slice a5 p.t.length c5, .slice a6 p.a.length c6]) := Q_4.out.turns ht (by omega)
      have XX : Hid (Bk X5 w.heap.size 36 #[.int .i64 p.n, .slice a1 p.st.r.length c1, .int .i64 p.st.q, .int .i64 p.st.d, .slice a4 p.p.length c4, .slice a5 p.t.length c5, .slice a6 p.a.length c6]) := X_4.out.turns ht (by omega)
      clear hX5 hP ht
      go_simp
      clear qf q0 q1 q2 q3 q4 q5 q6
      rw [HX5.out]
      refine hK.out _ _ ⟨QX.out.cell rfl, QX.out.cell rfl, QX.out.cell rfl, QX.out.cell rfl, QX.out.cell rfl, QX.out.cell rfl, QX.out.cell rfl, XX.out.cell rfl⟩ (fun hHeld => ?_)
      clear hK K
      try simp only [Act.put, List.setIfInBounds_toArray, List.set_cons_zero, List.set_cons_succ]
      refine wpAnyH_take (i := 8) (oi := { dst := some 5, op := Op.assign (Operand.tmp 40), type := 33, pos := _, after := _, guard := none }) (v := .slice ae m2 ce) rfl (by kernel_rfl) (by kernel_rfl) (by kernel_rfl) (fun _ _ _ h => h) (Or.inl ⟨by rfl, ?_⟩) (by assumption) ?_
      · intro wX hSw
        try dsimp only at hSw
        go_simp
        try exact IntWalk.i64_in _ (by omega)
      try simp only [Act.put, List.setIfInBounds_toArray, List.set_cons_zero, List.set_cons_succ]
      refine wpAnyH_done (by kernel_rfl) ?_ _
      clear hHeld
      go_wp2
      have t0 := HP5.out.cell (i := 0) rfl
      have t1 := HP5.out.cell (i := 1) rfl
      have t2 := HP5.out.cell (i := 2) rfl
      have t3 := HP5.out.cell (i := 3) rfl
      have t4 := HP5.out.cell (i := 4) rfl
      have t5 := HP5.out.cell (i := 5) rfl
      have t6 := HP5.out.cell (i := 6) rfl
      refine bodyPost_ret (v := .tuple #[.agg #[.int .i64 p.n, .slice a1 p.st.r.length c1, .int .i64 p.st.q, .int .i64 p.st.d, .slice an m cn, .slice a5 p.t.length c5, .slice a6 p.a.length c6], .slice ae m2 ce]) (by simp [results, Try.results27, go_sem, t0, t1, t2, t3, t4, t5, t6]) rfl ?_
      have hBX : Below w.heap.size w X5 := BW_4.out.trans (HT5.out.to_below (fun b e => by omega) BW_4.out.size)
      refine ⟨_, _, k, rfl, HC.out, ⟨_, _, _, _, rfl, O1.out.under hBX, ?_, O5.out.under hBX, O6.out.under hBX⟩, ?_, hBX⟩
      · show IsD X5 (.slice an m cn) (.row 12 (p.p.drop k).length (pastsD_f (p.p.drop k)))
        rw [HM.out.1]
        exact isD_row (owns_turns R_4.out HT5.out (fun b hb e => by have := row_ge R_4.out hb; omega)) (fun j hj => (HDA.out j hj).under hBX)
      · show IsD X5 (.slice ae m2 ce) (.row 12 (p.p.take k).length (pastsD_f (p.p.take k)))
        rw [HM.out.2]
        exact isD_row (owns_turns A_4.out HT5.out (fun b hb e => by have := row_ge A_4.out hb; omega)) (fun j hj => (HDA2.out j hj).under hBX)
end Go.Proofs.Ytdcnimdhfhbdmaa

/- What a queue is. -/
namespace Go.Proofs.Ytdcnimdhfhbdmaa
open Go.RowKit
def Good1 (l : List Ev) (i : Nat) : Prop := (evAt l i).ok = true ∧ (0 < i → (evAt l (i - 1)).cmp (evAt l i) < 0) ∧ ∀ j, j < i → (evAt l j).g ≠ (evAt l i).g
def GoodQ (l : List Ev) : Prop := l.length ≤ 2000 ∧ ∀ i, i < l.length → Good1 l i
theorem no_good {l : List Ev} {k : Nat} (hk : k < l.length) (h : ¬ Good1 l k) : ¬ GoodQ l := fun e => (h (e.2 k hk)).elim

end Go.Proofs.Ytdcnimdhfhbdmaa

