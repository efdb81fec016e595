/- MTxR, MOkI -/
import Derived.Test.YtbcdfacbhemijaaDoorExactModelTextCardLMTxL
import Derived.Lib.Join
import Derived.Laws.IdiomStrings
import Derived.Test.YtbcdfacbhemijaaDoorExactModelTextCardG11
/- Rows of strings; texts that are joined. -/
namespace Go.Proofs.YtbcdfacbhemijaaDoor
open Go.RowKit
theorem info9 : (Tryd.prog.info? 9).map (fun i => (i.zero, i.size, i.bytes)) = some (some (.string ⟨#[]⟩), 1, 16) := by kernel_rfl
def strs (l : List ByteArray) : List Value := l.map Value.string
def txts (l : List ByteArray) : List (List UInt8) := l.map (·.data.toList)
def SrS (B : Nat) (w : World) (x : Value) (l : List ByteArray) : Prop := w.ownsRow B 9 1 x l.length (strs l)
theorem SrS.below {B : Nat} {w w' : World} {x : Value} {l : List ByteArray} (h : SrS B w x l) (hb : Below w.heap.size w w') : SrS B w' x l := by
  obtain ⟨h0, h1 | ⟨x, cap, cur, e, hx, hc, h2⟩⟩ := h
  · exact ⟨h0, .inl h1⟩
  · exact ⟨h0, .inr ⟨x, cap, cur, e, hx, (hb.block _ (Array.getElem?_eq_some_iff.1 hc).1).trans hc, h2⟩⟩
theorem SrS.alloc {B : Nat} {w : World} {x : Value} {l : List ByteArray} (h : SrS B w x l) (o : Obj) : SrS B (w.alloc o) x l := World.ownsRow.alloc h o
theorem SrS.drew {B : Nat} {w : World} {x : Value} {l : List ByteArray} (h : SrS B w x l) : SrS B w.drew x l := World.ownsRow.drew h
theorem SrS.ge {B : Nat} {w : World} {x : Value} {l : List ByteArray} (h : SrS B w x l) {r : Nat} (e : x.ownBlock = some r) : B ≤ r := by
  obtain ⟨_, ⟨rfl, _⟩ | ⟨g, cap, cur, rfl, hg, _⟩⟩ := h
  · cases e
  · cases e; exact hg
theorem SrS.made (w : World) (l : List ByteArray) (arr : Array Value) (ha : arr.toList = strs l) (n : Nat) (hn : n = l.length) (hl : l.length ≤ 100000) : SrS w.heap.size (w.alloc (.cells arr 9)) (.slice (some ⟨w.heap.size, 0, none⟩) n n) l := by
  subst hn
  have hs : arr.size = l.length := by
    have := congrArg List.length ha
    simpa [strs] using this
  refine ⟨by simp [strs], .inr ⟨w.heap.size, l.length, arr, rfl, Nat.le_refl _, heap_alloc_new w _, Nat.le_refl _, by unfold maxLen; omega, by omega, ?_⟩⟩
  rw [ha]
  exact List.take_of_length_le (by simp [strs])
theorem SrS.cells {B : Nat} {w : World} {x : Value} {l : List ByteArray} (h : SrS B w x l) (hne : l ≠ []) : ∃ g cap, x = .slice (some ⟨g, 0, none⟩) l.length cap ∧ g < w.heap.size ∧ l.length ≤ cap ∧ ∀ (j : Nat) y, l[j]? = some y → w.cell? ⟨g, 0 + j, none⟩ = some (.string y) := by
  obtain ⟨h0, ⟨_, h1⟩ | ⟨g, cap, cur, rfl, _, hc, h2, _, h4, h5⟩⟩ := h
  · exact absurd (List.length_eq_zero_iff.1 h1) hne
  · refine ⟨g, cap, rfl, (Array.getElem?_eq_some_iff.1 hc).1, h2, fun j y hy => ?_⟩
    have hj : j < l.length := (List.getElem?_eq_some_iff.1 hy).1
    rw [Nat.zero_add]
    simp only [World.cell?, hc]
    have e1 : (cur.toList.take (l.length * 1))[j]? = some (.string y) := by
      rw [h5]
      simp [strs, hy]
    rw [List.getElem?_take] at e1
    have e2 : j < l.length ∧ cur[j]? = some (.string y) := by simpa using e1
    exact e2.2
def Srt (w : World) (X : Nat) (r : List ByteArray) : Prop := ∀ j u, (strs r)[j]? = some u → w.cell? ((⟨X, 0, none⟩ : Addr).add j) = some u
theorem Srt.new (w : World) (r : List ByteArray) (arr : Array Value) (ha : arr.toList = strs r) : Srt (w.alloc (.cells arr 9)) w.heap.size r := by
  intro j u hu
  have h0 := (MapKept.heap_alloc w (.cells arr 9)).1
  rw [Addr.add_lit, Nat.zero_add]
  simp only [World.cell?, h0]
  rw [← ha] at hu
  simpa using hu
def Kp9 (w w' : World) : Prop := ∀ ob t arr, t ≠ 9 → Bk w ob t arr → Bk w' ob t arr
theorem SrS.kp {B : Nat} {w w' : World} {x : Value} {l : List ByteArray} (h : SrS B w x l) (hg : w.grownBy w' x.ownBlock) : Kp9 w w' := by
  intro ob t arr hs hb
  have hb' : w.heap[ob]? = some (.cells arr t) := hb
  refine (hg.block ob hb.lt (fun e => ?_)).trans hb'
  obtain ⟨_, ⟨rfl, _⟩ | ⟨g, cap, cur, rfl, _, hc, h1, _, h3, _⟩⟩ := h
  · simp [Value.ownBlock] at e
  · simp [Value.ownBlock] at e
    subst e
    rw [hb'] at hc
    simp at hc
    first | exact hs hc.2 | exact hs hc.2.1
theorem strs_ones (l : List ByteArray) : ∀ u ∈ strs l, u.oneCell' = true := by
  intro u hu
  obtain ⟨b, _, rfl⟩ := List.mem_map.1 hu
  rfl
theorem sr_own {ops : Array Oper} {o : Oper} {a : Act} {w : World} {K : Act → World → Prop} {Q : Exit → Act → World → Prop} {E : Prop} {B : Nat} (hg : o.guard = none) (sl x : Operand) (hop : o.op = Op.call { callee := Callee.builtin Builtin.append, args := #[sl, x], argTypes := #[60, 60] })
    (v : Value) (l : List ByteArray) (hs : a.eval sl = v) (h : SrS B w v l) (r : List ByteArray) (X c : Nat) (hx : a.eval x = .slice (some ⟨X, 0, none⟩) r.length c) (hc : Srt w X r) (hl : l.length + r.length ≤ 100000) (hB : B ≤ w.heap.size)
    (hK : ∀ v' w', SrS B w' v' (l ++ r) → Below B w w' → Kp9 w w' → K (a.put o.dst v') w') : if Region.wanted o (yielded ops a.tmps) = true then Oper.wp Tryd.prog o a w K Q else E := by
  obtain ⟨i0, hi, hz0, hz1, hz2⟩ := info_parts info9
  refine step_append_own hg sl x 60 hop B 9 i0 (.string ⟨#[]⟩) 1 16 Tryd.underlying60 hi hz0 hz1 hz2 rfl (by decide) v l.length (strs l) hs h ⟨X, 0, none⟩ r.length c (strs r) hx (by simp [strs]) hc (strs_ones _) (by unfold maxLen; omega) (by omega) hB ?_
  intro v' w' hown hgrow
  exact hK v' w' (by unfold SrS; rw [List.length_append, strs, List.map_append]; exact hown) ((Below.refl B w).grown hgrow hB (fun k e => h.ge e)) (h.kp hgrow)
theorem srl_own {ops : Array Oper} {rest : List Oper} {o : Oper} {a : Act} {w : World} {Q : Exit → Act → World → Prop} {B : Nat} (hg : o.guard = none) (sl x : Operand) (hop : o.op = Op.call { callee := Callee.builtin Builtin.append, args := #[sl, x], argTypes := #[60, 60] })
    (v : Value) (l : List ByteArray) (hs : a.eval sl = v) (h : SrS B w v l) (r : List ByteArray) (X c : Nat) (hx : a.eval x = .slice (some ⟨X, 0, none⟩) r.length c) (hc : Srt w X r) (hl : l.length + r.length ≤ 100000) (hB : B ≤ w.heap.size)
    (hK : ∀ v' w', SrS B w' v' (l ++ r) → Below B w w' → Kp9 w w' → wpList Tryd.prog ops Q rest (a.put o.dst v') w') : wpList Tryd.prog ops Q (o :: rest) a w := by
  obtain ⟨i0, hi, hz0, hz1, hz2⟩ := info_parts info9
  refine wpList_append_own _ hg sl x 60 hop B 9 i0 (.string ⟨#[]⟩) 1 16 Tryd.underlying60 hi hz0 hz1 hz2 rfl (by decide) v l.length (strs l) hs h ⟨X, 0, none⟩ r.length c (strs r) hx (by simp [strs]) hc (strs_ones _) (by unfold maxLen; omega) (by omega) hB ?_
  intro v' w' hown hgrow _
  exact hK v' w' (by unfold SrS; rw [List.length_append, strs, List.map_append]; exact hown) ((Below.refl B w).grown hgrow hB (fun k e => h.ge e)) (h.kp hgrow)
theorem join_any {B : Nat} (w : World) (x : Value) (l : List ByteArray) (sep : ByteArray) (h : SrS B w x l) (hne : l ≠ []) (hl : l.length ≤ 100000) (Y : List UInt8) (hY : Lib.join (txts l) sep.data.toList = Y) (hb : Y.length ≤ 1000000000) :
    Calls Tryd.prog 33 #[x, .string sep] w fun e w' => ∃ b : ByteArray, e = .returned (.string b) ∧ b.data.toList = Y ∧ Below w.heap.size w w' := by
  obtain ⟨g, cap, rfl, hg, hc, hcells⟩ := h.cells hne
  subst hY
  refine (Tryd.strings_Join g 0 cap l sep w hcells hg (by omega) hc (by have h9 : (Lib.join (txts l) sep.data.toList).length ≤ 1000000000 := hb; have e9 : txts l = l.map (·.data.toList) := rfl; rw [e9] at h9; omega)).mono ?_
  rintro e w' ⟨rfl, hb'⟩
  exact ⟨_, rfl, rfl, hb'⟩
def endL (L : List (List UInt8)) : List UInt8 := (L.map (· ++ [10])).flatten
def spL (L : List (List UInt8)) : List UInt8 := Lib.joinTail [32] L
theorem endL_append (a b : List (List UInt8)) : endL (a ++ b) = endL a ++ endL b := by simp [endL]
theorem spL_append (a b : List (List UInt8)) : spL (a ++ b) = spL a ++ spL b := by simp [spL, Lib.joinTail]
theorem join_end : ∀ (L : List (List UInt8)), L ≠ [] → Lib.join L [10] ++ [10] = endL L
  | [], h => absurd rfl h
  | a :: l, _ => by
    rw [Lib.join_cons]
    have h9 : ∀ l : List (List UInt8), Lib.joinTail [10] l ++ [10] = [10] ++ endL l := by
      intro l
      induction l with
      | nil => rfl
      | cons b l ih =>
        have e1 : Lib.joinTail [10] (b :: l) = [10] ++ b ++ Lib.joinTail [10] l := by simp [Lib.joinTail]
        rw [e1, List.append_assoc, ih]
        simp [endL]
    rw [List.append_assoc, h9]
    simp [endL]
theorem txts_append (a b : List ByteArray) : txts (a ++ b) = txts a ++ txts b := by simp [txts]
theorem conv_own2 (w : World) (s : ByteArray) (l : List UInt8) (hs : s.data.toList = l) (hl : l.length ≤ 1000000000) : OwnB w.heap.size (Lib.bytesWorld w 5 s) (.slice (some ⟨w.heap.size, 0, none⟩) s.size (grownCap w s.size 0 5)) l := by
  have hsz : s.size = l.length := by rw [← hs]; rfl
  have hge := grownCap_ge w s.size 0 5
  refine ⟨_, _, by rw [hsz], by rw [← hsz]; exact hge, grownCap_le_maxLen w _ 0 5 (by unfold maxLen; omega), .inr ⟨w.heap.size, rfl, Nat.le_refl _, fun j hj => ?_, ?_, fun i hi => ?_⟩⟩
  · simp only [World.frozen?, Lib.bytesWorld_at_new]
    have h9 : (Lib.bytesCells w 5 s).size = grownCap w s.size 0 5 := by
      unfold Lib.bytesCells
      simp
      have : s.data.size = s.size := rfl
      omega
    rw [h9]
    simp
    omega
  · rw [Lib.bytesWorld_size]; omega
  · rw [Nat.zero_add, Lib.bytesWorld_cell w 5 s i (by omega), hs]
    rfl
/- 'string(b)' of bytes of one's own, one at least. -/
theorem conv_back {B : Nat} {w : World} {x : Value} {l : List UInt8} (h : OwnB B w x l) (hne : l ≠ []) : (convert 28 9 x).run Tryd.prog w = .ok (.string ⟨l.toArray⟩) w := by
  obtain ⟨X, c, rfl, hs⟩ := own_src h hne
  have hs' := hs
  refine run_convert_bytes_back w 28 9 5 ⟨X, 0, none⟩ c l Tryd.underlying28 Tryd.underlying5 Tryd.underlying9 (fun j hj => ?_)
  refine src_at9 hs' j _ ?_
  simp [Lib.byteCells, List.getElem?_eq_getElem hj]
theorem op_len (x : O) (h1 : x.a ≤ 999) (h2 : x.b ≤ 999) (h3 : x.k ≤ 999) : (opText x).length ≤ 4000000 := by
  have e0 := opWord_len x.c
  have e1 := dec_len x.a (by omega)
  have e2 := dec_len x.b (by omega)
  have e3 := dec_len x.k (by omega)
  unfold opText
  simp only [List.length_append, List.length_cons, List.length_nil]
  omega
theorem ops_len (r : List O) : (∀ q, q < r.length → (oAt r q).a ≤ 999 ∧ (oAt r q).b ≤ 999 ∧ (oAt r q).k ≤ 999) → ∀ q, q ≤ r.length → (opsText (r.take q)).length ≤ q * 4000000
  | _, 0, _ => by simp [opsText]
  | h, q + 1, hq => by
    obtain ⟨h1, h2, h3⟩ := h q (by omega)
    have h4 := ops_len r h q (by omega)
    have h5 := op_len (oAt r q) h1 h2 h3
    rw [ops_snoc (by omega), List.length_append]
    omega
theorem kinds_len {m : Md} (h : m.ok = true) : ∀ k, k ≤ m.h.length → (kindsText m.h k).length ≤ k * 40000000
  | 0, _ => by simp [kindsText]
  | k + 1, hk => by
    have h1 := kinds_len h k (by omega)
    have h2 := ok_row8 h (k := k) (by omega)
    have h3 := ops_len (hAt m.h k) (fun q hq => by obtain ⟨_, ⟨_, h4⟩, ⟨_, h5⟩, ⟨_, h6⟩⟩ := ok_op9 h (k := k) (by omega) hq; exact ⟨h4, h5, h6⟩) _ (Nat.le_refl _)
    rw [List.take_of_length_le (Nat.le_refl _)] at h3
    have h4 := (ok_nums h).2.2.2.1
    have h5 := dec_len (k : Int) (by omega)
    show (kindsText m.h k ++ kindText k (hAt m.h k)).length ≤ _
    unfold kindText
    simp only [List.length_append, List.length_cons, List.length_nil]
    omega
theorem head_len {m : Md} (h : m.ok = true) : (headText m).length ≤ 4000000 := by
  obtain ⟨h1, h2, h3, _⟩ := ok_nums h
  have e1 := dec_len m.n (by omega)
  have e2 := dec_len m.s (by omega)
  have e3 := dec_len m.z (by omega)
  unfold headText
  simp only [List.length_append, List.length_cons, List.length_nil]
  omega
theorem ev_ok9 {m : Md} (h : m.ok = true) {k : Nat} (hk : k < m.e.length) : okB (evAt m.e k).t (evAt m.e k).s (evAt m.e k).q (evAt m.e k).d (evAt m.e k).k (evAt m.e k).v (evAt m.e k).g = true := by
  have h1 := ok_ev9 h hk
  simp only [stB, Bool.and_eq_true, decide_eq_true_eq] at h1
  first | exact h1.1 | exact h1.1.1 | exact h1.1.1.1 | exact h1.1.1.1.1
theorem lines_len {m : Md} (h : m.ok = true) : ∀ k, k ≤ m.e.length → (linesText m.e k).length ≤ k * 11000000
  | 0, _ => by simp [linesText]
  | k + 1, hk => by
    have h1 := lines_len h k (by omega)
    have h2 := of_decide_eq_true (ev_ok9 h (k := k) (by omega))
    have h3 := evText_len (evAt m.e k).t (evAt m.e k).s (evAt m.e k).q (evAt m.e k).d (evAt m.e k).k (evAt m.e k).v (by omega) (by omega) (by omega) (by omega) (by omega) (by omega)
    show (linesText m.e k ++ lineText (evAt m.e k)).length ≤ _
    unfold lineText
    simp only [List.length_append, List.length_cons, List.length_nil]
    omega
theorem mod_len {m : Md} (h : m.ok = true) : (modText m).length ≤ 300000000 := by
  have h1 := head_len h
  have h2 := kinds_len h _ (Nat.le_refl _)
  have h3 := lines_len h _ (Nat.le_refl _)
  obtain ⟨_, _, _, h4, h5⟩ := ok_nums h
  unfold modText
  simp only [List.length_append]
  omega
end Go.Proofs.YtbcdfacbhemijaaDoor

/- The program's ModelOk: its parts. -/
namespace Go.Proofs.YtbcdfacbhemijaaDoor
open Go.RowKit
set_option maxRecDepth 100000 in
set_option maxHeartbeats 4000000 in
theorem initOk_any (x : Value) (m : Md) (w : World) (hs : SmallM m) (h : IsM w x m) :
    Calls Tryd.prog 54 #[x] w fun e w' => e = .returned (.bool (decide ((m.i.length : Int) = m.n) && m.okI)) ∧ Below w.heap.size w w' := by
  have HX : Hid (IsM w x m) := h
  obtain ⟨vi, vh, vs, rfl, ⟨ai, ci, rfl, hi1, hi2, hi3⟩, ⟨ah, ch, rfl, hh1, hh2, hh3⟩, ⟨ae, ce, rfl, he1, he2, he3⟩⟩ := h
  have hi0 : m.i.length ≤ 1048576 := hs.i
  have hh0 : m.h.length ≤ 1048576 := hs.h
  have he0 : m.e.length ≤ 1048576 := hs.e
  have HS : Hid (SmallM m) := hs
  clear hs hi1 hi2 hh1 hh2 he1 he2
  clear hh3 he3 HX HS
  obtain ⟨W0, hW0⟩ : ∃ W0, w.alloc (.cells #[.int .i64 m.n, .int .i64 m.s, .slice ai m.i.length ci, .slice ah m.h.length ch, .slice ae m.e.length ce, .int .i64 m.z] 33) = W0 := ⟨_, rfl⟩
  have HB0 : Hid (Below w.heap.size w W0) := by rw [← hW0]; exact (Below.refl _ w).alloc (Nat.le_refl _) _
  have HP0 : Hid (Bk W0 w.heap.size 33 #[.int .i64 m.n, .int .i64 m.s, .slice ai m.i.length ci, .slice ah m.h.length ch, .slice ae m.e.length ce, .int .i64 m.z]) := by rw [← hW0]; exact Bk.new w _ _
  have p0 := HP0.out.cell (i := 0) rfl
  have p2 := HP0.out.cell (i := 2) rfl
  by_cases c0 : (m.i.length : Int) = m.n
  case neg =>
    clear hi3
    go_enter Tryd.func54, Tryd.ntmps54
    go_wp2
    go_ret
    exact ⟨ret_bool (by simp [c0]), HB0.out⟩
  have HI : Hid (m.i = [] ∨ ∃ b off, ai = some ⟨b, off, none⟩ ∧ IntsAt W0 b off m.i) := hi3.imp id (fun ⟨b, off, e, h⟩ => ⟨b, off, e, h.below HB0.out h.1⟩)
  have HOK : Hid (∀ b, m.okI = b → (decide ((m.i.length : Int) = m.n) && m.okI) = b) := fun b e => by rw [e, c0]; simp
  generalize (decide ((m.i.length : Int) = m.n) && m.okI) = okv at HOK ⊢
  clear hi3
  go_enter Tryd.func54, Tryd.ntmps54
  go_wp2
  clear hW0
  have hn0 : m.n ≤ 1048576 := by omega
  have hn1 : 0 ≤ m.n := by omega
  go_loop [14] (fun i => ∃ k : Nat, k ≤ m.i.length ∧ i = .int .i64 k ∧ ∀ j, j < k → inB (intAt m.i j) = true) (fun i => m.i.length - (intOf i).toNat)
  case atStart => exact ⟨0, Nat.zero_le _, rfl, fun j hj => by omega⟩
  case round =>
    obtain ⟨k, hk, rfl, hall⟩ := hrel
    have HA : Hid (∀ j, j < k → inB (intAt m.i j) = true) := hall
    clear hall
    by_cases hlt : k < m.i.length
    · obtain ⟨b, off, rfl, hb, hc⟩ := HI.out.resolve_left (by intro e; rw [e] at hlt; simp at hlt)
      have f0 := hc k hlt
      obtain ⟨y, hy⟩ : ∃ y, y = intAt m.i k := ⟨_, rfl⟩
      have HY : Hid (y = intAt m.i k) := hy
      rw [← hy] at f0
      have hkn : (k : Int) < m.n := by omega
      clear hc hy hb
      go_wp2_with fail
      refine (within_any _ _ _ _).mono ?_
      rintro e w2 ⟨rfl, hw⟩
      have hw' := hw.symm
      clear hw
      subst hw'
      by_cases y0 : 0 ≤ y ∧ y ≤ 999
      · rw [show (decide (0 ≤ y) && decide (y ≤ 999)) = true from by simp [y0]]
        have HN : Hid (inB y = true) := decide_eq_true y0
        clear y0
        go_wp2
        go_round
        case rel => exact ⟨k + 1, by omega, by go_num, fun j hj => by
          by_cases e : j < k
          · exact HA.out j e
          · rw [show j = k by omega, ← HY.out]; exact HN.out⟩
        case measure => simp [intOf]; omega
      · rw [show (decide (0 ≤ y) && decide (y ≤ 999)) = false from by simp; omega]
        have hno : okv = false := HOK.out _ (range_no hlt (by rw [← HY.out]; exact decide_eq_false y0))
        subst hno
        clear y0
        go_wp2
        go_ret
        exact ⟨rfl, HB0.out⟩
    · have hyes : okv = true := HOK.out _ (range_yes (fun j hj => HA.out j (by omega)))
      subst hyes
      have hkn : ¬ (k : Int) < m.n := by omega
      go_wp2
      go_ret
      exact ⟨rfl, HB0.out⟩
def rowAll (m : Md) (r : List O) : Bool := (List.range r.length).all fun q => (oAt r q).ok m.n m.h.length
set_option maxRecDepth 100000 in
set_option maxHeartbeats 4000000 in
theorem opsOk_any (x u : Value) (m : Md) (r : List O) (w : World) (hs : SmallM m) (hr : r.length ≤ 1048576) (h : IsM w x m) (hu : IsO w u r) :
    Calls Tryd.prog 74 #[x, u] w fun e w' => e = .returned (.bool (rowAll m r)) ∧ Below w.heap.size w w' := by
  have HX : Hid (IsM w x m) := h
  obtain ⟨vi, vh, vs, rfl, ⟨ai, ci, rfl, hi1, hi2, hi3⟩, ⟨ah, ch, rfl, hh1, hh2, hh3⟩, ⟨ae, ce, rfl, he1, he2, he3⟩⟩ := h
  have hi0 : m.i.length ≤ 1048576 := hs.i
  have hh0 : m.h.length ≤ 1048576 := hs.h
  have he0 : m.e.length ≤ 1048576 := hs.e
  have HS : Hid (SmallM m) := hs
  clear hs hi1 hi2 hh1 hh2 he1 he2
  clear hi3 hh3 he3 HS hi0 hh0 he0
  obtain ⟨a1, c1, rfl, _, _, hu⟩ := hu
  have HU : Hid (r = [] ∨ ∃ b off, a1 = some ⟨b, off, none⟩ ∧ OsAt w b off r) := hu
  have HOK : Hid (∀ b, ((List.range r.length).all fun q => (oAt r q).ok m.n m.h.length) = b → rowAll m r = b) := fun b e => e
  generalize rowAll m r = okv at HOK ⊢
  clear hu
  go_enter Tryd.func74, Tryd.ntmps74
  go_wp2
  go_loopw [9] (fun i wr => ∃ k : Nat, k ≤ r.length ∧ i = .int .i64 k ∧ (∀ j, j < k → (oAt r j).ok m.n m.h.length = true) ∧ Below w.heap.size w wr ∧ Bk wr w.heap.size 33 #[.int .i64 m.n, .int .i64 m.s, .slice ai m.i.length ci, .slice ah m.h.length ch, .slice ae m.e.length ce, .int .i64 m.z]) (fun i _ => r.length - (intOf i).toNat)
  case atStart => exact ⟨0, Nat.zero_le _, rfl, fun j hj => by omega, (Below.refl _ w).alloc (Nat.le_refl _) _, Bk.new w _ _⟩
  case round =>
    obtain ⟨k, hk, rfl, hall, hB, hP⟩ := hrel
    have HA : Hid (∀ j, j < k → (oAt r j).ok m.n m.h.length = true) := hall
    have HB0 : Hid (Below w.heap.size w wr) := hB
    have HP0 : Hid (Bk wr w.heap.size 33 #[.int .i64 m.n, .int .i64 m.s, .slice ai m.i.length ci, .slice ah m.h.length ch, .slice ae m.e.length ce, .int .i64 m.z]) := hP
    clear hall hP
    by_cases hlt : k < r.length
    · obtain ⟨b, off, rfl, hb, hc⟩ := HU.out.resolve_left (by intro e; rw [e] at hlt; simp at hlt)
      obtain ⟨f0, f1, f2, f3⟩ := (hc k hlt).below hB hb
      clear hB hc
      generalize hev : oAt r k = e at f0 f1 f2 f3
      have HEV : Hid (oAt r k = e) := hev
      obtain ⟨c, a, b2, k2⟩ := e
      clear hev
      obtain ⟨V, hV⟩ : ∃ V, wr.alloc (.cells #[.int .i64 c, .int .i64 a, .int .i64 b2, .int .i64 k2] 59) = V := ⟨_, rfl⟩
      have hbV : Below wr.heap.size wr V := hV ▸ (Below.refl _ wr).alloc (Nat.le_refl _) _
      have HBV : Hid (Below w.heap.size w V) := HB0.out.trans (hbV.mono HB0.out.size)
      have HPV : Hid (Bk V w.heap.size 33 #[.int .i64 m.n, .int .i64 m.s, .slice ai m.i.length ci, .slice ah m.h.length ch, .slice ae m.e.length ce, .int .i64 m.z]) := HP0.out.below hbV
      have hQV : Bk V wr.heap.size 59 #[.int .i64 c, .int .i64 a, .int .i64 b2, .int .i64 k2] := hV ▸ Bk.new _ _ _
      have p0 := HPV.out.cell (i := 0) rfl
      have p1 := HPV.out.cell (i := 1) rfl
      have p2 := HPV.out.cell (i := 2) rfl
      have p3 := HPV.out.cell (i := 3) rfl
      have p4 := HPV.out.cell (i := 4) rfl
      have p5 := HPV.out.cell (i := 5) rfl
      have e0 := hQV.cell (i := 0) rfl
      have e1 := hQV.cell (i := 1) rfl
      have e2 := hQV.cell (i := 2) rfl
      have e3 := hQV.cell (i := 3) rfl
      clear hbV hQV HB0 HP0
      go_wp2_with fail
      clear f0 f1 f2 f3 e0 e1 e2 e3 p0 p1 p2 p3 p4 p5 hV
      refine (iOpM _ m _ _ _ _ _ (HX.out.below HBV.out)).mono ?_
      rintro e w2 ⟨rfl, hb2⟩
      have HB2 : Hid (Below w.heap.size w w2) := HBV.out.trans (hb2.mono HBV.out.size)
      have HP2 : Hid (Bk w2 w.heap.size 33 #[.int .i64 m.n, .int .i64 m.s, .slice ai m.i.length ci, .slice ah m.h.length ch, .slice ae m.e.length ce, .int .i64 m.z]) := HPV.out.below hb2
      clear hb2 HBV HPV
      cases hv : okO m.n (m.h.length : Int) c a b2 k2
      · have hno : okv = false := HOK.out _ (range_no hlt (by rw [HEV.out]; exact hv))
        subst hno
        clear hv
        go_wp2
        go_ret
        exact ⟨rfl, HB2.out⟩
      · have HV : Hid (okO m.n (m.h.length : Int) c a b2 k2 = true) := hv
        clear hv
        go_wp2
        go_roundw
        case rel => exact ⟨k + 1, by omega, by go_num, fun j hj => by
          by_cases e : j < k
          · exact HA.out j e
          · rw [show j = k by omega, HEV.out]; exact HV.out, HB2.out, HP2.out⟩
        case measure => simp [intOf]; omega
    · have hyes : okv = true := HOK.out _ (range_yes (fun j hj => HA.out j (by omega)))
      subst hyes
      clear hB
      go_wp2
      go_ret
      exact ⟨rfl, HB0.out⟩
set_option maxRecDepth 100000 in
set_option maxHeartbeats 4000000 in
theorem handlersOk_any (x : Value) (m : Md) (w : World) (hs : SmallM m) (h : IsM w x m) :
    Calls Tryd.prog 55 #[x] w fun e w' => e = .returned (.bool (decide (1 ≤ m.h.length ∧ m.h.length ≤ 4) && m.okH)) ∧ Below w.heap.size w w' := by
  have HX : Hid (IsM w x m) := h
  obtain ⟨vi, vh, vs, rfl, ⟨ai, ci, rfl, hi1, hi2, hi3⟩, ⟨ah, ch, rfl, hh1, hh2, hh3⟩, ⟨ae, ce, rfl, he1, he2, he3⟩⟩ := h
  have hi0 : m.i.length ≤ 1048576 := hs.i
  have hh0 : m.h.length ≤ 1048576 := hs.h
  have he0 : m.e.length ≤ 1048576 := hs.e
  have HS : Hid (SmallM m) := hs
  clear hs hi1 hi2 hh1 hh2 he1 he2
  clear hi3 he3
  have HH : Hid (m.h = [] ∨ ∃ b off, ah = some ⟨b, off, none⟩ ∧ b < w.heap.size ∧ ∀ i, i < m.h.length → ∃ u, w.cell? ⟨b, off + i, none⟩ = some u ∧ IsO w u (hAt m.h i)) := hh3
  clear hh3
  obtain ⟨W0, hW0⟩ : ∃ W0, w.alloc (.cells #[.int .i64 m.n, .int .i64 m.s, .slice ai m.i.length ci, .slice ah m.h.length ch, .slice ae m.e.length ce, .int .i64 m.z] 33) = W0 := ⟨_, rfl⟩
  have HB0 : Hid (Below w.heap.size w W0) := by rw [← hW0]; exact (Below.refl _ w).alloc (Nat.le_refl _) _
  have HP0 : Hid (Bk W0 w.heap.size 33 #[.int .i64 m.n, .int .i64 m.s, .slice ai m.i.length ci, .slice ah m.h.length ch, .slice ae m.e.length ce, .int .i64 m.z]) := by rw [← hW0]; exact Bk.new w _ _
  have p0 := HP0.out.cell (i := 0) rfl
  have p1 := HP0.out.cell (i := 1) rfl
  have p2 := HP0.out.cell (i := 2) rfl
  have p3 := HP0.out.cell (i := 3) rfl
  have p4 := HP0.out.cell (i := 4) rfl
  have p5 := HP0.out.cell (i := 5) rfl
  by_cases c0 : 1 ≤ m.h.length ∧ m.h.length ≤ 4
  case neg =>
    have d0 : (decide ((1 : Int) ≤ (m.h.length : Int)) && decide ((m.h.length : Int) ≤ 4)) = false := by simp; omega
    have HC : Hid (¬ (1 ≤ m.h.length ∧ m.h.length ≤ 4)) := c0
    clear c0
    go_enter Tryd.func55, Tryd.ntmps55
    go_wp2_with fail
    refine (within_any _ _ _ _).mono ?_
    rintro e w2 ⟨rfl, hw⟩
    have hw' := hw.symm
    clear hw
    subst hw'
    rw [d0]
    clear d0
    go_wp2
    go_ret
    exact ⟨ret_bool (by rw [decide_eq_false HC.out]; rfl), HB0.out⟩
  have d0 : (decide ((1 : Int) ≤ (m.h.length : Int)) && decide ((m.h.length : Int) ≤ 4)) = true := by simp; omega
  have HOK : Hid (∀ b, m.okH = b → (decide (1 ≤ m.h.length ∧ m.h.length ≤ 4) && m.okH) = b) := fun b e => by rw [e, decide_eq_true c0]; simp
  generalize (decide (1 ≤ m.h.length ∧ m.h.length ≤ 4) && m.okH) = okv at HOK ⊢
  clear c0
  go_enter Tryd.func55, Tryd.ntmps55
  go_wp2_with fail
  refine (within_any _ _ _ _).mono ?_
  rintro e w2 ⟨rfl, hw⟩
  have hw' := hw.symm
  clear hw
  subst hw'
  rw [d0]
  clear d0
  go_wp2
  clear hW0 p0 p1 p2 p3 p4 p5
  go_loopw [13] (fun i wr => ∃ k : Nat, k ≤ m.h.length ∧ i = .int .i64 k ∧ (∀ j, j < k → rowB m (hAt m.h j) = true) ∧ Below w.heap.size w wr ∧ Bk wr w.heap.size 33 #[.int .i64 m.n, .int .i64 m.s, .slice ai m.i.length ci, .slice ah m.h.length ch, .slice ae m.e.length ce, .int .i64 m.z]) (fun i _ => m.h.length - (intOf i).toNat)
  case atStart => exact ⟨0, Nat.zero_le _, rfl, fun j hj => by omega, HB0.out, HP0.out⟩
  case round =>
    clear HB0 HP0
    obtain ⟨k, hk, rfl, hall, hB, hP⟩ := hrel
    have HA : Hid (∀ j, j < k → rowB m (hAt m.h j) = true) := hall
    have HB0 : Hid (Below w.heap.size w wr) := hB
    have HP0 : Hid (Bk wr w.heap.size 33 #[.int .i64 m.n, .int .i64 m.s, .slice ai m.i.length ci, .slice ah m.h.length ch, .slice ae m.e.length ce, .int .i64 m.z]) := hP
    clear hall hP
    have p0 := HP0.out.cell (i := 0) rfl
    have p1 := HP0.out.cell (i := 1) rfl
    have p2 := HP0.out.cell (i := 2) rfl
    have p3 := HP0.out.cell (i := 3) rfl
    have p4 := HP0.out.cell (i := 4) rfl
    have p5 := HP0.out.cell (i := 5) rfl
    by_cases hlt : k < m.h.length
    · obtain ⟨b, off, rfl, hb, hc⟩ := HH.out.resolve_left (by intro e; rw [e] at hlt; simp at hlt)
      obtain ⟨u, f0, hu⟩ := hc k hlt
      replace f0 := (hB.cell (p := ⟨b, off + k, none⟩) hb).trans f0
      have HL : Hid ((hAt m.h k).length ≤ 1048576) := HS.out.r k
      have HU : Hid (IsO w u (hAt m.h k)) := hu
      obtain ⟨a1, c1, rfl, _, _, _⟩ := hu
      clear hB hc
      by_cases h8 : 8 < ((hAt m.h k).length : Int)
      · have hno : okv = false := HOK.out _ (range_no hlt (by simp [rowB]; omega))
        subst hno
        go_wp2
        go_ret
        exact ⟨rfl, HB0.out⟩
      · have HROW : Hid (∀ b, rowAll m (hAt m.h k) = b → rowB m (hAt m.h k) = b) := fun b e => by
          have : decide ((hAt m.h k).length ≤ 8) = true := by simp; omega
          unfold rowB
          rw [this, Bool.true_and]
          exact e
        go_wp2_with fail
        refine (opsOk_any _ _ m (hAt m.h k) _ HS.out HL.out (HX.out.below HB0.out) (HU.out.below HB0.out)).mono ?_
        rintro e w2 ⟨rfl, hb2⟩
        have HB2 : Hid (Below w.heap.size w w2) := HB0.out.trans (hb2.mono HB0.out.size)
        have HP2 : Hid (Bk w2 w.heap.size 33 #[.int .i64 m.n, .int .i64 m.s, .slice ai m.i.length ci, .slice (some ⟨b, off, none⟩) m.h.length ch, .slice ae m.e.length ce, .int .i64 m.z]) := HP0.out.below hb2
        clear hb2 HB0 HP0 f0 p0 p1 p2 p3 p4 p5
        cases hv : rowAll m (hAt m.h k)
        · have hno : okv = false := HOK.out _ (range_no hlt (HROW.out _ hv))
          subst hno
          clear hv
          go_wp2
          go_ret
          exact ⟨rfl, HB2.out⟩
        · have HV : Hid (rowB m (hAt m.h k) = true) := HROW.out _ hv
          clear hv
          go_wp2
          go_roundw
          case rel => exact ⟨k + 1, by omega, by go_num, fun j hj => by
            by_cases e : j < k
            · exact HA.out j e
            · rw [show j = k by omega]; exact HV.out, HB2.out, HP2.out⟩
          case measure => simp [intOf]; omega
    · have hyes : okv = true := HOK.out _ (range_yes (fun j hj => HA.out j (by omega)))
      subst hyes
      clear hB
      go_wp2
      go_ret
      exact ⟨rfl, HB0.out⟩
end Go.Proofs.YtbcdfacbhemijaaDoor

