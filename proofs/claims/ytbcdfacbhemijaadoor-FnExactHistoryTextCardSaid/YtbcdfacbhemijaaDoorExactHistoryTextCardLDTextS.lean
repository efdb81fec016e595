/- The specification's digits, and its text of an event. -/
import Derived.Test.YtbcdfacbhemijaaDoorExactHistoryTextCardLDTextI
import Derived.Lib.SlBytesConst
import Derived.Lib.AppendStr
import Derived.Deep.Cut
import Derived.ArgAppend
namespace Go.Proofs.YtbcdfacbhemijaaDoor
open Go.RowKit
theorem BytesAt.below {w w' : World} {B b off : Nat} {l : List UInt8} (h : BytesAt w b off l) (hb : Below B w w') (hB : b < B) : BytesAt w' b off l :=
  ⟨Nat.lt_of_lt_of_le h.1 hb.size, fun i hi => (hb.cell hB).trans (h.2 i hi)⟩
theorem OwnB.below {B : Nat} {w w' : World} {x : Value} {l : List UInt8} (h : OwnB B w x l) (hb : Below w.heap.size w w') : OwnB B w' x l := by
  obtain ⟨a, cap, rfl, h1, h2, h⟩ := h
  exact ⟨a, cap, rfl, h1, h2, h.imp id (fun ⟨g, e, hg, hf, hr⟩ => ⟨g, e, hg, fun j hj => (hb.frozen (p := ⟨g, j, none⟩) hr.1).trans (hf j hj), hr.below hb hr.1⟩)⟩
theorem OwnB.of_row {B : Nat} {w : World} {x : Value} {l : List UInt8} (h : w.ownsRow B 5 1 x l.length (Lib.byteCells l)) : OwnB B w x l := by
  obtain ⟨hl, ⟨rfl, h0⟩ | ⟨g, cap, cur, rfl, hg, hc, h1, h2, h3, h4⟩⟩ := h
  · exact ⟨none, 0, by rw [h0], by omega, by unfold maxLen; omega, .inl (List.eq_nil_of_length_eq_zero h0)⟩
  · refine ⟨_, cap, rfl, h1, h2, .inr ⟨g, rfl, hg, fun j hj => ?_, (Array.getElem?_eq_some_iff.1 hc).1, fun i hi => ?_⟩⟩
    · have hj2 : j < cur.size := by omega
      simp [World.frozen?, hc]
    · have e1 : w.cell? ⟨g, i, none⟩ = (Lib.byteCells l)[i]? := by
        rw [← h4, List.getElem?_take_of_lt (by omega)]
        simp [World.cell?, hc]
      rw [Nat.zero_add, e1]
      simp [Lib.byteCells, byteAt, hi]
theorem info5 : (Tryd.prog.info? 5).map (fun i => (i.zero, i.size, i.bytes)) = some (some (.int .u8 0), 1, 1) := by kernel_rfl
theorem u8_digit (m : Nat) (h : m < 10) : ((UInt8.ofNat (48 + m)).toNat : Int) = 48 + (m : Int) := by
  rw [show (UInt8.ofNat (48 + m)).toNat = 48 + m from by simp; omega]
  omega
abbrev RowB (B : Nat) (w : World) (v : Value) (l : List UInt8) : Prop := w.ownsRow B 5 1 v l.length (Lib.byteCells l)
theorem drow_one (w : World) (z : Int) (b : UInt8) (hz : z = (b.toNat : Int)) : RowB w.heap.size (w.alloc (.cells #[.int .u8 z] 5)) (.slice (some ⟨w.heap.size, 0, none⟩) 1 1) [b] :=
  ⟨rfl, .inr ⟨w.heap.size, 1, #[.int .u8 z], rfl, Nat.le_refl _, (MapKept.heap_alloc w _).1, Nat.le_refl _, by unfold maxLen; omega, rfl, by subst hz; rfl⟩⟩
theorem drow_ge {B : Nat} {w : World} {v : Value} {n : Nat} {xs : List Value} (h : w.ownsRow B 5 1 v n xs) {r : Nat} (e : v.ownBlock = some r) : B ≤ r := by
  obtain ⟨_, ⟨rfl, _⟩ | ⟨g, cap, cur, rfl, hg, _⟩⟩ := h
  · cases e
  · cases e; exact hg
theorem row_snoc {B : Nat} {w : World} {v : Value} {l l' : List UInt8} {n : Nat} {xs : List Value} (h : w.ownsRow B 5 1 v n xs) (hn : n = (l ++ l').length) (hx : xs = Lib.byteCells l ++ Lib.byteCells l') : RowB B w v (l ++ l') := by
  subst hn hx
  rw [← Lib.byteCells_append] at h
  exact h
set_option maxHeartbeats 1000000 in
theorem digits_any : ∀ (n : Nat) (w : World), n ≤ 1000000000000 →
    Calls Tryd.prog 24 #[.int .i64 (n : Int)] w fun e w' => ∃ v, e = .returned v ∧ RowB w.heap.size w' v (Lib.decDigits n) ∧ Below w.heap.size w w' := by
  intro n
  induction n using Nat.strongRecOn with
  | _ n ih =>
    intro w hn
    obtain ⟨i0, hi, hz0, hz1, hz2⟩ := info_parts info5
    by_cases h : n < 10
    · have h1 : (n : Int) < 10 := by omega
      go_enter Tryd.func24, Tryd.ntmps24
      go_wp2
      go_ret
      rw [Lib.decDigits_one h]
      exact ⟨_, rfl, drow_one w _ _ (u8_digit n h).symm, (Below.refl _ w).alloc (Nat.le_refl _) _⟩
    · have h1 : ¬ (n : Int) < 10 := by omega
      have HC : Hid (Calls Tryd.prog 24 #[.int .i64 ((n : Int) / 10)] w fun e w' => ∃ v, e = .returned v ∧ RowB w.heap.size w' v (Lib.decDigits (n / 10)) ∧ Below w.heap.size w w') := by
        rw [show ((n : Int) / 10) = ((n / 10 : Nat) : Int) from by omega]
        exact ih (n / 10) (by omega) w (by omega)
      have hlen := decDigits_len (n / 10)
      go_enter Tryd.func24, Tryd.ntmps24
      go_wp2_with fail
      refine HC.out.mono ?_
      rintro r w1 ⟨v, rfl, hrow, hb⟩
      have HR : Hid (RowB w.heap.size w1 v (Lib.decDigits (n / 10))) := hrow
      have HB : Hid (Below w.heap.size w w1) := hb
      have hs : w.heap.size ≤ w1.heap.size := hb.size
      have hm0 : 0 ≤ (n : Int) % 10 := by omega
      have hm1 : (n : Int) % 10 < 10 := by omega
      have HM : Hid ((n : Int) % 10 = ((n % 10 : Nat) : Int)) := by show (n : Int) % 10 = ((n % 10 : Nat) : Int); omega
      have hL : (Lib.decDigits (n / 10)).length ≤ 1000000000000 := by omega
      clear hrow hb HC ih
      go_wp2_with (at_builtin; refine wpList_append_own _ rfl _ _ 28 rfl w.heap.size 5 i0 (.int .u8 0) 1 1 Tryd.underlying28 hi hz0 hz1 hz2 rfl (by decide) v _ _ rfl (HR.out.alloc _) ⟨w1.heap.size, 0, none⟩ 1 1 [.int .u8 (48 + (n : Int) % 10)] rfl rfl (fun j u hu => by (match j, hu with | 0, hu => simp at hu; subst hu; simp [Addr.add] | (j + 1), hu => simp at hu)) (fun u hu => by simp at hu; subst hu; rfl) (by unfold maxLen; omega) (by omega) (by simp; omega) ?_; intro v' w2 hown hgrow hnil)
      go_ret
      refine ⟨v', rfl, ?_, ((HB.out.alloc hs _).grown hgrow (by simp; omega) (fun k e => drow_ge HR.out e))⟩
      rw [decDigits_ge n h]
      exact row_snoc hown (by simp) (by simp [Lib.byteCells]; rw [HM.out]; omega)
theorem byteCells_ones (l : List UInt8) : ∀ u ∈ Lib.byteCells l, u.oneCell' = true := by
  intro u hu
  obtain ⟨b, _, rfl⟩ := List.mem_map.1 hu
  rfl
theorem strCells_bytes (s : ByteArray) : Lib.strCells s = Lib.byteCells s.data.toList := rfl
theorem cell_grown {w w' : World} {row : Option Nat} (h : w.grownBy w' row) (p : Nat) (o : Nat) (hp : p < w.heap.size) (hr : row ≠ some p) : w'.cell? ⟨p, o, none⟩ = w.cell? ⟨p, o, none⟩ := by
  have := h.block p hp (fun e => hr e.symm)
  simp only [World.cell?, this]
theorem digits_int (z : Int) (h0 : 0 ≤ z) (h1 : z ≤ 1000000) (w : World) :
    Calls Tryd.prog 24 #[.int .i64 z] w fun e w' => ∃ x cap, e = .returned (.slice (some ⟨x, 0, none⟩) (dec z).length cap) ∧ (∀ j u, (Lib.byteCells (dec z))[j]? = some u → w'.cell? ((⟨x, 0, none⟩ : Addr).add j) = some u) ∧ Below w.heap.size w w' := by
  rw [show z = ((z.toNat : Nat) : Int) from by omega]
  refine (digits_any z.toNat w (by omega)).mono ?_
  rintro e w' ⟨v, rfl, hrow, hb⟩
  have hc := fun (x : Nat) (e : v.ownBlock = some x) => hrow.cells e
  obtain ⟨_, ⟨_, h0⟩ | ⟨x, cap, cur, rfl, _⟩⟩ := hrow
  · exact absurd (List.eq_nil_of_length_eq_zero h0) (decDigits_ne _)
  · exact ⟨x, cap, rfl, hc x rfl, hb⟩
theorem step_append_own {P : Program} {ops : Array Oper} {o : Oper} {a : Act} {w : World} {K : Act → World → Prop} {Q : Exit → Act → World → Prop} {E : Prop}
    (hg : o.guard = none) (s x : Operand) (t : TypeId) (hop : o.op = Op.call { callee := Callee.builtin Builtin.append, args := #[s, x], argTypes := #[t, t] })
    (base : Nat) (e : TypeId) (i : TypeInfo) (z : Value) (size bytes : Nat) (h1 : P.underlying t = some (.slice e)) (h2 : P.info? e = some i) (h3 : i.zero = some z) (h4 : i.size = size) (h5 : i.bytes = bytes) (h6 : z.cells.size = size) (h7 : 0 < size)
    (v : Value) (n : Nat) (xs : List Value) (hs : a.eval s = v) (hown : w.ownsRow base e size v n xs)
    (ad : Addr) (m c : Nat) (news : List Value) (hx : a.eval x = .slice (some ad) m c) (hn : news.length = m * size) (hc : ∀ j u, news[j]? = some u → w.cell? (ad.add j) = some u) (h1c : ∀ u ∈ news, u.oneCell' = true)
    (b1 : n + m ≤ maxLen) (b2 : (n + m) * bytes ≤ 140737488355328) (hbase : base ≤ w.heap.size)
    (hK : ∀ v' w', w'.ownsRow base e size v' (n + m) (xs ++ news) → w.grownBy w' v.ownBlock → K (a.put o.dst v') w') :
    if Region.wanted o (yielded ops a.tmps) = true then Oper.wp P o a w K Q else E := by
  have hw : Region.wanted o (yielded ops a.tmps) = true := by simp [Region.wanted, hg]
  rw [if_pos hw]
  exact wp_append_own w s x t hop base e i z size bytes h1 h2 h3 h4 h5 h6 h7 v n xs hs hown ad m c news hx hn hc h1c b1 b2 hbase (fun v' w' r1 r2 _ => hK v' w' r1 r2)
theorem step_append_text {P : Program} {ops : Array Oper} {o : Oper} {a : Act} {w : World} {K : Act → World → Prop} {Q : Exit → Act → World → Prop} {E : Prop}
    (hg : o.guard = none) (sl x : Operand) (t u : TypeId) (hop : o.op = Op.call { callee := Callee.builtin Builtin.append, args := #[sl, x], argTypes := #[t, u] })
    (base : Nat) (e : TypeId) (i : TypeInfo) (ht : P.underlying t = some (.slice e)) (hu : P.underlying u = some .string) (hi : P.info? e = some i) (hz : i.zero = some (.int .u8 0)) (hsize : i.size = 1) (hby : i.bytes = 1)
    (v : Value) (n : Nat) (xs : List Value) (hs : a.eval sl = v) (hown : w.ownsRow base e 1 v n xs) (s : ByteArray) (hx : a.eval x = .string s)
    (h63 : n + s.size ≤ maxLen) (hbytes : n + s.size ≤ 140737488355328) (hbase : base ≤ w.heap.size)
    (hK : ∀ v' w', w'.ownsRow base e 1 v' (n + s.size) (xs ++ Lib.strCells s) → w.grownBy w' v.ownBlock → K (a.put o.dst v') w') :
    if Region.wanted o (yielded ops a.tmps) = true then Oper.wp P o a w K Q else E := by
  have hw : Region.wanted o (yielded ops a.tmps) = true := by simp [Region.wanted, hg]
  rw [if_pos hw]
  obtain ⟨v', w', hr, h2, h3, _⟩ := Lib.run_append_own_string (P := P) w base t u o.type e i ht hu hi hz hsize hby v n xs hown s h63 hbytes hbase
  unfold Oper.wp execOp
  simp only [hop, resolve, invoke, builtin, Sem.run_bind, Sem.run_pure, Result.andThen_ok, List.map_toArray, List.map_cons, List.map_nil, hs, hx, hr]
  exact hK v' w' h2 h3
theorem conv28 (w : World) (C : Array Value) (n c : Nat) : (convert 28 28 (.slice (some ⟨w.heap.size, 0, none⟩) n c)).run Tryd.prog (w.alloc (.cells C 5)) = .ok (.slice (some ⟨w.heap.size, 0, none⟩) n c) (w.alloc (.cells C 5 (C.size, C.size + 1))) :=
  Lib.run_convert_bytes_const w 28 5 C n c Tryd.underlying28 Tryd.underlying5
theorem row_step {B : Nat} {w wa w1 w2 w3 : World} {x y z : Value} {X L M : List UInt8} {n m : Nat} {xs ys : List Value} (hr : wa.ownsRow B 5 1 x X.length (Lib.byteCells X)) (hwa : Below B w wa)
    (h1 : w1.ownsRow B 5 1 y n xs) (g1 : wa.grownBy w1 x.ownBlock) (hb : Below w1.heap.size w1 w2) (h3 : w3.ownsRow B 5 1 z m ys) (g3 : w2.grownBy w3 y.ownBlock)
    (hB : B ≤ w.heap.size) (hm : m = (X ++ (L ++ M)).length) (hys : ys = Lib.byteCells (X ++ (L ++ M))) : RowB B w3 z (X ++ (L ++ M)) ∧ Below B w w3 := by
  subst hm hys
  have e1 : B ≤ wa.heap.size := Nat.le_trans hB hwa.size
  have b1 : Below B w w1 := hwa.grown g1 e1 (fun k e => drow_ge hr e)
  have e2 : B ≤ w1.heap.size := Nat.le_trans hB b1.size
  have b2 : Below B w w2 := b1.trans (hb.mono e2)
  exact ⟨h3, b2.grown g3 (Nat.le_trans hB b2.size) (fun k e => drow_ge h1 e)⟩
theorem row_kept {B : Nat} {w w' : World} {v : Value} {n : Nat} {xs : List Value} (h : w.ownsRow B 5 1 v n xs) (hb : Below w.heap.size w w') : w'.ownsRow B 5 1 v n xs := by
  obtain ⟨h0, h1 | ⟨x, cap, cur, e, hx, hc, h2⟩⟩ := h
  · exact ⟨h0, .inl h1⟩
  · exact ⟨h0, .inr ⟨x, cap, cur, e, hx, (hb.block _ (Array.getElem?_eq_some_iff.1 hc).1).trans hc, h2⟩⟩
theorem at_new3 (w : World) (a b c : Value) (fz : Nat × Nat) : ∀ j u, [a, b, c][j]? = some u → (w.alloc (.cells #[a, b, c] 5 fz)).cell? ((⟨w.heap.size, 0, none⟩ : Addr).add j) = some u := by
  intro j u hu
  have h := (MapKept.heap_alloc w (.cells #[a, b, c] 5 fz)).1
  rw [Addr.add_lit, Nat.zero_add]
  simp only [World.cell?, h]
  match j, hu with
  | 0, hu => exact hu
  | 1, hu => exact hu
  | 2, hu => exact hu
  | (j + 3), hu => simp at hu
theorem at_below {w w' : World} {x : Nat} {xs : List Value} (h : ∀ j u, xs[j]? = some u → w.cell? ((⟨x, 0, none⟩ : Addr).add j) = some u) (hb : Below w.heap.size w w') (hx : x < w.heap.size) : ∀ j u, xs[j]? = some u → w'.cell? ((⟨x, 0, none⟩ : Addr).add j) = some u :=
  fun j u hu => (hb.cell (by rw [Addr.add_lit]; exact hx)).trans (h j u hu)
theorem at_new1 (w : World) (a : Value) : ∀ j u, [a][j]? = some u → (w.alloc (.cells #[a] 5)).cell? ((⟨w.heap.size, 0, none⟩ : Addr).add j) = some u := by
  intro j u hu
  match j, hu with
  | 0, hu => simp at hu; subst hu; simp [Addr.add]
  | (j + 1), hu => simp at hu
theorem row_mono {B B' : Nat} {w : World} {v : Value} {n : Nat} {xs : List Value} (h : w.ownsRow B 5 1 v n xs) (hb : B' ≤ B) : w.ownsRow B' 5 1 v n xs := by
  obtain ⟨h0, h1 | ⟨x, cap, cur, e, hx, h2⟩⟩ := h
  · exact ⟨h0, .inl h1⟩
  · exact ⟨h0, .inr ⟨x, cap, cur, e, Nat.le_trans hb hx, h2⟩⟩
set_option maxRecDepth 100000 in
set_option maxHeartbeats 8000000 in
theorem text_any (t s q d k v g : Int) (w : World) (ht0 : 0 ≤ t) (ht1 : t ≤ 1000000) (hs1 : s ≤ 1000000) (hq0 : 0 ≤ q) (hq1 : q ≤ 1000000) (hd0 : 0 ≤ d) (hd1 : d ≤ 1000000) (hk0 : 0 ≤ k) (hk1 : k ≤ 1000000) (hv0 : 0 ≤ v) (hv1 : v ≤ 1000000) :
    Calls Tryd.prog 25 #[.agg #[.int .i64 t, .int .i64 s, .int .i64 q, .int .i64 d, .int .i64 k, .int .i64 v, .int .i64 g]] w fun e w' => ∃ x, e = .returned x ∧ OwnB w.heap.size w' x (evText t s q d k v) ∧ Below w.heap.size w w' := by
  obtain ⟨i0, hi, hz0, hz1, hz2⟩ := info_parts info5
  have HBw : Hid (Below w.heap.size w (w.alloc (.cells #[.int .i64 t, .int .i64 s, .int .i64 q, .int .i64 d, .int .i64 k, .int .i64 v, .int .i64 g] 63))) := (Below.refl _ w).alloc (Nat.le_refl _) _
  have HE : Hid (EvAt (w.alloc (.cells #[.int .i64 t, .int .i64 s, .int .i64 q, .int .i64 d, .int .i64 k, .int .i64 v, .int .i64 g] 63)) w.heap.size 0 t s q d k v g) := EvAt.new w 63 t s q d k v g
  have hbx : w.heap.size < (w.alloc (.cells #[.int .i64 t, .int .i64 s, .int .i64 q, .int .i64 d, .int .i64 k, .int .i64 v, .int .i64 g] 63)).heap.size := by simp
  have hlt := dec_len t ht1
  have hls := dec_len s hs1
  have hlq := dec_len q hq1
  have hld := dec_len d hd1
  have hlk := dec_len k hk1
  have hlv := dec_len v hv1
  have hne : 0 < (dec t).length := List.length_pos_iff.2 (decDigits_ne _)
  go_enter Tryd.func25, Tryd.ntmps25
  go_upto_region 1 with fail
  generalize w.alloc (.cells #[.int .i64 t, .int .i64 s, .int .i64 q, .int .i64 d, .int .i64 k, .int .i64 v, .int .i64 g] 63) = W0 at *
  generalize hbxe : w.heap.size = bx at *
  obtain ⟨f0, f1, f2, f3, f4, f5, f6⟩ := HE.out.lits
  have kc := conv28
  go_wp2_with fail
  refine (digits_int t ht0 ht1 _).mono ?_
  rintro r w1 ⟨x1, c1, rfl, hc1, hb1⟩
  have hA := at_below (at_new3 W0 (.int .u8 97) (.int .u8 116) (.int .u8 32) (3, 4)) hb1 (by simp)
  have hB1 : Below W0.heap.size W0 w1 := ((Below.refl W0.heap.size W0).alloc (Nat.le_refl _) _).trans (hb1.mono (by simp))
  clear kc
  go_upto_if 12 with (at_builtin; refine wpList_append_grows _ rfl _ _ 28 rfl 5 i0 (.int .u8 0) 1 1 Tryd.underlying28 hi hz0 hz1 hz2 rfl (by decide) (some ⟨W0.heap.size, 0, none⟩) 3 3 [.int .u8 97, .int .u8 116, .int .u8 32] rfl (fun e => by cases e) rfl (fun b e => by cases e; exact hA) ⟨x1, 0, none⟩ (dec t).length c1 (Lib.byteCells (dec t)) rfl (by rw [Lib.byteCells_length]; omega) hc1 (byteCells_ones _) (by omega) (by unfold maxLen; omega) (by omega) ?_; intro y2 w2 hown2 hgrow2; have hB2 : Below W0.heap.size W0 w2 := hB1.grown hgrow2 hB1.size (fun k e => by cases e); clear f0 f1 f2 f3 f4 f5 f6; obtain ⟨f0, f1, f2, f3, f4, f5, f6⟩ := (HE.out.below hB2 hbx).lits)
  obtain ⟨X, hX⟩ : ∃ X, X = [97, 116, 32] ++ dec t := ⟨_, rfl⟩
  have hlX : X.length = 3 + (dec t).length := by rw [hX, List.length_append]; rfl
  have HRX : Hid (RowB W0.heap.size w2 y2 X) := by
    have h9 : w2.ownsRow W0.heap.size 5 1 y2 (3 + (dec t).length) ([.int .u8 97, .int .u8 116, .int .u8 32] ++ Lib.byteCells (dec t)) := row_mono hown2 hB1.size
    rw [← hlX] at h9
    show w2.ownsRow W0.heap.size 5 1 y2 X.length (Lib.byteCells X)
    rw [show Lib.byteCells X = [.int .u8 97, .int .u8 116, .int .u8 32] ++ Lib.byteCells (dec t) from by rw [hX]; rfl]
    exact h9
  have HBX : Hid (Below W0.heap.size W0 w2) := hB2
  clear hown2 hgrow2 hB1 hb1 hA hc1 hB2
  go_cut [3] from 4 (fun s3 wc => ∃ Y, Y = X ++ fromText s ∧ Y.length ≤ X.length + 1000010 ∧ RowB W0.heap.size wc s3 Y ∧ Below W0.heap.size W0 wc)
  case first =>
    by_cases hs : s < 0
    · have hsd : decide (s < 0) = true := by simpa using hs
      go_wp2_with (at_builtin; refine Lib.wpList_append_own_string _ rfl _ _ 28 9 rfl W0.heap.size 5 i0 Tryd.underlying28 Tryd.underlying9 hi hz0 hz1 hz2 y2 X.length (Lib.byteCells X) rfl HRX.out ⟨#[32, 111, 117, 116, 115, 105, 100, 101]⟩ rfl (by unfold maxLen; show X.length + 8 ≤ _; omega) (by show X.length + 8 ≤ _; omega) HBX.out.size ?_; intro y3 w3 hown3 hgrow3 _)
      go_meet
      case rel =>
        have e8 : (X ++ [32, 111, 117, 116, 115, 105, 100, 101]).length = X.length + 8 := by rw [List.length_append]; rfl
        refine ⟨X ++ [32, 111, 117, 116, 115, 105, 100, 101], by rw [fromText, if_pos hs], by omega, ?_, HBX.out.grown hgrow3 HBX.out.size (fun k e => drow_ge HRX.out e)⟩
        show w3.ownsRow W0.heap.size 5 1 y3 (X ++ [32, 111, 117, 116, 115, 105, 100, 101]).length (Lib.byteCells (X ++ [32, 111, 117, 116, 115, 105, 100, 101]))
        rw [e8, Lib.byteCells_append]
        exact hown3
    · have hsd : decide (s < 0) = false := by simpa using hs
      have hs0 : 0 ≤ s := by omega
      go_wp2_with fail
      go_region_held3 (fun W => W.cell? ⟨bx, 1, none⟩ = some (.int .i64 s)) (first | assumption | exact fa4 | exact fb4 | exact fz4 | (go_keep; done))
        (first
          | (refine step_append_text rfl (.tmp 15) (.const (.string ⟨#[32, 102, 114, 111, 109, 32]⟩)) 28 9 rfl W0.heap.size 5 i0 Tryd.underlying28 Tryd.underlying9 hi hz0 hz1 hz2 y2 X.length (Lib.byteCells X) rfl HRX.out.drew ⟨#[32, 102, 114, 111, 109, 32]⟩ rfl (by unfold maxLen; show X.length + 6 ≤ _; omega) (by show X.length + 6 ≤ _; omega) (by have := HBX.out.size; show W0.heap.size ≤ w2.heap.size; omega) ?_; intro y4 wa4 hown4 hgrow4; have hBa4 : Below W0.heap.size W0 wa4 := HBX.out.drew.grown hgrow4 (HBX.out.size) (fun k e => drow_ge HRX.out e); have fa4 : wa4.cell? ⟨bx, 1, none⟩ = some (.int .i64 s) := (HE.out.below hBa4 hbx).f1)
          | (go_at_call 24; refine (digits_int s hs0 hs1 _).mono ?_; rintro r wb4 ⟨x4, c4, rfl, hc4, hb4⟩; have hBb4 : Below W0.heap.size W0 wb4 := hBa4.trans (hb4.mono hBa4.size); have fb4 : wb4.cell? ⟨bx, 1, none⟩ = some (.int .i64 s) := (HE.out.below hBb4 hbx).f1)
          | (refine step_append_own rfl (.tmp 16) (.tmp 19) 28 rfl W0.heap.size 5 i0 (.int .u8 0) 1 1 Tryd.underlying28 hi hz0 hz1 hz2 rfl (by decide) y4 _ _ rfl (row_kept hown4 hb4) ⟨x4, 0, none⟩ (dec s).length c4 (Lib.byteCells (dec s)) rfl (by rw [Lib.byteCells_length]; omega) hc4 (byteCells_ones _) (by unfold maxLen; first | omega | (show X.length + 6 + _ ≤ _; omega)) (by first | omega | (show (X.length + 6 + _) * 1 ≤ _; omega)) hBb4.size ?_; intro z4 w4 hownz4 hgrowz4; have hBz4 : Below W0.heap.size W0 w4 := hBb4.grown hgrowz4 hBb4.size (fun k e => drow_ge hown4 e); have fz4 : w4.cell? ⟨bx, 1, none⟩ = some (.int .i64 s) := (HE.out.below hBz4 hbx).f1))
      have hst4 : RowB W0.heap.size w4 z4 (X ++ ([32, 102, 114, 111, 109, 32] ++ dec s)) ∧ Below W0.heap.size w2 w4 := row_step (L := [32, 102, 114, 111, 109, 32]) (M := dec s) HRX.out.drew ((Below.refl W0.heap.size w2).drew) hown4 hgrow4 hb4 hownz4 hgrowz4 HBX.out.size (by simp [List.length_append]; first | done | omega | (show X.length + 6 + _ = _; omega)) (by rw [Lib.byteCells_append, Lib.byteCells_append, ← List.append_assoc]; rfl)
      clear hown4 hgrow4 hb4 hownz4 hgrowz4 hBa4 hBb4 hBz4 fa4 fb4 fz4 hc4
      try go_wp2_with fail
      go_meet
      case rel =>
        have e8 : (X ++ ([32, 102, 114, 111, 109, 32] ++ dec s)).length = X.length + (6 + (dec s).length) := by rw [List.length_append, List.length_append]; rfl
        exact ⟨X ++ ([32, 102, 114, 111, 109, 32] ++ dec s), by rw [fromText, if_neg (by omega)], by omega, hst4.1, HBX.out.trans hst4.2⟩
  case rest =>
    obtain ⟨Y, hY, hlY, hrY, hbY⟩ := hcut
    have HRY : Hid (RowB W0.heap.size wc u3 Y) := hrY
    have HBY : Hid (Below W0.heap.size W0 wc) := hbY
    clear HRX HBX hrY hbY f0 f1 f2 f3 f4 f5 f6
    obtain ⟨f0, f1, f2, f3, f4, f5, f6⟩ := (HE.out.below HBY.out hbx).lits
    go_wp2_with fail
    go_region_held3 (fun W => W.cell? ⟨bx, 2, none⟩ = some (.int .i64 q)) (first | assumption | exact fa5 | exact fb5 | exact fz5 | (go_keep; done))
      (first
        | (refine step_append_own rfl (.tmp 21) (.tmp 22) 28 rfl W0.heap.size 5 i0 (.int .u8 0) 1 1 Tryd.underlying28 hi hz0 hz1 hz2 rfl (by decide) u3 Y.length (Lib.byteCells Y) rfl (HRY.out.drew.alloc _) ⟨wc.heap.size, 0, none⟩ 1 1 [.int .u8 35] rfl rfl (at_new1 wc.drew _) (fun u hu => by simp at hu; subst hu; rfl) (by unfold maxLen; omega) (by omega) (by have := HBY.out.size; simp; omega) ?_; intro y5 wa5 hown5 hgrow5; have hBa5 : Below W0.heap.size W0 wa5 := (HBY.out.drew.alloc (by have := HBY.out.size; simp; omega) _).grown hgrow5 (by have := HBY.out.size; simp; omega) (fun k e => drow_ge HRY.out e); have fa5 : wa5.cell? ⟨bx, 2, none⟩ = some (.int .i64 q) := (HE.out.below hBa5 hbx).f2)
        | (go_at_call 24; refine (digits_int q hq0 hq1 _).mono ?_; rintro r wb5 ⟨x5, c5, rfl, hc5, hb5⟩; have hBb5 : Below W0.heap.size W0 wb5 := hBa5.trans (hb5.mono hBa5.size); have fb5 : wb5.cell? ⟨bx, 2, none⟩ = some (.int .i64 q) := (HE.out.below hBb5 hbx).f2)
        | (refine step_append_own rfl (.tmp 23) (.tmp 26) 28 rfl W0.heap.size 5 i0 (.int .u8 0) 1 1 Tryd.underlying28 hi hz0 hz1 hz2 rfl (by decide) y5 _ _ rfl (row_kept hown5 hb5) ⟨x5, 0, none⟩ (dec q).length c5 (Lib.byteCells (dec q)) rfl (by rw [Lib.byteCells_length]; omega) hc5 (byteCells_ones _) (by unfold maxLen; first | omega | (show Y.length + 1 + _ ≤ _; omega)) (by first | omega | (show (Y.length + 1 + _) * 1 ≤ _; omega)) hBb5.size ?_; intro z5 w5 hownz5 hgrowz5; have hBz5 : Below W0.heap.size W0 w5 := hBb5.grown hgrowz5 hBb5.size (fun k e => drow_ge hown5 e); have fz5 : w5.cell? ⟨bx, 2, none⟩ = some (.int .i64 q) := (HE.out.below hBz5 hbx).f2))
    have hst5 : RowB W0.heap.size w5 z5 (Y ++ ([35] ++ dec q)) ∧ Below W0.heap.size wc w5 := row_step (L := [35]) (M := dec q) (HRY.out.drew.alloc _) ((Below.refl W0.heap.size wc).drew.alloc (by have := HBY.out.size; simp; omega) _) hown5 hgrow5 hb5 hownz5 hgrowz5 HBY.out.size (by simp [List.length_append]; first | done | omega | (show Y.length + 1 + _ = _; omega)) (by rw [Lib.byteCells_append, Lib.byteCells_append, ← List.append_assoc]; rfl)
    obtain ⟨Y5, hY5⟩ : ∃ Y5, Y5 = Y ++ ([35] ++ dec q) := ⟨_, rfl⟩
    have hlY5 : Y5.length = Y.length + (1 + (dec q).length) := by rw [hY5, List.length_append, List.length_append]; rfl
    have HRY5 : Hid (RowB W0.heap.size w5 z5 Y5) := by rw [hY5]; exact hst5.1
    have HBY5 : Hid (Below W0.heap.size W0 w5) := HBY.out.trans hst5.2
    clear hst5 hown5 hgrow5 hb5 hownz5 hgrowz5 hBa5 hBb5 hBz5 fa5 fb5 fz5 hc5 f0 f1 f2 f3 f4 f5 f6
    obtain ⟨f0, f1, f2, f3, f4, f5, f6⟩ := (HE.out.below HBY5.out hbx).lits
    go_wp2_with fail
    go_region_held3 (fun W => W.cell? ⟨bx, 3, none⟩ = some (.int .i64 d)) (first | assumption | exact fa6 | exact fb6 | exact fz6 | (go_keep; done))
      (first
        | (refine step_append_text rfl (.tmp 28) (.const (.string ⟨#[32, 116, 111, 32]⟩)) 28 9 rfl W0.heap.size 5 i0 Tryd.underlying28 Tryd.underlying9 hi hz0 hz1 hz2 z5 Y5.length (Lib.byteCells Y5) rfl HRY5.out.drew ⟨#[32, 116, 111, 32]⟩ rfl (by unfold maxLen; show Y5.length + 4 ≤ _; omega) (by show Y5.length + 4 ≤ _; omega) (by have := HBY5.out.size; show W0.heap.size ≤ w5.heap.size; omega) ?_; intro y6 wa6 hown6 hgrow6; have hBa6 : Below W0.heap.size W0 wa6 := HBY5.out.drew.grown hgrow6 (HBY5.out.size) (fun k e => drow_ge HRY5.out e); have fa6 : wa6.cell? ⟨bx, 3, none⟩ = some (.int .i64 d) := (HE.out.below hBa6 hbx).f3)
        | (go_at_call 24; refine (digits_int d hd0 hd1 _).mono ?_; rintro r wb6 ⟨x6, c6, rfl, hc6, hb6⟩; have hBb6 : Below W0.heap.size W0 wb6 := hBa6.trans (hb6.mono hBa6.size); have fb6 : wb6.cell? ⟨bx, 3, none⟩ = some (.int .i64 d) := (HE.out.below hBb6 hbx).f3)
        | (refine step_append_own rfl (.tmp 29) (.tmp 32) 28 rfl W0.heap.size 5 i0 (.int .u8 0) 1 1 Tryd.underlying28 hi hz0 hz1 hz2 rfl (by decide) y6 _ _ rfl (row_kept hown6 hb6) ⟨x6, 0, none⟩ (dec d).length c6 (Lib.byteCells (dec d)) rfl (by rw [Lib.byteCells_length]; omega) hc6 (byteCells_ones _) (by unfold maxLen; first | omega | (show Y5.length + 4 + _ ≤ _; omega)) (by first | omega | (show (Y5.length + 4 + _) * 1 ≤ _; omega)) hBb6.size ?_; intro z6 w6 hownz6 hgrowz6; have hBz6 : Below W0.heap.size W0 w6 := hBb6.grown hgrowz6 hBb6.size (fun k e => drow_ge hown6 e); have fz6 : w6.cell? ⟨bx, 3, none⟩ = some (.int .i64 d) := (HE.out.below hBz6 hbx).f3))
    have hst6 : RowB W0.heap.size w6 z6 (Y5 ++ ([32, 116, 111, 32] ++ dec d)) ∧ Below W0.heap.size w5 w6 := row_step (L := [32, 116, 111, 32]) (M := dec d) HRY5.out.drew ((Below.refl W0.heap.size w5).drew) hown6 hgrow6 hb6 hownz6 hgrowz6 HBY5.out.size (by simp [List.length_append]; first | done | omega | (show Y5.length + 4 + _ = _; omega)) (by rw [Lib.byteCells_append, Lib.byteCells_append, ← List.append_assoc]; rfl)
    obtain ⟨Y6, hY6⟩ : ∃ Y6, Y6 = Y5 ++ ([32, 116, 111, 32] ++ dec d) := ⟨_, rfl⟩
    have hlY6 : Y6.length = Y5.length + (4 + (dec d).length) := by rw [hY6, List.length_append, List.length_append]; rfl
    have HRY6 : Hid (RowB W0.heap.size w6 z6 Y6) := by rw [hY6]; exact hst6.1
    have HBY6 : Hid (Below W0.heap.size W0 w6) := HBY5.out.trans hst6.2
    clear hst6 hown6 hgrow6 hb6 hownz6 hgrowz6 hBa6 hBb6 hBz6 fa6 fb6 fz6 hc6 f0 f1 f2 f3 f4 f5 f6
    obtain ⟨f0, f1, f2, f3, f4, f5, f6⟩ := (HE.out.below HBY6.out hbx).lits
    go_wp2_with fail
    go_region_held3 (fun W => W.cell? ⟨bx, 4, none⟩ = some (.int .i64 k)) (first | assumption | exact fa7 | exact fb7 | exact fz7 | (go_keep; done))
      (first
        | (refine step_append_text rfl (.tmp 34) (.const (.string ⟨#[32, 107, 105, 110, 100, 32]⟩)) 28 9 rfl W0.heap.size 5 i0 Tryd.underlying28 Tryd.underlying9 hi hz0 hz1 hz2 z6 Y6.length (Lib.byteCells Y6) rfl HRY6.out.drew ⟨#[32, 107, 105, 110, 100, 32]⟩ rfl (by unfold maxLen; show Y6.length + 6 ≤ _; omega) (by show Y6.length + 6 ≤ _; omega) (by have := HBY6.out.size; show W0.heap.size ≤ w6.heap.size; omega) ?_; intro y7 wa7 hown7 hgrow7; have hBa7 : Below W0.heap.size W0 wa7 := HBY6.out.drew.grown hgrow7 (HBY6.out.size) (fun k e => drow_ge HRY6.out e); have fa7 : wa7.cell? ⟨bx, 4, none⟩ = some (.int .i64 k) := (HE.out.below hBa7 hbx).f4)
        | (go_at_call 24; refine (digits_int k hk0 hk1 _).mono ?_; rintro r wb7 ⟨x7, c7, rfl, hc7, hb7⟩; have hBb7 : Below W0.heap.size W0 wb7 := hBa7.trans (hb7.mono hBa7.size); have fb7 : wb7.cell? ⟨bx, 4, none⟩ = some (.int .i64 k) := (HE.out.below hBb7 hbx).f4)
        | (refine step_append_own rfl (.tmp 35) (.tmp 38) 28 rfl W0.heap.size 5 i0 (.int .u8 0) 1 1 Tryd.underlying28 hi hz0 hz1 hz2 rfl (by decide) y7 _ _ rfl (row_kept hown7 hb7) ⟨x7, 0, none⟩ (dec k).length c7 (Lib.byteCells (dec k)) rfl (by rw [Lib.byteCells_length]; omega) hc7 (byteCells_ones _) (by unfold maxLen; first | omega | (show Y6.length + 6 + _ ≤ _; omega)) (by first | omega | (show (Y6.length + 6 + _) * 1 ≤ _; omega)) hBb7.size ?_; intro z7 w7 hownz7 hgrowz7; have hBz7 : Below W0.heap.size W0 w7 := hBb7.grown hgrowz7 hBb7.size (fun k e => drow_ge hown7 e); have fz7 : w7.cell? ⟨bx, 4, none⟩ = some (.int .i64 k) := (HE.out.below hBz7 hbx).f4))
    have hst7 : RowB W0.heap.size w7 z7 (Y6 ++ ([32, 107, 105, 110, 100, 32] ++ dec k)) ∧ Below W0.heap.size w6 w7 := row_step (L := [32, 107, 105, 110, 100, 32]) (M := dec k) HRY6.out.drew ((Below.refl W0.heap.size w6).drew) hown7 hgrow7 hb7 hownz7 hgrowz7 HBY6.out.size (by simp [List.length_append]; first | done | omega | (show Y6.length + 6 + _ = _; omega)) (by rw [Lib.byteCells_append, Lib.byteCells_append, ← List.append_assoc]; rfl)
    obtain ⟨Y7, hY7⟩ : ∃ Y7, Y7 = Y6 ++ ([32, 107, 105, 110, 100, 32] ++ dec k) := ⟨_, rfl⟩
    have hlY7 : Y7.length = Y6.length + (6 + (dec k).length) := by rw [hY7, List.length_append, List.length_append]; rfl
    have HRY7 : Hid (RowB W0.heap.size w7 z7 Y7) := by rw [hY7]; exact hst7.1
    have HBY7 : Hid (Below W0.heap.size W0 w7) := HBY6.out.trans hst7.2
    clear hst7 hown7 hgrow7 hb7 hownz7 hgrowz7 hBa7 hBb7 hBz7 fa7 fb7 fz7 hc7 f0 f1 f2 f3 f4 f5 f6
    obtain ⟨f0, f1, f2, f3, f4, f5, f6⟩ := (HE.out.below HBY7.out hbx).lits
    go_wp2_with fail
    go_region_held3 (fun W => W.cell? ⟨bx, 5, none⟩ = some (.int .i64 v)) (first | assumption | exact fa8 | exact fb8 | exact fz8 | (go_keep; done))
      (first
        | (refine step_append_text rfl (.tmp 40) (.const (.string ⟨#[32, 118, 97, 108, 32]⟩)) 28 9 rfl W0.heap.size 5 i0 Tryd.underlying28 Tryd.underlying9 hi hz0 hz1 hz2 z7 Y7.length (Lib.byteCells Y7) rfl HRY7.out.drew ⟨#[32, 118, 97, 108, 32]⟩ rfl (by unfold maxLen; show Y7.length + 5 ≤ _; omega) (by show Y7.length + 5 ≤ _; omega) (by have := HBY7.out.size; show W0.heap.size ≤ w7.heap.size; omega) ?_; intro y8 wa8 hown8 hgrow8; have hBa8 : Below W0.heap.size W0 wa8 := HBY7.out.drew.grown hgrow8 (HBY7.out.size) (fun k e => drow_ge HRY7.out e); have fa8 : wa8.cell? ⟨bx, 5, none⟩ = some (.int .i64 v) := (HE.out.below hBa8 hbx).f5)
        | (go_at_call 24; refine (digits_int v hv0 hv1 _).mono ?_; rintro r wb8 ⟨x8, c8, rfl, hc8, hb8⟩; have hBb8 : Below W0.heap.size W0 wb8 := hBa8.trans (hb8.mono hBa8.size); have fb8 : wb8.cell? ⟨bx, 5, none⟩ = some (.int .i64 v) := (HE.out.below hBb8 hbx).f5)
        | (refine step_append_own rfl (.tmp 41) (.tmp 44) 28 rfl W0.heap.size 5 i0 (.int .u8 0) 1 1 Tryd.underlying28 hi hz0 hz1 hz2 rfl (by decide) y8 _ _ rfl (row_kept hown8 hb8) ⟨x8, 0, none⟩ (dec v).length c8 (Lib.byteCells (dec v)) rfl (by rw [Lib.byteCells_length]; omega) hc8 (byteCells_ones _) (by unfold maxLen; first | omega | (show Y7.length + 5 + _ ≤ _; omega)) (by first | omega | (show (Y7.length + 5 + _) * 1 ≤ _; omega)) hBb8.size ?_; intro z8 w8 hownz8 hgrowz8; have hBz8 : Below W0.heap.size W0 w8 := hBb8.grown hgrowz8 hBb8.size (fun k e => drow_ge hown8 e); have fz8 : w8.cell? ⟨bx, 5, none⟩ = some (.int .i64 v) := (HE.out.below hBz8 hbx).f5))
    have hst8 : RowB W0.heap.size w8 z8 (Y7 ++ ([32, 118, 97, 108, 32] ++ dec v)) ∧ Below W0.heap.size w7 w8 := row_step (L := [32, 118, 97, 108, 32]) (M := dec v) HRY7.out.drew ((Below.refl W0.heap.size w7).drew) hown8 hgrow8 hb8 hownz8 hgrowz8 HBY7.out.size (by simp [List.length_append]; first | done | omega | (show Y7.length + 5 + _ = _; omega)) (by rw [Lib.byteCells_append, Lib.byteCells_append, ← List.append_assoc]; rfl)
    obtain ⟨Y8, hY8⟩ : ∃ Y8, Y8 = Y7 ++ ([32, 118, 97, 108, 32] ++ dec v) := ⟨_, rfl⟩
    have hlY8 : Y8.length = Y7.length + (5 + (dec v).length) := by rw [hY8, List.length_append, List.length_append]; rfl
    have HRY8 : Hid (RowB W0.heap.size w8 z8 Y8) := by rw [hY8]; exact hst8.1
    have HBY8 : Hid (Below W0.heap.size W0 w8) := HBY7.out.trans hst8.2
    clear hst8 hown8 hgrow8 hb8 hownz8 hgrowz8 hBa8 hBb8 hBz8 fa8 fb8 fz8 hc8 f0 f1 f2 f3 f4 f5 f6
    obtain ⟨f0, f1, f2, f3, f4, f5, f6⟩ := (HE.out.below HBY8.out hbx).lits
    go_wp2
    go_ret
    have e9 : Y8 = evText t s q d k v := by rw [hY8, hY7, hY6, hY5, hY, hX]; rfl
    rw [← e9]
    subst hbxe
    exact ⟨z8, rfl, (OwnB.of_row HRY8.out).mono (by omega), HBw.out.trans (HBY8.out.mono (by omega))⟩
end Go.Proofs.YtbcdfacbhemijaaDoor
