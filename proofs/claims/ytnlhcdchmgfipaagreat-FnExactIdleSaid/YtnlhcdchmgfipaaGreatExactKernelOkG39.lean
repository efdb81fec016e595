/- PApp, KIi -/
import Derived.Test.YtnlhcdchmgfipaaGreatExactKernelOkG38
import Derived.Test.YtnlhcdchmgfipaaGreatExactKernelOkG04
import Derived.Test.YtnlhcdchmgfipaaGreatExactKernelOkG37
import Derived.Laws.OwnMore
import Derived.Test.YtnlhcdchmgfipaaGreatExactKernelOkG29
import Derived.Test.YtnlhcdchmgfipaaGreatExactKernelOkG36
import Derived.Test.YtnlhcdchmgfipaaGreatExactKernelOkG23
/- Append of a source that may be empty, or nil. -/
namespace Go.Proofs.YtnlhcdchmgfipaaGreat
open Go.RowKit
/- The value x is a slice of m elements whose cells are news. -/
def SrcC (w : World) (x : Value) (size m : Nat) (news : List Value) : Prop := news.length = m * size ∧ ∃ a c, x = .slice a m c ∧ (m = 0 ∨ ∃ b off, a = some ⟨b, off, none⟩ ∧ b < w.heap.size ∧ ∀ j, j < m * size → w.cell? ⟨b, off + j, none⟩ = news[j]?)
theorem SrcC.below {w w' : World} {x : Value} {size m : Nat} {news : List Value} (h : SrcC w x size m news) (hb : Below w.heap.size w w') : SrcC w' x size m news := by
  obtain ⟨hn, a, c, rfl, h⟩ := h
  refine ⟨hn, a, c, rfl, h.imp id ?_⟩
  rintro ⟨b, off, rfl, hlt, hc⟩
  exact ⟨b, off, rfl, Nat.lt_of_lt_of_le hlt hb.size, fun j hj => (hb.cell (p := ⟨b, off + j, none⟩) hlt).trans (hc j hj)⟩
theorem IsD.src {w : World} {x : Value} {c n : Nat} {cs : List Value} (h : IsD w x (flat c n cs)) (hl : cs.length = n * c) : SrcC w x c n cs := by
  obtain ⟨a, cap, rfl, h1, h2, h⟩ := IsD.parts (c := c) (n := n) h
  refine ⟨hl, a, cap, rfl, h.imp id ?_⟩
  rintro ⟨b, off, rfl, hlt, hc⟩
  refine ⟨b, off, rfl, hlt, fun j hj => ?_⟩
  obtain ⟨u, hu, hd⟩ := hc j hj
  have := IsD.val_eq hd
  subst this
  rw [hu, List.getElem?_eq_getElem (by omega)]
  simp [show j < cs.length by omega]
theorem IsD.srcI {w : World} {x : Value} {l : List Int} (h : IsD w x (intsD l)) : SrcC w x 1 l.length (intCells l) := IsD.src h (by rw [intCells_length]; omega)
theorem IsD.srcEv {w : World} {x : Value} {l : List Ev} (h : IsD w x (evsD l)) : SrcC w x 7 l.length (cellsL l) := IsD.src h (cellsL_length l)
theorem IsD.srcX {w : World} {x : Value} {l : List Em} (h : IsD w x (emsD l)) : SrcC w x 3 l.length (cellsX l) := IsD.src h (cellsX_length l)
theorem run_append_none_any {P : Program} {w : World} (base : Nat) (t ty e : TypeId) (i : TypeInfo) (size : Nat) (ht : P.underlying t = some (.slice e)) (hi : P.info? e = some i) (v : Value) (n c : Nat) (xs : List Value) (hown : w.ownsRow base e size v n xs) :
    (Builtin.append_ #[t, t] ty #[v, .slice none 0 c]).run P w = .ok v w := by
  rcases hown.2 with ⟨rfl, rfl⟩ | ⟨g, cap, cur, rfl, _, _, hnc, _⟩
  · simp [Builtin.append_, run_underlying ht, sizeOf, typeInfo, hi, Builtin.lenOf, Builtin.firstCells]
  · simp [Builtin.append_, run_underlying ht, sizeOf, typeInfo, hi, Builtin.lenOf, Builtin.firstCells, hnc, storeCells]
theorem step_append_src {P : Program} {ops : Array Oper} {o : Oper} {a : Act} {w : World} {K : Act → World → Prop} {Q : Exit → Act → World → Prop} {E : Prop}
    (hg : o.guard = none) (s x : Operand) (t : TypeId) (hop : o.op = Op.call { callee := Callee.builtin Builtin.append, args := #[s, x], argTypes := #[t, t] })
    (base : Nat) (e : TypeId) (i : TypeInfo) (z : Value) (size bytes : Nat) (h1 : P.underlying t = some (.slice e)) (h2 : P.info? e = some i) (h3 : i.zero = some z) (h4 : i.size = size) (h5 : i.bytes = bytes) (h6 : z.cells.size = size) (h7 : 0 < size)
    (v : Value) (n : Nat) (xs : List Value) (hs : a.eval s = v) (hown : w.ownsRow base e size v n xs)
    (u : Value) (m : Nat) (news : List Value) (hx : a.eval x = u) (hc : SrcC w u size m news) (h1c : ∀ u ∈ news, u.oneCell' = true)
    (b1 : n + m ≤ maxLen) (b2 : (n + m) * bytes ≤ 140737488355328) (hbase : base ≤ w.heap.size)
    (hK : ∀ v' w', w'.ownsRow base e size v' (n + m) (xs ++ news) → w.grownBy w' v.ownBlock → NewRow w v v' → K (a.put o.dst v') w') :
    if Region.wanted o (yielded ops a.tmps) = true then Oper.wp P o a w K Q else E := by
  obtain ⟨hn, au, c, rfl, hc⟩ := hc
  have some_case : ∀ ad : Addr, au = some ad → (∀ j u, news[j]? = some u → w.cell? (ad.add j) = some u) → (if Region.wanted o (yielded ops a.tmps) = true then Oper.wp P o a w K Q else E) := fun ad e1 e2 => by
    subst e1
    exact step_append_own2 hg s x t hop base e i z size bytes h1 h2 h3 h4 h5 h6 h7 v n xs hs hown ad m c news hx hn e2 h1c b1 b2 hbase hK
  rcases hc with rfl | ⟨b, off, rfl, hlt, hcc⟩
  · have hnil : news = [] := List.eq_nil_of_length_eq_zero (by simpa using hn)
    subst hnil
    cases au with
    | some ad => exact some_case ad rfl (fun j u hu => by simp at hu)
    | none =>
      have hw : Region.wanted o (yielded ops a.tmps) = true := by simp [Region.wanted, hg]
      rw [if_pos hw]
      have hr := run_append_none_any (P := P) (w := w) base t o.type e i size h1 h2 v n c xs hown
      unfold Oper.wp execOp
      simp only [hop, resolve, invoke, builtin, Sem.run_bind, Sem.run_pure, Result.andThen_ok, List.map_toArray, List.map_cons, List.map_nil, hs, hx, hr]
      exact hK v w (by simpa using hown) (grown_refl w _) (.inl rfl)
  · refine some_case ⟨b, off, none⟩ rfl (fun j u hu => ?_)
    have hj : j < m * size := by rw [← hn]; exact (List.getElem?_eq_some_iff.1 hu).1
    rw [Addr.add_lit, hcc j hj]
    exact hu
theorem wpList_append_src {P : Program} {ops : Array Oper} {rest : List Oper} {o : Oper} {a : Act} {Q : Exit → Act → World → Prop} (w : World) (hgd : o.guard = none) (s x : Operand) (t : TypeId)
    (ho : o.op = .call { callee := .builtin .append, args := #[s, x], argTypes := #[t, t] })
    (base : Nat) (e : TypeId) (i : TypeInfo) (z : Value) (size bytes : Nat) (ht : P.underlying t = some (.slice e)) (hi : P.info? e = some i) (hz : i.zero = some z)
    (hsize : i.size = size) (hby : i.bytes = bytes) (hzs : z.cells.size = size) (hsz : 0 < size)
    (v : Value) (n : Nat) (xs : List Value) (hs : a.eval s = v) (hown : w.ownsRow base e size v n xs)
    (u : Value) (m : Nat) (news : List Value) (hx : a.eval x = u) (hc : SrcC w u size m news) (h1 : ∀ u ∈ news, u.oneCell' = true)
    (h63 : n + m ≤ maxLen) (hbytes : (n + m) * bytes ≤ 140737488355328) (hbase : base ≤ w.heap.size)
    (h : ∀ v' w', w'.ownsRow base e size v' (n + m) (xs ++ news) → w.grownBy w' v.ownBlock → NewRow w v v' → wpList P ops Q rest (a.put o.dst v') w') : wpList P ops Q (o :: rest) a w := by
  obtain ⟨hn, au, c, rfl, hc⟩ := hc
  have some_case : ∀ ad : Addr, au = some ad → (∀ j u, news[j]? = some u → w.cell? (ad.add j) = some u) → wpList P ops Q (o :: rest) a w := fun ad e1 e2 => by
    subst e1
    exact wpList_append_own2 w hgd s x t ho base e i z size bytes ht hi hz hsize hby hzs hsz v n xs hs hown ad m c news hx hn e2 h1 h63 hbytes hbase h
  rcases hc with rfl | ⟨b, off, rfl, hlt, hcc⟩
  · have hnil : news = [] := List.eq_nil_of_length_eq_zero (by simpa using hn)
    subst hnil
    cases au with
    | some ad => exact some_case ad rfl (fun j u hu => by simp at hu)
    | none =>
      refine wpList_plain hgd fun _ hK => ?_
      have hr := run_append_none_any (P := P) (w := w) base t o.type e i size ht hi v n c xs hown
      unfold Oper.wp execOp
      simp only [ho, resolve, invoke, builtin, Sem.run_bind, Sem.run_pure, Result.andThen_ok, List.map_toArray, List.map_cons, List.map_nil, hs, hx, hr]
      exact hK _ _ (h v w (by simpa using hown) (grown_refl w _) (.inl rfl))
  · refine some_case ⟨b, off, none⟩ rfl (fun j u hu => ?_)
    have hj : j < m * size := by rw [← hn]; exact (List.getElem?_eq_some_iff.1 hu).1
    rw [Addr.add_lit, hcc j hj]
    exact hu
theorem cellsL_ones (l : List Ev) : ∀ u ∈ cellsL l, u.oneCell' = true := fun u hu => by obtain ⟨i, rfl⟩ := evs_plain l u hu; rfl
theorem cellsX_ones (l : List Em) : ∀ u ∈ cellsX l, u.oneCell' = true := fun u hu => by obtain ⟨i, rfl⟩ := ems_plain l u hu; rfl
end Go.Proofs.YtnlhcdchmgfipaaGreat

/- The program's allKnown. -/
namespace Go.Proofs.YtnlhcdchmgfipaaGreat
open Go.RowKit
theorem partsE_snoc {l : List Pa} {i : Nat} (h : i < l.length) : partsE (l.take (i + 1)) = partsE (l.take i) ++ (paAt l i).all := by
  rw [take_snocP h]
  unfold partsE
  rw [List.flatMap_append]
  simp
theorem partsE_take (l : List Pa) (j : Nat) : (partsE (l.take j)).length ≤ (partsE l).length := by
  have e : partsE l = partsE (l.take j) ++ partsE (l.drop j) := by
    unfold partsE
    rw [← List.flatMap_append, List.take_append_drop]
  rw [e, List.length_append]
  omega
theorem bagE_snoc {l : List Ml} {i : Nat} (h : i < l.length) : bagE (l.take (i + 1)) = bagE (l.take i) ++ (if (mlAt l i).a then [] else [(mlAt l i).e]) := by
  rw [take_snocM h]
  unfold bagE
  rw [List.flatMap_append]
  simp
theorem bagE_take (l : List Ml) (j : Nat) : (bagE (l.take j)).length ≤ (bagE l).length := by
  have e : bagE l = bagE (l.take j) ++ bagE (l.drop j) := by
    unfold bagE
    rw [← List.flatMap_append, List.take_append_drop]
  rw [e, List.length_append]
  omega
theorem allK_len {k : Kn} (h : k.wt ≤ 1048576) : (partsE k.p).length + (bagE k.b).length ≤ 1048576 := by
  have h1 := tags_len h
  have h2 := (partsT_perm k.p).length_eq
  rw [List.length_map] at h2
  rw [bagT_map, List.length_map] at h1
  omega
theorem OwnR.srcC {B : Nat} {w : World} {x : Value} {l : List Ev} (h : OwnR B w x l) : SrcC w x 7 l.length (cellsL l) := IsD.src ((RowF.of_owns (cellsL_length l) h).own.isD) (cellsL_length l)
theorem RowE.more {B : Nat} {w : World} {v : Value} {l l' : List Ev} (h : w.ownsRow B 47 7 v (l.length + l'.length) (cellsL l ++ cellsL l')) : RowE B w v (l ++ l') := by
  unfold RowE
  rw [List.length_append, cellsL_append]
  exact h
set_option maxRecDepth 100000 in
set_option maxHeartbeats 16000000 in
theorem iAllKnown (x : Value) (k : Kn) (w : World) (hs : SmallK k) (h : IsKern w x k) :
    Calls Tryz.prog 69 #[x] w fun e w' => ∃ y, e = .returned y ∧ OwnR w.heap.size w' y (allK k) ∧ Below w.heap.size w w' := by
  have hall := allK_len hs.2
  obtain ⟨HSM0, hsk⟩ := hs
  have HSM : Hid (SmallM k.m) := HSM0
  obtain ⟨hdl, hpl, hbl, hsl, hxl⟩ := wt_lens hsk
  have HWP : Hid (∀ i, i < k.p.length → (paAt k.p i).wt ≤ 1048576) := wt_parts hsk
  clear hsk HSM0
  obtain ⟨ai, ci, ah, ch, ae, ce, ad, cd, ap, cp, ab, cb, au, cu, ax, cx, rfl, hm, hd, hp, hbg, hsu, hx⟩ := h.form
  have HM : Hid (IsM w (.agg #[.int .i64 k.m.n, .int .i64 k.m.s, .slice ai k.m.i.length ci, .slice ah k.m.h.length ch, .slice ae k.m.e.length ce, .int .i64 k.m.z]) k.m) := hm
  have HD : Hid (IsI w (.slice ad k.d.length cd) k.d) := hd
  have HPP : Hid (k.p = [] ∨ ∃ b off, ap = some ⟨b, off, none⟩ ∧ PasAt w b off k.p) := hp
  have HBG : Hid (k.b = [] ∨ ∃ b off, ab = some ⟨b, off, none⟩ ∧ MlsAt w b off k.b) := hbg.rows
  have HSU : Hid (k.s = [] ∨ ∃ b off, au = some ⟨b, off, none⟩ ∧ EvsAt w b off k.s) := hsu.rows
  have HXX : Hid (k.x = [] ∨ ∃ b off, ax = some ⟨b, off, none⟩ ∧ XsAt w b off k.x) := hx.rows
  have HSUI : Hid (IsEvs w (.slice au k.s.length cu) k.s) := hsu
  have HXXI : Hid (IsX w (.slice ax k.x.length cx) k.x) := hx
  have HK : Hid (IsKern w (.agg #[.int .i64 k.m.n, .int .i64 k.m.s, .slice ai k.m.i.length ci, .slice ah k.m.h.length ch, .slice ae k.m.e.length ce, .int .i64 k.m.z, .slice ad k.d.length cd, .slice ap k.p.length cp, .slice ab k.b.length cb, .int .i64 k.t, .int .i64 k.q, .bool k.f, .slice au k.s.length cu, .slice ax k.x.length cx]) k) := h
  clear hm hd hp hbg hsu hx h
  obtain ⟨W0, hW0⟩ : ∃ W0, w.alloc (.cells #[.int .i64 k.m.n, .int .i64 k.m.s, .slice ai k.m.i.length ci, .slice ah k.m.h.length ch, .slice ae k.m.e.length ce, .int .i64 k.m.z, .slice ad k.d.length cd, .slice ap k.p.length cp, .slice ab k.b.length cb, .int .i64 k.t, .int .i64 k.q, .bool k.f, .slice au k.s.length cu, .slice ax k.x.length cx] 42) = W0 := ⟨_, rfl⟩
  have HB0 : Hid (Below w.heap.size w W0) := by rw [← hW0]; exact (Below.refl _ w).alloc (Nat.le_refl _) _
  have HP0 : Hid (Bk W0 w.heap.size 42 #[.int .i64 k.m.n, .int .i64 k.m.s, .slice ai k.m.i.length ci, .slice ah k.m.h.length ch, .slice ae k.m.e.length ce, .int .i64 k.m.z, .slice ad k.d.length cd, .slice ap k.p.length cp, .slice ab k.b.length cb, .int .i64 k.t, .int .i64 k.q, .bool k.f, .slice au k.s.length cu, .slice ax k.x.length cx]) := by rw [← hW0]; exact Bk.new w _ _
  have HW : Hid (w.alloc (.cells #[.int .i64 k.m.n, .int .i64 k.m.s, .slice ai k.m.i.length ci, .slice ah k.m.h.length ch, .slice ae k.m.e.length ce, .int .i64 k.m.z, .slice ad k.d.length cd, .slice ap k.p.length cp, .slice ab k.b.length cb, .int .i64 k.t, .int .i64 k.q, .bool k.f, .slice au k.s.length cu, .slice ax k.x.length cx] 42) = W0) := hW0
  have hs0 : w.heap.size < W0.heap.size := HP0.out.lt
  clear HM HD HSU HXX HSUI HXXI HK HSM hW0
  obtain ⟨ie, hx0, hx1, hx2, hx3⟩ := info_parts info25
  obtain ⟨B, hB⟩ : ∃ B, B = W0.heap.size := ⟨_, rfl⟩
  have hB1 : B ≤ W0.heap.size := by omega
  have hB2 : w.heap.size < B := by omega
  clear hB
  have hw := HW.out
  have q7 := HP0.out.cell (i := 7) rfl
  go_enter Tryz.func69, Tryz.ntmps69
  go_wp2
  clear hw q7 HW
  go_loopw [3, 11] (fun o i wr => ∃ (j : Nat) (v : Value), j ≤ k.p.length ∧ v = o ∧ i = .int .i64 j ∧ RowE B wr o (partsE (k.p.take j)) ∧ Below B W0 wr) (fun _ i _ => k.p.length - (intOf i).toNat)
  case atStart => exact ⟨0, _, Nat.zero_le _, rfl, rfl, RowE.nil _ _, Below.refl _ _⟩
  case round =>
    obtain ⟨j, o, hj, rfl, rfl, hR, hBr⟩ := hrel
    have HR : Hid (RowE B wr o (partsE (k.p.take j))) := hR
    have HBB : Hid (Below B W0 wr) := hBr
    have HBr : Hid (Below w.heap.size w wr) := HB0.out.trans (hBr.mono (by omega))
    have hs1 : B ≤ wr.heap.size := Nat.le_trans hB1 hBr.size
    clear hR hBr
    by_cases hlt : j < k.p.length
    · obtain ⟨b, off, rfl, hb, hPA⟩ := HPP.out.resolve_left (by intro e; rw [e] at hlt; simp at hlt)
      obtain ⟨a1, c1, a4, c4, a5, c5, a6, c6, hp⟩ := hPA j hlt
      have f0 := (HBr.out.cell (p := ⟨b, _, none⟩) hb).trans hp.f0
      have f1 := (HBr.out.cell (p := ⟨b, _, none⟩) hb).trans hp.f1
      have f2 := (HBr.out.cell (p := ⟨b, _, none⟩) hb).trans hp.f2
      have f3 := (HBr.out.cell (p := ⟨b, _, none⟩) hb).trans hp.f3
      have f4 := (HBr.out.cell (p := ⟨b, _, none⟩) hb).trans hp.f4
      have f5 := (HBr.out.cell (p := ⟨b, _, none⟩) hb).trans hp.f5
      have f6 := (HBr.out.cell (p := ⟨b, _, none⟩) hb).trans hp.f6
      have HIP : Hid (IsPart w (.agg #[.int .i64 (paAt k.p j).n, .slice a1 (paAt k.p j).st.r.length c1, .int .i64 (paAt k.p j).st.q, .int .i64 (paAt k.p j).st.d, .slice a4 (paAt k.p j).p.length c4, .slice a5 (paAt k.p j).t.length c5, .slice a6 (paAt k.p j).a.length c6]) (paAt k.p j)) := hp.isPart
      have HWj : Hid ((paAt k.p j).wt ≤ 1048576) := HWP.out j hlt
      have HN : Hid (partsE (k.p.take (j + 1)) = partsE (k.p.take j) ++ (paAt k.p j).all) := partsE_snoc hlt
      have hln : (partsE (k.p.take j)).length + (paAt k.p j).all.length ≤ 1048576 := by
        have h9 := partsE_take k.p (j + 1)
        rw [partsE_snoc hlt, List.length_append] at h9
        omega
      generalize partsE (k.p.take j) = lq at HR HN hln
      obtain ⟨V, hV⟩ : ∃ V, wr.alloc (.cells #[.int .i64 (paAt k.p j).n, .slice a1 (paAt k.p j).st.r.length c1, .int .i64 (paAt k.p j).st.q, .int .i64 (paAt k.p j).st.d, .slice a4 (paAt k.p j).p.length c4, .slice a5 (paAt k.p j).t.length c5, .slice a6 (paAt k.p j).a.length c6] 88) = V := ⟨_, rfl⟩
      have HBV : Hid (Below B W0 V) := by rw [← hV]; exact HBB.out.alloc hs1 _
      have HRV : Hid (RowE B V o lq) := by rw [← hV]; exact HR.out.alloc _
      have HX : Hid (Bk V wr.heap.size 88 #[.int .i64 (paAt k.p j).n, .slice a1 (paAt k.p j).st.r.length c1, .int .i64 (paAt k.p j).st.q, .int .i64 (paAt k.p j).st.d, .slice a4 (paAt k.p j).p.length c4, .slice a5 (paAt k.p j).t.length c5, .slice a6 (paAt k.p j).a.length c6]) := by rw [← hV]; exact Bk.new _ _ _
      have HBw : Hid (Below w.heap.size w V) := HB0.out.trans (HBV.out.mono (by omega))
      have hsV : B ≤ V.heap.size := Nat.le_trans hB1 HBV.out.size
      have x0 := HX.out.cell (i := 0) rfl
      have x1 := HX.out.cell (i := 1) rfl
      have x2 := HX.out.cell (i := 2) rfl
      have x3 := HX.out.cell (i := 3) rfl
      have x4 := HX.out.cell (i := 4) rfl
      have x5 := HX.out.cell (i := 5) rfl
      have x6 := HX.out.cell (i := 6) rfl
      clear hp hPA
      go_wp2_with fail
      clear x0 x1 x2 x3 x4 x5 x6 f0 f1 f2 f3 f4 f5 f6 hV
      refine (iDoings _ (paAt k.p j) _ HWj.out (HIP.out.under HBw.out)).mono ?_
      rintro e w5 ⟨y, rfl, ho, hb5⟩
      have HR5 : Hid (RowE B w5 o lq) := OwnR.below HRV.out hb5
      have HS5 : Hid (SrcC w5 y 7 (paAt k.p j).all.length (cellsL (paAt k.p j).all)) := ho.srcC
      have HB5 : Hid (Below B W0 w5) := HBV.out.trans (hb5.mono hsV)
      have hs5 : B ≤ w5.heap.size := Nat.le_trans hsV hb5.size
      clear ho hb5
      generalize (paAt k.p j).all = la at HN hln HS5
      go_wp2_with (at_builtin; refine wpList_append_src _ rfl _ _ 35 rfl B 47 ie (.agg #[.int .i64 0, .int .i64 0, .int .i64 0, .int .i64 0, .int .i64 0, .int .i64 0, .int .i64 0]) 7 56 Tryz.underlying35 hx0 hx1 hx2 hx3 rfl (by decide) o lq.length (cellsL lq) rfl HR5.out y la.length (cellsL la) rfl HS5.out (cellsL_ones la) (by unfold maxLen; omega) (by omega) hs5 ?_; intro v4 w4 hown hgrow hnew)
      go_roundw
      case rel => exact ⟨j + 1, _, by omega, rfl, by go_num, by rw [HN.out]; exact RowE.more hown, HB5.out.grown hgrow hs5 (fun q e => RowE.ge HR5.out e)⟩
      case measure => simp [intOf]; omega
    · obtain rfl : k.p.length = j := by omega
      rw [List.take_length] at HR
      obtain ⟨W1, rfl⟩ : ∃ W1, W1 = wr := ⟨wr, rfl⟩
      have HR1 : Hid (RowE B W1 o (partsE k.p)) := HR.out
      have HBB1 : Hid (Below B W0 W1) := HBB.out
      have HP1 : Hid (Bk W1 w.heap.size 42 #[.int .i64 k.m.n, .int .i64 k.m.s, .slice ai k.m.i.length ci, .slice ah k.m.h.length ch, .slice ae k.m.e.length ce, .int .i64 k.m.z, .slice ad k.d.length cd, .slice ap k.p.length cp, .slice ab k.b.length cb, .int .i64 k.t, .int .i64 k.q, .bool k.f, .slice au k.s.length cu, .slice ax k.x.length cx]) := HP0.out.lowB HBB.out hB2
      have m8 := HP1.out.cell (i := 8) rfl
      clear HR HBB HBr hj hlt hs1
      go_wp2
      clear m8
      go_loopw [3, 23] (fun o i wr => ∃ (j : Nat) (v : Value), j ≤ k.b.length ∧ v = o ∧ i = .int .i64 j ∧ RowE B wr o (partsE k.p ++ bagE (k.b.take j)) ∧ Below B W0 wr) (fun _ i _ => k.b.length - (intOf i).toNat)
      case atStart => exact ⟨0, _, Nat.zero_le _, rfl, rfl, by simpa [bagE] using HR1.out, HBB1.out⟩
      case round =>
        clear HR1 HBB1 HP1
        obtain ⟨j, o, hj, rfl, rfl, hR, hBr⟩ := hrel
        have HR : Hid (RowE B wr o (partsE k.p ++ bagE (k.b.take j))) := hR
        have HBB : Hid (Below B W0 wr) := hBr
        have HBr : Hid (Below w.heap.size w wr) := HB0.out.trans (hBr.mono (by omega))
        have hs1 : B ≤ wr.heap.size := Nat.le_trans hB1 hBr.size
        clear hR hBr
        by_cases hlt : j < k.b.length
        · obtain ⟨b, off, rfl, hb, hMA⟩ := HBG.out.resolve_left (by intro e; rw [e] at hlt; simp at hlt)
          obtain ⟨f0, f1, f2, f3, f4, f5, f6, f7⟩ := (hMA j hlt).below HBr.out hb
          have HN : Hid (partsE k.p ++ bagE (k.b.take (j + 1)) = (partsE k.p ++ bagE (k.b.take j)) ++ (if (mlAt k.b j).a then [] else [(mlAt k.b j).e])) := (by rw [bagE_snoc hlt, List.append_assoc] : partsE k.p ++ bagE (k.b.take (j + 1)) = _)
          have hln : (partsE k.p ++ bagE (k.b.take j)).length ≤ 3000000 := by have h9 := bagE_take k.b j; rw [List.length_append]; omega
          generalize partsE k.p ++ bagE (k.b.take j) = lq at HR HN hln
          obtain ⟨V, hV⟩ : ∃ V, wr.alloc (.cells #[.int .i64 (mlAt k.b j).e.t, .int .i64 (mlAt k.b j).e.s, .int .i64 (mlAt k.b j).e.q, .int .i64 (mlAt k.b j).e.d, .int .i64 (mlAt k.b j).e.k, .int .i64 (mlAt k.b j).e.v, .int .i64 (mlAt k.b j).e.g, .bool (mlAt k.b j).a] 91) = V := ⟨_, rfl⟩
          have HBV : Hid (Below B W0 V) := by rw [← hV]; exact HBB.out.alloc hs1 _
          have HRV : Hid (RowE B V o lq) := by rw [← hV]; exact HR.out.alloc _
          have HX : Hid (Bk V wr.heap.size 91 #[.int .i64 (mlAt k.b j).e.t, .int .i64 (mlAt k.b j).e.s, .int .i64 (mlAt k.b j).e.q, .int .i64 (mlAt k.b j).e.d, .int .i64 (mlAt k.b j).e.k, .int .i64 (mlAt k.b j).e.v, .int .i64 (mlAt k.b j).e.g, .bool (mlAt k.b j).a]) := by rw [← hV]; exact Bk.new _ _ _
          have hsV : B ≤ V.heap.size := Nat.le_trans hB1 HBV.out.size
          have x0 := HX.out.cell (i := 0) rfl
          have x1 := HX.out.cell (i := 1) rfl
          have x2 := HX.out.cell (i := 2) rfl
          have x3 := HX.out.cell (i := 3) rfl
          have x4 := HX.out.cell (i := 4) rfl
          have x5 := HX.out.cell (i := 5) rfl
          have x6 := HX.out.cell (i := 6) rfl
          have x7 := HX.out.cell (i := 7) rfl
          clear hMA
          cases ha : (mlAt k.b j).a
          case true =>
            have HNN : Hid (partsE k.p ++ bagE (k.b.take (j + 1)) = lq) := by show _ = _; rw [HN.out, ha]; simp
            rw [ha] at x7
            clear ha
            go_wp2
            go_roundw
            case rel => exact ⟨j + 1, _, by omega, rfl, by go_num, by rw [HNN.out]; exact HRV.out, HBV.out⟩
            case measure => simp [intOf]; omega
          have HNN : Hid (partsE k.p ++ bagE (k.b.take (j + 1)) = lq ++ [(mlAt k.b j).e]) := by show _ = _; rw [HN.out, ha]; rfl
          rw [ha] at x7
          clear ha
          go_wp2_with (at_builtin; refine wpList_append_own _ rfl _ _ 35 rfl B 47 ie (.agg #[.int .i64 0, .int .i64 0, .int .i64 0, .int .i64 0, .int .i64 0, .int .i64 0, .int .i64 0]) 7 56 Tryz.underlying35 hx0 hx1 hx2 hx3 rfl (by decide) o _ _ rfl (World.ownsRow.alloc HRV.out _) ⟨V.heap.size, 0, none⟩ 1 1 ((mlAt k.b j).e).cs rfl rfl (at_newE _ (mlAt k.b j).e) (evOnes (mlAt k.b j).e) (by unfold maxLen; omega) (by omega) (by simp; omega) ?_; intro v4 w4 hown hgrow hnil)
          go_roundw
          case rel => exact ⟨j + 1, _, by omega, rfl, by go_num, by rw [HNN.out]; exact RowE.grow hown, (HBV.out.alloc hsV _).grown hgrow (by simp; omega) (fun q e => RowE.ge HRV.out e)⟩
          case measure => simp [intOf]; omega
        · obtain rfl : k.b.length = j := by omega
          rw [List.take_length] at HR
          have HRa : Hid (OwnR B wr o (allK k)) := HR.out
          obtain ⟨ao, co, rfl, _, _, _⟩ := HRa.out.evs
          go_wp2
          go_ret
          exact ⟨_, rfl, HRa.out.mono (by omega), HBr.out⟩
end Go.Proofs.YtnlhcdchmgfipaaGreat

