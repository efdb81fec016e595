/- SlIi -/
import Derived.Test.YtnccenbkpocjgaaGreatExactUnhearG02
/- slices.Insert, of one. -/
namespace Go.Proofs.YtnccenbkpocjgaaGreat
open Go.RowKit
theorem src1i {w : World} {s : Nat} {news : List Value} (hs : w.heap[s]? = some (.cells news.toArray 3 (0, 0))) (hl : news.length = 1) : SrcC w (.slice (some ⟨s, 0, none⟩) 1 1) 1 1 news := by
 refine ⟨by omega, _, _, rfl, .inr ⟨s, 0, rfl, (Array.getElem?_eq_some_iff.1 hs).1, fun j hj => ?_⟩⟩
 rw [Nat.zero_add, cell_of_row w s j _ _ (0, 0) hs]
 simp
set_option maxRecDepth 100000 in
set_option maxHeartbeats 8000000 in
theorem insi_end (B : Nat) (v : Value) (n s : Nat) (xs news : List Value) (w : World) (hn : n ≤ 2097152) (hnl : news.length = 1) (h1n : ∀ u ∈ news, u.oneCell' = true) (hs : w.heap[s]? = some (.cells news.toArray 3 (0, 0))) (hB : B ≤ w.heap.size) (h : w.ownsRow B 3 1 v n xs) :
  Calls Tryz.prog 178 #[v, .int .i64 (n : Int), .slice (some ⟨s, 0, none⟩) 1 1] w fun e w' => ∃ v', e = .returned v' ∧ w'.ownsRow B 3 1 v' (n + 1) (xs ++ news) ∧ w.grownBy w' v.ownBlock ∧ NewRow w v v' := by
 obtain ⟨i0, hi0, hz0, hz1, hz2⟩ := info_parts infoSli
 have HO : Hid (w.ownsRow B 3 1 v n xs) := h
 have HS : Hid (SrcC w (.slice (some ⟨s, 0, none⟩) 1 1) 1 1 news) := src1i hs hnl
 obtain ⟨a, cap, rfl⟩ := owns_slice h
 have s1 := cutLi a n cap n (Nat.le_refl _)
 obtain ⟨sv, hsv⟩ : ∃ sv, sliced a n n cap 1 = sv := ⟨_, rfl⟩
 rw [hsv] at s1
 clear h hs hsv
 go_enter Tryz.func178, Tryz.ntmps178
 go_wp2_with (at_builtin; refine wpList_append_src _ rfl _ _ 22 rfl B 3 i0 (.int .i64 0) 1 8 Tryz.underlying22 hi0 hz0 hz1 hz2 rfl (by decide) (.slice a n cap) n xs rfl HO.out (.slice (some ⟨s, 0, none⟩) 1 1) 1 news rfl HS.out h1n (by unfold maxLen; omega) (by omega) hB ?_; intro v' w' hown hgrow hnew)
 go_ret
 exact ⟨_, rfl, hown, hgrow, hnew⟩
set_option maxRecDepth 100000 in
set_option maxHeartbeats 8000000 in
theorem insi_room (B g cap n i s : Nat) (xs news : List Value) (w : World) (hi : i < n) (hroom : n + 1 ≤ cap) (h1 : ∀ u ∈ xs, u.oneCell' = true) (hnl : news.length = 1) (h1n : ∀ u ∈ news, u.oneCell' = true) (hs : w.heap[s]? = some (.cells news.toArray 3 (0, 0))) (hsg : s ≠ g) (h : w.ownsRow B 3 1 (.slice (some ⟨g, 0, none⟩) n cap) n xs) :
  Calls Tryz.prog 178 #[.slice (some ⟨g, 0, none⟩) n cap, .int .i64 (i : Int), .slice (some ⟨s, 0, none⟩) 1 1] w fun e w' => e = .returned (.slice (some ⟨g, 0, none⟩) (n + 1) cap) ∧ w'.ownsRow B 3 1 (.slice (some ⟨g, 0, none⟩) (n + 1) cap) (n + 1) (xs.take (i * 1) ++ news ++ xs.drop (i * 1)) ∧ w.grownBy w' (some g) := by
 obtain ⟨cur, hg, hBg, hnc, hcm, hcs, htk⟩ := owns_block h
 have hcm2 : cap ≤ 9223372036854775807 := by unfold maxLen at hcm; omega
 have HXL : Hid (xs.length = n * 1) := h.1
 have ci : (((i + 1 : Nat)) : Int) = (i : Int) + 1 := by omega
 have cn : (((n + 1 : Nat)) : Int) = (n : Int) + 1 := by omega
 have s1 := cutLi (some ⟨g, 0, none⟩) n cap i (by omega)
 have s2 := cutHi (some ⟨g, 0, none⟩) n cap (n + 1) (by omega)
 have s3 := cutLi (some ⟨g, 0, none⟩) (n + 1) cap (i + 1) (by omega)
 have s4 := cutLi (some ⟨g, 0, none⟩) (n + 1) cap i (by omega)
 rw [cn] at s2
 rw [ci] at s3
 have e2 : sliced (some ⟨g, 0, none⟩) 0 (n + 1) cap 1 = .slice (some ⟨g, 0, none⟩) (n + 1) cap := by
  unfold sliced
  rw [if_neg (by omega)]; simp [Addr.add_lit]
 have e3 : sliced (some ⟨g, 0, none⟩) (i + 1) (n + 1) cap 1 = .slice (some ⟨g, i * 1 + 1, none⟩) (n - i) (cap - (i + 1)) := by
  unfold sliced
  rw [if_neg (by omega), show n + 1 - (i + 1) = n - i by omega, show (i + 1) * 1 = i * 1 + 1 by omega]; simp [Addr.add_lit]
 have e4 : sliced (some ⟨g, 0, none⟩) i (n + 1) cap 1 = .slice (some ⟨g, i * 1, none⟩) (n + 1 - i) (cap - i) := by
  unfold sliced
  rw [if_neg (by omega)]; simp [Addr.add_lit]
 obtain ⟨sv, hsv⟩ : ∃ sv, sliced (some ⟨g, 0, none⟩) i n cap 1 = sv := ⟨_, rfl⟩
 rw [hsv] at s1
 rw [e2] at s2
 rw [e3] at s3
 rw [e4] at s4
 have hdrop : xs.drop (i * 1) = (cur.toList.drop (i * 1)).take (n * 1 - i * 1) := by rw [← htk, List.drop_take]
 have hdl : (xs.drop (i * 1)).length = n * 1 - i * 1 := by rw [List.length_drop, HXL.out]
 have hcl : cur.toList.length = cap * 1 := by rw [Array.length_toList, hcs]
 have hov : ∀ lb cb, (callFunc 206 #[.slice (some ⟨s, 0, none⟩) 1 1, .slice (some ⟨g, i * 1 + 1, none⟩) lb cb]).run Tryz.prog w = .ok (.value (.bool false)) w := fun lb cb => by
  have hsa : w.shape? s = some (3, news.length) := by simp [World.shape?, hs]
  have hsb : w.shape? g = some (3, cur.size) := by simp [World.shape?, hg]
  rw [run_callFunc_extern Tryz.func206 (by kernel_rfl) (by kernel_rfl) (by kernel_rfl) (e := Extern.SlicesOverlaps.overlaps #[22, 22] #[4]) (by kernel_rfl),
   Lib.run_overlaps_apart w 22 4 3 Tryz.underlying22 1 (fun w => by kernel_rfl) ⟨s, 0, none⟩ ⟨g, i * 1 + 1, none⟩ 1 1 lb cb hsg 3 3 news.length cur.size hsa hsb (by rw [hcs]; omega) (by simp [World.frozen?, hs]) (by simp [World.frozen?, hs])]
  rfl
 obtain ⟨A1, hA1⟩ : ∃ A1 : Array Value, A1 = (cur.toList.take (i * 1 + 1) ++ xs.drop (i * 1) ++ cur.toList.drop (i * 1 + 1 + (xs.drop (i * 1)).length)).toArray := ⟨_, rfl⟩
 obtain ⟨A2, hA2⟩ : ∃ A2 : Array Value, A2 = (A1.toList.take (i * 1) ++ news ++ A1.toList.drop (i * 1 + news.length)).toArray := ⟨_, rfl⟩
 have hsh := shift_list (L := cur.toList) (news := news) (a := i * 1) (b := n * 1 - i * 1) (c := 1) (by omega) hnl
 rw [← hdrop] at hsh
 dsimp only at hsh
 have hA1l : A1.toList = cur.toList.take (i * 1 + 1) ++ xs.drop (i * 1) ++ cur.toList.drop (i * 1 + 1 + (xs.drop (i * 1)).length) := by rw [hA1]
 rw [← hA1l] at hsh
 have hA2l : A2.toList = A1.toList.take (i * 1) ++ news ++ A1.toList.drop (i * 1 + news.length) := by rw [hA2]
 rw [← hA2l] at hsh
 have hA1s : A1.size = cur.size := by
  rw [← Array.length_toList, hA1l, List.length_append, List.length_append, List.length_take, hdl, List.length_drop, hcl]
  omega
 have hcp1 : ∀ (W : World) ty dc sc, W.heap = w.heap → (Builtin.copy_ #[22, 22] ty #[.slice (some ⟨g, i * 1 + 1, none⟩) (n - i) dc, .slice (some ⟨g, i * 1, none⟩) (n + 1 - i) sc]).run Tryz.prog W = .ok (goInt (Nat.min (n + 1 - i) (n - i) : Nat)) (W.setRow g A1) := fun W ty dc sc hW => by
  rw [hA1]
  refine run_copy_rowS W 22 22 ty 3 1 g (i * 1 + 1) (n - i) dc ⟨g, i * 1, none⟩ (n + 1 - i) sc cur 3 (xs.drop (i * 1)) Tryz.underlying22 sizeSli (by rw [hW]; exact hg) ?_ (fun j u hu => ?_) ?_ (fun u hu => h1 u (List.mem_of_mem_drop hu))
  ·rw [hdl, show Nat.min (n + 1 - i) (n - i) = n - i from Nat.min_eq_right (by omega)]; omega
  ·rw [List.getElem?_drop] at hu
   have hj : i * 1 + j < n * 1 := by rw [← HXL.out]; exact (List.getElem?_eq_some_iff.1 hu).1
   rw [Addr.add_lit]
   have := (World.ownsRow.cellAt h _ hj).trans hu
   simpa [World.cell?, hW] using this
  ·rw [hdl, hcs]; omega
 have hcp2 : ∀ (W : World) ty dc, W.heap = (w.setRow g A1).heap → (Builtin.copy_ #[22, 22] ty #[.slice (some ⟨g, i * 1, none⟩) (n + 1 - i) dc, .slice (some ⟨s, 0, none⟩) 1 1]).run Tryz.prog W = .ok (goInt (Nat.min 1 (n + 1 - i) : Nat)) (W.setRow g A2) := fun W ty dc hW => by
  rw [hA2]
  refine run_copy_rowS W 22 22 ty 3 1 g (i * 1) (n + 1 - i) dc ⟨s, 0, none⟩ 1 1 A1 3 news Tryz.underlying22 sizeSli (by rw [hW]; exact setRow_heap w g cur A1 3 (0, 0) hg) ?_ (fun j u hu => ?_) ?_ h1n
  ·rw [hnl, show Nat.min 1 (n + 1 - i) = 1 from Nat.min_eq_left (by omega)]
  ·rw [Addr.add_lit, Nat.zero_add, cell_of_row W s j news.toArray 3 (0, 0) (by rw [hW, setRow_other w g s A1 hsg]; exact hs)]
   simpa using hu
  ·rw [hnl, hA1s, hcs]; omega
 have HF : Hid (∀ W : World, W.heap = ((w.setRow g A1).setRow g A2).heap → W.os = w.os → W.tape = w.tape → W.output = w.output → W.ownsRow B 3 1 (.slice (some ⟨g, 0, none⟩) (n + 1) cap) (n + 1) (xs.take (i * 1) ++ news ++ xs.drop (i * 1)) ∧ w.grownBy W (some g)) := fun W hW o1 o2 o3 => by
  have hgr : w.grownBy ((w.setRow g A1).setRow g A2) (some g) := grownS_row2 grownS_row
  refine ⟨owns_of_block (cur := A2) ?_ hBg hroom hcm ?_ ?_, ⟨o1, o2, o3, by rw [hW]; exact hgr.size, fun k hk hne => by rw [hW]; exact hgr.block k hk hne⟩⟩
  ·rw [hW]
   exact setRow_heap _ g A1 A2 3 (0, 0) (setRow_heap w g cur A1 3 (0, 0) hg)
  ·rw [← Array.length_toList, hsh.2, hcl]
  ·rw [show (n + 1) * 1 = i * 1 + (n * 1 - i * 1) + 1 by omega, hsh.1, ← htk, List.take_take, Nat.min_eq_left (by omega)]
 have hz2 : ¬ ((i : Int) = (n : Int)) := by omega
 have hz2b : ((i : Int) == (n : Int)) = false := by rw [beq_eq_false_iff_ne]; omega
 have hz3 : ¬ ((cap : Int) < (n : Int) + 1) := by omega
 have hw1 : IntKind.i64.wrap ((i : Int) + 1) = (i : Int) + 1 := by rw [IntKind.wrap_i64]; omega
 have hw2 : IntKind.i64.wrap ((n : Int) + 1) = (n : Int) + 1 := by rw [IntKind.wrap_i64]; omega
 have mixed : Tryz.prog.follows Departure.mixedOrders = true := by kernel_rfl
 have hq1 := fun ty dc sc => hcp1 w.drew ty dc sc rfl
 have hq2 := fun ty dc => hcp2 (w.drew.setRow g A1) ty dc rfl
 simp only [Nat.mul_one] at s1 s2 s3 s4 hov hq1 hq2
 clear hcp1 hcp2
 clear h hg hcs htk hcm hBg hs hsg hsv e2 e3 e4 ci cn hdrop hdl hcl hA1 hA2 hsh hA1l hA2l hA1s HXL h1 h1n hnl
 go_enter Tryz.func178, Tryz.ntmps178
 go_wp2_with (simp only [hov])
 go_region_law_o (refine step_copy_runI rfl _ _ 22 22 rfl _ _ (by simp [Act.eval, Act.put]) (by simp [Act.eval, Act.put]) (hq1 _ _ _) ?_)
 go_wp2_with (at_builtin; refine wpList_copy_runI _ rfl _ _ 22 22 rfl _ _ rfl rfl (hq2 _ _) ?_)
 go_ret
 exact ⟨rfl, HF.out _ rfl rfl rfl rfl⟩
set_option maxRecDepth 100000 in
set_option maxHeartbeats 8000000 in
theorem insi_grow (B g cap n i s : Nat) (xs news : List Value) (w : World) (hi : i < n) (hroom : cap < n + 1) (hn : n ≤ 2097152) (h1 : ∀ u ∈ xs, u.oneCell' = true) (hnl : news.length = 1) (h1n : ∀ u ∈ news, u.oneCell' = true) (hs : w.heap[s]? = some (.cells news.toArray 3 (0, 0))) (hB : B ≤ w.heap.size) (h : w.ownsRow B 3 1 (.slice (some ⟨g, 0, none⟩) n cap) n xs) :
  Calls Tryz.prog 178 #[.slice (some ⟨g, 0, none⟩) n cap, .int .i64 (i : Int), .slice (some ⟨s, 0, none⟩) 1 1] w fun e w' => ∃ G, e = .returned (.slice (some ⟨w.heap.size, 0, none⟩) (n + 1) G) ∧ w'.ownsRow B 3 1 (.slice (some ⟨w.heap.size, 0, none⟩) (n + 1) G) (n + 1) (xs.take (i * 1) ++ news ++ xs.drop (i * 1)) ∧ w.grownBy w' (some g) := by
 obtain ⟨i0, hi0, hz0, hz1, hz2⟩ := info_parts infoSli
 obtain ⟨cur, hg, hBg, hnc, hcm, hcs, htk⟩ := owns_block h
 have hcm2 : cap ≤ 9223372036854775807 := by unfold maxLen at hcm; omega
 have HXL : Hid (xs.length = n * 1) := h.1
 have ci : (((i + 1 : Nat)) : Int) = (i : Int) + 1 := by omega
 have hgw : g < w.heap.size := (Array.getElem?_eq_some_iff.1 hg).1
 have hsw : s < w.heap.size := (Array.getElem?_eq_some_iff.1 hs).1
 have hik : i + (n + 1 - i) = n + 1 := by omega
 have hkk : (n : Int) + 1 - (i : Int) = ((n + 1 - i : Nat) : Int) := by omega
 have htl : (xs.take (i * 1)).length = i * 1 := by rw [List.length_take, HXL.out]; omega
 have hdl : (xs.drop (i * 1)).length = n * 1 - i * 1 := by rw [List.length_drop, HXL.out]
 have hcell : ∀ j u, xs[j]? = some u → w.cell? ⟨g, j, none⟩ = some u := fun j u hu => by
  have hj : j < n * 1 := by rw [← HXL.out]; exact (List.getElem?_eq_some_iff.1 hu).1
  exact (World.ownsRow.cellAt h _ hj).trans hu
 have hold : (Builtin.firstCells i0.size i (.slice (some ⟨g, 0, none⟩) i cap)).run Tryz.prog w.drew = .ok (xs.take (i * 1)).toArray w.drew := by
  rw [hz1]
  refine run_firstCells_some w.drew 1 i ⟨g, 0, none⟩ i cap (xs.take (i * 1)) (by rw [htl]) (fun j u hu => ?_)
  rw [Addr.add_lit, Nat.zero_add]
  rw [List.getElem?_take] at hu
  split at hu
  ·exact hcell j u hu
  ·cases hu
 obtain ⟨G, hG⟩ : ∃ G, G = grownCap w (n + 1) cap 3 := ⟨_, rfl⟩
 obtain ⟨ROW, hROW⟩ : ∃ ROW : Array Value, ROW = (xs.take (i * 1)).toArray ++ Builtin.zeroCells (Value.cells (.int .i64 0)) (n + 1 - i) ++ Builtin.zeroCells (Value.cells (.int .i64 0)) (G - (n + 1)) := ⟨_, rfl⟩
 have hrz : ∀ ty, (Builtin.append_ #[22, 3] ty #[.slice (some ⟨g, 0, none⟩) i cap, .int .i64 ((n : Int) + 1 - (i : Int))]).run Tryz.prog w = .ok (.slice (some ⟨w.heap.size, 0, none⟩) (n + 1) G) (w.drew.alloc (.cells ROW 3)) := fun ty => by
  have hh := Lib.run_append_grow_zeros w 22 3 ty 3 i0 _ .i64 .i64 Tryz.underlying22 Tryz.underlying3 hi0 hz0 (some ⟨g, 0, none⟩) i cap (xs.take (i * 1)) hold (n + 1 - i) (by omega) (by omega) (by omega) (by omega) (by rw [hz2]; omega) (by rw [hz2, hik]; exact growslice_fits (by omega) (by omega))
  rw [hik] at hh
  rw [hkk, hROW, hG]
  exact hh
 have hGn : n + 1 ≤ G := by rw [hG]; exact grownCap_ge w _ _ _
 have hGm : G ≤ maxLen := by rw [hG]; exact grownCap_le_maxLen w (n + 1) cap 3 (by unfold maxLen; omega)
 have hG63 : G ≤ 9223372036854775807 := by unfold maxLen at hGm; omega
 have hzl : ∀ k, (Builtin.zeroCells (Value.cells (.int .i64 0)) k).size = k * 1 := fun k => by simp [Builtin.zeroCells, Value.cells]
 have hRs : ROW.size = G * 1 := by
  rw [hROW, Array.size_append, Array.size_append, hzl, hzl, List.size_toArray, htl]
  omega
 have hRt : ROW.toList.take (i * 1) = xs.take (i * 1) := by
  rw [hROW, Array.toList_append, Array.toList_append, List.append_assoc]
  exact List.take_left' htl
 have hRl : ROW.toList.length = G * 1 := by rw [Array.length_toList, hRs]
 have s1 := cutLi (some ⟨g, 0, none⟩) n cap i (by omega)
 have s2 := cutHi (some ⟨g, 0, none⟩) n cap i (by omega)
 have s3 := cutLi (some ⟨w.heap.size, 0, none⟩) (n + 1) G i (by omega)
 have s4 := cutLi (some ⟨w.heap.size, 0, none⟩) (n + 1) G (i + 1) (by omega)
 rw [ci] at s4
 have e1 : sliced (some ⟨g, 0, none⟩) i n cap 1 = .slice (some ⟨g, i * 1, none⟩) (n - i) (cap - i) := by
  unfold sliced
  rw [if_neg (by omega)]; simp [Addr.add_lit]
 have e2 : sliced (some ⟨g, 0, none⟩) 0 i cap 1 = .slice (some ⟨g, 0, none⟩) i cap := by
  unfold sliced
  rw [if_neg (by omega)]; simp [Addr.add_lit]
 have e3 : sliced (some ⟨w.heap.size, 0, none⟩) i (n + 1) G 1 = .slice (some ⟨w.heap.size, i * 1, none⟩) (n + 1 - i) (G - i) := by
  unfold sliced
  rw [if_neg (by omega)]; simp [Addr.add_lit]
 have e4 : sliced (some ⟨w.heap.size, 0, none⟩) (i + 1) (n + 1) G 1 = .slice (some ⟨w.heap.size, i * 1 + 1, none⟩) (n - i) (G - (i + 1)) := by
  unfold sliced
  rw [if_neg (by omega), show n + 1 - (i + 1) = n - i by omega, show (i + 1) * 1 = i * 1 + 1 by omega]; simp [Addr.add_lit]
 rw [e1] at s1
 rw [e2] at s2
 rw [e3] at s3
 rw [e4] at s4
 obtain ⟨A1, hA1⟩ : ∃ A1 : Array Value, A1 = (ROW.toList.take (i * 1) ++ news ++ ROW.toList.drop (i * 1 + news.length)).toArray := ⟨_, rfl⟩
 obtain ⟨A2, hA2⟩ : ∃ A2 : Array Value, A2 = (A1.toList.take (i * 1 + 1) ++ xs.drop (i * 1) ++ A1.toList.drop (i * 1 + 1 + (xs.drop (i * 1)).length)).toArray := ⟨_, rfl⟩
 have hsh := fill_list (R := ROW.toList) (xs1 := xs.take (i * 1)) (xs2 := xs.drop (i * 1)) (news := news) (a := i * 1) (b := n * 1 - i * 1) (c := 1) hRt (by omega) hdl hnl
 dsimp only at hsh
 have hA1l : A1.toList = ROW.toList.take (i * 1) ++ news ++ ROW.toList.drop (i * 1 + news.length) := by rw [hA1]
 rw [← hA1l] at hsh
 have hA2l : A2.toList = A1.toList.take (i * 1 + 1) ++ xs.drop (i * 1) ++ A1.toList.drop (i * 1 + 1 + (xs.drop (i * 1)).length) := by rw [hA2]
 rw [← hA2l] at hsh
 have hA1s : A1.size = G * 1 := by rw [← Array.length_toList, hsh.2.2, hRl]
 obtain ⟨H1, hH1⟩ : ∃ H1, H1 = (w.alloc (.cells ROW 3)).heap := ⟨_, rfl⟩
 have hHN : H1[w.heap.size]? = some (.cells ROW 3 (0, 0)) := by rw [hH1]; exact heap_alloc_new w _
 have hHo : ∀ k, k < w.heap.size → H1[k]? = w.heap[k]? := fun k hk => by rw [hH1]; first | exact heap_alloc_old w _ hk | exact heap_alloc_old w _ k hk
 have hcp1 : ∀ (W : World) ty dc, W.heap = H1 → (Builtin.copy_ #[22, 22] ty #[.slice (some ⟨w.heap.size, i * 1, none⟩) (n + 1 - i) dc, .slice (some ⟨s, 0, none⟩) 1 1]).run Tryz.prog W = .ok (goInt (Nat.min 1 (n + 1 - i) : Nat)) (W.setRow w.heap.size A1) := fun W ty dc hW => by
  rw [hA1]
  refine run_copy_rowS W 22 22 ty 3 1 w.heap.size (i * 1) (n + 1 - i) dc ⟨s, 0, none⟩ 1 1 ROW 3 news Tryz.underlying22 sizeSli (by rw [hW]; exact hHN) ?_ (fun j u hu => ?_) ?_ h1n
  ·rw [hnl, show Nat.min 1 (n + 1 - i) = 1 from Nat.min_eq_left (by omega)]
  ·rw [Addr.add_lit, Nat.zero_add, cell_of_row W s j news.toArray 3 (0, 0) (by rw [hW, hHo s hsw]; exact hs)]
   simpa using hu
  ·rw [hnl, hRs]; omega
 have hcp2 : ∀ (W : World) ty dc sc, (∃ W0 : World, W0.heap = H1 ∧ W.heap = (W0.setRow w.heap.size A1).heap) → (Builtin.copy_ #[22, 22] ty #[.slice (some ⟨w.heap.size, i * 1 + 1, none⟩) (n - i) dc, .slice (some ⟨g, i * 1, none⟩) (n - i) sc]).run Tryz.prog W = .ok (goInt (Nat.min (n - i) (n - i) : Nat)) (W.setRow w.heap.size A2) := fun W ty dc sc ⟨W0, hW0, hW⟩ => by
  rw [hA2]
  refine run_copy_rowS W 22 22 ty 3 1 w.heap.size (i * 1 + 1) (n - i) dc ⟨g, i * 1, none⟩ (n - i) sc A1 3 (xs.drop (i * 1)) Tryz.underlying22 sizeSli (by rw [hW]; exact setRow_heap W0 _ ROW A1 3 (0, 0) (by rw [hW0]; exact hHN)) ?_ (fun j u hu => ?_) ?_ (fun u hu => h1 u (List.mem_of_mem_drop hu))
  ·rw [hdl, show Nat.min (n - i) (n - i) = n - i from Nat.min_self _]; omega
  ·rw [List.getElem?_drop] at hu
   rw [Addr.add_lit]
   have hb : W.heap[g]? = w.heap[g]? := by rw [hW, setRow_other W0 w.heap.size g A1 (by omega), hW0, hHo g hgw]
   rw [World.cell?_of_block (w := w) (w' := W) (a := ⟨g, i * 1 + j, none⟩) hb]
   exact hcell _ u hu
  ·rw [hdl, hA1s]; omega
 have HF : Hid (∀ W : World, (∃ W0 W1 : World, W0.heap = H1 ∧ W1.heap = (W0.setRow w.heap.size A1).heap ∧ W.heap = (W1.setRow w.heap.size A2).heap) → W.os = w.os → W.tape = w.tape → W.output = w.output → W.ownsRow B 3 1 (.slice (some ⟨w.heap.size, 0, none⟩) (n + 1) G) (n + 1) (xs.take (i * 1) ++ news ++ xs.drop (i * 1)) ∧ w.grownBy W (some g)) := fun W ⟨W0, W1, q0, q1, q2⟩ o1 o2 o3 => by
  have hz0 : W0.heap.size = w.heap.size + 1 := by rw [q0, hH1]; simp
  refine ⟨owns_of_block (cur := A2) ?_ hB hGn hGm ?_ ?_, ⟨o1, o2, o3, ?_, fun k hk _ => ?_⟩⟩
  ·rw [q2]
   exact setRow_heap _ _ A1 A2 3 (0, 0) (by rw [q1]; exact setRow_heap W0 _ ROW A1 3 (0, 0) (by rw [q0]; exact hHN))
  ·rw [← Array.length_toList, hsh.2.1, hRl]
  ·rw [show (n + 1) * 1 = i * 1 + (n * 1 - i * 1) + 1 by omega, hsh.1]
  ·rw [q2, setRow_size, q1, setRow_size, hz0]; omega
  ·rw [q2, setRow_other W1 _ k A2 (by omega), q1, setRow_other W0 _ k A1 (by omega), q0, hHo k hk]
 have hq1 := fun ty dc => hcp1 (w.alloc (.cells ROW 3)).drew ty dc hH1.symm
 have hq2 := fun ty dc sc => hcp2 ((w.alloc (.cells ROW 3)).drew.setRow w.heap.size A1).drew ty dc sc ⟨(w.alloc (.cells ROW 3)).drew, hH1.symm, rfl⟩
 have HF2 : Hid ((((w.alloc (.cells ROW 3)).drew.setRow w.heap.size A1).drew.setRow w.heap.size A2).ownsRow B 3 1 (.slice (some ⟨w.heap.size, 0, none⟩) (n + 1) G) (n + 1) (xs.take (i * 1) ++ news ++ xs.drop (i * 1)) ∧ w.grownBy (((w.alloc (.cells ROW 3)).drew.setRow w.heap.size A1).drew.setRow w.heap.size A2) (some g)) := HF.out _ ⟨(w.alloc (.cells ROW 3)).drew, ((w.alloc (.cells ROW 3)).drew.setRow w.heap.size A1).drew, hH1.symm, rfl, rfl⟩ rfl rfl rfl
 have hz2' : ¬ ((i : Int) = (n : Int)) := by omega
 have hz2b : ((i : Int) == (n : Int)) = false := by rw [beq_eq_false_iff_ne]; omega
 have hz3 : (cap : Int) < (n : Int) + 1 := by omega
 have hw1 : IntKind.i64.wrap ((i : Int) + 1) = (i : Int) + 1 := by rw [IntKind.wrap_i64]; omega
 have hw2 : IntKind.i64.wrap ((n : Int) + 1) = (n : Int) + 1 := by rw [IntKind.wrap_i64]; omega
 have hw3 : IntKind.i64.wrap ((n : Int) + 1 - (i : Int)) = (n : Int) + 1 - (i : Int) := by rw [IntKind.wrap_i64]; omega
 have mixed : Tryz.prog.follows Departure.mixedOrders = true := by kernel_rfl
 simp only [Nat.mul_one] at s1 s2 s3 s4 hq1 hq2
 clear hcp1 hcp2 HF h hg hcs htk hcm hBg hs hgw hsw e1 e2 e3 e4 ci hdl htl hcell hold hROW hG hzl hRs hRt hRl hA1 hA2 hsh hA1l hA2l hA1s hH1 hHN hHo hik hkk HXL h1 h1n hnl hi0 hz0 hz1 hz2 hGm
 go_enter Tryz.func178, Tryz.ntmps178
 go_wp2_with (first | (at_builtin; refine Lib.wpList_append_run _ rfl _ _ _ _ rfl _ _ rfl rfl _ _ (hrz _) ?_) | (at_builtin; refine wpList_copy_runI _ rfl _ _ 22 22 rfl _ _ rfl rfl (hq1 _ _) ?_))
 go_region_law_o (refine step_copy_runI rfl _ _ 22 22 rfl _ _ (by simp [Act.eval, Act.put]) (by simp [Act.eval, Act.put]) (hq2 _ _ _) ?_)
 go_wp2
 go_ret
 exact ⟨_, rfl, HF2.out⟩
theorem insi_any (B : Nat) (v : Value) (n i s : Nat) (xs news : List Value) (w : World) (hi : i ≤ n) (hn : n ≤ 2097152) (h1 : ∀ u ∈ xs, u.oneCell' = true) (hnl : news.length = 1) (h1n : ∀ u ∈ news, u.oneCell' = true) (hs : w.heap[s]? = some (.cells news.toArray 3 (0, 0))) (hsg : ¬ v.ownBlock = some s) (hB : B ≤ w.heap.size) (h : w.ownsRow B 3 1 v n xs) :
  Calls Tryz.prog 178 #[v, .int .i64 (i : Int), .slice (some ⟨s, 0, none⟩) 1 1] w fun e w' => ∃ v', e = .returned v' ∧ w'.ownsRow B 3 1 v' (n + 1) (xs.take (i * 1) ++ news ++ xs.drop (i * 1)) ∧ w.grownBy w' v.ownBlock ∧ NewRow w v v' := by
 by_cases hin : i = n
 ·subst hin
  refine (insi_end B v i s xs news w hn hnl h1n hs hB h).mono ?_
  rintro e w' ⟨v', rfl, h2, h3, h4⟩
  refine ⟨v', rfl, ?_, h3, h4⟩
  rw [List.take_of_length_le (by rw [h.1]; exact Nat.le_refl _), List.drop_eq_nil_of_le (by rw [h.1]; exact Nat.le_refl _), List.append_nil]
  exact h2
 ·obtain ⟨g, cap, rfl⟩ : ∃ g cap, v = .slice (some ⟨g, 0, none⟩) n cap := by
   rcases h.2 with ⟨_, e⟩ | ⟨g, cap, cur, e, _⟩
   ·omega
   ·exact ⟨g, cap, e⟩
  have hsg' : s ≠ g := fun e => hsg (by rw [e]; rfl)
  by_cases hr : n + 1 ≤ cap
  ·refine (insi_room B g cap n i s xs news w (by omega) hr h1 hnl h1n hs hsg' h).mono ?_
   rintro e w' ⟨rfl, h2, h3⟩
   exact ⟨_, rfl, h2, h3, .inl rfl⟩
  ·refine (insi_grow B g cap n i s xs news w (by omega) (by omega) hn h1 hnl h1n hs hB h).mono ?_
   rintro e w' ⟨G, rfl, h2, h3⟩
   exact ⟨_, rfl, h2, h3, .inr (fun k hk => by simp [Value.ownBlock] at hk; omega)⟩
end Go.Proofs.YtnccenbkpocjgaaGreat
