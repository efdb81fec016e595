/- SlIe, PDu, HPl, PDb -/
import Derived.Test.YtnccenbkpocjgaaGreatExactHearG35
import Derived.Test.YtnccenbkpocjgaaGreatExactHearLPBs
import Derived.Test.YtnccenbkpocjgaaGreatExactHearG11
import Derived.Test.YtnccenbkpocjgaaGreatExactHearG15
import Derived.Test.YtnccenbkpocjgaaGreatExactHearG32
/- slices.Insert, of one. -/
namespace Go.Proofs.YtnccenbkpocjgaaGreat
open Go.RowKit
theorem src1e {w : World} {s : Nat} {news : List Value} (hs : w.heap[s]? = some (.cells news.toArray 55 (0, 0))) (hl : news.length = 7) : SrcC w (.slice (some ⟨s, 0, none⟩) 1 1) 7 1 news := by
 refine ⟨by omega, _, _, rfl, .inr ⟨s, 0, rfl, (Array.getElem?_eq_some_iff.1 hs).1, fun j hj => ?_⟩⟩
 rw [Nat.zero_add, cell_of_row w s j _ _ (0, 0) hs]
 simp
set_option maxRecDepth 100000 in
set_option maxHeartbeats 8000000 in
theorem inse_end (B : Nat) (v : Value) (n s : Nat) (xs news : List Value) (w : World) (hn : n ≤ 2097152) (hnl : news.length = 7) (h1n : ∀ u ∈ news, u.oneCell' = true) (hs : w.heap[s]? = some (.cells news.toArray 55 (0, 0))) (hB : B ≤ w.heap.size) (h : w.ownsRow B 55 7 v n xs) :
  Calls Tryz.prog 174 #[v, .int .i64 (n : Int), .slice (some ⟨s, 0, none⟩) 1 1] w fun e w' => ∃ v', e = .returned v' ∧ w'.ownsRow B 55 7 v' (n + 1) (xs ++ news) ∧ w.grownBy w' v.ownBlock ∧ NewRow w v v' := by
 obtain ⟨i0, hi0, hz0, hz1, hz2⟩ := info_parts infoSle
 have HO : Hid (w.ownsRow B 55 7 v n xs) := h
 have HS : Hid (SrcC w (.slice (some ⟨s, 0, none⟩) 1 1) 7 1 news) := src1e hs hnl
 obtain ⟨a, cap, rfl⟩ := owns_slice h
 have s1 := cutLe a n cap n (Nat.le_refl _)
 obtain ⟨sv, hsv⟩ : ∃ sv, sliced a n n cap 7 = sv := ⟨_, rfl⟩
 rw [hsv] at s1
 clear h hs hsv
 go_enter Tryz.func174, Tryz.ntmps174
 go_wp2_with (at_builtin; refine wpList_append_src _ rfl _ _ 31 rfl B 55 i0 (.agg #[.int .i64 0, .int .i64 0, .int .i64 0, .int .i64 0, .int .i64 0, .int .i64 0, .int .i64 0]) 7 56 Tryz.underlying31 hi0 hz0 hz1 hz2 rfl (by decide) (.slice a n cap) n xs rfl HO.out (.slice (some ⟨s, 0, none⟩) 1 1) 1 news rfl HS.out h1n (by unfold maxLen; omega) (by omega) hB ?_; intro v' w' hown hgrow hnew)
 go_ret
 exact ⟨_, rfl, hown, hgrow, hnew⟩
set_option maxRecDepth 100000 in
set_option maxHeartbeats 8000000 in
theorem inse_room (B g cap n i s : Nat) (xs news : List Value) (w : World) (hi : i < n) (hroom : n + 1 ≤ cap) (h1 : ∀ u ∈ xs, u.oneCell' = true) (hnl : news.length = 7) (h1n : ∀ u ∈ news, u.oneCell' = true) (hs : w.heap[s]? = some (.cells news.toArray 55 (0, 0))) (hsg : s ≠ g) (h : w.ownsRow B 55 7 (.slice (some ⟨g, 0, none⟩) n cap) n xs) :
  Calls Tryz.prog 174 #[.slice (some ⟨g, 0, none⟩) n cap, .int .i64 (i : Int), .slice (some ⟨s, 0, none⟩) 1 1] w fun e w' => e = .returned (.slice (some ⟨g, 0, none⟩) (n + 1) cap) ∧ w'.ownsRow B 55 7 (.slice (some ⟨g, 0, none⟩) (n + 1) cap) (n + 1) (xs.take (i * 7) ++ news ++ xs.drop (i * 7)) ∧ w.grownBy w' (some g) := by
 obtain ⟨cur, hg, hBg, hnc, hcm, hcs, htk⟩ := owns_block h
 have hcm2 : cap ≤ 9223372036854775807 := by unfold maxLen at hcm; omega
 have HXL : Hid (xs.length = n * 7) := h.1
 have ci : (((i + 1 : Nat)) : Int) = (i : Int) + 1 := by omega
 have cn : (((n + 1 : Nat)) : Int) = (n : Int) + 1 := by omega
 have s1 := cutLe (some ⟨g, 0, none⟩) n cap i (by omega)
 have s2 := cutHe (some ⟨g, 0, none⟩) n cap (n + 1) (by omega)
 have s3 := cutLe (some ⟨g, 0, none⟩) (n + 1) cap (i + 1) (by omega)
 have s4 := cutLe (some ⟨g, 0, none⟩) (n + 1) cap i (by omega)
 rw [cn] at s2
 rw [ci] at s3
 have e2 : sliced (some ⟨g, 0, none⟩) 0 (n + 1) cap 7 = .slice (some ⟨g, 0, none⟩) (n + 1) cap := by
  unfold sliced
  rw [if_neg (by omega)]; simp [Addr.add_lit]
 have e3 : sliced (some ⟨g, 0, none⟩) (i + 1) (n + 1) cap 7 = .slice (some ⟨g, i * 7 + 7, none⟩) (n - i) (cap - (i + 1)) := by
  unfold sliced
  rw [if_neg (by omega), show n + 1 - (i + 1) = n - i by omega, show (i + 1) * 7 = i * 7 + 7 by omega]; simp [Addr.add_lit]
 have e4 : sliced (some ⟨g, 0, none⟩) i (n + 1) cap 7 = .slice (some ⟨g, i * 7, none⟩) (n + 1 - i) (cap - i) := by
  unfold sliced
  rw [if_neg (by omega)]; simp [Addr.add_lit]
 obtain ⟨sv, hsv⟩ : ∃ sv, sliced (some ⟨g, 0, none⟩) i n cap 7 = sv := ⟨_, rfl⟩
 rw [hsv] at s1
 rw [e2] at s2
 rw [e3] at s3
 rw [e4] at s4
 have hdrop : xs.drop (i * 7) = (cur.toList.drop (i * 7)).take (n * 7 - i * 7) := by rw [← htk, List.drop_take]
 have hdl : (xs.drop (i * 7)).length = n * 7 - i * 7 := by rw [List.length_drop, HXL.out]
 have hcl : cur.toList.length = cap * 7 := by rw [Array.length_toList, hcs]
 have hov : ∀ lb cb, (callFunc 203 #[.slice (some ⟨s, 0, none⟩) 1 1, .slice (some ⟨g, i * 7 + 7, none⟩) lb cb]).run Tryz.prog w = .ok (.value (.bool false)) w := fun lb cb => by
  have hsa : w.shape? s = some (55, news.length) := by simp [World.shape?, hs]
  have hsb : w.shape? g = some (55, cur.size) := by simp [World.shape?, hg]
  rw [run_callFunc_extern Tryz.func203 (by kernel_rfl) (by kernel_rfl) (by kernel_rfl) (e := Extern.SlicesOverlaps.overlaps #[31, 31] #[4]) (by kernel_rfl),
   Lib.run_overlaps_apart w 31 4 55 Tryz.underlying31 7 (fun w => by kernel_rfl) ⟨s, 0, none⟩ ⟨g, i * 7 + 7, none⟩ 1 1 lb cb hsg 55 55 news.length cur.size hsa hsb (by rw [hcs]; omega) (by simp [World.frozen?, hs]) (by simp [World.frozen?, hs])]
  rfl
 obtain ⟨A1, hA1⟩ : ∃ A1 : Array Value, A1 = (cur.toList.take (i * 7 + 7) ++ xs.drop (i * 7) ++ cur.toList.drop (i * 7 + 7 + (xs.drop (i * 7)).length)).toArray := ⟨_, rfl⟩
 obtain ⟨A2, hA2⟩ : ∃ A2 : Array Value, A2 = (A1.toList.take (i * 7) ++ news ++ A1.toList.drop (i * 7 + news.length)).toArray := ⟨_, rfl⟩
 have hsh := shift_list (L := cur.toList) (news := news) (a := i * 7) (b := n * 7 - i * 7) (c := 7) (by omega) hnl
 rw [← hdrop] at hsh
 dsimp only at hsh
 have hA1l : A1.toList = cur.toList.take (i * 7 + 7) ++ xs.drop (i * 7) ++ cur.toList.drop (i * 7 + 7 + (xs.drop (i * 7)).length) := by rw [hA1]
 rw [← hA1l] at hsh
 have hA2l : A2.toList = A1.toList.take (i * 7) ++ news ++ A1.toList.drop (i * 7 + news.length) := by rw [hA2]
 rw [← hA2l] at hsh
 have hA1s : A1.size = cur.size := by
  rw [← Array.length_toList, hA1l, List.length_append, List.length_append, List.length_take, hdl, List.length_drop, hcl]
  omega
 have hcp1 : ∀ (W : World) ty dc sc, W.heap = w.heap → (Builtin.copy_ #[31, 31] ty #[.slice (some ⟨g, i * 7 + 7, none⟩) (n - i) dc, .slice (some ⟨g, i * 7, none⟩) (n + 1 - i) sc]).run Tryz.prog W = .ok (goInt (Nat.min (n + 1 - i) (n - i) : Nat)) (W.setRow g A1) := fun W ty dc sc hW => by
  rw [hA1]
  refine run_copy_rowS W 31 31 ty 55 7 g (i * 7 + 7) (n - i) dc ⟨g, i * 7, none⟩ (n + 1 - i) sc cur 55 (xs.drop (i * 7)) Tryz.underlying31 sizeSle (by rw [hW]; exact hg) ?_ (fun j u hu => ?_) ?_ (fun u hu => h1 u (List.mem_of_mem_drop hu))
  ·rw [hdl, show Nat.min (n + 1 - i) (n - i) = n - i from Nat.min_eq_right (by omega)]; omega
  ·rw [List.getElem?_drop] at hu
   have hj : i * 7 + j < n * 7 := by rw [← HXL.out]; exact (List.getElem?_eq_some_iff.1 hu).1
   rw [Addr.add_lit]
   have := (World.ownsRow.cellAt h _ hj).trans hu
   simpa [World.cell?, hW] using this
  ·rw [hdl, hcs]; omega
 have hcp2 : ∀ (W : World) ty dc, W.heap = (w.setRow g A1).heap → (Builtin.copy_ #[31, 31] ty #[.slice (some ⟨g, i * 7, none⟩) (n + 1 - i) dc, .slice (some ⟨s, 0, none⟩) 1 1]).run Tryz.prog W = .ok (goInt (Nat.min 1 (n + 1 - i) : Nat)) (W.setRow g A2) := fun W ty dc hW => by
  rw [hA2]
  refine run_copy_rowS W 31 31 ty 55 7 g (i * 7) (n + 1 - i) dc ⟨s, 0, none⟩ 1 1 A1 55 news Tryz.underlying31 sizeSle (by rw [hW]; exact setRow_heap w g cur A1 55 (0, 0) hg) ?_ (fun j u hu => ?_) ?_ h1n
  ·rw [hnl, show Nat.min 1 (n + 1 - i) = 1 from Nat.min_eq_left (by omega)]
  ·rw [Addr.add_lit, Nat.zero_add, cell_of_row W s j news.toArray 55 (0, 0) (by rw [hW, setRow_other w g s A1 hsg]; exact hs)]
   simpa using hu
  ·rw [hnl, hA1s, hcs]; omega
 have HF : Hid (∀ W : World, W.heap = ((w.setRow g A1).setRow g A2).heap → W.os = w.os → W.tape = w.tape → W.output = w.output → W.ownsRow B 55 7 (.slice (some ⟨g, 0, none⟩) (n + 1) cap) (n + 1) (xs.take (i * 7) ++ news ++ xs.drop (i * 7)) ∧ w.grownBy W (some g)) := fun W hW o1 o2 o3 => by
  have hgr : w.grownBy ((w.setRow g A1).setRow g A2) (some g) := grownS_row2 grownS_row
  refine ⟨owns_of_block (cur := A2) ?_ hBg hroom hcm ?_ ?_, ⟨o1, o2, o3, by rw [hW]; exact hgr.size, fun k hk hne => by rw [hW]; exact hgr.block k hk hne⟩⟩
  ·rw [hW]
   exact setRow_heap _ g A1 A2 55 (0, 0) (setRow_heap w g cur A1 55 (0, 0) hg)
  ·rw [← Array.length_toList, hsh.2, hcl]
  ·rw [show (n + 1) * 7 = i * 7 + (n * 7 - i * 7) + 7 by omega, hsh.1, ← htk, List.take_take, Nat.min_eq_left (by omega)]
 have hz2 : ¬ ((i : Int) = (n : Int)) := by omega
 have hz2b : ((i : Int) == (n : Int)) = false := by rw [beq_eq_false_iff_ne]; omega
 have hz3 : ¬ ((cap : Int) < (n : Int) + 1) := by omega
 have hw1 : IntKind.i64.wrap ((i : Int) + 1) = (i : Int) + 1 := by rw [IntKind.wrap_i64]; omega
 have hw2 : IntKind.i64.wrap ((n : Int) + 1) = (n : Int) + 1 := by rw [IntKind.wrap_i64]; omega
 have mixed : Tryz.prog.follows Departure.mixedOrders = true := by kernel_rfl
 have hq1 := fun ty dc sc => hcp1 w.drew ty dc sc rfl
 have hq2 := fun ty dc => hcp2 (w.drew.setRow g A1) ty dc rfl
 clear hcp1 hcp2
 clear h hg hcs htk hcm hBg hs hsg hsv e2 e3 e4 ci cn hdrop hdl hcl hA1 hA2 hsh hA1l hA2l hA1s HXL h1 h1n hnl
 go_enter Tryz.func174, Tryz.ntmps174
 go_wp2_with (simp only [hov])
 go_region_law_o (refine step_copy_runI rfl _ _ 31 31 rfl _ _ (by simp [Act.eval, Act.put]) (by simp [Act.eval, Act.put]) (hq1 _ _ _) ?_)
 go_wp2_with (at_builtin; refine wpList_copy_runI _ rfl _ _ 31 31 rfl _ _ rfl rfl (hq2 _ _) ?_)
 go_ret
 exact ⟨rfl, HF.out _ rfl rfl rfl rfl⟩
set_option maxRecDepth 100000 in
set_option maxHeartbeats 8000000 in
theorem inse_grow (B g cap n i s : Nat) (xs news : List Value) (w : World) (hi : i < n) (hroom : cap < n + 1) (hn : n ≤ 2097152) (h1 : ∀ u ∈ xs, u.oneCell' = true) (hnl : news.length = 7) (h1n : ∀ u ∈ news, u.oneCell' = true) (hs : w.heap[s]? = some (.cells news.toArray 55 (0, 0))) (hB : B ≤ w.heap.size) (h : w.ownsRow B 55 7 (.slice (some ⟨g, 0, none⟩) n cap) n xs) :
  Calls Tryz.prog 174 #[.slice (some ⟨g, 0, none⟩) n cap, .int .i64 (i : Int), .slice (some ⟨s, 0, none⟩) 1 1] w fun e w' => ∃ G, e = .returned (.slice (some ⟨w.heap.size, 0, none⟩) (n + 1) G) ∧ w'.ownsRow B 55 7 (.slice (some ⟨w.heap.size, 0, none⟩) (n + 1) G) (n + 1) (xs.take (i * 7) ++ news ++ xs.drop (i * 7)) ∧ w.grownBy w' (some g) := by
 obtain ⟨i0, hi0, hz0, hz1, hz2⟩ := info_parts infoSle
 obtain ⟨cur, hg, hBg, hnc, hcm, hcs, htk⟩ := owns_block h
 have hcm2 : cap ≤ 9223372036854775807 := by unfold maxLen at hcm; omega
 have HXL : Hid (xs.length = n * 7) := h.1
 have ci : (((i + 1 : Nat)) : Int) = (i : Int) + 1 := by omega
 have hgw : g < w.heap.size := (Array.getElem?_eq_some_iff.1 hg).1
 have hsw : s < w.heap.size := (Array.getElem?_eq_some_iff.1 hs).1
 have hik : i + (n + 1 - i) = n + 1 := by omega
 have hkk : (n : Int) + 1 - (i : Int) = ((n + 1 - i : Nat) : Int) := by omega
 have htl : (xs.take (i * 7)).length = i * 7 := by rw [List.length_take, HXL.out]; omega
 have hdl : (xs.drop (i * 7)).length = n * 7 - i * 7 := by rw [List.length_drop, HXL.out]
 have hcell : ∀ j u, xs[j]? = some u → w.cell? ⟨g, j, none⟩ = some u := fun j u hu => by
  have hj : j < n * 7 := by rw [← HXL.out]; exact (List.getElem?_eq_some_iff.1 hu).1
  exact (World.ownsRow.cellAt h _ hj).trans hu
 have hold : (Builtin.firstCells i0.size i (.slice (some ⟨g, 0, none⟩) i cap)).run Tryz.prog w.drew = .ok (xs.take (i * 7)).toArray w.drew := by
  rw [hz1]
  refine run_firstCells_some w.drew 7 i ⟨g, 0, none⟩ i cap (xs.take (i * 7)) (by rw [htl]) (fun j u hu => ?_)
  rw [Addr.add_lit, Nat.zero_add]
  rw [List.getElem?_take] at hu
  split at hu
  ·exact hcell j u hu
  ·cases hu
 obtain ⟨G, hG⟩ : ∃ G, G = grownCap w (n + 1) cap 55 := ⟨_, rfl⟩
 obtain ⟨ROW, hROW⟩ : ∃ ROW : Array Value, ROW = (xs.take (i * 7)).toArray ++ Builtin.zeroCells (Value.cells (.agg #[.int .i64 0, .int .i64 0, .int .i64 0, .int .i64 0, .int .i64 0, .int .i64 0, .int .i64 0])) (n + 1 - i) ++ Builtin.zeroCells (Value.cells (.agg #[.int .i64 0, .int .i64 0, .int .i64 0, .int .i64 0, .int .i64 0, .int .i64 0, .int .i64 0])) (G - (n + 1)) := ⟨_, rfl⟩
 have hrz : ∀ ty, (Builtin.append_ #[31, 3] ty #[.slice (some ⟨g, 0, none⟩) i cap, .int .i64 ((n : Int) + 1 - (i : Int))]).run Tryz.prog w = .ok (.slice (some ⟨w.heap.size, 0, none⟩) (n + 1) G) (w.drew.alloc (.cells ROW 55)) := fun ty => by
  have hh := Lib.run_append_grow_zeros w 31 3 ty 55 i0 _ .i64 .i64 Tryz.underlying31 Tryz.underlying3 hi0 hz0 (some ⟨g, 0, none⟩) i cap (xs.take (i * 7)) hold (n + 1 - i) (by omega) (by omega) (by omega) (by omega) (by rw [hz2]; omega) (by rw [hz2, hik]; exact growslice_fits (by omega) (by omega))
  rw [hik] at hh
  rw [hkk, hROW, hG]
  exact hh
 have hGn : n + 1 ≤ G := by rw [hG]; exact grownCap_ge w _ _ _
 have hGm : G ≤ maxLen := by rw [hG]; exact grownCap_le_maxLen w (n + 1) cap 55 (by unfold maxLen; omega)
 have hG63 : G ≤ 9223372036854775807 := by unfold maxLen at hGm; omega
 have hzl : ∀ k, (Builtin.zeroCells (Value.cells (.agg #[.int .i64 0, .int .i64 0, .int .i64 0, .int .i64 0, .int .i64 0, .int .i64 0, .int .i64 0])) k).size = k * 7 := fun k => by simp [Builtin.zeroCells, Value.cells]
 have hRs : ROW.size = G * 7 := by
  rw [hROW, Array.size_append, Array.size_append, hzl, hzl, List.size_toArray, htl]
  omega
 have hRt : ROW.toList.take (i * 7) = xs.take (i * 7) := by
  rw [hROW, Array.toList_append, Array.toList_append, List.append_assoc]
  exact List.take_left' htl
 have hRl : ROW.toList.length = G * 7 := by rw [Array.length_toList, hRs]
 have s1 := cutLe (some ⟨g, 0, none⟩) n cap i (by omega)
 have s2 := cutHe (some ⟨g, 0, none⟩) n cap i (by omega)
 have s3 := cutLe (some ⟨w.heap.size, 0, none⟩) (n + 1) G i (by omega)
 have s4 := cutLe (some ⟨w.heap.size, 0, none⟩) (n + 1) G (i + 1) (by omega)
 rw [ci] at s4
 have e1 : sliced (some ⟨g, 0, none⟩) i n cap 7 = .slice (some ⟨g, i * 7, none⟩) (n - i) (cap - i) := by
  unfold sliced
  rw [if_neg (by omega)]; simp [Addr.add_lit]
 have e2 : sliced (some ⟨g, 0, none⟩) 0 i cap 7 = .slice (some ⟨g, 0, none⟩) i cap := by
  unfold sliced
  rw [if_neg (by omega)]; simp [Addr.add_lit]
 have e3 : sliced (some ⟨w.heap.size, 0, none⟩) i (n + 1) G 7 = .slice (some ⟨w.heap.size, i * 7, none⟩) (n + 1 - i) (G - i) := by
  unfold sliced
  rw [if_neg (by omega)]; simp [Addr.add_lit]
 have e4 : sliced (some ⟨w.heap.size, 0, none⟩) (i + 1) (n + 1) G 7 = .slice (some ⟨w.heap.size, i * 7 + 7, none⟩) (n - i) (G - (i + 1)) := by
  unfold sliced
  rw [if_neg (by omega), show n + 1 - (i + 1) = n - i by omega, show (i + 1) * 7 = i * 7 + 7 by omega]; simp [Addr.add_lit]
 rw [e1] at s1
 rw [e2] at s2
 rw [e3] at s3
 rw [e4] at s4
 obtain ⟨A1, hA1⟩ : ∃ A1 : Array Value, A1 = (ROW.toList.take (i * 7) ++ news ++ ROW.toList.drop (i * 7 + news.length)).toArray := ⟨_, rfl⟩
 obtain ⟨A2, hA2⟩ : ∃ A2 : Array Value, A2 = (A1.toList.take (i * 7 + 7) ++ xs.drop (i * 7) ++ A1.toList.drop (i * 7 + 7 + (xs.drop (i * 7)).length)).toArray := ⟨_, rfl⟩
 have hsh := fill_list (R := ROW.toList) (xs1 := xs.take (i * 7)) (xs2 := xs.drop (i * 7)) (news := news) (a := i * 7) (b := n * 7 - i * 7) (c := 7) hRt (by omega) hdl hnl
 dsimp only at hsh
 have hA1l : A1.toList = ROW.toList.take (i * 7) ++ news ++ ROW.toList.drop (i * 7 + news.length) := by rw [hA1]
 rw [← hA1l] at hsh
 have hA2l : A2.toList = A1.toList.take (i * 7 + 7) ++ xs.drop (i * 7) ++ A1.toList.drop (i * 7 + 7 + (xs.drop (i * 7)).length) := by rw [hA2]
 rw [← hA2l] at hsh
 have hA1s : A1.size = G * 7 := by rw [← Array.length_toList, hsh.2.2, hRl]
 obtain ⟨H1, hH1⟩ : ∃ H1, H1 = (w.alloc (.cells ROW 55)).heap := ⟨_, rfl⟩
 have hHN : H1[w.heap.size]? = some (.cells ROW 55 (0, 0)) := by rw [hH1]; exact heap_alloc_new w _
 have hHo : ∀ k, k < w.heap.size → H1[k]? = w.heap[k]? := fun k hk => by rw [hH1]; first | exact heap_alloc_old w _ hk | exact heap_alloc_old w _ k hk
 have hcp1 : ∀ (W : World) ty dc, W.heap = H1 → (Builtin.copy_ #[31, 31] ty #[.slice (some ⟨w.heap.size, i * 7, none⟩) (n + 1 - i) dc, .slice (some ⟨s, 0, none⟩) 1 1]).run Tryz.prog W = .ok (goInt (Nat.min 1 (n + 1 - i) : Nat)) (W.setRow w.heap.size A1) := fun W ty dc hW => by
  rw [hA1]
  refine run_copy_rowS W 31 31 ty 55 7 w.heap.size (i * 7) (n + 1 - i) dc ⟨s, 0, none⟩ 1 1 ROW 55 news Tryz.underlying31 sizeSle (by rw [hW]; exact hHN) ?_ (fun j u hu => ?_) ?_ h1n
  ·rw [hnl, show Nat.min 1 (n + 1 - i) = 1 from Nat.min_eq_left (by omega)]
  ·rw [Addr.add_lit, Nat.zero_add, cell_of_row W s j news.toArray 55 (0, 0) (by rw [hW, hHo s hsw]; exact hs)]
   simpa using hu
  ·rw [hnl, hRs]; omega
 have hcp2 : ∀ (W : World) ty dc sc, (∃ W0 : World, W0.heap = H1 ∧ W.heap = (W0.setRow w.heap.size A1).heap) → (Builtin.copy_ #[31, 31] ty #[.slice (some ⟨w.heap.size, i * 7 + 7, none⟩) (n - i) dc, .slice (some ⟨g, i * 7, none⟩) (n - i) sc]).run Tryz.prog W = .ok (goInt (Nat.min (n - i) (n - i) : Nat)) (W.setRow w.heap.size A2) := fun W ty dc sc ⟨W0, hW0, hW⟩ => by
  rw [hA2]
  refine run_copy_rowS W 31 31 ty 55 7 w.heap.size (i * 7 + 7) (n - i) dc ⟨g, i * 7, none⟩ (n - i) sc A1 55 (xs.drop (i * 7)) Tryz.underlying31 sizeSle (by rw [hW]; exact setRow_heap W0 _ ROW A1 55 (0, 0) (by rw [hW0]; exact hHN)) ?_ (fun j u hu => ?_) ?_ (fun u hu => h1 u (List.mem_of_mem_drop hu))
  ·rw [hdl, show Nat.min (n - i) (n - i) = n - i from Nat.min_self _]; omega
  ·rw [List.getElem?_drop] at hu
   rw [Addr.add_lit]
   have hb : W.heap[g]? = w.heap[g]? := by rw [hW, setRow_other W0 w.heap.size g A1 (by omega), hW0, hHo g hgw]
   rw [World.cell?_of_block (w := w) (w' := W) (a := ⟨g, i * 7 + j, none⟩) hb]
   exact hcell _ u hu
  ·rw [hdl, hA1s]; omega
 have HF : Hid (∀ W : World, (∃ W0 W1 : World, W0.heap = H1 ∧ W1.heap = (W0.setRow w.heap.size A1).heap ∧ W.heap = (W1.setRow w.heap.size A2).heap) → W.os = w.os → W.tape = w.tape → W.output = w.output → W.ownsRow B 55 7 (.slice (some ⟨w.heap.size, 0, none⟩) (n + 1) G) (n + 1) (xs.take (i * 7) ++ news ++ xs.drop (i * 7)) ∧ w.grownBy W (some g)) := fun W ⟨W0, W1, q0, q1, q2⟩ o1 o2 o3 => by
  have hz0 : W0.heap.size = w.heap.size + 1 := by rw [q0, hH1]; simp
  refine ⟨owns_of_block (cur := A2) ?_ hB hGn hGm ?_ ?_, ⟨o1, o2, o3, ?_, fun k hk _ => ?_⟩⟩
  ·rw [q2]
   exact setRow_heap _ _ A1 A2 55 (0, 0) (by rw [q1]; exact setRow_heap W0 _ ROW A1 55 (0, 0) (by rw [q0]; exact hHN))
  ·rw [← Array.length_toList, hsh.2.1, hRl]
  ·rw [show (n + 1) * 7 = i * 7 + (n * 7 - i * 7) + 7 by omega, hsh.1]
  ·rw [q2, setRow_size, q1, setRow_size, hz0]; omega
  ·rw [q2, setRow_other W1 _ k A2 (by omega), q1, setRow_other W0 _ k A1 (by omega), q0, hHo k hk]
 have hq1 := fun ty dc => hcp1 (w.alloc (.cells ROW 55)).drew ty dc hH1.symm
 have hq2 := fun ty dc sc => hcp2 ((w.alloc (.cells ROW 55)).drew.setRow w.heap.size A1).drew ty dc sc ⟨(w.alloc (.cells ROW 55)).drew, hH1.symm, rfl⟩
 have HF2 : Hid ((((w.alloc (.cells ROW 55)).drew.setRow w.heap.size A1).drew.setRow w.heap.size A2).ownsRow B 55 7 (.slice (some ⟨w.heap.size, 0, none⟩) (n + 1) G) (n + 1) (xs.take (i * 7) ++ news ++ xs.drop (i * 7)) ∧ w.grownBy (((w.alloc (.cells ROW 55)).drew.setRow w.heap.size A1).drew.setRow w.heap.size A2) (some g)) := HF.out _ ⟨(w.alloc (.cells ROW 55)).drew, ((w.alloc (.cells ROW 55)).drew.setRow w.heap.size A1).drew, hH1.symm, rfl, rfl⟩ rfl rfl rfl
 have hz2' : ¬ ((i : Int) = (n : Int)) := by omega
 have hz2b : ((i : Int) == (n : Int)) = false := by rw [beq_eq_false_iff_ne]; omega
 have hz3 : (cap : Int) < (n : Int) + 1 := by omega
 have hw1 : IntKind.i64.wrap ((i : Int) + 1) = (i : Int) + 1 := by rw [IntKind.wrap_i64]; omega
 have hw2 : IntKind.i64.wrap ((n : Int) + 1) = (n : Int) + 1 := by rw [IntKind.wrap_i64]; omega
 have hw3 : IntKind.i64.wrap ((n : Int) + 1 - (i : Int)) = (n : Int) + 1 - (i : Int) := by rw [IntKind.wrap_i64]; omega
 have mixed : Tryz.prog.follows Departure.mixedOrders = true := by kernel_rfl
 clear hcp1 hcp2 HF h hg hcs htk hcm hBg hs hgw hsw e1 e2 e3 e4 ci hdl htl hcell hold hROW hG hzl hRs hRt hRl hA1 hA2 hsh hA1l hA2l hA1s hH1 hHN hHo hik hkk HXL h1 h1n hnl hi0 hz0 hz1 hz2 hGm
 go_enter Tryz.func174, Tryz.ntmps174
 go_wp2_with (first | (at_builtin; refine Lib.wpList_append_run _ rfl _ _ _ _ rfl _ _ rfl rfl _ _ (hrz _) ?_) | (at_builtin; refine wpList_copy_runI _ rfl _ _ 31 31 rfl _ _ rfl rfl (hq1 _ _) ?_))
 go_region_law_o (refine step_copy_runI rfl _ _ 31 31 rfl _ _ (by simp [Act.eval, Act.put]) (by simp [Act.eval, Act.put]) (hq2 _ _ _) ?_)
 go_wp2
 go_ret
 exact ⟨_, rfl, HF2.out⟩
theorem inse_any (B : Nat) (v : Value) (n i s : Nat) (xs news : List Value) (w : World) (hi : i ≤ n) (hn : n ≤ 2097152) (h1 : ∀ u ∈ xs, u.oneCell' = true) (hnl : news.length = 7) (h1n : ∀ u ∈ news, u.oneCell' = true) (hs : w.heap[s]? = some (.cells news.toArray 55 (0, 0))) (hsg : ¬ v.ownBlock = some s) (hB : B ≤ w.heap.size) (h : w.ownsRow B 55 7 v n xs) :
  Calls Tryz.prog 174 #[v, .int .i64 (i : Int), .slice (some ⟨s, 0, none⟩) 1 1] w fun e w' => ∃ v', e = .returned v' ∧ w'.ownsRow B 55 7 v' (n + 1) (xs.take (i * 7) ++ news ++ xs.drop (i * 7)) ∧ w.grownBy w' v.ownBlock ∧ NewRow w v v' := by
 by_cases hin : i = n
 ·subst hin
  refine (inse_end B v i s xs news w hn hnl h1n hs hB h).mono ?_
  rintro e w' ⟨v', rfl, h2, h3, h4⟩
  refine ⟨v', rfl, ?_, h3, h4⟩
  rw [List.take_of_length_le (by rw [h.1]; exact Nat.le_refl _), List.drop_eq_nil_of_le (by rw [h.1]; exact Nat.le_refl _), List.append_nil]
  exact h2
 ·obtain ⟨g, cap, rfl⟩ : ∃ g cap, v = .slice (some ⟨g, 0, none⟩) n cap := by
   rcases h.2 with ⟨_, e⟩ | ⟨g, cap, cur, e, _⟩
   ·omega
   ·exact ⟨g, cap, e⟩
  have hsg' : s ≠ g := fun e => hsg (by rw [e]; rfl)
  by_cases hr : n + 1 ≤ cap
  ·refine (inse_room B g cap n i s xs news w (by omega) hr h1 hnl h1n hs hsg' h).mono ?_
   rintro e w' ⟨rfl, h2, h3⟩
   exact ⟨_, rfl, h2, h3, .inl rfl⟩
  ·refine (inse_grow B g cap n i s xs news w (by omega) (by omega) hn h1 hnl h1n hs hB h).mono ?_
   rintro e w' ⟨G, rfl, h2, h3⟩
   exact ⟨_, rfl, h2, h3, .inr (fun k hk => by simp [Value.ownBlock] at hk; omega)⟩
end Go.Proofs.YtnccenbkpocjgaaGreat

/- An event is pushed; a state takes another one's place. -/
namespace Go.Proofs.YtnccenbkpocjgaaGreat
open Go.RowKit
theorem tzPDu {P : Program} {md : Region.Mode} {ops : Array Oper} {Q : Exit → Act → World → Prop} {S : World → Prop} {z fuel : Nat} {listed : Array Bool} {a : Act} {w : World} (i : Nat) (oi : Oper) (v : Value)
 (h : wpAnyZ P md ops Q S z fuel (listed.setIfInBounds i true) (a.put oi.dst v) w) (hi : ops[i]? = some oi := by rfl)
 (hs : Region.noSelect ops = true := by kernel_rfl) (hf : Region.free md ops listed i = true := by kernel_rfl) (hr : (Region.ready md ops listed).contains i = true := by kernel_rfl)
 (hc : chainB md ops i z [i] = true := by kernel_rfl) (hu : [i].all (fun p => !listed.getD p true) = true := by kernel_rfl)
 (hQ : ∀ c a w, Q (.panic c) (a.put oi.dst v) w → Q (.panic c) a w := by exact fun _ _ _ h => h)
 (hy : YieldsIf P ops S oi v a := by exact Or.inl ⟨by rfl, by (intro wX hSw; (try dsimp only at hSw); go_simp; (try exact IntWalk.i64_in _ (by omega)))⟩) (hS : S w := by assumption) : wpAnyZ P md ops Q S z (fuel + 1) listed a w :=
 wpAnyZ_take i [] hi hs hf hr hc hu hQ hy hS h
theorem hidPDu {p : Prop} (h : p) : Hid p := h
set_option maxRecDepth 100000 in
set_option maxHeartbeats 16000000 in
theorem push_any (B D : Nat) (v0 v1 v2 v3 v4 vt v6 v7 : Value) (l : List Ev) (e : Ev) (w : World) (hBw : B ≤ w.heap.size) (hl : l.length + 1 ≤ 1048577) (hB : Bk w D 157 #[v0, v1, v2, v3, v4, vt, v6, v7]) (ho : w.ownsRow B 55 7 vt l.length (cellsL l)) :
  Calls Tryz.prog 170 #[.pointer (some ⟨D, 5, none⟩), e.val] w fun r w' => (∃ u, r = .returned u) ∧ ∃ vt', Bk w' D 157 #[v0, v1, v2, v3, v4, vt', v6, v7] ∧ w'.ownsRow B 55 7 vt' (l ++ [e]).length (cellsL (l ++ [e])) ∧ NewRow w vt vt' ∧ Turns (fun k => k = D ∨ vt.ownBlock = some k) w w' := by
 obtain ⟨ie, hie, hie0, hie1, hie2⟩ := info_parts infoEvE
 obtain ⟨a5, c5, rfl⟩ := owns_slice ho
 obtain ⟨W0, hW0⟩ : ∃ V, w.alloc (.cells #[.int .i64 e.t, .int .i64 e.s, .int .i64 e.q, .int .i64 e.d, .int .i64 e.k, .int .i64 e.v, .int .i64 e.g] 55) = V := ⟨_, rfl⟩
 have hb0 : Below w.heap.size w W0 := hW0 ▸ (Below.refl _ w).alloc (Nat.le_refl _) _
 have HB0 := hidPDu hb0
 have HD := hidPDu (hB.below hb0)
 have HE : Hid (Bk W0 w.heap.size 55 #[.int .i64 e.t, .int .i64 e.s, .int .i64 e.q, .int .i64 e.d, .int .i64 e.k, .int .i64 e.v, .int .i64 e.g]) := hW0 ▸ Bk.new _ _ _
 have HO := hidPDu (owns_turns (S := fun _ => False) ho (Turns.of_below hb0) (fun _ _ => id))
 have HNE : Hid (¬ (Value.slice a5 l.length c5).ownBlock = some w.heap.size) := fun e1 => by have := owns_lt ho e1; omega
 have hs0 : w.heap.size < W0.heap.size := HE.out.lt
 have hBV : B ≤ W0.heap.size := by omega
 have HW0 := hidPDu hW0
 clear hb0 hW0 hB ho
 go_enter Tryz.func170, Tryz.ntmps170
 go_upto_region 1 with fail
 rw [HW0.out]
 clear HW0
 refine wp_region_z 10 (fun W => W.cell? ⟨D, 5, none⟩ = some (.slice a5 l.length c5) ∧ W.cell? ⟨w.heap.size, 0, none⟩ = some (.int .i64 e.t) ∧ W.cell? ⟨w.heap.size, 1, none⟩ = some (.int .i64 e.s) ∧ W.cell? ⟨w.heap.size, 2, none⟩ = some (.int .i64 e.q) ∧ W.cell? ⟨w.heap.size, 3, none⟩ = some (.int .i64 e.d) ∧ W.cell? ⟨w.heap.size, 4, none⟩ = some (.int .i64 e.k) ∧ W.cell? ⟨w.heap.size, 5, none⟩ = some (.int .i64 e.v) ∧ W.cell? ⟨w.heap.size, 6, none⟩ = some (.int .i64 e.g)) (by kernel_rfl) ⟨HD.out.drew.cell rfl, HE.out.drew.cell rfl, HE.out.drew.cell rfl, HE.out.drew.cell rfl, HE.out.drew.cell rfl, HE.out.drew.cell rfl, HE.out.drew.cell rfl, HE.out.drew.cell rfl⟩ (fun hHeld => ?_)
 refine tzPDu 0 { dst := some 4, op := Op.move (Operand.tmp 0), type := 212, pos := _, after := _, guard := none } (.pointer (some ⟨D, 5, none⟩)) ?_
 try simp only [Act.put, List.setIfInBounds_toArray, List.set_cons_zero, List.set_cons_succ]
 refine tzPDu 1 { dst := some 5, op := Op.move (Operand.tmp 0), type := 212, pos := _, after := _, guard := none } (.pointer (some ⟨D, 5, none⟩)) ?_
 try simp only [Act.put, List.setIfInBounds_toArray, List.set_cons_zero, List.set_cons_succ]
 refine tzPDu 2 { dst := some 6, op := Op.nilCheck (Operand.tmp 5), type := 0, pos := _, after := _, guard := none } (.pointer (some ⟨D, 5, none⟩)) ?_
 try simp only [Act.put, List.setIfInBounds_toArray, List.set_cons_zero, List.set_cons_succ]
 refine tzPDu 3 { dst := some 7, op := Op.fieldAddr 155 (Operand.tmp 6) 0, type := 0, pos := _, after := _, guard := none } (.pointer (some ⟨D, 5, none⟩)) ?_
 try simp only [Act.put, List.setIfInBounds_toArray, List.set_cons_zero, List.set_cons_succ]
 refine tzPDu 4 { dst := some 8, op := Op.load 31 (Operand.tmp 7), type := 31, pos := _, after := _, guard := none } (.slice a5 l.length c5) ?_
 try simp only [Act.put, List.setIfInBounds_toArray, List.set_cons_zero, List.set_cons_succ]
 refine tzPDu 5 { dst := some 9, op := Op.load 55 (Operand.tmp 3), type := 55, pos := _, after := _, guard := none } (.agg #[.int .i64 e.t, .int .i64 e.s, .int .i64 e.q, .int .i64 e.d, .int .i64 e.k, .int .i64 e.v, .int .i64 e.g]) ?_
 try simp only [Act.put, List.setIfInBounds_toArray, List.set_cons_zero, List.set_cons_succ]
 refine wpAnyZ_ready (rs := [6]) (by kernel_rfl) (by simp) ?_
 refine AllReadyZ.cons (o := { dst := some 10, op := Op.buildSlice 31 1 #[(0, Operand.tmp 9)], type := 31, pos := _, after := _, guard := none }) rfl (fun K hK => ?_) AllReadyZ.nil
 obtain ⟨g1, hg1⟩ : ∃ g, g = W0.heap.size := ⟨_, rfl⟩
 obtain ⟨V1, hV1⟩ : ∃ V, (W0.alloc (.cells #[.int .i64 e.t, .int .i64 e.s, .int .i64 e.q, .int .i64 e.d, .int .i64 e.k, .int .i64 e.v, .int .i64 e.g] 55)).drew = V := ⟨_, rfl⟩
 have HV1 := hidPDu hV1
 have HG1 : Hid (g1 = W0.heap.size) := hg1
 have hbV : Below W0.heap.size W0 V1 := hV1 ▸ ((Below.refl _ W0).alloc (Nat.le_refl _) _).drew
 have HBV := hidPDu hbV
 have HD1 := hidPDu (HD.out.below hbV)
 have HE1 := hidPDu (HE.out.below hbV)
 have HO1 := hidPDu (owns_turns (S := fun _ => False) HO.out (Turns.of_below hbV) (fun _ _ => id))
 have HN1 : Hid (Bk V1 g1 55 #[.int .i64 e.t, .int .i64 e.s, .int .i64 e.q, .int .i64 e.d, .int .i64 e.k, .int .i64 e.v, .int .i64 e.g]) := by (rw [← hV1, hg1]; exact (Bk.new W0 _ _).drew)
 clear hV1 hg1 hbV
 go_simp
 rw [HV1.out, ← HG1.out]
 refine hK.out _ _ ⟨HD1.out.cell rfl, HE1.out.cell rfl, HE1.out.cell rfl, HE1.out.cell rfl, HE1.out.cell rfl, HE1.out.cell rfl, HE1.out.cell rfl, HE1.out.cell rfl⟩ (fun hHeld => ?_)
 clear hK K
 try simp only [Act.put, List.setIfInBounds_toArray, List.set_cons_zero, List.set_cons_succ]
 refine wpAnyZ_ready (rs := [7]) (by kernel_rfl) (by simp) ?_
 refine AllReadyZ.cons (o := { dst := some 11, op := Op.call { callee := Callee.builtin Builtin.append, args := #[Operand.tmp 8, Operand.tmp 10], argTypes := #[31, 31] }, type := 31, pos := _, after := _, guard := none }) rfl (fun K hK => ?_) AllReadyZ.nil
 refine step_append_src (w := V1) rfl (.tmp 8) (.tmp 10) 31 rfl B 55 ie (.agg #[.int .i64 0, .int .i64 0, .int .i64 0, .int .i64 0, .int .i64 0, .int .i64 0, .int .i64 0]) 7 56 Tryz.underlying31 hie hie0 hie1 hie2 rfl (by decide) (.slice a5 l.length c5) l.length (cellsL l) rfl HO1.out (.slice (some ⟨g1, 0, none⟩) 1 1) 1 e.cs rfl HN1.out.one (Ev.cs_one e) (by unfold maxLen; omega) (by omega) (Nat.le_trans hBV HBV.out.size) ?_
 intro vn w3 hown hgrow hnew
 obtain ⟨an, cn, hvn⟩ := owns_slice hown
 subst hvn
 have hgt := grown_turns hgrow
 have HD3 := hidPDu (HD1.out.turns hgt (owns_ne HO1.out HD1.out (by decide)))
 have HE3 := hidPDu (HE1.out.turns hgt (HNE.out))
 have HO3 := hidPDu hown
 have HT3 := hidPDu hgt
 have HNR := hidPDu hnew
 clear hown hgrow hnew hgt
 refine hK.out _ _ ⟨HD3.out.cell rfl, HE3.out.cell rfl, HE3.out.cell rfl, HE3.out.cell rfl, HE3.out.cell rfl, HE3.out.cell rfl, HE3.out.cell rfl, HE3.out.cell rfl⟩ (fun hHeld => ?_)
 clear hK K
 try simp only [Act.put, List.setIfInBounds_toArray, List.set_cons_zero, List.set_cons_succ]
 refine wpAnyZ_take (i := 8) (oi := { dst := some 12, op := Op.nilCheck (Operand.tmp 4), type := 0, pos := _, after := _, guard := none }) (v := .pointer (some ⟨D, 5, none⟩)) 9 [8] rfl (by kernel_rfl) (by kernel_rfl) (by kernel_rfl) (by kernel_rfl) (by kernel_rfl) (fun _ _ _ h => h) (Or.inl ⟨by rfl, ?_⟩) (by assumption) ?_
 ·intro wX hSw
  try dsimp only at hSw
  go_simp
  try exact IntWalk.i64_in _ (by omega)
 try simp only [Act.put, List.setIfInBounds_toArray, List.set_cons_zero, List.set_cons_succ]
 refine tzPDu 9 { dst := some 13, op := Op.fieldAddr 155 (Operand.tmp 12) 0, type := 0, pos := _, after := _, guard := none } (.pointer (some ⟨D, 5, none⟩)) ?_
 try simp only [Act.put, List.setIfInBounds_toArray, List.set_cons_zero, List.set_cons_succ]
 refine wpAnyZ_ready (rs := [10]) (by kernel_rfl) (by simp) ?_
 refine AllReadyZ.last (o := { dst := none, op := Op.store 31 (Operand.tmp 13) (Operand.tmp 11), type := 0, pos := _, after := _, guard := none }) rfl (fun K hK => ?_)
 have q5 := HD3.out.cell (i := 5) rfl
 have qf := HD3.out.free
 obtain ⟨X5, hX5⟩ : ∃ X5, w3.setCell ⟨D, 5, none⟩ (.slice an (l.length + 1) cn) = X5 := ⟨_, rfl⟩
 have hP := HD3.out.put 5 (.slice an (l.length + 1) cn)
 have ht := put1_turns w3 D 5 (.slice an (l.length + 1) cn)
 rw [hX5] at hP ht
 have HX5 : Hid _ := hX5
 have HD5 := hidPDu hP
 have HT5 := hidPDu ht
 clear hX5 hP ht
 go_simp
 clear q5 qf
 rw [HX5.out]
 refine hK.out _ _ ?_
 clear hK K
 try simp only [Act.put, List.setIfInBounds_toArray, List.set_cons_zero, List.set_cons_succ]
 refine wpAnyZ_done (by kernel_rfl) ?_ _
 clear hHeld
 go_wp2
 go_end0
 have hT : Turns (fun k => k = D ∨ (Value.slice a5 l.length c5).ownBlock = some k) w X5 := (((Turns.of_below HB0.out).trans (Turns.of_below HBV.out)).trans (HT3.out.mono (fun k e1 => .inr e1))).trans (HT5.out.mono (fun k e1 => .inl e1))
 have hOx := ownR_snoc (owns_turns HO3.out HT5.out (fun k hk e1 => owns_ne HO3.out HD3.out (by decide) (e1 ▸ hk)))
 refine ⟨⟨_, rfl⟩, _, HD5.out, hOx, ?_, hT⟩
 rcases HNR.out with h9 | h9
 ·exact .inl h9
 ·exact .inr (fun k hk => by have := h9 k hk; have := HBV.out.size; have := HB0.out.size; omega)
set_option maxRecDepth 100000 in
set_option maxHeartbeats 4000000 in
theorem become_any (D : Nat) (v0 v1 v2 v3 v4 v5 v6 v7 : Value) (a1 : Option Addr) (n1 c1 : Nat) (sq sd : Int) (w : World) (hB : Bk w D 157 #[v0, v1, v2, v3, v4, v5, v6, v7]) :
  Calls Tryz.prog 140 #[.pointer (some ⟨D, 0, none⟩), .agg #[.slice a1 n1 c1, .int .i64 sq, .int .i64 sd]] w fun r w' => (∃ u, r = .returned u) ∧ Bk w' D 157 #[.slice a1 n1 c1, .int .i64 sq, .int .i64 sd, v3, v4, v5, v6, v7] ∧ Turns (fun k => k = D) w w' := by
 obtain ⟨W0, hW0⟩ : ∃ V, w.alloc (.cells #[.slice a1 n1 c1, .int .i64 sq, .int .i64 sd] 29) = V := ⟨_, rfl⟩
 have hb0 : Below w.heap.size w W0 := hW0 ▸ (Below.refl _ w).alloc (Nat.le_refl _) _
 have HB0 := hidPDu hb0
 have HD := hidPDu (hB.below hb0)
 have HE : Hid (Bk W0 w.heap.size 29 #[.slice a1 n1 c1, .int .i64 sq, .int .i64 sd]) := hW0 ▸ Bk.new _ _ _
 have HW0 := hidPDu hW0
 have x0 := HE.out.cell (i := 0) rfl
 have x1 := HE.out.cell (i := 1) rfl
 have x2 := HE.out.cell (i := 2) rfl
 have y0 := HD.out.cell (i := 0) rfl
 have y1 := HD.out.cell (i := 1) rfl
 have y2 := HD.out.cell (i := 2) rfl
 have yf := HD.out.free
 obtain ⟨X5, hX5⟩ : ∃ X5, ((W0.setCell ⟨D, 0, none⟩ (.slice a1 n1 c1)).setCell ⟨D, 1, none⟩ (.int .i64 sq)).setCell ⟨D, 2, none⟩ (.int .i64 sd) = X5 := ⟨_, rfl⟩
 have hP := ((HD.out.put 0 (.slice a1 n1 c1)).put 1 (.int .i64 sq)).put 2 (.int .i64 sd)
 have ht := ((put1_turns W0 D 0 (.slice a1 n1 c1)).trans (put1_turns _ D 1 (.int .i64 sq))).trans (put1_turns _ D 2 (.int .i64 sd))
 rw [hX5] at hP ht
 have HX5 : Hid _ := hX5
 have HD5 := hidPDu hP
 have HT5 := hidPDu ht
 clear hX5 hP ht hb0 hW0 hB
 go_enter Tryz.func140, Tryz.ntmps140
 go_upto_region 1 with fail
 rw [HW0.out]
 clear HW0
 go_wp2
 try rw [HX5.out]
 go_end0
 exact ⟨⟨_, rfl⟩, HD5.out, (Turns.of_below HB0.out).trans HT5.out⟩
end Go.Proofs.YtnccenbkpocjgaaGreat

/- A doer: an event is put in its place among those that are to be done. -/
namespace Go.Proofs.YtnccenbkpocjgaaGreat
open Go.RowKit
theorem tzHPl {P : Program} {md : Region.Mode} {ops : Array Oper} {Q : Exit → Act → World → Prop} {S : World → Prop} {z fuel : Nat} {listed : Array Bool} {a : Act} {w : World} (i : Nat) (oi : Oper) (v : Value)
 (h : wpAnyZ P md ops Q S z fuel (listed.setIfInBounds i true) (a.put oi.dst v) w) (hi : ops[i]? = some oi := by rfl)
 (hs : Region.noSelect ops = true := by kernel_rfl) (hf : Region.free md ops listed i = true := by kernel_rfl) (hr : (Region.ready md ops listed).contains i = true := by kernel_rfl)
 (hc : chainB md ops i z [i] = true := by kernel_rfl) (hu : [i].all (fun p => !listed.getD p true) = true := by kernel_rfl)
 (hQ : ∀ c a w, Q (.panic c) (a.put oi.dst v) w → Q (.panic c) a w := by exact fun _ _ _ h => h)
 (hy : YieldsIf P ops S oi v a := by exact Or.inl ⟨by rfl, by (intro wX hSw; (try dsimp only at hSw); go_simp; (try exact IntWalk.i64_in _ (by omega)))⟩) (hS : S w := by assumption) : wpAnyZ P md ops Q S z (fuel + 1) listed a w :=
 wpAnyZ_take i [] hi hs hf hr hc hu hQ hy hS h
theorem thHPl {P : Program} {md : Region.Mode} {ops : Array Oper} {Q : Exit → Act → World → Prop} {S : World → Prop} {fuel : Nat} {listed : Array Bool} {a : Act} {w : World} (i : Nat) (oi : Oper) (v : Value)
 (h : wpAnyH P md ops Q S fuel (listed.setIfInBounds i true) (a.put oi.dst v) w) (hi : ops[i]? = some oi := by rfl)
 (hs : Region.noSelect ops = true := by kernel_rfl) (hf : Region.free md ops listed i = true := by kernel_rfl) (hr : (Region.ready md ops listed).contains i = true := by kernel_rfl)
 (hQ : ∀ c a w, Q (.panic c) (a.put oi.dst v) w → Q (.panic c) a w := by exact fun _ _ _ h => h)
 (hy : YieldsIf P ops S oi v a := by exact Or.inl ⟨by rfl, by (intro wX hSw; (try dsimp only at hSw); go_simp; (try exact IntWalk.i64_in _ (by omega)))⟩) (hS : S w := by assumption) : wpAnyH P md ops Q S (fuel + 1) listed a w :=
 wpAnyH_take hi hs hf hr hQ hy hS h
theorem hidHPl {p : Prop} (h : p) : Hid p := h
set_option maxRecDepth 100000 in
set_option maxHeartbeats 16000000 in
theorem plan_row (B D : Nat) (v0 v1 v2 v3 v4 vt v6 v7 : Value) (l : List Ev) (e : Ev) (w : World) (hBw : B ≤ w.heap.size) (hl : l.length + 1 ≤ 1048577) (hB : Bk w D 157 #[v0, v1, v2, v3, v4, vt, v6, v7]) (ho : w.ownsRow B 55 7 vt l.length (cellsL l)) :
  Calls Tryz.prog 122 #[.pointer (some ⟨D, 0, none⟩), e.val] w fun r w' => (∃ u, r = .returned u) ∧ ∃ vt' i, FoundE l e i ∧ Bk w' D 157 #[v0, v1, v2, v3, v4, vt', v6, v7] ∧ w'.ownsRow B 55 7 vt' (l.length + 1) ((cellsL l).take (i * 7) ++ e.cs ++ (cellsL l).drop (i * 7)) ∧ NewRow w vt vt' ∧ Turns (fun k => k = D ∨ vt.ownBlock = some k) w w' := by
 obtain ⟨a5, c5, rfl⟩ := owns_slice ho
 obtain ⟨W0, hW0⟩ : ∃ V, w.alloc (.cells #[.int .i64 e.t, .int .i64 e.s, .int .i64 e.q, .int .i64 e.d, .int .i64 e.k, .int .i64 e.v, .int .i64 e.g] 55) = V := ⟨_, rfl⟩
 have hb0 : Below w.heap.size w W0 := hW0 ▸ (Below.refl _ w).alloc (Nat.le_refl _) _
 have HB0 : Hid (Below w.heap.size w W0) := hb0
 have HD := hidHPl (hB.below hb0)
 have HE : Hid (Bk W0 w.heap.size 55 #[.int .i64 e.t, .int .i64 e.s, .int .i64 e.q, .int .i64 e.d, .int .i64 e.k, .int .i64 e.v, .int .i64 e.g]) := hW0 ▸ Bk.new _ _ _
 have HO := hidHPl (owns_turns (S := fun _ => False) ho (Turns.of_below hb0) (fun _ _ => id))
 have HI := hidHPl (((RowF.of_owns (cellsL_length l) HO.out).own.isD).isEvs)
 have HNE : Hid (¬ (Value.slice a5 l.length c5).ownBlock = some w.heap.size) := fun e1 => by have := owns_lt ho e1; omega
 have hs0 : w.heap.size < W0.heap.size := HE.out.lt
 have hBV : B ≤ W0.heap.size := by omega
 have HW0 := hidHPl hW0
 clear hb0 hW0 hB ho
 go_enter Tryz.func122, Tryz.ntmps122
 go_upto_region 1 with fail
 rw [HW0.out]
 clear HW0
 refine wp_region_held_drew (S := fun W => W.cell? ⟨D, 5, none⟩ = some (.slice a5 l.length c5) ∧ W.cell? ⟨w.heap.size, 0, none⟩ = some (.int .i64 e.t) ∧ W.cell? ⟨w.heap.size, 1, none⟩ = some (.int .i64 e.s) ∧ W.cell? ⟨w.heap.size, 2, none⟩ = some (.int .i64 e.q) ∧ W.cell? ⟨w.heap.size, 3, none⟩ = some (.int .i64 e.d) ∧ W.cell? ⟨w.heap.size, 4, none⟩ = some (.int .i64 e.k) ∧ W.cell? ⟨w.heap.size, 5, none⟩ = some (.int .i64 e.v) ∧ W.cell? ⟨w.heap.size, 6, none⟩ = some (.int .i64 e.g)) (by kernel_rfl) ⟨HD.out.drew.cell rfl, HE.out.drew.cell rfl, HE.out.drew.cell rfl, HE.out.drew.cell rfl, HE.out.drew.cell rfl, HE.out.drew.cell rfl, HE.out.drew.cell rfl, HE.out.drew.cell rfl⟩ (fun hHeld => ?_)
 refine thHPl 0 { dst := some 7, op := Op.move (Operand.tmp 0), type := 98, pos := _, after := _, guard := none } (.pointer (some ⟨D, 0, none⟩)) ?_
 try simp only [Act.put, List.setIfInBounds_toArray, List.set_cons_zero, List.set_cons_succ]
 refine thHPl 1 { dst := some 8, op := Op.nilCheck (Operand.tmp 7), type := 0, pos := _, after := _, guard := none } (.pointer (some ⟨D, 0, none⟩)) ?_
 try simp only [Act.put, List.setIfInBounds_toArray, List.set_cons_zero, List.set_cons_succ]
 refine thHPl 2 { dst := some 9, op := Op.fieldAddr 157 (Operand.tmp 8) 3, type := 0, pos := _, after := _, guard := none } (.pointer (some ⟨D, 5, none⟩)) ?_
 try simp only [Act.put, List.setIfInBounds_toArray, List.set_cons_zero, List.set_cons_succ]
 refine thHPl 3 { dst := some 10, op := Op.fieldAddr 155 (Operand.tmp 9) 0, type := 0, pos := _, after := _, guard := none } (.pointer (some ⟨D, 5, none⟩)) ?_
 try simp only [Act.put, List.setIfInBounds_toArray, List.set_cons_zero, List.set_cons_succ]
 refine thHPl 4 { dst := some 11, op := Op.load 31 (Operand.tmp 10), type := 31, pos := _, after := _, guard := none } (.slice a5 l.length c5) ?_
 try simp only [Act.put, List.setIfInBounds_toArray, List.set_cons_zero, List.set_cons_succ]
 refine thHPl 5 { dst := some 12, op := Op.load 55 (Operand.tmp 3), type := 55, pos := _, after := _, guard := none } (.agg #[.int .i64 e.t, .int .i64 e.s, .int .i64 e.q, .int .i64 e.d, .int .i64 e.k, .int .i64 e.v, .int .i64 e.g]) ?_
 try simp only [Act.put, List.setIfInBounds_toArray, List.set_cons_zero, List.set_cons_succ]
 refine wpAnyH_ready (rs := [6]) (by kernel_rfl) (by simp) ?_
 refine AllReadyH.cons (o := { dst := some 13, op := Op.call { callee := Callee.value (Operand.func 172), args := #[Operand.tmp 11, Operand.tmp 12, Operand.func 173], argTypes := #[31, 55, 79] }, type := 182, pos := _, after := _, guard := none }) rfl (fun K hK => ?_) AllReadyH.nil
 go_simp
 go_at_call 172
 refine (searchE_any a5 c5 l e W0.drew (by omega) (HI.out.below ((Below.refl _ W0).drew))).mono ?_
 rintro r w2 ⟨⟨i, f, rfl, hF⟩, hb2⟩
 have HF : Hid (FoundE l e i) := hF
 have HB2 : Hid (Below W0.heap.size W0 w2) := (Below.refl _ W0).drew.trans hb2
 have HD2 := hidHPl (HD.out.drew.below hb2)
 have HE2 := hidHPl (HE.out.drew.below hb2)
 clear hF hb2
 refine hK.out _ _ ⟨HD2.out.cell rfl, HE2.out.cell rfl, HE2.out.cell rfl, HE2.out.cell rfl, HE2.out.cell rfl, HE2.out.cell rfl, HE2.out.cell rfl, HE2.out.cell rfl⟩ (fun hHeld => ?_)
 clear hK K
 try simp only [Act.put, List.setIfInBounds_toArray, List.set_cons_zero, List.set_cons_succ]
 refine thHPl 7 { dst := some 6, op := Op.move (Operand.tmp 13), type := 182, pos := _, after := _, guard := none } (.tuple #[.int .i64 (i : Int), .bool f]) ?_
 try simp only [Act.put, List.setIfInBounds_toArray, List.set_cons_zero, List.set_cons_succ]
 refine thHPl 8 { dst := some 14, op := Op.extract (Operand.tmp 6) 0, type := 3, pos := _, after := _, guard := none } (.int .i64 (i : Int)) ?_
 try simp only [Act.put, List.setIfInBounds_toArray, List.set_cons_zero, List.set_cons_succ]
 refine thHPl 9 { dst := some 15, op := Op.extract (Operand.tmp 6) 1, type := 4, pos := _, after := _, guard := none } (.bool f) ?_
 try simp only [Act.put, List.setIfInBounds_toArray, List.set_cons_zero, List.set_cons_succ]
 refine thHPl 10 { dst := some 4, op := Op.assign (Operand.tmp 14), type := 3, pos := _, after := _, guard := none } (.int .i64 (i : Int)) ?_
 try simp only [Act.put, List.setIfInBounds_toArray, List.set_cons_zero, List.set_cons_succ]
 refine thHPl 11 { dst := some 5, op := Op.assign (Operand.tmp 15), type := 4, pos := _, after := _, guard := none } (.bool f) ?_
 try simp only [Act.put, List.setIfInBounds_toArray, List.set_cons_zero, List.set_cons_succ]
 refine wpAnyH_done (by kernel_rfl) ?_ _
 clear hHeld
 go_upto_region 2 with fail
 refine wp_region_z 13 (fun W => W.cell? ⟨D, 5, none⟩ = some (.slice a5 l.length c5) ∧ W.cell? ⟨w.heap.size, 0, none⟩ = some (.int .i64 e.t) ∧ W.cell? ⟨w.heap.size, 1, none⟩ = some (.int .i64 e.s) ∧ W.cell? ⟨w.heap.size, 2, none⟩ = some (.int .i64 e.q) ∧ W.cell? ⟨w.heap.size, 3, none⟩ = some (.int .i64 e.d) ∧ W.cell? ⟨w.heap.size, 4, none⟩ = some (.int .i64 e.k) ∧ W.cell? ⟨w.heap.size, 5, none⟩ = some (.int .i64 e.v) ∧ W.cell? ⟨w.heap.size, 6, none⟩ = some (.int .i64 e.g)) (by kernel_rfl) ⟨HD2.out.drew.cell rfl, HE2.out.drew.cell rfl, HE2.out.drew.cell rfl, HE2.out.drew.cell rfl, HE2.out.drew.cell rfl, HE2.out.drew.cell rfl, HE2.out.drew.cell rfl, HE2.out.drew.cell rfl⟩ (fun hHeld => ?_)
 refine tzHPl 0 { dst := some 16, op := Op.move (Operand.tmp 0), type := 98, pos := _, after := _, guard := none } (.pointer (some ⟨D, 0, none⟩)) ?_
 try simp only [Act.put, List.setIfInBounds_toArray, List.set_cons_zero, List.set_cons_succ]
 refine tzHPl 1 { dst := some 17, op := Op.move (Operand.tmp 0), type := 98, pos := _, after := _, guard := none } (.pointer (some ⟨D, 0, none⟩)) ?_
 try simp only [Act.put, List.setIfInBounds_toArray, List.set_cons_zero, List.set_cons_succ]
 refine tzHPl 2 { dst := some 18, op := Op.nilCheck (Operand.tmp 17), type := 0, pos := _, after := _, guard := none } (.pointer (some ⟨D, 0, none⟩)) ?_
 try simp only [Act.put, List.setIfInBounds_toArray, List.set_cons_zero, List.set_cons_succ]
 refine tzHPl 3 { dst := some 19, op := Op.fieldAddr 157 (Operand.tmp 18) 3, type := 0, pos := _, after := _, guard := none } (.pointer (some ⟨D, 5, none⟩)) ?_
 try simp only [Act.put, List.setIfInBounds_toArray, List.set_cons_zero, List.set_cons_succ]
 refine tzHPl 4 { dst := some 20, op := Op.fieldAddr 155 (Operand.tmp 19) 0, type := 0, pos := _, after := _, guard := none } (.pointer (some ⟨D, 5, none⟩)) ?_
 try simp only [Act.put, List.setIfInBounds_toArray, List.set_cons_zero, List.set_cons_succ]
 refine tzHPl 5 { dst := some 21, op := Op.load 31 (Operand.tmp 20), type := 31, pos := _, after := _, guard := none } (.slice a5 l.length c5) ?_
 try simp only [Act.put, List.setIfInBounds_toArray, List.set_cons_zero, List.set_cons_succ]
 refine tzHPl 6 { dst := some 22, op := Op.move (Operand.tmp 4), type := 3, pos := _, after := _, guard := none } (.int .i64 (i : Int)) ?_
 try simp only [Act.put, List.setIfInBounds_toArray, List.set_cons_zero, List.set_cons_succ]
 refine tzHPl 7 { dst := some 23, op := Op.load 55 (Operand.tmp 3), type := 55, pos := _, after := _, guard := none } (.agg #[.int .i64 e.t, .int .i64 e.s, .int .i64 e.q, .int .i64 e.d, .int .i64 e.k, .int .i64 e.v, .int .i64 e.g]) ?_
 try simp only [Act.put, List.setIfInBounds_toArray, List.set_cons_zero, List.set_cons_succ]
 refine wpAnyZ_ready (rs := [8]) (by kernel_rfl) (by simp) ?_
 refine AllReadyZ.cons (o := { dst := some 24, op := Op.buildSlice 31 1 #[(0, Operand.tmp 23)], type := 31, pos := _, after := _, guard := none }) rfl (fun K hK => ?_) AllReadyZ.nil
 obtain ⟨g1, hg1⟩ : ∃ g, g = w2.heap.size := ⟨_, rfl⟩
 obtain ⟨V1, hV1⟩ : ∃ V, (w2.alloc (.cells #[.int .i64 e.t, .int .i64 e.s, .int .i64 e.q, .int .i64 e.d, .int .i64 e.k, .int .i64 e.v, .int .i64 e.g] 55)).drew = V := ⟨_, rfl⟩
 have HV1 := hidHPl hV1
 have HG1 : Hid (g1 = w2.heap.size) := hg1
 have hbV : Below w2.heap.size w2 V1 := hV1 ▸ ((Below.refl _ w2).alloc (Nat.le_refl _) _).drew
 have HBV : Hid (Below w2.heap.size w2 V1) := hbV
 have HD1 := hidHPl (HD2.out.below hbV)
 have HE1 := hidHPl (HE2.out.below hbV)
 have HO1 := hidHPl (owns_turns (S := fun _ => False) HO.out (Turns.of_below (HB2.out.trans (hbV.mono HB2.out.size))) (fun _ _ => id))
 have HN1 : Hid (V1.heap[g1]? = some (.cells e.cs.toArray 55 (0, 0))) := by (rw [← hV1, hg1]; exact heap_alloc_new w2 _)
 have HNQ : Hid (¬ (.slice a5 l.length c5 : Value).ownBlock = some g1) := fun e1 => by have := owns_lt HO.out e1; have := HB2.out.size; omega
 have hzV : w2.heap.size < V1.heap.size := by (rw [← hV1]; exact (Bk.new w2 _ _).lt)
 clear hV1 hg1 hbV
 go_simp
 rw [HV1.out, ← HG1.out]
 refine hK.out _ _ ⟨HD1.out.cell rfl, HE1.out.cell rfl, HE1.out.cell rfl, HE1.out.cell rfl, HE1.out.cell rfl, HE1.out.cell rfl, HE1.out.cell rfl, HE1.out.cell rfl⟩ (fun hHeld => ?_)
 clear hK K
 try simp only [Act.put, List.setIfInBounds_toArray, List.set_cons_zero, List.set_cons_succ]
 refine wpAnyZ_ready (rs := [9]) (by kernel_rfl) (by simp) ?_
 refine AllReadyZ.cons (o := { dst := some 25, op := Op.call { callee := Callee.value (Operand.func 174), args := #[Operand.tmp 21, Operand.tmp 22, Operand.tmp 24], argTypes := #[31, 3, 31] }, type := 31, pos := _, after := _, guard := none }) rfl (fun K hK => ?_) AllReadyZ.nil
 go_simp
 go_at_call 174
 refine (inse_any B (.slice a5 l.length c5) l.length i g1 (cellsL l) e.cs V1 HF.out.le (by omega) (cellsL_ones l) rfl (Ev.cs_one e) HN1.out HNQ.out (by have := HB2.out.size; omega) HO1.out).mono ?_
 rintro r w3 ⟨vn, rfl, hown, hgrow, hnew⟩
 obtain ⟨an, cn, hvn⟩ := owns_slice hown
 subst hvn
 have hgt := grown_turns hgrow
 have HD3 := hidHPl (HD1.out.turns hgt (owns_ne HO1.out HD1.out (by decide)))
 have HE3 := hidHPl (HE1.out.turns hgt HNE.out)
 have HO3 := hidHPl hown
 have HT3 := hidHPl hgt
 have HNR := hidHPl hnew
 clear hown hgrow hnew hgt
 refine hK.out _ _ ⟨HD3.out.cell rfl, HE3.out.cell rfl, HE3.out.cell rfl, HE3.out.cell rfl, HE3.out.cell rfl, HE3.out.cell rfl, HE3.out.cell rfl, HE3.out.cell rfl⟩ (fun hHeld => ?_)
 clear hK K
 try simp only [Act.put, List.setIfInBounds_toArray, List.set_cons_zero, List.set_cons_succ]
 refine wpAnyZ_take (i := 10) (oi := { dst := some 26, op := Op.nilCheck (Operand.tmp 16), type := 0, pos := _, after := _, guard := none }) (v := .pointer (some ⟨D, 0, none⟩)) 12 [11, 10] rfl (by kernel_rfl) (by kernel_rfl) (by kernel_rfl) (by kernel_rfl) (by kernel_rfl) (fun _ _ _ h => h) (Or.inl ⟨by rfl, ?_⟩) (by assumption) ?_
 ·intro wX hSw
  try dsimp only at hSw
  go_simp
  try exact IntWalk.i64_in _ (by omega)
 try simp only [Act.put, List.setIfInBounds_toArray, List.set_cons_zero, List.set_cons_succ]
 refine wpAnyZ_take (i := 11) (oi := { dst := some 27, op := Op.fieldAddr 157 (Operand.tmp 26) 3, type := 0, pos := _, after := _, guard := none }) (v := .pointer (some ⟨D, 5, none⟩)) 12 [11] rfl (by kernel_rfl) (by kernel_rfl) (by kernel_rfl) (by kernel_rfl) (by kernel_rfl) (fun _ _ _ h => h) (Or.inl ⟨by rfl, ?_⟩) (by assumption) ?_
 ·intro wX hSw
  try dsimp only at hSw
  go_simp
  try exact IntWalk.i64_in _ (by omega)
 try simp only [Act.put, List.setIfInBounds_toArray, List.set_cons_zero, List.set_cons_succ]
 refine tzHPl 12 { dst := some 28, op := Op.fieldAddr 155 (Operand.tmp 27) 0, type := 0, pos := _, after := _, guard := none } (.pointer (some ⟨D, 5, none⟩)) ?_
 try simp only [Act.put, List.setIfInBounds_toArray, List.set_cons_zero, List.set_cons_succ]
 refine wpAnyZ_ready (rs := [13]) (by kernel_rfl) (by simp) ?_
 refine AllReadyZ.last (o := { dst := none, op := Op.store 31 (Operand.tmp 28) (Operand.tmp 25), type := 0, pos := _, after := _, guard := none }) rfl (fun K hK => ?_)
 have q5 := HD3.out.cell (i := 5) rfl
 have qf := HD3.out.free
 obtain ⟨X5, hX5⟩ : ∃ X5, w3.setCell ⟨D, 5, none⟩ (.slice an (l.length + 1) cn) = X5 := ⟨_, rfl⟩
 have hP := HD3.out.put 5 (.slice an (l.length + 1) cn)
 have ht := put1_turns w3 D 5 (.slice an (l.length + 1) cn)
 rw [hX5] at hP ht
 have HX5 : Hid _ := hX5
 have HD5 := hidHPl hP
 have HO5 : Hid (X5.ownsRow B 55 7 (.slice an (l.length + 1) cn) (l.length + 1) ((cellsL l).take (i * 7) ++ e.cs ++ (cellsL l).drop (i * 7))) := owns_turns HO3.out ht (fun k hk e1 => owns_ne HO3.out HD3.out (by decide) (e1 ▸ hk))
 have HT5 := hidHPl ht
 clear hP ht hX5
 go_simp
 try rw [HX5.out]
 refine hK.out _ _ ?_
 clear hK K
 try simp only [Act.put, List.setIfInBounds_toArray, List.set_cons_zero, List.set_cons_succ]
 refine wpAnyZ_done (by kernel_rfl) ?_ _
 clear hHeld
 go_wp2
 go_end0
 refine ⟨⟨_, rfl⟩, _, i, HF.out, HD5.out, HO5.out, ?_, ?_⟩
 ·rcases HNR.out with h9 | h9
  ·exact .inl h9
  ·exact .inr (fun k hk => by have := h9 k hk; have := HBV.out.size; have := HB2.out.size; omega)
 ·have t1 : Turns (fun k => k = D ∨ (Value.slice a5 l.length c5).ownBlock = some k) w V1 := Turns.of_below (HB0.out.trans ((HB2.out.mono (by omega)).trans (HBV.out.mono (by have := HB2.out.size; omega))))
  exact (t1.trans (HT3.out.mono (fun k hk => .inr hk))).trans (HT5.out.mono (fun k hk => .inl hk))
end Go.Proofs.YtnccenbkpocjgaaGreat

/- slices.Backward over events: what it hands to its loop. -/
namespace Go.Proofs.YtnccenbkpocjgaaGreat
open Go.RowKit Go.Shelf
attribute [local go_sem] Oper.semAt_some
abbrev bkArgs (l : List Ev) (x : Fin l.length) : Array Value := #[.int .i64 ((l.length : Int) - 1 - ((x.val : Nat) : Int)), (evAt l (l.length - 1 - x.val)).val]
def bkOf (l : List Ev) (pre : List (Fin l.length)) : List Ev := pre.map fun x => evAt l (l.length - 1 - x.val)
theorem bkOf_snoc (l : List Ev) (pre : List (Fin l.length)) (x : Fin l.length) : bkOf l (pre ++ [x]) = bkOf l pre ++ [evAt l (l.length - 1 - x.val)] := by simp [bkOf]
theorem bkOf_all (l : List Ev) : bkOf l (List.finRange l.length) = l.reverse := by
 refine ext_ev (by simp [bkOf]) (fun j hj => ?_)
 have hj' : j < l.length := by simpa [bkOf] using hj
 rw [evAt_rev l hj']
 unfold bkOf evAt
 simp [hj']
set_option maxRecDepth 100000 in
set_option maxHeartbeats 2000000 in
theorem back1_in (F : Fence) (n : Nat) (h49 : F.fn 202) (hro : F.round = none) (hn : 1 ≤ n) (lp Bs b off cap : Nat) (l : List Ev) (hreach : l.length ≤ 1048576) (J Jx : List (Fin l.length) → World → Prop)
  (hY : ∀ pre x W, J pre W → pre.length < l.length → YieldAt F (n - 1) Tryz.prog lp (bkArgs l x) W fun e W' =>
   (e = .returned (.bool true) ∧ J (pre ++ [x]) W' ∧ Same2 Bs b W W') ∨ (e = .returned (.bool false) ∧ Jx (pre ++ [x]) W'))
  (W : World) (hBs : W.cell? ⟨Bs, 0, none⟩ = some (.slice (some ⟨b, off, none⟩) l.length cap)) (hc : ∀ i, i < l.length → Ev.In W b (off + i * 7) (evAt l i)) (h0 : J [] W) :
  CallsIn F n Tryz.prog 202 #[.func (.yield lp) #[] #[], .pointer (some ⟨Bs, 0, none⟩)] W fun e W' => (∃ v, e = .returned v) ∧
   ((∃ ys, ys = List.finRange l.length ∧ J ys W') ∨ (∃ pre, (∃ k, k ≤ l.length ∧ pre = (List.finRange l.length).take k) ∧ Jx pre W')) := by
 refine callsIn_of_wp Tryz.func202 rfl h49 ?_ hro
 simp only [Tryz.ntmps202, List.size_toArray, List.length_cons, List.length_nil, Nat.reduceAdd, Nat.reduceSub, Array.replicate_succ, Array.replicate_zero, List.push_toArray, List.append_toArray, List.nil_append, List.cons_append]
 gi_wp2
 gi_loopw [3] (fun i wr => ∃ k : Nat, k ≤ l.length ∧ i = .int .i64 ((l.length : Int) - 1 - (k : Int)) ∧ J ((List.finRange l.length).take k) wr ∧ Same2 Bs b W wr)
  (fun i _ => (intOf i + 1).toNat)
 case atStart => exact ⟨0, Nat.zero_le _, by simp, by simpa using h0, Same2.refl _ _ _⟩
 case round =>
  obtain ⟨k, hk, rfl, hJs, hnx⟩ := hrel
  have hBs' : wr.cell? ⟨Bs, 0, none⟩ = some (.slice (some ⟨b, off, none⟩) l.length cap) := (hnx.cell1 0).trans hBs
  by_cases hlt : k < l.length
  ·have hy0 := hY _ ⟨k, hlt⟩ wr hJs (by rw [fin_take_length _ _ hk]; exact hlt)
   rw [← fin_take_succ _ _ hlt] at hy0
   obtain ⟨fn, tmps, assign, body, hy, hR⟩ := hy0
   simp only [bkArgs] at hy
   obtain ⟨m, hm⟩ : ∃ m, l.length - 1 - k = m := ⟨_, rfl⟩
   have HM : Hid (l.length - 1 - k = m) := hm
   have hmz : (l.length : Int) - 1 - (k : Int) = (m : Int) := by omega
   have hmn : (m : Int) < (l.length : Int) := by omega
   rw [hmz] at hy ⊢
   rw [hm] at hy
   obtain ⟨f0, f1, f2, f3, f4, f5, f6⟩ := hnx.ev (hc m (by omega))
   have HC : Hid (∀ i, i < l.length → Ev.In W b (off + i * 7) (evAt l i)) := hc
   clear hc hY hm hmz
   gi_wp2
   refine hR.mono ?_
   rintro e W3 (⟨rfl, hJ3, hk3⟩ | ⟨rfl, hJx3⟩)
   ·gi_wp2
    go_roundw
    case rel => exact ⟨k + 1, by omega, by rw [show (l.length : Int) - 1 - ((k + 1 : Nat) : Int) = (m : Int) - 1 from by have := HM.out; omega], hJ3, hnx.trans hk3⟩
    case measure => first | (simp [intOf]; done) | (simp [intOf]; omega)
   ·gi_wp2
    refine bodyPost_ret (results_none rfl _ _ _) rfl ?_
    exact ⟨⟨_, rfl⟩, .inr ⟨_, ⟨k + 1, by omega, rfl⟩, hJx3⟩⟩
  ·obtain rfl : k = l.length := by omega
   have hng : ¬ ((0 : Int) ≤ (l.length : Int) - 1 - (l.length : Int)) := by omega
   gi_wp2
   go_end0
   have hJ9 : J (List.finRange l.length) wr := by rw [List.take_of_length_le (by simp)] at hJs; exact hJs
   first | exact ⟨⟨_, rfl⟩, .inl ⟨_, rfl, hJ9⟩⟩ | exact ⟨⟨_, rfl⟩, .inl hJ9⟩
set_option maxRecDepth 100000 in
set_option maxHeartbeats 1000000 in
theorem back1_nil (F : Fence) (n : Nat) (h49 : F.fn 202) (hro : F.round = none) (lp Bs cap : Nat) (a : Option Addr) (J : List (Fin 0) → World → Prop) (W : World) (hBs : W.cell? ⟨Bs, 0, none⟩ = some (.slice a 0 cap)) (h0 : J [] W) :
  CallsIn F n Tryz.prog 202 #[.func (.yield lp) #[] #[], .pointer (some ⟨Bs, 0, none⟩)] W fun e W' => (∃ v, e = .returned v) ∧ J [] W' := by
 refine callsIn_of_wp Tryz.func202 rfl h49 ?_ hro
 simp only [Tryz.ntmps202, List.size_toArray, List.length_cons, List.length_nil, Nat.reduceAdd, Nat.reduceSub, Array.replicate_succ, Array.replicate_zero, List.push_toArray, List.append_toArray, List.nil_append, List.cons_append]
 gi_wp2
 gi_loopw [3] (fun i wr => i = .int .i64 (-1) ∧ J [] wr) (fun _ _ => 0)
 case atStart => exact ⟨rfl, h0⟩
 case round =>
  obtain ⟨rfl, hJs⟩ := hrel
  gi_wp2
  go_end0
  exact ⟨⟨_, rfl⟩, hJs⟩
set_option maxHeartbeats 1000000 in
theorem backward_any (a : Option Addr) (len cap : Nat) (w : World) :
  Calls Tryz.prog 171 #[.slice a len cap] w fun e w' => e = .returned (.func (.func 202) #[] #[.pointer (some ⟨w.heap.size, 0, none⟩)]) ∧ w' = w.alloc (.cells #[.slice a len cap] 31) := by
 go_enter Tryz.func171, Tryz.ntmps171
 go_wp2
 go_ret
 exact ⟨rfl, rfl⟩
theorem back_stops (F : Fence) (n : Nat) (h49 : F.fn 202) (hro : F.round = none) (hn : 1 ≤ n) (c b : Nat) (a : Option Addr) (cap : Nat) (l : List Ev) (hreach : l.length ≤ 1048576) (w : World) (hcs : c < w.heap.size)
  (hc : w.cell? ⟨c, 0, none⟩ = some (.slice a l.length cap)) (hI : l = [] ∨ ∃ off, a = some ⟨b, off, none⟩ ∧ EvsAt w b off l) :
  SeqStopsK F n Tryz.prog 202 #[.pointer (some ⟨c, 0, none⟩)] (bkArgs l) (Same2 c b) (fun ys => ys = List.finRange l.length) (fun pre => ∃ k, k ≤ l.length ∧ pre = (List.finRange l.length).take k) l.length w := fun lp J Jx W hW _ _ hY h0 => by
 have hc' := (hW.cell (p := ⟨c, 0, none⟩) hcs).trans hc
 rcases hI with rfl | ⟨off, rfl, hb, hev⟩
 ·exact (back1_nil F n h49 hro lp c cap a J W hc' h0).mono fun e W' ⟨he, hj⟩ => ⟨he, .inl ⟨_, rfl, hj⟩⟩
 ·exact back1_in F n h49 hro hn lp c b off cap l hreach J Jx hY W hc' (fun i hi => (hev i hi).below hW hb) h0
end Go.Proofs.YtnccenbkpocjgaaGreat

