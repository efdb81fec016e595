/- KCm, SrP -/
import Derived.Test.YthfhibnnkpbeiaaGreatExactWorldNewG01
import Derived.Test.YthfhibnnkpbeiaaGreatExactWorldNewLKOm
import Derived.Test.YthfhibnnkpbeiaaGreatExactWorldNewG25
import Derived.Test.YthfhibnnkpbeiaaGreatRows
import Derived.Shelf.SlSortCmp.SmallK
import Derived.Shelf.Small.Bits
/- The program's copy of a model. -/
namespace Go.Proofs.YthfhibnnkpbeiaaGreat
open Go.RowKit
theorem hidKCm {p : Prop} (h : p) : Hid p := h
set_option maxRecDepth 100000 in
set_option maxHeartbeats 2000000 in
theorem copyOp_src (x : Value) (l : List O) (w : World) (hl : l.length ≤ 1048577) (h : SrcC w x 4 l.length (cellsO l)) :
  Calls Tryz.prog 78 #[x] w fun e w' => ∃ y, e = .returned y ∧ w'.ownsRow w.heap.size 97 4 y l.length (cellsO l) ∧ Below w.heap.size w w' := by
 obtain ⟨i0, hi, hz0, hz1, hz2⟩ := info_parts infoOp
 have HS := hidKCm h
 obtain ⟨_, a, c, rfl, _⟩ := h
 go_enter Tryz.func78, Tryz.ntmps78
 go_wp2_with (at_builtin; refine wpList_append_src _ rfl _ _ 94 rfl w.heap.size 97 i0 _ 4 32 Tryz.underlying94 hi hz0 hz1 hz2 rfl (by decide) (.slice none 0 0) 0 [] rfl (World.ownsRow_nil w w.heap.size 97 4) (.slice a l.length c) l.length (cellsO l) rfl HS.out (cellsO_one l) (by unfold maxLen; omega) (by omega) (Nat.le_refl _) ?_; intro v' w' hown hgrow hnew)
 go_ret
 rw [Nat.zero_add, List.nil_append] at hown
 exact ⟨_, rfl, hown, (Below.refl _ w).grown hgrow (Nat.le_refl _) (fun k e => by cases e)⟩
set_option maxRecDepth 100000 in
set_option maxHeartbeats 2000000 in
theorem copySl_src (x : Value) (l : List Value) (w : World) (hl : l.length ≤ 1048577) (h1 : ∀ u ∈ l, u.oneCell' = true) (h : SrcC w x 1 l.length l) :
  Calls Tryz.prog 77 #[x] w fun e w' => ∃ y, e = .returned y ∧ w'.ownsRow w.heap.size 94 1 y l.length l ∧ Below w.heap.size w w' := by
 have H1 := hidKCm h1
 clear h1
 have HS := hidKCm h
 obtain ⟨hz9, a, c, rfl, _⟩ := h
 clear hz9
 go_enter Tryz.func77, Tryz.ntmps77
 go_wp2_with (at_builtin; obtain ⟨i0, hi, hz0, hz1, hz2⟩ := info_parts infoSS; refine wpList_append_src _ rfl _ _ 28 rfl w.heap.size 94 i0 _ 1 24 Tryz.underlying28 hi hz0 hz1 hz2 rfl (by decide) (.slice none 0 0) 0 [] rfl (World.ownsRow_nil w w.heap.size 94 1) (.slice a l.length c) l.length l rfl HS.out H1.out (by unfold maxLen; omega) (by omega) (Nat.le_refl _) ?_; intro v' w' hown hgrow hnew)
 go_ret
 rw [Nat.zero_add, List.nil_append] at hown
 exact ⟨_, rfl, hown, (Below.refl _ w).grown hgrow (Nat.le_refl _) (fun k e => by cases e)⟩
theorem owns_set {w : World} {B : Nat} {e : TypeId} {size n g o : Nat} {v u : Value} {xs : List Value} (h : w.ownsRow B e size v n xs) (hv : v.ownBlock = some g) : (w.setCell ⟨g, o, none⟩ u).ownsRow B e size v n (xs.set o u) := by
 obtain ⟨hl, ⟨rfl, _⟩ | ⟨g', cap, cur, rfl, hg, hc, h1, h2, h3, h4⟩⟩ := h
 ·simp [Value.ownBlock] at hv
 ·simp [Value.ownBlock] at hv
  subst hv
  obtain ⟨hlt, hx⟩ := Array.getElem?_eq_some_iff.1 hc
  refine ⟨by simp [hl], .inr ⟨g', cap, cur.setIfInBounds o u, rfl, hg, ?_, h1, h2, by simp [h3], ?_⟩⟩
  ·simp [World.setCell, hlt, Array.getElem_modify, hx]
  ·rw [← h4, Array.toList_setIfInBounds, List.take_set]
theorem owns_some {w : World} {B : Nat} {e : TypeId} {size n : Nat} {v : Value} {xs : List Value} (h : w.ownsRow B e size v n xs) (hn : 0 < n) : ∃ g cap, v = .slice (some ⟨g, 0, none⟩) n cap ∧ B ≤ g ∧ (∀ j, j < n * size → w.cell? ⟨g, j, none⟩ = xs[j]?) ∧ ∀ j, w.frozen? ⟨g, j, none⟩ = false := by
 obtain ⟨hl, ⟨rfl, h0⟩ | ⟨g, cap, cur, rfl, hg, hc, h1, h2, h3, h4⟩⟩ := h
 ·omega
 ·refine ⟨g, cap, rfl, hg, fun j hj => ?_, fun j => by simp [World.frozen?, hc]⟩
  rw [← h4, List.getElem?_take_of_lt hj]
  simp [World.cell?, hc]
theorem rows_src {w : World} {x : Value} {l : List (List O)} (h : IsH w x l) : ∃ os : List Value, SrcC w x 1 l.length os ∧ os.length = l.length ∧ Hid (∀ k, k < l.length → ∃ u, os[k]? = some u ∧ IsO w u (hAt l k)) := by
 obtain ⟨a, cap, rfl, _, _, h⟩ := h
 rcases h with rfl | ⟨b, off, rfl, hb, hc⟩
 ·exact ⟨[], ⟨rfl, _, _, rfl, .inl rfl⟩, rfl, fun k hk => by simp at hk⟩
 ·have hall : ∀ n, n ≤ l.length → ∃ os : List Value, os.length = n ∧ ∀ k, k < n → ∃ u, os[k]? = some u ∧ w.cell? ⟨b, off + k, none⟩ = some u ∧ IsO w u (hAt l k) := by
   intro n
   induction n with
   | zero => intro _; exact ⟨[], rfl, fun k hk => by omega⟩
   | succ n ih =>
    intro hn
    obtain ⟨os, hl, ho⟩ := ih (by omega)
    obtain ⟨u, hu, hi⟩ := hc n (by omega)
    refine ⟨os ++ [u], by simp [hl], fun k hk => ?_⟩
    by_cases hkn : k < n
    ·obtain ⟨v, h1, h2⟩ := ho k hkn
     exact ⟨v, by rw [List.getElem?_append_left (by omega)]; exact h1, h2⟩
    ·obtain rfl : k = n := by omega
     exact ⟨u, by rw [List.getElem?_append_right (by omega), hl]; simp, hu, hi⟩
  obtain ⟨os, hl, ho⟩ := hall l.length (Nat.le_refl _)
  refine ⟨os, ⟨by omega, _, _, rfl, .inr ⟨b, off, rfl, hb, fun j hj => ?_⟩⟩, hl, fun k hk => ?_⟩
  ·obtain ⟨u, h1, h2, _⟩ := ho j (by omega)
   rw [h1, h2]
  ·obtain ⟨u, h1, _, h3⟩ := ho k hk
   exact ⟨u, h1, h3⟩
theorem rows_one {w : World} {l : List (List O)} {os : List Value} (h : ∀ k, k < l.length → ∃ u, os[k]? = some u ∧ IsO w u (hAt l k)) (hl : os.length = l.length) : ∀ u ∈ os, u.oneCell' = true := by
 intro u hu
 obtain ⟨k, hk, rfl⟩ := List.getElem_of_mem hu
 obtain ⟨u, h1, h2⟩ := h k (by omega)
 obtain ⟨a, c, rfl, _⟩ := h2
 rw [List.getElem?_eq_getElem hk] at h1
 rw [Option.some.inj h1]
 rfl
structure CmS (B : Nat) (w : World) (m : Md) (vi vh vs : Value) (os us : List Value) (k : Nat) : Prop where
 i : w.ownsRow B 3 1 vi m.i.length (intCells m.i)
 e : w.ownsRow B 99 7 vs m.e.length (cellsL m.e)
 h : w.ownsRow B 94 1 vh m.h.length (us ++ os.drop k)
 l : os.length = m.h.length
 u : HsO B w us (m.h.take k)
 k : k ≤ m.h.length
theorem CmS.len {B : Nat} {w : World} {m : Md} {vi vh vs : Value} {os us : List Value} {k : Nat} (h : CmS B w m vi vh vs os us k) : us.length = k := by
 have h1 := h.u.1
 have h2 := h.k
 rw [List.length_take] at h1
 omega
theorem CmS.turns {S : Nat → Prop} {B : Nat} {w w' : World} {m : Md} {vi vh vs : Value} {os us : List Value} {k : Nat} (h : CmS B w m vi vh vs os us k) (ht : Turns S w w') (hS : ∀ j, B ≤ j → ¬ S j) : CmS B w' m vi vh vs os us k :=
 ⟨owns_turns h.i ht (fun j hj => hS j (row_ge h.i hj)), owns_turns h.e ht (fun j hj => hS j (row_ge h.e hj)), owns_turns h.h ht (fun j hj => hS j (row_ge h.h hj)), h.l, h.u.turns ht (fun i j hi hj => hS j (row_ge (h.u.2.1 i hi) hj)), h.k⟩
theorem CmS.below {B : Nat} {w w' : World} {m : Md} {vi vh vs : Value} {os us : List Value} {k : Nat} (h : CmS B w m vi vh vs os us k) (hb : Below w.heap.size w w') : CmS B w' m vi vh vs os us k := h.turns (S := fun _ => False) (Turns.of_below hb) (fun _ _ => id)
theorem CmS.old {B : Nat} {w : World} {m : Md} {vi vh vs : Value} {os us : List Value} {k : Nat} (h : CmS B w m vi vh vs os us k) : ∀ i j, i < k → (uAt us i).ownBlock = some j → j < w.heap.size := fun i j hi hj => h.u.old i j (by have := h.k; simp; omega) hj
theorem CmS.ge {B g c : Nat} {w : World} {m : Md} {vi vs : Value} {os us : List Value} {k n : Nat} (h : CmS B w m vi (.slice (some ⟨g, 0, none⟩) n c) vs os us k) : B ≤ g := row_ge h.h rfl
theorem CmS.at_ {B g c : Nat} {w : World} {m : Md} {vi vs : Value} {os us : List Value} {k n : Nat} (h : CmS B w m vi (.slice (some ⟨g, 0, none⟩) n c) vs os us k) (hk : k < m.h.length) : w.cell? ⟨g, k, none⟩ = os[k]? ∧ w.frozen? ⟨g, k, none⟩ = false := by
 obtain ⟨g', cap, e1, _, hc, hf⟩ := owns_some h.h (by omega)
 cases e1
 refine ⟨?_, hf k⟩
 rw [hc k (by omega), List.getElem?_append_right (by rw [h.len]; omega), h.len]
 simp
theorem CmS.put {B N g c : Nat} {w : World} {m : Md} {vi vs u : Value} {os us : List Value} {k n : Nat} (h : CmS B w m vi (.slice (some ⟨g, 0, none⟩) n c) vs os us k) (hk : k < m.h.length) (hu : w.ownsRow N 97 4 u (hAt m.h k).length (cellsO (hAt m.h k))) (hN : B ≤ N) (hold : ∀ i j, i < k → (uAt us i).ownBlock = some j → j < N) : CmS B (w.setCell ⟨g, k, none⟩ u) m vi (.slice (some ⟨g, 0, none⟩) n c) vs os (us ++ [u]) (k + 1) := by
 have ht := put1_turns w g k u
 have hl := h.len
 have hrow := owns_set (o := k) (u := u) h.h rfl
 have hlist : (us ++ os.drop k).set k u = us ++ [u] ++ os.drop (k + 1) := by
  have h9 := h.l
  rw [List.set_append_right _ _ (by omega), hl, Nat.sub_self, List.append_assoc]
  congr 1
  rw [List.drop_eq_getElem_cons (show k < os.length by omega)]
  rfl
 rw [hlist] at hrow
 have htk : m.h.take (k + 1) = m.h.take k ++ [hAt m.h k] := by rw [List.take_add_one, List.getElem?_eq_getElem hk]; simp [hAt, hk]
 have hu9 := h.u.snoc hu hN (fun i j hi hj => hold i j (by simp at hi; omega) hj)
 rw [← htk] at hu9
 exact ⟨owns_turns h.i ht (fun j hj e => owns_apart h.i h.h (by decide) hj (e ▸ rfl)), owns_turns h.e ht (fun j hj e => owns_apart h.e h.h (by decide) hj (e ▸ rfl)), hrow, h.l, hu9.turns ht (fun i j hi hj e => owns_apart (hu9.2.1 i hi) h.h (by decide) hj (e ▸ rfl)), by omega⟩
theorem CmS.mo {B : Nat} {w : World} {m : Md} {vi vh vs : Value} {os us : List Value} (h : CmS B w m vi vh vs os us m.h.length) : MO w B m vi vh vs us := by
 have h1 := h.h
 have h2 := h.u
 rw [← h.l, List.drop_length, List.append_nil] at h1
 rw [List.take_of_length_le (Nat.le_refl _)] at h2
 rw [h.l] at h1
 exact ⟨h.i, h1, h2, h.e⟩
set_option maxRecDepth 100000 in
set_option maxHeartbeats 16000000 in
theorem copyM_any (x : Value) (m : Md) (w : World) (hil : m.i.length ≤ 1048576) (hhl : m.h.length ≤ 1048576) (hel : m.e.length ≤ 1048576) (hol : ∀ i, i < m.h.length → (hAt m.h i).length ≤ 1048576) (h : IsM w x m) :
  Calls Tryz.prog 33 #[x] w fun e w' => ∃ y, e = .returned y ∧ Below w.heap.size w w' ∧ MdF (fun k => w.heap.size ≤ k ∧ k < w'.heap.size) w' y m := by
 obtain ⟨vi0, vh0, vs0, rfl, hI, hH, hE⟩ := h
 have hdI := hI.isD
 have hdE := hE.isD
 obtain ⟨os, hos, hosl, HOS⟩ := rows_src hH
 obtain ⟨ai, ci, rfl, _⟩ := hI
 obtain ⟨ah, ch, rfl, _⟩ := hH
 obtain ⟨ae, ce, rfl, _⟩ := hE
 have HOL := hidKCm hol
 have HSI : Hid (∀ W, Below w.heap.size w W → SrcC W (.slice ai m.i.length ci) 1 m.i.length (intCells m.i)) := fun W hW => (IsD.srcI hdI).below hW
 have HSE : Hid (∀ W, Below w.heap.size w W → SrcC W (.slice ae m.e.length ce) 7 m.e.length (cellsL m.e)) := fun W hW => (IsD.srcEv hdE).below hW
 have HSH : Hid (∀ W, Below w.heap.size w W → SrcC W (.slice ah m.h.length ch) 1 os.length os) := fun W hW => hosl ▸ hos.below hW
 have HOSL := hidKCm hosl
 have HONE := hidKCm (rows_one HOS.out hosl)
 clear hol hdI hdE hos
 obtain ⟨Rb, hRb⟩ : ∃ Rb, Rb = w.heap.size + 1 := ⟨_, rfl⟩
 obtain ⟨W0, hW0⟩ : ∃ W0, (w.alloc (.cells #[.int .i64 m.n, .int .i64 m.s, .slice ai m.i.length ci, .slice ah m.h.length ch, .slice ae m.e.length ce, .int .i64 m.z] 31)).alloc (.cells #[.int .i64 0, .int .i64 0, .slice none 0 0, .slice none 0 0, .slice none 0 0, .int .i64 0] 31) = W0 := ⟨_, rfl⟩
 have HP0 : Hid (Bk W0 w.heap.size 31 #[.int .i64 m.n, .int .i64 m.s, .slice ai m.i.length ci, .slice ah m.h.length ch, .slice ae m.e.length ce, .int .i64 m.z]) := hW0 ▸ (Bk.new w _ _).alloc _
 have HR0 : Hid (Bk W0 Rb 31 #[.int .i64 0, .int .i64 0, .slice none 0 0, .slice none 0 0, .slice none 0 0, .int .i64 0]) := by rw [← hW0]; exact Bk.newAt (by simp [hRb]) _ _
 have HB0 : Hid (Below w.heap.size w W0) := by rw [← hW0]; exact ((Below.refl _ w).alloc (Nat.le_refl _) _).alloc (by simp) _
 have HW0 := hidKCm hW0
 have HRB := hidKCm hRb
 have hRw : w.heap.size < Rb := by omega
 clear hW0 hRb hosl
 have c2 := ((Bk.new w 31 #[.int .i64 m.n, .int .i64 m.s, .slice ai m.i.length ci, .slice ah m.h.length ch, .slice ae m.e.length ce, .int .i64 m.z]).alloc (.cells #[.int .i64 0, .int .i64 0, .slice none 0 0, .slice none 0 0, .slice none 0 0, .int .i64 0] 31)).cell (i := 2) rfl
 go_enter Tryz.func33, Tryz.ntmps33
 go_wp2_with fail
 rw [HW0.out, ← HRB.out]
 clear HW0 c2
 obtain ⟨B, hBe⟩ : ∃ B, B = W0.heap.size := ⟨_, rfl⟩
 have HS0 : Hid (B ≤ W0.heap.size) := (by omega : B ≤ W0.heap.size)
 have hRB : Rb < B := hBe ▸ HR0.out.lt
 clear hBe
 refine (copyI_src _ m.i W0 (by omega) (HSI.out W0 HB0.out)).mono ?_
 rintro e w1 ⟨vi, rfl, ho, hb⟩
 obtain ⟨avi, cvi, rfl⟩ := owns_slice ho
 have HPa := hidKCm (HP0.out.below hb)
 have HRa := hidKCm (HR0.out.below hb)
 have HBa := hidKCm (HB0.out.trans (hb.mono HB0.out.size))
 have HSa : Hid (B ≤ w1.heap.size) := Nat.le_trans HS0.out hb.size
 have HNa := hidKCm (owns_mono ho HS0.out)
 have k2 := HPa.out.cell (i := 2) rfl
 have kf := HPa.out.free
 obtain ⟨V1, hV⟩ : ∃ V, w1.setCell ⟨w.heap.size, 2, none⟩ (.slice avi m.i.length cvi) = V := ⟨_, rfl⟩
 have ht : Turns (fun j => j = w.heap.size) w1 V1 := hV ▸ put1_turns _ _ 2 _
 have HPb : Hid (Bk V1 w.heap.size 31 #[.int .i64 m.n, .int .i64 m.s, .slice avi m.i.length cvi, .slice ah m.h.length ch, .slice ae m.e.length ce, .int .i64 m.z]) := hV ▸ HPa.out.put 2 _
 have HRb := hidKCm (HRa.out.turns ht (fun e => by omega))
 have HBb := hidKCm (HBa.out.trans (ht.to_below (fun j hj => by omega) HBa.out.size))
 have HSb : Hid (B ≤ V1.heap.size) := Nat.le_trans HSa.out ht.size
 have HNb : Hid (V1.ownsRow B 3 1 (.slice avi m.i.length cvi) m.i.length (intCells m.i)) := owns_turns HNa.out ht (fun j hj e => owns_ne HNa.out HPa.out (by decide) (e ▸ hj))
 clear ho hb ht HPa HRa HBa HSa HNa  HP0 HR0 HB0 HS0
 have HIa1 := HNb
 have HP1 := HPb
 have HR1 := HRb
 have HB1 := HBb
 have HS1 := HSb
 clear HNb HPb HRb HBb HSb
 have p4 := HP1.out.cell (i := 4) rfl
 go_wp2_with fail
 clear hV k2 kf p4
 refine (copyEv_src _ m.e V1 (by omega) (HSE.out V1 HB1.out)).mono ?_
 rintro e w2 ⟨vs, rfl, ho, hb⟩
 obtain ⟨avs, cvs, rfl⟩ := owns_slice ho
 have HPa := hidKCm (HP1.out.below hb)
 have HRa := hidKCm (HR1.out.below hb)
 have HBa := hidKCm (HB1.out.trans (hb.mono HB1.out.size))
 have HSa : Hid (B ≤ w2.heap.size) := Nat.le_trans HS1.out hb.size
 have HNa := hidKCm (owns_mono ho HS1.out)
 have HIa1a := hidKCm (owns_turns (S := fun _ => False) HIa1.out (Turns.of_below hb) (fun _ _ => id))
 have k4 := HPa.out.cell (i := 4) rfl
 have kf := HPa.out.free
 obtain ⟨V2, hV⟩ : ∃ V, w2.setCell ⟨w.heap.size, 4, none⟩ (.slice avs m.e.length cvs) = V := ⟨_, rfl⟩
 have ht : Turns (fun j => j = w.heap.size) w2 V2 := hV ▸ put1_turns _ _ 4 _
 have HPb : Hid (Bk V2 w.heap.size 31 #[.int .i64 m.n, .int .i64 m.s, .slice avi m.i.length cvi, .slice ah m.h.length ch, .slice avs m.e.length cvs, .int .i64 m.z]) := hV ▸ HPa.out.put 4 _
 have HRb := hidKCm (HRa.out.turns ht (fun e => by omega))
 have HBb := hidKCm (HBa.out.trans (ht.to_below (fun j hj => by omega) HBa.out.size))
 have HSb : Hid (B ≤ V2.heap.size) := Nat.le_trans HSa.out ht.size
 have HNb : Hid (V2.ownsRow B 99 7 (.slice avs m.e.length cvs) m.e.length (cellsL m.e)) := owns_turns HNa.out ht (fun j hj e => owns_ne HNa.out HPa.out (by decide) (e ▸ hj))
 have HIa2 : Hid (V2.ownsRow B 3 1 (.slice avi m.i.length cvi) m.i.length (intCells m.i)) := owns_turns HIa1a.out ht (fun j hj e => owns_ne HIa1a.out HPa.out (by decide) (e ▸ hj))
 clear ho hb ht HPa HRa HBa HSa HNa HIa1a HIa1 HP1 HR1 HB1 HS1
 have HE2 := HNb
 have HP2 := HPb
 have HR2 := HRb
 have HB2 := HBb
 have HS2 := HSb
 clear HNb HPb HRb HBb HSb
 have p3 := HP2.out.cell (i := 3) rfl
 go_wp2_with fail
 clear hV k4 kf p3
 refine (copySl_src _ os V2 (by have h9 := HOSL.out; omega) HONE.out (HSH.out V2 HB2.out)).mono ?_
 rintro e w3 ⟨vh, rfl, ho, hb⟩
 rw [HOSL.out] at ho
 obtain ⟨avh, cvh, rfl⟩ := owns_slice ho
 have HPa := hidKCm (HP2.out.below hb)
 have HRa := hidKCm (HR2.out.below hb)
 have HBa := hidKCm (HB2.out.trans (hb.mono HB2.out.size))
 have HSa : Hid (B ≤ w3.heap.size) := Nat.le_trans HS2.out hb.size
 have HNa := hidKCm (owns_mono ho HS2.out)
 have HIa2a := hidKCm (owns_turns (S := fun _ => False) HIa2.out (Turns.of_below hb) (fun _ _ => id))
 have HE2a := hidKCm (owns_turns (S := fun _ => False) HE2.out (Turns.of_below hb) (fun _ _ => id))
 have k3 := HPa.out.cell (i := 3) rfl
 have kf := HPa.out.free
 obtain ⟨V3, hV⟩ : ∃ V, w3.setCell ⟨w.heap.size, 3, none⟩ (.slice avh m.h.length cvh) = V := ⟨_, rfl⟩
 have ht : Turns (fun j => j = w.heap.size) w3 V3 := hV ▸ put1_turns _ _ 3 _
 have HPb : Hid (Bk V3 w.heap.size 31 #[.int .i64 m.n, .int .i64 m.s, .slice avi m.i.length cvi, .slice avh m.h.length cvh, .slice avs m.e.length cvs, .int .i64 m.z]) := hV ▸ HPa.out.put 3 _
 have HRb := hidKCm (HRa.out.turns ht (fun e => by omega))
 have HBb := hidKCm (HBa.out.trans (ht.to_below (fun j hj => by omega) HBa.out.size))
 have HSb : Hid (B ≤ V3.heap.size) := Nat.le_trans HSa.out ht.size
 have HNb : Hid (V3.ownsRow B 94 1 (.slice avh m.h.length cvh) m.h.length os) := owns_turns HNa.out ht (fun j hj e => owns_ne HNa.out HPa.out (by decide) (e ▸ hj))
 have HI3 : Hid (V3.ownsRow B 3 1 (.slice avi m.i.length cvi) m.i.length (intCells m.i)) := owns_turns HIa2a.out ht (fun j hj e => owns_ne HIa2a.out HPa.out (by decide) (e ▸ hj))
 have HE3 : Hid (V3.ownsRow B 99 7 (.slice avs m.e.length cvs) m.e.length (cellsL m.e)) := owns_turns HE2a.out ht (fun j hj e => owns_ne HE2a.out HPa.out (by decide) (e ▸ hj))
 clear ho hb ht HPa HRa HBa HSa HNa HIa2a HIa2 HE2a HE2 HP2 HR2 HB2 HS2
 have HC3 : Hid (CmS B V3 m (.slice avi m.i.length cvi) (.slice avh m.h.length cvh) (.slice avs m.e.length cvs) os [] 0) := by
  have h9 := HNb.out
  exact ⟨HI3.out, HE3.out, by simpa using h9, HOSL.out, HsO.nil _ _, Nat.zero_le _⟩
 have HP3 := hidKCm HPb.out
 have q3 := HP3.out.cell (i := 3) rfl
 clear HNb HPb HI3 HE3
 go_wp2
 clear hV k3 kf q3
 go_loopw [20] (fun i wr => ∃ (k : Nat) (us : List Value), k ≤ m.h.length ∧ i = .int .i64 k ∧ Hid (CmS B wr m (.slice avi m.i.length cvi) (.slice avh m.h.length cvh) (.slice avs m.e.length cvs) os us k) ∧ Hid (Bk wr w.heap.size 31 #[.int .i64 m.n, .int .i64 m.s, .slice avi m.i.length cvi, .slice avh m.h.length cvh, .slice avs m.e.length cvs, .int .i64 m.z]) ∧ Hid (Bk wr Rb 31 #[.int .i64 0, .int .i64 0, .slice none 0 0, .slice none 0 0, .slice none 0 0, .int .i64 0]) ∧ Hid (Below w.heap.size w wr) ∧ Hid (B ≤ wr.heap.size)) (fun i _ => m.h.length - (intOf i).toNat)
 case atStart => exact ⟨0, _, Nat.zero_le _, rfl, HC3.out, HP3.out, HRb.out, HBb.out, HSb.out⟩
 case round =>
  clear HC3 HP3 HRb HBb HSb
  obtain ⟨k, us, hk, rfl, HCr, HPr, HRr, HBr, HSr⟩ := hrel
  by_cases hlt : k < m.h.length
  case pos =>
   have hkd : decide ((k : Int) < (m.h.length : Int)) = true := by simpa using hlt
   obtain ⟨g, cap9, e9, hz9⟩ := owns_some HCr.out.h (by omega)
   clear hz9
   cases e9
   obtain ⟨u, hu1, hu2⟩ := HOS.out k hlt
   have f0 := (HCr.out.at_ hlt).1.trans hu1
   have HSR : Hid (∀ W, Below w.heap.size w W → SrcC W u 4 (hAt m.h k).length (cellsO (hAt m.h k))) := fun W hW => (IsO.src hu2).below hW
   obtain ⟨a1, c1, rfl, _⟩ := hu2
   have f1 : wr.cell? ⟨g, 0 + k, none⟩ = some (.slice a1 (hAt m.h k).length c1) := by rw [Nat.zero_add]; exact f0
   go_upto_region 7 with fail
   have HU9 := hidKCm hu1
   clear f0 f1 hu1
   have HPX := hidKCm HPr.out.drew
   refine wp_region_z 6 (fun W => W.cell? ⟨w.heap.size, 3, none⟩ = some (.slice (some ⟨g, 0, none⟩) m.h.length cvh)) (by kernel_rfl) (HPX.out.cell (i := 3) rfl) (fun hHeld => ?_)
   obtain ⟨wd, hwd⟩ : ∃ wd, wr.drew = wd := ⟨_, rfl⟩
   have hbd : Below wr.heap.size wr wd := hwd ▸ (Below.refl _ wr).drew
   rw [hwd] at hHeld HPX
   rw [hwd]
   have HCX := hidKCm (HCr.out.below hbd)
   have HBX := hidKCm (HBr.out.trans (hbd.mono HBr.out.size))
   have HSX : Hid (B ≤ wd.heap.size) := Nat.le_trans HSr.out hbd.size
   have HRX := hidKCm (HRr.out.below hbd)
   clear hwd hbd HPr HCr HBr HSr HRr
   refine wpAnyZ_take (i := 0) (oi := { dst := some 25, op := Op.fieldAddr 31 (Operand.tmp 1) 3, type := 0, pos := _, after := _, guard := none }) (v := .pointer (some ⟨w.heap.size, 3, none⟩)) 0 [] rfl (by kernel_rfl) (by kernel_rfl) (by kernel_rfl) (by kernel_rfl) (by kernel_rfl) (fun _ _ _ h => h) (Or.inl ⟨by rfl, ?_⟩) (by assumption) ?_
   ·intro wX hSw
    try dsimp only at hSw
    go_simp
    try exact IntWalk.i64_in _ (by omega)
   try simp only [Act.put, List.setIfInBounds_toArray, List.set_cons_zero, List.set_cons_succ]
   refine wpAnyZ_take (i := 1) (oi := { dst := some 26, op := Op.load 28 (Operand.tmp 25), type := 28, pos := _, after := _, guard := none }) (v := .slice (some ⟨g, 0, none⟩) m.h.length cvh) 1 [] rfl (by kernel_rfl) (by kernel_rfl) (by kernel_rfl) (by kernel_rfl) (by kernel_rfl) (fun _ _ _ h => h) (Or.inl ⟨by rfl, ?_⟩) (by assumption) ?_
   ·intro wX hSw
    try dsimp only at hSw
    go_simp
    try exact IntWalk.i64_in _ (by omega)
   try simp only [Act.put, List.setIfInBounds_toArray, List.set_cons_zero, List.set_cons_succ]
   refine wpAnyZ_take (i := 2) (oi := { dst := some 27, op := Op.move (Operand.tmp 3), type := 3, pos := _, after := _, guard := none }) (v := .int .i64 (k : Int)) 2 [] rfl (by kernel_rfl) (by kernel_rfl) (by kernel_rfl) (by kernel_rfl) (by kernel_rfl) (fun _ _ _ h => h) (Or.inl ⟨by rfl, ?_⟩) (by assumption) ?_
   ·intro wX hSw
    try dsimp only at hSw
    go_simp
    try exact IntWalk.i64_in _ (by omega)
   try simp only [Act.put, List.setIfInBounds_toArray, List.set_cons_zero, List.set_cons_succ]
   refine wpAnyZ_take (i := 3) (oi := { dst := some 28, op := Op.move (Operand.tmp 4), type := 94, pos := _, after := _, guard := none }) (v := .slice a1 (hAt m.h k).length c1) 3 [] rfl (by kernel_rfl) (by kernel_rfl) (by kernel_rfl) (by kernel_rfl) (by kernel_rfl) (fun _ _ _ h => h) (Or.inl ⟨by rfl, ?_⟩) (by assumption) ?_
   ·intro wX hSw
    try dsimp only at hSw
    go_simp
    try exact IntWalk.i64_in _ (by omega)
   try simp only [Act.put, List.setIfInBounds_toArray, List.set_cons_zero, List.set_cons_succ]
   refine wpAnyZ_ready (rs := [4]) (by kernel_rfl) (by simp) ?_
   refine AllReadyZ.cons rfl (fun K hK => ?_) AllReadyZ.nil
   go_simp
   refine (copyOp_src _ (hAt m.h k) wd (Nat.le_trans (HOL.out k hlt) (by omega)) (HSR.out wd HBX.out)).mono ?_
   rintro e v1 ⟨u2, rfl, ho, hb9⟩
   obtain ⟨a2, c2, rfl⟩ := owns_slice ho
   have HP1 := hidKCm (HPX.out.below hb9)
   have HC1 := hidKCm (HCX.out.below hb9)
   have HU1 := hidKCm ho
   have HLD := hidKCm HCX.out.old
   have HB1 := hidKCm (HBX.out.trans (hb9.mono HBX.out.size))
   have HS1 : Hid (B ≤ v1.heap.size) := Nat.le_trans HSX.out hb9.size
   have HSD : Hid (B ≤ wd.heap.size) := HSX.out
   have HR1 := hidKCm (HRX.out.below hb9)
   clear ho hb9 HPX HCX HBX HSX HRX
   have HRX := HR1
   have HPX := HP1
   have HCX := HC1
   have HBX := HB1
   have HSX := HS1
   clear HP1 HC1 HB1 HS1 HR1
   try go_simp
   refine hK.out _ _ (HPX.out.cell (i := 3) rfl) (fun hHeld => ?_)
   clear hK K
   try simp only [Act.put, List.setIfInBounds_toArray, List.set_cons_zero, List.set_cons_succ]
   refine wpAnyZ_take (i := 5) (oi := { dst := some 30, op := Op.indexAddr 28 (Operand.tmp 26) (Operand.tmp 27), type := 0, pos := _, after := _, guard := none }) (v := .pointer (some ⟨g, k, none⟩)) 5 [] rfl (by kernel_rfl) (by kernel_rfl) (by kernel_rfl) (by kernel_rfl) (by kernel_rfl) (fun _ _ _ h => h) (Or.inl ⟨by rfl, ?_⟩) (by assumption) ?_
   ·intro wX hSw
    try dsimp only at hSw
    go_simp
    try exact IntWalk.i64_in _ (by omega)
    try (intro h9; exfalso; omega)
   try simp only [Act.put, List.setIfInBounds_toArray, List.set_cons_zero, List.set_cons_succ]
   refine wpAnyZ_ready (rs := [6]) (by kernel_rfl) (by simp) ?_
   refine AllReadyZ.last rfl (fun K hK => ?_)
   obtain ⟨fk, ff⟩ := HCX.out.at_ hlt
   rw [HU9.out] at fk
   obtain ⟨wf, hwf⟩ : ∃ X, v1.setCell ⟨g, k, none⟩ (.slice a2 (hAt m.h k).length c2) = X := ⟨_, rfl⟩
   have HTF : Hid (Turns (fun j => j = g) v1 wf) := hwf ▸ put1_turns _ _ k _
   have HCF : Hid (CmS B wf m (.slice avi m.i.length cvi) (.slice (some ⟨g, 0, none⟩) m.h.length cvh) (.slice avs m.e.length cvs) os (us ++ [.slice a2 (hAt m.h k).length c2]) (k + 1)) := hwf ▸ HCX.out.put hlt HU1.out HSD.out HLD.out
   have HPF := hidKCm (HPX.out.turns HTF.out (fun e => by have h9 := HCX.out.ge; omega))
   have HBF := hidKCm (HBX.out.trans (HTF.out.to_below (fun j hj => by have h9 := HCX.out.ge; omega) HBX.out.size))
   have HSF : Hid (B ≤ wf.heap.size) := Nat.le_trans HSX.out HTF.out.size
   have HRF := hidKCm (HRX.out.turns HTF.out (fun e => by have h9 := HCX.out.ge; omega))
   have HWF : Hid _ := hwf
   clear hwf
   go_simp
   rw [HWF.out]
   clear HWF fk ff HTF HCX HPX HBX HSX HRX
   refine hK.out _ _ ?_
   clear hK K
   try simp only [Act.put, List.setIfInBounds_toArray, List.set_cons_zero, List.set_cons_succ]
   refine wpAnyZ_done (by kernel_rfl) ?_ _
   clear hHeld
   go_wp2
   go_roundw
   case rel => exact ⟨k + 1, _, by omega, by go_num, HCF.out, HPF.out, HRF.out, HBF.out, HSF.out⟩
   case measure => simp [intOf]; omega
  case neg =>
   obtain rfl : k = m.h.length := by omega
   have hkd : decide ((m.h.length : Int) < (m.h.length : Int)) = false := by simp
   obtain ⟨m0, m1, m2, m3, m4, m5⟩ := c6_6 HPr.out
   obtain ⟨r0, r1, r2, r3, r4, r5⟩ := c6_6 HRr.out
   have rf := HRr.out.free
   obtain ⟨wf, hwf⟩ : ∃ X, putM6 wr Rb m.n m.s (.slice avi m.i.length cvi) (.slice avh m.h.length cvh) (.slice avs m.e.length cvs) m.z = X := ⟨_, rfl⟩
   have HTF : Hid (Turns (fun j => j = Rb) wr wf) := hwf ▸ putM6_turns _ _ _ _ _ _ _ _
   have HCF := hidKCm (HCr.out.turns HTF.out (fun j hj e => by omega))
   have HRF : Hid (Bk wf Rb 31 #[.int .i64 m.n, .int .i64 m.s, .slice avi m.i.length cvi, .slice avh m.h.length cvh, .slice avs m.e.length cvs, .int .i64 m.z]) := hwf ▸ (((((HRr.out.put 0 _).put 1 _).put 2 _).put 3 _).put 4 _).put 5 _
   obtain ⟨t0, t1, t2, t3, t4, t5⟩ := c6_6 HRF.out
   unfold putM6 at hwf
   go_wp2
   refine bodyPost_ret (v := .agg #[.int .i64 m.n, .int .i64 m.s, .slice avi m.i.length cvi, .slice avh m.h.length cvh, .slice avs m.e.length cvs, .int .i64 m.z]) (by simp [results, Tryz.results33, go_sem, t0, t1, t2, t3, t4, t5]) rfl ⟨_, rfl, HBr.out.trans (HTF.out.to_below (fun k hk => by omega) HBr.out.size), ?_⟩
   exact HCF.out.mo.mdf.mono (fun k hk => ⟨by omega, hk.2⟩)
end Go.Proofs.YthfhibnnkpbeiaaGreat

/- slices.SortFunc and bits.Len of the library, at this dump (the laying, in plain words). -/
namespace Go.Proofs
open Go.Shelf
def Tryz.sortEv_ren : Go.Shelf.Ren := ⟨fun | 6 => 81 | 15 => 105 | 14 => 104 | 28 => 122 | 29 => 123 | 20 => 114 | 21 => 115 | 22 => 116 | 23 => 117 | 24 => 118 | 25 => 119 | 26 => 120 | 27 => 121 | 46 => 129 | 47 => 130 | 48 => 131 | 49 => 132 | 50 => 133 | 57 => 135 | n => n, fun | 22 => 29 | 24 => 99 | 25 => 118 | 3 => 3 | 39 => 145 | 0 => 0 | 53 => 160 | 55 => 162 | 4 => 4 | 46 => 153 | 45 => 152 | 50 => 157 | 5 => 5 | 9 => 9 | 66 => 169 | 70 => 173 | 76 => 188 | 77 => 189 | n => n, fun | n => n⟩
theorem Tryz.sortEv : Go.Proofs.SlLaysF0.n6 Tryz.prog Tryz.sortEv_ren := {
 mixed := by kernel_rfl
 f6 := ⟨Tryz.f81.name, by decide, Tryz.func81.trans (congrArg some (by kernel_rfl))⟩
 f14 := ⟨Tryz.f104.name, by decide, Tryz.func104.trans (congrArg some (by kernel_rfl))⟩
 f15 := Tryz.func105.trans (congrArg some (by kernel_rfl))
 f20 := ⟨Tryz.f114.name, by decide, Tryz.func114.trans (congrArg some (by kernel_rfl))⟩
 f21 := ⟨Tryz.f115.name, by decide, Tryz.func115.trans (congrArg some (by kernel_rfl))⟩
 f22 := ⟨Tryz.f116.name, by decide, Tryz.func116.trans (congrArg some (by kernel_rfl))⟩
 f23 := ⟨Tryz.f117.name, by decide, Tryz.func117.trans (congrArg some (by kernel_rfl))⟩
 f24 := ⟨Tryz.f118.name, by decide, Tryz.func118.trans (congrArg some (by kernel_rfl))⟩
 f25 := ⟨Tryz.f119.name, by decide, Tryz.func119.trans (congrArg some (by kernel_rfl))⟩
 f26 := ⟨Tryz.f120.name, by decide, Tryz.func120.trans (congrArg some (by kernel_rfl))⟩
 f27 := ⟨Tryz.f121.name, by decide, Tryz.func121.trans (congrArg some (by kernel_rfl))⟩
 f28 := Tryz.func122.trans (congrArg some (by kernel_rfl))
 f29 := Tryz.func123.trans (congrArg some (by kernel_rfl))
 f46 := ⟨Tryz.f129.name, by decide, Tryz.func129.trans (congrArg some (by kernel_rfl))⟩
 f47 := Tryz.func130.trans (congrArg some (by kernel_rfl))
 f48 := Tryz.func131.trans (congrArg some (by kernel_rfl))
 f49 := ⟨Tryz.f132.name, by decide, Tryz.func132.trans (congrArg some (by kernel_rfl))⟩
 f50 := ⟨Tryz.f133.name, by decide, Tryz.func133.trans (congrArg some (by kernel_rfl))⟩
 f57 := ⟨Tryz.f135.name, by decide, Tryz.func135.trans (congrArg some (by kernel_rfl))⟩
 t0 := Tryz.underlying0
 a0 := Tryz.isAgg0
 z0 := Tryz.sizeOf0
 v0 := Tryz.zeroValue0
 t3 := Tryz.underlying3
 a3 := Tryz.isAgg3
 z3 := Tryz.sizeOf3
 v3 := Tryz.zeroValue3
 t4 := Tryz.underlying4
 a4 := Tryz.isAgg4
 z4 := Tryz.sizeOf4
 v4 := Tryz.zeroValue4
 t5 := Tryz.underlying5
 a5 := Tryz.isAgg5
 z5 := Tryz.sizeOf5
 v5 := Tryz.zeroValue5
 t9 := Tryz.underlying9
 a9 := Tryz.isAgg9
 z9 := Tryz.sizeOf9
 v9 := Tryz.zeroValue9
 t22 := Tryz.underlying29
 a22 := Tryz.isAgg29
 z22 := Tryz.sizeOf29
 v22 := Tryz.zeroValue29
 t25 := Tryz.underlying118
 a25 := Tryz.isAgg118
 z25 := Tryz.sizeOf118
 v25 := Tryz.zeroValue118
 t39 := Tryz.underlying145
 a39 := Tryz.isAgg145
 z39 := Tryz.sizeOf145
 v39 := Tryz.zeroValue145
 t45 := Tryz.underlying152
 a45 := Tryz.isAgg152
 z45 := Tryz.sizeOf152
 v45 := Tryz.zeroValue152
 t46 := Tryz.underlying153
 a46 := Tryz.isAgg153
 z46 := Tryz.sizeOf153
 v46 := Tryz.zeroValue153
 t50 := Tryz.underlying157
 a50 := Tryz.isAgg157
 z50 := Tryz.sizeOf157
 v50 := Tryz.zeroValue157
 t53 := Tryz.underlying160
 a53 := Tryz.isAgg160
 z53 := Tryz.sizeOf160
 v53 := Tryz.zeroValue160
 t55 := Tryz.underlying162
 a55 := Tryz.isAgg162
 z55 := Tryz.sizeOf162
 v55 := Tryz.zeroValue162
 t66 := Tryz.underlying169
 a66 := Tryz.isAgg169
 z66 := Tryz.sizeOf169
 v66 := Tryz.zeroValue169
 t70 := Tryz.underlying173
 a70 := Tryz.isAgg173
 z70 := Tryz.sizeOf173
 v70 := Tryz.zeroValue173
 t76 := Tryz.underlying188
 a76 := Tryz.isAgg188
 z76 := Tryz.sizeOf188
 v76 := Tryz.zeroValue188
 t77 := Tryz.underlying189
 a77 := Tryz.isAgg189
 z77 := Tryz.sizeOf189
 v77 := Tryz.zeroValue189 }
def Tryz.bitsLen2_ren : Go.Shelf.Ren := ⟨fun | 125 => 105 | 128 => 122 | 129 => 123 | n => n, fun | 46 => 145 | 3 => 3 | 51 => 160 | 53 => 162 | 4 => 4 | 5 => 5 | 9 => 9 | n => n, fun | n => n⟩
theorem Tryz.bitsLen2 : Go.Proofs.Lays.n125 Tryz.prog Tryz.bitsLen2_ren := {
 mixed := by kernel_rfl
 f125 := Tryz.func105.trans (congrArg some (by kernel_rfl))
 f128 := Tryz.func122.trans (congrArg some (by kernel_rfl))
 f129 := Tryz.func123.trans (congrArg some (by kernel_rfl))
 t3 := Tryz.underlying3
 a3 := Tryz.isAgg3
 z3 := Tryz.sizeOf3
 v3 := Tryz.zeroValue3
 t4 := Tryz.underlying4
 a4 := Tryz.isAgg4
 z4 := Tryz.sizeOf4
 v4 := Tryz.zeroValue4
 t5 := Tryz.underlying5
 a5 := Tryz.isAgg5
 z5 := Tryz.sizeOf5
 v5 := Tryz.zeroValue5
 t9 := Tryz.underlying9
 a9 := Tryz.isAgg9
 z9 := Tryz.sizeOf9
 v9 := Tryz.zeroValue9
 t46 := Tryz.underlying145
 a46 := Tryz.isAgg145
 z46 := Tryz.sizeOf145
 v46 := Tryz.zeroValue145
 t51 := Tryz.underlying160
 a51 := Tryz.isAgg160
 z51 := Tryz.sizeOf160
 v51 := Tryz.zeroValue160
 t53 := Tryz.underlying162
 a53 := Tryz.isAgg162
 z53 := Tryz.sizeOf162
 v53 := Tryz.zeroValue162 }
end Go.Proofs

