/- MBy, MByI, MDeed, MAskI, MByP -/
import Derived.Test.YtbljfphdghfkfaaGreatDoorModelsCardG09
import Derived.Test.YtbljfphdghfkfaaGreatDoorModelsCardG17
import Derived.Test.YtbljfphdghfkfaaGreatDoorModelsCardG05
import Derived.Test.YtbljfphdghfkfaaGreatDoorModelsCardLMOpI
/- Rows of bytes that grow. -/
namespace Go.Proofs.YtbljfphdghfkfaaGreatDoor
open Go.RowKit
def byteOf (z : Int) : UInt8 := UInt8.ofNat (z % 256).toNat
theorem byteOf_val (z : Int) : ((byteOf z).toNat : Int) = z % 256 := by
 unfold byteOf
 have h1 : 0 ≤ z % 256 := Int.emod_nonneg _ (by omega)
 have h2 : z % 256 < 256 := Int.emod_lt_of_pos _ (by omega)
 rw [UInt8.toNat_ofNat']
 omega
def twoB (z : Int) : List UInt8 := [byteOf (z / 256), byteOf z]
def RowBy (B : Nat) (w : World) (x : Value) (l : List UInt8) : Prop := w.ownsRow B 5 1 x l.length (By.intCells l)
theorem byCells_append (l l' : List UInt8) : By.intCells (l ++ l') = By.intCells l ++ By.intCells l' := by simp [By.intCells]
theorem RowBy.own {B : Nat} {w : World} {x : Value} {l : List UInt8} (h : RowBy B w x l) : By.OwnI B w x l := By.OwnI.of_row h
theorem RowBy.mono {B B' : Nat} {w : World} {x : Value} {l : List UInt8} (h : RowBy B w x l) (hB : B' ≤ B) : RowBy B' w x l := by
 obtain ⟨h0, h1 | ⟨g, cap, cur, e, hg, h1⟩⟩ := h
 ·exact ⟨h0, .inl h1⟩
 ·exact ⟨h0, .inr ⟨g, cap, cur, e, Nat.le_trans hB hg, h1⟩⟩
theorem RowBy.below {B : Nat} {w w' : World} {x : Value} {l : List UInt8} (h : RowBy B w x l) (hb : Below w.heap.size w w') : RowBy B w' x l := by
 obtain ⟨h0, h1 | ⟨g, cap, cur, e, hg, hc, h1⟩⟩ := h
 ·exact ⟨h0, .inl h1⟩
 ·exact ⟨h0, .inr ⟨g, cap, cur, e, hg, (hb.block g (Array.getElem?_eq_some_iff.1 hc).1).trans hc, h1⟩⟩
theorem RowBy.ne {B : Nat} {w : World} {x : Value} {l : List UInt8} (h : RowBy B w x l) {P : Nat} {T : TypeId} {vs : Array Value} (hb : Bk w P T vs) (hT : T ≠ 5) : ¬ x.ownBlock = some P := by
 intro e
 obtain ⟨_, ⟨rfl, _⟩ | ⟨g, cap, cur, rfl, _, hc, _⟩⟩ := h
 ·simp [Value.ownBlock] at e
 ·simp [Value.ownBlock] at e
  subst e
  have hb' : w.heap[g]? = some (.cells vs T) := hb
  rw [hb'] at hc
  simp at hc
  exact hT hc.2
theorem at_new2 (w : World) (a b : Value) : ∀ j u, [a, b][j]? = some u → (w.alloc (.cells #[a, b] 5)).cell? ((⟨w.heap.size, 0, none⟩ : Addr).add j) = some u := by
 intro j u hu
 match j, hu with
 | 0, hu => simp at hu; subst hu; simp [Addr.add]
 | 1, hu => simp at hu; subst hu; simp [Addr.add]
 | (j + 2), hu => simp at hu
theorem at_new1 (w : World) (a : Value) : ∀ j u, [a][j]? = some u → (w.alloc (.cells #[a] 5)).cell? ((⟨w.heap.size, 0, none⟩ : Addr).add j) = some u := by
 intro j u hu
 match j, hu with
 | 0, hu => simp at hu; subst hu; simp [Addr.add]
 | (j + 1), hu => simp at hu
theorem RowBy.grow {B : Nat} {w : World} {v : Value} {l r : List UInt8} {n : Nat} {cs : List Value} (h : w.ownsRow B 5 1 v (l.length + n) (By.intCells l ++ cs)) (hcs : By.intCells r = cs) (hn : r.length = n) : RowBy B w v (l ++ r) := by
 subst hcs hn
 unfold RowBy
 rw [List.length_append, byCells_append]
 exact h
theorem cells_one (z : Int) : By.intCells [byteOf z] = [.int .u8 (z % 256)] := by simp [By.intCells, byteOf_val]
theorem cells_oneS {z : Int} (h0 : 0 ≤ z) (h1 : z ≤ 255) : By.intCells [byteOf z] = [.int .u8 z] := by rw [cells_one, show z % 256 = z by omega]
theorem cells_pair {z y : Int} (h0 : 0 ≤ z) (h1 : z ≤ 255) (h2 : 0 ≤ y) (h3 : y ≤ 255) : By.intCells [byteOf z, byteOf y] = [.int .u8 z, .int .u8 y] := by
 have e : By.intCells [byteOf z, byteOf y] = By.intCells [byteOf z] ++ By.intCells [byteOf y] := rfl
 rw [e, cells_oneS h0 h1, cells_oneS h2 h3]
 rfl
theorem cells_two (z : Int) : By.intCells (twoB z) = [.int .u8 (z / 256 % 256), .int .u8 (z % 256)] := by simp [By.intCells, twoB, byteOf_val]
theorem cells_twoS {z : Int} (h0 : 0 ≤ z) (h1 : z ≤ 65535) : By.intCells (twoB z) = [.int .u8 (z / 256), .int .u8 (z % 256)] := by rw [cells_two, show z / 256 % 256 = z / 256 by omega]
set_option maxRecDepth 100000 in
set_option maxHeartbeats 1000000 in
theorem sTwo_any (B : Nat) (x : Value) (l : List UInt8) (z : Int) (w : World) (hB : B ≤ w.heap.size) (hl : l.length ≤ 1000000) (h : RowBy B w x l) :
  Calls Tryz.prog 80 #[x, .int .i64 z] w fun e w' => ∃ y, e = .returned y ∧ RowBy B w' y (l ++ twoB z) ∧ Turns (fun k => x.ownBlock = some k) w w' := by
 obtain ⟨i0, hi, hz0, hz1, hz2⟩ := info_parts By.info5
 have HR : Hid (RowBy B w x l) := h
 clear h
 go_enter Tryz.func80, Tryz.ntmps80
 go_wp2_with (at_builtin; refine wpList_append_own _ rfl _ _ 22 rfl B 5 i0 (.int .u8 0) 1 1 Tryz.underlying22 hi hz0 hz1 hz2 rfl (by decide) x _ _ rfl (World.ownsRow.alloc HR.out _) ⟨w.heap.size, 0, none⟩ 2 2 [.int .u8 (z / 256 % 256), .int .u8 (z % 256)] rfl rfl (at_new2 _ _ _) (fun u hu => by simp at hu; first | (subst hu; rfl) | (rcases hu with rfl | rfl <;> rfl)) (by unfold maxLen; omega) (by omega) (by simp; omega) ?_; intro v' w2 hown hgrow hnil)
 go_ret
 exact ⟨_, rfl, RowBy.grow hown (cells_two z) rfl, ((Turns.refl _ w).alloc _).trans (grown_turns hgrow)⟩
set_option maxRecDepth 100000 in
set_option maxHeartbeats 1000000 in
theorem iTwo_any (B : Nat) (x : Value) (l : List UInt8) (z : Int) (w : World) (hB : B ≤ w.heap.size) (hl : l.length ≤ 1000000) (hz : 0 ≤ z) (hz9 : z ≤ 65535) (h : RowBy B w x l) :
  Calls Tryz.prog 26 #[x, .int .i64 z] w fun e w' => ∃ y, e = .returned y ∧ RowBy B w' y (l ++ twoB z) ∧ Turns (fun k => x.ownBlock = some k) w w' := by
 obtain ⟨i0, hi, hz0, hz1, hz2⟩ := info_parts By.info5
 have HR : Hid (RowBy B w x l) := h
 have HZ : Hid (0 ≤ z ∧ z ≤ 65535) := ⟨hz, hz9⟩
 clear h
 go_enter Tryz.func26, Tryz.ntmps26
 go_wp2_with (at_builtin; refine wpList_append_own _ rfl _ _ 22 rfl B 5 i0 (.int .u8 0) 1 1 Tryz.underlying22 hi hz0 hz1 hz2 rfl (by decide) x _ _ rfl (World.ownsRow.alloc HR.out _) ⟨w.heap.size, 0, none⟩ 2 2 [.int .u8 (z / 256), .int .u8 (z % 256)] rfl rfl (at_new2 _ _ _) (fun u hu => by simp at hu; first | (subst hu; rfl) | (rcases hu with rfl | rfl <;> rfl)) (by unfold maxLen; omega) (by omega) (by simp; omega) ?_; intro v' w2 hown hgrow hnil)
 go_ret
 exact ⟨_, rfl, RowBy.grow hown (cells_twoS HZ.out.1 HZ.out.2) rfl, ((Turns.refl _ w).alloc _).trans (grown_turns hgrow)⟩
end Go.Proofs.YtbljfphdghfkfaaGreatDoor

/- The program's ModelBytes: a handler, an event. -/
namespace Go.Proofs.YtbljfphdghfkfaaGreatDoor
open Go.RowKit
def opB (o : O) : List UInt8 := [byteOf o.c, byteOf o.a] ++ twoB o.b ++ [byteOf o.k]
def opsB (r : List O) : Nat → List UInt8
 | 0 => []
 | k + 1 => opsB r k ++ opB (oAt r k)
def rowBs (r : List O) : List UInt8 := [byteOf (r.length : Int)] ++ opsB r r.length
def evB (e : Ev) : List UInt8 := twoB e.t ++ [byteOf e.d, byteOf e.k] ++ twoB e.v
theorem opB_length (o : O) : (opB o).length = 5 := rfl
theorem evB_length (e : Ev) : (evB e).length = 6 := rfl
theorem opsB_length (r : List O) : ∀ k, (opsB r k).length = 5 * k
 | 0 => rfl
 | k + 1 => by simp [opsB, opsB_length r k, opB_length]; omega
theorem twoB_length (z : Int) : (twoB z).length = 2 := rfl
def small (o : O) : Prop := 0 ≤ o.c ∧ o.c ≤ 255 ∧ 0 ≤ o.a ∧ o.a ≤ 255 ∧ 0 ≤ o.b ∧ o.b ≤ 65535 ∧ 0 ≤ o.k ∧ o.k ≤ 255
set_option maxRecDepth 100000 in
set_option maxHeartbeats 4000000 in
theorem handler_any (B : Nat) (x u : Value) (l : List UInt8) (r : List O) (w : World) (hB : B ≤ w.heap.size) (hl : l.length ≤ 10000) (hr : r.length ≤ 255) (hsm : ∀ q, q < r.length → small (oAt r q)) (h : RowBy B w x l) (hu : ∃ a cap, u = .slice a r.length cap ∧ (r = [] ∨ ∃ b off, a = some ⟨b, off, none⟩ ∧ b < B ∧ OsAt w b off r)) :
  Calls Tryz.prog 27 #[x, u] w fun e w' => ∃ y, e = .returned y ∧ RowBy B w' y (l ++ rowBs r) ∧ Below B w w' := by
 obtain ⟨i0, hi, hz0, hz1, hz2⟩ := info_parts By.info5
 obtain ⟨a1, c1, rfl, hu⟩ := hu
 have HR : Hid (RowBy B w x l) := h
 have HU : Hid (r = [] ∨ ∃ b off, a1 = some ⟨b, off, none⟩ ∧ b < B ∧ OsAt w b off r) := hu
 have HSM : Hid (∀ q, q < r.length → small (oAt r q)) := hsm
 have hr0 : (0 : Int) ≤ (r.length : Int) := by omega
 have hr1 : (r.length : Int) ≤ 255 := by omega
 clear h hu hsm
 go_enter Tryz.func27, Tryz.ntmps27
 go_wp2_with (at_builtin; refine wpList_append_own _ rfl _ _ 22 rfl B 5 i0 (.int .u8 0) 1 1 Tryz.underlying22 hi hz0 hz1 hz2 rfl (by decide) x _ _ rfl (World.ownsRow.alloc HR.out _) ⟨w.heap.size, 0, none⟩ 1 1 [.int .u8 (r.length : Int)] rfl rfl (at_new1 _ _) (fun u hu => by simp at hu; first | (subst hu; rfl) | (rcases hu with rfl | rfl <;> rfl)) (by unfold maxLen; omega) (by omega) (by simp; omega) ?_; intro v1 w1 hown hgrow hnil)
 have HR1 : Hid (RowBy B w1 v1 (l ++ [byteOf (r.length : Int)])) := RowBy.grow hown (cells_oneS hr0 hr1) rfl
 have HB1 : Hid (Below B w w1) := ((Below.refl B w).alloc hB _).grown hgrow (by simp; omega) (fun j e => row_ge HR.out e)
 clear hown hgrow hnil
 have hll : (l ++ [byteOf (r.length : Int)]).length = l.length + 1 := by simp
 have HLL : Hid (l ++ rowBs r = (l ++ [byteOf (r.length : Int)]) ++ opsB r r.length) := (by simp [rowBs] : l ++ rowBs r = (l ++ [byteOf (r.length : Int)]) ++ opsB r r.length)
 generalize l ++ [byteOf (r.length : Int)] = l1 at HR1 HLL hll
 go_loopw [0, 15] (fun o i wr => ∃ (q : Nat) (v : Value), q ≤ r.length ∧ v = o ∧ i = .int .i64 q ∧ RowBy B wr o (l1 ++ opsB r q) ∧ Below B w wr) (fun _ i _ => r.length - (intOf i).toNat)
 case atStart => exact ⟨0, _, Nat.zero_le _, rfl, rfl, by simpa [opsB] using HR1.out, HB1.out⟩
 case round =>
  clear HR1 HB1
  obtain ⟨q, o, hq, rfl, rfl, hR, hBw⟩ := hrel
  have HR1 : Hid (RowBy B wr o (l1 ++ opsB r q)) := hR
  have HB1 : Hid (Below B w wr) := hBw
  have hs1 : B ≤ wr.heap.size := Nat.le_trans hB hBw.size
  have hln : (l1 ++ opsB r q).length ≤ 12000 := by rw [List.length_append, opsB_length]; omega
  have HN : Hid (l1 ++ opsB r (q + 1) = (l1 ++ opsB r q) ++ opB (oAt r q)) := (by simp [opsB] : l1 ++ opsB r (q + 1) = (l1 ++ opsB r q) ++ opB (oAt r q))
  generalize hlq : l1 ++ opsB r q = lq at HR1 hln HN
  have HLQ : Hid (l1 ++ opsB r q = lq) := hlq
  clear hlq
  clear hR
  by_cases hlt : q < r.length
  ·obtain ⟨b, off, rfl, hb, hb2, hc⟩ := HU.out.resolve_left (by intro e; rw [e] at hlt; simp at hlt)
   obtain ⟨g0, g1, g2, g3⟩ := (hc q hlt).below hBw hb
   obtain ⟨s0, s1, s2, s3, s4, s5, s6, s7⟩ := HSM.out q hlt
   generalize oAt r q = e at g0 g1 g2 g3 HN s0 s1 s2 s3 s4 s5 s6 s7
   obtain ⟨c, a, b2, k2⟩ := e
   simp only at s0 s1 s2 s3 s4 s5 s6 s7
   have HSS : Hid ((0 ≤ c ∧ c ≤ 255 ∧ 0 ≤ a ∧ a ≤ 255) ∧ (0 ≤ b2 ∧ b2 ≤ 65535) ∧ 0 ≤ k2 ∧ k2 ≤ 255) := ⟨⟨s0, s1, s2, s3⟩, ⟨s4, s5⟩, s6, s7⟩
   clear hc hBw
   obtain ⟨V, hV⟩ : ∃ V, wr.alloc (.cells #[.int .i64 c, .int .i64 a, .int .i64 b2, .int .i64 k2] 39) = V := ⟨_, rfl⟩
   have hsV : B ≤ V.heap.size := by rw [← hV]; simp; omega
   have HBV : Hid (Below B w V) := hV ▸ HB1.out.alloc hs1 _
   have HRV : Hid (RowBy B V o lq) := hV ▸ World.ownsRow.alloc HR1.out _
   have HQV : Hid (Bk V wr.heap.size 39 #[.int .i64 c, .int .i64 a, .int .i64 b2, .int .i64 k2]) := hV ▸ Bk.new _ _ _
   have e0 := HQV.out.cell (i := 0) rfl
   have e1 := HQV.out.cell (i := 1) rfl
   clear HB1 HR1
   go_wp2_with (at_builtin; refine wpList_append_own _ rfl _ _ 22 rfl B 5 i0 (.int .u8 0) 1 1 Tryz.underlying22 hi hz0 hz1 hz2 rfl (by decide) o _ _ rfl (World.ownsRow.alloc HRV.out _) ⟨V.heap.size, 0, none⟩ 2 2 [.int .u8 c, .int .u8 a] rfl rfl (at_new2 _ _ _) (fun u hu => by simp at hu; first | (subst hu; rfl) | (rcases hu with rfl | rfl <;> rfl)) (by unfold maxLen; omega) (by omega) (by simp; omega) ?_; intro v2 w2 hown hgrow hnil; have HR2 : Hid (RowBy B w2 v2 (lq ++ [byteOf c, byteOf a])) := RowBy.grow hown (cells_pair HSS.out.1.1 HSS.out.1.2.1 HSS.out.1.2.2.1 HSS.out.1.2.2.2) rfl; have HB2 : Hid (Below B w w2) := (HBV.out.alloc (by omega) _).grown hgrow (by simp; omega) (fun j e => row_ge HRV.out e); have HQ2 : Hid (Bk w2 wr.heap.size 39 #[.int .i64 c, .int .i64 a, .int .i64 b2, .int .i64 k2]) := (HQV.out.alloc _).turns (grown_turns hgrow) (HRV.out.ne HQV.out (by decide)); have e2 := HQ2.out.cell (i := 2) rfl; clear hown hgrow hnil)
   have hs2 : B ≤ w2.heap.size := Nat.le_trans hB HB2.out.size
   clear e0 e1 e2 g0 g1 g2 g3 hV HBV HRV HQV
   refine (iTwo_any B _ _ _ _ hs2 (by rw [List.length_append]; simp; omega) HSS.out.2.1.1 HSS.out.2.1.2 HR2.out).mono ?_
   rintro e w3 ⟨v3, rfl, hr3, ht3⟩
   have HR3 : Hid (RowBy B w3 v3 (lq ++ [byteOf c, byteOf a] ++ twoB b2)) := hr3
   have HB3 : Hid (Below B w w3) := HB2.out.trans (ht3.to_below (fun k e => row_ge HR2.out e) hs2)
   have HQ3 : Hid (Bk w3 wr.heap.size 39 #[.int .i64 c, .int .i64 a, .int .i64 b2, .int .i64 k2]) := HQ2.out.turns ht3 (HR2.out.ne HQ2.out (by decide))
   have e3 := HQ3.out.cell (i := 3) rfl
   have hs3 : B ≤ w3.heap.size := Nat.le_trans hB HB3.out.size
   have hl3 : (lq ++ [byteOf c, byteOf a] ++ twoB b2).length ≤ 12004 := by rw [List.length_append, List.length_append, twoB_length]; simp; omega
   clear hr3 ht3 HR2 HB2 HQ2
   go_wp2_with (at_builtin; refine wpList_append_own _ rfl _ _ 22 rfl B 5 i0 (.int .u8 0) 1 1 Tryz.underlying22 hi hz0 hz1 hz2 rfl (by decide) v3 _ _ rfl (World.ownsRow.alloc HR3.out _) ⟨w3.heap.size, 0, none⟩ 1 1 [.int .u8 k2] rfl rfl (at_new1 _ _) (fun u hu => by simp at hu; first | (subst hu; rfl) | (rcases hu with rfl | rfl <;> rfl)) (by unfold maxLen; omega) (by omega) (by simp; omega) ?_; intro v4 w4 hown hgrow hnil)
   go_roundw
   case rel =>
    refine ⟨q + 1, _, by omega, rfl, by go_num, ?_, (HB3.out.alloc hs3 _).grown hgrow (by simp; omega) (fun j e => row_ge HR3.out e)⟩
    have := RowBy.grow hown (cells_oneS HSS.out.2.2.1 HSS.out.2.2.2) rfl
    rw [HN.out]
    simpa [opB] using this
   case measure => simp [intOf]; omega
  ·obtain rfl : q = r.length := by omega
   clear hBw
   go_wp2
   go_ret
   exact ⟨_, rfl, by rw [HLL.out, HLQ.out]; exact HR1.out, HB1.out⟩
set_option maxRecDepth 100000 in
set_option maxHeartbeats 4000000 in
theorem start_any (B : Nat) (x : Value) (l : List UInt8) (t s1 qq d kk v g : Int) (w : World) (hB : B ≤ w.heap.size) (hl : l.length ≤ 10000) (ht0 : 0 ≤ t) (ht1 : t ≤ 65535) (hd0 : 0 ≤ d) (hd1 : d ≤ 255) (hk0 : 0 ≤ kk) (hk1 : kk ≤ 255) (hv0 : 0 ≤ v) (hv1 : v ≤ 65535) (h : RowBy B w x l) :
  Calls Tryz.prog 28 #[x, .agg #[.int .i64 t, .int .i64 s1, .int .i64 qq, .int .i64 d, .int .i64 kk, .int .i64 v, .int .i64 g]] w fun e w' => ∃ y, e = .returned y ∧ RowBy B w' y (l ++ evB ⟨t, s1, qq, d, kk, v, g⟩) ∧ Below B w w' := by
 obtain ⟨i0, hi, hz0, hz1, hz2⟩ := info_parts By.info5
 obtain ⟨V, hV⟩ : ∃ V, w.alloc (.cells #[.int .i64 t, .int .i64 s1, .int .i64 qq, .int .i64 d, .int .i64 kk, .int .i64 v, .int .i64 g] 53) = V := ⟨_, rfl⟩
 have HBV : Hid (Below B w V) := hV ▸ (Below.refl B w).alloc hB _
 have HRV : Hid (RowBy B V x l) := hV ▸ World.ownsRow.alloc h _
 have HQV : Hid (Bk V w.heap.size 53 #[.int .i64 t, .int .i64 s1, .int .i64 qq, .int .i64 d, .int .i64 kk, .int .i64 v, .int .i64 g]) := hV ▸ Bk.new _ _ _
 have HT : Hid ((0 ≤ t ∧ t ≤ 65535) ∧ (0 ≤ v ∧ v ≤ 65535)) := ⟨⟨ht0, ht1⟩, hv0, hv1⟩
 have hsV : B ≤ V.heap.size := Nat.le_trans hB HBV.out.size
 have e0 := HQV.out.cell (i := 0) rfl
 clear h ht0 ht1 hv0 hv1
 go_enter Tryz.func28, Tryz.ntmps28
 go_wp2_with fail
 clear e0 hV
 refine (iTwo_any B _ _ _ _ hsV (by omega) HT.out.1.1 HT.out.1.2 HRV.out).mono ?_
 rintro e w2 ⟨v2, rfl, hr2, ht2⟩
 have HR2 : Hid (RowBy B w2 v2 (l ++ twoB t)) := hr2
 have HB2 : Hid (Below B w w2) := HBV.out.trans (ht2.to_below (fun k e => row_ge HRV.out e) hsV)
 have HQ2 : Hid (Bk w2 w.heap.size 53 #[.int .i64 t, .int .i64 s1, .int .i64 qq, .int .i64 d, .int .i64 kk, .int .i64 v, .int .i64 g]) := HQV.out.turns ht2 (HRV.out.ne HQV.out (by decide))
 have hs2 : B ≤ w2.heap.size := Nat.le_trans hB HB2.out.size
 have hl2 : (l ++ twoB t).length ≤ 10002 := by rw [List.length_append, twoB_length]; omega
 have HLD : Hid (l ++ evB ⟨t, s1, qq, d, kk, v, g⟩ = (l ++ twoB t) ++ [byteOf d, byteOf kk] ++ twoB v) := (by simp [evB] : l ++ evB ⟨t, s1, qq, d, kk, v, g⟩ = (l ++ twoB t) ++ [byteOf d, byteOf kk] ++ twoB v)
 generalize l ++ twoB t = l2 at HR2 hl2 HLD
 have e3 := HQ2.out.cell (i := 3) rfl
 have e4 := HQ2.out.cell (i := 4) rfl
 clear hr2 ht2 HBV HRV HQV
 go_wp2_with (at_builtin; refine wpList_append_own _ rfl _ _ 22 rfl B 5 i0 (.int .u8 0) 1 1 Tryz.underlying22 hi hz0 hz1 hz2 rfl (by decide) v2 _ _ rfl (World.ownsRow.alloc HR2.out _) ⟨w2.heap.size, 0, none⟩ 2 2 [.int .u8 d, .int .u8 kk] rfl rfl (at_new2 _ _ _) (fun u hu => by simp at hu; first | (subst hu; rfl) | (rcases hu with rfl | rfl <;> rfl)) (by unfold maxLen; omega) (by omega) (by simp; omega) ?_; intro v3 w3 hown hgrow hnil; have HR3 : Hid (RowBy B w3 v3 (l2 ++ [byteOf d, byteOf kk])) := RowBy.grow hown (cells_pair hd0 hd1 hk0 hk1) rfl; have HB3 : Hid (Below B w w3) := (HB2.out.alloc hs2 _).grown hgrow (by simp; omega) (fun j e => row_ge HR2.out e); have HQ3 : Hid (Bk w3 w.heap.size 53 #[.int .i64 t, .int .i64 s1, .int .i64 qq, .int .i64 d, .int .i64 kk, .int .i64 v, .int .i64 g]) := (HQ2.out.alloc _).turns (grown_turns hgrow) (HR2.out.ne HQ2.out (by decide)); have e5 := HQ3.out.cell (i := 5) rfl; clear hown hgrow hnil)
 have hs3 : B ≤ w3.heap.size := Nat.le_trans hB HB3.out.size
 refine (iTwo_any B _ _ _ _ hs3 (by rw [List.length_append]; simp; omega) HT.out.2.1 HT.out.2.2 HR3.out).mono ?_
 rintro e w4 ⟨v4, rfl, hr4, ht4⟩
 have HR4 : Hid (RowBy B w4 v4 (l2 ++ [byteOf d, byteOf kk] ++ twoB v)) := hr4
 have HB4 : Hid (Below B w w4) := HB3.out.trans (ht4.to_below (fun k e => row_ge HR3.out e) hs3)
 clear hr4 ht4 e3 e4 e5
 go_wp2
 go_ret
 exact ⟨_, rfl, by rw [HLD.out]; exact HR4.out, HB4.out⟩
end Go.Proofs.YtbljfphdghfkfaaGreatDoor

/- What an op is told as, whatever its code; whether it asks. -/
namespace Go.Proofs.YtbljfphdghfkfaaGreatDoor
open Go.RowKit
def deedV (c a b k : Int) : Value :=
 if c = 0 then vAdd a b
 else if c = 1 then vTake a
 else if c = 2 then vSend a b k
 else if c = 3 then vSkip a b k
 else if c = 4 then vAsk a b
 else if c = 5 then vEmit a
 else if c = 6 then vDraw a b
 else .nilIface
theorem deedOf_any (c a b k : Int) (w : World) : Calls Tryz.prog 42 #[.agg #[.int .i64 c, .int .i64 a, .int .i64 b, .int .i64 k]] w fun e w' => e = .returned (deedV c a b k) ∧ Below w.heap.size w w' := by
 have hc : c = 0 ∨ c = 1 ∨ c = 2 ∨ c = 3 ∨ c = 4 ∨ c = 5 ∨ c = 6 ∨ (¬ c = 0 ∧ ¬ c = 1 ∧ ¬ c = 2 ∧ ¬ c = 3 ∧ ¬ c = 4 ∧ ¬ c = 5 ∧ ¬ c = 6) := by omega
 rcases hc with rfl | rfl | rfl | rfl | rfl | rfl | rfl | ⟨c0, c1, c2, c3, c4, c5, c6⟩
 ·exact deed_adding _ _ _ _
 ·exact deed_taking _ _ _ _
 ·exact deed_sending _ _ _ _
 ·exact deed_skipping _ _ _ _
 ·exact deed_asking _ _ _ _
 ·exact deed_emitting _ _ _ _
 ·exact deed_drawing _ _ _ _
 ·have e : deedV c a b k = .nilIface := by simp [deedV, c0, c1, c2, c3, c4, c5, c6]
  rw [e]
  exact deed_none _ _ _ _ _ c0 c1 c2 c3 c4 c5 c6
set_option maxRecDepth 100000 in
set_option maxHeartbeats 1000000 in
theorem ask_adding (x y : Int) (w : World) : Calls Tryz.prog 41 #[vAdd x y] w fun e w' => e = .returned (.tuple #[.int .i64 0, .bool false]) ∧ Below w.heap.size w w' := by
 have q0 : ∀ W : World, (Instr.typeAssert (vAdd x y) 80 132 true).run Tryz.prog W = .ok (.tuple #[.agg #[.int .i64 0, .int .i64 0], .bool false]) W := fun W => by kernel_rfl
 go_enter Tryz.func41, Tryz.ntmps41
 go_wp2
 go_ret2
 exact ⟨rfl, (Below.refl _ _).alloc (Nat.le_refl _) _⟩
set_option maxRecDepth 100000 in
set_option maxHeartbeats 1000000 in
theorem ask_taking (x : Int) (w : World) : Calls Tryz.prog 41 #[vTake x] w fun e w' => e = .returned (.tuple #[.int .i64 0, .bool false]) ∧ Below w.heap.size w w' := by
 have q0 : ∀ W : World, (Instr.typeAssert (vTake x) 80 132 true).run Tryz.prog W = .ok (.tuple #[.agg #[.int .i64 0, .int .i64 0], .bool false]) W := fun W => by kernel_rfl
 go_enter Tryz.func41, Tryz.ntmps41
 go_wp2
 go_ret2
 exact ⟨rfl, (Below.refl _ _).alloc (Nat.le_refl _) _⟩
set_option maxRecDepth 100000 in
set_option maxHeartbeats 1000000 in
theorem ask_sending (x y t : Int) (w : World) : Calls Tryz.prog 41 #[vSend x y t] w fun e w' => e = .returned (.tuple #[.int .i64 0, .bool false]) ∧ Below w.heap.size w w' := by
 have q0 : ∀ W : World, (Instr.typeAssert (vSend x y t) 80 132 true).run Tryz.prog W = .ok (.tuple #[.agg #[.int .i64 0, .int .i64 0], .bool false]) W := fun W => by kernel_rfl
 go_enter Tryz.func41, Tryz.ntmps41
 go_wp2
 go_ret2
 exact ⟨rfl, (Below.refl _ _).alloc (Nat.le_refl _) _⟩
set_option maxRecDepth 100000 in
set_option maxHeartbeats 1000000 in
theorem ask_skipping (x y t : Int) (w : World) : Calls Tryz.prog 41 #[vSkip x y t] w fun e w' => e = .returned (.tuple #[.int .i64 0, .bool false]) ∧ Below w.heap.size w w' := by
 have q0 : ∀ W : World, (Instr.typeAssert (vSkip x y t) 80 132 true).run Tryz.prog W = .ok (.tuple #[.agg #[.int .i64 0, .int .i64 0], .bool false]) W := fun W => by kernel_rfl
 go_enter Tryz.func41, Tryz.ntmps41
 go_wp2
 go_ret2
 exact ⟨rfl, (Below.refl _ _).alloc (Nat.le_refl _) _⟩
set_option maxRecDepth 100000 in
set_option maxHeartbeats 1000000 in
theorem ask_asking (x y : Int) (w : World) : Calls Tryz.prog 41 #[vAsk x y] w fun e w' => e = .returned (.tuple #[.int .i64 x, .bool true]) ∧ Below w.heap.size w w' := by
 have q0 : ∀ W : World, (Instr.typeAssert (vAsk x y) 80 132 true).run Tryz.prog W = .ok (.tuple #[.agg #[.int .i64 x, .int .i64 y], .bool true]) W := fun W => by kernel_rfl
 go_enter Tryz.func41, Tryz.ntmps41
 go_wp2
 go_ret2
 exact ⟨rfl, (Below.refl _ _).alloc (Nat.le_refl _) _⟩
set_option maxRecDepth 100000 in
set_option maxHeartbeats 1000000 in
theorem ask_emitting (x : Int) (w : World) : Calls Tryz.prog 41 #[vEmit x] w fun e w' => e = .returned (.tuple #[.int .i64 0, .bool false]) ∧ Below w.heap.size w w' := by
 have q0 : ∀ W : World, (Instr.typeAssert (vEmit x) 80 132 true).run Tryz.prog W = .ok (.tuple #[.agg #[.int .i64 0, .int .i64 0], .bool false]) W := fun W => by kernel_rfl
 go_enter Tryz.func41, Tryz.ntmps41
 go_wp2
 go_ret2
 exact ⟨rfl, (Below.refl _ _).alloc (Nat.le_refl _) _⟩
set_option maxRecDepth 100000 in
set_option maxHeartbeats 1000000 in
theorem ask_drawing (x y : Int) (w : World) : Calls Tryz.prog 41 #[vDraw x y] w fun e w' => e = .returned (.tuple #[.int .i64 0, .bool false]) ∧ Below w.heap.size w w' := by
 have q0 : ∀ W : World, (Instr.typeAssert (vDraw x y) 80 132 true).run Tryz.prog W = .ok (.tuple #[.agg #[.int .i64 0, .int .i64 0], .bool false]) W := fun W => by kernel_rfl
 go_enter Tryz.func41, Tryz.ntmps41
 go_wp2
 go_ret2
 exact ⟨rfl, (Below.refl _ _).alloc (Nat.le_refl _) _⟩
set_option maxRecDepth 100000 in
set_option maxHeartbeats 1000000 in
theorem ask_none (w : World) : Calls Tryz.prog 41 #[.nilIface] w fun e w' => e = .returned (.tuple #[.int .i64 0, .bool false]) ∧ Below w.heap.size w w' := by
 have q0 : ∀ W : World, (Instr.typeAssert (.nilIface) 80 132 true).run Tryz.prog W = .ok (.tuple #[.agg #[.int .i64 0, .int .i64 0], .bool false]) W := fun W => by kernel_rfl
 go_enter Tryz.func41, Tryz.ntmps41
 go_wp2
 go_ret2
 exact ⟨rfl, (Below.refl _ _).alloc (Nat.le_refl _) _⟩
theorem askOf_any (c a b k : Int) (w : World) : Calls Tryz.prog 41 #[deedV c a b k] w fun e w' => e = .returned (.tuple #[.int .i64 (if c = 4 then a else 0), .bool (decide (c = 4))]) ∧ Below w.heap.size w w' := by
 have hc : c = 0 ∨ c = 1 ∨ c = 2 ∨ c = 3 ∨ c = 4 ∨ c = 5 ∨ c = 6 ∨ (¬ c = 0 ∧ ¬ c = 1 ∧ ¬ c = 2 ∧ ¬ c = 3 ∧ ¬ c = 4 ∧ ¬ c = 5 ∧ ¬ c = 6) := by omega
 rcases hc with rfl | rfl | rfl | rfl | rfl | rfl | rfl | ⟨c0, c1, c2, c3, c4, c5, c6⟩
 ·exact ask_adding _ _ _
 ·exact ask_taking _ _
 ·exact ask_sending _ _ _ _
 ·exact ask_skipping _ _ _ _
 ·exact ask_asking _ _ _
 ·exact ask_emitting _ _
 ·exact ask_drawing _ _ _
 ·have e : deedV c a b k = .nilIface := by simp [deedV, c0, c1, c2, c3, c4, c5, c6]
  rw [e, if_neg c4, decide_eq_false c4]
  exact ask_none _
end Go.Proofs.YtbljfphdghfkfaaGreatDoor

/- The program's AsksOf. -/
namespace Go.Proofs.YtbljfphdghfkfaaGreatDoor
open Go.RowKit
def arrV (f : Nat → Bool) : Array Value := #[.bool (f 0), .bool (f 1), .bool (f 2), .bool (f 3)]
theorem arr_at {w : World} {A : Nat} {f : Nat → Bool} (h : Bk w A 76 (arrV f)) : w.cell? ⟨A, 0, none⟩ = some (.bool (f 0)) ∧ w.cell? ⟨A, 1, none⟩ = some (.bool (f 1)) ∧ w.cell? ⟨A, 2, none⟩ = some (.bool (f 2)) ∧ w.cell? ⟨A, 3, none⟩ = some (.bool (f 3)) :=
 ⟨h.cell (i := 0) rfl, h.cell (i := 1) rfl, h.cell (i := 2) rfl, h.cell (i := 3) rfl⟩
theorem arr_put {w : World} {A : Nat} {f : Nat → Bool} (h : Bk w A 76 (arrV f)) {d : Nat} (hd : d < 4) : Bk (w.setCell ⟨A, d, none⟩ (.bool true)) A 76 (arrV fun e => f e || decide (e = d)) := by
 have h4 : d = 0 ∨ d = 1 ∨ d = 2 ∨ d = 3 := by omega
 have hp := h.put d (.bool true)
 have e : (arrV f).setIfInBounds d (.bool true) = arrV fun e => f e || decide (e = d) := by
  rcases h4 with rfl | rfl | rfl | rfl <;> simp [arrV]
 rw [e] at hp
 exact hp
theorem arr_congr {w : World} {A : Nat} {f g : Nat → Bool} (h : Bk w A 76 (arrV f)) (e : ∀ d, d < 4 → f d = g d) : Bk w A 76 (arrV g) := by
 have : arrV f = arrV g := by unfold arrV; rw [e 0 (by omega), e 1 (by omega), e 2 (by omega), e 3 (by omega)]
 exact this ▸ h
theorem ok_op {m : Md} (h : m.ok = true) {k q : Nat} (hk : k < m.h.length) (hq : q < (hAt m.h k).length) : (oAt (hAt m.h k) q).ok m.n m.h.length = true := by
 have hh : m.okH = true := by simp [Md.ok] at h; exact h.1.2
 have hr : rowB m (hAt m.h k) = true := List.all_eq_true.1 hh k (by simpa using hk)
 simp only [rowB, Bool.and_eq_true] at hr
 exact List.all_eq_true.1 hr.2 q (by simpa using hq)
theorem ok_ask {m : Md} {c a b k : Int} (h : O.ok m.n m.h.length ⟨c, a, b, k⟩ = true) (hc : c = 4) : 0 ≤ a ∧ a ≤ 3 := by
 simp [O.ok, okO] at h
 omega
set_option maxRecDepth 100000 in
set_option maxHeartbeats 8000000 in
theorem iAskM (x : Value) (m : Md) (w : World) (hs : SmallM m) (h : IsM w x m) :
  Calls Tryz.prog 12 #[x] w fun e w' => ∃ u, e = .returned u ∧ OwnI w.heap.size w' u (asksL m) ∧ Below w.heap.size w w' := by
 have HX : Hid (IsM w x m) := h
 obtain ⟨vi, vh, vs, rfl, ⟨ai, ci, rfl, hi1, hi2, hi3⟩, ⟨ah, ch, rfl, hh1, hh2, hh3⟩, ⟨ae, ce, rfl, he1, he2, he3⟩⟩ := h
 have hi0 : m.i.length ≤ 1048576 := hs.i
 have hh0 : m.h.length ≤ 1048576 := hs.h
 have he0 : m.e.length ≤ 1048576 := hs.e
 have HS : Hid (SmallM m) := hs
 clear hs hi1 hi2 hh1 hh2 he1 he2
 clear hi3 he3 hi0 he0
 have HH : Hid (m.h = [] ∨ ∃ b off, ah = some ⟨b, off, none⟩ ∧ b < w.heap.size ∧ ∀ i, i < m.h.length → ∃ u, w.cell? ⟨b, off + i, none⟩ = some u ∧ IsO w u (hAt m.h i)) := hh3
 clear hh3
 obtain ⟨W0, hW0⟩ : ∃ W0, w.alloc (.cells #[.int .i64 m.n, .int .i64 m.s, .slice ai m.i.length ci, .slice ah m.h.length ch, .slice ae m.e.length ce, .int .i64 m.z] 27) = W0 := ⟨_, rfl⟩
 have HB0 : Hid (Below w.heap.size w W0) := by rw [← hW0]; exact (Below.refl _ w).alloc (Nat.le_refl _) _
 have HP0 : Hid (Bk W0 w.heap.size 27 #[.int .i64 m.n, .int .i64 m.s, .slice ai m.i.length ci, .slice ah m.h.length ch, .slice ae m.e.length ce, .int .i64 m.z]) := by rw [← hW0]; exact Bk.new w _ _
 have p0 := HP0.out.cell (i := 0) rfl
 have p1 := HP0.out.cell (i := 1) rfl
 have p2 := HP0.out.cell (i := 2) rfl
 have p3 := HP0.out.cell (i := 3) rfl
 have p4 := HP0.out.cell (i := 4) rfl
 have p5 := HP0.out.cell (i := 5) rfl
 go_enter Tryz.func12, Tryz.ntmps12
 go_wp2_with fail
 clear hW0 p0 p1 p2 p3 p4 p5
 refine (iModM _ m _ HS.out (HX.out.below HB0.out)).mono ?_
 rintro e W1 ⟨rfl, hb⟩
 have HB1 : Hid (Below w.heap.size w W1) := HB0.out.trans (hb.mono HB0.out.size)
 have HP1 : Hid (Bk W1 w.heap.size 27 #[.int .i64 m.n, .int .i64 m.s, .slice ai m.i.length ci, .slice ah m.h.length ch, .slice ae m.e.length ce, .int .i64 m.z]) := HP0.out.below hb
 clear hb HB0 HP0
 cases hok : m.ok
 case false =>
  have HE : Hid (asksL m = []) := (by simp [asksL, hok] : asksL m = [])
  clear hok
  go_wp2
  go_ret
  exact ⟨.slice none 0 0, rfl, by rw [HE.out]; exact OwnI.nil _ _, HB1.out⟩
 have HE : Hid (asksL m = asksTo m 4) := (by simp [asksL, hok] : asksL m = asksTo m 4)
 have HOK : Hid (m.ok = true) := hok
 clear hok
 obtain ⟨i0, hi, hz0, hz1, hz2⟩ := info_parts info3
 obtain ⟨W2, hW2⟩ : ∃ W2, W1.alloc (.cells #[.bool false, .bool false, .bool false, .bool false] 76) = W2 := ⟨_, rfl⟩
 have HB2 : Hid (Below w.heap.size w W2) := hW2 ▸ HB1.out.alloc HB1.out.size _
 have HA2 : Hid (Bk W2 W1.heap.size 76 (arrV fun d => askH m d 0)) := hW2 ▸ Bk.new _ _ _
 have HP2 : Hid (Bk W2 w.heap.size 27 #[.int .i64 m.n, .int .i64 m.s, .slice ai m.i.length ci, .slice ah m.h.length ch, .slice ae m.e.length ce, .int .i64 m.z]) := hW2 ▸ HP1.out.alloc _
 have p3 := HP2.out.cell (i := 3) rfl
 have hs1 : w.heap.size < W1.heap.size := HP1.out.lt
 go_wp2
 clear hW2 p3
 go_loopw [19] (fun i wr => ∃ k : Nat, k ≤ m.h.length ∧ i = .int .i64 k ∧ Bk wr W1.heap.size 76 (arrV fun d => askH m d k) ∧ Below w.heap.size w wr) (fun i _ => m.h.length - (intOf i).toNat)
 case atStart => exact ⟨0, Nat.zero_le _, rfl, HA2.out, HB2.out⟩
 case round =>
  clear HA2 HB2 HP2
  obtain ⟨k, hk, rfl, hA, hB⟩ := hrel
  have HA : Hid (Bk wr W1.heap.size 76 (arrV fun d => askH m d k)) := hA
  have HB : Hid (Below w.heap.size w wr) := hB
  clear hA hB
  by_cases hkl : k < m.h.length
  ·obtain ⟨b, off, rfl, hb, hc⟩ := HH.out.resolve_left (by intro e; rw [e] at hkl; simp at hkl)
   obtain ⟨u, f0, hu⟩ := hc k hkl
   replace f0 := (HB.out.cell (p := ⟨b, off + k, none⟩) hb).trans f0
   have hL1 : (hAt m.h k).length ≤ 1048576 := HS.out.r k
   obtain ⟨a1, c1, rfl, _, _, hu⟩ := hu
   have HU : Hid (hAt m.h k = [] ∨ ∃ b off, a1 = some ⟨b, off, none⟩ ∧ OsAt w b off (hAt m.h k)) := hu
   clear hc hu
   go_wp2
   clear f0
   go_loopw [25] (fun i wr => ∃ q : Nat, q ≤ (hAt m.h k).length ∧ i = .int .i64 q ∧ Bk wr W1.heap.size 76 (arrV fun d => askH m d k || askR (hAt m.h k) d q) ∧ Below w.heap.size w wr) (fun i _ => (hAt m.h k).length - (intOf i).toNat)
   case atStart => exact ⟨0, Nat.zero_le _, rfl, arr_congr HA.out (fun d _ => by simp [askR]), HB.out⟩
   case round =>
    clear HA HB
    obtain ⟨q, hq, rfl, hA, hB⟩ := hrel
    have HA : Hid (Bk wr W1.heap.size 76 (arrV fun d => askH m d k || askR (hAt m.h k) d q)) := hA
    have HB : Hid (Below w.heap.size w wr) := hB
    clear hA
    by_cases hql : q < (hAt m.h k).length
    ·obtain ⟨b1, off1, rfl, hb1, hc1⟩ := HU.out.resolve_left (by intro e; rw [e] at hql; simp at hql)
     obtain ⟨g0, g1, g2, g3⟩ := (hc1 q hql).below hB hb1
     have HN : Hid (∀ d, askR (hAt m.h k) d (q + 1) = (askR (hAt m.h k) d q || askO (oAt (hAt m.h k) q) d)) := fun d => askR_succ _ _ _
     have HO : Hid ((oAt (hAt m.h k) q).ok m.n m.h.length = true) := ok_op HOK.out hkl hql
     generalize oAt (hAt m.h k) q = e at g0 g1 g2 g3 HN HO
     obtain ⟨c, a, b2, k2⟩ := e
     clear hc1 hB
     obtain ⟨V, hV⟩ : ∃ V, wr.alloc (.cells #[.int .i64 c, .int .i64 a, .int .i64 b2, .int .i64 k2] 39) = V := ⟨_, rfl⟩
     have hbV : Below wr.heap.size wr V := hV ▸ (Below.refl _ wr).alloc (Nat.le_refl _) _
     have HBV : Hid (Below w.heap.size w V) := HB.out.trans (hbV.mono HB.out.size)
     have HAV : Hid (Bk V W1.heap.size 76 (arrV fun d => askH m d k || askR (hAt m.h k) d q)) := HA.out.below hbV
     have hQV : Bk V wr.heap.size 39 #[.int .i64 c, .int .i64 a, .int .i64 b2, .int .i64 k2] := hV ▸ Bk.new _ _ _
     have e0 := hQV.cell (i := 0) rfl
     have e1 := hQV.cell (i := 1) rfl
     have e2 := hQV.cell (i := 2) rfl
     have e3 := hQV.cell (i := 3) rfl
     clear hbV hQV HB HA
     go_wp2_with fail
     clear g0 g1 g2 g3 e0 e1 e2 e3 hV
     refine (deedOf_any _ _ _ _ _).mono ?_
     rintro e w2 ⟨rfl, hb2⟩
     have HB2 : Hid (Below w.heap.size w w2) := HBV.out.trans (hb2.mono HBV.out.size)
     have HA2 : Hid (Bk w2 W1.heap.size 76 (arrV fun d => askH m d k || askR (hAt m.h k) d q)) := HAV.out.below hb2
     clear hb2 HBV HAV
     generalize hdv : deedV c a b2 k2 = dv
     have HDV : Hid (deedV c a b2 k2 = dv) := hdv
     clear hdv
     go_wp2_with fail
     refine (HDV.out ▸ askOf_any c a b2 k2 w2).mono ?_
     rintro e w3 ⟨rfl, hb3⟩
     have HB3 : Hid (Below w.heap.size w w3) := HB2.out.trans (hb3.mono HB2.out.size)
     have HA3 : Hid (Bk w3 W1.heap.size 76 (arrV fun d => askH m d k || askR (hAt m.h k) d q)) := HA2.out.below hb3
     clear hb3 HB2 HA2 HDV
     by_cases hc4 : c = 4
     ·rw [if_pos hc4, decide_eq_true hc4]
      obtain ⟨ha0, ha1⟩ := ok_ask HO.out hc4
      obtain ⟨d, rfl⟩ : ∃ d : Nat, a = (d : Int) := ⟨a.toNat, by omega⟩
      have hd4 : d < 4 := by omega
      have hdi : (d : Int) < 4 := by omega
      have HC : Hid (c = 4) := hc4
      have hcell : ∃ v, w3.cell? ⟨W1.heap.size, d, none⟩ = some v := by
       obtain ⟨r0, r1, r2, r3⟩ := arr_at HA3.out
       have h4 : d = 0 ∨ d = 1 ∨ d = 2 ∨ d = 3 := by omega
       rcases h4 with rfl | rfl | rfl | rfl
       ·exact ⟨_, r0⟩
       ·exact ⟨_, r1⟩
       ·exact ⟨_, r2⟩
       ·exact ⟨_, r3⟩
      obtain ⟨v0, hcell⟩ := hcell
      have hfr := HA3.out.free d
      clear hc4
      go_wp2
      go_roundw
      case rel =>
       refine ⟨q + 1, by omega, by go_num, arr_congr (arr_put HA3.out hd4) (fun e he => ?_), HB3.out.setCell (p := ⟨W1.heap.size, d, none⟩) (by show w.heap.size ≤ W1.heap.size; omega) _⟩
       rw [HN.out]
       simp only [askO, HC.out, decide_true, Bool.true_and, Bool.or_assoc]
       congr 2
       rw [Bool.eq_iff_iff]
       simp only [decide_eq_true_eq]
       omega
      case measure => simp [intOf]; omega
     ·rw [if_neg hc4, decide_eq_false hc4]
      have HC : Hid (¬ c = 4) := hc4
      clear hc4
      go_wp2
      go_roundw
      case rel => exact ⟨q + 1, by omega, by go_num, arr_congr HA3.out (fun e he => by rw [HN.out]; simp [askO, HC.out]), HB3.out⟩
      case measure => simp [intOf]; omega
    ·obtain rfl : q = (hAt m.h k).length := by omega
     clear hB
     go_wp2
     go_roundw
     case rel => exact ⟨k + 1, by omega, by go_num, arr_congr HA.out (fun d _ => (askH_succ m d k).symm), HB.out⟩
     case measure => simp [intOf]; omega
  ·obtain rfl : k = m.h.length := by omega
   obtain ⟨r0, r1, r2, r3⟩ := arr_at HA.out
   obtain ⟨b0, hb0⟩ : ∃ b : Bool, b = askH m 0 m.h.length := ⟨_, rfl⟩
   have HB0 : Hid (b0 = askH m 0 m.h.length) := hb0
   rw [← hb0] at r0
   clear hb0
   obtain ⟨b1, hb1⟩ : ∃ b : Bool, b = askH m 1 m.h.length := ⟨_, rfl⟩
   have HB1 : Hid (b1 = askH m 1 m.h.length) := hb1
   rw [← hb1] at r1
   clear hb1
   obtain ⟨b2, hb2⟩ : ∃ b : Bool, b = askH m 2 m.h.length := ⟨_, rfl⟩
   have HB2 : Hid (b2 = askH m 2 m.h.length) := hb2
   rw [← hb2] at r2
   clear hb2
   obtain ⟨b3, hb3⟩ : ∃ b : Bool, b = askH m 3 m.h.length := ⟨_, rfl⟩
   have HB3 : Hid (b3 = askH m 3 m.h.length) := hb3
   rw [← hb3] at r3
   clear hb3
   have j0 : ∀ w : World, (Instr.index 76 (.agg #[.bool b0, .bool b1, .bool b2, .bool b3]) (.int .i64 0)).run Tryz.prog w = .ok (.bool b0) w := fun w => by kernel_rfl
   have j1 : ∀ w : World, (Instr.index 76 (.agg #[.bool b0, .bool b1, .bool b2, .bool b3]) (.int .i64 1)).run Tryz.prog w = .ok (.bool b1) w := fun w => by kernel_rfl
   have j2 : ∀ w : World, (Instr.index 76 (.agg #[.bool b0, .bool b1, .bool b2, .bool b3]) (.int .i64 2)).run Tryz.prog w = .ok (.bool b2) w := fun w => by kernel_rfl
   have j3 : ∀ w : World, (Instr.index 76 (.agg #[.bool b0, .bool b1, .bool b2, .bool b3]) (.int .i64 3)).run Tryz.prog w = .ok (.bool b3) w := fun w => by kernel_rfl
   have hzz : w.heap.size ≤ wr.heap.size := HB.out.size
   go_wp2
   clear r0 r1 r2 r3 HA
   obtain ⟨WA, hWA⟩ : ∃ WA, WA = wr := ⟨_, rfl⟩
   subst hWA
   go_loopw [10, 41] (fun o i wr2 => ∃ (D : Nat) (v : Value), D ≤ 4 ∧ v = o ∧ i = .int .i64 D ∧ wr2.ownsRow WA.heap.size 3 1 o (asksTo m D).length (intCells (asksTo m D)) ∧ Below WA.heap.size WA wr2) (fun _ i _ => 4 - (intOf i).toNat)
   case atStart => exact ⟨0, _, by omega, rfl, rfl, World.ownsRow_nil WA _ 3 1, Below.refl _ _⟩
   case round =>
    obtain ⟨D, o, hD, rfl, rfl, hR, hB⟩ := hrel
    have HR : Hid (wr.ownsRow WA.heap.size 3 1 o (asksTo m D).length (intCells (asksTo m D))) := hR
    have HBA : Hid (Below WA.heap.size WA wr) := hB
    have hsz : WA.heap.size ≤ wr.heap.size := hB.size
    have hlen := asksTo_length m D
    clear hR hB
    by_cases hlt : D < 4
    ·have hD4 : D = 0 ∨ D = 1 ∨ D = 2 ∨ D = 3 := by omega
     rcases hD4 with rfl | rfl | rfl | rfl
     ·cases b0
      ·have HN : Hid (asksTo m (0 + 1) = asksTo m 0) := asksTo_no m 0 HB0.out.symm
       go_wp2
       go_roundw
       case rel => exact ⟨1, _, by omega, rfl, by go_num, by rw [HN.out]; exact HR.out, HBA.out⟩
       case measure => simp [intOf]
      ·have HN : Hid (asksTo m (0 + 1) = asksTo m 0 ++ [0]) := asksTo_yes m 0 HB0.out.symm
       go_wp2_with (at_builtin; refine wpList_append_own _ rfl _ _ 23 rfl WA.heap.size 3 i0 (.int .i64 0) 1 8 Tryz.underlying23 hi hz0 hz1 hz2 rfl (by decide) o _ _ rfl (HR.out.alloc _) ⟨wr.heap.size, 0, none⟩ 1 1 [.int .i64 0] rfl rfl (fun j u hu => by (match j, hu with | 0, hu => simp at hu; subst hu; simp [Addr.add] | (j + 1), hu => simp at hu)) (fun u hu => by simp at hu; subst hu; rfl) (by unfold maxLen; omega) (by omega) (by simp; omega) ?_; intro v' w2 hown hgrow hnil)
       go_roundw
       case rel =>
        refine ⟨1, _, by omega, rfl, by go_num, ?_, (HBA.out.alloc hsz _).grown hgrow (by simp; omega) (fun j e => row_ge HR.out e)⟩
        rw [HN.out, intCells_append, List.length_append]
        exact hown
       case measure => simp [intOf]
     ·cases b1
      ·have HN : Hid (asksTo m (1 + 1) = asksTo m 1) := asksTo_no m 1 HB1.out.symm
       go_wp2
       go_roundw
       case rel => exact ⟨2, _, by omega, rfl, by go_num, by rw [HN.out]; exact HR.out, HBA.out⟩
       case measure => simp [intOf]
      ·have HN : Hid (asksTo m (1 + 1) = asksTo m 1 ++ [1]) := asksTo_yes m 1 HB1.out.symm
       go_wp2_with (at_builtin; refine wpList_append_own _ rfl _ _ 23 rfl WA.heap.size 3 i0 (.int .i64 0) 1 8 Tryz.underlying23 hi hz0 hz1 hz2 rfl (by decide) o _ _ rfl (HR.out.alloc _) ⟨wr.heap.size, 0, none⟩ 1 1 [.int .i64 1] rfl rfl (fun j u hu => by (match j, hu with | 0, hu => simp at hu; subst hu; simp [Addr.add] | (j + 1), hu => simp at hu)) (fun u hu => by simp at hu; subst hu; rfl) (by unfold maxLen; omega) (by omega) (by simp; omega) ?_; intro v' w2 hown hgrow hnil)
       go_roundw
       case rel =>
        refine ⟨2, _, by omega, rfl, by go_num, ?_, (HBA.out.alloc hsz _).grown hgrow (by simp; omega) (fun j e => row_ge HR.out e)⟩
        rw [HN.out, intCells_append, List.length_append]
        exact hown
       case measure => simp [intOf]
     ·cases b2
      ·have HN : Hid (asksTo m (2 + 1) = asksTo m 2) := asksTo_no m 2 HB2.out.symm
       go_wp2
       go_roundw
       case rel => exact ⟨3, _, by omega, rfl, by go_num, by rw [HN.out]; exact HR.out, HBA.out⟩
       case measure => simp [intOf]
      ·have HN : Hid (asksTo m (2 + 1) = asksTo m 2 ++ [2]) := asksTo_yes m 2 HB2.out.symm
       go_wp2_with (at_builtin; refine wpList_append_own _ rfl _ _ 23 rfl WA.heap.size 3 i0 (.int .i64 0) 1 8 Tryz.underlying23 hi hz0 hz1 hz2 rfl (by decide) o _ _ rfl (HR.out.alloc _) ⟨wr.heap.size, 0, none⟩ 1 1 [.int .i64 2] rfl rfl (fun j u hu => by (match j, hu with | 0, hu => simp at hu; subst hu; simp [Addr.add] | (j + 1), hu => simp at hu)) (fun u hu => by simp at hu; subst hu; rfl) (by unfold maxLen; omega) (by omega) (by simp; omega) ?_; intro v' w2 hown hgrow hnil)
       go_roundw
       case rel =>
        refine ⟨3, _, by omega, rfl, by go_num, ?_, (HBA.out.alloc hsz _).grown hgrow (by simp; omega) (fun j e => row_ge HR.out e)⟩
        rw [HN.out, intCells_append, List.length_append]
        exact hown
       case measure => simp [intOf]
     ·cases b3
      ·have HN : Hid (asksTo m (3 + 1) = asksTo m 3) := asksTo_no m 3 HB3.out.symm
       go_wp2
       go_roundw
       case rel => exact ⟨4, _, by omega, rfl, by go_num, by rw [HN.out]; exact HR.out, HBA.out⟩
       case measure => simp [intOf]
      ·have HN : Hid (asksTo m (3 + 1) = asksTo m 3 ++ [3]) := asksTo_yes m 3 HB3.out.symm
       go_wp2_with (at_builtin; refine wpList_append_own _ rfl _ _ 23 rfl WA.heap.size 3 i0 (.int .i64 0) 1 8 Tryz.underlying23 hi hz0 hz1 hz2 rfl (by decide) o _ _ rfl (HR.out.alloc _) ⟨wr.heap.size, 0, none⟩ 1 1 [.int .i64 3] rfl rfl (fun j u hu => by (match j, hu with | 0, hu => simp at hu; subst hu; simp [Addr.add] | (j + 1), hu => simp at hu)) (fun u hu => by simp at hu; subst hu; rfl) (by unfold maxLen; omega) (by omega) (by simp; omega) ?_; intro v' w2 hown hgrow hnil)
       go_roundw
       case rel =>
        refine ⟨4, _, by omega, rfl, by go_num, ?_, (HBA.out.alloc hsz _).grown hgrow (by simp; omega) (fun j e => row_ge HR.out e)⟩
        rw [HN.out, intCells_append, List.length_append]
        exact hown
       case measure => simp [intOf]
    ·obtain rfl : D = 4 := by omega
     go_wp2
     go_ret
     exact ⟨_, rfl, by rw [HE.out]; exact (OwnI.of_row HR.out).mono hzz, HB.out.trans (HBA.out.mono hzz)⟩
end Go.Proofs.YtbljfphdghfkfaaGreatDoor

/- ModelBytes: plain words. -/
namespace Go.Proofs.YtbljfphdghfkfaaGreatDoor
open Go.RowKit
def iniB (m : Md) : Nat → List UInt8
 | 0 => []
 | k + 1 => iniB m k ++ twoB (intAt m.i k)
def rowsB (m : Md) : Nat → List UInt8
 | 0 => []
 | k + 1 => rowsB m k ++ rowBs (hAt m.h k)
def evsB (m : Md) : Nat → List UInt8
 | 0 => []
 | k + 1 => evsB m k ++ evB (evAt m.e k)
def headB (m : Md) : List UInt8 := [byteOf m.n, byteOf (m.h.length : Int), byteOf (m.e.length : Int)]
def bytesL (m : Md) : List UInt8 := headB m ++ twoB m.z ++ twoB m.s ++ iniB m m.i.length ++ rowsB m m.h.length ++ evsB m m.e.length
def bytesR (m : Md) : List UInt8 := if m.ok = true then bytesL m else []
theorem iniB_length (m : Md) : ∀ k, (iniB m k).length = 2 * k
 | 0 => rfl
 | k + 1 => by simp [iniB, iniB_length m k, twoB_length]; omega
theorem rowBs_length (r : List O) : (rowBs r).length = 1 + 5 * r.length := by simp [rowBs, opsB_length]; omega
theorem evsB_length (m : Md) : ∀ k, (evsB m k).length = 6 * k
 | 0 => rfl
 | k + 1 => by simp [evsB, evsB_length m k, evB_length]; omega
theorem ok_all {m : Md} (h : m.ok = true) : m.hd ∧ m.okI = true ∧ m.okH = true ∧ m.okE = true := by
 simp [Md.ok] at h
 exact ⟨h.1.1.1, h.1.1.2, h.1.2, h.2⟩
theorem ok_rowB {m : Md} (h : m.ok = true) (k : Nat) : (hAt m.h k).length ≤ 8 := by
 by_cases hk : k < m.h.length
 ·have hr : rowB m (hAt m.h k) = true := List.all_eq_true.1 (ok_all h).2.2.1 k (by simpa using hk)
  simp only [rowB, Bool.and_eq_true, decide_eq_true_eq] at hr
  exact hr.1
 ·rw [hAt_out (by omega)]; simp
theorem rowsB_length {m : Md} (h : m.ok = true) : ∀ k, (rowsB m k).length ≤ 41 * k
 | 0 => by simp [rowsB]
 | k + 1 => by
  have := rowsB_length h k
  have := ok_rowB h k
  simp [rowsB, rowBs_length]; omega
theorem ok_int {m : Md} (h : m.ok = true) {k : Nat} (hk : k < m.i.length) : 0 ≤ intAt m.i k ∧ intAt m.i k ≤ 999 := by
 have := List.all_eq_true.1 (ok_all h).2.1 k (by simpa using hk)
 simpa [inB] using this
theorem ok_small {m : Md} (h : m.ok = true) {k q : Nat} (hk : k < m.h.length) (hq : q < (hAt m.h k).length) : small (oAt (hAt m.h k) q) := by
 have h1 := ok_op h hk hq
 have hd := (ok_all h).1
 unfold Md.hd at hd
 simp only [O.ok, okO, decide_eq_true_eq] at h1
 unfold small
 omega
theorem ok_ev {m : Md} (h : m.ok = true) {k : Nat} (hk : k < m.e.length) {t s1 qq d kk v g : Int} (e : evAt m.e k = ⟨t, s1, qq, d, kk, v, g⟩) : (0 ≤ t ∧ t ≤ 1000) ∧ (0 ≤ d ∧ d ≤ 3) ∧ (0 ≤ kk ∧ kk ≤ 3) ∧ 0 ≤ v ∧ v ≤ 999 := by
 have h1 := List.all_eq_true.1 (ok_all h).2.2.2 k (by simpa using hk)
 rw [e] at h1
 simp only [stB, Ev.ok, okB, Bool.and_eq_true, decide_eq_true_eq] at h1
 omega
theorem row_of3 (w : World) (a b c : Value) : (w.alloc (.cells #[a, b, c] 5)).ownsRow w.heap.size 5 1 (.slice (some ⟨w.heap.size, 0, none⟩) 3 3) 3 [a, b, c] := by
 refine ⟨rfl, .inr ⟨w.heap.size, 3, #[a, b, c], rfl, Nat.le_refl _, ?_, Nat.le_refl _, by unfold maxLen; omega, rfl, rfl⟩⟩
 show (w.heap.push _)[w.heap.size]? = _
 simp
end Go.Proofs.YtbljfphdghfkfaaGreatDoor

