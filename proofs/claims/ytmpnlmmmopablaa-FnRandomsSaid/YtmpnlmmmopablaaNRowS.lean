/- The specification's RandRow: number by number from one on. -/
import Derived.Test.YtmpnlmmmopablaaNRow
import Derived.Test.YtmpnlmmmopablaaNInts
namespace Go.Proofs.Ytmpnlmmmopablaa
open Go.RowKit

def rowI (s l f : Int) (k : Nat) : List Int := (List.range k).map fun i : Nat => randI s l (f + (i : Int))
def rowB (s l f c : Int) : Bool := placeB s l f && (decide (0 ≤ c) && decide (c ≤ 100)) && decide (f + c ≤ 100000)
def rowL (s l f c : Int) : List Int := if rowB s l f c = true then rowI s l f c.toNat else []
theorem rowI_length (s l f : Int) (k : Nat) : (rowI s l f k).length = k := by simp [rowI]
theorem rowI_succ (s l f : Int) (k : Nat) : rowI s l f (k + 1) = rowI s l f k ++ [randI s l (f + (k : Int))] := by simp [rowI, List.range_succ]
theorem rowI_at (s l f : Int) (k i : Nat) (h : i < k) : intAt (rowI s l f k) i = randI s l (f + (i : Int)) := by simp [intAt, rowI, h]
theorem intCells_length (l : List Int) : (intCells l).length = l.length := by simp [intCells]
theorem intCells_append (l l' : List Int) : intCells (l ++ l') = intCells l ++ intCells l' := by simp [intCells]
theorem rowB_iff {s l f c : Int} : rowB s l f c = true ↔ (placeB s l f = true ∧ 0 ≤ c ∧ c ≤ 100 ∧ f + c ≤ 100000) := by simp [rowB, and_assoc]
theorem rowL_length (s l f c : Int) : (rowL s l f c).length ≤ 100 := by
  unfold rowL
  split
  · rename_i h
    have := rowB_iff.1 h
    rw [rowI_length]; omega
  · simp
theorem info3 : (Try.prog.info? 3).map (fun i => (i.zero, i.size, i.bytes)) = some (some (.int .i64 0), 1, 8) := by kernel_rfl
theorem row_ge {B : Nat} {w : World} {e : TypeId} {v : Value} {n size : Nat} {xs : List Value} (h : w.ownsRow B e size v n xs) {r : Nat} (hr : v.ownBlock = some r) : B ≤ r := by
  obtain ⟨_, ⟨rfl, _⟩ | ⟨g, cap, cur, rfl, hg, _⟩⟩ := h
  · cases hr
  · cases hr; exact hg

set_option maxRecDepth 100000 in
set_option maxHeartbeats 2000000 in
theorem sRow_any (s l f c : Int) (u1 : -9223372036854775808 ≤ c) (u2 : c ≤ 9223372036854775807) (w : World) :
    Calls Try.prog 15 #[.int .i64 s, .int .i64 l, .int .i64 f, .int .i64 c] w fun e w' => ∃ v, e = .returned v ∧ OwnI w.heap.size w' v (rowL s l f c) ∧ Below w.heap.size w w' := by
  have hnot : ∀ (x : Bool) (w : World), (Op.unary .not (.bool x)).run Try.prog w = .ok (.bool (!x)) w := fun _ _ => rfl
  by_cases hB : rowB s l f c = true
  · have hL : rowL s l f c = rowI s l f c.toNat := by unfold rowL; rw [if_pos hB]
    obtain ⟨hp, hc0, hc1, hc2⟩ := rowB_iff.1 hB
    obtain ⟨h0, h1, h2, h3, h4, h5⟩ := placeB_iff.1 hp
    obtain ⟨m, rfl⟩ : ∃ m : Nat, c = (m : Int) := ⟨c.toNat, by omega⟩
    have HP : Hid (∀ k : Nat, k < m → placeB s l (f + (k : Int)) = true) := fun k hk => placeB_iff.2 ⟨h0, h1, h2, h3, by omega, by omega⟩
    obtain ⟨i0, hi, hz0, hz1, hz2⟩ := info_parts info3
    rw [hL]
    simp only [Int.toNat_natCast]
    have hm : m ≤ 100 := by omega
    have a1 : ¬ (m : Int) < 0 := by omega
    have a2 : ¬ (100 : Int) < (m : Int) := by omega
    have a3 : ¬ 100000 - (m : Int) < f := by omega
    clear hB hL hc0 hc1 u1 u2
    go_enter Try.func15, Try.ntmps15
    go_wp2_with (go_at_call 28; refine (l9args_any s l f _).mono ?_; rintro e w' ⟨rfl, hw'⟩; obtain rfl := hw'.symm; rw [hp])
    go_loopw [9, 10] (fun o i wr => ∃ (k : Nat) (v : Value), k ≤ m ∧ v = o ∧ i = .int .i64 k ∧ wr.ownsRow w.heap.size 3 1 o k (intCells (rowI s l f k)) ∧ Below w.heap.size w wr) (fun _ i _ => m - (intOf i).toNat)
    case atStart => exact ⟨0, _, Nat.zero_le _, rfl, rfl, World.ownsRow_nil w _ 3 1, Below.refl _ _⟩
    case round =>
      obtain ⟨k, o, hk, rfl, rfl, hR, hb⟩ := hrel
      have HR : Hid (wr.ownsRow w.heap.size 3 1 o k (intCells (rowI s l f k))) := hR
      have HB : Hid (Below w.heap.size w wr) := hb
      have hs : w.heap.size ≤ wr.heap.size := hb.size
      clear hR hb
      by_cases hlt : k < m
      · have q0 : IntKind.i64.wrap (f + (k : Int)) = f + (k : Int) := by rw [IntKind.wrap_i64]; omega
        generalize hx : randI s l (f + (k : Int)) = x
        have HX : Hid (randI s l (f + (k : Int)) = x) := hx
        clear hx
        go_wp2_with (first | (go_at_call 29; refine (l9rand_any s l (f + (k : Int)) (HP.out k hlt) _).mono ?_; rintro e w' ⟨rfl, hw'⟩; obtain rfl := hw'.symm; rw [HX.out]) | (at_builtin; refine wpList_append_own _ rfl _ _ 28 rfl w.heap.size 3 i0 (.int .i64 0) 1 8 Try.underlying28 hi hz0 hz1 hz2 rfl (by decide) o _ _ rfl (HR.out.alloc _) ⟨wr.heap.size, 0, none⟩ 1 1 [.int .i64 x] rfl rfl (fun j u hu => by (match j, hu with | 0, hu => simp at hu; subst hu; simp [Addr.add] | (j + 1), hu => simp at hu)) (fun u hu => by simp at hu; subst hu; rfl) (by unfold maxLen; omega) (by omega) (by simp; omega) ?_; intro v' w2 hown hgrow hnil))
        go_roundw
        case rel =>
          refine ⟨k + 1, _, by omega, rfl, by go_num, ?_, (HB.out.alloc hs _).grown hgrow (by simp; omega) (fun j e => row_ge HR.out e)⟩
          rw [rowI_succ, intCells_append, HX.out]
          exact hown
        case measure => simp [intOf]; omega
      · go_wp2
        go_ret
        obtain rfl : k = m := by omega
        exact ⟨_, rfl, OwnI.of_row (by rw [rowI_length]; exact HR.out), HB.out⟩
  · have hL : rowL s l f c = [] := by unfold rowL; rw [if_neg hB]
    rw [hL]
    by_cases hp : placeB s l f = true
    · obtain ⟨h0, h1, h2, h3, h4, h5⟩ := placeB_iff.1 hp
      have hn : ¬ (0 ≤ c ∧ c ≤ 100 ∧ f + c ≤ 100000) := fun h => hB (rowB_iff.2 ⟨hp, h⟩)
      by_cases c0 : c < 0
      · go_enter Try.func15, Try.ntmps15
        go_wp2_with (go_at_call 28; refine (l9args_any s l f _).mono ?_; rintro e w' ⟨rfl, hw'⟩; obtain rfl := hw'.symm; rw [hp])
        go_ret
        exact ⟨_, rfl, OwnI.nil _ _, Below.refl _ _⟩
      · by_cases c1 : 100 < c
        · go_enter Try.func15, Try.ntmps15
          go_wp2_with (go_at_call 28; refine (l9args_any s l f _).mono ?_; rintro e w' ⟨rfl, hw'⟩; obtain rfl := hw'.symm; rw [hp])
          go_ret
          exact ⟨_, rfl, OwnI.nil _ _, Below.refl _ _⟩
        · have c2 : 100000 - c < f := by omega
          have c3 : c ≤ 100 := by omega
          have c4 : 0 ≤ c := by omega
          go_enter Try.func15, Try.ntmps15
          go_wp2_with (go_at_call 28; refine (l9args_any s l f _).mono ?_; rintro e w' ⟨rfl, hw'⟩; obtain rfl := hw'.symm; rw [hp])
          go_ret
          exact ⟨_, rfl, OwnI.nil _ _, Below.refl _ _⟩
    · have hp' : placeB s l f = false := by simpa using hp
      go_enter Try.func15, Try.ntmps15
      go_wp2_with (go_at_call 28; refine (l9args_any s l f _).mono ?_; rintro e w' ⟨rfl, rfl⟩; rw [hp'])
      go_ret
      exact ⟨_, rfl, OwnI.nil _ _, Below.refl _ _⟩
end Go.Proofs.Ytmpnlmmmopablaa
