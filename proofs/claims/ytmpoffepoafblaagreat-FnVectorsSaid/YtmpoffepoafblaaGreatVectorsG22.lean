/- Copies, Find -/
import Derived.Test.YtmpoffepoafblaaGreatVectorsG03
import Derived.Deep.RegionLaw
/- The copies: l1own, copyOf; marks: markEventS, heldEventS. -/
namespace Go.Proofs.YtmpoffepoafblaaGreat
open Go.RowKit

set_option maxHeartbeats 1000000 in
theorem copyOf_any (b off cap : Nat) (l : List Ev) (w : World) (hl : l.length ≤ 1048576) (hI : EvsAt w b off l) :
    Calls Tryz.prog 127 #[.slice (some ⟨b, off, none⟩) l.length cap] w fun e w' => ∃ x, e = .returned x ∧ OwnEvs w.heap.size w' x l ∧ Below w.heap.size w w' := by
  obtain ⟨i0, hi, hz0, hz1, hz2⟩ := info_parts info25
  have HI : Hid (EvsAt w b off l) := hI
  clear hI
  go_enter Tryz.func127, Tryz.ntmps127
  go_wp2_with (at_builtin; refine wpList_append_own _ rfl _ _ 28 rfl w.heap.size 50 i0 _ 7 56 Tryz.underlying28 hi hz0 hz1 hz2 rfl (by decide) (.slice none 0 0) 0 [] rfl (World.ownsRow_nil w _ 50 7) ⟨b, off, none⟩ l.length cap (cellsL l) rfl (cellsL_length l) HI.out.cells (cellsL_one l) (by unfold maxLen; omega) (by omega) (Nat.le_refl _) ?_; intro v' w1 hown hgrow hnil)
  go_ret
  refine ⟨_, rfl, OwnEvs.of_row (by simpa using hown), (Below.refl _ w).grown hgrow (Nat.le_refl _) (fun k e => by cases e)⟩

theorem row_empty (w : World) : (w.alloc (.cells #[] 50)).ownsRow w.heap.size 50 7 (.slice (some ⟨w.heap.size, 0, none⟩) 0 0) 0 [] :=
  ⟨rfl, .inr ⟨w.heap.size, 0, #[], rfl, Nat.le_refl _, (MapKept.heap_alloc w _).1, Nat.le_refl _, Nat.zero_le _, rfl, rfl⟩⟩
set_option maxHeartbeats 1000000 in
theorem own_any (b off cap : Nat) (l : List Ev) (w : World) (hl : l.length ≤ 1048576) (hI : EvsAt w b off l) :
    Calls Tryz.prog 117 #[.slice (some ⟨b, off, none⟩) l.length cap] w fun e w' => ∃ x, e = .returned x ∧ OwnEvs w.heap.size w' x l ∧ Below w.heap.size w w' := by
  obtain ⟨i0, hi, hz0, hz1, hz2⟩ := info_parts info25
  have HI : Hid (EvsAt w b off l) := hI
  clear hI
  go_enter Tryz.func117, Tryz.ntmps117
  go_wp2_with (at_builtin; refine wpList_append_own _ rfl _ _ 28 rfl w.heap.size 50 i0 _ 7 56 Tryz.underlying28 hi hz0 hz1 hz2 rfl (by decide) (.slice (some ⟨w.heap.size, 0, none⟩) 0 0) 0 [] rfl (row_empty w) ⟨b, off, none⟩ l.length cap (cellsL l) rfl (cellsL_length l) (HI.out.below ((Below.refl _ w).alloc (Nat.le_refl _) _) HI.out.1).cells (cellsL_one l) (by unfold maxLen; omega) (by omega) (by simp) ?_; intro v' w1 hown hgrow hnil)
  go_ret
  refine ⟨_, rfl, OwnEvs.of_row (by simpa using hown), ((Below.refl _ w).alloc (Nat.le_refl _) _).grown hgrow (by simp) (fun k e => by cases e; exact Nat.le_refl _)⟩
end Go.Proofs.YtmpoffepoafblaaGreat

/- The specification's l1find. -/
namespace Go.Proofs.YtmpoffepoafblaaGreat
open Go.RowKit

/- The first place of a tag. -/
def FirstAt (l : List Ev) (tag : Int) (i : Nat) : Prop := i < l.length ∧ (evAt l i).g = tag ∧ ∀ j, j < i → (evAt l j).g ≠ tag
def NoTag (l : List Ev) (tag : Int) : Prop := ∀ j, j < l.length → (evAt l j).g ≠ tag
theorem firstAt_or (l : List Ev) (tag : Int) : (∃ i, FirstAt l tag i) ∨ NoTag l tag := by
  have key : ∀ n, n ≤ l.length → (∃ i, FirstAt l tag i) ∨ ∀ j, j < n → (evAt l j).g ≠ tag := by
    intro n
    induction n with
    | zero => intro _; exact .inr (fun j hj => by omega)
    | succ n ih =>
      intro hn
      rcases ih (by omega) with h | h
      · exact .inl h
      · by_cases e : (evAt l n).g = tag
        · exact .inl ⟨n, by omega, e, h⟩
        · exact .inr (fun j hj => by
            by_cases ej : j = n
            · subst ej; exact e
            · exact h j (by omega))
  exact key l.length (Nat.le_refl _)

set_option maxHeartbeats 1000000 in
theorem find_any (b off cap : Nat) (l : List Ev) (tag : Int) (w : World) (hl : l.length ≤ 1048576) (hI : EvsAt w b off l) :
    Calls Tryz.prog 189 #[.slice (some ⟨b, off, none⟩) l.length cap, .int .i64 tag] w fun e w' => ((∃ i : Nat, e = .returned (.int .i64 (i : Int)) ∧ FirstAt l tag i) ∨ (e = .returned (.int .i64 (-1)) ∧ NoTag l tag)) ∧ w' = w := by
  have HI : Hid (EvsAt w b off l) := hI
  clear hI
  go_enter Tryz.func189, Tryz.ntmps189
  go_wp2
  go_loop [5] (fun i => ∃ k : Nat, k ≤ l.length ∧ i = .int .i64 k ∧ Hid (∀ j, j < k → (evAt l j).g ≠ tag)) (fun i => l.length - (intOf i).toNat)
  case atStart => exact ⟨0, Nat.zero_le _, rfl, fun j hj => by omega⟩
  case round =>
    obtain ⟨k, hk, rfl, HT⟩ := hrel
    by_cases hlt : k < l.length
    · have f6 := (HI.out.2 k hlt).f6
      by_cases hg : (evAt l k).g = tag
      · have hge : ((evAt l k).g == tag) = true := by simpa using hg
        have HE : Hid ((evAt l k).g = tag) := hg
        clear hg
        go_wp2
        go_ret
        exact ⟨.inl ⟨k, rfl, hlt, HE.out, HT.out⟩, rfl⟩
      · have hge : ((evAt l k).g == tag) = false := by simpa using hg
        have HE : Hid (¬ (evAt l k).g = tag) := hg
        clear hg
        go_wp2
        go_round
        case rel => exact ⟨k + 1, by omega, by go_num, fun j hj => by
          by_cases e : j = k
          · subst e; exact HE.out
          · exact HT.out j (by omega)⟩
        case measure => simp [intOf]; omega
    · go_wp2
      go_ret
      exact ⟨.inr ⟨rfl, fun j hj => HT.out j (by omega)⟩, rfl⟩

theorem step_append_own {P : Program} {ops : Array Oper} {o : Oper} {a : Act} {w : World} {K : Act → World → Prop} {Q : Exit → Act → World → Prop} {E : Prop}
    (hg : o.guard = none) (s x : Operand) (t : TypeId) (hop : o.op = Op.call { callee := Callee.builtin Builtin.append, args := #[s, x], argTypes := #[t, t] })
    (base : Nat) (e : TypeId) (i : TypeInfo) (z : Value) (size bytes : Nat) (h1 : P.underlying t = some (.slice e)) (h2 : P.info? e = some i) (h3 : i.zero = some z) (h4 : i.size = size) (h5 : i.bytes = bytes) (h6 : z.cells.size = size) (h7 : 0 < size)
    (v : Value) (n : Nat) (xs : List Value) (hs : a.eval s = v) (hown : w.ownsRow base e size v n xs)
    (ad : Addr) (m c : Nat) (news : List Value) (hx : a.eval x = .slice (some ad) m c) (hn : news.length = m * size) (hc : ∀ j u, news[j]? = some u → w.cell? (ad.add j) = some u) (h1c : ∀ u ∈ news, u.oneCell' = true)
    (b1 : n + m ≤ maxLen) (b2 : (n + m) * bytes ≤ 140737488355328) (hbase : base ≤ w.heap.size)
    (hK : ∀ v' w', w'.ownsRow base e size v' (n + m) (xs ++ news) → w.grownBy w' v.ownBlock → K (a.put o.dst v') w') :
    if Region.wanted o (yielded ops a.tmps) = true then Oper.wp P o a w K Q else E := by
  have hw : Region.wanted o (yielded ops a.tmps) = true := by simp [Region.wanted, hg]
  rw [if_pos hw]
  exact wp_append_own w s x t hop base e i z size bytes h1 h2 h3 h4 h5 h6 h7 v n xs hs hown ad m c news hx hn hc h1c b1 b2 hbase (fun v' w' r1 r2 _ => hK v' w' r1 r2)

theorem EvsAt.take {w : World} {b off : Nat} {l : List Ev} (h : EvsAt w b off l) (k : Nat) : EvsAt w b off (l.take k) :=
  ⟨h.1, fun i hi => by
    have h1 : i < k ∧ i < l.length := by simp at hi; omega
    rw [evAt_take _ _ _ h1.1]; exact h.2 i h1.2⟩
theorem EvsAt.drop {w : World} {b off : Nat} {l : List Ev} (h : EvsAt w b off l) (k : Nat) : EvsAt w b (off + k * 7) (l.drop k) :=
  ⟨h.1, fun i hi => by
    have h1 : k + i < l.length := by simp at hi; omega
    rw [evAt_drop, show off + k * 7 + i * 7 = off + (k + i) * 7 from by omega]; exact h.2 _ h1⟩

theorem row_ge {w : World} {B : Nat} {e : TypeId} {size n : Nat} {v : Value} {xs : List Value} (h : w.ownsRow B e size v n xs) {r : Nat} (hr : v.ownBlock = some r) : B ≤ r := by
  obtain ⟨_, ⟨rfl, _⟩ | ⟨g, cap, cur, rfl, hg, _⟩⟩ := h
  · cases hr
  · cases hr; exact hg
end Go.Proofs.YtmpoffepoafblaaGreat

