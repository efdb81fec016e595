/- Rows that are either as they came in or one's own, apart from one that grows. -/
import Derived.Test.YtdcnimdhfhbdmaaExactBackLPBk
import Derived.Test.YtdcnimdhfhbdmaaExactBackLInsG
namespace Go.Proofs.Ytdcnimdhfhbdmaa
open Go.RowKit
/- v reads as n elements of c cells cs: it came in, or it is one's own, in another block than u. -/
def RowO (w wr : World) (B : Nat) (T : TypeId) (c : Nat) (u v : Value) (n : Nat) (cs : List Value) : Prop :=
  (SrcC w v c n cs ∧ ∃ a cap, v = .slice a n cap ∧ n ≤ cap ∧ cap ≤ maxLen) ∨ (wr.ownsRow B T c v n cs ∧ ∀ b, v.ownBlock = some b → u.ownBlock ≠ some b)
theorem owns_src {w : World} {B : Nat} {T : TypeId} {c n : Nat} {v : Value} {cs : List Value} (h : w.ownsRow B T c v n cs) : SrcC w v c n cs ∧ ∃ a cap, v = .slice a n cap ∧ n ≤ cap ∧ cap ≤ maxLen := by
  obtain ⟨hl, ⟨rfl, rfl⟩ | ⟨g, cap, cur, rfl, hg, hc, h1, h2, h3, h4⟩⟩ := h
  · exact ⟨⟨hl, none, 0, rfl, .inl rfl⟩, none, 0, rfl, Nat.le_refl _, Nat.zero_le _⟩
  · refine ⟨⟨hl, _, _, rfl, .inr ⟨g, 0, rfl, (Array.getElem?_eq_some_iff.1 hc).1, fun j hj => ?_⟩⟩, _, _, rfl, h1, h2⟩
    rw [Nat.zero_add, ← h4, List.getElem?_take_of_lt hj]
    simp [World.cell?, hc]
theorem RowO.read {w wr : World} {B : Nat} {T : TypeId} {c n : Nat} {u v : Value} {cs : List Value} (h : RowO w wr B T c u v n cs) (hb : Below w.heap.size w wr) : SrcC wr v c n cs ∧ ∃ a cap, v = .slice a n cap ∧ n ≤ cap ∧ cap ≤ maxLen := by
  rcases h with ⟨h1, h2⟩ | ⟨h1, _⟩
  · exact ⟨h1.below hb, h2⟩
  · exact owns_src h1
theorem RowO.grow {w wr w' : World} {B : Nat} {T : TypeId} {c n : Nat} {u u' v : Value} {cs : List Value} (h : RowO w wr B T c u v n cs) (hg : wr.grownBy w' u.ownBlock) (hn : NewRow wr u u') : RowO w w' B T c u' v n cs := by
  rcases h with h | ⟨h1, h2⟩
  · exact .inl h
  · refine .inr ⟨owns_turns h1 (grown_turns hg) (fun k hk => h2 k hk), fun b hb e => ?_⟩
    rcases hn with e1 | e1
    · exact h2 b hb (e1 ▸ e)
    · have := e1 b e
      have := owns_lt h1 hb
      omega
theorem RowO.turns {S : Nat → Prop} {w wr w' : World} {B : Nat} {T : TypeId} {c n : Nat} {u v : Value} {cs : List Value} (h : RowO w wr B T c u v n cs) (ht : Turns S wr w') (hS : ∀ k, S k → k < B) : RowO w w' B T c u v n cs := by
  rcases h with h | ⟨h1, h2⟩
  · exact .inl h
  · exact .inr ⟨owns_turns h1 ht (fun k hk hs => by have := hS k hs; have := row_ge h1 hk; omega), h2⟩
theorem RowO.keep {w wr w' : World} {B : Nat} {T : TypeId} {c n : Nat} {u v : Value} {cs : List Value} (h : RowO w wr B T c u v n cs) (hb : Below wr.heap.size wr w') : RowO w w' B T c u v n cs :=
  h.turns (S := fun _ => False) (Turns.of_below hb) (fun _ => False.elim)
/- A row that is newer than u. -/
theorem RowO.fresh {w wr : World} {B : Nat} {T U : TypeId} {c n m d : Nat} {u v : Value} {cs us : List Value} {N : Nat} (h : wr.ownsRow N T c v n cs) (hB : B ≤ N) {wu : World} (hu : wu.ownsRow B U d u m us) (hN : wu.heap.size ≤ N) : RowO w wr B T c u v n cs :=
  .inr ⟨owns_mono h hB, fun b hb e => by have := row_ge h hb; have := owns_lt hu e; omega⟩
theorem SrcC.isD {w w0 : World} {v : Value} {c n : Nat} {cs : List Value} {f : Nat → Dat} (h : SrcC w v c n cs) (hv : ∃ a cap, v = .slice a n cap ∧ n ≤ cap ∧ cap ≤ maxLen) (hb : Below w0.heap.size w0 w) (hd : ∀ j, j < n * c → IsD w0 (nthV cs j) (f j)) : IsD w v (.row c n f) := by
  obtain ⟨a, cap, rfl, h1, h2⟩ := hv
  obtain ⟨hl, a', cap', he, h⟩ := h
  obtain ⟨rfl, rfl⟩ : a = a' ∧ cap = cap' := by simpa using he
  refine IsD.of_parts h1 h2 (h.imp id ?_)
  rintro ⟨b, off, rfl, hlt, hc⟩
  refine ⟨b, off, rfl, hlt, fun j hj => ⟨nthV cs j, ?_, (hd j hj).under hb⟩⟩
  rw [hc j hj, List.getElem?_eq_getElem (by omega)]
  simp [nthV, show j < cs.length by omega]
theorem SrcC.cut {w : World} {a : Option Addr} {n cap c k : Nat} {cs : List Value} (h : SrcC w (.slice a n cap) c n cs) (hk : k ≤ n) (hcap : n ≤ cap) : SrcC w (sliced a 0 k cap c) c k (cs.take (k * c)) := by
  obtain ⟨hl, a', cap', he, h⟩ := h
  obtain ⟨rfl, rfl⟩ : a = a' ∧ cap = cap' := by simpa using he
  have hkn : k * c ≤ n * c := Nat.mul_le_mul_right c hk
  unfold sliced
  refine ⟨by rw [List.length_take]; omega, _, _, rfl, ?_⟩
  by_cases h0 : k = 0
  · exact .inl h0
  · obtain ⟨b, off, rfl, hlt, hc⟩ := h.resolve_left (by omega)
    rw [if_neg (by omega)]
    refine .inr ⟨b, off, by simp [Addr.add_lit], hlt, fun j hj => ?_⟩
    rw [hc j (by omega), List.getElem?_take_of_lt hj]
/- What one that was done is, read off the cells. -/
theorem ps_cells {w : World} {l : List Ps} {cs : List Value} {n : Nat} (hn : n ≤ l.length) (hl : cs.length = l.length * 12) (hd : ∀ j, j < l.length * 12 → IsD w (nthV cs j) (pastsD_f l j)) {k : Nat} (hk : k < n) {wr : World} {b off : Nat}
    (hc : ∀ j, j < n * 12 → wr.cell? ⟨b, off + j, none⟩ = (cs.take (n * 12))[j]?) :
    ∃ u7 u10 u11, wr.cell? ⟨b, off + k * 12, none⟩ = some (.int .i64 (psAt l k).e.t) ∧ wr.cell? ⟨b, off + k * 12 + 1, none⟩ = some (.int .i64 (psAt l k).e.s) ∧ wr.cell? ⟨b, off + k * 12 + 2, none⟩ = some (.int .i64 (psAt l k).e.q) ∧ wr.cell? ⟨b, off + k * 12 + 3, none⟩ = some (.int .i64 (psAt l k).e.d) ∧ wr.cell? ⟨b, off + k * 12 + 4, none⟩ = some (.int .i64 (psAt l k).e.k) ∧ wr.cell? ⟨b, off + k * 12 + 5, none⟩ = some (.int .i64 (psAt l k).e.v) ∧ wr.cell? ⟨b, off + k * 12 + 6, none⟩ = some (.int .i64 (psAt l k).e.g) ∧ wr.cell? ⟨b, off + k * 12 + 7, none⟩ = some u7 ∧ wr.cell? ⟨b, off + k * 12 + 8, none⟩ = some (.int .i64 (psAt l k).b.q) ∧ wr.cell? ⟨b, off + k * 12 + 9, none⟩ = some (.int .i64 (psAt l k).b.d) ∧ wr.cell? ⟨b, off + k * 12 + 10, none⟩ = some u10 ∧ wr.cell? ⟨b, off + k * 12 + 11, none⟩ = some u11 ∧
      IsD w u7 (intsD (psAt l k).b.r) ∧ IsD w u10 (evsD (psAt l k).s) ∧ IsD w u11 (emsD (psAt l k).x) := by
  have hh : ∀ r, r < 12 → wr.cell? ⟨b, off + k * 12 + r, none⟩ = some (nthV cs (k * 12 + r)) ∧ IsD w (nthV cs (k * 12 + r)) ((psAt l k).cell r) := fun r hr => by
    have h1 := hc (k * 12 + r) (by omega)
    rw [List.getElem?_take_of_lt (by omega), List.getElem?_eq_getElem (by omega), ← Nat.add_assoc] at h1
    have h2 := hd (k * 12 + r) (by omega)
    rw [pastsD_at l k hr] at h2
    refine ⟨?_, h2⟩
    rw [h1]
    simp [nthV, show k * 12 + r < cs.length by omega]
  have v0 := (hh 0 (by omega)).2.val_eq
  have v1 := (hh 1 (by omega)).2.val_eq
  have v2 := (hh 2 (by omega)).2.val_eq
  have v3 := (hh 3 (by omega)).2.val_eq
  have v4 := (hh 4 (by omega)).2.val_eq
  have v5 := (hh 5 (by omega)).2.val_eq
  have v6 := (hh 6 (by omega)).2.val_eq
  have v8 := (hh 8 (by omega)).2.val_eq
  have v9 := (hh 9 (by omega)).2.val_eq
  exact ⟨_, _, _, v0 ▸ (hh 0 (by omega)).1, v1 ▸ (hh 1 (by omega)).1, v2 ▸ (hh 2 (by omega)).1, v3 ▸ (hh 3 (by omega)).1, v4 ▸ (hh 4 (by omega)).1, v5 ▸ (hh 5 (by omega)).1, v6 ▸ (hh 6 (by omega)).1, (hh 7 (by omega)).1, v8 ▸ (hh 8 (by omega)).1, v9 ▸ (hh 9 (by omega)).1, (hh 10 (by omega)).1, (hh 11 (by omega)).1, (hh 7 (by omega)).2, (hh 10 (by omega)).2, (hh 11 (by omega)).2⟩
end Go.Proofs.Ytdcnimdhfhbdmaa
