/- At every code of at most 2^47 - 4096 bytes (the form's own reach) drawn events are in order, each of two one way; the code reads as it did. Condition, tied by the card to the program's text: the three tables of the library (two of math/bits, the powers of ten of internal/strconv) hold what their initialisers lay. -/
import Derived.Test.YteecpandpkicmaaDoorTie
import Derived.Test.YteecpandpkicmaaDoorCards
import Derived.Test.YteecpandpkicmaaDoorOrdersCardLDDraw
import Derived.Test.YteecpandpkicmaaDoorOrdersCardG18
import Derived.Test.YteecpandpkicmaaDoorOrdersCardG19
import Derived.Test.YteecpandpkicmaaDoorOrdersCardG30
import Derived.LaidMore
import Derived.Stop.Joined
import Derived.SevenTiedAt
import Derived.Lib.LaidTab
namespace Go.Proofs.YteecpandpkicmaaDoor.LawOrders
open Go.ChangeShapes Go.WideShapes Go.ChangeAt Go.WideMaps Go.WideElems Go.RowKit Go.Proofs.YteecpandpkicmaaDoor

set_option maxRecDepth 100000 in
set_option maxHeartbeats 16000000 in
theorem walk (ca : Option Addr) (n cap : Nat) (w : World) (hn : n ≤ 140737488351232) (hC : CodeIn w w.heap.size ca n) (htab : Lib.TabIs Tryd.prog w "internal/strconv.uint64pow10" .u64 Lib.pow10Tab) :
    Calls Tryd.prog 3 #[.slice ca n cap] w fun e w' => e = .returned (.bool true) ∧ Below w.heap.size w w' := by
  have HC : Hid (CodeIn w w.heap.size ca n) := hC
  have HT0 : Hid (Lib.TabIs Tryd.prog w "internal/strconv.uint64pow10" .u64 Lib.pow10Tab) := htab
  clear hC htab
  have hnot : ∀ (x : Bool) (w : World), (Op.unary .not (.bool x)).run Tryd.prog w = .ok (.bool (!x)) w := fun _ _ => rfl
  go_enter Tryd.func3, Tryd.ntmps3
  go_wp2_with fail
  refine (drawCmp_any ca n cap _ (by omega) HC.out).mono ?_
  rintro r w1 ⟨x, y, rfl, hb⟩
  have HB1 : Hid (Below w.heap.size w w1) := hb
  have HT1 : Hid (Lib.TabIs Tryd.prog w1 "internal/strconv.uint64pow10" .u64 Lib.pow10Tab) := tab_kept HT0.out hb
  clear hb HT0
  obtain ⟨w2, hw2⟩ : ∃ w2, (w1.alloc (.cells #[.int .i64 x.t, .int .i64 x.s, .int .i64 x.q, .int .i64 x.d, .int .i64 x.k, .int .i64 x.v, .int .i64 x.g] 24)).alloc (.cells #[.int .i64 y.t, .int .i64 y.s, .int .i64 y.q, .int .i64 y.d, .int .i64 y.k, .int .i64 y.v, .int .i64 y.g] 24) = w2 := ⟨_, rfl⟩
  have hb2 : Below w1.heap.size w1 w2 := by rw [← hw2]; exact ((Below.refl _ w1).alloc (Nat.le_refl _) _).alloc (by simp) _
  have Ha2 : Hid (Bx w2 w1.heap.size x) := by rw [← hw2]; exact (Bx.new w1 24 x).turns (S := fun _ => False) ((Turns.refl _ _).alloc _) id
  have Hb2 : Hid (Bx w2 (w1.heap.size + 1) y) := by
    have h := Bx.new (w1.alloc (.cells #[.int .i64 x.t, .int .i64 x.s, .int .i64 x.q, .int .i64 x.d, .int .i64 x.k, .int .i64 x.v, .int .i64 x.g] 24)) 24 y
    rw [World.size_alloc] at h
    rw [← hw2]
    exact h
  have HB2 : Hid (Below w.heap.size w w2) := HB1.out.trans (hb2.mono HB1.out.size)
  have HT2 : Hid (Lib.TabIs Tryd.prog w2 "internal/strconv.uint64pow10" .u64 Lib.pow10Tab) := tab_kept HT1.out hb2
  clear HB1 HT1 hb2
  go_wp2_with fail
  clear hw2
  refine (more_any ca n cap _ hn ((HC.out.below HB2.out (Nat.le_refl _)).mono HB2.out.size)).mono ?_
  rintro r w3 ⟨a3, cap3, rfl, hc3, hb⟩
  have HC3 : Hid (CodeIn w3 w3.heap.size a3 (n + 2)) := hc3
  clear hc3 HC
  have Ha3 : Hid (Bx w3 w1.heap.size x) := Ha2.out.turns (S := fun _ => False) (Turns.of_below hb) id
  have Hb3 : Hid (Bx w3 (w1.heap.size + 1) y) := Hb2.out.turns (S := fun _ => False) (Turns.of_below hb) id
  have HB3 : Hid (Below w.heap.size w w3) := HB2.out.trans (hb.mono HB2.out.size)
  have HT3 : Hid (Lib.TabIs Tryd.prog w3 "internal/strconv.uint64pow10" .u64 Lib.pow10Tab) := tab_kept HT2.out hb
  clear hb Ha2 Hb2 HB2 HT2
  go_wp2_with fail
  refine (drawCmp_any a3 (n + 2) cap3 _ (by omega) HC3.out).mono ?_
  rintro r w4 ⟨z, u, rfl, hb⟩
  clear HC3
  have Ha4 : Hid (Bx w4 w1.heap.size x) := Ha3.out.turns (S := fun _ => False) (Turns.of_below hb) id
  have Hb4 : Hid (Bx w4 (w1.heap.size + 1) y) := Hb3.out.turns (S := fun _ => False) (Turns.of_below hb) id
  have HB4 : Hid (Below w.heap.size w w4) := HB3.out.trans (hb.mono HB3.out.size)
  have HT4 : Hid (Lib.TabIs Tryd.prog w4 "internal/strconv.uint64pow10" .u64 Lib.pow10Tab) := tab_kept HT3.out hb
  clear hb Ha3 Hb3 HB3 HT3
  obtain ⟨w5, hw5⟩ : ∃ w5, (w4.alloc (.cells #[.int .i64 z.t, .int .i64 z.s, .int .i64 z.q, .int .i64 z.d, .int .i64 z.k, .int .i64 z.v, .int .i64 z.g] 24)).alloc (.cells #[.int .i64 u.t, .int .i64 u.s, .int .i64 u.q, .int .i64 u.d, .int .i64 u.k, .int .i64 u.v, .int .i64 u.g] 24) = w5 := ⟨_, rfl⟩
  have hb5 : Below w4.heap.size w4 w5 := by rw [← hw5]; exact ((Below.refl _ w4).alloc (Nat.le_refl _) _).alloc (by simp) _
  have Hc5 : Hid (Bx w5 w4.heap.size z) := by rw [← hw5]; exact (Bx.new w4 24 z).turns (S := fun _ => False) ((Turns.refl _ _).alloc _) id
  have Hd5 : Hid (Bx w5 (w4.heap.size + 1) u) := by
    have h := Bx.new (w4.alloc (.cells #[.int .i64 z.t, .int .i64 z.s, .int .i64 z.q, .int .i64 z.d, .int .i64 z.k, .int .i64 z.v, .int .i64 z.g] 24)) 24 u
    rw [World.size_alloc] at h
    rw [← hw5]
    exact h
  have Ha5 : Hid (Bx w5 w1.heap.size x) := Ha4.out.turns (S := fun _ => False) (Turns.of_below hb5) id
  have Hb5 : Hid (Bx w5 (w1.heap.size + 1) y) := Hb4.out.turns (S := fun _ => False) (Turns.of_below hb5) id
  have HB5 : Hid (Below w.heap.size w w5) := HB4.out.trans (hb5.mono HB4.out.size)
  have HT5 : Hid (Lib.TabIs Tryd.prog w5 "internal/strconv.uint64pow10" .u64 Lib.pow10Tab) := tab_kept HT4.out hb5
  clear hb5 Ha4 Hb4 HB4 HT4
  have HNO : Hid (∀ W : World, x.ecmp y = 0 → True) := fun _ _ => trivial
  clear HNO
  cases hx : x.ok with
  | false =>
    have HX : Hid (x.ok = false) := hx
    have HZ0 : Hid (x.ecmp y = 0) := ecmp_no (fun h => by rw [hx] at h; exact absurd h.1 (by simp))
    clear hx
    obtain ⟨⟨a0, a1, a2, a3, a4, a5, a6⟩, az, al⟩ := Ha5.out
    simp only [Nat.zero_add] at a1 a2 a3 a4 a5 a6
    obtain ⟨⟨b0, b1, b2, b3, b4, b5, b6⟩, bz, bl⟩ := Hb5.out
    simp only [Nat.zero_add] at b1 b2 b3 b4 b5 b6
    obtain ⟨⟨c0, c1, c2, c3, c4, c5, c6⟩, cz, cl⟩ := Hc5.out
    simp only [Nat.zero_add] at c1 c2 c3 c4 c5 c6
    obtain ⟨⟨d0, d1, d2, d3, d4, d5, d6⟩, dz, dl⟩ := Hd5.out
    simp only [Nat.zero_add] at d1 d2 d3 d4 d5 d6
    go_wp2_with fail
    clear hw5
    refine (sOk_ev x false HX.out _).mono ?_
    rintro r w6 ⟨rfl, hb⟩
    clear a0 a1 a2 a3 a4 a5 a6 az al b0 b1 b2 b3 b4 b5 b6 bz bl c0 c1 c2 c3 c4 c5 c6 cz cl d0 d1 d2 d3 d4 d5 d6 dz dl
    have Ha6 : Hid (Bx w6 w1.heap.size x) := Ha5.out.turns (S := fun _ => False) (Turns.of_below hb) id
    have Hb6 : Hid (Bx w6 (w1.heap.size + 1) y) := Hb5.out.turns (S := fun _ => False) (Turns.of_below hb) id
    have Hc6 : Hid (Bx w6 w4.heap.size z) := Hc5.out.turns (S := fun _ => False) (Turns.of_below hb) id
    have Hd6 : Hid (Bx w6 (w4.heap.size + 1) u) := Hd5.out.turns (S := fun _ => False) (Turns.of_below hb) id
    have HB6 : Hid (Below w.heap.size w w6) := HB5.out.trans (hb.mono HB5.out.size)
    have HT6 : Hid (Lib.TabIs Tryd.prog w6 "internal/strconv.uint64pow10" .u64 Lib.pow10Tab) := tab_kept HT5.out hb
    clear hb Ha5 Hb5 Hc5 Hd5 HB5 HT5
    obtain ⟨⟨a0, a1, a2, a3, a4, a5, a6⟩, az, al⟩ := Ha6.out
    simp only [Nat.zero_add] at a1 a2 a3 a4 a5 a6
    obtain ⟨⟨b0, b1, b2, b3, b4, b5, b6⟩, bz, bl⟩ := Hb6.out
    simp only [Nat.zero_add] at b1 b2 b3 b4 b5 b6
    obtain ⟨⟨c0, c1, c2, c3, c4, c5, c6⟩, cz, cl⟩ := Hc6.out
    simp only [Nat.zero_add] at c1 c2 c3 c4 c5 c6
    obtain ⟨⟨d0, d1, d2, d3, d4, d5, d6⟩, dz, dl⟩ := Hd6.out
    simp only [Nat.zero_add] at d1 d2 d3 d4 d5 d6
    go_wp2_with fail
    refine (iCmp_ev x y 0 HZ0.out _).mono ?_
    rintro r w6k ⟨rfl, hb⟩
    clear a0 a1 a2 a3 a4 a5 a6 az al b0 b1 b2 b3 b4 b5 b6 bz bl c0 c1 c2 c3 c4 c5 c6 cz cl d0 d1 d2 d3 d4 d5 d6 dz dl
    have Ha6k : Hid (Bx w6k w1.heap.size x) := Ha6.out.turns (S := fun _ => False) (Turns.of_below hb) id
    have Hb6k : Hid (Bx w6k (w1.heap.size + 1) y) := Hb6.out.turns (S := fun _ => False) (Turns.of_below hb) id
    have Hc6k : Hid (Bx w6k w4.heap.size z) := Hc6.out.turns (S := fun _ => False) (Turns.of_below hb) id
    have Hd6k : Hid (Bx w6k (w4.heap.size + 1) u) := Hd6.out.turns (S := fun _ => False) (Turns.of_below hb) id
    have HB6k : Hid (Below w.heap.size w w6k) := HB6.out.trans (hb.mono HB6.out.size)
    have HT6k : Hid (Lib.TabIs Tryd.prog w6k "internal/strconv.uint64pow10" .u64 Lib.pow10Tab) := tab_kept HT6.out hb
    clear hb Ha6 Hb6 Hc6 Hd6 HB6 HT6
    go_wp2_with fail
    refine (queues_any _).mono ?_
    rintro r wq ⟨rfl, hq⟩
    have HQ : Hid (Below w.heap.size w wq) := HB6k.out.trans (hq.mono HB6k.out.size)
    clear hq
    go_wp2
    go_ret
    exact ⟨rfl, HQ.out⟩
  | true =>
    have HX : Hid (x.ok = true) := hx
    clear hx
    obtain ⟨⟨a0, a1, a2, a3, a4, a5, a6⟩, az, al⟩ := Ha5.out
    simp only [Nat.zero_add] at a1 a2 a3 a4 a5 a6
    obtain ⟨⟨b0, b1, b2, b3, b4, b5, b6⟩, bz, bl⟩ := Hb5.out
    simp only [Nat.zero_add] at b1 b2 b3 b4 b5 b6
    obtain ⟨⟨c0, c1, c2, c3, c4, c5, c6⟩, cz, cl⟩ := Hc5.out
    simp only [Nat.zero_add] at c1 c2 c3 c4 c5 c6
    obtain ⟨⟨d0, d1, d2, d3, d4, d5, d6⟩, dz, dl⟩ := Hd5.out
    simp only [Nat.zero_add] at d1 d2 d3 d4 d5 d6
    go_wp2_with fail
    clear hw5
    refine (sOk_ev x true HX.out _).mono ?_
    rintro r w6 ⟨rfl, hb⟩
    clear a0 a1 a2 a3 a4 a5 a6 az al b0 b1 b2 b3 b4 b5 b6 bz bl c0 c1 c2 c3 c4 c5 c6 cz cl d0 d1 d2 d3 d4 d5 d6 dz dl
    have Ha6 : Hid (Bx w6 w1.heap.size x) := Ha5.out.turns (S := fun _ => False) (Turns.of_below hb) id
    have Hb6 : Hid (Bx w6 (w1.heap.size + 1) y) := Hb5.out.turns (S := fun _ => False) (Turns.of_below hb) id
    have Hc6 : Hid (Bx w6 w4.heap.size z) := Hc5.out.turns (S := fun _ => False) (Turns.of_below hb) id
    have Hd6 : Hid (Bx w6 (w4.heap.size + 1) u) := Hd5.out.turns (S := fun _ => False) (Turns.of_below hb) id
    have HB6 : Hid (Below w.heap.size w w6) := HB5.out.trans (hb.mono HB5.out.size)
    have HT6 : Hid (Lib.TabIs Tryd.prog w6 "internal/strconv.uint64pow10" .u64 Lib.pow10Tab) := tab_kept HT5.out hb
    clear hb Ha5 Hb5 Hc5 Hd5 HB5 HT5
    cases hy : y.ok with
    | false =>
      have HY : Hid (y.ok = false) := hy
      have HZ0 : Hid (x.ecmp y = 0) := ecmp_no (fun h => by rw [hy] at h; exact absurd h.2 (by simp))
      clear hy
      obtain ⟨⟨a0, a1, a2, a3, a4, a5, a6⟩, az, al⟩ := Ha6.out
      simp only [Nat.zero_add] at a1 a2 a3 a4 a5 a6
      obtain ⟨⟨b0, b1, b2, b3, b4, b5, b6⟩, bz, bl⟩ := Hb6.out
      simp only [Nat.zero_add] at b1 b2 b3 b4 b5 b6
      obtain ⟨⟨c0, c1, c2, c3, c4, c5, c6⟩, cz, cl⟩ := Hc6.out
      simp only [Nat.zero_add] at c1 c2 c3 c4 c5 c6
      obtain ⟨⟨d0, d1, d2, d3, d4, d5, d6⟩, dz, dl⟩ := Hd6.out
      simp only [Nat.zero_add] at d1 d2 d3 d4 d5 d6
      go_wp2_with fail
      refine (sOk_ev y false HY.out _).mono ?_
      rintro r w7 ⟨rfl, hb⟩
      clear a0 a1 a2 a3 a4 a5 a6 az al b0 b1 b2 b3 b4 b5 b6 bz bl c0 c1 c2 c3 c4 c5 c6 cz cl d0 d1 d2 d3 d4 d5 d6 dz dl
      have Ha7 : Hid (Bx w7 w1.heap.size x) := Ha6.out.turns (S := fun _ => False) (Turns.of_below hb) id
      have Hb7 : Hid (Bx w7 (w1.heap.size + 1) y) := Hb6.out.turns (S := fun _ => False) (Turns.of_below hb) id
      have Hc7 : Hid (Bx w7 w4.heap.size z) := Hc6.out.turns (S := fun _ => False) (Turns.of_below hb) id
      have Hd7 : Hid (Bx w7 (w4.heap.size + 1) u) := Hd6.out.turns (S := fun _ => False) (Turns.of_below hb) id
      have HB7 : Hid (Below w.heap.size w w7) := HB6.out.trans (hb.mono HB6.out.size)
      have HT7 : Hid (Lib.TabIs Tryd.prog w7 "internal/strconv.uint64pow10" .u64 Lib.pow10Tab) := tab_kept HT6.out hb
      clear hb Ha6 Hb6 Hc6 Hd6 HB6 HT6
      obtain ⟨⟨a0, a1, a2, a3, a4, a5, a6⟩, az, al⟩ := Ha7.out
      simp only [Nat.zero_add] at a1 a2 a3 a4 a5 a6
      obtain ⟨⟨b0, b1, b2, b3, b4, b5, b6⟩, bz, bl⟩ := Hb7.out
      simp only [Nat.zero_add] at b1 b2 b3 b4 b5 b6
      obtain ⟨⟨c0, c1, c2, c3, c4, c5, c6⟩, cz, cl⟩ := Hc7.out
      simp only [Nat.zero_add] at c1 c2 c3 c4 c5 c6
      obtain ⟨⟨d0, d1, d2, d3, d4, d5, d6⟩, dz, dl⟩ := Hd7.out
      simp only [Nat.zero_add] at d1 d2 d3 d4 d5 d6
      go_wp2_with fail
      refine (iCmp_ev x y 0 HZ0.out _).mono ?_
      rintro r w7k ⟨rfl, hb⟩
      clear a0 a1 a2 a3 a4 a5 a6 az al b0 b1 b2 b3 b4 b5 b6 bz bl c0 c1 c2 c3 c4 c5 c6 cz cl d0 d1 d2 d3 d4 d5 d6 dz dl
      have Ha7k : Hid (Bx w7k w1.heap.size x) := Ha7.out.turns (S := fun _ => False) (Turns.of_below hb) id
      have Hb7k : Hid (Bx w7k (w1.heap.size + 1) y) := Hb7.out.turns (S := fun _ => False) (Turns.of_below hb) id
      have Hc7k : Hid (Bx w7k w4.heap.size z) := Hc7.out.turns (S := fun _ => False) (Turns.of_below hb) id
      have Hd7k : Hid (Bx w7k (w4.heap.size + 1) u) := Hd7.out.turns (S := fun _ => False) (Turns.of_below hb) id
      have HB7k : Hid (Below w.heap.size w w7k) := HB7.out.trans (hb.mono HB7.out.size)
      have HT7k : Hid (Lib.TabIs Tryd.prog w7k "internal/strconv.uint64pow10" .u64 Lib.pow10Tab) := tab_kept HT7.out hb
      clear hb Ha7 Hb7 Hc7 Hd7 HB7 HT7
      go_wp2_with fail
      refine (queues_any _).mono ?_
      rintro r wq ⟨rfl, hq⟩
      have HQ : Hid (Below w.heap.size w wq) := HB7k.out.trans (hq.mono HB7k.out.size)
      clear hq
      go_wp2
      go_ret
      exact ⟨rfl, HQ.out⟩
    | true =>
      have HY : Hid (y.ok = true) := hy
      clear hy
      obtain ⟨⟨a0, a1, a2, a3, a4, a5, a6⟩, az, al⟩ := Ha6.out
      simp only [Nat.zero_add] at a1 a2 a3 a4 a5 a6
      obtain ⟨⟨b0, b1, b2, b3, b4, b5, b6⟩, bz, bl⟩ := Hb6.out
      simp only [Nat.zero_add] at b1 b2 b3 b4 b5 b6
      obtain ⟨⟨c0, c1, c2, c3, c4, c5, c6⟩, cz, cl⟩ := Hc6.out
      simp only [Nat.zero_add] at c1 c2 c3 c4 c5 c6
      obtain ⟨⟨d0, d1, d2, d3, d4, d5, d6⟩, dz, dl⟩ := Hd6.out
      simp only [Nat.zero_add] at d1 d2 d3 d4 d5 d6
      go_wp2_with fail
      refine (sOk_ev y true HY.out _).mono ?_
      rintro r w7 ⟨rfl, hb⟩
      clear a0 a1 a2 a3 a4 a5 a6 az al b0 b1 b2 b3 b4 b5 b6 bz bl c0 c1 c2 c3 c4 c5 c6 cz cl d0 d1 d2 d3 d4 d5 d6 dz dl
      have Ha7 : Hid (Bx w7 w1.heap.size x) := Ha6.out.turns (S := fun _ => False) (Turns.of_below hb) id
      have Hb7 : Hid (Bx w7 (w1.heap.size + 1) y) := Hb6.out.turns (S := fun _ => False) (Turns.of_below hb) id
      have Hc7 : Hid (Bx w7 w4.heap.size z) := Hc6.out.turns (S := fun _ => False) (Turns.of_below hb) id
      have Hd7 : Hid (Bx w7 (w4.heap.size + 1) u) := Hd6.out.turns (S := fun _ => False) (Turns.of_below hb) id
      have HB7 : Hid (Below w.heap.size w w7) := HB6.out.trans (hb.mono HB6.out.size)
      have HT7 : Hid (Lib.TabIs Tryd.prog w7 "internal/strconv.uint64pow10" .u64 Lib.pow10Tab) := tab_kept HT6.out hb
      clear hb Ha6 Hb6 Hc6 Hd6 HB6 HT6
      obtain ⟨zp, hzp⟩ : ∃ zp, y.cmp x = zp := ⟨_, rfl⟩
      have hzr := cmp_in y x
      rw [hzp] at hzr
      have HZ' : Hid (y.ecmp x = zp) := by show _ = _; rw [ecmp_of HY.out HX.out]; exact hzp
      have HZ : Hid (x.ecmp y = -zp) := by show _ = _; rw [ecmp_of HX.out HY.out, cmp_opp, hzp]
      have hz1 : -1 ≤ zp := by omega
      have hz2 : zp ≤ 1 := by omega
      clear hzr hzp
      have hq : IntKind.i64.wrap (-zp) = -zp := by rw [IntKind.wrap_i64]; omega
      have HTX : Hid (∀ W, Lib.TabIs Tryd.prog W "internal/strconv.uint64pow10" .u64 Lib.pow10Tab → Calls Tryd.prog 10 #[x.val] W fun r w' => (∃ sa scap, ∃ L : Nat, r = .returned (.slice sa L scap) ∧ 0 < L) ∧ Below W.heap.size W w') := fun W hT => by
        refine (iText_ok x.t x.s x.q x.d x.k x.v x.g W HX.out hT).mono ?_
        rintro r w' ⟨s, rfl, ⟨sa, scap, rfl, _⟩, hb⟩
        exact ⟨⟨sa, scap, _, rfl, evText_pos _ _ _ _ _ _⟩, hb⟩
      have hin : w1.heap.size + 1 < w7.heap.size := Hb7.out.lt
      have HT7d : Hid (Lib.TabIs Tryd.prog w7.drew "internal/strconv.uint64pow10" .u64 Lib.pow10Tab) := tab_kept HT7.out (Below.refl _ w7).drew
      obtain ⟨⟨a0, a1, a2, a3, a4, a5, a6⟩, az, al⟩ := Ha7.out
      simp only [Nat.zero_add] at a1 a2 a3 a4 a5 a6
      obtain ⟨⟨b0, b1, b2, b3, b4, b5, b6⟩, bz, bl⟩ := Hb7.out
      simp only [Nat.zero_add] at b1 b2 b3 b4 b5 b6
      go_wp2_with fail
      go_region_held3 (fun W => w1.heap.size + 1 < W.heap.size ∧ W.cell? ⟨w1.heap.size, 0, none⟩ = some (.int .i64 x.t) ∧ W.cell? ⟨w1.heap.size, 1, none⟩ = some (.int .i64 x.s) ∧ W.cell? ⟨w1.heap.size, 2, none⟩ = some (.int .i64 x.q) ∧ W.cell? ⟨w1.heap.size, 3, none⟩ = some (.int .i64 x.d) ∧ W.cell? ⟨w1.heap.size, 4, none⟩ = some (.int .i64 x.k) ∧ W.cell? ⟨w1.heap.size, 5, none⟩ = some (.int .i64 x.v) ∧ W.cell? ⟨w1.heap.size, 6, none⟩ = some (.int .i64 x.g) ∧ W.cell? ⟨w1.heap.size + 1, 0, none⟩ = some (.int .i64 y.t) ∧ W.cell? ⟨w1.heap.size + 1, 1, none⟩ = some (.int .i64 y.s) ∧ W.cell? ⟨w1.heap.size + 1, 2, none⟩ = some (.int .i64 y.q) ∧ W.cell? ⟨w1.heap.size + 1, 3, none⟩ = some (.int .i64 y.d) ∧ W.cell? ⟨w1.heap.size + 1, 4, none⟩ = some (.int .i64 y.k) ∧ W.cell? ⟨w1.heap.size + 1, 5, none⟩ = some (.int .i64 y.v) ∧ W.cell? ⟨w1.heap.size + 1, 6, none⟩ = some (.int .i64 y.g)) ((repeat' apply And.intro) <;> first | (go_keep; done) | (simp; omega) | omega | (rw [hcA _ _ (by first | omega | (simp; omega))]; simp [*]; done) | (rw [hcB _ _ (by first | omega | (simp; omega))]; simp [*]; done) | (rw [hcC _ _ (by first | omega | (simp; omega))]; simp [*]; done) | (rw [hcD _ _ (by first | omega | (simp; omega))]; simp [*]; done))
        (first
          | (go_at_call 7; have hTA := HTA; clear hTA; refine (iCmp_ev y x zp HZ'.out _).mono ?_; rintro r wB ⟨rfl, hbB⟩; obtain ⟨hcB, hfB⟩ := bcell hbB; have hzB := hbB.size; have HTB : Hid (Lib.TabIs Tryd.prog wB "internal/strconv.uint64pow10" .u64 Lib.pow10Tab) := tab_kept HTA.out hbB)
          | (go_at_call 7; refine (iCmp_ev x y (-zp) HZ.out _).mono ?_; rintro r wA ⟨rfl, hbA⟩; obtain ⟨hcA, hfA⟩ := bcell hbA; have hzA := hbA.size; have HTA : Hid (Lib.TabIs Tryd.prog wA "internal/strconv.uint64pow10" .u64 Lib.pow10Tab) := tab_kept HT7d.out hbA)
          | (go_at_call 9; refine (iOk_ev x true HX.out _).mono ?_; rintro r wC ⟨rfl, hbC⟩; obtain ⟨hcC, hfC⟩ := bcell hbC; have hzC := hbC.size; have HTC : Hid (Lib.TabIs Tryd.prog wC "internal/strconv.uint64pow10" .u64 Lib.pow10Tab) := tab_kept HTB.out hbC)
          | (go_at_call 10; refine (HTX.out _ HTC.out).mono ?_; rintro r wD ⟨⟨sa, scap, L, rfl, hL⟩, hbD⟩; obtain ⟨hcD, hfD⟩ := bcell hbD; have hzD := hbD.size; have hL0 : ((L : Int) == 0) = false := (by simp; omega)))
      have hb8 : Below w7.heap.size w7 wD := ((((Below.refl w7.heap.size w7).drew.trans hbA).trans (hbB.mono (by simp at hzA; omega))).trans (hbC.mono (by simp at hzA; omega))).trans (hbD.mono (by simp at hzA; omega))
      clear hcA hfA hcB hfB hcC hfC hcD hfD hbA hbB hbC hbD hzA hzB hzC hzD HTA HTB HTC HT7d HTX
      clear a0 a1 a2 a3 a4 a5 a6 az al b0 b1 b2 b3 b4 b5 b6 bz bl
      have HaD : Hid (Bx wD w1.heap.size x) := Ha7.out.turns (S := fun _ => False) (Turns.of_below hb8) id
      have HbD : Hid (Bx wD (w1.heap.size + 1) y) := Hb7.out.turns (S := fun _ => False) (Turns.of_below hb8) id
      have HcD : Hid (Bx wD w4.heap.size z) := Hc7.out.turns (S := fun _ => False) (Turns.of_below hb8) id
      have HdD : Hid (Bx wD (w4.heap.size + 1) u) := Hd7.out.turns (S := fun _ => False) (Turns.of_below hb8) id
      have HBD : Hid (Below w.heap.size w wD) := HB7.out.trans (hb8.mono HB7.out.size)
      have HTD : Hid (Lib.TabIs Tryd.prog wD "internal/strconv.uint64pow10" .u64 Lib.pow10Tab) := tab_kept HT7.out hb8
      clear hb8 Ha7 Hb7 Hc7 Hd7 HB7 HT7
      cases hz : z.ok with
      | false =>
        have HZk : Hid (z.ok = false) := hz
        clear hz
        obtain ⟨⟨a0, a1, a2, a3, a4, a5, a6⟩, az, al⟩ := HaD.out
        simp only [Nat.zero_add] at a1 a2 a3 a4 a5 a6
        obtain ⟨⟨b0, b1, b2, b3, b4, b5, b6⟩, bz, bl⟩ := HbD.out
        simp only [Nat.zero_add] at b1 b2 b3 b4 b5 b6
        obtain ⟨⟨c0, c1, c2, c3, c4, c5, c6⟩, cz, cl⟩ := HcD.out
        simp only [Nat.zero_add] at c1 c2 c3 c4 c5 c6
        obtain ⟨⟨d0, d1, d2, d3, d4, d5, d6⟩, dz, dl⟩ := HdD.out
        simp only [Nat.zero_add] at d1 d2 d3 d4 d5 d6
        go_wp2_with fail
        refine (sOk_ev z false HZk.out _).mono ?_
        rintro r w8 ⟨rfl, hb⟩
        clear a0 a1 a2 a3 a4 a5 a6 az al b0 b1 b2 b3 b4 b5 b6 bz bl c0 c1 c2 c3 c4 c5 c6 cz cl d0 d1 d2 d3 d4 d5 d6 dz dl
        have Ha8 : Hid (Bx w8 w1.heap.size x) := HaD.out.turns (S := fun _ => False) (Turns.of_below hb) id
        have Hb8 : Hid (Bx w8 (w1.heap.size + 1) y) := HbD.out.turns (S := fun _ => False) (Turns.of_below hb) id
        have Hc8 : Hid (Bx w8 w4.heap.size z) := HcD.out.turns (S := fun _ => False) (Turns.of_below hb) id
        have Hd8 : Hid (Bx w8 (w4.heap.size + 1) u) := HdD.out.turns (S := fun _ => False) (Turns.of_below hb) id
        have HB8 : Hid (Below w.heap.size w w8) := HBD.out.trans (hb.mono HBD.out.size)
        have HT8 : Hid (Lib.TabIs Tryd.prog w8 "internal/strconv.uint64pow10" .u64 Lib.pow10Tab) := tab_kept HTD.out hb
        clear hb HaD HbD HcD HdD HBD HTD
        by_cases ht : y.t ≤ x.t
        · obtain ⟨⟨a0, a1, a2, a3, a4, a5, a6⟩, az, al⟩ := Ha8.out
          simp only [Nat.zero_add] at a1 a2 a3 a4 a5 a6
          obtain ⟨⟨b0, b1, b2, b3, b4, b5, b6⟩, bz, bl⟩ := Hb8.out
          simp only [Nat.zero_add] at b1 b2 b3 b4 b5 b6
          obtain ⟨⟨c0, c1, c2, c3, c4, c5, c6⟩, cz, cl⟩ := Hc8.out
          simp only [Nat.zero_add] at c1 c2 c3 c4 c5 c6
          obtain ⟨⟨d0, d1, d2, d3, d4, d5, d6⟩, dz, dl⟩ := Hd8.out
          simp only [Nat.zero_add] at d1 d2 d3 d4 d5 d6
          go_wp2_with fail
          refine (queues_any _).mono ?_
          rintro r wq ⟨rfl, hq⟩
          have HQ : Hid (Below w.heap.size w wq) := HB8.out.trans (hq.mono HB8.out.size)
          clear a0 a1 a2 a3 a4 a5 a6 az al b0 b1 b2 b3 b4 b5 b6 bz bl c0 c1 c2 c3 c4 c5 c6 cz cl d0 d1 d2 d3 d4 d5 d6 dz dl
          clear hq
          go_wp2
          go_ret
          exact ⟨rfl, HQ.out⟩
        · have he := cmp_early (a := x) (b := y) (by omega)
          rw [← ecmp_of HX.out HY.out, HZ.out] at he
          have he1 : zp = 1 := by omega
          subst he1
          clear he
          obtain ⟨⟨a0, a1, a2, a3, a4, a5, a6⟩, az, al⟩ := Ha8.out
          simp only [Nat.zero_add] at a1 a2 a3 a4 a5 a6
          obtain ⟨⟨b0, b1, b2, b3, b4, b5, b6⟩, bz, bl⟩ := Hb8.out
          simp only [Nat.zero_add] at b1 b2 b3 b4 b5 b6
          obtain ⟨⟨c0, c1, c2, c3, c4, c5, c6⟩, cz, cl⟩ := Hc8.out
          simp only [Nat.zero_add] at c1 c2 c3 c4 c5 c6
          obtain ⟨⟨d0, d1, d2, d3, d4, d5, d6⟩, dz, dl⟩ := Hd8.out
          simp only [Nat.zero_add] at d1 d2 d3 d4 d5 d6
          go_wp2_with fail
          refine (iCmp_ev x y (-1) HZ.out _).mono ?_
          rintro r w8t ⟨rfl, hb⟩
          clear a0 a1 a2 a3 a4 a5 a6 az al b0 b1 b2 b3 b4 b5 b6 bz bl c0 c1 c2 c3 c4 c5 c6 cz cl d0 d1 d2 d3 d4 d5 d6 dz dl
          have Ha8t : Hid (Bx w8t w1.heap.size x) := Ha8.out.turns (S := fun _ => False) (Turns.of_below hb) id
          have Hb8t : Hid (Bx w8t (w1.heap.size + 1) y) := Hb8.out.turns (S := fun _ => False) (Turns.of_below hb) id
          have Hc8t : Hid (Bx w8t w4.heap.size z) := Hc8.out.turns (S := fun _ => False) (Turns.of_below hb) id
          have Hd8t : Hid (Bx w8t (w4.heap.size + 1) u) := Hd8.out.turns (S := fun _ => False) (Turns.of_below hb) id
          have HB8t : Hid (Below w.heap.size w w8t) := HB8.out.trans (hb.mono HB8.out.size)
          have HT8t : Hid (Lib.TabIs Tryd.prog w8t "internal/strconv.uint64pow10" .u64 Lib.pow10Tab) := tab_kept HT8.out hb
          clear hb Ha8 Hb8 Hc8 Hd8 HB8 HT8
          obtain ⟨⟨a0, a1, a2, a3, a4, a5, a6⟩, az, al⟩ := Ha8t.out
          simp only [Nat.zero_add] at a1 a2 a3 a4 a5 a6
          obtain ⟨⟨b0, b1, b2, b3, b4, b5, b6⟩, bz, bl⟩ := Hb8t.out
          simp only [Nat.zero_add] at b1 b2 b3 b4 b5 b6
          obtain ⟨⟨c0, c1, c2, c3, c4, c5, c6⟩, cz, cl⟩ := Hc8t.out
          simp only [Nat.zero_add] at c1 c2 c3 c4 c5 c6
          obtain ⟨⟨d0, d1, d2, d3, d4, d5, d6⟩, dz, dl⟩ := Hd8t.out
          simp only [Nat.zero_add] at d1 d2 d3 d4 d5 d6
          go_wp2_with fail
          refine (queues_any _).mono ?_
          rintro r wq ⟨rfl, hq⟩
          have HQ : Hid (Below w.heap.size w wq) := HB8t.out.trans (hq.mono HB8t.out.size)
          clear a0 a1 a2 a3 a4 a5 a6 az al b0 b1 b2 b3 b4 b5 b6 bz bl c0 c1 c2 c3 c4 c5 c6 cz cl d0 d1 d2 d3 d4 d5 d6 dz dl
          clear hq
          go_wp2
          go_ret
          exact ⟨rfl, HQ.out⟩
      | true =>
        have HZk : Hid (z.ok = true) := hz
        clear hz
        obtain ⟨⟨a0, a1, a2, a3, a4, a5, a6⟩, az, al⟩ := HaD.out
        simp only [Nat.zero_add] at a1 a2 a3 a4 a5 a6
        obtain ⟨⟨b0, b1, b2, b3, b4, b5, b6⟩, bz, bl⟩ := HbD.out
        simp only [Nat.zero_add] at b1 b2 b3 b4 b5 b6
        obtain ⟨⟨c0, c1, c2, c3, c4, c5, c6⟩, cz, cl⟩ := HcD.out
        simp only [Nat.zero_add] at c1 c2 c3 c4 c5 c6
        obtain ⟨⟨d0, d1, d2, d3, d4, d5, d6⟩, dz, dl⟩ := HdD.out
        simp only [Nat.zero_add] at d1 d2 d3 d4 d5 d6
        go_wp2_with fail
        refine (sOk_ev z true HZk.out _).mono ?_
        rintro r w8 ⟨rfl, hb⟩
        clear a0 a1 a2 a3 a4 a5 a6 az al b0 b1 b2 b3 b4 b5 b6 bz bl c0 c1 c2 c3 c4 c5 c6 cz cl d0 d1 d2 d3 d4 d5 d6 dz dl
        have Ha8 : Hid (Bx w8 w1.heap.size x) := HaD.out.turns (S := fun _ => False) (Turns.of_below hb) id
        have Hb8 : Hid (Bx w8 (w1.heap.size + 1) y) := HbD.out.turns (S := fun _ => False) (Turns.of_below hb) id
        have Hc8 : Hid (Bx w8 w4.heap.size z) := HcD.out.turns (S := fun _ => False) (Turns.of_below hb) id
        have Hd8 : Hid (Bx w8 (w4.heap.size + 1) u) := HdD.out.turns (S := fun _ => False) (Turns.of_below hb) id
        have HB8 : Hid (Below w.heap.size w w8) := HBD.out.trans (hb.mono HBD.out.size)
        have HT8 : Hid (Lib.TabIs Tryd.prog w8 "internal/strconv.uint64pow10" .u64 Lib.pow10Tab) := tab_kept HTD.out hb
        clear hb HaD HbD HcD HdD HBD HTD
        obtain ⟨⟨a0, a1, a2, a3, a4, a5, a6⟩, az, al⟩ := Ha8.out
        simp only [Nat.zero_add] at a1 a2 a3 a4 a5 a6
        obtain ⟨⟨b0, b1, b2, b3, b4, b5, b6⟩, bz, bl⟩ := Hb8.out
        simp only [Nat.zero_add] at b1 b2 b3 b4 b5 b6
        obtain ⟨⟨c0, c1, c2, c3, c4, c5, c6⟩, cz, cl⟩ := Hc8.out
        simp only [Nat.zero_add] at c1 c2 c3 c4 c5 c6
        obtain ⟨⟨d0, d1, d2, d3, d4, d5, d6⟩, dz, dl⟩ := Hd8.out
        simp only [Nat.zero_add] at d1 d2 d3 d4 d5 d6
        go_wp2_with fail
        refine (iCmp_ev x y (-zp) HZ.out _).mono ?_
        rintro r w9 ⟨rfl, hb⟩
        clear a0 a1 a2 a3 a4 a5 a6 az al b0 b1 b2 b3 b4 b5 b6 bz bl c0 c1 c2 c3 c4 c5 c6 cz cl d0 d1 d2 d3 d4 d5 d6 dz dl
        have Ha9 : Hid (Bx w9 w1.heap.size x) := Ha8.out.turns (S := fun _ => False) (Turns.of_below hb) id
        have Hb9 : Hid (Bx w9 (w1.heap.size + 1) y) := Hb8.out.turns (S := fun _ => False) (Turns.of_below hb) id
        have Hc9 : Hid (Bx w9 w4.heap.size z) := Hc8.out.turns (S := fun _ => False) (Turns.of_below hb) id
        have Hd9 : Hid (Bx w9 (w4.heap.size + 1) u) := Hd8.out.turns (S := fun _ => False) (Turns.of_below hb) id
        have HB9 : Hid (Below w.heap.size w w9) := HB8.out.trans (hb.mono HB8.out.size)
        have HT9 : Hid (Lib.TabIs Tryd.prog w9 "internal/strconv.uint64pow10" .u64 Lib.pow10Tab) := tab_kept HT8.out hb
        clear hb Ha8 Hb8 Hc8 Hd8 HB8 HT8
        by_cases hlt1 : -zp < 0
        · have HL1 : Hid (x.cmp y < 0) := by show _ < _; rw [← ecmp_of HX.out HY.out, HZ.out]; exact hlt1
          obtain ⟨z2, hz2e⟩ : ∃ z2, y.ecmp z = z2 := ⟨_, rfl⟩
          have HZ2 : Hid (y.ecmp z = z2) := hz2e
          clear hz2e
          obtain ⟨⟨a0, a1, a2, a3, a4, a5, a6⟩, az, al⟩ := Ha9.out
          simp only [Nat.zero_add] at a1 a2 a3 a4 a5 a6
          obtain ⟨⟨b0, b1, b2, b3, b4, b5, b6⟩, bz, bl⟩ := Hb9.out
          simp only [Nat.zero_add] at b1 b2 b3 b4 b5 b6
          obtain ⟨⟨c0, c1, c2, c3, c4, c5, c6⟩, cz, cl⟩ := Hc9.out
          simp only [Nat.zero_add] at c1 c2 c3 c4 c5 c6
          obtain ⟨⟨d0, d1, d2, d3, d4, d5, d6⟩, dz, dl⟩ := Hd9.out
          simp only [Nat.zero_add] at d1 d2 d3 d4 d5 d6
          go_wp2_with fail
          refine (iCmp_ev y z z2 HZ2.out _).mono ?_
          rintro r w10 ⟨rfl, hb⟩
          clear a0 a1 a2 a3 a4 a5 a6 az al b0 b1 b2 b3 b4 b5 b6 bz bl c0 c1 c2 c3 c4 c5 c6 cz cl d0 d1 d2 d3 d4 d5 d6 dz dl
          have Ha10 : Hid (Bx w10 w1.heap.size x) := Ha9.out.turns (S := fun _ => False) (Turns.of_below hb) id
          have Hb10 : Hid (Bx w10 (w1.heap.size + 1) y) := Hb9.out.turns (S := fun _ => False) (Turns.of_below hb) id
          have Hc10 : Hid (Bx w10 w4.heap.size z) := Hc9.out.turns (S := fun _ => False) (Turns.of_below hb) id
          have Hd10 : Hid (Bx w10 (w4.heap.size + 1) u) := Hd9.out.turns (S := fun _ => False) (Turns.of_below hb) id
          have HB10 : Hid (Below w.heap.size w w10) := HB9.out.trans (hb.mono HB9.out.size)
          have HT10 : Hid (Lib.TabIs Tryd.prog w10 "internal/strconv.uint64pow10" .u64 Lib.pow10Tab) := tab_kept HT9.out hb
          clear hb Ha9 Hb9 Hc9 Hd9 HB9 HT9
          by_cases hlt2 : z2 < 0
          · obtain ⟨z3, hz3e⟩ : ∃ z3, x.ecmp z = z3 := ⟨_, rfl⟩
            have HZ3 : Hid (x.ecmp z = z3) := hz3e
            have hlt3 : ¬ 0 ≤ z3 := by
              have h1 : y.cmp z < 0 := by rw [← ecmp_of HY.out HZk.out, HZ2.out]; exact hlt2
              have h2 := cmp_trans HL1.out h1
              rw [← ecmp_of HX.out HZk.out, hz3e] at h2
              omega
            clear hz3e
            obtain ⟨⟨a0, a1, a2, a3, a4, a5, a6⟩, az, al⟩ := Ha10.out
            simp only [Nat.zero_add] at a1 a2 a3 a4 a5 a6
            obtain ⟨⟨b0, b1, b2, b3, b4, b5, b6⟩, bz, bl⟩ := Hb10.out
            simp only [Nat.zero_add] at b1 b2 b3 b4 b5 b6
            obtain ⟨⟨c0, c1, c2, c3, c4, c5, c6⟩, cz, cl⟩ := Hc10.out
            simp only [Nat.zero_add] at c1 c2 c3 c4 c5 c6
            obtain ⟨⟨d0, d1, d2, d3, d4, d5, d6⟩, dz, dl⟩ := Hd10.out
            simp only [Nat.zero_add] at d1 d2 d3 d4 d5 d6
            go_wp2_with fail
            refine (iCmp_ev x z z3 HZ3.out _).mono ?_
            rintro r w11 ⟨rfl, hb⟩
            clear a0 a1 a2 a3 a4 a5 a6 az al b0 b1 b2 b3 b4 b5 b6 bz bl c0 c1 c2 c3 c4 c5 c6 cz cl d0 d1 d2 d3 d4 d5 d6 dz dl
            have Ha11 : Hid (Bx w11 w1.heap.size x) := Ha10.out.turns (S := fun _ => False) (Turns.of_below hb) id
            have Hb11 : Hid (Bx w11 (w1.heap.size + 1) y) := Hb10.out.turns (S := fun _ => False) (Turns.of_below hb) id
            have Hc11 : Hid (Bx w11 w4.heap.size z) := Hc10.out.turns (S := fun _ => False) (Turns.of_below hb) id
            have Hd11 : Hid (Bx w11 (w4.heap.size + 1) u) := Hd10.out.turns (S := fun _ => False) (Turns.of_below hb) id
            have HB11 : Hid (Below w.heap.size w w11) := HB10.out.trans (hb.mono HB10.out.size)
            have HT11 : Hid (Lib.TabIs Tryd.prog w11 "internal/strconv.uint64pow10" .u64 Lib.pow10Tab) := tab_kept HT10.out hb
            clear hb Ha10 Hb10 Hc10 Hd10 HB10 HT10
            by_cases ht : y.t ≤ x.t
            · obtain ⟨⟨a0, a1, a2, a3, a4, a5, a6⟩, az, al⟩ := Ha11.out
              simp only [Nat.zero_add] at a1 a2 a3 a4 a5 a6
              obtain ⟨⟨b0, b1, b2, b3, b4, b5, b6⟩, bz, bl⟩ := Hb11.out
              simp only [Nat.zero_add] at b1 b2 b3 b4 b5 b6
              obtain ⟨⟨c0, c1, c2, c3, c4, c5, c6⟩, cz, cl⟩ := Hc11.out
              simp only [Nat.zero_add] at c1 c2 c3 c4 c5 c6
              obtain ⟨⟨d0, d1, d2, d3, d4, d5, d6⟩, dz, dl⟩ := Hd11.out
              simp only [Nat.zero_add] at d1 d2 d3 d4 d5 d6
              go_wp2_with fail
              refine (queues_any _).mono ?_
              rintro r wq ⟨rfl, hq⟩
              have HQ : Hid (Below w.heap.size w wq) := HB11.out.trans (hq.mono HB11.out.size)
              clear a0 a1 a2 a3 a4 a5 a6 az al b0 b1 b2 b3 b4 b5 b6 bz bl c0 c1 c2 c3 c4 c5 c6 cz cl d0 d1 d2 d3 d4 d5 d6 dz dl
              clear hq
              go_wp2
              go_ret
              exact ⟨rfl, HQ.out⟩
            · have he := cmp_early (a := x) (b := y) (by omega)
              rw [← ecmp_of HX.out HY.out, HZ.out] at he
              have he1 : zp = 1 := by omega
              subst he1
              clear he
              obtain ⟨⟨a0, a1, a2, a3, a4, a5, a6⟩, az, al⟩ := Ha11.out
              simp only [Nat.zero_add] at a1 a2 a3 a4 a5 a6
              obtain ⟨⟨b0, b1, b2, b3, b4, b5, b6⟩, bz, bl⟩ := Hb11.out
              simp only [Nat.zero_add] at b1 b2 b3 b4 b5 b6
              obtain ⟨⟨c0, c1, c2, c3, c4, c5, c6⟩, cz, cl⟩ := Hc11.out
              simp only [Nat.zero_add] at c1 c2 c3 c4 c5 c6
              obtain ⟨⟨d0, d1, d2, d3, d4, d5, d6⟩, dz, dl⟩ := Hd11.out
              simp only [Nat.zero_add] at d1 d2 d3 d4 d5 d6
              go_wp2_with fail
              refine (iCmp_ev x y (-1) HZ.out _).mono ?_
              rintro r w11t ⟨rfl, hb⟩
              clear a0 a1 a2 a3 a4 a5 a6 az al b0 b1 b2 b3 b4 b5 b6 bz bl c0 c1 c2 c3 c4 c5 c6 cz cl d0 d1 d2 d3 d4 d5 d6 dz dl
              have Ha11t : Hid (Bx w11t w1.heap.size x) := Ha11.out.turns (S := fun _ => False) (Turns.of_below hb) id
              have Hb11t : Hid (Bx w11t (w1.heap.size + 1) y) := Hb11.out.turns (S := fun _ => False) (Turns.of_below hb) id
              have Hc11t : Hid (Bx w11t w4.heap.size z) := Hc11.out.turns (S := fun _ => False) (Turns.of_below hb) id
              have Hd11t : Hid (Bx w11t (w4.heap.size + 1) u) := Hd11.out.turns (S := fun _ => False) (Turns.of_below hb) id
              have HB11t : Hid (Below w.heap.size w w11t) := HB11.out.trans (hb.mono HB11.out.size)
              have HT11t : Hid (Lib.TabIs Tryd.prog w11t "internal/strconv.uint64pow10" .u64 Lib.pow10Tab) := tab_kept HT11.out hb
              clear hb Ha11 Hb11 Hc11 Hd11 HB11 HT11
              obtain ⟨⟨a0, a1, a2, a3, a4, a5, a6⟩, az, al⟩ := Ha11t.out
              simp only [Nat.zero_add] at a1 a2 a3 a4 a5 a6
              obtain ⟨⟨b0, b1, b2, b3, b4, b5, b6⟩, bz, bl⟩ := Hb11t.out
              simp only [Nat.zero_add] at b1 b2 b3 b4 b5 b6
              obtain ⟨⟨c0, c1, c2, c3, c4, c5, c6⟩, cz, cl⟩ := Hc11t.out
              simp only [Nat.zero_add] at c1 c2 c3 c4 c5 c6
              obtain ⟨⟨d0, d1, d2, d3, d4, d5, d6⟩, dz, dl⟩ := Hd11t.out
              simp only [Nat.zero_add] at d1 d2 d3 d4 d5 d6
              go_wp2_with fail
              refine (queues_any _).mono ?_
              rintro r wq ⟨rfl, hq⟩
              have HQ : Hid (Below w.heap.size w wq) := HB11t.out.trans (hq.mono HB11t.out.size)
              clear a0 a1 a2 a3 a4 a5 a6 az al b0 b1 b2 b3 b4 b5 b6 bz bl c0 c1 c2 c3 c4 c5 c6 cz cl d0 d1 d2 d3 d4 d5 d6 dz dl
              clear hq
              go_wp2
              go_ret
              exact ⟨rfl, HQ.out⟩
          · by_cases ht : y.t ≤ x.t
            · obtain ⟨⟨a0, a1, a2, a3, a4, a5, a6⟩, az, al⟩ := Ha10.out
              simp only [Nat.zero_add] at a1 a2 a3 a4 a5 a6
              obtain ⟨⟨b0, b1, b2, b3, b4, b5, b6⟩, bz, bl⟩ := Hb10.out
              simp only [Nat.zero_add] at b1 b2 b3 b4 b5 b6
              obtain ⟨⟨c0, c1, c2, c3, c4, c5, c6⟩, cz, cl⟩ := Hc10.out
              simp only [Nat.zero_add] at c1 c2 c3 c4 c5 c6
              obtain ⟨⟨d0, d1, d2, d3, d4, d5, d6⟩, dz, dl⟩ := Hd10.out
              simp only [Nat.zero_add] at d1 d2 d3 d4 d5 d6
              go_wp2_with fail
              refine (queues_any _).mono ?_
              rintro r wq ⟨rfl, hq⟩
              have HQ : Hid (Below w.heap.size w wq) := HB10.out.trans (hq.mono HB10.out.size)
              clear a0 a1 a2 a3 a4 a5 a6 az al b0 b1 b2 b3 b4 b5 b6 bz bl c0 c1 c2 c3 c4 c5 c6 cz cl d0 d1 d2 d3 d4 d5 d6 dz dl
              clear hq
              go_wp2
              go_ret
              exact ⟨rfl, HQ.out⟩
            · have he := cmp_early (a := x) (b := y) (by omega)
              rw [← ecmp_of HX.out HY.out, HZ.out] at he
              have he1 : zp = 1 := by omega
              subst he1
              clear he
              obtain ⟨⟨a0, a1, a2, a3, a4, a5, a6⟩, az, al⟩ := Ha10.out
              simp only [Nat.zero_add] at a1 a2 a3 a4 a5 a6
              obtain ⟨⟨b0, b1, b2, b3, b4, b5, b6⟩, bz, bl⟩ := Hb10.out
              simp only [Nat.zero_add] at b1 b2 b3 b4 b5 b6
              obtain ⟨⟨c0, c1, c2, c3, c4, c5, c6⟩, cz, cl⟩ := Hc10.out
              simp only [Nat.zero_add] at c1 c2 c3 c4 c5 c6
              obtain ⟨⟨d0, d1, d2, d3, d4, d5, d6⟩, dz, dl⟩ := Hd10.out
              simp only [Nat.zero_add] at d1 d2 d3 d4 d5 d6
              go_wp2_with fail
              refine (iCmp_ev x y (-1) HZ.out _).mono ?_
              rintro r w10t ⟨rfl, hb⟩
              clear a0 a1 a2 a3 a4 a5 a6 az al b0 b1 b2 b3 b4 b5 b6 bz bl c0 c1 c2 c3 c4 c5 c6 cz cl d0 d1 d2 d3 d4 d5 d6 dz dl
              have Ha10t : Hid (Bx w10t w1.heap.size x) := Ha10.out.turns (S := fun _ => False) (Turns.of_below hb) id
              have Hb10t : Hid (Bx w10t (w1.heap.size + 1) y) := Hb10.out.turns (S := fun _ => False) (Turns.of_below hb) id
              have Hc10t : Hid (Bx w10t w4.heap.size z) := Hc10.out.turns (S := fun _ => False) (Turns.of_below hb) id
              have Hd10t : Hid (Bx w10t (w4.heap.size + 1) u) := Hd10.out.turns (S := fun _ => False) (Turns.of_below hb) id
              have HB10t : Hid (Below w.heap.size w w10t) := HB10.out.trans (hb.mono HB10.out.size)
              have HT10t : Hid (Lib.TabIs Tryd.prog w10t "internal/strconv.uint64pow10" .u64 Lib.pow10Tab) := tab_kept HT10.out hb
              clear hb Ha10 Hb10 Hc10 Hd10 HB10 HT10
              obtain ⟨⟨a0, a1, a2, a3, a4, a5, a6⟩, az, al⟩ := Ha10t.out
              simp only [Nat.zero_add] at a1 a2 a3 a4 a5 a6
              obtain ⟨⟨b0, b1, b2, b3, b4, b5, b6⟩, bz, bl⟩ := Hb10t.out
              simp only [Nat.zero_add] at b1 b2 b3 b4 b5 b6
              obtain ⟨⟨c0, c1, c2, c3, c4, c5, c6⟩, cz, cl⟩ := Hc10t.out
              simp only [Nat.zero_add] at c1 c2 c3 c4 c5 c6
              obtain ⟨⟨d0, d1, d2, d3, d4, d5, d6⟩, dz, dl⟩ := Hd10t.out
              simp only [Nat.zero_add] at d1 d2 d3 d4 d5 d6
              go_wp2_with fail
              refine (queues_any _).mono ?_
              rintro r wq ⟨rfl, hq⟩
              have HQ : Hid (Below w.heap.size w wq) := HB10t.out.trans (hq.mono HB10t.out.size)
              clear a0 a1 a2 a3 a4 a5 a6 az al b0 b1 b2 b3 b4 b5 b6 bz bl c0 c1 c2 c3 c4 c5 c6 cz cl d0 d1 d2 d3 d4 d5 d6 dz dl
              clear hq
              go_wp2
              go_ret
              exact ⟨rfl, HQ.out⟩
        · by_cases ht : y.t ≤ x.t
          · obtain ⟨⟨a0, a1, a2, a3, a4, a5, a6⟩, az, al⟩ := Ha9.out
            simp only [Nat.zero_add] at a1 a2 a3 a4 a5 a6
            obtain ⟨⟨b0, b1, b2, b3, b4, b5, b6⟩, bz, bl⟩ := Hb9.out
            simp only [Nat.zero_add] at b1 b2 b3 b4 b5 b6
            obtain ⟨⟨c0, c1, c2, c3, c4, c5, c6⟩, cz, cl⟩ := Hc9.out
            simp only [Nat.zero_add] at c1 c2 c3 c4 c5 c6
            obtain ⟨⟨d0, d1, d2, d3, d4, d5, d6⟩, dz, dl⟩ := Hd9.out
            simp only [Nat.zero_add] at d1 d2 d3 d4 d5 d6
            go_wp2_with fail
            refine (queues_any _).mono ?_
            rintro r wq ⟨rfl, hq⟩
            have HQ : Hid (Below w.heap.size w wq) := HB9.out.trans (hq.mono HB9.out.size)
            clear a0 a1 a2 a3 a4 a5 a6 az al b0 b1 b2 b3 b4 b5 b6 bz bl c0 c1 c2 c3 c4 c5 c6 cz cl d0 d1 d2 d3 d4 d5 d6 dz dl
            clear hq
            go_wp2
            go_ret
            exact ⟨rfl, HQ.out⟩
          · have he := cmp_early (a := x) (b := y) (by omega)
            rw [← ecmp_of HX.out HY.out, HZ.out] at he
            exfalso
            omega


theorem gPow : Tryd.prog.globalNamed "internal/strconv.uint64pow10" = some 1 := by kernel_rfl
theorem tPow : (Tryd.prog.globals[1]?).map (·.type) = some 113 := by kernel_rfl
theorem dPow : (Rows.laid_internal_strconv_uint64pow10 : DataW Unit) = Lib.tabData .u64 Lib.pow10Tab := by kernel_rfl
theorem of_laid {W : World} (h : laidMetH Tryd.prog Rows.fnOrdersRow.laid W) : Lib.TabIs Tryd.prog W "internal/strconv.uint64pow10" .u64 Lib.pow10Tab := by
  rw [MakeChecks.laidMetH_plain _ _ _ (by kernel_rfl)] at h
  obtain ⟨ps, ⟨g0, t0, cs0, f0, p0, q0, hg0, ht0, hv0, hd0, ⟨g1, t1, cs1, f1, p1, q1, hg1, ht1, hv1, hd1, ⟨g2, t2, cs2, f2, p2, q2, hg2, ht2, hv2, hd2, _, _⟩, _⟩, _⟩, _, _⟩ := h
  obtain rfl := Option.some.inj (gPow.symm.trans hg2)
  obtain rfl := Option.some.inj (tPow.symm.trans ht2)
  rw [dPow] at hd2
  unfold Lib.TabIs
  rw [hv2, ← Lib.cells_of_tab Tryd.underlying113 Tryd.underlying103 (by kernel_rfl) (by kernel_rfl) hd2]
theorem door_met (os : Os) (args : Array Value) : laidMetH Tryd.prog Rows.fnOrdersRow.laid ((World.doorLaid Tryd.prog 400 os).forCall (fun _ _ => 0) ⟨#[], args, []⟩).memory :=
  laidMetH_of_parts3 (fuel := 8) (laidMet_of_run' 8 (by kernel_rfl) (by kernel_rfl)) (by kernel_rfl) (by kernel_rfl)

set_option maxRecDepth 100000 in
theorem lifted (os : Os) (started : os.Started) (H : Type) (enc : TypeId × Value → H) :
    ReturnsInHanded {} Tryd.checked os 3 .any (fun w args => (Rows.fnOrdersSpec.pre enc Tryd.prog Tryd.f3 [] false w args ∧ laidMetH Tryd.prog Rows.fnOrdersRow.laid w) ∧ sizedMet enc Tryd.prog Tryd.f3 (OpenSpec.ofChange Rows.fnOrdersSpec) false w args)
      (Rows.fnOrdersSpec.post enc Tryd.prog Tryd.f3 false true false false) := by
  refine returnsInHanded_of_change_and (C := Tryd.checked) (X := fun w _ => laidMetH Tryd.prog Rows.fnOrdersRow.laid w) (fun _ _ _ hh h => h.of_heap hh) own started (by kernel_rfl) Tryd.func3
    (ChangeSpec.witness_shaped (enc := enc) (C := Tryd.checked) (os := os) (X := fun w _ => laidMetH Tryd.prog Rows.fnOrdersRow.laid w) false (World.doorLaid Tryd.prog 400 os) #[.slice none 0 0] 8 rfl (World.shaped_of_RefB (by kernel_rfl) (by kernel_rfl)) (by kernel_rfl) (by kernel_rfl) (by kernel_rfl) (door_met os _)) ?_
  intro W base args ds gs before hval0 hW _ hsz hL _
  have hval : ∀ (j : Nat) t v, Tryd.f3.params[j]? = some t → args[j]? = some v → Value.okWide Tryd.prog W .any base t v := hval0
  have hW' := hW
  obtain ⟨p, q, hA0, hV, rfl, hfz, hnd⟩ := hW
  have hA : DataW.TrodAll enc Tryd.prog W 0 (fun _ => true) true Tryd.f3.params.toList args.toList ds p := hA0
  rw [Tryd.params3] at hA hval
  obtain ⟨v0, vs0, d0, ds0, p0, q0, hargs, rfl, rfl, h0, r0⟩ := trodAll_cons hA
  obtain ⟨rfl, rfl, rfl⟩ := trodAll_nil r0
  obtain rfl : args = #[v0] := by cases args; simp_all
  obtain ⟨rfl, rfl⟩ := trodVars_none hV
  have k0 := h0
  have lt0 : ∀ x ∈ p0, x.block < W.heap.size := by obtain ⟨m, hm⟩ := k0; exact DataW.trod_lt m _ _ _ hm
  obtain ⟨a, n, cap, rfl, hn, hcode⟩ := open_code (hval 0 22 v0 rfl rfl) h0 (fun elems spare e => sized_slice hsz (j := 0) (t := 22) (by rw [Tryd.params3]; rfl) (by subst e; rfl) Tryd.underlying22)
  clear hA0 hval0
  refine (walk a n cap W hn hcode (of_laid hL)).mono fun e W' ⟨he, bel⟩ => ?_
  subst he
  exact ⟨_, rfl, _, _, _, [], _, [], hW', trodAll_mk1 (shut_bool Tryd.underlying4 _), (trodAll_cons_mk (Below.trod laidOut (by kernel_rfl) (of_decide_eq_true (by kernel_rfl)) k0 bel lt0) trodAll_mk0), rfl, bel.frame _, fun h => by cases h⟩

theorem row_holds : Rows.FnOrdersSaid :=
  OpenClaim.holds_of_wide 3 Tryd.f3 rfl rfl rfl rfl rfl rfl rfl ⟨rfl, rfl, rfl, rfl, rfl⟩ rfl rfl rfl rfl rfl (by kernel_rfl) Tryd.func3 (by kernel_rfl)
    (of_decide_eq_true (by kernel_rfl)) (by unfold Func.isWrapper; first | (rw [if_pos (by decide +kernel)]; kernel_rfl) | (rw [if_neg (by decide +kernel)]; exact ⟨rfl, rfl⟩))
    (fun os started H enc _ => lifted os started H enc)
end Go.Proofs.YteecpandpkicmaaDoor.LawOrders
namespace Go.Proofs.YteecpandpkicmaaDoor
theorem orders_card : Rows.FnOrdersCardSaid :=
  Claim7.holds_tied_plain_at .later [] [.data, .data, .data] true (true, "b7224ba27966ac72d14d3a3b5f3b99686057da01582ee92201423145962bf8b4") true
    LawOrders.row_holds (fun _ h => by cases h) (by kernel_rfl) (fun _ h => by cases h) fnOrders_row_tie rfl ⟨rfl, rfl⟩ (by kernel_rfl) rfl
    (fun f fn hf hfn => by
      obtain rfl : f = 3 := Option.some.inj ((show Tryd.prog.funcNamed "loop.example/g00603/laws.FnOrders" = some 3 by kernel_rfl).symm.trans hf) |>.symm
      obtain rfl : fn = Tryd.f3 := (Option.some.inj (Tryd.func3.symm.trans hfn)).symm
      exact ⟨by kernel_rfl, fun j t ht => by
        rw [Tryd.params3] at ht
        have hm : t ∈ [22] := by simpa using Array.mem_of_getElem? ht
        have hall : ([22].all fun u => !Tryd.prog.wantsStandIn u) = true := by kernel_rfl
        exact (show Tryd.prog.wantsStandIn t = false by simpa using List.all_eq_true.1 hall t hm)⟩)
    (by kernel_rfl)
#print axioms orders_card
end Go.Proofs.YteecpandpkicmaaDoor
