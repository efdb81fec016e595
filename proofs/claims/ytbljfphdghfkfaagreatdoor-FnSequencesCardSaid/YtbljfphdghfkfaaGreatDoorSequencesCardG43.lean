/- CSqI, DTextK, DShelf, DTextJ, DTextI -/
import Derived.Test.YtbljfphdghfkfaaGreatDoorSequencesCardLCSqG
import Derived.Test.YtbljfphdghfkfaaGreatDoorSequencesCardG10
import Derived.Test.YtbljfphdghfkfaaGreatDoorSequencesCardG00
import Derived.OwnWalk
import Derived.Lib.UnsafeStr
import Derived.Lib.ItoaNum
import Derived.Lib.SlBytesConst
import Derived.Lib.AppendStr
import Derived.Deep.Cut
import Derived.Deep.RegionHeld3
import Derived.ArgAppend
import Derived.Shelf.Strings.OnBuilder
import Derived.Shelf.LaysM
import Derived.Shelf.Strconv.Itoa3
import Derived.Test.YtbljfphdghfkfaaGreatDoorProg
import Derived.Lib.AppendIntMem
import Derived.Lib.ConvBytes
/- The program's Sequence, as a whole. -/
namespace Go.Proofs.YtbljfphdghfkfaaGreatDoor
open Go.RowKit
def seqB (m : Md) (l : List Int) (z : Int) : Bool := m.ok && (vok l && (decide (0 ≤ z) && decide (z ≤ m.z)))
def zeroH : Hi := ⟨[], [], 0, false⟩
def seqA (m : Md) (l : List Int) (z : Int) : Hi := if seqB m l z = true then seqR m l z else zeroH
theorem zero_hi (B : Nat) (w : World) : HiF (fun k => B ≤ k ∧ k < w.heap.size) w (.agg #[.slice none 0 0, .slice none 0 0, .int .i64 0, .bool false]) zeroH := hi_of (ev := []) (em := []) (OwnR.nil _ _) (World.ownsRow_nil _ _ _ 3)
theorem vec_some (l : List Int) : ∃ a b c d, vecOf l = vec a b c d := by
 cases hv : vok l with
 | false => exact ⟨0, 0, 0, 0, vec_no hv⟩
 | true =>
  obtain ⟨c0, c1, c2, c3, rfl, _⟩ := vec_of hv
  exact ⟨c0, c1, c2, c3, by simp [vecOf, hv, intAt]⟩
set_option maxRecDepth 100000 in
set_option maxHeartbeats 16000000 in
theorem iSeq (x d : Value) (m : Md) (l : List Int) (z : Int) (w : World) (hsm : SmallM m) (hl : l.length ≤ 1048576) (hm : IsM w x m) (hd : IsI w d l) : Calls Tryz.prog 18 #[x, d, .int .i64 z] w fun r w' => ∃ u, r = .returned (.tuple #[u, .bool (seqB m l z)]) ∧ Below w.heap.size w w' ∧ HiF (fun k => w.heap.size ≤ k ∧ k < w'.heap.size) w' u (seqA m l z) := by
 by_cases hno : seqB m l z = true
 ·have hq := hno
  simp only [seqB, Bool.and_eq_true, decide_eq_true_eq] at hq
  obtain ⟨c0, c1, c2, c3, rfl, hvc⟩ := vec_of hq.2.1
  refine (iSeqG x d m c0 c1 c2 c3 z w hsm hm hd hq.1 hq.2.1 hvc hq.2.2.1 hq.2.2.2).mono ?_
  rintro r w' ⟨u, rfl, h1, h2⟩
  exact ⟨u, by rw [hno], h1, by rw [show seqA m [c0, c1, c2, c3] z = seqR m [c0, c1, c2, c3] z from by simp [seqA, hno]]; exact h2⟩
 have HM : Hid (IsM w x m) := hm
 have HD : Hid (IsI w d l) := hd
 have HSM : Hid (SmallM m) := hsm
 have HL : Hid (l.length ≤ 1048576) := hl
 have HNO : Hid (seqB m l z = false) := (by simpa using hno : seqB m l z = false)
 obtain ⟨vi, vh, vs, rfl, ⟨ai, ci, rfl, _⟩, ⟨ah, ch, rfl, _⟩, ⟨ae, ce, rfl, _⟩⟩ := hm
 clear hsm hd hl hno
 obtain ⟨W0, hW0⟩ : ∃ W0, (w.alloc (.cells #[.int .i64 m.n, .int .i64 m.s, .slice ai m.i.length ci, .slice ah m.h.length ch, .slice ae m.e.length ce, .int .i64 m.z] 27)).alloc (.cells #[.slice none 0 0, .slice none 0 0, .int .i64 0, .bool false] 48) = W0 := ⟨_, rfl⟩
 have HM0 : Hid (Bk W0 w.heap.size 27 #[.int .i64 m.n, .int .i64 m.s, .slice ai m.i.length ci, .slice ah m.h.length ch, .slice ae m.e.length ce, .int .i64 m.z]) := by rw [← hW0]; exact (Bk.new w _ _).alloc _
 have HR0 : Hid (Bk W0 (w.heap.size + 1) 48 #[.slice none 0 0, .slice none 0 0, .int .i64 0, .bool false]) := by rw [← hW0]; exact Bk.newAt (by simp) _ _
 have HB0 : Hid (Below w.heap.size w W0) := by rw [← hW0]; exact ((Below.refl _ w).alloc (Nat.le_refl _) _).alloc (by simp) _
 go_enter Tryz.func18, Tryz.ntmps18
 go_wp2_with fail
 clear hW0
 refine (of_any _ l _ (by have := HL.out; omega) (HD.out.below HB0.out)).mono ?_
 rintro r w1 ⟨rfl, hb⟩
 have HB1 : Hid (Below w.heap.size w w1) := HB0.out.trans (hb.mono HB0.out.size)
 have HM1 : Hid (Bk w1 w.heap.size 27 #[.int .i64 m.n, .int .i64 m.s, .slice ai m.i.length ci, .slice ah m.h.length ch, .slice ae m.e.length ce, .int .i64 m.z]) := HM0.out.below hb
 have HR1 : Hid (Bk w1 (w.heap.size + 1) 48 #[.slice none 0 0, .slice none 0 0, .int .i64 0, .bool false]) := HR0.out.below hb
 clear hb HB0 HM0 HR0
 obtain ⟨a0, a1, a2, a3, hvec⟩ := vec_some l
 rw [hvec]
 clear hvec
 obtain ⟨w2, hw2⟩ : ∃ W, w1.alloc (.cells #[i64 a0, i64 a1, i64 a2, i64 a3] 90) = W := ⟨_, rfl⟩
 have hb : Below w1.heap.size w1 w2 := by rw [← hw2]; exact (Below.refl _ _).alloc (Nat.le_refl _) _
 have HB2 : Hid (Below w.heap.size w w2) := HB1.out.trans (hb.mono HB1.out.size)
 have HM2 : Hid (Bk w2 w.heap.size 27 #[.int .i64 m.n, .int .i64 m.s, .slice ai m.i.length ci, .slice ah m.h.length ch, .slice ae m.e.length ce, .int .i64 m.z]) := HM1.out.below hb
 have HR2 : Hid (Bk w2 (w.heap.size + 1) 48 #[.slice none 0 0, .slice none 0 0, .int .i64 0, .bool false]) := HR1.out.below hb
 have HC2 : Hid (Bk w2 w1.heap.size 90 #[i64 a0, i64 a1, i64 a2, i64 a3]) := by rw [← hw2]; exact Bk.new _ _ _
 have HW2 : Hid (w1.alloc (.cells #[i64 a0, i64 a1, i64 a2, i64 a3] 90) = w2) := hw2
 clear hb HB1 HR1 hw2
 have HX1 : Hid (Bk (w1.alloc (.cells #[i64 a0, i64 a1, i64 a2, i64 a3] 90)) w.heap.size 27 #[.int .i64 m.n, .int .i64 m.s, .slice ai m.i.length ci, .slice ah m.h.length ch, .slice ae m.e.length ce, .int .i64 m.z]) := HM1.out.alloc _
 have p0 := HX1.out.cell (i := 0) rfl
 have p1 := HX1.out.cell (i := 1) rfl
 have p2 := HX1.out.cell (i := 2) rfl
 have p3 := HX1.out.cell (i := 3) rfl
 have p4 := HX1.out.cell (i := 4) rfl
 have p5 := HX1.out.cell (i := 5) rfl
 go_wp2_with fail
 clear p0 p1 p2 p3 p4 p5
 try rw [HW2.out]
 clear HW2 HX1 HM1
 refine (iModM _ m _ HSM.out (HM.out.below HB2.out)).mono ?_
 rintro r w3 ⟨rfl, hb⟩
 have HB3 : Hid (Below w.heap.size w w3) := HB2.out.trans (hb.mono HB2.out.size)
 have HM3 : Hid (Bk w3 w.heap.size 27 #[.int .i64 m.n, .int .i64 m.s, .slice ai m.i.length ci, .slice ah m.h.length ch, .slice ae m.e.length ce, .int .i64 m.z]) := HM2.out.below hb
 have HR3 : Hid (Bk w3 (w.heap.size + 1) 48 #[.slice none 0 0, .slice none 0 0, .int .i64 0, .bool false]) := HR2.out.below hb
 clear hb HB2 HM2 HR2 HC2
 cases hmo : m.ok with
 | false =>
  have k0 := HR3.out.cell (i := 0) rfl
  have k1 := HR3.out.cell (i := 1) rfl
  have k2 := HR3.out.cell (i := 2) rfl
  have k3 := HR3.out.cell (i := 3) rfl
  have rf := HR3.out.free
  go_wp2
  have hW := HR3.out.put4h (.slice none 0 0) (.slice none 0 0) (.int .i64 0) (.bool false)
  have hT := put4h_turns w3 (w.heap.size + 1) (.slice none 0 0) (.slice none 0 0) (.int .i64 0) (.bool false)
  have t0 := hW.cell (i := 0) rfl
  have t1 := hW.cell (i := 1) rfl
  have t2 := hW.cell (i := 2) rfl
  have t3 := hW.cell (i := 3) rfl
  have hno : seqB m l z = false := HNO.out
  refine bodyPost_ret (v := .tuple #[.agg #[.slice none 0 0, .slice none 0 0, .int .i64 0, .bool false], .bool false]) (by simp [results, Tryz.results18, go_sem, t0, t1, t2, t3]) rfl ⟨_, by rw [hno], HB3.out.trans (hT.to_below (fun k e => by omega) HB3.out.size), ?_⟩
  rw [show seqA m l z = zeroH from by simp [seqA, hno]]
  exact zero_hi _ _
 | true =>
  cases hvo : vok l with
  | false =>
   have k0 := HR3.out.cell (i := 0) rfl
   have k1 := HR3.out.cell (i := 1) rfl
   have k2 := HR3.out.cell (i := 2) rfl
   have k3 := HR3.out.cell (i := 3) rfl
   have rf := HR3.out.free
   go_wp2
   have hW := HR3.out.put4h (.slice none 0 0) (.slice none 0 0) (.int .i64 0) (.bool false)
   have hT := put4h_turns w3 (w.heap.size + 1) (.slice none 0 0) (.slice none 0 0) (.int .i64 0) (.bool false)
   have t0 := hW.cell (i := 0) rfl
   have t1 := hW.cell (i := 1) rfl
   have t2 := hW.cell (i := 2) rfl
   have t3 := hW.cell (i := 3) rfl
   have hno : seqB m l z = false := HNO.out
   refine bodyPost_ret (v := .tuple #[.agg #[.slice none 0 0, .slice none 0 0, .int .i64 0, .bool false], .bool false]) (by simp [results, Tryz.results18, go_sem, t0, t1, t2, t3]) rfl ⟨_, by rw [hno], HB3.out.trans (hT.to_below (fun k e => by omega) HB3.out.size), ?_⟩
   rw [show seqA m l z = zeroH from by simp [seqA, hno]]
   exact zero_hi _ _
  | true =>
   have p5 := HM3.out.cell (i := 5) rfl
   go_wp2_with fail
   refine (within_any z 0 m.z _).mono ?_
   rintro r w' ⟨rfl, hw⟩
   have hw' := hw.symm
   clear hw
   subst hw'
   have hbz : (decide (0 ≤ z) && decide (z ≤ m.z)) = false := by
    have h9 := HNO.out
    simpa only [seqB, hmo, hvo, Bool.true_and] using h9
   rw [hbz]
   have k0 := HR3.out.cell (i := 0) rfl
   have k1 := HR3.out.cell (i := 1) rfl
   have k2 := HR3.out.cell (i := 2) rfl
   have k3 := HR3.out.cell (i := 3) rfl
   have rf := HR3.out.free
   go_wp2
   have hW := HR3.out.put4h (.slice none 0 0) (.slice none 0 0) (.int .i64 0) (.bool false)
   have hT := put4h_turns w3 (w.heap.size + 1) (.slice none 0 0) (.slice none 0 0) (.int .i64 0) (.bool false)
   have t0 := hW.cell (i := 0) rfl
   have t1 := hW.cell (i := 1) rfl
   have t2 := hW.cell (i := 2) rfl
   have t3 := hW.cell (i := 3) rfl
   have hno : seqB m l z = false := HNO.out
   refine bodyPost_ret (v := .tuple #[.agg #[.slice none 0 0, .slice none 0 0, .int .i64 0, .bool false], .bool false]) (by simp [results, Tryz.results18, go_sem, t0, t1, t2, t3]) rfl ⟨_, by rw [hno], HB3.out.trans (hT.to_below (fun k e => by omega) HB3.out.size), ?_⟩
   rw [show seqA m l z = zeroH from by simp [seqA, hno]]
   exact zero_hi _ _
end Go.Proofs.YtbljfphdghfkfaaGreatDoor

/- What the text of an event is; bytes that lie in memory. -/
namespace Go.Proofs.YtbljfphdghfkfaaGreatDoor
open Go.RowKit
def byteAt (l : List UInt8) (i : Nat) : UInt8 := l.getD i 0
def BytesAt (w : World) (b off : Nat) (l : List UInt8) : Prop := b < w.heap.size ∧ ∀ i, i < l.length → w.cell? ⟨b, off + i, none⟩ = some (.int .u8 ((byteAt l i).toNat : Int))
def OwnB (B : Nat) (w : World) (x : Value) (l : List UInt8) : Prop := ∃ a cap, x = .slice a l.length cap ∧ l.length ≤ cap ∧ cap ≤ maxLen ∧ (l = [] ∨ ∃ g, a = some ⟨g, 0, none⟩ ∧ B ≤ g ∧ (∀ j, j < l.length → w.frozen? ⟨g, j, none⟩ = false) ∧ BytesAt w g 0 l)
theorem OwnB.nil (B : Nat) (w : World) : OwnB B w (.slice none 0 0) [] := ⟨none, 0, rfl, Nat.le_refl _, Nat.zero_le _, .inl rfl⟩
theorem OwnB.mono {B B' : Nat} {w : World} {x : Value} {l : List UInt8} (h : OwnB B w x l) (hb : B' ≤ B) : OwnB B' w x l := by
 obtain ⟨a, cap, rfl, h1, h2, h⟩ := h
 exact ⟨a, cap, rfl, h1, h2, h.imp id (fun ⟨g, e, hg, hr⟩ => ⟨g, e, Nat.le_trans hb hg, hr⟩)⟩
theorem decDigits_ge (n : Nat) (h : ¬ n < 10) : Lib.decDigits n = Lib.decDigits (n / 10) ++ [UInt8.ofNat (48 + n % 10)] := by rw [Lib.decDigits, dif_neg h]
theorem decDigits_len (n : Nat) : (Lib.decDigits n).length ≤ n + 1 := by
 induction n using Nat.strongRecOn with
 | _ n ih =>
  by_cases h : n < 10
  ·rw [Lib.decDigits_one h]; simp
  ·rw [decDigits_ge n h]
   have := ih (n / 10) (by omega)
   simp; omega
def dec (z : Int) : List UInt8 := Lib.decDigits z.toNat
theorem dec_len (z : Int) (h : z ≤ 1000000) : (dec z).length ≤ 1000001 := by
 have := decDigits_len z.toNat
 unfold dec
 omega
def fromText (s : Int) : List UInt8 := if s < 0 then [32, 111, 117, 116, 115, 105, 100, 101] else [32, 102, 114, 111, 109, 32] ++ dec s
def evText (t s q d k v : Int) : List UInt8 := [97, 116, 32] ++ dec t ++ fromText s ++ ([35] ++ dec q) ++ ([32, 116, 111, 32] ++ dec d) ++ ([32, 107, 105, 110, 100, 32] ++ dec k) ++ ([32, 118, 97, 108, 32] ++ dec v)
end Go.Proofs.YtbljfphdghfkfaaGreatDoor

/- The two library functions that the text calls, by their contracts: strings.Join and strconv.Itoa, at this dump. -/
namespace Go.Proofs
open Go.Shelf
def Tryz.lays156_ren : Go.Shelf.Ren := ⟨fun | 156 => 38 | 165 => 71 | 166 => 72 | 169 => 73 | 240 => 91 | 241 => 92 | 276 => 101 | 277 => 102 | n => n, fun | 31 => 68 | 9 => 9 | 3 => 3 | 4 => 4 | 0 => 0 | 20 => 20 | 72 => 122 | 76 => 126 | 70 => 120 | 37 => 22 | 75 => 125 | 127 => 159 | 164 => 179 | 5 => 5 | 80 => 128 | n => n, fun | n => n⟩
theorem Tryz.lays156 : Go.Proofs.Lays.n156 Tryz.prog Tryz.lays156_ren := {
 mixed := by kernel_rfl
 f156 := Tryz.func38.trans (congrArg some (by kernel_rfl))
 f165 := Tryz.func71.trans (congrArg some (by kernel_rfl))
 f166 := Tryz.func72.trans (congrArg some (by kernel_rfl))
 f169 := Tryz.func73.trans (congrArg some (by kernel_rfl))
 f240 := Tryz.func91.trans (congrArg some (by kernel_rfl))
 f241 := Tryz.func92.trans (congrArg some (by kernel_rfl))
 f276 := Tryz.func101.trans (congrArg some (by kernel_rfl))
 f277 := Tryz.func102.trans (congrArg some (by kernel_rfl))
 t0 := Tryz.underlying0
 a0 := Tryz.isAgg0
 z0 := Tryz.sizeOf0
 v0 := Tryz.zeroValue0
 t3 := Tryz.underlying3
 a3 := Tryz.isAgg3
 z3 := Tryz.sizeOf3
 v3 := Tryz.zeroValue3
 t4 := Tryz.underlying4
 a4 := Tryz.isAgg4
 z4 := Tryz.sizeOf4
 v4 := Tryz.zeroValue4
 t9 := Tryz.underlying9
 a9 := Tryz.isAgg9
 z9 := Tryz.sizeOf9
 v9 := Tryz.zeroValue9
 t20 := Tryz.underlying20
 a20 := Tryz.isAgg20
 z20 := Tryz.sizeOf20
 v20 := Tryz.zeroValue20
 t31 := Tryz.underlying68
 a31 := Tryz.isAgg68
 z31 := Tryz.sizeOf68
 v31 := Tryz.zeroValue68
 t37 := Tryz.underlying22
 a37 := Tryz.isAgg22
 z37 := Tryz.sizeOf22
 v37 := Tryz.zeroValue22
 t70 := Tryz.underlying120
 a70 := Tryz.isAgg120
 z70 := Tryz.sizeOf120
 v70 := Tryz.zeroValue120
 t72 := Tryz.underlying122
 a72 := Tryz.isAgg122
 z72 := Tryz.sizeOf122
 v72 := Tryz.zeroValue122
 t75 := Tryz.underlying125
 a75 := Tryz.isAgg125
 z75 := Tryz.sizeOf125
 v75 := Tryz.zeroValue125
 t76 := Tryz.underlying126
 a76 := Tryz.isAgg126
 z76 := Tryz.sizeOf126
 v76 := Tryz.zeroValue126
 t127 := Tryz.underlying159
 a127 := Tryz.isAgg159
 z127 := Tryz.sizeOf159
 v127 := Tryz.zeroValue159
 t164 := Tryz.underlying179
 a164 := Tryz.isAgg179
 z164 := Tryz.sizeOf179
 v164 := Tryz.zeroValue179 }
theorem Tryz.Builder_Extra_156 : Builder.Extra Tryz.prog Tryz.lays156_ren := {
 sizeBuilder := by kernel_rfl
 liesBuilder := by kernel_rfl
 t5 := Tryz.underlying5
 a5 := Tryz.isAgg5
 z5 := Tryz.sizeOf5
 v5 := Tryz.zeroValue5
 infoByte := by kernel_rfl
 cellsByte := by kernel_rfl
 sizeByte := by kernel_rfl
 neB5 := by decide }
open Go.RowKit in
theorem Tryz.strings_Join_none (a : Option Addr) (c : Nat) (sep : ByteArray) (w : World) :
  Calls Tryz.prog 38 #[.slice a 0 c, .string sep] w fun e w' => e = .returned (.string ⟨#[]⟩) ∧ w' = w := Any.strings_Join_none Tryz.lays156 Tryz.Builder_Extra_156 a c sep w
open Go.RowKit in
theorem Tryz.strings_Join (bk o c : Nat) (xs : List ByteArray) (sep : ByteArray) (w : World) (hcells : ∀ (j : Nat) x, xs[j]? = some x → w.cell? ⟨bk, o + j, none⟩ = some (.string x)) (hbk : bk < w.heap.size) (hN : xs.length ≤ 140737488355328) (hcap : xs.length ≤ c) (hlen : (Lib.join (xs.map (·.data.toList)) sep.data.toList).length ≤ 140737488355328) :
  Calls Tryz.prog 38 #[.slice (some ⟨bk, o, none⟩) xs.length c, .string sep] w fun e w' => e = .returned (.string ⟨(Lib.join (xs.map (·.data.toList)) sep.data.toList).toArray⟩) ∧ Below w.heap.size w w' := Any.strings_Join Tryz.lays156 Tryz.Builder_Extra_156 bk o c xs sep w hcells hbk hN hcap hlen
def Tryz.laysM171_ren : Go.Shelf.Ren := ⟨fun | 171 => 61 | 243 => 90 | 246 => 100 | 283 => 113 | 284 => 114 | 285 => 115 | 286 => 116 | 129 => 120 | 317 => 119 | 318 => 121 | 319 => 122 | 320 => 123 | 337 => 126 | 338 => 127 | n => n, fun | 3 => 3 | 9 => 9 | 2 => 2 | 4 => 4 | 171 => 189 | 0 => 0 | 53 => 190 | 37 => 22 | 5 => 5 | 173 => 193 | 212 => 198 | 51 => 199 | 20 => 20 | 213 => 200 | 46 => 147 | 232 => 205 | 233 => 206 | n => n, fun | 17 => 1 | 18 => 2 | 19 => 3 | n => n⟩
theorem Tryz.laysM171 : Go.Proofs.LaysM.n171 Tryz.prog Tryz.laysM171_ren := {
 mixed := by kernel_rfl
 f129 := Tryz.func120.trans (congrArg some (by kernel_rfl))
 f171 := Tryz.func61.trans (congrArg some (by kernel_rfl))
 f243 := Tryz.func90.trans (congrArg some (by kernel_rfl))
 f246 := Tryz.func100.trans (congrArg some (by kernel_rfl))
 f283 := Tryz.func113.trans (congrArg some (by kernel_rfl))
 f284 := Tryz.func114.trans (congrArg some (by kernel_rfl))
 f285 := Tryz.func115.trans (congrArg some (by kernel_rfl))
 f286 := Tryz.func116.trans (congrArg some (by kernel_rfl))
 f317 := Tryz.func119.trans (congrArg some (by kernel_rfl))
 f318 := Tryz.func121.trans (congrArg some (by kernel_rfl))
 f319 := Tryz.func122.trans (congrArg some (by kernel_rfl))
 f320 := Tryz.func123.trans (congrArg some (by kernel_rfl))
 f337 := Tryz.func126.trans (congrArg some (by kernel_rfl))
 f338 := Tryz.func127.trans (congrArg some (by kernel_rfl))
 t0 := Tryz.underlying0
 a0 := Tryz.isAgg0
 z0 := Tryz.sizeOf0
 v0 := Tryz.zeroValue0
 t2 := Tryz.underlying2
 a2 := Tryz.isAgg2
 z2 := Tryz.sizeOf2
 v2 := Tryz.zeroValue2
 t3 := Tryz.underlying3
 a3 := Tryz.isAgg3
 z3 := Tryz.sizeOf3
 v3 := Tryz.zeroValue3
 t4 := Tryz.underlying4
 a4 := Tryz.isAgg4
 z4 := Tryz.sizeOf4
 v4 := Tryz.zeroValue4
 t5 := Tryz.underlying5
 a5 := Tryz.isAgg5
 z5 := Tryz.sizeOf5
 v5 := Tryz.zeroValue5
 t9 := Tryz.underlying9
 a9 := Tryz.isAgg9
 z9 := Tryz.sizeOf9
 v9 := Tryz.zeroValue9
 t20 := Tryz.underlying20
 a20 := Tryz.isAgg20
 z20 := Tryz.sizeOf20
 v20 := Tryz.zeroValue20
 t37 := Tryz.underlying22
 a37 := Tryz.isAgg22
 z37 := Tryz.sizeOf22
 v37 := Tryz.zeroValue22
 t46 := Tryz.underlying147
 a46 := Tryz.isAgg147
 z46 := Tryz.sizeOf147
 v46 := Tryz.zeroValue147
 t51 := Tryz.underlying199
 a51 := Tryz.isAgg199
 z51 := Tryz.sizeOf199
 v51 := Tryz.zeroValue199
 t53 := Tryz.underlying190
 a53 := Tryz.isAgg190
 z53 := Tryz.sizeOf190
 v53 := Tryz.zeroValue190
 t171 := Tryz.underlying189
 a171 := Tryz.isAgg189
 z171 := Tryz.sizeOf189
 v171 := Tryz.zeroValue189
 t173 := Tryz.underlying193
 a173 := Tryz.isAgg193
 z173 := Tryz.sizeOf193
 v173 := Tryz.zeroValue193
 t212 := Tryz.underlying198
 a212 := Tryz.isAgg198
 z212 := Tryz.sizeOf198
 v212 := Tryz.zeroValue198
 t213 := Tryz.underlying200
 a213 := Tryz.isAgg200
 z213 := Tryz.sizeOf200
 t232 := Tryz.underlying205
 a232 := Tryz.isAgg205
 z232 := Tryz.sizeOf205
 v232 := Tryz.zeroValue205
 t233 := Tryz.underlying206
 a233 := Tryz.isAgg206
 z233 := Tryz.sizeOf206
 v233 := Tryz.zeroValue206
 g17 := by kernel_rfl
 g18 := by kernel_rfl
 g19 := by kernel_rfl
 i0 := by kernel_rfl
 i2 := by kernel_rfl
 i3 := by kernel_rfl
 i4 := by kernel_rfl
 i5 := by kernel_rfl
 i9 := by kernel_rfl
 i20 := by kernel_rfl
 i37 := by kernel_rfl
 i46 := by kernel_rfl
 i51 := by kernel_rfl
 i53 := by kernel_rfl
 i171 := by kernel_rfl
 i173 := by kernel_rfl
 i212 := by kernel_rfl
 i232 := by kernel_rfl
 i233 := by kernel_rfl
 m17 := by kernel_rfl
 m18 := by kernel_rfl
 m19 := by kernel_rfl }
open Go.RowKit Go.Sort Go.Lib in
theorem Tryz.strconv_Itoa (n : Int) (h0 : -9223372036854775808 ≤ n) (h1 : n ≤ 9223372036854775807) (w : World) (htab : Lib.TabIs Tryz.prog w "internal/strconv.uint64pow10" .u64 Lib.pow10Tab) :
  Calls Tryz.prog 61 #[.int .i64 n] w fun e w' => e = .returned (.string ⟨(Lib.itoa n).toArray⟩) ∧ ∃ k os, w' = grow (w.drewN k) os := Any.strconv_Itoa Tryz.laysM171 n h0 h1 w htab
end Go.Proofs

/- What the program's text of an event is made of: numbers, the sender, a string that turns into bytes. -/
namespace Go.Proofs.YtbljfphdghfkfaaGreatDoor
open Go.RowKit
theorem tab_kept {w w' : World} (h : Lib.TabIs Tryz.prog w "internal/strconv.uint64pow10" .u64 Lib.pow10Tab) (hb : Below w.heap.size w w') : Lib.TabIs Tryz.prog w' "internal/strconv.uint64pow10" .u64 Lib.pow10Tab := by
 have h9 : (w.var? Tryz.prog "internal/strconv.uint64pow10") = some _ := h
 show (w'.var? Tryz.prog "internal/strconv.uint64pow10") = some _
 unfold World.var? at h9 ⊢
 cases hx : Tryz.prog.globalNamed "internal/strconv.uint64pow10" with
 | none => rw [hx] at h9; cases h9
 | some x =>
  rw [hx] at h9
  simp only [Option.bind_some] at h9 ⊢
  by_cases hlt : x < w.heap.size
  ·rw [hb.block x hlt]; exact h9
  ·rw [Array.getElem?_eq_none (by omega)] at h9; cases h9
theorem itoa_any (z : Int) (h0 : 0 ≤ z) (h1 : z ≤ 1000000) (w : World) (htab : Lib.TabIs Tryz.prog w "internal/strconv.uint64pow10" .u64 Lib.pow10Tab) :
  Calls Tryz.prog 61 #[.int .i64 z] w fun e w' => ∃ b : ByteArray, e = .returned (.string b) ∧ b.data.toList = dec z ∧ Below w.heap.size w w' := by
 refine (Tryz.strconv_Itoa z (by omega) (by omega) w htab).mono ?_
 rintro e w' ⟨rfl, n, os, rfl⟩
 refine ⟨_, rfl, ?_, Lib.below_grow _ w (Nat.le_refl _) n os⟩
 show (Lib.itoa z).toArray.toList = Lib.decDigits z.toNat
 have e1 := Lib.itoa_nonneg z.toNat
 rw [show ((z.toNat : Nat) : Int) = z from by omega] at e1
 rw [e1]
def sender (s : Int) : List UInt8 := if s < 0 then [111, 117, 116, 115, 105, 100, 101] else [102, 114, 111, 109, 32] ++ dec s
theorem fromText_sender (s : Int) : fromText s = [32] ++ sender s := by
 unfold fromText sender
 by_cases h : s < 0
 ·rw [if_pos h, if_pos h]; rfl
 ·rw [if_neg h, if_neg h]; rfl
theorem bytes_append (a b : ByteArray) : (a ++ b).data.toList = a.data.toList ++ b.data.toList := by simp
set_option maxHeartbeats 1000000 in
theorem sender_any (s : Int) (h0 : -1 ≤ s) (h1 : s ≤ 1000000) (w : World) (htab : Lib.TabIs Tryz.prog w "internal/strconv.uint64pow10" .u64 Lib.pow10Tab) :
  Calls Tryz.prog 70 #[.int .i64 s] w fun e w' => ∃ b : ByteArray, e = .returned (.string b) ∧ b.data.toList = sender s ∧ Below w.heap.size w w' := by
 by_cases hs : s = -1
 ·subst hs
  go_enter Tryz.func70, Tryz.ntmps70
  go_wp2
  go_ret
  exact ⟨_, rfl, rfl, Below.refl _ _⟩
 ·have hs0 : 0 ≤ s := by omega
  have HC : Hid (Calls Tryz.prog 61 #[.int .i64 s] w fun e w' => ∃ b : ByteArray, e = .returned (.string b) ∧ b.data.toList = dec s ∧ Below w.heap.size w w') := itoa_any s hs0 h1 w htab
  clear htab
  go_enter Tryz.func70, Tryz.ntmps70
  go_wp2_with fail
  refine HC.out.mono ?_
  rintro r w1 ⟨b, rfl, hb, hbl⟩
  have hn : ¬ 9223372036854775807 < 5 + b.size := by
   have h9 := dec_len s h1
   have e9 : b.size = (dec s).length := by rw [← hb]; rfl
   omega
  go_wp2
  go_ret
  refine ⟨_, rfl, ?_, hbl⟩
  rw [bytes_append, hb, sender, if_neg (by omega)]
theorem evText_join (t s q d k v : Int) : Lib.join [[97, 116], dec t, sender s ++ [35] ++ dec q, [116, 111], dec d, [107, 105, 110, 100], dec k, [118, 97, 108], dec v] [32] = evText t s q d k v := by
 unfold evText
 rw [fromText_sender]
 simp [Lib.join, List.intercalate, List.intersperse]
theorem evText_len (t s q d k v : Int) (ht : t ≤ 1000000) (hs : s ≤ 1000000) (hq : q ≤ 1000000) (hd : d ≤ 1000000) (hk : k ≤ 1000000) (hv : v ≤ 1000000) : (evText t s q d k v).length ≤ 10000000 := by
 have a1 := dec_len t ht
 have a2 := dec_len s hs
 have a3 := dec_len q hq
 have a4 := dec_len d hd
 have a5 := dec_len k hk
 have a6 := dec_len v hv
 have a7 : (fromText s).length ≤ 1000010 := by
  unfold fromText
  split
  ·simp
  ·simp; omega
 unfold evText
 simp only [List.length_append, List.length_cons, List.length_nil]
 omega
theorem conv_below (w : World) (s : ByteArray) : Below w.heap.size w (Lib.bytesWorld w 5 s) :=
 ⟨by unfold Lib.bytesWorld World.freeze; split <;> rfl, by unfold Lib.bytesWorld World.freeze; split <;> rfl, by unfold Lib.bytesWorld World.freeze; split <;> rfl, by rw [Lib.bytesWorld_size]; omega, fun j hj => Lib.bytesWorld_at_old w 5 s j hj⟩
theorem conv_own (w : World) (s : ByteArray) (l : List UInt8) (hs : s.data.toList = l) (hl : l.length ≤ 10000000) : OwnB w.heap.size (Lib.bytesWorld w 5 s) (.slice (some ⟨w.heap.size, 0, none⟩) s.size (grownCap w s.size 0 5)) l := by
 have hsz : s.size = l.length := by rw [← hs]; rfl
 have hge := grownCap_ge w s.size 0 5
 refine ⟨_, _, by rw [hsz], by rw [← hsz]; exact hge, grownCap_le_maxLen w _ 0 5 (by unfold maxLen; omega), .inr ⟨w.heap.size, rfl, Nat.le_refl _, fun j hj => ?_, ?_, fun i hi => ?_⟩⟩
 ·simp only [World.frozen?, Lib.bytesWorld_at_new]
  have h9 : (Lib.bytesCells w 5 s).size = grownCap w s.size 0 5 := by
   unfold Lib.bytesCells
   simp
   have : s.data.size = s.size := rfl
   omega
  rw [h9]
  simp
  omega
 ·rw [Lib.bytesWorld_size]; omega
 ·rw [Nat.zero_add, Lib.bytesWorld_cell w 5 s i (by omega), hs]
  rfl
theorem conv9 (w : World) (s : ByteArray) : (convert 9 22 (.string s)).run Tryz.prog w = .ok (.slice (some ⟨w.heap.size, 0, none⟩) s.size (grownCap w s.size 0 5)) (Lib.bytesWorld w 5 s) :=
 Lib.run_convert_string_bytes w 9 22 5 s Tryz.underlying9 Tryz.underlying22 Tryz.underlying5
theorem cells9 (w : World) (a b c d e f g h i : ByteArray) : ∀ (j : Nat) x, [a, b, c, d, e, f, g, h, i][j]? = some x → (w.alloc (.cells #[.string a, .string b, .string c, .string d, .string e, .string f, .string g, .string h, .string i] 9)).cell? ⟨w.heap.size, 0 + j, none⟩ = some (.string x) := by
 intro j x hx
 have h0 := (MapKept.heap_alloc w (.cells #[.string a, .string b, .string c, .string d, .string e, .string f, .string g, .string h, .string i] 9)).1
 rw [Nat.zero_add]
 simp only [World.cell?, h0]
 have e1 : (#[Value.string a, .string b, .string c, .string d, .string e, .string f, .string g, .string h, .string i] : Array Value)[j]? = ([a, b, c, d, e, f, g, h, i][j]?).map Value.string := by
  rw [← List.getElem?_map]
  simp
 rw [e1, hx]
 rfl
theorem join_text (t s q d k v : Int) (w : World) (b1 b2 b3 b4 b5 b6 : ByteArray) (h1 : b1.data.toList = dec t) (h2 : b2.data.toList = sender s) (h3 : b3.data.toList = dec q) (h4 : b4.data.toList = dec d) (h5 : b5.data.toList = dec k) (h6 : b6.data.toList = dec v)
  (hl : (evText t s q d k v).length ≤ 10000000) :
  Calls Tryz.prog 38 #[.slice (some ⟨w.heap.size, 0, none⟩) 9 9, .string ⟨#[32]⟩] (w.alloc (.cells #[.string ⟨#[97, 116]⟩, .string b1, .string (b2 ++ ⟨#[35]⟩ ++ b3), .string ⟨#[116, 111]⟩, .string b4, .string ⟨#[107, 105, 110, 100]⟩, .string b5, .string ⟨#[118, 97, 108]⟩, .string b6] 9)) fun e w' =>
   ∃ b : ByteArray, e = .returned (.string b) ∧ b.data.toList = evText t s q d k v ∧ Below w.heap.size w w' := by
 have e1 : Lib.join ([(⟨#[97, 116]⟩ : ByteArray), b1, b2 ++ ⟨#[35]⟩ ++ b3, ⟨#[116, 111]⟩, b4, ⟨#[107, 105, 110, 100]⟩, b5, ⟨#[118, 97, 108]⟩, b6].map (·.data.toList)) (⟨#[32]⟩ : ByteArray).data.toList = evText t s q d k v := by
  rw [← evText_join]
  simp only [List.map_cons, List.map_nil, bytes_append, h1, h2, h3, h4, h5, h6]
 refine (Tryz.strings_Join w.heap.size 0 9 [(⟨#[97, 116]⟩ : ByteArray), b1, b2 ++ ⟨#[35]⟩ ++ b3, ⟨#[116, 111]⟩, b4, ⟨#[107, 105, 110, 100]⟩, b5, ⟨#[118, 97, 108]⟩, b6] ⟨#[32]⟩ _ (cells9 w _ _ _ _ _ _ _ _ _) (by simp) (by simp) (by simp) (by rw [e1]; omega)).mono ?_
 rintro e w' ⟨rfl, hb⟩
 exact ⟨_, rfl, e1, ((Below.refl _ w).alloc (Nat.le_refl _) _).trans (hb.mono (by simp))⟩
end Go.Proofs.YtbljfphdghfkfaaGreatDoor

/- The program's text of an event: the walk. -/
namespace Go.Proofs.YtbljfphdghfkfaaGreatDoor
open Go.RowKit
theorem sender_len (s : Int) (h : s ≤ 1000000) : (sender s).length ≤ 1000010 := by
 have := dec_len s h
 unfold sender
 split
 ·simp
 ·simp; omega
theorem over1 {b : ByteArray} {s : Int} (h : b.data.toList = sender s) (hs : s ≤ 1000000) : ¬ 9223372036854775807 < b.size + 1 := by
 have h8 := sender_len s hs
 have e8 : b.size = (sender s).length := by rw [← h]; rfl
 omega
theorem over2 {b c : ByteArray} {s q : Int} (h : b.data.toList = sender s) (hs : s ≤ 1000000) (h' : c.data.toList = dec q) (hq : q ≤ 1000000) : ¬ 9223372036854775807 < b.size + 1 + c.size := by
 have h8 := sender_len s hs
 have e8 : b.size = (sender s).length := by rw [← h]; rfl
 have h9 := dec_len q hq
 have e9 : c.size = (dec q).length := by rw [← h']; rfl
 omega
set_option maxRecDepth 100000 in
set_option maxHeartbeats 8000000 in
theorem iText_ok (t s q d k v g : Int) (w : World) (hok : okB t s q d k v g = true) (htab : Lib.TabIs Tryz.prog w "internal/strconv.uint64pow10" .u64 Lib.pow10Tab) :
  Calls Tryz.prog 37 #[.agg #[.int .i64 t, .int .i64 s, .int .i64 q, .int .i64 d, .int .i64 k, .int .i64 v, .int .i64 g]] w fun e w' => ∃ x, e = .returned x ∧ OwnB w.heap.size w' x (evText t s q d k v) ∧ Below w.heap.size w w' := by
 have hr := of_decide_eq_true hok
 obtain ⟨ht0, ht1', hs0, hs1', hq0, hq1', hd0, hd1', hk0, hk1', hv0, hv1', _, _⟩ := hr
 have ht1 : t ≤ 1000000 := by omega
 have hs1 : s ≤ 1000000 := by omega
 have hq1 : q ≤ 1000000 := by omega
 have hd1 : d ≤ 1000000 := by omega
 have hk1 : k ≤ 1000000 := by omega
 have hv1 : v ≤ 1000000 := by omega
 have hlen := evText_len t s q d k v ht1 hs1 hq1 hd1 hk1 hv1
 have HBw : Hid (Below w.heap.size w (w.alloc (.cells #[.int .i64 t, .int .i64 s, .int .i64 q, .int .i64 d, .int .i64 k, .int .i64 v, .int .i64 g] 53))) := (Below.refl _ w).alloc (Nat.le_refl _) _
 have HE : Hid (EvAt (w.alloc (.cells #[.int .i64 t, .int .i64 s, .int .i64 q, .int .i64 d, .int .i64 k, .int .i64 v, .int .i64 g] 53)) w.heap.size 0 t s q d k v g) := EvAt.new w 53 t s q d k v g
 have hbx : w.heap.size < (w.alloc (.cells #[.int .i64 t, .int .i64 s, .int .i64 q, .int .i64 d, .int .i64 k, .int .i64 v, .int .i64 g] 53)).heap.size := by simp
 have HT0 : Hid (Lib.TabIs Tryz.prog (w.alloc (.cells #[.int .i64 t, .int .i64 s, .int .i64 q, .int .i64 d, .int .i64 k, .int .i64 v, .int .i64 g] 53)) "internal/strconv.uint64pow10" .u64 Lib.pow10Tab) := tab_kept htab HBw.out
 clear htab ht1' hs1' hq1' hd1' hk1' hv1'
 go_enter Tryz.func37, Tryz.ntmps37
 go_upto_region 1 with fail
 generalize w.alloc (.cells #[.int .i64 t, .int .i64 s, .int .i64 q, .int .i64 d, .int .i64 k, .int .i64 v, .int .i64 g] 53) = W0 at *
 generalize hbxe : w.heap.size = bx at *
 obtain ⟨f0, f1, f2, f3, f4, f5, f6⟩ := HE.out.lits
 go_wp2_with fail
 refine (iOk_any t s q d k v g _).mono ?_
 rintro r wk ⟨rfl, hbk⟩
 rw [hok]
 have HBk : Hid (Below W0.heap.size W0 wk) := hbk
 have HT : Hid (Lib.TabIs Tryz.prog wk.drew "internal/strconv.uint64pow10" .u64 Lib.pow10Tab) := tab_kept HT0.out hbk.drew
 clear hbk f0 f1 f2 f3 f4 f5 f6 hok
 have kc := conv9
 go_wp2_with fail
 refine wp_region_noPanic ?_
 refine wp_region_held_drew (S := (fun W => W.cell? ⟨bx, 0, none⟩ = some (.int .i64 t) ∧ W.cell? ⟨bx, 1, none⟩ = some (.int .i64 s) ∧ W.cell? ⟨bx, 2, none⟩ = some (.int .i64 q) ∧ W.cell? ⟨bx, 3, none⟩ = some (.int .i64 d) ∧ W.cell? ⟨bx, 4, none⟩ = some (.int .i64 k) ∧ W.cell? ⟨bx, 5, none⟩ = some (.int .i64 v) ∧ W.cell? ⟨bx, 6, none⟩ = some (.int .i64 g))) (by kernel_rfl) (HE.out.below HBk.out.drew hbx).lits (fun hHeld => ?_)
 refine wpAnyH_take (i := 0) (oi := { dst := some 6, op := .fieldAddr 53 (.tmp 1) 0, type := 0, pos := _, after := _, guard := none }) (v := .pointer (some ⟨bx, 0, none⟩)) rfl (by kernel_rfl) (by kernel_rfl) (by kernel_rfl) (fun _ _ _ h => h) (Or.inl ⟨by rfl, ?_⟩) (by assumption) ?_
 ·intro wX hSw
  try dsimp only at hSw
  go_simp
 try simp only [Act.put, List.setIfInBounds_toArray, List.set_cons_zero, List.set_cons_succ]
 refine wpAnyH_take (i := 1) (oi := { dst := some 7, op := .load 3 (.tmp 6), type := 3, pos := _, after := _, guard := none }) (v := .int .i64 t) rfl (by kernel_rfl) (by kernel_rfl) (by kernel_rfl) (fun _ _ _ h => h) (Or.inl ⟨by rfl, ?_⟩) (by assumption) ?_
 ·intro wX hSw
  try dsimp only at hSw
  go_simp
 try simp only [Act.put, List.setIfInBounds_toArray, List.set_cons_zero, List.set_cons_succ]
 refine wpAnyH_take (i := 3) (oi := { dst := some 9, op := .fieldAddr 53 (.tmp 1) 1, type := 0, pos := _, after := _, guard := none }) (v := .pointer (some ⟨bx, 1, none⟩)) rfl (by kernel_rfl) (by kernel_rfl) (by kernel_rfl) (fun _ _ _ h => h) (Or.inl ⟨by rfl, ?_⟩) (by assumption) ?_
 ·intro wX hSw
  try dsimp only at hSw
  go_simp
 try simp only [Act.put, List.setIfInBounds_toArray, List.set_cons_zero, List.set_cons_succ]
 refine wpAnyH_take (i := 4) (oi := { dst := some 10, op := .load 3 (.tmp 9), type := 3, pos := _, after := _, guard := none }) (v := .int .i64 s) rfl (by kernel_rfl) (by kernel_rfl) (by kernel_rfl) (fun _ _ _ h => h) (Or.inl ⟨by rfl, ?_⟩) (by assumption) ?_
 ·intro wX hSw
  try dsimp only at hSw
  go_simp
 try simp only [Act.put, List.setIfInBounds_toArray, List.set_cons_zero, List.set_cons_succ]
 refine wpAnyH_take (i := 7) (oi := { dst := some 13, op := .fieldAddr 53 (.tmp 1) 2, type := 0, pos := _, after := _, guard := none }) (v := .pointer (some ⟨bx, 2, none⟩)) rfl (by kernel_rfl) (by kernel_rfl) (by kernel_rfl) (fun _ _ _ h => h) (Or.inl ⟨by rfl, ?_⟩) (by assumption) ?_
 ·intro wX hSw
  try dsimp only at hSw
  go_simp
 try simp only [Act.put, List.setIfInBounds_toArray, List.set_cons_zero, List.set_cons_succ]
 refine wpAnyH_take (i := 8) (oi := { dst := some 14, op := .load 3 (.tmp 13), type := 3, pos := _, after := _, guard := none }) (v := .int .i64 q) rfl (by kernel_rfl) (by kernel_rfl) (by kernel_rfl) (fun _ _ _ h => h) (Or.inl ⟨by rfl, ?_⟩) (by assumption) ?_
 ·intro wX hSw
  try dsimp only at hSw
  go_simp
 try simp only [Act.put, List.setIfInBounds_toArray, List.set_cons_zero, List.set_cons_succ]
 refine wpAnyH_take (i := 11) (oi := { dst := some 17, op := .fieldAddr 53 (.tmp 1) 3, type := 0, pos := _, after := _, guard := none }) (v := .pointer (some ⟨bx, 3, none⟩)) rfl (by kernel_rfl) (by kernel_rfl) (by kernel_rfl) (fun _ _ _ h => h) (Or.inl ⟨by rfl, ?_⟩) (by assumption) ?_
 ·intro wX hSw
  try dsimp only at hSw
  go_simp
 try simp only [Act.put, List.setIfInBounds_toArray, List.set_cons_zero, List.set_cons_succ]
 refine wpAnyH_take (i := 12) (oi := { dst := some 18, op := .load 3 (.tmp 17), type := 3, pos := _, after := _, guard := none }) (v := .int .i64 d) rfl (by kernel_rfl) (by kernel_rfl) (by kernel_rfl) (fun _ _ _ h => h) (Or.inl ⟨by rfl, ?_⟩) (by assumption) ?_
 ·intro wX hSw
  try dsimp only at hSw
  go_simp
 try simp only [Act.put, List.setIfInBounds_toArray, List.set_cons_zero, List.set_cons_succ]
 refine wpAnyH_take (i := 14) (oi := { dst := some 20, op := .fieldAddr 53 (.tmp 1) 4, type := 0, pos := _, after := _, guard := none }) (v := .pointer (some ⟨bx, 4, none⟩)) rfl (by kernel_rfl) (by kernel_rfl) (by kernel_rfl) (fun _ _ _ h => h) (Or.inl ⟨by rfl, ?_⟩) (by assumption) ?_
 ·intro wX hSw
  try dsimp only at hSw
  go_simp
 try simp only [Act.put, List.setIfInBounds_toArray, List.set_cons_zero, List.set_cons_succ]
 refine wpAnyH_take (i := 15) (oi := { dst := some 21, op := .load 3 (.tmp 20), type := 3, pos := _, after := _, guard := none }) (v := .int .i64 k) rfl (by kernel_rfl) (by kernel_rfl) (by kernel_rfl) (fun _ _ _ h => h) (Or.inl ⟨by rfl, ?_⟩) (by assumption) ?_
 ·intro wX hSw
  try dsimp only at hSw
  go_simp
 try simp only [Act.put, List.setIfInBounds_toArray, List.set_cons_zero, List.set_cons_succ]
 refine wpAnyH_take (i := 17) (oi := { dst := some 23, op := .fieldAddr 53 (.tmp 1) 5, type := 0, pos := _, after := _, guard := none }) (v := .pointer (some ⟨bx, 5, none⟩)) rfl (by kernel_rfl) (by kernel_rfl) (by kernel_rfl) (fun _ _ _ h => h) (Or.inl ⟨by rfl, ?_⟩) (by assumption) ?_
 ·intro wX hSw
  try dsimp only at hSw
  go_simp
 try simp only [Act.put, List.setIfInBounds_toArray, List.set_cons_zero, List.set_cons_succ]
 refine wpAnyH_take (i := 18) (oi := { dst := some 24, op := .load 3 (.tmp 23), type := 3, pos := _, after := _, guard := none }) (v := .int .i64 v) rfl (by kernel_rfl) (by kernel_rfl) (by kernel_rfl) (fun _ _ _ h => h) (Or.inl ⟨by rfl, ?_⟩) (by assumption) ?_
 ·intro wX hSw
  try dsimp only at hSw
  go_simp
 try simp only [Act.put, List.setIfInBounds_toArray, List.set_cons_zero, List.set_cons_succ]
 refine wpAnyH_ready (rs := [2]) (by kernel_rfl) (by simp) ?_
 refine AllReadyH.cons (o := { dst := some 8, op := .call { callee := .value (.func 61), args := #[.tmp 7], argTypes := #[3] }, type := 9, pos := _, after := _, guard := none }) rfl (fun K hK => ?_) AllReadyH.nil
 go_simp
 refine (itoa_any t ht0 ht1 _ HT.out).mono ?_
 rintro r wA ⟨bA, rfl, hA, hblA⟩
 have hBA : Below W0.heap.size W0 wA := (HBk.out.drew).trans (hblA.mono (HBk.out.drew).size)
 have hTA : Lib.TabIs Tryz.prog wA "internal/strconv.uint64pow10" .u64 Lib.pow10Tab := tab_kept HT0.out hBA
 have hkA := (HE.out.below hBA hbx).lits
 try go_simp
 refine hK.out _ _ hkA (fun hHeld => ?_)
 clear hK K
 try simp only [Act.put, List.setIfInBounds_toArray, List.set_cons_zero, List.set_cons_succ]
 refine wpAnyH_ready (rs := [5]) (by kernel_rfl) (by simp) ?_
 refine AllReadyH.cons (o := { dst := some 11, op := .call { callee := .value (.func 70), args := #[.tmp 10], argTypes := #[3] }, type := 9, pos := _, after := _, guard := none }) rfl (fun K hK => ?_) AllReadyH.nil
 go_simp
 refine (sender_any s hs0 hs1 _ hTA).mono ?_
 rintro r wB ⟨bB, rfl, hB_, hblB⟩
 have hBB : Below W0.heap.size W0 wB := (hBA).trans (hblB.mono (hBA).size)
 have hTB : Lib.TabIs Tryz.prog wB "internal/strconv.uint64pow10" .u64 Lib.pow10Tab := tab_kept HT0.out hBB
 have hkB := (HE.out.below hBB hbx).lits
 have hn1 : ¬ 9223372036854775807 < bB.size + 1 := over1 hB_ hs1
 try go_simp
 refine hK.out _ _ hkB (fun hHeld => ?_)
 clear hK K
 try simp only [Act.put, List.setIfInBounds_toArray, List.set_cons_zero, List.set_cons_succ]
 refine wpAnyH_take (i := 6) (oi := { dst := some 12, op := .binOp .add 9 (.tmp 11) (.const (.string ⟨#[35]⟩)) 9, type := 9, pos := _, after := _, guard := none }) (v := .string (bB ++ ⟨#[35]⟩)) rfl (by kernel_rfl) (by kernel_rfl) (by kernel_rfl) (fun _ _ _ h => h) (Or.inl ⟨by rfl, ?_⟩) (by assumption) ?_
 ·intro wX hSw
  try dsimp only at hSw
  go_simp
 try simp only [Act.put, List.setIfInBounds_toArray, List.set_cons_zero, List.set_cons_succ]
 refine wpAnyH_ready (rs := [9]) (by kernel_rfl) (by simp) ?_
 refine AllReadyH.cons (o := { dst := some 15, op := .call { callee := .value (.func 61), args := #[.tmp 14], argTypes := #[3] }, type := 9, pos := _, after := _, guard := none }) rfl (fun K hK => ?_) AllReadyH.nil
 go_simp
 refine (itoa_any q hq0 hq1 _ hTB).mono ?_
 rintro r wC ⟨bC, rfl, hC, hblC⟩
 have hBC : Below W0.heap.size W0 wC := (hBB).trans (hblC.mono (hBB).size)
 have hTC : Lib.TabIs Tryz.prog wC "internal/strconv.uint64pow10" .u64 Lib.pow10Tab := tab_kept HT0.out hBC
 have hkC := (HE.out.below hBC hbx).lits
 have hn2 : ¬ 9223372036854775807 < bB.size + 1 + bC.size := over2 hB_ hs1 hC hq1
 try go_simp
 refine hK.out _ _ hkC (fun hHeld => ?_)
 clear hK K
 try simp only [Act.put, List.setIfInBounds_toArray, List.set_cons_zero, List.set_cons_succ]
 refine wpAnyH_take (i := 10) (oi := { dst := some 16, op := .binOp .add 9 (.tmp 12) (.tmp 15) 9, type := 9, pos := _, after := _, guard := none }) (v := .string (bB ++ ⟨#[35]⟩ ++ bC)) rfl (by kernel_rfl) (by kernel_rfl) (by kernel_rfl) (fun _ _ _ h => h) (Or.inl ⟨by rfl, ?_⟩) (by assumption) ?_
 ·intro wX hSw
  try dsimp only at hSw
  go_simp
 try simp only [Act.put, List.setIfInBounds_toArray, List.set_cons_zero, List.set_cons_succ]
 refine wpAnyH_ready (rs := [13]) (by kernel_rfl) (by simp) ?_
 refine AllReadyH.cons (o := { dst := some 19, op := .call { callee := .value (.func 61), args := #[.tmp 18], argTypes := #[3] }, type := 9, pos := _, after := _, guard := none }) rfl (fun K hK => ?_) AllReadyH.nil
 go_simp
 refine (itoa_any d hd0 hd1 _ hTC).mono ?_
 rintro r wD ⟨bD, rfl, hD, hblD⟩
 have hBD : Below W0.heap.size W0 wD := (hBC).trans (hblD.mono (hBC).size)
 have hTD : Lib.TabIs Tryz.prog wD "internal/strconv.uint64pow10" .u64 Lib.pow10Tab := tab_kept HT0.out hBD
 have hkD := (HE.out.below hBD hbx).lits
 try go_simp
 refine hK.out _ _ hkD (fun hHeld => ?_)
 clear hK K
 try simp only [Act.put, List.setIfInBounds_toArray, List.set_cons_zero, List.set_cons_succ]
 refine wpAnyH_ready (rs := [16]) (by kernel_rfl) (by simp) ?_
 refine AllReadyH.cons (o := { dst := some 22, op := .call { callee := .value (.func 61), args := #[.tmp 21], argTypes := #[3] }, type := 9, pos := _, after := _, guard := none }) rfl (fun K hK => ?_) AllReadyH.nil
 go_simp
 refine (itoa_any k hk0 hk1 _ hTD).mono ?_
 rintro r wE ⟨bE, rfl, hE_, hblE⟩
 have hBE : Below W0.heap.size W0 wE := (hBD).trans (hblE.mono (hBD).size)
 have hTE : Lib.TabIs Tryz.prog wE "internal/strconv.uint64pow10" .u64 Lib.pow10Tab := tab_kept HT0.out hBE
 have hkE := (HE.out.below hBE hbx).lits
 try go_simp
 refine hK.out _ _ hkE (fun hHeld => ?_)
 clear hK K
 try simp only [Act.put, List.setIfInBounds_toArray, List.set_cons_zero, List.set_cons_succ]
 refine wpAnyH_ready (rs := [19]) (by kernel_rfl) (by simp) ?_
 refine AllReadyH.cons (o := { dst := some 25, op := .call { callee := .value (.func 61), args := #[.tmp 24], argTypes := #[3] }, type := 9, pos := _, after := _, guard := none }) rfl (fun K hK => ?_) AllReadyH.nil
 go_simp
 refine (itoa_any v hv0 hv1 _ hTE).mono ?_
 rintro r wF ⟨bF, rfl, hF, hblF⟩
 have hBF : Below W0.heap.size W0 wF := (hBE).trans (hblF.mono (hBE).size)
 have hTF : Lib.TabIs Tryz.prog wF "internal/strconv.uint64pow10" .u64 Lib.pow10Tab := tab_kept HT0.out hBF
 have hkF := (HE.out.below hBF hbx).lits
 try go_simp
 refine hK.out _ _ hkF (fun hHeld => ?_)
 clear hK K
 try simp only [Act.put, List.setIfInBounds_toArray, List.set_cons_zero, List.set_cons_succ]
 refine wpAnyH_ready (rs := [20]) (by kernel_rfl) (by simp) ?_
 refine AllReadyH.cons (o := { dst := some 26, op := .buildSlice 68 9 #[(0, .const (.string ⟨#[97, 116]⟩)), (1, .tmp 8), (2, .tmp 16), (3, .const (.string ⟨#[116, 111]⟩)), (4, .tmp 19), (5, .const (.string ⟨#[107, 105, 110, 100]⟩)), (6, .tmp 22), (7, .const (.string ⟨#[118, 97, 108]⟩)), (8, .tmp 25)], type := 68, pos := _, after := _, guard := none }) rfl (fun K hK => ?_) AllReadyH.nil
 go_simp
 refine hK.out _ _ ((HE.out.below hBF hbx).alloc (Nat.lt_of_lt_of_le hbx hBF.size) _).lits (fun hHeld => ?_)
 clear hK K
 try simp only [Act.put, List.setIfInBounds_toArray, List.set_cons_zero, List.set_cons_succ]
 refine wpAnyH_ready (rs := [21]) (by kernel_rfl) (by simp) ?_
 refine AllReadyH.cons (o := { dst := some 27, op := .call { callee := .value (.func 38), args := #[.tmp 26, .const (.string ⟨#[32]⟩)], argTypes := #[68, 9] }, type := 9, pos := _, after := _, guard := none }) rfl (fun K hK => ?_) AllReadyH.nil
 go_simp
 refine (join_text t s q d k v _ bA bB bC bD bE bF hA hB_ hC hD hE_ hF hlen).mono ?_
 rintro r wJ ⟨bJ, rfl, hJ, hblJ⟩
 have hBJ : Below W0.heap.size W0 wJ := hBF.trans (hblJ.mono hBF.size)
 have hkJ := (HE.out.below hBJ hbx).lits
 have hkK := (HE.out.below (hBJ.trans ((conv_below wJ bJ).mono hBJ.size)) hbx).lits
 try go_simp
 refine hK.out _ _ hkJ (fun hHeld => ?_)
 clear hK K
 try simp only [Act.put, List.setIfInBounds_toArray, List.set_cons_zero, List.set_cons_succ]
 refine wpAnyH_ready (rs := [22]) (by kernel_rfl) (by simp) ?_
 refine AllReadyH.cons (o := { dst := some 28, op := .convert 9 22 (.tmp 27), type := 22, pos := _, after := _, guard := none }) rfl (fun K hK => ?_) AllReadyH.nil
 go_simp
 refine hK.out _ _ hkK (fun hHeld => ?_)
 clear hK K
 try simp only [Act.put, List.setIfInBounds_toArray, List.set_cons_zero, List.set_cons_succ]
 refine wpAnyH_take (i := 23) (oi := { dst := some 2, op := .assign (.tmp 28), type := 22, pos := _, after := _, guard := none }) (v := .slice (some ⟨wJ.heap.size, 0, none⟩) bJ.size (grownCap wJ bJ.size 0 5)) rfl (by kernel_rfl) (by kernel_rfl) (by kernel_rfl) (fun _ _ _ h => h) (Or.inl ⟨by rfl, ?_⟩) (by assumption) ?_
 ·intro wX hSw
  try dsimp only at hSw
  go_simp
 try simp only [Act.put, List.setIfInBounds_toArray, List.set_cons_zero, List.set_cons_succ]
 refine wpAnyH_done (by kernel_rfl) ?_ _
 refine NoPanic.normal ?_
 go_wp2
 go_ret
 subst hbxe
 refine ⟨_, rfl, (conv_own wJ bJ _ hJ hlen).mono (by have := hBJ.size; omega), HBw.out.trans ((hBJ.trans ((conv_below wJ bJ).mono hBJ.size)).mono (by omega))⟩
end Go.Proofs.YtbljfphdghfkfaaGreatDoor

