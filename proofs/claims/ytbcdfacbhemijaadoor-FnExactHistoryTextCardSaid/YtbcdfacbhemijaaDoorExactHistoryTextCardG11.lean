/- OkI, MOk, DTextK, DShelf, DTextJ -/
import Derived.Test.YtbcdfacbhemijaaDoorExactHistoryTextCardG00
import Derived.Test.YtbcdfacbhemijaaDoorExactHistoryTextCardG06
import Derived.Test.YtbcdfacbhemijaaDoorExactHistoryTextCardG09
import Derived.Test.YtbcdfacbhemijaaDoorExactHistoryTextCardLOkS
import Derived.Test.YtbcdfacbhemijaaDoorExactHistoryTextCardG04
import Derived.OwnWalk
import Derived.Lib.UnsafeStr
import Derived.Lib.ItoaNum
import Derived.Lib.SlBytesConst
import Derived.Lib.AppendStr
import Derived.Deep.Cut
import Derived.Deep.RegionHeld3
import Derived.ArgAppend
import Derived.Shelf.Strings.OnBuilder
import Derived.Shelf.LaysM
import Derived.Shelf.Strconv.Itoa3
import Derived.Test.YtbcdfacbhemijaaDoorProg
import Derived.Lib.AppendIntMem
import Derived.Lib.ConvBytes
/- The program's EventOk. -/
namespace Go.Proofs.YtbcdfacbhemijaaDoor
open Go.RowKit
set_option maxHeartbeats 2000000 in
theorem iOk_any (t s q d k v g : Int) (w : World) :
    Calls Tryd.prog 59 #[.agg #[.int .i64 t, .int .i64 s, .int .i64 q, .int .i64 d, .int .i64 k, .int .i64 v, .int .i64 g]] w fun e w' =>
      e = .returned (.bool (okB t s q d k v g)) ∧ Below w.heap.size w w' := by
  go_enter Tryd.func59, Tryd.ntmps59
  go_wp2
  all_goals
    go_ret
    refine ⟨?_, (Below.refl _ _).alloc (Nat.le_refl _) _⟩
    first | exact ret_dec (by simp [okB]; omega) | exact ret_bool (by simp [okB]; omega)
end Go.Proofs.YtbcdfacbhemijaaDoor

/- ModelOk, as plain words. -/
namespace Go.Proofs.YtbcdfacbhemijaaDoor
open Go.RowKit
def Md.hd (m : Md) : Prop := 1 ≤ m.n ∧ m.n ≤ 4 ∧ 0 ≤ m.s ∧ m.s ≤ 65535 ∧ (m.i.length : Int) = m.n ∧ 1 ≤ m.h.length ∧ m.h.length ≤ 4 ∧ m.e.length ≤ 6 ∧ 0 ≤ m.z ∧ m.z ≤ 950
instance (m : Md) : Decidable m.hd := by unfold Md.hd; infer_instance
def inB (x : Int) : Bool := decide (0 ≤ x ∧ x ≤ 999)
def Md.okI (m : Md) : Bool := (List.range m.i.length).all fun j => inB (intAt m.i j)
def rowB (m : Md) (r : List O) : Bool := decide (r.length ≤ 8) && (List.range r.length).all fun q => (oAt r q).ok m.n m.h.length
def Md.okH (m : Md) : Bool := (List.range m.h.length).all fun j => rowB m (hAt m.h j)
def stB (m : Md) (j : Nat) (e : Ev) : Bool := e.ok && decide (e.s = -1 ∧ e.q = (j : Int) ∧ e.g = (j : Int) ∧ e.d < m.n ∧ e.k < (m.h.length : Int) ∧ e.t ≤ m.z)
def Md.okE (m : Md) : Bool := (List.range m.e.length).all fun j => stB m j (evAt m.e j)
def Md.ok (m : Md) : Bool := decide m.hd && m.okI && m.okH && m.okE
theorem range_no {n : Nat} {f : Nat → Bool} {k : Nat} (hk : k < n) (h : f k = false) : (List.range n).all f = false := by
  rw [List.all_eq_false]; exact ⟨k, by simpa using hk, by simp [h]⟩
theorem range_yes {n : Nat} {f : Nat → Bool} (h : ∀ k, k < n → f k = true) : (List.range n).all f = true := by
  rw [List.all_eq_true]; intro k hk; exact h k (by simpa using hk)
theorem ok_hd {m : Md} (h : ¬ m.hd) : m.ok = false := by simp [Md.ok, h]
theorem ok_i {m : Md} (h : m.okI = false) : m.ok = false := by simp [Md.ok, h]
theorem ok_h {m : Md} (h : m.okH = false) : m.ok = false := by simp [Md.ok, h]
theorem ok_e {m : Md} (h : m.okE = false) : m.ok = false := by simp [Md.ok, h]
theorem ok_yes {m : Md} (h : m.hd) (hi : m.okI = true) (hh : m.okH = true) (he : m.okE = true) : m.ok = true := by simp [Md.ok, h, hi, hh, he]
end Go.Proofs.YtbcdfacbhemijaaDoor

/- What the text of an event is; bytes that lie in memory. -/
namespace Go.Proofs.YtbcdfacbhemijaaDoor
open Go.RowKit
def byteAt (l : List UInt8) (i : Nat) : UInt8 := l.getD i 0
def BytesAt (w : World) (b off : Nat) (l : List UInt8) : Prop := b < w.heap.size ∧ ∀ i, i < l.length → w.cell? ⟨b, off + i, none⟩ = some (.int .u8 ((byteAt l i).toNat : Int))
def OwnB (B : Nat) (w : World) (x : Value) (l : List UInt8) : Prop := ∃ a cap, x = .slice a l.length cap ∧ l.length ≤ cap ∧ cap ≤ maxLen ∧ (l = [] ∨ ∃ g, a = some ⟨g, 0, none⟩ ∧ B ≤ g ∧ (∀ j, j < l.length → w.frozen? ⟨g, j, none⟩ = false) ∧ BytesAt w g 0 l)
theorem OwnB.nil (B : Nat) (w : World) : OwnB B w (.slice none 0 0) [] := ⟨none, 0, rfl, Nat.le_refl _, Nat.zero_le _, .inl rfl⟩
theorem OwnB.mono {B B' : Nat} {w : World} {x : Value} {l : List UInt8} (h : OwnB B w x l) (hb : B' ≤ B) : OwnB B' w x l := by
  obtain ⟨a, cap, rfl, h1, h2, h⟩ := h
  exact ⟨a, cap, rfl, h1, h2, h.imp id (fun ⟨g, e, hg, hr⟩ => ⟨g, e, Nat.le_trans hb hg, hr⟩)⟩
theorem decDigits_ge (n : Nat) (h : ¬ n < 10) : Lib.decDigits n = Lib.decDigits (n / 10) ++ [UInt8.ofNat (48 + n % 10)] := by rw [Lib.decDigits, dif_neg h]
theorem decDigits_len (n : Nat) : (Lib.decDigits n).length ≤ n + 1 := by
  induction n using Nat.strongRecOn with
  | _ n ih =>
    by_cases h : n < 10
    · rw [Lib.decDigits_one h]; simp
    · rw [decDigits_ge n h]
      have := ih (n / 10) (by omega)
      simp; omega
def dec (z : Int) : List UInt8 := Lib.decDigits z.toNat
theorem dec_len (z : Int) (h : z ≤ 1000000) : (dec z).length ≤ 1000001 := by
  have := decDigits_len z.toNat
  unfold dec
  omega
theorem decDigits_ne (n : Nat) : Lib.decDigits n ≠ [] := by
  intro h
  by_cases hn : n < 10
  · rw [Lib.decDigits_one hn] at h; cases h
  · rw [decDigits_ge n hn] at h; simp at h
def fromText (s : Int) : List UInt8 := if s < 0 then [32, 111, 117, 116, 115, 105, 100, 101] else [32, 102, 114, 111, 109, 32] ++ dec s
def evText (t s q d k v : Int) : List UInt8 := [97, 116, 32] ++ dec t ++ fromText s ++ ([35] ++ dec q) ++ ([32, 116, 111, 32] ++ dec d) ++ ([32, 107, 105, 110, 100, 32] ++ dec k) ++ ([32, 118, 97, 108, 32] ++ dec v)
end Go.Proofs.YtbcdfacbhemijaaDoor

/- The two library functions that the text calls, by their contracts: strings.Join and strconv.Itoa, at this dump. -/
namespace Go.Proofs
open Go.Shelf
def Tryd.lays156_ren : Go.Shelf.Ren := ⟨fun | 156 => 33 | 165 => 61 | 166 => 62 | 169 => 63 | 240 => 77 | 241 => 78 | 276 => 84 | 277 => 85 | n => n, fun | 31 => 60 | 9 => 9 | 3 => 3 | 4 => 4 | 0 => 0 | 20 => 20 | 72 => 99 | 76 => 103 | 70 => 97 | 37 => 28 | 75 => 102 | 127 => 133 | 164 => 140 | 5 => 5 | 80 => 105 | n => n, fun | n => n⟩
theorem Tryd.lays156 : Go.Proofs.Lays.n156 Tryd.prog Tryd.lays156_ren := {
  mixed := by kernel_rfl
  f156 := Tryd.func33.trans (congrArg some (by kernel_rfl))
  f165 := Tryd.func61.trans (congrArg some (by kernel_rfl))
  f166 := Tryd.func62.trans (congrArg some (by kernel_rfl))
  f169 := Tryd.func63.trans (congrArg some (by kernel_rfl))
  f240 := Tryd.func77.trans (congrArg some (by kernel_rfl))
  f241 := Tryd.func78.trans (congrArg some (by kernel_rfl))
  f276 := Tryd.func84.trans (congrArg some (by kernel_rfl))
  f277 := Tryd.func85.trans (congrArg some (by kernel_rfl))
  t0 := Tryd.underlying0
  a0 := Tryd.isAgg0
  z0 := Tryd.sizeOf0
  v0 := Tryd.zeroValue0
  t3 := Tryd.underlying3
  a3 := Tryd.isAgg3
  z3 := Tryd.sizeOf3
  v3 := Tryd.zeroValue3
  t4 := Tryd.underlying4
  a4 := Tryd.isAgg4
  z4 := Tryd.sizeOf4
  v4 := Tryd.zeroValue4
  t9 := Tryd.underlying9
  a9 := Tryd.isAgg9
  z9 := Tryd.sizeOf9
  v9 := Tryd.zeroValue9
  t20 := Tryd.underlying20
  a20 := Tryd.isAgg20
  z20 := Tryd.sizeOf20
  v20 := Tryd.zeroValue20
  t31 := Tryd.underlying60
  a31 := Tryd.isAgg60
  z31 := Tryd.sizeOf60
  v31 := Tryd.zeroValue60
  t37 := Tryd.underlying28
  a37 := Tryd.isAgg28
  z37 := Tryd.sizeOf28
  v37 := Tryd.zeroValue28
  t70 := Tryd.underlying97
  a70 := Tryd.isAgg97
  z70 := Tryd.sizeOf97
  v70 := Tryd.zeroValue97
  t72 := Tryd.underlying99
  a72 := Tryd.isAgg99
  z72 := Tryd.sizeOf99
  v72 := Tryd.zeroValue99
  t75 := Tryd.underlying102
  a75 := Tryd.isAgg102
  z75 := Tryd.sizeOf102
  v75 := Tryd.zeroValue102
  t76 := Tryd.underlying103
  a76 := Tryd.isAgg103
  z76 := Tryd.sizeOf103
  v76 := Tryd.zeroValue103
  t127 := Tryd.underlying133
  a127 := Tryd.isAgg133
  z127 := Tryd.sizeOf133
  v127 := Tryd.zeroValue133
  t164 := Tryd.underlying140
  a164 := Tryd.isAgg140
  z164 := Tryd.sizeOf140
  v164 := Tryd.zeroValue140 }
theorem Tryd.Builder_Extra_156 : Builder.Extra Tryd.prog Tryd.lays156_ren := {
  sizeBuilder := by kernel_rfl
  liesBuilder := by kernel_rfl
  t5 := Tryd.underlying5
  a5 := Tryd.isAgg5
  z5 := Tryd.sizeOf5
  v5 := Tryd.zeroValue5
  infoByte := by kernel_rfl
  cellsByte := by kernel_rfl
  sizeByte := by kernel_rfl
  neB5 := by decide }
open Go.RowKit in
theorem Tryd.strings_Join_none (a : Option Addr) (c : Nat) (sep : ByteArray) (w : World) :
    Calls Tryd.prog 33 #[.slice a 0 c, .string sep] w fun e w' => e = .returned (.string ⟨#[]⟩) ∧ w' = w := Any.strings_Join_none Tryd.lays156 Tryd.Builder_Extra_156 a c sep w
open Go.RowKit in
theorem Tryd.strings_Join (bk o c : Nat) (xs : List ByteArray) (sep : ByteArray) (w : World) (hcells : ∀ (j : Nat) x, xs[j]? = some x → w.cell? ⟨bk, o + j, none⟩ = some (.string x)) (hbk : bk < w.heap.size) (hN : xs.length ≤ 140737488355328) (hcap : xs.length ≤ c) (hlen : (Lib.join (xs.map (·.data.toList)) sep.data.toList).length ≤ 140737488355328) :
    Calls Tryd.prog 33 #[.slice (some ⟨bk, o, none⟩) xs.length c, .string sep] w fun e w' => e = .returned (.string ⟨(Lib.join (xs.map (·.data.toList)) sep.data.toList).toArray⟩) ∧ Below w.heap.size w w' := Any.strings_Join Tryd.lays156 Tryd.Builder_Extra_156 bk o c xs sep w hcells hbk hN hcap hlen
def Tryd.laysM171_ren : Go.Shelf.Ren := ⟨fun | 171 => 46 | 243 => 70 | 246 => 81 | 283 => 87 | 284 => 88 | 285 => 89 | 286 => 90 | 129 => 93 | 317 => 92 | 318 => 94 | 319 => 95 | 320 => 96 | 337 => 98 | 338 => 99 | n => n, fun | 3 => 3 | 9 => 9 | 2 => 2 | 4 => 4 | 171 => 143 | 0 => 0 | 53 => 144 | 37 => 28 | 5 => 5 | 173 => 147 | 212 => 153 | 51 => 154 | 20 => 20 | 213 => 155 | 46 => 156 | 232 => 159 | 233 => 160 | n => n, fun | 17 => 1 | 18 => 2 | 19 => 3 | n => n⟩
theorem Tryd.laysM171 : Go.Proofs.LaysM.n171 Tryd.prog Tryd.laysM171_ren := {
  mixed := by kernel_rfl
  f129 := Tryd.func93.trans (congrArg some (by kernel_rfl))
  f171 := Tryd.func46.trans (congrArg some (by kernel_rfl))
  f243 := Tryd.func70.trans (congrArg some (by kernel_rfl))
  f246 := Tryd.func81.trans (congrArg some (by kernel_rfl))
  f283 := Tryd.func87.trans (congrArg some (by kernel_rfl))
  f284 := Tryd.func88.trans (congrArg some (by kernel_rfl))
  f285 := Tryd.func89.trans (congrArg some (by kernel_rfl))
  f286 := Tryd.func90.trans (congrArg some (by kernel_rfl))
  f317 := Tryd.func92.trans (congrArg some (by kernel_rfl))
  f318 := Tryd.func94.trans (congrArg some (by kernel_rfl))
  f319 := Tryd.func95.trans (congrArg some (by kernel_rfl))
  f320 := Tryd.func96.trans (congrArg some (by kernel_rfl))
  f337 := Tryd.func98.trans (congrArg some (by kernel_rfl))
  f338 := Tryd.func99.trans (congrArg some (by kernel_rfl))
  t0 := Tryd.underlying0
  a0 := Tryd.isAgg0
  z0 := Tryd.sizeOf0
  v0 := Tryd.zeroValue0
  t2 := Tryd.underlying2
  a2 := Tryd.isAgg2
  z2 := Tryd.sizeOf2
  v2 := Tryd.zeroValue2
  t3 := Tryd.underlying3
  a3 := Tryd.isAgg3
  z3 := Tryd.sizeOf3
  v3 := Tryd.zeroValue3
  t4 := Tryd.underlying4
  a4 := Tryd.isAgg4
  z4 := Tryd.sizeOf4
  v4 := Tryd.zeroValue4
  t5 := Tryd.underlying5
  a5 := Tryd.isAgg5
  z5 := Tryd.sizeOf5
  v5 := Tryd.zeroValue5
  t9 := Tryd.underlying9
  a9 := Tryd.isAgg9
  z9 := Tryd.sizeOf9
  v9 := Tryd.zeroValue9
  t20 := Tryd.underlying20
  a20 := Tryd.isAgg20
  z20 := Tryd.sizeOf20
  v20 := Tryd.zeroValue20
  t37 := Tryd.underlying28
  a37 := Tryd.isAgg28
  z37 := Tryd.sizeOf28
  v37 := Tryd.zeroValue28
  t46 := Tryd.underlying156
  a46 := Tryd.isAgg156
  z46 := Tryd.sizeOf156
  v46 := Tryd.zeroValue156
  t51 := Tryd.underlying154
  a51 := Tryd.isAgg154
  z51 := Tryd.sizeOf154
  v51 := Tryd.zeroValue154
  t53 := Tryd.underlying144
  a53 := Tryd.isAgg144
  z53 := Tryd.sizeOf144
  v53 := Tryd.zeroValue144
  t171 := Tryd.underlying143
  a171 := Tryd.isAgg143
  z171 := Tryd.sizeOf143
  v171 := Tryd.zeroValue143
  t173 := Tryd.underlying147
  a173 := Tryd.isAgg147
  z173 := Tryd.sizeOf147
  v173 := Tryd.zeroValue147
  t212 := Tryd.underlying153
  a212 := Tryd.isAgg153
  z212 := Tryd.sizeOf153
  v212 := Tryd.zeroValue153
  t213 := Tryd.underlying155
  a213 := Tryd.isAgg155
  z213 := Tryd.sizeOf155
  t232 := Tryd.underlying159
  a232 := Tryd.isAgg159
  z232 := Tryd.sizeOf159
  v232 := Tryd.zeroValue159
  t233 := Tryd.underlying160
  a233 := Tryd.isAgg160
  z233 := Tryd.sizeOf160
  v233 := Tryd.zeroValue160
  g17 := by kernel_rfl
  g18 := by kernel_rfl
  g19 := by kernel_rfl
  i0 := by kernel_rfl
  i2 := by kernel_rfl
  i3 := by kernel_rfl
  i4 := by kernel_rfl
  i5 := by kernel_rfl
  i9 := by kernel_rfl
  i20 := by kernel_rfl
  i37 := by kernel_rfl
  i46 := by kernel_rfl
  i51 := by kernel_rfl
  i53 := by kernel_rfl
  i171 := by kernel_rfl
  i173 := by kernel_rfl
  i212 := by kernel_rfl
  i232 := by kernel_rfl
  i233 := by kernel_rfl
  m17 := by kernel_rfl
  m18 := by kernel_rfl
  m19 := by kernel_rfl }
open Go.RowKit Go.Sort Go.Lib in
theorem Tryd.strconv_Itoa (n : Int) (h0 : -9223372036854775808 ≤ n) (h1 : n ≤ 9223372036854775807) (w : World) (htab : Lib.TabIs Tryd.prog w "internal/strconv.uint64pow10" .u64 Lib.pow10Tab) :
    Calls Tryd.prog 46 #[.int .i64 n] w fun e w' => e = .returned (.string ⟨(Lib.itoa n).toArray⟩) ∧ ∃ k os, w' = grow (w.drewN k) os := Any.strconv_Itoa Tryd.laysM171 n h0 h1 w htab
end Go.Proofs

/- What the program's text of an event is made of: numbers, the sender, a string that turns into bytes. -/
namespace Go.Proofs.YtbcdfacbhemijaaDoor
open Go.RowKit
/- The table of powers lies where it lay. -/
theorem tab_kept {w w' : World} (h : Lib.TabIs Tryd.prog w "internal/strconv.uint64pow10" .u64 Lib.pow10Tab) (hb : Below w.heap.size w w') : Lib.TabIs Tryd.prog w' "internal/strconv.uint64pow10" .u64 Lib.pow10Tab := by
  have h9 : (w.var? Tryd.prog "internal/strconv.uint64pow10") = some _ := h
  show (w'.var? Tryd.prog "internal/strconv.uint64pow10") = some _
  unfold World.var? at h9 ⊢
  cases hx : Tryd.prog.globalNamed "internal/strconv.uint64pow10" with
  | none => rw [hx] at h9; cases h9
  | some x =>
    rw [hx] at h9
    simp only [Option.bind_some] at h9 ⊢
    by_cases hlt : x < w.heap.size
    · rw [hb.block x hlt]; exact h9
    · rw [Array.getElem?_eq_none (by omega)] at h9; cases h9
theorem itoa_any (z : Int) (h0 : 0 ≤ z) (h1 : z ≤ 1000000) (w : World) (htab : Lib.TabIs Tryd.prog w "internal/strconv.uint64pow10" .u64 Lib.pow10Tab) :
    Calls Tryd.prog 46 #[.int .i64 z] w fun e w' => ∃ b : ByteArray, e = .returned (.string b) ∧ b.data.toList = dec z ∧ Below w.heap.size w w' := by
  refine (Tryd.strconv_Itoa z (by omega) (by omega) w htab).mono ?_
  rintro e w' ⟨rfl, n, os, rfl⟩
  refine ⟨_, rfl, ?_, Lib.below_grow _ w (Nat.le_refl _) n os⟩
  show (Lib.itoa z).toArray.toList = Lib.decDigits z.toNat
  have e1 := Lib.itoa_nonneg z.toNat
  rw [show ((z.toNat : Nat) : Int) = z from by omega] at e1
  rw [e1]
def sender (s : Int) : List UInt8 := if s < 0 then [111, 117, 116, 115, 105, 100, 101] else [102, 114, 111, 109, 32] ++ dec s
theorem fromText_sender (s : Int) : fromText s = [32] ++ sender s := by
  unfold fromText sender
  by_cases h : s < 0
  · rw [if_pos h, if_pos h]; rfl
  · rw [if_neg h, if_neg h]; rfl
theorem bytes_append (a b : ByteArray) : (a ++ b).data.toList = a.data.toList ++ b.data.toList := by simp
set_option maxHeartbeats 1000000 in
theorem sender_any (s : Int) (h0 : -1 ≤ s) (h1 : s ≤ 1000000) (w : World) (htab : Lib.TabIs Tryd.prog w "internal/strconv.uint64pow10" .u64 Lib.pow10Tab) :
    Calls Tryd.prog 60 #[.int .i64 s] w fun e w' => ∃ b : ByteArray, e = .returned (.string b) ∧ b.data.toList = sender s ∧ Below w.heap.size w w' := by
  by_cases hs : s = -1
  · subst hs
    go_enter Tryd.func60, Tryd.ntmps60
    go_wp2
    go_ret
    exact ⟨_, rfl, rfl, Below.refl _ _⟩
  · have hs0 : 0 ≤ s := by omega
    have HC : Hid (Calls Tryd.prog 46 #[.int .i64 s] w fun e w' => ∃ b : ByteArray, e = .returned (.string b) ∧ b.data.toList = dec s ∧ Below w.heap.size w w') := itoa_any s hs0 h1 w htab
    clear htab
    go_enter Tryd.func60, Tryd.ntmps60
    go_wp2_with fail
    refine HC.out.mono ?_
    rintro r w1 ⟨b, rfl, hb, hbl⟩
    have hn : ¬ 9223372036854775807 < 5 + b.size := by
      have h9 := dec_len s h1
      have e9 : b.size = (dec s).length := by rw [← hb]; rfl
      omega
    go_wp2
    go_ret
    refine ⟨_, rfl, ?_, hbl⟩
    rw [bytes_append, hb, sender, if_neg (by omega)]
theorem evText_join (t s q d k v : Int) : Lib.join [[97, 116], dec t, sender s ++ [35] ++ dec q, [116, 111], dec d, [107, 105, 110, 100], dec k, [118, 97, 108], dec v] [32] = evText t s q d k v := by
  unfold evText
  rw [fromText_sender]
  simp [Lib.join, List.intercalate, List.intersperse]
theorem evText_len (t s q d k v : Int) (ht : t ≤ 1000000) (hs : s ≤ 1000000) (hq : q ≤ 1000000) (hd : d ≤ 1000000) (hk : k ≤ 1000000) (hv : v ≤ 1000000) : (evText t s q d k v).length ≤ 10000000 := by
  have a1 := dec_len t ht
  have a2 := dec_len s hs
  have a3 := dec_len q hq
  have a4 := dec_len d hd
  have a5 := dec_len k hk
  have a6 := dec_len v hv
  have a7 : (fromText s).length ≤ 1000010 := by
    unfold fromText
    split
    · simp
    · simp; omega
  unfold evText
  simp only [List.length_append, List.length_cons, List.length_nil]
  omega
theorem conv_below (w : World) (s : ByteArray) : Below w.heap.size w (Lib.bytesWorld w 5 s) :=
  ⟨by unfold Lib.bytesWorld World.freeze; split <;> rfl, by unfold Lib.bytesWorld World.freeze; split <;> rfl, by unfold Lib.bytesWorld World.freeze; split <;> rfl, by rw [Lib.bytesWorld_size]; omega, fun j hj => Lib.bytesWorld_at_old w 5 s j hj⟩
theorem conv_own (w : World) (s : ByteArray) (l : List UInt8) (hs : s.data.toList = l) (hl : l.length ≤ 10000000) : OwnB w.heap.size (Lib.bytesWorld w 5 s) (.slice (some ⟨w.heap.size, 0, none⟩) s.size (grownCap w s.size 0 5)) l := by
  have hsz : s.size = l.length := by rw [← hs]; rfl
  have hge := grownCap_ge w s.size 0 5
  refine ⟨_, _, by rw [hsz], by rw [← hsz]; exact hge, grownCap_le_maxLen w _ 0 5 (by unfold maxLen; omega), .inr ⟨w.heap.size, rfl, Nat.le_refl _, fun j hj => ?_, ?_, fun i hi => ?_⟩⟩
  · simp only [World.frozen?, Lib.bytesWorld_at_new]
    have h9 : (Lib.bytesCells w 5 s).size = grownCap w s.size 0 5 := by
      unfold Lib.bytesCells
      simp
      have : s.data.size = s.size := rfl
      omega
    rw [h9]
    simp
    omega
  · rw [Lib.bytesWorld_size]; omega
  · rw [Nat.zero_add, Lib.bytesWorld_cell w 5 s i (by omega), hs]
    rfl
theorem conv9 (w : World) (s : ByteArray) : (convert 9 28 (.string s)).run Tryd.prog w = .ok (.slice (some ⟨w.heap.size, 0, none⟩) s.size (grownCap w s.size 0 5)) (Lib.bytesWorld w 5 s) :=
  Lib.run_convert_string_bytes w 9 28 5 s Tryd.underlying9 Tryd.underlying28 Tryd.underlying5
theorem cells9 (w : World) (a b c d e f g h i : ByteArray) : ∀ (j : Nat) x, [a, b, c, d, e, f, g, h, i][j]? = some x → (w.alloc (.cells #[.string a, .string b, .string c, .string d, .string e, .string f, .string g, .string h, .string i] 9)).cell? ⟨w.heap.size, 0 + j, none⟩ = some (.string x) := by
  intro j x hx
  have h0 := (MapKept.heap_alloc w (.cells #[.string a, .string b, .string c, .string d, .string e, .string f, .string g, .string h, .string i] 9)).1
  rw [Nat.zero_add]
  simp only [World.cell?, h0]
  have e1 : (#[Value.string a, .string b, .string c, .string d, .string e, .string f, .string g, .string h, .string i] : Array Value)[j]? = ([a, b, c, d, e, f, g, h, i][j]?).map Value.string := by
    rw [← List.getElem?_map]
    simp
  rw [e1, hx]
  rfl
theorem join_text (t s q d k v : Int) (w : World) (b1 b2 b3 b4 b5 b6 : ByteArray) (h1 : b1.data.toList = dec t) (h2 : b2.data.toList = sender s) (h3 : b3.data.toList = dec q) (h4 : b4.data.toList = dec d) (h5 : b5.data.toList = dec k) (h6 : b6.data.toList = dec v)
    (hl : (evText t s q d k v).length ≤ 10000000) :
    Calls Tryd.prog 33 #[.slice (some ⟨w.heap.size, 0, none⟩) 9 9, .string ⟨#[32]⟩] (w.alloc (.cells #[.string ⟨#[97, 116]⟩, .string b1, .string (b2 ++ ⟨#[35]⟩ ++ b3), .string ⟨#[116, 111]⟩, .string b4, .string ⟨#[107, 105, 110, 100]⟩, .string b5, .string ⟨#[118, 97, 108]⟩, .string b6] 9)) fun e w' =>
      ∃ b : ByteArray, e = .returned (.string b) ∧ b.data.toList = evText t s q d k v ∧ Below w.heap.size w w' := by
  have e1 : Lib.join ([(⟨#[97, 116]⟩ : ByteArray), b1, b2 ++ ⟨#[35]⟩ ++ b3, ⟨#[116, 111]⟩, b4, ⟨#[107, 105, 110, 100]⟩, b5, ⟨#[118, 97, 108]⟩, b6].map (·.data.toList)) (⟨#[32]⟩ : ByteArray).data.toList = evText t s q d k v := by
    rw [← evText_join]
    simp only [List.map_cons, List.map_nil, bytes_append, h1, h2, h3, h4, h5, h6]
  refine (Tryd.strings_Join w.heap.size 0 9 [(⟨#[97, 116]⟩ : ByteArray), b1, b2 ++ ⟨#[35]⟩ ++ b3, ⟨#[116, 111]⟩, b4, ⟨#[107, 105, 110, 100]⟩, b5, ⟨#[118, 97, 108]⟩, b6] ⟨#[32]⟩ _ (cells9 w _ _ _ _ _ _ _ _ _) (by simp) (by simp) (by simp) (by rw [e1]; omega)).mono ?_
  rintro e w' ⟨rfl, hb⟩
  exact ⟨_, rfl, e1, ((Below.refl _ w).alloc (Nat.le_refl _) _).trans (hb.mono (by simp))⟩
end Go.Proofs.YtbcdfacbhemijaaDoor

