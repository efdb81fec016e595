/- DTextJ, DTextI -/
import Derived.Test.YteecpandpkicmaaDoorOrdersCardG18
import Derived.Lib.AppendIntMem
import Derived.Lib.ConvBytes
/- What the program's text of an event is made of: numbers, the sender, a string that turns into bytes. -/
namespace Go.Proofs.YteecpandpkicmaaDoor
open Go.RowKit
/- The table of powers lies where it lay. -/
theorem tab_kept {w w' : World} (h : Lib.TabIs Tryd.prog w "internal/strconv.uint64pow10" .u64 Lib.pow10Tab) (hb : Below w.heap.size w w') : Lib.TabIs Tryd.prog w' "internal/strconv.uint64pow10" .u64 Lib.pow10Tab := by
  have h9 : (w.var? Tryd.prog "internal/strconv.uint64pow10") = some _ := h
  show (w'.var? Tryd.prog "internal/strconv.uint64pow10") = some _
  unfold World.var? at h9 ⊢
  cases hx : Tryd.prog.globalNamed "internal/strconv.uint64pow10" with
  | none => rw [hx] at h9; cases h9
  | some x =>
    rw [hx] at h9
    simp only [Option.bind_some] at h9 ⊢
    by_cases hlt : x < w.heap.size
    · rw [hb.block x hlt]; exact h9
    · rw [Array.getElem?_eq_none (by omega)] at h9; cases h9
theorem itoa_any (z : Int) (h0 : 0 ≤ z) (h1 : z ≤ 1000000) (w : World) (htab : Lib.TabIs Tryd.prog w "internal/strconv.uint64pow10" .u64 Lib.pow10Tab) :
    Calls Tryd.prog 22 #[.int .i64 z] w fun e w' => ∃ b : ByteArray, e = .returned (.string b) ∧ b.data.toList = dec z ∧ Below w.heap.size w w' := by
  refine (Tryd.strconv_Itoa z (by omega) (by omega) w htab).mono ?_
  rintro e w' ⟨rfl, n, os, rfl⟩
  refine ⟨_, rfl, ?_, Lib.below_grow _ w (Nat.le_refl _) n os⟩
  show (Lib.itoa z).toArray.toList = Lib.decDigits z.toNat
  have e1 := Lib.itoa_nonneg z.toNat
  rw [show ((z.toNat : Nat) : Int) = z from by omega] at e1
  rw [e1]
def sender (s : Int) : List UInt8 := if s < 0 then [111, 117, 116, 115, 105, 100, 101] else [102, 114, 111, 109, 32] ++ dec s
theorem fromText_sender (s : Int) : fromText s = [32] ++ sender s := by
  unfold fromText sender
  by_cases h : s < 0
  · rw [if_pos h, if_pos h]; rfl
  · rw [if_neg h, if_neg h]; rfl
theorem bytes_append (a b : ByteArray) : (a ++ b).data.toList = a.data.toList ++ b.data.toList := by simp
set_option maxHeartbeats 1000000 in
theorem sender_any (s : Int) (h0 : -1 ≤ s) (h1 : s ≤ 1000000) (w : World) (htab : Lib.TabIs Tryd.prog w "internal/strconv.uint64pow10" .u64 Lib.pow10Tab) :
    Calls Tryd.prog 23 #[.int .i64 s] w fun e w' => ∃ b : ByteArray, e = .returned (.string b) ∧ b.data.toList = sender s ∧ Below w.heap.size w w' := by
  by_cases hs : s = -1
  · subst hs
    go_enter Tryd.func23, Tryd.ntmps23
    go_wp2
    go_ret
    exact ⟨_, rfl, rfl, Below.refl _ _⟩
  · have hs0 : 0 ≤ s := by omega
    have HC : Hid (Calls Tryd.prog 22 #[.int .i64 s] w fun e w' => ∃ b : ByteArray, e = .returned (.string b) ∧ b.data.toList = dec s ∧ Below w.heap.size w w') := itoa_any s hs0 h1 w htab
    clear htab
    go_enter Tryd.func23, Tryd.ntmps23
    go_wp2_with fail
    refine HC.out.mono ?_
    rintro r w1 ⟨b, rfl, hb, hbl⟩
    have hn : ¬ 9223372036854775807 < 5 + b.size := by
      have h9 := dec_len s h1
      have e9 : b.size = (dec s).length := by rw [← hb]; rfl
      omega
    go_wp2
    go_ret
    refine ⟨_, rfl, ?_, hbl⟩
    rw [bytes_append, hb, sender, if_neg (by omega)]
theorem evText_join (t s q d k v : Int) : Lib.join [[97, 116], dec t, sender s ++ [35] ++ dec q, [116, 111], dec d, [107, 105, 110, 100], dec k, [118, 97, 108], dec v] [32] = evText t s q d k v := by
  unfold evText
  rw [fromText_sender]
  simp [Lib.join, List.intercalate, List.intersperse]
theorem evText_len (t s q d k v : Int) (ht : t ≤ 1000000) (hs : s ≤ 1000000) (hq : q ≤ 1000000) (hd : d ≤ 1000000) (hk : k ≤ 1000000) (hv : v ≤ 1000000) : (evText t s q d k v).length ≤ 10000000 := by
  have a1 := dec_len t ht
  have a2 := dec_len s hs
  have a3 := dec_len q hq
  have a4 := dec_len d hd
  have a5 := dec_len k hk
  have a6 := dec_len v hv
  have a7 : (fromText s).length ≤ 1000010 := by
    unfold fromText
    split
    · simp
    · simp; omega
  unfold evText
  simp only [List.length_append, List.length_cons, List.length_nil]
  omega
theorem conv_below (w : World) (s : ByteArray) : Below w.heap.size w (Lib.bytesWorld w 5 s) :=
  ⟨by unfold Lib.bytesWorld World.freeze; split <;> rfl, by unfold Lib.bytesWorld World.freeze; split <;> rfl, by unfold Lib.bytesWorld World.freeze; split <;> rfl, by rw [Lib.bytesWorld_size]; omega, fun j hj => Lib.bytesWorld_at_old w 5 s j hj⟩
theorem conv_own (w : World) (s : ByteArray) (l : List UInt8) (hs : s.data.toList = l) (hl : l.length ≤ 10000000) : OwnB w.heap.size (Lib.bytesWorld w 5 s) (.slice (some ⟨w.heap.size, 0, none⟩) s.size (grownCap w s.size 0 5)) l := by
  have hsz : s.size = l.length := by rw [← hs]; rfl
  have hge := grownCap_ge w s.size 0 5
  refine ⟨_, _, by rw [hsz], by rw [← hsz]; exact hge, grownCap_le_maxLen w _ 0 5 (by unfold maxLen; omega), .inr ⟨w.heap.size, rfl, Nat.le_refl _, fun j hj => ?_, ?_, fun i hi => ?_⟩⟩
  · simp only [World.frozen?, Lib.bytesWorld_at_new]
    have h9 : (Lib.bytesCells w 5 s).size = grownCap w s.size 0 5 := by
      unfold Lib.bytesCells
      simp
      have : s.data.size = s.size := rfl
      omega
    rw [h9]
    simp
    omega
  · rw [Lib.bytesWorld_size]; omega
  · rw [Nat.zero_add, Lib.bytesWorld_cell w 5 s i (by omega), hs]
    rfl
theorem conv9 (w : World) (s : ByteArray) : (convert 9 22 (.string s)).run Tryd.prog w = .ok (.slice (some ⟨w.heap.size, 0, none⟩) s.size (grownCap w s.size 0 5)) (Lib.bytesWorld w 5 s) :=
  Lib.run_convert_string_bytes w 9 22 5 s Tryd.underlying9 Tryd.underlying22 Tryd.underlying5
theorem cells9 (w : World) (a b c d e f g h i : ByteArray) : ∀ (j : Nat) x, [a, b, c, d, e, f, g, h, i][j]? = some x → (w.alloc (.cells #[.string a, .string b, .string c, .string d, .string e, .string f, .string g, .string h, .string i] 9)).cell? ⟨w.heap.size, 0 + j, none⟩ = some (.string x) := by
  intro j x hx
  have h0 := (MapKept.heap_alloc w (.cells #[.string a, .string b, .string c, .string d, .string e, .string f, .string g, .string h, .string i] 9)).1
  rw [Nat.zero_add]
  simp only [World.cell?, h0]
  have e1 : (#[Value.string a, .string b, .string c, .string d, .string e, .string f, .string g, .string h, .string i] : Array Value)[j]? = ([a, b, c, d, e, f, g, h, i][j]?).map Value.string := by
    rw [← List.getElem?_map]
    simp
  rw [e1, hx]
  rfl
theorem join_text (t s q d k v : Int) (w : World) (b1 b2 b3 b4 b5 b6 : ByteArray) (h1 : b1.data.toList = dec t) (h2 : b2.data.toList = sender s) (h3 : b3.data.toList = dec q) (h4 : b4.data.toList = dec d) (h5 : b5.data.toList = dec k) (h6 : b6.data.toList = dec v)
    (hl : (evText t s q d k v).length ≤ 10000000) :
    Calls Tryd.prog 21 #[.slice (some ⟨w.heap.size, 0, none⟩) 9 9, .string ⟨#[32]⟩] (w.alloc (.cells #[.string ⟨#[97, 116]⟩, .string b1, .string (b2 ++ ⟨#[35]⟩ ++ b3), .string ⟨#[116, 111]⟩, .string b4, .string ⟨#[107, 105, 110, 100]⟩, .string b5, .string ⟨#[118, 97, 108]⟩, .string b6] 9)) fun e w' =>
      ∃ b : ByteArray, e = .returned (.string b) ∧ b.data.toList = evText t s q d k v ∧ Below w.heap.size w w' := by
  have e1 : Lib.join ([(⟨#[97, 116]⟩ : ByteArray), b1, b2 ++ ⟨#[35]⟩ ++ b3, ⟨#[116, 111]⟩, b4, ⟨#[107, 105, 110, 100]⟩, b5, ⟨#[118, 97, 108]⟩, b6].map (·.data.toList)) (⟨#[32]⟩ : ByteArray).data.toList = evText t s q d k v := by
    rw [← evText_join]
    simp only [List.map_cons, List.map_nil, bytes_append, h1, h2, h3, h4, h5, h6]
  refine (Tryd.strings_Join w.heap.size 0 9 [(⟨#[97, 116]⟩ : ByteArray), b1, b2 ++ ⟨#[35]⟩ ++ b3, ⟨#[116, 111]⟩, b4, ⟨#[107, 105, 110, 100]⟩, b5, ⟨#[118, 97, 108]⟩, b6] ⟨#[32]⟩ _ (cells9 w _ _ _ _ _ _ _ _ _) (by simp) (by simp) (by simp) (by rw [e1]; omega)).mono ?_
  rintro e w' ⟨rfl, hb⟩
  exact ⟨_, rfl, e1, ((Below.refl _ w).alloc (Nat.le_refl _) _).trans (hb.mono (by simp))⟩
end Go.Proofs.YteecpandpkicmaaDoor

/- The program's text of an event: the walk. -/
namespace Go.Proofs.YteecpandpkicmaaDoor
open Go.RowKit
theorem sender_len (s : Int) (h : s ≤ 1000000) : (sender s).length ≤ 1000010 := by
  have := dec_len s h
  unfold sender
  split
  · simp
  · simp; omega
theorem over1 {b : ByteArray} {s : Int} (h : b.data.toList = sender s) (hs : s ≤ 1000000) : ¬ 9223372036854775807 < b.size + 1 := by
  have h8 := sender_len s hs
  have e8 : b.size = (sender s).length := by rw [← h]; rfl
  omega
theorem over2 {b c : ByteArray} {s q : Int} (h : b.data.toList = sender s) (hs : s ≤ 1000000) (h' : c.data.toList = dec q) (hq : q ≤ 1000000) : ¬ 9223372036854775807 < b.size + 1 + c.size := by
  have h8 := sender_len s hs
  have e8 : b.size = (sender s).length := by rw [← h]; rfl
  have h9 := dec_len q hq
  have e9 : c.size = (dec q).length := by rw [← h']; rfl
  omega
set_option maxRecDepth 100000 in
set_option maxHeartbeats 8000000 in
theorem iText_ok (t s q d k v g : Int) (w : World) (hok : okB t s q d k v g = true) (htab : Lib.TabIs Tryd.prog w "internal/strconv.uint64pow10" .u64 Lib.pow10Tab) :
    Calls Tryd.prog 10 #[.agg #[.int .i64 t, .int .i64 s, .int .i64 q, .int .i64 d, .int .i64 k, .int .i64 v, .int .i64 g]] w fun e w' => ∃ x, e = .returned x ∧ OwnB w.heap.size w' x (evText t s q d k v) ∧ Below w.heap.size w w' := by
  have hr := of_decide_eq_true hok
  obtain ⟨ht0, ht1', hs0, hs1', hq0, hq1', hd0, hd1', hk0, hk1', hv0, hv1', _, _⟩ := hr
  have ht1 : t ≤ 1000000 := by omega
  have hs1 : s ≤ 1000000 := by omega
  have hq1 : q ≤ 1000000 := by omega
  have hd1 : d ≤ 1000000 := by omega
  have hk1 : k ≤ 1000000 := by omega
  have hv1 : v ≤ 1000000 := by omega
  have hlen := evText_len t s q d k v ht1 hs1 hq1 hd1 hk1 hv1
  have HBw : Hid (Below w.heap.size w (w.alloc (.cells #[.int .i64 t, .int .i64 s, .int .i64 q, .int .i64 d, .int .i64 k, .int .i64 v, .int .i64 g] 24))) := (Below.refl _ w).alloc (Nat.le_refl _) _
  have HE : Hid (EvAt (w.alloc (.cells #[.int .i64 t, .int .i64 s, .int .i64 q, .int .i64 d, .int .i64 k, .int .i64 v, .int .i64 g] 24)) w.heap.size 0 t s q d k v g) := EvAt.new w 24 t s q d k v g
  have hbx : w.heap.size < (w.alloc (.cells #[.int .i64 t, .int .i64 s, .int .i64 q, .int .i64 d, .int .i64 k, .int .i64 v, .int .i64 g] 24)).heap.size := by simp
  have HT0 : Hid (Lib.TabIs Tryd.prog (w.alloc (.cells #[.int .i64 t, .int .i64 s, .int .i64 q, .int .i64 d, .int .i64 k, .int .i64 v, .int .i64 g] 24)) "internal/strconv.uint64pow10" .u64 Lib.pow10Tab) := tab_kept htab HBw.out
  clear htab ht1' hs1' hq1' hd1' hk1' hv1'
  go_enter Tryd.func10, Tryd.ntmps10
  go_upto_region 1 with fail
  generalize w.alloc (.cells #[.int .i64 t, .int .i64 s, .int .i64 q, .int .i64 d, .int .i64 k, .int .i64 v, .int .i64 g] 24) = W0 at *
  generalize hbxe : w.heap.size = bx at *
  obtain ⟨f0, f1, f2, f3, f4, f5, f6⟩ := HE.out.lits
  go_wp2_with fail
  refine (iOk_any t s q d k v g _).mono ?_
  rintro r wk ⟨rfl, hbk⟩
  rw [hok]
  have HBk : Hid (Below W0.heap.size W0 wk) := hbk
  have HT : Hid (Lib.TabIs Tryd.prog wk.drew "internal/strconv.uint64pow10" .u64 Lib.pow10Tab) := tab_kept HT0.out hbk.drew
  clear hbk f0 f1 f2 f3 f4 f5 f6 hok
  have kc := conv9
  go_wp2_with fail
  refine wp_region_noPanic ?_
  refine wp_region_held_drew (S := (fun W => W.cell? ⟨bx, 0, none⟩ = some (.int .i64 t) ∧ W.cell? ⟨bx, 1, none⟩ = some (.int .i64 s) ∧ W.cell? ⟨bx, 2, none⟩ = some (.int .i64 q) ∧ W.cell? ⟨bx, 3, none⟩ = some (.int .i64 d) ∧ W.cell? ⟨bx, 4, none⟩ = some (.int .i64 k) ∧ W.cell? ⟨bx, 5, none⟩ = some (.int .i64 v) ∧ W.cell? ⟨bx, 6, none⟩ = some (.int .i64 g))) (by kernel_rfl) (HE.out.below HBk.out.drew hbx).lits (fun hHeld => ?_)
  refine wpAnyH_take (i := 0) (oi := { dst := some 6, op := .fieldAddr 24 (.tmp 1) 0, type := 0, pos := _, after := _, guard := none }) (v := .pointer (some ⟨bx, 0, none⟩)) rfl (by kernel_rfl) (by kernel_rfl) (by kernel_rfl) (fun _ _ _ h => h) (Or.inl ⟨by rfl, ?_⟩) (by assumption) ?_
  · intro wX hSw
    try dsimp only at hSw
    go_simp
  try simp only [Act.put, List.setIfInBounds_toArray, List.set_cons_zero, List.set_cons_succ]
  refine wpAnyH_take (i := 1) (oi := { dst := some 7, op := .load 3 (.tmp 6), type := 3, pos := _, after := _, guard := none }) (v := .int .i64 t) rfl (by kernel_rfl) (by kernel_rfl) (by kernel_rfl) (fun _ _ _ h => h) (Or.inl ⟨by rfl, ?_⟩) (by assumption) ?_
  · intro wX hSw
    try dsimp only at hSw
    go_simp
  try simp only [Act.put, List.setIfInBounds_toArray, List.set_cons_zero, List.set_cons_succ]
  refine wpAnyH_take (i := 3) (oi := { dst := some 9, op := .fieldAddr 24 (.tmp 1) 1, type := 0, pos := _, after := _, guard := none }) (v := .pointer (some ⟨bx, 1, none⟩)) rfl (by kernel_rfl) (by kernel_rfl) (by kernel_rfl) (fun _ _ _ h => h) (Or.inl ⟨by rfl, ?_⟩) (by assumption) ?_
  · intro wX hSw
    try dsimp only at hSw
    go_simp
  try simp only [Act.put, List.setIfInBounds_toArray, List.set_cons_zero, List.set_cons_succ]
  refine wpAnyH_take (i := 4) (oi := { dst := some 10, op := .load 3 (.tmp 9), type := 3, pos := _, after := _, guard := none }) (v := .int .i64 s) rfl (by kernel_rfl) (by kernel_rfl) (by kernel_rfl) (fun _ _ _ h => h) (Or.inl ⟨by rfl, ?_⟩) (by assumption) ?_
  · intro wX hSw
    try dsimp only at hSw
    go_simp
  try simp only [Act.put, List.setIfInBounds_toArray, List.set_cons_zero, List.set_cons_succ]
  refine wpAnyH_take (i := 7) (oi := { dst := some 13, op := .fieldAddr 24 (.tmp 1) 2, type := 0, pos := _, after := _, guard := none }) (v := .pointer (some ⟨bx, 2, none⟩)) rfl (by kernel_rfl) (by kernel_rfl) (by kernel_rfl) (fun _ _ _ h => h) (Or.inl ⟨by rfl, ?_⟩) (by assumption) ?_
  · intro wX hSw
    try dsimp only at hSw
    go_simp
  try simp only [Act.put, List.setIfInBounds_toArray, List.set_cons_zero, List.set_cons_succ]
  refine wpAnyH_take (i := 8) (oi := { dst := some 14, op := .load 3 (.tmp 13), type := 3, pos := _, after := _, guard := none }) (v := .int .i64 q) rfl (by kernel_rfl) (by kernel_rfl) (by kernel_rfl) (fun _ _ _ h => h) (Or.inl ⟨by rfl, ?_⟩) (by assumption) ?_
  · intro wX hSw
    try dsimp only at hSw
    go_simp
  try simp only [Act.put, List.setIfInBounds_toArray, List.set_cons_zero, List.set_cons_succ]
  refine wpAnyH_take (i := 11) (oi := { dst := some 17, op := .fieldAddr 24 (.tmp 1) 3, type := 0, pos := _, after := _, guard := none }) (v := .pointer (some ⟨bx, 3, none⟩)) rfl (by kernel_rfl) (by kernel_rfl) (by kernel_rfl) (fun _ _ _ h => h) (Or.inl ⟨by rfl, ?_⟩) (by assumption) ?_
  · intro wX hSw
    try dsimp only at hSw
    go_simp
  try simp only [Act.put, List.setIfInBounds_toArray, List.set_cons_zero, List.set_cons_succ]
  refine wpAnyH_take (i := 12) (oi := { dst := some 18, op := .load 3 (.tmp 17), type := 3, pos := _, after := _, guard := none }) (v := .int .i64 d) rfl (by kernel_rfl) (by kernel_rfl) (by kernel_rfl) (fun _ _ _ h => h) (Or.inl ⟨by rfl, ?_⟩) (by assumption) ?_
  · intro wX hSw
    try dsimp only at hSw
    go_simp
  try simp only [Act.put, List.setIfInBounds_toArray, List.set_cons_zero, List.set_cons_succ]
  refine wpAnyH_take (i := 14) (oi := { dst := some 20, op := .fieldAddr 24 (.tmp 1) 4, type := 0, pos := _, after := _, guard := none }) (v := .pointer (some ⟨bx, 4, none⟩)) rfl (by kernel_rfl) (by kernel_rfl) (by kernel_rfl) (fun _ _ _ h => h) (Or.inl ⟨by rfl, ?_⟩) (by assumption) ?_
  · intro wX hSw
    try dsimp only at hSw
    go_simp
  try simp only [Act.put, List.setIfInBounds_toArray, List.set_cons_zero, List.set_cons_succ]
  refine wpAnyH_take (i := 15) (oi := { dst := some 21, op := .load 3 (.tmp 20), type := 3, pos := _, after := _, guard := none }) (v := .int .i64 k) rfl (by kernel_rfl) (by kernel_rfl) (by kernel_rfl) (fun _ _ _ h => h) (Or.inl ⟨by rfl, ?_⟩) (by assumption) ?_
  · intro wX hSw
    try dsimp only at hSw
    go_simp
  try simp only [Act.put, List.setIfInBounds_toArray, List.set_cons_zero, List.set_cons_succ]
  refine wpAnyH_take (i := 17) (oi := { dst := some 23, op := .fieldAddr 24 (.tmp 1) 5, type := 0, pos := _, after := _, guard := none }) (v := .pointer (some ⟨bx, 5, none⟩)) rfl (by kernel_rfl) (by kernel_rfl) (by kernel_rfl) (fun _ _ _ h => h) (Or.inl ⟨by rfl, ?_⟩) (by assumption) ?_
  · intro wX hSw
    try dsimp only at hSw
    go_simp
  try simp only [Act.put, List.setIfInBounds_toArray, List.set_cons_zero, List.set_cons_succ]
  refine wpAnyH_take (i := 18) (oi := { dst := some 24, op := .load 3 (.tmp 23), type := 3, pos := _, after := _, guard := none }) (v := .int .i64 v) rfl (by kernel_rfl) (by kernel_rfl) (by kernel_rfl) (fun _ _ _ h => h) (Or.inl ⟨by rfl, ?_⟩) (by assumption) ?_
  · intro wX hSw
    try dsimp only at hSw
    go_simp
  try simp only [Act.put, List.setIfInBounds_toArray, List.set_cons_zero, List.set_cons_succ]
  refine wpAnyH_ready (rs := [2]) (by kernel_rfl) (by simp) ?_
  refine AllReadyH.cons (o := { dst := some 8, op := .call { callee := .value (.func 22), args := #[.tmp 7], argTypes := #[3] }, type := 9, pos := _, after := _, guard := none }) rfl (fun K hK => ?_) AllReadyH.nil
  go_simp
  refine (itoa_any t ht0 ht1 _ HT.out).mono ?_
  rintro r wA ⟨bA, rfl, hA, hblA⟩
  have hBA : Below W0.heap.size W0 wA := (HBk.out.drew).trans (hblA.mono (HBk.out.drew).size)
  have hTA : Lib.TabIs Tryd.prog wA "internal/strconv.uint64pow10" .u64 Lib.pow10Tab := tab_kept HT0.out hBA
  have hkA := (HE.out.below hBA hbx).lits
  try go_simp
  refine hK.out _ _ hkA (fun hHeld => ?_)
  clear hK K
  try simp only [Act.put, List.setIfInBounds_toArray, List.set_cons_zero, List.set_cons_succ]
  refine wpAnyH_ready (rs := [5]) (by kernel_rfl) (by simp) ?_
  refine AllReadyH.cons (o := { dst := some 11, op := .call { callee := .value (.func 23), args := #[.tmp 10], argTypes := #[3] }, type := 9, pos := _, after := _, guard := none }) rfl (fun K hK => ?_) AllReadyH.nil
  go_simp
  refine (sender_any s hs0 hs1 _ hTA).mono ?_
  rintro r wB ⟨bB, rfl, hB_, hblB⟩
  have hBB : Below W0.heap.size W0 wB := (hBA).trans (hblB.mono (hBA).size)
  have hTB : Lib.TabIs Tryd.prog wB "internal/strconv.uint64pow10" .u64 Lib.pow10Tab := tab_kept HT0.out hBB
  have hkB := (HE.out.below hBB hbx).lits
  have hn1 : ¬ 9223372036854775807 < bB.size + 1 := over1 hB_ hs1
  try go_simp
  refine hK.out _ _ hkB (fun hHeld => ?_)
  clear hK K
  try simp only [Act.put, List.setIfInBounds_toArray, List.set_cons_zero, List.set_cons_succ]
  refine wpAnyH_take (i := 6) (oi := { dst := some 12, op := .binOp .add 9 (.tmp 11) (.const (.string ⟨#[35]⟩)) 9, type := 9, pos := _, after := _, guard := none }) (v := .string (bB ++ ⟨#[35]⟩)) rfl (by kernel_rfl) (by kernel_rfl) (by kernel_rfl) (fun _ _ _ h => h) (Or.inl ⟨by rfl, ?_⟩) (by assumption) ?_
  · intro wX hSw
    try dsimp only at hSw
    go_simp
  try simp only [Act.put, List.setIfInBounds_toArray, List.set_cons_zero, List.set_cons_succ]
  refine wpAnyH_ready (rs := [9]) (by kernel_rfl) (by simp) ?_
  refine AllReadyH.cons (o := { dst := some 15, op := .call { callee := .value (.func 22), args := #[.tmp 14], argTypes := #[3] }, type := 9, pos := _, after := _, guard := none }) rfl (fun K hK => ?_) AllReadyH.nil
  go_simp
  refine (itoa_any q hq0 hq1 _ hTB).mono ?_
  rintro r wC ⟨bC, rfl, hC, hblC⟩
  have hBC : Below W0.heap.size W0 wC := (hBB).trans (hblC.mono (hBB).size)
  have hTC : Lib.TabIs Tryd.prog wC "internal/strconv.uint64pow10" .u64 Lib.pow10Tab := tab_kept HT0.out hBC
  have hkC := (HE.out.below hBC hbx).lits
  have hn2 : ¬ 9223372036854775807 < bB.size + 1 + bC.size := over2 hB_ hs1 hC hq1
  try go_simp
  refine hK.out _ _ hkC (fun hHeld => ?_)
  clear hK K
  try simp only [Act.put, List.setIfInBounds_toArray, List.set_cons_zero, List.set_cons_succ]
  refine wpAnyH_take (i := 10) (oi := { dst := some 16, op := .binOp .add 9 (.tmp 12) (.tmp 15) 9, type := 9, pos := _, after := _, guard := none }) (v := .string (bB ++ ⟨#[35]⟩ ++ bC)) rfl (by kernel_rfl) (by kernel_rfl) (by kernel_rfl) (fun _ _ _ h => h) (Or.inl ⟨by rfl, ?_⟩) (by assumption) ?_
  · intro wX hSw
    try dsimp only at hSw
    go_simp
  try simp only [Act.put, List.setIfInBounds_toArray, List.set_cons_zero, List.set_cons_succ]
  refine wpAnyH_ready (rs := [13]) (by kernel_rfl) (by simp) ?_
  refine AllReadyH.cons (o := { dst := some 19, op := .call { callee := .value (.func 22), args := #[.tmp 18], argTypes := #[3] }, type := 9, pos := _, after := _, guard := none }) rfl (fun K hK => ?_) AllReadyH.nil
  go_simp
  refine (itoa_any d hd0 hd1 _ hTC).mono ?_
  rintro r wD ⟨bD, rfl, hD, hblD⟩
  have hBD : Below W0.heap.size W0 wD := (hBC).trans (hblD.mono (hBC).size)
  have hTD : Lib.TabIs Tryd.prog wD "internal/strconv.uint64pow10" .u64 Lib.pow10Tab := tab_kept HT0.out hBD
  have hkD := (HE.out.below hBD hbx).lits
  try go_simp
  refine hK.out _ _ hkD (fun hHeld => ?_)
  clear hK K
  try simp only [Act.put, List.setIfInBounds_toArray, List.set_cons_zero, List.set_cons_succ]
  refine wpAnyH_ready (rs := [16]) (by kernel_rfl) (by simp) ?_
  refine AllReadyH.cons (o := { dst := some 22, op := .call { callee := .value (.func 22), args := #[.tmp 21], argTypes := #[3] }, type := 9, pos := _, after := _, guard := none }) rfl (fun K hK => ?_) AllReadyH.nil
  go_simp
  refine (itoa_any k hk0 hk1 _ hTD).mono ?_
  rintro r wE ⟨bE, rfl, hE_, hblE⟩
  have hBE : Below W0.heap.size W0 wE := (hBD).trans (hblE.mono (hBD).size)
  have hTE : Lib.TabIs Tryd.prog wE "internal/strconv.uint64pow10" .u64 Lib.pow10Tab := tab_kept HT0.out hBE
  have hkE := (HE.out.below hBE hbx).lits
  try go_simp
  refine hK.out _ _ hkE (fun hHeld => ?_)
  clear hK K
  try simp only [Act.put, List.setIfInBounds_toArray, List.set_cons_zero, List.set_cons_succ]
  refine wpAnyH_ready (rs := [19]) (by kernel_rfl) (by simp) ?_
  refine AllReadyH.cons (o := { dst := some 25, op := .call { callee := .value (.func 22), args := #[.tmp 24], argTypes := #[3] }, type := 9, pos := _, after := _, guard := none }) rfl (fun K hK => ?_) AllReadyH.nil
  go_simp
  refine (itoa_any v hv0 hv1 _ hTE).mono ?_
  rintro r wF ⟨bF, rfl, hF, hblF⟩
  have hBF : Below W0.heap.size W0 wF := (hBE).trans (hblF.mono (hBE).size)
  have hTF : Lib.TabIs Tryd.prog wF "internal/strconv.uint64pow10" .u64 Lib.pow10Tab := tab_kept HT0.out hBF
  have hkF := (HE.out.below hBF hbx).lits
  try go_simp
  refine hK.out _ _ hkF (fun hHeld => ?_)
  clear hK K
  try simp only [Act.put, List.setIfInBounds_toArray, List.set_cons_zero, List.set_cons_succ]
  refine wpAnyH_ready (rs := [20]) (by kernel_rfl) (by simp) ?_
  refine AllReadyH.cons (o := { dst := some 26, op := .buildSlice 49 9 #[(0, .const (.string ⟨#[97, 116]⟩)), (1, .tmp 8), (2, .tmp 16), (3, .const (.string ⟨#[116, 111]⟩)), (4, .tmp 19), (5, .const (.string ⟨#[107, 105, 110, 100]⟩)), (6, .tmp 22), (7, .const (.string ⟨#[118, 97, 108]⟩)), (8, .tmp 25)], type := 49, pos := _, after := _, guard := none }) rfl (fun K hK => ?_) AllReadyH.nil
  go_simp
  refine hK.out _ _ ((HE.out.below hBF hbx).alloc (Nat.lt_of_lt_of_le hbx hBF.size) _).lits (fun hHeld => ?_)
  clear hK K
  try simp only [Act.put, List.setIfInBounds_toArray, List.set_cons_zero, List.set_cons_succ]
  refine wpAnyH_ready (rs := [21]) (by kernel_rfl) (by simp) ?_
  refine AllReadyH.cons (o := { dst := some 27, op := .call { callee := .value (.func 21), args := #[.tmp 26, .const (.string ⟨#[32]⟩)], argTypes := #[49, 9] }, type := 9, pos := _, after := _, guard := none }) rfl (fun K hK => ?_) AllReadyH.nil
  go_simp
  refine (join_text t s q d k v _ bA bB bC bD bE bF hA hB_ hC hD hE_ hF hlen).mono ?_
  rintro r wJ ⟨bJ, rfl, hJ, hblJ⟩
  have hBJ : Below W0.heap.size W0 wJ := hBF.trans (hblJ.mono hBF.size)
  have hkJ := (HE.out.below hBJ hbx).lits
  have hkK := (HE.out.below (hBJ.trans ((conv_below wJ bJ).mono hBJ.size)) hbx).lits
  try go_simp
  refine hK.out _ _ hkJ (fun hHeld => ?_)
  clear hK K
  try simp only [Act.put, List.setIfInBounds_toArray, List.set_cons_zero, List.set_cons_succ]
  refine wpAnyH_ready (rs := [22]) (by kernel_rfl) (by simp) ?_
  refine AllReadyH.cons (o := { dst := some 28, op := .convert 9 22 (.tmp 27), type := 22, pos := _, after := _, guard := none }) rfl (fun K hK => ?_) AllReadyH.nil
  go_simp
  refine hK.out _ _ hkK (fun hHeld => ?_)
  clear hK K
  try simp only [Act.put, List.setIfInBounds_toArray, List.set_cons_zero, List.set_cons_succ]
  refine wpAnyH_take (i := 23) (oi := { dst := some 2, op := .assign (.tmp 28), type := 22, pos := _, after := _, guard := none }) (v := .slice (some ⟨wJ.heap.size, 0, none⟩) bJ.size (grownCap wJ bJ.size 0 5)) rfl (by kernel_rfl) (by kernel_rfl) (by kernel_rfl) (fun _ _ _ h => h) (Or.inl ⟨by rfl, ?_⟩) (by assumption) ?_
  · intro wX hSw
    try dsimp only at hSw
    go_simp
  try simp only [Act.put, List.setIfInBounds_toArray, List.set_cons_zero, List.set_cons_succ]
  refine wpAnyH_done (by kernel_rfl) ?_ _
  refine NoPanic.normal ?_
  go_wp2
  go_ret
  subst hbxe
  refine ⟨_, rfl, (conv_own wJ bJ _ hJ hlen).mono (by have := hBJ.size; omega), HBw.out.trans ((hBJ.trans ((conv_below wJ bJ).mono hBJ.size)).mono (by omega))⟩
set_option maxHeartbeats 2000000 in
theorem iText_no (t s q d k v g : Int) (w : World) (hok : okB t s q d k v g = false) :
    Calls Tryd.prog 10 #[.agg #[.int .i64 t, .int .i64 s, .int .i64 q, .int .i64 d, .int .i64 k, .int .i64 v, .int .i64 g]] w fun e w' => ∃ x, e = .returned x ∧ OwnB w.heap.size w' x [] ∧ Below w.heap.size w w' := by
  have HBw : Hid (Below w.heap.size w (w.alloc (.cells #[.int .i64 t, .int .i64 s, .int .i64 q, .int .i64 d, .int .i64 k, .int .i64 v, .int .i64 g] 24))) := (Below.refl _ w).alloc (Nat.le_refl _) _
  have HC : Hid (Calls Tryd.prog 9 #[.agg #[.int .i64 t, .int .i64 s, .int .i64 q, .int .i64 d, .int .i64 k, .int .i64 v, .int .i64 g]] (w.alloc (.cells #[.int .i64 t, .int .i64 s, .int .i64 q, .int .i64 d, .int .i64 k, .int .i64 v, .int .i64 g] 24)) fun e w' => e = .returned (.bool false) ∧ Below (w.alloc (.cells #[.int .i64 t, .int .i64 s, .int .i64 q, .int .i64 d, .int .i64 k, .int .i64 v, .int .i64 g] 24)).heap.size (w.alloc (.cells #[.int .i64 t, .int .i64 s, .int .i64 q, .int .i64 d, .int .i64 k, .int .i64 v, .int .i64 g] 24)) w') := by
    refine (iOk_any t s q d k v g _).mono ?_
    rintro e w' ⟨rfl, hb⟩
    rw [hok]
    exact ⟨rfl, hb⟩
  clear hok
  go_enter Tryd.func10, Tryd.ntmps10
  go_wp2_with fail
  refine HC.out.mono ?_
  rintro r wk ⟨rfl, hbk⟩
  go_wp2
  go_ret
  exact ⟨_, rfl, OwnB.nil _ _, HBw.out.trans (hbk.mono (by simp))⟩
/- What both texts of an event are. -/
def theText (t s q d k v g : Int) : List UInt8 := if okB t s q d k v g = true then evText t s q d k v else []
theorem theText_len (t s q d k v g : Int) : (theText t s q d k v g).length ≤ 10000000 := by
  unfold theText
  split
  · rename_i hok
    have hr := of_decide_eq_true hok
    exact evText_len t s q d k v (by omega) (by omega) (by omega) (by omega) (by omega) (by omega)
  · simp
theorem iText_any (t s q d k v g : Int) (w : World) (htab : Lib.TabIs Tryd.prog w "internal/strconv.uint64pow10" .u64 Lib.pow10Tab) :
    Calls Tryd.prog 10 #[.agg #[.int .i64 t, .int .i64 s, .int .i64 q, .int .i64 d, .int .i64 k, .int .i64 v, .int .i64 g]] w fun e w' => ∃ x, e = .returned x ∧ OwnB w.heap.size w' x (theText t s q d k v g) ∧ Below w.heap.size w w' := by
  unfold theText
  by_cases hok : okB t s q d k v g = true
  · rw [if_pos hok]; exact iText_ok t s q d k v g w hok htab
  · rw [if_neg hok]; exact iText_no t s q d k v g w (by simpa using hok)
end Go.Proofs.YteecpandpkicmaaDoor

