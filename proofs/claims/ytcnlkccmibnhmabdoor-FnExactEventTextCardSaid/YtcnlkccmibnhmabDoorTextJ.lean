/- What the program's text of an event is made of: numbers, the sender, a string that turns into bytes. -/
import Derived.Test.YtcnlkccmibnhmabDoorTextK
import Derived.Test.YtcnlkccmibnhmabDoorShelf
import Derived.Lib.AppendIntMem
import Derived.Lib.ConvBytes
namespace Go.Proofs.YtcnlkccmibnhmabDoor
open Go.RowKit
/- The table of powers lies where it lay. -/
theorem tab_kept {w w' : World} (h : Lib.TabIs Tryd.prog w "internal/strconv.uint64pow10" .u64 Lib.pow10Tab) (hb : Below w.heap.size w w') : Lib.TabIs Tryd.prog w' "internal/strconv.uint64pow10" .u64 Lib.pow10Tab := by
  have h9 : (w.var? Tryd.prog "internal/strconv.uint64pow10") = some _ := h
  show (w'.var? Tryd.prog "internal/strconv.uint64pow10") = some _
  unfold World.var? at h9 ⊢
  cases hx : Tryd.prog.globalNamed "internal/strconv.uint64pow10" with
  | none => rw [hx] at h9; cases h9
  | some x =>
    rw [hx] at h9
    simp only [Option.bind_some] at h9 ⊢
    by_cases hlt : x < w.heap.size
    · rw [hb.block x hlt]; exact h9
    · rw [Array.getElem?_eq_none (by omega)] at h9; cases h9
theorem itoa_any (z : Int) (h0 : 0 ≤ z) (h1 : z ≤ 1000000) (w : World) (htab : Lib.TabIs Tryd.prog w "internal/strconv.uint64pow10" .u64 Lib.pow10Tab) :
    Calls Tryd.prog 14 #[.int .i64 z] w fun e w' => ∃ b : ByteArray, e = .returned (.string b) ∧ b.data.toList = dec z ∧ Below w.heap.size w w' := by
  refine (Tryd.strconv_Itoa z (by omega) (by omega) w htab).mono ?_
  rintro e w' ⟨rfl, n, os, rfl⟩
  refine ⟨_, rfl, ?_, Lib.below_grow _ w (Nat.le_refl _) n os⟩
  show (Lib.itoa z).toArray.toList = Lib.decDigits z.toNat
  have e1 := Lib.itoa_nonneg z.toNat
  rw [show ((z.toNat : Nat) : Int) = z from by omega] at e1
  rw [e1]
def sender (s : Int) : List UInt8 := if s < 0 then [111, 117, 116, 115, 105, 100, 101] else [102, 114, 111, 109, 32] ++ dec s
theorem fromText_sender (s : Int) : fromText s = [32] ++ sender s := by
  unfold fromText sender
  by_cases h : s < 0
  · rw [if_pos h, if_pos h]; rfl
  · rw [if_neg h, if_neg h]; rfl
theorem bytes_append (a b : ByteArray) : (a ++ b).data.toList = a.data.toList ++ b.data.toList := by simp
set_option maxHeartbeats 1000000 in
theorem sender_any (s : Int) (h0 : -1 ≤ s) (h1 : s ≤ 1000000) (w : World) (htab : Lib.TabIs Tryd.prog w "internal/strconv.uint64pow10" .u64 Lib.pow10Tab) :
    Calls Tryd.prog 15 #[.int .i64 s] w fun e w' => ∃ b : ByteArray, e = .returned (.string b) ∧ b.data.toList = sender s ∧ Below w.heap.size w w' := by
  by_cases hs : s = -1
  · subst hs
    go_enter Tryd.func15, Tryd.ntmps15
    go_wp2
    go_ret
    exact ⟨_, rfl, rfl, Below.refl _ _⟩
  · have hs0 : 0 ≤ s := by omega
    have HC : Hid (Calls Tryd.prog 14 #[.int .i64 s] w fun e w' => ∃ b : ByteArray, e = .returned (.string b) ∧ b.data.toList = dec s ∧ Below w.heap.size w w') := itoa_any s hs0 h1 w htab
    clear htab
    go_enter Tryd.func15, Tryd.ntmps15
    go_wp2_with fail
    refine HC.out.mono ?_
    rintro r w1 ⟨b, rfl, hb, hbl⟩
    have hn : ¬ 9223372036854775807 < 5 + b.size := by
      have h9 := dec_len s h1
      have e9 : b.size = (dec s).length := by rw [← hb]; rfl
      omega
    go_wp2
    go_ret
    refine ⟨_, rfl, ?_, hbl⟩
    rw [bytes_append, hb, sender, if_neg (by omega)]
theorem evText_join (t s q d k v : Int) : Lib.join [[97, 116], dec t, sender s ++ [35] ++ dec q, [116, 111], dec d, [107, 105, 110, 100], dec k, [118, 97, 108], dec v] [32] = evText t s q d k v := by
  unfold evText
  rw [fromText_sender]
  simp [Lib.join, List.intercalate, List.intersperse]
theorem evText_len (t s q d k v : Int) (ht : t ≤ 1000000) (hs : s ≤ 1000000) (hq : q ≤ 1000000) (hd : d ≤ 1000000) (hk : k ≤ 1000000) (hv : v ≤ 1000000) : (evText t s q d k v).length ≤ 10000000 := by
  have a1 := dec_len t ht
  have a2 := dec_len s hs
  have a3 := dec_len q hq
  have a4 := dec_len d hd
  have a5 := dec_len k hk
  have a6 := dec_len v hv
  have a7 : (fromText s).length ≤ 1000010 := by
    unfold fromText
    split
    · simp
    · simp; omega
  unfold evText
  simp only [List.length_append, List.length_cons, List.length_nil]
  omega
theorem conv_below (w : World) (s : ByteArray) : Below w.heap.size w (Lib.bytesWorld w 5 s) :=
  ⟨by unfold Lib.bytesWorld World.freeze; split <;> rfl, by unfold Lib.bytesWorld World.freeze; split <;> rfl, by unfold Lib.bytesWorld World.freeze; split <;> rfl, by rw [Lib.bytesWorld_size]; omega, fun j hj => Lib.bytesWorld_at_old w 5 s j hj⟩
theorem conv_own (w : World) (s : ByteArray) (l : List UInt8) (hs : s.data.toList = l) (hl : l.length ≤ 10000000) : OwnB w.heap.size (Lib.bytesWorld w 5 s) (.slice (some ⟨w.heap.size, 0, none⟩) s.size (grownCap w s.size 0 5)) l := by
  have hsz : s.size = l.length := by rw [← hs]; rfl
  have hge := grownCap_ge w s.size 0 5
  refine ⟨_, _, by rw [hsz], by rw [← hsz]; exact hge, grownCap_le_maxLen w _ 0 5 (by unfold maxLen; omega), .inr ⟨w.heap.size, rfl, Nat.le_refl _, fun j hj => ?_, ?_, fun i hi => ?_⟩⟩
  · simp only [World.frozen?, Lib.bytesWorld_at_new]
    have h9 : (Lib.bytesCells w 5 s).size = grownCap w s.size 0 5 := by
      unfold Lib.bytesCells
      simp
      have : s.data.size = s.size := rfl
      omega
    rw [h9]
    simp
    omega
  · rw [Lib.bytesWorld_size]; omega
  · rw [Nat.zero_add, Lib.bytesWorld_cell w 5 s i (by omega), hs]
    rfl
theorem conv9 (w : World) (s : ByteArray) : (convert 9 24 (.string s)).run Tryd.prog w = .ok (.slice (some ⟨w.heap.size, 0, none⟩) s.size (grownCap w s.size 0 5)) (Lib.bytesWorld w 5 s) :=
  Lib.run_convert_string_bytes w 9 24 5 s Tryd.underlying9 Tryd.underlying24 Tryd.underlying5
theorem cells9 (w : World) (a b c d e f g h i : ByteArray) : ∀ (j : Nat) x, [a, b, c, d, e, f, g, h, i][j]? = some x → (w.alloc (.cells #[.string a, .string b, .string c, .string d, .string e, .string f, .string g, .string h, .string i] 9)).cell? ⟨w.heap.size, 0 + j, none⟩ = some (.string x) := by
  intro j x hx
  have h0 := (MapKept.heap_alloc w (.cells #[.string a, .string b, .string c, .string d, .string e, .string f, .string g, .string h, .string i] 9)).1
  rw [Nat.zero_add]
  simp only [World.cell?, h0]
  have e1 : (#[Value.string a, .string b, .string c, .string d, .string e, .string f, .string g, .string h, .string i] : Array Value)[j]? = ([a, b, c, d, e, f, g, h, i][j]?).map Value.string := by
    rw [← List.getElem?_map]
    simp
  rw [e1, hx]
  rfl
theorem join_text (t s q d k v : Int) (w : World) (b1 b2 b3 b4 b5 b6 : ByteArray) (h1 : b1.data.toList = dec t) (h2 : b2.data.toList = sender s) (h3 : b3.data.toList = dec q) (h4 : b4.data.toList = dec d) (h5 : b5.data.toList = dec k) (h6 : b6.data.toList = dec v)
    (hl : (evText t s q d k v).length ≤ 10000000) :
    Calls Tryd.prog 13 #[.slice (some ⟨w.heap.size, 0, none⟩) 9 9, .string ⟨#[32]⟩] (w.alloc (.cells #[.string ⟨#[97, 116]⟩, .string b1, .string (b2 ++ ⟨#[35]⟩ ++ b3), .string ⟨#[116, 111]⟩, .string b4, .string ⟨#[107, 105, 110, 100]⟩, .string b5, .string ⟨#[118, 97, 108]⟩, .string b6] 9)) fun e w' =>
      ∃ b : ByteArray, e = .returned (.string b) ∧ b.data.toList = evText t s q d k v ∧ Below w.heap.size w w' := by
  have e1 : Lib.join ([(⟨#[97, 116]⟩ : ByteArray), b1, b2 ++ ⟨#[35]⟩ ++ b3, ⟨#[116, 111]⟩, b4, ⟨#[107, 105, 110, 100]⟩, b5, ⟨#[118, 97, 108]⟩, b6].map (·.data.toList)) (⟨#[32]⟩ : ByteArray).data.toList = evText t s q d k v := by
    rw [← evText_join]
    simp only [List.map_cons, List.map_nil, bytes_append, h1, h2, h3, h4, h5, h6]
  refine (Tryd.strings_Join w.heap.size 0 9 [(⟨#[97, 116]⟩ : ByteArray), b1, b2 ++ ⟨#[35]⟩ ++ b3, ⟨#[116, 111]⟩, b4, ⟨#[107, 105, 110, 100]⟩, b5, ⟨#[118, 97, 108]⟩, b6] ⟨#[32]⟩ _ (cells9 w _ _ _ _ _ _ _ _ _) (by simp) (by simp) (by simp) (by rw [e1]; omega)).mono ?_
  rintro e w' ⟨rfl, hb⟩
  exact ⟨_, rfl, e1, ((Below.refl _ w).alloc (Nat.le_refl _) _).trans (hb.mono (by simp))⟩
end Go.Proofs.YtcnlkccmibnhmabDoor
