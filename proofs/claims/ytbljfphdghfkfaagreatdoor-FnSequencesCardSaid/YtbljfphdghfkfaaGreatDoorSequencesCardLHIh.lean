/- The program's text of a history. -/
import Derived.Test.YtbljfphdghfkfaaGreatDoorSequencesCardLHIe
namespace Go.Proofs.YtbljfphdghfkfaaGreatDoor
open Go.RowKit
theorem asks_no' {h : Hy} (hn : ¬ 0 ≤ h.a) : asksT h = [] := if_neg hn
theorem asks_yes' {h : Hy} (hn : 0 ≤ h.a) : asksT h = [97, 115, 107, 115, 32] ++ dec h.a ++ [10] := if_pos hn
theorem endL_take {l : List ByteArray} {k : Nat} {b : ByteArray} (h : l[k]? = some b) : endL (txts (l.take (k + 1))) = endL (txts (l.take k)) ++ (b.data.toList ++ [10]) := by
 rw [List.take_add_one, h, txts_append, endL_append]
 simp [endL, txts]
theorem endL_len {l : List ByteArray} (k : Nat) : (endL (txts (l.take k))).length ≤ (endL (txts l)).length := by
 have h9 : endL (txts l) = endL (txts (l.take k)) ++ endL (txts (l.drop k)) := by
  rw [← endL_append, ← txts_append, List.take_append_drop]
 rw [h9, List.length_append]
 omega
theorem one_len {l : List ByteArray} {k : Nat} {b : ByteArray} (h : l[k]? = some b) : b.size + 1 ≤ (endL (txts l)).length := by
 have h1 := endL_len (l := l) (k + 1)
 rw [endL_take h, List.length_append, List.length_append] at h1
 have e9 : b.size = b.data.toList.length := rfl
 simp only [List.length_cons, List.length_nil] at h1
 omega
theorem SrS.bk {B : Nat} {w : World} {x : Value} {l : List ByteArray} (h : SrS B w x l) : ∃ g cur cap, (x = .slice (some ⟨g, 0, none⟩) l.length cap ∨ (x = .slice none 0 0 ∧ l = [])) ∧ (l = [] ∨ (Bk w g 9 cur ∧ ∀ (j : Nat) y, l[j]? = some y → cur[j]? = some (.string y))) := by
 obtain ⟨h0, ⟨rfl, h1⟩ | ⟨g, cap, cur, rfl, _, hc, h2, _, h4, h5⟩⟩ := h
 ·exact ⟨0, #[], 0, .inr ⟨rfl, List.length_eq_zero_iff.1 h1⟩, .inl (List.length_eq_zero_iff.1 h1)⟩
 ·refine ⟨g, cur, cap, .inl rfl, .inr ⟨hc, fun j y hy => ?_⟩⟩
  have hj : j < l.length := (List.getElem?_eq_some_iff.1 hy).1
  have e1 : (cur.toList.take (l.length * 1))[j]? = some (.string y) := by
   rw [h5]
   simp [strs, hy]
  rw [List.getElem?_take] at e1
  have e2 : j < l.length ∧ cur[j]? = some (.string y) := by simpa using e1
  exact e2.2
set_option maxRecDepth 100000 in
set_option maxHeartbeats 16000000 in
theorem iTextH (x : Value) (z : Hy) (w : World) (hi : z.inR) (h : IsHistory w x z) (htab : Lib.TabIs Tryz.prog w "internal/strconv.uint64pow10" .u64 Lib.pow10Tab) :
  Calls Tryz.prog 21 #[x] w fun e w' => ∃ y, e = .returned y ∧ OwnB w.heap.size w' y (histR z) ∧ Below w.heap.size w w' := by
 have HIN : Hid z.inR := hi
 have HX : Hid (IsHistory w x z) := h
 have HTw : Hid (Lib.TabIs Tryz.prog w "internal/strconv.uint64pow10" .u64 Lib.pow10Tab) := htab
 clear htab hi
 obtain ⟨u0, u1, rfl, hd0, hd1⟩ := h
 have HI0 : Hid (IsEvs w u0 z.e) := hd0.isEvs
 have HI1 : Hid (IsX w u1 z.x) := hd1.isX
 obtain ⟨ae, ce, rfl, _, _, he⟩ := hd0.isEvs
 obtain ⟨ax, cx, rfl, _, _, hxx⟩ := hd1.isX
 have HEV : Hid (z.e = [] ∨ ∃ b off, ae = some ⟨b, off, none⟩ ∧ EvsAt w b off z.e) := he
 have HXX : Hid (z.x = [] ∨ ∃ b off, ax = some ⟨b, off, none⟩ ∧ XsAt w b off z.x) := hxx
 clear hd0 hd1 he hxx
 clear HI0 HI1
 obtain ⟨W0, hW0⟩ : ∃ W0, w.alloc (.cells #[.slice ae z.e.length ce, .slice ax z.x.length cx, .int .i64 z.a, .bool z.f] 48) = W0 := ⟨_, rfl⟩
 have HP0 : Hid (Bk W0 w.heap.size 48 #[.slice ae z.e.length ce, .slice ax z.x.length cx, .int .i64 z.a, .bool z.f]) := hW0 ▸ Bk.new w _ _
 have HB0 : Hid (Below w.heap.size w W0) := hW0 ▸ (Below.refl _ w).alloc (Nat.le_refl _) _
 have p0 := HP0.out.cell (i := 0) rfl
 have p1 := HP0.out.cell (i := 1) rfl
 have p2 := HP0.out.cell (i := 2) rfl
 have p3 := HP0.out.cell (i := 3) rfl
 go_enter Tryz.func21, Tryz.ntmps21
 go_wp2_with fail
 clear hW0 p0 p1 p2 p3
 refine (hok_any _ z _ (HX.out.under HB0.out)).mono ?_
 rintro e w1 ⟨⟨c, rfl, hc⟩, hb⟩
 have HB1 : Hid (Below w.heap.size w w1) := HB0.out.trans (hb.mono HB0.out.size)
 have HP1 : Hid (Bk w1 w.heap.size 48 #[.slice ae z.e.length ce, .slice ax z.x.length cx, .int .i64 z.a, .bool z.f]) := HP0.out.below hb
 clear hb HB0 HP0 HX
 by_cases hok : z.ok
 case neg =>
  obtain rfl : c = false := by
   cases c
   ·rfl
   ·exact absurd (hc.1 rfl) hok
  have HNO : Hid (histR z = []) := histR_no hok
  clear hc hok
  go_wp2
  go_ret
  exact ⟨_, rfl, by rw [HNO.out]; exact OwnB.nil _ _, HB1.out⟩
 obtain rfl : c = true := hc.2 hok
 have HYES : Hid (histR z = histText z) := histR_yes hok
 have HOE : Hid (∀ i, i < z.e.length → (evAt z.e i).ok = true) := hok.2.1
 have HOX : Hid (∀ i, i < z.x.length → emB (xAt z.x i) = true) := hok.2.2
 have hlen := hist_len hok HIN.out
 have HLEN : Hid ((histText z).length ≤ 2000000000) := hlen
 obtain ⟨c1, c2, c3, c4⟩ := hok.1
 clear hc hok hlen
 obtain ⟨B, hBe⟩ : ∃ B, B = w1.heap.size := ⟨_, rfl⟩
 have hwB : w.heap.size < B := hBe ▸ HP1.out.lt
 have hBw : B ≤ w1.heap.size := by omega
 have HBE : Hid (∀ W, Below B w1 W → Below w.heap.size w W) := fun W hW => HB1.out.trans (hW.mono (by omega))
 have HR0 : Hid (SrS B w1 (.slice none 0 0) []) := World.ownsRow_nil w1 B 9 1
 have p0 := HP1.out.cell (i := 0) rfl
 clear hBe
 go_wp2
 clear p0
 go_loopw [3, 17] (fun s i wr => ∃ (k : Nat) (v : Value) (l : List ByteArray), k ≤ z.e.length ∧ v = s ∧ i = .int .i64 k ∧ Hid (SrS B wr s l) ∧ Hid (endL (txts l) = linesText z.e k) ∧ l.length = k ∧ Hid (Below B w1 wr)) (fun _ i _ => z.e.length - (intOf i).toNat)
 case atStart => exact ⟨0, _, [], Nat.zero_le _, rfl, rfl, HR0.out, (rfl : endL (txts []) = linesText z.e 0), rfl, Below.refl _ _⟩
 case round =>
  clear HR0
  obtain ⟨k, o, l, hk, rfl, rfl, HR, HZ, hll, HBq⟩ := hrel
  have HBX : Hid (Below w.heap.size w wr) := HBE.out wr HBq.out
  have HPr : Hid (Bk wr w.heap.size 48 #[.slice ae z.e.length ce, .slice ax z.x.length cx, .int .i64 z.a, .bool z.f]) := HP1.out.keep HBq.out hwB
  by_cases hlt : k < z.e.length
  case pos =>
   have hkd2 : decide ((k : Int) < (z.e.length : Int)) = true := by simpa using hlt
   obtain ⟨b, off, rfl, hb, hc⟩ := HEV.out.resolve_left (by intro e; rw [e] at hlt; simp at hlt)
   obtain ⟨f0, f1, f2, f3, f4, f5, f6⟩ := (hc k hlt).below HBX.out hb
   have HEO : Hid (okB (evAt z.e k).t (evAt z.e k).s (evAt z.e k).q (evAt z.e k).d (evAt z.e k).k (evAt z.e k).v (evAt z.e k).g = true) := HOE.out k hlt
   have HNX : Hid (linesText z.e (k + 1) = linesText z.e k ++ lineText (evAt z.e k)) := rfl
   generalize evAt z.e k = e at f0 f1 f2 f3 f4 f5 f6 HNX HEO
   obtain ⟨t, s, qq, d, kk, vv, g⟩ := e
   clear hc
   obtain ⟨V, hV⟩ : ∃ V, wr.alloc (.cells #[.int .i64 t, .int .i64 s, .int .i64 qq, .int .i64 d, .int .i64 kk, .int .i64 vv, .int .i64 g] 53) = V := ⟨_, rfl⟩
   obtain ⟨QB, hQB⟩ : ∃ QB, QB = wr.heap.size := ⟨_, rfl⟩
   have HQV : Hid (Bk V QB 53 #[.int .i64 t, .int .i64 s, .int .i64 qq, .int .i64 d, .int .i64 kk, .int .i64 vv, .int .i64 g]) := hV ▸ Bk.newAt hQB _ _
   have HRV : Hid (SrS B V o l) := hV ▸ HR.out.alloc _
   have HBV : Hid (Below B w1 V) := hV ▸ HBq.out.alloc (Nat.le_trans hBw HBq.out.size) _
   have HTV : Hid (Lib.TabIs Tryz.prog V "internal/strconv.uint64pow10" .u64 Lib.pow10Tab) := tab_kept HTw.out (HBE.out V HBV.out)
   have e0 := HQV.out.cell (i := 0) rfl
   have e1 := HQV.out.cell (i := 1) rfl
   have e2 := HQV.out.cell (i := 2) rfl
   have e3 := HQV.out.cell (i := 3) rfl
   have e4 := HQV.out.cell (i := 4) rfl
   have e5 := HQV.out.cell (i := 5) rfl
   have e6 := HQV.out.cell (i := 6) rfl
   have hQB' := hQB.symm
   clear hQB
   go_wp2_with fail
   clear f0 f1 f2 f3 f4 f5 f6 e0 e1 e2 e3 e4 e5 e6 hV hQB' HR HBq HBX HPr
   refine (iText_ok t s qq d kk vv g V HEO.out HTV.out).mono ?_
   rintro e w7 ⟨x7, rfl, hx7, hb7⟩
   have hcv := conv_back hx7 (ev_ne t s qq d kk vv)
   have HBXw7 : Hid (Below B w1 w7) := HBV.out.trans (hb7.mono (Nat.le_trans hBw HBV.out.size))
   have HR7 : Hid (SrS B w7 o l) := HRV.out.below hb7
   have hsw7 : B ≤ w7.heap.size := Nat.le_trans hBw HBXw7.out.size
   clear hb7 hx7 HRV HBV HTV HQV
   go_wp2_with (at_builtin; refine srl_own (B := B) rfl _ _ rfl o l rfl (HR7.out.alloc _) [(⟨(evText t s qq d kk vv).toArray⟩ : ByteArray)] w7.heap.size 1 rfl (Srt.new w7 _ _ rfl) (by simp; omega) (by simp; omega) ?_; intro v8 w8 hr8 hb8 hk8; have HR8 : Hid (SrS B w8 v8 (l ++ [(⟨(evText t s qq d kk vv).toArray⟩ : ByteArray)])) := hr8; have HB8 : Hid (Below B w1 w8) := (HBXw7.out.alloc hsw7 _).trans hb8; clear hr8 hb8 hk8)
   go_roundw
   case rel =>
    refine ⟨k + 1, _, l ++ [(⟨(evText t s qq d kk vv).toArray⟩ : ByteArray)], by omega, rfl, by go_num, HR8.out, (?_ : endL (txts (l ++ [(⟨(evText t s qq d kk vv).toArray⟩ : ByteArray)])) = _), by simp; omega, HB8.out⟩
    rw [txts_append, endL_append, HZ.out, HNX.out]
    show _ ++ endL [evText t s qq d kk vv] = _
    simp [endL, lineText]
   case measure => simp [intOf]; omega
  case neg =>
   obtain rfl : k = z.e.length := by omega
   have hkd : decide ((z.e.length : Int) < (z.e.length : Int)) = false := by simp
   have p1 := HPr.out.cell (i := 1) rfl
   have HZ6 : Hid (endL (txts l) = linesText z.e z.e.length) := HZ.out
   have HB6 : Hid (Below B w1 wr) := HBq.out
   clear HZ HBq
   go_wp2
   clear p1
   go_loopw [3, 31] (fun s i wr => ∃ (k : Nat) (v : Value) (l : List ByteArray), k ≤ z.x.length ∧ v = s ∧ i = .int .i64 k ∧ Hid (SrS B wr s l) ∧ Hid (endL (txts l) = linesText z.e z.e.length ++ emsText z.x k) ∧ l.length = z.e.length + k ∧ Hid (Below B w1 wr)) (fun _ i _ => z.x.length - (intOf i).toNat)
   case atStart => exact ⟨0, _, l, Nat.zero_le _, rfl, rfl, HR.out, (by rw [HZ6.out]; simp [emsText] : endL (txts l) = _), by omega, HB6.out⟩
   case round =>
    clear HR HB6 HPr HBX HZ6 hll
    obtain ⟨k, o, l, hk, rfl, rfl, HR, HZ, hll, HBq⟩ := hrel
    have HBX : Hid (Below w.heap.size w wr) := HBE.out wr HBq.out
    have HPr : Hid (Bk wr w.heap.size 48 #[.slice ae z.e.length ce, .slice ax z.x.length cx, .int .i64 z.a, .bool z.f]) := HP1.out.keep HBq.out hwB
    by_cases hlt : k < z.x.length
    case pos =>
     have hkd2 : decide ((k : Int) < (z.x.length : Int)) = true := by simpa using hlt
     obtain ⟨b, off, rfl, hb, hc⟩ := HXX.out.resolve_left (by intro e; rw [e] at hlt; simp at hlt)
     obtain ⟨f0, f1, f2⟩ := (hc k hlt).below HBX.out hb
     have hin := HIN.out k hlt
     have hem := of_decide_eq_true (HOX.out k hlt)
     have HNX : Hid (emsText z.x (k + 1) = emsText z.x k ++ (emLine (xAt z.x k).t (xAt z.x k).l (xAt z.x k).v ++ [10])) := rfl
     generalize xAt z.x k = e at f0 f1 f2 HNX hin hem
     obtain ⟨t, y, v⟩ := e
     obtain ⟨⟨_, ht1⟩, ⟨_, hl1'⟩, ⟨_, hv1⟩⟩ := hin
     obtain ⟨ht0, hy0, hv0⟩ := hem
     simp only at ht1 hl1' hv1 ht0 hy0 hv0
     clear hc
     obtain ⟨V, hV⟩ : ∃ V, wr.alloc (.cells #[.int .i64 t, .int .i64 y, .int .i64 v] 108) = V := ⟨_, rfl⟩
     obtain ⟨QB, hQB⟩ : ∃ QB, QB = wr.heap.size := ⟨_, rfl⟩
     have HQV : Hid (Bk V QB 108 #[.int .i64 t, .int .i64 y, .int .i64 v]) := hV ▸ Bk.newAt hQB _ _
     have HRV : Hid (SrS B V o l) := hV ▸ HR.out.alloc _
     have HBV : Hid (Below B w1 V) := hV ▸ HBq.out.alloc (Nat.le_trans hBw HBq.out.size) _
     have HTV : Hid (Lib.TabIs Tryz.prog V "internal/strconv.uint64pow10" .u64 Lib.pow10Tab) := tab_kept HTw.out (HBE.out V HBV.out)
     have e0 := HQV.out.cell (i := 0) rfl
     have e1 := HQV.out.cell (i := 1) rfl
     have e2 := HQV.out.cell (i := 2) rfl
     have hQB' := hQB.symm
     clear hQB
     go_wp2_with fail
     clear f0 f1 f2 e0 e1 e2 hV hQB' HR HBq HBX HPr
     refine (emitT_any t y v ht0 ht1 hy0 hl1' hv0 hv1 V HTV.out).mono ?_
     rintro e w7 ⟨b7, rfl, h7, hb7⟩
     have HL7 : Hid (b7.data.toList = emLine t y v) := h7
     have HBXw7 : Hid (Below B w1 w7) := HBV.out.trans (hb7.mono (Nat.le_trans hBw HBV.out.size))
     have HR7 : Hid (SrS B w7 o l) := HRV.out.below hb7
     have hsw7 : B ≤ w7.heap.size := Nat.le_trans hBw HBXw7.out.size
     clear hb7 h7 HRV HBV HTV HQV
     go_wp2_with (at_builtin; refine srl_own (B := B) rfl _ _ rfl o l rfl (HR7.out.alloc _) [b7] w7.heap.size 1 rfl (Srt.new w7 _ _ rfl) (by simp; omega) (by simp; omega) ?_; intro v8 w8 hr8 hb8 hk8; have HR8 : Hid (SrS B w8 v8 (l ++ [b7])) := hr8; have HB8 : Hid (Below B w1 w8) := (HBXw7.out.alloc hsw7 _).trans hb8; clear hr8 hb8 hk8)
     go_roundw
     case rel =>
      refine ⟨k + 1, _, l ++ [b7], by omega, rfl, by go_num, HR8.out, (?_ : endL (txts (l ++ [b7])) = _), by simp; omega, HB8.out⟩
      rw [txts_append, endL_append, HZ.out, HNX.out]
      show _ ++ endL [b7.data.toList] = _
      rw [HL7.out]
      simp [endL]
     case measure => simp [intOf]; omega
    case neg =>
     obtain rfl : k = z.x.length := by omega
     have hkd : decide ((z.x.length : Int) < (z.x.length : Int)) = false := by simp
     have HZ6 : Hid (endL (txts l) = linesText z.e z.e.length ++ emsText z.x z.x.length) := HZ.out
     have HB6 : Hid (Below B w1 wr) := HBq.out
     clear HZ HBq
     have p2 := HPr.out.cell (i := 2) rfl
     have p3 := HPr.out.cell (i := 3) rfl
     have HRw : Hid (SrS B wr o l) := HR.out
     clear HR
     obtain ⟨w6, rfl⟩ : ∃ w6, w6 = wr := ⟨wr, rfl⟩
     by_cases ca : z.a = -1
     case pos =>
      have HAN : Hid (asksT z = []) := asks_no' (by omega)
      have da : (z.a != (-1 : Int)) = false := by simpa using ca
      go_upto_region 16 with fail
      have hsw6 : B ≤ w6.heap.size := Nat.le_trans hBw HB6.out.size
      have HBXw6 : Hid (Below B w1 w6) := HB6.out
      cases hf : z.f with
      | false =>
       have hff : fullT z = [] := by unfold fullT; rw [if_neg (by rw [hf]; simp)]
       have HLF : Hid (endL (txts (l)) = histText z) := by
        show endL (txts (l)) = histText z
        rw [HZ6.out, histText, hff, HAN.out]
        simp
       clear hff
       rw [hf] at p3
       obtain ⟨G, cur, cap9, hform, hbk⟩ := HRw.out.bk
       have HBK : Hid (l = [] ∨ (Bk w6 G 9 cur ∧ ∀ (j : Nat) y, (l)[j]? = some y → cur[j]? = some (.string y))) := hbk
       have HLE : Hid (endL (txts (l)) = histText z) := HLF.out
       obtain ⟨l9, hl9⟩ : ∃ l9, l9 = l := ⟨_, rfl⟩
       rw [← hl9] at HBK HLE hform
       have hln9 : l9.length ≤ 2000 := by rw [hl9]; (try simp); omega
       clear hbk hl9
       obtain ⟨BB, hBB⟩ : ∃ BB, BB = w6.heap.size := ⟨_, rfl⟩
       have hwb9 : w.heap.size ≤ BB := hBB ▸ (HBE.out w6 HB6.out).size
       have hbb9 : BB ≤ w6.heap.size := by omega
       have HB9 : Hid (Below w.heap.size w w6) := HBE.out w6 HB6.out
       have HTT : Hid (TxS BB w6 w6 (.slice none 0 0) []) := TxS.nil (Below.refl _ _) hbb9
       obtain ⟨a9, hv9⟩ : ∃ a9 : Option Addr × Nat, o = .slice a9.1 l9.length a9.2 ∧ (l9 = [] ∨ a9.1 = some ⟨G, 0, none⟩) := by
        rcases hform with h9 | ⟨h9, h8⟩
        ·exact ⟨(some ⟨G, 0, none⟩, cap9), h9, .inr rfl⟩
        ·exact ⟨(none, 0), by rw [h9, h8]; rfl, .inl h8⟩
       obtain ⟨a9, c9⟩ := a9
       obtain ⟨hv9, ha9⟩ := hv9
       simp only at hv9 ha9
       subst hv9
       have HA9 : Hid (l9 = [] ∨ a9 = some ⟨G, 0, none⟩) := ha9
       clear hform ha9 hBB
       go_wp2
       go_loopw [8, 58] (fun s i wr => ∃ (k : Nat) (v : Value) (Y : List UInt8), k ≤ l9.length ∧ v = s ∧ i = .int .i64 k ∧ Hid (Y = endL (txts (l9.take k))) ∧ Hid (TxS BB w6 wr s Y) ∧ Hid (l9 = [] ∨ Bk wr G 9 cur)) (fun _ i _ => l9.length - (intOf i).toNat)
       case atStart => exact ⟨0, _, [], Nat.zero_le _, rfl, rfl, (rfl : ([] : List UInt8) = endL (txts (l9.take 0))), HTT.out, HBK.out.imp id (fun h9 => h9.1)⟩
       case round =>
        clear HTT
        obtain ⟨k, o9, Y, hk9, rfl, rfl, HY, HTr, HKr⟩ := hrel
        by_cases hlt : k < l9.length
        case pos =>
         have hkd9 : decide ((k : Int) < (l9.length : Int)) = true := by simpa using hlt
         have hne9 : ¬ l9 = [] := by intro e9; rw [e9] at hlt; simp at hlt
         obtain rfl := HA9.out.resolve_left hne9
         obtain ⟨y9, hy9⟩ : ∃ y9, l9[k]? = some y9 := ⟨l9[k], List.getElem?_eq_getElem hlt⟩
         have HBKr : Hid (Bk wr G 9 cur) := HKr.out.resolve_left hne9
         have f9 : wr.cell? ⟨G, k, none⟩ = some (.string y9) := HBKr.out.cell ((HBK.out.resolve_left hne9).2 k y9 hy9)
         have hol := one_len hy9
         have hyl := endL_len (l := l9) k
         rw [HLE.out] at hol hyl
         have hml : (histText z).length ≤ 2000000000 := HLEN.out
         have hYl : Y.length ≤ 2000000000 := by rw [HY.out]; omega
         have hn9 : ¬ 9223372036854775807 < y9.size + 1 := by omega
         have hol2 : y9.size ≤ 2000000000 := by omega
         have HSZ : Hid ((y9 ++ ⟨#[10]⟩ : ByteArray).size = y9.size + 1) := (by rw [ByteArray.size_append]; rfl : (y9 ++ ⟨#[10]⟩ : ByteArray).size = y9.size + 1)
         have HNX : Hid (endL (txts (l9.take (k + 1))) = endL (txts (l9.take k)) ++ (y9.data.toList ++ [10])) := endL_take hy9
         clear HKr hyl hy9 hml
         go_wp2_with (at_builtin; refine txl_text (B := BB) (w1 := w6) rfl _ _ rfl o9 Y rfl HTr.out (y9 ++ ⟨#[10]⟩) rfl (by rw [HSZ.out]; omega) ?_; intro v10 w10 ht10 hk10; have HT10 : Hid (TxS BB w6 w10 v10 (Y ++ (y9 ++ ⟨#[10]⟩ : ByteArray).data.toList)) := ht10; have HK10 : Hid (Bk w10 G 9 cur) := hk10.bk HBKr.out (Or.inl (by decide)); clear ht10 hk10)
         go_roundw
         case rel =>
          have HYN : Hid (Y ++ (y9 ++ ⟨#[10]⟩ : ByteArray).data.toList = endL (txts (l9.take (k + 1)))) := by
           show Y ++ (y9 ++ ⟨#[10]⟩ : ByteArray).data.toList = endL (txts (l9.take (k + 1)))
           rw [HNX.out, HY.out, bytes_append]
          first
           | exact ⟨k + 1, _, Y ++ (y9 ++ ⟨#[10]⟩ : ByteArray).data.toList, by omega, rfl, by go_num, HYN.out, HT10.out, .inr HK10.out⟩
           | exact ⟨_, _, _, ⟨k + 1, by omega, by go_num, _, HYN.out, HT10.out⟩, rfl, rfl, rfl⟩
         case measure => simp [intOf]; omega
        case neg =>
         obtain rfl : k = l9.length := by omega
         have hkd9 : decide ((l9.length : Int) < (l9.length : Int)) = false := by simp
         have HR9 : Hid (OwnB w.heap.size wr o9 (histR z) ∧ Below w.heap.size w wr) := by
          have e9 : Y = histR z := by rw [HY.out, List.take_of_length_le (Nat.le_refl _), HLE.out, HYES.out]
          exact ⟨e9 ▸ (OwnB.of_row HTr.out.row).mono hwb9, HB9.out.trans (HTr.out.below.mono hwb9)⟩
         go_wp2
         go_ret
         exact ⟨_, rfl, HR9.out.1, HR9.out.2⟩
      | true =>
       have hff : fullT z = [102, 117, 108, 108] ++ [10] := by unfold fullT; rw [if_pos hf]
       have HLF : Hid (endL (txts (l ++ [(⟨#[102, 117, 108, 108]⟩ : ByteArray)])) = histText z) := by
        show endL (txts (l ++ [(⟨#[102, 117, 108, 108]⟩ : ByteArray)])) = histText z
        rw [txts_append, endL_append, HZ6.out, histText, hff, HAN.out]
        simp [endL, txts]
       clear hff
       rw [hf] at p3
       go_upto_region 18 with (at_builtin; refine srl_own (B := B) rfl _ _ rfl o (l) rfl (HRw.out.alloc _) [(⟨#[102, 117, 108, 108]⟩ : ByteArray)] w6.heap.size 1 rfl (Srt.new w6 _ _ rfl) (by simp; omega) (by simp; omega) ?_; intro v20 w20 hr20 hb20 hk20; have HR20 : Hid (SrS B w20 v20 ((l) ++ [(⟨#[102, 117, 108, 108]⟩ : ByteArray)])) := hr20; have HB20 : Hid (Below B w1 w20) := (HBXw6.out.alloc hsw6 _).trans hb20; clear hr20 hb20 hk20)
       obtain ⟨G, cur, cap9, hform, hbk⟩ := HR20.out.bk
       have HBK : Hid ((l ++ [(⟨#[102, 117, 108, 108]⟩ : ByteArray)]) = [] ∨ (Bk w20 G 9 cur ∧ ∀ (j : Nat) y, ((l ++ [(⟨#[102, 117, 108, 108]⟩ : ByteArray)]))[j]? = some y → cur[j]? = some (.string y))) := hbk
       have HLE : Hid (endL (txts ((l ++ [(⟨#[102, 117, 108, 108]⟩ : ByteArray)]))) = histText z) := HLF.out
       obtain ⟨l9, hl9⟩ : ∃ l9, l9 = (l ++ [(⟨#[102, 117, 108, 108]⟩ : ByteArray)]) := ⟨_, rfl⟩
       rw [← hl9] at HBK HLE hform
       have hln9 : l9.length ≤ 2000 := by rw [hl9]; (try simp); omega
       clear hbk hl9
       obtain ⟨BB, hBB⟩ : ∃ BB, BB = w20.heap.size := ⟨_, rfl⟩
       have hwb9 : w.heap.size ≤ BB := hBB ▸ (HBE.out w20 HB20.out).size
       have hbb9 : BB ≤ w20.heap.size := by omega
       have HB9 : Hid (Below w.heap.size w w20) := HBE.out w20 HB20.out
       have HTT : Hid (TxS BB w20 w20 (.slice none 0 0) []) := TxS.nil (Below.refl _ _) hbb9
       obtain ⟨a9, hv9⟩ : ∃ a9 : Option Addr × Nat, v20 = .slice a9.1 l9.length a9.2 ∧ (l9 = [] ∨ a9.1 = some ⟨G, 0, none⟩) := by
        rcases hform with h9 | ⟨h9, h8⟩
        ·exact ⟨(some ⟨G, 0, none⟩, cap9), h9, .inr rfl⟩
        ·exact ⟨(none, 0), by rw [h9, h8]; rfl, .inl h8⟩
       obtain ⟨a9, c9⟩ := a9
       obtain ⟨hv9, ha9⟩ := hv9
       simp only at hv9 ha9
       subst hv9
       have HA9 : Hid (l9 = [] ∨ a9 = some ⟨G, 0, none⟩) := ha9
       clear hform ha9 hBB
       go_wp2
       go_loopw [8, 58] (fun s i wr => ∃ (k : Nat) (v : Value) (Y : List UInt8), k ≤ l9.length ∧ v = s ∧ i = .int .i64 k ∧ Hid (Y = endL (txts (l9.take k))) ∧ Hid (TxS BB w20 wr s Y) ∧ Hid (l9 = [] ∨ Bk wr G 9 cur)) (fun _ i _ => l9.length - (intOf i).toNat)
       case atStart => exact ⟨0, _, [], Nat.zero_le _, rfl, rfl, (rfl : ([] : List UInt8) = endL (txts (l9.take 0))), HTT.out, HBK.out.imp id (fun h9 => h9.1)⟩
       case round =>
        clear HTT
        obtain ⟨k, o9, Y, hk9, rfl, rfl, HY, HTr, HKr⟩ := hrel
        by_cases hlt : k < l9.length
        case pos =>
         have hkd9 : decide ((k : Int) < (l9.length : Int)) = true := by simpa using hlt
         have hne9 : ¬ l9 = [] := by intro e9; rw [e9] at hlt; simp at hlt
         obtain rfl := HA9.out.resolve_left hne9
         obtain ⟨y9, hy9⟩ : ∃ y9, l9[k]? = some y9 := ⟨l9[k], List.getElem?_eq_getElem hlt⟩
         have HBKr : Hid (Bk wr G 9 cur) := HKr.out.resolve_left hne9
         have f9 : wr.cell? ⟨G, k, none⟩ = some (.string y9) := HBKr.out.cell ((HBK.out.resolve_left hne9).2 k y9 hy9)
         have hol := one_len hy9
         have hyl := endL_len (l := l9) k
         rw [HLE.out] at hol hyl
         have hml : (histText z).length ≤ 2000000000 := HLEN.out
         have hYl : Y.length ≤ 2000000000 := by rw [HY.out]; omega
         have hn9 : ¬ 9223372036854775807 < y9.size + 1 := by omega
         have hol2 : y9.size ≤ 2000000000 := by omega
         have HSZ : Hid ((y9 ++ ⟨#[10]⟩ : ByteArray).size = y9.size + 1) := (by rw [ByteArray.size_append]; rfl : (y9 ++ ⟨#[10]⟩ : ByteArray).size = y9.size + 1)
         have HNX : Hid (endL (txts (l9.take (k + 1))) = endL (txts (l9.take k)) ++ (y9.data.toList ++ [10])) := endL_take hy9
         clear HKr hyl hy9 hml
         go_wp2_with (at_builtin; refine txl_text (B := BB) (w1 := w20) rfl _ _ rfl o9 Y rfl HTr.out (y9 ++ ⟨#[10]⟩) rfl (by rw [HSZ.out]; omega) ?_; intro v10 w10 ht10 hk10; have HT10 : Hid (TxS BB w20 w10 v10 (Y ++ (y9 ++ ⟨#[10]⟩ : ByteArray).data.toList)) := ht10; have HK10 : Hid (Bk w10 G 9 cur) := hk10.bk HBKr.out (Or.inl (by decide)); clear ht10 hk10)
         go_roundw
         case rel =>
          have HYN : Hid (Y ++ (y9 ++ ⟨#[10]⟩ : ByteArray).data.toList = endL (txts (l9.take (k + 1)))) := by
           show Y ++ (y9 ++ ⟨#[10]⟩ : ByteArray).data.toList = endL (txts (l9.take (k + 1)))
           rw [HNX.out, HY.out, bytes_append]
          first
           | exact ⟨k + 1, _, Y ++ (y9 ++ ⟨#[10]⟩ : ByteArray).data.toList, by omega, rfl, by go_num, HYN.out, HT10.out, .inr HK10.out⟩
           | exact ⟨_, _, _, ⟨k + 1, by omega, by go_num, _, HYN.out, HT10.out⟩, rfl, rfl, rfl⟩
         case measure => simp [intOf]; omega
        case neg =>
         obtain rfl : k = l9.length := by omega
         have hkd9 : decide ((l9.length : Int) < (l9.length : Int)) = false := by simp
         have HR9 : Hid (OwnB w.heap.size wr o9 (histR z) ∧ Below w.heap.size w wr) := by
          have e9 : Y = histR z := by rw [HY.out, List.take_of_length_le (Nat.le_refl _), HLE.out, HYES.out]
          exact ⟨e9 ▸ (OwnB.of_row HTr.out.row).mono hwb9, HB9.out.trans (HTr.out.below.mono hwb9)⟩
         go_wp2
         go_ret
         exact ⟨_, rfl, HR9.out.1, HR9.out.2⟩
     have da : (z.a != (-1 : Int)) = true := by simpa using ca
     have HAY : Hid (asksT z = [97, 115, 107, 115, 32] ++ dec z.a ++ [10]) := asks_yes' (by omega)
     go_wp2_with fail
     refine (itoa_any9 z.a (by omega) (by omega) w6 (tab_kept HTw.out HBX.out)).mono ?_
     rintro e w7 ⟨b7, rfl, h7, hb7⟩
     have HL7 : Hid (b7.data.toList = dec z.a) := h7
     have HBXw7 : Hid (Below B w1 w7) := HB6.out.trans (hb7.mono (Nat.le_trans hBw HB6.out.size))
     have HR7 : Hid (SrS B w7 o l) := HRw.out.below hb7
     have hsw7 : B ≤ w7.heap.size := Nat.le_trans hBw HBXw7.out.size
     have hn7 : ¬ 9223372036854775807 < 5 + b7.size := by
      have h9 := dec_len20 z.a (by omega)
      have e9 : b7.size = (dec z.a).length := by rw [← h7]; rfl
      omega
     clear hb7 h7 p2 p3 HRw HB6 HPr HBX
     go_upto_region 16 with (at_builtin; refine srl_own (B := B) rfl _ _ rfl o l rfl (HR7.out.alloc _) [(⟨#[97, 115, 107, 115, 32]⟩ ++ b7 : ByteArray)] w7.heap.size 1 rfl (Srt.new w7 _ _ rfl) (by simp; omega) (by simp; omega) ?_; intro v8 w8 hr8 hb8 hk8; have HR8 : Hid (SrS B w8 v8 (l ++ [(⟨#[97, 115, 107, 115, 32]⟩ ++ b7 : ByteArray)])) := hr8; have HB8 : Hid (Below B w1 w8) := (HBXw7.out.alloc hsw7 _).trans hb8; clear hr8 hb8 hk8)
     have HZ8 : Hid (endL (txts (l ++ [(⟨#[97, 115, 107, 115, 32]⟩ ++ b7 : ByteArray)])) = linesText z.e z.e.length ++ emsText z.x z.x.length ++ asksT z) := by
      show endL (txts (l ++ [(⟨#[97, 115, 107, 115, 32]⟩ ++ b7 : ByteArray)])) = _
      rw [txts_append, endL_append, HZ6.out, HAY.out]
      show _ ++ endL [((⟨#[97, 115, 107, 115, 32]⟩ ++ b7 : ByteArray)).data.toList] = _
      rw [bytes_append, HL7.out]
      simp [endL]
     have HP8 : Hid (Bk w8 w.heap.size 48 #[.slice ae z.e.length ce, .slice ax z.x.length cx, .int .i64 z.a, .bool z.f]) := HP1.out.keep HB8.out hwB
     have p3 := HP8.out.cell (i := 3) rfl
     have hsw8 : B ≤ w8.heap.size := Nat.le_trans hBw HB8.out.size
     have HBXw8 : Hid (Below B w1 w8) := HB8.out
     cases hf : z.f with
     | false =>
      have hff : fullT z = [] := by unfold fullT; rw [if_neg (by rw [hf]; simp)]
      have HLF : Hid (endL (txts (l ++ [(⟨#[97, 115, 107, 115, 32]⟩ ++ b7 : ByteArray)])) = histText z) := by
       show endL (txts (l ++ [(⟨#[97, 115, 107, 115, 32]⟩ ++ b7 : ByteArray)])) = histText z
       rw [HZ8.out, histText, hff]
       simp
      clear hff
      rw [hf] at p3
      obtain ⟨G, cur, cap9, hform, hbk⟩ := HR8.out.bk
      have HBK : Hid (l ++ [(⟨#[97, 115, 107, 115, 32]⟩ ++ b7 : ByteArray)] = [] ∨ (Bk w8 G 9 cur ∧ ∀ (j : Nat) y, (l ++ [(⟨#[97, 115, 107, 115, 32]⟩ ++ b7 : ByteArray)])[j]? = some y → cur[j]? = some (.string y))) := hbk
      have HLE : Hid (endL (txts (l ++ [(⟨#[97, 115, 107, 115, 32]⟩ ++ b7 : ByteArray)])) = histText z) := HLF.out
      obtain ⟨l9, hl9⟩ : ∃ l9, l9 = l ++ [(⟨#[97, 115, 107, 115, 32]⟩ ++ b7 : ByteArray)] := ⟨_, rfl⟩
      rw [← hl9] at HBK HLE hform
      have hln9 : l9.length ≤ 2000 := by rw [hl9]; (try simp); omega
      clear hbk hl9
      obtain ⟨BB, hBB⟩ : ∃ BB, BB = w8.heap.size := ⟨_, rfl⟩
      have hwb9 : w.heap.size ≤ BB := hBB ▸ (HBE.out w8 HB8.out).size
      have hbb9 : BB ≤ w8.heap.size := by omega
      have HB9 : Hid (Below w.heap.size w w8) := HBE.out w8 HB8.out
      have HTT : Hid (TxS BB w8 w8 (.slice none 0 0) []) := TxS.nil (Below.refl _ _) hbb9
      obtain ⟨a9, hv9⟩ : ∃ a9 : Option Addr × Nat, v8 = .slice a9.1 l9.length a9.2 ∧ (l9 = [] ∨ a9.1 = some ⟨G, 0, none⟩) := by
       rcases hform with h9 | ⟨h9, h8⟩
       ·exact ⟨(some ⟨G, 0, none⟩, cap9), h9, .inr rfl⟩
       ·exact ⟨(none, 0), by rw [h9, h8]; rfl, .inl h8⟩
      obtain ⟨a9, c9⟩ := a9
      obtain ⟨hv9, ha9⟩ := hv9
      simp only at hv9 ha9
      subst hv9
      have HA9 : Hid (l9 = [] ∨ a9 = some ⟨G, 0, none⟩) := ha9
      clear hform ha9 hBB
      go_wp2
      go_loopw [8, 58] (fun s i wr => ∃ (k : Nat) (v : Value) (Y : List UInt8), k ≤ l9.length ∧ v = s ∧ i = .int .i64 k ∧ Hid (Y = endL (txts (l9.take k))) ∧ Hid (TxS BB w8 wr s Y) ∧ Hid (l9 = [] ∨ Bk wr G 9 cur)) (fun _ i _ => l9.length - (intOf i).toNat)
      case atStart => exact ⟨0, _, [], Nat.zero_le _, rfl, rfl, (rfl : ([] : List UInt8) = endL (txts (l9.take 0))), HTT.out, HBK.out.imp id (fun h9 => h9.1)⟩
      case round =>
       clear HTT
       obtain ⟨k, o9, Y, hk9, rfl, rfl, HY, HTr, HKr⟩ := hrel
       by_cases hlt : k < l9.length
       case pos =>
        have hkd9 : decide ((k : Int) < (l9.length : Int)) = true := by simpa using hlt
        have hne9 : ¬ l9 = [] := by intro e9; rw [e9] at hlt; simp at hlt
        obtain rfl := HA9.out.resolve_left hne9
        obtain ⟨y9, hy9⟩ : ∃ y9, l9[k]? = some y9 := ⟨l9[k], List.getElem?_eq_getElem hlt⟩
        have HBKr : Hid (Bk wr G 9 cur) := HKr.out.resolve_left hne9
        have f9 : wr.cell? ⟨G, k, none⟩ = some (.string y9) := HBKr.out.cell ((HBK.out.resolve_left hne9).2 k y9 hy9)
        have hol := one_len hy9
        have hyl := endL_len (l := l9) k
        rw [HLE.out] at hol hyl
        have hml : (histText z).length ≤ 2000000000 := HLEN.out
        have hYl : Y.length ≤ 2000000000 := by rw [HY.out]; omega
        have hn9 : ¬ 9223372036854775807 < y9.size + 1 := by omega
        have hol2 : y9.size ≤ 2000000000 := by omega
        have HSZ : Hid ((y9 ++ ⟨#[10]⟩ : ByteArray).size = y9.size + 1) := (by rw [ByteArray.size_append]; rfl : (y9 ++ ⟨#[10]⟩ : ByteArray).size = y9.size + 1)
        have HNX : Hid (endL (txts (l9.take (k + 1))) = endL (txts (l9.take k)) ++ (y9.data.toList ++ [10])) := endL_take hy9
        clear HKr hyl hy9 hml
        go_wp2_with (at_builtin; refine txl_text (B := BB) (w1 := w8) rfl _ _ rfl o9 Y rfl HTr.out (y9 ++ ⟨#[10]⟩) rfl (by rw [HSZ.out]; omega) ?_; intro v10 w10 ht10 hk10; have HT10 : Hid (TxS BB w8 w10 v10 (Y ++ (y9 ++ ⟨#[10]⟩ : ByteArray).data.toList)) := ht10; have HK10 : Hid (Bk w10 G 9 cur) := hk10.bk HBKr.out (Or.inl (by decide)); clear ht10 hk10)
        go_roundw
        case rel =>
         have HYN : Hid (Y ++ (y9 ++ ⟨#[10]⟩ : ByteArray).data.toList = endL (txts (l9.take (k + 1)))) := by
          show Y ++ (y9 ++ ⟨#[10]⟩ : ByteArray).data.toList = endL (txts (l9.take (k + 1)))
          rw [HNX.out, HY.out, bytes_append]
         first
          | exact ⟨k + 1, _, Y ++ (y9 ++ ⟨#[10]⟩ : ByteArray).data.toList, by omega, rfl, by go_num, HYN.out, HT10.out, .inr HK10.out⟩
          | exact ⟨_, _, _, ⟨k + 1, by omega, by go_num, _, HYN.out, HT10.out⟩, rfl, rfl, rfl⟩
        case measure => simp [intOf]; omega
       case neg =>
        obtain rfl : k = l9.length := by omega
        have hkd9 : decide ((l9.length : Int) < (l9.length : Int)) = false := by simp
        have HR9 : Hid (OwnB w.heap.size wr o9 (histR z) ∧ Below w.heap.size w wr) := by
         have e9 : Y = histR z := by rw [HY.out, List.take_of_length_le (Nat.le_refl _), HLE.out, HYES.out]
         exact ⟨e9 ▸ (OwnB.of_row HTr.out.row).mono hwb9, HB9.out.trans (HTr.out.below.mono hwb9)⟩
        go_wp2
        go_ret
        exact ⟨_, rfl, HR9.out.1, HR9.out.2⟩
     | true =>
      have hff : fullT z = [102, 117, 108, 108] ++ [10] := by unfold fullT; rw [if_pos hf]
      have HLF : Hid (endL (txts (l ++ [(⟨#[97, 115, 107, 115, 32]⟩ ++ b7 : ByteArray)] ++ [(⟨#[102, 117, 108, 108]⟩ : ByteArray)])) = histText z) := by
       show endL (txts (l ++ [(⟨#[97, 115, 107, 115, 32]⟩ ++ b7 : ByteArray)] ++ [(⟨#[102, 117, 108, 108]⟩ : ByteArray)])) = histText z
       rw [txts_append, endL_append, HZ8.out, histText, hff]
       simp [endL, txts]
      clear hff
      rw [hf] at p3
      go_upto_region 18 with (at_builtin; refine srl_own (B := B) rfl _ _ rfl v8 (l ++ [(⟨#[97, 115, 107, 115, 32]⟩ ++ b7 : ByteArray)]) rfl (HR8.out.alloc _) [(⟨#[102, 117, 108, 108]⟩ : ByteArray)] w8.heap.size 1 rfl (Srt.new w8 _ _ rfl) (by simp; omega) (by simp; omega) ?_; intro v20 w20 hr20 hb20 hk20; have HR20 : Hid (SrS B w20 v20 ((l ++ [(⟨#[97, 115, 107, 115, 32]⟩ ++ b7 : ByteArray)]) ++ [(⟨#[102, 117, 108, 108]⟩ : ByteArray)])) := hr20; have HB20 : Hid (Below B w1 w20) := (HBXw8.out.alloc hsw8 _).trans hb20; clear hr20 hb20 hk20)
      obtain ⟨G, cur, cap9, hform, hbk⟩ := HR20.out.bk
      have HBK : Hid ((l ++ [(⟨#[97, 115, 107, 115, 32]⟩ ++ b7 : ByteArray)] ++ [(⟨#[102, 117, 108, 108]⟩ : ByteArray)]) = [] ∨ (Bk w20 G 9 cur ∧ ∀ (j : Nat) y, ((l ++ [(⟨#[97, 115, 107, 115, 32]⟩ ++ b7 : ByteArray)] ++ [(⟨#[102, 117, 108, 108]⟩ : ByteArray)]))[j]? = some y → cur[j]? = some (.string y))) := hbk
      have HLE : Hid (endL (txts ((l ++ [(⟨#[97, 115, 107, 115, 32]⟩ ++ b7 : ByteArray)] ++ [(⟨#[102, 117, 108, 108]⟩ : ByteArray)]))) = histText z) := HLF.out
      obtain ⟨l9, hl9⟩ : ∃ l9, l9 = (l ++ [(⟨#[97, 115, 107, 115, 32]⟩ ++ b7 : ByteArray)] ++ [(⟨#[102, 117, 108, 108]⟩ : ByteArray)]) := ⟨_, rfl⟩
      rw [← hl9] at HBK HLE hform
      have hln9 : l9.length ≤ 2000 := by rw [hl9]; (try simp); omega
      clear hbk hl9
      obtain ⟨BB, hBB⟩ : ∃ BB, BB = w20.heap.size := ⟨_, rfl⟩
      have hwb9 : w.heap.size ≤ BB := hBB ▸ (HBE.out w20 HB20.out).size
      have hbb9 : BB ≤ w20.heap.size := by omega
      have HB9 : Hid (Below w.heap.size w w20) := HBE.out w20 HB20.out
      have HTT : Hid (TxS BB w20 w20 (.slice none 0 0) []) := TxS.nil (Below.refl _ _) hbb9
      obtain ⟨a9, hv9⟩ : ∃ a9 : Option Addr × Nat, v20 = .slice a9.1 l9.length a9.2 ∧ (l9 = [] ∨ a9.1 = some ⟨G, 0, none⟩) := by
       rcases hform with h9 | ⟨h9, h8⟩
       ·exact ⟨(some ⟨G, 0, none⟩, cap9), h9, .inr rfl⟩
       ·exact ⟨(none, 0), by rw [h9, h8]; rfl, .inl h8⟩
      obtain ⟨a9, c9⟩ := a9
      obtain ⟨hv9, ha9⟩ := hv9
      simp only at hv9 ha9
      subst hv9
      have HA9 : Hid (l9 = [] ∨ a9 = some ⟨G, 0, none⟩) := ha9
      clear hform ha9 hBB
      go_wp2
      go_loopw [8, 58] (fun s i wr => ∃ (k : Nat) (v : Value) (Y : List UInt8), k ≤ l9.length ∧ v = s ∧ i = .int .i64 k ∧ Hid (Y = endL (txts (l9.take k))) ∧ Hid (TxS BB w20 wr s Y) ∧ Hid (l9 = [] ∨ Bk wr G 9 cur)) (fun _ i _ => l9.length - (intOf i).toNat)
      case atStart => exact ⟨0, _, [], Nat.zero_le _, rfl, rfl, (rfl : ([] : List UInt8) = endL (txts (l9.take 0))), HTT.out, HBK.out.imp id (fun h9 => h9.1)⟩
      case round =>
       clear HTT
       obtain ⟨k, o9, Y, hk9, rfl, rfl, HY, HTr, HKr⟩ := hrel
       by_cases hlt : k < l9.length
       case pos =>
        have hkd9 : decide ((k : Int) < (l9.length : Int)) = true := by simpa using hlt
        have hne9 : ¬ l9 = [] := by intro e9; rw [e9] at hlt; simp at hlt
        obtain rfl := HA9.out.resolve_left hne9
        obtain ⟨y9, hy9⟩ : ∃ y9, l9[k]? = some y9 := ⟨l9[k], List.getElem?_eq_getElem hlt⟩
        have HBKr : Hid (Bk wr G 9 cur) := HKr.out.resolve_left hne9
        have f9 : wr.cell? ⟨G, k, none⟩ = some (.string y9) := HBKr.out.cell ((HBK.out.resolve_left hne9).2 k y9 hy9)
        have hol := one_len hy9
        have hyl := endL_len (l := l9) k
        rw [HLE.out] at hol hyl
        have hml : (histText z).length ≤ 2000000000 := HLEN.out
        have hYl : Y.length ≤ 2000000000 := by rw [HY.out]; omega
        have hn9 : ¬ 9223372036854775807 < y9.size + 1 := by omega
        have hol2 : y9.size ≤ 2000000000 := by omega
        have HSZ : Hid ((y9 ++ ⟨#[10]⟩ : ByteArray).size = y9.size + 1) := (by rw [ByteArray.size_append]; rfl : (y9 ++ ⟨#[10]⟩ : ByteArray).size = y9.size + 1)
        have HNX : Hid (endL (txts (l9.take (k + 1))) = endL (txts (l9.take k)) ++ (y9.data.toList ++ [10])) := endL_take hy9
        clear HKr hyl hy9 hml
        go_wp2_with (at_builtin; refine txl_text (B := BB) (w1 := w20) rfl _ _ rfl o9 Y rfl HTr.out (y9 ++ ⟨#[10]⟩) rfl (by rw [HSZ.out]; omega) ?_; intro v10 w10 ht10 hk10; have HT10 : Hid (TxS BB w20 w10 v10 (Y ++ (y9 ++ ⟨#[10]⟩ : ByteArray).data.toList)) := ht10; have HK10 : Hid (Bk w10 G 9 cur) := hk10.bk HBKr.out (Or.inl (by decide)); clear ht10 hk10)
        go_roundw
        case rel =>
         have HYN : Hid (Y ++ (y9 ++ ⟨#[10]⟩ : ByteArray).data.toList = endL (txts (l9.take (k + 1)))) := by
          show Y ++ (y9 ++ ⟨#[10]⟩ : ByteArray).data.toList = endL (txts (l9.take (k + 1)))
          rw [HNX.out, HY.out, bytes_append]
         first
          | exact ⟨k + 1, _, Y ++ (y9 ++ ⟨#[10]⟩ : ByteArray).data.toList, by omega, rfl, by go_num, HYN.out, HT10.out, .inr HK10.out⟩
          | exact ⟨_, _, _, ⟨k + 1, by omega, by go_num, _, HYN.out, HT10.out⟩, rfl, rfl, rfl⟩
        case measure => simp [intOf]; omega
       case neg =>
        obtain rfl : k = l9.length := by omega
        have hkd9 : decide ((l9.length : Int) < (l9.length : Int)) = false := by simp
        have HR9 : Hid (OwnB w.heap.size wr o9 (histR z) ∧ Below w.heap.size w wr) := by
         have e9 : Y = histR z := by rw [HY.out, List.take_of_length_le (Nat.le_refl _), HLE.out, HYES.out]
         exact ⟨e9 ▸ (OwnB.of_row HTr.out.row).mono hwb9, HB9.out.trans (HTr.out.below.mono hwb9)⟩
        go_wp2
        go_ret
        exact ⟨_, rfl, HR9.out.1, HR9.out.2⟩
end Go.Proofs.YtbljfphdghfkfaaGreatDoor
