/- HPt, HSe -/
import Derived.Test.YtbcdfacbhemijaaDoorExactHistoryTextCardG16
import Derived.Test.YtbcdfacbhemijaaDoorExactHistoryTextCardG17
/- The text of a history, in plain words. -/
namespace Go.Proofs.YtbcdfacbhemijaaDoor
open Go.RowKit
def emB (e : Em) : Bool := decide (0 ≤ e.t ∧ 0 ≤ e.l ∧ 0 ≤ e.v)
def emLine (t l v : Int) : List UInt8 := [101, 109, 105, 116, 32] ++ dec t ++ ([32] ++ dec l) ++ ([32] ++ dec v)
def emsText (l : List Em) : Nat → List UInt8
  | 0 => []
  | k + 1 => emsText l k ++ (emLine (xAt l k).t (xAt l k).l (xAt l k).v ++ [10])
def Hy.hd (h : Hy) : Prop := h.e.length ≤ 150 ∧ h.x.length ≤ 1200 ∧ -1 ≤ h.a ∧ h.a ≤ 3
def Hy.ok (h : Hy) : Prop := h.hd ∧ (∀ i, i < h.e.length → (evAt h.e i).ok = true) ∧ (∀ i, i < h.x.length → emB (xAt h.x i) = true)
def asksT (h : Hy) : List UInt8 := if 0 ≤ h.a then [97, 115, 107, 115, 32] ++ dec h.a ++ [10] else []
def fullT (h : Hy) : List UInt8 := if h.f = true then [102, 117, 108, 108] ++ [10] else []
def histText (h : Hy) : List UInt8 := linesText h.e h.e.length ++ emsText h.x h.x.length ++ asksT h ++ fullT h
open Classical in
noncomputable def histR (h : Hy) : List UInt8 := if h.ok then histText h else []
theorem histR_no {h : Hy} (hn : ¬ h.ok) : histR h = [] := if_neg hn
theorem histR_yes {h : Hy} (hn : h.ok) : histR h = histText h := if_pos hn
theorem em_len {e : Em} (h : EmIn e) : (emLine e.t e.l e.v).length ≤ 70 := by
  have e1 := dec_len20 e.t h.1.2
  have e2 := dec_len20 e.l h.2.1.2
  have e3 := dec_len20 e.v h.2.2.2
  unfold emLine
  simp only [List.length_append, List.length_cons, List.length_nil]
  omega
theorem ems_len {h : Hy} (hi : h.inR) : ∀ k, k ≤ h.x.length → (emsText h.x k).length ≤ k * 71
  | 0, _ => by simp [emsText]
  | k + 1, hk => by
    have h1 := ems_len hi k (by omega)
    have h2 := em_len (hi k (by omega))
    show (emsText h.x k ++ (emLine (xAt h.x k).t (xAt h.x k).l (xAt h.x k).v ++ [10])).length ≤ _
    simp only [List.length_append, List.length_cons, List.length_nil]
    omega
theorem evl_len {h : Hy} (ho : ∀ i, i < h.e.length → (evAt h.e i).ok = true) : ∀ k, k ≤ h.e.length → (linesText h.e k).length ≤ k * 11000000
  | 0, _ => by simp [linesText]
  | k + 1, hk => by
    have h1 := evl_len ho k (by omega)
    have h9 : okB (evAt h.e k).t (evAt h.e k).s (evAt h.e k).q (evAt h.e k).d (evAt h.e k).k (evAt h.e k).v (evAt h.e k).g = true := ho k (by omega)
    have h2 := of_decide_eq_true h9
    have h3 := evText_len (evAt h.e k).t (evAt h.e k).s (evAt h.e k).q (evAt h.e k).d (evAt h.e k).k (evAt h.e k).v (by omega) (by omega) (by omega) (by omega) (by omega) (by omega)
    show (linesText h.e k ++ lineText (evAt h.e k)).length ≤ _
    unfold lineText
    simp only [List.length_append, List.length_cons, List.length_nil]
    omega
theorem asks_len (h : Hy) (ha : h.a ≤ 3) : (asksT h).length ≤ 30 := by
  have e1 := dec_len20 h.a (by omega)
  unfold asksT
  split
  · simp only [List.length_append, List.length_cons, List.length_nil]; omega
  · simp
theorem full_len (h : Hy) : (fullT h).length ≤ 5 := by
  unfold fullT
  split <;> simp
theorem hist_len {h : Hy} (ho : h.ok) (hi : h.inR) : (histText h).length ≤ 2000000000 := by
  have h1 := ems_len hi _ (Nat.le_refl _)
  have h2 := evl_len ho.2.1 _ (Nat.le_refl _)
  have h3 := asks_len h ho.1.2.2.2
  have h4 := full_len h
  have h5 := ho.1
  unfold Hy.hd at h5
  unfold histText
  simp only [List.length_append]
  omega
end Go.Proofs.YtbcdfacbhemijaaDoor

/- The specification's line of what was told. -/
namespace Go.Proofs.YtbcdfacbhemijaaDoor
open Go.RowKit
set_option maxRecDepth 100000 in
set_option maxHeartbeats 16000000 in
theorem emit_tx {B : Nat} {w1 : World} (t l v : Int) (h0 : 0 ≤ t) (h1 : t ≤ 9223372036854775807) (l0 : 0 ≤ l) (l1 : l ≤ 9223372036854775807) (v0 : 0 ≤ v) (v1 : v ≤ 9223372036854775807) (y : Value) (Y : List UInt8) (hl : Y.length ≤ 10000000000) (w : World) (hT : TxS B w1 w y Y) :
    Calls Tryd.prog 42 #[y, .agg #[.int .i64 t, .int .i64 l, .int .i64 v]] w fun e w' => ∃ y', e = .returned y' ∧ TxS B w1 w' y' (Y ++ (emLine t l v ++ [10])) := by
  have e1 := dec_len20 t h1
  have e2 := dec_len20 l l1
  have e3 := dec_len20 v v1
  obtain ⟨QB, hQB⟩ : ∃ QB, QB = w.heap.size := ⟨_, rfl⟩
  obtain ⟨V, hV⟩ : ∃ V, w.alloc (.cells #[.int .i64 t, .int .i64 l, .int .i64 v] 78) = V := ⟨_, rfl⟩
  have HTV : Hid (TxS B w1 V y Y) := hV ▸ hT.alloc _
  have HQV : Hid (Bk V QB 78 #[.int .i64 t, .int .i64 l, .int .i64 v]) := hV ▸ Bk.newAt hQB _ _
  have hQB' := hQB.symm
  clear hQB hT
  have c0 : V.cell? ⟨QB, 0, none⟩ = some (.int .i64 t) := HQV.out.cell rfl
  go_enter Tryd.func42, Tryd.ntmps42
  go_upto_region 1 with (fail)
  clear hV hQB'
  go_region_held3 (fun W => W.cell? ⟨QB, 0, none⟩ = some (.int .i64 t)) (first | assumption | exact Bk.cell (i := 0) (vs := #[.int .i64 t, .int .i64 l, .int .i64 v]) (T := 78) (P := QB) (by (repeat (first | assumption | (with_reducible refine Hid.out (p := Bk _ _ _ _) ?_; assumption) | exact Bk.new _ _ _ | exact Bk.newAt (by simp) _ _ | with_reducible refine Bk.drew ?_ | with_reducible refine Bk.alloc ?_ _ | refine Kp.bk (Hid.out (by assumption)) ?_ (by first | exact Or.inl (by decide) | (refine Or.inr ?_; simp; omega) | (refine Or.inr ?_; simp; done))))) rfl | (go_keep; done))
    (first
      | (go_at_call 24; refine (digits_tx9 (B := B) (w1 := w1) t h0 h1 y2 (Y ++ [101, 109, 105, 116, 32]) _ (by (repeat (first | assumption | (with_reducible refine Hid.out (p := TxS _ _ _ _ _) ?_; assumption) | with_reducible refine TxS.drew ?_ | with_reducible refine TxS.alloc ?_ _)))).mono ?_; rintro r w3 ⟨X1b, c1b, rfl, HS1b, HT1b, HK1b⟩)
      | (refine tx_own (B := B) (w1 := w1) rfl (.tmp 6) (.tmp 9) rfl y2 (Y ++ [101, 109, 105, 116, 32]) rfl (by (repeat (first | assumption | (with_reducible refine Hid.out (p := TxS _ _ _ _ _) ?_; assumption) | with_reducible refine TxS.drew ?_ | with_reducible refine TxS.alloc ?_ _))) (dec t) X1b c1b rfl (by (repeat (first | assumption | with_reducible refine Src.alloc ?_ _))) (by (repeat rw [List.length_append]); (try simp only [List.length_cons, List.length_nil]); omega) ?_; intro y4 w4 ht1c hk1c; have HT1c : Hid (TxS B w1 w4 y4 ((Y ++ [101, 109, 105, 116, 32]) ++ (dec t))) := ht1c; have HK1c : Hid (Kp _ _ w4) := hk1c; clear ht1c hk1c)
      | (refine tx_text (B := B) (w1 := w1) rfl (.tmp 5) (.const (.string ⟨#[101, 109, 105, 116, 32]⟩)) rfl y Y rfl (by (repeat (first | assumption | (with_reducible refine Hid.out (p := TxS _ _ _ _ _) ?_; assumption) | with_reducible refine TxS.drew ?_ | with_reducible refine TxS.alloc ?_ _))) ⟨#[101, 109, 105, 116, 32]⟩ rfl (by show _ + 5 ≤ _; (try simp only [List.length_append, List.length_cons, List.length_nil]); omega) ?_; intro y2 w2 ht1a hk1a; have HT1a : Hid (TxS B w1 w2 y2 (Y ++ [101, 109, 105, 116, 32])) := ht1a; have HK1a : Hid (Kp _ _ w2) := hk1a; clear ht1a hk1a))
  have HQ4 : Hid (Bk w4 QB 78 #[.int .i64 t, .int .i64 l, .int .i64 v]) := (by (repeat (first | assumption | (with_reducible refine Hid.out (p := Bk _ _ _ _) ?_; assumption) | exact Bk.new _ _ _ | exact Bk.newAt (by simp) _ _ | with_reducible refine Bk.drew ?_ | with_reducible refine Bk.alloc ?_ _ | refine Kp.bk (Hid.out (by assumption)) ?_ (by first | exact Or.inl (by decide) | (refine Or.inr ?_; simp; omega) | (refine Or.inr ?_; simp; done)))) : Bk w4 QB 78 #[.int .i64 t, .int .i64 l, .int .i64 v])
  clear c0 HK1a HK1b HK1c HT1a HT1b HS1b HTV HQV
  obtain ⟨Y4, hY4⟩ : ∃ X, X = ((Y ++ [101, 109, 105, 116, 32]) ++ (dec t)) := ⟨_, rfl⟩
  rw [← hY4] at HT1c
  have hl4 : 5 ≤ Y4.length ∧ Y4.length ≤ Y.length + 30 := by rw [hY4]; simp only [List.length_append, List.length_cons, List.length_nil]; omega
  have HY4 : Hid (Y4 = ((Y ++ [101, 109, 105, 116, 32]) ++ (dec t))) := hY4
  clear hY4
  have c1 : w4.cell? ⟨QB, 1, none⟩ = some (.int .i64 l) := HQ4.out.cell rfl
  go_wp2_with fail
  go_region_held3 (fun W => W.cell? ⟨QB, 1, none⟩ = some (.int .i64 l)) (first | assumption | exact Bk.cell (i := 1) (vs := #[.int .i64 t, .int .i64 l, .int .i64 v]) (T := 78) (P := QB) (by (repeat (first | assumption | (with_reducible refine Hid.out (p := Bk _ _ _ _) ?_; assumption) | exact Bk.new _ _ _ | exact Bk.newAt (by simp) _ _ | with_reducible refine Bk.drew ?_ | with_reducible refine Bk.alloc ?_ _ | refine Kp.bk (Hid.out (by assumption)) ?_ (by first | exact Or.inl (by decide) | (refine Or.inr ?_; simp; omega) | (refine Or.inr ?_; simp; done))))) rfl | (go_keep; done))
    (first
      | (go_at_call 24; refine (digits_tx9 (B := B) (w1 := w1) l l0 l1 y5 (Y4 ++ [32]) _ (by (repeat (first | assumption | (with_reducible refine Hid.out (p := TxS _ _ _ _ _) ?_; assumption) | with_reducible refine TxS.drew ?_ | with_reducible refine TxS.alloc ?_ _)))).mono ?_; rintro r w6 ⟨X2b, c2b, rfl, HS2b, HT2b, HK2b⟩)
      | (refine tx_own (B := B) (w1 := w1) rfl (.tmp 13) (.tmp 16) rfl y5 (Y4 ++ [32]) rfl (by (repeat (first | assumption | (with_reducible refine Hid.out (p := TxS _ _ _ _ _) ?_; assumption) | with_reducible refine TxS.drew ?_ | with_reducible refine TxS.alloc ?_ _))) (dec l) X2b c2b rfl (by (repeat (first | assumption | with_reducible refine Src.alloc ?_ _))) (by (repeat rw [List.length_append]); (try simp only [List.length_cons, List.length_nil]); omega) ?_; intro y7 w7 ht2c hk2c; have HT2c : Hid (TxS B w1 w7 y7 ((Y4 ++ [32]) ++ (dec l))) := ht2c; have HK2c : Hid (Kp _ _ w7) := hk2c; clear ht2c hk2c)
      | (refine tx_own (B := B) (w1 := w1) rfl (.tmp 11) (.tmp 12) rfl y4 Y4 rfl (by (repeat (first | assumption | (with_reducible refine Hid.out (p := TxS _ _ _ _ _) ?_; assumption) | with_reducible refine TxS.drew ?_ | with_reducible refine TxS.alloc ?_ _))) [32] _ 1 rfl (Src.one rfl (by (repeat (first | assumption | (with_reducible refine Hid.out (p := Bk _ _ _ _) ?_; assumption) | exact Bk.new _ _ _ | exact Bk.newAt (by simp) _ _ | with_reducible refine Bk.drew ?_ | with_reducible refine Bk.alloc ?_ _ | refine Kp.bk (Hid.out (by assumption)) ?_ (by first | exact Or.inl (by decide) | (refine Or.inr ?_; simp; omega) | (refine Or.inr ?_; simp; done)))))) (by (repeat rw [List.length_append]); (try simp only [List.length_cons, List.length_nil]); omega) ?_; intro y5 w5 ht2a hk2a; have HT2a : Hid (TxS B w1 w5 y5 (Y4 ++ [32])) := ht2a; have HK2a : Hid (Kp _ _ w5) := hk2a; clear ht2a hk2a))
  have HQ7 : Hid (Bk w7 QB 78 #[.int .i64 t, .int .i64 l, .int .i64 v]) := (by (repeat (first | assumption | (with_reducible refine Hid.out (p := Bk _ _ _ _) ?_; assumption) | exact Bk.new _ _ _ | exact Bk.newAt (by simp) _ _ | with_reducible refine Bk.drew ?_ | with_reducible refine Bk.alloc ?_ _ | refine Kp.bk (Hid.out (by assumption)) ?_ (by first | exact Or.inl (by decide) | (refine Or.inr ?_; simp; omega) | (refine Or.inr ?_; simp; done)))) : Bk w7 QB 78 #[.int .i64 t, .int .i64 l, .int .i64 v])
  clear c1 HK2a HK2b HK2c HT2a HT2b HS2b HQ4 HT1c
  obtain ⟨Y7, hY7⟩ : ∃ X, X = ((Y4 ++ [32]) ++ (dec l)) := ⟨_, rfl⟩
  rw [← hY7] at HT2c
  have hl7 : 5 ≤ Y7.length ∧ Y7.length ≤ Y.length + 60 := by rw [hY7]; simp only [List.length_append, List.length_cons, List.length_nil]; omega
  have HY7 : Hid (Y7 = ((Y4 ++ [32]) ++ (dec l))) := hY7
  clear hY7
  have c2 : w7.cell? ⟨QB, 2, none⟩ = some (.int .i64 v) := HQ7.out.cell rfl
  go_wp2_with fail
  have HYE : Hid ((((Y7 ++ [32]) ++ (dec v)) ++ [10]) = Y ++ (emLine t l v ++ [10])) := by
    show (((Y7 ++ [32]) ++ (dec v)) ++ [10]) = Y ++ (emLine t l v ++ [10])
    rw [HY7.out, HY4.out]
    simp [emLine]
  go_region_held3 (fun W => W.cell? ⟨QB, 2, none⟩ = some (.int .i64 v)) (first | assumption | exact Bk.cell (i := 2) (vs := #[.int .i64 t, .int .i64 l, .int .i64 v]) (T := 78) (P := QB) (by (repeat (first | assumption | (with_reducible refine Hid.out (p := Bk _ _ _ _) ?_; assumption) | exact Bk.new _ _ _ | exact Bk.newAt (by simp) _ _ | with_reducible refine Bk.drew ?_ | with_reducible refine Bk.alloc ?_ _ | refine Kp.bk (Hid.out (by assumption)) ?_ (by first | exact Or.inl (by decide) | (refine Or.inr ?_; simp; omega) | (refine Or.inr ?_; simp; done))))) rfl | (go_keep; done))
    (first
      | (go_at_call 24; refine (digits_tx9 (B := B) (w1 := w1) v v0 v1 y8 (Y7 ++ [32]) _ (by (repeat (first | assumption | (with_reducible refine Hid.out (p := TxS _ _ _ _ _) ?_; assumption) | with_reducible refine TxS.drew ?_ | with_reducible refine TxS.alloc ?_ _)))).mono ?_; rintro r w9 ⟨X3b, c3b, rfl, HS3b, HT3b, HK3b⟩)
      | (refine tx_own (B := B) (w1 := w1) rfl (.tmp 24) (.tmp 25) rfl y10 ((Y7 ++ [32]) ++ (dec v)) rfl (by (repeat (first | assumption | (with_reducible refine Hid.out (p := TxS _ _ _ _ _) ?_; assumption) | with_reducible refine TxS.drew ?_ | with_reducible refine TxS.alloc ?_ _))) [10] _ 1 rfl (Src.one rfl (by (repeat (first | assumption | (with_reducible refine Hid.out (p := Bk _ _ _ _) ?_; assumption) | exact Bk.new _ _ _ | exact Bk.newAt (by simp) _ _ | with_reducible refine Bk.drew ?_ | with_reducible refine Bk.alloc ?_ _ | refine Kp.bk (Hid.out (by assumption)) ?_ (by first | exact Or.inl (by decide) | (refine Or.inr ?_; simp; omega) | (refine Or.inr ?_; simp; done)))))) (by (repeat rw [List.length_append]); (try simp only [List.length_cons, List.length_nil]); omega) ?_; intro y11 w11 ht3d hk3d; have HT3d : Hid (TxS B w1 w11 y11 (((Y7 ++ [32]) ++ (dec v)) ++ [10])) := ht3d; have HK3d : Hid (Kp _ _ w11) := hk3d; clear ht3d hk3d)
      | (refine tx_own (B := B) (w1 := w1) rfl (.tmp 20) (.tmp 23) rfl y8 (Y7 ++ [32]) rfl (by (repeat (first | assumption | (with_reducible refine Hid.out (p := TxS _ _ _ _ _) ?_; assumption) | with_reducible refine TxS.drew ?_ | with_reducible refine TxS.alloc ?_ _))) (dec v) X3b c3b rfl (by (repeat (first | assumption | with_reducible refine Src.alloc ?_ _))) (by (repeat rw [List.length_append]); (try simp only [List.length_cons, List.length_nil]); omega) ?_; intro y10 w10 ht3c hk3c; have HT3c : Hid (TxS B w1 w10 y10 ((Y7 ++ [32]) ++ (dec v))) := ht3c; have HK3c : Hid (Kp _ _ w10) := hk3c; clear ht3c hk3c)
      | (refine tx_own (B := B) (w1 := w1) rfl (.tmp 18) (.tmp 19) rfl y7 Y7 rfl (by (repeat (first | assumption | (with_reducible refine Hid.out (p := TxS _ _ _ _ _) ?_; assumption) | with_reducible refine TxS.drew ?_ | with_reducible refine TxS.alloc ?_ _))) [32] _ 1 rfl (Src.one rfl (by (repeat (first | assumption | (with_reducible refine Hid.out (p := Bk _ _ _ _) ?_; assumption) | exact Bk.new _ _ _ | exact Bk.newAt (by simp) _ _ | with_reducible refine Bk.drew ?_ | with_reducible refine Bk.alloc ?_ _ | refine Kp.bk (Hid.out (by assumption)) ?_ (by first | exact Or.inl (by decide) | (refine Or.inr ?_; simp; omega) | (refine Or.inr ?_; simp; done)))))) (by (repeat rw [List.length_append]); (try simp only [List.length_cons, List.length_nil]); omega) ?_; intro y8 w8 ht3a hk3a; have HT3a : Hid (TxS B w1 w8 y8 (Y7 ++ [32])) := ht3a; have HK3a : Hid (Kp _ _ w8) := hk3a; clear ht3a hk3a))
  all_goals
    go_wp2
    go_ret
    exact ⟨_, rfl, HYE.out ▸ HT3d.out⟩
end Go.Proofs.YtbcdfacbhemijaaDoor

