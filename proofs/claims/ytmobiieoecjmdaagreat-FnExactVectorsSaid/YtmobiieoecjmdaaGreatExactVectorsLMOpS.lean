/- The specification's OpOk. -/
import Derived.Test.YtmobiieoecjmdaaGreatExactVectorsG01
namespace Go.Proofs.YtmobiieoecjmdaaGreat
set_option maxHeartbeats 4000000
open Go.RowKit
theorem ydm (x:Int) (w:World):Calls Tryz.prog 178 #[.int .i64 x] w fun e w'=>e= .returned (.bool (decide (0≤x)&&decide (x<2)))∧w'=w:=by
 go_enter Tryz.func178,Tryz.ntmps178
 go_wp2
 all_goals
  go_ret
  first|exact⟨yb8 (by simp_all),rfl⟩|exact⟨ya1 (by simp;omega),rfl⟩
theorem sOp_any (n s z:Int) (vi vs:Value) (ah:Option Addr) (len cap:Nat) (c a b k:Int) (w:World):
  Calls Tryz.prog 135 #[.agg #[.int .i64 n,.int .i64 s,vi,.slice ah len cap,vs,.int .i64 z],.agg #[.int .i64 c,.int .i64 a,.int .i64 b,.int .i64 k]] w fun e w'=>
   e= .returned (.bool (okO n len c a b k))∧Below w.heap.size w w':=by
 have hc:c=0∨c=1∨c=2∨c=3∨c=4∨c=5∨c=6∨(¬c=0∧ ¬c=1∧ ¬c=2∧ ¬c=3∧ ¬c=4∧ ¬c=5∧ ¬c=6):=by omega
 rcases hc with rfl|rfl|rfl|rfl|rfl|rfl|rfl|⟨c0,c1,c2,c3,c4,c5,c6⟩
 ·go_enter Tryz.func135,Tryz.ntmps135
  go_wp2_with (go_at_call 178;refine(ydm _ _).mono ?_;rintro e w2 ⟨rfl,hw⟩;have hw':=hw.symm;clear hw;subst hw')
  all_goals
   go_ret
   refine⟨?_,((Below.refl _ _).alloc (Nat.le_refl _) _).alloc (by simp) _⟩
   first|exact yb8 (by simp [okO];omega)|exact ya1 (by simp [okO];omega)|exact ya1 (by simp [okO])
 ·go_enter Tryz.func135,Tryz.ntmps135
  go_wp2_with (go_at_call 178;refine(ydm _ _).mono ?_;rintro e w2 ⟨rfl,hw⟩;have hw':=hw.symm;clear hw;subst hw')
  all_goals
   go_ret
   refine⟨?_,((Below.refl _ _).alloc (Nat.le_refl _) _).alloc (by simp) _⟩
   first|exact yb8 (by simp [okO];omega)|exact ya1 (by simp [okO];omega)|exact ya1 (by simp [okO])
 ·go_enter Tryz.func135,Tryz.ntmps135
  go_wp2_with (go_at_call 178;refine(ydm _ _).mono ?_;rintro e w2 ⟨rfl,hw⟩;have hw':=hw.symm;clear hw;subst hw')
  all_goals
   go_ret
   refine⟨?_,((Below.refl _ _).alloc (Nat.le_refl _) _).alloc (by simp) _⟩
   first|exact yb8 (by simp [okO];omega)|exact ya1 (by simp [okO];omega)|exact ya1 (by simp [okO])
 ·go_enter Tryz.func135,Tryz.ntmps135
  go_wp2_with (go_at_call 178;refine(ydm _ _).mono ?_;rintro e w2 ⟨rfl,hw⟩;have hw':=hw.symm;clear hw;subst hw')
  all_goals
   go_ret
   refine⟨?_,((Below.refl _ _).alloc (Nat.le_refl _) _).alloc (by simp) _⟩
   first|exact yb8 (by simp [okO];omega)|exact ya1 (by simp [okO];omega)|exact ya1 (by simp [okO])
 ·go_enter Tryz.func135,Tryz.ntmps135
  go_wp2_with (go_at_call 178;refine(ydm _ _).mono ?_;rintro e w2 ⟨rfl,hw⟩;have hw':=hw.symm;clear hw;subst hw')
  all_goals
   go_ret
   refine⟨?_,((Below.refl _ _).alloc (Nat.le_refl _) _).alloc (by simp) _⟩
   first|exact yb8 (by simp [okO];omega)|exact ya1 (by simp [okO];omega)|exact ya1 (by simp [okO])
 ·go_enter Tryz.func135,Tryz.ntmps135
  go_wp2_with (go_at_call 178;refine(ydm _ _).mono ?_;rintro e w2 ⟨rfl,hw⟩;have hw':=hw.symm;clear hw;subst hw')
  all_goals
   go_ret
   refine⟨?_,((Below.refl _ _).alloc (Nat.le_refl _) _).alloc (by simp) _⟩
   first|exact yb8 (by simp [okO];omega)|exact ya1 (by simp [okO];omega)|exact ya1 (by simp [okO])
 ·go_enter Tryz.func135,Tryz.ntmps135
  go_wp2_with (go_at_call 178;refine(ydm _ _).mono ?_;rintro e w2 ⟨rfl,hw⟩;have hw':=hw.symm;clear hw;subst hw')
  all_goals
   go_ret
   refine⟨?_,((Below.refl _ _).alloc (Nat.le_refl _) _).alloc (by simp) _⟩
   first|exact yb8 (by simp [okO];omega)|exact ya1 (by simp [okO];omega)|exact ya1 (by simp [okO])
 ·go_enter Tryz.func135,Tryz.ntmps135
  go_wp2_with (go_at_call 178;refine(ydm _ _).mono ?_;rintro e w2 ⟨rfl,hw⟩;have hw':=hw.symm;clear hw;subst hw')
  all_goals
   go_ret
   refine⟨?_,((Below.refl _ _).alloc (Nat.le_refl _) _).alloc (by simp) _⟩
   first|exact yb8 (by simp [okO];omega)|exact ya1 (by simp [okO];omega)|exact ya1 (by simp [okO])
end Go.Proofs.YtmobiieoecjmdaaGreat
