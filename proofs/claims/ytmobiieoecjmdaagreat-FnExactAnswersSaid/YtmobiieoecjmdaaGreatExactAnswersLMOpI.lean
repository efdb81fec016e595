/- The program's OpOk: what an op is told as, and whether it fits. -/
import Derived.Test.YtmobiieoecjmdaaGreatExactAnswersG01
import Derived.Deep.QuietTactic
import Derived.BigQuiet
namespace Go.Proofs.YtmobiieoecjmdaaGreat
set_option maxHeartbeats 2000000
set_option maxRecDepth 100000
open Go.RowKit
abbrev vAdd (x y:Int):Value:= .iface 271 (.agg #[.int .i64 x,.int .i64 y])
abbrev vTake (x:Int):Value:= .iface 273 (.agg #[.int .i64 x])
abbrev ysr (x y t:Int):Value:= .iface 275 (.agg #[.int .i64 x,.int .i64 y,.int .i64 t])
abbrev yqq (x y t:Int):Value:= .iface 277 (.agg #[.int .i64 x,.int .i64 y,.int .i64 t])
abbrev vAsk (x y:Int):Value:= .iface 279 (.agg #[.int .i64 x,.int .i64 y])
abbrev yma (x:Int):Value:= .iface 280 (.agg #[.int .i64 x])
abbrev yl3 (x y:Int):Value:= .iface 282 (.agg #[.int .i64 x,.int .i64 y])
theorem ydu (x n:Int) (w:World):Calls Tryz.prog 83 #[.int .i64 x,.int .i64 n] w fun e w'=>e= .returned (.bool (decide (0≤x)&&decide (x<n)))∧w'=w:=by
 go_enter Tryz.func83,Tryz.ntmps83
 go_wp2
 all_goals
  go_ret
  first|exact⟨ybu (by simp_all),rfl⟩|exact⟨ya0 (by simp;omega),rfl⟩
theorem yef (x:Int) (w:World):Calls Tryz.prog 227 #[.int .i64 x] w fun e w'=>e= .returned (.bool (decide (0≤x)&&decide (x≤1)))∧w'=w:=by
 go_enter Tryz.func227,Tryz.ntmps227
 go_wp2_with fail
 refine(yad _ _ _ _).mono ?_
 rintro e w' ⟨rfl,hw⟩
 have hw':=hw.symm
 clear hw
 subst hw'
 go_wp2
 go_ret
 exact⟨rfl,rfl⟩
theorem yhc (a b k:Int) (w:World):Calls Tryz.prog 224 #[.agg #[.int .i64 0,.int .i64 a,.int .i64 b,.int .i64 k]] w fun e w'=>e= .returned (vAdd a b)∧Below w.heap.size w w':=by
 go_enter Tryz.func224,Tryz.ntmps224
 go_wp2
 go_ret
 exact⟨rfl,(Below.refl _ _).alloc (Nat.le_refl _) _⟩
theorem yfl (a b k:Int) (w:World):Calls Tryz.prog 224 #[.agg #[.int .i64 1,.int .i64 a,.int .i64 b,.int .i64 k]] w fun e w'=>e= .returned (vTake a)∧Below w.heap.size w w':=by
 go_enter Tryz.func224,Tryz.ntmps224
 go_wp2
 go_ret
 exact⟨rfl,(Below.refl _ _).alloc (Nat.le_refl _) _⟩
theorem yio (a b k:Int) (w:World):Calls Tryz.prog 224 #[.agg #[.int .i64 2,.int .i64 a,.int .i64 b,.int .i64 k]] w fun e w'=>e= .returned (ysr a b k)∧Below w.heap.size w w':=by
 go_enter Tryz.func224,Tryz.ntmps224
 go_wp2
 go_ret
 exact⟨rfl,(Below.refl _ _).alloc (Nat.le_refl _) _⟩
theorem yhy (a b k:Int) (w:World):Calls Tryz.prog 224 #[.agg #[.int .i64 3,.int .i64 a,.int .i64 b,.int .i64 k]] w fun e w'=>e= .returned (yqq a b k)∧Below w.heap.size w w':=by
 go_enter Tryz.func224,Tryz.ntmps224
 go_wp2
 go_ret
 exact⟨rfl,(Below.refl _ _).alloc (Nat.le_refl _) _⟩
theorem yhb (a b k:Int) (w:World):Calls Tryz.prog 224 #[.agg #[.int .i64 4,.int .i64 a,.int .i64 b,.int .i64 k]] w fun e w'=>e= .returned (vAsk a b)∧Below w.heap.size w w':=by
 go_enter Tryz.func224,Tryz.ntmps224
 go_wp2
 go_ret
 exact⟨rfl,(Below.refl _ _).alloc (Nat.le_refl _) _⟩
theorem ye7 (a b k:Int) (w:World):Calls Tryz.prog 224 #[.agg #[.int .i64 5,.int .i64 a,.int .i64 b,.int .i64 k]] w fun e w'=>e= .returned (yma a)∧Below w.heap.size w w':=by
 go_enter Tryz.func224,Tryz.ntmps224
 go_wp2
 go_ret
 exact⟨rfl,(Below.refl _ _).alloc (Nat.le_refl _) _⟩
theorem yga (a b k:Int) (w:World):Calls Tryz.prog 224 #[.agg #[.int .i64 6,.int .i64 a,.int .i64 b,.int .i64 k]] w fun e w'=>e= .returned (yl3 a b)∧Below w.heap.size w w':=by
 go_enter Tryz.func224,Tryz.ntmps224
 go_wp2
 go_ret
 exact⟨rfl,(Below.refl _ _).alloc (Nat.le_refl _) _⟩
theorem yvc (c a b k:Int) (w:World) (c0:¬c=0) (c1:¬c=1) (c2:¬c=2) (c3:¬c=3) (c4:¬c=4) (c5:¬c=5) (c6:¬c=6):Calls Tryz.prog 224 #[.agg #[.int .i64 c,.int .i64 a,.int .i64 b,.int .i64 k]] w fun e w'=>e= .returned .nilIface∧Below w.heap.size w w':=by
 go_enter Tryz.func224,Tryz.ntmps224
 go_wp2
 go_ret
 exact⟨rfl,(Below.refl _ _).alloc (Nat.le_refl _) _⟩
theorem yie (n s z:Int) (vi vs:Value) (ah:Option Addr) (len cap:Nat) (x y:Int) (w:World):Calls Tryz.prog 225 #[.agg #[.int .i64 n,.int .i64 s,vi,.slice ah len cap,vs,.int .i64 z],vAdd x y] w fun e w'=>e= .returned (.bool (decide (0≤x∧x≤1∧0≤y∧y≤999)))∧Below w.heap.size w w':=by
 have q0:∀W:World,(Instr.typeAssert (vAdd x y) 263 271 true).run Tryz.prog W= .ok (.tuple #[.agg #[.int .i64 x,.int .i64 y],.bool true]) W:=fun W=>by kernel_rfl
 go_enter Tryz.func225,Tryz.ntmps225
 go_wp2_with (first|(go_at_call 227;refine(yef _ _).mono ?_;rintro e w2 ⟨rfl,hw⟩;have hw':=hw.symm;clear hw;subst hw')|(go_at_call 112;refine(yad _ _ _ _).mono ?_;rintro e w2 ⟨rfl,hw⟩;have hw':=hw.symm;clear hw;subst hw')|(go_at_call 83;refine(ydu _ _ _).mono ?_;rintro e w2 ⟨rfl,hw⟩;have hw':=hw.symm;clear hw;subst hw'))
 all_goals
  go_ret
  refine⟨?_,by first|exact(Below.refl _ _).alloc (Nat.le_refl _) _|exact((Below.refl _ _).alloc (Nat.le_refl _) _).alloc (by simp) _⟩
  first|exact ya0 (by rw [Bool.eq_iff_iff];simp only [Bool.and_eq_true,decide_eq_true_eq];omega)|exact ya0 (by simp;omega)|exact ya0 (by simp)|exact ybu (by simp;omega)
theorem ygm (n s z:Int) (vi vs:Value) (ah:Option Addr) (len cap:Nat) (x:Int) (w:World):Calls Tryz.prog 225 #[.agg #[.int .i64 n,.int .i64 s,vi,.slice ah len cap,vs,.int .i64 z],vTake x] w fun e w'=>e= .returned (.bool (decide (0≤x∧x≤1)))∧Below w.heap.size w w':=by
 have q0:∀W:World,(Instr.typeAssert (vTake x) 263 271 true).run Tryz.prog W= .ok (.tuple #[.agg #[.int .i64 0,.int .i64 0],.bool false]) W:=fun W=>by kernel_rfl
 have q1:∀W:World,(Instr.typeAssert (vTake x) 263 273 true).run Tryz.prog W= .ok (.tuple #[.agg #[.int .i64 x],.bool true]) W:=fun W=>by kernel_rfl
 go_enter Tryz.func225,Tryz.ntmps225
 go_wp2_with (first|(go_at_call 227;refine(yef _ _).mono ?_;rintro e w2 ⟨rfl,hw⟩;have hw':=hw.symm;clear hw;subst hw')|(go_at_call 112;refine(yad _ _ _ _).mono ?_;rintro e w2 ⟨rfl,hw⟩;have hw':=hw.symm;clear hw;subst hw')|(go_at_call 83;refine(ydu _ _ _).mono ?_;rintro e w2 ⟨rfl,hw⟩;have hw':=hw.symm;clear hw;subst hw'))
 all_goals
  go_ret
  refine⟨?_,by first|exact(Below.refl _ _).alloc (Nat.le_refl _) _|exact((Below.refl _ _).alloc (Nat.le_refl _) _).alloc (by simp) _⟩
  first|exact ya0 (by rw [Bool.eq_iff_iff];simp only [Bool.and_eq_true,decide_eq_true_eq];omega)|exact ya0 (by simp;omega)|exact ya0 (by simp)|exact ybu (by simp;omega)
theorem yjx (n s z:Int) (vi vs:Value) (ah:Option Addr) (len cap:Nat) (x y t:Int) (w:World):Calls Tryz.prog 225 #[.agg #[.int .i64 n,.int .i64 s,vi,.slice ah len cap,vs,.int .i64 z],ysr x y t] w fun e w'=>e= .returned (.bool (decide (0≤x∧x<n∧1≤y∧y≤50∧0≤t∧t<(len:Int))))∧Below w.heap.size w w':=by
 have q0:∀W:World,(Instr.typeAssert (ysr x y t) 263 271 true).run Tryz.prog W= .ok (.tuple #[.agg #[.int .i64 0,.int .i64 0],.bool false]) W:=fun W=>by kernel_rfl
 have q1:∀W:World,(Instr.typeAssert (ysr x y t) 263 273 true).run Tryz.prog W= .ok (.tuple #[.agg #[.int .i64 0],.bool false]) W:=fun W=>by kernel_rfl
 have q2:∀W:World,(Instr.typeAssert (ysr x y t) 263 275 true).run Tryz.prog W= .ok (.tuple #[.agg #[.int .i64 x,.int .i64 y,.int .i64 t],.bool true]) W:=fun W=>by kernel_rfl
 go_enter Tryz.func225,Tryz.ntmps225
 go_wp2_with (first|(go_at_call 227;refine(yef _ _).mono ?_;rintro e w2 ⟨rfl,hw⟩;have hw':=hw.symm;clear hw;subst hw')|(go_at_call 112;refine(yad _ _ _ _).mono ?_;rintro e w2 ⟨rfl,hw⟩;have hw':=hw.symm;clear hw;subst hw')|(go_at_call 83;refine(ydu _ _ _).mono ?_;rintro e w2 ⟨rfl,hw⟩;have hw':=hw.symm;clear hw;subst hw'))
 all_goals
  go_ret
  refine⟨?_,by first|exact(Below.refl _ _).alloc (Nat.le_refl _) _|exact((Below.refl _ _).alloc (Nat.le_refl _) _).alloc (by simp) _⟩
  first|exact ya0 (by rw [Bool.eq_iff_iff];simp only [Bool.and_eq_true,decide_eq_true_eq];omega)|exact ya0 (by simp;omega)|exact ya0 (by simp)|exact ybu (by simp;omega)
theorem yil (n s z:Int) (vi vs:Value) (ah:Option Addr) (len cap:Nat) (x y t:Int) (w:World):Calls Tryz.prog 225 #[.agg #[.int .i64 n,.int .i64 s,vi,.slice ah len cap,vs,.int .i64 z],yqq x y t] w fun e w'=>e= .returned (.bool (decide (0≤x∧x≤1∧0≤y∧y≤999∧1≤t∧t≤8)))∧Below w.heap.size w w':=by
 have q0:∀W:World,(Instr.typeAssert (yqq x y t) 263 271 true).run Tryz.prog W= .ok (.tuple #[.agg #[.int .i64 0,.int .i64 0],.bool false]) W:=fun W=>by kernel_rfl
 have q1:∀W:World,(Instr.typeAssert (yqq x y t) 263 273 true).run Tryz.prog W= .ok (.tuple #[.agg #[.int .i64 0],.bool false]) W:=fun W=>by kernel_rfl
 have q2:∀W:World,(Instr.typeAssert (yqq x y t) 263 275 true).run Tryz.prog W= .ok (.tuple #[.agg #[.int .i64 0,.int .i64 0,.int .i64 0],.bool false]) W:=fun W=>by kernel_rfl
 have q3:∀W:World,(Instr.typeAssert (yqq x y t) 263 277 true).run Tryz.prog W= .ok (.tuple #[.agg #[.int .i64 x,.int .i64 y,.int .i64 t],.bool true]) W:=fun W=>by kernel_rfl
 go_enter Tryz.func225,Tryz.ntmps225
 go_wp2_with (first|(go_at_call 227;refine(yef _ _).mono ?_;rintro e w2 ⟨rfl,hw⟩;have hw':=hw.symm;clear hw;subst hw')|(go_at_call 112;refine(yad _ _ _ _).mono ?_;rintro e w2 ⟨rfl,hw⟩;have hw':=hw.symm;clear hw;subst hw')|(go_at_call 83;refine(ydu _ _ _).mono ?_;rintro e w2 ⟨rfl,hw⟩;have hw':=hw.symm;clear hw;subst hw'))
 all_goals
  go_ret
  refine⟨?_,by first|exact(Below.refl _ _).alloc (Nat.le_refl _) _|exact((Below.refl _ _).alloc (Nat.le_refl _) _).alloc (by simp) _⟩
  first|exact ya0 (by rw [Bool.eq_iff_iff];simp only [Bool.and_eq_true,decide_eq_true_eq];omega)|exact ya0 (by simp;omega)|exact ya0 (by simp)|exact ybu (by simp;omega)
theorem yid (n s z:Int) (vi vs:Value) (ah:Option Addr) (len cap:Nat) (x y:Int) (w:World):Calls Tryz.prog 225 #[.agg #[.int .i64 n,.int .i64 s,vi,.slice ah len cap,vs,.int .i64 z],vAsk x y] w fun e w'=>e= .returned (.bool (decide (0≤x∧x<4∧0≤y∧y≤1)))∧Below w.heap.size w w':=by
 have q0:∀W:World,(Instr.typeAssert (vAsk x y) 263 271 true).run Tryz.prog W= .ok (.tuple #[.agg #[.int .i64 0,.int .i64 0],.bool false]) W:=fun W=>by kernel_rfl
 have q1:∀W:World,(Instr.typeAssert (vAsk x y) 263 273 true).run Tryz.prog W= .ok (.tuple #[.agg #[.int .i64 0],.bool false]) W:=fun W=>by kernel_rfl
 have q2:∀W:World,(Instr.typeAssert (vAsk x y) 263 275 true).run Tryz.prog W= .ok (.tuple #[.agg #[.int .i64 0,.int .i64 0,.int .i64 0],.bool false]) W:=fun W=>by kernel_rfl
 have q3:∀W:World,(Instr.typeAssert (vAsk x y) 263 277 true).run Tryz.prog W= .ok (.tuple #[.agg #[.int .i64 0,.int .i64 0,.int .i64 0],.bool false]) W:=fun W=>by kernel_rfl
 have q4:∀W:World,(Instr.typeAssert (vAsk x y) 263 279 true).run Tryz.prog W= .ok (.tuple #[.agg #[.int .i64 x,.int .i64 y],.bool true]) W:=fun W=>by kernel_rfl
 go_enter Tryz.func225,Tryz.ntmps225
 go_wp2_with (first|(go_at_call 227;refine(yef _ _).mono ?_;rintro e w2 ⟨rfl,hw⟩;have hw':=hw.symm;clear hw;subst hw')|(go_at_call 112;refine(yad _ _ _ _).mono ?_;rintro e w2 ⟨rfl,hw⟩;have hw':=hw.symm;clear hw;subst hw')|(go_at_call 83;refine(ydu _ _ _).mono ?_;rintro e w2 ⟨rfl,hw⟩;have hw':=hw.symm;clear hw;subst hw'))
 all_goals
  go_ret
  refine⟨?_,by first|exact(Below.refl _ _).alloc (Nat.le_refl _) _|exact((Below.refl _ _).alloc (Nat.le_refl _) _).alloc (by simp) _⟩
  first|exact ya0 (by rw [Bool.eq_iff_iff];simp only [Bool.and_eq_true,decide_eq_true_eq];omega)|exact ya0 (by simp;omega)|exact ya0 (by simp)|exact ybu (by simp;omega)
theorem yep (n s z:Int) (vi vs:Value) (ah:Option Addr) (len cap:Nat) (x:Int) (w:World):Calls Tryz.prog 225 #[.agg #[.int .i64 n,.int .i64 s,vi,.slice ah len cap,vs,.int .i64 z],yma x] w fun e w'=>e= .returned (.bool (decide (0≤x∧x≤1)))∧Below w.heap.size w w':=by
 have q0:∀W:World,(Instr.typeAssert (yma x) 263 271 true).run Tryz.prog W= .ok (.tuple #[.agg #[.int .i64 0,.int .i64 0],.bool false]) W:=fun W=>by kernel_rfl
 have q1:∀W:World,(Instr.typeAssert (yma x) 263 273 true).run Tryz.prog W= .ok (.tuple #[.agg #[.int .i64 0],.bool false]) W:=fun W=>by kernel_rfl
 have q2:∀W:World,(Instr.typeAssert (yma x) 263 275 true).run Tryz.prog W= .ok (.tuple #[.agg #[.int .i64 0,.int .i64 0,.int .i64 0],.bool false]) W:=fun W=>by kernel_rfl
 have q3:∀W:World,(Instr.typeAssert (yma x) 263 277 true).run Tryz.prog W= .ok (.tuple #[.agg #[.int .i64 0,.int .i64 0,.int .i64 0],.bool false]) W:=fun W=>by kernel_rfl
 have q4:∀W:World,(Instr.typeAssert (yma x) 263 279 true).run Tryz.prog W= .ok (.tuple #[.agg #[.int .i64 0,.int .i64 0],.bool false]) W:=fun W=>by kernel_rfl
 have q5:∀W:World,(Instr.typeAssert (yma x) 263 280 true).run Tryz.prog W= .ok (.tuple #[.agg #[.int .i64 x],.bool true]) W:=fun W=>by kernel_rfl
 go_enter Tryz.func225,Tryz.ntmps225
 go_wp2_with (first|(go_at_call 227;refine(yef _ _).mono ?_;rintro e w2 ⟨rfl,hw⟩;have hw':=hw.symm;clear hw;subst hw')|(go_at_call 112;refine(yad _ _ _ _).mono ?_;rintro e w2 ⟨rfl,hw⟩;have hw':=hw.symm;clear hw;subst hw')|(go_at_call 83;refine(ydu _ _ _).mono ?_;rintro e w2 ⟨rfl,hw⟩;have hw':=hw.symm;clear hw;subst hw'))
 all_goals
  go_ret
  refine⟨?_,by first|exact(Below.refl _ _).alloc (Nat.le_refl _) _|exact((Below.refl _ _).alloc (Nat.le_refl _) _).alloc (by simp) _⟩
  first|exact ya0 (by rw [Bool.eq_iff_iff];simp only [Bool.and_eq_true,decide_eq_true_eq];omega)|exact ya0 (by simp;omega)|exact ya0 (by simp)|exact ybu (by simp;omega)
theorem yh9 (n s z:Int) (vi vs:Value) (ah:Option Addr) (len cap:Nat) (x y:Int) (w:World):Calls Tryz.prog 225 #[.agg #[.int .i64 n,.int .i64 s,vi,.slice ah len cap,vs,.int .i64 z],yl3 x y] w fun e w'=>e= .returned (.bool (decide (0≤x∧x≤1∧1≤y∧y≤999)))∧Below w.heap.size w w':=by
 have q0:∀W:World,(Instr.typeAssert (yl3 x y) 263 271 true).run Tryz.prog W= .ok (.tuple #[.agg #[.int .i64 0,.int .i64 0],.bool false]) W:=fun W=>by kernel_rfl
 have q1:∀W:World,(Instr.typeAssert (yl3 x y) 263 273 true).run Tryz.prog W= .ok (.tuple #[.agg #[.int .i64 0],.bool false]) W:=fun W=>by kernel_rfl
 have q2:∀W:World,(Instr.typeAssert (yl3 x y) 263 275 true).run Tryz.prog W= .ok (.tuple #[.agg #[.int .i64 0,.int .i64 0,.int .i64 0],.bool false]) W:=fun W=>by kernel_rfl
 have q3:∀W:World,(Instr.typeAssert (yl3 x y) 263 277 true).run Tryz.prog W= .ok (.tuple #[.agg #[.int .i64 0,.int .i64 0,.int .i64 0],.bool false]) W:=fun W=>by kernel_rfl
 have q4:∀W:World,(Instr.typeAssert (yl3 x y) 263 279 true).run Tryz.prog W= .ok (.tuple #[.agg #[.int .i64 0,.int .i64 0],.bool false]) W:=fun W=>by kernel_rfl
 have q5:∀W:World,(Instr.typeAssert (yl3 x y) 263 280 true).run Tryz.prog W= .ok (.tuple #[.agg #[.int .i64 0],.bool false]) W:=fun W=>by kernel_rfl
 have q6:∀W:World,(Instr.typeAssert (yl3 x y) 263 282 true).run Tryz.prog W= .ok (.tuple #[.agg #[.int .i64 x,.int .i64 y],.bool true]) W:=fun W=>by kernel_rfl
 go_enter Tryz.func225,Tryz.ntmps225
 go_wp2_with (first|(go_at_call 227;refine(yef _ _).mono ?_;rintro e w2 ⟨rfl,hw⟩;have hw':=hw.symm;clear hw;subst hw')|(go_at_call 112;refine(yad _ _ _ _).mono ?_;rintro e w2 ⟨rfl,hw⟩;have hw':=hw.symm;clear hw;subst hw')|(go_at_call 83;refine(ydu _ _ _).mono ?_;rintro e w2 ⟨rfl,hw⟩;have hw':=hw.symm;clear hw;subst hw'))
 all_goals
  go_ret
  refine⟨?_,by first|exact(Below.refl _ _).alloc (Nat.le_refl _) _|exact((Below.refl _ _).alloc (Nat.le_refl _) _).alloc (by simp) _⟩
  first|exact ya0 (by rw [Bool.eq_iff_iff];simp only [Bool.and_eq_true,decide_eq_true_eq];omega)|exact ya0 (by simp;omega)|exact ya0 (by simp)|exact ybu (by simp;omega)
theorem fit_none (n s z:Int) (vi vs:Value) (ah:Option Addr) (len cap:Nat) (w:World):Calls Tryz.prog 225 #[.agg #[.int .i64 n,.int .i64 s,vi,.slice ah len cap,vs,.int .i64 z],.nilIface] w fun e w'=>e= .returned (.bool false)∧Below w.heap.size w w':=by
 have q0:∀W:World,(Instr.typeAssert .nilIface 263 271 true).run Tryz.prog W= .ok (.tuple #[.agg #[.int .i64 0,.int .i64 0],.bool false]) W:=fun W=>by kernel_rfl
 have q1:∀W:World,(Instr.typeAssert .nilIface 263 273 true).run Tryz.prog W= .ok (.tuple #[.agg #[.int .i64 0],.bool false]) W:=fun W=>by kernel_rfl
 have q2:∀W:World,(Instr.typeAssert .nilIface 263 275 true).run Tryz.prog W= .ok (.tuple #[.agg #[.int .i64 0,.int .i64 0,.int .i64 0],.bool false]) W:=fun W=>by kernel_rfl
 have q3:∀W:World,(Instr.typeAssert .nilIface 263 277 true).run Tryz.prog W= .ok (.tuple #[.agg #[.int .i64 0,.int .i64 0,.int .i64 0],.bool false]) W:=fun W=>by kernel_rfl
 have q4:∀W:World,(Instr.typeAssert .nilIface 263 279 true).run Tryz.prog W= .ok (.tuple #[.agg #[.int .i64 0,.int .i64 0],.bool false]) W:=fun W=>by kernel_rfl
 have q5:∀W:World,(Instr.typeAssert .nilIface 263 280 true).run Tryz.prog W= .ok (.tuple #[.agg #[.int .i64 0],.bool false]) W:=fun W=>by kernel_rfl
 have q6:∀W:World,(Instr.typeAssert .nilIface 263 282 true).run Tryz.prog W= .ok (.tuple #[.agg #[.int .i64 0,.int .i64 0],.bool false]) W:=fun W=>by kernel_rfl
 go_enter Tryz.func225,Tryz.ntmps225
 go_wp2
 go_ret
 exact⟨rfl,(Below.refl _ _).alloc (Nat.le_refl _) _⟩
theorem yn0 (x y:Int) (w:World):Calls Tryz.prog 244 #[.agg #[.int .i64 x,.int .i64 y]] w fun e w'=>e= .returned (.agg #[.int .i64 0,.int .i64 x,.int .i64 y,.int .i64 0])∧Below w.heap.size w w':=by
 go_enter Tryz.func244,Tryz.ntmps244
 go_wp2
 exact bodyPost_ret (v:= .agg #[.int .i64 0,.int .i64 x,.int .i64 y,.int .i64 0]) (by simp [results,Tryz.results244,go_sem]) rfl ⟨rfl,((Below.refl _ _).alloc (Nat.le_refl _) _).alloc (by simp) _⟩
theorem yjh (x:Int) (w:World):Calls Tryz.prog 245 #[.agg #[.int .i64 x]] w fun e w'=>e= .returned (.agg #[.int .i64 1,.int .i64 x,.int .i64 0,.int .i64 0])∧Below w.heap.size w w':=by
 go_enter Tryz.func245,Tryz.ntmps245
 go_wp2
 exact bodyPost_ret (v:= .agg #[.int .i64 1,.int .i64 x,.int .i64 0,.int .i64 0]) (by simp [results,Tryz.results245,go_sem]) rfl ⟨rfl,((Below.refl _ _).alloc (Nat.le_refl _) _).alloc (by simp) _⟩
theorem yrp (x y t:Int) (w:World):Calls Tryz.prog 246 #[.agg #[.int .i64 x,.int .i64 y,.int .i64 t]] w fun e w'=>e= .returned (.agg #[.int .i64 2,.int .i64 x,.int .i64 y,.int .i64 t])∧Below w.heap.size w w':=by
 go_enter Tryz.func246,Tryz.ntmps246
 go_wp2
 exact bodyPost_ret (v:= .agg #[.int .i64 2,.int .i64 x,.int .i64 y,.int .i64 t]) (by simp [results,Tryz.results246,go_sem]) rfl ⟨rfl,((Below.refl _ _).alloc (Nat.le_refl _) _).alloc (by simp) _⟩
theorem yok (x y t:Int) (w:World):Calls Tryz.prog 247 #[.agg #[.int .i64 x,.int .i64 y,.int .i64 t]] w fun e w'=>e= .returned (.agg #[.int .i64 3,.int .i64 x,.int .i64 y,.int .i64 t])∧Below w.heap.size w w':=by
 go_enter Tryz.func247,Tryz.ntmps247
 go_wp2
 exact bodyPost_ret (v:= .agg #[.int .i64 3,.int .i64 x,.int .i64 y,.int .i64 t]) (by simp [results,Tryz.results247,go_sem]) rfl ⟨rfl,((Below.refl _ _).alloc (Nat.le_refl _) _).alloc (by simp) _⟩
theorem ymz (x y:Int) (w:World):Calls Tryz.prog 248 #[.agg #[.int .i64 x,.int .i64 y]] w fun e w'=>e= .returned (.agg #[.int .i64 4,.int .i64 x,.int .i64 y,.int .i64 0])∧Below w.heap.size w w':=by
 go_enter Tryz.func248,Tryz.ntmps248
 go_wp2
 exact bodyPost_ret (v:= .agg #[.int .i64 4,.int .i64 x,.int .i64 y,.int .i64 0]) (by simp [results,Tryz.results248,go_sem]) rfl ⟨rfl,((Below.refl _ _).alloc (Nat.le_refl _) _).alloc (by simp) _⟩
theorem yh2 (x:Int) (w:World):Calls Tryz.prog 249 #[.agg #[.int .i64 x]] w fun e w'=>e= .returned (.agg #[.int .i64 5,.int .i64 x,.int .i64 0,.int .i64 0])∧Below w.heap.size w w':=by
 go_enter Tryz.func249,Tryz.ntmps249
 go_wp2
 exact bodyPost_ret (v:= .agg #[.int .i64 5,.int .i64 x,.int .i64 0,.int .i64 0]) (by simp [results,Tryz.results249,go_sem]) rfl ⟨rfl,((Below.refl _ _).alloc (Nat.le_refl _) _).alloc (by simp) _⟩
theorem ykn (x y:Int) (w:World):Calls Tryz.prog 250 #[.agg #[.int .i64 x,.int .i64 y]] w fun e w'=>e= .returned (.agg #[.int .i64 6,.int .i64 x,.int .i64 y,.int .i64 0])∧Below w.heap.size w w':=by
 go_enter Tryz.func250,Tryz.ntmps250
 go_wp2
 exact bodyPost_ret (v:= .agg #[.int .i64 6,.int .i64 x,.int .i64 y,.int .i64 0]) (by simp [results,Tryz.results250,go_sem]) rfl ⟨rfl,((Below.refl _ _).alloc (Nat.le_refl _) _).alloc (by simp) _⟩
theorem m_adding (x y:Int) (w:World):(method 399 271 (.agg #[.int .i64 x,.int .i64 y]) "loop.example/g00603/impl.op").run Tryz.prog w= .ok (244,.agg #[.int .i64 x,.int .i64 y]) w:=by kernel_rfl
theorem m_taking (x:Int) (w:World):(method 399 273 (.agg #[.int .i64 x]) "loop.example/g00603/impl.op").run Tryz.prog w= .ok (245,.agg #[.int .i64 x]) w:=by kernel_rfl
theorem yua (x y t:Int) (w:World):(method 399 275 (.agg #[.int .i64 x,.int .i64 y,.int .i64 t]) "loop.example/g00603/impl.op").run Tryz.prog w= .ok (246,.agg #[.int .i64 x,.int .i64 y,.int .i64 t]) w:=by kernel_rfl
theorem yrx (x y t:Int) (w:World):(method 399 277 (.agg #[.int .i64 x,.int .i64 y,.int .i64 t]) "loop.example/g00603/impl.op").run Tryz.prog w= .ok (247,.agg #[.int .i64 x,.int .i64 y,.int .i64 t]) w:=by kernel_rfl
theorem m_asking (x y:Int) (w:World):(method 399 279 (.agg #[.int .i64 x,.int .i64 y]) "loop.example/g00603/impl.op").run Tryz.prog w= .ok (248,.agg #[.int .i64 x,.int .i64 y]) w:=by kernel_rfl
theorem yry (x:Int) (w:World):(method 399 280 (.agg #[.int .i64 x]) "loop.example/g00603/impl.op").run Tryz.prog w= .ok (249,.agg #[.int .i64 x]) w:=by kernel_rfl
theorem yub (x y:Int) (w:World):(method 399 282 (.agg #[.int .i64 x,.int .i64 y]) "loop.example/g00603/impl.op").run Tryz.prog w= .ok (250,.agg #[.int .i64 x,.int .i64 y]) w:=by kernel_rfl
end Go.Proofs.YtmobiieoecjmdaaGreat
