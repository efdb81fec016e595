/- The program's OpOk: what an op is told as, and whether it fits. -/
import Derived.Test.YtghndljgadpijaaGreatExactCollectG01
import Derived.Deep.QuietTactic
import Derived.BigQuiet
namespace Go.Proofs.YtghndljgadpijaaGreat
set_option maxHeartbeats 2000000
set_option maxRecDepth 100000
open Go.RowKit
abbrev vAdd (x y:Int):Value:= .iface 365 (.agg #[.int .i64 x,.int .i64 y])
abbrev vTake (x:Int):Value:= .iface 367 (.agg #[.int .i64 x])
abbrev zn0 (x y t:Int):Value:= .iface 369 (.agg #[.int .i64 x,.int .i64 y,.int .i64 t])
abbrev zl8 (x y t:Int):Value:= .iface 371 (.agg #[.int .i64 x,.int .i64 y,.int .i64 t])
abbrev vAsk (x y:Int):Value:= .iface 373 (.agg #[.int .i64 x,.int .i64 y])
abbrev zh3 (x:Int):Value:= .iface 374 (.agg #[.int .i64 x])
abbrev zg0 (x y:Int):Value:= .iface 376 (.agg #[.int .i64 x,.int .i64 y])
theorem yzr (x n:Int) (w:World):Calls Tryz.prog 88 #[.int .i64 x,.int .i64 n] w fun e w'=>e= .returned (.bool (decide (0≤x)&&decide (x<n)))∧w'=w:=by
  go_enter Tryz.func88,Tryz.ntmps88
  go_wp2
  all_goals
    go_ret
    first|exact⟨yy5 (by simp_all),rfl⟩|exact⟨ye8 (by simp;omega),rfl⟩
theorem zac (x:Int) (w:World):Calls Tryz.prog 316 #[.int .i64 x] w fun e w'=>e= .returned (.bool (decide (0≤x)&&decide (x≤1)))∧w'=w:=by
  go_enter Tryz.func316,Tryz.ntmps316
  go_wp2_with fail
  refine(yw5 _ _ _ _).mono ?_
  rintro e w' ⟨rfl,hw⟩
  have hw':=hw.symm
  clear hw
  subst hw'
  go_wp2
  go_ret
  exact⟨rfl,rfl⟩
theorem zcm (a b k:Int) (w:World):Calls Tryz.prog 311 #[.agg #[.int .i64 0,.int .i64 a,.int .i64 b,.int .i64 k]] w fun e w'=>e= .returned (vAdd a b)∧Below w.heap.size w w':=by
  go_enter Tryz.func311,Tryz.ntmps311
  go_wp2
  go_ret
  exact⟨rfl,(Below.refl _ _).alloc (Nat.le_refl _) _⟩
theorem zb5 (a b k:Int) (w:World):Calls Tryz.prog 311 #[.agg #[.int .i64 1,.int .i64 a,.int .i64 b,.int .i64 k]] w fun e w'=>e= .returned (vTake a)∧Below w.heap.size w w':=by
  go_enter Tryz.func311,Tryz.ntmps311
  go_wp2
  go_ret
  exact⟨rfl,(Below.refl _ _).alloc (Nat.le_refl _) _⟩
theorem zdu (a b k:Int) (w:World):Calls Tryz.prog 311 #[.agg #[.int .i64 2,.int .i64 a,.int .i64 b,.int .i64 k]] w fun e w'=>e= .returned (zn0 a b k)∧Below w.heap.size w w':=by
  go_enter Tryz.func311,Tryz.ntmps311
  go_wp2
  go_ret
  exact⟨rfl,(Below.refl _ _).alloc (Nat.le_refl _) _⟩
theorem zd7 (a b k:Int) (w:World):Calls Tryz.prog 311 #[.agg #[.int .i64 3,.int .i64 a,.int .i64 b,.int .i64 k]] w fun e w'=>e= .returned (zl8 a b k)∧Below w.heap.size w w':=by
  go_enter Tryz.func311,Tryz.ntmps311
  go_wp2
  go_ret
  exact⟨rfl,(Below.refl _ _).alloc (Nat.le_refl _) _⟩
theorem zcl (a b k:Int) (w:World):Calls Tryz.prog 311 #[.agg #[.int .i64 4,.int .i64 a,.int .i64 b,.int .i64 k]] w fun e w'=>e= .returned (vAsk a b)∧Below w.heap.size w w':=by
  go_enter Tryz.func311,Tryz.ntmps311
  go_wp2
  go_ret
  exact⟨rfl,(Below.refl _ _).alloc (Nat.le_refl _) _⟩
theorem za3 (a b k:Int) (w:World):Calls Tryz.prog 311 #[.agg #[.int .i64 5,.int .i64 a,.int .i64 b,.int .i64 k]] w fun e w'=>e= .returned (zh3 a)∧Below w.heap.size w w':=by
  go_enter Tryz.func311,Tryz.ntmps311
  go_wp2
  go_ret
  exact⟨rfl,(Below.refl _ _).alloc (Nat.le_refl _) _⟩
theorem zbq (a b k:Int) (w:World):Calls Tryz.prog 311 #[.agg #[.int .i64 6,.int .i64 a,.int .i64 b,.int .i64 k]] w fun e w'=>e= .returned (zg0 a b)∧Below w.heap.size w w':=by
  go_enter Tryz.func311,Tryz.ntmps311
  go_wp2
  go_ret
  exact⟨rfl,(Below.refl _ _).alloc (Nat.le_refl _) _⟩
theorem zp6 (c a b k:Int) (w:World) (c0:¬c=0) (c1:¬c=1) (c2:¬c=2) (c3:¬c=3) (c4:¬c=4) (c5:¬c=5) (c6:¬c=6):Calls Tryz.prog 311 #[.agg #[.int .i64 c,.int .i64 a,.int .i64 b,.int .i64 k]] w fun e w'=>e= .returned .nilIface∧Below w.heap.size w w':=by
  go_enter Tryz.func311,Tryz.ntmps311
  go_wp2
  go_ret
  exact⟨rfl,(Below.refl _ _).alloc (Nat.le_refl _) _⟩
theorem zdp (n s z:Int) (vi vs:Value) (ah:Option Addr) (len cap:Nat) (x y:Int) (w:World):Calls Tryz.prog 312 #[.agg #[.int .i64 n,.int .i64 s,vi,.slice ah len cap,vs,.int .i64 z],vAdd x y] w fun e w'=>e= .returned (.bool (decide (0≤x∧x≤1∧0≤y∧y≤999)))∧Below w.heap.size w w':=by
  have q0:∀W:World,(Instr.typeAssert (vAdd x y) 357 365 true).run Tryz.prog W= .ok (.tuple #[.agg #[.int .i64 x,.int .i64 y],.bool true]) W:=fun W=>by kernel_rfl
  go_enter Tryz.func312,Tryz.ntmps312
  go_wp2_with (first|(go_at_call 316;refine(zac _ _).mono ?_;rintro e w2 ⟨rfl,hw⟩;have hw':=hw.symm;clear hw;subst hw')|(go_at_call 89;refine(yw5 _ _ _ _).mono ?_;rintro e w2 ⟨rfl,hw⟩;have hw':=hw.symm;clear hw;subst hw')|(go_at_call 88;refine(yzr _ _ _).mono ?_;rintro e w2 ⟨rfl,hw⟩;have hw':=hw.symm;clear hw;subst hw'))
  all_goals
    go_ret
    refine⟨?_,by first|exact(Below.refl _ _).alloc (Nat.le_refl _) _|exact((Below.refl _ _).alloc (Nat.le_refl _) _).alloc (by simp) _⟩
    first|exact ye8 (by rw [Bool.eq_iff_iff];simp only [Bool.and_eq_true,decide_eq_true_eq];omega)|exact ye8 (by simp;omega)|exact ye8 (by simp)|exact yy5 (by simp;omega)
theorem zc0 (n s z:Int) (vi vs:Value) (ah:Option Addr) (len cap:Nat) (x:Int) (w:World):Calls Tryz.prog 312 #[.agg #[.int .i64 n,.int .i64 s,vi,.slice ah len cap,vs,.int .i64 z],vTake x] w fun e w'=>e= .returned (.bool (decide (0≤x∧x≤1)))∧Below w.heap.size w w':=by
  have q0:∀W:World,(Instr.typeAssert (vTake x) 357 365 true).run Tryz.prog W= .ok (.tuple #[.agg #[.int .i64 0,.int .i64 0],.bool false]) W:=fun W=>by kernel_rfl
  have q1:∀W:World,(Instr.typeAssert (vTake x) 357 367 true).run Tryz.prog W= .ok (.tuple #[.agg #[.int .i64 x],.bool true]) W:=fun W=>by kernel_rfl
  go_enter Tryz.func312,Tryz.ntmps312
  go_wp2_with (first|(go_at_call 316;refine(zac _ _).mono ?_;rintro e w2 ⟨rfl,hw⟩;have hw':=hw.symm;clear hw;subst hw')|(go_at_call 89;refine(yw5 _ _ _ _).mono ?_;rintro e w2 ⟨rfl,hw⟩;have hw':=hw.symm;clear hw;subst hw')|(go_at_call 88;refine(yzr _ _ _).mono ?_;rintro e w2 ⟨rfl,hw⟩;have hw':=hw.symm;clear hw;subst hw'))
  all_goals
    go_ret
    refine⟨?_,by first|exact(Below.refl _ _).alloc (Nat.le_refl _) _|exact((Below.refl _ _).alloc (Nat.le_refl _) _).alloc (by simp) _⟩
    first|exact ye8 (by rw [Bool.eq_iff_iff];simp only [Bool.and_eq_true,decide_eq_true_eq];omega)|exact ye8 (by simp;omega)|exact ye8 (by simp)|exact yy5 (by simp;omega)
theorem zez (n s z:Int) (vi vs:Value) (ah:Option Addr) (len cap:Nat) (x y t:Int) (w:World):Calls Tryz.prog 312 #[.agg #[.int .i64 n,.int .i64 s,vi,.slice ah len cap,vs,.int .i64 z],zn0 x y t] w fun e w'=>e= .returned (.bool (decide (0≤x∧x<n∧1≤y∧y≤50∧0≤t∧t<(len:Int))))∧Below w.heap.size w w':=by
  have q0:∀W:World,(Instr.typeAssert (zn0 x y t) 357 365 true).run Tryz.prog W= .ok (.tuple #[.agg #[.int .i64 0,.int .i64 0],.bool false]) W:=fun W=>by kernel_rfl
  have q1:∀W:World,(Instr.typeAssert (zn0 x y t) 357 367 true).run Tryz.prog W= .ok (.tuple #[.agg #[.int .i64 0],.bool false]) W:=fun W=>by kernel_rfl
  have q2:∀W:World,(Instr.typeAssert (zn0 x y t) 357 369 true).run Tryz.prog W= .ok (.tuple #[.agg #[.int .i64 x,.int .i64 y,.int .i64 t],.bool true]) W:=fun W=>by kernel_rfl
  go_enter Tryz.func312,Tryz.ntmps312
  go_wp2_with (first|(go_at_call 316;refine(zac _ _).mono ?_;rintro e w2 ⟨rfl,hw⟩;have hw':=hw.symm;clear hw;subst hw')|(go_at_call 89;refine(yw5 _ _ _ _).mono ?_;rintro e w2 ⟨rfl,hw⟩;have hw':=hw.symm;clear hw;subst hw')|(go_at_call 88;refine(yzr _ _ _).mono ?_;rintro e w2 ⟨rfl,hw⟩;have hw':=hw.symm;clear hw;subst hw'))
  all_goals
    go_ret
    refine⟨?_,by first|exact(Below.refl _ _).alloc (Nat.le_refl _) _|exact((Below.refl _ _).alloc (Nat.le_refl _) _).alloc (by simp) _⟩
    first|exact ye8 (by rw [Bool.eq_iff_iff];simp only [Bool.and_eq_true,decide_eq_true_eq];omega)|exact ye8 (by simp;omega)|exact ye8 (by simp)|exact yy5 (by simp;omega)
theorem zds (n s z:Int) (vi vs:Value) (ah:Option Addr) (len cap:Nat) (x y t:Int) (w:World):Calls Tryz.prog 312 #[.agg #[.int .i64 n,.int .i64 s,vi,.slice ah len cap,vs,.int .i64 z],zl8 x y t] w fun e w'=>e= .returned (.bool (decide (0≤x∧x≤1∧0≤y∧y≤999∧1≤t∧t≤8)))∧Below w.heap.size w w':=by
  have q0:∀W:World,(Instr.typeAssert (zl8 x y t) 357 365 true).run Tryz.prog W= .ok (.tuple #[.agg #[.int .i64 0,.int .i64 0],.bool false]) W:=fun W=>by kernel_rfl
  have q1:∀W:World,(Instr.typeAssert (zl8 x y t) 357 367 true).run Tryz.prog W= .ok (.tuple #[.agg #[.int .i64 0],.bool false]) W:=fun W=>by kernel_rfl
  have q2:∀W:World,(Instr.typeAssert (zl8 x y t) 357 369 true).run Tryz.prog W= .ok (.tuple #[.agg #[.int .i64 0,.int .i64 0,.int .i64 0],.bool false]) W:=fun W=>by kernel_rfl
  have q3:∀W:World,(Instr.typeAssert (zl8 x y t) 357 371 true).run Tryz.prog W= .ok (.tuple #[.agg #[.int .i64 x,.int .i64 y,.int .i64 t],.bool true]) W:=fun W=>by kernel_rfl
  go_enter Tryz.func312,Tryz.ntmps312
  go_wp2_with (first|(go_at_call 316;refine(zac _ _).mono ?_;rintro e w2 ⟨rfl,hw⟩;have hw':=hw.symm;clear hw;subst hw')|(go_at_call 89;refine(yw5 _ _ _ _).mono ?_;rintro e w2 ⟨rfl,hw⟩;have hw':=hw.symm;clear hw;subst hw')|(go_at_call 88;refine(yzr _ _ _).mono ?_;rintro e w2 ⟨rfl,hw⟩;have hw':=hw.symm;clear hw;subst hw'))
  all_goals
    go_ret
    refine⟨?_,by first|exact(Below.refl _ _).alloc (Nat.le_refl _) _|exact((Below.refl _ _).alloc (Nat.le_refl _) _).alloc (by simp) _⟩
    first|exact ye8 (by rw [Bool.eq_iff_iff];simp only [Bool.and_eq_true,decide_eq_true_eq];omega)|exact ye8 (by simp;omega)|exact ye8 (by simp)|exact yy5 (by simp;omega)
theorem zdo (n s z:Int) (vi vs:Value) (ah:Option Addr) (len cap:Nat) (x y:Int) (w:World):Calls Tryz.prog 312 #[.agg #[.int .i64 n,.int .i64 s,vi,.slice ah len cap,vs,.int .i64 z],vAsk x y] w fun e w'=>e= .returned (.bool (decide (0≤x∧x<4∧0≤y∧y≤1)))∧Below w.heap.size w w':=by
  have q0:∀W:World,(Instr.typeAssert (vAsk x y) 357 365 true).run Tryz.prog W= .ok (.tuple #[.agg #[.int .i64 0,.int .i64 0],.bool false]) W:=fun W=>by kernel_rfl
  have q1:∀W:World,(Instr.typeAssert (vAsk x y) 357 367 true).run Tryz.prog W= .ok (.tuple #[.agg #[.int .i64 0],.bool false]) W:=fun W=>by kernel_rfl
  have q2:∀W:World,(Instr.typeAssert (vAsk x y) 357 369 true).run Tryz.prog W= .ok (.tuple #[.agg #[.int .i64 0,.int .i64 0,.int .i64 0],.bool false]) W:=fun W=>by kernel_rfl
  have q3:∀W:World,(Instr.typeAssert (vAsk x y) 357 371 true).run Tryz.prog W= .ok (.tuple #[.agg #[.int .i64 0,.int .i64 0,.int .i64 0],.bool false]) W:=fun W=>by kernel_rfl
  have q4:∀W:World,(Instr.typeAssert (vAsk x y) 357 373 true).run Tryz.prog W= .ok (.tuple #[.agg #[.int .i64 x,.int .i64 y],.bool true]) W:=fun W=>by kernel_rfl
  go_enter Tryz.func312,Tryz.ntmps312
  go_wp2_with (first|(go_at_call 316;refine(zac _ _).mono ?_;rintro e w2 ⟨rfl,hw⟩;have hw':=hw.symm;clear hw;subst hw')|(go_at_call 89;refine(yw5 _ _ _ _).mono ?_;rintro e w2 ⟨rfl,hw⟩;have hw':=hw.symm;clear hw;subst hw')|(go_at_call 88;refine(yzr _ _ _).mono ?_;rintro e w2 ⟨rfl,hw⟩;have hw':=hw.symm;clear hw;subst hw'))
  all_goals
    go_ret
    refine⟨?_,by first|exact(Below.refl _ _).alloc (Nat.le_refl _) _|exact((Below.refl _ _).alloc (Nat.le_refl _) _).alloc (by simp) _⟩
    first|exact ye8 (by rw [Bool.eq_iff_iff];simp only [Bool.and_eq_true,decide_eq_true_eq];omega)|exact ye8 (by simp;omega)|exact ye8 (by simp)|exact yy5 (by simp;omega)
theorem zan (n s z:Int) (vi vs:Value) (ah:Option Addr) (len cap:Nat) (x:Int) (w:World):Calls Tryz.prog 312 #[.agg #[.int .i64 n,.int .i64 s,vi,.slice ah len cap,vs,.int .i64 z],zh3 x] w fun e w'=>e= .returned (.bool (decide (0≤x∧x≤1)))∧Below w.heap.size w w':=by
  have q0:∀W:World,(Instr.typeAssert (zh3 x) 357 365 true).run Tryz.prog W= .ok (.tuple #[.agg #[.int .i64 0,.int .i64 0],.bool false]) W:=fun W=>by kernel_rfl
  have q1:∀W:World,(Instr.typeAssert (zh3 x) 357 367 true).run Tryz.prog W= .ok (.tuple #[.agg #[.int .i64 0],.bool false]) W:=fun W=>by kernel_rfl
  have q2:∀W:World,(Instr.typeAssert (zh3 x) 357 369 true).run Tryz.prog W= .ok (.tuple #[.agg #[.int .i64 0,.int .i64 0,.int .i64 0],.bool false]) W:=fun W=>by kernel_rfl
  have q3:∀W:World,(Instr.typeAssert (zh3 x) 357 371 true).run Tryz.prog W= .ok (.tuple #[.agg #[.int .i64 0,.int .i64 0,.int .i64 0],.bool false]) W:=fun W=>by kernel_rfl
  have q4:∀W:World,(Instr.typeAssert (zh3 x) 357 373 true).run Tryz.prog W= .ok (.tuple #[.agg #[.int .i64 0,.int .i64 0],.bool false]) W:=fun W=>by kernel_rfl
  have q5:∀W:World,(Instr.typeAssert (zh3 x) 357 374 true).run Tryz.prog W= .ok (.tuple #[.agg #[.int .i64 x],.bool true]) W:=fun W=>by kernel_rfl
  go_enter Tryz.func312,Tryz.ntmps312
  go_wp2_with (first|(go_at_call 316;refine(zac _ _).mono ?_;rintro e w2 ⟨rfl,hw⟩;have hw':=hw.symm;clear hw;subst hw')|(go_at_call 89;refine(yw5 _ _ _ _).mono ?_;rintro e w2 ⟨rfl,hw⟩;have hw':=hw.symm;clear hw;subst hw')|(go_at_call 88;refine(yzr _ _ _).mono ?_;rintro e w2 ⟨rfl,hw⟩;have hw':=hw.symm;clear hw;subst hw'))
  all_goals
    go_ret
    refine⟨?_,by first|exact(Below.refl _ _).alloc (Nat.le_refl _) _|exact((Below.refl _ _).alloc (Nat.le_refl _) _).alloc (by simp) _⟩
    first|exact ye8 (by rw [Bool.eq_iff_iff];simp only [Bool.and_eq_true,decide_eq_true_eq];omega)|exact ye8 (by simp;omega)|exact ye8 (by simp)|exact yy5 (by simp;omega)
theorem zck (n s z:Int) (vi vs:Value) (ah:Option Addr) (len cap:Nat) (x y:Int) (w:World):Calls Tryz.prog 312 #[.agg #[.int .i64 n,.int .i64 s,vi,.slice ah len cap,vs,.int .i64 z],zg0 x y] w fun e w'=>e= .returned (.bool (decide (0≤x∧x≤1∧1≤y∧y≤999)))∧Below w.heap.size w w':=by
  have q0:∀W:World,(Instr.typeAssert (zg0 x y) 357 365 true).run Tryz.prog W= .ok (.tuple #[.agg #[.int .i64 0,.int .i64 0],.bool false]) W:=fun W=>by kernel_rfl
  have q1:∀W:World,(Instr.typeAssert (zg0 x y) 357 367 true).run Tryz.prog W= .ok (.tuple #[.agg #[.int .i64 0],.bool false]) W:=fun W=>by kernel_rfl
  have q2:∀W:World,(Instr.typeAssert (zg0 x y) 357 369 true).run Tryz.prog W= .ok (.tuple #[.agg #[.int .i64 0,.int .i64 0,.int .i64 0],.bool false]) W:=fun W=>by kernel_rfl
  have q3:∀W:World,(Instr.typeAssert (zg0 x y) 357 371 true).run Tryz.prog W= .ok (.tuple #[.agg #[.int .i64 0,.int .i64 0,.int .i64 0],.bool false]) W:=fun W=>by kernel_rfl
  have q4:∀W:World,(Instr.typeAssert (zg0 x y) 357 373 true).run Tryz.prog W= .ok (.tuple #[.agg #[.int .i64 0,.int .i64 0],.bool false]) W:=fun W=>by kernel_rfl
  have q5:∀W:World,(Instr.typeAssert (zg0 x y) 357 374 true).run Tryz.prog W= .ok (.tuple #[.agg #[.int .i64 0],.bool false]) W:=fun W=>by kernel_rfl
  have q6:∀W:World,(Instr.typeAssert (zg0 x y) 357 376 true).run Tryz.prog W= .ok (.tuple #[.agg #[.int .i64 x,.int .i64 y],.bool true]) W:=fun W=>by kernel_rfl
  go_enter Tryz.func312,Tryz.ntmps312
  go_wp2_with (first|(go_at_call 316;refine(zac _ _).mono ?_;rintro e w2 ⟨rfl,hw⟩;have hw':=hw.symm;clear hw;subst hw')|(go_at_call 89;refine(yw5 _ _ _ _).mono ?_;rintro e w2 ⟨rfl,hw⟩;have hw':=hw.symm;clear hw;subst hw')|(go_at_call 88;refine(yzr _ _ _).mono ?_;rintro e w2 ⟨rfl,hw⟩;have hw':=hw.symm;clear hw;subst hw'))
  all_goals
    go_ret
    refine⟨?_,by first|exact(Below.refl _ _).alloc (Nat.le_refl _) _|exact((Below.refl _ _).alloc (Nat.le_refl _) _).alloc (by simp) _⟩
    first|exact ye8 (by rw [Bool.eq_iff_iff];simp only [Bool.and_eq_true,decide_eq_true_eq];omega)|exact ye8 (by simp;omega)|exact ye8 (by simp)|exact yy5 (by simp;omega)
theorem fit_none (n s z:Int) (vi vs:Value) (ah:Option Addr) (len cap:Nat) (w:World):Calls Tryz.prog 312 #[.agg #[.int .i64 n,.int .i64 s,vi,.slice ah len cap,vs,.int .i64 z],.nilIface] w fun e w'=>e= .returned (.bool false)∧Below w.heap.size w w':=by
  have q0:∀W:World,(Instr.typeAssert .nilIface 357 365 true).run Tryz.prog W= .ok (.tuple #[.agg #[.int .i64 0,.int .i64 0],.bool false]) W:=fun W=>by kernel_rfl
  have q1:∀W:World,(Instr.typeAssert .nilIface 357 367 true).run Tryz.prog W= .ok (.tuple #[.agg #[.int .i64 0],.bool false]) W:=fun W=>by kernel_rfl
  have q2:∀W:World,(Instr.typeAssert .nilIface 357 369 true).run Tryz.prog W= .ok (.tuple #[.agg #[.int .i64 0,.int .i64 0,.int .i64 0],.bool false]) W:=fun W=>by kernel_rfl
  have q3:∀W:World,(Instr.typeAssert .nilIface 357 371 true).run Tryz.prog W= .ok (.tuple #[.agg #[.int .i64 0,.int .i64 0,.int .i64 0],.bool false]) W:=fun W=>by kernel_rfl
  have q4:∀W:World,(Instr.typeAssert .nilIface 357 373 true).run Tryz.prog W= .ok (.tuple #[.agg #[.int .i64 0,.int .i64 0],.bool false]) W:=fun W=>by kernel_rfl
  have q5:∀W:World,(Instr.typeAssert .nilIface 357 374 true).run Tryz.prog W= .ok (.tuple #[.agg #[.int .i64 0],.bool false]) W:=fun W=>by kernel_rfl
  have q6:∀W:World,(Instr.typeAssert .nilIface 357 376 true).run Tryz.prog W= .ok (.tuple #[.agg #[.int .i64 0,.int .i64 0],.bool false]) W:=fun W=>by kernel_rfl
  go_enter Tryz.func312,Tryz.ntmps312
  go_wp2
  go_ret
  exact⟨rfl,(Below.refl _ _).alloc (Nat.le_refl _) _⟩
theorem zhq (x y:Int) (w:World):Calls Tryz.prog 338 #[.agg #[.int .i64 x,.int .i64 y]] w fun e w'=>e= .returned (.agg #[.int .i64 0,.int .i64 x,.int .i64 y,.int .i64 0])∧Below w.heap.size w w':=by
  go_enter Tryz.func338,Tryz.ntmps338
  go_wp2
  exact bodyPost_ret (v:= .agg #[.int .i64 0,.int .i64 x,.int .i64 y,.int .i64 0]) (by simp [results,Tryz.results338,go_sem]) rfl ⟨rfl,((Below.refl _ _).alloc (Nat.le_refl _) _).alloc (by simp) _⟩
theorem zen (x:Int) (w:World):Calls Tryz.prog 339 #[.agg #[.int .i64 x]] w fun e w'=>e= .returned (.agg #[.int .i64 1,.int .i64 x,.int .i64 0,.int .i64 0])∧Below w.heap.size w w':=by
  go_enter Tryz.func339,Tryz.ntmps339
  go_wp2
  exact bodyPost_ret (v:= .agg #[.int .i64 1,.int .i64 x,.int .i64 0,.int .i64 0]) (by simp [results,Tryz.results339,go_sem]) rfl ⟨rfl,((Below.refl _ _).alloc (Nat.le_refl _) _).alloc (by simp) _⟩
theorem zm4 (x y t:Int) (w:World):Calls Tryz.prog 340 #[.agg #[.int .i64 x,.int .i64 y,.int .i64 t]] w fun e w'=>e= .returned (.agg #[.int .i64 2,.int .i64 x,.int .i64 y,.int .i64 t])∧Below w.heap.size w w':=by
  go_enter Tryz.func340,Tryz.ntmps340
  go_wp2
  exact bodyPost_ret (v:= .agg #[.int .i64 2,.int .i64 x,.int .i64 y,.int .i64 t]) (by simp [results,Tryz.results340,go_sem]) rfl ⟨rfl,((Below.refl _ _).alloc (Nat.le_refl _) _).alloc (by simp) _⟩
theorem zj4 (x y t:Int) (w:World):Calls Tryz.prog 341 #[.agg #[.int .i64 x,.int .i64 y,.int .i64 t]] w fun e w'=>e= .returned (.agg #[.int .i64 3,.int .i64 x,.int .i64 y,.int .i64 t])∧Below w.heap.size w w':=by
  go_enter Tryz.func341,Tryz.ntmps341
  go_wp2
  exact bodyPost_ret (v:= .agg #[.int .i64 3,.int .i64 x,.int .i64 y,.int .i64 t]) (by simp [results,Tryz.results341,go_sem]) rfl ⟨rfl,((Below.refl _ _).alloc (Nat.le_refl _) _).alloc (by simp) _⟩
theorem zhp (x y:Int) (w:World):Calls Tryz.prog 342 #[.agg #[.int .i64 x,.int .i64 y]] w fun e w'=>e= .returned (.agg #[.int .i64 4,.int .i64 x,.int .i64 y,.int .i64 0])∧Below w.heap.size w w':=by
  go_enter Tryz.func342,Tryz.ntmps342
  go_wp2
  exact bodyPost_ret (v:= .agg #[.int .i64 4,.int .i64 x,.int .i64 y,.int .i64 0]) (by simp [results,Tryz.results342,go_sem]) rfl ⟨rfl,((Below.refl _ _).alloc (Nat.le_refl _) _).alloc (by simp) _⟩
theorem zce (x:Int) (w:World):Calls Tryz.prog 343 #[.agg #[.int .i64 x]] w fun e w'=>e= .returned (.agg #[.int .i64 5,.int .i64 x,.int .i64 0,.int .i64 0])∧Below w.heap.size w w':=by
  go_enter Tryz.func343,Tryz.ntmps343
  go_wp2
  exact bodyPost_ret (v:= .agg #[.int .i64 5,.int .i64 x,.int .i64 0,.int .i64 0]) (by simp [results,Tryz.results343,go_sem]) rfl ⟨rfl,((Below.refl _ _).alloc (Nat.le_refl _) _).alloc (by simp) _⟩
theorem zfk (x y:Int) (w:World):Calls Tryz.prog 344 #[.agg #[.int .i64 x,.int .i64 y]] w fun e w'=>e= .returned (.agg #[.int .i64 6,.int .i64 x,.int .i64 y,.int .i64 0])∧Below w.heap.size w w':=by
  go_enter Tryz.func344,Tryz.ntmps344
  go_wp2
  exact bodyPost_ret (v:= .agg #[.int .i64 6,.int .i64 x,.int .i64 y,.int .i64 0]) (by simp [results,Tryz.results344,go_sem]) rfl ⟨rfl,((Below.refl _ _).alloc (Nat.le_refl _) _).alloc (by simp) _⟩
theorem m_adding (x y:Int) (w:World):(method 496 365 (.agg #[.int .i64 x,.int .i64 y]) "loop.example/g00603/impl.op").run Tryz.prog w= .ok (338,.agg #[.int .i64 x,.int .i64 y]) w:=by kernel_rfl
theorem m_taking (x:Int) (w:World):(method 496 367 (.agg #[.int .i64 x]) "loop.example/g00603/impl.op").run Tryz.prog w= .ok (339,.agg #[.int .i64 x]) w:=by kernel_rfl
theorem zo9 (x y t:Int) (w:World):(method 496 369 (.agg #[.int .i64 x,.int .i64 y,.int .i64 t]) "loop.example/g00603/impl.op").run Tryz.prog w= .ok (340,.agg #[.int .i64 x,.int .i64 y,.int .i64 t]) w:=by kernel_rfl
theorem zmb (x y t:Int) (w:World):(method 496 371 (.agg #[.int .i64 x,.int .i64 y,.int .i64 t]) "loop.example/g00603/impl.op").run Tryz.prog w= .ok (341,.agg #[.int .i64 x,.int .i64 y,.int .i64 t]) w:=by kernel_rfl
theorem m_asking (x y:Int) (w:World):(method 496 373 (.agg #[.int .i64 x,.int .i64 y]) "loop.example/g00603/impl.op").run Tryz.prog w= .ok (342,.agg #[.int .i64 x,.int .i64 y]) w:=by kernel_rfl
theorem zmc (x:Int) (w:World):(method 496 374 (.agg #[.int .i64 x]) "loop.example/g00603/impl.op").run Tryz.prog w= .ok (343,.agg #[.int .i64 x]) w:=by kernel_rfl
theorem zoa (x y:Int) (w:World):(method 496 376 (.agg #[.int .i64 x,.int .i64 y]) "loop.example/g00603/impl.op").run Tryz.prog w= .ok (344,.agg #[.int .i64 x,.int .i64 y]) w:=by kernel_rfl
end Go.Proofs.YtghndljgadpijaaGreat
