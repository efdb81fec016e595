/- PTo, PTr, MOpI -/
import Derived.Test.YtghndljgadpijaaGreatExactCollectLPOwn
import Derived.Laws.Slices
import Derived.Test.YtghndljgadpijaaGreatExactCollectG01
import Derived.Deep.QuietTactic
import Derived.BigQuiet
/- The specification's copy of what was done; rows of data as sources of an append, and cut. -/
namespace Go.Proofs.YtghndljgadpijaaGreat
open Go.RowKit
theorem IsD.cells {w:World} {x:Value} {c n:Nat} {f:Nat→Dat} (h:IsD w x (.row c n f)):∃cs,SrcC w x c n cs∧ ∀j,j<n*c→IsD w (nthV cs j) (f j):=by
  obtain⟨a,cap,rfl,h1,h2,h⟩:=IsD.parts (c:=c) (n:=n) h
  rcases h with rfl|⟨b,off,rfl,hb,hc⟩
  · exact⟨[],⟨by simp,a,cap,rfl,.inl rfl⟩,fun j hj=>by omega⟩
  · refine⟨(List.range (n*c)).map (fun j=>((w.cell? ⟨b,off+j,none⟩).getD (.int .i64 0))),⟨by simp,some ⟨b,off,none⟩,cap,rfl,.inr ⟨b,off,rfl,hb,fun j hj=> ?_⟩⟩,fun j hj=> ?_⟩
    · obtain⟨u,hu,_⟩:=hc j hj
      simp [hj,hu]
    · obtain⟨u,hu,hd⟩:=hc j hj
      have:nthV ((List.range (n*c)).map (fun j=>((w.cell? ⟨b,off+j,none⟩).getD (.int .i64 0)))) j=u:=by
        unfold nthV
        simp [hj,hu]
      rw [this]
      exact hd
theorem Ps.one {w:World} {u:Value} {p:Ps} {r:Nat} (h:IsD w u (p.cell r)):u.oneCell'=true:=by
  unfold Ps.cell at h
  split at h
  all_goals first
    |(obtain rfl:=h.val_eq;rfl)
    |(obtain⟨a,c,rfl,_⟩:=IsD.len h;rfl)
theorem zhm (l:List Ps) (k j:Nat):psAt (l.drop k) j=psAt l (k+j):=by
  unfold psAt
  rw [List.getD_eq_getElem?_getD,List.getD_eq_getElem?_getD,List.getElem?_drop]
theorem znw {l:List Ps} {k j:Nat} (h:j<k):psAt (l.take k) j=psAt l j:=by
  unfold psAt
  rw [List.getD_eq_getElem?_getD,List.getD_eq_getElem?_getD,List.getElem?_take_of_lt h]
theorem zdq {w:World} {a:Option Addr} {cap k:Nat} {l:List Ps} (h:IsD w (.slice a l.length cap) (yw6 l)) (hk:k≤l.length):IsD w (sliced a k l.length cap 12) (yw6 (l.drop k)):=by
  obtain⟨a',cap',he,h1,h2,h⟩:=IsD.parts (c:=12) (n:=l.length) h
  obtain⟨rfl,rfl⟩:a=a'∧cap=cap':=by simpa using he
  unfold sliced yw6
  rw [List.length_drop]
  refine IsD.of_parts (by omega) (by omega) ?_
  by_cases hn:l.length-k=0
  · exact .inl hn
  · refine .inr ?_
    obtain⟨b,off,rfl,hb,hc⟩:=h.resolve_left (by omega)
    rw [if_neg (by omega)]
    refine⟨b,off+k*12,by simp [Addr.add_lit],hb,fun j hj=> ?_⟩
    obtain⟨u,hu,hd⟩:=hc (k*12+j) (by omega)
    refine⟨u,by rw [Nat.add_assoc];exact hu,?_⟩
    have e:yfb (l.drop k) j=yfb l (k*12+j):=by
      show(psAt (l.drop k) (j/12)).cell (j%12)=(psAt l ((k*12+j)/12)).cell ((k*12+j)%12)
      rw [zhm,show(k*12+j)/12=k+j/12 by omega,show(k*12+j)%12=j%12 by omega]
    rw [e]
    exact hd
theorem zdp {w:World} {a:Option Addr} {cap k:Nat} {l:List Ps} (h:IsD w (.slice a l.length cap) (yw6 l)) (hk:k≤l.length):IsD w (sliced a 0 k cap 12) (yw6 (l.take k)):=by
  obtain⟨a',cap',he,h1,h2,h⟩:=IsD.parts (c:=12) (n:=l.length) h
  obtain⟨rfl,rfl⟩:a=a'∧cap=cap':=by simpa using he
  unfold sliced yw6
  rw [List.length_take,Nat.min_eq_left hk]
  refine IsD.of_parts (by omega) (by omega) ?_
  by_cases hn:k=0
  · exact .inl (by omega)
  · refine .inr ?_
    obtain⟨b,off,rfl,hb,hc⟩:=h.resolve_left (by omega)
    rw [if_neg (by omega)]
    refine⟨b,off,by simp [Addr.add_lit],hb,fun j hj=> ?_⟩
    obtain⟨u,hu,hd⟩:=hc j (by omega)
    refine⟨u,hu,?_⟩
    have e:yfb (l.take k) j=yfb l j:=by
      show(psAt (l.take k) (j/12)).cell (j%12)=_
      rw [znw (by omega)]
      rfl
    rw [e]
    exact hd
theorem zcj (a:Option Addr) (n cap k:Nat) (hk:k≤n) (w:World):(Instr.sliceAt 95 (.slice a n cap) (some (.int .i64 (k:Int))) none none).run Tryz.prog w= .ok (sliced a k n cap 12) w:=by
  obtain⟨i0,hi,hz0,hz1,hz2⟩:=info_parts zew
  have hu:Tryz.prog.underlying 95=some (.slice (Tryz.prog.elem 95)):=by kernel_rfl
  have he:Tryz.prog.elem 95=172:=by kernel_rfl
  rw [run_sliceAt_slice (h:=hu),run_slice_l (ht:=hu) (h0:=by omega) (h1:=by omega),he]
  simp [sizeOf,typeInfo,hi,hz1]
theorem zem (a:Option Addr) (n cap k:Nat) (hk:k≤cap) (w:World):(Instr.sliceAt 95 (.slice a n cap) none (some (.int .i64 (k:Int))) none).run Tryz.prog w= .ok (sliced a 0 k cap 12) w:=by
  obtain⟨i0,hi,hz0,hz1,hz2⟩:=info_parts zew
  have hu:Tryz.prog.underlying 95=some (.slice (Tryz.prog.elem 95)):=by kernel_rfl
  have he:Tryz.prog.elem 95=172:=by kernel_rfl
  rw [run_sliceAt_slice (h:=hu),run_slice_h (ht:=hu) (h0:=by omega) (h2:=by omega),he]
  simp [sizeOf,typeInfo,hi,hz1]
set_option maxHeartbeats 2000000
set_option maxRecDepth 100000
open Go.RowKit
abbrev vAdd (x y:Int):Value:= .iface 365 (.agg #[.int .i64 x,.int .i64 y])
abbrev vTake (x:Int):Value:= .iface 367 (.agg #[.int .i64 x])
abbrev zn3 (x y t:Int):Value:= .iface 369 (.agg #[.int .i64 x,.int .i64 y,.int .i64 t])
abbrev zlb (x y t:Int):Value:= .iface 371 (.agg #[.int .i64 x,.int .i64 y,.int .i64 t])
abbrev vAsk (x y:Int):Value:= .iface 373 (.agg #[.int .i64 x,.int .i64 y])
abbrev zh7 (x:Int):Value:= .iface 374 (.agg #[.int .i64 x])
abbrev zg5 (x y:Int):Value:= .iface 376 (.agg #[.int .i64 x,.int .i64 y])
theorem za2 (x n:Int) (w:World):Calls Tryz.prog 88 #[.int .i64 x,.int .i64 n] w fun e w'=>e= .returned (.bool (decide (0≤x)&&decide (x<n)))∧w'=w:=by
  go_enter Tryz.func88,Tryz.ntmps88
  go_wp2
  all_goals
    go_ret
    first|exact⟨yyh (by simp_all),rfl⟩|exact⟨yfm (by simp;omega),rfl⟩
theorem zan (x:Int) (w:World):Calls Tryz.prog 316 #[.int .i64 x] w fun e w'=>e= .returned (.bool (decide (0≤x)&&decide (x≤1)))∧w'=w:=by
  go_enter Tryz.func316,Tryz.ntmps316
  go_wp2_with fail
  refine(ywc _ _ _ _).mono ?_
  rintro e w' ⟨rfl,hw⟩
  have hw':=hw.symm
  clear hw
  subst hw'
  go_wp2
  go_ret
  exact⟨rfl,rfl⟩
theorem zcu (a b k:Int) (w:World):Calls Tryz.prog 311 #[.agg #[.int .i64 0,.int .i64 a,.int .i64 b,.int .i64 k]] w fun e w'=>e= .returned (vAdd a b)∧Below w.heap.size w w':=by
  go_enter Tryz.func311,Tryz.ntmps311
  go_wp2
  go_ret
  exact⟨rfl,(Below.refl _ _).alloc (Nat.le_refl _) _⟩
theorem zbd (a b k:Int) (w:World):Calls Tryz.prog 311 #[.agg #[.int .i64 1,.int .i64 a,.int .i64 b,.int .i64 k]] w fun e w'=>e= .returned (vTake a)∧Below w.heap.size w w':=by
  go_enter Tryz.func311,Tryz.ntmps311
  go_wp2
  go_ret
  exact⟨rfl,(Below.refl _ _).alloc (Nat.le_refl _) _⟩
theorem ze0 (a b k:Int) (w:World):Calls Tryz.prog 311 #[.agg #[.int .i64 2,.int .i64 a,.int .i64 b,.int .i64 k]] w fun e w'=>e= .returned (zn3 a b k)∧Below w.heap.size w w':=by
  go_enter Tryz.func311,Tryz.ntmps311
  go_wp2
  go_ret
  exact⟨rfl,(Below.refl _ _).alloc (Nat.le_refl _) _⟩
theorem zdf (a b k:Int) (w:World):Calls Tryz.prog 311 #[.agg #[.int .i64 3,.int .i64 a,.int .i64 b,.int .i64 k]] w fun e w'=>e= .returned (zlb a b k)∧Below w.heap.size w w':=by
  go_enter Tryz.func311,Tryz.ntmps311
  go_wp2
  go_ret
  exact⟨rfl,(Below.refl _ _).alloc (Nat.le_refl _) _⟩
theorem zct (a b k:Int) (w:World):Calls Tryz.prog 311 #[.agg #[.int .i64 4,.int .i64 a,.int .i64 b,.int .i64 k]] w fun e w'=>e= .returned (vAsk a b)∧Below w.heap.size w w':=by
  go_enter Tryz.func311,Tryz.ntmps311
  go_wp2
  go_ret
  exact⟨rfl,(Below.refl _ _).alloc (Nat.le_refl _) _⟩
theorem zae (a b k:Int) (w:World):Calls Tryz.prog 311 #[.agg #[.int .i64 5,.int .i64 a,.int .i64 b,.int .i64 k]] w fun e w'=>e= .returned (zh7 a)∧Below w.heap.size w w':=by
  go_enter Tryz.func311,Tryz.ntmps311
  go_wp2
  go_ret
  exact⟨rfl,(Below.refl _ _).alloc (Nat.le_refl _) _⟩
theorem zby (a b k:Int) (w:World):Calls Tryz.prog 311 #[.agg #[.int .i64 6,.int .i64 a,.int .i64 b,.int .i64 k]] w fun e w'=>e= .returned (zg5 a b)∧Below w.heap.size w w':=by
  go_enter Tryz.func311,Tryz.ntmps311
  go_wp2
  go_ret
  exact⟨rfl,(Below.refl _ _).alloc (Nat.le_refl _) _⟩
theorem zp8 (c a b k:Int) (w:World) (c0:¬c=0) (c1:¬c=1) (c2:¬c=2) (c3:¬c=3) (c4:¬c=4) (c5:¬c=5) (c6:¬c=6):Calls Tryz.prog 311 #[.agg #[.int .i64 c,.int .i64 a,.int .i64 b,.int .i64 k]] w fun e w'=>e= .returned .nilIface∧Below w.heap.size w w':=by
  go_enter Tryz.func311,Tryz.ntmps311
  go_wp2
  go_ret
  exact⟨rfl,(Below.refl _ _).alloc (Nat.le_refl _) _⟩
theorem zdv (n s z:Int) (vi vs:Value) (ah:Option Addr) (len cap:Nat) (x y:Int) (w:World):Calls Tryz.prog 312 #[.agg #[.int .i64 n,.int .i64 s,vi,.slice ah len cap,vs,.int .i64 z],vAdd x y] w fun e w'=>e= .returned (.bool (decide (0≤x∧x≤1∧0≤y∧y≤999)))∧Below w.heap.size w w':=by
  have q0:∀W:World,(Instr.typeAssert (vAdd x y) 357 365 true).run Tryz.prog W= .ok (.tuple #[.agg #[.int .i64 x,.int .i64 y],.bool true]) W:=fun W=>by kernel_rfl
  go_enter Tryz.func312,Tryz.ntmps312
  go_wp2_with (first|(go_at_call 316;refine(zan _ _).mono ?_;rintro e w2 ⟨rfl,hw⟩;have hw':=hw.symm;clear hw;subst hw')|(go_at_call 89;refine(ywc _ _ _ _).mono ?_;rintro e w2 ⟨rfl,hw⟩;have hw':=hw.symm;clear hw;subst hw')|(go_at_call 88;refine(za2 _ _ _).mono ?_;rintro e w2 ⟨rfl,hw⟩;have hw':=hw.symm;clear hw;subst hw'))
  all_goals
    go_ret
    refine⟨?_,by first|exact(Below.refl _ _).alloc (Nat.le_refl _) _|exact((Below.refl _ _).alloc (Nat.le_refl _) _).alloc (by simp) _⟩
    first|exact yfm (by rw [Bool.eq_iff_iff];simp only [Bool.and_eq_true,decide_eq_true_eq];omega)|exact yfm (by simp;omega)|exact yfm (by simp)|exact yyh (by simp;omega)
theorem zc8 (n s z:Int) (vi vs:Value) (ah:Option Addr) (len cap:Nat) (x:Int) (w:World):Calls Tryz.prog 312 #[.agg #[.int .i64 n,.int .i64 s,vi,.slice ah len cap,vs,.int .i64 z],vTake x] w fun e w'=>e= .returned (.bool (decide (0≤x∧x≤1)))∧Below w.heap.size w w':=by
  have q0:∀W:World,(Instr.typeAssert (vTake x) 357 365 true).run Tryz.prog W= .ok (.tuple #[.agg #[.int .i64 0,.int .i64 0],.bool false]) W:=fun W=>by kernel_rfl
  have q1:∀W:World,(Instr.typeAssert (vTake x) 357 367 true).run Tryz.prog W= .ok (.tuple #[.agg #[.int .i64 x],.bool true]) W:=fun W=>by kernel_rfl
  go_enter Tryz.func312,Tryz.ntmps312
  go_wp2_with (first|(go_at_call 316;refine(zan _ _).mono ?_;rintro e w2 ⟨rfl,hw⟩;have hw':=hw.symm;clear hw;subst hw')|(go_at_call 89;refine(ywc _ _ _ _).mono ?_;rintro e w2 ⟨rfl,hw⟩;have hw':=hw.symm;clear hw;subst hw')|(go_at_call 88;refine(za2 _ _ _).mono ?_;rintro e w2 ⟨rfl,hw⟩;have hw':=hw.symm;clear hw;subst hw'))
  all_goals
    go_ret
    refine⟨?_,by first|exact(Below.refl _ _).alloc (Nat.le_refl _) _|exact((Below.refl _ _).alloc (Nat.le_refl _) _).alloc (by simp) _⟩
    first|exact yfm (by rw [Bool.eq_iff_iff];simp only [Bool.and_eq_true,decide_eq_true_eq];omega)|exact yfm (by simp;omega)|exact yfm (by simp)|exact yyh (by simp;omega)
theorem zf5 (n s z:Int) (vi vs:Value) (ah:Option Addr) (len cap:Nat) (x y t:Int) (w:World):Calls Tryz.prog 312 #[.agg #[.int .i64 n,.int .i64 s,vi,.slice ah len cap,vs,.int .i64 z],zn3 x y t] w fun e w'=>e= .returned (.bool (decide (0≤x∧x<n∧1≤y∧y≤50∧0≤t∧t<(len:Int))))∧Below w.heap.size w w':=by
  have q0:∀W:World,(Instr.typeAssert (zn3 x y t) 357 365 true).run Tryz.prog W= .ok (.tuple #[.agg #[.int .i64 0,.int .i64 0],.bool false]) W:=fun W=>by kernel_rfl
  have q1:∀W:World,(Instr.typeAssert (zn3 x y t) 357 367 true).run Tryz.prog W= .ok (.tuple #[.agg #[.int .i64 0],.bool false]) W:=fun W=>by kernel_rfl
  have q2:∀W:World,(Instr.typeAssert (zn3 x y t) 357 369 true).run Tryz.prog W= .ok (.tuple #[.agg #[.int .i64 x,.int .i64 y,.int .i64 t],.bool true]) W:=fun W=>by kernel_rfl
  go_enter Tryz.func312,Tryz.ntmps312
  go_wp2_with (first|(go_at_call 316;refine(zan _ _).mono ?_;rintro e w2 ⟨rfl,hw⟩;have hw':=hw.symm;clear hw;subst hw')|(go_at_call 89;refine(ywc _ _ _ _).mono ?_;rintro e w2 ⟨rfl,hw⟩;have hw':=hw.symm;clear hw;subst hw')|(go_at_call 88;refine(za2 _ _ _).mono ?_;rintro e w2 ⟨rfl,hw⟩;have hw':=hw.symm;clear hw;subst hw'))
  all_goals
    go_ret
    refine⟨?_,by first|exact(Below.refl _ _).alloc (Nat.le_refl _) _|exact((Below.refl _ _).alloc (Nat.le_refl _) _).alloc (by simp) _⟩
    first|exact yfm (by rw [Bool.eq_iff_iff];simp only [Bool.and_eq_true,decide_eq_true_eq];omega)|exact yfm (by simp;omega)|exact yfm (by simp)|exact yyh (by simp;omega)
theorem zdy (n s z:Int) (vi vs:Value) (ah:Option Addr) (len cap:Nat) (x y t:Int) (w:World):Calls Tryz.prog 312 #[.agg #[.int .i64 n,.int .i64 s,vi,.slice ah len cap,vs,.int .i64 z],zlb x y t] w fun e w'=>e= .returned (.bool (decide (0≤x∧x≤1∧0≤y∧y≤999∧1≤t∧t≤8)))∧Below w.heap.size w w':=by
  have q0:∀W:World,(Instr.typeAssert (zlb x y t) 357 365 true).run Tryz.prog W= .ok (.tuple #[.agg #[.int .i64 0,.int .i64 0],.bool false]) W:=fun W=>by kernel_rfl
  have q1:∀W:World,(Instr.typeAssert (zlb x y t) 357 367 true).run Tryz.prog W= .ok (.tuple #[.agg #[.int .i64 0],.bool false]) W:=fun W=>by kernel_rfl
  have q2:∀W:World,(Instr.typeAssert (zlb x y t) 357 369 true).run Tryz.prog W= .ok (.tuple #[.agg #[.int .i64 0,.int .i64 0,.int .i64 0],.bool false]) W:=fun W=>by kernel_rfl
  have q3:∀W:World,(Instr.typeAssert (zlb x y t) 357 371 true).run Tryz.prog W= .ok (.tuple #[.agg #[.int .i64 x,.int .i64 y,.int .i64 t],.bool true]) W:=fun W=>by kernel_rfl
  go_enter Tryz.func312,Tryz.ntmps312
  go_wp2_with (first|(go_at_call 316;refine(zan _ _).mono ?_;rintro e w2 ⟨rfl,hw⟩;have hw':=hw.symm;clear hw;subst hw')|(go_at_call 89;refine(ywc _ _ _ _).mono ?_;rintro e w2 ⟨rfl,hw⟩;have hw':=hw.symm;clear hw;subst hw')|(go_at_call 88;refine(za2 _ _ _).mono ?_;rintro e w2 ⟨rfl,hw⟩;have hw':=hw.symm;clear hw;subst hw'))
  all_goals
    go_ret
    refine⟨?_,by first|exact(Below.refl _ _).alloc (Nat.le_refl _) _|exact((Below.refl _ _).alloc (Nat.le_refl _) _).alloc (by simp) _⟩
    first|exact yfm (by rw [Bool.eq_iff_iff];simp only [Bool.and_eq_true,decide_eq_true_eq];omega)|exact yfm (by simp;omega)|exact yfm (by simp)|exact yyh (by simp;omega)
theorem zdu (n s z:Int) (vi vs:Value) (ah:Option Addr) (len cap:Nat) (x y:Int) (w:World):Calls Tryz.prog 312 #[.agg #[.int .i64 n,.int .i64 s,vi,.slice ah len cap,vs,.int .i64 z],vAsk x y] w fun e w'=>e= .returned (.bool (decide (0≤x∧x<4∧0≤y∧y≤1)))∧Below w.heap.size w w':=by
  have q0:∀W:World,(Instr.typeAssert (vAsk x y) 357 365 true).run Tryz.prog W= .ok (.tuple #[.agg #[.int .i64 0,.int .i64 0],.bool false]) W:=fun W=>by kernel_rfl
  have q1:∀W:World,(Instr.typeAssert (vAsk x y) 357 367 true).run Tryz.prog W= .ok (.tuple #[.agg #[.int .i64 0],.bool false]) W:=fun W=>by kernel_rfl
  have q2:∀W:World,(Instr.typeAssert (vAsk x y) 357 369 true).run Tryz.prog W= .ok (.tuple #[.agg #[.int .i64 0,.int .i64 0,.int .i64 0],.bool false]) W:=fun W=>by kernel_rfl
  have q3:∀W:World,(Instr.typeAssert (vAsk x y) 357 371 true).run Tryz.prog W= .ok (.tuple #[.agg #[.int .i64 0,.int .i64 0,.int .i64 0],.bool false]) W:=fun W=>by kernel_rfl
  have q4:∀W:World,(Instr.typeAssert (vAsk x y) 357 373 true).run Tryz.prog W= .ok (.tuple #[.agg #[.int .i64 x,.int .i64 y],.bool true]) W:=fun W=>by kernel_rfl
  go_enter Tryz.func312,Tryz.ntmps312
  go_wp2_with (first|(go_at_call 316;refine(zan _ _).mono ?_;rintro e w2 ⟨rfl,hw⟩;have hw':=hw.symm;clear hw;subst hw')|(go_at_call 89;refine(ywc _ _ _ _).mono ?_;rintro e w2 ⟨rfl,hw⟩;have hw':=hw.symm;clear hw;subst hw')|(go_at_call 88;refine(za2 _ _ _).mono ?_;rintro e w2 ⟨rfl,hw⟩;have hw':=hw.symm;clear hw;subst hw'))
  all_goals
    go_ret
    refine⟨?_,by first|exact(Below.refl _ _).alloc (Nat.le_refl _) _|exact((Below.refl _ _).alloc (Nat.le_refl _) _).alloc (by simp) _⟩
    first|exact yfm (by rw [Bool.eq_iff_iff];simp only [Bool.and_eq_true,decide_eq_true_eq];omega)|exact yfm (by simp;omega)|exact yfm (by simp)|exact yyh (by simp;omega)
theorem zax (n s z:Int) (vi vs:Value) (ah:Option Addr) (len cap:Nat) (x:Int) (w:World):Calls Tryz.prog 312 #[.agg #[.int .i64 n,.int .i64 s,vi,.slice ah len cap,vs,.int .i64 z],zh7 x] w fun e w'=>e= .returned (.bool (decide (0≤x∧x≤1)))∧Below w.heap.size w w':=by
  have q0:∀W:World,(Instr.typeAssert (zh7 x) 357 365 true).run Tryz.prog W= .ok (.tuple #[.agg #[.int .i64 0,.int .i64 0],.bool false]) W:=fun W=>by kernel_rfl
  have q1:∀W:World,(Instr.typeAssert (zh7 x) 357 367 true).run Tryz.prog W= .ok (.tuple #[.agg #[.int .i64 0],.bool false]) W:=fun W=>by kernel_rfl
  have q2:∀W:World,(Instr.typeAssert (zh7 x) 357 369 true).run Tryz.prog W= .ok (.tuple #[.agg #[.int .i64 0,.int .i64 0,.int .i64 0],.bool false]) W:=fun W=>by kernel_rfl
  have q3:∀W:World,(Instr.typeAssert (zh7 x) 357 371 true).run Tryz.prog W= .ok (.tuple #[.agg #[.int .i64 0,.int .i64 0,.int .i64 0],.bool false]) W:=fun W=>by kernel_rfl
  have q4:∀W:World,(Instr.typeAssert (zh7 x) 357 373 true).run Tryz.prog W= .ok (.tuple #[.agg #[.int .i64 0,.int .i64 0],.bool false]) W:=fun W=>by kernel_rfl
  have q5:∀W:World,(Instr.typeAssert (zh7 x) 357 374 true).run Tryz.prog W= .ok (.tuple #[.agg #[.int .i64 x],.bool true]) W:=fun W=>by kernel_rfl
  go_enter Tryz.func312,Tryz.ntmps312
  go_wp2_with (first|(go_at_call 316;refine(zan _ _).mono ?_;rintro e w2 ⟨rfl,hw⟩;have hw':=hw.symm;clear hw;subst hw')|(go_at_call 89;refine(ywc _ _ _ _).mono ?_;rintro e w2 ⟨rfl,hw⟩;have hw':=hw.symm;clear hw;subst hw')|(go_at_call 88;refine(za2 _ _ _).mono ?_;rintro e w2 ⟨rfl,hw⟩;have hw':=hw.symm;clear hw;subst hw'))
  all_goals
    go_ret
    refine⟨?_,by first|exact(Below.refl _ _).alloc (Nat.le_refl _) _|exact((Below.refl _ _).alloc (Nat.le_refl _) _).alloc (by simp) _⟩
    first|exact yfm (by rw [Bool.eq_iff_iff];simp only [Bool.and_eq_true,decide_eq_true_eq];omega)|exact yfm (by simp;omega)|exact yfm (by simp)|exact yyh (by simp;omega)
theorem zcs (n s z:Int) (vi vs:Value) (ah:Option Addr) (len cap:Nat) (x y:Int) (w:World):Calls Tryz.prog 312 #[.agg #[.int .i64 n,.int .i64 s,vi,.slice ah len cap,vs,.int .i64 z],zg5 x y] w fun e w'=>e= .returned (.bool (decide (0≤x∧x≤1∧1≤y∧y≤999)))∧Below w.heap.size w w':=by
  have q0:∀W:World,(Instr.typeAssert (zg5 x y) 357 365 true).run Tryz.prog W= .ok (.tuple #[.agg #[.int .i64 0,.int .i64 0],.bool false]) W:=fun W=>by kernel_rfl
  have q1:∀W:World,(Instr.typeAssert (zg5 x y) 357 367 true).run Tryz.prog W= .ok (.tuple #[.agg #[.int .i64 0],.bool false]) W:=fun W=>by kernel_rfl
  have q2:∀W:World,(Instr.typeAssert (zg5 x y) 357 369 true).run Tryz.prog W= .ok (.tuple #[.agg #[.int .i64 0,.int .i64 0,.int .i64 0],.bool false]) W:=fun W=>by kernel_rfl
  have q3:∀W:World,(Instr.typeAssert (zg5 x y) 357 371 true).run Tryz.prog W= .ok (.tuple #[.agg #[.int .i64 0,.int .i64 0,.int .i64 0],.bool false]) W:=fun W=>by kernel_rfl
  have q4:∀W:World,(Instr.typeAssert (zg5 x y) 357 373 true).run Tryz.prog W= .ok (.tuple #[.agg #[.int .i64 0,.int .i64 0],.bool false]) W:=fun W=>by kernel_rfl
  have q5:∀W:World,(Instr.typeAssert (zg5 x y) 357 374 true).run Tryz.prog W= .ok (.tuple #[.agg #[.int .i64 0],.bool false]) W:=fun W=>by kernel_rfl
  have q6:∀W:World,(Instr.typeAssert (zg5 x y) 357 376 true).run Tryz.prog W= .ok (.tuple #[.agg #[.int .i64 x,.int .i64 y],.bool true]) W:=fun W=>by kernel_rfl
  go_enter Tryz.func312,Tryz.ntmps312
  go_wp2_with (first|(go_at_call 316;refine(zan _ _).mono ?_;rintro e w2 ⟨rfl,hw⟩;have hw':=hw.symm;clear hw;subst hw')|(go_at_call 89;refine(ywc _ _ _ _).mono ?_;rintro e w2 ⟨rfl,hw⟩;have hw':=hw.symm;clear hw;subst hw')|(go_at_call 88;refine(za2 _ _ _).mono ?_;rintro e w2 ⟨rfl,hw⟩;have hw':=hw.symm;clear hw;subst hw'))
  all_goals
    go_ret
    refine⟨?_,by first|exact(Below.refl _ _).alloc (Nat.le_refl _) _|exact((Below.refl _ _).alloc (Nat.le_refl _) _).alloc (by simp) _⟩
    first|exact yfm (by rw [Bool.eq_iff_iff];simp only [Bool.and_eq_true,decide_eq_true_eq];omega)|exact yfm (by simp;omega)|exact yfm (by simp)|exact yyh (by simp;omega)
theorem fit_none (n s z:Int) (vi vs:Value) (ah:Option Addr) (len cap:Nat) (w:World):Calls Tryz.prog 312 #[.agg #[.int .i64 n,.int .i64 s,vi,.slice ah len cap,vs,.int .i64 z],.nilIface] w fun e w'=>e= .returned (.bool false)∧Below w.heap.size w w':=by
  have q0:∀W:World,(Instr.typeAssert .nilIface 357 365 true).run Tryz.prog W= .ok (.tuple #[.agg #[.int .i64 0,.int .i64 0],.bool false]) W:=fun W=>by kernel_rfl
  have q1:∀W:World,(Instr.typeAssert .nilIface 357 367 true).run Tryz.prog W= .ok (.tuple #[.agg #[.int .i64 0],.bool false]) W:=fun W=>by kernel_rfl
  have q2:∀W:World,(Instr.typeAssert .nilIface 357 369 true).run Tryz.prog W= .ok (.tuple #[.agg #[.int .i64 0,.int .i64 0,.int .i64 0],.bool false]) W:=fun W=>by kernel_rfl
  have q3:∀W:World,(Instr.typeAssert .nilIface 357 371 true).run Tryz.prog W= .ok (.tuple #[.agg #[.int .i64 0,.int .i64 0,.int .i64 0],.bool false]) W:=fun W=>by kernel_rfl
  have q4:∀W:World,(Instr.typeAssert .nilIface 357 373 true).run Tryz.prog W= .ok (.tuple #[.agg #[.int .i64 0,.int .i64 0],.bool false]) W:=fun W=>by kernel_rfl
  have q5:∀W:World,(Instr.typeAssert .nilIface 357 374 true).run Tryz.prog W= .ok (.tuple #[.agg #[.int .i64 0],.bool false]) W:=fun W=>by kernel_rfl
  have q6:∀W:World,(Instr.typeAssert .nilIface 357 376 true).run Tryz.prog W= .ok (.tuple #[.agg #[.int .i64 0,.int .i64 0],.bool false]) W:=fun W=>by kernel_rfl
  go_enter Tryz.func312,Tryz.ntmps312
  go_wp2
  go_ret
  exact⟨rfl,(Below.refl _ _).alloc (Nat.le_refl _) _⟩
theorem zhu (x y:Int) (w:World):Calls Tryz.prog 338 #[.agg #[.int .i64 x,.int .i64 y]] w fun e w'=>e= .returned (.agg #[.int .i64 0,.int .i64 x,.int .i64 y,.int .i64 0])∧Below w.heap.size w w':=by
  go_enter Tryz.func338,Tryz.ntmps338
  go_wp2
  exact bodyPost_ret (v:= .agg #[.int .i64 0,.int .i64 x,.int .i64 y,.int .i64 0]) (by simp [results,Tryz.results338,go_sem]) rfl ⟨rfl,((Below.refl _ _).alloc (Nat.le_refl _) _).alloc (by simp) _⟩
theorem zes (x:Int) (w:World):Calls Tryz.prog 339 #[.agg #[.int .i64 x]] w fun e w'=>e= .returned (.agg #[.int .i64 1,.int .i64 x,.int .i64 0,.int .i64 0])∧Below w.heap.size w w':=by
  go_enter Tryz.func339,Tryz.ntmps339
  go_wp2
  exact bodyPost_ret (v:= .agg #[.int .i64 1,.int .i64 x,.int .i64 0,.int .i64 0]) (by simp [results,Tryz.results339,go_sem]) rfl ⟨rfl,((Below.refl _ _).alloc (Nat.le_refl _) _).alloc (by simp) _⟩
theorem zm7 (x y t:Int) (w:World):Calls Tryz.prog 340 #[.agg #[.int .i64 x,.int .i64 y,.int .i64 t]] w fun e w'=>e= .returned (.agg #[.int .i64 2,.int .i64 x,.int .i64 y,.int .i64 t])∧Below w.heap.size w w':=by
  go_enter Tryz.func340,Tryz.ntmps340
  go_wp2
  exact bodyPost_ret (v:= .agg #[.int .i64 2,.int .i64 x,.int .i64 y,.int .i64 t]) (by simp [results,Tryz.results340,go_sem]) rfl ⟨rfl,((Below.refl _ _).alloc (Nat.le_refl _) _).alloc (by simp) _⟩
theorem zj7 (x y t:Int) (w:World):Calls Tryz.prog 341 #[.agg #[.int .i64 x,.int .i64 y,.int .i64 t]] w fun e w'=>e= .returned (.agg #[.int .i64 3,.int .i64 x,.int .i64 y,.int .i64 t])∧Below w.heap.size w w':=by
  go_enter Tryz.func341,Tryz.ntmps341
  go_wp2
  exact bodyPost_ret (v:= .agg #[.int .i64 3,.int .i64 x,.int .i64 y,.int .i64 t]) (by simp [results,Tryz.results341,go_sem]) rfl ⟨rfl,((Below.refl _ _).alloc (Nat.le_refl _) _).alloc (by simp) _⟩
theorem zht (x y:Int) (w:World):Calls Tryz.prog 342 #[.agg #[.int .i64 x,.int .i64 y]] w fun e w'=>e= .returned (.agg #[.int .i64 4,.int .i64 x,.int .i64 y,.int .i64 0])∧Below w.heap.size w w':=by
  go_enter Tryz.func342,Tryz.ntmps342
  go_wp2
  exact bodyPost_ret (v:= .agg #[.int .i64 4,.int .i64 x,.int .i64 y,.int .i64 0]) (by simp [results,Tryz.results342,go_sem]) rfl ⟨rfl,((Below.refl _ _).alloc (Nat.le_refl _) _).alloc (by simp) _⟩
theorem zcm (x:Int) (w:World):Calls Tryz.prog 343 #[.agg #[.int .i64 x]] w fun e w'=>e= .returned (.agg #[.int .i64 5,.int .i64 x,.int .i64 0,.int .i64 0])∧Below w.heap.size w w':=by
  go_enter Tryz.func343,Tryz.ntmps343
  go_wp2
  exact bodyPost_ret (v:= .agg #[.int .i64 5,.int .i64 x,.int .i64 0,.int .i64 0]) (by simp [results,Tryz.results343,go_sem]) rfl ⟨rfl,((Below.refl _ _).alloc (Nat.le_refl _) _).alloc (by simp) _⟩
theorem zfq (x y:Int) (w:World):Calls Tryz.prog 344 #[.agg #[.int .i64 x,.int .i64 y]] w fun e w'=>e= .returned (.agg #[.int .i64 6,.int .i64 x,.int .i64 y,.int .i64 0])∧Below w.heap.size w w':=by
  go_enter Tryz.func344,Tryz.ntmps344
  go_wp2
  exact bodyPost_ret (v:= .agg #[.int .i64 6,.int .i64 x,.int .i64 y,.int .i64 0]) (by simp [results,Tryz.results344,go_sem]) rfl ⟨rfl,((Below.refl _ _).alloc (Nat.le_refl _) _).alloc (by simp) _⟩
theorem m_adding (x y:Int) (w:World):(method 496 365 (.agg #[.int .i64 x,.int .i64 y]) "loop.example/g00603/impl.op").run Tryz.prog w= .ok (338,.agg #[.int .i64 x,.int .i64 y]) w:=by kernel_rfl
theorem m_taking (x:Int) (w:World):(method 496 367 (.agg #[.int .i64 x]) "loop.example/g00603/impl.op").run Tryz.prog w= .ok (339,.agg #[.int .i64 x]) w:=by kernel_rfl
theorem zoc (x y t:Int) (w:World):(method 496 369 (.agg #[.int .i64 x,.int .i64 y,.int .i64 t]) "loop.example/g00603/impl.op").run Tryz.prog w= .ok (340,.agg #[.int .i64 x,.int .i64 y,.int .i64 t]) w:=by kernel_rfl
theorem zmd (x y t:Int) (w:World):(method 496 371 (.agg #[.int .i64 x,.int .i64 y,.int .i64 t]) "loop.example/g00603/impl.op").run Tryz.prog w= .ok (341,.agg #[.int .i64 x,.int .i64 y,.int .i64 t]) w:=by kernel_rfl
theorem m_asking (x y:Int) (w:World):(method 496 373 (.agg #[.int .i64 x,.int .i64 y]) "loop.example/g00603/impl.op").run Tryz.prog w= .ok (342,.agg #[.int .i64 x,.int .i64 y]) w:=by kernel_rfl
theorem zme (x:Int) (w:World):(method 496 374 (.agg #[.int .i64 x]) "loop.example/g00603/impl.op").run Tryz.prog w= .ok (343,.agg #[.int .i64 x]) w:=by kernel_rfl
theorem zod (x y:Int) (w:World):(method 496 376 (.agg #[.int .i64 x,.int .i64 y]) "loop.example/g00603/impl.op").run Tryz.prog w= .ok (344,.agg #[.int .i64 x,.int .i64 y]) w:=by kernel_rfl
end Go.Proofs.YtghndljgadpijaaGreat

