/- The program's OpOk. -/
import Derived.Test.YtghndljgadpijaaGreatExactCollectG01
import Derived.Test.YtghndljgadpijaaGreatExactCollectLMOpI
import Derived.Test.YtghndljgadpijaaGreatExactCollectG03
namespace Go.Proofs.YtghndljgadpijaaGreat
set_option maxHeartbeats 4000000
set_option maxRecDepth 100000
open Go.RowKit
theorem yy0 {p:Prop} (h:p):Hid p:=h
theorem Bk.beyond {W:World} {P:Nat} {T:TypeId} {vs:Array Value} (h:Bk W P T vs) {i:Nat} {v:Value} (hv:vs[i]? =some v):∀p:Beyond W,p.w.cell? ⟨P,i,none⟩=some v:=fun p=>p.cell h.lt (h.cell hv)
theorem bb4 {W:World} {P:Nat} {T:TypeId} {a0 a1 a2 a3:Value} (h:Bk W P T #[a0,a1,a2,a3]):(∀p:Beyond W,p.w.cell? ⟨P,0,none⟩=some a0)∧(∀p:Beyond W,p.w.cell? ⟨P,1,none⟩=some a1)∧(∀p:Beyond W,p.w.cell? ⟨P,2,none⟩=some a2)∧(∀p:Beyond W,p.w.cell? ⟨P,3,none⟩=some a3):=⟨h.beyond rfl,h.beyond rfl,h.beyond rfl,h.beyond rfl⟩
theorem bb6 {W:World} {P:Nat} {T:TypeId} {a0 a1 a2 a3 a4 a5:Value} (h:Bk W P T #[a0,a1,a2,a3,a4,a5]):(∀p:Beyond W,p.w.cell? ⟨P,0,none⟩=some a0)∧(∀p:Beyond W,p.w.cell? ⟨P,1,none⟩=some a1)∧(∀p:Beyond W,p.w.cell? ⟨P,2,none⟩=some a2)∧(∀p:Beyond W,p.w.cell? ⟨P,3,none⟩=some a3)∧(∀p:Beyond W,p.w.cell? ⟨P,4,none⟩=some a4)∧(∀p:Beyond W,p.w.cell? ⟨P,5,none⟩=some a5):=⟨h.beyond rfl,h.beyond rfl,h.beyond rfl,h.beyond rfl,h.beyond rfl,h.beyond rfl⟩
theorem bb7 {W:World} {P:Nat} {T:TypeId} {a0 a1 a2 a3 a4 a5 a6:Value} (h:Bk W P T #[a0,a1,a2,a3,a4,a5,a6]):(∀p:Beyond W,p.w.cell? ⟨P,0,none⟩=some a0)∧(∀p:Beyond W,p.w.cell? ⟨P,1,none⟩=some a1)∧(∀p:Beyond W,p.w.cell? ⟨P,2,none⟩=some a2)∧(∀p:Beyond W,p.w.cell? ⟨P,3,none⟩=some a3)∧(∀p:Beyond W,p.w.cell? ⟨P,4,none⟩=some a4)∧(∀p:Beyond W,p.w.cell? ⟨P,5,none⟩=some a5)∧(∀p:Beyond W,p.w.cell? ⟨P,6,none⟩=some a6):=⟨h.beyond rfl,h.beyond rfl,h.beyond rfl,h.beyond rfl,h.beyond rfl,h.beyond rfl,h.beyond rfl⟩
theorem yx9 {P:Program} {f:FuncId} {args:Array Value} {w:World} {b c:Bool} (h:Calls P f args w fun e w'=>e= .returned (.bool b)∧Below w.heap.size w w') (e:b=c):Calls P f args w fun e w'=>e= .returned (.bool c)∧Below w.heap.size w w':=e▸h
theorem zmh (n s z:Int) (vi vs:Value) (ah:Option Addr) (len cap:Nat) (a b k:Int) (w:World):
    Calls Tryz.prog 289 #[.agg #[.int .i64 n,.int .i64 s,vi,.slice ah len cap,vs,.int .i64 z],.agg #[.int .i64 0,.int .i64 a,.int .i64 b,.int .i64 k]] w fun e w'=>
      e= .returned (.bool (okO n len 0 a b k))∧Below w.heap.size w w':=by
  obtain⟨W0,hW0⟩:∃W0,(w.alloc (.cells #[.int .i64 n,.int .i64 s,vi,.slice ah len cap,vs,.int .i64 z] 36)).alloc (.cells #[.int .i64 0,.int .i64 a,.int .i64 b,.int .i64 k] 244)=W0:=⟨_,rfl⟩
  have HB0:=hdq (beA2 hW0)
  have HP0:=hdq (bkA2 hW0)
  have HQ0:=hdq (bkB2 hW0)
  have HW0:=yy0 hW0
  clear hW0
  by_cases hf:0≤a∧a≤1∧0≤b∧b≤999
  · have HF:=yy0 (decide_eq_true hf)
    clear hf
    have me:∀W:World,(method 496 365 (.agg #[.int .i64 a,.int .i64 b]) "loop.example/g00603/impl.op").run Tryz.prog W= .ok (338,.agg #[.int .i64 a,.int .i64 b]) W:=m_adding a b
    by_cases z0:k=0
    case neg=>
      have y0:¬(0:Int)=k:=fun e=>z0 e.symm
      have x0:((0:Int)==k)=false:=by simp [y0]
      have Z0:Hid (¬k=0):=z0
      go_enter Tryz.func289,Tryz.ntmps289
      go_wp2_with fail
      rw [HW0.out]
      refine(zcm _ _ _ _).mono ?_
      rintro e w1 ⟨rfl,hb1⟩
      have HB1:=trh HB0 hb1
      have hP:=HP0.out.below hb1
      have hQ:=HQ0.out.below hb1
      obtain⟨p0,p1,p2,p3,p4,p5⟩:=bb6 hP
      obtain⟨q0,q1,q2,q3⟩:=bb4 hQ
      have hne:=neB w1
      clear hb1 hP hQ HW0 HB0 HP0 HQ0
      go_wp2_with fail
      refine wrb ?_
      repeat(go_big_quiet_step (first|(go_at_call 312;exact Beyond.of (yx9 (zdp _ _ _ _ _ _ _ _ _ _ _) (c:=true) HF.out))|(go_at_call 338;exact Beyond.of (zhq _ _ _))))
      refine wpQuiet_nil ?_
      rintro w2 ⟨⟨_,hb2⟩,rfl⟩
      clear p0 p1 p2 p3 p4 p5 q0 q1 q2 q3 hne
      go_wp2
      go_ret
      refine⟨ye8 ?_,trm HB1.out hb2⟩
      have hz:=Z0.out
      simp [okO]
      omega
    subst z0
    go_enter Tryz.func289,Tryz.ntmps289
    go_wp2_with fail
    rw [HW0.out]
    refine(zcm _ _ _ _).mono ?_
    rintro e w1 ⟨rfl,hb1⟩
    have HB1:=trh HB0 hb1
    have hP:=HP0.out.below hb1
    have hQ:=HQ0.out.below hb1
    obtain⟨p0,p1,p2,p3,p4,p5⟩:=bb6 hP
    obtain⟨q0,q1,q2,q3⟩:=bb4 hQ
    have hne:=neB w1
    clear hb1 hP hQ HW0 HB0 HP0 HQ0
    go_wp2_with fail
    refine wrb ?_
    repeat(go_big_quiet_step (first|(go_at_call 312;exact Beyond.of (yx9 (zdp _ _ _ _ _ _ _ _ _ _ _) (c:=true) HF.out))|(go_at_call 338;exact Beyond.of (zhq _ _ _))))
    refine wpQuiet_nil ?_
    rintro w2 ⟨⟨_,hb2⟩,rfl⟩
    clear p0 p1 p2 p3 p4 p5 q0 q1 q2 q3 hne
    go_wp2
    go_ret
    refine⟨ye8 ?_,trm HB1.out hb2⟩
    have hf:=of_decide_eq_true HF.out
    rw [Bool.eq_iff_iff]
    simp [okO]
    omega
  · have HF:=yy0 (decide_eq_false hf)
    clear hf
    go_enter Tryz.func289,Tryz.ntmps289
    go_wp2_with fail
    rw [HW0.out]
    refine(zcm _ _ _ _).mono ?_
    rintro e w1 ⟨rfl,hb1⟩
    have HB1:=trh HB0 hb1
    have hP:=HP0.out.below hb1
    have hQ:=HQ0.out.below hb1
    obtain⟨p0,p1,p2,p3,p4,p5⟩:=bb6 hP
    obtain⟨q0,q1,q2,q3⟩:=bb4 hQ
    have hne:=neB w1
    clear hb1 hP hQ HW0 HB0 HP0 HQ0
    go_wp2_with fail
    refine wrb ?_
    repeat(go_big_quiet_step (first|(go_at_call 312;exact Beyond.of (yx9 (zdp _ _ _ _ _ _ _ _ _ _ _) (c:=false) HF.out))))
    refine wpQuiet_nil ?_
    rintro w2 ⟨⟨_,hb2⟩,rfl⟩
    clear p0 p1 p2 p3 p4 p5 q0 q1 q2 q3 hne
    go_wp2
    go_ret
    refine⟨ye8 ?_,trm HB1.out hb2⟩
    have hf:=of_decide_eq_false HF.out
    simp [okO]
    omega
theorem zmf (n s z:Int) (vi vs:Value) (ah:Option Addr) (len cap:Nat) (a b k:Int) (w:World):
    Calls Tryz.prog 289 #[.agg #[.int .i64 n,.int .i64 s,vi,.slice ah len cap,vs,.int .i64 z],.agg #[.int .i64 1,.int .i64 a,.int .i64 b,.int .i64 k]] w fun e w'=>
      e= .returned (.bool (okO n len 1 a b k))∧Below w.heap.size w w':=by
  obtain⟨W0,hW0⟩:∃W0,(w.alloc (.cells #[.int .i64 n,.int .i64 s,vi,.slice ah len cap,vs,.int .i64 z] 36)).alloc (.cells #[.int .i64 1,.int .i64 a,.int .i64 b,.int .i64 k] 244)=W0:=⟨_,rfl⟩
  have HB0:=hdq (beA2 hW0)
  have HP0:=hdq (bkA2 hW0)
  have HQ0:=hdq (bkB2 hW0)
  have HW0:=yy0 hW0
  clear hW0
  by_cases hf:0≤a∧a≤1
  · have HF:=yy0 (decide_eq_true hf)
    clear hf
    have me:∀W:World,(method 496 367 (.agg #[.int .i64 a]) "loop.example/g00603/impl.op").run Tryz.prog W= .ok (339,.agg #[.int .i64 a]) W:=m_taking a
    by_cases z0:b=0
    case neg=>
      have y0:¬(0:Int)=b:=fun e=>z0 e.symm
      have x0:((0:Int)==b)=false:=by simp [y0]
      have Z0:Hid (¬b=0):=z0
      go_enter Tryz.func289,Tryz.ntmps289
      go_wp2_with fail
      rw [HW0.out]
      refine(zb5 _ _ _ _).mono ?_
      rintro e w1 ⟨rfl,hb1⟩
      have HB1:=trh HB0 hb1
      have hP:=HP0.out.below hb1
      have hQ:=HQ0.out.below hb1
      obtain⟨p0,p1,p2,p3,p4,p5⟩:=bb6 hP
      obtain⟨q0,q1,q2,q3⟩:=bb4 hQ
      have hne:=neB w1
      clear hb1 hP hQ HW0 HB0 HP0 HQ0
      go_wp2_with fail
      refine wrb ?_
      repeat(go_big_quiet_step (first|(go_at_call 312;exact Beyond.of (yx9 (zc0 _ _ _ _ _ _ _ _ _ _) (c:=true) HF.out))|(go_at_call 339;exact Beyond.of (zen _ _))))
      refine wpQuiet_nil ?_
      rintro w2 ⟨⟨_,hb2⟩,rfl⟩
      clear p0 p1 p2 p3 p4 p5 q0 q1 q2 q3 hne
      go_wp2
      go_ret
      refine⟨ye8 ?_,trm HB1.out hb2⟩
      have hz:=Z0.out
      simp [okO]
      omega
    subst z0
    by_cases z1:k=0
    case neg=>
      have y1:¬(0:Int)=k:=fun e=>z1 e.symm
      have x1:((0:Int)==k)=false:=by simp [y1]
      have Z1:Hid (¬k=0):=z1
      go_enter Tryz.func289,Tryz.ntmps289
      go_wp2_with fail
      rw [HW0.out]
      refine(zb5 _ _ _ _).mono ?_
      rintro e w1 ⟨rfl,hb1⟩
      have HB1:=trh HB0 hb1
      have hP:=HP0.out.below hb1
      have hQ:=HQ0.out.below hb1
      obtain⟨p0,p1,p2,p3,p4,p5⟩:=bb6 hP
      obtain⟨q0,q1,q2,q3⟩:=bb4 hQ
      have hne:=neB w1
      clear hb1 hP hQ HW0 HB0 HP0 HQ0
      go_wp2_with fail
      refine wrb ?_
      repeat(go_big_quiet_step (first|(go_at_call 312;exact Beyond.of (yx9 (zc0 _ _ _ _ _ _ _ _ _ _) (c:=true) HF.out))|(go_at_call 339;exact Beyond.of (zen _ _))))
      refine wpQuiet_nil ?_
      rintro w2 ⟨⟨_,hb2⟩,rfl⟩
      clear p0 p1 p2 p3 p4 p5 q0 q1 q2 q3 hne
      go_wp2
      go_ret
      refine⟨ye8 ?_,trm HB1.out hb2⟩
      have hz:=Z1.out
      simp [okO]
      omega
    subst z1
    go_enter Tryz.func289,Tryz.ntmps289
    go_wp2_with fail
    rw [HW0.out]
    refine(zb5 _ _ _ _).mono ?_
    rintro e w1 ⟨rfl,hb1⟩
    have HB1:=trh HB0 hb1
    have hP:=HP0.out.below hb1
    have hQ:=HQ0.out.below hb1
    obtain⟨p0,p1,p2,p3,p4,p5⟩:=bb6 hP
    obtain⟨q0,q1,q2,q3⟩:=bb4 hQ
    have hne:=neB w1
    clear hb1 hP hQ HW0 HB0 HP0 HQ0
    go_wp2_with fail
    refine wrb ?_
    repeat(go_big_quiet_step (first|(go_at_call 312;exact Beyond.of (yx9 (zc0 _ _ _ _ _ _ _ _ _ _) (c:=true) HF.out))|(go_at_call 339;exact Beyond.of (zen _ _))))
    refine wpQuiet_nil ?_
    rintro w2 ⟨⟨_,hb2⟩,rfl⟩
    clear p0 p1 p2 p3 p4 p5 q0 q1 q2 q3 hne
    go_wp2
    go_ret
    refine⟨ye8 ?_,trm HB1.out hb2⟩
    have hf:=of_decide_eq_true HF.out
    rw [Bool.eq_iff_iff]
    simp [okO]
    omega
  · have HF:=yy0 (decide_eq_false hf)
    clear hf
    go_enter Tryz.func289,Tryz.ntmps289
    go_wp2_with fail
    rw [HW0.out]
    refine(zb5 _ _ _ _).mono ?_
    rintro e w1 ⟨rfl,hb1⟩
    have HB1:=trh HB0 hb1
    have hP:=HP0.out.below hb1
    have hQ:=HQ0.out.below hb1
    obtain⟨p0,p1,p2,p3,p4,p5⟩:=bb6 hP
    obtain⟨q0,q1,q2,q3⟩:=bb4 hQ
    have hne:=neB w1
    clear hb1 hP hQ HW0 HB0 HP0 HQ0
    go_wp2_with fail
    refine wrb ?_
    repeat(go_big_quiet_step (first|(go_at_call 312;exact Beyond.of (yx9 (zc0 _ _ _ _ _ _ _ _ _ _) (c:=false) HF.out))))
    refine wpQuiet_nil ?_
    rintro w2 ⟨⟨_,hb2⟩,rfl⟩
    clear p0 p1 p2 p3 p4 p5 q0 q1 q2 q3 hne
    go_wp2
    go_ret
    refine⟨ye8 ?_,trm HB1.out hb2⟩
    have hf:=of_decide_eq_false HF.out
    simp [okO]
    omega
theorem zjc (n s z:Int) (vi vs:Value) (ah:Option Addr) (len cap:Nat) (a b k:Int) (w:World):
    Calls Tryz.prog 289 #[.agg #[.int .i64 n,.int .i64 s,vi,.slice ah len cap,vs,.int .i64 z],.agg #[.int .i64 2,.int .i64 a,.int .i64 b,.int .i64 k]] w fun e w'=>
      e= .returned (.bool (okO n len 2 a b k))∧Below w.heap.size w w':=by
  obtain⟨W0,hW0⟩:∃W0,(w.alloc (.cells #[.int .i64 n,.int .i64 s,vi,.slice ah len cap,vs,.int .i64 z] 36)).alloc (.cells #[.int .i64 2,.int .i64 a,.int .i64 b,.int .i64 k] 244)=W0:=⟨_,rfl⟩
  have HB0:=hdq (beA2 hW0)
  have HP0:=hdq (bkA2 hW0)
  have HQ0:=hdq (bkB2 hW0)
  have HW0:=yy0 hW0
  clear hW0
  by_cases hf:0≤a∧a<n∧1≤b∧b≤50∧0≤k∧k<(len:Int)
  · have HF:=yy0 (decide_eq_true hf)
    clear hf
    have me:∀W:World,(method 496 369 (.agg #[.int .i64 a,.int .i64 b,.int .i64 k]) "loop.example/g00603/impl.op").run Tryz.prog W= .ok (340,.agg #[.int .i64 a,.int .i64 b,.int .i64 k]) W:=zo9 a b k
    go_enter Tryz.func289,Tryz.ntmps289
    go_wp2_with fail
    rw [HW0.out]
    refine(zdu _ _ _ _).mono ?_
    rintro e w1 ⟨rfl,hb1⟩
    have HB1:=trh HB0 hb1
    have hP:=HP0.out.below hb1
    have hQ:=HQ0.out.below hb1
    obtain⟨p0,p1,p2,p3,p4,p5⟩:=bb6 hP
    obtain⟨q0,q1,q2,q3⟩:=bb4 hQ
    have hne:=neB w1
    clear hb1 hP hQ HW0 HB0 HP0 HQ0
    go_wp2_with fail
    refine wrb ?_
    repeat(go_big_quiet_step (first|(go_at_call 312;exact Beyond.of (yx9 (zez _ _ _ _ _ _ _ _ _ _ _ _) (c:=true) HF.out))|(go_at_call 340;exact Beyond.of (zm4 _ _ _ _))))
    refine wpQuiet_nil ?_
    rintro w2 ⟨⟨_,hb2⟩,rfl⟩
    clear p0 p1 p2 p3 p4 p5 q0 q1 q2 q3 hne
    go_wp2
    go_ret
    refine⟨ye8 ?_,trm HB1.out hb2⟩
    have hf:=of_decide_eq_true HF.out
    rw [Bool.eq_iff_iff]
    simp [okO]
    omega
  · have HF:=yy0 (decide_eq_false hf)
    clear hf
    go_enter Tryz.func289,Tryz.ntmps289
    go_wp2_with fail
    rw [HW0.out]
    refine(zdu _ _ _ _).mono ?_
    rintro e w1 ⟨rfl,hb1⟩
    have HB1:=trh HB0 hb1
    have hP:=HP0.out.below hb1
    have hQ:=HQ0.out.below hb1
    obtain⟨p0,p1,p2,p3,p4,p5⟩:=bb6 hP
    obtain⟨q0,q1,q2,q3⟩:=bb4 hQ
    have hne:=neB w1
    clear hb1 hP hQ HW0 HB0 HP0 HQ0
    go_wp2_with fail
    refine wrb ?_
    repeat(go_big_quiet_step (first|(go_at_call 312;exact Beyond.of (yx9 (zez _ _ _ _ _ _ _ _ _ _ _ _) (c:=false) HF.out))))
    refine wpQuiet_nil ?_
    rintro w2 ⟨⟨_,hb2⟩,rfl⟩
    clear p0 p1 p2 p3 p4 p5 q0 q1 q2 q3 hne
    go_wp2
    go_ret
    refine⟨ye8 ?_,trm HB1.out hb2⟩
    have hf:=of_decide_eq_false HF.out
    simp [okO]
    omega
theorem zhv (n s z:Int) (vi vs:Value) (ah:Option Addr) (len cap:Nat) (a b k:Int) (w:World):
    Calls Tryz.prog 289 #[.agg #[.int .i64 n,.int .i64 s,vi,.slice ah len cap,vs,.int .i64 z],.agg #[.int .i64 3,.int .i64 a,.int .i64 b,.int .i64 k]] w fun e w'=>
      e= .returned (.bool (okO n len 3 a b k))∧Below w.heap.size w w':=by
  obtain⟨W0,hW0⟩:∃W0,(w.alloc (.cells #[.int .i64 n,.int .i64 s,vi,.slice ah len cap,vs,.int .i64 z] 36)).alloc (.cells #[.int .i64 3,.int .i64 a,.int .i64 b,.int .i64 k] 244)=W0:=⟨_,rfl⟩
  have HB0:=hdq (beA2 hW0)
  have HP0:=hdq (bkA2 hW0)
  have HQ0:=hdq (bkB2 hW0)
  have HW0:=yy0 hW0
  clear hW0
  by_cases hf:0≤a∧a≤1∧0≤b∧b≤999∧1≤k∧k≤8
  · have HF:=yy0 (decide_eq_true hf)
    clear hf
    have me:∀W:World,(method 496 371 (.agg #[.int .i64 a,.int .i64 b,.int .i64 k]) "loop.example/g00603/impl.op").run Tryz.prog W= .ok (341,.agg #[.int .i64 a,.int .i64 b,.int .i64 k]) W:=zmb a b k
    go_enter Tryz.func289,Tryz.ntmps289
    go_wp2_with fail
    rw [HW0.out]
    refine(zd7 _ _ _ _).mono ?_
    rintro e w1 ⟨rfl,hb1⟩
    have HB1:=trh HB0 hb1
    have hP:=HP0.out.below hb1
    have hQ:=HQ0.out.below hb1
    obtain⟨p0,p1,p2,p3,p4,p5⟩:=bb6 hP
    obtain⟨q0,q1,q2,q3⟩:=bb4 hQ
    have hne:=neB w1
    clear hb1 hP hQ HW0 HB0 HP0 HQ0
    go_wp2_with fail
    refine wrb ?_
    repeat(go_big_quiet_step (first|(go_at_call 312;exact Beyond.of (yx9 (zds _ _ _ _ _ _ _ _ _ _ _ _) (c:=true) HF.out))|(go_at_call 341;exact Beyond.of (zj4 _ _ _ _))))
    refine wpQuiet_nil ?_
    rintro w2 ⟨⟨_,hb2⟩,rfl⟩
    clear p0 p1 p2 p3 p4 p5 q0 q1 q2 q3 hne
    go_wp2
    go_ret
    refine⟨ye8 ?_,trm HB1.out hb2⟩
    have hf:=of_decide_eq_true HF.out
    rw [Bool.eq_iff_iff]
    simp [okO]
    omega
  · have HF:=yy0 (decide_eq_false hf)
    clear hf
    go_enter Tryz.func289,Tryz.ntmps289
    go_wp2_with fail
    rw [HW0.out]
    refine(zd7 _ _ _ _).mono ?_
    rintro e w1 ⟨rfl,hb1⟩
    have HB1:=trh HB0 hb1
    have hP:=HP0.out.below hb1
    have hQ:=HQ0.out.below hb1
    obtain⟨p0,p1,p2,p3,p4,p5⟩:=bb6 hP
    obtain⟨q0,q1,q2,q3⟩:=bb4 hQ
    have hne:=neB w1
    clear hb1 hP hQ HW0 HB0 HP0 HQ0
    go_wp2_with fail
    refine wrb ?_
    repeat(go_big_quiet_step (first|(go_at_call 312;exact Beyond.of (yx9 (zds _ _ _ _ _ _ _ _ _ _ _ _) (c:=false) HF.out))))
    refine wpQuiet_nil ?_
    rintro w2 ⟨⟨_,hb2⟩,rfl⟩
    clear p0 p1 p2 p3 p4 p5 q0 q1 q2 q3 hne
    go_wp2
    go_ret
    refine⟨ye8 ?_,trm HB1.out hb2⟩
    have hf:=of_decide_eq_false HF.out
    simp [okO]
    omega
theorem zmg (n s z:Int) (vi vs:Value) (ah:Option Addr) (len cap:Nat) (a b k:Int) (w:World):
    Calls Tryz.prog 289 #[.agg #[.int .i64 n,.int .i64 s,vi,.slice ah len cap,vs,.int .i64 z],.agg #[.int .i64 4,.int .i64 a,.int .i64 b,.int .i64 k]] w fun e w'=>
      e= .returned (.bool (okO n len 4 a b k))∧Below w.heap.size w w':=by
  obtain⟨W0,hW0⟩:∃W0,(w.alloc (.cells #[.int .i64 n,.int .i64 s,vi,.slice ah len cap,vs,.int .i64 z] 36)).alloc (.cells #[.int .i64 4,.int .i64 a,.int .i64 b,.int .i64 k] 244)=W0:=⟨_,rfl⟩
  have HB0:=hdq (beA2 hW0)
  have HP0:=hdq (bkA2 hW0)
  have HQ0:=hdq (bkB2 hW0)
  have HW0:=yy0 hW0
  clear hW0
  by_cases hf:0≤a∧a<4∧0≤b∧b≤1
  · have HF:=yy0 (decide_eq_true hf)
    clear hf
    have me:∀W:World,(method 496 373 (.agg #[.int .i64 a,.int .i64 b]) "loop.example/g00603/impl.op").run Tryz.prog W= .ok (342,.agg #[.int .i64 a,.int .i64 b]) W:=m_asking a b
    by_cases z0:k=0
    case neg=>
      have y0:¬(0:Int)=k:=fun e=>z0 e.symm
      have x0:((0:Int)==k)=false:=by simp [y0]
      have Z0:Hid (¬k=0):=z0
      go_enter Tryz.func289,Tryz.ntmps289
      go_wp2_with fail
      rw [HW0.out]
      refine(zcl _ _ _ _).mono ?_
      rintro e w1 ⟨rfl,hb1⟩
      have HB1:=trh HB0 hb1
      have hP:=HP0.out.below hb1
      have hQ:=HQ0.out.below hb1
      obtain⟨p0,p1,p2,p3,p4,p5⟩:=bb6 hP
      obtain⟨q0,q1,q2,q3⟩:=bb4 hQ
      have hne:=neB w1
      clear hb1 hP hQ HW0 HB0 HP0 HQ0
      go_wp2_with fail
      refine wrb ?_
      repeat(go_big_quiet_step (first|(go_at_call 312;exact Beyond.of (yx9 (zdo _ _ _ _ _ _ _ _ _ _ _) (c:=true) HF.out))|(go_at_call 342;exact Beyond.of (zhp _ _ _))))
      refine wpQuiet_nil ?_
      rintro w2 ⟨⟨_,hb2⟩,rfl⟩
      clear p0 p1 p2 p3 p4 p5 q0 q1 q2 q3 hne
      go_wp2
      go_ret
      refine⟨ye8 ?_,trm HB1.out hb2⟩
      have hz:=Z0.out
      simp [okO]
      omega
    subst z0
    go_enter Tryz.func289,Tryz.ntmps289
    go_wp2_with fail
    rw [HW0.out]
    refine(zcl _ _ _ _).mono ?_
    rintro e w1 ⟨rfl,hb1⟩
    have HB1:=trh HB0 hb1
    have hP:=HP0.out.below hb1
    have hQ:=HQ0.out.below hb1
    obtain⟨p0,p1,p2,p3,p4,p5⟩:=bb6 hP
    obtain⟨q0,q1,q2,q3⟩:=bb4 hQ
    have hne:=neB w1
    clear hb1 hP hQ HW0 HB0 HP0 HQ0
    go_wp2_with fail
    refine wrb ?_
    repeat(go_big_quiet_step (first|(go_at_call 312;exact Beyond.of (yx9 (zdo _ _ _ _ _ _ _ _ _ _ _) (c:=true) HF.out))|(go_at_call 342;exact Beyond.of (zhp _ _ _))))
    refine wpQuiet_nil ?_
    rintro w2 ⟨⟨_,hb2⟩,rfl⟩
    clear p0 p1 p2 p3 p4 p5 q0 q1 q2 q3 hne
    go_wp2
    go_ret
    refine⟨ye8 ?_,trm HB1.out hb2⟩
    have hf:=of_decide_eq_true HF.out
    rw [Bool.eq_iff_iff]
    simp [okO]
    omega
  · have HF:=yy0 (decide_eq_false hf)
    clear hf
    go_enter Tryz.func289,Tryz.ntmps289
    go_wp2_with fail
    rw [HW0.out]
    refine(zcl _ _ _ _).mono ?_
    rintro e w1 ⟨rfl,hb1⟩
    have HB1:=trh HB0 hb1
    have hP:=HP0.out.below hb1
    have hQ:=HQ0.out.below hb1
    obtain⟨p0,p1,p2,p3,p4,p5⟩:=bb6 hP
    obtain⟨q0,q1,q2,q3⟩:=bb4 hQ
    have hne:=neB w1
    clear hb1 hP hQ HW0 HB0 HP0 HQ0
    go_wp2_with fail
    refine wrb ?_
    repeat(go_big_quiet_step (first|(go_at_call 312;exact Beyond.of (yx9 (zdo _ _ _ _ _ _ _ _ _ _ _) (c:=false) HF.out))))
    refine wpQuiet_nil ?_
    rintro w2 ⟨⟨_,hb2⟩,rfl⟩
    clear p0 p1 p2 p3 p4 p5 q0 q1 q2 q3 hne
    go_wp2
    go_ret
    refine⟨ye8 ?_,trm HB1.out hb2⟩
    have hf:=of_decide_eq_false HF.out
    simp [okO]
    omega
theorem zhw (n s z:Int) (vi vs:Value) (ah:Option Addr) (len cap:Nat) (a b k:Int) (w:World):
    Calls Tryz.prog 289 #[.agg #[.int .i64 n,.int .i64 s,vi,.slice ah len cap,vs,.int .i64 z],.agg #[.int .i64 5,.int .i64 a,.int .i64 b,.int .i64 k]] w fun e w'=>
      e= .returned (.bool (okO n len 5 a b k))∧Below w.heap.size w w':=by
  obtain⟨W0,hW0⟩:∃W0,(w.alloc (.cells #[.int .i64 n,.int .i64 s,vi,.slice ah len cap,vs,.int .i64 z] 36)).alloc (.cells #[.int .i64 5,.int .i64 a,.int .i64 b,.int .i64 k] 244)=W0:=⟨_,rfl⟩
  have HB0:=hdq (beA2 hW0)
  have HP0:=hdq (bkA2 hW0)
  have HQ0:=hdq (bkB2 hW0)
  have HW0:=yy0 hW0
  clear hW0
  by_cases hf:0≤a∧a≤1
  · have HF:=yy0 (decide_eq_true hf)
    clear hf
    have me:∀W:World,(method 496 374 (.agg #[.int .i64 a]) "loop.example/g00603/impl.op").run Tryz.prog W= .ok (343,.agg #[.int .i64 a]) W:=zmc a
    by_cases z0:b=0
    case neg=>
      have y0:¬(0:Int)=b:=fun e=>z0 e.symm
      have x0:((0:Int)==b)=false:=by simp [y0]
      have Z0:Hid (¬b=0):=z0
      go_enter Tryz.func289,Tryz.ntmps289
      go_wp2_with fail
      rw [HW0.out]
      refine(za3 _ _ _ _).mono ?_
      rintro e w1 ⟨rfl,hb1⟩
      have HB1:=trh HB0 hb1
      have hP:=HP0.out.below hb1
      have hQ:=HQ0.out.below hb1
      obtain⟨p0,p1,p2,p3,p4,p5⟩:=bb6 hP
      obtain⟨q0,q1,q2,q3⟩:=bb4 hQ
      have hne:=neB w1
      clear hb1 hP hQ HW0 HB0 HP0 HQ0
      go_wp2_with fail
      refine wrb ?_
      repeat(go_big_quiet_step (first|(go_at_call 312;exact Beyond.of (yx9 (zan _ _ _ _ _ _ _ _ _ _) (c:=true) HF.out))|(go_at_call 343;exact Beyond.of (zce _ _))))
      refine wpQuiet_nil ?_
      rintro w2 ⟨⟨_,hb2⟩,rfl⟩
      clear p0 p1 p2 p3 p4 p5 q0 q1 q2 q3 hne
      go_wp2
      go_ret
      refine⟨ye8 ?_,trm HB1.out hb2⟩
      have hz:=Z0.out
      simp [okO]
      omega
    subst z0
    by_cases z1:k=0
    case neg=>
      have y1:¬(0:Int)=k:=fun e=>z1 e.symm
      have x1:((0:Int)==k)=false:=by simp [y1]
      have Z1:Hid (¬k=0):=z1
      go_enter Tryz.func289,Tryz.ntmps289
      go_wp2_with fail
      rw [HW0.out]
      refine(za3 _ _ _ _).mono ?_
      rintro e w1 ⟨rfl,hb1⟩
      have HB1:=trh HB0 hb1
      have hP:=HP0.out.below hb1
      have hQ:=HQ0.out.below hb1
      obtain⟨p0,p1,p2,p3,p4,p5⟩:=bb6 hP
      obtain⟨q0,q1,q2,q3⟩:=bb4 hQ
      have hne:=neB w1
      clear hb1 hP hQ HW0 HB0 HP0 HQ0
      go_wp2_with fail
      refine wrb ?_
      repeat(go_big_quiet_step (first|(go_at_call 312;exact Beyond.of (yx9 (zan _ _ _ _ _ _ _ _ _ _) (c:=true) HF.out))|(go_at_call 343;exact Beyond.of (zce _ _))))
      refine wpQuiet_nil ?_
      rintro w2 ⟨⟨_,hb2⟩,rfl⟩
      clear p0 p1 p2 p3 p4 p5 q0 q1 q2 q3 hne
      go_wp2
      go_ret
      refine⟨ye8 ?_,trm HB1.out hb2⟩
      have hz:=Z1.out
      simp [okO]
      omega
    subst z1
    go_enter Tryz.func289,Tryz.ntmps289
    go_wp2_with fail
    rw [HW0.out]
    refine(za3 _ _ _ _).mono ?_
    rintro e w1 ⟨rfl,hb1⟩
    have HB1:=trh HB0 hb1
    have hP:=HP0.out.below hb1
    have hQ:=HQ0.out.below hb1
    obtain⟨p0,p1,p2,p3,p4,p5⟩:=bb6 hP
    obtain⟨q0,q1,q2,q3⟩:=bb4 hQ
    have hne:=neB w1
    clear hb1 hP hQ HW0 HB0 HP0 HQ0
    go_wp2_with fail
    refine wrb ?_
    repeat(go_big_quiet_step (first|(go_at_call 312;exact Beyond.of (yx9 (zan _ _ _ _ _ _ _ _ _ _) (c:=true) HF.out))|(go_at_call 343;exact Beyond.of (zce _ _))))
    refine wpQuiet_nil ?_
    rintro w2 ⟨⟨_,hb2⟩,rfl⟩
    clear p0 p1 p2 p3 p4 p5 q0 q1 q2 q3 hne
    go_wp2
    go_ret
    refine⟨ye8 ?_,trm HB1.out hb2⟩
    have hf:=of_decide_eq_true HF.out
    rw [Bool.eq_iff_iff]
    simp [okO]
    omega
  · have HF:=yy0 (decide_eq_false hf)
    clear hf
    go_enter Tryz.func289,Tryz.ntmps289
    go_wp2_with fail
    rw [HW0.out]
    refine(za3 _ _ _ _).mono ?_
    rintro e w1 ⟨rfl,hb1⟩
    have HB1:=trh HB0 hb1
    have hP:=HP0.out.below hb1
    have hQ:=HQ0.out.below hb1
    obtain⟨p0,p1,p2,p3,p4,p5⟩:=bb6 hP
    obtain⟨q0,q1,q2,q3⟩:=bb4 hQ
    have hne:=neB w1
    clear hb1 hP hQ HW0 HB0 HP0 HQ0
    go_wp2_with fail
    refine wrb ?_
    repeat(go_big_quiet_step (first|(go_at_call 312;exact Beyond.of (yx9 (zan _ _ _ _ _ _ _ _ _ _) (c:=false) HF.out))))
    refine wpQuiet_nil ?_
    rintro w2 ⟨⟨_,hb2⟩,rfl⟩
    clear p0 p1 p2 p3 p4 p5 q0 q1 q2 q3 hne
    go_wp2
    go_ret
    refine⟨ye8 ?_,trm HB1.out hb2⟩
    have hf:=of_decide_eq_false HF.out
    simp [okO]
    omega
theorem zjd (n s z:Int) (vi vs:Value) (ah:Option Addr) (len cap:Nat) (a b k:Int) (w:World):
    Calls Tryz.prog 289 #[.agg #[.int .i64 n,.int .i64 s,vi,.slice ah len cap,vs,.int .i64 z],.agg #[.int .i64 6,.int .i64 a,.int .i64 b,.int .i64 k]] w fun e w'=>
      e= .returned (.bool (okO n len 6 a b k))∧Below w.heap.size w w':=by
  obtain⟨W0,hW0⟩:∃W0,(w.alloc (.cells #[.int .i64 n,.int .i64 s,vi,.slice ah len cap,vs,.int .i64 z] 36)).alloc (.cells #[.int .i64 6,.int .i64 a,.int .i64 b,.int .i64 k] 244)=W0:=⟨_,rfl⟩
  have HB0:=hdq (beA2 hW0)
  have HP0:=hdq (bkA2 hW0)
  have HQ0:=hdq (bkB2 hW0)
  have HW0:=yy0 hW0
  clear hW0
  by_cases hf:0≤a∧a≤1∧1≤b∧b≤999
  · have HF:=yy0 (decide_eq_true hf)
    clear hf
    have me:∀W:World,(method 496 376 (.agg #[.int .i64 a,.int .i64 b]) "loop.example/g00603/impl.op").run Tryz.prog W= .ok (344,.agg #[.int .i64 a,.int .i64 b]) W:=zoa a b
    by_cases z0:k=0
    case neg=>
      have y0:¬(0:Int)=k:=fun e=>z0 e.symm
      have x0:((0:Int)==k)=false:=by simp [y0]
      have Z0:Hid (¬k=0):=z0
      go_enter Tryz.func289,Tryz.ntmps289
      go_wp2_with fail
      rw [HW0.out]
      refine(zbq _ _ _ _).mono ?_
      rintro e w1 ⟨rfl,hb1⟩
      have HB1:=trh HB0 hb1
      have hP:=HP0.out.below hb1
      have hQ:=HQ0.out.below hb1
      obtain⟨p0,p1,p2,p3,p4,p5⟩:=bb6 hP
      obtain⟨q0,q1,q2,q3⟩:=bb4 hQ
      have hne:=neB w1
      clear hb1 hP hQ HW0 HB0 HP0 HQ0
      go_wp2_with fail
      refine wrb ?_
      repeat(go_big_quiet_step (first|(go_at_call 312;exact Beyond.of (yx9 (zck _ _ _ _ _ _ _ _ _ _ _) (c:=true) HF.out))|(go_at_call 344;exact Beyond.of (zfk _ _ _))))
      refine wpQuiet_nil ?_
      rintro w2 ⟨⟨_,hb2⟩,rfl⟩
      clear p0 p1 p2 p3 p4 p5 q0 q1 q2 q3 hne
      go_wp2
      go_ret
      refine⟨ye8 ?_,trm HB1.out hb2⟩
      have hz:=Z0.out
      simp [okO]
      omega
    subst z0
    go_enter Tryz.func289,Tryz.ntmps289
    go_wp2_with fail
    rw [HW0.out]
    refine(zbq _ _ _ _).mono ?_
    rintro e w1 ⟨rfl,hb1⟩
    have HB1:=trh HB0 hb1
    have hP:=HP0.out.below hb1
    have hQ:=HQ0.out.below hb1
    obtain⟨p0,p1,p2,p3,p4,p5⟩:=bb6 hP
    obtain⟨q0,q1,q2,q3⟩:=bb4 hQ
    have hne:=neB w1
    clear hb1 hP hQ HW0 HB0 HP0 HQ0
    go_wp2_with fail
    refine wrb ?_
    repeat(go_big_quiet_step (first|(go_at_call 312;exact Beyond.of (yx9 (zck _ _ _ _ _ _ _ _ _ _ _) (c:=true) HF.out))|(go_at_call 344;exact Beyond.of (zfk _ _ _))))
    refine wpQuiet_nil ?_
    rintro w2 ⟨⟨_,hb2⟩,rfl⟩
    clear p0 p1 p2 p3 p4 p5 q0 q1 q2 q3 hne
    go_wp2
    go_ret
    refine⟨ye8 ?_,trm HB1.out hb2⟩
    have hf:=of_decide_eq_true HF.out
    rw [Bool.eq_iff_iff]
    simp [okO]
    omega
  · have HF:=yy0 (decide_eq_false hf)
    clear hf
    go_enter Tryz.func289,Tryz.ntmps289
    go_wp2_with fail
    rw [HW0.out]
    refine(zbq _ _ _ _).mono ?_
    rintro e w1 ⟨rfl,hb1⟩
    have HB1:=trh HB0 hb1
    have hP:=HP0.out.below hb1
    have hQ:=HQ0.out.below hb1
    obtain⟨p0,p1,p2,p3,p4,p5⟩:=bb6 hP
    obtain⟨q0,q1,q2,q3⟩:=bb4 hQ
    have hne:=neB w1
    clear hb1 hP hQ HW0 HB0 HP0 HQ0
    go_wp2_with fail
    refine wrb ?_
    repeat(go_big_quiet_step (first|(go_at_call 312;exact Beyond.of (yx9 (zck _ _ _ _ _ _ _ _ _ _ _) (c:=false) HF.out))))
    refine wpQuiet_nil ?_
    rintro w2 ⟨⟨_,hb2⟩,rfl⟩
    clear p0 p1 p2 p3 p4 p5 q0 q1 q2 q3 hne
    go_wp2
    go_ret
    refine⟨ye8 ?_,trm HB1.out hb2⟩
    have hf:=of_decide_eq_false HF.out
    simp [okO]
    omega
theorem iOp_none (n s z:Int) (vi vs:Value) (ah:Option Addr) (len cap:Nat) (c a b k:Int) (w:World) (hc:¬c=0∧ ¬c=1∧ ¬c=2∧ ¬c=3∧ ¬c=4∧ ¬c=5∧ ¬c=6):
    Calls Tryz.prog 289 #[.agg #[.int .i64 n,.int .i64 s,vi,.slice ah len cap,vs,.int .i64 z],.agg #[.int .i64 c,.int .i64 a,.int .i64 b,.int .i64 k]] w fun e w'=>
      e= .returned (.bool (okO n len c a b k))∧Below w.heap.size w w':=by
  obtain⟨W0,hW0⟩:∃W0,(w.alloc (.cells #[.int .i64 n,.int .i64 s,vi,.slice ah len cap,vs,.int .i64 z] 36)).alloc (.cells #[.int .i64 c,.int .i64 a,.int .i64 b,.int .i64 k] 244)=W0:=⟨_,rfl⟩
  have HB0:=hdq (beA2 hW0)
  have HP0:=hdq (bkA2 hW0)
  have HQ0:=hdq (bkB2 hW0)
  have HW0:=yy0 hW0
  clear hW0
  have HC:=yy0 hc
  clear hc
  go_enter Tryz.func289,Tryz.ntmps289
  go_wp2_with fail
  rw [HW0.out]
  refine(zp6 _ _ _ _ _ HC.out.1 HC.out.2.1 HC.out.2.2.1 HC.out.2.2.2.1 HC.out.2.2.2.2.1 HC.out.2.2.2.2.2.1 HC.out.2.2.2.2.2.2).mono ?_
  rintro e w1 ⟨rfl,hb1⟩
  have HB1:=trh HB0 hb1
  have hP:=HP0.out.below hb1
  have hQ:=HQ0.out.below hb1
  obtain⟨p0,p1,p2,p3,p4,p5⟩:=bb6 hP
  obtain⟨q0,q1,q2,q3⟩:=bb4 hQ
  have hne:=neB w1
  clear hb1 hP hQ HW0 HB0 HP0 HQ0
  go_wp2_with fail
  refine wrb ?_
  repeat(go_big_quiet_step (first|(go_at_call 312;exact Beyond.of (fit_none _ _ _ _ _ _ _ _ _))))
  refine wpQuiet_nil ?_
  rintro w2 ⟨⟨_,hb2⟩,rfl⟩
  clear p0 p1 p2 p3 p4 p5 q0 q1 q2 q3 hne
  go_wp2
  go_ret
  refine⟨ye8 ?_,trm HB1.out hb2⟩
  obtain⟨c0,c1,c2,c3,c4,c5,c6⟩:=HC.out
  simp [okO,c0,c1,c2,c3,c4,c5,c6]
theorem iOp_any (n s z:Int) (vi vs:Value) (ah:Option Addr) (len cap:Nat) (c a b k:Int) (w:World):
    Calls Tryz.prog 289 #[.agg #[.int .i64 n,.int .i64 s,vi,.slice ah len cap,vs,.int .i64 z],.agg #[.int .i64 c,.int .i64 a,.int .i64 b,.int .i64 k]] w fun e w'=>
      e= .returned (.bool (okO n len c a b k))∧Below w.heap.size w w':=by
  have hc:c=0∨c=1∨c=2∨c=3∨c=4∨c=5∨c=6∨(¬c=0∧ ¬c=1∧ ¬c=2∧ ¬c=3∧ ¬c=4∧ ¬c=5∧ ¬c=6):=by omega
  rcases hc with rfl|rfl|rfl|rfl|rfl|rfl|rfl|hc
  · exact zmh _ _ _ _ _ _ _ _ _ _ _ _
  · exact zmf _ _ _ _ _ _ _ _ _ _ _ _
  · exact zjc _ _ _ _ _ _ _ _ _ _ _ _
  · exact zhv _ _ _ _ _ _ _ _ _ _ _ _
  · exact zmg _ _ _ _ _ _ _ _ _ _ _ _
  · exact zhw _ _ _ _ _ _ _ _ _ _ _ _
  · exact zjd _ _ _ _ _ _ _ _ _ _ _ _
  · exact iOp_none _ _ _ _ _ _ _ _ _ _ _ _ _ hc
end Go.Proofs.YtghndljgadpijaaGreat
