/- KMh, TPpB, KKe -/
import Derived.Test.YtghndljgadpijaaGreatExactCollectG01
import Derived.Test.YtghndljgadpijaaGreatExactCollectG44
import Derived.Test.YtghndljgadpijaaGreatExactCollectG19
import Derived.Deep.RegionHeld3
/- markKernel, heldKernel of any kernel. -/
namespace Go.Proofs.YtghndljgadpijaaGreat
set_option maxHeartbeats 8000000
set_option maxRecDepth 100000
open Go.RowKit
theorem ywh {p:Prop} (h:p):Hid p:=h
def HeldKg (F:Nat→Prop) (w:World) (y:Value) (k:Kn):Prop:=∃(A0 A6 A7 A8 A12 A13:Nat→Prop) (vi vh vs u6 u7 u8 u12 u13:Value),y= .agg #[.int .i64 k.m.n,.int .i64 k.m.s,vi,vh,vs,.int .i64 k.m.z,u6,u7,u8,.int .i64 k.t,.int .i64 k.q,.bool k.f,u12,u13]∧HeldM A0 w (.agg #[.int .i64 k.m.n,.int .i64 k.m.s,vi,vh,vs,.int .i64 k.m.z]) k.m∧OwnD w A6 u6 ((ywr k.d).mark (yzs k.m))∧OwnD w A7 u7 ((ywi k.p).mark (mg6 k))∧OwnD w A8 u8 ((yww k.b).mark (mg7 k))∧OwnD w A12 u12 ((evsD k.s).mark (mg8 k))∧OwnD w A13 u13 ((emsD k.x).mark (mg12 k))∧(∀j,A0 j→F j)∧(∀j,A6 j→F j)∧(∀j,A7 j→F j)∧(∀j,A8 j→F j)∧(∀j,A12 j→F j)∧(∀j,A13 j→F j)
theorem HeldKg.turns {F S:Nat→Prop} {w w':World} {y:Value} {k:Kn} (h:HeldKg F w y k) (ht:Turns S w w') (hS:∀j,F j→ ¬S j):HeldKg F w' y k:=by
  obtain⟨A0,A6,A7,A8,A12,A13,vi,vh,vs,u6,u7,u8,u12,u13,rfl,hm,h6,h7,h8,h12,h13,d0,d6,d7,d8,d12,d13⟩:=h
  exact⟨A0,A6,A7,A8,A12,A13,vi,vh,vs,u6,u7,u8,u12,u13,rfl,hm.turns ht (fun j hj=>hS j (d0 j hj)),h6.turns ht (fun j hj=>hS j (d6 j hj)),h7.turns ht (fun j hj=>hS j (d7 j hj)),h8.turns ht (fun j hj=>hS j (d8 j hj)),h12.turns ht (fun j hj=>hS j (d12 j hj)),h13.turns ht (fun j hj=>hS j (d13 j hj)),d0,d6,d7,d8,d12,d13⟩
theorem HeldKg.below {F:Nat→Prop} {w w':World} {y:Value} {k:Kn} (h:HeldKg F w y k) (hb:Below w.heap.size w w'):HeldKg F w' y k:=h.turns (S:=fun _=>False) (Turns.of_below hb) (fun _ _=>id)
theorem zm9 {F:Nat→Prop} {x:Value} {k:Kn} {w:World} (hs:ywy k) (h:KernF F w x k) (hF:∀j,F j→j<w.heap.size):
    Calls Tryz.prog 14 #[x,.int .i64 1] w fun e w'=>e= .returned (.int .i64 (zak k))∧HeldKg F w' x k∧Turns F w w':=by
  obtain⟨A0,A6,A7,A8,A12,A13,vi,vh,vs,u6,u7,u8,u12,u13,rfl,hm,h6,h7,h8,h12,h13,d0,d6,d7,d8,d12,d13⟩:=h
  have HS:Hid (ywy k):=hs
  obtain⟨hz0,hz1,hz2,hz3,hz4,hz5,hz6,hl7,hl8,hl6,hl12,hl13⟩:=zaa hs
  have HF:=ywh hF
  obtain⟨W0,hW0⟩:∃W0,w.alloc (.cells #[.int .i64 k.m.n,.int .i64 k.m.s,vi,vh,vs,.int .i64 k.m.z,u6,u7,u8,.int .i64 k.t,.int .i64 k.q,.bool k.f,u12,u13] 41)=W0:=⟨_,rfl⟩
  have HB0:=hdq (beA hW0)
  have HP0:=hdq (bkA hW0)
  have HT0:Hid (Turns F w W0):=Turns.of_below HB0.out
  have HW:=ywh hW0
  have O0_0:=ywh (hm.below HB0.out)
  have O6_0:=ywh (h6.under HB0.out)
  have O7_0:=ywh (h7.under HB0.out)
  have O8_0:=ywh (h8.under HB0.out)
  have O12_0:=ywh (h12.under HB0.out)
  have O13_0:=ywh (h13.under HB0.out)
  have D0:=ywh d0
  have D6:=ywh d6
  have D7:=ywh d7
  have D8:=ywh d8
  have D12:=ywh d12
  have D13:Hid (∀j,A13 j→F j):=d13
  clear hs hF hW0 hm h6 h7 h8 h12 h13 d0 d6 d7 d8 d12 d13
  go_enter Tryz.func14,Tryz.ntmps14
  obtain⟨p0,p1,p2,p3,p4,p5⟩:=zgw HP0.out
  go_wp2_with fail
  rw [HW.out]
  clear HW p0 p1 p2 p3 p4 p5
  refine(zcx HS.out.1 O0_0.out (fun j e=>Nat.lt_of_lt_of_le (HF.out j (D0.out j e).1) HB0.out.size)).mono ?_
  rintro e w1 ⟨rfl,hr,ht⟩
  have HP1:=ywh (HP0.out.turns ht (fun e=>by have:=HF.out _ ((D0.out _ e).1);omega))
  have HT1:Hid (Turns F w w1):=HT0.out.trans (ht.mono (fun j e=>(D0.out j e).1))
  have O0_1:=ywh hr
  have O6_1:=ywh (O6_0.out.turns ht (fun j e e'=>(D0.out j e').2.1 e))
  have O7_1:=ywh (O7_0.out.turns ht (fun j e e'=>(D0.out j e').2.2.1 e))
  have O8_1:=ywh (O8_0.out.turns ht (fun j e e'=>(D0.out j e').2.2.2.1 e))
  have O12_1:=ywh (O12_0.out.turns ht (fun j e e'=>(D0.out j e').2.2.2.2.1 e))
  have O13_1:=ywh (O13_0.out.turns ht (fun j e e'=>(D0.out j e').2.2.2.2.2 e))
  clear hr ht HP0 HT0 O0_0 O6_0 O7_0 O8_0 O12_0 O13_0
  have p6:=HP1.out.cell (i:=6) rfl
  go_wp2_with fail
  clear p6
  refine(zbk (F:=A6) (l:=k.d) (yzs k.m) (by omega) (by omega) (by omega) O6_1.out).mono ?_
  rintro e w2 ⟨rfl,hr,ht⟩
  have HP2:=ywh (HP1.out.turns ht (fun e=>by have:=HF.out _ ((D6.out _ e).1);omega))
  have HT2:Hid (Turns F w w2):=HT1.out.trans (ht.mono (fun j e=>(D6.out j e).1))
  have O0_2:=ywh (O0_1.out.turns ht (fun j e e'=>(D0.out j e).2.1 e'))
  have O6_2:=ywh hr
  have O7_2:=ywh (O7_1.out.turns ht (fun j e e'=>(D6.out j e').2.1 e))
  have O8_2:=ywh (O8_1.out.turns ht (fun j e e'=>(D6.out j e').2.2.1 e))
  have O12_2:=ywh (O12_1.out.turns ht (fun j e e'=>(D6.out j e').2.2.2.1 e))
  have O13_2:=ywh (O13_1.out.turns ht (fun j e e'=>(D6.out j e').2.2.2.2 e))
  clear hr ht HP1 HT1 O0_1 O6_1 O7_1 O8_1 O12_1 O13_1
  rw [show yzs k.m+(((ywr k.d)).cnt:Int)=mg6 k from rfl]
  have p7:=HP2.out.cell (i:=7) rfl
  go_wp2_with fail
  clear p7
  refine(zfm (F:=A7) (l:=k.p) (mg6 k) (by omega) (by omega) (by have h9:mg6 k+((ywi k.p).cnt:Int)=mg7 k:=rfl;omega) O7_2.out).mono ?_
  rintro e w3 ⟨rfl,hr,ht⟩
  have HP3:=ywh (HP2.out.turns ht (fun e=>by have:=HF.out _ ((D7.out _ e).1);omega))
  have HT3:Hid (Turns F w w3):=HT2.out.trans (ht.mono (fun j e=>(D7.out j e).1))
  have O0_3:=ywh (O0_2.out.turns ht (fun j e e'=>(D0.out j e).2.2.1 e'))
  have O6_3:=ywh (O6_2.out.turns ht (fun j e e'=>(D6.out j e).2.1 e'))
  have O7_3:=ywh hr
  have O8_3:=ywh (O8_2.out.turns ht (fun j e e'=>(D7.out j e').2.1 e))
  have O12_3:=ywh (O12_2.out.turns ht (fun j e e'=>(D7.out j e').2.2.1 e))
  have O13_3:=ywh (O13_2.out.turns ht (fun j e e'=>(D7.out j e').2.2.2 e))
  clear hr ht HP2 HT2 O0_2 O6_2 O7_2 O8_2 O12_2 O13_2
  rw [show mg6 k+(((ywi k.p)).cnt:Int)=mg7 k from rfl]
  have p8:=HP3.out.cell (i:=8) rfl
  go_wp2_with fail
  clear p8
  refine(zfn (F:=A8) (l:=k.b) (mg7 k) (by omega) (by omega) (by have h9:mg7 k+((yww k.b).cnt:Int)=mg8 k:=rfl;omega) O8_3.out).mono ?_
  rintro e w4 ⟨rfl,hr,ht⟩
  have HP4:=ywh (HP3.out.turns ht (fun e=>by have:=HF.out _ ((D8.out _ e).1);omega))
  have HT4:Hid (Turns F w w4):=HT3.out.trans (ht.mono (fun j e=>(D8.out j e).1))
  have O0_4:=ywh (O0_3.out.turns ht (fun j e e'=>(D0.out j e).2.2.2.1 e'))
  have O6_4:=ywh (O6_3.out.turns ht (fun j e e'=>(D6.out j e).2.2.1 e'))
  have O7_4:=ywh (O7_3.out.turns ht (fun j e e'=>(D7.out j e).2.1 e'))
  have O8_4:=ywh hr
  have O12_4:=ywh (O12_3.out.turns ht (fun j e e'=>(D8.out j e').2.1 e))
  have O13_4:=ywh (O13_3.out.turns ht (fun j e e'=>(D8.out j e').2.2 e))
  clear hr ht HP3 HT3 O0_3 O6_3 O7_3 O8_3 O12_3 O13_3
  rw [show mg7 k+(((yww k.b)).cnt:Int)=mg8 k from rfl]
  have p12:=HP4.out.cell (i:=12) rfl
  go_wp2_with fail
  clear p12
  refine(ze5 (F:=A12) (l:=k.s) (mg8 k) (by omega) (by omega) (by omega) O12_4.out).mono ?_
  rintro e w5 ⟨rfl,hr,ht⟩
  have HP5:=ywh (HP4.out.turns ht (fun e=>by have:=HF.out _ ((D12.out _ e).1);omega))
  have HT5:Hid (Turns F w w5):=HT4.out.trans (ht.mono (fun j e=>(D12.out j e).1))
  have O0_5:=ywh (O0_4.out.turns ht (fun j e e'=>(D0.out j e).2.2.2.2.1 e'))
  have O6_5:=ywh (O6_4.out.turns ht (fun j e e'=>(D6.out j e).2.2.2.1 e'))
  have O7_5:=ywh (O7_4.out.turns ht (fun j e e'=>(D7.out j e).2.2.1 e'))
  have O8_5:=ywh (O8_4.out.turns ht (fun j e e'=>(D8.out j e).2.1 e'))
  have O12_5:=ywh hr
  have O13_5:=ywh (O13_4.out.turns ht (fun j e e'=>(D12.out j e').2 e))
  clear hr ht HP4 HT4 O0_4 O6_4 O7_4 O8_4 O12_4 O13_4
  rw [show mg8 k+(((evsD k.s)).cnt:Int)=mg12 k from rfl]
  have p13:=HP5.out.cell (i:=13) rfl
  go_wp2_with fail
  clear p13
  refine(zge (F:=A13) (l:=k.x) (mg12 k) (by omega) (by omega) (by omega) O13_5.out).mono ?_
  rintro e w6 ⟨rfl,hr,ht⟩
  have HP6:=ywh (HP5.out.turns ht (fun e=>by have:=HF.out _ (D13.out _ e);omega))
  have HT6:Hid (Turns F w w6):=HT5.out.trans (ht.mono (fun j e=>D13.out j e))
  have O0_6:=ywh (O0_5.out.turns ht (fun j e e'=>(D0.out j e).2.2.2.2.2 e'))
  have O6_6:=ywh (O6_5.out.turns ht (fun j e e'=>(D6.out j e).2.2.2.2 e'))
  have O7_6:=ywh (O7_5.out.turns ht (fun j e e'=>(D7.out j e).2.2.2 e'))
  have O8_6:=ywh (O8_5.out.turns ht (fun j e e'=>(D8.out j e).2.2 e'))
  have O12_6:=ywh (O12_5.out.turns ht (fun j e e'=>(D12.out j e).2 e'))
  have O13_6:=ywh hr
  clear hr ht HP5 HT5 O0_5 O6_5 O7_5 O8_5 O12_5 O13_5
  rw [show mg12 k+(((emsD k.x)).cnt:Int)=zak k from rfl]
  go_wp2
  go_ret
  exact⟨rfl,⟨A0,A6,A7,A8,A12,A13,_,_,_,_,_,_,_,_,rfl,O0_6.out,O6_6.out,O7_6.out,O8_6.out,O12_6.out,O13_6.out,fun j e=>(D0.out j e).1,fun j e=>(D6.out j e).1,fun j e=>(D7.out j e).1,fun j e=>(D8.out j e).1,fun j e=>(D12.out j e).1,fun j e=>D13.out j e⟩,HT6.out⟩
theorem zfs {F:Nat→Prop} {x:Value} {k:Kn} {w:World} (hs:ywy k) (h:HeldKg F w x k):
    Calls Tryz.prog 15 #[x,.int .i64 1] w fun e w'=>e= .returned (.int .i64 (zak k))∧Below w.heap.size w w':=by
  obtain⟨A0,A6,A7,A8,A12,A13,vi,vh,vs,u6,u7,u8,u12,u13,rfl,hm,h6,h7,h8,h12,h13,_⟩:=h
  have HS:Hid (ywy k):=hs
  obtain⟨hz0,hz1,hz2,hz3,hz4,hz5,hz6,hl7,hl8,hl6,hl12,hl13⟩:=zaa hs
  obtain⟨W0,hW0⟩:∃W0,w.alloc (.cells #[.int .i64 k.m.n,.int .i64 k.m.s,vi,vh,vs,.int .i64 k.m.z,u6,u7,u8,.int .i64 k.t,.int .i64 k.q,.bool k.f,u12,u13] 41)=W0:=⟨_,rfl⟩
  have HB0:=hdq (beA hW0)
  have HP0:=hdq (bkA hW0)
  have HW:=ywh hW0
  have O0:=ywh hm
  have O6:=ywh h6
  have O7:=ywh h7
  have O8:=ywh h8
  have O12:=ywh h12
  have O13:=ywh h13
  have n0:¬(yzs k.m<0):=by omega
  have n1:¬(mg6 k<0):=by omega
  have n2:¬(mg7 k<0):=by omega
  have n3:¬(mg8 k<0):=by omega
  have n4:¬(mg12 k<0):=by omega
  have n5:¬(zak k<0):=by omega
  clear hs hW0 hm h6 h7 h8 h12 h13
  go_enter Tryz.func15,Tryz.ntmps15
  obtain⟨p0,p1,p2,p3,p4,p5⟩:=zgw HP0.out
  go_wp2_with fail
  rw [HW.out]
  clear HW p0 p1 p2 p3 p4 p5
  refine(zgj HS.out.1 (O0.out.below HB0.out)).mono ?_
  rintro e w1 ⟨rfl,hb⟩
  have HP1:=ywh (HP0.out.below hb)
  have HB1:=trh HB0 hb
  clear hb HP0 HB0
  have p6:=HP1.out.cell (i:=6) rfl
  go_wp2_with fail
  clear p6
  refine(zcz (F:=A6) (l:=k.d) (yzs k.m) (by omega) (by omega) (by omega) (O6.out.under HB1.out)).mono ?_
  rintro e w2 ⟨rfl,hb⟩
  have HP2:=ywh (HP1.out.below hb)
  have HB2:=trh HB1 hb
  clear hb HP1 HB1
  rw [show yzs k.m+(((ywr k.d)).cnt:Int)=mg6 k from rfl]
  have p7:=HP2.out.cell (i:=7) rfl
  go_wp2_with fail
  clear p7
  refine(zmk (F:=A7) (l:=k.p) (mg6 k) (by omega) (by omega) (by have h9:mg6 k+((ywi k.p).cnt:Int)=mg7 k:=rfl;omega) (O7.out.under HB2.out)).mono ?_
  rintro e w3 ⟨rfl,hb⟩
  have HP3:=ywh (HP2.out.below hb)
  have HB3:=trh HB2 hb
  clear hb HP2 HB2
  rw [show mg6 k+(((ywi k.p)).cnt:Int)=mg7 k from rfl]
  have p8:=HP3.out.cell (i:=8) rfl
  go_wp2_with fail
  clear p8
  refine(zml (F:=A8) (l:=k.b) (mg7 k) (by omega) (by omega) (by have h9:mg7 k+((yww k.b).cnt:Int)=mg8 k:=rfl;omega) (O8.out.under HB3.out)).mono ?_
  rintro e w4 ⟨rfl,hb⟩
  have HP4:=ywh (HP3.out.below hb)
  have HB4:=trh HB3 hb
  clear hb HP3 HB3
  rw [show mg7 k+(((yww k.b)).cnt:Int)=mg8 k from rfl]
  have p12:=HP4.out.cell (i:=12) rfl
  go_wp2_with fail
  clear p12
  refine(zgi (F:=A12) (l:=k.s) (mg8 k) (by omega) (by omega) (by omega) (O12.out.under HB4.out)).mono ?_
  rintro e w5 ⟨rfl,hb⟩
  have HP5:=ywh (HP4.out.below hb)
  have HB5:=trh HB4 hb
  clear hb HP4 HB4
  rw [show mg8 k+(((evsD k.s)).cnt:Int)=mg12 k from rfl]
  have p13:=HP5.out.cell (i:=13) rfl
  go_wp2_with fail
  clear p13
  refine(zkm (F:=A13) (l:=k.x) (mg12 k) (by omega) (by omega) (by omega) (O13.out.under HB5.out)).mono ?_
  rintro e w6 ⟨rfl,hb⟩
  have HP6:=ywh (HP5.out.below hb)
  have HB6:=trh HB5 hb
  clear hb HP5 HB5
  rw [show mg12 k+(((emsD k.x)).cnt:Int)=zak k from rfl]
  go_wp2
  go_ret
  exact⟨rfl,HB6.out⟩
end Go.Proofs.YtghndljgadpijaaGreat

/- eqPartS: two rows alike. -/
namespace Go.Proofs.YtghndljgadpijaaGreat
open Go.RowKit
theorem zew {p:Prop} (h:p):Hid p:=h
set_option maxHeartbeats 8000000 in
theorem eq_parts (x y:Value) (l:List Pa) (w:World) (hl:(ywi l).wt≤1048576) (hx:IsD w x (ywi l)) (hy:IsD w y (ywi l)):
    Calls Tryz.prog 54 #[x,y] w fun e w'=>e= .returned (.bool true)∧Below w.heap.size w w':=by
  obtain⟨a,cap,rfl,h1,h2,h⟩:=IsD.parts (c:=7) (n:=l.length) hx
  obtain⟨a',cap',rfl,h1',h2',h'⟩:=IsD.parts (c:=7) (n:=l.length) hy
  have HS:=zew hl
  have hl2:l.length≤1048576:=by rw [yyb]at hl;omega
  clear h1 h2 h1' h2' hx hy hl
  go_enter Tryz.func54,Tryz.ntmps54
  go_wp2
  go_loopw [5] (fun i wr=>∃k:Nat,k≤l.length∧i= .int .i64 k∧Below w.heap.size w wr) (fun i _=>l.length-(intOf i).toNat)
  case atStart=>exact⟨0,Nat.zero_le _,rfl,Below.refl _ _⟩
  case round=>
    obtain⟨k,hk,rfl,hB⟩:=hrel
    have HB:=zew hB
    by_cases hlt:k<l.length
    · obtain⟨b,off,rfl,hb,hc⟩:=h.resolve_left (by omega)
      obtain⟨b',off',rfl,hb',hc'⟩:=h'.resolve_left (by omega)
      obtain⟨u1,u4,u5,u6,f0,f1,f2,f3,f4,f5,f6,d1,d4,d5,d6⟩:=yzg (fun j hj=>by
        obtain⟨u,hu,hd⟩:=hc j hj
        exact⟨u,(hB.cell (p:=⟨b,off+j,none⟩) hb).trans hu,hd.under hB⟩) hlt
      obtain⟨v1,v4,v5,v6,e0,e1,e2,e3,e4,e5,e6,g1,g4,g5,g6⟩:=yzg (fun j hj=>by
        obtain⟨u,hu,hd⟩:=hc' j hj
        exact⟨u,(hB.cell (p:=⟨b',off'+j,none⟩) hb').trans hu,hd.under hB⟩) hlt
      have HD:=zew (IsPart.under (w:=wr) ⟨u1,u4,u5,u6,rfl,d1,d4,d5,d6⟩ (Below.refl _ wr).drew)
      have HG:=zew (IsPart.under (w:=wr) ⟨v1,v4,v5,v6,rfl,g1,g4,g5,g6⟩ (Below.refl _ wr).drew)
      have HW:=zew (Nat.le_trans (Pa.wt_le hlt) HS.out)
      have hbr:b<wr.heap.size:=Nat.lt_of_lt_of_le hb hB.size
      have hbr':b'<wr.heap.size:=Nat.lt_of_lt_of_le hb' hB.size
      clear hB hc hc' h h' d1 d4 d5 d6 g1 g4 g5 g6
      go_wp2_with fail
      go_region_held3 (fun W=>W.cell? ⟨b,off+k*7,none⟩=some (.int .i64 (paAt l k).n)∧W.cell? ⟨b,off+k*7+1,none⟩=some (u1)∧W.cell? ⟨b,off+k*7+2,none⟩=some (.int .i64 (paAt l k).st.q)∧W.cell? ⟨b,off+k*7+3,none⟩=some (.int .i64 (paAt l k).st.d)∧W.cell? ⟨b,off+k*7+4,none⟩=some (u4)∧W.cell? ⟨b,off+k*7+5,none⟩=some (u5)∧W.cell? ⟨b,off+k*7+6,none⟩=some (u6)∧W.cell? ⟨b',off'+k*7,none⟩=some (.int .i64 (paAt l k).n)∧W.cell? ⟨b',off'+k*7+1,none⟩=some (v1)∧W.cell? ⟨b',off'+k*7+2,none⟩=some (.int .i64 (paAt l k).st.q)∧W.cell? ⟨b',off'+k*7+3,none⟩=some (.int .i64 (paAt l k).st.d)∧W.cell? ⟨b',off'+k*7+4,none⟩=some (v4)∧W.cell? ⟨b',off'+k*7+5,none⟩=some (v5)∧W.cell? ⟨b',off'+k*7+6,none⟩=some (v6)) ((repeat' apply And.intro)<;>first|(go_keep;done)|(rw [hcA _ _ (by first|omega|(simp;omega)|simp [*])];simp [*];done))
        (first|(go_at_call 138;refine(zjj _ _ (paAt l k) _ HW.out HD.out HG.out).mono ?_;rintro e w2 ⟨rfl,hb2⟩;obtain⟨hcA,hfA⟩:=zdb hb2))
      clear hcA hfA
      go_wp2
      go_roundw
      case rel=>exact⟨k+1,by omega,by go_num,HB.out.drew.trans (hb2.mono (by have:=HB.out.size;simpa using this))⟩
      case measure=>simp [intOf];omega
    · clear hB h h'
      go_wp2
      go_ret
      exact⟨rfl,HB.out⟩
theorem zas {p:Prop} (h:p):Hid p:=h
set_option maxRecDepth 100000 in
set_option maxHeartbeats 4000000 in
theorem za2 (x y:Value) (k:Kn) (w:World) (hs:ywy k) (hx:IsKern w x k) (hy:IsKern w y k):
    Calls Tryz.prog 13 #[x,y] w fun e w'=>e= .returned (.bool true)∧Below w.heap.size w w':=by
  obtain⟨vi,vh,vs,u6,u7,u8,u12,u13,rfl,hm,h6,h7,h8,h12,h13⟩:=hx
  obtain⟨xvi,xvh,xvs,v6,v7,v8,v12,v13,rfl,jm,j6,j7,j8,j12,j13⟩:=hy
  have HS:Hid (ywy k):=hs
  have HM:Hid (IsM w (.agg #[.int .i64 k.m.n,.int .i64 k.m.s,vi,vh,vs,.int .i64 k.m.z]) k.m∧IsM w (.agg #[.int .i64 k.m.n,.int .i64 k.m.s,xvi,xvh,xvs,.int .i64 k.m.z]) k.m):=⟨hm,jm⟩
  have H6:Hid (IsD w u6 (ywr k.d)∧IsD w v6 (ywr k.d)):=⟨h6,j6⟩
  have H7:Hid (IsD w u7 (ywi k.p)∧IsD w v7 (ywi k.p)):=⟨h7,j7⟩
  have H8:Hid (IsD w u8 (yww k.b)∧IsD w v8 (yww k.b)):=⟨h8,j8⟩
  have H12:Hid (IsD w u12 (evsD k.s)∧IsD w v12 (evsD k.s)):=⟨h12,j12⟩
  have H13:Hid (IsD w u13 (emsD k.x)∧IsD w v13 (emsD k.x)):=⟨h13,j13⟩
  clear hs hm jm h6 j6 h7 j7 h8 j8 h12 j12 h13 j13
  obtain⟨W0,hW0⟩:∃W0,(w.alloc (.cells #[.int .i64 k.m.n,.int .i64 k.m.s,vi,vh,vs,.int .i64 k.m.z,u6,u7,u8,.int .i64 k.t,.int .i64 k.q,.bool k.f,u12,u13] 41)).alloc (.cells #[.int .i64 k.m.n,.int .i64 k.m.s,xvi,xvh,xvs,.int .i64 k.m.z,v6,v7,v8,.int .i64 k.t,.int .i64 k.q,.bool k.f,v12,v13] 41)=W0:=⟨_,rfl⟩
  have HB0:=hdq (beA2 hW0)
  have HP0:=hdq (bkA2 hW0)
  have HQ0:=hdq (bkB2 hW0)
  have HW:=zas hW0
  clear hW0
  go_enter Tryz.func13,Tryz.ntmps13
  have p0:=HP0.out.cell (i:=0) rfl
  have q0:=HQ0.out.cell (i:=0) rfl
  have p1:=HP0.out.cell (i:=1) rfl
  have q1:=HQ0.out.cell (i:=1) rfl
  have p2:=HP0.out.cell (i:=2) rfl
  have q2:=HQ0.out.cell (i:=2) rfl
  have p3:=HP0.out.cell (i:=3) rfl
  have q3:=HQ0.out.cell (i:=3) rfl
  have p4:=HP0.out.cell (i:=4) rfl
  have q4:=HQ0.out.cell (i:=4) rfl
  have p5:=HP0.out.cell (i:=5) rfl
  have q5:=HQ0.out.cell (i:=5) rfl
  go_wp2_with fail
  rw [HW.out]
  clear HW
  clear p0 q0 p1 q1 p2 q2 p3 q3 p4 q4 p5 q5
  refine(zia _ _ k.m _ HS.out.1 (HM.out.1.below HB0.out) (HM.out.2.below HB0.out)).mono ?_
  rintro e w1 ⟨rfl,hb⟩
  have HB1:=trh HB0 hb
  have HP1:=zas (HP0.out.below hb)
  have HQ1:=zas (HQ0.out.below hb)
  clear hb
  have p6:=HP1.out.cell (i:=6) rfl
  have q6:=HQ1.out.cell (i:=6) rfl
  go_wp2_with fail
  clear p6 q6
  refine(zoz _ _ k.d _ (by have:=HS.out.2;unfold Kn.wt at this;simp only [ywf,yx0,yy3,yy9]at this;omega) (H6.out.1.under HB1.out) (H6.out.2.under HB1.out)).mono ?_
  rintro e w2 ⟨rfl,hb⟩
  have HB2:=trh HB1 hb
  have HP2:=zas (HP1.out.below hb)
  have HQ2:=zas (HQ1.out.below hb)
  clear hb
  have p7:=HP2.out.cell (i:=7) rfl
  have q7:=HQ2.out.cell (i:=7) rfl
  go_wp2_with fail
  clear p7 q7
  refine(eq_parts _ _ k.p _ (by have:=HS.out.2;unfold Kn.wt at this;simp only [ywf,yx0,yy3,yy9]at this;omega) (H7.out.1.under HB2.out) (H7.out.2.under HB2.out)).mono ?_
  rintro e w3 ⟨rfl,hb⟩
  have HB3:=trh HB2 hb
  have HP3:=zas (HP2.out.below hb)
  have HQ3:=zas (HQ2.out.below hb)
  clear hb
  have p8:=HP3.out.cell (i:=8) rfl
  have q8:=HQ3.out.cell (i:=8) rfl
  go_wp2_with fail
  clear p8 q8
  refine(eq_mails _ _ k.b _ (by have:=HS.out.2;unfold Kn.wt at this;simp only [ywf,yx0,yy3,yy9]at this;omega) (H8.out.1.under HB3.out) (H8.out.2.under HB3.out)).mono ?_
  rintro e w4 ⟨rfl,hb⟩
  have HB4:=trh HB3 hb
  have HP4:=zas (HP3.out.below hb)
  have HQ4:=zas (HQ3.out.below hb)
  clear hb
  have p12:=HP4.out.cell (i:=12) rfl
  have q12:=HQ4.out.cell (i:=12) rfl
  have p9:=HP4.out.cell (i:=9) rfl
  have q9:=HQ4.out.cell (i:=9) rfl
  have p10:=HP4.out.cell (i:=10) rfl
  have q10:=HQ4.out.cell (i:=10) rfl
  have p11:=HP4.out.cell (i:=11) rfl
  have q11:=HQ4.out.cell (i:=11) rfl
  have hff:(k.f !=k.f)=false:=by cases k.f<;>rfl
  go_wp2_with fail
  clear p12 q12 p9 q9 p10 q10 p11 q11
  refine(zp0 _ _ k.s _ (by have:=HS.out.2;unfold Kn.wt at this;simp only [ywf,yx0,yy3,yy9]at this;omega) (H12.out.1.under HB4.out) (H12.out.2.under HB4.out)).mono ?_
  rintro e w5 ⟨rfl,hb⟩
  have HB5:=trh HB4 hb
  have HP5:=zas (HP4.out.below hb)
  have HQ5:=zas (HQ4.out.below hb)
  clear hb
  have p13:=HP5.out.cell (i:=13) rfl
  have q13:=HQ5.out.cell (i:=13) rfl
  go_wp2_with fail
  clear p13 q13
  refine(eq_ems _ _ k.x _ (by have:=HS.out.2;unfold Kn.wt at this;simp only [ywf,yx0,yy3,yy9]at this;omega) (H13.out.1.under HB5.out) (H13.out.2.under HB5.out)).mono ?_
  rintro e w6 ⟨rfl,hb⟩
  have HB6:=trh HB5 hb
  have HP6:=zas (HP5.out.below hb)
  have HQ6:=zas (HQ5.out.below hb)
  clear hb
  go_wp2
  go_ret
  exact⟨rfl,HB6.out⟩
end Go.Proofs.YtghndljgadpijaaGreat

