/- KKr, MOpS -/
import Derived.Test.YtmobiieoecjmdaaGreatExactCommittedG19
import Derived.Test.YtmobiieoecjmdaaGreatExactCommittedG01
/- A kernel, as plain values and in memory; how much there is of it. -/
namespace Go.Proofs.YtmobiieoecjmdaaGreat
open Go.RowKit
structure Kn where
 m:Md
 d:List Int
 p:List Pa
 b:List Ml
 t:Int
 q:Int
 f:Bool
 s:List Ev
 x:List Em
def Kn.wt (k:Kn):Nat:=(intsD k.d).wt+(partsD k.p).wt+(mailsD k.b).wt+(evsD k.s).wt+(emsD k.x).wt
def SmallK (k:Kn):Prop:=SmallM k.m∧k.wt≤1048576
def IsKern (w:World) (x:Value) (k:Kn):Prop:=∃vi vh vs u6 u7 u8 u12 u13,x= .agg #[.int .i64 k.m.n,.int .i64 k.m.s,vi,vh,vs,.int .i64 k.m.z,u6,u7,u8,.int .i64 k.t,.int .i64 k.q,.bool k.f,u12,u13]∧IsM w (.agg #[.int .i64 k.m.n,.int .i64 k.m.s,vi,vh,vs,.int .i64 k.m.z]) k.m∧IsD w u6 (intsD k.d)∧IsD w u7 (partsD k.p)∧IsD w u8 (mailsD k.b)∧IsD w u12 (evsD k.s)∧IsD w u13 (emsD k.x)
theorem IsKern.under {w w':World} {x:Value} {k:Kn} (h:IsKern w x k) (hb:Below w.heap.size w w'):IsKern w' x k:=by
 obtain⟨vi,vh,vs,u6,u7,u8,u12,u13,rfl,hm,h6,h7,h8,h12,h13⟩:=h
 exact⟨vi,vh,vs,u6,u7,u8,u12,u13,rfl,hm.below hb,h6.under hb,h7.under hb,h8.under hb,h12.under hb,h13.under hb⟩
set_option maxRecDepth 100000 in
set_option maxHeartbeats 4000000 in
theorem szKernel_any (x:Value) (k:Kn) (w:World) (h:IsKern w x k):
  Calls Tryz.prog 18 #[x,.int .i64 1048576] w fun e w'=>(∃r,e= .returned (.int .i64 r)∧(r= -1∨(0≤r∧SmallK k)))∧Below w.heap.size w w':=by
 obtain⟨vi,vh,vs,u6,u7,u8,u12,u13,rfl,hm,h6,h7,h8,h12,h13⟩:=h
 have HM:Hid (IsM w (.agg #[.int .i64 k.m.n,.int .i64 k.m.s,vi,vh,vs,.int .i64 k.m.z]) k.m):=hm
 have H6:Hid (IsD w u6 (intsD k.d)):=h6
 have H7:Hid (IsD w u7 (partsD k.p)):=h7
 have H8:Hid (IsD w u8 (mailsD k.b)):=h8
 have H12:Hid (IsD w u12 (evsD k.s)):=h12
 have H13:Hid (IsD w u13 (emsD k.x)):=h13
 clear hm h6 h7 h8 h12 h13
 obtain⟨W0,hW0⟩:∃W0,w.alloc (.cells #[.int .i64 k.m.n,.int .i64 k.m.s,vi,vh,vs,.int .i64 k.m.z,u6,u7,u8,.int .i64 k.t,.int .i64 k.q,.bool k.f,u12,u13] 50)=W0:=⟨_,rfl⟩
 have HB0:Hid (Below w.heap.size w W0):=by rw [←hW0];exact(Below.refl _ w).alloc (Nat.le_refl _) _
 have HP0:Hid (Bk W0 w.heap.size 50 #[.int .i64 k.m.n,.int .i64 k.m.s,vi,vh,vs,.int .i64 k.m.z,u6,u7,u8,.int .i64 k.t,.int .i64 k.q,.bool k.f,u12,u13]):=by rw [←hW0];exact Bk.new w _ _
 have HW:Hid (w.alloc (.cells #[.int .i64 k.m.n,.int .i64 k.m.s,vi,vh,vs,.int .i64 k.m.z,u6,u7,u8,.int .i64 k.t,.int .i64 k.q,.bool k.f,u12,u13] 50)=W0):=hW0
 clear hW0
 go_enter Tryz.func18,Tryz.ntmps18
 have p0:=HP0.out.cell (i:=0) rfl
 have p1:=HP0.out.cell (i:=1) rfl
 have p2:=HP0.out.cell (i:=2) rfl
 have p3:=HP0.out.cell (i:=3) rfl
 have p4:=HP0.out.cell (i:=4) rfl
 have p5:=HP0.out.cell (i:=5) rfl
 go_wp2_with fail
 rw [HW.out]
 clear HW p0 p1 p2 p3 p4 p5
 refine(szModel_le _ k.m _ (HM.out.below HB0.out)).mono ?_
 rintro e w1 ⟨⟨r1,rfl,hr⟩,hb⟩
 have HB1:Hid (Below w.heap.size w w1):=HB0.out.trans (hb.mono HB0.out.size)
 have HP1:Hid (Bk w1 w.heap.size 50 #[.int .i64 k.m.n,.int .i64 k.m.s,vi,vh,vs,.int .i64 k.m.z,u6,u7,u8,.int .i64 k.t,.int .i64 k.q,.bool k.f,u12,u13]):=HP0.out.below hb
 clear hb
 rcases hr with rfl|⟨r10,r11,hsm⟩
 ·go_wp2
  go_ret
  exact⟨⟨_,rfl,.inl rfl⟩,HB1.out⟩
 have HSM:Hid (SmallM k.m):=hsm
 have HE1:Hid (r1≤1048576):=r11
 have r12:¬(r1<0):=by omega
 clear hsm
 have p6:=HP1.out.cell (i:=6) rfl
 go_wp2_with fail
 clear p6
 refine(sz_ints _ k.d _ _ r10 r11 (H6.out.under HB1.out)).mono ?_
 rintro e w2 ⟨⟨r2,rfl,hr⟩,hb⟩
 have HB2:Hid (Below w.heap.size w w2):=HB1.out.trans (hb.mono HB1.out.size)
 have HP2:Hid (Bk w2 w.heap.size 50 #[.int .i64 k.m.n,.int .i64 k.m.s,vi,vh,vs,.int .i64 k.m.z,u6,u7,u8,.int .i64 k.t,.int .i64 k.q,.bool k.f,u12,u13]):=HP1.out.below hb
 clear hb
 rcases hr with rfl|⟨r20,hr⟩
 ·go_wp2
  go_ret
  exact⟨⟨_,rfl,.inl rfl⟩,HB2.out⟩
 have r21:r2≤1048576:=by omega
 have r22:¬(r2<0):=by omega
 have HE2:Hid (r2+((intsD k.d).wt:Int)=r1):=hr
 clear hr r12
 have p7:=HP2.out.cell (i:=7) rfl
 go_wp2_with fail
 clear p7
 refine(sz_parts _ k.p _ _ r20 r21 (H7.out.under HB2.out)).mono ?_
 rintro e w3 ⟨⟨r3,rfl,hr⟩,hb⟩
 have HB3:Hid (Below w.heap.size w w3):=HB2.out.trans (hb.mono HB2.out.size)
 have HP3:Hid (Bk w3 w.heap.size 50 #[.int .i64 k.m.n,.int .i64 k.m.s,vi,vh,vs,.int .i64 k.m.z,u6,u7,u8,.int .i64 k.t,.int .i64 k.q,.bool k.f,u12,u13]):=HP2.out.below hb
 clear hb
 rcases hr with rfl|⟨r30,hr⟩
 ·go_wp2
  go_ret
  exact⟨⟨_,rfl,.inl rfl⟩,HB3.out⟩
 have r31:r3≤1048576:=by omega
 have r32:¬(r3<0):=by omega
 have HE3:Hid (r3+((partsD k.p).wt:Int)=r2):=hr
 clear hr r22
 have p8:=HP3.out.cell (i:=8) rfl
 go_wp2_with fail
 clear p8
 refine(sz_mails _ k.b _ _ r30 r31 (H8.out.under HB3.out)).mono ?_
 rintro e w4 ⟨⟨r4,rfl,hr⟩,hb⟩
 have HB4:Hid (Below w.heap.size w w4):=HB3.out.trans (hb.mono HB3.out.size)
 have HP4:Hid (Bk w4 w.heap.size 50 #[.int .i64 k.m.n,.int .i64 k.m.s,vi,vh,vs,.int .i64 k.m.z,u6,u7,u8,.int .i64 k.t,.int .i64 k.q,.bool k.f,u12,u13]):=HP3.out.below hb
 clear hb
 rcases hr with rfl|⟨r40,hr⟩
 ·go_wp2
  go_ret
  exact⟨⟨_,rfl,.inl rfl⟩,HB4.out⟩
 have r41:r4≤1048576:=by omega
 have r42:¬(r4<0):=by omega
 have HE4:Hid (r4+((mailsD k.b).wt:Int)=r3):=hr
 clear hr r32
 have p12:=HP4.out.cell (i:=12) rfl
 go_wp2_with fail
 clear p12
 refine(sz_evs _ k.s _ _ r40 r41 (H12.out.under HB4.out)).mono ?_
 rintro e w5 ⟨⟨r5,rfl,hr⟩,hb⟩
 have HB5:Hid (Below w.heap.size w w5):=HB4.out.trans (hb.mono HB4.out.size)
 have HP5:Hid (Bk w5 w.heap.size 50 #[.int .i64 k.m.n,.int .i64 k.m.s,vi,vh,vs,.int .i64 k.m.z,u6,u7,u8,.int .i64 k.t,.int .i64 k.q,.bool k.f,u12,u13]):=HP4.out.below hb
 clear hb
 rcases hr with rfl|⟨r50,hr⟩
 ·go_wp2
  go_ret
  exact⟨⟨_,rfl,.inl rfl⟩,HB5.out⟩
 have r51:r5≤1048576:=by omega
 have r52:¬(r5<0):=by omega
 have HE5:Hid (r5+((evsD k.s).wt:Int)=r4):=hr
 clear hr r42
 have p13:=HP5.out.cell (i:=13) rfl
 go_wp2_with fail
 clear p13
 refine(sz_ems _ k.x _ _ r50 r51 (H13.out.under HB5.out)).mono ?_
 rintro e w6 ⟨⟨r6,rfl,hr⟩,hb⟩
 have HB6:Hid (Below w.heap.size w w6):=HB5.out.trans (hb.mono HB5.out.size)
 have HP6:Hid (Bk w6 w.heap.size 50 #[.int .i64 k.m.n,.int .i64 k.m.s,vi,vh,vs,.int .i64 k.m.z,u6,u7,u8,.int .i64 k.t,.int .i64 k.q,.bool k.f,u12,u13]):=HP5.out.below hb
 clear hb
 rcases hr with rfl|⟨r60,hr⟩
 ·go_wp2
  go_ret
  exact⟨⟨_,rfl,.inl rfl⟩,HB6.out⟩
 have r61:r6≤1048576:=by omega
 have r62:¬(r6<0):=by omega
 have HE6:Hid (r6+((emsD k.x).wt:Int)=r5):=hr
 clear hr r52
 go_wp2
 go_ret
 refine⟨⟨_,rfl,.inr ⟨r60,HSM.out,?_⟩⟩,HB6.out⟩
 unfold Kn.wt
 have e1:=HE1.out
 have e2:=HE2.out
 have e3:=HE3.out
 have e4:=HE4.out
 have e5:=HE5.out
 have e6:=HE6.out
 omega
set_option maxHeartbeats 400000 in
theorem reg_any (x:Int) (w:World):Calls Tryz.prog 178 #[.int .i64 x] w fun e w'=>e= .returned (.bool (decide (0≤x)&&decide (x<2)))∧w'=w:=by
 go_enter Tryz.func178,Tryz.ntmps178
 go_wp2
 all_goals
  go_ret
  first|exact⟨ret_dec (by simp_all),rfl⟩|exact⟨ret_bool (by simp;omega),rfl⟩
set_option maxHeartbeats 4000000 in
theorem sOp_any (n s z:Int) (vi vs:Value) (ah:Option Addr) (len cap:Nat) (c a b k:Int) (w:World):
  Calls Tryz.prog 135 #[.agg #[.int .i64 n,.int .i64 s,vi,.slice ah len cap,vs,.int .i64 z],.agg #[.int .i64 c,.int .i64 a,.int .i64 b,.int .i64 k]] w fun e w'=>
   e= .returned (.bool (okO n len c a b k))∧Below w.heap.size w w':=by
 have hc:c=0∨c=1∨c=2∨c=3∨c=4∨c=5∨c=6∨(¬c=0∧ ¬c=1∧ ¬c=2∧ ¬c=3∧ ¬c=4∧ ¬c=5∧ ¬c=6):=by omega
 rcases hc with rfl|rfl|rfl|rfl|rfl|rfl|rfl|⟨c0,c1,c2,c3,c4,c5,c6⟩
 ·go_enter Tryz.func135,Tryz.ntmps135
  go_wp2_with (go_at_call 178;refine(reg_any _ _).mono ?_;rintro e w2 ⟨rfl,hw⟩;have hw':=hw.symm;clear hw;subst hw')
  all_goals
   go_ret
   refine⟨?_,((Below.refl _ _).alloc (Nat.le_refl _) _).alloc (by simp) _⟩
   first|exact ret_dec (by simp [okO];omega)|exact ret_bool (by simp [okO];omega)|exact ret_bool (by simp [okO])
 ·go_enter Tryz.func135,Tryz.ntmps135
  go_wp2_with (go_at_call 178;refine(reg_any _ _).mono ?_;rintro e w2 ⟨rfl,hw⟩;have hw':=hw.symm;clear hw;subst hw')
  all_goals
   go_ret
   refine⟨?_,((Below.refl _ _).alloc (Nat.le_refl _) _).alloc (by simp) _⟩
   first|exact ret_dec (by simp [okO];omega)|exact ret_bool (by simp [okO];omega)|exact ret_bool (by simp [okO])
 ·go_enter Tryz.func135,Tryz.ntmps135
  go_wp2_with (go_at_call 178;refine(reg_any _ _).mono ?_;rintro e w2 ⟨rfl,hw⟩;have hw':=hw.symm;clear hw;subst hw')
  all_goals
   go_ret
   refine⟨?_,((Below.refl _ _).alloc (Nat.le_refl _) _).alloc (by simp) _⟩
   first|exact ret_dec (by simp [okO];omega)|exact ret_bool (by simp [okO];omega)|exact ret_bool (by simp [okO])
 ·go_enter Tryz.func135,Tryz.ntmps135
  go_wp2_with (go_at_call 178;refine(reg_any _ _).mono ?_;rintro e w2 ⟨rfl,hw⟩;have hw':=hw.symm;clear hw;subst hw')
  all_goals
   go_ret
   refine⟨?_,((Below.refl _ _).alloc (Nat.le_refl _) _).alloc (by simp) _⟩
   first|exact ret_dec (by simp [okO];omega)|exact ret_bool (by simp [okO];omega)|exact ret_bool (by simp [okO])
 ·go_enter Tryz.func135,Tryz.ntmps135
  go_wp2_with (go_at_call 178;refine(reg_any _ _).mono ?_;rintro e w2 ⟨rfl,hw⟩;have hw':=hw.symm;clear hw;subst hw')
  all_goals
   go_ret
   refine⟨?_,((Below.refl _ _).alloc (Nat.le_refl _) _).alloc (by simp) _⟩
   first|exact ret_dec (by simp [okO];omega)|exact ret_bool (by simp [okO];omega)|exact ret_bool (by simp [okO])
 ·go_enter Tryz.func135,Tryz.ntmps135
  go_wp2_with (go_at_call 178;refine(reg_any _ _).mono ?_;rintro e w2 ⟨rfl,hw⟩;have hw':=hw.symm;clear hw;subst hw')
  all_goals
   go_ret
   refine⟨?_,((Below.refl _ _).alloc (Nat.le_refl _) _).alloc (by simp) _⟩
   first|exact ret_dec (by simp [okO];omega)|exact ret_bool (by simp [okO];omega)|exact ret_bool (by simp [okO])
 ·go_enter Tryz.func135,Tryz.ntmps135
  go_wp2_with (go_at_call 178;refine(reg_any _ _).mono ?_;rintro e w2 ⟨rfl,hw⟩;have hw':=hw.symm;clear hw;subst hw')
  all_goals
   go_ret
   refine⟨?_,((Below.refl _ _).alloc (Nat.le_refl _) _).alloc (by simp) _⟩
   first|exact ret_dec (by simp [okO];omega)|exact ret_bool (by simp [okO];omega)|exact ret_bool (by simp [okO])
 ·go_enter Tryz.func135,Tryz.ntmps135
  go_wp2_with (go_at_call 178;refine(reg_any _ _).mono ?_;rintro e w2 ⟨rfl,hw⟩;have hw':=hw.symm;clear hw;subst hw')
  all_goals
   go_ret
   refine⟨?_,((Below.refl _ _).alloc (Nat.le_refl _) _).alloc (by simp) _⟩
   first|exact ret_dec (by simp [okO];omega)|exact ret_bool (by simp [okO];omega)|exact ret_bool (by simp [okO])
end Go.Proofs.YtmobiieoecjmdaaGreat

