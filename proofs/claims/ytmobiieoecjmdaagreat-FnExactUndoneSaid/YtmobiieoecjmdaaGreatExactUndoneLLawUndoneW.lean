/- The walk of FnExactUndone. -/
import Derived.Test.YtmobiieoecjmdaaGreatExactUndoneG36
import Derived.Test.YtmobiieoecjmdaaGreatExactUndoneG34
import Derived.Test.YtmobiieoecjmdaaGreatExactUndoneLKKt
import Derived.Test.YtmobiieoecjmdaaGreatExactUndoneG21
import Derived.Deep.RegionHeld3
namespace Go.Proofs.YtmobiieoecjmdaaGreat.LawExactUndone
open Go.ChangeShapes Go.WideShapes Go.ChangeAt Go.RowKit Go.Proofs.YtmobiieoecjmdaaGreat
set_option maxRecDepth 100000 in
set_option maxHeartbeats 16000000 in
theorem walk (x:Value) (k:Kn) (w:World) (hx:IsKern w x k):
  Calls Tryz.prog 4 #[x] w fun e w'=>e= .returned (.bool true)∧Below w.heap.size w w':=by
 haveI:Inhabited PsF:=Classical.inhabited_of_nonempty psF_some
 have HX:Hid (IsKern w x k):=hx
 obtain⟨vi,vh,vs,u6,u7,u8,u12,u13,rfl,_⟩:=hx
 obtain⟨W0,hW0⟩:∃W0,w.alloc (.cells #[.int .i64 k.m.n,.int .i64 k.m.s,vi,vh,vs,.int .i64 k.m.z,u6,u7,u8,.int .i64 k.t,.int .i64 k.q,.bool k.f,u12,u13] 50)=W0:=⟨_,rfl⟩
 have HB_W0:Hid (Below w.heap.size w W0):=by rw [←hW0];exact(Below.refl _ w).alloc (Nat.le_refl _) _
 have HP_W0:Hid (Bk W0 w.heap.size 50 #[.int .i64 k.m.n,.int .i64 k.m.s,vi,vh,vs,.int .i64 k.m.z,u6,u7,u8,.int .i64 k.t,.int .i64 k.q,.bool k.f,u12,u13]):=by rw [←hW0];exact Bk.new w _ _
 have p0:=HP_W0.out.cell (i:=0) rfl
 have p1:=HP_W0.out.cell (i:=1) rfl
 have p2:=HP_W0.out.cell (i:=2) rfl
 have p3:=HP_W0.out.cell (i:=3) rfl
 have p4:=HP_W0.out.cell (i:=4) rfl
 have p5:=HP_W0.out.cell (i:=5) rfl
 have p6:=HP_W0.out.cell (i:=6) rfl
 have p7:=HP_W0.out.cell (i:=7) rfl
 have p8:=HP_W0.out.cell (i:=8) rfl
 have p9:=HP_W0.out.cell (i:=9) rfl
 have p10:=HP_W0.out.cell (i:=10) rfl
 have p11:=HP_W0.out.cell (i:=11) rfl
 have p12:=HP_W0.out.cell (i:=12) rfl
 have p13:=HP_W0.out.cell (i:=13) rfl
 have hP0:w.heap.size<W0.heap.size:=HP_W0.out.lt
 go_enter Tryz.func4,Tryz.ntmps4
 go_wp2_with fail
 clear hW0 p0 p1 p2 p3 p4 p5 p6 p7 p8 p9 p10 p11 p12 p13
 refine(szKernel_any _ k _ (HX.out.under HB_W0.out)).mono ?_
 rintro e w1 ⟨⟨r,rfl,hr⟩,hb⟩
 have z_w1:W0.heap.size≤w1.heap.size:=hb.size
 have HB_w1:Hid (Below w.heap.size w w1):=HB_W0.out.trans (hb.mono HB_W0.out.size)
 have HP_w1:Hid (Bk w1 w.heap.size 50 #[.int .i64 k.m.n,.int .i64 k.m.s,vi,vh,vs,.int .i64 k.m.z,u6,u7,u8,.int .i64 k.t,.int .i64 k.q,.bool k.f,u12,u13]):=HP_W0.out.below hb
 clear HB_W0 HP_W0 hb
 rcases hr with rfl|⟨hr0,hr9⟩
 case inl=>
  go_wp2
  go_ret
  exact⟨rfl,HB_w1.out⟩
 have hr1:¬(r<0):=by omega
 have HSM:Hid (SmallK k):=hr9
 clear hr0 hr9
 have p0:=HP_w1.out.cell (i:=0) rfl
 have p1:=HP_w1.out.cell (i:=1) rfl
 have p2:=HP_w1.out.cell (i:=2) rfl
 have p3:=HP_w1.out.cell (i:=3) rfl
 have p4:=HP_w1.out.cell (i:=4) rfl
 have p5:=HP_w1.out.cell (i:=5) rfl
 have p6:=HP_w1.out.cell (i:=6) rfl
 have p7:=HP_w1.out.cell (i:=7) rfl
 have p8:=HP_w1.out.cell (i:=8) rfl
 have p9:=HP_w1.out.cell (i:=9) rfl
 have p10:=HP_w1.out.cell (i:=10) rfl
 have p11:=HP_w1.out.cell (i:=11) rfl
 have p12:=HP_w1.out.cell (i:=12) rfl
 have p13:=HP_w1.out.cell (i:=13) rfl
 go_wp2_with fail
 clear p0 p1 p2 p3 p4 p5 p6 p7 p8 p9 p10 p11 p12 p13
 refine(toKernel_any _ k _ HSM.out (HX.out.under HB_w1.out)).mono ?_
 rintro e w2 ⟨y0,rfl,hb,hr⟩
 have z_w2:w1.heap.size≤w2.heap.size:=hb.size
 have HB_w2:Hid (Below w.heap.size w w2):=HB_w1.out.trans (hb.mono HB_w1.out.size)
 have HP_w2:Hid (Bk w2 w.heap.size 50 #[.int .i64 k.m.n,.int .i64 k.m.s,vi,vh,vs,.int .i64 k.m.z,u6,u7,u8,.int .i64 k.t,.int .i64 k.q,.bool k.f,u12,u13]):=HP_w1.out.below hb
 have HT_w2:Hid (IsKern w2 y0 k):=hr.is
 clear HB_w1 HP_w1 hb hr
 go_wp2_with fail
 refine(sUndone _ k _ HSM.out HT_w2.out).mono ?_
 rintro e w3 ⟨rfl,hb⟩
 have z_w3:w2.heap.size≤w3.heap.size:=hb.size
 have HB_w3:Hid (Below w.heap.size w w3):=HB_w2.out.trans (hb.mono HB_w2.out.size)
 have HP_w3:Hid (Bk w3 w.heap.size 50 #[.int .i64 k.m.n,.int .i64 k.m.s,vi,vh,vs,.int .i64 k.m.z,u6,u7,u8,.int .i64 k.t,.int .i64 k.q,.bool k.f,u12,u13]):=HP_w2.out.below hb
 clear HB_w2 HP_w2 HT_w2 hb
 have p0:=HP_w3.out.cell (i:=0) rfl
 have p1:=HP_w3.out.cell (i:=1) rfl
 have p2:=HP_w3.out.cell (i:=2) rfl
 have p3:=HP_w3.out.cell (i:=3) rfl
 have p4:=HP_w3.out.cell (i:=4) rfl
 have p5:=HP_w3.out.cell (i:=5) rfl
 have p6:=HP_w3.out.cell (i:=6) rfl
 have p7:=HP_w3.out.cell (i:=7) rfl
 have p8:=HP_w3.out.cell (i:=8) rfl
 have p9:=HP_w3.out.cell (i:=9) rfl
 have p10:=HP_w3.out.cell (i:=10) rfl
 have p11:=HP_w3.out.cell (i:=11) rfl
 have p12:=HP_w3.out.cell (i:=12) rfl
 have p13:=HP_w3.out.cell (i:=13) rfl
 go_wp2_with fail
 clear p0 p1 p2 p3 p4 p5 p6 p7 p8 p9 p10 p11 p12 p13
 refine(toKernel_any _ k _ HSM.out (HX.out.under HB_w3.out)).mono ?_
 rintro e w4 ⟨y1,rfl,hb,hr⟩
 have z_w4:w3.heap.size≤w4.heap.size:=hb.size
 have HB_w4:Hid (Below w.heap.size w w4):=HB_w3.out.trans (hb.mono HB_w3.out.size)
 have HP_w4:Hid (Bk w4 w.heap.size 50 #[.int .i64 k.m.n,.int .i64 k.m.s,vi,vh,vs,.int .i64 k.m.z,u6,u7,u8,.int .i64 k.t,.int .i64 k.q,.bool k.f,u12,u13]):=HP_w3.out.below hb
 have HR_w4:Hid (IsKern w4 y1 k):=hr.is
 clear HB_w3 HP_w3 hb hr
 obtain⟨ai,ci,ah,ch,ae,ce,ad,cd,ap,cp,ab,cb,au,cu,ax,cx,rfl,_⟩:=HR_w4.out.form
 obtain⟨Vw4,hVw4⟩:∃V,w4.alloc (.cells #[.int .i64 k.m.n,.int .i64 k.m.s,.slice ai k.m.i.length ci,.slice ah k.m.h.length ch,.slice ae k.m.e.length ce,.int .i64 k.m.z,.slice ad k.d.length cd,.slice ap k.p.length cp,.slice ab k.b.length cb,.int .i64 k.t,.int .i64 k.q,.bool k.f,.slice au k.s.length cu,.slice ax k.x.length cx] 57)=V:=⟨_,rfl⟩
 have BHX0:Bk Vw4 w4.heap.size 57 #[.int .i64 k.m.n,.int .i64 k.m.s,.slice ai k.m.i.length ci,.slice ah k.m.h.length ch,.slice ae k.m.e.length ce,.int .i64 k.m.z,.slice ad k.d.length cd,.slice ap k.p.length cp,.slice ab k.b.length cb,.int .i64 k.t,.int .i64 k.q,.bool k.f,.slice au k.s.length cu,.slice ax k.x.length cx]:=by rw [←hVw4];exact Bk.new _ _ _
 have hb:Below w4.heap.size w4 Vw4:=by rw [←hVw4];exact(Below.refl _ _).alloc (Nat.le_refl _) _
 have y_Vw4:w4.heap.size<Vw4.heap.size:=BHX0.lt
 have z_Vw4:w4.heap.size≤Vw4.heap.size:=hb.size
 have HB_Vw4:Hid (Below w.heap.size w Vw4):=HB_w4.out.trans (hb.mono HB_w4.out.size)
 have HP_Vw4:Hid (Bk Vw4 w.heap.size 50 #[.int .i64 k.m.n,.int .i64 k.m.s,vi,vh,vs,.int .i64 k.m.z,u6,u7,u8,.int .i64 k.t,.int .i64 k.q,.bool k.f,u12,u13]):=HP_w4.out.below hb
 have HR_Vw4:Hid (IsKern Vw4 (.agg #[.int .i64 k.m.n,.int .i64 k.m.s,.slice ai k.m.i.length ci,.slice ah k.m.h.length ch,.slice ae k.m.e.length ce,.int .i64 k.m.z,.slice ad k.d.length cd,.slice ap k.p.length cp,.slice ab k.b.length cb,.int .i64 k.t,.int .i64 k.q,.bool k.f,.slice au k.s.length cu,.slice ax k.x.length cx]) k):=HR_w4.out.under hb
 have HX0_Vw4:Hid (Bk Vw4 w4.heap.size 57 #[.int .i64 k.m.n,.int .i64 k.m.s,.slice ai k.m.i.length ci,.slice ah k.m.h.length ch,.slice ae k.m.e.length ce,.int .i64 k.m.z,.slice ad k.d.length cd,.slice ap k.p.length cp,.slice ab k.b.length cb,.int .i64 k.t,.int .i64 k.q,.bool k.f,.slice au k.s.length cu,.slice ax k.x.length cx]):=BHX0
 clear HB_w4 HP_w4 HR_w4 hb BHX0
 have r0:=HX0_Vw4.out.cell (i:=0) rfl
 have r1:=HX0_Vw4.out.cell (i:=1) rfl
 have r2:=HX0_Vw4.out.cell (i:=2) rfl
 have r3:=HX0_Vw4.out.cell (i:=3) rfl
 have r4:=HX0_Vw4.out.cell (i:=4) rfl
 have r5:=HX0_Vw4.out.cell (i:=5) rfl
 have r6:=HX0_Vw4.out.cell (i:=6) rfl
 have r7:=HX0_Vw4.out.cell (i:=7) rfl
 have r8:=HX0_Vw4.out.cell (i:=8) rfl
 have r9:=HX0_Vw4.out.cell (i:=9) rfl
 have r10:=HX0_Vw4.out.cell (i:=10) rfl
 have r11:=HX0_Vw4.out.cell (i:=11) rfl
 have r12:=HX0_Vw4.out.cell (i:=12) rfl
 have r13:=HX0_Vw4.out.cell (i:=13) rfl
 go_wp2_with fail
 clear hVw4 r0 r1 r2 r3 r4 r5 r6 r7 r8 r9 r10 r11 r12 r13
 refine(iUndone _ k _ HSM.out HR_Vw4.out).mono ?_
 rintro e w5 ⟨rfl,hb⟩
 have z_w5:Vw4.heap.size≤w5.heap.size:=hb.size
 have HB_w5:Hid (Below w.heap.size w w5):=HB_Vw4.out.trans (hb.mono HB_Vw4.out.size)
 have HP_w5:Hid (Bk w5 w.heap.size 50 #[.int .i64 k.m.n,.int .i64 k.m.s,vi,vh,vs,.int .i64 k.m.z,u6,u7,u8,.int .i64 k.t,.int .i64 k.q,.bool k.f,u12,u13]):=HP_Vw4.out.below hb
 have HR_w5:Hid (IsKern w5 (.agg #[.int .i64 k.m.n,.int .i64 k.m.s,.slice ai k.m.i.length ci,.slice ah k.m.h.length ch,.slice ae k.m.e.length ce,.int .i64 k.m.z,.slice ad k.d.length cd,.slice ap k.p.length cp,.slice ab k.b.length cb,.int .i64 k.t,.int .i64 k.q,.bool k.f,.slice au k.s.length cu,.slice ax k.x.length cx]) k):=HR_Vw4.out.under hb
 have HX0_w5:Hid (Bk w5 w4.heap.size 57 #[.int .i64 k.m.n,.int .i64 k.m.s,.slice ai k.m.i.length ci,.slice ah k.m.h.length ch,.slice ae k.m.e.length ce,.int .i64 k.m.z,.slice ad k.d.length cd,.slice ap k.p.length cp,.slice ab k.b.length cb,.int .i64 k.t,.int .i64 k.q,.bool k.f,.slice au k.s.length cu,.slice ax k.x.length cx]):=HX0_Vw4.out.below hb
 clear HB_Vw4 HP_Vw4 HR_Vw4 HX0_Vw4 hb
 have p0:=HP_w5.out.cell (i:=0) rfl
 have p1:=HP_w5.out.cell (i:=1) rfl
 have p2:=HP_w5.out.cell (i:=2) rfl
 have p3:=HP_w5.out.cell (i:=3) rfl
 have p4:=HP_w5.out.cell (i:=4) rfl
 have p5:=HP_w5.out.cell (i:=5) rfl
 have p6:=HP_w5.out.cell (i:=6) rfl
 have p7:=HP_w5.out.cell (i:=7) rfl
 have p8:=HP_w5.out.cell (i:=8) rfl
 have p9:=HP_w5.out.cell (i:=9) rfl
 have p10:=HP_w5.out.cell (i:=10) rfl
 have p11:=HP_w5.out.cell (i:=11) rfl
 have p12:=HP_w5.out.cell (i:=12) rfl
 have p13:=HP_w5.out.cell (i:=13) rfl
 have r0:=HX0_w5.out.cell (i:=0) rfl
 have r1:=HX0_w5.out.cell (i:=1) rfl
 have r2:=HX0_w5.out.cell (i:=2) rfl
 have r3:=HX0_w5.out.cell (i:=3) rfl
 have r4:=HX0_w5.out.cell (i:=4) rfl
 have r5:=HX0_w5.out.cell (i:=5) rfl
 have r6:=HX0_w5.out.cell (i:=6) rfl
 have r7:=HX0_w5.out.cell (i:=7) rfl
 have r8:=HX0_w5.out.cell (i:=8) rfl
 have r9:=HX0_w5.out.cell (i:=9) rfl
 have r10:=HX0_w5.out.cell (i:=10) rfl
 have r11:=HX0_w5.out.cell (i:=11) rfl
 have r12:=HX0_w5.out.cell (i:=12) rfl
 have r13:=HX0_w5.out.cell (i:=13) rfl
 go_wp2_with fail
 have hzz:w.heap.size<w5.heap.size:=by omega
 have hzy:w4.heap.size<w5.heap.size:=by omega
 go_region_held3 (fun W=>W.cell? ⟨w.heap.size,0,none⟩=some (.int .i64 k.m.n)∧W.cell? ⟨w.heap.size,1,none⟩=some (.int .i64 k.m.s)∧W.cell? ⟨w.heap.size,2,none⟩=some (vi)∧W.cell? ⟨w.heap.size,3,none⟩=some (vh)∧W.cell? ⟨w.heap.size,4,none⟩=some (vs)∧W.cell? ⟨w.heap.size,5,none⟩=some (.int .i64 k.m.z)∧W.cell? ⟨w.heap.size,6,none⟩=some (u6)∧W.cell? ⟨w.heap.size,7,none⟩=some (u7)∧W.cell? ⟨w.heap.size,8,none⟩=some (u8)∧W.cell? ⟨w.heap.size,9,none⟩=some (.int .i64 k.t)∧W.cell? ⟨w.heap.size,10,none⟩=some (.int .i64 k.q)∧W.cell? ⟨w.heap.size,11,none⟩=some (.bool k.f)∧W.cell? ⟨w.heap.size,12,none⟩=some (u12)∧W.cell? ⟨w.heap.size,13,none⟩=some (u13)∧W.cell? ⟨w4.heap.size,0,none⟩=some (.int .i64 k.m.n)∧W.cell? ⟨w4.heap.size,1,none⟩=some (.int .i64 k.m.s)∧W.cell? ⟨w4.heap.size,2,none⟩=some (.slice ai k.m.i.length ci)∧W.cell? ⟨w4.heap.size,3,none⟩=some (.slice ah k.m.h.length ch)∧W.cell? ⟨w4.heap.size,4,none⟩=some (.slice ae k.m.e.length ce)∧W.cell? ⟨w4.heap.size,5,none⟩=some (.int .i64 k.m.z)∧W.cell? ⟨w4.heap.size,6,none⟩=some (.slice ad k.d.length cd)∧W.cell? ⟨w4.heap.size,7,none⟩=some (.slice ap k.p.length cp)∧W.cell? ⟨w4.heap.size,8,none⟩=some (.slice ab k.b.length cb)∧W.cell? ⟨w4.heap.size,9,none⟩=some (.int .i64 k.t)∧W.cell? ⟨w4.heap.size,10,none⟩=some (.int .i64 k.q)∧W.cell? ⟨w4.heap.size,11,none⟩=some (.bool k.f)∧W.cell? ⟨w4.heap.size,12,none⟩=some (.slice au k.s.length cu)∧W.cell? ⟨w4.heap.size,13,none⟩=some (.slice ax k.x.length cx)) ((repeat' apply And.intro)<;>first|(go_keep;done)|(rw [hcA _ _ (by first|omega|(simp;omega))];simp [*];done))
  (first|(go_at_call 20;refine(toKernel_any _ k _ HSM.out (HX.out.under HB_w5.out.drew)).mono ?_;rintro e w7 ⟨y2,rfl,hbw7,hr2⟩;obtain⟨hcA,hfA⟩:=bcell hbw7;have hzw7:w5.heap.size≤w7.heap.size:=hbw7.size)|(go_at_call 22;refine(eqKernel_same _ _ k _ HSM.out (HR_w5.out.under ((Below.refl _ w5).drew.trans hbw7)) hr2.is).mono ?_;rintro e w8 ⟨rfl,hbw8⟩;obtain⟨hcA,hfA⟩:=bcell hbw8;have hzw8:w7.heap.size≤w8.heap.size:=hbw8.size))
 clear hcA hfA
 have hbc:Below w5.heap.size w5 w8:=((Below.refl w5.heap.size w5).drew.trans (hbw7.mono (Nat.le_refl _))).trans (hbw8.mono (by omega))
 clear p0 p1 p2 p3 p4 p5 p6 p7 p8 p9 p10 p11 p12 p13 r0 r1 r2 r3 r4 r5 r6 r7 r8 r9 r10 r11 r12 r13
 have HB_w8:Hid (Below w.heap.size w w8):=HB_w5.out.trans (hbc.mono HB_w5.out.size)
 clear hbc hr2 hbw7 hzw7 hbw8 hzw8 hzz hzy
 go_wp2
 go_ret
 exact⟨rfl,HB_w8.out⟩
end Go.Proofs.YtmobiieoecjmdaaGreat.LawExactUndone
