/- At every kernel the program's Committed answers as the specification's, its answer owns its memory, and it writes into nothing that it is given; no condition. -/
import Derived.Test.YtmobiieoecjmdaaGreatExactCommittedG36
import Derived.Test.YtmobiieoecjmdaaGreatExactCommittedLCoI
import Derived.Test.YtmobiieoecjmdaaGreatExactCommittedG38
import Derived.Test.YtmobiieoecjmdaaGreatExactCommittedG39
import Derived.Test.YtmobiieoecjmdaaGreatExactCommittedG21
import Derived.Deep.RegionHeld3
import Derived.Deep.Cut
namespace Go.Proofs.YtmobiieoecjmdaaGreat.LawExactCommitted
open Go.ChangeShapes Go.WideShapes Go.ChangeAt Go.RowKit Go.Proofs.YtmobiieoecjmdaaGreat
theorem HiF.form {F:Nat→Prop} {w:World} {x:Value} {h:Hi} (hh:HiF F w x h):∃a c ax cx,x= .agg #[.slice a h.ev.length c,.slice ax h.em.length cx,.int .i64 h.k,.bool h.f]:=by
 obtain⟨A,C,ve,vx,rfl,⟨_,a1,c1,rfl,_⟩,⟨_,a2,c2,rfl,_⟩,_⟩:=hh
 exact⟨a1,c1,a2,c2,rfl⟩
theorem com_small (k:Kn):SmallH (comH k):=by
 unfold comH
 split
 case isFalse=>exact⟨Nat.zero_le _,Nat.zero_le _⟩
 case isTrue h=>
  have h1:=(kern_iff.1 h).1
  have h2:=pre_len h (pre:=comL k) (t:= []) (by simp)
  have h3:=told_len h (pre:=comL k) (t:= []) (by simp)
  refine⟨?_,by show(toldL k (comL k)).length≤_;omega⟩
  show(k.s++bareL (comL k)).length≤_
  rw [List.length_append,bareL,List.length_map]
  omega
set_option maxRecDepth 100000 in
set_option maxHeartbeats 64000000 in
theorem walk (x:Value) (k:Kn) (w:World) (hx:IsKern w x k):
  Calls Tryz.prog 5 #[x] w fun e w'=>e= .returned (.bool true)∧Below w.heap.size w w':=by
 haveI:Inhabited PsF:=Classical.inhabited_of_nonempty psF_some
 have HX:Hid (IsKern w x k):=hx
 obtain⟨vi,vh,vs,u6,u7,u8,u12,u13,rfl,_⟩:=hx
 obtain⟨W0,hW0⟩:∃W0,w.alloc (.cells #[.int .i64 k.m.n,.int .i64 k.m.s,vi,vh,vs,.int .i64 k.m.z,u6,u7,u8,.int .i64 k.t,.int .i64 k.q,.bool k.f,u12,u13] 50)=W0:=⟨_,rfl⟩
 have HB_W0:Hid (Below w.heap.size w W0):=by rw [←hW0];exact(Below.refl _ w).alloc (Nat.le_refl _) _
 have HP_W0:Hid (Bk W0 w.heap.size 50 #[.int .i64 k.m.n,.int .i64 k.m.s,vi,vh,vs,.int .i64 k.m.z,u6,u7,u8,.int .i64 k.t,.int .i64 k.q,.bool k.f,u12,u13]):=by rw [←hW0];exact Bk.new w _ _
 have hV0:w.heap.size<W0.heap.size:=HP_W0.out.lt
 have p0:=HP_W0.out.cell (i:=0) rfl
 have p1:=HP_W0.out.cell (i:=1) rfl
 have p2:=HP_W0.out.cell (i:=2) rfl
 have p3:=HP_W0.out.cell (i:=3) rfl
 have p4:=HP_W0.out.cell (i:=4) rfl
 have p5:=HP_W0.out.cell (i:=5) rfl
 have p6:=HP_W0.out.cell (i:=6) rfl
 have p7:=HP_W0.out.cell (i:=7) rfl
 have p8:=HP_W0.out.cell (i:=8) rfl
 have p9:=HP_W0.out.cell (i:=9) rfl
 have p10:=HP_W0.out.cell (i:=10) rfl
 have p11:=HP_W0.out.cell (i:=11) rfl
 have p12:=HP_W0.out.cell (i:=12) rfl
 have p13:=HP_W0.out.cell (i:=13) rfl
 go_enter Tryz.func5,Tryz.ntmps5
 go_wp2_with fail
 clear hW0
 clear p0 p1 p2 p3 p4 p5 p6 p7 p8 p9 p10 p11 p12 p13
 refine(szKernel_any _ k _ (HX.out.under HB_W0.out)).mono ?_
 rintro r w1 ⟨⟨r1,rfl,hr⟩,hb⟩
 have z_w1:W0.heap.size≤w1.heap.size:=hb.size
 have HB_w1:Hid (Below w.heap.size w w1):=HB_W0.out.trans (hb.mono HB_W0.out.size)
 have HP_w1:Hid (Bk w1 w.heap.size 50 #[.int .i64 k.m.n,.int .i64 k.m.s,vi,vh,vs,.int .i64 k.m.z,u6,u7,u8,.int .i64 k.t,.int .i64 k.q,.bool k.f,u12,u13]):=HP_W0.out.below hb
 clear HB_W0 HP_W0
 clear hb
 rcases hr with rfl|⟨hr0,hr9⟩
 case inl=>
  go_wp2
  go_ret
  exact⟨rfl,HB_w1.out⟩
 have hr1:¬(r1<0):=by omega
 have HSM:Hid (SmallK k):=hr9
 have HMK:Hid (1≤markKg k):=(by have:=small_marks hr9;omega:1≤markKg k)
 clear hr9
 have HC:Hid (∃R b,SmallH R∧(∀(v0:Value) (W:World),IsKern W v0 k→Calls Tryz.prog 23 #[v0] W fun r w'=>∃u,r= .returned (.tuple #[u,.bool b])∧HiF (fun q=>W.heap.size≤q∧q<w'.heap.size) w' u R∧Below W.heap.size W w')∧(∀(v0:Value) (W:World),IsKern W v0 k→Calls Tryz.prog 24 #[v0] W fun r w'=>∃u,r= .returned (.tuple #[u,.bool b])∧HiF (fun q=>W.heap.size≤q∧q<w'.heap.size) w' u R∧Below W.heap.size W w')):=⟨comH k,k.ok,com_small k,fun v0 W h0=>sCommitted v0 k W HSM.out h0,fun v0 W h0=>iCommitted v0 k W HSM.out h0⟩
 obtain⟨R,b,hq,hsp,him⟩:=HC.out
 have HSP:Hid (∀(v0:Value) (W:World),IsKern W v0 k→Calls Tryz.prog 23 #[v0] W fun r w'=>∃u,r= .returned (.tuple #[u,.bool b])∧HiF (fun q=>W.heap.size≤q∧q<w'.heap.size) w' u R∧Below W.heap.size W w'):=hsp
 have HIM:Hid (∀(v0:Value) (W:World),IsKern W v0 k→Calls Tryz.prog 24 #[v0] W fun r w'=>∃u,r= .returned (.tuple #[u,.bool b])∧HiF (fun q=>W.heap.size≤q∧q<w'.heap.size) w' u R∧Below W.heap.size W w'):=him
 have HE:Hid (SmallH R):=hq
 clear HC hsp him hq
 have p0:=HP_w1.out.cell (i:=0) rfl
 have p1:=HP_w1.out.cell (i:=1) rfl
 have p2:=HP_w1.out.cell (i:=2) rfl
 have p3:=HP_w1.out.cell (i:=3) rfl
 have p4:=HP_w1.out.cell (i:=4) rfl
 have p5:=HP_w1.out.cell (i:=5) rfl
 have p6:=HP_w1.out.cell (i:=6) rfl
 have p7:=HP_w1.out.cell (i:=7) rfl
 have p8:=HP_w1.out.cell (i:=8) rfl
 have p9:=HP_w1.out.cell (i:=9) rfl
 have p10:=HP_w1.out.cell (i:=10) rfl
 have p11:=HP_w1.out.cell (i:=11) rfl
 have p12:=HP_w1.out.cell (i:=12) rfl
 have p13:=HP_w1.out.cell (i:=13) rfl
 go_wp2_with fail
 clear p0 p1 p2 p3 p4 p5 p6 p7 p8 p9 p10 p11 p12 p13
 refine(toKernel_any _ k _ HSM.out (HX.out.under HB_w1.out)).mono ?_
 rintro r w2 ⟨ya,rfl,hb,hr⟩
 have z_w2:w1.heap.size≤w2.heap.size:=hb.size
 have HB_w2:Hid (Below w.heap.size w w2):=HB_w1.out.trans (hb.mono HB_w1.out.size)
 have HP_w2:Hid (Bk w2 w.heap.size 50 #[.int .i64 k.m.n,.int .i64 k.m.s,vi,vh,vs,.int .i64 k.m.z,u6,u7,u8,.int .i64 k.t,.int .i64 k.q,.bool k.f,u12,u13]):=HP_w1.out.below hb
 clear HB_w1 HP_w1
 have HA_w2:Hid (KernF (fun q=>w1.heap.size≤q∧q<w2.heap.size) w2 ya k):=hr
 clear hb hr
 go_wp2_with fail
 refine(HSP.out _ _ HA_w2.out.is).mono ?_
 rintro r w3 ⟨uo,rfl,hr,hb⟩
 obtain⟨gao,gco,hao,hco,rfl⟩:=HiF.form hr
 have z_w3:w2.heap.size≤w3.heap.size:=hb.size
 have HB_w3:Hid (Below w.heap.size w w3):=HB_w2.out.trans (hb.mono HB_w2.out.size)
 have HP_w3:Hid (Bk w3 w.heap.size 50 #[.int .i64 k.m.n,.int .i64 k.m.s,vi,vh,vs,.int .i64 k.m.z,u6,u7,u8,.int .i64 k.t,.int .i64 k.q,.bool k.f,u12,u13]):=HP_w2.out.below hb
 have HA_w3:Hid (KernF (fun q=>w1.heap.size≤q∧q<w2.heap.size) w3 ya k):=HA_w2.out.below hb
 clear HB_w2 HP_w2 HA_w2
 have HS_w3:Hid (HiF (fun q=>w2.heap.size≤q∧q<w3.heap.size) w3 (.agg #[.slice gao R.ev.length gco,.slice hao R.em.length hco,.int .i64 R.k,.bool R.f]) R):=hr
 clear hb hr
 obtain⟨Vw3,hVw3⟩:∃V,w3.alloc (.cells #[.slice gao R.ev.length gco,.slice hao R.em.length hco,.int .i64 R.k,.bool R.f] 62)=V:=⟨_,rfl⟩
 have BHSb:Bk Vw3 w3.heap.size 62 #[.slice gao R.ev.length gco,.slice hao R.em.length hco,.int .i64 R.k,.bool R.f]:=by rw [←hVw3];exact Bk.new _ _ _
 have hb:Below w3.heap.size w3 Vw3:=by rw [←hVw3];exact(Below.refl _ _).alloc (Nat.le_refl _) _
 have y_Vw3:w3.heap.size<Vw3.heap.size:=BHSb.lt
 have z_Vw3:w3.heap.size≤Vw3.heap.size:=hb.size
 have HB_Vw3:Hid (Below w.heap.size w Vw3):=HB_w3.out.trans (hb.mono HB_w3.out.size)
 have HP_Vw3:Hid (Bk Vw3 w.heap.size 50 #[.int .i64 k.m.n,.int .i64 k.m.s,vi,vh,vs,.int .i64 k.m.z,u6,u7,u8,.int .i64 k.t,.int .i64 k.q,.bool k.f,u12,u13]):=HP_w3.out.below hb
 have HA_Vw3:Hid (KernF (fun q=>w1.heap.size≤q∧q<w2.heap.size) Vw3 ya k):=HA_w3.out.below hb
 have HS_Vw3:Hid (HiF (fun q=>w2.heap.size≤q∧q<w3.heap.size) Vw3 (.agg #[.slice gao R.ev.length gco,.slice hao R.em.length hco,.int .i64 R.k,.bool R.f]) R):=HS_w3.out.below hb
 clear HB_w3 HP_w3 HA_w3 HS_w3
 clear hb
 have HSb_Vw3:Hid (Bk Vw3 w3.heap.size 62 #[.slice gao R.ev.length gco,.slice hao R.em.length hco,.int .i64 R.k,.bool R.f]):=BHSb
 clear BHSb
 clear HA_Vw3
 clear HSP
 have p0:=HP_Vw3.out.cell (i:=0) rfl
 have p1:=HP_Vw3.out.cell (i:=1) rfl
 have p2:=HP_Vw3.out.cell (i:=2) rfl
 have p3:=HP_Vw3.out.cell (i:=3) rfl
 have p4:=HP_Vw3.out.cell (i:=4) rfl
 have p5:=HP_Vw3.out.cell (i:=5) rfl
 have p6:=HP_Vw3.out.cell (i:=6) rfl
 have p7:=HP_Vw3.out.cell (i:=7) rfl
 have p8:=HP_Vw3.out.cell (i:=8) rfl
 have p9:=HP_Vw3.out.cell (i:=9) rfl
 have p10:=HP_Vw3.out.cell (i:=10) rfl
 have p11:=HP_Vw3.out.cell (i:=11) rfl
 have p12:=HP_Vw3.out.cell (i:=12) rfl
 have p13:=HP_Vw3.out.cell (i:=13) rfl
 go_wp2_with fail
 clear hVw3
 clear p0 p1 p2 p3 p4 p5 p6 p7 p8 p9 p10 p11 p12 p13
 refine(toKernel_any _ k _ HSM.out (HX.out.under HB_Vw3.out)).mono ?_
 rintro r w4 ⟨y1,rfl,hb,hr⟩
 have z_w4:Vw3.heap.size≤w4.heap.size:=hb.size
 have HB_w4:Hid (Below w.heap.size w w4):=HB_Vw3.out.trans (hb.mono HB_Vw3.out.size)
 have HP_w4:Hid (Bk w4 w.heap.size 50 #[.int .i64 k.m.n,.int .i64 k.m.s,vi,vh,vs,.int .i64 k.m.z,u6,u7,u8,.int .i64 k.t,.int .i64 k.q,.bool k.f,u12,u13]):=HP_Vw3.out.below hb
 have HS_w4:Hid (HiF (fun q=>w2.heap.size≤q∧q<w3.heap.size) w4 (.agg #[.slice gao R.ev.length gco,.slice hao R.em.length hco,.int .i64 R.k,.bool R.f]) R):=HS_Vw3.out.below hb
 have HSb_w4:Hid (Bk w4 w3.heap.size 62 #[.slice gao R.ev.length gco,.slice hao R.em.length hco,.int .i64 R.k,.bool R.f]):=HSb_Vw3.out.below hb
 clear HB_Vw3 HP_Vw3 HS_Vw3 HSb_Vw3
 have HR_w4:Hid (KernF (fun q=>Vw3.heap.size≤q∧q<w4.heap.size) w4 y1 k):=hr
 clear hb hr
 obtain⟨ai,ci,ah,ch,ae,ce,ad,cd,ap,cp,ab,cb,au,cu,ax,cx,rfl,_⟩:=HR_w4.out.is.form
 obtain⟨Vw4,hVw4⟩:∃V,w4.alloc (.cells #[.int .i64 k.m.n,.int .i64 k.m.s,.slice ai k.m.i.length ci,.slice ah k.m.h.length ch,.slice ae k.m.e.length ce,.int .i64 k.m.z,.slice ad k.d.length cd,.slice ap k.p.length cp,.slice ab k.b.length cb,.int .i64 k.t,.int .i64 k.q,.bool k.f,.slice au k.s.length cu,.slice ax k.x.length cx] 57)=V:=⟨_,rfl⟩
 have BHX0:Bk Vw4 w4.heap.size 57 #[.int .i64 k.m.n,.int .i64 k.m.s,.slice ai k.m.i.length ci,.slice ah k.m.h.length ch,.slice ae k.m.e.length ce,.int .i64 k.m.z,.slice ad k.d.length cd,.slice ap k.p.length cp,.slice ab k.b.length cb,.int .i64 k.t,.int .i64 k.q,.bool k.f,.slice au k.s.length cu,.slice ax k.x.length cx]:=by rw [←hVw4];exact Bk.new _ _ _
 have hb:Below w4.heap.size w4 Vw4:=by rw [←hVw4];exact(Below.refl _ _).alloc (Nat.le_refl _) _
 have y_Vw4:w4.heap.size<Vw4.heap.size:=BHX0.lt
 have z_Vw4:w4.heap.size≤Vw4.heap.size:=hb.size
 have HB_Vw4:Hid (Below w.heap.size w Vw4):=HB_w4.out.trans (hb.mono HB_w4.out.size)
 have HP_Vw4:Hid (Bk Vw4 w.heap.size 50 #[.int .i64 k.m.n,.int .i64 k.m.s,vi,vh,vs,.int .i64 k.m.z,u6,u7,u8,.int .i64 k.t,.int .i64 k.q,.bool k.f,u12,u13]):=HP_w4.out.below hb
 have HS_Vw4:Hid (HiF (fun q=>w2.heap.size≤q∧q<w3.heap.size) Vw4 (.agg #[.slice gao R.ev.length gco,.slice hao R.em.length hco,.int .i64 R.k,.bool R.f]) R):=HS_w4.out.below hb
 have HSb_Vw4:Hid (Bk Vw4 w3.heap.size 62 #[.slice gao R.ev.length gco,.slice hao R.em.length hco,.int .i64 R.k,.bool R.f]):=HSb_w4.out.below hb
 have HR_Vw4:Hid (KernF (fun q=>Vw3.heap.size≤q∧q<w4.heap.size) Vw4 (.agg #[.int .i64 k.m.n,.int .i64 k.m.s,.slice ai k.m.i.length ci,.slice ah k.m.h.length ch,.slice ae k.m.e.length ce,.int .i64 k.m.z,.slice ad k.d.length cd,.slice ap k.p.length cp,.slice ab k.b.length cb,.int .i64 k.t,.int .i64 k.q,.bool k.f,.slice au k.s.length cu,.slice ax k.x.length cx]) k):=HR_w4.out.below hb
 clear HB_w4 HP_w4 HS_w4 HSb_w4 HR_w4
 clear hb
 have HX0_Vw4:Hid (Bk Vw4 w4.heap.size 57 #[.int .i64 k.m.n,.int .i64 k.m.s,.slice ai k.m.i.length ci,.slice ah k.m.h.length ch,.slice ae k.m.e.length ce,.int .i64 k.m.z,.slice ad k.d.length cd,.slice ap k.p.length cp,.slice ab k.b.length cb,.int .i64 k.t,.int .i64 k.q,.bool k.f,.slice au k.s.length cu,.slice ax k.x.length cx]):=BHX0
 clear BHX0
 have r0:=HX0_Vw4.out.cell (i:=0) rfl
 have r1:=HX0_Vw4.out.cell (i:=1) rfl
 have r2:=HX0_Vw4.out.cell (i:=2) rfl
 have r3:=HX0_Vw4.out.cell (i:=3) rfl
 have r4:=HX0_Vw4.out.cell (i:=4) rfl
 have r5:=HX0_Vw4.out.cell (i:=5) rfl
 have r6:=HX0_Vw4.out.cell (i:=6) rfl
 have r7:=HX0_Vw4.out.cell (i:=7) rfl
 have r8:=HX0_Vw4.out.cell (i:=8) rfl
 have r9:=HX0_Vw4.out.cell (i:=9) rfl
 have r10:=HX0_Vw4.out.cell (i:=10) rfl
 have r11:=HX0_Vw4.out.cell (i:=11) rfl
 have r12:=HX0_Vw4.out.cell (i:=12) rfl
 have r13:=HX0_Vw4.out.cell (i:=13) rfl
 go_wp2_with fail
 clear hVw4
 refine(HIM.out _ _ HR_Vw4.out.is).mono ?_
 rintro r w5 ⟨ug,rfl,hr,hb⟩
 obtain⟨gag,gcg,hag,hcg,rfl⟩:=HiF.form hr
 have z_w5:Vw4.heap.size≤w5.heap.size:=hb.size
 have HB_w5:Hid (Below w.heap.size w w5):=HB_Vw4.out.trans (hb.mono HB_Vw4.out.size)
 have HP_w5:Hid (Bk w5 w.heap.size 50 #[.int .i64 k.m.n,.int .i64 k.m.s,vi,vh,vs,.int .i64 k.m.z,u6,u7,u8,.int .i64 k.t,.int .i64 k.q,.bool k.f,u12,u13]):=HP_Vw4.out.below hb
 have HS_w5:Hid (HiF (fun q=>w2.heap.size≤q∧q<w3.heap.size) w5 (.agg #[.slice gao R.ev.length gco,.slice hao R.em.length hco,.int .i64 R.k,.bool R.f]) R):=HS_Vw4.out.below hb
 have HSb_w5:Hid (Bk w5 w3.heap.size 62 #[.slice gao R.ev.length gco,.slice hao R.em.length hco,.int .i64 R.k,.bool R.f]):=HSb_Vw4.out.below hb
 have HR_w5:Hid (KernF (fun q=>Vw3.heap.size≤q∧q<w4.heap.size) w5 (.agg #[.int .i64 k.m.n,.int .i64 k.m.s,.slice ai k.m.i.length ci,.slice ah k.m.h.length ch,.slice ae k.m.e.length ce,.int .i64 k.m.z,.slice ad k.d.length cd,.slice ap k.p.length cp,.slice ab k.b.length cb,.int .i64 k.t,.int .i64 k.q,.bool k.f,.slice au k.s.length cu,.slice ax k.x.length cx]) k):=HR_Vw4.out.below hb
 have HX0_w5:Hid (Bk w5 w4.heap.size 57 #[.int .i64 k.m.n,.int .i64 k.m.s,.slice ai k.m.i.length ci,.slice ah k.m.h.length ch,.slice ae k.m.e.length ce,.int .i64 k.m.z,.slice ad k.d.length cd,.slice ap k.p.length cp,.slice ab k.b.length cb,.int .i64 k.t,.int .i64 k.q,.bool k.f,.slice au k.s.length cu,.slice ax k.x.length cx]):=HX0_Vw4.out.below hb
 clear HB_Vw4 HP_Vw4 HS_Vw4 HSb_Vw4 HR_Vw4 HX0_Vw4
 have HG_w5:Hid (HiF (fun q=>Vw4.heap.size≤q∧q<w5.heap.size) w5 (.agg #[.slice gag R.ev.length gcg,.slice hag R.em.length hcg,.int .i64 R.k,.bool R.f]) R):=hr
 clear hb hr
 obtain⟨Vw5,hVw5⟩:∃V,w5.alloc (.cells #[.slice gag R.ev.length gcg,.slice hag R.em.length hcg,.int .i64 R.k,.bool R.f] 62)=V:=⟨_,rfl⟩
 have BHGb:Bk Vw5 w5.heap.size 62 #[.slice gag R.ev.length gcg,.slice hag R.em.length hcg,.int .i64 R.k,.bool R.f]:=by rw [←hVw5];exact Bk.new _ _ _
 have hb:Below w5.heap.size w5 Vw5:=by rw [←hVw5];exact(Below.refl _ _).alloc (Nat.le_refl _) _
 have y_Vw5:w5.heap.size<Vw5.heap.size:=BHGb.lt
 have z_Vw5:w5.heap.size≤Vw5.heap.size:=hb.size
 have HB_Vw5:Hid (Below w.heap.size w Vw5):=HB_w5.out.trans (hb.mono HB_w5.out.size)
 have HP_Vw5:Hid (Bk Vw5 w.heap.size 50 #[.int .i64 k.m.n,.int .i64 k.m.s,vi,vh,vs,.int .i64 k.m.z,u6,u7,u8,.int .i64 k.t,.int .i64 k.q,.bool k.f,u12,u13]):=HP_w5.out.below hb
 have HS_Vw5:Hid (HiF (fun q=>w2.heap.size≤q∧q<w3.heap.size) Vw5 (.agg #[.slice gao R.ev.length gco,.slice hao R.em.length hco,.int .i64 R.k,.bool R.f]) R):=HS_w5.out.below hb
 have HSb_Vw5:Hid (Bk Vw5 w3.heap.size 62 #[.slice gao R.ev.length gco,.slice hao R.em.length hco,.int .i64 R.k,.bool R.f]):=HSb_w5.out.below hb
 have HR_Vw5:Hid (KernF (fun q=>Vw3.heap.size≤q∧q<w4.heap.size) Vw5 (.agg #[.int .i64 k.m.n,.int .i64 k.m.s,.slice ai k.m.i.length ci,.slice ah k.m.h.length ch,.slice ae k.m.e.length ce,.int .i64 k.m.z,.slice ad k.d.length cd,.slice ap k.p.length cp,.slice ab k.b.length cb,.int .i64 k.t,.int .i64 k.q,.bool k.f,.slice au k.s.length cu,.slice ax k.x.length cx]) k):=HR_w5.out.below hb
 have HX0_Vw5:Hid (Bk Vw5 w4.heap.size 57 #[.int .i64 k.m.n,.int .i64 k.m.s,.slice ai k.m.i.length ci,.slice ah k.m.h.length ch,.slice ae k.m.e.length ce,.int .i64 k.m.z,.slice ad k.d.length cd,.slice ap k.p.length cp,.slice ab k.b.length cb,.int .i64 k.t,.int .i64 k.q,.bool k.f,.slice au k.s.length cu,.slice ax k.x.length cx]):=HX0_w5.out.below hb
 have HG_Vw5:Hid (HiF (fun q=>Vw4.heap.size≤q∧q<w5.heap.size) Vw5 (.agg #[.slice gag R.ev.length gcg,.slice hag R.em.length hcg,.int .i64 R.k,.bool R.f]) R):=HG_w5.out.below hb
 clear HB_w5 HP_w5 HS_w5 HSb_w5 HR_w5 HX0_w5 HG_w5
 clear hb
 have HGb_Vw5:Hid (Bk Vw5 w5.heap.size 62 #[.slice gag R.ev.length gcg,.slice hag R.em.length hcg,.int .i64 R.k,.bool R.f]):=BHGb
 clear BHGb
 clear r0 r1 r2 r3 r4 r5 r6 r7 r8 r9 r10 r11 r12 r13
 have g0:=HGb_Vw5.out.cell (i:=0) rfl
 have g1:=HGb_Vw5.out.cell (i:=1) rfl
 have g2:=HGb_Vw5.out.cell (i:=2) rfl
 have g3:=HGb_Vw5.out.cell (i:=3) rfl
 have t0:=HSb_Vw5.out.cell (i:=0) rfl
 have t1:=HSb_Vw5.out.cell (i:=1) rfl
 have t2:=HSb_Vw5.out.cell (i:=2) rfl
 have t3:=HSb_Vw5.out.cell (i:=3) rfl
 go_wp2_with fail
 clear hVw5
 clear g0 g1 g2 g3
 clear t0 t1 t2 t3
 refine(eqHistory_same _ _ R _ HE.out HG_Vw5.out HS_Vw5.out).mono ?_
 rintro r w6 ⟨rfl,hb⟩
 have z_w6:Vw5.heap.size≤w6.heap.size:=hb.size
 have HB_w6:Hid (Below w.heap.size w w6):=HB_Vw5.out.trans (hb.mono HB_Vw5.out.size)
 have HP_w6:Hid (Bk w6 w.heap.size 50 #[.int .i64 k.m.n,.int .i64 k.m.s,vi,vh,vs,.int .i64 k.m.z,u6,u7,u8,.int .i64 k.t,.int .i64 k.q,.bool k.f,u12,u13]):=HP_Vw5.out.below hb
 have HS_w6:Hid (HiF (fun q=>w2.heap.size≤q∧q<w3.heap.size) w6 (.agg #[.slice gao R.ev.length gco,.slice hao R.em.length hco,.int .i64 R.k,.bool R.f]) R):=HS_Vw5.out.below hb
 have HSb_w6:Hid (Bk w6 w3.heap.size 62 #[.slice gao R.ev.length gco,.slice hao R.em.length hco,.int .i64 R.k,.bool R.f]):=HSb_Vw5.out.below hb
 have HR_w6:Hid (KernF (fun q=>Vw3.heap.size≤q∧q<w4.heap.size) w6 (.agg #[.int .i64 k.m.n,.int .i64 k.m.s,.slice ai k.m.i.length ci,.slice ah k.m.h.length ch,.slice ae k.m.e.length ce,.int .i64 k.m.z,.slice ad k.d.length cd,.slice ap k.p.length cp,.slice ab k.b.length cb,.int .i64 k.t,.int .i64 k.q,.bool k.f,.slice au k.s.length cu,.slice ax k.x.length cx]) k):=HR_Vw5.out.below hb
 have HX0_w6:Hid (Bk w6 w4.heap.size 57 #[.int .i64 k.m.n,.int .i64 k.m.s,.slice ai k.m.i.length ci,.slice ah k.m.h.length ch,.slice ae k.m.e.length ce,.int .i64 k.m.z,.slice ad k.d.length cd,.slice ap k.p.length cp,.slice ab k.b.length cb,.int .i64 k.t,.int .i64 k.q,.bool k.f,.slice au k.s.length cu,.slice ax k.x.length cx]):=HX0_Vw5.out.below hb
 have HG_w6:Hid (HiF (fun q=>Vw4.heap.size≤q∧q<w5.heap.size) w6 (.agg #[.slice gag R.ev.length gcg,.slice hag R.em.length hcg,.int .i64 R.k,.bool R.f]) R):=HG_Vw5.out.below hb
 have HGb_w6:Hid (Bk w6 w5.heap.size 62 #[.slice gag R.ev.length gcg,.slice hag R.em.length hcg,.int .i64 R.k,.bool R.f]):=HGb_Vw5.out.below hb
 clear HB_Vw5 HP_Vw5 HS_Vw5 HSb_Vw5 HR_Vw5 HX0_Vw5 HG_Vw5 HGb_Vw5
 clear hb
 have r0:=HX0_w6.out.cell (i:=0) rfl
 have r1:=HX0_w6.out.cell (i:=1) rfl
 have r2:=HX0_w6.out.cell (i:=2) rfl
 have r3:=HX0_w6.out.cell (i:=3) rfl
 have r4:=HX0_w6.out.cell (i:=4) rfl
 have r5:=HX0_w6.out.cell (i:=5) rfl
 have r6:=HX0_w6.out.cell (i:=6) rfl
 have r7:=HX0_w6.out.cell (i:=7) rfl
 have r8:=HX0_w6.out.cell (i:=8) rfl
 have r9:=HX0_w6.out.cell (i:=9) rfl
 have r10:=HX0_w6.out.cell (i:=10) rfl
 have r11:=HX0_w6.out.cell (i:=11) rfl
 have r12:=HX0_w6.out.cell (i:=12) rfl
 have r13:=HX0_w6.out.cell (i:=13) rfl
 have p0:=HP_w6.out.cell (i:=0) rfl
 have p1:=HP_w6.out.cell (i:=1) rfl
 have p2:=HP_w6.out.cell (i:=2) rfl
 have p3:=HP_w6.out.cell (i:=3) rfl
 have p4:=HP_w6.out.cell (i:=4) rfl
 have p5:=HP_w6.out.cell (i:=5) rfl
 have p6:=HP_w6.out.cell (i:=6) rfl
 have p7:=HP_w6.out.cell (i:=7) rfl
 have p8:=HP_w6.out.cell (i:=8) rfl
 have p9:=HP_w6.out.cell (i:=9) rfl
 have p10:=HP_w6.out.cell (i:=10) rfl
 have p11:=HP_w6.out.cell (i:=11) rfl
 have p12:=HP_w6.out.cell (i:=12) rfl
 have p13:=HP_w6.out.cell (i:=13) rfl
 go_wp2_with fail
 go_region_held3 (fun W=>W.cell? ⟨w4.heap.size,0,none⟩=some (.int .i64 k.m.n)∧W.cell? ⟨w4.heap.size,1,none⟩=some (.int .i64 k.m.s)∧W.cell? ⟨w4.heap.size,2,none⟩=some (.slice ai k.m.i.length ci)∧W.cell? ⟨w4.heap.size,3,none⟩=some (.slice ah k.m.h.length ch)∧W.cell? ⟨w4.heap.size,4,none⟩=some (.slice ae k.m.e.length ce)∧W.cell? ⟨w4.heap.size,5,none⟩=some (.int .i64 k.m.z)∧W.cell? ⟨w4.heap.size,6,none⟩=some (.slice ad k.d.length cd)∧W.cell? ⟨w4.heap.size,7,none⟩=some (.slice ap k.p.length cp)∧W.cell? ⟨w4.heap.size,8,none⟩=some (.slice ab k.b.length cb)∧W.cell? ⟨w4.heap.size,9,none⟩=some (.int .i64 k.t)∧W.cell? ⟨w4.heap.size,10,none⟩=some (.int .i64 k.q)∧W.cell? ⟨w4.heap.size,11,none⟩=some (.bool k.f)∧W.cell? ⟨w4.heap.size,12,none⟩=some (.slice au k.s.length cu)∧W.cell? ⟨w4.heap.size,13,none⟩=some (.slice ax k.x.length cx)∧W.cell? ⟨w.heap.size,0,none⟩=some (.int .i64 k.m.n)∧W.cell? ⟨w.heap.size,1,none⟩=some (.int .i64 k.m.s)∧W.cell? ⟨w.heap.size,2,none⟩=some vi∧W.cell? ⟨w.heap.size,3,none⟩=some vh∧W.cell? ⟨w.heap.size,4,none⟩=some vs∧W.cell? ⟨w.heap.size,5,none⟩=some (.int .i64 k.m.z)∧W.cell? ⟨w.heap.size,6,none⟩=some u6∧W.cell? ⟨w.heap.size,7,none⟩=some u7∧W.cell? ⟨w.heap.size,8,none⟩=some u8∧W.cell? ⟨w.heap.size,9,none⟩=some (.int .i64 k.t)∧W.cell? ⟨w.heap.size,10,none⟩=some (.int .i64 k.q)∧W.cell? ⟨w.heap.size,11,none⟩=some (.bool k.f)∧W.cell? ⟨w.heap.size,12,none⟩=some u12∧W.cell? ⟨w.heap.size,13,none⟩=some u13) ((repeat' apply And.intro)<;>first|(go_keep;done)|(rw [hcA _ _ (by first|omega|(simp;omega))];simp [*];done))
  (first|(go_at_call 20;refine(toKernel_any _ k _ HSM.out (HX.out.under HB_w6.out.drew)).mono ?_;rintro r w7 ⟨yx,rfl,hbw7,hr2⟩;obtain⟨hcA,hfA⟩:=bcell hbw7;have hzw7:w6.heap.size≤w7.heap.size:=hbw7.size)|(go_at_call 22;refine(eqKernel_same _ _ k _ HSM.out (HR_w6.out.below ((Below.refl _ w6).drew.trans hbw7)).is hr2.is).mono ?_;rintro r w8 ⟨rfl,hbw8⟩;obtain⟨hcA,hfA⟩:=bcell hbw8;have hzw8:w7.heap.size≤w8.heap.size:=hbw8.size))
 clear hcA hfA
 have hbc:Below w6.heap.size w6 w8:=((Below.refl w6.heap.size w6).drew.trans (hbw7.mono (Nat.le_refl _))).trans (hbw8.mono (by omega))
 clear r0 r1 r2 r3 r4 r5 r6 r7 r8 r9 r10 r11 r12 r13
 clear p0 p1 p2 p3 p4 p5 p6 p7 p8 p9 p10 p11 p12 p13
 have z_w8:w6.heap.size≤w8.heap.size:=hbc.size
 have HB_w8:Hid (Below w.heap.size w w8):=HB_w6.out.trans (hbc.mono HB_w6.out.size)
 have HP_w8:Hid (Bk w8 w.heap.size 50 #[.int .i64 k.m.n,.int .i64 k.m.s,vi,vh,vs,.int .i64 k.m.z,u6,u7,u8,.int .i64 k.t,.int .i64 k.q,.bool k.f,u12,u13]):=HP_w6.out.below hbc
 have HS_w8:Hid (HiF (fun q=>w2.heap.size≤q∧q<w3.heap.size) w8 (.agg #[.slice gao R.ev.length gco,.slice hao R.em.length hco,.int .i64 R.k,.bool R.f]) R):=HS_w6.out.below hbc
 have HSb_w8:Hid (Bk w8 w3.heap.size 62 #[.slice gao R.ev.length gco,.slice hao R.em.length hco,.int .i64 R.k,.bool R.f]):=HSb_w6.out.below hbc
 have HR_w8:Hid (KernF (fun q=>Vw3.heap.size≤q∧q<w4.heap.size) w8 (.agg #[.int .i64 k.m.n,.int .i64 k.m.s,.slice ai k.m.i.length ci,.slice ah k.m.h.length ch,.slice ae k.m.e.length ce,.int .i64 k.m.z,.slice ad k.d.length cd,.slice ap k.p.length cp,.slice ab k.b.length cb,.int .i64 k.t,.int .i64 k.q,.bool k.f,.slice au k.s.length cu,.slice ax k.x.length cx]) k):=HR_w6.out.below hbc
 have HX0_w8:Hid (Bk w8 w4.heap.size 57 #[.int .i64 k.m.n,.int .i64 k.m.s,.slice ai k.m.i.length ci,.slice ah k.m.h.length ch,.slice ae k.m.e.length ce,.int .i64 k.m.z,.slice ad k.d.length cd,.slice ap k.p.length cp,.slice ab k.b.length cb,.int .i64 k.t,.int .i64 k.q,.bool k.f,.slice au k.s.length cu,.slice ax k.x.length cx]):=HX0_w6.out.below hbc
 have HG_w8:Hid (HiF (fun q=>Vw4.heap.size≤q∧q<w5.heap.size) w8 (.agg #[.slice gag R.ev.length gcg,.slice hag R.em.length hcg,.int .i64 R.k,.bool R.f]) R):=HG_w6.out.below hbc
 have HGb_w8:Hid (Bk w8 w5.heap.size 62 #[.slice gag R.ev.length gcg,.slice hag R.em.length hcg,.int .i64 R.k,.bool R.f]):=HGb_w6.out.below hbc
 clear HB_w6 HP_w6 HS_w6 HSb_w6 HR_w6 HX0_w6 HG_w6 HGb_w6
 clear hbc hr2 hbw7 hzw7 hbw8 hzw8
 have r0:=HX0_w8.out.cell (i:=0) rfl
 have r1:=HX0_w8.out.cell (i:=1) rfl
 have r2:=HX0_w8.out.cell (i:=2) rfl
 have r3:=HX0_w8.out.cell (i:=3) rfl
 have r4:=HX0_w8.out.cell (i:=4) rfl
 have r5:=HX0_w8.out.cell (i:=5) rfl
 have r6:=HX0_w8.out.cell (i:=6) rfl
 have r7:=HX0_w8.out.cell (i:=7) rfl
 have r8:=HX0_w8.out.cell (i:=8) rfl
 have r9:=HX0_w8.out.cell (i:=9) rfl
 have r10:=HX0_w8.out.cell (i:=10) rfl
 have r11:=HX0_w8.out.cell (i:=11) rfl
 have r12:=HX0_w8.out.cell (i:=12) rfl
 have r13:=HX0_w8.out.cell (i:=13) rfl
 go_wp2_with fail
 clear r0 r1 r2 r3 r4 r5 r6 r7 r8 r9 r10 r11 r12 r13
 refine(markKern_any HSM.out HR_w8.out (fun k e=>by omega)).mono ?_
 rintro r w9 ⟨rfl,ht⟩
 have z_w9:w8.heap.size≤w9.heap.size:=ht.size
 have HB_w9:Hid (Below w.heap.size w w9):=HB_w8.out.trans (ht.to_below (fun k e=>by omega) (by omega))
 have HP_w9:Hid (Bk w9 w.heap.size 50 #[.int .i64 k.m.n,.int .i64 k.m.s,vi,vh,vs,.int .i64 k.m.z,u6,u7,u8,.int .i64 k.t,.int .i64 k.q,.bool k.f,u12,u13]):=HP_w8.out.turns ht (fun e=>by omega)
 have HS_w9:Hid (HiF (fun q=>w2.heap.size≤q∧q<w3.heap.size) w9 (.agg #[.slice gao R.ev.length gco,.slice hao R.em.length hco,.int .i64 R.k,.bool R.f]) R):=HS_w8.out.turns ht (fun k e=>by omega)
 have HSb_w9:Hid (Bk w9 w3.heap.size 62 #[.slice gao R.ev.length gco,.slice hao R.em.length hco,.int .i64 R.k,.bool R.f]):=HSb_w8.out.turns ht (fun e=>by omega)
 have HG_w9:Hid (HiF (fun q=>Vw4.heap.size≤q∧q<w5.heap.size) w9 (.agg #[.slice gag R.ev.length gcg,.slice hag R.em.length hcg,.int .i64 R.k,.bool R.f]) R):=HG_w8.out.turns ht (fun k e=>by omega)
 have HGb_w9:Hid (Bk w9 w5.heap.size 62 #[.slice gag R.ev.length gcg,.slice hag R.em.length hcg,.int .i64 R.k,.bool R.f]):=HGb_w8.out.turns ht (fun e=>by omega)
 clear HB_w8 HP_w8 HS_w8 HSb_w8 HR_w8 HX0_w8 HG_w8 HGb_w8
 clear ht
 obtain⟨mk,hmk⟩:∃mk,markKg k=mk:=⟨_,rfl⟩
 have hmk0:1≤mk:=hmk▸HMK.out
 rw [hmk]
 clear hmk
 have hkn:¬(mk<0):=by omega
 have g0:=HGb_w9.out.cell (i:=0) rfl
 have g1:=HGb_w9.out.cell (i:=1) rfl
 have g2:=HGb_w9.out.cell (i:=2) rfl
 have g3:=HGb_w9.out.cell (i:=3) rfl
 have t0:=HSb_w9.out.cell (i:=0) rfl
 have t1:=HSb_w9.out.cell (i:=1) rfl
 have t2:=HSb_w9.out.cell (i:=2) rfl
 have t3:=HSb_w9.out.cell (i:=3) rfl
 go_wp2_with fail
 clear g0 g1 g2 g3
 clear t0 t1 t2 t3
 refine(eqHistory_same _ _ R _ HE.out HG_w9.out HS_w9.out).mono ?_
 rintro r w10 ⟨rfl,hb⟩
 have z_w10:w9.heap.size≤w10.heap.size:=hb.size
 have HB_w10:Hid (Below w.heap.size w w10):=HB_w9.out.trans (hb.mono HB_w9.out.size)
 have HP_w10:Hid (Bk w10 w.heap.size 50 #[.int .i64 k.m.n,.int .i64 k.m.s,vi,vh,vs,.int .i64 k.m.z,u6,u7,u8,.int .i64 k.t,.int .i64 k.q,.bool k.f,u12,u13]):=HP_w9.out.below hb
 have HS_w10:Hid (HiF (fun q=>w2.heap.size≤q∧q<w3.heap.size) w10 (.agg #[.slice gao R.ev.length gco,.slice hao R.em.length hco,.int .i64 R.k,.bool R.f]) R):=HS_w9.out.below hb
 have HSb_w10:Hid (Bk w10 w3.heap.size 62 #[.slice gao R.ev.length gco,.slice hao R.em.length hco,.int .i64 R.k,.bool R.f]):=HSb_w9.out.below hb
 have HG_w10:Hid (HiF (fun q=>Vw4.heap.size≤q∧q<w5.heap.size) w10 (.agg #[.slice gag R.ev.length gcg,.slice hag R.em.length hcg,.int .i64 R.k,.bool R.f]) R):=HG_w9.out.below hb
 have HGb_w10:Hid (Bk w10 w5.heap.size 62 #[.slice gag R.ev.length gcg,.slice hag R.em.length hcg,.int .i64 R.k,.bool R.f]):=HGb_w9.out.below hb
 clear HB_w9 HP_w9 HS_w9 HSb_w9 HG_w9 HGb_w9
 clear hb
 have g0:=HGb_w10.out.cell (i:=0) rfl
 have g1:=HGb_w10.out.cell (i:=1) rfl
 have g2:=HGb_w10.out.cell (i:=2) rfl
 have g3:=HGb_w10.out.cell (i:=3) rfl
 go_wp2_with fail
 clear g0 g1 g2 g3
 refine(markHistory_any HE.out HG_w10.out (fun k e=>by omega)).mono ?_
 rintro r w11 ⟨rfl,hh,ht⟩
 have z_w11:w10.heap.size≤w11.heap.size:=ht.size
 have HB_w11:Hid (Below w.heap.size w w11):=HB_w10.out.trans (ht.to_below (fun k e=>by omega) (by omega))
 have HP_w11:Hid (Bk w11 w.heap.size 50 #[.int .i64 k.m.n,.int .i64 k.m.s,vi,vh,vs,.int .i64 k.m.z,u6,u7,u8,.int .i64 k.t,.int .i64 k.q,.bool k.f,u12,u13]):=HP_w10.out.turns ht (fun e=>by omega)
 have HS_w11:Hid (HiF (fun q=>w2.heap.size≤q∧q<w3.heap.size) w11 (.agg #[.slice gao R.ev.length gco,.slice hao R.em.length hco,.int .i64 R.k,.bool R.f]) R):=HS_w10.out.turns ht (fun k e=>by omega)
 have HSb_w11:Hid (Bk w11 w3.heap.size 62 #[.slice gao R.ev.length gco,.slice hao R.em.length hco,.int .i64 R.k,.bool R.f]):=HSb_w10.out.turns ht (fun e=>by omega)
 have HGb_w11:Hid (Bk w11 w5.heap.size 62 #[.slice gag R.ev.length gcg,.slice hag R.em.length hcg,.int .i64 R.k,.bool R.f]):=HGb_w10.out.turns ht (fun e=>by omega)
 clear HB_w10 HP_w10 HS_w10 HSb_w10 HG_w10 HGb_w10
 have HH_w11:Hid (HeldHi (fun q=>Vw4.heap.size≤q∧q<w5.heap.size) w11 (.agg #[.slice gag R.ev.length gcg,.slice hag R.em.length hcg,.int .i64 R.k,.bool R.f]) R):=hh
 clear hh ht
 have hmn:¬(markHi R<0):=by have:=markHi_pos R;omega
 have g0:=HGb_w11.out.cell (i:=0) rfl
 have g1:=HGb_w11.out.cell (i:=1) rfl
 have g2:=HGb_w11.out.cell (i:=2) rfl
 have g3:=HGb_w11.out.cell (i:=3) rfl
 go_wp2_with fail
 clear g0 g1 g2 g3
 refine(heldHistory_any HE.out HH_w11.out).mono ?_
 rintro r w12 ⟨rfl,hb⟩
 have z_w12:w11.heap.size≤w12.heap.size:=hb.size
 have HB_w12:Hid (Below w.heap.size w w12):=HB_w11.out.trans (hb.mono HB_w11.out.size)
 have HP_w12:Hid (Bk w12 w.heap.size 50 #[.int .i64 k.m.n,.int .i64 k.m.s,vi,vh,vs,.int .i64 k.m.z,u6,u7,u8,.int .i64 k.t,.int .i64 k.q,.bool k.f,u12,u13]):=HP_w11.out.below hb
 have HS_w12:Hid (HiF (fun q=>w2.heap.size≤q∧q<w3.heap.size) w12 (.agg #[.slice gao R.ev.length gco,.slice hao R.em.length hco,.int .i64 R.k,.bool R.f]) R):=HS_w11.out.below hb
 have HSb_w12:Hid (Bk w12 w3.heap.size 62 #[.slice gao R.ev.length gco,.slice hao R.em.length hco,.int .i64 R.k,.bool R.f]):=HSb_w11.out.below hb
 have HGb_w12:Hid (Bk w12 w5.heap.size 62 #[.slice gag R.ev.length gcg,.slice hag R.em.length hcg,.int .i64 R.k,.bool R.f]):=HGb_w11.out.below hb
 have HH_w12:Hid (HeldHi (fun q=>Vw4.heap.size≤q∧q<w5.heap.size) w12 (.agg #[.slice gag R.ev.length gcg,.slice hag R.em.length hcg,.int .i64 R.k,.bool R.f]) R):=HH_w11.out.below hb
 clear HB_w11 HP_w11 HS_w11 HSb_w11 HGb_w11 HH_w11
 clear hb
 have p0:=HP_w12.out.cell (i:=0) rfl
 have p1:=HP_w12.out.cell (i:=1) rfl
 have p2:=HP_w12.out.cell (i:=2) rfl
 have p3:=HP_w12.out.cell (i:=3) rfl
 have p4:=HP_w12.out.cell (i:=4) rfl
 have p5:=HP_w12.out.cell (i:=5) rfl
 have p6:=HP_w12.out.cell (i:=6) rfl
 have p7:=HP_w12.out.cell (i:=7) rfl
 have p8:=HP_w12.out.cell (i:=8) rfl
 have p9:=HP_w12.out.cell (i:=9) rfl
 have p10:=HP_w12.out.cell (i:=10) rfl
 have p11:=HP_w12.out.cell (i:=11) rfl
 have p12:=HP_w12.out.cell (i:=12) rfl
 have p13:=HP_w12.out.cell (i:=13) rfl
 go_wp2_with fail
 clear p0 p1 p2 p3 p4 p5 p6 p7 p8 p9 p10 p11 p12 p13
 refine(toKernel_any _ k _ HSM.out (HX.out.under HB_w12.out)).mono ?_
 rintro r w13 ⟨yb,rfl,hb,hr⟩
 have z_w13:w12.heap.size≤w13.heap.size:=hb.size
 have HB_w13:Hid (Below w.heap.size w w13):=HB_w12.out.trans (hb.mono HB_w12.out.size)
 have HP_w13:Hid (Bk w13 w.heap.size 50 #[.int .i64 k.m.n,.int .i64 k.m.s,vi,vh,vs,.int .i64 k.m.z,u6,u7,u8,.int .i64 k.t,.int .i64 k.q,.bool k.f,u12,u13]):=HP_w12.out.below hb
 have HS_w13:Hid (HiF (fun q=>w2.heap.size≤q∧q<w3.heap.size) w13 (.agg #[.slice gao R.ev.length gco,.slice hao R.em.length hco,.int .i64 R.k,.bool R.f]) R):=HS_w12.out.below hb
 have HSb_w13:Hid (Bk w13 w3.heap.size 62 #[.slice gao R.ev.length gco,.slice hao R.em.length hco,.int .i64 R.k,.bool R.f]):=HSb_w12.out.below hb
 have HGb_w13:Hid (Bk w13 w5.heap.size 62 #[.slice gag R.ev.length gcg,.slice hag R.em.length hcg,.int .i64 R.k,.bool R.f]):=HGb_w12.out.below hb
 have HH_w13:Hid (HeldHi (fun q=>Vw4.heap.size≤q∧q<w5.heap.size) w13 (.agg #[.slice gag R.ev.length gcg,.slice hag R.em.length hcg,.int .i64 R.k,.bool R.f]) R):=HH_w12.out.below hb
 clear HB_w12 HP_w12 HS_w12 HSb_w12 HGb_w12 HH_w12
 have HA_w13:Hid (KernF (fun q=>w12.heap.size≤q∧q<w13.heap.size) w13 yb k):=hr
 clear hb hr
 go_wp2_with fail
 refine(HIM.out _ _ HA_w13.out.is).mono ?_
 rintro r w14 ⟨uk,rfl,hr,hb⟩
 obtain⟨gak,gck,hak,hck,rfl⟩:=HiF.form hr
 have z_w14:w13.heap.size≤w14.heap.size:=hb.size
 have HB_w14:Hid (Below w.heap.size w w14):=HB_w13.out.trans (hb.mono HB_w13.out.size)
 have HP_w14:Hid (Bk w14 w.heap.size 50 #[.int .i64 k.m.n,.int .i64 k.m.s,vi,vh,vs,.int .i64 k.m.z,u6,u7,u8,.int .i64 k.t,.int .i64 k.q,.bool k.f,u12,u13]):=HP_w13.out.below hb
 have HS_w14:Hid (HiF (fun q=>w2.heap.size≤q∧q<w3.heap.size) w14 (.agg #[.slice gao R.ev.length gco,.slice hao R.em.length hco,.int .i64 R.k,.bool R.f]) R):=HS_w13.out.below hb
 have HSb_w14:Hid (Bk w14 w3.heap.size 62 #[.slice gao R.ev.length gco,.slice hao R.em.length hco,.int .i64 R.k,.bool R.f]):=HSb_w13.out.below hb
 have HGb_w14:Hid (Bk w14 w5.heap.size 62 #[.slice gag R.ev.length gcg,.slice hag R.em.length hcg,.int .i64 R.k,.bool R.f]):=HGb_w13.out.below hb
 have HH_w14:Hid (HeldHi (fun q=>Vw4.heap.size≤q∧q<w5.heap.size) w14 (.agg #[.slice gag R.ev.length gcg,.slice hag R.em.length hcg,.int .i64 R.k,.bool R.f]) R):=HH_w13.out.below hb
 have HA_w14:Hid (KernF (fun q=>w12.heap.size≤q∧q<w13.heap.size) w14 yb k):=HA_w13.out.below hb
 clear HB_w13 HP_w13 HS_w13 HSb_w13 HGb_w13 HH_w13 HA_w13
 have HK_w14:Hid (HiF (fun q=>w13.heap.size≤q∧q<w14.heap.size) w14 (.agg #[.slice gak R.ev.length gck,.slice hak R.em.length hck,.int .i64 R.k,.bool R.f]) R):=hr
 clear hb hr
 obtain⟨Vw14,hVw14⟩:∃V,w14.alloc (.cells #[.slice gak R.ev.length gck,.slice hak R.em.length hck,.int .i64 R.k,.bool R.f] 62)=V:=⟨_,rfl⟩
 have BHKb:Bk Vw14 w14.heap.size 62 #[.slice gak R.ev.length gck,.slice hak R.em.length hck,.int .i64 R.k,.bool R.f]:=by rw [←hVw14];exact Bk.new _ _ _
 have hb:Below w14.heap.size w14 Vw14:=by rw [←hVw14];exact(Below.refl _ _).alloc (Nat.le_refl _) _
 have y_Vw14:w14.heap.size<Vw14.heap.size:=BHKb.lt
 have z_Vw14:w14.heap.size≤Vw14.heap.size:=hb.size
 have HB_Vw14:Hid (Below w.heap.size w Vw14):=HB_w14.out.trans (hb.mono HB_w14.out.size)
 have HP_Vw14:Hid (Bk Vw14 w.heap.size 50 #[.int .i64 k.m.n,.int .i64 k.m.s,vi,vh,vs,.int .i64 k.m.z,u6,u7,u8,.int .i64 k.t,.int .i64 k.q,.bool k.f,u12,u13]):=HP_w14.out.below hb
 have HS_Vw14:Hid (HiF (fun q=>w2.heap.size≤q∧q<w3.heap.size) Vw14 (.agg #[.slice gao R.ev.length gco,.slice hao R.em.length hco,.int .i64 R.k,.bool R.f]) R):=HS_w14.out.below hb
 have HSb_Vw14:Hid (Bk Vw14 w3.heap.size 62 #[.slice gao R.ev.length gco,.slice hao R.em.length hco,.int .i64 R.k,.bool R.f]):=HSb_w14.out.below hb
 have HGb_Vw14:Hid (Bk Vw14 w5.heap.size 62 #[.slice gag R.ev.length gcg,.slice hag R.em.length hcg,.int .i64 R.k,.bool R.f]):=HGb_w14.out.below hb
 have HH_Vw14:Hid (HeldHi (fun q=>Vw4.heap.size≤q∧q<w5.heap.size) Vw14 (.agg #[.slice gag R.ev.length gcg,.slice hag R.em.length hcg,.int .i64 R.k,.bool R.f]) R):=HH_w14.out.below hb
 have HA_Vw14:Hid (KernF (fun q=>w12.heap.size≤q∧q<w13.heap.size) Vw14 yb k):=HA_w14.out.below hb
 have HK_Vw14:Hid (HiF (fun q=>w13.heap.size≤q∧q<w14.heap.size) Vw14 (.agg #[.slice gak R.ev.length gck,.slice hak R.em.length hck,.int .i64 R.k,.bool R.f]) R):=HK_w14.out.below hb
 clear HB_w14 HP_w14 HS_w14 HSb_w14 HGb_w14 HH_w14 HA_w14 HK_w14
 clear hb
 have HKb_Vw14:Hid (Bk Vw14 w14.heap.size 62 #[.slice gak R.ev.length gck,.slice hak R.em.length hck,.int .i64 R.k,.bool R.f]):=BHKb
 clear BHKb
 clear HA_Vw14
 have g0:=HKb_Vw14.out.cell (i:=0) rfl
 have g1:=HKb_Vw14.out.cell (i:=1) rfl
 have g2:=HKb_Vw14.out.cell (i:=2) rfl
 have g3:=HKb_Vw14.out.cell (i:=3) rfl
 have t0:=HSb_Vw14.out.cell (i:=0) rfl
 have t1:=HSb_Vw14.out.cell (i:=1) rfl
 have t2:=HSb_Vw14.out.cell (i:=2) rfl
 have t3:=HSb_Vw14.out.cell (i:=3) rfl
 go_wp2_with fail
 clear hVw14
 clear g0 g1 g2 g3
 clear t0 t1 t2 t3
 refine(eqHistory_same _ _ R _ HE.out HK_Vw14.out HS_Vw14.out).mono ?_
 rintro r w15 ⟨rfl,hb⟩
 have z_w15:Vw14.heap.size≤w15.heap.size:=hb.size
 have HB_w15:Hid (Below w.heap.size w w15):=HB_Vw14.out.trans (hb.mono HB_Vw14.out.size)
 have HP_w15:Hid (Bk w15 w.heap.size 50 #[.int .i64 k.m.n,.int .i64 k.m.s,vi,vh,vs,.int .i64 k.m.z,u6,u7,u8,.int .i64 k.t,.int .i64 k.q,.bool k.f,u12,u13]):=HP_Vw14.out.below hb
 have HS_w15:Hid (HiF (fun q=>w2.heap.size≤q∧q<w3.heap.size) w15 (.agg #[.slice gao R.ev.length gco,.slice hao R.em.length hco,.int .i64 R.k,.bool R.f]) R):=HS_Vw14.out.below hb
 have HSb_w15:Hid (Bk w15 w3.heap.size 62 #[.slice gao R.ev.length gco,.slice hao R.em.length hco,.int .i64 R.k,.bool R.f]):=HSb_Vw14.out.below hb
 have HGb_w15:Hid (Bk w15 w5.heap.size 62 #[.slice gag R.ev.length gcg,.slice hag R.em.length hcg,.int .i64 R.k,.bool R.f]):=HGb_Vw14.out.below hb
 have HH_w15:Hid (HeldHi (fun q=>Vw4.heap.size≤q∧q<w5.heap.size) w15 (.agg #[.slice gag R.ev.length gcg,.slice hag R.em.length hcg,.int .i64 R.k,.bool R.f]) R):=HH_Vw14.out.below hb
 have HK_w15:Hid (HiF (fun q=>w13.heap.size≤q∧q<w14.heap.size) w15 (.agg #[.slice gak R.ev.length gck,.slice hak R.em.length hck,.int .i64 R.k,.bool R.f]) R):=HK_Vw14.out.below hb
 have HKb_w15:Hid (Bk w15 w14.heap.size 62 #[.slice gak R.ev.length gck,.slice hak R.em.length hck,.int .i64 R.k,.bool R.f]):=HKb_Vw14.out.below hb
 clear HB_Vw14 HP_Vw14 HS_Vw14 HSb_Vw14 HGb_Vw14 HH_Vw14 HK_Vw14 HKb_Vw14
 clear hb
 have g0:=HGb_w15.out.cell (i:=0) rfl
 have g1:=HGb_w15.out.cell (i:=1) rfl
 have g2:=HGb_w15.out.cell (i:=2) rfl
 have g3:=HGb_w15.out.cell (i:=3) rfl
 go_wp2_with fail
 clear g0 g1 g2 g3
 refine(heldHistory_any HE.out HH_w15.out).mono ?_
 rintro r w16 ⟨rfl,hb⟩
 have z_w16:w15.heap.size≤w16.heap.size:=hb.size
 have HB_w16:Hid (Below w.heap.size w w16):=HB_w15.out.trans (hb.mono HB_w15.out.size)
 have HP_w16:Hid (Bk w16 w.heap.size 50 #[.int .i64 k.m.n,.int .i64 k.m.s,vi,vh,vs,.int .i64 k.m.z,u6,u7,u8,.int .i64 k.t,.int .i64 k.q,.bool k.f,u12,u13]):=HP_w15.out.below hb
 have HS_w16:Hid (HiF (fun q=>w2.heap.size≤q∧q<w3.heap.size) w16 (.agg #[.slice gao R.ev.length gco,.slice hao R.em.length hco,.int .i64 R.k,.bool R.f]) R):=HS_w15.out.below hb
 have HSb_w16:Hid (Bk w16 w3.heap.size 62 #[.slice gao R.ev.length gco,.slice hao R.em.length hco,.int .i64 R.k,.bool R.f]):=HSb_w15.out.below hb
 have HGb_w16:Hid (Bk w16 w5.heap.size 62 #[.slice gag R.ev.length gcg,.slice hag R.em.length hcg,.int .i64 R.k,.bool R.f]):=HGb_w15.out.below hb
 have HH_w16:Hid (HeldHi (fun q=>Vw4.heap.size≤q∧q<w5.heap.size) w16 (.agg #[.slice gag R.ev.length gcg,.slice hag R.em.length hcg,.int .i64 R.k,.bool R.f]) R):=HH_w15.out.below hb
 have HK_w16:Hid (HiF (fun q=>w13.heap.size≤q∧q<w14.heap.size) w16 (.agg #[.slice gak R.ev.length gck,.slice hak R.em.length hck,.int .i64 R.k,.bool R.f]) R):=HK_w15.out.below hb
 have HKb_w16:Hid (Bk w16 w14.heap.size 62 #[.slice gak R.ev.length gck,.slice hak R.em.length hck,.int .i64 R.k,.bool R.f]):=HKb_w15.out.below hb
 clear HB_w15 HP_w15 HS_w15 HSb_w15 HGb_w15 HH_w15 HK_w15 HKb_w15
 clear hb
 go_wp2
 go_ret
 exact⟨rfl,HB_w16.out⟩
end Go.Proofs.YtmobiieoecjmdaaGreat.LawExactCommitted
