/- At every argument the program's Answers answers as the specification's, its answer owns its memory, and it writes into nothing that it is given; no condition. -/
import Derived.Test.YtmobiieoecjmdaaGreatExactAnswersG41
namespace Go.Proofs.YtmobiieoecjmdaaGreat.LawExactAnswers
open Go.ChangeShapes Go.WideShapes Go.ChangeAt Go.RowKit Go.Proofs.YtmobiieoecjmdaaGreat
theorem ya2 {p:Prop} (h:p):Hid p:=h
theorem yvd (k:Kn):SmallH (comH k):=by
 unfold comH
 split
 case isFalse=>exact⟨Nat.zero_le _,Nat.zero_le _⟩
 case isTrue h=>
  have h1:=(kern_iff.1 h).1
  have h2:=yld h (pre:=comL k) (t:= []) (by simp)
  have h3:=yl5 h (pre:=comL k) (t:= []) (by simp)
  refine⟨?_,by show(ydn k (comL k)).length≤_;omega⟩
  show(k.s++ydj (comL k)).length≤_
  rw [List.length_append,ydj,List.length_map]
  omega
theorem yvt (v:Wd) (d:List Int):SmallH (ansA v d):=by
 unfold ansA
 split
 ·exact yvd _
 ·exact⟨Nat.zero_le _,Nat.zero_le _⟩
set_option maxRecDepth 100000 in
set_option maxHeartbeats 64000000 in
theorem walk (x:Value) (v:Wd) (z:Value) (d:List Int) (w:World) (hx:IsW w x v) (hz:IsI w z d):
  Calls Tryz.prog 6 #[x,z] w fun e w'=>e= .returned (.bool true)∧Below w.heap.size w w':=by
 haveI:Inhabited PsF:=Classical.inhabited_of_nonempty psF_some
 have HX:Hid (IsW w x v):=hx
 obtain⟨vi,vh,vs,uk,uc,rfl,_⟩:=hx
 have HZ:Hid (IsI w z d):=hz
 obtain⟨za,zc,rfl,hz1,hz2,_⟩:=hz
 have hd63:d.length≤9223372036854775807:=by unfold maxLen at hz2;omega
 clear hz1 hz2
 obtain⟨W0,hW0⟩:∃W0,w.alloc (.cells #[.int .i64 v.m.n,.int .i64 v.m.s,vi,vh,vs,.int .i64 v.m.z,uk,uc] 30)=W0:=⟨_,rfl⟩
 have HB_W0:=hdq (beA hW0)
 have HP_W0:=hdq (bkA hW0)
 have hV0:w.heap.size<W0.heap.size:=HP_W0.out.lt
 by_cases hdl:d.length≤1048576
 case neg=>
  have hdl':(1048576:Int)<(d.length:Int):=by omega
  go_enter Tryz.func6,Tryz.ntmps6
  go_wp2
  go_ret
  exact⟨rfl,HB_W0.out⟩
 have hdl':¬(1048576:Int)<(d.length:Int):=by omega
 have HDL:Hid (d.length≤1048576):=hdl
 obtain⟨p0,p1,p2,p3,p4,p5,p6,p7⟩:=c8_8 HP_W0.out
 go_enter Tryz.func6,Tryz.ntmps6
 go_wp2_with fail
 clear hW0
 clear p0 p1 p2 p3 p4 p5 p6 p7
 refine(yt0 _ v _ _ (by omega) (by omega) (HX.out.under HB_W0.out)).mono ?_
 rintro r w1 ⟨⟨r1,rfl,hr⟩,hb⟩
 have z_w1:W0.heap.size≤w1.heap.size:=hb.size
 have HB_w1:=trh HB_W0 hb
 have HP_w1:=ya2 (HP_W0.out.below hb)
 clear HB_W0 HP_W0
 clear hb
 rcases hr with rfl|⟨hr0,hr9⟩
 case inl=>
  go_wp2
  go_ret
  exact⟨rfl,HB_w1.out⟩
 have hr1:¬(r1<0):=by omega
 have hwd:wdW v≤1048576:=by omega
 have HSM:Hid (ycc v):=(yl1 hwd).1
 have HTY:Hid (TinyW v):=(yl1 hwd).2
 have HMK:Hid (1≤yjl v∧yjl v≤1073741824):=(by have:=yj7 (yl1 hwd).2;omega:1≤yjl v∧yjl v≤1073741824)
 clear hr9 hwd
 have HC:Hid (∃R b,SmallH R∧(∀(v0:Value) (z0:Value) (W:World),IsW W v0 v→IsI W z0 d→Calls Tryz.prog 29 #[v0,z0] W fun r w'=>∃u,r= .returned (.tuple #[u,.bool b])∧HiF (fun q=>W.heap.size≤q∧q<w'.heap.size) w' u R∧Below W.heap.size W w')∧(∀(v0:Value) (z0:Value) (W:World),IsW W v0 v→IsI W z0 d→Calls Tryz.prog 31 #[v0,z0] W fun r w'=>∃u,r= .returned (.tuple #[u,.bool b])∧HiF (fun q=>W.heap.size≤q∧q<w'.heap.size) w' u R∧Below W.heap.size W w')):=⟨ansA v d,decide (0≤covA v d)&&decide (whV d=1),yvt v d,fun v0 z0 W h0 h1=>sAnswers v0 v z0 d W HSM.out HDL.out h0 h1,fun v0 z0 W h0 h1=>iAnswers v0 v z0 d W HSM.out HDL.out h0 h1⟩
 obtain⟨R,b,hq,hsp,him⟩:=HC.out
 have HSP:=ya2 hsp
 have HIM:=ya2 him
 have HE:Hid (SmallH R):=hq
 clear HC hsp him hq
 obtain⟨p0,p1,p2,p3,p4,p5,p6,p7⟩:=c8_8 HP_w1.out
 go_wp2_with fail
 clear p0 p1 p2 p3 p4 p5 p6 p7
 refine(yfc _ v _ HSM.out (HX.out.under HB_w1.out)).mono ?_
 rintro r w2 ⟨ya,rfl,hb,hr⟩
 have z_w2:w1.heap.size≤w2.heap.size:=hb.size
 have HB_w2:=trh HB_w1 hb
 have HP_w2:=ya2 (HP_w1.out.below hb)
 clear HB_w1 HP_w1
 have HA_w2:=ya2 hr
 clear hb hr
 go_wp2_with fail
 refine(ygy _ d _ HDL.out ((HZ.out.below HB_w2.out).isD)).mono ?_
 rintro r w3 ⟨zi,rfl,hb,hr⟩
 have z_w3:w2.heap.size≤w3.heap.size:=hb.size
 have HB_w3:=trh HB_w2 hb
 have HP_w3:=ya2 (HP_w2.out.below hb)
 have HA_w3:=ya2 (HA_w2.out.below hb)
 clear HB_w2 HP_w2 HA_w2
 have HI_w3:=ya2 hr
 clear hb hr
 go_wp2_with fail
 refine(HSP.out _ _ _ HA_w3.out.is HI_w3.out.isD.isI).mono ?_
 rintro r w4 ⟨uo,rfl,hr,hb⟩
 obtain⟨gao,gco,hao,hco,rfl⟩:=HiF.form hr
 have z_w4:w3.heap.size≤w4.heap.size:=hb.size
 have HB_w4:=trh HB_w3 hb
 have HP_w4:=ya2 (HP_w3.out.below hb)
 have HA_w4:=ya2 (HA_w3.out.below hb)
 have HI_w4:=ya2 (HI_w3.out.under hb)
 clear HB_w3 HP_w3 HA_w3 HI_w3
 have HS_w4:=ya2 hr
 clear hb hr
 obtain⟨Vw4,hVw4⟩:∃V,w4.alloc (.cells #[.slice gao R.ev.length gco,.slice hao R.em.length hco,.int .i64 R.k,.bool R.f] 62)=V:=⟨_,rfl⟩
 have BHSb:=bkA hVw4
 have hb:=beA hVw4
 have y_Vw4:w4.heap.size<Vw4.heap.size:=BHSb.lt
 have z_Vw4:w4.heap.size≤Vw4.heap.size:=hb.size
 have HB_Vw4:=trh HB_w4 hb
 have HP_Vw4:=ya2 (HP_w4.out.below hb)
 have HA_Vw4:=ya2 (HA_w4.out.below hb)
 have HI_Vw4:=ya2 (HI_w4.out.under hb)
 have HS_Vw4:=ya2 (HS_w4.out.below hb)
 clear HB_w4 HP_w4 HA_w4 HI_w4 HS_w4
 clear hb
 have HSb_Vw4:=ya2 BHSb
 clear BHSb
 clear HA_Vw4 HI_Vw4
 clear HSP
 obtain⟨p0,p1,p2,p3,p4,p5,p6,p7⟩:=c8_8 HP_Vw4.out
 go_wp2_with fail
 clear hVw4
 clear p0 p1 p2 p3 p4 p5 p6 p7
 refine(yfc _ v _ HSM.out (HX.out.under HB_Vw4.out)).mono ?_
 rintro r w5 ⟨y1,rfl,hb,hr⟩
 have z_w5:Vw4.heap.size≤w5.heap.size:=hb.size
 have HB_w5:=trh HB_Vw4 hb
 have HP_w5:=ya2 (HP_Vw4.out.below hb)
 have HS_w5:=ya2 (HS_Vw4.out.below hb)
 have HSb_w5:=ya2 (HSb_Vw4.out.below hb)
 clear HB_Vw4 HP_Vw4 HS_Vw4 HSb_Vw4
 have HR_w5:=ya2 hr
 clear hb hr
 obtain⟨kau,kbu,kcu,kdu,keu,kfu,kgu,khu,kiu,kju,rfl⟩:=HR_w5.out.form
 obtain⟨Vw5,hVw5⟩:∃V,w5.alloc (.cells #[.int .i64 v.m.n,.int .i64 v.m.s,.slice kau v.m.i.length kbu,.slice kcu v.m.h.length kdu,.slice keu v.m.e.length kfu,.int .i64 v.m.z,.slice kgu v.k.length khu,.slice kiu v.c.length kju] 39)=V:=⟨_,rfl⟩
 have BHX0:=bkA hVw5
 have hb:=beA hVw5
 have y_Vw5:w5.heap.size<Vw5.heap.size:=BHX0.lt
 have z_Vw5:w5.heap.size≤Vw5.heap.size:=hb.size
 have HB_Vw5:=trh HB_w5 hb
 have HP_Vw5:=ya2 (HP_w5.out.below hb)
 have HS_Vw5:=ya2 (HS_w5.out.below hb)
 have HSb_Vw5:=ya2 (HSb_w5.out.below hb)
 have HR_Vw5:=ya2 (HR_w5.out.below hb)
 clear HB_w5 HP_w5 HS_w5 HSb_w5 HR_w5
 clear hb
 have HX0_Vw5:=ya2 BHX0
 clear BHX0
 go_wp2_with fail
 clear hVw5
 refine(ygy _ d _ HDL.out ((HZ.out.below HB_Vw5.out).isD)).mono ?_
 rintro r w6 ⟨zj,rfl,hb,hr⟩
 have z_w6:Vw5.heap.size≤w6.heap.size:=hb.size
 have HB_w6:=trh HB_Vw5 hb
 have HP_w6:=ya2 (HP_Vw5.out.below hb)
 have HS_w6:=ya2 (HS_Vw5.out.below hb)
 have HSb_w6:=ya2 (HSb_Vw5.out.below hb)
 have HR_w6:=ya2 (HR_Vw5.out.below hb)
 have HX0_w6:=ya2 (HX0_Vw5.out.below hb)
 clear HB_Vw5 HP_Vw5 HS_Vw5 HSb_Vw5 HR_Vw5 HX0_Vw5
 have HJ_w6:=ya2 hr
 clear hb hr
 obtain⟨r0,r1,r2,r3,r4,r5,r6,r7⟩:=c8_8 HX0_w6.out
 go_wp2_with fail
 refine(HIM.out _ _ _ HR_w6.out.is HJ_w6.out.isD.isI).mono ?_
 rintro r w7 ⟨ug,rfl,hr,hb⟩
 obtain⟨gag,gcg,hag,hcg,rfl⟩:=HiF.form hr
 have z_w7:w6.heap.size≤w7.heap.size:=hb.size
 have HB_w7:=trh HB_w6 hb
 have HP_w7:=ya2 (HP_w6.out.below hb)
 have HS_w7:=ya2 (HS_w6.out.below hb)
 have HSb_w7:=ya2 (HSb_w6.out.below hb)
 have HR_w7:=ya2 (HR_w6.out.below hb)
 have HX0_w7:=ya2 (HX0_w6.out.below hb)
 have HJ_w7:=ya2 (HJ_w6.out.under hb)
 clear HB_w6 HP_w6 HS_w6 HSb_w6 HR_w6 HX0_w6 HJ_w6
 have HG_w7:=ya2 hr
 clear hb hr
 obtain⟨Vw7,hVw7⟩:∃V,w7.alloc (.cells #[.slice gag R.ev.length gcg,.slice hag R.em.length hcg,.int .i64 R.k,.bool R.f] 62)=V:=⟨_,rfl⟩
 have BHGb:=bkA hVw7
 have hb:=beA hVw7
 have y_Vw7:w7.heap.size<Vw7.heap.size:=BHGb.lt
 have z_Vw7:w7.heap.size≤Vw7.heap.size:=hb.size
 have HB_Vw7:=trh HB_w7 hb
 have HP_Vw7:=ya2 (HP_w7.out.below hb)
 have HS_Vw7:=ya2 (HS_w7.out.below hb)
 have HSb_Vw7:=ya2 (HSb_w7.out.below hb)
 have HR_Vw7:=ya2 (HR_w7.out.below hb)
 have HX0_Vw7:=ya2 (HX0_w7.out.below hb)
 have HJ_Vw7:=ya2 (HJ_w7.out.under hb)
 have HG_Vw7:=ya2 (HG_w7.out.below hb)
 clear HB_w7 HP_w7 HS_w7 HSb_w7 HR_w7 HX0_w7 HJ_w7 HG_w7
 clear hb
 have HGb_Vw7:=ya2 BHGb
 clear BHGb
 clear r0 r1 r2 r3 r4 r5 r6 r7
 obtain⟨g0,g1,g2,g3⟩:=c4_4 HGb_Vw7.out
 obtain⟨t0,t1,t2,t3⟩:=c4_4 HSb_Vw7.out
 go_wp2_with fail
 clear hVw7
 clear g0 g1 g2 g3
 clear t0 t1 t2 t3
 refine(yew _ _ R _ HE.out HG_Vw7.out HS_Vw7.out).mono ?_
 rintro r w8 ⟨rfl,hb⟩
 have z_w8:Vw7.heap.size≤w8.heap.size:=hb.size
 have HB_w8:=trh HB_Vw7 hb
 have HP_w8:=ya2 (HP_Vw7.out.below hb)
 have HS_w8:=ya2 (HS_Vw7.out.below hb)
 have HSb_w8:=ya2 (HSb_Vw7.out.below hb)
 have HR_w8:=ya2 (HR_Vw7.out.below hb)
 have HX0_w8:=ya2 (HX0_Vw7.out.below hb)
 have HJ_w8:=ya2 (HJ_Vw7.out.under hb)
 have HG_w8:=ya2 (HG_Vw7.out.below hb)
 have HGb_w8:=ya2 (HGb_Vw7.out.below hb)
 clear HB_Vw7 HP_Vw7 HS_Vw7 HSb_Vw7 HR_Vw7 HX0_Vw7 HJ_Vw7 HG_Vw7 HGb_Vw7
 clear hb
 obtain⟨r0,r1,r2,r3,r4,r5,r6,r7⟩:=c8_8 HX0_w8.out
 obtain⟨p0,p1,p2,p3,p4,p5,p6,p7⟩:=c8_8 HP_w8.out
 go_wp2_with fail
 go_region_held3 (fun W=>W.cell? ⟨w5.heap.size,0,none⟩=some (.int .i64 v.m.n)∧W.cell? ⟨w5.heap.size,1,none⟩=some (.int .i64 v.m.s)∧W.cell? ⟨w5.heap.size,2,none⟩=some (.slice kau v.m.i.length kbu)∧W.cell? ⟨w5.heap.size,3,none⟩=some (.slice kcu v.m.h.length kdu)∧W.cell? ⟨w5.heap.size,4,none⟩=some (.slice keu v.m.e.length kfu)∧W.cell? ⟨w5.heap.size,5,none⟩=some (.int .i64 v.m.z)∧W.cell? ⟨w5.heap.size,6,none⟩=some (.slice kgu v.k.length khu)∧W.cell? ⟨w5.heap.size,7,none⟩=some (.slice kiu v.c.length kju)∧W.cell? ⟨w.heap.size,0,none⟩=some (.int .i64 v.m.n)∧W.cell? ⟨w.heap.size,1,none⟩=some (.int .i64 v.m.s)∧W.cell? ⟨w.heap.size,2,none⟩=some vi∧W.cell? ⟨w.heap.size,3,none⟩=some vh∧W.cell? ⟨w.heap.size,4,none⟩=some vs∧W.cell? ⟨w.heap.size,5,none⟩=some (.int .i64 v.m.z)∧W.cell? ⟨w.heap.size,6,none⟩=some uk∧W.cell? ⟨w.heap.size,7,none⟩=some uc) ((repeat' apply And.intro)<;>first|(go_keep;done)|(rw [hcA _ _ (by first|omega|(simp;omega))];simp [*];done))
  (first|(go_at_call 11;refine(yfc _ v _ HSM.out (HX.out.under HB_w8.out.drew)).mono ?_;rintro r w9 ⟨yx,rfl,hbw9,hr2⟩;obtain⟨hcA,hfA⟩:=ygs hbw9;have hzw9:w8.heap.size≤w9.heap.size:=hbw9.size)|(go_at_call 14;refine(yno _ _ v _ HSM.out (HR_w8.out.below ((Below.refl _ w8).drew.trans hbw9)).is hr2.is).mono ?_;rintro r w10 ⟨rfl,hbw10⟩;obtain⟨hcA,hfA⟩:=ygs hbw10;have hzw10:w9.heap.size≤w10.heap.size:=hbw10.size))
 clear hcA hfA
 have hbc:Below w8.heap.size w8 w10:=((Below.refl w8.heap.size w8).drew.trans (hbw9.mono (Nat.le_refl _))).trans (hbw10.mono (by omega))
 clear r0 r1 r2 r3 r4 r5 r6 r7
 clear p0 p1 p2 p3 p4 p5 p6 p7
 have z_w10:w8.heap.size≤w10.heap.size:=hbc.size
 have HB_w10:=trh HB_w8 hbc
 have HP_w10:=ya2 (HP_w8.out.below hbc)
 have HS_w10:=ya2 (HS_w8.out.below hbc)
 have HSb_w10:=ya2 (HSb_w8.out.below hbc)
 have HR_w10:=ya2 (HR_w8.out.below hbc)
 have HX0_w10:=ya2 (HX0_w8.out.below hbc)
 have HJ_w10:=ya2 (HJ_w8.out.under hbc)
 have HG_w10:=ya2 (HG_w8.out.below hbc)
 have HGb_w10:=ya2 (HGb_w8.out.below hbc)
 clear HB_w8 HP_w8 HS_w8 HSb_w8 HR_w8 HX0_w8 HJ_w8 HG_w8 HGb_w8
 clear hbc hr2 hbw9 hzw9 hbw10 hzw10
 go_wp2_with fail
 refine(ygy _ d _ HDL.out ((HZ.out.below HB_w10.out).isD)).mono ?_
 rintro r w11 ⟨zk,rfl,hb,hr⟩
 have z_w11:w10.heap.size≤w11.heap.size:=hb.size
 have HB_w11:=trh HB_w10 hb
 have HP_w11:=ya2 (HP_w10.out.below hb)
 have HS_w11:=ya2 (HS_w10.out.below hb)
 have HSb_w11:=ya2 (HSb_w10.out.below hb)
 have HR_w11:=ya2 (HR_w10.out.below hb)
 have HX0_w11:=ya2 (HX0_w10.out.below hb)
 have HJ_w11:=ya2 (HJ_w10.out.under hb)
 have HG_w11:=ya2 (HG_w10.out.below hb)
 have HGb_w11:=ya2 (HGb_w10.out.below hb)
 clear HB_w10 HP_w10 HS_w10 HSb_w10 HR_w10 HX0_w10 HJ_w10 HG_w10 HGb_w10
 have HJ2_w11:=ya2 hr
 clear hb hr
 go_wp2_with fail
 refine(ylt _ _ d _ HDL.out HJ_w11.out.isD HJ2_w11.out.isD).mono ?_
 rintro r w12 ⟨rfl,hb⟩
 have z_w12:w11.heap.size≤w12.heap.size:=hb.size
 have HB_w12:=trh HB_w11 hb
 have HP_w12:=ya2 (HP_w11.out.below hb)
 have HS_w12:=ya2 (HS_w11.out.below hb)
 have HSb_w12:=ya2 (HSb_w11.out.below hb)
 have HR_w12:=ya2 (HR_w11.out.below hb)
 have HX0_w12:=ya2 (HX0_w11.out.below hb)
 have HJ_w12:=ya2 (HJ_w11.out.under hb)
 have HG_w12:=ya2 (HG_w11.out.below hb)
 have HGb_w12:=ya2 (HGb_w11.out.below hb)
 clear HB_w11 HP_w11 HS_w11 HSb_w11 HR_w11 HX0_w11 HJ_w11 HG_w11 HGb_w11 HJ2_w11
 clear hb
 obtain⟨r0,r1,r2,r3,r4,r5,r6,r7⟩:=c8_8 HX0_w12.out
 go_wp2_with fail
 clear r0 r1 r2 r3 r4 r5 r6 r7
 refine(ylk HTY.out HR_w12.out (fun k e=>by omega)).mono ?_
 rintro r w13 ⟨rfl,_,ht⟩
 have z_w13:w12.heap.size≤w13.heap.size:=ht.size
 have HB_w13:=ya2 (HB_w12.out.trans (ht.to_below (fun k e=>by omega) (by omega)))
 have HP_w13:=ya2 (HP_w12.out.turns ht (fun e=>by omega))
 have HS_w13:=ya2 (HS_w12.out.turns ht (fun k e=>by omega))
 have HSb_w13:=ya2 (HSb_w12.out.turns ht (fun e=>by omega))
 have HJ_w13:=ya2 (HJ_w12.out.turns ht (fun k e=>by omega))
 have HG_w13:=ya2 (HG_w12.out.turns ht (fun k e=>by omega))
 have HGb_w13:=ya2 (HGb_w12.out.turns ht (fun e=>by omega))
 clear HB_w12 HP_w12 HS_w12 HSb_w12 HR_w12 HX0_w12 HJ_w12 HG_w12 HGb_w12
 clear ht
 obtain⟨mk,hmk⟩:∃mk,yjl v=mk:=⟨_,rfl⟩
 have hmk0:1≤mk:=hmk▸HMK.out.1
 have hmk1:mk≤1073741824:=hmk▸HMK.out.2
 rw [hmk]
 clear hmk
 go_wp2_with fail
 refine(yee mk (by have:=HDL.out;omega) (by omega) hmk1 HJ_w13.out).mono ?_
 rintro r w14 ⟨rfl,_,ht⟩
 have z_w14:w13.heap.size≤w14.heap.size:=ht.size
 have HB_w14:=ya2 (HB_w13.out.trans (ht.to_below (fun k e=>by omega) (by omega)))
 have HP_w14:=ya2 (HP_w13.out.turns ht (fun e=>by omega))
 have HS_w14:=ya2 (HS_w13.out.turns ht (fun k e=>by omega))
 have HSb_w14:=ya2 (HSb_w13.out.turns ht (fun e=>by omega))
 have HG_w14:=ya2 (HG_w13.out.turns ht (fun k e=>by omega))
 have HGb_w14:=ya2 (HGb_w13.out.turns ht (fun e=>by omega))
 clear HB_w13 HP_w13 HS_w13 HSb_w13 HJ_w13 HG_w13 HGb_w13
 clear ht
 have hkn:¬(mk+((yaq d).cnt:Int)<0):=by omega
 obtain⟨g0,g1,g2,g3⟩:=c4_4 HGb_w14.out
 obtain⟨t0,t1,t2,t3⟩:=c4_4 HSb_w14.out
 go_wp2_with fail
 clear g0 g1 g2 g3
 clear t0 t1 t2 t3
 refine(yew _ _ R _ HE.out HG_w14.out HS_w14.out).mono ?_
 rintro r w15 ⟨rfl,hb⟩
 have z_w15:w14.heap.size≤w15.heap.size:=hb.size
 have HB_w15:=trh HB_w14 hb
 have HP_w15:=ya2 (HP_w14.out.below hb)
 have HS_w15:=ya2 (HS_w14.out.below hb)
 have HSb_w15:=ya2 (HSb_w14.out.below hb)
 have HG_w15:=ya2 (HG_w14.out.below hb)
 have HGb_w15:=ya2 (HGb_w14.out.below hb)
 clear HB_w14 HP_w14 HS_w14 HSb_w14 HG_w14 HGb_w14
 clear hb
 obtain⟨g0,g1,g2,g3⟩:=c4_4 HGb_w15.out
 go_wp2_with fail
 clear g0 g1 g2 g3
 refine(yjm HE.out HG_w15.out (fun k e=>by omega)).mono ?_
 rintro r w16 ⟨rfl,hh,ht⟩
 have z_w16:w15.heap.size≤w16.heap.size:=ht.size
 have HB_w16:=ya2 (HB_w15.out.trans (ht.to_below (fun k e=>by omega) (by omega)))
 have HP_w16:=ya2 (HP_w15.out.turns ht (fun e=>by omega))
 have HS_w16:=ya2 (HS_w15.out.turns ht (fun k e=>by omega))
 have HSb_w16:=ya2 (HSb_w15.out.turns ht (fun e=>by omega))
 have HGb_w16:=ya2 (HGb_w15.out.turns ht (fun e=>by omega))
 clear HB_w15 HP_w15 HS_w15 HSb_w15 HG_w15 HGb_w15
 have HH_w16:=ya2 hh
 clear hh ht
 have hmn:¬(yn4 R<0):=by have:=yrv R;omega
 obtain⟨g0,g1,g2,g3⟩:=c4_4 HGb_w16.out
 go_wp2_with fail
 clear g0 g1 g2 g3
 refine(yg6 HE.out HH_w16.out).mono ?_
 rintro r w17 ⟨rfl,hb⟩
 have z_w17:w16.heap.size≤w17.heap.size:=hb.size
 have HB_w17:=trh HB_w16 hb
 have HP_w17:=ya2 (HP_w16.out.below hb)
 have HS_w17:=ya2 (HS_w16.out.below hb)
 have HSb_w17:=ya2 (HSb_w16.out.below hb)
 have HGb_w17:=ya2 (HGb_w16.out.below hb)
 have HH_w17:=ya2 (HH_w16.out.below hb)
 clear HB_w16 HP_w16 HS_w16 HSb_w16 HGb_w16 HH_w16
 clear hb
 obtain⟨p0,p1,p2,p3,p4,p5,p6,p7⟩:=c8_8 HP_w17.out
 go_wp2_with fail
 clear p0 p1 p2 p3 p4 p5 p6 p7
 refine(yfc _ v _ HSM.out (HX.out.under HB_w17.out)).mono ?_
 rintro r w18 ⟨yb,rfl,hb,hr⟩
 have z_w18:w17.heap.size≤w18.heap.size:=hb.size
 have HB_w18:=trh HB_w17 hb
 have HP_w18:=ya2 (HP_w17.out.below hb)
 have HS_w18:=ya2 (HS_w17.out.below hb)
 have HSb_w18:=ya2 (HSb_w17.out.below hb)
 have HGb_w18:=ya2 (HGb_w17.out.below hb)
 have HH_w18:=ya2 (HH_w17.out.below hb)
 clear HB_w17 HP_w17 HS_w17 HSb_w17 HGb_w17 HH_w17
 have HA_w18:=ya2 hr
 clear hb hr
 go_wp2_with fail
 refine(ygy _ d _ HDL.out ((HZ.out.below HB_w18.out).isD)).mono ?_
 rintro r w19 ⟨zm,rfl,hb,hr⟩
 have z_w19:w18.heap.size≤w19.heap.size:=hb.size
 have HB_w19:=trh HB_w18 hb
 have HP_w19:=ya2 (HP_w18.out.below hb)
 have HS_w19:=ya2 (HS_w18.out.below hb)
 have HSb_w19:=ya2 (HSb_w18.out.below hb)
 have HGb_w19:=ya2 (HGb_w18.out.below hb)
 have HH_w19:=ya2 (HH_w18.out.below hb)
 have HA_w19:=ya2 (HA_w18.out.below hb)
 clear HB_w18 HP_w18 HS_w18 HSb_w18 HGb_w18 HH_w18 HA_w18
 have HI_w19:=ya2 hr
 clear hb hr
 go_wp2_with fail
 refine(HIM.out _ _ _ HA_w19.out.is HI_w19.out.isD.isI).mono ?_
 rintro r w20 ⟨uk,rfl,hr,hb⟩
 obtain⟨gak,gck,hak,hck,rfl⟩:=HiF.form hr
 have z_w20:w19.heap.size≤w20.heap.size:=hb.size
 have HB_w20:=trh HB_w19 hb
 have HP_w20:=ya2 (HP_w19.out.below hb)
 have HS_w20:=ya2 (HS_w19.out.below hb)
 have HSb_w20:=ya2 (HSb_w19.out.below hb)
 have HGb_w20:=ya2 (HGb_w19.out.below hb)
 have HH_w20:=ya2 (HH_w19.out.below hb)
 have HA_w20:=ya2 (HA_w19.out.below hb)
 have HI_w20:=ya2 (HI_w19.out.under hb)
 clear HB_w19 HP_w19 HS_w19 HSb_w19 HGb_w19 HH_w19 HA_w19 HI_w19
 have HK_w20:=ya2 hr
 clear hb hr
 obtain⟨Vw20,hVw20⟩:∃V,w20.alloc (.cells #[.slice gak R.ev.length gck,.slice hak R.em.length hck,.int .i64 R.k,.bool R.f] 62)=V:=⟨_,rfl⟩
 have BHKb:=bkA hVw20
 have hb:=beA hVw20
 have y_Vw20:w20.heap.size<Vw20.heap.size:=BHKb.lt
 have z_Vw20:w20.heap.size≤Vw20.heap.size:=hb.size
 have HB_Vw20:=trh HB_w20 hb
 have HP_Vw20:=ya2 (HP_w20.out.below hb)
 have HS_Vw20:=ya2 (HS_w20.out.below hb)
 have HSb_Vw20:=ya2 (HSb_w20.out.below hb)
 have HGb_Vw20:=ya2 (HGb_w20.out.below hb)
 have HH_Vw20:=ya2 (HH_w20.out.below hb)
 have HA_Vw20:=ya2 (HA_w20.out.below hb)
 have HI_Vw20:=ya2 (HI_w20.out.under hb)
 have HK_Vw20:=ya2 (HK_w20.out.below hb)
 clear HB_w20 HP_w20 HS_w20 HSb_w20 HGb_w20 HH_w20 HA_w20 HI_w20 HK_w20
 clear hb
 have HKb_Vw20:=ya2 BHKb
 clear BHKb
 clear HA_Vw20 HI_Vw20
 obtain⟨g0,g1,g2,g3⟩:=c4_4 HKb_Vw20.out
 obtain⟨t0,t1,t2,t3⟩:=c4_4 HSb_Vw20.out
 go_wp2_with fail
 clear hVw20
 clear g0 g1 g2 g3
 clear t0 t1 t2 t3
 refine(yew _ _ R _ HE.out HK_Vw20.out HS_Vw20.out).mono ?_
 rintro r w21 ⟨rfl,hb⟩
 have z_w21:Vw20.heap.size≤w21.heap.size:=hb.size
 have HB_w21:=trh HB_Vw20 hb
 have HP_w21:=ya2 (HP_Vw20.out.below hb)
 have HS_w21:=ya2 (HS_Vw20.out.below hb)
 have HSb_w21:=ya2 (HSb_Vw20.out.below hb)
 have HGb_w21:=ya2 (HGb_Vw20.out.below hb)
 have HH_w21:=ya2 (HH_Vw20.out.below hb)
 have HK_w21:=ya2 (HK_Vw20.out.below hb)
 have HKb_w21:=ya2 (HKb_Vw20.out.below hb)
 clear HB_Vw20 HP_Vw20 HS_Vw20 HSb_Vw20 HGb_Vw20 HH_Vw20 HK_Vw20 HKb_Vw20
 clear hb
 obtain⟨g0,g1,g2,g3⟩:=c4_4 HGb_w21.out
 go_wp2_with fail
 clear g0 g1 g2 g3
 refine(yg6 HE.out HH_w21.out).mono ?_
 rintro r w22 ⟨rfl,hb⟩
 have z_w22:w21.heap.size≤w22.heap.size:=hb.size
 have HB_w22:=trh HB_w21 hb
 have HP_w22:=ya2 (HP_w21.out.below hb)
 have HS_w22:=ya2 (HS_w21.out.below hb)
 have HSb_w22:=ya2 (HSb_w21.out.below hb)
 have HGb_w22:=ya2 (HGb_w21.out.below hb)
 have HH_w22:=ya2 (HH_w21.out.below hb)
 have HK_w22:=ya2 (HK_w21.out.below hb)
 have HKb_w22:=ya2 (HKb_w21.out.below hb)
 clear HB_w21 HP_w21 HS_w21 HSb_w21 HGb_w21 HH_w21 HK_w21 HKb_w21
 clear hb
 go_wp2
 go_ret
 exact⟨rfl,HB_w22.out⟩
end Go.Proofs.YtmobiieoecjmdaaGreat.LawExactAnswers
