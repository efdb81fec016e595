/- At every kernel the program's Collect answers as the specification's, its answer owns its memory, and it writes into nothing that it is given; no condition. -/
import Derived.Test.YtghndljgadpijaaGreatExactCollectG01
import Derived.Test.YtghndljgadpijaaGreatExactCollectLColS
import Derived.Test.YtghndljgadpijaaGreatExactCollectLColI
import Derived.Test.YtghndljgadpijaaGreatExactCollectG44
import Derived.Test.YtghndljgadpijaaGreatExactCollectG45
import Derived.Test.YtghndljgadpijaaGreatExactCollectG36
import Derived.Test.YtghndljgadpijaaGreatExactCollectG21
import Derived.Deep.RegionHeld3
import Derived.Deep.Cut
namespace Go.Proofs.YtghndljgadpijaaGreat.LawExactCollect
open Go.ChangeShapes Go.WideShapes Go.ChangeAt Go.RowKit Go.Proofs.YtghndljgadpijaaGreat
theorem ydp {p:Prop} (h:p):Hid p:=h
theorem zl4:ywy zik:=⟨⟨Nat.zero_le _,Nat.zero_le _,fun i=>by simp [zik,hAt],by simp [zik,sumL],Nat.zero_le _⟩,by simp [zik,Kn.wt,ywf,yyb,yy9,yx0,yy3,sumL]⟩
theorem col_sm {k:Kn} (hs:ywy k):ywy (colA k):=by
  cases hk:k.ok
  case false=>rw [(zpe hk).1];exact zl4
  case true=>
    cases hc:(colK k).ok
    case false=>rw [(zgt hk hc).1];exact hs
    case true=>rw [(zjo hk hc).1];exact zf1 hs hk
set_option maxRecDepth 100000 in
set_option maxHeartbeats 64000000 in
theorem walk (x:Value) (k:Kn) (w:World) (hx:IsKern w x k):
    Calls Tryz.prog 3 #[x] w fun e w'=>e= .returned (.bool true)∧Below w.heap.size w w':=by
  haveI:Inhabited PsF:=Classical.inhabited_of_nonempty psF_some
  have HX:Hid (IsKern w x k):=hx
  obtain⟨vi,vh,vs,u6,u7,u8,u12,u13,rfl,_⟩:=hx
  obtain⟨W0,hW0⟩:∃W0,w.alloc (.cells #[.int .i64 k.m.n,.int .i64 k.m.s,vi,vh,vs,.int .i64 k.m.z,u6,u7,u8,.int .i64 k.t,.int .i64 k.q,.bool k.f,u12,u13] 31)=W0:=⟨_,rfl⟩
  have HB_W0:=hdq (beA hW0)
  have HP_W0:=hdq (bkA hW0)
  have hV0:w.heap.size<W0.heap.size:=HP_W0.out.lt
  obtain⟨p0,p1,p2,p3,p4,p5,p6,p7,p8,p9,p10,p11,p12,p13⟩:=ywd HP_W0.out
  go_enter Tryz.func3,Tryz.ntmps3
  go_wp2_with fail
  clear hW0
  clear p0 p1 p2 p3 p4 p5 p6 p7 p8 p9 p10 p11 p12 p13
  refine(zha _ k _ (HX.out.under HB_W0.out)).mono ?_
  rintro r w1 ⟨⟨r1,rfl,hr⟩,hb⟩
  have z_w1:W0.heap.size≤w1.heap.size:=hb.size
  have HB_w1:=trh HB_W0 hb
  have HP_w1:=ydp (HP_W0.out.below hb)
  clear HB_W0 HP_W0
  clear hb
  rcases hr with rfl|⟨hr0,hr9⟩
  case inl=>
    go_wp2
    go_ret
    exact⟨rfl,HB_w1.out⟩
  have hr1:¬(r1<0):=by omega
  have HSM:Hid (ywy k):=hr9
  have HMK:Hid (1≤zak k):=(by have:=zaa hr9;omega:1≤zak k)
  clear hr9
  have HC:Hid (∃R b,ywy R∧(∀(v0:Value) (W:World),IsKern W v0 k→Calls Tryz.prog 10 #[v0] W fun r w'=>∃u,r= .returned (.tuple #[u,.int .i64 b])∧KernF (fun q=>W.heap.size≤q∧q<w'.heap.size) w' u R∧Below W.heap.size W w')∧(∀(v0:Value) (W:World),IsKern W v0 k→Calls Tryz.prog 12 #[v0] W fun r w'=>∃u,r= .returned (.tuple #[u,.int .i64 b])∧KernF (fun q=>W.heap.size≤q∧q<w'.heap.size) w' u R∧Below W.heap.size W w')):=⟨colA k,colN k,col_sm HSM.out,fun v0 W h0=>sCollect v0 k W HSM.out h0,fun v0 W h0=>iCollect v0 k W HSM.out h0⟩
  obtain⟨R,b,hq,hsp,him⟩:=HC.out
  have HSP:=ydp hsp
  have HIM:=ydp him
  have HE:Hid (ywy R):=hq
  clear HC hsp him hq
  obtain⟨p0,p1,p2,p3,p4,p5,p6,p7,p8,p9,p10,p11,p12,p13⟩:=ywd HP_w1.out
  go_wp2_with fail
  clear p0 p1 p2 p3 p4 p5 p6 p7 p8 p9 p10 p11 p12 p13
  refine(zah _ k _ HSM.out (HX.out.under HB_w1.out)).mono ?_
  rintro r w2 ⟨ya,rfl,hb,hr⟩
  have z_w2:w1.heap.size≤w2.heap.size:=hb.size
  have HB_w2:=trh HB_w1 hb
  have HP_w2:=ydp (HP_w1.out.below hb)
  clear HB_w1 HP_w1
  have HA_w2:=ydp hr
  clear hb hr
  go_wp2_with fail
  refine(HSP.out _ _ HA_w2.out.is).mono ?_
  rintro r w3 ⟨uo,rfl,hr,hb⟩
  obtain⟨foa,fob,foc,fod,foe,fof,fog,foh,foi,foj,fok,fol,fom,fon,foo,fop,rfl⟩:=KernF.form hr
  have z_w3:w2.heap.size≤w3.heap.size:=hb.size
  have HB_w3:=trh HB_w2 hb
  have HP_w3:=ydp (HP_w2.out.below hb)
  have HA_w3:=ydp (HA_w2.out.below hb)
  clear HB_w2 HP_w2 HA_w2
  have HS_w3:=ydp hr
  clear hb hr
  obtain⟨Vw3,hVw3⟩:∃V,w3.alloc (.cells #[.int .i64 R.m.n,.int .i64 R.m.s,.slice foa R.m.i.length fob,.slice foc R.m.h.length fod,.slice foe R.m.e.length fof,.int .i64 R.m.z,.slice fog R.d.length foh,.slice foi R.p.length foj,.slice fok R.b.length fol,.int .i64 R.t,.int .i64 R.q,.bool R.f,.slice fom R.s.length fon,.slice foo R.x.length fop] 41)=V:=⟨_,rfl⟩
  have BHSb:=bkA hVw3
  have hb:=beA hVw3
  have y_Vw3:w3.heap.size<Vw3.heap.size:=BHSb.lt
  have z_Vw3:w3.heap.size≤Vw3.heap.size:=hb.size
  have HB_Vw3:=trh HB_w3 hb
  have HP_Vw3:=ydp (HP_w3.out.below hb)
  have HA_Vw3:=ydp (HA_w3.out.below hb)
  have HS_Vw3:=ydp (HS_w3.out.below hb)
  clear HB_w3 HP_w3 HA_w3 HS_w3
  clear hb
  have HSb_Vw3:=ydp BHSb
  clear BHSb
  clear HA_Vw3
  clear HSP
  as_aux_lemma=>
    obtain⟨p0,p1,p2,p3,p4,p5,p6,p7,p8,p9,p10,p11,p12,p13⟩:=ywd HP_Vw3.out
    go_wp2_with fail
    clear hVw3
    clear p0 p1 p2 p3 p4 p5 p6 p7 p8 p9 p10 p11 p12 p13
    refine(zah _ k _ HSM.out (HX.out.under HB_Vw3.out)).mono ?_
    rintro r w4 ⟨y1,rfl,hb,hr⟩
    have z_w4:Vw3.heap.size≤w4.heap.size:=hb.size
    have HB_w4:=trh HB_Vw3 hb
    have HP_w4:=ydp (HP_Vw3.out.below hb)
    have HS_w4:=ydp (HS_Vw3.out.below hb)
    have HSb_w4:=ydp (HSb_Vw3.out.below hb)
    clear HB_Vw3 HP_Vw3 HS_Vw3 HSb_Vw3
    have HR_w4:=ydp hr
    clear hb hr
    obtain⟨ai,ci,ah,ch,ae,ce,ad,cd,ap,cp,ab,cb,au,cu,ax,cx,rfl,_⟩:=HR_w4.out.is.form
    obtain⟨Vw4,hVw4⟩:∃V,w4.alloc (.cells #[.int .i64 k.m.n,.int .i64 k.m.s,.slice ai k.m.i.length ci,.slice ah k.m.h.length ch,.slice ae k.m.e.length ce,.int .i64 k.m.z,.slice ad k.d.length cd,.slice ap k.p.length cp,.slice ab k.b.length cb,.int .i64 k.t,.int .i64 k.q,.bool k.f,.slice au k.s.length cu,.slice ax k.x.length cx] 41)=V:=⟨_,rfl⟩
    have BHX0:=bkA hVw4
    have hb:=beA hVw4
    have y_Vw4:w4.heap.size<Vw4.heap.size:=BHX0.lt
    have z_Vw4:w4.heap.size≤Vw4.heap.size:=hb.size
    have HB_Vw4:=trh HB_w4 hb
    have HP_Vw4:=ydp (HP_w4.out.below hb)
    have HS_Vw4:=ydp (HS_w4.out.below hb)
    have HSb_Vw4:=ydp (HSb_w4.out.below hb)
    have HR_Vw4:=ydp (HR_w4.out.below hb)
    clear HB_w4 HP_w4 HS_w4 HSb_w4 HR_w4
    clear hb
    have HX0_Vw4:=ydp BHX0
    clear BHX0
    obtain⟨r0,r1,r2,r3,r4,r5,r6,r7,r8,r9,r10,r11,r12,r13⟩:=ywd HX0_Vw4.out
    go_wp2_with fail
    clear hVw4
    refine(HIM.out _ _ HR_Vw4.out.is).mono ?_
    rintro r w5 ⟨ug,rfl,hr,hb⟩
    obtain⟨fga,fgb,fgc,fgd,fge,fgf,fgg,fgh,fgi,fgj,fgk,fgl,fgm,fgn,fgo,fgp,rfl⟩:=KernF.form hr
    have z_w5:Vw4.heap.size≤w5.heap.size:=hb.size
    have HB_w5:=trh HB_Vw4 hb
    have HP_w5:=ydp (HP_Vw4.out.below hb)
    have HS_w5:=ydp (HS_Vw4.out.below hb)
    have HSb_w5:=ydp (HSb_Vw4.out.below hb)
    have HR_w5:=ydp (HR_Vw4.out.below hb)
    have HX0_w5:=ydp (HX0_Vw4.out.below hb)
    clear HB_Vw4 HP_Vw4 HS_Vw4 HSb_Vw4 HR_Vw4 HX0_Vw4
    have HG_w5:=ydp hr
    clear hb hr
    obtain⟨Vw5,hVw5⟩:∃V,w5.alloc (.cells #[.int .i64 R.m.n,.int .i64 R.m.s,.slice fga R.m.i.length fgb,.slice fgc R.m.h.length fgd,.slice fge R.m.e.length fgf,.int .i64 R.m.z,.slice fgg R.d.length fgh,.slice fgi R.p.length fgj,.slice fgk R.b.length fgl,.int .i64 R.t,.int .i64 R.q,.bool R.f,.slice fgm R.s.length fgn,.slice fgo R.x.length fgp] 41)=V:=⟨_,rfl⟩
    have BHGb:=bkA hVw5
    have hb:=beA hVw5
    have y_Vw5:w5.heap.size<Vw5.heap.size:=BHGb.lt
    have z_Vw5:w5.heap.size≤Vw5.heap.size:=hb.size
    have HB_Vw5:=trh HB_w5 hb
    have HP_Vw5:=ydp (HP_w5.out.below hb)
    have HS_Vw5:=ydp (HS_w5.out.below hb)
    have HSb_Vw5:=ydp (HSb_w5.out.below hb)
    have HR_Vw5:=ydp (HR_w5.out.below hb)
    have HX0_Vw5:=ydp (HX0_w5.out.below hb)
    have HG_Vw5:=ydp (HG_w5.out.below hb)
    clear HB_w5 HP_w5 HS_w5 HSb_w5 HR_w5 HX0_w5 HG_w5
    clear hb
    have HGb_Vw5:=ydp BHGb
    clear BHGb
    clear r0 r1 r2 r3 r4 r5 r6 r7 r8 r9 r10 r11 r12 r13
    as_aux_lemma=>
      obtain⟨g0,g1,g2,g3,g4,g5,g6,g7,g8,g9,g10,g11,g12,g13⟩:=ywd HGb_Vw5.out
      obtain⟨t0,t1,t2,t3,t4,t5,t6,t7,t8,t9,t10,t11,t12,t13⟩:=ywd HSb_Vw5.out
      go_wp2_with fail
      clear hVw5
      clear g0 g1 g2 g3 g4 g5 g6 g7 g8 g9 g10 g11 g12 g13
      clear t0 t1 t2 t3 t4 t5 t6 t7 t8 t9 t10 t11 t12 t13
      refine(za2 _ _ R _ HE.out HG_Vw5.out.is HS_Vw5.out.is).mono ?_
      rintro r w6 ⟨rfl,hb⟩
      have z_w6:Vw5.heap.size≤w6.heap.size:=hb.size
      have HB_w6:=trh HB_Vw5 hb
      have HP_w6:=ydp (HP_Vw5.out.below hb)
      have HS_w6:=ydp (HS_Vw5.out.below hb)
      have HSb_w6:=ydp (HSb_Vw5.out.below hb)
      have HR_w6:=ydp (HR_Vw5.out.below hb)
      have HX0_w6:=ydp (HX0_Vw5.out.below hb)
      have HG_w6:=ydp (HG_Vw5.out.below hb)
      have HGb_w6:=ydp (HGb_Vw5.out.below hb)
      clear HB_Vw5 HP_Vw5 HS_Vw5 HSb_Vw5 HR_Vw5 HX0_Vw5 HG_Vw5 HGb_Vw5
      clear hb
      obtain⟨r0,r1,r2,r3,r4,r5,r6,r7,r8,r9,r10,r11,r12,r13⟩:=ywd HX0_w6.out
      obtain⟨p0,p1,p2,p3,p4,p5,p6,p7,p8,p9,p10,p11,p12,p13⟩:=ywd HP_w6.out
      go_wp2_with fail
      go_region_held3 (fun W=>W.cell? ⟨w4.heap.size,0,none⟩=some (.int .i64 k.m.n)∧W.cell? ⟨w4.heap.size,1,none⟩=some (.int .i64 k.m.s)∧W.cell? ⟨w4.heap.size,2,none⟩=some (.slice ai k.m.i.length ci)∧W.cell? ⟨w4.heap.size,3,none⟩=some (.slice ah k.m.h.length ch)∧W.cell? ⟨w4.heap.size,4,none⟩=some (.slice ae k.m.e.length ce)∧W.cell? ⟨w4.heap.size,5,none⟩=some (.int .i64 k.m.z)∧W.cell? ⟨w4.heap.size,6,none⟩=some (.slice ad k.d.length cd)∧W.cell? ⟨w4.heap.size,7,none⟩=some (.slice ap k.p.length cp)∧W.cell? ⟨w4.heap.size,8,none⟩=some (.slice ab k.b.length cb)∧W.cell? ⟨w4.heap.size,9,none⟩=some (.int .i64 k.t)∧W.cell? ⟨w4.heap.size,10,none⟩=some (.int .i64 k.q)∧W.cell? ⟨w4.heap.size,11,none⟩=some (.bool k.f)∧W.cell? ⟨w4.heap.size,12,none⟩=some (.slice au k.s.length cu)∧W.cell? ⟨w4.heap.size,13,none⟩=some (.slice ax k.x.length cx)∧W.cell? ⟨w.heap.size,0,none⟩=some (.int .i64 k.m.n)∧W.cell? ⟨w.heap.size,1,none⟩=some (.int .i64 k.m.s)∧W.cell? ⟨w.heap.size,2,none⟩=some vi∧W.cell? ⟨w.heap.size,3,none⟩=some vh∧W.cell? ⟨w.heap.size,4,none⟩=some vs∧W.cell? ⟨w.heap.size,5,none⟩=some (.int .i64 k.m.z)∧W.cell? ⟨w.heap.size,6,none⟩=some u6∧W.cell? ⟨w.heap.size,7,none⟩=some u7∧W.cell? ⟨w.heap.size,8,none⟩=some u8∧W.cell? ⟨w.heap.size,9,none⟩=some (.int .i64 k.t)∧W.cell? ⟨w.heap.size,10,none⟩=some (.int .i64 k.q)∧W.cell? ⟨w.heap.size,11,none⟩=some (.bool k.f)∧W.cell? ⟨w.heap.size,12,none⟩=some u12∧W.cell? ⟨w.heap.size,13,none⟩=some u13) ((repeat' apply And.intro)<;>first|(go_keep;done)|(rw [hcA _ _ (by first|omega|(simp;omega))];simp [*];done))
        (first|(go_at_call 11;refine(zah _ k _ HSM.out (HX.out.under HB_w6.out.drew)).mono ?_;rintro r w7 ⟨yx,rfl,hbw7,hr2⟩;obtain⟨hcA,hfA⟩:=zdb hbw7;have hzw7:w6.heap.size≤w7.heap.size:=hbw7.size)|(go_at_call 13;refine(za2 _ _ k _ HSM.out (HR_w6.out.below ((Below.refl _ w6).drew.trans hbw7)).is hr2.is).mono ?_;rintro r w8 ⟨rfl,hbw8⟩;obtain⟨hcA,hfA⟩:=zdb hbw8;have hzw8:w7.heap.size≤w8.heap.size:=hbw8.size))
      clear hcA hfA
      have hbc:Below w6.heap.size w6 w8:=((Below.refl w6.heap.size w6).drew.trans (hbw7.mono (Nat.le_refl _))).trans (hbw8.mono (by omega))
      clear r0 r1 r2 r3 r4 r5 r6 r7 r8 r9 r10 r11 r12 r13
      clear p0 p1 p2 p3 p4 p5 p6 p7 p8 p9 p10 p11 p12 p13
      have z_w8:w6.heap.size≤w8.heap.size:=hbc.size
      have HB_w8:=trh HB_w6 hbc
      have HP_w8:=ydp (HP_w6.out.below hbc)
      have HS_w8:=ydp (HS_w6.out.below hbc)
      have HSb_w8:=ydp (HSb_w6.out.below hbc)
      have HR_w8:=ydp (HR_w6.out.below hbc)
      have HX0_w8:=ydp (HX0_w6.out.below hbc)
      have HG_w8:=ydp (HG_w6.out.below hbc)
      have HGb_w8:=ydp (HGb_w6.out.below hbc)
      clear HB_w6 HP_w6 HS_w6 HSb_w6 HR_w6 HX0_w6 HG_w6 HGb_w6
      clear hbc hr2 hbw7 hzw7 hbw8 hzw8
      as_aux_lemma=>
        obtain⟨r0,r1,r2,r3,r4,r5,r6,r7,r8,r9,r10,r11,r12,r13⟩:=ywd HX0_w8.out
        go_wp2_with fail
        clear r0 r1 r2 r3 r4 r5 r6 r7 r8 r9 r10 r11 r12 r13
        refine(zhr HSM.out HR_w8.out (fun k e=>by omega)).mono ?_
        rintro r w9 ⟨rfl,ht⟩
        have z_w9:w8.heap.size≤w9.heap.size:=ht.size
        have HB_w9:=ydp (HB_w8.out.trans (ht.to_below (fun k e=>by omega) (by omega)))
        have HP_w9:=ydp (HP_w8.out.turns ht (fun e=>by omega))
        have HS_w9:=ydp (HS_w8.out.turns ht (fun k e=>by omega))
        have HSb_w9:=ydp (HSb_w8.out.turns ht (fun e=>by omega))
        have HG_w9:=ydp (HG_w8.out.turns ht (fun k e=>by omega))
        have HGb_w9:=ydp (HGb_w8.out.turns ht (fun e=>by omega))
        clear HB_w8 HP_w8 HS_w8 HSb_w8 HR_w8 HX0_w8 HG_w8 HGb_w8
        clear ht
        obtain⟨mk,hmk⟩:∃mk,zak k=mk:=⟨_,rfl⟩
        have hmk0:1≤mk:=hmk▸HMK.out
        rw [hmk]
        clear hmk
        have hkn:¬(mk<0):=by omega
        obtain⟨g0,g1,g2,g3,g4,g5,g6,g7,g8,g9,g10,g11,g12,g13⟩:=ywd HGb_w9.out
        obtain⟨t0,t1,t2,t3,t4,t5,t6,t7,t8,t9,t10,t11,t12,t13⟩:=ywd HSb_w9.out
        go_wp2_with fail
        clear g0 g1 g2 g3 g4 g5 g6 g7 g8 g9 g10 g11 g12 g13
        clear t0 t1 t2 t3 t4 t5 t6 t7 t8 t9 t10 t11 t12 t13
        refine(za2 _ _ R _ HE.out HG_w9.out.is HS_w9.out.is).mono ?_
        rintro r w10 ⟨rfl,hb⟩
        have z_w10:w9.heap.size≤w10.heap.size:=hb.size
        have HB_w10:=trh HB_w9 hb
        have HP_w10:=ydp (HP_w9.out.below hb)
        have HS_w10:=ydp (HS_w9.out.below hb)
        have HSb_w10:=ydp (HSb_w9.out.below hb)
        have HG_w10:=ydp (HG_w9.out.below hb)
        have HGb_w10:=ydp (HGb_w9.out.below hb)
        clear HB_w9 HP_w9 HS_w9 HSb_w9 HG_w9 HGb_w9
        clear hb
        obtain⟨g0,g1,g2,g3,g4,g5,g6,g7,g8,g9,g10,g11,g12,g13⟩:=ywd HGb_w10.out
        go_wp2_with fail
        clear g0 g1 g2 g3 g4 g5 g6 g7 g8 g9 g10 g11 g12 g13
        refine(zm9 HE.out HG_w10.out (fun k e=>by omega)).mono ?_
        rintro r w11 ⟨rfl,hh,ht⟩
        have z_w11:w10.heap.size≤w11.heap.size:=ht.size
        have HB_w11:=ydp (HB_w10.out.trans (ht.to_below (fun k e=>by omega) (by omega)))
        have HP_w11:=ydp (HP_w10.out.turns ht (fun e=>by omega))
        have HS_w11:=ydp (HS_w10.out.turns ht (fun k e=>by omega))
        have HSb_w11:=ydp (HSb_w10.out.turns ht (fun e=>by omega))
        have HGb_w11:=ydp (HGb_w10.out.turns ht (fun e=>by omega))
        clear HB_w10 HP_w10 HS_w10 HSb_w10 HG_w10 HGb_w10
        have HH_w11:=ydp hh
        clear hh ht
        have hmn:¬(zak R<0):=by have:=zaa HE.out;omega
        obtain⟨g0,g1,g2,g3,g4,g5,g6,g7,g8,g9,g10,g11,g12,g13⟩:=ywd HGb_w11.out
        go_wp2_with fail
        clear g0 g1 g2 g3 g4 g5 g6 g7 g8 g9 g10 g11 g12 g13
        refine(zfs HE.out HH_w11.out).mono ?_
        rintro r w12 ⟨rfl,hb⟩
        have z_w12:w11.heap.size≤w12.heap.size:=hb.size
        have HB_w12:=trh HB_w11 hb
        have HP_w12:=ydp (HP_w11.out.below hb)
        have HS_w12:=ydp (HS_w11.out.below hb)
        have HSb_w12:=ydp (HSb_w11.out.below hb)
        have HGb_w12:=ydp (HGb_w11.out.below hb)
        have HH_w12:=ydp (HH_w11.out.below hb)
        clear HB_w11 HP_w11 HS_w11 HSb_w11 HGb_w11 HH_w11
        clear hb
        as_aux_lemma=>
          obtain⟨p0,p1,p2,p3,p4,p5,p6,p7,p8,p9,p10,p11,p12,p13⟩:=ywd HP_w12.out
          go_wp2_with fail
          clear p0 p1 p2 p3 p4 p5 p6 p7 p8 p9 p10 p11 p12 p13
          refine(zah _ k _ HSM.out (HX.out.under HB_w12.out)).mono ?_
          rintro r w13 ⟨yb,rfl,hb,hr⟩
          have z_w13:w12.heap.size≤w13.heap.size:=hb.size
          have HB_w13:=trh HB_w12 hb
          have HP_w13:=ydp (HP_w12.out.below hb)
          have HS_w13:=ydp (HS_w12.out.below hb)
          have HSb_w13:=ydp (HSb_w12.out.below hb)
          have HGb_w13:=ydp (HGb_w12.out.below hb)
          have HH_w13:=ydp (HH_w12.out.below hb)
          clear HB_w12 HP_w12 HS_w12 HSb_w12 HGb_w12 HH_w12
          have HA_w13:=ydp hr
          clear hb hr
          go_wp2_with fail
          refine(HIM.out _ _ HA_w13.out.is).mono ?_
          rintro r w14 ⟨uk,rfl,hr,hb⟩
          obtain⟨fka,fkb,fkc,fkd,fke,fkf,fkg,fkh,fki,fkj,fkk,fkl,fkm,fkn,fko,fkp,rfl⟩:=KernF.form hr
          have z_w14:w13.heap.size≤w14.heap.size:=hb.size
          have HB_w14:=trh HB_w13 hb
          have HP_w14:=ydp (HP_w13.out.below hb)
          have HS_w14:=ydp (HS_w13.out.below hb)
          have HSb_w14:=ydp (HSb_w13.out.below hb)
          have HGb_w14:=ydp (HGb_w13.out.below hb)
          have HH_w14:=ydp (HH_w13.out.below hb)
          have HA_w14:=ydp (HA_w13.out.below hb)
          clear HB_w13 HP_w13 HS_w13 HSb_w13 HGb_w13 HH_w13 HA_w13
          have HK_w14:=ydp hr
          clear hb hr
          obtain⟨Vw14,hVw14⟩:∃V,w14.alloc (.cells #[.int .i64 R.m.n,.int .i64 R.m.s,.slice fka R.m.i.length fkb,.slice fkc R.m.h.length fkd,.slice fke R.m.e.length fkf,.int .i64 R.m.z,.slice fkg R.d.length fkh,.slice fki R.p.length fkj,.slice fkk R.b.length fkl,.int .i64 R.t,.int .i64 R.q,.bool R.f,.slice fkm R.s.length fkn,.slice fko R.x.length fkp] 41)=V:=⟨_,rfl⟩
          have BHKb:=bkA hVw14
          have hb:=beA hVw14
          have y_Vw14:w14.heap.size<Vw14.heap.size:=BHKb.lt
          have z_Vw14:w14.heap.size≤Vw14.heap.size:=hb.size
          have HB_Vw14:=trh HB_w14 hb
          have HP_Vw14:=ydp (HP_w14.out.below hb)
          have HS_Vw14:=ydp (HS_w14.out.below hb)
          have HSb_Vw14:=ydp (HSb_w14.out.below hb)
          have HGb_Vw14:=ydp (HGb_w14.out.below hb)
          have HH_Vw14:=ydp (HH_w14.out.below hb)
          have HA_Vw14:=ydp (HA_w14.out.below hb)
          have HK_Vw14:=ydp (HK_w14.out.below hb)
          clear HB_w14 HP_w14 HS_w14 HSb_w14 HGb_w14 HH_w14 HA_w14 HK_w14
          clear hb
          have HKb_Vw14:=ydp BHKb
          clear BHKb
          clear HA_Vw14
          obtain⟨g0,g1,g2,g3,g4,g5,g6,g7,g8,g9,g10,g11,g12,g13⟩:=ywd HKb_Vw14.out
          obtain⟨t0,t1,t2,t3,t4,t5,t6,t7,t8,t9,t10,t11,t12,t13⟩:=ywd HSb_Vw14.out
          go_wp2_with fail
          clear hVw14
          clear g0 g1 g2 g3 g4 g5 g6 g7 g8 g9 g10 g11 g12 g13
          clear t0 t1 t2 t3 t4 t5 t6 t7 t8 t9 t10 t11 t12 t13
          refine(za2 _ _ R _ HE.out HK_Vw14.out.is HS_Vw14.out.is).mono ?_
          rintro r w15 ⟨rfl,hb⟩
          have z_w15:Vw14.heap.size≤w15.heap.size:=hb.size
          have HB_w15:=trh HB_Vw14 hb
          have HP_w15:=ydp (HP_Vw14.out.below hb)
          have HS_w15:=ydp (HS_Vw14.out.below hb)
          have HSb_w15:=ydp (HSb_Vw14.out.below hb)
          have HGb_w15:=ydp (HGb_Vw14.out.below hb)
          have HH_w15:=ydp (HH_Vw14.out.below hb)
          have HK_w15:=ydp (HK_Vw14.out.below hb)
          have HKb_w15:=ydp (HKb_Vw14.out.below hb)
          clear HB_Vw14 HP_Vw14 HS_Vw14 HSb_Vw14 HGb_Vw14 HH_Vw14 HK_Vw14 HKb_Vw14
          clear hb
          obtain⟨g0,g1,g2,g3,g4,g5,g6,g7,g8,g9,g10,g11,g12,g13⟩:=ywd HGb_w15.out
          go_wp2_with fail
          clear g0 g1 g2 g3 g4 g5 g6 g7 g8 g9 g10 g11 g12 g13
          refine(zfs HE.out HH_w15.out).mono ?_
          rintro r w16 ⟨rfl,hb⟩
          have z_w16:w15.heap.size≤w16.heap.size:=hb.size
          have HB_w16:=trh HB_w15 hb
          have HP_w16:=ydp (HP_w15.out.below hb)
          have HS_w16:=ydp (HS_w15.out.below hb)
          have HSb_w16:=ydp (HSb_w15.out.below hb)
          have HGb_w16:=ydp (HGb_w15.out.below hb)
          have HH_w16:=ydp (HH_w15.out.below hb)
          have HK_w16:=ydp (HK_w15.out.below hb)
          have HKb_w16:=ydp (HKb_w15.out.below hb)
          clear HB_w15 HP_w15 HS_w15 HSb_w15 HGb_w15 HH_w15 HK_w15 HKb_w15
          clear hb
          go_wp2
          go_ret
          exact⟨rfl,HB_w16.out⟩
end Go.Proofs.YtghndljgadpijaaGreat.LawExactCollect
