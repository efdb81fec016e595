/- At every world the program's Vectors answers as the specification's, its answer owns its memory, and it writes into nothing that it is given; no condition. -/
import Derived.Test.YtmobiieoecjmdaaGreatExactVectorsG39
import Derived.Test.YtmobiieoecjmdaaGreatExactVectorsG48
import Derived.Test.YtmobiieoecjmdaaGreatExactVectorsG38
import Derived.Test.YtmobiieoecjmdaaGreatExactVectorsG49
import Derived.Deep.Cut
namespace Go.Proofs.YtmobiieoecjmdaaGreat.LawExactVectors
open Go.ChangeShapes Go.WideShapes Go.ChangeAt Go.RowKit Go.Proofs.YtmobiieoecjmdaaGreat
theorem vec_len {v:Wd}:vecA v=dsOf v.k∨vecA v= []:=by
 unfold vecA
 split
 ·exact .inl rfl
 ·exact .inr rfl
theorem vec_wt {v:Wd} (h:wdW v≤1048576):(yad (vecA v)).wt≤1048576:=by
 rcases vec_len (v:=v)with e|e
 ·rw [e,yc9,ylk]
  unfold wdW at h
  rw [ygf]at h
  have h1:sumL (fun i=>(ya9 (vAt (dsOf v.k) i)).wt) v.k.length≤sumL (fun i=>(knAt v.k i).wd) v.k.length:=yo1 (fun j hj=>by rw [ds_at v.k hj];unfold Kn.wd;omega)
  omega
 ·rw [e,yc9]
  exact Nat.zero_le _
theorem vec_cnt (L:List (List Int)) (h:(yad L).wt≤1048576):0≤((yad L).cnt:Int)∧1+((yad L).cnt:Int)≤1073741824:=by
 have h5:(yad L).cnt≤40*(yad L).wt:=Dat.cnt_le (yi9 L)
 omega
theorem ykl {F:Nat→Prop} {w:World} {y:Value} {L:List (List Int)} (h:OwnD w F y (yad L)):∃a c,y= .slice a L.length c:=by
 obtain⟨a,c,rfl,_⟩:=OwnD.parts (c:=1) (n:=L.length) h
 exact⟨a,c,rfl⟩
set_option maxRecDepth 100000 in
set_option maxHeartbeats 64000000 in
theorem walk (x:Value) (v:Wd) (w:World) (hx:IsW w x v):
  Calls Tryz.prog 3 #[x] w fun e w'=>e= .returned (.bool true)∧Below w.heap.size w w':=by
 have HX:Hid (IsW w x v):=hx
 obtain⟨vi,vh,vs,uk,uc,rfl,_⟩:=hx
 obtain⟨W0,hW0⟩:∃W0,w.alloc (.cells #[.int .i64 v.m.n,.int .i64 v.m.s,vi,vh,vs,.int .i64 v.m.z,uk,uc] 30)=W0:=⟨_,rfl⟩
 have HB_W0:Hid (Below w.heap.size w W0):=by rw [←hW0];exact(Below.refl _ w).alloc (Nat.le_refl _) _
 have HP_W0:Hid (Bk W0 w.heap.size 30 #[.int .i64 v.m.n,.int .i64 v.m.s,vi,vh,vs,.int .i64 v.m.z,uk,uc]):=by rw [←hW0];exact Bk.new w _ _
 have hV0:w.heap.size<W0.heap.size:=HP_W0.out.lt
 have p0:=HP_W0.out.cell (i:=0) rfl
 have p1:=HP_W0.out.cell (i:=1) rfl
 have p2:=HP_W0.out.cell (i:=2) rfl
 have p3:=HP_W0.out.cell (i:=3) rfl
 have p4:=HP_W0.out.cell (i:=4) rfl
 have p5:=HP_W0.out.cell (i:=5) rfl
 have p6:=HP_W0.out.cell (i:=6) rfl
 have p7:=HP_W0.out.cell (i:=7) rfl
 go_enter Tryz.func3,Tryz.ntmps3
 go_wp2_with fail
 clear hW0
 clear p0 p1 p2 p3 p4 p5 p6 p7
 refine(ynz _ v _ _ (by omega) (by omega) (HX.out.under HB_W0.out)).mono ?_
 rintro r w1 ⟨⟨r1,rfl,hr⟩,hb⟩
 have z_w1:W0.heap.size≤w1.heap.size:=hb.size
 have HB_w1:Hid (Below w.heap.size w w1):=HB_W0.out.trans (hb.mono HB_W0.out.size)
 have HP_w1:Hid (Bk w1 w.heap.size 30 #[.int .i64 v.m.n,.int .i64 v.m.s,vi,vh,vs,.int .i64 v.m.z,uk,uc]):=HP_W0.out.below hb
 clear HB_W0 HP_W0
 clear hb
 rcases hr with rfl|⟨hr0,hr9⟩
 case inl=>
  go_wp2
  go_ret
  exact⟨rfl,HB_w1.out⟩
 have hr1:¬(r1<0):=by omega
 have hwd:wdW v≤1048576:=by omega
 have HSM:Hid (ybq v):=(yhg hwd).1
 have HTY:Hid (TinyW v):=(yhg hwd).2
 have HVW:Hid ((yad (vecA v)).wt≤1048576):=vec_wt hwd
 have HMK:Hid (0≤yhv v):=(by have:=yg2 (yhg hwd).2;omega:0≤yhv v)
 clear hr9 hwd
 have HC:Hid (∃L,((yad L).wt≤1048576)∧(∀(v0:Value) (W:World),IsW W v0 v→Calls Tryz.prog 10 #[v0] W fun r w'=>∃u,r= .returned u∧OwnD w' (fun k=>W.heap.size≤k∧k<w'.heap.size) u (yad L)∧Below W.heap.size W w')∧(∀(v0:Value) (W:World),IsW W v0 v→Calls Tryz.prog 12 #[v0] W fun r w'=>∃u,r= .returned u∧OwnD w' (fun k=>W.heap.size≤k∧k<w'.heap.size) u (yad L)∧Below W.heap.size W w')):=⟨vecA v,HVW.out,fun v0 W h0=>sVectors v0 v W HSM.out h0,fun v0 W h0=>iVectors v0 v W HSM.out h0⟩
 obtain⟨L,hLw,hsp,him⟩:=HC.out
 have HSP:Hid (∀(v0:Value) (W:World),IsW W v0 v→Calls Tryz.prog 10 #[v0] W fun r w'=>∃u,r= .returned u∧OwnD w' (fun k=>W.heap.size≤k∧k<w'.heap.size) u (yad L)∧Below W.heap.size W w'):=hsp
 have HIM:Hid (∀(v0:Value) (W:World),IsW W v0 v→Calls Tryz.prog 12 #[v0] W fun r w'=>∃u,r= .returned u∧OwnD w' (fun k=>W.heap.size≤k∧k<w'.heap.size) u (yad L)∧Below W.heap.size W w'):=him
 have HLW:Hid ((yad L).wt≤1048576):=hLw
 have HLC:Hid (0≤((yad L).cnt:Int)∧1+((yad L).cnt:Int)≤1073741824):=vec_cnt L hLw
 clear HC hsp him hLw HVW
 have p0:=HP_w1.out.cell (i:=0) rfl
 have p1:=HP_w1.out.cell (i:=1) rfl
 have p2:=HP_w1.out.cell (i:=2) rfl
 have p3:=HP_w1.out.cell (i:=3) rfl
 have p4:=HP_w1.out.cell (i:=4) rfl
 have p5:=HP_w1.out.cell (i:=5) rfl
 have p6:=HP_w1.out.cell (i:=6) rfl
 have p7:=HP_w1.out.cell (i:=7) rfl
 go_wp2_with fail
 clear p0 p1 p2 p3 p4 p5 p6 p7
 refine(yd7 _ v _ HSM.out (HX.out.under HB_w1.out)).mono ?_
 rintro r w2 ⟨ya,rfl,hb,hr⟩
 have z_w2:w1.heap.size≤w2.heap.size:=hb.size
 have HB_w2:Hid (Below w.heap.size w w2):=HB_w1.out.trans (hb.mono HB_w1.out.size)
 have HP_w2:Hid (Bk w2 w.heap.size 30 #[.int .i64 v.m.n,.int .i64 v.m.s,vi,vh,vs,.int .i64 v.m.z,uk,uc]):=HP_w1.out.below hb
 clear HB_w1 HP_w1
 have HA_w2:Hid (WorF (fun k=>w1.heap.size≤k∧k<w2.heap.size) w2 ya v):=hr
 clear hb hr
 go_wp2_with fail
 refine(HSP.out _ _ HA_w2.out.is).mono ?_
 rintro r w3 ⟨uo,rfl,hr,hb⟩
 obtain⟨lao,lco,rfl⟩:=ykl hr
 have z_w3:w2.heap.size≤w3.heap.size:=hb.size
 have HB_w3:Hid (Below w.heap.size w w3):=HB_w2.out.trans (hb.mono HB_w2.out.size)
 have HP_w3:Hid (Bk w3 w.heap.size 30 #[.int .i64 v.m.n,.int .i64 v.m.s,vi,vh,vs,.int .i64 v.m.z,uk,uc]):=HP_w2.out.below hb
 have HA_w3:Hid (WorF (fun k=>w1.heap.size≤k∧k<w2.heap.size) w3 ya v):=HA_w2.out.below hb
 clear HB_w2 HP_w2 HA_w2
 have HS_w3:Hid (OwnD w3 (fun k=>w2.heap.size≤k∧k<w3.heap.size) (.slice lao L.length lco) (yad L)):=hr
 clear hb hr
 clear HA_w3
 clear HSP
 have p0:=HP_w3.out.cell (i:=0) rfl
 have p1:=HP_w3.out.cell (i:=1) rfl
 have p2:=HP_w3.out.cell (i:=2) rfl
 have p3:=HP_w3.out.cell (i:=3) rfl
 have p4:=HP_w3.out.cell (i:=4) rfl
 have p5:=HP_w3.out.cell (i:=5) rfl
 have p6:=HP_w3.out.cell (i:=6) rfl
 have p7:=HP_w3.out.cell (i:=7) rfl
 go_wp2_with fail
 clear p0 p1 p2 p3 p4 p5 p6 p7
 refine(yd7 _ v _ HSM.out (HX.out.under HB_w3.out)).mono ?_
 rintro r w4 ⟨y1,rfl,hb,hr⟩
 have z_w4:w3.heap.size≤w4.heap.size:=hb.size
 have HB_w4:Hid (Below w.heap.size w w4):=HB_w3.out.trans (hb.mono HB_w3.out.size)
 have HP_w4:Hid (Bk w4 w.heap.size 30 #[.int .i64 v.m.n,.int .i64 v.m.s,vi,vh,vs,.int .i64 v.m.z,uk,uc]):=HP_w3.out.below hb
 have HS_w4:Hid (OwnD w4 (fun k=>w2.heap.size≤k∧k<w3.heap.size) (.slice lao L.length lco) (yad L)):=HS_w3.out.under hb
 clear HB_w3 HP_w3 HS_w3
 have HR_w4:Hid (WorF (fun k=>w3.heap.size≤k∧k<w4.heap.size) w4 y1 v):=hr
 clear hb hr
 obtain⟨kau,kbu,kcu,kdu,keu,kfu,kgu,khu,kiu,kju,rfl⟩:=HR_w4.out.form
 obtain⟨Vw4,hVw4⟩:∃V,w4.alloc (.cells #[.int .i64 v.m.n,.int .i64 v.m.s,.slice kau v.m.i.length kbu,.slice kcu v.m.h.length kdu,.slice keu v.m.e.length kfu,.int .i64 v.m.z,.slice kgu v.k.length khu,.slice kiu v.c.length kju] 39)=V:=⟨_,rfl⟩
 have BHX0:Bk Vw4 w4.heap.size 39 #[.int .i64 v.m.n,.int .i64 v.m.s,.slice kau v.m.i.length kbu,.slice kcu v.m.h.length kdu,.slice keu v.m.e.length kfu,.int .i64 v.m.z,.slice kgu v.k.length khu,.slice kiu v.c.length kju]:=by rw [←hVw4];exact Bk.new _ _ _
 have hb:Below w4.heap.size w4 Vw4:=by rw [←hVw4];exact(Below.refl _ _).alloc (Nat.le_refl _) _
 have y_Vw4:w4.heap.size<Vw4.heap.size:=BHX0.lt
 have z_Vw4:w4.heap.size≤Vw4.heap.size:=hb.size
 have HB_Vw4:Hid (Below w.heap.size w Vw4):=HB_w4.out.trans (hb.mono HB_w4.out.size)
 have HP_Vw4:Hid (Bk Vw4 w.heap.size 30 #[.int .i64 v.m.n,.int .i64 v.m.s,vi,vh,vs,.int .i64 v.m.z,uk,uc]):=HP_w4.out.below hb
 have HS_Vw4:Hid (OwnD Vw4 (fun k=>w2.heap.size≤k∧k<w3.heap.size) (.slice lao L.length lco) (yad L)):=HS_w4.out.under hb
 have HR_Vw4:Hid (WorF (fun k=>w3.heap.size≤k∧k<w4.heap.size) Vw4 (.agg #[.int .i64 v.m.n,.int .i64 v.m.s,.slice kau v.m.i.length kbu,.slice kcu v.m.h.length kdu,.slice keu v.m.e.length kfu,.int .i64 v.m.z,.slice kgu v.k.length khu,.slice kiu v.c.length kju]) v):=HR_w4.out.below hb
 clear HB_w4 HP_w4 HS_w4 HR_w4
 clear hb
 have HX0_Vw4:Hid (Bk Vw4 w4.heap.size 39 #[.int .i64 v.m.n,.int .i64 v.m.s,.slice kau v.m.i.length kbu,.slice kcu v.m.h.length kdu,.slice keu v.m.e.length kfu,.int .i64 v.m.z,.slice kgu v.k.length khu,.slice kiu v.c.length kju]):=BHX0
 clear BHX0
 have r0:=HX0_Vw4.out.cell (i:=0) rfl
 have r1:=HX0_Vw4.out.cell (i:=1) rfl
 have r2:=HX0_Vw4.out.cell (i:=2) rfl
 have r3:=HX0_Vw4.out.cell (i:=3) rfl
 have r4:=HX0_Vw4.out.cell (i:=4) rfl
 have r5:=HX0_Vw4.out.cell (i:=5) rfl
 have r6:=HX0_Vw4.out.cell (i:=6) rfl
 have r7:=HX0_Vw4.out.cell (i:=7) rfl
 go_wp2_with fail
 clear hVw4
 refine(HIM.out _ _ HR_Vw4.out.is).mono ?_
 rintro r w5 ⟨ug,rfl,hr,hb⟩
 obtain⟨lag,lcg,rfl⟩:=ykl hr
 have z_w5:Vw4.heap.size≤w5.heap.size:=hb.size
 have HB_w5:Hid (Below w.heap.size w w5):=HB_Vw4.out.trans (hb.mono HB_Vw4.out.size)
 have HP_w5:Hid (Bk w5 w.heap.size 30 #[.int .i64 v.m.n,.int .i64 v.m.s,vi,vh,vs,.int .i64 v.m.z,uk,uc]):=HP_Vw4.out.below hb
 have HS_w5:Hid (OwnD w5 (fun k=>w2.heap.size≤k∧k<w3.heap.size) (.slice lao L.length lco) (yad L)):=HS_Vw4.out.under hb
 have HR_w5:Hid (WorF (fun k=>w3.heap.size≤k∧k<w4.heap.size) w5 (.agg #[.int .i64 v.m.n,.int .i64 v.m.s,.slice kau v.m.i.length kbu,.slice kcu v.m.h.length kdu,.slice keu v.m.e.length kfu,.int .i64 v.m.z,.slice kgu v.k.length khu,.slice kiu v.c.length kju]) v):=HR_Vw4.out.below hb
 have HX0_w5:Hid (Bk w5 w4.heap.size 39 #[.int .i64 v.m.n,.int .i64 v.m.s,.slice kau v.m.i.length kbu,.slice kcu v.m.h.length kdu,.slice keu v.m.e.length kfu,.int .i64 v.m.z,.slice kgu v.k.length khu,.slice kiu v.c.length kju]):=HX0_Vw4.out.below hb
 clear HB_Vw4 HP_Vw4 HS_Vw4 HR_Vw4 HX0_Vw4
 have HG_w5:Hid (OwnD w5 (fun k=>Vw4.heap.size≤k∧k<w5.heap.size) (.slice lag L.length lcg) (yad L)):=hr
 clear hb hr
 clear r0 r1 r2 r3 r4 r5 r6 r7
 go_wp2_with fail
 refine(yi1 _ _ L _ HLW.out HG_w5.out.isD HS_w5.out.isD).mono ?_
 rintro r w6 ⟨rfl,hb⟩
 have z_w6:w5.heap.size≤w6.heap.size:=hb.size
 have HB_w6:Hid (Below w.heap.size w w6):=HB_w5.out.trans (hb.mono HB_w5.out.size)
 have HP_w6:Hid (Bk w6 w.heap.size 30 #[.int .i64 v.m.n,.int .i64 v.m.s,vi,vh,vs,.int .i64 v.m.z,uk,uc]):=HP_w5.out.below hb
 have HS_w6:Hid (OwnD w6 (fun k=>w2.heap.size≤k∧k<w3.heap.size) (.slice lao L.length lco) (yad L)):=HS_w5.out.under hb
 have HR_w6:Hid (WorF (fun k=>w3.heap.size≤k∧k<w4.heap.size) w6 (.agg #[.int .i64 v.m.n,.int .i64 v.m.s,.slice kau v.m.i.length kbu,.slice kcu v.m.h.length kdu,.slice keu v.m.e.length kfu,.int .i64 v.m.z,.slice kgu v.k.length khu,.slice kiu v.c.length kju]) v):=HR_w5.out.below hb
 have HX0_w6:Hid (Bk w6 w4.heap.size 39 #[.int .i64 v.m.n,.int .i64 v.m.s,.slice kau v.m.i.length kbu,.slice kcu v.m.h.length kdu,.slice keu v.m.e.length kfu,.int .i64 v.m.z,.slice kgu v.k.length khu,.slice kiu v.c.length kju]):=HX0_w5.out.below hb
 have HG_w6:Hid (OwnD w6 (fun k=>Vw4.heap.size≤k∧k<w5.heap.size) (.slice lag L.length lcg) (yad L)):=HG_w5.out.under hb
 clear HB_w5 HP_w5 HS_w5 HR_w5 HX0_w5 HG_w5
 clear hb
 have r0:=HX0_w6.out.cell (i:=0) rfl
 have r1:=HX0_w6.out.cell (i:=1) rfl
 have r2:=HX0_w6.out.cell (i:=2) rfl
 have r3:=HX0_w6.out.cell (i:=3) rfl
 have r4:=HX0_w6.out.cell (i:=4) rfl
 have r5:=HX0_w6.out.cell (i:=5) rfl
 have r6:=HX0_w6.out.cell (i:=6) rfl
 have r7:=HX0_w6.out.cell (i:=7) rfl
 have p0:=HP_w6.out.cell (i:=0) rfl
 have p1:=HP_w6.out.cell (i:=1) rfl
 have p2:=HP_w6.out.cell (i:=2) rfl
 have p3:=HP_w6.out.cell (i:=3) rfl
 have p4:=HP_w6.out.cell (i:=4) rfl
 have p5:=HP_w6.out.cell (i:=5) rfl
 have p6:=HP_w6.out.cell (i:=6) rfl
 have p7:=HP_w6.out.cell (i:=7) rfl
 go_wp2_with fail
 go_region_held3 (fun W=>W.cell? ⟨w4.heap.size,0,none⟩=some (.int .i64 v.m.n)∧W.cell? ⟨w4.heap.size,1,none⟩=some (.int .i64 v.m.s)∧W.cell? ⟨w4.heap.size,2,none⟩=some (.slice kau v.m.i.length kbu)∧W.cell? ⟨w4.heap.size,3,none⟩=some (.slice kcu v.m.h.length kdu)∧W.cell? ⟨w4.heap.size,4,none⟩=some (.slice keu v.m.e.length kfu)∧W.cell? ⟨w4.heap.size,5,none⟩=some (.int .i64 v.m.z)∧W.cell? ⟨w4.heap.size,6,none⟩=some (.slice kgu v.k.length khu)∧W.cell? ⟨w4.heap.size,7,none⟩=some (.slice kiu v.c.length kju)∧W.cell? ⟨w.heap.size,0,none⟩=some (.int .i64 v.m.n)∧W.cell? ⟨w.heap.size,1,none⟩=some (.int .i64 v.m.s)∧W.cell? ⟨w.heap.size,2,none⟩=some vi∧W.cell? ⟨w.heap.size,3,none⟩=some vh∧W.cell? ⟨w.heap.size,4,none⟩=some vs∧W.cell? ⟨w.heap.size,5,none⟩=some (.int .i64 v.m.z)∧W.cell? ⟨w.heap.size,6,none⟩=some uk∧W.cell? ⟨w.heap.size,7,none⟩=some uc) ((repeat' apply And.intro)<;>first|(go_keep;done)|(rw [hcA _ _ (by first|omega|(simp;omega))];simp [*];done))
  (first|(go_at_call 11;refine(yd7 _ v _ HSM.out (HX.out.under HB_w6.out.drew)).mono ?_;rintro r w7 ⟨yx,rfl,hbw7,hr2⟩;obtain⟨hcA,hfA⟩:=yf2 hbw7;have hzw7:w6.heap.size≤w7.heap.size:=hbw7.size)|(go_at_call 14;refine(yj9 _ _ v _ HSM.out (HR_w6.out.below ((Below.refl _ w6).drew.trans hbw7)).is hr2.is).mono ?_;rintro r w8 ⟨rfl,hbw8⟩;obtain⟨hcA,hfA⟩:=yf2 hbw8;have hzw8:w7.heap.size≤w8.heap.size:=hbw8.size))
 clear hcA hfA
 have hbc:Below w6.heap.size w6 w8:=((Below.refl w6.heap.size w6).drew.trans (hbw7.mono (Nat.le_refl _))).trans (hbw8.mono (by omega))
 clear r0 r1 r2 r3 r4 r5 r6 r7
 clear p0 p1 p2 p3 p4 p5 p6 p7
 have z_w8:w6.heap.size≤w8.heap.size:=hbc.size
 have HB_w8:Hid (Below w.heap.size w w8):=HB_w6.out.trans (hbc.mono HB_w6.out.size)
 have HP_w8:Hid (Bk w8 w.heap.size 30 #[.int .i64 v.m.n,.int .i64 v.m.s,vi,vh,vs,.int .i64 v.m.z,uk,uc]):=HP_w6.out.below hbc
 have HS_w8:Hid (OwnD w8 (fun k=>w2.heap.size≤k∧k<w3.heap.size) (.slice lao L.length lco) (yad L)):=HS_w6.out.under hbc
 have HR_w8:Hid (WorF (fun k=>w3.heap.size≤k∧k<w4.heap.size) w8 (.agg #[.int .i64 v.m.n,.int .i64 v.m.s,.slice kau v.m.i.length kbu,.slice kcu v.m.h.length kdu,.slice keu v.m.e.length kfu,.int .i64 v.m.z,.slice kgu v.k.length khu,.slice kiu v.c.length kju]) v):=HR_w6.out.below hbc
 have HX0_w8:Hid (Bk w8 w4.heap.size 39 #[.int .i64 v.m.n,.int .i64 v.m.s,.slice kau v.m.i.length kbu,.slice kcu v.m.h.length kdu,.slice keu v.m.e.length kfu,.int .i64 v.m.z,.slice kgu v.k.length khu,.slice kiu v.c.length kju]):=HX0_w6.out.below hbc
 have HG_w8:Hid (OwnD w8 (fun k=>Vw4.heap.size≤k∧k<w5.heap.size) (.slice lag L.length lcg) (yad L)):=HG_w6.out.under hbc
 clear HB_w6 HP_w6 HS_w6 HR_w6 HX0_w6 HG_w6
 clear hbc hr2 hbw7 hzw7 hbw8 hzw8
 have r0:=HX0_w8.out.cell (i:=0) rfl
 have r1:=HX0_w8.out.cell (i:=1) rfl
 have r2:=HX0_w8.out.cell (i:=2) rfl
 have r3:=HX0_w8.out.cell (i:=3) rfl
 have r4:=HX0_w8.out.cell (i:=4) rfl
 have r5:=HX0_w8.out.cell (i:=5) rfl
 have r6:=HX0_w8.out.cell (i:=6) rfl
 have r7:=HX0_w8.out.cell (i:=7) rfl
 go_wp2_with fail
 clear r0 r1 r2 r3 r4 r5 r6 r7
 refine(yhu HTY.out HR_w8.out (fun k e=>by omega)).mono ?_
 rintro r w9 ⟨rfl,_,ht⟩
 have z_w9:w8.heap.size≤w9.heap.size:=ht.size
 have HB_w9:Hid (Below w.heap.size w w9):=HB_w8.out.trans (ht.to_below (fun k e=>by omega) (by omega))
 have HP_w9:Hid (Bk w9 w.heap.size 30 #[.int .i64 v.m.n,.int .i64 v.m.s,vi,vh,vs,.int .i64 v.m.z,uk,uc]):=HP_w8.out.turns ht (fun e=>by omega)
 have HS_w9:Hid (OwnD w9 (fun k=>w2.heap.size≤k∧k<w3.heap.size) (.slice lao L.length lco) (yad L)):=HS_w8.out.turns ht (fun k e=>by omega)
 have HG_w9:Hid (OwnD w9 (fun k=>Vw4.heap.size≤k∧k<w5.heap.size) (.slice lag L.length lcg) (yad L)):=HG_w8.out.turns ht (fun k e=>by omega)
 clear HB_w8 HP_w8 HS_w8 HR_w8 HX0_w8 HG_w8
 clear ht
 obtain⟨mk,hmk⟩:∃mk,yhv v=mk:=⟨_,rfl⟩
 have hmk0:0≤mk:=hmk▸HMK.out
 rw [hmk]
 clear hmk
 have hkn:¬(mk<0):=by omega
 go_wp2_with fail
 refine(yi1 _ _ L _ HLW.out HG_w9.out.isD HS_w9.out.isD).mono ?_
 rintro r w10 ⟨rfl,hb⟩
 have z_w10:w9.heap.size≤w10.heap.size:=hb.size
 have HB_w10:Hid (Below w.heap.size w w10):=HB_w9.out.trans (hb.mono HB_w9.out.size)
 have HP_w10:Hid (Bk w10 w.heap.size 30 #[.int .i64 v.m.n,.int .i64 v.m.s,vi,vh,vs,.int .i64 v.m.z,uk,uc]):=HP_w9.out.below hb
 have HS_w10:Hid (OwnD w10 (fun k=>w2.heap.size≤k∧k<w3.heap.size) (.slice lao L.length lco) (yad L)):=HS_w9.out.under hb
 have HG_w10:Hid (OwnD w10 (fun k=>Vw4.heap.size≤k∧k<w5.heap.size) (.slice lag L.length lcg) (yad L)):=HG_w9.out.under hb
 clear HB_w9 HP_w9 HS_w9 HG_w9
 clear hb
 go_wp2_with fail
 refine(yit 1 (by have:=HLW.out;omega) (by omega) HLC.out.2 HG_w10.out).mono ?_
 rintro r w11 ⟨rfl,hh,ht⟩
 have z_w11:w10.heap.size≤w11.heap.size:=ht.size
 have HB_w11:Hid (Below w.heap.size w w11):=HB_w10.out.trans (ht.to_below (fun k e=>by omega) (by omega))
 have HP_w11:Hid (Bk w11 w.heap.size 30 #[.int .i64 v.m.n,.int .i64 v.m.s,vi,vh,vs,.int .i64 v.m.z,uk,uc]):=HP_w10.out.turns ht (fun e=>by omega)
 have HS_w11:Hid (OwnD w11 (fun k=>w2.heap.size≤k∧k<w3.heap.size) (.slice lao L.length lco) (yad L)):=HS_w10.out.turns ht (fun k e=>by omega)
 clear HB_w10 HP_w10 HS_w10 HG_w10
 have HH_w11:Hid (OwnD w11 (fun k=>Vw4.heap.size≤k∧k<w5.heap.size) (.slice lag L.length lcg) ((yad L).mark 1)):=hh
 clear hh ht
 obtain⟨mn,hmn⟩:∃mn,1+((yad L).cnt:Int)=mn:=⟨_,rfl⟩
 have hmn0:¬(mn<0):=by have:=HLC.out.1;omega
 have HMN:Hid (1+((yad L).cnt:Int)=mn):=hmn
 rw [hmn]
 clear hmn
 go_wp2_with fail
 refine(yj2 1 (by have:=HLW.out;omega) (by omega) HLC.out.2 HH_w11.out).mono ?_
 rintro r w12 ⟨rfl,hb⟩
 rw [HMN.out]
 have z_w12:w11.heap.size≤w12.heap.size:=hb.size
 have HB_w12:Hid (Below w.heap.size w w12):=HB_w11.out.trans (hb.mono HB_w11.out.size)
 have HP_w12:Hid (Bk w12 w.heap.size 30 #[.int .i64 v.m.n,.int .i64 v.m.s,vi,vh,vs,.int .i64 v.m.z,uk,uc]):=HP_w11.out.below hb
 have HS_w12:Hid (OwnD w12 (fun k=>w2.heap.size≤k∧k<w3.heap.size) (.slice lao L.length lco) (yad L)):=HS_w11.out.under hb
 have HH_w12:Hid (OwnD w12 (fun k=>Vw4.heap.size≤k∧k<w5.heap.size) (.slice lag L.length lcg) ((yad L).mark 1)):=HH_w11.out.under hb
 clear HB_w11 HP_w11 HS_w11 HH_w11
 clear hb
 have p0:=HP_w12.out.cell (i:=0) rfl
 have p1:=HP_w12.out.cell (i:=1) rfl
 have p2:=HP_w12.out.cell (i:=2) rfl
 have p3:=HP_w12.out.cell (i:=3) rfl
 have p4:=HP_w12.out.cell (i:=4) rfl
 have p5:=HP_w12.out.cell (i:=5) rfl
 have p6:=HP_w12.out.cell (i:=6) rfl
 have p7:=HP_w12.out.cell (i:=7) rfl
 go_wp2_with fail
 clear p0 p1 p2 p3 p4 p5 p6 p7
 refine(yd7 _ v _ HSM.out (HX.out.under HB_w12.out)).mono ?_
 rintro r w13 ⟨yb,rfl,hb,hr⟩
 have z_w13:w12.heap.size≤w13.heap.size:=hb.size
 have HB_w13:Hid (Below w.heap.size w w13):=HB_w12.out.trans (hb.mono HB_w12.out.size)
 have HP_w13:Hid (Bk w13 w.heap.size 30 #[.int .i64 v.m.n,.int .i64 v.m.s,vi,vh,vs,.int .i64 v.m.z,uk,uc]):=HP_w12.out.below hb
 have HS_w13:Hid (OwnD w13 (fun k=>w2.heap.size≤k∧k<w3.heap.size) (.slice lao L.length lco) (yad L)):=HS_w12.out.under hb
 have HH_w13:Hid (OwnD w13 (fun k=>Vw4.heap.size≤k∧k<w5.heap.size) (.slice lag L.length lcg) ((yad L).mark 1)):=HH_w12.out.under hb
 clear HB_w12 HP_w12 HS_w12 HH_w12
 have HA_w13:Hid (WorF (fun k=>w12.heap.size≤k∧k<w13.heap.size) w13 yb v):=hr
 clear hb hr
 go_wp2_with fail
 refine(HIM.out _ _ HA_w13.out.is).mono ?_
 rintro r w14 ⟨uk,rfl,hr,hb⟩
 obtain⟨lak,lck,rfl⟩:=ykl hr
 have z_w14:w13.heap.size≤w14.heap.size:=hb.size
 have HB_w14:Hid (Below w.heap.size w w14):=HB_w13.out.trans (hb.mono HB_w13.out.size)
 have HP_w14:Hid (Bk w14 w.heap.size 30 #[.int .i64 v.m.n,.int .i64 v.m.s,vi,vh,vs,.int .i64 v.m.z,uk,uc]):=HP_w13.out.below hb
 have HS_w14:Hid (OwnD w14 (fun k=>w2.heap.size≤k∧k<w3.heap.size) (.slice lao L.length lco) (yad L)):=HS_w13.out.under hb
 have HH_w14:Hid (OwnD w14 (fun k=>Vw4.heap.size≤k∧k<w5.heap.size) (.slice lag L.length lcg) ((yad L).mark 1)):=HH_w13.out.under hb
 have HA_w14:Hid (WorF (fun k=>w12.heap.size≤k∧k<w13.heap.size) w14 yb v):=HA_w13.out.below hb
 clear HB_w13 HP_w13 HS_w13 HH_w13 HA_w13
 have HK_w14:Hid (OwnD w14 (fun k=>w13.heap.size≤k∧k<w14.heap.size) (.slice lak L.length lck) (yad L)):=hr
 clear hb hr
 clear HA_w14
 go_wp2_with fail
 refine(yi1 _ _ L _ HLW.out HK_w14.out.isD HS_w14.out.isD).mono ?_
 rintro r w15 ⟨rfl,hb⟩
 have z_w15:w14.heap.size≤w15.heap.size:=hb.size
 have HB_w15:Hid (Below w.heap.size w w15):=HB_w14.out.trans (hb.mono HB_w14.out.size)
 have HP_w15:Hid (Bk w15 w.heap.size 30 #[.int .i64 v.m.n,.int .i64 v.m.s,vi,vh,vs,.int .i64 v.m.z,uk,uc]):=HP_w14.out.below hb
 have HS_w15:Hid (OwnD w15 (fun k=>w2.heap.size≤k∧k<w3.heap.size) (.slice lao L.length lco) (yad L)):=HS_w14.out.under hb
 have HH_w15:Hid (OwnD w15 (fun k=>Vw4.heap.size≤k∧k<w5.heap.size) (.slice lag L.length lcg) ((yad L).mark 1)):=HH_w14.out.under hb
 have HK_w15:Hid (OwnD w15 (fun k=>w13.heap.size≤k∧k<w14.heap.size) (.slice lak L.length lck) (yad L)):=HK_w14.out.under hb
 clear HB_w14 HP_w14 HS_w14 HH_w14 HK_w14
 clear hb
 go_wp2_with fail
 refine(yj2 1 (by have:=HLW.out;omega) (by omega) HLC.out.2 HH_w15.out).mono ?_
 rintro r w16 ⟨rfl,hb⟩
 rw [HMN.out]
 have z_w16:w15.heap.size≤w16.heap.size:=hb.size
 have HB_w16:Hid (Below w.heap.size w w16):=HB_w15.out.trans (hb.mono HB_w15.out.size)
 have HP_w16:Hid (Bk w16 w.heap.size 30 #[.int .i64 v.m.n,.int .i64 v.m.s,vi,vh,vs,.int .i64 v.m.z,uk,uc]):=HP_w15.out.below hb
 have HS_w16:Hid (OwnD w16 (fun k=>w2.heap.size≤k∧k<w3.heap.size) (.slice lao L.length lco) (yad L)):=HS_w15.out.under hb
 have HH_w16:Hid (OwnD w16 (fun k=>Vw4.heap.size≤k∧k<w5.heap.size) (.slice lag L.length lcg) ((yad L).mark 1)):=HH_w15.out.under hb
 have HK_w16:Hid (OwnD w16 (fun k=>w13.heap.size≤k∧k<w14.heap.size) (.slice lak L.length lck) (yad L)):=HK_w15.out.under hb
 clear HB_w15 HP_w15 HS_w15 HH_w15 HK_w15
 clear hb
 go_wp2
 go_ret
 exact⟨rfl,HB_w16.out⟩
end Go.Proofs.YtmobiieoecjmdaaGreat.LawExactVectors
