/- AnI, PsN, KMt, TPpD, KKt -/
import Derived.Test.YtmobiieoecjmdaaGreatExactAnswersLCoI
namespace Go.Proofs.YtmobiieoecjmdaaGreat
open Go.RowKit
theorem ycy {p:Prop} (h:p):Hid p:=h
theorem HiF.form {F:Nat→Prop} {w:World} {x:Value} {h:Hi} (hh:HiF F w x h):∃a c ax cx,x= .agg #[.slice a h.ev.length c,.slice ax h.em.length cx,.int .i64 h.k,.bool h.f]:=by
 obtain⟨A,C,ve,vx,rfl,⟨_,a1,c1,rfl,_⟩,⟨_,a2,c2,rfl,_⟩,_⟩:=hh
 exact⟨a1,c1,a2,c2,rfl⟩
set_option maxRecDepth 100000 in
set_option maxHeartbeats 16000000 in
theorem iAnswers [Inhabited PsF] (x:Value) (v:Wd) (z:Value) (d:List Int) (w:World) (hs:ycc v) (hdl:d.length≤1048576) (h:IsW w x v) (hz:IsI w z d):
  Calls Tryz.prog 31 #[x,z] w fun e w'=>∃y,e= .returned (.tuple #[y,.bool (decide (0≤covA v d)&&decide (whV d=1))])∧HiF (fun j=>w.heap.size≤j∧j<w'.heap.size) w' y (ansA v d)∧Below w.heap.size w w':=by
 have HDL:Hid (d.length≤1048576):=hdl
 have HZ:Hid (IsI w z d):=hz
 clear hdl
 obtain⟨za,zc,rfl,_⟩:=hz
 have HSW:Hid (ycc v):=hs
 have hkl:v.k.length≤1048576:=hs.2.1.1
 have hcl:v.c.length≤1048576:=by have h9:=hs.2.2;rw [ydl]at h9;omega
 obtain⟨ai,ci,ah,ch,ae,ce,ak,ck,ac,cc,rfl,hm,hk,hc⟩:=h.form
 have HWW:=ycy h
 have HKS:=ycy hk
 clear h hm hk hc
 obtain⟨Rb,hRb⟩:∃Rb,Rb=w.heap.size+1:=⟨_,rfl⟩
 obtain⟨W0,hW0⟩:=al2IsW HWW.out 39 (.cells #[.slice none 0 0,.slice none 0 0,.int .i64 0,.bool false] 62)
 have HB0:Hid (Below w.heap.size w W0):=hW0▸((Below.refl _ w).alloc (Nat.le_refl _) _).alloc (by simp) _
 have HP0:Hid (Bk W0 w.heap.size 39 #[.int .i64 v.m.n,.int .i64 v.m.s,.slice ai v.m.i.length ci,.slice ah v.m.h.length ch,.slice ae v.m.e.length ce,.int .i64 v.m.z,.slice ak v.k.length ck,.slice ac v.c.length cc]):=hW0▸(Bk.new w _ _).alloc _
 have HR0:Hid (Bk W0 Rb 62 #[.slice none 0 0,.slice none 0 0,.int .i64 0,.bool false]):=by rw [←hW0,hRb];exact Bk.newAt (by simp) _ _
 have HW0:=ycy hW0
 have HRB:=ycy hRb
 have hRw:w.heap.size<Rb:=by omega
 have hRW:Rb<W0.heap.size:=HR0.out.lt
 clear hRb
 obtain⟨q0,q1,q2,q3,q4,q5,q6,q7⟩:=c8_8 HP0.out
 go_enter Tryz.func31,Tryz.ntmps31
 go_wp2_with fail
 clear q0 q1 q2 q3 q4 q5 q6 q7 hW0
 try rw [HW0.out]
 try rw [←HRB.out]
 have hsw:=iWh _ d _ (by have:=HDL.out;omega) (HZ.out.below HB0.out)
 by_cases hwh:whV d=1
 case neg=>
  have hat:(decide (0≤covA v d)&&decide (whV d=1))=false:=by rw [decide_eq_false hwh,Bool.and_false]
  have HANS:=ycy (yqj hat)
  have HATV:=ycy hat
  have hd8:(whV d !=1)=true:=by simpa using hwh
  generalize whV d=z at hsw hd8
  clear hwh hat
  refine hsw.mono ?_
  rintro e w1 ⟨rfl,hb1⟩
  clear hsw
  have HB1:=trh HB0 hb1
  have HR1:=ycy (HR0.out.below hb1)
  have HP1:=ycy (HP0.out.below hb1)
  have hz1:W0.heap.size≤w1.heap.size:=hb1.size
  clear hb1 HB0 HR0 HP0
  go_upto_region 2 with fail
  obtain⟨r0,r1,r2,r3⟩:=c4_4 HR1.out
  have rf:=HR1.out.free
  go_wp2
  clear r0 r1 r2 r3 rf
  obtain⟨X,hX⟩:∃X,putH w1 Rb (.slice none 0 0) (.slice none 0 0) (.int .i64 0) (.bool false)=X:=⟨_,rfl⟩
  have ht:=yby w1 Rb (.slice none 0 0) (.slice none 0 0) (.int .i64 0) (.bool false)
  have hk:=HR1.out.putH (.slice none 0 0) (.slice none 0 0) (.int .i64 0) (.bool false)
  rw [hX]at ht hk
  unfold putH at hX
  rw [hX]
  obtain⟨t0,t1,t2,t3⟩:=c4_4 hk
  refine bodyPost_ret (v:= .tuple #[.agg #[.slice none 0 0,.slice none 0 0,.int .i64 0,.bool false],.bool false]) (by simp [results,Tryz.results31,go_sem,t0,t1,t2,t3]) rfl ?_
  rw [HATV.out,HANS.out]
  refine⟨_,rfl,?_,HB1.out.trans (ht.to_below (fun b e=>by omega) HB1.out.size)⟩
  exact(yox (World.ownsRow_nil X w.heap.size 110 7) (World.ownsRow_nil X w.heap.size 113 3))
 have HWH:Hid (whV d=1):=hwh
 rw [hwh]at hsw
 clear hwh
 refine hsw.mono ?_
 rintro e w1 ⟨rfl,hb1⟩
 clear hsw
 have HB1:=trh HB0 hb1
 have HR1:=ycy (HR0.out.below hb1)
 have HP1:=ycy (HP0.out.below hb1)
 have hz1:W0.heap.size≤w1.heap.size:=hb1.size
 clear hb1 HB0 HR0 HP0
 obtain⟨q0,q1,q2,q3,q4,q5,q6,q7⟩:=c8_8 HP1.out
 go_wp2_with fail
 clear q0 q1 q2 q3 q4 q5 q6 q7
 have hsc:=iCovers _ v _ d _ HSW.out HDL.out (HWW.out.under HB1.out) (HZ.out.below HB1.out)
 rcases ynq v d with hcv|⟨hok,ia,hcv,hia⟩
 case inl=>
  have hat:(decide (0≤covA v d)&&decide (whV d=1))=false:=by rw [hcv];rfl
  have HANS:=ycy (yqj hat)
  have HATV:=ycy hat
  rw [hcv]at hsc
  clear hat hcv
  refine hsc.mono ?_
  rintro e w2 ⟨rfl,hb2⟩
  clear hsc
  have HB2:=trh HB1 hb2
  have HR2:=ycy (HR1.out.below hb2)
  have HP2:=ycy (HP1.out.below hb2)
  have hz2:w1.heap.size≤w2.heap.size:=hb2.size
  clear hb2 HB1 HR1 HP1
  go_upto_region 5 with fail
  obtain⟨r0,r1,r2,r3⟩:=c4_4 HR2.out
  have rf:=HR2.out.free
  go_wp2
  clear r0 r1 r2 r3 rf
  obtain⟨X,hX⟩:∃X,putH w2 Rb (.slice none 0 0) (.slice none 0 0) (.int .i64 0) (.bool false)=X:=⟨_,rfl⟩
  have ht:=yby w2 Rb (.slice none 0 0) (.slice none 0 0) (.int .i64 0) (.bool false)
  have hk:=HR2.out.putH (.slice none 0 0) (.slice none 0 0) (.int .i64 0) (.bool false)
  rw [hX]at ht hk
  unfold putH at hX
  rw [hX]
  obtain⟨t0,t1,t2,t3⟩:=c4_4 hk
  refine bodyPost_ret (v:= .tuple #[.agg #[.slice none 0 0,.slice none 0 0,.int .i64 0,.bool false],.bool false]) (by simp [results,Tryz.results31,go_sem,t0,t1,t2,t3]) rfl ?_
  rw [HATV.out,HANS.out]
  refine⟨_,rfl,?_,HB2.out.trans (ht.to_below (fun b e=>by omega) HB2.out.size)⟩
  exact(yox (World.ownsRow_nil X w.heap.size 110 7) (World.ownsRow_nil X w.heap.size 113 3))
 have hc0:((ia:Int)== -1)=false:=by simp
 have HATV:Hid ((decide (0≤covA v d)&&decide (whV d=1))=true):=(by rw [hcv,HWH.out];simp:(decide (0≤covA v d)&&decide (whV d=1))=true)
 have HANS:Hid (ansA v d=comH (knAt v.k ia)):=(by rw [yvs HATV.out,hcv,Int.toNat_natCast]:ansA v d=_)
 rw [hcv]at hsc
 clear hcv
 refine hsc.mono ?_
 rintro e w2 ⟨rfl,hb2⟩
 clear hsc
 have HB2:=trh HB1 hb2
 have HR2:=ycy (HR1.out.below hb2)
 have HP2:=ycy (HP1.out.below hb2)
 have hz2:w1.heap.size≤w2.heap.size:=hb2.size
 clear hb2 HB1 HR1 HP1
 have HOKK:=ycy (kd_okA hok hia)
 clear hok
 obtain⟨b,off,rfl,hbl,hKA⟩:=HKS.out.resolve_left (by omega)
 obtain⟨ki,di,kh,dh,ke,de,k6,d6,k7,d7,k8,d8,k12,d12,k13,d13,⟨f0,f1,f2,f3,f4,f5,f6,f7,f8,f9,f10,f11,f12,f13⟩,hkn,-,-⟩:=(hKA ia hia).form
 have HKN:=ycy hkn
 have HSKi:=ycy (HSW.out.2.1.2 ia hia)
 have g0:=cst HB2.out hbl f0
 have g1:=cst HB2.out hbl f1
 have g2:=cst HB2.out hbl f2
 have g3:=cst HB2.out hbl f3
 have g4:=cst HB2.out hbl f4
 have g5:=cst HB2.out hbl f5
 have g6:=cst HB2.out hbl f6
 have g7:=cst HB2.out hbl f7
 have g8:=cst HB2.out hbl f8
 have g9:=cst HB2.out hbl f9
 have g10:=cst HB2.out hbl f10
 have g11:=cst HB2.out hbl f11
 have g12:=cst HB2.out hbl f12
 have g13:=cst HB2.out hbl f13
 have q6:=HP2.out.cell (i:=6) rfl
 have hki:(ia:Int)<(v.k.length:Int):=by omega
 clear hkn hKA f0 f1 f2 f3 f4 f5 f6 f7 f8 f9 f10 f11 f12 f13
 obtain⟨k,hk⟩:∃k,(knAt v.k ia)=k:=⟨_,rfl⟩
 rw [hk]at HKN HSKi HOKK g0 g1 g2 g3 g4 g5 g6 g7 g8 g9 g10 g11 g12 g13
 have HAK:Hid (comH (knAt v.k ia)=comH k):=(by rw [hk]:comH (knAt v.k ia)=comH k)
 clear hk
 go_wp2_with fail
 clear q6 g0 g1 g2 g3 g4 g5 g6 g7 g8 g9 g10 g11 g12 g13
 refine(ys8 _ k _ HSKi.out (HKN.out.under HB2.out)).mono ?_
 rintro e w7 ⟨y7,rfl,hh7,hb7⟩
 rw [HOKK.out]
 obtain⟨ay,cy,ax,cx2,rfl⟩:=HiF.form hh7
 have HB7:=trh HB2 hb7
 have HR7:=ycy (HR2.out.below hb7)
 obtain⟨R,hR⟩:∃R,comH k=R:=⟨_,rfl⟩
 have HRE:Hid (comH k=R):=hR
 rw [hR]at hh7⊢
 have HH7:=ycy hh7
 have hs7:w2.heap.size≤w7.heap.size:=hb7.size
 clear hh7 hb7 hR
 obtain⟨r0,r1,r2,r3⟩:=c4_4 HR7.out
 have rf:=HR7.out.free
 go_wp2
 clear r0 r1 r2 r3 rf
 obtain⟨X,hX⟩:∃X,putH w7 Rb (.slice ay R.ev.length cy) (.slice ax R.em.length cx2) (.int .i64 R.k) (.bool R.f)=X:=⟨_,rfl⟩
 have ht:=yby w7 Rb (.slice ay R.ev.length cy) (.slice ax R.em.length cx2) (.int .i64 R.k) (.bool R.f)
 have hk:=HR7.out.putH (.slice ay R.ev.length cy) (.slice ax R.em.length cx2) (.int .i64 R.k) (.bool R.f)
 rw [hX]at ht hk
 unfold putH at hX
 rw [hX]
 obtain⟨t0,t1,t2,t3⟩:=c4_4 hk
 refine bodyPost_ret (v:= .tuple #[.agg #[.slice ay R.ev.length cy,.slice ax R.em.length cx2,.int .i64 R.k,.bool R.f],.bool true]) (by simp [results,Tryz.results31,go_sem,t0,t1,t2,t3]) rfl ?_
 rw [HATV.out,HANS.out,HAK.out,HRE.out]
 have hsz:=ht.size
 refine⟨_,rfl,?_,HB7.out.trans (ht.to_below (fun b e=>by omega) HB7.out.size)⟩
 exact(HH7.out.turns ht (fun j hj e=>by have:=hj.1;omega)).mono (fun j hj=>⟨Nat.le_trans HB2.out.size hj.1,Nat.lt_of_lt_of_le hj.2 hsz⟩)
theorem psF_some:Nonempty PsF:=⟨⟨(⟨⟨0,0,1,0,0,0,1⟩,⟨[],0,0⟩,[],[]⟩,.slice none 0 0,.slice none 0 0,.slice none 0 0),by decide,⟨_,_,_,rfl⟩,⟨_,_,_,rfl⟩,⟨_,_,_,rfl⟩⟩⟩
set_option maxHeartbeats 4000000
set_option maxRecDepth 100000
open Go.RowKit
theorem ykt {p:Prop} (h:p):Hid p:=h
theorem yqy (t s q d k v g:Int) (b:Bool) (w:World):
  Calls Tryz.prog 107 #[.agg #[.int .i64 t,.int .i64 s,.int .i64 q,.int .i64 d,.int .i64 k,.int .i64 v,.int .i64 g,.bool b]] w fun e w'=>e= .returned (.agg #[.int .i64 t,.int .i64 s,.int .i64 q,.int .i64 d,.int .i64 k,.int .i64 v,.int .i64 g,.bool b])∧Below w.heap.size w w':=by
 obtain⟨W0,hW0⟩:∃V,((w.alloc (.cells #[.int .i64 t,.int .i64 s,.int .i64 q,.int .i64 d,.int .i64 k,.int .i64 v,.int .i64 g,.bool b] 157)).alloc (.cells #[.int .i64 0,.int .i64 0,.int .i64 0,.int .i64 0,.int .i64 0,.int .i64 0,.int .i64 0,.bool false] 148)).alloc (.cells #[.int .i64 0,.int .i64 0,.int .i64 0,.int .i64 0,.int .i64 0,.int .i64 0,.int .i64 0,.bool false] 148)=V:=⟨_,rfl⟩
 have hb0:Below w.heap.size w W0:=hW0▸(((Below.refl _ w).alloc (Nat.le_refl _) _).alloc (by simp) _).alloc (by simp;omega) _
 have HB0:=ykt hb0
 have B1:Hid (Bk W0 w.heap.size 157 #[.int .i64 t,.int .i64 s,.int .i64 q,.int .i64 d,.int .i64 k,.int .i64 v,.int .i64 g,.bool b]):=hW0▸((Bk.new w _ _).alloc _).alloc _
 have B2:Hid (Bk W0 (w.heap.size+1) 148 #[.int .i64 0,.int .i64 0,.int .i64 0,.int .i64 0,.int .i64 0,.int .i64 0,.int .i64 0,.bool false]):=hW0▸(Bk.newAt (by simp) _ _).alloc _
 have B3:Hid (Bk W0 (w.heap.size+1+1) 148 #[.int .i64 0,.int .i64 0,.int .i64 0,.int .i64 0,.int .i64 0,.int .i64 0,.int .i64 0,.bool false]):=hW0▸Bk.newAt (by simp) _ _
 clear hb0
 have x0:=B1.out.cell (i:=0) rfl
 have x1:=B1.out.cell (i:=1) rfl
 have x2:=B1.out.cell (i:=2) rfl
 have x3:=B1.out.cell (i:=3) rfl
 have x4:=B1.out.cell (i:=4) rfl
 have x5:=B1.out.cell (i:=5) rfl
 have x6:=B1.out.cell (i:=6) rfl
 go_enter Tryz.func107,Tryz.ntmps107
 go_wp2_with fail
 clear hW0 x0 x1 x2 x3 x4 x5 x6
 refine(ygz _ _ _ _ _ _ _ _).mono ?_
 rintro r w1 ⟨rfl,hb⟩
 have x7:=(B1.out.below hb).cell (i:=7) rfl
 have Y2:=ykt (B2.out.below hb)
 have Y3:=ykt (B3.out.below hb)
 obtain⟨y0,y1,y2,y3,y4,y5,y6,y7⟩:=c8_8 Y2.out
 obtain⟨z0,z1,z2,z3,z4,z5,z6,z7⟩:=c8_8 Y3.out
 have yf:=Y2.out.free
 have zf:=Y3.out.free
 have HB1:=trh HB0 hb
 clear hb
 go_wp2
 refine bodyPost_ret (v:= .agg #[.int .i64 t,.int .i64 s,.int .i64 q,.int .i64 d,.int .i64 k,.int .i64 v,.int .i64 g,.bool b]) (by simp [results,Tryz.results107,go_sem,y0,y1,y2,y3,y4,y5,y6,y7]) rfl ⟨rfl,?_⟩
 exact((((((((((((((((HB1.out.setCell (p:=⟨w.heap.size+1+1,0,none⟩) (by show w.heap.size≤w.heap.size+1+1;omega) _).setCell (p:=⟨w.heap.size+1+1,1,none⟩) (by show w.heap.size≤w.heap.size+1+1;omega) _).setCell (p:=⟨w.heap.size+1+1,2,none⟩) (by show w.heap.size≤w.heap.size+1+1;omega) _).setCell (p:=⟨w.heap.size+1+1,3,none⟩) (by show w.heap.size≤w.heap.size+1+1;omega) _).setCell (p:=⟨w.heap.size+1+1,4,none⟩) (by show w.heap.size≤w.heap.size+1+1;omega) _).setCell (p:=⟨w.heap.size+1+1,5,none⟩) (by show w.heap.size≤w.heap.size+1+1;omega) _).setCell (p:=⟨w.heap.size+1+1,6,none⟩) (by show w.heap.size≤w.heap.size+1+1;omega) _).setCell (p:=⟨w.heap.size+1+1,7,none⟩) (by show w.heap.size≤w.heap.size+1+1;omega) _).setCell (p:=⟨w.heap.size+1,0,none⟩) (by show w.heap.size≤w.heap.size+1;omega) _).setCell (p:=⟨w.heap.size+1,1,none⟩) (by show w.heap.size≤w.heap.size+1;omega) _).setCell (p:=⟨w.heap.size+1,2,none⟩) (by show w.heap.size≤w.heap.size+1;omega) _).setCell (p:=⟨w.heap.size+1,3,none⟩) (by show w.heap.size≤w.heap.size+1;omega) _).setCell (p:=⟨w.heap.size+1,4,none⟩) (by show w.heap.size≤w.heap.size+1;omega) _).setCell (p:=⟨w.heap.size+1,5,none⟩) (by show w.heap.size≤w.heap.size+1;omega) _).setCell (p:=⟨w.heap.size+1,6,none⟩) (by show w.heap.size≤w.heap.size+1;omega) _).setCell (p:=⟨w.heap.size+1,7,none⟩) (by show w.heap.size≤w.heap.size+1;omega) _)
theorem infoMl:(Tryz.prog.info? 148).map (fun i=>(i.zero,i.size,i.bytes))=some (some (.agg #[.int .i64 0,.int .i64 0,.int .i64 0,.int .i64 0,.int .i64 0,.int .i64 0,.int .i64 0,.bool false]),8,64):=by kernel_rfl
theorem mails_at {l:List Ml} {k:Nat} (h:k<l.length):(ych l).getD (k*8) (.int .i64 0)= .int .i64 (mlAt l k).e.t∧(ych l).getD (k*8+1) (.int .i64 0)= .int .i64 (mlAt l k).e.s∧(ych l).getD (k*8+2) (.int .i64 0)= .int .i64 (mlAt l k).e.q∧(ych l).getD (k*8+3) (.int .i64 0)= .int .i64 (mlAt l k).e.d∧(ych l).getD (k*8+4) (.int .i64 0)= .int .i64 (mlAt l k).e.k∧(ych l).getD (k*8+5) (.int .i64 0)= .int .i64 (mlAt l k).e.v∧(ych l).getD (k*8+6) (.int .i64 0)= .int .i64 (mlAt l k).e.g∧(ych l).getD (k*8+7) (.int .i64 0)= .bool (mlAt l k).a:=
 ⟨yba (ybm l k 0 h (by omega)),yba (ybm l k 1 h (by omega)),yba (ybm l k 2 h (by omega)),yba (ybm l k 3 h (by omega)),yba (ybm l k 4 h (by omega)),yba (ybm l k 5 h (by omega)),yba (ybm l k 6 h (by omega)),yba (ybm l k 7 h (by omega))⟩
theorem toMl_any (x:Value) (l:List Ml) (w:World) (hl:l.length≤1048576) (h:IsMl w x l):
  Calls Tryz.prog 61 #[x] w fun e w'=>e= .returned (sl w.heap.size l.length)∧Below w.heap.size w w'∧OwnD w' (fun k=>w.heap.size≤k∧k<w'.heap.size) (sl w.heap.size l.length) (ybh l):=by
 obtain⟨a,cap,rfl,h1,h2,h⟩:=h
 have hp:(0:Int)≤(l.length:Int):=by omega
 obtain⟨i0,hi,hz0,hz1,hz2⟩:=info_parts infoMl
 go_enter Tryz.func61,Tryz.ntmps61
 go_wp2_with (at_make;refine wpList_make_full _ rfl _ _ 54 rfl w.heap.size 148 i0 _ 8 Tryz.underlying54 hi hz0 hz1 .i64 .i64 l.length l.length l.length rfl rfl rfl rfl (by rw [hz2];omega) (by unfold maxLen;omega) (Nat.le_refl _) ?_;intro w1 hown hgrow)
 have hB1:Hid (Below w.heap.size w w1):=(Below.refl _ _).grown hgrow (Nat.le_refl _) (fun k e=>by cases e)
 obtain⟨zs,hR0⟩:=OwnD.made0 (fun j=> .val ((ych l).getD j (.int .i64 0))) hown
 have hR1:=ykt hR0
 clear hown hgrow hi hz0 hz1 hz2 hR0
 go_loopw [4] (fun i wr=>∃k:Nat,k≤l.length∧i= .int .i64 k∧Below w.heap.size w wr∧OwnD wr (fun k=>w.heap.size≤k∧k<wr.heap.size) (sl w.heap.size l.length) (.row 8 l.length (toC (fun j=> .val ((ych l).getD j (.int .i64 0))) zs (k*8)))) (fun i _=>l.length-(intOf i).toNat)
 case atStart=>exact⟨0,Nat.zero_le _,rfl,hB1.out,hR1.out⟩
 case round=>
  obtain⟨k,hk,rfl,hB,hR⟩:=hrel
  have HB:=ykt hB
  have HR:=ykt hR
  clear hR
  by_cases hlt:k<l.length
  ·obtain⟨b,off,rfl,hb,hc⟩:=h.resolve_left (by intro e;subst e;simp at hlt)
   obtain⟨f0,f1,f2,f3,f4,f5,f6,f7⟩:=(hc k hlt).below hB hb
   have hg:w.heap.size<wr.heap.size:=(HR.out.lt (by omega)).1
   clear hB hB1 hR1 h hc
   go_wp2_with (go_at_call 107;refine(yqy _ _ _ _ _ _ _ _ _).mono ?_;rintro e w2 ⟨rfl,hb2⟩;have HB2:=hdq hb2;have HR2:Hid (OwnD w2 (fun k=>w.heap.size≤k∧k<wr.heap.size) (sl w.heap.size l.length) (.row 8 l.length (toC (fun j=> .val ((ych l).getD j (.int .i64 0))) zs (k*8)))):=HR.out.under hb2;obtain⟨c0,_,g0,z0,_⟩:=HR2.out.step (j:=k*8) (by omega);obtain⟨c1,_,g1,z1,_⟩:=HR2.out.step (j:=k*8+1) (by omega);obtain⟨c2,_,g2,z2,_⟩:=HR2.out.step (j:=k*8+2) (by omega);obtain⟨c3,_,g3,z3,_⟩:=HR2.out.step (j:=k*8+3) (by omega);obtain⟨c4,_,g4,z4,_⟩:=HR2.out.step (j:=k*8+4) (by omega);obtain⟨c5,_,g5,z5,_⟩:=HR2.out.step (j:=k*8+5) (by omega);obtain⟨c6,_,g6,z6,_⟩:=HR2.out.step (j:=k*8+6) (by omega);obtain⟨c7,_,g7,z7,_⟩:=HR2.out.step (j:=k*8+7) (by omega);clear hb2)
   go_roundw
   case rel=>
    obtain⟨e0,e1,e2,e3,e4,e5,e6,e7⟩:=mails_at hlt
    refine⟨k+1,by omega,by go_num,(((((((((HB.out.trans (HB2.out.mono (by omega))).setCell (p:=⟨w.heap.size,_,none⟩) (Nat.le_refl _) _).setCell (p:=⟨w.heap.size,_,none⟩) (Nat.le_refl _) _).setCell (p:=⟨w.heap.size,_,none⟩) (Nat.le_refl _) _).setCell (p:=⟨w.heap.size,_,none⟩) (Nat.le_refl _) _).setCell (p:=⟨w.heap.size,_,none⟩) (Nat.le_refl _) _).setCell (p:=⟨w.heap.size,_,none⟩) (Nat.le_refl _) _).setCell (p:=⟨w.heap.size,_,none⟩) (Nat.le_refl _) _).setCell (p:=⟨w.heap.size,_,none⟩) (Nat.le_refl _) _),?_⟩
    rw [show(k+1)*8=k*8+1+1+1+1+1+1+1+1 from by omega]
    exact(((((((((HR2.out.fill_val (m:=k*8) (by omega) (by rw [e0])).fill_val (m:=k*8+1) (by omega) (by rw [e1])).fill_val (m:=k*8+2) (by omega) (by rw [e2])).fill_val (m:=k*8+3) (by omega) (by rw [e3])).fill_val (m:=k*8+4) (by omega) (by rw [e4])).fill_val (m:=k*8+5) (by omega) (by rw [e5])).fill_val (m:=k*8+6) (by omega) (by rw [e6])).fill_val (m:=k*8+7) (by omega) (by rw [e7]))).mono (fun b hb=>⟨hb.1,by have:=HB2.out.size;simp;omega⟩)
   case measure=>simp [intOf];omega
  ·clear hB hB1 hR1 h
   go_wp2
   go_ret
   obtain rfl:k=l.length:=by omega
   exact⟨rfl,HB.out,HR.out.toAll rfl⟩
theorem to_mails (x:Value) (l:List Ml) (w:World) (hl:l.length≤1048576) (h:IsD w x (ybh l)):
  Calls Tryz.prog 61 #[x] w fun e w'=>∃y,e= .returned y∧Below w.heap.size w w'∧OwnD w' (fun k=>w.heap.size≤k∧k<w'.heap.size) y (ybh l):=by
 refine(toMl_any x l w hl h.isMl).mono ?_
 rintro e w' ⟨rfl,hb,hr⟩
 exact⟨_,rfl,hb,hr⟩
theorem ydf {p:Prop} (h:p):Hid p:=h
theorem putN_7 (w:World) (g m:Nat) (v0 v1 v2 v3 v4 v5 v6:Value):putN w g m (fun i=> [v0,v1,v2,v3,v4,v5,v6].getD i (.int .i64 0)) 7=(((((((w.setCell ⟨g,m,none⟩ (v0)).setCell ⟨g,m+1,none⟩ (v1)).setCell ⟨g,m+2,none⟩ (v2)).setCell ⟨g,m+3,none⟩ (v3)).setCell ⟨g,m+4,none⟩ (v4)).setCell ⟨g,m+5,none⟩ (v5)).setCell ⟨g,m+6,none⟩ (v6)):=rfl
theorem yra (w:World) (g m:Nat) (v0 v1 v2 v3 v4 v5 v6:Value):Turns (fun k=>k=g) w (((((((w.setCell ⟨g,m,none⟩ (v0)).setCell ⟨g,m+1,none⟩ (v1)).setCell ⟨g,m+2,none⟩ (v2)).setCell ⟨g,m+3,none⟩ (v3)).setCell ⟨g,m+4,none⟩ (v4)).setCell ⟨g,m+5,none⟩ (v5)).setCell ⟨g,m+6,none⟩ (v6)):=putN_7 w g m v0 v1 v2 v3 v4 v5 v6▸yf1 w g m _ 7
theorem infoPart:(Tryz.prog.info? 97).map (fun i=>(i.zero,i.size,i.bytes))=some (some (.agg #[.int .i64 0,.slice none 0 0,.int .i64 0,.int .i64 0,.slice none 0 0,.slice none 0 0,.slice none 0 0]),7,120):=by kernel_rfl
set_option maxHeartbeats 8000000 in
theorem to_parts (x:Value) (l:List Pa) (w:World) (hl:(yb8 l).wt≤1048576) (h:IsD w x (yb8 l)):
  Calls Tryz.prog 60 #[x] w fun e w'=>∃y,e= .returned y∧Below w.heap.size w w'∧OwnD w' (fun k=>w.heap.size≤k∧k<w'.heap.size) y (yb8 l):=by
 obtain⟨a,cap,rfl,h1,h2,h⟩:=IsD.parts (c:=7) (n:=l.length) h
 have HS:=ydf hl
 have hl2:l.length≤1048576:=by rw [yed]at hl;omega
 have hp:(0:Int)≤(l.length:Int):=by omega
 clear hl
 obtain⟨i0,hi,hz0,hz1,hz2⟩:=info_parts infoPart
 go_enter Tryz.func60,Tryz.ntmps60
 go_wp2_with (at_make;refine wpList_make_full _ rfl _ _ 53 rfl w.heap.size 97 i0 _ 7 Tryz.underlying53 hi hz0 hz1 .i64 .i64 l.length l.length l.length rfl rfl rfl rfl (by rw [hz2];omega) (by unfold maxLen;omega) (Nat.le_refl _) ?_;intro w1 hown hgrow)
 have hB1:Hid (Below w.heap.size w w1):=(Below.refl _ _).grown hgrow (Nat.le_refl _) (fun k e=>by cases e)
 obtain⟨zs,hR0⟩:=OwnD.made0 (yab l) hown
 have hR1:=ydf hR0
 clear hown hgrow hi hz0 hz1 hz2 hR0
 go_loopw [4] (fun i wr=>∃k:Nat,k≤l.length∧i= .int .i64 k∧Below w.heap.size w wr∧OwnD wr (fun k=>w.heap.size≤k∧k<wr.heap.size) (sl w.heap.size l.length) (.row 7 l.length (toC (yab l) zs (k*7)))) (fun i _=>l.length-(intOf i).toNat)
 case atStart=>exact⟨0,Nat.zero_le _,rfl,hB1.out,hR1.out⟩
 case round=>
  obtain⟨k,hk,rfl,hB,hR⟩:=hrel
  have HB:=ydf hB
  have HR:=ydf hR
  clear hR
  by_cases hlt:k<l.length
  ·obtain⟨b,off,rfl,hb,hc⟩:=h.resolve_left (by omega)
   obtain⟨u1,u4,u5,u6,f0,f1,f2,f3,f4,f5,f6,d1,d4,d5,d6⟩:=yg0 (fun j hj=>by
    obtain⟨u,hu,hd⟩:=hc j hj
    exact⟨u,(hB.cell (p:=⟨b,off+j,none⟩) hb).trans hu,hd.under hB⟩) hlt
   have HD:Hid (IsPart wr (.agg #[.int .i64 (paAt l k).n,u1,.int .i64 (paAt l k).st.q,.int .i64 (paAt l k).st.d,u4,u5,u6]) (paAt l k)):=⟨u1,u4,u5,u6,rfl,d1,d4,d5,d6⟩
   have hg:w.heap.size<wr.heap.size:=(HR.out.lt (by omega)).1
   clear hB hB1 hR1 h hc d1 d4 d5 d6
   go_wp2_with fail
   clear f0 f1 f2 f3 f4 f5 f6
   refine(yqw _ (paAt l k) _ (Nat.le_trans (Pa.wt_le hlt) HS.out) HD.out).mono ?_
   rintro e w2 ⟨y,rfl,hb2,A1,A4,A5,A6,v1,v4,v5,v6,rfl,o1,o4,o5,o6,d1,d4,d5,d6⟩
   have HB2:=ydf hb2
   have HR2:=ydf (HR.out.under hb2)
   obtain⟨a1,c1,rfl,_⟩:=OwnD.parts (c:=1) (n:=(paAt l k).st.r.length) o1
   have O1:=ydf o1
   obtain⟨a4,c4,rfl,_⟩:=OwnD.parts (c:=12) (n:=(paAt l k).p.length) o4
   have O4:=ydf o4
   obtain⟨a5,c5,rfl,_⟩:=OwnD.parts (c:=7) (n:=(paAt l k).t.length) o5
   have O5:=ydf o5
   obtain⟨a6,c6,rfl,_⟩:=OwnD.parts (c:=1) (n:=(paAt l k).a.length) o6
   have O6:=ydf o6
   obtain⟨x0,_,g0,z0,_⟩:=HR2.out.step (j:=k*7) (by omega)
   obtain⟨x1,_,g1,z1,_⟩:=HR2.out.step (j:=k*7+1) (by omega)
   obtain⟨x2,_,g2,z2,_⟩:=HR2.out.step (j:=k*7+2) (by omega)
   obtain⟨x3,_,g3,z3,_⟩:=HR2.out.step (j:=k*7+3) (by omega)
   obtain⟨x4,_,g4,z4,_⟩:=HR2.out.step (j:=k*7+4) (by omega)
   obtain⟨x5,_,g5,z5,_⟩:=HR2.out.step (j:=k*7+5) (by omega)
   obtain⟨x6,_,g6,z6,_⟩:=HR2.out.step (j:=k*7+6) (by omega)
   have D1:=ydf d1
   have D4:=ydf d4
   have D5:=ydf d5
   have D6:=ydf d6
   clear hb2 o1 d1 o4 d4 o5 d5 o6 d6
   go_wp2
   go_roundw
   case rel=>
    have hG:∀i b,(fun i=>if i=1 then A1 else if i=4 then A4 else if i=5 then A5 else if i=6 then A6 else fun _=>False) i b→wr.heap.size≤b∧b<w2.heap.size:=by
     intro i b hb
     by_cases e:i=1∨i=4∨i=5∨i=6
     ·rcases e with rfl|rfl|rfl|rfl
      ·exact(D1.out b hb).1
      ·exact(D4.out b hb).1
      ·exact(D5.out b hb).1
      ·exact(D6.out b hb)
     ·simp only [not_or]at e
      simp [e]at hb
    have hGG:∀i j,i≠j→ ∀b,(fun i=>if i=1 then A1 else if i=4 then A4 else if i=5 then A5 else if i=6 then A6 else fun _=>False) i b→ ¬(fun i=>if i=1 then A1 else if i=4 then A4 else if i=5 then A5 else if i=6 then A6 else fun _=>False) j b:=by
     intro i j hij b hb hb'
     by_cases e:i=1∨i=4∨i=5∨i=6
     ·by_cases e':j=1∨j=4∨j=5∨j=6
      ·rcases e with rfl|rfl|rfl|rfl<;>rcases e' with rfl|rfl|rfl|rfl
       ·exact hij rfl
       ·exact(D1.out b hb).2.1 hb'
       ·exact(D1.out b hb).2.2.1 hb'
       ·exact(D1.out b hb).2.2.2 hb'
       ·exact(D1.out b hb').2.1 hb
       ·exact hij rfl
       ·exact(D4.out b hb).2.1 hb'
       ·exact(D4.out b hb).2.2 hb'
       ·exact(D1.out b hb').2.2.1 hb
       ·exact(D4.out b hb').2.1 hb
       ·exact hij rfl
       ·exact(D5.out b hb).2 hb'
       ·exact(D1.out b hb').2.2.2 hb
       ·exact(D4.out b hb').2.2 hb
       ·exact(D5.out b hb').2 hb
       ·exact hij rfl
      ·simp only [not_or]at e'
       simp [e']at hb'
     ·simp only [not_or]at e
      simp [e]at hb
    have q:=OwnD.fillN (G:=(fun i=>if i=1 then A1 else if i=4 then A4 else if i=5 then A5 else if i=6 then A6 else fun _=>False)) (U:=(fun i=> [.int .i64 (paAt l k).n,.slice a1 (paAt l k).st.r.length c1,.int .i64 (paAt l k).st.q,.int .i64 (paAt l k).st.d,.slice a4 (paAt l k).p.length c4,.slice a5 (paAt l k).t.length c5,.slice a6 (paAt l k).a.length c6].getD i (.int .i64 0))) HR2.out ⟨Nat.le_refl _,hg⟩ 7 (by omega) (fun i hi=>by
     have hat:yab l (k*7+i)=(paAt l k).cell i:=ydv l k (r:=i) hi
     match i,hi,hat with
     |0,_,hat=>rw [hat];exact OwnD.val _ _
     |1,_,hat=>rw [hat];exact O1.out
     |2,_,hat=>rw [hat];exact OwnD.val _ _
     |3,_,hat=>rw [hat];exact OwnD.val _ _
     |4,_,hat=>rw [hat];exact O4.out
     |5,_,hat=>rw [hat];exact O5.out
     |6,_,hat=>rw [hat];exact O6.out
     |_+7,h,_=>exact absurd h (by omega)) (fun i _ b hb hb'=>by have:=hG i b hb;omega) (fun i j _ _ hij b hb hb'=>hGG i j hij b hb hb')
    rw [putN_7]at q
    have hT:=yra w2 w.heap.size (k*7) (.int .i64 (paAt l k).n) (.slice a1 (paAt l k).st.r.length c1) (.int .i64 (paAt l k).st.q) (.int .i64 (paAt l k).st.d) (.slice a4 (paAt l k).p.length c4) (.slice a5 (paAt l k).t.length c5) (.slice a6 (paAt l k).a.length c6)
    have hsz:=hT.size
    refine⟨k+1,by omega,by go_num,(HB.out.trans (HB2.out.mono (by omega))).trans (hT.to_below (fun b e=>by omega) (by have:=HB2.out.size;omega)),?_⟩
    rw [show(k+1)*7=k*7+7 from by omega]
    refine q.mono (fun b hb=> ?_)
    have hs2:=HB2.out.size
    rcases hb with hb|⟨i,_,hb⟩
    ·exact⟨hb.1,Nat.lt_of_lt_of_le hb.2 (Nat.le_trans hs2 hsz)⟩
    ·have:=hG i b hb
     exact⟨by omega,Nat.lt_of_lt_of_le this.2 hsz⟩
   case measure=>simp [intOf];omega
  ·clear hB hB1 hR1 h
   go_wp2
   go_ret
   obtain rfl:k=l.length:=by omega
   exact⟨_,rfl,HB.out,HR.out.toAll rfl⟩
theorem ya7 {p:Prop} (h:p):Hid p:=h
def KernF (F:Nat→Prop) (w:World) (y:Value) (k:Kn):Prop:=∃(A0 A6 A7 A8 A12 A13:Nat→Prop) (vi vh vs u6 u7 u8 u12 u13:Value),y= .agg #[.int .i64 k.m.n,.int .i64 k.m.s,vi,vh,vs,.int .i64 k.m.z,u6,u7,u8,.int .i64 k.t,.int .i64 k.q,.bool k.f,u12,u13]∧MdF A0 w (.agg #[.int .i64 k.m.n,.int .i64 k.m.s,vi,vh,vs,.int .i64 k.m.z]) k.m∧OwnD w A6 u6 (yaq k.d)∧OwnD w A7 u7 (yb8 k.p)∧OwnD w A8 u8 (ybh k.b)∧OwnD w A12 u12 (evsD k.s)∧OwnD w A13 u13 (emsD k.x)∧(∀j,A0 j→F j∧ ¬A6 j∧ ¬A7 j∧ ¬A8 j∧ ¬A12 j∧ ¬A13 j)∧(∀j,A6 j→F j∧ ¬A7 j∧ ¬A8 j∧ ¬A12 j∧ ¬A13 j)∧(∀j,A7 j→F j∧ ¬A8 j∧ ¬A12 j∧ ¬A13 j)∧(∀j,A8 j→F j∧ ¬A12 j∧ ¬A13 j)∧(∀j,A12 j→F j∧ ¬A13 j)∧(∀j,A13 j→F j)
set_option maxRecDepth 100000 in
set_option maxHeartbeats 8000000 in
theorem ymg (x:Value) (k:Kn) (w:World) (hs:ybt k) (h:IsKern w x k):
  Calls Tryz.prog 20 #[x] w fun e w'=>∃y,e= .returned y∧Below w.heap.size w w'∧KernF (fun j=>w.heap.size≤j∧j<w'.heap.size) w' y k:=by
 obtain⟨vi,vh,vs,u6,u7,u8,u12,u13,rfl,hm,h6,h7,h8,h12,h13⟩:=h
 have HS:Hid (ybt k):=hs
 have HM:=ya7 hm
 have H6:=ya7 h6
 have H7:=ya7 h7
 have H8:=ya7 h8
 have H12:=ya7 h12
 have H13:=ya7 h13
 clear hs hm h6 h7 h8 h12 h13
 obtain⟨V0,hV0⟩:∃V0,((w.alloc (.cells #[.int .i64 k.m.n,.int .i64 k.m.s,vi,vh,vs,.int .i64 k.m.z,u6,u7,u8,.int .i64 k.t,.int .i64 k.q,.bool k.f,u12,u13] 50)).alloc (.cells #[.int .i64 0,.int .i64 0,.slice none 0 0,.slice none 0 0,.slice none 0 0,.int .i64 0,.slice none 0 0,.slice none 0 0,.slice none 0 0,.int .i64 0,.int .i64 0,.bool false,.slice none 0 0,.slice none 0 0] 57)).alloc (.cells #[.int .i64 0,.int .i64 0,.slice none 0 0,.slice none 0 0,.slice none 0 0,.int .i64 0,.slice none 0 0,.slice none 0 0,.slice none 0 0,.int .i64 0,.int .i64 0,.bool false,.slice none 0 0,.slice none 0 0] 57)=V0:=⟨_,rfl⟩
 have HX0:Hid (Below w.heap.size w V0):=by rw [←hV0];exact(((Below.refl _ w).alloc (Nat.le_refl _) _).alloc (by simp) _).alloc (by simp;omega) _
 have hs0:w.heap.size+3≤V0.heap.size:=by rw [←hV0];simp
 have HP0:Hid (Bk V0 w.heap.size 50 #[.int .i64 k.m.n,.int .i64 k.m.s,vi,vh,vs,.int .i64 k.m.z,u6,u7,u8,.int .i64 k.t,.int .i64 k.q,.bool k.f,u12,u13]):=by rw [←hV0];exact((Bk.new w _ _).alloc _).alloc _
 have HR0:Hid (Bk V0 (w.heap.size+1) 57 #[.int .i64 0,.int .i64 0,.slice none 0 0,.slice none 0 0,.slice none 0 0,.int .i64 0,.slice none 0 0,.slice none 0 0,.slice none 0 0,.int .i64 0,.int .i64 0,.bool false,.slice none 0 0,.slice none 0 0]):=by rw [←hV0];exact(Bk.newAt (by simp) _ _).alloc _
 have HQ0:Hid (Bk V0 (w.heap.size+1+1) 57 #[.int .i64 0,.int .i64 0,.slice none 0 0,.slice none 0 0,.slice none 0 0,.int .i64 0,.slice none 0 0,.slice none 0 0,.slice none 0 0,.int .i64 0,.int .i64 0,.bool false,.slice none 0 0,.slice none 0 0]):=by rw [←hV0];exact Bk.newAt (by simp) _ _
 have HW0:=ya7 hV0
 clear hV0
 go_enter Tryz.func20,Tryz.ntmps20
 obtain⟨p0,p1,p2,p3,p4,p5⟩:=yvl HP0.out
 go_wp2_with fail
 rw [HW0.out]
 clear p0 p1 p2 p3 p4 p5
 refine(yj6 _ k.m _ HS.out.1 (HM.out.below HX0.out)).mono ?_
 rintro e w1 ⟨y0,rfl,hb,ho0⟩
 obtain⟨ai,ci,ah,ch,ae,ce,rfl⟩:=MdF.form ho0
 have HO0:=ya7 ho0
 clear ho0
 have hz0:V0.heap.size≤w1.heap.size:=hb.size
 have HXb0:=ya7 (HX0.out.trans (hb.mono (by omega)))
 have HPb0:=ya7 (HP0.out.below hb)
 have HRb0:=ya7 (HR0.out.below hb)
 have HQb0:=ya7 (HQ0.out.below hb)
 clear hb
 obtain⟨qq0,qq1,qq2,qq3,qq4,qq5⟩:=yvl HQb0.out
 have qf0:=HQb0.out.free
 obtain⟨V1,hV1⟩:∃V1,((((((w1.setCell ⟨(w.heap.size+1+1),0,none⟩ (.int .i64 k.m.n)).setCell ⟨(w.heap.size+1+1),1,none⟩ (.int .i64 k.m.s)).setCell ⟨(w.heap.size+1+1),2,none⟩ (.slice ai k.m.i.length ci)).setCell ⟨(w.heap.size+1+1),3,none⟩ (.slice ah k.m.h.length ch)).setCell ⟨(w.heap.size+1+1),4,none⟩ (.slice ae k.m.e.length ce)).setCell ⟨(w.heap.size+1+1),5,none⟩ (.int .i64 k.m.z))=V1:=⟨_,rfl⟩
 have HQ1:Hid (Bk V1 (w.heap.size+1+1) 57 #[.int .i64 k.m.n,.int .i64 k.m.s,.slice ai k.m.i.length ci,.slice ah k.m.h.length ch,.slice ae k.m.e.length ce,.int .i64 k.m.z,.slice none 0 0,.slice none 0 0,.slice none 0 0,.int .i64 0,.int .i64 0,.bool false,.slice none 0 0,.slice none 0 0]):=by rw [←hV1];exact(((((HQb0.out.put 0 _).put 1 _).put 2 _).put 3 _).put 4 _).put 5 _
 have HP1:Hid (Bk V1 w.heap.size 50 #[.int .i64 k.m.n,.int .i64 k.m.s,vi,vh,vs,.int .i64 k.m.z,u6,u7,u8,.int .i64 k.t,.int .i64 k.q,.bool k.f,u12,u13]):=by rw [←hV1];exact((((((HPb0.out.other 0 _ (by omega)).other 1 _ (by omega)).other 2 _ (by omega)).other 3 _ (by omega)).other 4 _ (by omega)).other 5 _ (by omega))
 have HR1:Hid (Bk V1 (w.heap.size+1) 57 #[.int .i64 0,.int .i64 0,.slice none 0 0,.slice none 0 0,.slice none 0 0,.int .i64 0,.slice none 0 0,.slice none 0 0,.slice none 0 0,.int .i64 0,.int .i64 0,.bool false,.slice none 0 0,.slice none 0 0]):=by rw [←hV1];exact((((((HRb0.out.other 0 _ (by omega)).other 1 _ (by omega)).other 2 _ (by omega)).other 3 _ (by omega)).other 4 _ (by omega)).other 5 _ (by omega))
 have HT1:Hid (Turns (fun j=>j=(w.heap.size+1+1)) w1 V1):=by rw [←hV1];exact(((((ya1 _ _ 0 _).trans (ya1 _ _ 1 _)).trans (ya1 _ _ 2 _)).trans (ya1 _ _ 3 _)).trans (ya1 _ _ 4 _)).trans (ya1 _ _ 5 _)
 have hy1:w1.heap.size≤V1.heap.size:=HT1.out.size
 have HX1:=ya7 (HXb0.out.trans (HT1.out.to_below (fun j e=>by omega) (by omega)))
 replace HO0:=ya7 (HO0.out.turns HT1.out (fun j e=>by omega))
 clear HP0 HR0 HQ0 HX0 HPb0 HRb0 HQb0 HXb0
 have p6:=HP1.out.cell (i:=6) rfl
 go_wp2_with fail
 clear qq0 qq1 qq2 qq3 qq4 qq5 qf0 hV1 p6
 refine(ygy _ k.d _ (by have:=HS.out.2;unfold Kn.wt at this;simp only [yal,yb2,ycm,yci]at this;omega) (H6.out.under HX1.out)).mono ?_
 rintro e w2 ⟨y6,rfl,hb,ho6⟩
 obtain⟨a6,c6,rfl,_⟩:=OwnD.parts (c:=1) (n:=k.d.length) ho6
 have HO6:=ya7 ho6
 clear ho6
 have hz1:V1.heap.size≤w2.heap.size:=hb.size
 have HXb1:=ya7 (HX1.out.trans (hb.mono (by omega)))
 have HPb1:=ya7 (HP1.out.below hb)
 have HRb1:=ya7 (HR1.out.below hb)
 have HQb1:=ya7 (HQ1.out.below hb)
 replace HO0:=ya7 (HO0.out.below hb)
 clear hb
 have qq6:=HQb1.out.cell (i:=6) rfl
 have qf1:=HQb1.out.free
 obtain⟨V2,hV2⟩:∃V2,(w2.setCell ⟨(w.heap.size+1+1),6,none⟩ (.slice a6 k.d.length c6))=V2:=⟨_,rfl⟩
 have HQ2:Hid (Bk V2 (w.heap.size+1+1) 57 #[.int .i64 k.m.n,.int .i64 k.m.s,.slice ai k.m.i.length ci,.slice ah k.m.h.length ch,.slice ae k.m.e.length ce,.int .i64 k.m.z,.slice a6 k.d.length c6,.slice none 0 0,.slice none 0 0,.int .i64 0,.int .i64 0,.bool false,.slice none 0 0,.slice none 0 0]):=by rw [←hV2];exact HQb1.out.put 6 _
 have HP2:=ya7 (ot1 hV2 HPb1.out (by omega))
 have HR2:=ya7 (ot1 hV2 HRb1.out (by omega))
 have HT2:=ya7 (tu1 hV2)
 have hy2:w2.heap.size≤V2.heap.size:=HT2.out.size
 have HX2:=ya7 (HXb1.out.trans (HT2.out.to_below (fun j e=>by omega) (by omega)))
 replace HO0:=ya7 (HO0.out.turns HT2.out (fun j e=>by omega))
 replace HO6:=ya7 (HO6.out.turns HT2.out (fun j e=>by omega))
 clear HP1 HR1 HQ1 HX1 HPb1 HRb1 HQb1 HXb1
 have p7:=HP2.out.cell (i:=7) rfl
 go_wp2_with fail
 clear qq6 qf1 hV2 p7
 refine(to_parts _ k.p _ (by have:=HS.out.2;unfold Kn.wt at this;simp only [yal,yb2,ycm,yci]at this;omega) (H7.out.under HX2.out)).mono ?_
 rintro e w3 ⟨y7,rfl,hb,ho7⟩
 obtain⟨a7,c7,rfl,_⟩:=OwnD.parts (c:=7) (n:=k.p.length) ho7
 have HO7:=ya7 ho7
 clear ho7
 have hz2:V2.heap.size≤w3.heap.size:=hb.size
 have HXb2:=ya7 (HX2.out.trans (hb.mono (by omega)))
 have HPb2:=ya7 (HP2.out.below hb)
 have HRb2:=ya7 (HR2.out.below hb)
 have HQb2:=ya7 (HQ2.out.below hb)
 replace HO0:=ya7 (HO0.out.below hb)
 replace HO6:=ya7 (HO6.out.under hb)
 clear hb
 have qq7:=HQb2.out.cell (i:=7) rfl
 have qf2:=HQb2.out.free
 obtain⟨V3,hV3⟩:∃V3,(w3.setCell ⟨(w.heap.size+1+1),7,none⟩ (.slice a7 k.p.length c7))=V3:=⟨_,rfl⟩
 have HQ3:Hid (Bk V3 (w.heap.size+1+1) 57 #[.int .i64 k.m.n,.int .i64 k.m.s,.slice ai k.m.i.length ci,.slice ah k.m.h.length ch,.slice ae k.m.e.length ce,.int .i64 k.m.z,.slice a6 k.d.length c6,.slice a7 k.p.length c7,.slice none 0 0,.int .i64 0,.int .i64 0,.bool false,.slice none 0 0,.slice none 0 0]):=by rw [←hV3];exact HQb2.out.put 7 _
 have HP3:=ya7 (ot1 hV3 HPb2.out (by omega))
 have HR3:=ya7 (ot1 hV3 HRb2.out (by omega))
 have HT3:=ya7 (tu1 hV3)
 have hy3:w3.heap.size≤V3.heap.size:=HT3.out.size
 have HX3:=ya7 (HXb2.out.trans (HT3.out.to_below (fun j e=>by omega) (by omega)))
 replace HO0:=ya7 (HO0.out.turns HT3.out (fun j e=>by omega))
 replace HO6:=ya7 (HO6.out.turns HT3.out (fun j e=>by omega))
 replace HO7:=ya7 (HO7.out.turns HT3.out (fun j e=>by omega))
 clear HP2 HR2 HQ2 HX2 HPb2 HRb2 HQb2 HXb2
 have p8:=HP3.out.cell (i:=8) rfl
 go_wp2_with fail
 clear qq7 qf2 hV3 p8
 refine(to_mails _ k.b _ (by have:=HS.out.2;unfold Kn.wt at this;simp only [yal,yb2,ycm,yci]at this;omega) (H8.out.under HX3.out)).mono ?_
 rintro e w4 ⟨y8,rfl,hb,ho8⟩
 obtain⟨a8,c8,rfl,_⟩:=OwnD.parts (c:=8) (n:=k.b.length) ho8
 have HO8:=ya7 ho8
 clear ho8
 have hz3:V3.heap.size≤w4.heap.size:=hb.size
 have HXb3:=ya7 (HX3.out.trans (hb.mono (by omega)))
 have HPb3:=ya7 (HP3.out.below hb)
 have HRb3:=ya7 (HR3.out.below hb)
 have HQb3:=ya7 (HQ3.out.below hb)
 replace HO0:=ya7 (HO0.out.below hb)
 replace HO6:=ya7 (HO6.out.under hb)
 replace HO7:=ya7 (HO7.out.under hb)
 clear hb
 have qq8:=HQb3.out.cell (i:=8) rfl
 have qf3:=HQb3.out.free
 obtain⟨V4,hV4⟩:∃V4,(w4.setCell ⟨(w.heap.size+1+1),8,none⟩ (.slice a8 k.b.length c8))=V4:=⟨_,rfl⟩
 have HQ4:Hid (Bk V4 (w.heap.size+1+1) 57 #[.int .i64 k.m.n,.int .i64 k.m.s,.slice ai k.m.i.length ci,.slice ah k.m.h.length ch,.slice ae k.m.e.length ce,.int .i64 k.m.z,.slice a6 k.d.length c6,.slice a7 k.p.length c7,.slice a8 k.b.length c8,.int .i64 0,.int .i64 0,.bool false,.slice none 0 0,.slice none 0 0]):=by rw [←hV4];exact HQb3.out.put 8 _
 have HP4:=ya7 (ot1 hV4 HPb3.out (by omega))
 have HR4:=ya7 (ot1 hV4 HRb3.out (by omega))
 have HT4:=ya7 (tu1 hV4)
 have hy4:w4.heap.size≤V4.heap.size:=HT4.out.size
 have HX4:=ya7 (HXb3.out.trans (HT4.out.to_below (fun j e=>by omega) (by omega)))
 replace HO0:=ya7 (HO0.out.turns HT4.out (fun j e=>by omega))
 replace HO6:=ya7 (HO6.out.turns HT4.out (fun j e=>by omega))
 replace HO7:=ya7 (HO7.out.turns HT4.out (fun j e=>by omega))
 replace HO8:=ya7 (HO8.out.turns HT4.out (fun j e=>by omega))
 clear HP3 HR3 HQ3 HX3 HPb3 HRb3 HQb3 HXb3
 have pp9:=HP4.out.cell (i:=9) rfl
 have qq9:=HQ4.out.cell (i:=9) rfl
 have qf4:=HQ4.out.free
 obtain⟨V5,hV5⟩:∃V5,(V4.setCell ⟨(w.heap.size+1+1),9,none⟩ (.int .i64 k.t))=V5:=⟨_,rfl⟩
 have HQ5:Hid (Bk V5 (w.heap.size+1+1) 57 #[.int .i64 k.m.n,.int .i64 k.m.s,.slice ai k.m.i.length ci,.slice ah k.m.h.length ch,.slice ae k.m.e.length ce,.int .i64 k.m.z,.slice a6 k.d.length c6,.slice a7 k.p.length c7,.slice a8 k.b.length c8,.int .i64 k.t,.int .i64 0,.bool false,.slice none 0 0,.slice none 0 0]):=by rw [←hV5];exact HQ4.out.put 9 _
 have HP5:=ya7 (ot1 hV5 HP4.out (by omega))
 have HR5:=ya7 (ot1 hV5 HR4.out (by omega))
 have HT5:=ya7 (tu1 hV5)
 have hy5:V4.heap.size≤V5.heap.size:=HT5.out.size
 have HX5:=ya7 (HX4.out.trans (HT5.out.to_below (fun j e=>by omega) (by omega)))
 replace HO0:=ya7 (HO0.out.turns HT5.out (fun j e=>by omega))
 replace HO6:=ya7 (HO6.out.turns HT5.out (fun j e=>by omega))
 replace HO7:=ya7 (HO7.out.turns HT5.out (fun j e=>by omega))
 replace HO8:=ya7 (HO8.out.turns HT5.out (fun j e=>by omega))
 clear HP4 HR4 HQ4 HX4
 have pp10:=HP5.out.cell (i:=10) rfl
 have qq10:=HQ5.out.cell (i:=10) rfl
 have qf5:=HQ5.out.free
 obtain⟨V6,hV6⟩:∃V6,(V5.setCell ⟨(w.heap.size+1+1),10,none⟩ (.int .i64 k.q))=V6:=⟨_,rfl⟩
 have HQ6:Hid (Bk V6 (w.heap.size+1+1) 57 #[.int .i64 k.m.n,.int .i64 k.m.s,.slice ai k.m.i.length ci,.slice ah k.m.h.length ch,.slice ae k.m.e.length ce,.int .i64 k.m.z,.slice a6 k.d.length c6,.slice a7 k.p.length c7,.slice a8 k.b.length c8,.int .i64 k.t,.int .i64 k.q,.bool false,.slice none 0 0,.slice none 0 0]):=by rw [←hV6];exact HQ5.out.put 10 _
 have HP6:=ya7 (ot1 hV6 HP5.out (by omega))
 have HR6:=ya7 (ot1 hV6 HR5.out (by omega))
 have HT6:=ya7 (tu1 hV6)
 have hy6:V5.heap.size≤V6.heap.size:=HT6.out.size
 have HX6:=ya7 (HX5.out.trans (HT6.out.to_below (fun j e=>by omega) (by omega)))
 replace HO0:=ya7 (HO0.out.turns HT6.out (fun j e=>by omega))
 replace HO6:=ya7 (HO6.out.turns HT6.out (fun j e=>by omega))
 replace HO7:=ya7 (HO7.out.turns HT6.out (fun j e=>by omega))
 replace HO8:=ya7 (HO8.out.turns HT6.out (fun j e=>by omega))
 clear HP5 HR5 HQ5 HX5
 have pp11:=HP6.out.cell (i:=11) rfl
 have qq11:=HQ6.out.cell (i:=11) rfl
 have qf6:=HQ6.out.free
 obtain⟨V7,hV7⟩:∃V7,(V6.setCell ⟨(w.heap.size+1+1),11,none⟩ (.bool k.f))=V7:=⟨_,rfl⟩
 have HQ7:Hid (Bk V7 (w.heap.size+1+1) 57 #[.int .i64 k.m.n,.int .i64 k.m.s,.slice ai k.m.i.length ci,.slice ah k.m.h.length ch,.slice ae k.m.e.length ce,.int .i64 k.m.z,.slice a6 k.d.length c6,.slice a7 k.p.length c7,.slice a8 k.b.length c8,.int .i64 k.t,.int .i64 k.q,.bool k.f,.slice none 0 0,.slice none 0 0]):=by rw [←hV7];exact HQ6.out.put 11 _
 have HP7:=ya7 (ot1 hV7 HP6.out (by omega))
 have HR7:=ya7 (ot1 hV7 HR6.out (by omega))
 have HT7:=ya7 (tu1 hV7)
 have hy7:V6.heap.size≤V7.heap.size:=HT7.out.size
 have HX7:=ya7 (HX6.out.trans (HT7.out.to_below (fun j e=>by omega) (by omega)))
 replace HO0:=ya7 (HO0.out.turns HT7.out (fun j e=>by omega))
 replace HO6:=ya7 (HO6.out.turns HT7.out (fun j e=>by omega))
 replace HO7:=ya7 (HO7.out.turns HT7.out (fun j e=>by omega))
 replace HO8:=ya7 (HO8.out.turns HT7.out (fun j e=>by omega))
 clear HP6 HR6 HQ6 HX6
 have p12:=HP7.out.cell (i:=12) rfl
 go_wp2_with fail
 clear qq8 qf3 hV4 pp9 qq9 qf4 hV5 pp10 qq10 qf5 hV6 pp11 qq11 qf6 hV7 p12
 refine(ysx _ k.s _ (by have:=HS.out.2;unfold Kn.wt at this;simp only [yal,yb2,ycm,yci]at this;omega) (H12.out.under HX7.out)).mono ?_
 rintro e w8 ⟨y12,rfl,hb,ho12⟩
 obtain⟨a12,c12,rfl,_⟩:=OwnD.parts (c:=7) (n:=k.s.length) ho12
 have HO12:=ya7 ho12
 clear ho12
 have hz7:V7.heap.size≤w8.heap.size:=hb.size
 have HXb7:=ya7 (HX7.out.trans (hb.mono (by omega)))
 have HPb7:=ya7 (HP7.out.below hb)
 have HRb7:=ya7 (HR7.out.below hb)
 have HQb7:=ya7 (HQ7.out.below hb)
 replace HO0:=ya7 (HO0.out.below hb)
 replace HO6:=ya7 (HO6.out.under hb)
 replace HO7:=ya7 (HO7.out.under hb)
 replace HO8:=ya7 (HO8.out.under hb)
 clear hb
 have qq12:=HQb7.out.cell (i:=12) rfl
 have qf7:=HQb7.out.free
 obtain⟨V8,hV8⟩:∃V8,(w8.setCell ⟨(w.heap.size+1+1),12,none⟩ (.slice a12 k.s.length c12))=V8:=⟨_,rfl⟩
 have HQ8:Hid (Bk V8 (w.heap.size+1+1) 57 #[.int .i64 k.m.n,.int .i64 k.m.s,.slice ai k.m.i.length ci,.slice ah k.m.h.length ch,.slice ae k.m.e.length ce,.int .i64 k.m.z,.slice a6 k.d.length c6,.slice a7 k.p.length c7,.slice a8 k.b.length c8,.int .i64 k.t,.int .i64 k.q,.bool k.f,.slice a12 k.s.length c12,.slice none 0 0]):=by rw [←hV8];exact HQb7.out.put 12 _
 have HP8:=ya7 (ot1 hV8 HPb7.out (by omega))
 have HR8:=ya7 (ot1 hV8 HRb7.out (by omega))
 have HT8:=ya7 (tu1 hV8)
 have hy8:w8.heap.size≤V8.heap.size:=HT8.out.size
 have HX8:=ya7 (HXb7.out.trans (HT8.out.to_below (fun j e=>by omega) (by omega)))
 replace HO0:=ya7 (HO0.out.turns HT8.out (fun j e=>by omega))
 replace HO6:=ya7 (HO6.out.turns HT8.out (fun j e=>by omega))
 replace HO7:=ya7 (HO7.out.turns HT8.out (fun j e=>by omega))
 replace HO8:=ya7 (HO8.out.turns HT8.out (fun j e=>by omega))
 replace HO12:=ya7 (HO12.out.turns HT8.out (fun j e=>by omega))
 clear HP7 HR7 HQ7 HX7 HPb7 HRb7 HQb7 HXb7
 have p13:=HP8.out.cell (i:=13) rfl
 go_wp2_with fail
 clear qq12 qf7 hV8 p13
 refine(to_ems _ k.x _ (by have:=HS.out.2;unfold Kn.wt at this;simp only [yal,yb2,ycm,yci]at this;omega) (H13.out.under HX8.out)).mono ?_
 rintro e w9 ⟨y13,rfl,hb,ho13⟩
 obtain⟨a13,c13,rfl,_⟩:=OwnD.parts (c:=3) (n:=k.x.length) ho13
 have HO13:=ya7 ho13
 clear ho13
 have hz8:V8.heap.size≤w9.heap.size:=hb.size
 have HXb8:=ya7 (HX8.out.trans (hb.mono (by omega)))
 have HPb8:=ya7 (HP8.out.below hb)
 have HRb8:=ya7 (HR8.out.below hb)
 have HQb8:=ya7 (HQ8.out.below hb)
 replace HO0:=ya7 (HO0.out.below hb)
 replace HO6:=ya7 (HO6.out.under hb)
 replace HO7:=ya7 (HO7.out.under hb)
 replace HO8:=ya7 (HO8.out.under hb)
 replace HO12:=ya7 (HO12.out.under hb)
 clear hb
 have qq13:=HQb8.out.cell (i:=13) rfl
 have qf8:=HQb8.out.free
 obtain⟨V9,hV9⟩:∃V9,(w9.setCell ⟨(w.heap.size+1+1),13,none⟩ (.slice a13 k.x.length c13))=V9:=⟨_,rfl⟩
 have HQ9:Hid (Bk V9 (w.heap.size+1+1) 57 #[.int .i64 k.m.n,.int .i64 k.m.s,.slice ai k.m.i.length ci,.slice ah k.m.h.length ch,.slice ae k.m.e.length ce,.int .i64 k.m.z,.slice a6 k.d.length c6,.slice a7 k.p.length c7,.slice a8 k.b.length c8,.int .i64 k.t,.int .i64 k.q,.bool k.f,.slice a12 k.s.length c12,.slice a13 k.x.length c13]):=by rw [←hV9];exact HQb8.out.put 13 _
 have HP9:=ya7 (ot1 hV9 HPb8.out (by omega))
 have HR9:=ya7 (ot1 hV9 HRb8.out (by omega))
 have HT9:=ya7 (tu1 hV9)
 have hy9:w9.heap.size≤V9.heap.size:=HT9.out.size
 have HX9:=ya7 (HXb8.out.trans (HT9.out.to_below (fun j e=>by omega) (by omega)))
 replace HO0:=ya7 (HO0.out.turns HT9.out (fun j e=>by omega))
 replace HO6:=ya7 (HO6.out.turns HT9.out (fun j e=>by omega))
 replace HO7:=ya7 (HO7.out.turns HT9.out (fun j e=>by omega))
 replace HO8:=ya7 (HO8.out.turns HT9.out (fun j e=>by omega))
 replace HO12:=ya7 (HO12.out.turns HT9.out (fun j e=>by omega))
 replace HO13:=ya7 (HO13.out.turns HT9.out (fun j e=>by omega))
 clear HP8 HR8 HQ8 HX8 HPb8 HRb8 HQb8 HXb8
 have oo0:=HQ9.out.cell (i:=0) rfl
 have rr0:=HR9.out.cell (i:=0) rfl
 have oo1:=HQ9.out.cell (i:=1) rfl
 have rr1:=HR9.out.cell (i:=1) rfl
 have oo2:=HQ9.out.cell (i:=2) rfl
 have rr2:=HR9.out.cell (i:=2) rfl
 have oo3:=HQ9.out.cell (i:=3) rfl
 have rr3:=HR9.out.cell (i:=3) rfl
 have oo4:=HQ9.out.cell (i:=4) rfl
 have rr4:=HR9.out.cell (i:=4) rfl
 have oo5:=HQ9.out.cell (i:=5) rfl
 have rr5:=HR9.out.cell (i:=5) rfl
 have oo6:=HQ9.out.cell (i:=6) rfl
 have rr6:=HR9.out.cell (i:=6) rfl
 have oo7:=HQ9.out.cell (i:=7) rfl
 have rr7:=HR9.out.cell (i:=7) rfl
 have oo8:=HQ9.out.cell (i:=8) rfl
 have rr8:=HR9.out.cell (i:=8) rfl
 have oo9:=HQ9.out.cell (i:=9) rfl
 have rr9:=HR9.out.cell (i:=9) rfl
 have oo10:=HQ9.out.cell (i:=10) rfl
 have rr10:=HR9.out.cell (i:=10) rfl
 have oo11:=HQ9.out.cell (i:=11) rfl
 have rr11:=HR9.out.cell (i:=11) rfl
 have oo12:=HQ9.out.cell (i:=12) rfl
 have rr12:=HR9.out.cell (i:=12) rfl
 have oo13:=HQ9.out.cell (i:=13) rfl
 have rr13:=HR9.out.cell (i:=13) rfl
 have rf:=HR9.out.free
 go_wp2
 clear rf oo0 rr0 oo1 rr1 oo2 rr2 oo3 rr3 oo4 rr4 oo5 rr5 oo6 rr6 oo7 rr7 oo8 rr8 oo9 rr9 oo10 rr10 oo11 rr11 oo12 rr12 oo13 rr13 qq13 qf8 hV9
 have HY0:=HR9.out
 have HU0:Turns (fun j=>j=(w.heap.size+1)) V9 V9:=Turns.refl _ _
 obtain⟨Y1,hY1⟩:∃Y1,V9.setCell ⟨(w.heap.size+1),0,none⟩ (.int .i64 k.m.n)=Y1:=⟨_,rfl⟩
 have HY1:Bk Y1 (w.heap.size+1) 57 #[.int .i64 k.m.n,.int .i64 0,.slice none 0 0,.slice none 0 0,.slice none 0 0,.int .i64 0,.slice none 0 0,.slice none 0 0,.slice none 0 0,.int .i64 0,.int .i64 0,.bool false,.slice none 0 0,.slice none 0 0]:=hY1▸HY0.put 0 _
 have HU1:Turns (fun j=>j=(w.heap.size+1)) V9 Y1:=HU0.trans (hY1▸ya1 _ _ 0 _)
 clear HY0 HU0
 obtain⟨Y2,hY2⟩:∃Y2,Y1.setCell ⟨(w.heap.size+1),1,none⟩ (.int .i64 k.m.s)=Y2:=⟨_,rfl⟩
 have HY2:Bk Y2 (w.heap.size+1) 57 #[.int .i64 k.m.n,.int .i64 k.m.s,.slice none 0 0,.slice none 0 0,.slice none 0 0,.int .i64 0,.slice none 0 0,.slice none 0 0,.slice none 0 0,.int .i64 0,.int .i64 0,.bool false,.slice none 0 0,.slice none 0 0]:=hY2▸HY1.put 1 _
 have HU2:Turns (fun j=>j=(w.heap.size+1)) V9 Y2:=HU1.trans (hY2▸ya1 _ _ 1 _)
 clear HY1 HU1
 obtain⟨Y3,hY3⟩:∃Y3,Y2.setCell ⟨(w.heap.size+1),2,none⟩ (.slice ai k.m.i.length ci)=Y3:=⟨_,rfl⟩
 have HY3:Bk Y3 (w.heap.size+1) 57 #[.int .i64 k.m.n,.int .i64 k.m.s,.slice ai k.m.i.length ci,.slice none 0 0,.slice none 0 0,.int .i64 0,.slice none 0 0,.slice none 0 0,.slice none 0 0,.int .i64 0,.int .i64 0,.bool false,.slice none 0 0,.slice none 0 0]:=hY3▸HY2.put 2 _
 have HU3:Turns (fun j=>j=(w.heap.size+1)) V9 Y3:=HU2.trans (hY3▸ya1 _ _ 2 _)
 clear HY2 HU2
 obtain⟨Y4,hY4⟩:∃Y4,Y3.setCell ⟨(w.heap.size+1),3,none⟩ (.slice ah k.m.h.length ch)=Y4:=⟨_,rfl⟩
 have HY4:Bk Y4 (w.heap.size+1) 57 #[.int .i64 k.m.n,.int .i64 k.m.s,.slice ai k.m.i.length ci,.slice ah k.m.h.length ch,.slice none 0 0,.int .i64 0,.slice none 0 0,.slice none 0 0,.slice none 0 0,.int .i64 0,.int .i64 0,.bool false,.slice none 0 0,.slice none 0 0]:=hY4▸HY3.put 3 _
 have HU4:Turns (fun j=>j=(w.heap.size+1)) V9 Y4:=HU3.trans (hY4▸ya1 _ _ 3 _)
 clear HY3 HU3
 obtain⟨Y5,hY5⟩:∃Y5,Y4.setCell ⟨(w.heap.size+1),4,none⟩ (.slice ae k.m.e.length ce)=Y5:=⟨_,rfl⟩
 have HY5:Bk Y5 (w.heap.size+1) 57 #[.int .i64 k.m.n,.int .i64 k.m.s,.slice ai k.m.i.length ci,.slice ah k.m.h.length ch,.slice ae k.m.e.length ce,.int .i64 0,.slice none 0 0,.slice none 0 0,.slice none 0 0,.int .i64 0,.int .i64 0,.bool false,.slice none 0 0,.slice none 0 0]:=hY5▸HY4.put 4 _
 have HU5:Turns (fun j=>j=(w.heap.size+1)) V9 Y5:=HU4.trans (hY5▸ya1 _ _ 4 _)
 clear HY4 HU4
 obtain⟨Y6,hY6⟩:∃Y6,Y5.setCell ⟨(w.heap.size+1),5,none⟩ (.int .i64 k.m.z)=Y6:=⟨_,rfl⟩
 have HY6:Bk Y6 (w.heap.size+1) 57 #[.int .i64 k.m.n,.int .i64 k.m.s,.slice ai k.m.i.length ci,.slice ah k.m.h.length ch,.slice ae k.m.e.length ce,.int .i64 k.m.z,.slice none 0 0,.slice none 0 0,.slice none 0 0,.int .i64 0,.int .i64 0,.bool false,.slice none 0 0,.slice none 0 0]:=hY6▸HY5.put 5 _
 have HU6:Turns (fun j=>j=(w.heap.size+1)) V9 Y6:=HU5.trans (hY6▸ya1 _ _ 5 _)
 clear HY5 HU5
 obtain⟨Y7,hY7⟩:∃Y7,Y6.setCell ⟨(w.heap.size+1),6,none⟩ (.slice a6 k.d.length c6)=Y7:=⟨_,rfl⟩
 have HY7:Bk Y7 (w.heap.size+1) 57 #[.int .i64 k.m.n,.int .i64 k.m.s,.slice ai k.m.i.length ci,.slice ah k.m.h.length ch,.slice ae k.m.e.length ce,.int .i64 k.m.z,.slice a6 k.d.length c6,.slice none 0 0,.slice none 0 0,.int .i64 0,.int .i64 0,.bool false,.slice none 0 0,.slice none 0 0]:=hY7▸HY6.put 6 _
 have HU7:Turns (fun j=>j=(w.heap.size+1)) V9 Y7:=HU6.trans (hY7▸ya1 _ _ 6 _)
 clear HY6 HU6
 obtain⟨Y8,hY8⟩:∃Y8,Y7.setCell ⟨(w.heap.size+1),7,none⟩ (.slice a7 k.p.length c7)=Y8:=⟨_,rfl⟩
 have HY8:Bk Y8 (w.heap.size+1) 57 #[.int .i64 k.m.n,.int .i64 k.m.s,.slice ai k.m.i.length ci,.slice ah k.m.h.length ch,.slice ae k.m.e.length ce,.int .i64 k.m.z,.slice a6 k.d.length c6,.slice a7 k.p.length c7,.slice none 0 0,.int .i64 0,.int .i64 0,.bool false,.slice none 0 0,.slice none 0 0]:=hY8▸HY7.put 7 _
 have HU8:Turns (fun j=>j=(w.heap.size+1)) V9 Y8:=HU7.trans (hY8▸ya1 _ _ 7 _)
 clear HY7 HU7
 obtain⟨Y9,hY9⟩:∃Y9,Y8.setCell ⟨(w.heap.size+1),8,none⟩ (.slice a8 k.b.length c8)=Y9:=⟨_,rfl⟩
 have HY9:Bk Y9 (w.heap.size+1) 57 #[.int .i64 k.m.n,.int .i64 k.m.s,.slice ai k.m.i.length ci,.slice ah k.m.h.length ch,.slice ae k.m.e.length ce,.int .i64 k.m.z,.slice a6 k.d.length c6,.slice a7 k.p.length c7,.slice a8 k.b.length c8,.int .i64 0,.int .i64 0,.bool false,.slice none 0 0,.slice none 0 0]:=hY9▸HY8.put 8 _
 have HU9:Turns (fun j=>j=(w.heap.size+1)) V9 Y9:=HU8.trans (hY9▸ya1 _ _ 8 _)
 clear HY8 HU8
 obtain⟨Y10,hY10⟩:∃Y10,Y9.setCell ⟨(w.heap.size+1),9,none⟩ (.int .i64 k.t)=Y10:=⟨_,rfl⟩
 have HY10:Bk Y10 (w.heap.size+1) 57 #[.int .i64 k.m.n,.int .i64 k.m.s,.slice ai k.m.i.length ci,.slice ah k.m.h.length ch,.slice ae k.m.e.length ce,.int .i64 k.m.z,.slice a6 k.d.length c6,.slice a7 k.p.length c7,.slice a8 k.b.length c8,.int .i64 k.t,.int .i64 0,.bool false,.slice none 0 0,.slice none 0 0]:=hY10▸HY9.put 9 _
 have HU10:Turns (fun j=>j=(w.heap.size+1)) V9 Y10:=HU9.trans (hY10▸ya1 _ _ 9 _)
 clear HY9 HU9
 obtain⟨Y11,hY11⟩:∃Y11,Y10.setCell ⟨(w.heap.size+1),10,none⟩ (.int .i64 k.q)=Y11:=⟨_,rfl⟩
 have HY11:Bk Y11 (w.heap.size+1) 57 #[.int .i64 k.m.n,.int .i64 k.m.s,.slice ai k.m.i.length ci,.slice ah k.m.h.length ch,.slice ae k.m.e.length ce,.int .i64 k.m.z,.slice a6 k.d.length c6,.slice a7 k.p.length c7,.slice a8 k.b.length c8,.int .i64 k.t,.int .i64 k.q,.bool false,.slice none 0 0,.slice none 0 0]:=hY11▸HY10.put 10 _
 have HU11:Turns (fun j=>j=(w.heap.size+1)) V9 Y11:=HU10.trans (hY11▸ya1 _ _ 10 _)
 clear HY10 HU10
 obtain⟨Y12,hY12⟩:∃Y12,Y11.setCell ⟨(w.heap.size+1),11,none⟩ (.bool k.f)=Y12:=⟨_,rfl⟩
 have HY12:Bk Y12 (w.heap.size+1) 57 #[.int .i64 k.m.n,.int .i64 k.m.s,.slice ai k.m.i.length ci,.slice ah k.m.h.length ch,.slice ae k.m.e.length ce,.int .i64 k.m.z,.slice a6 k.d.length c6,.slice a7 k.p.length c7,.slice a8 k.b.length c8,.int .i64 k.t,.int .i64 k.q,.bool k.f,.slice none 0 0,.slice none 0 0]:=hY12▸HY11.put 11 _
 have HU12:Turns (fun j=>j=(w.heap.size+1)) V9 Y12:=HU11.trans (hY12▸ya1 _ _ 11 _)
 clear HY11 HU11
 obtain⟨Y13,hY13⟩:∃Y13,Y12.setCell ⟨(w.heap.size+1),12,none⟩ (.slice a12 k.s.length c12)=Y13:=⟨_,rfl⟩
 have HY13:Bk Y13 (w.heap.size+1) 57 #[.int .i64 k.m.n,.int .i64 k.m.s,.slice ai k.m.i.length ci,.slice ah k.m.h.length ch,.slice ae k.m.e.length ce,.int .i64 k.m.z,.slice a6 k.d.length c6,.slice a7 k.p.length c7,.slice a8 k.b.length c8,.int .i64 k.t,.int .i64 k.q,.bool k.f,.slice a12 k.s.length c12,.slice none 0 0]:=hY13▸HY12.put 12 _
 have HU13:Turns (fun j=>j=(w.heap.size+1)) V9 Y13:=HU12.trans (hY13▸ya1 _ _ 12 _)
 clear HY12 HU12
 obtain⟨Y14,hY14⟩:∃Y14,Y13.setCell ⟨(w.heap.size+1),13,none⟩ (.slice a13 k.x.length c13)=Y14:=⟨_,rfl⟩
 have HY14:Bk Y14 (w.heap.size+1) 57 #[.int .i64 k.m.n,.int .i64 k.m.s,.slice ai k.m.i.length ci,.slice ah k.m.h.length ch,.slice ae k.m.e.length ce,.int .i64 k.m.z,.slice a6 k.d.length c6,.slice a7 k.p.length c7,.slice a8 k.b.length c8,.int .i64 k.t,.int .i64 k.q,.bool k.f,.slice a12 k.s.length c12,.slice a13 k.x.length c13]:=hY14▸HY13.put 13 _
 have HU14:Turns (fun j=>j=(w.heap.size+1)) V9 Y14:=HU13.trans (hY14▸ya1 _ _ 13 _)
 clear HY13 HU13
 rw [hY1,hY2,hY3,hY4,hY5,hY6,hY7,hY8,hY9,hY10,hY11,hY12,hY13,hY14]
 have hR:=HY14
 have hT:=HU14
 obtain⟨t0,t1,t2,t3,t4,t5,t6,t7,t8,t9,t10,t11,t12,t13⟩:=ydx hR
 have hsz:=hT.size
 refine bodyPost_ret (v:= .agg #[.int .i64 k.m.n,.int .i64 k.m.s,.slice ai k.m.i.length ci,.slice ah k.m.h.length ch,.slice ae k.m.e.length ce,.int .i64 k.m.z,.slice a6 k.d.length c6,.slice a7 k.p.length c7,.slice a8 k.b.length c8,.int .i64 k.t,.int .i64 k.q,.bool k.f,.slice a12 k.s.length c12,.slice a13 k.x.length c13]) (by simp [results,Tryz.results20,go_sem,t0,t1,t2,t3,t4,t5,t6,t7,t8,t9,t10,t11,t12,t13]) rfl ⟨_,rfl,HX9.out.trans (hT.to_below (fun j e=>by omega) (by omega)),_,_,_,_,_,_,_,_,_,_,_,_,_,_,rfl,HO0.out.turns hT (fun j e=>by omega),HO6.out.turns hT (fun j e=>by omega),HO7.out.turns hT (fun j e=>by omega),HO8.out.turns hT (fun j e=>by omega),HO12.out.turns hT (fun j e=>by omega),HO13.out.turns hT (fun j e=>by omega),fun j e=>⟨⟨by omega,by omega⟩,fun e2=>by omega,fun e2=>by omega,fun e2=>by omega,fun e2=>by omega,fun e2=>by omega⟩,fun j e=>⟨⟨by omega,by omega⟩,fun e2=>by omega,fun e2=>by omega,fun e2=>by omega,fun e2=>by omega⟩,fun j e=>⟨⟨by omega,by omega⟩,fun e2=>by omega,fun e2=>by omega,fun e2=>by omega⟩,fun j e=>⟨⟨by omega,by omega⟩,fun e2=>by omega,fun e2=>by omega⟩,fun j e=>⟨⟨by omega,by omega⟩,fun e2=>by omega⟩,fun j e=>⟨by omega,by omega⟩⟩
end Go.Proofs.YtmobiieoecjmdaaGreat

