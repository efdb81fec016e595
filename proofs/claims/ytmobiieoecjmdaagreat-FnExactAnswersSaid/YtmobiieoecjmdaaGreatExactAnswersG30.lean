/- KIl, WRk -/
import Derived.Test.YtmobiieoecjmdaaGreatExactAnswersG29
namespace Go.Proofs.YtmobiieoecjmdaaGreat
open Go.RowKit
theorem ycl {p:Prop} (h:p):Hid p:=h
theorem ysg (l:List Ev) (c:Bool) (hc:c=true↔ynz l) (x:Value) (w:World) (hl:l.length≤1048576) (hp:0<w.heap.size) (hwf:∀i,i<l.length→wfI (evAt l i).g) (hI:IsEvs w x l):
  Calls Tryz.prog 115 #[x] w fun e w'=>e= .returned (.bool c)∧Below w.heap.size w w':=by
 obtain⟨a,cap,b,rfl,hb,hI⟩:=hI.parts hp
 refine(ygt a cap b l w hl hI hb hwf).mono ?_
 rintro e w' ⟨⟨d,rfl,hd⟩,hw⟩
 refine⟨?_,hw⟩
 have hd':d=true↔ynz l:=hd
 cases c<;>cases d
 ·rfl
 ·exact absurd (hc.2 (hd'.1 rfl)) (by simp)
 ·exact absurd (hd'.2 (hc.1 rfl)) (by simp)
 ·rfl
theorem ok_wf {e:Ev} (h:e.ok=true):wfI e.g:=yu3 h
theorem allK_ok {k:Kn} (hp:ycv k=true) (hb:yk4 k=true) {e:Ev} (h:e∈allK k):e.ok=true:=by
 have P2:=fun i hi=>partI_iff.1 ((partsKB_iff.1 hp).2 i hi)
 rcases all_in h with ⟨i,hi,h1⟩|⟨i,hi,_,rfl⟩
 ·rcases in_all.1 h1 with ⟨j,hj,rfl⟩|⟨j,hj,rfl⟩
  ·exact yom (P2 i hi).2.1 j hj
  ·exact ydo (knL_iff.1 (P2 i hi).2.2.1 j hj).1
 ·exact ydo (bagKB_iff.1 hb i hi).1
theorem yv0 {k:Kn} (hp:ycv k=true) (hb:yk4 k=true):∀e,e∈gvtL k→e.ok=true:=fun _ he=>
 yoz (fun i hi j hj=>ydo (knL_iff.1 (partI_iff.1 ((partsKB_iff.1 hp).2 i hi)).2.2.1 j hj).1) (fun i hi=>ydo (bagKB_iff.1 hb i hi).1) he
noncomputable def yqa (l : List Ev) : Bool := @decide (ynz l) (Classical.propDecidable _)
theorem diffEB_iff {l:List Ev}:yqa l=true↔ynz l:=by unfold yqa;simp
def ysz (t:Int):Bool:=decide (6≤t)&&decide (t≤99992)
theorem tagIn_iff {t:Int}:ysz t=true↔6≤t∧t≤99992:=by unfold ysz;simp
def yvr (t:Int):Bool:=decide (-1≤t)&&decide (t≤3)
theorem askIn_iff {t:Int}:yvr t=true↔ -1≤t∧t≤3:=by unfold yvr;simp
theorem yqn (x:Int) (w:World):Calls Tryz.prog 112 #[.int .i64 x,.int .i64 6,.int .i64 99992] w fun e w'=>e= .returned (.bool (ysz x))∧Below w.heap.size w w':=(yad x 6 99992 w).mono fun e w' h=>⟨h.1,by rw [h.2];exact Below.refl _ _⟩
theorem yqo (x:Int) (w:World):Calls Tryz.prog 112 #[.int .i64 x,.int .i64 (-1),.int .i64 3] w fun e w'=>e= .returned (.bool (yvr x))∧Below w.heap.size w w':=(yad x (-1) 3 w).mono fun e w' h=>⟨h.1,by rw [h.2];exact Below.refl _ _⟩
set_option maxRecDepth 100000 in
set_option maxHeartbeats 32000000 in
theorem ynb (x:Value) (k:Kn) (w:World) (hs:ybt k) (h:IsKern w x k):
  Calls Tryz.prog 64 #[x] w fun e w'=>e= .returned (.bool k.ok)∧Below w.heap.size w w':=by
 have HSK:Hid (ybt k):=hs
 have hall:=yql hs.2
 obtain⟨HSM0,hsk⟩:=hs
 have HSM:Hid (SmallM k.m):=HSM0
 obtain⟨hdl,hpl,hbl,hsl,hxl⟩:=yda hsk
 have HWP:=ycl (yd0 hsk)
 clear hsk HSM0
 obtain⟨ai,ci,ah,ch,ae,ce,ad,cd,ap,cp,ab,cb,au,cu,ax,cx,rfl,hm,hd,hp,hbg,hsu,hx⟩:=h.form
 have HM:=ycl hm
 have HD:=ycl hd
 have HPP:=ycl hp
 have HBG:=ycl hbg.rows
 have HSU:=ycl hsu.rows
 have HXX:=ycl hx.rows
 have HSUI:=ycl hsu
 have HXXI:=ycl hx
 have HK:=ycl h
 clear hm hd hp hbg hsu hx h
 obtain⟨W0,hW0⟩:=yet HK.out 57
 have HB0:Hid (Below w.heap.size w W0):=by rw [←hW0];exact(Below.refl _ w).alloc (Nat.le_refl _) _
 have HP0:Hid (Bk W0 w.heap.size 57 #[.int .i64 k.m.n,.int .i64 k.m.s,.slice ai k.m.i.length ci,.slice ah k.m.h.length ch,.slice ae k.m.e.length ce,.int .i64 k.m.z,.slice ad k.d.length cd,.slice ap k.p.length cp,.slice ab k.b.length cb,.int .i64 k.t,.int .i64 k.q,.bool k.f,.slice au k.s.length cu,.slice ax k.x.length cx]):=by rw [←hW0];exact Bk.new w _ _
 have HW:=ycl hW0
 have hs0:w.heap.size<W0.heap.size:=HP0.out.lt
 clear HPP HBG HSU HXX HSUI HWP hW0
 have hw:=HW.out
 have q8:=HP0.out.cell (i:=8) rfl
 have q12:=HP0.out.cell (i:=12) rfl
 have q13:=HP0.out.cell (i:=13) rfl
 by_cases c1:k.b.length≤2000
 case neg=>
  have c1':(2000:Int)<(k.b.length:Int):=by omega
  have HN:Hid (k.ok=false):=yac (fun h=>c1 (kern_iff.1 h).1.1)
  clear c1
  go_enter Tryz.func64,Tryz.ntmps64
  go_wp2
  go_ret
  exact⟨ya0 HN.out.symm,HB0.out⟩
 have c1':¬(2000:Int)<(k.b.length:Int):=by omega
 by_cases c2:k.s.length≤2000
 case neg=>
  have c2':(2000:Int)<(k.s.length:Int):=by omega
  have HN:Hid (k.ok=false):=yac (fun h=>c2 (kern_iff.1 h).1.2.1)
  clear c2
  go_enter Tryz.func64,Tryz.ntmps64
  go_wp2
  go_ret
  exact⟨ya0 HN.out.symm,HB0.out⟩
 have c2':¬(2000:Int)<(k.s.length:Int):=by omega
 by_cases c3:k.x.length≤16000
 case neg=>
  have c3':(16000:Int)<(k.x.length:Int):=by omega
  have HN:Hid (k.ok=false):=yac (fun h=>c3 (kern_iff.1 h).1.2.2)
  clear c3
  go_enter Tryz.func64,Tryz.ntmps64
  go_wp2
  go_ret
  exact⟨ya0 HN.out.symm,HB0.out⟩
 have c3':¬(16000:Int)<(k.x.length:Int):=by omega
 have HC:Hid (k.b.length≤2000∧k.s.length≤2000∧k.x.length≤16000):=⟨c1,c2,c3⟩
 obtain⟨m0,m1,m2,m3,m4,m5⟩:=yvl HP0.out
 go_enter Tryz.func64,Tryz.ntmps64
 go_wp2_with fail
 clear hw q8 q12 q13 c1 c1' c2 c2' c3 c3' m0 m1 m2 m3 m4 m5
 refine(iModM _ k.m _ HSM.out (HM.out.below HB0.out)).mono ?_
 rintro e w1 ⟨rfl,hb9⟩
 have HB1:=trh HB0 hb9
 have HP1:=ycl (HP0.out.below hb9)
 clear hb9
 cases hbb:k.m.ok
 case false=>
  have HN:Hid (k.ok=false):=yac (fun h=>by have h1:=(kern_iff.1 h).2.1;rw [hbb]at h1;cases h1)
  clear hbb
  go_wp2
  go_ret
  exact⟨ya0 HN.out.symm,HB1.out⟩
 have T1:Hid (k.m.ok=true):=hbb
 clear hbb
 have m6:=HP1.out.cell (i:=6) rfl
 go_wp2_with fail
 clear m6
 refine(iVok_any _ k.d _ (by omega) (HD.out.below HB1.out)).mono ?_
 rintro e w2 ⟨rfl,hb9⟩
 have HB2:=trh HB1 hb9
 have HP2:=ycl (HP1.out.below hb9)
 clear hb9
 cases hbb:vok k.d
 case false=>
  have HN:Hid (k.ok=false):=yac (fun h=>by have h1:=(kern_iff.1 h).2.2.1;rw [hbb]at h1;cases h1)
  clear hbb
  go_wp2
  go_ret
  exact⟨ya0 HN.out.symm,HB2.out⟩
 have T2:Hid (vok k.d=true):=hbb
 clear hbb
 have m9:=HP2.out.cell (i:=9) rfl
 go_wp2_with fail
 clear m9
 refine(yqn k.t _).mono ?_
 rintro e w3 ⟨rfl,hb9⟩
 have HB3:=trh HB2 hb9
 have HP3:=ycl (HP2.out.below hb9)
 clear hb9
 cases hbb:ysz k.t
 case false=>
  have HN:Hid (k.ok=false):=yac (fun h=>by have h1:=tagIn_iff.2 (kern_iff.1 h).2.2.2.1;rw [hbb]at h1;cases h1)
  clear hbb
  go_wp2
  go_ret
  exact⟨ya0 HN.out.symm,HB3.out⟩
 have T3:Hid (ysz k.t=true):=hbb
 clear hbb
 have m10:=HP3.out.cell (i:=10) rfl
 go_wp2_with fail
 clear m10
 refine(yqo k.q _).mono ?_
 rintro e w4 ⟨rfl,hb9⟩
 have HB4:=trh HB3 hb9
 have HP4:=ycl (HP3.out.below hb9)
 clear hb9
 cases hbb:yvr k.q
 case false=>
  have HN:Hid (k.ok=false):=yac (fun h=>by have h1:=askIn_iff.2 (kern_iff.1 h).2.2.2.2.1;rw [hbb]at h1;cases h1)
  clear hbb
  go_wp2
  go_ret
  exact⟨ya0 HN.out.symm,HB4.out⟩
 have T4:Hid (yvr k.q=true):=hbb
 clear hbb
 obtain⟨m0,m1,m2,m3,m4,m5,m6,m7,m8,m9,m10,m11,m12,m13⟩:=ydx HP4.out
 go_wp2_with fail
 clear m0 m1 m2 m3 m4 m5 m6 m7 m8 m9 m10 m11 m12 m13
 refine(iPartsOk _ k _ HSK.out (HK.out.under HB4.out)).mono ?_
 rintro e w5 ⟨rfl,hb9⟩
 have HB5:=trh HB4 hb9
 have HP5:=ycl (HP4.out.below hb9)
 clear hb9
 cases hbb:ycv k
 case false=>
  have HN:Hid (k.ok=false):=yac (fun h=>by have h1:=(kern_iff.1 h).2.2.2.2.2.1;rw [hbb]at h1;cases h1)
  clear hbb
  go_wp2
  go_ret
  exact⟨ya0 HN.out.symm,HB5.out⟩
 have T5:Hid (ycv k=true):=hbb
 clear hbb
 obtain⟨m0,m1,m2,m3,m4,m5,m6,m7,m8,m9,m10,m11,m12,m13⟩:=ydx HP5.out
 go_wp2_with fail
 clear m0 m1 m2 m3 m4 m5 m6 m7 m8 m9 m10 m11 m12 m13
 refine(iBagOk _ k _ HSK.out (HK.out.under HB5.out)).mono ?_
 rintro e w6 ⟨rfl,hb9⟩
 have HB6:=trh HB5 hb9
 have HP6:=ycl (HP5.out.below hb9)
 clear hb9
 cases hbb:yk4 k
 case false=>
  have HN:Hid (k.ok=false):=yac (fun h=>by have h1:=(kern_iff.1 h).2.2.2.2.2.2.1;rw [hbb]at h1;cases h1)
  clear hbb
  go_wp2
  go_ret
  exact⟨ya0 HN.out.symm,HB6.out⟩
 have T6:Hid (yk4 k=true):=hbb
 clear hbb
 obtain⟨m0,m1,m2,m3,m4,m5,m6,m7,m8,m9,m10,m11,m12,m13⟩:=ydx HP6.out
 go_wp2_with fail
 clear m0 m1 m2 m3 m4 m5 m6 m7 m8 m9 m10 m11 m12 m13
 have HAO:Hid (∀e,e∈allK k→e.ok=true):=fun e he=>allK_ok T5.out T6.out he
 have HGO:=ycl (yv0 T5.out T6.out)
 have hlk:(allK k).length≤1048576:=by unfold allK;rw [List.length_append];omega
 refine(yup _ k _ HSK.out (HK.out.under HB6.out)).mono ?_
 rintro e w8 ⟨y,rfl,ho,hb9⟩
 have HB8:=trh HB6 hb9
 have HP8:=ycl (HP6.out.below hb9)
 have HY8:=ycl ho.evs
 have h08:0<w8.heap.size:=Nat.lt_of_le_of_lt (Nat.zero_le _) HP8.out.lt
 clear hb9 ho
 go_wp2_with fail
 refine(ysg (allK k) (yqa (allK k)) diffEB_iff y _ hlk h08 (fun i hi=>ok_wf (HAO.out _ (getD_in hi))) HY8.out).mono ?_
 rintro e w9 ⟨rfl,hb9⟩
 have HB9:=trh HB8 hb9
 have HP9:=ycl (HP8.out.below hb9)
 clear hb9
 cases hbb:yqa (allK k)
 case false=>
  have HN:Hid (k.ok=false):=yac (fun h=>by have h1:=diffEB_iff.2 (kern_iff.1 h).2.2.2.2.2.2.2.1;rw [hbb]at h1;cases h1)
  clear hbb
  go_wp2
  go_ret
  exact⟨ya0 HN.out.symm,HB9.out⟩
 have T9:=ycl hbb
 clear hbb
 obtain⟨m0,m1,m2,m3,m4,m5,m6,m7,m8,m9,m10,m11,m12,m13⟩:=ydx HP9.out
 go_wp2_with fail
 clear m0 m1 m2 m3 m4 m5 m6 m7 m8 m9 m10 m11 m12 m13
 refine(iSureOk _ k _ HSK.out HGO.out (HK.out.under HB9.out)).mono ?_
 rintro e w10 ⟨rfl,hb9⟩
 have HB10:=trh HB9 hb9
 have HP10:=ycl (HP9.out.below hb9)
 clear hb9
 cases hbb:yhj k
 case false=>
  have HN:Hid (k.ok=false):=yac (fun h=>by have h1:=sureIB_iff.2 (kern_iff.1 h).2.2.2.2.2.2.2.2.1;rw [hbb]at h1;cases h1)
  clear hbb
  go_wp2
  go_ret
  exact⟨ya0 HN.out.symm,HB10.out⟩
 have T10:Hid (yhj k=true):=hbb
 clear hbb
 have m13:=HP10.out.cell (i:=13) rfl
 go_wp2_with fail
 clear m13
 refine(iEmits _ k.x _ hxl (HXXI.out.below HB10.out)).mono ?_
 rintro e w11 ⟨rfl,hb9⟩
 have HB11:=trh HB10 hb9
 have HP11:=ycl (HP10.out.below hb9)
 clear hb9
 cases hbb:emsC k.x
 case false=>
  have HN:Hid (k.ok=false):=yac (fun h=>by have h1:=(kern_iff.1 h).2.2.2.2.2.2.2.2.2;rw [hbb]at h1;cases h1)
  clear hbb
  go_wp2
  go_ret
  exact⟨ya0 HN.out.symm,HB11.out⟩
 have T11:Hid (emsC k.x=true):=hbb
 clear hbb
 have HY:Hid (k.ok=true):=kern_iff.2 ⟨HC.out,T1.out,T2.out,tagIn_iff.1 T3.out,askIn_iff.1 T4.out,T5.out,T6.out,diffEB_iff.1 T9.out,sureIB_iff.1 T10.out,T11.out⟩
 go_wp2
 go_ret
 exact⟨ya0 HY.out.symm,HB11.out⟩
set_option maxHeartbeats 16000000
open Go.RowKit
theorem ycx {p:Prop} (h:p):Hid p:=h
theorem yv8 (x y:Value) (a b:List UInt8) (c:Bool) (hc:decide (a=b)=c) (w:World) (ha:a≠ []) (hb:b≠ []) (hx:By.IsI w x a) (hy:By.IsI w y b):
  Calls Tryz.prog 143 #[x,y] w fun e w'=>e= .returned (.bool c)∧w'=w:=by
 have h1:=yeq w x a ha hx
 have h2:=yeq w y b hb hy
 obtain⟨sA,hsA⟩:∃s,strB a=s:=⟨_,rfl⟩
 obtain⟨sB,hsB⟩:∃s,strB b=s:=⟨_,rfl⟩
 have HE:Hid ((sA.toList==sB.toList)=c):=by
  show(sA.toList==sB.toList)=c
  rw [←hsA,←hsB,yhl,yhl,←hc,Bool.eq_iff_iff]
  simp
 rw [hsA]at h1
 rw [hsB]at h2
 clear hx hy ha hb hsA hsB hc
 go_enter Tryz.func143,Tryz.ntmps143
 go_wp2
 go_ret
 exact⟨ya0 HE.out,rfl⟩
noncomputable def yjc (v : Wd) : Bool := v.m.ok && allB v.k.length (fun i => runB v (knAt v.k i))
theorem runsB_iff {v:Wd}:yjc v=true↔v.m.ok=true∧ ∀i,i<v.k.length→runB v (knAt v.k i)=true:=by
 unfold yjc
 simp only [Bool.and_eq_true,allB_iff]
set_option maxRecDepth 100000 in
theorem iRunsOk (x:Value) (v:Wd) (w:World) (hs:ycc v) (h:IsW w x v):
  Calls Tryz.prog 94 #[x] w fun e w'=>e= .returned (.bool (yjc v))∧Below w.heap.size w w':=by
 have HSM:Hid (SmallM v.m):=hs.1
 have HSK:Hid (yd3 v.k):=hs.2.1
 have HSV:=ycx hs.2.2
 have hkl:v.k.length≤1048576:=hs.2.1.1
 have hcl:v.c.length≤1048576:=by have h9:=hs.2.2;rw [ydl]at h9;omega
 obtain⟨ai,ci,ah,ch,ae,ce,ak,ck,ac,cc,rfl,hm,hk,hc⟩:=h.form
 have HWW:=ycx h
 have HMW:=ycx hm
 have HKS:=ycx hk
 have HCS:=ycx hc
 clear h hm hk hc
 obtain⟨W0,hW0⟩:=yvv HWW.out 39
 have HB0:Hid (Below w.heap.size w W0):=by rw [←hW0];exact(Below.refl _ w).alloc (Nat.le_refl _) _
 have HP0:Hid (Bk W0 w.heap.size 39 #[.int .i64 v.m.n,.int .i64 v.m.s,.slice ai v.m.i.length ci,.slice ah v.m.h.length ch,.slice ae v.m.e.length ce,.int .i64 v.m.z,.slice ak v.k.length ck,.slice ac v.c.length cc]):=by rw [←hW0];exact Bk.new w _ _
 obtain⟨q0,q1,q2,q3,q4,q5⟩:=c6_8 HP0.out
 go_enter Tryz.func94,Tryz.ntmps94
 go_wp2_with fail
 clear q0 q1 q2 q3 q4 q5 hW0
 refine(yuo _ v.m _ HSM.out (HMW.out.below HB0.out)).mono ?_
 rintro e w1 ⟨um,rfl,hum,hb⟩
 have HB1:=trh HB0 hb
 have HP1:=ycx (HP0.out.below hb)
 have HUM:=ycx hum.isI
 clear hb hum HB0 HP0
 have hs1:w.heap.size<w1.heap.size:=HP1.out.lt
 cases hmo:v.m.ok
 case false=>
  have HN:Hid (yjc v=false):=yac (fun h9=>by have h8:=(runsB_iff.1 h9).1;rw [hmo]at h8;cases h8)
  clear hmo
  go_wp2
  go_ret
  exact⟨ya0 HN.out.symm,HB1.out⟩
 have HMO:Hid (v.m.ok=true):=hmo
 have HUB:Hid (By.IsI w1 um (ycz v.m)):=by
  have h9:=HUM.out
  unfold yi1 at h9
  rw [if_pos hmo]at h9
  exact h9
 clear hmo HUM
 have q6:=HP1.out.cell (i:=6) rfl
 go_wp2
 clear q6
 go_loopw [20] (fun i wr=>∃j:Nat,j≤v.k.length∧i= .int .i64 j∧Hid (∀i,i<j→runB v (knAt v.k i)=true)∧Hid (Below w1.heap.size w1 wr)) (fun i _=>v.k.length-(intOf i).toNat)
 case atStart=>exact⟨0,Nat.zero_le _,rfl,fun j hj=>by omega,Below.refl _ _⟩
 case round=>
  obtain⟨j,hj,rfl,HA,HBr⟩:=hrel
  have HBw:=trh HB1 HBr.out
  have hsr:w1.heap.size≤wr.heap.size:=HBr.out.size
  by_cases hlt:j<v.k.length
  case pos=>
   have hjd:decide ((j:Int)<(v.k.length:Int))=true:=by simpa using hlt
   obtain⟨b,off,rfl,hbl,hKA⟩:=HKS.out.resolve_left (by omega)
   obtain⟨ki,di,kh,dh,ke,de,k6,d6,k7,d7,k8,d8,k12,d12,k13,d13,⟨f0,f1,f2,f3,f4,f5,f6,f7,f8,f9,f10,f11,f12,f13⟩,hkn,hkm,hkd⟩:=(hKA j hlt).form
   have HDW:=ycx hkd
   have f0:=cst HBw.out hbl f0
   have f1:=cst HBw.out hbl f1
   have f2:=cst HBw.out hbl f2
   have f3:=cst HBw.out hbl f3
   have f4:=cst HBw.out hbl f4
   have f5:=cst HBw.out hbl f5
   have f6:=cst HBw.out hbl f6
   have f7:=cst HBw.out hbl f7
   have f8:=cst HBw.out hbl f8
   have f9:=cst HBw.out hbl f9
   have f10:=cst HBw.out hbl f10
   have f11:=cst HBw.out hbl f11
   have f12:=cst HBw.out hbl f12
   have f13:=cst HBw.out hbl f13
   have HSKj:=ycx (HSK.out.2 j hlt)
   obtain⟨V1,hV1⟩:∃V1,wr.alloc (.cells #[.int .i64 (knAt v.k j).m.n,.int .i64 (knAt v.k j).m.s,.slice ki (knAt v.k j).m.i.length di,.slice kh (knAt v.k j).m.h.length dh,.slice ke (knAt v.k j).m.e.length de,.int .i64 (knAt v.k j).m.z,.slice k6 (knAt v.k j).d.length d6,.slice k7 (knAt v.k j).p.length d7,.slice k8 (knAt v.k j).b.length d8,.int .i64 (knAt v.k j).t,.int .i64 (knAt v.k j).q,.bool (knAt v.k j).f,.slice k12 (knAt v.k j).s.length d12,.slice k13 (knAt v.k j).x.length d13] 57)=V1:=⟨_,rfl⟩
   have hbV:=beA hV1
   have HBV:=ycx hbV
   have HV1:=ycx hbV.size
   have HK1:=hdq (bkA hV1)
   have HKI:=ycx ((hkn.under HBw.out).under hbV)
   have HMI:=ycx ((hkm.below HBw.out).below hbV)
   clear hkn hkm hkd hbV hKA
   have k0c:=HK1.out.cell (i:=0) rfl
   have k1c:=HK1.out.cell (i:=1) rfl
   have k2c:=HK1.out.cell (i:=2) rfl
   have k3c:=HK1.out.cell (i:=3) rfl
   have k4c:=HK1.out.cell (i:=4) rfl
   have k5c:=HK1.out.cell (i:=5) rfl
   go_wp2_with fail
   clear f0 f1 f2 f3 f4 f5 f6 f7 f8 f9 f10 f11 f12 f13 k0c k1c k2c k3c k4c k5c
   try rw [hV1]
   clear hV1
   refine(yuo _ (knAt v.k j).m V1 HSKj.out.1 HMI.out).mono ?_
   rintro e w2 ⟨uk,rfl,huk,hb2⟩
   have HUK:=ycx huk.isI
   have HB2:=trh HBr (HBV.out.trans (hb2.mono HV1.out))
   have HB2w:=trh HB1 HB2.out
   have HU2:=ycx (HUB.out.below HB2.out)
   have HK2:=ycx (HK1.out.below hb2)
   have HKI2:=ycx (HKI.out.under hb2)
   clear huk hb2
   cases hkm:(knAt v.k j).m.ok
   case false=>
    have HN:Hid (yjc v=false):=yac (fun h9=>by have h8:=(yia (runB_iff.1 ((runsB_iff.1 h9).2 j hlt)).1).1;rw [hkm]at h8;cases h8)
    clear hkm
    go_wp2
    go_ret
    exact⟨ya0 HN.out.symm,HB2w.out⟩
   have HUKB:Hid (By.IsI w2 uk (ycz (knAt v.k j).m)):=by
    have h9:=HUK.out
    unfold yi1 at h9
    rw [if_pos hkm]at h9
    exact h9
   clear hkm HUK
   by_cases hq:ycz (knAt v.k j).m=ycz v.m
   case neg=>
    have HN:Hid (yjc v=false):=yac (fun h9=>hq (runB_iff.1 ((runsB_iff.1 h9).2 j hlt)).2)
    have HQ:=ycx (decide_eq_false hq)
    clear hq
    go_wp2_with fail
    refine(yv8 uk um _ _ false HQ.out w2 (ydr _) (ydr _) HUKB.out HU2.out).mono ?_
    rintro e w3 ⟨rfl,hw3⟩
    have hw3':=hw3.symm
    clear hw3
    subst hw3'
    go_wp2
    go_ret
    exact⟨ya0 HN.out.symm,HB2w.out⟩
   have HQE:=ycx hq
   have HQ:=ycx (decide_eq_true hq)
   clear hq
   go_wp2_with fail
   refine(yv8 uk um _ _ true HQ.out w2 (ydr _) (ydr _) HUKB.out HU2.out).mono ?_
   rintro e w3 ⟨rfl,hw3⟩
   have hw3':=hw3.symm
   clear hw3
   subst hw3'
   have k0c:=HK2.out.cell (i:=0) rfl
   have k1c:=HK2.out.cell (i:=1) rfl
   have k2c:=HK2.out.cell (i:=2) rfl
   have k3c:=HK2.out.cell (i:=3) rfl
   have k4c:=HK2.out.cell (i:=4) rfl
   have k5c:=HK2.out.cell (i:=5) rfl
   have k6c:=HK2.out.cell (i:=6) rfl
   have k7c:=HK2.out.cell (i:=7) rfl
   have k8c:=HK2.out.cell (i:=8) rfl
   have k9c:=HK2.out.cell (i:=9) rfl
   have k10c:=HK2.out.cell (i:=10) rfl
   have k11c:=HK2.out.cell (i:=11) rfl
   have k12c:=HK2.out.cell (i:=12) rfl
   have k13c:=HK2.out.cell (i:=13) rfl
   go_wp2_with fail
   clear k0c k1c k2c k3c k4c k5c k6c k7c k8c k9c k10c k11c k12c k13c
   refine(ynb _ (knAt v.k j) _ HSKj.out HKI2.out).mono ?_
   rintro e w4 ⟨rfl,hb4⟩
   have HB4:=trh HB2 hb4
   clear hb4
   cases hko:(knAt v.k j).ok
   case false=>
    have HN:Hid (yjc v=false):=yac (fun h9=>by have h8:=(runB_iff.1 ((runsB_iff.1 h9).2 j hlt)).1;rw [hko]at h8;cases h8)
    clear hko
    go_wp2
    go_ret
    exact⟨ya0 HN.out.symm,trm HB1.out HB4.out⟩
   have HRJ:=ycx (runB_iff.2 ⟨hko,HQE.out⟩)
   clear hko
   go_wp2
   go_roundw
   case rel=>exact⟨j+1,by omega,by go_num,fun i hi=>by
    by_cases e:i=j
    ·subst e;exact HRJ.out
    ·exact HA.out i (by omega),HB4.out⟩
   case measure=>simp [intOf];omega
  case neg=>
   have hje:j=v.k.length:=by omega
   have HY:Hid (yjc v=true):=runsB_iff.2 ⟨HMO.out,fun i hi=>HA.out i (by omega)⟩
   subst hje
   go_wp2
   go_ret
   exact⟨ya0 HY.out.symm,HBw.out⟩
end Go.Proofs.YtmobiieoecjmdaaGreat

