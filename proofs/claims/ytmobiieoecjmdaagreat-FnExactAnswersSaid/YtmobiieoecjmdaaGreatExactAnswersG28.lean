/- KIf, KIe, KPe, KIi -/
import Derived.Test.YtmobiieoecjmdaaGreatExactAnswersG27
namespace Go.Proofs.YtmobiieoecjmdaaGreat
open Go.RowKit
theorem ybr {p:Prop} (h:p):Hid p:=h
noncomputable def yoj (k : Kn) (i : Nat) : Bool := decide ((paAt k.p i).n = (i : Int)) && (paAt k.p i).ok && knL k (paAt k.p i).t && ygu k (paAt k.p i) && yiv k.t (paAt k.p i).a
noncomputable def ycv (k : Kn) : Bool := decide ((k.p.length : Int) = k.m.n) && allB k.p.length (yoj k)
theorem partI_iff {k:Kn} {i:Nat}:yoj k i=true↔(paAt k.p i).n=(i:Int)∧(paAt k.p i).ok=true∧knL k (paAt k.p i).t=true∧ygu k (paAt k.p i)=true∧yiv k.t (paAt k.p i).a=true:=by
 unfold yoj
 simp only [Bool.and_eq_true,decide_eq_true_eq,and_assoc]
theorem partsKB_iff {k:Kn}:ycv k=true↔(k.p.length:Int)=k.m.n∧ ∀i,i<k.p.length→yoj k i=true:=by
 unfold ycv
 simp only [Bool.and_eq_true,decide_eq_true_eq,allB_iff]
set_option maxRecDepth 100000 in
set_option maxHeartbeats 16000000 in
theorem iPartsOk (x:Value) (k:Kn) (w:World) (hs:ybt k) (h:IsKern w x k):
  Calls Tryz.prog 113 #[x] w fun e w'=>e= .returned (.bool (ycv k))∧Below w.heap.size w w':=by
 obtain⟨HSM0,hsk⟩:=hs
 have HSM:Hid (SmallM k.m):=HSM0
 obtain⟨hdl,hpl,hbl,hsl,hxl⟩:=yda hsk
 have HWP:=ybr (yd0 hsk)
 clear hsk HSM0
 obtain⟨ai,ci,ah,ch,ae,ce,ad,cd,ap,cp,ab,cb,au,cu,ax,cx,rfl,hm,hd,hp,hbg,hsu,hx⟩:=h.form
 have HM:=ybr hm
 have HD:=ybr hd
 have HPP:=ybr hp
 have HBG:=ybr hbg.rows
 have HSU:=ybr hsu.rows
 have HXX:=ybr hx.rows
 have HSUI:=ybr hsu
 have HXXI:=ybr hx
 have HK:=ybr h
 clear hm hd hp hbg hsu hx h
 obtain⟨W0,hW0⟩:=yet HK.out 57
 have HB0:Hid (Below w.heap.size w W0):=by rw [←hW0];exact(Below.refl _ w).alloc (Nat.le_refl _) _
 have HP0:Hid (Bk W0 w.heap.size 57 #[.int .i64 k.m.n,.int .i64 k.m.s,.slice ai k.m.i.length ci,.slice ah k.m.h.length ch,.slice ae k.m.e.length ce,.int .i64 k.m.z,.slice ad k.d.length cd,.slice ap k.p.length cp,.slice ab k.b.length cb,.int .i64 k.t,.int .i64 k.q,.bool k.f,.slice au k.s.length cu,.slice ax k.x.length cx]):=by rw [←hW0];exact Bk.new w _ _
 have HW:=ybr hW0
 have hs0:w.heap.size<W0.heap.size:=HP0.out.lt
 clear hW0
 have hw:=HW.out
 have q7:=HP0.out.cell (i:=7) rfl
 have q0:=HP0.out.cell (i:=0) rfl
 by_cases c1:(k.p.length:Int)=k.m.n
 case neg=>
  have c1':((k.p.length:Int) !=k.m.n)=true:=by simpa using c1
  have HN:Hid (ycv k=false):=yac (fun h=>c1 (partsKB_iff.1 h).1)
  clear c1
  go_enter Tryz.func113,Tryz.ntmps113
  go_wp2
  go_ret
  exact⟨ya0 HN.out.symm,HB0.out⟩
 have c1':((k.p.length:Int) !=k.m.n)=false:=by simpa using c1
 have HC1:=ybr c1
 clear c1
 go_enter Tryz.func113,Tryz.ntmps113
 go_wp2
 clear q7 q0 hw c1'
 go_loopw [15] (fun i wr=>∃j:Nat,j≤k.p.length∧i= .int .i64 j∧Hid (∀i,i<j→yoj k i=true)∧Below W0.heap.size W0 wr) (fun i _=>k.p.length-(intOf i).toNat)
 case atStart=>exact⟨0,Nat.zero_le _,rfl,fun j hj=>by omega,Below.refl _ _⟩
 case round=>
  obtain⟨j,hj,rfl,HA,hB⟩:=hrel
  have HBr:=trh HB0 hB
  have HBr2:=ybr hB
  have HKr:=ybr (HP0.out.below hB)
  clear hB
  by_cases hlt:j<k.p.length
  ·obtain⟨b,off,rfl,hPA⟩:=HPP.out.resolve_left (by intro e;rw [e]at hlt;simp at hlt)
   obtain⟨a1,c1,a4,c4,a5,c5,a6,c6,hp⟩:=hPA.2 j hlt
   have hb:b<w.heap.size:=hPA.1
   have f0:=cst HBr.out hb hp.f0
   have f1:=cst HBr.out hb hp.f1
   have f2:=cst HBr.out hb hp.f2
   have f3:=cst HBr.out hb hp.f3
   have f4:=cst HBr.out hb hp.f4
   have f5:=cst HBr.out hb hp.f5
   have f6:=cst HBr.out hb hp.f6
   have HIP:=ybr hp.isPart
   have HTD:=ybr hp.d5.isEvs
   have HWj:=ybr (HWP.out j hlt)
   have hlens:(paAt k.p j).t.length≤1048576∧(paAt k.p j).a.length≤1048576:=by
    have h9:=HWj.out
    unfold Pa.wt at h9
    simp only [yal,yb2]at h9
    omega
   obtain⟨htl,hal⟩:=hlens
   have HNO:Hid (¬yoj k j=true→ycv k=false):=fun h1=>yac (fun h=>h1 ((partsKB_iff.1 h).2 j hlt))
   obtain⟨V,hV⟩:∃V,wr.alloc (.cells #[.int .i64 (paAt k.p j).n,.slice a1 (paAt k.p j).st.r.length c1,.int .i64 (paAt k.p j).st.q,.int .i64 (paAt k.p j).st.d,.slice a4 (paAt k.p j).p.length c4,.slice a5 (paAt k.p j).t.length c5,.slice a6 (paAt k.p j).a.length c6] 97)=V:=⟨_,rfl⟩
   have HB1:=hdq (beA hV)
   have HX1:=hdq (bkA hV)
   have HK1:=ybr (HKr.out.below HB1.out)
   clear hPA hp
   obtain⟨x0,x1,x2,x3,x4,x5,x6⟩:=c7_7 HX1.out
   by_cases hn:(paAt k.p j).n=(j:Int)
   case neg=>
    have hn':((paAt k.p j).n !=(j:Int))=true:=by simpa using hn
    have HN:Hid (ycv k=false):=HNO.out (fun h=>hn (partI_iff.1 h).1)
    clear hn
    go_wp2
    go_ret
    exact⟨ya0 HN.out.symm,trm HBr.out HB1.out⟩
   have hn':((paAt k.p j).n !=(j:Int))=false:=by simpa using hn
   have HN1:=ybr hn
   clear hn
   go_wp2_with fail
   clear f0 f1 f2 f3 f4 f5 f6 hV x0 x1 x2 x3 x4 x5 x6 hn'
   refine(ys3 _ (paAt k.p j) _ HWj.out (HIP.out.under (trm HBr.out HB1.out))).mono ?_
   rintro e w2 ⟨rfl,hb9⟩
   have HB2:=trh HB1 hb9
   have HX2:=ybr (HX1.out.below hb9)
   have HK2:=ybr (HK1.out.below hb9)
   clear hb9
   cases hbb:(paAt k.p j).ok
   case false=>
    have HN:Hid (ycv k=false):=HNO.out (fun h=>by have h1:=(partI_iff.1 h).2.1;rw [hbb]at h1;cases h1)
    clear hbb
    go_wp2
    go_ret
    exact⟨ya0 HN.out.symm,trm HBr.out HB2.out⟩
   have HT2:=ybr hbb
   clear hbb
   obtain⟨k0,k1,k2,k3,k4,k5,k6,k7,k8,k9,k10,k11,k12,k13⟩:=ydx HK2.out
   have x5:=HX2.out.cell (i:=5) rfl
   go_wp2_with fail
   clear k0 k1 k2 k3 k4 k5 k6 k7 k8 k9 k10 k11 k12 k13 x5
   refine(yln _ k a5 c5 (paAt k.p j).t _ rfl _ (HK.out.under (trm HBr.out HB2.out)) htl (Nat.lt_of_le_of_lt (Nat.zero_le _) HX2.out.lt) (HTD.out.below (trm HBr.out HB2.out))).mono ?_
   rintro e w3 ⟨rfl,hb9⟩
   have HB3:=trh HB2 hb9
   have HX3:=ybr (HX2.out.below hb9)
   have HK3:=ybr (HK2.out.below hb9)
   clear hb9
   cases hbb:knL k (paAt k.p j).t
   case false=>
    have HN:Hid (ycv k=false):=HNO.out (fun h=>by have h1:=(partI_iff.1 h).2.2.1;rw [hbb]at h1;cases h1)
    clear hbb
    go_wp2
    go_ret
    exact⟨ya0 HN.out.symm,trm HBr.out HB3.out⟩
   have HT3:=ybr hbb
   clear hbb
   obtain⟨k0,k1,k2,k3,k4,k5,k6,k7,k8,k9,k10,k11,k12,k13⟩:=ydx HK3.out
   obtain⟨x0,x1,x2,x3,x4,x5,x6⟩:=c7_7 HX3.out
   go_wp2_with fail
   clear k0 k1 k2 k3 k4 k5 k6 k7 k8 k9 k10 k11 k12 k13 x0 x1 x2 x3 x4 x5 x6
   refine(iPastK _ _ k (paAt k.p j) _ HWj.out (HK.out.under (trm HBr.out HB3.out)) (HIP.out.under (trm HBr.out HB3.out))).mono ?_
   rintro e w4 ⟨rfl,hb9⟩
   have HB4:=trh HB3 hb9
   have HX4:=ybr (HX3.out.below hb9)
   have HK4:=ybr (HK3.out.below hb9)
   clear hb9
   cases hbb:ygu k (paAt k.p j)
   case false=>
    have HN:Hid (ycv k=false):=HNO.out (fun h=>by have h1:=(partI_iff.1 h).2.2.2.1;rw [hbb]at h1;cases h1)
    clear hbb
    go_wp2
    go_ret
    exact⟨ya0 HN.out.symm,trm HBr.out HB4.out⟩
   have HT4:=ybr hbb
   clear hbb
   obtain⟨k0,k1,k2,k3,k4,k5,k6,k7,k8,k9,k10,k11,k12,k13⟩:=ydx HK4.out
   obtain⟨x0,x1,x2,x3,x4,x5,x6⟩:=c7_7 HX4.out
   go_wp2_with fail
   clear k0 k1 k2 k3 k4 k5 k6 k7 k8 k9 k10 k11 k12 k13 x0 x1 x2 x3 x4 x5 x6
   refine(iAntis8 _ _ k (paAt k.p j) _ hal (HK.out.under (trm HBr.out HB4.out)) (HIP.out.under (trm HBr.out HB4.out))).mono ?_
   rintro e w5 ⟨rfl,hb9⟩
   have HB5:=trh HB4 hb9
   have HX5:=ybr (HX4.out.below hb9)
   have HK5:=ybr (HK4.out.below hb9)
   clear hb9
   cases hbb:yiv k.t (paAt k.p j).a
   case false=>
    have HN:Hid (ycv k=false):=HNO.out (fun h=>by have h1:=(partI_iff.1 h).2.2.2.2;rw [hbb]at h1;cases h1)
    clear hbb
    go_wp2
    go_ret
    exact⟨ya0 HN.out.symm,trm HBr.out HB5.out⟩
   have HT5:=ybr hbb
   clear hbb
   have K9:Hid (yoj k j=true):=partI_iff.2 ⟨HN1.out,HT2.out,HT3.out,HT4.out,HT5.out⟩
   go_wp2
   go_roundw
   case rel=>exact⟨j+1,by omega,by go_num,fun i hi=>by
    by_cases e:i=j
    ·subst e;exact K9.out
    ·exact HA.out i (by omega),trm HBr2.out HB5.out⟩
   case measure=>simp [intOf];omega
  ·obtain rfl:k.p.length=j:=by omega
   have HY:Hid (ycv k=true):=partsKB_iff.2 ⟨HC1.out,HA.out⟩
   go_wp2
   go_ret
   exact⟨ya0 HY.out.symm,HBr.out⟩
theorem ye2 {p:Prop} (h:p):Hid p:=h
def yk4 (k:Kn):Bool:=allB k.b.length (fun i=>knB k.m k.t (mlAt k.b i).e)
set_option maxRecDepth 100000 in
set_option maxHeartbeats 8000000 in
theorem iBagOk (x:Value) (k:Kn) (w:World) (hs:ybt k) (h:IsKern w x k):
  Calls Tryz.prog 114 #[x] w fun e w'=>e= .returned (.bool (yk4 k))∧Below w.heap.size w w':=by
 obtain⟨HSM0,hsk⟩:=hs
 have HSM:Hid (SmallM k.m):=HSM0
 obtain⟨hdl,hpl,hbl,hsl,hxl⟩:=yda hsk
 have HWP:=ye2 (yd0 hsk)
 clear hsk HSM0
 obtain⟨ai,ci,ah,ch,ae,ce,ad,cd,ap,cp,ab,cb,au,cu,ax,cx,rfl,hm,hd,hp,hbg,hsu,hx⟩:=h.form
 have HM:=ye2 hm
 have HD:=ye2 hd
 have HPP:=ye2 hp
 have HBG:=ye2 hbg.rows
 have HSU:=ye2 hsu.rows
 have HXX:=ye2 hx.rows
 have HSUI:=ye2 hsu
 have HXXI:=ye2 hx
 have HK:=ye2 h
 clear hm hd hp hbg hsu hx h
 obtain⟨W0,hW0⟩:=yet HK.out 57
 have HB0:Hid (Below w.heap.size w W0):=by rw [←hW0];exact(Below.refl _ w).alloc (Nat.le_refl _) _
 have HP0:Hid (Bk W0 w.heap.size 57 #[.int .i64 k.m.n,.int .i64 k.m.s,.slice ai k.m.i.length ci,.slice ah k.m.h.length ch,.slice ae k.m.e.length ce,.int .i64 k.m.z,.slice ad k.d.length cd,.slice ap k.p.length cp,.slice ab k.b.length cb,.int .i64 k.t,.int .i64 k.q,.bool k.f,.slice au k.s.length cu,.slice ax k.x.length cx]):=by rw [←hW0];exact Bk.new w _ _
 have HW:=ye2 hW0
 have hs0:w.heap.size<W0.heap.size:=HP0.out.lt
 clear hW0
 have hw:=HW.out
 have q8:=HP0.out.cell (i:=8) rfl
 go_enter Tryz.func114,Tryz.ntmps114
 go_wp2
 clear q8 hw
 go_loopw [8] (fun i wr=>∃j:Nat,j≤k.b.length∧i= .int .i64 j∧Hid (∀i,i<j→knB k.m k.t (mlAt k.b i).e=true)∧Below W0.heap.size W0 wr) (fun i _=>k.b.length-(intOf i).toNat)
 case atStart=>exact⟨0,Nat.zero_le _,rfl,fun j hj=>by omega,Below.refl _ _⟩
 case round=>
  obtain⟨j,hj,rfl,HA,hB⟩:=hrel
  have HBr:=trh HB0 hB
  have HBr2:=ye2 hB
  have HKr:=ye2 (HP0.out.below hB)
  clear hB
  by_cases hlt:j<k.b.length
  ·obtain⟨b,off,rfl,hb,hc⟩:=HBG.out.resolve_left (by intro e;rw [e]at hlt;simp at hlt)
   obtain⟨f0,f1,f2,f3,f4,f5,f6,f7⟩:=(hc j hlt).below HBr.out hb
   have HNO:Hid (¬knB k.m k.t (mlAt k.b j).e=true→yk4 k=false):=fun h1=>yac (fun h=>h1 (allB_iff.1 h j hlt))
   obtain⟨V,hV⟩:∃V,wr.alloc (.cells #[.int .i64 (mlAt k.b j).e.t,.int .i64 (mlAt k.b j).e.s,.int .i64 (mlAt k.b j).e.q,.int .i64 (mlAt k.b j).e.d,.int .i64 (mlAt k.b j).e.k,.int .i64 (mlAt k.b j).e.v,.int .i64 (mlAt k.b j).e.g,.bool (mlAt k.b j).a] 148)=V:=⟨_,rfl⟩
   have HB1:=hdq (beA hV)
   have HX:=hdq (bkA hV)
   have HKV:=ye2 (HKr.out.below HB1.out)
   have HBV:=trh HBr HB1.out
   obtain⟨x0,x1,x2,x3,x4,x5,x6,x7⟩:=c8_8 HX.out
   obtain⟨k0,k1,k2,k3,k4,k5,k6,k7,k8,k9,k10,k11,k12,k13⟩:=ydx HKV.out
   obtain⟨V2,hV2⟩:∃V2,V.alloc (.cells #[.int .i64 (mlAt k.b j).e.t,.int .i64 (mlAt k.b j).e.s,.int .i64 (mlAt k.b j).e.q,.int .i64 (mlAt k.b j).e.d,.int .i64 (mlAt k.b j).e.k,.int .i64 (mlAt k.b j).e.v,.int .i64 (mlAt k.b j).e.g] 110)=V2:=⟨_,rfl⟩
   have HB2:Hid (Below wr.heap.size wr V2):=by rw [←hV2];exact HB1.out.alloc HB1.out.size _
   have HX2:=hdq (bkA hV2)
   have HBV2:=trh HBr HB2.out
   have HIE:Hid (IsEvs V2 (.slice (some ⟨V.heap.size,0,none⟩) ([(mlAt k.b j).e]:List Ev).length 1) [(mlAt k.b j).e]):=⟨_,1,rfl,Nat.le_refl _,by unfold maxLen;omega,.inr ⟨V.heap.size,0,rfl,HX2.out.lt,fun i hi=>by
    obtain rfl:i=0:=by simp at hi;omega
    exact⟨HX2.out.cell (i:=0) rfl,HX2.out.cell (i:=1) rfl,HX2.out.cell (i:=2) rfl,HX2.out.cell (i:=3) rfl,HX2.out.cell (i:=4) rfl,HX2.out.cell (i:=5) rfl,HX2.out.cell (i:=6) rfl⟩⟩⟩
   have HL1:Hid (knL k [(mlAt k.b j).e]=knB k.m k.t (mlAt k.b j).e):=(by simp [knL,allB,evAt]:knL k [(mlAt k.b j).e]=_)
   have HV2:=ye2 hV2
   clear hc hV2
   go_wp2_with fail
   try rw [HV2.out]
   clear f0 f1 f2 f3 f4 f5 f6 f7 x0 x1 x2 x3 x4 x5 x6 x7 hV k0 k1 k2 k3 k4 k5 k6 k7 k8 k9 k10 k11 k12 k13
   refine(yln _ k (some ⟨V.heap.size,0,none⟩) 1 [(mlAt k.b j).e] _ rfl _ (HK.out.under HBV2.out) (by simp) (Nat.lt_of_le_of_lt (Nat.zero_le _) HX2.out.lt) HIE.out).mono ?_
   rintro e w3 ⟨rfl,hb3⟩
   have HB3:=trh HB2 hb3
   clear hb3
   rw [HL1.out]
   cases hkn:knB k.m k.t (mlAt k.b j).e with
   |false=>
    have HN:Hid (yk4 k=false):=HNO.out (fun h=>by rw [hkn]at h;cases h)
    clear hkn
    go_wp2
    go_ret
    exact⟨ya0 HN.out.symm,trm HBr.out HB3.out⟩
   |true=>
    have K9:=ye2 hkn
    clear hkn
    go_wp2
    go_roundw
    case rel=>exact⟨j+1,by omega,by go_num,fun i hi=>by
     by_cases e:i=j
     ·subst e;exact K9.out
     ·exact HA.out i (by omega),trm HBr2.out HB3.out⟩
    case measure=>simp [intOf];omega
  ·obtain rfl:k.b.length=j:=by omega
   have HY:Hid (yk4 k=true):=allB_iff.2 HA.out
   go_wp2
   go_ret
   exact⟨ya0 HY.out.symm,HBr.out⟩
theorem getD_in {α:Type} {l:List α} {i:Nat} {d:α} (h:i<l.length):l.getD i d∈l:=by
 rw [List.getD_eq_getElem?_getD,List.getElem?_eq_getElem h]
 exact List.getElem_mem h
theorem yg2 {α:Type} {l:List α} {e:α} (d:α) (h:e∈l):∃i,i<l.length∧l.getD i d=e:=by
 obtain⟨i,hi,rfl⟩:=List.mem_iff_getElem.1 h
 exact⟨i,hi,by rw [List.getD_eq_getElem?_getD,List.getElem?_eq_getElem hi];rfl⟩
theorem getD_at {α:Type} {l:List α} {i:Nat} (d:α) (h:i<l.length):l.getD i d=l[i]:=by
 rw [List.getD_eq_getElem?_getD,List.getElem?_eq_getElem h];rfl
def bagE (l:List Ml):List Ev:=l.flatMap (fun m=>if m.a then []else [m.e])
def yce (l:List Pa):List Ev:=l.flatMap Pa.all
def allK (k:Kn):List Ev:=yce k.p++bagE k.b
def ynz (l:List Ev):Prop:=∀i,i<l.length→ ∀j,j<i→(evAt l j).g≠(evAt l i).g
def yo0 (k:Kn):Prop:=k.s= []∨((∀i,i<k.p.length→(paAt k.p i).p= []∨(ycg k.s).ecmp (psAt (paAt k.p i).p 0).e= -1)∧ ∀g,gvtE k=some g→(ycg k.s).ecmp g= -1)
noncomputable def yfu (k : Kn) : Bool := @decide (yo0 k) (Classical.propDecidable _)
theorem aheadB_iff {k:Kn}:yfu k=true↔yo0 k:=by unfold yfu;simp
def SureI (k:Kn):Prop:=(∀i,i<k.s.length→evIn k.m (evAt k.s i)=true∧(evAt k.s i).g=0)∧(∀i,i<k.s.length-1→(evAt k.s i).ecmp (evAt k.s (i+1))= -1)∧yo0 k
noncomputable def yhj (k : Kn) : Bool := @decide (SureI k) (Classical.propDecidable _)
theorem sureIB_iff {k:Kn}:yhj k=true↔SureI k:=by unfold yhj;simp
theorem yqh (l:List Ml):bagT l=(bagE l).map (·.g):=by
 unfold bagT bagE
 rw [List.map_flatMap]
 congr 1
 funext m
 split<;>rfl
theorem yrk (p:Pa):(ytt p).Perm (p.all.map (·.g)):=by
 unfold ytt yo1 ymv Pa.all Pa.es
 rw [List.map_append,List.map_map]
 exact List.perm_append_comm
theorem yjf (l:List Pa):(yc6 l).Perm ((yce l).map (·.g)):=by
 induction l with
 |nil=>exact List.Perm.refl _
 |cons a l ih=>
  show(ytt a++yc6 l).Perm ((a.all++yce l).map (·.g))
  rw [List.map_append]
  exact(yrk a).append ih
theorem yj8 (k:Kn):(yk5 k).Perm ((allK k).map (·.g)):=by
 unfold yk5 allK
 rw [List.map_append,yqh]
 exact((yjf k.p).append_left _).trans List.perm_append_comm
theorem hasI_no {l:List Int} {n:Nat} {z:Int}:hasI l n z=false↔ ∀j,j<n→intAt l j≠z:=by
 unfold hasI
 rw [Bool.not_eq_false',allB_iff]
 constructor
 ·intro h j hj
  simpa using h j hj
 ·intro h j hj
  simpa using h j hj
theorem ypt {l:List Int}:l.Nodup↔ ∀i,i<l.length→ ∀j,j<i→intAt l j≠intAt l i:=by
 unfold List.Nodup
 rw [List.pairwise_iff_getElem]
 constructor
 ·intro h i hi j hj e
  refine h j i (by omega) hi hj ?_
  unfold intAt at e
  rw [getD_at _ hi,getD_at _ (by omega)]at e
  exact e
 ·intro h j i hj hi hlt e
  refine h i hi j hlt ?_
  unfold intAt
  rw [getD_at _ hi,getD_at _ hj]
  exact e
theorem yp4 {t:Int} {l:List Int}:ynp t l=true↔(∀z,z∈l→z<t)∧l.Nodup:=by
 rw [diffB_iff,ypt]
 constructor
 ·intro h
  refine⟨fun z hz=> ?_,fun i hi=>hasI_no.1 (h i hi).2⟩
  obtain⟨i,hi,rfl⟩:=yg2 0 hz
  exact(h i hi).1
 ·rintro ⟨h1,h2⟩ i hi
  exact⟨h1 _ (getD_in hi),hasI_no.2 (h2 i hi)⟩
theorem diffE_nodup {l:List Ev}:ynz l↔(l.map (·.g)).Nodup:=by
 rw [ypt]
 unfold ynz
 have e:∀i,i<l.length→intAt (l.map (·.g)) i=(evAt l i).g:=fun i hi=>by
  unfold intAt evAt
  rw [getD_at _ (by rw [List.length_map];exact hi),getD_at _ hi,List.getElem_map]
 rw [List.length_map]
 constructor
 ·intro h i hi j hj
  rw [e i hi,e j (by omega)]
  exact h i hi j hj
 ·intro h i hi j hj
  have:=h i hi j hj
  rw [e i hi,e j (by omega)]at this
  exact this
theorem diff_is {k:Kn}:ynp k.t (yk5 k)=true↔(∀e,e∈allK k→e.g<k.t)∧ynz (allK k):=by
 rw [yp4,diffE_nodup,(yj8 k).nodup_iff]
 refine and_congr_left fun _=> ?_
 constructor
 ·intro h e he
  exact h _ ((yj8 k).mem_iff.2 (List.mem_map.2 ⟨e,he,rfl⟩))
 ·intro h z hz
  obtain⟨e,he,rfl⟩:=List.mem_map.1 ((yj8 k).mem_iff.1 hz)
  exact h e he
theorem all_in {k:Kn} {e:Ev} (h:e∈allK k):(∃i,i<k.p.length∧e∈(paAt k.p i).all)∨ ∃i,i<k.b.length∧(mlAt k.b i).a=false∧e=(mlAt k.b i).e:=by
 unfold allK at h
 rcases List.mem_append.1 h with h|h
 ·obtain⟨p,hp,he⟩:=List.mem_flatMap.1 h
  obtain⟨i,hi,e1⟩:=yg2 ⟨0,⟨[],0,0⟩,[],[],[]⟩ hp
  exact .inl ⟨i,hi,by show e∈Pa.all (k.p.getD i _);rw [e1];exact he⟩
 ·obtain⟨m,hm,he⟩:=List.mem_flatMap.1 h
  obtain⟨i,hi,e1⟩:=yg2 ⟨⟨0,0,0,0,0,0,0⟩,false⟩ hm
  refine .inr ⟨i,hi,?_⟩
  unfold mlAt
  rw [e1]
  cases ha:m.a
  ·rw [ha]at he
   exact⟨rfl,by simpa using he⟩
  ·rw [ha]at he
   simp at he
theorem yjq {k:Kn} {e:Ev} {i:Nat} (hi:i<k.p.length) (h:e∈(paAt k.p i).all):e∈allK k:=
 List.mem_append.2 (.inl (List.mem_flatMap.2 ⟨_,getD_in hi,h⟩))
theorem in_all {p:Pa} {e:Ev}:e∈p.all↔(∃i,i<p.p.length∧(psAt p.p i).e=e)∨ ∃i,i<p.t.length∧evAt p.t i=e:=by
 unfold Pa.all Pa.es
 rw [List.mem_append,List.mem_map]
 constructor
 ·rintro (⟨x,hx,rfl⟩|h)
  ·obtain⟨i,hi,e1⟩:=yg2 ⟨⟨0,0,0,0,0,0,0⟩,⟨[],0,0⟩,[],[]⟩ hx
   exact .inl ⟨i,hi,by unfold psAt;rw [e1]⟩
  ·obtain⟨i,hi,e1⟩:=yg2 ⟨0,0,0,0,0,0,0⟩ h
   exact .inr ⟨i,hi,e1⟩
 ·rintro (⟨i,hi,rfl⟩|⟨i,hi,rfl⟩)
  ·exact .inl ⟨_,getD_in hi,rfl⟩
  ·exact .inr (getD_in hi)
theorem knL_iff {k:Kn} {l:List Ev}:knL k l=true↔ ∀i,i<l.length→evIn k.m (evAt l i)=true∧(evAt l i).g<k.t:=by
 unfold knL
 rw [allB_iff]
 unfold knB
 simp only [Bool.and_eq_true,decide_eq_true_eq]
theorem pastKB_iff {k:Kn} {p:Pa}:ygu k p=true↔ ∀i,i<p.p.length→(psAt p.p i).e.g<k.t∧knL k (psAt p.p i).s=true:=by
 unfold ygu
 rw [allB_iff]
 simp only [pastL1_iff]
theorem bagKB_iff {k:Kn}:yk4 k=true↔ ∀i,i<k.b.length→evIn k.m (mlAt k.b i).e=true∧(mlAt k.b i).e.g<k.t:=by
 unfold yk4
 rw [allB_iff]
 unfold knB
 simp only [Bool.and_eq_true,decide_eq_true_eq]
theorem ydo {m:Md} {e:Ev} (h:evIn m e=true):e.ok=true:=by
 unfold evIn at h
 exact(Bool.and_eq_true_iff.1 h).1
theorem asc_le {l:List Int} (h:Asc l):∀(d i:Nat),i+d<l.length→intAt l i≤intAt l (i+d)
 |0,i,_=>Int.le_refl _
 |d+1,i,hi=>by
  have h1:=asc_le h d i (by omega)
  have h2:=(h (i+(d+1)) hi).2.2 (by omega)
  have e:i+(d+1)-1=i+d:=by omega
  rw [e]at h2
  omega
theorem ynx {t:Int} {l:List Int} (h:Asc l):yiv t l=true↔ ∀i,i<l.length→intAt l i<t:=by
 unfold yiv
 rw [Bool.or_eq_true,decide_eq_true_eq,decide_eq_true_eq]
 constructor
 ·rintro (rfl|h1) i hi
  ·simp at hi
  ·have:=asc_le h (l.length-1-i) i (by omega)
   rw [show i+(l.length-1-i)=l.length-1 by omega]at this
   omega
 ·intro h1
  by_cases e:l= []
  ·exact .inl e
  ·exact .inr (h1 _ (by have:=List.length_pos_iff.2 e;omega))
theorem stepE_in {o:Option Ev} {e g:Ev} (h:yo4 o e=some g):o=some g∨e=g:=by
 unfold yo4 at h
 split at h
 ·exact .inr (by injection h)
 ·split at h
  ·exact .inr (by injection h)
  ·exact .inl h
theorem yop:∀(l:List Ev) (o:Option Ev) (g:Ev),l.foldl yo4 o=some g→o=some g∨g∈l
 | [],o,g,h=> .inl h
 |a::l,o,g,h=>by
  rcases yop l (yo4 o a) g h with h1|h1
  ·rcases stepE_in h1 with h2|rfl
   ·exact .inl h2
   ·exact .inr (List.mem_cons_self ..)
  ·exact .inr (List.mem_cons_of_mem _ h1)
theorem gvt_in {k:Kn} {g:Ev} (h:gvtE k=some g):g∈gvtL k:=by
 rcases yop _ _ _ h with h1|h1
 ·cases h1
 ·exact h1
theorem yoz {k:Kn} (hp:∀i,i<k.p.length→ ∀j,j<(paAt k.p i).t.length→(evAt (paAt k.p i).t j).ok=true) (hb:∀i,i<k.b.length→(mlAt k.b i).e.ok=true) {e:Ev} (h:e∈gvtL k):e.ok=true:=by
 unfold gvtL at h
 rcases List.mem_append.1 h with h|h
 ·obtain⟨p,hpm,he⟩:=List.mem_flatMap.1 h
  obtain⟨i,hi,e1⟩:=yg2 ⟨0,⟨[],0,0⟩,[],[],[]⟩ hpm
  obtain⟨j,hj,e2⟩:=yg2 ⟨0,0,0,0,0,0,0⟩ (List.mem_of_mem_take he)
  have:=hp i hi j (by unfold paAt;rw [e1];exact hj)
  unfold paAt evAt at this
  rw [e1,e2]at this
  exact this
 ·obtain⟨m,hm,rfl⟩:=List.mem_map.1 h
  obtain⟨i,hi,e1⟩:=yg2 ⟨⟨0,0,0,0,0,0,0⟩,false⟩ hm
  have:=hb i hi
  unfold mlAt at this
  rw [e1]at this
  exact this
theorem ym4 {a b:Ev} (ha:a.ok=true) (hb:b.ok=true):0<b.cmp a↔a.ecmp b= -1:=by
 rw [yhx ha hb,cmp_opp a b]
 omega
def KernI (k:Kn):Prop:=(k.b.length≤2000∧k.s.length≤2000∧k.x.length≤16000)∧k.m.ok=true∧vok k.d=true∧(6≤k.t∧k.t≤99992)∧(-1≤k.q∧k.q≤3)∧ycv k=true∧yk4 k=true∧ynz (allK k)∧SureI k∧emsC k.x=true
theorem emsC_iff {l:List Em}:emsC l=true↔ ∀i,i<l.length→(xAt l i).okB=true:=all_iff
theorem ypk {k:Kn} (hg:∀e,e∈gvtL k→e.ok=true) (hp:∀i,i<k.p.length→ ∀j,j<(paAt k.p i).p.length→(psAt (paAt k.p i).p j).e.ok=true):SureI k↔(∀i,i<k.s.length→ymk k.m k.s i=true)∧gvtB k=true∧ ∀i,i<k.p.length→yfq k.s (paAt k.p i)=true:=by
 have key:(∀i,i<k.s.length→evIn k.m (evAt k.s i)=true)→(yo0 k↔gvtB k=true∧ ∀i,i<k.p.length→yfq k.s (paAt k.p i)=true):=by
  intro hok
  unfold yo0
  by_cases e0:k.s= []
  ·refine⟨fun _=>⟨?_,fun i hi=>past0B_iff.2 (.inr (behB_iff.2 (.inl e0)))⟩,fun _=> .inl e0⟩
   cases eg:gvtE k with
   |none=>exact yhu eg
   |some g=>rw [yf7 eg];exact behB_iff.2 (.inl e0)
  ·have hl:(ycg k.s).ok=true:=ydo (hok (k.s.length-1) (by have:=List.length_pos_iff.2 e0;omega))
   constructor
   ·rintro (h|⟨h1,h2⟩)
    ·exact(e0 h).elim
    ·constructor
     ·cases eg:gvtE k with
      |none=>exact yhu eg
      |some g=>
       rw [yf7 eg]
       exact behB_iff.2 (.inr ((ym4 hl (hg g (gvt_in eg))).2 (h2 g eg)))
     ·intro i hi
      by_cases e1:(paAt k.p i).p= []
      ·exact past0B_iff.2 (.inl e1)
      ·exact past0B_iff.2 (.inr (behB_iff.2 (.inr ((ym4 hl (hp i hi 0 (List.length_pos_iff.2 e1))).2 ((h1 i hi).resolve_left e1)))))
   ·rintro ⟨h1,h2⟩
    refine .inr ⟨fun i hi=> ?_,fun g eg=> ?_⟩
    ·by_cases e1:(paAt k.p i).p= []
     ·exact .inl e1
     ·refine .inr ?_
      have h3:=((behB_iff.1 ((past0B_iff.1 (h2 i hi)).resolve_left e1)).resolve_left e0)
      exact(ym4 hl (hp i hi 0 (List.length_pos_iff.2 e1))).1 h3
    ·rw [yf7 eg]at h1
     exact(ym4 hl (hg g (gvt_in eg))).1 ((behB_iff.1 h1).resolve_left e0)
 have key2:(∀i,i<k.s.length→evIn k.m (evAt k.s i)=true)→((∀i,i<k.s.length-1→(evAt k.s i).ecmp (evAt k.s (i+1))= -1)↔ ∀i,i<k.s.length→0<i→(evAt k.s (i-1)).cmp (evAt k.s i)<0):=by
  intro hok
  constructor
  ·intro h i hi h0
   have h1:=h (i-1) (by omega)
   rw [show i-1+1=i by omega]at h1
   exact(yhx (ydo (hok _ (by omega))) (ydo (hok _ hi))).1 h1
  ·intro h i hi
   have h1:=h (i+1) (by omega) (by omega)
   rw [show i+1-1=i by omega]at h1
   exact(yhx (ydo (hok _ (by omega))) (ydo (hok _ (by omega)))).2 h1
 constructor
 ·rintro ⟨h1,h2,h3⟩
  have hok:=fun i hi=>(h1 i hi).1
  refine⟨fun i hi=>sure1_iff.2 ⟨hok i hi,(h1 i hi).2,(key2 hok).1 h2 i hi⟩,(key hok).1 h3⟩
 ·rintro ⟨h1,h2⟩
  have hok:=fun i hi=>(sure1_iff.1 (h1 i hi)).1
  exact⟨fun i hi=>⟨hok i hi,(sure1_iff.1 (h1 i hi)).2.1⟩,(key2 hok).2 (fun i hi=>(sure1_iff.1 (h1 i hi)).2.2),(key hok).2 h2⟩
theorem modB_iff {m:Md} {p:Pa}:modB m p=true↔m.ok=true∧p.ok=true∧p.n<m.n∧ ∀i,i<p.t.length→evIn m (evAt p.t i)=true:=by
 unfold modB
 simp only [Bool.and_eq_true,decide_eq_true_eq,allB_iff,and_assoc]
theorem yom {p:Pa} (h:p.ok=true):∀j,j<p.p.length→(psAt p.p j).e.ok=true:=fun j hj=>by
 have h1:=(Pa.ok_iff.1 h).2.2.2.2.1.1 j (by rw [yd9];omega)
 rw [ybs p hj]at h1
 exact h1
theorem kern_iff {k:Kn}:k.ok=true↔KernI k:=by
 rw [ok_iff,headK_iff,sureB_iff,tagsB_iff]
 unfold KernI
 constructor
 ·rintro ⟨⟨a1,a2,a3,a4,a5,a6,a7,a8⟩,hP,hB,⟨s1,s2,s3,s4,s5,s6⟩,hK,hD⟩
  obtain⟨d1,d2⟩:=diff_is.1 hD
  have P1:=fun i hi=>(part1_iff.1 (hP i hi)).1
  have P2:=fun i hi=>modB_iff.1 (P1 i hi)
  have gok:∀e,e∈gvtL k→e.ok=true:=fun e he=>yoz (fun i hi j hj=>ydo ((P2 i hi).2.2.2 j hj)) (fun i hi=>ydo (bag1_iff.1 (hB i hi)).1) he
  have pok:=fun i hi=>yom (P2 i hi).2.1
  refine⟨⟨a4,s1,s2⟩,a1,a2,⟨a5,a6⟩,⟨a7,by omega⟩,?_,bagKB_iff.2 (fun i hi=>bag1_iff.1 (hB i hi)),d2,(ypk gok pok).2 ⟨s3,s5,s6⟩,emsC_iff.2 s4⟩
  refine partsKB_iff.2 ⟨a3,fun i hi=>partI_iff.2 ⟨(part1_iff.1 (hP i hi)).2,(P2 i hi).2.1,?_,?_,?_⟩⟩
  ·exact knL_iff.2 (fun j hj=>⟨(P2 i hi).2.2.2 j hj,d1 _ (yjq hi (in_all.2 (.inr ⟨j,hj,rfl⟩)))⟩)
  ·exact pastKB_iff.2 (fun j hj=>⟨d1 _ (yjq hi (in_all.2 (.inl ⟨j,hj,rfl⟩))),knL_iff.2 (sentK_iff.1 ((partK_iff.1 (hK i hi)).1 j hj))⟩)
  ·exact(ynx (Pa.ok_iff.1 (P2 i hi).2.1).2.2.2.2.2).2 (partK_iff.1 (hK i hi)).2
 ·rintro ⟨⟨a4,s1,s2⟩,a1,a2,⟨a5,a6⟩,⟨a7,a8⟩,hP,hB,d2,hS,s4⟩
  obtain⟨a3,hP⟩:=partsKB_iff.1 hP
  have P2:=fun i hi=>partI_iff.1 (hP i hi)
  have P3:=fun i hi=>knL_iff.1 (P2 i hi).2.2.1
  have B1:=bagKB_iff.1 hB
  have gok:∀e,e∈gvtL k→e.ok=true:=fun e he=>yoz (fun i hi j hj=>ydo (P3 i hi j hj).1) (fun i hi=>ydo (B1 i hi).1) he
  have pok:=fun i hi=>yom (P2 i hi).2.1
  obtain⟨s3,s5,s6⟩:=(ypk gok pok).1 hS
  refine⟨⟨a1,a2,a3,a4,a5,a6,a7,by omega⟩,fun i hi=>part1_iff.2 ⟨modB_iff.2 ⟨a1,(P2 i hi).2.1,?_,fun j hj=>(P3 i hi j hj).1⟩,(P2 i hi).1⟩,fun i hi=>bag1_iff.2 (B1 i hi),⟨s1,s2,s3,emsC_iff.1 s4,s5,s6⟩,fun i hi=>partK_iff.2 ⟨fun j hj=>sentK_iff.2 (knL_iff.1 (pastKB_iff.1 (P2 i hi).2.2.2.1 j hj).2),(ynx (Pa.ok_iff.1 (P2 i hi).2.1).2.2.2.2.2).1 (P2 i hi).2.2.2.2⟩,diff_is.2 ⟨fun e he=> ?_,d2⟩⟩
  ·have:=(P2 i hi).1
   omega
  ·rcases all_in he with ⟨i,hi,h1⟩|⟨i,hi,_,rfl⟩
   ·rcases in_all.1 h1 with ⟨j,hj,rfl⟩|⟨j,hj,rfl⟩
    ·exact(pastKB_iff.1 (P2 i hi).2.2.2.1 j hj).1
    ·exact(P3 i hi j hj).2
   ·exact(B1 i hi).2
theorem ycu {p:Prop} (h:p):Hid p:=h
theorem yjg {l:List Pa} {i:Nat} (h:i<l.length):yce (l.take (i+1))=yce (l.take i)++(paAt l i).all:=by
 rw [yi5 h]
 unfold yce
 rw [List.flatMap_append]
 simp
theorem yoi (l:List Pa) (j:Nat):(yce (l.take j)).length≤(yce l).length:=by
 have e:yce l=yce (l.take j)++yce (l.drop j):=by
  unfold yce
  rw [←List.flatMap_append,List.take_append_drop]
 rw [e,List.length_append]
 omega
theorem yvq {l:List Ml} {i:Nat} (h:i<l.length):bagE (l.take (i+1))=bagE (l.take i)++(if (mlAt l i).a then []else [(mlAt l i).e]):=by
 rw [ygh h]
 unfold bagE
 rw [List.flatMap_append]
 simp
theorem yvp (l:List Ml) (j:Nat):(bagE (l.take j)).length≤(bagE l).length:=by
 have e:bagE l=bagE (l.take j)++bagE (l.drop j):=by
  unfold bagE
  rw [←List.flatMap_append,List.take_append_drop]
 rw [e,List.length_append]
 omega
theorem yql {k:Kn} (h:k.wt≤1048576):(yce k.p).length+(bagE k.b).length≤1048576:=by
 have h1:=ypi h
 have h2:=(yjf k.p).length_eq
 rw [List.length_map]at h2
 rw [yqh,List.length_map]at h1
 omega
theorem OwnR.srcC {B:Nat} {w:World} {x:Value} {l:List Ev} (h:OwnR B w x l):SrcC w x 7 l.length (yag l):=IsD.src ((RowF.of_owns (yb7 l) h).own.isD) (yb7 l)
theorem RowE.more {B:Nat} {w:World} {v:Value} {l l':List Ev} (h:w.ownsRow B 110 7 v (l.length+l'.length) (yag l++yag l')):RowE B w v (l++l'):=by
 unfold RowE
 rw [List.length_append,yca]
 exact h
set_option maxRecDepth 100000 in
set_option maxHeartbeats 16000000 in
theorem yup (x:Value) (k:Kn) (w:World) (hs:ybt k) (h:IsKern w x k):
  Calls Tryz.prog 116 #[x] w fun e w'=>∃y,e= .returned y∧OwnR w.heap.size w' y (allK k)∧Below w.heap.size w w':=by
 have hall:=yql hs.2
 obtain⟨HSM0,hsk⟩:=hs
 have HSM:Hid (SmallM k.m):=HSM0
 obtain⟨hdl,hpl,hbl,hsl,hxl⟩:=yda hsk
 have HWP:=ycu (yd0 hsk)
 clear hsk HSM0
 obtain⟨ai,ci,ah,ch,ae,ce,ad,cd,ap,cp,ab,cb,au,cu,ax,cx,rfl,hm,hd,hp,hbg,hsu,hx⟩:=h.form
 have HM:=ycu hm
 have HD:=ycu hd
 have HPP:=ycu hp
 have HBG:=ycu hbg.rows
 have HSU:=ycu hsu.rows
 have HXX:=ycu hx.rows
 have HSUI:=ycu hsu
 have HXXI:=ycu hx
 have HK:=ycu h
 clear hm hd hp hbg hsu hx h
 obtain⟨W0,hW0⟩:=yet HK.out 57
 have HB0:Hid (Below w.heap.size w W0):=by rw [←hW0];exact(Below.refl _ w).alloc (Nat.le_refl _) _
 have HP0:Hid (Bk W0 w.heap.size 57 #[.int .i64 k.m.n,.int .i64 k.m.s,.slice ai k.m.i.length ci,.slice ah k.m.h.length ch,.slice ae k.m.e.length ce,.int .i64 k.m.z,.slice ad k.d.length cd,.slice ap k.p.length cp,.slice ab k.b.length cb,.int .i64 k.t,.int .i64 k.q,.bool k.f,.slice au k.s.length cu,.slice ax k.x.length cx]):=by rw [←hW0];exact Bk.new w _ _
 have HW:=ycu hW0
 have hs0:w.heap.size<W0.heap.size:=HP0.out.lt
 clear HM HD HSU HXX HSUI HXXI HK HSM hW0
 obtain⟨ie,hx0,hx1,hx2,hx3⟩:=info_parts ygv
 obtain⟨B,hB⟩:∃B,B=W0.heap.size:=⟨_,rfl⟩
 have hB1:B≤W0.heap.size:=by omega
 have hB2:w.heap.size<B:=by omega
 clear hB
 have hw:=HW.out
 have q7:=HP0.out.cell (i:=7) rfl
 go_enter Tryz.func116,Tryz.ntmps116
 go_wp2
 clear hw q7 HW
 go_loopw [3,11] (fun o i wr=>∃(j:Nat) (v:Value),j≤k.p.length∧v=o∧i= .int .i64 j∧RowE B wr o (yce (k.p.take j))∧Below B W0 wr) (fun _ i _=>k.p.length-(intOf i).toNat)
 case atStart=>exact⟨0,_,Nat.zero_le _,rfl,rfl,RowE.nil _ _,Below.refl _ _⟩
 case round=>
  obtain⟨j,o,hj,rfl,rfl,hR,hBr⟩:=hrel
  have HR:=ycu hR
  have HBB:Hid (Below B W0 wr):=hBr
  have HBr:=ycu (HB0.out.trans (hBr.mono (by omega)))
  have hs1:B≤wr.heap.size:=Nat.le_trans hB1 hBr.size
  clear hR hBr
  by_cases hlt:j<k.p.length
  ·obtain⟨b,off,rfl,hb,hPA⟩:=HPP.out.resolve_left (by intro e;rw [e]at hlt;simp at hlt)
   obtain⟨a1,c1,a4,c4,a5,c5,a6,c6,hp⟩:=hPA j hlt
   have f0:=cst HBr.out hb hp.f0
   have f1:=cst HBr.out hb hp.f1
   have f2:=cst HBr.out hb hp.f2
   have f3:=cst HBr.out hb hp.f3
   have f4:=cst HBr.out hb hp.f4
   have f5:=cst HBr.out hb hp.f5
   have f6:=cst HBr.out hb hp.f6
   have HIP:=ycu hp.isPart
   have HWj:=ycu (HWP.out j hlt)
   have HN:=ycu (yjg hlt)
   have hln:(yce (k.p.take j)).length+(paAt k.p j).all.length≤1048576:=by
    have h9:=yoi k.p (j+1)
    rw [yjg hlt,List.length_append]at h9
    omega
   generalize yce (k.p.take j)=lq at HR HN hln
   obtain⟨V,hV⟩:∃V,wr.alloc (.cells #[.int .i64 (paAt k.p j).n,.slice a1 (paAt k.p j).st.r.length c1,.int .i64 (paAt k.p j).st.q,.int .i64 (paAt k.p j).st.d,.slice a4 (paAt k.p j).p.length c4,.slice a5 (paAt k.p j).t.length c5,.slice a6 (paAt k.p j).a.length c6] 97)=V:=⟨_,rfl⟩
   have HBV:Hid (Below B W0 V):=by rw [←hV];exact HBB.out.alloc hs1 _
   have HRV:Hid (RowE B V o lq):=by rw [←hV];exact HR.out.alloc _
   have HX:=hdq (bkA hV)
   have HBw:=ycu (HB0.out.trans (HBV.out.mono (by omega)))
   have hsV:B≤V.heap.size:=Nat.le_trans hB1 HBV.out.size
   obtain⟨x0,x1,x2,x3,x4,x5,x6⟩:=c7_7 HX.out
   clear hp hPA
   go_wp2_with fail
   clear x0 x1 x2 x3 x4 x5 x6 f0 f1 f2 f3 f4 f5 f6 hV
   refine(yun _ (paAt k.p j) _ HWj.out (HIP.out.under HBw.out)).mono ?_
   rintro e w5 ⟨y,rfl,ho,hb5⟩
   have HR5:Hid (RowE B w5 o lq):=OwnR.below HRV.out hb5
   have HS5:=ycu ho.srcC
   have HB5:Hid (Below B W0 w5):=HBV.out.trans (hb5.mono hsV)
   have hs5:B≤w5.heap.size:=Nat.le_trans hsV hb5.size
   clear ho hb5
   generalize (paAt k.p j).all=la at HN hln HS5
   go_wp2_with (at_builtin;refine yat _ rfl _ _ 34 rfl B 110 ie (.agg #[.int .i64 0,.int .i64 0,.int .i64 0,.int .i64 0,.int .i64 0,.int .i64 0,.int .i64 0]) 7 56 Tryz.underlying34 hx0 hx1 hx2 hx3 rfl (by decide) o lq.length (yag lq) rfl HR5.out y la.length (yag la) rfl HS5.out (yhe la) (by unfold maxLen;omega) (by omega) hs5 ?_;intro v4 w4 hown hgrow hnew)
   go_roundw
   case rel=>exact⟨j+1,_,by omega,rfl,by go_num,by rw [HN.out];exact RowE.more hown,HB5.out.grown hgrow hs5 (fun q e=>RowE.ge HR5.out e)⟩
   case measure=>simp [intOf];omega
  ·obtain rfl:k.p.length=j:=by omega
   rw [List.take_length]at HR
   obtain⟨W1,rfl⟩:∃W1,W1=wr:=⟨wr,rfl⟩
   have HR1:=ycu HR.out
   have HBB1:Hid (Below B W0 W1):=HBB.out
   have HP1:=ycu (HP0.out.lowB HBB.out hB2)
   have m8:=HP1.out.cell (i:=8) rfl
   clear HR HBB HBr hj hlt hs1
   go_wp2
   clear m8
   go_loopw [3,23] (fun o i wr=>∃(j:Nat) (v:Value),j≤k.b.length∧v=o∧i= .int .i64 j∧RowE B wr o (yce k.p++bagE (k.b.take j))∧Below B W0 wr) (fun _ i _=>k.b.length-(intOf i).toNat)
   case atStart=>exact⟨0,_,Nat.zero_le _,rfl,rfl,by simpa [bagE] using HR1.out,HBB1.out⟩
   case round=>
    clear HR1 HBB1 HP1
    obtain⟨j,o,hj,rfl,rfl,hR,hBr⟩:=hrel
    have HR:=ycu hR
    have HBB:Hid (Below B W0 wr):=hBr
    have HBr:=ycu (HB0.out.trans (hBr.mono (by omega)))
    have hs1:B≤wr.heap.size:=Nat.le_trans hB1 hBr.size
    clear hR hBr
    by_cases hlt:j<k.b.length
    ·obtain⟨b,off,rfl,hb,hMA⟩:=HBG.out.resolve_left (by intro e;rw [e]at hlt;simp at hlt)
     obtain⟨f0,f1,f2,f3,f4,f5,f6,f7⟩:=(hMA j hlt).below HBr.out hb
     have HN:Hid (yce k.p++bagE (k.b.take (j+1))=(yce k.p++bagE (k.b.take j))++(if (mlAt k.b j).a then []else [(mlAt k.b j).e])):=(by rw [yvq hlt,List.append_assoc]:yce k.p++bagE (k.b.take (j+1))=_)
     have hln:(yce k.p++bagE (k.b.take j)).length≤3000000:=by have h9:=yvp k.b j;rw [List.length_append];omega
     generalize yce k.p++bagE (k.b.take j)=lq at HR HN hln
     obtain⟨V,hV⟩:∃V,wr.alloc (.cells #[.int .i64 (mlAt k.b j).e.t,.int .i64 (mlAt k.b j).e.s,.int .i64 (mlAt k.b j).e.q,.int .i64 (mlAt k.b j).e.d,.int .i64 (mlAt k.b j).e.k,.int .i64 (mlAt k.b j).e.v,.int .i64 (mlAt k.b j).e.g,.bool (mlAt k.b j).a] 148)=V:=⟨_,rfl⟩
     have HBV:Hid (Below B W0 V):=by rw [←hV];exact HBB.out.alloc hs1 _
     have HRV:Hid (RowE B V o lq):=by rw [←hV];exact HR.out.alloc _
     have HX:=hdq (bkA hV)
     have hsV:B≤V.heap.size:=Nat.le_trans hB1 HBV.out.size
     obtain⟨x0,x1,x2,x3,x4,x5,x6,x7⟩:=c8_8 HX.out
     clear hMA
     cases ha:(mlAt k.b j).a
     case true=>
      have HNN:Hid (yce k.p++bagE (k.b.take (j+1))=lq):=by show _=_;rw [HN.out,ha];simp
      rw [ha]at x7
      clear ha
      go_wp2
      go_roundw
      case rel=>exact⟨j+1,_,by omega,rfl,by go_num,by rw [HNN.out];exact HRV.out,HBV.out⟩
      case measure=>simp [intOf];omega
     have HNN:Hid (yce k.p++bagE (k.b.take (j+1))=lq++ [(mlAt k.b j).e]):=by show _=_;rw [HN.out,ha];rfl
     rw [ha]at x7
     clear ha
     go_wp2_with (at_builtin;refine wpList_append_own _ rfl _ _ 34 rfl B 110 ie (.agg #[.int .i64 0,.int .i64 0,.int .i64 0,.int .i64 0,.int .i64 0,.int .i64 0,.int .i64 0]) 7 56 Tryz.underlying34 hx0 hx1 hx2 hx3 rfl (by decide) o _ _ rfl (World.ownsRow.alloc HRV.out _) ⟨V.heap.size,0,none⟩ 1 1 ((mlAt k.b j).e).cs rfl rfl (ypd _ (mlAt k.b j).e) (ynn (mlAt k.b j).e) (by unfold maxLen;omega) (by omega) (by simp;omega) ?_;intro v4 w4 hown hgrow hnil)
     go_roundw
     case rel=>exact⟨j+1,_,by omega,rfl,by go_num,by rw [HNN.out];exact RowE.grow hown,(HBV.out.alloc hsV _).grown hgrow (by simp;omega) (fun q e=>RowE.ge HRV.out e)⟩
     case measure=>simp [intOf];omega
    ·obtain rfl:k.b.length=j:=by omega
     rw [List.take_length]at HR
     have HRa:Hid (OwnR B wr o (allK k)):=HR.out
     obtain⟨ao,co,rfl,_,_,_⟩:=HRa.out.evs
     go_wp2
     go_ret
     exact⟨_,rfl,HRa.out.mono (by omega),HBr.out⟩
end Go.Proofs.YtmobiieoecjmdaaGreat

