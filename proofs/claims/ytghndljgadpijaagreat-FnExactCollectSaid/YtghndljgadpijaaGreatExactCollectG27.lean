/- KIf, KIe -/
import Derived.Test.YtghndljgadpijaaGreatExactCollectG01
import Derived.Test.YtghndljgadpijaaGreatExactCollectG26
import Derived.Test.YtghndljgadpijaaGreatExactCollectG17
/- The program's partsOk. -/
namespace Go.Proofs.YtghndljgadpijaaGreat
open Go.RowKit
theorem yy2 {p:Prop} (h:p):Hid p:=h
noncomputable def zj2 (k : Kn) (i : Nat) : Bool := decide ((paAt k.p i).n = (i : Int)) && (paAt k.p i).ok && knL k (paAt k.p i).t && zc7 k (paAt k.p i) && ze1 k.t (paAt k.p i).a
noncomputable def yz3 (k : Kn) : Bool := decide ((k.p.length : Int) = k.m.n) && allB k.p.length (zj2 k)
theorem partI_iff {k:Kn} {i:Nat}:zj2 k i=true↔(paAt k.p i).n=(i:Int)∧(paAt k.p i).ok=true∧knL k (paAt k.p i).t=true∧zc7 k (paAt k.p i)=true∧ze1 k.t (paAt k.p i).a=true:=by
  unfold zj2
  simp only [Bool.and_eq_true,decide_eq_true_eq,and_assoc]
theorem partsKB_iff {k:Kn}:yz3 k=true↔(k.p.length:Int)=k.m.n∧ ∀i,i<k.p.length→zj2 k i=true:=by
  unfold yz3
  simp only [Bool.and_eq_true,decide_eq_true_eq,allB_iff]
set_option maxRecDepth 100000 in
set_option maxHeartbeats 16000000 in
theorem iPartsOk (x:Value) (k:Kn) (w:World) (hs:ywy k) (h:IsKern w x k):
    Calls Tryz.prog 131 #[x] w fun e w'=>e= .returned (.bool (yz3 k))∧Below w.heap.size w w':=by
  obtain⟨HSM0,hsk⟩:=hs
  have HSM:Hid (SmallM k.m):=HSM0
  obtain⟨hdl,hpl,hbl,hsl,hxl⟩:=yyp hsk
  have HWP:=yy2 (yyf hsk)
  clear hsk HSM0
  obtain⟨ai,ci,ah,ch,ae,ce,ad,cd,ap,cp,ab,cb,au,cu,ax,cx,rfl,hm,hd,hp,hbg,hsu,hx⟩:=h.form
  have HM:=yy2 hm
  have HD:=yy2 hd
  have HPP:=yy2 hp
  have HBG:=yy2 hbg.rows
  have HSU:=yy2 hsu.rows
  have HXX:=yy2 hx.rows
  have HSUI:=yy2 hsu
  have HXXI:=yy2 hx
  have HK:=yy2 h
  clear hm hd hp hbg hsu hx h
  obtain⟨W0,hW0⟩:=alIsKern HK.out 41
  have HB0:Hid (Below w.heap.size w W0):=by rw [←hW0];exact(Below.refl _ w).alloc (Nat.le_refl _) _
  have HP0:Hid (Bk W0 w.heap.size 41 #[.int .i64 k.m.n,.int .i64 k.m.s,.slice ai k.m.i.length ci,.slice ah k.m.h.length ch,.slice ae k.m.e.length ce,.int .i64 k.m.z,.slice ad k.d.length cd,.slice ap k.p.length cp,.slice ab k.b.length cb,.int .i64 k.t,.int .i64 k.q,.bool k.f,.slice au k.s.length cu,.slice ax k.x.length cx]):=by rw [←hW0];exact Bk.new w _ _
  have HW:=yy2 hW0
  have hs0:w.heap.size<W0.heap.size:=HP0.out.lt
  clear hW0
  have hw:=HW.out
  have q7:=HP0.out.cell (i:=7) rfl
  have q0:=HP0.out.cell (i:=0) rfl
  by_cases c1:(k.p.length:Int)=k.m.n
  case neg=>
    have c1':((k.p.length:Int) !=k.m.n)=true:=by simpa using c1
    have HN:Hid (yz3 k=false):=ywj (fun h=>c1 (partsKB_iff.1 h).1)
    clear c1
    go_enter Tryz.func131,Tryz.ntmps131
    go_wp2
    go_ret
    exact⟨ye8 HN.out.symm,HB0.out⟩
  have c1':((k.p.length:Int) !=k.m.n)=false:=by simpa using c1
  have HC1:=yy2 c1
  clear c1
  go_enter Tryz.func131,Tryz.ntmps131
  go_wp2
  clear q7 q0 hw c1'
  go_loopw [15] (fun i wr=>∃j:Nat,j≤k.p.length∧i= .int .i64 j∧Hid (∀i,i<j→zj2 k i=true)∧Below W0.heap.size W0 wr) (fun i _=>k.p.length-(intOf i).toNat)
  case atStart=>exact⟨0,Nat.zero_le _,rfl,fun j hj=>by omega,Below.refl _ _⟩
  case round=>
    obtain⟨j,hj,rfl,HA,hB⟩:=hrel
    have HBr:=trh HB0 hB
    have HBr2:=yy2 hB
    have HKr:=yy2 (HP0.out.below hB)
    clear hB
    by_cases hlt:j<k.p.length
    · obtain⟨b,off,rfl,hPA⟩:=HPP.out.resolve_left (by intro e;rw [e]at hlt;simp at hlt)
      obtain⟨a1,c1,a4,c4,a5,c5,a6,c6,hp⟩:=hPA.2 j hlt
      have hb:b<w.heap.size:=hPA.1
      have f0:=cst HBr.out hb hp.f0
      have f1:=cst HBr.out hb hp.f1
      have f2:=cst HBr.out hb hp.f2
      have f3:=cst HBr.out hb hp.f3
      have f4:=cst HBr.out hb hp.f4
      have f5:=cst HBr.out hb hp.f5
      have f6:=cst HBr.out hb hp.f6
      have HIP:=yy2 hp.isPart
      have HTD:=yy2 hp.d5.isEvs
      have HWj:=yy2 (HWP.out j hlt)
      have hlens:(paAt k.p j).t.length≤1048576∧(paAt k.p j).a.length≤1048576:=by
        have h9:=HWj.out
        unfold Pa.wt at h9
        simp only [ywf,yx0]at h9
        omega
      obtain⟨htl,hal⟩:=hlens
      have HNO:Hid (¬zj2 k j=true→yz3 k=false):=fun h1=>ywj (fun h=>h1 ((partsKB_iff.1 h).2 j hlt))
      obtain⟨V,hV⟩:∃V,wr.alloc (.cells #[.int .i64 (paAt k.p j).n,.slice a1 (paAt k.p j).st.r.length c1,.int .i64 (paAt k.p j).st.q,.int .i64 (paAt k.p j).st.d,.slice a4 (paAt k.p j).p.length c4,.slice a5 (paAt k.p j).t.length c5,.slice a6 (paAt k.p j).a.length c6] 97)=V:=⟨_,rfl⟩
      have HB1:=hdq (beA hV)
      have HX1:=hdq (bkA hV)
      have HK1:=yy2 (HKr.out.below HB1.out)
      clear hPA hp
      obtain⟨x0,x1,x2,x3,x4,x5,x6⟩:=c7_7 HX1.out
      by_cases hn:(paAt k.p j).n=(j:Int)
      case neg=>
        have hn':((paAt k.p j).n !=(j:Int))=true:=by simpa using hn
        have HN:Hid (yz3 k=false):=HNO.out (fun h=>hn (partI_iff.1 h).1)
        clear hn
        go_wp2
        go_ret
        exact⟨ye8 HN.out.symm,trm HBr.out HB1.out⟩
      have hn':((paAt k.p j).n !=(j:Int))=false:=by simpa using hn
      have HN1:=yy2 hn
      clear hn
      go_wp2_with fail
      clear f0 f1 f2 f3 f4 f5 f6 hV x0 x1 x2 x3 x4 x5 x6 hn'
      refine(zme _ (paAt k.p j) _ HWj.out (HIP.out.under (trm HBr.out HB1.out))).mono ?_
      rintro e w2 ⟨rfl,hb9⟩
      have HB2:=trh HB1 hb9
      have HX2:=yy2 (HX1.out.below hb9)
      have HK2:=yy2 (HK1.out.below hb9)
      clear hb9
      cases hbb:(paAt k.p j).ok
      case false=>
        have HN:Hid (yz3 k=false):=HNO.out (fun h=>by have h1:=(partI_iff.1 h).2.1;rw [hbb]at h1;cases h1)
        clear hbb
        go_wp2
        go_ret
        exact⟨ye8 HN.out.symm,trm HBr.out HB2.out⟩
      have HT2:=yy2 hbb
      clear hbb
      obtain⟨k0,k1,k2,k3,k4,k5,k6,k7,k8,k9,k10,k11,k12,k13⟩:=ywd HK2.out
      have x5:=HX2.out.cell (i:=5) rfl
      go_wp2_with fail
      clear k0 k1 k2 k3 k4 k5 k6 k7 k8 k9 k10 k11 k12 k13 x5
      refine(zgf _ k a5 c5 (paAt k.p j).t _ rfl _ (HK.out.under (trm HBr.out HB2.out)) htl (Nat.lt_of_le_of_lt (Nat.zero_le _) HX2.out.lt) (HTD.out.below (trm HBr.out HB2.out))).mono ?_
      rintro e w3 ⟨rfl,hb9⟩
      have HB3:=trh HB2 hb9
      have HX3:=yy2 (HX2.out.below hb9)
      have HK3:=yy2 (HK2.out.below hb9)
      clear hb9
      cases hbb:knL k (paAt k.p j).t
      case false=>
        have HN:Hid (yz3 k=false):=HNO.out (fun h=>by have h1:=(partI_iff.1 h).2.2.1;rw [hbb]at h1;cases h1)
        clear hbb
        go_wp2
        go_ret
        exact⟨ye8 HN.out.symm,trm HBr.out HB3.out⟩
      have HT3:=yy2 hbb
      clear hbb
      obtain⟨k0,k1,k2,k3,k4,k5,k6,k7,k8,k9,k10,k11,k12,k13⟩:=ywd HK3.out
      obtain⟨x0,x1,x2,x3,x4,x5,x6⟩:=c7_7 HX3.out
      go_wp2_with fail
      clear k0 k1 k2 k3 k4 k5 k6 k7 k8 k9 k10 k11 k12 k13 x0 x1 x2 x3 x4 x5 x6
      refine(iPastK _ _ k (paAt k.p j) _ HWj.out (HK.out.under (trm HBr.out HB3.out)) (HIP.out.under (trm HBr.out HB3.out))).mono ?_
      rintro e w4 ⟨rfl,hb9⟩
      have HB4:=trh HB3 hb9
      have HX4:=yy2 (HX3.out.below hb9)
      have HK4:=yy2 (HK3.out.below hb9)
      clear hb9
      cases hbb:zc7 k (paAt k.p j)
      case false=>
        have HN:Hid (yz3 k=false):=HNO.out (fun h=>by have h1:=(partI_iff.1 h).2.2.2.1;rw [hbb]at h1;cases h1)
        clear hbb
        go_wp2
        go_ret
        exact⟨ye8 HN.out.symm,trm HBr.out HB4.out⟩
      have HT4:=yy2 hbb
      clear hbb
      obtain⟨k0,k1,k2,k3,k4,k5,k6,k7,k8,k9,k10,k11,k12,k13⟩:=ywd HK4.out
      obtain⟨x0,x1,x2,x3,x4,x5,x6⟩:=c7_7 HX4.out
      go_wp2_with fail
      clear k0 k1 k2 k3 k4 k5 k6 k7 k8 k9 k10 k11 k12 k13 x0 x1 x2 x3 x4 x5 x6
      refine(iAntis8 _ _ k (paAt k.p j) _ hal (HK.out.under (trm HBr.out HB4.out)) (HIP.out.under (trm HBr.out HB4.out))).mono ?_
      rintro e w5 ⟨rfl,hb9⟩
      have HB5:=trh HB4 hb9
      have HX5:=yy2 (HX4.out.below hb9)
      have HK5:=yy2 (HK4.out.below hb9)
      clear hb9
      cases hbb:ze1 k.t (paAt k.p j).a
      case false=>
        have HN:Hid (yz3 k=false):=HNO.out (fun h=>by have h1:=(partI_iff.1 h).2.2.2.2;rw [hbb]at h1;cases h1)
        clear hbb
        go_wp2
        go_ret
        exact⟨ye8 HN.out.symm,trm HBr.out HB5.out⟩
      have HT5:=yy2 hbb
      clear hbb
      have K9:Hid (zj2 k j=true):=partI_iff.2 ⟨HN1.out,HT2.out,HT3.out,HT4.out,HT5.out⟩
      go_wp2
      go_roundw
      case rel=>exact⟨j+1,by omega,by go_num,fun i hi=>by
        by_cases e:i=j
        · subst e;exact K9.out
        · exact HA.out i (by omega),trm HBr2.out HB5.out⟩
      case measure=>simp [intOf];omega
    · obtain rfl:k.p.length=j:=by omega
      have HY:Hid (yz3 k=true):=partsKB_iff.2 ⟨HC1.out,HA.out⟩
      go_wp2
      go_ret
      exact⟨ye8 HY.out.symm,HBr.out⟩
theorem yzy {p:Prop} (h:p):Hid p:=h
def zf2 (k:Kn):Bool:=allB k.b.length (fun i=>knB k.m k.t (mlAt k.b i).e)
set_option maxRecDepth 100000 in
set_option maxHeartbeats 8000000 in
theorem iBagOk (x:Value) (k:Kn) (w:World) (hs:ywy k) (h:IsKern w x k):
    Calls Tryz.prog 132 #[x] w fun e w'=>e= .returned (.bool (zf2 k))∧Below w.heap.size w w':=by
  obtain⟨HSM0,hsk⟩:=hs
  have HSM:Hid (SmallM k.m):=HSM0
  obtain⟨hdl,hpl,hbl,hsl,hxl⟩:=yyp hsk
  have HWP:=yzy (yyf hsk)
  clear hsk HSM0
  obtain⟨ai,ci,ah,ch,ae,ce,ad,cd,ap,cp,ab,cb,au,cu,ax,cx,rfl,hm,hd,hp,hbg,hsu,hx⟩:=h.form
  have HM:=yzy hm
  have HD:=yzy hd
  have HPP:=yzy hp
  have HBG:=yzy hbg.rows
  have HSU:=yzy hsu.rows
  have HXX:=yzy hx.rows
  have HSUI:=yzy hsu
  have HXXI:=yzy hx
  have HK:=yzy h
  clear hm hd hp hbg hsu hx h
  obtain⟨W0,hW0⟩:=alIsKern HK.out 41
  have HB0:Hid (Below w.heap.size w W0):=by rw [←hW0];exact(Below.refl _ w).alloc (Nat.le_refl _) _
  have HP0:Hid (Bk W0 w.heap.size 41 #[.int .i64 k.m.n,.int .i64 k.m.s,.slice ai k.m.i.length ci,.slice ah k.m.h.length ch,.slice ae k.m.e.length ce,.int .i64 k.m.z,.slice ad k.d.length cd,.slice ap k.p.length cp,.slice ab k.b.length cb,.int .i64 k.t,.int .i64 k.q,.bool k.f,.slice au k.s.length cu,.slice ax k.x.length cx]):=by rw [←hW0];exact Bk.new w _ _
  have HW:=yzy hW0
  have hs0:w.heap.size<W0.heap.size:=HP0.out.lt
  clear hW0
  have hw:=HW.out
  have q8:=HP0.out.cell (i:=8) rfl
  go_enter Tryz.func132,Tryz.ntmps132
  go_wp2
  clear q8 hw
  go_loopw [8] (fun i wr=>∃j:Nat,j≤k.b.length∧i= .int .i64 j∧Hid (∀i,i<j→knB k.m k.t (mlAt k.b i).e=true)∧Below W0.heap.size W0 wr) (fun i _=>k.b.length-(intOf i).toNat)
  case atStart=>exact⟨0,Nat.zero_le _,rfl,fun j hj=>by omega,Below.refl _ _⟩
  case round=>
    obtain⟨j,hj,rfl,HA,hB⟩:=hrel
    have HBr:=trh HB0 hB
    have HBr2:=yzy hB
    have HKr:=yzy (HP0.out.below hB)
    clear hB
    by_cases hlt:j<k.b.length
    · obtain⟨b,off,rfl,hb,hc⟩:=HBG.out.resolve_left (by intro e;rw [e]at hlt;simp at hlt)
      obtain⟨f0,f1,f2,f3,f4,f5,f6,f7⟩:=(hc j hlt).below HBr.out hb
      have HNO:Hid (¬knB k.m k.t (mlAt k.b j).e=true→zf2 k=false):=fun h1=>ywj (fun h=>h1 (allB_iff.1 h j hlt))
      obtain⟨V,hV⟩:∃V,wr.alloc (.cells #[.int .i64 (mlAt k.b j).e.t,.int .i64 (mlAt k.b j).e.s,.int .i64 (mlAt k.b j).e.q,.int .i64 (mlAt k.b j).e.d,.int .i64 (mlAt k.b j).e.k,.int .i64 (mlAt k.b j).e.v,.int .i64 (mlAt k.b j).e.g,.bool (mlAt k.b j).a] 152)=V:=⟨_,rfl⟩
      have HB1:=hdq (beA hV)
      have HX:=hdq (bkA hV)
      have HKV:=yzy (HKr.out.below HB1.out)
      have HBV:=trh HBr HB1.out
      obtain⟨x0,x1,x2,x3,x4,x5,x6,x7⟩:=c8_8 HX.out
      obtain⟨k0,k1,k2,k3,k4,k5,k6,k7,k8,k9,k10,k11,k12,k13⟩:=ywd HKV.out
      obtain⟨V2,hV2⟩:∃V2,V.alloc (.cells #[.int .i64 (mlAt k.b j).e.t,.int .i64 (mlAt k.b j).e.s,.int .i64 (mlAt k.b j).e.q,.int .i64 (mlAt k.b j).e.d,.int .i64 (mlAt k.b j).e.k,.int .i64 (mlAt k.b j).e.v,.int .i64 (mlAt k.b j).e.g] 90)=V2:=⟨_,rfl⟩
      have HB2:Hid (Below wr.heap.size wr V2):=by rw [←hV2];exact HB1.out.alloc HB1.out.size _
      have HX2:=hdq (bkA hV2)
      have HBV2:=trh HBr HB2.out
      have HIE:Hid (IsEvs V2 (.slice (some ⟨V.heap.size,0,none⟩) ([(mlAt k.b j).e]:List Ev).length 1) [(mlAt k.b j).e]):=⟨_,1,rfl,Nat.le_refl _,by unfold maxLen;omega,.inr ⟨V.heap.size,0,rfl,HX2.out.lt,fun i hi=>by
        obtain rfl:i=0:=by simp at hi;omega
        exact⟨HX2.out.cell (i:=0) rfl,HX2.out.cell (i:=1) rfl,HX2.out.cell (i:=2) rfl,HX2.out.cell (i:=3) rfl,HX2.out.cell (i:=4) rfl,HX2.out.cell (i:=5) rfl,HX2.out.cell (i:=6) rfl⟩⟩⟩
      have HL1:Hid (knL k [(mlAt k.b j).e]=knB k.m k.t (mlAt k.b j).e):=(by simp [knL,allB,evAt]:knL k [(mlAt k.b j).e]=_)
      have HV2:=yzy hV2
      clear hc hV2
      go_wp2_with fail
      try rw [HV2.out]
      clear f0 f1 f2 f3 f4 f5 f6 f7 x0 x1 x2 x3 x4 x5 x6 x7 hV k0 k1 k2 k3 k4 k5 k6 k7 k8 k9 k10 k11 k12 k13
      refine(zgf _ k (some ⟨V.heap.size,0,none⟩) 1 [(mlAt k.b j).e] _ rfl _ (HK.out.under HBV2.out) (by simp) (Nat.lt_of_le_of_lt (Nat.zero_le _) HX2.out.lt) HIE.out).mono ?_
      rintro e w3 ⟨rfl,hb3⟩
      have HB3:=trh HB2 hb3
      clear hb3
      rw [HL1.out]
      cases hkn:knB k.m k.t (mlAt k.b j).e with
      |false=>
        have HN:Hid (zf2 k=false):=HNO.out (fun h=>by rw [hkn]at h;cases h)
        clear hkn
        go_wp2
        go_ret
        exact⟨ye8 HN.out.symm,trm HBr.out HB3.out⟩
      |true=>
        have K9:=yzy hkn
        clear hkn
        go_wp2
        go_roundw
        case rel=>exact⟨j+1,by omega,by go_num,fun i hi=>by
          by_cases e:i=j
          · subst e;exact K9.out
          · exact HA.out i (by omega),trm HBr2.out HB3.out⟩
        case measure=>simp [intOf];omega
    · obtain rfl:k.b.length=j:=by omega
      have HY:Hid (zf2 k=true):=allB_iff.2 HA.out
      go_wp2
      go_ret
      exact⟨ye8 HY.out.symm,HBr.out⟩
end Go.Proofs.YtghndljgadpijaaGreat

