/- KIf, KIe, KPe, KIi -/
import Derived.Test.YtmobiieoecjmdaaGreatExactTableG28
import Derived.Test.YtmobiieoecjmdaaGreatExactTableG15
import Derived.Test.YtmobiieoecjmdaaGreatExactTableG27
import Derived.Test.YtmobiieoecjmdaaGreatExactTableLKSg
import Derived.Test.YtmobiieoecjmdaaGreatExactTableG14
import Derived.Test.YtmobiieoecjmdaaGreatExactTableG23
/- The program's partsOk. -/
namespace Go.Proofs.YtmobiieoecjmdaaGreat
open Go.RowKit
noncomputable def partI (k : Kn) (i : Nat) : Bool := decide ((paAt k.p i).n = (i : Int)) && (paAt k.p i).ok && knL k (paAt k.p i).t && pastKB k (paAt k.p i) && antiL k.t (paAt k.p i).a
noncomputable def partsKB (k : Kn) : Bool := decide ((k.p.length : Int) = k.m.n) && allB k.p.length (partI k)
theorem partI_iff {k:Kn} {i:Nat}:partI k i=true↔(paAt k.p i).n=(i:Int)∧(paAt k.p i).ok=true∧knL k (paAt k.p i).t=true∧pastKB k (paAt k.p i)=true∧antiL k.t (paAt k.p i).a=true:=by
 unfold partI
 simp only [Bool.and_eq_true,decide_eq_true_eq,and_assoc]
theorem partsKB_iff {k:Kn}:partsKB k=true↔(k.p.length:Int)=k.m.n∧ ∀i,i<k.p.length→partI k i=true:=by
 unfold partsKB
 simp only [Bool.and_eq_true,decide_eq_true_eq,allB_iff]
set_option maxRecDepth 100000 in
set_option maxHeartbeats 16000000 in
theorem iPartsOk (x:Value) (k:Kn) (w:World) (hs:SmallK k) (h:IsKern w x k):
  Calls Tryz.prog 113 #[x] w fun e w'=>e= .returned (.bool (partsKB k))∧Below w.heap.size w w':=by
 obtain⟨HSM0,hsk⟩:=hs
 have HSM:Hid (SmallM k.m):=HSM0
 obtain⟨hdl,hpl,hbl,hsl,hxl⟩:=wt_lens hsk
 have HWP:Hid (∀i,i<k.p.length→(paAt k.p i).wt≤1048576):=wt_parts hsk
 clear hsk HSM0
 obtain⟨ai,ci,ah,ch,ae,ce,ad,cd,ap,cp,ab,cb,au,cu,ax,cx,rfl,hm,hd,hp,hbg,hsu,hx⟩:=h.form
 have HM:Hid (IsM w (.agg #[.int .i64 k.m.n,.int .i64 k.m.s,.slice ai k.m.i.length ci,.slice ah k.m.h.length ch,.slice ae k.m.e.length ce,.int .i64 k.m.z]) k.m):=hm
 have HD:Hid (IsI w (.slice ad k.d.length cd) k.d):=hd
 have HPP:Hid (k.p= []∨ ∃b off,ap=some ⟨b,off,none⟩∧PasAt w b off k.p):=hp
 have HBG:Hid (k.b= []∨ ∃b off,ab=some ⟨b,off,none⟩∧MlsAt w b off k.b):=hbg.rows
 have HSU:Hid (k.s= []∨ ∃b off,au=some ⟨b,off,none⟩∧EvsAt w b off k.s):=hsu.rows
 have HXX:Hid (k.x= []∨ ∃b off,ax=some ⟨b,off,none⟩∧XsAt w b off k.x):=hx.rows
 have HSUI:Hid (IsEvs w (.slice au k.s.length cu) k.s):=hsu
 have HXXI:Hid (IsX w (.slice ax k.x.length cx) k.x):=hx
 have HK:Hid (IsKern w (.agg #[.int .i64 k.m.n,.int .i64 k.m.s,.slice ai k.m.i.length ci,.slice ah k.m.h.length ch,.slice ae k.m.e.length ce,.int .i64 k.m.z,.slice ad k.d.length cd,.slice ap k.p.length cp,.slice ab k.b.length cb,.int .i64 k.t,.int .i64 k.q,.bool k.f,.slice au k.s.length cu,.slice ax k.x.length cx]) k):=h
 clear hm hd hp hbg hsu hx h
 obtain⟨W0,hW0⟩:∃W0,w.alloc (.cells #[.int .i64 k.m.n,.int .i64 k.m.s,.slice ai k.m.i.length ci,.slice ah k.m.h.length ch,.slice ae k.m.e.length ce,.int .i64 k.m.z,.slice ad k.d.length cd,.slice ap k.p.length cp,.slice ab k.b.length cb,.int .i64 k.t,.int .i64 k.q,.bool k.f,.slice au k.s.length cu,.slice ax k.x.length cx] 57)=W0:=⟨_,rfl⟩
 have HB0:Hid (Below w.heap.size w W0):=by rw [←hW0];exact(Below.refl _ w).alloc (Nat.le_refl _) _
 have HP0:Hid (Bk W0 w.heap.size 57 #[.int .i64 k.m.n,.int .i64 k.m.s,.slice ai k.m.i.length ci,.slice ah k.m.h.length ch,.slice ae k.m.e.length ce,.int .i64 k.m.z,.slice ad k.d.length cd,.slice ap k.p.length cp,.slice ab k.b.length cb,.int .i64 k.t,.int .i64 k.q,.bool k.f,.slice au k.s.length cu,.slice ax k.x.length cx]):=by rw [←hW0];exact Bk.new w _ _
 have HW:Hid (w.alloc (.cells #[.int .i64 k.m.n,.int .i64 k.m.s,.slice ai k.m.i.length ci,.slice ah k.m.h.length ch,.slice ae k.m.e.length ce,.int .i64 k.m.z,.slice ad k.d.length cd,.slice ap k.p.length cp,.slice ab k.b.length cb,.int .i64 k.t,.int .i64 k.q,.bool k.f,.slice au k.s.length cu,.slice ax k.x.length cx] 57)=W0):=hW0
 have hs0:w.heap.size<W0.heap.size:=HP0.out.lt
 clear hW0
 have hw:=HW.out
 have q7:=HP0.out.cell (i:=7) rfl
 have q0:=HP0.out.cell (i:=0) rfl
 by_cases c1:(k.p.length:Int)=k.m.n
 case neg=>
  have c1':((k.p.length:Int) !=k.m.n)=true:=by simpa using c1
  have HN:Hid (partsKB k=false):=bool_no (fun h=>c1 (partsKB_iff.1 h).1)
  clear c1
  go_enter Tryz.func113,Tryz.ntmps113
  go_wp2
  go_ret
  exact⟨ret_bool HN.out.symm,HB0.out⟩
 have c1':((k.p.length:Int) !=k.m.n)=false:=by simpa using c1
 have HC1:Hid ((k.p.length:Int)=k.m.n):=c1
 clear c1
 go_enter Tryz.func113,Tryz.ntmps113
 go_wp2
 clear q7 q0 hw c1'
 go_loopw [15] (fun i wr=>∃j:Nat,j≤k.p.length∧i= .int .i64 j∧Hid (∀i,i<j→partI k i=true)∧Below W0.heap.size W0 wr) (fun i _=>k.p.length-(intOf i).toNat)
 case atStart=>exact⟨0,Nat.zero_le _,rfl,fun j hj=>by omega,Below.refl _ _⟩
 case round=>
  obtain⟨j,hj,rfl,HA,hB⟩:=hrel
  have HBr:Hid (Below w.heap.size w wr):=HB0.out.trans (hB.mono HB0.out.size)
  have HBr2:Hid (Below W0.heap.size W0 wr):=hB
  have HKr:Hid (Bk wr w.heap.size 57 #[.int .i64 k.m.n,.int .i64 k.m.s,.slice ai k.m.i.length ci,.slice ah k.m.h.length ch,.slice ae k.m.e.length ce,.int .i64 k.m.z,.slice ad k.d.length cd,.slice ap k.p.length cp,.slice ab k.b.length cb,.int .i64 k.t,.int .i64 k.q,.bool k.f,.slice au k.s.length cu,.slice ax k.x.length cx]):=HP0.out.below hB
  clear hB
  by_cases hlt:j<k.p.length
  ·obtain⟨b,off,rfl,hPA⟩:=HPP.out.resolve_left (by intro e;rw [e]at hlt;simp at hlt)
   obtain⟨a1,c1,a4,c4,a5,c5,a6,c6,hp⟩:=hPA.2 j hlt
   have hb:b<w.heap.size:=hPA.1
   have f0:=(HBr.out.cell (p:=⟨b,_,none⟩) hb).trans hp.f0
   have f1:=(HBr.out.cell (p:=⟨b,_,none⟩) hb).trans hp.f1
   have f2:=(HBr.out.cell (p:=⟨b,_,none⟩) hb).trans hp.f2
   have f3:=(HBr.out.cell (p:=⟨b,_,none⟩) hb).trans hp.f3
   have f4:=(HBr.out.cell (p:=⟨b,_,none⟩) hb).trans hp.f4
   have f5:=(HBr.out.cell (p:=⟨b,_,none⟩) hb).trans hp.f5
   have f6:=(HBr.out.cell (p:=⟨b,_,none⟩) hb).trans hp.f6
   have HIP:Hid (IsPart w (.agg #[.int .i64 (paAt k.p j).n,.slice a1 (paAt k.p j).st.r.length c1,.int .i64 (paAt k.p j).st.q,.int .i64 (paAt k.p j).st.d,.slice a4 (paAt k.p j).p.length c4,.slice a5 (paAt k.p j).t.length c5,.slice a6 (paAt k.p j).a.length c6]) (paAt k.p j)):=hp.isPart
   have HTD:Hid (IsEvs w (.slice a5 (paAt k.p j).t.length c5) (paAt k.p j).t):=hp.d5.isEvs
   have HWj:Hid ((paAt k.p j).wt≤1048576):=HWP.out j hlt
   have hlens:(paAt k.p j).t.length≤1048576∧(paAt k.p j).a.length≤1048576:=by
    have h9:=HWj.out
    unfold Pa.wt at h9
    simp only [ints_wt,evs_wt]at h9
    omega
   obtain⟨htl,hal⟩:=hlens
   have HNO:Hid (¬partI k j=true→partsKB k=false):=fun h1=>bool_no (fun h=>h1 ((partsKB_iff.1 h).2 j hlt))
   obtain⟨V,hV⟩:∃V,wr.alloc (.cells #[.int .i64 (paAt k.p j).n,.slice a1 (paAt k.p j).st.r.length c1,.int .i64 (paAt k.p j).st.q,.int .i64 (paAt k.p j).st.d,.slice a4 (paAt k.p j).p.length c4,.slice a5 (paAt k.p j).t.length c5,.slice a6 (paAt k.p j).a.length c6] 97)=V:=⟨_,rfl⟩
   have HB1:Hid (Below wr.heap.size wr V):=by rw [←hV];exact(Below.refl _ wr).alloc (Nat.le_refl _) _
   have HX1:Hid (Bk V wr.heap.size 97 #[.int .i64 (paAt k.p j).n,.slice a1 (paAt k.p j).st.r.length c1,.int .i64 (paAt k.p j).st.q,.int .i64 (paAt k.p j).st.d,.slice a4 (paAt k.p j).p.length c4,.slice a5 (paAt k.p j).t.length c5,.slice a6 (paAt k.p j).a.length c6]):=by rw [←hV];exact Bk.new _ _ _
   have HK1:Hid (Bk V w.heap.size 57 #[.int .i64 k.m.n,.int .i64 k.m.s,.slice ai k.m.i.length ci,.slice ah k.m.h.length ch,.slice ae k.m.e.length ce,.int .i64 k.m.z,.slice ad k.d.length cd,.slice (some ⟨b,off,none⟩) k.p.length cp,.slice ab k.b.length cb,.int .i64 k.t,.int .i64 k.q,.bool k.f,.slice au k.s.length cu,.slice ax k.x.length cx]):=HKr.out.below HB1.out
   clear hPA hp
   have x0:=HX1.out.cell (i:=0) rfl
   have x1:=HX1.out.cell (i:=1) rfl
   have x2:=HX1.out.cell (i:=2) rfl
   have x3:=HX1.out.cell (i:=3) rfl
   have x4:=HX1.out.cell (i:=4) rfl
   have x5:=HX1.out.cell (i:=5) rfl
   have x6:=HX1.out.cell (i:=6) rfl
   by_cases hn:(paAt k.p j).n=(j:Int)
   case neg=>
    have hn':((paAt k.p j).n !=(j:Int))=true:=by simpa using hn
    have HN:Hid (partsKB k=false):=HNO.out (fun h=>hn (partI_iff.1 h).1)
    clear hn
    go_wp2
    go_ret
    exact⟨ret_bool HN.out.symm,HBr.out.trans (HB1.out.mono HBr.out.size)⟩
   have hn':((paAt k.p j).n !=(j:Int))=false:=by simpa using hn
   have HN1:Hid ((paAt k.p j).n=(j:Int)):=hn
   clear hn
   go_wp2_with fail
   clear f0 f1 f2 f3 f4 f5 f6 hV x0 x1 x2 x3 x4 x5 x6 hn'
   refine(iPartOk_is _ (paAt k.p j) _ HWj.out (HIP.out.under (HBr.out.trans (HB1.out.mono HBr.out.size)))).mono ?_
   rintro e w2 ⟨rfl,hb9⟩
   have HB2:Hid (Below wr.heap.size wr w2):=HB1.out.trans (hb9.mono HB1.out.size)
   have HX2:Hid (Bk w2 wr.heap.size 97 #[.int .i64 (paAt k.p j).n,.slice a1 (paAt k.p j).st.r.length c1,.int .i64 (paAt k.p j).st.q,.int .i64 (paAt k.p j).st.d,.slice a4 (paAt k.p j).p.length c4,.slice a5 (paAt k.p j).t.length c5,.slice a6 (paAt k.p j).a.length c6]):=HX1.out.below hb9
   have HK2:Hid (Bk w2 w.heap.size 57 #[.int .i64 k.m.n,.int .i64 k.m.s,.slice ai k.m.i.length ci,.slice ah k.m.h.length ch,.slice ae k.m.e.length ce,.int .i64 k.m.z,.slice ad k.d.length cd,.slice (some ⟨b,off,none⟩) k.p.length cp,.slice ab k.b.length cb,.int .i64 k.t,.int .i64 k.q,.bool k.f,.slice au k.s.length cu,.slice ax k.x.length cx]):=HK1.out.below hb9
   clear hb9
   cases hbb:(paAt k.p j).ok
   case false=>
    have HN:Hid (partsKB k=false):=HNO.out (fun h=>by have h1:=(partI_iff.1 h).2.1;rw [hbb]at h1;cases h1)
    clear hbb
    go_wp2
    go_ret
    exact⟨ret_bool HN.out.symm,HBr.out.trans (HB2.out.mono HBr.out.size)⟩
   have HT2:Hid ((paAt k.p j).ok=true):=hbb
   clear hbb
   have k0:=HK2.out.cell (i:=0) rfl
   have k1:=HK2.out.cell (i:=1) rfl
   have k2:=HK2.out.cell (i:=2) rfl
   have k3:=HK2.out.cell (i:=3) rfl
   have k4:=HK2.out.cell (i:=4) rfl
   have k5:=HK2.out.cell (i:=5) rfl
   have k6:=HK2.out.cell (i:=6) rfl
   have k7:=HK2.out.cell (i:=7) rfl
   have k8:=HK2.out.cell (i:=8) rfl
   have k9:=HK2.out.cell (i:=9) rfl
   have k10:=HK2.out.cell (i:=10) rfl
   have k11:=HK2.out.cell (i:=11) rfl
   have k12:=HK2.out.cell (i:=12) rfl
   have k13:=HK2.out.cell (i:=13) rfl
   have x5:=HX2.out.cell (i:=5) rfl
   go_wp2_with fail
   clear k0 k1 k2 k3 k4 k5 k6 k7 k8 k9 k10 k11 k12 k13 x5
   refine(known_is _ k a5 c5 (paAt k.p j).t _ rfl _ (HK.out.under (HBr.out.trans (HB2.out.mono HBr.out.size))) htl (Nat.lt_of_le_of_lt (Nat.zero_le _) HX2.out.lt) (HTD.out.below (HBr.out.trans (HB2.out.mono HBr.out.size)))).mono ?_
   rintro e w3 ⟨rfl,hb9⟩
   have HB3:Hid (Below wr.heap.size wr w3):=HB2.out.trans (hb9.mono HB2.out.size)
   have HX3:Hid (Bk w3 wr.heap.size 97 #[.int .i64 (paAt k.p j).n,.slice a1 (paAt k.p j).st.r.length c1,.int .i64 (paAt k.p j).st.q,.int .i64 (paAt k.p j).st.d,.slice a4 (paAt k.p j).p.length c4,.slice a5 (paAt k.p j).t.length c5,.slice a6 (paAt k.p j).a.length c6]):=HX2.out.below hb9
   have HK3:Hid (Bk w3 w.heap.size 57 #[.int .i64 k.m.n,.int .i64 k.m.s,.slice ai k.m.i.length ci,.slice ah k.m.h.length ch,.slice ae k.m.e.length ce,.int .i64 k.m.z,.slice ad k.d.length cd,.slice (some ⟨b,off,none⟩) k.p.length cp,.slice ab k.b.length cb,.int .i64 k.t,.int .i64 k.q,.bool k.f,.slice au k.s.length cu,.slice ax k.x.length cx]):=HK2.out.below hb9
   clear hb9
   cases hbb:knL k (paAt k.p j).t
   case false=>
    have HN:Hid (partsKB k=false):=HNO.out (fun h=>by have h1:=(partI_iff.1 h).2.2.1;rw [hbb]at h1;cases h1)
    clear hbb
    go_wp2
    go_ret
    exact⟨ret_bool HN.out.symm,HBr.out.trans (HB3.out.mono HBr.out.size)⟩
   have HT3:Hid (knL k (paAt k.p j).t=true):=hbb
   clear hbb
   have k0:=HK3.out.cell (i:=0) rfl
   have k1:=HK3.out.cell (i:=1) rfl
   have k2:=HK3.out.cell (i:=2) rfl
   have k3:=HK3.out.cell (i:=3) rfl
   have k4:=HK3.out.cell (i:=4) rfl
   have k5:=HK3.out.cell (i:=5) rfl
   have k6:=HK3.out.cell (i:=6) rfl
   have k7:=HK3.out.cell (i:=7) rfl
   have k8:=HK3.out.cell (i:=8) rfl
   have k9:=HK3.out.cell (i:=9) rfl
   have k10:=HK3.out.cell (i:=10) rfl
   have k11:=HK3.out.cell (i:=11) rfl
   have k12:=HK3.out.cell (i:=12) rfl
   have k13:=HK3.out.cell (i:=13) rfl
   have x0:=HX3.out.cell (i:=0) rfl
   have x1:=HX3.out.cell (i:=1) rfl
   have x2:=HX3.out.cell (i:=2) rfl
   have x3:=HX3.out.cell (i:=3) rfl
   have x4:=HX3.out.cell (i:=4) rfl
   have x5:=HX3.out.cell (i:=5) rfl
   have x6:=HX3.out.cell (i:=6) rfl
   go_wp2_with fail
   clear k0 k1 k2 k3 k4 k5 k6 k7 k8 k9 k10 k11 k12 k13 x0 x1 x2 x3 x4 x5 x6
   refine(iPastK _ _ k (paAt k.p j) _ HWj.out (HK.out.under (HBr.out.trans (HB3.out.mono HBr.out.size))) (HIP.out.under (HBr.out.trans (HB3.out.mono HBr.out.size)))).mono ?_
   rintro e w4 ⟨rfl,hb9⟩
   have HB4:Hid (Below wr.heap.size wr w4):=HB3.out.trans (hb9.mono HB3.out.size)
   have HX4:Hid (Bk w4 wr.heap.size 97 #[.int .i64 (paAt k.p j).n,.slice a1 (paAt k.p j).st.r.length c1,.int .i64 (paAt k.p j).st.q,.int .i64 (paAt k.p j).st.d,.slice a4 (paAt k.p j).p.length c4,.slice a5 (paAt k.p j).t.length c5,.slice a6 (paAt k.p j).a.length c6]):=HX3.out.below hb9
   have HK4:Hid (Bk w4 w.heap.size 57 #[.int .i64 k.m.n,.int .i64 k.m.s,.slice ai k.m.i.length ci,.slice ah k.m.h.length ch,.slice ae k.m.e.length ce,.int .i64 k.m.z,.slice ad k.d.length cd,.slice (some ⟨b,off,none⟩) k.p.length cp,.slice ab k.b.length cb,.int .i64 k.t,.int .i64 k.q,.bool k.f,.slice au k.s.length cu,.slice ax k.x.length cx]):=HK3.out.below hb9
   clear hb9
   cases hbb:pastKB k (paAt k.p j)
   case false=>
    have HN:Hid (partsKB k=false):=HNO.out (fun h=>by have h1:=(partI_iff.1 h).2.2.2.1;rw [hbb]at h1;cases h1)
    clear hbb
    go_wp2
    go_ret
    exact⟨ret_bool HN.out.symm,HBr.out.trans (HB4.out.mono HBr.out.size)⟩
   have HT4:Hid (pastKB k (paAt k.p j)=true):=hbb
   clear hbb
   have k0:=HK4.out.cell (i:=0) rfl
   have k1:=HK4.out.cell (i:=1) rfl
   have k2:=HK4.out.cell (i:=2) rfl
   have k3:=HK4.out.cell (i:=3) rfl
   have k4:=HK4.out.cell (i:=4) rfl
   have k5:=HK4.out.cell (i:=5) rfl
   have k6:=HK4.out.cell (i:=6) rfl
   have k7:=HK4.out.cell (i:=7) rfl
   have k8:=HK4.out.cell (i:=8) rfl
   have k9:=HK4.out.cell (i:=9) rfl
   have k10:=HK4.out.cell (i:=10) rfl
   have k11:=HK4.out.cell (i:=11) rfl
   have k12:=HK4.out.cell (i:=12) rfl
   have k13:=HK4.out.cell (i:=13) rfl
   have x0:=HX4.out.cell (i:=0) rfl
   have x1:=HX4.out.cell (i:=1) rfl
   have x2:=HX4.out.cell (i:=2) rfl
   have x3:=HX4.out.cell (i:=3) rfl
   have x4:=HX4.out.cell (i:=4) rfl
   have x5:=HX4.out.cell (i:=5) rfl
   have x6:=HX4.out.cell (i:=6) rfl
   go_wp2_with fail
   clear k0 k1 k2 k3 k4 k5 k6 k7 k8 k9 k10 k11 k12 k13 x0 x1 x2 x3 x4 x5 x6
   refine(iAntis8 _ _ k (paAt k.p j) _ hal (HK.out.under (HBr.out.trans (HB4.out.mono HBr.out.size))) (HIP.out.under (HBr.out.trans (HB4.out.mono HBr.out.size)))).mono ?_
   rintro e w5 ⟨rfl,hb9⟩
   have HB5:Hid (Below wr.heap.size wr w5):=HB4.out.trans (hb9.mono HB4.out.size)
   have HX5:Hid (Bk w5 wr.heap.size 97 #[.int .i64 (paAt k.p j).n,.slice a1 (paAt k.p j).st.r.length c1,.int .i64 (paAt k.p j).st.q,.int .i64 (paAt k.p j).st.d,.slice a4 (paAt k.p j).p.length c4,.slice a5 (paAt k.p j).t.length c5,.slice a6 (paAt k.p j).a.length c6]):=HX4.out.below hb9
   have HK5:Hid (Bk w5 w.heap.size 57 #[.int .i64 k.m.n,.int .i64 k.m.s,.slice ai k.m.i.length ci,.slice ah k.m.h.length ch,.slice ae k.m.e.length ce,.int .i64 k.m.z,.slice ad k.d.length cd,.slice (some ⟨b,off,none⟩) k.p.length cp,.slice ab k.b.length cb,.int .i64 k.t,.int .i64 k.q,.bool k.f,.slice au k.s.length cu,.slice ax k.x.length cx]):=HK4.out.below hb9
   clear hb9
   cases hbb:antiL k.t (paAt k.p j).a
   case false=>
    have HN:Hid (partsKB k=false):=HNO.out (fun h=>by have h1:=(partI_iff.1 h).2.2.2.2;rw [hbb]at h1;cases h1)
    clear hbb
    go_wp2
    go_ret
    exact⟨ret_bool HN.out.symm,HBr.out.trans (HB5.out.mono HBr.out.size)⟩
   have HT5:Hid (antiL k.t (paAt k.p j).a=true):=hbb
   clear hbb
   have K9:Hid (partI k j=true):=partI_iff.2 ⟨HN1.out,HT2.out,HT3.out,HT4.out,HT5.out⟩
   go_wp2
   go_roundw
   case rel=>exact⟨j+1,by omega,by go_num,fun i hi=>by
    by_cases e:i=j
    ·subst e;exact K9.out
    ·exact HA.out i (by omega),HBr2.out.trans (HB5.out.mono HBr2.out.size)⟩
   case measure=>simp [intOf];omega
  ·obtain rfl:k.p.length=j:=by omega
   have HY:Hid (partsKB k=true):=partsKB_iff.2 ⟨HC1.out,HA.out⟩
   go_wp2
   go_ret
   exact⟨ret_bool HY.out.symm,HBr.out⟩
def bagKB (k:Kn):Bool:=allB k.b.length (fun i=>knB k.m k.t (mlAt k.b i).e)
set_option maxRecDepth 100000 in
set_option maxHeartbeats 8000000 in
theorem iBagOk (x:Value) (k:Kn) (w:World) (hs:SmallK k) (h:IsKern w x k):
  Calls Tryz.prog 114 #[x] w fun e w'=>e= .returned (.bool (bagKB k))∧Below w.heap.size w w':=by
 obtain⟨HSM0,hsk⟩:=hs
 have HSM:Hid (SmallM k.m):=HSM0
 obtain⟨hdl,hpl,hbl,hsl,hxl⟩:=wt_lens hsk
 have HWP:Hid (∀i,i<k.p.length→(paAt k.p i).wt≤1048576):=wt_parts hsk
 clear hsk HSM0
 obtain⟨ai,ci,ah,ch,ae,ce,ad,cd,ap,cp,ab,cb,au,cu,ax,cx,rfl,hm,hd,hp,hbg,hsu,hx⟩:=h.form
 have HM:Hid (IsM w (.agg #[.int .i64 k.m.n,.int .i64 k.m.s,.slice ai k.m.i.length ci,.slice ah k.m.h.length ch,.slice ae k.m.e.length ce,.int .i64 k.m.z]) k.m):=hm
 have HD:Hid (IsI w (.slice ad k.d.length cd) k.d):=hd
 have HPP:Hid (k.p= []∨ ∃b off,ap=some ⟨b,off,none⟩∧PasAt w b off k.p):=hp
 have HBG:Hid (k.b= []∨ ∃b off,ab=some ⟨b,off,none⟩∧MlsAt w b off k.b):=hbg.rows
 have HSU:Hid (k.s= []∨ ∃b off,au=some ⟨b,off,none⟩∧EvsAt w b off k.s):=hsu.rows
 have HXX:Hid (k.x= []∨ ∃b off,ax=some ⟨b,off,none⟩∧XsAt w b off k.x):=hx.rows
 have HSUI:Hid (IsEvs w (.slice au k.s.length cu) k.s):=hsu
 have HXXI:Hid (IsX w (.slice ax k.x.length cx) k.x):=hx
 have HK:Hid (IsKern w (.agg #[.int .i64 k.m.n,.int .i64 k.m.s,.slice ai k.m.i.length ci,.slice ah k.m.h.length ch,.slice ae k.m.e.length ce,.int .i64 k.m.z,.slice ad k.d.length cd,.slice ap k.p.length cp,.slice ab k.b.length cb,.int .i64 k.t,.int .i64 k.q,.bool k.f,.slice au k.s.length cu,.slice ax k.x.length cx]) k):=h
 clear hm hd hp hbg hsu hx h
 obtain⟨W0,hW0⟩:∃W0,w.alloc (.cells #[.int .i64 k.m.n,.int .i64 k.m.s,.slice ai k.m.i.length ci,.slice ah k.m.h.length ch,.slice ae k.m.e.length ce,.int .i64 k.m.z,.slice ad k.d.length cd,.slice ap k.p.length cp,.slice ab k.b.length cb,.int .i64 k.t,.int .i64 k.q,.bool k.f,.slice au k.s.length cu,.slice ax k.x.length cx] 57)=W0:=⟨_,rfl⟩
 have HB0:Hid (Below w.heap.size w W0):=by rw [←hW0];exact(Below.refl _ w).alloc (Nat.le_refl _) _
 have HP0:Hid (Bk W0 w.heap.size 57 #[.int .i64 k.m.n,.int .i64 k.m.s,.slice ai k.m.i.length ci,.slice ah k.m.h.length ch,.slice ae k.m.e.length ce,.int .i64 k.m.z,.slice ad k.d.length cd,.slice ap k.p.length cp,.slice ab k.b.length cb,.int .i64 k.t,.int .i64 k.q,.bool k.f,.slice au k.s.length cu,.slice ax k.x.length cx]):=by rw [←hW0];exact Bk.new w _ _
 have HW:Hid (w.alloc (.cells #[.int .i64 k.m.n,.int .i64 k.m.s,.slice ai k.m.i.length ci,.slice ah k.m.h.length ch,.slice ae k.m.e.length ce,.int .i64 k.m.z,.slice ad k.d.length cd,.slice ap k.p.length cp,.slice ab k.b.length cb,.int .i64 k.t,.int .i64 k.q,.bool k.f,.slice au k.s.length cu,.slice ax k.x.length cx] 57)=W0):=hW0
 have hs0:w.heap.size<W0.heap.size:=HP0.out.lt
 clear hW0
 have hw:=HW.out
 have q8:=HP0.out.cell (i:=8) rfl
 go_enter Tryz.func114,Tryz.ntmps114
 go_wp2
 clear q8 hw
 go_loopw [8] (fun i wr=>∃j:Nat,j≤k.b.length∧i= .int .i64 j∧Hid (∀i,i<j→knB k.m k.t (mlAt k.b i).e=true)∧Below W0.heap.size W0 wr) (fun i _=>k.b.length-(intOf i).toNat)
 case atStart=>exact⟨0,Nat.zero_le _,rfl,fun j hj=>by omega,Below.refl _ _⟩
 case round=>
  obtain⟨j,hj,rfl,HA,hB⟩:=hrel
  have HBr:Hid (Below w.heap.size w wr):=HB0.out.trans (hB.mono HB0.out.size)
  have HBr2:Hid (Below W0.heap.size W0 wr):=hB
  have HKr:Hid (Bk wr w.heap.size 57 #[.int .i64 k.m.n,.int .i64 k.m.s,.slice ai k.m.i.length ci,.slice ah k.m.h.length ch,.slice ae k.m.e.length ce,.int .i64 k.m.z,.slice ad k.d.length cd,.slice ap k.p.length cp,.slice ab k.b.length cb,.int .i64 k.t,.int .i64 k.q,.bool k.f,.slice au k.s.length cu,.slice ax k.x.length cx]):=HP0.out.below hB
  clear hB
  by_cases hlt:j<k.b.length
  ·obtain⟨b,off,rfl,hb,hc⟩:=HBG.out.resolve_left (by intro e;rw [e]at hlt;simp at hlt)
   obtain⟨f0,f1,f2,f3,f4,f5,f6,f7⟩:=(hc j hlt).below HBr.out hb
   have HNO:Hid (¬knB k.m k.t (mlAt k.b j).e=true→bagKB k=false):=fun h1=>bool_no (fun h=>h1 (allB_iff.1 h j hlt))
   obtain⟨V,hV⟩:∃V,wr.alloc (.cells #[.int .i64 (mlAt k.b j).e.t,.int .i64 (mlAt k.b j).e.s,.int .i64 (mlAt k.b j).e.q,.int .i64 (mlAt k.b j).e.d,.int .i64 (mlAt k.b j).e.k,.int .i64 (mlAt k.b j).e.v,.int .i64 (mlAt k.b j).e.g,.bool (mlAt k.b j).a] 148)=V:=⟨_,rfl⟩
   have HB1:Hid (Below wr.heap.size wr V):=by rw [←hV];exact(Below.refl _ wr).alloc (Nat.le_refl _) _
   have HX:Hid (Bk V wr.heap.size 148 #[.int .i64 (mlAt k.b j).e.t,.int .i64 (mlAt k.b j).e.s,.int .i64 (mlAt k.b j).e.q,.int .i64 (mlAt k.b j).e.d,.int .i64 (mlAt k.b j).e.k,.int .i64 (mlAt k.b j).e.v,.int .i64 (mlAt k.b j).e.g,.bool (mlAt k.b j).a]):=by rw [←hV];exact Bk.new _ _ _
   have HKV:Hid (Bk V w.heap.size 57 #[.int .i64 k.m.n,.int .i64 k.m.s,.slice ai k.m.i.length ci,.slice ah k.m.h.length ch,.slice ae k.m.e.length ce,.int .i64 k.m.z,.slice ad k.d.length cd,.slice ap k.p.length cp,.slice (some ⟨b,off,none⟩) k.b.length cb,.int .i64 k.t,.int .i64 k.q,.bool k.f,.slice au k.s.length cu,.slice ax k.x.length cx]):=HKr.out.below HB1.out
   have HBV:Hid (Below w.heap.size w V):=HBr.out.trans (HB1.out.mono HBr.out.size)
   have x0:=HX.out.cell (i:=0) rfl
   have x1:=HX.out.cell (i:=1) rfl
   have x2:=HX.out.cell (i:=2) rfl
   have x3:=HX.out.cell (i:=3) rfl
   have x4:=HX.out.cell (i:=4) rfl
   have x5:=HX.out.cell (i:=5) rfl
   have x6:=HX.out.cell (i:=6) rfl
   have x7:=HX.out.cell (i:=7) rfl
   have k0:=HKV.out.cell (i:=0) rfl
   have k1:=HKV.out.cell (i:=1) rfl
   have k2:=HKV.out.cell (i:=2) rfl
   have k3:=HKV.out.cell (i:=3) rfl
   have k4:=HKV.out.cell (i:=4) rfl
   have k5:=HKV.out.cell (i:=5) rfl
   have k6:=HKV.out.cell (i:=6) rfl
   have k7:=HKV.out.cell (i:=7) rfl
   have k8:=HKV.out.cell (i:=8) rfl
   have k9:=HKV.out.cell (i:=9) rfl
   have k10:=HKV.out.cell (i:=10) rfl
   have k11:=HKV.out.cell (i:=11) rfl
   have k12:=HKV.out.cell (i:=12) rfl
   have k13:=HKV.out.cell (i:=13) rfl
   obtain⟨V2,hV2⟩:∃V2,V.alloc (.cells #[.int .i64 (mlAt k.b j).e.t,.int .i64 (mlAt k.b j).e.s,.int .i64 (mlAt k.b j).e.q,.int .i64 (mlAt k.b j).e.d,.int .i64 (mlAt k.b j).e.k,.int .i64 (mlAt k.b j).e.v,.int .i64 (mlAt k.b j).e.g] 110)=V2:=⟨_,rfl⟩
   have HB2:Hid (Below wr.heap.size wr V2):=by rw [←hV2];exact HB1.out.alloc HB1.out.size _
   have HX2:Hid (Bk V2 V.heap.size 110 #[.int .i64 (mlAt k.b j).e.t,.int .i64 (mlAt k.b j).e.s,.int .i64 (mlAt k.b j).e.q,.int .i64 (mlAt k.b j).e.d,.int .i64 (mlAt k.b j).e.k,.int .i64 (mlAt k.b j).e.v,.int .i64 (mlAt k.b j).e.g]):=by rw [←hV2];exact Bk.new _ _ _
   have HBV2:Hid (Below w.heap.size w V2):=HBr.out.trans (HB2.out.mono HBr.out.size)
   have HIE:Hid (IsEvs V2 (.slice (some ⟨V.heap.size,0,none⟩) ([(mlAt k.b j).e]:List Ev).length 1) [(mlAt k.b j).e]):=⟨_,1,rfl,Nat.le_refl _,by unfold maxLen;omega,.inr ⟨V.heap.size,0,rfl,HX2.out.lt,fun i hi=>by
    obtain rfl:i=0:=by simp at hi;omega
    exact⟨HX2.out.cell (i:=0) rfl,HX2.out.cell (i:=1) rfl,HX2.out.cell (i:=2) rfl,HX2.out.cell (i:=3) rfl,HX2.out.cell (i:=4) rfl,HX2.out.cell (i:=5) rfl,HX2.out.cell (i:=6) rfl⟩⟩⟩
   have HL1:Hid (knL k [(mlAt k.b j).e]=knB k.m k.t (mlAt k.b j).e):=(by simp [knL,allB,evAt]:knL k [(mlAt k.b j).e]=_)
   have HV2:Hid (V.alloc (.cells #[.int .i64 (mlAt k.b j).e.t,.int .i64 (mlAt k.b j).e.s,.int .i64 (mlAt k.b j).e.q,.int .i64 (mlAt k.b j).e.d,.int .i64 (mlAt k.b j).e.k,.int .i64 (mlAt k.b j).e.v,.int .i64 (mlAt k.b j).e.g] 110)=V2):=hV2
   clear hc hV2
   go_wp2_with fail
   try rw [HV2.out]
   clear f0 f1 f2 f3 f4 f5 f6 f7 x0 x1 x2 x3 x4 x5 x6 x7 hV k0 k1 k2 k3 k4 k5 k6 k7 k8 k9 k10 k11 k12 k13
   refine(known_is _ k (some ⟨V.heap.size,0,none⟩) 1 [(mlAt k.b j).e] _ rfl _ (HK.out.under HBV2.out) (by simp) (Nat.lt_of_le_of_lt (Nat.zero_le _) HX2.out.lt) HIE.out).mono ?_
   rintro e w3 ⟨rfl,hb3⟩
   have HB3:Hid (Below wr.heap.size wr w3):=HB2.out.trans (hb3.mono HB2.out.size)
   clear hb3
   rw [HL1.out]
   cases hkn:knB k.m k.t (mlAt k.b j).e with
   |false=>
    have HN:Hid (bagKB k=false):=HNO.out (fun h=>by rw [hkn]at h;cases h)
    clear hkn
    go_wp2
    go_ret
    exact⟨ret_bool HN.out.symm,HBr.out.trans (HB3.out.mono HBr.out.size)⟩
   |true=>
    have K9:Hid (knB k.m k.t (mlAt k.b j).e=true):=hkn
    clear hkn
    go_wp2
    go_roundw
    case rel=>exact⟨j+1,by omega,by go_num,fun i hi=>by
     by_cases e:i=j
     ·subst e;exact K9.out
     ·exact HA.out i (by omega),HBr2.out.trans (HB3.out.mono HBr2.out.size)⟩
    case measure=>simp [intOf];omega
  ·obtain rfl:k.b.length=j:=by omega
   have HY:Hid (bagKB k=true):=allB_iff.2 HA.out
   go_wp2
   go_ret
   exact⟨ret_bool HY.out.symm,HBr.out⟩
theorem getD_in {α:Type} {l:List α} {i:Nat} {d:α} (h:i<l.length):l.getD i d∈l:=by
 rw [List.getD_eq_getElem?_getD,List.getElem?_eq_getElem h]
 exact List.getElem_mem h
theorem in_getD {α:Type} {l:List α} {e:α} (d:α) (h:e∈l):∃i,i<l.length∧l.getD i d=e:=by
 obtain⟨i,hi,rfl⟩:=List.mem_iff_getElem.1 h
 exact⟨i,hi,by rw [List.getD_eq_getElem?_getD,List.getElem?_eq_getElem hi];rfl⟩
theorem getD_at {α:Type} {l:List α} {i:Nat} (d:α) (h:i<l.length):l.getD i d=l[i]:=by
 rw [List.getD_eq_getElem?_getD,List.getElem?_eq_getElem h];rfl
def bagE (l:List Ml):List Ev:=l.flatMap (fun m=>if m.a then []else [m.e])
def partsE (l:List Pa):List Ev:=l.flatMap Pa.all
def allK (k:Kn):List Ev:=partsE k.p++bagE k.b
def DiffE (l:List Ev):Prop:=∀i,i<l.length→ ∀j,j<i→(evAt l j).g≠(evAt l i).g
def AheadI (k:Kn):Prop:=k.s= []∨((∀i,i<k.p.length→(paAt k.p i).p= []∨(lastE k.s).ecmp (psAt (paAt k.p i).p 0).e= -1)∧ ∀g,gvtE k=some g→(lastE k.s).ecmp g= -1)
noncomputable def aheadB (k : Kn) : Bool := @decide (AheadI k) (Classical.propDecidable _)
theorem aheadB_iff {k:Kn}:aheadB k=true↔AheadI k:=by unfold aheadB;simp
def SureI (k:Kn):Prop:=(∀i,i<k.s.length→evIn k.m (evAt k.s i)=true∧(evAt k.s i).g=0)∧(∀i,i<k.s.length-1→(evAt k.s i).ecmp (evAt k.s (i+1))= -1)∧AheadI k
noncomputable def sureIB (k : Kn) : Bool := @decide (SureI k) (Classical.propDecidable _)
theorem sureIB_iff {k:Kn}:sureIB k=true↔SureI k:=by unfold sureIB;simp
theorem bagT_map (l:List Ml):bagT l=(bagE l).map (·.g):=by
 unfold bagT bagE
 rw [List.map_flatMap]
 congr 1
 funext m
 split<;>rfl
theorem partT_perm (p:Pa):(partT p).Perm (p.all.map (·.g)):=by
 unfold partT todoT pastT Pa.all Pa.es
 rw [List.map_append,List.map_map]
 exact List.perm_append_comm
theorem partsT_perm (l:List Pa):(partsT l).Perm ((partsE l).map (·.g)):=by
 induction l with
 |nil=>exact List.Perm.refl _
 |cons a l ih=>
  show(partT a++partsT l).Perm ((a.all++partsE l).map (·.g))
  rw [List.map_append]
  exact(partT_perm a).append ih
theorem tags_perm (k:Kn):(tagsL k).Perm ((allK k).map (·.g)):=by
 unfold tagsL allK
 rw [List.map_append,bagT_map]
 exact((partsT_perm k.p).append_left _).trans List.perm_append_comm
theorem hasI_no {l:List Int} {n:Nat} {z:Int}:hasI l n z=false↔ ∀j,j<n→intAt l j≠z:=by
 unfold hasI
 rw [Bool.not_eq_false',allB_iff]
 constructor
 ·intro h j hj
  simpa using h j hj
 ·intro h j hj
  simpa using h j hj
theorem nodup_at {l:List Int}:l.Nodup↔ ∀i,i<l.length→ ∀j,j<i→intAt l j≠intAt l i:=by
 unfold List.Nodup
 rw [List.pairwise_iff_getElem]
 constructor
 ·intro h i hi j hj e
  refine h j i (by omega) hi hj ?_
  unfold intAt at e
  rw [getD_at _ hi,getD_at _ (by omega)]at e
  exact e
 ·intro h j i hj hi hlt e
  refine h i hi j hlt ?_
  unfold intAt
  rw [getD_at _ hi,getD_at _ hj]
  exact e
theorem diffB_nodup {t:Int} {l:List Int}:diffB t l=true↔(∀z,z∈l→z<t)∧l.Nodup:=by
 rw [diffB_iff,nodup_at]
 constructor
 ·intro h
  refine⟨fun z hz=> ?_,fun i hi=>hasI_no.1 (h i hi).2⟩
  obtain⟨i,hi,rfl⟩:=in_getD 0 hz
  exact(h i hi).1
 ·rintro ⟨h1,h2⟩ i hi
  exact⟨h1 _ (getD_in hi),hasI_no.2 (h2 i hi)⟩
theorem diffE_nodup {l:List Ev}:DiffE l↔(l.map (·.g)).Nodup:=by
 rw [nodup_at]
 unfold DiffE
 have e:∀i,i<l.length→intAt (l.map (·.g)) i=(evAt l i).g:=fun i hi=>by
  unfold intAt evAt
  rw [getD_at _ (by rw [List.length_map];exact hi),getD_at _ hi,List.getElem_map]
 rw [List.length_map]
 constructor
 ·intro h i hi j hj
  rw [e i hi,e j (by omega)]
  exact h i hi j hj
 ·intro h i hi j hj
  have:=h i hi j hj
  rw [e i hi,e j (by omega)]at this
  exact this
theorem diff_is {k:Kn}:diffB k.t (tagsL k)=true↔(∀e,e∈allK k→e.g<k.t)∧DiffE (allK k):=by
 rw [diffB_nodup,diffE_nodup,(tags_perm k).nodup_iff]
 refine and_congr_left fun _=> ?_
 constructor
 ·intro h e he
  exact h _ ((tags_perm k).mem_iff.2 (List.mem_map.2 ⟨e,he,rfl⟩))
 ·intro h z hz
  obtain⟨e,he,rfl⟩:=List.mem_map.1 ((tags_perm k).mem_iff.1 hz)
  exact h e he
theorem all_in {k:Kn} {e:Ev} (h:e∈allK k):(∃i,i<k.p.length∧e∈(paAt k.p i).all)∨ ∃i,i<k.b.length∧(mlAt k.b i).a=false∧e=(mlAt k.b i).e:=by
 unfold allK at h
 rcases List.mem_append.1 h with h|h
 ·obtain⟨p,hp,he⟩:=List.mem_flatMap.1 h
  obtain⟨i,hi,e1⟩:=in_getD ⟨0,⟨[],0,0⟩,[],[],[]⟩ hp
  exact .inl ⟨i,hi,by show e∈Pa.all (k.p.getD i _);rw [e1];exact he⟩
 ·obtain⟨m,hm,he⟩:=List.mem_flatMap.1 h
  obtain⟨i,hi,e1⟩:=in_getD ⟨⟨0,0,0,0,0,0,0⟩,false⟩ hm
  refine .inr ⟨i,hi,?_⟩
  unfold mlAt
  rw [e1]
  cases ha:m.a
  ·rw [ha]at he
   exact⟨rfl,by simpa using he⟩
  ·rw [ha]at he
   simp at he
theorem in_all_part {k:Kn} {e:Ev} {i:Nat} (hi:i<k.p.length) (h:e∈(paAt k.p i).all):e∈allK k:=
 List.mem_append.2 (.inl (List.mem_flatMap.2 ⟨_,getD_in hi,h⟩))
theorem in_all {p:Pa} {e:Ev}:e∈p.all↔(∃i,i<p.p.length∧(psAt p.p i).e=e)∨ ∃i,i<p.t.length∧evAt p.t i=e:=by
 unfold Pa.all Pa.es
 rw [List.mem_append,List.mem_map]
 constructor
 ·rintro (⟨x,hx,rfl⟩|h)
  ·obtain⟨i,hi,e1⟩:=in_getD ⟨⟨0,0,0,0,0,0,0⟩,⟨[],0,0⟩,[],[]⟩ hx
   exact .inl ⟨i,hi,by unfold psAt;rw [e1]⟩
  ·obtain⟨i,hi,e1⟩:=in_getD ⟨0,0,0,0,0,0,0⟩ h
   exact .inr ⟨i,hi,e1⟩
 ·rintro (⟨i,hi,rfl⟩|⟨i,hi,rfl⟩)
  ·exact .inl ⟨_,getD_in hi,rfl⟩
  ·exact .inr (getD_in hi)
theorem knL_iff {k:Kn} {l:List Ev}:knL k l=true↔ ∀i,i<l.length→evIn k.m (evAt l i)=true∧(evAt l i).g<k.t:=by
 unfold knL
 rw [allB_iff]
 unfold knB
 simp only [Bool.and_eq_true,decide_eq_true_eq]
theorem pastKB_iff {k:Kn} {p:Pa}:pastKB k p=true↔ ∀i,i<p.p.length→(psAt p.p i).e.g<k.t∧knL k (psAt p.p i).s=true:=by
 unfold pastKB
 rw [allB_iff]
 simp only [pastL1_iff]
theorem bagKB_iff {k:Kn}:bagKB k=true↔ ∀i,i<k.b.length→evIn k.m (mlAt k.b i).e=true∧(mlAt k.b i).e.g<k.t:=by
 unfold bagKB
 rw [allB_iff]
 unfold knB
 simp only [Bool.and_eq_true,decide_eq_true_eq]
theorem evIn_ok {m:Md} {e:Ev} (h:evIn m e=true):e.ok=true:=by
 unfold evIn at h
 exact(Bool.and_eq_true_iff.1 h).1
theorem asc_le {l:List Int} (h:Asc l):∀(d i:Nat),i+d<l.length→intAt l i≤intAt l (i+d)
 |0,i,_=>Int.le_refl _
 |d+1,i,hi=>by
  have h1:=asc_le h d i (by omega)
  have h2:=(h (i+(d+1)) hi).2.2 (by omega)
  have e:i+(d+1)-1=i+d:=by omega
  rw [e]at h2
  omega
theorem antiL_iff {t:Int} {l:List Int} (h:Asc l):antiL t l=true↔ ∀i,i<l.length→intAt l i<t:=by
 unfold antiL
 rw [Bool.or_eq_true,decide_eq_true_eq,decide_eq_true_eq]
 constructor
 ·rintro (rfl|h1) i hi
  ·simp at hi
  ·have:=asc_le h (l.length-1-i) i (by omega)
   rw [show i+(l.length-1-i)=l.length-1 by omega]at this
   omega
 ·intro h1
  by_cases e:l= []
  ·exact .inl e
  ·exact .inr (h1 _ (by have:=List.length_pos_iff.2 e;omega))
theorem stepE_in {o:Option Ev} {e g:Ev} (h:stepE o e=some g):o=some g∨e=g:=by
 unfold stepE at h
 split at h
 ·exact .inr (by injection h)
 ·split at h
  ·exact .inr (by injection h)
  ·exact .inl h
theorem minE_in:∀(l:List Ev) (o:Option Ev) (g:Ev),l.foldl stepE o=some g→o=some g∨g∈l
 | [],o,g,h=> .inl h
 |a::l,o,g,h=>by
  rcases minE_in l (stepE o a) g h with h1|h1
  ·rcases stepE_in h1 with h2|rfl
   ·exact .inl h2
   ·exact .inr (List.mem_cons_self ..)
  ·exact .inr (List.mem_cons_of_mem _ h1)
theorem gvt_in {k:Kn} {g:Ev} (h:gvtE k=some g):g∈gvtL k:=by
 rcases minE_in _ _ _ h with h1|h1
 ·cases h1
 ·exact h1
theorem gvtL_ok {k:Kn} (hp:∀i,i<k.p.length→ ∀j,j<(paAt k.p i).t.length→(evAt (paAt k.p i).t j).ok=true) (hb:∀i,i<k.b.length→(mlAt k.b i).e.ok=true) {e:Ev} (h:e∈gvtL k):e.ok=true:=by
 unfold gvtL at h
 rcases List.mem_append.1 h with h|h
 ·obtain⟨p,hpm,he⟩:=List.mem_flatMap.1 h
  obtain⟨i,hi,e1⟩:=in_getD ⟨0,⟨[],0,0⟩,[],[],[]⟩ hpm
  obtain⟨j,hj,e2⟩:=in_getD ⟨0,0,0,0,0,0,0⟩ (List.mem_of_mem_take he)
  have:=hp i hi j (by unfold paAt;rw [e1];exact hj)
  unfold paAt evAt at this
  rw [e1,e2]at this
  exact this
 ·obtain⟨m,hm,rfl⟩:=List.mem_map.1 h
  obtain⟨i,hi,e1⟩:=in_getD ⟨⟨0,0,0,0,0,0,0⟩,false⟩ hm
  have:=hb i hi
  unfold mlAt at this
  rw [e1]at this
  exact this
theorem beh_iff {a b:Ev} (ha:a.ok=true) (hb:b.ok=true):0<b.cmp a↔a.ecmp b= -1:=by
 rw [ecmp_iff ha hb,cmp_opp a b]
 omega
def KernI (k:Kn):Prop:=(k.b.length≤2000∧k.s.length≤2000∧k.x.length≤16000)∧k.m.ok=true∧vok k.d=true∧(6≤k.t∧k.t≤99992)∧(-1≤k.q∧k.q≤3)∧partsKB k=true∧bagKB k=true∧DiffE (allK k)∧SureI k∧emsC k.x=true
theorem emsC_iff {l:List Em}:emsC l=true↔ ∀i,i<l.length→(xAt l i).okB=true:=all_iff
theorem sure_iff {k:Kn} (hg:∀e,e∈gvtL k→e.ok=true) (hp:∀i,i<k.p.length→ ∀j,j<(paAt k.p i).p.length→(psAt (paAt k.p i).p j).e.ok=true):SureI k↔(∀i,i<k.s.length→sure1 k.m k.s i=true)∧gvtB k=true∧ ∀i,i<k.p.length→past0B k.s (paAt k.p i)=true:=by
 have key:(∀i,i<k.s.length→evIn k.m (evAt k.s i)=true)→(AheadI k↔gvtB k=true∧ ∀i,i<k.p.length→past0B k.s (paAt k.p i)=true):=by
  intro hok
  unfold AheadI
  by_cases e0:k.s= []
  ·refine⟨fun _=>⟨?_,fun i hi=>past0B_iff.2 (.inr (behB_iff.2 (.inl e0)))⟩,fun _=> .inl e0⟩
   cases eg:gvtE k with
   |none=>exact gvtB_none eg
   |some g=>rw [gvtB_some eg];exact behB_iff.2 (.inl e0)
  ·have hl:(lastE k.s).ok=true:=evIn_ok (hok (k.s.length-1) (by have:=List.length_pos_iff.2 e0;omega))
   constructor
   ·rintro (h|⟨h1,h2⟩)
    ·exact(e0 h).elim
    ·constructor
     ·cases eg:gvtE k with
      |none=>exact gvtB_none eg
      |some g=>
       rw [gvtB_some eg]
       exact behB_iff.2 (.inr ((beh_iff hl (hg g (gvt_in eg))).2 (h2 g eg)))
     ·intro i hi
      by_cases e1:(paAt k.p i).p= []
      ·exact past0B_iff.2 (.inl e1)
      ·exact past0B_iff.2 (.inr (behB_iff.2 (.inr ((beh_iff hl (hp i hi 0 (List.length_pos_iff.2 e1))).2 ((h1 i hi).resolve_left e1)))))
   ·rintro ⟨h1,h2⟩
    refine .inr ⟨fun i hi=> ?_,fun g eg=> ?_⟩
    ·by_cases e1:(paAt k.p i).p= []
     ·exact .inl e1
     ·refine .inr ?_
      have h3:=((behB_iff.1 ((past0B_iff.1 (h2 i hi)).resolve_left e1)).resolve_left e0)
      exact(beh_iff hl (hp i hi 0 (List.length_pos_iff.2 e1))).1 h3
    ·rw [gvtB_some eg]at h1
     exact(beh_iff hl (hg g (gvt_in eg))).1 ((behB_iff.1 h1).resolve_left e0)
 have key2:(∀i,i<k.s.length→evIn k.m (evAt k.s i)=true)→((∀i,i<k.s.length-1→(evAt k.s i).ecmp (evAt k.s (i+1))= -1)↔ ∀i,i<k.s.length→0<i→(evAt k.s (i-1)).cmp (evAt k.s i)<0):=by
  intro hok
  constructor
  ·intro h i hi h0
   have h1:=h (i-1) (by omega)
   rw [show i-1+1=i by omega]at h1
   exact(ecmp_iff (evIn_ok (hok _ (by omega))) (evIn_ok (hok _ hi))).1 h1
  ·intro h i hi
   have h1:=h (i+1) (by omega) (by omega)
   rw [show i+1-1=i by omega]at h1
   exact(ecmp_iff (evIn_ok (hok _ (by omega))) (evIn_ok (hok _ (by omega)))).2 h1
 constructor
 ·rintro ⟨h1,h2,h3⟩
  have hok:=fun i hi=>(h1 i hi).1
  refine⟨fun i hi=>sure1_iff.2 ⟨hok i hi,(h1 i hi).2,(key2 hok).1 h2 i hi⟩,(key hok).1 h3⟩
 ·rintro ⟨h1,h2⟩
  have hok:=fun i hi=>(sure1_iff.1 (h1 i hi)).1
  exact⟨fun i hi=>⟨hok i hi,(sure1_iff.1 (h1 i hi)).2.1⟩,(key2 hok).2 (fun i hi=>(sure1_iff.1 (h1 i hi)).2.2),(key hok).2 h2⟩
theorem modB_iff {m:Md} {p:Pa}:modB m p=true↔m.ok=true∧p.ok=true∧p.n<m.n∧ ∀i,i<p.t.length→evIn m (evAt p.t i)=true:=by
 unfold modB
 simp only [Bool.and_eq_true,decide_eq_true_eq,allB_iff,and_assoc]
theorem ok_past {p:Pa} (h:p.ok=true):∀j,j<p.p.length→(psAt p.p j).e.ok=true:=fun j hj=>by
 have h1:=(Pa.ok_iff.1 h).2.2.2.2.1.1 j (by rw [all_length];omega)
 rw [all_done p hj]at h1
 exact h1
theorem kern_iff {k:Kn}:k.ok=true↔KernI k:=by
 rw [ok_iff,headK_iff,sureB_iff,tagsB_iff]
 unfold KernI
 constructor
 ·rintro ⟨⟨a1,a2,a3,a4,a5,a6,a7,a8⟩,hP,hB,⟨s1,s2,s3,s4,s5,s6⟩,hK,hD⟩
  obtain⟨d1,d2⟩:=diff_is.1 hD
  have P1:=fun i hi=>(part1_iff.1 (hP i hi)).1
  have P2:=fun i hi=>modB_iff.1 (P1 i hi)
  have gok:∀e,e∈gvtL k→e.ok=true:=fun e he=>gvtL_ok (fun i hi j hj=>evIn_ok ((P2 i hi).2.2.2 j hj)) (fun i hi=>evIn_ok (bag1_iff.1 (hB i hi)).1) he
  have pok:=fun i hi=>ok_past (P2 i hi).2.1
  refine⟨⟨a4,s1,s2⟩,a1,a2,⟨a5,a6⟩,⟨a7,by omega⟩,?_,bagKB_iff.2 (fun i hi=>bag1_iff.1 (hB i hi)),d2,(sure_iff gok pok).2 ⟨s3,s5,s6⟩,emsC_iff.2 s4⟩
  refine partsKB_iff.2 ⟨a3,fun i hi=>partI_iff.2 ⟨(part1_iff.1 (hP i hi)).2,(P2 i hi).2.1,?_,?_,?_⟩⟩
  ·exact knL_iff.2 (fun j hj=>⟨(P2 i hi).2.2.2 j hj,d1 _ (in_all_part hi (in_all.2 (.inr ⟨j,hj,rfl⟩)))⟩)
  ·exact pastKB_iff.2 (fun j hj=>⟨d1 _ (in_all_part hi (in_all.2 (.inl ⟨j,hj,rfl⟩))),knL_iff.2 (sentK_iff.1 ((partK_iff.1 (hK i hi)).1 j hj))⟩)
  ·exact(antiL_iff (Pa.ok_iff.1 (P2 i hi).2.1).2.2.2.2.2).2 (partK_iff.1 (hK i hi)).2
 ·rintro ⟨⟨a4,s1,s2⟩,a1,a2,⟨a5,a6⟩,⟨a7,a8⟩,hP,hB,d2,hS,s4⟩
  obtain⟨a3,hP⟩:=partsKB_iff.1 hP
  have P2:=fun i hi=>partI_iff.1 (hP i hi)
  have P3:=fun i hi=>knL_iff.1 (P2 i hi).2.2.1
  have B1:=bagKB_iff.1 hB
  have gok:∀e,e∈gvtL k→e.ok=true:=fun e he=>gvtL_ok (fun i hi j hj=>evIn_ok (P3 i hi j hj).1) (fun i hi=>evIn_ok (B1 i hi).1) he
  have pok:=fun i hi=>ok_past (P2 i hi).2.1
  obtain⟨s3,s5,s6⟩:=(sure_iff gok pok).1 hS
  refine⟨⟨a1,a2,a3,a4,a5,a6,a7,by omega⟩,fun i hi=>part1_iff.2 ⟨modB_iff.2 ⟨a1,(P2 i hi).2.1,?_,fun j hj=>(P3 i hi j hj).1⟩,(P2 i hi).1⟩,fun i hi=>bag1_iff.2 (B1 i hi),⟨s1,s2,s3,emsC_iff.1 s4,s5,s6⟩,fun i hi=>partK_iff.2 ⟨fun j hj=>sentK_iff.2 (knL_iff.1 (pastKB_iff.1 (P2 i hi).2.2.2.1 j hj).2),(antiL_iff (Pa.ok_iff.1 (P2 i hi).2.1).2.2.2.2.2).1 (P2 i hi).2.2.2.2⟩,diff_is.2 ⟨fun e he=> ?_,d2⟩⟩
  ·have:=(P2 i hi).1
   omega
  ·rcases all_in he with ⟨i,hi,h1⟩|⟨i,hi,_,rfl⟩
   ·rcases in_all.1 h1 with ⟨j,hj,rfl⟩|⟨j,hj,rfl⟩
    ·exact(pastKB_iff.1 (P2 i hi).2.2.2.1 j hj).1
    ·exact(P3 i hi j hj).2
   ·exact(B1 i hi).2
theorem partsE_snoc {l:List Pa} {i:Nat} (h:i<l.length):partsE (l.take (i+1))=partsE (l.take i)++(paAt l i).all:=by
 rw [take_snocP h]
 unfold partsE
 rw [List.flatMap_append]
 simp
theorem partsE_take (l:List Pa) (j:Nat):(partsE (l.take j)).length≤(partsE l).length:=by
 have e:partsE l=partsE (l.take j)++partsE (l.drop j):=by
  unfold partsE
  rw [←List.flatMap_append,List.take_append_drop]
 rw [e,List.length_append]
 omega
theorem bagE_snoc {l:List Ml} {i:Nat} (h:i<l.length):bagE (l.take (i+1))=bagE (l.take i)++(if (mlAt l i).a then []else [(mlAt l i).e]):=by
 rw [take_snocM h]
 unfold bagE
 rw [List.flatMap_append]
 simp
theorem bagE_take (l:List Ml) (j:Nat):(bagE (l.take j)).length≤(bagE l).length:=by
 have e:bagE l=bagE (l.take j)++bagE (l.drop j):=by
  unfold bagE
  rw [←List.flatMap_append,List.take_append_drop]
 rw [e,List.length_append]
 omega
theorem allK_len {k:Kn} (h:k.wt≤1048576):(partsE k.p).length+(bagE k.b).length≤1048576:=by
 have h1:=tags_len h
 have h2:=(partsT_perm k.p).length_eq
 rw [List.length_map]at h2
 rw [bagT_map,List.length_map]at h1
 omega
theorem OwnR.srcC {B:Nat} {w:World} {x:Value} {l:List Ev} (h:OwnR B w x l):SrcC w x 7 l.length (cellsL l):=IsD.src ((RowF.of_owns (cellsL_length l) h).own.isD) (cellsL_length l)
theorem RowE.more {B:Nat} {w:World} {v:Value} {l l':List Ev} (h:w.ownsRow B 110 7 v (l.length+l'.length) (cellsL l++cellsL l')):RowE B w v (l++l'):=by
 unfold RowE
 rw [List.length_append,cellsL_append]
 exact h
set_option maxRecDepth 100000 in
set_option maxHeartbeats 16000000 in
theorem iAllKnown (x:Value) (k:Kn) (w:World) (hs:SmallK k) (h:IsKern w x k):
  Calls Tryz.prog 116 #[x] w fun e w'=>∃y,e= .returned y∧OwnR w.heap.size w' y (allK k)∧Below w.heap.size w w':=by
 have hall:=allK_len hs.2
 obtain⟨HSM0,hsk⟩:=hs
 have HSM:Hid (SmallM k.m):=HSM0
 obtain⟨hdl,hpl,hbl,hsl,hxl⟩:=wt_lens hsk
 have HWP:Hid (∀i,i<k.p.length→(paAt k.p i).wt≤1048576):=wt_parts hsk
 clear hsk HSM0
 obtain⟨ai,ci,ah,ch,ae,ce,ad,cd,ap,cp,ab,cb,au,cu,ax,cx,rfl,hm,hd,hp,hbg,hsu,hx⟩:=h.form
 have HM:Hid (IsM w (.agg #[.int .i64 k.m.n,.int .i64 k.m.s,.slice ai k.m.i.length ci,.slice ah k.m.h.length ch,.slice ae k.m.e.length ce,.int .i64 k.m.z]) k.m):=hm
 have HD:Hid (IsI w (.slice ad k.d.length cd) k.d):=hd
 have HPP:Hid (k.p= []∨ ∃b off,ap=some ⟨b,off,none⟩∧PasAt w b off k.p):=hp
 have HBG:Hid (k.b= []∨ ∃b off,ab=some ⟨b,off,none⟩∧MlsAt w b off k.b):=hbg.rows
 have HSU:Hid (k.s= []∨ ∃b off,au=some ⟨b,off,none⟩∧EvsAt w b off k.s):=hsu.rows
 have HXX:Hid (k.x= []∨ ∃b off,ax=some ⟨b,off,none⟩∧XsAt w b off k.x):=hx.rows
 have HSUI:Hid (IsEvs w (.slice au k.s.length cu) k.s):=hsu
 have HXXI:Hid (IsX w (.slice ax k.x.length cx) k.x):=hx
 have HK:Hid (IsKern w (.agg #[.int .i64 k.m.n,.int .i64 k.m.s,.slice ai k.m.i.length ci,.slice ah k.m.h.length ch,.slice ae k.m.e.length ce,.int .i64 k.m.z,.slice ad k.d.length cd,.slice ap k.p.length cp,.slice ab k.b.length cb,.int .i64 k.t,.int .i64 k.q,.bool k.f,.slice au k.s.length cu,.slice ax k.x.length cx]) k):=h
 clear hm hd hp hbg hsu hx h
 obtain⟨W0,hW0⟩:∃W0,w.alloc (.cells #[.int .i64 k.m.n,.int .i64 k.m.s,.slice ai k.m.i.length ci,.slice ah k.m.h.length ch,.slice ae k.m.e.length ce,.int .i64 k.m.z,.slice ad k.d.length cd,.slice ap k.p.length cp,.slice ab k.b.length cb,.int .i64 k.t,.int .i64 k.q,.bool k.f,.slice au k.s.length cu,.slice ax k.x.length cx] 57)=W0:=⟨_,rfl⟩
 have HB0:Hid (Below w.heap.size w W0):=by rw [←hW0];exact(Below.refl _ w).alloc (Nat.le_refl _) _
 have HP0:Hid (Bk W0 w.heap.size 57 #[.int .i64 k.m.n,.int .i64 k.m.s,.slice ai k.m.i.length ci,.slice ah k.m.h.length ch,.slice ae k.m.e.length ce,.int .i64 k.m.z,.slice ad k.d.length cd,.slice ap k.p.length cp,.slice ab k.b.length cb,.int .i64 k.t,.int .i64 k.q,.bool k.f,.slice au k.s.length cu,.slice ax k.x.length cx]):=by rw [←hW0];exact Bk.new w _ _
 have HW:Hid (w.alloc (.cells #[.int .i64 k.m.n,.int .i64 k.m.s,.slice ai k.m.i.length ci,.slice ah k.m.h.length ch,.slice ae k.m.e.length ce,.int .i64 k.m.z,.slice ad k.d.length cd,.slice ap k.p.length cp,.slice ab k.b.length cb,.int .i64 k.t,.int .i64 k.q,.bool k.f,.slice au k.s.length cu,.slice ax k.x.length cx] 57)=W0):=hW0
 have hs0:w.heap.size<W0.heap.size:=HP0.out.lt
 clear HM HD HSU HXX HSUI HXXI HK HSM hW0
 obtain⟨ie,hx0,hx1,hx2,hx3⟩:=info_parts info25
 obtain⟨B,hB⟩:∃B,B=W0.heap.size:=⟨_,rfl⟩
 have hB1:B≤W0.heap.size:=by omega
 have hB2:w.heap.size<B:=by omega
 clear hB
 have hw:=HW.out
 have q7:=HP0.out.cell (i:=7) rfl
 go_enter Tryz.func116,Tryz.ntmps116
 go_wp2
 clear hw q7 HW
 go_loopw [3,11] (fun o i wr=>∃(j:Nat) (v:Value),j≤k.p.length∧v=o∧i= .int .i64 j∧RowE B wr o (partsE (k.p.take j))∧Below B W0 wr) (fun _ i _=>k.p.length-(intOf i).toNat)
 case atStart=>exact⟨0,_,Nat.zero_le _,rfl,rfl,RowE.nil _ _,Below.refl _ _⟩
 case round=>
  obtain⟨j,o,hj,rfl,rfl,hR,hBr⟩:=hrel
  have HR:Hid (RowE B wr o (partsE (k.p.take j))):=hR
  have HBB:Hid (Below B W0 wr):=hBr
  have HBr:Hid (Below w.heap.size w wr):=HB0.out.trans (hBr.mono (by omega))
  have hs1:B≤wr.heap.size:=Nat.le_trans hB1 hBr.size
  clear hR hBr
  by_cases hlt:j<k.p.length
  ·obtain⟨b,off,rfl,hb,hPA⟩:=HPP.out.resolve_left (by intro e;rw [e]at hlt;simp at hlt)
   obtain⟨a1,c1,a4,c4,a5,c5,a6,c6,hp⟩:=hPA j hlt
   have f0:=(HBr.out.cell (p:=⟨b,_,none⟩) hb).trans hp.f0
   have f1:=(HBr.out.cell (p:=⟨b,_,none⟩) hb).trans hp.f1
   have f2:=(HBr.out.cell (p:=⟨b,_,none⟩) hb).trans hp.f2
   have f3:=(HBr.out.cell (p:=⟨b,_,none⟩) hb).trans hp.f3
   have f4:=(HBr.out.cell (p:=⟨b,_,none⟩) hb).trans hp.f4
   have f5:=(HBr.out.cell (p:=⟨b,_,none⟩) hb).trans hp.f5
   have f6:=(HBr.out.cell (p:=⟨b,_,none⟩) hb).trans hp.f6
   have HIP:Hid (IsPart w (.agg #[.int .i64 (paAt k.p j).n,.slice a1 (paAt k.p j).st.r.length c1,.int .i64 (paAt k.p j).st.q,.int .i64 (paAt k.p j).st.d,.slice a4 (paAt k.p j).p.length c4,.slice a5 (paAt k.p j).t.length c5,.slice a6 (paAt k.p j).a.length c6]) (paAt k.p j)):=hp.isPart
   have HWj:Hid ((paAt k.p j).wt≤1048576):=HWP.out j hlt
   have HN:Hid (partsE (k.p.take (j+1))=partsE (k.p.take j)++(paAt k.p j).all):=partsE_snoc hlt
   have hln:(partsE (k.p.take j)).length+(paAt k.p j).all.length≤1048576:=by
    have h9:=partsE_take k.p (j+1)
    rw [partsE_snoc hlt,List.length_append]at h9
    omega
   generalize partsE (k.p.take j)=lq at HR HN hln
   obtain⟨V,hV⟩:∃V,wr.alloc (.cells #[.int .i64 (paAt k.p j).n,.slice a1 (paAt k.p j).st.r.length c1,.int .i64 (paAt k.p j).st.q,.int .i64 (paAt k.p j).st.d,.slice a4 (paAt k.p j).p.length c4,.slice a5 (paAt k.p j).t.length c5,.slice a6 (paAt k.p j).a.length c6] 97)=V:=⟨_,rfl⟩
   have HBV:Hid (Below B W0 V):=by rw [←hV];exact HBB.out.alloc hs1 _
   have HRV:Hid (RowE B V o lq):=by rw [←hV];exact HR.out.alloc _
   have HX:Hid (Bk V wr.heap.size 97 #[.int .i64 (paAt k.p j).n,.slice a1 (paAt k.p j).st.r.length c1,.int .i64 (paAt k.p j).st.q,.int .i64 (paAt k.p j).st.d,.slice a4 (paAt k.p j).p.length c4,.slice a5 (paAt k.p j).t.length c5,.slice a6 (paAt k.p j).a.length c6]):=by rw [←hV];exact Bk.new _ _ _
   have HBw:Hid (Below w.heap.size w V):=HB0.out.trans (HBV.out.mono (by omega))
   have hsV:B≤V.heap.size:=Nat.le_trans hB1 HBV.out.size
   have x0:=HX.out.cell (i:=0) rfl
   have x1:=HX.out.cell (i:=1) rfl
   have x2:=HX.out.cell (i:=2) rfl
   have x3:=HX.out.cell (i:=3) rfl
   have x4:=HX.out.cell (i:=4) rfl
   have x5:=HX.out.cell (i:=5) rfl
   have x6:=HX.out.cell (i:=6) rfl
   clear hp hPA
   go_wp2_with fail
   clear x0 x1 x2 x3 x4 x5 x6 f0 f1 f2 f3 f4 f5 f6 hV
   refine(iDoings _ (paAt k.p j) _ HWj.out (HIP.out.under HBw.out)).mono ?_
   rintro e w5 ⟨y,rfl,ho,hb5⟩
   have HR5:Hid (RowE B w5 o lq):=OwnR.below HRV.out hb5
   have HS5:Hid (SrcC w5 y 7 (paAt k.p j).all.length (cellsL (paAt k.p j).all)):=ho.srcC
   have HB5:Hid (Below B W0 w5):=HBV.out.trans (hb5.mono hsV)
   have hs5:B≤w5.heap.size:=Nat.le_trans hsV hb5.size
   clear ho hb5
   generalize (paAt k.p j).all=la at HN hln HS5
   go_wp2_with (at_builtin;refine wpList_append_src _ rfl _ _ 34 rfl B 110 ie (.agg #[.int .i64 0,.int .i64 0,.int .i64 0,.int .i64 0,.int .i64 0,.int .i64 0,.int .i64 0]) 7 56 Tryz.underlying34 hx0 hx1 hx2 hx3 rfl (by decide) o lq.length (cellsL lq) rfl HR5.out y la.length (cellsL la) rfl HS5.out (cellsL_ones la) (by unfold maxLen;omega) (by omega) hs5 ?_;intro v4 w4 hown hgrow hnew)
   go_roundw
   case rel=>exact⟨j+1,_,by omega,rfl,by go_num,by rw [HN.out];exact RowE.more hown,HB5.out.grown hgrow hs5 (fun q e=>RowE.ge HR5.out e)⟩
   case measure=>simp [intOf];omega
  ·obtain rfl:k.p.length=j:=by omega
   rw [List.take_length]at HR
   obtain⟨W1,rfl⟩:∃W1,W1=wr:=⟨wr,rfl⟩
   have HR1:Hid (RowE B W1 o (partsE k.p)):=HR.out
   have HBB1:Hid (Below B W0 W1):=HBB.out
   have HP1:Hid (Bk W1 w.heap.size 57 #[.int .i64 k.m.n,.int .i64 k.m.s,.slice ai k.m.i.length ci,.slice ah k.m.h.length ch,.slice ae k.m.e.length ce,.int .i64 k.m.z,.slice ad k.d.length cd,.slice ap k.p.length cp,.slice ab k.b.length cb,.int .i64 k.t,.int .i64 k.q,.bool k.f,.slice au k.s.length cu,.slice ax k.x.length cx]):=HP0.out.lowB HBB.out hB2
   have m8:=HP1.out.cell (i:=8) rfl
   clear HR HBB HBr hj hlt hs1
   go_wp2
   clear m8
   go_loopw [3,23] (fun o i wr=>∃(j:Nat) (v:Value),j≤k.b.length∧v=o∧i= .int .i64 j∧RowE B wr o (partsE k.p++bagE (k.b.take j))∧Below B W0 wr) (fun _ i _=>k.b.length-(intOf i).toNat)
   case atStart=>exact⟨0,_,Nat.zero_le _,rfl,rfl,by simpa [bagE] using HR1.out,HBB1.out⟩
   case round=>
    clear HR1 HBB1 HP1
    obtain⟨j,o,hj,rfl,rfl,hR,hBr⟩:=hrel
    have HR:Hid (RowE B wr o (partsE k.p++bagE (k.b.take j))):=hR
    have HBB:Hid (Below B W0 wr):=hBr
    have HBr:Hid (Below w.heap.size w wr):=HB0.out.trans (hBr.mono (by omega))
    have hs1:B≤wr.heap.size:=Nat.le_trans hB1 hBr.size
    clear hR hBr
    by_cases hlt:j<k.b.length
    ·obtain⟨b,off,rfl,hb,hMA⟩:=HBG.out.resolve_left (by intro e;rw [e]at hlt;simp at hlt)
     obtain⟨f0,f1,f2,f3,f4,f5,f6,f7⟩:=(hMA j hlt).below HBr.out hb
     have HN:Hid (partsE k.p++bagE (k.b.take (j+1))=(partsE k.p++bagE (k.b.take j))++(if (mlAt k.b j).a then []else [(mlAt k.b j).e])):=(by rw [bagE_snoc hlt,List.append_assoc]:partsE k.p++bagE (k.b.take (j+1))=_)
     have hln:(partsE k.p++bagE (k.b.take j)).length≤3000000:=by have h9:=bagE_take k.b j;rw [List.length_append];omega
     generalize partsE k.p++bagE (k.b.take j)=lq at HR HN hln
     obtain⟨V,hV⟩:∃V,wr.alloc (.cells #[.int .i64 (mlAt k.b j).e.t,.int .i64 (mlAt k.b j).e.s,.int .i64 (mlAt k.b j).e.q,.int .i64 (mlAt k.b j).e.d,.int .i64 (mlAt k.b j).e.k,.int .i64 (mlAt k.b j).e.v,.int .i64 (mlAt k.b j).e.g,.bool (mlAt k.b j).a] 148)=V:=⟨_,rfl⟩
     have HBV:Hid (Below B W0 V):=by rw [←hV];exact HBB.out.alloc hs1 _
     have HRV:Hid (RowE B V o lq):=by rw [←hV];exact HR.out.alloc _
     have HX:Hid (Bk V wr.heap.size 148 #[.int .i64 (mlAt k.b j).e.t,.int .i64 (mlAt k.b j).e.s,.int .i64 (mlAt k.b j).e.q,.int .i64 (mlAt k.b j).e.d,.int .i64 (mlAt k.b j).e.k,.int .i64 (mlAt k.b j).e.v,.int .i64 (mlAt k.b j).e.g,.bool (mlAt k.b j).a]):=by rw [←hV];exact Bk.new _ _ _
     have hsV:B≤V.heap.size:=Nat.le_trans hB1 HBV.out.size
     have x0:=HX.out.cell (i:=0) rfl
     have x1:=HX.out.cell (i:=1) rfl
     have x2:=HX.out.cell (i:=2) rfl
     have x3:=HX.out.cell (i:=3) rfl
     have x4:=HX.out.cell (i:=4) rfl
     have x5:=HX.out.cell (i:=5) rfl
     have x6:=HX.out.cell (i:=6) rfl
     have x7:=HX.out.cell (i:=7) rfl
     clear hMA
     cases ha:(mlAt k.b j).a
     case true=>
      have HNN:Hid (partsE k.p++bagE (k.b.take (j+1))=lq):=by show _=_;rw [HN.out,ha];simp
      rw [ha]at x7
      clear ha
      go_wp2
      go_roundw
      case rel=>exact⟨j+1,_,by omega,rfl,by go_num,by rw [HNN.out];exact HRV.out,HBV.out⟩
      case measure=>simp [intOf];omega
     have HNN:Hid (partsE k.p++bagE (k.b.take (j+1))=lq++ [(mlAt k.b j).e]):=by show _=_;rw [HN.out,ha];rfl
     rw [ha]at x7
     clear ha
     go_wp2_with (at_builtin;refine wpList_append_own _ rfl _ _ 34 rfl B 110 ie (.agg #[.int .i64 0,.int .i64 0,.int .i64 0,.int .i64 0,.int .i64 0,.int .i64 0,.int .i64 0]) 7 56 Tryz.underlying34 hx0 hx1 hx2 hx3 rfl (by decide) o _ _ rfl (World.ownsRow.alloc HRV.out _) ⟨V.heap.size,0,none⟩ 1 1 ((mlAt k.b j).e).cs rfl rfl (at_newE _ (mlAt k.b j).e) (evOnes (mlAt k.b j).e) (by unfold maxLen;omega) (by omega) (by simp;omega) ?_;intro v4 w4 hown hgrow hnil)
     go_roundw
     case rel=>exact⟨j+1,_,by omega,rfl,by go_num,by rw [HNN.out];exact RowE.grow hown,(HBV.out.alloc hsV _).grown hgrow (by simp;omega) (fun q e=>RowE.ge HRV.out e)⟩
     case measure=>simp [intOf];omega
    ·obtain rfl:k.b.length=j:=by omega
     rw [List.take_length]at HR
     have HRa:Hid (OwnR B wr o (allK k)):=HR.out
     obtain⟨ao,co,rfl,_,_,_⟩:=HRa.out.evs
     go_wp2
     go_ret
     exact⟨_,rfl,HRa.out.mono (by omega),HBr.out⟩
end Go.Proofs.YtmobiieoecjmdaaGreat

