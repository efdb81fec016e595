/- KIf, KIe -/
import Derived.Test.YtmobiieoecjmdaaGreatExactCommittedG26
import Derived.Test.YtmobiieoecjmdaaGreatExactCommittedG17
/- The program's partsOk. -/
namespace Go.Proofs.YtmobiieoecjmdaaGreat
open Go.RowKit
noncomputable def partI (k : Kn) (i : Nat) : Bool := decide ((paAt k.p i).n = (i : Int)) && (paAt k.p i).ok && knL k (paAt k.p i).t && pastKB k (paAt k.p i) && antiL k.t (paAt k.p i).a
noncomputable def partsKB (k : Kn) : Bool := decide ((k.p.length : Int) = k.m.n) && allB k.p.length (partI k)
theorem partI_iff {k:Kn} {i:Nat}:partI k i=true↔(paAt k.p i).n=(i:Int)∧(paAt k.p i).ok=true∧knL k (paAt k.p i).t=true∧pastKB k (paAt k.p i)=true∧antiL k.t (paAt k.p i).a=true:=by
 unfold partI
 simp only [Bool.and_eq_true,decide_eq_true_eq,and_assoc]
theorem partsKB_iff {k:Kn}:partsKB k=true↔(k.p.length:Int)=k.m.n∧ ∀i,i<k.p.length→partI k i=true:=by
 unfold partsKB
 simp only [Bool.and_eq_true,decide_eq_true_eq,allB_iff]
set_option maxRecDepth 100000 in
set_option maxHeartbeats 16000000 in
theorem iPartsOk (x:Value) (k:Kn) (w:World) (hs:SmallK k) (h:IsKern w x k):
  Calls Tryz.prog 113 #[x] w fun e w'=>e= .returned (.bool (partsKB k))∧Below w.heap.size w w':=by
 obtain⟨HSM0,hsk⟩:=hs
 have HSM:Hid (SmallM k.m):=HSM0
 obtain⟨hdl,hpl,hbl,hsl,hxl⟩:=wt_lens hsk
 have HWP:Hid (∀i,i<k.p.length→(paAt k.p i).wt≤1048576):=wt_parts hsk
 clear hsk HSM0
 obtain⟨ai,ci,ah,ch,ae,ce,ad,cd,ap,cp,ab,cb,au,cu,ax,cx,rfl,hm,hd,hp,hbg,hsu,hx⟩:=h.form
 have HM:Hid (IsM w (.agg #[.int .i64 k.m.n,.int .i64 k.m.s,.slice ai k.m.i.length ci,.slice ah k.m.h.length ch,.slice ae k.m.e.length ce,.int .i64 k.m.z]) k.m):=hm
 have HD:Hid (IsI w (.slice ad k.d.length cd) k.d):=hd
 have HPP:Hid (k.p= []∨ ∃b off,ap=some ⟨b,off,none⟩∧PasAt w b off k.p):=hp
 have HBG:Hid (k.b= []∨ ∃b off,ab=some ⟨b,off,none⟩∧MlsAt w b off k.b):=hbg.rows
 have HSU:Hid (k.s= []∨ ∃b off,au=some ⟨b,off,none⟩∧EvsAt w b off k.s):=hsu.rows
 have HXX:Hid (k.x= []∨ ∃b off,ax=some ⟨b,off,none⟩∧XsAt w b off k.x):=hx.rows
 have HSUI:Hid (IsEvs w (.slice au k.s.length cu) k.s):=hsu
 have HXXI:Hid (IsX w (.slice ax k.x.length cx) k.x):=hx
 have HK:Hid (IsKern w (.agg #[.int .i64 k.m.n,.int .i64 k.m.s,.slice ai k.m.i.length ci,.slice ah k.m.h.length ch,.slice ae k.m.e.length ce,.int .i64 k.m.z,.slice ad k.d.length cd,.slice ap k.p.length cp,.slice ab k.b.length cb,.int .i64 k.t,.int .i64 k.q,.bool k.f,.slice au k.s.length cu,.slice ax k.x.length cx]) k):=h
 clear hm hd hp hbg hsu hx h
 obtain⟨W0,hW0⟩:∃W0,w.alloc (.cells #[.int .i64 k.m.n,.int .i64 k.m.s,.slice ai k.m.i.length ci,.slice ah k.m.h.length ch,.slice ae k.m.e.length ce,.int .i64 k.m.z,.slice ad k.d.length cd,.slice ap k.p.length cp,.slice ab k.b.length cb,.int .i64 k.t,.int .i64 k.q,.bool k.f,.slice au k.s.length cu,.slice ax k.x.length cx] 57)=W0:=⟨_,rfl⟩
 have HB0:Hid (Below w.heap.size w W0):=by rw [←hW0];exact(Below.refl _ w).alloc (Nat.le_refl _) _
 have HP0:Hid (Bk W0 w.heap.size 57 #[.int .i64 k.m.n,.int .i64 k.m.s,.slice ai k.m.i.length ci,.slice ah k.m.h.length ch,.slice ae k.m.e.length ce,.int .i64 k.m.z,.slice ad k.d.length cd,.slice ap k.p.length cp,.slice ab k.b.length cb,.int .i64 k.t,.int .i64 k.q,.bool k.f,.slice au k.s.length cu,.slice ax k.x.length cx]):=by rw [←hW0];exact Bk.new w _ _
 have HW:Hid (w.alloc (.cells #[.int .i64 k.m.n,.int .i64 k.m.s,.slice ai k.m.i.length ci,.slice ah k.m.h.length ch,.slice ae k.m.e.length ce,.int .i64 k.m.z,.slice ad k.d.length cd,.slice ap k.p.length cp,.slice ab k.b.length cb,.int .i64 k.t,.int .i64 k.q,.bool k.f,.slice au k.s.length cu,.slice ax k.x.length cx] 57)=W0):=hW0
 have hs0:w.heap.size<W0.heap.size:=HP0.out.lt
 clear hW0
 have hw:=HW.out
 have q7:=HP0.out.cell (i:=7) rfl
 have q0:=HP0.out.cell (i:=0) rfl
 by_cases c1:(k.p.length:Int)=k.m.n
 case neg=>
  have c1':((k.p.length:Int) !=k.m.n)=true:=by simpa using c1
  have HN:Hid (partsKB k=false):=bool_no (fun h=>c1 (partsKB_iff.1 h).1)
  clear c1
  go_enter Tryz.func113,Tryz.ntmps113
  go_wp2
  go_ret
  exact⟨ret_bool HN.out.symm,HB0.out⟩
 have c1':((k.p.length:Int) !=k.m.n)=false:=by simpa using c1
 have HC1:Hid ((k.p.length:Int)=k.m.n):=c1
 clear c1
 go_enter Tryz.func113,Tryz.ntmps113
 go_wp2
 clear q7 q0 hw c1'
 go_loopw [15] (fun i wr=>∃j:Nat,j≤k.p.length∧i= .int .i64 j∧Hid (∀i,i<j→partI k i=true)∧Below W0.heap.size W0 wr) (fun i _=>k.p.length-(intOf i).toNat)
 case atStart=>exact⟨0,Nat.zero_le _,rfl,fun j hj=>by omega,Below.refl _ _⟩
 case round=>
  obtain⟨j,hj,rfl,HA,hB⟩:=hrel
  have HBr:Hid (Below w.heap.size w wr):=HB0.out.trans (hB.mono HB0.out.size)
  have HBr2:Hid (Below W0.heap.size W0 wr):=hB
  have HKr:Hid (Bk wr w.heap.size 57 #[.int .i64 k.m.n,.int .i64 k.m.s,.slice ai k.m.i.length ci,.slice ah k.m.h.length ch,.slice ae k.m.e.length ce,.int .i64 k.m.z,.slice ad k.d.length cd,.slice ap k.p.length cp,.slice ab k.b.length cb,.int .i64 k.t,.int .i64 k.q,.bool k.f,.slice au k.s.length cu,.slice ax k.x.length cx]):=HP0.out.below hB
  clear hB
  by_cases hlt:j<k.p.length
  ·obtain⟨b,off,rfl,hPA⟩:=HPP.out.resolve_left (by intro e;rw [e]at hlt;simp at hlt)
   obtain⟨a1,c1,a4,c4,a5,c5,a6,c6,hp⟩:=hPA.2 j hlt
   have hb:b<w.heap.size:=hPA.1
   have f0:=(HBr.out.cell (p:=⟨b,_,none⟩) hb).trans hp.f0
   have f1:=(HBr.out.cell (p:=⟨b,_,none⟩) hb).trans hp.f1
   have f2:=(HBr.out.cell (p:=⟨b,_,none⟩) hb).trans hp.f2
   have f3:=(HBr.out.cell (p:=⟨b,_,none⟩) hb).trans hp.f3
   have f4:=(HBr.out.cell (p:=⟨b,_,none⟩) hb).trans hp.f4
   have f5:=(HBr.out.cell (p:=⟨b,_,none⟩) hb).trans hp.f5
   have f6:=(HBr.out.cell (p:=⟨b,_,none⟩) hb).trans hp.f6
   have HIP:Hid (IsPart w (.agg #[.int .i64 (paAt k.p j).n,.slice a1 (paAt k.p j).st.r.length c1,.int .i64 (paAt k.p j).st.q,.int .i64 (paAt k.p j).st.d,.slice a4 (paAt k.p j).p.length c4,.slice a5 (paAt k.p j).t.length c5,.slice a6 (paAt k.p j).a.length c6]) (paAt k.p j)):=hp.isPart
   have HTD:Hid (IsEvs w (.slice a5 (paAt k.p j).t.length c5) (paAt k.p j).t):=hp.d5.isEvs
   have HWj:Hid ((paAt k.p j).wt≤1048576):=HWP.out j hlt
   have hlens:(paAt k.p j).t.length≤1048576∧(paAt k.p j).a.length≤1048576:=by
    have h9:=HWj.out
    unfold Pa.wt at h9
    simp only [ints_wt,evs_wt]at h9
    omega
   obtain⟨htl,hal⟩:=hlens
   have HNO:Hid (¬partI k j=true→partsKB k=false):=fun h1=>bool_no (fun h=>h1 ((partsKB_iff.1 h).2 j hlt))
   obtain⟨V,hV⟩:∃V,wr.alloc (.cells #[.int .i64 (paAt k.p j).n,.slice a1 (paAt k.p j).st.r.length c1,.int .i64 (paAt k.p j).st.q,.int .i64 (paAt k.p j).st.d,.slice a4 (paAt k.p j).p.length c4,.slice a5 (paAt k.p j).t.length c5,.slice a6 (paAt k.p j).a.length c6] 97)=V:=⟨_,rfl⟩
   have HB1:Hid (Below wr.heap.size wr V):=by rw [←hV];exact(Below.refl _ wr).alloc (Nat.le_refl _) _
   have HX1:Hid (Bk V wr.heap.size 97 #[.int .i64 (paAt k.p j).n,.slice a1 (paAt k.p j).st.r.length c1,.int .i64 (paAt k.p j).st.q,.int .i64 (paAt k.p j).st.d,.slice a4 (paAt k.p j).p.length c4,.slice a5 (paAt k.p j).t.length c5,.slice a6 (paAt k.p j).a.length c6]):=by rw [←hV];exact Bk.new _ _ _
   have HK1:Hid (Bk V w.heap.size 57 #[.int .i64 k.m.n,.int .i64 k.m.s,.slice ai k.m.i.length ci,.slice ah k.m.h.length ch,.slice ae k.m.e.length ce,.int .i64 k.m.z,.slice ad k.d.length cd,.slice (some ⟨b,off,none⟩) k.p.length cp,.slice ab k.b.length cb,.int .i64 k.t,.int .i64 k.q,.bool k.f,.slice au k.s.length cu,.slice ax k.x.length cx]):=HKr.out.below HB1.out
   clear hPA hp
   have x0:=HX1.out.cell (i:=0) rfl
   have x1:=HX1.out.cell (i:=1) rfl
   have x2:=HX1.out.cell (i:=2) rfl
   have x3:=HX1.out.cell (i:=3) rfl
   have x4:=HX1.out.cell (i:=4) rfl
   have x5:=HX1.out.cell (i:=5) rfl
   have x6:=HX1.out.cell (i:=6) rfl
   by_cases hn:(paAt k.p j).n=(j:Int)
   case neg=>
    have hn':((paAt k.p j).n !=(j:Int))=true:=by simpa using hn
    have HN:Hid (partsKB k=false):=HNO.out (fun h=>hn (partI_iff.1 h).1)
    clear hn
    go_wp2
    go_ret
    exact⟨ret_bool HN.out.symm,HBr.out.trans (HB1.out.mono HBr.out.size)⟩
   have hn':((paAt k.p j).n !=(j:Int))=false:=by simpa using hn
   have HN1:Hid ((paAt k.p j).n=(j:Int)):=hn
   clear hn
   go_wp2_with fail
   clear f0 f1 f2 f3 f4 f5 f6 hV x0 x1 x2 x3 x4 x5 x6 hn'
   refine(iPartOk_is _ (paAt k.p j) _ HWj.out (HIP.out.under (HBr.out.trans (HB1.out.mono HBr.out.size)))).mono ?_
   rintro e w2 ⟨rfl,hb9⟩
   have HB2:Hid (Below wr.heap.size wr w2):=HB1.out.trans (hb9.mono HB1.out.size)
   have HX2:Hid (Bk w2 wr.heap.size 97 #[.int .i64 (paAt k.p j).n,.slice a1 (paAt k.p j).st.r.length c1,.int .i64 (paAt k.p j).st.q,.int .i64 (paAt k.p j).st.d,.slice a4 (paAt k.p j).p.length c4,.slice a5 (paAt k.p j).t.length c5,.slice a6 (paAt k.p j).a.length c6]):=HX1.out.below hb9
   have HK2:Hid (Bk w2 w.heap.size 57 #[.int .i64 k.m.n,.int .i64 k.m.s,.slice ai k.m.i.length ci,.slice ah k.m.h.length ch,.slice ae k.m.e.length ce,.int .i64 k.m.z,.slice ad k.d.length cd,.slice (some ⟨b,off,none⟩) k.p.length cp,.slice ab k.b.length cb,.int .i64 k.t,.int .i64 k.q,.bool k.f,.slice au k.s.length cu,.slice ax k.x.length cx]):=HK1.out.below hb9
   clear hb9
   cases hbb:(paAt k.p j).ok
   case false=>
    have HN:Hid (partsKB k=false):=HNO.out (fun h=>by have h1:=(partI_iff.1 h).2.1;rw [hbb]at h1;cases h1)
    clear hbb
    go_wp2
    go_ret
    exact⟨ret_bool HN.out.symm,HBr.out.trans (HB2.out.mono HBr.out.size)⟩
   have HT2:Hid ((paAt k.p j).ok=true):=hbb
   clear hbb
   have k0:=HK2.out.cell (i:=0) rfl
   have k1:=HK2.out.cell (i:=1) rfl
   have k2:=HK2.out.cell (i:=2) rfl
   have k3:=HK2.out.cell (i:=3) rfl
   have k4:=HK2.out.cell (i:=4) rfl
   have k5:=HK2.out.cell (i:=5) rfl
   have k6:=HK2.out.cell (i:=6) rfl
   have k7:=HK2.out.cell (i:=7) rfl
   have k8:=HK2.out.cell (i:=8) rfl
   have k9:=HK2.out.cell (i:=9) rfl
   have k10:=HK2.out.cell (i:=10) rfl
   have k11:=HK2.out.cell (i:=11) rfl
   have k12:=HK2.out.cell (i:=12) rfl
   have k13:=HK2.out.cell (i:=13) rfl
   have x5:=HX2.out.cell (i:=5) rfl
   go_wp2_with fail
   clear k0 k1 k2 k3 k4 k5 k6 k7 k8 k9 k10 k11 k12 k13 x5
   refine(known_is _ k a5 c5 (paAt k.p j).t _ rfl _ (HK.out.under (HBr.out.trans (HB2.out.mono HBr.out.size))) htl (Nat.lt_of_le_of_lt (Nat.zero_le _) HX2.out.lt) (HTD.out.below (HBr.out.trans (HB2.out.mono HBr.out.size)))).mono ?_
   rintro e w3 ⟨rfl,hb9⟩
   have HB3:Hid (Below wr.heap.size wr w3):=HB2.out.trans (hb9.mono HB2.out.size)
   have HX3:Hid (Bk w3 wr.heap.size 97 #[.int .i64 (paAt k.p j).n,.slice a1 (paAt k.p j).st.r.length c1,.int .i64 (paAt k.p j).st.q,.int .i64 (paAt k.p j).st.d,.slice a4 (paAt k.p j).p.length c4,.slice a5 (paAt k.p j).t.length c5,.slice a6 (paAt k.p j).a.length c6]):=HX2.out.below hb9
   have HK3:Hid (Bk w3 w.heap.size 57 #[.int .i64 k.m.n,.int .i64 k.m.s,.slice ai k.m.i.length ci,.slice ah k.m.h.length ch,.slice ae k.m.e.length ce,.int .i64 k.m.z,.slice ad k.d.length cd,.slice (some ⟨b,off,none⟩) k.p.length cp,.slice ab k.b.length cb,.int .i64 k.t,.int .i64 k.q,.bool k.f,.slice au k.s.length cu,.slice ax k.x.length cx]):=HK2.out.below hb9
   clear hb9
   cases hbb:knL k (paAt k.p j).t
   case false=>
    have HN:Hid (partsKB k=false):=HNO.out (fun h=>by have h1:=(partI_iff.1 h).2.2.1;rw [hbb]at h1;cases h1)
    clear hbb
    go_wp2
    go_ret
    exact⟨ret_bool HN.out.symm,HBr.out.trans (HB3.out.mono HBr.out.size)⟩
   have HT3:Hid (knL k (paAt k.p j).t=true):=hbb
   clear hbb
   have k0:=HK3.out.cell (i:=0) rfl
   have k1:=HK3.out.cell (i:=1) rfl
   have k2:=HK3.out.cell (i:=2) rfl
   have k3:=HK3.out.cell (i:=3) rfl
   have k4:=HK3.out.cell (i:=4) rfl
   have k5:=HK3.out.cell (i:=5) rfl
   have k6:=HK3.out.cell (i:=6) rfl
   have k7:=HK3.out.cell (i:=7) rfl
   have k8:=HK3.out.cell (i:=8) rfl
   have k9:=HK3.out.cell (i:=9) rfl
   have k10:=HK3.out.cell (i:=10) rfl
   have k11:=HK3.out.cell (i:=11) rfl
   have k12:=HK3.out.cell (i:=12) rfl
   have k13:=HK3.out.cell (i:=13) rfl
   have x0:=HX3.out.cell (i:=0) rfl
   have x1:=HX3.out.cell (i:=1) rfl
   have x2:=HX3.out.cell (i:=2) rfl
   have x3:=HX3.out.cell (i:=3) rfl
   have x4:=HX3.out.cell (i:=4) rfl
   have x5:=HX3.out.cell (i:=5) rfl
   have x6:=HX3.out.cell (i:=6) rfl
   go_wp2_with fail
   clear k0 k1 k2 k3 k4 k5 k6 k7 k8 k9 k10 k11 k12 k13 x0 x1 x2 x3 x4 x5 x6
   refine(iPastK _ _ k (paAt k.p j) _ HWj.out (HK.out.under (HBr.out.trans (HB3.out.mono HBr.out.size))) (HIP.out.under (HBr.out.trans (HB3.out.mono HBr.out.size)))).mono ?_
   rintro e w4 ⟨rfl,hb9⟩
   have HB4:Hid (Below wr.heap.size wr w4):=HB3.out.trans (hb9.mono HB3.out.size)
   have HX4:Hid (Bk w4 wr.heap.size 97 #[.int .i64 (paAt k.p j).n,.slice a1 (paAt k.p j).st.r.length c1,.int .i64 (paAt k.p j).st.q,.int .i64 (paAt k.p j).st.d,.slice a4 (paAt k.p j).p.length c4,.slice a5 (paAt k.p j).t.length c5,.slice a6 (paAt k.p j).a.length c6]):=HX3.out.below hb9
   have HK4:Hid (Bk w4 w.heap.size 57 #[.int .i64 k.m.n,.int .i64 k.m.s,.slice ai k.m.i.length ci,.slice ah k.m.h.length ch,.slice ae k.m.e.length ce,.int .i64 k.m.z,.slice ad k.d.length cd,.slice (some ⟨b,off,none⟩) k.p.length cp,.slice ab k.b.length cb,.int .i64 k.t,.int .i64 k.q,.bool k.f,.slice au k.s.length cu,.slice ax k.x.length cx]):=HK3.out.below hb9
   clear hb9
   cases hbb:pastKB k (paAt k.p j)
   case false=>
    have HN:Hid (partsKB k=false):=HNO.out (fun h=>by have h1:=(partI_iff.1 h).2.2.2.1;rw [hbb]at h1;cases h1)
    clear hbb
    go_wp2
    go_ret
    exact⟨ret_bool HN.out.symm,HBr.out.trans (HB4.out.mono HBr.out.size)⟩
   have HT4:Hid (pastKB k (paAt k.p j)=true):=hbb
   clear hbb
   have k0:=HK4.out.cell (i:=0) rfl
   have k1:=HK4.out.cell (i:=1) rfl
   have k2:=HK4.out.cell (i:=2) rfl
   have k3:=HK4.out.cell (i:=3) rfl
   have k4:=HK4.out.cell (i:=4) rfl
   have k5:=HK4.out.cell (i:=5) rfl
   have k6:=HK4.out.cell (i:=6) rfl
   have k7:=HK4.out.cell (i:=7) rfl
   have k8:=HK4.out.cell (i:=8) rfl
   have k9:=HK4.out.cell (i:=9) rfl
   have k10:=HK4.out.cell (i:=10) rfl
   have k11:=HK4.out.cell (i:=11) rfl
   have k12:=HK4.out.cell (i:=12) rfl
   have k13:=HK4.out.cell (i:=13) rfl
   have x0:=HX4.out.cell (i:=0) rfl
   have x1:=HX4.out.cell (i:=1) rfl
   have x2:=HX4.out.cell (i:=2) rfl
   have x3:=HX4.out.cell (i:=3) rfl
   have x4:=HX4.out.cell (i:=4) rfl
   have x5:=HX4.out.cell (i:=5) rfl
   have x6:=HX4.out.cell (i:=6) rfl
   go_wp2_with fail
   clear k0 k1 k2 k3 k4 k5 k6 k7 k8 k9 k10 k11 k12 k13 x0 x1 x2 x3 x4 x5 x6
   refine(iAntis8 _ _ k (paAt k.p j) _ hal (HK.out.under (HBr.out.trans (HB4.out.mono HBr.out.size))) (HIP.out.under (HBr.out.trans (HB4.out.mono HBr.out.size)))).mono ?_
   rintro e w5 ⟨rfl,hb9⟩
   have HB5:Hid (Below wr.heap.size wr w5):=HB4.out.trans (hb9.mono HB4.out.size)
   have HX5:Hid (Bk w5 wr.heap.size 97 #[.int .i64 (paAt k.p j).n,.slice a1 (paAt k.p j).st.r.length c1,.int .i64 (paAt k.p j).st.q,.int .i64 (paAt k.p j).st.d,.slice a4 (paAt k.p j).p.length c4,.slice a5 (paAt k.p j).t.length c5,.slice a6 (paAt k.p j).a.length c6]):=HX4.out.below hb9
   have HK5:Hid (Bk w5 w.heap.size 57 #[.int .i64 k.m.n,.int .i64 k.m.s,.slice ai k.m.i.length ci,.slice ah k.m.h.length ch,.slice ae k.m.e.length ce,.int .i64 k.m.z,.slice ad k.d.length cd,.slice (some ⟨b,off,none⟩) k.p.length cp,.slice ab k.b.length cb,.int .i64 k.t,.int .i64 k.q,.bool k.f,.slice au k.s.length cu,.slice ax k.x.length cx]):=HK4.out.below hb9
   clear hb9
   cases hbb:antiL k.t (paAt k.p j).a
   case false=>
    have HN:Hid (partsKB k=false):=HNO.out (fun h=>by have h1:=(partI_iff.1 h).2.2.2.2;rw [hbb]at h1;cases h1)
    clear hbb
    go_wp2
    go_ret
    exact⟨ret_bool HN.out.symm,HBr.out.trans (HB5.out.mono HBr.out.size)⟩
   have HT5:Hid (antiL k.t (paAt k.p j).a=true):=hbb
   clear hbb
   have K9:Hid (partI k j=true):=partI_iff.2 ⟨HN1.out,HT2.out,HT3.out,HT4.out,HT5.out⟩
   go_wp2
   go_roundw
   case rel=>exact⟨j+1,by omega,by go_num,fun i hi=>by
    by_cases e:i=j
    ·subst e;exact K9.out
    ·exact HA.out i (by omega),HBr2.out.trans (HB5.out.mono HBr2.out.size)⟩
   case measure=>simp [intOf];omega
  ·obtain rfl:k.p.length=j:=by omega
   have HY:Hid (partsKB k=true):=partsKB_iff.2 ⟨HC1.out,HA.out⟩
   go_wp2
   go_ret
   exact⟨ret_bool HY.out.symm,HBr.out⟩
def bagKB (k:Kn):Bool:=allB k.b.length (fun i=>knB k.m k.t (mlAt k.b i).e)
set_option maxRecDepth 100000 in
set_option maxHeartbeats 8000000 in
theorem iBagOk (x:Value) (k:Kn) (w:World) (hs:SmallK k) (h:IsKern w x k):
  Calls Tryz.prog 114 #[x] w fun e w'=>e= .returned (.bool (bagKB k))∧Below w.heap.size w w':=by
 obtain⟨HSM0,hsk⟩:=hs
 have HSM:Hid (SmallM k.m):=HSM0
 obtain⟨hdl,hpl,hbl,hsl,hxl⟩:=wt_lens hsk
 have HWP:Hid (∀i,i<k.p.length→(paAt k.p i).wt≤1048576):=wt_parts hsk
 clear hsk HSM0
 obtain⟨ai,ci,ah,ch,ae,ce,ad,cd,ap,cp,ab,cb,au,cu,ax,cx,rfl,hm,hd,hp,hbg,hsu,hx⟩:=h.form
 have HM:Hid (IsM w (.agg #[.int .i64 k.m.n,.int .i64 k.m.s,.slice ai k.m.i.length ci,.slice ah k.m.h.length ch,.slice ae k.m.e.length ce,.int .i64 k.m.z]) k.m):=hm
 have HD:Hid (IsI w (.slice ad k.d.length cd) k.d):=hd
 have HPP:Hid (k.p= []∨ ∃b off,ap=some ⟨b,off,none⟩∧PasAt w b off k.p):=hp
 have HBG:Hid (k.b= []∨ ∃b off,ab=some ⟨b,off,none⟩∧MlsAt w b off k.b):=hbg.rows
 have HSU:Hid (k.s= []∨ ∃b off,au=some ⟨b,off,none⟩∧EvsAt w b off k.s):=hsu.rows
 have HXX:Hid (k.x= []∨ ∃b off,ax=some ⟨b,off,none⟩∧XsAt w b off k.x):=hx.rows
 have HSUI:Hid (IsEvs w (.slice au k.s.length cu) k.s):=hsu
 have HXXI:Hid (IsX w (.slice ax k.x.length cx) k.x):=hx
 have HK:Hid (IsKern w (.agg #[.int .i64 k.m.n,.int .i64 k.m.s,.slice ai k.m.i.length ci,.slice ah k.m.h.length ch,.slice ae k.m.e.length ce,.int .i64 k.m.z,.slice ad k.d.length cd,.slice ap k.p.length cp,.slice ab k.b.length cb,.int .i64 k.t,.int .i64 k.q,.bool k.f,.slice au k.s.length cu,.slice ax k.x.length cx]) k):=h
 clear hm hd hp hbg hsu hx h
 obtain⟨W0,hW0⟩:∃W0,w.alloc (.cells #[.int .i64 k.m.n,.int .i64 k.m.s,.slice ai k.m.i.length ci,.slice ah k.m.h.length ch,.slice ae k.m.e.length ce,.int .i64 k.m.z,.slice ad k.d.length cd,.slice ap k.p.length cp,.slice ab k.b.length cb,.int .i64 k.t,.int .i64 k.q,.bool k.f,.slice au k.s.length cu,.slice ax k.x.length cx] 57)=W0:=⟨_,rfl⟩
 have HB0:Hid (Below w.heap.size w W0):=by rw [←hW0];exact(Below.refl _ w).alloc (Nat.le_refl _) _
 have HP0:Hid (Bk W0 w.heap.size 57 #[.int .i64 k.m.n,.int .i64 k.m.s,.slice ai k.m.i.length ci,.slice ah k.m.h.length ch,.slice ae k.m.e.length ce,.int .i64 k.m.z,.slice ad k.d.length cd,.slice ap k.p.length cp,.slice ab k.b.length cb,.int .i64 k.t,.int .i64 k.q,.bool k.f,.slice au k.s.length cu,.slice ax k.x.length cx]):=by rw [←hW0];exact Bk.new w _ _
 have HW:Hid (w.alloc (.cells #[.int .i64 k.m.n,.int .i64 k.m.s,.slice ai k.m.i.length ci,.slice ah k.m.h.length ch,.slice ae k.m.e.length ce,.int .i64 k.m.z,.slice ad k.d.length cd,.slice ap k.p.length cp,.slice ab k.b.length cb,.int .i64 k.t,.int .i64 k.q,.bool k.f,.slice au k.s.length cu,.slice ax k.x.length cx] 57)=W0):=hW0
 have hs0:w.heap.size<W0.heap.size:=HP0.out.lt
 clear hW0
 have hw:=HW.out
 have q8:=HP0.out.cell (i:=8) rfl
 go_enter Tryz.func114,Tryz.ntmps114
 go_wp2
 clear q8 hw
 go_loopw [8] (fun i wr=>∃j:Nat,j≤k.b.length∧i= .int .i64 j∧Hid (∀i,i<j→knB k.m k.t (mlAt k.b i).e=true)∧Below W0.heap.size W0 wr) (fun i _=>k.b.length-(intOf i).toNat)
 case atStart=>exact⟨0,Nat.zero_le _,rfl,fun j hj=>by omega,Below.refl _ _⟩
 case round=>
  obtain⟨j,hj,rfl,HA,hB⟩:=hrel
  have HBr:Hid (Below w.heap.size w wr):=HB0.out.trans (hB.mono HB0.out.size)
  have HBr2:Hid (Below W0.heap.size W0 wr):=hB
  have HKr:Hid (Bk wr w.heap.size 57 #[.int .i64 k.m.n,.int .i64 k.m.s,.slice ai k.m.i.length ci,.slice ah k.m.h.length ch,.slice ae k.m.e.length ce,.int .i64 k.m.z,.slice ad k.d.length cd,.slice ap k.p.length cp,.slice ab k.b.length cb,.int .i64 k.t,.int .i64 k.q,.bool k.f,.slice au k.s.length cu,.slice ax k.x.length cx]):=HP0.out.below hB
  clear hB
  by_cases hlt:j<k.b.length
  ·obtain⟨b,off,rfl,hb,hc⟩:=HBG.out.resolve_left (by intro e;rw [e]at hlt;simp at hlt)
   obtain⟨f0,f1,f2,f3,f4,f5,f6,f7⟩:=(hc j hlt).below HBr.out hb
   have HNO:Hid (¬knB k.m k.t (mlAt k.b j).e=true→bagKB k=false):=fun h1=>bool_no (fun h=>h1 (allB_iff.1 h j hlt))
   obtain⟨V,hV⟩:∃V,wr.alloc (.cells #[.int .i64 (mlAt k.b j).e.t,.int .i64 (mlAt k.b j).e.s,.int .i64 (mlAt k.b j).e.q,.int .i64 (mlAt k.b j).e.d,.int .i64 (mlAt k.b j).e.k,.int .i64 (mlAt k.b j).e.v,.int .i64 (mlAt k.b j).e.g,.bool (mlAt k.b j).a] 148)=V:=⟨_,rfl⟩
   have HB1:Hid (Below wr.heap.size wr V):=by rw [←hV];exact(Below.refl _ wr).alloc (Nat.le_refl _) _
   have HX:Hid (Bk V wr.heap.size 148 #[.int .i64 (mlAt k.b j).e.t,.int .i64 (mlAt k.b j).e.s,.int .i64 (mlAt k.b j).e.q,.int .i64 (mlAt k.b j).e.d,.int .i64 (mlAt k.b j).e.k,.int .i64 (mlAt k.b j).e.v,.int .i64 (mlAt k.b j).e.g,.bool (mlAt k.b j).a]):=by rw [←hV];exact Bk.new _ _ _
   have HKV:Hid (Bk V w.heap.size 57 #[.int .i64 k.m.n,.int .i64 k.m.s,.slice ai k.m.i.length ci,.slice ah k.m.h.length ch,.slice ae k.m.e.length ce,.int .i64 k.m.z,.slice ad k.d.length cd,.slice ap k.p.length cp,.slice (some ⟨b,off,none⟩) k.b.length cb,.int .i64 k.t,.int .i64 k.q,.bool k.f,.slice au k.s.length cu,.slice ax k.x.length cx]):=HKr.out.below HB1.out
   have HBV:Hid (Below w.heap.size w V):=HBr.out.trans (HB1.out.mono HBr.out.size)
   have x0:=HX.out.cell (i:=0) rfl
   have x1:=HX.out.cell (i:=1) rfl
   have x2:=HX.out.cell (i:=2) rfl
   have x3:=HX.out.cell (i:=3) rfl
   have x4:=HX.out.cell (i:=4) rfl
   have x5:=HX.out.cell (i:=5) rfl
   have x6:=HX.out.cell (i:=6) rfl
   have x7:=HX.out.cell (i:=7) rfl
   have k0:=HKV.out.cell (i:=0) rfl
   have k1:=HKV.out.cell (i:=1) rfl
   have k2:=HKV.out.cell (i:=2) rfl
   have k3:=HKV.out.cell (i:=3) rfl
   have k4:=HKV.out.cell (i:=4) rfl
   have k5:=HKV.out.cell (i:=5) rfl
   have k6:=HKV.out.cell (i:=6) rfl
   have k7:=HKV.out.cell (i:=7) rfl
   have k8:=HKV.out.cell (i:=8) rfl
   have k9:=HKV.out.cell (i:=9) rfl
   have k10:=HKV.out.cell (i:=10) rfl
   have k11:=HKV.out.cell (i:=11) rfl
   have k12:=HKV.out.cell (i:=12) rfl
   have k13:=HKV.out.cell (i:=13) rfl
   obtain⟨V2,hV2⟩:∃V2,V.alloc (.cells #[.int .i64 (mlAt k.b j).e.t,.int .i64 (mlAt k.b j).e.s,.int .i64 (mlAt k.b j).e.q,.int .i64 (mlAt k.b j).e.d,.int .i64 (mlAt k.b j).e.k,.int .i64 (mlAt k.b j).e.v,.int .i64 (mlAt k.b j).e.g] 110)=V2:=⟨_,rfl⟩
   have HB2:Hid (Below wr.heap.size wr V2):=by rw [←hV2];exact HB1.out.alloc HB1.out.size _
   have HX2:Hid (Bk V2 V.heap.size 110 #[.int .i64 (mlAt k.b j).e.t,.int .i64 (mlAt k.b j).e.s,.int .i64 (mlAt k.b j).e.q,.int .i64 (mlAt k.b j).e.d,.int .i64 (mlAt k.b j).e.k,.int .i64 (mlAt k.b j).e.v,.int .i64 (mlAt k.b j).e.g]):=by rw [←hV2];exact Bk.new _ _ _
   have HBV2:Hid (Below w.heap.size w V2):=HBr.out.trans (HB2.out.mono HBr.out.size)
   have HIE:Hid (IsEvs V2 (.slice (some ⟨V.heap.size,0,none⟩) ([(mlAt k.b j).e]:List Ev).length 1) [(mlAt k.b j).e]):=⟨_,1,rfl,Nat.le_refl _,by unfold maxLen;omega,.inr ⟨V.heap.size,0,rfl,HX2.out.lt,fun i hi=>by
    obtain rfl:i=0:=by simp at hi;omega
    exact⟨HX2.out.cell (i:=0) rfl,HX2.out.cell (i:=1) rfl,HX2.out.cell (i:=2) rfl,HX2.out.cell (i:=3) rfl,HX2.out.cell (i:=4) rfl,HX2.out.cell (i:=5) rfl,HX2.out.cell (i:=6) rfl⟩⟩⟩
   have HL1:Hid (knL k [(mlAt k.b j).e]=knB k.m k.t (mlAt k.b j).e):=(by simp [knL,allB,evAt]:knL k [(mlAt k.b j).e]=_)
   have HV2:Hid (V.alloc (.cells #[.int .i64 (mlAt k.b j).e.t,.int .i64 (mlAt k.b j).e.s,.int .i64 (mlAt k.b j).e.q,.int .i64 (mlAt k.b j).e.d,.int .i64 (mlAt k.b j).e.k,.int .i64 (mlAt k.b j).e.v,.int .i64 (mlAt k.b j).e.g] 110)=V2):=hV2
   clear hc hV2
   go_wp2_with fail
   try rw [HV2.out]
   clear f0 f1 f2 f3 f4 f5 f6 f7 x0 x1 x2 x3 x4 x5 x6 x7 hV k0 k1 k2 k3 k4 k5 k6 k7 k8 k9 k10 k11 k12 k13
   refine(known_is _ k (some ⟨V.heap.size,0,none⟩) 1 [(mlAt k.b j).e] _ rfl _ (HK.out.under HBV2.out) (by simp) (Nat.lt_of_le_of_lt (Nat.zero_le _) HX2.out.lt) HIE.out).mono ?_
   rintro e w3 ⟨rfl,hb3⟩
   have HB3:Hid (Below wr.heap.size wr w3):=HB2.out.trans (hb3.mono HB2.out.size)
   clear hb3
   rw [HL1.out]
   cases hkn:knB k.m k.t (mlAt k.b j).e with
   |false=>
    have HN:Hid (bagKB k=false):=HNO.out (fun h=>by rw [hkn]at h;cases h)
    clear hkn
    go_wp2
    go_ret
    exact⟨ret_bool HN.out.symm,HBr.out.trans (HB3.out.mono HBr.out.size)⟩
   |true=>
    have K9:Hid (knB k.m k.t (mlAt k.b j).e=true):=hkn
    clear hkn
    go_wp2
    go_roundw
    case rel=>exact⟨j+1,by omega,by go_num,fun i hi=>by
     by_cases e:i=j
     ·subst e;exact K9.out
     ·exact HA.out i (by omega),HBr2.out.trans (HB3.out.mono HBr2.out.size)⟩
    case measure=>simp [intOf];omega
  ·obtain rfl:k.b.length=j:=by omega
   have HY:Hid (bagKB k=true):=allB_iff.2 HA.out
   go_wp2
   go_ret
   exact⟨ret_bool HY.out.symm,HBr.out⟩
end Go.Proofs.YtmobiieoecjmdaaGreat

