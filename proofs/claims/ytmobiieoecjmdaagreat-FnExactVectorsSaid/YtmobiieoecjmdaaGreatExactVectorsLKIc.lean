/- The program's pastKnown and bagOk. -/
import Derived.Test.YtmobiieoecjmdaaGreatExactVectorsG40
import Derived.Deep.Cut
namespace Go.Proofs.YtmobiieoecjmdaaGreat
open Go.RowKit
theorem pastL1_iff {k:Kn} {x:Ps}:yh2 k x=true↔x.e.g<k.t∧knL k x.s=true:=by
 unfold yh2
 simp only [Bool.and_eq_true,decide_eq_true_eq]
set_option maxRecDepth 100000 in
set_option maxHeartbeats 8000000 in
theorem iPastK (x y:Value) (k:Kn) (p:Pa) (w:World) (hw9:p.wt≤1048576) (h:IsKern w x k) (h':IsPart w y p):
  Calls Tryz.prog 159 #[x,y] w fun e w'=>e= .returned (.bool (ydo k p))∧Below w.heap.size w w':=by
 have hlens:p.p.length≤1048576∧ ∀i,i<p.p.length→(psAt p.p i).s.length≤1048576:=by
  unfold Pa.wt at hw9
  simp only [yah,yan]at hw9
  have h2:=ybg p.p
  refine⟨by omega,fun i hi=> ?_⟩
  have h9:(psAt p.p i).wt≤(yag p.p).wt:=Ps.wt_le hi
  unfold Ps.wt at h9
  simp only [yah,yan,ybi]at h9
  omega
 have hpl:p.p.length≤1048576:=hlens.1
 have HSL:Hid (∀i,i<p.p.length→(psAt p.p i).s.length≤1048576):=hlens.2
 clear hlens hw9
 have hpos:0<w.heap.size+1:=by omega
 obtain⟨ai,ci,ah,ch,ae,ce,ad,cd,ap,cp,ab,cb,au,cu,ax,cx,rfl,_,_,_,_,_,_⟩:=h.form
 have HK:Hid (IsKern w (.agg #[.int .i64 k.m.n,.int .i64 k.m.s,.slice ai k.m.i.length ci,.slice ah k.m.h.length ch,.slice ae k.m.e.length ce,.int .i64 k.m.z,.slice ad k.d.length cd,.slice ap k.p.length cp,.slice ab k.b.length cb,.int .i64 k.t,.int .i64 k.q,.bool k.f,.slice au k.s.length cu,.slice ax k.x.length cx]) k):=h
 clear h
 obtain⟨u1,u4,u5,u6,rfl,h1,h4,h5,h6⟩:=h'
 obtain⟨a1,c1,rfl⟩:=yay (c:=1) (n:=p.st.r.length) h1
 obtain⟨a4,c4,rfl⟩:=yay (c:=12) (n:=p.p.length) h4
 obtain⟨a5,c5,rfl⟩:=yay (c:=7) (n:=p.t.length) h5
 obtain⟨a6,c6,rfl⟩:=yay (c:=1) (n:=p.a.length) h6
 have HPS:Hid (p.p= []∨ ∃b off,a4=some ⟨b,off,none⟩∧PpsAt w b off p.p):=ycf h4
 have HAN:Hid (p.a= []∨ ∃b off,a6=some ⟨b,off,none⟩∧IntsAt w b off p.a):=h6.isI.rows
 clear h1 h4 h5 h6 hpos
 obtain⟨PB,hPB⟩:∃PB,PB=w.heap.size+1:=⟨_,rfl⟩
 obtain⟨W0,hW0⟩:∃W0,(w.alloc (.cells #[.int .i64 k.m.n,.int .i64 k.m.s,.slice ai k.m.i.length ci,.slice ah k.m.h.length ch,.slice ae k.m.e.length ce,.int .i64 k.m.z,.slice ad k.d.length cd,.slice ap k.p.length cp,.slice ab k.b.length cb,.int .i64 k.t,.int .i64 k.q,.bool k.f,.slice au k.s.length cu,.slice ax k.x.length cx] 57)).alloc (.cells #[.int .i64 p.n,.slice a1 p.st.r.length c1,.int .i64 p.st.q,.int .i64 p.st.d,.slice a4 p.p.length c4,.slice a5 p.t.length c5,.slice a6 p.a.length c6] 97)=W0:=⟨_,rfl⟩
 have HB0:Hid (Below w.heap.size w W0):=by rw [←hW0];exact((Below.refl _ w).alloc (Nat.le_refl _) _).alloc (by simp) _
 have HK0:Hid (Bk W0 w.heap.size 57 #[.int .i64 k.m.n,.int .i64 k.m.s,.slice ai k.m.i.length ci,.slice ah k.m.h.length ch,.slice ae k.m.e.length ce,.int .i64 k.m.z,.slice ad k.d.length cd,.slice ap k.p.length cp,.slice ab k.b.length cb,.int .i64 k.t,.int .i64 k.q,.bool k.f,.slice au k.s.length cu,.slice ax k.x.length cx]):=by rw [←hW0];exact(Bk.new w _ _).alloc _
 have HP0:Hid (Bk W0 PB 97 #[.int .i64 p.n,.slice a1 p.st.r.length c1,.int .i64 p.st.q,.int .i64 p.st.d,.slice a4 p.p.length c4,.slice a5 p.t.length c5,.slice a6 p.a.length c6]):=by rw [←hW0,hPB];exact Bk.newAt (by simp) _ _
 have HW:Hid ((w.alloc (.cells #[.int .i64 k.m.n,.int .i64 k.m.s,.slice ai k.m.i.length ci,.slice ah k.m.h.length ch,.slice ae k.m.e.length ce,.int .i64 k.m.z,.slice ad k.d.length cd,.slice ap k.p.length cp,.slice ab k.b.length cb,.int .i64 k.t,.int .i64 k.q,.bool k.f,.slice au k.s.length cu,.slice ax k.x.length cx] 57)).alloc (.cells #[.int .i64 p.n,.slice a1 p.st.r.length c1,.int .i64 p.st.q,.int .i64 p.st.d,.slice a4 p.p.length c4,.slice a5 p.t.length c5,.slice a6 p.a.length c6] 97)=W0):=hW0
 have HPB:Hid (PB=w.heap.size+1):=hPB
 clear hW0 hPB
 have hw:=HW.out
 have q4:=HP0.out.cell (i:=4) rfl
 go_enter Tryz.func159,Tryz.ntmps159
 go_upto_region 1 with fail
 try rw [HW.out]
 rw [←HPB.out]
 go_wp2
 clear q4 hw HW HPB
 go_loopw [10] (fun i wr=>∃j:Nat,j≤p.p.length∧i= .int .i64 j∧Hid (∀i,i<j→yh2 k (psAt p.p i)=true)∧Below W0.heap.size W0 wr) (fun i _=>p.p.length-(intOf i).toNat)
 case atStart=>exact⟨0,Nat.zero_le _,rfl,fun j hj=>by omega,Below.refl _ _⟩
 case round=>
  obtain⟨j,hj,rfl,HA,hB⟩:=hrel
  have HBr:Hid (Below w.heap.size w wr):=HB0.out.trans (hB.mono HB0.out.size)
  have HBr2:Hid (Below W0.heap.size W0 wr):=hB
  have HKr:Hid (Bk wr w.heap.size 57 #[.int .i64 k.m.n,.int .i64 k.m.s,.slice ai k.m.i.length ci,.slice ah k.m.h.length ch,.slice ae k.m.e.length ce,.int .i64 k.m.z,.slice ad k.d.length cd,.slice ap k.p.length cp,.slice ab k.b.length cb,.int .i64 k.t,.int .i64 k.q,.bool k.f,.slice au k.s.length cu,.slice ax k.x.length cx]):=HK0.out.below hB
  clear hB
  by_cases hlt:j<p.p.length
  ·obtain⟨b,off,rfl,hb,hc⟩:=HPS.out.resolve_left (by intro e;rw [e]at hlt;simp at hlt)
   obtain⟨a7,c7,a10,c10,a11,c11,hpp⟩:=hc j hlt
   have f0:=(HBr.out.cell (p:=⟨b,_,none⟩) hb).trans hpp.ev.f0
   have f1:=(HBr.out.cell (p:=⟨b,_,none⟩) hb).trans hpp.ev.f1
   have f2:=(HBr.out.cell (p:=⟨b,_,none⟩) hb).trans hpp.ev.f2
   have f3:=(HBr.out.cell (p:=⟨b,_,none⟩) hb).trans hpp.ev.f3
   have f4:=(HBr.out.cell (p:=⟨b,_,none⟩) hb).trans hpp.ev.f4
   have f5:=(HBr.out.cell (p:=⟨b,_,none⟩) hb).trans hpp.ev.f5
   have f6:=(HBr.out.cell (p:=⟨b,_,none⟩) hb).trans hpp.ev.f6
   have f7:=(HBr.out.cell (p:=⟨b,_,none⟩) hb).trans hpp.f7
   have f8:=(HBr.out.cell (p:=⟨b,_,none⟩) hb).trans hpp.f8
   have f9:=(HBr.out.cell (p:=⟨b,_,none⟩) hb).trans hpp.f9
   have f10:=(HBr.out.cell (p:=⟨b,_,none⟩) hb).trans hpp.f10
   have f11:=(HBr.out.cell (p:=⟨b,_,none⟩) hb).trans hpp.f11
   have HSN:Hid (IsEvs w (.slice a10 (psAt p.p j).s.length c10) (psAt p.p j).s):=hpp.d10.isEvs
   have hsn:(psAt p.p j).s.length≤1048576:=HSL.out j hlt
   have HNO:Hid (¬yh2 k (psAt p.p j)=true→ydo k p=false):=fun h1=>yaa (fun h=>h1 (allB_iff.1 h j hlt))
   obtain⟨V,hV⟩:∃V,wr.alloc (.cells #[.int .i64 (psAt p.p j).e.t,.int .i64 (psAt p.p j).e.s,.int .i64 (psAt p.p j).e.q,.int .i64 (psAt p.p j).e.d,.int .i64 (psAt p.p j).e.k,.int .i64 (psAt p.p j).e.v,.int .i64 (psAt p.p j).e.g,.slice a7 (psAt p.p j).b.r.length c7,.int .i64 (psAt p.p j).b.q,.int .i64 (psAt p.p j).b.d,.slice a10 (psAt p.p j).s.length c10,.slice a11 (psAt p.p j).x.length c11] 115)=V:=⟨_,rfl⟩
   have HB1:Hid (Below wr.heap.size wr V):=by rw [←hV];exact(Below.refl _ wr).alloc (Nat.le_refl _) _
   have HX:Hid (Bk V wr.heap.size 115 #[.int .i64 (psAt p.p j).e.t,.int .i64 (psAt p.p j).e.s,.int .i64 (psAt p.p j).e.q,.int .i64 (psAt p.p j).e.d,.int .i64 (psAt p.p j).e.k,.int .i64 (psAt p.p j).e.v,.int .i64 (psAt p.p j).e.g,.slice a7 (psAt p.p j).b.r.length c7,.int .i64 (psAt p.p j).b.q,.int .i64 (psAt p.p j).b.d,.slice a10 (psAt p.p j).s.length c10,.slice a11 (psAt p.p j).x.length c11]):=by rw [←hV];exact Bk.new _ _ _
   have HKV:Hid (Bk V w.heap.size 57 #[.int .i64 k.m.n,.int .i64 k.m.s,.slice ai k.m.i.length ci,.slice ah k.m.h.length ch,.slice ae k.m.e.length ce,.int .i64 k.m.z,.slice ad k.d.length cd,.slice ap k.p.length cp,.slice ab k.b.length cb,.int .i64 k.t,.int .i64 k.q,.bool k.f,.slice au k.s.length cu,.slice ax k.x.length cx]):=HKr.out.below HB1.out
   have HBV:Hid (Below w.heap.size w V):=HBr.out.trans (HB1.out.mono HBr.out.size)
   have x6:=HX.out.cell (i:=6) rfl
   have x10:=HX.out.cell (i:=10) rfl
   have k0:=HKV.out.cell (i:=0) rfl
   have k1:=HKV.out.cell (i:=1) rfl
   have k2:=HKV.out.cell (i:=2) rfl
   have k3:=HKV.out.cell (i:=3) rfl
   have k4:=HKV.out.cell (i:=4) rfl
   have k5:=HKV.out.cell (i:=5) rfl
   have k6:=HKV.out.cell (i:=6) rfl
   have k7:=HKV.out.cell (i:=7) rfl
   have k8:=HKV.out.cell (i:=8) rfl
   have k9:=HKV.out.cell (i:=9) rfl
   have k10:=HKV.out.cell (i:=10) rfl
   have k11:=HKV.out.cell (i:=11) rfl
   have k12:=HKV.out.cell (i:=12) rfl
   have k13:=HKV.out.cell (i:=13) rfl
   clear hc hpp
   by_cases hg:(psAt p.p j).e.g<k.t
   case neg=>
    have hg':k.t≤(psAt p.p j).e.g:=by omega
    have HN:Hid (ydo k p=false):=HNO.out (fun h=>hg (pastL1_iff.1 h).1)
    clear hg
    go_wp2
    go_ret
    exact⟨ya1 HN.out.symm,HBV.out⟩
   have hg':¬k.t≤(psAt p.p j).e.g:=by omega
   have KG:Hid ((psAt p.p j).e.g<k.t):=hg
   clear hg
   go_wp2_with fail
   clear f0 f1 f2 f3 f4 f5 f6 f7 f8 f9 f10 f11 x6 x10 hV k0 k1 k2 k3 k4 k5 k6 k7 k8 k9 k10 k11 k12 k13
   refine(yhy _ k a10 c10 (psAt p.p j).s _ rfl _ (HK.out.under HBV.out) hsn (Nat.lt_of_le_of_lt (Nat.zero_le _) HX.out.lt) (HSN.out.below HBV.out)).mono ?_
   rintro e w3 ⟨rfl,hb3⟩
   have HB3:Hid (Below wr.heap.size wr w3):=HB1.out.trans (hb3.mono HB1.out.size)
   clear hb3
   cases hkn:knL k (psAt p.p j).s with
   |false=>
    have HN:Hid (ydo k p=false):=HNO.out (fun h=>by have:=(pastL1_iff.1 h).2;rw [hkn]at this;cases this)
    clear hkn
    go_wp2
    go_ret
    exact⟨ya1 HN.out.symm,HBr.out.trans (HB3.out.mono HBr.out.size)⟩
   |true=>
    have K9:Hid (yh2 k (psAt p.p j)=true):=pastL1_iff.2 ⟨KG.out,hkn⟩
    clear hkn
    go_wp2
    go_roundw
    case rel=>exact⟨j+1,by omega,by go_num,fun i hi=>by
     by_cases e:i=j
     ·subst e;exact K9.out
     ·exact HA.out i (by omega),HBr2.out.trans (HB3.out.mono HBr2.out.size)⟩
    case measure=>simp [intOf];omega
  ·obtain rfl:p.p.length=j:=by omega
   have HY:Hid (ydo k p=true):=allB_iff.2 HA.out
   go_wp2
   go_ret
   exact⟨ya1 HY.out.symm,HBr.out⟩
end Go.Proofs.YtmobiieoecjmdaaGreat
