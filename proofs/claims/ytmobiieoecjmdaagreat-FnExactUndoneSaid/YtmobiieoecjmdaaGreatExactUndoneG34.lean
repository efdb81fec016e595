/- UnI, CmQ -/
import Derived.Test.YtmobiieoecjmdaaGreatExactUndoneG25
import Derived.Test.YtmobiieoecjmdaaGreatExactUndoneG33
/- The program's Undone. -/
namespace Go.Proofs.YtmobiieoecjmdaaGreat
open Go.RowKit
def pastN (k:Kn) (j:Nat):Nat:=sumL (fun i=>(paAt k.p i).p.length) j
noncomputable def undZ (k : Kn) : Int := if k.ok then (pastN k k.p.length : Int) - ((setL k k.p.length).length : Int) else 0
theorem pastN_le (k:Kn) (h:∀i,i<k.p.length→(paAt k.p i).p.length≤200):∀j,j≤k.p.length→pastN k j≤200*j
 |0,_=>by simp [pastN,sumL]
 |j+1,hj=>by
  have ih:=pastN_le k h j (by omega)
  have h2:=h j (by omega)
  have e:pastN k (j+1)=pastN k j+(paAt k.p j).p.length:=rfl
  omega
theorem kn_parts {k:Kn} (h:k.ok=true):∀i,i<k.p.length→(paAt k.p i).ok=true:=fun i hi=>(partI_iff.1 ((partsKB_iff.1 (kern_iff.1 h).2.2.2.2.2.1).2 i hi)).2.1
theorem kn_gvt {k:Kn} (h:k.ok=true):∀e,e∈gvtL k→e.ok=true:=gvt_ok2 (kern_iff.1 h).2.2.2.2.2.1 (kern_iff.1 h).2.2.2.2.2.2.1
theorem kn_gvtE {k:Kn} (h:k.ok=true) (g:Ev) (hg:gvtE k=some g):g.ok=true:=by
 have h2:(gvtL k).foldl stepE none=some g:=hg
 rcases minE_in (gvtL k) none g h2 with h3|h3
 ·cases h3
 ·exact kn_gvt h g h3
set_option maxRecDepth 100000 in
set_option maxHeartbeats 16000000 in
theorem iUndone [Inhabited PsF] (x:Value) (k:Kn) (w:World) (hs:SmallK k) (h:IsKern w x k):
  Calls Tryz.prog 21 #[x] w fun e w'=>e= .returned (.int .i64 (undZ k))∧Below w.heap.size w w':=by
 have HSK:Hid (SmallK k):=hs
 obtain⟨HSM0,hsk⟩:=hs
 obtain⟨hdl,hpl,hbl,hsl,hxl⟩:=wt_lens hsk
 clear hsk HSM0
 obtain⟨ai,ci,ah,ch,ae,ce,ad,cd,ap,cp,ab,cb,au,cu,ax,cx,rfl,hm,hd,hp,hbg,hsu,hx⟩:=h.form
 have HPP:Hid (k.p= []∨ ∃b off,ap=some ⟨b,off,none⟩∧PasAt w b off k.p):=hp
 have HK:Hid (IsKern w (.agg #[.int .i64 k.m.n,.int .i64 k.m.s,.slice ai k.m.i.length ci,.slice ah k.m.h.length ch,.slice ae k.m.e.length ce,.int .i64 k.m.z,.slice ad k.d.length cd,.slice ap k.p.length cp,.slice ab k.b.length cb,.int .i64 k.t,.int .i64 k.q,.bool k.f,.slice au k.s.length cu,.slice ax k.x.length cx]) k):=h
 clear hm hd hp hbg hsu hx h
 obtain⟨W0,hW0⟩:∃W0,w.alloc (.cells #[.int .i64 k.m.n,.int .i64 k.m.s,.slice ai k.m.i.length ci,.slice ah k.m.h.length ch,.slice ae k.m.e.length ce,.int .i64 k.m.z,.slice ad k.d.length cd,.slice ap k.p.length cp,.slice ab k.b.length cb,.int .i64 k.t,.int .i64 k.q,.bool k.f,.slice au k.s.length cu,.slice ax k.x.length cx] 57)=W0:=⟨_,rfl⟩
 have HB0:Hid (Below w.heap.size w W0):=hW0▸(Below.refl _ w).alloc (Nat.le_refl _) _
 have HP0:Hid (Bk W0 w.heap.size 57 #[.int .i64 k.m.n,.int .i64 k.m.s,.slice ai k.m.i.length ci,.slice ah k.m.h.length ch,.slice ae k.m.e.length ce,.int .i64 k.m.z,.slice ad k.d.length cd,.slice ap k.p.length cp,.slice ab k.b.length cb,.int .i64 k.t,.int .i64 k.q,.bool k.f,.slice au k.s.length cu,.slice ax k.x.length cx]):=hW0▸Bk.new w _ _
 have hs0:w.heap.size<W0.heap.size:=HP0.out.lt
 have m0:=HP0.out.cell (i:=0) rfl
 have m1:=HP0.out.cell (i:=1) rfl
 have m2:=HP0.out.cell (i:=2) rfl
 have m3:=HP0.out.cell (i:=3) rfl
 have m4:=HP0.out.cell (i:=4) rfl
 have m5:=HP0.out.cell (i:=5) rfl
 have m6:=HP0.out.cell (i:=6) rfl
 have m7:=HP0.out.cell (i:=7) rfl
 have m8:=HP0.out.cell (i:=8) rfl
 have m9:=HP0.out.cell (i:=9) rfl
 have m10:=HP0.out.cell (i:=10) rfl
 have m11:=HP0.out.cell (i:=11) rfl
 have m12:=HP0.out.cell (i:=12) rfl
 have m13:=HP0.out.cell (i:=13) rfl
 go_enter Tryz.func21,Tryz.ntmps21
 go_wp2_with fail
 clear m0 m1 m2 m3 m4 m5 m6 m7 m8 m9 m10 m11 m12 m13 hW0
 refine(iKernelOk _ k _ HSK.out (HK.out.under HB0.out)).mono ?_
 rintro e w1 ⟨rfl,hb1⟩
 have HB1:Hid (Below w.heap.size w w1):=HB0.out.trans (hb1.mono HB0.out.size)
 have HP1:Hid (Bk w1 w.heap.size 57 #[.int .i64 k.m.n,.int .i64 k.m.s,.slice ai k.m.i.length ci,.slice ah k.m.h.length ch,.slice ae k.m.e.length ce,.int .i64 k.m.z,.slice ad k.d.length cd,.slice ap k.p.length cp,.slice ab k.b.length cb,.int .i64 k.t,.int .i64 k.q,.bool k.f,.slice au k.s.length cu,.slice ax k.x.length cx]):=HP0.out.below hb1
 clear hb1
 cases hkk:k.ok
 case false=>
  have HA:Hid (undZ k=0):=by show _=_;unfold undZ;rw [hkk];rfl
  clear hkk
  go_wp2
  go_ret
  exact⟨ret_int HA.out.symm,HB1.out⟩
 have HKK:Hid (k.ok=true):=hkk
 have HA:Hid (undZ k=(pastN k k.p.length:Int)-((setL k k.p.length).length:Int)):=by show _=_;unfold undZ;rw [hkk];rfl
 have H2A:Hid (∀i,i<k.p.length→(paAt k.p i).p.length≤200):=fun i hi=>(okPasts (kn_parts hkk i hi)).1
 clear hkk
 have m0:=HP1.out.cell (i:=0) rfl
 have m1:=HP1.out.cell (i:=1) rfl
 have m2:=HP1.out.cell (i:=2) rfl
 have m3:=HP1.out.cell (i:=3) rfl
 have m4:=HP1.out.cell (i:=4) rfl
 have m5:=HP1.out.cell (i:=5) rfl
 have m6:=HP1.out.cell (i:=6) rfl
 have m7:=HP1.out.cell (i:=7) rfl
 have m8:=HP1.out.cell (i:=8) rfl
 have m9:=HP1.out.cell (i:=9) rfl
 have m10:=HP1.out.cell (i:=10) rfl
 have m11:=HP1.out.cell (i:=11) rfl
 have m12:=HP1.out.cell (i:=12) rfl
 have m13:=HP1.out.cell (i:=13) rfl
 go_wp2_with fail
 clear m0 m1 m2 m3 m4 m5 m6 m7 m8 m9 m10 m11 m12 m13
 refine(iSettled _ k w _ HB1.out HSK.out (fun i hi=>kn_gvt HKK.out _ (getD_in hi)) (kn_parts HKK.out) (kn_gvtE HKK.out) HK.out).mono ?_
 rintro e w2 ⟨y,L,rfl,hp,-,hsr,-,hb2⟩
 have HB2:Hid (Below w.heap.size w w2):=HB1.out.trans (hb2.mono HB1.out.size)
 have HP2:Hid (Bk w2 w.heap.size 57 #[.int .i64 k.m.n,.int .i64 k.m.s,.slice ai k.m.i.length ci,.slice ah k.m.h.length ch,.slice ae k.m.e.length ce,.int .i64 k.m.z,.slice ad k.d.length cd,.slice ap k.p.length cp,.slice ab k.b.length cb,.int .i64 k.t,.int .i64 k.q,.bool k.f,.slice au k.s.length cu,.slice ax k.x.length cx]):=HP1.out.below hb2
 have hle:L.length=(setL k k.p.length).length:=by rw [←psOf_length,hp.length_eq]
 have HLE:Hid (L.length=(setL k k.p.length).length):=hle
 have h9:=setL_len k H2A.out _ (Nat.le_refl _)
 rw [←hle]at h9
 obtain⟨ya,yc,hyy⟩:=owns_slice hsr
 rw [hyy]
 generalize L.length=s at h9 HLE
 clear hp hb2 hle hyy
 have m7:=HP2.out.cell (i:=7) rfl
 go_wp2
 clear m7
 go_loopw [3,16] (fun n i wr=>∃(j:Nat) (z:Int),j≤k.p.length∧n= .int .i64 z∧z=(pastN k j:Int)-(s:Int)∧i= .int .i64 j∧Below w2.heap.size w2 wr) (fun _ i _=>k.p.length-(intOf i).toNat)
 case atStart=>exact⟨0,_,Nat.zero_le _,rfl,by show _=(0:Int)-_;omega,rfl,Below.refl _ _⟩
 case round=>
  obtain⟨j,z,hj,rfl,hz,rfl,hB⟩:=hrel
  have HBr:Hid (Below w.heap.size w wr):=HB2.out.trans (hB.mono HB2.out.size)
  have HBr2:Hid (Below w2.heap.size w2 wr):=hB
  have HZ:Hid (z=(pastN k j:Int)-(s:Int)):=hz
  have hpn:=pastN_le k H2A.out j hj
  have hz1:z≤209715200:=by omega
  have hz2: -209715200≤z:=by omega
  clear hB hz hpn
  by_cases hlt:j<k.p.length
  ·obtain⟨b,off,rfl,hPA⟩:=HPP.out.resolve_left (by intro e;rw [e]at hlt;simp at hlt)
   obtain⟨a1,c1,a4,c4,a5,c5,a6,c6,hp⟩:=hPA.2 j hlt
   have hb:b<w.heap.size:=hPA.1
   have f0:=(HBr.out.cell (p:=⟨b,_,none⟩) hb).trans hp.f0
   have f1:=(HBr.out.cell (p:=⟨b,_,none⟩) hb).trans hp.f1
   have f2:=(HBr.out.cell (p:=⟨b,_,none⟩) hb).trans hp.f2
   have f3:=(HBr.out.cell (p:=⟨b,_,none⟩) hb).trans hp.f3
   have f4:=(HBr.out.cell (p:=⟨b,_,none⟩) hb).trans hp.f4
   have f5:=(HBr.out.cell (p:=⟨b,_,none⟩) hb).trans hp.f5
   have f6:=(HBr.out.cell (p:=⟨b,_,none⟩) hb).trans hp.f6
   have h200:(paAt k.p j).p.length≤200:=H2A.out j hlt
   have HPN:Hid (pastN k (j+1)=pastN k j+(paAt k.p j).p.length):=(rfl:pastN k (j+1)=_)
   have hki:(j:Int)<(k.p.length:Int):=by omega
   clear hPA hp
   obtain⟨V,hV⟩:∃V,wr.alloc (.cells #[.int .i64 (paAt k.p j).n,.slice a1 (paAt k.p j).st.r.length c1,.int .i64 (paAt k.p j).st.q,.int .i64 (paAt k.p j).st.d,.slice a4 (paAt k.p j).p.length c4,.slice a5 (paAt k.p j).t.length c5,.slice a6 (paAt k.p j).a.length c6] 97)=V:=⟨_,rfl⟩
   have HBV:Hid (Below wr.heap.size wr V):=by rw [←hV];exact(Below.refl _ wr).alloc (Nat.le_refl _) _
   have HX:Hid (Bk V wr.heap.size 97 #[.int .i64 (paAt k.p j).n,.slice a1 (paAt k.p j).st.r.length c1,.int .i64 (paAt k.p j).st.q,.int .i64 (paAt k.p j).st.d,.slice a4 (paAt k.p j).p.length c4,.slice a5 (paAt k.p j).t.length c5,.slice a6 (paAt k.p j).a.length c6]):=by rw [←hV];exact Bk.new _ _ _
   have x4:=HX.out.cell (i:=4) rfl
   go_wp2
   go_roundw
   case rel=>exact⟨j+1,_,by omega,rfl,by rw [HPN.out];have:=HZ.out;omega,by go_num,HBr2.out.trans (HBV.out.mono HBr2.out.size)⟩
   case measure=>simp [intOf];omega
  ·obtain rfl:k.p.length=j:=by omega
   go_wp2
   go_ret
   exact⟨ret_int (by rw [HA.out,HZ.out,HLE.out]),HBr.out⟩
abbrev PP (k:Kn):Nat→List Ps:=fun i=>(paAt k.p i).p
abbrev ctK (k:Kn):Nat→Nat:=fun i=>cutN (gvtE k) (paAt k.p i).p
def comL (k:Kn):List Ps:=comR (PP k) k.p.length (gvtE k) (fun _=>0) (setL k k.p.length).length
theorem kn_asc {k:Kn} (h:k.ok=true):∀i,i<k.p.length→AscP (PP k i):=fun i hi=>asc_ok (kn_parts h i hi)
theorem kn_cut (k:Kn):∀i,i<k.p.length→CutO (gvtE k) (PP k i) (ctK k i):=fun _ _=>cutN_cut _ _
theorem comL_all {k:Kn} (h:k.ok=true):(comL k).Perm (setL k k.p.length)∧(comL k).Pairwise leP:=
 com_all (kn_asc h) (kn_cut k) _ (fun _=>0) (fun _ _=>Nat.zero_le _) (Nat.le_refl _)
theorem com_step {P:Nat→List Ps} {n:Nat} {g:Option Ev} {ct nx:Nat→Nat} {f:Nat} (hasc:∀i,i<n→AscP (P i)) (hcut:∀i,i<n→CutO g (P i) (ct i)) (hnx:∀i,i<n→nx i≤ct i) (hf:(remL P ct nx n).length≤f) (hb:¬bestTo P nx n<0) (ha:aheadO g (hdE P nx (bestTo P nx n).toNat)=true):
  ∃f',f=f'+1∧comR P n g nx f=psAt (P (bestTo P nx n).toNat) (nx (bestTo P nx n).toNat)::comR P n g (upN nx (bestTo P nx n).toNat) f'∧(∀i,i<n→upN nx (bestTo P nx n).toNat i≤ct i)∧(remL P ct (upN nx (bestTo P nx n).toNat) n).length≤f':=by
 obtain⟨h0,h1,h2⟩:=best_spec P nx n
 obtain⟨k1,k2,k3⟩:=h2 (by omega)
 have hbc:nx (bestTo P nx n).toNat<ct (bestTo P nx n).toNat:=Nat.lt_of_not_le fun h=>by
  have:=(hcut _ k1).all (hasc _ k1) h k2
  unfold hdE at ha
  rw [this]at ha
  cases ha
 have hp:=(rem_head (P:=P) (ct:=ct) (nx:=nx) (hcut _ k1).le hbc k1).length_eq
 simp only [List.length_cons]at hp
 obtain⟨f',rfl⟩:∃f',f=f'+1:=⟨f-1,by omega⟩
 refine⟨f',rfl,?_,fun i hi=> ?_,by omega⟩
 ·rw [comR,if_neg hb,if_pos ha]
 ·unfold upN
  split
  ·next e=>rw [e];omega
  ·exact hnx i hi
theorem com_end {P:Nat→List Ps} {n:Nat} {g:Option Ev} {nx:Nat→Nat} {f:Nat} (h:bestTo P nx n<0∨ ¬aheadO g (hdE P nx (bestTo P nx n).toNat)=true):comR P n g nx f= []:=by
 cases f with
 |zero=>rfl
 |succ f=>
  rw [comR]
  rcases h with h|h
  ·rw [if_pos h]
  ·split
   ·rfl
   ·rfl
end Go.Proofs.YtmobiieoecjmdaaGreat

