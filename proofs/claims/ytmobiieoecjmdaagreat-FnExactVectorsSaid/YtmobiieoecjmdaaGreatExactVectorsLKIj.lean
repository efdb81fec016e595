/- The program's sureIsAhead. -/
import Derived.Test.YtmobiieoecjmdaaGreatExactVectorsG43
import Derived.Test.YtmobiieoecjmdaaGreatExactVectorsLKSc
namespace Go.Proofs.YtmobiieoecjmdaaGreat
open Go.RowKit
set_option maxRecDepth 100000 in
set_option maxHeartbeats 16000000 in
theorem iAhead (x:Value) (k:Kn) (w:World) (hs:ybb k) (hok:∀e,e∈gvtL k→e.ok=true) (h:IsKern w x k):
  Calls Tryz.prog 167 #[x] w fun e w'=>e= .returned (.bool (ydk k))∧Below w.heap.size w w':=by
 have HSK:Hid (ybb k):=hs
 have HOK:Hid (∀i,i<(gvtL k).length→(evAt (gvtL k) i).ok=true):=fun i hi=>hok _ (getD_in hi)
 clear hok
 obtain⟨HSM0,hsk⟩:=hs
 have HSM:Hid (SmallM k.m):=HSM0
 obtain⟨hdl,hpl,hbl,hsl,hxl⟩:=ycj hsk
 have HWP:Hid (∀i,i<k.p.length→(paAt k.p i).wt≤1048576):=ybs hsk
 clear hsk HSM0
 obtain⟨ai,ci,ah,ch,ae,ce,ad,cd,ap,cp,ab,cb,au,cu,ax,cx,rfl,hm,hd,hp,hbg,hsu,hx⟩:=h.form
 have HM:Hid (IsM w (.agg #[.int .i64 k.m.n,.int .i64 k.m.s,.slice ai k.m.i.length ci,.slice ah k.m.h.length ch,.slice ae k.m.e.length ce,.int .i64 k.m.z]) k.m):=hm
 have HD:Hid (IsI w (.slice ad k.d.length cd) k.d):=hd
 have HPP:Hid (k.p= []∨ ∃b off,ap=some ⟨b,off,none⟩∧PasAt w b off k.p):=hp
 have HBG:Hid (k.b= []∨ ∃b off,ab=some ⟨b,off,none⟩∧yff w b off k.b):=hbg.rows
 have HSU:Hid (k.s= []∨ ∃b off,au=some ⟨b,off,none⟩∧EvsAt w b off k.s):=hsu.rows
 have HXX:Hid (k.x= []∨ ∃b off,ax=some ⟨b,off,none⟩∧XsAt w b off k.x):=hx.rows
 have HSUI:Hid (IsEvs w (.slice au k.s.length cu) k.s):=hsu
 have HXXI:Hid (IsX w (.slice ax k.x.length cx) k.x):=hx
 have HK:Hid (IsKern w (.agg #[.int .i64 k.m.n,.int .i64 k.m.s,.slice ai k.m.i.length ci,.slice ah k.m.h.length ch,.slice ae k.m.e.length ce,.int .i64 k.m.z,.slice ad k.d.length cd,.slice ap k.p.length cp,.slice ab k.b.length cb,.int .i64 k.t,.int .i64 k.q,.bool k.f,.slice au k.s.length cu,.slice ax k.x.length cx]) k):=h
 clear hm hd hp hbg hsu hx h
 obtain⟨W0,hW0⟩:∃W0,w.alloc (.cells #[.int .i64 k.m.n,.int .i64 k.m.s,.slice ai k.m.i.length ci,.slice ah k.m.h.length ch,.slice ae k.m.e.length ce,.int .i64 k.m.z,.slice ad k.d.length cd,.slice ap k.p.length cp,.slice ab k.b.length cb,.int .i64 k.t,.int .i64 k.q,.bool k.f,.slice au k.s.length cu,.slice ax k.x.length cx] 57)=W0:=⟨_,rfl⟩
 have HB0:Hid (Below w.heap.size w W0):=by rw [←hW0];exact(Below.refl _ w).alloc (Nat.le_refl _) _
 have HP0:Hid (Bk W0 w.heap.size 57 #[.int .i64 k.m.n,.int .i64 k.m.s,.slice ai k.m.i.length ci,.slice ah k.m.h.length ch,.slice ae k.m.e.length ce,.int .i64 k.m.z,.slice ad k.d.length cd,.slice ap k.p.length cp,.slice ab k.b.length cb,.int .i64 k.t,.int .i64 k.q,.bool k.f,.slice au k.s.length cu,.slice ax k.x.length cx]):=by rw [←hW0];exact Bk.new w _ _
 have HW:Hid (w.alloc (.cells #[.int .i64 k.m.n,.int .i64 k.m.s,.slice ai k.m.i.length ci,.slice ah k.m.h.length ch,.slice ae k.m.e.length ce,.int .i64 k.m.z,.slice ad k.d.length cd,.slice ap k.p.length cp,.slice ab k.b.length cb,.int .i64 k.t,.int .i64 k.q,.bool k.f,.slice au k.s.length cu,.slice ax k.x.length cx] 57)=W0):=hW0
 have hs0:w.heap.size<W0.heap.size:=HP0.out.lt
 clear HM HD HBG HXX HSUI HXXI HSM HWP hW0
 have hw:=HW.out
 have q12:=HP0.out.cell (i:=12) rfl
 by_cases hs0':k.s= []
 ·have HY:Hid (ydk k=true):=aheadB_iff.2 (.inl hs0')
  have hlb:((k.s.length:Int)==0)=true:=by rw [hs0'];rfl
  have hl9:(k.s.length:Int)=0:=by rw [hs0'];rfl
  go_enter Tryz.func167,Tryz.ntmps167
  go_wp2
  go_ret
  exact⟨ya1 HY.out.symm,(Below.refl _ _).alloc (Nat.le_refl _) _⟩
 have HSN:Hid (¬k.s= []):=hs0'
 have hsp:0<k.s.length:=List.length_pos_iff.2 hs0'
 have hlb:((k.s.length:Int)==0)=false:=by rw [beq_eq_false_iff_ne];omega
 have hl9:¬(k.s.length:Int)=0:=by omega
 have hs1:(1:Int)≤(k.s.length:Int):=by omega
 have es:((k.s.length:Int)-1).toNat=k.s.length-1:=by omega
 obtain⟨b,off,rfl,hbl9,hcl⟩:=HSU.out.resolve_left hs0'
 have hle:Ev.In w b (off+(k.s.length-1)*7) (yar k.s):=hcl (k.s.length-1) (by omega)
 obtain⟨l0,l1,l2,l3,l4,l5,l6⟩:=hle.below HB0.out hbl9
 obtain⟨W1,hW1⟩:∃W1,W0.alloc (.cells #[.int .i64 (yar k.s).t,.int .i64 (yar k.s).s,.int .i64 (yar k.s).q,.int .i64 (yar k.s).d,.int .i64 (yar k.s).k,.int .i64 (yar k.s).v,.int .i64 (yar k.s).g] 110)=W1:=⟨_,rfl⟩
 have HB1:Hid (Below w.heap.size w W1):=by rw [←hW1];exact HB0.out.alloc HB0.out.size _
 have HP1:Hid (Bk W1 w.heap.size 57 #[.int .i64 k.m.n,.int .i64 k.m.s,.slice ai k.m.i.length ci,.slice ah k.m.h.length ch,.slice ae k.m.e.length ce,.int .i64 k.m.z,.slice ad k.d.length cd,.slice ap k.p.length cp,.slice ab k.b.length cb,.int .i64 k.t,.int .i64 k.q,.bool k.f,.slice (some ⟨b,off,none⟩) k.s.length cu,.slice ax k.x.length cx]):=by rw [←hW1];exact HP0.out.alloc _
 have HL1:Hid (Bk W1 W0.heap.size 110 #[.int .i64 (yar k.s).t,.int .i64 (yar k.s).s,.int .i64 (yar k.s).q,.int .i64 (yar k.s).d,.int .i64 (yar k.s).k,.int .i64 (yar k.s).v,.int .i64 (yar k.s).g]):=by rw [←hW1];exact Bk.new _ _ _
 have HLs:Hid (W0.heap.size<W1.heap.size):=HL1.out.lt
 have q7:=HP1.out.cell (i:=7) rfl
 clear hs0' hcl hbl9 hle
 go_enter Tryz.func167,Tryz.ntmps167
 go_wp2
 clear hw q12 q7 hlb hl9 hs1 es l0 l1 l2 l3 l4 l5 l6 hW1
 go_loopw [23] (fun i wr=>∃j:Nat,j≤k.p.length∧i= .int .i64 j∧Hid (∀i,i<j→(paAt k.p i).p= []∨(yar k.s).ecmp (psAt (paAt k.p i).p 0).e= -1)∧Below W1.heap.size W1 wr) (fun i _=>k.p.length-(intOf i).toNat)
 case atStart=>exact⟨0,Nat.zero_le _,rfl,fun j hj=>by omega,Below.refl _ _⟩
 case round=>
  obtain⟨j,hj,rfl,HA,hB⟩:=hrel
  have HBr:Hid (Below w.heap.size w wr):=HB1.out.trans (hB.mono HB1.out.size)
  have HBr2:Hid (Below W1.heap.size W1 wr):=hB
  have HLr:Hid (Bk wr W0.heap.size 110 #[.int .i64 (yar k.s).t,.int .i64 (yar k.s).s,.int .i64 (yar k.s).q,.int .i64 (yar k.s).d,.int .i64 (yar k.s).k,.int .i64 (yar k.s).v,.int .i64 (yar k.s).g]):=HL1.out.below hB
  have HPr:Hid (Bk wr w.heap.size 57 #[.int .i64 k.m.n,.int .i64 k.m.s,.slice ai k.m.i.length ci,.slice ah k.m.h.length ch,.slice ae k.m.e.length ce,.int .i64 k.m.z,.slice ad k.d.length cd,.slice ap k.p.length cp,.slice ab k.b.length cb,.int .i64 k.t,.int .i64 k.q,.bool k.f,.slice (some ⟨b,off,none⟩) k.s.length cu,.slice ax k.x.length cx]):=HP1.out.below hB
  clear hB
  by_cases hlt:j<k.p.length
  ·obtain⟨bp,op,rfl,hPA⟩:=HPP.out.resolve_left (by intro e;rw [e]at hlt;simp at hlt)
   obtain⟨a1,c1,a4,c4,a5,c5,a6,c6,hp⟩:=(hPA.below HBr.out).2 j hlt
   have hbr:bp<wr.heap.size:=Nat.lt_of_lt_of_le hPA.1 HBr.out.size
   have f0:=hp.f0
   have f1:=hp.f1
   have f2:=hp.f2
   have f3:=hp.f3
   have f4:=hp.f4
   have f5:=hp.f5
   have f6:=hp.f6
   have hd4:=ycf hp.d4
   obtain⟨V,hV⟩:∃V,wr.alloc (.cells #[.int .i64 (paAt k.p j).n,.slice a1 (paAt k.p j).st.r.length c1,.int .i64 (paAt k.p j).st.q,.int .i64 (paAt k.p j).st.d,.slice a4 (paAt k.p j).p.length c4,.slice a5 (paAt k.p j).t.length c5,.slice a6 (paAt k.p j).a.length c6] 97)=V:=⟨_,rfl⟩
   have HBV:Hid (Below wr.heap.size wr V):=by rw [←hV];exact(Below.refl _ wr).alloc (Nat.le_refl _) _
   have hXV:Bk V wr.heap.size 97 #[.int .i64 (paAt k.p j).n,.slice a1 (paAt k.p j).st.r.length c1,.int .i64 (paAt k.p j).st.q,.int .i64 (paAt k.p j).st.d,.slice a4 (paAt k.p j).p.length c4,.slice a5 (paAt k.p j).t.length c5,.slice a6 (paAt k.p j).a.length c6]:=by rw [←hV];exact Bk.new _ _ _
   have hLV:Bk V W0.heap.size 110 #[.int .i64 (yar k.s).t,.int .i64 (yar k.s).s,.int .i64 (yar k.s).q,.int .i64 (yar k.s).d,.int .i64 (yar k.s).k,.int .i64 (yar k.s).v,.int .i64 (yar k.s).g]:=HLr.out.below HBV.out
   have g0:=ya5 (i:=0) hLV rfl
   have g1:=ya5 (i:=1) hLV rfl
   have g2:=ya5 (i:=2) hLV rfl
   have g3:=ya5 (i:=3) hLV rfl
   have g4:=ya5 (i:=4) hLV rfl
   have g5:=ya5 (i:=5) hLV rfl
   have g6:=ya5 (i:=6) hLV rfl
   have hne:Nonempty (Beyond V):=⟨⟨V,Below.refl _ _⟩⟩
   have hki:(j:Int)<(k.p.length:Int):=by omega
   have x4:=hXV.cell (i:=4) rfl
   have hlx:wr.heap.size<V.heap.size:=hXV.lt
   clear hPA hp hXV hLV
   by_cases h0:(paAt k.p j).p.length=0
   ·have HP0E:Hid ((paAt k.p j).p= []):=List.length_eq_zero_iff.1 h0
    rw [h0]at x4 hV f4
    have y4:∀q:Beyond V,q.w.cell? ⟨wr.heap.size,4,none⟩=some (.slice a4 0 c4):=fun q=>q.cell hlx x4
    clear hd4 h0
    go_wp2_with fail
    refine ya0 (by kernel_rfl) (by kernel_rfl) ?_
    repeat(go_big_quiet_step (fail))
    refine wpQuiet_nil ?_
    rintro w6 ⟨⟨_,hb6⟩,rfl⟩
    have HB6:Hid (Below V.heap.size V w6):=hb6
    clear hb6
    have K9:Hid ((paAt k.p j).p= []∨(yar k.s).ecmp (psAt (paAt k.p j).p 0).e= -1):= .inl HP0E.out
    go_wp2
    go_roundw
    case rel=>exact⟨j+1,by omega,by go_num,fun i hi=>by
     by_cases e:i=j
     ·subst e;exact K9.out
     ·exact HA.out i (by omega),HBr2.out.trans ((HBV.out.trans (HB6.out.mono HBV.out.size)).mono HBr2.out.size)⟩
    case measure=>simp [intOf];omega
   ·obtain⟨n,hn⟩:∃n,(paAt k.p j).p.length=n+1:=⟨(paAt k.p j).p.length-1,by omega⟩
    obtain⟨b4,off4,rfl,hb4,hc4⟩:=hd4.resolve_left (by intro e;rw [e]at hn;simp at hn)
    obtain⟨_,_,_,_,_,_,hpp⟩:=hc4 0 (by omega)
    have hev:Ev.In V b4 off4 (psAt (paAt k.p j).p 0).e:=(by simpa using hpp.ev:Ev.In wr b4 off4 (psAt (paAt k.p j).p 0).e).below HBV.out hb4
    obtain⟨e0,e1,e2,e3,e4,e5,e6⟩:=hev.beyond (Nat.lt_of_lt_of_le hb4 HBV.out.size)
    have HNE:Hid (¬(paAt k.p j).p= []):=fun e=>by rw [e]at hn;simp at hn
    rw [hn]at x4 hV f4
    have y4:∀q:Beyond V,q.w.cell? ⟨wr.heap.size,4,none⟩=some (.slice (some ⟨b4,off4,none⟩) (n+1) c4):=fun q=>q.cell hlx x4
    generalize hz:(yar k.s).ecmp (psAt (paAt k.p j).p 0).e=z
    have KZ:Hid ((yar k.s).ecmp (psAt (paAt k.p j).p 0).e=z):=hz
    clear hz hc4 hpp hev h0 hn
    by_cases hz0:z= -1
    ·have hdz:(z != -1)=false:=by simpa using hz0
     have HZ:Hid (z= -1):=hz0
     clear hz0
     go_wp2_with fail
     refine ya0 (by kernel_rfl) (by kernel_rfl) ?_
     repeat(go_big_quiet_step (first|(go_at_call 123;exact Beyond.of (yeh (yar k.s) (psAt (paAt k.p j).p 0).e z KZ.out _))))
     refine wpQuiet_nil ?_
     rintro w6 ⟨⟨_,hb6⟩,rfl⟩
     have HB6:Hid (Below V.heap.size V w6):=hb6
     clear hb6
     have K9:Hid ((paAt k.p j).p= []∨(yar k.s).ecmp (psAt (paAt k.p j).p 0).e= -1):= .inr (KZ.out.trans HZ.out)
     go_wp2
     go_roundw
     case rel=>exact⟨j+1,by omega,by go_num,fun i hi=>by
      by_cases e:i=j
      ·subst e;exact K9.out
      ·exact HA.out i (by omega),HBr2.out.trans ((HBV.out.trans (HB6.out.mono HBV.out.size)).mono HBr2.out.size)⟩
     case measure=>simp [intOf];omega
    ·have hdz:(z != -1)=true:=by simpa using hz0
     have HZ:Hid (¬z= -1):=hz0
     clear hz0
     go_wp2_with fail
     refine ya0 (by kernel_rfl) (by kernel_rfl) ?_
     repeat(go_big_quiet_step (first|(go_at_call 123;exact Beyond.of (yeh (yar k.s) (psAt (paAt k.p j).p 0).e z KZ.out _))))
     refine wpQuiet_nil ?_
     rintro w6 ⟨⟨_,hb6⟩,rfl⟩
     have HB6:Hid (Below V.heap.size V w6):=hb6
     clear hb6
     have HN:Hid (ydk k=false):=yaa (fun h=>by
      rcases aheadB_iff.1 h with h1|⟨h1,_⟩
      ·exact HSN.out h1
      ·rcases h1 j hlt with h2|h2
       ·exact HNE.out h2
       ·exact HZ.out (KZ.out.symm.trans h2))
     go_wp2
     go_ret
     exact⟨ya1 HN.out.symm,HBr.out.trans ((HBV.out.trans (HB6.out.mono HBV.out.size)).mono HBr.out.size)⟩
  ·obtain rfl:k.p.length=j:=by omega
   have HAA:Hid (∀i,i<k.p.length→(paAt k.p i).p= []∨(yar k.s).ecmp (psAt (paAt k.p i).p 0).e= -1):=HA.out
   clear HA
   have m0:=HPr.out.cell (i:=0) rfl
   have m1:=HPr.out.cell (i:=1) rfl
   have m2:=HPr.out.cell (i:=2) rfl
   have m3:=HPr.out.cell (i:=3) rfl
   have m4:=HPr.out.cell (i:=4) rfl
   have m5:=HPr.out.cell (i:=5) rfl
   have m6:=HPr.out.cell (i:=6) rfl
   have m7:=HPr.out.cell (i:=7) rfl
   have m8:=HPr.out.cell (i:=8) rfl
   have m9:=HPr.out.cell (i:=9) rfl
   have m10:=HPr.out.cell (i:=10) rfl
   have m11:=HPr.out.cell (i:=11) rfl
   have m12:=HPr.out.cell (i:=12) rfl
   have m13:=HPr.out.cell (i:=13) rfl
   go_wp2_with fail
   clear m0 m1 m2 m3 m4 m5 m6 m7 m8 m9 m10 m11 m12 m13
   refine(iFirst8 _ k _ HSK.out HOK.out (HK.out.under HBr.out)).mono ?_
   rintro e w4 ⟨rfl,hb4⟩
   have HB4:Hid (Below w.heap.size w w4):=HBr.out.trans (hb4.mono HBr.out.size)
   have HL4:Hid (Bk w4 W0.heap.size 110 #[.int .i64 (yar k.s).t,.int .i64 (yar k.s).s,.int .i64 (yar k.s).q,.int .i64 (yar k.s).d,.int .i64 (yar k.s).k,.int .i64 (yar k.s).v,.int .i64 (yar k.s).g]):=HLr.out.below hb4
   clear hb4
   generalize hgv:gvtE k=gv
   have HGE:Hid (gvtE k=gv):=hgv
   clear hgv
   cases gv with
   |none=>
    rw [show retE none= .tuple #[.agg #[.int .i64 zEv.t,.int .i64 zEv.s,.int .i64 zEv.q,.int .i64 zEv.d,.int .i64 zEv.k,.int .i64 zEv.v,.int .i64 zEv.g],.bool false]from rfl]
    have HY:Hid (ydk k=true):=aheadB_iff.2 (.inr ⟨HAA.out,fun g eg=>by rw [HGE.out]at eg;cases eg⟩)
    go_wp2
    go_ret
    exact⟨ya1 HY.out.symm,HB4.out.alloc HB4.out.size _⟩
   |some g=>
    rw [show retE (some g)= .tuple #[.agg #[.int .i64 g.t,.int .i64 g.s,.int .i64 g.q,.int .i64 g.d,.int .i64 g.k,.int .i64 g.v,.int .i64 g.g],.bool true]from rfl]
    obtain⟨V,hV⟩:∃V,w4.alloc (.cells #[.int .i64 g.t,.int .i64 g.s,.int .i64 g.q,.int .i64 g.d,.int .i64 g.k,.int .i64 g.v,.int .i64 g.g] 110)=V:=⟨_,rfl⟩
    have HBV:Hid (Below w.heap.size w V):=by rw [←hV];exact HB4.out.alloc HB4.out.size _
    have HGV:Hid (Bk V w4.heap.size 110 #[.int .i64 g.t,.int .i64 g.s,.int .i64 g.q,.int .i64 g.d,.int .i64 g.k,.int .i64 g.v,.int .i64 g.g]):=by rw [←hV];exact Bk.new _ _ _
    have HLV:Hid (Bk V W0.heap.size 110 #[.int .i64 (yar k.s).t,.int .i64 (yar k.s).s,.int .i64 (yar k.s).q,.int .i64 (yar k.s).d,.int .i64 (yar k.s).k,.int .i64 (yar k.s).v,.int .i64 (yar k.s).g]):=by rw [←hV];exact HL4.out.alloc _
    have g0:=HGV.out.cell (i:=0) rfl
    have l0:=HLV.out.cell (i:=0) rfl
    have g1:=HGV.out.cell (i:=1) rfl
    have l1:=HLV.out.cell (i:=1) rfl
    have g2:=HGV.out.cell (i:=2) rfl
    have l2:=HLV.out.cell (i:=2) rfl
    have g3:=HGV.out.cell (i:=3) rfl
    have l3:=HLV.out.cell (i:=3) rfl
    have g4:=HGV.out.cell (i:=4) rfl
    have l4:=HLV.out.cell (i:=4) rfl
    have g5:=HGV.out.cell (i:=5) rfl
    have l5:=HLV.out.cell (i:=5) rfl
    have g6:=HGV.out.cell (i:=6) rfl
    have l6:=HLV.out.cell (i:=6) rfl
    go_wp2_with fail
    clear g0 l0 g1 l1 g2 l2 g3 l3 g4 l4 g5 l5 g6 l6 hV
    generalize hz:(yar k.s).ecmp g=z
    have KZ:Hid ((yar k.s).ecmp g=z):=hz
    clear hz
    refine(yeh (yar k.s) g z KZ.out _).mono ?_
    rintro e w5 ⟨rfl,hb5⟩
    have HB5:Hid (Below w.heap.size w w5):=HBV.out.trans (hb5.mono HBV.out.size)
    clear hb5
    by_cases hz0:z= -1
    ·have HY:Hid (ydk k=true):=aheadB_iff.2 (.inr ⟨HAA.out,fun g' eg=>by rw [HGE.out]at eg;cases eg;rw [KZ.out];exact hz0⟩)
     have hdz:(z== -1)=true:=by simpa using hz0
     clear hz0
     go_wp2
     go_ret
     exact⟨ya1 HY.out.symm,HB5.out⟩
    ·have HN:Hid (ydk k=false):=yaa (fun h=>by
      rcases aheadB_iff.1 h with h1|⟨_,h1⟩
      ·exact HSN.out h1
      ·exact hz0 (KZ.out.symm.trans (h1 g HGE.out)))
     have hdz:(z== -1)=false:=by rw [beq_eq_false_iff_ne];exact hz0
     clear hz0
     go_wp2
     go_ret
     exact⟨ya1 HN.out.symm,HB5.out⟩
end Go.Proofs.YtmobiieoecjmdaaGreat
