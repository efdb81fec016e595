/- KIj, KIk, VFnOk -/
import Derived.Test.YtmobiieoecjmdaaGreatExactAnswersG28
namespace Go.Proofs.YtmobiieoecjmdaaGreat
open Go.RowKit
theorem yd7 {p:Prop} (h:p):Hid p:=h
set_option maxRecDepth 100000 in
set_option maxHeartbeats 16000000 in
theorem iAhead (x:Value) (k:Kn) (w:World) (hs:ybt k) (hok:∀e,e∈gvtL k→e.ok=true) (h:IsKern w x k):
  Calls Tryz.prog 167 #[x] w fun e w'=>e= .returned (.bool (yfu k))∧Below w.heap.size w w':=by
 have HSK:Hid (ybt k):=hs
 have HOK:Hid (∀i,i<(gvtL k).length→(evAt (gvtL k) i).ok=true):=fun i hi=>hok _ (getD_in hi)
 clear hok
 obtain⟨HSM0,hsk⟩:=hs
 have HSM:Hid (SmallM k.m):=HSM0
 obtain⟨hdl,hpl,hbl,hsl,hxl⟩:=yda hsk
 have HWP:=yd7 (yd0 hsk)
 clear hsk HSM0
 obtain⟨ai,ci,ah,ch,ae,ce,ad,cd,ap,cp,ab,cb,au,cu,ax,cx,rfl,hm,hd,hp,hbg,hsu,hx⟩:=h.form
 have HM:=yd7 hm
 have HD:=yd7 hd
 have HPP:=yd7 hp
 have HBG:=yd7 hbg.rows
 have HSU:=yd7 hsu.rows
 have HXX:=yd7 hx.rows
 have HSUI:=yd7 hsu
 have HXXI:=yd7 hx
 have HK:=yd7 h
 clear hm hd hp hbg hsu hx h
 obtain⟨W0,hW0⟩:=yet HK.out 57
 have HB0:Hid (Below w.heap.size w W0):=by rw [←hW0];exact(Below.refl _ w).alloc (Nat.le_refl _) _
 have HP0:Hid (Bk W0 w.heap.size 57 #[.int .i64 k.m.n,.int .i64 k.m.s,.slice ai k.m.i.length ci,.slice ah k.m.h.length ch,.slice ae k.m.e.length ce,.int .i64 k.m.z,.slice ad k.d.length cd,.slice ap k.p.length cp,.slice ab k.b.length cb,.int .i64 k.t,.int .i64 k.q,.bool k.f,.slice au k.s.length cu,.slice ax k.x.length cx]):=by rw [←hW0];exact Bk.new w _ _
 have HW:=yd7 hW0
 have hs0:w.heap.size<W0.heap.size:=HP0.out.lt
 clear HM HD HBG HXX HSUI HXXI HSM HWP hW0
 have hw:=HW.out
 have q12:=HP0.out.cell (i:=12) rfl
 by_cases hs0':k.s= []
 ·have HY:Hid (yfu k=true):=aheadB_iff.2 (.inl hs0')
  have hlb:((k.s.length:Int)==0)=true:=by rw [hs0'];rfl
  have hl9:(k.s.length:Int)=0:=by rw [hs0'];rfl
  go_enter Tryz.func167,Tryz.ntmps167
  go_wp2
  go_ret
  exact⟨ya0 HY.out.symm,(Below.refl _ _).alloc (Nat.le_refl _) _⟩
 have HSN:Hid (¬k.s= []):=hs0'
 have hsp:0<k.s.length:=List.length_pos_iff.2 hs0'
 have hlb:((k.s.length:Int)==0)=false:=by rw [beq_eq_false_iff_ne];omega
 have hl9:¬(k.s.length:Int)=0:=by omega
 have hs1:(1:Int)≤(k.s.length:Int):=by omega
 have es:((k.s.length:Int)-1).toNat=k.s.length-1:=by omega
 obtain⟨b,off,rfl,hbl9,hcl⟩:=HSU.out.resolve_left hs0'
 have hle:Ev.In w b (off+(k.s.length-1)*7) (ycg k.s):=hcl (k.s.length-1) (by omega)
 obtain⟨l0,l1,l2,l3,l4,l5,l6⟩:=hle.below HB0.out hbl9
 obtain⟨W1,hW1⟩:∃W1,W0.alloc (.cells #[.int .i64 (ycg k.s).t,.int .i64 (ycg k.s).s,.int .i64 (ycg k.s).q,.int .i64 (ycg k.s).d,.int .i64 (ycg k.s).k,.int .i64 (ycg k.s).v,.int .i64 (ycg k.s).g] 110)=W1:=⟨_,rfl⟩
 have HB1:Hid (Below w.heap.size w W1):=by rw [←hW1];exact HB0.out.alloc HB0.out.size _
 have HP1:Hid (Bk W1 w.heap.size 57 #[.int .i64 k.m.n,.int .i64 k.m.s,.slice ai k.m.i.length ci,.slice ah k.m.h.length ch,.slice ae k.m.e.length ce,.int .i64 k.m.z,.slice ad k.d.length cd,.slice ap k.p.length cp,.slice ab k.b.length cb,.int .i64 k.t,.int .i64 k.q,.bool k.f,.slice (some ⟨b,off,none⟩) k.s.length cu,.slice ax k.x.length cx]):=by rw [←hW1];exact HP0.out.alloc _
 have HL1:=hdq (bkA hW1)
 have HLs:=yd7 HL1.out.lt
 have q7:=HP1.out.cell (i:=7) rfl
 clear hs0' hcl hbl9 hle
 go_enter Tryz.func167,Tryz.ntmps167
 go_wp2
 clear hw q12 q7 hlb hl9 hs1 es l0 l1 l2 l3 l4 l5 l6 hW1
 go_loopw [23] (fun i wr=>∃j:Nat,j≤k.p.length∧i= .int .i64 j∧Hid (∀i,i<j→(paAt k.p i).p= []∨(ycg k.s).ecmp (psAt (paAt k.p i).p 0).e= -1)∧Below W1.heap.size W1 wr) (fun i _=>k.p.length-(intOf i).toNat)
 case atStart=>exact⟨0,Nat.zero_le _,rfl,fun j hj=>by omega,Below.refl _ _⟩
 case round=>
  obtain⟨j,hj,rfl,HA,hB⟩:=hrel
  have HBr:=trh HB1 hB
  have HBr2:=yd7 hB
  have HLr:=yd7 (HL1.out.below hB)
  have HPr:=yd7 (HP1.out.below hB)
  clear hB
  by_cases hlt:j<k.p.length
  ·obtain⟨bp,op,rfl,hPA⟩:=HPP.out.resolve_left (by intro e;rw [e]at hlt;simp at hlt)
   obtain⟨a1,c1,a4,c4,a5,c5,a6,c6,hp⟩:=(hPA.below HBr.out).2 j hlt
   have hbr:bp<wr.heap.size:=Nat.lt_of_lt_of_le hPA.1 HBr.out.size
   have f0:=hp.f0
   have f1:=hp.f1
   have f2:=hp.f2
   have f3:=hp.f3
   have f4:=hp.f4
   have f5:=hp.f5
   have f6:=hp.f6
   have hd4:=yct hp.d4
   obtain⟨V,hV⟩:∃V,wr.alloc (.cells #[.int .i64 (paAt k.p j).n,.slice a1 (paAt k.p j).st.r.length c1,.int .i64 (paAt k.p j).st.q,.int .i64 (paAt k.p j).st.d,.slice a4 (paAt k.p j).p.length c4,.slice a5 (paAt k.p j).t.length c5,.slice a6 (paAt k.p j).a.length c6] 97)=V:=⟨_,rfl⟩
   have HBV:=hdq (beA hV)
   have hXV:=bkA hV
   have hLV:Bk V W0.heap.size 110 #[.int .i64 (ycg k.s).t,.int .i64 (ycg k.s).s,.int .i64 (ycg k.s).q,.int .i64 (ycg k.s).d,.int .i64 (ycg k.s).k,.int .i64 (ycg k.s).v,.int .i64 (ycg k.s).g]:=HLr.out.below HBV.out
   have g0:=ya5 (i:=0) hLV rfl
   have g1:=ya5 (i:=1) hLV rfl
   have g2:=ya5 (i:=2) hLV rfl
   have g3:=ya5 (i:=3) hLV rfl
   have g4:=ya5 (i:=4) hLV rfl
   have g5:=ya5 (i:=5) hLV rfl
   have g6:=ya5 (i:=6) hLV rfl
   have hne:=neB V
   have hki:(j:Int)<(k.p.length:Int):=by omega
   have x4:=hXV.cell (i:=4) rfl
   have hlx:wr.heap.size<V.heap.size:=hXV.lt
   clear hPA hp hXV hLV
   by_cases h0:(paAt k.p j).p.length=0
   ·have HP0E:Hid ((paAt k.p j).p= []):=List.length_eq_zero_iff.1 h0
    rw [h0]at x4 hV f4
    have y4:∀q:Beyond V,q.w.cell? ⟨wr.heap.size,4,none⟩=some (.slice a4 0 c4):=fun q=>q.cell hlx x4
    clear hd4 h0
    go_wp2_with fail
    refine wrb ?_
    repeat(go_big_quiet_step (fail))
    refine wpQuiet_nil ?_
    rintro w6 ⟨⟨_,hb6⟩,rfl⟩
    have HB6:=yd7 hb6
    clear hb6
    have K9:Hid ((paAt k.p j).p= []∨(ycg k.s).ecmp (psAt (paAt k.p j).p 0).e= -1):= .inl HP0E.out
    go_wp2
    go_roundw
    case rel=>exact⟨j+1,by omega,by go_num,fun i hi=>by
     by_cases e:i=j
     ·subst e;exact K9.out
     ·exact HA.out i (by omega),trm HBr2.out (HBV.out.trans (HB6.out.mono HBV.out.size))⟩
    case measure=>simp [intOf];omega
   ·obtain⟨n,hn⟩:∃n,(paAt k.p j).p.length=n+1:=⟨(paAt k.p j).p.length-1,by omega⟩
    obtain⟨b4,off4,rfl,hb4,hc4⟩:=hd4.resolve_left (by intro e;rw [e]at hn;simp at hn)
    obtain⟨_,_,_,_,_,_,hpp⟩:=hc4 0 (by omega)
    have hev:Ev.In V b4 off4 (psAt (paAt k.p j).p 0).e:=(by simpa using hpp.ev:Ev.In wr b4 off4 (psAt (paAt k.p j).p 0).e).below HBV.out hb4
    obtain⟨e0,e1,e2,e3,e4,e5,e6⟩:=hev.beyond (Nat.lt_of_lt_of_le hb4 HBV.out.size)
    have HNE:Hid (¬(paAt k.p j).p= []):=fun e=>by rw [e]at hn;simp at hn
    rw [hn]at x4 hV f4
    have y4:∀q:Beyond V,q.w.cell? ⟨wr.heap.size,4,none⟩=some (.slice (some ⟨b4,off4,none⟩) (n+1) c4):=fun q=>q.cell hlx x4
    generalize hz:(ycg k.s).ecmp (psAt (paAt k.p j).p 0).e=z
    have KZ:Hid ((ycg k.s).ecmp (psAt (paAt k.p j).p 0).e=z):=hz
    clear hz hc4 hpp hev h0 hn
    by_cases hz0:z= -1
    ·have hdz:(z != -1)=false:=by simpa using hz0
     have HZ:Hid (z= -1):=hz0
     clear hz0
     go_wp2_with fail
     refine wrb ?_
     repeat(go_big_quiet_step (first|(go_at_call 123;exact Beyond.of (yg4 (ycg k.s) (psAt (paAt k.p j).p 0).e z KZ.out _))))
     refine wpQuiet_nil ?_
     rintro w6 ⟨⟨_,hb6⟩,rfl⟩
     have HB6:=yd7 hb6
     clear hb6
     have K9:Hid ((paAt k.p j).p= []∨(ycg k.s).ecmp (psAt (paAt k.p j).p 0).e= -1):= .inr (KZ.out.trans HZ.out)
     go_wp2
     go_roundw
     case rel=>exact⟨j+1,by omega,by go_num,fun i hi=>by
      by_cases e:i=j
      ·subst e;exact K9.out
      ·exact HA.out i (by omega),trm HBr2.out (HBV.out.trans (HB6.out.mono HBV.out.size))⟩
     case measure=>simp [intOf];omega
    ·have hdz:(z != -1)=true:=by simpa using hz0
     have HZ:Hid (¬z= -1):=hz0
     clear hz0
     go_wp2_with fail
     refine wrb ?_
     repeat(go_big_quiet_step (first|(go_at_call 123;exact Beyond.of (yg4 (ycg k.s) (psAt (paAt k.p j).p 0).e z KZ.out _))))
     refine wpQuiet_nil ?_
     rintro w6 ⟨⟨_,hb6⟩,rfl⟩
     have HB6:=yd7 hb6
     clear hb6
     have HN:Hid (yfu k=false):=yac (fun h=>by
      rcases aheadB_iff.1 h with h1|⟨h1,_⟩
      ·exact HSN.out h1
      ·rcases h1 j hlt with h2|h2
       ·exact HNE.out h2
       ·exact HZ.out (KZ.out.symm.trans h2))
     go_wp2
     go_ret
     exact⟨ya0 HN.out.symm,trm HBr.out (HBV.out.trans (HB6.out.mono HBV.out.size))⟩
  ·obtain rfl:k.p.length=j:=by omega
   have HAA:=yd7 HA.out
   clear HA
   obtain⟨m0,m1,m2,m3,m4,m5,m6,m7,m8,m9,m10,m11,m12,m13⟩:=ydx HPr.out
   go_wp2_with fail
   clear m0 m1 m2 m3 m4 m5 m6 m7 m8 m9 m10 m11 m12 m13
   refine(yul _ k _ HSK.out HOK.out (HK.out.under HBr.out)).mono ?_
   rintro e w4 ⟨rfl,hb4⟩
   have HB4:=trh HBr hb4
   have HL4:=yd7 (HLr.out.below hb4)
   clear hb4
   generalize hgv:gvtE k=gv
   have HGE:Hid (gvtE k=gv):=hgv
   clear hgv
   cases gv with
   |none=>
    rw [show retE none= .tuple #[.agg #[.int .i64 zEv.t,.int .i64 zEv.s,.int .i64 zEv.q,.int .i64 zEv.d,.int .i64 zEv.k,.int .i64 zEv.v,.int .i64 zEv.g],.bool false]from rfl]
    have HY:Hid (yfu k=true):=aheadB_iff.2 (.inr ⟨HAA.out,fun g eg=>by rw [HGE.out]at eg;cases eg⟩)
    go_wp2
    go_ret
    exact⟨ya0 HY.out.symm,HB4.out.alloc HB4.out.size _⟩
   |some g=>
    rw [show retE (some g)= .tuple #[.agg #[.int .i64 g.t,.int .i64 g.s,.int .i64 g.q,.int .i64 g.d,.int .i64 g.k,.int .i64 g.v,.int .i64 g.g],.bool true]from rfl]
    obtain⟨V,hV⟩:∃V,w4.alloc (.cells #[.int .i64 g.t,.int .i64 g.s,.int .i64 g.q,.int .i64 g.d,.int .i64 g.k,.int .i64 g.v,.int .i64 g.g] 110)=V:=⟨_,rfl⟩
    have HBV:Hid (Below w.heap.size w V):=by rw [←hV];exact HB4.out.alloc HB4.out.size _
    have HGV:=hdq (bkA hV)
    have HLV:Hid (Bk V W0.heap.size 110 #[.int .i64 (ycg k.s).t,.int .i64 (ycg k.s).s,.int .i64 (ycg k.s).q,.int .i64 (ycg k.s).d,.int .i64 (ycg k.s).k,.int .i64 (ycg k.s).v,.int .i64 (ycg k.s).g]):=by rw [←hV];exact HL4.out.alloc _
    have g0:=HGV.out.cell (i:=0) rfl
    have l0:=HLV.out.cell (i:=0) rfl
    have g1:=HGV.out.cell (i:=1) rfl
    have l1:=HLV.out.cell (i:=1) rfl
    have g2:=HGV.out.cell (i:=2) rfl
    have l2:=HLV.out.cell (i:=2) rfl
    have g3:=HGV.out.cell (i:=3) rfl
    have l3:=HLV.out.cell (i:=3) rfl
    have g4:=HGV.out.cell (i:=4) rfl
    have l4:=HLV.out.cell (i:=4) rfl
    have g5:=HGV.out.cell (i:=5) rfl
    have l5:=HLV.out.cell (i:=5) rfl
    have g6:=HGV.out.cell (i:=6) rfl
    have l6:=HLV.out.cell (i:=6) rfl
    go_wp2_with fail
    clear g0 l0 g1 l1 g2 l2 g3 l3 g4 l4 g5 l5 g6 l6 hV
    generalize hz:(ycg k.s).ecmp g=z
    have KZ:Hid ((ycg k.s).ecmp g=z):=hz
    clear hz
    refine(yg4 (ycg k.s) g z KZ.out _).mono ?_
    rintro e w5 ⟨rfl,hb5⟩
    have HB5:=trh HBV hb5
    clear hb5
    by_cases hz0:z= -1
    ·have HY:Hid (yfu k=true):=aheadB_iff.2 (.inr ⟨HAA.out,fun g' eg=>by rw [HGE.out]at eg;cases eg;rw [KZ.out];exact hz0⟩)
     have hdz:(z== -1)=true:=by simpa using hz0
     clear hz0
     go_wp2
     go_ret
     exact⟨ya0 HY.out.symm,HB5.out⟩
    ·have HN:Hid (yfu k=false):=yac (fun h=>by
      rcases aheadB_iff.1 h with h1|⟨_,h1⟩
      ·exact HSN.out h1
      ·exact hz0 (KZ.out.symm.trans (h1 g HGE.out)))
     have hdz:(z== -1)=false:=by rw [beq_eq_false_iff_ne];exact hz0
     clear hz0
     go_wp2
     go_ret
     exact⟨ya0 HN.out.symm,HB5.out⟩
end Go.Proofs.YtmobiieoecjmdaaGreat

namespace Go.Proofs.YtmobiieoecjmdaaGreat
open Go.RowKit Go.Shelf
theorem yeh {p:Prop} (h:p):Hid p:=h
attribute [local go_sem] Oper.semAt_some
def suB (m:Md) (e:Ev):Bool:=evIn m e&&decide (e.g=0)
theorem suB_iff {m:Md} {e:Ev}:suB m e=true↔e.ok=true∧fitB m e.t e.d e.k=true∧e.g=0:=by
 unfold suB evIn
 simp only [Bool.and_eq_true,decide_eq_true_eq,and_assoc]
theorem suB_two {m:Md} {e:Ev}:suB m e=true↔evIn m e=true∧e.g=0:=by
 unfold suB
 simp only [Bool.and_eq_true,decide_eq_true_eq]
theorem yib (a:Option Addr) (cap:Nat) (l:List Ev) (c:Bool) (hc:c=true↔ ∀i,i<l.length-1→(evAt l i).ecmp (evAt l (i+1))= -1) (w:World) (hl:l.length≤1048576) (hp:0<w.heap.size) (hI:IsEvs w (.slice a l.length cap) l):
  Calls Tryz.prog 166 #[.slice a l.length cap] w fun e w'=>e= .returned (.bool c)∧Below w.heap.size w w':=by
 have conv:∀{e:Ending} {w':World},(Says e (∀i,i<l.length-1→(evAt l i).ecmp (evAt l (i+1))= -1)∧Below w.heap.size w w')→e= .returned (.bool c)∧Below w.heap.size w w':=by
  rintro e w' ⟨⟨d,rfl,hd⟩,hw⟩
  refine⟨?_,hw⟩
  cases c<;>cases d
  ·rfl
  ·exact absurd (hc.2 (hd.1 rfl)) (by simp)
  ·exact absurd (hd.2 (hc.1 rfl)) (by simp)
  ·rfl
 rcases hI.rows with rfl|⟨b',off,rfl,hbb⟩
 ·exact(yh6 a cap 0 [] w hl (.inl rfl) hp).mono fun e w' hh=>conv hh
 ·exact(yh6 _ cap b' l w hl (.inr ⟨off,rfl,hbb⟩) hbb.1).mono fun e w' hh=>conv hh
theorem ync (x:Value) (k:Kn) (c:Bool) (hc:yfu k=c) (w:World) (hs:ybt k) (hok:∀e,e∈gvtL k→e.ok=true) (h:IsKern w x k):Calls Tryz.prog 167 #[x] w fun e w'=>e= .returned (.bool c)∧Below w.heap.size w w':=hc▸iAhead x k w hs hok h
set_option maxRecDepth 100000 in
set_option maxHeartbeats 8000000 in
theorem iSureOk (x:Value) (k:Kn) (w:World) (hs:ybt k) (hok:∀e,e∈gvtL k→e.ok=true) (h:IsKern w x k):
  Calls Tryz.prog 117 #[x] w fun e w'=>e= .returned (.bool (yhj k))∧Below w.heap.size w w':=by
 have HSK:Hid (ybt k):=hs
 have HOK:=yeh hok
 clear hok
 obtain⟨HSM0,hsk⟩:=hs
 have HSM:Hid (SmallM k.m):=HSM0
 obtain⟨hdl,hpl,hbl,hsl,hxl⟩:=yda hsk
 have HWP:=yeh (yd0 hsk)
 clear hsk HSM0
 obtain⟨ai,ci,ah,ch,ae,ce,ad,cd,ap,cp,ab,cb,au,cu,ax,cx,rfl,hm,hd,hp,hbg,hsu,hx⟩:=h.form
 have HM:=yeh hm
 have HD:=yeh hd
 have HPP:=yeh hp
 have HBG:=yeh hbg.rows
 have HSU:=yeh hsu.rows
 have HXX:=yeh hx.rows
 have HSUI:=yeh hsu
 have HXXI:=yeh hx
 have HK:=yeh h
 clear hm hd hp hbg hsu hx h
 clear HD HPP HBG HXX HXXI HSM HWP
 obtain⟨b,hb,hI⟩:∃b,b≤w.heap.size∧(k.s= []∨ ∃off,au=some ⟨b,off,none⟩∧EvsAt w b off k.s):=by
  rcases HSU.out with e|⟨b,off,e,h⟩
  ·exact⟨w.heap.size,Nat.le_refl _,.inl e⟩
  ·exact⟨b,Nat.le_of_lt h.1,.inr ⟨off,e,h⟩⟩
 have q12:((w.alloc (.cells #[.int .i64 k.m.n,.int .i64 k.m.s,.slice ai k.m.i.length ci,.slice ah k.m.h.length ch,.slice ae k.m.e.length ce,.int .i64 k.m.z,.slice ad k.d.length cd,.slice ap k.p.length cp,.slice ab k.b.length cb,.int .i64 k.t,.int .i64 k.q,.bool k.f,.slice au k.s.length cu,.slice ax k.x.length cx] 57)).alloc (.cells #[.bool false] 4)).cell? ⟨w.heap.size,12,none⟩=some (.slice au k.s.length cu):=((Bk.new w _ _).alloc _).cell (i:=12) rfl
 refine(callsIn_wide (n:=5)).1 ?_
 refine callsIn_of_wp_marks Tryz.func117 rfl trivial ?_ rfl
 simp only [Tryz.ntmps117,List.size_toArray,List.length_cons,List.length_nil,Nat.reduceAdd,Nat.reduceSub,Array.replicate_succ,Array.replicate_zero,List.push_toArray,List.append_toArray,List.nil_append,List.cons_append]
 gi_wp2_with (refine⟨trivial,?_⟩;gi_at_call 163;refine(callsIn_wide.2 (ygn _ _ _ _)).mono ?_;rintro e w' ⟨rfl,rfl⟩)
 clear q12
 have cK:Bk (((w.alloc (.cells #[.int .i64 k.m.n,.int .i64 k.m.s,.slice ai k.m.i.length ci,.slice ah k.m.h.length ch,.slice ae k.m.e.length ce,.int .i64 k.m.z,.slice ad k.d.length cd,.slice ap k.p.length cp,.slice ab k.b.length cb,.int .i64 k.t,.int .i64 k.q,.bool k.f,.slice au k.s.length cu,.slice ax k.x.length cx] 57)).alloc (.cells #[.bool false] 4)).alloc (.cells #[.slice au k.s.length cu] 34)) w.heap.size 57 #[.int .i64 k.m.n,.int .i64 k.m.s,.slice ai k.m.i.length ci,.slice ah k.m.h.length ch,.slice ae k.m.e.length ce,.int .i64 k.m.z,.slice ad k.d.length cd,.slice ap k.p.length cp,.slice ab k.b.length cb,.int .i64 k.t,.int .i64 k.q,.bool k.f,.slice au k.s.length cu,.slice ax k.x.length cx]:=((Bk.new w _ _).alloc _).alloc _
 have cR:=(Boxed.new (w.alloc (.cells #[.int .i64 k.m.n,.int .i64 k.m.s,.slice ai k.m.i.length ci,.slice ah k.m.h.length ch,.slice ae k.m.e.length ce,.int .i64 k.m.z,.slice ad k.d.length cd,.slice ap k.p.length cp,.slice ab k.b.length cb,.int .i64 k.t,.int .i64 k.q,.bool k.f,.slice au k.s.length cu,.slice ax k.x.length cx] 57)) 4 (.bool false)).alloc (.cells #[.slice au k.s.length cu] 34)
 have cS:=Boxed.new ((w.alloc (.cells #[.int .i64 k.m.n,.int .i64 k.m.s,.slice ai k.m.i.length ci,.slice ah k.m.h.length ch,.slice ae k.m.e.length ce,.int .i64 k.m.z,.slice ad k.d.length cd,.slice ap k.p.length cp,.slice ab k.b.length cb,.int .i64 k.t,.int .i64 k.q,.bool k.f,.slice au k.s.length cu,.slice ax k.x.length cx] 57)).alloc (.cells #[.bool false] 4)) 34 (.slice au k.s.length cu)
 rw [World.size_alloc]at cR
 rw [World.size_alloc,World.size_alloc]at cS
 have hB0:Below w.heap.size w (((w.alloc (.cells #[.int .i64 k.m.n,.int .i64 k.m.s,.slice ai k.m.i.length ci,.slice ah k.m.h.length ch,.slice ae k.m.e.length ce,.int .i64 k.m.z,.slice ad k.d.length cd,.slice ap k.p.length cp,.slice ab k.b.length cb,.int .i64 k.t,.int .i64 k.q,.bool k.f,.slice au k.s.length cu,.slice ax k.x.length cx] 57)).alloc (.cells #[.bool false] 4)).alloc (.cells #[.slice au k.s.length cu] 34)):=(((Below.refl _ w).alloc (Nat.le_refl _) _).alloc (by simp) _).alloc (by simp;omega) _
 have hI0:k.s= []∨ ∃off,au=some ⟨b,off,none⟩∧EvsAt (((w.alloc (.cells #[.int .i64 k.m.n,.int .i64 k.m.s,.slice ai k.m.i.length ci,.slice ah k.m.h.length ch,.slice ae k.m.e.length ce,.int .i64 k.m.z,.slice ad k.d.length cd,.slice ap k.p.length cp,.slice ab k.b.length cb,.int .i64 k.t,.int .i64 k.q,.bool k.f,.slice au k.s.length cu,.slice ax k.x.length cx] 57)).alloc (.cells #[.bool false] 4)).alloc (.cells #[.slice au k.s.length cu] 34)) b off k.s:=hI.imp id (fun⟨off,e,h⟩=>⟨off,e,h.below hB0 h.1⟩)
 refine wpIn_rangeFunc_ownH rfl (by omega) (gf:=200) (lb:= #[.pointer (some ⟨w.heap.size+2,0,none⟩)]) rfl trivial (enters_of Tryz.func200 (by kernel_rfl) rfl)
  (yea Fence.wide 4 trivial rfl (by omega) (w.heap.size+2) b au cu k.s hsl _ (by simp) cS.cell hI0) Same2.trans (Same2.putObj (by simp) (by simp;omega)) (Below.refl _ _) (fun _=>rfl)
  (fun pre W=>((∀x∈pre,suB k.m (evAt k.s x.val)=true)∧W.cell? ⟨w.heap.size+1,0,none⟩=some (.bool false)∧W.frozen? ⟨w.heap.size+1,0,none⟩=false)∧Below (w.heap.size+3) (((w.alloc (.cells #[.int .i64 k.m.n,.int .i64 k.m.s,.slice ai k.m.i.length ci,.slice ah k.m.h.length ch,.slice ae k.m.e.length ce,.int .i64 k.m.z,.slice ad k.d.length cd,.slice ap k.p.length cp,.slice ab k.b.length cb,.int .i64 k.t,.int .i64 k.q,.bool k.f,.slice au k.s.length cu,.slice ax k.x.length cx] 57)).alloc (.cells #[.bool false] 4)).alloc (.cells #[.slice au k.s.length cu] 34)) W)
  (fun c pre W=>(c= .ret∧(∃x:Fin k.s.length,suB k.m (evAt k.s x.val)=false)∧W.cell? ⟨w.heap.size+1,0,none⟩=some (.bool false))∧Below w.heap.size w W)
  (OwnFrom.and (Own.from (fun s A B row hs hg hr=>⟨hs.1,cell_kept hs.2.1 hg hr,(frozen_kept hs.2.1 hg hr).trans hs.2.2⟩) _) (ownFrom_below (by simp) (by simp)))
  (fun c=>OwnFrom.and (Own.from (fun s A B row hs hg hr=>⟨hs.1,hs.2.1,cell_kept hs.2.2 hg hr⟩) _) (ownFrom_below (Nat.le_refl _) (by simp;omega)))
  ⟨⟨by simp,cR.cell,cR.frozen⟩,Below.refl _ _⟩
  (fun x a' W=>∃Bx,w.heap.size+3≤Bx∧Bx<W.heap.size∧Ev.In W Bx 0 (evAt k.s x.val)∧a'= {tmps:= #[.agg #[.int .i64 k.m.n,.int .i64 k.m.s,.slice ai k.m.i.length ci,.slice ah k.m.h.length ch,.slice ae k.m.e.length ce,.int .i64 k.m.z,.slice ad k.d.length cd,.slice ap k.p.length cp,.slice ab k.b.length cb,.int .i64 k.t,.int .i64 k.q,.bool k.f,.slice au k.s.length cu,.slice ax k.x.length cx],.pointer (some ⟨w.heap.size,0,none⟩),.pointer (some ⟨w.heap.size+1,0,none⟩),undef,.pointer (some ⟨Bx,0,none⟩),.pointer (some ⟨w.heap.size,12,none⟩),.slice au k.s.length cu,.func (.func 200) #[] #[.pointer (some ⟨w.heap.size+2,0,none⟩)],.int .i64 ((x.val:Nat):Int),(evAt k.s x.val).val,undef,undef,undef,undef,undef,undef,undef,undef,undef,undef,undef,undef,undef,undef,undef,undef,undef,undef,undef,undef,undef,undef],defers:= []})
  (fun x a' s A B row hs hg hr=>by obtain⟨Bx,h1,h2,h3,h4⟩:=hs;exact⟨Bx,h1,Nat.lt_of_lt_of_le h2 hg.size,h3.kept hg (fun r e=>(hr r e).2),h4⟩) ?assign ?body ?done ?stop
 case assign=>
  rintro lp pre x W K ⟨⟨hp,hc,hf⟩,hB⟩ hK
  gi_wp2
  have hz:w.heap.size+2<W.heap.size:=by have:=hB.size;simp at this;omega
  have hBW:Below W.heap.size W (W.alloc (.cells #[.int .i64 (evAt k.s x.val).t,.int .i64 (evAt k.s x.val).s,.int .i64 (evAt k.s x.val).q,.int .i64 (evAt k.s x.val).d,.int .i64 (evAt k.s x.val).k,.int .i64 (evAt k.s x.val).v,.int .i64 (evAt k.s x.val).g] 110)):=(Below.refl _ W).alloc (Nat.le_refl _) _
  exact hK _ _ ((KeepsOthers.alloc _ _).from _) (Same2.below hBW hz (by omega)) ⟨⟨hp,(hBW.cell (p:=⟨w.heap.size+1,0,none⟩) (by simp;omega)).trans hc,(hBW.frozen (p:=⟨w.heap.size+1,0,none⟩) (by simp;omega)).trans hf⟩,hB.trans (hBW.mono (by omega))⟩ ⟨W.heap.size,by omega,by simp,EvAt.new _ _ _ _ _ _ _ _ _,rfl⟩
 case body=>
  rintro lp pre x a' W hlp _ ⟨⟨hp,hc,hf⟩,hB⟩ ⟨Bx,h1,h2,h3,rfl⟩ hlt
  have hz:w.heap.size+2<W.heap.size:=by have:=hB.size;simp at this;omega
  obtain⟨f0,f1,f2,f3,f4,f5,f6⟩:=h3.lits
  have HP:Hid (∀x∈pre,suB k.m (evAt k.s x.val)=true):=hp
  have HB:Hid (Below (w.heap.size+3) (((w.alloc (.cells #[.int .i64 k.m.n,.int .i64 k.m.s,.slice ai k.m.i.length ci,.slice ah k.m.h.length ch,.slice ae k.m.e.length ce,.int .i64 k.m.z,.slice ad k.d.length cd,.slice ap k.p.length cp,.slice ab k.b.length cb,.int .i64 k.t,.int .i64 k.q,.bool k.f,.slice au k.s.length cu,.slice ax k.x.length cx] 57)).alloc (.cells #[.bool false] 4)).alloc (.cells #[.slice au k.s.length cu] 34)) W):=hB
  have HB0:=yeh hB0
  have HBW:Hid (Below w.heap.size w W):=hB0.trans (hB.mono (by omega))
  have HKW:Hid (Bk W w.heap.size 57 #[.int .i64 k.m.n,.int .i64 k.m.s,.slice ai k.m.i.length ci,.slice ah k.m.h.length ch,.slice ae k.m.e.length ce,.int .i64 k.m.z,.slice ad k.d.length cd,.slice ap k.p.length cp,.slice ab k.b.length cb,.int .i64 k.t,.int .i64 k.q,.bool k.f,.slice au k.s.length cu,.slice ax k.x.length cx]):=(hB.block w.heap.size (by omega)).trans cK
  have HEW:=yeh h3
  clear hp hB h3 cR cS hI hB0 cK hI0
  generalize (((w.alloc (.cells #[.int .i64 k.m.n,.int .i64 k.m.s,.slice ai k.m.i.length ci,.slice ah k.m.h.length ch,.slice ae k.m.e.length ce,.int .i64 k.m.z,.slice ad k.d.length cd,.slice ap k.p.length cp,.slice ab k.b.length cb,.int .i64 k.t,.int .i64 k.q,.bool k.f,.slice au k.s.length cu,.slice ax k.x.length cx] 57)).alloc (.cells #[.bool false] 4)).alloc (.cells #[.slice au k.s.length cu] 34))=W9 at HB HB0
  cases hok:(evAt k.s x.val).ok
  ·have K1:Hid ((evAt k.s x.val).ok=false):=hok
   clear hok
   gi_wp2_with (refine⟨trivial,?_⟩;gi_at_call 164;refine(CallsIn.inRound lp (callsIn_wide.2 (yg3 (evAt k.s x.val) false K1.out _))).mono ?_;rintro e w2 ⟨rfl,hb2⟩;have hc2:=(hb2.cell (p:=⟨w.heap.size+1,0,none⟩) (by simp;omega)).trans hc;have hf2:=(hb2.frozen (p:=⟨w.heap.size+1,0,none⟩) (by simp;omega)).trans hf)
   refine⟨trivial,?_⟩
   gi_wp2
   exact⟨((ya6 hb2).trans (KeepsOthers.setCell _ _ _)).from _,⟨rfl,⟨x,by unfold suB evIn;rw [K1.out];rfl⟩,World.cell?_setCell_same' _ _ _ (by rw [hc2];rfl)⟩,(HBW.out.trans (Below.mono hb2 (by omega))).setCell (p:=⟨w.heap.size+1,0,none⟩) (by simp) _⟩
  ·have K1:Hid ((evAt k.s x.val).ok=true):=hok
   clear hok
   cases hfi:fitB k.m (evAt k.s x.val).t (evAt k.s x.val).d (evAt k.s x.val).k
   ·have K2:Hid (fitB k.m (evAt k.s x.val).t (evAt k.s x.val).d (evAt k.s x.val).k=false):=hfi
    clear hfi
    gi_wp2_with (first|(refine⟨trivial,?_⟩;gi_at_call 164;refine(CallsIn.inRound lp (callsIn_wide.2 (yg3 (evAt k.s x.val) true K1.out _))).mono ?_;rintro e w2 ⟨rfl,hb2⟩;have hc2:=(hb2.cell (p:=⟨w.heap.size+1,0,none⟩) (by simp;omega)).trans hc;have hf2:=(hb2.frozen (p:=⟨w.heap.size+1,0,none⟩) (by simp;omega)).trans hf;have k0:=(HKW.out.below hb2).cell (i:=0) rfl;have k1:=(HKW.out.below hb2).cell (i:=1) rfl;have k2:=(HKW.out.below hb2).cell (i:=2) rfl;have k3:=(HKW.out.below hb2).cell (i:=3) rfl;have k4:=(HKW.out.below hb2).cell (i:=4) rfl;have k5:=(HKW.out.below hb2).cell (i:=5) rfl;obtain⟨u0,u1,u2,u3,u4,u5,u6⟩:=(HEW.out.below hb2 h2).lits)|(refine⟨trivial,?_⟩;gi_at_call 165;refine(CallsIn.inRound lp (callsIn_wide.2 (ygl _ k.m (evAt k.s x.val) false K2.out _ (HM.out.below (trm HBW.out hb2))))).mono ?_;rintro e w5 ⟨rfl,hb5⟩;have hc5:=(hb5.cell (p:=⟨w.heap.size+1,0,none⟩) (by have:=hb2.size;simp;omega)).trans hc2;have hf5:=(hb5.frozen (p:=⟨w.heap.size+1,0,none⟩) (by have:=hb2.size;simp;omega)).trans hf2))
    exact⟨((ya6 (trm hb2 hb5)).trans (KeepsOthers.setCell _ _ _)).from _,⟨rfl,⟨x,by unfold suB evIn;rw [K1.out,K2.out];rfl⟩,World.cell?_setCell_same' _ _ _ (by rw [hc5];rfl)⟩,(HBW.out.trans (Below.mono (trm hb2 hb5) (by omega))).setCell (p:=⟨w.heap.size+1,0,none⟩) (by simp) _⟩
   ·have K2:Hid (fitB k.m (evAt k.s x.val).t (evAt k.s x.val).d (evAt k.s x.val).k=true):=hfi
    clear hfi
    by_cases hg:(evAt k.s x.val).g=0
    case neg=>
     have hg':((evAt k.s x.val).g !=0)=true:=by simpa using hg
     have K3:Hid (decide ((evAt k.s x.val).g=0)=false):=decide_eq_false hg
     clear hg
     gi_wp2_with (first|(refine⟨trivial,?_⟩;gi_at_call 164;refine(CallsIn.inRound lp (callsIn_wide.2 (yg3 (evAt k.s x.val) true K1.out _))).mono ?_;rintro e w2 ⟨rfl,hb2⟩;have hc2:=(hb2.cell (p:=⟨w.heap.size+1,0,none⟩) (by simp;omega)).trans hc;have hf2:=(hb2.frozen (p:=⟨w.heap.size+1,0,none⟩) (by simp;omega)).trans hf;have k0:=(HKW.out.below hb2).cell (i:=0) rfl;have k1:=(HKW.out.below hb2).cell (i:=1) rfl;have k2:=(HKW.out.below hb2).cell (i:=2) rfl;have k3:=(HKW.out.below hb2).cell (i:=3) rfl;have k4:=(HKW.out.below hb2).cell (i:=4) rfl;have k5:=(HKW.out.below hb2).cell (i:=5) rfl;obtain⟨u0,u1,u2,u3,u4,u5,u6⟩:=(HEW.out.below hb2 h2).lits)|(refine⟨trivial,?_⟩;gi_at_call 165;refine(CallsIn.inRound lp (callsIn_wide.2 (ygl _ k.m (evAt k.s x.val) true K2.out _ (HM.out.below (trm HBW.out hb2))))).mono ?_;rintro e w5 ⟨rfl,hb5⟩;have hc5:=(hb5.cell (p:=⟨w.heap.size+1,0,none⟩) (by have:=hb2.size;simp;omega)).trans hc2;have hf5:=(hb5.frozen (p:=⟨w.heap.size+1,0,none⟩) (by have:=hb2.size;simp;omega)).trans hf2;obtain⟨t0,t1,t2,t3,t4,t5,t6⟩:=(HEW.out.below (trm hb2 hb5) h2).lits))
     exact⟨((ya6 (trm hb2 hb5)).trans (KeepsOthers.setCell _ _ _)).from _,⟨rfl,⟨x,by unfold suB;rw [K3.out,Bool.and_false]⟩,World.cell?_setCell_same' _ _ _ (by rw [hc5];rfl)⟩,(HBW.out.trans (Below.mono (trm hb2 hb5) (by omega))).setCell (p:=⟨w.heap.size+1,0,none⟩) (by simp) _⟩
    have hg':((evAt k.s x.val).g !=0)=false:=by simpa using hg
    have K3:Hid ((evAt k.s x.val).g=0):=hg
    clear hg
    gi_wp2_with (first|(refine⟨trivial,?_⟩;gi_at_call 164;refine(CallsIn.inRound lp (callsIn_wide.2 (yg3 (evAt k.s x.val) true K1.out _))).mono ?_;rintro e w2 ⟨rfl,hb2⟩;have hc2:=(hb2.cell (p:=⟨w.heap.size+1,0,none⟩) (by simp;omega)).trans hc;have hf2:=(hb2.frozen (p:=⟨w.heap.size+1,0,none⟩) (by simp;omega)).trans hf;have k0:=(HKW.out.below hb2).cell (i:=0) rfl;have k1:=(HKW.out.below hb2).cell (i:=1) rfl;have k2:=(HKW.out.below hb2).cell (i:=2) rfl;have k3:=(HKW.out.below hb2).cell (i:=3) rfl;have k4:=(HKW.out.below hb2).cell (i:=4) rfl;have k5:=(HKW.out.below hb2).cell (i:=5) rfl;obtain⟨u0,u1,u2,u3,u4,u5,u6⟩:=(HEW.out.below hb2 h2).lits)|(refine⟨trivial,?_⟩;gi_at_call 165;refine(CallsIn.inRound lp (callsIn_wide.2 (ygl _ k.m (evAt k.s x.val) true K2.out _ (HM.out.below (trm HBW.out hb2))))).mono ?_;rintro e w5 ⟨rfl,hb5⟩;have hc5:=(hb5.cell (p:=⟨w.heap.size+1,0,none⟩) (by have:=hb2.size;simp;omega)).trans hc2;have hf5:=(hb5.frozen (p:=⟨w.heap.size+1,0,none⟩) (by have:=hb2.size;simp;omega)).trans hf2;obtain⟨t0,t1,t2,t3,t4,t5,t6⟩:=(HEW.out.below (trm hb2 hb5) h2).lits))
    exact⟨(ya6 (trm hb2 hb5)).from _,Same2.below (trm hb2 hb5) hz (by omega),⟨fun y hy=>(List.mem_append.1 hy).elim (HP.out y) (fun e=>by simp at e;subst e;exact suB_iff.2 ⟨K1.out,K2.out,K3.out⟩),hc5,hf5⟩,HB.out.trans (Below.mono (trm hb2 hb5) (by omega))⟩
 case done=>
  rintro D ys W hD rfl ⟨⟨hp,hc,hf⟩,hB⟩ hK
  have HP:Hid (∀i,i<k.s.length→suB k.m (evAt k.s i)=true):=fun i hi=>hp ⟨i,hi⟩ (List.mem_finRange _)
  have HBW:Hid (Below w.heap.size w W):=hB0.trans (hB.mono (by omega))
  have HKW:Hid (Bk W w.heap.size 57 #[.int .i64 k.m.n,.int .i64 k.m.s,.slice ai k.m.i.length ci,.slice ah k.m.h.length ch,.slice ae k.m.e.length ce,.int .i64 k.m.z,.slice ad k.d.length cd,.slice ap k.p.length cp,.slice ab k.b.length cb,.int .i64 k.t,.int .i64 k.q,.bool k.f,.slice au k.s.length cu,.slice ax k.x.length cx]):=(hB.block w.heap.size (by omega)).trans cK
  have HSW:=yeh (HSUI.out.below HBW.out)
  have hz:w.heap.size+2<W.heap.size:=by have:=hB.size;simp at this;omega
  have hz0:0<W.heap.size:=by omega
  have hD9:w.heap.size≤D:=by simp at hD;omega
  have q12:=HKW.out.cell (i:=12) rfl
  clear hp hB cR cS hI hB0 cK hI0 hD
  by_cases hord:∀i,i<k.s.length-1→(evAt k.s i).ecmp (evAt k.s (i+1))= -1
  case neg=>
   have HO:Hid (false=true↔ ∀i,i<k.s.length-1→(evAt k.s i).ecmp (evAt k.s (i+1))= -1):=⟨fun e=>(by cases e),fun e=>(hord e).elim⟩
   have HN:Hid (yhj k=false):=yac (fun h=>hord (sureIB_iff.1 h).2.1)
   clear hord
   gi_wp2_with (refine⟨trivial,?_⟩;gi_at_call 166;refine(callsIn_wide.2 (yib au cu k.s false HO.out _ hsl hz0 HSW.out)).mono ?_;rintro e w2 ⟨rfl,hb2⟩;have hc2:=(hb2.cell (p:=⟨w.heap.size+1,0,none⟩) (by simp;omega)).trans hc;have hf2:=(hb2.frozen (p:=⟨w.heap.size+1,0,none⟩) (by simp;omega)).trans hf;have HB2:=hdq (trm HBW.out hb2);have hs2:W.heap.size≤w2.heap.size:=hb2.size)
   refine⟨trivial,?_⟩
   gi_wp2
   have hK':=((ya6 hb2).trans (KeepsOthers.setCell _ ⟨w.heap.size+1,0,none⟩ (.bool false))).same D _ hK rfl
   refine⟨by simp,.inl ⟨_,_,rfl,run_takeDeferred hK',?_⟩⟩
   have hc9:=cell_kept (World.cell?_setCell_same' _ ⟨w.heap.size+1,0,none⟩ (.bool false) (by rw [hc2];rfl)) (grownBy_putObj' _ D (.deferred none)) (fun r e=>by cases e;exact⟨_,hK',rfl⟩)
   refine⟨.bool false,?_,ya0 HN.out.symm,(HB2.out.setCell (p:=⟨w.heap.size+1,0,none⟩) (by simp) _).trans (belowK_b (w:=w) (Nat.le_refl _) _ D _ _ (by omega) hK' rfl rfl)⟩
   simp [results,Tryz.f117,go_sem,hc9]
  have HO:Hid (true=true↔ ∀i,i<k.s.length-1→(evAt k.s i).ecmp (evAt k.s (i+1))= -1):=⟨fun _=>hord,fun _=>rfl⟩
  clear hord
  cases hab:yfu k
  ·have HAB:Hid (yfu k=false):=hab
   have HN:Hid (yhj k=false):=yac (fun h=>by have h1:=aheadB_iff.2 (sureIB_iff.1 h).2.2;rw [hab]at h1;cases h1)
   clear hab
   gi_wp2_with (first|(refine⟨trivial,?_⟩;gi_at_call 166;refine(callsIn_wide.2 (yib au cu k.s true HO.out _ hsl hz0 HSW.out)).mono ?_;rintro e w2 ⟨rfl,hb2⟩;have hc2:=(hb2.cell (p:=⟨w.heap.size+1,0,none⟩) (by simp;omega)).trans hc;have hf2:=(hb2.frozen (p:=⟨w.heap.size+1,0,none⟩) (by simp;omega)).trans hf;have HB2:=hdq (trm HBW.out hb2);have hs2:W.heap.size≤w2.heap.size:=hb2.size;have k0:=(HKW.out.below hb2).cell (i:=0) rfl;have k1:=(HKW.out.below hb2).cell (i:=1) rfl;have k2:=(HKW.out.below hb2).cell (i:=2) rfl;have k3:=(HKW.out.below hb2).cell (i:=3) rfl;have k4:=(HKW.out.below hb2).cell (i:=4) rfl;have k5:=(HKW.out.below hb2).cell (i:=5) rfl;have k6:=(HKW.out.below hb2).cell (i:=6) rfl;have k7:=(HKW.out.below hb2).cell (i:=7) rfl;have k8:=(HKW.out.below hb2).cell (i:=8) rfl;have k9:=(HKW.out.below hb2).cell (i:=9) rfl;have k10:=(HKW.out.below hb2).cell (i:=10) rfl;have k11:=(HKW.out.below hb2).cell (i:=11) rfl;have k12:=(HKW.out.below hb2).cell (i:=12) rfl;have k13:=(HKW.out.below hb2).cell (i:=13) rfl)|(refine⟨trivial,?_⟩;gi_at_call 167;refine(callsIn_wide.2 (ync _ k false HAB.out _ HSK.out HOK.out (HK.out.under HB2.out))).mono ?_;rintro e w5 ⟨rfl,hb5⟩;have hc5:=(hb5.cell (p:=⟨w.heap.size+1,0,none⟩) (by simp;omega)).trans hc2;have hf5:=(hb5.frozen (p:=⟨w.heap.size+1,0,none⟩) (by simp;omega)).trans hf2;have HB5:=hdq (trm HB2.out hb5)))
   have hK':=(((ya6 hb2).trans (ya6 hb5)).trans (KeepsOthers.setCell _ ⟨w.heap.size+1,0,none⟩ (.bool false))).same D _ hK rfl
   refine⟨by simp,.inl ⟨_,_,rfl,run_takeDeferred hK',?_⟩⟩
   have hc9:=cell_kept (World.cell?_setCell_same' _ ⟨w.heap.size+1,0,none⟩ (.bool false) (by rw [hc5];rfl)) (grownBy_putObj' _ D (.deferred none)) (fun r e=>by cases e;exact⟨_,hK',rfl⟩)
   refine⟨.bool false,?_,ya0 HN.out.symm,(HB5.out.setCell (p:=⟨w.heap.size+1,0,none⟩) (by simp) _).trans (belowK_b (w:=w) (Nat.le_refl _) _ D _ _ (by omega) hK' rfl rfl)⟩
   simp [results,Tryz.f117,go_sem,hc9]
  ·have HAB:Hid (yfu k=true):=hab
   have HY:Hid (yhj k=true):=sureIB_iff.2 ⟨fun i hi=>suB_two.1 (HP.out i hi),HO.out.1 rfl,aheadB_iff.1 hab⟩
   clear hab
   gi_wp2_with (first|(refine⟨trivial,?_⟩;gi_at_call 166;refine(callsIn_wide.2 (yib au cu k.s true HO.out _ hsl hz0 HSW.out)).mono ?_;rintro e w2 ⟨rfl,hb2⟩;have hc2:=(hb2.cell (p:=⟨w.heap.size+1,0,none⟩) (by simp;omega)).trans hc;have hf2:=(hb2.frozen (p:=⟨w.heap.size+1,0,none⟩) (by simp;omega)).trans hf;have HB2:=hdq (trm HBW.out hb2);have hs2:W.heap.size≤w2.heap.size:=hb2.size;have k0:=(HKW.out.below hb2).cell (i:=0) rfl;have k1:=(HKW.out.below hb2).cell (i:=1) rfl;have k2:=(HKW.out.below hb2).cell (i:=2) rfl;have k3:=(HKW.out.below hb2).cell (i:=3) rfl;have k4:=(HKW.out.below hb2).cell (i:=4) rfl;have k5:=(HKW.out.below hb2).cell (i:=5) rfl;have k6:=(HKW.out.below hb2).cell (i:=6) rfl;have k7:=(HKW.out.below hb2).cell (i:=7) rfl;have k8:=(HKW.out.below hb2).cell (i:=8) rfl;have k9:=(HKW.out.below hb2).cell (i:=9) rfl;have k10:=(HKW.out.below hb2).cell (i:=10) rfl;have k11:=(HKW.out.below hb2).cell (i:=11) rfl;have k12:=(HKW.out.below hb2).cell (i:=12) rfl;have k13:=(HKW.out.below hb2).cell (i:=13) rfl)|(refine⟨trivial,?_⟩;gi_at_call 167;refine(callsIn_wide.2 (ync _ k true HAB.out _ HSK.out HOK.out (HK.out.under HB2.out))).mono ?_;rintro e w5 ⟨rfl,hb5⟩;have hc5:=(hb5.cell (p:=⟨w.heap.size+1,0,none⟩) (by simp;omega)).trans hc2;have hf5:=(hb5.frozen (p:=⟨w.heap.size+1,0,none⟩) (by simp;omega)).trans hf2;have HB5:=hdq (trm HB2.out hb5)))
   have hK':=(((ya6 hb2).trans (ya6 hb5)).trans (KeepsOthers.setCell _ ⟨w.heap.size+1,0,none⟩ (.bool true))).same D _ hK rfl
   refine⟨by simp,.inl ⟨_,_,rfl,run_takeDeferred hK',?_⟩⟩
   have hc9:=cell_kept (World.cell?_setCell_same' _ ⟨w.heap.size+1,0,none⟩ (.bool true) (by rw [hc5];rfl)) (grownBy_putObj' _ D (.deferred none)) (fun r e=>by cases e;exact⟨_,hK',rfl⟩)
   refine⟨.bool true,?_,ya0 HY.out.symm,(HB5.out.setCell (p:=⟨w.heap.size+1,0,none⟩) (by simp) _).trans (belowK_b (w:=w) (Nat.le_refl _) _ D _ _ (by omega) hK' rfl rfl)⟩
   simp [results,Tryz.f117,go_sem,hc9]
 case stop=>
  rintro D c pre W hD _ ⟨⟨rfl,⟨x,hx⟩,hc⟩,hB⟩ hK
  have HX:=yeh hx
  have HN:Hid (yhj k=false):=yac (fun h=>by have h1:=suB_two.2 ((sureIB_iff.1 h).1 x.val x.isLt);rw [hx]at h1;cases h1)
  clear hx
  gi_wp2
  refine⟨by simp,.inl ⟨_,_,rfl,run_takeDeferred hK,?_⟩⟩
  have hc5:=cell_kept hc (grownBy_putObj' _ D (.deferred none)) (fun r e=>by cases e;exact⟨_,hK,rfl⟩)
  refine⟨.bool false,?_,ya0 HN.out.symm,hB.trans (belowK_b (w:=w) (Nat.le_refl _) W D _ _ (by simp at hD;omega) hK rfl rfl)⟩
  simp [results,Tryz.f117,go_sem,hc5]
end Go.Proofs.YtmobiieoecjmdaaGreat

namespace Go.Proofs.YtmobiieoecjmdaaGreat
open Go.RowKit
set_option maxHeartbeats 400000 in
theorem iVok_any (x:Value) (l:List Int) (w:World) (hl:l.length≤4611686018427387904) (h:IsI w x l):
  Calls Tryz.prog 111 #[x] w fun e w'=>e= .returned (.bool (vok l))∧Below w.heap.size w w':=by
 have H:=yn1 x l w hl h
 generalize vok l=b at H⊢
 unfold ygr at H
 split at H
 all_goals
  go_enter Tryz.func111,Tryz.ntmps111
  go_wp2_with (go_at_call 129;refine H.mono ?_;rintro e w1 ⟨rfl,hb⟩)
  go_ret
  exact⟨rfl,hb.alloc hb.size _⟩
end Go.Proofs.YtmobiieoecjmdaaGreat

