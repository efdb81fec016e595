/- PIm, PIr, PIs, Open, Key, Places, PlacesM -/
import Derived.Test.YtmobiieoecjmdaaGreatExactAnswersG08
import Derived.ProofKit
import Derived.ChangeOld
import Derived.OpenShut
import Derived.DeepKeys4
import Derived.Maps.OwnIn
namespace Go.Proofs.YtmobiieoecjmdaaGreat
set_option maxHeartbeats 4000000
open Go.RowKit
theorem yq0 {p:Prop} (h:p):Hid p:=h
def emsC (l:List Em):Bool:=(List.range l.length).all fun i=>(xAt l i).okB
theorem yv9 (l:List Em):emsB l=(decide (l.length≤8)&&emsC l):=rfl
theorem iEmits (x:Value) (l:List Em) (w:World) (hl:l.length≤1048576) (h:IsX w x l):
  Calls Tryz.prog 118 #[x] w fun e w'=>e= .returned (.bool (emsC l))∧Below w.heap.size w w':=by
 obtain⟨a,cap,rfl,h1,h2,h⟩:=h
 clear h1 h2
 go_enter Tryz.func118,Tryz.ntmps118
 go_wp2
 go_loopw [7] (fun i wr=>∃k:Nat,k≤l.length∧i= .int .i64 k∧Hid (∀j,j<k→(xAt l j).okB=true)∧Below w.heap.size w wr) (fun i _=>l.length-(intOf i).toNat)
 case atStart=>exact⟨0,Nat.zero_le _,rfl,fun j hj=>by omega,Below.refl _ _⟩
 case round=>
  obtain⟨k,hk,rfl,HA,hB⟩:=hrel
  have HB:=yq0 hB
  by_cases hlt:k<l.length
  ·obtain⟨b,off,rfl,hb,hc⟩:=h.resolve_left (by intro e;subst e;simp at hlt)
   obtain⟨f0,f1,f2⟩:=(hc k hlt).below hB hb
   clear hc h hB
   have HNO:Hid ((xAt l k).okB=false→emsC l=false):=fun h=>by unfold emsC;rw [yqk hlt h]
   have HDEF:Hid ((xAt l k).okB=decide (0≤(xAt l k).t∧(xAt l k).t≤1000∧0≤(xAt l k).l∧(xAt l k).l≤3∧0≤(xAt l k).v∧(xAt l k).v≤999)):=rfl
   generalize (xAt l k).t=et at f0 HDEF
   generalize (xAt l k).l=el at f1 HDEF
   generalize (xAt l k).v=ev at f2 HDEF
   obtain⟨W1,hW1⟩:∃W1,wr.alloc (.cells #[.int .i64 et,.int .i64 el,.int .i64 ev] 113)=W1:=⟨_,rfl⟩
   have HB1:Hid (Below w.heap.size w W1):=by rw [←hW1];exact HB.out.alloc HB.out.size _
   have HX:=hdq (bkA hW1)
   obtain⟨x0,x1,x2⟩:=c3_3 HX.out
   go_wp2_with fail
   refine(yad _ _ _ _).mono ?_
   rintro e w2 ⟨rfl,hw⟩
   have hw':=hw.symm
   clear hw
   subst hw'
   clear hW1 f0 f1 f2
   by_cases c0:0≤et∧et≤1000
   case neg=>
    rw [show(decide (0≤et)&&decide (et≤1000))=false from by rw [←Bool.decide_and];exact decide_eq_false c0]
    have HN:Hid (emsC l=false):=HNO.out (by rw [HDEF.out];exact decide_eq_false (by omega))
    clear c0
    go_wp2
    go_ret
    exact⟨ya0 HN.out.symm,HB1.out⟩
   rw [show(decide (0≤et)&&decide (et≤1000))=true from by rw [←Bool.decide_and];exact decide_eq_true c0]
   have C0:Hid (0≤et∧et≤1000):=c0
   clear c0
   go_wp2_with fail
   refine(yad _ _ _ _).mono ?_
   rintro e w2 ⟨rfl,hw⟩
   have hw':=hw.symm
   clear hw
   subst hw'
   by_cases c1:0≤el∧el≤3
   case neg=>
    rw [show(decide (0≤el)&&decide (el≤3))=false from by rw [←Bool.decide_and];exact decide_eq_false c1]
    have HN:Hid (emsC l=false):=HNO.out (by rw [HDEF.out];exact decide_eq_false (by omega))
    clear c1
    go_wp2
    go_ret
    exact⟨ya0 HN.out.symm,HB1.out⟩
   rw [show(decide (0≤el)&&decide (el≤3))=true from by rw [←Bool.decide_and];exact decide_eq_true c1]
   have C1:Hid (0≤el∧el≤3):=c1
   clear c1
   go_wp2_with fail
   refine(yad _ _ _ _).mono ?_
   rintro e w2 ⟨rfl,hw⟩
   have hw':=hw.symm
   clear hw
   subst hw'
   by_cases c2:0≤ev∧ev≤999
   case neg=>
    rw [show(decide (0≤ev)&&decide (ev≤999))=false from by rw [←Bool.decide_and];exact decide_eq_false c2]
    have HN:Hid (emsC l=false):=HNO.out (by rw [HDEF.out];exact decide_eq_false (by omega))
    clear c2
    go_wp2
    go_ret
    exact⟨ya0 HN.out.symm,HB1.out⟩
   rw [show(decide (0≤ev)&&decide (ev≤999))=true from by rw [←Bool.decide_and];exact decide_eq_true c2]
   have C2:Hid (0≤ev∧ev≤999):=c2
   clear c2
   have HY:Hid ((xAt l k).okB=true):=by rw [HDEF.out];exact decide_eq_true ⟨C0.out.1,C0.out.2,C1.out.1,C1.out.2,C2.out.1,C2.out.2⟩
   go_wp2
   go_roundw
   case rel=>exact⟨k+1,by omega,by go_num,fun j hj=>by
    by_cases e:j=k
    ·subst e;exact HY.out
    ·exact HA.out j (by omega),HB1.out⟩
   case measure=>simp [intOf];omega
  ·have HYES:Hid (emsC l=true):=by
    show emsC l=true
    unfold emsC
    rw [ym7 (fun j hj=>HA.out j (by omega))]
   clear h hB
   go_wp2
   go_ret
   exact⟨ya0 HYES.out.symm,HB.out⟩
theorem iAntis (x:Value) (l:List Int) (w:World) (hl:l.length≤1048576) (h:IsI w x l):
  Calls Tryz.prog 197 #[x] w fun e w'=>Says e (Asc l)∧Below w.heap.size w w':=by
 obtain⟨a,cap,rfl,h1,h2,h⟩:=h
 clear h1 h2
 go_enter Tryz.func197,Tryz.ntmps197
 go_wp2
 go_loop [7] (fun i=>∃k:Nat,k≤l.length∧i= .int .i64 k∧Hid (∀j,j<k→Asc1 l j)) (fun i=>l.length-(intOf i).toNat)
 case atStart=>exact⟨0,Nat.zero_le _,rfl,fun j hj=>by omega⟩
 case round=>
  obtain⟨k,hk,rfl,HA⟩:=hrel
  by_cases hlt:k<l.length
  ·obtain⟨b,off,rfl,hb,hc⟩:=h.resolve_left (by intro e;subst e;simp at hlt)
   have f0:=hc k hlt
   have HC:=yq0 hc
   clear hc h
   have hki:(k:Int)<(l.length:Int):=by omega
   obtain⟨v,hv⟩:∃v,v=intAt l k:=⟨_,rfl⟩
   have HV:Hid (v=intAt l k):=hv
   rw [←hv]at f0
   clear hv
   go_wp2_with fail
   refine(yad _ _ _ _).mono ?_
   rintro e w2 ⟨rfl,hw⟩
   have hw':=hw.symm
   clear hw
   subst hw'
   by_cases c0:0≤v∧v≤100000
   case neg=>
    rw [show(decide (0≤v)&&decide (v≤100000))=false from by rw [←Bool.decide_and];exact decide_eq_false c0]
    have HN:=yq0 c0
    clear c0
    go_wp2
    go_ret
    exact⟨Says.no (fun h=>HN.out (by rw [HV.out];exact⟨(h k hlt).1,(h k hlt).2.1⟩)),Below.refl _ _⟩
   rw [show(decide (0≤v)&&decide (v≤100000))=true from by rw [←Bool.decide_and];exact decide_eq_true c0]
   have C0:Hid (0≤v∧v≤100000):=c0
   clear c0
   by_cases k0:k=0
   ·have hd:decide (0<k)=false:=decide_eq_false (by omega)
    have hd2:¬(0:Int)<(k:Int):=by omega
    have HK:Hid (k=0):=k0
    clear k0
    go_wp2
    go_round
    case rel=>exact⟨k+1,by omega,by go_num,fun j hj=>by
     by_cases e:j=k
     ·subst e;exact⟨by rw [←HV.out];exact C0.out.1,by rw [←HV.out];exact C0.out.2,fun h0=>absurd h0 (by have:=HK.out;omega)⟩
     ·exact HA.out j (by omega)⟩
    case measure=>simp [intOf];omega
   have hd:decide (0<k)=true:=decide_eq_true (by omega)
   have hd2:(0:Int)<(k:Int):=by omega
   have hkp:(1:Int)≤(k:Int):=by omega
   have ek:((k:Int)-1).toNat=k-1:=by omega
   have g0:=HC.out (k-1) (by omega)
   obtain⟨u,hu⟩:∃u,u=intAt l (k-1):=⟨_,rfl⟩
   have HU:=yq0 hu
   rw [←hu]at g0
   have HK:Hid (¬k=0):=k0
   clear hu k0
   by_cases k3:v≤u
   ·go_wp2
    go_ret
    exact⟨Says.no (fun h=>by have:=(h k hlt).2.2 (by have:=HK.out;omega);rw [←HV.out,←HU.out]at this;omega),Below.refl _ _⟩
   ·go_wp2
    go_round
    case rel=>exact⟨k+1,by omega,by go_num,fun j hj=>by
     by_cases e:j=k
     ·subst e;exact⟨by rw [←HV.out];exact C0.out.1,by rw [←HV.out];exact C0.out.2,fun h0=>by rw [←HV.out,←HU.out];omega⟩
     ·exact HA.out j (by omega)⟩
    case measure=>simp [intOf];omega
  ·clear h
   go_wp2
   go_ret
   exact⟨Says.yes (fun j hj=>HA.out j (by omega)),Below.refl _ _⟩
end Go.Proofs.YtmobiieoecjmdaaGreat

namespace Go.Proofs.YtmobiieoecjmdaaGreat
open Go.RowKit Go.Shelf
theorem yju {p:Prop} (h:p):Hid p:=h
attribute [local go_sem] Oper.semAt_some
set_option maxRecDepth 100000 in
set_option maxHeartbeats 4000000 in
theorem ysm (a:Option Addr) (cap b:Nat) (l:List Ev) (lp:Int) (w:World) (hl:l.length≤1048576) (hI:l= []∨ ∃off,a=some ⟨b,off,none⟩∧EvsAt w b off l) (hb:b<w.heap.size):
  Calls Tryz.prog 217 #[.slice a l.length cap,.int .i64 lp] w fun e w'=>Says e (∀i,i<l.length→(evAt l i).d=lp)∧Below w.heap.size w w':=by
 refine(callsIn_wide (n:=5)).1 ?_
 refine callsIn_of_wp_marks Tryz.func217 rfl trivial ?_ rfl
 simp only [Tryz.ntmps217,List.size_toArray,List.length_cons,List.length_nil,Nat.reduceAdd,Nat.reduceSub,Array.replicate_succ,Array.replicate_zero,List.push_toArray,List.append_toArray,List.nil_append,List.cons_append]
 gi_wp2_with (refine⟨trivial,?_⟩;gi_at_call 163;refine(callsIn_wide.2 (ygn _ _ _ _)).mono ?_;rintro e w' ⟨rfl,rfl⟩)
 obtain⟨Wc,hWc⟩:∃Wc,(((w.alloc (.cells #[.int .i64 lp] 3)).alloc (.cells #[.bool false] 4)).alloc (.cells #[.slice a l.length cap] 34))=Wc:=⟨_,rfl⟩
 have hB0:Below w.heap.size w Wc:=by rw [←hWc];exact(((Below.refl _ w).alloc (Nat.le_refl _) _).alloc (by simp) _).alloc (by simp;omega) _
 have hsz:Wc.heap.size=w.heap.size+3:=by rw [←hWc];simp
 have cL:Bk Wc w.heap.size 3 #[.int .i64 lp]:=by rw [←hWc];exact((Bk.new w _ _).alloc _).alloc _
 have cR:Bk Wc (w.heap.size+1) 4 #[.bool false]:=by rw [←hWc];exact(Bk.newAt (by simp) _ _).alloc _
 have cS:Bk Wc (w.heap.size+2) 34 #[.slice a l.length cap]:=by rw [←hWc];exact Bk.newAt (by simp) _ _
 simp only [hWc,Nat.add_assoc,Nat.reduceAdd]
 refine wpIn_rangeFunc_ownH rfl (by omega) (gf:=200) (lb:= #[.pointer (some ⟨w.heap.size+2,0,none⟩)]) rfl trivial (enters_of Tryz.func200 (by kernel_rfl) rfl)
  (yea Fence.wide 4 trivial rfl (by omega) (w.heap.size+2) b a cap l hl _ (by omega) (cS.cell (i:=0) rfl) (hI.imp id (fun⟨off,e,h⟩=>⟨off,e,h.below hB0 hb⟩))) Same2.trans (Same2.putObj (by omega) (by omega)) (Below.refl _ _) (fun _=>rfl)
  (fun pre W=>((∀x∈pre,(evAt l x.val).d=lp)∧W.cell? ⟨w.heap.size+1,0,none⟩=some (.bool false)∧W.frozen? ⟨w.heap.size+1,0,none⟩=false∧W.cell? ⟨w.heap.size,0,none⟩=some (.int .i64 lp))∧Below (w.heap.size+3) Wc W)
  (fun c pre W=>(c= .ret∧(∃x:Fin l.length,(evAt l x.val).d≠lp)∧W.cell? ⟨w.heap.size+1,0,none⟩=some (.bool false))∧Below w.heap.size w W)
  (OwnFrom.and (Own.from (fun s A B row hs hg hr=>⟨hs.1,cell_kept hs.2.1 hg hr,(frozen_kept hs.2.1 hg hr).trans hs.2.2.1,cell_kept hs.2.2.2 hg hr⟩) _) (ownFrom_below (by omega) (by omega)))
  (fun c=>OwnFrom.and (Own.from (fun s A B row hs hg hr=>⟨hs.1,hs.2.1,cell_kept hs.2.2 hg hr⟩) _) (ownFrom_below (Nat.le_refl _) (by omega)))
  ⟨⟨by simp,cR.cell (i:=0) rfl,cR.free 0,cL.cell (i:=0) rfl⟩,by rw [←hsz];exact Below.refl _ _⟩
  (fun x a' W=>∃Bx,w.heap.size+3≤Bx∧Bx<W.heap.size∧Ev.In W Bx 0 (evAt l x.val)∧a'= {tmps:= #[.slice a l.length cap,.int .i64 lp,undef,.pointer (some ⟨w.heap.size,0,none⟩),.pointer (some ⟨w.heap.size+1,0,none⟩),undef,.pointer (some ⟨Bx,0,none⟩),.slice a l.length cap,.func (.func 200) #[] #[.pointer (some ⟨w.heap.size+2,0,none⟩)],.int .i64 ((x.val:Nat):Int),(evAt l x.val).val,undef,undef,undef,undef],defers:= []})
  (fun x a' s A B row hs hg hr=>by obtain⟨Bx,h1,h2,h3,h4⟩:=hs;exact⟨Bx,h1,Nat.lt_of_lt_of_le h2 hg.size,h3.kept hg (fun r e=>(hr r e).2),h4⟩) ?assign ?body ?done ?stop
 case assign=>
  rintro lp' pre x W K ⟨⟨hp,hc,hf,hc2⟩,hB⟩ hK
  gi_wp2
  have hz:w.heap.size+3≤W.heap.size:=by have:=hB.size;omega
  have hBW:Below W.heap.size W (W.alloc (.cells #[.int .i64 (evAt l x.val).t,.int .i64 (evAt l x.val).s,.int .i64 (evAt l x.val).q,.int .i64 (evAt l x.val).d,.int .i64 (evAt l x.val).k,.int .i64 (evAt l x.val).v,.int .i64 (evAt l x.val).g] 110)):=(Below.refl _ W).alloc (Nat.le_refl _) _
  exact hK _ _ ((KeepsOthers.alloc _ _).from _) (Same2.below hBW (by omega) (by omega)) ⟨⟨hp,(hBW.cell (p:=⟨w.heap.size+1,0,none⟩) (by simp;omega)).trans hc,(hBW.frozen (p:=⟨w.heap.size+1,0,none⟩) (by simp;omega)).trans hf,(hBW.cell (p:=⟨w.heap.size,0,none⟩) (by simp;omega)).trans hc2⟩,hB.trans (hBW.mono (by omega))⟩ ⟨W.heap.size,by omega,by simp,EvAt.new _ _ _ _ _ _ _ _ _,rfl⟩
 case body=>
  rintro lp' pre x a' W hlp _ ⟨⟨hp,hc,hf,hc2⟩,hB⟩ ⟨Bx,h1,h2,h3,rfl⟩ hlt
  have hz:w.heap.size+3≤W.heap.size:=by have:=hB.size;omega
  obtain⟨f0,f1,f2,f3,f4,f5,f6⟩:=h3.lits
  have HP:=yju hp
  have HB:=yju hB
  have HB0:=yju hB0
  have HC:Hid (W.cell? ⟨w.heap.size+1,0,none⟩=some (.bool false)∧W.frozen? ⟨w.heap.size+1,0,none⟩=false∧W.cell? ⟨w.heap.size,0,none⟩=some (.int .i64 lp)):=⟨hc,hf,hc2⟩
  clear hp hB h3 cR cS cL hI hB0
  by_cases hd:(evAt l x.val).d=lp
  ·have HD:=yju hd
   rw [hd]at f3
   clear hd
   gi_wp2
   exact⟨(ya6 (Below.refl _ _)).from _,Same2.refl _ _ _,⟨fun y hy=>(List.mem_append.1 hy).elim (HP.out y) (fun e=>by simp at e;subst e;exact HD.out),HC.out⟩,HB.out⟩
  ·have HD:=yju hd
   gi_wp2
   exact⟨(KeepsOthers.setCell _ _ _).from _,⟨rfl,⟨x,HD.out⟩,World.cell?_setCell_same' _ _ _ (by rw [HC.out.1];rfl)⟩,(HB0.out.trans (HB.out.mono (by omega))).setCell (p:=⟨w.heap.size+1,0,none⟩) (by simp) _⟩
 case done=>
  rintro D ys W hD rfl ⟨⟨hp,hc,hf,hc2⟩,hB⟩ hK
  have HP:=yju hp
  clear hp
  gi_wp2
  have hK':=(KeepsOthers.setCell W ⟨w.heap.size+1,0,none⟩ (.bool true)).same D _ hK rfl
  refine⟨by simp,.inl ⟨_,_,rfl,run_takeDeferred hK',?_⟩⟩
  have hc5:=cell_kept (World.cell?_setCell_same' W ⟨w.heap.size+1,0,none⟩ (.bool true) (by rw [hc];rfl)) (grownBy_putObj' _ D (.deferred none)) (fun r e=>by cases e;exact⟨_,hK',rfl⟩)
  refine⟨.bool true,?_,Says.yes (fun i hi=>HP.out ⟨i,hi⟩ (List.mem_finRange _)),((hB0.trans (hB.mono (by omega))).setCell (p:=⟨w.heap.size+1,0,none⟩) (by simp) _).trans (belowK_b (w:=w) (Nat.le_refl _) _ D _ _ (by omega) hK' rfl rfl)⟩
  simp [results,Tryz.f217,go_sem,hc5]
 case stop=>
  rintro D c pre W hD _ ⟨⟨rfl,⟨x,hx⟩,hc⟩,hB⟩ hK
  have HX:=yju hx
  clear hx
  gi_wp2
  refine⟨by simp,.inl ⟨_,_,rfl,run_takeDeferred hK,?_⟩⟩
  have hc5:=cell_kept hc (grownBy_putObj' _ D (.deferred none)) (fun r e=>by cases e;exact⟨_,hK,rfl⟩)
  refine⟨.bool false,?_,Says.no (fun h=>HX.out (h x.val x.isLt)),hB.trans (belowK_b (w:=w) (Nat.le_refl _) W D _ _ (by omega) hK rfl rfl)⟩
  simp [results,Tryz.f217,go_sem,hc5]
theorem yfr {p:Prop} (h:p):Hid p:=h
attribute [local go_sem] Oper.semAt_some
set_option maxRecDepth 100000 in
set_option maxHeartbeats 8000000 in
theorem iSent (ua uc:Value) (a:Option Addr) (cap b:Nat) (p:Ps) (lp:Int) (w:World) (hl:p.s.length≤1048576) (hI:p.s= []∨ ∃off,a=some ⟨b,off,none⟩∧EvsAt w b off p.s) (hb:b<w.heap.size):
  Calls Tryz.prog 215 #[.agg #[.int .i64 p.e.t,.int .i64 p.e.s,.int .i64 p.e.q,.int .i64 p.e.d,.int .i64 p.e.k,.int .i64 p.e.v,.int .i64 p.e.g,ua,.int .i64 p.b.q,.int .i64 p.b.d,.slice a p.s.length cap,uc],.int .i64 lp] w fun e w'=>Says e (ydc lp p=true)∧Below w.heap.size w w':=by
 refine(callsIn_wide (n:=5)).1 ?_
 refine callsIn_of_wp_marks Tryz.func215 rfl trivial ?_ rfl
 simp only [Tryz.ntmps215,List.size_toArray,List.length_cons,List.length_nil,Nat.reduceAdd,Nat.reduceSub,Array.replicate_succ,Array.replicate_zero,List.push_toArray,List.append_toArray,List.nil_append,List.cons_append]
 by_cases h8:8<p.s.length
 ·have h8':(8:Int)<(p.s.length:Int):=by omega
  have HN:Hid (ydc lp p=false):=by
   show ydc lp p=false
   unfold ydc
   rw [decide_eq_false (by omega)]
   rfl
  gi_wp2
  refine⟨.bool false,?_,Says.no (by rw [HN.out];intro h;cases h),?_⟩
  ·simp [results,Tryz.f215,go_sem]
  ·exact(((Below.refl _ w).alloc (Nat.le_refl _) _).alloc (by simp) _).alloc (by simp;omega) _
 have h8':¬(8:Int)<(p.s.length:Int):=by omega
 have H8:Hid (p.s.length≤8):=by show p.s.length≤8;omega
 gi_wp2_with (refine⟨trivial,?_⟩;gi_at_call 163;refine(callsIn_wide.2 (ygn _ _ _ _)).mono ?_;rintro e w' ⟨rfl,rfl⟩)
 obtain⟨Wc,hWc⟩:∃Wc,((((w.alloc (.cells #[.int .i64 p.e.t,.int .i64 p.e.s,.int .i64 p.e.q,.int .i64 p.e.d,.int .i64 p.e.k,.int .i64 p.e.v,.int .i64 p.e.g,ua,.int .i64 p.b.q,.int .i64 p.b.d,.slice a p.s.length cap,uc] 115)).alloc (.cells #[.int .i64 lp] 3)).alloc (.cells #[.bool false] 4)).alloc (.cells #[.slice a p.s.length cap] 34))=Wc:=⟨_,rfl⟩
 have hB0:Below w.heap.size w Wc:=by rw [←hWc];exact((((Below.refl _ w).alloc (Nat.le_refl _) _).alloc (by simp) _).alloc (by simp;omega) _).alloc (by simp;omega) _
 have hsz:Wc.heap.size=w.heap.size+4:=by rw [←hWc];simp
 have cX:Bk Wc w.heap.size 115 #[.int .i64 p.e.t,.int .i64 p.e.s,.int .i64 p.e.q,.int .i64 p.e.d,.int .i64 p.e.k,.int .i64 p.e.v,.int .i64 p.e.g,ua,.int .i64 p.b.q,.int .i64 p.b.d,.slice a p.s.length cap,uc]:=by rw [←hWc];exact(((Bk.new w _ _).alloc _).alloc _).alloc _
 have cL:Bk Wc (w.heap.size+1) 3 #[.int .i64 lp]:=by rw [←hWc];exact((Bk.newAt (by simp) _ _).alloc _).alloc _
 have cR:Bk Wc (w.heap.size+2) 4 #[.bool false]:=by rw [←hWc];exact(Bk.newAt (by simp) _ _).alloc _
 have cS:Bk Wc (w.heap.size+3) 34 #[.slice a p.s.length cap]:=by rw [←hWc];exact Bk.newAt (by simp) _ _
 simp only [hWc,Nat.add_assoc,Nat.reduceAdd]
 refine wpIn_rangeFunc_ownH rfl (by omega) (gf:=200) (lb:= #[.pointer (some ⟨w.heap.size+3,0,none⟩)]) rfl trivial (enters_of Tryz.func200 (by kernel_rfl) rfl)
  (yea Fence.wide 4 trivial rfl (by omega) (w.heap.size+3) b a cap p.s hl _ (by omega) (cS.cell (i:=0) rfl) (hI.imp id (fun⟨off,e,h⟩=>⟨off,e,h.below hB0 hb⟩))) Same2.trans (Same2.putObj (by omega) (by omega)) (Below.refl _ _) (fun _=>rfl)
  (fun pre W=>((∀x∈pre,ymm lp p.e.t (evAt p.s x.val)=true)∧W.cell? ⟨w.heap.size+2,0,none⟩=some (.bool false)∧W.frozen? ⟨w.heap.size+2,0,none⟩=false∧W.cell? ⟨w.heap.size+1,0,none⟩=some (.int .i64 lp)∧W.cell? ⟨w.heap.size,0,none⟩=some (.int .i64 p.e.t))∧Below (w.heap.size+4) Wc W)
  (fun c pre W=>(c= .ret∧(∃x:Fin p.s.length,ymm lp p.e.t (evAt p.s x.val)=false)∧W.cell? ⟨w.heap.size+2,0,none⟩=some (.bool false))∧Below w.heap.size w W)
  (OwnFrom.and (Own.from (fun s A B row hs hg hr=>⟨hs.1,cell_kept hs.2.1 hg hr,(frozen_kept hs.2.1 hg hr).trans hs.2.2.1,cell_kept hs.2.2.2.1 hg hr,cell_kept hs.2.2.2.2 hg hr⟩) _) (ownFrom_below (by omega) (by omega)))
  (fun c=>OwnFrom.and (Own.from (fun s A B row hs hg hr=>⟨hs.1,hs.2.1,cell_kept hs.2.2 hg hr⟩) _) (ownFrom_below (Nat.le_refl _) (by omega)))
  ⟨⟨by simp,cR.cell (i:=0) rfl,cR.free 0,cL.cell (i:=0) rfl,cX.cell (i:=0) rfl⟩,by rw [←hsz];exact Below.refl _ _⟩
  (fun x a' W=>∃Bx,w.heap.size+4≤Bx∧Bx<W.heap.size∧Ev.In W Bx 0 (evAt p.s x.val)∧a'= {tmps:= #[.agg #[.int .i64 p.e.t,.int .i64 p.e.s,.int .i64 p.e.q,.int .i64 p.e.d,.int .i64 p.e.k,.int .i64 p.e.v,.int .i64 p.e.g,ua,.int .i64 p.b.q,.int .i64 p.b.d,.slice a p.s.length cap,uc],.int .i64 lp,.pointer (some ⟨w.heap.size,0,none⟩),.pointer (some ⟨w.heap.size+1,0,none⟩),.pointer (some ⟨w.heap.size+2,0,none⟩),undef,.pointer (some ⟨Bx,0,none⟩),.pointer (some ⟨w.heap.size,10,none⟩),.slice a p.s.length cap,.int .i64 (p.s.length:Int),.bool false,.pointer (some ⟨w.heap.size,10,none⟩),.slice a p.s.length cap,.func (.func 200) #[] #[.pointer (some ⟨w.heap.size+3,0,none⟩)],.int .i64 ((x.val:Nat):Int),(evAt p.s x.val).val,undef,undef,undef,undef,undef,undef,undef,undef,undef,undef,undef,undef,undef,undef,undef,undef,undef],defers:= []})
  (fun x a' s A B row hs hg hr=>by obtain⟨Bx,h1,h2,h3,h4⟩:=hs;exact⟨Bx,h1,Nat.lt_of_lt_of_le h2 hg.size,h3.kept hg (fun r e=>(hr r e).2),h4⟩) ?assign ?body ?done ?stop
 case assign=>
  rintro lp' pre x W K ⟨⟨hp,hc,hf,hc2,hc3⟩,hB⟩ hK
  gi_wp2
  have hz:w.heap.size+4≤W.heap.size:=by have:=hB.size;omega
  have hBW:Below W.heap.size W (W.alloc (.cells #[.int .i64 (evAt p.s x.val).t,.int .i64 (evAt p.s x.val).s,.int .i64 (evAt p.s x.val).q,.int .i64 (evAt p.s x.val).d,.int .i64 (evAt p.s x.val).k,.int .i64 (evAt p.s x.val).v,.int .i64 (evAt p.s x.val).g] 110)):=(Below.refl _ W).alloc (Nat.le_refl _) _
  exact hK _ _ ((KeepsOthers.alloc _ _).from _) (Same2.below hBW (by omega) (by omega)) ⟨⟨hp,(hBW.cell (p:=⟨w.heap.size+2,0,none⟩) (by simp;omega)).trans hc,(hBW.frozen (p:=⟨w.heap.size+2,0,none⟩) (by simp;omega)).trans hf,(hBW.cell (p:=⟨w.heap.size+1,0,none⟩) (by simp;omega)).trans hc2,(hBW.cell (p:=⟨w.heap.size,0,none⟩) (by simp;omega)).trans hc3⟩,hB.trans (hBW.mono (by omega))⟩ ⟨W.heap.size,by omega,by simp,EvAt.new _ _ _ _ _ _ _ _ _,rfl⟩
 case body=>
  rintro lp' pre x a' W hlp _ ⟨⟨hp,hc,hf,hc2,hc3⟩,hB⟩ ⟨Bx,h1,h2,h3,rfl⟩ hlt
  have hz:w.heap.size+4≤W.heap.size:=by have:=hB.size;omega
  obtain⟨f0,f1,f2,f3,f4,f5,f6⟩:=h3.lits
  have HE:=yfr h3
  have HP:=yfr hp
  have HB:=yfr hB
  have HB0:=yfr hB0
  have HC:Hid (W.cell? ⟨w.heap.size+2,0,none⟩=some (.bool false)∧W.frozen? ⟨w.heap.size+2,0,none⟩=false∧W.cell? ⟨w.heap.size+1,0,none⟩=some (.int .i64 lp)∧W.cell? ⟨w.heap.size,0,none⟩=some (.int .i64 p.e.t)):=⟨hc,hf,hc2,hc3⟩
  clear hp hB h3 cR cS cL cX hI hB0 hc hf hc2 hc3
  have hCALL:∀bb,(evAt p.s x.val).ok=bb→Calls Tryz.prog 164 #[.agg #[.int .i64 (evAt p.s x.val).t,.int .i64 (evAt p.s x.val).s,.int .i64 (evAt p.s x.val).q,.int .i64 (evAt p.s x.val).d,.int .i64 (evAt p.s x.val).k,.int .i64 (evAt p.s x.val).v,.int .i64 (evAt p.s x.val).g]] W fun r w'=>r= .returned (.bool bb)∧Below W.heap.size W w':=fun bb e=>yg3 (evAt p.s x.val) bb e W
  have HCALL:=yfr hCALL
  clear hCALL
  have next:∀w2,Below W.heap.size W w2→(w2.cell? ⟨w.heap.size+2,0,none⟩=some (.bool false)∧w2.frozen? ⟨w.heap.size+2,0,none⟩=false∧w2.cell? ⟨w.heap.size+1,0,none⟩=some (.int .i64 lp)∧w2.cell? ⟨w.heap.size,0,none⟩=some (.int .i64 p.e.t))∧Ev.In w2 Bx 0 (evAt p.s x.val):=fun w2 hb2=>
   ⟨⟨(hb2.cell (p:=⟨w.heap.size+2,0,none⟩) (by simp;omega)).trans HC.out.1,(hb2.frozen (p:=⟨w.heap.size+2,0,none⟩) (by simp;omega)).trans HC.out.2.1,(hb2.cell (p:=⟨w.heap.size+1,0,none⟩) (by simp;omega)).trans HC.out.2.2.1,(hb2.cell (p:=⟨w.heap.size,0,none⟩) (by simp;omega)).trans HC.out.2.2.2⟩,HE.out.below hb2 h2⟩
  have NX:=yfr next
  clear next
  have HDEF:Hid (ymm lp p.e.t (evAt p.s x.val)=((evAt p.s x.val).ok&&(decide ((evAt p.s x.val).s=lp)&&decide (p.e.t<(evAt p.s x.val).t)))):=rfl
  cases hok:(evAt p.s x.val).ok
  ·have HOK:=yfr hok
   clear hok
   gi_wp2_with (refine⟨trivial,?_⟩;gi_at_call 164;refine(CallsIn.inRound lp' (callsIn_wide.2 (HCALL.out false HOK.out))).mono ?_;rintro e w2 ⟨rfl,hb2⟩;obtain⟨⟨n0,n1,n2,n3⟩,hE2⟩:=NX.out w2 hb2;obtain⟨m0,m1,m2,m3,m4,m5,m6⟩:=hE2.lits;have HB2:=hdq hb2;have N0:Hid (w2.cell? ⟨w.heap.size+2,0,none⟩=some (.bool false)∧w2.frozen? ⟨w.heap.size+2,0,none⟩=false∧w2.cell? ⟨w.heap.size+1,0,none⟩=some (.int .i64 lp)∧w2.cell? ⟨w.heap.size,0,none⟩=some (.int .i64 p.e.t)):=⟨n0,n1,n2,n3⟩;clear hb2 hE2)
   exact⟨((ya6 HB2.out).trans (KeepsOthers.setCell _ _ _)).from _,⟨rfl,⟨x,by rw [HDEF.out,HOK.out];rfl⟩,World.cell?_setCell_same' _ _ _ (by rw [N0.out.1];rfl)⟩,((HB0.out.trans (HB.out.mono (by omega))).trans (HB2.out.mono (by omega))).setCell (p:=⟨w.heap.size+2,0,none⟩) (by simp) _⟩
  have HOK:=yfr hok
  clear hok
  by_cases c1:(evAt p.s x.val).s=lp
  case neg=>
   have C1:=yfr c1
   gi_wp2_with (refine⟨trivial,?_⟩;gi_at_call 164;refine(CallsIn.inRound lp' (callsIn_wide.2 (HCALL.out true HOK.out))).mono ?_;rintro e w2 ⟨rfl,hb2⟩;obtain⟨⟨n0,n1,n2,n3⟩,hE2⟩:=NX.out w2 hb2;obtain⟨m0,m1,m2,m3,m4,m5,m6⟩:=hE2.lits;have HB2:=hdq hb2;have N0:Hid (w2.cell? ⟨w.heap.size+2,0,none⟩=some (.bool false)∧w2.frozen? ⟨w.heap.size+2,0,none⟩=false∧w2.cell? ⟨w.heap.size+1,0,none⟩=some (.int .i64 lp)∧w2.cell? ⟨w.heap.size,0,none⟩=some (.int .i64 p.e.t)):=⟨n0,n1,n2,n3⟩;clear hb2 hE2)
   exact⟨((ya6 HB2.out).trans (KeepsOthers.setCell _ _ _)).from _,⟨rfl,⟨x,by rw [HDEF.out,HOK.out,decide_eq_false C1.out];rfl⟩,World.cell?_setCell_same' _ _ _ (by rw [N0.out.1];rfl)⟩,((HB0.out.trans (HB.out.mono (by omega))).trans (HB2.out.mono (by omega))).setCell (p:=⟨w.heap.size+2,0,none⟩) (by simp) _⟩
  have C1:=yfr c1
  clear c1
  by_cases c2:(evAt p.s x.val).t≤p.e.t
  ·gi_wp2_with (refine⟨trivial,?_⟩;gi_at_call 164;refine(CallsIn.inRound lp' (callsIn_wide.2 (HCALL.out true HOK.out))).mono ?_;rintro e w2 ⟨rfl,hb2⟩;obtain⟨⟨n0,n1,n2,n3⟩,hE2⟩:=NX.out w2 hb2;obtain⟨m0,m1,m2,m3,m4,m5,m6⟩:=hE2.lits;have HB2:=hdq hb2;have N0:Hid (w2.cell? ⟨w.heap.size+2,0,none⟩=some (.bool false)∧w2.frozen? ⟨w.heap.size+2,0,none⟩=false∧w2.cell? ⟨w.heap.size+1,0,none⟩=some (.int .i64 lp)∧w2.cell? ⟨w.heap.size,0,none⟩=some (.int .i64 p.e.t)):=⟨n0,n1,n2,n3⟩;clear hb2 hE2;rw [C1.out]at m1)
   exact⟨((ya6 HB2.out).trans (KeepsOthers.setCell _ _ _)).from _,⟨rfl,⟨x,by rw [HDEF.out,HOK.out,decide_eq_true C1.out,decide_eq_false (by omega)];rfl⟩,World.cell?_setCell_same' _ _ _ (by rw [N0.out.1];rfl)⟩,((HB0.out.trans (HB.out.mono (by omega))).trans (HB2.out.mono (by omega))).setCell (p:=⟨w.heap.size+2,0,none⟩) (by simp) _⟩
  ·gi_wp2_with (refine⟨trivial,?_⟩;gi_at_call 164;refine(CallsIn.inRound lp' (callsIn_wide.2 (HCALL.out true HOK.out))).mono ?_;rintro e w2 ⟨rfl,hb2⟩;obtain⟨⟨n0,n1,n2,n3⟩,hE2⟩:=NX.out w2 hb2;obtain⟨m0,m1,m2,m3,m4,m5,m6⟩:=hE2.lits;have HB2:=hdq hb2;have N0:Hid (w2.cell? ⟨w.heap.size+2,0,none⟩=some (.bool false)∧w2.frozen? ⟨w.heap.size+2,0,none⟩=false∧w2.cell? ⟨w.heap.size+1,0,none⟩=some (.int .i64 lp)∧w2.cell? ⟨w.heap.size,0,none⟩=some (.int .i64 p.e.t)):=⟨n0,n1,n2,n3⟩;clear hb2 hE2;rw [C1.out]at m1)
   exact⟨(ya6 HB2.out).from _,Same2.below HB2.out (by omega) (by omega),⟨fun y hy=>(List.mem_append.1 hy).elim (HP.out y) (fun e=>by simp at e;subst e;rw [HDEF.out,HOK.out,decide_eq_true C1.out,decide_eq_true (by omega)];rfl),N0.out⟩,HB.out.trans (HB2.out.mono (by omega))⟩
 case done=>
  rintro D ys W hD rfl ⟨⟨hp,hc,hf,hc2,hc3⟩,hB⟩ hK
  have HP:=yfr hp
  clear hp
  gi_wp2
  have hK':=(KeepsOthers.setCell W ⟨w.heap.size+2,0,none⟩ (.bool true)).same D _ hK rfl
  refine⟨by simp,.inl ⟨_,_,rfl,run_takeDeferred hK',?_⟩⟩
  have hc5:=cell_kept (World.cell?_setCell_same' W ⟨w.heap.size+2,0,none⟩ (.bool true) (by rw [hc];rfl)) (grownBy_putObj' _ D (.deferred none)) (fun r e=>by cases e;exact⟨_,hK',rfl⟩)
  refine⟨.bool true,?_,Says.yes (by unfold ydc;rw [ym7 (fun i hi=>HP.out ⟨i,hi⟩ (List.mem_finRange _)),decide_eq_true H8.out];rfl),((hB0.trans (hB.mono (by omega))).setCell (p:=⟨w.heap.size+2,0,none⟩) (by simp) _).trans (belowK_b (w:=w) (Nat.le_refl _) _ D _ _ (by omega) hK' rfl rfl)⟩
  simp [results,Tryz.f215,go_sem,hc5]
 case stop=>
  rintro D c pre W hD _ ⟨⟨rfl,⟨x,hx⟩,hc⟩,hB⟩ hK
  have HX:=yfr hx
  clear hx
  gi_wp2
  refine⟨by simp,.inl ⟨_,_,rfl,run_takeDeferred hK,?_⟩⟩
  have hc5:=cell_kept hc (grownBy_putObj' _ D (.deferred none)) (fun r e=>by cases e;exact⟨_,hK,rfl⟩)
  refine⟨.bool false,?_,Says.no (by unfold ydc;rw [yqk x.isLt HX.out,Bool.and_false];intro h;cases h),hB.trans (belowK_b (w:=w) (Nat.le_refl _) W D _ _ (by omega) hK rfl rfl)⟩
  simp [results,Tryz.f215,go_sem,hc5]
end Go.Proofs.YtmobiieoecjmdaaGreat

namespace Go.Proofs.YtmobiieoecjmdaaGreat
open Go.ChangeShapes Go.WideShapes Go.ChangeAt Go.RowKit
theorem own:ownKnob Tryz.prog.godebug=none:=by kernel_rfl
theorem laidOut:laidOutB Tryz.prog=true:=by kernel_rfl
theorem cells3:Tryz.prog.cellsOf 3=1:=by kernel_rfl
theorem yk3:Tryz.prog.cellsOf 155=7:=by kernel_rfl
def wfI (x:Int):Prop:=(Lit.int .i64 x).wf=true
theorem list7 {α:Type} {l:List α} (h:l.length=7):∃a b c d e f g,l= [a,b,c,d,e,f,g]:=by
 match l,h with
 | [a,b,c,d,e,f,g],_=>exact⟨a,b,c,d,e,f,g,rfl⟩
set_option maxRecDepth 100000 in
theorem yl4 {H:Type} {enc:TypeId×Value→H} {w:World} {base:Nat} {spare:Nat→Bool} {held:Bool} {fuel:Nat} {cs:List Value} {x:DataW H×List MemPlace}
  (h:DataW.trod enc Tryz.prog w base spare held fuel 155 cs=some x):
  ∃t s q d k v g:Int,cs= [.int .i64 t,.int .i64 s,.int .i64 q,.int .i64 d,.int .i64 k,.int .i64 v,.int .i64 g]∧wfI t∧wfI s∧wfI q∧wfI d∧wfI k∧wfI v∧wfI g:=by
 obtain⟨xs,n,_,rfl,hl,hlen,hf⟩:=DataW.trod_struct Tryz.underlying155 h
 rw [yk3]at hl
 obtain⟨c0,c1,c2,c3,c4,c5,c6,rfl⟩:=list7 hl
 have hx:xs.length=7:=by simpa using hlen
 obtain⟨y0,y1,y2,y3,y4,y5,y6,rfl⟩:=list7 hx
 have h0:=hf 0 _ rfl
 have h1:=hf 1 _ rfl
 have h2:=hf 2 _ rfl
 have h3:=hf 3 _ rfl
 have h4:=hf 4 _ rfl
 have h5:=hf 5 _ rfl
 have h6:=hf 6 _ rfl
 obtain⟨a0,e0,_,w0⟩:=DataW.trod_int Tryz.underlying3 h0
 obtain⟨a1,e1,_,w1⟩:=DataW.trod_int Tryz.underlying3 h1
 obtain⟨a2,e2,_,w2⟩:=DataW.trod_int Tryz.underlying3 h2
 obtain⟨a3,e3,_,w3⟩:=DataW.trod_int Tryz.underlying3 h3
 obtain⟨a4,e4,_,w4⟩:=DataW.trod_int Tryz.underlying3 h4
 obtain⟨a5,e5,_,w5⟩:=DataW.trod_int Tryz.underlying3 h5
 obtain⟨a6,e6,_,w6⟩:=DataW.trod_int Tryz.underlying3 h6
 simp [cells3]at e0 e1 e2 e3 e4 e5 e6
 subst e0 e1 e2 e3 e4 e5 e6
 exact⟨a0,a1,a2,a3,a4,a5,a6,rfl,w0,w1,w2,w3,w4,w5,w6⟩
end Go.Proofs.YtmobiieoecjmdaaGreat

namespace Go.Proofs.YtmobiieoecjmdaaGreat
open Go.RowKit Go.Maps Go.WideShapes
abbrev keyV (g:Int):Value:= .agg #[.int .i64 0,.int .i64 0,.int .i64 0,.int .i64 0,.int .i64 0,.int .i64 0,.int .i64 g]
set_option maxHeartbeats 400000 in
theorem yr0 (g:Int) (w:World):Calls Tryz.prog 198 #[.int .i64 g] w fun e w'=>e= .returned (keyV g)∧Below w.heap.size w w':=by
 go_enter Tryz.func198,Tryz.ntmps198
 go_wp2
 exact bodyPost_ret (v:=keyV g) (by simp [results,Tryz.results198,go_sem]) rfl ⟨rfl,(Below.refl _ _).alloc (Nat.le_refl _) _⟩
theorem row25:(110:TypeId)<Tryz.prog.types.size:=of_decide_eq_true (by kernel_rfl)
theorem wide25:(match Tryz.prog.underlying 110 with|some (.array _ _)|some (.struct _)=>true|_=>false)=true:=by rw [Tryz.underlying110]
set_option maxRecDepth 100000 in
theorem keyed25:Keyed Tryz.prog 110:=Keyed.of_law (deep_law_laid laidOut (m:=2) (by omega) row25 (by kernel_rfl) wide25)
theorem yit (n:Int) (w:World):(Instr.makeMap 204 (some (.int .i64 n))).run Tryz.prog w= .ok (.map (some w.heap.size)) (w.alloc (.map #[] 0)):=by
 simp [Instr.makeMap,run_underlying Tryz.underlying204,asInt,asIntOf,Result.andThen]
def keyL (g:Int):Lit:= .string (keyBytes [.int .i64 0,.int .i64 0,.int .i64 0,.int .i64 0,.int .i64 0,.int .i64 0,.int .i64 g])
theorem yvk:Tryz.prog.cellsOf 110=7:=by kernel_rfl
theorem yug:Tryz.prog.keyType 110=true:=by kernel_rfl
theorem ypw (d:Nat) (x:Int) (h:wfI x):Tryz.prog.keyLits (d+1) 3 [.int .i64 x]=some [.int .i64 x]:=by
 unfold wfI at h
 unfold Program.keyLits
 rw [Tryz.underlying3]
 simp [h]
theorem zero_wf:wfI 0:=by unfold wfI;decide
theorem ysu:∃d,Tryz.prog.types.size+1=d+2:=⟨Tryz.prog.types.size-1,by have:110<Tryz.prog.types.size:=row25;omega⟩
theorem yjn (g:Int) (h:wfI g):keyOf Tryz.prog 110 (keyV g)=some (keyL g):=by
 obtain⟨d,hd⟩:=ysu
 have hf:(keyV g).formed Tryz.prog 110=true:=by simp [Value.formed,Tryz.underlying110,yvk]
 have hl:Tryz.prog.keyLits (d+2) 110 (keyV g).cells.toList=some [.int .i64 0,.int .i64 0,.int .i64 0,.int .i64 0,.int .i64 0,.int .i64 0,.int .i64 g]:=by
  unfold Program.keyLits
  rw [Tryz.underlying110]
  simp [Value.cells,yvk,cells3,ypw _ _ zero_wf,ypw _ _ h]
 unfold keyOf
 rw [Tryz.underlying110]
 simp only [yug,hf,hd,hl]
 rfl
theorem keyL_inj {g g':Int} (h:wfI g) (h':wfI g') (e:keyL g=keyL g'):g=g':=by
 have:=keyed25.inj (yjn g h) (by rw [e];exact yjn g' h')
 simpa using this
end Go.Proofs.YtmobiieoecjmdaaGreat

namespace Go.Proofs.YtmobiieoecjmdaaGreat
open Go.RowKit Go.Shelf Go.Maps Go.WideShapes
theorem yuu {p:Prop} (h:p):Hid p:=h
attribute [local go_sem] Oper.semAt_some
def yeu {H:Type} (l:List Ev) (pre:List (Fin l.length)):DataW H:=pre.foldl (fun D x=>D.put (keyL (evAt l x.val).g) (.lit (.int .i64 ((x.val:Nat):Int)))) (.map [])
theorem yfz {H:Type} (l:List Ev) (pre:List (Fin l.length)) (x:Fin l.length):yeu (H:=H) l (pre++ [x])=(yeu l pre).put (keyL (evAt l x.val).g) (.lit (.int .i64 ((x.val:Nat):Int))):=by simp [yeu]
theorem yhn {H:Type} {P:Program} {k:TypeId} {R:Value→Option (DataW H×List MemPlace)} {b n:Nat} {D:DataW H} {B:Nat} {W W':World} (h:W.ownsMap P k R b n D) (hb:Below B W W') (hB:b<B):W'.ownsMap P k R b n D:=by
 obtain⟨es,ck,h1,h2⟩:=h
 exact⟨es,ck,(hb.block b hB).trans h1,h2⟩
set_option maxRecDepth 100000 in
set_option maxHeartbeats 4000000 in
theorem yrd {H:Type} (a:Option Addr) (cap b:Nat) (l:List Ev) (w:World) (hl:l.length≤1048576) (hI:l= []∨ ∃off,a=some ⟨b,off,none⟩∧EvsAt w b off l) (hb:b<w.heap.size) (hwf:∀i,i<l.length→wfI (evAt l i).g):
  Calls Tryz.prog 161 #[.slice a l.length cap] w fun e W'=>e= .returned (.map (some w.heap.size))∧W'.ownsMap Tryz.prog 110 (plainElem (H:=H) Tryz.prog 3) w.heap.size l.length (yeu l (List.finRange l.length))∧Below w.heap.size w W':=by
 have hmm:=yit
 refine(callsIn_wide (n:=5)).1 ?_
 refine callsIn_of_wp_marks Tryz.func161 rfl trivial ?_ rfl
 simp only [Tryz.ntmps161,List.size_toArray,List.length_cons,List.length_nil,Nat.reduceAdd,Nat.reduceSub,Array.replicate_succ,Array.replicate_zero,List.push_toArray,List.append_toArray,List.nil_append,List.cons_append]
 gi_wp2_with (refine⟨trivial,?_⟩;gi_at_call 163;refine(callsIn_wide.2 (ygn _ _ _ _)).mono ?_;rintro e w' ⟨rfl,rfl⟩)
 clear hmm
 have hm0:=World.ownsMap_made w Tryz.prog 110 (plainElem (H:=H) Tryz.prog 3)
 have cM:=(Boxed.new (w.alloc (.map #[] 0)) 204 (.map (some w.heap.size))).alloc (.cells #[.slice a l.length cap] 34)
 have cS:=Boxed.new ((w.alloc (.map #[] 0)).alloc (.cells #[.map (some w.heap.size)] 204)) 34 (.slice a l.length cap)
 simp only [World.size_alloc]at cM cS
 have hB0:Below w.heap.size w (((w.alloc (.map #[] 0)).alloc (.cells #[.map (some w.heap.size)] 204)).alloc (.cells #[.slice a l.length cap] 34)):=(((Below.refl _ w).alloc (Nat.le_refl _) _).alloc (by simp) _).alloc (by simp;omega) _
 refine wpIn_rangeFunc_ownH rfl (by omega) (gf:=200) (lb:= #[.pointer (some ⟨w.heap.size+1+1,0,none⟩)]) rfl trivial (enters_of Tryz.func200 (by kernel_rfl) rfl)
  (yea Fence.wide 4 trivial rfl (by omega) (w.heap.size+1+1) b a cap l hl _ (by simp) cS.cell (hI.imp id (fun⟨off,e,h⟩=>⟨off,e,h.below hB0 hb⟩))) Same2.trans (Same2.putObj (by simp) (by simp;omega)) (Below.refl _ _) (fun _=>rfl)
  (fun pre W=>(W.cell? ⟨w.heap.size+1,0,none⟩=some (.map (some w.heap.size))∧W.ownsMap Tryz.prog 110 (plainElem (H:=H) Tryz.prog 3) w.heap.size pre.length (yeu l pre)∧w.heap.size+3≤W.heap.size)∧Below w.heap.size w W)
  (fun _ _ _=>False)
  (OwnFrom.and (fun s A B row hs hg hr=>⟨cell_kept hs.1 hg (fun r e=>(hr r e).2),hs.2.1.kept hg (fun e=>by have:=(hr _ e.symm).1;simp at this;omega),Nat.le_trans hs.2.2 hg.size⟩) (ownFrom_below (Nat.le_refl _) (by simp;omega)))
  (fun _ _ _ _ _ hs _ _=>hs)
  ⟨⟨cM.cell,(hm0.alloc _).alloc _,by simp⟩,hB0⟩
  (fun x a' W=>∃Bx,w.heap.size+3≤Bx∧Bx<W.heap.size∧Ev.In W Bx 0 (evAt l x.val)∧a'= {tmps:= #[.slice a l.length cap,undef,.map none,.pointer (some ⟨w.heap.size+1,0,none⟩),.int .i64 ((x.val:Nat):Int),.pointer (some ⟨Bx,0,none⟩),.slice a l.length cap,.int .i64 (l.length:Int),.map (some w.heap.size),.slice a l.length cap,.func (.func 200) #[] #[.pointer (some ⟨w.heap.size+1+1,0,none⟩)],.int .i64 ((x.val:Nat):Int),(evAt l x.val).val,undef,undef,undef,undef,undef,undef],defers:= []})
  (fun x a' s A B row hs hg hr=>by obtain⟨Bx,h1,h2,h3,h4⟩:=hs;exact⟨Bx,h1,Nat.lt_of_lt_of_le h2 hg.size,h3.kept hg (fun r e=>(hr r e).2),h4⟩) ?assign ?body ?done ?stop
 case assign=>
  rintro lp pre x W K ⟨⟨hc,hown,hz⟩,hB⟩ hK
  have HO:=hown
  clear hown
  gi_wp2
  have hBW:Below W.heap.size W (W.alloc (.cells #[.int .i64 (evAt l x.val).t,.int .i64 (evAt l x.val).s,.int .i64 (evAt l x.val).q,.int .i64 (evAt l x.val).d,.int .i64 (evAt l x.val).k,.int .i64 (evAt l x.val).v,.int .i64 (evAt l x.val).g] 110)):=(Below.refl _ W).alloc (Nat.le_refl _) _
  exact hK _ _ ((KeepsOthers.alloc _ _).from _) (Same2.below hBW (by omega) (by omega)) ⟨⟨(hBW.cell (p:=⟨w.heap.size+1,0,none⟩) (by simp;omega)).trans hc,yhn HO hBW (by omega),by simp;omega⟩,hB.trans (hBW.mono (by omega))⟩ ⟨W.heap.size,hz,by simp,EvAt.new _ _ _ _ _ _ _ _ _,rfl⟩
 case body=>
  rintro lp pre x a' W hlp _ ⟨⟨hc,hown,hz⟩,hB⟩ ⟨Bx,h1,h2,h3,rfl⟩ hlt
  obtain⟨f0,f1,f2,f3,f4,f5,f6⟩:=h3.lits
  clear f0 f1 f2 f3 f4 f5 h3 cM cS hI hm0
  have HO:Hid (W.ownsMap Tryz.prog 110 (plainElem (H:=H) Tryz.prog 3) w.heap.size pre.length (yeu l pre)):=hown
  have HB:=yuu hB
  have HW:Hid (wfI (evAt l x.val).g):=hwf _ x.isLt
  have HX:Hid ((Lit.int .i64 ((x.val:Nat):Int)).wf=true):=WalkArith.wf_i64 (by have:=x.isLt;omega)
  clear hown hB hB0 hwf
  have hmo:Tryz.prog.follows .mixedOrders=true:=by kernel_rfl
  gi_wp2
  gi_region_with_o (refine⟨trivial,?_⟩;gi_at_call 198;refine(CallsIn.inRound lp (callsIn_wide.2 (yr0 _ _))).mono ?_;rintro e w2 ⟨rfl,hb2⟩;have hc2:w2.cell? ⟨w.heap.size+1,0,none⟩=some (.map (some w.heap.size)):=(hb2.cell (p:=⟨w.heap.size+1,0,none⟩) (by simp;omega)).trans hc;obtain⟨w3,hrun,hown3,hg3⟩:=(yhn (W:=W.drew) HO.out hb2 (by simp;omega)).update keyed25 Tryz.underlying204 (by unfold maxLen;omega) (yjn _ HW.out) (plainElem_int Tryz.underlying3 HX.out))
  all_goals
   gi_wp2
   have hb3:Below w.heap.size w w2:=HB.out.drew.trans (hb2.mono (by simp;omega))
   have hz2:W.heap.size≤w2.heap.size:=by simpa using hb2.size
   refine⟨KeepsFrom.trans ((ya6 (W:=W) (W':=w2) ((Below.refl _ W).drew.trans hb2)).from _) (KeepsFrom.of_grownBy hg3 (fun j e=>by cases e;simp;omega)),?_,⟨?_,by rw [yfz,List.length_append];exact hown3,Nat.le_trans (by omega) hg3.size⟩,hb3.grown hg3 (by omega) (fun k e=>by cases e;exact Nat.le_refl _)⟩
   ·exact Same2.trans (Same2.below (n:=W.heap.size) ((Below.refl _ W).drew.trans hb2) (by omega) (by omega)) ⟨hg3.block (w.heap.size+1+1) (by omega) (by simp;omega),hg3.block b (by omega) (by simp;omega)⟩
   ·exact(World.cell?_of_block (w:=w2) (hg3.block (w.heap.size+1) (by omega) (by simp))).trans hc2
 case done=>
  rintro D ys W hD rfl ⟨⟨hc,hown,hz⟩,hB⟩ hK
  have HO:Hid (W.ownsMap Tryz.prog 110 (plainElem (H:=H) Tryz.prog 3) w.heap.size (List.finRange l.length).length (yeu l (List.finRange l.length))):=hown
  clear hown
  gi_wp2
  refine⟨by simp,.inl ⟨_,_,rfl,run_takeDeferred hK,?_⟩⟩
  exact⟨_,results_tmp rfl _ _ _,rfl,by have:=HO.out.kept (grownBy_putObj' _ D (.deferred none)) (fun e=>by cases e;simp at hD;omega);simpa using this,hB.trans (belowK_b (w:=w) (Nat.le_refl _) W D _ _ (by simp at hD;omega) hK rfl rfl)⟩
 case stop=>
  rintro D c pre W _ _ h _
  exact h.elim
end Go.Proofs.YtmobiieoecjmdaaGreat

namespace Go.Proofs.YtmobiieoecjmdaaGreat
open Go.RowKit Go.Maps Go.WideShapes
theorem yel {g g':Int} (h:wfI g) (h':wfI g'):(keyL g).sameKey (keyL g')=decide (g=g'):=by
 by_cases e:g=g'
 ·subst e;simp [keyL,Lit.sameKey]
 ·have:keyL g≠keyL g':=fun h1=>e (keyL_inj h h' h1)
  unfold keyL at this⊢
  simp only [Lit.sameKey,e,decide_false,beq_eq_false_iff_ne]
  intro h1
  exact this (by rw [h1])
def ents {H:Type}:DataW H→List (Lit×DataW H)
 | .map es=>es
 |_=> []
abbrev litI (i:Nat):DataW Unit:= .lit (.int .i64 ((i:Nat):Int))
def ybv (l:List Ev) (k:Nat):List (Lit×DataW Unit):=ents (yeu l ((List.finRange l.length).take k))
theorem yff (l:List Ev):∀k,k≤l.length→yeu (H:=Unit) l ((List.finRange l.length).take k)= .map (ybv l k)
 |0,_=>rfl
 |k+1,h=>by
  have ih:=yff l k (by omega)
  unfold ybv
  rw [ye6 _ _ (by omega),yfz,ih]
  rfl
theorem ymu (l:List Ev) (k:Nat) (h:k<l.length):ybv l (k+1)=DataW.insert (keyL (evAt l k).g,litI k) ((ybv l k).filter fun p=> !p.1.sameKey (keyL (evAt l k).g)):=by
 have ih:=yff l k (by omega)
 conv=>lhs;unfold ybv
 rw [ye6 _ _ h,yfz,ih]
 rfl
structure PlacesAt (l:List Ev) (k:Nat):Prop where
 le:(ybv l k).length≤k
 ent:∀p∈ybv l k,∃i,i<k∧p=(keyL (evAt l i).g,litI i)∧ ∀j,i<j→j<k→(evAt l j).g≠(evAt l i).g
 has:∀i,i<k→ ∃p∈ybv l k,p.1=keyL (evAt l i).g
 iff:(ybv l k).length=k↔ ∀i,i<k→ ∀j,j<i→(evAt l j).g≠(evAt l i).g
theorem ypr (l:List Ev) (hw:∀i,i<l.length→wfI (evAt l i).g):∀k,k≤l.length→PlacesAt l k
 |0,_=>⟨Nat.le_refl _,fun p hp=>(by cases hp),fun i hi=>(by omega),⟨fun _ i hi=>(by omega),fun _=>rfl⟩⟩
 |k+1,h=>by
  have ih:=ypr l hw k (by omega)
  have hk:=hw k (by omega)
  have hs:=ymu l k (by omega)
  have hlen:(ybv l (k+1)).length=((ybv l k).filter fun p=> !p.1.sameKey (keyL (evAt l k).g)).length+1:=by rw [hs,length_insert]
  have hfl:((ybv l k).filter fun p=> !p.1.sameKey (keyL (evAt l k).g)).length≤(ybv l k).length:=List.length_filter_le _ _
  refine⟨by have:=ih.le;omega,?_,?_,?_⟩
  ·intro p hp
   rw [hs]at hp
   rcases ChangeMaps.mem_insert_iff.1 hp with rfl|hp
   ·exact⟨k,by omega,rfl,fun j h1 h2=>by omega⟩
   ·obtain⟨hp,hn⟩:=List.mem_filter.1 hp
    obtain⟨i,hi,rfl,hl⟩:=ih.ent p hp
    refine⟨i,by omega,rfl,fun j h1 h2=> ?_⟩
    by_cases e:j=k
    ·subst e
     simp only [yel (hw i (by omega)) hk,Bool.not_eq_true',decide_eq_false_iff_not]at hn
     exact fun e=>hn e.symm
    ·exact hl j h1 (by omega)
  ·intro i hi
   rw [hs]
   by_cases e:(evAt l i).g=(evAt l k).g
   ·exact⟨_,ChangeMaps.mem_insert_iff.2 (.inl rfl),by rw [e]⟩
   ·have hik:i<k:=by
     rcases Nat.lt_or_ge i k with h|h
     ·exact h
     ·exact absurd (by rw [show i=k from by omega]) e
    obtain⟨p,hp,he⟩:=ih.has i hik
    refine⟨p,ChangeMaps.mem_insert_iff.2 (.inr (List.mem_filter.2 ⟨hp,?_⟩)),he⟩
    rw [he,yel (hw i (by omega)) hk]
    simpa using e
  ·rw [hlen]
   constructor
   ·intro heq
    have hall:(ybv l k).length=k:=by have:=ih.le;omega
    have hfe:((ybv l k).filter fun p=> !p.1.sameKey (keyL (evAt l k).g)).length=(ybv l k).length:=by omega
    have hf:=List.length_filter_eq_length_iff.1 hfe
    intro i hi j hj
    by_cases e:i=k
    ·subst e
     obtain⟨p,hp,he⟩:=ih.has j hj
     have:=hf p hp
     rw [he,yel (hw j (by omega)) hk]at this
     simpa using this
    ·exact(ih.iff.1 hall) i (by omega) j hj
   ·intro hd
    have hall:(ybv l k).length=k:=ih.iff.2 (fun i hi j hj=>hd i (by omega) j hj)
    have hfe:((ybv l k).filter fun p=> !p.1.sameKey (keyL (evAt l k).g)).length=(ybv l k).length:=by
     refine List.length_filter_eq_length_iff.2 (fun p hp=> ?_)
     obtain⟨i,hi,rfl,_⟩:=ih.ent p hp
     rw [yel (hw i (by omega)) hk]
     simpa using hd k (by omega) i hi
    omega
end Go.Proofs.YtmobiieoecjmdaaGreat

