/- PIm, PIr, PIs, Open, Key -/
import Derived.Test.YtghndljgadpijaaGreatExactCollectG01
import Derived.Test.YtghndljgadpijaaGreatExactCollectG13
import Derived.Test.YtghndljgadpijaaGreatExactCollectG11
import Derived.Test.YtghndljgadpijaaGreatRows
import Derived.ProofKit
import Derived.ChangeOld
import Derived.Below
import Derived.OpenShut
import Derived.DeepKeys4
import Derived.Maps.OwnIn
/- The program's emitsOk and antisOk. -/
namespace Go.Proofs.YtghndljgadpijaaGreat
set_option maxHeartbeats 4000000
open Go.RowKit
theorem zkk {p:Prop} (h:p):Hid p:=h
def emsC (l:List Em):Bool:=(List.range l.length).all fun i=>(xAt l i).okB
theorem zp3 (l:List Em):emsB l=(decide (l.length≤8)&&emsC l):=rfl
theorem iEmits (x:Value) (l:List Em) (w:World) (hl:l.length≤1048576) (h:IsX w x l):
    Calls Tryz.prog 136 #[x] w fun e w'=>e= .returned (.bool (emsC l))∧Below w.heap.size w w':=by
  obtain⟨a,cap,rfl,h1,h2,h⟩:=h
  clear h1 h2
  go_enter Tryz.func136,Tryz.ntmps136
  go_wp2
  go_loopw [7] (fun i wr=>∃k:Nat,k≤l.length∧i= .int .i64 k∧Hid (∀j,j<k→(xAt l j).okB=true)∧Below w.heap.size w wr) (fun i _=>l.length-(intOf i).toNat)
  case atStart=>exact⟨0,Nat.zero_le _,rfl,fun j hj=>by omega,Below.refl _ _⟩
  case round=>
    obtain⟨k,hk,rfl,HA,hB⟩:=hrel
    have HB:=zkk hB
    by_cases hlt:k<l.length
    · obtain⟨b,off,rfl,hb,hc⟩:=h.resolve_left (by intro e;subst e;simp at hlt)
      obtain⟨f0,f1,f2⟩:=(hc k hlt).below hB hb
      clear hc h hB
      have HNO:Hid ((xAt l k).okB=false→emsC l=false):=fun h=>by unfold emsC;rw [zl2 hlt h]
      have HDEF:Hid ((xAt l k).okB=decide (0≤(xAt l k).t∧(xAt l k).t≤1000∧0≤(xAt l k).l∧(xAt l k).l≤3∧0≤(xAt l k).v∧(xAt l k).v≤999)):=rfl
      generalize (xAt l k).t=et at f0 HDEF
      generalize (xAt l k).l=el at f1 HDEF
      generalize (xAt l k).v=ev at f2 HDEF
      obtain⟨W1,hW1⟩:∃W1,wr.alloc (.cells #[.int .i64 et,.int .i64 el,.int .i64 ev] 166)=W1:=⟨_,rfl⟩
      have HB1:Hid (Below w.heap.size w W1):=by rw [←hW1];exact HB.out.alloc HB.out.size _
      have HX:=hdq (bkA hW1)
      obtain⟨x0,x1,x2⟩:=c3_3 HX.out
      go_wp2_with fail
      refine(yw5 _ _ _ _).mono ?_
      rintro e w2 ⟨rfl,hw⟩
      have hw':=hw.symm
      clear hw
      subst hw'
      clear hW1 f0 f1 f2
      by_cases c0:0≤et∧et≤1000
      case neg=>
        rw [show(decide (0≤et)&&decide (et≤1000))=false from by rw [←Bool.decide_and];exact decide_eq_false c0]
        have HN:Hid (emsC l=false):=HNO.out (by rw [HDEF.out];exact decide_eq_false (by omega))
        clear c0
        go_wp2
        go_ret
        exact⟨ye8 HN.out.symm,HB1.out⟩
      rw [show(decide (0≤et)&&decide (et≤1000))=true from by rw [←Bool.decide_and];exact decide_eq_true c0]
      have C0:Hid (0≤et∧et≤1000):=c0
      clear c0
      go_wp2_with fail
      refine(yw5 _ _ _ _).mono ?_
      rintro e w2 ⟨rfl,hw⟩
      have hw':=hw.symm
      clear hw
      subst hw'
      by_cases c1:0≤el∧el≤3
      case neg=>
        rw [show(decide (0≤el)&&decide (el≤3))=false from by rw [←Bool.decide_and];exact decide_eq_false c1]
        have HN:Hid (emsC l=false):=HNO.out (by rw [HDEF.out];exact decide_eq_false (by omega))
        clear c1
        go_wp2
        go_ret
        exact⟨ye8 HN.out.symm,HB1.out⟩
      rw [show(decide (0≤el)&&decide (el≤3))=true from by rw [←Bool.decide_and];exact decide_eq_true c1]
      have C1:Hid (0≤el∧el≤3):=c1
      clear c1
      go_wp2_with fail
      refine(yw5 _ _ _ _).mono ?_
      rintro e w2 ⟨rfl,hw⟩
      have hw':=hw.symm
      clear hw
      subst hw'
      by_cases c2:0≤ev∧ev≤999
      case neg=>
        rw [show(decide (0≤ev)&&decide (ev≤999))=false from by rw [←Bool.decide_and];exact decide_eq_false c2]
        have HN:Hid (emsC l=false):=HNO.out (by rw [HDEF.out];exact decide_eq_false (by omega))
        clear c2
        go_wp2
        go_ret
        exact⟨ye8 HN.out.symm,HB1.out⟩
      rw [show(decide (0≤ev)&&decide (ev≤999))=true from by rw [←Bool.decide_and];exact decide_eq_true c2]
      have C2:Hid (0≤ev∧ev≤999):=c2
      clear c2
      have HY:Hid ((xAt l k).okB=true):=by rw [HDEF.out];exact decide_eq_true ⟨C0.out.1,C0.out.2,C1.out.1,C1.out.2,C2.out.1,C2.out.2⟩
      go_wp2
      go_roundw
      case rel=>exact⟨k+1,by omega,by go_num,fun j hj=>by
        by_cases e:j=k
        · subst e;exact HY.out
        · exact HA.out j (by omega),HB1.out⟩
      case measure=>simp [intOf];omega
    · have HYES:Hid (emsC l=true):=by
        show emsC l=true
        unfold emsC
        rw [zh0 (fun j hj=>HA.out j (by omega))]
      clear h hB
      go_wp2
      go_ret
      exact⟨ye8 HYES.out.symm,HB.out⟩
theorem iAntis (x:Value) (l:List Int) (w:World) (hl:l.length≤1048576) (h:IsI w x l):
    Calls Tryz.prog 251 #[x] w fun e w'=>Says e (Asc l)∧Below w.heap.size w w':=by
  obtain⟨a,cap,rfl,h1,h2,h⟩:=h
  clear h1 h2
  go_enter Tryz.func251,Tryz.ntmps251
  go_wp2
  go_loop [7] (fun i=>∃k:Nat,k≤l.length∧i= .int .i64 k∧Hid (∀j,j<k→Asc1 l j)) (fun i=>l.length-(intOf i).toNat)
  case atStart=>exact⟨0,Nat.zero_le _,rfl,fun j hj=>by omega⟩
  case round=>
    obtain⟨k,hk,rfl,HA⟩:=hrel
    by_cases hlt:k<l.length
    · obtain⟨b,off,rfl,hb,hc⟩:=h.resolve_left (by intro e;subst e;simp at hlt)
      have f0:=hc k hlt
      have HC:=zkk hc
      clear hc h
      have hki:(k:Int)<(l.length:Int):=by omega
      obtain⟨v,hv⟩:∃v,v=intAt l k:=⟨_,rfl⟩
      have HV:Hid (v=intAt l k):=hv
      rw [←hv]at f0
      clear hv
      go_wp2_with fail
      refine(yw5 _ _ _ _).mono ?_
      rintro e w2 ⟨rfl,hw⟩
      have hw':=hw.symm
      clear hw
      subst hw'
      by_cases c0:0≤v∧v≤100000
      case neg=>
        rw [show(decide (0≤v)&&decide (v≤100000))=false from by rw [←Bool.decide_and];exact decide_eq_false c0]
        have HN:=zkk c0
        clear c0
        go_wp2
        go_ret
        exact⟨Says.no (fun h=>HN.out (by rw [HV.out];exact⟨(h k hlt).1,(h k hlt).2.1⟩)),Below.refl _ _⟩
      rw [show(decide (0≤v)&&decide (v≤100000))=true from by rw [←Bool.decide_and];exact decide_eq_true c0]
      have C0:Hid (0≤v∧v≤100000):=c0
      clear c0
      by_cases k0:k=0
      · have hd:decide (0<k)=false:=decide_eq_false (by omega)
        have hd2:¬(0:Int)<(k:Int):=by omega
        have HK:Hid (k=0):=k0
        clear k0
        go_wp2
        go_round
        case rel=>exact⟨k+1,by omega,by go_num,fun j hj=>by
          by_cases e:j=k
          · subst e;exact⟨by rw [←HV.out];exact C0.out.1,by rw [←HV.out];exact C0.out.2,fun h0=>absurd h0 (by have:=HK.out;omega)⟩
          · exact HA.out j (by omega)⟩
        case measure=>simp [intOf];omega
      have hd:decide (0<k)=true:=decide_eq_true (by omega)
      have hd2:(0:Int)<(k:Int):=by omega
      have hkp:(1:Int)≤(k:Int):=by omega
      have ek:((k:Int)-1).toNat=k-1:=by omega
      have g0:=HC.out (k-1) (by omega)
      obtain⟨u,hu⟩:∃u,u=intAt l (k-1):=⟨_,rfl⟩
      have HU:=zkk hu
      rw [←hu]at g0
      have HK:Hid (¬k=0):=k0
      clear hu k0
      by_cases k3:v≤u
      · go_wp2
        go_ret
        exact⟨Says.no (fun h=>by have:=(h k hlt).2.2 (by have:=HK.out;omega);rw [←HV.out,←HU.out]at this;omega),Below.refl _ _⟩
      · go_wp2
        go_round
        case rel=>exact⟨k+1,by omega,by go_num,fun j hj=>by
          by_cases e:j=k
          · subst e;exact⟨by rw [←HV.out];exact C0.out.1,by rw [←HV.out];exact C0.out.2,fun h0=>by rw [←HV.out,←HU.out];omega⟩
          · exact HA.out j (by omega)⟩
        case measure=>simp [intOf];omega
    · clear h
      go_wp2
      go_ret
      exact⟨Says.yes (fun j hj=>HA.out j (by omega)),Below.refl _ _⟩
end Go.Proofs.YtghndljgadpijaaGreat

/- The program's allFor. -/
namespace Go.Proofs.YtghndljgadpijaaGreat
open Go.RowKit Go.Shelf
theorem zex {p:Prop} (h:p):Hid p:=h
attribute [local go_sem] Oper.semAt_some
set_option maxRecDepth 100000 in
set_option maxHeartbeats 4000000 in
theorem zmx (a:Option Addr) (cap b:Nat) (l:List Ev) (lp:Int) (w:World) (hl:l.length≤1048576) (hI:l= []∨ ∃off,a=some ⟨b,off,none⟩∧EvsAt w b off l) (hb:b<w.heap.size):
    Calls Tryz.prog 292 #[.slice a l.length cap,.int .i64 lp] w fun e w'=>Says e (∀i,i<l.length→(evAt l i).d=lp)∧Below w.heap.size w w':=by
  refine(callsIn_wide (n:=5)).1 ?_
  refine callsIn_of_wp_marks Tryz.func292 rfl trivial ?_ rfl
  simp only [Tryz.ntmps292,List.size_toArray,List.length_cons,List.length_nil,Nat.reduceAdd,Nat.reduceSub,Array.replicate_succ,Array.replicate_zero,List.push_toArray,List.append_toArray,List.nil_append,List.cons_append]
  gi_wp2_with (refine⟨trivial,?_⟩;gi_at_call 200;refine(callsIn_wide.2 (zc1 _ _ _ _)).mono ?_;rintro e w' ⟨rfl,rfl⟩)
  obtain⟨Wc,hWc⟩:∃Wc,(((w.alloc (.cells #[.int .i64 lp] 3)).alloc (.cells #[.bool false] 4)).alloc (.cells #[.slice a l.length cap] 34))=Wc:=⟨_,rfl⟩
  have hB0:Below w.heap.size w Wc:=by rw [←hWc];exact(((Below.refl _ w).alloc (Nat.le_refl _) _).alloc (by simp) _).alloc (by simp;omega) _
  have hsz:Wc.heap.size=w.heap.size+3:=by rw [←hWc];simp
  have cL:Bk Wc w.heap.size 3 #[.int .i64 lp]:=by rw [←hWc];exact((Bk.new w _ _).alloc _).alloc _
  have cR:Bk Wc (w.heap.size+1) 4 #[.bool false]:=by rw [←hWc];exact(Bk.newAt (by simp) _ _).alloc _
  have cS:Bk Wc (w.heap.size+2) 34 #[.slice a l.length cap]:=by rw [←hWc];exact Bk.newAt (by simp) _ _
  simp only [hWc,Nat.add_assoc,Nat.reduceAdd]
  refine wpIn_rangeFunc_ownH rfl (by omega) (gf:=254) (lb:= #[.pointer (some ⟨w.heap.size+2,0,none⟩)]) rfl trivial (enters_of Tryz.func254 (by kernel_rfl) rfl)
    (za7 Fence.wide 4 trivial rfl (by omega) (w.heap.size+2) b a cap l hl _ (by omega) (cS.cell (i:=0) rfl) (hI.imp id (fun⟨off,e,h⟩=>⟨off,e,h.below hB0 hb⟩))) Same2.trans (Same2.putObj (by omega) (by omega)) (Below.refl _ _) (fun _=>rfl)
    (fun pre W=>((∀x∈pre,(evAt l x.val).d=lp)∧W.cell? ⟨w.heap.size+1,0,none⟩=some (.bool false)∧W.frozen? ⟨w.heap.size+1,0,none⟩=false∧W.cell? ⟨w.heap.size,0,none⟩=some (.int .i64 lp))∧Below (w.heap.size+3) Wc W)
    (fun c pre W=>(c= .ret∧(∃x:Fin l.length,(evAt l x.val).d≠lp)∧W.cell? ⟨w.heap.size+1,0,none⟩=some (.bool false))∧Below w.heap.size w W)
    (OwnFrom.and (Own.from (fun s A B row hs hg hr=>⟨hs.1,cell_kept hs.2.1 hg hr,(frozen_kept hs.2.1 hg hr).trans hs.2.2.1,cell_kept hs.2.2.2 hg hr⟩) _) (ownFrom_below (by omega) (by omega)))
    (fun c=>OwnFrom.and (Own.from (fun s A B row hs hg hr=>⟨hs.1,hs.2.1,cell_kept hs.2.2 hg hr⟩) _) (ownFrom_below (Nat.le_refl _) (by omega)))
    ⟨⟨by simp,cR.cell (i:=0) rfl,cR.free 0,cL.cell (i:=0) rfl⟩,by rw [←hsz];exact Below.refl _ _⟩
    (fun x a' W=>∃Bx,w.heap.size+3≤Bx∧Bx<W.heap.size∧Ev.In W Bx 0 (evAt l x.val)∧a'= {tmps:= #[.slice a l.length cap,.int .i64 lp,undef,.pointer (some ⟨w.heap.size,0,none⟩),.pointer (some ⟨w.heap.size+1,0,none⟩),undef,.pointer (some ⟨Bx,0,none⟩),.slice a l.length cap,.func (.func 254) #[] #[.pointer (some ⟨w.heap.size+2,0,none⟩)],.int .i64 ((x.val:Nat):Int),(evAt l x.val).val,undef,undef,undef,undef],defers:= []})
    (fun x a' s A B row hs hg hr=>by obtain⟨Bx,h1,h2,h3,h4⟩:=hs;exact⟨Bx,h1,Nat.lt_of_lt_of_le h2 hg.size,h3.kept hg (fun r e=>(hr r e).2),h4⟩) ?assign ?body ?done ?stop
  case assign=>
    rintro lp' pre x W K ⟨⟨hp,hc,hf,hc2⟩,hB⟩ hK
    gi_wp2
    have hz:w.heap.size+3≤W.heap.size:=by have:=hB.size;omega
    have hBW:Below W.heap.size W (W.alloc (.cells #[.int .i64 (evAt l x.val).t,.int .i64 (evAt l x.val).s,.int .i64 (evAt l x.val).q,.int .i64 (evAt l x.val).d,.int .i64 (evAt l x.val).k,.int .i64 (evAt l x.val).v,.int .i64 (evAt l x.val).g] 90)):=(Below.refl _ W).alloc (Nat.le_refl _) _
    exact hK _ _ ((KeepsOthers.alloc _ _).from _) (Same2.below hBW (by omega) (by omega)) ⟨⟨hp,(hBW.cell (p:=⟨w.heap.size+1,0,none⟩) (by simp;omega)).trans hc,(hBW.frozen (p:=⟨w.heap.size+1,0,none⟩) (by simp;omega)).trans hf,(hBW.cell (p:=⟨w.heap.size,0,none⟩) (by simp;omega)).trans hc2⟩,hB.trans (hBW.mono (by omega))⟩ ⟨W.heap.size,by omega,by simp,EvAt.new _ _ _ _ _ _ _ _ _,rfl⟩
  case body=>
    rintro lp' pre x a' W hlp _ ⟨⟨hp,hc,hf,hc2⟩,hB⟩ ⟨Bx,h1,h2,h3,rfl⟩ hlt
    have hz:w.heap.size+3≤W.heap.size:=by have:=hB.size;omega
    obtain⟨f0,f1,f2,f3,f4,f5,f6⟩:=h3.lits
    have HP:=zex hp
    have HB:=zex hB
    have HB0:=zex hB0
    have HC:Hid (W.cell? ⟨w.heap.size+1,0,none⟩=some (.bool false)∧W.frozen? ⟨w.heap.size+1,0,none⟩=false∧W.cell? ⟨w.heap.size,0,none⟩=some (.int .i64 lp)):=⟨hc,hf,hc2⟩
    clear hp hB h3 cR cS cL hI hB0
    by_cases hd:(evAt l x.val).d=lp
    · have HD:=zex hd
      rw [hd]at f3
      clear hd
      gi_wp2
      exact⟨(yvh (Below.refl _ _)).from _,Same2.refl _ _ _,⟨fun y hy=>(List.mem_append.1 hy).elim (HP.out y) (fun e=>by simp at e;subst e;exact HD.out),HC.out⟩,HB.out⟩
    · have HD:=zex hd
      gi_wp2
      exact⟨(KeepsOthers.setCell _ _ _).from _,⟨rfl,⟨x,HD.out⟩,World.cell?_setCell_same' _ _ _ (by rw [HC.out.1];rfl)⟩,(HB0.out.trans (HB.out.mono (by omega))).setCell (p:=⟨w.heap.size+1,0,none⟩) (by simp) _⟩
  case done=>
    rintro D ys W hD rfl ⟨⟨hp,hc,hf,hc2⟩,hB⟩ hK
    have HP:=zex hp
    clear hp
    gi_wp2
    have hK':=(KeepsOthers.setCell W ⟨w.heap.size+1,0,none⟩ (.bool true)).same D _ hK rfl
    refine⟨by simp,.inl ⟨_,_,rfl,run_takeDeferred hK',?_⟩⟩
    have hc5:=cell_kept (World.cell?_setCell_same' W ⟨w.heap.size+1,0,none⟩ (.bool true) (by rw [hc];rfl)) (grownBy_putObj' _ D (.deferred none)) (fun r e=>by cases e;exact⟨_,hK',rfl⟩)
    refine⟨.bool true,?_,Says.yes (fun i hi=>HP.out ⟨i,hi⟩ (List.mem_finRange _)),((hB0.trans (hB.mono (by omega))).setCell (p:=⟨w.heap.size+1,0,none⟩) (by simp) _).trans (belowK_b (w:=w) (Nat.le_refl _) _ D _ _ (by omega) hK' rfl rfl)⟩
    simp [results,Tryz.f292,go_sem,hc5]
  case stop=>
    rintro D c pre W hD _ ⟨⟨rfl,⟨x,hx⟩,hc⟩,hB⟩ hK
    have HX:=zex hx
    clear hx
    gi_wp2
    refine⟨by simp,.inl ⟨_,_,rfl,run_takeDeferred hK,?_⟩⟩
    have hc5:=cell_kept hc (grownBy_putObj' _ D (.deferred none)) (fun r e=>by cases e;exact⟨_,hK,rfl⟩)
    refine⟨.bool false,?_,Says.no (fun h=>HX.out (h x.val x.isLt)),hB.trans (belowK_b (w:=w) (Nat.le_refl _) W D _ _ (by omega) hK rfl rfl)⟩
    simp [results,Tryz.f292,go_sem,hc5]
theorem zba {p:Prop} (h:p):Hid p:=h
attribute [local go_sem] Oper.semAt_some
set_option maxRecDepth 100000 in
set_option maxHeartbeats 8000000 in
theorem iSent (ua uc:Value) (a:Option Addr) (cap b:Nat) (p:Ps) (lp:Int) (w:World) (hl:p.s.length≤1048576) (hI:p.s= []∨ ∃off,a=some ⟨b,off,none⟩∧EvsAt w b off p.s) (hb:b<w.heap.size):
    Calls Tryz.prog 290 #[.agg #[.int .i64 p.e.t,.int .i64 p.e.s,.int .i64 p.e.q,.int .i64 p.e.d,.int .i64 p.e.k,.int .i64 p.e.v,.int .i64 p.e.g,ua,.int .i64 p.b.q,.int .i64 p.b.d,.slice a p.s.length cap,uc],.int .i64 lp] w fun e w'=>Says e (yzf lp p=true)∧Below w.heap.size w w':=by
  refine(callsIn_wide (n:=5)).1 ?_
  refine callsIn_of_wp_marks Tryz.func290 rfl trivial ?_ rfl
  simp only [Tryz.ntmps290,List.size_toArray,List.length_cons,List.length_nil,Nat.reduceAdd,Nat.reduceSub,Array.replicate_succ,Array.replicate_zero,List.push_toArray,List.append_toArray,List.nil_append,List.cons_append]
  by_cases h8:8<p.s.length
  · have h8':(8:Int)<(p.s.length:Int):=by omega
    have HN:Hid (yzf lp p=false):=by
      show yzf lp p=false
      unfold yzf
      rw [decide_eq_false (by omega)]
      rfl
    gi_wp2
    refine⟨.bool false,?_,Says.no (by rw [HN.out];intro h;cases h),?_⟩
    · simp [results,Tryz.f290,go_sem]
    · exact(((Below.refl _ w).alloc (Nat.le_refl _) _).alloc (by simp) _).alloc (by simp;omega) _
  have h8':¬(8:Int)<(p.s.length:Int):=by omega
  have H8:Hid (p.s.length≤8):=by show p.s.length≤8;omega
  gi_wp2_with (refine⟨trivial,?_⟩;gi_at_call 200;refine(callsIn_wide.2 (zc1 _ _ _ _)).mono ?_;rintro e w' ⟨rfl,rfl⟩)
  obtain⟨Wc,hWc⟩:∃Wc,((((w.alloc (.cells #[.int .i64 p.e.t,.int .i64 p.e.s,.int .i64 p.e.q,.int .i64 p.e.d,.int .i64 p.e.k,.int .i64 p.e.v,.int .i64 p.e.g,ua,.int .i64 p.b.q,.int .i64 p.b.d,.slice a p.s.length cap,uc] 172)).alloc (.cells #[.int .i64 lp] 3)).alloc (.cells #[.bool false] 4)).alloc (.cells #[.slice a p.s.length cap] 34))=Wc:=⟨_,rfl⟩
  have hB0:Below w.heap.size w Wc:=by rw [←hWc];exact((((Below.refl _ w).alloc (Nat.le_refl _) _).alloc (by simp) _).alloc (by simp;omega) _).alloc (by simp;omega) _
  have hsz:Wc.heap.size=w.heap.size+4:=by rw [←hWc];simp
  have cX:Bk Wc w.heap.size 172 #[.int .i64 p.e.t,.int .i64 p.e.s,.int .i64 p.e.q,.int .i64 p.e.d,.int .i64 p.e.k,.int .i64 p.e.v,.int .i64 p.e.g,ua,.int .i64 p.b.q,.int .i64 p.b.d,.slice a p.s.length cap,uc]:=by rw [←hWc];exact(((Bk.new w _ _).alloc _).alloc _).alloc _
  have cL:Bk Wc (w.heap.size+1) 3 #[.int .i64 lp]:=by rw [←hWc];exact((Bk.newAt (by simp) _ _).alloc _).alloc _
  have cR:Bk Wc (w.heap.size+2) 4 #[.bool false]:=by rw [←hWc];exact(Bk.newAt (by simp) _ _).alloc _
  have cS:Bk Wc (w.heap.size+3) 34 #[.slice a p.s.length cap]:=by rw [←hWc];exact Bk.newAt (by simp) _ _
  simp only [hWc,Nat.add_assoc,Nat.reduceAdd]
  refine wpIn_rangeFunc_ownH rfl (by omega) (gf:=254) (lb:= #[.pointer (some ⟨w.heap.size+3,0,none⟩)]) rfl trivial (enters_of Tryz.func254 (by kernel_rfl) rfl)
    (za7 Fence.wide 4 trivial rfl (by omega) (w.heap.size+3) b a cap p.s hl _ (by omega) (cS.cell (i:=0) rfl) (hI.imp id (fun⟨off,e,h⟩=>⟨off,e,h.below hB0 hb⟩))) Same2.trans (Same2.putObj (by omega) (by omega)) (Below.refl _ _) (fun _=>rfl)
    (fun pre W=>((∀x∈pre,zhd lp p.e.t (evAt p.s x.val)=true)∧W.cell? ⟨w.heap.size+2,0,none⟩=some (.bool false)∧W.frozen? ⟨w.heap.size+2,0,none⟩=false∧W.cell? ⟨w.heap.size+1,0,none⟩=some (.int .i64 lp)∧W.cell? ⟨w.heap.size,0,none⟩=some (.int .i64 p.e.t))∧Below (w.heap.size+4) Wc W)
    (fun c pre W=>(c= .ret∧(∃x:Fin p.s.length,zhd lp p.e.t (evAt p.s x.val)=false)∧W.cell? ⟨w.heap.size+2,0,none⟩=some (.bool false))∧Below w.heap.size w W)
    (OwnFrom.and (Own.from (fun s A B row hs hg hr=>⟨hs.1,cell_kept hs.2.1 hg hr,(frozen_kept hs.2.1 hg hr).trans hs.2.2.1,cell_kept hs.2.2.2.1 hg hr,cell_kept hs.2.2.2.2 hg hr⟩) _) (ownFrom_below (by omega) (by omega)))
    (fun c=>OwnFrom.and (Own.from (fun s A B row hs hg hr=>⟨hs.1,hs.2.1,cell_kept hs.2.2 hg hr⟩) _) (ownFrom_below (Nat.le_refl _) (by omega)))
    ⟨⟨by simp,cR.cell (i:=0) rfl,cR.free 0,cL.cell (i:=0) rfl,cX.cell (i:=0) rfl⟩,by rw [←hsz];exact Below.refl _ _⟩
    (fun x a' W=>∃Bx,w.heap.size+4≤Bx∧Bx<W.heap.size∧Ev.In W Bx 0 (evAt p.s x.val)∧a'= {tmps:= #[.agg #[.int .i64 p.e.t,.int .i64 p.e.s,.int .i64 p.e.q,.int .i64 p.e.d,.int .i64 p.e.k,.int .i64 p.e.v,.int .i64 p.e.g,ua,.int .i64 p.b.q,.int .i64 p.b.d,.slice a p.s.length cap,uc],.int .i64 lp,.pointer (some ⟨w.heap.size,0,none⟩),.pointer (some ⟨w.heap.size+1,0,none⟩),.pointer (some ⟨w.heap.size+2,0,none⟩),undef,.pointer (some ⟨Bx,0,none⟩),.pointer (some ⟨w.heap.size,10,none⟩),.slice a p.s.length cap,.int .i64 (p.s.length:Int),.bool false,.pointer (some ⟨w.heap.size,10,none⟩),.slice a p.s.length cap,.func (.func 254) #[] #[.pointer (some ⟨w.heap.size+3,0,none⟩)],.int .i64 ((x.val:Nat):Int),(evAt p.s x.val).val,undef,undef,undef,undef,undef,undef,undef,undef,undef,undef,undef,undef,undef,undef,undef,undef,undef],defers:= []})
    (fun x a' s A B row hs hg hr=>by obtain⟨Bx,h1,h2,h3,h4⟩:=hs;exact⟨Bx,h1,Nat.lt_of_lt_of_le h2 hg.size,h3.kept hg (fun r e=>(hr r e).2),h4⟩) ?assign ?body ?done ?stop
  case assign=>
    rintro lp' pre x W K ⟨⟨hp,hc,hf,hc2,hc3⟩,hB⟩ hK
    gi_wp2
    have hz:w.heap.size+4≤W.heap.size:=by have:=hB.size;omega
    have hBW:Below W.heap.size W (W.alloc (.cells #[.int .i64 (evAt p.s x.val).t,.int .i64 (evAt p.s x.val).s,.int .i64 (evAt p.s x.val).q,.int .i64 (evAt p.s x.val).d,.int .i64 (evAt p.s x.val).k,.int .i64 (evAt p.s x.val).v,.int .i64 (evAt p.s x.val).g] 90)):=(Below.refl _ W).alloc (Nat.le_refl _) _
    exact hK _ _ ((KeepsOthers.alloc _ _).from _) (Same2.below hBW (by omega) (by omega)) ⟨⟨hp,(hBW.cell (p:=⟨w.heap.size+2,0,none⟩) (by simp;omega)).trans hc,(hBW.frozen (p:=⟨w.heap.size+2,0,none⟩) (by simp;omega)).trans hf,(hBW.cell (p:=⟨w.heap.size+1,0,none⟩) (by simp;omega)).trans hc2,(hBW.cell (p:=⟨w.heap.size,0,none⟩) (by simp;omega)).trans hc3⟩,hB.trans (hBW.mono (by omega))⟩ ⟨W.heap.size,by omega,by simp,EvAt.new _ _ _ _ _ _ _ _ _,rfl⟩
  case body=>
    rintro lp' pre x a' W hlp _ ⟨⟨hp,hc,hf,hc2,hc3⟩,hB⟩ ⟨Bx,h1,h2,h3,rfl⟩ hlt
    have hz:w.heap.size+4≤W.heap.size:=by have:=hB.size;omega
    obtain⟨f0,f1,f2,f3,f4,f5,f6⟩:=h3.lits
    have HE:=zba h3
    have HP:=zba hp
    have HB:=zba hB
    have HB0:=zba hB0
    have HC:Hid (W.cell? ⟨w.heap.size+2,0,none⟩=some (.bool false)∧W.frozen? ⟨w.heap.size+2,0,none⟩=false∧W.cell? ⟨w.heap.size+1,0,none⟩=some (.int .i64 lp)∧W.cell? ⟨w.heap.size,0,none⟩=some (.int .i64 p.e.t)):=⟨hc,hf,hc2,hc3⟩
    clear hp hB h3 cR cS cL cX hI hB0 hc hf hc2 hc3
    have hCALL:∀bb,(evAt p.s x.val).ok=bb→Calls Tryz.prog 188 #[.agg #[.int .i64 (evAt p.s x.val).t,.int .i64 (evAt p.s x.val).s,.int .i64 (evAt p.s x.val).q,.int .i64 (evAt p.s x.val).d,.int .i64 (evAt p.s x.val).k,.int .i64 (evAt p.s x.val).v,.int .i64 (evAt p.s x.val).g]] W fun r w'=>r= .returned (.bool bb)∧Below W.heap.size W w':=fun bb e=>zbm (evAt p.s x.val) bb e W
    have HCALL:=zba hCALL
    clear hCALL
    have next:∀w2,Below W.heap.size W w2→(w2.cell? ⟨w.heap.size+2,0,none⟩=some (.bool false)∧w2.frozen? ⟨w.heap.size+2,0,none⟩=false∧w2.cell? ⟨w.heap.size+1,0,none⟩=some (.int .i64 lp)∧w2.cell? ⟨w.heap.size,0,none⟩=some (.int .i64 p.e.t))∧Ev.In w2 Bx 0 (evAt p.s x.val):=fun w2 hb2=>
      ⟨⟨(hb2.cell (p:=⟨w.heap.size+2,0,none⟩) (by simp;omega)).trans HC.out.1,(hb2.frozen (p:=⟨w.heap.size+2,0,none⟩) (by simp;omega)).trans HC.out.2.1,(hb2.cell (p:=⟨w.heap.size+1,0,none⟩) (by simp;omega)).trans HC.out.2.2.1,(hb2.cell (p:=⟨w.heap.size,0,none⟩) (by simp;omega)).trans HC.out.2.2.2⟩,HE.out.below hb2 h2⟩
    have NX:=zba next
    clear next
    have HDEF:Hid (zhd lp p.e.t (evAt p.s x.val)=((evAt p.s x.val).ok&&(decide ((evAt p.s x.val).s=lp)&&decide (p.e.t<(evAt p.s x.val).t)))):=rfl
    cases hok:(evAt p.s x.val).ok
    · have HOK:=zba hok
      clear hok
      gi_wp2_with (refine⟨trivial,?_⟩;gi_at_call 188;refine(CallsIn.inRound lp' (callsIn_wide.2 (HCALL.out false HOK.out))).mono ?_;rintro e w2 ⟨rfl,hb2⟩;obtain⟨⟨n0,n1,n2,n3⟩,hE2⟩:=NX.out w2 hb2;obtain⟨m0,m1,m2,m3,m4,m5,m6⟩:=hE2.lits;have HB2:=hdq hb2;have N0:Hid (w2.cell? ⟨w.heap.size+2,0,none⟩=some (.bool false)∧w2.frozen? ⟨w.heap.size+2,0,none⟩=false∧w2.cell? ⟨w.heap.size+1,0,none⟩=some (.int .i64 lp)∧w2.cell? ⟨w.heap.size,0,none⟩=some (.int .i64 p.e.t)):=⟨n0,n1,n2,n3⟩;clear hb2 hE2)
      exact⟨((yvh HB2.out).trans (KeepsOthers.setCell _ _ _)).from _,⟨rfl,⟨x,by rw [HDEF.out,HOK.out];rfl⟩,World.cell?_setCell_same' _ _ _ (by rw [N0.out.1];rfl)⟩,((HB0.out.trans (HB.out.mono (by omega))).trans (HB2.out.mono (by omega))).setCell (p:=⟨w.heap.size+2,0,none⟩) (by simp) _⟩
    have HOK:=zba hok
    clear hok
    by_cases c1:(evAt p.s x.val).s=lp
    case neg=>
      have C1:=zba c1
      gi_wp2_with (refine⟨trivial,?_⟩;gi_at_call 188;refine(CallsIn.inRound lp' (callsIn_wide.2 (HCALL.out true HOK.out))).mono ?_;rintro e w2 ⟨rfl,hb2⟩;obtain⟨⟨n0,n1,n2,n3⟩,hE2⟩:=NX.out w2 hb2;obtain⟨m0,m1,m2,m3,m4,m5,m6⟩:=hE2.lits;have HB2:=hdq hb2;have N0:Hid (w2.cell? ⟨w.heap.size+2,0,none⟩=some (.bool false)∧w2.frozen? ⟨w.heap.size+2,0,none⟩=false∧w2.cell? ⟨w.heap.size+1,0,none⟩=some (.int .i64 lp)∧w2.cell? ⟨w.heap.size,0,none⟩=some (.int .i64 p.e.t)):=⟨n0,n1,n2,n3⟩;clear hb2 hE2)
      exact⟨((yvh HB2.out).trans (KeepsOthers.setCell _ _ _)).from _,⟨rfl,⟨x,by rw [HDEF.out,HOK.out,decide_eq_false C1.out];rfl⟩,World.cell?_setCell_same' _ _ _ (by rw [N0.out.1];rfl)⟩,((HB0.out.trans (HB.out.mono (by omega))).trans (HB2.out.mono (by omega))).setCell (p:=⟨w.heap.size+2,0,none⟩) (by simp) _⟩
    have C1:=zba c1
    clear c1
    by_cases c2:(evAt p.s x.val).t≤p.e.t
    · gi_wp2_with (refine⟨trivial,?_⟩;gi_at_call 188;refine(CallsIn.inRound lp' (callsIn_wide.2 (HCALL.out true HOK.out))).mono ?_;rintro e w2 ⟨rfl,hb2⟩;obtain⟨⟨n0,n1,n2,n3⟩,hE2⟩:=NX.out w2 hb2;obtain⟨m0,m1,m2,m3,m4,m5,m6⟩:=hE2.lits;have HB2:=hdq hb2;have N0:Hid (w2.cell? ⟨w.heap.size+2,0,none⟩=some (.bool false)∧w2.frozen? ⟨w.heap.size+2,0,none⟩=false∧w2.cell? ⟨w.heap.size+1,0,none⟩=some (.int .i64 lp)∧w2.cell? ⟨w.heap.size,0,none⟩=some (.int .i64 p.e.t)):=⟨n0,n1,n2,n3⟩;clear hb2 hE2;rw [C1.out]at m1)
      exact⟨((yvh HB2.out).trans (KeepsOthers.setCell _ _ _)).from _,⟨rfl,⟨x,by rw [HDEF.out,HOK.out,decide_eq_true C1.out,decide_eq_false (by omega)];rfl⟩,World.cell?_setCell_same' _ _ _ (by rw [N0.out.1];rfl)⟩,((HB0.out.trans (HB.out.mono (by omega))).trans (HB2.out.mono (by omega))).setCell (p:=⟨w.heap.size+2,0,none⟩) (by simp) _⟩
    · gi_wp2_with (refine⟨trivial,?_⟩;gi_at_call 188;refine(CallsIn.inRound lp' (callsIn_wide.2 (HCALL.out true HOK.out))).mono ?_;rintro e w2 ⟨rfl,hb2⟩;obtain⟨⟨n0,n1,n2,n3⟩,hE2⟩:=NX.out w2 hb2;obtain⟨m0,m1,m2,m3,m4,m5,m6⟩:=hE2.lits;have HB2:=hdq hb2;have N0:Hid (w2.cell? ⟨w.heap.size+2,0,none⟩=some (.bool false)∧w2.frozen? ⟨w.heap.size+2,0,none⟩=false∧w2.cell? ⟨w.heap.size+1,0,none⟩=some (.int .i64 lp)∧w2.cell? ⟨w.heap.size,0,none⟩=some (.int .i64 p.e.t)):=⟨n0,n1,n2,n3⟩;clear hb2 hE2;rw [C1.out]at m1)
      exact⟨(yvh HB2.out).from _,Same2.below HB2.out (by omega) (by omega),⟨fun y hy=>(List.mem_append.1 hy).elim (HP.out y) (fun e=>by simp at e;subst e;rw [HDEF.out,HOK.out,decide_eq_true C1.out,decide_eq_true (by omega)];rfl),N0.out⟩,HB.out.trans (HB2.out.mono (by omega))⟩
  case done=>
    rintro D ys W hD rfl ⟨⟨hp,hc,hf,hc2,hc3⟩,hB⟩ hK
    have HP:=zba hp
    clear hp
    gi_wp2
    have hK':=(KeepsOthers.setCell W ⟨w.heap.size+2,0,none⟩ (.bool true)).same D _ hK rfl
    refine⟨by simp,.inl ⟨_,_,rfl,run_takeDeferred hK',?_⟩⟩
    have hc5:=cell_kept (World.cell?_setCell_same' W ⟨w.heap.size+2,0,none⟩ (.bool true) (by rw [hc];rfl)) (grownBy_putObj' _ D (.deferred none)) (fun r e=>by cases e;exact⟨_,hK',rfl⟩)
    refine⟨.bool true,?_,Says.yes (by unfold yzf;rw [zh0 (fun i hi=>HP.out ⟨i,hi⟩ (List.mem_finRange _)),decide_eq_true H8.out];rfl),((hB0.trans (hB.mono (by omega))).setCell (p:=⟨w.heap.size+2,0,none⟩) (by simp) _).trans (belowK_b (w:=w) (Nat.le_refl _) _ D _ _ (by omega) hK' rfl rfl)⟩
    simp [results,Tryz.f290,go_sem,hc5]
  case stop=>
    rintro D c pre W hD _ ⟨⟨rfl,⟨x,hx⟩,hc⟩,hB⟩ hK
    have HX:=zba hx
    clear hx
    gi_wp2
    refine⟨by simp,.inl ⟨_,_,rfl,run_takeDeferred hK,?_⟩⟩
    have hc5:=cell_kept hc (grownBy_putObj' _ D (.deferred none)) (fun r e=>by cases e;exact⟨_,hK,rfl⟩)
    refine⟨.bool false,?_,Says.no (by unfold yzf;rw [zl2 x.isLt HX.out,Bool.and_false];intro h;cases h),hB.trans (belowK_b (w:=w) (Nat.le_refl _) W D _ _ (by omega) hK rfl rfl)⟩
    simp [results,Tryz.f290,go_sem,hc5]
end Go.Proofs.YtghndljgadpijaaGreat

/- How an event that came in is read: seven integers. -/
namespace Go.Proofs.YtghndljgadpijaaGreat
open Go.ChangeShapes Go.WideShapes Go.ChangeAt Go.RowKit
theorem own:ownKnob Tryz.prog.godebug=none:=by kernel_rfl
theorem laidOut:laidOutB Tryz.prog=true:=by kernel_rfl
theorem cells3:Tryz.prog.cellsOf 3=1:=by kernel_rfl
theorem cells23:Tryz.prog.cellsOf 161=7:=by kernel_rfl
def wfI (x:Int):Prop:=(Lit.int .i64 x).wf=true
theorem list7 {α:Type} {l:List α} (h:l.length=7):∃a b c d e f g,l= [a,b,c,d,e,f,g]:=by
  match l,h with
  | [a,b,c,d,e,f,g],_=>exact⟨a,b,c,d,e,f,g,rfl⟩
set_option maxRecDepth 100000 in
theorem zg2 {H:Type} {enc:TypeId×Value→H} {w:World} {base:Nat} {spare:Nat→Bool} {held:Bool} {fuel:Nat} {cs:List Value} {x:DataW H×List MemPlace}
    (h:DataW.trod enc Tryz.prog w base spare held fuel 161 cs=some x):
    ∃t s q d k v g:Int,cs= [.int .i64 t,.int .i64 s,.int .i64 q,.int .i64 d,.int .i64 k,.int .i64 v,.int .i64 g]∧wfI t∧wfI s∧wfI q∧wfI d∧wfI k∧wfI v∧wfI g:=by
  obtain⟨xs,n,_,rfl,hl,hlen,hf⟩:=DataW.trod_struct Tryz.underlying161 h
  rw [cells23]at hl
  obtain⟨c0,c1,c2,c3,c4,c5,c6,rfl⟩:=list7 hl
  have hx:xs.length=7:=by simpa using hlen
  obtain⟨y0,y1,y2,y3,y4,y5,y6,rfl⟩:=list7 hx
  have h0:=hf 0 _ rfl
  have h1:=hf 1 _ rfl
  have h2:=hf 2 _ rfl
  have h3:=hf 3 _ rfl
  have h4:=hf 4 _ rfl
  have h5:=hf 5 _ rfl
  have h6:=hf 6 _ rfl
  obtain⟨a0,e0,_,w0⟩:=DataW.trod_int Tryz.underlying3 h0
  obtain⟨a1,e1,_,w1⟩:=DataW.trod_int Tryz.underlying3 h1
  obtain⟨a2,e2,_,w2⟩:=DataW.trod_int Tryz.underlying3 h2
  obtain⟨a3,e3,_,w3⟩:=DataW.trod_int Tryz.underlying3 h3
  obtain⟨a4,e4,_,w4⟩:=DataW.trod_int Tryz.underlying3 h4
  obtain⟨a5,e5,_,w5⟩:=DataW.trod_int Tryz.underlying3 h5
  obtain⟨a6,e6,_,w6⟩:=DataW.trod_int Tryz.underlying3 h6
  simp [cells3]at e0 e1 e2 e3 e4 e5 e6
  subst e0 e1 e2 e3 e4 e5 e6
  exact⟨a0,a1,a2,a3,a4,a5,a6,rfl,w0,w1,w2,w3,w4,w5,w6⟩
end Go.Proofs.YtghndljgadpijaaGreat

/- The key of a tag, and what a map keyed by events asks of it. -/
namespace Go.Proofs.YtghndljgadpijaaGreat
open Go.RowKit Go.Maps Go.WideShapes
abbrev keyV (g:Int):Value:= .agg #[.int .i64 0,.int .i64 0,.int .i64 0,.int .i64 0,.int .i64 0,.int .i64 0,.int .i64 g]
set_option maxHeartbeats 400000 in
theorem zli (g:Int) (w:World):Calls Tryz.prog 252 #[.int .i64 g] w fun e w'=>e= .returned (keyV g)∧Below w.heap.size w w':=by
  go_enter Tryz.func252,Tryz.ntmps252
  go_wp2
  exact bodyPost_ret (v:=keyV g) (by simp [results,Tryz.results252,go_sem]) rfl ⟨rfl,(Below.refl _ _).alloc (Nat.le_refl _) _⟩
theorem row25:(90:TypeId)<Tryz.prog.types.size:=of_decide_eq_true (by kernel_rfl)
theorem wide25:(match Tryz.prog.underlying 90 with|some (.array _ _)|some (.struct _)=>true|_=>false)=true:=by rw [Tryz.underlying90]
set_option maxRecDepth 100000 in
theorem keyed25:Keyed Tryz.prog 90:=Keyed.of_law (deep_law_laid laidOut (m:=2) (by omega) row25 (by kernel_rfl) wide25)
theorem ze0 (n:Int) (w:World):(Instr.makeMap 262 (some (.int .i64 n))).run Tryz.prog w= .ok (.map (some w.heap.size)) (w.alloc (.map #[] 0)):=by
  simp [Instr.makeMap,run_underlying Tryz.underlying262,asInt,asIntOf,Result.andThen]
def keyL (g:Int):Lit:= .string (keyBytes [.int .i64 0,.int .i64 0,.int .i64 0,.int .i64 0,.int .i64 0,.int .i64 0,.int .i64 g])
theorem zpi:Tryz.prog.cellsOf 90=7:=by kernel_rfl
theorem zoe:Tryz.prog.keyType 90=true:=by kernel_rfl
theorem zkh (d:Nat) (x:Int) (h:wfI x):Tryz.prog.keyLits (d+1) 3 [.int .i64 x]=some [.int .i64 x]:=by
  unfold wfI at h
  unfold Program.keyLits
  rw [Tryz.underlying3]
  simp [h]
theorem zero_wf:wfI 0:=by unfold wfI;decide
theorem zn3:∃d,Tryz.prog.types.size+1=d+2:=⟨Tryz.prog.types.size-1,by have:90<Tryz.prog.types.size:=row25;omega⟩
theorem zeq (g:Int) (h:wfI g):keyOf Tryz.prog 90 (keyV g)=some (keyL g):=by
  obtain⟨d,hd⟩:=zn3
  have hf:(keyV g).formed Tryz.prog 90=true:=by simp [Value.formed,Tryz.underlying90,zpi]
  have hl:Tryz.prog.keyLits (d+2) 90 (keyV g).cells.toList=some [.int .i64 0,.int .i64 0,.int .i64 0,.int .i64 0,.int .i64 0,.int .i64 0,.int .i64 g]:=by
    unfold Program.keyLits
    rw [Tryz.underlying90]
    simp [Value.cells,zpi,cells3,zkh _ _ zero_wf,zkh _ _ h]
  unfold keyOf
  rw [Tryz.underlying90]
  simp only [zoe,hf,hd,hl]
  rfl
theorem keyL_inj {g g':Int} (h:wfI g) (h':wfI g') (e:keyL g=keyL g'):g=g':=by
  have:=keyed25.inj (zeq g h) (by rw [e];exact zeq g' h')
  simpa using this
end Go.Proofs.YtghndljgadpijaaGreat

