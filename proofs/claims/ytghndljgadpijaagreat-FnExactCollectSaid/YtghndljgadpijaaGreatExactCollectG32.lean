/- KIk, VOf, VFnOk, MOkM -/
import Derived.Test.YtghndljgadpijaaGreatExactCollectG01
import Derived.Test.YtghndljgadpijaaGreatExactCollectG31
import Derived.Test.YtghndljgadpijaaGreatExactCollectLVOk
import Derived.Test.YtghndljgadpijaaGreatExactCollectG21
import Derived.Test.YtghndljgadpijaaGreatExactCollectLMOkS
/- The program's sureOk. -/
namespace Go.Proofs.YtghndljgadpijaaGreat
open Go.RowKit Go.Shelf
theorem zae {p:Prop} (h:p):Hid p:=h
attribute [local go_sem] Oper.semAt_some
def suB (m:Md) (e:Ev):Bool:=evIn m e&&decide (e.g=0)
theorem suB_iff {m:Md} {e:Ev}:suB m e=true↔e.ok=true∧fitB m e.t e.d e.k=true∧e.g=0:=by
  unfold suB evIn
  simp only [Bool.and_eq_true,decide_eq_true_eq,and_assoc]
theorem suB_two {m:Md} {e:Ev}:suB m e=true↔evIn m e=true∧e.g=0:=by
  unfold suB
  simp only [Bool.and_eq_true,decide_eq_true_eq]
theorem zdm (a:Option Addr) (cap:Nat) (l:List Ev) (c:Bool) (hc:c=true↔ ∀i,i<l.length-1→(evAt l i).ecmp (evAt l (i+1))= -1) (w:World) (hl:l.length≤1048576) (hp:0<w.heap.size) (hI:IsEvs w (.slice a l.length cap) l):
    Calls Tryz.prog 202 #[.slice a l.length cap] w fun e w'=>e= .returned (.bool c)∧Below w.heap.size w w':=by
  have conv:∀{e:Ending} {w':World},(Says e (∀i,i<l.length-1→(evAt l i).ecmp (evAt l (i+1))= -1)∧Below w.heap.size w w')→e= .returned (.bool c)∧Below w.heap.size w w':=by
    rintro e w' ⟨⟨d,rfl,hd⟩,hw⟩
    refine⟨?_,hw⟩
    cases c<;>cases d
    · rfl
    · exact absurd (hc.2 (hd.1 rfl)) (by simp)
    · exact absurd (hd.2 (hc.1 rfl)) (by simp)
    · rfl
  rcases hI.rows with rfl|⟨b',off,rfl,hbb⟩
  · exact(zch a cap 0 [] w hl (.inl rfl) hp).mono fun e w' hh=>conv hh
  · exact(zch _ cap b' l w hl (.inr ⟨off,rfl,hbb⟩) hbb.1).mono fun e w' hh=>conv hh
theorem zhz (x:Value) (k:Kn) (c:Bool) (hc:zbc k=c) (w:World) (hs:ywy k) (hok:∀e,e∈gvtL k→e.ok=true) (h:IsKern w x k):Calls Tryz.prog 203 #[x] w fun e w'=>e= .returned (.bool c)∧Below w.heap.size w w':=hc▸iAhead x k w hs hok h
set_option maxRecDepth 100000 in
set_option maxHeartbeats 8000000 in
theorem iSureOk (x:Value) (k:Kn) (w:World) (hs:ywy k) (hok:∀e,e∈gvtL k→e.ok=true) (h:IsKern w x k):
    Calls Tryz.prog 135 #[x] w fun e w'=>e= .returned (.bool (zcr k))∧Below w.heap.size w w':=by
  have HSK:Hid (ywy k):=hs
  have HOK:=zae hok
  clear hok
  obtain⟨HSM0,hsk⟩:=hs
  have HSM:Hid (SmallM k.m):=HSM0
  obtain⟨hdl,hpl,hbl,hsl,hxl⟩:=yyp hsk
  have HWP:=zae (yyf hsk)
  clear hsk HSM0
  obtain⟨ai,ci,ah,ch,ae,ce,ad,cd,ap,cp,ab,cb,au,cu,ax,cx,rfl,hm,hd,hp,hbg,hsu,hx⟩:=h.form
  have HM:=zae hm
  have HD:=zae hd
  have HPP:=zae hp
  have HBG:=zae hbg.rows
  have HSU:=zae hsu.rows
  have HXX:=zae hx.rows
  have HSUI:=zae hsu
  have HXXI:=zae hx
  have HK:=zae h
  clear hm hd hp hbg hsu hx h
  clear HD HPP HBG HXX HXXI HSM HWP
  obtain⟨b,hb,hI⟩:∃b,b≤w.heap.size∧(k.s= []∨ ∃off,au=some ⟨b,off,none⟩∧EvsAt w b off k.s):=by
    rcases HSU.out with e|⟨b,off,e,h⟩
    · exact⟨w.heap.size,Nat.le_refl _,.inl e⟩
    · exact⟨b,Nat.le_of_lt h.1,.inr ⟨off,e,h⟩⟩
  have q12:((w.alloc (.cells #[.int .i64 k.m.n,.int .i64 k.m.s,.slice ai k.m.i.length ci,.slice ah k.m.h.length ch,.slice ae k.m.e.length ce,.int .i64 k.m.z,.slice ad k.d.length cd,.slice ap k.p.length cp,.slice ab k.b.length cb,.int .i64 k.t,.int .i64 k.q,.bool k.f,.slice au k.s.length cu,.slice ax k.x.length cx] 41)).alloc (.cells #[.bool false] 4)).cell? ⟨w.heap.size,12,none⟩=some (.slice au k.s.length cu):=((Bk.new w _ _).alloc _).cell (i:=12) rfl
  refine(callsIn_wide (n:=5)).1 ?_
  refine callsIn_of_wp_marks Tryz.func135 rfl trivial ?_ rfl
  simp only [Tryz.ntmps135,List.size_toArray,List.length_cons,List.length_nil,Nat.reduceAdd,Nat.reduceSub,Array.replicate_succ,Array.replicate_zero,List.push_toArray,List.append_toArray,List.nil_append,List.cons_append]
  gi_wp2_with (refine⟨trivial,?_⟩;gi_at_call 200;refine(callsIn_wide.2 (zc1 _ _ _ _)).mono ?_;rintro e w' ⟨rfl,rfl⟩)
  clear q12
  have cK:Bk (((w.alloc (.cells #[.int .i64 k.m.n,.int .i64 k.m.s,.slice ai k.m.i.length ci,.slice ah k.m.h.length ch,.slice ae k.m.e.length ce,.int .i64 k.m.z,.slice ad k.d.length cd,.slice ap k.p.length cp,.slice ab k.b.length cb,.int .i64 k.t,.int .i64 k.q,.bool k.f,.slice au k.s.length cu,.slice ax k.x.length cx] 41)).alloc (.cells #[.bool false] 4)).alloc (.cells #[.slice au k.s.length cu] 34)) w.heap.size 41 #[.int .i64 k.m.n,.int .i64 k.m.s,.slice ai k.m.i.length ci,.slice ah k.m.h.length ch,.slice ae k.m.e.length ce,.int .i64 k.m.z,.slice ad k.d.length cd,.slice ap k.p.length cp,.slice ab k.b.length cb,.int .i64 k.t,.int .i64 k.q,.bool k.f,.slice au k.s.length cu,.slice ax k.x.length cx]:=((Bk.new w _ _).alloc _).alloc _
  have cR:=(Boxed.new (w.alloc (.cells #[.int .i64 k.m.n,.int .i64 k.m.s,.slice ai k.m.i.length ci,.slice ah k.m.h.length ch,.slice ae k.m.e.length ce,.int .i64 k.m.z,.slice ad k.d.length cd,.slice ap k.p.length cp,.slice ab k.b.length cb,.int .i64 k.t,.int .i64 k.q,.bool k.f,.slice au k.s.length cu,.slice ax k.x.length cx] 41)) 4 (.bool false)).alloc (.cells #[.slice au k.s.length cu] 34)
  have cS:=Boxed.new ((w.alloc (.cells #[.int .i64 k.m.n,.int .i64 k.m.s,.slice ai k.m.i.length ci,.slice ah k.m.h.length ch,.slice ae k.m.e.length ce,.int .i64 k.m.z,.slice ad k.d.length cd,.slice ap k.p.length cp,.slice ab k.b.length cb,.int .i64 k.t,.int .i64 k.q,.bool k.f,.slice au k.s.length cu,.slice ax k.x.length cx] 41)).alloc (.cells #[.bool false] 4)) 34 (.slice au k.s.length cu)
  rw [World.size_alloc]at cR
  rw [World.size_alloc,World.size_alloc]at cS
  have hB0:Below w.heap.size w (((w.alloc (.cells #[.int .i64 k.m.n,.int .i64 k.m.s,.slice ai k.m.i.length ci,.slice ah k.m.h.length ch,.slice ae k.m.e.length ce,.int .i64 k.m.z,.slice ad k.d.length cd,.slice ap k.p.length cp,.slice ab k.b.length cb,.int .i64 k.t,.int .i64 k.q,.bool k.f,.slice au k.s.length cu,.slice ax k.x.length cx] 41)).alloc (.cells #[.bool false] 4)).alloc (.cells #[.slice au k.s.length cu] 34)):=(((Below.refl _ w).alloc (Nat.le_refl _) _).alloc (by simp) _).alloc (by simp;omega) _
  have hI0:k.s= []∨ ∃off,au=some ⟨b,off,none⟩∧EvsAt (((w.alloc (.cells #[.int .i64 k.m.n,.int .i64 k.m.s,.slice ai k.m.i.length ci,.slice ah k.m.h.length ch,.slice ae k.m.e.length ce,.int .i64 k.m.z,.slice ad k.d.length cd,.slice ap k.p.length cp,.slice ab k.b.length cb,.int .i64 k.t,.int .i64 k.q,.bool k.f,.slice au k.s.length cu,.slice ax k.x.length cx] 41)).alloc (.cells #[.bool false] 4)).alloc (.cells #[.slice au k.s.length cu] 34)) b off k.s:=hI.imp id (fun⟨off,e,h⟩=>⟨off,e,h.below hB0 h.1⟩)
  refine wpIn_rangeFunc_ownH rfl (by omega) (gf:=254) (lb:= #[.pointer (some ⟨w.heap.size+2,0,none⟩)]) rfl trivial (enters_of Tryz.func254 (by kernel_rfl) rfl)
    (za7 Fence.wide 4 trivial rfl (by omega) (w.heap.size+2) b au cu k.s hsl _ (by simp) cS.cell hI0) Same2.trans (Same2.putObj (by simp) (by simp;omega)) (Below.refl _ _) (fun _=>rfl)
    (fun pre W=>((∀x∈pre,suB k.m (evAt k.s x.val)=true)∧W.cell? ⟨w.heap.size+1,0,none⟩=some (.bool false)∧W.frozen? ⟨w.heap.size+1,0,none⟩=false)∧Below (w.heap.size+3) (((w.alloc (.cells #[.int .i64 k.m.n,.int .i64 k.m.s,.slice ai k.m.i.length ci,.slice ah k.m.h.length ch,.slice ae k.m.e.length ce,.int .i64 k.m.z,.slice ad k.d.length cd,.slice ap k.p.length cp,.slice ab k.b.length cb,.int .i64 k.t,.int .i64 k.q,.bool k.f,.slice au k.s.length cu,.slice ax k.x.length cx] 41)).alloc (.cells #[.bool false] 4)).alloc (.cells #[.slice au k.s.length cu] 34)) W)
    (fun c pre W=>(c= .ret∧(∃x:Fin k.s.length,suB k.m (evAt k.s x.val)=false)∧W.cell? ⟨w.heap.size+1,0,none⟩=some (.bool false))∧Below w.heap.size w W)
    (OwnFrom.and (Own.from (fun s A B row hs hg hr=>⟨hs.1,cell_kept hs.2.1 hg hr,(frozen_kept hs.2.1 hg hr).trans hs.2.2⟩) _) (ownFrom_below (by simp) (by simp)))
    (fun c=>OwnFrom.and (Own.from (fun s A B row hs hg hr=>⟨hs.1,hs.2.1,cell_kept hs.2.2 hg hr⟩) _) (ownFrom_below (Nat.le_refl _) (by simp;omega)))
    ⟨⟨by simp,cR.cell,cR.frozen⟩,Below.refl _ _⟩
    (fun x a' W=>∃Bx,w.heap.size+3≤Bx∧Bx<W.heap.size∧Ev.In W Bx 0 (evAt k.s x.val)∧a'= {tmps:= #[.agg #[.int .i64 k.m.n,.int .i64 k.m.s,.slice ai k.m.i.length ci,.slice ah k.m.h.length ch,.slice ae k.m.e.length ce,.int .i64 k.m.z,.slice ad k.d.length cd,.slice ap k.p.length cp,.slice ab k.b.length cb,.int .i64 k.t,.int .i64 k.q,.bool k.f,.slice au k.s.length cu,.slice ax k.x.length cx],.pointer (some ⟨w.heap.size,0,none⟩),.pointer (some ⟨w.heap.size+1,0,none⟩),undef,.pointer (some ⟨Bx,0,none⟩),.pointer (some ⟨w.heap.size,12,none⟩),.slice au k.s.length cu,.func (.func 254) #[] #[.pointer (some ⟨w.heap.size+2,0,none⟩)],.int .i64 ((x.val:Nat):Int),(evAt k.s x.val).val,undef,undef,undef,undef,undef,undef,undef,undef,undef,undef,undef,undef,undef,undef,undef,undef,undef,undef,undef,undef,undef,undef],defers:= []})
    (fun x a' s A B row hs hg hr=>by obtain⟨Bx,h1,h2,h3,h4⟩:=hs;exact⟨Bx,h1,Nat.lt_of_lt_of_le h2 hg.size,h3.kept hg (fun r e=>(hr r e).2),h4⟩) ?assign ?body ?done ?stop
  case assign=>
    rintro lp pre x W K ⟨⟨hp,hc,hf⟩,hB⟩ hK
    gi_wp2
    have hz:w.heap.size+2<W.heap.size:=by have:=hB.size;simp at this;omega
    have hBW:Below W.heap.size W (W.alloc (.cells #[.int .i64 (evAt k.s x.val).t,.int .i64 (evAt k.s x.val).s,.int .i64 (evAt k.s x.val).q,.int .i64 (evAt k.s x.val).d,.int .i64 (evAt k.s x.val).k,.int .i64 (evAt k.s x.val).v,.int .i64 (evAt k.s x.val).g] 90)):=(Below.refl _ W).alloc (Nat.le_refl _) _
    exact hK _ _ ((KeepsOthers.alloc _ _).from _) (Same2.below hBW hz (by omega)) ⟨⟨hp,(hBW.cell (p:=⟨w.heap.size+1,0,none⟩) (by simp;omega)).trans hc,(hBW.frozen (p:=⟨w.heap.size+1,0,none⟩) (by simp;omega)).trans hf⟩,hB.trans (hBW.mono (by omega))⟩ ⟨W.heap.size,by omega,by simp,EvAt.new _ _ _ _ _ _ _ _ _,rfl⟩
  case body=>
    rintro lp pre x a' W hlp _ ⟨⟨hp,hc,hf⟩,hB⟩ ⟨Bx,h1,h2,h3,rfl⟩ hlt
    have hz:w.heap.size+2<W.heap.size:=by have:=hB.size;simp at this;omega
    obtain⟨f0,f1,f2,f3,f4,f5,f6⟩:=h3.lits
    have HP:Hid (∀x∈pre,suB k.m (evAt k.s x.val)=true):=hp
    have HB:Hid (Below (w.heap.size+3) (((w.alloc (.cells #[.int .i64 k.m.n,.int .i64 k.m.s,.slice ai k.m.i.length ci,.slice ah k.m.h.length ch,.slice ae k.m.e.length ce,.int .i64 k.m.z,.slice ad k.d.length cd,.slice ap k.p.length cp,.slice ab k.b.length cb,.int .i64 k.t,.int .i64 k.q,.bool k.f,.slice au k.s.length cu,.slice ax k.x.length cx] 41)).alloc (.cells #[.bool false] 4)).alloc (.cells #[.slice au k.s.length cu] 34)) W):=hB
    have HB0:=zae hB0
    have HBW:Hid (Below w.heap.size w W):=hB0.trans (hB.mono (by omega))
    have HKW:Hid (Bk W w.heap.size 41 #[.int .i64 k.m.n,.int .i64 k.m.s,.slice ai k.m.i.length ci,.slice ah k.m.h.length ch,.slice ae k.m.e.length ce,.int .i64 k.m.z,.slice ad k.d.length cd,.slice ap k.p.length cp,.slice ab k.b.length cb,.int .i64 k.t,.int .i64 k.q,.bool k.f,.slice au k.s.length cu,.slice ax k.x.length cx]):=(hB.block w.heap.size (by omega)).trans cK
    have HEW:=zae h3
    clear hp hB h3 cR cS hI hB0 cK hI0
    generalize (((w.alloc (.cells #[.int .i64 k.m.n,.int .i64 k.m.s,.slice ai k.m.i.length ci,.slice ah k.m.h.length ch,.slice ae k.m.e.length ce,.int .i64 k.m.z,.slice ad k.d.length cd,.slice ap k.p.length cp,.slice ab k.b.length cb,.int .i64 k.t,.int .i64 k.q,.bool k.f,.slice au k.s.length cu,.slice ax k.x.length cx] 41)).alloc (.cells #[.bool false] 4)).alloc (.cells #[.slice au k.s.length cu] 34))=W9 at HB HB0
    cases hok:(evAt k.s x.val).ok
    · have K1:Hid ((evAt k.s x.val).ok=false):=hok
      clear hok
      gi_wp2_with (refine⟨trivial,?_⟩;gi_at_call 188;refine(CallsIn.inRound lp (callsIn_wide.2 (zbm (evAt k.s x.val) false K1.out _))).mono ?_;rintro e w2 ⟨rfl,hb2⟩;have hc2:=(hb2.cell (p:=⟨w.heap.size+1,0,none⟩) (by simp;omega)).trans hc;have hf2:=(hb2.frozen (p:=⟨w.heap.size+1,0,none⟩) (by simp;omega)).trans hf)
      refine⟨trivial,?_⟩
      gi_wp2
      exact⟨((yvh hb2).trans (KeepsOthers.setCell _ _ _)).from _,⟨rfl,⟨x,by unfold suB evIn;rw [K1.out];rfl⟩,World.cell?_setCell_same' _ _ _ (by rw [hc2];rfl)⟩,(HBW.out.trans (Below.mono hb2 (by omega))).setCell (p:=⟨w.heap.size+1,0,none⟩) (by simp) _⟩
    · have K1:Hid ((evAt k.s x.val).ok=true):=hok
      clear hok
      cases hfi:fitB k.m (evAt k.s x.val).t (evAt k.s x.val).d (evAt k.s x.val).k
      · have K2:Hid (fitB k.m (evAt k.s x.val).t (evAt k.s x.val).d (evAt k.s x.val).k=false):=hfi
        clear hfi
        gi_wp2_with (first|(refine⟨trivial,?_⟩;gi_at_call 188;refine(CallsIn.inRound lp (callsIn_wide.2 (zbm (evAt k.s x.val) true K1.out _))).mono ?_;rintro e w2 ⟨rfl,hb2⟩;have hc2:=(hb2.cell (p:=⟨w.heap.size+1,0,none⟩) (by simp;omega)).trans hc;have hf2:=(hb2.frozen (p:=⟨w.heap.size+1,0,none⟩) (by simp;omega)).trans hf;have k0:=(HKW.out.below hb2).cell (i:=0) rfl;have k1:=(HKW.out.below hb2).cell (i:=1) rfl;have k2:=(HKW.out.below hb2).cell (i:=2) rfl;have k3:=(HKW.out.below hb2).cell (i:=3) rfl;have k4:=(HKW.out.below hb2).cell (i:=4) rfl;have k5:=(HKW.out.below hb2).cell (i:=5) rfl;obtain⟨u0,u1,u2,u3,u4,u5,u6⟩:=(HEW.out.below hb2 h2).lits)|(refine⟨trivial,?_⟩;gi_at_call 201;refine(CallsIn.inRound lp (callsIn_wide.2 (zbz _ k.m (evAt k.s x.val) false K2.out _ (HM.out.below (trm HBW.out hb2))))).mono ?_;rintro e w5 ⟨rfl,hb5⟩;have hc5:=(hb5.cell (p:=⟨w.heap.size+1,0,none⟩) (by have:=hb2.size;simp;omega)).trans hc2;have hf5:=(hb5.frozen (p:=⟨w.heap.size+1,0,none⟩) (by have:=hb2.size;simp;omega)).trans hf2))
        exact⟨((yvh (trm hb2 hb5)).trans (KeepsOthers.setCell _ _ _)).from _,⟨rfl,⟨x,by unfold suB evIn;rw [K1.out,K2.out];rfl⟩,World.cell?_setCell_same' _ _ _ (by rw [hc5];rfl)⟩,(HBW.out.trans (Below.mono (trm hb2 hb5) (by omega))).setCell (p:=⟨w.heap.size+1,0,none⟩) (by simp) _⟩
      · have K2:Hid (fitB k.m (evAt k.s x.val).t (evAt k.s x.val).d (evAt k.s x.val).k=true):=hfi
        clear hfi
        by_cases hg:(evAt k.s x.val).g=0
        case neg=>
          have hg':((evAt k.s x.val).g !=0)=true:=by simpa using hg
          have K3:Hid (decide ((evAt k.s x.val).g=0)=false):=decide_eq_false hg
          clear hg
          gi_wp2_with (first|(refine⟨trivial,?_⟩;gi_at_call 188;refine(CallsIn.inRound lp (callsIn_wide.2 (zbm (evAt k.s x.val) true K1.out _))).mono ?_;rintro e w2 ⟨rfl,hb2⟩;have hc2:=(hb2.cell (p:=⟨w.heap.size+1,0,none⟩) (by simp;omega)).trans hc;have hf2:=(hb2.frozen (p:=⟨w.heap.size+1,0,none⟩) (by simp;omega)).trans hf;have k0:=(HKW.out.below hb2).cell (i:=0) rfl;have k1:=(HKW.out.below hb2).cell (i:=1) rfl;have k2:=(HKW.out.below hb2).cell (i:=2) rfl;have k3:=(HKW.out.below hb2).cell (i:=3) rfl;have k4:=(HKW.out.below hb2).cell (i:=4) rfl;have k5:=(HKW.out.below hb2).cell (i:=5) rfl;obtain⟨u0,u1,u2,u3,u4,u5,u6⟩:=(HEW.out.below hb2 h2).lits)|(refine⟨trivial,?_⟩;gi_at_call 201;refine(CallsIn.inRound lp (callsIn_wide.2 (zbz _ k.m (evAt k.s x.val) true K2.out _ (HM.out.below (trm HBW.out hb2))))).mono ?_;rintro e w5 ⟨rfl,hb5⟩;have hc5:=(hb5.cell (p:=⟨w.heap.size+1,0,none⟩) (by have:=hb2.size;simp;omega)).trans hc2;have hf5:=(hb5.frozen (p:=⟨w.heap.size+1,0,none⟩) (by have:=hb2.size;simp;omega)).trans hf2;obtain⟨t0,t1,t2,t3,t4,t5,t6⟩:=(HEW.out.below (trm hb2 hb5) h2).lits))
          exact⟨((yvh (trm hb2 hb5)).trans (KeepsOthers.setCell _ _ _)).from _,⟨rfl,⟨x,by unfold suB;rw [K3.out,Bool.and_false]⟩,World.cell?_setCell_same' _ _ _ (by rw [hc5];rfl)⟩,(HBW.out.trans (Below.mono (trm hb2 hb5) (by omega))).setCell (p:=⟨w.heap.size+1,0,none⟩) (by simp) _⟩
        have hg':((evAt k.s x.val).g !=0)=false:=by simpa using hg
        have K3:Hid ((evAt k.s x.val).g=0):=hg
        clear hg
        gi_wp2_with (first|(refine⟨trivial,?_⟩;gi_at_call 188;refine(CallsIn.inRound lp (callsIn_wide.2 (zbm (evAt k.s x.val) true K1.out _))).mono ?_;rintro e w2 ⟨rfl,hb2⟩;have hc2:=(hb2.cell (p:=⟨w.heap.size+1,0,none⟩) (by simp;omega)).trans hc;have hf2:=(hb2.frozen (p:=⟨w.heap.size+1,0,none⟩) (by simp;omega)).trans hf;have k0:=(HKW.out.below hb2).cell (i:=0) rfl;have k1:=(HKW.out.below hb2).cell (i:=1) rfl;have k2:=(HKW.out.below hb2).cell (i:=2) rfl;have k3:=(HKW.out.below hb2).cell (i:=3) rfl;have k4:=(HKW.out.below hb2).cell (i:=4) rfl;have k5:=(HKW.out.below hb2).cell (i:=5) rfl;obtain⟨u0,u1,u2,u3,u4,u5,u6⟩:=(HEW.out.below hb2 h2).lits)|(refine⟨trivial,?_⟩;gi_at_call 201;refine(CallsIn.inRound lp (callsIn_wide.2 (zbz _ k.m (evAt k.s x.val) true K2.out _ (HM.out.below (trm HBW.out hb2))))).mono ?_;rintro e w5 ⟨rfl,hb5⟩;have hc5:=(hb5.cell (p:=⟨w.heap.size+1,0,none⟩) (by have:=hb2.size;simp;omega)).trans hc2;have hf5:=(hb5.frozen (p:=⟨w.heap.size+1,0,none⟩) (by have:=hb2.size;simp;omega)).trans hf2;obtain⟨t0,t1,t2,t3,t4,t5,t6⟩:=(HEW.out.below (trm hb2 hb5) h2).lits))
        exact⟨(yvh (trm hb2 hb5)).from _,Same2.below (trm hb2 hb5) hz (by omega),⟨fun y hy=>(List.mem_append.1 hy).elim (HP.out y) (fun e=>by simp at e;subst e;exact suB_iff.2 ⟨K1.out,K2.out,K3.out⟩),hc5,hf5⟩,HB.out.trans (Below.mono (trm hb2 hb5) (by omega))⟩
  case done=>
    rintro D ys W hD rfl ⟨⟨hp,hc,hf⟩,hB⟩ hK
    have HP:Hid (∀i,i<k.s.length→suB k.m (evAt k.s i)=true):=fun i hi=>hp ⟨i,hi⟩ (List.mem_finRange _)
    have HBW:Hid (Below w.heap.size w W):=hB0.trans (hB.mono (by omega))
    have HKW:Hid (Bk W w.heap.size 41 #[.int .i64 k.m.n,.int .i64 k.m.s,.slice ai k.m.i.length ci,.slice ah k.m.h.length ch,.slice ae k.m.e.length ce,.int .i64 k.m.z,.slice ad k.d.length cd,.slice ap k.p.length cp,.slice ab k.b.length cb,.int .i64 k.t,.int .i64 k.q,.bool k.f,.slice au k.s.length cu,.slice ax k.x.length cx]):=(hB.block w.heap.size (by omega)).trans cK
    have HSW:=zae (HSUI.out.below HBW.out)
    have hz:w.heap.size+2<W.heap.size:=by have:=hB.size;simp at this;omega
    have hz0:0<W.heap.size:=by omega
    have hD9:w.heap.size≤D:=by simp at hD;omega
    have q12:=HKW.out.cell (i:=12) rfl
    clear hp hB cR cS hI hB0 cK hI0 hD
    by_cases hord:∀i,i<k.s.length-1→(evAt k.s i).ecmp (evAt k.s (i+1))= -1
    case neg=>
      have HO:Hid (false=true↔ ∀i,i<k.s.length-1→(evAt k.s i).ecmp (evAt k.s (i+1))= -1):=⟨fun e=>(by cases e),fun e=>(hord e).elim⟩
      have HN:Hid (zcr k=false):=ywj (fun h=>hord (sureIB_iff.1 h).2.1)
      clear hord
      gi_wp2_with (refine⟨trivial,?_⟩;gi_at_call 202;refine(callsIn_wide.2 (zdm au cu k.s false HO.out _ hsl hz0 HSW.out)).mono ?_;rintro e w2 ⟨rfl,hb2⟩;have hc2:=(hb2.cell (p:=⟨w.heap.size+1,0,none⟩) (by simp;omega)).trans hc;have hf2:=(hb2.frozen (p:=⟨w.heap.size+1,0,none⟩) (by simp;omega)).trans hf;have HB2:=hdq (trm HBW.out hb2);have hs2:W.heap.size≤w2.heap.size:=hb2.size)
      refine⟨trivial,?_⟩
      gi_wp2
      have hK':=((yvh hb2).trans (KeepsOthers.setCell _ ⟨w.heap.size+1,0,none⟩ (.bool false))).same D _ hK rfl
      refine⟨by simp,.inl ⟨_,_,rfl,run_takeDeferred hK',?_⟩⟩
      have hc9:=cell_kept (World.cell?_setCell_same' _ ⟨w.heap.size+1,0,none⟩ (.bool false) (by rw [hc2];rfl)) (grownBy_putObj' _ D (.deferred none)) (fun r e=>by cases e;exact⟨_,hK',rfl⟩)
      refine⟨.bool false,?_,ye8 HN.out.symm,(HB2.out.setCell (p:=⟨w.heap.size+1,0,none⟩) (by simp) _).trans (belowK_b (w:=w) (Nat.le_refl _) _ D _ _ (by omega) hK' rfl rfl)⟩
      simp [results,Tryz.f135,go_sem,hc9]
    have HO:Hid (true=true↔ ∀i,i<k.s.length-1→(evAt k.s i).ecmp (evAt k.s (i+1))= -1):=⟨fun _=>hord,fun _=>rfl⟩
    clear hord
    cases hab:zbc k
    · have HAB:Hid (zbc k=false):=hab
      have HN:Hid (zcr k=false):=ywj (fun h=>by have h1:=aheadB_iff.2 (sureIB_iff.1 h).2.2;rw [hab]at h1;cases h1)
      clear hab
      gi_wp2_with (first|(refine⟨trivial,?_⟩;gi_at_call 202;refine(callsIn_wide.2 (zdm au cu k.s true HO.out _ hsl hz0 HSW.out)).mono ?_;rintro e w2 ⟨rfl,hb2⟩;have hc2:=(hb2.cell (p:=⟨w.heap.size+1,0,none⟩) (by simp;omega)).trans hc;have hf2:=(hb2.frozen (p:=⟨w.heap.size+1,0,none⟩) (by simp;omega)).trans hf;have HB2:=hdq (trm HBW.out hb2);have hs2:W.heap.size≤w2.heap.size:=hb2.size;have k0:=(HKW.out.below hb2).cell (i:=0) rfl;have k1:=(HKW.out.below hb2).cell (i:=1) rfl;have k2:=(HKW.out.below hb2).cell (i:=2) rfl;have k3:=(HKW.out.below hb2).cell (i:=3) rfl;have k4:=(HKW.out.below hb2).cell (i:=4) rfl;have k5:=(HKW.out.below hb2).cell (i:=5) rfl;have k6:=(HKW.out.below hb2).cell (i:=6) rfl;have k7:=(HKW.out.below hb2).cell (i:=7) rfl;have k8:=(HKW.out.below hb2).cell (i:=8) rfl;have k9:=(HKW.out.below hb2).cell (i:=9) rfl;have k10:=(HKW.out.below hb2).cell (i:=10) rfl;have k11:=(HKW.out.below hb2).cell (i:=11) rfl;have k12:=(HKW.out.below hb2).cell (i:=12) rfl;have k13:=(HKW.out.below hb2).cell (i:=13) rfl)|(refine⟨trivial,?_⟩;gi_at_call 203;refine(callsIn_wide.2 (zhz _ k false HAB.out _ HSK.out HOK.out (HK.out.under HB2.out))).mono ?_;rintro e w5 ⟨rfl,hb5⟩;have hc5:=(hb5.cell (p:=⟨w.heap.size+1,0,none⟩) (by simp;omega)).trans hc2;have hf5:=(hb5.frozen (p:=⟨w.heap.size+1,0,none⟩) (by simp;omega)).trans hf2;have HB5:=hdq (trm HB2.out hb5)))
      have hK':=(((yvh hb2).trans (yvh hb5)).trans (KeepsOthers.setCell _ ⟨w.heap.size+1,0,none⟩ (.bool false))).same D _ hK rfl
      refine⟨by simp,.inl ⟨_,_,rfl,run_takeDeferred hK',?_⟩⟩
      have hc9:=cell_kept (World.cell?_setCell_same' _ ⟨w.heap.size+1,0,none⟩ (.bool false) (by rw [hc5];rfl)) (grownBy_putObj' _ D (.deferred none)) (fun r e=>by cases e;exact⟨_,hK',rfl⟩)
      refine⟨.bool false,?_,ye8 HN.out.symm,(HB5.out.setCell (p:=⟨w.heap.size+1,0,none⟩) (by simp) _).trans (belowK_b (w:=w) (Nat.le_refl _) _ D _ _ (by omega) hK' rfl rfl)⟩
      simp [results,Tryz.f135,go_sem,hc9]
    · have HAB:Hid (zbc k=true):=hab
      have HY:Hid (zcr k=true):=sureIB_iff.2 ⟨fun i hi=>suB_two.1 (HP.out i hi),HO.out.1 rfl,aheadB_iff.1 hab⟩
      clear hab
      gi_wp2_with (first|(refine⟨trivial,?_⟩;gi_at_call 202;refine(callsIn_wide.2 (zdm au cu k.s true HO.out _ hsl hz0 HSW.out)).mono ?_;rintro e w2 ⟨rfl,hb2⟩;have hc2:=(hb2.cell (p:=⟨w.heap.size+1,0,none⟩) (by simp;omega)).trans hc;have hf2:=(hb2.frozen (p:=⟨w.heap.size+1,0,none⟩) (by simp;omega)).trans hf;have HB2:=hdq (trm HBW.out hb2);have hs2:W.heap.size≤w2.heap.size:=hb2.size;have k0:=(HKW.out.below hb2).cell (i:=0) rfl;have k1:=(HKW.out.below hb2).cell (i:=1) rfl;have k2:=(HKW.out.below hb2).cell (i:=2) rfl;have k3:=(HKW.out.below hb2).cell (i:=3) rfl;have k4:=(HKW.out.below hb2).cell (i:=4) rfl;have k5:=(HKW.out.below hb2).cell (i:=5) rfl;have k6:=(HKW.out.below hb2).cell (i:=6) rfl;have k7:=(HKW.out.below hb2).cell (i:=7) rfl;have k8:=(HKW.out.below hb2).cell (i:=8) rfl;have k9:=(HKW.out.below hb2).cell (i:=9) rfl;have k10:=(HKW.out.below hb2).cell (i:=10) rfl;have k11:=(HKW.out.below hb2).cell (i:=11) rfl;have k12:=(HKW.out.below hb2).cell (i:=12) rfl;have k13:=(HKW.out.below hb2).cell (i:=13) rfl)|(refine⟨trivial,?_⟩;gi_at_call 203;refine(callsIn_wide.2 (zhz _ k true HAB.out _ HSK.out HOK.out (HK.out.under HB2.out))).mono ?_;rintro e w5 ⟨rfl,hb5⟩;have hc5:=(hb5.cell (p:=⟨w.heap.size+1,0,none⟩) (by simp;omega)).trans hc2;have hf5:=(hb5.frozen (p:=⟨w.heap.size+1,0,none⟩) (by simp;omega)).trans hf2;have HB5:=hdq (trm HB2.out hb5)))
      have hK':=(((yvh hb2).trans (yvh hb5)).trans (KeepsOthers.setCell _ ⟨w.heap.size+1,0,none⟩ (.bool true))).same D _ hK rfl
      refine⟨by simp,.inl ⟨_,_,rfl,run_takeDeferred hK',?_⟩⟩
      have hc9:=cell_kept (World.cell?_setCell_same' _ ⟨w.heap.size+1,0,none⟩ (.bool true) (by rw [hc5];rfl)) (grownBy_putObj' _ D (.deferred none)) (fun r e=>by cases e;exact⟨_,hK',rfl⟩)
      refine⟨.bool true,?_,ye8 HY.out.symm,(HB5.out.setCell (p:=⟨w.heap.size+1,0,none⟩) (by simp) _).trans (belowK_b (w:=w) (Nat.le_refl _) _ D _ _ (by omega) hK' rfl rfl)⟩
      simp [results,Tryz.f135,go_sem,hc9]
  case stop=>
    rintro D c pre W hD _ ⟨⟨rfl,⟨x,hx⟩,hc⟩,hB⟩ hK
    have HX:=zae hx
    have HN:Hid (zcr k=false):=ywj (fun h=>by have h1:=suB_two.2 ((sureIB_iff.1 h).1 x.val x.isLt);rw [hx]at h1;cases h1)
    clear hx
    gi_wp2
    refine⟨by simp,.inl ⟨_,_,rfl,run_takeDeferred hK,?_⟩⟩
    have hc5:=cell_kept hc (grownBy_putObj' _ D (.deferred none)) (fun r e=>by cases e;exact⟨_,hK,rfl⟩)
    refine⟨.bool false,?_,ye8 HN.out.symm,hB.trans (belowK_b (w:=w) (Nat.le_refl _) W D _ _ (by simp at hD;omega) hK rfl rfl)⟩
    simp [results,Tryz.f135,go_sem,hc5]
set_option maxHeartbeats 1000000
open Go.RowKit
abbrev i64 (z:Int):Value:= .int .i64 z
abbrev vec (a b c d:Int):Value:= .agg #[i64 a,i64 b,i64 c,i64 d]
abbrev yzd (a b c d:Int):Obj:= .cells #[i64 a,i64 b,i64 c,i64 d] 194
def zl7 (l:List Int):Value:=if vok l=true then vec (intAt l 0) (intAt l 1) (intAt l 2) (intAt l 3)else vec 0 0 0 0
theorem zfb {z:Int} (h0: -1≤z) (h1:z≤1):(decide (-1≤z)&&decide (z≤1))=true:=by simp [h0,h1]
theorem decNo {z:Int} (h:z< -1∨1<z):(decide (-1≤z)&&decide (z≤1))=false:=by
  rw [Bool.and_eq_false_iff];simp;omega
theorem of_at0 (b off cap:Nat) (x0:Int) (w:World) (hb:b<w.heap.size) (h0:w.cell? ⟨b,off,none⟩=some (.int .i64 x0)) (d0:(decide (-1≤x0)&&decide (x0≤1))=false):
    Calls Tryz.prog 157 #[.slice (some ⟨b,off,none⟩) 4 cap] w fun e w'=>e= .returned (.tuple #[vec 0 0 0 0,.bool false])∧Below w.heap.size w w':=by
  go_enter Tryz.func157,Tryz.ntmps157
  go_wp2
  go_loopw [13] (fun i wr=>(i= .int .i64 0∧wr=(w.alloc (yzd 0 0 0 0)).alloc (yzd 0 0 0 0))) (fun i _=>4-(intOf i).toNat)
  case atStart=>exact⟨rfl,rfl⟩
  case round=>
    rcases hrel with ⟨rfl,rfl⟩
    · go_wp2_with (go_at_call 89;refine(yw5 x0 _ _ _).mono ?_;rintro e w' ⟨rfl,rfl⟩;rw [d0])
      exact bodyPost_ret (v:= .tuple #[vec 0 0 0 0,.bool false]) (by simp [results,Tryz.results157,go_sem]) rfl ⟨rfl,((Below.refl _ w).alloc (Nat.le_refl _) _).alloc (by simp) _⟩
theorem of_at1 (b off cap:Nat) (x0 x1:Int) (w:World) (hb:b<w.heap.size) (h0:w.cell? ⟨b,off,none⟩=some (.int .i64 x0)) (h1:w.cell? ⟨b,off+1,none⟩=some (.int .i64 x1)) (d0:(decide (-1≤x0)&&decide (x0≤1))=true) (d1:(decide (-1≤x1)&&decide (x1≤1))=false):
    Calls Tryz.prog 157 #[.slice (some ⟨b,off,none⟩) 4 cap] w fun e w'=>e= .returned (.tuple #[vec 0 0 0 0,.bool false])∧Below w.heap.size w w':=by
  go_enter Tryz.func157,Tryz.ntmps157
  go_wp2
  go_loopw [13] (fun i wr=>(i= .int .i64 0∧wr=(w.alloc (yzd 0 0 0 0)).alloc (yzd 0 0 0 0))∨(i= .int .i64 1∧wr=(w.alloc (yzd 0 0 0 0)).alloc (yzd x0 0 0 0))) (fun i _=>4-(intOf i).toNat)
  case atStart=>exact .inl ⟨rfl,rfl⟩
  case round=>
    rcases hrel with ⟨rfl,rfl⟩|⟨rfl,rfl⟩
    · go_wp2_with (go_at_call 89;refine(yw5 x0 _ _ _).mono ?_;rintro e w' ⟨rfl,rfl⟩;rw [d0])
      go_roundw
      case rel=>exact .inr (⟨rfl,trivial⟩)
      case measure=>simp [intOf]
    · go_wp2_with (go_at_call 89;refine(yw5 x1 _ _ _).mono ?_;rintro e w' ⟨rfl,rfl⟩;rw [d1])
      exact bodyPost_ret (v:= .tuple #[vec 0 0 0 0,.bool false]) (by simp [results,Tryz.results157,go_sem]) rfl ⟨rfl,((Below.refl _ w).alloc (Nat.le_refl _) _).alloc (by simp) _⟩
theorem of_at2 (b off cap:Nat) (x0 x1 x2:Int) (w:World) (hb:b<w.heap.size) (h0:w.cell? ⟨b,off,none⟩=some (.int .i64 x0)) (h1:w.cell? ⟨b,off+1,none⟩=some (.int .i64 x1)) (h2:w.cell? ⟨b,off+2,none⟩=some (.int .i64 x2)) (d0:(decide (-1≤x0)&&decide (x0≤1))=true) (d1:(decide (-1≤x1)&&decide (x1≤1))=true) (d2:(decide (-1≤x2)&&decide (x2≤1))=false):
    Calls Tryz.prog 157 #[.slice (some ⟨b,off,none⟩) 4 cap] w fun e w'=>e= .returned (.tuple #[vec 0 0 0 0,.bool false])∧Below w.heap.size w w':=by
  go_enter Tryz.func157,Tryz.ntmps157
  go_wp2
  go_loopw [13] (fun i wr=>(i= .int .i64 0∧wr=(w.alloc (yzd 0 0 0 0)).alloc (yzd 0 0 0 0))∨(i= .int .i64 1∧wr=(w.alloc (yzd 0 0 0 0)).alloc (yzd x0 0 0 0))∨(i= .int .i64 2∧wr=(w.alloc (yzd 0 0 0 0)).alloc (yzd x0 x1 0 0))) (fun i _=>4-(intOf i).toNat)
  case atStart=>exact .inl ⟨rfl,rfl⟩
  case round=>
    rcases hrel with ⟨rfl,rfl⟩|⟨rfl,rfl⟩|⟨rfl,rfl⟩
    · go_wp2_with (go_at_call 89;refine(yw5 x0 _ _ _).mono ?_;rintro e w' ⟨rfl,rfl⟩;rw [d0])
      go_roundw
      case rel=>exact .inr (.inl ⟨rfl,trivial⟩)
      case measure=>simp [intOf]
    · go_wp2_with (go_at_call 89;refine(yw5 x1 _ _ _).mono ?_;rintro e w' ⟨rfl,rfl⟩;rw [d1])
      go_roundw
      case rel=>exact .inr (.inr (⟨rfl,trivial⟩))
      case measure=>simp [intOf]
    · go_wp2_with (go_at_call 89;refine(yw5 x2 _ _ _).mono ?_;rintro e w' ⟨rfl,rfl⟩;rw [d2])
      exact bodyPost_ret (v:= .tuple #[vec 0 0 0 0,.bool false]) (by simp [results,Tryz.results157,go_sem]) rfl ⟨rfl,((Below.refl _ w).alloc (Nat.le_refl _) _).alloc (by simp) _⟩
theorem of_at3 (b off cap:Nat) (x0 x1 x2 x3:Int) (w:World) (hb:b<w.heap.size) (h0:w.cell? ⟨b,off,none⟩=some (.int .i64 x0)) (h1:w.cell? ⟨b,off+1,none⟩=some (.int .i64 x1)) (h2:w.cell? ⟨b,off+2,none⟩=some (.int .i64 x2)) (h3:w.cell? ⟨b,off+3,none⟩=some (.int .i64 x3)) (d0:(decide (-1≤x0)&&decide (x0≤1))=true) (d1:(decide (-1≤x1)&&decide (x1≤1))=true) (d2:(decide (-1≤x2)&&decide (x2≤1))=true) (d3:(decide (-1≤x3)&&decide (x3≤1))=false):
    Calls Tryz.prog 157 #[.slice (some ⟨b,off,none⟩) 4 cap] w fun e w'=>e= .returned (.tuple #[vec 0 0 0 0,.bool false])∧Below w.heap.size w w':=by
  go_enter Tryz.func157,Tryz.ntmps157
  go_wp2
  go_loopw [13] (fun i wr=>(i= .int .i64 0∧wr=(w.alloc (yzd 0 0 0 0)).alloc (yzd 0 0 0 0))∨(i= .int .i64 1∧wr=(w.alloc (yzd 0 0 0 0)).alloc (yzd x0 0 0 0))∨(i= .int .i64 2∧wr=(w.alloc (yzd 0 0 0 0)).alloc (yzd x0 x1 0 0))∨(i= .int .i64 3∧wr=(w.alloc (yzd 0 0 0 0)).alloc (yzd x0 x1 x2 0))) (fun i _=>4-(intOf i).toNat)
  case atStart=>exact .inl ⟨rfl,rfl⟩
  case round=>
    rcases hrel with ⟨rfl,rfl⟩|⟨rfl,rfl⟩|⟨rfl,rfl⟩|⟨rfl,rfl⟩
    · go_wp2_with (go_at_call 89;refine(yw5 x0 _ _ _).mono ?_;rintro e w' ⟨rfl,rfl⟩;rw [d0])
      go_roundw
      case rel=>exact .inr (.inl ⟨rfl,trivial⟩)
      case measure=>simp [intOf]
    · go_wp2_with (go_at_call 89;refine(yw5 x1 _ _ _).mono ?_;rintro e w' ⟨rfl,rfl⟩;rw [d1])
      go_roundw
      case rel=>exact .inr (.inr (.inl ⟨rfl,trivial⟩))
      case measure=>simp [intOf]
    · go_wp2_with (go_at_call 89;refine(yw5 x2 _ _ _).mono ?_;rintro e w' ⟨rfl,rfl⟩;rw [d2])
      go_roundw
      case rel=>exact .inr (.inr (.inr (⟨rfl,trivial⟩)))
      case measure=>simp [intOf]
    · go_wp2_with (go_at_call 89;refine(yw5 x3 _ _ _).mono ?_;rintro e w' ⟨rfl,rfl⟩;rw [d3])
      exact bodyPost_ret (v:= .tuple #[vec 0 0 0 0,.bool false]) (by simp [results,Tryz.results157,go_sem]) rfl ⟨rfl,((Below.refl _ w).alloc (Nat.le_refl _) _).alloc (by simp) _⟩
theorem of_at4 (b off cap:Nat) (x0 x1 x2 x3:Int) (w:World) (hb:b<w.heap.size) (h0:w.cell? ⟨b,off,none⟩=some (.int .i64 x0)) (h1:w.cell? ⟨b,off+1,none⟩=some (.int .i64 x1)) (h2:w.cell? ⟨b,off+2,none⟩=some (.int .i64 x2)) (h3:w.cell? ⟨b,off+3,none⟩=some (.int .i64 x3)) (d0:(decide (-1≤x0)&&decide (x0≤1))=true) (d1:(decide (-1≤x1)&&decide (x1≤1))=true) (d2:(decide (-1≤x2)&&decide (x2≤1))=true) (d3:(decide (-1≤x3)&&decide (x3≤1))=true):
    Calls Tryz.prog 157 #[.slice (some ⟨b,off,none⟩) 4 cap] w fun e w'=>e= .returned (.tuple #[vec x0 x1 x2 x3,.bool true])∧Below w.heap.size w w':=by
  go_enter Tryz.func157,Tryz.ntmps157
  go_wp2
  go_loopw [13] (fun i wr=>(i= .int .i64 0∧wr=(w.alloc (yzd 0 0 0 0)).alloc (yzd 0 0 0 0))∨(i= .int .i64 1∧wr=(w.alloc (yzd 0 0 0 0)).alloc (yzd x0 0 0 0))∨(i= .int .i64 2∧wr=(w.alloc (yzd 0 0 0 0)).alloc (yzd x0 x1 0 0))∨(i= .int .i64 3∧wr=(w.alloc (yzd 0 0 0 0)).alloc (yzd x0 x1 x2 0))∨(i= .int .i64 4∧wr=(w.alloc (yzd 0 0 0 0)).alloc (yzd x0 x1 x2 x3))) (fun i _=>4-(intOf i).toNat)
  case atStart=>exact .inl ⟨rfl,rfl⟩
  case round=>
    rcases hrel with ⟨rfl,rfl⟩|⟨rfl,rfl⟩|⟨rfl,rfl⟩|⟨rfl,rfl⟩|⟨rfl,rfl⟩
    · go_wp2_with (go_at_call 89;refine(yw5 x0 _ _ _).mono ?_;rintro e w' ⟨rfl,rfl⟩;rw [d0])
      go_roundw
      case rel=>exact .inr (.inl ⟨rfl,trivial⟩)
      case measure=>simp [intOf]
    · go_wp2_with (go_at_call 89;refine(yw5 x1 _ _ _).mono ?_;rintro e w' ⟨rfl,rfl⟩;rw [d1])
      go_roundw
      case rel=>exact .inr (.inr (.inl ⟨rfl,trivial⟩))
      case measure=>simp [intOf]
    · go_wp2_with (go_at_call 89;refine(yw5 x2 _ _ _).mono ?_;rintro e w' ⟨rfl,rfl⟩;rw [d2])
      go_roundw
      case rel=>exact .inr (.inr (.inr (.inl ⟨rfl,trivial⟩)))
      case measure=>simp [intOf]
    · go_wp2_with (go_at_call 89;refine(yw5 x3 _ _ _).mono ?_;rintro e w' ⟨rfl,rfl⟩;rw [d3])
      go_roundw
      case rel=>exact .inr (.inr (.inr (.inr (⟨rfl,trivial⟩))))
      case measure=>simp [intOf]
    · go_wp2
      exact bodyPost_ret (v:= .tuple #[vec x0 x1 x2 x3,.bool true]) (by simp [results,Tryz.results157,go_sem]) rfl ⟨rfl,((Below.refl _ w).alloc (Nat.le_refl _) _).alloc (by simp) _⟩
theorem of_long (a:Option Addr) (n cap:Nat) (w:World) (_hn:n≤4611686018427387904) (h4:¬(n:Int)=4):
    Calls Tryz.prog 157 #[.slice a n cap] w fun e w'=>e= .returned (.tuple #[vec 0 0 0 0,.bool false])∧Below w.heap.size w w':=by
  go_enter Tryz.func157,Tryz.ntmps157
  go_wp2
  exact bodyPost_ret (v:= .tuple #[vec 0 0 0 0,.bool false]) (by simp [results,Tryz.results157,go_sem]) rfl ⟨rfl,(Below.refl _ w).alloc (Nat.le_refl _) _⟩
theorem vec_no {l:List Int} (h:vok l=false):zl7 l=vec 0 0 0 0:=by simp [zl7,h]
theorem of_any (x:Value) (l:List Int) (w:World) (hl:l.length≤4611686018427387904) (h:IsI w x l):
    Calls Tryz.prog 157 #[x] w fun e w'=>e= .returned (.tuple #[zl7 l,.bool (vok l)])∧Below w.heap.size w w':=by
  obtain⟨a,cap,rfl,h1,h2,h⟩:=h
  by_cases h4:l.length=4
  · obtain⟨b,off,rfl,hb,hc⟩:=h.resolve_left (by rintro rfl;simp at h4)
    have c0:=hc 0 (by omega)
    have c1:=hc 1 (by omega)
    have c2:=hc 2 (by omega)
    have c3:=hc 3 (by omega)
    rw [Nat.add_zero]at c0
    have no:∀k,k<4→(intAt l k< -1∨1<intAt l k)→Ending.returned (.tuple #[vec 0 0 0 0,.bool false])= .returned (.tuple #[zl7 l,.bool (vok l)]):=fun k hk hb=>by
      have hv:=vok_no (l:=l) (k:=k) (by omega) hb
      rw [vec_no hv,hv]
    rw [h4]
    by_cases e0:intAt l 0< -1∨1<intAt l 0
    · exact(of_at0 b off cap _ w hb c0 (decNo e0)).mono fun e w' ⟨h,k⟩=>⟨h.trans (no 0 (by omega) e0),k⟩
    by_cases e1:intAt l 1< -1∨1<intAt l 1
    · exact(of_at1 b off cap _ _ w hb c0 c1 (zfb (by omega) (by omega)) (decNo e1)).mono fun e w' ⟨h,k⟩=>⟨h.trans (no 1 (by omega) e1),k⟩
    by_cases e2:intAt l 2< -1∨1<intAt l 2
    · exact(of_at2 b off cap _ _ _ w hb c0 c1 c2 (zfb (by omega) (by omega)) (zfb (by omega) (by omega)) (decNo e2)).mono fun e w' ⟨h,k⟩=>⟨h.trans (no 2 (by omega) e2),k⟩
    by_cases e3:intAt l 3< -1∨1<intAt l 3
    · exact(of_at3 b off cap _ _ _ _ w hb c0 c1 c2 c3 (zfb (by omega) (by omega)) (zfb (by omega) (by omega)) (zfb (by omega) (by omega)) (decNo e3)).mono fun e w' ⟨h,k⟩=>⟨h.trans (no 3 (by omega) e3),k⟩
    have hv:vok l=true:=by
      rw [zmz (fun j hj=>by
        have hj4:j=0∨j=1∨j=2∨j=3:=by omega
        rcases hj4 with rfl|rfl|rfl|rfl<;>omega)]
      simp [h4]
    refine(of_at4 b off cap _ _ _ _ w hb c0 c1 c2 c3 (zfb (by omega) (by omega)) (zfb (by omega) (by omega)) (zfb (by omega) (by omega)) (zfb (by omega) (by omega))).mono fun e w' ⟨h,k⟩=>⟨h.trans ?_,k⟩
    simp [zl7,hv]
  · have hv:vok l=false:=by simp [vok,h4]
    refine(of_long a l.length cap w hl (by omega)).mono fun e w' ⟨h,k⟩=>⟨h.trans ?_,k⟩
    rw [vec_no hv,hv]
end Go.Proofs.YtghndljgadpijaaGreat

/- Vectors: the program's VectorOk. -/
namespace Go.Proofs.YtghndljgadpijaaGreat
open Go.RowKit
set_option maxHeartbeats 400000 in
theorem iVok_any (x:Value) (l:List Int) (w:World) (hl:l.length≤4611686018427387904) (h:IsI w x l):
    Calls Tryz.prog 130 #[x] w fun e w'=>e= .returned (.bool (vok l))∧Below w.heap.size w w':=by
  have H:=of_any x l w hl h
  generalize vok l=b at H⊢
  unfold zl7 at H
  split at H
  all_goals
    go_enter Tryz.func130,Tryz.ntmps130
    go_wp2_with (go_at_call 157;refine H.mono ?_;rintro e w1 ⟨rfl,hb⟩)
    go_ret
    exact⟨rfl,hb.alloc hb.size _⟩
theorem zb2 {p:Prop} (h:p):Hid p:=h
theorem ok_parts (m:Md):m.ok=((decide (1≤m.n)&&decide (m.n≤4))&&((decide (0≤m.s)&&decide (m.s≤65535))&&((decide (0≤m.z)&&decide (m.z≤950))&&((decide ((m.i.length:Int)=m.n)&&m.okI)&&((decide (1≤m.h.length∧m.h.length≤4)&&m.okH)&&(decide (m.e.length≤6)&&m.okE)))))):=by
  unfold Md.ok
  rw [Bool.eq_iff_iff]
  simp only [Bool.and_eq_true,decide_eq_true_eq]
  unfold Md.hd
  constructor
  · rintro ⟨⟨⟨⟨h1,h2,h3,h4,h5,h6,h7,h8,h9,h10⟩,hi⟩,hh⟩,he⟩
    exact⟨⟨h1,h2⟩,⟨h3,h4⟩,⟨h9,h10⟩,⟨h5,hi⟩,⟨⟨h6,h7⟩,hh⟩,h8,he⟩
  · rintro ⟨⟨h1,h2⟩,⟨h3,h4⟩,⟨h9,h10⟩,⟨h5,hi⟩,⟨⟨h6,h7⟩,hh⟩,h8,he⟩
    exact⟨⟨⟨⟨h1,h2,h3,h4,h5,h6,h7,h8,h9,h10⟩,hi⟩,hh⟩,he⟩
set_option maxRecDepth 100000 in
set_option maxHeartbeats 8000000 in
theorem iModM (x:Value) (m:Md) (w:World) (hs:SmallM m) (h:IsM w x m):
    Calls Tryz.prog 129 #[x] w fun e w'=>e= .returned (.bool m.ok)∧Below w.heap.size w w':=by
  have HX:Hid (IsM w x m):=h
  obtain⟨vi,vh,vs,rfl,⟨ai,ci,rfl,hi1,hi2,hi3⟩,⟨ah,ch,rfl,hh1,hh2,hh3⟩,⟨ae,ce,rfl,he1,he2,he3⟩⟩:=h
  have hi0:m.i.length≤1048576:=hs.i
  have hh0:m.h.length≤1048576:=hs.h
  have he0:m.e.length≤1048576:=hs.e
  have HS:Hid (SmallM m):=hs
  clear hs hi1 hi2 hh1 hh2 he1 he2
  clear hi3 hh3 he3 hi0 hh0 he0
  obtain⟨W0,hW0⟩:∃W0,w.alloc (.cells #[.int .i64 m.n,.int .i64 m.s,.slice ai m.i.length ci,.slice ah m.h.length ch,.slice ae m.e.length ce,.int .i64 m.z] 36)=W0:=⟨_,rfl⟩
  have HB0:=hdq (beA hW0)
  have HP0:=hdq (bkA hW0)
  obtain⟨p0,p1,p2,p3,p4,p5⟩:=c6_6 HP0.out
  have HOK:=zb2 (ok_parts m)
  generalize m.ok=okv at HOK⊢
  go_enter Tryz.func129,Tryz.ntmps129
  go_wp2_with fail
  clear hW0
  refine(yw5 _ _ _ _).mono ?_
  rintro e w2 ⟨rfl,hw⟩
  have hw':=hw.symm
  clear hw
  subst hw'
  cases hA0:(decide (1≤m.n)&&decide (m.n≤4))
  case false=>
    have hno:okv=false:=by rw [HOK.out,hA0];simp
    subst hno
    clear hA0
    go_wp2
    go_ret
    exact⟨rfl,HB0.out⟩
  have HA0:=zb2 hA0
  clear hA0
  go_wp2_with fail
  refine(yw5 _ _ _ _).mono ?_
  rintro e w2 ⟨rfl,hw⟩
  have hw':=hw.symm
  clear hw
  subst hw'
  cases hA1:(decide (0≤m.s)&&decide (m.s≤65535))
  case false=>
    have hno:okv=false:=by rw [HOK.out,hA1];simp
    subst hno
    clear hA1
    go_wp2
    go_ret
    exact⟨rfl,HB0.out⟩
  have HA1:=zb2 hA1
  clear hA1
  go_wp2_with fail
  refine(yw5 _ _ _ _).mono ?_
  rintro e w2 ⟨rfl,hw⟩
  have hw':=hw.symm
  clear hw
  subst hw'
  cases hA2:(decide (0≤m.z)&&decide (m.z≤950))
  case false=>
    have hno:okv=false:=by rw [HOK.out,hA2];simp
    subst hno
    clear hA2
    go_wp2
    go_ret
    exact⟨rfl,HB0.out⟩
  have HA2:=zb2 hA2
  clear hA2
  go_wp2_with fail
  refine(zmd _ m _ HS.out (HX.out.below HB0.out)).mono ?_
  rintro e w3 ⟨rfl,hb⟩
  have HB3:=trh HB0 hb
  have HP3:=zb2 (HP0.out.below hb)
  clear hb HB0 HP0 p0 p1 p2 p3 p4 p5
  obtain⟨p0,p1,p2,p3,p4,p5⟩:=c6_6 HP3.out
  cases hA3:(decide ((m.i.length:Int)=m.n)&&m.okI)
  case false=>
    have hno:okv=false:=by rw [HOK.out,hA3];simp
    subst hno
    clear hA3
    go_wp2
    go_ret
    exact⟨rfl,HB3.out⟩
  have HA3:=zb2 hA3
  clear hA3
  go_wp2_with fail
  refine(zf9 _ m _ HS.out (HX.out.below HB3.out)).mono ?_
  rintro e w4 ⟨rfl,hb⟩
  have HB4:=trh HB3 hb
  have HP4:=zb2 (HP3.out.below hb)
  clear hb HB3 HP3 p0 p1 p2 p3 p4 p5
  obtain⟨p0,p1,p2,p3,p4,p5⟩:=c6_6 HP4.out
  cases hA4:(decide (1≤m.h.length∧m.h.length≤4)&&m.okH)
  case false=>
    have hno:okv=false:=by rw [HOK.out,hA4];simp
    subst hno
    clear hA4
    go_wp2
    go_ret
    exact⟨rfl,HB4.out⟩
  have HA4:=zb2 hA4
  clear hA4
  go_wp2_with fail
  refine(zir _ m _ HS.out (HX.out.below HB4.out)).mono ?_
  rintro e w5 ⟨rfl,hb⟩
  have HB5:=trh HB4 hb
  have HP5:=zb2 (HP4.out.below hb)
  clear hb HB4 HP4 p0 p1 p2 p3 p4 p5
  have hy:okv=(decide (m.e.length≤6)&&m.okE):=by rw [HOK.out,HA0.out,HA1.out,HA2.out,HA3.out,HA4.out];simp
  subst hy
  clear HOK
  go_wp2
  go_ret
  exact⟨rfl,HB5.out⟩
end Go.Proofs.YtghndljgadpijaaGreat

