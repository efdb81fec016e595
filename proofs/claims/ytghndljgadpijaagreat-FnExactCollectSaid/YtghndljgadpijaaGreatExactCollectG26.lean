/- KIa, KIb, KIc -/
import Derived.Test.YtghndljgadpijaaGreatExactCollectG01
import Derived.Test.YtghndljgadpijaaGreatExactCollectG21
import Derived.Test.YtghndljgadpijaaGreatExactCollectG11
import Derived.Test.YtghndljgadpijaaGreatExactCollectLKSc
import Derived.Deep.Cut
/- The program's areKnown. -/
namespace Go.Proofs.YtghndljgadpijaaGreat
open Go.RowKit Go.Shelf
attribute [local go_sem] Oper.semAt_some
def knB (m:Md) (t:Int) (e:Ev):Bool:=evIn m e&&decide (e.g<t)
theorem knB_iff {m:Md} {t:Int} {e:Ev}:knB m t e=true↔e.ok=true∧fitB m e.t e.d e.k=true∧e.g<t:=by
  unfold knB evIn
  simp only [Bool.and_eq_true,decide_eq_true_eq,and_assoc]
theorem zbz (x:Value) (m:Md) (e:Ev) (b:Bool) (hb:fitB m e.t e.d e.k=b) (w:World) (h:IsM w x m):Calls Tryz.prog 201 #[x,e.val] w fun r w'=>r= .returned (.bool b)∧Below w.heap.size w w':=by
  subst hb
  exact fits_any x m e.t e.s e.q e.d e.k e.v e.g w h
set_option maxRecDepth 100000 in
set_option maxHeartbeats 8000000 in
theorem zht (y:Value) (k:Kn) (a:Option Addr) (cap b:Nat) (l:List Ev) (w:World) (h:IsKern w y k) (hl:l.length≤1048576) (hI:l= []∨ ∃off,a=some ⟨b,off,none⟩∧EvsAt w b off l) (hb:b<w.heap.size):
    Calls Tryz.prog 195 #[y,.slice a l.length cap] w fun e w'=>Says e (∀i,i<l.length→knB k.m k.t (evAt l i)=true)∧Below w.heap.size w w':=by
  obtain⟨ai,ci,ah,ch,ae,ce,ad,cd,ap,cp,ab,cb,au,cu,ax,cx,rfl,hm,_,_,_,_,_⟩:=h.form
  have HM:Hid (IsM w (.agg #[.int .i64 k.m.n,.int .i64 k.m.s,.slice ai k.m.i.length ci,.slice ah k.m.h.length ch,.slice ae k.m.e.length ce,.int .i64 k.m.z]) k.m):=hm
  clear hm h
  refine(callsIn_wide (n:=5)).1 ?_
  refine callsIn_of_wp_marks Tryz.func195 rfl trivial ?_ rfl
  simp only [Tryz.ntmps195,List.size_toArray,List.length_cons,List.length_nil,Nat.reduceAdd,Nat.reduceSub,Array.replicate_succ,Array.replicate_zero,List.push_toArray,List.append_toArray,List.nil_append,List.cons_append]
  gi_wp2_with (refine⟨trivial,?_⟩;gi_at_call 200;refine(callsIn_wide.2 (zc1 _ _ _ _)).mono ?_;rintro e w' ⟨rfl,rfl⟩)
  have cK:Bk (((w.alloc (.cells #[.int .i64 k.m.n,.int .i64 k.m.s,.slice ai k.m.i.length ci,.slice ah k.m.h.length ch,.slice ae k.m.e.length ce,.int .i64 k.m.z,.slice ad k.d.length cd,.slice ap k.p.length cp,.slice ab k.b.length cb,.int .i64 k.t,.int .i64 k.q,.bool k.f,.slice au k.s.length cu,.slice ax k.x.length cx] 41)).alloc (.cells #[.bool false] 4)).alloc (.cells #[.slice a l.length cap] 34)) w.heap.size 41 #[.int .i64 k.m.n,.int .i64 k.m.s,.slice ai k.m.i.length ci,.slice ah k.m.h.length ch,.slice ae k.m.e.length ce,.int .i64 k.m.z,.slice ad k.d.length cd,.slice ap k.p.length cp,.slice ab k.b.length cb,.int .i64 k.t,.int .i64 k.q,.bool k.f,.slice au k.s.length cu,.slice ax k.x.length cx]:=((Bk.new w _ _).alloc _).alloc _
  have cR:=(Boxed.new (w.alloc (.cells #[.int .i64 k.m.n,.int .i64 k.m.s,.slice ai k.m.i.length ci,.slice ah k.m.h.length ch,.slice ae k.m.e.length ce,.int .i64 k.m.z,.slice ad k.d.length cd,.slice ap k.p.length cp,.slice ab k.b.length cb,.int .i64 k.t,.int .i64 k.q,.bool k.f,.slice au k.s.length cu,.slice ax k.x.length cx] 41)) 4 (.bool false)).alloc (.cells #[.slice a l.length cap] 34)
  have cS:=Boxed.new ((w.alloc (.cells #[.int .i64 k.m.n,.int .i64 k.m.s,.slice ai k.m.i.length ci,.slice ah k.m.h.length ch,.slice ae k.m.e.length ce,.int .i64 k.m.z,.slice ad k.d.length cd,.slice ap k.p.length cp,.slice ab k.b.length cb,.int .i64 k.t,.int .i64 k.q,.bool k.f,.slice au k.s.length cu,.slice ax k.x.length cx] 41)).alloc (.cells #[.bool false] 4)) 34 (.slice a l.length cap)
  rw [World.size_alloc]at cR
  rw [World.size_alloc,World.size_alloc]at cS
  have hB0:Below w.heap.size w (((w.alloc (.cells #[.int .i64 k.m.n,.int .i64 k.m.s,.slice ai k.m.i.length ci,.slice ah k.m.h.length ch,.slice ae k.m.e.length ce,.int .i64 k.m.z,.slice ad k.d.length cd,.slice ap k.p.length cp,.slice ab k.b.length cb,.int .i64 k.t,.int .i64 k.q,.bool k.f,.slice au k.s.length cu,.slice ax k.x.length cx] 41)).alloc (.cells #[.bool false] 4)).alloc (.cells #[.slice a l.length cap] 34)):=(((Below.refl _ w).alloc (Nat.le_refl _) _).alloc (by simp) _).alloc (by simp;omega) _
  refine wpIn_rangeFunc_ownH rfl (by omega) (gf:=254) (lb:= #[.pointer (some ⟨w.heap.size+2,0,none⟩)]) rfl trivial (enters_of Tryz.func254 (by kernel_rfl) rfl)
    (za7 Fence.wide 4 trivial rfl (by omega) (w.heap.size+2) b a cap l hl _ (by simp) cS.cell (hI.imp id (fun⟨off,e,h⟩=>⟨off,e,h.below hB0 hb⟩))) Same2.trans (Same2.putObj (by simp) (by simp;omega)) (Below.refl _ _) (fun _=>rfl)
    (fun pre W=>((∀x∈pre,knB k.m k.t (evAt l x.val)=true)∧W.cell? ⟨w.heap.size+1,0,none⟩=some (.bool false)∧W.frozen? ⟨w.heap.size+1,0,none⟩=false)∧Below (w.heap.size+3) (((w.alloc (.cells #[.int .i64 k.m.n,.int .i64 k.m.s,.slice ai k.m.i.length ci,.slice ah k.m.h.length ch,.slice ae k.m.e.length ce,.int .i64 k.m.z,.slice ad k.d.length cd,.slice ap k.p.length cp,.slice ab k.b.length cb,.int .i64 k.t,.int .i64 k.q,.bool k.f,.slice au k.s.length cu,.slice ax k.x.length cx] 41)).alloc (.cells #[.bool false] 4)).alloc (.cells #[.slice a l.length cap] 34)) W)
    (fun c pre W=>(c= .ret∧(∃x:Fin l.length,knB k.m k.t (evAt l x.val)=false)∧W.cell? ⟨w.heap.size+1,0,none⟩=some (.bool false))∧Below w.heap.size w W)
    (OwnFrom.and (Own.from (fun s A B row hs hg hr=>⟨hs.1,cell_kept hs.2.1 hg hr,(frozen_kept hs.2.1 hg hr).trans hs.2.2⟩) _) (ownFrom_below (by simp) (by simp)))
    (fun c=>OwnFrom.and (Own.from (fun s A B row hs hg hr=>⟨hs.1,hs.2.1,cell_kept hs.2.2 hg hr⟩) _) (ownFrom_below (Nat.le_refl _) (by simp;omega)))
    ⟨⟨by simp,cR.cell,cR.frozen⟩,Below.refl _ _⟩
    (fun x a' W=>∃Bx,w.heap.size+3≤Bx∧Bx<W.heap.size∧Ev.In W Bx 0 (evAt l x.val)∧a'= {tmps:= #[.agg #[.int .i64 k.m.n,.int .i64 k.m.s,.slice ai k.m.i.length ci,.slice ah k.m.h.length ch,.slice ae k.m.e.length ce,.int .i64 k.m.z,.slice ad k.d.length cd,.slice ap k.p.length cp,.slice ab k.b.length cb,.int .i64 k.t,.int .i64 k.q,.bool k.f,.slice au k.s.length cu,.slice ax k.x.length cx],.slice a l.length cap,.pointer (some ⟨w.heap.size,0,none⟩),undef,.pointer (some ⟨w.heap.size+1,0,none⟩),undef,.pointer (some ⟨Bx,0,none⟩),.slice a l.length cap,.func (.func 254) #[] #[.pointer (some ⟨w.heap.size+2,0,none⟩)],.int .i64 ((x.val:Nat):Int),(evAt l x.val).val,undef,undef,undef,undef,undef,undef,undef,undef,undef,undef,undef,undef,undef,undef,undef,undef,undef],defers:= []})
    (fun x a' s A B row hs hg hr=>by obtain⟨Bx,h1,h2,h3,h4⟩:=hs;exact⟨Bx,h1,Nat.lt_of_lt_of_le h2 hg.size,h3.kept hg (fun r e=>(hr r e).2),h4⟩) ?assign ?body ?done ?stop
  case assign=>
    rintro lp pre x W K ⟨⟨hp,hc,hf⟩,hB⟩ hK
    gi_wp2
    have hz:w.heap.size+2<W.heap.size:=by have:=hB.size;simp at this;omega
    have hBW:Below W.heap.size W (W.alloc (.cells #[.int .i64 (evAt l x.val).t,.int .i64 (evAt l x.val).s,.int .i64 (evAt l x.val).q,.int .i64 (evAt l x.val).d,.int .i64 (evAt l x.val).k,.int .i64 (evAt l x.val).v,.int .i64 (evAt l x.val).g] 90)):=(Below.refl _ W).alloc (Nat.le_refl _) _
    exact hK _ _ ((KeepsOthers.alloc _ _).from _) (Same2.below hBW hz (by omega)) ⟨⟨hp,(hBW.cell (p:=⟨w.heap.size+1,0,none⟩) (by simp;omega)).trans hc,(hBW.frozen (p:=⟨w.heap.size+1,0,none⟩) (by simp;omega)).trans hf⟩,hB.trans (hBW.mono (by omega))⟩ ⟨W.heap.size,by omega,by simp,EvAt.new _ _ _ _ _ _ _ _ _,rfl⟩
  case body=>
    rintro lp pre x a' W hlp _ ⟨⟨hp,hc,hf⟩,hB⟩ ⟨Bx,h1,h2,h3,rfl⟩ hlt
    have hz:w.heap.size+2<W.heap.size:=by have:=hB.size;simp at this;omega
    obtain⟨f0,f1,f2,f3,f4,f5,f6⟩:=h3.lits
    have HP:Hid (∀x∈pre,knB k.m k.t (evAt l x.val)=true):=hp
    have HB:Hid (Below (w.heap.size+3) (((w.alloc (.cells #[.int .i64 k.m.n,.int .i64 k.m.s,.slice ai k.m.i.length ci,.slice ah k.m.h.length ch,.slice ae k.m.e.length ce,.int .i64 k.m.z,.slice ad k.d.length cd,.slice ap k.p.length cp,.slice ab k.b.length cb,.int .i64 k.t,.int .i64 k.q,.bool k.f,.slice au k.s.length cu,.slice ax k.x.length cx] 41)).alloc (.cells #[.bool false] 4)).alloc (.cells #[.slice a l.length cap] 34)) W):=hB
    have HB0:Hid (Below w.heap.size w (((w.alloc (.cells #[.int .i64 k.m.n,.int .i64 k.m.s,.slice ai k.m.i.length ci,.slice ah k.m.h.length ch,.slice ae k.m.e.length ce,.int .i64 k.m.z,.slice ad k.d.length cd,.slice ap k.p.length cp,.slice ab k.b.length cb,.int .i64 k.t,.int .i64 k.q,.bool k.f,.slice au k.s.length cu,.slice ax k.x.length cx] 41)).alloc (.cells #[.bool false] 4)).alloc (.cells #[.slice a l.length cap] 34))):=hB0
    have HBW:Hid (Below w.heap.size w W):=hB0.trans (hB.mono (by omega))
    have HKW:Hid (Bk W w.heap.size 41 #[.int .i64 k.m.n,.int .i64 k.m.s,.slice ai k.m.i.length ci,.slice ah k.m.h.length ch,.slice ae k.m.e.length ce,.int .i64 k.m.z,.slice ad k.d.length cd,.slice ap k.p.length cp,.slice ab k.b.length cb,.int .i64 k.t,.int .i64 k.q,.bool k.f,.slice au k.s.length cu,.slice ax k.x.length cx]):=(hB.block w.heap.size (by omega)).trans cK
    have HEW:Hid (Ev.In W Bx 0 (evAt l x.val)):=h3
    clear hp hB h3 cR cS hI hB0 cK
    generalize (((w.alloc (.cells #[.int .i64 k.m.n,.int .i64 k.m.s,.slice ai k.m.i.length ci,.slice ah k.m.h.length ch,.slice ae k.m.e.length ce,.int .i64 k.m.z,.slice ad k.d.length cd,.slice ap k.p.length cp,.slice ab k.b.length cb,.int .i64 k.t,.int .i64 k.q,.bool k.f,.slice au k.s.length cu,.slice ax k.x.length cx] 41)).alloc (.cells #[.bool false] 4)).alloc (.cells #[.slice a l.length cap] 34))=W9 at HB HB0
    cases hok:(evAt l x.val).ok
    · have K1:Hid ((evAt l x.val).ok=false):=hok
      clear hok
      gi_wp2_with (refine⟨trivial,?_⟩;gi_at_call 188;refine(CallsIn.inRound lp (callsIn_wide.2 (zbm (evAt l x.val) false K1.out _))).mono ?_;rintro e w2 ⟨rfl,hb2⟩;have hc2:=(hb2.cell (p:=⟨w.heap.size+1,0,none⟩) (by simp;omega)).trans hc;have hf2:=(hb2.frozen (p:=⟨w.heap.size+1,0,none⟩) (by simp;omega)).trans hf)
      refine⟨trivial,?_⟩
      gi_wp2
      exact⟨((yvh hb2).trans (KeepsOthers.setCell _ _ _)).from _,⟨rfl,⟨x,by unfold knB evIn;rw [K1.out];rfl⟩,World.cell?_setCell_same' _ _ _ (by rw [hc2];rfl)⟩,(HBW.out.trans (Below.mono hb2 (by omega))).setCell (p:=⟨w.heap.size+1,0,none⟩) (by simp) _⟩
    · have K1:Hid ((evAt l x.val).ok=true):=hok
      clear hok
      cases hfi:fitB k.m (evAt l x.val).t (evAt l x.val).d (evAt l x.val).k
      · have K2:Hid (fitB k.m (evAt l x.val).t (evAt l x.val).d (evAt l x.val).k=false):=hfi
        clear hfi
        gi_wp2_with (first|(refine⟨trivial,?_⟩;gi_at_call 188;refine(CallsIn.inRound lp (callsIn_wide.2 (zbm (evAt l x.val) true K1.out _))).mono ?_;rintro e w2 ⟨rfl,hb2⟩;have hc2:=(hb2.cell (p:=⟨w.heap.size+1,0,none⟩) (by simp;omega)).trans hc;have hf2:=(hb2.frozen (p:=⟨w.heap.size+1,0,none⟩) (by simp;omega)).trans hf;have k0:=(HKW.out.below hb2).cell (i:=0) rfl;have k1:=(HKW.out.below hb2).cell (i:=1) rfl;have k2:=(HKW.out.below hb2).cell (i:=2) rfl;have k3:=(HKW.out.below hb2).cell (i:=3) rfl;have k4:=(HKW.out.below hb2).cell (i:=4) rfl;have k5:=(HKW.out.below hb2).cell (i:=5) rfl;obtain⟨u0,u1,u2,u3,u4,u5,u6⟩:=(HEW.out.below hb2 h2).lits)|(refine⟨trivial,?_⟩;gi_at_call 201;refine(CallsIn.inRound lp (callsIn_wide.2 (zbz _ k.m (evAt l x.val) false K2.out _ (HM.out.below (trm HBW.out hb2))))).mono ?_;rintro e w5 ⟨rfl,hb5⟩;have hc5:=(hb5.cell (p:=⟨w.heap.size+1,0,none⟩) (by have:=hb2.size;simp;omega)).trans hc2;have hf5:=(hb5.frozen (p:=⟨w.heap.size+1,0,none⟩) (by have:=hb2.size;simp;omega)).trans hf2))
        exact⟨((yvh (trm hb2 hb5)).trans (KeepsOthers.setCell _ _ _)).from _,⟨rfl,⟨x,by unfold knB evIn;rw [K1.out,K2.out];rfl⟩,World.cell?_setCell_same' _ _ _ (by rw [hc5];rfl)⟩,(HBW.out.trans (Below.mono (trm hb2 hb5) (by omega))).setCell (p:=⟨w.heap.size+1,0,none⟩) (by simp) _⟩
      · have K2:Hid (fitB k.m (evAt l x.val).t (evAt l x.val).d (evAt l x.val).k=true):=hfi
        clear hfi
        by_cases hg:(evAt l x.val).g<k.t
        case neg=>
          have hg':k.t≤(evAt l x.val).g:=by omega
          have K3:Hid (decide ((evAt l x.val).g<k.t)=false):=decide_eq_false hg
          clear hg
          gi_wp2_with (first|(refine⟨trivial,?_⟩;gi_at_call 188;refine(CallsIn.inRound lp (callsIn_wide.2 (zbm (evAt l x.val) true K1.out _))).mono ?_;rintro e w2 ⟨rfl,hb2⟩;have hc2:=(hb2.cell (p:=⟨w.heap.size+1,0,none⟩) (by simp;omega)).trans hc;have hf2:=(hb2.frozen (p:=⟨w.heap.size+1,0,none⟩) (by simp;omega)).trans hf;have k0:=(HKW.out.below hb2).cell (i:=0) rfl;have k1:=(HKW.out.below hb2).cell (i:=1) rfl;have k2:=(HKW.out.below hb2).cell (i:=2) rfl;have k3:=(HKW.out.below hb2).cell (i:=3) rfl;have k4:=(HKW.out.below hb2).cell (i:=4) rfl;have k5:=(HKW.out.below hb2).cell (i:=5) rfl;obtain⟨u0,u1,u2,u3,u4,u5,u6⟩:=(HEW.out.below hb2 h2).lits)|(refine⟨trivial,?_⟩;gi_at_call 201;refine(CallsIn.inRound lp (callsIn_wide.2 (zbz _ k.m (evAt l x.val) true K2.out _ (HM.out.below (trm HBW.out hb2))))).mono ?_;rintro e w5 ⟨rfl,hb5⟩;have hc5:=(hb5.cell (p:=⟨w.heap.size+1,0,none⟩) (by have:=hb2.size;simp;omega)).trans hc2;have hf5:=(hb5.frozen (p:=⟨w.heap.size+1,0,none⟩) (by have:=hb2.size;simp;omega)).trans hf2;have k9:=(HKW.out.below (trm hb2 hb5)).cell (i:=9) rfl;obtain⟨t0,t1,t2,t3,t4,t5,t6⟩:=(HEW.out.below (trm hb2 hb5) h2).lits))
          exact⟨((yvh (trm hb2 hb5)).trans (KeepsOthers.setCell _ _ _)).from _,⟨rfl,⟨x,by unfold knB;rw [K3.out,Bool.and_false]⟩,World.cell?_setCell_same' _ _ _ (by rw [hc5];rfl)⟩,(HBW.out.trans (Below.mono (trm hb2 hb5) (by omega))).setCell (p:=⟨w.heap.size+1,0,none⟩) (by simp) _⟩
        have hg':¬k.t≤(evAt l x.val).g:=by omega
        have K3:Hid ((evAt l x.val).g<k.t):=hg
        clear hg
        gi_wp2_with (first|(refine⟨trivial,?_⟩;gi_at_call 188;refine(CallsIn.inRound lp (callsIn_wide.2 (zbm (evAt l x.val) true K1.out _))).mono ?_;rintro e w2 ⟨rfl,hb2⟩;have hc2:=(hb2.cell (p:=⟨w.heap.size+1,0,none⟩) (by simp;omega)).trans hc;have hf2:=(hb2.frozen (p:=⟨w.heap.size+1,0,none⟩) (by simp;omega)).trans hf;have k0:=(HKW.out.below hb2).cell (i:=0) rfl;have k1:=(HKW.out.below hb2).cell (i:=1) rfl;have k2:=(HKW.out.below hb2).cell (i:=2) rfl;have k3:=(HKW.out.below hb2).cell (i:=3) rfl;have k4:=(HKW.out.below hb2).cell (i:=4) rfl;have k5:=(HKW.out.below hb2).cell (i:=5) rfl;obtain⟨u0,u1,u2,u3,u4,u5,u6⟩:=(HEW.out.below hb2 h2).lits)|(refine⟨trivial,?_⟩;gi_at_call 201;refine(CallsIn.inRound lp (callsIn_wide.2 (zbz _ k.m (evAt l x.val) true K2.out _ (HM.out.below (trm HBW.out hb2))))).mono ?_;rintro e w5 ⟨rfl,hb5⟩;have hc5:=(hb5.cell (p:=⟨w.heap.size+1,0,none⟩) (by have:=hb2.size;simp;omega)).trans hc2;have hf5:=(hb5.frozen (p:=⟨w.heap.size+1,0,none⟩) (by have:=hb2.size;simp;omega)).trans hf2;have k9:=(HKW.out.below (trm hb2 hb5)).cell (i:=9) rfl;obtain⟨t0,t1,t2,t3,t4,t5,t6⟩:=(HEW.out.below (trm hb2 hb5) h2).lits))
        exact⟨(yvh (trm hb2 hb5)).from _,Same2.below (trm hb2 hb5) hz (by omega),⟨fun y hy=>(List.mem_append.1 hy).elim (HP.out y) (fun e=>by simp at e;subst e;exact knB_iff.2 ⟨K1.out,K2.out,K3.out⟩),hc5,hf5⟩,HB.out.trans (Below.mono (trm hb2 hb5) (by omega))⟩
  case done=>
    rintro D ys W hD rfl ⟨⟨hp,hc,hf⟩,hB⟩ hK
    have HP:Hid (∀x∈List.finRange l.length,knB k.m k.t (evAt l x.val)=true):=hp
    clear hp
    gi_wp2
    have hK':=(KeepsOthers.setCell W ⟨w.heap.size+1,0,none⟩ (.bool true)).same D _ hK rfl
    refine⟨by simp,.inl ⟨_,_,rfl,run_takeDeferred hK',?_⟩⟩
    have hc5:=cell_kept (World.cell?_setCell_same' W ⟨w.heap.size+1,0,none⟩ (.bool true) (by rw [hc];rfl)) (grownBy_putObj' _ D (.deferred none)) (fun r e=>by cases e;exact⟨_,hK',rfl⟩)
    refine⟨.bool true,?_,Says.yes (fun i hi=>HP.out ⟨i,hi⟩ (List.mem_finRange _)),((hB0.trans (hB.mono (by omega))).setCell (p:=⟨w.heap.size+1,0,none⟩) (by simp) _).trans (belowK_b (w:=w) (Nat.le_refl _) _ D _ _ (by simp at hD;omega) hK' rfl rfl)⟩
    simp [results,Tryz.f195,go_sem,hc5]
  case stop=>
    rintro D c pre W hD _ ⟨⟨rfl,⟨x,hx⟩,hc⟩,hB⟩ hK
    have HX:Hid (knB k.m k.t (evAt l x.val)=false):=hx
    clear hx
    gi_wp2
    refine⟨by simp,.inl ⟨_,_,rfl,run_takeDeferred hK,?_⟩⟩
    have hc5:=cell_kept hc (grownBy_putObj' _ D (.deferred none)) (fun r e=>by cases e;exact⟨_,hK,rfl⟩)
    refine⟨.bool false,?_,Says.no (fun h=>by have:=h x.val x.isLt;rw [HX.out]at this;cases this),hB.trans (belowK_b (w:=w) (Nat.le_refl _) W D _ _ (by simp at hD;omega) hK rfl rfl)⟩
    simp [results,Tryz.f195,go_sem,hc5]
end Go.Proofs.YtghndljgadpijaaGreat

/- The program's antisKnown and pastKnown. -/
namespace Go.Proofs.YtghndljgadpijaaGreat
open Go.RowKit
theorem zey {p:Prop} (h:p):Hid p:=h
def ze1 (t:Int) (l:List Int):Bool:=decide (l= [])||decide (intAt l (l.length-1)<t)
def knL (k:Kn) (l:List Ev):Bool:=allB l.length (fun i=>knB k.m k.t (evAt l i))
def zhl (k:Kn) (x:Ps):Bool:=decide (x.e.g<k.t)&&knL k x.s
def zc7 (k:Kn) (p:Pa):Bool:=allB p.p.length (fun i=>zhl k (psAt p.p i))
theorem zgf (y:Value) (k:Kn) (a:Option Addr) (cap:Nat) (l:List Ev) (b:Bool) (hb:knL k l=b) (w:World) (h:IsKern w y k) (hl:l.length≤1048576) (hp:0<w.heap.size) (hI:IsEvs w (.slice a l.length cap) l):
    Calls Tryz.prog 195 #[y,.slice a l.length cap] w fun e w'=>e= .returned (.bool b)∧Below w.heap.size w w':=by
  have conv:∀{e:Ending} {w':World},(Says e (∀i,i<l.length→knB k.m k.t (evAt l i)=true)∧Below w.heap.size w w')→e= .returned (.bool b)∧Below w.heap.size w w':=by
    rintro e w' ⟨⟨c,rfl,hc⟩,hw⟩
    refine⟨?_,hw⟩
    rw [←hb]
    cases c
    · rw [ywj (b:=knL k l) (fun h=>by have:=hc.2 (allB_iff.1 h);cases this)]
    · rw [show knL k l=true from allB_iff.2 (hc.1 rfl)]
  rcases hI.rows with rfl|⟨b',off,rfl,hbb⟩
  · exact(zht y k a cap 0 [] w h hl (.inl rfl) hp).mono fun e w' hh=>conv hh
  · exact(zht y k _ cap b' l w h hl (.inr ⟨off,rfl,hbb⟩) hbb.1).mono fun e w' hh=>conv hh
set_option maxRecDepth 100000 in
set_option maxHeartbeats 8000000 in
theorem iAntis8 (x y:Value) (k:Kn) (p:Pa) (w:World) (hal:p.a.length≤1048576) (h:IsKern w x k) (h':IsPart w y p):
    Calls Tryz.prog 197 #[x,y] w fun e w'=>e= .returned (.bool (ze1 k.t p.a))∧Below w.heap.size w w':=by
  have hpos:0<w.heap.size+1:=by omega
  obtain⟨ai,ci,ah,ch,ae,ce,ad,cd,ap,cp,ab,cb,au,cu,ax,cx,rfl,_,_,_,_,_,_⟩:=h.form
  have HK:=zey h
  clear h
  obtain⟨u1,u4,u5,u6,rfl,h1,h4,h5,h6⟩:=h'
  obtain⟨a1,c1,rfl⟩:=yw8 (c:=1) (n:=p.st.r.length) h1
  obtain⟨a4,c4,rfl⟩:=yw8 (c:=12) (n:=p.p.length) h4
  obtain⟨a5,c5,rfl⟩:=yw8 (c:=7) (n:=p.t.length) h5
  obtain⟨a6,c6,rfl⟩:=yw8 (c:=1) (n:=p.a.length) h6
  have HPS:=zey (yz1 h4)
  have HAN:=zey h6.isI.rows
  clear h1 h4 h5 h6 hpos
  obtain⟨PB,hPB⟩:∃PB,PB=w.heap.size+1:=⟨_,rfl⟩
  obtain⟨W0,hW0⟩:=al2IsKern HK.out 41 (.cells #[.int .i64 p.n,.slice a1 p.st.r.length c1,.int .i64 p.st.q,.int .i64 p.st.d,.slice a4 p.p.length c4,.slice a5 p.t.length c5,.slice a6 p.a.length c6] 97)
  have HB0:Hid (Below w.heap.size w W0):=by rw [←hW0];exact((Below.refl _ w).alloc (Nat.le_refl _) _).alloc (by simp) _
  have HK0:Hid (Bk W0 w.heap.size 41 #[.int .i64 k.m.n,.int .i64 k.m.s,.slice ai k.m.i.length ci,.slice ah k.m.h.length ch,.slice ae k.m.e.length ce,.int .i64 k.m.z,.slice ad k.d.length cd,.slice ap k.p.length cp,.slice ab k.b.length cb,.int .i64 k.t,.int .i64 k.q,.bool k.f,.slice au k.s.length cu,.slice ax k.x.length cx]):=by rw [←hW0];exact(Bk.new w _ _).alloc _
  have HP0:Hid (Bk W0 PB 97 #[.int .i64 p.n,.slice a1 p.st.r.length c1,.int .i64 p.st.q,.int .i64 p.st.d,.slice a4 p.p.length c4,.slice a5 p.t.length c5,.slice a6 p.a.length c6]):=by rw [←hW0,hPB];exact Bk.newAt (by simp) _ _
  have HW:=zey hW0
  have HPB:=zey hPB
  clear hW0 hPB
  go_enter Tryz.func197,Tryz.ntmps197
  have hne:=neB W0
  have y9:=yoj (i:=9) HK0.out rfl
  have hw:=HW.out
  by_cases h0:p.a= []
  · have HN:Hid (ze1 k.t p.a=true):=(by simp [ze1,h0]:ze1 k.t p.a=true)
    have hz:p.a.length=0:=by rw [h0];rfl
    have y6:∀q:Beyond W0,q.w.cell? ⟨PB,6,none⟩=some (.slice a6 0 c6):=fun q=>by have:=yoj (i:=6) HP0.out rfl q;rw [hz]at this;exact this
    clear h0 hz HAN HPS HK
    go_wp2_with fail
    try rw [HW.out]
    rw [←HPB.out]
    refine wrb ?_
    repeat(go_big_quiet_step (fail))
    refine wpQuiet_nil ?_
    rintro w3 ⟨⟨_,hb3⟩,rfl⟩
    have HB3:=zey hb3
    clear hb3
    go_wp2
    go_ret
    exact⟨ye8 HN.out.symm,trm HB0.out HB3.out⟩
  · obtain⟨b,off,rfl,hb,hc⟩:=HAN.out.resolve_left h0
    obtain⟨n,hn⟩:∃n,p.a.length=n+1:=⟨p.a.length-1,by have:=List.length_pos_iff.2 h0;omega⟩
    have HN:Hid (ze1 k.t p.a=decide (intAt p.a n<k.t)):=(by simp [ze1,h0,hn]:ze1 k.t p.a=_)
    have y6:∀q:Beyond W0,q.w.cell? ⟨PB,6,none⟩=some (.slice (some ⟨b,off,none⟩) (n+1) c6):=fun q=>by have:=yoj (i:=6) HP0.out rfl q;rw [hn]at this;exact this
    have e0:∀q:Beyond W0,q.w.cell? ⟨b,off+n,none⟩=some (.int .i64 (intAt p.a n)):=fun q=>q.cell (Nat.lt_of_lt_of_le hb HB0.out.size) ((HB0.out.cell (p:=⟨b,_,none⟩) hb).trans (hc n (by omega)))
    have hn9:(n:Int)+1≤1048576:=by omega
    have hnb:(((n:Int)+1)==0)=false:=by rw [beq_eq_false_iff_ne];omega
    have en:((n:Int)+1-1).toNat=n:=by omega
    have en2:(n:Int)+1-1=(n:Int):=by omega
    generalize intAt p.a n=z at e0 HN
    clear h0 hn hc hb HAN HPS HK
    go_wp2_with fail
    try rw [HW.out]
    rw [←HPB.out]
    refine wrb ?_
    repeat(go_big_quiet_step (fail))
    refine wpQuiet_nil ?_
    rintro w3 ⟨⟨_,hb3⟩,rfl⟩
    have HB3:=zey hb3
    clear hb3
    go_wp2
    go_ret
    exact⟨ye8 HN.out.symm,trm HB0.out HB3.out⟩
theorem zbb {p:Prop} (h:p):Hid p:=h
theorem pastL1_iff {k:Kn} {x:Ps}:zhl k x=true↔x.e.g<k.t∧knL k x.s=true:=by
  unfold zhl
  simp only [Bool.and_eq_true,decide_eq_true_eq]
set_option maxRecDepth 100000 in
set_option maxHeartbeats 8000000 in
theorem iPastK (x y:Value) (k:Kn) (p:Pa) (w:World) (hw9:p.wt≤1048576) (h:IsKern w x k) (h':IsPart w y p):
    Calls Tryz.prog 196 #[x,y] w fun e w'=>e= .returned (.bool (zc7 k p))∧Below w.heap.size w w':=by
  have hlens:p.p.length≤1048576∧ ∀i,i<p.p.length→(psAt p.p i).s.length≤1048576:=by
    unfold Pa.wt at hw9
    simp only [ywf,yx0]at hw9
    have h2:=yxh p.p
    refine⟨by omega,fun i hi=> ?_⟩
    have h9:(psAt p.p i).wt≤(yw3 p.p).wt:=Ps.wt_le hi
    unfold Ps.wt at h9
    simp only [ywf,yx0,yy3]at h9
    omega
  have hpl:p.p.length≤1048576:=hlens.1
  have HSL:=zbb hlens.2
  clear hlens hw9
  have hpos:0<w.heap.size+1:=by omega
  obtain⟨ai,ci,ah,ch,ae,ce,ad,cd,ap,cp,ab,cb,au,cu,ax,cx,rfl,_,_,_,_,_,_⟩:=h.form
  have HK:=zbb h
  clear h
  obtain⟨u1,u4,u5,u6,rfl,h1,h4,h5,h6⟩:=h'
  obtain⟨a1,c1,rfl⟩:=yw8 (c:=1) (n:=p.st.r.length) h1
  obtain⟨a4,c4,rfl⟩:=yw8 (c:=12) (n:=p.p.length) h4
  obtain⟨a5,c5,rfl⟩:=yw8 (c:=7) (n:=p.t.length) h5
  obtain⟨a6,c6,rfl⟩:=yw8 (c:=1) (n:=p.a.length) h6
  have HPS:=zbb (yz1 h4)
  have HAN:=zbb h6.isI.rows
  clear h1 h4 h5 h6 hpos
  obtain⟨PB,hPB⟩:∃PB,PB=w.heap.size+1:=⟨_,rfl⟩
  obtain⟨W0,hW0⟩:=al2IsKern HK.out 41 (.cells #[.int .i64 p.n,.slice a1 p.st.r.length c1,.int .i64 p.st.q,.int .i64 p.st.d,.slice a4 p.p.length c4,.slice a5 p.t.length c5,.slice a6 p.a.length c6] 97)
  have HB0:Hid (Below w.heap.size w W0):=by rw [←hW0];exact((Below.refl _ w).alloc (Nat.le_refl _) _).alloc (by simp) _
  have HK0:Hid (Bk W0 w.heap.size 41 #[.int .i64 k.m.n,.int .i64 k.m.s,.slice ai k.m.i.length ci,.slice ah k.m.h.length ch,.slice ae k.m.e.length ce,.int .i64 k.m.z,.slice ad k.d.length cd,.slice ap k.p.length cp,.slice ab k.b.length cb,.int .i64 k.t,.int .i64 k.q,.bool k.f,.slice au k.s.length cu,.slice ax k.x.length cx]):=by rw [←hW0];exact(Bk.new w _ _).alloc _
  have HP0:Hid (Bk W0 PB 97 #[.int .i64 p.n,.slice a1 p.st.r.length c1,.int .i64 p.st.q,.int .i64 p.st.d,.slice a4 p.p.length c4,.slice a5 p.t.length c5,.slice a6 p.a.length c6]):=by rw [←hW0,hPB];exact Bk.newAt (by simp) _ _
  have HW:=zbb hW0
  have HPB:=zbb hPB
  clear hW0 hPB
  have hw:=HW.out
  have q4:=HP0.out.cell (i:=4) rfl
  go_enter Tryz.func196,Tryz.ntmps196
  go_upto_region 1 with fail
  try rw [HW.out]
  rw [←HPB.out]
  go_wp2
  clear q4 hw HW HPB
  go_loopw [10] (fun i wr=>∃j:Nat,j≤p.p.length∧i= .int .i64 j∧Hid (∀i,i<j→zhl k (psAt p.p i)=true)∧Below W0.heap.size W0 wr) (fun i _=>p.p.length-(intOf i).toNat)
  case atStart=>exact⟨0,Nat.zero_le _,rfl,fun j hj=>by omega,Below.refl _ _⟩
  case round=>
    obtain⟨j,hj,rfl,HA,hB⟩:=hrel
    have HBr:=trh HB0 hB
    have HBr2:=zbb hB
    have HKr:=zbb (HK0.out.below hB)
    clear hB
    by_cases hlt:j<p.p.length
    · obtain⟨b,off,rfl,hb,hc⟩:=HPS.out.resolve_left (by intro e;rw [e]at hlt;simp at hlt)
      obtain⟨a7,c7,a10,c10,a11,c11,hpp⟩:=hc j hlt
      have f0:=cst HBr.out hb hpp.ev.f0
      have f1:=cst HBr.out hb hpp.ev.f1
      have f2:=cst HBr.out hb hpp.ev.f2
      have f3:=cst HBr.out hb hpp.ev.f3
      have f4:=cst HBr.out hb hpp.ev.f4
      have f5:=cst HBr.out hb hpp.ev.f5
      have f6:=cst HBr.out hb hpp.ev.f6
      have f7:=cst HBr.out hb hpp.f7
      have f8:=cst HBr.out hb hpp.f8
      have f9:=cst HBr.out hb hpp.f9
      have f10:=cst HBr.out hb hpp.f10
      have f11:=cst HBr.out hb hpp.f11
      have HSN:=zbb hpp.d10.isEvs
      have hsn:(psAt p.p j).s.length≤1048576:=HSL.out j hlt
      have HNO:Hid (¬zhl k (psAt p.p j)=true→zc7 k p=false):=fun h1=>ywj (fun h=>h1 (allB_iff.1 h j hlt))
      obtain⟨V,hV⟩:∃V,wr.alloc (.cells #[.int .i64 (psAt p.p j).e.t,.int .i64 (psAt p.p j).e.s,.int .i64 (psAt p.p j).e.q,.int .i64 (psAt p.p j).e.d,.int .i64 (psAt p.p j).e.k,.int .i64 (psAt p.p j).e.v,.int .i64 (psAt p.p j).e.g,.slice a7 (psAt p.p j).b.r.length c7,.int .i64 (psAt p.p j).b.q,.int .i64 (psAt p.p j).b.d,.slice a10 (psAt p.p j).s.length c10,.slice a11 (psAt p.p j).x.length c11] 172)=V:=⟨_,rfl⟩
      have HB1:=hdq (beA hV)
      have HX:=hdq (bkA hV)
      have HKV:=zbb (HKr.out.below HB1.out)
      have HBV:=trh HBr HB1.out
      have x6:=HX.out.cell (i:=6) rfl
      have x10:=HX.out.cell (i:=10) rfl
      obtain⟨k0,k1,k2,k3,k4,k5,k6,k7,k8,k9,k10,k11,k12,k13⟩:=ywd HKV.out
      clear hc hpp
      by_cases hg:(psAt p.p j).e.g<k.t
      case neg=>
        have hg':k.t≤(psAt p.p j).e.g:=by omega
        have HN:Hid (zc7 k p=false):=HNO.out (fun h=>hg (pastL1_iff.1 h).1)
        clear hg
        go_wp2
        go_ret
        exact⟨ye8 HN.out.symm,HBV.out⟩
      have hg':¬k.t≤(psAt p.p j).e.g:=by omega
      have KG:=zbb hg
      clear hg
      go_wp2_with fail
      clear f0 f1 f2 f3 f4 f5 f6 f7 f8 f9 f10 f11 x6 x10 hV k0 k1 k2 k3 k4 k5 k6 k7 k8 k9 k10 k11 k12 k13
      refine(zgf _ k a10 c10 (psAt p.p j).s _ rfl _ (HK.out.under HBV.out) hsn (Nat.lt_of_le_of_lt (Nat.zero_le _) HX.out.lt) (HSN.out.below HBV.out)).mono ?_
      rintro e w3 ⟨rfl,hb3⟩
      have HB3:=trh HB1 hb3
      clear hb3
      cases hkn:knL k (psAt p.p j).s with
      |false=>
        have HN:Hid (zc7 k p=false):=HNO.out (fun h=>by have:=(pastL1_iff.1 h).2;rw [hkn]at this;cases this)
        clear hkn
        go_wp2
        go_ret
        exact⟨ye8 HN.out.symm,trm HBr.out HB3.out⟩
      |true=>
        have K9:=zbb (pastL1_iff.2 ⟨KG.out,hkn⟩)
        clear hkn
        go_wp2
        go_roundw
        case rel=>exact⟨j+1,by omega,by go_num,fun i hi=>by
          by_cases e:i=j
          · subst e;exact K9.out
          · exact HA.out i (by omega),trm HBr2.out HB3.out⟩
        case measure=>simp [intOf];omega
    · obtain rfl:p.p.length=j:=by omega
      have HY:Hid (zc7 k p=true):=allB_iff.2 HA.out
      go_wp2
      go_ret
      exact⟨ye8 HY.out.symm,HBr.out⟩
end Go.Proofs.YtghndljgadpijaaGreat

