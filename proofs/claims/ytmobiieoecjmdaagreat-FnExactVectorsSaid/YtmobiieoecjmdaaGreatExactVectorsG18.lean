/- Places, PlacesM, Differ, PIk, OwnE, Find -/
import Derived.Test.YtmobiieoecjmdaaGreatExactVectorsG08
import Derived.Test.YtmobiieoecjmdaaGreatExactVectorsG17
import Derived.Test.YtmobiieoecjmdaaGreatExactVectorsG10
import Derived.Maps.OwnSet
import Derived.Test.YtmobiieoecjmdaaGreatExactVectorsG01
import Derived.Laws.OwnMore
import Derived.WalkSmall
import Derived.Laws.AppendOwnNone
import Derived.Deep.RegionLaw
/- The program's map from tags to places. -/
namespace Go.Proofs.YtmobiieoecjmdaaGreat
open Go.RowKit Go.Shelf Go.Maps Go.WideShapes
attribute [local go_sem] Oper.semAt_some
def ycv {H:Type} (l:List Ev) (pre:List (Fin l.length)):DataW H:=pre.foldl (fun D x=>D.put (keyL (evAt l x.val).g) (.lit (.int .i64 ((x.val:Nat):Int)))) (.map [])
theorem ydn {H:Type} (l:List Ev) (pre:List (Fin l.length)) (x:Fin l.length):ycv (H:=H) l (pre++ [x])=(ycv l pre).put (keyL (evAt l x.val).g) (.lit (.int .i64 ((x.val:Nat):Int))):=by simp [ycv]
theorem yeu {H:Type} {P:Program} {k:TypeId} {R:Value→Option (DataW H×List MemPlace)} {b n:Nat} {D:DataW H} {B:Nat} {W W':World} (h:W.ownsMap P k R b n D) (hb:Below B W W') (hB:b<B):W'.ownsMap P k R b n D:=by
 obtain⟨es,ck,h1,h2⟩:=h
 exact⟨es,ck,(hb.block b hB).trans h1,h2⟩
set_option maxRecDepth 100000 in
set_option maxHeartbeats 4000000 in
theorem ymk {H:Type} (a:Option Addr) (cap b:Nat) (l:List Ev) (w:World) (hl:l.length≤1048576) (hI:l= []∨ ∃off,a=some ⟨b,off,none⟩∧EvsAt w b off l) (hb:b<w.heap.size) (hwf:∀i,i<l.length→wfI (evAt l i).g):
  Calls Tryz.prog 161 #[.slice a l.length cap] w fun e W'=>e= .returned (.map (some w.heap.size))∧W'.ownsMap Tryz.prog 110 (plainElem (H:=H) Tryz.prog 3) w.heap.size l.length (ycv l (List.finRange l.length))∧Below w.heap.size w W':=by
 have hmm:=yfn
 refine(callsIn_wide (n:=5)).1 ?_
 refine callsIn_of_wp_marks Tryz.func161 rfl trivial ?_ rfl
 simp only [Tryz.ntmps161,List.size_toArray,List.length_cons,List.length_nil,Nat.reduceAdd,Nat.reduceSub,Array.replicate_succ,Array.replicate_zero,List.push_toArray,List.append_toArray,List.nil_append,List.cons_append]
 gi_wp2_with (refine⟨trivial,?_⟩;gi_at_call 163;refine(callsIn_wide.2 (ye4 _ _ _ _)).mono ?_;rintro e w' ⟨rfl,rfl⟩)
 clear hmm
 have hm0:=World.ownsMap_made w Tryz.prog 110 (plainElem (H:=H) Tryz.prog 3)
 have cM:=(Boxed.new (w.alloc (.map #[] 0)) 204 (.map (some w.heap.size))).alloc (.cells #[.slice a l.length cap] 34)
 have cS:=Boxed.new ((w.alloc (.map #[] 0)).alloc (.cells #[.map (some w.heap.size)] 204)) 34 (.slice a l.length cap)
 simp only [World.size_alloc]at cM cS
 have hB0:Below w.heap.size w (((w.alloc (.map #[] 0)).alloc (.cells #[.map (some w.heap.size)] 204)).alloc (.cells #[.slice a l.length cap] 34)):=(((Below.refl _ w).alloc (Nat.le_refl _) _).alloc (by simp) _).alloc (by simp;omega) _
 refine wpIn_rangeFunc_ownH rfl (by omega) (gf:=200) (lb:= #[.pointer (some ⟨w.heap.size+1+1,0,none⟩)]) rfl trivial (enters_of Tryz.func200 (by kernel_rfl) rfl)
  (ych Fence.wide 4 trivial rfl (by omega) (w.heap.size+1+1) b a cap l hl _ (by simp) cS.cell (hI.imp id (fun⟨off,e,h⟩=>⟨off,e,h.below hB0 hb⟩))) Same2.trans (Same2.putObj (by simp) (by simp;omega)) (Below.refl _ _) (fun _=>rfl)
  (fun pre W=>(W.cell? ⟨w.heap.size+1,0,none⟩=some (.map (some w.heap.size))∧W.ownsMap Tryz.prog 110 (plainElem (H:=H) Tryz.prog 3) w.heap.size pre.length (ycv l pre)∧w.heap.size+3≤W.heap.size)∧Below w.heap.size w W)
  (fun _ _ _=>False)
  (OwnFrom.and (fun s A B row hs hg hr=>⟨cell_kept hs.1 hg (fun r e=>(hr r e).2),hs.2.1.kept hg (fun e=>by have:=(hr _ e.symm).1;simp at this;omega),Nat.le_trans hs.2.2 hg.size⟩) (ownFrom_below (Nat.le_refl _) (by simp;omega)))
  (fun _ _ _ _ _ hs _ _=>hs)
  ⟨⟨cM.cell,(hm0.alloc _).alloc _,by simp⟩,hB0⟩
  (fun x a' W=>∃Bx,w.heap.size+3≤Bx∧Bx<W.heap.size∧Ev.In W Bx 0 (evAt l x.val)∧a'= {tmps:= #[.slice a l.length cap,undef,.map none,.pointer (some ⟨w.heap.size+1,0,none⟩),.int .i64 ((x.val:Nat):Int),.pointer (some ⟨Bx,0,none⟩),.slice a l.length cap,.int .i64 (l.length:Int),.map (some w.heap.size),.slice a l.length cap,.func (.func 200) #[] #[.pointer (some ⟨w.heap.size+1+1,0,none⟩)],.int .i64 ((x.val:Nat):Int),(evAt l x.val).val,undef,undef,undef,undef,undef,undef],defers:= []})
  (fun x a' s A B row hs hg hr=>by obtain⟨Bx,h1,h2,h3,h4⟩:=hs;exact⟨Bx,h1,Nat.lt_of_lt_of_le h2 hg.size,h3.kept hg (fun r e=>(hr r e).2),h4⟩) ?assign ?body ?done ?stop
 case assign=>
  rintro lp pre x W K ⟨⟨hc,hown,hz⟩,hB⟩ hK
  have HO:=hown
  clear hown
  gi_wp2
  have hBW:Below W.heap.size W (W.alloc (.cells #[.int .i64 (evAt l x.val).t,.int .i64 (evAt l x.val).s,.int .i64 (evAt l x.val).q,.int .i64 (evAt l x.val).d,.int .i64 (evAt l x.val).k,.int .i64 (evAt l x.val).v,.int .i64 (evAt l x.val).g] 110)):=(Below.refl _ W).alloc (Nat.le_refl _) _
  exact hK _ _ ((KeepsOthers.alloc _ _).from _) (Same2.below hBW (by omega) (by omega)) ⟨⟨(hBW.cell (p:=⟨w.heap.size+1,0,none⟩) (by simp;omega)).trans hc,yeu HO hBW (by omega),by simp;omega⟩,hB.trans (hBW.mono (by omega))⟩ ⟨W.heap.size,hz,by simp,EvAt.new _ _ _ _ _ _ _ _ _,rfl⟩
 case body=>
  rintro lp pre x a' W hlp _ ⟨⟨hc,hown,hz⟩,hB⟩ ⟨Bx,h1,h2,h3,rfl⟩ hlt
  obtain⟨f0,f1,f2,f3,f4,f5,f6⟩:=h3.lits
  clear f0 f1 f2 f3 f4 f5 h3 cM cS hI hm0
  have HO:Hid (W.ownsMap Tryz.prog 110 (plainElem (H:=H) Tryz.prog 3) w.heap.size pre.length (ycv l pre)):=hown
  have HB:Hid (Below w.heap.size w W):=hB
  have HW:Hid (wfI (evAt l x.val).g):=hwf _ x.isLt
  have HX:Hid ((Lit.int .i64 ((x.val:Nat):Int)).wf=true):=WalkArith.wf_i64 (by have:=x.isLt;omega)
  clear hown hB hB0 hwf
  have hmo:Tryz.prog.follows .mixedOrders=true:=by kernel_rfl
  gi_wp2
  gi_region_with_o (refine⟨trivial,?_⟩;gi_at_call 198;refine(CallsIn.inRound lp (callsIn_wide.2 (ym8 _ _))).mono ?_;rintro e w2 ⟨rfl,hb2⟩;have hc2:w2.cell? ⟨w.heap.size+1,0,none⟩=some (.map (some w.heap.size)):=(hb2.cell (p:=⟨w.heap.size+1,0,none⟩) (by simp;omega)).trans hc;obtain⟨w3,hrun,hown3,hg3⟩:=(yeu (W:=W.drew) HO.out hb2 (by simp;omega)).update keyed25 Tryz.underlying204 (by unfold maxLen;omega) (ygg _ HW.out) (plainElem_int Tryz.underlying3 HX.out))
  all_goals
   gi_wp2
   have hb3:Below w.heap.size w w2:=HB.out.drew.trans (hb2.mono (by simp;omega))
   have hz2:W.heap.size≤w2.heap.size:=by simpa using hb2.size
   refine⟨KeepsFrom.trans ((ya8 (W:=W) (W':=w2) ((Below.refl _ W).drew.trans hb2)).from _) (KeepsFrom.of_grownBy hg3 (fun j e=>by cases e;simp;omega)),?_,⟨?_,by rw [ydn,List.length_append];exact hown3,Nat.le_trans (by omega) hg3.size⟩,hb3.grown hg3 (by omega) (fun k e=>by cases e;exact Nat.le_refl _)⟩
   ·exact Same2.trans (Same2.below (n:=W.heap.size) ((Below.refl _ W).drew.trans hb2) (by omega) (by omega)) ⟨hg3.block (w.heap.size+1+1) (by omega) (by simp;omega),hg3.block b (by omega) (by simp;omega)⟩
   ·exact(World.cell?_of_block (w:=w2) (hg3.block (w.heap.size+1) (by omega) (by simp))).trans hc2
 case done=>
  rintro D ys W hD rfl ⟨⟨hc,hown,hz⟩,hB⟩ hK
  have HO:Hid (W.ownsMap Tryz.prog 110 (plainElem (H:=H) Tryz.prog 3) w.heap.size (List.finRange l.length).length (ycv l (List.finRange l.length))):=hown
  clear hown
  gi_wp2
  refine⟨by simp,.inl ⟨_,_,rfl,run_takeDeferred hK,?_⟩⟩
  exact⟨_,results_tmp rfl _ _ _,rfl,by have:=HO.out.kept (grownBy_putObj' _ D (.deferred none)) (fun e=>by cases e;simp at hD;omega);simpa using this,hB.trans (belowK_b (w:=w) (Nat.le_refl _) W D _ _ (by simp at hD;omega) hK rfl rfl)⟩
 case stop=>
  rintro D c pre W _ _ h _
  exact h.elim
end Go.Proofs.YtmobiieoecjmdaaGreat

/- What the map from tags to places holds. -/
namespace Go.Proofs.YtmobiieoecjmdaaGreat
open Go.RowKit Go.Maps Go.WideShapes
theorem ycp {g g':Int} (h:wfI g) (h':wfI g'):(keyL g).sameKey (keyL g')=decide (g=g'):=by
 by_cases e:g=g'
 ·subst e;simp [keyL,Lit.sameKey]
 ·have:keyL g≠keyL g':=fun h1=>e (keyL_inj h h' h1)
  unfold keyL at this⊢
  simp only [Lit.sameKey,e,decide_false,beq_eq_false_iff_ne]
  intro h1
  exact this (by rw [h1])
def ents {H:Type}:DataW H→List (Lit×DataW H)
 | .map es=>es
 |_=> []
abbrev litI (i:Nat):DataW Unit:= .lit (.int .i64 ((i:Nat):Int))
def yb1 (l:List Ev) (k:Nat):List (Lit×DataW Unit):=ents (ycv l ((List.finRange l.length).take k))
theorem yda (l:List Ev):∀k,k≤l.length→ycv (H:=Unit) l ((List.finRange l.length).take k)= .map (yb1 l k)
 |0,_=>rfl
 |k+1,h=>by
  have ih:=yda l k (by omega)
  unfold yb1
  rw [ycd _ _ (by omega),ydn,ih]
  rfl
theorem yio (l:List Ev) (k:Nat) (h:k<l.length):yb1 l (k+1)=DataW.insert (keyL (evAt l k).g,litI k) ((yb1 l k).filter fun p=> !p.1.sameKey (keyL (evAt l k).g)):=by
 have ih:=yda l k (by omega)
 conv=>lhs;unfold yb1
 rw [ycd _ _ h,ydn,ih]
 rfl
structure PlacesAt (l:List Ev) (k:Nat):Prop where
 le:(yb1 l k).length≤k
 ent:∀p∈yb1 l k,∃i,i<k∧p=(keyL (evAt l i).g,litI i)∧ ∀j,i<j→j<k→(evAt l j).g≠(evAt l i).g
 has:∀i,i<k→ ∃p∈yb1 l k,p.1=keyL (evAt l i).g
 iff:(yb1 l k).length=k↔ ∀i,i<k→ ∀j,j<i→(evAt l j).g≠(evAt l i).g
theorem yl6 (l:List Ev) (hw:∀i,i<l.length→wfI (evAt l i).g):∀k,k≤l.length→PlacesAt l k
 |0,_=>⟨Nat.le_refl _,fun p hp=>(by cases hp),fun i hi=>(by omega),⟨fun _ i hi=>(by omega),fun _=>rfl⟩⟩
 |k+1,h=>by
  have ih:=yl6 l hw k (by omega)
  have hk:=hw k (by omega)
  have hs:=yio l k (by omega)
  have hlen:(yb1 l (k+1)).length=((yb1 l k).filter fun p=> !p.1.sameKey (keyL (evAt l k).g)).length+1:=by rw [hs,length_insert]
  have hfl:((yb1 l k).filter fun p=> !p.1.sameKey (keyL (evAt l k).g)).length≤(yb1 l k).length:=List.length_filter_le _ _
  refine⟨by have:=ih.le;omega,?_,?_,?_⟩
  ·intro p hp
   rw [hs]at hp
   rcases ChangeMaps.mem_insert_iff.1 hp with rfl|hp
   ·exact⟨k,by omega,rfl,fun j h1 h2=>by omega⟩
   ·obtain⟨hp,hn⟩:=List.mem_filter.1 hp
    obtain⟨i,hi,rfl,hl⟩:=ih.ent p hp
    refine⟨i,by omega,rfl,fun j h1 h2=> ?_⟩
    by_cases e:j=k
    ·subst e
     simp only [ycp (hw i (by omega)) hk,Bool.not_eq_true',decide_eq_false_iff_not]at hn
     exact fun e=>hn e.symm
    ·exact hl j h1 (by omega)
  ·intro i hi
   rw [hs]
   by_cases e:(evAt l i).g=(evAt l k).g
   ·exact⟨_,ChangeMaps.mem_insert_iff.2 (.inl rfl),by rw [e]⟩
   ·have hik:i<k:=by
     rcases Nat.lt_or_ge i k with h|h
     ·exact h
     ·exact absurd (by rw [show i=k from by omega]) e
    obtain⟨p,hp,he⟩:=ih.has i hik
    refine⟨p,ChangeMaps.mem_insert_iff.2 (.inr (List.mem_filter.2 ⟨hp,?_⟩)),he⟩
    rw [he,ycp (hw i (by omega)) hk]
    simpa using e
  ·rw [hlen]
   constructor
   ·intro heq
    have hall:(yb1 l k).length=k:=by have:=ih.le;omega
    have hfe:((yb1 l k).filter fun p=> !p.1.sameKey (keyL (evAt l k).g)).length=(yb1 l k).length:=by omega
    have hf:=List.length_filter_eq_length_iff.1 hfe
    intro i hi j hj
    by_cases e:i=k
    ·subst e
     obtain⟨p,hp,he⟩:=ih.has j hj
     have:=hf p hp
     rw [he,ycp (hw j (by omega)) hk]at this
     simpa using this
    ·exact(ih.iff.1 hall) i (by omega) j hj
   ·intro hd
    have hall:(yb1 l k).length=k:=ih.iff.2 (fun i hi j hj=>hd i (by omega) j hj)
    have hfe:((yb1 l k).filter fun p=> !p.1.sameKey (keyL (evAt l k).g)).length=(yb1 l k).length:=by
     refine List.length_filter_eq_length_iff.2 (fun p hp=> ?_)
     obtain⟨i,hi,rfl,_⟩:=ih.ent p hp
     rw [ycp (hw i (by omega)) hk]
     simpa using hd k (by omega) i hi
    omega
theorem yj7 (n:Nat):(List.finRange n).take n=List.finRange n:=List.take_of_length_le (by simp)
set_option maxHeartbeats 1000000 in
theorem ye6 (a:Option Addr) (cap b:Nat) (l:List Ev) (w:World) (hl:l.length≤1048576) (hI:l= []∨ ∃off,a=some ⟨b,off,none⟩∧EvsAt w b off l) (hb:b<w.heap.size) (hwf:∀i,i<l.length→wfI (evAt l i).g):
  Calls Tryz.prog 115 #[.slice a l.length cap] w fun e w'=>Says e (∀i,i<l.length→ ∀j,j<i→(evAt l j).g≠(evAt l i).g)∧Below w.heap.size w w':=by
 have HP:Hid (PlacesAt l l.length):=yl6 l hwf l.length (Nat.le_refl _)
 have HC:=ymk (H:=Unit) a cap b l w hl hI hb hwf
 have HC':Hid (Calls Tryz.prog 161 #[.slice a l.length cap] w fun e W'=>e= .returned (.map (some w.heap.size))∧W'.ownsMap Tryz.prog 110 (plainElem (H:=Unit) Tryz.prog 3) w.heap.size l.length (ycv l (List.finRange l.length))∧Below w.heap.size w W'):=HC
 clear HC hI hwf
 go_enter Tryz.func115,Tryz.ntmps115
 go_wp2_with fail
 refine HC'.out.mono ?_
 rintro e w1 ⟨rfl,hown,hb1⟩
 have hD:=yda l l.length (Nat.le_refl _)
 rw [yj7]at hD
 have hrun:=hown.len Tryz.underlying204 3
 rw [hD]at hrun
 have hm:(Maps.size (.map (yb1 l l.length):DataW Unit):Int)=((yb1 l l.length).length:Int):=rfl
 rw [hm]at hrun
 generalize hn:(yb1 l l.length).length=n at hrun
 have HN:Hid ((yb1 l l.length).length=n):=hn
 clear hown hD hn hm
 go_wp2
 go_ret
 refine⟨?_,hb1⟩
 have hiff:=HP.out.iff
 rw [HN.out]at hiff
 refine⟨_,rfl,?_⟩
 rw [←hiff]
 simp
 omega
theorem yos {t s q d k v g:Int} (h:okB t s q d k v g=true):wfI g:=by
 simp only [okB,decide_eq_true_eq]at h
 exact WalkArith.wf_i64 (by omega)
theorem IsEvs.parts {w:World} {x:Value} {l:List Ev} (h:IsEvs w x l) (hw:0<w.heap.size):∃a cap b,x= .slice a l.length cap∧b<w.heap.size∧(l= []∨ ∃off,a=some ⟨b,off,none⟩∧EvsAt w b off l):=by
 obtain⟨a,cap,rfl,_,_,h⟩:=h
 rcases h with h|⟨b,off,rfl,h⟩
 ·exact⟨a,cap,0,rfl,hw,.inl h⟩
 ·exact⟨_,cap,b,rfl,h.1,.inr ⟨off,rfl,h⟩⟩
theorem yed {w w':World} {a:Option Addr} {b:Nat} {l:List Ev} (h:l= []∨ ∃off,a=some ⟨b,off,none⟩∧EvsAt w b off l) (hb:b<w.heap.size) (hB:Below w.heap.size w w'):l= []∨ ∃off,a=some ⟨b,off,none⟩∧EvsAt w' b off l:=
 h.imp id (fun⟨off,e,h⟩=>⟨off,e,h.below hB hb⟩)
end Go.Proofs.YtmobiieoecjmdaaGreat

/- The program's pastOk. -/
namespace Go.Proofs.YtmobiieoecjmdaaGreat
open Go.RowKit
set_option maxRecDepth 100000 in
set_option maxHeartbeats 8000000 in
theorem iPastOk (x:Value) (p:Pa) (w:World) (hw:p.wt≤1048576) (h:IsPart w x p):
  Calls Tryz.prog 195 #[x] w fun e w'=>Says e (∀i,i<p.p.length→yq4 p i)∧Below w.heap.size w w':=by
 obtain⟨v1,v4,v5,v6,rfl,h1,h4,h5,h6⟩:=h
 have hpl:p.p.length≤1048576:=by have:=ybg p.p;unfold Pa.wt at hw;omega
 have HWP:Hid (∀i,i<p.p.length→(psAt p.p i).b.r.length≤1048576∧(psAt p.p i).s.length≤1048576∧(psAt p.p i).x.length≤1048576):=fun i hi=>by
  have h9:(psAt p.p i).wt≤(yag p.p).wt:=Ps.wt_le hi
  unfold Ps.wt at h9
  unfold Pa.wt at hw
  simp only [yah,yan,ybi]at h9 hw
  omega
 obtain⟨pa,pc,rfl,_,_,h4⟩:=IsD.parts (c:=12) (n:=p.p.length) h4
 have H4:Hid (p.p.length=0∨ ∃b off,pa=some ⟨b,off,none⟩∧b<w.heap.size∧ ∀j,j<p.p.length*12→ ∃u,w.cell? ⟨b,off+j,none⟩=some u∧IsD w u (ya3 p.p j)):=h4
 clear h1 h4 h5 h6 hw
 obtain⟨W0,hW0⟩:∃W0,w.alloc (.cells #[.int .i64 p.n,v1,.int .i64 p.st.q,.int .i64 p.st.d,.slice pa p.p.length pc,v5,v6] 97)=W0:=⟨_,rfl⟩
 have HB0:Hid (Below w.heap.size w W0):=by rw [←hW0];exact(Below.refl _ w).alloc (Nat.le_refl _) _
 have HP0:Hid (Bk W0 w.heap.size 97 #[.int .i64 p.n,v1,.int .i64 p.st.q,.int .i64 p.st.d,.slice pa p.p.length pc,v5,v6]):=by rw [←hW0];exact Bk.new w _ _
 have hs0:w.heap.size<W0.heap.size:=HP0.out.lt
 have p4:=HP0.out.cell (i:=4) rfl
 go_enter Tryz.func195,Tryz.ntmps195
 go_wp2
 clear p4 hW0
 go_loopw [8] (fun i wr=>∃k:Nat,k≤p.p.length∧i= .int .i64 k∧Hid (∀j,j<k→yq4 p j)∧Below W0.heap.size W0 wr) (fun i _=>p.p.length-(intOf i).toNat)
 case atStart=>exact⟨0,Nat.zero_le _,rfl,fun j hj=>by omega,Below.refl _ _⟩
 case round=>
  obtain⟨k,hk,rfl,HA,hB⟩:=hrel
  have HB:Hid (Below W0.heap.size W0 wr):=hB
  have HBw:Hid (Below w.heap.size w wr):=HB0.out.trans (hB.mono (by omega))
  have hsr:W0.heap.size≤wr.heap.size:=hB.size
  have HPr:Hid (Bk wr w.heap.size 97 #[.int .i64 p.n,v1,.int .i64 p.st.q,.int .i64 p.st.d,.slice pa p.p.length pc,v5,v6]):=HP0.out.below hB
  clear hB
  by_cases hlt:k<p.p.length
  ·obtain⟨b,off,hpa,hb,hc⟩:=H4.out.resolve_left (by omega)
   subst hpa
   obtain⟨ua,ub,uc,f0,f1,f2,f3,f4,f5,f6,f7,f8,f9,f10,f11,d7,d10,d11⟩:=yc3 (l:=p.p) (n:=p.p.length) (fun j hj=>by
    obtain⟨u,hu,hd⟩:=hc j hj
    exact⟨u,(HBw.out.cell (p:=⟨b,off+j,none⟩) hb).trans hu,hd.under HBw.out⟩) hlt
   obtain⟨a7,c7,rfl,_⟩:=IsD.len (c:=1) (n:=(psAt p.p k).b.r.length) d7
   obtain⟨a10,c10,rfl,_⟩:=IsD.len (c:=7) (n:=(psAt p.p k).s.length) d10
   obtain⟨a11,c11,rfl,_⟩:=IsD.len (c:=3) (n:=(psAt p.p k).x.length) d11
   have hki:(k:Int)<(p.p.length:Int):=by omega
   obtain⟨W1,hW1⟩:∃W1,wr.alloc (.cells #[.int .i64 (psAt p.p k).e.t,.int .i64 (psAt p.p k).e.s,.int .i64 (psAt p.p k).e.q,.int .i64 (psAt p.p k).e.d,.int .i64 (psAt p.p k).e.k,.int .i64 (psAt p.p k).e.v,.int .i64 (psAt p.p k).e.g,.slice a7 (psAt p.p k).b.r.length c7,.int .i64 (psAt p.p k).b.q,.int .i64 (psAt p.p k).b.d,.slice a10 (psAt p.p k).s.length c10,.slice a11 (psAt p.p k).x.length c11] 115)=W1:=⟨_,rfl⟩
   have hB1:Below wr.heap.size wr W1:=by rw [←hW1];exact(Below.refl _ wr).alloc (Nat.le_refl _) _
   have HB1:Hid (Below wr.heap.size wr W1):=hB1
   have HX:Hid (Bk W1 wr.heap.size 115 #[.int .i64 (psAt p.p k).e.t,.int .i64 (psAt p.p k).e.s,.int .i64 (psAt p.p k).e.q,.int .i64 (psAt p.p k).e.d,.int .i64 (psAt p.p k).e.k,.int .i64 (psAt p.p k).e.v,.int .i64 (psAt p.p k).e.g,.slice a7 (psAt p.p k).b.r.length c7,.int .i64 (psAt p.p k).b.q,.int .i64 (psAt p.p k).b.d,.slice a10 (psAt p.p k).s.length c10,.slice a11 (psAt p.p k).x.length c11]):=by rw [←hW1];exact Bk.new _ _ _
   have HSt:Hid (IsS W1 (.agg #[.slice a7 (psAt p.p k).b.r.length c7,.int .i64 (psAt p.p k).b.q,.int .i64 (psAt p.p k).b.d]) (psAt p.p k).b):=⟨_,rfl,(d7.under hB1).isI⟩
   have HSe:Hid (IsEvs W1 (.slice a10 (psAt p.p k).s.length c10) (psAt p.p k).s):=(d10.under hB1).isEvs
   have HEm:Hid (IsX W1 (.slice a11 (psAt p.p k).x.length c11) (psAt p.p k).x):=(d11.under hB1).isX
   have HWk:Hid ((psAt p.p k).b.r.length≤1048576∧(psAt p.p k).s.length≤1048576∧(psAt p.p k).x.length≤1048576):=HWP.out k hlt
   have HBW:Hid (Below W0.heap.size W0 W1):=HB.out.trans (hB1.mono hsr)
   have x7:=HX.out.cell (i:=7) rfl
   have x8:=HX.out.cell (i:=8) rfl
   have x9:=HX.out.cell (i:=9) rfl
   clear hc d7 d10 d11 hB1
   go_wp2_with fail
   clear hW1 x7 x8 x9 f0 f1 f2 f3 f4 f5 f6 f7 f8 f9 f10 f11
   refine(iStOk _ (psAt p.p k).b _ HSt.out).mono ?_
   rintro e w2 ⟨rfl,hb2⟩
   have HB2:Hid (Below W1.heap.size W1 w2):=hb2
   have HBW2:Hid (Below W0.heap.size W0 w2):=HBW.out.trans (hb2.mono HBW.out.size)
   have HBw2:Hid (Below w.heap.size w w2):=HB0.out.trans (HBW2.out.mono (by omega))
   have HX2:Hid (Bk w2 wr.heap.size 115 #[.int .i64 (psAt p.p k).e.t,.int .i64 (psAt p.p k).e.s,.int .i64 (psAt p.p k).e.q,.int .i64 (psAt p.p k).e.d,.int .i64 (psAt p.p k).e.k,.int .i64 (psAt p.p k).e.v,.int .i64 (psAt p.p k).e.g,.slice a7 (psAt p.p k).b.r.length c7,.int .i64 (psAt p.p k).b.q,.int .i64 (psAt p.p k).b.d,.slice a10 (psAt p.p k).s.length c10,.slice a11 (psAt p.p k).x.length c11]):=HX.out.below hb2
   have HP2:=HP0.out.below HBW2.out
   have y0:=HP2.cell (i:=0) rfl
   have x0:=HX2.out.cell (i:=0) rfl
   have x1:=HX2.out.cell (i:=1) rfl
   have x2:=HX2.out.cell (i:=2) rfl
   have x3:=HX2.out.cell (i:=3) rfl
   have x4:=HX2.out.cell (i:=4) rfl
   have x5:=HX2.out.cell (i:=5) rfl
   have x6:=HX2.out.cell (i:=6) rfl
   have x7:=HX2.out.cell (i:=7) rfl
   have x8:=HX2.out.cell (i:=8) rfl
   have x9:=HX2.out.cell (i:=9) rfl
   have x10:=HX2.out.cell (i:=10) rfl
   have x11:=HX2.out.cell (i:=11) rfl
   clear hb2 HP2
   cases hst:(psAt p.p k).b.ok
   ·have KS:Hid ((psAt p.p k).b.ok=false):=hst
    clear hst
    go_wp2
    go_ret
    exact⟨Says.no (fun h=>by have:=(h k hlt).1;rw [KS.out]at this;cases this),HBw2.out⟩
   have KS:Hid ((psAt p.p k).b.ok=true):=hst
   clear hst
   go_wp2_with fail
   clear x0 x1 x2 x3 x4 x5 x6 x7 x8 x9 x10 x11 y0
   obtain⟨ea,ec,eb,heq,hbe,hI⟩:=IsEvs.parts (HSe.out.below HB2.out) (by have:=HX2.out.lt;omega)
   cases heq
   refine(iSent _ _ a10 c10 eb (psAt p.p k) p.n _ (by have:=HWk.out.2.1;omega) hI hbe).mono ?_
   rintro e w3 ⟨⟨bs,rfl,hs⟩,hb3⟩
   have HSs:Hid (bs=true↔ybj p.n (psAt p.p k)=true):=hs
   have HB3:Hid (Below w2.heap.size w2 w3):=hb3
   have HBW3:Hid (Below W0.heap.size W0 w3):=HBW2.out.trans (hb3.mono HBW2.out.size)
   have HBw3:Hid (Below w.heap.size w w3):=HB0.out.trans (HBW3.out.mono (by omega))
   have HX3:Hid (Bk w3 wr.heap.size 115 #[.int .i64 (psAt p.p k).e.t,.int .i64 (psAt p.p k).e.s,.int .i64 (psAt p.p k).e.q,.int .i64 (psAt p.p k).e.d,.int .i64 (psAt p.p k).e.k,.int .i64 (psAt p.p k).e.v,.int .i64 (psAt p.p k).e.g,.slice a7 (psAt p.p k).b.r.length c7,.int .i64 (psAt p.p k).b.q,.int .i64 (psAt p.p k).b.d,.slice a10 (psAt p.p k).s.length c10,.slice a11 (psAt p.p k).x.length c11]):=HX2.out.below hb3
   have x11:=HX3.out.cell (i:=11) rfl
   clear hs hb3 hI hbe
   cases bs
   ·go_wp2
    go_ret
    exact⟨Says.no (fun h=>by have:=HSs.out.2 (h k hlt).2.1;cases this),HBw3.out⟩
   have KE:Hid (ybj p.n (psAt p.p k)=true):=HSs.out.1 rfl
   by_cases h8:8<(psAt p.p k).x.length
   ·have h8':(8:Int)<((psAt p.p k).x.length:Int):=by omega
    have KM:Hid (emsB (psAt p.p k).x=false):=by
     show emsB (psAt p.p k).x=false
     unfold emsB
     rw [decide_eq_false (by omega)]
     rfl
    go_wp2
    go_ret
    exact⟨Says.no (fun h=>by have:=(h k hlt).2.2;rw [KM.out]at this;cases this),HBw3.out⟩
   have h8':¬(8:Int)<((psAt p.p k).x.length:Int):=by omega
   have H8:Hid ((psAt p.p k).x.length≤8):=by show(psAt p.p k).x.length≤8;omega
   clear h8
   go_wp2_with fail
   clear x11
   refine(iEmits _ (psAt p.p k).x _ (by have:=HWk.out.2.2;omega) ((HEm.out.below HB2.out).below HB3.out)).mono ?_
   rintro e w4 ⟨rfl,hb4⟩
   have HBW4:Hid (Below W0.heap.size W0 w4):=HBW3.out.trans (hb4.mono HBW3.out.size)
   have HBw4:Hid (Below w.heap.size w w4):=HB0.out.trans (HBW4.out.mono (by omega))
   clear hb4
   cases hem:emsC (psAt p.p k).x
   ·have KM:Hid (emsB (psAt p.p k).x=false):=by
     show emsB (psAt p.p k).x=false
     rw [ypp,hem,Bool.and_false]
    clear hem
    go_wp2
    go_ret
    exact⟨Says.no (fun h=>by have:=(h k hlt).2.2;rw [KM.out]at this;cases this),HBw4.out⟩
   have KM:Hid (emsB (psAt p.p k).x=true):=by
    show emsB (psAt p.p k).x=true
    rw [ypp,hem,decide_eq_true H8.out]
    rfl
   clear hem
   go_wp2
   go_roundw
   case rel=>exact⟨k+1,by omega,by go_num,fun j hj=>by
    by_cases e:j=k
    ·subst e;exact⟨KS.out,KE.out,KM.out⟩
    ·exact HA.out j (by omega),HBW4.out⟩
   case measure=>simp [intOf];omega
  ·go_wp2
   go_ret
   exact⟨Says.yes (fun j hj=>HA.out j (by omega)),HBw.out⟩
def OwnR (B:Nat) (w:World) (x:Value) (l:List Ev):Prop:=w.ownsRow B 110 7 x l.length (yal l)
theorem OwnR.own {B:Nat} {w:World} {x:Value} {l:List Ev} (h:OwnR B w x l):OwnEvs B w x l:=OwnEvs.of_row h
theorem OwnR.below {B:Nat} {w w':World} {x:Value} {l:List Ev} (h:OwnR B w x l) (hb:Below w.heap.size w w'):OwnR B w' x l:=by
 obtain⟨h0,⟨e,h1⟩|⟨g,cap,cur,e,hg,hc,h1⟩⟩:=h
 ·exact⟨h0,.inl ⟨e,h1⟩⟩
 ·exact⟨h0,.inr ⟨g,cap,cur,e,hg,(hb.block g (Array.getElem?_eq_some_iff.1 hc).1).trans hc,h1⟩⟩
theorem OwnR.mono {B B':Nat} {w:World} {x:Value} {l:List Ev} (h:OwnR B w x l) (hB:B'≤B):OwnR B' w x l:=by
 obtain⟨h0,⟨e,h1⟩|⟨g,cap,cur,e,hg,h1⟩⟩:=h
 ·exact⟨h0,.inl ⟨e,h1⟩⟩
 ·exact⟨h0,.inr ⟨g,cap,cur,e,Nat.le_trans hB hg,h1⟩⟩
theorem OwnR.evs {B:Nat} {w:World} {x:Value} {l:List Ev} (h:OwnR B w x l):IsEvs w x l:=h.own.isEvs
theorem yau {P:Program} {ops:Array Oper} {o:Oper} {a:Act} {w:World} {K:Act→World→Prop} {Q:Exit→Act→World→Prop} {E:Prop}
  (hg:o.guard=none) (s x:Operand) (t:TypeId) (hop:o.op=Op.call {callee:=Callee.builtin Builtin.append,args:= #[s,x],argTypes:= #[t,t]})
  (base:Nat) (e:TypeId) (i:TypeInfo) (z:Value) (size bytes:Nat) (h1:P.underlying t=some (.slice e)) (h2:P.info? e=some i) (h3:i.zero=some z) (h4:i.size=size) (h5:i.bytes=bytes) (h6:z.cells.size=size) (h7:0<size)
  (v:Value) (n:Nat) (xs:List Value) (hs:a.eval s=v) (hown:w.ownsRow base e size v n xs)
  (ad:Addr) (m c:Nat) (news:List Value) (hx:a.eval x= .slice (some ad) m c) (hn:news.length=m*size) (hc:∀j u,news[j]? =some u→w.cell? (ad.add j)=some u) (h1c:∀u∈news,u.oneCell'=true)
  (b1:n+m≤maxLen) (b2:(n+m)*bytes≤140737488355328) (hbase:base≤w.heap.size)
  (hK:∀v' w',w'.ownsRow base e size v' (n+m) (xs++news)→w.grownBy w' v.ownBlock→K (a.put o.dst v') w'):
  if Region.wanted o (yielded ops a.tmps)=true then Oper.wp P o a w K Q else E:=by
 have hw:Region.wanted o (yielded ops a.tmps)=true:=by simp [Region.wanted,hg]
 rw [if_pos hw]
 exact wp_append_own w s x t hop base e i z size bytes h1 h2 h3 h4 h5 h6 h7 v n xs hs hown ad m c news hx hn hc h1c b1 b2 hbase (fun v' w' r1 r2 _=>hK v' w' r1 r2)
theorem yb0 {w:World} {B:Nat} {e:TypeId} {size n:Nat} {v:Value} {xs:List Value} (h:w.ownsRow B e size v n xs) {r:Nat} (hr:v.ownBlock=some r):B≤r:=by
 obtain⟨_,⟨rfl,_⟩|⟨g,cap,cur,rfl,hg,_⟩⟩:=h
 ·cases hr
 ·cases hr;exact hg
end Go.Proofs.YtmobiieoecjmdaaGreat

