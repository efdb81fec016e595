/- Places, PlacesM, Differ, PIk, PId, PIg -/
import Derived.Test.YtghndljgadpijaaGreatExactCollectG11
import Derived.Test.YtghndljgadpijaaGreatExactCollectG15
import Derived.Test.YtghndljgadpijaaGreatExactCollectG12
import Derived.Maps.OwnSet
import Derived.Test.YtghndljgadpijaaGreatExactCollectG01
import Derived.Test.YtghndljgadpijaaGreatExactCollectG13
import Derived.Test.YtghndljgadpijaaGreatExactCollectG03
import Derived.Deep.RegionHeld3
/- The program's map from tags to places. -/
namespace Go.Proofs.YtghndljgadpijaaGreat
open Go.RowKit Go.Shelf Go.Maps Go.WideShapes
theorem zoq {p:Prop} (h:p):Hid p:=h
attribute [local go_sem] Oper.semAt_some
def zao {H:Type} (l:List Ev) (pre:List (Fin l.length)):DataW H:=pre.foldl (fun D x=>D.put (keyL (evAt l x.val).g) (.lit (.int .i64 ((x.val:Nat):Int)))) (.map [])
theorem zbi {H:Type} (l:List Ev) (pre:List (Fin l.length)) (x:Fin l.length):zao (H:=H) l (pre++ [x])=(zao l pre).put (keyL (evAt l x.val).g) (.lit (.int .i64 ((x.val:Nat):Int))):=by simp [zao]
theorem zcv {H:Type} {P:Program} {k:TypeId} {R:Value→Option (DataW H×List MemPlace)} {b n:Nat} {D:DataW H} {B:Nat} {W W':World} (h:W.ownsMap P k R b n D) (hb:Below B W W') (hB:b<B):W'.ownsMap P k R b n D:=by
  obtain⟨es,ck,h1,h2⟩:=h
  exact⟨es,ck,(hb.block b hB).trans h1,h2⟩
set_option maxRecDepth 100000 in
set_option maxHeartbeats 4000000 in
theorem places_any {H:Type} (a:Option Addr) (cap b:Nat) (l:List Ev) (w:World) (hl:l.length≤1048576) (hI:l= []∨ ∃off,a=some ⟨b,off,none⟩∧EvsAt w b off l) (hb:b<w.heap.size) (hwf:∀i,i<l.length→wfI (evAt l i).g):
    Calls Tryz.prog 198 #[.slice a l.length cap] w fun e W'=>e= .returned (.map (some w.heap.size))∧W'.ownsMap Tryz.prog 90 (plainElem (H:=H) Tryz.prog 3) w.heap.size l.length (zao l (List.finRange l.length))∧Below w.heap.size w W':=by
  have hmm:=ze0
  refine(callsIn_wide (n:=5)).1 ?_
  refine callsIn_of_wp_marks Tryz.func198 rfl trivial ?_ rfl
  simp only [Tryz.ntmps198,List.size_toArray,List.length_cons,List.length_nil,Nat.reduceAdd,Nat.reduceSub,Array.replicate_succ,Array.replicate_zero,List.push_toArray,List.append_toArray,List.nil_append,List.cons_append]
  gi_wp2_with (refine⟨trivial,?_⟩;gi_at_call 200;refine(callsIn_wide.2 (zc1 _ _ _ _)).mono ?_;rintro e w' ⟨rfl,rfl⟩)
  clear hmm
  have hm0:=World.ownsMap_made w Tryz.prog 90 (plainElem (H:=H) Tryz.prog 3)
  have cM:=(Boxed.new (w.alloc (.map #[] 0)) 262 (.map (some w.heap.size))).alloc (.cells #[.slice a l.length cap] 34)
  have cS:=Boxed.new ((w.alloc (.map #[] 0)).alloc (.cells #[.map (some w.heap.size)] 262)) 34 (.slice a l.length cap)
  simp only [World.size_alloc]at cM cS
  have hB0:Below w.heap.size w (((w.alloc (.map #[] 0)).alloc (.cells #[.map (some w.heap.size)] 262)).alloc (.cells #[.slice a l.length cap] 34)):=(((Below.refl _ w).alloc (Nat.le_refl _) _).alloc (by simp) _).alloc (by simp;omega) _
  refine wpIn_rangeFunc_ownH rfl (by omega) (gf:=254) (lb:= #[.pointer (some ⟨w.heap.size+1+1,0,none⟩)]) rfl trivial (enters_of Tryz.func254 (by kernel_rfl) rfl)
    (za7 Fence.wide 4 trivial rfl (by omega) (w.heap.size+1+1) b a cap l hl _ (by simp) cS.cell (hI.imp id (fun⟨off,e,h⟩=>⟨off,e,h.below hB0 hb⟩))) Same2.trans (Same2.putObj (by simp) (by simp;omega)) (Below.refl _ _) (fun _=>rfl)
    (fun pre W=>(W.cell? ⟨w.heap.size+1,0,none⟩=some (.map (some w.heap.size))∧W.ownsMap Tryz.prog 90 (plainElem (H:=H) Tryz.prog 3) w.heap.size pre.length (zao l pre)∧w.heap.size+3≤W.heap.size)∧Below w.heap.size w W)
    (fun _ _ _=>False)
    (OwnFrom.and (fun s A B row hs hg hr=>⟨cell_kept hs.1 hg (fun r e=>(hr r e).2),hs.2.1.kept hg (fun e=>by have:=(hr _ e.symm).1;simp at this;omega),Nat.le_trans hs.2.2 hg.size⟩) (ownFrom_below (Nat.le_refl _) (by simp;omega)))
    (fun _ _ _ _ _ hs _ _=>hs)
    ⟨⟨cM.cell,(hm0.alloc _).alloc _,by simp⟩,hB0⟩
    (fun x a' W=>∃Bx,w.heap.size+3≤Bx∧Bx<W.heap.size∧Ev.In W Bx 0 (evAt l x.val)∧a'= {tmps:= #[.slice a l.length cap,undef,.map none,.pointer (some ⟨w.heap.size+1,0,none⟩),.int .i64 ((x.val:Nat):Int),.pointer (some ⟨Bx,0,none⟩),.slice a l.length cap,.int .i64 (l.length:Int),.map (some w.heap.size),.slice a l.length cap,.func (.func 254) #[] #[.pointer (some ⟨w.heap.size+1+1,0,none⟩)],.int .i64 ((x.val:Nat):Int),(evAt l x.val).val,undef,undef,undef,undef,undef,undef],defers:= []})
    (fun x a' s A B row hs hg hr=>by obtain⟨Bx,h1,h2,h3,h4⟩:=hs;exact⟨Bx,h1,Nat.lt_of_lt_of_le h2 hg.size,h3.kept hg (fun r e=>(hr r e).2),h4⟩) ?assign ?body ?done ?stop
  case assign=>
    rintro lp pre x W K ⟨⟨hc,hown,hz⟩,hB⟩ hK
    have HO:=hown
    clear hown
    gi_wp2
    have hBW:Below W.heap.size W (W.alloc (.cells #[.int .i64 (evAt l x.val).t,.int .i64 (evAt l x.val).s,.int .i64 (evAt l x.val).q,.int .i64 (evAt l x.val).d,.int .i64 (evAt l x.val).k,.int .i64 (evAt l x.val).v,.int .i64 (evAt l x.val).g] 90)):=(Below.refl _ W).alloc (Nat.le_refl _) _
    exact hK _ _ ((KeepsOthers.alloc _ _).from _) (Same2.below hBW (by omega) (by omega)) ⟨⟨(hBW.cell (p:=⟨w.heap.size+1,0,none⟩) (by simp;omega)).trans hc,zcv HO hBW (by omega),by simp;omega⟩,hB.trans (hBW.mono (by omega))⟩ ⟨W.heap.size,hz,by simp,EvAt.new _ _ _ _ _ _ _ _ _,rfl⟩
  case body=>
    rintro lp pre x a' W hlp _ ⟨⟨hc,hown,hz⟩,hB⟩ ⟨Bx,h1,h2,h3,rfl⟩ hlt
    obtain⟨f0,f1,f2,f3,f4,f5,f6⟩:=h3.lits
    clear f0 f1 f2 f3 f4 f5 h3 cM cS hI hm0
    have HO:Hid (W.ownsMap Tryz.prog 90 (plainElem (H:=H) Tryz.prog 3) w.heap.size pre.length (zao l pre)):=hown
    have HB:=zoq hB
    have HW:Hid (wfI (evAt l x.val).g):=hwf _ x.isLt
    have HX:Hid ((Lit.int .i64 ((x.val:Nat):Int)).wf=true):=WalkArith.wf_i64 (by have:=x.isLt;omega)
    clear hown hB hB0 hwf
    have hmo:Tryz.prog.follows .mixedOrders=true:=by kernel_rfl
    gi_wp2
    gi_region_with_o (refine⟨trivial,?_⟩;gi_at_call 252;refine(CallsIn.inRound lp (callsIn_wide.2 (zli _ _))).mono ?_;rintro e w2 ⟨rfl,hb2⟩;have hc2:w2.cell? ⟨w.heap.size+1,0,none⟩=some (.map (some w.heap.size)):=(hb2.cell (p:=⟨w.heap.size+1,0,none⟩) (by simp;omega)).trans hc;obtain⟨w3,hrun,hown3,hg3⟩:=(zcv (W:=W.drew) HO.out hb2 (by simp;omega)).update keyed25 Tryz.underlying262 (by unfold maxLen;omega) (zeq _ HW.out) (plainElem_int Tryz.underlying3 HX.out))
    all_goals
      gi_wp2
      have hb3:Below w.heap.size w w2:=HB.out.drew.trans (hb2.mono (by simp;omega))
      have hz2:W.heap.size≤w2.heap.size:=by simpa using hb2.size
      refine⟨KeepsFrom.trans ((yvh (W:=W) (W':=w2) ((Below.refl _ W).drew.trans hb2)).from _) (KeepsFrom.of_grownBy hg3 (fun j e=>by cases e;simp;omega)),?_,⟨?_,by rw [zbi,List.length_append];exact hown3,Nat.le_trans (by omega) hg3.size⟩,hb3.grown hg3 (by omega) (fun k e=>by cases e;exact Nat.le_refl _)⟩
      · exact Same2.trans (Same2.below (n:=W.heap.size) ((Below.refl _ W).drew.trans hb2) (by omega) (by omega)) ⟨hg3.block (w.heap.size+1+1) (by omega) (by simp;omega),hg3.block b (by omega) (by simp;omega)⟩
      · exact(World.cell?_of_block (w:=w2) (hg3.block (w.heap.size+1) (by omega) (by simp))).trans hc2
  case done=>
    rintro D ys W hD rfl ⟨⟨hc,hown,hz⟩,hB⟩ hK
    have HO:Hid (W.ownsMap Tryz.prog 90 (plainElem (H:=H) Tryz.prog 3) w.heap.size (List.finRange l.length).length (zao l (List.finRange l.length))):=hown
    clear hown
    gi_wp2
    refine⟨by simp,.inl ⟨_,_,rfl,run_takeDeferred hK,?_⟩⟩
    exact⟨_,results_tmp rfl _ _ _,rfl,by have:=HO.out.kept (grownBy_putObj' _ D (.deferred none)) (fun e=>by cases e;simp at hD;omega);simpa using this,hB.trans (belowK_b (w:=w) (Nat.le_refl _) W D _ _ (by simp at hD;omega) hK rfl rfl)⟩
  case stop=>
    rintro D c pre W _ _ h _
    exact h.elim
end Go.Proofs.YtghndljgadpijaaGreat

/- What the map from tags to places holds. -/
namespace Go.Proofs.YtghndljgadpijaaGreat
open Go.RowKit Go.Maps Go.WideShapes
theorem zai {g g':Int} (h:wfI g) (h':wfI g'):(keyL g).sameKey (keyL g')=decide (g=g'):=by
  by_cases e:g=g'
  · subst e;simp [keyL,Lit.sameKey]
  · have:keyL g≠keyL g':=fun h1=>e (keyL_inj h h' h1)
    unfold keyL at this⊢
    simp only [Lit.sameKey,e,decide_false,beq_eq_false_iff_ne]
    intro h1
    exact this (by rw [h1])
def ents {H:Type}:DataW H→List (Lit×DataW H)
  | .map es=>es
  |_=> []
abbrev litI (i:Nat):DataW Unit:= .lit (.int .i64 ((i:Nat):Int))
def yy6 (l:List Ev) (k:Nat):List (Lit×DataW Unit):=ents (zao l ((List.finRange l.length).take k))
theorem zaz (l:List Ev):∀k,k≤l.length→zao (H:=Unit) l ((List.finRange l.length).take k)= .map (yy6 l k)
  |0,_=>rfl
  |k+1,h=>by
    have ih:=zaz l k (by omega)
    unfold yy6
    rw [za1 _ _ (by omega),zbi,ih]
    rfl
theorem zhj (l:List Ev) (k:Nat) (h:k<l.length):yy6 l (k+1)=DataW.insert (keyL (evAt l k).g,litI k) ((yy6 l k).filter fun p=> !p.1.sameKey (keyL (evAt l k).g)):=by
  have ih:=zaz l k (by omega)
  conv=>lhs;unfold yy6
  rw [za1 _ _ h,zbi,ih]
  rfl
structure PlacesAt (l:List Ev) (k:Nat):Prop where
  le:(yy6 l k).length≤k
  ent:∀p∈yy6 l k,∃i,i<k∧p=(keyL (evAt l i).g,litI i)∧ ∀j,i<j→j<k→(evAt l j).g≠(evAt l i).g
  has:∀i,i<k→ ∃p∈yy6 l k,p.1=keyL (evAt l i).g
  iff:(yy6 l k).length=k↔ ∀i,i<k→ ∀j,j<i→(evAt l j).g≠(evAt l i).g
theorem zkc (l:List Ev) (hw:∀i,i<l.length→wfI (evAt l i).g):∀k,k≤l.length→PlacesAt l k
  |0,_=>⟨Nat.le_refl _,fun p hp=>(by cases hp),fun i hi=>(by omega),⟨fun _ i hi=>(by omega),fun _=>rfl⟩⟩
  |k+1,h=>by
    have ih:=zkc l hw k (by omega)
    have hk:=hw k (by omega)
    have hs:=zhj l k (by omega)
    have hlen:(yy6 l (k+1)).length=((yy6 l k).filter fun p=> !p.1.sameKey (keyL (evAt l k).g)).length+1:=by rw [hs,length_insert]
    have hfl:((yy6 l k).filter fun p=> !p.1.sameKey (keyL (evAt l k).g)).length≤(yy6 l k).length:=List.length_filter_le _ _
    refine⟨by have:=ih.le;omega,?_,?_,?_⟩
    · intro p hp
      rw [hs]at hp
      rcases ChangeMaps.mem_insert_iff.1 hp with rfl|hp
      · exact⟨k,by omega,rfl,fun j h1 h2=>by omega⟩
      · obtain⟨hp,hn⟩:=List.mem_filter.1 hp
        obtain⟨i,hi,rfl,hl⟩:=ih.ent p hp
        refine⟨i,by omega,rfl,fun j h1 h2=> ?_⟩
        by_cases e:j=k
        · subst e
          simp only [zai (hw i (by omega)) hk,Bool.not_eq_true',decide_eq_false_iff_not]at hn
          exact fun e=>hn e.symm
        · exact hl j h1 (by omega)
    · intro i hi
      rw [hs]
      by_cases e:(evAt l i).g=(evAt l k).g
      · exact⟨_,ChangeMaps.mem_insert_iff.2 (.inl rfl),by rw [e]⟩
      · have hik:i<k:=by
          rcases Nat.lt_or_ge i k with h|h
          · exact h
          · exact absurd (by rw [show i=k from by omega]) e
        obtain⟨p,hp,he⟩:=ih.has i hik
        refine⟨p,ChangeMaps.mem_insert_iff.2 (.inr (List.mem_filter.2 ⟨hp,?_⟩)),he⟩
        rw [he,zai (hw i (by omega)) hk]
        simpa using e
    · rw [hlen]
      constructor
      · intro heq
        have hall:(yy6 l k).length=k:=by have:=ih.le;omega
        have hfe:((yy6 l k).filter fun p=> !p.1.sameKey (keyL (evAt l k).g)).length=(yy6 l k).length:=by omega
        have hf:=List.length_filter_eq_length_iff.1 hfe
        intro i hi j hj
        by_cases e:i=k
        · subst e
          obtain⟨p,hp,he⟩:=ih.has j hj
          have:=hf p hp
          rw [he,zai (hw j (by omega)) hk]at this
          simpa using this
        · exact(ih.iff.1 hall) i (by omega) j hj
      · intro hd
        have hall:(yy6 l k).length=k:=ih.iff.2 (fun i hi j hj=>hd i (by omega) j hj)
        have hfe:((yy6 l k).filter fun p=> !p.1.sameKey (keyL (evAt l k).g)).length=(yy6 l k).length:=by
          refine List.length_filter_eq_length_iff.2 (fun p hp=> ?_)
          obtain⟨i,hi,rfl,_⟩:=ih.ent p hp
          rw [zai (hw i (by omega)) hk]
          simpa using hd k (by omega) i hi
        omega
theorem zi2 {p:Prop} (h:p):Hid p:=h
theorem zi7 (n:Nat):(List.finRange n).take n=List.finRange n:=List.take_of_length_le (by simp)
set_option maxHeartbeats 1000000 in
theorem zc6 (a:Option Addr) (cap b:Nat) (l:List Ev) (w:World) (hl:l.length≤1048576) (hI:l= []∨ ∃off,a=some ⟨b,off,none⟩∧EvsAt w b off l) (hb:b<w.heap.size) (hwf:∀i,i<l.length→wfI (evAt l i).g):
    Calls Tryz.prog 133 #[.slice a l.length cap] w fun e w'=>Says e (∀i,i<l.length→ ∀j,j<i→(evAt l j).g≠(evAt l i).g)∧Below w.heap.size w w':=by
  have HP:=zi2 (zkc l hwf l.length (Nat.le_refl _))
  have HC:=places_any (H:=Unit) a cap b l w hl hI hb hwf
  have HC':Hid (Calls Tryz.prog 198 #[.slice a l.length cap] w fun e W'=>e= .returned (.map (some w.heap.size))∧W'.ownsMap Tryz.prog 90 (plainElem (H:=Unit) Tryz.prog 3) w.heap.size l.length (zao l (List.finRange l.length))∧Below w.heap.size w W'):=HC
  clear HC hI hwf
  go_enter Tryz.func133,Tryz.ntmps133
  go_wp2_with fail
  refine HC'.out.mono ?_
  rintro e w1 ⟨rfl,hown,hb1⟩
  have hD:=zaz l l.length (Nat.le_refl _)
  rw [zi7]at hD
  have hrun:=hown.len Tryz.underlying262 3
  rw [hD]at hrun
  have hm:(Maps.size (.map (yy6 l l.length):DataW Unit):Int)=((yy6 l l.length).length:Int):=rfl
  rw [hm]at hrun
  generalize hn:(yy6 l l.length).length=n at hrun
  have HN:=zi2 hn
  clear hown hD hn hm
  go_wp2
  go_ret
  refine⟨?_,hb1⟩
  have hiff:=HP.out.iff
  rw [HN.out]at hiff
  refine⟨_,rfl,?_⟩
  rw [←hiff]
  simp
  omega
theorem zo5 {t s q d k v g:Int} (h:okB t s q d k v g=true):wfI g:=by
  simp only [okB,decide_eq_true_eq]at h
  exact WalkArith.wf_i64 (by omega)
theorem IsEvs.parts {w:World} {x:Value} {l:List Ev} (h:IsEvs w x l) (hw:0<w.heap.size):∃a cap b,x= .slice a l.length cap∧b<w.heap.size∧(l= []∨ ∃off,a=some ⟨b,off,none⟩∧EvsAt w b off l):=by
  obtain⟨a,cap,rfl,_,_,h⟩:=h
  rcases h with h|⟨b,off,rfl,h⟩
  · exact⟨a,cap,0,rfl,hw,.inl h⟩
  · exact⟨_,cap,b,rfl,h.1,.inr ⟨off,rfl,h⟩⟩
theorem zcd {w w':World} {a:Option Addr} {b:Nat} {l:List Ev} (h:l= []∨ ∃off,a=some ⟨b,off,none⟩∧EvsAt w b off l) (hb:b<w.heap.size) (hB:Below w.heap.size w w'):l= []∨ ∃off,a=some ⟨b,off,none⟩∧EvsAt w' b off l:=
  h.imp id (fun⟨off,e,h⟩=>⟨off,e,h.below hB hb⟩)
end Go.Proofs.YtghndljgadpijaaGreat

/- The program's pastOk. -/
namespace Go.Proofs.YtghndljgadpijaaGreat
open Go.RowKit
theorem yz9 {p:Prop} (h:p):Hid p:=h
set_option maxRecDepth 100000 in
set_option maxHeartbeats 8000000 in
theorem iPastOk (x:Value) (p:Pa) (w:World) (hw:p.wt≤1048576) (h:IsPart w x p):
    Calls Tryz.prog 249 #[x] w fun e w'=>Says e (∀i,i<p.p.length→Past2 p i)∧Below w.heap.size w w':=by
  obtain⟨v1,v4,v5,v6,rfl,h1,h4,h5,h6⟩:=h
  have hpl:p.p.length≤1048576:=by have:=yxh p.p;unfold Pa.wt at hw;omega
  have HWP:Hid (∀i,i<p.p.length→(psAt p.p i).b.r.length≤1048576∧(psAt p.p i).s.length≤1048576∧(psAt p.p i).x.length≤1048576):=fun i hi=>by
    have h9:(psAt p.p i).wt≤(yw3 p.p).wt:=Ps.wt_le hi
    unfold Ps.wt at h9
    unfold Pa.wt at hw
    simp only [ywf,yx0,yy3]at h9 hw
    omega
  obtain⟨pa,pc,rfl,_,_,h4⟩:=IsD.parts (c:=12) (n:=p.p.length) h4
  have H4:=yz9 h4
  clear h1 h4 h5 h6 hw
  obtain⟨W0,hW0⟩:∃W0,w.alloc (.cells #[.int .i64 p.n,v1,.int .i64 p.st.q,.int .i64 p.st.d,.slice pa p.p.length pc,v5,v6] 97)=W0:=⟨_,rfl⟩
  have HB0:=hdq (beA hW0)
  have HP0:=hdq (bkA hW0)
  have hs0:w.heap.size<W0.heap.size:=HP0.out.lt
  have p4:=HP0.out.cell (i:=4) rfl
  go_enter Tryz.func249,Tryz.ntmps249
  go_wp2
  clear p4 hW0
  go_loopw [8] (fun i wr=>∃k:Nat,k≤p.p.length∧i= .int .i64 k∧Hid (∀j,j<k→Past2 p j)∧Below W0.heap.size W0 wr) (fun i _=>p.p.length-(intOf i).toNat)
  case atStart=>exact⟨0,Nat.zero_le _,rfl,fun j hj=>by omega,Below.refl _ _⟩
  case round=>
    obtain⟨k,hk,rfl,HA,hB⟩:=hrel
    have HB:=yz9 hB
    have HBw:=yz9 (HB0.out.trans (hB.mono (by omega)))
    have hsr:W0.heap.size≤wr.heap.size:=hB.size
    have HPr:=yz9 (HP0.out.below hB)
    clear hB
    by_cases hlt:k<p.p.length
    · obtain⟨b,off,hpa,hb,hc⟩:=H4.out.resolve_left (by omega)
      subst hpa
      obtain⟨ua,ub,uc,f0,f1,f2,f3,f4,f5,f6,f7,f8,f9,f10,f11,d7,d10,d11⟩:=yya (l:=p.p) (n:=p.p.length) (fun j hj=>by
        obtain⟨u,hu,hd⟩:=hc j hj
        exact⟨u,(HBw.out.cell (p:=⟨b,off+j,none⟩) hb).trans hu,hd.under HBw.out⟩) hlt
      obtain⟨a7,c7,rfl,_⟩:=IsD.len (c:=1) (n:=(psAt p.p k).b.r.length) d7
      obtain⟨a10,c10,rfl,_⟩:=IsD.len (c:=7) (n:=(psAt p.p k).s.length) d10
      obtain⟨a11,c11,rfl,_⟩:=IsD.len (c:=3) (n:=(psAt p.p k).x.length) d11
      have hki:(k:Int)<(p.p.length:Int):=by omega
      obtain⟨W1,hW1⟩:∃W1,wr.alloc (.cells #[.int .i64 (psAt p.p k).e.t,.int .i64 (psAt p.p k).e.s,.int .i64 (psAt p.p k).e.q,.int .i64 (psAt p.p k).e.d,.int .i64 (psAt p.p k).e.k,.int .i64 (psAt p.p k).e.v,.int .i64 (psAt p.p k).e.g,.slice a7 (psAt p.p k).b.r.length c7,.int .i64 (psAt p.p k).b.q,.int .i64 (psAt p.p k).b.d,.slice a10 (psAt p.p k).s.length c10,.slice a11 (psAt p.p k).x.length c11] 172)=W1:=⟨_,rfl⟩
      have hB1:=beA hW1
      have HB1:=yz9 hB1
      have HX:=hdq (bkA hW1)
      have HSt:Hid (IsS W1 (.agg #[.slice a7 (psAt p.p k).b.r.length c7,.int .i64 (psAt p.p k).b.q,.int .i64 (psAt p.p k).b.d]) (psAt p.p k).b):=⟨_,rfl,(d7.under hB1).isI⟩
      have HSe:=yz9 ((d10.under hB1).isEvs)
      have HEm:=yz9 ((d11.under hB1).isX)
      have HWk:=yz9 (HWP.out k hlt)
      have HBW:=yz9 (HB.out.trans (hB1.mono hsr))
      have x7:=HX.out.cell (i:=7) rfl
      have x8:=HX.out.cell (i:=8) rfl
      have x9:=HX.out.cell (i:=9) rfl
      clear hc d7 d10 d11 hB1
      go_wp2_with fail
      clear hW1 x7 x8 x9 f0 f1 f2 f3 f4 f5 f6 f7 f8 f9 f10 f11
      refine(iStOk _ (psAt p.p k).b _ HSt.out).mono ?_
      rintro e w2 ⟨rfl,hb2⟩
      have HB2:=yz9 hb2
      have HBW2:=trh HBW hb2
      have HBw2:=yz9 (HB0.out.trans (HBW2.out.mono (by omega)))
      have HX2:=yz9 (HX.out.below hb2)
      have HP2:=HP0.out.below HBW2.out
      have y0:=HP2.cell (i:=0) rfl
      obtain⟨x0,x1,x2,x3,x4,x5,x6,x7,x8,x9,x10,x11⟩:=zpj HX2.out
      clear hb2 HP2
      cases hst:(psAt p.p k).b.ok
      · have KS:=yz9 hst
        clear hst
        go_wp2
        go_ret
        exact⟨Says.no (fun h=>by have:=(h k hlt).1;rw [KS.out]at this;cases this),HBw2.out⟩
      have KS:=yz9 hst
      clear hst
      go_wp2_with fail
      clear x0 x1 x2 x3 x4 x5 x6 x7 x8 x9 x10 x11 y0
      obtain⟨ea,ec,eb,heq,hbe,hI⟩:=IsEvs.parts (HSe.out.below HB2.out) (by have:=HX2.out.lt;omega)
      cases heq
      refine(iSent _ _ a10 c10 eb (psAt p.p k) p.n _ (by have:=HWk.out.2.1;omega) hI hbe).mono ?_
      rintro e w3 ⟨⟨bs,rfl,hs⟩,hb3⟩
      have HSs:=yz9 hs
      have HB3:=yz9 hb3
      have HBW3:=trh HBW2 hb3
      have HBw3:=yz9 (HB0.out.trans (HBW3.out.mono (by omega)))
      have HX3:=yz9 (HX2.out.below hb3)
      have x11:=HX3.out.cell (i:=11) rfl
      clear hs hb3 hI hbe
      cases bs
      · go_wp2
        go_ret
        exact⟨Says.no (fun h=>by have:=HSs.out.2 (h k hlt).2.1;cases this),HBw3.out⟩
      have KE:=yz9 (HSs.out.1 rfl)
      by_cases h8:8<(psAt p.p k).x.length
      · have h8':(8:Int)<((psAt p.p k).x.length:Int):=by omega
        have KM:Hid (emsB (psAt p.p k).x=false):=by
          show emsB (psAt p.p k).x=false
          unfold emsB
          rw [decide_eq_false (by omega)]
          rfl
        go_wp2
        go_ret
        exact⟨Says.no (fun h=>by have:=(h k hlt).2.2;rw [KM.out]at this;cases this),HBw3.out⟩
      have h8':¬(8:Int)<((psAt p.p k).x.length:Int):=by omega
      have H8:Hid ((psAt p.p k).x.length≤8):=by show(psAt p.p k).x.length≤8;omega
      clear h8
      go_wp2_with fail
      clear x11
      refine(iEmits _ (psAt p.p k).x _ (by have:=HWk.out.2.2;omega) ((HEm.out.below HB2.out).below HB3.out)).mono ?_
      rintro e w4 ⟨rfl,hb4⟩
      have HBW4:=trh HBW3 hb4
      have HBw4:=yz9 (HB0.out.trans (HBW4.out.mono (by omega)))
      clear hb4
      cases hem:emsC (psAt p.p k).x
      · have KM:Hid (emsB (psAt p.p k).x=false):=by
          show emsB (psAt p.p k).x=false
          rw [zp3,hem,Bool.and_false]
        clear hem
        go_wp2
        go_ret
        exact⟨Says.no (fun h=>by have:=(h k hlt).2.2;rw [KM.out]at this;cases this),HBw4.out⟩
      have KM:Hid (emsB (psAt p.p k).x=true):=by
        show emsB (psAt p.p k).x=true
        rw [zp3,hem,decide_eq_true H8.out]
        rfl
      clear hem
      go_wp2
      go_roundw
      case rel=>exact⟨k+1,by omega,by go_num,fun j hj=>by
        by_cases e:j=k
        · subst e;exact⟨KS.out,KE.out,KM.out⟩
        · exact HA.out j (by omega),HBW4.out⟩
      case measure=>simp [intOf];omega
    · go_wp2
      go_ret
      exact⟨Says.yes (fun j hj=>HA.out j (by omega)),HBw.out⟩
theorem zfq {p:Prop} (h:p):Hid p:=h
def RowK (w:World) (B g n:Nat) (l:List Ev) (k:Nat):Prop:=∃cs,w.ownsRow B 90 7 (.slice (some ⟨g,0,none⟩) n n) n cs∧cs.take (k*7)=yvz (l.take k)
theorem znh {cs:List Value} {k:Nat} (hl:k*7+7≤cs.length) (v0 v1 v2 v3 v4 v5 v6:Value):
    (((((((cs.set (k*7) v0).set (k*7+1) v1).set (k*7+2) v2).set (k*7+3) v3).set (k*7+4) v4).set (k*7+5) v5).set (k*7+6) v6).take ((k+1)*7)=cs.take (k*7)++ [v0,v1,v2,v3,v4,v5,v6]:=by
  apply List.ext_getElem?
  intro j
  have hlt:(cs.take (k*7)).length=k*7:=by simp;omega
  by_cases h1:j<k*7
  · rw [List.getElem?_take_of_lt (by omega),List.getElem?_append_left (by omega),List.getElem?_take_of_lt h1]
    rw [List.getElem?_set_ne (by omega),List.getElem?_set_ne (by omega),List.getElem?_set_ne (by omega),List.getElem?_set_ne (by omega),List.getElem?_set_ne (by omega),List.getElem?_set_ne (by omega),List.getElem?_set_ne (by omega)]
  · rw [List.getElem?_append_right (by omega),hlt]
    obtain⟨r,rfl⟩:∃r,j=k*7+r:=⟨j-k*7,by omega⟩
    by_cases h2:r<7
    · rw [List.getElem?_take_of_lt (by omega),Nat.add_sub_cancel_left]
      match r,h2 with
      |0,_=>simp [List.getElem?_set];omega
      |1,_=>simp [List.getElem?_set];omega
      |2,_=>simp [List.getElem?_set];omega
      |3,_=>simp [List.getElem?_set];omega
      |4,_=>simp [List.getElem?_set];omega
      |5,_=>simp [List.getElem?_set];omega
      |6,_=>simp [List.getElem?_set];omega
    · rw [List.getElem?_eq_none (by simp;omega),List.getElem?_eq_none (by simp;omega)]
theorem RowK.put {w:World} {B g n k:Nat} {l:List Ev} (h:RowK w B g n l k) (hk:k<n) (hl:l.length=n):RowK (put7 w g (k*7) (evAt l k)) B g n l (k+1):=by
  obtain⟨cs,h1,h2⟩:=h
  have hlen:cs.length=n*7:=h1.1
  have s0:=(World.ownsRow.stored h1 (k*7) (.int .i64 (evAt l k).t)).1
  have s1:=(World.ownsRow.stored s0 (k*7+1) (.int .i64 (evAt l k).s)).1
  have s2:=(World.ownsRow.stored s1 (k*7+2) (.int .i64 (evAt l k).q)).1
  have s3:=(World.ownsRow.stored s2 (k*7+3) (.int .i64 (evAt l k).d)).1
  have s4:=(World.ownsRow.stored s3 (k*7+4) (.int .i64 (evAt l k).k)).1
  have s5:=(World.ownsRow.stored s4 (k*7+5) (.int .i64 (evAt l k).v)).1
  have s6:=(World.ownsRow.stored s5 (k*7+6) (.int .i64 (evAt l k).g)).1
  refine⟨_,s6,?_⟩
  rw [znh (by omega),h2]
  have e:l.take (k+1)=l.take k++ [evAt l k]:=by
    rw [List.take_add_one,List.getElem?_eq_getElem (by omega)]
    simp [evAt,show k<l.length by omega]
  rw [e,yyk]
  rfl
theorem RowK.cells {w:World} {B g n k:Nat} {l:List Ev} (h:RowK w B g n l k) (hk:k<n):∃c0 c1 c2 c3 c4 c5 c6,(w.cell? ⟨g,k*7,none⟩=some c0∧w.cell? ⟨g,k*7+1,none⟩=some c1∧w.cell? ⟨g,k*7+2,none⟩=some c2∧w.cell? ⟨g,k*7+3,none⟩=some c3∧w.cell? ⟨g,k*7+4,none⟩=some c4∧w.cell? ⟨g,k*7+5,none⟩=some c5∧w.cell? ⟨g,k*7+6,none⟩=some c6)∧ ∀j,w.frozen? ⟨g,j,none⟩=false:=by
  obtain⟨cs,h1,h2⟩:=h
  have hlen:cs.length=n*7:=h1.1
  have hh:∀r,r<7→ ∃c,w.cell? ⟨g,k*7+r,none⟩=some c:=fun r hr=>⟨_,(World.ownsRow.cellAt h1 (k*7+r) (by omega)).trans (List.getElem?_eq_getElem (by omega))⟩
  obtain⟨c0,g0⟩:=hh 0 (by omega)
  obtain⟨c1,g1⟩:=hh 1 (by omega)
  obtain⟨c2,g2⟩:=hh 2 (by omega)
  obtain⟨c3,g3⟩:=hh 3 (by omega)
  obtain⟨c4,g4⟩:=hh 4 (by omega)
  obtain⟨c5,g5⟩:=hh 5 (by omega)
  obtain⟨c6,g6⟩:=hh 6 (by omega)
  exact⟨c0,c1,c2,c3,c4,c5,c6,⟨g0,g1,g2,g3,g4,g5,g6⟩,fun j=>World.ownsRow.frozenAt h1 j⟩
theorem RowK.below {w w':World} {B g n k:Nat} {l:List Ev} (h:RowK w B g n l k) (hb:Below w.heap.size w w'):RowK w' B g n l k:=by
  obtain⟨cs,h1,h2⟩:=h
  obtain⟨h0,⟨e,h1⟩|⟨g',cap,cur,e,hg,hc,h1⟩⟩:=h1
  · exact⟨cs,⟨h0,.inl ⟨e,h1⟩⟩,h2⟩
  · exact⟨cs,⟨h0,.inr ⟨g',cap,cur,e,hg,(hb.block g' (Array.getElem?_eq_some_iff.1 hc).1).trans hc,h1⟩⟩,h2⟩
theorem RowK.all {w:World} {B g n:Nat} {l:List Ev} (h:RowK w B g n l n) (hl:l.length=n):OwnR B w (.slice (some ⟨g,0,none⟩) n n) l:=by
  obtain⟨cs,h1,h2⟩:=h
  have hlen:cs.length=n*7:=h1.1
  rw [List.take_of_length_le (by omega),List.take_of_length_le (by omega)]at h2
  unfold OwnR
  rw [hl,←h2]
  exact h1
theorem RowK.lt {w:World} {B g n k:Nat} {l:List Ev} (h:RowK w B g n l k):B≤g∧g<w.heap.size:=by
  obtain⟨cs,h1,_⟩:=h
  exact World.ownsRow.lt h1 g rfl
set_option maxRecDepth 100000 in
set_option maxHeartbeats 8000000 in
theorem iDone (x:Value) (p:Pa) (w:World) (hw:p.wt≤1048576) (h:IsPart w x p):
    Calls Tryz.prog 253 #[x] w fun e w'=>∃y,e= .returned y∧OwnR w.heap.size w' y p.es∧Below w.heap.size w w':=by
  obtain⟨v1,v4,v5,v6,rfl,h1,h4,h5,h6⟩:=h
  have hpl:p.p.length≤1048576:=by have:=yxh p.p;unfold Pa.wt at hw;omega
  obtain⟨pa,pc,rfl,_,_,h4⟩:=IsD.parts (c:=12) (n:=p.p.length) h4
  have H4:=zfq h4
  clear h1 h4 h5 h6 hw
  have hp:(0:Int)≤(p.p.length:Int):=by omega
  obtain⟨i0,hi,hz0,hz1,hz2⟩:=info_parts info25
  obtain⟨W0,hW0⟩:∃W0,w.alloc (.cells #[.int .i64 p.n,v1,.int .i64 p.st.q,.int .i64 p.st.d,.slice pa p.p.length pc,v5,v6] 97)=W0:=⟨_,rfl⟩
  have HB0:=hdq (beA hW0)
  have HP0:=hdq (bkA hW0)
  have hs0:w.heap.size<W0.heap.size:=HP0.out.lt
  have p4:=HP0.out.cell (i:=4) rfl
  go_enter Tryz.func253,Tryz.ntmps253
  go_wp2_with (at_make;refine wpList_make_full _ rfl _ _ 34 rfl W0.heap.size 90 i0 _ 7 Tryz.underlying34 hi hz0 hz1 .i64 .i64 p.p.length p.p.length p.p.length rfl rfl rfl rfl (by rw [hz2];omega) (by unfold maxLen;omega) (Nat.le_refl _) ?_;intro w1 hown hgrow;have hb1:Below W0.heap.size W0 w1:=(Below.refl _ _).grown hgrow (Nat.le_refl _) (fun k e=>by cases e);have hR1:RowK w1 W0.heap.size W0.heap.size p.p.length p.es 0:=⟨_,hown,by simp [yvz]⟩;have q4:=(HP0.out.below hb1).cell (i:=4) rfl;have HB1:=hdq hb1;have HR1:=hdq hR1;clear hown hgrow hb1 hR1)
  clear p4 q4 hW0 hi hz0 hz1 hz2
  go_loopw [13] (fun i wr=>∃k:Nat,k≤p.p.length∧i= .int .i64 k∧Below W0.heap.size W0 wr∧RowK wr W0.heap.size W0.heap.size p.p.length p.es k) (fun i _=>p.p.length-(intOf i).toNat)
  case atStart=>exact⟨0,Nat.zero_le _,rfl,HB1.out,HR1.out⟩
  case round=>
    clear HB1 HR1
    obtain⟨k,hk,rfl,hB,hR⟩:=hrel
    have HB:=zfq hB
    have HBw:=zfq (HB0.out.trans (hB.mono (by omega)))
    have HR:=zfq hR
    have hsr:W0.heap.size<wr.heap.size:=hR.lt.2
    clear hB hR
    by_cases hlt:k<p.p.length
    · obtain⟨b,off,rfl,hb,hc⟩:=H4.out.resolve_left (by omega)
      obtain⟨ua,ub,uc,f0,f1,f2,f3,f4,f5,f6,f7,f8,f9,f10,f11,d7,d10,d11⟩:=yya (l:=p.p) (n:=p.p.length) (fun j hj=>by
        obtain⟨u,hu,hd⟩:=hc j hj
        exact⟨u,(HBw.out.cell (p:=⟨b,off+j,none⟩) hb).trans hu,hd.under HBw.out⟩) hlt
      obtain⟨a7,c7,rfl,_⟩:=IsD.len (c:=1) (n:=(psAt p.p k).b.r.length) d7
      obtain⟨a10,c10,rfl,_⟩:=IsD.len (c:=7) (n:=(psAt p.p k).s.length) d10
      obtain⟨a11,c11,rfl,_⟩:=IsD.len (c:=3) (n:=(psAt p.p k).x.length) d11
      have hki:(k:Int)<(p.p.length:Int):=by omega
      obtain⟨W1,hW1⟩:∃W1,wr.alloc (.cells #[.int .i64 (psAt p.p k).e.t,.int .i64 (psAt p.p k).e.s,.int .i64 (psAt p.p k).e.q,.int .i64 (psAt p.p k).e.d,.int .i64 (psAt p.p k).e.k,.int .i64 (psAt p.p k).e.v,.int .i64 (psAt p.p k).e.g,.slice a7 (psAt p.p k).b.r.length c7,.int .i64 (psAt p.p k).b.q,.int .i64 (psAt p.p k).b.d,.slice a10 (psAt p.p k).s.length c10,.slice a11 (psAt p.p k).x.length c11] 172)=W1:=⟨_,rfl⟩
      have hB1:=beA hW1
      have HB1:=zfq hB1
      have HX:=bkA hW1
      have HR1:=zfq (HR.out.below hB1)
      have x0:=HX.cell (i:=0) rfl
      have x1:=HX.cell (i:=1) rfl
      have x2:=HX.cell (i:=2) rfl
      have x3:=HX.cell (i:=3) rfl
      have x4:=HX.cell (i:=4) rfl
      have x5:=HX.cell (i:=5) rfl
      have x6:=HX.cell (i:=6) rfl
      obtain⟨c0',c1',c2',c3',c4',c5',c6',⟨g0,g1,g2,g3,g4,g5,g6⟩,gf⟩:=HR1.out.cells hlt
      have z0:=gf (k*7)
      have z1:=gf (k*7+1)
      have z2:=gf (k*7+2)
      have z3:=gf (k*7+3)
      have z4:=gf (k*7+4)
      have z5:=gf (k*7+5)
      have z6:=gf (k*7+6)
      clear hc d7 d10 d11 hB1 HX gf
      go_wp2
      go_roundw
      case rel=>
        have hp7:=HR1.out.put hlt (zav p)
        rw [es_at p hlt]at hp7
        have hbb:Below W0.heap.size W0 W1:=HB.out.trans (HB1.out.mono (by omega))
        exact⟨k+1,by omega,by go_num,zfi hbb (Nat.le_refl _) _ _,hp7⟩
      case measure=>simp [intOf];omega
    · have he:k=p.p.length:=by omega
      have HRe:Hid (RowK wr W0.heap.size W0.heap.size p.p.length p.es p.p.length):=by
        have h9:=HR.out
        rw [he]at h9
        exact h9
      go_wp2
      go_ret
      exact⟨_,rfl,(HRe.out.all (zav p)).mono (by omega),HBw.out⟩
theorem hidPIg {p:Prop} (h:p):Hid p:=h
theorem zei {P:Program} {w:World} (base:Nat) (t ty e:TypeId) (i:TypeInfo) (size:Nat) (ht:P.underlying t=some (.slice e)) (hi:P.info? e=some i)
    (v:Value) (n c:Nat) (xs:List Value) (hown:w.ownsRow base e size v n xs):
    (Builtin.append_ #[t,t] ty #[v,.slice none 0 c]).run P w= .ok v w:=by
  rcases hown.2 with ⟨rfl,rfl⟩|⟨g,cap,cur,rfl,_,_,hnc,_⟩
  · simp [Builtin.append_,run_underlying ht,sizeOf,typeInfo,hi,Builtin.lenOf,Builtin.firstCells]
  · simp [Builtin.append_,run_underlying ht,sizeOf,typeInfo,hi,Builtin.lenOf,Builtin.firstCells,hnc,storeCells]
theorem zdz {P:Program} {ops:Array Oper} {o:Oper} {a:Act} {w:World} {K:Act→World→Prop} {Q:Exit→Act→World→Prop} {E:Prop}
    (hg:o.guard=none) (s x:Operand) (t:TypeId) (hop:o.op=Op.call {callee:=Callee.builtin Builtin.append,args:= #[s,x],argTypes:= #[t,t]})
    (base:Nat) (e:TypeId) (i:TypeInfo) (size:Nat) (h1:P.underlying t=some (.slice e)) (h2:P.info? e=some i)
    (v:Value) (n c:Nat) (xs:List Value) (hs:a.eval s=v) (hown:w.ownsRow base e size v n xs) (hx:a.eval x= .slice none 0 c)
    (hK:K (a.put o.dst v) w):
    if Region.wanted o (yielded ops a.tmps)=true then Oper.wp P o a w K Q else E:=by
  have hw:Region.wanted o (yielded ops a.tmps)=true:=by simp [Region.wanted,hg]
  rw [if_pos hw]
  have hrun:=zei (P:=P) (w:=w) base t o.type e i size h1 h2 v n c xs hown
  unfold Oper.wp
  simp [execOp,hop,resolve,invoke,builtin,hs,hx,hrun,Result.andThen]
  exact hK
theorem zo6 {w w':World} {P:Nat} {T:TypeId} {vs:Array Value} {row:Option Nat} (h:Bk w P T vs) (hg:w.grownBy w' row) (hne:row=some P→False):Bk w' P T vs:=
  (hg.block P h.lt (fun e=>hne e.symm)).trans h
set_option maxRecDepth 100000 in
set_option maxHeartbeats 8000000 in
theorem zok (x:Value) (p:Pa) (w:World) (hw:p.wt≤1048576) (h:IsPart w x p):
    Calls Tryz.prog 199 #[x] w fun e w'=>∃y,e= .returned y∧OwnR w.heap.size w' y p.all∧Below w.heap.size w w':=by
  have HI:Hid (IsPart w x p):=h
  obtain⟨v1,v4,v5,v6,rfl,h1,h4,h5,h6⟩:=h
  have hwt:=hw
  unfold Pa.wt at hwt
  simp only [ywf,yx0]at hwt
  have hel:p.es.length≤1048576:=by rw [zav];have:=yxh p.p;omega
  have htl:p.t.length≤1048576:=by omega
  obtain⟨ta,tc,rfl,_,_,h5⟩:=h5.isEvs
  clear h1 h4 h6 hwt
  obtain⟨i0,hi,hz0,hz1,hz2⟩:=info_parts info25
  cases ta with
  |none=>
    have ht0:p.t= []:=h5.resolve_right (by rintro ⟨b,off,e,_⟩;cases e)
    have HT0:Hid (p.t= []):=ht0
    have HI':Hid (IsPart w (.agg #[.int .i64 p.n,v1,.int .i64 p.st.q,.int .i64 p.st.d,v4,.slice none 0 tc,v6]) p):=by
      have h9:=HI.out
      rw [ht0]at h9
      exact h9
    clear HI
    have HI:=HI'
    rw [ht0]
    clear ht0 h5 HI'
    show Calls Tryz.prog 199 #[.agg #[.int .i64 p.n,v1,.int .i64 p.st.q,.int .i64 p.st.d,v4,.slice none 0 tc,v6]] w _
    obtain⟨W0,hW0⟩:∃W0,w.alloc (.cells #[.int .i64 p.n,v1,.int .i64 p.st.q,.int .i64 p.st.d,v4,.slice none 0 tc,v6] 97)=W0:=⟨_,rfl⟩
    have HB0:=hdq (beA hW0)
    have HP0:=hdq (bkA hW0)
    have hs0:w.heap.size<W0.heap.size:=HP0.out.lt
    have hs0d:w.heap.size≤W0.drew.heap.size:=Nat.le_of_lt hs0
    have HI0:=hidPIg (HI.out.under HB0.out.drew)
    have HS0:Hid (W0.drew.cell? ⟨w.heap.size,0,none⟩=some (.int .i64 p.n)∧W0.drew.cell? ⟨w.heap.size,1,none⟩=some (v1)∧W0.drew.cell? ⟨w.heap.size,2,none⟩=some (.int .i64 p.st.q)∧W0.drew.cell? ⟨w.heap.size,3,none⟩=some (.int .i64 p.st.d)∧W0.drew.cell? ⟨w.heap.size,4,none⟩=some (v4)∧W0.drew.cell? ⟨w.heap.size,5,none⟩=some (.slice none 0 tc)∧W0.drew.cell? ⟨w.heap.size,6,none⟩=some (v6)):=⟨HP0.out.drew.cell (i:=0) rfl,HP0.out.drew.cell (i:=1) rfl,HP0.out.drew.cell (i:=2) rfl,HP0.out.drew.cell (i:=3) rfl,HP0.out.drew.cell (i:=4) rfl,HP0.out.drew.cell (i:=5) rfl,HP0.out.drew.cell (i:=6) rfl⟩
    go_enter Tryz.func199,Tryz.ntmps199
    go_wp2
    clear hW0
    go_region_held3 (fun W=>W.cell? ⟨w.heap.size,0,none⟩=some (.int .i64 p.n)∧W.cell? ⟨w.heap.size,1,none⟩=some (v1)∧W.cell? ⟨w.heap.size,2,none⟩=some (.int .i64 p.st.q)∧W.cell? ⟨w.heap.size,3,none⟩=some (.int .i64 p.st.d)∧W.cell? ⟨w.heap.size,4,none⟩=some (v4)∧W.cell? ⟨w.heap.size,5,none⟩=some (.slice none 0 tc)∧W.cell? ⟨w.heap.size,6,none⟩=some (v6)) (first|exact HS0.out|exact HS2.out|exact HS3.out)
      (first|(go_at_call 253;refine(iDone _ p _ hw HI0.out).mono ?_;rintro e w2 ⟨y,rfl,ho,hb⟩;have HOb:=hdq ho;have HO2:Hid (w2.ownsRow w.heap.size 90 7 y p.es.length (yvz p.es)):=ho.mono hs0d;have HB2:Hid (Below w.heap.size w w2):=HB0.out.drew.trans (hb.mono hs0d);have HX2:Hid (Bk w2 w.heap.size 97 #[.int .i64 p.n,v1,.int .i64 p.st.q,.int .i64 p.st.d,v4,.slice none 0 tc,v6]):=HP0.out.drew.below hb;have HS2:Hid (w2.cell? ⟨w.heap.size,0,none⟩=some (.int .i64 p.n)∧w2.cell? ⟨w.heap.size,1,none⟩=some (v1)∧w2.cell? ⟨w.heap.size,2,none⟩=some (.int .i64 p.st.q)∧w2.cell? ⟨w.heap.size,3,none⟩=some (.int .i64 p.st.d)∧w2.cell? ⟨w.heap.size,4,none⟩=some (v4)∧w2.cell? ⟨w.heap.size,5,none⟩=some (.slice none 0 tc)∧w2.cell? ⟨w.heap.size,6,none⟩=some (v6)):=⟨HX2.out.cell (i:=0) rfl,HX2.out.cell (i:=1) rfl,HX2.out.cell (i:=2) rfl,HX2.out.cell (i:=3) rfl,HX2.out.cell (i:=4) rfl,HX2.out.cell (i:=5) rfl,HX2.out.cell (i:=6) rfl⟩;have hsz2:w.heap.size≤w2.heap.size:=HB2.out.size;clear ho hb)|(refine zdz (w:=w2) rfl (.tmp 4) (.tmp 6) 34 rfl w.heap.size 90 i0 7 Tryz.underlying34 hi y p.es.length tc (yvz p.es) rfl HO2.out rfl ?_))
    go_wp2
    go_ret
    exact⟨_,rfl,by unfold OwnR Pa.all;rw [HT0.out,List.append_nil];exact HO2.out,HB2.out⟩
  |some ad=>
    have HC:Hid (∀w2,Below w.heap.size w w2→ ∀j u,(yvz p.t)[j]? =some u→w2.cell? (ad.add j)=some u):=by
      rcases h5 with e|⟨b,off,e,hI⟩
      · intro w2 _ j u hu
        rw [e]at hu
        simp [yvz]at hu
      · cases e
        exact fun w2 hb=>(hI.below hb hI.1).cells
    clear h5
    obtain⟨W0,hW0⟩:∃W0,w.alloc (.cells #[.int .i64 p.n,v1,.int .i64 p.st.q,.int .i64 p.st.d,v4,.slice (some ad) p.t.length tc,v6] 97)=W0:=⟨_,rfl⟩
    have HB0:=hdq (beA hW0)
    have HP0:=hdq (bkA hW0)
    have hs0:w.heap.size<W0.heap.size:=HP0.out.lt
    have hs0d:w.heap.size≤W0.drew.heap.size:=Nat.le_of_lt hs0
    have HI0:=hidPIg (HI.out.under HB0.out.drew)
    have HS0:Hid (W0.drew.cell? ⟨w.heap.size,0,none⟩=some (.int .i64 p.n)∧W0.drew.cell? ⟨w.heap.size,1,none⟩=some (v1)∧W0.drew.cell? ⟨w.heap.size,2,none⟩=some (.int .i64 p.st.q)∧W0.drew.cell? ⟨w.heap.size,3,none⟩=some (.int .i64 p.st.d)∧W0.drew.cell? ⟨w.heap.size,4,none⟩=some (v4)∧W0.drew.cell? ⟨w.heap.size,5,none⟩=some (.slice (some ad) p.t.length tc)∧W0.drew.cell? ⟨w.heap.size,6,none⟩=some (v6)):=⟨HP0.out.drew.cell (i:=0) rfl,HP0.out.drew.cell (i:=1) rfl,HP0.out.drew.cell (i:=2) rfl,HP0.out.drew.cell (i:=3) rfl,HP0.out.drew.cell (i:=4) rfl,HP0.out.drew.cell (i:=5) rfl,HP0.out.drew.cell (i:=6) rfl⟩
    go_enter Tryz.func199,Tryz.ntmps199
    go_wp2
    clear hW0
    go_region_held3 (fun W=>W.cell? ⟨w.heap.size,0,none⟩=some (.int .i64 p.n)∧W.cell? ⟨w.heap.size,1,none⟩=some (v1)∧W.cell? ⟨w.heap.size,2,none⟩=some (.int .i64 p.st.q)∧W.cell? ⟨w.heap.size,3,none⟩=some (.int .i64 p.st.d)∧W.cell? ⟨w.heap.size,4,none⟩=some (v4)∧W.cell? ⟨w.heap.size,5,none⟩=some (.slice (some ad) p.t.length tc)∧W.cell? ⟨w.heap.size,6,none⟩=some (v6)) (first|exact HS0.out|exact HS2.out|exact HS3.out)
      (first|(go_at_call 253;refine(iDone _ p _ hw HI0.out).mono ?_;rintro e w2 ⟨y,rfl,ho,hb⟩;have HOb:=hdq ho;have HO2:Hid (w2.ownsRow w.heap.size 90 7 y p.es.length (yvz p.es)):=ho.mono hs0d;have HB2:Hid (Below w.heap.size w w2):=HB0.out.drew.trans (hb.mono hs0d);have HX2:Hid (Bk w2 w.heap.size 97 #[.int .i64 p.n,v1,.int .i64 p.st.q,.int .i64 p.st.d,v4,.slice (some ad) p.t.length tc,v6]):=HP0.out.drew.below hb;have HS2:Hid (w2.cell? ⟨w.heap.size,0,none⟩=some (.int .i64 p.n)∧w2.cell? ⟨w.heap.size,1,none⟩=some (v1)∧w2.cell? ⟨w.heap.size,2,none⟩=some (.int .i64 p.st.q)∧w2.cell? ⟨w.heap.size,3,none⟩=some (.int .i64 p.st.d)∧w2.cell? ⟨w.heap.size,4,none⟩=some (v4)∧w2.cell? ⟨w.heap.size,5,none⟩=some (.slice (some ad) p.t.length tc)∧w2.cell? ⟨w.heap.size,6,none⟩=some (v6)):=⟨HX2.out.cell (i:=0) rfl,HX2.out.cell (i:=1) rfl,HX2.out.cell (i:=2) rfl,HX2.out.cell (i:=3) rfl,HX2.out.cell (i:=4) rfl,HX2.out.cell (i:=5) rfl,HX2.out.cell (i:=6) rfl⟩;have hsz2:w.heap.size≤w2.heap.size:=HB2.out.size;have HC2:Hid (∀j u,(yvz p.t)[j]? =some u→w2.cell? (ad.add j)=some u):=HC.out w2 HB2.out;clear ho hb)|(refine zbf (w:=w2) rfl (.tmp 4) (.tmp 6) 34 rfl w.heap.size 90 i0 _ 7 56 Tryz.underlying34 hi hz0 hz1 hz2 rfl (by decide) y p.es.length (yvz p.es) rfl HO2.out ad p.t.length tc (yvz p.t) rfl (ywc p.t) HC2.out (zmw p.t) (by unfold maxLen;omega) (by omega) hsz2 ?_;intro y3 w3 hown3 hgrow3;have HO3:=hdq hown3;have HB3:Hid (Below w.heap.size w w3):=HB2.out.grown hgrow3 hsz2 (fun k e=>yx4 HO2.out e);have HX3:Bk w3 w.heap.size 97 #[.int .i64 p.n,v1,.int .i64 p.st.q,.int .i64 p.st.d,v4,.slice (some ad) p.t.length tc,v6]:=zo6 HX2.out hgrow3 (fun e=>Nat.lt_irrefl _ (Nat.lt_of_lt_of_le hs0 (yx4 HOb.out e)));have HS3:Hid (w3.cell? ⟨w.heap.size,0,none⟩=some (.int .i64 p.n)∧w3.cell? ⟨w.heap.size,1,none⟩=some (v1)∧w3.cell? ⟨w.heap.size,2,none⟩=some (.int .i64 p.st.q)∧w3.cell? ⟨w.heap.size,3,none⟩=some (.int .i64 p.st.d)∧w3.cell? ⟨w.heap.size,4,none⟩=some (v4)∧w3.cell? ⟨w.heap.size,5,none⟩=some (.slice (some ad) p.t.length tc)∧w3.cell? ⟨w.heap.size,6,none⟩=some (v6)):=⟨HX3.cell (i:=0) rfl,HX3.cell (i:=1) rfl,HX3.cell (i:=2) rfl,HX3.cell (i:=3) rfl,HX3.cell (i:=4) rfl,HX3.cell (i:=5) rfl,HX3.cell (i:=6) rfl⟩;clear hown3 hgrow3 HX3))
    go_wp2
    go_ret
    exact⟨_,rfl,by unfold OwnR Pa.all;rw [yyk,List.length_append];exact HO3.out,HB3.out⟩
end Go.Proofs.YtghndljgadpijaaGreat

