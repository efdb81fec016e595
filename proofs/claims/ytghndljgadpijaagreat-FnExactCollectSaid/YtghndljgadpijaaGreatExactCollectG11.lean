/- CmpS, Says, PTs, Good, Each, OkI, EvOk -/
import Derived.Test.YtghndljgadpijaaGreatExactCollectG01
import Derived.Test.YtghndljgadpijaaGreatExactCollectLOkS
import Derived.Test.YtghndljgadpijaaGreatExactCollectG03
import Derived.Test.YtghndljgadpijaaGreatExactCollectG07
import Derived.Test.YtghndljgadpijaaGreatExactCollectLMOpJ
import Derived.Sort.BigQuietIn
import Derived.RangeFuncNested
import Derived.RangeFuncBound
import Derived.RangeFuncCalls
import Derived.RangeFuncLeaves
import Derived.RangeFuncBox
import Derived.Shelf.Abstract
import Derived.Shelf.RegionOpen
import Derived.OwnWalkIn
import Derived.TacticsInMore
import Derived.LoopNIn
import Derived.LoopIn
/- The specification's l1cmp. -/
namespace Go.Proofs.YtghndljgadpijaaGreat
open Go.RowKit
set_option maxHeartbeats 2000000 in
theorem zoc (t s q d k v g t' s' q' d' k' v' g':Int) (w:World):
    Calls Tryz.prog 176 #[.agg #[.int .i64 t,.int .i64 s,.int .i64 q,.int .i64 d,.int .i64 k,.int .i64 v,.int .i64 g],.agg #[.int .i64 t',.int .i64 s',.int .i64 q',.int .i64 d',.int .i64 k',.int .i64 v',.int .i64 g']] w fun e w'=>
      e= .returned (.int .i64 (cmpI t s q g t' s' q' g'))∧Below w.heap.size w w':=by
  have hb:∀o1 o2:Obj,Below w.heap.size w ((w.alloc o1).alloc o2):=fun o1 o2=>((Below.refl _ _).alloc (Nat.le_refl _) o1).alloc (by simp) o2
  by_cases h1:t=t'
  · subst h1
    by_cases h2:s=s'
    · subst h2
      by_cases h3:q=q'
      · subst h3
        go_enter Tryz.func176,Tryz.ntmps176
        go_wp2_with (go_at_call 240;refine(zgc _ _ _).mono ?_;rintro e w' ⟨rfl,rfl⟩)
        go_ret
        exact⟨ywz (by simp [cmpI]),hb _ _⟩
      · have e3:(q !=q')=true:=by simpa using h3
        go_enter Tryz.func176,Tryz.ntmps176
        go_wp2_with (go_at_call 240;refine(zgc _ _ _).mono ?_;rintro e w' ⟨rfl,rfl⟩)
        go_ret
        exact⟨ywz (by simp [cmpI,h3]),hb _ _⟩
    · have e2:(s !=s')=true:=by simpa using h2
      go_enter Tryz.func176,Tryz.ntmps176
      go_wp2_with (go_at_call 240;refine(zgc _ _ _).mono ?_;rintro e w' ⟨rfl,rfl⟩)
      go_ret
      exact⟨ywz (by simp [cmpI,h2]),hb _ _⟩
  · have e1:(t !=t')=true:=by simpa using h1
    go_enter Tryz.func176,Tryz.ntmps176
    go_wp2_with (go_at_call 240;refine(zgc _ _ _).mono ?_;rintro e w' ⟨rfl,rfl⟩)
    go_ret
    exact⟨ywz (by simp [cmpI,h1]),hb _ _⟩
theorem sOk_is (t s q d k v g:Int) (b:Bool) (h:okB t s q d k v g=b) (w:World):
    Calls Tryz.prog 174 #[.agg #[.int .i64 t,.int .i64 s,.int .i64 q,.int .i64 d,.int .i64 k,.int .i64 v,.int .i64 g]] w fun e w'=>e= .returned (.bool b)∧Below w.heap.size w w':=by
  subst h;exact zis t s q d k v g w
def Says (e:Ending) (p:Prop):Prop:=∃b:Bool,e= .returned (.bool b)∧(b=true↔p)
theorem Says.yes {p:Prop} (h:p):Says (.returned (.bool true)) p:=⟨true,rfl,fun _=>h,fun _=>rfl⟩
theorem Says.no {p:Prop} (h:¬p):Says (.returned (.bool false)) p:=⟨false,rfl,fun e=>(by cases e),fun e=>(h e).elim⟩
theorem Says.dec {p q:Prop} [Decidable q] (h:q↔p):Says (.returned (.bool (decide q))) p:=⟨_,rfl,by simpa using h⟩
theorem zaj (e:Ev) (b:Bool) (h:e.ok=b) (w:World):Calls Tryz.prog 174 #[e.val] w fun r w'=>r= .returned (.bool b)∧Below w.heap.size w w':=sOk_is _ _ _ _ _ _ _ b h w
theorem yxa (a b:Ev) (z:Int) (h:a.cmp b=z) (w:World):Calls Tryz.prog 176 #[a.val,b.val] w fun r w'=>r= .returned (.int .i64 z)∧Below w.heap.size w w':=by
  subst h;exact zoc _ _ _ _ _ _ _ _ _ _ _ _ _ _ w
structure CutAt (l:List Ps) (e:Ev) (k:Nat):Prop where
  le:k≤l.length
  lo:∀j,j<k→(psAt l j).e.cmp e<0
  hi:k<l.length→ ¬(psAt l k).e.cmp e<0
theorem ze4 {w:World} {l:List Ps} {cs:List Value} (hl:cs.length=l.length*12) (hd:∀j,j<l.length*12→IsD w (nthV cs j) (ydq l j)):∀u∈cs,u.oneCell'=true:=fun u hu=>by
  obtain⟨j,hj,rfl⟩:=List.mem_iff_getElem.1 hu
  have h:=hd j (by omega)
  have e:nthV cs j=cs[j]:=by simp [nthV,hj]
  rw [e]at h
  exact Ps.one h
def Good1 (l:List Ev) (i:Nat):Prop:=(evAt l i).ok=true∧(0<i→(evAt l (i-1)).cmp (evAt l i)<0)∧ ∀j,j<i→(evAt l j).g≠(evAt l i).g
def zpr (l:List Ev):Prop:=l.length≤2000∧ ∀i,i<l.length→Good1 l i
theorem zgd {l:List Ev} {k:Nat} (hk:k<l.length) (h:¬Good1 l k):¬zpr l:=fun e=>(h (e.2 k hk)).elim
set_option maxHeartbeats 2000000
set_option maxRecDepth 100000
open Go.RowKit Go.Shelf
theorem hidEach {p:Prop} (h:p):Hid p:=h
attribute [local go_sem] Oper.semAt_some
theorem za1 (n k:Nat) (h:k<n):(List.finRange n).take (k+1)=(List.finRange n).take k++ [⟨k,h⟩]:=by
  rw [List.take_succ_eq_append_getElem (by simpa using h)];simp
theorem zbo (n k:Nat) (h:k≤n):((List.finRange n).take k).length=k:=by simp [h]
abbrev zoy (l:List Ev) (x:Fin l.length):Array Value:= #[.int .i64 ((x.val:Nat):Int),(evAt l x.val).val]
def Same2 (c b:Nat) (A B:World):Prop:=B.heap[c]? =A.heap[c]? ∧B.heap[b]? =A.heap[b]?
theorem Same2.refl (c b:Nat) (A:World):Same2 c b A A:=⟨rfl,rfl⟩
theorem Same2.trans {c b:Nat} {A B C:World} (h:Same2 c b A B) (k:Same2 c b B C):Same2 c b A C:=⟨k.1.trans h.1,k.2.trans h.2⟩
theorem Same2.below {c b n:Nat} {A B:World} (h:Below n A B) (hc:c<n) (hb:b<n):Same2 c b A B:=⟨h.block c hc,h.block b hb⟩
theorem Same2.putObj {c b:Nat} {w:World} (hc:c<w.heap.size) (hb:b<w.heap.size) (W:World) (l:Nat) (o o':Obj) (hl:w.heap.size≤l) (_:W.heap[l]? =some o) (_:o.isCells=false) (_:o.isWalk=false):Same2 c b W (W.putObj l o'):=
  ⟨World.putObj_heap_other (by omega),World.putObj_heap_other (by omega)⟩
theorem Same2.cell1 {c b:Nat} {A B:World} (h:Same2 c b A B) (o:Nat):B.cell? ⟨c,o,none⟩=A.cell? ⟨c,o,none⟩:=World.cell?_of_block (w:=A) h.1
theorem Same2.cell2 {c b:Nat} {A B:World} (h:Same2 c b A B) (o:Nat):B.cell? ⟨b,o,none⟩=A.cell? ⟨b,o,none⟩:=World.cell?_of_block (w:=A) h.2
theorem Same2.ev {c b o:Nat} {A B:World} {e:Ev} (h:Same2 c b A B) (k:Ev.In A b o e):Ev.In B b o e:=
  ⟨(h.cell2 _).trans k.f0,(h.cell2 _).trans k.f1,(h.cell2 _).trans k.f2,(h.cell2 _).trans k.f3,(h.cell2 _).trans k.f4,(h.cell2 _).trans k.f5,(h.cell2 _).trans k.f6⟩
theorem each1_in (F:Fence) (n:Nat) (h49:F.fn 254) (hro:F.round=none) (hn:1≤n) (lp Bs b off cap:Nat) (l:List Ev) (hreach:l.length≤1048576) (J Jx:List (Fin l.length)→World→Prop)
    (hY:∀pre x W,J pre W→pre.length<l.length→YieldAt F (n-1) Tryz.prog lp (zoy l x) W fun e W'=>
      (e= .returned (.bool true)∧J (pre++ [x]) W'∧Same2 Bs b W W')∨(e= .returned (.bool false)∧Jx (pre++ [x]) W'))
    (W:World) (hBs:W.cell? ⟨Bs,0,none⟩=some (.slice (some ⟨b,off,none⟩) l.length cap)) (hc:∀i,i<l.length→Ev.In W b (off+i*7) (evAt l i)) (h0:J [] W):
    CallsIn F n Tryz.prog 254 #[.func (.yield lp) #[] #[],.pointer (some ⟨Bs,0,none⟩)] W fun e W'=>(∃v,e= .returned v)∧
      ((∃ys,ys=List.finRange l.length∧J ys W')∨(∃pre,(∃k,k≤l.length∧pre=(List.finRange l.length).take k)∧Jx pre W')):=by
  refine callsIn_of_wp Tryz.func254 rfl h49 ?_ hro
  simp only [Tryz.ntmps254,List.size_toArray,List.length_cons,List.length_nil,Nat.reduceAdd,Nat.reduceSub,Array.replicate_succ,Array.replicate_zero,List.push_toArray,List.append_toArray,List.nil_append,List.cons_append]
  gi_wp2
  gi_loopw [6] (fun i wr=>∃k:Nat,k≤l.length∧i= .int .i64 k∧J ((List.finRange l.length).take k) wr∧Same2 Bs b W wr)
    (fun i _=>l.length-(intOf i).toNat)
  case atStart=>exact⟨0,Nat.zero_le _,rfl,by simpa using h0,Same2.refl _ _ _⟩
  case round=>
    obtain⟨k,hk,rfl,hJs,hnx⟩:=hrel
    have hBs':wr.cell? ⟨Bs,0,none⟩=some (.slice (some ⟨b,off,none⟩) l.length cap):=(hnx.cell1 0).trans hBs
    by_cases hlt:k<l.length
    · have hy0:=hY _ ⟨k,hlt⟩ wr hJs (by rw [zbo _ _ hk];exact hlt)
      rw [←za1 _ _ hlt]at hy0
      obtain⟨fn,tmps,assign,body,hy,hR⟩:=hy0
      simp only [zoy]at hy
      obtain⟨f0,f1,f2,f3,f4,f5,f6⟩:=hnx.ev (hc k hlt)
      have HC:=hidEach hc
      clear hc hY
      gi_wp2
      refine hR.mono ?_
      rintro e W3 (⟨rfl,hJ3,hk3⟩|⟨rfl,hJx3⟩)
      · gi_wp2
        go_roundw
        case rel=>exact⟨k+1,by omega,by simp,hJ3,hnx.trans hk3⟩
        case measure=>simp [intOf];omega
      · gi_wp2
        refine bodyPost_ret (results_none rfl _ _ _) rfl ?_
        exact⟨⟨_,rfl⟩,.inr ⟨_,⟨k+1,by omega,rfl⟩,hJx3⟩⟩
    · obtain rfl:k=l.length:=by omega
      gi_wp2
      go_end0
      exact⟨⟨_,rfl⟩,.inl ⟨_,rfl,by rw [List.take_of_length_le (by simp)]at hJs;exact hJs⟩⟩
theorem zp4 (F:Fence) (n:Nat) (h49:F.fn 254) (hro:F.round=none) (lp Bs cap:Nat) (a:Option Addr) (J:List (Fin 0)→World→Prop) (W:World) (hBs:W.cell? ⟨Bs,0,none⟩=some (.slice a 0 cap)) (h0:J [] W):
    CallsIn F n Tryz.prog 254 #[.func (.yield lp) #[] #[],.pointer (some ⟨Bs,0,none⟩)] W fun e W'=>(∃v,e= .returned v)∧J [] W':=by
  refine callsIn_of_wp Tryz.func254 rfl h49 ?_ hro
  simp only [Tryz.ntmps254,List.size_toArray,List.length_cons,List.length_nil,Nat.reduceAdd,Nat.reduceSub,Array.replicate_succ,Array.replicate_zero,List.push_toArray,List.append_toArray,List.nil_append,List.cons_append]
  gi_wp2
  gi_loopw [6] (fun i wr=>i= .int .i64 0∧J [] wr) (fun _ _=>0)
  case atStart=>exact⟨rfl,h0⟩
  case round=>
    obtain⟨rfl,hJs⟩:=hrel
    gi_wp2
    go_end0
    exact⟨⟨_,rfl⟩,hJs⟩
theorem zc1 (a:Option Addr) (len cap:Nat) (w:World):
    Calls Tryz.prog 200 #[.slice a len cap] w fun e w'=>e= .returned (.func (.func 254) #[] #[.pointer (some ⟨w.heap.size,0,none⟩)])∧w'=w.alloc (.cells #[.slice a len cap] 34):=by
  go_enter Tryz.func200,Tryz.ntmps200
  go_wp2
  go_ret
  exact⟨rfl,rfl⟩
theorem za7 (F:Fence) (n:Nat) (h49:F.fn 254) (hro:F.round=none) (hn:1≤n) (c b:Nat) (a:Option Addr) (cap:Nat) (l:List Ev) (hreach:l.length≤1048576) (w:World) (hcs:c<w.heap.size)
    (hc:w.cell? ⟨c,0,none⟩=some (.slice a l.length cap)) (hI:l= []∨ ∃off,a=some ⟨b,off,none⟩∧EvsAt w b off l):
    SeqStopsK F n Tryz.prog 254 #[.pointer (some ⟨c,0,none⟩)] (zoy l) (Same2 c b) (fun ys=>ys=List.finRange l.length) (fun pre=>∃k,k≤l.length∧pre=(List.finRange l.length).take k) l.length w:=fun lp J Jx W hW _ _ hY h0=>by
  have hc':=(hW.cell (p:=⟨c,0,none⟩) hcs).trans hc
  rcases hI with rfl|⟨off,rfl,hb,hev⟩
  · exact(zp4 F n h49 hro lp c cap a J W hc' h0).mono fun e W' ⟨he,hj⟩=>⟨he,.inl ⟨_,rfl,hj⟩⟩
  · exact each1_in F n h49 hro hn lp c b off cap l hreach J Jx hY W hc' (fun i hi=>(hev i hi).below hW hb) h0
set_option maxHeartbeats 2000000 in
theorem zje (t s q d k v g:Int) (w:World):
    Calls Tryz.prog 188 #[.agg #[.int .i64 t,.int .i64 s,.int .i64 q,.int .i64 d,.int .i64 k,.int .i64 v,.int .i64 g]] w fun e w'=>
      e= .returned (.bool (okB t s q d k v g))∧Below w.heap.size w w':=by
  go_enter Tryz.func188,Tryz.ntmps188
  go_wp2
  all_goals
    go_ret
    refine⟨?_,(Below.refl _ _).alloc (Nat.le_refl _) _⟩
    first|exact yy5 (by simp [okB];omega)|exact ye8 (by simp [okB];omega)
end Go.Proofs.YtghndljgadpijaaGreat

/- The program's eventsOk. -/
namespace Go.Proofs.YtghndljgadpijaaGreat
open Go.RowKit Go.Shelf
theorem zci {p:Prop} (h:p):Hid p:=h
attribute [local go_sem] Oper.semAt_some
theorem zbm (e:Ev) (b:Bool) (h:e.ok=b) (w:World):Calls Tryz.prog 188 #[e.val] w fun r w'=>r= .returned (.bool b)∧Below w.heap.size w w':=by
  subst h;exact zje _ _ _ _ _ _ _ w
theorem yvh {W W':World} (h:Below W.heap.size W W'):KeepsOthers W W':=⟨h.size,fun k _ hk _=>(h.block k (Array.getElem?_eq_some_iff.1 hk).1).trans hk⟩
theorem EvAt.kept {W W':World} {row:Option Nat} {b o:Nat} {t s q d k v g:Int} (h:EvAt W b o t s q d k v g) (hg:W.grownBy W' row) (hr:∀r,row=some r→ ∃x:Obj,W.heap[r]? =some x∧x.isCells=false):EvAt W' b o t s q d k v g:=
  ⟨cell_kept h.f0 hg hr,cell_kept h.f1 hg hr,cell_kept h.f2 hg hr,cell_kept h.f3 hg hr,cell_kept h.f4 hg hr,cell_kept h.f5 hg hr,cell_kept h.f6 hg hr⟩
set_option maxRecDepth 100000 in
set_option maxHeartbeats 2000000 in
theorem zi8 (a:Option Addr) (cap b:Nat) (l:List Ev) (w:World) (hl:l.length≤1048576) (hI:l= []∨ ∃off,a=some ⟨b,off,none⟩∧EvsAt w b off l) (hb:b<w.heap.size):
    Calls Tryz.prog 291 #[.slice a l.length cap] w fun e w'=>Says e (∀i,i<l.length→(evAt l i).ok=true)∧Below w.heap.size w w':=by
  refine(callsIn_wide (n:=5)).1 ?_
  refine callsIn_of_wp_marks Tryz.func291 rfl trivial ?_ rfl
  simp only [Tryz.ntmps291,List.size_toArray,List.length_cons,List.length_nil,Nat.reduceAdd,Nat.reduceSub,Array.replicate_succ,Array.replicate_zero,List.push_toArray,List.append_toArray,List.nil_append,List.cons_append]
  gi_wp2_with (refine⟨trivial,?_⟩;gi_at_call 200;refine(callsIn_wide.2 (zc1 _ _ _ _)).mono ?_;rintro e w' ⟨rfl,rfl⟩)
  have cR:=(Boxed.new w 4 (.bool false)).alloc (.cells #[.slice a l.length cap] 34)
  have cS:=Boxed.new (w.alloc (.cells #[.bool false] 4)) 34 (.slice a l.length cap)
  rw [World.size_alloc]at cS
  have hB0:Below w.heap.size w ((w.alloc (.cells #[.bool false] 4)).alloc (.cells #[.slice a l.length cap] 34)):=((Below.refl _ w).alloc (Nat.le_refl _) _).alloc (by simp) _
  refine wpIn_rangeFunc_ownH rfl (by omega) (gf:=254) (lb:= #[.pointer (some ⟨w.heap.size+1,0,none⟩)]) rfl trivial (enters_of Tryz.func254 (by kernel_rfl) rfl)
    (za7 Fence.wide 4 trivial rfl (by omega) (w.heap.size+1) b a cap l hl _ (by simp) cS.cell (hI.imp id (fun⟨off,e,h⟩=>⟨off,e,h.below hB0 hb⟩))) Same2.trans (Same2.putObj (by simp) (by simp;omega)) (Below.refl _ _) (fun _=>rfl)
    (fun pre W=>((∀x∈pre,(evAt l x.val).ok=true)∧W.cell? ⟨w.heap.size,0,none⟩=some (.bool false)∧W.frozen? ⟨w.heap.size,0,none⟩=false)∧Below (w.heap.size+2) ((w.alloc (.cells #[.bool false] 4)).alloc (.cells #[.slice a l.length cap] 34)) W)
    (fun c pre W=>(c= .ret∧(∃x:Fin l.length,(evAt l x.val).ok=false)∧W.cell? ⟨w.heap.size,0,none⟩=some (.bool false))∧Below w.heap.size w W)
    (OwnFrom.and (Own.from (fun s A B row hs hg hr=>⟨hs.1,cell_kept hs.2.1 hg hr,(frozen_kept hs.2.1 hg hr).trans hs.2.2⟩) _) (ownFrom_below (by simp) (by simp)))
    (fun c=>OwnFrom.and (Own.from (fun s A B row hs hg hr=>⟨hs.1,hs.2.1,cell_kept hs.2.2 hg hr⟩) _) (ownFrom_below (Nat.le_refl _) (by simp;omega)))
    ⟨⟨by simp,cR.cell,cR.frozen⟩,Below.refl _ _⟩
    (fun x a' W=>∃Bx,w.heap.size+2≤Bx∧Bx<W.heap.size∧Ev.In W Bx 0 (evAt l x.val)∧a'= {tmps:= #[.slice a l.length cap,undef,.pointer (some ⟨w.heap.size,0,none⟩),undef,.pointer (some ⟨Bx,0,none⟩),.slice a l.length cap,.func (.func 254) #[] #[.pointer (some ⟨w.heap.size+1,0,none⟩)],.int .i64 ((x.val:Nat):Int),(evAt l x.val).val,undef,undef,undef],defers:= []})
    (fun x a' s A B row hs hg hr=>by obtain⟨Bx,h1,h2,h3,h4⟩:=hs;exact⟨Bx,h1,Nat.lt_of_lt_of_le h2 hg.size,h3.kept hg (fun r e=>(hr r e).2),h4⟩) ?assign ?body ?done ?stop
  case assign=>
    rintro lp pre x W K ⟨⟨hp,hc,hf⟩,hB⟩ hK
    gi_wp2
    have hz:w.heap.size+1<W.heap.size:=by have:=hB.size;simp at this;omega
    have hBW:Below W.heap.size W (W.alloc (.cells #[.int .i64 (evAt l x.val).t,.int .i64 (evAt l x.val).s,.int .i64 (evAt l x.val).q,.int .i64 (evAt l x.val).d,.int .i64 (evAt l x.val).k,.int .i64 (evAt l x.val).v,.int .i64 (evAt l x.val).g] 90)):=(Below.refl _ W).alloc (Nat.le_refl _) _
    exact hK _ _ ((KeepsOthers.alloc _ _).from _) (Same2.below hBW hz (by omega)) ⟨⟨hp,(hBW.cell (p:=⟨w.heap.size,0,none⟩) (by simp;omega)).trans hc,(hBW.frozen (p:=⟨w.heap.size,0,none⟩) (by simp;omega)).trans hf⟩,hB.trans (hBW.mono (by omega))⟩ ⟨W.heap.size,by omega,by simp,EvAt.new _ _ _ _ _ _ _ _ _,rfl⟩
  case body=>
    rintro lp pre x a' W hlp _ ⟨⟨hp,hc,hf⟩,hB⟩ ⟨Bx,h1,h2,h3,rfl⟩ hlt
    have hz:w.heap.size+1<W.heap.size:=by have:=hB.size;simp at this;omega
    obtain⟨f0,f1,f2,f3,f4,f5,f6⟩:=h3.lits
    have HP:=zci hp
    have HB:=zci hB
    have HB0:=zci hB0
    clear hp hB h3 cR cS hI hB0
    cases hok:(evAt l x.val).ok
    · have HOK:=zci hok
      clear hok
      gi_wp2_with (refine⟨trivial,?_⟩;gi_at_call 188;refine(CallsIn.inRound lp (callsIn_wide.2 (zbm (evAt l x.val) false HOK.out _))).mono ?_;rintro e w2 ⟨rfl,hb2⟩;have hc2:=(hb2.cell (p:=⟨w.heap.size,0,none⟩) (by simp;omega)).trans hc;have hf2:=(hb2.frozen (p:=⟨w.heap.size,0,none⟩) (by simp;omega)).trans hf)
      exact⟨((yvh hb2).trans (KeepsOthers.setCell _ _ _)).from _,⟨rfl,⟨x,HOK.out⟩,World.cell?_setCell_same' _ _ _ (by rw [hc2];rfl)⟩,((HB0.out.trans (HB.out.mono (by omega))).trans (hb2.mono (by omega))).setCell (p:=⟨w.heap.size,0,none⟩) (Nat.le_refl _) _⟩
    · have HOK:=zci hok
      clear hok
      gi_wp2_with (refine⟨trivial,?_⟩;gi_at_call 188;refine(CallsIn.inRound lp (callsIn_wide.2 (zbm (evAt l x.val) true HOK.out _))).mono ?_;rintro e w2 ⟨rfl,hb2⟩;have hc2:=(hb2.cell (p:=⟨w.heap.size,0,none⟩) (by simp;omega)).trans hc;have hf2:=(hb2.frozen (p:=⟨w.heap.size,0,none⟩) (by simp;omega)).trans hf)
      exact⟨(yvh hb2).from _,Same2.below hb2 hz (by omega),⟨fun y hy=>(List.mem_append.1 hy).elim (HP.out y) (fun e=>by simp at e;subst e;exact HOK.out),hc2,hf2⟩,HB.out.trans (hb2.mono (by omega))⟩
  case done=>
    rintro D ys W hD rfl ⟨⟨hp,hc,hf⟩,hB⟩ hK
    have HP:=zci hp
    clear hp
    gi_wp2
    have hK':=(KeepsOthers.setCell W ⟨w.heap.size,0,none⟩ (.bool true)).same D _ hK rfl
    refine⟨by simp,.inl ⟨_,_,rfl,run_takeDeferred hK',?_⟩⟩
    have hc5:=cell_kept (World.cell?_setCell_same' W ⟨w.heap.size,0,none⟩ (.bool true) (by rw [hc];rfl)) (grownBy_putObj' _ D (.deferred none)) (fun r e=>by cases e;exact⟨_,hK',rfl⟩)
    refine⟨.bool true,?_,Says.yes (fun i hi=>HP.out ⟨i,hi⟩ (List.mem_finRange _)),((hB0.trans (hB.mono (by omega))).setCell (p:=⟨w.heap.size,0,none⟩) (Nat.le_refl _) _).trans (belowK_b (w:=w) (Nat.le_refl _) _ D _ _ (by simp at hD;omega) hK' rfl rfl)⟩
    simp [results,Tryz.f291,go_sem,hc5]
  case stop=>
    rintro D c pre W hD _ ⟨⟨rfl,⟨x,hx⟩,hc⟩,hB⟩ hK
    have HX:=zci hx
    clear hx
    gi_wp2
    refine⟨by simp,.inl ⟨_,_,rfl,run_takeDeferred hK,?_⟩⟩
    have hc5:=cell_kept hc (grownBy_putObj' _ D (.deferred none)) (fun r e=>by cases e;exact⟨_,hK,rfl⟩)
    refine⟨.bool false,?_,Says.no (fun h=>by have:=h x.val x.isLt;rw [HX.out]at this;cases this),hB.trans (belowK_b (w:=w) (Nat.le_refl _) W D _ _ (by simp at hD;omega) hK rfl rfl)⟩
    simp [results,Tryz.f291,go_sem,hc5]
end Go.Proofs.YtghndljgadpijaaGreat

