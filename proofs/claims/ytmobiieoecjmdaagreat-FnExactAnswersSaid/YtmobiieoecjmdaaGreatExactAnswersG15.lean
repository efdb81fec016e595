/- Differ, PIk, Copies, OwnE, Find, PId, PIg, PIp, POb -/
import Derived.Test.YtmobiieoecjmdaaGreatExactAnswersG14
import Derived.Maps.OwnSet
import Derived.Laws.OwnMore
import Derived.WalkSmall
import Derived.Laws.AppendOwnNone
import Derived.Deep.RegionLaw
import Derived.Test.YtmobiieoecjmdaaGreatExactAnswersLPSo
namespace Go.Proofs.YtmobiieoecjmdaaGreat
open Go.RowKit Go.Maps Go.WideShapes
theorem ynf {p:Prop} (h:p):Hid p:=h
theorem ynl (n:Nat):(List.finRange n).take n=List.finRange n:=List.take_of_length_le (by simp)
set_option maxHeartbeats 1000000 in
theorem ygt (a:Option Addr) (cap b:Nat) (l:List Ev) (w:World) (hl:l.length≤1048576) (hI:l= []∨ ∃off,a=some ⟨b,off,none⟩∧EvsAt w b off l) (hb:b<w.heap.size) (hwf:∀i,i<l.length→wfI (evAt l i).g):
  Calls Tryz.prog 115 #[.slice a l.length cap] w fun e w'=>Says e (∀i,i<l.length→ ∀j,j<i→(evAt l j).g≠(evAt l i).g)∧Below w.heap.size w w':=by
 have HP:=ynf (ypr l hwf l.length (Nat.le_refl _))
 have HC:=yrd (H:=Unit) a cap b l w hl hI hb hwf
 have HC':Hid (Calls Tryz.prog 161 #[.slice a l.length cap] w fun e W'=>e= .returned (.map (some w.heap.size))∧W'.ownsMap Tryz.prog 110 (plainElem (H:=Unit) Tryz.prog 3) w.heap.size l.length (yeu l (List.finRange l.length))∧Below w.heap.size w W'):=HC
 clear HC hI hwf
 go_enter Tryz.func115,Tryz.ntmps115
 go_wp2_with fail
 refine HC'.out.mono ?_
 rintro e w1 ⟨rfl,hown,hb1⟩
 have hD:=yff l l.length (Nat.le_refl _)
 rw [ynl]at hD
 have hrun:=hown.len Tryz.underlying204 3
 rw [hD]at hrun
 have hm:(Maps.size (.map (ybv l l.length):DataW Unit):Int)=((ybv l l.length).length:Int):=rfl
 rw [hm]at hrun
 generalize hn:(ybv l l.length).length=n at hrun
 have HN:=ynf hn
 clear hown hD hn hm
 go_wp2
 go_ret
 refine⟨?_,hb1⟩
 have hiff:=HP.out.iff
 rw [HN.out]at hiff
 refine⟨_,rfl,?_⟩
 rw [←hiff]
 simp
 omega
theorem yu3 {t s q d k v g:Int} (h:okB t s q d k v g=true):wfI g:=by
 simp only [okB,decide_eq_true_eq]at h
 exact WalkArith.wf_i64 (by omega)
theorem IsEvs.parts {w:World} {x:Value} {l:List Ev} (h:IsEvs w x l) (hw:0<w.heap.size):∃a cap b,x= .slice a l.length cap∧b<w.heap.size∧(l= []∨ ∃off,a=some ⟨b,off,none⟩∧EvsAt w b off l):=by
 obtain⟨a,cap,rfl,_,_,h⟩:=h
 rcases h with h|⟨b,off,rfl,h⟩
 ·exact⟨a,cap,0,rfl,hw,.inl h⟩
 ·exact⟨_,cap,b,rfl,h.1,.inr ⟨off,rfl,h⟩⟩
theorem yh1 {w w':World} {a:Option Addr} {b:Nat} {l:List Ev} (h:l= []∨ ∃off,a=some ⟨b,off,none⟩∧EvsAt w b off l) (hb:b<w.heap.size) (hB:Below w.heap.size w w'):l= []∨ ∃off,a=some ⟨b,off,none⟩∧EvsAt w' b off l:=
 h.imp id (fun⟨off,e,h⟩=>⟨off,e,h.below hB hb⟩)
end Go.Proofs.YtmobiieoecjmdaaGreat

namespace Go.Proofs.YtmobiieoecjmdaaGreat
open Go.RowKit
theorem yd6 {p:Prop} (h:p):Hid p:=h
set_option maxRecDepth 100000 in
set_option maxHeartbeats 8000000 in
theorem iPastOk (x:Value) (p:Pa) (w:World) (hw:p.wt≤1048576) (h:IsPart w x p):
  Calls Tryz.prog 195 #[x] w fun e w'=>Says e (∀i,i<p.p.length→Past2 p i)∧Below w.heap.size w w':=by
 obtain⟨v1,v4,v5,v6,rfl,h1,h4,h5,h6⟩:=h
 have hpl:p.p.length≤1048576:=by have:=yc3 p.p;unfold Pa.wt at hw;omega
 have HWP:Hid (∀i,i<p.p.length→(psAt p.p i).b.r.length≤1048576∧(psAt p.p i).s.length≤1048576∧(psAt p.p i).x.length≤1048576):=fun i hi=>by
  have h9:(psAt p.p i).wt≤(yay p.p).wt:=Ps.wt_le hi
  unfold Ps.wt at h9
  unfold Pa.wt at hw
  simp only [yal,yb2,ycm]at h9 hw
  omega
 obtain⟨pa,pc,rfl,_,_,h4⟩:=IsD.parts (c:=12) (n:=p.p.length) h4
 have H4:=yd6 h4
 clear h1 h4 h5 h6 hw
 obtain⟨W0,hW0⟩:∃W0,w.alloc (.cells #[.int .i64 p.n,v1,.int .i64 p.st.q,.int .i64 p.st.d,.slice pa p.p.length pc,v5,v6] 97)=W0:=⟨_,rfl⟩
 have HB0:=hdq (beA hW0)
 have HP0:=hdq (bkA hW0)
 have hs0:w.heap.size<W0.heap.size:=HP0.out.lt
 have p4:=HP0.out.cell (i:=4) rfl
 go_enter Tryz.func195,Tryz.ntmps195
 go_wp2
 clear p4 hW0
 go_loopw [8] (fun i wr=>∃k:Nat,k≤p.p.length∧i= .int .i64 k∧Hid (∀j,j<k→Past2 p j)∧Below W0.heap.size W0 wr) (fun i _=>p.p.length-(intOf i).toNat)
 case atStart=>exact⟨0,Nat.zero_le _,rfl,fun j hj=>by omega,Below.refl _ _⟩
 case round=>
  obtain⟨k,hk,rfl,HA,hB⟩:=hrel
  have HB:=yd6 hB
  have HBw:=yd6 (HB0.out.trans (hB.mono (by omega)))
  have hsr:W0.heap.size≤wr.heap.size:=hB.size
  have HPr:=yd6 (HP0.out.below hB)
  clear hB
  by_cases hlt:k<p.p.length
  ·obtain⟨b,off,hpa,hb,hc⟩:=H4.out.resolve_left (by omega)
   subst hpa
   obtain⟨ua,ub,uc,f0,f1,f2,f3,f4,f5,f6,f7,f8,f9,f10,f11,d7,d10,d11⟩:=ycw (l:=p.p) (n:=p.p.length) (fun j hj=>by
    obtain⟨u,hu,hd⟩:=hc j hj
    exact⟨u,(HBw.out.cell (p:=⟨b,off+j,none⟩) hb).trans hu,hd.under HBw.out⟩) hlt
   obtain⟨a7,c7,rfl,_⟩:=IsD.len (c:=1) (n:=(psAt p.p k).b.r.length) d7
   obtain⟨a10,c10,rfl,_⟩:=IsD.len (c:=7) (n:=(psAt p.p k).s.length) d10
   obtain⟨a11,c11,rfl,_⟩:=IsD.len (c:=3) (n:=(psAt p.p k).x.length) d11
   have hki:(k:Int)<(p.p.length:Int):=by omega
   obtain⟨W1,hW1⟩:∃W1,wr.alloc (.cells #[.int .i64 (psAt p.p k).e.t,.int .i64 (psAt p.p k).e.s,.int .i64 (psAt p.p k).e.q,.int .i64 (psAt p.p k).e.d,.int .i64 (psAt p.p k).e.k,.int .i64 (psAt p.p k).e.v,.int .i64 (psAt p.p k).e.g,.slice a7 (psAt p.p k).b.r.length c7,.int .i64 (psAt p.p k).b.q,.int .i64 (psAt p.p k).b.d,.slice a10 (psAt p.p k).s.length c10,.slice a11 (psAt p.p k).x.length c11] 115)=W1:=⟨_,rfl⟩
   have hB1:=beA hW1
   have HB1:=yd6 hB1
   have HX:=hdq (bkA hW1)
   have HSt:Hid (IsS W1 (.agg #[.slice a7 (psAt p.p k).b.r.length c7,.int .i64 (psAt p.p k).b.q,.int .i64 (psAt p.p k).b.d]) (psAt p.p k).b):=⟨_,rfl,(d7.under hB1).isI⟩
   have HSe:=yd6 ((d10.under hB1).isEvs)
   have HEm:=yd6 ((d11.under hB1).isX)
   have HWk:=yd6 (HWP.out k hlt)
   have HBW:=yd6 (HB.out.trans (hB1.mono hsr))
   have x7:=HX.out.cell (i:=7) rfl
   have x8:=HX.out.cell (i:=8) rfl
   have x9:=HX.out.cell (i:=9) rfl
   clear hc d7 d10 d11 hB1
   go_wp2_with fail
   clear hW1 x7 x8 x9 f0 f1 f2 f3 f4 f5 f6 f7 f8 f9 f10 f11
   refine(iStOk _ (psAt p.p k).b _ HSt.out).mono ?_
   rintro e w2 ⟨rfl,hb2⟩
   have HB2:=yd6 hb2
   have HBW2:=trh HBW hb2
   have HBw2:=yd6 (HB0.out.trans (HBW2.out.mono (by omega)))
   have HX2:=yd6 (HX.out.below hb2)
   have HP2:=HP0.out.below HBW2.out
   have y0:=HP2.cell (i:=0) rfl
   obtain⟨x0,x1,x2,x3,x4,x5,x6,x7,x8,x9,x10,x11⟩:=yvm HX2.out
   clear hb2 HP2
   cases hst:(psAt p.p k).b.ok
   ·have KS:=yd6 hst
    clear hst
    go_wp2
    go_ret
    exact⟨Says.no (fun h=>by have:=(h k hlt).1;rw [KS.out]at this;cases this),HBw2.out⟩
   have KS:=yd6 hst
   clear hst
   go_wp2_with fail
   clear x0 x1 x2 x3 x4 x5 x6 x7 x8 x9 x10 x11 y0
   obtain⟨ea,ec,eb,heq,hbe,hI⟩:=IsEvs.parts (HSe.out.below HB2.out) (by have:=HX2.out.lt;omega)
   cases heq
   refine(iSent _ _ a10 c10 eb (psAt p.p k) p.n _ (by have:=HWk.out.2.1;omega) hI hbe).mono ?_
   rintro e w3 ⟨⟨bs,rfl,hs⟩,hb3⟩
   have HSs:=yd6 hs
   have HB3:=yd6 hb3
   have HBW3:=trh HBW2 hb3
   have HBw3:=yd6 (HB0.out.trans (HBW3.out.mono (by omega)))
   have HX3:=yd6 (HX2.out.below hb3)
   have x11:=HX3.out.cell (i:=11) rfl
   clear hs hb3 hI hbe
   cases bs
   ·go_wp2
    go_ret
    exact⟨Says.no (fun h=>by have:=HSs.out.2 (h k hlt).2.1;cases this),HBw3.out⟩
   have KE:=yd6 (HSs.out.1 rfl)
   by_cases h8:8<(psAt p.p k).x.length
   ·have h8':(8:Int)<((psAt p.p k).x.length:Int):=by omega
    have KM:Hid (emsB (psAt p.p k).x=false):=by
     show emsB (psAt p.p k).x=false
     unfold emsB
     rw [decide_eq_false (by omega)]
     rfl
    go_wp2
    go_ret
    exact⟨Says.no (fun h=>by have:=(h k hlt).2.2;rw [KM.out]at this;cases this),HBw3.out⟩
   have h8':¬(8:Int)<((psAt p.p k).x.length:Int):=by omega
   have H8:Hid ((psAt p.p k).x.length≤8):=by show(psAt p.p k).x.length≤8;omega
   clear h8
   go_wp2_with fail
   clear x11
   refine(iEmits _ (psAt p.p k).x _ (by have:=HWk.out.2.2;omega) ((HEm.out.below HB2.out).below HB3.out)).mono ?_
   rintro e w4 ⟨rfl,hb4⟩
   have HBW4:=trh HBW3 hb4
   have HBw4:=yd6 (HB0.out.trans (HBW4.out.mono (by omega)))
   clear hb4
   cases hem:emsC (psAt p.p k).x
   ·have KM:Hid (emsB (psAt p.p k).x=false):=by
     show emsB (psAt p.p k).x=false
     rw [yv9,hem,Bool.and_false]
    clear hem
    go_wp2
    go_ret
    exact⟨Says.no (fun h=>by have:=(h k hlt).2.2;rw [KM.out]at this;cases this),HBw4.out⟩
   have KM:Hid (emsB (psAt p.p k).x=true):=by
    show emsB (psAt p.p k).x=true
    rw [yv9,hem,decide_eq_true H8.out]
    rfl
   clear hem
   go_wp2
   go_roundw
   case rel=>exact⟨k+1,by omega,by go_num,fun j hj=>by
    by_cases e:j=k
    ·subst e;exact⟨KS.out,KE.out,KM.out⟩
    ·exact HA.out j (by omega),HBW4.out⟩
   case measure=>simp [intOf];omega
  ·go_wp2
   go_ret
   exact⟨Says.yes (fun j hj=>HA.out j (by omega)),HBw.out⟩
theorem yti (w:World):(w.alloc (.cells #[] 110)).ownsRow w.heap.size 110 7 (.slice (some ⟨w.heap.size,0,none⟩) 0 0) 0 []:=
 ⟨rfl,.inr ⟨w.heap.size,0,#[],rfl,Nat.le_refl _,(MapKept.heap_alloc w _).1,Nat.le_refl _,Nat.zero_le _,rfl,rfl⟩⟩
def OwnR (B:Nat) (w:World) (x:Value) (l:List Ev):Prop:=w.ownsRow B 110 7 x l.length (yag l)
theorem OwnR.own {B:Nat} {w:World} {x:Value} {l:List Ev} (h:OwnR B w x l):OwnEvs B w x l:=OwnEvs.of_row h
theorem OwnR.below {B:Nat} {w w':World} {x:Value} {l:List Ev} (h:OwnR B w x l) (hb:Below w.heap.size w w'):OwnR B w' x l:=by
 obtain⟨h0,⟨e,h1⟩|⟨g,cap,cur,e,hg,hc,h1⟩⟩:=h
 ·exact⟨h0,.inl ⟨e,h1⟩⟩
 ·exact⟨h0,.inr ⟨g,cap,cur,e,hg,(hb.block g (Array.getElem?_eq_some_iff.1 hc).1).trans hc,h1⟩⟩
theorem OwnR.mono {B B':Nat} {w:World} {x:Value} {l:List Ev} (h:OwnR B w x l) (hB:B'≤B):OwnR B' w x l:=by
 obtain⟨h0,⟨e,h1⟩|⟨g,cap,cur,e,hg,h1⟩⟩:=h
 ·exact⟨h0,.inl ⟨e,h1⟩⟩
 ·exact⟨h0,.inr ⟨g,cap,cur,e,Nat.le_trans hB hg,h1⟩⟩
theorem OwnR.evs {B:Nat} {w:World} {x:Value} {l:List Ev} (h:OwnR B w x l):IsEvs w x l:=h.own.isEvs
theorem ybe {P:Program} {ops:Array Oper} {o:Oper} {a:Act} {w:World} {K:Act→World→Prop} {Q:Exit→Act→World→Prop} {E:Prop}
  (hg:o.guard=none) (s x:Operand) (t:TypeId) (hop:o.op=Op.call {callee:=Callee.builtin Builtin.append,args:= #[s,x],argTypes:= #[t,t]})
  (base:Nat) (e:TypeId) (i:TypeInfo) (z:Value) (size bytes:Nat) (h1:P.underlying t=some (.slice e)) (h2:P.info? e=some i) (h3:i.zero=some z) (h4:i.size=size) (h5:i.bytes=bytes) (h6:z.cells.size=size) (h7:0<size)
  (v:Value) (n:Nat) (xs:List Value) (hs:a.eval s=v) (hown:w.ownsRow base e size v n xs)
  (ad:Addr) (m c:Nat) (news:List Value) (hx:a.eval x= .slice (some ad) m c) (hn:news.length=m*size) (hc:∀j u,news[j]? =some u→w.cell? (ad.add j)=some u) (h1c:∀u∈news,u.oneCell'=true)
  (b1:n+m≤maxLen) (b2:(n+m)*bytes≤140737488355328) (hbase:base≤w.heap.size)
  (hK:∀v' w',w'.ownsRow base e size v' (n+m) (xs++news)→w.grownBy w' v.ownBlock→K (a.put o.dst v') w'):
  if Region.wanted o (yielded ops a.tmps)=true then Oper.wp P o a w K Q else E:=by
 have hw:Region.wanted o (yielded ops a.tmps)=true:=by simp [Region.wanted,hg]
 rw [if_pos hw]
 exact wp_append_own w s x t hop base e i z size bytes h1 h2 h3 h4 h5 h6 h7 v n xs hs hown ad m c news hx hn hc h1c b1 b2 hbase (fun v' w' r1 r2 _=>hK v' w' r1 r2)
theorem ybf {w:World} {B:Nat} {e:TypeId} {size n:Nat} {v:Value} {xs:List Value} (h:w.ownsRow B e size v n xs) {r:Nat} (hr:v.ownBlock=some r):B≤r:=by
 obtain⟨_,⟨rfl,_⟩|⟨g,cap,cur,rfl,hg,_⟩⟩:=h
 ·cases hr
 ·cases hr;exact hg
theorem yks {p:Prop} (h:p):Hid p:=h
def RowK (w:World) (B g n:Nat) (l:List Ev) (k:Nat):Prop:=∃cs,w.ownsRow B 110 7 (.slice (some ⟨g,0,none⟩) n n) n cs∧cs.take (k*7)=yag (l.take k)
theorem ytb {cs:List Value} {k:Nat} (hl:k*7+7≤cs.length) (v0 v1 v2 v3 v4 v5 v6:Value):
  (((((((cs.set (k*7) v0).set (k*7+1) v1).set (k*7+2) v2).set (k*7+3) v3).set (k*7+4) v4).set (k*7+5) v5).set (k*7+6) v6).take ((k+1)*7)=cs.take (k*7)++ [v0,v1,v2,v3,v4,v5,v6]:=by
 apply List.ext_getElem?
 intro j
 have hlt:(cs.take (k*7)).length=k*7:=by simp;omega
 by_cases h1:j<k*7
 ·rw [List.getElem?_take_of_lt (by omega),List.getElem?_append_left (by omega),List.getElem?_take_of_lt h1]
  rw [List.getElem?_set_ne (by omega),List.getElem?_set_ne (by omega),List.getElem?_set_ne (by omega),List.getElem?_set_ne (by omega),List.getElem?_set_ne (by omega),List.getElem?_set_ne (by omega),List.getElem?_set_ne (by omega)]
 ·rw [List.getElem?_append_right (by omega),hlt]
  obtain⟨r,rfl⟩:∃r,j=k*7+r:=⟨j-k*7,by omega⟩
  by_cases h2:r<7
  ·rw [List.getElem?_take_of_lt (by omega),Nat.add_sub_cancel_left]
   match r,h2 with
   |0,_=>simp [List.getElem?_set];omega
   |1,_=>simp [List.getElem?_set];omega
   |2,_=>simp [List.getElem?_set];omega
   |3,_=>simp [List.getElem?_set];omega
   |4,_=>simp [List.getElem?_set];omega
   |5,_=>simp [List.getElem?_set];omega
   |6,_=>simp [List.getElem?_set];omega
  ·rw [List.getElem?_eq_none (by simp;omega),List.getElem?_eq_none (by simp;omega)]
theorem RowK.put {w:World} {B g n k:Nat} {l:List Ev} (h:RowK w B g n l k) (hk:k<n) (hl:l.length=n):RowK (put7 w g (k*7) (evAt l k)) B g n l (k+1):=by
 obtain⟨cs,h1,h2⟩:=h
 have hlen:cs.length=n*7:=h1.1
 have s0:=(World.ownsRow.stored h1 (k*7) (.int .i64 (evAt l k).t)).1
 have s1:=(World.ownsRow.stored s0 (k*7+1) (.int .i64 (evAt l k).s)).1
 have s2:=(World.ownsRow.stored s1 (k*7+2) (.int .i64 (evAt l k).q)).1
 have s3:=(World.ownsRow.stored s2 (k*7+3) (.int .i64 (evAt l k).d)).1
 have s4:=(World.ownsRow.stored s3 (k*7+4) (.int .i64 (evAt l k).k)).1
 have s5:=(World.ownsRow.stored s4 (k*7+5) (.int .i64 (evAt l k).v)).1
 have s6:=(World.ownsRow.stored s5 (k*7+6) (.int .i64 (evAt l k).g)).1
 refine⟨_,s6,?_⟩
 rw [ytb (by omega),h2]
 have e:l.take (k+1)=l.take k++ [evAt l k]:=by
  rw [List.take_add_one,List.getElem?_eq_getElem (by omega)]
  simp [evAt,show k<l.length by omega]
 rw [e,yca]
 rfl
theorem RowK.cells {w:World} {B g n k:Nat} {l:List Ev} (h:RowK w B g n l k) (hk:k<n):∃c0 c1 c2 c3 c4 c5 c6,(w.cell? ⟨g,k*7,none⟩=some c0∧w.cell? ⟨g,k*7+1,none⟩=some c1∧w.cell? ⟨g,k*7+2,none⟩=some c2∧w.cell? ⟨g,k*7+3,none⟩=some c3∧w.cell? ⟨g,k*7+4,none⟩=some c4∧w.cell? ⟨g,k*7+5,none⟩=some c5∧w.cell? ⟨g,k*7+6,none⟩=some c6)∧ ∀j,w.frozen? ⟨g,j,none⟩=false:=by
 obtain⟨cs,h1,h2⟩:=h
 have hlen:cs.length=n*7:=h1.1
 have hh:∀r,r<7→ ∃c,w.cell? ⟨g,k*7+r,none⟩=some c:=fun r hr=>⟨_,(World.ownsRow.cellAt h1 (k*7+r) (by omega)).trans (List.getElem?_eq_getElem (by omega))⟩
 obtain⟨c0,g0⟩:=hh 0 (by omega)
 obtain⟨c1,g1⟩:=hh 1 (by omega)
 obtain⟨c2,g2⟩:=hh 2 (by omega)
 obtain⟨c3,g3⟩:=hh 3 (by omega)
 obtain⟨c4,g4⟩:=hh 4 (by omega)
 obtain⟨c5,g5⟩:=hh 5 (by omega)
 obtain⟨c6,g6⟩:=hh 6 (by omega)
 exact⟨c0,c1,c2,c3,c4,c5,c6,⟨g0,g1,g2,g3,g4,g5,g6⟩,fun j=>World.ownsRow.frozenAt h1 j⟩
theorem RowK.below {w w':World} {B g n k:Nat} {l:List Ev} (h:RowK w B g n l k) (hb:Below w.heap.size w w'):RowK w' B g n l k:=by
 obtain⟨cs,h1,h2⟩:=h
 obtain⟨h0,⟨e,h1⟩|⟨g',cap,cur,e,hg,hc,h1⟩⟩:=h1
 ·exact⟨cs,⟨h0,.inl ⟨e,h1⟩⟩,h2⟩
 ·exact⟨cs,⟨h0,.inr ⟨g',cap,cur,e,hg,(hb.block g' (Array.getElem?_eq_some_iff.1 hc).1).trans hc,h1⟩⟩,h2⟩
theorem RowK.all {w:World} {B g n:Nat} {l:List Ev} (h:RowK w B g n l n) (hl:l.length=n):OwnR B w (.slice (some ⟨g,0,none⟩) n n) l:=by
 obtain⟨cs,h1,h2⟩:=h
 have hlen:cs.length=n*7:=h1.1
 rw [List.take_of_length_le (by omega),List.take_of_length_le (by omega)]at h2
 unfold OwnR
 rw [hl,←h2]
 exact h1
theorem RowK.lt {w:World} {B g n k:Nat} {l:List Ev} (h:RowK w B g n l k):B≤g∧g<w.heap.size:=by
 obtain⟨cs,h1,_⟩:=h
 exact World.ownsRow.lt h1 g rfl
set_option maxRecDepth 100000 in
set_option maxHeartbeats 8000000 in
theorem iDone (x:Value) (p:Pa) (w:World) (hw:p.wt≤1048576) (h:IsPart w x p):
  Calls Tryz.prog 199 #[x] w fun e w'=>∃y,e= .returned y∧OwnR w.heap.size w' y p.es∧Below w.heap.size w w':=by
 obtain⟨v1,v4,v5,v6,rfl,h1,h4,h5,h6⟩:=h
 have hpl:p.p.length≤1048576:=by have:=yc3 p.p;unfold Pa.wt at hw;omega
 obtain⟨pa,pc,rfl,_,_,h4⟩:=IsD.parts (c:=12) (n:=p.p.length) h4
 have H4:=yks h4
 clear h1 h4 h5 h6 hw
 have hp:(0:Int)≤(p.p.length:Int):=by omega
 obtain⟨i0,hi,hz0,hz1,hz2⟩:=info_parts ygv
 obtain⟨W0,hW0⟩:∃W0,w.alloc (.cells #[.int .i64 p.n,v1,.int .i64 p.st.q,.int .i64 p.st.d,.slice pa p.p.length pc,v5,v6] 97)=W0:=⟨_,rfl⟩
 have HB0:=hdq (beA hW0)
 have HP0:=hdq (bkA hW0)
 have hs0:w.heap.size<W0.heap.size:=HP0.out.lt
 have p4:=HP0.out.cell (i:=4) rfl
 go_enter Tryz.func199,Tryz.ntmps199
 go_wp2_with (at_make;refine wpList_make_full _ rfl _ _ 34 rfl W0.heap.size 110 i0 _ 7 Tryz.underlying34 hi hz0 hz1 .i64 .i64 p.p.length p.p.length p.p.length rfl rfl rfl rfl (by rw [hz2];omega) (by unfold maxLen;omega) (Nat.le_refl _) ?_;intro w1 hown hgrow;have hb1:Below W0.heap.size W0 w1:=(Below.refl _ _).grown hgrow (Nat.le_refl _) (fun k e=>by cases e);have hR1:RowK w1 W0.heap.size W0.heap.size p.p.length p.es 0:=⟨_,hown,by simp [yag]⟩;have q4:=(HP0.out.below hb1).cell (i:=4) rfl;have HB1:=hdq hb1;have HR1:=hdq hR1;clear hown hgrow hb1 hR1)
 clear p4 q4 hW0 hi hz0 hz1 hz2
 go_loopw [13] (fun i wr=>∃k:Nat,k≤p.p.length∧i= .int .i64 k∧Below W0.heap.size W0 wr∧RowK wr W0.heap.size W0.heap.size p.p.length p.es k) (fun i _=>p.p.length-(intOf i).toNat)
 case atStart=>exact⟨0,Nat.zero_le _,rfl,HB1.out,HR1.out⟩
 case round=>
  clear HB1 HR1
  obtain⟨k,hk,rfl,hB,hR⟩:=hrel
  have HB:=yks hB
  have HBw:=yks (HB0.out.trans (hB.mono (by omega)))
  have HR:=yks hR
  have hsr:W0.heap.size<wr.heap.size:=hR.lt.2
  clear hB hR
  by_cases hlt:k<p.p.length
  ·obtain⟨b,off,rfl,hb,hc⟩:=H4.out.resolve_left (by omega)
   obtain⟨ua,ub,uc,f0,f1,f2,f3,f4,f5,f6,f7,f8,f9,f10,f11,d7,d10,d11⟩:=ycw (l:=p.p) (n:=p.p.length) (fun j hj=>by
    obtain⟨u,hu,hd⟩:=hc j hj
    exact⟨u,(HBw.out.cell (p:=⟨b,off+j,none⟩) hb).trans hu,hd.under HBw.out⟩) hlt
   obtain⟨a7,c7,rfl,_⟩:=IsD.len (c:=1) (n:=(psAt p.p k).b.r.length) d7
   obtain⟨a10,c10,rfl,_⟩:=IsD.len (c:=7) (n:=(psAt p.p k).s.length) d10
   obtain⟨a11,c11,rfl,_⟩:=IsD.len (c:=3) (n:=(psAt p.p k).x.length) d11
   have hki:(k:Int)<(p.p.length:Int):=by omega
   obtain⟨W1,hW1⟩:∃W1,wr.alloc (.cells #[.int .i64 (psAt p.p k).e.t,.int .i64 (psAt p.p k).e.s,.int .i64 (psAt p.p k).e.q,.int .i64 (psAt p.p k).e.d,.int .i64 (psAt p.p k).e.k,.int .i64 (psAt p.p k).e.v,.int .i64 (psAt p.p k).e.g,.slice a7 (psAt p.p k).b.r.length c7,.int .i64 (psAt p.p k).b.q,.int .i64 (psAt p.p k).b.d,.slice a10 (psAt p.p k).s.length c10,.slice a11 (psAt p.p k).x.length c11] 115)=W1:=⟨_,rfl⟩
   have hB1:=beA hW1
   have HB1:=yks hB1
   have HX:=bkA hW1
   have HR1:=yks (HR.out.below hB1)
   have x0:=HX.cell (i:=0) rfl
   have x1:=HX.cell (i:=1) rfl
   have x2:=HX.cell (i:=2) rfl
   have x3:=HX.cell (i:=3) rfl
   have x4:=HX.cell (i:=4) rfl
   have x5:=HX.cell (i:=5) rfl
   have x6:=HX.cell (i:=6) rfl
   obtain⟨c0',c1',c2',c3',c4',c5',c6',⟨g0,g1,g2,g3,g4,g5,g6⟩,gf⟩:=HR1.out.cells hlt
   have z0:=gf (k*7)
   have z1:=gf (k*7+1)
   have z2:=gf (k*7+2)
   have z3:=gf (k*7+3)
   have z4:=gf (k*7+4)
   have z5:=gf (k*7+5)
   have z6:=gf (k*7+6)
   clear hc d7 d10 d11 hB1 HX gf
   go_wp2
   go_roundw
   case rel=>
    have hp7:=HR1.out.put hlt (yf8 p)
    rw [es_at p hlt]at hp7
    have hbb:Below W0.heap.size W0 W1:=HB.out.trans (HB1.out.mono (by omega))
    exact⟨k+1,by omega,by go_num,ykm hbb (Nat.le_refl _) _ _,hp7⟩
   case measure=>simp [intOf];omega
  ·have he:k=p.p.length:=by omega
   have HRe:Hid (RowK wr W0.heap.size W0.heap.size p.p.length p.es p.p.length):=by
    have h9:=HR.out
    rw [he]at h9
    exact h9
   go_wp2
   go_ret
   exact⟨_,rfl,(HRe.out.all (yf8 p)).mono (by omega),HBw.out⟩
theorem hidPIg {p:Prop} (h:p):Hid p:=h
theorem yjd {P:Program} {w:World} (base:Nat) (t ty e:TypeId) (i:TypeInfo) (size:Nat) (ht:P.underlying t=some (.slice e)) (hi:P.info? e=some i)
  (v:Value) (n c:Nat) (xs:List Value) (hown:w.ownsRow base e size v n xs):
  (Builtin.append_ #[t,t] ty #[v,.slice none 0 c]).run P w= .ok v w:=by
 rcases hown.2 with ⟨rfl,rfl⟩|⟨g,cap,cur,rfl,_,_,hnc,_⟩
 ·simp [Builtin.append_,run_underlying ht,sizeOf,typeInfo,hi,Builtin.lenOf,Builtin.firstCells]
 ·simp [Builtin.append_,run_underlying ht,sizeOf,typeInfo,hi,Builtin.lenOf,Builtin.firstCells,hnc,storeCells]
theorem yir {P:Program} {ops:Array Oper} {o:Oper} {a:Act} {w:World} {K:Act→World→Prop} {Q:Exit→Act→World→Prop} {E:Prop}
  (hg:o.guard=none) (s x:Operand) (t:TypeId) (hop:o.op=Op.call {callee:=Callee.builtin Builtin.append,args:= #[s,x],argTypes:= #[t,t]})
  (base:Nat) (e:TypeId) (i:TypeInfo) (size:Nat) (h1:P.underlying t=some (.slice e)) (h2:P.info? e=some i)
  (v:Value) (n c:Nat) (xs:List Value) (hs:a.eval s=v) (hown:w.ownsRow base e size v n xs) (hx:a.eval x= .slice none 0 c)
  (hK:K (a.put o.dst v) w):
  if Region.wanted o (yielded ops a.tmps)=true then Oper.wp P o a w K Q else E:=by
 have hw:Region.wanted o (yielded ops a.tmps)=true:=by simp [Region.wanted,hg]
 rw [if_pos hw]
 have hrun:=yjd (P:=P) (w:=w) base t o.type e i size h1 h2 v n c xs hown
 unfold Oper.wp
 simp [execOp,hop,resolve,invoke,builtin,hs,hx,hrun,Result.andThen]
 exact hK
theorem yu4 {w w':World} {P:Nat} {T:TypeId} {vs:Array Value} {row:Option Nat} (h:Bk w P T vs) (hg:w.grownBy w' row) (hne:row=some P→False):Bk w' P T vs:=
 (hg.block P h.lt (fun e=>hne e.symm)).trans h
set_option maxRecDepth 100000 in
set_option maxHeartbeats 8000000 in
theorem yun (x:Value) (p:Pa) (w:World) (hw:p.wt≤1048576) (h:IsPart w x p):
  Calls Tryz.prog 162 #[x] w fun e w'=>∃y,e= .returned y∧OwnR w.heap.size w' y p.all∧Below w.heap.size w w':=by
 have HI:Hid (IsPart w x p):=h
 obtain⟨v1,v4,v5,v6,rfl,h1,h4,h5,h6⟩:=h
 have hwt:=hw
 unfold Pa.wt at hwt
 simp only [yal,yb2]at hwt
 have hel:p.es.length≤1048576:=by rw [yf8];have:=yc3 p.p;omega
 have htl:p.t.length≤1048576:=by omega
 obtain⟨ta,tc,rfl,_,_,h5⟩:=h5.isEvs
 clear h1 h4 h6 hwt
 obtain⟨i0,hi,hz0,hz1,hz2⟩:=info_parts ygv
 cases ta with
 |none=>
  have ht0:p.t= []:=h5.resolve_right (by rintro ⟨b,off,e,_⟩;cases e)
  have HT0:Hid (p.t= []):=ht0
  have HI':Hid (IsPart w (.agg #[.int .i64 p.n,v1,.int .i64 p.st.q,.int .i64 p.st.d,v4,.slice none 0 tc,v6]) p):=by
   have h9:=HI.out
   rw [ht0]at h9
   exact h9
  clear HI
  have HI:=HI'
  rw [ht0]
  clear ht0 h5 HI'
  show Calls Tryz.prog 162 #[.agg #[.int .i64 p.n,v1,.int .i64 p.st.q,.int .i64 p.st.d,v4,.slice none 0 tc,v6]] w _
  obtain⟨W0,hW0⟩:∃W0,w.alloc (.cells #[.int .i64 p.n,v1,.int .i64 p.st.q,.int .i64 p.st.d,v4,.slice none 0 tc,v6] 97)=W0:=⟨_,rfl⟩
  have HB0:=hdq (beA hW0)
  have HP0:=hdq (bkA hW0)
  have hs0:w.heap.size<W0.heap.size:=HP0.out.lt
  have hs0d:w.heap.size≤W0.drew.heap.size:=Nat.le_of_lt hs0
  have HI0:=hidPIg (HI.out.under HB0.out.drew)
  have HS0:Hid (W0.drew.cell? ⟨w.heap.size,0,none⟩=some (.int .i64 p.n)∧W0.drew.cell? ⟨w.heap.size,1,none⟩=some (v1)∧W0.drew.cell? ⟨w.heap.size,2,none⟩=some (.int .i64 p.st.q)∧W0.drew.cell? ⟨w.heap.size,3,none⟩=some (.int .i64 p.st.d)∧W0.drew.cell? ⟨w.heap.size,4,none⟩=some (v4)∧W0.drew.cell? ⟨w.heap.size,5,none⟩=some (.slice none 0 tc)∧W0.drew.cell? ⟨w.heap.size,6,none⟩=some (v6)):=⟨HP0.out.drew.cell (i:=0) rfl,HP0.out.drew.cell (i:=1) rfl,HP0.out.drew.cell (i:=2) rfl,HP0.out.drew.cell (i:=3) rfl,HP0.out.drew.cell (i:=4) rfl,HP0.out.drew.cell (i:=5) rfl,HP0.out.drew.cell (i:=6) rfl⟩
  go_enter Tryz.func162,Tryz.ntmps162
  go_wp2
  clear hW0
  go_region_held3 (fun W=>W.cell? ⟨w.heap.size,0,none⟩=some (.int .i64 p.n)∧W.cell? ⟨w.heap.size,1,none⟩=some (v1)∧W.cell? ⟨w.heap.size,2,none⟩=some (.int .i64 p.st.q)∧W.cell? ⟨w.heap.size,3,none⟩=some (.int .i64 p.st.d)∧W.cell? ⟨w.heap.size,4,none⟩=some (v4)∧W.cell? ⟨w.heap.size,5,none⟩=some (.slice none 0 tc)∧W.cell? ⟨w.heap.size,6,none⟩=some (v6)) (first|exact HS0.out|exact HS2.out|exact HS3.out)
   (first|(go_at_call 199;refine(iDone _ p _ hw HI0.out).mono ?_;rintro e w2 ⟨y,rfl,ho,hb⟩;have HOb:=hdq ho;have HO2:Hid (w2.ownsRow w.heap.size 110 7 y p.es.length (yag p.es)):=ho.mono hs0d;have HB2:Hid (Below w.heap.size w w2):=HB0.out.drew.trans (hb.mono hs0d);have HX2:Hid (Bk w2 w.heap.size 97 #[.int .i64 p.n,v1,.int .i64 p.st.q,.int .i64 p.st.d,v4,.slice none 0 tc,v6]):=HP0.out.drew.below hb;have HS2:Hid (w2.cell? ⟨w.heap.size,0,none⟩=some (.int .i64 p.n)∧w2.cell? ⟨w.heap.size,1,none⟩=some (v1)∧w2.cell? ⟨w.heap.size,2,none⟩=some (.int .i64 p.st.q)∧w2.cell? ⟨w.heap.size,3,none⟩=some (.int .i64 p.st.d)∧w2.cell? ⟨w.heap.size,4,none⟩=some (v4)∧w2.cell? ⟨w.heap.size,5,none⟩=some (.slice none 0 tc)∧w2.cell? ⟨w.heap.size,6,none⟩=some (v6)):=⟨HX2.out.cell (i:=0) rfl,HX2.out.cell (i:=1) rfl,HX2.out.cell (i:=2) rfl,HX2.out.cell (i:=3) rfl,HX2.out.cell (i:=4) rfl,HX2.out.cell (i:=5) rfl,HX2.out.cell (i:=6) rfl⟩;have hsz2:w.heap.size≤w2.heap.size:=HB2.out.size;clear ho hb)|(refine yir (w:=w2) rfl (.tmp 4) (.tmp 6) 34 rfl w.heap.size 110 i0 7 Tryz.underlying34 hi y p.es.length tc (yag p.es) rfl HO2.out rfl ?_))
  go_wp2
  go_ret
  exact⟨_,rfl,by unfold OwnR Pa.all;rw [HT0.out,List.append_nil];exact HO2.out,HB2.out⟩
 |some ad=>
  have HC:Hid (∀w2,Below w.heap.size w w2→ ∀j u,(yag p.t)[j]? =some u→w2.cell? (ad.add j)=some u):=by
   rcases h5 with e|⟨b,off,e,hI⟩
   ·intro w2 _ j u hu
    rw [e]at hu
    simp [yag]at hu
   ·cases e
    exact fun w2 hb=>(hI.below hb hI.1).cells
  clear h5
  obtain⟨W0,hW0⟩:∃W0,w.alloc (.cells #[.int .i64 p.n,v1,.int .i64 p.st.q,.int .i64 p.st.d,v4,.slice (some ad) p.t.length tc,v6] 97)=W0:=⟨_,rfl⟩
  have HB0:=hdq (beA hW0)
  have HP0:=hdq (bkA hW0)
  have hs0:w.heap.size<W0.heap.size:=HP0.out.lt
  have hs0d:w.heap.size≤W0.drew.heap.size:=Nat.le_of_lt hs0
  have HI0:=hidPIg (HI.out.under HB0.out.drew)
  have HS0:Hid (W0.drew.cell? ⟨w.heap.size,0,none⟩=some (.int .i64 p.n)∧W0.drew.cell? ⟨w.heap.size,1,none⟩=some (v1)∧W0.drew.cell? ⟨w.heap.size,2,none⟩=some (.int .i64 p.st.q)∧W0.drew.cell? ⟨w.heap.size,3,none⟩=some (.int .i64 p.st.d)∧W0.drew.cell? ⟨w.heap.size,4,none⟩=some (v4)∧W0.drew.cell? ⟨w.heap.size,5,none⟩=some (.slice (some ad) p.t.length tc)∧W0.drew.cell? ⟨w.heap.size,6,none⟩=some (v6)):=⟨HP0.out.drew.cell (i:=0) rfl,HP0.out.drew.cell (i:=1) rfl,HP0.out.drew.cell (i:=2) rfl,HP0.out.drew.cell (i:=3) rfl,HP0.out.drew.cell (i:=4) rfl,HP0.out.drew.cell (i:=5) rfl,HP0.out.drew.cell (i:=6) rfl⟩
  go_enter Tryz.func162,Tryz.ntmps162
  go_wp2
  clear hW0
  go_region_held3 (fun W=>W.cell? ⟨w.heap.size,0,none⟩=some (.int .i64 p.n)∧W.cell? ⟨w.heap.size,1,none⟩=some (v1)∧W.cell? ⟨w.heap.size,2,none⟩=some (.int .i64 p.st.q)∧W.cell? ⟨w.heap.size,3,none⟩=some (.int .i64 p.st.d)∧W.cell? ⟨w.heap.size,4,none⟩=some (v4)∧W.cell? ⟨w.heap.size,5,none⟩=some (.slice (some ad) p.t.length tc)∧W.cell? ⟨w.heap.size,6,none⟩=some (v6)) (first|exact HS0.out|exact HS2.out|exact HS3.out)
   (first|(go_at_call 199;refine(iDone _ p _ hw HI0.out).mono ?_;rintro e w2 ⟨y,rfl,ho,hb⟩;have HOb:=hdq ho;have HO2:Hid (w2.ownsRow w.heap.size 110 7 y p.es.length (yag p.es)):=ho.mono hs0d;have HB2:Hid (Below w.heap.size w w2):=HB0.out.drew.trans (hb.mono hs0d);have HX2:Hid (Bk w2 w.heap.size 97 #[.int .i64 p.n,v1,.int .i64 p.st.q,.int .i64 p.st.d,v4,.slice (some ad) p.t.length tc,v6]):=HP0.out.drew.below hb;have HS2:Hid (w2.cell? ⟨w.heap.size,0,none⟩=some (.int .i64 p.n)∧w2.cell? ⟨w.heap.size,1,none⟩=some (v1)∧w2.cell? ⟨w.heap.size,2,none⟩=some (.int .i64 p.st.q)∧w2.cell? ⟨w.heap.size,3,none⟩=some (.int .i64 p.st.d)∧w2.cell? ⟨w.heap.size,4,none⟩=some (v4)∧w2.cell? ⟨w.heap.size,5,none⟩=some (.slice (some ad) p.t.length tc)∧w2.cell? ⟨w.heap.size,6,none⟩=some (v6)):=⟨HX2.out.cell (i:=0) rfl,HX2.out.cell (i:=1) rfl,HX2.out.cell (i:=2) rfl,HX2.out.cell (i:=3) rfl,HX2.out.cell (i:=4) rfl,HX2.out.cell (i:=5) rfl,HX2.out.cell (i:=6) rfl⟩;have hsz2:w.heap.size≤w2.heap.size:=HB2.out.size;have HC2:Hid (∀j u,(yag p.t)[j]? =some u→w2.cell? (ad.add j)=some u):=HC.out w2 HB2.out;clear ho hb)|(refine ybe (w:=w2) rfl (.tmp 4) (.tmp 6) 34 rfl w.heap.size 110 i0 _ 7 56 Tryz.underlying34 hi hz0 hz1 hz2 rfl (by decide) y p.es.length (yag p.es) rfl HO2.out ad p.t.length tc (yag p.t) rfl (yb7 p.t) HC2.out (ysk p.t) (by unfold maxLen;omega) (by omega) hsz2 ?_;intro y3 w3 hown3 hgrow3;have HO3:=hdq hown3;have HB3:Hid (Below w.heap.size w w3):=HB2.out.grown hgrow3 hsz2 (fun k e=>ybf HO2.out e);have HX3:Bk w3 w.heap.size 97 #[.int .i64 p.n,v1,.int .i64 p.st.q,.int .i64 p.st.d,v4,.slice (some ad) p.t.length tc,v6]:=yu4 HX2.out hgrow3 (fun e=>Nat.lt_irrefl _ (Nat.lt_of_lt_of_le hs0 (ybf HOb.out e)));have HS3:Hid (w3.cell? ⟨w.heap.size,0,none⟩=some (.int .i64 p.n)∧w3.cell? ⟨w.heap.size,1,none⟩=some (v1)∧w3.cell? ⟨w.heap.size,2,none⟩=some (.int .i64 p.st.q)∧w3.cell? ⟨w.heap.size,3,none⟩=some (.int .i64 p.st.d)∧w3.cell? ⟨w.heap.size,4,none⟩=some (v4)∧w3.cell? ⟨w.heap.size,5,none⟩=some (.slice (some ad) p.t.length tc)∧w3.cell? ⟨w.heap.size,6,none⟩=some (v6)):=⟨HX3.cell (i:=0) rfl,HX3.cell (i:=1) rfl,HX3.cell (i:=2) rfl,HX3.cell (i:=3) rfl,HX3.cell (i:=4) rfl,HX3.cell (i:=5) rfl,HX3.cell (i:=6) rfl⟩;clear hown3 hgrow3 HX3))
  go_wp2
  go_ret
  exact⟨_,rfl,by unfold OwnR Pa.all;rw [yca,List.length_append];exact HO3.out,HB3.out⟩
set_option maxHeartbeats 8000000
set_option maxRecDepth 100000
open Go.RowKit
theorem ycf {p:Prop} (h:p):Hid p:=h
theorem yum (x:Value) (p:Pa) (w:World) (hw:p.wt≤1048576) (h2:p.p.length+p.t.length≤1048576) (h:IsPart w x p):
  Calls Tryz.prog 196 #[x] w fun e w'=>Says e (yvy p)∧Below w.heap.size w w':=by
 have HI:Hid (IsPart w x p):=h
 have hal:p.all.length≤1048576:=by rw [yd9];exact h2
 obtain⟨v1,v4,v5,v6,rfl,h1,h4,h5,h6⟩:=h
 clear h1 h4 h5 h6
 obtain⟨W0,hW0⟩:∃W0,w.alloc (.cells #[.int .i64 p.n,v1,.int .i64 p.st.q,.int .i64 p.st.d,v4,v5,v6] 97)=W0:=⟨_,rfl⟩
 have HB0:=hdq (beA hW0)
 have HP0:=hdq (bkA hW0)
 have hs0:w.heap.size<W0.heap.size:=HP0.out.lt
 obtain⟨p0,p1,p2,p3,p4,p5,p6⟩:=c7_7 HP0.out
 go_enter Tryz.func196,Tryz.ntmps196
 go_wp2_with fail
 clear hW0 p0 p1 p2 p3 p4 p5 p6
 refine(yun _ p _ hw (HI.out.under HB0.out)).mono ?_
 rintro e w1 ⟨y,rfl,ho,hb1⟩
 obtain⟨ya,yc,yb,rfl,hyb,hI⟩:=IsEvs.parts ho.evs (by have:=hb1.size;omega)
 have HI1:=ycf hI
 have HB1:=trh HB0 hb1
 have HP1:=ycf (HP0.out.below hb1)
 clear ho hb1 hI
 go_wp2_with fail
 refine(ynm ya yc yb p.all _ hal HI1.out hyb).mono ?_
 rintro e w2 ⟨⟨b1,rfl,hs1⟩,hb2⟩
 have HS1:=ycf hs1
 have HB2:=trh HB1 hb2
 have HI2:=ycf (yh1 HI1.out hyb hb2)
 have hy2:yb<w2.heap.size:=Nat.lt_of_lt_of_le hyb hb2.size
 have HP2:=ycf (HP1.out.below hb2)
 have q0:=HP2.out.cell (i:=0) rfl
 clear hs1 hb2
 cases b1
 ·go_wp2
  go_ret
  exact⟨Says.no (fun h=>by have:=HS1.out.2 h.1;cases this),HB2.out⟩
 have HOK:=ycf (HS1.out.1 rfl)
 go_wp2_with fail
 refine(ysm ya yc yb p.all p.n _ hal HI2.out hy2).mono ?_
 rintro e w3 ⟨⟨b2,rfl,hs2⟩,hb3⟩
 have HS2:=ycf hs2
 have HB3:=trh HB2 hb3
 have HI3:=ycf (yh1 HI2.out hy2 hb3)
 have hy3:yb<w3.heap.size:=Nat.lt_of_lt_of_le hy2 hb3.size
 clear hs2 hb3 q0
 cases b2
 ·go_wp2
  go_ret
  exact⟨Says.no (fun h=>by have:=HS2.out.2 h.2.1;cases this),HB3.out⟩
 have HDS:=ycf (HS2.out.1 rfl)
 go_wp2_with fail
 refine(yh6 ya yc yb p.all _ hal HI3.out hy3).mono ?_
 rintro e w4 ⟨⟨b3,rfl,hs3⟩,hb4⟩
 have HS3:=ycf hs3
 have HB4:=trh HB3 hb4
 have HI4:=ycf (yh1 HI3.out hy3 hb4)
 have hy4:yb<w4.heap.size:=Nat.lt_of_lt_of_le hy3 hb4.size
 clear hs3 hb4
 cases b3
 ·go_wp2
  go_ret
  exact⟨Says.no (fun h=>by have:=HS3.out.2 h.2.2.1;cases this),HB4.out⟩
 have HOR:=ycf (HS3.out.1 rfl)
 go_wp2_with fail
 refine(ygt ya yc yb p.all _ hal HI4.out hy4 (fun i hi=>yu3 (HOK.out i hi))).mono ?_
 rintro e w5 ⟨⟨b4,rfl,hs4⟩,hb5⟩
 have HS4:=ycf hs4
 have HB5:=trh HB4 hb5
 clear hs4 hb5
 cases b4
 ·go_wp2
  go_ret
  exact⟨Says.no (fun h=>by have:=HS4.out.2 h.2.2.2;cases this),HB5.out⟩
 have HTG:=ycf (HS4.out.1 rfl)
 go_wp2
 go_ret
 exact⟨Says.yes ⟨HOK.out,HDS.out,HOR.out,HTG.out⟩,HB5.out⟩
theorem iPartOk (x:Value) (p:Pa) (w:World) (hw:p.wt≤1048576) (h:IsPart w x p):
  Calls Tryz.prog 157 #[x] w fun e w'=>Says e (ype p)∧Below w.heap.size w w':=by
 have HI:Hid (IsPart w x p):=h
 obtain⟨v1,v4,v5,v6,rfl,h1,h4,h5,h6⟩:=h
 have hwt:=hw
 unfold Pa.wt at hwt
 simp only [yal,yb2]at hwt
 have H1:Hid (IsS w (.agg #[v1,.int .i64 p.st.q,.int .i64 p.st.d]) p.st):=⟨v1,rfl,h1.isI⟩
 have H6:Hid (IsI w v6 p.a):=h6.isI
 obtain⟨pa,pc,rfl,hpm⟩:=IsD.len (c:=12) (n:=p.p.length) h4
 obtain⟨ta,tc,rfl,htm⟩:=IsD.len (c:=7) (n:=p.t.length) h5
 obtain⟨aa,ac,rfl,ham⟩:=IsD.len (c:=1) (n:=p.a.length) h6
 unfold maxLen at hpm htm ham
 have hal:p.a.length≤1048576:=by omega
 clear h1 h4 h5 h6 hwt
 obtain⟨W0,hW0⟩:∃W0,w.alloc (.cells #[.int .i64 p.n,v1,.int .i64 p.st.q,.int .i64 p.st.d,.slice pa p.p.length pc,.slice ta p.t.length tc,.slice aa p.a.length ac] 97)=W0:=⟨_,rfl⟩
 have HB0:=hdq (beA hW0)
 have HP0:=hdq (bkA hW0)
 have HI0:=ycf (HI.out.under HB0.out)
 obtain⟨p0,p1,p2,p3,p4,p5,p6⟩:=c7_7 HP0.out
 by_cases c0:200<p.p.length
 ·have c0':(200:Int)<(p.p.length:Int):=by omega
  go_enter Tryz.func157,Tryz.ntmps157
  go_wp2
  go_ret
  exact⟨Says.no (fun h=>by have:=h.1;omega),HB0.out⟩
 have c0':¬(200:Int)<(p.p.length:Int):=by omega
 by_cases c1:2000<p.t.length
 ·have c1':(2000:Int)<(p.t.length:Int):=by omega
  go_enter Tryz.func157,Tryz.ntmps157
  go_wp2
  go_ret
  exact⟨Says.no (fun h=>by have:=h.1;omega),HB0.out⟩
 have c1':¬(2000:Int)<(p.t.length:Int):=by omega
 by_cases c2:2000<p.a.length
 ·have c2':(2000:Int)<(p.a.length:Int):=by omega
  go_enter Tryz.func157,Tryz.ntmps157
  go_wp2
  go_ret
  exact⟨Says.no (fun h=>by have:=h.1;omega),HB0.out⟩
 have c2':¬(2000:Int)<(p.a.length:Int):=by omega
 have HL:Hid (p.p.length≤200∧p.t.length≤2000∧p.a.length≤2000):=⟨by omega,by omega,by omega⟩
 go_enter Tryz.func157,Tryz.ntmps157
 go_wp2_with fail
 refine(yad _ _ _ _).mono ?_
 rintro e w2 ⟨rfl,hw2⟩
 have hw2':=hw2.symm
 clear hw2
 subst hw2'
 clear hW0
 by_cases n0:0≤p.n∧p.n≤3
 case neg=>
  rw [show(decide (0≤p.n)&&decide (p.n≤3))=false from by rw [←Bool.decide_and];exact decide_eq_false n0]
  have HN:=ycf n0
  clear n0
  go_wp2
  go_ret
  exact⟨Says.no (fun h=>HN.out h.2.1),HB0.out⟩
 rw [show(decide (0≤p.n)&&decide (p.n≤3))=true from by rw [←Bool.decide_and];exact decide_eq_true n0]
 have HN:Hid (0≤p.n∧p.n≤3):=n0
 clear n0
 go_wp2_with fail
 refine(iStOk _ p.st _ (H1.out.below HB0.out)).mono ?_
 rintro e w1 ⟨rfl,hb1⟩
 have HB1:=trh HB0 hb1
 have HP1:=ycf (HP0.out.below hb1)
 have HI1:=ycf (HI0.out.under hb1)
 clear hb1 p0 p1 p2 p3 p4 p5 p6
 obtain⟨q0,q1,q2,q3,q4,q5,q6⟩:=c7_7 HP1.out
 cases hst:p.st.ok
 ·have KS:Hid (p.st.ok=false):=hst
  clear hst
  go_wp2
  go_ret
  exact⟨Says.no (fun h=>by have:=h.2.2.1;rw [KS.out]at this;cases this),HB1.out⟩
 have KS:Hid (p.st.ok=true):=hst
 clear hst
 go_wp2_with fail
 refine(iPastOk _ p _ hw HI1.out).mono ?_
 rintro e w3 ⟨⟨b1,rfl,hs1⟩,hb3⟩
 have HS1:=ycf hs1
 have HB3:=trh HB1 hb3
 have HP3:=ycf (HP1.out.below hb3)
 have HI3:=ycf (HI1.out.under hb3)
 clear hs1 hb3 q0 q1 q2 q3 q4 q5 q6
 obtain⟨q0,q1,q2,q3,q4,q5,q6⟩:=c7_7 HP3.out
 cases b1
 ·go_wp2
  go_ret
  exact⟨Says.no (fun h=>by have:=HS1.out.2 h.2.2.2.1;cases this),HB3.out⟩
 have KB1:=ycf (HS1.out.1 rfl)
 go_wp2_with fail
 refine(yum _ p _ hw (by omega) HI3.out).mono ?_
 rintro e w4 ⟨⟨b2,rfl,hs2⟩,hb4⟩
 have HS2:=ycf hs2
 have HB4:=trh HB3 hb4
 have HP4:=ycf (HP3.out.below hb4)
 clear hs2 hb4 q0 q1 q2 q3 q4 q5 q6
 have q6:=HP4.out.cell (i:=6) rfl
 cases b2
 ·go_wp2
  go_ret
  exact⟨Says.no (fun h=>by have:=HS2.out.2 h.2.2.2.2.1;cases this),HB4.out⟩
 have KB2:Hid (yvy p):=HS2.out.1 rfl
 go_wp2_with fail
 refine(iAntis _ p.a _ (by omega) (H6.out.below HB4.out)).mono ?_
 rintro e w5 ⟨⟨b3,rfl,hs3⟩,hb5⟩
 have HS3:=ycf hs3
 have HB5:=trh HB4 hb5
 clear hs3 hb5 q6
 cases b3
 ·go_wp2
  go_ret
  exact⟨Says.no (fun h=>by have:=HS3.out.2 h.2.2.2.2.2;cases this),HB5.out⟩
 have KB3:Hid (Asc p.a):=HS3.out.1 rfl
 go_wp2
 go_ret
 exact⟨Says.yes ⟨HL.out,HN.out,KS.out,KB1.out,KB2.out,KB3.out⟩,HB5.out⟩
theorem yr6 (x:Value) (p:Pa) (w:World) (hw:p.wt≤1048576) (h:IsPart w x p):
  Calls Tryz.prog 148 #[x] w fun e w'=>e= .returned (.bool p.ok)∧Below w.heap.size w w':=
 (sPartOk x p w hw h).mono fun _ _ ⟨hs,hb⟩=>⟨ytd (by rwa [yhv]at hs),hb⟩
theorem ys3 (x:Value) (p:Pa) (w:World) (hw:p.wt≤1048576) (h:IsPart w x p):
  Calls Tryz.prog 157 #[x] w fun e w'=>e= .returned (.bool p.ok)∧Below w.heap.size w w':=
 (iPartOk x p w hw h).mono fun _ _ ⟨hs,hb⟩=>⟨ytd hs,hb⟩
end Go.Proofs.YtmobiieoecjmdaaGreat

