/- SoE, SrC, SrD, StP, SrE, StI, UnI, CmQ -/
import Derived.Test.YtmobiieoecjmdaaGreatExactAnswersG32
import Derived.Sort.Statements
import Derived.Sort.Grow
import Derived.Deep.Draws
namespace Go.Proofs.YtmobiieoecjmdaaGreat
open Go.RowKit
theorem ygp (a b:Ev):a.cmp b<0↔a.t<b.t∨a.t=b.t∧(a.s<b.s∨a.s=b.s∧(a.q<b.q∨a.q=b.q∧a.g<b.g)):=ym1 _ _ _ _ _ _ _ _
theorem lay_of {W w':World} (h:Below W.heap.size W w') (hd:W.drawn≤w'.drawn):∃q os',w'=Go.Sort.grow (W.drewN q) os':=by
 refine⟨w'.drawn-W.drawn,w'.heap.extract W.heap.size w'.heap.size,?_⟩
 have hh:w'.heap=W.heap++w'.heap.extract W.heap.size w'.heap.size:=by
  refine Array.ext_getElem? fun k=> ?_
  by_cases hk:k<W.heap.size
  ·rw [Array.getElem?_append_left hk]
   exact h.block k hk
  ·rw [Array.getElem?_append_right (by omega),Array.getElem?_extract]
   by_cases hk2:k<w'.heap.size
   ·rw [if_pos (by omega),show W.heap.size+(k-W.heap.size)=k by omega]
   ·rw [if_neg (by omega),Array.getElem?_eq_none (by omega)]
 obtain⟨hp,tp,dr,os,ou⟩:=w'
 have h1:=h.os
 have h2:=h.tape
 have h3:=h.output
 dsimp only at h1 h2 h3 hh hd⊢
 unfold Go.Sort.grow World.drewN
 subst h1 h2 h3
 dsimp only
 rw [←hh,show W.drawn+(dr-W.drawn)=dr by omega]
theorem hidSrC {p:Prop} (h:p):Hid p:=h
def slB (v:Value):Prop:=∃a n c,v= .slice a n c
abbrev PsF:Type:= {c:Ps×Value×Value×Value//c.1.e.ok=true∧slB c.2.1∧slB c.2.2.1∧slB c.2.2.2}
def encP (c:PsF):List Value:=pastL c.1.1 c.1.2.1 c.1.2.2.1 c.1.2.2.2
theorem ylx (c:PsF):(encP c).length=12:=rfl
theorem yq7 (c:PsF):∀v∈encP c,v.oneCell'=true:=by
 obtain⟨⟨p,v7,v10,v11⟩,h,⟨a,n,k,e7⟩,⟨a',n',k',e10⟩,⟨a'',n'',k'',e11⟩⟩:=c
 dsimp only at e7 e10 e11
 subst e7 e10 e11
 intro v hv
 simp [encP,pastL]at hv
 rcases hv with rfl|rfl|rfl|rfl|rfl|rfl|rfl|rfl|rfl|rfl|rfl|rfl<;>rfl
abbrev cmpP (x y:PsF):Int:=x.1.1.e.cmp y.1.1.e
theorem swoP:Go.Sort.SWO (fun x y:PsF=>decide (cmpP x y<0)) where
 irrefl x:=by simp only [decide_eq_false_iff_not,ygp];omega
 trans x y z h1 h2:=by simp only [decide_eq_true_eq,ygp]at*;omega
 ntrans x y z h1 h2:=by simp only [decide_eq_false_iff_not,ygp]at*;omega
set_option maxRecDepth 100000 in
set_option maxHeartbeats 4000000 in
theorem psCmpD (x y:PsF) (w:World):
  Calls Tryz.prog 122 #[.agg (encP x).toArray,.agg (encP y).toArray] w fun e w'=>e= .returned (.int .i64 (cmpP x y))∧Below w.heap.size w w'∧w.drawn≤w'.drawn:=by
 obtain⟨⟨p,v7,v10,v11⟩,hp,⟨a7,n7,c7,e7⟩,⟨a10,n10,c10,e10⟩,⟨a11,n11,c11,e11⟩⟩:=x
 dsimp only at e7 e10 e11
 subst e7 e10 e11
 obtain⟨⟨q,u7,u10,u11⟩,hq,⟨b7,m7,d7,e7⟩,⟨b10,m10,d10,e10⟩,⟨b11,m11,d11,e11⟩⟩:=y
 dsimp only at e7 e10 e11
 subst e7 e10 e11
 have HP:Hid (p.e.ok=true):=hp
 have HQ:Hid (q.e.ok=true):=hq
 show Calls Tryz.prog 122 #[.agg #[.int .i64 p.e.t,.int .i64 p.e.s,.int .i64 p.e.q,.int .i64 p.e.d,.int .i64 p.e.k,.int .i64 p.e.v,.int .i64 p.e.g,.slice a7 n7 c7,.int .i64 p.b.q,.int .i64 p.b.d,.slice a10 n10 c10,.slice a11 n11 c11],.agg #[.int .i64 q.e.t,.int .i64 q.e.s,.int .i64 q.e.q,.int .i64 q.e.d,.int .i64 q.e.k,.int .i64 q.e.v,.int .i64 q.e.g,.slice b7 m7 d7,.int .i64 q.b.q,.int .i64 q.b.d,.slice b10 m10 d10,.slice b11 m11 d11]] w fun e w'=>e= .returned (.int .i64 (p.e.cmp q.e))∧Below w.heap.size w w'∧w.drawn≤w'.drawn
 clear hp hq
 obtain⟨W0,hW0⟩:∃W0,(w.alloc (.cells #[.int .i64 p.e.t,.int .i64 p.e.s,.int .i64 p.e.q,.int .i64 p.e.d,.int .i64 p.e.k,.int .i64 p.e.v,.int .i64 p.e.g,.slice a7 n7 c7,.int .i64 p.b.q,.int .i64 p.b.d,.slice a10 n10 c10,.slice a11 n11 c11] 115)).alloc (.cells #[.int .i64 q.e.t,.int .i64 q.e.s,.int .i64 q.e.q,.int .i64 q.e.d,.int .i64 q.e.k,.int .i64 q.e.v,.int .i64 q.e.g,.slice b7 m7 d7,.int .i64 q.b.q,.int .i64 q.b.d,.slice b10 m10 d10,.slice b11 m11 d11] 115)=W0:=⟨_,rfl⟩
 have HB0:=hdq (beA2 hW0)
 have HD0:Hid (w.drawn≤W0.drawn):=hW0▸Nat.le_refl _
 have B1:=bkA2 hW0
 have B2:=bkB2 hW0
 have x0:=B1.cell (i:=0) rfl
 have x1:=B1.cell (i:=1) rfl
 have x2:=B1.cell (i:=2) rfl
 have x3:=B1.cell (i:=3) rfl
 have x4:=B1.cell (i:=4) rfl
 have x5:=B1.cell (i:=5) rfl
 have x6:=B1.cell (i:=6) rfl
 have y0:=B2.cell (i:=0) rfl
 have y1:=B2.cell (i:=1) rfl
 have y2:=B2.cell (i:=2) rfl
 have y3:=B2.cell (i:=3) rfl
 have y4:=B2.cell (i:=4) rfl
 have y5:=B2.cell (i:=5) rfl
 have y6:=B2.cell (i:=6) rfl
 clear B1 B2
 go_enter Tryz.func122,Tryz.ntmps122
 go_wp2_with fail
 clear hW0 x0 x1 x2 x3 x4 x5 x6 y0 y1 y2 y3 y4 y5 y6
 refine(iCmpD p.e.t p.e.s p.e.q p.e.d p.e.k p.e.v p.e.g q.e.t q.e.s q.e.q q.e.d q.e.k q.e.v q.e.g HP.out HQ.out _).mono ?_
 rintro r w1 ⟨rfl,hb,hd⟩
 have HB1:=trh HB0 hb
 have HD1:Hid (w.drawn≤w1.drawn):=Nat.le_trans HD0.out hd
 clear hb hd
 go_wp2
 go_ret
 exact⟨rfl,HB1.out,HD1.out⟩
end Go.Proofs.YtmobiieoecjmdaaGreat

namespace Go.Proofs.YtmobiieoecjmdaaGreat
open Go.RowKit Go.Shelf Go.Lib Go.Sort
def ybj:List PsF→List Value
 | []=> []
 |x::l=>encP x++ybj l
theorem ye9:∀l:List PsF,(ybj l).length=l.length*12
 | []=>rfl
 |x::l=>by
  show(encP x++ybj l).length=_
  rw [List.length_append,ye9 l,ylx,List.length_cons]
  omega
theorem yi0:∀l m:List PsF,ybj (l++m)=ybj l++ybj m
 | [],m=>rfl
 |x::l,m=>by
  show encP x++ybj (l++m)=encP x++ybj l++ybj m
  rw [yi0 l m,List.append_assoc]
theorem ysj (l:List PsF):∀v∈ybj l,v.oneCell'=true:=by
 induction l with
 |nil=>intro v hv;cases hv
 |cons x l ih=>
  intro v hv
  rcases List.mem_append.1 (show v∈encP x++ybj l from hv)with h|h
  ·exact yq7 x v h
  ·exact ih v h
def psOf (l:List PsF):List Ps:=l.map (fun x=>x.1.1)
theorem yc8 (l:List PsF):(psOf l).length=l.length:=by simp [psOf]
def PsR (w:World) (x:PsF):Prop:=IsD w x.1.2.1 (yaq x.1.1.b.r)∧IsD w x.1.2.2.1 (evsD x.1.1.s)∧IsD w x.1.2.2.2 (emsD x.1.1.x)
theorem yt9 {w:World} {u:Value} {c n:Nat} {f:Nat→Dat} (h:IsD w u (.row c n f)):slB u:=by
 obtain⟨a,cap,rfl,_⟩:=IsD.len h
 exact⟨_,_,_,rfl⟩
theorem yqc {w:World}:∀{l:List Ps} {cs:List Value},(∀p∈l,p.e.ok=true)→cs.length=l.length*12→(∀j,j<l.length*12→IsD w (nthV cs j) (ya3 l j))→ ∃L:List PsF,psOf L=l∧ybj L=cs∧ ∀x∈L,PsR w x
 | [],cs,_,hl,_=>by
  obtain rfl:cs= []:=List.eq_nil_of_length_eq_zero (by simpa using hl)
  exact⟨[],rfl,rfl,fun x hx=>by cases hx⟩
 |p::l,cs,hok,hl,hd=>by
  rcases cs with _|⟨c0,cs⟩
  ·simp only [List.length_nil,List.length_cons]at hl;omega
  rcases cs with _|⟨c1,cs⟩
  ·simp only [List.length_nil,List.length_cons]at hl;omega
  rcases cs with _|⟨c2,cs⟩
  ·simp only [List.length_nil,List.length_cons]at hl;omega
  rcases cs with _|⟨c3,cs⟩
  ·simp only [List.length_nil,List.length_cons]at hl;omega
  rcases cs with _|⟨c4,cs⟩
  ·simp only [List.length_nil,List.length_cons]at hl;omega
  rcases cs with _|⟨c5,cs⟩
  ·simp only [List.length_nil,List.length_cons]at hl;omega
  rcases cs with _|⟨c6,cs⟩
  ·simp only [List.length_nil,List.length_cons]at hl;omega
  rcases cs with _|⟨c7,cs⟩
  ·simp only [List.length_nil,List.length_cons]at hl;omega
  rcases cs with _|⟨c8,cs⟩
  ·simp only [List.length_nil,List.length_cons]at hl;omega
  rcases cs with _|⟨c9,cs⟩
  ·simp only [List.length_nil,List.length_cons]at hl;omega
  rcases cs with _|⟨c10,cs⟩
  ·simp only [List.length_nil,List.length_cons]at hl;omega
  rcases cs with _|⟨c11,cs⟩
  ·simp only [List.length_nil,List.length_cons]at hl;omega
  obtain rfl:=(show IsD w c0 (.val (.int .i64 p.e.t))from hd 0 (by simp only [List.length_cons];omega)).val_eq
  obtain rfl:=(show IsD w c1 (.val (.int .i64 p.e.s))from hd 1 (by simp only [List.length_cons];omega)).val_eq
  obtain rfl:=(show IsD w c2 (.val (.int .i64 p.e.q))from hd 2 (by simp only [List.length_cons];omega)).val_eq
  obtain rfl:=(show IsD w c3 (.val (.int .i64 p.e.d))from hd 3 (by simp only [List.length_cons];omega)).val_eq
  obtain rfl:=(show IsD w c4 (.val (.int .i64 p.e.k))from hd 4 (by simp only [List.length_cons];omega)).val_eq
  obtain rfl:=(show IsD w c5 (.val (.int .i64 p.e.v))from hd 5 (by simp only [List.length_cons];omega)).val_eq
  obtain rfl:=(show IsD w c6 (.val (.int .i64 p.e.g))from hd 6 (by simp only [List.length_cons];omega)).val_eq
  have h7:IsD w c7 (yaq p.b.r):=hd 7 (by simp only [List.length_cons];omega)
  obtain rfl:=(show IsD w c8 (.val (.int .i64 p.b.q))from hd 8 (by simp only [List.length_cons];omega)).val_eq
  obtain rfl:=(show IsD w c9 (.val (.int .i64 p.b.d))from hd 9 (by simp only [List.length_cons];omega)).val_eq
  have h10:IsD w c10 (evsD p.s):=hd 10 (by simp only [List.length_cons];omega)
  have h11:IsD w c11 (emsD p.x):=hd 11 (by simp only [List.length_cons];omega)
  obtain⟨L,e1,e2,e3⟩:=yqc (l:=l) (cs:=cs) (fun q hq=>hok q (List.mem_cons_of_mem _ hq)) (by simp only [List.length_cons]at hl;omega) (fun j hj=>by
   have h:=hd (12+j) (by simp only [List.length_cons];omega)
   have ef:ya3 (p::l) (12+j)=ya3 l j:=by
    unfold ya3
    rw [show(12+j)/12=j/12+1 by omega,show(12+j)%12=j%12 by omega]
    rfl
   rw [ef]at h
   have en:∀a:List Value,a.length=12→nthV (a++cs) (12+j)=nthV cs j:=fun a ha=>by
    unfold nthV
    simp [List.getElem?_append_right (show a.length≤12+j by omega),ha]
   have h9:=en [.int .i64 p.e.t,.int .i64 p.e.s,.int .i64 p.e.q,.int .i64 p.e.d,.int .i64 p.e.k,.int .i64 p.e.v,.int .i64 p.e.g,c7,.int .i64 p.b.q,.int .i64 p.b.d,c10,c11] rfl
   rw [←h9]
   exact h)
  refine⟨⟨(p,c7,c10,c11),hok p (List.mem_cons_self ..),yt9 h7,yt9 h10,yt9 h11⟩::L,?_,?_,?_⟩
  ·show p::psOf L=_
   rw [e1]
  ·show encP _++ybj L=_
   rw [e2]
   rfl
  ·intro x hx
   rcases List.mem_cons.1 hx with rfl|hx
   ·exact⟨h7,h10,h11⟩
   ·exact e3 x hx
theorem yoh {w:World} {x:Value} {l:List Ps} (hok:∀p∈l,p.e.ok=true) (h:IsD w x (yay l)):∃L:List PsF,psOf L=l∧SrcC w x 12 L.length (ybj L)∧ ∀y∈L,PsR w y:=by
 obtain⟨cs,h1,h2⟩:=IsD.cells h
 obtain⟨L,e1,e2,e3⟩:=yqc hok h1.1 h2
 refine⟨L,e1,?_,e3⟩
 rw [e2,←yc8,e1]
 exact h1
theorem yif [Inhabited PsF]:∀(l:List PsF) (t:Nat),t<l.length*12→(ybj l)[t]? =(encP (l[t/12]!))[t%12]?
 | [],t,h=>by simp at h
 |e::l,t,h=>by
  have hl:(encP e).length=12:=rfl
  show(encP e++ybj l)[t]? =_
  by_cases ht:t<12
  ·rw [List.getElem?_append_left (by omega),show t/12=0 by omega,show t%12=t by omega]
   rfl
  ·rw [List.getElem?_append_right (by omega),hl,yif l (t-12) (by simp at h;omega),show t/12=(t-12)/12+1 by omega,show t%12=(t-12)%12 by omega]
   rfl
theorem flat_P [Inhabited PsF] (d:Array PsF):(flatK encP 12 d).toList=ybj d.toList:=by
 refine List.ext_getElem? fun t=> ?_
 by_cases ht:t<d.size*12
 ·rw [yif _ _ (by rw [Array.length_toList];exact ht)]
  have hs:t<(flatK encP 12 d).size:=by simpa using ht
  have h7:t%12<(encP d[t/12]!).length:=by rw [ylx];omega
  have hg:=get_flatK encP 12 d t ht
  rw [getElem!_pos (flatK encP 12 d) t hs,getElem!_pos (encP d[t/12]!) (t%12) h7]at hg
  rw [Array.getElem?_toList,Array.getElem?_eq_getElem hs,hg]
  have hi:t/12<d.size:=by omega
  rw [getElem!_pos d.toList (t/12) (by simpa using hi),←List.getElem?_eq_getElem h7,getElem!_pos d (t/12) hi]
  rfl
 ·rw [List.getElem?_eq_none (by simp;omega),List.getElem?_eq_none (by rw [ye9,Array.length_toList];omega)]
theorem yqg {w:World} {B:Nat} {e:TypeId} {size n cap g:Nat} {xs:List Value} (h:w.ownsRow B e size (.slice (some ⟨g,0,none⟩) n cap) n xs):∃cur:Array Value,w.heap[g]? =some (.cells cur e (0,0))∧B≤g∧n≤cap∧cap≤maxLen∧cur.size=cap*size∧cur.toList.take (n*size)=xs:=by
 rcases h.2 with ⟨h',_⟩|⟨g',cap',cur,h',h1,h2,h3,h4,h5,h6⟩
 ·cases h'
 ·cases h'
  exact⟨cur,h2,h1,h3,h4,h5,h6⟩
theorem holdsP [Inhabited PsF] {B g cap:Nat} {d:Array PsF} {w:World} (h:w.ownsRow B 115 12 (.slice (some ⟨g,0,none⟩) d.size cap) d.size (ybj d.toList)):HoldsK encP 12 w g 0 d:=by
 obtain⟨cur,hg,hBg,hnc,hcm,hcs,htk⟩:=yqg h
 intro j hj
 have hj2:j<d.size*12:=by simpa using hj
 have h1:cur[j]? =some ((flatK encP 12 d)[j]!):=by
  have h2:(cur.toList.take (d.size*12))[j]? =(flatK encP 12 d).toList[j]? :=by rw [htk,flat_P]
  rw [List.getElem?_take_of_lt hj2,Array.getElem?_toList,Array.getElem?_toList,Array.getElem?_eq_getElem hj]at h2
  rw [h2,getElem!_pos (flatK encP 12 d) j hj]
 rw [Nat.zero_add]
 refine⟨?_,?_⟩
 ·unfold World.cell?
  rw [hg]
  simpa using h1
 ·unfold World.frozen?
  rw [hg]
  simp
theorem yoa [Inhabited PsF] {B g cap n:Nat} {d d':Array PsF} {w:World} {os:Array Obj} (h:w.ownsRow B 115 12 (.slice (some ⟨g,0,none⟩) d.size cap) d.size (ybj d.toList)) (hs:d'.size=d.size):
  (sortWorldK encP 12 w g 0 n d' os).ownsRow B 115 12 (.slice (some ⟨g,0,none⟩) d'.size cap) d'.size (ybj d'.toList)∧Turns (fun k=>k=g) w (sortWorldK encP 12 w g 0 n d' os):=by
 obtain⟨cur,hg,hBg,hnc,hcm,hcs,htk⟩:=yqg h
 have hlt:g<w.heap.size:=(Array.getElem?_eq_some_iff.1 hg).1
 have hh:(sortWorldK encP 12 w g 0 n d' os).heap=(w.heap.modify g (onCells (putCells id 0 (flatK encP 12 d'))))++os:=rfl
 have hz:(w.heap.modify g (onCells (putCells id 0 (flatK encP 12 d')))).size=w.heap.size:=by simp
 have hfs:(flatK encP 12 d').size=d'.size*12:=by simp
 have hmul:d'.size*12≤cap*12:=Nat.mul_le_mul_right _ (by omega)
 refine⟨⟨by rw [ye9,Array.length_toList],.inr ⟨g,cap,putCells id 0 (flatK encP 12 d') cur,rfl,hBg,?_,by omega,hcm,?_,?_⟩⟩,⟨rfl,rfl,rfl,?_,fun k hk hne=> ?_⟩⟩
 ·rw [hh,Array.getElem?_append_left (by omega),Array.getElem?_modify,if_pos rfl,hg]
  rfl
 ·unfold putCells
  simpa using hcs
 ·rw [←flat_P]
  refine List.ext_getElem? fun t=> ?_
  by_cases ht:t<d'.size*12
  ·have hc:t<cur.size:=by omega
   rw [List.getElem?_take_of_lt ht,Array.getElem?_toList,Array.getElem?_toList,Array.getElem?_eq_getElem (by omega:t<(flatK encP 12 d').size)]
   unfold putCells
   rw [Array.getElem?_mapIdx,Array.getElem?_eq_getElem hc,Option.map_some,if_pos ⟨Nat.zero_le _,by omega⟩,Nat.sub_zero,getElem!_pos (flatK encP 12 d') t (by omega)]
   rfl
  ·rw [List.getElem?_eq_none (by rw [List.length_take];omega),List.getElem?_eq_none (by simp;omega)]
 ·rw [hh]
  simp
 ·rw [hh,Array.getElem?_append_left (by omega),Array.getElem?_modify,if_neg (fun e=>hne e.symm)]
def yvw (B:Nat) (vt:Value) (L:List PsF) (w w':World) (e:Ending):Prop:=e= .returned (.tuple #[])∧ ∃l':List PsF,l'.Perm L∧l'.Pairwise (fun x y=>¬cmpP y x<0)∧w'.ownsRow B 115 12 vt l'.length (ybj l')∧Turns (fun k=>vt.ownBlock=some k) w w'
end Go.Proofs.YtmobiieoecjmdaaGreat

namespace Go.Proofs.YtmobiieoecjmdaaGreat
open Go.RowKit
def cutN (g:Option Ev):List Ps→Nat
 | []=>0
 |p::l=>if ydk g p.e=true then cutN g l+1 else 0
theorem yly (g:Option Ev):∀l:List Ps,CutO g l (cutN g l)
 | []=>⟨Nat.le_refl _,fun j hj=>by simp [cutN]at hj,fun h=>by simp at h⟩
 |p::l=>by
  have ih:=yly g l
  by_cases h:ydk g p.e=true
  ·have e:cutN g (p::l)=cutN g l+1:=by simp [cutN,h]
   rw [e]
   refine⟨by simp only [List.length_cons];have:=ih.le;omega,fun j hj=> ?_,fun hj=> ?_⟩
   ·cases j with
    |zero=>exact h
    |succ j=>exact ih.lo j (by omega)
   ·exact ih.hi (by simp only [List.length_cons]at hj;omega)
  ·have e:cutN g (p::l)=0:=by simp [cutN,h]
   rw [e]
   exact⟨Nat.zero_le _,fun j hj=>by omega,fun _=>(Bool.not_eq_true _).mp h⟩
theorem CutO.eq {g:Option Ev} {l:List Ps} {c:Nat} (h:CutO g l c):c=cutN g l:=by
 have k:=yly g l
 have h0:=h.le
 have k0:=k.le
 rcases Nat.lt_trichotomy c (cutN g l)with hl|he|hl
 ·have a:=h.hi (by omega)
  rw [k.lo c hl]at a
  cases a
 ·exact he
 ·have a:=k.hi (by omega)
  rw [h.lo _ hl]at a
  cases a
def setL (k:Kn) (j:Nat):List Ps:=remL (fun i=>(paAt k.p i).p) (fun i=>cutN (gvtE k) (paAt k.p i).p) (fun _=>0) j
theorem yta (k:Kn):setL k 0= []:=rfl
theorem yml (k:Kn) (j:Nat):setL k (j+1)=setL k j++(paAt k.p j).p.take (cutN (gvtE k) (paAt k.p j).p):=by
 unfold setL
 rw [ygj,List.drop_zero]
theorem yl8 (k:Kn) (h:∀i,i<k.p.length→(paAt k.p i).p.length≤200):∀j,j≤k.p.length→(setL k j).length≤200*j
 |0,_=>by simp [yta]
 |j+1,hj=>by
  have ih:=yl8 k h j (by omega)
  have h2:=h j (by omega)
  rw [yml,List.length_append,List.length_take]
  omega
theorem yjj {p:Pa} (hp:p.ok=true):p.p.length≤200∧ ∀q∈p.p,q.e.ok=true:=by
 have hS:=(yhv p).2 (by unfold Pa.ok at hp;simpa using hp)
 refine⟨hS.1.2.2.2.1,fun q hq=> ?_⟩
 obtain⟨i,hi,e⟩:=List.getElem_of_mem hq
 have h:=(hS.2.1 i hi).1
 have e2:psAt p.p i=q:=by
  have h1:=ymt hi
  rw [List.getElem?_eq_getElem hi,e]at h1
  exact(Option.some.inj h1).symm
 rw [e2]at h
 exact h
theorem yog (a b:List PsF):psOf (a++b)=psOf a++psOf b:=by simp [psOf]
set_option maxHeartbeats 4000000
set_option maxRecDepth 100000
open Go.RowKit Go.Shelf Go.Lib Go.Sort
theorem aggP (w:World):(isAgg 115).run Tryz.prog w= .ok true w:=by simp [isAgg,go_sem]
theorem sizP (w:World):(Go.sizeOf 115).run Tryz.prog w= .ok 12 w:=by
 obtain⟨i0,hi,hz0,hz1,hz2⟩:=info_parts yuk
 simp [Go.sizeOf,typeInfo,hi,hz1]
theorem bitsP (n:Nat) (W:World) (h:n≤12):Calls Tryz.prog (Tryz.sortPs_ren.f 15) #[.int .u64 n] W fun e w'=>(∃l:Int,e= .returned (.int .i64 l))∧w'=W:=
 (Any.bits_Len (SlLaysF0.n15.bits (P:=Tryz.prog) (ρ:=Tryz.sortPs_ren) {Tryz.sortPs with}) n W (by omega) (by omega)).mono fun _ _ ⟨he,hw⟩=>⟨⟨_,he⟩,hw⟩
theorem yt7 [Inhabited PsF] (blk off cap:Nat) (d:Array PsF) (w:World) (hH:HoldsK encP 12 w blk off d) (hblk:blk<w.heap.size) (hz:d.size<4611686018427387904):
  Calls Tryz.prog 121 #[.slice (some ⟨blk,off,none⟩) d.size cap,.func (.func 122) #[] #[]] w fun e w'=>e= .returned (.tuple #[])∧ ∃d' n os,PermIn 0 d.size d d'∧SortedIn (ltOf cmpP) 0 d.size d'∧w'=sortWorldK encP 12 w blk off n d' os:=by
 have eg:∀args w,(callFunc 122 args).run Tryz.prog w= .ok (.enter 122 args) w:=enters_of Tryz.func122 (by kernel_rfl) rfl
 have hcon:=AnyQ.slices_SortFunc Tryz.sortPs 12 aggP sizP encP (fun x=>ylx x) (fun x=>yq7 x) cmpP swoP 122 #[] blk off cap d w eg (fun _ _ _ _ x y=>(psCmpD x y _).mono fun _ _ ⟨h1,h2,h3⟩=>⟨h1,lay_of h2 h3⟩) hH hblk hz
 exact hcon
theorem yt4 [Inhabited PsF] (B g cap:Nat) (l:List PsF) (w:World) (hz:l.length<4611686018427387904) (h:w.ownsRow B 115 12 (.slice (some ⟨g,0,none⟩) l.length cap) l.length (ybj l)):
  Calls Tryz.prog 121 #[.slice (some ⟨g,0,none⟩) l.length cap,.func (.func 122) #[] #[]] w fun e w'=>yvw B (.slice (some ⟨g,0,none⟩) l.length cap) l w w' e:=by
 obtain⟨d,rfl⟩:∃d:Array PsF,d.toList=l:=⟨l.toArray,by simp⟩
 rw [Array.length_toList]at h hz⊢
 have hlt:g<w.heap.size:=by
  obtain⟨cur,hg,_⟩:=yqg h
  exact(Array.getElem?_eq_some_iff.1 hg).1
 refine(yt7 g 0 cap d w (holdsP h) hlt hz).mono ?_
 rintro e w' ⟨rfl,d',n,os,hp,hs,rfl⟩
 obtain⟨q1,q2⟩:=yoa (n:=n) (os:=os) h hp.1
 have hd9:d'.size=d.size:=hp.1
 refine⟨rfl,d'.toList,?_,?_,?_,q2.mono (fun k hk=>by simp [Value.ownBlock,hk])⟩
 ·have h9:=hp.2.2
  rw [show d'.extract 0 d.size=d' by rw [←hp.1];simp,show d.extract 0 d.size=d by simp]at h9
  exact h9
 ·rw [List.pairwise_iff_getElem]
  intro i j hi hj hij
  rw [Array.length_toList]at hi hj
  have h9:=hs i j (Nat.zero_le _) hij (by rw [←hp.1];exact hj)
  rw [getElem!_pos d' j hj,getElem!_pos d' i hi]at h9
  rw [Array.getElem_toList,Array.getElem_toList]
  exact of_decide_eq_false h9
 ·rw [Array.length_toList]
  rw [hd9]at q1⊢
  exact q1
theorem insP_nil (f:Value) (w:World):Calls Tryz.prog 202 #[.slice none 0 0,.int .i64 0,.int .i64 0,f] w fun e w'=>e= .returned (.tuple #[])∧w'=w:=by
 go_enter Tryz.func202,Tryz.ntmps202
 go_wp2
 go_loopw [8] (fun i wr=>i= .int .i64 1∧wr=w) (fun _ _=>0)
 case atStart=>exact⟨rfl,rfl⟩
 case round=>
  obtain⟨rfl,rfl⟩:=hrel
  go_wp2
  go_end0
  exact⟨rfl,rfl⟩
theorem pdqP_nil (l:Int) (f:Value) (w:World):Calls Tryz.prog 171 #[.slice none 0 0,.int .i64 0,.int .i64 0,.int .i64 l,f] w fun e w'=>e= .returned (.tuple #[])∧w'=w:=by
 go_enter Tryz.func171,Tryz.ntmps171
 go_wp2
 go_loopw [1,2] (fun a b wr=>a= .int .i64 0∧b= .int .i64 0∧wr=w) (fun _ _ _=>0)
 case atStart=>exact⟨rfl,rfl,rfl⟩
 case round=>
  obtain⟨rfl,rfl,rfl⟩:=hrel
  go_wp2_with (go_at_call 202;refine(insP_nil _ _).mono ?_;rintro e w1 ⟨rfl,rfl⟩)
  refine bodyPost_ret (results_none rfl _ _ _) rfl ?_
  exact⟨rfl,rfl⟩
theorem yt6 (f:Value) (w:World):Calls Tryz.prog 121 #[.slice none 0 0,f] w fun e w'=>e= .returned (.tuple #[])∧w'=w:=by
 go_enter Tryz.func121,Tryz.ntmps121
 go_wp2_with (first|(go_at_call 172;refine(bitsP 0 _ (by omega)).mono ?_;rintro e w1 ⟨⟨lb,rfl⟩,rfl⟩)|(go_at_call 171;refine(pdqP_nil _ _ _).mono ?_;rintro e w2 ⟨rfl,rfl⟩))
 go_end0
 exact⟨rfl,rfl⟩
theorem yt5 [Inhabited PsF] (B:Nat) (vt:Value) (L:List PsF) (w:World) (hz:L.length<4611686018427387904) (h:w.ownsRow B 115 12 vt L.length (ybj L)):
  Calls Tryz.prog 121 #[vt,.func (.func 122) #[] #[]] w fun e w'=>yvw B vt L w w' e:=by
 have h0:=h
 obtain⟨_,⟨rfl,hn⟩|⟨g,cap,cur,rfl,_⟩⟩:=h
 ·obtain rfl:=List.eq_nil_of_length_eq_zero hn
  refine(yt6 _ _).mono ?_
  rintro e w' ⟨rfl,hw⟩
  rw [hw]
  exact⟨rfl,[],List.Perm.refl _,List.Pairwise.nil,h0,Turns.refl _ _⟩
 ·exact yt4 B g cap L w hz h0
theorem ymh {P:Program} {md:Region.Mode} {ops:Array Oper} {Q:Exit→Act→World→Prop} {S:World→Prop} {fuel:Nat} {listed:Array Bool} {a:Act} {w:World} (i:Nat) (oi:Oper) (v:Value)
 (h:wpAnyH P md ops Q S fuel (listed.setIfInBounds i true) (a.put oi.dst v) w) (hi:ops[i]? =some oi:=by rfl)
 (hs:Region.noSelect ops=true:=by kernel_rfl) (hf:Region.free md ops listed i=true:=by kernel_rfl) (hr:(Region.ready md ops listed).contains i=true:=by kernel_rfl)
 (hQ:∀c a w,Q (.panic c) (a.put oi.dst v) w→Q (.panic c) a w:=by exact fun _ _ _ h=>h)
 (hy:YieldsIf P ops S oi v a:=by exact Or.inl ⟨by rfl,by(intro wX hSw;(try dsimp only at hSw);go_simp;(try exact IntWalk.i64_in _ (by omega)))⟩) (hS:S w:=by assumption):wpAnyH P md ops Q S (fuel+1) listed a w:=
 wpAnyH_take hi hs hf hr hQ hy hS h
theorem ybn {p:Prop} (h:p):Hid p:=h
set_option maxRecDepth 100000 in
set_option maxHeartbeats 16000000 in
theorem iSettled [Inhabited PsF] (x:Value) (k:Kn) (w0 w:World) (hz:Below w0.heap.size w0 w) (hs:ybt k) (hok:∀i,i<(gvtL k).length→(evAt (gvtL k) i).ok=true) (hpo:∀i,i<k.p.length→(paAt k.p i).ok=true) (hgo:∀g,gvtE k=some g→g.ok=true) (h:IsKern w0 x k):
  Calls Tryz.prog 65 #[x] w fun e w'=>∃(y:Value) (L:List PsF),e= .returned y∧(psOf L).Perm (setL k k.p.length)∧(psOf L).Pairwise leP∧w'.ownsRow w.heap.size 115 12 y L.length (ybj L)∧(∀z∈L,PsR w0 z)∧Below w.heap.size w w':=by
 have HOK:=ybn hok
 have HPO:=ybn hpo
 have HGG:=ybn hgo
 have HSK:Hid (ybt k):=hs
 have HZ:=ybn hz
 clear hok hpo hgo hz
 obtain⟨HSM0,hsk⟩:=hs
 obtain⟨hdl,hpl,hbl,hsl,hxl⟩:=yda hsk
 have HWP:=ybn (yd0 hsk)
 clear hsk HSM0
 obtain⟨ai,ci,ah,ch,ae,ce,ad,cd,ap,cp,ab,cb,au,cu,ax,cx,rfl,hm,hd,hp,hbg,hsu,hx⟩:=h.form
 have HPP:=ybn hp
 have HK:=ybn h
 clear hm hd hp hbg hsu hx h hsl
 obtain⟨ip,hip,hip0,hip1,hip2⟩:=info_parts yuk
 obtain⟨W0,hW0⟩:∃W0,w.alloc (.cells #[.int .i64 k.m.n,.int .i64 k.m.s,.slice ai k.m.i.length ci,.slice ah k.m.h.length ch,.slice ae k.m.e.length ce,.int .i64 k.m.z,.slice ad k.d.length cd,.slice ap k.p.length cp,.slice ab k.b.length cb,.int .i64 k.t,.int .i64 k.q,.bool k.f,.slice au k.s.length cu,.slice ax k.x.length cx] 57)=W0:=⟨_,rfl⟩
 have HB0:=hdq (beA hW0)
 have HQ0:=hdq (bkA hW0)
 obtain⟨m0,m1,m2,m3,m4,m5,m6,m7,m8,m9,m10,m11,m12,m13⟩:=ydx HQ0.out
 go_enter Tryz.func65,Tryz.ntmps65
 go_wp2_with fail
 clear m0 m1 m2 m3 m4 m5 m6 m7 m8 m9 m10 m11 m12 m13 hW0
 refine(yul _ k _ HSK.out HOK.out (HK.out.under (trm HZ.out HB0.out))).mono ?_
 rintro e w1 ⟨rfl,hb1⟩
 have HB1:=trh HB0 hb1
 have HQ1:=ybn (HQ0.out.below hb1)
 clear hb1
 obtain⟨ge,gf,hg0,hg1,hg2⟩:∃(ge:Ev) (gf:Bool),retE (gvtE k)= .tuple #[.agg #[.int .i64 ge.t,.int .i64 ge.s,.int .i64 ge.q,.int .i64 ge.d,.int .i64 ge.k,.int .i64 ge.v,.int .i64 ge.g],.bool gf]∧(if gf=true then some ge else none)=gvtE k∧(gf=true→ge.ok=true):=by
  refine⟨orZ (gvtE k),(gvtE k).isSome,rfl,?_,?_⟩
  ·cases gvtE k<;>rfl
  ·intro hy
   cases hq:gvtE k with
   |none=>rw [hq]at hy;cases hy
   |some g=>exact HGG.out g hq
 have HGE:=ybn hg1
 have HGO:=ybn hg2
 rw [hg0]
 clear hg0 hg1 hg2
 obtain⟨W1,hW1⟩:∃W1,w1.alloc (.cells #[.int .i64 ge.t,.int .i64 ge.s,.int .i64 ge.q,.int .i64 ge.d,.int .i64 ge.k,.int .i64 ge.v,.int .i64 ge.g] 110)=W1:=⟨_,rfl⟩
 have HWW:=ybn hW1
 have hb2:=beA hW1
 have HB2:=trh HB1 hb2
 have HQ2:=ybn (HQ1.out.below hb2)
 have HE2:=hdq (bkA hW1)
 obtain⟨B,hB⟩:∃B,B=W1.heap.size:=⟨_,rfl⟩
 have hB1:B≤W1.heap.size:=by omega
 have hB2:w.heap.size<B:=by rw [hB];exact HQ2.out.lt
 have hB3:w1.heap.size<B:=by rw [hB];exact HE2.out.lt
 have q7:=HQ2.out.cell (i:=7) rfl
 have hw:=HWW.out
 clear hb2 hW1 hB
 go_wp2
 clear hw q7 HWW
 go_loopw [5,16] (fun o i wr=>∃(j:Nat) (v:Value) (L:List PsF),j≤k.p.length∧v=o∧i= .int .i64 j∧wr.ownsRow B 115 12 o L.length (ybj L)∧psOf L=setL k j∧(∀y∈L,PsR w0 y)∧Below B W1 wr) (fun _ i _=>k.p.length-(intOf i).toNat)
 case atStart=>exact⟨0,_,[],Nat.zero_le _,rfl,rfl,World.ownsRow_nil W1 B 115 12,rfl,(fun y hy=>by cases hy),Below.refl _ _⟩
 case round=>
  obtain⟨j,o,L,hj,rfl,rfl,hO,hL,hR,hBr⟩:=hrel
  have HO:=ybn hO
  have HL:Hid (psOf L=setL k j):=hL
  have HR:Hid (∀y∈L,PsR w0 y):=hR
  have HBB:Hid (Below B W1 wr):=hBr
  have HBr:=ybn (HB2.out.trans (hBr.mono (by omega)))
  have HBz:=trh HZ HBr.out
  have hs1:B≤wr.heap.size:=Nat.le_trans hB1 hBr.size
  have H2A:Hid (∀i,i<k.p.length→(paAt k.p i).p.length≤200):=fun i hi=>(yjj (HPO.out i hi)).1
  have hLL:L.length≤209715200:=by
   rw [←yc8,hL]
   have:=yl8 k H2A.out j hj
   omega
  clear hO hL hR hBr
  by_cases hlt:j<k.p.length
  ·obtain⟨b,off,rfl,hb,hPA⟩:=HPP.out.resolve_left (by intro e;rw [e]at hlt;simp at hlt)
   obtain⟨a1,c1,a4,c4,a5,c5,a6,c6,hp⟩:=hPA j hlt
   have f0:=cst HBz.out hb hp.f0
   have f1:=cst HBz.out hb hp.f1
   have f2:=cst HBz.out hb hp.f2
   have f3:=cst HBz.out hb hp.f3
   have f4:=cst HBz.out hb hp.f4
   have f5:=cst HBz.out hb hp.f5
   have f6:=cst HBz.out hb hp.f6
   have HD4:=ybn hp.d4
   have HCAP:Hid ((paAt k.p j).p.length≤c4):=by
    obtain⟨a,cap,e1,e2,_⟩:=IsD.parts (c:=12) (n:=(paAt k.p j).p.length) hp.d4
    cases e1
    exact e2
   have HOKP:=ybn (HPO.out j hlt)
   have HOKE:=ybn ((yjj HOKP.out).2)
   have H200:=ybn ((yjj HOKP.out).1)
   have HW9:=ybn (Nat.le_succ_of_le (HWP.out j hlt))
   obtain⟨V,hV⟩:∃V,wr.alloc (.cells #[.int .i64 (paAt k.p j).n,.slice a1 (paAt k.p j).st.r.length c1,.int .i64 (paAt k.p j).st.q,.int .i64 (paAt k.p j).st.d,.slice a4 (paAt k.p j).p.length c4,.slice a5 (paAt k.p j).t.length c5,.slice a6 (paAt k.p j).a.length c6] 97)=V:=⟨_,rfl⟩
   have HVV:=ybn hV
   have hbv:=beA hV
   have HBV:Hid (Below B W1 V):=HBB.out.trans (hbv.mono hs1)
   have hsV:B≤V.heap.size:=Nat.le_trans hB1 HBV.out.size
   have HBw:=trh HBz hbv
   have HP:=hdq (bkA hV)
   have HE:=ybn ((HE2.out.lowB HBB.out hB3).below hbv)
   have HOV:Hid (V.ownsRow B 115 12 o L.length (ybj L)):=hV▸HO.out.alloc _
   have HPV:=ybn ((hp.isPart.under HBw.out).under ((Below.refl _ V).drew))
   clear hV hbv hp hPA
   go_upto_region 6 with fail
   rw [HVV.out]
   clear HVV f0 f1 f2 f3 f4 f5 f6
   refine wp_region_held_drew (S:=fun W=>W.cell? ⟨wr.heap.size,0,none⟩=some (.int .i64 (paAt k.p j).n)∧W.cell? ⟨wr.heap.size,1,none⟩=some (.slice a1 (paAt k.p j).st.r.length c1)∧W.cell? ⟨wr.heap.size,2,none⟩=some (.int .i64 (paAt k.p j).st.q)∧W.cell? ⟨wr.heap.size,3,none⟩=some (.int .i64 (paAt k.p j).st.d)∧W.cell? ⟨wr.heap.size,4,none⟩=some (.slice a4 (paAt k.p j).p.length c4)∧W.cell? ⟨wr.heap.size,5,none⟩=some (.slice a5 (paAt k.p j).t.length c5)∧W.cell? ⟨wr.heap.size,6,none⟩=some (.slice a6 (paAt k.p j).a.length c6)∧W.cell? ⟨w1.heap.size,0,none⟩=some (.int .i64 ge.t)∧W.cell? ⟨w1.heap.size,1,none⟩=some (.int .i64 ge.s)∧W.cell? ⟨w1.heap.size,2,none⟩=some (.int .i64 ge.q)∧W.cell? ⟨w1.heap.size,3,none⟩=some (.int .i64 ge.d)∧W.cell? ⟨w1.heap.size,4,none⟩=some (.int .i64 ge.k)∧W.cell? ⟨w1.heap.size,5,none⟩=some (.int .i64 ge.v)∧W.cell? ⟨w1.heap.size,6,none⟩=some (.int .i64 ge.g)) (by kernel_rfl) ⟨HP.out.drew.cell rfl,HP.out.drew.cell rfl,HP.out.drew.cell rfl,HP.out.drew.cell rfl,HP.out.drew.cell rfl,HP.out.drew.cell rfl,HP.out.drew.cell rfl,HE.out.drew.cell rfl,HE.out.drew.cell rfl,HE.out.drew.cell rfl,HE.out.drew.cell rfl,HE.out.drew.cell rfl,HE.out.drew.cell rfl,HE.out.drew.cell rfl⟩ (fun hHeld=> ?_)
   refine ymh 0 {dst:=some 20,op:=Op.move (Operand.tmp 5),type:=95,pos:=_,after:=_,guard:=none} o ?_
   try simp only [Act.put,q1,q2,q3]
   refine ymh 1 {dst:=some 21,op:=Op.fieldAddr 97 (Operand.tmp 7) 2,type:=0,pos:=_,after:=_,guard:=none} (.pointer (some ⟨wr.heap.size,4,none⟩)) ?_
   try simp only [Act.put,q1,q2,q3]
   refine ymh 2 {dst:=some 22,op:=Op.load 95 (Operand.tmp 21),type:=95,pos:=_,after:=_,guard:=none} (.slice a4 (paAt k.p j).p.length c4) ?_
   try simp only [Act.put,q1,q2,q3]
   refine ymh 3 {dst:=some 23,op:=Op.load 97 (Operand.tmp 7),type:=97,pos:=_,after:=_,guard:=none} (.agg #[.int .i64 (paAt k.p j).n,.slice a1 (paAt k.p j).st.r.length c1,.int .i64 (paAt k.p j).st.q,.int .i64 (paAt k.p j).st.d,.slice a4 (paAt k.p j).p.length c4,.slice a5 (paAt k.p j).t.length c5,.slice a6 (paAt k.p j).a.length c6]) ?_
   try simp only [Act.put,q1,q2,q3]
   refine ymh 4 {dst:=some 24,op:=Op.load 110 (Operand.tmp 3),type:=110,pos:=_,after:=_,guard:=none} (.agg #[.int .i64 ge.t,.int .i64 ge.s,.int .i64 ge.q,.int .i64 ge.d,.int .i64 ge.k,.int .i64 ge.v,.int .i64 ge.g]) ?_
   try simp only [Act.put,q1,q2,q3]
   refine ymh 5 {dst:=some 25,op:=Op.move (Operand.tmp 4),type:=4,pos:=_,after:=_,guard:=none} (.bool gf) ?_
   try simp only [Act.put,q1,q2,q3]
   refine wpAnyH_ready (rs:= [6]) (by kernel_rfl) (by simp) ?_
   refine AllReadyH.cons rfl (fun K hK=> ?_) AllReadyH.nil
   go_simp
   go_at_call 120
   refine(yl7 _ (paAt k.p j) ge gf V.drew HW9.out HOKP.out HGO.out HPV.out).mono ?_
   rintro r w2 ⟨c,rfl,hc,hb2⟩
   rw [HGE.out]at hc
   have HC:=ybn hc
   have HB2:Hid (Below V.heap.size V w2):=(Below.refl _ V).drew.trans hb2
   have HP2:=ybn (HP.out.drew.below hb2)
   have HE2:=ybn (HE.out.drew.below hb2)
   have HO2:=ybn (owB HOV.out HB2.out)
   clear hc hb2
   obtain⟨U,hU⟩:∃U,sliced a4 0 c c4 12=U:=⟨_,rfl⟩
   have hcl:c≤c4:=Nat.le_trans HC.out.le HCAP.out
   have hUD:IsD w0 U (yay ((paAt k.p j).p.take c)):=hU▸yrg HD4.out HC.out.le
   have hsl:∀w:World,(Instr.sliceAt 95 (.slice a4 (paAt k.p j).p.length c4) none (some (.int .i64 (c:Int))) none).run Tryz.prog w= .ok U w:=fun w=>hU▸ytg _ _ _ _ hcl w
   obtain⟨LU,hL1,hL2,hL3⟩:=yoh (fun q hq=>HOKE.out q (List.mem_of_mem_take hq)) hUD
   have HL1:=ybn hL1
   have HL3:Hid (∀y∈LU,PsR w0 y):=hL3
   have HLS:=ybn ((hL2.below HBw.out).below HB2.out)
   have hlu:LU.length≤200:=by(rw [←yc8,hL1,List.length_take];have:=HC.out.le;have:=HC.out.le;have:=H200.out;omega)
   clear hU hUD hL1 hL2 hL3 hcl
   refine hK.out _ _ ⟨HP2.out.cell rfl,HP2.out.cell rfl,HP2.out.cell rfl,HP2.out.cell rfl,HP2.out.cell rfl,HP2.out.cell rfl,HP2.out.cell rfl,HE2.out.cell rfl,HE2.out.cell rfl,HE2.out.cell rfl,HE2.out.cell rfl,HE2.out.cell rfl,HE2.out.cell rfl,HE2.out.cell rfl⟩ (fun hHeld=> ?_)
   clear hK K
   try simp only [Act.put,q1,q2,q3]
   refine ymh 7 {dst:=some 27,op:=Op.slice 95 (Operand.tmp 22) none (some (Operand.tmp 26)) none,type:=95,pos:=_,after:=_,guard:=none} U ?_
   try simp only [Act.put,q1,q2,q3]
   refine wpAnyH_ready (rs:= [8]) (by kernel_rfl) (by simp) ?_
   refine AllReadyH.cons rfl (fun K hK=> ?_) AllReadyH.nil
   refine ydb (w:=w2) rfl (.tmp 20) (.tmp 27) 95 rfl B 115 ip _ 12 144 Tryz.underlying95 hip hip0 hip1 hip2 rfl (by decide) o (L.length) (ybj L) rfl HO2.out U (LU.length) (ybj LU) rfl HLS.out (ysj LU) (by unfold maxLen;omega) (by omega) (Nat.le_trans hsV HB2.out.size) ?_
   intro vn w3 hown hgrow hnew
   have hgt:=yan hgrow
   have HP3:=ybn (HP2.out.turns hgt (ydd HO2.out HP2.out (by decide)))
   have HE3:=ybn (HE2.out.turns hgt (ydd HO2.out HE2.out (by decide)))
   have HO3:Hid (w3.ownsRow B 115 12 vn (L++LU).length (ybj (L++LU))):=by(rw [yi0,List.length_append];exact hown)
   have HB3:Hid (Below B W1 w3):=(HBV.out.trans (HB2.out.mono hsV)).grown hgrow (Nat.le_trans hsV HB2.out.size) (fun q e=>ybf HO2.out e)
   clear hown hgrow hnew hgt
   refine hK.out _ _ ⟨HP3.out.cell rfl,HP3.out.cell rfl,HP3.out.cell rfl,HP3.out.cell rfl,HP3.out.cell rfl,HP3.out.cell rfl,HP3.out.cell rfl,HE3.out.cell rfl,HE3.out.cell rfl,HE3.out.cell rfl,HE3.out.cell rfl,HE3.out.cell rfl,HE3.out.cell rfl,HE3.out.cell rfl⟩ (fun hHeld=> ?_)
   clear hK K
   try simp only [Act.put,q1]
   refine ymh 9 {dst:=some 5,op:=Op.assign (Operand.tmp 28),type:=95,pos:=_,after:=_,guard:=none} vn ?_
   try simp only [Act.put]
   refine wpAnyH_done (by kernel_rfl) ?_ _
   clear hHeld
   go_wp2
   go_roundw
   case rel=>
    refine⟨j+1,vn,L++LU,by omega,rfl,by go_num,HO3.out,?_,fun y hy=> ?_,HB3.out⟩
    ·rw [yog,HL.out,HL1.out,yml,←HC.out.eq]
    ·rcases List.mem_append.1 hy with h9|h9
     ·exact HR.out y h9
     ·exact HL3.out y h9
   case measure=>simp [intOf];omega
  ·obtain rfl:k.p.length=j:=by omega
   go_wp2_with fail
   refine(yt5 B o L _ (by omega) HO.out).mono ?_
   rintro e w5 ⟨rfl,L',hp,hs,ho,ht⟩
   have HP5:Hid (L'.Perm L):=hp
   have HS5:=ybn hs
   have HO5:=ybn ho
   have HB5:=ybn (HBr.out.trans (ht.to_below (fun q e=>Nat.le_trans (Nat.le_of_lt hB2) (ybf HO.out e)) HBr.out.size))
   clear hp hs ho ht
   go_wp2
   go_ret
   refine⟨_,L',rfl,?_,?_,yb5 HO5.out (by omega),fun z hz=>HR.out z (HP5.out.subset hz),HB5.out⟩
   ·rw [←HL.out]
    exact HP5.out.map _
   ·exact List.pairwise_map.2 (HS5.out.imp (fun h=>Int.not_lt.2 h))
theorem yhq {k:Kn} (h:k.ok=true):∀i,i<k.p.length→(paAt k.p i).ok=true:=fun i hi=>(partI_iff.1 ((partsKB_iff.1 (kern_iff.1 h).2.2.2.2.2.1).2 i hi)).2.1
theorem kn_gvt {k:Kn} (h:k.ok=true):∀e,e∈gvtL k→e.ok=true:=yv0 (kern_iff.1 h).2.2.2.2.2.1 (kern_iff.1 h).2.2.2.2.2.2.1
theorem yue {k:Kn} (h:k.ok=true) (g:Ev) (hg:gvtE k=some g):g.ok=true:=by
 have h2:(gvtL k).foldl yo4 none=some g:=hg
 rcases yop (gvtL k) none g h2 with h3|h3
 ·cases h3
 ·exact kn_gvt h g h3
theorem tags_pw {k:Kn} (h:k.ok=true):(yce k.p).Pairwise (fun a b=>a.g≠b.g):=by
 have h2:((allK k).map (·.g)).Nodup:=diffE_nodup.1 (kern_iff.1 h).2.2.2.2.2.2.2.1
 unfold allK at h2
 rw [List.map_append,List.nodup_append]at h2
 exact List.pairwise_map.1 h2.1
theorem ymx {l:List Pa} {i:Nat} (h:i<l.length):l[i]=paAt l i:=(getD_at _ h).symm
theorem yvb {p:Pa} {a:Nat} (h:a<p.p.length):∃hh:a<p.all.length,p.all[a]=(psAt p.p a).e:=by
 have hl:a<p.all.length:=by rw [yd9];omega
 exact⟨hl,by rw [←ybs p h];exact(getD_at _ hl).symm⟩
theorem one_tag {k:Kn} (h:k.ok=true) {i j a b:Nat} (hi:i<k.p.length) (hj:j<k.p.length) (ha:a<(paAt k.p i).p.length) (hb:b<(paAt k.p j).p.length) (he:(psAt (paAt k.p i).p a).e.g=(psAt (paAt k.p j).p b).e.g):i=j∧a=b:=by
 obtain⟨h1,h2⟩:=List.pairwise_flatMap.1 (tags_pw h)
 rw [List.pairwise_iff_getElem]at h2
 obtain⟨qa,ea⟩:=yvb ha
 obtain⟨qb,eb⟩:=yvb hb
 have ma:(psAt (paAt k.p i).p a).e∈(paAt k.p i).all:=ea▸List.getElem_mem qa
 have mb:(psAt (paAt k.p j).p b).e∈(paAt k.p j).all:=eb▸List.getElem_mem qb
 rcases Nat.lt_trichotomy i j with hl|rfl|hl
 ·have h3:=h2 i j hi hj hl
  rw [ymx hi,ymx hj]at h3
  exact absurd he (h3 _ ma _ mb)
 ·refine⟨rfl,?_⟩
  have h4:=h1 (paAt k.p i) (by rw [←ymx hi];exact List.getElem_mem hi)
  rw [List.pairwise_iff_getElem]at h4
  rcases Nat.lt_trichotomy a b with hl|rfl|hl
  ·have h5:=h4 a b qa qb hl
   rw [ea,eb]at h5
   exact absurd he h5
  ·rfl
  ·have h5:=h4 b a qb qa hl
   rw [ea,eb]at h5
   exact absurd he.symm h5
 ·have h3:=h2 j i hj hi hl
  rw [ymx hi,ymx hj]at h3
  exact absurd he.symm (h3 _ mb _ ma)
abbrev PP (k:Kn):Nat→List Ps:=fun i=>(paAt k.p i).p
abbrev ctK (k:Kn):Nat→Nat:=fun i=>cutN (gvtE k) (paAt k.p i).p
def comL (k:Kn):List Ps:=comR (PP k) k.p.length (gvtE k) (fun _=>0) (setL k k.p.length).length
theorem kn_asc {k:Kn} (h:k.ok=true):∀i,i<k.p.length→AscP (PP k i):=fun i hi=>asc_ok (yhq h i hi)
theorem ypv (k:Kn):∀i,i<k.p.length→CutO (gvtE k) (PP k i) (ctK k i):=fun _ _=>yly _ _
theorem ym0 {k:Kn} (h:k.ok=true):(comL k).Perm (setL k k.p.length)∧(comL k).Pairwise leP:=
 yvf (kn_asc h) (ypv k) _ (fun _=>0) (fun _ _=>Nat.zero_le _) (Nat.le_refl _)
theorem leP_anti {k:Kn} (h:k.ok=true) {x y:Ps} (hx:x∈setL k k.p.length) (hy:y∈setL k k.p.length) (h1:leP x y) (h2:leP y x):x=y:=by
 have hc:=ypv k
 obtain⟨i,a,hi,_,ha,rfl⟩:=yl9 (fun i hi=>(hc i hi).le) hx
 obtain⟨j,b,hj,_,hb,rfl⟩:=yl9 (fun i hi=>(hc i hi).le) hy
 have ha2:a<(paAt k.p i).p.length:=Nat.lt_of_lt_of_le ha (hc i hi).le
 have hb2:b<(paAt k.p j).p.length:=Nat.lt_of_lt_of_le hb (hc j hj).le
 have h1':¬(psAt (paAt k.p j).p b).e.cmp (psAt (paAt k.p i).p a).e<0:=h1
 have h2':¬(psAt (paAt k.p i).p a).e.cmp (psAt (paAt k.p j).p b).e<0:=h2
 rw [ygp]at h1' h2'
 obtain⟨rfl,rfl⟩:=one_tag h hi hj ha2 hb2 (by omega)
 rfl
theorem com_one {k:Kn} (h:k.ok=true) {L:List Ps} (hp:L.Perm (setL k k.p.length)) (hs:L.Pairwise leP):L=comL k:=by
 obtain⟨q1,q2⟩:=ym0 h
 exact List.Perm.eq_of_pairwise (fun a b ha hb=>leP_anti h (hp.subset ha) (q1.subset hb)) hs q2 (hp.trans q1.symm)
theorem com_step {P:Nat→List Ps} {n:Nat} {g:Option Ev} {ct nx:Nat→Nat} {f:Nat} (hasc:∀i,i<n→AscP (P i)) (hcut:∀i,i<n→CutO g (P i) (ct i)) (hnx:∀i,i<n→nx i≤ct i) (hf:(remL P ct nx n).length≤f) (hb:¬yap P nx n<0) (ha:ydk g (hdE P nx (yap P nx n).toNat)=true):
  ∃f',f=f'+1∧comR P n g nx f=psAt (P (yap P nx n).toNat) (nx (yap P nx n).toNat)::comR P n g (upN nx (yap P nx n).toNat) f'∧(∀i,i<n→upN nx (yap P nx n).toNat i≤ct i)∧(remL P ct (upN nx (yap P nx n).toNat) n).length≤f':=by
 obtain⟨h0,h1,h2⟩:=ygc P nx n
 obtain⟨k1,k2,k3⟩:=h2 (by omega)
 have hbc:nx (yap P nx n).toNat<ct (yap P nx n).toNat:=Nat.lt_of_not_le fun h=>by
  have:=(hcut _ k1).all (hasc _ k1) h k2
  unfold hdE at ha
  rw [this]at ha
  cases ha
 have hp:=(yla (P:=P) (ct:=ct) (nx:=nx) (hcut _ k1).le hbc k1).length_eq
 simp only [List.length_cons]at hp
 obtain⟨f',rfl⟩:∃f',f=f'+1:=⟨f-1,by omega⟩
 refine⟨f',rfl,?_,fun i hi=> ?_,by omega⟩
 ·rw [comR,if_neg hb,if_pos ha]
 ·unfold upN
  split
  ·next e=>rw [e];omega
  ·exact hnx i hi
theorem yve {P:Nat→List Ps} {n:Nat} {g:Option Ev} {nx:Nat→Nat} {f:Nat} (h:yap P nx n<0∨ ¬ydk g (hdE P nx (yap P nx n).toNat)=true):comR P n g nx f= []:=by
 cases f with
 |zero=>rfl
 |succ f=>
  rw [comR]
  rcases h with h|h
  ·rw [if_pos h]
  ·split
   ·rfl
   ·rfl
end Go.Proofs.YtmobiieoecjmdaaGreat

