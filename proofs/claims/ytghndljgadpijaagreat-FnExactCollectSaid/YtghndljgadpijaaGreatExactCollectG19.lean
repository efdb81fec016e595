/- SrC, SrD, TPp, KMl, XSz, KKr -/
import Derived.Test.YtghndljgadpijaaGreatExactCollectG01
import Derived.Test.YtghndljgadpijaaGreatExactCollectG18
import Derived.Test.YtghndljgadpijaaGreatExactCollectG06
import Derived.Test.YtghndljgadpijaaGreatExactCollectG07
import Derived.Test.YtghndljgadpijaaGreatExactCollectG04
import Derived.Test.YtghndljgadpijaaGreatExactCollectG03
import Derived.Deep.RegionHeld3
/- The order of pasts in settled: the closure's answer, what it lays. -/
namespace Go.Proofs.YtghndljgadpijaaGreat
open Go.RowKit
theorem hidSrC {p:Prop} (h:p):Hid p:=h
def slB (v:Value):Prop:=∃a n c,v= .slice a n c
abbrev PsF:Type:= {c:Ps×Value×Value×Value//c.1.e.ok=true∧slB c.2.1∧slB c.2.2.1∧slB c.2.2.2}
def encP (c:PsF):List Value:=pastL c.1.1 c.1.2.1 c.1.2.2.1 c.1.2.2.2
theorem zgp (c:PsF):(encP c).length=12:=rfl
theorem zks (c:PsF):∀v∈encP c,v.oneCell'=true:=by
  obtain⟨⟨p,v7,v10,v11⟩,h,⟨a,n,k,e7⟩,⟨a',n',k',e10⟩,⟨a'',n'',k'',e11⟩⟩:=c
  dsimp only at e7 e10 e11
  subst e7 e10 e11
  intro v hv
  simp [encP,pastL]at hv
  rcases hv with rfl|rfl|rfl|rfl|rfl|rfl|rfl|rfl|rfl|rfl|rfl|rfl<;>rfl
abbrev cmpP (x y:PsF):Int:=x.1.1.e.cmp y.1.1.e
theorem swoP:Go.Sort.SWO (fun x y:PsF=>decide (cmpP x y<0)) where
  irrefl x:=by simp only [decide_eq_false_iff_not,zc3];omega
  trans x y z h1 h2:=by simp only [decide_eq_true_eq,zc3]at*;omega
  ntrans x y z h1 h2:=by simp only [decide_eq_false_iff_not,zc3]at*;omega
set_option maxRecDepth 100000 in
set_option maxHeartbeats 4000000 in
theorem psCmpD (x y:PsF) (w:World):
    Calls Tryz.prog 185 #[.agg (encP x).toArray,.agg (encP y).toArray] w fun e w'=>e= .returned (.int .i64 (cmpP x y))∧Below w.heap.size w w'∧w.drawn≤w'.drawn:=by
  obtain⟨⟨p,v7,v10,v11⟩,hp,⟨a7,n7,c7,e7⟩,⟨a10,n10,c10,e10⟩,⟨a11,n11,c11,e11⟩⟩:=x
  dsimp only at e7 e10 e11
  subst e7 e10 e11
  obtain⟨⟨q,u7,u10,u11⟩,hq,⟨b7,m7,d7,e7⟩,⟨b10,m10,d10,e10⟩,⟨b11,m11,d11,e11⟩⟩:=y
  dsimp only at e7 e10 e11
  subst e7 e10 e11
  have HP:Hid (p.e.ok=true):=hp
  have HQ:Hid (q.e.ok=true):=hq
  show Calls Tryz.prog 185 #[.agg #[.int .i64 p.e.t,.int .i64 p.e.s,.int .i64 p.e.q,.int .i64 p.e.d,.int .i64 p.e.k,.int .i64 p.e.v,.int .i64 p.e.g,.slice a7 n7 c7,.int .i64 p.b.q,.int .i64 p.b.d,.slice a10 n10 c10,.slice a11 n11 c11],.agg #[.int .i64 q.e.t,.int .i64 q.e.s,.int .i64 q.e.q,.int .i64 q.e.d,.int .i64 q.e.k,.int .i64 q.e.v,.int .i64 q.e.g,.slice b7 m7 d7,.int .i64 q.b.q,.int .i64 q.b.d,.slice b10 m10 d10,.slice b11 m11 d11]] w fun e w'=>e= .returned (.int .i64 (p.e.cmp q.e))∧Below w.heap.size w w'∧w.drawn≤w'.drawn
  clear hp hq
  obtain⟨W0,hW0⟩:∃W0,(w.alloc (.cells #[.int .i64 p.e.t,.int .i64 p.e.s,.int .i64 p.e.q,.int .i64 p.e.d,.int .i64 p.e.k,.int .i64 p.e.v,.int .i64 p.e.g,.slice a7 n7 c7,.int .i64 p.b.q,.int .i64 p.b.d,.slice a10 n10 c10,.slice a11 n11 c11] 172)).alloc (.cells #[.int .i64 q.e.t,.int .i64 q.e.s,.int .i64 q.e.q,.int .i64 q.e.d,.int .i64 q.e.k,.int .i64 q.e.v,.int .i64 q.e.g,.slice b7 m7 d7,.int .i64 q.b.q,.int .i64 q.b.d,.slice b10 m10 d10,.slice b11 m11 d11] 172)=W0:=⟨_,rfl⟩
  have HB0:=hdq (beA2 hW0)
  have HD0:Hid (w.drawn≤W0.drawn):=hW0▸Nat.le_refl _
  have B1:=bkA2 hW0
  have B2:=bkB2 hW0
  have x0:=B1.cell (i:=0) rfl
  have x1:=B1.cell (i:=1) rfl
  have x2:=B1.cell (i:=2) rfl
  have x3:=B1.cell (i:=3) rfl
  have x4:=B1.cell (i:=4) rfl
  have x5:=B1.cell (i:=5) rfl
  have x6:=B1.cell (i:=6) rfl
  have y0:=B2.cell (i:=0) rfl
  have y1:=B2.cell (i:=1) rfl
  have y2:=B2.cell (i:=2) rfl
  have y3:=B2.cell (i:=3) rfl
  have y4:=B2.cell (i:=4) rfl
  have y5:=B2.cell (i:=5) rfl
  have y6:=B2.cell (i:=6) rfl
  clear B1 B2
  go_enter Tryz.func185,Tryz.ntmps185
  go_wp2_with fail
  clear hW0 x0 x1 x2 x3 x4 x5 x6 y0 y1 y2 y3 y4 y5 y6
  refine(iCmpD p.e.t p.e.s p.e.q p.e.d p.e.k p.e.v p.e.g q.e.t q.e.s q.e.q q.e.d q.e.k q.e.v q.e.g HP.out HQ.out _).mono ?_
  rintro r w1 ⟨rfl,hb,hd⟩
  have HB1:=trh HB0 hb
  have HD1:Hid (w.drawn≤w1.drawn):=Nat.le_trans HD0.out hd
  clear hb hd
  go_wp2
  go_ret
  exact⟨rfl,HB1.out,HD1.out⟩
end Go.Proofs.YtghndljgadpijaaGreat

/- slices.SortFunc over pasts that one owns. -/
namespace Go.Proofs.YtghndljgadpijaaGreat
open Go.RowKit Go.Shelf Go.Lib Go.Sort
def yxp:List PsF→List Value
  | []=> []
  |x::l=>encP x++yxp l
theorem za4:∀l:List PsF,(yxp l).length=l.length*12
  | []=>rfl
  |x::l=>by
    show(encP x++yxp l).length=_
    rw [List.length_append,za4 l,zgp,List.length_cons]
    omega
theorem zd9:∀l m:List PsF,yxp (l++m)=yxp l++yxp m
  | [],m=>rfl
  |x::l,m=>by
    show encP x++yxp (l++m)=encP x++yxp l++yxp m
    rw [zd9 l m,List.append_assoc]
theorem zmv (l:List PsF):∀v∈yxp l,v.oneCell'=true:=by
  induction l with
  |nil=>intro v hv;cases hv
  |cons x l ih=>
    intro v hv
    rcases List.mem_append.1 (show v∈encP x++yxp l from hv)with h|h
    · exact zks x v h
    · exact ih v h
def psOf (l:List PsF):List Ps:=l.map (fun x=>x.1.1)
theorem yyi (l:List PsF):(psOf l).length=l.length:=by simp [psOf]
def PsR (w:World) (x:PsF):Prop:=IsD w x.1.2.1 (ywr x.1.1.b.r)∧IsD w x.1.2.2.1 (evsD x.1.1.s)∧IsD w x.1.2.2.2 (emsD x.1.1.x)
theorem zng {w:World} {u:Value} {c n:Nat} {f:Nat→Dat} (h:IsD w u (.row c n f)):slB u:=by
  obtain⟨a,cap,rfl,_⟩:=IsD.len h
  exact⟨_,_,_,rfl⟩
theorem zkw {w:World}:∀{l:List Ps} {cs:List Value},(∀p∈l,p.e.ok=true)→cs.length=l.length*12→(∀j,j<l.length*12→IsD w (nthV cs j) (ydq l j))→ ∃L:List PsF,psOf L=l∧yxp L=cs∧ ∀x∈L,PsR w x
  | [],cs,_,hl,_=>by
    obtain rfl:cs= []:=List.eq_nil_of_length_eq_zero (by simpa using hl)
    exact⟨[],rfl,rfl,fun x hx=>by cases hx⟩
  |p::l,cs,hok,hl,hd=>by
    rcases cs with _|⟨c0,cs⟩
    · simp only [List.length_nil,List.length_cons]at hl;omega
    rcases cs with _|⟨c1,cs⟩
    · simp only [List.length_nil,List.length_cons]at hl;omega
    rcases cs with _|⟨c2,cs⟩
    · simp only [List.length_nil,List.length_cons]at hl;omega
    rcases cs with _|⟨c3,cs⟩
    · simp only [List.length_nil,List.length_cons]at hl;omega
    rcases cs with _|⟨c4,cs⟩
    · simp only [List.length_nil,List.length_cons]at hl;omega
    rcases cs with _|⟨c5,cs⟩
    · simp only [List.length_nil,List.length_cons]at hl;omega
    rcases cs with _|⟨c6,cs⟩
    · simp only [List.length_nil,List.length_cons]at hl;omega
    rcases cs with _|⟨c7,cs⟩
    · simp only [List.length_nil,List.length_cons]at hl;omega
    rcases cs with _|⟨c8,cs⟩
    · simp only [List.length_nil,List.length_cons]at hl;omega
    rcases cs with _|⟨c9,cs⟩
    · simp only [List.length_nil,List.length_cons]at hl;omega
    rcases cs with _|⟨c10,cs⟩
    · simp only [List.length_nil,List.length_cons]at hl;omega
    rcases cs with _|⟨c11,cs⟩
    · simp only [List.length_nil,List.length_cons]at hl;omega
    obtain rfl:=(show IsD w c0 (.val (.int .i64 p.e.t))from hd 0 (by simp only [List.length_cons];omega)).val_eq
    obtain rfl:=(show IsD w c1 (.val (.int .i64 p.e.s))from hd 1 (by simp only [List.length_cons];omega)).val_eq
    obtain rfl:=(show IsD w c2 (.val (.int .i64 p.e.q))from hd 2 (by simp only [List.length_cons];omega)).val_eq
    obtain rfl:=(show IsD w c3 (.val (.int .i64 p.e.d))from hd 3 (by simp only [List.length_cons];omega)).val_eq
    obtain rfl:=(show IsD w c4 (.val (.int .i64 p.e.k))from hd 4 (by simp only [List.length_cons];omega)).val_eq
    obtain rfl:=(show IsD w c5 (.val (.int .i64 p.e.v))from hd 5 (by simp only [List.length_cons];omega)).val_eq
    obtain rfl:=(show IsD w c6 (.val (.int .i64 p.e.g))from hd 6 (by simp only [List.length_cons];omega)).val_eq
    have h7:IsD w c7 (ywr p.b.r):=hd 7 (by simp only [List.length_cons];omega)
    obtain rfl:=(show IsD w c8 (.val (.int .i64 p.b.q))from hd 8 (by simp only [List.length_cons];omega)).val_eq
    obtain rfl:=(show IsD w c9 (.val (.int .i64 p.b.d))from hd 9 (by simp only [List.length_cons];omega)).val_eq
    have h10:IsD w c10 (evsD p.s):=hd 10 (by simp only [List.length_cons];omega)
    have h11:IsD w c11 (emsD p.x):=hd 11 (by simp only [List.length_cons];omega)
    obtain⟨L,e1,e2,e3⟩:=zkw (l:=l) (cs:=cs) (fun q hq=>hok q (List.mem_cons_of_mem _ hq)) (by simp only [List.length_cons]at hl;omega) (fun j hj=>by
      have h:=hd (12+j) (by simp only [List.length_cons];omega)
      have ef:ydq (p::l) (12+j)=ydq l j:=by
        unfold ydq
        rw [show(12+j)/12=j/12+1 by omega,show(12+j)%12=j%12 by omega]
        rfl
      rw [ef]at h
      have en:∀a:List Value,a.length=12→nthV (a++cs) (12+j)=nthV cs j:=fun a ha=>by
        unfold nthV
        simp [List.getElem?_append_right (show a.length≤12+j by omega),ha]
      have h9:=en [.int .i64 p.e.t,.int .i64 p.e.s,.int .i64 p.e.q,.int .i64 p.e.d,.int .i64 p.e.k,.int .i64 p.e.v,.int .i64 p.e.g,c7,.int .i64 p.b.q,.int .i64 p.b.d,c10,c11] rfl
      rw [←h9]
      exact h)
    refine⟨⟨(p,c7,c10,c11),hok p (List.mem_cons_self ..),zng h7,zng h10,zng h11⟩::L,?_,?_,?_⟩
    · show p::psOf L=_
      rw [e1]
    · show encP _++yxp L=_
      rw [e2]
      rfl
    · intro x hx
      rcases List.mem_cons.1 hx with rfl|hx
      · exact⟨h7,h10,h11⟩
      · exact e3 x hx
theorem zj0 {w:World} {x:Value} {l:List Ps} (hok:∀p∈l,p.e.ok=true) (h:IsD w x (yw3 l)):∃L:List PsF,psOf L=l∧SrcC w x 12 L.length (yxp L)∧ ∀y∈L,PsR w y:=by
  obtain⟨cs,h1,h2⟩:=IsD.cells h
  obtain⟨L,e1,e2,e3⟩:=zkw hok h1.1 h2
  refine⟨L,e1,?_,e3⟩
  rw [e2,←yyi,e1]
  exact h1
theorem zdq [Inhabited PsF]:∀(l:List PsF) (t:Nat),t<l.length*12→(yxp l)[t]? =(encP (l[t/12]!))[t%12]?
  | [],t,h=>by simp at h
  |e::l,t,h=>by
    have hl:(encP e).length=12:=rfl
    show(encP e++yxp l)[t]? =_
    by_cases ht:t<12
    · rw [List.getElem?_append_left (by omega),show t/12=0 by omega,show t%12=t by omega]
      rfl
    · rw [List.getElem?_append_right (by omega),hl,zdq l (t-12) (by simp at h;omega),show t/12=(t-12)/12+1 by omega,show t%12=(t-12)%12 by omega]
      rfl
theorem flat_P [Inhabited PsF] (d:Array PsF):(flatK encP 12 d).toList=yxp d.toList:=by
  refine List.ext_getElem? fun t=> ?_
  by_cases ht:t<d.size*12
  · rw [zdq _ _ (by rw [Array.length_toList];exact ht)]
    have hs:t<(flatK encP 12 d).size:=by simpa using ht
    have h7:t%12<(encP d[t/12]!).length:=by rw [zgp];omega
    have hg:=get_flatK encP 12 d t ht
    rw [getElem!_pos (flatK encP 12 d) t hs,getElem!_pos (encP d[t/12]!) (t%12) h7]at hg
    rw [Array.getElem?_toList,Array.getElem?_eq_getElem hs,hg]
    have hi:t/12<d.size:=by omega
    rw [getElem!_pos d.toList (t/12) (by simpa using hi),←List.getElem?_eq_getElem h7,getElem!_pos d (t/12) hi]
    rfl
  · rw [List.getElem?_eq_none (by simp;omega),List.getElem?_eq_none (by rw [za4,Array.length_toList];omega)]
theorem zkz {w:World} {B:Nat} {e:TypeId} {size n cap g:Nat} {xs:List Value} (h:w.ownsRow B e size (.slice (some ⟨g,0,none⟩) n cap) n xs):∃cur:Array Value,w.heap[g]? =some (.cells cur e (0,0))∧B≤g∧n≤cap∧cap≤maxLen∧cur.size=cap*size∧cur.toList.take (n*size)=xs:=by
  rcases h.2 with ⟨h',_⟩|⟨g',cap',cur,h',h1,h2,h3,h4,h5,h6⟩
  · cases h'
  · cases h'
    exact⟨cur,h2,h1,h3,h4,h5,h6⟩
theorem holdsP [Inhabited PsF] {B g cap:Nat} {d:Array PsF} {w:World} (h:w.ownsRow B 172 12 (.slice (some ⟨g,0,none⟩) d.size cap) d.size (yxp d.toList)):HoldsK encP 12 w g 0 d:=by
  obtain⟨cur,hg,hBg,hnc,hcm,hcs,htk⟩:=zkz h
  intro j hj
  have hj2:j<d.size*12:=by simpa using hj
  have h1:cur[j]? =some ((flatK encP 12 d)[j]!):=by
    have h2:(cur.toList.take (d.size*12))[j]? =(flatK encP 12 d).toList[j]? :=by rw [htk,flat_P]
    rw [List.getElem?_take_of_lt hj2,Array.getElem?_toList,Array.getElem?_toList,Array.getElem?_eq_getElem hj]at h2
    rw [h2,getElem!_pos (flatK encP 12 d) j hj]
  rw [Nat.zero_add]
  refine⟨?_,?_⟩
  · unfold World.cell?
    rw [hg]
    simpa using h1
  · unfold World.frozen?
    rw [hg]
    simp
theorem zit [Inhabited PsF] {B g cap n:Nat} {d d':Array PsF} {w:World} {os:Array Obj} (h:w.ownsRow B 172 12 (.slice (some ⟨g,0,none⟩) d.size cap) d.size (yxp d.toList)) (hs:d'.size=d.size):
    (sortWorldK encP 12 w g 0 n d' os).ownsRow B 172 12 (.slice (some ⟨g,0,none⟩) d'.size cap) d'.size (yxp d'.toList)∧Turns (fun k=>k=g) w (sortWorldK encP 12 w g 0 n d' os):=by
  obtain⟨cur,hg,hBg,hnc,hcm,hcs,htk⟩:=zkz h
  have hlt:g<w.heap.size:=(Array.getElem?_eq_some_iff.1 hg).1
  have hh:(sortWorldK encP 12 w g 0 n d' os).heap=(w.heap.modify g (onCells (putCells id 0 (flatK encP 12 d'))))++os:=rfl
  have hz:(w.heap.modify g (onCells (putCells id 0 (flatK encP 12 d')))).size=w.heap.size:=by simp
  have hfs:(flatK encP 12 d').size=d'.size*12:=by simp
  have hmul:d'.size*12≤cap*12:=Nat.mul_le_mul_right _ (by omega)
  refine⟨⟨by rw [za4,Array.length_toList],.inr ⟨g,cap,putCells id 0 (flatK encP 12 d') cur,rfl,hBg,?_,by omega,hcm,?_,?_⟩⟩,⟨rfl,rfl,rfl,?_,fun k hk hne=> ?_⟩⟩
  · rw [hh,Array.getElem?_append_left (by omega),Array.getElem?_modify,if_pos rfl,hg]
    rfl
  · unfold putCells
    simpa using hcs
  · rw [←flat_P]
    refine List.ext_getElem? fun t=> ?_
    by_cases ht:t<d'.size*12
    · have hc:t<cur.size:=by omega
      rw [List.getElem?_take_of_lt ht,Array.getElem?_toList,Array.getElem?_toList,Array.getElem?_eq_getElem (by omega:t<(flatK encP 12 d').size)]
      unfold putCells
      rw [Array.getElem?_mapIdx,Array.getElem?_eq_getElem hc,Option.map_some,if_pos ⟨Nat.zero_le _,by omega⟩,Nat.sub_zero,getElem!_pos (flatK encP 12 d') t (by omega)]
      rfl
    · rw [List.getElem?_eq_none (by rw [List.length_take];omega),List.getElem?_eq_none (by simp;omega)]
  · rw [hh]
    simp
  · rw [hh,Array.getElem?_append_left (by omega),Array.getElem?_modify,if_neg (fun e=>hne e.symm)]
def zpq (B:Nat) (vt:Value) (L:List PsF) (w w':World) (e:Ending):Prop:=e= .returned (.tuple #[])∧ ∃l':List PsF,l'.Perm L∧l'.Pairwise (fun x y=>¬cmpP y x<0)∧w'.ownsRow B 172 12 vt l'.length (yxp l')∧Turns (fun k=>vt.ownBlock=some k) w w'
end Go.Proofs.YtghndljgadpijaaGreat

/- szPartS: how much there is. -/
namespace Go.Proofs.YtghndljgadpijaaGreat
open Go.RowKit
theorem zoo {p:Prop} (h:p):Hid p:=h
set_option maxHeartbeats 4000000 in
theorem sz_parts (x:Value) (l:List Pa) (left:Int) (w:World) (h0:0≤left) (h1:left≤1048576) (h:IsD w x (ywi l)):
    Calls Tryz.prog 33 #[x,.int .i64 left] w fun e w'=>(∃r,e= .returned (.int .i64 r)∧SzR (ywi l).wt left r)∧Below w.heap.size w w':=by
  obtain⟨a,cap,rfl,hn1,hn,h⟩:=IsD.parts (c:=7) (n:=l.length) h
  have hn2:l.length≤9223372036854775807:=by unfold maxLen at hn;omega
  clear hn1 hn
  by_cases hp:left-(l.length:Int)<0
  · go_enter Tryz.func33,Tryz.ntmps33
    go_wp2
    go_ret
    exact⟨⟨_,rfl,.inl rfl⟩,Below.refl _ _⟩
  · have HLF:Hid (0≤left-(l.length:Int)):=(by omega:0≤left-(l.length:Int))
    go_enter Tryz.func33,Tryz.ntmps33
    go_wp2
    go_loopw [5,1] (fun i z wr=>∃k:Nat,k≤l.length∧i= .int .i64 k∧Below w.heap.size w wr∧ ∃lf:Int,z= .int .i64 lf∧0≤lf∧lf+(l.length:Int)+(sumL (fun i=>(paAt l i).wt) k:Int)=left) (fun i _ _=>l.length-(intOf i).toNat)
    case atStart=>exact⟨0,Nat.zero_le _,rfl,Below.refl _ _,left-(l.length:Int),rfl,HLF.out,by simp [sumL]⟩
    case round=>
      obtain⟨k,hk,rfl,hB,lf2,rfl,hz0,hz1⟩:=hrel
      have HZ:=zoo hz1
      have HB:=zoo hB
      have hz2:lf2≤1048576:=by omega
      clear hz1
      by_cases hlt:k<l.length
      · obtain⟨b,off,rfl,hb,hc⟩:=h.resolve_left (by omega)
        obtain⟨u1,u4,u5,u6,f0,f1,f2,f3,f4,f5,f6,d1,d4,d5,d6⟩:=yzg (fun j hj=>by
          obtain⟨u,hu,hd⟩:=hc j hj
          exact⟨u,(hB.cell (p:=⟨b,off+j,none⟩) hb).trans hu,hd.under hB⟩) hlt
        have HD:Hid (IsPart wr (.agg #[.int .i64 (paAt l k).n,u1,.int .i64 (paAt l k).st.q,.int .i64 (paAt l k).st.d,u4,u5,u6]) (paAt l k)):=⟨u1,u4,u5,u6,rfl,d1,d4,d5,d6⟩
        clear h hc hB d1 d4 d5 d6
        go_wp2_with fail
        clear f0 f1 f2 f3 f4 f5 f6
        refine(zlk _ (paAt l k) _ _ hz0 hz2 HD.out).mono ?_
        rintro e w2 ⟨⟨r,rfl,hr⟩,hb2⟩
        have HB2:=trh HB hb2
        clear hb2
        rcases hr with rfl|⟨r0,hr⟩
        · go_wp2
          go_ret
          exact⟨⟨_,rfl,.inl rfl⟩,HB2.out⟩
        · have HR:=zoo hr
          have r2:¬(r<0):=by omega
          clear hr
          go_wp2
          go_roundw
          case rel=>exact⟨k+1,by omega,by go_num,HB2.out,r,rfl,r0,by have:=HR.out;have:=HZ.out;simp only [sumL];omega⟩
          case measure=>simp [intOf];omega
      · clear h hB
        go_wp2
        go_ret
        obtain rfl:k=l.length:=by omega
        exact⟨⟨_,rfl,.inr ⟨hz0,by rw [yyb];have:=HZ.out;omega⟩⟩,HB.out⟩
set_option maxHeartbeats 1000000
open Go.RowKit
theorem hidKMl {p:Prop} (h:p):Hid p:=h
structure Ml where
  e:Ev
  a:Bool
def mlAt (l:List Ml) (i:Nat):Ml:=l.getD i ⟨⟨0,0,0,0,0,0,0⟩,false⟩
def Ml.cs (m:Ml):List Value:= [.int .i64 m.e.t,.int .i64 m.e.s,.int .i64 m.e.q,.int .i64 m.e.d,.int .i64 m.e.k,.int .i64 m.e.v,.int .i64 m.e.g,.bool m.a]
def yxk:List Ml→List Value
  | []=> []
  |e::l=>e.cs++yxk l
theorem yz6:∀l:List Ml,(yxk l).length=l.length*8
  | []=>rfl
  |e::l=>by simp [yxk,yz6 l,Ml.cs];omega
theorem zf7 (e:Ml) (l:List Ml) (i:Nat):mlAt (e::l) (i+1)=mlAt l i:=by simp [mlAt]
theorem yxt:∀(l:List Ml) (i r:Nat),i<l.length→r<8→(yxk l)[i*8+r]? =(mlAt l i).cs[r]?
  | [],_,_,h,_=>by simp at h
  |e::l,0,r,_,hr=>by
    have:r<e.cs.length:=by simpa [Ml.cs] using hr
    simp only [yxk,Nat.zero_mul,Nat.zero_add]
    rw [List.getElem?_append_left this]
    simp [mlAt]
  |e::l,i+1,r,h,hr=>by
    have h1:=yxt l i r (by simpa using h) hr
    have:e.cs.length≤(i+1)*8+r:=by simp [Ml.cs];omega
    simp only [yxk]
    rw [List.getElem?_append_right this,zf7,←h1]
    congr 1
    simp [Ml.cs];omega
structure MlAt (w:World) (b o:Nat) (m:Ml):Prop where
  f0:w.cell? ⟨b,o,none⟩=some (.int .i64 m.e.t)
  f1:w.cell? ⟨b,o+1,none⟩=some (.int .i64 m.e.s)
  f2:w.cell? ⟨b,o+2,none⟩=some (.int .i64 m.e.q)
  f3:w.cell? ⟨b,o+3,none⟩=some (.int .i64 m.e.d)
  f4:w.cell? ⟨b,o+4,none⟩=some (.int .i64 m.e.k)
  f5:w.cell? ⟨b,o+5,none⟩=some (.int .i64 m.e.v)
  f6:w.cell? ⟨b,o+6,none⟩=some (.int .i64 m.e.g)
  f7:w.cell? ⟨b,o+7,none⟩=some (.bool m.a)
theorem MlAt.below {w w':World} {B b o:Nat} {m:Ml} (h:MlAt w b o m) (hb:Below B w w') (hlt:b<B):MlAt w' b o m:=
  ⟨(hb.cell hlt).trans h.f0,(hb.cell hlt).trans h.f1,(hb.cell hlt).trans h.f2,(hb.cell hlt).trans h.f3,(hb.cell hlt).trans h.f4,(hb.cell hlt).trans h.f5,(hb.cell hlt).trans h.f6,(hb.cell hlt).trans h.f7⟩
def MlsAt (w:World) (b off:Nat) (l:List Ml):Prop:=b<w.heap.size∧ ∀i,i<l.length→MlAt w b (off+i*8) (mlAt l i)
def IsMl (w:World) (x:Value) (l:List Ml):Prop:=∃a cap,x= .slice a l.length cap∧l.length≤cap∧cap≤maxLen∧(l= []∨ ∃b off,a=some ⟨b,off,none⟩∧MlsAt w b off l)
def yww (l:List Ml):Dat:=flat 8 l.length (yxk l)
theorem IsMl.isD {w:World} {x:Value} {l:List Ml} (h:IsMl w x l):IsD w x (yww l):=by
  obtain⟨a,cap,rfl,h1,h2,h⟩:=h
  refine IsD.of_parts h1 h2 (h.imp (fun e=>by rw [e];rfl) ?_)
  rintro ⟨b,off,rfl,hb,hc⟩
  refine⟨b,off,rfl,hb,fun j hj=> ?_⟩
  have hi:j/8<l.length:=by omega
  have hr:j%8<8:=by omega
  have hE:=hc (j/8) hi
  have hg:=yxt l (j/8) (j%8) hi hr
  rw [show j/8*8+j%8=j from by omega]at hg
  have hall:∀r,r<8→ ∃u,w.cell? ⟨b,off+j/8*8+r,none⟩=some u∧(mlAt l (j/8)).cs[r]? =some u:=fun r hr=>by
    match r,hr with
    |0,_=>exact⟨_,hE.f0,rfl⟩
    |1,_=>exact⟨_,hE.f1,rfl⟩
    |2,_=>exact⟨_,hE.f2,rfl⟩
    |3,_=>exact⟨_,hE.f3,rfl⟩
    |4,_=>exact⟨_,hE.f4,rfl⟩
    |5,_=>exact⟨_,hE.f5,rfl⟩
    |6,_=>exact⟨_,hE.f6,rfl⟩
    |7,_=>exact⟨_,hE.f7,rfl⟩
  obtain⟨u,h3,h4⟩:=hall _ hr
  refine⟨u,by rw [←h3];congr 2;omega,?_⟩
  rw [show(yxk l).getD j (.int .i64 0)=u from yxj (hg.trans h4)]
  exact .val _
theorem IsD.isMl {w:World} {x:Value} {l:List Ml} (h:IsD w x (yww l)):IsMl w x l:=by
  obtain⟨a,cap,rfl,h1,h2,h⟩:=IsD.parts (c:=8) (n:=l.length) h
  refine⟨a,cap,rfl,h1,h2,h.imp List.eq_nil_of_length_eq_zero ?_⟩
  rintro ⟨b,off,rfl,hb,hc⟩
  refine⟨b,off,rfl,hb,fun i hi=> ?_⟩
  have hget:∀r,r<8→w.cell? ⟨b,off+i*8+r,none⟩=(mlAt l i).cs[r]? :=fun r hr=>by
    obtain⟨u,hu,hd⟩:=hc (i*8+r) (by omega)
    rw [Nat.add_assoc,hu,hd.val_eq]
    have hg:=yxt l i r hi hr
    have:r<(mlAt l i).cs.length:=by simpa [Ml.cs] using hr
    rw [List.getElem?_eq_getElem this]at hg⊢
    rw [yxj hg]
  exact⟨hget 0 (by omega),hget 1 (by omega),hget 2 (by omega),hget 3 (by omega),hget 4 (by omega),hget 5 (by omega),hget 6 (by omega),hget 7 (by omega)⟩
theorem yy9 (l:List Ml):(yww l).wt=l.length:=zgm _ _ _
theorem zma (l:List Ml):(yww l).thin:=zd3 (by omega)
theorem szMl_any (a:Option Addr) (n cap:Nat) (left:Int) (w:World) (hn:n≤maxLen) (h0:0≤left) (h1:left≤1048576):
    Calls Tryz.prog 34 #[.slice a n cap,.int .i64 left] w fun e w'=>e= .returned (.int .i64 (szN n left))∧w'=w:=by
  unfold maxLen at hn
  by_cases hp:left-(n:Int)<0
  · go_enter Tryz.func34,Tryz.ntmps34
    go_wp2
    go_ret
    exact⟨ywz (by unfold szN;rw [if_pos hp]),rfl⟩
  · go_enter Tryz.func34,Tryz.ntmps34
    go_wp2
    go_ret
    exact⟨ywz (by unfold szN;rw [if_neg (by omega)]),rfl⟩
theorem sz_mails (x:Value) (l:List Ml) (left:Int) (w:World) (h0:0≤left) (h1:left≤1048576) (h:IsD w x (yww l)):
    Calls Tryz.prog 34 #[x,.int .i64 left] w fun e w'=>(∃r,e= .returned (.int .i64 r)∧SzR (yww l).wt left r)∧Below w.heap.size w w':=by
  obtain⟨a,cap,rfl,hn⟩:=IsD.len (c:=8) (n:=l.length) h
  refine(szMl_any a l.length cap left w hn h0 h1).mono ?_
  rintro e w' ⟨rfl,rfl⟩
  exact⟨⟨_,rfl,by rw [yy9];exact szN_R _ _⟩,Below.refl _ _⟩
theorem zjk (t s q d k v g:Int) (b:Bool) (w:World):
    Calls Tryz.prog 139 #[.agg #[.int .i64 t,.int .i64 s,.int .i64 q,.int .i64 d,.int .i64 k,.int .i64 v,.int .i64 g,.bool b],.agg #[.int .i64 t,.int .i64 s,.int .i64 q,.int .i64 d,.int .i64 k,.int .i64 v,.int .i64 g,.bool b]] w fun e w'=>e= .returned (.bool true)∧Below w.heap.size w w':=by
  obtain⟨W0,hW0⟩:∃V,(w.alloc (.cells #[.int .i64 t,.int .i64 s,.int .i64 q,.int .i64 d,.int .i64 k,.int .i64 v,.int .i64 g,.bool b] 152)).alloc (.cells #[.int .i64 t,.int .i64 s,.int .i64 q,.int .i64 d,.int .i64 k,.int .i64 v,.int .i64 g,.bool b] 152)=V:=⟨_,rfl⟩
  have hb0:=beA2 hW0
  have HB0:=hidKMl hb0
  have B1:=hdq (bkA2 hW0)
  have B2:=hdq (bkB2 hW0)
  clear hb0
  have x0:=B1.out.cell (i:=0) rfl
  have x1:=B1.out.cell (i:=1) rfl
  have x2:=B1.out.cell (i:=2) rfl
  have x3:=B1.out.cell (i:=3) rfl
  have x4:=B1.out.cell (i:=4) rfl
  have x5:=B1.out.cell (i:=5) rfl
  have x6:=B1.out.cell (i:=6) rfl
  have y0:=B2.out.cell (i:=0) rfl
  have y1:=B2.out.cell (i:=1) rfl
  have y2:=B2.out.cell (i:=2) rfl
  have y3:=B2.out.cell (i:=3) rfl
  have y4:=B2.out.cell (i:=4) rfl
  have y5:=B2.out.cell (i:=5) rfl
  have y6:=B2.out.cell (i:=6) rfl
  go_enter Tryz.func139,Tryz.ntmps139
  go_wp2_with fail
  clear hW0 x0 y0 x1 y1 x2 y2 x3 y3 x4 y4 x5 y5 x6 y6
  refine(zbp _ _ _ _ _ _ _ _).mono ?_
  rintro r w1 ⟨rfl,hb⟩
  have x7:=(B1.out.below hb).cell (i:=7) rfl
  have y7:=(B2.out.below hb).cell (i:=7) rfl
  have HB1:=trh HB0 hb
  clear hb
  cases b<;>(go_wp2;go_ret;exact⟨rfl,HB1.out⟩)
theorem zp2 (x y:Value) (l:List Ml) (w:World) (hl:l.length≤1048576) (hx:IsMl w x l) (hy:IsMl w y l):
    Calls Tryz.prog 55 #[x,y] w fun e w'=>e= .returned (.bool true)∧Below w.heap.size w w':=by
  obtain⟨a,cap,rfl,h1,h2,h⟩:=hx
  obtain⟨a',cap',rfl,h1',h2',h'⟩:=hy
  clear h1 h2 h1' h2'
  by_cases hz:l= []
  · subst hz
    clear h h'
    go_enter Tryz.func55,Tryz.ntmps55
    go_wp2
    go_loop [5] (fun i=>i= .int .i64 0) (fun _=>0)
    case atStart=>rfl
    case round=>
      subst hrel
      go_wp2
      go_ret
      exact⟨rfl,Below.refl _ _⟩
  · obtain⟨b,off,rfl,hb,hc⟩:=h.resolve_left hz
    obtain⟨b',off',rfl,hb',hc'⟩:=h'.resolve_left hz
    clear h h' hz
    go_enter Tryz.func55,Tryz.ntmps55
    go_wp2
    go_loopw [5] (fun i wr=>∃k:Nat,k≤l.length∧i= .int .i64 k∧Below w.heap.size w wr) (fun i _=>l.length-(intOf i).toNat)
    case atStart=>exact⟨0,Nat.zero_le _,rfl,Below.refl _ _⟩
    case round=>
      obtain⟨k,hk,rfl,hB⟩:=hrel
      have HB:=hidKMl hB
      by_cases hlt:k<l.length
      · obtain⟨f0,f1,f2,f3,f4,f5,f6,f7⟩:=(hc k hlt).below hB hb
        obtain⟨e0,e1,e2,e3,e4,e5,e6,e7⟩:=(hc' k hlt).below hB hb'
        have hbr:b<wr.heap.size:=Nat.lt_of_lt_of_le hb hB.size
        have hbr':b'<wr.heap.size:=Nat.lt_of_lt_of_le hb' hB.size
        clear hB hc hc'
        go_wp2_with fail
        go_region_held3 (fun W=>W.cell? ⟨b,off+k*8,none⟩=some (.int .i64 (mlAt l k).e.t)∧W.cell? ⟨b,off+k*8+1,none⟩=some (.int .i64 (mlAt l k).e.s)∧W.cell? ⟨b,off+k*8+2,none⟩=some (.int .i64 (mlAt l k).e.q)∧W.cell? ⟨b,off+k*8+3,none⟩=some (.int .i64 (mlAt l k).e.d)∧W.cell? ⟨b,off+k*8+4,none⟩=some (.int .i64 (mlAt l k).e.k)∧W.cell? ⟨b,off+k*8+5,none⟩=some (.int .i64 (mlAt l k).e.v)∧W.cell? ⟨b,off+k*8+6,none⟩=some (.int .i64 (mlAt l k).e.g)∧W.cell? ⟨b,off+k*8+7,none⟩=some (.bool (mlAt l k).a)∧W.cell? ⟨b',off'+k*8,none⟩=some (.int .i64 (mlAt l k).e.t)∧W.cell? ⟨b',off'+k*8+1,none⟩=some (.int .i64 (mlAt l k).e.s)∧W.cell? ⟨b',off'+k*8+2,none⟩=some (.int .i64 (mlAt l k).e.q)∧W.cell? ⟨b',off'+k*8+3,none⟩=some (.int .i64 (mlAt l k).e.d)∧W.cell? ⟨b',off'+k*8+4,none⟩=some (.int .i64 (mlAt l k).e.k)∧W.cell? ⟨b',off'+k*8+5,none⟩=some (.int .i64 (mlAt l k).e.v)∧W.cell? ⟨b',off'+k*8+6,none⟩=some (.int .i64 (mlAt l k).e.g)∧W.cell? ⟨b',off'+k*8+7,none⟩=some (.bool (mlAt l k).a)) ((repeat' apply And.intro)<;>first|(go_keep;done)|(rw [hcA _ _ (by first|omega|(simp;omega)|simp [*])];simp [*];done))
          (first|(go_at_call 139;refine(zjk _ _ _ _ _ _ _ _ _).mono ?_;rintro e w2 ⟨rfl,hb2⟩;obtain⟨hcA,hfA⟩:=zdb hb2))
        clear hcA hfA
        go_wp2
        go_roundw
        case rel=>exact⟨k+1,by omega,by go_num,HB.out.drew.trans (hb2.mono (by have:=HB.out.size;simpa using this))⟩
        case measure=>simp [intOf];omega
      · clear hB hc hc'
        go_wp2
        go_ret
        exact⟨rfl,HB.out⟩
theorem eq_mails (x y:Value) (l:List Ml) (w:World) (hl:l.length≤1048576) (hx:IsD w x (yww l)) (hy:IsD w y (yww l)):
    Calls Tryz.prog 55 #[x,y] w fun e w'=>e= .returned (.bool true)∧Below w.heap.size w w':=
  zp2 x y l w hl hx.isMl hy.isMl
set_option maxHeartbeats 2000000 in
theorem zll (x:Value) (m:Md) (w:World) (h:IsM w x m):
    Calls Tryz.prog 31 #[x,.int .i64 1048576] w fun e w'=>(∃r,e= .returned (.int .i64 r)∧(r= -1∨(0≤r∧r≤1048576∧SmallM m)))∧Below w.heap.size w w':=by
  obtain⟨vi,vh,vs,rfl,h1,h2,h3⟩:=h
  obtain⟨n,s,i,hh,ev,z⟩:=m
  have HH:Hid (IsH w vh hh):=h2
  obtain⟨a1,c1,rfl,hi1,hi2,_⟩:=h1
  obtain⟨a3,c3,rfl,he1,he2,_⟩:=h3
  have HI:Hid (i.length≤maxLen):=Nat.le_trans hi1 hi2
  have HE:Hid (ev.length≤maxLen):=Nat.le_trans he1 he2
  clear h2 hi1 hi2 he1 he2
  obtain⟨W0,hW0⟩:∃W0,w.alloc (.cells #[.int .i64 n,.int .i64 s,.slice a1 i.length c1,vh,.slice a3 ev.length c3,.int .i64 z] 26)=W0:=⟨_,rfl⟩
  have HB0:=hdq (beA hW0)
  have HP0:=bkA hW0
  have p2:=HP0.cell (i:=2) rfl
  have p3:=HP0.cell (i:=3) rfl
  have p4:=HP0.cell (i:=4) rfl
  clear HP0
  have go:∀q:Int,q=szN i.length 1048576→q= -1∨(0≤q∧q≤1048576∧i.length≤1048576):=by
    intro q hq
    unfold szN at hq
    split at hq<;>omega
  go_enter Tryz.func31,Tryz.ntmps31
  go_wp2_with fail
  refine(szI_any _ _ _ _ _ HI.out (by omega) (by omega)).mono ?_
  rintro e w' ⟨rfl,hw⟩
  have hw':=hw.symm
  clear hw
  subst hw'
  clear hW0
  generalize hq:szN i.length 1048576=q
  rcases go q hq.symm with rfl|⟨q0,q1,q2⟩
  · clear go hq
    go_wp2
    go_ret
    exact⟨⟨_,rfl,.inl rfl⟩,HB0.out⟩
  · have HQ:Hid (i.length≤1048576):=q2
    have q3:¬(q<0):=by omega
    clear go hq q2
    go_wp2_with fail
    refine(szH_any _ hh _ _ (HH.out.below HB0.out) q0 q1).mono ?_
    rintro e w' ⟨⟨r,rfl,hr⟩,hw⟩
    have hw':=hw.symm
    clear hw
    subst hw'
    rcases hr with rfl|⟨r0,r1,r2,r3,r4⟩
    · go_wp2
      go_ret
      exact⟨⟨_,rfl,.inl rfl⟩,HB0.out⟩
    · have r5:¬(r<0):=by omega
      have r6:r≤1048576:=by omega
      have HR:Hid ((hh.length:Int)≤1048576∧(∀i,(hAt hh i).length≤1048576)∧sumL (lens hh) hh.length≤1048576):=⟨r2,r3,r4⟩
      clear r1 r2 r3 r4
      go_wp2_with fail
      refine(szE_any _ _ _ _ _ HE.out r0 r6).mono ?_
      rintro e w' ⟨rfl,hw⟩
      have hw':=hw.symm
      clear hw
      subst hw'
      generalize hq:szN ev.length r=t
      have ht:t= -1∨(0≤t∧t≤1048576∧ev.length≤1048576):=by
        unfold szN at hq
        split at hq<;>omega
      clear hq
      rcases ht with rfl|⟨t0,t9,t1⟩
      · go_wp2
        go_ret
        exact⟨⟨_,rfl,.inl rfl⟩,HB0.out⟩
      · have t2:¬(t<0):=by omega
        go_wp2
        go_ret
        exact⟨⟨_,rfl,.inr ⟨t0,t9,HQ.out,by have:=HR.out.1;show hh.length≤1048576;omega,HR.out.2.1,HR.out.2.2,t1⟩⟩,HB0.out⟩
theorem yzk {p:Prop} (h:p):Hid p:=h
structure Kn where
  m:Md
  d:List Int
  p:List Pa
  b:List Ml
  t:Int
  q:Int
  f:Bool
  s:List Ev
  x:List Em
def Kn.wt (k:Kn):Nat:=(ywr k.d).wt+(ywi k.p).wt+(yww k.b).wt+(evsD k.s).wt+(emsD k.x).wt
def ywy (k:Kn):Prop:=SmallM k.m∧k.wt≤1048576
def IsKern (w:World) (x:Value) (k:Kn):Prop:=∃vi vh vs u6 u7 u8 u12 u13,x= .agg #[.int .i64 k.m.n,.int .i64 k.m.s,vi,vh,vs,.int .i64 k.m.z,u6,u7,u8,.int .i64 k.t,.int .i64 k.q,.bool k.f,u12,u13]∧IsM w (.agg #[.int .i64 k.m.n,.int .i64 k.m.s,vi,vh,vs,.int .i64 k.m.z]) k.m∧IsD w u6 (ywr k.d)∧IsD w u7 (ywi k.p)∧IsD w u8 (yww k.b)∧IsD w u12 (evsD k.s)∧IsD w u13 (emsD k.x)
theorem IsKern.under {w w':World} {x:Value} {k:Kn} (h:IsKern w x k) (hb:Below w.heap.size w w'):IsKern w' x k:=by
  obtain⟨vi,vh,vs,u6,u7,u8,u12,u13,rfl,hm,h6,h7,h8,h12,h13⟩:=h
  exact⟨vi,vh,vs,u6,u7,u8,u12,u13,rfl,hm.below hb,h6.under hb,h7.under hb,h8.under hb,h12.under hb,h13.under hb⟩
set_option maxRecDepth 100000 in
set_option maxHeartbeats 4000000 in
theorem zha (x:Value) (k:Kn) (w:World) (h:IsKern w x k):
    Calls Tryz.prog 9 #[x,.int .i64 1048576] w fun e w'=>(∃r,e= .returned (.int .i64 r)∧(r= -1∨(0≤r∧ywy k)))∧Below w.heap.size w w':=by
  obtain⟨vi,vh,vs,u6,u7,u8,u12,u13,rfl,hm,h6,h7,h8,h12,h13⟩:=h
  have HM:=yzk hm
  have H6:=yzk h6
  have H7:=yzk h7
  have H8:=yzk h8
  have H12:=yzk h12
  have H13:=yzk h13
  clear hm h6 h7 h8 h12 h13
  obtain⟨W0,hW0⟩:∃W0,w.alloc (.cells #[.int .i64 k.m.n,.int .i64 k.m.s,vi,vh,vs,.int .i64 k.m.z,u6,u7,u8,.int .i64 k.t,.int .i64 k.q,.bool k.f,u12,u13] 31)=W0:=⟨_,rfl⟩
  have HB0:=hdq (beA hW0)
  have HP0:=hdq (bkA hW0)
  have HW:=yzk hW0
  clear hW0
  go_enter Tryz.func9,Tryz.ntmps9
  obtain⟨p0,p1,p2,p3,p4,p5⟩:=zgw HP0.out
  go_wp2_with fail
  rw [HW.out]
  clear HW p0 p1 p2 p3 p4 p5
  refine(zll _ k.m _ (HM.out.below HB0.out)).mono ?_
  rintro e w1 ⟨⟨r1,rfl,hr⟩,hb⟩
  have HB1:=trh HB0 hb
  have HP1:=yzk (HP0.out.below hb)
  clear hb
  rcases hr with rfl|⟨r10,r11,hsm⟩
  · go_wp2
    go_ret
    exact⟨⟨_,rfl,.inl rfl⟩,HB1.out⟩
  have HSM:Hid (SmallM k.m):=hsm
  have HE1:Hid (r1≤1048576):=r11
  have r12:¬(r1<0):=by omega
  clear hsm
  have p6:=HP1.out.cell (i:=6) rfl
  go_wp2_with fail
  clear p6
  refine(zio _ k.d _ _ r10 r11 (H6.out.under HB1.out)).mono ?_
  rintro e w2 ⟨⟨r2,rfl,hr⟩,hb⟩
  have HB2:=trh HB1 hb
  have HP2:=yzk (HP1.out.below hb)
  clear hb
  rcases hr with rfl|⟨r20,hr⟩
  · go_wp2
    go_ret
    exact⟨⟨_,rfl,.inl rfl⟩,HB2.out⟩
  have r21:r2≤1048576:=by omega
  have r22:¬(r2<0):=by omega
  have HE2:=yzk hr
  clear hr r12
  have p7:=HP2.out.cell (i:=7) rfl
  go_wp2_with fail
  clear p7
  refine(sz_parts _ k.p _ _ r20 r21 (H7.out.under HB2.out)).mono ?_
  rintro e w3 ⟨⟨r3,rfl,hr⟩,hb⟩
  have HB3:=trh HB2 hb
  have HP3:=yzk (HP2.out.below hb)
  clear hb
  rcases hr with rfl|⟨r30,hr⟩
  · go_wp2
    go_ret
    exact⟨⟨_,rfl,.inl rfl⟩,HB3.out⟩
  have r31:r3≤1048576:=by omega
  have r32:¬(r3<0):=by omega
  have HE3:=yzk hr
  clear hr r22
  have p8:=HP3.out.cell (i:=8) rfl
  go_wp2_with fail
  clear p8
  refine(sz_mails _ k.b _ _ r30 r31 (H8.out.under HB3.out)).mono ?_
  rintro e w4 ⟨⟨r4,rfl,hr⟩,hb⟩
  have HB4:=trh HB3 hb
  have HP4:=yzk (HP3.out.below hb)
  clear hb
  rcases hr with rfl|⟨r40,hr⟩
  · go_wp2
    go_ret
    exact⟨⟨_,rfl,.inl rfl⟩,HB4.out⟩
  have r41:r4≤1048576:=by omega
  have r42:¬(r4<0):=by omega
  have HE4:=yzk hr
  clear hr r32
  have p12:=HP4.out.cell (i:=12) rfl
  go_wp2_with fail
  clear p12
  refine(zn9 _ k.s _ _ r40 r41 (H12.out.under HB4.out)).mono ?_
  rintro e w5 ⟨⟨r5,rfl,hr⟩,hb⟩
  have HB5:=trh HB4 hb
  have HP5:=yzk (HP4.out.below hb)
  clear hb
  rcases hr with rfl|⟨r50,hr⟩
  · go_wp2
    go_ret
    exact⟨⟨_,rfl,.inl rfl⟩,HB5.out⟩
  have r51:r5≤1048576:=by omega
  have r52:¬(r5<0):=by omega
  have HE5:=yzk hr
  clear hr r42
  have p13:=HP5.out.cell (i:=13) rfl
  go_wp2_with fail
  clear p13
  refine(sz_ems _ k.x _ _ r50 r51 (H13.out.under HB5.out)).mono ?_
  rintro e w6 ⟨⟨r6,rfl,hr⟩,hb⟩
  have HB6:=trh HB5 hb
  have HP6:=yzk (HP5.out.below hb)
  clear hb
  rcases hr with rfl|⟨r60,hr⟩
  · go_wp2
    go_ret
    exact⟨⟨_,rfl,.inl rfl⟩,HB6.out⟩
  have r61:r6≤1048576:=by omega
  have r62:¬(r6<0):=by omega
  have HE6:=yzk hr
  clear hr r52
  go_wp2
  go_ret
  refine⟨⟨_,rfl,.inr ⟨r60,HSM.out,?_⟩⟩,HB6.out⟩
  unfold Kn.wt
  have e1:=HE1.out
  have e2:=HE2.out
  have e3:=HE3.out
  have e4:=HE4.out
  have e5:=HE5.out
  have e6:=HE6.out
  omega
end Go.Proofs.YtghndljgadpijaaGreat

