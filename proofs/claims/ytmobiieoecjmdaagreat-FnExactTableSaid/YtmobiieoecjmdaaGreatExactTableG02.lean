/- MSz, MMarkH, MToH, MEq, Eqs, MBox, MModel, MLaw, EEm, XEm, TDat -/
import Derived.Test.YtmobiieoecjmdaaGreatExactTableG01
import Derived.Deep.RegionHeld3
/- szModel: whether there is too much of it. -/
namespace Go.Proofs.YtmobiieoecjmdaaGreat
open Go.RowKit
def szN (n left:Int):Int:=if left-n<0 then-1 else left-n
set_option maxHeartbeats 400000 in
theorem szI_any (a:Option Addr) (n cap:Nat) (left:Int) (w:World) (hn:n≤maxLen) (h0:0≤left) (h1:left≤1048576):
  Calls Tryz.prog 53 #[.slice a n cap,.int .i64 left] w fun e w'=>e= .returned (.int .i64 (szN n left))∧w'=w:=by
 unfold maxLen at hn
 by_cases hp:left-(n:Int)<0
 ·go_enter Tryz.func53,Tryz.ntmps53
  go_wp2
  go_ret
  exact⟨ret_int (by unfold szN;rw [if_pos hp]),rfl⟩
 ·go_enter Tryz.func53,Tryz.ntmps53
  go_wp2
  go_ret
  exact⟨ret_int (by unfold szN;rw [if_neg (by omega)]),rfl⟩
set_option maxHeartbeats 400000 in
theorem szE_any (a:Option Addr) (n cap:Nat) (left:Int) (w:World) (hn:n≤maxLen) (h0:0≤left) (h1:left≤1048576):
  Calls Tryz.prog 56 #[.slice a n cap,.int .i64 left] w fun e w'=>e= .returned (.int .i64 (szN n left))∧w'=w:=by
 unfold maxLen at hn
 by_cases hp:left-(n:Int)<0
 ·go_enter Tryz.func56,Tryz.ntmps56
  go_wp2
  go_ret
  exact⟨ret_int (by unfold szN;rw [if_pos hp]),rfl⟩
 ·go_enter Tryz.func56,Tryz.ntmps56
  go_wp2
  go_ret
  exact⟨ret_int (by unfold szN;rw [if_neg (by omega)]),rfl⟩
set_option maxHeartbeats 400000 in
theorem szO_any (a:Option Addr) (n cap:Nat) (left:Int) (w:World) (hn:n≤maxLen) (h0:0≤left) (h1:left≤1048576):
  Calls Tryz.prog 134 #[.slice a n cap,.int .i64 left] w fun e w'=>e= .returned (.int .i64 (szN n left))∧w'=w:=by
 unfold maxLen at hn
 by_cases hp:left-(n:Int)<0
 ·go_enter Tryz.func134,Tryz.ntmps134
  go_wp2
  go_ret
  exact⟨ret_int (by unfold szN;rw [if_pos hp]),rfl⟩
 ·go_enter Tryz.func134,Tryz.ntmps134
  go_wp2
  go_ret
  exact⟨ret_int (by unfold szN;rw [if_neg (by omega)]),rfl⟩
def sumL (L:Nat→Nat):Nat→Nat
 |0=>0
 |k+1=>sumL L k+L k
def lens (l:List (List O)) (i:Nat):Nat:=(hAt l i).length
theorem hAt_out {l:List (List O)} {i:Nat} (h:l.length≤i):hAt l i= []:=by simp [hAt,h]
theorem sumL_mono (L:Nat→Nat):∀{i j:Nat},i≤j→sumL L i≤sumL L j:=by
 intro i j h
 induction h with
 |refl=>exact Nat.le_refl _
 |step _ ih=>exact Nat.le_trans ih (by simp [sumL])
theorem RowsF.step {F:Nat→Prop} {w:World} {x:Value} {n:Nat} {U:Nat→Value} {L:Nat→Nat} {C:Nat→List Value} (h:RowsF F w x n U L C) {k:Nat} (hk:k<n):
  ∃K:Nat→Prop,RowF K w (U k) (L k) 4 (C k)∧(∀b,K b→F b)∧ ∀w' cs,RowF K w' (U k) (L k) 4 cs→Turns K w w'→RowsF F w' x n U L (fun i=>if i=k then cs else C i):=by
 obtain⟨F0,G,h0,hF,h1,h2⟩:=h
 refine⟨G k,(h1 k hk).1,fun b hb=>((h1 k hk).2 b hb).1,fun w' cs hr ht=>⟨F0,G,h0.turns ht (fun b hb hg=>((h1 k hk).2 b hg).2 hb),hF,fun i hi=>⟨?_,(h1 i hi).2⟩,h2⟩⟩
 by_cases e:i=k
 ·subst e
  simpa using hr
 ·simp only [if_neg e]
  exact(h1 i hi).1.turns ht (fun b hb hg=>h2 i k hi hk e b hb hg)
theorem RowsF.slice {F:Nat→Prop} {w:World} {x:Value} {n:Nat} {U:Nat→Value} {L:Nat→Nat} {C:Nat→List Value} (h:RowsF F w x n U L C):∃a cap,x= .slice a n cap∧(n=0∨ ∃g,a=some ⟨g,0,none⟩):=by
 obtain⟨F0,G,⟨_,a,cap,e,_,_,h⟩,_⟩:=h
 exact⟨a,cap,e,h.imp id (fun⟨g,e,_⟩=>⟨g,e⟩)⟩
theorem RowsF.cell {F:Nat→Prop} {w:World} {n cap g:Nat} {U:Nat→Value} {L:Nat→Nat} {C:Nat→List Value} (h:RowsF F w (.slice (some ⟨g,0,none⟩) n cap) n U L C) {i:Nat} (hi:i<n):w.cell? ⟨g,i,none⟩=some (U i):=by
 obtain⟨F0,G,⟨_,a,cap',e,_,_,h⟩,_⟩:=h
 rcases h with h|⟨g',e',_,_,hc⟩
 ·omega
 ·subst e'
  simp at e
  obtain⟨rfl,rfl⟩:=e
  rw [(hc i (by omega)).1]
  simp [hi]
theorem RowsF.len {F:Nat→Prop} {w:World} {x:Value} {n:Nat} {U:Nat→Value} {L:Nat→Nat} {C:Nat→List Value} (h:RowsF F w x n U L C) {i:Nat} (hi:i<n):∃a cap,U i= .slice a (L i) cap:=by
 obtain⟨F0,G,_,_,h1,_⟩:=h
 obtain⟨⟨_,a,cap,e,_⟩,_⟩:=h1 i hi
 exact⟨a,cap,e⟩
def mkRows (z:Int) (L:Nat→Nat) (i:Nat):List Value:=mkCells (z+4*(sumL L i:Int)) (L i*4)
theorem RowsF.congr {F:Nat→Prop} {w:World} {x:Value} {n:Nat} {U:Nat→Value} {L:Nat→Nat} {C C':Nat→List Value} (h:RowsF F w x n U L C) (hC:∀i,i<n→C i=C' i):RowsF F w x n U L C':=by
 obtain⟨F0,G,h0,hF,h1,h2⟩:=h
 exact⟨F0,G,h0,hF,fun i hi=>by rw [←hC i hi];exact h1 i hi,h2⟩
set_option maxHeartbeats 4000000 in
theorem markHF {F:Nat→Prop} {x:Value} {n:Nat} {U:Nat→Value} {L:Nat→Nat} {C:Nat→List Value} {w:World} (z:Int) (hn:n≤1048577) (hL:sumL L n≤1048577) (hz0:0≤z) (hz1:z≤1000000000) (h:RowsF F w x n U L C):
  Calls Tryz.prog 96 #[x,.int .i64 z] w fun e w'=>e= .returned (.int .i64 (z+4*(sumL L n:Int)))∧RowsF F w' x n U L (mkRows z L)∧Turns F w w':=by
 obtain⟨a,cap,rfl,ha⟩:=h.slice
 have HR0:Hid (RowsF F w (.slice a n cap) n U L C):=h
 have HL:Hid (sumL L n≤1048577):=hL
 clear h hL
 go_enter Tryz.func96,Tryz.ntmps96
 go_wp2
 go_loopw [5,1] (fun i y wr=>∃k:Nat,k≤n∧i= .int .i64 k∧y= .int .i64 (z+4*(sumL L k:Int))∧RowsF F wr (.slice a n cap) n U L (fun i=>if i<k then mkRows z L i else C i)∧Turns F w wr) (fun i _ _=>n-(intOf i).toNat)
 case atStart=>exact⟨0,Nat.zero_le _,rfl,by simp [sumL],HR0.out.congr (fun i _=>by simp),Turns.refl _ _⟩
 case round=>
  obtain⟨k,hk,rfl,rfl,hR,hg⟩:=hrel
  have HR:Hid (RowsF F wr (.slice a n cap) n U L (fun i=>if i<k then mkRows z L i else C i)):=hR
  have HG:Hid (Turns F w wr):=hg
  clear hR hg
  by_cases hlt:k<n
  ·obtain⟨g,rfl⟩:=ha.resolve_left (by omega)
   have hc:=HR.out.cell hlt
   obtain⟨a1,c1,e1⟩:=HR.out.len hlt
   obtain⟨K,hK1,hK2,hK3⟩:=HR.out.step hlt
   have HK1:Hid (RowF K wr (U k) (L k) 4 (if k<k then mkRows z L k else C k)):=hK1
   have HK2:Hid (∀b,K b→F b):=hK2
   have HK3:Hid (∀w' cs,RowF K w' (U k) (L k) 4 cs→Turns K wr w'→RowsF F w' (.slice (some ⟨g,0,none⟩) n cap) n U L (fun i=>if i=k then cs else if i<k then mkRows z L i else C i)):=hK3
   have hs:sumL L k+L k≤1048577:=Nat.le_trans (sumL_mono L (show k+1≤n from hlt)) HL.out
   have E1:Hid (U k= .slice a1 (L k) c1):=e1
   rw [e1]at hc
   clear hK1 hK2 hK3 ha e1
   obtain⟨y,hy⟩:∃y:Int,y=z+4*(sumL L k:Int):=⟨_,rfl⟩
   have hy0:0≤y:=by omega
   have hy1:y≤1073741824:=by omega
   have HY:Hid (y=z+4*(sumL L k:Int)):=hy
   rw [←hy]
   clear hy
   go_wp2_with fail
   refine(markOF (F:=K) (n:=L k) y (by omega) hy0 hy1 (by have:=HK1.out;rw [E1.out]at this;exact this)).mono ?_
   rintro e w2 ⟨rfl,hr,ht⟩
   have HR2:Hid (RowsF F w2 (.slice (some ⟨g,0,none⟩) n cap) n U L (fun i=>if i<k+1 then mkRows z L i else C i)):=by
    refine(HK3.out w2 _ (by rw [E1.out];exact hr) ht).congr (fun i hi=> ?_)
    by_cases e:i=k
    ·subst e
     simp [mkRows,HY.out]
    ·by_cases e2:i<k
     ·simp [e,e2,show i<k+1 by omega]
     ·simp [e,e2,show¬i<k+1 by omega]
   have HG2:Hid (Turns F w w2):=HG.out.trans (ht.mono HK2.out)
   clear hr ht
   go_wp2
   go_roundw
   case rel=>exact⟨k+1,by omega,by go_num,by rw [show y+4*(L k:Int)=z+4*(sumL L (k+1):Int)from by have:=HY.out;simp only [sumL];omega],HR2.out,HG2.out⟩
   case measure=>simp [intOf];omega
  ·go_wp2
   go_ret
   obtain rfl:k=n:=by omega
   exact⟨rfl,HR.out.congr (fun i hi=>by simp [hi]),HG.out⟩
theorem OAt.turns {S:Nat→Prop} {w w':World} {b o:Nat} {e:O} (h:OAt w b o e) (ht:Turns S w w') (hb:b<w.heap.size) (hS:¬S b):OAt w' b o e:=
 ⟨(ht.cell hb hS).trans h.f0,(ht.cell hb hS).trans h.f1,(ht.cell hb hS).trans h.f2,(ht.cell hb hS).trans h.f3⟩
theorem FillO.turns {S:Nat→Prop} {w w':World} {g n k:Nat} {l:List O} (h:FillO w g n l k) (ht:Turns S w w') (hS:¬S g):FillO w' g n l k:=
 ⟨Nat.lt_of_lt_of_le h.1 ht.size,fun j hj=>by rw [ht.cell h.1 hS,ht.frozen h.1 hS];exact h.2.1 j hj,fun i hi=>(h.2.2 i hi).turns ht h.1 hS⟩
def FillH (w:World) (g n:Nat) (l:List (List O)) (k:Nat):Prop:=g<w.heap.size∧(∀j,j<n→(w.cell? ⟨g,j,none⟩).isSome=true∧w.frozen? ⟨g,j,none⟩=false)∧
 ∃G:Nat→Nat,∀i,i<k→w.cell? ⟨g,i,none⟩=some (sl (G i) (hAt l i).length)∧FillO w (G i) (hAt l i).length (hAt l i) (hAt l i).length∧g<G i∧ ∀j,j<i→G j<G i
theorem FillH.made {B:Nat} {w1:World} {z:List Value} {n:Nat} {l:List (List O)} (h:w1.ownsRow B 179 1 (.slice (some ⟨B,0,none⟩) n n) n z):FillH w1 B n l 0:=by
 obtain⟨hl,h|⟨g,cap,cur,e,hg,hc,h1,h2,h3,h4⟩⟩:=h
 ·simp at h
 ·simp at e
  obtain⟨rfl,rfl⟩:=e
  have hlt:B<w1.heap.size:=(Array.getElem?_eq_some_iff.1 hc).1
  refine⟨hlt,fun j hj=> ?_,fun _=>0,fun i hi=>by omega⟩
  have hj2:j<cur.size:=by omega
  simp [World.cell?,World.frozen?,hc,hj2]
theorem FillH.below {w w':World} {g n k:Nat} {l:List (List O)} (h:FillH w g n l k) (hb:Below w.heap.size w w'):FillH w' g n l k:=by
 obtain⟨h1,h2,G,h3⟩:=h
 refine⟨Nat.lt_of_lt_of_le h1 hb.size,fun j hj=>by rw [hb.cell (p:=⟨g,j,none⟩) h1,hb.frozen (p:=⟨g,j,none⟩) h1];exact h2 j hj,G,fun i hi=> ?_⟩
 obtain⟨a,b,c,d⟩:=h3 i hi
 exact⟨(hb.cell (p:=⟨g,i,none⟩) h1).trans a,b.below hb b.1,c,d⟩
theorem FillH.put {w:World} {g n k R:Nat} {l:List (List O)} (h:FillH w g n l k) (hk:k<n) (hr:FillO w R (hAt l k).length (hAt l k) (hAt l k).length) (hg:g<R) (hnew:∀j,j<k→ ∀r,w.cell? ⟨g,j,none⟩=some (sl r (hAt l j).length)→r<R):
  FillH (w.setCell ⟨g,k,none⟩ (sl R (hAt l k).length)) g n l (k+1):=by
 obtain⟨h1,h2,G,h3⟩:=h
 have e1:w.setCell ⟨g,k,none⟩ (sl R (hAt l k).length)=w.setCells g k [sl R (hAt l k).length]:=rfl
 have hsame:∀j,j≠k→(w.setCell ⟨g,k,none⟩ (sl R (hAt l k).length)).cell? ⟨g,j,none⟩=w.cell? ⟨g,j,none⟩:=fun j hj=>by
  rw [e1]
  exact World.cell?_setCells_out g _ k w ⟨g,j,none⟩ (fun _ _=>by simp;omega)
 have hat:(w.setCell ⟨g,k,none⟩ (sl R (hAt l k).length)).cell? ⟨g,k,none⟩=some (sl R (hAt l k).length):=by
  rw [e1]
  have h0:=World.cell?_setCells_in g [sl R (hAt l k).length] k w (fun j hj=>by
   obtain rfl:j=0:=by simpa using hj
   exact(h2 k hk).1) 0 (by simp)
  simpa using h0
 have ht:Turns (fun b=>b=g) w (w.setCell ⟨g,k,none⟩ (sl R (hAt l k).length)):=(Turns.refl (fun b=>b=g) w).setCell (p:=⟨g,k,none⟩) rfl _
 refine⟨by simpa using h1,fun j hj=>⟨?_,?_⟩,fun i=>if i=k then R else G i,fun i hi=> ?_⟩
 ·by_cases e:j=k
  ·subst e;rw [hat];rfl
  ·rw [hsame j e];exact(h2 j hj).1
 ·rw [e1,World.frozen?_setCells];exact(h2 j hj).2
 ·by_cases e:i=k
  ·subst e
   simp only [if_true]
   refine⟨hat,hr.turns ht (by omega),hg,fun j hj=> ?_⟩
   rw [if_neg (by omega)]
   exact hnew j hj _ (h3 j hj).1
  ·obtain⟨a,b,c,d⟩:=h3 i (by omega)
   simp only [if_neg e]
   refine⟨(hsame i e).trans a,b.turns ht (by omega),c,fun j hj=> ?_⟩
   rw [if_neg (by omega)]
   exact d j hj
theorem FillH.old {w:World} {g n k:Nat} {l:List (List O)} (h:FillH w g n l k):∀j,j<k→ ∀r,w.cell? ⟨g,j,none⟩=some (sl r (hAt l j).length)→r<w.heap.size:=by
 obtain⟨h1,h2,G,h3⟩:=h
 intro j hj r hr
 obtain⟨a,b,_⟩:=h3 j hj
 rw [a]at hr
 simp at hr
 exact hr▸b.1
theorem FillH.rows {w:World} {g:Nat} {l:List (List O)} (h:FillH w g l.length l l.length) (hl:l.length≤maxLen) (hr:∀i,(hAt l i).length≤maxLen):HsF (fun k=>g≤k∧k<w.heap.size) w (sl g l.length) l:=by
 obtain⟨h1,h2,G,h3⟩:=h
 refine⟨fun i=>sl (G i) (hAt l i).length,fun k=>k=g,fun i k=>k=G i,⟨by simp,_,_,rfl,Nat.le_refl _,hl,.inr ⟨g,rfl,rfl,h1,fun j hj=> ?_⟩⟩,fun k e=>by subst e;exact⟨Nat.le_refl _,h1⟩,fun i hi=>⟨(h3 i hi).2.1.row (hr i),fun k e=> ?_⟩,fun i j hi hj hij k e1 e2=> ?_⟩
 ·have hj':j<l.length:=by omega
  refine⟨?_,(h2 j hj').2⟩
  rw [(h3 j hj').1]
  simp [hj']
 ·obtain⟨_,b,c,_⟩:=h3 i hi
  subst e
  exact⟨⟨Nat.le_of_lt c,b.1⟩,by omega⟩
 ·rcases Nat.lt_or_gt_of_ne hij with h|h
  ·have:=(h3 j hj).2.2.2 i h;omega
  ·have:=(h3 i hi).2.2.2 j h;omega
theorem infoRow:(Tryz.prog.info? 179).map (fun i=>(i.zero,i.size,i.bytes))=some (some (.slice none 0 0),1,24):=by kernel_rfl
set_option maxHeartbeats 1000000 in
theorem toOpSS_any (x:Value) (l:List (List O)) (w:World) (hl:l.length≤1048576) (hr:∀i,(hAt l i).length≤1048576) (h:IsH w x l):
  Calls Tryz.prog 90 #[x] w fun e w'=>e= .returned (sl w.heap.size l.length)∧Below w.heap.size w w'∧FillH w' w.heap.size l.length l l.length:=by
 obtain⟨a,cap,rfl,h1,h2,h⟩:=h
 rcases h with rfl|⟨b,off,rfl,hb,h⟩
 ·obtain⟨i0,hi,hz0,hz1,hz2⟩:=info_parts infoRow
  go_enter Tryz.func90,Tryz.ntmps90
  go_wp2_with (at_make;refine wpList_make_full _ rfl _ _ 33 rfl w.heap.size 179 i0 _ 1 Tryz.underlying33 hi hz0 hz1 .i64 .i64 0 0 0 rfl rfl rfl rfl (by rw [hz2];omega) (by unfold maxLen;omega) (Nat.le_refl _) ?_;intro w1 hown hgrow)
  have hB1:Below w.heap.size w w1:=(Below.refl _ _).grown hgrow (Nat.le_refl _) (fun k e=>by cases e)
  have hR1:FillH w1 w.heap.size 0 [] 0:=FillH.made hown
  clear hown hgrow hi hz0 hz1 hz2
  go_loop [4] (fun i=>i= .int .i64 0) (fun _=>0)
  case atStart=>rfl
  case round=>
   subst hrel
   go_wp2
   go_ret
   exact⟨rfl,hB1,hR1⟩
 ·have hp:(0:Int)≤(l.length:Int):=by omega
  obtain⟨i0,hi,hz0,hz1,hz2⟩:=info_parts infoRow
  go_enter Tryz.func90,Tryz.ntmps90
  go_wp2_with (at_make;refine wpList_make_full _ rfl _ _ 33 rfl w.heap.size 179 i0 _ 1 Tryz.underlying33 hi hz0 hz1 .i64 .i64 l.length l.length l.length rfl rfl rfl rfl (by rw [hz2];omega) (by unfold maxLen;omega) (Nat.le_refl _) ?_;intro w1 hown hgrow)
  have hB1:Below w.heap.size w w1:=(Below.refl _ _).grown hgrow (Nat.le_refl _) (fun k e=>by cases e)
  have hR1:FillH w1 w.heap.size l.length l 0:=FillH.made hown
  clear hown hgrow hi hz0 hz1 hz2
  go_loopw [4] (fun i wr=>∃k:Nat,k≤l.length∧i= .int .i64 k∧Below w.heap.size w wr∧FillH wr w.heap.size l.length l k) (fun i _=>l.length-(intOf i).toNat)
  case atStart=>exact⟨0,Nat.zero_le _,rfl,hB1,hR1⟩
  case round=>
   obtain⟨k,hk,rfl,hB,hR⟩:=hrel
   have HB:Hid (Below w.heap.size w wr):=hB
   have HR:Hid (FillH wr w.heap.size l.length l k):=hR
   by_cases hlt:k<l.length
   ·obtain⟨u,f0,hu⟩:=h k hlt
    replace f0:=(hB.cell (p:=⟨b,off+k,none⟩) hb).trans f0
    have HU:Hid (IsO wr u (hAt l k)):=hu.below hB
    have HL:Hid ((hAt l k).length≤1048576):=hr k
    clear hB hR hB1 hR1 h hu hr
    have hg:w.heap.size<wr.heap.size:=HR.out.1
    go_wp2_with (go_at_call 138;refine(toOpS_any _ (hAt l k) _ HL.out HU.out).mono ?_;rintro e w2 ⟨rfl,hb2,hf2⟩;have HF2:Hid (FillO w2 wr.heap.size (hAt l k).length (hAt l k) (hAt l k).length):=hf2;have HR2:Hid (FillH w2 w.heap.size l.length l k):=HR.out.below hb2;obtain⟨c0,g0⟩:=Option.isSome_iff_exists.1 (HR2.out.2.1 k hlt).1;have z0:=(HR2.out.2.1 k hlt).2)
    go_roundw
    case rel=>
     refine⟨k+1,by omega,by go_num,(HB.out.trans (hb2.mono (by omega))).setCell (Nat.le_refl _) _,HR2.out.put hlt HF2.out hg (fun j hj r e=> ?_)⟩
     have h1:=HR.out.1
     rw [hb2.cell (p:=⟨w.heap.size,j,none⟩) h1]at e
     exact HR.out.old j hj r e
    case measure=>simp [intOf];omega
   ·clear hB hR hB1 hR1 h
    go_wp2
    go_ret
    obtain rfl:k=l.length:=by omega
    exact⟨rfl,HB.out,HR.out⟩
set_option maxHeartbeats 1000000 in
theorem eqOp_same (c a b k:Int) (w:World):
  Calls Tryz.prog 184 #[.agg #[.int .i64 c,.int .i64 a,.int .i64 b,.int .i64 k],.agg #[.int .i64 c,.int .i64 a,.int .i64 b,.int .i64 k]] w fun e w'=>e= .returned (.bool true)∧Below w.heap.size w w':=by
 go_enter Tryz.func184,Tryz.ntmps184
 go_wp2
 go_ret
 exact⟨rfl,((Below.refl _ _).alloc (Nat.le_refl _) _).alloc (by simp) _⟩
set_option maxHeartbeats 1000000 in
theorem eqO_same (x y:Value) (l:List O) (w:World) (hl:l.length≤1048576) (hx:IsO w x l) (hy:IsO w y l):
  Calls Tryz.prog 144 #[x,y] w fun e w'=>e= .returned (.bool true)∧Below w.heap.size w w':=by
 obtain⟨a,cap,rfl,h1,h2,h⟩:=hx
 obtain⟨a',cap',rfl,h1',h2',h'⟩:=hy
 clear h1 h2 h1' h2'
 by_cases hz:l= []
 ·subst hz
  clear h h'
  go_enter Tryz.func144,Tryz.ntmps144
  go_wp2
  go_loop [5] (fun i=>i= .int .i64 0) (fun _=>0)
  case atStart=>rfl
  case round=>
   subst hrel
   go_wp2
   go_ret
   exact⟨rfl,Below.refl _ _⟩
 ·obtain⟨b,off,rfl,hb,hc⟩:=h.resolve_left hz
  obtain⟨b',off',rfl,hb',hc'⟩:=h'.resolve_left hz
  clear h h' hz
  go_enter Tryz.func144,Tryz.ntmps144
  go_wp2
  go_loopw [5] (fun i wr=>∃k:Nat,k≤l.length∧i= .int .i64 k∧Below w.heap.size w wr) (fun i _=>l.length-(intOf i).toNat)
  case atStart=>exact⟨0,Nat.zero_le _,rfl,Below.refl _ _⟩
  case round=>
   obtain⟨k,hk,rfl,hB⟩:=hrel
   have HB:Hid (Below w.heap.size w wr):=hB
   by_cases hlt:k<l.length
   ·obtain⟨f0,f1,f2,f3⟩:=(hc k hlt).below hB hb
    obtain⟨e0,e1,e2,e3⟩:=(hc' k hlt).below hB hb'
    have hbr:b<wr.heap.size:=Nat.lt_of_lt_of_le hb hB.size
    have hbr':b'<wr.heap.size:=Nat.lt_of_lt_of_le hb' hB.size
    clear hB hc hc'
    go_wp2_with fail
    go_region_held3 (fun W=>W.cell? ⟨b,off+k*4,none⟩=some (.int .i64 (oAt l k).c)∧W.cell? ⟨b,off+k*4+1,none⟩=some (.int .i64 (oAt l k).a)∧W.cell? ⟨b,off+k*4+2,none⟩=some (.int .i64 (oAt l k).b)∧W.cell? ⟨b,off+k*4+3,none⟩=some (.int .i64 (oAt l k).k)∧W.cell? ⟨b',off'+k*4,none⟩=some (.int .i64 (oAt l k).c)∧W.cell? ⟨b',off'+k*4+1,none⟩=some (.int .i64 (oAt l k).a)∧W.cell? ⟨b',off'+k*4+2,none⟩=some (.int .i64 (oAt l k).b)∧W.cell? ⟨b',off'+k*4+3,none⟩=some (.int .i64 (oAt l k).k)) ((repeat' apply And.intro)<;>first|(go_keep;done)|(rw [hcA _ _ (by first|omega|(simp;omega)|simp [*])];simp [*];done))
     (first|(go_at_call 184;refine(eqOp_same _ _ _ _ _).mono ?_;rintro e w2 ⟨rfl,hb2⟩;obtain⟨hcA,hfA⟩:=bcell hb2))
    clear hcA hfA
    go_wp2
    go_roundw
    case rel=>exact⟨k+1,by omega,by go_num,HB.out.drew.trans (hb2.mono (by have:=HB.out.size;simpa using this))⟩
    case measure=>simp [intOf];omega
   ·clear hB hc hc'
    go_wp2
    go_ret
    exact⟨rfl,HB.out⟩
theorem IsO.slice {w:World} {u:Value} {l:List O} (h:IsO w u l):∃a cap,u= .slice a l.length cap:=by
 obtain⟨a,cap,e,_⟩:=h
 exact⟨a,cap,e⟩
set_option maxHeartbeats 1000000 in
theorem eqH_same (x y:Value) (l:List (List O)) (w:World) (hl:l.length≤1048576) (hr:∀i,(hAt l i).length≤1048576) (hx:IsH w x l) (hy:IsH w y l):
  Calls Tryz.prog 95 #[x,y] w fun e w'=>e= .returned (.bool true)∧Below w.heap.size w w':=by
 obtain⟨a,cap,rfl,h1,h2,h⟩:=hx
 obtain⟨a',cap',rfl,h1',h2',h'⟩:=hy
 clear h1 h2 h1' h2'
 by_cases hz:l= []
 ·subst hz
  clear h h'
  go_enter Tryz.func95,Tryz.ntmps95
  go_wp2
  go_loop [5] (fun i=>i= .int .i64 0) (fun _=>0)
  case atStart=>rfl
  case round=>
   subst hrel
   go_wp2
   go_ret
   exact⟨rfl,Below.refl _ _⟩
 ·obtain⟨b,off,rfl,hb,hc⟩:=h.resolve_left hz
  obtain⟨b',off',rfl,hb',hc'⟩:=h'.resolve_left hz
  clear h h' hz
  go_enter Tryz.func95,Tryz.ntmps95
  go_wp2
  go_loopw [5] (fun i wr=>∃k:Nat,k≤l.length∧i= .int .i64 k∧Below w.heap.size w wr) (fun i _=>l.length-(intOf i).toNat)
  case atStart=>exact⟨0,Nat.zero_le _,rfl,Below.refl _ _⟩
  case round=>
   obtain⟨k,hk,rfl,hB⟩:=hrel
   have HB:Hid (Below w.heap.size w wr):=hB
   by_cases hlt:k<l.length
   ·obtain⟨u,f0,hu⟩:=hc k hlt
    obtain⟨v,e0,hv⟩:=hc' k hlt
    replace f0:=(hB.cell (p:=⟨b,off+k,none⟩) hb).trans f0
    replace e0:=(hB.cell (p:=⟨b',off'+k,none⟩) hb').trans e0
    have HU:Hid (IsO wr u (hAt l k)):=hu.below hB
    have HV:Hid (IsO wr v (hAt l k)):=hv.below hB
    have hbr:b<wr.heap.size:=Nat.lt_of_lt_of_le hb hB.size
    have hbr':b'<wr.heap.size:=Nat.lt_of_lt_of_le hb' hB.size
    have HL:Hid ((hAt l k).length≤1048576):=hr k
    obtain⟨a1,c1,rfl⟩:=hu.slice
    obtain⟨a2,c2,rfl⟩:=hv.slice
    clear hB hc hc' hr hu hv
    go_wp2_with fail
    go_region_held3 (fun W=>W.cell? ⟨b,off+k,none⟩=some (.slice a1 (hAt l k).length c1)∧W.cell? ⟨b',off'+k,none⟩=some (.slice a2 (hAt l k).length c2)) ((repeat' apply And.intro)<;>first|(go_keep;done)|(rw [hcA _ _ (by first|omega|(simp;omega)|simp [*])];simp [*];done))
     (first|(go_at_call 144;refine(eqO_same _ _ (hAt l k) _ HL.out (HU.out.below (Below.refl _ wr).drew) (HV.out.below (Below.refl _ wr).drew)).mono ?_;rintro e w2 ⟨rfl,hb2⟩;obtain⟨hcA,hfA⟩:=bcell hb2))
    clear hcA hfA
    go_wp2
    go_roundw
    case rel=>exact⟨k+1,by omega,by go_num,HB.out.drew.trans (hb2.mono (by have:=HB.out.size;simpa using this))⟩
    case measure=>simp [intOf];omega
   ·clear hB hc hc'
    go_wp2
    go_ret
    exact⟨rfl,HB.out⟩
set_option maxHeartbeats 1000000 in
theorem eqEvent_same (t s q d k v g:Int) (w:World):
  Calls Tryz.prog 126 #[.agg #[.int .i64 t,.int .i64 s,.int .i64 q,.int .i64 d,.int .i64 k,.int .i64 v,.int .i64 g],.agg #[.int .i64 t,.int .i64 s,.int .i64 q,.int .i64 d,.int .i64 k,.int .i64 v,.int .i64 g]] w fun e w'=>e= .returned (.bool true)∧Below w.heap.size w w':=by
 go_enter Tryz.func126,Tryz.ntmps126
 go_wp2
 go_ret
 exact⟨rfl,((Below.refl _ _).alloc (Nat.le_refl _) _).alloc (by simp) _⟩
set_option maxHeartbeats 1000000 in
theorem eqS_same (x y:Value) (l:List Ev) (w:World) (hl:l.length≤1048576) (hx:IsEvs w x l) (hy:IsEvs w y l):
  Calls Tryz.prog 68 #[x,y] w fun e w'=>e= .returned (.bool true)∧Below w.heap.size w w':=by
 obtain⟨a,cap,rfl,h1,h2,h⟩:=hx
 obtain⟨a',cap',rfl,h1',h2',h'⟩:=hy
 clear h1 h2 h1' h2'
 by_cases hz:l= []
 ·subst hz
  clear h h'
  go_enter Tryz.func68,Tryz.ntmps68
  go_wp2
  go_loop [5] (fun i=>i= .int .i64 0) (fun _=>0)
  case atStart=>rfl
  case round=>
   subst hrel
   go_wp2
   go_ret
   exact⟨rfl,Below.refl _ _⟩
 ·obtain⟨b,off,rfl,hb,hc⟩:=h.resolve_left hz
  obtain⟨b',off',rfl,hb',hc'⟩:=h'.resolve_left hz
  clear h h' hz
  go_enter Tryz.func68,Tryz.ntmps68
  go_wp2
  go_loopw [5] (fun i wr=>∃k:Nat,k≤l.length∧i= .int .i64 k∧Below w.heap.size w wr) (fun i _=>l.length-(intOf i).toNat)
  case atStart=>exact⟨0,Nat.zero_le _,rfl,Below.refl _ _⟩
  case round=>
   obtain⟨k,hk,rfl,hB⟩:=hrel
   have HB:Hid (Below w.heap.size w wr):=hB
   by_cases hlt:k<l.length
   ·obtain⟨f0,f1,f2,f3,f4,f5,f6⟩:=(hc k hlt).below hB hb
    obtain⟨e0,e1,e2,e3,e4,e5,e6⟩:=(hc' k hlt).below hB hb'
    have hbr:b<wr.heap.size:=Nat.lt_of_lt_of_le hb hB.size
    have hbr':b'<wr.heap.size:=Nat.lt_of_lt_of_le hb' hB.size
    clear hB hc hc'
    go_wp2_with fail
    go_region_held3 (fun W=>W.cell? ⟨b,off+k*7,none⟩=some (.int .i64 (evAt l k).t)∧W.cell? ⟨b,off+k*7+1,none⟩=some (.int .i64 (evAt l k).s)∧W.cell? ⟨b,off+k*7+2,none⟩=some (.int .i64 (evAt l k).q)∧W.cell? ⟨b,off+k*7+3,none⟩=some (.int .i64 (evAt l k).d)∧W.cell? ⟨b,off+k*7+4,none⟩=some (.int .i64 (evAt l k).k)∧W.cell? ⟨b,off+k*7+5,none⟩=some (.int .i64 (evAt l k).v)∧W.cell? ⟨b,off+k*7+6,none⟩=some (.int .i64 (evAt l k).g)∧W.cell? ⟨b',off'+k*7,none⟩=some (.int .i64 (evAt l k).t)∧W.cell? ⟨b',off'+k*7+1,none⟩=some (.int .i64 (evAt l k).s)∧W.cell? ⟨b',off'+k*7+2,none⟩=some (.int .i64 (evAt l k).q)∧W.cell? ⟨b',off'+k*7+3,none⟩=some (.int .i64 (evAt l k).d)∧W.cell? ⟨b',off'+k*7+4,none⟩=some (.int .i64 (evAt l k).k)∧W.cell? ⟨b',off'+k*7+5,none⟩=some (.int .i64 (evAt l k).v)∧W.cell? ⟨b',off'+k*7+6,none⟩=some (.int .i64 (evAt l k).g)) ((repeat' apply And.intro)<;>first|(go_keep;done)|(rw [hcA _ _ (by first|omega|(simp;omega)|simp [*])];simp [*];done))
     (first|(go_at_call 126;refine(eqEvent_same _ _ _ _ _ _ _ _).mono ?_;rintro e w2 ⟨rfl,hb2⟩;obtain⟨hcA,hfA⟩:=bcell hb2))
    clear hcA hfA
    go_wp2
    go_roundw
    case rel=>exact⟨k+1,by omega,by go_num,HB.out.drew.trans (hb2.mono (by have:=HB.out.size;simpa using this))⟩
    case measure=>simp [intOf];omega
   ·clear hB hc hc'
    go_wp2
    go_ret
    exact⟨rfl,HB.out⟩
def Bk (w:World) (P:Nat) (T:TypeId) (vs:Array Value):Prop:=w.heap[P]? =some (.cells vs T)
theorem Bk.lt {w:World} {P:Nat} {T:TypeId} {vs:Array Value} (h:Bk w P T vs):P<w.heap.size:=(Array.getElem?_eq_some_iff.1 h).1
theorem Bk.cell {w:World} {P:Nat} {T:TypeId} {vs:Array Value} (h:Bk w P T vs) {i:Nat} {v:Value} (hv:vs[i]? =some v):w.cell? ⟨P,i,none⟩=some v:=by
 have h':w.heap[P]? =some (.cells vs T):=h
 unfold World.cell?
 simp [h',hv]
theorem Bk.free {w:World} {P:Nat} {T:TypeId} {vs:Array Value} (h:Bk w P T vs) (o:Nat):w.frozen? ⟨P,o,none⟩=false:=by
 have h':w.heap[P]? =some (.cells vs T):=h
 unfold World.frozen?
 simp [h']
theorem Bk.keep {w w':World} {B P:Nat} {T:TypeId} {vs:Array Value} (h:Bk w P T vs) (hb:Below B w w') (hB:P<B):Bk w' P T vs:=(hb.block P hB).trans h
theorem Bk.below {w w':World} {P:Nat} {T:TypeId} {vs:Array Value} (h:Bk w P T vs) (hb:Below w.heap.size w w'):Bk w' P T vs:=h.keep hb h.lt
theorem Bk.turns {S:Nat→Prop} {w w':World} {P:Nat} {T:TypeId} {vs:Array Value} (h:Bk w P T vs) (ht:Turns S w w') (hS:¬S P):Bk w' P T vs:=(ht.block P h.lt hS).trans h
theorem Bk.drew {w:World} {P:Nat} {T:TypeId} {vs:Array Value} (h:Bk w P T vs):Bk w.drew P T vs:=h
theorem Bk.new (w:World) (T:TypeId) (vs:Array Value):Bk (w.alloc (.cells vs T)) w.heap.size T vs:=by
 show(w.heap.push _)[w.heap.size]? =_
 simp
theorem Bk.newAt {w:World} {P:Nat} (hP:P=w.heap.size) (T:TypeId) (vs:Array Value):Bk (w.alloc (.cells vs T)) P T vs:=hP▸Bk.new w T vs
theorem Bk.alloc {w:World} {P:Nat} {T:TypeId} {vs:Array Value} (h:Bk w P T vs) (o:Obj):Bk (w.alloc o) P T vs:=h.keep ((Below.refl w.heap.size w).alloc (Nat.le_refl _) o) h.lt
theorem Bk.put {w:World} {P:Nat} {T:TypeId} {vs:Array Value} (h:Bk w P T vs) (i:Nat) (v:Value):Bk (w.setCell ⟨P,i,none⟩ v) P T (vs.setIfInBounds i v):=by
 have h':w.heap[P]? =some (.cells vs T):=h
 obtain⟨hl,hv⟩:=Array.getElem?_eq_some_iff.1 h'
 unfold Bk
 simp [World.setCell,hl,Array.getElem_modify,hv]
theorem Bk.other {w:World} {P b:Nat} {T:TypeId} {vs:Array Value} (h:Bk w P T vs) (i:Nat) (v:Value) (hb:P≠b):Bk (w.setCell ⟨b,i,none⟩ v) P T vs:=
 (Below.heap_setCell _ _ _ _ hb).trans h
theorem put1_turns (w:World) (g o:Nat) (u:Value):Turns (fun b=>b=g) w (w.setCell ⟨g,o,none⟩ u):=(Turns.refl (fun b=>b=g) w).setCell (p:=⟨g,o,none⟩) rfl _
abbrev put6 (w:World) (R:Nat) (v0 v1 v2 v3 v4 v5:Value):World:=
 (((((w.setCell ⟨R,0,none⟩ v0).setCell ⟨R,1,none⟩ v1).setCell ⟨R,2,none⟩ v2).setCell ⟨R,3,none⟩ v3).setCell ⟨R,4,none⟩ v4).setCell ⟨R,5,none⟩ v5
theorem Bk.put6 {w:World} {R:Nat} {T:TypeId} {a0 a1 a2 a3 a4 a5:Value} (h:Bk w R T #[a0,a1,a2,a3,a4,a5]) (v0 v1 v2 v3 v4 v5:Value):Bk (put6 w R v0 v1 v2 v3 v4 v5) R T #[v0,v1,v2,v3,v4,v5]:=
 (((((h.put 0 v0).put 1 v1).put 2 v2).put 3 v3).put 4 v4).put 5 v5
theorem put6_turns (w:World) (R:Nat) (v0 v1 v2 v3 v4 v5:Value):Turns (fun b=>b=R) w (put6 w R v0 v1 v2 v3 v4 v5):=
 (((((put1_turns w R 0 v0).trans (put1_turns _ R 1 v1)).trans (put1_turns _ R 2 v2)).trans (put1_turns _ R 3 v3)).trans (put1_turns _ R 4 v4)).trans (put1_turns _ R 5 v5)
structure SmallM (m:Md):Prop where
 i:m.i.length≤1048576
 h:m.h.length≤1048576
 r:∀i,(hAt m.h i).length≤1048576
 t:sumL (lens m.h) m.h.length≤1048576
 e:m.e.length≤1048576
theorem RowI.rowF {w:World} {g:Nat} {l:List Int} (h:RowI w g l) (hl:l.length≤maxLen):RowF (fun k=>k=g) w (sl g l.length) l.length 1 (intCells l):=by
 refine⟨by simp [intCells],_,_,rfl,Nat.le_refl _,hl,.inr ⟨g,rfl,rfl,h.1,fun j hj=>⟨?_,(h.2 j (by omega)).2⟩⟩⟩
 have hj':j<l.length:=by omega
 rw [(h.2 j hj').1]
 simp [intCells,intAt,hj']
theorem RowTo.rowF {w:World} {g:Nat} {l:List Ev} (h:RowTo w g l.length l l.length) (hl:l.length≤maxLen):RowF (fun k=>k=g) w (sl g l.length) l.length 7 (cellsL l):=by
 refine⟨cellsL_length l,_,_,rfl,Nat.le_refl _,hl,.inr ⟨g,rfl,rfl,h.1,fun j hj=>⟨?_,(h.2.1 j hj).2⟩⟩⟩
 have hi:j/7<l.length:=by omega
 have e:=cellsL_get l _ (j%7) hi (by omega)
 rw [show j/7*7+j%7=j from by omega]at e
 have hlt:j<(cellsL l).length:=by rw [cellsL_length];exact hj
 rw [List.getElem?_eq_getElem hlt]at e⊢
 have:=(h.2.2 _ hi).get e.symm
 rw [show j/7*7+j%7=j from by omega]at this
 exact this
set_option maxHeartbeats 2000000 in
theorem toModel_any (x:Value) (m:Md) (w:World) (hs:SmallM m) (h:IsM w x m):
  Calls Tryz.prog 42 #[x] w fun e w'=>∃y,e= .returned y∧Below w.heap.size w w'∧MdF (fun k=>w.heap.size≤k∧k<w'.heap.size) w' y m:=by
 obtain⟨vi,vh,vs,rfl,h1,h2,h3⟩:=h
 obtain⟨n,s,i,hh,ev,z⟩:=m
 have HI:Hid (IsI w vi i):=h1
 have HH:Hid (IsH w vh hh):=h2
 have HE:Hid (IsEvs w vs ev):=h3
 have HS:Hid (SmallM ⟨n,s,i,hh,ev,z⟩):=hs
 clear h1 h2 h3 hs
 obtain⟨W0,hW0⟩:∃W0,((w.alloc (.cells #[.int .i64 n,.int .i64 s,vi,vh,vs,.int .i64 z] 26)).alloc (.cells #[.int .i64 0,.int .i64 0,.slice none 0 0,.slice none 0 0,.slice none 0 0,.int .i64 0] 36)).alloc (.cells #[.int .i64 n,.int .i64 s,.slice none 0 0,.slice none 0 0,.slice none 0 0,.int .i64 0] 36)=W0:=⟨_,rfl⟩
 have HB0:Hid (Below w.heap.size w W0):=by rw [←hW0];exact(((Below.refl _ w).alloc (Nat.le_refl _) _).alloc (by simp) _).alloc (by simp;omega) _
 have HP0:Hid (Bk W0 w.heap.size 26 #[.int .i64 n,.int .i64 s,vi,vh,vs,.int .i64 z]):=by rw [←hW0];exact((Bk.new w _ _).alloc _).alloc _
 have HR0:Hid (Bk W0 (w.heap.size+1) 36 #[.int .i64 0,.int .i64 0,.slice none 0 0,.slice none 0 0,.slice none 0 0,.int .i64 0]):=by rw [←hW0];exact(Bk.newAt (by simp) _ _).alloc _
 have HQ0:Hid (Bk W0 (w.heap.size+1+1) 36 #[.int .i64 n,.int .i64 s,.slice none 0 0,.slice none 0 0,.slice none 0 0,.int .i64 0]):=by rw [←hW0];exact Bk.newAt (by simp) _ _
 have HW0:Hid (((w.alloc (.cells #[.int .i64 n,.int .i64 s,vi,vh,vs,.int .i64 z] 26)).alloc (.cells #[.int .i64 0,.int .i64 0,.slice none 0 0,.slice none 0 0,.slice none 0 0,.int .i64 0] 36)).alloc (.cells #[.int .i64 n,.int .i64 s,.slice none 0 0,.slice none 0 0,.slice none 0 0,.int .i64 0] 36)=W0):=hW0
 clear hW0
 go_enter Tryz.func42,Tryz.ntmps42
 go_wp2_with fail
 rw [HW0.out]
 clear HW0
 refine(toI_any _ i _ HS.out.i (HI.out.below HB0.out)).mono ?_
 rintro e w1 ⟨rfl,hb,hr⟩
 have HI1:Hid (RowI w1 W0.heap.size i):=hr
 have hz1:W0.heap.size<w1.heap.size:=hr.1
 have hq:=HQ0.out.lt
 have HX1:Hid (Below w.heap.size w w1):=HB0.out.trans (hb.mono (by omega))
 have HPa:=HP0.out.below hb
 have HRa:=HR0.out.below hb
 have HQa:=HQ0.out.below hb
 clear hb hr HB0 HP0 HR0 HQ0
 obtain⟨X1,hX1⟩:∃X1,w1.setCell ⟨w.heap.size+1+1,2,none⟩ (sl W0.heap.size i.length)=X1:=⟨_,rfl⟩
 have q2:=HQa.cell (i:=2) rfl
 have qf:=HQa.free 2
 have HP1:Hid (Bk X1 w.heap.size 26 #[.int .i64 n,.int .i64 s,vi,vh,vs,.int .i64 z]):=hX1▸HPa.other 2 _ (by omega)
 have HR1:Hid (Bk X1 (w.heap.size+1) 36 #[.int .i64 0,.int .i64 0,.slice none 0 0,.slice none 0 0,.slice none 0 0,.int .i64 0]):=hX1▸HRa.other 2 _ (by omega)
 have HQ1:Hid (Bk X1 (w.heap.size+1+1) 36 #[.int .i64 n,.int .i64 s,sl W0.heap.size i.length,.slice none 0 0,.slice none 0 0,.int .i64 0]):=hX1▸HQa.put 2 _
 have p3:=HP1.out.cell (i:=3) rfl
 have HI1:Hid (RowF (fun k=>k=W0.heap.size) X1 (sl W0.heap.size i.length) i.length 1 (intCells i)):=hX1▸(HI1.out.rowF (by have:i.length≤1048576:=HS.out.i;unfold maxLen;omega)).turns (one_add w1 (w.heap.size+1+1) 2 _) (fun k e=>by omega)
 have HX1:Hid (Below w.heap.size w X1):=hX1▸HX1.out.setCell (p:=⟨w.heap.size+1+1,2,none⟩) (by show w.heap.size≤w.heap.size+1+1;omega) _
 have hy1:W0.heap.size<X1.heap.size:=by rw [←hX1];simpa using hz1
 clear HPa HRa HQa
 go_wp2_with fail
 clear p3 q2 qf hX1 hz1
 refine(toOpSS_any _ hh _ HS.out.h HS.out.r (HH.out.below HX1.out)).mono ?_
 rintro e w2 ⟨rfl,hb,hr⟩
 have HH2:Hid (HsF (fun k=>X1.heap.size≤k∧k<w2.heap.size) w2 (sl X1.heap.size hh.length) hh):=hr.rows (by have:hh.length≤1048576:=HS.out.h;unfold maxLen;omega) (fun i=>by have:(hAt hh i).length≤1048576:=HS.out.r i;unfold maxLen;omega)
 have hz2:X1.heap.size<w2.heap.size:=hr.1
 have HX2:Hid (Below w.heap.size w w2):=HX1.out.trans (hb.mono (by omega))
 have HI2:Hid (RowF (fun k=>k=W0.heap.size) w2 (sl W0.heap.size i.length) i.length 1 (intCells i)):=HI1.out.below hb
 have HP2:=HP1.out.below hb
 have HR2:=HR1.out.below hb
 have HQ2:=HQ1.out.below hb
 clear hb hr HX1 HI1 HP1 HR1 HQ1
 obtain⟨X2,hX2⟩:∃X2,w2.setCell ⟨w.heap.size+1+1,3,none⟩ (sl X1.heap.size hh.length)=X2:=⟨_,rfl⟩
 have q3:=HQ2.cell (i:=3) rfl
 have qf:=HQ2.free 3
 have HP3:Hid (Bk X2 w.heap.size 26 #[.int .i64 n,.int .i64 s,vi,vh,vs,.int .i64 z]):=hX2▸HP2.other 3 _ (by omega)
 have HR3:Hid (Bk X2 (w.heap.size+1) 36 #[.int .i64 0,.int .i64 0,.slice none 0 0,.slice none 0 0,.slice none 0 0,.int .i64 0]):=hX2▸HR2.other 3 _ (by omega)
 have HQ3:Hid (Bk X2 (w.heap.size+1+1) 36 #[.int .i64 n,.int .i64 s,sl W0.heap.size i.length,sl X1.heap.size hh.length,.slice none 0 0,.int .i64 0]):=hX2▸HQ2.put 3 _
 have p4:=HP3.out.cell (i:=4) rfl
 have ht2:=one_add w2 (w.heap.size+1+1) 3 (sl X1.heap.size hh.length)
 rw [hX2]at ht2
 have HI3:Hid (RowF (fun k=>k=W0.heap.size) X2 (sl W0.heap.size i.length) i.length 1 (intCells i)):=HI2.out.turns ht2 (fun k e=>by omega)
 obtain⟨U,hU⟩:=HH2.out
 have HH3:Hid (HsF (fun k=>X1.heap.size≤k∧k<w2.heap.size) X2 (sl X1.heap.size hh.length) hh):=⟨U,hU.turns ht2 (fun k e=>by omega)⟩
 have HX3:Hid (Below w.heap.size w X2):=hX2▸HX2.out.setCell (p:=⟨w.heap.size+1+1,3,none⟩) (by show w.heap.size≤w.heap.size+1+1;omega) _
 have hy2:w2.heap.size≤X2.heap.size:=ht2.size
 clear hU HP2 HR2 HQ2 ht2 HI2 HH2 HX2
 go_wp2_with fail
 clear p4 q3 qf hX2
 refine(toEventS_any _ ev _ HS.out.e (HE.out.below HX3.out)).mono ?_
 rintro e w3 ⟨rfl,hb,hr⟩
 have HE4:Hid (RowF (fun k=>k=X2.heap.size) w3 (sl X2.heap.size ev.length) ev.length 7 (cellsL ev)):=hr.rowF (by have:ev.length≤1048576:=HS.out.e;unfold maxLen;omega)
 have hz3:X2.heap.size<w3.heap.size:=hr.1
 have HX4:Hid (Below w.heap.size w w3):=HX3.out.trans (hb.mono (by omega))
 have HI4:Hid (RowF (fun k=>k=W0.heap.size) w3 (sl W0.heap.size i.length) i.length 1 (intCells i)):=HI3.out.below hb
 obtain⟨U,hU⟩:=HH3.out
 have HH4:Hid (HsF (fun k=>X1.heap.size≤k∧k<w2.heap.size) w3 (sl X1.heap.size hh.length) hh):=⟨U,hU.below hb⟩
 have HP4:=HP3.out.below hb
 have HR4:=HR3.out.below hb
 have HQ4:=HQ3.out.below hb
 clear hb hr HX3 HI3 HH3 HP3 HR3 HQ3 hU
 obtain⟨X3,hX3⟩:∃X3,w3.setCell ⟨w.heap.size+1+1,4,none⟩ (sl X2.heap.size ev.length)=X3:=⟨_,rfl⟩
 obtain⟨X4,hX4⟩:∃X4,X3.setCell ⟨w.heap.size+1+1,5,none⟩ (.int .i64 z)=X4:=⟨_,rfl⟩
 have q4:=HQ4.cell (i:=4) rfl
 have qf:=HQ4.free 4
 have HP5:Bk X3 w.heap.size 26 #[.int .i64 n,.int .i64 s,vi,vh,vs,.int .i64 z]:=hX3▸HP4.other 4 _ (by omega)
 have p5:=HP5.cell (i:=5) rfl
 have HQ5:Bk X3 (w.heap.size+1+1) 36 #[.int .i64 n,.int .i64 s,sl W0.heap.size i.length,sl X1.heap.size hh.length,sl X2.heap.size ev.length,.int .i64 0]:=hX3▸HQ4.put 4 _
 have q5:=HQ5.cell (i:=5) rfl
 have qf5:=HQ5.free 5
 have HQ6:Bk X4 (w.heap.size+1+1) 36 #[.int .i64 n,.int .i64 s,sl W0.heap.size i.length,sl X1.heap.size hh.length,sl X2.heap.size ev.length,.int .i64 z]:=hX4▸HQ5.put 5 _
 have HR5:Bk X3 (w.heap.size+1) 36 #[.int .i64 0,.int .i64 0,.slice none 0 0,.slice none 0 0,.slice none 0 0,.int .i64 0]:=hX3▸HR4.other 4 _ (by omega)
 have HR6:Bk X4 (w.heap.size+1) 36 #[.int .i64 0,.int .i64 0,.slice none 0 0,.slice none 0 0,.slice none 0 0,.int .i64 0]:=hX4▸HR5.other 5 _ (by omega)
 have o0:=HQ6.cell (i:=0) rfl
 have o1:=HQ6.cell (i:=1) rfl
 have o2:=HQ6.cell (i:=2) rfl
 have o3:=HQ6.cell (i:=3) rfl
 have o4:=HQ6.cell (i:=4) rfl
 have o5:=HQ6.cell (i:=5) rfl
 have r0:=HR6.cell (i:=0) rfl
 have r1:=HR6.cell (i:=1) rfl
 have r2:=HR6.cell (i:=2) rfl
 have r3:=HR6.cell (i:=3) rfl
 have r4:=HR6.cell (i:=4) rfl
 have r5:=HR6.cell (i:=5) rfl
 have rf:=HR6.free
 have HR7:Hid (Bk X4 (w.heap.size+1) 36 #[.int .i64 0,.int .i64 0,.slice none 0 0,.slice none 0 0,.slice none 0 0,.int .i64 0]):=HR6
 have ht3:=(one_add w3 (w.heap.size+1+1) 4 (sl X2.heap.size ev.length))
 rw [hX3]at ht3
 have ht4:=one_add X3 (w.heap.size+1+1) 5 (.int .i64 z)
 rw [hX4]at ht4
 have HT:Hid (Turns (fun k=>k=w.heap.size+1+1) w3 X4):=ht3.trans ht4
 clear HP4 HQ4 HP5 HQ5 HQ6 HR4 HR5 HR6 ht3 ht4
 go_wp2
 clear o0 o1 o2 o3 o4 o5 r0 r1 r2 r3 r4 r5 rf
 obtain⟨X5,hX5⟩:∃X5,put6 X4 (w.heap.size+1) (.int .i64 n) (.int .i64 s) (.slice (some ⟨W0.heap.size,0,none⟩) i.length i.length) (.slice (some ⟨X1.heap.size,0,none⟩) hh.length hh.length) (.slice (some ⟨X2.heap.size,0,none⟩) ev.length ev.length) (.int .i64 z)=X5:=⟨_,rfl⟩
 have hR:=HR7.out.put6 (.int .i64 n) (.int .i64 s) (.slice (some ⟨W0.heap.size,0,none⟩) i.length i.length) (.slice (some ⟨X1.heap.size,0,none⟩) hh.length hh.length) (.slice (some ⟨X2.heap.size,0,none⟩) ev.length ev.length) (.int .i64 z)
 have ht:=put6_turns X4 (w.heap.size+1) (.int .i64 n) (.int .i64 s) (.slice (some ⟨W0.heap.size,0,none⟩) i.length i.length) (.slice (some ⟨X1.heap.size,0,none⟩) hh.length hh.length) (.slice (some ⟨X2.heap.size,0,none⟩) ev.length ev.length) (.int .i64 z)
 rw [hX5]at hR ht
 unfold put6 at hX5
 rw [hX5]
 have t0:=hR.cell (i:=0) rfl
 have t1:=hR.cell (i:=1) rfl
 have t2:=hR.cell (i:=2) rfl
 have t3:=hR.cell (i:=3) rfl
 have t4:=hR.cell (i:=4) rfl
 have t5:=hR.cell (i:=5) rfl
 have hT:Turns (fun k=>k=w.heap.size+1+1∨k=w.heap.size+1) w3 X5:=(HT.out.mono (fun k e=> .inl e)).trans (ht.mono (fun k e=> .inr e))
 have hsz:=hT.size
 obtain⟨U,hU⟩:=HH4.out
 refine bodyPost_ret (v:= .agg #[.int .i64 n,.int .i64 s,sl W0.heap.size i.length,sl X1.heap.size hh.length,sl X2.heap.size ev.length,.int .i64 z]) (by simp [results,Tryz.results42,go_sem,t0,t1,t2,t3,t4,t5]) rfl
  ⟨_,rfl,HX4.out.trans (hT.to_below (fun k e=>by omega) (by omega)),(fun k=>k=W0.heap.size),(fun k=>X1.heap.size≤k∧k<w2.heap.size),(fun k=>k=X2.heap.size),_,_,_,rfl,?_,⟨U,?_⟩,?_,fun k e=> ?_,fun k e=> ?_,fun k e=> ?_⟩
 ·exact HI4.out.turns hT (fun k e=>by omega)
 ·exact hU.turns hT (fun k e=>by omega)
 ·exact HE4.out.turns hT (fun k e=>by omega)
 ·exact⟨by omega,by omega,by omega⟩
 ·exact⟨by omega,by omega⟩
 ·exact by omega
theorem MdF.form {F:Nat→Prop} {w:World} {y:Value} {m:Md} (h:MdF F w y m):∃ai ci ah ch ae ce,y= .agg #[.int .i64 m.n,.int .i64 m.s,.slice ai m.i.length ci,.slice ah m.h.length ch,.slice ae m.e.length ce,.int .i64 m.z]:=by
 obtain⟨A,B,C,vi,vh,vs,rfl,⟨_,a1,c1,rfl,_⟩,⟨U,F0,G,⟨_,a2,c2,rfl,_⟩,_⟩,⟨_,a3,c3,rfl,_⟩,_⟩:=h
 exact⟨a1,c1,a2,c2,a3,c3,rfl⟩
set_option maxHeartbeats 2000000 in
theorem eqModel_same (x y:Value) (m:Md) (w:World) (hs:SmallM m) (hx:IsM w x m) (hy:IsM w y m):
  Calls Tryz.prog 48 #[x,y] w fun e w'=>e= .returned (.bool true)∧Below w.heap.size w w':=by
 obtain⟨vi,vh,vs,rfl,h1,h2,h3⟩:=hx
 obtain⟨ui,uh,us,rfl,k1,k2,k3⟩:=hy
 obtain⟨n,s,i,hh,ev,z⟩:=m
 have HI:Hid (IsI w vi i∧IsI w ui i):=⟨h1,k1⟩
 have HH:Hid (IsH w vh hh∧IsH w uh hh):=⟨h2,k2⟩
 have HE:Hid (IsEvs w vs ev∧IsEvs w us ev):=⟨h3,k3⟩
 have HS:Hid (SmallM ⟨n,s,i,hh,ev,z⟩):=hs
 clear h1 h2 h3 k1 k2 k3 hs
 obtain⟨W0,hW0⟩:∃W0,(w.alloc (.cells #[.int .i64 n,.int .i64 s,vi,vh,vs,.int .i64 z] 36)).alloc (.cells #[.int .i64 n,.int .i64 s,ui,uh,us,.int .i64 z] 36)=W0:=⟨_,rfl⟩
 have HB0:Hid (Below w.heap.size w W0):=by rw [←hW0];exact((Below.refl _ w).alloc (Nat.le_refl _) _).alloc (by simp) _
 have HP0:Hid (Bk W0 w.heap.size 36 #[.int .i64 n,.int .i64 s,vi,vh,vs,.int .i64 z]):=by rw [←hW0];exact(Bk.new w _ _).alloc _
 have HQ0:Hid (Bk W0 (w.heap.size+1) 36 #[.int .i64 n,.int .i64 s,ui,uh,us,.int .i64 z]):=by rw [←hW0];exact Bk.newAt (by simp) _ _
 have p0:=HP0.out.cell (i:=0) rfl
 have p1:=HP0.out.cell (i:=1) rfl
 have p2:=HP0.out.cell (i:=2) rfl
 have q0:=HQ0.out.cell (i:=0) rfl
 have q1:=HQ0.out.cell (i:=1) rfl
 have q2:=HQ0.out.cell (i:=2) rfl
 go_enter Tryz.func48,Tryz.ntmps48
 go_wp2_with fail
 clear p0 p1 p2 q0 q1 q2 hW0
 refine(eqI_same _ _ i _ (by have:i.length≤1048576:=HS.out.i;omega) (HI.out.1.below HB0.out) (HI.out.2.below HB0.out)).mono ?_
 rintro e w1 ⟨rfl,hb⟩
 have HB1:Hid (Below w.heap.size w w1):=HB0.out.trans (hb.mono HB0.out.size)
 have HP1:Hid (Bk w1 w.heap.size 36 #[.int .i64 n,.int .i64 s,vi,vh,vs,.int .i64 z]):=HP0.out.below hb
 have HQ1:Hid (Bk w1 (w.heap.size+1) 36 #[.int .i64 n,.int .i64 s,ui,uh,us,.int .i64 z]):=HQ0.out.below hb
 have p3:=HP1.out.cell (i:=3) rfl
 have q3:=HQ1.out.cell (i:=3) rfl
 clear hb HB0 HP0 HQ0
 go_wp2_with fail
 clear p3 q3
 refine(eqH_same _ _ hh _ HS.out.h HS.out.r (HH.out.1.below HB1.out) (HH.out.2.below HB1.out)).mono ?_
 rintro e w2 ⟨rfl,hb⟩
 have HB2:Hid (Below w.heap.size w w2):=HB1.out.trans (hb.mono HB1.out.size)
 have HP2:Hid (Bk w2 w.heap.size 36 #[.int .i64 n,.int .i64 s,vi,vh,vs,.int .i64 z]):=HP1.out.below hb
 have HQ2:Hid (Bk w2 (w.heap.size+1) 36 #[.int .i64 n,.int .i64 s,ui,uh,us,.int .i64 z]):=HQ1.out.below hb
 have p4:=HP2.out.cell (i:=4) rfl
 have q4:=HQ2.out.cell (i:=4) rfl
 clear hb HB1 HP1 HQ1
 go_wp2_with fail
 clear p4 q4
 refine(eqS_same _ _ ev _ HS.out.e (HE.out.1.below HB2.out) (HE.out.2.below HB2.out)).mono ?_
 rintro e w3 ⟨rfl,hb⟩
 have HB3:Hid (Below w.heap.size w w3):=HB2.out.trans (hb.mono HB2.out.size)
 have p5:=(HP2.out.below hb).cell (i:=5) rfl
 have q5:=(HQ2.out.below hb).cell (i:=5) rfl
 clear hb HB2 HP2 HQ2
 go_wp2
 go_ret
 exact⟨rfl,HB3.out⟩
def HeldM (F:Nat→Prop) (w:World) (x:Value) (m:Md):Prop:=
 ∃(A B C:Nat→Prop) (vi vh vs:Value) (U:Nat→Value),x= .agg #[.int .i64 m.n,.int .i64 m.s,vi,vh,vs,.int .i64 m.z]∧RowF A w vi m.i.length 1 (mkCells 1 (m.i.length*1))∧
  RowsF B w vh m.h.length U (lens m.h) (mkRows (1+(m.i.length:Int)) (lens m.h))∧RowF C w vs m.e.length 7 (mkCells (1+(m.i.length:Int)+4*(sumL (lens m.h) m.h.length:Int)) (m.e.length*7))∧
  (∀k,A k→F k∧ ¬B k∧ ¬C k)∧(∀k,B k→F k∧ ¬C k)∧ ∀k,C k→F k
theorem HeldM.turns {F S:Nat→Prop} {w w':World} {x:Value} {m:Md} (h:HeldM F w x m) (ht:Turns S w w') (hS:∀k,F k→ ¬S k):HeldM F w' x m:=by
 obtain⟨A,B,C,vi,vh,vs,U,rfl,h1,h2,h3,h4,h5,h6⟩:=h
 exact⟨A,B,C,vi,vh,vs,U,rfl,h1.turns ht (fun k hk=>hS k (h4 k hk).1),h2.turns ht (fun k hk=>hS k (h5 k hk).1),h3.turns ht (fun k hk=>hS k (h6 k hk)),h4,h5,h6⟩
def markNo (m:Md):Int:=1+(m.i.length:Int)+4*(sumL (lens m.h) m.h.length:Int)+7*(m.e.length:Int)
theorem markNo_pos (m:Md):1≤markNo m:=by unfold markNo;omega
set_option maxHeartbeats 2000000 in
theorem markModel_any {F:Nat→Prop} {x:Value} {m:Md} {w:World} (hs:SmallM m) (h:MdF F w x m) (hF:∀k,F k→k<w.heap.size):
  Calls Tryz.prog 50 #[x,.int .i64 1] w fun e w'=>e= .returned (.int .i64 (markNo m))∧HeldM F w' x m∧Turns F w w':=by
 obtain⟨A,B,C,vi,vh,vs,rfl,h1,⟨U,h2⟩,h3,h4,h5,h6⟩:=h
 obtain⟨n,s,i,hh,ev,z⟩:=m
 have HI:Hid (RowF A w vi i.length 1 (intCells i)):=h1
 have HH:Hid (RowsF B w vh hh.length U (lens hh) (fun i=>cellsO (hAt hh i))):=h2
 have HE:Hid (RowF C w vs ev.length 7 (cellsL ev)):=h3
 have HS:Hid (SmallM ⟨n,s,i,hh,ev,z⟩):=hs
 have HF:Hid ((∀k,F k→k<w.heap.size)∧(∀k,A k→F k∧ ¬B k∧ ¬C k)∧(∀k,B k→F k∧ ¬C k)∧ ∀k,C k→F k):=⟨hF,h4,h5,h6⟩
 clear h1 h2 h3 h4 h5 h6 hs hF
 obtain⟨W0,hW0⟩:∃W0,w.alloc (.cells #[.int .i64 n,.int .i64 s,vi,vh,vs,.int .i64 z] 36)=W0:=⟨_,rfl⟩
 have HB0:Hid (Below w.heap.size w W0):=by rw [←hW0];exact(Below.refl _ w).alloc (Nat.le_refl _) _
 have HP0:Hid (Bk W0 w.heap.size 36 #[.int .i64 n,.int .i64 s,vi,vh,vs,.int .i64 z]):=by rw [←hW0];exact Bk.new w _ _
 have p2:=HP0.out.cell (i:=2) rfl
 have hi:i.length≤1048576:=HS.out.i
 have hh1:sumL (lens hh) hh.length≤1048576:=HS.out.t
 have hh2:hh.length≤1048576:=HS.out.h
 have he:ev.length≤1048576:=HS.out.e
 go_enter Tryz.func50,Tryz.ntmps50
 go_wp2_with fail
 clear p2 hW0
 refine(markIF (F:=A) 1 (by omega) (by omega) (by omega) (HI.out.below HB0.out)).mono ?_
 rintro e w1 ⟨rfl,hr,ht⟩
 have HT1:Hid (Turns F W0 w1):=ht.mono (fun k hk=>(HF.out.2.1 k hk).1)
 have HI1:Hid (RowF A w1 vi i.length 1 (mkCells 1 (i.length*1))):=hr
 have HH1:Hid (RowsF B w1 vh hh.length U (lens hh) (fun i=>cellsO (hAt hh i))):=(HH.out.below HB0.out).turns ht (fun k hk ha=>(HF.out.2.1 k ha).2.1 hk)
 have HE1:Hid (RowF C w1 vs ev.length 7 (cellsL ev)):=(HE.out.below HB0.out).turns ht (fun k hk ha=>(HF.out.2.1 k ha).2.2 hk)
 have HP1:Hid (Bk w1 w.heap.size 36 #[.int .i64 n,.int .i64 s,vi,vh,vs,.int .i64 z]):=HP0.out.turns HT1.out (fun hk=>by have:=HF.out.1 _ hk;omega)
 have p3:=HP1.out.cell (i:=3) rfl
 clear hr ht HI HH HE HP0
 go_wp2_with fail
 clear p3
 refine(markHF (F:=B) (1+(i.length:Int)) (by omega) (by omega) (by omega) (by omega) HH1.out).mono ?_
 rintro e w2 ⟨rfl,hr,ht⟩
 have HT2:Hid (Turns F W0 w2):=HT1.out.trans (ht.mono (fun k hk=>(HF.out.2.2.1 k hk).1))
 have HI2:Hid (RowF A w2 vi i.length 1 (mkCells 1 (i.length*1))):=HI1.out.turns ht (fun k hk hb=>(HF.out.2.1 k hk).2.1 hb)
 have HH2:Hid (RowsF B w2 vh hh.length U (lens hh) (mkRows (1+(i.length:Int)) (lens hh))):=hr
 have HE2:Hid (RowF C w2 vs ev.length 7 (cellsL ev)):=HE1.out.turns ht (fun k hk hb=>(HF.out.2.2.1 k hb).2 hk)
 have HP2:Hid (Bk w2 w.heap.size 36 #[.int .i64 n,.int .i64 s,vi,vh,vs,.int .i64 z]):=HP1.out.turns ht (fun hk=>by have:=HF.out.1 _ (HF.out.2.2.1 _ hk).1;omega)
 have p4:=HP2.out.cell (i:=4) rfl
 clear hr ht HI1 HH1 HE1 HP1 HT1
 go_wp2_with fail
 clear p4
 refine(markEF (F:=C) (1+(i.length:Int)+4*(sumL (lens hh) hh.length:Int)) (by omega) (by omega) (by omega) HE2.out).mono ?_
 rintro e w3 ⟨rfl,hr,ht⟩
 have HT3:Hid (Turns F W0 w3):=HT2.out.trans (ht.mono (fun k hk=>HF.out.2.2.2 k hk))
 have HI3:Hid (RowF A w3 vi i.length 1 (mkCells 1 (i.length*1))):=HI2.out.turns ht (fun k hk hc=>(HF.out.2.1 k hk).2.2 hc)
 have HH3:Hid (RowsF B w3 vh hh.length U (lens hh) (mkRows (1+(i.length:Int)) (lens hh))):=HH2.out.turns ht (fun k hk hc=>(HF.out.2.2.1 k hk).2 hc)
 have HE3:Hid (RowF C w3 vs ev.length 7 (mkCells (1+(i.length:Int)+4*(sumL (lens hh) hh.length:Int)) (ev.length*7))):=hr
 clear hr ht HI2 HH2 HE2 HP2 HT2
 go_wp2
 go_ret
 exact⟨rfl,⟨A,B,C,vi,vh,vs,U,rfl,HI3.out,HH3.out,HE3.out,HF.out.2⟩,(Turns.of_below HB0.out).trans HT3.out⟩
structure Em where
 t:Int
 l:Int
 v:Int
def xAt (l:List Em) (i:Nat):Em:=l.getD i ⟨0,0,0⟩
def Em.cs (e:Em):List Value:= [.int .i64 e.t,.int .i64 e.l,.int .i64 e.v]
def cellsX:List Em→List Value
 | []=> []
 |e::l=>e.cs++cellsX l
theorem cellsX_length:∀l:List Em,(cellsX l).length=l.length*3
 | []=>rfl
 |e::l=>by simp [cellsX,cellsX_length l,Em.cs];omega
theorem cellsX_append:∀l l':List Em,cellsX (l++l')=cellsX l++cellsX l'
 | [],_=>rfl
 |e::l,l'=>by simp [cellsX,cellsX_append l l']
theorem xAt_cons_succ (e:Em) (l:List Em) (i:Nat):xAt (e::l) (i+1)=xAt l i:=by simp [xAt]
theorem cellsX_get:∀(l:List Em) (i r:Nat),i<l.length→r<3→(cellsX l)[i*3+r]? =(xAt l i).cs[r]?
 | [],_,_,h,_=>by simp at h
 |e::l,0,r,_,hr=>by
  have:r<e.cs.length:=by simpa [Em.cs] using hr
  simp only [cellsX,Nat.zero_mul,Nat.zero_add]
  rw [List.getElem?_append_left this]
  simp [xAt]
 |e::l,i+1,r,h,hr=>by
  have h1:=cellsX_get l i r (by simpa using h) hr
  have:e.cs.length≤(i+1)*3+r:=by simp [Em.cs];omega
  simp only [cellsX]
  rw [List.getElem?_append_right this,xAt_cons_succ,←h1]
  congr 1
  simp [Em.cs];omega
structure XAt (w:World) (b o:Nat) (e:Em):Prop where
 f0:w.cell? ⟨b,o,none⟩=some (.int .i64 e.t)
 f1:w.cell? ⟨b,o+1,none⟩=some (.int .i64 e.l)
 f2:w.cell? ⟨b,o+2,none⟩=some (.int .i64 e.v)
theorem XAt.below {w w':World} {B b o:Nat} {e:Em} (h:XAt w b o e) (hb:Below B w w') (hlt:b<B):XAt w' b o e:=
 ⟨(hb.cell hlt).trans h.f0,(hb.cell hlt).trans h.f1,(hb.cell hlt).trans h.f2⟩
def XsAt (w:World) (b off:Nat) (l:List Em):Prop:=b<w.heap.size∧ ∀i,i<l.length→XAt w b (off+i*3) (xAt l i)
def IsX (w:World) (x:Value) (l:List Em):Prop:=∃a cap,x= .slice a l.length cap∧l.length≤cap∧cap≤maxLen∧(l= []∨ ∃b off,a=some ⟨b,off,none⟩∧XsAt w b off l)
theorem XsAt.below {w w':World} {B b off:Nat} {l:List Em} (h:XsAt w b off l) (hb:Below B w w') (hB:b<B):XsAt w' b off l:=
 ⟨Nat.lt_of_lt_of_le h.1 hb.size,fun i hi=>(h.2 i hi).below hb hB⟩
theorem IsX.below {w w':World} {x:Value} {l:List Em} (h:IsX w x l) (hb:Below w.heap.size w w'):IsX w' x l:=by
 obtain⟨a,cap,rfl,h1,h2,h⟩:=h
 exact⟨a,cap,rfl,h1,h2,h.imp id (fun⟨b,off,e,h⟩=>⟨b,off,e,h.below hb h.1⟩)⟩
theorem RowF.isX {F:Nat→Prop} {w:World} {x:Value} {l:List Em} (h:RowF F w x l.length 3 (cellsX l)):IsX w x l:=by
 obtain⟨hl,a,cap,rfl,h1,h2,h⟩:=h
 refine⟨a,cap,rfl,h1,h2,h.imp List.eq_nil_of_length_eq_zero ?_⟩
 rintro ⟨g,rfl,hF,hg,hc⟩
 refine⟨g,0,rfl,hg,fun i hi=> ?_⟩
 have hget:∀r,r<3→w.cell? ⟨g,0+i*3+r,none⟩=(xAt l i).cs[r]? :=fun r hr=>by
  rw [←cellsX_get l i r hi hr,Nat.zero_add]
  exact(hc _ (by omega)).1
 exact⟨hget 0 (by omega),hget 1 (by omega),hget 2 (by omega)⟩
set_option maxHeartbeats 1000000 in
theorem eqEmit_same (t l v:Int) (w:World):
  Calls Tryz.prog 127 #[.agg #[.int .i64 t,.int .i64 l,.int .i64 v],.agg #[.int .i64 t,.int .i64 l,.int .i64 v]] w fun e w'=>e= .returned (.bool true)∧Below w.heap.size w w':=by
 go_enter Tryz.func127,Tryz.ntmps127
 go_wp2
 go_ret
 exact⟨rfl,((Below.refl _ _).alloc (Nat.le_refl _) _).alloc (by simp) _⟩
set_option maxHeartbeats 1000000 in
theorem eqX_same (x y:Value) (l:List Em) (w:World) (hl:l.length≤1048576) (hx:IsX w x l) (hy:IsX w y l):
  Calls Tryz.prog 69 #[x,y] w fun e w'=>e= .returned (.bool true)∧Below w.heap.size w w':=by
 obtain⟨a,cap,rfl,h1,h2,h⟩:=hx
 obtain⟨a',cap',rfl,h1',h2',h'⟩:=hy
 clear h1 h2 h1' h2'
 by_cases hz:l= []
 ·subst hz
  clear h h'
  go_enter Tryz.func69,Tryz.ntmps69
  go_wp2
  go_loop [5] (fun i=>i= .int .i64 0) (fun _=>0)
  case atStart=>rfl
  case round=>
   subst hrel
   go_wp2
   go_ret
   exact⟨rfl,Below.refl _ _⟩
 ·obtain⟨b,off,rfl,hb,hc⟩:=h.resolve_left hz
  obtain⟨b',off',rfl,hb',hc'⟩:=h'.resolve_left hz
  clear h h' hz
  go_enter Tryz.func69,Tryz.ntmps69
  go_wp2
  go_loopw [5] (fun i wr=>∃k:Nat,k≤l.length∧i= .int .i64 k∧Below w.heap.size w wr) (fun i _=>l.length-(intOf i).toNat)
  case atStart=>exact⟨0,Nat.zero_le _,rfl,Below.refl _ _⟩
  case round=>
   obtain⟨k,hk,rfl,hB⟩:=hrel
   have HB:Hid (Below w.heap.size w wr):=hB
   by_cases hlt:k<l.length
   ·obtain⟨f0,f1,f2⟩:=(hc k hlt).below hB hb
    obtain⟨e0,e1,e2⟩:=(hc' k hlt).below hB hb'
    have hbr:b<wr.heap.size:=Nat.lt_of_lt_of_le hb hB.size
    have hbr':b'<wr.heap.size:=Nat.lt_of_lt_of_le hb' hB.size
    clear hB hc hc'
    go_wp2_with fail
    go_region_held3 (fun W=>W.cell? ⟨b,off+k*3,none⟩=some (.int .i64 (xAt l k).t)∧W.cell? ⟨b,off+k*3+1,none⟩=some (.int .i64 (xAt l k).l)∧W.cell? ⟨b,off+k*3+2,none⟩=some (.int .i64 (xAt l k).v)∧W.cell? ⟨b',off'+k*3,none⟩=some (.int .i64 (xAt l k).t)∧W.cell? ⟨b',off'+k*3+1,none⟩=some (.int .i64 (xAt l k).l)∧W.cell? ⟨b',off'+k*3+2,none⟩=some (.int .i64 (xAt l k).v)) ((repeat' apply And.intro)<;>first|(go_keep;done)|(rw [hcA _ _ (by first|omega|(simp;omega)|simp [*])];simp [*];done))
     (first|(go_at_call 127;refine(eqEmit_same _ _ _ _).mono ?_;rintro e w2 ⟨rfl,hb2⟩;obtain⟨hcA,hfA⟩:=bcell hb2))
    clear hcA hfA
    go_wp2
    go_roundw
    case rel=>exact⟨k+1,by omega,by go_num,HB.out.drew.trans (hb2.mono (by have:=HB.out.size;simpa using this))⟩
    case measure=>simp [intOf];omega
   ·clear hB hc hc'
    go_wp2
    go_ret
    exact⟨rfl,HB.out⟩
set_option maxHeartbeats 4000000 in
theorem markXF {F:Nat→Prop} {x:Value} {n:Nat} {cs:List Value} {w:World} (z:Int) (hn:n≤1048577) (hz0:0≤z) (hz1:z≤1073741824) (h:RowF F w x n 3 cs):
  Calls Tryz.prog 75 #[x,.int .i64 z] w fun e w'=>e= .returned (.int .i64 (z+3*(n:Int)))∧RowF F w' x n 3 (mkCells z (n*3))∧Turns F w w':=by
 obtain⟨a,cap,rfl,h1,h2,h⟩:=h.mkTo z
 have HM:Hid (n≤cap∧cap≤maxLen):=⟨h1,h2⟩
 clear h1 h2
 by_cases hz:n=0
 ·subst hz
  clear h
  go_enter Tryz.func75,Tryz.ntmps75
  go_wp2
  go_loop [5,1] (fun i y=>i= .int .i64 0∧y= .int .i64 z) (fun _ _=>0)
  case atStart=>exact⟨rfl,rfl⟩
  case round=>
   obtain⟨rfl,rfl⟩:=hrel
   go_wp2
   go_ret
   exact⟨ret_int (by simp),RowF.nil HM.out.2,Turns.refl _ _⟩
 ·obtain⟨g,rfl,hF,h⟩:=h.resolve_left hz
  have HR0:Hid (MkTo w g (n*3) z 0):=h
  have HF:Hid (F g):=hF
  clear h hz hF
  go_enter Tryz.func75,Tryz.ntmps75
  go_wp2
  go_loopw [5,1] (fun i y wr=>∃k:Nat,k≤n∧i= .int .i64 k∧y= .int .i64 (z+3*(k:Int))∧MkTo wr g (n*3) z (k*3)∧Turns (fun b=>b=g) w wr) (fun i _ _=>n-(intOf i).toNat)
  case atStart=>exact⟨0,Nat.zero_le _,rfl,by simp,by rw [Nat.zero_mul];exact HR0.out,Turns.refl _ _⟩
  case round=>
   obtain⟨k,hk,rfl,rfl,hR,hg⟩:=hrel
   have HR:Hid (MkTo wr g (n*3) z (k*3)):=hR
   have HG:Hid (Turns (fun b=>b=g) w wr):=hg
   clear hR hg
   by_cases hlt:k<n
   ·have hh:∀j,j<3→(∃u,wr.cell? ⟨g,k*3+j,none⟩=some u)∧wr.frozen? ⟨g,k*3+j,none⟩=false:=fun j hj=>⟨Option.isSome_iff_exists.1 (HR.out.2.1 _ (by omega)).1,(HR.out.2.1 _ (by omega)).2⟩
    obtain⟨⟨v0,g0⟩,f0⟩:=hh 0 (by omega)
    obtain⟨⟨v1,g1⟩,f1⟩:=hh 1 (by omega)
    obtain⟨⟨v2,g2⟩,f2⟩:=hh 2 (by omega)
    rw [Nat.add_zero]at g0 f0
    clear hh
    obtain⟨y,hy⟩:∃y:Int,y=z+3*(k:Int):=⟨_,rfl⟩
    have hy0:0≤y:=by omega
    have hy1:y≤1090000000:=by omega
    have HY:Hid (y=z+3*(k:Int)):=hy
    rw [←hy]
    clear hy
    go_wp2
    go_roundw
    case rel=>
     have hY:=HY.out
     refine⟨k+1,by omega,by go_num,by rw [show y+1+1+1=z+3*((k+1:Nat):Int)from by omega],?_,?_⟩
     ·rw [show(k+1)*3=k*3+3 from by omega]
      exact((HR.out.put (by omega) (u:=y) (by omega)).put (by omega) (u:=y+1) (by omega)).put (by omega) (u:=y+1+1) (by omega)
     ·exact HG.out.trans (((one_add wr g _ _).trans (one_add _ _ _ _)).trans (one_add _ _ _ _))
    case measure=>simp [intOf];omega
   ·go_wp2
    go_ret
    obtain rfl:k=n:=by omega
    exact⟨rfl,MkTo.row HR.out HF.out HM.out.1 HM.out.2,HG.out.mono (fun k e=>e▸HF.out)⟩
set_option maxHeartbeats 4000000 in
theorem heldXF {F:Nat→Prop} {x:Value} {n:Nat} {w:World} (z:Int) (hn:n≤1048577) (hz0:0≤z) (hz1:z≤1073741824) (h:RowF F w x n 3 (mkCells z (n*3))):
  Calls Tryz.prog 77 #[x,.int .i64 z] w fun e w'=>e= .returned (.int .i64 (z+3*(n:Int)))∧w'=w:=by
 obtain⟨a,cap,rfl,hm⟩:=h.marked
 clear h
 by_cases hz:n=0
 ·subst hz
  clear hm
  go_enter Tryz.func77,Tryz.ntmps77
  go_wp2
  go_loop [5,1] (fun i y=>i= .int .i64 0∧y= .int .i64 z) (fun _ _=>0)
  case atStart=>exact⟨rfl,rfl⟩
  case round=>
   obtain⟨rfl,rfl⟩:=hrel
   go_wp2
   go_ret
   exact⟨ret_int (by simp),rfl⟩
 ·obtain⟨g,rfl,h⟩:=hm.resolve_left hz
  have HR:Hid (∀j,j<n*3→w.cell? ⟨g,j,none⟩=some (.int .i64 (z+(j:Int)))):=h
  clear h hz hm
  go_enter Tryz.func77,Tryz.ntmps77
  go_wp2
  go_loop [5,1] (fun i y=>∃k:Nat,k≤n∧i= .int .i64 k∧y= .int .i64 (z+3*(k:Int))) (fun i _=>n-(intOf i).toNat)
  case atStart=>exact⟨0,Nat.zero_le _,rfl,by simp⟩
  case round=>
   obtain⟨k,hk,rfl,rfl⟩:=hrel
   by_cases hlt:k<n
   ·have hh:=fun j (hj:j<3)=>HR.out (k*3+j) (by omega)
    obtain⟨y,hy⟩:∃y:Int,y=z+3*(k:Int):=⟨_,rfl⟩
    have g0:=hh 0 (by omega)
    rw [show z+((k*3+0:Nat):Int)=y from by omega]at g0
    have g1:=hh 1 (by omega)
    rw [show z+((k*3+1:Nat):Int)=y+1 from by omega]at g1
    have g2:=hh 2 (by omega)
    rw [show z+((k*3+2:Nat):Int)=y+1+1 from by omega]at g2
    rw [Nat.add_zero]at g0
    clear hh
    have hy0:0≤y:=by omega
    have hy1:y≤1090000000:=by omega
    have HY:Hid (y=z+3*(k:Int)):=hy
    rw [←hy]
    clear hy
    go_wp2
    go_round
    case rel=>exact⟨k+1,by omega,by go_num,by rw [show y+1+1+1=z+3*((k+1:Nat):Int)from by have:=HY.out;omega]⟩
    case measure=>simp [intOf];omega
   ·go_wp2
    go_ret
    obtain rfl:k=n:=by omega
    exact⟨rfl,rfl⟩
inductive Dat where
 |val (v:Value)
 |row (c n:Nat) (f:Nat→Dat)
inductive IsD (w : World) : Value → Dat → Prop
 |val (v:Value):IsD w v (.val v)
 |nil (a:Option Addr) (cap c:Nat) (f:Nat→Dat) (h:cap≤maxLen):IsD w (.slice a 0 cap) (.row c 0 f)
 |row (b off n cap c:Nat) (f:Nat→Dat) (U:Nat→Value) (h1:n≤cap) (h2:cap≤maxLen) (hb:b<w.heap.size) (hc:∀j,j<n*c→w.cell? ⟨b,off+j,none⟩=some (U j)) (hs:∀j,j<n*c→IsD w (U j) (f j)):IsD w (.slice (some ⟨b,off,none⟩) n cap) (.row c n f)
theorem IsD.under {w w':World} {x:Value} {d:Dat} (h:IsD w x d) (hb:Below w.heap.size w w'):IsD w' x d:=by
 induction h with
 |val v=>exact .val v
 |nil a cap c f h=>exact .nil a cap c f h
 |row b off n cap c f U h1 h2 hB hc hs ih=>exact .row b off n cap c f U h1 h2 (Nat.lt_of_lt_of_le hB hb.size) (fun j hj=>(hb.cell (p:=⟨b,off+j,none⟩) hB).trans (hc j hj)) ih
theorem IsD.parts {w:World} {x:Value} {c n:Nat} {f:Nat→Dat} (h:IsD w x (.row c n f)):∃a cap,x= .slice a n cap∧n≤cap∧cap≤maxLen∧
  (n=0∨ ∃b off,a=some ⟨b,off,none⟩∧b<w.heap.size∧ ∀j,j<n*c→ ∃u,w.cell? ⟨b,off+j,none⟩=some u∧IsD w u (f j)):=by
 cases h with
 |nil a cap _ _ h=>exact⟨a,cap,rfl,Nat.zero_le _,h,.inl rfl⟩
 |row b off _ cap _ _ U h1 h2 hB hc hs=>exact⟨_,cap,rfl,h1,h2,.inr ⟨b,off,rfl,hB,fun j hj=>⟨U j,hc j hj,hs j hj⟩⟩⟩
theorem IsD.of_parts {w:World} {a:Option Addr} {cap c n:Nat} {f:Nat→Dat} (h1:n≤cap) (h2:cap≤maxLen) (h:n=0∨ ∃b off,a=some ⟨b,off,none⟩∧b<w.heap.size∧ ∀j,j<n*c→ ∃u,w.cell? ⟨b,off+j,none⟩=some u∧IsD w u (f j)):IsD w (.slice a n cap) (.row c n f):=by
 rcases h with rfl|⟨b,off,rfl,hB,h⟩
 ·exact .nil a cap c f h2
 ·refine .row b off n cap c f (fun j=>(w.cell? ⟨b,off+j,none⟩).getD (.int .i64 0)) h1 h2 hB (fun j hj=> ?_) (fun j hj=> ?_)
  ·obtain⟨u,hu,_⟩:=h j hj
   rw [hu];rfl
  ·obtain⟨u,hu,hd⟩:=h j hj
   rw [hu];exact hd
theorem IsD.val_eq {w:World} {x v:Value} (h:IsD w x (.val v)):x=v:=by cases h;rfl
inductive OwnD (w : World) : (Nat → Prop) → Value → Dat → Prop
 |val (F:Nat→Prop) (v:Value):OwnD w F v (.val v)
 |nil (F:Nat→Prop) (a:Option Addr) (cap c:Nat) (f:Nat→Dat) (h:cap≤maxLen):OwnD w F (.slice a 0 cap) (.row c 0 f)
 |row (F:Nat→Prop) (g n cap c:Nat) (f:Nat→Dat) (U:Nat→Value) (G:Nat→Nat→Prop) (h1:n≤cap) (h2:cap≤maxLen) (hg:g<w.heap.size) (hF:F g)
   (hc:∀j,j<n*c→w.cell? ⟨g,j,none⟩=some (U j)∧w.frozen? ⟨g,j,none⟩=false) (hs:∀j,j<n*c→OwnD w (G j) (U j) (f j))
   (hG:∀j,j<n*c→ ∀k,G j k→F k∧k≠g) (hGG:∀i j,i<n*c→j<n*c→i≠j→ ∀k,G i k→ ¬G j k):OwnD w F (.slice (some ⟨g,0,none⟩) n cap) (.row c n f)
theorem OwnD.turns {S F:Nat→Prop} {w w':World} {x:Value} {d:Dat} (h:OwnD w F x d) (ht:Turns S w w') (hS:∀k,F k→ ¬S k):OwnD w' F x d:=by
 induction h with
 |val F v=>exact .val F v
 |nil F a cap c f h=>exact .nil F a cap c f h
 |row F g n cap c f U G h1 h2 hg hF hc hs hG hGG ih=>
  exact .row F g n cap c f U G h1 h2 (Nat.lt_of_lt_of_le hg ht.size) hF (fun j hj=>by rw [ht.cell hg (hS g hF),ht.frozen hg (hS g hF)];exact hc j hj) (fun j hj=>ih j hj fun k hk=>hS k (hG j hj k hk).1) hG hGG
theorem OwnD.under {F:Nat→Prop} {w w':World} {x:Value} {d:Dat} (h:OwnD w F x d) (hb:Below w.heap.size w w'):OwnD w' F x d:=
 h.turns (S:=fun _=>False) (Turns.of_below hb) (fun _ _=>id)
theorem OwnD.mono {F F':Nat→Prop} {w:World} {x:Value} {d:Dat} (h:OwnD w F x d) (hF:∀k,F k→F' k):OwnD w F' x d:=by
 cases h with
 |val=>exact .val F' _
 |nil F a cap c f h=>exact .nil F' a cap c f h
 |row F g n cap c f U G h1 h2 hg hF0 hc hs hG hGG=>
  exact .row F' g n cap c f U G h1 h2 hg (hF g hF0) hc hs (fun j hj k hk=>⟨hF k (hG j hj k hk).1,(hG j hj k hk).2⟩) hGG
theorem OwnD.isD {F:Nat→Prop} {w:World} {x:Value} {d:Dat} (h:OwnD w F x d):IsD w x d:=by
 induction h with
 |val F v=>exact .val v
 |nil F a cap c f h=>exact .nil a cap c f h
 |row F g n cap c f U G h1 h2 hg hF hc hs hG hGG ih=>
  exact .row g 0 n cap c f U h1 h2 hg (fun j hj=>by rw [Nat.zero_add];exact(hc j hj).1) ih
theorem OwnD.parts {F:Nat→Prop} {w:World} {x:Value} {c n:Nat} {f:Nat→Dat} (h:OwnD w F x (.row c n f)):∃a cap,x= .slice a n cap∧n≤cap∧cap≤maxLen∧
  (n=0∨ ∃g,a=some ⟨g,0,none⟩∧g<w.heap.size∧F g):=by
 cases h with
 |nil F a cap _ _ h=>exact⟨a,cap,rfl,Nat.zero_le _,h,.inl rfl⟩
 |row F g _ cap _ _ U G h1 h2 hg hF hc hs hG hGG=>exact⟨_,cap,rfl,h1,h2,.inr ⟨g,rfl,hg,hF⟩⟩
theorem OwnD.congr {F:Nat→Prop} {w:World} {x:Value} {c n:Nat} {f f':Nat→Dat} (h:OwnD w F x (.row c n f)) (hf:∀j,j<n*c→f j=f' j):OwnD w F x (.row c n f'):=by
 cases h with
 |nil F a cap _ _ h=>exact .nil F a cap c f' h
 |row F g _ cap _ _ U G h1 h2 hg hF hc hs hG hGG=>exact .row F g n cap c f' U G h1 h2 hg hF hc (fun j hj=>by rw [←hf j hj];exact hs j hj) hG hGG
def upd (f:Nat→Dat) (j:Nat) (d:Dat):Nat→Dat:=fun i=>if i=j then d else f i
theorem upd_same (f:Nat→Dat) (j:Nat) (d:Dat):upd f j d j=d:=by simp [upd]
theorem upd_ne (f:Nat→Dat) {i j:Nat} (d:Dat) (h:i≠j):upd f j d i=f i:=by simp [upd,h]
theorem OwnD.step {F:Nat→Prop} {w:World} {g n cap c:Nat} {f:Nat→Dat} (h:OwnD w F (.slice (some ⟨g,0,none⟩) n cap) (.row c n f)) {j:Nat} (hj:j<n*c):
  ∃u K,w.cell? ⟨g,j,none⟩=some u∧w.frozen? ⟨g,j,none⟩=false∧OwnD w K u (f j)∧(∀k,K k→F k∧k≠g)∧
   ∀w' d',OwnD w' K u d'→Turns K w w'→OwnD w' F (.slice (some ⟨g,0,none⟩) n cap) (.row c n (upd f j d')):=by
 cases h with
 |nil F a cap _ _ h=>omega
 |row F g _ cap _ _ U G h1 h2 hg hF hc hs hG hGG=>
  refine⟨U j,G j,(hc j hj).1,(hc j hj).2,hs j hj,hG j hj,fun w' d' hd ht=> ?_⟩
  have hgK:¬G j g:=fun e=>(hG j hj g e).2 rfl
  refine .row F g n cap c _ U G h1 h2 (Nat.lt_of_lt_of_le hg ht.size) hF (fun i hi=>by rw [ht.cell hg hgK,ht.frozen hg hgK];exact hc i hi) (fun i hi=> ?_) hG hGG
  by_cases e:i=j
  ·subst e;rw [upd_same];exact hd
  ·rw [upd_ne _ _ e];exact(hs i hi).turns ht (fun k hk hk'=>hGG i j hi hj e k hk hk')
theorem OwnD.lt {F:Nat→Prop} {w:World} {g n cap c:Nat} {f:Nat→Dat} (h:OwnD w F (.slice (some ⟨g,0,none⟩) n cap) (.row c n f)) (hn:0<n):g<w.heap.size∧F g:=by
 cases h with
 |nil F a cap _ _ h=>omega
 |row F g _ cap _ _ U G h1 h2 hg hF hc hs hG hGG=>exact⟨hg,hF⟩
theorem cell_put {w:World} {g j:Nat} {u v:Value} (h:w.cell? ⟨g,j,none⟩=some u):(w.setCell ⟨g,j,none⟩ v).cell? ⟨g,j,none⟩=some v:=by
 have e1:w.setCell ⟨g,j,none⟩ v=w.setCells g j [v]:=rfl
 rw [e1]
 have h0:=World.cell?_setCells_in g [v] j w (fun i hi=>by
  obtain rfl:i=0:=by simpa using hi
  rw [Nat.add_zero,h];rfl) 0 (by simp)
 simpa using h0
theorem cell_other {w:World} {g j i:Nat} {v:Value} (h:i≠j):(w.setCell ⟨g,j,none⟩ v).cell? ⟨g,i,none⟩=w.cell? ⟨g,i,none⟩:=by
 have e1:w.setCell ⟨g,j,none⟩ v=w.setCells g j [v]:=rfl
 rw [e1]
 exact World.cell?_setCells_out g _ j w ⟨g,i,none⟩ (fun _ _=>by simp;omega)
theorem frozen_put {w:World} {g j i:Nat} {v:Value}:(w.setCell ⟨g,j,none⟩ v).frozen? ⟨g,i,none⟩=w.frozen? ⟨g,i,none⟩:=by
 have e1:w.setCell ⟨g,j,none⟩ v=w.setCells g j [v]:=rfl
 rw [e1,World.frozen?_setCells]
theorem OwnD.put {F K:Nat→Prop} {w:World} {g n cap c:Nat} {f:Nat→Dat} {u:Value} {d:Dat} (h:OwnD w F (.slice (some ⟨g,0,none⟩) n cap) (.row c n f)) {j:Nat} (hj:j<n*c) (hu:OwnD w K u d) (hK:∀k,K k→ ¬F k):
  OwnD (w.setCell ⟨g,j,none⟩ u) (fun k=>F k∨K k) (.slice (some ⟨g,0,none⟩) n cap) (.row c n (upd f j d)):=by
 cases h with
 |nil F a cap _ _ h=>omega
 |row F g _ cap _ _ U G h1 h2 hg hF hc hs hG hGG=>
  have ht:Turns (fun b=>b=g) w (w.setCell ⟨g,j,none⟩ u):=put1_turns w g j u
  refine .row _ g n cap c _ (fun i=>if i=j then u else U i) (fun i=>if i=j then K else G i) h1 h2 (Nat.lt_of_lt_of_le hg ht.size) (.inl hF) (fun i hi=> ?_) (fun i hi=> ?_) (fun i hi k hk=> ?_) (fun i i' hi hi' hii k hk hk'=> ?_)
  ·refine⟨?_,by rw [frozen_put];exact(hc i hi).2⟩
   by_cases e:i=j
   ·subst e;simp only [if_true];exact cell_put (hc i hi).1
   ·simp only [if_neg e];rw [cell_other e];exact(hc i hi).1
  ·by_cases e:i=j
   ·subst e;simp only [if_true,upd_same];exact hu.turns ht (fun k hk e=>hK k hk (e▸hF))
   ·simp only [if_neg e];rw [upd_ne _ _ e];exact(hs i hi).turns ht (fun k hk=>(hG i hi k hk).2)
  ·by_cases e:i=j
   ·subst e;simp only [if_true]at hk;exact⟨.inr hk,fun e=>hK k hk (e▸hF)⟩
   ·simp only [if_neg e]at hk;exact⟨.inl (hG i hi k hk).1,(hG i hi k hk).2⟩
  ·by_cases e:i=j
   ·subst e
    simp only [if_true]at hk
    rw [if_neg (Ne.symm hii)]at hk'
    exact hK k hk (hG i' hi' k hk').1
   ·simp only [if_neg e]at hk
    by_cases e':i'=j
    ·subst e'
     simp only [if_true]at hk'
     exact hK k hk' (hG i hi k hk).1
    ·simp only [if_neg e']at hk'
     exact hGG i i' hi hi' hii k hk hk'
theorem OwnD.put_val {F:Nat→Prop} {w:World} {g n cap c:Nat} {f:Nat→Dat} (h:OwnD w F (.slice (some ⟨g,0,none⟩) n cap) (.row c n f)) {j:Nat} (hj:j<n*c) (u:Value):
  OwnD (w.setCell ⟨g,j,none⟩ u) F (.slice (some ⟨g,0,none⟩) n cap) (.row c n (upd f j (.val u))):=
 (h.put hj (OwnD.val (fun _=>False) u) (fun _=>False.elim)).mono (fun _ hk=>hk.elim id False.elim)
def flat (c n:Nat) (cs:List Value):Dat:= .row c n (fun j=> .val (cs.getD j (.int .i64 0)))
theorem getD_of {cs:List Value} {j:Nat} {u:Value} (h:cs[j]? =some u):cs.getD j (.int .i64 0)=u:=by simp [h]
theorem RowF.own {F:Nat→Prop} {w:World} {x:Value} {n c:Nat} {cs:List Value} (h:RowF F w x n c cs):OwnD w F x (flat c n cs):=by
 obtain⟨hl,a,cap,rfl,h1,h2,h⟩:=h
 rcases h with rfl|⟨g,rfl,hF,hg,hc⟩
 ·exact .nil F a cap c _ h2
 ·refine .row F g n cap c _ (fun j=>cs.getD j (.int .i64 0)) (fun _ _=>False) h1 h2 hg hF (fun j hj=>⟨?_,(hc j hj).2⟩) (fun j hj=> .val _ _) (fun _ _ _=>False.elim) (fun _ _ _ _ _ _=>False.elim)
  rw [(hc j hj).1,List.getElem?_eq_getElem (by omega),getD_of (List.getElem?_eq_getElem (by omega))]
theorem OwnD.rowF {F:Nat→Prop} {w:World} {x:Value} {n c:Nat} {cs:List Value} (h:OwnD w F x (flat c n cs)) (hl:cs.length=n*c):RowF F w x n c cs:=by
 unfold flat at h
 cases h with
 |nil F a cap _ _ h=>exact⟨hl,a,cap,rfl,Nat.zero_le _,h,.inl rfl⟩
 |row F g _ cap _ _ U G h1 h2 hg hF hc hs hG hGG=>
  refine⟨hl,_,cap,rfl,h1,h2,.inr ⟨g,rfl,hF,hg,fun j hj=>⟨?_,(hc j hj).2⟩⟩⟩
  have:=(hs j hj).isD.val_eq
  rw [(hc j hj).1,this,List.getElem?_eq_getElem (by omega),getD_of (List.getElem?_eq_getElem (by omega))]
def Dat.cnt:Dat→Nat
 | .val _=>1
 | .row c n f=>sumL (fun j=>(f j).cnt) (n*c)
def mark1 (v:Value) (z:Int):Value:=match v with
 | .bool _=> .bool (decide (z%3=0))
 |_=> .int .i64 z
def Dat.mark:Dat→Int→Dat
 | .val v,z=> .val (mark1 v z)
 | .row c n f,z=> .row c n (fun j=>(f j).mark (z+(sumL (fun i=>(f i).cnt) j:Int)))
theorem sumL_congr {L L':Nat→Nat}:∀{n:Nat},(∀j,j<n→L j=L' j)→sumL L n=sumL L' n
 |0,_=>rfl
 |n+1,h=>by simp only [sumL];rw [sumL_congr (fun j hj=>h j (by omega)),h n (by omega)]
theorem sumL_one:∀n:Nat,sumL (fun _=>1) n=n
 |0=>rfl
 |n+1=>by simp only [sumL];rw [sumL_one n]
theorem flat_cnt (c n:Nat) (cs:List Value):(flat c n cs).cnt=n*c:=by
 simp only [flat,Dat.cnt]
 exact sumL_one _
theorem flat_marked {F:Nat→Prop} {w:World} {x:Value} {c n:Nat} {cs:List Value} {z:Int} (h:OwnD w F x (flat c n (mkCells z (n*c)))) (hi:∀u∈cs,∃i,u= .int .i64 i):OwnD w F x ((flat c n cs).mark z):=by
 refine OwnD.congr (f:=fun j=> .val ((mkCells z (n*c)).getD j (.int .i64 0))) h (fun j hj=> ?_)
 rw [getD_of (mkCells_get hj)]
 simp only [Dat.mark,Dat.cnt,sumL_one]
 congr 1
 by_cases hj':j<cs.length
 ·obtain⟨i,e⟩:=hi _ (List.getElem_mem hj')
  rw [getD_of (List.getElem?_eq_getElem hj'),e];rfl
 ·rw [show cs.getD j (.int .i64 0)= .int .i64 0 from by simp [List.getElem?_eq_none (Nat.le_of_not_lt hj')]];rfl
def Dat.wt:Dat→Nat
 | .val _=>0
 | .row c n f=>n+sumL (fun j=>(f j).wt) (n*c)
def Dat.thin:Dat→Prop
 | .val _=>True
 | .row c _ f=>c≤40∧ ∀j,(f j).thin
theorem sumL_bound {L L':Nat→Nat} (K:Nat):∀{n:Nat},(∀j,j<n→L j≤1+K*L' j)→sumL L n≤n+K*sumL L' n
 |0,_=>by simp [sumL]
 |n+1,h=>by
  simp only [sumL]
  have h1:=sumL_bound K (n:=n) (fun j hj=>h j (by omega))
  have h2:=h n (by omega)
  rw [Nat.mul_add]
  omega
theorem Dat.cnt_le1:∀d:Dat,d.thin→d.cnt≤1+40*d.wt∧(∀c n f,d= .row c n f→d.cnt≤40*d.wt)
 | .val _,_=>⟨by simp [Dat.cnt],fun _ _ _ e=>by cases e⟩
 | .row c n f,h=>by
  have h1:sumL (fun j=>(f j).cnt) (n*c)≤n*c+40*sumL (fun j=>(f j).wt) (n*c):=sumL_bound 40 (fun j _=>(Dat.cnt_le1 (f j) (h.2 j)).1)
  have h2:n*c≤n*40:=Nat.mul_le_mul_left n h.1
  have h3:(Dat.row c n f).cnt≤40*(Dat.row c n f).wt:=by
   simp only [Dat.cnt,Dat.wt,Nat.mul_add]
   omega
  exact⟨by omega,fun _ _ _ _=>h3⟩
theorem Dat.cnt_le {c n:Nat} {f:Nat→Dat} (h:(Dat.row c n f).thin):(Dat.row c n f).cnt≤40*(Dat.row c n f).wt:=(Dat.cnt_le1 _ h).2 c n f rfl
theorem flat_wt (c n:Nat) (cs:List Value):(flat c n cs).wt=n:=by
 simp only [flat,Dat.wt]
 have:∀k,sumL (fun _=>0) k=0:=fun k=>by induction k with
  |zero=>rfl
  |succ k ih=>simp [sumL,ih]
 rw [this];rfl
theorem flat_thin {c n:Nat} {cs:List Value} (h:c≤40):(flat c n cs).thin:=⟨h,fun _=>trivial⟩
def intsD (l:List Int):Dat:=flat 1 l.length (intCells l)
def evsD (l:List Ev):Dat:=flat 7 l.length (cellsL l)
def emsD (l:List Em):Dat:=flat 3 l.length (cellsX l)
theorem IsI.isD {w:World} {x:Value} {l:List Int} (h:IsI w x l):IsD w x (intsD l):=by
 obtain⟨a,cap,rfl,h1,h2,h⟩:=h
 refine IsD.of_parts h1 h2 (h.imp (fun e=>by rw [e];rfl) ?_)
 rintro ⟨b,off,rfl,hb,hc⟩
 refine⟨b,off,rfl,hb,fun j hj=> ?_⟩
 have hj':j<l.length:=by omega
 refine⟨_,hc j hj',?_⟩
 rw [show(intCells l).getD j (.int .i64 0)= .int .i64 (intAt l j)from getD_of (by simp [intCells,intAt,hj'])]
 exact .val _
theorem IsD.isI {w:World} {x:Value} {l:List Int} (h:IsD w x (intsD l)):IsI w x l:=by
 obtain⟨a,cap,rfl,h1,h2,h⟩:=IsD.parts (c:=1) (n:=l.length) h
 refine⟨a,cap,rfl,h1,h2,h.imp List.eq_nil_of_length_eq_zero ?_⟩
 rintro ⟨b,off,rfl,hb,hc⟩
 refine⟨b,off,rfl,hb,fun j hj=> ?_⟩
 obtain⟨u,hu,hd⟩:=hc j (by omega)
 rw [hu,hd.val_eq,show(intCells l).getD j (.int .i64 0)= .int .i64 (intAt l j)from getD_of (by simp [intCells,intAt,hj])]
theorem IsEvs.isD {w:World} {x:Value} {l:List Ev} (h:IsEvs w x l):IsD w x (evsD l):=by
 obtain⟨a,cap,rfl,h1,h2,h⟩:=h
 refine IsD.of_parts h1 h2 (h.imp (fun e=>by rw [e];rfl) ?_)
 rintro ⟨b,off,rfl,hb,hc⟩
 refine⟨b,off,rfl,hb,fun j hj=> ?_⟩
 have hi:j/7<l.length:=by omega
 have hr:j%7<7:=by omega
 have hE:=hc (j/7) hi
 have hg:=cellsL_get l (j/7) (j%7) hi hr
 rw [show j/7*7+j%7=j from by omega]at hg
 have hall:∀r,r<7→ ∃u,w.cell? ⟨b,off+j/7*7+r,none⟩=some u∧(evAt l (j/7)).cs[r]? =some u:=fun r hr=>by
  match r,hr with
  |0,_=>exact⟨_,hE.f0,rfl⟩
  |1,_=>exact⟨_,hE.f1,rfl⟩
  |2,_=>exact⟨_,hE.f2,rfl⟩
  |3,_=>exact⟨_,hE.f3,rfl⟩
  |4,_=>exact⟨_,hE.f4,rfl⟩
  |5,_=>exact⟨_,hE.f5,rfl⟩
  |6,_=>exact⟨_,hE.f6,rfl⟩
 obtain⟨u,h3,h4⟩:=hall _ hr
 refine⟨u,by rw [←h3];congr 2;omega,?_⟩
 rw [show(cellsL l).getD j (.int .i64 0)=u from getD_of (hg.trans h4)]
 exact .val _
theorem IsD.isEvs {w:World} {x:Value} {l:List Ev} (h:IsD w x (evsD l)):IsEvs w x l:=by
 obtain⟨a,cap,rfl,h1,h2,h⟩:=IsD.parts (c:=7) (n:=l.length) h
 refine⟨a,cap,rfl,h1,h2,h.imp List.eq_nil_of_length_eq_zero ?_⟩
 rintro ⟨b,off,rfl,hb,hc⟩
 refine⟨b,off,rfl,hb,fun i hi=> ?_⟩
 have hget:∀r,r<7→w.cell? ⟨b,off+i*7+r,none⟩=(evAt l i).cs[r]? :=fun r hr=>by
  obtain⟨u,hu,hd⟩:=hc (i*7+r) (by omega)
  rw [Nat.add_assoc,hu,hd.val_eq]
  have hg:=cellsL_get l i r hi hr
  have:r<(evAt l i).cs.length:=by simpa [Ev.cs] using hr
  rw [List.getElem?_eq_getElem this]at hg⊢
  rw [getD_of hg]
 exact⟨hget 0 (by omega),hget 1 (by omega),hget 2 (by omega),hget 3 (by omega),hget 4 (by omega),hget 5 (by omega),hget 6 (by omega)⟩
theorem IsX.isD {w:World} {x:Value} {l:List Em} (h:IsX w x l):IsD w x (emsD l):=by
 obtain⟨a,cap,rfl,h1,h2,h⟩:=h
 refine IsD.of_parts h1 h2 (h.imp (fun e=>by rw [e];rfl) ?_)
 rintro ⟨b,off,rfl,hb,hc⟩
 refine⟨b,off,rfl,hb,fun j hj=> ?_⟩
 have hi:j/3<l.length:=by omega
 have hr:j%3<3:=by omega
 have hE:=hc (j/3) hi
 have hg:=cellsX_get l (j/3) (j%3) hi hr
 rw [show j/3*3+j%3=j from by omega]at hg
 have hall:∀r,r<3→ ∃u,w.cell? ⟨b,off+j/3*3+r,none⟩=some u∧(xAt l (j/3)).cs[r]? =some u:=fun r hr=>by
  match r,hr with
  |0,_=>exact⟨_,hE.f0,rfl⟩
  |1,_=>exact⟨_,hE.f1,rfl⟩
  |2,_=>exact⟨_,hE.f2,rfl⟩
 obtain⟨u,h3,h4⟩:=hall _ hr
 refine⟨u,by rw [←h3];congr 2;omega,?_⟩
 rw [show(cellsX l).getD j (.int .i64 0)=u from getD_of (hg.trans h4)]
 exact .val _
theorem IsD.isX {w:World} {x:Value} {l:List Em} (h:IsD w x (emsD l)):IsX w x l:=by
 obtain⟨a,cap,rfl,h1,h2,h⟩:=IsD.parts (c:=3) (n:=l.length) h
 refine⟨a,cap,rfl,h1,h2,h.imp List.eq_nil_of_length_eq_zero ?_⟩
 rintro ⟨b,off,rfl,hb,hc⟩
 refine⟨b,off,rfl,hb,fun i hi=> ?_⟩
 have hget:∀r,r<3→w.cell? ⟨b,off+i*3+r,none⟩=(xAt l i).cs[r]? :=fun r hr=>by
  obtain⟨u,hu,hd⟩:=hc (i*3+r) (by omega)
  rw [Nat.add_assoc,hu,hd.val_eq]
  have hg:=cellsX_get l i r hi hr
  have:r<(xAt l i).cs.length:=by simpa [Em.cs] using hr
  rw [List.getElem?_eq_getElem this]at hg⊢
  rw [getD_of hg]
 exact⟨hget 0 (by omega),hget 1 (by omega),hget 2 (by omega)⟩
end Go.Proofs.YtmobiieoecjmdaaGreat

