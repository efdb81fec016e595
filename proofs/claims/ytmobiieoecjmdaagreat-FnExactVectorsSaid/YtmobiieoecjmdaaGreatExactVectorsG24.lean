/- KSd, KSe -/
import Derived.Test.YtmobiieoecjmdaaGreatExactVectorsLKSa
import Derived.Test.YtmobiieoecjmdaaGreatExactVectorsG01
import Derived.Test.YtmobiieoecjmdaaGreatExactVectorsLKSc
/- Rows of numbers that grow; the specification's l4antiAt. -/
namespace Go.Proofs.YtmobiieoecjmdaaGreat
open Go.RowKit
def RowZ (B:Nat) (w:World) (x:Value) (l:List Int):Prop:=w.ownsRow B 3 1 x l.length (intCells l)
theorem yhe (l l':List Int):intCells (l++l')=intCells l++intCells l':=by simp [intCells]
theorem RowZ.nil (B:Nat) (w:World):RowZ B w (.slice none 0 0) []:=World.ownsRow_nil w B 3 1
theorem RowZ.alloc {B:Nat} {w:World} {x:Value} {l:List Int} (h:RowZ B w x l) (o:Obj):RowZ B (w.alloc o) x l:=World.ownsRow.alloc h o
theorem RowZ.below {B:Nat} {w w':World} {x:Value} {l:List Int} (h:RowZ B w x l) (hb:Below w.heap.size w w'):RowZ B w' x l:=by
 obtain⟨h0,h1|⟨g,cap,cur,e,hg,hc,h1⟩⟩:=h
 ·exact⟨h0,.inl h1⟩
 ·exact⟨h0,.inr ⟨g,cap,cur,e,hg,(hb.block g (Array.getElem?_eq_some_iff.1 hc).1).trans hc,h1⟩⟩
theorem RowZ.ne {B:Nat} {w:World} {x:Value} {l:List Int} (h:RowZ B w x l) {P:Nat} {T:TypeId} {vs:Array Value} (hb:Bk w P T vs) (hT:T≠3):¬x.ownBlock=some P:=by
 intro e
 obtain⟨_,⟨rfl,_⟩|⟨g,cap,cur,rfl,_,hc,_⟩⟩:=h
 ·simp [Value.ownBlock]at e
 ·simp [Value.ownBlock]at e
  subst e
  have hb':w.heap[g]? =some (.cells vs T):=hb
  rw [hb']at hc
  simp at hc
  exact hT hc.2
theorem RowZ.ge {B:Nat} {w:World} {x:Value} {l:List Int} (h:RowZ B w x l) {r:Nat} (e:x.ownBlock=some r):B≤r:=by
 obtain⟨_,⟨rfl,_⟩|⟨g,cap,cur,rfl,hg,_⟩⟩:=h
 ·simp [Value.ownBlock]at e
 ·simp [Value.ownBlock]at e
  omega
theorem RowZ.grow {B:Nat} {w:World} {v:Value} {l:List Int} {z:Int} (h:w.ownsRow B 3 1 v (l.length+1) (intCells l++ [.int .i64 z])):RowZ B w v (l++ [z]):=by
 unfold RowZ
 rw [List.length_append,yhe]
 simpa [intCells] using h
theorem grownT {w w':World} {row:Option Nat} (h:w.grownBy w' row):Turns (fun k=>row=some k) w w':=⟨h.os,h.tape,h.output,h.size,fun k hk hS=>h.block k hk (fun e=>hS e.symm)⟩
theorem ykt (w:World) (a:Value):∀j u,[a][j]? =some u→(w.alloc (.cells #[a] 3)).cell? ((⟨w.heap.size,0,none⟩:Addr).add j)=some u:=by
 intro j u hu
 match j,hu with
 |0,hu=>simp at hu;subst hu;simp [Addr.add]
 |(j+1),hu=>simp at hu
theorem oneZ (a:Int):∀u∈ [Value.int .i64 a],u.oneCell'=true:=by
 intro u hu
 simp at hu
 subst hu
 rfl
theorem RowZ.form {B:Nat} {w:World} {x:Value} {l:List Int} (h:RowZ B w x l):∃a cap,x= .slice a l.length cap∧l.length≤cap∧cap≤maxLen∧(l= []∨ ∃g,a=some ⟨g,0,none⟩∧IntsAt w g 0 l):=by
 have h9:=(OwnI.of_row h).isI
 obtain⟨a,cap,e,h1,h2,h3⟩:=OwnI.of_row h
 refine⟨a,cap,e,h1,h2,h3.imp id ?_⟩
 rintro ⟨g,e,_,_,hr⟩
 exact⟨g,e,hr⟩
def fstI (l:List Int) (z:Int):Nat→Int
 |0=> -1
 |n+1=>if 0≤fstI l z n then fstI l z n else if intAt l n=z then(n:Int)else-1
theorem ylf {l:List Int} {z:Int}:∀{n:Nat},0≤fstI l z n↔hasI l n z=true
 |0=>by
  have:hasI l 0 z=false:=by simp [hasI,allB]
  rw [this]
  simp [fstI]
 |n+1=>by
  have ih:=ylf (l:=l) (z:=z) (n:=n)
  have h1:hasI l (n+1) z=true↔(hasI l n z=true∨intAt l n=z):=by
   unfold hasI
   rw [Bool.not_eq_true',Bool.not_eq_true',←Bool.not_eq_true,←Bool.not_eq_true,allB_iff,allB_iff]
   constructor
   ·intro h
    by_cases e:intAt l n=z
    ·exact .inr e
    ·refine .inl (fun h2=>h (fun i hi=> ?_))
     by_cases e2:i=n
     ·subst e2;simp [e]
     ·exact h2 i (by omega)
   ·rintro (h|h) h2
    ·exact h (fun i hi=>h2 i (by omega))
    ·have:=h2 n (by omega)
     simp [h]at this
  rw [h1]
  unfold fstI
  by_cases e:0≤fstI l z n
  ·rw [if_pos e]
   exact⟨fun _=> .inl (ih.1 e),fun _=>e⟩
  ·rw [if_neg e]
   by_cases e2:intAt l n=z
   ·rw [if_pos e2]
    exact⟨fun _=> .inr e2,fun _=>by omega⟩
   ·rw [if_neg e2]
    exact⟨fun h=>by omega,fun h=>by
     rcases h with h|h
     ·exact absurd (ih.2 h) e
     ·exact absurd h e2⟩
theorem yj6 {l:List Int} {z:Int} {j:Nat} {r:Int} (h:fstI l z j=r) (h0:0≤r):∀{n:Nat},j≤n→fstI l z n=r
 |0,hn=>by
  obtain rfl:j=0:=by omega
  exact h
 |n+1,hn=>by
  by_cases e:j=n+1
  ·subst e;exact h
  ·have:=yj6 h h0 (n:=n) (by omega)
   unfold fstI
   rw [this,if_pos h0]
set_option maxRecDepth 100000 in
set_option maxHeartbeats 4000000 in
theorem yo7 (a:Option Addr) (n cap:Nat) (l:List Int) (z:Int) (w:World) (hn:n≤l.length) (hl:l.length≤100000000) (h:n=0∨ ∃b off,a=some ⟨b,off,none⟩∧IntsAt w b off l):
  Calls Tryz.prog 150 #[.slice a n cap,.int .i64 z] w fun e w'=>e= .returned (.int .i64 (fstI l z n))∧Below w.heap.size w w':=by
 go_enter Tryz.func150,Tryz.ntmps150
 go_wp2
 go_loopw [5] (fun i wr=>∃j:Nat,j≤n∧i= .int .i64 j∧Hid (fstI l z j= -1)∧wr=w) (fun i _=>n-(intOf i).toNat)
 case atStart=>exact⟨0,Nat.zero_le _,rfl,(rfl:fstI l z 0= -1),rfl⟩
 case round=>
  obtain⟨j,hj,rfl,HA,hw⟩:=hrel
  have hw':=hw.symm
  clear hw
  subst hw'
  by_cases hlt:j<n
  ·obtain⟨b,off,rfl,hb,hc⟩:=h.resolve_left (by omega)
   have c0:=hc j (by omega)
   have HST:Hid (intAt l j=z→fstI l z n=(j:Int)):=fun e=>by
    have h1:fstI l z (j+1)=(j:Int):=by unfold fstI;rw [HA.out,if_neg (by omega),if_pos e]
    exact yj6 h1 (by omega) (by omega)
   have HNX:Hid (¬intAt l j=z→fstI l z (j+1)= -1):=fun e=>by unfold fstI;rw [HA.out,if_neg (by omega),if_neg e]
   generalize intAt l j=y at c0 HST HNX
   by_cases hy:y=z
   ·have HY:Hid (fstI l z n=(j:Int)):=HST.out hy
    have hyb:(y==z)=true:=by simpa using hy
    clear hy HST HNX
    go_wp2
    go_ret
    exact⟨yam HY.out.symm,Below.refl _ _⟩
   ·have HY:Hid (fstI l z (j+1)= -1):=HNX.out hy
    have hyb:(y==z)=false:=by simpa using hy
    clear hy HST HNX
    go_wp2
    go_roundw
    case rel=>exact⟨j+1,by omega,by go_num,HY.out,by first|rfl|trivial⟩
    case measure=>simp [intOf];omega
  ·obtain rfl:n=j:=by omega
   go_wp2
   go_ret
   exact⟨yam HA.out.symm,Below.refl _ _⟩
theorem tagsB_iff {k:Kn}:ydl k=true↔(∀i,i<k.p.length→yjy k (paAt k.p i)=true)∧yjc k.t (ygo k)=true:=by
 unfold ydl
 simp only [Bool.and_eq_true,allB_iff]
theorem partK_iff {k:Kn} {p:Pa}:yjy k p=true↔(∀i,i<p.p.length→yjq k (psAt p.p i)=true)∧ ∀i,i<p.a.length→intAt p.a i<k.t:=by
 unfold yjy antiK
 simp only [Bool.and_eq_true,allB_iff,decide_eq_true_eq]
theorem sentK_iff {k:Kn} {x:Ps}:yjq k x=true↔ ∀i,i<x.s.length→evIn k.m (evAt x.s i)=true∧(evAt x.s i).g<k.t:=by
 unfold yjq
 simp only [Bool.and_eq_true,allB_iff,decide_eq_true_eq]
theorem diffB_iff {t:Int} {l:List Int}:yjc t l=true↔ ∀i,i<l.length→intAt l i<t∧hasI l i (intAt l i)=false:=by
 unfold yjc
 simp only [Bool.and_eq_true,allB_iff,decide_eq_true_eq,Bool.not_eq_true']
theorem ypz {l:List Ml} {i:Nat} (h:i<l.length):bagT (l.take (i+1))=bagT (l.take i)++(if (mlAt l i).a then []else [(mlAt l i).e.g]):=by
 rw [ydz h]
 simp [bagT]
theorem yga {l:List Pa} {i:Nat} (h:i<l.length):yb9 (l.take (i+1))=yb9 (l.take i)++(yjl (paAt l i)++yip (paAt l i)):=by
 rw [yf5 h]
 simp [yb9,yoj]
theorem yf6 {l:List Ev} {i:Nat} (h:i<l.length):l.take (i+1)=l.take i++ [evAt l i]:=by
 rw [List.take_add_one,evAt]
 simp [List.getD,h]
theorem ym7 {l:List Ps} {i:Nat} (h:i<l.length):l.take (i+1)=l.take i++ [psAt l i]:=by
 rw [List.take_add_one,psAt]
 simp [List.getD,h]
theorem ylq (l:List Ml):(bagT l).length≤l.length:=by
 induction l with
 |nil=>simp [bagT]
 |cons a l ih=>
  have e:bagT (a::l)=(if a.a then []else [a.e.g])++bagT l:=rfl
  rw [e,List.length_append,List.length_cons]
  split<;>simp<;>omega
theorem ymo (l:List Pa):(yb9 l).length≤(yai l).wt:=by
 rw [yck]
 have:∀n,n≤l.length→(yb9 (l.take n)).length≤sumL (fun i=>(paAt l i).wt) n:=by
  intro n
  induction n with
  |zero=>intro _;simp [yb9,sumL]
  |succ n ih=>
   intro hn
   rw [yga (by omega),List.length_append]
   have h1:=ih (by omega)
   have h2:(yjl (paAt l n)++yip (paAt l n)).length≤(paAt l n).wt:=by
    unfold Pa.wt yjl yip
    rw [List.length_append,List.length_map,List.length_map]
    have:=ybg (paAt l n).p
    simp only [yah,yan]
    omega
   show _≤sumL (fun i=>(paAt l i).wt) n+(paAt l n).wt
   omega
 have h:=this l.length (Nat.le_refl _)
 rw [List.take_length]at h
 omega
theorem yky {k:Kn} (h:k.wt≤1048576):(bagT k.b).length+(yb9 k.p).length≤1048576:=by
 have h1:=ylq k.b
 have h2:=ymo k.p
 unfold Kn.wt at h
 simp only [ybh]at h
 omega
end Go.Proofs.YtmobiieoecjmdaaGreat

