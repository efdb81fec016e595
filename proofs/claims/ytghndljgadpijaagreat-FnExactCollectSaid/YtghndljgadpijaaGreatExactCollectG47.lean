/- OpenS, VOpen, MOpen, SOpen, TPtO, KOp -/
import Derived.Test.YtghndljgadpijaaGreatExactCollectG15
import Derived.Test.YtghndljgadpijaaGreatExactCollectG01
import Derived.ProofKit
import Derived.ChangeOld
import Derived.OpenShut
import Derived.SizedLaws
import Derived.Test.YtghndljgadpijaaGreatExactCollectG03
import Derived.Test.YtghndljgadpijaaGreatExactCollectG04
import Derived.Test.YtghndljgadpijaaGreatExactCollectG19
/- How a list of events that came in is read. -/
namespace Go.Proofs.YtghndljgadpijaaGreat
open Go.ChangeShapes Go.WideShapes Go.ChangeAt Go.RowKit
theorem zkq {w:World} {b off:Nat}:∀n,(∀i,i<n→ ∃e:Ev,Ev.In w b (off+i*7) e)→ ∃l:List Ev,l.length=n∧ ∀i,i<n→Ev.In w b (off+i*7) (evAt l i)
  |0,_=>⟨[],rfl,fun i hi=>by omega⟩
  |n+1,h=>by
    obtain⟨l,hl,hi⟩:=zkq n (fun i hi=>h i (by omega))
    obtain⟨e,he⟩:=h n (by omega)
    refine⟨l++ [e],by simp [hl],fun i hi'=> ?_⟩
    by_cases hin:i<n
    · have:evAt (l++ [e]) i=evAt l i:=by unfold evAt;simp [List.getElem?_append_left (by omega:i<l.length)]
      rw [this];exact hi i hin
    · have:evAt (l++ [e]) i=e:=by unfold evAt;simp [show i=l.length by omega]
      rw [this,show i=n by omega];exact he
theorem add_plain (b off n:Nat):(⟨b,off,none⟩:Addr).add n=⟨b,off+n,none⟩:=by
  unfold Addr.add
  split<;>simp_all
theorem zhu {w:World} {b off:Nat}:∀n,(∀i,i<n→ ∃z:Int,w.cell? ⟨b,off+i,none⟩=some (.int .i64 z))→ ∃l:List Int,l.length=n∧ ∀i,i<n→w.cell? ⟨b,off+i,none⟩=some (.int .i64 (intAt l i))
  |0,_=>⟨[],rfl,fun i hi=>by omega⟩
  |n+1,h=>by
    obtain⟨l,hl,hi⟩:=zhu n (fun i hi=>h i (by omega))
    obtain⟨e,he⟩:=h n (by omega)
    refine⟨l++ [e],by simp [hl],fun i hi'=> ?_⟩
    by_cases hin:i<n
    · have:intAt (l++ [e]) i=intAt l i:=by unfold intAt;simp [List.getElem?_append_left (by omega:i<l.length)]
      rw [this];exact hi i hin
    · have:intAt (l++ [e]) i=e:=by unfold intAt;simp [show i=l.length by omega]
      rw [this,show i=n by omega];exact he
set_option maxRecDepth 100000
open Go.ChangeShapes Go.WideShapes Go.ChangeAt Go.RowKit
theorem zjr:Tryz.prog.cellsOf 296=4:=by kernel_rfl
theorem zkx:Tryz.prog.cellsOf 238=1:=by kernel_rfl
theorem zph:Tryz.prog.cellsOf 23=1:=by kernel_rfl
theorem zda:Tryz.prog.cellsOf 22=1:=by kernel_rfl
theorem ze7:Tryz.prog.cellsOf 24=1:=by kernel_rfl
theorem cellsM:Tryz.prog.cellsOf 26=6:=by kernel_rfl
theorem list4 {α:Type} {l:List α} (h:l.length=4):∃a b c d,l= [a,b,c,d]:=by
  match l,h with
  | [a,b,c,d],_=>exact⟨a,b,c,d,rfl⟩
theorem list6 {α:Type} {l:List α} (h:l.length=6):∃a b c d e f,l= [a,b,c,d,e,f]:=by
  match l,h with
  | [a,b,c,d,e,f],_=>exact⟨a,b,c,d,e,f,rfl⟩
theorem zn4 {H:Type} {enc:TypeId×Value→H} {w:World} {base:Nat} {spare:Nat→Bool} {held:Bool} {fuel:Nat} {cs:List Value} {x:DataW H×List MemPlace}
    (h:DataW.trod enc Tryz.prog w base spare held fuel 296 cs=some x):∃c a b k:Int,cs= [.int .i64 c,.int .i64 a,.int .i64 b,.int .i64 k]∧wfI c∧wfI a∧wfI b∧wfI k:=by
  obtain⟨xs,n,_,rfl,hl,hlen,hf⟩:=DataW.trod_struct Tryz.underlying296 h
  rw [zjr]at hl
  obtain⟨c0,c1,c2,c3,rfl⟩:=list4 hl
  have hx:xs.length=4:=by simpa using hlen
  obtain⟨y0,y1,y2,y3,rfl⟩:=list4 hx
  have h0:=hf 0 _ rfl
  have h1:=hf 1 _ rfl
  have h2:=hf 2 _ rfl
  have h3:=hf 3 _ rfl
  obtain⟨a0,e0,_,w0⟩:=DataW.trod_int Tryz.underlying3 h0
  obtain⟨a1,e1,_,w1⟩:=DataW.trod_int Tryz.underlying3 h1
  obtain⟨a2,e2,_,w2⟩:=DataW.trod_int Tryz.underlying3 h2
  obtain⟨a3,e3,_,w3⟩:=DataW.trod_int Tryz.underlying3 h3
  simp [cells3]at e0 e1 e2 e3
  subst e0 e1 e2 e3
  exact⟨a0,a1,a2,a3,rfl,w0,w1,w2,w3⟩
theorem zcp {H:Type} {enc:TypeId×Value→H} {w:World} {spare:Nat→Bool} {held:Bool} {fuel:Nat} {cs:List Value} {x:DataW H×List MemPlace}
    (hf:DataW.trod enc Tryz.prog w 0 spare held fuel 22 cs=some x):∃v l,cs= [v]∧IsI w v l:=by
  rcases DataW.trod_slice Tryz.underlying22 hf with ⟨rfl,_⟩|⟨a,len,cap,elems,rest,n,_,rfl,_,hb,hl,hm,hlen,hel,_,_⟩
  · exact⟨_,[],rfl,none,0,rfl,Nat.le_refl _,by unfold maxLen;omega,.inl rfl⟩
  · by_cases h0:len=0
    · subst h0
      exact⟨_,[],rfl,_,_,rfl,hl,hm,.inl rfl⟩
    · obtain⟨b,off,spot⟩:=a
      have hs:spot=none:=by
        have h1:=hel 0 (by omega)
        rw [cells3,List.getElem?_eq_getElem (by omega)]at h1
        obtain⟨cs,hc,ht⟩:=Option.bind_eq_some_iff.1 h1
        obtain⟨t,rfl,_⟩:=DataW.trod_int Tryz.underlying3 ht
        have c0:=(World.cells?_some hc).2.2 0 (by omega)
        simpa [Addr.add] using World.cell?_spot c0
      subst hs
      have each:∀i,i<len→ ∃z:Int,w.cell? ⟨b,off+i,none⟩=some (.int .i64 z)∧b<w.heap.size:=by
        intro i hi
        have h1:=hel i hi
        rw [cells3,List.getElem?_eq_getElem (by omega),add_plain]at h1
        obtain⟨cs,hc,ht⟩:=Option.bind_eq_some_iff.1 h1
        obtain⟨t,rfl,_,hw⟩:=DataW.trod_int Tryz.underlying3 ht
        have hblk:b<w.heap.size:=World.cells?_block hc (by omega)
        obtain⟨_,_,hcell⟩:=World.cells?_some hc
        have h2:=hcell 0 (by omega)
        simp only [add_plain]at h2
        exact⟨t,by simpa using h2,hblk⟩
      obtain⟨_,_,hblk⟩:=each 0 (by omega)
      obtain⟨l,rfl,hi⟩:=zhu (w:=w) (b:=b) (off:=off) len (fun i hi=>by
        obtain⟨e,he,_⟩:=each i hi
        exact⟨e,he⟩)
      exact⟨_,l,rfl,_,_,rfl,hl,hm,.inr ⟨b,off,rfl,hblk,hi⟩⟩
theorem ze2 {H:Type} {enc:TypeId×Value→H} {w:World} {spare:Nat→Bool} {held:Bool} {fuel:Nat} {cs:List Value} {x:DataW H×List MemPlace}
    (hf:DataW.trod enc Tryz.prog w 0 spare held fuel 24 cs=some x):∃v l,cs= [v]∧IsEvs w v l:=by
  rcases DataW.trod_slice Tryz.underlying24 hf with ⟨rfl,_⟩|⟨a,len,cap,elems,rest,n,_,rfl,_,hb,hl,hm,hlen,hel,_,_⟩
  · exact⟨_,[],rfl,none,0,rfl,Nat.le_refl _,by unfold maxLen;omega,.inl rfl⟩
  · by_cases h0:len=0
    · subst h0
      exact⟨_,[],rfl,_,_,rfl,hl,hm,.inl rfl⟩
    · obtain⟨b,off,spot⟩:=a
      have hs:spot=none:=by
        have h1:=hel 0 (by omega)
        rw [cells23,List.getElem?_eq_getElem (by omega)]at h1
        obtain⟨cs,hc,ht⟩:=Option.bind_eq_some_iff.1 h1
        obtain⟨t,s,q,d,k,v,g,rfl,_⟩:=zg2 ht
        have c0:=(World.cells?_some hc).2.2 0 (by omega)
        simpa [Addr.add] using World.cell?_spot c0
      subst hs
      have each:∀i,i<len→ ∃e:Ev,Ev.In w b (off+i*7) e∧b<w.heap.size:=by
        intro i hi
        have h1:=hel i hi
        rw [cells23,List.getElem?_eq_getElem (by omega),add_plain]at h1
        obtain⟨cs,hc,ht⟩:=Option.bind_eq_some_iff.1 h1
        obtain⟨t,s,q,d,k,v,g,rfl,_⟩:=zg2 ht
        have hblk:b<w.heap.size:=World.cells?_block hc (by omega)
        obtain⟨_,_,hcell⟩:=World.cells?_some hc
        simp only [add_plain]at hcell
        exact⟨⟨t,s,q,d,k,v,g⟩,⟨hcell 0 (by omega),hcell 1 (by omega),hcell 2 (by omega),hcell 3 (by omega),hcell 4 (by omega),hcell 5 (by omega),hcell 6 (by omega)⟩,hblk⟩
      obtain⟨_,_,hblk⟩:=each 0 (by omega)
      obtain⟨l,rfl,hi⟩:=zkq (w:=w) (b:=b) (off:=off) len (fun i hi=>by
        obtain⟨e,he,_⟩:=each i hi
        exact⟨e,he⟩)
      exact⟨_,l,rfl,_,_,rfl,hl,hm,.inr ⟨b,off,rfl,hblk,hi⟩⟩
theorem zo2 {w:World} {b off:Nat}:∀n,(∀i,i<n→ ∃e:O,OAt w b (off+i*4) e)→ ∃l:List O,l.length=n∧ ∀i,i<n→OAt w b (off+i*4) (oAt l i)
  |0,_=>⟨[],rfl,fun i hi=>by omega⟩
  |n+1,h=>by
    obtain⟨l,hl,hi⟩:=zo2 n (fun i hi=>h i (by omega))
    obtain⟨e,he⟩:=h n (by omega)
    refine⟨l++ [e],by simp [hl],fun i hi'=> ?_⟩
    by_cases hin:i<n
    · have:oAt (l++ [e]) i=oAt l i:=by unfold oAt;simp [List.getElem?_append_left (by omega:i<l.length)]
      rw [this];exact hi i hin
    · have:oAt (l++ [e]) i=e:=by unfold oAt;simp [show i=l.length by omega]
      rw [this,show i=n by omega];exact he
theorem zjx {H:Type} {enc:TypeId×Value→H} {w:World} {spare:Nat→Bool} {held:Bool} {fuel:Nat} {cs:List Value} {x:DataW H×List MemPlace}
    (hf:DataW.trod enc Tryz.prog w 0 spare held fuel 238 cs=some x):∃v l,cs= [v]∧IsO w v l:=by
  rcases DataW.trod_slice Tryz.underlying238 hf with ⟨rfl,_⟩|⟨a,len,cap,elems,rest,n,_,rfl,_,hb,hl,hm,hlen,hel,_,_⟩
  · exact⟨_,[],rfl,none,0,rfl,Nat.le_refl _,by unfold maxLen;omega,.inl rfl⟩
  · by_cases h0:len=0
    · subst h0
      exact⟨_,[],rfl,_,_,rfl,hl,hm,.inl rfl⟩
    · obtain⟨b,off,spot⟩:=a
      have hs:spot=none:=by
        have h1:=hel 0 (by omega)
        rw [zjr,List.getElem?_eq_getElem (by omega)]at h1
        obtain⟨cs,hc,ht⟩:=Option.bind_eq_some_iff.1 h1
        obtain⟨c,a,b,k,rfl,_⟩:=zn4 ht
        have c0:=(World.cells?_some hc).2.2 0 (by omega)
        simpa [Addr.add] using World.cell?_spot c0
      subst hs
      have each:∀i,i<len→ ∃e:O,OAt w b (off+i*4) e∧b<w.heap.size:=by
        intro i hi
        have h1:=hel i hi
        rw [zjr,List.getElem?_eq_getElem (by omega),add_plain]at h1
        obtain⟨cs,hc,ht⟩:=Option.bind_eq_some_iff.1 h1
        obtain⟨c,a,b',k,rfl,_⟩:=zn4 ht
        have hblk:b<w.heap.size:=World.cells?_block hc (by omega)
        obtain⟨_,_,hcell⟩:=World.cells?_some hc
        simp only [add_plain]at hcell
        exact⟨⟨c,a,b',k⟩,⟨hcell 0 (by omega),hcell 1 (by omega),hcell 2 (by omega),hcell 3 (by omega)⟩,hblk⟩
      obtain⟨_,_,hblk⟩:=each 0 (by omega)
      obtain⟨l,rfl,hi⟩:=zo2 (w:=w) (b:=b) (off:=off) len (fun i hi=>by
        obtain⟨e,he,_⟩:=each i hi
        exact⟨e,he⟩)
      exact⟨_,l,rfl,_,_,rfl,hl,hm,.inr ⟨b,off,rfl,hblk,hi⟩⟩
theorem zom {w:World} {b off:Nat}:∀n,(∀i,i<n→ ∃u l,w.cell? ⟨b,off+i,none⟩=some u∧IsO w u l)→ ∃l:List (List O),l.length=n∧ ∀i,i<n→ ∃u,w.cell? ⟨b,off+i,none⟩=some u∧IsO w u (hAt l i)
  |0,_=>⟨[],rfl,fun i hi=>by omega⟩
  |n+1,h=>by
    obtain⟨l,hl,hi⟩:=zom n (fun i hi=>h i (by omega))
    obtain⟨u,r,hu,hr⟩:=h n (by omega)
    refine⟨l++ [r],by simp [hl],fun i hi'=> ?_⟩
    by_cases hin:i<n
    · have:hAt (l++ [r]) i=hAt l i:=by unfold hAt;simp [List.getElem?_append_left (by omega:i<l.length)]
      rw [this];exact hi i hin
    · have:hAt (l++ [r]) i=r:=by unfold hAt;simp [show i=l.length by omega]
      rw [this,show i=n by omega];exact⟨u,hu,hr⟩
theorem trod_hs {H:Type} {enc:TypeId×Value→H} {w:World} {spare:Nat→Bool} {held:Bool} {fuel:Nat} {cs:List Value} {x:DataW H×List MemPlace}
    (hf:DataW.trod enc Tryz.prog w 0 spare held fuel 23 cs=some x):∃v l,cs= [v]∧IsH w v l:=by
  rcases DataW.trod_slice Tryz.underlying23 hf with ⟨rfl,_⟩|⟨a,len,cap,elems,rest,n,_,rfl,_,hb,hl,hm,hlen,hel,_,_⟩
  · exact⟨_,[],rfl,none,0,rfl,Nat.le_refl _,by unfold maxLen;omega,.inl rfl⟩
  · by_cases h0:len=0
    · subst h0
      exact⟨_,[],rfl,_,_,rfl,hl,hm,.inl rfl⟩
    · obtain⟨b,off,spot⟩:=a
      have hs:spot=none:=by
        have h1:=hel 0 (by omega)
        rw [zkx,List.getElem?_eq_getElem (by omega)]at h1
        obtain⟨cs,hc,ht⟩:=Option.bind_eq_some_iff.1 h1
        obtain⟨v,l,rfl,_⟩:=zjx ht
        have c0:=(World.cells?_some hc).2.2 0 (by omega)
        simpa [Addr.add] using World.cell?_spot c0
      subst hs
      have each:∀i,i<len→ ∃u l,(w.cell? ⟨b,off+i,none⟩=some u∧IsO w u l)∧b<w.heap.size:=by
        intro i hi
        have h1:=hel i hi
        rw [zkx,List.getElem?_eq_getElem (by omega),add_plain]at h1
        obtain⟨cs,hc,ht⟩:=Option.bind_eq_some_iff.1 h1
        obtain⟨v,l,rfl,hv⟩:=zjx ht
        have hblk:b<w.heap.size:=World.cells?_block hc (by omega)
        obtain⟨_,_,hcell⟩:=World.cells?_some hc
        have h2:=hcell 0 (by omega)
        simp only [add_plain]at h2
        exact⟨v,l,⟨by simpa using h2,hv⟩,hblk⟩
      obtain⟨_,_,_,hblk⟩:=each 0 (by omega)
      obtain⟨l,rfl,hi⟩:=zom (w:=w) (b:=b) (off:=off) len (fun i hi=>by
        obtain⟨u,l,he,_⟩:=each i hi
        exact⟨u,l,he⟩)
      exact⟨_,l,rfl,_,_,rfl,hl,hm,.inr ⟨b,off,rfl,hblk,hi⟩⟩
theorem zpg:Tryz.prog.cellsOf 143=3:=by kernel_rfl
theorem list3 {α:Type} {l:List α} (h:l.length=3):∃a b c,l= [a,b,c]:=by
  match l,h with
  | [a,b,c],_=>exact⟨a,b,c,rfl⟩
set_option maxRecDepth 100000
open Go.ChangeShapes Go.WideShapes Go.ChangeAt Go.RowKit
theorem zjs:Tryz.prog.cellsOf 168=3:=by kernel_rfl
theorem zky:Tryz.prog.cellsOf 29=1:=by kernel_rfl
theorem zjp:Tryz.prog.cellsOf 291=12:=by kernel_rfl
theorem cellsPss:Tryz.prog.cellsOf 144=1:=by kernel_rfl
theorem zjq:Tryz.prog.cellsOf 146=7:=by kernel_rfl
theorem list12 {α:Type} {l:List α} (h:l.length=12):∃a0 a1 a2 a3 a4 a5 a6 a7 a8 a9 a10 a11,l= [a0,a1,a2,a3,a4,a5,a6,a7,a8,a9,a10,a11]:=by
  match l,h with
  | [a0,a1,a2,a3,a4,a5,a6,a7,a8,a9,a10,a11],_=>exact⟨a0,a1,a2,a3,a4,a5,a6,a7,a8,a9,a10,a11,rfl⟩
theorem list7p {α:Type} {l:List α} (h:l.length=7):∃a0 a1 a2 a3 a4 a5 a6,l= [a0,a1,a2,a3,a4,a5,a6]:=by
  match l,h with
  | [a0,a1,a2,a3,a4,a5,a6],_=>exact⟨a0,a1,a2,a3,a4,a5,a6,rfl⟩
theorem list5 {α:Type} {l:List α} (h:l.length=5):∃a0 a1 a2 a3 a4,l= [a0,a1,a2,a3,a4]:=by
  match l,h with
  | [a0,a1,a2,a3,a4],_=>exact⟨a0,a1,a2,a3,a4,rfl⟩
theorem list4p {α:Type} {l:List α} (h:l.length=4):∃a b c d,l= [a,b,c,d]:=by
  match l,h with
  | [a,b,c,d],_=>exact⟨a,b,c,d,rfl⟩
theorem zh7 {H:Type} {enc:TypeId×Value→H} {w:World} {base:Nat} {spare:Nat→Bool} {held:Bool} {fuel:Nat} {cs:List Value} {x:DataW H×List MemPlace}
    (h:DataW.trod enc Tryz.prog w base spare held fuel 168 cs=some x):∃t l v:Int,cs= [.int .i64 t,.int .i64 l,.int .i64 v]:=by
  obtain⟨xs,n,_,rfl,hl,hlen,hf⟩:=DataW.trod_struct Tryz.underlying168 h
  rw [zjs]at hl
  obtain⟨c0,c1,c2,rfl⟩:=list3 hl
  have hx:xs.length=3:=by simpa using hlen
  obtain⟨y0,y1,y2,rfl⟩:=list3 hx
  have h0:=hf 0 _ rfl
  have h1:=hf 1 _ rfl
  have h2:=hf 2 _ rfl
  obtain⟨a0,e0,_,w0⟩:=DataW.trod_int Tryz.underlying3 h0
  obtain⟨a1,e1,_,w1⟩:=DataW.trod_int Tryz.underlying3 h1
  obtain⟨a2,e2,_,w2⟩:=DataW.trod_int Tryz.underlying3 h2
  simp [cells3]at e0 e1 e2
  subst e0 e1 e2
  exact⟨a0,a1,a2,rfl⟩
theorem zmy {w:World} {b off:Nat}:∀n,(∀i,i<n→ ∃e:Em,XAt w b (off+i*3) e)→ ∃l:List Em,l.length=n∧ ∀i,i<n→XAt w b (off+i*3) (xAt l i)
  |0,_=>⟨[],rfl,fun i hi=>by omega⟩
  |n+1,h=>by
    obtain⟨l,hl,hi⟩:=zmy n (fun i hi=>h i (by omega))
    obtain⟨e,he⟩:=h n (by omega)
    refine⟨l++ [e],by simp [hl],fun i hi'=> ?_⟩
    by_cases hin:i<n
    · have:xAt (l++ [e]) i=xAt l i:=by unfold xAt;simp [List.getElem?_append_left (by omega:i<l.length)]
      rw [this];exact hi i hin
    · have:xAt (l++ [e]) i=e:=by unfold xAt;simp [show i=l.length by omega]
      rw [this,show i=n by omega];exact he
theorem zjy {H:Type} {enc:TypeId×Value→H} {w:World} {spare:Nat→Bool} {held:Bool} {fuel:Nat} {cs:List Value} {x:DataW H×List MemPlace}
    (hf:DataW.trod enc Tryz.prog w 0 spare held fuel 29 cs=some x):∃v l,cs= [v]∧IsX w v l:=by
  rcases DataW.trod_slice Tryz.underlying29 hf with ⟨rfl,_⟩|⟨a,len,cap,elems,rest,n,_,rfl,_,hb,hl,hm,hlen,hel,_,_⟩
  · exact⟨_,[],rfl,none,0,rfl,Nat.le_refl _,by unfold maxLen;omega,.inl rfl⟩
  · by_cases h0:len=0
    · subst h0
      exact⟨_,[],rfl,_,_,rfl,hl,hm,.inl rfl⟩
    · obtain⟨b,off,spot⟩:=a
      have hs:spot=none:=by
        have h1:=hel 0 (by omega)
        rw [zjs,List.getElem?_eq_getElem (by omega)]at h1
        obtain⟨cs,hc,ht⟩:=Option.bind_eq_some_iff.1 h1
        obtain⟨t,l,v,rfl⟩:=zh7 ht
        have c0:=(World.cells?_some hc).2.2 0 (by omega)
        simpa [Addr.add] using World.cell?_spot c0
      subst hs
      have each:∀i,i<len→ ∃e:Em,XAt w b (off+i*3) e∧b<w.heap.size:=by
        intro i hi
        have h1:=hel i hi
        rw [zjs,List.getElem?_eq_getElem (by omega),add_plain]at h1
        obtain⟨cs,hc,ht⟩:=Option.bind_eq_some_iff.1 h1
        obtain⟨t,l,v,rfl⟩:=zh7 ht
        have hblk:b<w.heap.size:=World.cells?_block hc (by omega)
        obtain⟨_,_,hcell⟩:=World.cells?_some hc
        simp only [add_plain]at hcell
        exact⟨⟨t,l,v⟩,⟨hcell 0 (by omega),hcell 1 (by omega),hcell 2 (by omega)⟩,hblk⟩
      obtain⟨_,_,hblk⟩:=each 0 (by omega)
      obtain⟨l,rfl,hi⟩:=zmy (w:=w) (b:=b) (off:=off) len (fun i hi=>by
        obtain⟨e,he,_⟩:=each i hi
        exact⟨e,he⟩)
      exact⟨_,l,rfl,_,_,rfl,hl,hm,.inr ⟨b,off,rfl,hblk,hi⟩⟩
theorem zfe {H:Type} {enc:TypeId×Value→H} {w:World} {spare:Nat→Bool} {held:Bool} {fuel:Nat} {cs:List Value} {x:DataW H×List MemPlace}
    (h:DataW.trod enc Tryz.prog w 0 spare held fuel 143 cs=some x):∃(s:St) (v:Value),cs= [v,.int .i64 s.q,.int .i64 s.d]∧IsI w v s.r:=by
  obtain⟨xs,n,_,_,hl,hlen,hf⟩:=DataW.trod_struct Tryz.underlying143 h
  rw [zpg]at hl
  obtain⟨c0,c1,c2,rfl⟩:=list3 hl
  have hx:xs.length=3:=by simpa using hlen
  obtain⟨y0,y1,y2,rfl⟩:=list3 hx
  have h0:=hf 0 _ rfl
  have h1:=hf 1 _ rfl
  have h2:=hf 2 _ rfl
  obtain⟨v0,l0,e0,g0⟩:=zcp h0
  obtain⟨a1,e1,_,_⟩:=DataW.trod_int Tryz.underlying3 h1
  obtain⟨a2,e2,_,_⟩:=DataW.trod_int Tryz.underlying3 h2
  simp [cells3,zda]at e0 e1 e2
  subst e0 e1 e2
  exact⟨⟨l0,a1,a2⟩,c0,rfl,g0⟩
theorem zh4 {H:Type} {enc:TypeId×Value→H} {w:World} {spare:Nat→Bool} {held:Bool} {fuel:Nat} {cs:List Value} {x:DataW H×List MemPlace}
    (h:DataW.trod enc Tryz.prog w 0 spare held fuel 291 cs=some x):∃(p:Ps) (u7 u10 u11:Value),cs= [.int .i64 p.e.t,.int .i64 p.e.s,.int .i64 p.e.q,.int .i64 p.e.d,.int .i64 p.e.k,.int .i64 p.e.v,.int .i64 p.e.g,u7,.int .i64 p.b.q,.int .i64 p.b.d,u10,u11]∧IsD w u7 (ywr p.b.r)∧IsD w u10 (evsD p.s)∧IsD w u11 (emsD p.x):=by
  obtain⟨xs,n,_,_,hl,hlen,hf⟩:=DataW.trod_struct Tryz.underlying291 h
  rw [zjp]at hl
  obtain⟨c0,c1,c2,c3,c4,c5,c6,c7,c8,c9,c10,c11,rfl⟩:=list12 hl
  have hx:xs.length=4:=by simpa using hlen
  obtain⟨y0,y1,y2,y3,rfl⟩:=list4p hx
  have h0:=hf 0 _ rfl
  have h1:=hf 1 _ rfl
  have h2:=hf 2 _ rfl
  have h3:=hf 3 _ rfl
  obtain⟨t,s,q,d,k,v,g,e0,_⟩:=zg2 h0
  obtain⟨st,v1,e1,g1⟩:=zfe h1
  obtain⟨v2,l2,e2,g2⟩:=ze2 h2
  obtain⟨v3,l3,e3,g3⟩:=zjy h3
  simp [cells23,zpg,ze7,zky]at e0 e1 e2 e3
  obtain⟨rfl,rfl,rfl,rfl,rfl,rfl,rfl⟩:=e0
  obtain⟨rfl,rfl,rfl⟩:=e1
  subst e2 e3
  exact⟨⟨⟨t,s,q,d,k,v,g⟩,st,l2,l3⟩,c7,c10,c11,rfl,g1.isD,g2.isD,g3.isD⟩
theorem zns {w:World} {b off:Nat}:∀n,(∀i,i<n→ ∃p:Ps,∀r,r<12→ ∃u,w.cell? ⟨b,off+i*12+r,none⟩=some u∧IsD w u (p.cell r))→
    ∃l:List Ps,l.length=n∧ ∀i,i<n→ ∀r,r<12→ ∃u,w.cell? ⟨b,off+i*12+r,none⟩=some u∧IsD w u ((psAt l i).cell r)
  |0,_=>⟨[],rfl,fun i hi=>by omega⟩
  |n+1,h=>by
    obtain⟨l,hl,hi⟩:=zns n (fun i hi=>h i (by omega))
    obtain⟨e,he⟩:=h n (by omega)
    refine⟨l++ [e],by simp [hl],fun i hi'=> ?_⟩
    by_cases hin:i<n
    · have:psAt (l++ [e]) i=psAt l i:=by unfold psAt;simp [List.getElem?_append_left (by omega:i<l.length)]
      rw [this];exact hi i hin
    · have:psAt (l++ [e]) i=e:=by unfold psAt;simp [show i=l.length by omega]
      rw [this,show i=n by omega];exact he
theorem zl9 {H:Type} {enc:TypeId×Value→H} {w:World} {spare:Nat→Bool} {held:Bool} {fuel:Nat} {cs:List Value} {x:DataW H×List MemPlace}
    (hf:DataW.trod enc Tryz.prog w 0 spare held fuel 144 cs=some x):∃v l,cs= [v]∧IsD w v (yw3 l):=by
  rcases DataW.trod_slice Tryz.underlying144 hf with ⟨rfl,_⟩|⟨a,len,cap,elems,rest,n,_,rfl,_,hb,hl,hm,hlen,hel,_,_⟩
  · exact⟨_,[],rfl,.nil none 0 12 _ (by unfold maxLen;omega)⟩
  · by_cases h0:len=0
    · subst h0
      exact⟨_,[],rfl,.nil _ _ 12 _ hm⟩
    · obtain⟨b,off,spot⟩:=a
      have hs:spot=none:=by
        have h1:=hel 0 (by omega)
        rw [zjp,List.getElem?_eq_getElem (by omega)]at h1
        obtain⟨cs,hc,ht⟩:=Option.bind_eq_some_iff.1 h1
        obtain⟨p,u7,u10,u11,rfl,_⟩:=zh4 ht
        have c0:=(World.cells?_some hc).2.2 0 (by omega)
        simpa [Addr.add] using World.cell?_spot c0
      subst hs
      have each:∀i,i<len→ ∃p:Ps,(∀r,r<12→ ∃u,w.cell? ⟨b,off+i*12+r,none⟩=some u∧IsD w u (p.cell r))∧b<w.heap.size:=by
        intro i hi
        have h1:=hel i hi
        rw [zjp,List.getElem?_eq_getElem (by omega),add_plain]at h1
        obtain⟨cs,hc,ht⟩:=Option.bind_eq_some_iff.1 h1
        obtain⟨p,u7,u10,u11,rfl,g7,g10,g11⟩:=zh4 ht
        have hblk:b<w.heap.size:=World.cells?_block hc (by omega)
        obtain⟨_,_,hcell⟩:=World.cells?_some hc
        simp only [add_plain]at hcell
        refine⟨p,fun r hr=> ?_,hblk⟩
        have hcr:=hcell r hr
        match r,hr,hcr with
        |0,_,hcr=>exact⟨_,hcr,.val _⟩
        |1,_,hcr=>exact⟨_,hcr,.val _⟩
        |2,_,hcr=>exact⟨_,hcr,.val _⟩
        |3,_,hcr=>exact⟨_,hcr,.val _⟩
        |4,_,hcr=>exact⟨_,hcr,.val _⟩
        |5,_,hcr=>exact⟨_,hcr,.val _⟩
        |6,_,hcr=>exact⟨_,hcr,.val _⟩
        |7,_,hcr=>exact⟨_,hcr,g7⟩
        |8,_,hcr=>exact⟨_,hcr,.val _⟩
        |9,_,hcr=>exact⟨_,hcr,.val _⟩
        |10,_,hcr=>exact⟨_,hcr,g10⟩
        |11,_,hcr=>exact⟨_,hcr,g11⟩
      obtain⟨_,_,hblk⟩:=each 0 (by omega)
      obtain⟨l,rfl,hi⟩:=zns (w:=w) (b:=b) (off:=off) len (fun i hi=>by
        obtain⟨e,he,_⟩:=each i hi
        exact⟨e,he⟩)
      refine⟨_,l,rfl,IsD.of_parts hl hm (.inr ⟨b,off,rfl,hblk,fun j hj=> ?_⟩)⟩
      obtain⟨u,hu,hd⟩:=hi (j/12) (by omega) (j%12) (by omega)
      refine⟨u,?_,hd⟩
      rw [←hu]
      congr 2
      omega
set_option maxRecDepth 100000
open Go.ChangeShapes Go.WideShapes Go.ChangeAt Go.RowKit
theorem zig:Tryz.prog.cellsOf 4=1:=by kernel_rfl
theorem zgv:Tryz.prog.cellsOf 163=8:=by kernel_rfl
theorem cellsMls:Tryz.prog.cellsOf 28=1:=by kernel_rfl
theorem cellsPas:Tryz.prog.cellsOf 27=1:=by kernel_rfl
theorem cellsKn:Tryz.prog.cellsOf 31=14:=by kernel_rfl
theorem list8k {α:Type} {l:List α} (h:l.length=8):∃a0 a1 a2 a3 a4 a5 a6 a7,l= [a0,a1,a2,a3,a4,a5,a6,a7]:=by
  match l,h with
  | [a0,a1,a2,a3,a4,a5,a6,a7],_=>exact⟨a0,a1,a2,a3,a4,a5,a6,a7,rfl⟩
theorem list2k {α:Type} {l:List α} (h:l.length=2):∃a0 a1,l= [a0,a1]:=by
  match l,h with
  | [a0,a1],_=>exact⟨a0,a1,rfl⟩
theorem list14k {α:Type} {l:List α} (h:l.length=14):∃a0 a1 a2 a3 a4 a5 a6 a7 a8 a9 a10 a11 a12 a13,l= [a0,a1,a2,a3,a4,a5,a6,a7,a8,a9,a10,a11,a12,a13]:=by
  match l,h with
  | [a0,a1,a2,a3,a4,a5,a6,a7,a8,a9,a10,a11,a12,a13],_=>exact⟨a0,a1,a2,a3,a4,a5,a6,a7,a8,a9,a10,a11,a12,a13,rfl⟩
theorem list9k {α:Type} {l:List α} (h:l.length=9):∃a0 a1 a2 a3 a4 a5 a6 a7 a8,l= [a0,a1,a2,a3,a4,a5,a6,a7,a8]:=by
  match l,h with
  | [a0,a1,a2,a3,a4,a5,a6,a7,a8],_=>exact⟨a0,a1,a2,a3,a4,a5,a6,a7,a8,rfl⟩
theorem zh6 {H:Type} {enc:TypeId×Value→H} {w:World} {spare:Nat→Bool} {held:Bool} {fuel:Nat} {cs:List Value} {x:DataW H×List MemPlace}
    (h:DataW.trod enc Tryz.prog w 0 spare held fuel 163 cs=some x):∃m:Ml,cs=m.cs:=by
  obtain⟨xs,n,_,_,hl,hlen,hf⟩:=DataW.trod_struct Tryz.underlying163 h
  rw [zgv]at hl
  obtain⟨c0,c1,c2,c3,c4,c5,c6,c7,rfl⟩:=list8k hl
  have hx:xs.length=2:=by simpa using hlen
  obtain⟨y0,y1,rfl⟩:=list2k hx
  have h0:=hf 0 _ rfl
  have h1:=hf 1 _ rfl
  obtain⟨t,s,q,d,k,v,g,e0,_⟩:=zg2 h0
  obtain⟨a1,e1,_⟩:=DataW.trod_bool Tryz.underlying4 h1
  simp [cells23,zig]at e0 e1
  obtain⟨rfl,rfl,rfl,rfl,rfl,rfl,rfl⟩:=e0
  subst e1
  exact⟨⟨⟨t,s,q,d,k,v,g⟩,a1⟩,rfl⟩
theorem zo8 {w:World} {b off:Nat}:∀n,(∀i,i<n→ ∃e:Ml,MlAt w b (off+i*8) e)→ ∃l:List Ml,l.length=n∧ ∀i,i<n→MlAt w b (off+i*8) (mlAt l i)
  |0,_=>⟨[],rfl,fun i hi=>by omega⟩
  |n+1,h=>by
    obtain⟨l,hl,hi⟩:=zo8 n (fun i hi=>h i (by omega))
    obtain⟨e,he⟩:=h n (by omega)
    refine⟨l++ [e],by simp [hl],fun i hi'=> ?_⟩
    by_cases hin:i<n
    · have:mlAt (l++ [e]) i=mlAt l i:=by unfold mlAt;simp [List.getElem?_append_left (by omega:i<l.length)]
      rw [this];exact hi i hin
    · have:mlAt (l++ [e]) i=e:=by unfold mlAt;simp [show i=l.length by omega]
      rw [this,show i=n by omega];exact he
theorem zlc {H:Type} {enc:TypeId×Value→H} {w:World} {spare:Nat→Bool} {held:Bool} {fuel:Nat} {cs:List Value} {x:DataW H×List MemPlace}
    (hf:DataW.trod enc Tryz.prog w 0 spare held fuel 28 cs=some x):∃v l,cs= [v]∧IsMl w v l:=by
  rcases DataW.trod_slice Tryz.underlying28 hf with ⟨rfl,_⟩|⟨a,len,cap,elems,rest,n,_,rfl,_,hb,hl,hm,hlen,hel,_,_⟩
  · exact⟨_,[],rfl,none,0,rfl,Nat.le_refl _,by unfold maxLen;omega,.inl rfl⟩
  · by_cases h0:len=0
    · subst h0
      exact⟨_,[],rfl,_,_,rfl,hl,hm,.inl rfl⟩
    · obtain⟨b,off,spot⟩:=a
      have hs:spot=none:=by
        have h1:=hel 0 (by omega)
        rw [zgv,List.getElem?_eq_getElem (by omega)]at h1
        obtain⟨cs,hc,ht⟩:=Option.bind_eq_some_iff.1 h1
        obtain⟨m,rfl⟩:=zh6 ht
        have c0:=(World.cells?_some hc).2.2 0 (by omega)
        simpa [Addr.add] using World.cell?_spot c0
      subst hs
      have each:∀i,i<len→ ∃e:Ml,MlAt w b (off+i*8) e∧b<w.heap.size:=by
        intro i hi
        have h1:=hel i hi
        rw [zgv,List.getElem?_eq_getElem (by omega),add_plain]at h1
        obtain⟨cs,hc,ht⟩:=Option.bind_eq_some_iff.1 h1
        obtain⟨m,rfl⟩:=zh6 ht
        have hblk:b<w.heap.size:=World.cells?_block hc (by omega)
        obtain⟨_,_,hcell⟩:=World.cells?_some hc
        simp only [add_plain]at hcell
        exact⟨m,⟨hcell 0 (by omega),hcell 1 (by omega),hcell 2 (by omega),hcell 3 (by omega),hcell 4 (by omega),hcell 5 (by omega),hcell 6 (by omega),hcell 7 (by omega)⟩,hblk⟩
      obtain⟨_,_,hblk⟩:=each 0 (by omega)
      obtain⟨l,rfl,hi⟩:=zo8 (w:=w) (b:=b) (off:=off) len (fun i hi=>by
        obtain⟨e,he,_⟩:=each i hi
        exact⟨e,he⟩)
      exact⟨_,l,rfl,_,_,rfl,hl,hm,.inr ⟨b,off,rfl,hblk,hi⟩⟩
theorem zh5 {H:Type} {enc:TypeId×Value→H} {w:World} {spare:Nat→Bool} {held:Bool} {fuel:Nat} {cs:List Value} {x:DataW H×List MemPlace}
    (h:DataW.trod enc Tryz.prog w 0 spare held fuel 146 cs=some x):∃(p:Pa) (u1 u4 u5 u6:Value),cs= [.int .i64 p.n,u1,.int .i64 p.st.q,.int .i64 p.st.d,u4,u5,u6]∧IsD w u1 (ywr p.st.r)∧IsD w u4 (yw3 p.p)∧IsD w u5 (evsD p.t)∧IsD w u6 (ywr p.a):=by
  obtain⟨xs,n,_,_,hl,hlen,hf⟩:=DataW.trod_struct Tryz.underlying146 h
  rw [zjq]at hl
  obtain⟨c0,c1,c2,c3,c4,c5,c6,rfl⟩:=list7p hl
  have hx:xs.length=5:=by simpa using hlen
  obtain⟨y0,y1,y2,y3,y4,rfl⟩:=list5 hx
  have h0:=hf 0 _ rfl
  have h1:=hf 1 _ rfl
  have h2:=hf 2 _ rfl
  have h3:=hf 3 _ rfl
  have h4:=hf 4 _ rfl
  obtain⟨a0,e0,_,_⟩:=DataW.trod_int Tryz.underlying3 h0
  obtain⟨st,v1,e1,g1⟩:=zfe h1
  obtain⟨v2,l2,e2,g2⟩:=zl9 h2
  obtain⟨v3,l3,e3,g3⟩:=ze2 h3
  obtain⟨v4,l4,e4,g4⟩:=zcp h4
  simp [cells3,zpg,cellsPss,ze7,zda]at e0 e1 e2 e3 e4
  obtain⟨rfl,rfl,rfl⟩:=e1
  subst e0 e2 e3 e4
  exact⟨⟨a0,st,l2,l3,l4⟩,c1,c4,c5,c6,rfl,g1.isD,g2,g3.isD,g4.isD⟩
theorem znz {w:World} {b off:Nat}:∀n,(∀i,i<n→ ∃p:Pa,∀r,r<7→ ∃u,w.cell? ⟨b,off+i*7+r,none⟩=some u∧IsD w u (p.cell r))→
    ∃l:List Pa,l.length=n∧ ∀i,i<n→ ∀r,r<7→ ∃u,w.cell? ⟨b,off+i*7+r,none⟩=some u∧IsD w u ((paAt l i).cell r)
  |0,_=>⟨[],rfl,fun i hi=>by omega⟩
  |n+1,h=>by
    obtain⟨l,hl,hi⟩:=znz n (fun i hi=>h i (by omega))
    obtain⟨e,he⟩:=h n (by omega)
    refine⟨l++ [e],by simp [hl],fun i hi'=> ?_⟩
    by_cases hin:i<n
    · have:paAt (l++ [e]) i=paAt l i:=by unfold paAt;simp [List.getElem?_append_left (by omega:i<l.length)]
      rw [this];exact hi i hin
    · have:paAt (l++ [e]) i=e:=by unfold paAt;simp [show i=l.length by omega]
      rw [this,show i=n by omega];exact he
theorem zla {H:Type} {enc:TypeId×Value→H} {w:World} {spare:Nat→Bool} {held:Bool} {fuel:Nat} {cs:List Value} {x:DataW H×List MemPlace}
    (hf:DataW.trod enc Tryz.prog w 0 spare held fuel 27 cs=some x):∃v l,cs= [v]∧IsD w v (ywi l):=by
  rcases DataW.trod_slice Tryz.underlying27 hf with ⟨rfl,_⟩|⟨a,len,cap,elems,rest,n,_,rfl,_,hb,hl,hm,hlen,hel,_,_⟩
  · exact⟨_,[],rfl,.nil none 0 7 _ (by unfold maxLen;omega)⟩
  · by_cases h0:len=0
    · subst h0
      exact⟨_,[],rfl,.nil _ _ 7 _ hm⟩
    · obtain⟨b,off,spot⟩:=a
      have hs:spot=none:=by
        have h1:=hel 0 (by omega)
        rw [zjq,List.getElem?_eq_getElem (by omega)]at h1
        obtain⟨cs,hc,ht⟩:=Option.bind_eq_some_iff.1 h1
        obtain⟨p,u1,u4,u5,u6,rfl,_⟩:=zh5 ht
        have c0:=(World.cells?_some hc).2.2 0 (by omega)
        simpa [Addr.add] using World.cell?_spot c0
      subst hs
      have each:∀i,i<len→ ∃p:Pa,(∀r,r<7→ ∃u,w.cell? ⟨b,off+i*7+r,none⟩=some u∧IsD w u (p.cell r))∧b<w.heap.size:=by
        intro i hi
        have h1:=hel i hi
        rw [zjq,List.getElem?_eq_getElem (by omega),add_plain]at h1
        obtain⟨cs,hc,ht⟩:=Option.bind_eq_some_iff.1 h1
        obtain⟨p,u1,u4,u5,u6,rfl,g1,g4,g5,g6⟩:=zh5 ht
        have hblk:b<w.heap.size:=World.cells?_block hc (by omega)
        obtain⟨_,_,hcell⟩:=World.cells?_some hc
        simp only [add_plain]at hcell
        refine⟨p,fun r hr=> ?_,hblk⟩
        have hcr:=hcell r hr
        match r,hr,hcr with
        |0,_,hcr=>exact⟨_,hcr,.val _⟩
        |1,_,hcr=>exact⟨_,hcr,g1⟩
        |2,_,hcr=>exact⟨_,hcr,.val _⟩
        |3,_,hcr=>exact⟨_,hcr,.val _⟩
        |4,_,hcr=>exact⟨_,hcr,g4⟩
        |5,_,hcr=>exact⟨_,hcr,g5⟩
        |6,_,hcr=>exact⟨_,hcr,g6⟩
      obtain⟨_,_,hblk⟩:=each 0 (by omega)
      obtain⟨l,rfl,hi⟩:=znz (w:=w) (b:=b) (off:=off) len (fun i hi=>by
        obtain⟨e,he,_⟩:=each i hi
        exact⟨e,he⟩)
      refine⟨_,l,rfl,IsD.of_parts hl hm (.inr ⟨b,off,rfl,hblk,fun j hj=> ?_⟩)⟩
      obtain⟨u,hu,hd⟩:=hi (j/7) (by omega) (j%7) (by omega)
      refine⟨u,?_,hd⟩
      rw [←hu]
      congr 2
      omega
theorem zlb {H:Type} {enc:TypeId×Value→H} {w:World} {spare:Nat→Bool} {held:Bool} {fuel:Nat} {cs:List Value} {x:DataW H×List MemPlace}
    (h:DataW.trod enc Tryz.prog w 0 spare held fuel 26 cs=some x):∃(m:Md) (vi vh vs:Value),cs= [.int .i64 m.n,.int .i64 m.s,vi,vh,vs,.int .i64 m.z]∧IsI w vi m.i∧IsH w vh m.h∧IsEvs w vs m.e:=by
  obtain⟨xs,n,_,_,hl,hlen,hf⟩:=DataW.trod_struct Tryz.underlying26 h
  rw [cellsM]at hl
  obtain⟨c0,c1,c2,c3,c4,c5,rfl⟩:=list6 hl
  have hx:xs.length=6:=by simpa using hlen
  obtain⟨y0,y1,y2,y3,y4,y5,rfl⟩:=list6 hx
  have h0:=hf 0 _ rfl
  have h1:=hf 1 _ rfl
  have h2:=hf 2 _ rfl
  have h3:=hf 3 _ rfl
  have h4:=hf 4 _ rfl
  have h5:=hf 5 _ rfl
  obtain⟨a0,e0,_,_⟩:=DataW.trod_int Tryz.underlying3 h0
  obtain⟨a1,e1,_,_⟩:=DataW.trod_int Tryz.underlying3 h1
  obtain⟨v2,l2,e2,g2⟩:=zcp h2
  obtain⟨v3,l3,e3,g3⟩:=trod_hs h3
  obtain⟨v4,l4,e4,g4⟩:=ze2 h4
  obtain⟨a5,e5,_,_⟩:=DataW.trod_int Tryz.underlying3 h5
  simp [cells3,zda,zph,ze7]at e0 e1 e2 e3 e4 e5
  subst e0 e1 e2 e3 e4 e5
  exact⟨⟨a0,a1,l2,l3,l4,a5⟩,c2,c3,c4,rfl,g2,g3,g4⟩
theorem zj3 {H:Type} {enc:TypeId×Value→H} {w:World} {b0:Nat} {spare:Nat→Bool} {held:Bool} {r:Reach} {v:Value} {d:DataW H} {p:List MemPlace}
    (hv:Value.okWide Tryz.prog w r b0 31 v) (h:DataW.Trod enc Tryz.prog w 0 spare held 31 v d p):∃k:Kn,IsKern w v k:=by
  obtain⟨cs,rfl,hsz⟩:=okWide_struct Tryz.underlying31 hv
  obtain⟨fuel,hf⟩:=h
  obtain⟨xs,n,_,_,hl,hlen,hf⟩:=DataW.trod_struct Tryz.underlying31 hf
  rw [cellsKn]at hl
  obtain⟨c0,c1,c2,c3,c4,c5,c6,c7,c8,c9,c10,c11,c12,c13,hcs⟩:=list14k hl
  have hx:xs.length=9:=by simpa using hlen
  obtain⟨y0,y1,y2,y3,y4,y5,y6,y7,y8,rfl⟩:=list9k hx
  rw [hcs]at hf
  have h0:=hf 0 _ rfl
  have h1:=hf 1 _ rfl
  have h2:=hf 2 _ rfl
  have h3:=hf 3 _ rfl
  have h4:=hf 4 _ rfl
  have h5:=hf 5 _ rfl
  have h6:=hf 6 _ rfl
  have h7:=hf 7 _ rfl
  have h8:=hf 8 _ rfl
  obtain⟨m,vi,vh,vs,e0,gi,gh,ge⟩:=zlb h0
  obtain⟨v1,l1,e1,g1⟩:=zcp h1
  obtain⟨v2,l2,e2,g2⟩:=zla h2
  obtain⟨v3,l3,e3,g3⟩:=zlc h3
  obtain⟨a4,e4,_,_⟩:=DataW.trod_int Tryz.underlying3 h4
  obtain⟨a5,e5,_,_⟩:=DataW.trod_int Tryz.underlying3 h5
  obtain⟨a6,e6,_⟩:=DataW.trod_bool Tryz.underlying4 h6
  obtain⟨v7,l7,e7,g7⟩:=ze2 h7
  obtain⟨v8,l8,e8,g8⟩:=zjy h8
  simp [cells3,cellsM,zda,cellsPas,cellsMls,zig,ze7,zky]at e0 e1 e2 e3 e4 e5 e6 e7 e8
  obtain⟨rfl,rfl,rfl,rfl,rfl,rfl⟩:=e0
  subst e1 e2 e3 e4 e5 e6 e7 e8
  refine⟨⟨m,l1,l2,l3,a4,a5,a6,l7,l8⟩,c2,c3,c4,c6,c7,c8,c12,c13,?_,⟨_,_,_,rfl,gi,gh,ge⟩,g1.isD,g2,g3.isD,g7.isD,g8.isD⟩
  rw [show cs= #[.int .i64 m.n,.int .i64 m.s,c2,c3,c4,.int .i64 m.z,c6,c7,c8,.int .i64 a4,.int .i64 a5,.bool a6,c12,c13]from by
    apply Array.toList_inj.1
    simpa [Value.cells] using hcs]
end Go.Proofs.YtghndljgadpijaaGreat

