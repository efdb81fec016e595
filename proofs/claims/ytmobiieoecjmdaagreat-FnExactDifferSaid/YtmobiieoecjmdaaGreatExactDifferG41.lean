/- LawDifferW, OpenS, VOpen, MOpen, SOpen, TPtO, KOp, WOp -/
import Derived.Test.YtmobiieoecjmdaaGreatExactDifferG01
import Derived.Test.YtmobiieoecjmdaaGreatExactDifferG38
import Derived.Test.YtmobiieoecjmdaaGreatExactDifferLDfS
import Derived.Test.YtmobiieoecjmdaaGreatExactDifferG39
import Derived.Test.YtmobiieoecjmdaaGreatExactDifferG40
import Derived.Deep.RegionHeld3
import Derived.Test.YtmobiieoecjmdaaGreatExactDifferG14
import Derived.ProofKit
import Derived.ChangeOld
import Derived.OpenShut
import Derived.SizedLaws
import Derived.Test.YtmobiieoecjmdaaGreatExactDifferG03
import Derived.Test.YtmobiieoecjmdaaGreatExactDifferG04
/- The walk of FnExactDiffer. -/
namespace Go.Proofs.YtmobiieoecjmdaaGreat.LawExactDiffer
open Go.ChangeShapes Go.WideShapes Go.ChangeAt Go.RowKit Go.Proofs.YtmobiieoecjmdaaGreat
theorem yah {p:Prop} (h:p):Hid p:=h
set_option maxRecDepth 100000 in
set_option maxHeartbeats 16000000 in
theorem walk (x:Value) (v:Wd) (i1 i2:Int) (w:World) (hx:IsW w x v) (_h1:wfI i1) (_h2:wfI i2):
  Calls Tryz.prog 8 #[x,.int .i64 i1,.int .i64 i2] w fun e w'=>e= .returned (.bool true)∧Below w.heap.size w w':=by
 haveI:Inhabited PsF:=Classical.inhabited_of_nonempty psF_some
 have HX:Hid (IsW w x v):=hx
 obtain⟨vi,vh,vs,uk,uc,rfl,_⟩:=hx
 clear _h1 _h2
 obtain⟨W0,hW0⟩:∃W0,w.alloc (.cells #[.int .i64 v.m.n,.int .i64 v.m.s,vi,vh,vs,.int .i64 v.m.z,uk,uc] 30)=W0:=⟨_,rfl⟩
 have HB_W0:=hdq (beA hW0)
 have HP_W0:=hdq (bkA hW0)
 obtain⟨p0,p1,p2,p3,p4,p5,p6,p7⟩:=c8_8 HP_W0.out
 have hP0:w.heap.size<W0.heap.size:=HP_W0.out.lt
 go_enter Tryz.func8,Tryz.ntmps8
 go_wp2_with fail
 clear hW0 p0 p1 p2 p3 p4 p5 p6 p7
 refine(ym8 _ v _ (HX.out.under HB_W0.out)).mono ?_
 rintro e w1 ⟨⟨r,rfl,hr⟩,hb⟩
 have z_w1:W0.heap.size≤w1.heap.size:=hb.size
 have HB_w1:=yah (trm HB_W0.out hb)
 have HP_w1:=yah (HP_W0.out.below hb)
 clear HB_W0 HP_W0 hb
 rcases hr with rfl|⟨hr0,hr9⟩
 case inl=>
  go_wp2
  go_ret
  exact⟨rfl,HB_w1.out⟩
 have hr1:¬(r<0):=by omega
 have HSM:Hid (ycb v):=hr9
 clear hr0 hr9
 obtain⟨p0,p1,p2,p3,p4,p5,p6,p7⟩:=c8_8 HP_w1.out
 go_wp2_with fail
 clear p0 p1 p2 p3 p4 p5 p6 p7
 refine(yfz _ v _ HSM.out (HX.out.under HB_w1.out)).mono ?_
 rintro e w2 ⟨y0,rfl,hb,hr⟩
 have z_w2:w1.heap.size≤w2.heap.size:=hb.size
 have HB_w2:=yah (trm HB_w1.out hb)
 have HP_w2:=yah (HP_w1.out.below hb)
 clear HB_w1 HP_w1
 have HT_w2:Hid (IsW w2 y0 v):=hr
 clear hb hr
 go_wp2_with fail
 refine(sDiffer _ v i1 i2 _ HSM.out HT_w2.out).mono ?_
 rintro e w3 ⟨rfl,hb⟩
 have z_w3:w2.heap.size≤w3.heap.size:=hb.size
 have HB_w3:=yah (trm HB_w2.out hb)
 have HP_w3:=yah (HP_w2.out.below hb)
 clear HB_w2 HP_w2
 clear hb HT_w2
 obtain⟨p0,p1,p2,p3,p4,p5,p6,p7⟩:=c8_8 HP_w3.out
 go_wp2_with fail
 clear p0 p1 p2 p3 p4 p5 p6 p7
 refine(yfz _ v _ HSM.out (HX.out.under HB_w3.out)).mono ?_
 rintro e w4 ⟨y1,rfl,hb,hr⟩
 have z_w4:w3.heap.size≤w4.heap.size:=hb.size
 have HB_w4:=yah (trm HB_w3.out hb)
 have HP_w4:=yah (HP_w3.out.below hb)
 clear HB_w3 HP_w3
 have HR_w4:Hid (IsW w4 y1 v):=hr
 clear hb hr
 obtain⟨ai,ci,ah,ch,ae,ce,ak,ck,ac,cc,rfl,_⟩:=HR_w4.out.form
 obtain⟨Vw4,hVw4⟩:∃V,w4.alloc (.cells #[.int .i64 v.m.n,.int .i64 v.m.s,.slice ai v.m.i.length ci,.slice ah v.m.h.length ch,.slice ae v.m.e.length ce,.int .i64 v.m.z,.slice ak v.k.length ck,.slice ac v.c.length cc] 39)=V:=⟨_,rfl⟩
 have BHX0:=bkA hVw4
 have hb:=beA hVw4
 have y_Vw4:w4.heap.size<Vw4.heap.size:=BHX0.lt
 have z_Vw4:w4.heap.size≤Vw4.heap.size:=hb.size
 have HB_Vw4:=yah (trm HB_w4.out hb)
 have HP_Vw4:=yah (HP_w4.out.below hb)
 have HR_Vw4:=yah (HR_w4.out.under hb)
 clear HB_w4 HP_w4 HR_w4
 have HX0_Vw4:=yah BHX0
 clear hb BHX0
 obtain⟨r0,r1,r2,r3,r4,r5,r6,r7⟩:=c8_8 HX0_Vw4.out
 go_wp2_with fail
 clear hVw4 r0 r1 r2 r3 r4 r5 r6 r7
 refine(iDiffer _ v i1 i2 _ HSM.out HR_Vw4.out).mono ?_
 rintro e w5 ⟨rfl,hb⟩
 have z_w5:Vw4.heap.size≤w5.heap.size:=hb.size
 have HB_w5:=yah (trm HB_Vw4.out hb)
 have HP_w5:=yah (HP_Vw4.out.below hb)
 have HR_w5:=yah (HR_Vw4.out.under hb)
 have HX0_w5:=yah (HX0_Vw4.out.below hb)
 clear HB_Vw4 HP_Vw4 HR_Vw4 HX0_Vw4
 clear hb
 obtain⟨p0,p1,p2,p3,p4,p5,p6,p7⟩:=c8_8 HP_w5.out
 obtain⟨r0,r1,r2,r3,r4,r5,r6,r7⟩:=c8_8 HX0_w5.out
 go_wp2_with fail
 have hzz:w.heap.size<w5.heap.size:=by omega
 have hzy:w4.heap.size<w5.heap.size:=by omega
 go_region_held3 (fun W=>W.cell? ⟨w.heap.size,0,none⟩=some (.int .i64 v.m.n)∧W.cell? ⟨w.heap.size,1,none⟩=some (.int .i64 v.m.s)∧W.cell? ⟨w.heap.size,2,none⟩=some (vi)∧W.cell? ⟨w.heap.size,3,none⟩=some (vh)∧W.cell? ⟨w.heap.size,4,none⟩=some (vs)∧W.cell? ⟨w.heap.size,5,none⟩=some (.int .i64 v.m.z)∧W.cell? ⟨w.heap.size,6,none⟩=some (uk)∧W.cell? ⟨w.heap.size,7,none⟩=some (uc)∧W.cell? ⟨w4.heap.size,0,none⟩=some (.int .i64 v.m.n)∧W.cell? ⟨w4.heap.size,1,none⟩=some (.int .i64 v.m.s)∧W.cell? ⟨w4.heap.size,2,none⟩=some (.slice ai v.m.i.length ci)∧W.cell? ⟨w4.heap.size,3,none⟩=some (.slice ah v.m.h.length ch)∧W.cell? ⟨w4.heap.size,4,none⟩=some (.slice ae v.m.e.length ce)∧W.cell? ⟨w4.heap.size,5,none⟩=some (.int .i64 v.m.z)∧W.cell? ⟨w4.heap.size,6,none⟩=some (.slice ak v.k.length ck)∧W.cell? ⟨w4.heap.size,7,none⟩=some (.slice ac v.c.length cc)) ((repeat' apply And.intro)<;>first|(go_keep;done)|(rw [hcA _ _ (by first|omega|(simp;omega))];simp [*];done))
  (first|(go_at_call 11;refine(yfz _ v _ HSM.out (HX.out.under HB_w5.out.drew)).mono ?_;rintro e w7 ⟨y2,rfl,hbw7,hr2⟩;obtain⟨hcA,hfA⟩:=yf1 hbw7;have hzw7:w5.heap.size≤w7.heap.size:=hbw7.size)|(go_at_call 14;refine(ylu _ _ v _ HSM.out (HR_w5.out.under ((Below.refl _ w5).drew.trans hbw7)) hr2).mono ?_;rintro e w8 ⟨rfl,hbw8⟩;obtain⟨hcA,hfA⟩:=yf1 hbw8;have hzw8:w7.heap.size≤w8.heap.size:=hbw8.size))
 clear hcA hfA
 have hbc:Below w5.heap.size w5 w8:=((Below.refl w5.heap.size w5).drew.trans (hbw7.mono (Nat.le_refl _))).trans (hbw8.mono (by omega))
 clear p0 p1 p2 p3 p4 p5 p6 p7 r0 r1 r2 r3 r4 r5 r6 r7
 have HB_w8:=yah (trm HB_w5.out hbc)
 clear hbc hr2 hbw7 hzw7 hbw8 hzw8 hzz hzy
 go_wp2
 go_ret
 exact⟨rfl,HB_w8.out⟩
end Go.Proofs.YtmobiieoecjmdaaGreat.LawExactDiffer

/- How a list of events that came in is read. -/
namespace Go.Proofs.YtmobiieoecjmdaaGreat
open Go.ChangeShapes Go.WideShapes Go.ChangeAt Go.RowKit
theorem yod {w:World} {b off:Nat}:∀n,(∀i,i<n→ ∃e:Ev,Ev.In w b (off+i*7) e)→ ∃l:List Ev,l.length=n∧ ∀i,i<n→Ev.In w b (off+i*7) (evAt l i)
 |0,_=>⟨[],rfl,fun i hi=>by omega⟩
 |n+1,h=>by
  obtain⟨l,hl,hi⟩:=yod n (fun i hi=>h i (by omega))
  obtain⟨e,he⟩:=h n (by omega)
  refine⟨l++ [e],by simp [hl],fun i hi'=> ?_⟩
  by_cases hin:i<n
  ·have:evAt (l++ [e]) i=evAt l i:=by unfold evAt;simp [List.getElem?_append_left (by omega:i<l.length)]
   rw [this];exact hi i hin
  ·have:evAt (l++ [e]) i=e:=by unfold evAt;simp [show i=l.length by omega]
   rw [this,show i=n by omega];exact he
theorem add_plain (b off n:Nat):(⟨b,off,none⟩:Addr).add n=⟨b,off+n,none⟩:=by
 unfold Addr.add
 split<;>simp_all
theorem yld {w:World} {b off:Nat}:∀n,(∀i,i<n→ ∃z:Int,w.cell? ⟨b,off+i,none⟩=some (.int .i64 z))→ ∃l:List Int,l.length=n∧ ∀i,i<n→w.cell? ⟨b,off+i,none⟩=some (.int .i64 (intAt l i))
 |0,_=>⟨[],rfl,fun i hi=>by omega⟩
 |n+1,h=>by
  obtain⟨l,hl,hi⟩:=yld n (fun i hi=>h i (by omega))
  obtain⟨e,he⟩:=h n (by omega)
  refine⟨l++ [e],by simp [hl],fun i hi'=> ?_⟩
  by_cases hin:i<n
  ·have:intAt (l++ [e]) i=intAt l i:=by unfold intAt;simp [List.getElem?_append_left (by omega:i<l.length)]
   rw [this];exact hi i hin
  ·have:intAt (l++ [e]) i=e:=by unfold intAt;simp [show i=l.length by omega]
   rw [this,show i=n by omega];exact he
set_option maxRecDepth 100000
open Go.ChangeShapes Go.WideShapes Go.ChangeAt Go.RowKit
theorem ynb:Tryz.prog.cellsOf 223=4:=by kernel_rfl
theorem yok:Tryz.prog.cellsOf 178=1:=by kernel_rfl
theorem yt9:Tryz.prog.cellsOf 23=1:=by kernel_rfl
theorem yem:Tryz.prog.cellsOf 22=1:=by kernel_rfl
theorem yhv:Tryz.prog.cellsOf 24=1:=by kernel_rfl
theorem yta:Tryz.prog.cellsOf 26=6:=by kernel_rfl
theorem list4 {α:Type} {l:List α} (h:l.length=4):∃a b c d,l= [a,b,c,d]:=by
 match l,h with
 | [a,b,c,d],_=>exact⟨a,b,c,d,rfl⟩
theorem list6 {α:Type} {l:List α} (h:l.length=6):∃a b c d e f,l= [a,b,c,d,e,f]:=by
 match l,h with
 | [a,b,c,d,e,f],_=>exact⟨a,b,c,d,e,f,rfl⟩
theorem yqm {H:Type} {enc:TypeId×Value→H} {w:World} {base:Nat} {spare:Nat→Bool} {held:Bool} {fuel:Nat} {cs:List Value} {x:DataW H×List MemPlace}
  (h:DataW.trod enc Tryz.prog w base spare held fuel 223 cs=some x):∃c a b k:Int,cs= [.int .i64 c,.int .i64 a,.int .i64 b,.int .i64 k]∧wfI c∧wfI a∧wfI b∧wfI k:=by
 obtain⟨xs,n,_,rfl,hl,hlen,hf⟩:=DataW.trod_struct Tryz.underlying223 h
 rw [ynb]at hl
 obtain⟨c0,c1,c2,c3,rfl⟩:=list4 hl
 have hx:xs.length=4:=by simpa using hlen
 obtain⟨y0,y1,y2,y3,rfl⟩:=list4 hx
 have h0:=hf 0 _ rfl
 have h1:=hf 1 _ rfl
 have h2:=hf 2 _ rfl
 have h3:=hf 3 _ rfl
 obtain⟨a0,e0,_,w0⟩:=DataW.trod_int Tryz.underlying3 h0
 obtain⟨a1,e1,_,w1⟩:=DataW.trod_int Tryz.underlying3 h1
 obtain⟨a2,e2,_,w2⟩:=DataW.trod_int Tryz.underlying3 h2
 obtain⟨a3,e3,_,w3⟩:=DataW.trod_int Tryz.underlying3 h3
 simp [cells3]at e0 e1 e2 e3
 subst e0 e1 e2 e3
 exact⟨a0,a1,a2,a3,rfl,w0,w1,w2,w3⟩
theorem yeg {H:Type} {enc:TypeId×Value→H} {w:World} {spare:Nat→Bool} {held:Bool} {fuel:Nat} {cs:List Value} {x:DataW H×List MemPlace}
  (hf:DataW.trod enc Tryz.prog w 0 spare held fuel 22 cs=some x):∃v l,cs= [v]∧IsI w v l:=by
 rcases DataW.trod_slice Tryz.underlying22 hf with ⟨rfl,_⟩|⟨a,len,cap,elems,rest,n,_,rfl,_,hb,hl,hm,hlen,hel,_,_⟩
 ·exact⟨_,[],rfl,none,0,rfl,Nat.le_refl _,by unfold maxLen;omega,.inl rfl⟩
 ·by_cases h0:len=0
  ·subst h0
   exact⟨_,[],rfl,_,_,rfl,hl,hm,.inl rfl⟩
  ·obtain⟨b,off,spot⟩:=a
   have hs:spot=none:=by
    have h1:=hel 0 (by omega)
    rw [cells3,List.getElem?_eq_getElem (by omega)]at h1
    obtain⟨cs,hc,ht⟩:=Option.bind_eq_some_iff.1 h1
    obtain⟨t,rfl,_⟩:=DataW.trod_int Tryz.underlying3 ht
    have c0:=(World.cells?_some hc).2.2 0 (by omega)
    simpa [Addr.add] using World.cell?_spot c0
   subst hs
   have each:∀i,i<len→ ∃z:Int,w.cell? ⟨b,off+i,none⟩=some (.int .i64 z)∧b<w.heap.size:=by
    intro i hi
    have h1:=hel i hi
    rw [cells3,List.getElem?_eq_getElem (by omega),add_plain]at h1
    obtain⟨cs,hc,ht⟩:=Option.bind_eq_some_iff.1 h1
    obtain⟨t,rfl,_,hw⟩:=DataW.trod_int Tryz.underlying3 ht
    have hblk:b<w.heap.size:=World.cells?_block hc (by omega)
    obtain⟨_,_,hcell⟩:=World.cells?_some hc
    have h2:=hcell 0 (by omega)
    simp only [add_plain]at h2
    exact⟨t,by simpa using h2,hblk⟩
   obtain⟨_,_,hblk⟩:=each 0 (by omega)
   obtain⟨l,rfl,hi⟩:=yld (w:=w) (b:=b) (off:=off) len (fun i hi=>by
    obtain⟨e,he,_⟩:=each i hi
    exact⟨e,he⟩)
   exact⟨_,l,rfl,_,_,rfl,hl,hm,.inr ⟨b,off,rfl,hblk,hi⟩⟩
theorem yhu {H:Type} {enc:TypeId×Value→H} {w:World} {spare:Nat→Bool} {held:Bool} {fuel:Nat} {cs:List Value} {x:DataW H×List MemPlace}
  (hf:DataW.trod enc Tryz.prog w 0 spare held fuel 24 cs=some x):∃v l,cs= [v]∧IsEvs w v l:=by
 rcases DataW.trod_slice Tryz.underlying24 hf with ⟨rfl,_⟩|⟨a,len,cap,elems,rest,n,_,rfl,_,hb,hl,hm,hlen,hel,_,_⟩
 ·exact⟨_,[],rfl,none,0,rfl,Nat.le_refl _,by unfold maxLen;omega,.inl rfl⟩
 ·by_cases h0:len=0
  ·subst h0
   exact⟨_,[],rfl,_,_,rfl,hl,hm,.inl rfl⟩
  ·obtain⟨b,off,spot⟩:=a
   have hs:spot=none:=by
    have h1:=hel 0 (by omega)
    rw [yio,List.getElem?_eq_getElem (by omega)]at h1
    obtain⟨cs,hc,ht⟩:=Option.bind_eq_some_iff.1 h1
    obtain⟨t,s,q,d,k,v,g,rfl,_⟩:=yjm ht
    have c0:=(World.cells?_some hc).2.2 0 (by omega)
    simpa [Addr.add] using World.cell?_spot c0
   subst hs
   have each:∀i,i<len→ ∃e:Ev,Ev.In w b (off+i*7) e∧b<w.heap.size:=by
    intro i hi
    have h1:=hel i hi
    rw [yio,List.getElem?_eq_getElem (by omega),add_plain]at h1
    obtain⟨cs,hc,ht⟩:=Option.bind_eq_some_iff.1 h1
    obtain⟨t,s,q,d,k,v,g,rfl,_⟩:=yjm ht
    have hblk:b<w.heap.size:=World.cells?_block hc (by omega)
    obtain⟨_,_,hcell⟩:=World.cells?_some hc
    simp only [add_plain]at hcell
    exact⟨⟨t,s,q,d,k,v,g⟩,⟨hcell 0 (by omega),hcell 1 (by omega),hcell 2 (by omega),hcell 3 (by omega),hcell 4 (by omega),hcell 5 (by omega),hcell 6 (by omega)⟩,hblk⟩
   obtain⟨_,_,hblk⟩:=each 0 (by omega)
   obtain⟨l,rfl,hi⟩:=yod (w:=w) (b:=b) (off:=off) len (fun i hi=>by
    obtain⟨e,he,_⟩:=each i hi
    exact⟨e,he⟩)
   exact⟨_,l,rfl,_,_,rfl,hl,hm,.inr ⟨b,off,rfl,hblk,hi⟩⟩
theorem yrq {w:World} {b off:Nat}:∀n,(∀i,i<n→ ∃e:O,OAt w b (off+i*4) e)→ ∃l:List O,l.length=n∧ ∀i,i<n→OAt w b (off+i*4) (oAt l i)
 |0,_=>⟨[],rfl,fun i hi=>by omega⟩
 |n+1,h=>by
  obtain⟨l,hl,hi⟩:=yrq n (fun i hi=>h i (by omega))
  obtain⟨e,he⟩:=h n (by omega)
  refine⟨l++ [e],by simp [hl],fun i hi'=> ?_⟩
  by_cases hin:i<n
  ·have:oAt (l++ [e]) i=oAt l i:=by unfold oAt;simp [List.getElem?_append_left (by omega:i<l.length)]
   rw [this];exact hi i hin
  ·have:oAt (l++ [e]) i=e:=by unfold oAt;simp [show i=l.length by omega]
   rw [this,show i=n by omega];exact he
theorem ynj {H:Type} {enc:TypeId×Value→H} {w:World} {spare:Nat→Bool} {held:Bool} {fuel:Nat} {cs:List Value} {x:DataW H×List MemPlace}
  (hf:DataW.trod enc Tryz.prog w 0 spare held fuel 178 cs=some x):∃v l,cs= [v]∧IsO w v l:=by
 rcases DataW.trod_slice Tryz.underlying178 hf with ⟨rfl,_⟩|⟨a,len,cap,elems,rest,n,_,rfl,_,hb,hl,hm,hlen,hel,_,_⟩
 ·exact⟨_,[],rfl,none,0,rfl,Nat.le_refl _,by unfold maxLen;omega,.inl rfl⟩
 ·by_cases h0:len=0
  ·subst h0
   exact⟨_,[],rfl,_,_,rfl,hl,hm,.inl rfl⟩
  ·obtain⟨b,off,spot⟩:=a
   have hs:spot=none:=by
    have h1:=hel 0 (by omega)
    rw [ynb,List.getElem?_eq_getElem (by omega)]at h1
    obtain⟨cs,hc,ht⟩:=Option.bind_eq_some_iff.1 h1
    obtain⟨c,a,b,k,rfl,_⟩:=yqm ht
    have c0:=(World.cells?_some hc).2.2 0 (by omega)
    simpa [Addr.add] using World.cell?_spot c0
   subst hs
   have each:∀i,i<len→ ∃e:O,OAt w b (off+i*4) e∧b<w.heap.size:=by
    intro i hi
    have h1:=hel i hi
    rw [ynb,List.getElem?_eq_getElem (by omega),add_plain]at h1
    obtain⟨cs,hc,ht⟩:=Option.bind_eq_some_iff.1 h1
    obtain⟨c,a,b',k,rfl,_⟩:=yqm ht
    have hblk:b<w.heap.size:=World.cells?_block hc (by omega)
    obtain⟨_,_,hcell⟩:=World.cells?_some hc
    simp only [add_plain]at hcell
    exact⟨⟨c,a,b',k⟩,⟨hcell 0 (by omega),hcell 1 (by omega),hcell 2 (by omega),hcell 3 (by omega)⟩,hblk⟩
   obtain⟨_,_,hblk⟩:=each 0 (by omega)
   obtain⟨l,rfl,hi⟩:=yrq (w:=w) (b:=b) (off:=off) len (fun i hi=>by
    obtain⟨e,he,_⟩:=each i hi
    exact⟨e,he⟩)
   exact⟨_,l,rfl,_,_,rfl,hl,hm,.inr ⟨b,off,rfl,hblk,hi⟩⟩
theorem ysh {w:World} {b off:Nat}:∀n,(∀i,i<n→ ∃u l,w.cell? ⟨b,off+i,none⟩=some u∧IsO w u l)→ ∃l:List (List O),l.length=n∧ ∀i,i<n→ ∃u,w.cell? ⟨b,off+i,none⟩=some u∧IsO w u (hAt l i)
 |0,_=>⟨[],rfl,fun i hi=>by omega⟩
 |n+1,h=>by
  obtain⟨l,hl,hi⟩:=ysh n (fun i hi=>h i (by omega))
  obtain⟨u,r,hu,hr⟩:=h n (by omega)
  refine⟨l++ [r],by simp [hl],fun i hi'=> ?_⟩
  by_cases hin:i<n
  ·have:hAt (l++ [r]) i=hAt l i:=by unfold hAt;simp [List.getElem?_append_left (by omega:i<l.length)]
   rw [this];exact hi i hin
  ·have:hAt (l++ [r]) i=r:=by unfold hAt;simp [show i=l.length by omega]
   rw [this,show i=n by omega];exact⟨u,hu,hr⟩
theorem trod_hs {H:Type} {enc:TypeId×Value→H} {w:World} {spare:Nat→Bool} {held:Bool} {fuel:Nat} {cs:List Value} {x:DataW H×List MemPlace}
  (hf:DataW.trod enc Tryz.prog w 0 spare held fuel 23 cs=some x):∃v l,cs= [v]∧IsH w v l:=by
 rcases DataW.trod_slice Tryz.underlying23 hf with ⟨rfl,_⟩|⟨a,len,cap,elems,rest,n,_,rfl,_,hb,hl,hm,hlen,hel,_,_⟩
 ·exact⟨_,[],rfl,none,0,rfl,Nat.le_refl _,by unfold maxLen;omega,.inl rfl⟩
 ·by_cases h0:len=0
  ·subst h0
   exact⟨_,[],rfl,_,_,rfl,hl,hm,.inl rfl⟩
  ·obtain⟨b,off,spot⟩:=a
   have hs:spot=none:=by
    have h1:=hel 0 (by omega)
    rw [yok,List.getElem?_eq_getElem (by omega)]at h1
    obtain⟨cs,hc,ht⟩:=Option.bind_eq_some_iff.1 h1
    obtain⟨v,l,rfl,_⟩:=ynj ht
    have c0:=(World.cells?_some hc).2.2 0 (by omega)
    simpa [Addr.add] using World.cell?_spot c0
   subst hs
   have each:∀i,i<len→ ∃u l,(w.cell? ⟨b,off+i,none⟩=some u∧IsO w u l)∧b<w.heap.size:=by
    intro i hi
    have h1:=hel i hi
    rw [yok,List.getElem?_eq_getElem (by omega),add_plain]at h1
    obtain⟨cs,hc,ht⟩:=Option.bind_eq_some_iff.1 h1
    obtain⟨v,l,rfl,hv⟩:=ynj ht
    have hblk:b<w.heap.size:=World.cells?_block hc (by omega)
    obtain⟨_,_,hcell⟩:=World.cells?_some hc
    have h2:=hcell 0 (by omega)
    simp only [add_plain]at h2
    exact⟨v,l,⟨by simpa using h2,hv⟩,hblk⟩
   obtain⟨_,_,_,hblk⟩:=each 0 (by omega)
   obtain⟨l,rfl,hi⟩:=ysh (w:=w) (b:=b) (off:=off) len (fun i hi=>by
    obtain⟨u,l,he,_⟩:=each i hi
    exact⟨u,l,he⟩)
   exact⟨_,l,rfl,_,_,rfl,hl,hm,.inr ⟨b,off,rfl,hblk,hi⟩⟩
theorem yt8:Tryz.prog.cellsOf 141=3:=by kernel_rfl
theorem list3 {α:Type} {l:List α} (h:l.length=3):∃a b c,l= [a,b,c]:=by
 match l,h with
 | [a,b,c],_=>exact⟨a,b,c,rfl⟩
set_option maxRecDepth 100000
open Go.ChangeShapes Go.WideShapes Go.ChangeAt Go.RowKit
theorem ynd:Tryz.prog.cellsOf 160=3:=by kernel_rfl
theorem yol:Tryz.prog.cellsOf 48=1:=by kernel_rfl
theorem yn9:Tryz.prog.cellsOf 230=12:=by kernel_rfl
theorem cellsPss:Tryz.prog.cellsOf 142=1:=by kernel_rfl
theorem yna:Tryz.prog.cellsOf 144=7:=by kernel_rfl
theorem list12 {α:Type} {l:List α} (h:l.length=12):∃a0 a1 a2 a3 a4 a5 a6 a7 a8 a9 a10 a11,l= [a0,a1,a2,a3,a4,a5,a6,a7,a8,a9,a10,a11]:=by
 match l,h with
 | [a0,a1,a2,a3,a4,a5,a6,a7,a8,a9,a10,a11],_=>exact⟨a0,a1,a2,a3,a4,a5,a6,a7,a8,a9,a10,a11,rfl⟩
theorem list7p {α:Type} {l:List α} (h:l.length=7):∃a0 a1 a2 a3 a4 a5 a6,l= [a0,a1,a2,a3,a4,a5,a6]:=by
 match l,h with
 | [a0,a1,a2,a3,a4,a5,a6],_=>exact⟨a0,a1,a2,a3,a4,a5,a6,rfl⟩
theorem list5 {α:Type} {l:List α} (h:l.length=5):∃a0 a1 a2 a3 a4,l= [a0,a1,a2,a3,a4]:=by
 match l,h with
 | [a0,a1,a2,a3,a4],_=>exact⟨a0,a1,a2,a3,a4,rfl⟩
theorem list4p {α:Type} {l:List α} (h:l.length=4):∃a b c d,l= [a,b,c,d]:=by
 match l,h with
 | [a,b,c,d],_=>exact⟨a,b,c,d,rfl⟩
theorem ykr {H:Type} {enc:TypeId×Value→H} {w:World} {base:Nat} {spare:Nat→Bool} {held:Bool} {fuel:Nat} {cs:List Value} {x:DataW H×List MemPlace}
  (h:DataW.trod enc Tryz.prog w base spare held fuel 160 cs=some x):∃t l v:Int,cs= [.int .i64 t,.int .i64 l,.int .i64 v]:=by
 obtain⟨xs,n,_,rfl,hl,hlen,hf⟩:=DataW.trod_struct Tryz.underlying160 h
 rw [ynd]at hl
 obtain⟨c0,c1,c2,rfl⟩:=list3 hl
 have hx:xs.length=3:=by simpa using hlen
 obtain⟨y0,y1,y2,rfl⟩:=list3 hx
 have h0:=hf 0 _ rfl
 have h1:=hf 1 _ rfl
 have h2:=hf 2 _ rfl
 obtain⟨a0,e0,_,w0⟩:=DataW.trod_int Tryz.underlying3 h0
 obtain⟨a1,e1,_,w1⟩:=DataW.trod_int Tryz.underlying3 h1
 obtain⟨a2,e2,_,w2⟩:=DataW.trod_int Tryz.underlying3 h2
 simp [cells3]at e0 e1 e2
 subst e0 e1 e2
 exact⟨a0,a1,a2,rfl⟩
theorem yqf {w:World} {b off:Nat}:∀n,(∀i,i<n→ ∃e:Em,XAt w b (off+i*3) e)→ ∃l:List Em,l.length=n∧ ∀i,i<n→XAt w b (off+i*3) (xAt l i)
 |0,_=>⟨[],rfl,fun i hi=>by omega⟩
 |n+1,h=>by
  obtain⟨l,hl,hi⟩:=yqf n (fun i hi=>h i (by omega))
  obtain⟨e,he⟩:=h n (by omega)
  refine⟨l++ [e],by simp [hl],fun i hi'=> ?_⟩
  by_cases hin:i<n
  ·have:xAt (l++ [e]) i=xAt l i:=by unfold xAt;simp [List.getElem?_append_left (by omega:i<l.length)]
   rw [this];exact hi i hin
  ·have:xAt (l++ [e]) i=e:=by unfold xAt;simp [show i=l.length by omega]
   rw [this,show i=n by omega];exact he
theorem ynk {H:Type} {enc:TypeId×Value→H} {w:World} {spare:Nat→Bool} {held:Bool} {fuel:Nat} {cs:List Value} {x:DataW H×List MemPlace}
  (hf:DataW.trod enc Tryz.prog w 0 spare held fuel 48 cs=some x):∃v l,cs= [v]∧IsX w v l:=by
 rcases DataW.trod_slice Tryz.underlying48 hf with ⟨rfl,_⟩|⟨a,len,cap,elems,rest,n,_,rfl,_,hb,hl,hm,hlen,hel,_,_⟩
 ·exact⟨_,[],rfl,none,0,rfl,Nat.le_refl _,by unfold maxLen;omega,.inl rfl⟩
 ·by_cases h0:len=0
  ·subst h0
   exact⟨_,[],rfl,_,_,rfl,hl,hm,.inl rfl⟩
  ·obtain⟨b,off,spot⟩:=a
   have hs:spot=none:=by
    have h1:=hel 0 (by omega)
    rw [ynd,List.getElem?_eq_getElem (by omega)]at h1
    obtain⟨cs,hc,ht⟩:=Option.bind_eq_some_iff.1 h1
    obtain⟨t,l,v,rfl⟩:=ykr ht
    have c0:=(World.cells?_some hc).2.2 0 (by omega)
    simpa [Addr.add] using World.cell?_spot c0
   subst hs
   have each:∀i,i<len→ ∃e:Em,XAt w b (off+i*3) e∧b<w.heap.size:=by
    intro i hi
    have h1:=hel i hi
    rw [ynd,List.getElem?_eq_getElem (by omega),add_plain]at h1
    obtain⟨cs,hc,ht⟩:=Option.bind_eq_some_iff.1 h1
    obtain⟨t,l,v,rfl⟩:=ykr ht
    have hblk:b<w.heap.size:=World.cells?_block hc (by omega)
    obtain⟨_,_,hcell⟩:=World.cells?_some hc
    simp only [add_plain]at hcell
    exact⟨⟨t,l,v⟩,⟨hcell 0 (by omega),hcell 1 (by omega),hcell 2 (by omega)⟩,hblk⟩
   obtain⟨_,_,hblk⟩:=each 0 (by omega)
   obtain⟨l,rfl,hi⟩:=yqf (w:=w) (b:=b) (off:=off) len (fun i hi=>by
    obtain⟨e,he,_⟩:=each i hi
    exact⟨e,he⟩)
   exact⟨_,l,rfl,_,_,rfl,hl,hm,.inr ⟨b,off,rfl,hblk,hi⟩⟩
theorem yj2 {H:Type} {enc:TypeId×Value→H} {w:World} {spare:Nat→Bool} {held:Bool} {fuel:Nat} {cs:List Value} {x:DataW H×List MemPlace}
  (h:DataW.trod enc Tryz.prog w 0 spare held fuel 141 cs=some x):∃(s:St) (v:Value),cs= [v,.int .i64 s.q,.int .i64 s.d]∧IsI w v s.r:=by
 obtain⟨xs,n,_,_,hl,hlen,hf⟩:=DataW.trod_struct Tryz.underlying141 h
 rw [yt8]at hl
 obtain⟨c0,c1,c2,rfl⟩:=list3 hl
 have hx:xs.length=3:=by simpa using hlen
 obtain⟨y0,y1,y2,rfl⟩:=list3 hx
 have h0:=hf 0 _ rfl
 have h1:=hf 1 _ rfl
 have h2:=hf 2 _ rfl
 obtain⟨v0,l0,e0,g0⟩:=yeg h0
 obtain⟨a1,e1,_,_⟩:=DataW.trod_int Tryz.underlying3 h1
 obtain⟨a2,e2,_,_⟩:=DataW.trod_int Tryz.underlying3 h2
 simp [cells3,yem]at e0 e1 e2
 subst e0 e1 e2
 exact⟨⟨l0,a1,a2⟩,c0,rfl,g0⟩
theorem ykn {H:Type} {enc:TypeId×Value→H} {w:World} {spare:Nat→Bool} {held:Bool} {fuel:Nat} {cs:List Value} {x:DataW H×List MemPlace}
  (h:DataW.trod enc Tryz.prog w 0 spare held fuel 230 cs=some x):∃(p:Ps) (u7 u10 u11:Value),cs= [.int .i64 p.e.t,.int .i64 p.e.s,.int .i64 p.e.q,.int .i64 p.e.d,.int .i64 p.e.k,.int .i64 p.e.v,.int .i64 p.e.g,u7,.int .i64 p.b.q,.int .i64 p.b.d,u10,u11]∧IsD w u7 (yax p.b.r)∧IsD w u10 (evsD p.s)∧IsD w u11 (emsD p.x):=by
 obtain⟨xs,n,_,_,hl,hlen,hf⟩:=DataW.trod_struct Tryz.underlying230 h
 rw [yn9]at hl
 obtain⟨c0,c1,c2,c3,c4,c5,c6,c7,c8,c9,c10,c11,rfl⟩:=list12 hl
 have hx:xs.length=4:=by simpa using hlen
 obtain⟨y0,y1,y2,y3,rfl⟩:=list4p hx
 have h0:=hf 0 _ rfl
 have h1:=hf 1 _ rfl
 have h2:=hf 2 _ rfl
 have h3:=hf 3 _ rfl
 obtain⟨t,s,q,d,k,v,g,e0,_⟩:=yjm h0
 obtain⟨st,v1,e1,g1⟩:=yj2 h1
 obtain⟨v2,l2,e2,g2⟩:=yhu h2
 obtain⟨v3,l3,e3,g3⟩:=ynk h3
 simp [yio,yt8,yhv,yol]at e0 e1 e2 e3
 obtain⟨rfl,rfl,rfl,rfl,rfl,rfl,rfl⟩:=e0
 obtain⟨rfl,rfl,rfl⟩:=e1
 subst e2 e3
 exact⟨⟨⟨t,s,q,d,k,v,g⟩,st,l2,l3⟩,c7,c10,c11,rfl,g1.isD,g2.isD,g3.isD⟩
theorem yrh {w:World} {b off:Nat}:∀n,(∀i,i<n→ ∃p:Ps,∀r,r<12→ ∃u,w.cell? ⟨b,off+i*12+r,none⟩=some u∧IsD w u (p.cell r))→
  ∃l:List Ps,l.length=n∧ ∀i,i<n→ ∀r,r<12→ ∃u,w.cell? ⟨b,off+i*12+r,none⟩=some u∧IsD w u ((psAt l i).cell r)
 |0,_=>⟨[],rfl,fun i hi=>by omega⟩
 |n+1,h=>by
  obtain⟨l,hl,hi⟩:=yrh n (fun i hi=>h i (by omega))
  obtain⟨e,he⟩:=h n (by omega)
  refine⟨l++ [e],by simp [hl],fun i hi'=> ?_⟩
  by_cases hin:i<n
  ·have:psAt (l++ [e]) i=psAt l i:=by unfold psAt;simp [List.getElem?_append_left (by omega:i<l.length)]
   rw [this];exact hi i hin
  ·have:psAt (l++ [e]) i=e:=by unfold psAt;simp [show i=l.length by omega]
   rw [this,show i=n by omega];exact he
theorem yow {H:Type} {enc:TypeId×Value→H} {w:World} {spare:Nat→Bool} {held:Bool} {fuel:Nat} {cs:List Value} {x:DataW H×List MemPlace}
  (hf:DataW.trod enc Tryz.prog w 0 spare held fuel 142 cs=some x):∃v l,cs= [v]∧IsD w v (ybe l):=by
 rcases DataW.trod_slice Tryz.underlying142 hf with ⟨rfl,_⟩|⟨a,len,cap,elems,rest,n,_,rfl,_,hb,hl,hm,hlen,hel,_,_⟩
 ·exact⟨_,[],rfl,.nil none 0 12 _ (by unfold maxLen;omega)⟩
 ·by_cases h0:len=0
  ·subst h0
   exact⟨_,[],rfl,.nil _ _ 12 _ hm⟩
  ·obtain⟨b,off,spot⟩:=a
   have hs:spot=none:=by
    have h1:=hel 0 (by omega)
    rw [yn9,List.getElem?_eq_getElem (by omega)]at h1
    obtain⟨cs,hc,ht⟩:=Option.bind_eq_some_iff.1 h1
    obtain⟨p,u7,u10,u11,rfl,_⟩:=ykn ht
    have c0:=(World.cells?_some hc).2.2 0 (by omega)
    simpa [Addr.add] using World.cell?_spot c0
   subst hs
   have each:∀i,i<len→ ∃p:Ps,(∀r,r<12→ ∃u,w.cell? ⟨b,off+i*12+r,none⟩=some u∧IsD w u (p.cell r))∧b<w.heap.size:=by
    intro i hi
    have h1:=hel i hi
    rw [yn9,List.getElem?_eq_getElem (by omega),add_plain]at h1
    obtain⟨cs,hc,ht⟩:=Option.bind_eq_some_iff.1 h1
    obtain⟨p,u7,u10,u11,rfl,g7,g10,g11⟩:=ykn ht
    have hblk:b<w.heap.size:=World.cells?_block hc (by omega)
    obtain⟨_,_,hcell⟩:=World.cells?_some hc
    simp only [add_plain]at hcell
    refine⟨p,fun r hr=> ?_,hblk⟩
    have hcr:=hcell r hr
    match r,hr,hcr with
    |0,_,hcr=>exact⟨_,hcr,.val _⟩
    |1,_,hcr=>exact⟨_,hcr,.val _⟩
    |2,_,hcr=>exact⟨_,hcr,.val _⟩
    |3,_,hcr=>exact⟨_,hcr,.val _⟩
    |4,_,hcr=>exact⟨_,hcr,.val _⟩
    |5,_,hcr=>exact⟨_,hcr,.val _⟩
    |6,_,hcr=>exact⟨_,hcr,.val _⟩
    |7,_,hcr=>exact⟨_,hcr,g7⟩
    |8,_,hcr=>exact⟨_,hcr,.val _⟩
    |9,_,hcr=>exact⟨_,hcr,.val _⟩
    |10,_,hcr=>exact⟨_,hcr,g10⟩
    |11,_,hcr=>exact⟨_,hcr,g11⟩
   obtain⟨_,_,hblk⟩:=each 0 (by omega)
   obtain⟨l,rfl,hi⟩:=yrh (w:=w) (b:=b) (off:=off) len (fun i hi=>by
    obtain⟨e,he,_⟩:=each i hi
    exact⟨e,he⟩)
   refine⟨_,l,rfl,IsD.of_parts hl hm (.inr ⟨b,off,rfl,hblk,fun j hj=> ?_⟩)⟩
   obtain⟨u,hu,hd⟩:=hi (j/12) (by omega) (j%12) (by omega)
   refine⟨u,?_,hd⟩
   rw [←hu]
   congr 2
   omega
set_option maxRecDepth 100000
open Go.ChangeShapes Go.WideShapes Go.ChangeAt Go.RowKit
theorem ym0:Tryz.prog.cellsOf 4=1:=by kernel_rfl
theorem ykf:Tryz.prog.cellsOf 157=8:=by kernel_rfl
theorem cellsMls:Tryz.prog.cellsOf 47=1:=by kernel_rfl
theorem cellsPas:Tryz.prog.cellsOf 46=1:=by kernel_rfl
theorem ync:Tryz.prog.cellsOf 50=14:=by kernel_rfl
theorem list8k {α:Type} {l:List α} (h:l.length=8):∃a0 a1 a2 a3 a4 a5 a6 a7,l= [a0,a1,a2,a3,a4,a5,a6,a7]:=by
 match l,h with
 | [a0,a1,a2,a3,a4,a5,a6,a7],_=>exact⟨a0,a1,a2,a3,a4,a5,a6,a7,rfl⟩
theorem list2k {α:Type} {l:List α} (h:l.length=2):∃a0 a1,l= [a0,a1]:=by
 match l,h with
 | [a0,a1],_=>exact⟨a0,a1,rfl⟩
theorem list14k {α:Type} {l:List α} (h:l.length=14):∃a0 a1 a2 a3 a4 a5 a6 a7 a8 a9 a10 a11 a12 a13,l= [a0,a1,a2,a3,a4,a5,a6,a7,a8,a9,a10,a11,a12,a13]:=by
 match l,h with
 | [a0,a1,a2,a3,a4,a5,a6,a7,a8,a9,a10,a11,a12,a13],_=>exact⟨a0,a1,a2,a3,a4,a5,a6,a7,a8,a9,a10,a11,a12,a13,rfl⟩
theorem list9k {α:Type} {l:List α} (h:l.length=9):∃a0 a1 a2 a3 a4 a5 a6 a7 a8,l= [a0,a1,a2,a3,a4,a5,a6,a7,a8]:=by
 match l,h with
 | [a0,a1,a2,a3,a4,a5,a6,a7,a8],_=>exact⟨a0,a1,a2,a3,a4,a5,a6,a7,a8,rfl⟩
theorem ykp {H:Type} {enc:TypeId×Value→H} {w:World} {spare:Nat→Bool} {held:Bool} {fuel:Nat} {cs:List Value} {x:DataW H×List MemPlace}
  (h:DataW.trod enc Tryz.prog w 0 spare held fuel 157 cs=some x):∃m:Ml,cs=m.cs:=by
 obtain⟨xs,n,_,_,hl,hlen,hf⟩:=DataW.trod_struct Tryz.underlying157 h
 rw [ykf]at hl
 obtain⟨c0,c1,c2,c3,c4,c5,c6,c7,rfl⟩:=list8k hl
 have hx:xs.length=2:=by simpa using hlen
 obtain⟨y0,y1,rfl⟩:=list2k hx
 have h0:=hf 0 _ rfl
 have h1:=hf 1 _ rfl
 obtain⟨t,s,q,d,k,v,g,e0,_⟩:=yjm h0
 obtain⟨a1,e1,_⟩:=DataW.trod_bool Tryz.underlying4 h1
 simp [yio,ym0]at e0 e1
 obtain⟨rfl,rfl,rfl,rfl,rfl,rfl,rfl⟩:=e0
 subst e1
 exact⟨⟨⟨t,s,q,d,k,v,g⟩,a1⟩,rfl⟩
theorem yrx {w:World} {b off:Nat}:∀n,(∀i,i<n→ ∃e:Ml,MlAt w b (off+i*8) e)→ ∃l:List Ml,l.length=n∧ ∀i,i<n→MlAt w b (off+i*8) (mlAt l i)
 |0,_=>⟨[],rfl,fun i hi=>by omega⟩
 |n+1,h=>by
  obtain⟨l,hl,hi⟩:=yrx n (fun i hi=>h i (by omega))
  obtain⟨e,he⟩:=h n (by omega)
  refine⟨l++ [e],by simp [hl],fun i hi'=> ?_⟩
  by_cases hin:i<n
  ·have:mlAt (l++ [e]) i=mlAt l i:=by unfold mlAt;simp [List.getElem?_append_left (by omega:i<l.length)]
   rw [this];exact hi i hin
  ·have:mlAt (l++ [e]) i=e:=by unfold mlAt;simp [show i=l.length by omega]
   rw [this,show i=n by omega];exact he
theorem yoy {H:Type} {enc:TypeId×Value→H} {w:World} {spare:Nat→Bool} {held:Bool} {fuel:Nat} {cs:List Value} {x:DataW H×List MemPlace}
  (hf:DataW.trod enc Tryz.prog w 0 spare held fuel 47 cs=some x):∃v l,cs= [v]∧IsMl w v l:=by
 rcases DataW.trod_slice Tryz.underlying47 hf with ⟨rfl,_⟩|⟨a,len,cap,elems,rest,n,_,rfl,_,hb,hl,hm,hlen,hel,_,_⟩
 ·exact⟨_,[],rfl,none,0,rfl,Nat.le_refl _,by unfold maxLen;omega,.inl rfl⟩
 ·by_cases h0:len=0
  ·subst h0
   exact⟨_,[],rfl,_,_,rfl,hl,hm,.inl rfl⟩
  ·obtain⟨b,off,spot⟩:=a
   have hs:spot=none:=by
    have h1:=hel 0 (by omega)
    rw [ykf,List.getElem?_eq_getElem (by omega)]at h1
    obtain⟨cs,hc,ht⟩:=Option.bind_eq_some_iff.1 h1
    obtain⟨m,rfl⟩:=ykp ht
    have c0:=(World.cells?_some hc).2.2 0 (by omega)
    simpa [Addr.add] using World.cell?_spot c0
   subst hs
   have each:∀i,i<len→ ∃e:Ml,MlAt w b (off+i*8) e∧b<w.heap.size:=by
    intro i hi
    have h1:=hel i hi
    rw [ykf,List.getElem?_eq_getElem (by omega),add_plain]at h1
    obtain⟨cs,hc,ht⟩:=Option.bind_eq_some_iff.1 h1
    obtain⟨m,rfl⟩:=ykp ht
    have hblk:b<w.heap.size:=World.cells?_block hc (by omega)
    obtain⟨_,_,hcell⟩:=World.cells?_some hc
    simp only [add_plain]at hcell
    exact⟨m,⟨hcell 0 (by omega),hcell 1 (by omega),hcell 2 (by omega),hcell 3 (by omega),hcell 4 (by omega),hcell 5 (by omega),hcell 6 (by omega),hcell 7 (by omega)⟩,hblk⟩
   obtain⟨_,_,hblk⟩:=each 0 (by omega)
   obtain⟨l,rfl,hi⟩:=yrx (w:=w) (b:=b) (off:=off) len (fun i hi=>by
    obtain⟨e,he,_⟩:=each i hi
    exact⟨e,he⟩)
   exact⟨_,l,rfl,_,_,rfl,hl,hm,.inr ⟨b,off,rfl,hblk,hi⟩⟩
theorem yko {H:Type} {enc:TypeId×Value→H} {w:World} {spare:Nat→Bool} {held:Bool} {fuel:Nat} {cs:List Value} {x:DataW H×List MemPlace}
  (h:DataW.trod enc Tryz.prog w 0 spare held fuel 144 cs=some x):∃(p:Pa) (u1 u4 u5 u6:Value),cs= [.int .i64 p.n,u1,.int .i64 p.st.q,.int .i64 p.st.d,u4,u5,u6]∧IsD w u1 (yax p.st.r)∧IsD w u4 (ybe p.p)∧IsD w u5 (evsD p.t)∧IsD w u6 (yax p.a):=by
 obtain⟨xs,n,_,_,hl,hlen,hf⟩:=DataW.trod_struct Tryz.underlying144 h
 rw [yna]at hl
 obtain⟨c0,c1,c2,c3,c4,c5,c6,rfl⟩:=list7p hl
 have hx:xs.length=5:=by simpa using hlen
 obtain⟨y0,y1,y2,y3,y4,rfl⟩:=list5 hx
 have h0:=hf 0 _ rfl
 have h1:=hf 1 _ rfl
 have h2:=hf 2 _ rfl
 have h3:=hf 3 _ rfl
 have h4:=hf 4 _ rfl
 obtain⟨a0,e0,_,_⟩:=DataW.trod_int Tryz.underlying3 h0
 obtain⟨st,v1,e1,g1⟩:=yj2 h1
 obtain⟨v2,l2,e2,g2⟩:=yow h2
 obtain⟨v3,l3,e3,g3⟩:=yhu h3
 obtain⟨v4,l4,e4,g4⟩:=yeg h4
 simp [cells3,yt8,cellsPss,yhv,yem]at e0 e1 e2 e3 e4
 obtain⟨rfl,rfl,rfl⟩:=e1
 subst e0 e2 e3 e4
 exact⟨⟨a0,st,l2,l3,l4⟩,c1,c4,c5,c6,rfl,g1.isD,g2,g3.isD,g4.isD⟩
theorem yro {w:World} {b off:Nat}:∀n,(∀i,i<n→ ∃p:Pa,∀r,r<7→ ∃u,w.cell? ⟨b,off+i*7+r,none⟩=some u∧IsD w u (p.cell r))→
  ∃l:List Pa,l.length=n∧ ∀i,i<n→ ∀r,r<7→ ∃u,w.cell? ⟨b,off+i*7+r,none⟩=some u∧IsD w u ((paAt l i).cell r)
 |0,_=>⟨[],rfl,fun i hi=>by omega⟩
 |n+1,h=>by
  obtain⟨l,hl,hi⟩:=yro n (fun i hi=>h i (by omega))
  obtain⟨e,he⟩:=h n (by omega)
  refine⟨l++ [e],by simp [hl],fun i hi'=> ?_⟩
  by_cases hin:i<n
  ·have:paAt (l++ [e]) i=paAt l i:=by unfold paAt;simp [List.getElem?_append_left (by omega:i<l.length)]
   rw [this];exact hi i hin
  ·have:paAt (l++ [e]) i=e:=by unfold paAt;simp [show i=l.length by omega]
   rw [this,show i=n by omega];exact he
theorem yox {H:Type} {enc:TypeId×Value→H} {w:World} {spare:Nat→Bool} {held:Bool} {fuel:Nat} {cs:List Value} {x:DataW H×List MemPlace}
  (hf:DataW.trod enc Tryz.prog w 0 spare held fuel 46 cs=some x):∃v l,cs= [v]∧IsD w v (ycz l):=by
 rcases DataW.trod_slice Tryz.underlying46 hf with ⟨rfl,_⟩|⟨a,len,cap,elems,rest,n,_,rfl,_,hb,hl,hm,hlen,hel,_,_⟩
 ·exact⟨_,[],rfl,.nil none 0 7 _ (by unfold maxLen;omega)⟩
 ·by_cases h0:len=0
  ·subst h0
   exact⟨_,[],rfl,.nil _ _ 7 _ hm⟩
  ·obtain⟨b,off,spot⟩:=a
   have hs:spot=none:=by
    have h1:=hel 0 (by omega)
    rw [yna,List.getElem?_eq_getElem (by omega)]at h1
    obtain⟨cs,hc,ht⟩:=Option.bind_eq_some_iff.1 h1
    obtain⟨p,u1,u4,u5,u6,rfl,_⟩:=yko ht
    have c0:=(World.cells?_some hc).2.2 0 (by omega)
    simpa [Addr.add] using World.cell?_spot c0
   subst hs
   have each:∀i,i<len→ ∃p:Pa,(∀r,r<7→ ∃u,w.cell? ⟨b,off+i*7+r,none⟩=some u∧IsD w u (p.cell r))∧b<w.heap.size:=by
    intro i hi
    have h1:=hel i hi
    rw [yna,List.getElem?_eq_getElem (by omega),add_plain]at h1
    obtain⟨cs,hc,ht⟩:=Option.bind_eq_some_iff.1 h1
    obtain⟨p,u1,u4,u5,u6,rfl,g1,g4,g5,g6⟩:=yko ht
    have hblk:b<w.heap.size:=World.cells?_block hc (by omega)
    obtain⟨_,_,hcell⟩:=World.cells?_some hc
    simp only [add_plain]at hcell
    refine⟨p,fun r hr=> ?_,hblk⟩
    have hcr:=hcell r hr
    match r,hr,hcr with
    |0,_,hcr=>exact⟨_,hcr,.val _⟩
    |1,_,hcr=>exact⟨_,hcr,g1⟩
    |2,_,hcr=>exact⟨_,hcr,.val _⟩
    |3,_,hcr=>exact⟨_,hcr,.val _⟩
    |4,_,hcr=>exact⟨_,hcr,g4⟩
    |5,_,hcr=>exact⟨_,hcr,g5⟩
    |6,_,hcr=>exact⟨_,hcr,g6⟩
   obtain⟨_,_,hblk⟩:=each 0 (by omega)
   obtain⟨l,rfl,hi⟩:=yro (w:=w) (b:=b) (off:=off) len (fun i hi=>by
    obtain⟨e,he,_⟩:=each i hi
    exact⟨e,he⟩)
   refine⟨_,l,rfl,IsD.of_parts hl hm (.inr ⟨b,off,rfl,hblk,fun j hj=> ?_⟩)⟩
   obtain⟨u,hu,hd⟩:=hi (j/7) (by omega) (j%7) (by omega)
   refine⟨u,?_,hd⟩
   rw [←hu]
   congr 2
   omega
theorem yj3 {H:Type} {enc:TypeId×Value→H} {w:World} {spare:Nat→Bool} {held:Bool} {fuel:Nat} {cs:List Value} {x:DataW H×List MemPlace}
  (h:DataW.trod enc Tryz.prog w 0 spare held fuel 26 cs=some x):∃(m:Md) (vi vh vs:Value),cs= [.int .i64 m.n,.int .i64 m.s,vi,vh,vs,.int .i64 m.z]∧IsI w vi m.i∧IsH w vh m.h∧IsEvs w vs m.e:=by
 obtain⟨xs,n,_,_,hl,hlen,hf⟩:=DataW.trod_struct Tryz.underlying26 h
 rw [yta]at hl
 obtain⟨c0,c1,c2,c3,c4,c5,rfl⟩:=list6 hl
 have hx:xs.length=6:=by simpa using hlen
 obtain⟨y0,y1,y2,y3,y4,y5,rfl⟩:=list6 hx
 have h0:=hf 0 _ rfl
 have h1:=hf 1 _ rfl
 have h2:=hf 2 _ rfl
 have h3:=hf 3 _ rfl
 have h4:=hf 4 _ rfl
 have h5:=hf 5 _ rfl
 obtain⟨a0,e0,_,_⟩:=DataW.trod_int Tryz.underlying3 h0
 obtain⟨a1,e1,_,_⟩:=DataW.trod_int Tryz.underlying3 h1
 obtain⟨v2,l2,e2,g2⟩:=yeg h2
 obtain⟨v3,l3,e3,g3⟩:=trod_hs h3
 obtain⟨v4,l4,e4,g4⟩:=yhu h4
 obtain⟨a5,e5,_,_⟩:=DataW.trod_int Tryz.underlying3 h5
 simp [cells3,yem,yt9,yhv]at e0 e1 e2 e3 e4 e5
 subst e0 e1 e2 e3 e4 e5
 exact⟨⟨a0,a1,l2,l3,l4,a5⟩,c2,c3,c4,rfl,g2,g3,g4⟩
set_option maxRecDepth 100000
open Go.ChangeShapes Go.WideShapes Go.ChangeAt Go.RowKit
theorem cellsKns:Tryz.prog.cellsOf 27=1:=by kernel_rfl
theorem cellsVcs:Tryz.prog.cellsOf 28=1:=by kernel_rfl
theorem cellsWd:Tryz.prog.cellsOf 30=8:=by kernel_rfl
theorem list3k {α:Type} {l:List α} (h:l.length=3):∃a0 a1 a2,l= [a0,a1,a2]:=by
 match l,h with
 | [a0,a1,a2],_=>exact⟨a0,a1,a2,rfl⟩
theorem yhy {H:Type} {enc:TypeId×Value→H} {w:World} {spare:Nat→Bool} {held:Bool} {fuel:Nat} {cs:List Value} {x:DataW H×List MemPlace}
  (h:DataW.trod enc Tryz.prog w 0 spare held fuel 50 cs=some x):∃(k:Kn) (vi vh vs u6 u7 u8 u12 u13:Value),cs= [.int .i64 k.m.n,.int .i64 k.m.s,vi,vh,vs,.int .i64 k.m.z,u6,u7,u8,.int .i64 k.t,.int .i64 k.q,.bool k.f,u12,u13]∧IsKern w (.agg #[.int .i64 k.m.n,.int .i64 k.m.s,vi,vh,vs,.int .i64 k.m.z,u6,u7,u8,.int .i64 k.t,.int .i64 k.q,.bool k.f,u12,u13]) k:=by
 obtain⟨xs,n,_,_,hl,hlen,hf⟩:=DataW.trod_struct Tryz.underlying50 h
 rw [ync]at hl
 obtain⟨c0,c1,c2,c3,c4,c5,c6,c7,c8,c9,c10,c11,c12,c13,rfl⟩:=list14k hl
 have hx:xs.length=9:=by simpa using hlen
 obtain⟨y0,y1,y2,y3,y4,y5,y6,y7,y8,rfl⟩:=list9k hx
 have h0:=hf 0 _ rfl
 have h1:=hf 1 _ rfl
 have h2:=hf 2 _ rfl
 have h3:=hf 3 _ rfl
 have h4:=hf 4 _ rfl
 have h5:=hf 5 _ rfl
 have h6:=hf 6 _ rfl
 have h7:=hf 7 _ rfl
 have h8:=hf 8 _ rfl
 obtain⟨m,vi,vh,vs,e0,gi,gh,ge⟩:=yj3 h0
 obtain⟨v1,l1,e1,g1⟩:=yeg h1
 obtain⟨v2,l2,e2,g2⟩:=yox h2
 obtain⟨v3,l3,e3,g3⟩:=yoy h3
 obtain⟨a4,e4,_,_⟩:=DataW.trod_int Tryz.underlying3 h4
 obtain⟨a5,e5,_,_⟩:=DataW.trod_int Tryz.underlying3 h5
 obtain⟨a6,e6,_⟩:=DataW.trod_bool Tryz.underlying4 h6
 obtain⟨v7,l7,e7,g7⟩:=yhu h7
 obtain⟨v8,l8,e8,g8⟩:=ynk h8
 simp [cells3,yta,yem,cellsPas,cellsMls,ym0,yhv,yol]at e0 e1 e2 e3 e4 e5 e6 e7 e8
 obtain⟨rfl,rfl,rfl,rfl,rfl,rfl⟩:=e0
 subst e1 e2 e3 e4 e5 e6 e7 e8
 exact⟨⟨m,l1,l2,l3,a4,a5,a6,l7,l8⟩,c2,c3,c4,c6,c7,c8,c12,c13,rfl,c2,c3,c4,c6,c7,c8,c12,c13,rfl,⟨_,_,_,rfl,gi,gh,ge⟩,g1.isD,g2,g3.isD,g7.isD,g8.isD⟩
theorem ys4 {w:World} {b off:Nat}:∀n,(∀i,i<n→ ∃k:Kn,KAt w b (off+i*14) k)→ ∃l:List Kn,l.length=n∧ ∀i,i<n→KAt w b (off+i*14) (knAt l i)
 |0,_=>⟨[],rfl,fun i hi=>by omega⟩
 |n+1,h=>by
  obtain⟨l,hl,hi⟩:=ys4 n (fun i hi=>h i (by omega))
  obtain⟨e,he⟩:=h n (by omega)
  refine⟨l++ [e],by simp [hl],fun i hi'=> ?_⟩
  by_cases hin:i<n
  ·have:knAt (l++ [e]) i=knAt l i:=by unfold knAt;simp [List.getElem?_append_left (by omega:i<l.length)]
   rw [this];exact hi i hin
  ·have:knAt (l++ [e]) i=e:=by unfold knAt;simp [show i=l.length by omega]
   rw [this,show i=n by omega];exact he
theorem v_list {w:World} {b off:Nat}:∀n,(∀i,i<n→ ∃(u:Value) (d:List Int),w.cell? ⟨b,off+i,none⟩=some u∧IsI w u d)→ ∃l:List (List Int),l.length=n∧ ∀i,i<n→ ∃u,w.cell? ⟨b,off+i,none⟩=some u∧IsI w u (vAt l i)
 |0,_=>⟨[],rfl,fun i hi=>by omega⟩
 |n+1,h=>by
  obtain⟨l,hl,hi⟩:=v_list n (fun i hi=>h i (by omega))
  obtain⟨u,e,hu,he⟩:=h n (by omega)
  refine⟨l++ [e],by simp [hl],fun i hi'=> ?_⟩
  by_cases hin:i<n
  ·have:vAt (l++ [e]) i=vAt l i:=by unfold vAt;simp [List.getElem?_append_left (by omega:i<l.length)]
   rw [this];exact hi i hin
  ·have:vAt (l++ [e]) i=e:=by unfold vAt;simp [show i=l.length by omega]
   rw [this,show i=n by omega];exact⟨u,hu,he⟩
theorem ykq {H:Type} {enc:TypeId×Value→H} {w:World} {spare:Nat→Bool} {held:Bool} {fuel:Nat} {cs:List Value} {x:DataW H×List MemPlace}
  (hf:DataW.trod enc Tryz.prog w 0 spare held fuel 27 cs=some x):∃v l,cs= [v]∧IsKs w v l:=by
 rcases DataW.trod_slice Tryz.underlying27 hf with ⟨rfl,_⟩|⟨a,len,cap,elems,rest,n,_,rfl,_,hb,hl,hm,hlen,hel,_,_⟩
 ·exact⟨_,[],rfl,none,0,rfl,Nat.le_refl _,by unfold maxLen;omega,.inl rfl⟩
 ·by_cases h0:len=0
  ·subst h0
   exact⟨_,[],rfl,_,_,rfl,hl,hm,.inl rfl⟩
  ·obtain⟨b,off,spot⟩:=a
   have hs:spot=none:=by
    have h1:=hel 0 (by omega)
    rw [ync,List.getElem?_eq_getElem (by omega)]at h1
    obtain⟨cs,hc,ht⟩:=Option.bind_eq_some_iff.1 h1
    obtain⟨k,vi,vh,vs,u6,u7,u8,u12,u13,rfl,_⟩:=yhy ht
    have c0:=(World.cells?_some hc).2.2 0 (by omega)
    simpa [Addr.add] using World.cell?_spot c0
   subst hs
   have each:∀i,i<len→ ∃k:Kn,KAt w b (off+i*14) k∧b<w.heap.size:=by
    intro i hi
    have h1:=hel i hi
    rw [ync,List.getElem?_eq_getElem (by omega),add_plain]at h1
    obtain⟨cs,hc,ht⟩:=Option.bind_eq_some_iff.1 h1
    obtain⟨k,vi,vh,vs,u6,u7,u8,u12,u13,rfl,hk⟩:=yhy ht
    have hblk:b<w.heap.size:=World.cells?_block hc (by omega)
    obtain⟨_,_,hcell⟩:=World.cells?_some hc
    simp only [add_plain]at hcell
    exact⟨k,⟨vi,vh,vs,u6,u7,u8,u12,u13,⟨hcell 0 (by omega),hcell 1 (by omega),hcell 2 (by omega),hcell 3 (by omega),hcell 4 (by omega),hcell 5 (by omega),hcell 6 (by omega),hcell 7 (by omega),hcell 8 (by omega),hcell 9 (by omega),hcell 10 (by omega),hcell 11 (by omega),hcell 12 (by omega),hcell 13 (by omega)⟩,hk⟩,hblk⟩
   obtain⟨_,_,hblk⟩:=each 0 (by omega)
   obtain⟨l,rfl,hi⟩:=ys4 (w:=w) (b:=b) (off:=off) len (fun i hi=>by
    obtain⟨e,he,_⟩:=each i hi
    exact⟨e,he⟩)
   exact⟨_,l,rfl,_,_,rfl,hl,hm,.inr ⟨b,off,rfl,hblk,hi⟩⟩
theorem yql {H:Type} {enc:TypeId×Value→H} {w:World} {spare:Nat→Bool} {held:Bool} {fuel:Nat} {cs:List Value} {x:DataW H×List MemPlace}
  (hf:DataW.trod enc Tryz.prog w 0 spare held fuel 28 cs=some x):∃v l,cs= [v]∧IsD w v (yef l):=by
 rcases DataW.trod_slice Tryz.underlying28 hf with ⟨rfl,_⟩|⟨a,len,cap,elems,rest,n,_,rfl,_,hb,hl,hm,hlen,hel,_,_⟩
 ·exact⟨_,[],rfl,.nil none 0 1 _ (by unfold maxLen;omega)⟩
 ·by_cases h0:len=0
  ·subst h0
   exact⟨_,[],rfl,.nil _ _ 1 _ hm⟩
  ·obtain⟨b,off,spot⟩:=a
   have hs:spot=none:=by
    have h1:=hel 0 (by omega)
    rw [yem,List.getElem?_eq_getElem (by omega)]at h1
    obtain⟨cs,hc,ht⟩:=Option.bind_eq_some_iff.1 h1
    obtain⟨v,l,rfl,_⟩:=yeg ht
    have c0:=(World.cells?_some hc).2.2 0 (by omega)
    simpa [Addr.add] using World.cell?_spot c0
   subst hs
   have each:∀i,i<len→ ∃(u:Value) (l:List Int),(w.cell? ⟨b,off+i,none⟩=some u∧IsI w u l)∧b<w.heap.size:=by
    intro i hi
    have h1:=hel i hi
    rw [yem,List.getElem?_eq_getElem (by omega),add_plain]at h1
    obtain⟨cs,hc,ht⟩:=Option.bind_eq_some_iff.1 h1
    obtain⟨v,l,rfl,hv⟩:=yeg ht
    have hblk:b<w.heap.size:=World.cells?_block hc (by omega)
    obtain⟨_,_,hcell⟩:=World.cells?_some hc
    have h2:=hcell 0 (by omega)
    simp only [add_plain]at h2
    exact⟨v,l,⟨by simpa using h2,hv⟩,hblk⟩
   obtain⟨_,_,_,hblk⟩:=each 0 (by omega)
   obtain⟨l,rfl,hi⟩:=v_list (w:=w) (b:=b) (off:=off) len (fun i hi=>by
    obtain⟨u,l,he,_⟩:=each i hi
    exact⟨u,l,he⟩)
   refine⟨_,l,rfl,IsD.of_parts hl hm (.inr ⟨b,off,rfl,hblk,fun j hj=> ?_⟩)⟩
   obtain⟨u,hu,hd⟩:=hi j (by omega)
   exact⟨u,hu,hd.isD⟩
theorem ypp {H:Type} {enc:TypeId×Value→H} {w:World} {b0:Nat} {spare:Nat→Bool} {held:Bool} {r:Reach} {v:Value} {d:DataW H} {p:List MemPlace}
  (hv:Value.okWide Tryz.prog w r b0 30 v) (h:DataW.Trod enc Tryz.prog w 0 spare held 30 v d p):∃k:Wd,IsW w v k:=by
 obtain⟨cs,rfl,hsz⟩:=okWide_struct Tryz.underlying30 hv
 obtain⟨fuel,hf⟩:=h
 obtain⟨xs,n,_,_,hl,hlen,hf⟩:=DataW.trod_struct Tryz.underlying30 hf
 rw [cellsWd]at hl
 obtain⟨c0,c1,c2,c3,c4,c5,c6,c7,hcs⟩:=list8k hl
 have hx:xs.length=3:=by simpa using hlen
 obtain⟨y0,y1,y2,rfl⟩:=list3k hx
 rw [hcs]at hf
 have h0:=hf 0 _ rfl
 have h1:=hf 1 _ rfl
 have h2:=hf 2 _ rfl
 obtain⟨m,vi,vh,vs,e0,gi,gh,ge⟩:=yj3 h0
 obtain⟨v1,l1,e1,g1⟩:=ykq h1
 obtain⟨v2,l2,e2,g2⟩:=yql h2
 simp [yta,cellsKns,cellsVcs]at e0 e1 e2
 obtain⟨rfl,rfl,rfl,rfl,rfl,rfl⟩:=e0
 subst e1 e2
 refine⟨⟨m,l1,l2⟩,c2,c3,c4,c6,c7,?_,⟨_,_,_,rfl,gi,gh,ge⟩,g1,g2⟩
 rw [show cs= #[.int .i64 m.n,.int .i64 m.s,c2,c3,c4,.int .i64 m.z,c6,c7]from by
  apply Array.toList_inj.1
  simpa [Value.cells] using hcs]
end Go.Proofs.YtmobiieoecjmdaaGreat

