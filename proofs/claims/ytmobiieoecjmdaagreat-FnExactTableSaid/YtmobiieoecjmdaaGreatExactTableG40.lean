/- WEq, OpenS, VOpen, MOpen, SOpen, TPtO, KOp, WOp, LawTaW -/
import Derived.Test.YtmobiieoecjmdaaGreatExactTableG01
import Derived.Test.YtmobiieoecjmdaaGreatExactTableG04
import Derived.Test.YtmobiieoecjmdaaGreatExactTableG39
import Derived.Deep.RegionHeld3
import Derived.Test.YtmobiieoecjmdaaGreatExactTableG14
import Derived.ProofKit
import Derived.ChangeOld
import Derived.OpenShut
import Derived.SizedLaws
import Derived.Test.YtmobiieoecjmdaaGreatExactTableG03
import Derived.Test.YtmobiieoecjmdaaGreatExactTableG33
import Derived.Test.YtmobiieoecjmdaaGreatExactTableG36
import Derived.Test.YtmobiieoecjmdaaGreatExactTableG38
import Derived.Deep.Cut
/- Two worlds alike. -/
namespace Go.Proofs.YtmobiieoecjmdaaGreat
set_option maxHeartbeats 8000000
set_option maxRecDepth 100000
open Go.RowKit
theorem yeo {p:Prop} (h:p):Hid p:=h
theorem yrq (x y:Value) (l:List Kn) (w:World) (hl:yek l) (hx:IsKs w x l) (hy:IsKs w y l):
  Calls Tryz.prog 49 #[x,y] w fun e w'=>e= .returned (.bool true)∧Below w.heap.size w w':=by
 obtain⟨a,cap,rfl,h1,h2,h⟩:=hx
 obtain⟨a',cap',rfl,h1',h2',h'⟩:=hy
 have HS:Hid (yek l):=hl
 have hl2:l.length≤1048576:=hl.1
 clear h1 h2 h1' h2' hl
 go_enter Tryz.func49,Tryz.ntmps49
 go_wp2
 go_loopw [5] (fun i wr=>∃k:Nat,k≤l.length∧i= .int .i64 k∧Below w.heap.size w wr) (fun i _=>l.length-(intOf i).toNat)
 case atStart=>exact⟨0,Nat.zero_le _,rfl,Below.refl _ _⟩
 case round=>
  obtain⟨k,hk,rfl,hB⟩:=hrel
  have HB:=yeo hB
  by_cases hlt:k<l.length
  ·obtain⟨b,off,rfl,hb,hc⟩:=h.resolve_left (by omega)
   obtain⟨b',off',rfl,hb',hc'⟩:=h'.resolve_left (by omega)
   obtain⟨vi,vh,vs,u6,u7,u8,u12,u13,⟨f0,f1,f2,f3,f4,f5,f6,f7,f8,f9,f10,f11,f12,f13⟩,hD⟩:=(hc k hlt).under hb hB
   obtain⟨xvi,xvh,xvs,xu6,xu7,xu8,xu12,xu13,⟨e0,e1,e2,e3,e4,e5,e6,e7,e8,e9,e10,e11,e12,e13⟩,hG⟩:=(hc' k hlt).under hb' hB
   have HD:=yeo (hD.under (Below.refl _ wr).drew)
   have HG:=yeo (hG.under (Below.refl _ wr).drew)
   have HW:Hid (ybw (knAt l k)):=HS.out.2 k hlt
   have hbr:b<wr.heap.size:=Nat.lt_of_lt_of_le hb hB.size
   have hbr':b'<wr.heap.size:=Nat.lt_of_lt_of_le hb' hB.size
   clear hB hc hc' h h' hD hG
   go_wp2_with fail
   go_region_held3 (fun W=>W.cell? ⟨b,off+k*14,none⟩=some (.int .i64 (knAt l k).m.n)∧W.cell? ⟨b,off+k*14+1,none⟩=some (.int .i64 (knAt l k).m.s)∧W.cell? ⟨b,off+k*14+2,none⟩=some (vi)∧W.cell? ⟨b,off+k*14+3,none⟩=some (vh)∧W.cell? ⟨b,off+k*14+4,none⟩=some (vs)∧W.cell? ⟨b,off+k*14+5,none⟩=some (.int .i64 (knAt l k).m.z)∧W.cell? ⟨b,off+k*14+6,none⟩=some (u6)∧W.cell? ⟨b,off+k*14+7,none⟩=some (u7)∧W.cell? ⟨b,off+k*14+8,none⟩=some (u8)∧W.cell? ⟨b,off+k*14+9,none⟩=some (.int .i64 (knAt l k).t)∧W.cell? ⟨b,off+k*14+10,none⟩=some (.int .i64 (knAt l k).q)∧W.cell? ⟨b,off+k*14+11,none⟩=some (.bool (knAt l k).f)∧W.cell? ⟨b,off+k*14+12,none⟩=some (u12)∧W.cell? ⟨b,off+k*14+13,none⟩=some (u13)∧W.cell? ⟨b',off'+k*14,none⟩=some (.int .i64 (knAt l k).m.n)∧W.cell? ⟨b',off'+k*14+1,none⟩=some (.int .i64 (knAt l k).m.s)∧W.cell? ⟨b',off'+k*14+2,none⟩=some (xvi)∧W.cell? ⟨b',off'+k*14+3,none⟩=some (xvh)∧W.cell? ⟨b',off'+k*14+4,none⟩=some (xvs)∧W.cell? ⟨b',off'+k*14+5,none⟩=some (.int .i64 (knAt l k).m.z)∧W.cell? ⟨b',off'+k*14+6,none⟩=some (xu6)∧W.cell? ⟨b',off'+k*14+7,none⟩=some (xu7)∧W.cell? ⟨b',off'+k*14+8,none⟩=some (xu8)∧W.cell? ⟨b',off'+k*14+9,none⟩=some (.int .i64 (knAt l k).t)∧W.cell? ⟨b',off'+k*14+10,none⟩=some (.int .i64 (knAt l k).q)∧W.cell? ⟨b',off'+k*14+11,none⟩=some (.bool (knAt l k).f)∧W.cell? ⟨b',off'+k*14+12,none⟩=some (xu12)∧W.cell? ⟨b',off'+k*14+13,none⟩=some (xu13)) ((repeat' apply And.intro)<;>first|(go_keep;done)|(rw [hcA _ _ (by first|omega|(simp;omega)|simp [*])];simp [*];done))
    (first|(go_at_call 22;refine(ylg _ _ (knAt l k) _ HW.out HD.out HG.out).mono ?_;rintro e w2 ⟨rfl,hb2⟩;obtain⟨hcA,hfA⟩:=ygk hb2))
   clear hcA hfA
   go_wp2
   go_roundw
   case rel=>exact⟨k+1,by omega,by go_num,HB.out.drew.trans (hb2.mono (by have:=HB.out.size;simpa using this))⟩
   case measure=>simp [intOf];omega
  ·clear hB h h'
   go_wp2
   go_ret
   exact⟨rfl,HB.out⟩
theorem eq_vecs (x y:Value) (l:List (List Int)) (w:World) (hl:(yce l).wt≤1048576) (hx:IsD w x (yce l)) (hy:IsD w y (yce l)):
  Calls Tryz.prog 13 #[x,y] w fun e w'=>e= .returned (.bool true)∧Below w.heap.size w w':=by
 obtain⟨a,cap,rfl,h1,h2,h⟩:=IsD.parts (c:=1) (n:=l.length) hx
 obtain⟨a',cap',rfl,h1',h2',h'⟩:=IsD.parts (c:=1) (n:=l.length) hy
 have HS:=yeo hl
 have hl2:l.length≤1048576:=by rw [ydy]at hl;omega
 clear h1 h2 h1' h2' hx hy hl
 go_enter Tryz.func13,Tryz.ntmps13
 go_wp2
 go_loopw [5] (fun i wr=>∃k:Nat,k≤l.length∧i= .int .i64 k∧Below w.heap.size w wr) (fun i _=>l.length-(intOf i).toNat)
 case atStart=>exact⟨0,Nat.zero_le _,rfl,Below.refl _ _⟩
 case round=>
  obtain⟨k,hk,rfl,hB⟩:=hrel
  have HB:=yeo hB
  by_cases hlt:k<l.length
  ·obtain⟨b,off,rfl,hb,hc⟩:=h.resolve_left (by omega)
   obtain⟨b',off',rfl,hb',hc'⟩:=h'.resolve_left (by omega)
   obtain⟨u,hu,hd⟩:=hc k (by omega)
   obtain⟨v,hv,hg⟩:=hc' k (by omega)
   have f0:=(hB.cell (p:=⟨b,off+k,none⟩) hb).trans hu
   have e0:=(hB.cell (p:=⟨b',off'+k,none⟩) hb').trans hv
   have HD:=yeo ((hd.under hB).under (Below.refl _ wr).drew)
   have HG:=yeo ((hg.under hB).under (Below.refl _ wr).drew)
   have HW:=yeo (Nat.le_trans (yls hlt) HS.out)
   have hbr:b<wr.heap.size:=Nat.lt_of_lt_of_le hb hB.size
   have hbr':b'<wr.heap.size:=Nat.lt_of_lt_of_le hb' hB.size
   clear hB hc hc' h h' hd hg hu hv
   go_wp2_with fail
   go_region_held3 (fun W=>W.cell? ⟨b,off+k,none⟩=some u∧W.cell? ⟨b',off'+k,none⟩=some v) ((repeat' apply And.intro)<;>first|(go_keep;done)|(rw [hcA _ _ (by first|omega|(simp;omega)|simp [*])];simp [*];done))
    (first|(go_at_call 32;refine(yoc _ _ (vAt l k) _ HW.out HD.out HG.out).mono ?_;rintro e w2 ⟨rfl,hb2⟩;obtain⟨hcA,hfA⟩:=ygk hb2))
   clear hcA hfA
   go_wp2
   go_roundw
   case rel=>exact⟨k+1,by omega,by go_num,HB.out.drew.trans (hb2.mono (by have:=HB.out.size;simpa using this))⟩
   case measure=>simp [intOf];omega
  ·clear hB h h'
   go_wp2
   go_ret
   exact⟨rfl,HB.out⟩
theorem yn5 (x y:Value) (v:Wd) (w:World) (hs:ycs v) (hx:IsW w x v) (hy:IsW w y v):
  Calls Tryz.prog 14 #[x,y] w fun e w'=>e= .returned (.bool true)∧Below w.heap.size w w':=by
 obtain⟨vi,vh,vs,uk,uc,rfl,hm,hk,hc⟩:=hx
 obtain⟨xvi,xvh,xvs,xuk,xuc,rfl,jm,jk,jc⟩:=hy
 have HS:Hid (ycs v):=hs
 have HM:Hid (IsM w (.agg #[.int .i64 v.m.n,.int .i64 v.m.s,vi,vh,vs,.int .i64 v.m.z]) v.m∧IsM w (.agg #[.int .i64 v.m.n,.int .i64 v.m.s,xvi,xvh,xvs,.int .i64 v.m.z]) v.m):=⟨hm,jm⟩
 have HK:Hid (IsKs w uk v.k∧IsKs w xuk v.k):=⟨hk,jk⟩
 have HC:Hid (IsD w uc (yce v.c)∧IsD w xuc (yce v.c)):=⟨hc,jc⟩
 clear hs hm jm hk jk hc jc
 obtain⟨W0,hW0⟩:∃W0,(w.alloc (.cells #[.int .i64 v.m.n,.int .i64 v.m.s,vi,vh,vs,.int .i64 v.m.z,uk,uc] 39)).alloc (.cells #[.int .i64 v.m.n,.int .i64 v.m.s,xvi,xvh,xvs,.int .i64 v.m.z,xuk,xuc] 39)=W0:=⟨_,rfl⟩
 have HB0:=hdq (beA2 hW0)
 have HP0:=hdq (bkA2 hW0)
 have HQ0:=hdq (bkB2 hW0)
 have HW:=yeo hW0
 clear hW0
 go_enter Tryz.func14,Tryz.ntmps14
 have p0:=HP0.out.cell (i:=0) rfl
 have q0:=HQ0.out.cell (i:=0) rfl
 have p1:=HP0.out.cell (i:=1) rfl
 have q1:=HQ0.out.cell (i:=1) rfl
 have p2:=HP0.out.cell (i:=2) rfl
 have q2:=HQ0.out.cell (i:=2) rfl
 have p3:=HP0.out.cell (i:=3) rfl
 have q3:=HQ0.out.cell (i:=3) rfl
 have p4:=HP0.out.cell (i:=4) rfl
 have q4:=HQ0.out.cell (i:=4) rfl
 have p5:=HP0.out.cell (i:=5) rfl
 have q5:=HQ0.out.cell (i:=5) rfl
 go_wp2_with fail
 rw [HW.out]
 clear HW p0 q0 p1 q1 p2 q2 p3 q3 p4 q4 p5 q5
 refine(yib _ _ v.m _ HS.out.1 (HM.out.1.below HB0.out) (HM.out.2.below HB0.out)).mono ?_
 rintro e w1 ⟨rfl,hb⟩
 have HB1:=yeo (trm HB0.out hb)
 have p6:=(HP0.out.below hb).cell (i:=6) rfl
 have q6:=(HQ0.out.below hb).cell (i:=6) rfl
 have HP1:=yeo (HP0.out.below hb)
 have HQ1:=yeo (HQ0.out.below hb)
 clear hb
 go_wp2_with fail
 clear p6 q6
 refine(yrq _ _ v.k _ HS.out.2.1 (HK.out.1.under HB1.out) (HK.out.2.under HB1.out)).mono ?_
 rintro e w2 ⟨rfl,hb⟩
 have HB2:=yeo (trm HB1.out hb)
 have p7:=(HP1.out.below hb).cell (i:=7) rfl
 have q7:=(HQ1.out.below hb).cell (i:=7) rfl
 clear hb
 go_wp2_with fail
 clear p7 q7
 refine(eq_vecs _ _ v.c _ HS.out.2.2 (HC.out.1.under HB2.out) (HC.out.2.under HB2.out)).mono ?_
 rintro e w3 ⟨rfl,hb⟩
 have HB3:=yeo (trm HB2.out hb)
 clear hb
 go_wp2
 go_ret
 exact⟨rfl,HB3.out⟩
end Go.Proofs.YtmobiieoecjmdaaGreat

/- How a list of events that came in is read. -/
namespace Go.Proofs.YtmobiieoecjmdaaGreat
open Go.ChangeShapes Go.WideShapes Go.ChangeAt Go.RowKit
theorem ypk {w:World} {b off:Nat}:∀n,(∀i,i<n→ ∃e:Ev,Ev.In w b (off+i*7) e)→ ∃l:List Ev,l.length=n∧ ∀i,i<n→Ev.In w b (off+i*7) (evAt l i)
 |0,_=>⟨[],rfl,fun i hi=>by omega⟩
 |n+1,h=>by
  obtain⟨l,hl,hi⟩:=ypk n (fun i hi=>h i (by omega))
  obtain⟨e,he⟩:=h n (by omega)
  refine⟨l++ [e],by simp [hl],fun i hi'=> ?_⟩
  by_cases hin:i<n
  ·have:evAt (l++ [e]) i=evAt l i:=by unfold evAt;simp [List.getElem?_append_left (by omega:i<l.length)]
   rw [this];exact hi i hin
  ·have:evAt (l++ [e]) i=e:=by unfold evAt;simp [show i=l.length by omega]
   rw [this,show i=n by omega];exact he
theorem add_plain (b off n:Nat):(⟨b,off,none⟩:Addr).add n=⟨b,off+n,none⟩:=by
 unfold Addr.add
 split<;>simp_all
theorem ymp {w:World} {b off:Nat}:∀n,(∀i,i<n→ ∃z:Int,w.cell? ⟨b,off+i,none⟩=some (.int .i64 z))→ ∃l:List Int,l.length=n∧ ∀i,i<n→w.cell? ⟨b,off+i,none⟩=some (.int .i64 (intAt l i))
 |0,_=>⟨[],rfl,fun i hi=>by omega⟩
 |n+1,h=>by
  obtain⟨l,hl,hi⟩:=ymp n (fun i hi=>h i (by omega))
  obtain⟨e,he⟩:=h n (by omega)
  refine⟨l++ [e],by simp [hl],fun i hi'=> ?_⟩
  by_cases hin:i<n
  ·have:intAt (l++ [e]) i=intAt l i:=by unfold intAt;simp [List.getElem?_append_left (by omega:i<l.length)]
   rw [this];exact hi i hin
  ·have:intAt (l++ [e]) i=e:=by unfold intAt;simp [show i=l.length by omega]
   rw [this,show i=n by omega];exact he
set_option maxRecDepth 100000
open Go.ChangeShapes Go.WideShapes Go.ChangeAt Go.RowKit
theorem yol:Tryz.prog.cellsOf 223=4:=by kernel_rfl
theorem yps:Tryz.prog.cellsOf 178=1:=by kernel_rfl
theorem yut:Tryz.prog.cellsOf 23=1:=by kernel_rfl
theorem yfb:Tryz.prog.cellsOf 22=1:=by kernel_rfl
theorem yip:Tryz.prog.cellsOf 24=1:=by kernel_rfl
theorem yuu:Tryz.prog.cellsOf 26=6:=by kernel_rfl
theorem list4 {α:Type} {l:List α} (h:l.length=4):∃a b c d,l= [a,b,c,d]:=by
 match l,h with
 | [a,b,c,d],_=>exact⟨a,b,c,d,rfl⟩
theorem list6 {α:Type} {l:List α} (h:l.length=6):∃a b c d e f,l= [a,b,c,d,e,f]:=by
 match l,h with
 | [a,b,c,d,e,f],_=>exact⟨a,b,c,d,e,f,rfl⟩
theorem ys7 {H:Type} {enc:TypeId×Value→H} {w:World} {base:Nat} {spare:Nat→Bool} {held:Bool} {fuel:Nat} {cs:List Value} {x:DataW H×List MemPlace}
  (h:DataW.trod enc Tryz.prog w base spare held fuel 223 cs=some x):∃c a b k:Int,cs= [.int .i64 c,.int .i64 a,.int .i64 b,.int .i64 k]∧wfI c∧wfI a∧wfI b∧wfI k:=by
 obtain⟨xs,n,_,rfl,hl,hlen,hf⟩:=DataW.trod_struct Tryz.underlying223 h
 rw [yol]at hl
 obtain⟨c0,c1,c2,c3,rfl⟩:=list4 hl
 have hx:xs.length=4:=by simpa using hlen
 obtain⟨y0,y1,y2,y3,rfl⟩:=list4 hx
 have h0:=hf 0 _ rfl
 have h1:=hf 1 _ rfl
 have h2:=hf 2 _ rfl
 have h3:=hf 3 _ rfl
 obtain⟨a0,e0,_,w0⟩:=DataW.trod_int Tryz.underlying3 h0
 obtain⟨a1,e1,_,w1⟩:=DataW.trod_int Tryz.underlying3 h1
 obtain⟨a2,e2,_,w2⟩:=DataW.trod_int Tryz.underlying3 h2
 obtain⟨a3,e3,_,w3⟩:=DataW.trod_int Tryz.underlying3 h3
 simp [cells3]at e0 e1 e2 e3
 subst e0 e1 e2 e3
 exact⟨a0,a1,a2,a3,rfl,w0,w1,w2,w3⟩
theorem yey {H:Type} {enc:TypeId×Value→H} {w:World} {spare:Nat→Bool} {held:Bool} {fuel:Nat} {cs:List Value} {x:DataW H×List MemPlace}
  (hf:DataW.trod enc Tryz.prog w 0 spare held fuel 22 cs=some x):∃v l,cs= [v]∧IsI w v l:=by
 rcases DataW.trod_slice Tryz.underlying22 hf with ⟨rfl,_⟩|⟨a,len,cap,elems,rest,n,_,rfl,_,hb,hl,hm,hlen,hel,_,_⟩
 ·exact⟨_,[],rfl,none,0,rfl,Nat.le_refl _,by unfold maxLen;omega,.inl rfl⟩
 ·by_cases h0:len=0
  ·subst h0
   exact⟨_,[],rfl,_,_,rfl,hl,hm,.inl rfl⟩
  ·obtain⟨b,off,spot⟩:=a
   have hs:spot=none:=by
    have h1:=hel 0 (by omega)
    rw [cells3,List.getElem?_eq_getElem (by omega)]at h1
    obtain⟨cs,hc,ht⟩:=Option.bind_eq_some_iff.1 h1
    obtain⟨t,rfl,_⟩:=DataW.trod_int Tryz.underlying3 ht
    have c0:=(World.cells?_some hc).2.2 0 (by omega)
    simpa [Addr.add] using World.cell?_spot c0
   subst hs
   have each:∀i,i<len→ ∃z:Int,w.cell? ⟨b,off+i,none⟩=some (.int .i64 z)∧b<w.heap.size:=by
    intro i hi
    have h1:=hel i hi
    rw [cells3,List.getElem?_eq_getElem (by omega),add_plain]at h1
    obtain⟨cs,hc,ht⟩:=Option.bind_eq_some_iff.1 h1
    obtain⟨t,rfl,_,hw⟩:=DataW.trod_int Tryz.underlying3 ht
    have hblk:b<w.heap.size:=World.cells?_block hc (by omega)
    obtain⟨_,_,hcell⟩:=World.cells?_some hc
    have h2:=hcell 0 (by omega)
    simp only [add_plain]at h2
    exact⟨t,by simpa using h2,hblk⟩
   obtain⟨_,_,hblk⟩:=each 0 (by omega)
   obtain⟨l,rfl,hi⟩:=ymp (w:=w) (b:=b) (off:=off) len (fun i hi=>by
    obtain⟨e,he,_⟩:=each i hi
    exact⟨e,he⟩)
   exact⟨_,l,rfl,_,_,rfl,hl,hm,.inr ⟨b,off,rfl,hblk,hi⟩⟩
theorem yil {H:Type} {enc:TypeId×Value→H} {w:World} {spare:Nat→Bool} {held:Bool} {fuel:Nat} {cs:List Value} {x:DataW H×List MemPlace}
  (hf:DataW.trod enc Tryz.prog w 0 spare held fuel 24 cs=some x):∃v l,cs= [v]∧IsEvs w v l:=by
 rcases DataW.trod_slice Tryz.underlying24 hf with ⟨rfl,_⟩|⟨a,len,cap,elems,rest,n,_,rfl,_,hb,hl,hm,hlen,hel,_,_⟩
 ·exact⟨_,[],rfl,none,0,rfl,Nat.le_refl _,by unfold maxLen;omega,.inl rfl⟩
 ·by_cases h0:len=0
  ·subst h0
   exact⟨_,[],rfl,_,_,rfl,hl,hm,.inl rfl⟩
  ·obtain⟨b,off,spot⟩:=a
   have hs:spot=none:=by
    have h1:=hel 0 (by omega)
    rw [yjr,List.getElem?_eq_getElem (by omega)]at h1
    obtain⟨cs,hc,ht⟩:=Option.bind_eq_some_iff.1 h1
    obtain⟨t,s,q,d,k,v,g,rfl,_⟩:=ykr ht
    have c0:=(World.cells?_some hc).2.2 0 (by omega)
    simpa [Addr.add] using World.cell?_spot c0
   subst hs
   have each:∀i,i<len→ ∃e:Ev,Ev.In w b (off+i*7) e∧b<w.heap.size:=by
    intro i hi
    have h1:=hel i hi
    rw [yjr,List.getElem?_eq_getElem (by omega),add_plain]at h1
    obtain⟨cs,hc,ht⟩:=Option.bind_eq_some_iff.1 h1
    obtain⟨t,s,q,d,k,v,g,rfl,_⟩:=ykr ht
    have hblk:b<w.heap.size:=World.cells?_block hc (by omega)
    obtain⟨_,_,hcell⟩:=World.cells?_some hc
    simp only [add_plain]at hcell
    exact⟨⟨t,s,q,d,k,v,g⟩,⟨hcell 0 (by omega),hcell 1 (by omega),hcell 2 (by omega),hcell 3 (by omega),hcell 4 (by omega),hcell 5 (by omega),hcell 6 (by omega)⟩,hblk⟩
   obtain⟨_,_,hblk⟩:=each 0 (by omega)
   obtain⟨l,rfl,hi⟩:=ypk (w:=w) (b:=b) (off:=off) len (fun i hi=>by
    obtain⟨e,he,_⟩:=each i hi
    exact⟨e,he⟩)
   exact⟨_,l,rfl,_,_,rfl,hl,hm,.inr ⟨b,off,rfl,hblk,hi⟩⟩
theorem yt9 {w:World} {b off:Nat}:∀n,(∀i,i<n→ ∃e:O,OAt w b (off+i*4) e)→ ∃l:List O,l.length=n∧ ∀i,i<n→OAt w b (off+i*4) (oAt l i)
 |0,_=>⟨[],rfl,fun i hi=>by omega⟩
 |n+1,h=>by
  obtain⟨l,hl,hi⟩:=yt9 n (fun i hi=>h i (by omega))
  obtain⟨e,he⟩:=h n (by omega)
  refine⟨l++ [e],by simp [hl],fun i hi'=> ?_⟩
  by_cases hin:i<n
  ·have:oAt (l++ [e]) i=oAt l i:=by unfold oAt;simp [List.getElem?_append_left (by omega:i<l.length)]
   rw [this];exact hi i hin
  ·have:oAt (l++ [e]) i=e:=by unfold oAt;simp [show i=l.length by omega]
   rw [this,show i=n by omega];exact he
theorem yos {H:Type} {enc:TypeId×Value→H} {w:World} {spare:Nat→Bool} {held:Bool} {fuel:Nat} {cs:List Value} {x:DataW H×List MemPlace}
  (hf:DataW.trod enc Tryz.prog w 0 spare held fuel 178 cs=some x):∃v l,cs= [v]∧IsO w v l:=by
 rcases DataW.trod_slice Tryz.underlying178 hf with ⟨rfl,_⟩|⟨a,len,cap,elems,rest,n,_,rfl,_,hb,hl,hm,hlen,hel,_,_⟩
 ·exact⟨_,[],rfl,none,0,rfl,Nat.le_refl _,by unfold maxLen;omega,.inl rfl⟩
 ·by_cases h0:len=0
  ·subst h0
   exact⟨_,[],rfl,_,_,rfl,hl,hm,.inl rfl⟩
  ·obtain⟨b,off,spot⟩:=a
   have hs:spot=none:=by
    have h1:=hel 0 (by omega)
    rw [yol,List.getElem?_eq_getElem (by omega)]at h1
    obtain⟨cs,hc,ht⟩:=Option.bind_eq_some_iff.1 h1
    obtain⟨c,a,b,k,rfl,_⟩:=ys7 ht
    have c0:=(World.cells?_some hc).2.2 0 (by omega)
    simpa [Addr.add] using World.cell?_spot c0
   subst hs
   have each:∀i,i<len→ ∃e:O,OAt w b (off+i*4) e∧b<w.heap.size:=by
    intro i hi
    have h1:=hel i hi
    rw [yol,List.getElem?_eq_getElem (by omega),add_plain]at h1
    obtain⟨cs,hc,ht⟩:=Option.bind_eq_some_iff.1 h1
    obtain⟨c,a,b',k,rfl,_⟩:=ys7 ht
    have hblk:b<w.heap.size:=World.cells?_block hc (by omega)
    obtain⟨_,_,hcell⟩:=World.cells?_some hc
    simp only [add_plain]at hcell
    exact⟨⟨c,a,b',k⟩,⟨hcell 0 (by omega),hcell 1 (by omega),hcell 2 (by omega),hcell 3 (by omega)⟩,hblk⟩
   obtain⟨_,_,hblk⟩:=each 0 (by omega)
   obtain⟨l,rfl,hi⟩:=yt9 (w:=w) (b:=b) (off:=off) len (fun i hi=>by
    obtain⟨e,he,_⟩:=each i hi
    exact⟨e,he⟩)
   exact⟨_,l,rfl,_,_,rfl,hl,hm,.inr ⟨b,off,rfl,hblk,hi⟩⟩
theorem yu2 {w:World} {b off:Nat}:∀n,(∀i,i<n→ ∃u l,w.cell? ⟨b,off+i,none⟩=some u∧IsO w u l)→ ∃l:List (List O),l.length=n∧ ∀i,i<n→ ∃u,w.cell? ⟨b,off+i,none⟩=some u∧IsO w u (hAt l i)
 |0,_=>⟨[],rfl,fun i hi=>by omega⟩
 |n+1,h=>by
  obtain⟨l,hl,hi⟩:=yu2 n (fun i hi=>h i (by omega))
  obtain⟨u,r,hu,hr⟩:=h n (by omega)
  refine⟨l++ [r],by simp [hl],fun i hi'=> ?_⟩
  by_cases hin:i<n
  ·have:hAt (l++ [r]) i=hAt l i:=by unfold hAt;simp [List.getElem?_append_left (by omega:i<l.length)]
   rw [this];exact hi i hin
  ·have:hAt (l++ [r]) i=r:=by unfold hAt;simp [show i=l.length by omega]
   rw [this,show i=n by omega];exact⟨u,hu,hr⟩
theorem trod_hs {H:Type} {enc:TypeId×Value→H} {w:World} {spare:Nat→Bool} {held:Bool} {fuel:Nat} {cs:List Value} {x:DataW H×List MemPlace}
  (hf:DataW.trod enc Tryz.prog w 0 spare held fuel 23 cs=some x):∃v l,cs= [v]∧IsH w v l:=by
 rcases DataW.trod_slice Tryz.underlying23 hf with ⟨rfl,_⟩|⟨a,len,cap,elems,rest,n,_,rfl,_,hb,hl,hm,hlen,hel,_,_⟩
 ·exact⟨_,[],rfl,none,0,rfl,Nat.le_refl _,by unfold maxLen;omega,.inl rfl⟩
 ·by_cases h0:len=0
  ·subst h0
   exact⟨_,[],rfl,_,_,rfl,hl,hm,.inl rfl⟩
  ·obtain⟨b,off,spot⟩:=a
   have hs:spot=none:=by
    have h1:=hel 0 (by omega)
    rw [yps,List.getElem?_eq_getElem (by omega)]at h1
    obtain⟨cs,hc,ht⟩:=Option.bind_eq_some_iff.1 h1
    obtain⟨v,l,rfl,_⟩:=yos ht
    have c0:=(World.cells?_some hc).2.2 0 (by omega)
    simpa [Addr.add] using World.cell?_spot c0
   subst hs
   have each:∀i,i<len→ ∃u l,(w.cell? ⟨b,off+i,none⟩=some u∧IsO w u l)∧b<w.heap.size:=by
    intro i hi
    have h1:=hel i hi
    rw [yps,List.getElem?_eq_getElem (by omega),add_plain]at h1
    obtain⟨cs,hc,ht⟩:=Option.bind_eq_some_iff.1 h1
    obtain⟨v,l,rfl,hv⟩:=yos ht
    have hblk:b<w.heap.size:=World.cells?_block hc (by omega)
    obtain⟨_,_,hcell⟩:=World.cells?_some hc
    have h2:=hcell 0 (by omega)
    simp only [add_plain]at h2
    exact⟨v,l,⟨by simpa using h2,hv⟩,hblk⟩
   obtain⟨_,_,_,hblk⟩:=each 0 (by omega)
   obtain⟨l,rfl,hi⟩:=yu2 (w:=w) (b:=b) (off:=off) len (fun i hi=>by
    obtain⟨u,l,he,_⟩:=each i hi
    exact⟨u,l,he⟩)
   exact⟨_,l,rfl,_,_,rfl,hl,hm,.inr ⟨b,off,rfl,hblk,hi⟩⟩
theorem yus:Tryz.prog.cellsOf 141=3:=by kernel_rfl
theorem list3 {α:Type} {l:List α} (h:l.length=3):∃a b c,l= [a,b,c]:=by
 match l,h with
 | [a,b,c],_=>exact⟨a,b,c,rfl⟩
set_option maxRecDepth 100000
open Go.ChangeShapes Go.WideShapes Go.ChangeAt Go.RowKit
theorem yon:Tryz.prog.cellsOf 160=3:=by kernel_rfl
theorem ypt:Tryz.prog.cellsOf 48=1:=by kernel_rfl
theorem yoj:Tryz.prog.cellsOf 230=12:=by kernel_rfl
theorem cellsPss:Tryz.prog.cellsOf 142=1:=by kernel_rfl
theorem yok:Tryz.prog.cellsOf 144=7:=by kernel_rfl
theorem list12 {α:Type} {l:List α} (h:l.length=12):∃a0 a1 a2 a3 a4 a5 a6 a7 a8 a9 a10 a11,l= [a0,a1,a2,a3,a4,a5,a6,a7,a8,a9,a10,a11]:=by
 match l,h with
 | [a0,a1,a2,a3,a4,a5,a6,a7,a8,a9,a10,a11],_=>exact⟨a0,a1,a2,a3,a4,a5,a6,a7,a8,a9,a10,a11,rfl⟩
theorem list7p {α:Type} {l:List α} (h:l.length=7):∃a0 a1 a2 a3 a4 a5 a6,l= [a0,a1,a2,a3,a4,a5,a6]:=by
 match l,h with
 | [a0,a1,a2,a3,a4,a5,a6],_=>exact⟨a0,a1,a2,a3,a4,a5,a6,rfl⟩
theorem list5 {α:Type} {l:List α} (h:l.length=5):∃a0 a1 a2 a3 a4,l= [a0,a1,a2,a3,a4]:=by
 match l,h with
 | [a0,a1,a2,a3,a4],_=>exact⟨a0,a1,a2,a3,a4,rfl⟩
theorem list4p {α:Type} {l:List α} (h:l.length=4):∃a b c d,l= [a,b,c,d]:=by
 match l,h with
 | [a,b,c,d],_=>exact⟨a,b,c,d,rfl⟩
theorem ylz {H:Type} {enc:TypeId×Value→H} {w:World} {base:Nat} {spare:Nat→Bool} {held:Bool} {fuel:Nat} {cs:List Value} {x:DataW H×List MemPlace}
  (h:DataW.trod enc Tryz.prog w base spare held fuel 160 cs=some x):∃t l v:Int,cs= [.int .i64 t,.int .i64 l,.int .i64 v]:=by
 obtain⟨xs,n,_,rfl,hl,hlen,hf⟩:=DataW.trod_struct Tryz.underlying160 h
 rw [yon]at hl
 obtain⟨c0,c1,c2,rfl⟩:=list3 hl
 have hx:xs.length=3:=by simpa using hlen
 obtain⟨y0,y1,y2,rfl⟩:=list3 hx
 have h0:=hf 0 _ rfl
 have h1:=hf 1 _ rfl
 have h2:=hf 2 _ rfl
 obtain⟨a0,e0,_,w0⟩:=DataW.trod_int Tryz.underlying3 h0
 obtain⟨a1,e1,_,w1⟩:=DataW.trod_int Tryz.underlying3 h1
 obtain⟨a2,e2,_,w2⟩:=DataW.trod_int Tryz.underlying3 h2
 simp [cells3]at e0 e1 e2
 subst e0 e1 e2
 exact⟨a0,a1,a2,rfl⟩
theorem yry {w:World} {b off:Nat}:∀n,(∀i,i<n→ ∃e:Em,XAt w b (off+i*3) e)→ ∃l:List Em,l.length=n∧ ∀i,i<n→XAt w b (off+i*3) (xAt l i)
 |0,_=>⟨[],rfl,fun i hi=>by omega⟩
 |n+1,h=>by
  obtain⟨l,hl,hi⟩:=yry n (fun i hi=>h i (by omega))
  obtain⟨e,he⟩:=h n (by omega)
  refine⟨l++ [e],by simp [hl],fun i hi'=> ?_⟩
  by_cases hin:i<n
  ·have:xAt (l++ [e]) i=xAt l i:=by unfold xAt;simp [List.getElem?_append_left (by omega:i<l.length)]
   rw [this];exact hi i hin
  ·have:xAt (l++ [e]) i=e:=by unfold xAt;simp [show i=l.length by omega]
   rw [this,show i=n by omega];exact he
theorem yot {H:Type} {enc:TypeId×Value→H} {w:World} {spare:Nat→Bool} {held:Bool} {fuel:Nat} {cs:List Value} {x:DataW H×List MemPlace}
  (hf:DataW.trod enc Tryz.prog w 0 spare held fuel 48 cs=some x):∃v l,cs= [v]∧IsX w v l:=by
 rcases DataW.trod_slice Tryz.underlying48 hf with ⟨rfl,_⟩|⟨a,len,cap,elems,rest,n,_,rfl,_,hb,hl,hm,hlen,hel,_,_⟩
 ·exact⟨_,[],rfl,none,0,rfl,Nat.le_refl _,by unfold maxLen;omega,.inl rfl⟩
 ·by_cases h0:len=0
  ·subst h0
   exact⟨_,[],rfl,_,_,rfl,hl,hm,.inl rfl⟩
  ·obtain⟨b,off,spot⟩:=a
   have hs:spot=none:=by
    have h1:=hel 0 (by omega)
    rw [yon,List.getElem?_eq_getElem (by omega)]at h1
    obtain⟨cs,hc,ht⟩:=Option.bind_eq_some_iff.1 h1
    obtain⟨t,l,v,rfl⟩:=ylz ht
    have c0:=(World.cells?_some hc).2.2 0 (by omega)
    simpa [Addr.add] using World.cell?_spot c0
   subst hs
   have each:∀i,i<len→ ∃e:Em,XAt w b (off+i*3) e∧b<w.heap.size:=by
    intro i hi
    have h1:=hel i hi
    rw [yon,List.getElem?_eq_getElem (by omega),add_plain]at h1
    obtain⟨cs,hc,ht⟩:=Option.bind_eq_some_iff.1 h1
    obtain⟨t,l,v,rfl⟩:=ylz ht
    have hblk:b<w.heap.size:=World.cells?_block hc (by omega)
    obtain⟨_,_,hcell⟩:=World.cells?_some hc
    simp only [add_plain]at hcell
    exact⟨⟨t,l,v⟩,⟨hcell 0 (by omega),hcell 1 (by omega),hcell 2 (by omega)⟩,hblk⟩
   obtain⟨_,_,hblk⟩:=each 0 (by omega)
   obtain⟨l,rfl,hi⟩:=yry (w:=w) (b:=b) (off:=off) len (fun i hi=>by
    obtain⟨e,he,_⟩:=each i hi
    exact⟨e,he⟩)
   exact⟨_,l,rfl,_,_,rfl,hl,hm,.inr ⟨b,off,rfl,hblk,hi⟩⟩
theorem yk6 {H:Type} {enc:TypeId×Value→H} {w:World} {spare:Nat→Bool} {held:Bool} {fuel:Nat} {cs:List Value} {x:DataW H×List MemPlace}
  (h:DataW.trod enc Tryz.prog w 0 spare held fuel 141 cs=some x):∃(s:St) (v:Value),cs= [v,.int .i64 s.q,.int .i64 s.d]∧IsI w v s.r:=by
 obtain⟨xs,n,_,_,hl,hlen,hf⟩:=DataW.trod_struct Tryz.underlying141 h
 rw [yus]at hl
 obtain⟨c0,c1,c2,rfl⟩:=list3 hl
 have hx:xs.length=3:=by simpa using hlen
 obtain⟨y0,y1,y2,rfl⟩:=list3 hx
 have h0:=hf 0 _ rfl
 have h1:=hf 1 _ rfl
 have h2:=hf 2 _ rfl
 obtain⟨v0,l0,e0,g0⟩:=yey h0
 obtain⟨a1,e1,_,_⟩:=DataW.trod_int Tryz.underlying3 h1
 obtain⟨a2,e2,_,_⟩:=DataW.trod_int Tryz.underlying3 h2
 simp [cells3,yfb]at e0 e1 e2
 subst e0 e1 e2
 exact⟨⟨l0,a1,a2⟩,c0,rfl,g0⟩
theorem ylv {H:Type} {enc:TypeId×Value→H} {w:World} {spare:Nat→Bool} {held:Bool} {fuel:Nat} {cs:List Value} {x:DataW H×List MemPlace}
  (h:DataW.trod enc Tryz.prog w 0 spare held fuel 230 cs=some x):∃(p:Ps) (u7 u10 u11:Value),cs= [.int .i64 p.e.t,.int .i64 p.e.s,.int .i64 p.e.q,.int .i64 p.e.d,.int .i64 p.e.k,.int .i64 p.e.v,.int .i64 p.e.g,u7,.int .i64 p.b.q,.int .i64 p.b.d,u10,u11]∧IsD w u7 (yas p.b.r)∧IsD w u10 (evsD p.s)∧IsD w u11 (emsD p.x):=by
 obtain⟨xs,n,_,_,hl,hlen,hf⟩:=DataW.trod_struct Tryz.underlying230 h
 rw [yoj]at hl
 obtain⟨c0,c1,c2,c3,c4,c5,c6,c7,c8,c9,c10,c11,rfl⟩:=list12 hl
 have hx:xs.length=4:=by simpa using hlen
 obtain⟨y0,y1,y2,y3,rfl⟩:=list4p hx
 have h0:=hf 0 _ rfl
 have h1:=hf 1 _ rfl
 have h2:=hf 2 _ rfl
 have h3:=hf 3 _ rfl
 obtain⟨t,s,q,d,k,v,g,e0,_⟩:=ykr h0
 obtain⟨st,v1,e1,g1⟩:=yk6 h1
 obtain⟨v2,l2,e2,g2⟩:=yil h2
 obtain⟨v3,l3,e3,g3⟩:=yot h3
 simp [yjr,yus,yip,ypt]at e0 e1 e2 e3
 obtain⟨rfl,rfl,rfl,rfl,rfl,rfl,rfl⟩:=e0
 obtain⟨rfl,rfl,rfl⟩:=e1
 subst e2 e3
 exact⟨⟨⟨t,s,q,d,k,v,g⟩,st,l2,l3⟩,c7,c10,c11,rfl,g1.isD,g2.isD,g3.isD⟩
theorem yt1 {w:World} {b off:Nat}:∀n,(∀i,i<n→ ∃p:Ps,∀r,r<12→ ∃u,w.cell? ⟨b,off+i*12+r,none⟩=some u∧IsD w u (p.cell r))→
  ∃l:List Ps,l.length=n∧ ∀i,i<n→ ∀r,r<12→ ∃u,w.cell? ⟨b,off+i*12+r,none⟩=some u∧IsD w u ((psAt l i).cell r)
 |0,_=>⟨[],rfl,fun i hi=>by omega⟩
 |n+1,h=>by
  obtain⟨l,hl,hi⟩:=yt1 n (fun i hi=>h i (by omega))
  obtain⟨e,he⟩:=h n (by omega)
  refine⟨l++ [e],by simp [hl],fun i hi'=> ?_⟩
  by_cases hin:i<n
  ·have:psAt (l++ [e]) i=psAt l i:=by unfold psAt;simp [List.getElem?_append_left (by omega:i<l.length)]
   rw [this];exact hi i hin
  ·have:psAt (l++ [e]) i=e:=by unfold psAt;simp [show i=l.length by omega]
   rw [this,show i=n by omega];exact he
theorem yq4 {H:Type} {enc:TypeId×Value→H} {w:World} {spare:Nat→Bool} {held:Bool} {fuel:Nat} {cs:List Value} {x:DataW H×List MemPlace}
  (hf:DataW.trod enc Tryz.prog w 0 spare held fuel 142 cs=some x):∃v l,cs= [v]∧IsD w v (yaw l):=by
 rcases DataW.trod_slice Tryz.underlying142 hf with ⟨rfl,_⟩|⟨a,len,cap,elems,rest,n,_,rfl,_,hb,hl,hm,hlen,hel,_,_⟩
 ·exact⟨_,[],rfl,.nil none 0 12 _ (by unfold maxLen;omega)⟩
 ·by_cases h0:len=0
  ·subst h0
   exact⟨_,[],rfl,.nil _ _ 12 _ hm⟩
  ·obtain⟨b,off,spot⟩:=a
   have hs:spot=none:=by
    have h1:=hel 0 (by omega)
    rw [yoj,List.getElem?_eq_getElem (by omega)]at h1
    obtain⟨cs,hc,ht⟩:=Option.bind_eq_some_iff.1 h1
    obtain⟨p,u7,u10,u11,rfl,_⟩:=ylv ht
    have c0:=(World.cells?_some hc).2.2 0 (by omega)
    simpa [Addr.add] using World.cell?_spot c0
   subst hs
   have each:∀i,i<len→ ∃p:Ps,(∀r,r<12→ ∃u,w.cell? ⟨b,off+i*12+r,none⟩=some u∧IsD w u (p.cell r))∧b<w.heap.size:=by
    intro i hi
    have h1:=hel i hi
    rw [yoj,List.getElem?_eq_getElem (by omega),add_plain]at h1
    obtain⟨cs,hc,ht⟩:=Option.bind_eq_some_iff.1 h1
    obtain⟨p,u7,u10,u11,rfl,g7,g10,g11⟩:=ylv ht
    have hblk:b<w.heap.size:=World.cells?_block hc (by omega)
    obtain⟨_,_,hcell⟩:=World.cells?_some hc
    simp only [add_plain]at hcell
    refine⟨p,fun r hr=> ?_,hblk⟩
    have hcr:=hcell r hr
    match r,hr,hcr with
    |0,_,hcr=>exact⟨_,hcr,.val _⟩
    |1,_,hcr=>exact⟨_,hcr,.val _⟩
    |2,_,hcr=>exact⟨_,hcr,.val _⟩
    |3,_,hcr=>exact⟨_,hcr,.val _⟩
    |4,_,hcr=>exact⟨_,hcr,.val _⟩
    |5,_,hcr=>exact⟨_,hcr,.val _⟩
    |6,_,hcr=>exact⟨_,hcr,.val _⟩
    |7,_,hcr=>exact⟨_,hcr,g7⟩
    |8,_,hcr=>exact⟨_,hcr,.val _⟩
    |9,_,hcr=>exact⟨_,hcr,.val _⟩
    |10,_,hcr=>exact⟨_,hcr,g10⟩
    |11,_,hcr=>exact⟨_,hcr,g11⟩
   obtain⟨_,_,hblk⟩:=each 0 (by omega)
   obtain⟨l,rfl,hi⟩:=yt1 (w:=w) (b:=b) (off:=off) len (fun i hi=>by
    obtain⟨e,he,_⟩:=each i hi
    exact⟨e,he⟩)
   refine⟨_,l,rfl,IsD.of_parts hl hm (.inr ⟨b,off,rfl,hblk,fun j hj=> ?_⟩)⟩
   obtain⟨u,hu,hd⟩:=hi (j/12) (by omega) (j%12) (by omega)
   refine⟨u,?_,hd⟩
   rw [←hu]
   congr 2
   omega
set_option maxRecDepth 100000
open Go.ChangeShapes Go.WideShapes Go.ChangeAt Go.RowKit
theorem yna:Tryz.prog.cellsOf 4=1:=by kernel_rfl
theorem ylm:Tryz.prog.cellsOf 157=8:=by kernel_rfl
theorem cellsMls:Tryz.prog.cellsOf 47=1:=by kernel_rfl
theorem cellsPas:Tryz.prog.cellsOf 46=1:=by kernel_rfl
theorem yom:Tryz.prog.cellsOf 50=14:=by kernel_rfl
theorem list8k {α:Type} {l:List α} (h:l.length=8):∃a0 a1 a2 a3 a4 a5 a6 a7,l= [a0,a1,a2,a3,a4,a5,a6,a7]:=by
 match l,h with
 | [a0,a1,a2,a3,a4,a5,a6,a7],_=>exact⟨a0,a1,a2,a3,a4,a5,a6,a7,rfl⟩
theorem list2k {α:Type} {l:List α} (h:l.length=2):∃a0 a1,l= [a0,a1]:=by
 match l,h with
 | [a0,a1],_=>exact⟨a0,a1,rfl⟩
theorem list14k {α:Type} {l:List α} (h:l.length=14):∃a0 a1 a2 a3 a4 a5 a6 a7 a8 a9 a10 a11 a12 a13,l= [a0,a1,a2,a3,a4,a5,a6,a7,a8,a9,a10,a11,a12,a13]:=by
 match l,h with
 | [a0,a1,a2,a3,a4,a5,a6,a7,a8,a9,a10,a11,a12,a13],_=>exact⟨a0,a1,a2,a3,a4,a5,a6,a7,a8,a9,a10,a11,a12,a13,rfl⟩
theorem list9k {α:Type} {l:List α} (h:l.length=9):∃a0 a1 a2 a3 a4 a5 a6 a7 a8,l= [a0,a1,a2,a3,a4,a5,a6,a7,a8]:=by
 match l,h with
 | [a0,a1,a2,a3,a4,a5,a6,a7,a8],_=>exact⟨a0,a1,a2,a3,a4,a5,a6,a7,a8,rfl⟩
theorem ylx {H:Type} {enc:TypeId×Value→H} {w:World} {spare:Nat→Bool} {held:Bool} {fuel:Nat} {cs:List Value} {x:DataW H×List MemPlace}
  (h:DataW.trod enc Tryz.prog w 0 spare held fuel 157 cs=some x):∃m:Ml,cs=m.cs:=by
 obtain⟨xs,n,_,_,hl,hlen,hf⟩:=DataW.trod_struct Tryz.underlying157 h
 rw [ylm]at hl
 obtain⟨c0,c1,c2,c3,c4,c5,c6,c7,rfl⟩:=list8k hl
 have hx:xs.length=2:=by simpa using hlen
 obtain⟨y0,y1,rfl⟩:=list2k hx
 have h0:=hf 0 _ rfl
 have h1:=hf 1 _ rfl
 obtain⟨t,s,q,d,k,v,g,e0,_⟩:=ykr h0
 obtain⟨a1,e1,_⟩:=DataW.trod_bool Tryz.underlying4 h1
 simp [yjr,yna]at e0 e1
 obtain⟨rfl,rfl,rfl,rfl,rfl,rfl,rfl⟩:=e0
 subst e1
 exact⟨⟨⟨t,s,q,d,k,v,g⟩,a1⟩,rfl⟩
theorem yth {w:World} {b off:Nat}:∀n,(∀i,i<n→ ∃e:Ml,MlAt w b (off+i*8) e)→ ∃l:List Ml,l.length=n∧ ∀i,i<n→MlAt w b (off+i*8) (mlAt l i)
 |0,_=>⟨[],rfl,fun i hi=>by omega⟩
 |n+1,h=>by
  obtain⟨l,hl,hi⟩:=yth n (fun i hi=>h i (by omega))
  obtain⟨e,he⟩:=h n (by omega)
  refine⟨l++ [e],by simp [hl],fun i hi'=> ?_⟩
  by_cases hin:i<n
  ·have:mlAt (l++ [e]) i=mlAt l i:=by unfold mlAt;simp [List.getElem?_append_left (by omega:i<l.length)]
   rw [this];exact hi i hin
  ·have:mlAt (l++ [e]) i=e:=by unfold mlAt;simp [show i=l.length by omega]
   rw [this,show i=n by omega];exact he
theorem yq6 {H:Type} {enc:TypeId×Value→H} {w:World} {spare:Nat→Bool} {held:Bool} {fuel:Nat} {cs:List Value} {x:DataW H×List MemPlace}
  (hf:DataW.trod enc Tryz.prog w 0 spare held fuel 47 cs=some x):∃v l,cs= [v]∧IsMl w v l:=by
 rcases DataW.trod_slice Tryz.underlying47 hf with ⟨rfl,_⟩|⟨a,len,cap,elems,rest,n,_,rfl,_,hb,hl,hm,hlen,hel,_,_⟩
 ·exact⟨_,[],rfl,none,0,rfl,Nat.le_refl _,by unfold maxLen;omega,.inl rfl⟩
 ·by_cases h0:len=0
  ·subst h0
   exact⟨_,[],rfl,_,_,rfl,hl,hm,.inl rfl⟩
  ·obtain⟨b,off,spot⟩:=a
   have hs:spot=none:=by
    have h1:=hel 0 (by omega)
    rw [ylm,List.getElem?_eq_getElem (by omega)]at h1
    obtain⟨cs,hc,ht⟩:=Option.bind_eq_some_iff.1 h1
    obtain⟨m,rfl⟩:=ylx ht
    have c0:=(World.cells?_some hc).2.2 0 (by omega)
    simpa [Addr.add] using World.cell?_spot c0
   subst hs
   have each:∀i,i<len→ ∃e:Ml,MlAt w b (off+i*8) e∧b<w.heap.size:=by
    intro i hi
    have h1:=hel i hi
    rw [ylm,List.getElem?_eq_getElem (by omega),add_plain]at h1
    obtain⟨cs,hc,ht⟩:=Option.bind_eq_some_iff.1 h1
    obtain⟨m,rfl⟩:=ylx ht
    have hblk:b<w.heap.size:=World.cells?_block hc (by omega)
    obtain⟨_,_,hcell⟩:=World.cells?_some hc
    simp only [add_plain]at hcell
    exact⟨m,⟨hcell 0 (by omega),hcell 1 (by omega),hcell 2 (by omega),hcell 3 (by omega),hcell 4 (by omega),hcell 5 (by omega),hcell 6 (by omega),hcell 7 (by omega)⟩,hblk⟩
   obtain⟨_,_,hblk⟩:=each 0 (by omega)
   obtain⟨l,rfl,hi⟩:=yth (w:=w) (b:=b) (off:=off) len (fun i hi=>by
    obtain⟨e,he,_⟩:=each i hi
    exact⟨e,he⟩)
   exact⟨_,l,rfl,_,_,rfl,hl,hm,.inr ⟨b,off,rfl,hblk,hi⟩⟩
theorem ylw {H:Type} {enc:TypeId×Value→H} {w:World} {spare:Nat→Bool} {held:Bool} {fuel:Nat} {cs:List Value} {x:DataW H×List MemPlace}
  (h:DataW.trod enc Tryz.prog w 0 spare held fuel 144 cs=some x):∃(p:Pa) (u1 u4 u5 u6:Value),cs= [.int .i64 p.n,u1,.int .i64 p.st.q,.int .i64 p.st.d,u4,u5,u6]∧IsD w u1 (yas p.st.r)∧IsD w u4 (yaw p.p)∧IsD w u5 (evsD p.t)∧IsD w u6 (yas p.a):=by
 obtain⟨xs,n,_,_,hl,hlen,hf⟩:=DataW.trod_struct Tryz.underlying144 h
 rw [yok]at hl
 obtain⟨c0,c1,c2,c3,c4,c5,c6,rfl⟩:=list7p hl
 have hx:xs.length=5:=by simpa using hlen
 obtain⟨y0,y1,y2,y3,y4,rfl⟩:=list5 hx
 have h0:=hf 0 _ rfl
 have h1:=hf 1 _ rfl
 have h2:=hf 2 _ rfl
 have h3:=hf 3 _ rfl
 have h4:=hf 4 _ rfl
 obtain⟨a0,e0,_,_⟩:=DataW.trod_int Tryz.underlying3 h0
 obtain⟨st,v1,e1,g1⟩:=yk6 h1
 obtain⟨v2,l2,e2,g2⟩:=yq4 h2
 obtain⟨v3,l3,e3,g3⟩:=yil h3
 obtain⟨v4,l4,e4,g4⟩:=yey h4
 simp [cells3,yus,cellsPss,yip,yfb]at e0 e1 e2 e3 e4
 obtain⟨rfl,rfl,rfl⟩:=e1
 subst e0 e2 e3 e4
 exact⟨⟨a0,st,l2,l3,l4⟩,c1,c4,c5,c6,rfl,g1.isD,g2,g3.isD,g4.isD⟩
theorem yt7 {w:World} {b off:Nat}:∀n,(∀i,i<n→ ∃p:Pa,∀r,r<7→ ∃u,w.cell? ⟨b,off+i*7+r,none⟩=some u∧IsD w u (p.cell r))→
  ∃l:List Pa,l.length=n∧ ∀i,i<n→ ∀r,r<7→ ∃u,w.cell? ⟨b,off+i*7+r,none⟩=some u∧IsD w u ((paAt l i).cell r)
 |0,_=>⟨[],rfl,fun i hi=>by omega⟩
 |n+1,h=>by
  obtain⟨l,hl,hi⟩:=yt7 n (fun i hi=>h i (by omega))
  obtain⟨e,he⟩:=h n (by omega)
  refine⟨l++ [e],by simp [hl],fun i hi'=> ?_⟩
  by_cases hin:i<n
  ·have:paAt (l++ [e]) i=paAt l i:=by unfold paAt;simp [List.getElem?_append_left (by omega:i<l.length)]
   rw [this];exact hi i hin
  ·have:paAt (l++ [e]) i=e:=by unfold paAt;simp [show i=l.length by omega]
   rw [this,show i=n by omega];exact he
theorem yq5 {H:Type} {enc:TypeId×Value→H} {w:World} {spare:Nat→Bool} {held:Bool} {fuel:Nat} {cs:List Value} {x:DataW H×List MemPlace}
  (hf:DataW.trod enc Tryz.prog w 0 spare held fuel 46 cs=some x):∃v l,cs= [v]∧IsD w v (ybb l):=by
 rcases DataW.trod_slice Tryz.underlying46 hf with ⟨rfl,_⟩|⟨a,len,cap,elems,rest,n,_,rfl,_,hb,hl,hm,hlen,hel,_,_⟩
 ·exact⟨_,[],rfl,.nil none 0 7 _ (by unfold maxLen;omega)⟩
 ·by_cases h0:len=0
  ·subst h0
   exact⟨_,[],rfl,.nil _ _ 7 _ hm⟩
  ·obtain⟨b,off,spot⟩:=a
   have hs:spot=none:=by
    have h1:=hel 0 (by omega)
    rw [yok,List.getElem?_eq_getElem (by omega)]at h1
    obtain⟨cs,hc,ht⟩:=Option.bind_eq_some_iff.1 h1
    obtain⟨p,u1,u4,u5,u6,rfl,_⟩:=ylw ht
    have c0:=(World.cells?_some hc).2.2 0 (by omega)
    simpa [Addr.add] using World.cell?_spot c0
   subst hs
   have each:∀i,i<len→ ∃p:Pa,(∀r,r<7→ ∃u,w.cell? ⟨b,off+i*7+r,none⟩=some u∧IsD w u (p.cell r))∧b<w.heap.size:=by
    intro i hi
    have h1:=hel i hi
    rw [yok,List.getElem?_eq_getElem (by omega),add_plain]at h1
    obtain⟨cs,hc,ht⟩:=Option.bind_eq_some_iff.1 h1
    obtain⟨p,u1,u4,u5,u6,rfl,g1,g4,g5,g6⟩:=ylw ht
    have hblk:b<w.heap.size:=World.cells?_block hc (by omega)
    obtain⟨_,_,hcell⟩:=World.cells?_some hc
    simp only [add_plain]at hcell
    refine⟨p,fun r hr=> ?_,hblk⟩
    have hcr:=hcell r hr
    match r,hr,hcr with
    |0,_,hcr=>exact⟨_,hcr,.val _⟩
    |1,_,hcr=>exact⟨_,hcr,g1⟩
    |2,_,hcr=>exact⟨_,hcr,.val _⟩
    |3,_,hcr=>exact⟨_,hcr,.val _⟩
    |4,_,hcr=>exact⟨_,hcr,g4⟩
    |5,_,hcr=>exact⟨_,hcr,g5⟩
    |6,_,hcr=>exact⟨_,hcr,g6⟩
   obtain⟨_,_,hblk⟩:=each 0 (by omega)
   obtain⟨l,rfl,hi⟩:=yt7 (w:=w) (b:=b) (off:=off) len (fun i hi=>by
    obtain⟨e,he,_⟩:=each i hi
    exact⟨e,he⟩)
   refine⟨_,l,rfl,IsD.of_parts hl hm (.inr ⟨b,off,rfl,hblk,fun j hj=> ?_⟩)⟩
   obtain⟨u,hu,hd⟩:=hi (j/7) (by omega) (j%7) (by omega)
   refine⟨u,?_,hd⟩
   rw [←hu]
   congr 2
   omega
theorem yk7 {H:Type} {enc:TypeId×Value→H} {w:World} {spare:Nat→Bool} {held:Bool} {fuel:Nat} {cs:List Value} {x:DataW H×List MemPlace}
  (h:DataW.trod enc Tryz.prog w 0 spare held fuel 26 cs=some x):∃(m:Md) (vi vh vs:Value),cs= [.int .i64 m.n,.int .i64 m.s,vi,vh,vs,.int .i64 m.z]∧IsI w vi m.i∧IsH w vh m.h∧IsEvs w vs m.e:=by
 obtain⟨xs,n,_,_,hl,hlen,hf⟩:=DataW.trod_struct Tryz.underlying26 h
 rw [yuu]at hl
 obtain⟨c0,c1,c2,c3,c4,c5,rfl⟩:=list6 hl
 have hx:xs.length=6:=by simpa using hlen
 obtain⟨y0,y1,y2,y3,y4,y5,rfl⟩:=list6 hx
 have h0:=hf 0 _ rfl
 have h1:=hf 1 _ rfl
 have h2:=hf 2 _ rfl
 have h3:=hf 3 _ rfl
 have h4:=hf 4 _ rfl
 have h5:=hf 5 _ rfl
 obtain⟨a0,e0,_,_⟩:=DataW.trod_int Tryz.underlying3 h0
 obtain⟨a1,e1,_,_⟩:=DataW.trod_int Tryz.underlying3 h1
 obtain⟨v2,l2,e2,g2⟩:=yey h2
 obtain⟨v3,l3,e3,g3⟩:=trod_hs h3
 obtain⟨v4,l4,e4,g4⟩:=yil h4
 obtain⟨a5,e5,_,_⟩:=DataW.trod_int Tryz.underlying3 h5
 simp [cells3,yfb,yut,yip]at e0 e1 e2 e3 e4 e5
 subst e0 e1 e2 e3 e4 e5
 exact⟨⟨a0,a1,l2,l3,l4,a5⟩,c2,c3,c4,rfl,g2,g3,g4⟩
set_option maxRecDepth 100000
open Go.ChangeShapes Go.WideShapes Go.ChangeAt Go.RowKit
theorem cellsKns:Tryz.prog.cellsOf 27=1:=by kernel_rfl
theorem cellsVcs:Tryz.prog.cellsOf 28=1:=by kernel_rfl
theorem cellsWd:Tryz.prog.cellsOf 30=8:=by kernel_rfl
theorem list3k {α:Type} {l:List α} (h:l.length=3):∃a0 a1 a2,l= [a0,a1,a2]:=by
 match l,h with
 | [a0,a1,a2],_=>exact⟨a0,a1,a2,rfl⟩
theorem yir {H:Type} {enc:TypeId×Value→H} {w:World} {spare:Nat→Bool} {held:Bool} {fuel:Nat} {cs:List Value} {x:DataW H×List MemPlace}
  (h:DataW.trod enc Tryz.prog w 0 spare held fuel 50 cs=some x):∃(k:Kn) (vi vh vs u6 u7 u8 u12 u13:Value),cs= [.int .i64 k.m.n,.int .i64 k.m.s,vi,vh,vs,.int .i64 k.m.z,u6,u7,u8,.int .i64 k.t,.int .i64 k.q,.bool k.f,u12,u13]∧IsKern w (.agg #[.int .i64 k.m.n,.int .i64 k.m.s,vi,vh,vs,.int .i64 k.m.z,u6,u7,u8,.int .i64 k.t,.int .i64 k.q,.bool k.f,u12,u13]) k:=by
 obtain⟨xs,n,_,_,hl,hlen,hf⟩:=DataW.trod_struct Tryz.underlying50 h
 rw [yom]at hl
 obtain⟨c0,c1,c2,c3,c4,c5,c6,c7,c8,c9,c10,c11,c12,c13,rfl⟩:=list14k hl
 have hx:xs.length=9:=by simpa using hlen
 obtain⟨y0,y1,y2,y3,y4,y5,y6,y7,y8,rfl⟩:=list9k hx
 have h0:=hf 0 _ rfl
 have h1:=hf 1 _ rfl
 have h2:=hf 2 _ rfl
 have h3:=hf 3 _ rfl
 have h4:=hf 4 _ rfl
 have h5:=hf 5 _ rfl
 have h6:=hf 6 _ rfl
 have h7:=hf 7 _ rfl
 have h8:=hf 8 _ rfl
 obtain⟨m,vi,vh,vs,e0,gi,gh,ge⟩:=yk7 h0
 obtain⟨v1,l1,e1,g1⟩:=yey h1
 obtain⟨v2,l2,e2,g2⟩:=yq5 h2
 obtain⟨v3,l3,e3,g3⟩:=yq6 h3
 obtain⟨a4,e4,_,_⟩:=DataW.trod_int Tryz.underlying3 h4
 obtain⟨a5,e5,_,_⟩:=DataW.trod_int Tryz.underlying3 h5
 obtain⟨a6,e6,_⟩:=DataW.trod_bool Tryz.underlying4 h6
 obtain⟨v7,l7,e7,g7⟩:=yil h7
 obtain⟨v8,l8,e8,g8⟩:=yot h8
 simp [cells3,yuu,yfb,cellsPas,cellsMls,yna,yip,ypt]at e0 e1 e2 e3 e4 e5 e6 e7 e8
 obtain⟨rfl,rfl,rfl,rfl,rfl,rfl⟩:=e0
 subst e1 e2 e3 e4 e5 e6 e7 e8
 exact⟨⟨m,l1,l2,l3,a4,a5,a6,l7,l8⟩,c2,c3,c4,c6,c7,c8,c12,c13,rfl,c2,c3,c4,c6,c7,c8,c12,c13,rfl,⟨_,_,_,rfl,gi,gh,ge⟩,g1.isD,g2,g3.isD,g7.isD,g8.isD⟩
theorem ytp {w:World} {b off:Nat}:∀n,(∀i,i<n→ ∃k:Kn,KAt w b (off+i*14) k)→ ∃l:List Kn,l.length=n∧ ∀i,i<n→KAt w b (off+i*14) (knAt l i)
 |0,_=>⟨[],rfl,fun i hi=>by omega⟩
 |n+1,h=>by
  obtain⟨l,hl,hi⟩:=ytp n (fun i hi=>h i (by omega))
  obtain⟨e,he⟩:=h n (by omega)
  refine⟨l++ [e],by simp [hl],fun i hi'=> ?_⟩
  by_cases hin:i<n
  ·have:knAt (l++ [e]) i=knAt l i:=by unfold knAt;simp [List.getElem?_append_left (by omega:i<l.length)]
   rw [this];exact hi i hin
  ·have:knAt (l++ [e]) i=e:=by unfold knAt;simp [show i=l.length by omega]
   rw [this,show i=n by omega];exact he
theorem v_list {w:World} {b off:Nat}:∀n,(∀i,i<n→ ∃(u:Value) (d:List Int),w.cell? ⟨b,off+i,none⟩=some u∧IsI w u d)→ ∃l:List (List Int),l.length=n∧ ∀i,i<n→ ∃u,w.cell? ⟨b,off+i,none⟩=some u∧IsI w u (vAt l i)
 |0,_=>⟨[],rfl,fun i hi=>by omega⟩
 |n+1,h=>by
  obtain⟨l,hl,hi⟩:=v_list n (fun i hi=>h i (by omega))
  obtain⟨u,e,hu,he⟩:=h n (by omega)
  refine⟨l++ [e],by simp [hl],fun i hi'=> ?_⟩
  by_cases hin:i<n
  ·have:vAt (l++ [e]) i=vAt l i:=by unfold vAt;simp [List.getElem?_append_left (by omega:i<l.length)]
   rw [this];exact hi i hin
  ·have:vAt (l++ [e]) i=e:=by unfold vAt;simp [show i=l.length by omega]
   rw [this,show i=n by omega];exact⟨u,hu,he⟩
theorem yly {H:Type} {enc:TypeId×Value→H} {w:World} {spare:Nat→Bool} {held:Bool} {fuel:Nat} {cs:List Value} {x:DataW H×List MemPlace}
  (hf:DataW.trod enc Tryz.prog w 0 spare held fuel 27 cs=some x):∃v l,cs= [v]∧IsKs w v l:=by
 rcases DataW.trod_slice Tryz.underlying27 hf with ⟨rfl,_⟩|⟨a,len,cap,elems,rest,n,_,rfl,_,hb,hl,hm,hlen,hel,_,_⟩
 ·exact⟨_,[],rfl,none,0,rfl,Nat.le_refl _,by unfold maxLen;omega,.inl rfl⟩
 ·by_cases h0:len=0
  ·subst h0
   exact⟨_,[],rfl,_,_,rfl,hl,hm,.inl rfl⟩
  ·obtain⟨b,off,spot⟩:=a
   have hs:spot=none:=by
    have h1:=hel 0 (by omega)
    rw [yom,List.getElem?_eq_getElem (by omega)]at h1
    obtain⟨cs,hc,ht⟩:=Option.bind_eq_some_iff.1 h1
    obtain⟨k,vi,vh,vs,u6,u7,u8,u12,u13,rfl,_⟩:=yir ht
    have c0:=(World.cells?_some hc).2.2 0 (by omega)
    simpa [Addr.add] using World.cell?_spot c0
   subst hs
   have each:∀i,i<len→ ∃k:Kn,KAt w b (off+i*14) k∧b<w.heap.size:=by
    intro i hi
    have h1:=hel i hi
    rw [yom,List.getElem?_eq_getElem (by omega),add_plain]at h1
    obtain⟨cs,hc,ht⟩:=Option.bind_eq_some_iff.1 h1
    obtain⟨k,vi,vh,vs,u6,u7,u8,u12,u13,rfl,hk⟩:=yir ht
    have hblk:b<w.heap.size:=World.cells?_block hc (by omega)
    obtain⟨_,_,hcell⟩:=World.cells?_some hc
    simp only [add_plain]at hcell
    exact⟨k,⟨vi,vh,vs,u6,u7,u8,u12,u13,⟨hcell 0 (by omega),hcell 1 (by omega),hcell 2 (by omega),hcell 3 (by omega),hcell 4 (by omega),hcell 5 (by omega),hcell 6 (by omega),hcell 7 (by omega),hcell 8 (by omega),hcell 9 (by omega),hcell 10 (by omega),hcell 11 (by omega),hcell 12 (by omega),hcell 13 (by omega)⟩,hk⟩,hblk⟩
   obtain⟨_,_,hblk⟩:=each 0 (by omega)
   obtain⟨l,rfl,hi⟩:=ytp (w:=w) (b:=b) (off:=off) len (fun i hi=>by
    obtain⟨e,he,_⟩:=each i hi
    exact⟨e,he⟩)
   exact⟨_,l,rfl,_,_,rfl,hl,hm,.inr ⟨b,off,rfl,hblk,hi⟩⟩
theorem ys6 {H:Type} {enc:TypeId×Value→H} {w:World} {spare:Nat→Bool} {held:Bool} {fuel:Nat} {cs:List Value} {x:DataW H×List MemPlace}
  (hf:DataW.trod enc Tryz.prog w 0 spare held fuel 28 cs=some x):∃v l,cs= [v]∧IsD w v (yce l):=by
 rcases DataW.trod_slice Tryz.underlying28 hf with ⟨rfl,_⟩|⟨a,len,cap,elems,rest,n,_,rfl,_,hb,hl,hm,hlen,hel,_,_⟩
 ·exact⟨_,[],rfl,.nil none 0 1 _ (by unfold maxLen;omega)⟩
 ·by_cases h0:len=0
  ·subst h0
   exact⟨_,[],rfl,.nil _ _ 1 _ hm⟩
  ·obtain⟨b,off,spot⟩:=a
   have hs:spot=none:=by
    have h1:=hel 0 (by omega)
    rw [yfb,List.getElem?_eq_getElem (by omega)]at h1
    obtain⟨cs,hc,ht⟩:=Option.bind_eq_some_iff.1 h1
    obtain⟨v,l,rfl,_⟩:=yey ht
    have c0:=(World.cells?_some hc).2.2 0 (by omega)
    simpa [Addr.add] using World.cell?_spot c0
   subst hs
   have each:∀i,i<len→ ∃(u:Value) (l:List Int),(w.cell? ⟨b,off+i,none⟩=some u∧IsI w u l)∧b<w.heap.size:=by
    intro i hi
    have h1:=hel i hi
    rw [yfb,List.getElem?_eq_getElem (by omega),add_plain]at h1
    obtain⟨cs,hc,ht⟩:=Option.bind_eq_some_iff.1 h1
    obtain⟨v,l,rfl,hv⟩:=yey ht
    have hblk:b<w.heap.size:=World.cells?_block hc (by omega)
    obtain⟨_,_,hcell⟩:=World.cells?_some hc
    have h2:=hcell 0 (by omega)
    simp only [add_plain]at h2
    exact⟨v,l,⟨by simpa using h2,hv⟩,hblk⟩
   obtain⟨_,_,_,hblk⟩:=each 0 (by omega)
   obtain⟨l,rfl,hi⟩:=v_list (w:=w) (b:=b) (off:=off) len (fun i hi=>by
    obtain⟨u,l,he,_⟩:=each i hi
    exact⟨u,l,he⟩)
   refine⟨_,l,rfl,IsD.of_parts hl hm (.inr ⟨b,off,rfl,hblk,fun j hj=> ?_⟩)⟩
   obtain⟨u,hu,hd⟩:=hi j (by omega)
   exact⟨u,hu,hd.isD⟩
theorem yqz {H:Type} {enc:TypeId×Value→H} {w:World} {b0:Nat} {spare:Nat→Bool} {held:Bool} {r:Reach} {v:Value} {d:DataW H} {p:List MemPlace}
  (hv:Value.okWide Tryz.prog w r b0 30 v) (h:DataW.Trod enc Tryz.prog w 0 spare held 30 v d p):∃k:Wd,IsW w v k:=by
 obtain⟨cs,rfl,hsz⟩:=okWide_struct Tryz.underlying30 hv
 obtain⟨fuel,hf⟩:=h
 obtain⟨xs,n,_,_,hl,hlen,hf⟩:=DataW.trod_struct Tryz.underlying30 hf
 rw [cellsWd]at hl
 obtain⟨c0,c1,c2,c3,c4,c5,c6,c7,hcs⟩:=list8k hl
 have hx:xs.length=3:=by simpa using hlen
 obtain⟨y0,y1,y2,rfl⟩:=list3k hx
 rw [hcs]at hf
 have h0:=hf 0 _ rfl
 have h1:=hf 1 _ rfl
 have h2:=hf 2 _ rfl
 obtain⟨m,vi,vh,vs,e0,gi,gh,ge⟩:=yk7 h0
 obtain⟨v1,l1,e1,g1⟩:=yly h1
 obtain⟨v2,l2,e2,g2⟩:=ys6 h2
 simp [yuu,cellsKns,cellsVcs]at e0 e1 e2
 obtain⟨rfl,rfl,rfl,rfl,rfl,rfl⟩:=e0
 subst e1 e2
 refine⟨⟨m,l1,l2⟩,c2,c3,c4,c6,c7,?_,⟨_,_,_,rfl,gi,gh,ge⟩,g1,g2⟩
 rw [show cs= #[.int .i64 m.n,.int .i64 m.s,c2,c3,c4,.int .i64 m.z,c6,c7]from by
  apply Array.toList_inj.1
  simpa [Value.cells] using hcs]
end Go.Proofs.YtmobiieoecjmdaaGreat

/- At every argument the program's Table answers as the specification's, its answer owns its memory, and it writes into nothing that it is given; no condition. -/
namespace Go.Proofs.YtmobiieoecjmdaaGreat.LawExactTable
open Go.ChangeShapes Go.WideShapes Go.ChangeAt Go.RowKit Go.Proofs.YtmobiieoecjmdaaGreat
theorem ya2 {p:Prop} (h:p):Hid p:=h
theorem yuo (k:Kn):SmallH (comH k):=by
 unfold comH
 split
 case isFalse=>exact⟨Nat.zero_le _,Nat.zero_le _⟩
 case isTrue h=>
  have h1:=(kern_iff.1 h).1
  have h2:=yl0 h (pre:=comL k) (t:= []) (by simp)
  have h3:=yks h (pre:=comL k) (t:= []) (by simp)
  refine⟨?_,by show(ydn k (comL k)).length≤_;omega⟩
  show(k.s++ydi (comL k)).length≤_
  rw [List.length_append,ydi,List.length_map]
  omega
theorem yv3 (v:Wd) (i:Int):SmallH (tabA v i):=by
 unfold tabA
 split
 ·exact yuo _
 ·exact⟨Nat.zero_le _,Nat.zero_le _⟩
set_option maxRecDepth 100000 in
set_option maxHeartbeats 64000000 in
theorem walk (x:Value) (v:Wd) (i:Int) (w:World) (hx:IsW w x v) (_h1:wfI i):
  Calls Tryz.prog 7 #[x,.int .i64 i] w fun e w'=>e= .returned (.bool true)∧Below w.heap.size w w':=by
 haveI:Inhabited PsF:=Classical.inhabited_of_nonempty psF_some
 have HX:Hid (IsW w x v):=hx
 obtain⟨vi,vh,vs,uk,uc,rfl,_⟩:=hx
 clear _h1
 obtain⟨W0,hW0⟩:∃W0,w.alloc (.cells #[.int .i64 v.m.n,.int .i64 v.m.s,vi,vh,vs,.int .i64 v.m.z,uk,uc] 30)=W0:=⟨_,rfl⟩
 have HB_W0:=hdq (beA hW0)
 have HP_W0:=hdq (bkA hW0)
 have hV0:w.heap.size<W0.heap.size:=HP_W0.out.lt
 obtain⟨p0,p1,p2,p3,p4,p5,p6,p7⟩:=c8_8 HP_W0.out
 go_enter Tryz.func7,Tryz.ntmps7
 go_wp2_with fail
 clear hW0
 clear p0 p1 p2 p3 p4 p5 p6 p7
 refine(ysb _ v _ _ (by omega) (by omega) (HX.out.under HB_W0.out)).mono ?_
 rintro r w1 ⟨⟨r1,rfl,hr⟩,hb⟩
 have z_w1:W0.heap.size≤w1.heap.size:=hb.size
 have HB_w1:=ya2 (trm HB_W0.out hb)
 have HP_w1:=ya2 (HP_W0.out.below hb)
 clear HB_W0 HP_W0
 clear hb
 rcases hr with rfl|⟨hr0,hr9⟩
 case inl=>
  go_wp2
  go_ret
  exact⟨rfl,HB_w1.out⟩
 have hr1:¬(r1<0):=by omega
 have hwd:wdW v≤1048576:=by omega
 have HSM:Hid (ycs v):=(ykp hwd).1
 have HTY:Hid (TinyW v):=(ykp hwd).2
 have HMK:Hid (1≤yj8 v∧yj8 v≤1073741824):=(by have:=yiu (ykp hwd).2;omega:1≤yj8 v∧yj8 v≤1073741824)
 clear hr9 hwd
 have HC:Hid (∃R b,SmallH R∧(∀(v0:Value) (W:World),IsW W v0 v→Calls Tryz.prog 34 #[v0,.int .i64 i] W fun r w'=>∃u,r= .returned (.tuple #[u,.bool b])∧HiF (fun q=>W.heap.size≤q∧q<w'.heap.size) w' u R∧Below W.heap.size W w')∧(∀(v0:Value) (W:World),IsW W v0 v→Calls Tryz.prog 35 #[v0,.int .i64 i] W fun r w'=>∃u,r= .returned (.tuple #[u,.bool b])∧HiF (fun q=>W.heap.size≤q∧q<w'.heap.size) w' u R∧Below W.heap.size W w')):=⟨tabA v i,v.ok&&(decide (0≤i)&&decide (i<v.k.length)),yv3 v i,fun v0 W h0=>sTable v0 v i W HSM.out h0,fun v0 W h0=>iTable v0 v i W HSM.out h0⟩
 obtain⟨R,b,hq,hsp,him⟩:=HC.out
 have HSP:=ya2 hsp
 have HIM:=ya2 him
 have HE:Hid (SmallH R):=hq
 clear HC hsp him hq
 obtain⟨p0,p1,p2,p3,p4,p5,p6,p7⟩:=c8_8 HP_w1.out
 go_wp2_with fail
 clear p0 p1 p2 p3 p4 p5 p6 p7
 refine(yfc _ v _ HSM.out (HX.out.under HB_w1.out)).mono ?_
 rintro r w2 ⟨ya,rfl,hb,hr⟩
 have z_w2:w1.heap.size≤w2.heap.size:=hb.size
 have HB_w2:=ya2 (trm HB_w1.out hb)
 have HP_w2:=ya2 (HP_w1.out.below hb)
 clear HB_w1 HP_w1
 have HA_w2:=ya2 hr
 clear hb hr
 go_wp2_with fail
 refine(HSP.out _ _ HA_w2.out.is).mono ?_
 rintro r w3 ⟨uo,rfl,hr,hb⟩
 obtain⟨gao,gco,hao,hco,rfl⟩:=HiF.form hr
 have z_w3:w2.heap.size≤w3.heap.size:=hb.size
 have HB_w3:=ya2 (trm HB_w2.out hb)
 have HP_w3:=ya2 (HP_w2.out.below hb)
 have HA_w3:=ya2 (HA_w2.out.below hb)
 clear HB_w2 HP_w2 HA_w2
 have HS_w3:=ya2 hr
 clear hb hr
 obtain⟨Vw3,hVw3⟩:∃V,w3.alloc (.cells #[.slice gao R.ev.length gco,.slice hao R.em.length hco,.int .i64 R.k,.bool R.f] 62)=V:=⟨_,rfl⟩
 have BHSb:=bkA hVw3
 have hb:=beA hVw3
 have y_Vw3:w3.heap.size<Vw3.heap.size:=BHSb.lt
 have z_Vw3:w3.heap.size≤Vw3.heap.size:=hb.size
 have HB_Vw3:=ya2 (trm HB_w3.out hb)
 have HP_Vw3:=ya2 (HP_w3.out.below hb)
 have HA_Vw3:=ya2 (HA_w3.out.below hb)
 have HS_Vw3:=ya2 (HS_w3.out.below hb)
 clear HB_w3 HP_w3 HA_w3 HS_w3
 clear hb
 have HSb_Vw3:=ya2 BHSb
 clear BHSb
 clear HA_Vw3
 clear HSP
 obtain⟨p0,p1,p2,p3,p4,p5,p6,p7⟩:=c8_8 HP_Vw3.out
 go_wp2_with fail
 clear hVw3
 clear p0 p1 p2 p3 p4 p5 p6 p7
 refine(yfc _ v _ HSM.out (HX.out.under HB_Vw3.out)).mono ?_
 rintro r w4 ⟨y1,rfl,hb,hr⟩
 have z_w4:Vw3.heap.size≤w4.heap.size:=hb.size
 have HB_w4:=ya2 (trm HB_Vw3.out hb)
 have HP_w4:=ya2 (HP_Vw3.out.below hb)
 have HS_w4:=ya2 (HS_Vw3.out.below hb)
 have HSb_w4:=ya2 (HSb_Vw3.out.below hb)
 clear HB_Vw3 HP_Vw3 HS_Vw3 HSb_Vw3
 have HR_w4:=ya2 hr
 clear hb hr
 obtain⟨kau,kbu,kcu,kdu,keu,kfu,kgu,khu,kiu,kju,rfl⟩:=HR_w4.out.form
 obtain⟨Vw4,hVw4⟩:∃V,w4.alloc (.cells #[.int .i64 v.m.n,.int .i64 v.m.s,.slice kau v.m.i.length kbu,.slice kcu v.m.h.length kdu,.slice keu v.m.e.length kfu,.int .i64 v.m.z,.slice kgu v.k.length khu,.slice kiu v.c.length kju] 39)=V:=⟨_,rfl⟩
 have BHX0:=bkA hVw4
 have hb:=beA hVw4
 have y_Vw4:w4.heap.size<Vw4.heap.size:=BHX0.lt
 have z_Vw4:w4.heap.size≤Vw4.heap.size:=hb.size
 have HB_Vw4:=ya2 (trm HB_w4.out hb)
 have HP_Vw4:=ya2 (HP_w4.out.below hb)
 have HS_Vw4:=ya2 (HS_w4.out.below hb)
 have HSb_Vw4:=ya2 (HSb_w4.out.below hb)
 have HR_Vw4:=ya2 (HR_w4.out.below hb)
 clear HB_w4 HP_w4 HS_w4 HSb_w4 HR_w4
 clear hb
 have HX0_Vw4:=ya2 BHX0
 clear BHX0
 obtain⟨r0,r1,r2,r3,r4,r5,r6,r7⟩:=c8_8 HX0_Vw4.out
 go_wp2_with fail
 clear hVw4
 refine(HIM.out _ _ HR_Vw4.out.is).mono ?_
 rintro r w5 ⟨ug,rfl,hr,hb⟩
 obtain⟨gag,gcg,hag,hcg,rfl⟩:=HiF.form hr
 have z_w5:Vw4.heap.size≤w5.heap.size:=hb.size
 have HB_w5:=ya2 (trm HB_Vw4.out hb)
 have HP_w5:=ya2 (HP_Vw4.out.below hb)
 have HS_w5:=ya2 (HS_Vw4.out.below hb)
 have HSb_w5:=ya2 (HSb_Vw4.out.below hb)
 have HR_w5:=ya2 (HR_Vw4.out.below hb)
 have HX0_w5:=ya2 (HX0_Vw4.out.below hb)
 clear HB_Vw4 HP_Vw4 HS_Vw4 HSb_Vw4 HR_Vw4 HX0_Vw4
 have HG_w5:=ya2 hr
 clear hb hr
 obtain⟨Vw5,hVw5⟩:∃V,w5.alloc (.cells #[.slice gag R.ev.length gcg,.slice hag R.em.length hcg,.int .i64 R.k,.bool R.f] 62)=V:=⟨_,rfl⟩
 have BHGb:=bkA hVw5
 have hb:=beA hVw5
 have y_Vw5:w5.heap.size<Vw5.heap.size:=BHGb.lt
 have z_Vw5:w5.heap.size≤Vw5.heap.size:=hb.size
 have HB_Vw5:=ya2 (trm HB_w5.out hb)
 have HP_Vw5:=ya2 (HP_w5.out.below hb)
 have HS_Vw5:=ya2 (HS_w5.out.below hb)
 have HSb_Vw5:=ya2 (HSb_w5.out.below hb)
 have HR_Vw5:=ya2 (HR_w5.out.below hb)
 have HX0_Vw5:=ya2 (HX0_w5.out.below hb)
 have HG_Vw5:=ya2 (HG_w5.out.below hb)
 clear HB_w5 HP_w5 HS_w5 HSb_w5 HR_w5 HX0_w5 HG_w5
 clear hb
 have HGb_Vw5:=ya2 BHGb
 clear BHGb
 clear r0 r1 r2 r3 r4 r5 r6 r7
 obtain⟨g0,g1,g2,g3⟩:=c4_4 HGb_Vw5.out
 obtain⟨t0,t1,t2,t3⟩:=c4_4 HSb_Vw5.out
 go_wp2_with fail
 clear hVw5
 clear g0 g1 g2 g3
 clear t0 t1 t2 t3
 refine(yex _ _ R _ HE.out HG_Vw5.out HS_Vw5.out).mono ?_
 rintro r w6 ⟨rfl,hb⟩
 have z_w6:Vw5.heap.size≤w6.heap.size:=hb.size
 have HB_w6:=ya2 (trm HB_Vw5.out hb)
 have HP_w6:=ya2 (HP_Vw5.out.below hb)
 have HS_w6:=ya2 (HS_Vw5.out.below hb)
 have HSb_w6:=ya2 (HSb_Vw5.out.below hb)
 have HR_w6:=ya2 (HR_Vw5.out.below hb)
 have HX0_w6:=ya2 (HX0_Vw5.out.below hb)
 have HG_w6:=ya2 (HG_Vw5.out.below hb)
 have HGb_w6:=ya2 (HGb_Vw5.out.below hb)
 clear HB_Vw5 HP_Vw5 HS_Vw5 HSb_Vw5 HR_Vw5 HX0_Vw5 HG_Vw5 HGb_Vw5
 clear hb
 obtain⟨r0,r1,r2,r3,r4,r5,r6,r7⟩:=c8_8 HX0_w6.out
 obtain⟨p0,p1,p2,p3,p4,p5,p6,p7⟩:=c8_8 HP_w6.out
 go_wp2_with fail
 go_region_held3 (fun W=>W.cell? ⟨w4.heap.size,0,none⟩=some (.int .i64 v.m.n)∧W.cell? ⟨w4.heap.size,1,none⟩=some (.int .i64 v.m.s)∧W.cell? ⟨w4.heap.size,2,none⟩=some (.slice kau v.m.i.length kbu)∧W.cell? ⟨w4.heap.size,3,none⟩=some (.slice kcu v.m.h.length kdu)∧W.cell? ⟨w4.heap.size,4,none⟩=some (.slice keu v.m.e.length kfu)∧W.cell? ⟨w4.heap.size,5,none⟩=some (.int .i64 v.m.z)∧W.cell? ⟨w4.heap.size,6,none⟩=some (.slice kgu v.k.length khu)∧W.cell? ⟨w4.heap.size,7,none⟩=some (.slice kiu v.c.length kju)∧W.cell? ⟨w.heap.size,0,none⟩=some (.int .i64 v.m.n)∧W.cell? ⟨w.heap.size,1,none⟩=some (.int .i64 v.m.s)∧W.cell? ⟨w.heap.size,2,none⟩=some vi∧W.cell? ⟨w.heap.size,3,none⟩=some vh∧W.cell? ⟨w.heap.size,4,none⟩=some vs∧W.cell? ⟨w.heap.size,5,none⟩=some (.int .i64 v.m.z)∧W.cell? ⟨w.heap.size,6,none⟩=some uk∧W.cell? ⟨w.heap.size,7,none⟩=some uc) ((repeat' apply And.intro)<;>first|(go_keep;done)|(rw [hcA _ _ (by first|omega|(simp;omega))];simp [*];done))
  (first|(go_at_call 11;refine(yfc _ v _ HSM.out (HX.out.under HB_w6.out.drew)).mono ?_;rintro r w7 ⟨yx,rfl,hbw7,hr2⟩;obtain⟨hcA,hfA⟩:=ygk hbw7;have hzw7:w6.heap.size≤w7.heap.size:=hbw7.size)|(go_at_call 14;refine(yn5 _ _ v _ HSM.out (HR_w6.out.below ((Below.refl _ w6).drew.trans hbw7)).is hr2.is).mono ?_;rintro r w8 ⟨rfl,hbw8⟩;obtain⟨hcA,hfA⟩:=ygk hbw8;have hzw8:w7.heap.size≤w8.heap.size:=hbw8.size))
 clear hcA hfA
 have hbc:Below w6.heap.size w6 w8:=((Below.refl w6.heap.size w6).drew.trans (hbw7.mono (Nat.le_refl _))).trans (hbw8.mono (by omega))
 clear r0 r1 r2 r3 r4 r5 r6 r7
 clear p0 p1 p2 p3 p4 p5 p6 p7
 have z_w8:w6.heap.size≤w8.heap.size:=hbc.size
 have HB_w8:=ya2 (trm HB_w6.out hbc)
 have HP_w8:=ya2 (HP_w6.out.below hbc)
 have HS_w8:=ya2 (HS_w6.out.below hbc)
 have HSb_w8:=ya2 (HSb_w6.out.below hbc)
 have HR_w8:=ya2 (HR_w6.out.below hbc)
 have HX0_w8:=ya2 (HX0_w6.out.below hbc)
 have HG_w8:=ya2 (HG_w6.out.below hbc)
 have HGb_w8:=ya2 (HGb_w6.out.below hbc)
 clear HB_w6 HP_w6 HS_w6 HSb_w6 HR_w6 HX0_w6 HG_w6 HGb_w6
 clear hbc hr2 hbw7 hzw7 hbw8 hzw8
 obtain⟨r0,r1,r2,r3,r4,r5,r6,r7⟩:=c8_8 HX0_w8.out
 go_wp2_with fail
 clear r0 r1 r2 r3 r4 r5 r6 r7
 refine(yl7 HTY.out HR_w8.out (fun k e=>by omega)).mono ?_
 rintro r w9 ⟨rfl,_,ht⟩
 have z_w9:w8.heap.size≤w9.heap.size:=ht.size
 have HB_w9:=ya2 (HB_w8.out.trans (ht.to_below (fun k e=>by omega) (by omega)))
 have HP_w9:=ya2 (HP_w8.out.turns ht (fun e=>by omega))
 have HS_w9:=ya2 (HS_w8.out.turns ht (fun k e=>by omega))
 have HSb_w9:=ya2 (HSb_w8.out.turns ht (fun e=>by omega))
 have HG_w9:=ya2 (HG_w8.out.turns ht (fun k e=>by omega))
 have HGb_w9:=ya2 (HGb_w8.out.turns ht (fun e=>by omega))
 clear HB_w8 HP_w8 HS_w8 HSb_w8 HR_w8 HX0_w8 HG_w8 HGb_w8
 clear ht
 obtain⟨mk,hmk⟩:∃mk,yj8 v=mk:=⟨_,rfl⟩
 have hmk0:1≤mk:=hmk▸HMK.out.1
 have hmk1:mk≤1073741824:=hmk▸HMK.out.2
 rw [hmk]
 clear hmk
 have hkn:¬(mk<0):=by omega
 obtain⟨g0,g1,g2,g3⟩:=c4_4 HGb_w9.out
 obtain⟨t0,t1,t2,t3⟩:=c4_4 HSb_w9.out
 go_wp2_with fail
 clear g0 g1 g2 g3
 clear t0 t1 t2 t3
 refine(yex _ _ R _ HE.out HG_w9.out HS_w9.out).mono ?_
 rintro r w10 ⟨rfl,hb⟩
 have z_w10:w9.heap.size≤w10.heap.size:=hb.size
 have HB_w10:=ya2 (trm HB_w9.out hb)
 have HP_w10:=ya2 (HP_w9.out.below hb)
 have HS_w10:=ya2 (HS_w9.out.below hb)
 have HSb_w10:=ya2 (HSb_w9.out.below hb)
 have HG_w10:=ya2 (HG_w9.out.below hb)
 have HGb_w10:=ya2 (HGb_w9.out.below hb)
 clear HB_w9 HP_w9 HS_w9 HSb_w9 HG_w9 HGb_w9
 clear hb
 obtain⟨g0,g1,g2,g3⟩:=c4_4 HGb_w10.out
 go_wp2_with fail
 clear g0 g1 g2 g3
 refine(yj9 HE.out HG_w10.out (fun k e=>by omega)).mono ?_
 rintro r w11 ⟨rfl,hh,ht⟩
 have z_w11:w10.heap.size≤w11.heap.size:=ht.size
 have HB_w11:=ya2 (HB_w10.out.trans (ht.to_below (fun k e=>by omega) (by omega)))
 have HP_w11:=ya2 (HP_w10.out.turns ht (fun e=>by omega))
 have HS_w11:=ya2 (HS_w10.out.turns ht (fun k e=>by omega))
 have HSb_w11:=ya2 (HSb_w10.out.turns ht (fun e=>by omega))
 have HGb_w11:=ya2 (HGb_w10.out.turns ht (fun e=>by omega))
 clear HB_w10 HP_w10 HS_w10 HSb_w10 HG_w10 HGb_w10
 have HH_w11:=ya2 hh
 clear hh ht
 have hmn:¬(ymm R<0):=by have:=yr6 R;omega
 obtain⟨g0,g1,g2,g3⟩:=c4_4 HGb_w11.out
 go_wp2_with fail
 clear g0 g1 g2 g3
 refine(yg1 HE.out HH_w11.out).mono ?_
 rintro r w12 ⟨rfl,hb⟩
 have z_w12:w11.heap.size≤w12.heap.size:=hb.size
 have HB_w12:=ya2 (trm HB_w11.out hb)
 have HP_w12:=ya2 (HP_w11.out.below hb)
 have HS_w12:=ya2 (HS_w11.out.below hb)
 have HSb_w12:=ya2 (HSb_w11.out.below hb)
 have HGb_w12:=ya2 (HGb_w11.out.below hb)
 have HH_w12:=ya2 (HH_w11.out.below hb)
 clear HB_w11 HP_w11 HS_w11 HSb_w11 HGb_w11 HH_w11
 clear hb
 obtain⟨p0,p1,p2,p3,p4,p5,p6,p7⟩:=c8_8 HP_w12.out
 go_wp2_with fail
 clear p0 p1 p2 p3 p4 p5 p6 p7
 refine(yfc _ v _ HSM.out (HX.out.under HB_w12.out)).mono ?_
 rintro r w13 ⟨yb,rfl,hb,hr⟩
 have z_w13:w12.heap.size≤w13.heap.size:=hb.size
 have HB_w13:=ya2 (trm HB_w12.out hb)
 have HP_w13:=ya2 (HP_w12.out.below hb)
 have HS_w13:=ya2 (HS_w12.out.below hb)
 have HSb_w13:=ya2 (HSb_w12.out.below hb)
 have HGb_w13:=ya2 (HGb_w12.out.below hb)
 have HH_w13:=ya2 (HH_w12.out.below hb)
 clear HB_w12 HP_w12 HS_w12 HSb_w12 HGb_w12 HH_w12
 have HA_w13:=ya2 hr
 clear hb hr
 go_wp2_with fail
 refine(HIM.out _ _ HA_w13.out.is).mono ?_
 rintro r w14 ⟨uk,rfl,hr,hb⟩
 obtain⟨gak,gck,hak,hck,rfl⟩:=HiF.form hr
 have z_w14:w13.heap.size≤w14.heap.size:=hb.size
 have HB_w14:=ya2 (trm HB_w13.out hb)
 have HP_w14:=ya2 (HP_w13.out.below hb)
 have HS_w14:=ya2 (HS_w13.out.below hb)
 have HSb_w14:=ya2 (HSb_w13.out.below hb)
 have HGb_w14:=ya2 (HGb_w13.out.below hb)
 have HH_w14:=ya2 (HH_w13.out.below hb)
 have HA_w14:=ya2 (HA_w13.out.below hb)
 clear HB_w13 HP_w13 HS_w13 HSb_w13 HGb_w13 HH_w13 HA_w13
 have HK_w14:=ya2 hr
 clear hb hr
 obtain⟨Vw14,hVw14⟩:∃V,w14.alloc (.cells #[.slice gak R.ev.length gck,.slice hak R.em.length hck,.int .i64 R.k,.bool R.f] 62)=V:=⟨_,rfl⟩
 have BHKb:=bkA hVw14
 have hb:=beA hVw14
 have y_Vw14:w14.heap.size<Vw14.heap.size:=BHKb.lt
 have z_Vw14:w14.heap.size≤Vw14.heap.size:=hb.size
 have HB_Vw14:=ya2 (trm HB_w14.out hb)
 have HP_Vw14:=ya2 (HP_w14.out.below hb)
 have HS_Vw14:=ya2 (HS_w14.out.below hb)
 have HSb_Vw14:=ya2 (HSb_w14.out.below hb)
 have HGb_Vw14:=ya2 (HGb_w14.out.below hb)
 have HH_Vw14:=ya2 (HH_w14.out.below hb)
 have HA_Vw14:=ya2 (HA_w14.out.below hb)
 have HK_Vw14:=ya2 (HK_w14.out.below hb)
 clear HB_w14 HP_w14 HS_w14 HSb_w14 HGb_w14 HH_w14 HA_w14 HK_w14
 clear hb
 have HKb_Vw14:=ya2 BHKb
 clear BHKb
 clear HA_Vw14
 obtain⟨g0,g1,g2,g3⟩:=c4_4 HKb_Vw14.out
 obtain⟨t0,t1,t2,t3⟩:=c4_4 HSb_Vw14.out
 go_wp2_with fail
 clear hVw14
 clear g0 g1 g2 g3
 clear t0 t1 t2 t3
 refine(yex _ _ R _ HE.out HK_Vw14.out HS_Vw14.out).mono ?_
 rintro r w15 ⟨rfl,hb⟩
 have z_w15:Vw14.heap.size≤w15.heap.size:=hb.size
 have HB_w15:=ya2 (trm HB_Vw14.out hb)
 have HP_w15:=ya2 (HP_Vw14.out.below hb)
 have HS_w15:=ya2 (HS_Vw14.out.below hb)
 have HSb_w15:=ya2 (HSb_Vw14.out.below hb)
 have HGb_w15:=ya2 (HGb_Vw14.out.below hb)
 have HH_w15:=ya2 (HH_Vw14.out.below hb)
 have HK_w15:=ya2 (HK_Vw14.out.below hb)
 have HKb_w15:=ya2 (HKb_Vw14.out.below hb)
 clear HB_Vw14 HP_Vw14 HS_Vw14 HSb_Vw14 HGb_Vw14 HH_Vw14 HK_Vw14 HKb_Vw14
 clear hb
 obtain⟨g0,g1,g2,g3⟩:=c4_4 HGb_w15.out
 go_wp2_with fail
 clear g0 g1 g2 g3
 refine(yg1 HE.out HH_w15.out).mono ?_
 rintro r w16 ⟨rfl,hb⟩
 have z_w16:w15.heap.size≤w16.heap.size:=hb.size
 have HB_w16:=ya2 (trm HB_w15.out hb)
 have HP_w16:=ya2 (HP_w15.out.below hb)
 have HS_w16:=ya2 (HS_w15.out.below hb)
 have HSb_w16:=ya2 (HSb_w15.out.below hb)
 have HGb_w16:=ya2 (HGb_w15.out.below hb)
 have HH_w16:=ya2 (HH_w15.out.below hb)
 have HK_w16:=ya2 (HK_w15.out.below hb)
 have HKb_w16:=ya2 (HKb_w15.out.below hb)
 clear HB_w15 HP_w15 HS_w15 HSb_w15 HGb_w15 HH_w15 HK_w15 HKb_w15
 clear hb
 go_wp2
 go_ret
 exact⟨rfl,HB_w16.out⟩
end Go.Proofs.YtmobiieoecjmdaaGreat.LawExactTable

