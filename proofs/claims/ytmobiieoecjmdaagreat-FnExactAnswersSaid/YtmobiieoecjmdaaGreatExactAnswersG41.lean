/- WEq, OpenS, VOpen, MOpen, SOpen, TPtO, KOp, WOp -/
import Derived.Test.YtmobiieoecjmdaaGreatExactAnswersG40
import Derived.SizedLaws
namespace Go.Proofs.YtmobiieoecjmdaaGreat
set_option maxHeartbeats 8000000
set_option maxRecDepth 100000
open Go.RowKit
theorem yg5 {p:Prop} (h:p):Hid p:=h
theorem ysf (x y:Value) (l:List Kn) (w:World) (hl:yd3 l) (hx:IsKs w x l) (hy:IsKs w y l):
  Calls Tryz.prog 49 #[x,y] w fun e w'=>e= .returned (.bool true)∧Below w.heap.size w w':=by
 obtain⟨a,cap,rfl,h1,h2,h⟩:=hx
 obtain⟨a',cap',rfl,h1',h2',h'⟩:=hy
 have HS:Hid (yd3 l):=hl
 have hl2:l.length≤1048576:=hl.1
 clear h1 h2 h1' h2' hl
 go_enter Tryz.func49,Tryz.ntmps49
 go_wp2
 go_loopw [5] (fun i wr=>∃k:Nat,k≤l.length∧i= .int .i64 k∧Below w.heap.size w wr) (fun i _=>l.length-(intOf i).toNat)
 case atStart=>exact⟨0,Nat.zero_le _,rfl,Below.refl _ _⟩
 case round=>
  obtain⟨k,hk,rfl,hB⟩:=hrel
  have HB:=yg5 hB
  by_cases hlt:k<l.length
  ·obtain⟨b,off,rfl,hb,hc⟩:=h.resolve_left (by omega)
   obtain⟨b',off',rfl,hb',hc'⟩:=h'.resolve_left (by omega)
   obtain⟨vi,vh,vs,u6,u7,u8,u12,u13,⟨f0,f1,f2,f3,f4,f5,f6,f7,f8,f9,f10,f11,f12,f13⟩,hD⟩:=(hc k hlt).under hb hB
   obtain⟨xvi,xvh,xvs,xu6,xu7,xu8,xu12,xu13,⟨e0,e1,e2,e3,e4,e5,e6,e7,e8,e9,e10,e11,e12,e13⟩,hG⟩:=(hc' k hlt).under hb' hB
   have HD:=yg5 (hD.under (Below.refl _ wr).drew)
   have HG:=yg5 (hG.under (Below.refl _ wr).drew)
   have HW:Hid (ybt (knAt l k)):=HS.out.2 k hlt
   have hbr:b<wr.heap.size:=Nat.lt_of_lt_of_le hb hB.size
   have hbr':b'<wr.heap.size:=Nat.lt_of_lt_of_le hb' hB.size
   clear hB hc hc' h h' hD hG
   go_wp2_with fail
   go_region_held3 (fun W=>W.cell? ⟨b,off+k*14,none⟩=some (.int .i64 (knAt l k).m.n)∧W.cell? ⟨b,off+k*14+1,none⟩=some (.int .i64 (knAt l k).m.s)∧W.cell? ⟨b,off+k*14+2,none⟩=some (vi)∧W.cell? ⟨b,off+k*14+3,none⟩=some (vh)∧W.cell? ⟨b,off+k*14+4,none⟩=some (vs)∧W.cell? ⟨b,off+k*14+5,none⟩=some (.int .i64 (knAt l k).m.z)∧W.cell? ⟨b,off+k*14+6,none⟩=some (u6)∧W.cell? ⟨b,off+k*14+7,none⟩=some (u7)∧W.cell? ⟨b,off+k*14+8,none⟩=some (u8)∧W.cell? ⟨b,off+k*14+9,none⟩=some (.int .i64 (knAt l k).t)∧W.cell? ⟨b,off+k*14+10,none⟩=some (.int .i64 (knAt l k).q)∧W.cell? ⟨b,off+k*14+11,none⟩=some (.bool (knAt l k).f)∧W.cell? ⟨b,off+k*14+12,none⟩=some (u12)∧W.cell? ⟨b,off+k*14+13,none⟩=some (u13)∧W.cell? ⟨b',off'+k*14,none⟩=some (.int .i64 (knAt l k).m.n)∧W.cell? ⟨b',off'+k*14+1,none⟩=some (.int .i64 (knAt l k).m.s)∧W.cell? ⟨b',off'+k*14+2,none⟩=some (xvi)∧W.cell? ⟨b',off'+k*14+3,none⟩=some (xvh)∧W.cell? ⟨b',off'+k*14+4,none⟩=some (xvs)∧W.cell? ⟨b',off'+k*14+5,none⟩=some (.int .i64 (knAt l k).m.z)∧W.cell? ⟨b',off'+k*14+6,none⟩=some (xu6)∧W.cell? ⟨b',off'+k*14+7,none⟩=some (xu7)∧W.cell? ⟨b',off'+k*14+8,none⟩=some (xu8)∧W.cell? ⟨b',off'+k*14+9,none⟩=some (.int .i64 (knAt l k).t)∧W.cell? ⟨b',off'+k*14+10,none⟩=some (.int .i64 (knAt l k).q)∧W.cell? ⟨b',off'+k*14+11,none⟩=some (.bool (knAt l k).f)∧W.cell? ⟨b',off'+k*14+12,none⟩=some (xu12)∧W.cell? ⟨b',off'+k*14+13,none⟩=some (xu13)) ((repeat' apply And.intro)<;>first|(go_keep;done)|(rw [hcA _ _ (by first|omega|(simp;omega)|simp [*])];simp [*];done))
    (first|(go_at_call 22;refine(ylv _ _ (knAt l k) _ HW.out HD.out HG.out).mono ?_;rintro e w2 ⟨rfl,hb2⟩;obtain⟨hcA,hfA⟩:=ygs hb2))
   clear hcA hfA
   go_wp2
   go_roundw
   case rel=>exact⟨k+1,by omega,by go_num,HB.out.drew.trans (hb2.mono (by have:=HB.out.size;simpa using this))⟩
   case measure=>simp [intOf];omega
  ·clear hB h h'
   go_wp2
   go_ret
   exact⟨rfl,HB.out⟩
theorem eq_vecs (x y:Value) (l:List (List Int)) (w:World) (hl:(ycd l).wt≤1048576) (hx:IsD w x (ycd l)) (hy:IsD w y (ycd l)):
  Calls Tryz.prog 13 #[x,y] w fun e w'=>e= .returned (.bool true)∧Below w.heap.size w w':=by
 obtain⟨a,cap,rfl,h1,h2,h⟩:=IsD.parts (c:=1) (n:=l.length) hx
 obtain⟨a',cap',rfl,h1',h2',h'⟩:=IsD.parts (c:=1) (n:=l.length) hy
 have HS:=yg5 hl
 have hl2:l.length≤1048576:=by rw [ydl]at hl;omega
 clear h1 h2 h1' h2' hx hy hl
 go_enter Tryz.func13,Tryz.ntmps13
 go_wp2
 go_loopw [5] (fun i wr=>∃k:Nat,k≤l.length∧i= .int .i64 k∧Below w.heap.size w wr) (fun i _=>l.length-(intOf i).toNat)
 case atStart=>exact⟨0,Nat.zero_le _,rfl,Below.refl _ _⟩
 case round=>
  obtain⟨k,hk,rfl,hB⟩:=hrel
  have HB:=yg5 hB
  by_cases hlt:k<l.length
  ·obtain⟨b,off,rfl,hb,hc⟩:=h.resolve_left (by omega)
   obtain⟨b',off',rfl,hb',hc'⟩:=h'.resolve_left (by omega)
   obtain⟨u,hu,hd⟩:=hc k (by omega)
   obtain⟨v,hv,hg⟩:=hc' k (by omega)
   have f0:=(hB.cell (p:=⟨b,off+k,none⟩) hb).trans hu
   have e0:=(hB.cell (p:=⟨b',off'+k,none⟩) hb').trans hv
   have HD:=yg5 ((hd.under hB).under (Below.refl _ wr).drew)
   have HG:=yg5 ((hg.under hB).under (Below.refl _ wr).drew)
   have HW:=yg5 (Nat.le_trans (ym9 hlt) HS.out)
   have hbr:b<wr.heap.size:=Nat.lt_of_lt_of_le hb hB.size
   have hbr':b'<wr.heap.size:=Nat.lt_of_lt_of_le hb' hB.size
   clear hB hc hc' h h' hd hg hu hv
   go_wp2_with fail
   go_region_held3 (fun W=>W.cell? ⟨b,off+k,none⟩=some u∧W.cell? ⟨b',off'+k,none⟩=some v) ((repeat' apply And.intro)<;>first|(go_keep;done)|(rw [hcA _ _ (by first|omega|(simp;omega)|simp [*])];simp [*];done))
    (first|(go_at_call 32;refine(ylt _ _ (vAt l k) _ HW.out HD.out HG.out).mono ?_;rintro e w2 ⟨rfl,hb2⟩;obtain⟨hcA,hfA⟩:=ygs hb2))
   clear hcA hfA
   go_wp2
   go_roundw
   case rel=>exact⟨k+1,by omega,by go_num,HB.out.drew.trans (hb2.mono (by have:=HB.out.size;simpa using this))⟩
   case measure=>simp [intOf];omega
  ·clear hB h h'
   go_wp2
   go_ret
   exact⟨rfl,HB.out⟩
theorem yno (x y:Value) (v:Wd) (w:World) (hs:ycc v) (hx:IsW w x v) (hy:IsW w y v):
  Calls Tryz.prog 14 #[x,y] w fun e w'=>e= .returned (.bool true)∧Below w.heap.size w w':=by
 obtain⟨vi,vh,vs,uk,uc,rfl,hm,hk,hc⟩:=hx
 obtain⟨xvi,xvh,xvs,xuk,xuc,rfl,jm,jk,jc⟩:=hy
 have HS:Hid (ycc v):=hs
 have HM:Hid (IsM w (.agg #[.int .i64 v.m.n,.int .i64 v.m.s,vi,vh,vs,.int .i64 v.m.z]) v.m∧IsM w (.agg #[.int .i64 v.m.n,.int .i64 v.m.s,xvi,xvh,xvs,.int .i64 v.m.z]) v.m):=⟨hm,jm⟩
 have HK:Hid (IsKs w uk v.k∧IsKs w xuk v.k):=⟨hk,jk⟩
 have HC:Hid (IsD w uc (ycd v.c)∧IsD w xuc (ycd v.c)):=⟨hc,jc⟩
 clear hs hm jm hk jk hc jc
 obtain⟨W0,hW0⟩:∃W0,(w.alloc (.cells #[.int .i64 v.m.n,.int .i64 v.m.s,vi,vh,vs,.int .i64 v.m.z,uk,uc] 39)).alloc (.cells #[.int .i64 v.m.n,.int .i64 v.m.s,xvi,xvh,xvs,.int .i64 v.m.z,xuk,xuc] 39)=W0:=⟨_,rfl⟩
 have HB0:=hdq (beA2 hW0)
 have HP0:=hdq (bkA2 hW0)
 have HQ0:=hdq (bkB2 hW0)
 have HW:=yg5 hW0
 clear hW0
 go_enter Tryz.func14,Tryz.ntmps14
 have p0:=HP0.out.cell (i:=0) rfl
 have q0:=HQ0.out.cell (i:=0) rfl
 have p1:=HP0.out.cell (i:=1) rfl
 have q1:=HQ0.out.cell (i:=1) rfl
 have p2:=HP0.out.cell (i:=2) rfl
 have q2:=HQ0.out.cell (i:=2) rfl
 have p3:=HP0.out.cell (i:=3) rfl
 have q3:=HQ0.out.cell (i:=3) rfl
 have p4:=HP0.out.cell (i:=4) rfl
 have q4:=HQ0.out.cell (i:=4) rfl
 have p5:=HP0.out.cell (i:=5) rfl
 have q5:=HQ0.out.cell (i:=5) rfl
 go_wp2_with fail
 rw [HW.out]
 clear HW p0 q0 p1 q1 p2 q2 p3 q3 p4 q4 p5 q5
 refine(yin _ _ v.m _ HS.out.1 (HM.out.1.below HB0.out) (HM.out.2.below HB0.out)).mono ?_
 rintro e w1 ⟨rfl,hb⟩
 have HB1:=trh HB0 hb
 have p6:=(HP0.out.below hb).cell (i:=6) rfl
 have q6:=(HQ0.out.below hb).cell (i:=6) rfl
 have HP1:=yg5 (HP0.out.below hb)
 have HQ1:=yg5 (HQ0.out.below hb)
 clear hb
 go_wp2_with fail
 clear p6 q6
 refine(ysf _ _ v.k _ HS.out.2.1 (HK.out.1.under HB1.out) (HK.out.2.under HB1.out)).mono ?_
 rintro e w2 ⟨rfl,hb⟩
 have HB2:=trh HB1 hb
 have p7:=(HP1.out.below hb).cell (i:=7) rfl
 have q7:=(HQ1.out.below hb).cell (i:=7) rfl
 clear hb
 go_wp2_with fail
 clear p7 q7
 refine(eq_vecs _ _ v.c _ HS.out.2.2 (HC.out.1.under HB2.out) (HC.out.2.under HB2.out)).mono ?_
 rintro e w3 ⟨rfl,hb⟩
 have HB3:=trh HB2 hb
 clear hb
 go_wp2
 go_ret
 exact⟨rfl,HB3.out⟩
end Go.Proofs.YtmobiieoecjmdaaGreat

namespace Go.Proofs.YtmobiieoecjmdaaGreat
open Go.ChangeShapes Go.WideShapes Go.ChangeAt Go.RowKit
theorem yq5 {w:World} {b off:Nat}:∀n,(∀i,i<n→ ∃e:Ev,Ev.In w b (off+i*7) e)→ ∃l:List Ev,l.length=n∧ ∀i,i<n→Ev.In w b (off+i*7) (evAt l i)
 |0,_=>⟨[],rfl,fun i hi=>by omega⟩
 |n+1,h=>by
  obtain⟨l,hl,hi⟩:=yq5 n (fun i hi=>h i (by omega))
  obtain⟨e,he⟩:=h n (by omega)
  refine⟨l++ [e],by simp [hl],fun i hi'=> ?_⟩
  by_cases hin:i<n
  ·have:evAt (l++ [e]) i=evAt l i:=by unfold evAt;simp [List.getElem?_append_left (by omega:i<l.length)]
   rw [this];exact hi i hin
  ·have:evAt (l++ [e]) i=e:=by unfold evAt;simp [show i=l.length by omega]
   rw [this,show i=n by omega];exact he
theorem add_plain (b off n:Nat):(⟨b,off,none⟩:Addr).add n=⟨b,off+n,none⟩:=by
 unfold Addr.add
 split<;>simp_all
theorem yjo {w:World} {b off:Nat}:∀n,(∀i,i<n→ ∃z:Int,w.cell? ⟨b,off+i,none⟩=some (.int .i64 z))→ ∃l:List Int,l.length=n∧ ∀i,i<n→w.cell? ⟨b,off+i,none⟩=some (.int .i64 (intAt l i))
 |0,_=>⟨[],rfl,fun i hi=>by omega⟩
 |n+1,h=>by
  obtain⟨l,hl,hi⟩:=yjo n (fun i hi=>h i (by omega))
  obtain⟨e,he⟩:=h n (by omega)
  refine⟨l++ [e],by simp [hl],fun i hi'=> ?_⟩
  by_cases hin:i<n
  ·have:intAt (l++ [e]) i=intAt l i:=by unfold intAt;simp [List.getElem?_append_left (by omega:i<l.length)]
   rw [this];exact hi i hin
  ·have:intAt (l++ [e]) i=e:=by unfold intAt;simp [show i=l.length by omega]
   rw [this,show i=n by omega];exact he
set_option maxRecDepth 100000 in
theorem yro {H:Type} {enc:TypeId×Value→H} {w:World} {b0:Nat} {spare:Nat→Bool} {held:Bool} {r:Reach} {v:Value} {d:DataW H} {p:List MemPlace}
  (hv:Value.okWide Tryz.prog w r b0 22 v) (h:DataW.Trod enc Tryz.prog w 0 spare held 22 v d p):∃l:List Int,IsI w v l:=by
 obtain⟨a0,len,cap,rfl⟩:=okWide_slice Tryz.underlying22 hv
 obtain⟨fuel,hf⟩:=h
 rcases DataW.trod_slice Tryz.underlying22 hf with ⟨hcs,_⟩|⟨a,len',cap',elems,rest,n,_,hcs,_,hb,hl,hm,hlen,hel,_,_⟩
 ·simp [Value.cells]at hcs
  obtain⟨rfl,rfl,rfl⟩:=hcs
  exact⟨[],_,_,rfl,Nat.le_refl _,by unfold maxLen;omega,.inl rfl⟩
 ·simp [Value.cells]at hcs
  obtain⟨rfl,rfl,rfl⟩:=hcs
  by_cases h0:len=0
  ·subst h0
   exact⟨[],_,_,rfl,hl,hm,.inl rfl⟩
  ·obtain⟨b,off,spot⟩:=a
   have hs:spot=none:=by
    have h1:=hel 0 (by omega)
    rw [cells3,List.getElem?_eq_getElem (by omega)]at h1
    obtain⟨cs,hc,ht⟩:=Option.bind_eq_some_iff.1 h1
    obtain⟨t,rfl,_⟩:=DataW.trod_int Tryz.underlying3 ht
    have c0:=(World.cells?_some hc).2.2 0 (by omega)
    simpa [Addr.add] using World.cell?_spot c0
   subst hs
   have each:∀i,i<len→ ∃z:Int,w.cell? ⟨b,off+i,none⟩=some (.int .i64 z)∧b<w.heap.size:=by
    intro i hi
    have h1:=hel i hi
    rw [cells3,List.getElem?_eq_getElem (by omega),add_plain]at h1
    obtain⟨cs,hc,ht⟩:=Option.bind_eq_some_iff.1 h1
    obtain⟨t,rfl,_,hw⟩:=DataW.trod_int Tryz.underlying3 ht
    have hblk:b<w.heap.size:=World.cells?_block hc (by omega)
    obtain⟨_,_,hcell⟩:=World.cells?_some hc
    have h2:=hcell 0 (by omega)
    simp only [add_plain]at h2
    exact⟨t,by simpa using h2,hblk⟩
   obtain⟨_,_,hblk⟩:=each 0 (by omega)
   obtain⟨l,rfl,hi⟩:=yjo (w:=w) (b:=b) (off:=off) len (fun i hi=>by
    obtain⟨e,he,_⟩:=each i hi
    exact⟨e,he⟩)
   exact⟨l,_,_,rfl,hl,hm,.inr ⟨b,off,rfl,hblk,hi⟩⟩
set_option maxRecDepth 100000
open Go.ChangeShapes Go.WideShapes Go.ChangeAt Go.RowKit
theorem yp8:Tryz.prog.cellsOf 223=4:=by kernel_rfl
theorem yqd:Tryz.prog.cellsOf 178=1:=by kernel_rfl
theorem yvi:Tryz.prog.cellsOf 23=1:=by kernel_rfl
theorem yfb:Tryz.prog.cellsOf 22=1:=by kernel_rfl
theorem yj2:Tryz.prog.cellsOf 24=1:=by kernel_rfl
theorem yvj:Tryz.prog.cellsOf 26=6:=by kernel_rfl
theorem list4 {α:Type} {l:List α} (h:l.length=4):∃a b c d,l= [a,b,c,d]:=by
 match l,h with
 | [a,b,c,d],_=>exact⟨a,b,c,d,rfl⟩
theorem list6 {α:Type} {l:List α} (h:l.length=6):∃a b c d e f,l= [a,b,c,d,e,f]:=by
 match l,h with
 | [a,b,c,d,e,f],_=>exact⟨a,b,c,d,e,f,rfl⟩
theorem ysw {H:Type} {enc:TypeId×Value→H} {w:World} {base:Nat} {spare:Nat→Bool} {held:Bool} {fuel:Nat} {cs:List Value} {x:DataW H×List MemPlace}
  (h:DataW.trod enc Tryz.prog w base spare held fuel 223 cs=some x):∃c a b k:Int,cs= [.int .i64 c,.int .i64 a,.int .i64 b,.int .i64 k]∧wfI c∧wfI a∧wfI b∧wfI k:=by
 obtain⟨xs,n,_,rfl,hl,hlen,hf⟩:=DataW.trod_struct Tryz.underlying223 h
 rw [yp8]at hl
 obtain⟨c0,c1,c2,c3,rfl⟩:=list4 hl
 have hx:xs.length=4:=by simpa using hlen
 obtain⟨y0,y1,y2,y3,rfl⟩:=list4 hx
 have h0:=hf 0 _ rfl
 have h1:=hf 1 _ rfl
 have h2:=hf 2 _ rfl
 have h3:=hf 3 _ rfl
 obtain⟨a0,e0,_,w0⟩:=DataW.trod_int Tryz.underlying3 h0
 obtain⟨a1,e1,_,w1⟩:=DataW.trod_int Tryz.underlying3 h1
 obtain⟨a2,e2,_,w2⟩:=DataW.trod_int Tryz.underlying3 h2
 obtain⟨a3,e3,_,w3⟩:=DataW.trod_int Tryz.underlying3 h3
 simp [cells3]at e0 e1 e2 e3
 subst e0 e1 e2 e3
 exact⟨a0,a1,a2,a3,rfl,w0,w1,w2,w3⟩
theorem yey {H:Type} {enc:TypeId×Value→H} {w:World} {spare:Nat→Bool} {held:Bool} {fuel:Nat} {cs:List Value} {x:DataW H×List MemPlace}
  (hf:DataW.trod enc Tryz.prog w 0 spare held fuel 22 cs=some x):∃v l,cs= [v]∧IsI w v l:=by
 rcases DataW.trod_slice Tryz.underlying22 hf with ⟨rfl,_⟩|⟨a,len,cap,elems,rest,n,_,rfl,_,hb,hl,hm,hlen,hel,_,_⟩
 ·exact⟨_,[],rfl,none,0,rfl,Nat.le_refl _,by unfold maxLen;omega,.inl rfl⟩
 ·by_cases h0:len=0
  ·subst h0
   exact⟨_,[],rfl,_,_,rfl,hl,hm,.inl rfl⟩
  ·obtain⟨b,off,spot⟩:=a
   have hs:spot=none:=by
    have h1:=hel 0 (by omega)
    rw [cells3,List.getElem?_eq_getElem (by omega)]at h1
    obtain⟨cs,hc,ht⟩:=Option.bind_eq_some_iff.1 h1
    obtain⟨t,rfl,_⟩:=DataW.trod_int Tryz.underlying3 ht
    have c0:=(World.cells?_some hc).2.2 0 (by omega)
    simpa [Addr.add] using World.cell?_spot c0
   subst hs
   have each:∀i,i<len→ ∃z:Int,w.cell? ⟨b,off+i,none⟩=some (.int .i64 z)∧b<w.heap.size:=by
    intro i hi
    have h1:=hel i hi
    rw [cells3,List.getElem?_eq_getElem (by omega),add_plain]at h1
    obtain⟨cs,hc,ht⟩:=Option.bind_eq_some_iff.1 h1
    obtain⟨t,rfl,_,hw⟩:=DataW.trod_int Tryz.underlying3 ht
    have hblk:b<w.heap.size:=World.cells?_block hc (by omega)
    obtain⟨_,_,hcell⟩:=World.cells?_some hc
    have h2:=hcell 0 (by omega)
    simp only [add_plain]at h2
    exact⟨t,by simpa using h2,hblk⟩
   obtain⟨_,_,hblk⟩:=each 0 (by omega)
   obtain⟨l,rfl,hi⟩:=yjo (w:=w) (b:=b) (off:=off) len (fun i hi=>by
    obtain⟨e,he,_⟩:=each i hi
    exact⟨e,he⟩)
   exact⟨_,l,rfl,_,_,rfl,hl,hm,.inr ⟨b,off,rfl,hblk,hi⟩⟩
theorem yix {H:Type} {enc:TypeId×Value→H} {w:World} {spare:Nat→Bool} {held:Bool} {fuel:Nat} {cs:List Value} {x:DataW H×List MemPlace}
  (hf:DataW.trod enc Tryz.prog w 0 spare held fuel 24 cs=some x):∃v l,cs= [v]∧IsEvs w v l:=by
 rcases DataW.trod_slice Tryz.underlying24 hf with ⟨rfl,_⟩|⟨a,len,cap,elems,rest,n,_,rfl,_,hb,hl,hm,hlen,hel,_,_⟩
 ·exact⟨_,[],rfl,none,0,rfl,Nat.le_refl _,by unfold maxLen;omega,.inl rfl⟩
 ·by_cases h0:len=0
  ·subst h0
   exact⟨_,[],rfl,_,_,rfl,hl,hm,.inl rfl⟩
  ·obtain⟨b,off,spot⟩:=a
   have hs:spot=none:=by
    have h1:=hel 0 (by omega)
    rw [yk3,List.getElem?_eq_getElem (by omega)]at h1
    obtain⟨cs,hc,ht⟩:=Option.bind_eq_some_iff.1 h1
    obtain⟨t,s,q,d,k,v,g,rfl,_⟩:=yl4 ht
    have c0:=(World.cells?_some hc).2.2 0 (by omega)
    simpa [Addr.add] using World.cell?_spot c0
   subst hs
   have each:∀i,i<len→ ∃e:Ev,Ev.In w b (off+i*7) e∧b<w.heap.size:=by
    intro i hi
    have h1:=hel i hi
    rw [yk3,List.getElem?_eq_getElem (by omega),add_plain]at h1
    obtain⟨cs,hc,ht⟩:=Option.bind_eq_some_iff.1 h1
    obtain⟨t,s,q,d,k,v,g,rfl,_⟩:=yl4 ht
    have hblk:b<w.heap.size:=World.cells?_block hc (by omega)
    obtain⟨_,_,hcell⟩:=World.cells?_some hc
    simp only [add_plain]at hcell
    exact⟨⟨t,s,q,d,k,v,g⟩,⟨hcell 0 (by omega),hcell 1 (by omega),hcell 2 (by omega),hcell 3 (by omega),hcell 4 (by omega),hcell 5 (by omega),hcell 6 (by omega)⟩,hblk⟩
   obtain⟨_,_,hblk⟩:=each 0 (by omega)
   obtain⟨l,rfl,hi⟩:=yq5 (w:=w) (b:=b) (off:=off) len (fun i hi=>by
    obtain⟨e,he,_⟩:=each i hi
    exact⟨e,he⟩)
   exact⟨_,l,rfl,_,_,rfl,hl,hm,.inr ⟨b,off,rfl,hblk,hi⟩⟩
theorem yty {w:World} {b off:Nat}:∀n,(∀i,i<n→ ∃e:O,OAt w b (off+i*4) e)→ ∃l:List O,l.length=n∧ ∀i,i<n→OAt w b (off+i*4) (oAt l i)
 |0,_=>⟨[],rfl,fun i hi=>by omega⟩
 |n+1,h=>by
  obtain⟨l,hl,hi⟩:=yty n (fun i hi=>h i (by omega))
  obtain⟨e,he⟩:=h n (by omega)
  refine⟨l++ [e],by simp [hl],fun i hi'=> ?_⟩
  by_cases hin:i<n
  ·have:oAt (l++ [e]) i=oAt l i:=by unfold oAt;simp [List.getElem?_append_left (by omega:i<l.length)]
   rw [this];exact hi i hin
  ·have:oAt (l++ [e]) i=e:=by unfold oAt;simp [show i=l.length by omega]
   rw [this,show i=n by omega];exact he
theorem ypg {H:Type} {enc:TypeId×Value→H} {w:World} {spare:Nat→Bool} {held:Bool} {fuel:Nat} {cs:List Value} {x:DataW H×List MemPlace}
  (hf:DataW.trod enc Tryz.prog w 0 spare held fuel 178 cs=some x):∃v l,cs= [v]∧IsO w v l:=by
 rcases DataW.trod_slice Tryz.underlying178 hf with ⟨rfl,_⟩|⟨a,len,cap,elems,rest,n,_,rfl,_,hb,hl,hm,hlen,hel,_,_⟩
 ·exact⟨_,[],rfl,none,0,rfl,Nat.le_refl _,by unfold maxLen;omega,.inl rfl⟩
 ·by_cases h0:len=0
  ·subst h0
   exact⟨_,[],rfl,_,_,rfl,hl,hm,.inl rfl⟩
  ·obtain⟨b,off,spot⟩:=a
   have hs:spot=none:=by
    have h1:=hel 0 (by omega)
    rw [yp8,List.getElem?_eq_getElem (by omega)]at h1
    obtain⟨cs,hc,ht⟩:=Option.bind_eq_some_iff.1 h1
    obtain⟨c,a,b,k,rfl,_⟩:=ysw ht
    have c0:=(World.cells?_some hc).2.2 0 (by omega)
    simpa [Addr.add] using World.cell?_spot c0
   subst hs
   have each:∀i,i<len→ ∃e:O,OAt w b (off+i*4) e∧b<w.heap.size:=by
    intro i hi
    have h1:=hel i hi
    rw [yp8,List.getElem?_eq_getElem (by omega),add_plain]at h1
    obtain⟨cs,hc,ht⟩:=Option.bind_eq_some_iff.1 h1
    obtain⟨c,a,b',k,rfl,_⟩:=ysw ht
    have hblk:b<w.heap.size:=World.cells?_block hc (by omega)
    obtain⟨_,_,hcell⟩:=World.cells?_some hc
    simp only [add_plain]at hcell
    exact⟨⟨c,a,b',k⟩,⟨hcell 0 (by omega),hcell 1 (by omega),hcell 2 (by omega),hcell 3 (by omega)⟩,hblk⟩
   obtain⟨_,_,hblk⟩:=each 0 (by omega)
   obtain⟨l,rfl,hi⟩:=yty (w:=w) (b:=b) (off:=off) len (fun i hi=>by
    obtain⟨e,he,_⟩:=each i hi
    exact⟨e,he⟩)
   exact⟨_,l,rfl,_,_,rfl,hl,hm,.inr ⟨b,off,rfl,hblk,hi⟩⟩
theorem yuq {w:World} {b off:Nat}:∀n,(∀i,i<n→ ∃u l,w.cell? ⟨b,off+i,none⟩=some u∧IsO w u l)→ ∃l:List (List O),l.length=n∧ ∀i,i<n→ ∃u,w.cell? ⟨b,off+i,none⟩=some u∧IsO w u (hAt l i)
 |0,_=>⟨[],rfl,fun i hi=>by omega⟩
 |n+1,h=>by
  obtain⟨l,hl,hi⟩:=yuq n (fun i hi=>h i (by omega))
  obtain⟨u,r,hu,hr⟩:=h n (by omega)
  refine⟨l++ [r],by simp [hl],fun i hi'=> ?_⟩
  by_cases hin:i<n
  ·have:hAt (l++ [r]) i=hAt l i:=by unfold hAt;simp [List.getElem?_append_left (by omega:i<l.length)]
   rw [this];exact hi i hin
  ·have:hAt (l++ [r]) i=r:=by unfold hAt;simp [show i=l.length by omega]
   rw [this,show i=n by omega];exact⟨u,hu,hr⟩
theorem trod_hs {H:Type} {enc:TypeId×Value→H} {w:World} {spare:Nat→Bool} {held:Bool} {fuel:Nat} {cs:List Value} {x:DataW H×List MemPlace}
  (hf:DataW.trod enc Tryz.prog w 0 spare held fuel 23 cs=some x):∃v l,cs= [v]∧IsH w v l:=by
 rcases DataW.trod_slice Tryz.underlying23 hf with ⟨rfl,_⟩|⟨a,len,cap,elems,rest,n,_,rfl,_,hb,hl,hm,hlen,hel,_,_⟩
 ·exact⟨_,[],rfl,none,0,rfl,Nat.le_refl _,by unfold maxLen;omega,.inl rfl⟩
 ·by_cases h0:len=0
  ·subst h0
   exact⟨_,[],rfl,_,_,rfl,hl,hm,.inl rfl⟩
  ·obtain⟨b,off,spot⟩:=a
   have hs:spot=none:=by
    have h1:=hel 0 (by omega)
    rw [yqd,List.getElem?_eq_getElem (by omega)]at h1
    obtain⟨cs,hc,ht⟩:=Option.bind_eq_some_iff.1 h1
    obtain⟨v,l,rfl,_⟩:=ypg ht
    have c0:=(World.cells?_some hc).2.2 0 (by omega)
    simpa [Addr.add] using World.cell?_spot c0
   subst hs
   have each:∀i,i<len→ ∃u l,(w.cell? ⟨b,off+i,none⟩=some u∧IsO w u l)∧b<w.heap.size:=by
    intro i hi
    have h1:=hel i hi
    rw [yqd,List.getElem?_eq_getElem (by omega),add_plain]at h1
    obtain⟨cs,hc,ht⟩:=Option.bind_eq_some_iff.1 h1
    obtain⟨v,l,rfl,hv⟩:=ypg ht
    have hblk:b<w.heap.size:=World.cells?_block hc (by omega)
    obtain⟨_,_,hcell⟩:=World.cells?_some hc
    have h2:=hcell 0 (by omega)
    simp only [add_plain]at h2
    exact⟨v,l,⟨by simpa using h2,hv⟩,hblk⟩
   obtain⟨_,_,_,hblk⟩:=each 0 (by omega)
   obtain⟨l,rfl,hi⟩:=yuq (w:=w) (b:=b) (off:=off) len (fun i hi=>by
    obtain⟨u,l,he,_⟩:=each i hi
    exact⟨u,l,he⟩)
   exact⟨_,l,rfl,_,_,rfl,hl,hm,.inr ⟨b,off,rfl,hblk,hi⟩⟩
theorem yvh:Tryz.prog.cellsOf 141=3:=by kernel_rfl
theorem list3 {α:Type} {l:List α} (h:l.length=3):∃a b c,l= [a,b,c]:=by
 match l,h with
 | [a,b,c],_=>exact⟨a,b,c,rfl⟩
set_option maxRecDepth 100000
open Go.ChangeShapes Go.WideShapes Go.ChangeAt Go.RowKit
theorem ypa:Tryz.prog.cellsOf 160=3:=by kernel_rfl
theorem yqe:Tryz.prog.cellsOf 48=1:=by kernel_rfl
theorem yp6:Tryz.prog.cellsOf 230=12:=by kernel_rfl
theorem cellsPss:Tryz.prog.cellsOf 142=1:=by kernel_rfl
theorem yp7:Tryz.prog.cellsOf 144=7:=by kernel_rfl
theorem list12 {α:Type} {l:List α} (h:l.length=12):∃a0 a1 a2 a3 a4 a5 a6 a7 a8 a9 a10 a11,l= [a0,a1,a2,a3,a4,a5,a6,a7,a8,a9,a10,a11]:=by
 match l,h with
 | [a0,a1,a2,a3,a4,a5,a6,a7,a8,a9,a10,a11],_=>exact⟨a0,a1,a2,a3,a4,a5,a6,a7,a8,a9,a10,a11,rfl⟩
theorem list7p {α:Type} {l:List α} (h:l.length=7):∃a0 a1 a2 a3 a4 a5 a6,l= [a0,a1,a2,a3,a4,a5,a6]:=by
 match l,h with
 | [a0,a1,a2,a3,a4,a5,a6],_=>exact⟨a0,a1,a2,a3,a4,a5,a6,rfl⟩
theorem list5 {α:Type} {l:List α} (h:l.length=5):∃a0 a1 a2 a3 a4,l= [a0,a1,a2,a3,a4]:=by
 match l,h with
 | [a0,a1,a2,a3,a4],_=>exact⟨a0,a1,a2,a3,a4,rfl⟩
theorem list4p {α:Type} {l:List α} (h:l.length=4):∃a b c d,l= [a,b,c,d]:=by
 match l,h with
 | [a,b,c,d],_=>exact⟨a,b,c,d,rfl⟩
theorem ymf {H:Type} {enc:TypeId×Value→H} {w:World} {base:Nat} {spare:Nat→Bool} {held:Bool} {fuel:Nat} {cs:List Value} {x:DataW H×List MemPlace}
  (h:DataW.trod enc Tryz.prog w base spare held fuel 160 cs=some x):∃t l v:Int,cs= [.int .i64 t,.int .i64 l,.int .i64 v]:=by
 obtain⟨xs,n,_,rfl,hl,hlen,hf⟩:=DataW.trod_struct Tryz.underlying160 h
 rw [ypa]at hl
 obtain⟨c0,c1,c2,rfl⟩:=list3 hl
 have hx:xs.length=3:=by simpa using hlen
 obtain⟨y0,y1,y2,rfl⟩:=list3 hx
 have h0:=hf 0 _ rfl
 have h1:=hf 1 _ rfl
 have h2:=hf 2 _ rfl
 obtain⟨a0,e0,_,w0⟩:=DataW.trod_int Tryz.underlying3 h0
 obtain⟨a1,e1,_,w1⟩:=DataW.trod_int Tryz.underlying3 h1
 obtain⟨a2,e2,_,w2⟩:=DataW.trod_int Tryz.underlying3 h2
 simp [cells3]at e0 e1 e2
 subst e0 e1 e2
 exact⟨a0,a1,a2,rfl⟩
theorem ysn {w:World} {b off:Nat}:∀n,(∀i,i<n→ ∃e:Em,XAt w b (off+i*3) e)→ ∃l:List Em,l.length=n∧ ∀i,i<n→XAt w b (off+i*3) (xAt l i)
 |0,_=>⟨[],rfl,fun i hi=>by omega⟩
 |n+1,h=>by
  obtain⟨l,hl,hi⟩:=ysn n (fun i hi=>h i (by omega))
  obtain⟨e,he⟩:=h n (by omega)
  refine⟨l++ [e],by simp [hl],fun i hi'=> ?_⟩
  by_cases hin:i<n
  ·have:xAt (l++ [e]) i=xAt l i:=by unfold xAt;simp [List.getElem?_append_left (by omega:i<l.length)]
   rw [this];exact hi i hin
  ·have:xAt (l++ [e]) i=e:=by unfold xAt;simp [show i=l.length by omega]
   rw [this,show i=n by omega];exact he
theorem yph {H:Type} {enc:TypeId×Value→H} {w:World} {spare:Nat→Bool} {held:Bool} {fuel:Nat} {cs:List Value} {x:DataW H×List MemPlace}
  (hf:DataW.trod enc Tryz.prog w 0 spare held fuel 48 cs=some x):∃v l,cs= [v]∧IsX w v l:=by
 rcases DataW.trod_slice Tryz.underlying48 hf with ⟨rfl,_⟩|⟨a,len,cap,elems,rest,n,_,rfl,_,hb,hl,hm,hlen,hel,_,_⟩
 ·exact⟨_,[],rfl,none,0,rfl,Nat.le_refl _,by unfold maxLen;omega,.inl rfl⟩
 ·by_cases h0:len=0
  ·subst h0
   exact⟨_,[],rfl,_,_,rfl,hl,hm,.inl rfl⟩
  ·obtain⟨b,off,spot⟩:=a
   have hs:spot=none:=by
    have h1:=hel 0 (by omega)
    rw [ypa,List.getElem?_eq_getElem (by omega)]at h1
    obtain⟨cs,hc,ht⟩:=Option.bind_eq_some_iff.1 h1
    obtain⟨t,l,v,rfl⟩:=ymf ht
    have c0:=(World.cells?_some hc).2.2 0 (by omega)
    simpa [Addr.add] using World.cell?_spot c0
   subst hs
   have each:∀i,i<len→ ∃e:Em,XAt w b (off+i*3) e∧b<w.heap.size:=by
    intro i hi
    have h1:=hel i hi
    rw [ypa,List.getElem?_eq_getElem (by omega),add_plain]at h1
    obtain⟨cs,hc,ht⟩:=Option.bind_eq_some_iff.1 h1
    obtain⟨t,l,v,rfl⟩:=ymf ht
    have hblk:b<w.heap.size:=World.cells?_block hc (by omega)
    obtain⟨_,_,hcell⟩:=World.cells?_some hc
    simp only [add_plain]at hcell
    exact⟨⟨t,l,v⟩,⟨hcell 0 (by omega),hcell 1 (by omega),hcell 2 (by omega)⟩,hblk⟩
   obtain⟨_,_,hblk⟩:=each 0 (by omega)
   obtain⟨l,rfl,hi⟩:=ysn (w:=w) (b:=b) (off:=off) len (fun i hi=>by
    obtain⟨e,he,_⟩:=each i hi
    exact⟨e,he⟩)
   exact⟨_,l,rfl,_,_,rfl,hl,hm,.inr ⟨b,off,rfl,hblk,hi⟩⟩
theorem yki {H:Type} {enc:TypeId×Value→H} {w:World} {spare:Nat→Bool} {held:Bool} {fuel:Nat} {cs:List Value} {x:DataW H×List MemPlace}
  (h:DataW.trod enc Tryz.prog w 0 spare held fuel 141 cs=some x):∃(s:St) (v:Value),cs= [v,.int .i64 s.q,.int .i64 s.d]∧IsI w v s.r:=by
 obtain⟨xs,n,_,_,hl,hlen,hf⟩:=DataW.trod_struct Tryz.underlying141 h
 rw [yvh]at hl
 obtain⟨c0,c1,c2,rfl⟩:=list3 hl
 have hx:xs.length=3:=by simpa using hlen
 obtain⟨y0,y1,y2,rfl⟩:=list3 hx
 have h0:=hf 0 _ rfl
 have h1:=hf 1 _ rfl
 have h2:=hf 2 _ rfl
 obtain⟨v0,l0,e0,g0⟩:=yey h0
 obtain⟨a1,e1,_,_⟩:=DataW.trod_int Tryz.underlying3 h1
 obtain⟨a2,e2,_,_⟩:=DataW.trod_int Tryz.underlying3 h2
 simp [cells3,yfb]at e0 e1 e2
 subst e0 e1 e2
 exact⟨⟨l0,a1,a2⟩,c0,rfl,g0⟩
theorem ymb {H:Type} {enc:TypeId×Value→H} {w:World} {spare:Nat→Bool} {held:Bool} {fuel:Nat} {cs:List Value} {x:DataW H×List MemPlace}
  (h:DataW.trod enc Tryz.prog w 0 spare held fuel 230 cs=some x):∃(p:Ps) (u7 u10 u11:Value),cs= [.int .i64 p.e.t,.int .i64 p.e.s,.int .i64 p.e.q,.int .i64 p.e.d,.int .i64 p.e.k,.int .i64 p.e.v,.int .i64 p.e.g,u7,.int .i64 p.b.q,.int .i64 p.b.d,u10,u11]∧IsD w u7 (yaq p.b.r)∧IsD w u10 (evsD p.s)∧IsD w u11 (emsD p.x):=by
 obtain⟨xs,n,_,_,hl,hlen,hf⟩:=DataW.trod_struct Tryz.underlying230 h
 rw [yp6]at hl
 obtain⟨c0,c1,c2,c3,c4,c5,c6,c7,c8,c9,c10,c11,rfl⟩:=list12 hl
 have hx:xs.length=4:=by simpa using hlen
 obtain⟨y0,y1,y2,y3,rfl⟩:=list4p hx
 have h0:=hf 0 _ rfl
 have h1:=hf 1 _ rfl
 have h2:=hf 2 _ rfl
 have h3:=hf 3 _ rfl
 obtain⟨t,s,q,d,k,v,g,e0,_⟩:=yl4 h0
 obtain⟨st,v1,e1,g1⟩:=yki h1
 obtain⟨v2,l2,e2,g2⟩:=yix h2
 obtain⟨v3,l3,e3,g3⟩:=yph h3
 simp [yk3,yvh,yj2,yqe]at e0 e1 e2 e3
 obtain⟨rfl,rfl,rfl,rfl,rfl,rfl,rfl⟩:=e0
 obtain⟨rfl,rfl,rfl⟩:=e1
 subst e2 e3
 exact⟨⟨⟨t,s,q,d,k,v,g⟩,st,l2,l3⟩,c7,c10,c11,rfl,g1.isD,g2.isD,g3.isD⟩
theorem ytq {w:World} {b off:Nat}:∀n,(∀i,i<n→ ∃p:Ps,∀r,r<12→ ∃u,w.cell? ⟨b,off+i*12+r,none⟩=some u∧IsD w u (p.cell r))→
  ∃l:List Ps,l.length=n∧ ∀i,i<n→ ∀r,r<12→ ∃u,w.cell? ⟨b,off+i*12+r,none⟩=some u∧IsD w u ((psAt l i).cell r)
 |0,_=>⟨[],rfl,fun i hi=>by omega⟩
 |n+1,h=>by
  obtain⟨l,hl,hi⟩:=ytq n (fun i hi=>h i (by omega))
  obtain⟨e,he⟩:=h n (by omega)
  refine⟨l++ [e],by simp [hl],fun i hi'=> ?_⟩
  by_cases hin:i<n
  ·have:psAt (l++ [e]) i=psAt l i:=by unfold psAt;simp [List.getElem?_append_left (by omega:i<l.length)]
   rw [this];exact hi i hin
  ·have:psAt (l++ [e]) i=e:=by unfold psAt;simp [show i=l.length by omega]
   rw [this,show i=n by omega];exact he
theorem yqr {H:Type} {enc:TypeId×Value→H} {w:World} {spare:Nat→Bool} {held:Bool} {fuel:Nat} {cs:List Value} {x:DataW H×List MemPlace}
  (hf:DataW.trod enc Tryz.prog w 0 spare held fuel 142 cs=some x):∃v l,cs= [v]∧IsD w v (yay l):=by
 rcases DataW.trod_slice Tryz.underlying142 hf with ⟨rfl,_⟩|⟨a,len,cap,elems,rest,n,_,rfl,_,hb,hl,hm,hlen,hel,_,_⟩
 ·exact⟨_,[],rfl,.nil none 0 12 _ (by unfold maxLen;omega)⟩
 ·by_cases h0:len=0
  ·subst h0
   exact⟨_,[],rfl,.nil _ _ 12 _ hm⟩
  ·obtain⟨b,off,spot⟩:=a
   have hs:spot=none:=by
    have h1:=hel 0 (by omega)
    rw [yp6,List.getElem?_eq_getElem (by omega)]at h1
    obtain⟨cs,hc,ht⟩:=Option.bind_eq_some_iff.1 h1
    obtain⟨p,u7,u10,u11,rfl,_⟩:=ymb ht
    have c0:=(World.cells?_some hc).2.2 0 (by omega)
    simpa [Addr.add] using World.cell?_spot c0
   subst hs
   have each:∀i,i<len→ ∃p:Ps,(∀r,r<12→ ∃u,w.cell? ⟨b,off+i*12+r,none⟩=some u∧IsD w u (p.cell r))∧b<w.heap.size:=by
    intro i hi
    have h1:=hel i hi
    rw [yp6,List.getElem?_eq_getElem (by omega),add_plain]at h1
    obtain⟨cs,hc,ht⟩:=Option.bind_eq_some_iff.1 h1
    obtain⟨p,u7,u10,u11,rfl,g7,g10,g11⟩:=ymb ht
    have hblk:b<w.heap.size:=World.cells?_block hc (by omega)
    obtain⟨_,_,hcell⟩:=World.cells?_some hc
    simp only [add_plain]at hcell
    refine⟨p,fun r hr=> ?_,hblk⟩
    have hcr:=hcell r hr
    match r,hr,hcr with
    |0,_,hcr=>exact⟨_,hcr,.val _⟩
    |1,_,hcr=>exact⟨_,hcr,.val _⟩
    |2,_,hcr=>exact⟨_,hcr,.val _⟩
    |3,_,hcr=>exact⟨_,hcr,.val _⟩
    |4,_,hcr=>exact⟨_,hcr,.val _⟩
    |5,_,hcr=>exact⟨_,hcr,.val _⟩
    |6,_,hcr=>exact⟨_,hcr,.val _⟩
    |7,_,hcr=>exact⟨_,hcr,g7⟩
    |8,_,hcr=>exact⟨_,hcr,.val _⟩
    |9,_,hcr=>exact⟨_,hcr,.val _⟩
    |10,_,hcr=>exact⟨_,hcr,g10⟩
    |11,_,hcr=>exact⟨_,hcr,g11⟩
   obtain⟨_,_,hblk⟩:=each 0 (by omega)
   obtain⟨l,rfl,hi⟩:=ytq (w:=w) (b:=b) (off:=off) len (fun i hi=>by
    obtain⟨e,he,_⟩:=each i hi
    exact⟨e,he⟩)
   refine⟨_,l,rfl,IsD.of_parts hl hm (.inr ⟨b,off,rfl,hblk,fun j hj=> ?_⟩)⟩
   obtain⟨u,hu,hd⟩:=hi (j/12) (by omega) (j%12) (by omega)
   refine⟨u,?_,hd⟩
   rw [←hu]
   congr 2
   omega
set_option maxRecDepth 100000
open Go.ChangeShapes Go.WideShapes Go.ChangeAt Go.RowKit
theorem ynw:Tryz.prog.cellsOf 4=1:=by kernel_rfl
theorem ym2:Tryz.prog.cellsOf 157=8:=by kernel_rfl
theorem cellsMls:Tryz.prog.cellsOf 47=1:=by kernel_rfl
theorem cellsPas:Tryz.prog.cellsOf 46=1:=by kernel_rfl
theorem yp9:Tryz.prog.cellsOf 50=14:=by kernel_rfl
theorem list8k {α:Type} {l:List α} (h:l.length=8):∃a0 a1 a2 a3 a4 a5 a6 a7,l= [a0,a1,a2,a3,a4,a5,a6,a7]:=by
 match l,h with
 | [a0,a1,a2,a3,a4,a5,a6,a7],_=>exact⟨a0,a1,a2,a3,a4,a5,a6,a7,rfl⟩
theorem list2k {α:Type} {l:List α} (h:l.length=2):∃a0 a1,l= [a0,a1]:=by
 match l,h with
 | [a0,a1],_=>exact⟨a0,a1,rfl⟩
theorem list14k {α:Type} {l:List α} (h:l.length=14):∃a0 a1 a2 a3 a4 a5 a6 a7 a8 a9 a10 a11 a12 a13,l= [a0,a1,a2,a3,a4,a5,a6,a7,a8,a9,a10,a11,a12,a13]:=by
 match l,h with
 | [a0,a1,a2,a3,a4,a5,a6,a7,a8,a9,a10,a11,a12,a13],_=>exact⟨a0,a1,a2,a3,a4,a5,a6,a7,a8,a9,a10,a11,a12,a13,rfl⟩
theorem list9k {α:Type} {l:List α} (h:l.length=9):∃a0 a1 a2 a3 a4 a5 a6 a7 a8,l= [a0,a1,a2,a3,a4,a5,a6,a7,a8]:=by
 match l,h with
 | [a0,a1,a2,a3,a4,a5,a6,a7,a8],_=>exact⟨a0,a1,a2,a3,a4,a5,a6,a7,a8,rfl⟩
theorem ymd {H:Type} {enc:TypeId×Value→H} {w:World} {spare:Nat→Bool} {held:Bool} {fuel:Nat} {cs:List Value} {x:DataW H×List MemPlace}
  (h:DataW.trod enc Tryz.prog w 0 spare held fuel 157 cs=some x):∃m:Ml,cs=m.cs:=by
 obtain⟨xs,n,_,_,hl,hlen,hf⟩:=DataW.trod_struct Tryz.underlying157 h
 rw [ym2]at hl
 obtain⟨c0,c1,c2,c3,c4,c5,c6,c7,rfl⟩:=list8k hl
 have hx:xs.length=2:=by simpa using hlen
 obtain⟨y0,y1,rfl⟩:=list2k hx
 have h0:=hf 0 _ rfl
 have h1:=hf 1 _ rfl
 obtain⟨t,s,q,d,k,v,g,e0,_⟩:=yl4 h0
 obtain⟨a1,e1,_⟩:=DataW.trod_bool Tryz.underlying4 h1
 simp [yk3,ynw]at e0 e1
 obtain⟨rfl,rfl,rfl,rfl,rfl,rfl,rfl⟩:=e0
 subst e1
 exact⟨⟨⟨t,s,q,d,k,v,g⟩,a1⟩,rfl⟩
theorem yu6 {w:World} {b off:Nat}:∀n,(∀i,i<n→ ∃e:Ml,MlAt w b (off+i*8) e)→ ∃l:List Ml,l.length=n∧ ∀i,i<n→MlAt w b (off+i*8) (mlAt l i)
 |0,_=>⟨[],rfl,fun i hi=>by omega⟩
 |n+1,h=>by
  obtain⟨l,hl,hi⟩:=yu6 n (fun i hi=>h i (by omega))
  obtain⟨e,he⟩:=h n (by omega)
  refine⟨l++ [e],by simp [hl],fun i hi'=> ?_⟩
  by_cases hin:i<n
  ·have:mlAt (l++ [e]) i=mlAt l i:=by unfold mlAt;simp [List.getElem?_append_left (by omega:i<l.length)]
   rw [this];exact hi i hin
  ·have:mlAt (l++ [e]) i=e:=by unfold mlAt;simp [show i=l.length by omega]
   rw [this,show i=n by omega];exact he
theorem yqt {H:Type} {enc:TypeId×Value→H} {w:World} {spare:Nat→Bool} {held:Bool} {fuel:Nat} {cs:List Value} {x:DataW H×List MemPlace}
  (hf:DataW.trod enc Tryz.prog w 0 spare held fuel 47 cs=some x):∃v l,cs= [v]∧IsMl w v l:=by
 rcases DataW.trod_slice Tryz.underlying47 hf with ⟨rfl,_⟩|⟨a,len,cap,elems,rest,n,_,rfl,_,hb,hl,hm,hlen,hel,_,_⟩
 ·exact⟨_,[],rfl,none,0,rfl,Nat.le_refl _,by unfold maxLen;omega,.inl rfl⟩
 ·by_cases h0:len=0
  ·subst h0
   exact⟨_,[],rfl,_,_,rfl,hl,hm,.inl rfl⟩
  ·obtain⟨b,off,spot⟩:=a
   have hs:spot=none:=by
    have h1:=hel 0 (by omega)
    rw [ym2,List.getElem?_eq_getElem (by omega)]at h1
    obtain⟨cs,hc,ht⟩:=Option.bind_eq_some_iff.1 h1
    obtain⟨m,rfl⟩:=ymd ht
    have c0:=(World.cells?_some hc).2.2 0 (by omega)
    simpa [Addr.add] using World.cell?_spot c0
   subst hs
   have each:∀i,i<len→ ∃e:Ml,MlAt w b (off+i*8) e∧b<w.heap.size:=by
    intro i hi
    have h1:=hel i hi
    rw [ym2,List.getElem?_eq_getElem (by omega),add_plain]at h1
    obtain⟨cs,hc,ht⟩:=Option.bind_eq_some_iff.1 h1
    obtain⟨m,rfl⟩:=ymd ht
    have hblk:b<w.heap.size:=World.cells?_block hc (by omega)
    obtain⟨_,_,hcell⟩:=World.cells?_some hc
    simp only [add_plain]at hcell
    exact⟨m,⟨hcell 0 (by omega),hcell 1 (by omega),hcell 2 (by omega),hcell 3 (by omega),hcell 4 (by omega),hcell 5 (by omega),hcell 6 (by omega),hcell 7 (by omega)⟩,hblk⟩
   obtain⟨_,_,hblk⟩:=each 0 (by omega)
   obtain⟨l,rfl,hi⟩:=yu6 (w:=w) (b:=b) (off:=off) len (fun i hi=>by
    obtain⟨e,he,_⟩:=each i hi
    exact⟨e,he⟩)
   exact⟨_,l,rfl,_,_,rfl,hl,hm,.inr ⟨b,off,rfl,hblk,hi⟩⟩
theorem ymc {H:Type} {enc:TypeId×Value→H} {w:World} {spare:Nat→Bool} {held:Bool} {fuel:Nat} {cs:List Value} {x:DataW H×List MemPlace}
  (h:DataW.trod enc Tryz.prog w 0 spare held fuel 144 cs=some x):∃(p:Pa) (u1 u4 u5 u6:Value),cs= [.int .i64 p.n,u1,.int .i64 p.st.q,.int .i64 p.st.d,u4,u5,u6]∧IsD w u1 (yaq p.st.r)∧IsD w u4 (yay p.p)∧IsD w u5 (evsD p.t)∧IsD w u6 (yaq p.a):=by
 obtain⟨xs,n,_,_,hl,hlen,hf⟩:=DataW.trod_struct Tryz.underlying144 h
 rw [yp7]at hl
 obtain⟨c0,c1,c2,c3,c4,c5,c6,rfl⟩:=list7p hl
 have hx:xs.length=5:=by simpa using hlen
 obtain⟨y0,y1,y2,y3,y4,rfl⟩:=list5 hx
 have h0:=hf 0 _ rfl
 have h1:=hf 1 _ rfl
 have h2:=hf 2 _ rfl
 have h3:=hf 3 _ rfl
 have h4:=hf 4 _ rfl
 obtain⟨a0,e0,_,_⟩:=DataW.trod_int Tryz.underlying3 h0
 obtain⟨st,v1,e1,g1⟩:=yki h1
 obtain⟨v2,l2,e2,g2⟩:=yqr h2
 obtain⟨v3,l3,e3,g3⟩:=yix h3
 obtain⟨v4,l4,e4,g4⟩:=yey h4
 simp [cells3,yvh,cellsPss,yj2,yfb]at e0 e1 e2 e3 e4
 obtain⟨rfl,rfl,rfl⟩:=e1
 subst e0 e2 e3 e4
 exact⟨⟨a0,st,l2,l3,l4⟩,c1,c4,c5,c6,rfl,g1.isD,g2,g3.isD,g4.isD⟩
theorem ytw {w:World} {b off:Nat}:∀n,(∀i,i<n→ ∃p:Pa,∀r,r<7→ ∃u,w.cell? ⟨b,off+i*7+r,none⟩=some u∧IsD w u (p.cell r))→
  ∃l:List Pa,l.length=n∧ ∀i,i<n→ ∀r,r<7→ ∃u,w.cell? ⟨b,off+i*7+r,none⟩=some u∧IsD w u ((paAt l i).cell r)
 |0,_=>⟨[],rfl,fun i hi=>by omega⟩
 |n+1,h=>by
  obtain⟨l,hl,hi⟩:=ytw n (fun i hi=>h i (by omega))
  obtain⟨e,he⟩:=h n (by omega)
  refine⟨l++ [e],by simp [hl],fun i hi'=> ?_⟩
  by_cases hin:i<n
  ·have:paAt (l++ [e]) i=paAt l i:=by unfold paAt;simp [List.getElem?_append_left (by omega:i<l.length)]
   rw [this];exact hi i hin
  ·have:paAt (l++ [e]) i=e:=by unfold paAt;simp [show i=l.length by omega]
   rw [this,show i=n by omega];exact he
theorem yqs {H:Type} {enc:TypeId×Value→H} {w:World} {spare:Nat→Bool} {held:Bool} {fuel:Nat} {cs:List Value} {x:DataW H×List MemPlace}
  (hf:DataW.trod enc Tryz.prog w 0 spare held fuel 46 cs=some x):∃v l,cs= [v]∧IsD w v (yb8 l):=by
 rcases DataW.trod_slice Tryz.underlying46 hf with ⟨rfl,_⟩|⟨a,len,cap,elems,rest,n,_,rfl,_,hb,hl,hm,hlen,hel,_,_⟩
 ·exact⟨_,[],rfl,.nil none 0 7 _ (by unfold maxLen;omega)⟩
 ·by_cases h0:len=0
  ·subst h0
   exact⟨_,[],rfl,.nil _ _ 7 _ hm⟩
  ·obtain⟨b,off,spot⟩:=a
   have hs:spot=none:=by
    have h1:=hel 0 (by omega)
    rw [yp7,List.getElem?_eq_getElem (by omega)]at h1
    obtain⟨cs,hc,ht⟩:=Option.bind_eq_some_iff.1 h1
    obtain⟨p,u1,u4,u5,u6,rfl,_⟩:=ymc ht
    have c0:=(World.cells?_some hc).2.2 0 (by omega)
    simpa [Addr.add] using World.cell?_spot c0
   subst hs
   have each:∀i,i<len→ ∃p:Pa,(∀r,r<7→ ∃u,w.cell? ⟨b,off+i*7+r,none⟩=some u∧IsD w u (p.cell r))∧b<w.heap.size:=by
    intro i hi
    have h1:=hel i hi
    rw [yp7,List.getElem?_eq_getElem (by omega),add_plain]at h1
    obtain⟨cs,hc,ht⟩:=Option.bind_eq_some_iff.1 h1
    obtain⟨p,u1,u4,u5,u6,rfl,g1,g4,g5,g6⟩:=ymc ht
    have hblk:b<w.heap.size:=World.cells?_block hc (by omega)
    obtain⟨_,_,hcell⟩:=World.cells?_some hc
    simp only [add_plain]at hcell
    refine⟨p,fun r hr=> ?_,hblk⟩
    have hcr:=hcell r hr
    match r,hr,hcr with
    |0,_,hcr=>exact⟨_,hcr,.val _⟩
    |1,_,hcr=>exact⟨_,hcr,g1⟩
    |2,_,hcr=>exact⟨_,hcr,.val _⟩
    |3,_,hcr=>exact⟨_,hcr,.val _⟩
    |4,_,hcr=>exact⟨_,hcr,g4⟩
    |5,_,hcr=>exact⟨_,hcr,g5⟩
    |6,_,hcr=>exact⟨_,hcr,g6⟩
   obtain⟨_,_,hblk⟩:=each 0 (by omega)
   obtain⟨l,rfl,hi⟩:=ytw (w:=w) (b:=b) (off:=off) len (fun i hi=>by
    obtain⟨e,he,_⟩:=each i hi
    exact⟨e,he⟩)
   refine⟨_,l,rfl,IsD.of_parts hl hm (.inr ⟨b,off,rfl,hblk,fun j hj=> ?_⟩)⟩
   obtain⟨u,hu,hd⟩:=hi (j/7) (by omega) (j%7) (by omega)
   refine⟨u,?_,hd⟩
   rw [←hu]
   congr 2
   omega
theorem ykj {H:Type} {enc:TypeId×Value→H} {w:World} {spare:Nat→Bool} {held:Bool} {fuel:Nat} {cs:List Value} {x:DataW H×List MemPlace}
  (h:DataW.trod enc Tryz.prog w 0 spare held fuel 26 cs=some x):∃(m:Md) (vi vh vs:Value),cs= [.int .i64 m.n,.int .i64 m.s,vi,vh,vs,.int .i64 m.z]∧IsI w vi m.i∧IsH w vh m.h∧IsEvs w vs m.e:=by
 obtain⟨xs,n,_,_,hl,hlen,hf⟩:=DataW.trod_struct Tryz.underlying26 h
 rw [yvj]at hl
 obtain⟨c0,c1,c2,c3,c4,c5,rfl⟩:=list6 hl
 have hx:xs.length=6:=by simpa using hlen
 obtain⟨y0,y1,y2,y3,y4,y5,rfl⟩:=list6 hx
 have h0:=hf 0 _ rfl
 have h1:=hf 1 _ rfl
 have h2:=hf 2 _ rfl
 have h3:=hf 3 _ rfl
 have h4:=hf 4 _ rfl
 have h5:=hf 5 _ rfl
 obtain⟨a0,e0,_,_⟩:=DataW.trod_int Tryz.underlying3 h0
 obtain⟨a1,e1,_,_⟩:=DataW.trod_int Tryz.underlying3 h1
 obtain⟨v2,l2,e2,g2⟩:=yey h2
 obtain⟨v3,l3,e3,g3⟩:=trod_hs h3
 obtain⟨v4,l4,e4,g4⟩:=yix h4
 obtain⟨a5,e5,_,_⟩:=DataW.trod_int Tryz.underlying3 h5
 simp [cells3,yfb,yvi,yj2]at e0 e1 e2 e3 e4 e5
 subst e0 e1 e2 e3 e4 e5
 exact⟨⟨a0,a1,l2,l3,l4,a5⟩,c2,c3,c4,rfl,g2,g3,g4⟩
set_option maxRecDepth 100000
open Go.ChangeShapes Go.WideShapes Go.ChangeAt Go.RowKit
theorem cellsKns:Tryz.prog.cellsOf 27=1:=by kernel_rfl
theorem cellsVcs:Tryz.prog.cellsOf 28=1:=by kernel_rfl
theorem cellsWd:Tryz.prog.cellsOf 30=8:=by kernel_rfl
theorem list3k {α:Type} {l:List α} (h:l.length=3):∃a0 a1 a2,l= [a0,a1,a2]:=by
 match l,h with
 | [a0,a1,a2],_=>exact⟨a0,a1,a2,rfl⟩
theorem yj4 {H:Type} {enc:TypeId×Value→H} {w:World} {spare:Nat→Bool} {held:Bool} {fuel:Nat} {cs:List Value} {x:DataW H×List MemPlace}
  (h:DataW.trod enc Tryz.prog w 0 spare held fuel 50 cs=some x):∃(k:Kn) (vi vh vs u6 u7 u8 u12 u13:Value),cs= [.int .i64 k.m.n,.int .i64 k.m.s,vi,vh,vs,.int .i64 k.m.z,u6,u7,u8,.int .i64 k.t,.int .i64 k.q,.bool k.f,u12,u13]∧IsKern w (.agg #[.int .i64 k.m.n,.int .i64 k.m.s,vi,vh,vs,.int .i64 k.m.z,u6,u7,u8,.int .i64 k.t,.int .i64 k.q,.bool k.f,u12,u13]) k:=by
 obtain⟨xs,n,_,_,hl,hlen,hf⟩:=DataW.trod_struct Tryz.underlying50 h
 rw [yp9]at hl
 obtain⟨c0,c1,c2,c3,c4,c5,c6,c7,c8,c9,c10,c11,c12,c13,rfl⟩:=list14k hl
 have hx:xs.length=9:=by simpa using hlen
 obtain⟨y0,y1,y2,y3,y4,y5,y6,y7,y8,rfl⟩:=list9k hx
 have h0:=hf 0 _ rfl
 have h1:=hf 1 _ rfl
 have h2:=hf 2 _ rfl
 have h3:=hf 3 _ rfl
 have h4:=hf 4 _ rfl
 have h5:=hf 5 _ rfl
 have h6:=hf 6 _ rfl
 have h7:=hf 7 _ rfl
 have h8:=hf 8 _ rfl
 obtain⟨m,vi,vh,vs,e0,gi,gh,ge⟩:=ykj h0
 obtain⟨v1,l1,e1,g1⟩:=yey h1
 obtain⟨v2,l2,e2,g2⟩:=yqs h2
 obtain⟨v3,l3,e3,g3⟩:=yqt h3
 obtain⟨a4,e4,_,_⟩:=DataW.trod_int Tryz.underlying3 h4
 obtain⟨a5,e5,_,_⟩:=DataW.trod_int Tryz.underlying3 h5
 obtain⟨a6,e6,_⟩:=DataW.trod_bool Tryz.underlying4 h6
 obtain⟨v7,l7,e7,g7⟩:=yix h7
 obtain⟨v8,l8,e8,g8⟩:=yph h8
 simp [cells3,yvj,yfb,cellsPas,cellsMls,ynw,yj2,yqe]at e0 e1 e2 e3 e4 e5 e6 e7 e8
 obtain⟨rfl,rfl,rfl,rfl,rfl,rfl⟩:=e0
 subst e1 e2 e3 e4 e5 e6 e7 e8
 exact⟨⟨m,l1,l2,l3,a4,a5,a6,l7,l8⟩,c2,c3,c4,c6,c7,c8,c12,c13,rfl,c2,c3,c4,c6,c7,c8,c12,c13,rfl,⟨_,_,_,rfl,gi,gh,ge⟩,g1.isD,g2,g3.isD,g7.isD,g8.isD⟩
theorem yud {w:World} {b off:Nat}:∀n,(∀i,i<n→ ∃k:Kn,KAt w b (off+i*14) k)→ ∃l:List Kn,l.length=n∧ ∀i,i<n→KAt w b (off+i*14) (knAt l i)
 |0,_=>⟨[],rfl,fun i hi=>by omega⟩
 |n+1,h=>by
  obtain⟨l,hl,hi⟩:=yud n (fun i hi=>h i (by omega))
  obtain⟨e,he⟩:=h n (by omega)
  refine⟨l++ [e],by simp [hl],fun i hi'=> ?_⟩
  by_cases hin:i<n
  ·have:knAt (l++ [e]) i=knAt l i:=by unfold knAt;simp [List.getElem?_append_left (by omega:i<l.length)]
   rw [this];exact hi i hin
  ·have:knAt (l++ [e]) i=e:=by unfold knAt;simp [show i=l.length by omega]
   rw [this,show i=n by omega];exact he
theorem v_list {w:World} {b off:Nat}:∀n,(∀i,i<n→ ∃(u:Value) (d:List Int),w.cell? ⟨b,off+i,none⟩=some u∧IsI w u d)→ ∃l:List (List Int),l.length=n∧ ∀i,i<n→ ∃u,w.cell? ⟨b,off+i,none⟩=some u∧IsI w u (vAt l i)
 |0,_=>⟨[],rfl,fun i hi=>by omega⟩
 |n+1,h=>by
  obtain⟨l,hl,hi⟩:=v_list n (fun i hi=>h i (by omega))
  obtain⟨u,e,hu,he⟩:=h n (by omega)
  refine⟨l++ [e],by simp [hl],fun i hi'=> ?_⟩
  by_cases hin:i<n
  ·have:vAt (l++ [e]) i=vAt l i:=by unfold vAt;simp [List.getElem?_append_left (by omega:i<l.length)]
   rw [this];exact hi i hin
  ·have:vAt (l++ [e]) i=e:=by unfold vAt;simp [show i=l.length by omega]
   rw [this,show i=n by omega];exact⟨u,hu,he⟩
theorem yme {H:Type} {enc:TypeId×Value→H} {w:World} {spare:Nat→Bool} {held:Bool} {fuel:Nat} {cs:List Value} {x:DataW H×List MemPlace}
  (hf:DataW.trod enc Tryz.prog w 0 spare held fuel 27 cs=some x):∃v l,cs= [v]∧IsKs w v l:=by
 rcases DataW.trod_slice Tryz.underlying27 hf with ⟨rfl,_⟩|⟨a,len,cap,elems,rest,n,_,rfl,_,hb,hl,hm,hlen,hel,_,_⟩
 ·exact⟨_,[],rfl,none,0,rfl,Nat.le_refl _,by unfold maxLen;omega,.inl rfl⟩
 ·by_cases h0:len=0
  ·subst h0
   exact⟨_,[],rfl,_,_,rfl,hl,hm,.inl rfl⟩
  ·obtain⟨b,off,spot⟩:=a
   have hs:spot=none:=by
    have h1:=hel 0 (by omega)
    rw [yp9,List.getElem?_eq_getElem (by omega)]at h1
    obtain⟨cs,hc,ht⟩:=Option.bind_eq_some_iff.1 h1
    obtain⟨k,vi,vh,vs,u6,u7,u8,u12,u13,rfl,_⟩:=yj4 ht
    have c0:=(World.cells?_some hc).2.2 0 (by omega)
    simpa [Addr.add] using World.cell?_spot c0
   subst hs
   have each:∀i,i<len→ ∃k:Kn,KAt w b (off+i*14) k∧b<w.heap.size:=by
    intro i hi
    have h1:=hel i hi
    rw [yp9,List.getElem?_eq_getElem (by omega),add_plain]at h1
    obtain⟨cs,hc,ht⟩:=Option.bind_eq_some_iff.1 h1
    obtain⟨k,vi,vh,vs,u6,u7,u8,u12,u13,rfl,hk⟩:=yj4 ht
    have hblk:b<w.heap.size:=World.cells?_block hc (by omega)
    obtain⟨_,_,hcell⟩:=World.cells?_some hc
    simp only [add_plain]at hcell
    exact⟨k,⟨vi,vh,vs,u6,u7,u8,u12,u13,⟨hcell 0 (by omega),hcell 1 (by omega),hcell 2 (by omega),hcell 3 (by omega),hcell 4 (by omega),hcell 5 (by omega),hcell 6 (by omega),hcell 7 (by omega),hcell 8 (by omega),hcell 9 (by omega),hcell 10 (by omega),hcell 11 (by omega),hcell 12 (by omega),hcell 13 (by omega)⟩,hk⟩,hblk⟩
   obtain⟨_,_,hblk⟩:=each 0 (by omega)
   obtain⟨l,rfl,hi⟩:=yud (w:=w) (b:=b) (off:=off) len (fun i hi=>by
    obtain⟨e,he,_⟩:=each i hi
    exact⟨e,he⟩)
   exact⟨_,l,rfl,_,_,rfl,hl,hm,.inr ⟨b,off,rfl,hblk,hi⟩⟩
theorem ysv {H:Type} {enc:TypeId×Value→H} {w:World} {spare:Nat→Bool} {held:Bool} {fuel:Nat} {cs:List Value} {x:DataW H×List MemPlace}
  (hf:DataW.trod enc Tryz.prog w 0 spare held fuel 28 cs=some x):∃v l,cs= [v]∧IsD w v (ycd l):=by
 rcases DataW.trod_slice Tryz.underlying28 hf with ⟨rfl,_⟩|⟨a,len,cap,elems,rest,n,_,rfl,_,hb,hl,hm,hlen,hel,_,_⟩
 ·exact⟨_,[],rfl,.nil none 0 1 _ (by unfold maxLen;omega)⟩
 ·by_cases h0:len=0
  ·subst h0
   exact⟨_,[],rfl,.nil _ _ 1 _ hm⟩
  ·obtain⟨b,off,spot⟩:=a
   have hs:spot=none:=by
    have h1:=hel 0 (by omega)
    rw [yfb,List.getElem?_eq_getElem (by omega)]at h1
    obtain⟨cs,hc,ht⟩:=Option.bind_eq_some_iff.1 h1
    obtain⟨v,l,rfl,_⟩:=yey ht
    have c0:=(World.cells?_some hc).2.2 0 (by omega)
    simpa [Addr.add] using World.cell?_spot c0
   subst hs
   have each:∀i,i<len→ ∃(u:Value) (l:List Int),(w.cell? ⟨b,off+i,none⟩=some u∧IsI w u l)∧b<w.heap.size:=by
    intro i hi
    have h1:=hel i hi
    rw [yfb,List.getElem?_eq_getElem (by omega),add_plain]at h1
    obtain⟨cs,hc,ht⟩:=Option.bind_eq_some_iff.1 h1
    obtain⟨v,l,rfl,hv⟩:=yey ht
    have hblk:b<w.heap.size:=World.cells?_block hc (by omega)
    obtain⟨_,_,hcell⟩:=World.cells?_some hc
    have h2:=hcell 0 (by omega)
    simp only [add_plain]at h2
    exact⟨v,l,⟨by simpa using h2,hv⟩,hblk⟩
   obtain⟨_,_,_,hblk⟩:=each 0 (by omega)
   obtain⟨l,rfl,hi⟩:=v_list (w:=w) (b:=b) (off:=off) len (fun i hi=>by
    obtain⟨u,l,he,_⟩:=each i hi
    exact⟨u,l,he⟩)
   refine⟨_,l,rfl,IsD.of_parts hl hm (.inr ⟨b,off,rfl,hblk,fun j hj=> ?_⟩)⟩
   obtain⟨u,hu,hd⟩:=hi j (by omega)
   exact⟨u,hu,hd.isD⟩
theorem yrn {H:Type} {enc:TypeId×Value→H} {w:World} {b0:Nat} {spare:Nat→Bool} {held:Bool} {r:Reach} {v:Value} {d:DataW H} {p:List MemPlace}
  (hv:Value.okWide Tryz.prog w r b0 30 v) (h:DataW.Trod enc Tryz.prog w 0 spare held 30 v d p):∃k:Wd,IsW w v k:=by
 obtain⟨cs,rfl,hsz⟩:=okWide_struct Tryz.underlying30 hv
 obtain⟨fuel,hf⟩:=h
 obtain⟨xs,n,_,_,hl,hlen,hf⟩:=DataW.trod_struct Tryz.underlying30 hf
 rw [cellsWd]at hl
 obtain⟨c0,c1,c2,c3,c4,c5,c6,c7,hcs⟩:=list8k hl
 have hx:xs.length=3:=by simpa using hlen
 obtain⟨y0,y1,y2,rfl⟩:=list3k hx
 rw [hcs]at hf
 have h0:=hf 0 _ rfl
 have h1:=hf 1 _ rfl
 have h2:=hf 2 _ rfl
 obtain⟨m,vi,vh,vs,e0,gi,gh,ge⟩:=ykj h0
 obtain⟨v1,l1,e1,g1⟩:=yme h1
 obtain⟨v2,l2,e2,g2⟩:=ysv h2
 simp [yvj,cellsKns,cellsVcs]at e0 e1 e2
 obtain⟨rfl,rfl,rfl,rfl,rfl,rfl⟩:=e0
 subst e1 e2
 refine⟨⟨m,l1,l2⟩,c2,c3,c4,c6,c7,?_,⟨_,_,_,rfl,gi,gh,ge⟩,g1,g2⟩
 rw [show cs= #[.int .i64 m.n,.int .i64 m.s,c2,c3,c4,.int .i64 m.z,c6,c7]from by
  apply Array.toList_inj.1
  simpa [Value.cells] using hcs]
end Go.Proofs.YtmobiieoecjmdaaGreat

