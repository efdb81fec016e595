/- WEq, OpenS, VOpen, MOpen, SOpen, TPtO, KOp, WOp, LawTaW -/
import Derived.Test.YtmobiieoecjmdaaGreatExactTableG04
import Derived.Test.YtmobiieoecjmdaaGreatExactTableG39
import Derived.Deep.RegionHeld3
import Derived.Test.YtmobiieoecjmdaaGreatExactTableG14
import Derived.Test.YtmobiieoecjmdaaGreatExactTableG01
import Derived.ProofKit
import Derived.ChangeOld
import Derived.OpenShut
import Derived.SizedLaws
import Derived.Test.YtmobiieoecjmdaaGreatExactTableG03
import Derived.Test.YtmobiieoecjmdaaGreatExactTableG33
import Derived.Test.YtmobiieoecjmdaaGreatExactTableG36
import Derived.Test.YtmobiieoecjmdaaGreatExactTableG38
import Derived.Deep.Cut
/- Two worlds alike. -/
namespace Go.Proofs.YtmobiieoecjmdaaGreat
open Go.RowKit
set_option maxRecDepth 100000 in
set_option maxHeartbeats 8000000 in
theorem eq_kernels (x y:Value) (l:List Kn) (w:World) (hl:SmallKs l) (hx:IsKs w x l) (hy:IsKs w y l):
  Calls Tryz.prog 49 #[x,y] w fun e w'=>e= .returned (.bool true)∧Below w.heap.size w w':=by
 obtain⟨a,cap,rfl,h1,h2,h⟩:=hx
 obtain⟨a',cap',rfl,h1',h2',h'⟩:=hy
 have HS:Hid (SmallKs l):=hl
 have hl2:l.length≤1048576:=hl.1
 clear h1 h2 h1' h2' hl
 go_enter Tryz.func49,Tryz.ntmps49
 go_wp2
 go_loopw [5] (fun i wr=>∃k:Nat,k≤l.length∧i= .int .i64 k∧Below w.heap.size w wr) (fun i _=>l.length-(intOf i).toNat)
 case atStart=>exact⟨0,Nat.zero_le _,rfl,Below.refl _ _⟩
 case round=>
  obtain⟨k,hk,rfl,hB⟩:=hrel
  have HB:Hid (Below w.heap.size w wr):=hB
  by_cases hlt:k<l.length
  ·obtain⟨b,off,rfl,hb,hc⟩:=h.resolve_left (by omega)
   obtain⟨b',off',rfl,hb',hc'⟩:=h'.resolve_left (by omega)
   obtain⟨vi,vh,vs,u6,u7,u8,u12,u13,⟨f0,f1,f2,f3,f4,f5,f6,f7,f8,f9,f10,f11,f12,f13⟩,hD⟩:=(hc k hlt).under hb hB
   obtain⟨xvi,xvh,xvs,xu6,xu7,xu8,xu12,xu13,⟨e0,e1,e2,e3,e4,e5,e6,e7,e8,e9,e10,e11,e12,e13⟩,hG⟩:=(hc' k hlt).under hb' hB
   have HD:Hid (IsKern wr.drew (.agg #[.int .i64 (knAt l k).m.n,.int .i64 (knAt l k).m.s,vi,vh,vs,.int .i64 (knAt l k).m.z,u6,u7,u8,.int .i64 (knAt l k).t,.int .i64 (knAt l k).q,.bool (knAt l k).f,u12,u13]) (knAt l k)):=hD.under (Below.refl _ wr).drew
   have HG:Hid (IsKern wr.drew (.agg #[.int .i64 (knAt l k).m.n,.int .i64 (knAt l k).m.s,xvi,xvh,xvs,.int .i64 (knAt l k).m.z,xu6,xu7,xu8,.int .i64 (knAt l k).t,.int .i64 (knAt l k).q,.bool (knAt l k).f,xu12,xu13]) (knAt l k)):=hG.under (Below.refl _ wr).drew
   have HW:Hid (SmallK (knAt l k)):=HS.out.2 k hlt
   have hbr:b<wr.heap.size:=Nat.lt_of_lt_of_le hb hB.size
   have hbr':b'<wr.heap.size:=Nat.lt_of_lt_of_le hb' hB.size
   clear hB hc hc' h h' hD hG
   go_wp2_with fail
   go_region_held3 (fun W=>W.cell? ⟨b,off+k*14,none⟩=some (.int .i64 (knAt l k).m.n)∧W.cell? ⟨b,off+k*14+1,none⟩=some (.int .i64 (knAt l k).m.s)∧W.cell? ⟨b,off+k*14+2,none⟩=some (vi)∧W.cell? ⟨b,off+k*14+3,none⟩=some (vh)∧W.cell? ⟨b,off+k*14+4,none⟩=some (vs)∧W.cell? ⟨b,off+k*14+5,none⟩=some (.int .i64 (knAt l k).m.z)∧W.cell? ⟨b,off+k*14+6,none⟩=some (u6)∧W.cell? ⟨b,off+k*14+7,none⟩=some (u7)∧W.cell? ⟨b,off+k*14+8,none⟩=some (u8)∧W.cell? ⟨b,off+k*14+9,none⟩=some (.int .i64 (knAt l k).t)∧W.cell? ⟨b,off+k*14+10,none⟩=some (.int .i64 (knAt l k).q)∧W.cell? ⟨b,off+k*14+11,none⟩=some (.bool (knAt l k).f)∧W.cell? ⟨b,off+k*14+12,none⟩=some (u12)∧W.cell? ⟨b,off+k*14+13,none⟩=some (u13)∧W.cell? ⟨b',off'+k*14,none⟩=some (.int .i64 (knAt l k).m.n)∧W.cell? ⟨b',off'+k*14+1,none⟩=some (.int .i64 (knAt l k).m.s)∧W.cell? ⟨b',off'+k*14+2,none⟩=some (xvi)∧W.cell? ⟨b',off'+k*14+3,none⟩=some (xvh)∧W.cell? ⟨b',off'+k*14+4,none⟩=some (xvs)∧W.cell? ⟨b',off'+k*14+5,none⟩=some (.int .i64 (knAt l k).m.z)∧W.cell? ⟨b',off'+k*14+6,none⟩=some (xu6)∧W.cell? ⟨b',off'+k*14+7,none⟩=some (xu7)∧W.cell? ⟨b',off'+k*14+8,none⟩=some (xu8)∧W.cell? ⟨b',off'+k*14+9,none⟩=some (.int .i64 (knAt l k).t)∧W.cell? ⟨b',off'+k*14+10,none⟩=some (.int .i64 (knAt l k).q)∧W.cell? ⟨b',off'+k*14+11,none⟩=some (.bool (knAt l k).f)∧W.cell? ⟨b',off'+k*14+12,none⟩=some (xu12)∧W.cell? ⟨b',off'+k*14+13,none⟩=some (xu13)) ((repeat' apply And.intro)<;>first|(go_keep;done)|(rw [hcA _ _ (by first|omega|(simp;omega)|simp [*])];simp [*];done))
    (first|(go_at_call 22;refine(eqKernel_same _ _ (knAt l k) _ HW.out HD.out HG.out).mono ?_;rintro e w2 ⟨rfl,hb2⟩;obtain⟨hcA,hfA⟩:=bcell hb2))
   clear hcA hfA
   go_wp2
   go_roundw
   case rel=>exact⟨k+1,by omega,by go_num,HB.out.drew.trans (hb2.mono (by have:=HB.out.size;simpa using this))⟩
   case measure=>simp [intOf];omega
  ·clear hB h h'
   go_wp2
   go_ret
   exact⟨rfl,HB.out⟩
set_option maxHeartbeats 8000000 in
theorem eq_vecs (x y:Value) (l:List (List Int)) (w:World) (hl:(vecsD l).wt≤1048576) (hx:IsD w x (vecsD l)) (hy:IsD w y (vecsD l)):
  Calls Tryz.prog 13 #[x,y] w fun e w'=>e= .returned (.bool true)∧Below w.heap.size w w':=by
 obtain⟨a,cap,rfl,h1,h2,h⟩:=IsD.parts (c:=1) (n:=l.length) hx
 obtain⟨a',cap',rfl,h1',h2',h'⟩:=IsD.parts (c:=1) (n:=l.length) hy
 have HS:Hid ((vecsD l).wt≤1048576):=hl
 have hl2:l.length≤1048576:=by rw [vecs_wt]at hl;omega
 clear h1 h2 h1' h2' hx hy hl
 go_enter Tryz.func13,Tryz.ntmps13
 go_wp2
 go_loopw [5] (fun i wr=>∃k:Nat,k≤l.length∧i= .int .i64 k∧Below w.heap.size w wr) (fun i _=>l.length-(intOf i).toNat)
 case atStart=>exact⟨0,Nat.zero_le _,rfl,Below.refl _ _⟩
 case round=>
  obtain⟨k,hk,rfl,hB⟩:=hrel
  have HB:Hid (Below w.heap.size w wr):=hB
  by_cases hlt:k<l.length
  ·obtain⟨b,off,rfl,hb,hc⟩:=h.resolve_left (by omega)
   obtain⟨b',off',rfl,hb',hc'⟩:=h'.resolve_left (by omega)
   obtain⟨u,hu,hd⟩:=hc k (by omega)
   obtain⟨v,hv,hg⟩:=hc' k (by omega)
   have f0:=(hB.cell (p:=⟨b,off+k,none⟩) hb).trans hu
   have e0:=(hB.cell (p:=⟨b',off'+k,none⟩) hb').trans hv
   have HD:Hid (IsD wr.drew u (intsD (vAt l k))):=(hd.under hB).under (Below.refl _ wr).drew
   have HG:Hid (IsD wr.drew v (intsD (vAt l k))):=(hg.under hB).under (Below.refl _ wr).drew
   have HW:Hid ((vAt l k).length≤1048576):=Nat.le_trans (vec_le hlt) HS.out
   have hbr:b<wr.heap.size:=Nat.lt_of_lt_of_le hb hB.size
   have hbr':b'<wr.heap.size:=Nat.lt_of_lt_of_le hb' hB.size
   clear hB hc hc' h h' hd hg hu hv
   go_wp2_with fail
   go_region_held3 (fun W=>W.cell? ⟨b,off+k,none⟩=some u∧W.cell? ⟨b',off'+k,none⟩=some v) ((repeat' apply And.intro)<;>first|(go_keep;done)|(rw [hcA _ _ (by first|omega|(simp;omega)|simp [*])];simp [*];done))
    (first|(go_at_call 32;refine(eq_ints _ _ (vAt l k) _ HW.out HD.out HG.out).mono ?_;rintro e w2 ⟨rfl,hb2⟩;obtain⟨hcA,hfA⟩:=bcell hb2))
   clear hcA hfA
   go_wp2
   go_roundw
   case rel=>exact⟨k+1,by omega,by go_num,HB.out.drew.trans (hb2.mono (by have:=HB.out.size;simpa using this))⟩
   case measure=>simp [intOf];omega
  ·clear hB h h'
   go_wp2
   go_ret
   exact⟨rfl,HB.out⟩
set_option maxRecDepth 100000 in
set_option maxHeartbeats 4000000 in
theorem eqWorld_same (x y:Value) (v:Wd) (w:World) (hs:SmallWd v) (hx:IsW w x v) (hy:IsW w y v):
  Calls Tryz.prog 14 #[x,y] w fun e w'=>e= .returned (.bool true)∧Below w.heap.size w w':=by
 obtain⟨vi,vh,vs,uk,uc,rfl,hm,hk,hc⟩:=hx
 obtain⟨xvi,xvh,xvs,xuk,xuc,rfl,jm,jk,jc⟩:=hy
 have HS:Hid (SmallWd v):=hs
 have HM:Hid (IsM w (.agg #[.int .i64 v.m.n,.int .i64 v.m.s,vi,vh,vs,.int .i64 v.m.z]) v.m∧IsM w (.agg #[.int .i64 v.m.n,.int .i64 v.m.s,xvi,xvh,xvs,.int .i64 v.m.z]) v.m):=⟨hm,jm⟩
 have HK:Hid (IsKs w uk v.k∧IsKs w xuk v.k):=⟨hk,jk⟩
 have HC:Hid (IsD w uc (vecsD v.c)∧IsD w xuc (vecsD v.c)):=⟨hc,jc⟩
 clear hs hm jm hk jk hc jc
 obtain⟨W0,hW0⟩:∃W0,(w.alloc (.cells #[.int .i64 v.m.n,.int .i64 v.m.s,vi,vh,vs,.int .i64 v.m.z,uk,uc] 39)).alloc (.cells #[.int .i64 v.m.n,.int .i64 v.m.s,xvi,xvh,xvs,.int .i64 v.m.z,xuk,xuc] 39)=W0:=⟨_,rfl⟩
 have HB0:Hid (Below w.heap.size w W0):=by rw [←hW0];exact((Below.refl _ w).alloc (Nat.le_refl _) _).alloc (by simp) _
 have HP0:Hid (Bk W0 w.heap.size 39 #[.int .i64 v.m.n,.int .i64 v.m.s,vi,vh,vs,.int .i64 v.m.z,uk,uc]):=by rw [←hW0];exact(Bk.new w _ _).alloc _
 have HQ0:Hid (Bk W0 (w.heap.size+1) 39 #[.int .i64 v.m.n,.int .i64 v.m.s,xvi,xvh,xvs,.int .i64 v.m.z,xuk,xuc]):=by rw [←hW0];exact Bk.newAt (by simp) _ _
 have HW:Hid ((w.alloc (.cells #[.int .i64 v.m.n,.int .i64 v.m.s,vi,vh,vs,.int .i64 v.m.z,uk,uc] 39)).alloc (.cells #[.int .i64 v.m.n,.int .i64 v.m.s,xvi,xvh,xvs,.int .i64 v.m.z,xuk,xuc] 39)=W0):=hW0
 clear hW0
 go_enter Tryz.func14,Tryz.ntmps14
 have p0:=HP0.out.cell (i:=0) rfl
 have q0:=HQ0.out.cell (i:=0) rfl
 have p1:=HP0.out.cell (i:=1) rfl
 have q1:=HQ0.out.cell (i:=1) rfl
 have p2:=HP0.out.cell (i:=2) rfl
 have q2:=HQ0.out.cell (i:=2) rfl
 have p3:=HP0.out.cell (i:=3) rfl
 have q3:=HQ0.out.cell (i:=3) rfl
 have p4:=HP0.out.cell (i:=4) rfl
 have q4:=HQ0.out.cell (i:=4) rfl
 have p5:=HP0.out.cell (i:=5) rfl
 have q5:=HQ0.out.cell (i:=5) rfl
 go_wp2_with fail
 rw [HW.out]
 clear HW p0 q0 p1 q1 p2 q2 p3 q3 p4 q4 p5 q5
 refine(eqModel_same _ _ v.m _ HS.out.1 (HM.out.1.below HB0.out) (HM.out.2.below HB0.out)).mono ?_
 rintro e w1 ⟨rfl,hb⟩
 have HB1:Hid (Below w.heap.size w w1):=HB0.out.trans (hb.mono HB0.out.size)
 have p6:=(HP0.out.below hb).cell (i:=6) rfl
 have q6:=(HQ0.out.below hb).cell (i:=6) rfl
 have HP1:Hid (Bk w1 w.heap.size 39 #[.int .i64 v.m.n,.int .i64 v.m.s,vi,vh,vs,.int .i64 v.m.z,uk,uc]):=HP0.out.below hb
 have HQ1:Hid (Bk w1 (w.heap.size+1) 39 #[.int .i64 v.m.n,.int .i64 v.m.s,xvi,xvh,xvs,.int .i64 v.m.z,xuk,xuc]):=HQ0.out.below hb
 clear hb
 go_wp2_with fail
 clear p6 q6
 refine(eq_kernels _ _ v.k _ HS.out.2.1 (HK.out.1.under HB1.out) (HK.out.2.under HB1.out)).mono ?_
 rintro e w2 ⟨rfl,hb⟩
 have HB2:Hid (Below w.heap.size w w2):=HB1.out.trans (hb.mono HB1.out.size)
 have p7:=(HP1.out.below hb).cell (i:=7) rfl
 have q7:=(HQ1.out.below hb).cell (i:=7) rfl
 clear hb
 go_wp2_with fail
 clear p7 q7
 refine(eq_vecs _ _ v.c _ HS.out.2.2 (HC.out.1.under HB2.out) (HC.out.2.under HB2.out)).mono ?_
 rintro e w3 ⟨rfl,hb⟩
 have HB3:Hid (Below w.heap.size w w3):=HB2.out.trans (hb.mono HB2.out.size)
 clear hb
 go_wp2
 go_ret
 exact⟨rfl,HB3.out⟩
end Go.Proofs.YtmobiieoecjmdaaGreat

/- How a list of events that came in is read. -/
namespace Go.Proofs.YtmobiieoecjmdaaGreat
open Go.ChangeShapes Go.WideShapes Go.ChangeAt Go.RowKit
theorem evs_list {w:World} {b off:Nat}:∀n,(∀i,i<n→ ∃e:Ev,Ev.In w b (off+i*7) e)→ ∃l:List Ev,l.length=n∧ ∀i,i<n→Ev.In w b (off+i*7) (evAt l i)
 |0,_=>⟨[],rfl,fun i hi=>by omega⟩
 |n+1,h=>by
  obtain⟨l,hl,hi⟩:=evs_list n (fun i hi=>h i (by omega))
  obtain⟨e,he⟩:=h n (by omega)
  refine⟨l++ [e],by simp [hl],fun i hi'=> ?_⟩
  by_cases hin:i<n
  ·have:evAt (l++ [e]) i=evAt l i:=by unfold evAt;simp [List.getElem?_append_left (by omega:i<l.length)]
   rw [this];exact hi i hin
  ·have:evAt (l++ [e]) i=e:=by unfold evAt;simp [show i=l.length by omega]
   rw [this,show i=n by omega];exact he
theorem add_plain (b off n:Nat):(⟨b,off,none⟩:Addr).add n=⟨b,off+n,none⟩:=by
 unfold Addr.add
 split<;>simp_all
theorem ints_list {w:World} {b off:Nat}:∀n,(∀i,i<n→ ∃z:Int,w.cell? ⟨b,off+i,none⟩=some (.int .i64 z))→ ∃l:List Int,l.length=n∧ ∀i,i<n→w.cell? ⟨b,off+i,none⟩=some (.int .i64 (intAt l i))
 |0,_=>⟨[],rfl,fun i hi=>by omega⟩
 |n+1,h=>by
  obtain⟨l,hl,hi⟩:=ints_list n (fun i hi=>h i (by omega))
  obtain⟨e,he⟩:=h n (by omega)
  refine⟨l++ [e],by simp [hl],fun i hi'=> ?_⟩
  by_cases hin:i<n
  ·have:intAt (l++ [e]) i=intAt l i:=by unfold intAt;simp [List.getElem?_append_left (by omega:i<l.length)]
   rw [this];exact hi i hin
  ·have:intAt (l++ [e]) i=e:=by unfold intAt;simp [show i=l.length by omega]
   rw [this,show i=n by omega];exact he
theorem cellsOp:Tryz.prog.cellsOf 223=4:=by kernel_rfl
theorem cellsRow:Tryz.prog.cellsOf 178=1:=by kernel_rfl
theorem cellsRows:Tryz.prog.cellsOf 23=1:=by kernel_rfl
theorem cellsInts:Tryz.prog.cellsOf 22=1:=by kernel_rfl
theorem cellsEvs:Tryz.prog.cellsOf 24=1:=by kernel_rfl
theorem cellsM:Tryz.prog.cellsOf 26=6:=by kernel_rfl
theorem list4 {α:Type} {l:List α} (h:l.length=4):∃a b c d,l= [a,b,c,d]:=by
 match l,h with
 | [a,b,c,d],_=>exact⟨a,b,c,d,rfl⟩
theorem list6 {α:Type} {l:List α} (h:l.length=6):∃a b c d e f,l= [a,b,c,d,e,f]:=by
 match l,h with
 | [a,b,c,d,e,f],_=>exact⟨a,b,c,d,e,f,rfl⟩
set_option maxRecDepth 100000 in
theorem trod_op {H:Type} {enc:TypeId×Value→H} {w:World} {base:Nat} {spare:Nat→Bool} {held:Bool} {fuel:Nat} {cs:List Value} {x:DataW H×List MemPlace}
  (h:DataW.trod enc Tryz.prog w base spare held fuel 223 cs=some x):∃c a b k:Int,cs= [.int .i64 c,.int .i64 a,.int .i64 b,.int .i64 k]∧wfI c∧wfI a∧wfI b∧wfI k:=by
 obtain⟨xs,n,_,rfl,hl,hlen,hf⟩:=DataW.trod_struct Tryz.underlying223 h
 rw [cellsOp]at hl
 obtain⟨c0,c1,c2,c3,rfl⟩:=list4 hl
 have hx:xs.length=4:=by simpa using hlen
 obtain⟨y0,y1,y2,y3,rfl⟩:=list4 hx
 have h0:=hf 0 _ rfl
 have h1:=hf 1 _ rfl
 have h2:=hf 2 _ rfl
 have h3:=hf 3 _ rfl
 obtain⟨a0,e0,_,w0⟩:=DataW.trod_int Tryz.underlying3 h0
 obtain⟨a1,e1,_,w1⟩:=DataW.trod_int Tryz.underlying3 h1
 obtain⟨a2,e2,_,w2⟩:=DataW.trod_int Tryz.underlying3 h2
 obtain⟨a3,e3,_,w3⟩:=DataW.trod_int Tryz.underlying3 h3
 simp [cells3]at e0 e1 e2 e3
 subst e0 e1 e2 e3
 exact⟨a0,a1,a2,a3,rfl,w0,w1,w2,w3⟩
set_option maxRecDepth 100000 in
theorem trod_ints {H:Type} {enc:TypeId×Value→H} {w:World} {spare:Nat→Bool} {held:Bool} {fuel:Nat} {cs:List Value} {x:DataW H×List MemPlace}
  (hf:DataW.trod enc Tryz.prog w 0 spare held fuel 22 cs=some x):∃v l,cs= [v]∧IsI w v l:=by
 rcases DataW.trod_slice Tryz.underlying22 hf with ⟨rfl,_⟩|⟨a,len,cap,elems,rest,n,_,rfl,_,hb,hl,hm,hlen,hel,_,_⟩
 ·exact⟨_,[],rfl,none,0,rfl,Nat.le_refl _,by unfold maxLen;omega,.inl rfl⟩
 ·by_cases h0:len=0
  ·subst h0
   exact⟨_,[],rfl,_,_,rfl,hl,hm,.inl rfl⟩
  ·obtain⟨b,off,spot⟩:=a
   have hs:spot=none:=by
    have h1:=hel 0 (by omega)
    rw [cells3,List.getElem?_eq_getElem (by omega)]at h1
    obtain⟨cs,hc,ht⟩:=Option.bind_eq_some_iff.1 h1
    obtain⟨t,rfl,_⟩:=DataW.trod_int Tryz.underlying3 ht
    have c0:=(World.cells?_some hc).2.2 0 (by omega)
    simpa [Addr.add] using World.cell?_spot c0
   subst hs
   have each:∀i,i<len→ ∃z:Int,w.cell? ⟨b,off+i,none⟩=some (.int .i64 z)∧b<w.heap.size:=by
    intro i hi
    have h1:=hel i hi
    rw [cells3,List.getElem?_eq_getElem (by omega),add_plain]at h1
    obtain⟨cs,hc,ht⟩:=Option.bind_eq_some_iff.1 h1
    obtain⟨t,rfl,_,hw⟩:=DataW.trod_int Tryz.underlying3 ht
    have hblk:b<w.heap.size:=World.cells?_block hc (by omega)
    obtain⟨_,_,hcell⟩:=World.cells?_some hc
    have h2:=hcell 0 (by omega)
    simp only [add_plain]at h2
    exact⟨t,by simpa using h2,hblk⟩
   obtain⟨_,_,hblk⟩:=each 0 (by omega)
   obtain⟨l,rfl,hi⟩:=ints_list (w:=w) (b:=b) (off:=off) len (fun i hi=>by
    obtain⟨e,he,_⟩:=each i hi
    exact⟨e,he⟩)
   exact⟨_,l,rfl,_,_,rfl,hl,hm,.inr ⟨b,off,rfl,hblk,hi⟩⟩
set_option maxRecDepth 100000 in
theorem trod_evs {H:Type} {enc:TypeId×Value→H} {w:World} {spare:Nat→Bool} {held:Bool} {fuel:Nat} {cs:List Value} {x:DataW H×List MemPlace}
  (hf:DataW.trod enc Tryz.prog w 0 spare held fuel 24 cs=some x):∃v l,cs= [v]∧IsEvs w v l:=by
 rcases DataW.trod_slice Tryz.underlying24 hf with ⟨rfl,_⟩|⟨a,len,cap,elems,rest,n,_,rfl,_,hb,hl,hm,hlen,hel,_,_⟩
 ·exact⟨_,[],rfl,none,0,rfl,Nat.le_refl _,by unfold maxLen;omega,.inl rfl⟩
 ·by_cases h0:len=0
  ·subst h0
   exact⟨_,[],rfl,_,_,rfl,hl,hm,.inl rfl⟩
  ·obtain⟨b,off,spot⟩:=a
   have hs:spot=none:=by
    have h1:=hel 0 (by omega)
    rw [cells23,List.getElem?_eq_getElem (by omega)]at h1
    obtain⟨cs,hc,ht⟩:=Option.bind_eq_some_iff.1 h1
    obtain⟨t,s,q,d,k,v,g,rfl,_⟩:=trod_ev ht
    have c0:=(World.cells?_some hc).2.2 0 (by omega)
    simpa [Addr.add] using World.cell?_spot c0
   subst hs
   have each:∀i,i<len→ ∃e:Ev,Ev.In w b (off+i*7) e∧b<w.heap.size:=by
    intro i hi
    have h1:=hel i hi
    rw [cells23,List.getElem?_eq_getElem (by omega),add_plain]at h1
    obtain⟨cs,hc,ht⟩:=Option.bind_eq_some_iff.1 h1
    obtain⟨t,s,q,d,k,v,g,rfl,_⟩:=trod_ev ht
    have hblk:b<w.heap.size:=World.cells?_block hc (by omega)
    obtain⟨_,_,hcell⟩:=World.cells?_some hc
    simp only [add_plain]at hcell
    exact⟨⟨t,s,q,d,k,v,g⟩,⟨hcell 0 (by omega),hcell 1 (by omega),hcell 2 (by omega),hcell 3 (by omega),hcell 4 (by omega),hcell 5 (by omega),hcell 6 (by omega)⟩,hblk⟩
   obtain⟨_,_,hblk⟩:=each 0 (by omega)
   obtain⟨l,rfl,hi⟩:=evs_list (w:=w) (b:=b) (off:=off) len (fun i hi=>by
    obtain⟨e,he,_⟩:=each i hi
    exact⟨e,he⟩)
   exact⟨_,l,rfl,_,_,rfl,hl,hm,.inr ⟨b,off,rfl,hblk,hi⟩⟩
theorem os_list {w:World} {b off:Nat}:∀n,(∀i,i<n→ ∃e:O,OAt w b (off+i*4) e)→ ∃l:List O,l.length=n∧ ∀i,i<n→OAt w b (off+i*4) (oAt l i)
 |0,_=>⟨[],rfl,fun i hi=>by omega⟩
 |n+1,h=>by
  obtain⟨l,hl,hi⟩:=os_list n (fun i hi=>h i (by omega))
  obtain⟨e,he⟩:=h n (by omega)
  refine⟨l++ [e],by simp [hl],fun i hi'=> ?_⟩
  by_cases hin:i<n
  ·have:oAt (l++ [e]) i=oAt l i:=by unfold oAt;simp [List.getElem?_append_left (by omega:i<l.length)]
   rw [this];exact hi i hin
  ·have:oAt (l++ [e]) i=e:=by unfold oAt;simp [show i=l.length by omega]
   rw [this,show i=n by omega];exact he
set_option maxRecDepth 100000 in
theorem trod_ops {H:Type} {enc:TypeId×Value→H} {w:World} {spare:Nat→Bool} {held:Bool} {fuel:Nat} {cs:List Value} {x:DataW H×List MemPlace}
  (hf:DataW.trod enc Tryz.prog w 0 spare held fuel 178 cs=some x):∃v l,cs= [v]∧IsO w v l:=by
 rcases DataW.trod_slice Tryz.underlying178 hf with ⟨rfl,_⟩|⟨a,len,cap,elems,rest,n,_,rfl,_,hb,hl,hm,hlen,hel,_,_⟩
 ·exact⟨_,[],rfl,none,0,rfl,Nat.le_refl _,by unfold maxLen;omega,.inl rfl⟩
 ·by_cases h0:len=0
  ·subst h0
   exact⟨_,[],rfl,_,_,rfl,hl,hm,.inl rfl⟩
  ·obtain⟨b,off,spot⟩:=a
   have hs:spot=none:=by
    have h1:=hel 0 (by omega)
    rw [cellsOp,List.getElem?_eq_getElem (by omega)]at h1
    obtain⟨cs,hc,ht⟩:=Option.bind_eq_some_iff.1 h1
    obtain⟨c,a,b,k,rfl,_⟩:=trod_op ht
    have c0:=(World.cells?_some hc).2.2 0 (by omega)
    simpa [Addr.add] using World.cell?_spot c0
   subst hs
   have each:∀i,i<len→ ∃e:O,OAt w b (off+i*4) e∧b<w.heap.size:=by
    intro i hi
    have h1:=hel i hi
    rw [cellsOp,List.getElem?_eq_getElem (by omega),add_plain]at h1
    obtain⟨cs,hc,ht⟩:=Option.bind_eq_some_iff.1 h1
    obtain⟨c,a,b',k,rfl,_⟩:=trod_op ht
    have hblk:b<w.heap.size:=World.cells?_block hc (by omega)
    obtain⟨_,_,hcell⟩:=World.cells?_some hc
    simp only [add_plain]at hcell
    exact⟨⟨c,a,b',k⟩,⟨hcell 0 (by omega),hcell 1 (by omega),hcell 2 (by omega),hcell 3 (by omega)⟩,hblk⟩
   obtain⟨_,_,hblk⟩:=each 0 (by omega)
   obtain⟨l,rfl,hi⟩:=os_list (w:=w) (b:=b) (off:=off) len (fun i hi=>by
    obtain⟨e,he,_⟩:=each i hi
    exact⟨e,he⟩)
   exact⟨_,l,rfl,_,_,rfl,hl,hm,.inr ⟨b,off,rfl,hblk,hi⟩⟩
theorem hs_list {w:World} {b off:Nat}:∀n,(∀i,i<n→ ∃u l,w.cell? ⟨b,off+i,none⟩=some u∧IsO w u l)→ ∃l:List (List O),l.length=n∧ ∀i,i<n→ ∃u,w.cell? ⟨b,off+i,none⟩=some u∧IsO w u (hAt l i)
 |0,_=>⟨[],rfl,fun i hi=>by omega⟩
 |n+1,h=>by
  obtain⟨l,hl,hi⟩:=hs_list n (fun i hi=>h i (by omega))
  obtain⟨u,r,hu,hr⟩:=h n (by omega)
  refine⟨l++ [r],by simp [hl],fun i hi'=> ?_⟩
  by_cases hin:i<n
  ·have:hAt (l++ [r]) i=hAt l i:=by unfold hAt;simp [List.getElem?_append_left (by omega:i<l.length)]
   rw [this];exact hi i hin
  ·have:hAt (l++ [r]) i=r:=by unfold hAt;simp [show i=l.length by omega]
   rw [this,show i=n by omega];exact⟨u,hu,hr⟩
set_option maxRecDepth 100000 in
theorem trod_hs {H:Type} {enc:TypeId×Value→H} {w:World} {spare:Nat→Bool} {held:Bool} {fuel:Nat} {cs:List Value} {x:DataW H×List MemPlace}
  (hf:DataW.trod enc Tryz.prog w 0 spare held fuel 23 cs=some x):∃v l,cs= [v]∧IsH w v l:=by
 rcases DataW.trod_slice Tryz.underlying23 hf with ⟨rfl,_⟩|⟨a,len,cap,elems,rest,n,_,rfl,_,hb,hl,hm,hlen,hel,_,_⟩
 ·exact⟨_,[],rfl,none,0,rfl,Nat.le_refl _,by unfold maxLen;omega,.inl rfl⟩
 ·by_cases h0:len=0
  ·subst h0
   exact⟨_,[],rfl,_,_,rfl,hl,hm,.inl rfl⟩
  ·obtain⟨b,off,spot⟩:=a
   have hs:spot=none:=by
    have h1:=hel 0 (by omega)
    rw [cellsRow,List.getElem?_eq_getElem (by omega)]at h1
    obtain⟨cs,hc,ht⟩:=Option.bind_eq_some_iff.1 h1
    obtain⟨v,l,rfl,_⟩:=trod_ops ht
    have c0:=(World.cells?_some hc).2.2 0 (by omega)
    simpa [Addr.add] using World.cell?_spot c0
   subst hs
   have each:∀i,i<len→ ∃u l,(w.cell? ⟨b,off+i,none⟩=some u∧IsO w u l)∧b<w.heap.size:=by
    intro i hi
    have h1:=hel i hi
    rw [cellsRow,List.getElem?_eq_getElem (by omega),add_plain]at h1
    obtain⟨cs,hc,ht⟩:=Option.bind_eq_some_iff.1 h1
    obtain⟨v,l,rfl,hv⟩:=trod_ops ht
    have hblk:b<w.heap.size:=World.cells?_block hc (by omega)
    obtain⟨_,_,hcell⟩:=World.cells?_some hc
    have h2:=hcell 0 (by omega)
    simp only [add_plain]at h2
    exact⟨v,l,⟨by simpa using h2,hv⟩,hblk⟩
   obtain⟨_,_,_,hblk⟩:=each 0 (by omega)
   obtain⟨l,rfl,hi⟩:=hs_list (w:=w) (b:=b) (off:=off) len (fun i hi=>by
    obtain⟨u,l,he,_⟩:=each i hi
    exact⟨u,l,he⟩)
   exact⟨_,l,rfl,_,_,rfl,hl,hm,.inr ⟨b,off,rfl,hblk,hi⟩⟩
theorem cellsS:Tryz.prog.cellsOf 141=3:=by kernel_rfl
theorem list3 {α:Type} {l:List α} (h:l.length=3):∃a b c,l= [a,b,c]:=by
 match l,h with
 | [a,b,c],_=>exact⟨a,b,c,rfl⟩
theorem cellsEm:Tryz.prog.cellsOf 160=3:=by kernel_rfl
theorem cellsEms:Tryz.prog.cellsOf 48=1:=by kernel_rfl
theorem cellsPs:Tryz.prog.cellsOf 230=12:=by kernel_rfl
theorem cellsPss:Tryz.prog.cellsOf 142=1:=by kernel_rfl
theorem cellsPa:Tryz.prog.cellsOf 144=7:=by kernel_rfl
theorem list12 {α:Type} {l:List α} (h:l.length=12):∃a0 a1 a2 a3 a4 a5 a6 a7 a8 a9 a10 a11,l= [a0,a1,a2,a3,a4,a5,a6,a7,a8,a9,a10,a11]:=by
 match l,h with
 | [a0,a1,a2,a3,a4,a5,a6,a7,a8,a9,a10,a11],_=>exact⟨a0,a1,a2,a3,a4,a5,a6,a7,a8,a9,a10,a11,rfl⟩
theorem list7p {α:Type} {l:List α} (h:l.length=7):∃a0 a1 a2 a3 a4 a5 a6,l= [a0,a1,a2,a3,a4,a5,a6]:=by
 match l,h with
 | [a0,a1,a2,a3,a4,a5,a6],_=>exact⟨a0,a1,a2,a3,a4,a5,a6,rfl⟩
theorem list5 {α:Type} {l:List α} (h:l.length=5):∃a0 a1 a2 a3 a4,l= [a0,a1,a2,a3,a4]:=by
 match l,h with
 | [a0,a1,a2,a3,a4],_=>exact⟨a0,a1,a2,a3,a4,rfl⟩
theorem list4p {α:Type} {l:List α} (h:l.length=4):∃a b c d,l= [a,b,c,d]:=by
 match l,h with
 | [a,b,c,d],_=>exact⟨a,b,c,d,rfl⟩
set_option maxRecDepth 100000 in
theorem trod_emit {H:Type} {enc:TypeId×Value→H} {w:World} {base:Nat} {spare:Nat→Bool} {held:Bool} {fuel:Nat} {cs:List Value} {x:DataW H×List MemPlace}
  (h:DataW.trod enc Tryz.prog w base spare held fuel 160 cs=some x):∃t l v:Int,cs= [.int .i64 t,.int .i64 l,.int .i64 v]:=by
 obtain⟨xs,n,_,rfl,hl,hlen,hf⟩:=DataW.trod_struct Tryz.underlying160 h
 rw [cellsEm]at hl
 obtain⟨c0,c1,c2,rfl⟩:=list3 hl
 have hx:xs.length=3:=by simpa using hlen
 obtain⟨y0,y1,y2,rfl⟩:=list3 hx
 have h0:=hf 0 _ rfl
 have h1:=hf 1 _ rfl
 have h2:=hf 2 _ rfl
 obtain⟨a0,e0,_,w0⟩:=DataW.trod_int Tryz.underlying3 h0
 obtain⟨a1,e1,_,w1⟩:=DataW.trod_int Tryz.underlying3 h1
 obtain⟨a2,e2,_,w2⟩:=DataW.trod_int Tryz.underlying3 h2
 simp [cells3]at e0 e1 e2
 subst e0 e1 e2
 exact⟨a0,a1,a2,rfl⟩
theorem xs_list {w:World} {b off:Nat}:∀n,(∀i,i<n→ ∃e:Em,XAt w b (off+i*3) e)→ ∃l:List Em,l.length=n∧ ∀i,i<n→XAt w b (off+i*3) (xAt l i)
 |0,_=>⟨[],rfl,fun i hi=>by omega⟩
 |n+1,h=>by
  obtain⟨l,hl,hi⟩:=xs_list n (fun i hi=>h i (by omega))
  obtain⟨e,he⟩:=h n (by omega)
  refine⟨l++ [e],by simp [hl],fun i hi'=> ?_⟩
  by_cases hin:i<n
  ·have:xAt (l++ [e]) i=xAt l i:=by unfold xAt;simp [List.getElem?_append_left (by omega:i<l.length)]
   rw [this];exact hi i hin
  ·have:xAt (l++ [e]) i=e:=by unfold xAt;simp [show i=l.length by omega]
   rw [this,show i=n by omega];exact he
set_option maxRecDepth 100000 in
theorem trod_ems {H:Type} {enc:TypeId×Value→H} {w:World} {spare:Nat→Bool} {held:Bool} {fuel:Nat} {cs:List Value} {x:DataW H×List MemPlace}
  (hf:DataW.trod enc Tryz.prog w 0 spare held fuel 48 cs=some x):∃v l,cs= [v]∧IsX w v l:=by
 rcases DataW.trod_slice Tryz.underlying48 hf with ⟨rfl,_⟩|⟨a,len,cap,elems,rest,n,_,rfl,_,hb,hl,hm,hlen,hel,_,_⟩
 ·exact⟨_,[],rfl,none,0,rfl,Nat.le_refl _,by unfold maxLen;omega,.inl rfl⟩
 ·by_cases h0:len=0
  ·subst h0
   exact⟨_,[],rfl,_,_,rfl,hl,hm,.inl rfl⟩
  ·obtain⟨b,off,spot⟩:=a
   have hs:spot=none:=by
    have h1:=hel 0 (by omega)
    rw [cellsEm,List.getElem?_eq_getElem (by omega)]at h1
    obtain⟨cs,hc,ht⟩:=Option.bind_eq_some_iff.1 h1
    obtain⟨t,l,v,rfl⟩:=trod_emit ht
    have c0:=(World.cells?_some hc).2.2 0 (by omega)
    simpa [Addr.add] using World.cell?_spot c0
   subst hs
   have each:∀i,i<len→ ∃e:Em,XAt w b (off+i*3) e∧b<w.heap.size:=by
    intro i hi
    have h1:=hel i hi
    rw [cellsEm,List.getElem?_eq_getElem (by omega),add_plain]at h1
    obtain⟨cs,hc,ht⟩:=Option.bind_eq_some_iff.1 h1
    obtain⟨t,l,v,rfl⟩:=trod_emit ht
    have hblk:b<w.heap.size:=World.cells?_block hc (by omega)
    obtain⟨_,_,hcell⟩:=World.cells?_some hc
    simp only [add_plain]at hcell
    exact⟨⟨t,l,v⟩,⟨hcell 0 (by omega),hcell 1 (by omega),hcell 2 (by omega)⟩,hblk⟩
   obtain⟨_,_,hblk⟩:=each 0 (by omega)
   obtain⟨l,rfl,hi⟩:=xs_list (w:=w) (b:=b) (off:=off) len (fun i hi=>by
    obtain⟨e,he,_⟩:=each i hi
    exact⟨e,he⟩)
   exact⟨_,l,rfl,_,_,rfl,hl,hm,.inr ⟨b,off,rfl,hblk,hi⟩⟩
set_option maxRecDepth 100000 in
theorem trod_state {H:Type} {enc:TypeId×Value→H} {w:World} {spare:Nat→Bool} {held:Bool} {fuel:Nat} {cs:List Value} {x:DataW H×List MemPlace}
  (h:DataW.trod enc Tryz.prog w 0 spare held fuel 141 cs=some x):∃(s:St) (v:Value),cs= [v,.int .i64 s.q,.int .i64 s.d]∧IsI w v s.r:=by
 obtain⟨xs,n,_,_,hl,hlen,hf⟩:=DataW.trod_struct Tryz.underlying141 h
 rw [cellsS]at hl
 obtain⟨c0,c1,c2,rfl⟩:=list3 hl
 have hx:xs.length=3:=by simpa using hlen
 obtain⟨y0,y1,y2,rfl⟩:=list3 hx
 have h0:=hf 0 _ rfl
 have h1:=hf 1 _ rfl
 have h2:=hf 2 _ rfl
 obtain⟨v0,l0,e0,g0⟩:=trod_ints h0
 obtain⟨a1,e1,_,_⟩:=DataW.trod_int Tryz.underlying3 h1
 obtain⟨a2,e2,_,_⟩:=DataW.trod_int Tryz.underlying3 h2
 simp [cells3,cellsInts]at e0 e1 e2
 subst e0 e1 e2
 exact⟨⟨l0,a1,a2⟩,c0,rfl,g0⟩
set_option maxRecDepth 100000 in
theorem trod_past {H:Type} {enc:TypeId×Value→H} {w:World} {spare:Nat→Bool} {held:Bool} {fuel:Nat} {cs:List Value} {x:DataW H×List MemPlace}
  (h:DataW.trod enc Tryz.prog w 0 spare held fuel 230 cs=some x):∃(p:Ps) (u7 u10 u11:Value),cs= [.int .i64 p.e.t,.int .i64 p.e.s,.int .i64 p.e.q,.int .i64 p.e.d,.int .i64 p.e.k,.int .i64 p.e.v,.int .i64 p.e.g,u7,.int .i64 p.b.q,.int .i64 p.b.d,u10,u11]∧IsD w u7 (intsD p.b.r)∧IsD w u10 (evsD p.s)∧IsD w u11 (emsD p.x):=by
 obtain⟨xs,n,_,_,hl,hlen,hf⟩:=DataW.trod_struct Tryz.underlying230 h
 rw [cellsPs]at hl
 obtain⟨c0,c1,c2,c3,c4,c5,c6,c7,c8,c9,c10,c11,rfl⟩:=list12 hl
 have hx:xs.length=4:=by simpa using hlen
 obtain⟨y0,y1,y2,y3,rfl⟩:=list4p hx
 have h0:=hf 0 _ rfl
 have h1:=hf 1 _ rfl
 have h2:=hf 2 _ rfl
 have h3:=hf 3 _ rfl
 obtain⟨t,s,q,d,k,v,g,e0,_⟩:=trod_ev h0
 obtain⟨st,v1,e1,g1⟩:=trod_state h1
 obtain⟨v2,l2,e2,g2⟩:=trod_evs h2
 obtain⟨v3,l3,e3,g3⟩:=trod_ems h3
 simp [cells23,cellsS,cellsEvs,cellsEms]at e0 e1 e2 e3
 obtain⟨rfl,rfl,rfl,rfl,rfl,rfl,rfl⟩:=e0
 obtain⟨rfl,rfl,rfl⟩:=e1
 subst e2 e3
 exact⟨⟨⟨t,s,q,d,k,v,g⟩,st,l2,l3⟩,c7,c10,c11,rfl,g1.isD,g2.isD,g3.isD⟩
theorem ps_list {w:World} {b off:Nat}:∀n,(∀i,i<n→ ∃p:Ps,∀r,r<12→ ∃u,w.cell? ⟨b,off+i*12+r,none⟩=some u∧IsD w u (p.cell r))→
  ∃l:List Ps,l.length=n∧ ∀i,i<n→ ∀r,r<12→ ∃u,w.cell? ⟨b,off+i*12+r,none⟩=some u∧IsD w u ((psAt l i).cell r)
 |0,_=>⟨[],rfl,fun i hi=>by omega⟩
 |n+1,h=>by
  obtain⟨l,hl,hi⟩:=ps_list n (fun i hi=>h i (by omega))
  obtain⟨e,he⟩:=h n (by omega)
  refine⟨l++ [e],by simp [hl],fun i hi'=> ?_⟩
  by_cases hin:i<n
  ·have:psAt (l++ [e]) i=psAt l i:=by unfold psAt;simp [List.getElem?_append_left (by omega:i<l.length)]
   rw [this];exact hi i hin
  ·have:psAt (l++ [e]) i=e:=by unfold psAt;simp [show i=l.length by omega]
   rw [this,show i=n by omega];exact he
set_option maxRecDepth 100000 in
theorem trod_pasts {H:Type} {enc:TypeId×Value→H} {w:World} {spare:Nat→Bool} {held:Bool} {fuel:Nat} {cs:List Value} {x:DataW H×List MemPlace}
  (hf:DataW.trod enc Tryz.prog w 0 spare held fuel 142 cs=some x):∃v l,cs= [v]∧IsD w v (pastsD l):=by
 rcases DataW.trod_slice Tryz.underlying142 hf with ⟨rfl,_⟩|⟨a,len,cap,elems,rest,n,_,rfl,_,hb,hl,hm,hlen,hel,_,_⟩
 ·exact⟨_,[],rfl,.nil none 0 12 _ (by unfold maxLen;omega)⟩
 ·by_cases h0:len=0
  ·subst h0
   exact⟨_,[],rfl,.nil _ _ 12 _ hm⟩
  ·obtain⟨b,off,spot⟩:=a
   have hs:spot=none:=by
    have h1:=hel 0 (by omega)
    rw [cellsPs,List.getElem?_eq_getElem (by omega)]at h1
    obtain⟨cs,hc,ht⟩:=Option.bind_eq_some_iff.1 h1
    obtain⟨p,u7,u10,u11,rfl,_⟩:=trod_past ht
    have c0:=(World.cells?_some hc).2.2 0 (by omega)
    simpa [Addr.add] using World.cell?_spot c0
   subst hs
   have each:∀i,i<len→ ∃p:Ps,(∀r,r<12→ ∃u,w.cell? ⟨b,off+i*12+r,none⟩=some u∧IsD w u (p.cell r))∧b<w.heap.size:=by
    intro i hi
    have h1:=hel i hi
    rw [cellsPs,List.getElem?_eq_getElem (by omega),add_plain]at h1
    obtain⟨cs,hc,ht⟩:=Option.bind_eq_some_iff.1 h1
    obtain⟨p,u7,u10,u11,rfl,g7,g10,g11⟩:=trod_past ht
    have hblk:b<w.heap.size:=World.cells?_block hc (by omega)
    obtain⟨_,_,hcell⟩:=World.cells?_some hc
    simp only [add_plain]at hcell
    refine⟨p,fun r hr=> ?_,hblk⟩
    have hcr:=hcell r hr
    match r,hr,hcr with
    |0,_,hcr=>exact⟨_,hcr,.val _⟩
    |1,_,hcr=>exact⟨_,hcr,.val _⟩
    |2,_,hcr=>exact⟨_,hcr,.val _⟩
    |3,_,hcr=>exact⟨_,hcr,.val _⟩
    |4,_,hcr=>exact⟨_,hcr,.val _⟩
    |5,_,hcr=>exact⟨_,hcr,.val _⟩
    |6,_,hcr=>exact⟨_,hcr,.val _⟩
    |7,_,hcr=>exact⟨_,hcr,g7⟩
    |8,_,hcr=>exact⟨_,hcr,.val _⟩
    |9,_,hcr=>exact⟨_,hcr,.val _⟩
    |10,_,hcr=>exact⟨_,hcr,g10⟩
    |11,_,hcr=>exact⟨_,hcr,g11⟩
   obtain⟨_,_,hblk⟩:=each 0 (by omega)
   obtain⟨l,rfl,hi⟩:=ps_list (w:=w) (b:=b) (off:=off) len (fun i hi=>by
    obtain⟨e,he,_⟩:=each i hi
    exact⟨e,he⟩)
   refine⟨_,l,rfl,IsD.of_parts hl hm (.inr ⟨b,off,rfl,hblk,fun j hj=> ?_⟩)⟩
   obtain⟨u,hu,hd⟩:=hi (j/12) (by omega) (j%12) (by omega)
   refine⟨u,?_,hd⟩
   rw [←hu]
   congr 2
   omega
theorem cellsBool:Tryz.prog.cellsOf 4=1:=by kernel_rfl
theorem cellsMl1:Tryz.prog.cellsOf 157=8:=by kernel_rfl
theorem cellsMls:Tryz.prog.cellsOf 47=1:=by kernel_rfl
theorem cellsPas:Tryz.prog.cellsOf 46=1:=by kernel_rfl
theorem cellsKn:Tryz.prog.cellsOf 50=14:=by kernel_rfl
theorem list8k {α:Type} {l:List α} (h:l.length=8):∃a0 a1 a2 a3 a4 a5 a6 a7,l= [a0,a1,a2,a3,a4,a5,a6,a7]:=by
 match l,h with
 | [a0,a1,a2,a3,a4,a5,a6,a7],_=>exact⟨a0,a1,a2,a3,a4,a5,a6,a7,rfl⟩
theorem list2k {α:Type} {l:List α} (h:l.length=2):∃a0 a1,l= [a0,a1]:=by
 match l,h with
 | [a0,a1],_=>exact⟨a0,a1,rfl⟩
theorem list14k {α:Type} {l:List α} (h:l.length=14):∃a0 a1 a2 a3 a4 a5 a6 a7 a8 a9 a10 a11 a12 a13,l= [a0,a1,a2,a3,a4,a5,a6,a7,a8,a9,a10,a11,a12,a13]:=by
 match l,h with
 | [a0,a1,a2,a3,a4,a5,a6,a7,a8,a9,a10,a11,a12,a13],_=>exact⟨a0,a1,a2,a3,a4,a5,a6,a7,a8,a9,a10,a11,a12,a13,rfl⟩
theorem list9k {α:Type} {l:List α} (h:l.length=9):∃a0 a1 a2 a3 a4 a5 a6 a7 a8,l= [a0,a1,a2,a3,a4,a5,a6,a7,a8]:=by
 match l,h with
 | [a0,a1,a2,a3,a4,a5,a6,a7,a8],_=>exact⟨a0,a1,a2,a3,a4,a5,a6,a7,a8,rfl⟩
set_option maxRecDepth 100000 in
theorem trod_mail {H:Type} {enc:TypeId×Value→H} {w:World} {spare:Nat→Bool} {held:Bool} {fuel:Nat} {cs:List Value} {x:DataW H×List MemPlace}
  (h:DataW.trod enc Tryz.prog w 0 spare held fuel 157 cs=some x):∃m:Ml,cs=m.cs:=by
 obtain⟨xs,n,_,_,hl,hlen,hf⟩:=DataW.trod_struct Tryz.underlying157 h
 rw [cellsMl1]at hl
 obtain⟨c0,c1,c2,c3,c4,c5,c6,c7,rfl⟩:=list8k hl
 have hx:xs.length=2:=by simpa using hlen
 obtain⟨y0,y1,rfl⟩:=list2k hx
 have h0:=hf 0 _ rfl
 have h1:=hf 1 _ rfl
 obtain⟨t,s,q,d,k,v,g,e0,_⟩:=trod_ev h0
 obtain⟨a1,e1,_⟩:=DataW.trod_bool Tryz.underlying4 h1
 simp [cells23,cellsBool]at e0 e1
 obtain⟨rfl,rfl,rfl,rfl,rfl,rfl,rfl⟩:=e0
 subst e1
 exact⟨⟨⟨t,s,q,d,k,v,g⟩,a1⟩,rfl⟩
theorem ml_list {w:World} {b off:Nat}:∀n,(∀i,i<n→ ∃e:Ml,MlAt w b (off+i*8) e)→ ∃l:List Ml,l.length=n∧ ∀i,i<n→MlAt w b (off+i*8) (mlAt l i)
 |0,_=>⟨[],rfl,fun i hi=>by omega⟩
 |n+1,h=>by
  obtain⟨l,hl,hi⟩:=ml_list n (fun i hi=>h i (by omega))
  obtain⟨e,he⟩:=h n (by omega)
  refine⟨l++ [e],by simp [hl],fun i hi'=> ?_⟩
  by_cases hin:i<n
  ·have:mlAt (l++ [e]) i=mlAt l i:=by unfold mlAt;simp [List.getElem?_append_left (by omega:i<l.length)]
   rw [this];exact hi i hin
  ·have:mlAt (l++ [e]) i=e:=by unfold mlAt;simp [show i=l.length by omega]
   rw [this,show i=n by omega];exact he
set_option maxRecDepth 100000 in
theorem trod_mails {H:Type} {enc:TypeId×Value→H} {w:World} {spare:Nat→Bool} {held:Bool} {fuel:Nat} {cs:List Value} {x:DataW H×List MemPlace}
  (hf:DataW.trod enc Tryz.prog w 0 spare held fuel 47 cs=some x):∃v l,cs= [v]∧IsMl w v l:=by
 rcases DataW.trod_slice Tryz.underlying47 hf with ⟨rfl,_⟩|⟨a,len,cap,elems,rest,n,_,rfl,_,hb,hl,hm,hlen,hel,_,_⟩
 ·exact⟨_,[],rfl,none,0,rfl,Nat.le_refl _,by unfold maxLen;omega,.inl rfl⟩
 ·by_cases h0:len=0
  ·subst h0
   exact⟨_,[],rfl,_,_,rfl,hl,hm,.inl rfl⟩
  ·obtain⟨b,off,spot⟩:=a
   have hs:spot=none:=by
    have h1:=hel 0 (by omega)
    rw [cellsMl1,List.getElem?_eq_getElem (by omega)]at h1
    obtain⟨cs,hc,ht⟩:=Option.bind_eq_some_iff.1 h1
    obtain⟨m,rfl⟩:=trod_mail ht
    have c0:=(World.cells?_some hc).2.2 0 (by omega)
    simpa [Addr.add] using World.cell?_spot c0
   subst hs
   have each:∀i,i<len→ ∃e:Ml,MlAt w b (off+i*8) e∧b<w.heap.size:=by
    intro i hi
    have h1:=hel i hi
    rw [cellsMl1,List.getElem?_eq_getElem (by omega),add_plain]at h1
    obtain⟨cs,hc,ht⟩:=Option.bind_eq_some_iff.1 h1
    obtain⟨m,rfl⟩:=trod_mail ht
    have hblk:b<w.heap.size:=World.cells?_block hc (by omega)
    obtain⟨_,_,hcell⟩:=World.cells?_some hc
    simp only [add_plain]at hcell
    exact⟨m,⟨hcell 0 (by omega),hcell 1 (by omega),hcell 2 (by omega),hcell 3 (by omega),hcell 4 (by omega),hcell 5 (by omega),hcell 6 (by omega),hcell 7 (by omega)⟩,hblk⟩
   obtain⟨_,_,hblk⟩:=each 0 (by omega)
   obtain⟨l,rfl,hi⟩:=ml_list (w:=w) (b:=b) (off:=off) len (fun i hi=>by
    obtain⟨e,he,_⟩:=each i hi
    exact⟨e,he⟩)
   exact⟨_,l,rfl,_,_,rfl,hl,hm,.inr ⟨b,off,rfl,hblk,hi⟩⟩
set_option maxRecDepth 100000 in
theorem trod_part {H:Type} {enc:TypeId×Value→H} {w:World} {spare:Nat→Bool} {held:Bool} {fuel:Nat} {cs:List Value} {x:DataW H×List MemPlace}
  (h:DataW.trod enc Tryz.prog w 0 spare held fuel 144 cs=some x):∃(p:Pa) (u1 u4 u5 u6:Value),cs= [.int .i64 p.n,u1,.int .i64 p.st.q,.int .i64 p.st.d,u4,u5,u6]∧IsD w u1 (intsD p.st.r)∧IsD w u4 (pastsD p.p)∧IsD w u5 (evsD p.t)∧IsD w u6 (intsD p.a):=by
 obtain⟨xs,n,_,_,hl,hlen,hf⟩:=DataW.trod_struct Tryz.underlying144 h
 rw [cellsPa]at hl
 obtain⟨c0,c1,c2,c3,c4,c5,c6,rfl⟩:=list7p hl
 have hx:xs.length=5:=by simpa using hlen
 obtain⟨y0,y1,y2,y3,y4,rfl⟩:=list5 hx
 have h0:=hf 0 _ rfl
 have h1:=hf 1 _ rfl
 have h2:=hf 2 _ rfl
 have h3:=hf 3 _ rfl
 have h4:=hf 4 _ rfl
 obtain⟨a0,e0,_,_⟩:=DataW.trod_int Tryz.underlying3 h0
 obtain⟨st,v1,e1,g1⟩:=trod_state h1
 obtain⟨v2,l2,e2,g2⟩:=trod_pasts h2
 obtain⟨v3,l3,e3,g3⟩:=trod_evs h3
 obtain⟨v4,l4,e4,g4⟩:=trod_ints h4
 simp [cells3,cellsS,cellsPss,cellsEvs,cellsInts]at e0 e1 e2 e3 e4
 obtain⟨rfl,rfl,rfl⟩:=e1
 subst e0 e2 e3 e4
 exact⟨⟨a0,st,l2,l3,l4⟩,c1,c4,c5,c6,rfl,g1.isD,g2,g3.isD,g4.isD⟩
theorem pa_list {w:World} {b off:Nat}:∀n,(∀i,i<n→ ∃p:Pa,∀r,r<7→ ∃u,w.cell? ⟨b,off+i*7+r,none⟩=some u∧IsD w u (p.cell r))→
  ∃l:List Pa,l.length=n∧ ∀i,i<n→ ∀r,r<7→ ∃u,w.cell? ⟨b,off+i*7+r,none⟩=some u∧IsD w u ((paAt l i).cell r)
 |0,_=>⟨[],rfl,fun i hi=>by omega⟩
 |n+1,h=>by
  obtain⟨l,hl,hi⟩:=pa_list n (fun i hi=>h i (by omega))
  obtain⟨e,he⟩:=h n (by omega)
  refine⟨l++ [e],by simp [hl],fun i hi'=> ?_⟩
  by_cases hin:i<n
  ·have:paAt (l++ [e]) i=paAt l i:=by unfold paAt;simp [List.getElem?_append_left (by omega:i<l.length)]
   rw [this];exact hi i hin
  ·have:paAt (l++ [e]) i=e:=by unfold paAt;simp [show i=l.length by omega]
   rw [this,show i=n by omega];exact he
set_option maxRecDepth 100000 in
theorem trod_parts {H:Type} {enc:TypeId×Value→H} {w:World} {spare:Nat→Bool} {held:Bool} {fuel:Nat} {cs:List Value} {x:DataW H×List MemPlace}
  (hf:DataW.trod enc Tryz.prog w 0 spare held fuel 46 cs=some x):∃v l,cs= [v]∧IsD w v (partsD l):=by
 rcases DataW.trod_slice Tryz.underlying46 hf with ⟨rfl,_⟩|⟨a,len,cap,elems,rest,n,_,rfl,_,hb,hl,hm,hlen,hel,_,_⟩
 ·exact⟨_,[],rfl,.nil none 0 7 _ (by unfold maxLen;omega)⟩
 ·by_cases h0:len=0
  ·subst h0
   exact⟨_,[],rfl,.nil _ _ 7 _ hm⟩
  ·obtain⟨b,off,spot⟩:=a
   have hs:spot=none:=by
    have h1:=hel 0 (by omega)
    rw [cellsPa,List.getElem?_eq_getElem (by omega)]at h1
    obtain⟨cs,hc,ht⟩:=Option.bind_eq_some_iff.1 h1
    obtain⟨p,u1,u4,u5,u6,rfl,_⟩:=trod_part ht
    have c0:=(World.cells?_some hc).2.2 0 (by omega)
    simpa [Addr.add] using World.cell?_spot c0
   subst hs
   have each:∀i,i<len→ ∃p:Pa,(∀r,r<7→ ∃u,w.cell? ⟨b,off+i*7+r,none⟩=some u∧IsD w u (p.cell r))∧b<w.heap.size:=by
    intro i hi
    have h1:=hel i hi
    rw [cellsPa,List.getElem?_eq_getElem (by omega),add_plain]at h1
    obtain⟨cs,hc,ht⟩:=Option.bind_eq_some_iff.1 h1
    obtain⟨p,u1,u4,u5,u6,rfl,g1,g4,g5,g6⟩:=trod_part ht
    have hblk:b<w.heap.size:=World.cells?_block hc (by omega)
    obtain⟨_,_,hcell⟩:=World.cells?_some hc
    simp only [add_plain]at hcell
    refine⟨p,fun r hr=> ?_,hblk⟩
    have hcr:=hcell r hr
    match r,hr,hcr with
    |0,_,hcr=>exact⟨_,hcr,.val _⟩
    |1,_,hcr=>exact⟨_,hcr,g1⟩
    |2,_,hcr=>exact⟨_,hcr,.val _⟩
    |3,_,hcr=>exact⟨_,hcr,.val _⟩
    |4,_,hcr=>exact⟨_,hcr,g4⟩
    |5,_,hcr=>exact⟨_,hcr,g5⟩
    |6,_,hcr=>exact⟨_,hcr,g6⟩
   obtain⟨_,_,hblk⟩:=each 0 (by omega)
   obtain⟨l,rfl,hi⟩:=pa_list (w:=w) (b:=b) (off:=off) len (fun i hi=>by
    obtain⟨e,he,_⟩:=each i hi
    exact⟨e,he⟩)
   refine⟨_,l,rfl,IsD.of_parts hl hm (.inr ⟨b,off,rfl,hblk,fun j hj=> ?_⟩)⟩
   obtain⟨u,hu,hd⟩:=hi (j/7) (by omega) (j%7) (by omega)
   refine⟨u,?_,hd⟩
   rw [←hu]
   congr 2
   omega
set_option maxRecDepth 100000 in
theorem trod_model {H:Type} {enc:TypeId×Value→H} {w:World} {spare:Nat→Bool} {held:Bool} {fuel:Nat} {cs:List Value} {x:DataW H×List MemPlace}
  (h:DataW.trod enc Tryz.prog w 0 spare held fuel 26 cs=some x):∃(m:Md) (vi vh vs:Value),cs= [.int .i64 m.n,.int .i64 m.s,vi,vh,vs,.int .i64 m.z]∧IsI w vi m.i∧IsH w vh m.h∧IsEvs w vs m.e:=by
 obtain⟨xs,n,_,_,hl,hlen,hf⟩:=DataW.trod_struct Tryz.underlying26 h
 rw [cellsM]at hl
 obtain⟨c0,c1,c2,c3,c4,c5,rfl⟩:=list6 hl
 have hx:xs.length=6:=by simpa using hlen
 obtain⟨y0,y1,y2,y3,y4,y5,rfl⟩:=list6 hx
 have h0:=hf 0 _ rfl
 have h1:=hf 1 _ rfl
 have h2:=hf 2 _ rfl
 have h3:=hf 3 _ rfl
 have h4:=hf 4 _ rfl
 have h5:=hf 5 _ rfl
 obtain⟨a0,e0,_,_⟩:=DataW.trod_int Tryz.underlying3 h0
 obtain⟨a1,e1,_,_⟩:=DataW.trod_int Tryz.underlying3 h1
 obtain⟨v2,l2,e2,g2⟩:=trod_ints h2
 obtain⟨v3,l3,e3,g3⟩:=trod_hs h3
 obtain⟨v4,l4,e4,g4⟩:=trod_evs h4
 obtain⟨a5,e5,_,_⟩:=DataW.trod_int Tryz.underlying3 h5
 simp [cells3,cellsInts,cellsRows,cellsEvs]at e0 e1 e2 e3 e4 e5
 subst e0 e1 e2 e3 e4 e5
 exact⟨⟨a0,a1,l2,l3,l4,a5⟩,c2,c3,c4,rfl,g2,g3,g4⟩
theorem cellsKns:Tryz.prog.cellsOf 27=1:=by kernel_rfl
theorem cellsVcs:Tryz.prog.cellsOf 28=1:=by kernel_rfl
theorem cellsWd:Tryz.prog.cellsOf 30=8:=by kernel_rfl
theorem list3k {α:Type} {l:List α} (h:l.length=3):∃a0 a1 a2,l= [a0,a1,a2]:=by
 match l,h with
 | [a0,a1,a2],_=>exact⟨a0,a1,a2,rfl⟩
set_option maxRecDepth 100000 in
theorem trod_kernel {H:Type} {enc:TypeId×Value→H} {w:World} {spare:Nat→Bool} {held:Bool} {fuel:Nat} {cs:List Value} {x:DataW H×List MemPlace}
  (h:DataW.trod enc Tryz.prog w 0 spare held fuel 50 cs=some x):∃(k:Kn) (vi vh vs u6 u7 u8 u12 u13:Value),cs= [.int .i64 k.m.n,.int .i64 k.m.s,vi,vh,vs,.int .i64 k.m.z,u6,u7,u8,.int .i64 k.t,.int .i64 k.q,.bool k.f,u12,u13]∧IsKern w (.agg #[.int .i64 k.m.n,.int .i64 k.m.s,vi,vh,vs,.int .i64 k.m.z,u6,u7,u8,.int .i64 k.t,.int .i64 k.q,.bool k.f,u12,u13]) k:=by
 obtain⟨xs,n,_,_,hl,hlen,hf⟩:=DataW.trod_struct Tryz.underlying50 h
 rw [cellsKn]at hl
 obtain⟨c0,c1,c2,c3,c4,c5,c6,c7,c8,c9,c10,c11,c12,c13,rfl⟩:=list14k hl
 have hx:xs.length=9:=by simpa using hlen
 obtain⟨y0,y1,y2,y3,y4,y5,y6,y7,y8,rfl⟩:=list9k hx
 have h0:=hf 0 _ rfl
 have h1:=hf 1 _ rfl
 have h2:=hf 2 _ rfl
 have h3:=hf 3 _ rfl
 have h4:=hf 4 _ rfl
 have h5:=hf 5 _ rfl
 have h6:=hf 6 _ rfl
 have h7:=hf 7 _ rfl
 have h8:=hf 8 _ rfl
 obtain⟨m,vi,vh,vs,e0,gi,gh,ge⟩:=trod_model h0
 obtain⟨v1,l1,e1,g1⟩:=trod_ints h1
 obtain⟨v2,l2,e2,g2⟩:=trod_parts h2
 obtain⟨v3,l3,e3,g3⟩:=trod_mails h3
 obtain⟨a4,e4,_,_⟩:=DataW.trod_int Tryz.underlying3 h4
 obtain⟨a5,e5,_,_⟩:=DataW.trod_int Tryz.underlying3 h5
 obtain⟨a6,e6,_⟩:=DataW.trod_bool Tryz.underlying4 h6
 obtain⟨v7,l7,e7,g7⟩:=trod_evs h7
 obtain⟨v8,l8,e8,g8⟩:=trod_ems h8
 simp [cells3,cellsM,cellsInts,cellsPas,cellsMls,cellsBool,cellsEvs,cellsEms]at e0 e1 e2 e3 e4 e5 e6 e7 e8
 obtain⟨rfl,rfl,rfl,rfl,rfl,rfl⟩:=e0
 subst e1 e2 e3 e4 e5 e6 e7 e8
 exact⟨⟨m,l1,l2,l3,a4,a5,a6,l7,l8⟩,c2,c3,c4,c6,c7,c8,c12,c13,rfl,c2,c3,c4,c6,c7,c8,c12,c13,rfl,⟨_,_,_,rfl,gi,gh,ge⟩,g1.isD,g2,g3.isD,g7.isD,g8.isD⟩
theorem kn_list {w:World} {b off:Nat}:∀n,(∀i,i<n→ ∃k:Kn,KAt w b (off+i*14) k)→ ∃l:List Kn,l.length=n∧ ∀i,i<n→KAt w b (off+i*14) (knAt l i)
 |0,_=>⟨[],rfl,fun i hi=>by omega⟩
 |n+1,h=>by
  obtain⟨l,hl,hi⟩:=kn_list n (fun i hi=>h i (by omega))
  obtain⟨e,he⟩:=h n (by omega)
  refine⟨l++ [e],by simp [hl],fun i hi'=> ?_⟩
  by_cases hin:i<n
  ·have:knAt (l++ [e]) i=knAt l i:=by unfold knAt;simp [List.getElem?_append_left (by omega:i<l.length)]
   rw [this];exact hi i hin
  ·have:knAt (l++ [e]) i=e:=by unfold knAt;simp [show i=l.length by omega]
   rw [this,show i=n by omega];exact he
theorem v_list {w:World} {b off:Nat}:∀n,(∀i,i<n→ ∃(u:Value) (d:List Int),w.cell? ⟨b,off+i,none⟩=some u∧IsI w u d)→ ∃l:List (List Int),l.length=n∧ ∀i,i<n→ ∃u,w.cell? ⟨b,off+i,none⟩=some u∧IsI w u (vAt l i)
 |0,_=>⟨[],rfl,fun i hi=>by omega⟩
 |n+1,h=>by
  obtain⟨l,hl,hi⟩:=v_list n (fun i hi=>h i (by omega))
  obtain⟨u,e,hu,he⟩:=h n (by omega)
  refine⟨l++ [e],by simp [hl],fun i hi'=> ?_⟩
  by_cases hin:i<n
  ·have:vAt (l++ [e]) i=vAt l i:=by unfold vAt;simp [List.getElem?_append_left (by omega:i<l.length)]
   rw [this];exact hi i hin
  ·have:vAt (l++ [e]) i=e:=by unfold vAt;simp [show i=l.length by omega]
   rw [this,show i=n by omega];exact⟨u,hu,he⟩
set_option maxRecDepth 100000 in
theorem trod_kernels {H:Type} {enc:TypeId×Value→H} {w:World} {spare:Nat→Bool} {held:Bool} {fuel:Nat} {cs:List Value} {x:DataW H×List MemPlace}
  (hf:DataW.trod enc Tryz.prog w 0 spare held fuel 27 cs=some x):∃v l,cs= [v]∧IsKs w v l:=by
 rcases DataW.trod_slice Tryz.underlying27 hf with ⟨rfl,_⟩|⟨a,len,cap,elems,rest,n,_,rfl,_,hb,hl,hm,hlen,hel,_,_⟩
 ·exact⟨_,[],rfl,none,0,rfl,Nat.le_refl _,by unfold maxLen;omega,.inl rfl⟩
 ·by_cases h0:len=0
  ·subst h0
   exact⟨_,[],rfl,_,_,rfl,hl,hm,.inl rfl⟩
  ·obtain⟨b,off,spot⟩:=a
   have hs:spot=none:=by
    have h1:=hel 0 (by omega)
    rw [cellsKn,List.getElem?_eq_getElem (by omega)]at h1
    obtain⟨cs,hc,ht⟩:=Option.bind_eq_some_iff.1 h1
    obtain⟨k,vi,vh,vs,u6,u7,u8,u12,u13,rfl,_⟩:=trod_kernel ht
    have c0:=(World.cells?_some hc).2.2 0 (by omega)
    simpa [Addr.add] using World.cell?_spot c0
   subst hs
   have each:∀i,i<len→ ∃k:Kn,KAt w b (off+i*14) k∧b<w.heap.size:=by
    intro i hi
    have h1:=hel i hi
    rw [cellsKn,List.getElem?_eq_getElem (by omega),add_plain]at h1
    obtain⟨cs,hc,ht⟩:=Option.bind_eq_some_iff.1 h1
    obtain⟨k,vi,vh,vs,u6,u7,u8,u12,u13,rfl,hk⟩:=trod_kernel ht
    have hblk:b<w.heap.size:=World.cells?_block hc (by omega)
    obtain⟨_,_,hcell⟩:=World.cells?_some hc
    simp only [add_plain]at hcell
    exact⟨k,⟨vi,vh,vs,u6,u7,u8,u12,u13,⟨hcell 0 (by omega),hcell 1 (by omega),hcell 2 (by omega),hcell 3 (by omega),hcell 4 (by omega),hcell 5 (by omega),hcell 6 (by omega),hcell 7 (by omega),hcell 8 (by omega),hcell 9 (by omega),hcell 10 (by omega),hcell 11 (by omega),hcell 12 (by omega),hcell 13 (by omega)⟩,hk⟩,hblk⟩
   obtain⟨_,_,hblk⟩:=each 0 (by omega)
   obtain⟨l,rfl,hi⟩:=kn_list (w:=w) (b:=b) (off:=off) len (fun i hi=>by
    obtain⟨e,he,_⟩:=each i hi
    exact⟨e,he⟩)
   exact⟨_,l,rfl,_,_,rfl,hl,hm,.inr ⟨b,off,rfl,hblk,hi⟩⟩
set_option maxRecDepth 100000 in
theorem trod_vecs {H:Type} {enc:TypeId×Value→H} {w:World} {spare:Nat→Bool} {held:Bool} {fuel:Nat} {cs:List Value} {x:DataW H×List MemPlace}
  (hf:DataW.trod enc Tryz.prog w 0 spare held fuel 28 cs=some x):∃v l,cs= [v]∧IsD w v (vecsD l):=by
 rcases DataW.trod_slice Tryz.underlying28 hf with ⟨rfl,_⟩|⟨a,len,cap,elems,rest,n,_,rfl,_,hb,hl,hm,hlen,hel,_,_⟩
 ·exact⟨_,[],rfl,.nil none 0 1 _ (by unfold maxLen;omega)⟩
 ·by_cases h0:len=0
  ·subst h0
   exact⟨_,[],rfl,.nil _ _ 1 _ hm⟩
  ·obtain⟨b,off,spot⟩:=a
   have hs:spot=none:=by
    have h1:=hel 0 (by omega)
    rw [cellsInts,List.getElem?_eq_getElem (by omega)]at h1
    obtain⟨cs,hc,ht⟩:=Option.bind_eq_some_iff.1 h1
    obtain⟨v,l,rfl,_⟩:=trod_ints ht
    have c0:=(World.cells?_some hc).2.2 0 (by omega)
    simpa [Addr.add] using World.cell?_spot c0
   subst hs
   have each:∀i,i<len→ ∃(u:Value) (l:List Int),(w.cell? ⟨b,off+i,none⟩=some u∧IsI w u l)∧b<w.heap.size:=by
    intro i hi
    have h1:=hel i hi
    rw [cellsInts,List.getElem?_eq_getElem (by omega),add_plain]at h1
    obtain⟨cs,hc,ht⟩:=Option.bind_eq_some_iff.1 h1
    obtain⟨v,l,rfl,hv⟩:=trod_ints ht
    have hblk:b<w.heap.size:=World.cells?_block hc (by omega)
    obtain⟨_,_,hcell⟩:=World.cells?_some hc
    have h2:=hcell 0 (by omega)
    simp only [add_plain]at h2
    exact⟨v,l,⟨by simpa using h2,hv⟩,hblk⟩
   obtain⟨_,_,_,hblk⟩:=each 0 (by omega)
   obtain⟨l,rfl,hi⟩:=v_list (w:=w) (b:=b) (off:=off) len (fun i hi=>by
    obtain⟨u,l,he,_⟩:=each i hi
    exact⟨u,l,he⟩)
   refine⟨_,l,rfl,IsD.of_parts hl hm (.inr ⟨b,off,rfl,hblk,fun j hj=> ?_⟩)⟩
   obtain⟨u,hu,hd⟩:=hi j (by omega)
   exact⟨u,hu,hd.isD⟩
set_option maxRecDepth 100000 in
theorem open_world {H:Type} {enc:TypeId×Value→H} {w:World} {b0:Nat} {spare:Nat→Bool} {held:Bool} {r:Reach} {v:Value} {d:DataW H} {p:List MemPlace}
  (hv:Value.okWide Tryz.prog w r b0 30 v) (h:DataW.Trod enc Tryz.prog w 0 spare held 30 v d p):∃k:Wd,IsW w v k:=by
 obtain⟨cs,rfl,hsz⟩:=okWide_struct Tryz.underlying30 hv
 obtain⟨fuel,hf⟩:=h
 obtain⟨xs,n,_,_,hl,hlen,hf⟩:=DataW.trod_struct Tryz.underlying30 hf
 rw [cellsWd]at hl
 obtain⟨c0,c1,c2,c3,c4,c5,c6,c7,hcs⟩:=list8k hl
 have hx:xs.length=3:=by simpa using hlen
 obtain⟨y0,y1,y2,rfl⟩:=list3k hx
 rw [hcs]at hf
 have h0:=hf 0 _ rfl
 have h1:=hf 1 _ rfl
 have h2:=hf 2 _ rfl
 obtain⟨m,vi,vh,vs,e0,gi,gh,ge⟩:=trod_model h0
 obtain⟨v1,l1,e1,g1⟩:=trod_kernels h1
 obtain⟨v2,l2,e2,g2⟩:=trod_vecs h2
 simp [cellsM,cellsKns,cellsVcs]at e0 e1 e2
 obtain⟨rfl,rfl,rfl,rfl,rfl,rfl⟩:=e0
 subst e1 e2
 refine⟨⟨m,l1,l2⟩,c2,c3,c4,c6,c7,?_,⟨_,_,_,rfl,gi,gh,ge⟩,g1,g2⟩
 rw [show cs= #[.int .i64 m.n,.int .i64 m.s,c2,c3,c4,.int .i64 m.z,c6,c7]from by
  apply Array.toList_inj.1
  simpa [Value.cells] using hcs]
end Go.Proofs.YtmobiieoecjmdaaGreat

/- At every argument the program's Table answers as the specification's, its answer owns its memory, and it writes into nothing that it is given; no condition. -/
namespace Go.Proofs.YtmobiieoecjmdaaGreat.LawExactTable
open Go.ChangeShapes Go.WideShapes Go.ChangeAt Go.RowKit Go.Proofs.YtmobiieoecjmdaaGreat
theorem com_small (k:Kn):SmallH (comH k):=by
 unfold comH
 split
 case isFalse=>exact⟨Nat.zero_le _,Nat.zero_le _⟩
 case isTrue h=>
  have h1:=(kern_iff.1 h).1
  have h2:=pre_len h (pre:=comL k) (t:= []) (by simp)
  have h3:=told_len h (pre:=comL k) (t:= []) (by simp)
  refine⟨?_,by show(toldL k (comL k)).length≤_;omega⟩
  show(k.s++bareL (comL k)).length≤_
  rw [List.length_append,bareL,List.length_map]
  omega
theorem ans_small (v:Wd) (i:Int):SmallH (tabA v i):=by
 unfold tabA
 split
 ·exact com_small _
 ·exact⟨Nat.zero_le _,Nat.zero_le _⟩
set_option maxRecDepth 100000 in
set_option maxHeartbeats 64000000 in
theorem walk (x:Value) (v:Wd) (i:Int) (w:World) (hx:IsW w x v) (_h1:wfI i):
  Calls Tryz.prog 7 #[x,.int .i64 i] w fun e w'=>e= .returned (.bool true)∧Below w.heap.size w w':=by
 haveI:Inhabited PsF:=Classical.inhabited_of_nonempty psF_some
 have HX:Hid (IsW w x v):=hx
 obtain⟨vi,vh,vs,uk,uc,rfl,_⟩:=hx
 clear _h1
 obtain⟨W0,hW0⟩:∃W0,w.alloc (.cells #[.int .i64 v.m.n,.int .i64 v.m.s,vi,vh,vs,.int .i64 v.m.z,uk,uc] 30)=W0:=⟨_,rfl⟩
 have HB_W0:Hid (Below w.heap.size w W0):=by rw [←hW0];exact(Below.refl _ w).alloc (Nat.le_refl _) _
 have HP_W0:Hid (Bk W0 w.heap.size 30 #[.int .i64 v.m.n,.int .i64 v.m.s,vi,vh,vs,.int .i64 v.m.z,uk,uc]):=by rw [←hW0];exact Bk.new w _ _
 have hV0:w.heap.size<W0.heap.size:=HP_W0.out.lt
 have p0:=HP_W0.out.cell (i:=0) rfl
 have p1:=HP_W0.out.cell (i:=1) rfl
 have p2:=HP_W0.out.cell (i:=2) rfl
 have p3:=HP_W0.out.cell (i:=3) rfl
 have p4:=HP_W0.out.cell (i:=4) rfl
 have p5:=HP_W0.out.cell (i:=5) rfl
 have p6:=HP_W0.out.cell (i:=6) rfl
 have p7:=HP_W0.out.cell (i:=7) rfl
 go_enter Tryz.func7,Tryz.ntmps7
 go_wp2_with fail
 clear hW0
 clear p0 p1 p2 p3 p4 p5 p6 p7
 refine(szWorld_R _ v _ _ (by omega) (by omega) (HX.out.under HB_W0.out)).mono ?_
 rintro r w1 ⟨⟨r1,rfl,hr⟩,hb⟩
 have z_w1:W0.heap.size≤w1.heap.size:=hb.size
 have HB_w1:Hid (Below w.heap.size w w1):=HB_W0.out.trans (hb.mono HB_W0.out.size)
 have HP_w1:Hid (Bk w1 w.heap.size 30 #[.int .i64 v.m.n,.int .i64 v.m.s,vi,vh,vs,.int .i64 v.m.z,uk,uc]):=HP_W0.out.below hb
 clear HB_W0 HP_W0
 clear hb
 rcases hr with rfl|⟨hr0,hr9⟩
 case inl=>
  go_wp2
  go_ret
  exact⟨rfl,HB_w1.out⟩
 have hr1:¬(r1<0):=by omega
 have hwd:wdW v≤1048576:=by omega
 have HSM:Hid (SmallWd v):=(wd_small hwd).1
 have HTY:Hid (TinyW v):=(wd_small hwd).2
 have HMK:Hid (1≤markW v∧markW v≤1073741824):=(by have:=tinyW_marks (wd_small hwd).2;omega:1≤markW v∧markW v≤1073741824)
 clear hr9 hwd
 have HC:Hid (∃R b,SmallH R∧(∀(v0:Value) (W:World),IsW W v0 v→Calls Tryz.prog 34 #[v0,.int .i64 i] W fun r w'=>∃u,r= .returned (.tuple #[u,.bool b])∧HiF (fun q=>W.heap.size≤q∧q<w'.heap.size) w' u R∧Below W.heap.size W w')∧(∀(v0:Value) (W:World),IsW W v0 v→Calls Tryz.prog 35 #[v0,.int .i64 i] W fun r w'=>∃u,r= .returned (.tuple #[u,.bool b])∧HiF (fun q=>W.heap.size≤q∧q<w'.heap.size) w' u R∧Below W.heap.size W w')):=⟨tabA v i,v.ok&&(decide (0≤i)&&decide (i<v.k.length)),ans_small v i,fun v0 W h0=>sTable v0 v i W HSM.out h0,fun v0 W h0=>iTable v0 v i W HSM.out h0⟩
 obtain⟨R,b,hq,hsp,him⟩:=HC.out
 have HSP:Hid (∀(v0:Value) (W:World),IsW W v0 v→Calls Tryz.prog 34 #[v0,.int .i64 i] W fun r w'=>∃u,r= .returned (.tuple #[u,.bool b])∧HiF (fun q=>W.heap.size≤q∧q<w'.heap.size) w' u R∧Below W.heap.size W w'):=hsp
 have HIM:Hid (∀(v0:Value) (W:World),IsW W v0 v→Calls Tryz.prog 35 #[v0,.int .i64 i] W fun r w'=>∃u,r= .returned (.tuple #[u,.bool b])∧HiF (fun q=>W.heap.size≤q∧q<w'.heap.size) w' u R∧Below W.heap.size W w'):=him
 have HE:Hid (SmallH R):=hq
 clear HC hsp him hq
 have p0:=HP_w1.out.cell (i:=0) rfl
 have p1:=HP_w1.out.cell (i:=1) rfl
 have p2:=HP_w1.out.cell (i:=2) rfl
 have p3:=HP_w1.out.cell (i:=3) rfl
 have p4:=HP_w1.out.cell (i:=4) rfl
 have p5:=HP_w1.out.cell (i:=5) rfl
 have p6:=HP_w1.out.cell (i:=6) rfl
 have p7:=HP_w1.out.cell (i:=7) rfl
 go_wp2_with fail
 clear p0 p1 p2 p3 p4 p5 p6 p7
 refine(toWorld_any _ v _ HSM.out (HX.out.under HB_w1.out)).mono ?_
 rintro r w2 ⟨ya,rfl,hb,hr⟩
 have z_w2:w1.heap.size≤w2.heap.size:=hb.size
 have HB_w2:Hid (Below w.heap.size w w2):=HB_w1.out.trans (hb.mono HB_w1.out.size)
 have HP_w2:Hid (Bk w2 w.heap.size 30 #[.int .i64 v.m.n,.int .i64 v.m.s,vi,vh,vs,.int .i64 v.m.z,uk,uc]):=HP_w1.out.below hb
 clear HB_w1 HP_w1
 have HA_w2:Hid (WorF (fun k=>w1.heap.size≤k∧k<w2.heap.size) w2 ya v):=hr
 clear hb hr
 go_wp2_with fail
 refine(HSP.out _ _ HA_w2.out.is).mono ?_
 rintro r w3 ⟨uo,rfl,hr,hb⟩
 obtain⟨gao,gco,hao,hco,rfl⟩:=HiF.form hr
 have z_w3:w2.heap.size≤w3.heap.size:=hb.size
 have HB_w3:Hid (Below w.heap.size w w3):=HB_w2.out.trans (hb.mono HB_w2.out.size)
 have HP_w3:Hid (Bk w3 w.heap.size 30 #[.int .i64 v.m.n,.int .i64 v.m.s,vi,vh,vs,.int .i64 v.m.z,uk,uc]):=HP_w2.out.below hb
 have HA_w3:Hid (WorF (fun k=>w1.heap.size≤k∧k<w2.heap.size) w3 ya v):=HA_w2.out.below hb
 clear HB_w2 HP_w2 HA_w2
 have HS_w3:Hid (HiF (fun q=>w2.heap.size≤q∧q<w3.heap.size) w3 (.agg #[.slice gao R.ev.length gco,.slice hao R.em.length hco,.int .i64 R.k,.bool R.f]) R):=hr
 clear hb hr
 obtain⟨Vw3,hVw3⟩:∃V,w3.alloc (.cells #[.slice gao R.ev.length gco,.slice hao R.em.length hco,.int .i64 R.k,.bool R.f] 62)=V:=⟨_,rfl⟩
 have BHSb:Bk Vw3 w3.heap.size 62 #[.slice gao R.ev.length gco,.slice hao R.em.length hco,.int .i64 R.k,.bool R.f]:=by rw [←hVw3];exact Bk.new _ _ _
 have hb:Below w3.heap.size w3 Vw3:=by rw [←hVw3];exact(Below.refl _ _).alloc (Nat.le_refl _) _
 have y_Vw3:w3.heap.size<Vw3.heap.size:=BHSb.lt
 have z_Vw3:w3.heap.size≤Vw3.heap.size:=hb.size
 have HB_Vw3:Hid (Below w.heap.size w Vw3):=HB_w3.out.trans (hb.mono HB_w3.out.size)
 have HP_Vw3:Hid (Bk Vw3 w.heap.size 30 #[.int .i64 v.m.n,.int .i64 v.m.s,vi,vh,vs,.int .i64 v.m.z,uk,uc]):=HP_w3.out.below hb
 have HA_Vw3:Hid (WorF (fun k=>w1.heap.size≤k∧k<w2.heap.size) Vw3 ya v):=HA_w3.out.below hb
 have HS_Vw3:Hid (HiF (fun q=>w2.heap.size≤q∧q<w3.heap.size) Vw3 (.agg #[.slice gao R.ev.length gco,.slice hao R.em.length hco,.int .i64 R.k,.bool R.f]) R):=HS_w3.out.below hb
 clear HB_w3 HP_w3 HA_w3 HS_w3
 clear hb
 have HSb_Vw3:Hid (Bk Vw3 w3.heap.size 62 #[.slice gao R.ev.length gco,.slice hao R.em.length hco,.int .i64 R.k,.bool R.f]):=BHSb
 clear BHSb
 clear HA_Vw3
 clear HSP
 have p0:=HP_Vw3.out.cell (i:=0) rfl
 have p1:=HP_Vw3.out.cell (i:=1) rfl
 have p2:=HP_Vw3.out.cell (i:=2) rfl
 have p3:=HP_Vw3.out.cell (i:=3) rfl
 have p4:=HP_Vw3.out.cell (i:=4) rfl
 have p5:=HP_Vw3.out.cell (i:=5) rfl
 have p6:=HP_Vw3.out.cell (i:=6) rfl
 have p7:=HP_Vw3.out.cell (i:=7) rfl
 go_wp2_with fail
 clear hVw3
 clear p0 p1 p2 p3 p4 p5 p6 p7
 refine(toWorld_any _ v _ HSM.out (HX.out.under HB_Vw3.out)).mono ?_
 rintro r w4 ⟨y1,rfl,hb,hr⟩
 have z_w4:Vw3.heap.size≤w4.heap.size:=hb.size
 have HB_w4:Hid (Below w.heap.size w w4):=HB_Vw3.out.trans (hb.mono HB_Vw3.out.size)
 have HP_w4:Hid (Bk w4 w.heap.size 30 #[.int .i64 v.m.n,.int .i64 v.m.s,vi,vh,vs,.int .i64 v.m.z,uk,uc]):=HP_Vw3.out.below hb
 have HS_w4:Hid (HiF (fun q=>w2.heap.size≤q∧q<w3.heap.size) w4 (.agg #[.slice gao R.ev.length gco,.slice hao R.em.length hco,.int .i64 R.k,.bool R.f]) R):=HS_Vw3.out.below hb
 have HSb_w4:Hid (Bk w4 w3.heap.size 62 #[.slice gao R.ev.length gco,.slice hao R.em.length hco,.int .i64 R.k,.bool R.f]):=HSb_Vw3.out.below hb
 clear HB_Vw3 HP_Vw3 HS_Vw3 HSb_Vw3
 have HR_w4:Hid (WorF (fun k=>Vw3.heap.size≤k∧k<w4.heap.size) w4 y1 v):=hr
 clear hb hr
 obtain⟨kau,kbu,kcu,kdu,keu,kfu,kgu,khu,kiu,kju,rfl⟩:=HR_w4.out.form
 obtain⟨Vw4,hVw4⟩:∃V,w4.alloc (.cells #[.int .i64 v.m.n,.int .i64 v.m.s,.slice kau v.m.i.length kbu,.slice kcu v.m.h.length kdu,.slice keu v.m.e.length kfu,.int .i64 v.m.z,.slice kgu v.k.length khu,.slice kiu v.c.length kju] 39)=V:=⟨_,rfl⟩
 have BHX0:Bk Vw4 w4.heap.size 39 #[.int .i64 v.m.n,.int .i64 v.m.s,.slice kau v.m.i.length kbu,.slice kcu v.m.h.length kdu,.slice keu v.m.e.length kfu,.int .i64 v.m.z,.slice kgu v.k.length khu,.slice kiu v.c.length kju]:=by rw [←hVw4];exact Bk.new _ _ _
 have hb:Below w4.heap.size w4 Vw4:=by rw [←hVw4];exact(Below.refl _ _).alloc (Nat.le_refl _) _
 have y_Vw4:w4.heap.size<Vw4.heap.size:=BHX0.lt
 have z_Vw4:w4.heap.size≤Vw4.heap.size:=hb.size
 have HB_Vw4:Hid (Below w.heap.size w Vw4):=HB_w4.out.trans (hb.mono HB_w4.out.size)
 have HP_Vw4:Hid (Bk Vw4 w.heap.size 30 #[.int .i64 v.m.n,.int .i64 v.m.s,vi,vh,vs,.int .i64 v.m.z,uk,uc]):=HP_w4.out.below hb
 have HS_Vw4:Hid (HiF (fun q=>w2.heap.size≤q∧q<w3.heap.size) Vw4 (.agg #[.slice gao R.ev.length gco,.slice hao R.em.length hco,.int .i64 R.k,.bool R.f]) R):=HS_w4.out.below hb
 have HSb_Vw4:Hid (Bk Vw4 w3.heap.size 62 #[.slice gao R.ev.length gco,.slice hao R.em.length hco,.int .i64 R.k,.bool R.f]):=HSb_w4.out.below hb
 have HR_Vw4:Hid (WorF (fun k=>Vw3.heap.size≤k∧k<w4.heap.size) Vw4 (.agg #[.int .i64 v.m.n,.int .i64 v.m.s,.slice kau v.m.i.length kbu,.slice kcu v.m.h.length kdu,.slice keu v.m.e.length kfu,.int .i64 v.m.z,.slice kgu v.k.length khu,.slice kiu v.c.length kju]) v):=HR_w4.out.below hb
 clear HB_w4 HP_w4 HS_w4 HSb_w4 HR_w4
 clear hb
 have HX0_Vw4:Hid (Bk Vw4 w4.heap.size 39 #[.int .i64 v.m.n,.int .i64 v.m.s,.slice kau v.m.i.length kbu,.slice kcu v.m.h.length kdu,.slice keu v.m.e.length kfu,.int .i64 v.m.z,.slice kgu v.k.length khu,.slice kiu v.c.length kju]):=BHX0
 clear BHX0
 have r0:=HX0_Vw4.out.cell (i:=0) rfl
 have r1:=HX0_Vw4.out.cell (i:=1) rfl
 have r2:=HX0_Vw4.out.cell (i:=2) rfl
 have r3:=HX0_Vw4.out.cell (i:=3) rfl
 have r4:=HX0_Vw4.out.cell (i:=4) rfl
 have r5:=HX0_Vw4.out.cell (i:=5) rfl
 have r6:=HX0_Vw4.out.cell (i:=6) rfl
 have r7:=HX0_Vw4.out.cell (i:=7) rfl
 go_wp2_with fail
 clear hVw4
 refine(HIM.out _ _ HR_Vw4.out.is).mono ?_
 rintro r w5 ⟨ug,rfl,hr,hb⟩
 obtain⟨gag,gcg,hag,hcg,rfl⟩:=HiF.form hr
 have z_w5:Vw4.heap.size≤w5.heap.size:=hb.size
 have HB_w5:Hid (Below w.heap.size w w5):=HB_Vw4.out.trans (hb.mono HB_Vw4.out.size)
 have HP_w5:Hid (Bk w5 w.heap.size 30 #[.int .i64 v.m.n,.int .i64 v.m.s,vi,vh,vs,.int .i64 v.m.z,uk,uc]):=HP_Vw4.out.below hb
 have HS_w5:Hid (HiF (fun q=>w2.heap.size≤q∧q<w3.heap.size) w5 (.agg #[.slice gao R.ev.length gco,.slice hao R.em.length hco,.int .i64 R.k,.bool R.f]) R):=HS_Vw4.out.below hb
 have HSb_w5:Hid (Bk w5 w3.heap.size 62 #[.slice gao R.ev.length gco,.slice hao R.em.length hco,.int .i64 R.k,.bool R.f]):=HSb_Vw4.out.below hb
 have HR_w5:Hid (WorF (fun k=>Vw3.heap.size≤k∧k<w4.heap.size) w5 (.agg #[.int .i64 v.m.n,.int .i64 v.m.s,.slice kau v.m.i.length kbu,.slice kcu v.m.h.length kdu,.slice keu v.m.e.length kfu,.int .i64 v.m.z,.slice kgu v.k.length khu,.slice kiu v.c.length kju]) v):=HR_Vw4.out.below hb
 have HX0_w5:Hid (Bk w5 w4.heap.size 39 #[.int .i64 v.m.n,.int .i64 v.m.s,.slice kau v.m.i.length kbu,.slice kcu v.m.h.length kdu,.slice keu v.m.e.length kfu,.int .i64 v.m.z,.slice kgu v.k.length khu,.slice kiu v.c.length kju]):=HX0_Vw4.out.below hb
 clear HB_Vw4 HP_Vw4 HS_Vw4 HSb_Vw4 HR_Vw4 HX0_Vw4
 have HG_w5:Hid (HiF (fun q=>Vw4.heap.size≤q∧q<w5.heap.size) w5 (.agg #[.slice gag R.ev.length gcg,.slice hag R.em.length hcg,.int .i64 R.k,.bool R.f]) R):=hr
 clear hb hr
 obtain⟨Vw5,hVw5⟩:∃V,w5.alloc (.cells #[.slice gag R.ev.length gcg,.slice hag R.em.length hcg,.int .i64 R.k,.bool R.f] 62)=V:=⟨_,rfl⟩
 have BHGb:Bk Vw5 w5.heap.size 62 #[.slice gag R.ev.length gcg,.slice hag R.em.length hcg,.int .i64 R.k,.bool R.f]:=by rw [←hVw5];exact Bk.new _ _ _
 have hb:Below w5.heap.size w5 Vw5:=by rw [←hVw5];exact(Below.refl _ _).alloc (Nat.le_refl _) _
 have y_Vw5:w5.heap.size<Vw5.heap.size:=BHGb.lt
 have z_Vw5:w5.heap.size≤Vw5.heap.size:=hb.size
 have HB_Vw5:Hid (Below w.heap.size w Vw5):=HB_w5.out.trans (hb.mono HB_w5.out.size)
 have HP_Vw5:Hid (Bk Vw5 w.heap.size 30 #[.int .i64 v.m.n,.int .i64 v.m.s,vi,vh,vs,.int .i64 v.m.z,uk,uc]):=HP_w5.out.below hb
 have HS_Vw5:Hid (HiF (fun q=>w2.heap.size≤q∧q<w3.heap.size) Vw5 (.agg #[.slice gao R.ev.length gco,.slice hao R.em.length hco,.int .i64 R.k,.bool R.f]) R):=HS_w5.out.below hb
 have HSb_Vw5:Hid (Bk Vw5 w3.heap.size 62 #[.slice gao R.ev.length gco,.slice hao R.em.length hco,.int .i64 R.k,.bool R.f]):=HSb_w5.out.below hb
 have HR_Vw5:Hid (WorF (fun k=>Vw3.heap.size≤k∧k<w4.heap.size) Vw5 (.agg #[.int .i64 v.m.n,.int .i64 v.m.s,.slice kau v.m.i.length kbu,.slice kcu v.m.h.length kdu,.slice keu v.m.e.length kfu,.int .i64 v.m.z,.slice kgu v.k.length khu,.slice kiu v.c.length kju]) v):=HR_w5.out.below hb
 have HX0_Vw5:Hid (Bk Vw5 w4.heap.size 39 #[.int .i64 v.m.n,.int .i64 v.m.s,.slice kau v.m.i.length kbu,.slice kcu v.m.h.length kdu,.slice keu v.m.e.length kfu,.int .i64 v.m.z,.slice kgu v.k.length khu,.slice kiu v.c.length kju]):=HX0_w5.out.below hb
 have HG_Vw5:Hid (HiF (fun q=>Vw4.heap.size≤q∧q<w5.heap.size) Vw5 (.agg #[.slice gag R.ev.length gcg,.slice hag R.em.length hcg,.int .i64 R.k,.bool R.f]) R):=HG_w5.out.below hb
 clear HB_w5 HP_w5 HS_w5 HSb_w5 HR_w5 HX0_w5 HG_w5
 clear hb
 have HGb_Vw5:Hid (Bk Vw5 w5.heap.size 62 #[.slice gag R.ev.length gcg,.slice hag R.em.length hcg,.int .i64 R.k,.bool R.f]):=BHGb
 clear BHGb
 clear r0 r1 r2 r3 r4 r5 r6 r7
 have g0:=HGb_Vw5.out.cell (i:=0) rfl
 have g1:=HGb_Vw5.out.cell (i:=1) rfl
 have g2:=HGb_Vw5.out.cell (i:=2) rfl
 have g3:=HGb_Vw5.out.cell (i:=3) rfl
 have t0:=HSb_Vw5.out.cell (i:=0) rfl
 have t1:=HSb_Vw5.out.cell (i:=1) rfl
 have t2:=HSb_Vw5.out.cell (i:=2) rfl
 have t3:=HSb_Vw5.out.cell (i:=3) rfl
 go_wp2_with fail
 clear hVw5
 clear g0 g1 g2 g3
 clear t0 t1 t2 t3
 refine(eqHistory_same _ _ R _ HE.out HG_Vw5.out HS_Vw5.out).mono ?_
 rintro r w6 ⟨rfl,hb⟩
 have z_w6:Vw5.heap.size≤w6.heap.size:=hb.size
 have HB_w6:Hid (Below w.heap.size w w6):=HB_Vw5.out.trans (hb.mono HB_Vw5.out.size)
 have HP_w6:Hid (Bk w6 w.heap.size 30 #[.int .i64 v.m.n,.int .i64 v.m.s,vi,vh,vs,.int .i64 v.m.z,uk,uc]):=HP_Vw5.out.below hb
 have HS_w6:Hid (HiF (fun q=>w2.heap.size≤q∧q<w3.heap.size) w6 (.agg #[.slice gao R.ev.length gco,.slice hao R.em.length hco,.int .i64 R.k,.bool R.f]) R):=HS_Vw5.out.below hb
 have HSb_w6:Hid (Bk w6 w3.heap.size 62 #[.slice gao R.ev.length gco,.slice hao R.em.length hco,.int .i64 R.k,.bool R.f]):=HSb_Vw5.out.below hb
 have HR_w6:Hid (WorF (fun k=>Vw3.heap.size≤k∧k<w4.heap.size) w6 (.agg #[.int .i64 v.m.n,.int .i64 v.m.s,.slice kau v.m.i.length kbu,.slice kcu v.m.h.length kdu,.slice keu v.m.e.length kfu,.int .i64 v.m.z,.slice kgu v.k.length khu,.slice kiu v.c.length kju]) v):=HR_Vw5.out.below hb
 have HX0_w6:Hid (Bk w6 w4.heap.size 39 #[.int .i64 v.m.n,.int .i64 v.m.s,.slice kau v.m.i.length kbu,.slice kcu v.m.h.length kdu,.slice keu v.m.e.length kfu,.int .i64 v.m.z,.slice kgu v.k.length khu,.slice kiu v.c.length kju]):=HX0_Vw5.out.below hb
 have HG_w6:Hid (HiF (fun q=>Vw4.heap.size≤q∧q<w5.heap.size) w6 (.agg #[.slice gag R.ev.length gcg,.slice hag R.em.length hcg,.int .i64 R.k,.bool R.f]) R):=HG_Vw5.out.below hb
 have HGb_w6:Hid (Bk w6 w5.heap.size 62 #[.slice gag R.ev.length gcg,.slice hag R.em.length hcg,.int .i64 R.k,.bool R.f]):=HGb_Vw5.out.below hb
 clear HB_Vw5 HP_Vw5 HS_Vw5 HSb_Vw5 HR_Vw5 HX0_Vw5 HG_Vw5 HGb_Vw5
 clear hb
 have r0:=HX0_w6.out.cell (i:=0) rfl
 have r1:=HX0_w6.out.cell (i:=1) rfl
 have r2:=HX0_w6.out.cell (i:=2) rfl
 have r3:=HX0_w6.out.cell (i:=3) rfl
 have r4:=HX0_w6.out.cell (i:=4) rfl
 have r5:=HX0_w6.out.cell (i:=5) rfl
 have r6:=HX0_w6.out.cell (i:=6) rfl
 have r7:=HX0_w6.out.cell (i:=7) rfl
 have p0:=HP_w6.out.cell (i:=0) rfl
 have p1:=HP_w6.out.cell (i:=1) rfl
 have p2:=HP_w6.out.cell (i:=2) rfl
 have p3:=HP_w6.out.cell (i:=3) rfl
 have p4:=HP_w6.out.cell (i:=4) rfl
 have p5:=HP_w6.out.cell (i:=5) rfl
 have p6:=HP_w6.out.cell (i:=6) rfl
 have p7:=HP_w6.out.cell (i:=7) rfl
 go_wp2_with fail
 go_region_held3 (fun W=>W.cell? ⟨w4.heap.size,0,none⟩=some (.int .i64 v.m.n)∧W.cell? ⟨w4.heap.size,1,none⟩=some (.int .i64 v.m.s)∧W.cell? ⟨w4.heap.size,2,none⟩=some (.slice kau v.m.i.length kbu)∧W.cell? ⟨w4.heap.size,3,none⟩=some (.slice kcu v.m.h.length kdu)∧W.cell? ⟨w4.heap.size,4,none⟩=some (.slice keu v.m.e.length kfu)∧W.cell? ⟨w4.heap.size,5,none⟩=some (.int .i64 v.m.z)∧W.cell? ⟨w4.heap.size,6,none⟩=some (.slice kgu v.k.length khu)∧W.cell? ⟨w4.heap.size,7,none⟩=some (.slice kiu v.c.length kju)∧W.cell? ⟨w.heap.size,0,none⟩=some (.int .i64 v.m.n)∧W.cell? ⟨w.heap.size,1,none⟩=some (.int .i64 v.m.s)∧W.cell? ⟨w.heap.size,2,none⟩=some vi∧W.cell? ⟨w.heap.size,3,none⟩=some vh∧W.cell? ⟨w.heap.size,4,none⟩=some vs∧W.cell? ⟨w.heap.size,5,none⟩=some (.int .i64 v.m.z)∧W.cell? ⟨w.heap.size,6,none⟩=some uk∧W.cell? ⟨w.heap.size,7,none⟩=some uc) ((repeat' apply And.intro)<;>first|(go_keep;done)|(rw [hcA _ _ (by first|omega|(simp;omega))];simp [*];done))
  (first|(go_at_call 11;refine(toWorld_any _ v _ HSM.out (HX.out.under HB_w6.out.drew)).mono ?_;rintro r w7 ⟨yx,rfl,hbw7,hr2⟩;obtain⟨hcA,hfA⟩:=bcell hbw7;have hzw7:w6.heap.size≤w7.heap.size:=hbw7.size)|(go_at_call 14;refine(eqWorld_same _ _ v _ HSM.out (HR_w6.out.below ((Below.refl _ w6).drew.trans hbw7)).is hr2.is).mono ?_;rintro r w8 ⟨rfl,hbw8⟩;obtain⟨hcA,hfA⟩:=bcell hbw8;have hzw8:w7.heap.size≤w8.heap.size:=hbw8.size))
 clear hcA hfA
 have hbc:Below w6.heap.size w6 w8:=((Below.refl w6.heap.size w6).drew.trans (hbw7.mono (Nat.le_refl _))).trans (hbw8.mono (by omega))
 clear r0 r1 r2 r3 r4 r5 r6 r7
 clear p0 p1 p2 p3 p4 p5 p6 p7
 have z_w8:w6.heap.size≤w8.heap.size:=hbc.size
 have HB_w8:Hid (Below w.heap.size w w8):=HB_w6.out.trans (hbc.mono HB_w6.out.size)
 have HP_w8:Hid (Bk w8 w.heap.size 30 #[.int .i64 v.m.n,.int .i64 v.m.s,vi,vh,vs,.int .i64 v.m.z,uk,uc]):=HP_w6.out.below hbc
 have HS_w8:Hid (HiF (fun q=>w2.heap.size≤q∧q<w3.heap.size) w8 (.agg #[.slice gao R.ev.length gco,.slice hao R.em.length hco,.int .i64 R.k,.bool R.f]) R):=HS_w6.out.below hbc
 have HSb_w8:Hid (Bk w8 w3.heap.size 62 #[.slice gao R.ev.length gco,.slice hao R.em.length hco,.int .i64 R.k,.bool R.f]):=HSb_w6.out.below hbc
 have HR_w8:Hid (WorF (fun k=>Vw3.heap.size≤k∧k<w4.heap.size) w8 (.agg #[.int .i64 v.m.n,.int .i64 v.m.s,.slice kau v.m.i.length kbu,.slice kcu v.m.h.length kdu,.slice keu v.m.e.length kfu,.int .i64 v.m.z,.slice kgu v.k.length khu,.slice kiu v.c.length kju]) v):=HR_w6.out.below hbc
 have HX0_w8:Hid (Bk w8 w4.heap.size 39 #[.int .i64 v.m.n,.int .i64 v.m.s,.slice kau v.m.i.length kbu,.slice kcu v.m.h.length kdu,.slice keu v.m.e.length kfu,.int .i64 v.m.z,.slice kgu v.k.length khu,.slice kiu v.c.length kju]):=HX0_w6.out.below hbc
 have HG_w8:Hid (HiF (fun q=>Vw4.heap.size≤q∧q<w5.heap.size) w8 (.agg #[.slice gag R.ev.length gcg,.slice hag R.em.length hcg,.int .i64 R.k,.bool R.f]) R):=HG_w6.out.below hbc
 have HGb_w8:Hid (Bk w8 w5.heap.size 62 #[.slice gag R.ev.length gcg,.slice hag R.em.length hcg,.int .i64 R.k,.bool R.f]):=HGb_w6.out.below hbc
 clear HB_w6 HP_w6 HS_w6 HSb_w6 HR_w6 HX0_w6 HG_w6 HGb_w6
 clear hbc hr2 hbw7 hzw7 hbw8 hzw8
 have r0:=HX0_w8.out.cell (i:=0) rfl
 have r1:=HX0_w8.out.cell (i:=1) rfl
 have r2:=HX0_w8.out.cell (i:=2) rfl
 have r3:=HX0_w8.out.cell (i:=3) rfl
 have r4:=HX0_w8.out.cell (i:=4) rfl
 have r5:=HX0_w8.out.cell (i:=5) rfl
 have r6:=HX0_w8.out.cell (i:=6) rfl
 have r7:=HX0_w8.out.cell (i:=7) rfl
 go_wp2_with fail
 clear r0 r1 r2 r3 r4 r5 r6 r7
 refine(markWorld_any HTY.out HR_w8.out (fun k e=>by omega)).mono ?_
 rintro r w9 ⟨rfl,_,ht⟩
 have z_w9:w8.heap.size≤w9.heap.size:=ht.size
 have HB_w9:Hid (Below w.heap.size w w9):=HB_w8.out.trans (ht.to_below (fun k e=>by omega) (by omega))
 have HP_w9:Hid (Bk w9 w.heap.size 30 #[.int .i64 v.m.n,.int .i64 v.m.s,vi,vh,vs,.int .i64 v.m.z,uk,uc]):=HP_w8.out.turns ht (fun e=>by omega)
 have HS_w9:Hid (HiF (fun q=>w2.heap.size≤q∧q<w3.heap.size) w9 (.agg #[.slice gao R.ev.length gco,.slice hao R.em.length hco,.int .i64 R.k,.bool R.f]) R):=HS_w8.out.turns ht (fun k e=>by omega)
 have HSb_w9:Hid (Bk w9 w3.heap.size 62 #[.slice gao R.ev.length gco,.slice hao R.em.length hco,.int .i64 R.k,.bool R.f]):=HSb_w8.out.turns ht (fun e=>by omega)
 have HG_w9:Hid (HiF (fun q=>Vw4.heap.size≤q∧q<w5.heap.size) w9 (.agg #[.slice gag R.ev.length gcg,.slice hag R.em.length hcg,.int .i64 R.k,.bool R.f]) R):=HG_w8.out.turns ht (fun k e=>by omega)
 have HGb_w9:Hid (Bk w9 w5.heap.size 62 #[.slice gag R.ev.length gcg,.slice hag R.em.length hcg,.int .i64 R.k,.bool R.f]):=HGb_w8.out.turns ht (fun e=>by omega)
 clear HB_w8 HP_w8 HS_w8 HSb_w8 HR_w8 HX0_w8 HG_w8 HGb_w8
 clear ht
 obtain⟨mk,hmk⟩:∃mk,markW v=mk:=⟨_,rfl⟩
 have hmk0:1≤mk:=hmk▸HMK.out.1
 have hmk1:mk≤1073741824:=hmk▸HMK.out.2
 rw [hmk]
 clear hmk
 have hkn:¬(mk<0):=by omega
 have g0:=HGb_w9.out.cell (i:=0) rfl
 have g1:=HGb_w9.out.cell (i:=1) rfl
 have g2:=HGb_w9.out.cell (i:=2) rfl
 have g3:=HGb_w9.out.cell (i:=3) rfl
 have t0:=HSb_w9.out.cell (i:=0) rfl
 have t1:=HSb_w9.out.cell (i:=1) rfl
 have t2:=HSb_w9.out.cell (i:=2) rfl
 have t3:=HSb_w9.out.cell (i:=3) rfl
 go_wp2_with fail
 clear g0 g1 g2 g3
 clear t0 t1 t2 t3
 refine(eqHistory_same _ _ R _ HE.out HG_w9.out HS_w9.out).mono ?_
 rintro r w10 ⟨rfl,hb⟩
 have z_w10:w9.heap.size≤w10.heap.size:=hb.size
 have HB_w10:Hid (Below w.heap.size w w10):=HB_w9.out.trans (hb.mono HB_w9.out.size)
 have HP_w10:Hid (Bk w10 w.heap.size 30 #[.int .i64 v.m.n,.int .i64 v.m.s,vi,vh,vs,.int .i64 v.m.z,uk,uc]):=HP_w9.out.below hb
 have HS_w10:Hid (HiF (fun q=>w2.heap.size≤q∧q<w3.heap.size) w10 (.agg #[.slice gao R.ev.length gco,.slice hao R.em.length hco,.int .i64 R.k,.bool R.f]) R):=HS_w9.out.below hb
 have HSb_w10:Hid (Bk w10 w3.heap.size 62 #[.slice gao R.ev.length gco,.slice hao R.em.length hco,.int .i64 R.k,.bool R.f]):=HSb_w9.out.below hb
 have HG_w10:Hid (HiF (fun q=>Vw4.heap.size≤q∧q<w5.heap.size) w10 (.agg #[.slice gag R.ev.length gcg,.slice hag R.em.length hcg,.int .i64 R.k,.bool R.f]) R):=HG_w9.out.below hb
 have HGb_w10:Hid (Bk w10 w5.heap.size 62 #[.slice gag R.ev.length gcg,.slice hag R.em.length hcg,.int .i64 R.k,.bool R.f]):=HGb_w9.out.below hb
 clear HB_w9 HP_w9 HS_w9 HSb_w9 HG_w9 HGb_w9
 clear hb
 have g0:=HGb_w10.out.cell (i:=0) rfl
 have g1:=HGb_w10.out.cell (i:=1) rfl
 have g2:=HGb_w10.out.cell (i:=2) rfl
 have g3:=HGb_w10.out.cell (i:=3) rfl
 go_wp2_with fail
 clear g0 g1 g2 g3
 refine(markHistory_any HE.out HG_w10.out (fun k e=>by omega)).mono ?_
 rintro r w11 ⟨rfl,hh,ht⟩
 have z_w11:w10.heap.size≤w11.heap.size:=ht.size
 have HB_w11:Hid (Below w.heap.size w w11):=HB_w10.out.trans (ht.to_below (fun k e=>by omega) (by omega))
 have HP_w11:Hid (Bk w11 w.heap.size 30 #[.int .i64 v.m.n,.int .i64 v.m.s,vi,vh,vs,.int .i64 v.m.z,uk,uc]):=HP_w10.out.turns ht (fun e=>by omega)
 have HS_w11:Hid (HiF (fun q=>w2.heap.size≤q∧q<w3.heap.size) w11 (.agg #[.slice gao R.ev.length gco,.slice hao R.em.length hco,.int .i64 R.k,.bool R.f]) R):=HS_w10.out.turns ht (fun k e=>by omega)
 have HSb_w11:Hid (Bk w11 w3.heap.size 62 #[.slice gao R.ev.length gco,.slice hao R.em.length hco,.int .i64 R.k,.bool R.f]):=HSb_w10.out.turns ht (fun e=>by omega)
 have HGb_w11:Hid (Bk w11 w5.heap.size 62 #[.slice gag R.ev.length gcg,.slice hag R.em.length hcg,.int .i64 R.k,.bool R.f]):=HGb_w10.out.turns ht (fun e=>by omega)
 clear HB_w10 HP_w10 HS_w10 HSb_w10 HG_w10 HGb_w10
 have HH_w11:Hid (HeldHi (fun q=>Vw4.heap.size≤q∧q<w5.heap.size) w11 (.agg #[.slice gag R.ev.length gcg,.slice hag R.em.length hcg,.int .i64 R.k,.bool R.f]) R):=hh
 clear hh ht
 have hmn:¬(markHi R<0):=by have:=markHi_pos R;omega
 have g0:=HGb_w11.out.cell (i:=0) rfl
 have g1:=HGb_w11.out.cell (i:=1) rfl
 have g2:=HGb_w11.out.cell (i:=2) rfl
 have g3:=HGb_w11.out.cell (i:=3) rfl
 go_wp2_with fail
 clear g0 g1 g2 g3
 refine(heldHistory_any HE.out HH_w11.out).mono ?_
 rintro r w12 ⟨rfl,hb⟩
 have z_w12:w11.heap.size≤w12.heap.size:=hb.size
 have HB_w12:Hid (Below w.heap.size w w12):=HB_w11.out.trans (hb.mono HB_w11.out.size)
 have HP_w12:Hid (Bk w12 w.heap.size 30 #[.int .i64 v.m.n,.int .i64 v.m.s,vi,vh,vs,.int .i64 v.m.z,uk,uc]):=HP_w11.out.below hb
 have HS_w12:Hid (HiF (fun q=>w2.heap.size≤q∧q<w3.heap.size) w12 (.agg #[.slice gao R.ev.length gco,.slice hao R.em.length hco,.int .i64 R.k,.bool R.f]) R):=HS_w11.out.below hb
 have HSb_w12:Hid (Bk w12 w3.heap.size 62 #[.slice gao R.ev.length gco,.slice hao R.em.length hco,.int .i64 R.k,.bool R.f]):=HSb_w11.out.below hb
 have HGb_w12:Hid (Bk w12 w5.heap.size 62 #[.slice gag R.ev.length gcg,.slice hag R.em.length hcg,.int .i64 R.k,.bool R.f]):=HGb_w11.out.below hb
 have HH_w12:Hid (HeldHi (fun q=>Vw4.heap.size≤q∧q<w5.heap.size) w12 (.agg #[.slice gag R.ev.length gcg,.slice hag R.em.length hcg,.int .i64 R.k,.bool R.f]) R):=HH_w11.out.below hb
 clear HB_w11 HP_w11 HS_w11 HSb_w11 HGb_w11 HH_w11
 clear hb
 have p0:=HP_w12.out.cell (i:=0) rfl
 have p1:=HP_w12.out.cell (i:=1) rfl
 have p2:=HP_w12.out.cell (i:=2) rfl
 have p3:=HP_w12.out.cell (i:=3) rfl
 have p4:=HP_w12.out.cell (i:=4) rfl
 have p5:=HP_w12.out.cell (i:=5) rfl
 have p6:=HP_w12.out.cell (i:=6) rfl
 have p7:=HP_w12.out.cell (i:=7) rfl
 go_wp2_with fail
 clear p0 p1 p2 p3 p4 p5 p6 p7
 refine(toWorld_any _ v _ HSM.out (HX.out.under HB_w12.out)).mono ?_
 rintro r w13 ⟨yb,rfl,hb,hr⟩
 have z_w13:w12.heap.size≤w13.heap.size:=hb.size
 have HB_w13:Hid (Below w.heap.size w w13):=HB_w12.out.trans (hb.mono HB_w12.out.size)
 have HP_w13:Hid (Bk w13 w.heap.size 30 #[.int .i64 v.m.n,.int .i64 v.m.s,vi,vh,vs,.int .i64 v.m.z,uk,uc]):=HP_w12.out.below hb
 have HS_w13:Hid (HiF (fun q=>w2.heap.size≤q∧q<w3.heap.size) w13 (.agg #[.slice gao R.ev.length gco,.slice hao R.em.length hco,.int .i64 R.k,.bool R.f]) R):=HS_w12.out.below hb
 have HSb_w13:Hid (Bk w13 w3.heap.size 62 #[.slice gao R.ev.length gco,.slice hao R.em.length hco,.int .i64 R.k,.bool R.f]):=HSb_w12.out.below hb
 have HGb_w13:Hid (Bk w13 w5.heap.size 62 #[.slice gag R.ev.length gcg,.slice hag R.em.length hcg,.int .i64 R.k,.bool R.f]):=HGb_w12.out.below hb
 have HH_w13:Hid (HeldHi (fun q=>Vw4.heap.size≤q∧q<w5.heap.size) w13 (.agg #[.slice gag R.ev.length gcg,.slice hag R.em.length hcg,.int .i64 R.k,.bool R.f]) R):=HH_w12.out.below hb
 clear HB_w12 HP_w12 HS_w12 HSb_w12 HGb_w12 HH_w12
 have HA_w13:Hid (WorF (fun k=>w12.heap.size≤k∧k<w13.heap.size) w13 yb v):=hr
 clear hb hr
 go_wp2_with fail
 refine(HIM.out _ _ HA_w13.out.is).mono ?_
 rintro r w14 ⟨uk,rfl,hr,hb⟩
 obtain⟨gak,gck,hak,hck,rfl⟩:=HiF.form hr
 have z_w14:w13.heap.size≤w14.heap.size:=hb.size
 have HB_w14:Hid (Below w.heap.size w w14):=HB_w13.out.trans (hb.mono HB_w13.out.size)
 have HP_w14:Hid (Bk w14 w.heap.size 30 #[.int .i64 v.m.n,.int .i64 v.m.s,vi,vh,vs,.int .i64 v.m.z,uk,uc]):=HP_w13.out.below hb
 have HS_w14:Hid (HiF (fun q=>w2.heap.size≤q∧q<w3.heap.size) w14 (.agg #[.slice gao R.ev.length gco,.slice hao R.em.length hco,.int .i64 R.k,.bool R.f]) R):=HS_w13.out.below hb
 have HSb_w14:Hid (Bk w14 w3.heap.size 62 #[.slice gao R.ev.length gco,.slice hao R.em.length hco,.int .i64 R.k,.bool R.f]):=HSb_w13.out.below hb
 have HGb_w14:Hid (Bk w14 w5.heap.size 62 #[.slice gag R.ev.length gcg,.slice hag R.em.length hcg,.int .i64 R.k,.bool R.f]):=HGb_w13.out.below hb
 have HH_w14:Hid (HeldHi (fun q=>Vw4.heap.size≤q∧q<w5.heap.size) w14 (.agg #[.slice gag R.ev.length gcg,.slice hag R.em.length hcg,.int .i64 R.k,.bool R.f]) R):=HH_w13.out.below hb
 have HA_w14:Hid (WorF (fun k=>w12.heap.size≤k∧k<w13.heap.size) w14 yb v):=HA_w13.out.below hb
 clear HB_w13 HP_w13 HS_w13 HSb_w13 HGb_w13 HH_w13 HA_w13
 have HK_w14:Hid (HiF (fun q=>w13.heap.size≤q∧q<w14.heap.size) w14 (.agg #[.slice gak R.ev.length gck,.slice hak R.em.length hck,.int .i64 R.k,.bool R.f]) R):=hr
 clear hb hr
 obtain⟨Vw14,hVw14⟩:∃V,w14.alloc (.cells #[.slice gak R.ev.length gck,.slice hak R.em.length hck,.int .i64 R.k,.bool R.f] 62)=V:=⟨_,rfl⟩
 have BHKb:Bk Vw14 w14.heap.size 62 #[.slice gak R.ev.length gck,.slice hak R.em.length hck,.int .i64 R.k,.bool R.f]:=by rw [←hVw14];exact Bk.new _ _ _
 have hb:Below w14.heap.size w14 Vw14:=by rw [←hVw14];exact(Below.refl _ _).alloc (Nat.le_refl _) _
 have y_Vw14:w14.heap.size<Vw14.heap.size:=BHKb.lt
 have z_Vw14:w14.heap.size≤Vw14.heap.size:=hb.size
 have HB_Vw14:Hid (Below w.heap.size w Vw14):=HB_w14.out.trans (hb.mono HB_w14.out.size)
 have HP_Vw14:Hid (Bk Vw14 w.heap.size 30 #[.int .i64 v.m.n,.int .i64 v.m.s,vi,vh,vs,.int .i64 v.m.z,uk,uc]):=HP_w14.out.below hb
 have HS_Vw14:Hid (HiF (fun q=>w2.heap.size≤q∧q<w3.heap.size) Vw14 (.agg #[.slice gao R.ev.length gco,.slice hao R.em.length hco,.int .i64 R.k,.bool R.f]) R):=HS_w14.out.below hb
 have HSb_Vw14:Hid (Bk Vw14 w3.heap.size 62 #[.slice gao R.ev.length gco,.slice hao R.em.length hco,.int .i64 R.k,.bool R.f]):=HSb_w14.out.below hb
 have HGb_Vw14:Hid (Bk Vw14 w5.heap.size 62 #[.slice gag R.ev.length gcg,.slice hag R.em.length hcg,.int .i64 R.k,.bool R.f]):=HGb_w14.out.below hb
 have HH_Vw14:Hid (HeldHi (fun q=>Vw4.heap.size≤q∧q<w5.heap.size) Vw14 (.agg #[.slice gag R.ev.length gcg,.slice hag R.em.length hcg,.int .i64 R.k,.bool R.f]) R):=HH_w14.out.below hb
 have HA_Vw14:Hid (WorF (fun k=>w12.heap.size≤k∧k<w13.heap.size) Vw14 yb v):=HA_w14.out.below hb
 have HK_Vw14:Hid (HiF (fun q=>w13.heap.size≤q∧q<w14.heap.size) Vw14 (.agg #[.slice gak R.ev.length gck,.slice hak R.em.length hck,.int .i64 R.k,.bool R.f]) R):=HK_w14.out.below hb
 clear HB_w14 HP_w14 HS_w14 HSb_w14 HGb_w14 HH_w14 HA_w14 HK_w14
 clear hb
 have HKb_Vw14:Hid (Bk Vw14 w14.heap.size 62 #[.slice gak R.ev.length gck,.slice hak R.em.length hck,.int .i64 R.k,.bool R.f]):=BHKb
 clear BHKb
 clear HA_Vw14
 have g0:=HKb_Vw14.out.cell (i:=0) rfl
 have g1:=HKb_Vw14.out.cell (i:=1) rfl
 have g2:=HKb_Vw14.out.cell (i:=2) rfl
 have g3:=HKb_Vw14.out.cell (i:=3) rfl
 have t0:=HSb_Vw14.out.cell (i:=0) rfl
 have t1:=HSb_Vw14.out.cell (i:=1) rfl
 have t2:=HSb_Vw14.out.cell (i:=2) rfl
 have t3:=HSb_Vw14.out.cell (i:=3) rfl
 go_wp2_with fail
 clear hVw14
 clear g0 g1 g2 g3
 clear t0 t1 t2 t3
 refine(eqHistory_same _ _ R _ HE.out HK_Vw14.out HS_Vw14.out).mono ?_
 rintro r w15 ⟨rfl,hb⟩
 have z_w15:Vw14.heap.size≤w15.heap.size:=hb.size
 have HB_w15:Hid (Below w.heap.size w w15):=HB_Vw14.out.trans (hb.mono HB_Vw14.out.size)
 have HP_w15:Hid (Bk w15 w.heap.size 30 #[.int .i64 v.m.n,.int .i64 v.m.s,vi,vh,vs,.int .i64 v.m.z,uk,uc]):=HP_Vw14.out.below hb
 have HS_w15:Hid (HiF (fun q=>w2.heap.size≤q∧q<w3.heap.size) w15 (.agg #[.slice gao R.ev.length gco,.slice hao R.em.length hco,.int .i64 R.k,.bool R.f]) R):=HS_Vw14.out.below hb
 have HSb_w15:Hid (Bk w15 w3.heap.size 62 #[.slice gao R.ev.length gco,.slice hao R.em.length hco,.int .i64 R.k,.bool R.f]):=HSb_Vw14.out.below hb
 have HGb_w15:Hid (Bk w15 w5.heap.size 62 #[.slice gag R.ev.length gcg,.slice hag R.em.length hcg,.int .i64 R.k,.bool R.f]):=HGb_Vw14.out.below hb
 have HH_w15:Hid (HeldHi (fun q=>Vw4.heap.size≤q∧q<w5.heap.size) w15 (.agg #[.slice gag R.ev.length gcg,.slice hag R.em.length hcg,.int .i64 R.k,.bool R.f]) R):=HH_Vw14.out.below hb
 have HK_w15:Hid (HiF (fun q=>w13.heap.size≤q∧q<w14.heap.size) w15 (.agg #[.slice gak R.ev.length gck,.slice hak R.em.length hck,.int .i64 R.k,.bool R.f]) R):=HK_Vw14.out.below hb
 have HKb_w15:Hid (Bk w15 w14.heap.size 62 #[.slice gak R.ev.length gck,.slice hak R.em.length hck,.int .i64 R.k,.bool R.f]):=HKb_Vw14.out.below hb
 clear HB_Vw14 HP_Vw14 HS_Vw14 HSb_Vw14 HGb_Vw14 HH_Vw14 HK_Vw14 HKb_Vw14
 clear hb
 have g0:=HGb_w15.out.cell (i:=0) rfl
 have g1:=HGb_w15.out.cell (i:=1) rfl
 have g2:=HGb_w15.out.cell (i:=2) rfl
 have g3:=HGb_w15.out.cell (i:=3) rfl
 go_wp2_with fail
 clear g0 g1 g2 g3
 refine(heldHistory_any HE.out HH_w15.out).mono ?_
 rintro r w16 ⟨rfl,hb⟩
 have z_w16:w15.heap.size≤w16.heap.size:=hb.size
 have HB_w16:Hid (Below w.heap.size w w16):=HB_w15.out.trans (hb.mono HB_w15.out.size)
 have HP_w16:Hid (Bk w16 w.heap.size 30 #[.int .i64 v.m.n,.int .i64 v.m.s,vi,vh,vs,.int .i64 v.m.z,uk,uc]):=HP_w15.out.below hb
 have HS_w16:Hid (HiF (fun q=>w2.heap.size≤q∧q<w3.heap.size) w16 (.agg #[.slice gao R.ev.length gco,.slice hao R.em.length hco,.int .i64 R.k,.bool R.f]) R):=HS_w15.out.below hb
 have HSb_w16:Hid (Bk w16 w3.heap.size 62 #[.slice gao R.ev.length gco,.slice hao R.em.length hco,.int .i64 R.k,.bool R.f]):=HSb_w15.out.below hb
 have HGb_w16:Hid (Bk w16 w5.heap.size 62 #[.slice gag R.ev.length gcg,.slice hag R.em.length hcg,.int .i64 R.k,.bool R.f]):=HGb_w15.out.below hb
 have HH_w16:Hid (HeldHi (fun q=>Vw4.heap.size≤q∧q<w5.heap.size) w16 (.agg #[.slice gag R.ev.length gcg,.slice hag R.em.length hcg,.int .i64 R.k,.bool R.f]) R):=HH_w15.out.below hb
 have HK_w16:Hid (HiF (fun q=>w13.heap.size≤q∧q<w14.heap.size) w16 (.agg #[.slice gak R.ev.length gck,.slice hak R.em.length hck,.int .i64 R.k,.bool R.f]) R):=HK_w15.out.below hb
 have HKb_w16:Hid (Bk w16 w14.heap.size 62 #[.slice gak R.ev.length gck,.slice hak R.em.length hck,.int .i64 R.k,.bool R.f]):=HKb_w15.out.below hb
 clear HB_w15 HP_w15 HS_w15 HSb_w15 HGb_w15 HH_w15 HK_w15 HKb_w15
 clear hb
 go_wp2
 go_ret
 exact⟨rfl,HB_w16.out⟩
end Go.Proofs.YtmobiieoecjmdaaGreat.LawExactTable

