/- WDat, SOk -/
import Derived.Test.YtmobiieoecjmdaaGreatExactTableG03
import Derived.Test.YtmobiieoecjmdaaGreatExactTableG02
/- A world, as plain values and in memory; how much there is of it. -/
namespace Go.Proofs.YtmobiieoecjmdaaGreat
open Go.RowKit
def kn0:Kn:=⟨⟨0,0,[],[],[],0⟩,[],[],[],0,0,false,[],[]⟩
def knAt (l:List Kn) (i:Nat):Kn:=l.getD i kn0
def vAt (l:List (List Int)) (i:Nat):List Int:=l.getD i []
def vecsD_f (l:List (List Int)):Nat→Dat:=fun j=>intsD (vAt l j)
def vecsD (l:List (List Int)):Dat:= .row 1 l.length (vecsD_f l)
structure Wd where
 m:Md
 k:List Kn
 c:List (List Int)
def KAt (w:World) (b off:Nat) (k:Kn):Prop:=∃vi vh vs u6 u7 u8 u12 u13,(w.cell? ⟨b,off,none⟩=some (.int .i64 k.m.n)∧w.cell? ⟨b,off+1,none⟩=some (.int .i64 k.m.s)∧w.cell? ⟨b,off+2,none⟩=some (vi)∧w.cell? ⟨b,off+3,none⟩=some (vh)∧w.cell? ⟨b,off+4,none⟩=some (vs)∧w.cell? ⟨b,off+5,none⟩=some (.int .i64 k.m.z)∧w.cell? ⟨b,off+6,none⟩=some (u6)∧w.cell? ⟨b,off+7,none⟩=some (u7)∧w.cell? ⟨b,off+8,none⟩=some (u8)∧w.cell? ⟨b,off+9,none⟩=some (.int .i64 k.t)∧w.cell? ⟨b,off+10,none⟩=some (.int .i64 k.q)∧w.cell? ⟨b,off+11,none⟩=some (.bool k.f)∧w.cell? ⟨b,off+12,none⟩=some (u12)∧w.cell? ⟨b,off+13,none⟩=some (u13))∧IsKern w (.agg #[.int .i64 k.m.n,.int .i64 k.m.s,vi,vh,vs,.int .i64 k.m.z,u6,u7,u8,.int .i64 k.t,.int .i64 k.q,.bool k.f,u12,u13]) k
theorem KAt.under {w w':World} {b off:Nat} {k:Kn} (h:KAt w b off k) (hlt:b<w.heap.size) (hb:Below w.heap.size w w'):KAt w' b off k:=by
 obtain⟨vi,vh,vs,u6,u7,u8,u12,u13,⟨f0,f1,f2,f3,f4,f5,f6,f7,f8,f9,f10,f11,f12,f13⟩,hk⟩:=h
 exact⟨vi,vh,vs,u6,u7,u8,u12,u13,⟨(hb.cell (p:=⟨b,_,none⟩) hlt).trans f0,(hb.cell (p:=⟨b,_,none⟩) hlt).trans f1,(hb.cell (p:=⟨b,_,none⟩) hlt).trans f2,(hb.cell (p:=⟨b,_,none⟩) hlt).trans f3,(hb.cell (p:=⟨b,_,none⟩) hlt).trans f4,(hb.cell (p:=⟨b,_,none⟩) hlt).trans f5,(hb.cell (p:=⟨b,_,none⟩) hlt).trans f6,(hb.cell (p:=⟨b,_,none⟩) hlt).trans f7,(hb.cell (p:=⟨b,_,none⟩) hlt).trans f8,(hb.cell (p:=⟨b,_,none⟩) hlt).trans f9,(hb.cell (p:=⟨b,_,none⟩) hlt).trans f10,(hb.cell (p:=⟨b,_,none⟩) hlt).trans f11,(hb.cell (p:=⟨b,_,none⟩) hlt).trans f12,(hb.cell (p:=⟨b,_,none⟩) hlt).trans f13⟩,hk.under hb⟩
def IsKs (w:World) (x:Value) (l:List Kn):Prop:=∃a cap,x= .slice a l.length cap∧l.length≤cap∧cap≤maxLen∧(l.length=0∨ ∃b off,a=some ⟨b,off,none⟩∧b<w.heap.size∧ ∀i,i<l.length→KAt w b (off+i*14) (knAt l i))
theorem IsKs.under {w w':World} {x:Value} {l:List Kn} (h:IsKs w x l) (hb:Below w.heap.size w w'):IsKs w' x l:=by
 obtain⟨a,cap,rfl,h1,h2,h⟩:=h
 refine⟨a,cap,rfl,h1,h2,h.imp id ?_⟩
 rintro ⟨b,off,rfl,hlt,hk⟩
 exact⟨b,off,rfl,Nat.lt_of_lt_of_le hlt hb.size,fun i hi=>(hk i hi).under hlt hb⟩
def IsW (w:World) (x:Value) (v:Wd):Prop:=∃vi vh vs uk uc,x= .agg #[.int .i64 v.m.n,.int .i64 v.m.s,vi,vh,vs,.int .i64 v.m.z,uk,uc]∧IsM w (.agg #[.int .i64 v.m.n,.int .i64 v.m.s,vi,vh,vs,.int .i64 v.m.z]) v.m∧IsKs w uk v.k∧IsD w uc (vecsD v.c)
theorem IsW.under {w w':World} {x:Value} {v:Wd} (h:IsW w x v) (hb:Below w.heap.size w w'):IsW w' x v:=by
 obtain⟨vi,vh,vs,uk,uc,rfl,h1,h2,h3⟩:=h
 exact⟨vi,vh,vs,uk,uc,rfl,h1.below hb,h2.under hb,h3.under hb⟩
def SmallKs (l:List Kn):Prop:=l.length≤1048576∧ ∀i,i<l.length→SmallK (knAt l i)
def SmallWd (v:Wd):Prop:=SmallM v.m∧SmallKs v.k∧(vecsD v.c).wt≤1048576
theorem vecs_wt (l:List (List Int)):(vecsD l).wt=l.length+sumL (fun i=>(intsD (vAt l i)).wt) l.length:=by
 show l.length+sumL (fun j=>(vecsD_f l j).wt) (l.length*1)=_
 rw [Nat.mul_one]
 rfl
theorem vec_le {l:List (List Int)} {i:Nat} (h:i<l.length):(vAt l i).length≤(vecsD l).wt:=by
 rw [vecs_wt]
 have:=sumL_mem (fun i=>(intsD (vAt l i)).wt) h
 have h2:(intsD (vAt l i)).wt=(vAt l i).length:=ints_wt _
 omega
set_option maxHeartbeats 4000000 in
theorem sz_vecs (x:Value) (l:List (List Int)) (left:Int) (w:World) (h0:0≤left) (h1:left≤1048576) (h:IsD w x (vecsD l)):
  Calls Tryz.prog 40 #[x,.int .i64 left] w fun e w'=>(∃r,e= .returned (.int .i64 r)∧SzR (vecsD l).wt left r)∧Below w.heap.size w w':=by
 obtain⟨a,cap,rfl,hn1,hn,h⟩:=IsD.parts (c:=1) (n:=l.length) h
 have hn2:l.length≤9223372036854775807:=by unfold maxLen at hn;omega
 clear hn1 hn
 by_cases hp:left-(l.length:Int)<0
 ·go_enter Tryz.func40,Tryz.ntmps40
  go_wp2
  go_ret
  exact⟨⟨_,rfl,.inl rfl⟩,Below.refl _ _⟩
 ·have HLF:Hid (0≤left-(l.length:Int)):=(by omega:0≤left-(l.length:Int))
  go_enter Tryz.func40,Tryz.ntmps40
  go_wp2
  go_loopw [5,1] (fun i z wr=>∃k:Nat,k≤l.length∧i= .int .i64 k∧Below w.heap.size w wr∧ ∃lf:Int,z= .int .i64 lf∧0≤lf∧lf+(l.length:Int)+(sumL (fun i=>(intsD (vAt l i)).wt) k:Int)=left) (fun i _ _=>l.length-(intOf i).toNat)
  case atStart=>exact⟨0,Nat.zero_le _,rfl,Below.refl _ _,left-(l.length:Int),rfl,HLF.out,by simp [sumL]⟩
  case round=>
   obtain⟨k,hk,rfl,hB,lf2,rfl,hz0,hz1⟩:=hrel
   have HZ:Hid (lf2+(l.length:Int)+(sumL (fun i=>(intsD (vAt l i)).wt) k:Int)=left):=hz1
   have HB:Hid (Below w.heap.size w wr):=hB
   have hz2:lf2≤1048576:=by omega
   clear hz1
   by_cases hlt:k<l.length
   ·obtain⟨b,off,rfl,hb,hc⟩:=h.resolve_left (by omega)
    obtain⟨u,hu,hd⟩:=hc k (by omega)
    have f0:=(hB.cell (p:=⟨b,off+k,none⟩) hb).trans hu
    have HD:Hid (IsD wr u (intsD (vAt l k))):=hd.under hB
    clear h hc hB hd hu
    go_wp2_with fail
    clear f0
    refine(sz_ints _ (vAt l k) _ _ hz0 hz2 HD.out).mono ?_
    rintro e w2 ⟨⟨r,rfl,hr⟩,hb2⟩
    have HB2:Hid (Below w.heap.size w w2):=HB.out.trans (hb2.mono HB.out.size)
    clear hb2
    rcases hr with rfl|⟨r0,hr⟩
    ·go_wp2
     go_ret
     exact⟨⟨_,rfl,.inl rfl⟩,HB2.out⟩
    ·have HR:Hid (r+((intsD (vAt l k)).wt:Int)=lf2):=hr
     have r2:¬(r<0):=by omega
     clear hr
     go_wp2
     go_roundw
     case rel=>exact⟨k+1,by omega,by go_num,HB2.out,r,rfl,r0,by have:=HR.out;have:=HZ.out;simp only [sumL];omega⟩
     case measure=>simp [intOf];omega
   ·clear h hB
    go_wp2
    go_ret
    obtain rfl:k=l.length:=by omega
    exact⟨⟨_,rfl,.inr ⟨hz0,by rw [vecs_wt];have:=HZ.out;omega⟩⟩,HB.out⟩
def inB (x:Int):Bool:=decide (0≤x∧x≤999)
def St.ok (s:St):Bool:=decide (s.r.length=2∧(0≤intAt s.r 0∧intAt s.r 0≤999)∧(0≤intAt s.r 1∧intAt s.r 1≤999)∧0≤s.q∧s.q≤99992∧0≤s.d∧s.d≤99992)
set_option maxRecDepth 100000 in
set_option maxHeartbeats 4000000 in
theorem sStOk (x:Value) (s:St) (w:World) (h:IsS w x s):
  Calls Tryz.prog 186 #[x] w fun e w'=>e= .returned (.bool s.ok)∧Below w.heap.size w w':=by
 obtain⟨vr,rfl,ai,ci,rfl,hi1,hi2,hi3⟩:=h
 clear hi1 hi2
 obtain⟨W0,hW0⟩:∃W0,w.alloc (.cells #[.slice ai s.r.length ci,.int .i64 s.q,.int .i64 s.d] 94)=W0:=⟨_,rfl⟩
 have HB0:Hid (Below w.heap.size w W0):=by rw [←hW0];exact(Below.refl _ w).alloc (Nat.le_refl _) _
 have HP0:Bk W0 w.heap.size 94 #[.slice ai s.r.length ci,.int .i64 s.q,.int .i64 s.d]:=by rw [←hW0];exact Bk.new w _ _
 have p0:=HP0.cell (i:=0) rfl
 have p1:=HP0.cell (i:=1) rfl
 have p2:=HP0.cell (i:=2) rfl
 clear HP0
 by_cases c0:s.r.length=2
 case neg=>
  have c1:¬((s.r.length:Int)=2):=by omega
  clear hi3
  go_enter Tryz.func186,Tryz.ntmps186
  go_wp2
  go_ret
  exact⟨ret_bool (by simp [St.ok,c0]),HB0.out⟩
 obtain⟨b,off,rfl,hb,hc⟩:=hi3.resolve_left (by intro e;rw [e]at c0;simp at c0)
 have f0:W0.cell? ⟨b,off,none⟩=some (.int .i64 (intAt s.r 0)):=(HB0.out.cell (p:=⟨b,off,none⟩) hb).trans (hc 0 (by omega))
 have f1:W0.cell? ⟨b,off+1,none⟩=some (.int .i64 (intAt s.r 1)):=(HB0.out.cell (p:=⟨b,off+1,none⟩) hb).trans (hc 1 (by omega))
 have hok:s.ok=decide ((0≤intAt s.r 0∧intAt s.r 0≤999)∧(0≤intAt s.r 1∧intAt s.r 1≤999)∧0≤s.q∧s.q≤99992∧0≤s.d∧s.d≤99992):=by simp [St.ok,c0]
 have HOK:Hid (s.ok=decide ((0≤intAt s.r 0∧intAt s.r 0≤999)∧(0≤intAt s.r 1∧intAt s.r 1≤999)∧0≤s.q∧s.q≤99992∧0≤s.d∧s.d≤99992)):=hok
 rw [c0]at hW0 p0⊢
 generalize s.ok=okv at HOK⊢
 generalize intAt s.r 0=y at f0 HOK
 generalize intAt s.r 1=z at f1 HOK
 generalize s.q=q at hW0 p1 HOK⊢
 generalize s.d=d at hW0 p2 HOK⊢
 clear hc hb hok c0
 go_enter Tryz.func186,Tryz.ntmps186
 go_wp2
 all_goals
  go_ret
  refine⟨?_,HB0.out⟩
  rw [HOK.out]
  first|exact ret_bool (decide_eq_decide.2 (by omega))|exact ret_bool (decide_eq_false (by omega)).symm|exact ret_bool (by simp;omega)
set_option maxRecDepth 100000 in
set_option maxHeartbeats 4000000 in
theorem iStOk (x:Value) (s:St) (w:World) (h:IsS w x s):
  Calls Tryz.prog 194 #[x] w fun e w'=>e= .returned (.bool s.ok)∧Below w.heap.size w w':=by
 obtain⟨vr,rfl,ai,ci,rfl,hi1,hi2,hi3⟩:=h
 clear hi1 hi2
 obtain⟨W0,hW0⟩:∃W0,w.alloc (.cells #[.slice ai s.r.length ci,.int .i64 s.q,.int .i64 s.d] 94)=W0:=⟨_,rfl⟩
 have HB0:Hid (Below w.heap.size w W0):=by rw [←hW0];exact(Below.refl _ w).alloc (Nat.le_refl _) _
 have HP0:Bk W0 w.heap.size 94 #[.slice ai s.r.length ci,.int .i64 s.q,.int .i64 s.d]:=by rw [←hW0];exact Bk.new w _ _
 have p0:=HP0.cell (i:=0) rfl
 have p1:=HP0.cell (i:=1) rfl
 have p2:=HP0.cell (i:=2) rfl
 clear HP0
 by_cases c0:s.r.length=2
 case neg=>
  have c1:¬((s.r.length:Int)=2):=by omega
  clear hi3
  go_enter Tryz.func194,Tryz.ntmps194
  go_wp2
  go_ret
  exact⟨ret_bool (by simp [St.ok,c0]),HB0.out⟩
 obtain⟨b,off,rfl,hb,hc⟩:=hi3.resolve_left (by intro e;rw [e]at c0;simp at c0)
 have HC:Hid (∀k,k<2→W0.cell? ⟨b,off+k,none⟩=some (.int .i64 (intAt s.r k))):=fun k hk=>(HB0.out.cell (p:=⟨b,off+k,none⟩) hb).trans (hc k (by omega))
 have HOK:Hid (s.ok=decide ((0≤intAt s.r 0∧intAt s.r 0≤999)∧(0≤intAt s.r 1∧intAt s.r 1≤999)∧0≤s.q∧s.q≤99992∧0≤s.d∧s.d≤99992)):=(by simp [St.ok,c0]:s.ok=_)
 have HNO:Hid (∀k,k<2→inB (intAt s.r k)=false→s.ok=false):=(by
  intro k hk h
  unfold inB at h
  have hd:=of_decide_eq_false h
  simp only [St.ok,decide_eq_false_iff_not]
  intro hh
  match k,hk with
  |0,_=>exact hd hh.2.1
  |1,_=>exact hd hh.2.2.1:∀k,k<2→inB (intAt s.r k)=false→s.ok=false)
 have HYES:Hid ((∀j,j<2→inB (intAt s.r j)=true)→s.ok=((decide (0≤s.q)&&decide (s.q≤99992))&&(decide (0≤s.d)&&decide (s.d≤99992)))):=(by
  intro h
  have h0:=of_decide_eq_true (h 0 (by omega))
  have h1:=of_decide_eq_true (h 1 (by omega))
  simp [St.ok,c0,h0,h1,Bool.decide_and,Bool.and_assoc]:_)
 rw [c0]at hW0 p0⊢
 generalize s.ok=okv at HOK HNO HYES⊢
 generalize s.q=q at hW0 p1 HOK HYES⊢
 generalize s.d=d at hW0 p2 HOK HYES⊢
 clear hc hb c0 HOK
 go_enter Tryz.func194,Tryz.ntmps194
 go_wp2
 clear hW0
 go_loop [12] (fun i=>∃k:Nat,k≤2∧i= .int .i64 k∧ ∀j,j<k→inB (intAt s.r j)=true) (fun i=>2-(intOf i).toNat)
 case atStart=>exact⟨0,Nat.zero_le _,rfl,fun j hj=>by omega⟩
 case round=>
  obtain⟨k,hk,rfl,hall⟩:=hrel
  have HA:Hid (∀j,j<k→inB (intAt s.r j)=true):=hall
  clear hall
  by_cases hlt:k<2
  ·have f0:=HC.out k hlt
   obtain⟨y,hy⟩:∃y,y=intAt s.r k:=⟨_,rfl⟩
   have HY:Hid (y=intAt s.r k):=hy
   rw [←hy]at f0
   have hkn:(k:Int)<2:=by omega
   clear hy
   go_wp2_with fail
   refine(within_any _ _ _ _).mono ?_
   rintro e w2 ⟨rfl,hw⟩
   have hw':=hw.symm
   clear hw
   subst hw'
   by_cases y0:0≤y∧y≤999
   ·rw [show(decide (0≤y)&&decide (y≤999))=true from by simp [y0]]
    have HN:Hid (inB y=true):=decide_eq_true y0
    clear y0
    go_wp2
    go_round
    case rel=>exact⟨k+1,by omega,by go_num,fun j hj=>by
     by_cases e:j<k
     ·exact HA.out j e
     ·rw [show j=k by omega,←HY.out];exact HN.out⟩
    case measure=>simp [intOf];omega
   ·rw [show(decide (0≤y)&&decide (y≤999))=false from by simp;omega]
    have hno:okv=false:=HNO.out k hlt (by rw [←HY.out];exact decide_eq_false y0)
    subst hno
    clear y0
    go_wp2
    go_ret
    exact⟨rfl,HB0.out⟩
  ·have hyes:=HYES.out (fun j hj=>HA.out j (by omega))
   subst hyes
   have hkn:¬(k:Int)<2:=by omega
   go_wp2_with fail
   refine(within_any _ _ _ _).mono ?_
   rintro e w2 ⟨rfl,hw⟩
   have hw':=hw.symm
   clear hw
   subst hw'
   cases hq:(decide (0≤q)&&decide (q≤99992))with
   |false=>
    have HQ:Hid ((decide (0≤q)&&decide (q≤99992))=false):=hq
    clear hq
    go_wp2
    go_ret
    exact⟨ret_bool (by rw [HQ.out];rfl),HB0.out⟩
   |true=>
    have HQ:Hid ((decide (0≤q)&&decide (q≤99992))=true):=hq
    clear hq
    go_wp2_with fail
    refine(within_any _ _ _ _).mono ?_
    rintro e w2 ⟨rfl,hw⟩
    have hw':=hw.symm
    clear hw
    subst hw'
    go_wp2
    go_ret
    exact⟨ret_bool (by rw [HQ.out];rfl),HB0.out⟩
end Go.Proofs.YtmobiieoecjmdaaGreat

