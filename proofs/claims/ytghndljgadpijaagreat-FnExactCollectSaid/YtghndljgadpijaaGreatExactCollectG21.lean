/- MOkJ, VBase, KPu, StP, SrE, KFm -/
import Derived.Test.YtghndljgadpijaaGreatExactCollectG01
import Derived.Test.YtghndljgadpijaaGreatExactCollectG20
import Derived.Test.YtghndljgadpijaaGreatRows
import Derived.WalkKit
import Derived.WalkSpells
import Derived.WalkLawsBesides
import Derived.Outline
import Derived.Below
import Derived.BigRegion
import Derived.Test.YtghndljgadpijaaGreatExactCollectG19
import Derived.Test.YtghndljgadpijaaGreatExactCollectG13
import Derived.Test.YtghndljgadpijaaGreatExactCollectG18
/- The program's ModelOk: the events that begin it. -/
namespace Go.Proofs.YtghndljgadpijaaGreat
set_option maxHeartbeats 4000000
set_option maxRecDepth 100000
open Go.RowKit
theorem yzw {p:Prop} (h:p):Hid p:=h
def fitB (m:Md) (t d kk:Int):Bool:=decide (0≤d∧d<m.n∧0≤kk∧kk<(m.h.length:Int)∧t≤m.z)
theorem fits_any (x:Value) (m:Md) (t s1 qq d kk v g:Int) (w:World) (h:IsM w x m):
    Calls Tryz.prog 201 #[x,.agg #[.int .i64 t,.int .i64 s1,.int .i64 qq,.int .i64 d,.int .i64 kk,.int .i64 v,.int .i64 g]] w fun e w'=>e= .returned (.bool (fitB m t d kk))∧Below w.heap.size w w':=by
  obtain⟨vi,vh,vs,rfl,⟨ai,ci,rfl,hi1,hi2,hi3⟩,⟨ah,ch,rfl,hh1,hh2,hh3⟩,⟨ae,ce,rfl,he1,he2,he3⟩⟩:=h
  clear hi1 hi2 hh1 hh2 he1 he2 hi3 hh3 he3
  go_enter Tryz.func201,Tryz.ntmps201
  go_wp2_with (go_at_call 88;refine(yzr _ _ _).mono ?_;rintro e w2 ⟨rfl,hw⟩;have hw':=hw.symm;clear hw;subst hw')
  all_goals
    go_ret
    refine⟨?_,((Below.refl _ _).alloc (Nat.le_refl _) _).alloc (by simp) _⟩
    first|exact ye8 (by unfold fitB;rw [Bool.eq_iff_iff];(try simp only [Bool.and_eq_true]);simp only [decide_eq_true_eq];omega)|exact ye8 (by unfold fitB;simp;omega)|exact ye8 (by unfold fitB;simp [*])
def begB (place s1 qq g:Int):Bool:=decide (s1= -1∧qq=place∧g=place)
theorem zjb (place t s1 qq d kk v g:Int) (w:World):
    Calls Tryz.prog 247 #[.agg #[.int .i64 t,.int .i64 s1,.int .i64 qq,.int .i64 d,.int .i64 kk,.int .i64 v,.int .i64 g],.int .i64 place] w fun e w'=>e= .returned (.bool (begB place s1 qq g))∧Below w.heap.size w w':=by
  by_cases c0:s1= -1
  · by_cases c1:qq=place
    · by_cases c2:g=place
      all_goals
        go_enter Tryz.func247,Tryz.ntmps247
        go_wp2
        go_ret
        exact⟨ye8 (by simp [begB, *]),(Below.refl _ _).alloc (Nat.le_refl _) _⟩
    · go_enter Tryz.func247,Tryz.ntmps247
      go_wp2
      go_ret
      exact⟨ye8 (by simp [begB, *]),(Below.refl _ _).alloc (Nat.le_refl _) _⟩
  · go_enter Tryz.func247,Tryz.ntmps247
    go_wp2
    go_ret
    exact⟨ye8 (by simp [begB, *]),(Below.refl _ _).alloc (Nat.le_refl _) _⟩
theorem znb (m:Md) (k:Nat) (t s1 qq d kk v g:Int):stB m k ⟨t,s1,qq,d,kk,v,g⟩=(okB t s1 qq d kk v g&&(fitB m t d kk&&begB (k:Int) s1 qq g)):=by
  unfold stB Ev.ok fitB begB okB
  rw [Bool.eq_iff_iff]
  simp only [Bool.and_eq_true,decide_eq_true_eq]
  omega
theorem zir (x:Value) (m:Md) (w:World) (hs:SmallM m) (h:IsM w x m):
    Calls Tryz.prog 193 #[x] w fun e w'=>e= .returned (.bool (decide (m.e.length≤6)&&m.okE))∧Below w.heap.size w w':=by
  have HX:Hid (IsM w x m):=h
  obtain⟨vi,vh,vs,rfl,⟨ai,ci,rfl,hi1,hi2,hi3⟩,⟨ah,ch,rfl,hh1,hh2,hh3⟩,⟨ae,ce,rfl,he1,he2,he3⟩⟩:=h
  have hi0:m.i.length≤1048576:=hs.i
  have hh0:m.h.length≤1048576:=hs.h
  have he0:m.e.length≤1048576:=hs.e
  have HS:Hid (SmallM m):=hs
  clear hs hi1 hi2 hh1 hh2 he1 he2
  clear hi3 hh3
  have HE:=yzw he3
  clear he3
  obtain⟨W0,hW0⟩:∃W0,w.alloc (.cells #[.int .i64 m.n,.int .i64 m.s,.slice ai m.i.length ci,.slice ah m.h.length ch,.slice ae m.e.length ce,.int .i64 m.z] 36)=W0:=⟨_,rfl⟩
  have HB0:=hdq (beA hW0)
  have HP0:=hdq (bkA hW0)
  obtain⟨p0,p1,p2,p3,p4,p5⟩:=c6_6 HP0.out
  by_cases c0:6<(m.e.length:Int)
  case pos=>
    go_enter Tryz.func193,Tryz.ntmps193
    go_wp2
    go_ret
    exact⟨ye8 (by rw [decide_eq_false (by omega)];rfl),HB0.out⟩
  have HOK:Hid (∀b,m.okE=b→(decide (m.e.length≤6)&&m.okE)=b):=fun b e=>by rw [e,decide_eq_true (by omega)];simp
  generalize (decide (m.e.length≤6)&&m.okE)=okv at HOK⊢
  go_enter Tryz.func193,Tryz.ntmps193
  go_wp2
  clear hW0 p0 p1 p2 p3 p4 p5
  go_loopw [12] (fun i wr=>∃k:Nat,k≤m.e.length∧i= .int .i64 k∧(∀j,j<k→stB m j (evAt m.e j)=true)∧Below w.heap.size w wr∧Bk wr w.heap.size 36 #[.int .i64 m.n,.int .i64 m.s,.slice ai m.i.length ci,.slice ah m.h.length ch,.slice ae m.e.length ce,.int .i64 m.z]) (fun i _=>m.e.length-(intOf i).toNat)
  case atStart=>exact⟨0,Nat.zero_le _,rfl,fun j hj=>by omega,HB0.out,HP0.out⟩
  case round=>
    clear HB0 HP0
    obtain⟨k,hk,rfl,hall,hB,hP⟩:=hrel
    have HA:=yzw hall
    have HB0:=yzw hB
    have HP0:=yzw hP
    clear hall hP
    by_cases hlt:k<m.e.length
    · obtain⟨b,off,rfl,hb,hc⟩:=HE.out.resolve_left (by intro e;rw [e]at hlt;simp at hlt)
      obtain⟨f0,f1,f2,f3,f4,f5,f6⟩:=(hc k hlt).below hB hb
      clear hB hc
      generalize hev:evAt m.e k=e at f0 f1 f2 f3 f4 f5 f6
      have HEV:Hid (evAt m.e k=e):=hev
      obtain⟨t,s1,qq,d,kk,v,g⟩:=e
      clear hev
      obtain⟨V,hV⟩:∃V,wr.alloc (.cells #[.int .i64 t,.int .i64 s1,.int .i64 qq,.int .i64 d,.int .i64 kk,.int .i64 v,.int .i64 g] 90)=V:=⟨_,rfl⟩
      have hbV:=beA hV
      have HBV:=trh HB0 hbV
      have HPV:=yzw (HP0.out.below hbV)
      have HQV:=hdq (bkA hV)
      obtain⟨p0,p1,p2,p3,p4,p5⟩:=c6_6 HPV.out
      obtain⟨e0,e1,e2,e3,e4,e5,e6⟩:=c7_7 HQV.out
      clear hbV HB0 HP0
      go_wp2_with fail
      clear f0 f1 f2 f3 f4 f5 f6 e0 e1 e2 e3 e4 e5 e6 p0 p1 p2 p3 p4 p5 hV
      refine(zje _ _ _ _ _ _ _ _).mono ?_
      rintro e w2 ⟨rfl,hb2⟩
      have HB2:=trh HBV hb2
      have HP2:=yzw (HPV.out.below hb2)
      have HQ2:=yzw (HQV.out.below hb2)
      clear hb2 HBV HPV HQV
      have HST:Hid (stB m k (evAt m.e k)=(okB t s1 qq d kk v g&&(fitB m t d kk&&begB (k:Int) s1 qq g))):=HEV.out▸znb m k t s1 qq d kk v g
      cases hokb:okB t s1 qq d kk v g
      · have hno:=HOK.out _ (yz0 hlt (by rw [HST.out,hokb];rfl))
        subst hno
        clear hokb
        obtain⟨p0,p1,p2,p3,p4,p5⟩:=c6_6 HP2.out
        obtain⟨e0,e1,e2,e3,e4,e5,e6⟩:=c7_7 HQ2.out
        go_wp2
        go_ret
        exact⟨rfl,HB2.out⟩
      · have HOB:=yzw hokb
        clear hokb
        obtain⟨p0,p1,p2,p3,p4,p5⟩:=c6_6 HP2.out
        obtain⟨e0,e1,e2,e3,e4,e5,e6⟩:=c7_7 HQ2.out
        go_wp2_with fail
        clear e0 e1 e2 e3 e4 e5 e6 p0 p1 p2 p3 p4 p5
        refine(fits_any _ m _ _ _ _ _ _ _ _ (HX.out.below HB2.out)).mono ?_
        rintro e w3 ⟨rfl,hb3⟩
        have HB3:=trh HB2 hb3
        have HP3:=yzw (HP2.out.below hb3)
        have HQ3:=yzw (HQ2.out.below hb3)
        clear hb3 HB2 HP2 HQ2
        cases hfit:fitB m t d kk
        · have hno:=HOK.out _ (yz0 hlt (by rw [HST.out,hfit];simp))
          subst hno
          clear hfit
          obtain⟨e0,e1,e2,e3,e4,e5,e6⟩:=c7_7 HQ3.out
          go_wp2
          go_ret
          exact⟨rfl,HB3.out⟩
        · have HFI:=yzw hfit
          clear hfit
          obtain⟨e0,e1,e2,e3,e4,e5,e6⟩:=c7_7 HQ3.out
          go_wp2_with fail
          clear e0 e1 e2 e3 e4 e5 e6
          refine(zjb _ _ _ _ _ _ _ _ _).mono ?_
          rintro e w4 ⟨rfl,hb4⟩
          have HB4:=trh HB3 hb4
          have HP4:=yzw (HP3.out.below hb4)
          clear hb4 HB3 HP3 HQ3
          cases hbeg:begB (k:Int) s1 qq g
          · have hno:=HOK.out _ (yz0 hlt (by rw [HST.out,hbeg];simp))
            subst hno
            clear hbeg
            go_wp2
            go_ret
            exact⟨rfl,HB4.out⟩
          · have HV:Hid (stB m k (evAt m.e k)=true):=by rw [HST.out,HOB.out,HFI.out,hbeg];rfl
            clear hbeg
            go_wp2
            go_roundw
            case rel=>exact⟨k+1,by omega,by go_num,fun j hj=>by
              by_cases e:j<k
              · exact HA.out j e
              · rw [show j=k by omega];exact HV.out,HB4.out,HP4.out⟩
            case measure=>simp [intOf];omega
    · have hyes:okv=true:=HOK.out _ (yzq (fun j hj=>HA.out j (by omega)))
      subst hyes
      clear hB
      go_wp2
      go_ret
      exact⟨rfl,HB0.out⟩
end Go.Proofs.YtghndljgadpijaaGreat

/- Vectors: plain words, and the small functions of both sides. -/
namespace Go.Proofs.YtghndljgadpijaaGreat
open Go.RowKit
def zo7 (z:Int):Bool:=decide (-1≤z)&&decide (z≤1)
def vok (l:List Int):Bool:=l.all zo7&&decide (l.length=4)
theorem numOk_iff {z:Int}:zo7 z=true↔ -1≤z∧z≤1:=by simp [zo7]
def evIn (m:Md) (e:Ev):Bool:=e.ok&&fitB m e.t e.d e.k
def allB (n:Nat) (f:Nat→Bool):Bool:=(List.range n).all f
theorem allB_iff {n:Nat} {f:Nat→Bool}:allB n f=true↔ ∀i,i<n→f i=true:=by
  unfold allB
  rw [List.all_eq_true]
  exact⟨fun h i hi=>h i (List.mem_range.2 hi),fun h i hi=>h i (List.mem_range.1 hi)⟩
theorem allB_yes {n:Nat} {f:Nat→Bool} (h:∀i,i<n→f i=true):allB n f=true:=allB_iff.2 h
theorem allB_no {n:Nat} {f:Nat→Bool} {i:Nat} (hi:i<n) (h:f i=false):allB n f=false:=by
  cases e:allB n f
  · rfl
  · rw [allB_iff.1 e i hi]at h;cases h
noncomputable def modB (m : Md) (p : Pa) : Bool := m.ok && p.ok && decide (p.n < m.n) && allB p.t.length (fun i => evIn m (evAt p.t i))
def zgl (p:Pa):List Ev:=p.t.take 1
def yx3 (l:List Pa):List Ev:=l.flatMap zgl
def gvtL (k:Kn):List Ev:=yx3 k.p++k.b.map (·.e)
def ziq (o:Option Ev) (e:Ev):Option Ev:=match o with
  |none=>some e
  |some g=>if e.cmp g<0 then some e else some g
def minE (l:List Ev):Option Ev:=l.foldl ziq none
theorem zbj (l:List Ev) (e:Ev):minE (l++ [e])=ziq (minE l) e:=by simp [minE]
theorem zgk (l l':List Pa):yx3 (l++l')=yx3 l++yx3 l':=by simp [yx3]
theorem zmm (p:Pa):yx3 [p]=zgl p:=by simp [yx3]
def gvtE (k:Kn):Option Ev:=minE (gvtL k)
def yyq (l:List Ev):Ev:=evAt l (l.length-1)
def behB (s:List Ev) (e:Ev):Bool:=decide (s= [])||decide (0<e.cmp (yyq s))
def gvtB (k:Kn):Bool:=match gvtE k with
  |none=>true
  |some g=>behB k.s g
def zb9 (s:List Ev) (p:Pa):Bool:=decide (p.p= [])||behB s (psAt p.p 0).e
def zhb (m:Md) (s:List Ev) (i:Nat):Bool:=evIn m (evAt s i)&&decide ((evAt s i).g=0)&&decide (0<i→(evAt s (i-1)).cmp (evAt s i)<0)
def zaq (k:Kn):Bool:=decide (k.s.length≤2000)&&decide (k.x.length≤16000)&&allB k.s.length (zhb k.m k.s)&&allB k.x.length (fun i=>(xAt k.x i).okB)&&gvtB k&&allB k.p.length (fun i=>zb9 k.s (paAt k.p i))
def bagT (l:List Ml):List Int:=l.flatMap (fun m=>if m.a then []else [m.e.g])
def zil (p:Pa):List Int:=p.t.map (·.g)
def zhk (p:Pa):List Int:=p.p.map (·.e.g)
def znv (p:Pa):List Int:=zil p++zhk p
def yye (l:List Pa):List Int:=l.flatMap znv
def zf3 (k:Kn):List Int:=bagT k.b++yye k.p
def zni (k:Kn) (x:Ps):Bool:=allB x.s.length (fun i=>evIn k.m (evAt x.s i)&&decide ((evAt x.s i).g<k.t))
def antiK (k:Kn) (p:Pa):Bool:=allB p.a.length (fun i=>decide (intAt p.a i<k.t))
def znx (k:Kn) (p:Pa):Bool:=allB p.p.length (fun i=>zni k (psAt p.p i))&&antiK k p
def hasI (l:List Int) (n:Nat) (z:Int):Bool:= !allB n (fun i=> !decide (intAt l i=z))
def zib (t:Int) (l:List Int):Bool:=allB l.length (fun i=>decide (intAt l i<t)&& !hasI l i (intAt l i))
def zbd (k:Kn):Bool:=allB k.p.length (fun i=>znx k (paAt k.p i))&&zib k.t (zf3 k)
noncomputable def zm1 (k : Kn) (i : Nat) : Bool := modB k.m (paAt k.p i) && decide ((paAt k.p i).n = (i : Int))
def bag1 (k:Kn) (i:Nat):Bool:=evIn k.m (mlAt k.b i).e&&decide ((mlAt k.b i).e.g<k.t)
def zot (k:Kn):Bool:=k.m.ok&&vok k.d&&decide ((k.p.length:Int)=k.m.n)&&decide (k.b.length≤2000)&&decide (6≤k.t)&&decide (k.t≤99992)&&decide (-1≤k.q)&&decide (k.q<4)
noncomputable def Kn.ok (k : Kn) : Bool := zot k && allB k.p.length (zm1 k) && allB k.b.length (bag1 k) && zaq k && zbd k
def cutN (g:Option Ev):List Ps→Nat
  | []=>0
  |p::l=>if yzm g p.e=true then cutN g l+1 else 0
theorem zgr (g:Option Ev):∀l:List Ps,CutO g l (cutN g l)
  | []=>⟨Nat.le_refl _,fun j hj=>by simp [cutN]at hj,fun h=>by simp at h⟩
  |p::l=>by
    have ih:=zgr g l
    by_cases h:yzm g p.e=true
    · have e:cutN g (p::l)=cutN g l+1:=by simp [cutN,h]
      rw [e]
      refine⟨by simp only [List.length_cons];have:=ih.le;omega,fun j hj=> ?_,fun hj=> ?_⟩
      · cases j with
        |zero=>exact h
        |succ j=>exact ih.lo j (by omega)
      · exact ih.hi (by simp only [List.length_cons]at hj;omega)
    · have e:cutN g (p::l)=0:=by simp [cutN,h]
      rw [e]
      exact⟨Nat.zero_le _,fun j hj=>by omega,fun _=>(Bool.not_eq_true _).mp h⟩
theorem CutO.eq {g:Option Ev} {l:List Ps} {c:Nat} (h:CutO g l c):c=cutN g l:=by
  have k:=zgr g l
  have h0:=h.le
  have k0:=k.le
  rcases Nat.lt_trichotomy c (cutN g l)with hl|he|hl
  · have a:=h.hi (by omega)
    rw [k.lo c hl]at a
    cases a
  · exact he
  · have a:=k.hi (by omega)
    rw [h.lo _ hl]at a
    cases a
def setL (k:Kn) (j:Nat):List Ps:=remL (fun i=>(paAt k.p i).p) (fun i=>cutN (gvtE k) (paAt k.p i).p) (fun _=>0) j
theorem zhc (k:Kn):setL k 0= []:=rfl
theorem zef (k:Kn) (j:Nat):setL k (j+1)=setL k j++(paAt k.p j).p.take (cutN (gvtE k) (paAt k.p j).p):=by
  unfold setL
  rw [zbv,List.drop_zero]
theorem zg3 (k:Kn) (h:∀i,i<k.p.length→(paAt k.p i).p.length≤200):∀j,j≤k.p.length→(setL k j).length≤200*j
  |0,_=>by simp [zhc]
  |j+1,hj=>by
    have ih:=zg3 k h j (by omega)
    have h2:=h j (by omega)
    rw [zef,List.length_append,List.length_take]
    omega
theorem zeo {p:Pa} (hp:p.ok=true):p.p.length≤200∧ ∀q∈p.p,q.e.ok=true:=by
  have hS:=(zd1 p).2 (by unfold Pa.ok at hp;simpa using hp)
  refine⟨hS.1.2.2.2.1,fun q hq=> ?_⟩
  obtain⟨i,hi,e⟩:=List.getElem_of_mem hq
  have h:=(hS.2.1 i hi).1
  have e2:psAt p.p i=q:=by
    have h1:=zfj hi
    rw [List.getElem?_eq_getElem hi,e]at h1
    exact(Option.some.inj h1).symm
  rw [e2]at h
  exact h
theorem ziy (a b:List PsF):psOf (a++b)=psOf a++psOf b:=by simp [psOf]
set_option maxHeartbeats 4000000
set_option maxRecDepth 100000
open Go.RowKit Go.Shelf Go.Lib Go.Sort
theorem aggP (w:World):(isAgg 172).run Tryz.prog w= .ok true w:=by simp [isAgg,go_sem]
theorem sizP (w:World):(Go.sizeOf 172).run Tryz.prog w= .ok 12 w:=by
  obtain⟨i0,hi,hz0,hz1,hz2⟩:=info_parts zes
  simp [Go.sizeOf,typeInfo,hi,hz1]
theorem bitsP (n:Nat) (W:World) (h:n≤12):Calls Tryz.prog (Tryz.sortPs_ren.f 15) #[.int .u64 n] W fun e w'=>(∃l:Int,e= .returned (.int .i64 l))∧w'=W:=
  (Any.bits_Len (SlLaysF0.n15.bits (P:=Tryz.prog) (ρ:=Tryz.sortPs_ren) {Tryz.sortPs with}) n W (by omega) (by omega)).mono fun _ _ ⟨he,hw⟩=>⟨⟨_,he⟩,hw⟩
theorem znf [Inhabited PsF] (blk off cap:Nat) (d:Array PsF) (w:World) (hH:HoldsK encP 12 w blk off d) (hblk:blk<w.heap.size) (hz:d.size<4611686018427387904):
    Calls Tryz.prog 184 #[.slice (some ⟨blk,off,none⟩) d.size cap,.func (.func 185) #[] #[]] w fun e w'=>e= .returned (.tuple #[])∧ ∃d' n os,PermIn 0 d.size d d'∧SortedIn (ltOf cmpP) 0 d.size d'∧w'=sortWorldK encP 12 w blk off n d' os:=by
  have eg:∀args w,(callFunc 185 args).run Tryz.prog w= .ok (.enter 185 args) w:=enters_of Tryz.func185 (by kernel_rfl) rfl
  have hcon:=AnyQ.slices_SortFunc Tryz.sortPs 12 aggP sizP encP (fun x=>zgp x) (fun x=>zks x) cmpP swoP 185 #[] blk off cap d w eg (fun _ _ _ _ x y=>(psCmpD x y _).mono fun _ _ ⟨h1,h2,h3⟩=>⟨h1,lay_of h2 h3⟩) hH hblk hz
  exact hcon
theorem znc [Inhabited PsF] (B g cap:Nat) (l:List PsF) (w:World) (hz:l.length<4611686018427387904) (h:w.ownsRow B 172 12 (.slice (some ⟨g,0,none⟩) l.length cap) l.length (yxp l)):
    Calls Tryz.prog 184 #[.slice (some ⟨g,0,none⟩) l.length cap,.func (.func 185) #[] #[]] w fun e w'=>zpq B (.slice (some ⟨g,0,none⟩) l.length cap) l w w' e:=by
  obtain⟨d,rfl⟩:∃d:Array PsF,d.toList=l:=⟨l.toArray,by simp⟩
  rw [Array.length_toList]at h hz⊢
  have hlt:g<w.heap.size:=by
    obtain⟨cur,hg,_⟩:=zkz h
    exact(Array.getElem?_eq_some_iff.1 hg).1
  refine(znf g 0 cap d w (holdsP h) hlt hz).mono ?_
  rintro e w' ⟨rfl,d',n,os,hp,hs,rfl⟩
  obtain⟨q1,q2⟩:=zit (n:=n) (os:=os) h hp.1
  have hd9:d'.size=d.size:=hp.1
  refine⟨rfl,d'.toList,?_,?_,?_,q2.mono (fun k hk=>by simp [Value.ownBlock,hk])⟩
  · have h9:=hp.2.2
    rw [show d'.extract 0 d.size=d' by rw [←hp.1];simp,show d.extract 0 d.size=d by simp]at h9
    exact h9
  · rw [List.pairwise_iff_getElem]
    intro i j hi hj hij
    rw [Array.length_toList]at hi hj
    have h9:=hs i j (Nat.zero_le _) hij (by rw [←hp.1];exact hj)
    rw [getElem!_pos d' j hj,getElem!_pos d' i hi]at h9
    rw [Array.getElem_toList,Array.getElem_toList]
    exact of_decide_eq_false h9
  · rw [Array.length_toList]
    rw [hd9]at q1⊢
    exact q1
theorem insP_nil (f:Value) (w:World):Calls Tryz.prog 279 #[.slice none 0 0,.int .i64 0,.int .i64 0,f] w fun e w'=>e= .returned (.tuple #[])∧w'=w:=by
  go_enter Tryz.func279,Tryz.ntmps279
  go_wp2
  go_loopw [8] (fun i wr=>i= .int .i64 1∧wr=w) (fun _ _=>0)
  case atStart=>exact⟨rfl,rfl⟩
  case round=>
    obtain⟨rfl,rfl⟩:=hrel
    go_wp2
    go_end0
    exact⟨rfl,rfl⟩
theorem pdqP_nil (l:Int) (f:Value) (w:World):Calls Tryz.prog 243 #[.slice none 0 0,.int .i64 0,.int .i64 0,.int .i64 l,f] w fun e w'=>e= .returned (.tuple #[])∧w'=w:=by
  go_enter Tryz.func243,Tryz.ntmps243
  go_wp2
  go_loopw [1,2] (fun a b wr=>a= .int .i64 0∧b= .int .i64 0∧wr=w) (fun _ _ _=>0)
  case atStart=>exact⟨rfl,rfl,rfl⟩
  case round=>
    obtain⟨rfl,rfl,rfl⟩:=hrel
    go_wp2_with (go_at_call 279;refine(insP_nil _ _).mono ?_;rintro e w1 ⟨rfl,rfl⟩)
    refine bodyPost_ret (results_none rfl _ _ _) rfl ?_
    exact⟨rfl,rfl⟩
theorem zne (f:Value) (w:World):Calls Tryz.prog 184 #[.slice none 0 0,f] w fun e w'=>e= .returned (.tuple #[])∧w'=w:=by
  go_enter Tryz.func184,Tryz.ntmps184
  go_wp2_with (first|(go_at_call 244;refine(bitsP 0 _ (by omega)).mono ?_;rintro e w1 ⟨⟨lb,rfl⟩,rfl⟩)|(go_at_call 243;refine(pdqP_nil _ _ _).mono ?_;rintro e w2 ⟨rfl,rfl⟩))
  go_end0
  exact⟨rfl,rfl⟩
theorem znd [Inhabited PsF] (B:Nat) (vt:Value) (L:List PsF) (w:World) (hz:L.length<4611686018427387904) (h:w.ownsRow B 172 12 vt L.length (yxp L)):
    Calls Tryz.prog 184 #[vt,.func (.func 185) #[] #[]] w fun e w'=>zpq B vt L w w' e:=by
  have h0:=h
  obtain⟨_,⟨rfl,hn⟩|⟨g,cap,cur,rfl,_⟩⟩:=h
  · obtain rfl:=List.eq_nil_of_length_eq_zero hn
    refine(zne _ _).mono ?_
    rintro e w' ⟨rfl,hw⟩
    rw [hw]
    exact⟨rfl,[],List.Perm.refl _,List.Pairwise.nil,h0,Turns.refl _ _⟩
  · exact znc B g cap L w hz h0
theorem IsMl.rows {w:World} {a:Option Addr} {cap:Nat} {l:List Ml} (h:IsMl w (.slice a l.length cap) l):l= []∨ ∃b off,a=some ⟨b,off,none⟩∧MlsAt w b off l:=by
  obtain⟨a',c',e,_,_,h⟩:=h
  cases e
  exact h
theorem IsEvs.rows {w:World} {a:Option Addr} {cap:Nat} {l:List Ev} (h:IsEvs w (.slice a l.length cap) l):l= []∨ ∃b off,a=some ⟨b,off,none⟩∧EvsAt w b off l:=by
  obtain⟨a',c',e,_,_,h⟩:=h
  cases e
  exact h
theorem IsX.rows {w:World} {a:Option Addr} {cap:Nat} {l:List Em} (h:IsX w (.slice a l.length cap) l):l= []∨ ∃b off,a=some ⟨b,off,none⟩∧XsAt w b off l:=by
  obtain⟨a',c',e,_,_,h⟩:=h
  cases e
  exact h
theorem IsI.rows {w:World} {a:Option Addr} {cap:Nat} {l:List Int} (h:IsI w (.slice a l.length cap) l):l= []∨ ∃b off,a=some ⟨b,off,none⟩∧IntsAt w b off l:=by
  obtain⟨a',c',e,_,_,h⟩:=h
  cases e
  exact h
structure PaAt (w:World) (b o:Nat) (p:Pa) (a1:Option Addr) (c1:Nat) (a4:Option Addr) (c4:Nat) (a5:Option Addr) (c5:Nat) (a6:Option Addr) (c6:Nat):Prop where
  f0:w.cell? ⟨b,o,none⟩=some (.int .i64 p.n)
  f1:w.cell? ⟨b,o+1,none⟩=some (.slice a1 p.st.r.length c1)
  f2:w.cell? ⟨b,o+2,none⟩=some (.int .i64 p.st.q)
  f3:w.cell? ⟨b,o+3,none⟩=some (.int .i64 p.st.d)
  f4:w.cell? ⟨b,o+4,none⟩=some (.slice a4 p.p.length c4)
  f5:w.cell? ⟨b,o+5,none⟩=some (.slice a5 p.t.length c5)
  f6:w.cell? ⟨b,o+6,none⟩=some (.slice a6 p.a.length c6)
  d1:IsD w (.slice a1 p.st.r.length c1) (ywr p.st.r)
  d4:IsD w (.slice a4 p.p.length c4) (yw3 p.p)
  d5:IsD w (.slice a5 p.t.length c5) (evsD p.t)
  d6:IsD w (.slice a6 p.a.length c6) (ywr p.a)
theorem PaAt.below {w w':World} {b o:Nat} {p:Pa} {a1:Option Addr} {c1:Nat} {a4:Option Addr} {c4:Nat} {a5:Option Addr} {c5:Nat} {a6:Option Addr} {c6:Nat} (h:PaAt w b o p a1 c1 a4 c4 a5 c5 a6 c6) (hb:Below w.heap.size w w') (hlt:b<w.heap.size):PaAt w' b o p a1 c1 a4 c4 a5 c5 a6 c6:=
  ⟨(hb.cell (p:=⟨b,_,none⟩) hlt).trans h.f0,(hb.cell (p:=⟨b,_,none⟩) hlt).trans h.f1,(hb.cell (p:=⟨b,_,none⟩) hlt).trans h.f2,(hb.cell (p:=⟨b,_,none⟩) hlt).trans h.f3,(hb.cell (p:=⟨b,_,none⟩) hlt).trans h.f4,(hb.cell (p:=⟨b,_,none⟩) hlt).trans h.f5,(hb.cell (p:=⟨b,_,none⟩) hlt).trans h.f6,h.d1.under hb,h.d4.under hb,h.d5.under hb,h.d6.under hb⟩
theorem PaAt.isPart {w:World} {b o:Nat} {p:Pa} {a1:Option Addr} {c1:Nat} {a4:Option Addr} {c4:Nat} {a5:Option Addr} {c5:Nat} {a6:Option Addr} {c6:Nat} (h:PaAt w b o p a1 c1 a4 c4 a5 c5 a6 c6):IsPart w (.agg #[.int .i64 p.n,.slice a1 p.st.r.length c1,.int .i64 p.st.q,.int .i64 p.st.d,.slice a4 p.p.length c4,.slice a5 p.t.length c5,.slice a6 p.a.length c6]) p:=⟨_,_,_,_,rfl,h.d1,h.d4,h.d5,h.d6⟩
def PasAt (w:World) (b off:Nat) (l:List Pa):Prop:=b<w.heap.size∧ ∀i,i<l.length→ ∃a1 c1 a4 c4 a5 c5 a6 c6,PaAt w b (off+i*7) (paAt l i) a1 c1 a4 c4 a5 c5 a6 c6
theorem PasAt.below {w w':World} {b off:Nat} {l:List Pa} (h:PasAt w b off l) (hb:Below w.heap.size w w'):PasAt w' b off l:=
  ⟨Nat.lt_of_lt_of_le h.1 hb.size,fun i hi=>by
    obtain⟨a1,c1,a4,c4,a5,c5,a6,c6,hp⟩:=h.2 i hi
    exact⟨a1,c1,a4,c4,a5,c5,a6,c6,hp.below hb h.1⟩⟩
theorem yw8 {w:World} {u:Value} {c n:Nat} {f:Nat→Dat} (h:IsD w u (.row c n f)):∃a cap,u= .slice a n cap:=by
  obtain⟨a,cap,rfl,_⟩:=h.parts
  exact⟨a,cap,rfl⟩
theorem zlw {w:World} {a:Option Addr} {cap:Nat} {l:List Pa} (h:IsD w (.slice a l.length cap) (ywi l)):l= []∨ ∃b off,a=some ⟨b,off,none⟩∧PasAt w b off l:=by
  obtain⟨a',c',e,_,_,h⟩:=IsD.parts (c:=7) (n:=l.length) h
  cases e
  rcases h with h|⟨b,off,rfl,hb,hc⟩
  · exact .inl (List.length_eq_zero_iff.1 h)
  · refine .inr ⟨b,off,rfl,hb,fun i hi=> ?_⟩
    obtain⟨u1,u4,u5,u6,f0,f1,f2,f3,f4,f5,f6,d1,d4,d5,d6⟩:=yzg hc hi
    obtain⟨a1,c1,rfl⟩:=yw8 (c:=1) (n:=(paAt l i).st.r.length) d1
    obtain⟨a4,c4,rfl⟩:=yw8 (c:=12) (n:=(paAt l i).p.length) d4
    obtain⟨a5,c5,rfl⟩:=yw8 (c:=7) (n:=(paAt l i).t.length) d5
    obtain⟨a6,c6,rfl⟩:=yw8 (c:=1) (n:=(paAt l i).a.length) d6
    exact⟨a1,c1,a4,c4,a5,c5,a6,c6,f0,f1,f2,f3,f4,f5,f6,d1,d4,d5,d6⟩
structure PpAt (w:World) (b o:Nat) (p:Ps) (a7:Option Addr) (c7:Nat) (a10:Option Addr) (c10:Nat) (a11:Option Addr) (c11:Nat):Prop where
  ev:Ev.In w b o p.e
  f7:w.cell? ⟨b,o+7,none⟩=some (.slice a7 p.b.r.length c7)
  f8:w.cell? ⟨b,o+8,none⟩=some (.int .i64 p.b.q)
  f9:w.cell? ⟨b,o+9,none⟩=some (.int .i64 p.b.d)
  f10:w.cell? ⟨b,o+10,none⟩=some (.slice a10 p.s.length c10)
  f11:w.cell? ⟨b,o+11,none⟩=some (.slice a11 p.x.length c11)
  d10:IsD w (.slice a10 p.s.length c10) (evsD p.s)
  d11:IsD w (.slice a11 p.x.length c11) (emsD p.x)
def PpsAt (w:World) (b off:Nat) (l:List Ps):Prop:=b<w.heap.size∧ ∀i,i<l.length→ ∃a7 c7 a10 c10 a11 c11,PpAt w b (off+i*12) (psAt l i) a7 c7 a10 c10 a11 c11
theorem yz1 {w:World} {a:Option Addr} {cap:Nat} {l:List Ps} (h:IsD w (.slice a l.length cap) (yw3 l)):l= []∨ ∃b off,a=some ⟨b,off,none⟩∧PpsAt w b off l:=by
  obtain⟨a',c',e,_,_,h⟩:=IsD.parts (c:=12) (n:=l.length) h
  cases e
  rcases h with h|⟨b,off,rfl,hb,hc⟩
  · exact .inl (List.length_eq_zero_iff.1 h)
  · refine .inr ⟨b,off,rfl,hb,fun i hi=> ?_⟩
    obtain⟨u7,u10,u11,f0,f1,f2,f3,f4,f5,f6,f7,f8,f9,f10,f11,d7,d10,d11⟩:=yya hc hi
    obtain⟨a7,c7,rfl⟩:=yw8 (c:=1) (n:=(psAt l i).b.r.length) d7
    obtain⟨a10,c10,rfl⟩:=yw8 (c:=7) (n:=(psAt l i).s.length) d10
    obtain⟨a11,c11,rfl⟩:=yw8 (c:=3) (n:=(psAt l i).x.length) d11
    exact⟨a7,c7,a10,c10,a11,c11,⟨f0,f1,f2,f3,f4,f5,f6⟩,f7,f8,f9,f10,f11,d10,d11⟩
theorem IsKern.form {w:World} {x:Value} {k:Kn} (h:IsKern w x k):∃ai ci ah ch ae ce ad cd ap cp ab cb au cu ax cx,x= .agg #[.int .i64 k.m.n,.int .i64 k.m.s,.slice ai k.m.i.length ci,.slice ah k.m.h.length ch,.slice ae k.m.e.length ce,.int .i64 k.m.z,.slice ad k.d.length cd,.slice ap k.p.length cp,.slice ab k.b.length cb,.int .i64 k.t,.int .i64 k.q,.bool k.f,.slice au k.s.length cu,.slice ax k.x.length cx]∧IsM w (.agg #[.int .i64 k.m.n,.int .i64 k.m.s,.slice ai k.m.i.length ci,.slice ah k.m.h.length ch,.slice ae k.m.e.length ce,.int .i64 k.m.z]) k.m∧IsI w (.slice ad k.d.length cd) k.d∧
    (k.p= []∨ ∃b off,ap=some ⟨b,off,none⟩∧PasAt w b off k.p)∧IsMl w (.slice ab k.b.length cb) k.b∧IsEvs w (.slice au k.s.length cu) k.s∧IsX w (.slice ax k.x.length cx) k.x:=by
  obtain⟨vi,vh,vs,u6,u7,u8,u12,u13,rfl,hm,h6,h7,h8,h12,h13⟩:=h
  have hm':=hm
  obtain⟨_,_,_,e,⟨ai,ci,rfl,_⟩,⟨ah,ch,rfl,_⟩,⟨ae,ce,rfl,_⟩⟩:=hm'
  simp at e
  obtain⟨rfl,rfl,rfl⟩:=e
  have g6:=h6.isI
  have g8:=h8.isMl
  have g12:=h12.isEvs
  have g13:=h13.isX
  obtain⟨ad,cd,rfl,_⟩:=h6.isI
  obtain⟨ap,cp,rfl⟩:=yw8 (c:=7) (n:=k.p.length) h7
  obtain⟨ab,cb,rfl,_⟩:=h8.isMl
  obtain⟨au,cu,rfl,_⟩:=h12.isEvs
  obtain⟨ax,cx,rfl,_⟩:=h13.isX
  exact⟨ai,ci,ah,ch,ae,ce,ad,cd,ap,cp,ab,cb,au,cu,ax,cx,rfl,hm,g6,zlw h7,g8,g12,g13⟩
theorem yyp {k:Kn} (h:k.wt≤1048576):k.d.length≤1048576∧k.p.length≤1048576∧k.b.length≤1048576∧k.s.length≤1048576∧k.x.length≤1048576:=by
  unfold Kn.wt at h
  simp only [ywf,yx0,yy3,yy9,yyb]at h
  omega
theorem yyf {k:Kn} (h:k.wt≤1048576):∀i,i<k.p.length→(paAt k.p i).wt≤1048576:=fun i hi=>by
  have h1:(paAt k.p i).wt≤(ywi k.p).wt:=Pa.wt_le hi
  unfold Kn.wt at h
  omega
end Go.Proofs.YtghndljgadpijaaGreat

