/- KPe, KIi, KIj -/
import Derived.Test.YtghndljgadpijaaGreatExactCollectG27
import Derived.Test.YtghndljgadpijaaGreatExactCollectG25
import Derived.Test.YtghndljgadpijaaGreatExactCollectLKSg
import Derived.Test.YtghndljgadpijaaGreatExactCollectG15
import Derived.Test.YtghndljgadpijaaGreatExactCollectG01
import Derived.Test.YtghndljgadpijaaGreatExactCollectG06
import Derived.Test.YtghndljgadpijaaGreatExactCollectG16
import Derived.Test.YtghndljgadpijaaGreatExactCollectLKSc
/- A kernel may be: the program's words and the specification's are one. -/
namespace Go.Proofs.YtghndljgadpijaaGreat
open Go.RowKit
theorem getD_in {α:Type} {l:List α} {i:Nat} {d:α} (h:i<l.length):l.getD i d∈l:=by
  rw [List.getD_eq_getElem?_getD,List.getElem?_eq_getElem h]
  exact List.getElem_mem h
theorem zbl {α:Type} {l:List α} {e:α} (d:α) (h:e∈l):∃i,i<l.length∧l.getD i d=e:=by
  obtain⟨i,hi,rfl⟩:=List.mem_iff_getElem.1 h
  exact⟨i,hi,by rw [List.getD_eq_getElem?_getD,List.getElem?_eq_getElem hi];rfl⟩
theorem getD_at {α:Type} {l:List α} {i:Nat} (d:α) (h:i<l.length):l.getD i d=l[i]:=by
  rw [List.getD_eq_getElem?_getD,List.getElem?_eq_getElem h];rfl
def bagE (l:List Ml):List Ev:=l.flatMap (fun m=>if m.a then []else [m.e])
def yyn (l:List Pa):List Ev:=l.flatMap Pa.all
def allK (k:Kn):List Ev:=yyn k.p++bagE k.b
def zii (l:List Ev):Prop:=∀i,i<l.length→ ∀j,j<i→(evAt l j).g≠(evAt l i).g
def zij (k:Kn):Prop:=k.s= []∨((∀i,i<k.p.length→(paAt k.p i).p= []∨(yyq k.s).ecmp (psAt (paAt k.p i).p 0).e= -1)∧ ∀g,gvtE k=some g→(yyq k.s).ecmp g= -1)
noncomputable def zbc (k : Kn) : Bool := @decide (zij k) (Classical.propDecidable _)
theorem aheadB_iff {k:Kn}:zbc k=true↔zij k:=by unfold zbc;simp
def SureI (k:Kn):Prop:=(∀i,i<k.s.length→evIn k.m (evAt k.s i)=true∧(evAt k.s i).g=0)∧(∀i,i<k.s.length-1→(evAt k.s i).ecmp (evAt k.s (i+1))= -1)∧zij k
noncomputable def zcr (k : Kn) : Bool := @decide (SureI k) (Classical.propDecidable _)
theorem sureIB_iff {k:Kn}:zcr k=true↔SureI k:=by unfold zcr;simp
theorem zl0 (l:List Ml):bagT l=(bagE l).map (·.g):=by
  unfold bagT bagE
  rw [List.map_flatMap]
  congr 1
  funext m
  split<;>rfl
theorem zlz (p:Pa):(znv p).Perm (p.all.map (·.g)):=by
  unfold znv zil zhk Pa.all Pa.es
  rw [List.map_append,List.map_map]
  exact List.perm_append_comm
theorem zel (l:List Pa):(yye l).Perm ((yyn l).map (·.g)):=by
  induction l with
  |nil=>exact List.Perm.refl _
  |cons a l ih=>
    show(znv a++yye l).Perm ((a.all++yyn l).map (·.g))
    rw [List.map_append]
    exact(zlz a).append ih
theorem zec (k:Kn):(zf3 k).Perm ((allK k).map (·.g)):=by
  unfold zf3 allK
  rw [List.map_append,zl0]
  exact((zel k.p).append_left _).trans List.perm_append_comm
theorem hasI_no {l:List Int} {n:Nat} {z:Int}:hasI l n z=false↔ ∀j,j<n→intAt l j≠z:=by
  unfold hasI
  rw [Bool.not_eq_false',allB_iff]
  constructor
  · intro h j hj
    simpa using h j hj
  · intro h j hj
    simpa using h j hj
theorem zkf {l:List Int}:l.Nodup↔ ∀i,i<l.length→ ∀j,j<i→intAt l j≠intAt l i:=by
  unfold List.Nodup
  rw [List.pairwise_iff_getElem]
  constructor
  · intro h i hi j hj e
    refine h j i (by omega) hi hj ?_
    unfold intAt at e
    rw [getD_at _ hi,getD_at _ (by omega)]at e
    exact e
  · intro h j i hj hi hlt e
    refine h i hi j hlt ?_
    unfold intAt
    rw [getD_at _ hi,getD_at _ hj]
    exact e
theorem zjm {t:Int} {l:List Int}:zib t l=true↔(∀z,z∈l→z<t)∧l.Nodup:=by
  rw [diffB_iff,zkf]
  constructor
  · intro h
    refine⟨fun z hz=> ?_,fun i hi=>hasI_no.1 (h i hi).2⟩
    obtain⟨i,hi,rfl⟩:=zbl 0 hz
    exact(h i hi).1
  · rintro ⟨h1,h2⟩ i hi
    exact⟨h1 _ (getD_in hi),hasI_no.2 (h2 i hi)⟩
theorem diffE_nodup {l:List Ev}:zii l↔(l.map (·.g)).Nodup:=by
  rw [zkf]
  unfold zii
  have e:∀i,i<l.length→intAt (l.map (·.g)) i=(evAt l i).g:=fun i hi=>by
    unfold intAt evAt
    rw [getD_at _ (by rw [List.length_map];exact hi),getD_at _ hi,List.getElem_map]
  rw [List.length_map]
  constructor
  · intro h i hi j hj
    rw [e i hi,e j (by omega)]
    exact h i hi j hj
  · intro h i hi j hj
    have:=h i hi j hj
    rw [e i hi,e j (by omega)]at this
    exact this
theorem diff_is {k:Kn}:zib k.t (zf3 k)=true↔(∀e,e∈allK k→e.g<k.t)∧zii (allK k):=by
  rw [zjm,diffE_nodup,(zec k).nodup_iff]
  refine and_congr_left fun _=> ?_
  constructor
  · intro h e he
    exact h _ ((zec k).mem_iff.2 (List.mem_map.2 ⟨e,he,rfl⟩))
  · intro h z hz
    obtain⟨e,he,rfl⟩:=List.mem_map.1 ((zec k).mem_iff.1 hz)
    exact h e he
theorem all_in {k:Kn} {e:Ev} (h:e∈allK k):(∃i,i<k.p.length∧e∈(paAt k.p i).all)∨ ∃i,i<k.b.length∧(mlAt k.b i).a=false∧e=(mlAt k.b i).e:=by
  unfold allK at h
  rcases List.mem_append.1 h with h|h
  · obtain⟨p,hp,he⟩:=List.mem_flatMap.1 h
    obtain⟨i,hi,e1⟩:=zbl ⟨0,⟨[],0,0⟩,[],[],[]⟩ hp
    exact .inl ⟨i,hi,by show e∈Pa.all (k.p.getD i _);rw [e1];exact he⟩
  · obtain⟨m,hm,he⟩:=List.mem_flatMap.1 h
    obtain⟨i,hi,e1⟩:=zbl ⟨⟨0,0,0,0,0,0,0⟩,false⟩ hm
    refine .inr ⟨i,hi,?_⟩
    unfold mlAt
    rw [e1]
    cases ha:m.a
    · rw [ha]at he
      exact⟨rfl,by simpa using he⟩
    · rw [ha]at he
      simp at he
theorem zet {k:Kn} {e:Ev} {i:Nat} (hi:i<k.p.length) (h:e∈(paAt k.p i).all):e∈allK k:=
  List.mem_append.2 (.inl (List.mem_flatMap.2 ⟨_,getD_in hi,h⟩))
theorem in_all {p:Pa} {e:Ev}:e∈p.all↔(∃i,i<p.p.length∧(psAt p.p i).e=e)∨ ∃i,i<p.t.length∧evAt p.t i=e:=by
  unfold Pa.all Pa.es
  rw [List.mem_append,List.mem_map]
  constructor
  · rintro (⟨x,hx,rfl⟩|h)
    · obtain⟨i,hi,e1⟩:=zbl ⟨⟨0,0,0,0,0,0,0⟩,⟨[],0,0⟩,[],[]⟩ hx
      exact .inl ⟨i,hi,by unfold psAt;rw [e1]⟩
    · obtain⟨i,hi,e1⟩:=zbl ⟨0,0,0,0,0,0,0⟩ h
      exact .inr ⟨i,hi,e1⟩
  · rintro (⟨i,hi,rfl⟩|⟨i,hi,rfl⟩)
    · exact .inl ⟨_,getD_in hi,rfl⟩
    · exact .inr (getD_in hi)
theorem knL_iff {k:Kn} {l:List Ev}:knL k l=true↔ ∀i,i<l.length→evIn k.m (evAt l i)=true∧(evAt l i).g<k.t:=by
  unfold knL
  rw [allB_iff]
  unfold knB
  simp only [Bool.and_eq_true,decide_eq_true_eq]
theorem pastKB_iff {k:Kn} {p:Pa}:zc7 k p=true↔ ∀i,i<p.p.length→(psAt p.p i).e.g<k.t∧knL k (psAt p.p i).s=true:=by
  unfold zc7
  rw [allB_iff]
  simp only [pastL1_iff]
theorem bagKB_iff {k:Kn}:zf2 k=true↔ ∀i,i<k.b.length→evIn k.m (mlAt k.b i).e=true∧(mlAt k.b i).e.g<k.t:=by
  unfold zf2
  rw [allB_iff]
  unfold knB
  simp only [Bool.and_eq_true,decide_eq_true_eq]
theorem yzn {m:Md} {e:Ev} (h:evIn m e=true):e.ok=true:=by
  unfold evIn at h
  exact(Bool.and_eq_true_iff.1 h).1
theorem asc_le {l:List Int} (h:Asc l):∀(d i:Nat),i+d<l.length→intAt l i≤intAt l (i+d)
  |0,i,_=>Int.le_refl _
  |d+1,i,hi=>by
    have h1:=asc_le h d i (by omega)
    have h2:=(h (i+(d+1)) hi).2.2 (by omega)
    have e:i+(d+1)-1=i+d:=by omega
    rw [e]at h2
    omega
theorem zih {t:Int} {l:List Int} (h:Asc l):ze1 t l=true↔ ∀i,i<l.length→intAt l i<t:=by
  unfold ze1
  rw [Bool.or_eq_true,decide_eq_true_eq,decide_eq_true_eq]
  constructor
  · rintro (rfl|h1) i hi
    · simp at hi
    · have:=asc_le h (l.length-1-i) i (by omega)
      rw [show i+(l.length-1-i)=l.length-1 by omega]at this
      omega
  · intro h1
    by_cases e:l= []
    · exact .inl e
    · exact .inr (h1 _ (by have:=List.length_pos_iff.2 e;omega))
theorem stepE_in {o:Option Ev} {e g:Ev} (h:ziq o e=some g):o=some g∨e=g:=by
  unfold ziq at h
  split at h
  · exact .inr (by injection h)
  · split at h
    · exact .inr (by injection h)
    · exact .inl h
theorem zj8:∀(l:List Ev) (o:Option Ev) (g:Ev),l.foldl ziq o=some g→o=some g∨g∈l
  | [],o,g,h=> .inl h
  |a::l,o,g,h=>by
    rcases zj8 l (ziq o a) g h with h1|h1
    · rcases stepE_in h1 with h2|rfl
      · exact .inl h2
      · exact .inr (List.mem_cons_self ..)
    · exact .inr (List.mem_cons_of_mem _ h1)
theorem gvt_in {k:Kn} {g:Ev} (h:gvtE k=some g):g∈gvtL k:=by
  rcases zj8 _ _ _ h with h1|h1
  · cases h1
  · exact h1
theorem zjh {k:Kn} (hp:∀i,i<k.p.length→ ∀j,j<(paAt k.p i).t.length→(evAt (paAt k.p i).t j).ok=true) (hb:∀i,i<k.b.length→(mlAt k.b i).e.ok=true) {e:Ev} (h:e∈gvtL k):e.ok=true:=by
  unfold gvtL at h
  rcases List.mem_append.1 h with h|h
  · obtain⟨p,hpm,he⟩:=List.mem_flatMap.1 h
    obtain⟨i,hi,e1⟩:=zbl ⟨0,⟨[],0,0⟩,[],[],[]⟩ hpm
    obtain⟨j,hj,e2⟩:=zbl ⟨0,0,0,0,0,0,0⟩ (List.mem_of_mem_take he)
    have:=hp i hi j (by unfold paAt;rw [e1];exact hj)
    unfold paAt evAt at this
    rw [e1,e2]at this
    exact this
  · obtain⟨m,hm,rfl⟩:=List.mem_map.1 h
    obtain⟨i,hi,e1⟩:=zbl ⟨⟨0,0,0,0,0,0,0⟩,false⟩ hm
    have:=hb i hi
    unfold mlAt at this
    rw [e1]at this
    exact this
theorem zgy {a b:Ev} (ha:a.ok=true) (hb:b.ok=true):0<b.cmp a↔a.ecmp b= -1:=by
  rw [zd6 ha hb,cmp_opp a b]
  omega
def KernI (k:Kn):Prop:=(k.b.length≤2000∧k.s.length≤2000∧k.x.length≤16000)∧k.m.ok=true∧vok k.d=true∧(6≤k.t∧k.t≤99992)∧(-1≤k.q∧k.q≤3)∧yz3 k=true∧zf2 k=true∧zii (allK k)∧SureI k∧emsC k.x=true
theorem emsC_iff {l:List Em}:emsC l=true↔ ∀i,i<l.length→(xAt l i).okB=true:=all_iff
theorem zk2 {k:Kn} (hg:∀e,e∈gvtL k→e.ok=true) (hp:∀i,i<k.p.length→ ∀j,j<(paAt k.p i).p.length→(psAt (paAt k.p i).p j).e.ok=true):SureI k↔(∀i,i<k.s.length→zhb k.m k.s i=true)∧gvtB k=true∧ ∀i,i<k.p.length→zb9 k.s (paAt k.p i)=true:=by
  have key:(∀i,i<k.s.length→evIn k.m (evAt k.s i)=true)→(zij k↔gvtB k=true∧ ∀i,i<k.p.length→zb9 k.s (paAt k.p i)=true):=by
    intro hok
    unfold zij
    by_cases e0:k.s= []
    · refine⟨fun _=>⟨?_,fun i hi=>past0B_iff.2 (.inr (behB_iff.2 (.inl e0)))⟩,fun _=> .inl e0⟩
      cases eg:gvtE k with
      |none=>exact zd0 eg
      |some g=>rw [zau eg];exact behB_iff.2 (.inl e0)
    · have hl:(yyq k.s).ok=true:=yzn (hok (k.s.length-1) (by have:=List.length_pos_iff.2 e0;omega))
      constructor
      · rintro (h|⟨h1,h2⟩)
        · exact(e0 h).elim
        · constructor
          · cases eg:gvtE k with
            |none=>exact zd0 eg
            |some g=>
              rw [zau eg]
              exact behB_iff.2 (.inr ((zgy hl (hg g (gvt_in eg))).2 (h2 g eg)))
          · intro i hi
            by_cases e1:(paAt k.p i).p= []
            · exact past0B_iff.2 (.inl e1)
            · exact past0B_iff.2 (.inr (behB_iff.2 (.inr ((zgy hl (hp i hi 0 (List.length_pos_iff.2 e1))).2 ((h1 i hi).resolve_left e1)))))
      · rintro ⟨h1,h2⟩
        refine .inr ⟨fun i hi=> ?_,fun g eg=> ?_⟩
        · by_cases e1:(paAt k.p i).p= []
          · exact .inl e1
          · refine .inr ?_
            have h3:=((behB_iff.1 ((past0B_iff.1 (h2 i hi)).resolve_left e1)).resolve_left e0)
            exact(zgy hl (hp i hi 0 (List.length_pos_iff.2 e1))).1 h3
        · rw [zau eg]at h1
          exact(zgy hl (hg g (gvt_in eg))).1 ((behB_iff.1 h1).resolve_left e0)
  have key2:(∀i,i<k.s.length→evIn k.m (evAt k.s i)=true)→((∀i,i<k.s.length-1→(evAt k.s i).ecmp (evAt k.s (i+1))= -1)↔ ∀i,i<k.s.length→0<i→(evAt k.s (i-1)).cmp (evAt k.s i)<0):=by
    intro hok
    constructor
    · intro h i hi h0
      have h1:=h (i-1) (by omega)
      rw [show i-1+1=i by omega]at h1
      exact(zd6 (yzn (hok _ (by omega))) (yzn (hok _ hi))).1 h1
    · intro h i hi
      have h1:=h (i+1) (by omega) (by omega)
      rw [show i+1-1=i by omega]at h1
      exact(zd6 (yzn (hok _ (by omega))) (yzn (hok _ (by omega)))).2 h1
  constructor
  · rintro ⟨h1,h2,h3⟩
    have hok:=fun i hi=>(h1 i hi).1
    refine⟨fun i hi=>sure1_iff.2 ⟨hok i hi,(h1 i hi).2,(key2 hok).1 h2 i hi⟩,(key hok).1 h3⟩
  · rintro ⟨h1,h2⟩
    have hok:=fun i hi=>(sure1_iff.1 (h1 i hi)).1
    exact⟨fun i hi=>⟨hok i hi,(sure1_iff.1 (h1 i hi)).2.1⟩,(key2 hok).2 (fun i hi=>(sure1_iff.1 (h1 i hi)).2.2),(key hok).2 h2⟩
theorem modB_iff {m:Md} {p:Pa}:modB m p=true↔m.ok=true∧p.ok=true∧p.n<m.n∧ ∀i,i<p.t.length→evIn m (evAt p.t i)=true:=by
  unfold modB
  simp only [Bool.and_eq_true,decide_eq_true_eq,allB_iff,and_assoc]
theorem zj5 {p:Pa} (h:p.ok=true):∀j,j<p.p.length→(psAt p.p j).e.ok=true:=fun j hj=>by
  have h1:=(Pa.ok_iff.1 h).2.2.2.2.1.1 j (by rw [yzc];omega)
  rw [yy4 p hj]at h1
  exact h1
theorem kern_iff {k:Kn}:k.ok=true↔KernI k:=by
  rw [ok_iff,headK_iff,sureB_iff,tagsB_iff]
  unfold KernI
  constructor
  · rintro ⟨⟨a1,a2,a3,a4,a5,a6,a7,a8⟩,hP,hB,⟨s1,s2,s3,s4,s5,s6⟩,hK,hD⟩
    obtain⟨d1,d2⟩:=diff_is.1 hD
    have P1:=fun i hi=>(part1_iff.1 (hP i hi)).1
    have P2:=fun i hi=>modB_iff.1 (P1 i hi)
    have gok:∀e,e∈gvtL k→e.ok=true:=fun e he=>zjh (fun i hi j hj=>yzn ((P2 i hi).2.2.2 j hj)) (fun i hi=>yzn (bag1_iff.1 (hB i hi)).1) he
    have pok:=fun i hi=>zj5 (P2 i hi).2.1
    refine⟨⟨a4,s1,s2⟩,a1,a2,⟨a5,a6⟩,⟨a7,by omega⟩,?_,bagKB_iff.2 (fun i hi=>bag1_iff.1 (hB i hi)),d2,(zk2 gok pok).2 ⟨s3,s5,s6⟩,emsC_iff.2 s4⟩
    refine partsKB_iff.2 ⟨a3,fun i hi=>partI_iff.2 ⟨(part1_iff.1 (hP i hi)).2,(P2 i hi).2.1,?_,?_,?_⟩⟩
    · exact knL_iff.2 (fun j hj=>⟨(P2 i hi).2.2.2 j hj,d1 _ (zet hi (in_all.2 (.inr ⟨j,hj,rfl⟩)))⟩)
    · exact pastKB_iff.2 (fun j hj=>⟨d1 _ (zet hi (in_all.2 (.inl ⟨j,hj,rfl⟩))),knL_iff.2 (sentK_iff.1 ((partK_iff.1 (hK i hi)).1 j hj))⟩)
    · exact(zih (Pa.ok_iff.1 (P2 i hi).2.1).2.2.2.2.2).2 (partK_iff.1 (hK i hi)).2
  · rintro ⟨⟨a4,s1,s2⟩,a1,a2,⟨a5,a6⟩,⟨a7,a8⟩,hP,hB,d2,hS,s4⟩
    obtain⟨a3,hP⟩:=partsKB_iff.1 hP
    have P2:=fun i hi=>partI_iff.1 (hP i hi)
    have P3:=fun i hi=>knL_iff.1 (P2 i hi).2.2.1
    have B1:=bagKB_iff.1 hB
    have gok:∀e,e∈gvtL k→e.ok=true:=fun e he=>zjh (fun i hi j hj=>yzn (P3 i hi j hj).1) (fun i hi=>yzn (B1 i hi).1) he
    have pok:=fun i hi=>zj5 (P2 i hi).2.1
    obtain⟨s3,s5,s6⟩:=(zk2 gok pok).1 hS
    refine⟨⟨a1,a2,a3,a4,a5,a6,a7,by omega⟩,fun i hi=>part1_iff.2 ⟨modB_iff.2 ⟨a1,(P2 i hi).2.1,?_,fun j hj=>(P3 i hi j hj).1⟩,(P2 i hi).1⟩,fun i hi=>bag1_iff.2 (B1 i hi),⟨s1,s2,s3,emsC_iff.1 s4,s5,s6⟩,fun i hi=>partK_iff.2 ⟨fun j hj=>sentK_iff.2 (knL_iff.1 (pastKB_iff.1 (P2 i hi).2.2.2.1 j hj).2),(zih (Pa.ok_iff.1 (P2 i hi).2.1).2.2.2.2.2).1 (P2 i hi).2.2.2.2⟩,diff_is.2 ⟨fun e he=> ?_,d2⟩⟩
    · have:=(P2 i hi).1
      omega
    · rcases all_in he with ⟨i,hi,h1⟩|⟨i,hi,_,rfl⟩
      · rcases in_all.1 h1 with ⟨j,hj,rfl⟩|⟨j,hj,rfl⟩
        · exact(pastKB_iff.1 (P2 i hi).2.2.2.1 j hj).1
        · exact(P3 i hi j hj).2
      · exact(B1 i hi).2
theorem yz2 {p:Prop} (h:p):Hid p:=h
theorem zem {l:List Pa} {i:Nat} (h:i<l.length):yyn (l.take (i+1))=yyn (l.take i)++(paAt l i).all:=by
  rw [zde h]
  unfold yyn
  rw [List.flatMap_append]
  simp
theorem zj1 (l:List Pa) (j:Nat):(yyn (l.take j)).length≤(yyn l).length:=by
  have e:yyn l=yyn (l.take j)++yyn (l.drop j):=by
    unfold yyn
    rw [←List.flatMap_append,List.take_append_drop]
  rw [e,List.length_append]
  omega
theorem zpn {l:List Ml} {i:Nat} (h:i<l.length):bagE (l.take (i+1))=bagE (l.take i)++(if (mlAt l i).a then []else [(mlAt l i).e]):=by
  rw [zbt h]
  unfold bagE
  rw [List.flatMap_append]
  simp
theorem zpm (l:List Ml) (j:Nat):(bagE (l.take j)).length≤(bagE l).length:=by
  have e:bagE l=bagE (l.take j)++bagE (l.drop j):=by
    unfold bagE
    rw [←List.flatMap_append,List.take_append_drop]
  rw [e,List.length_append]
  omega
theorem zl3 {k:Kn} (h:k.wt≤1048576):(yyn k.p).length+(bagE k.b).length≤1048576:=by
  have h1:=zk1 h
  have h2:=(zel k.p).length_eq
  rw [List.length_map]at h2
  rw [zl0,List.length_map]at h1
  omega
theorem OwnR.srcC {B:Nat} {w:World} {x:Value} {l:List Ev} (h:OwnR B w x l):SrcC w x 7 l.length (yvz l):=IsD.src ((RowF.of_owns (ywc l) h).own.isD) (ywc l)
theorem RowE.more {B:Nat} {w:World} {v:Value} {l l':List Ev} (h:w.ownsRow B 90 7 v (l.length+l'.length) (yvz l++yvz l')):RowE B w v (l++l'):=by
  unfold RowE
  rw [List.length_append,yyk]
  exact h
set_option maxRecDepth 100000 in
set_option maxHeartbeats 16000000 in
theorem zol (x:Value) (k:Kn) (w:World) (hs:ywy k) (h:IsKern w x k):
    Calls Tryz.prog 134 #[x] w fun e w'=>∃y,e= .returned y∧OwnR w.heap.size w' y (allK k)∧Below w.heap.size w w':=by
  have hall:=zl3 hs.2
  obtain⟨HSM0,hsk⟩:=hs
  have HSM:Hid (SmallM k.m):=HSM0
  obtain⟨hdl,hpl,hbl,hsl,hxl⟩:=yyp hsk
  have HWP:=yz2 (yyf hsk)
  clear hsk HSM0
  obtain⟨ai,ci,ah,ch,ae,ce,ad,cd,ap,cp,ab,cb,au,cu,ax,cx,rfl,hm,hd,hp,hbg,hsu,hx⟩:=h.form
  have HM:=yz2 hm
  have HD:=yz2 hd
  have HPP:=yz2 hp
  have HBG:=yz2 hbg.rows
  have HSU:=yz2 hsu.rows
  have HXX:=yz2 hx.rows
  have HSUI:=yz2 hsu
  have HXXI:=yz2 hx
  have HK:=yz2 h
  clear hm hd hp hbg hsu hx h
  obtain⟨W0,hW0⟩:=alIsKern HK.out 41
  have HB0:Hid (Below w.heap.size w W0):=by rw [←hW0];exact(Below.refl _ w).alloc (Nat.le_refl _) _
  have HP0:Hid (Bk W0 w.heap.size 41 #[.int .i64 k.m.n,.int .i64 k.m.s,.slice ai k.m.i.length ci,.slice ah k.m.h.length ch,.slice ae k.m.e.length ce,.int .i64 k.m.z,.slice ad k.d.length cd,.slice ap k.p.length cp,.slice ab k.b.length cb,.int .i64 k.t,.int .i64 k.q,.bool k.f,.slice au k.s.length cu,.slice ax k.x.length cx]):=by rw [←hW0];exact Bk.new w _ _
  have HW:=yz2 hW0
  have hs0:w.heap.size<W0.heap.size:=HP0.out.lt
  clear HM HD HSU HXX HSUI HXXI HK HSM hW0
  obtain⟨ie,hx0,hx1,hx2,hx3⟩:=info_parts info25
  obtain⟨B,hB⟩:∃B,B=W0.heap.size:=⟨_,rfl⟩
  have hB1:B≤W0.heap.size:=by omega
  have hB2:w.heap.size<B:=by omega
  clear hB
  have hw:=HW.out
  have q7:=HP0.out.cell (i:=7) rfl
  go_enter Tryz.func134,Tryz.ntmps134
  go_wp2
  clear hw q7 HW
  go_loopw [3,11] (fun o i wr=>∃(j:Nat) (v:Value),j≤k.p.length∧v=o∧i= .int .i64 j∧RowE B wr o (yyn (k.p.take j))∧Below B W0 wr) (fun _ i _=>k.p.length-(intOf i).toNat)
  case atStart=>exact⟨0,_,Nat.zero_le _,rfl,rfl,RowE.nil _ _,Below.refl _ _⟩
  case round=>
    obtain⟨j,o,hj,rfl,rfl,hR,hBr⟩:=hrel
    have HR:=yz2 hR
    have HBB:Hid (Below B W0 wr):=hBr
    have HBr:=yz2 (HB0.out.trans (hBr.mono (by omega)))
    have hs1:B≤wr.heap.size:=Nat.le_trans hB1 hBr.size
    clear hR hBr
    by_cases hlt:j<k.p.length
    · obtain⟨b,off,rfl,hb,hPA⟩:=HPP.out.resolve_left (by intro e;rw [e]at hlt;simp at hlt)
      obtain⟨a1,c1,a4,c4,a5,c5,a6,c6,hp⟩:=hPA j hlt
      have f0:=cst HBr.out hb hp.f0
      have f1:=cst HBr.out hb hp.f1
      have f2:=cst HBr.out hb hp.f2
      have f3:=cst HBr.out hb hp.f3
      have f4:=cst HBr.out hb hp.f4
      have f5:=cst HBr.out hb hp.f5
      have f6:=cst HBr.out hb hp.f6
      have HIP:=yz2 hp.isPart
      have HWj:=yz2 (HWP.out j hlt)
      have HN:=yz2 (zem hlt)
      have hln:(yyn (k.p.take j)).length+(paAt k.p j).all.length≤1048576:=by
        have h9:=zj1 k.p (j+1)
        rw [zem hlt,List.length_append]at h9
        omega
      generalize yyn (k.p.take j)=lq at HR HN hln
      obtain⟨V,hV⟩:∃V,wr.alloc (.cells #[.int .i64 (paAt k.p j).n,.slice a1 (paAt k.p j).st.r.length c1,.int .i64 (paAt k.p j).st.q,.int .i64 (paAt k.p j).st.d,.slice a4 (paAt k.p j).p.length c4,.slice a5 (paAt k.p j).t.length c5,.slice a6 (paAt k.p j).a.length c6] 97)=V:=⟨_,rfl⟩
      have HBV:Hid (Below B W0 V):=by rw [←hV];exact HBB.out.alloc hs1 _
      have HRV:Hid (RowE B V o lq):=by rw [←hV];exact HR.out.alloc _
      have HX:=hdq (bkA hV)
      have HBw:=yz2 (HB0.out.trans (HBV.out.mono (by omega)))
      have hsV:B≤V.heap.size:=Nat.le_trans hB1 HBV.out.size
      obtain⟨x0,x1,x2,x3,x4,x5,x6⟩:=c7_7 HX.out
      clear hp hPA
      go_wp2_with fail
      clear x0 x1 x2 x3 x4 x5 x6 f0 f1 f2 f3 f4 f5 f6 hV
      refine(zok _ (paAt k.p j) _ HWj.out (HIP.out.under HBw.out)).mono ?_
      rintro e w5 ⟨y,rfl,ho,hb5⟩
      have HR5:Hid (RowE B w5 o lq):=OwnR.below HRV.out hb5
      have HS5:=yz2 ho.srcC
      have HB5:Hid (Below B W0 w5):=HBV.out.trans (hb5.mono hsV)
      have hs5:B≤w5.heap.size:=Nat.le_trans hsV hb5.size
      clear ho hb5
      generalize (paAt k.p j).all=la at HN hln HS5
      go_wp2_with (at_builtin;refine ywg _ rfl _ _ 34 rfl B 90 ie (.agg #[.int .i64 0,.int .i64 0,.int .i64 0,.int .i64 0,.int .i64 0,.int .i64 0,.int .i64 0]) 7 56 Tryz.underlying34 hx0 hx1 hx2 hx3 rfl (by decide) o lq.length (yvz lq) rfl HR5.out y la.length (yvz la) rfl HS5.out (zcn la) (by unfold maxLen;omega) (by omega) hs5 ?_;intro v4 w4 hown hgrow hnew)
      go_roundw
      case rel=>exact⟨j+1,_,by omega,rfl,by go_num,by rw [HN.out];exact RowE.more hown,HB5.out.grown hgrow hs5 (fun q e=>RowE.ge HR5.out e)⟩
      case measure=>simp [intOf];omega
    · obtain rfl:k.p.length=j:=by omega
      rw [List.take_length]at HR
      obtain⟨W1,rfl⟩:∃W1,W1=wr:=⟨wr,rfl⟩
      have HR1:=yz2 HR.out
      have HBB1:Hid (Below B W0 W1):=HBB.out
      have HP1:=yz2 (HP0.out.lowB HBB.out hB2)
      have m8:=HP1.out.cell (i:=8) rfl
      clear HR HBB HBr hj hlt hs1
      go_wp2
      clear m8
      go_loopw [3,23] (fun o i wr=>∃(j:Nat) (v:Value),j≤k.b.length∧v=o∧i= .int .i64 j∧RowE B wr o (yyn k.p++bagE (k.b.take j))∧Below B W0 wr) (fun _ i _=>k.b.length-(intOf i).toNat)
      case atStart=>exact⟨0,_,Nat.zero_le _,rfl,rfl,by simpa [bagE] using HR1.out,HBB1.out⟩
      case round=>
        clear HR1 HBB1 HP1
        obtain⟨j,o,hj,rfl,rfl,hR,hBr⟩:=hrel
        have HR:=yz2 hR
        have HBB:Hid (Below B W0 wr):=hBr
        have HBr:=yz2 (HB0.out.trans (hBr.mono (by omega)))
        have hs1:B≤wr.heap.size:=Nat.le_trans hB1 hBr.size
        clear hR hBr
        by_cases hlt:j<k.b.length
        · obtain⟨b,off,rfl,hb,hMA⟩:=HBG.out.resolve_left (by intro e;rw [e]at hlt;simp at hlt)
          obtain⟨f0,f1,f2,f3,f4,f5,f6,f7⟩:=(hMA j hlt).below HBr.out hb
          have HN:Hid (yyn k.p++bagE (k.b.take (j+1))=(yyn k.p++bagE (k.b.take j))++(if (mlAt k.b j).a then []else [(mlAt k.b j).e])):=(by rw [zpn hlt,List.append_assoc]:yyn k.p++bagE (k.b.take (j+1))=_)
          have hln:(yyn k.p++bagE (k.b.take j)).length≤3000000:=by have h9:=zpm k.b j;rw [List.length_append];omega
          generalize yyn k.p++bagE (k.b.take j)=lq at HR HN hln
          obtain⟨V,hV⟩:∃V,wr.alloc (.cells #[.int .i64 (mlAt k.b j).e.t,.int .i64 (mlAt k.b j).e.s,.int .i64 (mlAt k.b j).e.q,.int .i64 (mlAt k.b j).e.d,.int .i64 (mlAt k.b j).e.k,.int .i64 (mlAt k.b j).e.v,.int .i64 (mlAt k.b j).e.g,.bool (mlAt k.b j).a] 152)=V:=⟨_,rfl⟩
          have HBV:Hid (Below B W0 V):=by rw [←hV];exact HBB.out.alloc hs1 _
          have HRV:Hid (RowE B V o lq):=by rw [←hV];exact HR.out.alloc _
          have HX:=hdq (bkA hV)
          have hsV:B≤V.heap.size:=Nat.le_trans hB1 HBV.out.size
          obtain⟨x0,x1,x2,x3,x4,x5,x6,x7⟩:=c8_8 HX.out
          clear hMA
          cases ha:(mlAt k.b j).a
          case true=>
            have HNN:Hid (yyn k.p++bagE (k.b.take (j+1))=lq):=by show _=_;rw [HN.out,ha];simp
            rw [ha]at x7
            clear ha
            go_wp2
            go_roundw
            case rel=>exact⟨j+1,_,by omega,rfl,by go_num,by rw [HNN.out];exact HRV.out,HBV.out⟩
            case measure=>simp [intOf];omega
          have HNN:Hid (yyn k.p++bagE (k.b.take (j+1))=lq++ [(mlAt k.b j).e]):=by show _=_;rw [HN.out,ha];rfl
          rw [ha]at x7
          clear ha
          go_wp2_with (at_builtin;refine wpList_append_own _ rfl _ _ 34 rfl B 90 ie (.agg #[.int .i64 0,.int .i64 0,.int .i64 0,.int .i64 0,.int .i64 0,.int .i64 0,.int .i64 0]) 7 56 Tryz.underlying34 hx0 hx1 hx2 hx3 rfl (by decide) o _ _ rfl (World.ownsRow.alloc HRV.out _) ⟨V.heap.size,0,none⟩ 1 1 ((mlAt k.b j).e).cs rfl rfl (zju _ (mlAt k.b j).e) (zi9 (mlAt k.b j).e) (by unfold maxLen;omega) (by omega) (by simp;omega) ?_;intro v4 w4 hown hgrow hnil)
          go_roundw
          case rel=>exact⟨j+1,_,by omega,rfl,by go_num,by rw [HNN.out];exact RowE.grow hown,(HBV.out.alloc hsV _).grown hgrow (by simp;omega) (fun q e=>RowE.ge HRV.out e)⟩
          case measure=>simp [intOf];omega
        · obtain rfl:k.b.length=j:=by omega
          rw [List.take_length]at HR
          have HRa:Hid (OwnR B wr o (allK k)):=HR.out
          obtain⟨ao,co,rfl,_,_,_⟩:=HRa.out.evs
          go_wp2
          go_ret
          exact⟨_,rfl,HRa.out.mono (by omega),HBr.out⟩
theorem yza {p:Prop} (h:p):Hid p:=h
set_option maxRecDepth 100000 in
set_option maxHeartbeats 16000000 in
theorem iAhead (x:Value) (k:Kn) (w:World) (hs:ywy k) (hok:∀e,e∈gvtL k→e.ok=true) (h:IsKern w x k):
    Calls Tryz.prog 203 #[x] w fun e w'=>e= .returned (.bool (zbc k))∧Below w.heap.size w w':=by
  have HSK:Hid (ywy k):=hs
  have HOK:Hid (∀i,i<(gvtL k).length→(evAt (gvtL k) i).ok=true):=fun i hi=>hok _ (getD_in hi)
  clear hok
  obtain⟨HSM0,hsk⟩:=hs
  have HSM:Hid (SmallM k.m):=HSM0
  obtain⟨hdl,hpl,hbl,hsl,hxl⟩:=yyp hsk
  have HWP:=yza (yyf hsk)
  clear hsk HSM0
  obtain⟨ai,ci,ah,ch,ae,ce,ad,cd,ap,cp,ab,cb,au,cu,ax,cx,rfl,hm,hd,hp,hbg,hsu,hx⟩:=h.form
  have HM:=yza hm
  have HD:=yza hd
  have HPP:=yza hp
  have HBG:=yza hbg.rows
  have HSU:=yza hsu.rows
  have HXX:=yza hx.rows
  have HSUI:=yza hsu
  have HXXI:=yza hx
  have HK:=yza h
  clear hm hd hp hbg hsu hx h
  obtain⟨W0,hW0⟩:=alIsKern HK.out 41
  have HB0:Hid (Below w.heap.size w W0):=by rw [←hW0];exact(Below.refl _ w).alloc (Nat.le_refl _) _
  have HP0:Hid (Bk W0 w.heap.size 41 #[.int .i64 k.m.n,.int .i64 k.m.s,.slice ai k.m.i.length ci,.slice ah k.m.h.length ch,.slice ae k.m.e.length ce,.int .i64 k.m.z,.slice ad k.d.length cd,.slice ap k.p.length cp,.slice ab k.b.length cb,.int .i64 k.t,.int .i64 k.q,.bool k.f,.slice au k.s.length cu,.slice ax k.x.length cx]):=by rw [←hW0];exact Bk.new w _ _
  have HW:=yza hW0
  have hs0:w.heap.size<W0.heap.size:=HP0.out.lt
  clear HM HD HBG HXX HSUI HXXI HSM HWP hW0
  have hw:=HW.out
  have q12:=HP0.out.cell (i:=12) rfl
  by_cases hs0':k.s= []
  · have HY:Hid (zbc k=true):=aheadB_iff.2 (.inl hs0')
    have hlb:((k.s.length:Int)==0)=true:=by rw [hs0'];rfl
    have hl9:(k.s.length:Int)=0:=by rw [hs0'];rfl
    go_enter Tryz.func203,Tryz.ntmps203
    go_wp2
    go_ret
    exact⟨ye8 HY.out.symm,(Below.refl _ _).alloc (Nat.le_refl _) _⟩
  have HSN:Hid (¬k.s= []):=hs0'
  have hsp:0<k.s.length:=List.length_pos_iff.2 hs0'
  have hlb:((k.s.length:Int)==0)=false:=by rw [beq_eq_false_iff_ne];omega
  have hl9:¬(k.s.length:Int)=0:=by omega
  have hs1:(1:Int)≤(k.s.length:Int):=by omega
  have es:((k.s.length:Int)-1).toNat=k.s.length-1:=by omega
  obtain⟨b,off,rfl,hbl9,hcl⟩:=HSU.out.resolve_left hs0'
  have hle:Ev.In w b (off+(k.s.length-1)*7) (yyq k.s):=hcl (k.s.length-1) (by omega)
  obtain⟨l0,l1,l2,l3,l4,l5,l6⟩:=hle.below HB0.out hbl9
  obtain⟨W1,hW1⟩:∃W1,W0.alloc (.cells #[.int .i64 (yyq k.s).t,.int .i64 (yyq k.s).s,.int .i64 (yyq k.s).q,.int .i64 (yyq k.s).d,.int .i64 (yyq k.s).k,.int .i64 (yyq k.s).v,.int .i64 (yyq k.s).g] 90)=W1:=⟨_,rfl⟩
  have HB1:Hid (Below w.heap.size w W1):=by rw [←hW1];exact HB0.out.alloc HB0.out.size _
  have HP1:Hid (Bk W1 w.heap.size 41 #[.int .i64 k.m.n,.int .i64 k.m.s,.slice ai k.m.i.length ci,.slice ah k.m.h.length ch,.slice ae k.m.e.length ce,.int .i64 k.m.z,.slice ad k.d.length cd,.slice ap k.p.length cp,.slice ab k.b.length cb,.int .i64 k.t,.int .i64 k.q,.bool k.f,.slice (some ⟨b,off,none⟩) k.s.length cu,.slice ax k.x.length cx]):=by rw [←hW1];exact HP0.out.alloc _
  have HL1:=hdq (bkA hW1)
  have HLs:=yza HL1.out.lt
  have q7:=HP1.out.cell (i:=7) rfl
  clear hs0' hcl hbl9 hle
  go_enter Tryz.func203,Tryz.ntmps203
  go_wp2
  clear hw q12 q7 hlb hl9 hs1 es l0 l1 l2 l3 l4 l5 l6 hW1
  go_loopw [23] (fun i wr=>∃j:Nat,j≤k.p.length∧i= .int .i64 j∧Hid (∀i,i<j→(paAt k.p i).p= []∨(yyq k.s).ecmp (psAt (paAt k.p i).p 0).e= -1)∧Below W1.heap.size W1 wr) (fun i _=>k.p.length-(intOf i).toNat)
  case atStart=>exact⟨0,Nat.zero_le _,rfl,fun j hj=>by omega,Below.refl _ _⟩
  case round=>
    obtain⟨j,hj,rfl,HA,hB⟩:=hrel
    have HBr:=trh HB1 hB
    have HBr2:=yza hB
    have HLr:=yza (HL1.out.below hB)
    have HPr:=yza (HP1.out.below hB)
    clear hB
    by_cases hlt:j<k.p.length
    · obtain⟨bp,op,rfl,hPA⟩:=HPP.out.resolve_left (by intro e;rw [e]at hlt;simp at hlt)
      obtain⟨a1,c1,a4,c4,a5,c5,a6,c6,hp⟩:=(hPA.below HBr.out).2 j hlt
      have hbr:bp<wr.heap.size:=Nat.lt_of_lt_of_le hPA.1 HBr.out.size
      have f0:=hp.f0
      have f1:=hp.f1
      have f2:=hp.f2
      have f3:=hp.f3
      have f4:=hp.f4
      have f5:=hp.f5
      have f6:=hp.f6
      have hd4:=yz1 hp.d4
      obtain⟨V,hV⟩:∃V,wr.alloc (.cells #[.int .i64 (paAt k.p j).n,.slice a1 (paAt k.p j).st.r.length c1,.int .i64 (paAt k.p j).st.q,.int .i64 (paAt k.p j).st.d,.slice a4 (paAt k.p j).p.length c4,.slice a5 (paAt k.p j).t.length c5,.slice a6 (paAt k.p j).a.length c6] 97)=V:=⟨_,rfl⟩
      have HBV:=hdq (beA hV)
      have hXV:=bkA hV
      have hLV:Bk V W0.heap.size 90 #[.int .i64 (yyq k.s).t,.int .i64 (yyq k.s).s,.int .i64 (yyq k.s).q,.int .i64 (yyq k.s).d,.int .i64 (yyq k.s).k,.int .i64 (yyq k.s).v,.int .i64 (yyq k.s).g]:=HLr.out.below HBV.out
      have g0:=yoj (i:=0) hLV rfl
      have g1:=yoj (i:=1) hLV rfl
      have g2:=yoj (i:=2) hLV rfl
      have g3:=yoj (i:=3) hLV rfl
      have g4:=yoj (i:=4) hLV rfl
      have g5:=yoj (i:=5) hLV rfl
      have g6:=yoj (i:=6) hLV rfl
      have hne:=neB V
      have hki:(j:Int)<(k.p.length:Int):=by omega
      have x4:=hXV.cell (i:=4) rfl
      have hlx:wr.heap.size<V.heap.size:=hXV.lt
      clear hPA hp hXV hLV
      by_cases h0:(paAt k.p j).p.length=0
      · have HP0E:Hid ((paAt k.p j).p= []):=List.length_eq_zero_iff.1 h0
        rw [h0]at x4 hV f4
        have y4:∀q:Beyond V,q.w.cell? ⟨wr.heap.size,4,none⟩=some (.slice a4 0 c4):=fun q=>q.cell hlx x4
        clear hd4 h0
        go_wp2_with fail
        refine wrb ?_
        repeat(go_big_quiet_step (fail))
        refine wpQuiet_nil ?_
        rintro w6 ⟨⟨_,hb6⟩,rfl⟩
        have HB6:=yza hb6
        clear hb6
        have K9:Hid ((paAt k.p j).p= []∨(yyq k.s).ecmp (psAt (paAt k.p j).p 0).e= -1):= .inl HP0E.out
        go_wp2
        go_roundw
        case rel=>exact⟨j+1,by omega,by go_num,fun i hi=>by
          by_cases e:i=j
          · subst e;exact K9.out
          · exact HA.out i (by omega),trm HBr2.out (HBV.out.trans (HB6.out.mono HBV.out.size))⟩
        case measure=>simp [intOf];omega
      · obtain⟨n,hn⟩:∃n,(paAt k.p j).p.length=n+1:=⟨(paAt k.p j).p.length-1,by omega⟩
        obtain⟨b4,off4,rfl,hb4,hc4⟩:=hd4.resolve_left (by intro e;rw [e]at hn;simp at hn)
        obtain⟨_,_,_,_,_,_,hpp⟩:=hc4 0 (by omega)
        have hev:Ev.In V b4 off4 (psAt (paAt k.p j).p 0).e:=(by simpa using hpp.ev:Ev.In wr b4 off4 (psAt (paAt k.p j).p 0).e).below HBV.out hb4
        obtain⟨e0,e1,e2,e3,e4,e5,e6⟩:=hev.beyond (Nat.lt_of_lt_of_le hb4 HBV.out.size)
        have HNE:Hid (¬(paAt k.p j).p= []):=fun e=>by rw [e]at hn;simp at hn
        rw [hn]at x4 hV f4
        have y4:∀q:Beyond V,q.w.cell? ⟨wr.heap.size,4,none⟩=some (.slice (some ⟨b4,off4,none⟩) (n+1) c4):=fun q=>q.cell hlx x4
        generalize hz:(yyq k.s).ecmp (psAt (paAt k.p j).p 0).e=z
        have KZ:Hid ((yyq k.s).ecmp (psAt (paAt k.p j).p 0).e=z):=hz
        clear hz hc4 hpp hev h0 hn
        by_cases hz0:z= -1
        · have hdz:(z != -1)=false:=by simpa using hz0
          have HZ:Hid (z= -1):=hz0
          clear hz0
          go_wp2_with fail
          refine wrb ?_
          repeat(go_big_quiet_step (first|(go_at_call 124;exact Beyond.of (zbn (yyq k.s) (psAt (paAt k.p j).p 0).e z KZ.out _))))
          refine wpQuiet_nil ?_
          rintro w6 ⟨⟨_,hb6⟩,rfl⟩
          have HB6:=yza hb6
          clear hb6
          have K9:Hid ((paAt k.p j).p= []∨(yyq k.s).ecmp (psAt (paAt k.p j).p 0).e= -1):= .inr (KZ.out.trans HZ.out)
          go_wp2
          go_roundw
          case rel=>exact⟨j+1,by omega,by go_num,fun i hi=>by
            by_cases e:i=j
            · subst e;exact K9.out
            · exact HA.out i (by omega),trm HBr2.out (HBV.out.trans (HB6.out.mono HBV.out.size))⟩
          case measure=>simp [intOf];omega
        · have hdz:(z != -1)=true:=by simpa using hz0
          have HZ:Hid (¬z= -1):=hz0
          clear hz0
          go_wp2_with fail
          refine wrb ?_
          repeat(go_big_quiet_step (first|(go_at_call 124;exact Beyond.of (zbn (yyq k.s) (psAt (paAt k.p j).p 0).e z KZ.out _))))
          refine wpQuiet_nil ?_
          rintro w6 ⟨⟨_,hb6⟩,rfl⟩
          have HB6:=yza hb6
          clear hb6
          have HN:Hid (zbc k=false):=ywj (fun h=>by
            rcases aheadB_iff.1 h with h1|⟨h1,_⟩
            · exact HSN.out h1
            · rcases h1 j hlt with h2|h2
              · exact HNE.out h2
              · exact HZ.out (KZ.out.symm.trans h2))
          go_wp2
          go_ret
          exact⟨ye8 HN.out.symm,trm HBr.out (HBV.out.trans (HB6.out.mono HBV.out.size))⟩
    · obtain rfl:k.p.length=j:=by omega
      have HAA:=yza HA.out
      clear HA
      obtain⟨m0,m1,m2,m3,m4,m5,m6,m7,m8,m9,m10,m11,m12,m13⟩:=ywd HPr.out
      go_wp2_with fail
      clear m0 m1 m2 m3 m4 m5 m6 m7 m8 m9 m10 m11 m12 m13
      refine(zjf _ k _ HSK.out HOK.out (HK.out.under HBr.out)).mono ?_
      rintro e w4 ⟨rfl,hb4⟩
      have HB4:=trh HBr hb4
      have HL4:=yza (HLr.out.below hb4)
      clear hb4
      generalize hgv:gvtE k=gv
      have HGE:Hid (gvtE k=gv):=hgv
      clear hgv
      cases gv with
      |none=>
        rw [show retE none= .tuple #[.agg #[.int .i64 zEv.t,.int .i64 zEv.s,.int .i64 zEv.q,.int .i64 zEv.d,.int .i64 zEv.k,.int .i64 zEv.v,.int .i64 zEv.g],.bool false]from rfl]
        have HY:Hid (zbc k=true):=aheadB_iff.2 (.inr ⟨HAA.out,fun g eg=>by rw [HGE.out]at eg;cases eg⟩)
        go_wp2
        go_ret
        exact⟨ye8 HY.out.symm,HB4.out.alloc HB4.out.size _⟩
      |some g=>
        rw [show retE (some g)= .tuple #[.agg #[.int .i64 g.t,.int .i64 g.s,.int .i64 g.q,.int .i64 g.d,.int .i64 g.k,.int .i64 g.v,.int .i64 g.g],.bool true]from rfl]
        obtain⟨V,hV⟩:∃V,w4.alloc (.cells #[.int .i64 g.t,.int .i64 g.s,.int .i64 g.q,.int .i64 g.d,.int .i64 g.k,.int .i64 g.v,.int .i64 g.g] 90)=V:=⟨_,rfl⟩
        have HBV:Hid (Below w.heap.size w V):=by rw [←hV];exact HB4.out.alloc HB4.out.size _
        have HGV:=hdq (bkA hV)
        have HLV:Hid (Bk V W0.heap.size 90 #[.int .i64 (yyq k.s).t,.int .i64 (yyq k.s).s,.int .i64 (yyq k.s).q,.int .i64 (yyq k.s).d,.int .i64 (yyq k.s).k,.int .i64 (yyq k.s).v,.int .i64 (yyq k.s).g]):=by rw [←hV];exact HL4.out.alloc _
        have g0:=HGV.out.cell (i:=0) rfl
        have l0:=HLV.out.cell (i:=0) rfl
        have g1:=HGV.out.cell (i:=1) rfl
        have l1:=HLV.out.cell (i:=1) rfl
        have g2:=HGV.out.cell (i:=2) rfl
        have l2:=HLV.out.cell (i:=2) rfl
        have g3:=HGV.out.cell (i:=3) rfl
        have l3:=HLV.out.cell (i:=3) rfl
        have g4:=HGV.out.cell (i:=4) rfl
        have l4:=HLV.out.cell (i:=4) rfl
        have g5:=HGV.out.cell (i:=5) rfl
        have l5:=HLV.out.cell (i:=5) rfl
        have g6:=HGV.out.cell (i:=6) rfl
        have l6:=HLV.out.cell (i:=6) rfl
        go_wp2_with fail
        clear g0 l0 g1 l1 g2 l2 g3 l3 g4 l4 g5 l5 g6 l6 hV
        generalize hz:(yyq k.s).ecmp g=z
        have KZ:Hid ((yyq k.s).ecmp g=z):=hz
        clear hz
        refine(zbn (yyq k.s) g z KZ.out _).mono ?_
        rintro e w5 ⟨rfl,hb5⟩
        have HB5:=trh HBV hb5
        clear hb5
        by_cases hz0:z= -1
        · have HY:Hid (zbc k=true):=aheadB_iff.2 (.inr ⟨HAA.out,fun g' eg=>by rw [HGE.out]at eg;cases eg;rw [KZ.out];exact hz0⟩)
          have hdz:(z== -1)=true:=by simpa using hz0
          clear hz0
          go_wp2
          go_ret
          exact⟨ye8 HY.out.symm,HB5.out⟩
        · have HN:Hid (zbc k=false):=ywj (fun h=>by
            rcases aheadB_iff.1 h with h1|⟨_,h1⟩
            · exact HSN.out h1
            · exact hz0 (KZ.out.symm.trans (h1 g HGE.out)))
          have hdz:(z== -1)=false:=by rw [beq_eq_false_iff_ne];exact hz0
          clear hz0
          go_wp2
          go_ret
          exact⟨ye8 HN.out.symm,HB5.out⟩
end Go.Proofs.YtghndljgadpijaaGreat

