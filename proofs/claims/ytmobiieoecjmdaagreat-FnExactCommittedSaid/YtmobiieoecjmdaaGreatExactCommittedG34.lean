/- UnI, CmQ -/
import Derived.Test.YtmobiieoecjmdaaGreatExactCommittedG25
import Derived.Test.YtmobiieoecjmdaaGreatExactCommittedG33
/- The program's Undone. -/
namespace Go.Proofs.YtmobiieoecjmdaaGreat
open Go.RowKit
theorem kn_parts {k:Kn} (h:k.ok=true):∀i,i<k.p.length→(paAt k.p i).ok=true:=fun i hi=>(partI_iff.1 ((partsKB_iff.1 (kern_iff.1 h).2.2.2.2.2.1).2 i hi)).2.1
theorem kn_gvt {k:Kn} (h:k.ok=true):∀e,e∈gvtL k→e.ok=true:=gvt_ok2 (kern_iff.1 h).2.2.2.2.2.1 (kern_iff.1 h).2.2.2.2.2.2.1
theorem kn_gvtE {k:Kn} (h:k.ok=true) (g:Ev) (hg:gvtE k=some g):g.ok=true:=by
 have h2:(gvtL k).foldl stepE none=some g:=hg
 rcases minE_in (gvtL k) none g h2 with h3|h3
 ·cases h3
 ·exact kn_gvt h g h3
theorem tags_pw {k:Kn} (h:k.ok=true):(partsE k.p).Pairwise (fun a b=>a.g≠b.g):=by
 have h2:((allK k).map (·.g)).Nodup:=diffE_nodup.1 (kern_iff.1 h).2.2.2.2.2.2.2.1
 unfold allK at h2
 rw [List.map_append,List.nodup_append]at h2
 exact List.pairwise_map.1 h2.1
theorem pa_get {l:List Pa} {i:Nat} (h:i<l.length):l[i]=paAt l i:=(getD_at _ h).symm
theorem done_in {p:Pa} {a:Nat} (h:a<p.p.length):∃hh:a<p.all.length,p.all[a]=(psAt p.p a).e:=by
 have hl:a<p.all.length:=by rw [all_length];omega
 exact⟨hl,by rw [←all_done p h];exact(getD_at _ hl).symm⟩
theorem one_tag {k:Kn} (h:k.ok=true) {i j a b:Nat} (hi:i<k.p.length) (hj:j<k.p.length) (ha:a<(paAt k.p i).p.length) (hb:b<(paAt k.p j).p.length) (he:(psAt (paAt k.p i).p a).e.g=(psAt (paAt k.p j).p b).e.g):i=j∧a=b:=by
 obtain⟨h1,h2⟩:=List.pairwise_flatMap.1 (tags_pw h)
 rw [List.pairwise_iff_getElem]at h2
 obtain⟨qa,ea⟩:=done_in ha
 obtain⟨qb,eb⟩:=done_in hb
 have ma:(psAt (paAt k.p i).p a).e∈(paAt k.p i).all:=ea▸List.getElem_mem qa
 have mb:(psAt (paAt k.p j).p b).e∈(paAt k.p j).all:=eb▸List.getElem_mem qb
 rcases Nat.lt_trichotomy i j with hl|rfl|hl
 ·have h3:=h2 i j hi hj hl
  rw [pa_get hi,pa_get hj]at h3
  exact absurd he (h3 _ ma _ mb)
 ·refine⟨rfl,?_⟩
  have h4:=h1 (paAt k.p i) (by rw [←pa_get hi];exact List.getElem_mem hi)
  rw [List.pairwise_iff_getElem]at h4
  rcases Nat.lt_trichotomy a b with hl|rfl|hl
  ·have h5:=h4 a b qa qb hl
   rw [ea,eb]at h5
   exact absurd he h5
  ·rfl
  ·have h5:=h4 b a qb qa hl
   rw [ea,eb]at h5
   exact absurd he.symm h5
 ·have h3:=h2 j i hj hi hl
  rw [pa_get hi,pa_get hj]at h3
  exact absurd he.symm (h3 _ mb _ ma)
abbrev PP (k:Kn):Nat→List Ps:=fun i=>(paAt k.p i).p
abbrev ctK (k:Kn):Nat→Nat:=fun i=>cutN (gvtE k) (paAt k.p i).p
def comL (k:Kn):List Ps:=comR (PP k) k.p.length (gvtE k) (fun _=>0) (setL k k.p.length).length
theorem kn_asc {k:Kn} (h:k.ok=true):∀i,i<k.p.length→AscP (PP k i):=fun i hi=>asc_ok (kn_parts h i hi)
theorem kn_cut (k:Kn):∀i,i<k.p.length→CutO (gvtE k) (PP k i) (ctK k i):=fun _ _=>cutN_cut _ _
theorem comL_all {k:Kn} (h:k.ok=true):(comL k).Perm (setL k k.p.length)∧(comL k).Pairwise leP:=
 com_all (kn_asc h) (kn_cut k) _ (fun _=>0) (fun _ _=>Nat.zero_le _) (Nat.le_refl _)
theorem leP_anti {k:Kn} (h:k.ok=true) {x y:Ps} (hx:x∈setL k k.p.length) (hy:y∈setL k k.p.length) (h1:leP x y) (h2:leP y x):x=y:=by
 have hc:=kn_cut k
 obtain⟨i,a,hi,_,ha,rfl⟩:=rem_mem (fun i hi=>(hc i hi).le) hx
 obtain⟨j,b,hj,_,hb,rfl⟩:=rem_mem (fun i hi=>(hc i hi).le) hy
 have ha2:a<(paAt k.p i).p.length:=Nat.lt_of_lt_of_le ha (hc i hi).le
 have hb2:b<(paAt k.p j).p.length:=Nat.lt_of_lt_of_le hb (hc j hj).le
 have h1':¬(psAt (paAt k.p j).p b).e.cmp (psAt (paAt k.p i).p a).e<0:=h1
 have h2':¬(psAt (paAt k.p i).p a).e.cmp (psAt (paAt k.p j).p b).e<0:=h2
 rw [cmp_lt_iff]at h1' h2'
 obtain⟨rfl,rfl⟩:=one_tag h hi hj ha2 hb2 (by omega)
 rfl
theorem com_one {k:Kn} (h:k.ok=true) {L:List Ps} (hp:L.Perm (setL k k.p.length)) (hs:L.Pairwise leP):L=comL k:=by
 obtain⟨q1,q2⟩:=comL_all h
 exact List.Perm.eq_of_pairwise (fun a b ha hb=>leP_anti h (hp.subset ha) (q1.subset hb)) hs q2 (hp.trans q1.symm)
theorem com_step {P:Nat→List Ps} {n:Nat} {g:Option Ev} {ct nx:Nat→Nat} {f:Nat} (hasc:∀i,i<n→AscP (P i)) (hcut:∀i,i<n→CutO g (P i) (ct i)) (hnx:∀i,i<n→nx i≤ct i) (hf:(remL P ct nx n).length≤f) (hb:¬bestTo P nx n<0) (ha:aheadO g (hdE P nx (bestTo P nx n).toNat)=true):
  ∃f',f=f'+1∧comR P n g nx f=psAt (P (bestTo P nx n).toNat) (nx (bestTo P nx n).toNat)::comR P n g (upN nx (bestTo P nx n).toNat) f'∧(∀i,i<n→upN nx (bestTo P nx n).toNat i≤ct i)∧(remL P ct (upN nx (bestTo P nx n).toNat) n).length≤f':=by
 obtain⟨h0,h1,h2⟩:=best_spec P nx n
 obtain⟨k1,k2,k3⟩:=h2 (by omega)
 have hbc:nx (bestTo P nx n).toNat<ct (bestTo P nx n).toNat:=Nat.lt_of_not_le fun h=>by
  have:=(hcut _ k1).all (hasc _ k1) h k2
  unfold hdE at ha
  rw [this]at ha
  cases ha
 have hp:=(rem_head (P:=P) (ct:=ct) (nx:=nx) (hcut _ k1).le hbc k1).length_eq
 simp only [List.length_cons]at hp
 obtain⟨f',rfl⟩:∃f',f=f'+1:=⟨f-1,by omega⟩
 refine⟨f',rfl,?_,fun i hi=> ?_,by omega⟩
 ·rw [comR,if_neg hb,if_pos ha]
 ·unfold upN
  split
  ·next e=>rw [e];omega
  ·exact hnx i hi
theorem com_end {P:Nat→List Ps} {n:Nat} {g:Option Ev} {nx:Nat→Nat} {f:Nat} (h:bestTo P nx n<0∨ ¬aheadO g (hdE P nx (bestTo P nx n).toNat)=true):comR P n g nx f= []:=by
 cases f with
 |zero=>rfl
 |succ f=>
  rw [comR]
  rcases h with h|h
  ·rw [if_pos h]
  ·split
   ·rfl
   ·rfl
end Go.Proofs.YtmobiieoecjmdaaGreat

