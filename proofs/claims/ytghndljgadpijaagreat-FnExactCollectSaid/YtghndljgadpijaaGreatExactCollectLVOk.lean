/- Vectors: VectorOk of both sides, and the program's vectorOf. -/
import Derived.Test.YtghndljgadpijaaGreatExactCollectG21
import Derived.Test.YtghndljgadpijaaGreatExactCollectG01
namespace Go.Proofs.YtghndljgadpijaaGreat
open Go.RowKit
theorem zon {p:Prop} (h:p):Hid p:=h
theorem zof {l:List Int} {k:Nat} (h:k<l.length):intAt l k∈l:=by
  unfold intAt;rw [List.getD_eq_getElem?_getD,List.getElem?_eq_getElem h];exact List.getElem_mem h
theorem vok_no {l:List Int} {k:Nat} (hk:k<l.length) (h:intAt l k< -1∨1<intAt l k):vok l=false:=by
  have hm:=zof hk
  have:l.all zo7=false:=by
    rw [List.all_eq_false]
    exact⟨_,hm,by simp only [numOk_iff];omega⟩
  simp [vok,this]
theorem zmz {l:List Int} (h:∀j,j<l.length→ -1≤intAt l j∧intAt l j≤1):vok l=decide (l.length=4):=by
  have:l.all zo7=true:=by
    rw [List.all_eq_true]
    intro x hx
    obtain⟨i,hi,rfl⟩:=List.getElem_of_mem hx
    have:=h i hi
    unfold intAt at this
    rw [List.getD_eq_getElem?_getD,List.getElem?_eq_getElem hi]at this
    exact numOk_iff.2 this
  simp [vok,this]
set_option maxHeartbeats 1000000 in
theorem sVok_any (x:Value) (l:List Int) (w:World) (hl:l.length≤4611686018427387904) (h:IsI w x l):
    Calls Tryz.prog 100 #[x] w fun e w'=>e= .returned (.bool (vok l))∧w'=w:=by
  obtain⟨a,cap,rfl,h1,h2,h⟩:=h
  clear h1 h2
  by_cases hz:l= []
  · subst hz
    clear h
    go_enter Tryz.func100,Tryz.ntmps100
    go_wp2
    go_loop [3] (fun i=>i= .int .i64 0) (fun _=>0)
    case atStart=>rfl
    case round=>
      subst hrel
      go_wp2
      go_ret
      exact⟨ye8 rfl,rfl⟩
  · obtain⟨b,off,rfl,hb,hc⟩:=h.resolve_left hz
    clear h hz
    go_enter Tryz.func100,Tryz.ntmps100
    go_wp2
    go_loop [3] (fun i=>∃k:Nat,k≤l.length∧i= .int .i64 k∧ ∀j,j<k→ -1≤intAt l j∧intAt l j≤1) (fun i=>l.length-(intOf i).toNat)
    case atStart=>exact⟨0,Nat.zero_le _,rfl,fun j hj=>by omega⟩
    case round=>
      obtain⟨k,hk,rfl,hall⟩:=hrel
      have HA:=zon hall
      clear hall
      by_cases hlt:k<l.length
      · have f0:=hc k hlt
        have HN:=zon (vok_no hlt)
        obtain⟨z,hz⟩:∃z,z=intAt l k:=⟨_,rfl⟩
        rw [←hz]at f0 HN
        have HZ:Hid (z=intAt l k):=hz
        clear hc hz
        by_cases hz1:z< -1
        · go_wp2
          go_ret
          exact⟨ye8 (HN.out (.inl hz1)).symm,rfl⟩
        · by_cases hz2:1<z
          · go_wp2
            go_ret
            exact⟨ye8 (HN.out (.inr hz2)).symm,rfl⟩
          · go_wp2
            go_round
            case rel=>exact⟨k+1,by omega,by go_num,fun j hj=>by
              by_cases e:j<k
              · exact HA.out j e
              · rw [show j=k by omega,←HZ.out];omega⟩
            case measure=>simp [intOf];omega
      · clear hc
        obtain rfl:k=l.length:=by omega
        have HV:=zon (zmz HA.out)
        go_wp2
        go_ret
        refine⟨ye8 ?_,rfl⟩
        rw [HV.out]
        by_cases e:l.length=4
        · simp [e]
        · have e2:¬(l.length:Int)=4:=by omega
          simp [e,e2]
end Go.Proofs.YtghndljgadpijaaGreat
