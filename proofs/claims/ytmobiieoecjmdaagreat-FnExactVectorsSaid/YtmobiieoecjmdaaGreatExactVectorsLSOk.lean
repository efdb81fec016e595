/- Both StateOk. -/
import Derived.Test.YtmobiieoecjmdaaGreatExactVectorsG04
import Derived.Test.YtmobiieoecjmdaaGreatExactVectorsG03
namespace Go.Proofs.YtmobiieoecjmdaaGreat
set_option maxHeartbeats 4000000
set_option maxRecDepth 100000
open Go.RowKit
def inB (x:Int):Bool:=decide (0≤x∧x≤999)
def St.ok (s:St):Bool:=decide (s.r.length=2∧(0≤intAt s.r 0∧intAt s.r 0≤999)∧(0≤intAt s.r 1∧intAt s.r 1≤999)∧0≤s.q∧s.q≤99992∧0≤s.d∧s.d≤99992)
theorem sStOk (x:Value) (s:St) (w:World) (h:IsS w x s):
  Calls Tryz.prog 186 #[x] w fun e w'=>e= .returned (.bool s.ok)∧Below w.heap.size w w':=by
 obtain⟨vr,rfl,ai,ci,rfl,hi1,hi2,hi3⟩:=h
 clear hi1 hi2
 obtain⟨W0,hW0⟩:∃W0,w.alloc (.cells #[.slice ai s.r.length ci,.int .i64 s.q,.int .i64 s.d] 94)=W0:=⟨_,rfl⟩
 have HB0:Hid (Below w.heap.size w W0):=by rw [←hW0];exact(Below.refl _ w).alloc (Nat.le_refl _) _
 have HP0:Bk W0 w.heap.size 94 #[.slice ai s.r.length ci,.int .i64 s.q,.int .i64 s.d]:=by rw [←hW0];exact Bk.new w _ _
 have p0:=HP0.cell (i:=0) rfl
 have p1:=HP0.cell (i:=1) rfl
 have p2:=HP0.cell (i:=2) rfl
 clear HP0
 by_cases c0:s.r.length=2
 case neg=>
  have c1:¬((s.r.length:Int)=2):=by omega
  clear hi3
  go_enter Tryz.func186,Tryz.ntmps186
  go_wp2
  go_ret
  exact⟨ya1 (by simp [St.ok,c0]),HB0.out⟩
 obtain⟨b,off,rfl,hb,hc⟩:=hi3.resolve_left (by intro e;rw [e]at c0;simp at c0)
 have f0:W0.cell? ⟨b,off,none⟩=some (.int .i64 (intAt s.r 0)):=(HB0.out.cell (p:=⟨b,off,none⟩) hb).trans (hc 0 (by omega))
 have f1:W0.cell? ⟨b,off+1,none⟩=some (.int .i64 (intAt s.r 1)):=(HB0.out.cell (p:=⟨b,off+1,none⟩) hb).trans (hc 1 (by omega))
 have hok:s.ok=decide ((0≤intAt s.r 0∧intAt s.r 0≤999)∧(0≤intAt s.r 1∧intAt s.r 1≤999)∧0≤s.q∧s.q≤99992∧0≤s.d∧s.d≤99992):=by simp [St.ok,c0]
 have HOK:Hid (s.ok=decide ((0≤intAt s.r 0∧intAt s.r 0≤999)∧(0≤intAt s.r 1∧intAt s.r 1≤999)∧0≤s.q∧s.q≤99992∧0≤s.d∧s.d≤99992)):=hok
 rw [c0]at hW0 p0⊢
 generalize s.ok=okv at HOK⊢
 generalize intAt s.r 0=y at f0 HOK
 generalize intAt s.r 1=z at f1 HOK
 generalize s.q=q at hW0 p1 HOK⊢
 generalize s.d=d at hW0 p2 HOK⊢
 clear hc hb hok c0
 go_enter Tryz.func186,Tryz.ntmps186
 go_wp2
 all_goals
  go_ret
  refine⟨?_,HB0.out⟩
  rw [HOK.out]
  first|exact ya1 (decide_eq_decide.2 (by omega))|exact ya1 (decide_eq_false (by omega)).symm|exact ya1 (by simp;omega)
theorem iStOk (x:Value) (s:St) (w:World) (h:IsS w x s):
  Calls Tryz.prog 194 #[x] w fun e w'=>e= .returned (.bool s.ok)∧Below w.heap.size w w':=by
 obtain⟨vr,rfl,ai,ci,rfl,hi1,hi2,hi3⟩:=h
 clear hi1 hi2
 obtain⟨W0,hW0⟩:∃W0,w.alloc (.cells #[.slice ai s.r.length ci,.int .i64 s.q,.int .i64 s.d] 94)=W0:=⟨_,rfl⟩
 have HB0:Hid (Below w.heap.size w W0):=by rw [←hW0];exact(Below.refl _ w).alloc (Nat.le_refl _) _
 have HP0:Bk W0 w.heap.size 94 #[.slice ai s.r.length ci,.int .i64 s.q,.int .i64 s.d]:=by rw [←hW0];exact Bk.new w _ _
 have p0:=HP0.cell (i:=0) rfl
 have p1:=HP0.cell (i:=1) rfl
 have p2:=HP0.cell (i:=2) rfl
 clear HP0
 by_cases c0:s.r.length=2
 case neg=>
  have c1:¬((s.r.length:Int)=2):=by omega
  clear hi3
  go_enter Tryz.func194,Tryz.ntmps194
  go_wp2
  go_ret
  exact⟨ya1 (by simp [St.ok,c0]),HB0.out⟩
 obtain⟨b,off,rfl,hb,hc⟩:=hi3.resolve_left (by intro e;rw [e]at c0;simp at c0)
 have HC:Hid (∀k,k<2→W0.cell? ⟨b,off+k,none⟩=some (.int .i64 (intAt s.r k))):=fun k hk=>(HB0.out.cell (p:=⟨b,off+k,none⟩) hb).trans (hc k (by omega))
 have HOK:Hid (s.ok=decide ((0≤intAt s.r 0∧intAt s.r 0≤999)∧(0≤intAt s.r 1∧intAt s.r 1≤999)∧0≤s.q∧s.q≤99992∧0≤s.d∧s.d≤99992)):=(by simp [St.ok,c0]:s.ok=_)
 have HNO:Hid (∀k,k<2→inB (intAt s.r k)=false→s.ok=false):=(by
  intro k hk h
  unfold inB at h
  have hd:=of_decide_eq_false h
  simp only [St.ok,decide_eq_false_iff_not]
  intro hh
  match k,hk with
  |0,_=>exact hd hh.2.1
  |1,_=>exact hd hh.2.2.1:∀k,k<2→inB (intAt s.r k)=false→s.ok=false)
 have HYES:Hid ((∀j,j<2→inB (intAt s.r j)=true)→s.ok=((decide (0≤s.q)&&decide (s.q≤99992))&&(decide (0≤s.d)&&decide (s.d≤99992)))):=(by
  intro h
  have h0:=of_decide_eq_true (h 0 (by omega))
  have h1:=of_decide_eq_true (h 1 (by omega))
  simp [St.ok,c0,h0,h1,Bool.decide_and,Bool.and_assoc]:_)
 rw [c0]at hW0 p0⊢
 generalize s.ok=okv at HOK HNO HYES⊢
 generalize s.q=q at hW0 p1 HOK HYES⊢
 generalize s.d=d at hW0 p2 HOK HYES⊢
 clear hc hb c0 HOK
 go_enter Tryz.func194,Tryz.ntmps194
 go_wp2
 clear hW0
 go_loop [12] (fun i=>∃k:Nat,k≤2∧i= .int .i64 k∧ ∀j,j<k→inB (intAt s.r j)=true) (fun i=>2-(intOf i).toNat)
 case atStart=>exact⟨0,Nat.zero_le _,rfl,fun j hj=>by omega⟩
 case round=>
  obtain⟨k,hk,rfl,hall⟩:=hrel
  have HA:Hid (∀j,j<k→inB (intAt s.r j)=true):=hall
  clear hall
  by_cases hlt:k<2
  ·have f0:=HC.out k hlt
   obtain⟨y,hy⟩:∃y,y=intAt s.r k:=⟨_,rfl⟩
   have HY:Hid (y=intAt s.r k):=hy
   rw [←hy]at f0
   have hkn:(k:Int)<2:=by omega
   clear hy
   go_wp2_with fail
   refine(yab _ _ _ _).mono ?_
   rintro e w2 ⟨rfl,hw⟩
   have hw':=hw.symm
   clear hw
   subst hw'
   by_cases y0:0≤y∧y≤999
   ·rw [show(decide (0≤y)&&decide (y≤999))=true from by simp [y0]]
    have HN:Hid (inB y=true):=decide_eq_true y0
    clear y0
    go_wp2
    go_round
    case rel=>exact⟨k+1,by omega,by go_num,fun j hj=>by
     by_cases e:j<k
     ·exact HA.out j e
     ·rw [show j=k by omega,←HY.out];exact HN.out⟩
    case measure=>simp [intOf];omega
   ·rw [show(decide (0≤y)&&decide (y≤999))=false from by simp;omega]
    have hno:okv=false:=HNO.out k hlt (by rw [←HY.out];exact decide_eq_false y0)
    subst hno
    clear y0
    go_wp2
    go_ret
    exact⟨rfl,HB0.out⟩
  ·have hyes:=HYES.out (fun j hj=>HA.out j (by omega))
   subst hyes
   have hkn:¬(k:Int)<2:=by omega
   go_wp2_with fail
   refine(yab _ _ _ _).mono ?_
   rintro e w2 ⟨rfl,hw⟩
   have hw':=hw.symm
   clear hw
   subst hw'
   cases hq:(decide (0≤q)&&decide (q≤99992))with
   |false=>
    have HQ:Hid ((decide (0≤q)&&decide (q≤99992))=false):=hq
    clear hq
    go_wp2
    go_ret
    exact⟨ya1 (by rw [HQ.out];rfl),HB0.out⟩
   |true=>
    have HQ:Hid ((decide (0≤q)&&decide (q≤99992))=true):=hq
    clear hq
    go_wp2_with fail
    refine(yab _ _ _ _).mono ?_
    rintro e w2 ⟨rfl,hw⟩
    have hw':=hw.symm
    clear hw
    subst hw'
    go_wp2
    go_ret
    exact⟨ya1 (by rw [HQ.out];rfl),HB0.out⟩
end Go.Proofs.YtmobiieoecjmdaaGreat
