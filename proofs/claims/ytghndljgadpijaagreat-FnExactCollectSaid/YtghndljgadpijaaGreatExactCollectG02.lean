/- MMark, MSz, MMarkH, MToH, MEq, Eqs -/
import Derived.Test.YtghndljgadpijaaGreatExactCollectG01
import Derived.Deep.RegionHeld3
/- markIntS, markOpS, markEventS from any number on; heldIntS, heldOpS, heldEventS. -/
namespace Go.Proofs.YtghndljgadpijaaGreat
set_option maxHeartbeats 4000000
open Go.RowKit
theorem yys {p:Prop} (h:p):Hid p:=h
def yxe (z:Int) (n:Nat):List Value:=(List.range n).map fun i:Nat=> .int .i64 (z+(i:Int))
theorem yzp (z:Int) (n:Nat):(yxe z n).length=n:=by simp [yxe]
theorem zb0 {z:Int} {n i:Nat} (h:i<n):(yxe z n)[i]? =some (.int .i64 (z+(i:Int))):=by simp [yxe,h]
def MkTo (w:World) (g N:Nat) (z:Int) (k:Nat):Prop:=g<w.heap.size∧(∀j,j<N→(w.cell? ⟨g,j,none⟩).isSome=true∧w.frozen? ⟨g,j,none⟩=false)∧ ∀i,i<k→w.cell? ⟨g,i,none⟩=some (.int .i64 (z+(i:Int)))
theorem MkTo.put {w:World} {g N k:Nat} {z:Int} (h:MkTo w g N z k) (hk:k<N) {u:Int} (hu:u=z+(k:Int)):MkTo (w.setCell ⟨g,k,none⟩ (.int .i64 u)) g N z (k+1):=by
  subst hu
  have e1:w.setCell ⟨g,k,none⟩ (.int .i64 (z+(k:Int)))=w.setCells g k [.int .i64 (z+(k:Int))]:=rfl
  have hsame:∀j,j≠k→(w.setCell ⟨g,k,none⟩ (.int .i64 (z+(k:Int)))).cell? ⟨g,j,none⟩=w.cell? ⟨g,j,none⟩:=fun j hj=>by
    rw [e1]
    exact World.cell?_setCells_out g _ k w ⟨g,j,none⟩ (fun _ _=>by simp;omega)
  have hat:(w.setCell ⟨g,k,none⟩ (.int .i64 (z+(k:Int)))).cell? ⟨g,k,none⟩=some (.int .i64 (z+(k:Int))):=by
    rw [e1]
    have h0:=World.cell?_setCells_in g [.int .i64 (z+(k:Int))] k w (fun j hj=>by
      obtain rfl:j=0:=by simpa using hj
      exact(h.2.1 k hk).1) 0 (by simp)
    simpa using h0
  refine⟨by simpa using h.1,fun j hj=>⟨?_,?_⟩,fun i hi=> ?_⟩
  · by_cases e:j=k
    · subst e;rw [hat];rfl
    · rw [hsame j e];exact(h.2.1 j hj).1
  · rw [e1,World.frozen?_setCells];exact(h.2.1 j hj).2
  · by_cases e:i=k
    · subst e;exact hat
    · rw [hsame i e];exact h.2.2 i (by omega)
theorem RowF.mkTo {F:Nat→Prop} {w:World} {x:Value} {n c:Nat} {cs:List Value} (h:RowF F w x n c cs) (z:Int):∃a cap,x= .slice a n cap∧n≤cap∧cap≤maxLen∧(n=0∨ ∃g,a=some ⟨g,0,none⟩∧F g∧MkTo w g (n*c) z 0):=by
  obtain⟨hl,a,cap,rfl,h1,h2,h⟩:=h
  refine⟨a,cap,rfl,h1,h2,h.imp id ?_⟩
  rintro ⟨g,rfl,hF,hg,hc⟩
  refine⟨g,rfl,hF,hg,fun j hj=>⟨?_,(hc j hj).2⟩,fun i hi=>by omega⟩
  rw [(hc j hj).1,List.getElem?_eq_getElem (by omega)]
  rfl
theorem MkTo.row {F:Nat→Prop} {w:World} {g n c cap:Nat} {z:Int} (h:MkTo w g (n*c) z (n*c)) (hF:F g) (h1:n≤cap) (h2:cap≤maxLen):RowF F w (.slice (some ⟨g,0,none⟩) n cap) n c (yxe z (n*c)):=
  ⟨yzp _ _,_,cap,rfl,h1,h2,.inr ⟨g,rfl,hF,h.1,fun j hj=>⟨by rw [zb0 hj];exact h.2.2 j hj,(h.2.1 j hj).2⟩⟩⟩
theorem RowF.nil {F:Nat→Prop} {w:World} {a:Option Addr} {cap c:Nat} {z:Int} (h2:cap≤maxLen):RowF F w (.slice a 0 cap) 0 c (yxe z (0*c)):=
  ⟨by simp [yxe],a,cap,rfl,Nat.zero_le _,h2,.inl rfl⟩
theorem RowF.marked {F:Nat→Prop} {w:World} {x:Value} {n c:Nat} {z:Int} (h:RowF F w x n c (yxe z (n*c))):∃a cap,x= .slice a n cap∧(n=0∨ ∃g,a=some ⟨g,0,none⟩∧ ∀j,j<n*c→w.cell? ⟨g,j,none⟩=some (.int .i64 (z+(j:Int)))):=by
  obtain⟨hl,a,cap,rfl,h1,h2,h⟩:=h
  refine⟨a,cap,rfl,h.imp id ?_⟩
  rintro ⟨g,rfl,hF,hg,hc⟩
  exact⟨g,rfl,fun j hj=>by rw [(hc j hj).1,zb0 hj]⟩
theorem yyj (w:World) (g o:Nat) (u:Value):Turns (fun b=>b=g) w (w.setCell ⟨g,o,none⟩ u):=(Turns.refl (fun b=>b=g) w).setCell (p:=⟨g,o,none⟩) rfl _
theorem markIF {F:Nat→Prop} {x:Value} {n:Nat} {cs:List Value} {w:World} (z:Int) (hn:n≤1048577) (hz0:0≤z) (hz1:z≤1073741824) (h:RowF F w x n 1 cs):
    Calls Tryz.prog 59 #[x,.int .i64 z] w fun e w'=>e= .returned (.int .i64 (z+(n:Int)))∧RowF F w' x n 1 (yxe z (n*1))∧Turns F w w':=by
  obtain⟨a,cap,rfl,h1,h2,h⟩:=h.mkTo z
  have HM:Hid (n≤cap∧cap≤maxLen):=⟨h1,h2⟩
  clear h1 h2
  by_cases hz:n=0
  · subst hz
    clear h
    go_enter Tryz.func59,Tryz.ntmps59
    go_wp2
    go_loop [5,1] (fun i y=>i= .int .i64 0∧y= .int .i64 z) (fun _ _=>0)
    case atStart=>exact⟨rfl,rfl⟩
    case round=>
      obtain⟨rfl,rfl⟩:=hrel
      go_wp2
      go_ret
      exact⟨ywz (by simp),RowF.nil HM.out.2,Turns.refl _ _⟩
  · obtain⟨g,rfl,hF,h⟩:=h.resolve_left hz
    have HR0:Hid (MkTo w g n z 0):=by rw [Nat.mul_one]at h;exact h
    have HF:Hid (F g):=hF
    clear h hz hF
    go_enter Tryz.func59,Tryz.ntmps59
    go_wp2
    go_loopw [5,1] (fun i y wr=>∃k:Nat,k≤n∧i= .int .i64 k∧y= .int .i64 (z+(k:Int))∧MkTo wr g n z k∧Turns (fun b=>b=g) w wr) (fun i _ _=>n-(intOf i).toNat)
    case atStart=>exact⟨0,Nat.zero_le _,rfl,by simp,HR0.out,Turns.refl _ _⟩
    case round=>
      obtain⟨k,hk,rfl,rfl,hR,hg⟩:=hrel
      have HR:Hid (MkTo wr g n z k):=hR
      have HG:=yys hg
      clear hR hg
      by_cases hlt:k<n
      · obtain⟨v,hv⟩:=Option.isSome_iff_exists.1 (HR.out.2.1 k hlt).1
        have hf:=(HR.out.2.1 k hlt).2
        obtain⟨y,hy⟩:∃y:Int,y=z+(k:Int):=⟨_,rfl⟩
        have hy0:0≤y:=by omega
        have hy1:y≤1075000000:=by omega
        have HY:Hid (y=z+(k:Int)):=hy
        rw [←hy]
        clear hy
        go_wp2
        go_roundw
        case rel=>exact⟨k+1,by omega,by go_num,by rw [show y+1=z+((k+1:Nat):Int)from by have:=HY.out;omega],HR.out.put hlt HY.out,HG.out.trans (yyj _ _ _ _)⟩
        case measure=>simp [intOf];omega
      · go_wp2
        go_ret
        obtain rfl:k=n:=by omega
        exact⟨rfl,MkTo.row (by rw [Nat.mul_one];exact HR.out) HF.out HM.out.1 HM.out.2,HG.out.mono (fun k e=>e▸HF.out)⟩
theorem heldIF {F:Nat→Prop} {x:Value} {n:Nat} {w:World} (z:Int) (hn:n≤1048577) (hz0:0≤z) (hz1:z≤1073741824) (h:RowF F w x n 1 (yxe z (n*1))):
    Calls Tryz.prog 65 #[x,.int .i64 z] w fun e w'=>e= .returned (.int .i64 (z+(n:Int)))∧w'=w:=by
  obtain⟨a,cap,rfl,hm⟩:=h.marked
  clear h
  by_cases hz:n=0
  · subst hz
    clear hm
    go_enter Tryz.func65,Tryz.ntmps65
    go_wp2
    go_loop [5,1] (fun i y=>i= .int .i64 0∧y= .int .i64 z) (fun _ _=>0)
    case atStart=>exact⟨rfl,rfl⟩
    case round=>
      obtain⟨rfl,rfl⟩:=hrel
      go_wp2
      go_ret
      exact⟨ywz (by simp),rfl⟩
  · obtain⟨g,rfl,h⟩:=hm.resolve_left hz
    have HR:=yys h
    clear h hz hm
    go_enter Tryz.func65,Tryz.ntmps65
    go_wp2
    go_loop [5,1] (fun i y=>∃k:Nat,k≤n∧i= .int .i64 k∧y= .int .i64 (z+(k:Int))) (fun i _=>n-(intOf i).toNat)
    case atStart=>exact⟨0,Nat.zero_le _,rfl,by simp⟩
    case round=>
      obtain⟨k,hk,rfl,rfl⟩:=hrel
      by_cases hlt:k<n
      · have hev:=HR.out k (by omega)
        obtain⟨y,hy⟩:∃y:Int,y=z+(k:Int):=⟨_,rfl⟩
        have hy0:0≤y:=by omega
        have hy1:y≤1075000000:=by omega
        have HY:Hid (y=z+(k:Int)):=hy
        rw [←hy]at hev⊢
        clear hy
        go_wp2
        go_round
        case rel=>exact⟨k+1,by omega,by go_num,by rw [show y+1=z+((k+1:Nat):Int)from by have:=HY.out;omega]⟩
        case measure=>simp [intOf];omega
      · go_wp2
        go_ret
        obtain rfl:k=n:=by omega
        exact⟨rfl,rfl⟩
theorem markOF {F:Nat→Prop} {x:Value} {n:Nat} {cs:List Value} {w:World} (z:Int) (hn:n≤1048577) (hz0:0≤z) (hz1:z≤1073741824) (h:RowF F w x n 4 cs):
    Calls Tryz.prog 207 #[x,.int .i64 z] w fun e w'=>e= .returned (.int .i64 (z+4*(n:Int)))∧RowF F w' x n 4 (yxe z (n*4))∧Turns F w w':=by
  obtain⟨a,cap,rfl,h1,h2,h⟩:=h.mkTo z
  have HM:Hid (n≤cap∧cap≤maxLen):=⟨h1,h2⟩
  clear h1 h2
  by_cases hz:n=0
  · subst hz
    clear h
    go_enter Tryz.func207,Tryz.ntmps207
    go_wp2
    go_loop [5,1] (fun i y=>i= .int .i64 0∧y= .int .i64 z) (fun _ _=>0)
    case atStart=>exact⟨rfl,rfl⟩
    case round=>
      obtain⟨rfl,rfl⟩:=hrel
      go_wp2
      go_ret
      exact⟨ywz (by simp),RowF.nil HM.out.2,Turns.refl _ _⟩
  · obtain⟨g,rfl,hF,h⟩:=h.resolve_left hz
    have HR0:=yys h
    have HF:Hid (F g):=hF
    clear h hz hF
    go_enter Tryz.func207,Tryz.ntmps207
    go_wp2
    go_loopw [5,1] (fun i y wr=>∃k:Nat,k≤n∧i= .int .i64 k∧y= .int .i64 (z+4*(k:Int))∧MkTo wr g (n*4) z (k*4)∧Turns (fun b=>b=g) w wr) (fun i _ _=>n-(intOf i).toNat)
    case atStart=>exact⟨0,Nat.zero_le _,rfl,by simp,by rw [Nat.zero_mul];exact HR0.out,Turns.refl _ _⟩
    case round=>
      obtain⟨k,hk,rfl,rfl,hR,hg⟩:=hrel
      have HR:=yys hR
      have HG:=yys hg
      clear hR hg
      by_cases hlt:k<n
      · have hh:∀j,j<4→(∃u,wr.cell? ⟨g,k*4+j,none⟩=some u)∧wr.frozen? ⟨g,k*4+j,none⟩=false:=fun j hj=>⟨Option.isSome_iff_exists.1 (HR.out.2.1 _ (by omega)).1,(HR.out.2.1 _ (by omega)).2⟩
        obtain⟨⟨v0,g0⟩,f0⟩:=hh 0 (by omega)
        obtain⟨⟨v1,g1⟩,f1⟩:=hh 1 (by omega)
        obtain⟨⟨v2,g2⟩,f2⟩:=hh 2 (by omega)
        obtain⟨⟨v3,g3⟩,f3⟩:=hh 3 (by omega)
        rw [Nat.add_zero]at g0 f0
        clear hh
        obtain⟨y,hy⟩:∃y:Int,y=z+4*(k:Int):=⟨_,rfl⟩
        have hy0:0≤y:=by omega
        have hy1:y≤1090000000:=by omega
        have HY:=yys hy
        rw [←hy]
        clear hy
        go_wp2
        go_roundw
        case rel=>
          have hY:=HY.out
          refine⟨k+1,by omega,by go_num,by rw [show y+1+1+1+1=z+4*((k+1:Nat):Int)from by omega],?_,?_⟩
          · rw [show(k+1)*4=k*4+4 from by omega]
            exact(((HR.out.put (by omega) (u:=y) (by omega)).put (by omega) (u:=y+1) (by omega)).put (by omega) (u:=y+1+1) (by omega)).put (by omega) (u:=y+1+1+1) (by omega)
          · exact HG.out.trans ((((yyj wr g _ _).trans (yyj _ _ _ _)).trans (yyj _ _ _ _)).trans (yyj _ _ _ _))
        case measure=>simp [intOf];omega
      · go_wp2
        go_ret
        obtain rfl:k=n:=by omega
        exact⟨rfl,MkTo.row HR.out HF.out HM.out.1 HM.out.2,HG.out.mono (fun k e=>e▸HF.out)⟩
theorem heldOF {F:Nat→Prop} {x:Value} {n:Nat} {w:World} (z:Int) (hn:n≤1048577) (hz0:0≤z) (hz1:z≤1073741824) (h:RowF F w x n 4 (yxe z (n*4))):
    Calls Tryz.prog 208 #[x,.int .i64 z] w fun e w'=>e= .returned (.int .i64 (z+4*(n:Int)))∧w'=w:=by
  obtain⟨a,cap,rfl,hm⟩:=h.marked
  clear h
  by_cases hz:n=0
  · subst hz
    clear hm
    go_enter Tryz.func208,Tryz.ntmps208
    go_wp2
    go_loop [5,1] (fun i y=>i= .int .i64 0∧y= .int .i64 z) (fun _ _=>0)
    case atStart=>exact⟨rfl,rfl⟩
    case round=>
      obtain⟨rfl,rfl⟩:=hrel
      go_wp2
      go_ret
      exact⟨ywz (by simp),rfl⟩
  · obtain⟨g,rfl,h⟩:=hm.resolve_left hz
    have HR:=yys h
    clear h hz hm
    go_enter Tryz.func208,Tryz.ntmps208
    go_wp2
    go_loop [5,1] (fun i y=>∃k:Nat,k≤n∧i= .int .i64 k∧y= .int .i64 (z+4*(k:Int))) (fun i _=>n-(intOf i).toNat)
    case atStart=>exact⟨0,Nat.zero_le _,rfl,by simp⟩
    case round=>
      obtain⟨k,hk,rfl,rfl⟩:=hrel
      by_cases hlt:k<n
      · have hh:=fun j (hj:j<4)=>HR.out (k*4+j) (by omega)
        obtain⟨y,hy⟩:∃y:Int,y=z+4*(k:Int):=⟨_,rfl⟩
        have g0:=hh 0 (by omega)
        rw [show z+((k*4+0:Nat):Int)=y from by omega]at g0
        have g1:=hh 1 (by omega)
        rw [show z+((k*4+1:Nat):Int)=y+1 from by omega]at g1
        have g2:=hh 2 (by omega)
        rw [show z+((k*4+2:Nat):Int)=y+1+1 from by omega]at g2
        have g3:=hh 3 (by omega)
        rw [show z+((k*4+3:Nat):Int)=y+1+1+1 from by omega]at g3
        rw [Nat.add_zero]at g0
        clear hh
        have hy0:0≤y:=by omega
        have hy1:y≤1090000000:=by omega
        have HY:=yys hy
        rw [←hy]
        clear hy
        go_wp2
        go_round
        case rel=>exact⟨k+1,by omega,by go_num,by rw [show y+1+1+1+1=z+4*((k+1:Nat):Int)from by have:=HY.out;omega]⟩
        case measure=>simp [intOf];omega
      · go_wp2
        go_ret
        obtain rfl:k=n:=by omega
        exact⟨rfl,rfl⟩
theorem markEF {F:Nat→Prop} {x:Value} {n:Nat} {cs:List Value} {w:World} (z:Int) (hn:n≤1048577) (hz0:0≤z) (hz1:z≤1073741824) (h:RowF F w x n 7 cs):
    Calls Tryz.prog 62 #[x,.int .i64 z] w fun e w'=>e= .returned (.int .i64 (z+7*(n:Int)))∧RowF F w' x n 7 (yxe z (n*7))∧Turns F w w':=by
  obtain⟨a,cap,rfl,h1,h2,h⟩:=h.mkTo z
  have HM:Hid (n≤cap∧cap≤maxLen):=⟨h1,h2⟩
  clear h1 h2
  by_cases hz:n=0
  · subst hz
    clear h
    go_enter Tryz.func62,Tryz.ntmps62
    go_wp2
    go_loop [5,1] (fun i y=>i= .int .i64 0∧y= .int .i64 z) (fun _ _=>0)
    case atStart=>exact⟨rfl,rfl⟩
    case round=>
      obtain⟨rfl,rfl⟩:=hrel
      go_wp2
      go_ret
      exact⟨ywz (by simp),RowF.nil HM.out.2,Turns.refl _ _⟩
  · obtain⟨g,rfl,hF,h⟩:=h.resolve_left hz
    have HR0:=yys h
    have HF:Hid (F g):=hF
    clear h hz hF
    go_enter Tryz.func62,Tryz.ntmps62
    go_wp2
    go_loopw [5,1] (fun i y wr=>∃k:Nat,k≤n∧i= .int .i64 k∧y= .int .i64 (z+7*(k:Int))∧MkTo wr g (n*7) z (k*7)∧Turns (fun b=>b=g) w wr) (fun i _ _=>n-(intOf i).toNat)
    case atStart=>exact⟨0,Nat.zero_le _,rfl,by simp,by rw [Nat.zero_mul];exact HR0.out,Turns.refl _ _⟩
    case round=>
      obtain⟨k,hk,rfl,rfl,hR,hg⟩:=hrel
      have HR:=yys hR
      have HG:=yys hg
      clear hR hg
      by_cases hlt:k<n
      · have hh:∀j,j<7→(∃u,wr.cell? ⟨g,k*7+j,none⟩=some u)∧wr.frozen? ⟨g,k*7+j,none⟩=false:=fun j hj=>⟨Option.isSome_iff_exists.1 (HR.out.2.1 _ (by omega)).1,(HR.out.2.1 _ (by omega)).2⟩
        obtain⟨⟨v0,g0⟩,f0⟩:=hh 0 (by omega)
        obtain⟨⟨v1,g1⟩,f1⟩:=hh 1 (by omega)
        obtain⟨⟨v2,g2⟩,f2⟩:=hh 2 (by omega)
        obtain⟨⟨v3,g3⟩,f3⟩:=hh 3 (by omega)
        obtain⟨⟨v4,g4⟩,f4⟩:=hh 4 (by omega)
        obtain⟨⟨v5,g5⟩,f5⟩:=hh 5 (by omega)
        obtain⟨⟨v6,g6⟩,f6⟩:=hh 6 (by omega)
        rw [Nat.add_zero]at g0 f0
        clear hh
        obtain⟨y,hy⟩:∃y:Int,y=z+7*(k:Int):=⟨_,rfl⟩
        have hy0:0≤y:=by omega
        have hy1:y≤1090000000:=by omega
        have HY:=yys hy
        rw [←hy]
        clear hy
        go_wp2
        go_roundw
        case rel=>
          have hY:=HY.out
          refine⟨k+1,by omega,by go_num,by rw [show y+1+1+1+1+1+1+1=z+7*((k+1:Nat):Int)from by omega],?_,?_⟩
          · rw [show(k+1)*7=k*7+7 from by omega]
            exact((((((HR.out.put (by omega) (u:=y) (by omega)).put (by omega) (u:=y+1) (by omega)).put (by omega) (u:=y+1+1) (by omega)).put (by omega) (u:=y+1+1+1) (by omega)).put (by omega) (u:=y+1+1+1+1) (by omega)).put (by omega) (u:=y+1+1+1+1+1) (by omega)).put (by omega) (u:=y+1+1+1+1+1+1) (by omega)
          · exact HG.out.trans (((((((yyj wr g _ _).trans (yyj _ _ _ _)).trans (yyj _ _ _ _)).trans (yyj _ _ _ _)).trans (yyj _ _ _ _)).trans (yyj _ _ _ _)).trans (yyj _ _ _ _))
        case measure=>simp [intOf];omega
      · go_wp2
        go_ret
        obtain rfl:k=n:=by omega
        exact⟨rfl,MkTo.row HR.out HF.out HM.out.1 HM.out.2,HG.out.mono (fun k e=>e▸HF.out)⟩
theorem heldEF {F:Nat→Prop} {x:Value} {n:Nat} {w:World} (z:Int) (hn:n≤1048577) (hz0:0≤z) (hz1:z≤1073741824) (h:RowF F w x n 7 (yxe z (n*7))):
    Calls Tryz.prog 68 #[x,.int .i64 z] w fun e w'=>e= .returned (.int .i64 (z+7*(n:Int)))∧w'=w:=by
  obtain⟨a,cap,rfl,hm⟩:=h.marked
  clear h
  by_cases hz:n=0
  · subst hz
    clear hm
    go_enter Tryz.func68,Tryz.ntmps68
    go_wp2
    go_loop [5,1] (fun i y=>i= .int .i64 0∧y= .int .i64 z) (fun _ _=>0)
    case atStart=>exact⟨rfl,rfl⟩
    case round=>
      obtain⟨rfl,rfl⟩:=hrel
      go_wp2
      go_ret
      exact⟨ywz (by simp),rfl⟩
  · obtain⟨g,rfl,h⟩:=hm.resolve_left hz
    have HR:=yys h
    clear h hz hm
    go_enter Tryz.func68,Tryz.ntmps68
    go_wp2
    go_loop [5,1] (fun i y=>∃k:Nat,k≤n∧i= .int .i64 k∧y= .int .i64 (z+7*(k:Int))) (fun i _=>n-(intOf i).toNat)
    case atStart=>exact⟨0,Nat.zero_le _,rfl,by simp⟩
    case round=>
      obtain⟨k,hk,rfl,rfl⟩:=hrel
      by_cases hlt:k<n
      · have hh:=fun j (hj:j<7)=>HR.out (k*7+j) (by omega)
        obtain⟨y,hy⟩:∃y:Int,y=z+7*(k:Int):=⟨_,rfl⟩
        have g0:=hh 0 (by omega)
        rw [show z+((k*7+0:Nat):Int)=y from by omega]at g0
        have g1:=hh 1 (by omega)
        rw [show z+((k*7+1:Nat):Int)=y+1 from by omega]at g1
        have g2:=hh 2 (by omega)
        rw [show z+((k*7+2:Nat):Int)=y+1+1 from by omega]at g2
        have g3:=hh 3 (by omega)
        rw [show z+((k*7+3:Nat):Int)=y+1+1+1 from by omega]at g3
        have g4:=hh 4 (by omega)
        rw [show z+((k*7+4:Nat):Int)=y+1+1+1+1 from by omega]at g4
        have g5:=hh 5 (by omega)
        rw [show z+((k*7+5:Nat):Int)=y+1+1+1+1+1 from by omega]at g5
        have g6:=hh 6 (by omega)
        rw [show z+((k*7+6:Nat):Int)=y+1+1+1+1+1+1 from by omega]at g6
        rw [Nat.add_zero]at g0
        clear hh
        have hy0:0≤y:=by omega
        have hy1:y≤1090000000:=by omega
        have HY:=yys hy
        rw [←hy]
        clear hy
        go_wp2
        go_round
        case rel=>exact⟨k+1,by omega,by go_num,by rw [show y+1+1+1+1+1+1+1=z+7*((k+1:Nat):Int)from by have:=HY.out;omega]⟩
        case measure=>simp [intOf];omega
      · go_wp2
        go_ret
        obtain rfl:k=n:=by omega
        exact⟨rfl,rfl⟩
set_option maxHeartbeats 1000000
open Go.RowKit
theorem zkl {p:Prop} (h:p):Hid p:=h
def szN (n left:Int):Int:=if left-n<0 then-1 else left-n
theorem szI_any (a:Option Addr) (n cap:Nat) (left:Int) (w:World) (hn:n≤maxLen) (h0:0≤left) (h1:left≤1048576):
    Calls Tryz.prog 32 #[.slice a n cap,.int .i64 left] w fun e w'=>e= .returned (.int .i64 (szN n left))∧w'=w:=by
  unfold maxLen at hn
  by_cases hp:left-(n:Int)<0
  · go_enter Tryz.func32,Tryz.ntmps32
    go_wp2
    go_ret
    exact⟨ywz (by unfold szN;rw [if_pos hp]),rfl⟩
  · go_enter Tryz.func32,Tryz.ntmps32
    go_wp2
    go_ret
    exact⟨ywz (by unfold szN;rw [if_neg (by omega)]),rfl⟩
theorem szE_any (a:Option Addr) (n cap:Nat) (left:Int) (w:World) (hn:n≤maxLen) (h0:0≤left) (h1:left≤1048576):
    Calls Tryz.prog 35 #[.slice a n cap,.int .i64 left] w fun e w'=>e= .returned (.int .i64 (szN n left))∧w'=w:=by
  unfold maxLen at hn
  by_cases hp:left-(n:Int)<0
  · go_enter Tryz.func35,Tryz.ntmps35
    go_wp2
    go_ret
    exact⟨ywz (by unfold szN;rw [if_pos hp]),rfl⟩
  · go_enter Tryz.func35,Tryz.ntmps35
    go_wp2
    go_ret
    exact⟨ywz (by unfold szN;rw [if_neg (by omega)]),rfl⟩
theorem szO_any (a:Option Addr) (n cap:Nat) (left:Int) (w:World) (hn:n≤maxLen) (h0:0≤left) (h1:left≤1048576):
    Calls Tryz.prog 170 #[.slice a n cap,.int .i64 left] w fun e w'=>e= .returned (.int .i64 (szN n left))∧w'=w:=by
  unfold maxLen at hn
  by_cases hp:left-(n:Int)<0
  · go_enter Tryz.func170,Tryz.ntmps170
    go_wp2
    go_ret
    exact⟨ywz (by unfold szN;rw [if_pos hp]),rfl⟩
  · go_enter Tryz.func170,Tryz.ntmps170
    go_wp2
    go_ret
    exact⟨ywz (by unfold szN;rw [if_neg (by omega)]),rfl⟩
def sumL (L:Nat→Nat):Nat→Nat
  |0=>0
  |k+1=>sumL L k+L k
def lens (l:List (List O)) (i:Nat):Nat:=(hAt l i).length
def SzH (l:List (List O)) (left r:Int):Prop:=(r= -1)∨(0≤r∧r≤left∧(l.length:Int)≤1048576∧(∀i,(hAt l i).length≤1048576)∧sumL (lens l) l.length≤1048576)
theorem hAt_out {l:List (List O)} {i:Nat} (h:l.length≤i):hAt l i= []:=by simp [hAt,h]
theorem szH_any (x:Value) (l:List (List O)) (left:Int) (w:World) (h:IsH w x l) (h0:0≤left) (h1:left≤1048576):
    Calls Tryz.prog 97 #[x,.int .i64 left] w fun e w'=>(∃r,e= .returned (.int .i64 r)∧SzH l left r)∧w'=w:=by
  obtain⟨a,cap,rfl,hn1,hn,h⟩:=h
  have hn2:l.length≤9223372036854775807:=by unfold maxLen at hn;omega
  clear hn1 hn
  by_cases hp:left-(l.length:Int)<0
  · go_enter Tryz.func97,Tryz.ntmps97
    go_wp2
    go_ret
    exact⟨⟨_,rfl,.inl rfl⟩,rfl⟩
  · have HLF:Hid (0≤left-(l.length:Int)):=(by omega:0≤left-(l.length:Int))
    go_enter Tryz.func97,Tryz.ntmps97
    go_wp2
    go_loop [5,1] (fun i z=>∃k:Nat,k≤l.length∧i= .int .i64 k∧ ∃lf:Int,z= .int .i64 lf∧0≤lf∧lf+(sumL (lens l) k:Int)≤left∧ ∀j,j<k→(hAt l j).length≤1048576) (fun i _=>l.length-(intOf i).toNat)
    case atStart=>exact⟨0,Nat.zero_le _,rfl,left-(l.length:Int),rfl,HLF.out,by simp [sumL];omega,fun j hj=>by omega⟩
    case round=>
      obtain⟨k,hk,rfl,lf2,rfl,hz0,hz1,hall⟩:=hrel
      have HA:=zkl hall
      have HZ:=zkl hz1
      clear hall
      replace hz1:lf2≤left:=by omega
      by_cases hlt:k<l.length
      · obtain⟨b,off,rfl,hb,hc⟩:=h.resolve_left (by intro e;subst e;simp at hlt)
        obtain⟨u,f0,a1,c1,rfl,hu1,hu2,_⟩:=hc k hlt
        have HM:=zkl (Nat.le_trans hu1 hu2)
        clear h hc hu1 hu2
        go_wp2_with fail
        refine(szO_any _ _ _ _ _ HM.out hz0 (by omega)).mono ?_
        rintro e w' ⟨rfl,hw⟩
        have hw':=hw.symm
        clear hw
        subst hw'
        by_cases hq:lf2-((hAt l k).length:Int)<0
        · have e1:szN (hAt l k).length lf2= -1:=by unfold szN;rw [if_pos hq]
          rw [e1]
          clear e1
          go_wp2
          go_ret
          exact⟨⟨_,rfl,.inl rfl⟩,rfl⟩
        · have e1:szN (hAt l k).length lf2=lf2-((hAt l k).length:Int):=by unfold szN;rw [if_neg (by omega)]
          rw [e1]
          clear e1
          obtain⟨r,hr⟩:∃r:Int,r=lf2-((hAt l k).length:Int):=⟨_,rfl⟩
          rw [←hr]at hq⊢
          have hr0:0≤r:=by omega
          have HR:=zkl hr
          clear hr
          go_wp2
          go_round
          case rel=>exact⟨k+1,by omega,by go_num,r,rfl,hr0,by have:=HR.out;have:=HZ.out;simp only [sumL,show lens l k=(hAt l k).length from rfl];omega,fun j hj=>by
            by_cases e:j<k
            · exact HA.out j e
            · rw [show j=k by omega];have:=HR.out;omega⟩
          case measure=>simp [intOf];omega
      · clear h
        go_wp2
        go_ret
        obtain rfl:k=l.length:=by omega
        exact⟨⟨_,rfl,.inr ⟨hz0,by omega,by have:=HLF.out;omega,(fun i=>by
          by_cases e:i<l.length
          · exact HA.out i e
          · rw [hAt_out (by omega)];simp),by have:=HZ.out;omega⟩⟩,rfl⟩
set_option maxHeartbeats 4000000
open Go.RowKit
theorem yz5 {p:Prop} (h:p):Hid p:=h
theorem zcs (L:Nat→Nat):∀{i j:Nat},i≤j→sumL L i≤sumL L j:=by
  intro i j h
  induction h with
  |refl=>exact Nat.le_refl _
  |step _ ih=>exact Nat.le_trans ih (by simp [sumL])
theorem RowsF.step {F:Nat→Prop} {w:World} {x:Value} {n:Nat} {U:Nat→Value} {L:Nat→Nat} {C:Nat→List Value} (h:RowsF F w x n U L C) {k:Nat} (hk:k<n):
    ∃K:Nat→Prop,RowF K w (U k) (L k) 4 (C k)∧(∀b,K b→F b)∧ ∀w' cs,RowF K w' (U k) (L k) 4 cs→Turns K w w'→RowsF F w' x n U L (fun i=>if i=k then cs else C i):=by
  obtain⟨F0,G,h0,hF,h1,h2⟩:=h
  refine⟨G k,(h1 k hk).1,fun b hb=>((h1 k hk).2 b hb).1,fun w' cs hr ht=>⟨F0,G,h0.turns ht (fun b hb hg=>((h1 k hk).2 b hg).2 hb),hF,fun i hi=>⟨?_,(h1 i hi).2⟩,h2⟩⟩
  by_cases e:i=k
  · subst e
    simpa using hr
  · simp only [if_neg e]
    exact(h1 i hi).1.turns ht (fun b hb hg=>h2 i k hi hk e b hb hg)
theorem RowsF.slice {F:Nat→Prop} {w:World} {x:Value} {n:Nat} {U:Nat→Value} {L:Nat→Nat} {C:Nat→List Value} (h:RowsF F w x n U L C):∃a cap,x= .slice a n cap∧(n=0∨ ∃g,a=some ⟨g,0,none⟩):=by
  obtain⟨F0,G,⟨_,a,cap,e,_,_,h⟩,_⟩:=h
  exact⟨a,cap,e,h.imp id (fun⟨g,e,_⟩=>⟨g,e⟩)⟩
theorem RowsF.cell {F:Nat→Prop} {w:World} {n cap g:Nat} {U:Nat→Value} {L:Nat→Nat} {C:Nat→List Value} (h:RowsF F w (.slice (some ⟨g,0,none⟩) n cap) n U L C) {i:Nat} (hi:i<n):w.cell? ⟨g,i,none⟩=some (U i):=by
  obtain⟨F0,G,⟨_,a,cap',e,_,_,h⟩,_⟩:=h
  rcases h with h|⟨g',e',_,_,hc⟩
  · omega
  · subst e'
    simp at e
    obtain⟨rfl,rfl⟩:=e
    rw [(hc i (by omega)).1]
    simp [hi]
theorem RowsF.len {F:Nat→Prop} {w:World} {x:Value} {n:Nat} {U:Nat→Value} {L:Nat→Nat} {C:Nat→List Value} (h:RowsF F w x n U L C) {i:Nat} (hi:i<n):∃a cap,U i= .slice a (L i) cap:=by
  obtain⟨F0,G,_,_,h1,_⟩:=h
  obtain⟨⟨_,a,cap,e,_⟩,_⟩:=h1 i hi
  exact⟨a,cap,e⟩
def zc8 (z:Int) (L:Nat→Nat) (i:Nat):List Value:=yxe (z+4*(sumL L i:Int)) (L i*4)
theorem RowsF.congr {F:Nat→Prop} {w:World} {x:Value} {n:Nat} {U:Nat→Value} {L:Nat→Nat} {C C':Nat→List Value} (h:RowsF F w x n U L C) (hC:∀i,i<n→C i=C' i):RowsF F w x n U L C':=by
  obtain⟨F0,G,h0,hF,h1,h2⟩:=h
  exact⟨F0,G,h0,hF,fun i hi=>by rw [←hC i hi];exact h1 i hi,h2⟩
theorem markHF {F:Nat→Prop} {x:Value} {n:Nat} {U:Nat→Value} {L:Nat→Nat} {C:Nat→List Value} {w:World} (z:Int) (hn:n≤1048577) (hL:sumL L n≤1048577) (hz0:0≤z) (hz1:z≤1000000000) (h:RowsF F w x n U L C):
    Calls Tryz.prog 142 #[x,.int .i64 z] w fun e w'=>e= .returned (.int .i64 (z+4*(sumL L n:Int)))∧RowsF F w' x n U L (zc8 z L)∧Turns F w w':=by
  obtain⟨a,cap,rfl,ha⟩:=h.slice
  have HR0:=yz5 h
  have HL:Hid (sumL L n≤1048577):=hL
  clear h hL
  go_enter Tryz.func142,Tryz.ntmps142
  go_wp2
  go_loopw [5,1] (fun i y wr=>∃k:Nat,k≤n∧i= .int .i64 k∧y= .int .i64 (z+4*(sumL L k:Int))∧RowsF F wr (.slice a n cap) n U L (fun i=>if i<k then zc8 z L i else C i)∧Turns F w wr) (fun i _ _=>n-(intOf i).toNat)
  case atStart=>exact⟨0,Nat.zero_le _,rfl,by simp [sumL],HR0.out.congr (fun i _=>by simp),Turns.refl _ _⟩
  case round=>
    obtain⟨k,hk,rfl,rfl,hR,hg⟩:=hrel
    have HR:=yz5 hR
    have HG:Hid (Turns F w wr):=hg
    clear hR hg
    by_cases hlt:k<n
    · obtain⟨g,rfl⟩:=ha.resolve_left (by omega)
      have hc:=HR.out.cell hlt
      obtain⟨a1,c1,e1⟩:=HR.out.len hlt
      obtain⟨K,hK1,hK2,hK3⟩:=HR.out.step hlt
      have HK1:=yz5 hK1
      have HK2:Hid (∀b,K b→F b):=hK2
      have HK3:=yz5 hK3
      have hs:sumL L k+L k≤1048577:=Nat.le_trans (zcs L (show k+1≤n from hlt)) HL.out
      have E1:=yz5 e1
      rw [e1]at hc
      clear hK1 hK2 hK3 ha e1
      obtain⟨y,hy⟩:∃y:Int,y=z+4*(sumL L k:Int):=⟨_,rfl⟩
      have hy0:0≤y:=by omega
      have hy1:y≤1073741824:=by omega
      have HY:=yz5 hy
      rw [←hy]
      clear hy
      go_wp2_with fail
      refine(markOF (F:=K) (n:=L k) y (by omega) hy0 hy1 (by have:=HK1.out;rw [E1.out]at this;exact this)).mono ?_
      rintro e w2 ⟨rfl,hr,ht⟩
      have HR2:Hid (RowsF F w2 (.slice (some ⟨g,0,none⟩) n cap) n U L (fun i=>if i<k+1 then zc8 z L i else C i)):=by
        refine(HK3.out w2 _ (by rw [E1.out];exact hr) ht).congr (fun i hi=> ?_)
        by_cases e:i=k
        · subst e
          simp [zc8,HY.out]
        · by_cases e2:i<k
          · simp [e,e2,show i<k+1 by omega]
          · simp [e,e2,show¬i<k+1 by omega]
      have HG2:Hid (Turns F w w2):=HG.out.trans (ht.mono HK2.out)
      clear hr ht
      go_wp2
      go_roundw
      case rel=>exact⟨k+1,by omega,by go_num,by rw [show y+4*(L k:Int)=z+4*(sumL L (k+1):Int)from by have:=HY.out;simp only [sumL];omega],HR2.out,HG2.out⟩
      case measure=>simp [intOf];omega
    · go_wp2
      go_ret
      obtain rfl:k=n:=by omega
      exact⟨rfl,HR.out.congr (fun i hi=>by simp [hi]),HG.out⟩
theorem heldHF {F:Nat→Prop} {x:Value} {n:Nat} {U:Nat→Value} {L:Nat→Nat} {w:World} (z:Int) (hn:n≤1048577) (hL:sumL L n≤1048577) (hz0:0≤z) (hz1:z≤1000000000) (h:RowsF F w x n U L (zc8 z L)):
    Calls Tryz.prog 144 #[x,.int .i64 z] w fun e w'=>e= .returned (.int .i64 (z+4*(sumL L n:Int)))∧w'=w:=by
  obtain⟨a,cap,rfl,ha⟩:=h.slice
  have HR:=yz5 h
  have HL:Hid (sumL L n≤1048577):=hL
  clear h hL
  go_enter Tryz.func144,Tryz.ntmps144
  go_wp2
  go_loop [5,1] (fun i y=>∃k:Nat,k≤n∧i= .int .i64 k∧y= .int .i64 (z+4*(sumL L k:Int))) (fun i _=>n-(intOf i).toNat)
  case atStart=>exact⟨0,Nat.zero_le _,rfl,by simp [sumL]⟩
  case round=>
    obtain⟨k,hk,rfl,rfl⟩:=hrel
    by_cases hlt:k<n
    · obtain⟨g,rfl⟩:=ha.resolve_left (by omega)
      have hc:=HR.out.cell hlt
      obtain⟨a1,c1,e1⟩:=HR.out.len hlt
      obtain⟨K,hK1,_,_⟩:=HR.out.step hlt
      have HK1:=yz5 hK1
      have hs:sumL L k+L k≤1048577:=Nat.le_trans (zcs L (show k+1≤n from hlt)) HL.out
      have E1:=yz5 e1
      rw [e1]at hc
      clear hK1 ha e1
      obtain⟨y,hy⟩:∃y:Int,y=z+4*(sumL L k:Int):=⟨_,rfl⟩
      have hy0:0≤y:=by omega
      have hy1:y≤1073741824:=by omega
      have HY:=yz5 hy
      rw [←hy]
      clear hy
      have hy2:¬(y+4*(L k:Int)<0):=by omega
      go_wp2_with fail
      refine(heldOF (F:=K) (n:=L k) y (by omega) hy0 hy1 (by have:=HK1.out;rw [E1.out]at this;unfold zc8 at this;rw [←HY.out]at this;exact this)).mono ?_
      rintro e w' ⟨rfl,hw⟩
      have hw':=hw.symm
      clear hw
      subst hw'
      go_wp2
      go_round
      case rel=>exact⟨k+1,by omega,by go_num,by rw [show y+4*(L k:Int)=z+4*(sumL L (k+1):Int)from by have:=HY.out;simp only [sumL];omega]⟩
      case measure=>simp [intOf];omega
    · go_wp2
      go_ret
      obtain rfl:k=n:=by omega
      exact⟨rfl,rfl⟩
end Go.Proofs.YtghndljgadpijaaGreat

/- toOpSS: rows of ops, each copied into a row of its own. -/
namespace Go.Proofs.YtghndljgadpijaaGreat
open Go.RowKit
theorem zjg {p:Prop} (h:p):Hid p:=h
theorem OAt.turns {S:Nat→Prop} {w w':World} {b o:Nat} {e:O} (h:OAt w b o e) (ht:Turns S w w') (hb:b<w.heap.size) (hS:¬S b):OAt w' b o e:=
  ⟨(ht.cell hb hS).trans h.f0,(ht.cell hb hS).trans h.f1,(ht.cell hb hS).trans h.f2,(ht.cell hb hS).trans h.f3⟩
theorem FillO.turns {S:Nat→Prop} {w w':World} {g n k:Nat} {l:List O} (h:FillO w g n l k) (ht:Turns S w w') (hS:¬S g):FillO w' g n l k:=
  ⟨Nat.lt_of_lt_of_le h.1 ht.size,fun j hj=>by rw [ht.cell h.1 hS,ht.frozen h.1 hS];exact h.2.1 j hj,fun i hi=>(h.2.2 i hi).turns ht h.1 hS⟩
def FillH (w:World) (g n:Nat) (l:List (List O)) (k:Nat):Prop:=g<w.heap.size∧(∀j,j<n→(w.cell? ⟨g,j,none⟩).isSome=true∧w.frozen? ⟨g,j,none⟩=false)∧
  ∃G:Nat→Nat,∀i,i<k→w.cell? ⟨g,i,none⟩=some (sl (G i) (hAt l i).length)∧FillO w (G i) (hAt l i).length (hAt l i) (hAt l i).length∧g<G i∧ ∀j,j<i→G j<G i
theorem FillH.made {B:Nat} {w1:World} {z:List Value} {n:Nat} {l:List (List O)} (h:w1.ownsRow B 241 1 (.slice (some ⟨B,0,none⟩) n n) n z):FillH w1 B n l 0:=by
  obtain⟨hl,h|⟨g,cap,cur,e,hg,hc,h1,h2,h3,h4⟩⟩:=h
  · simp at h
  · simp at e
    obtain⟨rfl,rfl⟩:=e
    have hlt:B<w1.heap.size:=(Array.getElem?_eq_some_iff.1 hc).1
    refine⟨hlt,fun j hj=> ?_,fun _=>0,fun i hi=>by omega⟩
    have hj2:j<cur.size:=by omega
    simp [World.cell?,World.frozen?,hc,hj2]
theorem FillH.below {w w':World} {g n k:Nat} {l:List (List O)} (h:FillH w g n l k) (hb:Below w.heap.size w w'):FillH w' g n l k:=by
  obtain⟨h1,h2,G,h3⟩:=h
  refine⟨Nat.lt_of_lt_of_le h1 hb.size,fun j hj=>by rw [hb.cell (p:=⟨g,j,none⟩) h1,hb.frozen (p:=⟨g,j,none⟩) h1];exact h2 j hj,G,fun i hi=> ?_⟩
  obtain⟨a,b,c,d⟩:=h3 i hi
  exact⟨(hb.cell (p:=⟨g,i,none⟩) h1).trans a,b.below hb b.1,c,d⟩
theorem FillH.put {w:World} {g n k R:Nat} {l:List (List O)} (h:FillH w g n l k) (hk:k<n) (hr:FillO w R (hAt l k).length (hAt l k) (hAt l k).length) (hg:g<R) (hnew:∀j,j<k→ ∀r,w.cell? ⟨g,j,none⟩=some (sl r (hAt l j).length)→r<R):
    FillH (w.setCell ⟨g,k,none⟩ (sl R (hAt l k).length)) g n l (k+1):=by
  obtain⟨h1,h2,G,h3⟩:=h
  have e1:w.setCell ⟨g,k,none⟩ (sl R (hAt l k).length)=w.setCells g k [sl R (hAt l k).length]:=rfl
  have hsame:∀j,j≠k→(w.setCell ⟨g,k,none⟩ (sl R (hAt l k).length)).cell? ⟨g,j,none⟩=w.cell? ⟨g,j,none⟩:=fun j hj=>by
    rw [e1]
    exact World.cell?_setCells_out g _ k w ⟨g,j,none⟩ (fun _ _=>by simp;omega)
  have hat:(w.setCell ⟨g,k,none⟩ (sl R (hAt l k).length)).cell? ⟨g,k,none⟩=some (sl R (hAt l k).length):=by
    rw [e1]
    have h0:=World.cell?_setCells_in g [sl R (hAt l k).length] k w (fun j hj=>by
      obtain rfl:j=0:=by simpa using hj
      exact(h2 k hk).1) 0 (by simp)
    simpa using h0
  have ht:Turns (fun b=>b=g) w (w.setCell ⟨g,k,none⟩ (sl R (hAt l k).length)):=(Turns.refl (fun b=>b=g) w).setCell (p:=⟨g,k,none⟩) rfl _
  refine⟨by simpa using h1,fun j hj=>⟨?_,?_⟩,fun i=>if i=k then R else G i,fun i hi=> ?_⟩
  · by_cases e:j=k
    · subst e;rw [hat];rfl
    · rw [hsame j e];exact(h2 j hj).1
  · rw [e1,World.frozen?_setCells];exact(h2 j hj).2
  · by_cases e:i=k
    · subst e
      simp only [if_true]
      refine⟨hat,hr.turns ht (by omega),hg,fun j hj=> ?_⟩
      rw [if_neg (by omega)]
      exact hnew j hj _ (h3 j hj).1
    · obtain⟨a,b,c,d⟩:=h3 i (by omega)
      simp only [if_neg e]
      refine⟨(hsame i e).trans a,b.turns ht (by omega),c,fun j hj=> ?_⟩
      rw [if_neg (by omega)]
      exact d j hj
theorem FillH.old {w:World} {g n k:Nat} {l:List (List O)} (h:FillH w g n l k):∀j,j<k→ ∀r,w.cell? ⟨g,j,none⟩=some (sl r (hAt l j).length)→r<w.heap.size:=by
  obtain⟨h1,h2,G,h3⟩:=h
  intro j hj r hr
  obtain⟨a,b,_⟩:=h3 j hj
  rw [a]at hr
  simp at hr
  exact hr▸b.1
theorem FillH.rows {w:World} {g:Nat} {l:List (List O)} (h:FillH w g l.length l l.length) (hl:l.length≤maxLen) (hr:∀i,(hAt l i).length≤maxLen):HsF (fun k=>g≤k∧k<w.heap.size) w (sl g l.length) l:=by
  obtain⟨h1,h2,G,h3⟩:=h
  refine⟨fun i=>sl (G i) (hAt l i).length,fun k=>k=g,fun i k=>k=G i,⟨by simp,_,_,rfl,Nat.le_refl _,hl,.inr ⟨g,rfl,rfl,h1,fun j hj=> ?_⟩⟩,fun k e=>by subst e;exact⟨Nat.le_refl _,h1⟩,fun i hi=>⟨(h3 i hi).2.1.row (hr i),fun k e=> ?_⟩,fun i j hi hj hij k e1 e2=> ?_⟩
  · have hj':j<l.length:=by omega
    refine⟨?_,(h2 j hj').2⟩
    rw [(h3 j hj').1]
    simp [hj']
  · obtain⟨_,b,c,_⟩:=h3 i hi
    subst e
    exact⟨⟨Nat.le_of_lt c,b.1⟩,by omega⟩
  · rcases Nat.lt_or_gt_of_ne hij with h|h
    · have:=(h3 j hj).2.2.2 i h;omega
    · have:=(h3 i hi).2.2.2 j h;omega
theorem zog:(Tryz.prog.info? 241).map (fun i=>(i.zero,i.size,i.bytes))=some (some (.slice none 0 0),1,24):=by kernel_rfl
set_option maxHeartbeats 1000000 in
theorem zlf (x:Value) (l:List (List O)) (w:World) (hl:l.length≤1048576) (hr:∀i,(hAt l i).length≤1048576) (h:IsH w x l):
    Calls Tryz.prog 111 #[x] w fun e w'=>e= .returned (sl w.heap.size l.length)∧Below w.heap.size w w'∧FillH w' w.heap.size l.length l l.length:=by
  obtain⟨a,cap,rfl,h1,h2,h⟩:=h
  rcases h with rfl|⟨b,off,rfl,hb,h⟩
  · obtain⟨i0,hi,hz0,hz1,hz2⟩:=info_parts zog
    go_enter Tryz.func111,Tryz.ntmps111
    go_wp2_with (at_make;refine wpList_make_full _ rfl _ _ 33 rfl w.heap.size 241 i0 _ 1 Tryz.underlying33 hi hz0 hz1 .i64 .i64 0 0 0 rfl rfl rfl rfl (by rw [hz2];omega) (by unfold maxLen;omega) (Nat.le_refl _) ?_;intro w1 hown hgrow)
    have hB1:Below w.heap.size w w1:=(Below.refl _ _).grown hgrow (Nat.le_refl _) (fun k e=>by cases e)
    have hR1:FillH w1 w.heap.size 0 [] 0:=FillH.made hown
    clear hown hgrow hi hz0 hz1 hz2
    go_loop [4] (fun i=>i= .int .i64 0) (fun _=>0)
    case atStart=>rfl
    case round=>
      subst hrel
      go_wp2
      go_ret
      exact⟨rfl,hB1,hR1⟩
  · have hp:(0:Int)≤(l.length:Int):=by omega
    obtain⟨i0,hi,hz0,hz1,hz2⟩:=info_parts zog
    go_enter Tryz.func111,Tryz.ntmps111
    go_wp2_with (at_make;refine wpList_make_full _ rfl _ _ 33 rfl w.heap.size 241 i0 _ 1 Tryz.underlying33 hi hz0 hz1 .i64 .i64 l.length l.length l.length rfl rfl rfl rfl (by rw [hz2];omega) (by unfold maxLen;omega) (Nat.le_refl _) ?_;intro w1 hown hgrow)
    have hB1:Below w.heap.size w w1:=(Below.refl _ _).grown hgrow (Nat.le_refl _) (fun k e=>by cases e)
    have hR1:FillH w1 w.heap.size l.length l 0:=FillH.made hown
    clear hown hgrow hi hz0 hz1 hz2
    go_loopw [4] (fun i wr=>∃k:Nat,k≤l.length∧i= .int .i64 k∧Below w.heap.size w wr∧FillH wr w.heap.size l.length l k) (fun i _=>l.length-(intOf i).toNat)
    case atStart=>exact⟨0,Nat.zero_le _,rfl,hB1,hR1⟩
    case round=>
      obtain⟨k,hk,rfl,hB,hR⟩:=hrel
      have HB:=zjg hB
      have HR:=zjg hR
      by_cases hlt:k<l.length
      · obtain⟨u,f0,hu⟩:=h k hlt
        replace f0:=(hB.cell (p:=⟨b,off+k,none⟩) hb).trans f0
        have HU:Hid (IsO wr u (hAt l k)):=hu.below hB
        have HL:=zjg (hr k)
        clear hB hR hB1 hR1 h hu hr
        have hg:w.heap.size<wr.heap.size:=HR.out.1
        go_wp2_with (go_at_call 181;refine(zn7 _ (hAt l k) _ HL.out HU.out).mono ?_;rintro e w2 ⟨rfl,hb2,hf2⟩;have HF2:=hdq hf2;have HR2:=hdq (HR.out.below hb2);obtain⟨c0,g0⟩:=Option.isSome_iff_exists.1 (HR2.out.2.1 k hlt).1;have z0:=(HR2.out.2.1 k hlt).2)
        go_roundw
        case rel=>
          refine⟨k+1,by omega,by go_num,(HB.out.trans (hb2.mono (by omega))).setCell (Nat.le_refl _) _,HR2.out.put hlt HF2.out hg (fun j hj r e=> ?_)⟩
          have h1:=HR.out.1
          rw [hb2.cell (p:=⟨w.heap.size,j,none⟩) h1]at e
          exact HR.out.old j hj r e
        case measure=>simp [intOf];omega
      · clear hB hR hB1 hR1 h
        go_wp2
        go_ret
        obtain rfl:k=l.length:=by omega
        exact⟨rfl,HB.out,HR.out⟩
set_option maxHeartbeats 1000000
open Go.RowKit
theorem zos {p:Prop} (h:p):Hid p:=h
theorem zp1 (c a b k:Int) (w:World):
    Calls Tryz.prog 256 #[.agg #[.int .i64 c,.int .i64 a,.int .i64 b,.int .i64 k],.agg #[.int .i64 c,.int .i64 a,.int .i64 b,.int .i64 k]] w fun e w'=>e= .returned (.bool true)∧Below w.heap.size w w':=by
  go_enter Tryz.func256,Tryz.ntmps256
  go_wp2
  go_ret
  exact⟨rfl,((Below.refl _ _).alloc (Nat.le_refl _) _).alloc (by simp) _⟩
theorem eqO_same (x y:Value) (l:List O) (w:World) (hl:l.length≤1048576) (hx:IsO w x l) (hy:IsO w y l):
    Calls Tryz.prog 204 #[x,y] w fun e w'=>e= .returned (.bool true)∧Below w.heap.size w w':=by
  obtain⟨a,cap,rfl,h1,h2,h⟩:=hx
  obtain⟨a',cap',rfl,h1',h2',h'⟩:=hy
  clear h1 h2 h1' h2'
  by_cases hz:l= []
  · subst hz
    clear h h'
    go_enter Tryz.func204,Tryz.ntmps204
    go_wp2
    go_loop [5] (fun i=>i= .int .i64 0) (fun _=>0)
    case atStart=>rfl
    case round=>
      subst hrel
      go_wp2
      go_ret
      exact⟨rfl,Below.refl _ _⟩
  · obtain⟨b,off,rfl,hb,hc⟩:=h.resolve_left hz
    obtain⟨b',off',rfl,hb',hc'⟩:=h'.resolve_left hz
    clear h h' hz
    go_enter Tryz.func204,Tryz.ntmps204
    go_wp2
    go_loopw [5] (fun i wr=>∃k:Nat,k≤l.length∧i= .int .i64 k∧Below w.heap.size w wr) (fun i _=>l.length-(intOf i).toNat)
    case atStart=>exact⟨0,Nat.zero_le _,rfl,Below.refl _ _⟩
    case round=>
      obtain⟨k,hk,rfl,hB⟩:=hrel
      have HB:=zos hB
      by_cases hlt:k<l.length
      · obtain⟨f0,f1,f2,f3⟩:=(hc k hlt).below hB hb
        obtain⟨e0,e1,e2,e3⟩:=(hc' k hlt).below hB hb'
        have hbr:b<wr.heap.size:=Nat.lt_of_lt_of_le hb hB.size
        have hbr':b'<wr.heap.size:=Nat.lt_of_lt_of_le hb' hB.size
        clear hB hc hc'
        go_wp2_with fail
        go_region_held3 (fun W=>W.cell? ⟨b,off+k*4,none⟩=some (.int .i64 (oAt l k).c)∧W.cell? ⟨b,off+k*4+1,none⟩=some (.int .i64 (oAt l k).a)∧W.cell? ⟨b,off+k*4+2,none⟩=some (.int .i64 (oAt l k).b)∧W.cell? ⟨b,off+k*4+3,none⟩=some (.int .i64 (oAt l k).k)∧W.cell? ⟨b',off'+k*4,none⟩=some (.int .i64 (oAt l k).c)∧W.cell? ⟨b',off'+k*4+1,none⟩=some (.int .i64 (oAt l k).a)∧W.cell? ⟨b',off'+k*4+2,none⟩=some (.int .i64 (oAt l k).b)∧W.cell? ⟨b',off'+k*4+3,none⟩=some (.int .i64 (oAt l k).k)) ((repeat' apply And.intro)<;>first|(go_keep;done)|(rw [hcA _ _ (by first|omega|(simp;omega)|simp [*])];simp [*];done))
          (first|(go_at_call 256;refine(zp1 _ _ _ _ _).mono ?_;rintro e w2 ⟨rfl,hb2⟩;obtain⟨hcA,hfA⟩:=zdb hb2))
        clear hcA hfA
        go_wp2
        go_roundw
        case rel=>exact⟨k+1,by omega,by go_num,HB.out.drew.trans (hb2.mono (by have:=HB.out.size;simpa using this))⟩
        case measure=>simp [intOf];omega
      · clear hB hc hc'
        go_wp2
        go_ret
        exact⟨rfl,HB.out⟩
theorem IsO.slice {w:World} {u:Value} {l:List O} (h:IsO w u l):∃a cap,u= .slice a l.length cap:=by
  obtain⟨a,cap,e,_⟩:=h
  exact⟨a,cap,e⟩
theorem eqH_same (x y:Value) (l:List (List O)) (w:World) (hl:l.length≤1048576) (hr:∀i,(hAt l i).length≤1048576) (hx:IsH w x l) (hy:IsH w y l):
    Calls Tryz.prog 137 #[x,y] w fun e w'=>e= .returned (.bool true)∧Below w.heap.size w w':=by
  obtain⟨a,cap,rfl,h1,h2,h⟩:=hx
  obtain⟨a',cap',rfl,h1',h2',h'⟩:=hy
  clear h1 h2 h1' h2'
  by_cases hz:l= []
  · subst hz
    clear h h'
    go_enter Tryz.func137,Tryz.ntmps137
    go_wp2
    go_loop [5] (fun i=>i= .int .i64 0) (fun _=>0)
    case atStart=>rfl
    case round=>
      subst hrel
      go_wp2
      go_ret
      exact⟨rfl,Below.refl _ _⟩
  · obtain⟨b,off,rfl,hb,hc⟩:=h.resolve_left hz
    obtain⟨b',off',rfl,hb',hc'⟩:=h'.resolve_left hz
    clear h h' hz
    go_enter Tryz.func137,Tryz.ntmps137
    go_wp2
    go_loopw [5] (fun i wr=>∃k:Nat,k≤l.length∧i= .int .i64 k∧Below w.heap.size w wr) (fun i _=>l.length-(intOf i).toNat)
    case atStart=>exact⟨0,Nat.zero_le _,rfl,Below.refl _ _⟩
    case round=>
      obtain⟨k,hk,rfl,hB⟩:=hrel
      have HB:=zos hB
      by_cases hlt:k<l.length
      · obtain⟨u,f0,hu⟩:=hc k hlt
        obtain⟨v,e0,hv⟩:=hc' k hlt
        replace f0:=(hB.cell (p:=⟨b,off+k,none⟩) hb).trans f0
        replace e0:=(hB.cell (p:=⟨b',off'+k,none⟩) hb').trans e0
        have HU:Hid (IsO wr u (hAt l k)):=hu.below hB
        have HV:Hid (IsO wr v (hAt l k)):=hv.below hB
        have hbr:b<wr.heap.size:=Nat.lt_of_lt_of_le hb hB.size
        have hbr':b'<wr.heap.size:=Nat.lt_of_lt_of_le hb' hB.size
        have HL:=zos (hr k)
        obtain⟨a1,c1,rfl⟩:=hu.slice
        obtain⟨a2,c2,rfl⟩:=hv.slice
        clear hB hc hc' hr hu hv
        go_wp2_with fail
        go_region_held3 (fun W=>W.cell? ⟨b,off+k,none⟩=some (.slice a1 (hAt l k).length c1)∧W.cell? ⟨b',off'+k,none⟩=some (.slice a2 (hAt l k).length c2)) ((repeat' apply And.intro)<;>first|(go_keep;done)|(rw [hcA _ _ (by first|omega|(simp;omega)|simp [*])];simp [*];done))
          (first|(go_at_call 204;refine(eqO_same _ _ (hAt l k) _ HL.out (HU.out.below (Below.refl _ wr).drew) (HV.out.below (Below.refl _ wr).drew)).mono ?_;rintro e w2 ⟨rfl,hb2⟩;obtain⟨hcA,hfA⟩:=zdb hb2))
        clear hcA hfA
        go_wp2
        go_roundw
        case rel=>exact⟨k+1,by omega,by go_num,HB.out.drew.trans (hb2.mono (by have:=HB.out.size;simpa using this))⟩
        case measure=>simp [intOf];omega
      · clear hB hc hc'
        go_wp2
        go_ret
        exact⟨rfl,HB.out⟩
set_option maxHeartbeats 1000000
open Go.RowKit
theorem hidEqs {p:Prop} (h:p):Hid p:=h
theorem zbp (t s q d k v g:Int) (w:World):
    Calls Tryz.prog 140 #[.agg #[.int .i64 t,.int .i64 s,.int .i64 q,.int .i64 d,.int .i64 k,.int .i64 v,.int .i64 g],.agg #[.int .i64 t,.int .i64 s,.int .i64 q,.int .i64 d,.int .i64 k,.int .i64 v,.int .i64 g]] w fun e w'=>e= .returned (.bool true)∧Below w.heap.size w w':=by
  go_enter Tryz.func140,Tryz.ntmps140
  go_wp2
  go_ret
  exact⟨rfl,((Below.refl _ _).alloc (Nat.le_refl _) _).alloc (by simp) _⟩
theorem zkr (x y:Value) (l:List Ev) (w:World) (hl:l.length≤1048576) (hx:IsEvs w x l) (hy:IsEvs w y l):
    Calls Tryz.prog 56 #[x,y] w fun e w'=>e= .returned (.bool true)∧Below w.heap.size w w':=by
  obtain⟨a,cap,rfl,h1,h2,h⟩:=hx
  obtain⟨a',cap',rfl,h1',h2',h'⟩:=hy
  clear h1 h2 h1' h2'
  by_cases hz:l= []
  · subst hz
    clear h h'
    go_enter Tryz.func56,Tryz.ntmps56
    go_wp2
    go_loop [5] (fun i=>i= .int .i64 0) (fun _=>0)
    case atStart=>rfl
    case round=>
      subst hrel
      go_wp2
      go_ret
      exact⟨rfl,Below.refl _ _⟩
  · obtain⟨b,off,rfl,hb,hc⟩:=h.resolve_left hz
    obtain⟨b',off',rfl,hb',hc'⟩:=h'.resolve_left hz
    clear h h' hz
    go_enter Tryz.func56,Tryz.ntmps56
    go_wp2
    go_loopw [5] (fun i wr=>∃k:Nat,k≤l.length∧i= .int .i64 k∧Below w.heap.size w wr) (fun i _=>l.length-(intOf i).toNat)
    case atStart=>exact⟨0,Nat.zero_le _,rfl,Below.refl _ _⟩
    case round=>
      obtain⟨k,hk,rfl,hB⟩:=hrel
      have HB:=hidEqs hB
      by_cases hlt:k<l.length
      · obtain⟨f0,f1,f2,f3,f4,f5,f6⟩:=(hc k hlt).below hB hb
        obtain⟨e0,e1,e2,e3,e4,e5,e6⟩:=(hc' k hlt).below hB hb'
        have hbr:b<wr.heap.size:=Nat.lt_of_lt_of_le hb hB.size
        have hbr':b'<wr.heap.size:=Nat.lt_of_lt_of_le hb' hB.size
        clear hB hc hc'
        go_wp2_with fail
        go_region_held3 (fun W=>W.cell? ⟨b,off+k*7,none⟩=some (.int .i64 (evAt l k).t)∧W.cell? ⟨b,off+k*7+1,none⟩=some (.int .i64 (evAt l k).s)∧W.cell? ⟨b,off+k*7+2,none⟩=some (.int .i64 (evAt l k).q)∧W.cell? ⟨b,off+k*7+3,none⟩=some (.int .i64 (evAt l k).d)∧W.cell? ⟨b,off+k*7+4,none⟩=some (.int .i64 (evAt l k).k)∧W.cell? ⟨b,off+k*7+5,none⟩=some (.int .i64 (evAt l k).v)∧W.cell? ⟨b,off+k*7+6,none⟩=some (.int .i64 (evAt l k).g)∧W.cell? ⟨b',off'+k*7,none⟩=some (.int .i64 (evAt l k).t)∧W.cell? ⟨b',off'+k*7+1,none⟩=some (.int .i64 (evAt l k).s)∧W.cell? ⟨b',off'+k*7+2,none⟩=some (.int .i64 (evAt l k).q)∧W.cell? ⟨b',off'+k*7+3,none⟩=some (.int .i64 (evAt l k).d)∧W.cell? ⟨b',off'+k*7+4,none⟩=some (.int .i64 (evAt l k).k)∧W.cell? ⟨b',off'+k*7+5,none⟩=some (.int .i64 (evAt l k).v)∧W.cell? ⟨b',off'+k*7+6,none⟩=some (.int .i64 (evAt l k).g)) ((repeat' apply And.intro)<;>first|(go_keep;done)|(rw [hcA _ _ (by first|omega|(simp;omega)|simp [*])];simp [*];done))
          (first|(go_at_call 140;refine(zbp _ _ _ _ _ _ _ _).mono ?_;rintro e w2 ⟨rfl,hb2⟩;obtain⟨hcA,hfA⟩:=zdb hb2))
        clear hcA hfA
        go_wp2
        go_roundw
        case rel=>exact⟨k+1,by omega,by go_num,HB.out.drew.trans (hb2.mono (by have:=HB.out.size;simpa using this))⟩
        case measure=>simp [intOf];omega
      · clear hB hc hc'
        go_wp2
        go_ret
        exact⟨rfl,HB.out⟩
end Go.Proofs.YtghndljgadpijaaGreat

