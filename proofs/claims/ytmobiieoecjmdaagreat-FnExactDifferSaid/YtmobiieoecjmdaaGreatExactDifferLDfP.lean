/- How far two rows of emits are alike, in plain words; the program's alikeAhead. -/
import Derived.Test.YtmobiieoecjmdaaGreatExactDifferG01
import Derived.Test.YtmobiieoecjmdaaGreatExactDifferG03
import Derived.Test.YtmobiieoecjmdaaGreatExactDifferG06
namespace Go.Proofs.YtmobiieoecjmdaaGreat
open Go.RowKit
theorem yo8 {p:Prop} (h:p):Hid p:=h
def eqEm (x y:Em):Bool:=decide (x.t=y.t)&&decide (x.l=y.l)&&decide (x.v=y.v)
def alF (a b:List Em):Nat→Nat→Nat
 |0,j=>j
 |f+1,j=>if j<a.length∧j<b.length∧eqEm (xAt a j) (xAt b j)=true then alF a b f (j+1)else j
def alN (a b:List Em):Nat:=alF a b (a.length+1) 0
theorem alF_go {a b:List Em} {j:Nat} (h1:j<a.length) (h2:j<b.length) (h3:eqEm (xAt a j) (xAt b j)=true):alF a b (a.length+1-j) j=alF a b (a.length+1-(j+1)) (j+1):=by
 rw [show a.length+1-j=(a.length+1-(j+1))+1 by omega,alF,if_pos ⟨h1,h2,h3⟩]
theorem ytk {a b:List Em} {f j:Nat} (h:¬(j<a.length∧j<b.length∧eqEm (xAt a j) (xAt b j)=true)):alF a b f j=j:=by
 cases f with
 |zero=>rfl
 |succ f=>rw [alF,if_neg h]
set_option maxRecDepth 100000 in
set_option maxHeartbeats 8000000 in
theorem iAlike (x y:Value) (a b:List Em) (w:World) (ha:a.length≤1048577) (hx:IsX w x a) (hy:IsX w y b):
  Calls Tryz.prog 84 #[x,y] w fun e w'=>e= .returned (.int .i64 (alN a b:Nat))∧Below w.heap.size w w':=by
 obtain⟨aa,ca,rfl,-,-,hx⟩:=hx
 obtain⟨ab,cb,rfl,-,-,hy⟩:=hy
 have HA:=yo8 hx
 have HBB:=yo8 hy
 clear hx hy
 go_enter Tryz.func84,Tryz.ntmps84
 go_wp2
 go_loopw [5] (fun i wr=>∃j:Nat,j≤a.length∧i= .int .i64 j∧alN a b=alF a b (a.length+1-j) j∧Below w.heap.size w wr) (fun i _=>a.length+1-(intOf i).toNat)
 case atStart=>exact⟨0,Nat.zero_le _,rfl,rfl,Below.refl _ _⟩
 case round=>
  obtain⟨j,hj,rfl,hal,hbr⟩:=hrel
  have HAL:=yo8 hal
  have HBr:=yo8 hbr
  have hne:=neB wr
  clear hal hbr
  by_cases hgo:j<a.length∧j<b.length∧eqEm (xAt a j) (xAt b j)=true
  ·obtain⟨hja,hjb,heq⟩:=hgo
   obtain⟨ba,oa,rfl,hba,hca⟩:=HA.out.resolve_left (by intro e;rw [e]at hja;simp at hja)
   obtain⟨bb,ob,rfl,hbb,hcb⟩:=HBB.out.resolve_left (by intro e;rw [e]at hjb;simp at hjb)
   have hba1:ba<wr.heap.size:=Nat.lt_of_lt_of_le hba HBr.out.size
   have hbb1:bb<wr.heap.size:=Nat.lt_of_lt_of_le hbb HBr.out.size
   obtain⟨x0,x1,x2⟩:=(hca j hja).below HBr.out hba
   obtain⟨y0,y1,y2⟩:=(hcb j hjb).below HBr.out hbb
   clear hca hcb
   have g0:∀q:Beyond wr,q.w.cell? ⟨ba,oa+j*3,none⟩=some (.int .i64 (xAt a j).t):=fun q=>q.cell hba1 x0
   have g1:∀q:Beyond wr,q.w.cell? ⟨ba,oa+j*3+1,none⟩=some (.int .i64 (xAt a j).l):=fun q=>q.cell hba1 x1
   have g2:∀q:Beyond wr,q.w.cell? ⟨ba,oa+j*3+2,none⟩=some (.int .i64 (xAt a j).v):=fun q=>q.cell hba1 x2
   have g3:∀q:Beyond wr,q.w.cell? ⟨bb,ob+j*3,none⟩=some (.int .i64 (xAt b j).t):=fun q=>q.cell hbb1 y0
   have g4:∀q:Beyond wr,q.w.cell? ⟨bb,ob+j*3+1,none⟩=some (.int .i64 (xAt b j).l):=fun q=>q.cell hbb1 y1
   have g5:∀q:Beyond wr,q.w.cell? ⟨bb,ob+j*3+2,none⟩=some (.int .i64 (xAt b j).v):=fun q=>q.cell hbb1 y2
   clear x0 x1 x2 y0 y1 y2
   have hia:(j:Int)<(a.length:Int):=by omega
   have hib:(j:Int)<(b.length:Int):=by omega
   have hmn:decide ((j:Int)<if b.length<a.length then(b.length:Int)else(a.length:Int))=true:=by rw [decide_eq_true_eq];split<;>omega
   have hz0:(xAt a j).t=(xAt b j).t:=by simp [eqEm]at heq;exact heq.1.1
   have hz1:(xAt a j).l=(xAt b j).l:=by simp [eqEm]at heq;exact heq.1.2
   have hz2:(xAt a j).v=(xAt b j).v:=by simp [eqEm]at heq;exact heq.2
   rw [←hz0]at g3
   rw [←hz1]at g4
   rw [←hz2]at g5
   have HNX:Hid (alN a b=alF a b (a.length+1-(j+1)) (j+1)):=by
    show _=_
    rw [HAL.out,alF_go hja hjb heq]
   clear hz0 hz1 hz2 heq hba hbb
   obtain⟨xt,hxt⟩:∃z,(xAt a j).t=z:=⟨_,rfl⟩
   obtain⟨xl,hxl⟩:∃z,(xAt a j).l=z:=⟨_,rfl⟩
   obtain⟨xv,hxv⟩:∃z,(xAt a j).v=z:=⟨_,rfl⟩
   rw [hxt]at g0 g3
   rw [hxl]at g1 g4
   rw [hxv]at g2 g5
   clear hxt hxl hxv
   go_wp2_with fail
   refine wrb ?_
   repeat(go_big_quiet_step (fail))
   refine wpQuiet_nil ?_
   rintro w2 ⟨⟨_,hb3⟩,rfl⟩
   clear hne g0 g1 g2 g3 g4 g5
   go_wp2
   go_roundw
   case rel=>exact⟨j+1,by omega,by go_num,HNX.out,trm HBr.out hb3⟩
   case measure=>simp [intOf];omega
  ·have HEX:Hid (alN a b=j):=by
    show _=_
    rw [HAL.out,ytk hgo]
   by_cases hja:j<a.length
   ·by_cases hjb:j<b.length
    ·have hneq:¬(((xAt a j).t=(xAt b j).t∧(xAt a j).l=(xAt b j).l)∧(xAt a j).v=(xAt b j).v):=fun h=>hgo ⟨hja,hjb,by simp [eqEm,h.1.1,h.1.2,h.2]⟩
     obtain⟨ba,oa,rfl,hba,hca⟩:=HA.out.resolve_left (by intro e;rw [e]at hja;simp at hja)
     obtain⟨bb,ob,rfl,hbb,hcb⟩:=HBB.out.resolve_left (by intro e;rw [e]at hjb;simp at hjb)
     have hba1:ba<wr.heap.size:=Nat.lt_of_lt_of_le hba HBr.out.size
     have hbb1:bb<wr.heap.size:=Nat.lt_of_lt_of_le hbb HBr.out.size
     obtain⟨x0,x1,x2⟩:=(hca j hja).below HBr.out hba
     obtain⟨y0,y1,y2⟩:=(hcb j hjb).below HBr.out hbb
     clear hca hcb
     have g0:∀q:Beyond wr,q.w.cell? ⟨ba,oa+j*3,none⟩=some (.int .i64 (xAt a j).t):=fun q=>q.cell hba1 x0
     have g1:∀q:Beyond wr,q.w.cell? ⟨ba,oa+j*3+1,none⟩=some (.int .i64 (xAt a j).l):=fun q=>q.cell hba1 x1
     have g2:∀q:Beyond wr,q.w.cell? ⟨ba,oa+j*3+2,none⟩=some (.int .i64 (xAt a j).v):=fun q=>q.cell hba1 x2
     have g3:∀q:Beyond wr,q.w.cell? ⟨bb,ob+j*3,none⟩=some (.int .i64 (xAt b j).t):=fun q=>q.cell hbb1 y0
     have g4:∀q:Beyond wr,q.w.cell? ⟨bb,ob+j*3+1,none⟩=some (.int .i64 (xAt b j).l):=fun q=>q.cell hbb1 y1
     have g5:∀q:Beyond wr,q.w.cell? ⟨bb,ob+j*3+2,none⟩=some (.int .i64 (xAt b j).v):=fun q=>q.cell hbb1 y2
     clear x0 x1 x2 y0 y1 y2
     have hia:(j:Int)<(a.length:Int):=by omega
     have hib:(j:Int)<(b.length:Int):=by omega
     have hmn:decide ((j:Int)<if b.length<a.length then(b.length:Int)else(a.length:Int))=true:=by rw [decide_eq_true_eq];split<;>omega
     generalize (xAt a j).t=xt at g0 hneq
     generalize (xAt a j).l=xl at g1 hneq
     generalize (xAt a j).v=xv at g2 hneq
     generalize (xAt b j).t=yt at g3 hneq
     generalize (xAt b j).l=yl at g4 hneq
     generalize (xAt b j).v=yv at g5 hneq
     clear hgo hba hbb
     by_cases n0:xt=yt
     case neg=>
      have b0:(xt==yt)=false:=by simpa using n0
      clear hneq
      go_wp2_with fail
      refine wrb ?_
      repeat(go_big_quiet_step (fail))
      refine wpQuiet_nil ?_
      rintro w2 ⟨⟨_,hb3⟩,rfl⟩
      clear hne g0 g1 g2 g3 g4 g5
      go_wp2
      all_goals(go_ret;exact⟨yaw (by rw [HEX.out]),trm HBr.out hb3⟩)
     subst n0
     by_cases n1:xl=yl
     case neg=>
      have b1:(xl==yl)=false:=by simpa using n1
      clear hneq
      go_wp2_with fail
      refine wrb ?_
      repeat(go_big_quiet_step (fail))
      refine wpQuiet_nil ?_
      rintro w2 ⟨⟨_,hb3⟩,rfl⟩
      clear hne g0 g1 g2 g3 g4 g5
      go_wp2
      all_goals(go_ret;exact⟨yaw (by rw [HEX.out]),trm HBr.out hb3⟩)
     subst n1
     have n2:¬xv=yv:=fun e=>hneq ⟨⟨rfl,rfl⟩,e⟩
     have b2:(xv==yv)=false:=by simpa using n2
     clear hneq
     go_wp2_with fail
     refine wrb ?_
     repeat(go_big_quiet_step (fail))
     refine wpQuiet_nil ?_
     rintro w2 ⟨⟨_,hb3⟩,rfl⟩
     clear hne g0 g1 g2 g3 g4 g5
     go_wp2
     all_goals(go_ret;exact⟨yaw (by rw [HEX.out]),trm HBr.out hb3⟩)
    ·have hib:¬((j:Int)<(b.length:Int)):=by omega
     have hia:(j:Int)<(a.length:Int):=by omega
     have hmn:decide ((j:Int)<if b.length<a.length then(b.length:Int)else(a.length:Int))=false:=by rw [decide_eq_false_iff_not];split<;>omega
     clear hgo
     go_wp2_with fail
     refine wrb ?_
     repeat(go_big_quiet_step (fail))
     refine wpQuiet_nil ?_
     rintro w2 ⟨⟨_,hb3⟩,rfl⟩
     clear hne
     go_wp2
     all_goals(go_ret;exact⟨yaw (by rw [HEX.out]),trm HBr.out hb3⟩)
   ·have hia:¬((j:Int)<(a.length:Int)):=by omega
    have hmn:decide ((j:Int)<if b.length<a.length then(b.length:Int)else(a.length:Int))=false:=by rw [decide_eq_false_iff_not];split<;>omega
    clear hgo
    go_wp2_with fail
    refine wrb ?_
    repeat(go_big_quiet_step (fail))
    refine wpQuiet_nil ?_
    rintro w2 ⟨⟨_,hb3⟩,rfl⟩
    clear hne
    go_wp2
    all_goals(go_ret;exact⟨yaw (by rw [HEX.out]),trm HBr.out hb3⟩)
end Go.Proofs.YtmobiieoecjmdaaGreat
