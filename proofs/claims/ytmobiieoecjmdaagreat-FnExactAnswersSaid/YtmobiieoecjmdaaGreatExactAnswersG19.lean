/- KSd, KSe, KSf -/
import Derived.Test.YtmobiieoecjmdaaGreatExactAnswersLKSc
namespace Go.Proofs.YtmobiieoecjmdaaGreat
open Go.RowKit
theorem hidKSd {p:Prop} (h:p):Hid p:=h
def RowZ (B:Nat) (w:World) (x:Value) (l:List Int):Prop:=w.ownsRow B 3 1 x l.length (intCells l)
theorem ykz (l l':List Int):intCells (l++l')=intCells l++intCells l':=by simp [intCells]
theorem RowZ.nil (B:Nat) (w:World):RowZ B w (.slice none 0 0) []:=World.ownsRow_nil w B 3 1
theorem RowZ.alloc {B:Nat} {w:World} {x:Value} {l:List Int} (h:RowZ B w x l) (o:Obj):RowZ B (w.alloc o) x l:=World.ownsRow.alloc h o
theorem RowZ.below {B:Nat} {w w':World} {x:Value} {l:List Int} (h:RowZ B w x l) (hb:Below w.heap.size w w'):RowZ B w' x l:=by
 obtain⟨h0,h1|⟨g,cap,cur,e,hg,hc,h1⟩⟩:=h
 ·exact⟨h0,.inl h1⟩
 ·exact⟨h0,.inr ⟨g,cap,cur,e,hg,(hb.block g (Array.getElem?_eq_some_iff.1 hc).1).trans hc,h1⟩⟩
theorem RowZ.ne {B:Nat} {w:World} {x:Value} {l:List Int} (h:RowZ B w x l) {P:Nat} {T:TypeId} {vs:Array Value} (hb:Bk w P T vs) (hT:T≠3):¬x.ownBlock=some P:=by
 intro e
 obtain⟨_,⟨rfl,_⟩|⟨g,cap,cur,rfl,_,hc,_⟩⟩:=h
 ·simp [Value.ownBlock]at e
 ·simp [Value.ownBlock]at e
  subst e
  have hb':w.heap[g]? =some (.cells vs T):=hb
  rw [hb']at hc
  simp at hc
  exact hT hc.2
theorem RowZ.ge {B:Nat} {w:World} {x:Value} {l:List Int} (h:RowZ B w x l) {r:Nat} (e:x.ownBlock=some r):B≤r:=by
 obtain⟨_,⟨rfl,_⟩|⟨g,cap,cur,rfl,hg,_⟩⟩:=h
 ·simp [Value.ownBlock]at e
 ·simp [Value.ownBlock]at e
  omega
theorem RowZ.grow {B:Nat} {w:World} {v:Value} {l:List Int} {z:Int} (h:w.ownsRow B 3 1 v (l.length+1) (intCells l++ [.int .i64 z])):RowZ B w v (l++ [z]):=by
 unfold RowZ
 rw [List.length_append,ykz]
 simpa [intCells] using h
theorem grownT {w w':World} {row:Option Nat} (h:w.grownBy w' row):Turns (fun k=>row=some k) w w':=⟨h.os,h.tape,h.output,h.size,fun k hk hS=>h.block k hk (fun e=>hS e.symm)⟩
theorem ypc (w:World) (a:Value):∀j u,[a][j]? =some u→(w.alloc (.cells #[a] 3)).cell? ((⟨w.heap.size,0,none⟩:Addr).add j)=some u:=by
 intro j u hu
 match j,hu with
 |0,hu=>simp at hu;subst hu;simp [Addr.add]
 |(j+1),hu=>simp at hu
theorem oneZ (a:Int):∀u∈ [Value.int .i64 a],u.oneCell'=true:=by
 intro u hu
 simp at hu
 subst hu
 rfl
theorem RowZ.form {B:Nat} {w:World} {x:Value} {l:List Int} (h:RowZ B w x l):∃a cap,x= .slice a l.length cap∧l.length≤cap∧cap≤maxLen∧(l= []∨ ∃g,a=some ⟨g,0,none⟩∧IntsAt w g 0 l):=by
 have h9:=(OwnI.of_row h).isI
 obtain⟨a,cap,e,h1,h2,h3⟩:=OwnI.of_row h
 refine⟨a,cap,e,h1,h2,h3.imp id ?_⟩
 rintro ⟨g,e,_,_,hr⟩
 exact⟨g,e,hr⟩
def fstI (l:List Int) (z:Int):Nat→Int
 |0=> -1
 |n+1=>if 0≤fstI l z n then fstI l z n else if intAt l n=z then(n:Int)else-1
theorem yq2 {l:List Int} {z:Int}:∀{n:Nat},0≤fstI l z n↔hasI l n z=true
 |0=>by
  have:hasI l 0 z=false:=by simp [hasI,allB]
  rw [this]
  simp [fstI]
 |n+1=>by
  have ih:=yq2 (l:=l) (z:=z) (n:=n)
  have h1:hasI l (n+1) z=true↔(hasI l n z=true∨intAt l n=z):=by
   unfold hasI
   rw [Bool.not_eq_true',Bool.not_eq_true',←Bool.not_eq_true,←Bool.not_eq_true,allB_iff,allB_iff]
   constructor
   ·intro h
    by_cases e:intAt l n=z
    ·exact .inr e
    ·refine .inl (fun h2=>h (fun i hi=> ?_))
     by_cases e2:i=n
     ·subst e2;simp [e]
     ·exact h2 i (by omega)
   ·rintro (h|h) h2
    ·exact h (fun i hi=>h2 i (by omega))
    ·have:=h2 n (by omega)
     simp [h]at this
  rw [h1]
  unfold fstI
  by_cases e:0≤fstI l z n
  ·rw [if_pos e]
   exact⟨fun _=> .inl (ih.1 e),fun _=>e⟩
  ·rw [if_neg e]
   by_cases e2:intAt l n=z
   ·rw [if_pos e2]
    exact⟨fun _=> .inr e2,fun _=>by omega⟩
   ·rw [if_neg e2]
    exact⟨fun h=>by omega,fun h=>by
     rcases h with h|h
     ·exact absurd (ih.2 h) e
     ·exact absurd h e2⟩
theorem ynj {l:List Int} {z:Int} {j:Nat} {r:Int} (h:fstI l z j=r) (h0:0≤r):∀{n:Nat},j≤n→fstI l z n=r
 |0,hn=>by
  obtain rfl:j=0:=by omega
  exact h
 |n+1,hn=>by
  by_cases e:j=n+1
  ·subst e;exact h
  ·have:=ynj h h0 (n:=n) (by omega)
   unfold fstI
   rw [this,if_pos h0]
set_option maxRecDepth 100000 in
set_option maxHeartbeats 4000000 in
theorem ytf (a:Option Addr) (n cap:Nat) (l:List Int) (z:Int) (w:World) (hn:n≤l.length) (hl:l.length≤100000000) (h:n=0∨ ∃b off,a=some ⟨b,off,none⟩∧IntsAt w b off l):
  Calls Tryz.prog 150 #[.slice a n cap,.int .i64 z] w fun e w'=>e= .returned (.int .i64 (fstI l z n))∧Below w.heap.size w w':=by
 go_enter Tryz.func150,Tryz.ntmps150
 go_wp2
 go_loopw [5] (fun i wr=>∃j:Nat,j≤n∧i= .int .i64 j∧Hid (fstI l z j= -1)∧wr=w) (fun i _=>n-(intOf i).toNat)
 case atStart=>exact⟨0,Nat.zero_le _,rfl,(rfl:fstI l z 0= -1),rfl⟩
 case round=>
  obtain⟨j,hj,rfl,HA,hw⟩:=hrel
  have hw':=hw.symm
  clear hw
  subst hw'
  by_cases hlt:j<n
  ·obtain⟨b,off,rfl,hb,hc⟩:=h.resolve_left (by omega)
   have c0:=hc j (by omega)
   have HST:Hid (intAt l j=z→fstI l z n=(j:Int)):=fun e=>by
    have h1:fstI l z (j+1)=(j:Int):=by unfold fstI;rw [HA.out,if_neg (by omega),if_pos e]
    exact ynj h1 (by omega) (by omega)
   have HNX:Hid (¬intAt l j=z→fstI l z (j+1)= -1):=fun e=>by unfold fstI;rw [HA.out,if_neg (by omega),if_neg e]
   generalize intAt l j=y at c0 HST HNX
   by_cases hy:y=z
   ·have HY:=hidKSd (HST.out hy)
    have hyb:(y==z)=true:=by simpa using hy
    clear hy HST HNX
    go_wp2
    go_ret
    exact⟨yau HY.out.symm,Below.refl _ _⟩
   ·have HY:=hidKSd (HNX.out hy)
    have hyb:(y==z)=false:=by simpa using hy
    clear hy HST HNX
    go_wp2
    go_roundw
    case rel=>exact⟨j+1,by omega,by go_num,HY.out,by first|rfl|trivial⟩
    case measure=>simp [intOf];omega
  ·obtain rfl:n=j:=by omega
   go_wp2
   go_ret
   exact⟨yau HA.out.symm,Below.refl _ _⟩
theorem tagsB_iff {k:Kn}:yfv k=true↔(∀i,i<k.p.length→ytu k (paAt k.p i)=true)∧ynp k.t (yk5 k)=true:=by
 unfold yfv
 simp only [Bool.and_eq_true,allB_iff]
theorem partK_iff {k:Kn} {p:Pa}:ytu k p=true↔(∀i,i<p.p.length→ytc k (psAt p.p i)=true)∧ ∀i,i<p.a.length→intAt p.a i<k.t:=by
 unfold ytu antiK
 simp only [Bool.and_eq_true,allB_iff,decide_eq_true_eq]
theorem sentK_iff {k:Kn} {x:Ps}:ytc k x=true↔ ∀i,i<x.s.length→evIn k.m (evAt x.s i)=true∧(evAt x.s i).g<k.t:=by
 unfold ytc
 simp only [Bool.and_eq_true,allB_iff,decide_eq_true_eq]
theorem diffB_iff {t:Int} {l:List Int}:ynp t l=true↔ ∀i,i<l.length→intAt l i<t∧hasI l i (intAt l i)=false:=by
 unfold ynp
 simp only [Bool.and_eq_true,allB_iff,decide_eq_true_eq,Bool.not_eq_true']
theorem yvo {l:List Ml} {i:Nat} (h:i<l.length):bagT (l.take (i+1))=bagT (l.take i)++(if (mlAt l i).a then []else [(mlAt l i).e.g]):=by
 rw [ygh h]
 simp [bagT]
theorem yje {l:List Pa} {i:Nat} (h:i<l.length):yc6 (l.take (i+1))=yc6 (l.take i)++(yo1 (paAt l i)++ymv (paAt l i)):=by
 rw [yi5 h]
 simp [yc6,ytt]
theorem yi6 {l:List Ev} {i:Nat} (h:i<l.length):l.take (i+1)=l.take i++ [evAt l i]:=by
 rw [List.take_add_one,evAt]
 simp [List.getD,h]
theorem ykk {l:List Ps} {i:Nat} (h:i<l.length):l.take (i+1)=l.take i++ [psAt l i]:=by
 rw [List.take_add_one,psAt]
 simp [List.getD,h]
theorem yqi (l:List Ml):(bagT l).length≤l.length:=by
 induction l with
 |nil=>simp [bagT]
 |cons a l ih=>
  have e:bagT (a::l)=(if a.a then []else [a.e.g])++bagT l:=rfl
  rw [e,List.length_append,List.length_cons]
  split<;>simp<;>omega
theorem yrj (l:List Pa):(yc6 l).length≤(yb8 l).wt:=by
 rw [yed]
 have:∀n,n≤l.length→(yc6 (l.take n)).length≤sumL (fun i=>(paAt l i).wt) n:=by
  intro n
  induction n with
  |zero=>intro _;simp [yc6,sumL]
  |succ n ih=>
   intro hn
   rw [yje (by omega),List.length_append]
   have h1:=ih (by omega)
   have h2:(yo1 (paAt l n)++ymv (paAt l n)).length≤(paAt l n).wt:=by
    unfold Pa.wt yo1 ymv
    rw [List.length_append,List.length_map,List.length_map]
    have:=yc3 (paAt l n).p
    simp only [yal,yb2]
    omega
   show _≤sumL (fun i=>(paAt l i).wt) n+(paAt l n).wt
   omega
 have h:=this l.length (Nat.le_refl _)
 rw [List.take_length]at h
 omega
theorem ypi {k:Kn} (h:k.wt≤1048576):(bagT k.b).length+(yc6 k.p).length≤1048576:=by
 have h1:=yqi k.b
 have h2:=yrj k.p
 unfold Kn.wt at h
 simp only [yci]at h
 omega
theorem yak {p:Prop} (h:p):Hid p:=h
theorem Bk.low {B:Nat} {w w':World} {P:Nat} {T:TypeId} {vs:Array Value} (h:Bk w P T vs) (hb:Below B w w') (hP:P<B):Bk w' P T vs:=(hb.block P hP).trans h
set_option maxRecDepth 100000 in
set_option maxHeartbeats 32000000 in
theorem sTags5 (x:Value) (k:Kn) (w:World) (hs:ybt k) (h:IsKern w x k):
  Calls Tryz.prog 101 #[x] w fun e w'=>e= .returned (.bool (yfv k))∧Below w.heap.size w w':=by
 have hTL:=ypi hs.2
 obtain⟨HSM0,hsk⟩:=hs
 have HSM:Hid (SmallM k.m):=HSM0
 obtain⟨hdl,hpl,hbl,hsl,hxl⟩:=yda hsk
 have HWP:=yak (yd0 hsk)
 clear hsk HSM0
 obtain⟨ai,ci,ah,ch,ae,ce,ad,cd,ap,cp,ab,cb,au,cu,ax,cx,rfl,hm,hd,hp,hbg,hsu,hx⟩:=h.form
 have HM:=yak hm
 have HD:=yak hd
 have HPP:=yak hp
 have HBG:=yak hbg.rows
 have HSU:=yak hsu.rows
 have HXX:=yak hx.rows
 have HSUI:=yak hsu
 have HXXI:=yak hx
 have HK:=yak h
 clear hm hd hp hbg hsu hx h
 obtain⟨W0,hW0⟩:=yet HK.out 57
 have HB0:Hid (Below w.heap.size w W0):=by rw [←hW0];exact(Below.refl _ w).alloc (Nat.le_refl _) _
 have HP0:Hid (Bk W0 w.heap.size 57 #[.int .i64 k.m.n,.int .i64 k.m.s,.slice ai k.m.i.length ci,.slice ah k.m.h.length ch,.slice ae k.m.e.length ce,.int .i64 k.m.z,.slice ad k.d.length cd,.slice ap k.p.length cp,.slice ab k.b.length cb,.int .i64 k.t,.int .i64 k.q,.bool k.f,.slice au k.s.length cu,.slice ax k.x.length cx]):=by rw [←hW0];exact Bk.new w _ _
 have HW:=yak hW0
 have hs0:w.heap.size<W0.heap.size:=HP0.out.lt
 obtain⟨i3,hi3,hz0,hz1,hz2⟩:=info_parts info3
 obtain⟨B,hB⟩:∃B,B=W0.heap.size:=⟨_,rfl⟩
 have hB1:B≤W0.heap.size:=by omega
 have hB2:w.heap.size<B:=by omega
 clear hB hW0
 have hw:=HW.out
 go_enter Tryz.func101,Tryz.ntmps101
 go_wp2
 clear hw
 go_loopw [3,4] (fun o i wr=>∃(j:Nat) (v:Value),j≤k.b.length∧v=o∧i= .int .i64 j∧RowZ B wr o (bagT (k.b.take j))∧Below B W0 wr) (fun _ i _=>k.b.length-(intOf i).toNat)
 case atStart=>exact⟨0,_,Nat.zero_le _,rfl,rfl,RowZ.nil _ _,Below.refl _ _⟩
 case round=>
  obtain⟨j,o,hj,rfl,rfl,hR,hBr⟩:=hrel
  have HR:=yak hR
  have HBB:Hid (Below B W0 wr):=hBr
  have HBr:=yak (HB0.out.trans (hBr.mono (by omega)))
  have HPr:=yak (HP0.out.low hBr hB2)
  have hs1:B≤wr.heap.size:=Nat.le_trans hB1 hBr.size
  have m8:=HPr.out.cell (i:=8) rfl
  clear hR hBr
  by_cases hlt:j<k.b.length
  ·obtain⟨b,off,rfl,hb,hMA⟩:=HBG.out.resolve_left (by intro e;rw [e]at hlt;simp at hlt)
   have hml:=(hMA j hlt).below HBr.out hb
   have f7:=hml.f7
   have f6:=hml.f6
   have HNX:=yak (yvo hlt)
   have hbl2:(bagT (k.b.take j)).length≤1048576:=Nat.le_trans (yqi _) (by rw [List.length_take];omega)
   generalize bagT (k.b.take j)=lq at HR HNX hbl2
   clear hml hMA
   cases ha:(mlAt k.b j).a with
   |true=>
    have HN2:Hid (bagT (k.b.take (j+1))=lq):=by show _=_;rw [HNX.out,ha];simp
    rw [ha]at f7
    clear ha
    go_wp2
    go_roundw
    case rel=>exact⟨j+1,_,by omega,rfl,by go_num,by rw [HN2.out];exact HR.out,HBB.out⟩
    case measure=>simp [intOf];omega
   |false=>
    have HN2:Hid (bagT (k.b.take (j+1))=lq++ [(mlAt k.b j).e.g]):=by show _=_;rw [HNX.out,ha];simp
    rw [ha]at f7
    clear ha
    generalize (mlAt k.b j).e.g=g at f6 HN2
    go_wp2_with (at_builtin;refine wpList_append_own _ rfl _ _ 22 rfl B 3 i3 (.int .i64 0) 1 8 Tryz.underlying22 hi3 hz0 hz1 hz2 rfl (by decide) o _ _ rfl (World.ownsRow.alloc HR.out _) ⟨wr.heap.size,0,none⟩ 1 1 [.int .i64 g] rfl rfl (ypc _ _) (oneZ _) (by unfold maxLen;omega) (by omega) (by simp;omega) ?_;intro v4 w4 hown hgrow hnil)
    go_roundw
    case rel=>exact⟨j+1,_,by omega,rfl,by go_num,by rw [HN2.out];exact RowZ.grow hown,(HBB.out.alloc hs1 _).grown hgrow (by simp;omega) (fun q e=>RowZ.ge HR.out e)⟩
    case measure=>simp [intOf];omega
  ·obtain rfl:k.b.length=j:=by omega
   rw [List.take_length]at HR
   obtain⟨W1,rfl⟩:∃W1,W1=wr:=⟨wr,rfl⟩
   have HR1:=yak HR.out
   have HBB1:Hid (Below B W0 W1):=HBB.out
   clear HR HBB HBr HPr hj hlt hs1
   go_wp2
   clear m8
   go_loopw [3,5] (fun o i wr=>∃(j:Nat) (v:Value),j≤k.p.length∧v=o∧i= .int .i64 j∧Hid (∀i,i<j→ytu k (paAt k.p i)=true)∧RowZ B wr o (bagT k.b++yc6 (k.p.take j))∧Below B W0 wr) (fun _ i _=>k.p.length-(intOf i).toNat)
   case atStart=>exact⟨0,_,Nat.zero_le _,rfl,rfl,fun i hi=>by omega,by simpa [yc6] using HR1.out,HBB1.out⟩
   case round=>
    clear HR1 HBB1
    obtain⟨j,o,hj,rfl,rfl,HAK,hR,hBr⟩:=hrel
    have HR:=yak hR
    have HBB:Hid (Below B W0 wr):=hBr
    have HBr:=yak (HB0.out.trans (hBr.mono (by omega)))
    have HPr:=yak (HP0.out.low hBr hB2)
    have hs1:B≤wr.heap.size:=Nat.le_trans hB1 hBr.size
    have m7:=HPr.out.cell (i:=7) rfl
    clear hR hBr
    by_cases hlt:j<k.p.length
    ·obtain⟨b,off,rfl,hb,hPA⟩:=HPP.out.resolve_left (by intro e;rw [e]at hlt;simp at hlt)
     obtain⟨a1,c1,a4,c4,a5,c5,a6,c6,hp⟩:=hPA j hlt
     have f0:=cst HBr.out hb hp.f0
     have f1:=cst HBr.out hb hp.f1
     have f2:=cst HBr.out hb hp.f2
     have f3:=cst HBr.out hb hp.f3
     have f4:=cst HBr.out hb hp.f4
     have f5:=cst HBr.out hb hp.f5
     have f6:=cst HBr.out hb hp.f6
     have HT:=yak hp.d5.isEvs.rows
     have HPS:=yak (yct hp.d4)
     have HAN:=yak hp.d6.isI.rows
     have HNX:Hid (bagT k.b++yc6 (k.p.take (j+1))=(bagT k.b++yc6 (k.p.take j))++(yo1 (paAt k.p j)++ymv (paAt k.p j))):=(by rw [yje hlt];simp:bagT k.b++yc6 (k.p.take (j+1))=_)
     have hlq:(bagT k.b++yc6 (k.p.take j)).length≤1048576:=by
      have h1:(yc6 (k.p.take j)).length≤(yc6 k.p).length:=by
       conv=>rhs;rw [←List.take_append_drop j k.p]
       unfold yc6
       rw [List.flatMap_append,List.length_append]
       omega
      rw [List.length_append]
      omega
     have hwt:=HWP.out j hlt
     have hlens:(paAt k.p j).t.length≤1048576∧(paAt k.p j).p.length≤1048576∧(paAt k.p j).a.length≤1048576∧ ∀i,i<(paAt k.p j).p.length→(psAt (paAt k.p j).p i).s.length≤1048576:=by
      unfold Pa.wt at hwt
      simp only [yal,yb2]at hwt
      have h2:=yc3 (paAt k.p j).p
      refine⟨by omega,by omega,by omega,fun i hi=> ?_⟩
      have h9:(psAt (paAt k.p j).p i).wt≤(yay (paAt k.p j).p).wt:=Ps.wt_le hi
      unfold Ps.wt at h9
      simp only [yal,yb2,ycm]at h9
      omega
     obtain⟨htl,hpl2,hal,hsl2⟩:=hlens
     have HSL:=yak hsl2
     generalize bagT k.b++yc6 (k.p.take j)=lq at HR HNX hlq
     obtain⟨PB,hPB⟩:∃PB,PB=wr.heap.size:=⟨_,rfl⟩
     obtain⟨V,hV⟩:∃V,wr.alloc (.cells #[.int .i64 (paAt k.p j).n,.slice a1 (paAt k.p j).st.r.length c1,.int .i64 (paAt k.p j).st.q,.int .i64 (paAt k.p j).st.d,.slice a4 (paAt k.p j).p.length c4,.slice a5 (paAt k.p j).t.length c5,.slice a6 (paAt k.p j).a.length c6] 97)=V:=⟨_,rfl⟩
     have HQV:Hid (Bk V PB 97 #[.int .i64 (paAt k.p j).n,.slice a1 (paAt k.p j).st.r.length c1,.int .i64 (paAt k.p j).st.q,.int .i64 (paAt k.p j).st.d,.slice a4 (paAt k.p j).p.length c4,.slice a5 (paAt k.p j).t.length c5,.slice a6 (paAt k.p j).a.length c6]):=by rw [←hV,hPB];exact Bk.new _ _ _
     have HRV:Hid (RowZ B V o lq):=by rw [←hV];exact HR.out.alloc _
     have HBV:Hid (Below B W0 V):=by rw [←hV];exact HBB.out.alloc hs1 _
     have HPBe:Hid (PB=wr.heap.size):=hPB
     have HVe:=yak hV
     clear hp hPA hwt hsl2 hPB hV HR HBB HBr HPr hs1
     go_wp2
     rw [HVe.out,←HPBe.out]
     clear HVe HPBe f0 f1 f2 f3 f4 f5 f6 m7
     go_loopw [3,7] (fun o i wr=>∃(i':Nat) (v:Value),i'≤(paAt k.p j).t.length∧v=o∧i= .int .i64 i'∧RowZ B wr o (lq++((paAt k.p j).t.take i').map (·.g))∧Bk wr PB 97 #[.int .i64 (paAt k.p j).n,.slice a1 (paAt k.p j).st.r.length c1,.int .i64 (paAt k.p j).st.q,.int .i64 (paAt k.p j).st.d,.slice a4 (paAt k.p j).p.length c4,.slice a5 (paAt k.p j).t.length c5,.slice a6 (paAt k.p j).a.length c6]∧Below B W0 wr) (fun _ i _=>(paAt k.p j).t.length-(intOf i).toNat)
     case atStart=>exact⟨0,_,Nat.zero_le _,rfl,rfl,by simpa using HRV.out,HQV.out,HBV.out⟩
     case round=>
      clear HRV HQV HBV
      obtain⟨i,o,hi,rfl,rfl,hR,hQ,hBr⟩:=hrel
      have HR:=yak hR
      have HQ:=yak hQ
      have HBB:Hid (Below B W0 wr):=hBr
      have HBr:=yak (HB0.out.trans (hBr.mono (by omega)))
      have hs1:B≤wr.heap.size:=Nat.le_trans hB1 hBr.size
      have m5:=HQ.out.cell (i:=5) rfl
      clear hR hBr hQ
      by_cases hlt2:i<(paAt k.p j).t.length
      ·obtain⟨b5,off5,rfl,hb5,hc5⟩:=HT.out.resolve_left (by intro e;rw [e]at hlt2;simp at hlt2)
       have g6:=((hc5 i hlt2).below HBr.out hb5).f6
       have HN2:Hid (lq++((paAt k.p j).t.take (i+1)).map (·.g)=(lq++((paAt k.p j).t.take i).map (·.g))++ [(evAt (paAt k.p j).t i).g]):=(by rw [yi6 hlt2];simp:lq++((paAt k.p j).t.take (i+1)).map (·.g)=_)
       have hl2:(lq++((paAt k.p j).t.take i).map (·.g)).length≤3000000:=by rw [List.length_append,List.length_map,List.length_take];omega
       generalize lq++((paAt k.p j).t.take i).map (·.g)=l2 at HR HN2 hl2
       generalize (evAt (paAt k.p j).t i).g=g at g6 HN2
       clear hc5
       go_wp2_with (at_builtin;refine wpList_append_own _ rfl _ _ 22 rfl B 3 i3 (.int .i64 0) 1 8 Tryz.underlying22 hi3 hz0 hz1 hz2 rfl (by decide) o _ _ rfl (World.ownsRow.alloc HR.out _) ⟨wr.heap.size,0,none⟩ 1 1 [.int .i64 g] rfl rfl (ypc _ _) (oneZ _) (by unfold maxLen;omega) (by omega) (by simp;omega) ?_;intro v4 w4 hown hgrow hnil)
       go_roundw
       case rel=>exact⟨i+1,_,by omega,rfl,by go_num,by rw [HN2.out];exact RowZ.grow hown,(HQ.out.alloc _).turns (grownT hgrow) (HR.out.ne HQ.out (by decide)),(HBB.out.alloc hs1 _).grown hgrow (by simp;omega) (fun q e=>RowZ.ge HR.out e)⟩
       case measure=>simp [intOf];omega
      ·obtain rfl:(paAt k.p j).t.length=i:=by omega
       rw [List.take_length]at HR
       have HN3:Hid (bagT k.b++yc6 (k.p.take (j+1))=(lq++(paAt k.p j).t.map (·.g))++ymv (paAt k.p j)):=(by rw [HNX.out,yo1];simp:bagT k.b++yc6 (k.p.take (j+1))=_)
       have hl3:(lq++(paAt k.p j).t.map (·.g)).length≤3000000:=by rw [List.length_append,List.length_map];omega
       generalize lq++(paAt k.p j).t.map (·.g)=l3 at HR HN3 hl3
       obtain⟨W2,rfl⟩:∃W2,W2=wr:=⟨wr,rfl⟩
       have HR2:Hid (RowZ B W2 o l3):=HR.out
       have HQ2:=yak HQ.out
       have HBB2:Hid (Below B W0 W2):=HBB.out
       clear HR HQ HBB HBr hs1 hi hlt2 HNX
       go_wp2
       clear m5
       go_loopw [3,8] (fun o i wr=>∃(i':Nat) (v:Value),i'≤(paAt k.p j).p.length∧v=o∧i= .int .i64 i'∧Hid (∀q,q<i'→ytc k (psAt (paAt k.p j).p q)=true)∧RowZ B wr o (l3++((paAt k.p j).p.take i').map (·.e.g))∧Bk wr PB 97 #[.int .i64 (paAt k.p j).n,.slice a1 (paAt k.p j).st.r.length c1,.int .i64 (paAt k.p j).st.q,.int .i64 (paAt k.p j).st.d,.slice a4 (paAt k.p j).p.length c4,.slice a5 (paAt k.p j).t.length c5,.slice a6 (paAt k.p j).a.length c6]∧Below B W0 wr) (fun _ i _=>(paAt k.p j).p.length-(intOf i).toNat)
       case atStart=>exact⟨0,_,Nat.zero_le _,rfl,rfl,fun q hq=>by omega,by simpa using HR2.out,HQ2.out,HBB2.out⟩
       case round=>
        clear HR2 HQ2 HBB2
        obtain⟨i,o,hi,rfl,rfl,HAS,hR,hQ,hBr⟩:=hrel
        have HR:=yak hR
        have HQ:=yak hQ
        have HBB:Hid (Below B W0 wr):=hBr
        have HBr:=yak (HB0.out.trans (hBr.mono (by omega)))
        have hs1:B≤wr.heap.size:=Nat.le_trans hB1 hBr.size
        have m4:=HQ.out.cell (i:=4) rfl
        clear hR hBr hQ
        by_cases hlt2:i<(paAt k.p j).p.length
        ·obtain⟨b4,off4,rfl,hb4,hc4⟩:=HPS.out.resolve_left (by intro e;rw [e]at hlt2;simp at hlt2)
         obtain⟨a7,c7,a10,c10,a11,c11,hpp⟩:=hc4 i hlt2
         have g6:=(HBr.out.cell (p:=⟨b4,_,none⟩) hb4).trans hpp.ev.f6
         have HSE:=yak hpp.d10.isEvs.rows
         have HF10:=yak hpp.f10
         have HB4:Hid (b4<w.heap.size):=hb4
         have HN2:Hid (l3++((paAt k.p j).p.take (i+1)).map (·.e.g)=(l3++((paAt k.p j).p.take i).map (·.e.g))++ [(psAt (paAt k.p j).p i).e.g]):=(by rw [ykk hlt2];simp:l3++((paAt k.p j).p.take (i+1)).map (·.e.g)=_)
         have hl2:(l3++((paAt k.p j).p.take i).map (·.e.g)).length≤5000000:=by rw [List.length_append,List.length_map,List.length_take];omega
         have hsn:(psAt (paAt k.p j).p i).s.length≤1048576:=HSL.out i hlt2
         generalize l3++((paAt k.p j).p.take i).map (·.e.g)=l2 at HR HN2 hl2
         generalize (psAt (paAt k.p j).p i).e.g=g at g6 HN2
         clear hc4 hpp
         go_wp2_with (at_builtin;refine wpList_append_own _ rfl _ _ 22 rfl B 3 i3 (.int .i64 0) 1 8 Tryz.underlying22 hi3 hz0 hz1 hz2 rfl (by decide) o _ _ rfl (World.ownsRow.alloc HR.out _) ⟨wr.heap.size,0,none⟩ 1 1 [.int .i64 g] rfl rfl (ypc _ _) (oneZ _) (by unfold maxLen;omega) (by omega) (by simp;omega) ?_;intro v4 w4 hown hgrow hnil;have HR4:Hid (RowZ B w4 v4 (l2++ [g])):=RowZ.grow hown;have HQ4:Hid (Bk w4 PB 97 #[.int .i64 (paAt k.p j).n,.slice a1 (paAt k.p j).st.r.length c1,.int .i64 (paAt k.p j).st.q,.int .i64 (paAt k.p j).st.d,.slice (some ⟨b4,off4,none⟩) (paAt k.p j).p.length c4,.slice a5 (paAt k.p j).t.length c5,.slice a6 (paAt k.p j).a.length c6]):=(HQ.out.alloc _).turns (grownT hgrow) (HR.out.ne HQ.out (by decide));have HBB4:Hid (Below B W0 w4):=(HBB.out.alloc hs1 _).grown hgrow (by simp;omega) (fun q e=>RowZ.ge HR.out e);clear hown hgrow hnil)
         clear m4 g6 HR HQ HBB HBr hs1
         go_loopw [9] (fun s wr=>∃s':Nat,s'≤(psAt (paAt k.p j).p i).s.length∧s= .int .i64 s'∧Hid (∀q,q<s'→evIn k.m (evAt (psAt (paAt k.p j).p i).s q)=true∧(evAt (psAt (paAt k.p j).p i).s q).g<k.t)∧Below w4.heap.size w4 wr) (fun s _=>(psAt (paAt k.p j).p i).s.length-(intOf s).toNat)
         case atStart=>exact⟨0,Nat.zero_le _,rfl,fun q hq=>by omega,Below.refl _ _⟩
         case round=>
          obtain⟨s,hs',rfl,HAV,hB⟩:=hrel
          have HQs:=yak (HQ4.out.below hB)
          have HBBs:Hid (Below B W0 wr):=HBB4.out.trans (hB.mono (Nat.le_trans hB1 HBB4.out.size))
          have HBs:=yak (HB0.out.trans (HBBs.out.mono (by omega)))
          have HKs:=yak (HP0.out.low HBBs.out hB2)
          have HB4s:=yak hB
          have m4:=HQs.out.cell (i:=4) rfl
          have f10:=(HBs.out.cell (p:=⟨b4,_,none⟩) HB4.out).trans HF10.out
          clear hB
          by_cases hlt3:s<(psAt (paAt k.p j).p i).s.length
          ·obtain⟨b6,off6,rfl,hb6,hc6⟩:=HSE.out.resolve_left (by intro e;rw [e]at hlt3;simp at hlt3)
           obtain⟨e0,e1,e2,e3,e4,e5,e6⟩:=(hc6 s hlt3).below HBs.out hb6
           have HBX:Hid (evIn k.m (evAt (psAt (paAt k.p j).p i).s s)=true→(evAt (psAt (paAt k.p j).p i).s s).g<k.t→ ∀q,q<s+1→evIn k.m (evAt (psAt (paAt k.p j).p i).s q)=true∧(evAt (psAt (paAt k.p j).p i).s q).g<k.t):=fun h1 h2 q hq=>by
            by_cases e:q=s
            ·subst e;exact⟨h1,h2⟩
            ·exact HAV.out q (by omega)
           have HNO:Hid (¬(evIn k.m (evAt (psAt (paAt k.p j).p i).s s)=true∧(evAt (psAt (paAt k.p j).p i).s s).g<k.t)→yfv k=false):=fun h1=>yac (fun h=>h1 (sentK_iff.1 ((partK_iff.1 ((tagsB_iff.1 h).1 j hlt)).1 i hlt2) s hlt3))
           generalize evAt (psAt (paAt k.p j).p i).s s=ev at e0 e1 e2 e3 e4 e5 e6 HBX HNO
           clear hc6
           obtain⟨V6,hV6⟩:∃V,wr.alloc (.cells #[.int .i64 ev.t,.int .i64 ev.s,.int .i64 ev.q,.int .i64 ev.d,.int .i64 ev.k,.int .i64 ev.v,.int .i64 ev.g] 110)=V:=⟨_,rfl⟩
           have HE6:=hdq (bkA hV6)
           have HB6:=hdq (beA hV6)
           have HK6:=yak (HKs.out.below HB6.out)
           obtain⟨k0,k1,k2,k3,k4,k5⟩:=yvl HK6.out
           obtain⟨v0,v1,v2,v3,v4,v5,v6⟩:=c7_7 HE6.out
           go_wp2_with fail
           clear e0 e1 e2 e3 e4 e5 e6 m4 f10 hV6 k0 k1 k2 k3 k4 k5 v0 v1 v2 v3 v4 v5 v6
           refine(yco _ k.m ev _ rfl _ (HM.out.below (trm HBs.out HB6.out))).mono ?_
           rintro e w7 ⟨rfl,hb7⟩
           have HB7:=trh HB6 hb7
           have v6:=(HE6.out.below hb7).cell (i:=6) rfl
           have k9:=(HK6.out.below hb7).cell (i:=9) rfl
           clear hb7
           cases hev:evIn k.m ev with
           |false=>
            have HN:Hid (yfv k=false):=HNO.out (fun h=>by rw [hev]at h;cases h.1)
            clear hev
            go_wp2
            go_ret
            exact⟨ya0 HN.out.symm,trm HBs.out HB7.out⟩
           |true=>
            have K1:Hid (evIn k.m ev=true):=hev
            clear hev
            by_cases hg:ev.g<k.t
            case neg=>
             have hg':k.t≤ev.g:=by omega
             have HN:Hid (yfv k=false):=HNO.out (fun h=>hg h.2)
             clear hg
             go_wp2
             go_ret
             exact⟨ya0 HN.out.symm,trm HBs.out HB7.out⟩
            have hg':¬k.t≤ev.g:=by omega
            have K2:Hid (ev.g<k.t):=hg
            clear hg
            go_wp2
            go_roundw
            case rel=>exact⟨s+1,by omega,by go_num,HBX.out K1.out K2.out,trm HB4s.out HB7.out⟩
            case measure=>simp [intOf];omega
          ·obtain rfl:(psAt (paAt k.p j).p i).s.length=s:=by omega
           have K9:=yak (sentK_iff.2 HAV.out)
           go_wp2
           go_roundw
           case rel=>exact⟨i+1,_,by omega,rfl,by go_num,fun q hq=>by
            by_cases e:q=i
            ·subst e;exact K9.out
            ·exact HAS.out q (by omega),by rw [HN2.out];exact HR4.out.below HB4s.out,HQs.out,HBBs.out⟩
           case measure=>simp [intOf];omega
        ·obtain rfl:(paAt k.p j).p.length=i:=by omega
         rw [List.take_length]at HR
         have HN4:Hid (bagT k.b++yc6 (k.p.take (j+1))=l3++(paAt k.p j).p.map (·.e.g)):=(by rw [HN3.out,ymv]:bagT k.b++yc6 (k.p.take (j+1))=_)
         have HSA:=yak HAS.out
         obtain⟨W3,rfl⟩:∃W3,W3=wr:=⟨wr,rfl⟩
         have HR3:=yak HR.out
         have HQ3:=yak HQ.out
         have HBB3:Hid (Below B W0 W3):=HBB.out
         clear HR HQ HBB HBr hs1 hi hlt2 HAS HN3
         go_wp2
         clear m4
         go_loopw [11] (fun s wr=>∃s':Nat,s'≤(paAt k.p j).a.length∧s= .int .i64 s'∧Hid (∀q,q<s'→intAt (paAt k.p j).a q<k.t)∧Below W3.heap.size W3 wr) (fun s _=>(paAt k.p j).a.length-(intOf s).toNat)
         case atStart=>exact⟨0,Nat.zero_le _,rfl,fun q hq=>by omega,Below.refl _ _⟩
         case round=>
          obtain⟨s,hs',rfl,HAV,hB⟩:=hrel
          have HQs:=yak (HQ3.out.below hB)
          have HBBs:Hid (Below B W0 wr):=HBB3.out.trans (hB.mono (Nat.le_trans hB1 HBB3.out.size))
          have HBs:=yak (HB0.out.trans (HBBs.out.mono (by omega)))
          have HKs:=yak (HP0.out.low HBBs.out hB2)
          have HB4s:=yak hB
          have m6:=HQs.out.cell (i:=6) rfl
          clear hB
          by_cases hlt3:s<(paAt k.p j).a.length
          ·obtain⟨b6,off6,rfl,hb6,hc6⟩:=HAN.out.resolve_left (by intro e;rw [e]at hlt3;simp at hlt3)
           have hbr:b6<wr.heap.size:=Nat.lt_of_lt_of_le hb6 HBs.out.size
           have e0:∀q:Beyond wr,q.w.cell? ⟨b6,off6+s,none⟩=some (.int .i64 (intAt (paAt k.p j).a s)):=fun q=>q.cell hbr ((HBs.out.cell (p:=⟨b6,_,none⟩) hb6).trans (hc6 s hlt3))
           have y6:=ya5 (i:=6) HQs.out rfl
           have y9:=ya5 (i:=9) HKs.out rfl
           have hne:=neB wr
           have HBX:Hid (intAt (paAt k.p j).a s<k.t→ ∀q,q<s+1→intAt (paAt k.p j).a q<k.t):=fun h1 q hq=>by
            by_cases e:q=s
            ·subst e;exact h1
            ·exact HAV.out q (by omega)
           have HNO:Hid (¬intAt (paAt k.p j).a s<k.t→yfv k=false):=fun h1=>yac (fun h=>h1 ((partK_iff.1 ((tagsB_iff.1 h).1 j hlt)).2 s hlt3))
           have hki:(s:Int)<((paAt k.p j).a.length:Int):=by omega
           generalize intAt (paAt k.p j).a s=z at e0 HBX HNO
           clear hc6
           by_cases hg:z<k.t
           case neg=>
            have hg':decide (k.t≤z)=true:=decide_eq_true (by omega)
            have HN:Hid (yfv k=false):=HNO.out hg
            clear hg
            go_wp2_with fail
            refine wrb ?_
            repeat(go_big_quiet_step (fail))
            refine wpQuiet_nil ?_
            rintro w3 ⟨⟨_,hb3⟩,rfl⟩
            have HB3:=yak hb3
            clear hb3
            go_wp2
            go_ret
            exact⟨ya0 HN.out.symm,trm HBs.out HB3.out⟩
           have hg':decide (k.t≤z)=false:=decide_eq_false (by omega)
           have K2:Hid (z<k.t):=hg
           clear hg
           go_wp2_with fail
           refine wrb ?_
           repeat(go_big_quiet_step (fail))
           refine wpQuiet_nil ?_
           rintro w3 ⟨⟨_,hb3⟩,rfl⟩
           have HB3:=yak hb3
           clear hb3
           go_wp2
           go_roundw
           case rel=>exact⟨s+1,by omega,by go_num,HBX.out K2.out,trm HB4s.out HB3.out⟩
           case measure=>simp [intOf];omega
          ·obtain rfl:(paAt k.p j).a.length=s:=by omega
           have K9:=yak (partK_iff.2 ⟨HSA.out,HAV.out⟩)
           go_wp2
           go_roundw
           case rel=>exact⟨j+1,_,by omega,rfl,by go_num,fun q hq=>by
            by_cases e:q=j
            ·subst e;exact K9.out
            ·exact HAK.out q (by omega),by rw [HN4.out];exact HR3.out.below HB4s.out,HBBs.out⟩
           case measure=>simp [intOf];omega
    ·obtain rfl:k.p.length=j:=by omega
     rw [List.take_length]at HR
     have HTE:Hid (yk5 k=bagT k.b++yc6 k.p):=(rfl:yk5 k=_)
     have HPK:=yak HAK.out
     obtain⟨W4,rfl⟩:∃W4,W4=wr:=⟨wr,rfl⟩
     have hll:(bagT k.b++yc6 k.p).length≤1048576:=by rw [List.length_append];exact hTL
     rw [←HTE.out]at HR hll
     have HTB:Hid (yfv k=ynp k.t (yk5 k)):=(by
      cases e:ynp k.t (yk5 k)
      ·exact yac (fun h=>by have:=(tagsB_iff.1 h).2;rw [e]at this;cases this)
      ·exact tagsB_iff.2 ⟨HPK.out,e⟩:yfv k=_)
     generalize yk5 k=l at HR hll HTB
     obtain⟨ao,co,rfl,hco1,hco2,hro⟩:=HR.out.form
     have HRO:=yak hro
     have HB4:=yak HBr.out
     have HK4:=yak HPr.out
     clear hro HR HBB HBr HPr hs1 hj hlt HAK HTE HPK
     go_wp2
     clear m7
     go_loopw [12] (fun s wr=>∃s':Nat,s'≤l.length∧s= .int .i64 s'∧Hid (∀q,q<s'→intAt l q<k.t∧hasI l q (intAt l q)=false)∧Below W4.heap.size W4 wr) (fun s _=>l.length-(intOf s).toNat)
     case atStart=>exact⟨0,Nat.zero_le _,rfl,fun q hq=>by omega,Below.refl _ _⟩
     case round=>
      obtain⟨s,hs',rfl,HAV,hB⟩:=hrel
      have HBs:=trh HB4 hB
      have HKs:=yak (HK4.out.below hB)
      have HB4s:=yak hB
      by_cases hlt3:s<l.length
      ·obtain⟨g,rfl,hg0,hc6⟩:=HRO.out.resolve_left (by intro e;rw [e]at hlt3;simp at hlt3)
       have hbr:g<wr.heap.size:=Nat.lt_of_lt_of_le hg0 hB.size
       have HIA:Hid (∀q:Beyond wr,IntsAt q.w g 0 l):=fun q=>⟨Nat.lt_of_lt_of_le hbr q.h.size,fun i hi=>q.cell hbr ((hB.cell (p:=⟨g,_,none⟩) hg0).trans (hc6 i hi))⟩
       have e0:∀q:Beyond wr,q.w.cell? ⟨g,s,none⟩=some (.int .i64 (intAt l s)):=fun q=>by have:=(HIA.out q).2 s hlt3;rwa [Nat.zero_add]at this
       have y9:=ya5 (i:=9) HKs.out rfl
       have hne:=neB wr
       have hki:(s:Int)<(l.length:Int):=by omega
       have hsc:(s:Int)≤(co:Int):=by omega
       have hll9:l.length≤100000000:=by omega
       have HNO:Hid (¬(intAt l s<k.t∧hasI l s (intAt l s)=false)→yfv k=false):=fun h1=>by rw [HTB.out];exact yac (fun h=>h1 (diffB_iff.1 h s hlt3))
       have HBX:Hid (intAt l s<k.t∧hasI l s (intAt l s)=false→ ∀q,q<s+1→intAt l q<k.t∧hasI l q (intAt l q)=false):=fun h1 q hq=>by
        by_cases e:q=s
        ·subst e;exact h1
        ·exact HAV.out q (by omega)
       have HFH:Hid (0≤fstI l (intAt l s) s↔hasI l s (intAt l s)=true):=yq2
       generalize hfz:fstI l (intAt l s) s=fz at HFH
       have KF:=yak hfz
       clear hc6 hB hfz
       by_cases hg:intAt l s<k.t
       case neg=>
        have hg':decide (k.t≤intAt l s)=true:=decide_eq_true (by omega)
        have HN:Hid (yfv k=false):=HNO.out (fun h=>hg h.1)
        clear hg
        go_wp2_with fail
        refine wrb ?_
        repeat(go_big_quiet_step (fail))
        refine wpQuiet_nil ?_
        rintro w3 ⟨⟨_,hb3⟩,rfl⟩
        have HB3:=yak hb3
        clear hb3
        go_wp2
        go_ret
        exact⟨ya0 HN.out.symm,trm HBs.out HB3.out⟩
       have hg':decide (k.t≤intAt l s)=false:=decide_eq_false (by omega)
       have K2:Hid (intAt l s<k.t):=hg
       clear hg
       by_cases hf:0≤fz
       ·have hf':decide (0≤fz)=true:=decide_eq_true hf
        have HN:Hid (yfv k=false):=HNO.out (fun h=>by have:=HFH.out.1 hf;rw [h.2]at this;cases this)
        go_wp2_with fail
        refine wrb ?_
        repeat(go_big_quiet_step (first|(go_at_call 150;exact Beyond.of (KF.out▸ytf _ s _ l (intAt l s) _ (by omega) hll9 (.inr ⟨g,0,rfl,HIA.out _⟩)))))
        refine wpQuiet_nil ?_
        rintro w3 ⟨⟨_,hb3⟩,rfl⟩
        have HB3:=yak hb3
        clear hb3
        go_wp2
        go_ret
        exact⟨ya0 HN.out.symm,trm HBs.out HB3.out⟩
       ·have hf':decide (0≤fz)=false:=decide_eq_false hf
        have K3:=yak (yac (fun h=>hf (HFH.out.2 h)))
        go_wp2_with fail
        refine wrb ?_
        repeat(go_big_quiet_step (first|(go_at_call 150;exact Beyond.of (KF.out▸ytf _ s _ l (intAt l s) _ (by omega) hll9 (.inr ⟨g,0,rfl,HIA.out _⟩)))))
        refine wpQuiet_nil ?_
        rintro w3 ⟨⟨_,hb3⟩,rfl⟩
        have HB3:=yak hb3
        clear hb3
        go_wp2
        go_roundw
        case rel=>exact⟨s+1,by omega,by go_num,HBX.out ⟨K2.out,K3.out⟩,trm HB4s.out HB3.out⟩
        case measure=>simp [intOf];omega
      ·obtain rfl:l.length=s:=by omega
       have HY:Hid (yfv k=true):=by rw [HTB.out];exact diffB_iff.2 HAV.out
       clear hB
       go_wp2
       go_ret
       exact⟨ya0 HY.out.symm,HBs.out⟩
end Go.Proofs.YtmobiieoecjmdaaGreat

