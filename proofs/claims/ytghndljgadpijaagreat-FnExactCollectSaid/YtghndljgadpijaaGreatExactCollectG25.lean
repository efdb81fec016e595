/- KSd, KSe, KIg, KIh, StI -/
import Derived.Test.YtghndljgadpijaaGreatExactCollectG23
import Derived.Test.YtghndljgadpijaaGreatExactCollectG01
import Derived.Test.YtghndljgadpijaaGreatExactCollectLKSc
import Derived.Test.YtghndljgadpijaaGreatExactCollectG13
import Derived.Test.YtghndljgadpijaaGreatExactCollectG21
/- Rows of numbers that grow; the specification's l4antiAt. -/
namespace Go.Proofs.YtghndljgadpijaaGreat
open Go.RowKit
theorem hidKSd {p:Prop} (h:p):Hid p:=h
def RowZ (B:Nat) (w:World) (x:Value) (l:List Int):Prop:=w.ownsRow B 3 1 x l.length (intCells l)
theorem zfx (l l':List Int):intCells (l++l')=intCells l++intCells l':=by simp [intCells]
theorem RowZ.nil (B:Nat) (w:World):RowZ B w (.slice none 0 0) []:=World.ownsRow_nil w B 3 1
theorem RowZ.alloc {B:Nat} {w:World} {x:Value} {l:List Int} (h:RowZ B w x l) (o:Obj):RowZ B (w.alloc o) x l:=World.ownsRow.alloc h o
theorem RowZ.below {B:Nat} {w w':World} {x:Value} {l:List Int} (h:RowZ B w x l) (hb:Below w.heap.size w w'):RowZ B w' x l:=by
  obtain⟨h0,h1|⟨g,cap,cur,e,hg,hc,h1⟩⟩:=h
  · exact⟨h0,.inl h1⟩
  · exact⟨h0,.inr ⟨g,cap,cur,e,hg,(hb.block g (Array.getElem?_eq_some_iff.1 hc).1).trans hc,h1⟩⟩
theorem RowZ.ne {B:Nat} {w:World} {x:Value} {l:List Int} (h:RowZ B w x l) {P:Nat} {T:TypeId} {vs:Array Value} (hb:Bk w P T vs) (hT:T≠3):¬x.ownBlock=some P:=by
  intro e
  obtain⟨_,⟨rfl,_⟩|⟨g,cap,cur,rfl,_,hc,_⟩⟩:=h
  · simp [Value.ownBlock]at e
  · simp [Value.ownBlock]at e
    subst e
    have hb':w.heap[g]? =some (.cells vs T):=hb
    rw [hb']at hc
    simp at hc
    exact hT hc.2
theorem RowZ.ge {B:Nat} {w:World} {x:Value} {l:List Int} (h:RowZ B w x l) {r:Nat} (e:x.ownBlock=some r):B≤r:=by
  obtain⟨_,⟨rfl,_⟩|⟨g,cap,cur,rfl,hg,_⟩⟩:=h
  · simp [Value.ownBlock]at e
  · simp [Value.ownBlock]at e
    omega
theorem RowZ.grow {B:Nat} {w:World} {v:Value} {l:List Int} {z:Int} (h:w.ownsRow B 3 1 v (l.length+1) (intCells l++ [.int .i64 z])):RowZ B w v (l++ [z]):=by
  unfold RowZ
  rw [List.length_append,zfx]
  simpa [intCells] using h
theorem grownT {w w':World} {row:Option Nat} (h:w.grownBy w' row):Turns (fun k=>row=some k) w w':=⟨h.os,h.tape,h.output,h.size,fun k hk hS=>h.block k hk (fun e=>hS e.symm)⟩
theorem zjt (w:World) (a:Value):∀j u,[a][j]? =some u→(w.alloc (.cells #[a] 3)).cell? ((⟨w.heap.size,0,none⟩:Addr).add j)=some u:=by
  intro j u hu
  match j,hu with
  |0,hu=>simp at hu;subst hu;simp [Addr.add]
  |(j+1),hu=>simp at hu
theorem oneZ (a:Int):∀u∈ [Value.int .i64 a],u.oneCell'=true:=by
  intro u hu
  simp at hu
  subst hu
  rfl
theorem RowZ.form {B:Nat} {w:World} {x:Value} {l:List Int} (h:RowZ B w x l):∃a cap,x= .slice a l.length cap∧l.length≤cap∧cap≤maxLen∧(l= []∨ ∃g,a=some ⟨g,0,none⟩∧IntsAt w g 0 l):=by
  have h9:=(OwnI.of_row h).isI
  obtain⟨a,cap,e,h1,h2,h3⟩:=OwnI.of_row h
  refine⟨a,cap,e,h1,h2,h3.imp id ?_⟩
  rintro ⟨g,e,_,_,hr⟩
  exact⟨g,e,hr⟩
def fstI (l:List Int) (z:Int):Nat→Int
  |0=> -1
  |n+1=>if 0≤fstI l z n then fstI l z n else if intAt l n=z then(n:Int)else-1
theorem zkn {l:List Int} {z:Int}:∀{n:Nat},0≤fstI l z n↔hasI l n z=true
  |0=>by
    have:hasI l 0 z=false:=by simp [hasI,allB]
    rw [this]
    simp [fstI]
  |n+1=>by
    have ih:=zkn (l:=l) (z:=z) (n:=n)
    have h1:hasI l (n+1) z=true↔(hasI l n z=true∨intAt l n=z):=by
      unfold hasI
      rw [Bool.not_eq_true',Bool.not_eq_true',←Bool.not_eq_true,←Bool.not_eq_true,allB_iff,allB_iff]
      constructor
      · intro h
        by_cases e:intAt l n=z
        · exact .inr e
        · refine .inl (fun h2=>h (fun i hi=> ?_))
          by_cases e2:i=n
          · subst e2;simp [e]
          · exact h2 i (by omega)
      · rintro (h|h) h2
        · exact h (fun i hi=>h2 i (by omega))
        · have:=h2 n (by omega)
          simp [h]at this
    rw [h1]
    unfold fstI
    by_cases e:0≤fstI l z n
    · rw [if_pos e]
      exact⟨fun _=> .inl (ih.1 e),fun _=>e⟩
    · rw [if_neg e]
      by_cases e2:intAt l n=z
      · rw [if_pos e2]
        exact⟨fun _=> .inr e2,fun _=>by omega⟩
      · rw [if_neg e2]
        exact⟨fun h=>by omega,fun h=>by
          rcases h with h|h
          · exact absurd (ih.2 h) e
          · exact absurd h e2⟩
theorem zi6 {l:List Int} {z:Int} {j:Nat} {r:Int} (h:fstI l z j=r) (h0:0≤r):∀{n:Nat},j≤n→fstI l z n=r
  |0,hn=>by
    obtain rfl:j=0:=by omega
    exact h
  |n+1,hn=>by
    by_cases e:j=n+1
    · subst e;exact h
    · have:=zi6 h h0 (n:=n) (by omega)
      unfold fstI
      rw [this,if_pos h0]
set_option maxRecDepth 100000 in
set_option maxHeartbeats 4000000 in
theorem znk (a:Option Addr) (n cap:Nat) (l:List Int) (z:Int) (w:World) (hn:n≤l.length) (hl:l.length≤100000000) (h:n=0∨ ∃b off,a=some ⟨b,off,none⟩∧IntsAt w b off l):
    Calls Tryz.prog 178 #[.slice a n cap,.int .i64 z] w fun e w'=>e= .returned (.int .i64 (fstI l z n))∧Below w.heap.size w w':=by
  go_enter Tryz.func178,Tryz.ntmps178
  go_wp2
  go_loopw [5] (fun i wr=>∃j:Nat,j≤n∧i= .int .i64 j∧Hid (fstI l z j= -1)∧wr=w) (fun i _=>n-(intOf i).toNat)
  case atStart=>exact⟨0,Nat.zero_le _,rfl,(rfl:fstI l z 0= -1),rfl⟩
  case round=>
    obtain⟨j,hj,rfl,HA,hw⟩:=hrel
    have hw':=hw.symm
    clear hw
    subst hw'
    by_cases hlt:j<n
    · obtain⟨b,off,rfl,hb,hc⟩:=h.resolve_left (by omega)
      have c0:=hc j (by omega)
      have HST:Hid (intAt l j=z→fstI l z n=(j:Int)):=fun e=>by
        have h1:fstI l z (j+1)=(j:Int):=by unfold fstI;rw [HA.out,if_neg (by omega),if_pos e]
        exact zi6 h1 (by omega) (by omega)
      have HNX:Hid (¬intAt l j=z→fstI l z (j+1)= -1):=fun e=>by unfold fstI;rw [HA.out,if_neg (by omega),if_neg e]
      generalize intAt l j=y at c0 HST HNX
      by_cases hy:y=z
      · have HY:=hidKSd (HST.out hy)
        have hyb:(y==z)=true:=by simpa using hy
        clear hy HST HNX
        go_wp2
        go_ret
        exact⟨ywz HY.out.symm,Below.refl _ _⟩
      · have HY:=hidKSd (HNX.out hy)
        have hyb:(y==z)=false:=by simpa using hy
        clear hy HST HNX
        go_wp2
        go_roundw
        case rel=>exact⟨j+1,by omega,by go_num,HY.out,by first|rfl|trivial⟩
        case measure=>simp [intOf];omega
    · obtain rfl:n=j:=by omega
      go_wp2
      go_ret
      exact⟨ywz HA.out.symm,Below.refl _ _⟩
theorem tagsB_iff {k:Kn}:zbd k=true↔(∀i,i<k.p.length→znx k (paAt k.p i)=true)∧zib k.t (zf3 k)=true:=by
  unfold zbd
  simp only [Bool.and_eq_true,allB_iff]
theorem partK_iff {k:Kn} {p:Pa}:znx k p=true↔(∀i,i<p.p.length→zni k (psAt p.p i)=true)∧ ∀i,i<p.a.length→intAt p.a i<k.t:=by
  unfold znx antiK
  simp only [Bool.and_eq_true,allB_iff,decide_eq_true_eq]
theorem sentK_iff {k:Kn} {x:Ps}:zni k x=true↔ ∀i,i<x.s.length→evIn k.m (evAt x.s i)=true∧(evAt x.s i).g<k.t:=by
  unfold zni
  simp only [Bool.and_eq_true,allB_iff,decide_eq_true_eq]
theorem diffB_iff {t:Int} {l:List Int}:zib t l=true↔ ∀i,i<l.length→intAt l i<t∧hasI l i (intAt l i)=false:=by
  unfold zib
  simp only [Bool.and_eq_true,allB_iff,decide_eq_true_eq,Bool.not_eq_true']
theorem zpl {l:List Ml} {i:Nat} (h:i<l.length):bagT (l.take (i+1))=bagT (l.take i)++(if (mlAt l i).a then []else [(mlAt l i).e.g]):=by
  rw [zbt h]
  simp [bagT]
theorem zek {l:List Pa} {i:Nat} (h:i<l.length):yye (l.take (i+1))=yye (l.take i)++(zil (paAt l i)++zhk (paAt l i)):=by
  rw [zde h]
  simp [yye,znv]
theorem zdf {l:List Ev} {i:Nat} (h:i<l.length):l.take (i+1)=l.take i++ [evAt l i]:=by
  rw [List.take_add_one,evAt]
  simp [List.getD,h]
theorem zff {l:List Ps} {i:Nat} (h:i<l.length):l.take (i+1)=l.take i++ [psAt l i]:=by
  rw [List.take_add_one,psAt]
  simp [List.getD,h]
theorem zl1 (l:List Ml):(bagT l).length≤l.length:=by
  induction l with
  |nil=>simp [bagT]
  |cons a l ih=>
    have e:bagT (a::l)=(if a.a then []else [a.e.g])++bagT l:=rfl
    rw [e,List.length_append,List.length_cons]
    split<;>simp<;>omega
theorem zly (l:List Pa):(yye l).length≤(ywi l).wt:=by
  rw [yyb]
  have:∀n,n≤l.length→(yye (l.take n)).length≤sumL (fun i=>(paAt l i).wt) n:=by
    intro n
    induction n with
    |zero=>intro _;simp [yye,sumL]
    |succ n ih=>
      intro hn
      rw [zek (by omega),List.length_append]
      have h1:=ih (by omega)
      have h2:(zil (paAt l n)++zhk (paAt l n)).length≤(paAt l n).wt:=by
        unfold Pa.wt zil zhk
        rw [List.length_append,List.length_map,List.length_map]
        have:=yxh (paAt l n).p
        simp only [ywf,yx0]
        omega
      show _≤sumL (fun i=>(paAt l i).wt) n+(paAt l n).wt
      omega
  have h:=this l.length (Nat.le_refl _)
  rw [List.take_length]at h
  omega
theorem zk1 {k:Kn} (h:k.wt≤1048576):(bagT k.b).length+(yye k.p).length≤1048576:=by
  have h1:=zl1 k.b
  have h2:=zly k.p
  unfold Kn.wt at h
  simp only [yy9]at h
  omega
theorem zc9 {p:Prop} (h:p):Hid p:=h
theorem ecmp_of {a b:Ev} (ha:a.ok=true) (hb:b.ok=true):a.ecmp b=a.cmp b:=by
  unfold Ev.ecmp Ev.cmp ecmp
  rw [if_pos ⟨ha,hb⟩]
theorem zgb (a b:Int):num a b= -num b a:=by
  unfold num
  split<;>split<;>(try split)<;>omega
theorem cmp_opp (a b:Ev):a.cmp b= -b.cmp a:=by
  unfold Ev.cmp cmpI
  rw [zgb a.t b.t,zgb a.s b.s,zgb a.q b.q,zgb a.g b.g]
  by_cases h1:a.t=b.t
  · by_cases h2:a.s=b.s
    · by_cases h3:a.q=b.q
      · simp [h1,h2,h3]
      · have h3':¬b.q=a.q:=fun e=>h3 e.symm
        simp [h1,h2,h3,h3']
    · have h2':¬b.s=a.s:=fun e=>h2 e.symm
      simp [h1,h2,h2']
  · have h1':¬b.t=a.t:=fun e=>h1 e.symm
    simp [h1,h1']
structure MnS (w wr:World) (G:Nat) (cur:Ev):Prop where
  rb:Bk wr w.heap.size 90 (evA zEv)
  gb:Bk wr G 90 (evA cur)
  be:Below w.heap.size w wr
theorem MnS.below {w wr w':World} {G:Nat} {cur:Ev} (h:MnS w wr G cur) (hb:Below wr.heap.size wr w'):MnS w w' G cur:=
  ⟨h.rb.below hb,h.gb.below hb,h.be.trans (hb.mono h.be.size)⟩
theorem MnS.put {w wr:World} {G:Nat} {cur:Ev} (h:MnS w wr G cur) (h1:w.heap.size<G) (e:Ev):MnS w (putEv wr G e) G e:=
  ⟨h.rb.turns (yyg wr G e) (by omega),h.gb.putEv e,h.be.trans ((yyg wr G e).to_below (fun k hk=>by omega) h.be.size)⟩
theorem MnS.ev {w wr:World} {G:Nat} {cur:Ev} (h:MnS w wr G cur):Ev.In wr G 0 cur:=
  ⟨h.gb.cell (i:=0) rfl,h.gb.cell (i:=1) rfl,h.gb.cell (i:=2) rfl,h.gb.cell (i:=3) rfl,h.gb.cell (i:=4) rfl,h.gb.cell (i:=5) rfl,h.gb.cell (i:=6) rfl⟩
set_option maxRecDepth 100000 in
set_option maxHeartbeats 8000000 in
theorem iMin (a:Option Addr) (cap:Nat) (l:List Ev) (w:World) (hl:l.length≤100000000) (h0:0<l.length) (hok:∀i,i<l.length→(evAt l i).ok=true) (h:IsEvs w (.slice a l.length cap) l):
    Calls Tryz.prog 123 #[.slice a l.length cap,.func (.func 124) #[] #[]] w fun e w'=>∃g,minE l=some g∧e= .returned g.val∧Below w.heap.size w w':=by
  obtain⟨b,off,rfl,hb,hc⟩:=h.rows.resolve_left (fun e=>by rw [e]at h0;simp at h0)
  have HC:=zc9 hc
  have HOK:=zc9 hok
  have he0:Ev.In w b off (evAt l 0):=by simpa using hc 0 h0
  obtain⟨V0,hV0⟩:∃V,w.alloc (.cells #[.int .i64 0,.int .i64 0,.int .i64 0,.int .i64 0,.int .i64 0,.int .i64 0,.int .i64 0] 90)=V:=⟨_,rfl⟩
  have hbV:=beA hV0
  obtain⟨e0,e1,e2,e3,e4,e5,e6⟩:=he0.below hbV hb
  obtain⟨G,hG⟩:∃G,G=V0.heap.size:=⟨_,rfl⟩
  have hG1:w.heap.size<G:=by rw [hG,←hV0];simp
  obtain⟨W0,hW0⟩:∃W0,V0.alloc (.cells #[.int .i64 (evAt l 0).t,.int .i64 (evAt l 0).s,.int .i64 (evAt l 0).q,.int .i64 (evAt l 0).d,.int .i64 (evAt l 0).k,.int .i64 (evAt l 0).v,.int .i64 (evAt l 0).g] 90)=W0:=⟨_,rfl⟩
  have HS0:Hid (MnS w W0 G (evAt l 0)):=by
    rw [←hW0]
    refine⟨?_,?_,hbV.alloc hbV.size _⟩
    · rw [←hV0];exact(Bk.new w _ _).alloc _
    · rw [hG];exact Bk.new _ _ _
  have HW0:=zc9 hW0
  have HV0:=zc9 hV0
  have HG:Hid (G=V0.heap.size):=hG
  have hl1:¬(l.length:Int)<1:=by omega
  have hl0:(0:Int)<(l.length:Int):=by omega
  clear hW0 hG hc hok he0 hbV h
  go_enter Tryz.func123,Tryz.ntmps123
  go_wp2
  rw [HW0.out,←HG.out]
  clear HW0 HG HV0 hV0 e0 e1 e2 e3 e4 e5 e6 hl1
  have HM0:Hid (minE (l.take 1)=some (evAt l 0)):=by
    show _=_
    rw [zdf h0]
    rfl
  go_loopw [6] (fun i wr=>∃(j:Nat) (g:Ev),1≤j∧j≤l.length∧i= .int .i64 j∧Hid (minE (l.take j)=some g∧g.ok=true)∧MnS w wr G g) (fun i _=>l.length-(intOf i).toNat)
  case atStart=>exact⟨1,evAt l 0,Nat.le_refl _,h0,rfl,⟨HM0.out,HOK.out 0 h0⟩,HS0.out⟩
  case round=>
    clear HS0 HM0
    obtain⟨j,g,hj1,hj,rfl,HMj,hS⟩:=hrel
    have HS:Hid (MnS w wr G g):=hS
    by_cases hlt:j<l.length
    · have hbr:b<wr.heap.size:=Nat.lt_of_lt_of_le hb hS.be.size
      have hev:Ev.In wr b (off+j*7) (evAt l j):=(HC.out j hlt).below hS.be hb
      obtain⟨e0,e1,e2,e3,e4,e5,e6⟩:=hev.beyond hbr
      obtain⟨d0,d1,d2,d3,d4,d5,d6⟩:=hS.ev.beyond hS.gb.lt
      have HEV:=zc9 hev
      have hne:=neB wr
      have HNX:Hid (minE (l.take (j+1))=if (evAt l j).cmp g<0 then some (evAt l j)else some g):=by
        show _=_
        rw [zdf hlt,zbj,HMj.out.1]
        rfl
      have HEC:=zc9 (ecmp_of (HOK.out j hlt) HMj.out.2)
      have HOJ:=zc9 (HOK.out j hlt)
      have hki:(j:Int)<(l.length:Int):=by omega
      have HSP:Hid (∀q:World,Below wr.heap.size wr q→MnS w (putEv q G (evAt l j)) G (evAt l j)):=fun q hq=>(HS.out.below hq).put hG1 _
      clear hev hS
      generalize hz:(evAt l j).cmp g=z at HNX HEC
      have KZ:=zc9 HEC.out
      clear hz
      by_cases hz0:z<0
      · have hdz:decide (z<0)=true:=decide_eq_true hz0
        have HNN:Hid (minE (l.take (j+1))=some (evAt l j)):=by show _=_;rw [HNX.out,if_pos hz0]
        go_wp2_with fail
        refine wrb ?_
        repeat(go_big_quiet_step (first|(go_at_call 124;exact Beyond.of (zbn (evAt l j) g z KZ.out _))))
        refine wpQuiet_nil ?_
        rintro w3 ⟨⟨_,hb3⟩,rfl⟩
        have HB3:=zc9 hb3
        clear hb3
        obtain⟨g0,g1,g2,g3,g4,g5,g6⟩:=c7_7 ((HS.out.below HB3.out).gb)
        have gf:=(HS.out.below HB3.out).gb.free
        obtain⟨v0,v1,v2,v3,v4,v5,v6⟩:=HEV.out.below HB3.out hbr
        go_wp2
        clear g0 g1 g2 g3 g4 g5 g6 gf v0 v1 v2 v3 v4 v5 v6
        go_roundw
        case rel=>exact⟨j+1,evAt l j,by omega,by omega,by go_num,⟨HNN.out,HOJ.out⟩,HSP.out _ HB3.out⟩
        case measure=>simp [intOf];omega
      · have hdz:decide (z<0)=false:=decide_eq_false hz0
        have HNN:Hid (minE (l.take (j+1))=some g):=by show _=_;rw [HNX.out,if_neg hz0]
        go_wp2_with fail
        refine wrb ?_
        repeat(go_big_quiet_step (first|(go_at_call 124;exact Beyond.of (zbn (evAt l j) g z KZ.out _))))
        refine wpQuiet_nil ?_
        rintro w3 ⟨⟨_,hb3⟩,rfl⟩
        have HB3:=zc9 hb3
        clear hb3
        go_wp2
        go_roundw
        case rel=>exact⟨j+1,g,by omega,by omega,by go_num,⟨HNN.out,HMj.out.2⟩,HS.out.below HB3.out⟩
        case measure=>simp [intOf];omega
    · obtain rfl:l.length=j:=by omega
      have HMN:Hid (minE l=some g):=by have:=HMj.out.1;rw [List.take_length]at this;exact this
      obtain⟨g0,g1,g2,g3,g4,g5,g6⟩:=hS.ev
      obtain⟨r0,r1,r2,r3,r4,r5,r6⟩:=c7_7 hS.rb
      have rf:=hS.rb.free
      clear hS
      go_wp2
      clear g0 g1 g2 g3 g4 g5 g6 r0 r1 r2 r3 r4 r5 r6 rf
      obtain⟨V,hV⟩:∃V,putEv wr w.heap.size g=V:=⟨_,rfl⟩
      have ht:=yyg wr w.heap.size g
      have hk:=HS.out.rb.putEv g
      rw [hV]at ht hk
      unfold putEv at hV
      rw [hV]
      have t0:V.cell? ⟨w.heap.size,0,none⟩=some (.int .i64 g.t):=hk.cell (i:=0) rfl
      have t1:V.cell? ⟨w.heap.size,1,none⟩=some (.int .i64 g.s):=hk.cell (i:=1) rfl
      have t2:V.cell? ⟨w.heap.size,2,none⟩=some (.int .i64 g.q):=hk.cell (i:=2) rfl
      have t3:V.cell? ⟨w.heap.size,3,none⟩=some (.int .i64 g.d):=hk.cell (i:=3) rfl
      have t4:V.cell? ⟨w.heap.size,4,none⟩=some (.int .i64 g.k):=hk.cell (i:=4) rfl
      have t5:V.cell? ⟨w.heap.size,5,none⟩=some (.int .i64 g.v):=hk.cell (i:=5) rfl
      have t6:V.cell? ⟨w.heap.size,6,none⟩=some (.int .i64 g.g):=hk.cell (i:=6) rfl
      refine bodyPost_ret (v:=g.val) (by simp [results,Tryz.results123,go_sem,t0,t1,t2,t3,t4,t5,t6,Ev.val]) rfl ⟨g,HMN.out,rfl,HS.out.be.trans (ht.to_below (fun b e=>by omega) HS.out.be.size)⟩
theorem yyy {p:Prop} (h:p):Hid p:=h
def RowE (B:Nat) (w:World) (x:Value) (l:List Ev):Prop:=w.ownsRow B 90 7 x l.length (yvz l)
theorem Bk.lowB {B:Nat} {w w':World} {P:Nat} {T:TypeId} {vs:Array Value} (h:Bk w P T vs) (hb:Below B w w') (hP:P<B):Bk w' P T vs:=(hb.block P hP).trans h
theorem RowE.nil (B:Nat) (w:World):RowE B w (.slice none 0 0) []:=World.ownsRow_nil w B 90 7
theorem RowE.alloc {B:Nat} {w:World} {x:Value} {l:List Ev} (h:RowE B w x l) (o:Obj):RowE B (w.alloc o) x l:=World.ownsRow.alloc h o
theorem RowE.ge {B:Nat} {w:World} {x:Value} {l:List Ev} (h:RowE B w x l) {r:Nat} (e:x.ownBlock=some r):B≤r:=by
  obtain⟨_,⟨rfl,_⟩|⟨g,cap,cur,rfl,hg,_⟩⟩:=h
  · simp [Value.ownBlock]at e
  · simp [Value.ownBlock]at e
    omega
theorem RowE.grow {B:Nat} {w:World} {v:Value} {l:List Ev} {e:Ev} (h:w.ownsRow B 90 7 v (l.length+1) (yvz l++e.cs)):RowE B w v (l++ [e]):=by
  unfold RowE
  rw [List.length_append,yyk]
  simpa [yvz] using h
theorem RowE.isEvs {B:Nat} {w:World} {x:Value} {l:List Ev} (h:RowE B w x l):IsEvs w x l:=((RowF.of_owns (ywc l) h).own.isD).isEvs
theorem zju (w:World) (e:Ev):∀j u,e.cs[j]? =some u→(w.alloc (.cells #[.int .i64 e.t,.int .i64 e.s,.int .i64 e.q,.int .i64 e.d,.int .i64 e.k,.int .i64 e.v,.int .i64 e.g] 90)).cell? ((⟨w.heap.size,0,none⟩:Addr).add j)=some u:=by
  intro j u hu
  have hk:Bk (w.alloc (.cells #[.int .i64 e.t,.int .i64 e.s,.int .i64 e.q,.int .i64 e.d,.int .i64 e.k,.int .i64 e.v,.int .i64 e.g] 90)) w.heap.size 90 #[.int .i64 e.t,.int .i64 e.s,.int .i64 e.q,.int .i64 e.d,.int .i64 e.k,.int .i64 e.v,.int .i64 e.g]:=Bk.new w _ _
  rw [Addr.add_lit,Nat.zero_add]
  exact hk.cell (by simpa [Ev.cs] using hu)
theorem zi9 (e:Ev):∀u∈e.cs,u.oneCell'=true:=by
  intro u hu
  simp [Ev.cs]at hu
  rcases hu with rfl|rfl|rfl|rfl|rfl|rfl|rfl<;>rfl
theorem zi3 (l:List Pa):(yx3 l).length≤l.length:=by
  induction l with
  |nil=>simp [yx3]
  |cons a l ih=>
    have e:yx3 (a::l)=zgl a++yx3 l:=rfl
    rw [e,List.length_append,List.length_cons,zgl,List.length_take]
    omega
set_option maxRecDepth 100000 in
set_option maxHeartbeats 16000000 in
theorem zjf (x:Value) (k:Kn) (w:World) (hs:ywy k) (hok:∀i,i<(gvtL k).length→(evAt (gvtL k) i).ok=true) (h:IsKern w x k):
    Calls Tryz.prog 48 #[x] w fun e w'=>e= .returned (retE (gvtE k))∧Below w.heap.size w w':=by
  have HOK:=yyy hok
  clear hok
  obtain⟨HSM0,hsk⟩:=hs
  have HSM:Hid (SmallM k.m):=HSM0
  obtain⟨hdl,hpl,hbl,hsl,hxl⟩:=yyp hsk
  have HWP:=yyy (yyf hsk)
  clear hsk HSM0
  obtain⟨ai,ci,ah,ch,ae,ce,ad,cd,ap,cp,ab,cb,au,cu,ax,cx,rfl,hm,hd,hp,hbg,hsu,hx⟩:=h.form
  have HM:=yyy hm
  have HD:=yyy hd
  have HPP:=yyy hp
  have HBG:=yyy hbg.rows
  have HSU:=yyy hsu.rows
  have HXX:=yyy hx.rows
  have HSUI:=yyy hsu
  have HXXI:=yyy hx
  have HK:Hid (IsKern w (.agg #[.int .i64 k.m.n,.int .i64 k.m.s,.slice ai k.m.i.length ci,.slice ah k.m.h.length ch,.slice ae k.m.e.length ce,.int .i64 k.m.z,.slice ad k.d.length cd,.slice ap k.p.length cp,.slice ab k.b.length cb,.int .i64 k.t,.int .i64 k.q,.bool k.f,.slice au k.s.length cu,.slice ax k.x.length cx]) k):=h
  clear hm hd hp hbg hsu hx h
  clear HM HD HSU HXX HSUI HXXI HK HSM HWP
  obtain⟨ie,hx0,hx1,hx2,hx3⟩:=info_parts info25
  obtain⟨RB,hRB⟩:∃RB,RB=w.heap.size+1:=⟨_,rfl⟩
  obtain⟨W0,hW0⟩:=al2IsKern HK.out 41 (.cells #[.int .i64 0,.int .i64 0,.int .i64 0,.int .i64 0,.int .i64 0,.int .i64 0,.int .i64 0] 90)
  have HB0:Hid (Below w.heap.size w W0):=by rw [←hW0];exact((Below.refl _ w).alloc (Nat.le_refl _) _).alloc (by simp) _
  have HP0:Hid (Bk W0 w.heap.size 41 #[.int .i64 k.m.n,.int .i64 k.m.s,.slice ai k.m.i.length ci,.slice ah k.m.h.length ch,.slice ae k.m.e.length ce,.int .i64 k.m.z,.slice ad k.d.length cd,.slice ap k.p.length cp,.slice ab k.b.length cb,.int .i64 k.t,.int .i64 k.q,.bool k.f,.slice au k.s.length cu,.slice ax k.x.length cx]):=by rw [←hW0];exact(Bk.new w _ _).alloc _
  have HR0:Hid (Bk W0 RB 90 (evA zEv)):=by rw [←hW0,hRB];exact Bk.newAt (by simp) _ _
  obtain⟨B,hB⟩:∃B,B=W0.heap.size:=⟨_,rfl⟩
  have hB1:B≤W0.heap.size:=by omega
  have hB2:w.heap.size<B:=by rw [hB];exact HP0.out.lt
  have hB3:RB<B:=by rw [hB];exact HR0.out.lt
  have hRB1:w.heap.size<RB:=by omega
  have HRB:=yyy hRB
  have HW:=yyy hW0
  have hw:=HW.out
  have q7:=HP0.out.cell (i:=7) rfl
  clear hB hW0 hRB
  go_enter Tryz.func48,Tryz.ntmps48
  go_wp2
  clear hw q7
  rw [←HRB.out]
  clear HRB HW
  go_loopw [4,12] (fun o i wr=>∃(j:Nat) (v:Value),j≤k.p.length∧v=o∧i= .int .i64 j∧RowE B wr o (yx3 (k.p.take j))∧Below B W0 wr) (fun _ i _=>k.p.length-(intOf i).toNat)
  case atStart=>exact⟨0,_,Nat.zero_le _,rfl,rfl,RowE.nil _ _,Below.refl _ _⟩
  case round=>
    obtain⟨j,o,hj,rfl,rfl,hR,hBr⟩:=hrel
    have HR:=yyy hR
    have HBB:Hid (Below B W0 wr):=hBr
    have HBr:=yyy (HB0.out.trans (hBr.mono (by omega)))
    have hs1:B≤wr.heap.size:=Nat.le_trans hB1 hBr.size
    clear hR hBr
    by_cases hlt:j<k.p.length
    · obtain⟨b,off,rfl,hb,hPA⟩:=HPP.out.resolve_left (by intro e;rw [e]at hlt;simp at hlt)
      obtain⟨a1,c1,a4,c4,a5,c5,a6,c6,hp⟩:=hPA j hlt
      have f0:=cst HBr.out hb hp.f0
      have f1:=cst HBr.out hb hp.f1
      have f2:=cst HBr.out hb hp.f2
      have f3:=cst HBr.out hb hp.f3
      have f4:=cst HBr.out hb hp.f4
      have f5:=cst HBr.out hb hp.f5
      have f6:=cst HBr.out hb hp.f6
      have HT:=yyy hp.d5.isEvs.rows
      have HN:=yyy (zft hlt)
      have hln:(yx3 (k.p.take j)).length≤1048576:=Nat.le_trans (zi3 _) (by rw [List.length_take];omega)
      generalize yx3 (k.p.take j)=lq at HR HN hln
      obtain⟨V,hV⟩:∃V,wr.alloc (.cells #[.int .i64 (paAt k.p j).n,.slice a1 (paAt k.p j).st.r.length c1,.int .i64 (paAt k.p j).st.q,.int .i64 (paAt k.p j).st.d,.slice a4 (paAt k.p j).p.length c4,.slice a5 (paAt k.p j).t.length c5,.slice a6 (paAt k.p j).a.length c6] 97)=V:=⟨_,rfl⟩
      have HBV:Hid (Below B W0 V):=by rw [←hV];exact HBB.out.alloc hs1 _
      have HRV:Hid (RowE B V o lq):=by rw [←hV];exact HR.out.alloc _
      have HX:=hdq (bkA hV)
      have HBw:=yyy (HB0.out.trans (HBV.out.mono (by omega)))
      have hsV:B≤V.heap.size:=Nat.le_trans hB1 HBV.out.size
      have x5:=HX.out.cell (i:=5) rfl
      clear hp hPA
      by_cases h0:(paAt k.p j).t.length=0
      · have HNN:Hid (yx3 (k.p.take (j+1))=lq):=by show _=_;rw [HN.out,zi5 h0,List.append_nil]
        rw [h0]at x5
        clear h0
        go_wp2
        go_roundw
        case rel=>exact⟨j+1,_,by omega,rfl,by go_num,by rw [HNN.out];exact HRV.out,HBV.out⟩
        case measure=>simp [intOf];omega
      · obtain⟨n,hn⟩:∃n,(paAt k.p j).t.length=n+1:=⟨(paAt k.p j).t.length-1,by omega⟩
        have HH:Hid (yx3 (k.p.take (j+1))=lq++ [evAt (paAt k.p j).t 0]):=by show _=_;rw [HN.out,zi4 hn]
        obtain⟨b5,off5,rfl,hb5,hc5⟩:=HT.out.resolve_left (by intro e;rw [e]at hn;simp at hn)
        have hev:Ev.In w b5 off5 (evAt (paAt k.p j).t 0):=by simpa using hc5 0 (by omega)
        obtain⟨e0,e1,e2,e3,e4,e5,e6⟩:=hev.below HBw.out hb5
        rw [hn]at x5
        generalize evAt (paAt k.p j).t 0=ev at HH e0 e1 e2 e3 e4 e5 e6
        clear hc5 hev h0 hn
        go_wp2_with (at_builtin;refine wpList_append_own _ rfl _ _ 34 rfl B 90 ie (.agg #[.int .i64 0,.int .i64 0,.int .i64 0,.int .i64 0,.int .i64 0,.int .i64 0,.int .i64 0]) 7 56 Tryz.underlying34 hx0 hx1 hx2 hx3 rfl (by decide) o _ _ rfl (World.ownsRow.alloc HRV.out _) ⟨V.heap.size,0,none⟩ 1 1 (ev).cs rfl rfl (zju _ ev) (zi9 ev) (by unfold maxLen;omega) (by omega) (by simp;omega) ?_;intro v4 w4 hown hgrow hnil)
        go_roundw
        case rel=>exact⟨j+1,_,by omega,rfl,by go_num,by rw [HH.out];exact RowE.grow hown,(HBV.out.alloc hsV _).grown hgrow (by simp;omega) (fun q e=>RowE.ge HRV.out e)⟩
        case measure=>simp [intOf];omega
    · obtain rfl:k.p.length=j:=by omega
      rw [List.take_length]at HR
      obtain⟨W1,rfl⟩:∃W1,W1=wr:=⟨wr,rfl⟩
      have HR1:=yyy HR.out
      have HBB1:Hid (Below B W0 W1):=HBB.out
      have HP1:=yyy (HP0.out.lowB HBB.out hB2)
      have m8:=HP1.out.cell (i:=8) rfl
      clear HR HBB HBr hj hlt hs1
      go_wp2
      clear m8
      go_loopw [4,31] (fun o i wr=>∃(j:Nat) (v:Value),j≤k.b.length∧v=o∧i= .int .i64 j∧RowE B wr o (yx3 k.p++(k.b.take j).map (·.e))∧Below B W0 wr) (fun _ i _=>k.b.length-(intOf i).toNat)
      case atStart=>exact⟨0,_,Nat.zero_le _,rfl,rfl,by simpa using HR1.out,HBB1.out⟩
      case round=>
        clear HR1 HBB1 HP1
        obtain⟨j,o,hj,rfl,rfl,hR,hBr⟩:=hrel
        have HR:=yyy hR
        have HBB:Hid (Below B W0 wr):=hBr
        have HBr:=yyy (HB0.out.trans (hBr.mono (by omega)))
        have hs1:B≤wr.heap.size:=Nat.le_trans hB1 hBr.size
        have hhl:=zi3 k.p
        clear hR hBr
        by_cases hlt:j<k.b.length
        · obtain⟨b,off,rfl,hb,hMA⟩:=HBG.out.resolve_left (by intro e;rw [e]at hlt;simp at hlt)
          obtain⟨f0,f1,f2,f3,f4,f5,f6,f7⟩:=(hMA j hlt).below HBr.out hb
          have HN:Hid (yx3 k.p++(k.b.take (j+1)).map (·.e)=(yx3 k.p++(k.b.take j).map (·.e))++ [(mlAt k.b j).e]):=(by rw [zbt hlt];simp:yx3 k.p++(k.b.take (j+1)).map (·.e)=_)
          have hln:(yx3 k.p++(k.b.take j).map (·.e)).length≤3000000:=by rw [List.length_append,List.length_map,List.length_take];omega
          generalize yx3 k.p++(k.b.take j).map (·.e)=lq at HR HN hln
          obtain⟨V,hV⟩:∃V,wr.alloc (.cells #[.int .i64 (mlAt k.b j).e.t,.int .i64 (mlAt k.b j).e.s,.int .i64 (mlAt k.b j).e.q,.int .i64 (mlAt k.b j).e.d,.int .i64 (mlAt k.b j).e.k,.int .i64 (mlAt k.b j).e.v,.int .i64 (mlAt k.b j).e.g,.bool (mlAt k.b j).a] 152)=V:=⟨_,rfl⟩
          have HBV:Hid (Below B W0 V):=by rw [←hV];exact HBB.out.alloc hs1 _
          have HRV:Hid (RowE B V o lq):=by rw [←hV];exact HR.out.alloc _
          have HX:=hdq (bkA hV)
          have hsV:B≤V.heap.size:=Nat.le_trans hB1 HBV.out.size
          obtain⟨x0,x1,x2,x3,x4,x5,x6,x7⟩:=c8_8 HX.out
          clear hMA
          go_wp2_with (at_builtin;refine wpList_append_own _ rfl _ _ 34 rfl B 90 ie (.agg #[.int .i64 0,.int .i64 0,.int .i64 0,.int .i64 0,.int .i64 0,.int .i64 0,.int .i64 0]) 7 56 Tryz.underlying34 hx0 hx1 hx2 hx3 rfl (by decide) o _ _ rfl (World.ownsRow.alloc HRV.out _) ⟨V.heap.size,0,none⟩ 1 1 ((mlAt k.b j).e).cs rfl rfl (zju _ (mlAt k.b j).e) (zi9 (mlAt k.b j).e) (by unfold maxLen;omega) (by omega) (by simp;omega) ?_;intro v4 w4 hown hgrow hnil)
          go_roundw
          case rel=>exact⟨j+1,_,by omega,rfl,by go_num,by rw [HN.out];exact RowE.grow hown,(HBV.out.alloc hsV _).grown hgrow (by simp;omega) (fun q e=>RowE.ge HRV.out e)⟩
          case measure=>simp [intOf];omega
        · obtain rfl:k.b.length=j:=by omega
          rw [List.take_length]at HR
          have HGL:Hid (gvtL k=yx3 k.p++k.b.map (·.e)):=(rfl:gvtL k=_)
          have hgl:(yx3 k.p++k.b.map (·.e)).length≤3000000:=by rw [List.length_append,List.length_map];omega
          rw [←HGL.out]at HR hgl
          have HGE:Hid (gvtE k=minE (gvtL k)):=(rfl:gvtE k=_)
          have HRr:=yyy (HR0.out.lowB HBB.out hB3)
          generalize gvtL k=l at HR hgl HGE HOK
          have HIE:Hid (IsEvs wr o l):=HR.out.isEvs
          obtain⟨ao,co,rfl,_,_,_⟩:=HIE.out
          obtain⟨r0,r1,r2,r3,r4,r5,r6⟩:=c7_7 HRr.out
          have rf:=HRr.out.free
          by_cases hl0:l.length=0
          · have HE0:Hid (gvtE k=none):=by show _=_;rw [HGE.out,List.length_eq_zero_iff.1 hl0];rfl
            have hlb:((l.length:Int)==0)=true:=by rw [hl0];rfl
            have hl9:(l.length:Int)=0:=by omega
            go_wp2
            clear r0 r1 r2 r3 r4 r5 r6 rf
            obtain⟨V,hV⟩:∃V,putEv wr RB zEv=V:=⟨_,rfl⟩
            have ht:=yyg wr RB zEv
            have hk:=HRr.out.putEv zEv
            rw [hV]at ht hk
            unfold putEv at hV
            dsimp only [zEv]at hV
            rw [hV]
            have t0:V.cell? ⟨RB,0,none⟩=some (.int .i64 0):=hk.cell (i:=0) rfl
            have t1:V.cell? ⟨RB,1,none⟩=some (.int .i64 0):=hk.cell (i:=1) rfl
            have t2:V.cell? ⟨RB,2,none⟩=some (.int .i64 0):=hk.cell (i:=2) rfl
            have t3:V.cell? ⟨RB,3,none⟩=some (.int .i64 0):=hk.cell (i:=3) rfl
            have t4:V.cell? ⟨RB,4,none⟩=some (.int .i64 0):=hk.cell (i:=4) rfl
            have t5:V.cell? ⟨RB,5,none⟩=some (.int .i64 0):=hk.cell (i:=5) rfl
            have t6:V.cell? ⟨RB,6,none⟩=some (.int .i64 0):=hk.cell (i:=6) rfl
            refine bodyPost_ret (v:= .tuple #[(zEv).val,.bool false]) (by simp [results,Tryz.results48,go_sem,t0,t1,t2,t3,t4,t5,t6,Ev.val,zEv]) rfl ⟨by rw [HE0.out,retE];rfl,HBr.out.trans (ht.to_below (fun b e=>by omega) HBr.out.size)⟩
          · have h0:0<l.length:=by omega
            have hlb:((l.length:Int)==0)=false:=by rw [beq_eq_false_iff_ne];omega
            have hl9:¬(l.length:Int)=0:=by omega
            go_wp2_with fail
            refine(iMin ao co l _ (by omega) h0 HOK.out HIE.out).mono ?_
            rintro e w5 ⟨g,hg,rfl,hb5⟩
            have HB5:=trh HBr hb5
            have HR5:=yyy (HRr.out.below hb5)
            have HE0:Hid (gvtE k=some g):=by show _=_;rw [HGE.out,hg]
            clear hb5 hg r0 r1 r2 r3 r4 r5 r6 rf
            obtain⟨r0,r1,r2,r3,r4,r5,r6⟩:=c7_7 HR5.out
            have rf:=HR5.out.free
            go_wp2
            clear r0 r1 r2 r3 r4 r5 r6 rf
            obtain⟨V,hV⟩:∃V,putEv w5 RB g=V:=⟨_,rfl⟩
            have ht:=yyg w5 RB g
            have hk:=HR5.out.putEv g
            rw [hV]at ht hk
            unfold putEv at hV
            rw [hV]
            have t0:V.cell? ⟨RB,0,none⟩=some (.int .i64 g.t):=hk.cell (i:=0) rfl
            have t1:V.cell? ⟨RB,1,none⟩=some (.int .i64 g.s):=hk.cell (i:=1) rfl
            have t2:V.cell? ⟨RB,2,none⟩=some (.int .i64 g.q):=hk.cell (i:=2) rfl
            have t3:V.cell? ⟨RB,3,none⟩=some (.int .i64 g.d):=hk.cell (i:=3) rfl
            have t4:V.cell? ⟨RB,4,none⟩=some (.int .i64 g.k):=hk.cell (i:=4) rfl
            have t5:V.cell? ⟨RB,5,none⟩=some (.int .i64 g.v):=hk.cell (i:=5) rfl
            have t6:V.cell? ⟨RB,6,none⟩=some (.int .i64 g.g):=hk.cell (i:=6) rfl
            refine bodyPost_ret (v:= .tuple #[(g).val,.bool true]) (by simp [results,Tryz.results48,go_sem,t0,t1,t2,t3,t4,t5,t6,Ev.val]) rfl ⟨by rw [HE0.out,retE];rfl,HB5.out.trans (ht.to_below (fun b e=>by omega) HB5.out.size)⟩
theorem zh8 {P:Program} {md:Region.Mode} {ops:Array Oper} {Q:Exit→Act→World→Prop} {S:World→Prop} {fuel:Nat} {listed:Array Bool} {a:Act} {w:World} (i:Nat) (oi:Oper) (v:Value)
  (h:wpAnyH P md ops Q S fuel (listed.setIfInBounds i true) (a.put oi.dst v) w) (hi:ops[i]? =some oi:=by rfl)
  (hs:Region.noSelect ops=true:=by kernel_rfl) (hf:Region.free md ops listed i=true:=by kernel_rfl) (hr:(Region.ready md ops listed).contains i=true:=by kernel_rfl)
  (hQ:∀c a w,Q (.panic c) (a.put oi.dst v) w→Q (.panic c) a w:=by exact fun _ _ _ h=>h)
  (hy:YieldsIf P ops S oi v a:=by exact Or.inl ⟨by rfl,by(intro wX hSw;(try dsimp only at hSw);go_simp;(try exact IntWalk.i64_in _ (by omega)))⟩) (hS:S w:=by assumption):wpAnyH P md ops Q S (fuel+1) listed a w:=
  wpAnyH_take hi hs hf hr hQ hy hS h
theorem yxv {p:Prop} (h:p):Hid p:=h
set_option maxRecDepth 100000 in
set_option maxHeartbeats 16000000 in
theorem iSettled [Inhabited PsF] (x:Value) (k:Kn) (w0 w:World) (hz:Below w0.heap.size w0 w) (hs:ywy k) (hok:∀i,i<(gvtL k).length→(evAt (gvtL k) i).ok=true) (hpo:∀i,i<k.p.length→(paAt k.p i).ok=true) (hgo:∀g,gvtE k=some g→g.ok=true) (h:IsKern w0 x k):
    Calls Tryz.prog 118 #[x] w fun e w'=>∃(y:Value) (L:List PsF),e= .returned y∧(psOf L).Perm (setL k k.p.length)∧(psOf L).Pairwise leP∧w'.ownsRow w.heap.size 172 12 y L.length (yxp L)∧(∀z∈L,PsR w0 z)∧Below w.heap.size w w':=by
  have HOK:=yxv hok
  have HPO:=yxv hpo
  have HGG:=yxv hgo
  have HSK:Hid (ywy k):=hs
  have HZ:=yxv hz
  clear hok hpo hgo hz
  obtain⟨HSM0,hsk⟩:=hs
  obtain⟨hdl,hpl,hbl,hsl,hxl⟩:=yyp hsk
  have HWP:=yxv (yyf hsk)
  clear hsk HSM0
  obtain⟨ai,ci,ah,ch,ae,ce,ad,cd,ap,cp,ab,cb,au,cu,ax,cx,rfl,hm,hd,hp,hbg,hsu,hx⟩:=h.form
  have HPP:=yxv hp
  have HK:=yxv h
  clear hm hd hp hbg hsu hx h hsl
  obtain⟨ip,hip,hip0,hip1,hip2⟩:=info_parts zes
  obtain⟨W0,hW0⟩:∃W0,w.alloc (.cells #[.int .i64 k.m.n,.int .i64 k.m.s,.slice ai k.m.i.length ci,.slice ah k.m.h.length ch,.slice ae k.m.e.length ce,.int .i64 k.m.z,.slice ad k.d.length cd,.slice ap k.p.length cp,.slice ab k.b.length cb,.int .i64 k.t,.int .i64 k.q,.bool k.f,.slice au k.s.length cu,.slice ax k.x.length cx] 41)=W0:=⟨_,rfl⟩
  have HB0:=hdq (beA hW0)
  have HQ0:=hdq (bkA hW0)
  obtain⟨m0,m1,m2,m3,m4,m5,m6,m7,m8,m9,m10,m11,m12,m13⟩:=ywd HQ0.out
  go_enter Tryz.func118,Tryz.ntmps118
  go_wp2_with fail
  clear m0 m1 m2 m3 m4 m5 m6 m7 m8 m9 m10 m11 m12 m13 hW0
  refine(zjf _ k _ HSK.out HOK.out (HK.out.under (trm HZ.out HB0.out))).mono ?_
  rintro e w1 ⟨rfl,hb1⟩
  have HB1:=trh HB0 hb1
  have HQ1:=yxv (HQ0.out.below hb1)
  clear hb1
  obtain⟨ge,gf,hg0,hg1,hg2⟩:∃(ge:Ev) (gf:Bool),retE (gvtE k)= .tuple #[.agg #[.int .i64 ge.t,.int .i64 ge.s,.int .i64 ge.q,.int .i64 ge.d,.int .i64 ge.k,.int .i64 ge.v,.int .i64 ge.g],.bool gf]∧(if gf=true then some ge else none)=gvtE k∧(gf=true→ge.ok=true):=by
    refine⟨orZ (gvtE k),(gvtE k).isSome,rfl,?_,?_⟩
    · cases gvtE k<;>rfl
    · intro hy
      cases hq:gvtE k with
      |none=>rw [hq]at hy;cases hy
      |some g=>exact HGG.out g hq
  have HGE:=yxv hg1
  have HGO:=yxv hg2
  rw [hg0]
  clear hg0 hg1 hg2
  obtain⟨W1,hW1⟩:∃W1,w1.alloc (.cells #[.int .i64 ge.t,.int .i64 ge.s,.int .i64 ge.q,.int .i64 ge.d,.int .i64 ge.k,.int .i64 ge.v,.int .i64 ge.g] 90)=W1:=⟨_,rfl⟩
  have HWW:=yxv hW1
  have hb2:=beA hW1
  have HB2:=trh HB1 hb2
  have HQ2:=yxv (HQ1.out.below hb2)
  have HE2:=hdq (bkA hW1)
  obtain⟨B,hB⟩:∃B,B=W1.heap.size:=⟨_,rfl⟩
  have hB1:B≤W1.heap.size:=by omega
  have hB2:w.heap.size<B:=by rw [hB];exact HQ2.out.lt
  have hB3:w1.heap.size<B:=by rw [hB];exact HE2.out.lt
  have q7:=HQ2.out.cell (i:=7) rfl
  have hw:=HWW.out
  clear hb2 hW1 hB
  go_wp2
  clear hw q7 HWW
  go_loopw [5,16] (fun o i wr=>∃(j:Nat) (v:Value) (L:List PsF),j≤k.p.length∧v=o∧i= .int .i64 j∧wr.ownsRow B 172 12 o L.length (yxp L)∧psOf L=setL k j∧(∀y∈L,PsR w0 y)∧Below B W1 wr) (fun _ i _=>k.p.length-(intOf i).toNat)
  case atStart=>exact⟨0,_,[],Nat.zero_le _,rfl,rfl,World.ownsRow_nil W1 B 172 12,rfl,(fun y hy=>by cases hy),Below.refl _ _⟩
  case round=>
    obtain⟨j,o,L,hj,rfl,rfl,hO,hL,hR,hBr⟩:=hrel
    have HO:=yxv hO
    have HL:Hid (psOf L=setL k j):=hL
    have HR:Hid (∀y∈L,PsR w0 y):=hR
    have HBB:Hid (Below B W1 wr):=hBr
    have HBr:=yxv (HB2.out.trans (hBr.mono (by omega)))
    have HBz:=trh HZ HBr.out
    have hs1:B≤wr.heap.size:=Nat.le_trans hB1 hBr.size
    have H2A:Hid (∀i,i<k.p.length→(paAt k.p i).p.length≤200):=fun i hi=>(zeo (HPO.out i hi)).1
    have hLL:L.length≤209715200:=by
      rw [←yyi,hL]
      have:=zg3 k H2A.out j hj
      omega
    clear hO hL hR hBr
    by_cases hlt:j<k.p.length
    · obtain⟨b,off,rfl,hb,hPA⟩:=HPP.out.resolve_left (by intro e;rw [e]at hlt;simp at hlt)
      obtain⟨a1,c1,a4,c4,a5,c5,a6,c6,hp⟩:=hPA j hlt
      have f0:=cst HBz.out hb hp.f0
      have f1:=cst HBz.out hb hp.f1
      have f2:=cst HBz.out hb hp.f2
      have f3:=cst HBz.out hb hp.f3
      have f4:=cst HBz.out hb hp.f4
      have f5:=cst HBz.out hb hp.f5
      have f6:=cst HBz.out hb hp.f6
      have HD4:=yxv hp.d4
      have HCAP:Hid ((paAt k.p j).p.length≤c4):=by
        obtain⟨a,cap,e1,e2,_⟩:=IsD.parts (c:=12) (n:=(paAt k.p j).p.length) hp.d4
        cases e1
        exact e2
      have HOKP:=yxv (HPO.out j hlt)
      have HOKE:=yxv ((zeo HOKP.out).2)
      have H200:=yxv ((zeo HOKP.out).1)
      have HW9:=yxv (Nat.le_succ_of_le (HWP.out j hlt))
      obtain⟨V,hV⟩:∃V,wr.alloc (.cells #[.int .i64 (paAt k.p j).n,.slice a1 (paAt k.p j).st.r.length c1,.int .i64 (paAt k.p j).st.q,.int .i64 (paAt k.p j).st.d,.slice a4 (paAt k.p j).p.length c4,.slice a5 (paAt k.p j).t.length c5,.slice a6 (paAt k.p j).a.length c6] 97)=V:=⟨_,rfl⟩
      have HVV:=yxv hV
      have hbv:=beA hV
      have HBV:Hid (Below B W1 V):=HBB.out.trans (hbv.mono hs1)
      have hsV:B≤V.heap.size:=Nat.le_trans hB1 HBV.out.size
      have HBw:=trh HBz hbv
      have HP:=hdq (bkA hV)
      have HE:=yxv ((HE2.out.lowB HBB.out hB3).below hbv)
      have HOV:Hid (V.ownsRow B 172 12 o L.length (yxp L)):=hV▸HO.out.alloc _
      have HPV:=yxv ((hp.isPart.under HBw.out).under ((Below.refl _ V).drew))
      clear hV hbv hp hPA
      go_upto_region 6 with fail
      rw [HVV.out]
      clear HVV f0 f1 f2 f3 f4 f5 f6
      refine wp_region_held_drew (S:=fun W=>W.cell? ⟨wr.heap.size,0,none⟩=some (.int .i64 (paAt k.p j).n)∧W.cell? ⟨wr.heap.size,1,none⟩=some (.slice a1 (paAt k.p j).st.r.length c1)∧W.cell? ⟨wr.heap.size,2,none⟩=some (.int .i64 (paAt k.p j).st.q)∧W.cell? ⟨wr.heap.size,3,none⟩=some (.int .i64 (paAt k.p j).st.d)∧W.cell? ⟨wr.heap.size,4,none⟩=some (.slice a4 (paAt k.p j).p.length c4)∧W.cell? ⟨wr.heap.size,5,none⟩=some (.slice a5 (paAt k.p j).t.length c5)∧W.cell? ⟨wr.heap.size,6,none⟩=some (.slice a6 (paAt k.p j).a.length c6)∧W.cell? ⟨w1.heap.size,0,none⟩=some (.int .i64 ge.t)∧W.cell? ⟨w1.heap.size,1,none⟩=some (.int .i64 ge.s)∧W.cell? ⟨w1.heap.size,2,none⟩=some (.int .i64 ge.q)∧W.cell? ⟨w1.heap.size,3,none⟩=some (.int .i64 ge.d)∧W.cell? ⟨w1.heap.size,4,none⟩=some (.int .i64 ge.k)∧W.cell? ⟨w1.heap.size,5,none⟩=some (.int .i64 ge.v)∧W.cell? ⟨w1.heap.size,6,none⟩=some (.int .i64 ge.g)) (by kernel_rfl) ⟨HP.out.drew.cell rfl,HP.out.drew.cell rfl,HP.out.drew.cell rfl,HP.out.drew.cell rfl,HP.out.drew.cell rfl,HP.out.drew.cell rfl,HP.out.drew.cell rfl,HE.out.drew.cell rfl,HE.out.drew.cell rfl,HE.out.drew.cell rfl,HE.out.drew.cell rfl,HE.out.drew.cell rfl,HE.out.drew.cell rfl,HE.out.drew.cell rfl⟩ (fun hHeld=> ?_)
      refine zh8 0 {dst:=some 20,op:=Op.move (Operand.tmp 5),type:=95,pos:=_,after:=_,guard:=none} o ?_
      try simp only [Act.put,q1,q2,q3]
      refine zh8 1 {dst:=some 21,op:=Op.fieldAddr 97 (Operand.tmp 7) 2,type:=0,pos:=_,after:=_,guard:=none} (.pointer (some ⟨wr.heap.size,4,none⟩)) ?_
      try simp only [Act.put,q1,q2,q3]
      refine zh8 2 {dst:=some 22,op:=Op.load 95 (Operand.tmp 21),type:=95,pos:=_,after:=_,guard:=none} (.slice a4 (paAt k.p j).p.length c4) ?_
      try simp only [Act.put,q1,q2,q3]
      refine zh8 3 {dst:=some 23,op:=Op.load 97 (Operand.tmp 7),type:=97,pos:=_,after:=_,guard:=none} (.agg #[.int .i64 (paAt k.p j).n,.slice a1 (paAt k.p j).st.r.length c1,.int .i64 (paAt k.p j).st.q,.int .i64 (paAt k.p j).st.d,.slice a4 (paAt k.p j).p.length c4,.slice a5 (paAt k.p j).t.length c5,.slice a6 (paAt k.p j).a.length c6]) ?_
      try simp only [Act.put,q1,q2,q3]
      refine zh8 4 {dst:=some 24,op:=Op.load 90 (Operand.tmp 3),type:=90,pos:=_,after:=_,guard:=none} (.agg #[.int .i64 ge.t,.int .i64 ge.s,.int .i64 ge.q,.int .i64 ge.d,.int .i64 ge.k,.int .i64 ge.v,.int .i64 ge.g]) ?_
      try simp only [Act.put,q1,q2,q3]
      refine zh8 5 {dst:=some 25,op:=Op.move (Operand.tmp 4),type:=4,pos:=_,after:=_,guard:=none} (.bool gf) ?_
      try simp only [Act.put,q1,q2,q3]
      refine wpAnyH_ready (rs:= [6]) (by kernel_rfl) (by simp) ?_
      refine AllReadyH.cons rfl (fun K hK=> ?_) AllReadyH.nil
      go_simp
      go_at_call 49
      refine(zct _ (paAt k.p j) ge gf V.drew HW9.out HOKP.out HGO.out HPV.out).mono ?_
      rintro r w2 ⟨c,rfl,hc,hb2⟩
      rw [HGE.out]at hc
      have HC:=yxv hc
      have HB2:Hid (Below V.heap.size V w2):=(Below.refl _ V).drew.trans hb2
      have HP2:=yxv (HP.out.drew.below hb2)
      have HE2:=yxv (HE.out.drew.below hb2)
      have HO2:=yxv (owB HOV.out HB2.out)
      clear hc hb2
      obtain⟨U,hU⟩:∃U,sliced a4 0 c c4 12=U:=⟨_,rfl⟩
      have hcl:c≤c4:=Nat.le_trans HC.out.le HCAP.out
      have hUD:IsD w0 U (yw3 ((paAt k.p j).p.take c)):=hU▸zdi HD4.out HC.out.le
      have hsl:∀w:World,(Instr.sliceAt 95 (.slice a4 (paAt k.p j).p.length c4) none (some (.int .i64 (c:Int))) none).run Tryz.prog w= .ok U w:=fun w=>hU▸zeh _ _ _ _ hcl w
      obtain⟨LU,hL1,hL2,hL3⟩:=zj0 (fun q hq=>HOKE.out q (List.mem_of_mem_take hq)) hUD
      have HL1:=yxv hL1
      have HL3:Hid (∀y∈LU,PsR w0 y):=hL3
      have HLS:=yxv ((hL2.below HBw.out).below HB2.out)
      have hlu:LU.length≤200:=by(rw [←yyi,hL1,List.length_take];have:=HC.out.le;have:=HC.out.le;have:=H200.out;omega)
      clear hU hUD hL1 hL2 hL3 hcl
      refine hK.out _ _ ⟨HP2.out.cell rfl,HP2.out.cell rfl,HP2.out.cell rfl,HP2.out.cell rfl,HP2.out.cell rfl,HP2.out.cell rfl,HP2.out.cell rfl,HE2.out.cell rfl,HE2.out.cell rfl,HE2.out.cell rfl,HE2.out.cell rfl,HE2.out.cell rfl,HE2.out.cell rfl,HE2.out.cell rfl⟩ (fun hHeld=> ?_)
      clear hK K
      try simp only [Act.put,q1,q2,q3]
      refine zh8 7 {dst:=some 27,op:=Op.slice 95 (Operand.tmp 22) none (some (Operand.tmp 26)) none,type:=95,pos:=_,after:=_,guard:=none} U ?_
      try simp only [Act.put,q1,q2,q3]
      refine wpAnyH_ready (rs:= [8]) (by kernel_rfl) (by simp) ?_
      refine AllReadyH.cons rfl (fun K hK=> ?_) AllReadyH.nil
      refine ywl (w:=w2) rfl (.tmp 20) (.tmp 27) 95 rfl B 172 ip _ 12 144 Tryz.underlying95 hip hip0 hip1 hip2 rfl (by decide) o (L.length) (yxp L) rfl HO2.out U (LU.length) (yxp LU) rfl HLS.out (zmv LU) (by unfold maxLen;omega) (by omega) (Nat.le_trans hsV HB2.out.size) ?_
      intro vn w3 hown hgrow hnew
      have hgt:=yw9 hgrow
      have HP3:=yxv (HP2.out.turns hgt (ywp HO2.out HP2.out (by decide)))
      have HE3:=yxv (HE2.out.turns hgt (ywp HO2.out HE2.out (by decide)))
      have HO3:Hid (w3.ownsRow B 172 12 vn (L++LU).length (yxp (L++LU))):=by(rw [zd9,List.length_append];exact hown)
      have HB3:Hid (Below B W1 w3):=(HBV.out.trans (HB2.out.mono hsV)).grown hgrow (Nat.le_trans hsV HB2.out.size) (fun q e=>yx4 HO2.out e)
      clear hown hgrow hnew hgt
      refine hK.out _ _ ⟨HP3.out.cell rfl,HP3.out.cell rfl,HP3.out.cell rfl,HP3.out.cell rfl,HP3.out.cell rfl,HP3.out.cell rfl,HP3.out.cell rfl,HE3.out.cell rfl,HE3.out.cell rfl,HE3.out.cell rfl,HE3.out.cell rfl,HE3.out.cell rfl,HE3.out.cell rfl,HE3.out.cell rfl⟩ (fun hHeld=> ?_)
      clear hK K
      try simp only [Act.put,q1,q2,q3]
      refine zh8 9 {dst:=some 5,op:=Op.assign (Operand.tmp 28),type:=95,pos:=_,after:=_,guard:=none} vn ?_
      try simp only [Act.put,q1,q2,q3]
      refine wpAnyH_done (by kernel_rfl) ?_ _
      clear hHeld
      go_wp2
      go_roundw
      case rel=>
        refine⟨j+1,vn,L++LU,by omega,rfl,by go_num,HO3.out,?_,fun y hy=> ?_,HB3.out⟩
        · rw [ziy,HL.out,HL1.out,zef,←HC.out.eq]
        · rcases List.mem_append.1 hy with h9|h9
          · exact HR.out y h9
          · exact HL3.out y h9
      case measure=>simp [intOf];omega
    · obtain rfl:k.p.length=j:=by omega
      go_wp2_with fail
      refine(znd B o L _ (by omega) HO.out).mono ?_
      rintro e w5 ⟨rfl,L',hp,hs,ho,ht⟩
      have HP5:Hid (L'.Perm L):=hp
      have HS5:=yxv hs
      have HO5:=yxv ho
      have HB5:=yxv (HBr.out.trans (ht.to_below (fun q e=>Nat.le_trans (Nat.le_of_lt hB2) (yx4 HO.out e)) HBr.out.size))
      clear hp hs ho ht
      go_wp2
      go_ret
      refine⟨_,L',rfl,?_,?_,yw0 HO5.out (by omega),fun z hz=>HR.out z (HP5.out.subset hz),HB5.out⟩
      · rw [←HL.out]
        exact HP5.out.map _
      · exact List.pairwise_map.2 (HS5.out.imp (fun h=>Int.not_lt.2 h))
end Go.Proofs.YtghndljgadpijaaGreat

