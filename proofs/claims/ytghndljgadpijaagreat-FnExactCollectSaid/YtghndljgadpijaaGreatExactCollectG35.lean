/- ColP, DIn, ColQ, PTw, DIp, KMt, TPpD -/
import Derived.Test.YtghndljgadpijaaGreatExactCollectLCtS
import Derived.Test.YtghndljgadpijaaGreatExactCollectG03
import Derived.Test.YtghndljgadpijaaGreatExactCollectG01
import Derived.Test.YtghndljgadpijaaGreatExactCollectG11
import Derived.Test.YtghndljgadpijaaGreatExactCollectG19
import Derived.Test.YtghndljgadpijaaGreatExactCollectG05
/- Collect, in plain words: what is settled goes over into what is sure. -/
namespace Go.Proofs.YtghndljgadpijaaGreat
open Go.RowKit
def cutP (g:Option Ev) (p:Pa):Pa:=⟨p.n,p.st,p.p.drop (cutN g p.p),p.t,p.a⟩
def colK (k:Kn):Kn:=⟨k.m,k.d,k.p.map (cutP (gvtE k)),k.b,k.t,k.q,k.f,k.s++yz8 (comL k),yze k (comL k)⟩
def zik:Kn:=⟨⟨0,0,[],[],[],0⟩,[],[],[],0,0,false,[],[]⟩
noncomputable def colA (k : Kn) : Kn := if k.ok = true then (if (colK k).ok = true then colK k else k) else zik
noncomputable def colN (k : Kn) : Int := if k.ok = true then (if (colK k).ok = true then ((comL k).length : Int) else 0) else -1
theorem zp7 (g:Option Ev) (l:List Pa) {i:Nat} (h:i<l.length):paAt (l.map (cutP g)) i=cutP g (paAt l i):=by
  simp [paAt,h]
theorem zk3 (l:List Ps) (f:Ps→Nat):∀n,n≤l.length→sumL (fun i=>f (psAt l i)) n=((l.take n).map f).sum
  |0,_=>by simp [sumL]
  |n+1,h=>by
    have ih:=zk3 l f n (by omega)
    show sumL (fun i=>f (psAt l i)) n+f (psAt l n)=_
    rw [ih,List.take_add_one,zfj (by omega:n<l.length)]
    simp [List.sum_append]
def one (q:Ps):Nat:=1+q.wt
theorem zna:∀l:List Ps,(l.map one).sum=l.length+(l.map Ps.wt).sum
  | []=>rfl
  |q::l=>by
    rw [List.map_cons,List.sum_cons,zna l,List.map_cons,List.sum_cons,List.length_cons,one]
    omega
theorem znu (l:List Ps):(yw3 l).wt=(l.map one).sum:=by
  rw [yxh,zk3 l Ps.wt _ (Nat.le_refl _),List.take_length,zna]
theorem cut_sum (l:List Ps) (c:Nat):(l.map one).sum=((l.take c).map one).sum+((l.drop c).map one).sum:=by
  rw [←List.sum_append,←List.map_append,List.take_append_drop]
theorem zkd (g:Option Ev) (p:Pa):(cutP g p).wt+((p.p.take (cutN g p.p)).map one).sum=p.wt:=by
  have h:=cut_sum p.p (cutN g p.p)
  unfold Pa.wt cutP
  simp only [znu]
  omega
theorem zhm (k:Kn):∀n,n≤k.p.length→sumL (fun i=>(cutP (gvtE k) (paAt k.p i)).wt) n+((setL k n).map one).sum=sumL (fun i=>(paAt k.p i).wt) n
  |0,_=>by simp [sumL,zhc]
  |n+1,h=>by
    have ih:=zhm k n (by omega)
    have h1:=zkd (gvtE k) (paAt k.p n)
    rw [zef,List.map_append,List.sum_append]
    show sumL (fun i=>(cutP (gvtE k) (paAt k.p i)).wt) n+(cutP (gvtE k) (paAt k.p n)).wt+_=sumL (fun i=>(paAt k.p i).wt) n+(paAt k.p n).wt
    omega
theorem cut_wt (k:Kn):(ywi (k.p.map (cutP (gvtE k)))).wt+((setL k k.p.length).map one).sum=(ywi k.p).wt:=by
  have h:=zhm k k.p.length (Nat.le_refl _)
  rw [yyb,yyb,List.length_map]
  rw [zar (L':=fun i=>(cutP (gvtE k) (paAt k.p i)).wt) (fun i hi=>by rw [zp7 _ _ hi])]
  omega
theorem zjz:∀l:List Ps,l.length+(l.flatMap (·.x)).length≤(l.map one).sum
  | []=>by simp
  |q::l=>by
    have ih:=zjz l
    rw [List.length_cons,List.flatMap_cons,List.length_append,List.map_cons,List.sum_cons,one]
    have:q.x.length≤q.wt:=by unfold Ps.wt;rw [yy3];omega
    omega
theorem col_wt {k:Kn} (h:k.ok=true):(colK k).wt≤k.wt:=by
  have h1:=cut_wt k
  have h2:=((ze6 h).1.map one).sum_nat
  have h3:=zjz (comL k)
  unfold Kn.wt colK
  simp only [ywf,yx0,yy3,List.length_append,yz8,List.length_map,yze]
  omega
theorem zf1 {k:Kn} (hs:ywy k) (h:k.ok=true):ywy (colK k):=⟨hs.1,Nat.le_trans (col_wt h) hs.2⟩
inductive InD (F : Nat → Prop) (w : World) : Value → Dat → Prop
  |val (v:Value):InD F w v (.val v)
  |nil (a:Option Addr) (cap c:Nat) (f:Nat→Dat) (h:cap≤maxLen):InD F w (.slice a 0 cap) (.row c 0 f)
  |row (b off n cap c:Nat) (f:Nat→Dat) (U:Nat→Value) (h1:n≤cap) (h2:cap≤maxLen) (hF:F b) (hb:b<w.heap.size) (hc:∀j,j<n*c→w.cell? ⟨b,off+j,none⟩=some (U j)) (hs:∀j,j<n*c→InD F w (U j) (f j)):InD F w (.slice (some ⟨b,off,none⟩) n cap) (.row c n f)
theorem InD.isD {F:Nat→Prop} {w:World} {x:Value} {d:Dat} (h:InD F w x d):IsD w x d:=by
  induction h with
  |val v=>exact .val v
  |nil a cap c f h=>exact .nil a cap c f h
  |row b off n cap c f U h1 h2 hF hb hc hs ih=>exact .row b off n cap c f U h1 h2 hb hc ih
theorem InD.mono {F G:Nat→Prop} {w:World} {x:Value} {d:Dat} (h:InD F w x d) (hG:∀k,F k→G k):InD G w x d:=by
  induction h with
  |val v=>exact .val v
  |nil a cap c f h=>exact .nil a cap c f h
  |row b off n cap c f U h1 h2 hF hb hc hs ih=>exact .row b off n cap c f U h1 h2 (hG b hF) hb hc ih
theorem InD.turns {F S:Nat→Prop} {w w':World} {x:Value} {d:Dat} (h:InD F w x d) (ht:Turns S w w') (hS:∀k,F k→ ¬S k):InD F w' x d:=by
  induction h with
  |val v=>exact .val v
  |nil a cap c f h=>exact .nil a cap c f h
  |row b off n cap c f U h1 h2 hF hb hc hs ih=>exact .row b off n cap c f U h1 h2 hF (Nat.lt_of_lt_of_le hb ht.size) (fun j hj=>by rw [ht.cell hb (hS b hF)];exact hc j hj) ih
theorem InD.under {F:Nat→Prop} {w w':World} {x:Value} {d:Dat} (h:InD F w x d) (hb:Below w.heap.size w w'):InD F w' x d:=h.turns (S:=fun _=>False) (Turns.of_below hb) (fun _ _=>id)
theorem OwnD.inD {F:Nat→Prop} {w:World} {x:Value} {d:Dat} (h:OwnD w F x d):InD F w x d:=by
  induction h with
  |val F v=>exact .val v
  |nil F a cap c f h=>exact .nil a cap c f h
  |row F g n cap c f U G h1 h2 hg hF hc hs hG hGG ih=>
    exact .row g 0 n cap c f U h1 h2 hF hg (fun j hj=>by rw [Nat.zero_add];exact(hc j hj).1) (fun j hj=>(ih j hj).mono fun k hk=>(hG j hj k hk).1)
structure RowIn (F:Nat→Prop) (w:World) (g m:Nat) (f:Nat→Dat):Prop where
  lt:g<w.heap.size
  no:¬F g
  at_:∀j,j<m→ ∃u,w.cell? ⟨g,j,none⟩=some u∧w.frozen? ⟨g,j,none⟩=false∧InD F w u (f j)
theorem RowIn.isD {F:Nat→Prop} {w:World} {g n cap c:Nat} {f:Nat→Dat} (h:RowIn F w g (n*c) f) (h1:n≤cap) (h2:cap≤maxLen):IsD w (.slice (some ⟨g,0,none⟩) n cap) (.row c n f):=
  IsD.of_parts h1 h2 (.inr ⟨g,0,rfl,h.lt,fun j hj=>by
    obtain⟨u,hu,_,hd⟩:=h.at_ j hj
    exact⟨u,by rw [Nat.zero_add];exact hu,hd.isD⟩⟩)
theorem RowIn.mono {F G:Nat→Prop} {w:World} {g m:Nat} {f:Nat→Dat} (h:RowIn F w g m f) (hG:∀k,F k→G k) (hn:¬G g):RowIn G w g m f:=
  ⟨h.lt,hn,fun j hj=>by obtain⟨u,hu,hf,hd⟩:=h.at_ j hj;exact⟨u,hu,hf,hd.mono hG⟩⟩
theorem RowIn.turns {F S:Nat→Prop} {w w':World} {g m:Nat} {f:Nat→Dat} (h:RowIn F w g m f) (ht:Turns S w w') (hS:∀k,F k→ ¬S k) (hg:¬S g):RowIn F w' g m f:=
  ⟨Nat.lt_of_lt_of_le h.lt ht.size,h.no,fun j hj=>by
    obtain⟨u,hu,hf,hd⟩:=h.at_ j hj
    exact⟨u,by rw [ht.cell h.lt hg];exact hu,by rw [ht.frozen h.lt hg];exact hf,hd.turns ht hS⟩⟩
theorem RowIn.put {F:Nat→Prop} {w:World} {g m:Nat} {f:Nat→Dat} (h:RowIn F w g m f) {j:Nat} (hj:j<m) {u:Value} {d:Dat} (hu:InD F w u d):RowIn F (w.setCell ⟨g,j,none⟩ u) g m (upd f j d):=by
  have ht:Turns (fun b=>b=g) w (w.setCell ⟨g,j,none⟩ u):=yag w g j u
  have hS:∀k,F k→ ¬k=g:=fun k hk e=>h.no (e▸hk)
  refine⟨Nat.lt_of_lt_of_le h.lt ht.size,h.no,fun i hi=> ?_⟩
  obtain⟨v,hv,hf,hd⟩:=h.at_ i hi
  by_cases e:i=j
  · subst e
    exact⟨u,cell_put hv,by rw [zdn];exact hf,by rw [upd_same];exact hu.turns ht hS⟩
  · exact⟨v,by rw [zc5 e];exact hv,by rw [zdn];exact hf,by rw [upd_ne _ _ e];exact hd.turns ht hS⟩
theorem zbw {w:World} {g j:Nat} {v:Value} (h:w.cell? ⟨g,j,none⟩=some v):w.setCell ⟨g,j,none⟩ v=w:=by
  have hh:∀(A:Array Obj) (k:Nat) (f:Obj→Obj),(∀o,A[k]? =some o→f o=o)→A.modify k f=A:=fun A k f hf=>by
    apply Array.ext_getElem?
    intro i
    rw [Array.getElem?_modify]
    split
    · next e=>
      subst e
      cases ho:A[k]? with
      |none=>rfl
      |some o=>simp [hf o ho]
    · rfl
  unfold World.setCell
  rw [hh]
  intro o ho
  cases o with
  |cells c T fz=>
    have h2:c[j]? =some v:=by
      have h9:=h
      unfold World.cell? at h9
      rw [show w.heap[(⟨g,j,none⟩:Addr).block]? =some (.cells c T fz)from ho]at h9
      simpa using h9
    show Obj.cells (c.setIfInBounds j v) T fz=_
    have h3:c.setIfInBounds j v=c:=by
      apply Array.ext_getElem?
      intro i
      rw [Array.getElem?_setIfInBounds]
      split
      · next e2=>
        subst e2
        rw [h2]
        split
        · rfl
        · next h9=>rw [Array.getElem?_eq_none (by omega)]at h2;cases h2
      · rfl
    rw [h3]
  |_=>rfl
def zap (g:Option Ev) (i:Nat) (l:List Pa):List Pa:=(l.take i).map (cutP g)++l.drop i
theorem zmp (g:Option Ev) (l:List Pa):zap g 0 l=l:=by simp [zap]
theorem zp9 (g:Option Ev) (l:List Pa):zap g l.length l=l.map (cutP g):=by simp [zap]
theorem zgq (g:Option Ev) {i j:Nat} {l:List Pa} (hj:j<l.length):paAt (zap g i l) j=if j<i then cutP g (paAt l j)else paAt l j:=by
  unfold zap paAt
  rw [List.getD_eq_getElem?_getD,List.getD_eq_getElem?_getD]
  split
  · next h=>
    rw [List.getElem?_append_left (by rw [List.length_map,List.length_take];omega),List.getElem?_map,List.getElem?_take_of_lt h,List.getElem?_eq_getElem hj]
    rfl
  · next h=>
    rw [List.getElem?_append_right (by rw [List.length_map,List.length_take];omega),List.length_map,List.length_take,List.getElem?_drop,show i+(j-min i l.length)=j by omega]
theorem zpa (g:Option Ev) (p:Pa) {r:Nat} (hr:r≠4):(cutP g p).cell r=p.cell r:=by
  match r with
  |0=>rfl
  |1=>rfl
  |2=>rfl
  |3=>rfl
  |4=>exact absurd rfl hr
  |5=>rfl
  |6=>rfl
  |_+7=>rfl
theorem zp8 (g:Option Ev) {i:Nat} {l:List Pa}:∀j,j<l.length*7→upd (yfa (zap g i l)) (i*7+4) (yw3 ((paAt l i).p.drop (cutN g (paAt l i).p))) j=yfa (zap g (i+1) l) j:=by
  intro j hj
  have hq:j/7<l.length:=by omega
  show _=(paAt (zap g (i+1) l) (j/7)).cell (j%7)
  rw [zgq g hq]
  by_cases e:j=i*7+4
  · subst e
    rw [upd_same,show(i*7+4)/7=i by omega,if_pos (by omega),show(i*7+4)%7=4 by omega]
    rfl
  · rw [upd_ne _ _ e]
    show(paAt (zap g i l) (j/7)).cell (j%7)=_
    rw [zgq g hq]
    by_cases c:j/7<i
    · rw [if_pos c,if_pos (by omega)]
    · rw [if_neg c]
      by_cases d:j/7=i
      · rw [if_pos (by omega),zpa g _ (by omega)]
      · rw [if_neg (by omega)]
theorem zdy {P:Program} {md:Region.Mode} {ops:Array Oper} {Q:Exit→Act→World→Prop} {S:World→Prop} {fuel:Nat} {listed:Array Bool} {a:Act} {w:World} (i:Nat) (oi:Oper) (v:Value)
  (h:wpAnyH P md ops Q S fuel (listed.setIfInBounds i true) (a.put oi.dst v) w) (hi:ops[i]? =some oi:=by rfl)
  (hs:Region.noSelect ops=true:=by kernel_rfl) (hf:Region.free md ops listed i=true:=by kernel_rfl) (hr:(Region.ready md ops listed).contains i=true:=by kernel_rfl)
  (hQ:∀c a w,Q (.panic c) (a.put oi.dst v) w→Q (.panic c) a w:=by exact fun _ _ _ h=>h)
  (hy:YieldsIf P ops S oi v a:=by exact Or.inl ⟨by rfl,by(intro wX hSw;(try dsimp only at hSw);go_simp;(try exact IntWalk.i64_in _ (by omega)))⟩) (hS:S w:=by assumption):wpAnyH P md ops Q S (fuel+1) listed a w:=
  wpAnyH_take hi hs hf hr hQ hy hS h
theorem ywk {p:Prop} (h:p):Hid p:=h
set_option maxRecDepth 100000 in
set_option maxHeartbeats 16000000 in
theorem zhs (a1:Option Addr) (c1:Nat) (a4:Option Addr) (c4:Nat) (a5:Option Addr) (c5:Nat) (a6:Option Addr) (c6:Nat) (p:Pa) (e:Ev) (w:World) (hw:p.wt≤1048577) (hn4:p.p.length≤c4) (d1:IsD w (.slice a1 p.st.r.length c1) (ywr p.st.r)) (d4:IsD w (.slice a4 p.p.length c4) (yw3 p.p)) (d5:IsD w (.slice a5 p.t.length c5) (evsD p.t)) (d6:IsD w (.slice a6 p.a.length c6) (ywr p.a)):
    Calls Tryz.prog 110 #[.agg #[.int .i64 p.n,.slice a1 p.st.r.length c1,.int .i64 p.st.q,.int .i64 p.st.d,.slice a4 p.p.length c4,.slice a5 p.t.length c5,.slice a6 p.a.length c6],.agg #[.int .i64 e.t,.int .i64 e.s,.int .i64 e.q,.int .i64 e.d,.int .i64 e.k,.int .i64 e.v,.int .i64 e.g]] w fun r w'=>∃an cn y2 k cs,r= .returned (.tuple #[.agg #[.int .i64 p.n,.slice a1 p.st.r.length c1,.int .i64 p.st.q,.int .i64 p.st.d,.slice an (p.p.drop k).length cn,.slice a5 p.t.length c5,.slice a6 p.a.length c6],y2])∧CutAt p.p e k∧SrcC w (sliced a4 k p.p.length c4 12) 12 (p.p.drop k).length cs∧w'.ownsRow w.heap.size 172 12 (.slice an (p.p.drop k).length cn) (p.p.drop k).length cs∧Below w.heap.size w w':=by
  have hp9:p.p.length≤1048577:=by
    have e3:=yxh p.p
    unfold Pa.wt at hw
    omega
  obtain⟨ip,hip,hip0,hip1,hip2⟩:=info_parts zes
  obtain⟨W0,hW0⟩:∃W0,((w.alloc (.cells #[.int .i64 p.n,.slice a1 p.st.r.length c1,.int .i64 p.st.q,.int .i64 p.st.d,.slice a4 p.p.length c4,.slice a5 p.t.length c5,.slice a6 p.a.length c6] 97)).alloc (.cells #[.int .i64 e.t,.int .i64 e.s,.int .i64 e.q,.int .i64 e.d,.int .i64 e.k,.int .i64 e.v,.int .i64 e.g] 90)).alloc (.cells #[.int .i64 0,.slice none 0 0,.int .i64 0,.int .i64 0,.slice none 0 0,.slice none 0 0,.slice none 0 0] 97)=W0:=⟨_,rfl⟩
  have hz0:W0.heap.size=w.heap.size+1+1+1:=by rw [←hW0];simp
  have hb0:Below w.heap.size w W0:=hW0▸(((Below.refl _ w).alloc (Nat.le_refl _) _).alloc (by simp) _).alloc (by simp;omega) _
  have HB0:=ywk hb0
  have HW0:=ywk hW0
  have BX:Hid (Bk W0 w.heap.size 97 #[.int .i64 p.n,.slice a1 p.st.r.length c1,.int .i64 p.st.q,.int .i64 p.st.d,.slice a4 p.p.length c4,.slice a5 p.t.length c5,.slice a6 p.a.length c6]):=hW0▸((Bk.new w _ _).alloc _).alloc _
  have BE:Hid (Bk W0 (w.heap.size+1) 90 #[.int .i64 e.t,.int .i64 e.s,.int .i64 e.q,.int .i64 e.d,.int .i64 e.k,.int .i64 e.v,.int .i64 e.g]):=hW0▸(Bk.newAt (by simp) _ _).alloc _
  have BZ:Hid (Bk W0 (w.heap.size+1+1) 97 #[.int .i64 0,.slice none 0 0,.int .i64 0,.int .i64 0,.slice none 0 0,.slice none 0 0,.slice none 0 0]):=hW0▸Bk.newAt (by simp) _ _
  have O1:=ywk d1
  have O4:=ywk d4
  have O5:=ywk d5
  have O6:=ywk d6
  have D4:=ywk (d4.under hb0)
  have hz0':W0.heap.size≤w.heap.size+1+1+1∧w.heap.size+1+1+1≤W0.heap.size:=by omega
  clear hW0 hb0 d1 d4 d5 d6 hw hz0
  go_enter Tryz.func110,Tryz.ntmps110
  go_wp2
  rw [HW0.out]
  clear HW0
  go_loopw [6] (fun i wr=>∃k:Nat,k≤p.p.length∧i= .int .i64 k∧Hid (Below W0.heap.size W0 wr)∧Hid (∀j,j<k→(psAt p.p j).e.cmp e<0)) (fun i _=>p.p.length-(intOf i).toNat)
  case atStart=>exact⟨0,Nat.zero_le _,rfl,Below.refl _ _,fun j hj=>by omega⟩
  case round=>
    obtain⟨k,hk,rfl,HB,HJ⟩:=hrel
    have hsz:W0.heap.size≤wr.heap.size:=HB.out.size
    have hne:=neB wr
    have HX:=ywk (BX.out.below HB.out)
    have HE:=ywk (BE.out.below HB.out)
    have x4:=HX.out.beyond (i:=4) rfl
    obtain⟨e0,e1,e2,e3,e4,e5,e6⟩:=bb7 HE.out
    by_cases hlt:k<p.p.length
    · have hkn:(k:Int)<(p.p.length:Int):=by omega
      have hd:decide (k<p.p.length)=true:=by simpa using hlt
      obtain⟨a4',cap4,he4,_,_,h4⟩:=IsD.parts (c:=12) (n:=p.p.length) (D4.out.under HB.out)
      obtain⟨b,off,ha4,hb4,hc4⟩:=h4.resolve_left (by omega)
      obtain⟨rfl,rfl⟩:a4=a4'∧c4=cap4:=by simpa using he4
      subst ha4
      obtain⟨u7,u10,u11,f0,f1,f2,f3,f4,f5,f6,_⟩:=yya hc4 hlt
      have g0:∀q:Beyond wr,q.w.cell? ⟨b,off+k*12,none⟩=_:=fun q=>q.cell hb4 f0
      have g1:∀q:Beyond wr,q.w.cell? ⟨b,off+k*12+1,none⟩=_:=fun q=>q.cell hb4 f1
      have g2:∀q:Beyond wr,q.w.cell? ⟨b,off+k*12+2,none⟩=_:=fun q=>q.cell hb4 f2
      have g3:∀q:Beyond wr,q.w.cell? ⟨b,off+k*12+3,none⟩=_:=fun q=>q.cell hb4 f3
      have g4:∀q:Beyond wr,q.w.cell? ⟨b,off+k*12+4,none⟩=_:=fun q=>q.cell hb4 f4
      have g5:∀q:Beyond wr,q.w.cell? ⟨b,off+k*12+5,none⟩=_:=fun q=>q.cell hb4 f5
      have g6:∀q:Beyond wr,q.w.cell? ⟨b,off+k*12+6,none⟩=_:=fun q=>q.cell hb4 f6
      clear f0 f1 f2 f3 f4 f5 f6 hc4 h4 he4
      generalize hz:(psAt p.p k).e.cmp e=z
      have HZ:=ywk hz
      clear hz
      by_cases hzl:z<0
      · have hdz:decide (z<0)=true:=by simpa using hzl
        go_wp2_with fail
        refine wrb ?_
        repeat(go_big_quiet_step (first|(go_at_call 176;exact Beyond.of (yxa (psAt p.p k).e e z HZ.out _))))
        refine wpQuiet_nil ?_
        rintro w2 ⟨⟨_,hb2⟩,rfl⟩
        clear hne x4 e0 e1 e2 e3 e4 e5 e6 g0 g1 g2 g3 g4 g5 g6
        go_wp2
        go_roundw
        case rel=>exact⟨k+1,by omega,by go_num,HB.out.trans (hb2.mono hsz),fun j hj=>by
          by_cases ej:j=k
          · subst ej;rw [HZ.out];exact hzl
          · exact HJ.out j (by omega)⟩
        case measure=>simp [intOf];omega
      · have hdz:decide (z<0)=false:=by simpa using hzl
        go_wp2_with fail
        refine wrb ?_
        repeat(go_big_quiet_step (first|(go_at_call 176;exact Beyond.of (yxa (psAt p.p k).e e z HZ.out _))))
        refine wpQuiet_nil ?_
        rintro w2 ⟨⟨_,hb2⟩,rfl⟩
        clear hne x4 e0 e1 e2 e3 e4 e5 e6 g0 g1 g2 g3 g4 g5 g6
        have HC:Hid (CutAt p.p e k):=⟨hk,HJ.out,fun _=>by rw [HZ.out];omega⟩
        have HBw:=ywk (HB0.out.trans ((HB.out.trans (hb2.mono hsz)).mono (by omega)))
        have HB2:=ywk (HB.out.trans (hb2.mono hsz))
        clear hb2
        have hs2:W0.heap.size≤w2.heap.size:=HB2.out.size
        have HX2:=ywk (BX.out.below HB2.out)
        have HZ2:=ywk (BZ.out.below HB2.out)
        obtain⟨x0,x1,x2,x3,x4,x5,x6⟩:=c7_7 HX2.out
        have hk8:(k:Int)≤(p.p.length:Int):=by omega
        obtain⟨W4,hW4⟩:∃V,(w2.alloc (.cells #[.int .i64 p.n,.slice a1 p.st.r.length c1,.int .i64 p.st.q,.int .i64 p.st.d,.slice (some ⟨b,off,none⟩) p.p.length c4,.slice a5 p.t.length c5,.slice a6 p.a.length c6] 97)).alloc (.cells #[] 172)=V:=⟨_,rfl⟩
        have HX4:Hid (Bk W4 w.heap.size 97 #[.int .i64 p.n,.slice a1 p.st.r.length c1,.int .i64 p.st.q,.int .i64 p.st.d,.slice (some ⟨b,off,none⟩) p.p.length c4,.slice a5 p.t.length c5,.slice a6 p.a.length c6]):=hW4▸(HX2.out.alloc _).alloc _
        have HQ4:=hdq (bkA2 hW4)
        have HZ4:Hid (Bk W4 (w.heap.size+1+1) 97 #[.int .i64 0,.slice none 0 0,.int .i64 0,.int .i64 0,.slice none 0 0,.slice none 0 0,.slice none 0 0]):=hW4▸(HZ2.out.alloc _).alloc _
        have HE4:Hid (W4.ownsRow (w2.heap.size+1) 172 12 (.slice (some ⟨w2.heap.size+1,0,none⟩) 0 0) 0 []):=by(rw [←hW4];have:=yx8 (w2.alloc (.cells #[.int .i64 p.n,.slice a1 p.st.r.length c1,.int .i64 p.st.q,.int .i64 p.st.d,.slice (some ⟨b,off,none⟩) p.p.length c4,.slice a5 p.t.length c5,.slice a6 p.a.length c6] 97)) 172 12;rw [World.size_alloc]at this;exact this)
        have hb4':Below w2.heap.size w2 W4:=hW4▸((Below.refl _ w2).alloc (Nat.le_refl _) _).alloc (by simp) _
        have HB4:=ywk hb4'
        have x4':=HX4.out.cell (i:=4) rfl
        clear hb4'
        have hkd:(p.p.drop k).length≤1048577∧(p.p.take k).length≤1048577:=by
          rw [List.length_drop,List.length_take]
          omega
        obtain⟨V,hV⟩:∃V,sliced (some ⟨b,off,none⟩) k p.p.length c4 12=V:=⟨_,rfl⟩
        have hVD:IsD w V (yw3 (p.p.drop k)):=hV▸zdj O4.out hk
        have hsl:∀w:World,(Instr.sliceAt 95 (.slice (some ⟨b,off,none⟩) p.p.length c4) (some (.int .i64 (k:Int))) none none).run Tryz.prog w= .ok V w:=fun w=>hV▸zcb _ _ _ _ hk w
        obtain⟨U,hU⟩:∃U,sliced (some ⟨b,off,none⟩) 0 k c4 12=U:=⟨_,rfl⟩
        have hUD:IsD w U (yw3 (p.p.take k)):=hU▸zdi O4.out hk
        have hsl2:∀w:World,(Instr.sliceAt 95 (.slice (some ⟨b,off,none⟩) p.p.length c4) none (some (.int .i64 (k:Int))) none).run Tryz.prog w= .ok U w:=fun w=>hU▸zeh _ _ _ _ (by omega) w
        obtain⟨cs,hsrc,hdat⟩:=IsD.cells hVD
        obtain⟨cs2,hsrc2,hdat2⟩:=IsD.cells hUD
        obtain⟨av,cv,rfl,_⟩:=IsD.len hVD
        obtain⟨au,cu,rfl,_⟩:=IsD.len hUD
        have HSR:=ywk hsrc
        have HDA:=ywk hdat
        have HSR2:=ywk hsrc2
        have HDA2:=ywk hdat2
        have H1:=ywk (ze4 hsrc.1 hdat)
        have H2:=ywk (ze4 hsrc2.1 hdat2)
        have HBw4:=trh HBw HB4.out
        have hsz4:w2.heap.size+1+1≤W4.heap.size:=by rw [←hW4];simp
        have hszw:=HBw.out.size
        obtain⟨m,hm⟩:∃m,(p.p.drop k).length=m:=⟨_,rfl⟩
        obtain⟨m2,hm2⟩:∃m,(p.p.take k).length=m:=⟨_,rfl⟩
        have HM:Hid ((p.p.drop k).length=m∧(p.p.take k).length=m2):=⟨hm,hm2⟩
        rw [hm]at hsl hkd HSR HDA
        rw [hm2]at hsl2 hkd HSR2 HDA2
        have HVS:Hid (SrcC w (sliced (some ⟨b,off,none⟩) k p.p.length c4 12) 12 (p.p.drop k).length cs):=(by rw [hV];exact hsrc:SrcC w (sliced (some ⟨b,off,none⟩) k p.p.length c4 12) 12 (p.p.drop k).length cs)
        clear hV hU hsrc hdat hsrc2 hdat2 hVD hUD hm hm2
        go_wp2_with (at_builtin;refine ywg _ rfl _ _ 95 rfl (w2.heap.size+1) 172 ip _ 12 144 Tryz.underlying95 hip hip0 hip1 hip2 rfl (by decide) (.slice (some ⟨w2.heap.size+1,0,none⟩) 0 0) 0 [] rfl HE4.out (.slice av m cv) m cs rfl (HSR.out.below HBw4.out) H1.out (by unfold maxLen;omega) (by omega) (by omega) ?_;intro vn w5 hown hgrow hnew;have h45:=yw9 hgrow;have HQ5:Hid (Bk w5 w2.heap.size 97 #[.int .i64 p.n,.slice a1 p.st.r.length c1,.int .i64 p.st.q,.int .i64 p.st.d,.slice (some ⟨b,off,none⟩) p.p.length c4,.slice a5 p.t.length c5,.slice a6 p.a.length c6]):=HQ4.out.turns h45 (by simp [Value.ownBlock]);have HX5:Hid (Bk w5 w.heap.size 97 #[.int .i64 p.n,.slice a1 p.st.r.length c1,.int .i64 p.st.q,.int .i64 p.st.d,.slice (some ⟨b,off,none⟩) p.p.length c4,.slice a5 p.t.length c5,.slice a6 p.a.length c6]):=HX4.out.turns h45 (by simp [Value.ownBlock];omega);have HZ5:Hid (Bk w5 (w.heap.size+1+1) 97 #[.int .i64 0,.slice none 0 0,.int .i64 0,.int .i64 0,.slice none 0 0,.slice none 0 0,.slice none 0 0]):=HZ4.out.turns h45 (by simp [Value.ownBlock];omega);have HBw5:Hid (Below w.heap.size w w5):=HBw4.out.grown hgrow (by omega) (fun b e=>by simp [Value.ownBlock]at e;omega);rw [Nat.zero_add,List.nil_append]at hown;obtain⟨an,cn,hvn⟩:=yfm hown;subst hvn;have HO5:=hdq hown;have hs5:W4.heap.size≤w5.heap.size:=hgrow.size;have z4:=HQ5.out.cell (i:=4) rfl;have zf:=HQ5.out.free;clear hown hgrow hnew h45)
        clear x4' zf z4 hW4 hsl x0 x1 x2 x3 x4 x5 x6
        obtain⟨W6,hW6⟩:∃V,w5.setCell ⟨w2.heap.size,4,none⟩ (.slice an m cn)=V:=⟨_,rfl⟩
        have ht6:=yag w5 w2.heap.size 4 (.slice an m cn)
        have hq6:=HQ5.out.put 4 (.slice an m cn)
        rw [hW6]at ht6 hq6⊢
        clear hW6
        have Q_0:=ywk hq6.drew
        have X_0:=ywk ((HX5.out.turns ht6 (by omega)).drew)
        have Z_0:=ywk ((HZ5.out.turns ht6 (by omega)).drew)
        have R_0:=ywk ((ypa HO5.out ht6 (fun b hb e=>by have:=yx4 HO5.out hb;omega)).drew)
        have HL6:Hid (∀b,(Value.slice an m cn).ownBlock=some b→b<W6.heap.size):=fun b hb=>owns_lt R_0.out hb
        have BW_0:=ywk ((HBw5.out.trans (ht6.to_below (fun b e=>by omega) HBw5.out.size)).drew)
        have hs6:w5.heap.size≤W6.heap.size:=ht6.size
        have hsd6:W6.drew.heap.size≤W6.heap.size∧W6.heap.size≤W6.drew.heap.size:=⟨Nat.le_refl _,Nat.le_refl _⟩
        clear ht6 hq6 HQ5 HX5 HZ5 HO5 HBw5
        have S_0:Hid (W6.drew.cell? ⟨w2.heap.size,0,none⟩=some (.int .i64 p.n)∧W6.drew.cell? ⟨w2.heap.size,1,none⟩=some (.slice a1 p.st.r.length c1)∧W6.drew.cell? ⟨w2.heap.size,2,none⟩=some (.int .i64 p.st.q)∧W6.drew.cell? ⟨w2.heap.size,3,none⟩=some (.int .i64 p.st.d)∧W6.drew.cell? ⟨w2.heap.size,4,none⟩=some (.slice an m cn)∧W6.drew.cell? ⟨w2.heap.size,5,none⟩=some (.slice a5 p.t.length c5)∧W6.drew.cell? ⟨w2.heap.size,6,none⟩=some (.slice a6 p.a.length c6)∧W6.drew.cell? ⟨w.heap.size,4,none⟩=some (.slice (some ⟨b,off,none⟩) p.p.length c4)):=⟨Q_0.out.cell rfl,Q_0.out.cell rfl,Q_0.out.cell rfl,Q_0.out.cell rfl,Q_0.out.cell rfl,Q_0.out.cell rfl,Q_0.out.cell rfl,X_0.out.cell rfl⟩
        refine wp_region_held_drew (S:=fun W=>W.cell? ⟨w2.heap.size,0,none⟩=some (.int .i64 p.n)∧W.cell? ⟨w2.heap.size,1,none⟩=some (.slice a1 p.st.r.length c1)∧W.cell? ⟨w2.heap.size,2,none⟩=some (.int .i64 p.st.q)∧W.cell? ⟨w2.heap.size,3,none⟩=some (.int .i64 p.st.d)∧W.cell? ⟨w2.heap.size,4,none⟩=some (.slice an m cn)∧W.cell? ⟨w2.heap.size,5,none⟩=some (.slice a5 p.t.length c5)∧W.cell? ⟨w2.heap.size,6,none⟩=some (.slice a6 p.a.length c6)∧W.cell? ⟨w.heap.size,4,none⟩=some (.slice (some ⟨b,off,none⟩) p.p.length c4)) (by kernel_rfl) S_0.out (fun hHeld=> ?_)
        refine zdy 0 {dst:=some 34,op:=Op.load 97 (Operand.tmp 7),type:=97,pos:=_,after:=_,guard:=none} (.agg #[.int .i64 p.n,.slice a1 p.st.r.length c1,.int .i64 p.st.q,.int .i64 p.st.d,.slice an m cn,.slice a5 p.t.length c5,.slice a6 p.a.length c6]) ?_
        try simp only [Act.put,q1,q2,q3]
        refine zdy 2 {dst:=some 36,op:=Op.fieldAddr 97 (Operand.tmp 2) 2,type:=0,pos:=_,after:=_,guard:=none} (.pointer (some ⟨w.heap.size,4,none⟩)) ?_
        try simp only [Act.put,q1,q2,q3]
        refine zdy 3 {dst:=some 37,op:=Op.load 95 (Operand.tmp 36),type:=95,pos:=_,after:=_,guard:=none} (.slice (some ⟨b,off,none⟩) p.p.length c4) ?_
        try simp only [Act.put,q1,q2,q3]
        refine zdy 4 {dst:=some 38,op:=Op.move (Operand.tmp 6),type:=3,pos:=_,after:=_,guard:=none} (.int .i64 (k:Int)) ?_
        try simp only [Act.put,q1,q2,q3]
        refine zdy 5 {dst:=some 39,op:=Op.slice 95 (Operand.tmp 37) none (some (Operand.tmp 38)) none,type:=95,pos:=_,after:=_,guard:=none} (.slice au m2 cu) ?_
        try simp only [Act.put,q1,q2,q3]
        refine wpAnyH_ready (rs:= [1]) (by kernel_rfl) (by simp) ?_
        refine AllReadyH.cons rfl (fun K hK=> ?_) AllReadyH.nil
        obtain⟨g8,hg8⟩:∃g,g=W6.heap.size:=⟨_,rfl⟩
        obtain⟨w1x,hw1⟩:∃V,(W6.alloc (.cells #[] 172)).drew=V:=⟨_,rfl⟩
        have HW1:=ywk hw1
        have HG8:Hid (g8=W6.heap.size):=hg8
        have Q_2:Hid (Bk w1x w2.heap.size 97 #[.int .i64 p.n,.slice a1 p.st.r.length c1,.int .i64 p.st.q,.int .i64 p.st.d,.slice an m cn,.slice a5 p.t.length c5,.slice a6 p.a.length c6]):=by(rw [←hw1];exact Q_0.out.alloc _)
        have X_2:Hid (Bk w1x w.heap.size 97 #[.int .i64 p.n,.slice a1 p.st.r.length c1,.int .i64 p.st.q,.int .i64 p.st.d,.slice (some ⟨b,off,none⟩) p.p.length c4,.slice a5 p.t.length c5,.slice a6 p.a.length c6]):=by(rw [←hw1];exact X_0.out.alloc _)
        have Z_2:Hid (Bk w1x (w.heap.size+1+1) 97 #[.int .i64 0,.slice none 0 0,.int .i64 0,.int .i64 0,.slice none 0 0,.slice none 0 0,.slice none 0 0]):=by(rw [←hw1];exact Z_0.out.alloc _)
        have R_2:Hid (w1x.ownsRow (w2.heap.size+1) 172 12 (.slice an m cn) m cs):=by(rw [←hw1];exact R_0.out.alloc _)
        have BW_2:Hid (Below w.heap.size w w1x):=by(rw [←hw1];exact BW_0.out.alloc BW_0.out.size _)
        clear Q_0 X_0 Z_0 R_0 BW_0
        have E_2:Hid (w1x.ownsRow W6.heap.size 172 12 (.slice (some ⟨g8,0,none⟩) 0 0) 0 []):=by(rw [←hw1,hg8];exact yx8 W6 172 12)
        have hz1:g8<w1x.heap.size:=by(rw [←hw1,hg8];exact(Bk.new W6 172 #[]).lt)
        have hzy1:W6.heap.size≤g8∧g8≤W6.heap.size:=by omega
        clear hw1 hg8
        go_simp
        rw [HW1.out,←HG8.out]
        have S_2:Hid (w1x.cell? ⟨w2.heap.size,0,none⟩=some (.int .i64 p.n)∧w1x.cell? ⟨w2.heap.size,1,none⟩=some (.slice a1 p.st.r.length c1)∧w1x.cell? ⟨w2.heap.size,2,none⟩=some (.int .i64 p.st.q)∧w1x.cell? ⟨w2.heap.size,3,none⟩=some (.int .i64 p.st.d)∧w1x.cell? ⟨w2.heap.size,4,none⟩=some (.slice an m cn)∧w1x.cell? ⟨w2.heap.size,5,none⟩=some (.slice a5 p.t.length c5)∧w1x.cell? ⟨w2.heap.size,6,none⟩=some (.slice a6 p.a.length c6)∧w1x.cell? ⟨w.heap.size,4,none⟩=some (.slice (some ⟨b,off,none⟩) p.p.length c4)):=⟨Q_2.out.cell rfl,Q_2.out.cell rfl,Q_2.out.cell rfl,Q_2.out.cell rfl,Q_2.out.cell rfl,Q_2.out.cell rfl,Q_2.out.cell rfl,X_2.out.cell rfl⟩
        refine hK.out _ _ S_2.out (fun hHeld=> ?_)
        clear hK K
        try simp only [Act.put,q1,q2,q3]
        refine wpAnyH_ready (rs:= [6]) (by kernel_rfl) (by simp) ?_
        refine AllReadyH.cons rfl (fun K hK=> ?_) AllReadyH.nil
        refine ywl (w:=w1x) rfl (.tmp 35) (.tmp 39) 95 rfl W6.heap.size 172 ip _ 12 144 Tryz.underlying95 hip hip0 hip1 hip2 rfl (by decide) (.slice (some ⟨g8,0,none⟩) 0 0) 0 [] rfl E_2.out (.slice au m2 cu) m2 cs2 rfl (HSR2.out.below BW_2.out) H2.out (by unfold maxLen;omega) (by omega) (by omega) ?_
        intro vn w3x hown hgrow hnew
        rw [Nat.zero_add,List.nil_append]at hown
        obtain⟨ae,ce,hve⟩:=yfm hown
        subst hve
        have hgt:=yw9 hgrow
        have hS8:∀k,(Value.slice (some ⟨g8,0,none⟩) 0 0).ownBlock=some k→k=g8:=fun k e=>by simpa [Value.ownBlock] using e.symm
        have hz3:w1x.heap.size≤w3x.heap.size:=hgrow.size
        have HLR:Hid (∀b,(Value.slice an m cn).ownBlock=some b→b<W6.heap.size∧w2.heap.size+1≤b):=fun b hb=>⟨HL6.out b hb,yx4 R_2.out hb⟩
        have Q_4:=ywk (Q_2.out.turns hgt (fun e=>by have:=hS8 _ e;omega))
        have X_4:=ywk (X_2.out.turns hgt (fun e=>by have:=hS8 _ e;omega))
        have Z_4:=ywk (Z_2.out.turns hgt (fun e=>by have:=hS8 _ e;omega))
        have R_4:=ywk (ypa R_2.out hgt (fun b hb e=>by have:=hS8 b e;have:=HLR.out b hb;omega))
        have BW_4:=ywk (BW_2.out.grown hgrow BW_2.out.size (fun k e=>by have:=hS8 k e;omega))
        clear Q_2 X_2 Z_2 R_2 BW_2 E_2
        have A_4:=ywk hown
        clear hown hgrow hnew hgt hS8
        have S_4:Hid (w3x.cell? ⟨w2.heap.size,0,none⟩=some (.int .i64 p.n)∧w3x.cell? ⟨w2.heap.size,1,none⟩=some (.slice a1 p.st.r.length c1)∧w3x.cell? ⟨w2.heap.size,2,none⟩=some (.int .i64 p.st.q)∧w3x.cell? ⟨w2.heap.size,3,none⟩=some (.int .i64 p.st.d)∧w3x.cell? ⟨w2.heap.size,4,none⟩=some (.slice an m cn)∧w3x.cell? ⟨w2.heap.size,5,none⟩=some (.slice a5 p.t.length c5)∧w3x.cell? ⟨w2.heap.size,6,none⟩=some (.slice a6 p.a.length c6)∧w3x.cell? ⟨w.heap.size,4,none⟩=some (.slice (some ⟨b,off,none⟩) p.p.length c4)):=⟨Q_4.out.cell rfl,Q_4.out.cell rfl,Q_4.out.cell rfl,Q_4.out.cell rfl,Q_4.out.cell rfl,Q_4.out.cell rfl,Q_4.out.cell rfl,X_4.out.cell rfl⟩
        refine hK.out _ _ S_4.out (fun hHeld=> ?_)
        clear hK K
        try simp only [Act.put,q1,q2,q3]
        refine wpAnyH_ready (rs:= [7]) (by kernel_rfl) (by simp) ?_
        refine AllReadyH.cons rfl (fun K hK=> ?_) AllReadyH.nil
        obtain⟨q0,q1,q2,q3,q4,q5,q6⟩:=c7_7 Z_4.out
        have qf:=Z_4.out.free
        obtain⟨X5,hX5⟩:∃X5,put7s w3x (w.heap.size+1+1) (.int .i64 p.n) (.slice a1 p.st.r.length c1) (.int .i64 p.st.q) (.int .i64 p.st.d) (.slice an m cn) (.slice a5 p.t.length c5) (.slice a6 p.a.length c6)=X5:=⟨_,rfl⟩
        have hP:=Z_4.out.put7s (.int .i64 p.n) (.slice a1 p.st.r.length c1) (.int .i64 p.st.q) (.int .i64 p.st.d) (.slice an m cn) (.slice a5 p.t.length c5) (.slice a6 p.a.length c6)
        have ht:=yz7 w3x (w.heap.size+1+1) (.int .i64 p.n) (.slice a1 p.st.r.length c1) (.int .i64 p.st.q) (.int .i64 p.st.d) (.slice an m cn) (.slice a5 p.t.length c5) (.slice a6 p.a.length c6)
        rw [hX5]at hP ht
        unfold put7s at hX5
        have HX5:Hid _:=hX5
        have HP5:=ywk hP
        have HT5:=ywk ht
        have QX:=ywk (Q_4.out.turns ht (by omega))
        have XX:=ywk (X_4.out.turns ht (by omega))
        clear hX5 hP ht
        go_simp
        clear qf q0 q1 q2 q3 q4 q5 q6
        rw [HX5.out]
        refine hK.out _ _ ⟨QX.out.cell rfl,QX.out.cell rfl,QX.out.cell rfl,QX.out.cell rfl,QX.out.cell rfl,QX.out.cell rfl,QX.out.cell rfl,XX.out.cell rfl⟩ (fun hHeld=> ?_)
        clear hK K
        try simp only [Act.put,q1,q2,q3]
        refine zdy 8 {dst:=some 5,op:=Op.assign (Operand.tmp 40),type:=95,pos:=_,after:=_,guard:=none} (.slice ae m2 ce) ?_
        try simp only [Act.put,q1,q2,q3]
        refine wpAnyH_done (by kernel_rfl) ?_ _
        clear hHeld
        go_wp2
        obtain⟨t0,t1,t2,t3,t4,t5,t6⟩:=c7_7 HP5.out
        refine bodyPost_ret (v:= .tuple #[.agg #[.int .i64 p.n,.slice a1 p.st.r.length c1,.int .i64 p.st.q,.int .i64 p.st.d,.slice an m cn,.slice a5 p.t.length c5,.slice a6 p.a.length c6],.slice ae m2 ce]) (by simp [results,Tryz.results110,go_sem,t0,t1,t2,t3,t4,t5,t6]) rfl ?_
        have hBX:Below w.heap.size w X5:=BW_4.out.trans (HT5.out.to_below (fun b e=>by omega) BW_4.out.size)
        refine⟨an,cn,.slice ae m2 ce,k,cs,?_,HC.out,HVS.out,?_,hBX⟩
        · rw [HM.out.1]
        · rw [HM.out.1]
          exact yw0 (ypa R_4.out HT5.out (fun b hb e=>by have:=yx4 R_4.out hb;omega)) (by omega)
    · have hd:decide (k<p.p.length)=false:=by simp;omega
      have hd2:¬((k:Int)<(p.p.length:Int)):=by omega
      go_wp2_with fail
      refine wrb ?_
      repeat(go_big_quiet_step (fail))
      refine wpQuiet_nil ?_
      rintro w2 ⟨⟨_,hb2⟩,rfl⟩
      clear hne x4 e0 e1 e2 e3 e4 e5 e6
      have HC:Hid (CutAt p.p e k):=⟨hk,HJ.out,fun c=>absurd c hlt⟩
      have HBw:=ywk (HB0.out.trans ((HB.out.trans (hb2.mono hsz)).mono (by omega)))
      have HB2:=ywk (HB.out.trans (hb2.mono hsz))
      clear hb2
      have hs2:W0.heap.size≤w2.heap.size:=HB2.out.size
      have HX2:=ywk (BX.out.below HB2.out)
      have HZ2:=ywk (BZ.out.below HB2.out)
      obtain⟨x0,x1,x2,x3,x4,x5,x6⟩:=c7_7 HX2.out
      have hk8:(k:Int)≤(p.p.length:Int):=by omega
      obtain⟨W4,hW4⟩:∃V,(w2.alloc (.cells #[.int .i64 p.n,.slice a1 p.st.r.length c1,.int .i64 p.st.q,.int .i64 p.st.d,.slice a4 p.p.length c4,.slice a5 p.t.length c5,.slice a6 p.a.length c6] 97)).alloc (.cells #[] 172)=V:=⟨_,rfl⟩
      have HX4:Hid (Bk W4 w.heap.size 97 #[.int .i64 p.n,.slice a1 p.st.r.length c1,.int .i64 p.st.q,.int .i64 p.st.d,.slice a4 p.p.length c4,.slice a5 p.t.length c5,.slice a6 p.a.length c6]):=hW4▸(HX2.out.alloc _).alloc _
      have HQ4:=hdq (bkA2 hW4)
      have HZ4:Hid (Bk W4 (w.heap.size+1+1) 97 #[.int .i64 0,.slice none 0 0,.int .i64 0,.int .i64 0,.slice none 0 0,.slice none 0 0,.slice none 0 0]):=hW4▸(HZ2.out.alloc _).alloc _
      have HE4:Hid (W4.ownsRow (w2.heap.size+1) 172 12 (.slice (some ⟨w2.heap.size+1,0,none⟩) 0 0) 0 []):=by(rw [←hW4];have:=yx8 (w2.alloc (.cells #[.int .i64 p.n,.slice a1 p.st.r.length c1,.int .i64 p.st.q,.int .i64 p.st.d,.slice a4 p.p.length c4,.slice a5 p.t.length c5,.slice a6 p.a.length c6] 97)) 172 12;rw [World.size_alloc]at this;exact this)
      have hb4':Below w2.heap.size w2 W4:=hW4▸((Below.refl _ w2).alloc (Nat.le_refl _) _).alloc (by simp) _
      have HB4:=ywk hb4'
      have x4':=HX4.out.cell (i:=4) rfl
      clear hb4'
      have hkd:(p.p.drop k).length≤1048577∧(p.p.take k).length≤1048577:=by
        rw [List.length_drop,List.length_take]
        omega
      obtain⟨V,hV⟩:∃V,sliced a4 k p.p.length c4 12=V:=⟨_,rfl⟩
      have hVD:IsD w V (yw3 (p.p.drop k)):=hV▸zdj O4.out hk
      have hsl:∀w:World,(Instr.sliceAt 95 (.slice a4 p.p.length c4) (some (.int .i64 (k:Int))) none none).run Tryz.prog w= .ok V w:=fun w=>hV▸zcb _ _ _ _ hk w
      obtain⟨U,hU⟩:∃U,sliced a4 0 k c4 12=U:=⟨_,rfl⟩
      have hUD:IsD w U (yw3 (p.p.take k)):=hU▸zdi O4.out hk
      have hsl2:∀w:World,(Instr.sliceAt 95 (.slice a4 p.p.length c4) none (some (.int .i64 (k:Int))) none).run Tryz.prog w= .ok U w:=fun w=>hU▸zeh _ _ _ _ (by omega) w
      obtain⟨cs,hsrc,hdat⟩:=IsD.cells hVD
      obtain⟨cs2,hsrc2,hdat2⟩:=IsD.cells hUD
      obtain⟨av,cv,rfl,_⟩:=IsD.len hVD
      obtain⟨au,cu,rfl,_⟩:=IsD.len hUD
      have HSR:=ywk hsrc
      have HDA:=ywk hdat
      have HSR2:=ywk hsrc2
      have HDA2:=ywk hdat2
      have H1:=ywk (ze4 hsrc.1 hdat)
      have H2:=ywk (ze4 hsrc2.1 hdat2)
      have HBw4:=trh HBw HB4.out
      have hsz4:w2.heap.size+1+1≤W4.heap.size:=by rw [←hW4];simp
      have hszw:=HBw.out.size
      obtain⟨m,hm⟩:∃m,(p.p.drop k).length=m:=⟨_,rfl⟩
      obtain⟨m2,hm2⟩:∃m,(p.p.take k).length=m:=⟨_,rfl⟩
      have HM:Hid ((p.p.drop k).length=m∧(p.p.take k).length=m2):=⟨hm,hm2⟩
      rw [hm]at hsl hkd HSR HDA
      rw [hm2]at hsl2 hkd HSR2 HDA2
      have HVS:Hid (SrcC w (sliced a4 k p.p.length c4 12) 12 (p.p.drop k).length cs):=(by rw [hV];exact hsrc:SrcC w (sliced a4 k p.p.length c4 12) 12 (p.p.drop k).length cs)
      clear hV hU hsrc hdat hsrc2 hdat2 hVD hUD hm hm2
      go_wp2_with (at_builtin;refine ywg _ rfl _ _ 95 rfl (w2.heap.size+1) 172 ip _ 12 144 Tryz.underlying95 hip hip0 hip1 hip2 rfl (by decide) (.slice (some ⟨w2.heap.size+1,0,none⟩) 0 0) 0 [] rfl HE4.out (.slice av m cv) m cs rfl (HSR.out.below HBw4.out) H1.out (by unfold maxLen;omega) (by omega) (by omega) ?_;intro vn w5 hown hgrow hnew;have h45:=yw9 hgrow;have HQ5:Hid (Bk w5 w2.heap.size 97 #[.int .i64 p.n,.slice a1 p.st.r.length c1,.int .i64 p.st.q,.int .i64 p.st.d,.slice a4 p.p.length c4,.slice a5 p.t.length c5,.slice a6 p.a.length c6]):=HQ4.out.turns h45 (by simp [Value.ownBlock]);have HX5:Hid (Bk w5 w.heap.size 97 #[.int .i64 p.n,.slice a1 p.st.r.length c1,.int .i64 p.st.q,.int .i64 p.st.d,.slice a4 p.p.length c4,.slice a5 p.t.length c5,.slice a6 p.a.length c6]):=HX4.out.turns h45 (by simp [Value.ownBlock];omega);have HZ5:Hid (Bk w5 (w.heap.size+1+1) 97 #[.int .i64 0,.slice none 0 0,.int .i64 0,.int .i64 0,.slice none 0 0,.slice none 0 0,.slice none 0 0]):=HZ4.out.turns h45 (by simp [Value.ownBlock];omega);have HBw5:Hid (Below w.heap.size w w5):=HBw4.out.grown hgrow (by omega) (fun b e=>by simp [Value.ownBlock]at e;omega);rw [Nat.zero_add,List.nil_append]at hown;obtain⟨an,cn,hvn⟩:=yfm hown;subst hvn;have HO5:=hdq hown;have hs5:W4.heap.size≤w5.heap.size:=hgrow.size;have z4:=HQ5.out.cell (i:=4) rfl;have zf:=HQ5.out.free;clear hown hgrow hnew h45)
      clear x4' zf z4 hW4 hsl x0 x1 x2 x3 x4 x5 x6
      obtain⟨W6,hW6⟩:∃V,w5.setCell ⟨w2.heap.size,4,none⟩ (.slice an m cn)=V:=⟨_,rfl⟩
      have ht6:=yag w5 w2.heap.size 4 (.slice an m cn)
      have hq6:=HQ5.out.put 4 (.slice an m cn)
      rw [hW6]at ht6 hq6⊢
      clear hW6
      have Q_0:=ywk hq6.drew
      have X_0:=ywk ((HX5.out.turns ht6 (by omega)).drew)
      have Z_0:=ywk ((HZ5.out.turns ht6 (by omega)).drew)
      have R_0:=ywk ((ypa HO5.out ht6 (fun b hb e=>by have:=yx4 HO5.out hb;omega)).drew)
      have HL6:Hid (∀b,(Value.slice an m cn).ownBlock=some b→b<W6.heap.size):=fun b hb=>owns_lt R_0.out hb
      have BW_0:=ywk ((HBw5.out.trans (ht6.to_below (fun b e=>by omega) HBw5.out.size)).drew)
      have hs6:w5.heap.size≤W6.heap.size:=ht6.size
      have hsd6:W6.drew.heap.size≤W6.heap.size∧W6.heap.size≤W6.drew.heap.size:=⟨Nat.le_refl _,Nat.le_refl _⟩
      clear ht6 hq6 HQ5 HX5 HZ5 HO5 HBw5
      have S_0:Hid (W6.drew.cell? ⟨w2.heap.size,0,none⟩=some (.int .i64 p.n)∧W6.drew.cell? ⟨w2.heap.size,1,none⟩=some (.slice a1 p.st.r.length c1)∧W6.drew.cell? ⟨w2.heap.size,2,none⟩=some (.int .i64 p.st.q)∧W6.drew.cell? ⟨w2.heap.size,3,none⟩=some (.int .i64 p.st.d)∧W6.drew.cell? ⟨w2.heap.size,4,none⟩=some (.slice an m cn)∧W6.drew.cell? ⟨w2.heap.size,5,none⟩=some (.slice a5 p.t.length c5)∧W6.drew.cell? ⟨w2.heap.size,6,none⟩=some (.slice a6 p.a.length c6)∧W6.drew.cell? ⟨w.heap.size,4,none⟩=some (.slice a4 p.p.length c4)):=⟨Q_0.out.cell rfl,Q_0.out.cell rfl,Q_0.out.cell rfl,Q_0.out.cell rfl,Q_0.out.cell rfl,Q_0.out.cell rfl,Q_0.out.cell rfl,X_0.out.cell rfl⟩
      refine wp_region_held_drew (S:=fun W=>W.cell? ⟨w2.heap.size,0,none⟩=some (.int .i64 p.n)∧W.cell? ⟨w2.heap.size,1,none⟩=some (.slice a1 p.st.r.length c1)∧W.cell? ⟨w2.heap.size,2,none⟩=some (.int .i64 p.st.q)∧W.cell? ⟨w2.heap.size,3,none⟩=some (.int .i64 p.st.d)∧W.cell? ⟨w2.heap.size,4,none⟩=some (.slice an m cn)∧W.cell? ⟨w2.heap.size,5,none⟩=some (.slice a5 p.t.length c5)∧W.cell? ⟨w2.heap.size,6,none⟩=some (.slice a6 p.a.length c6)∧W.cell? ⟨w.heap.size,4,none⟩=some (.slice a4 p.p.length c4)) (by kernel_rfl) S_0.out (fun hHeld=> ?_)
      refine zdy 0 {dst:=some 34,op:=Op.load 97 (Operand.tmp 7),type:=97,pos:=_,after:=_,guard:=none} (.agg #[.int .i64 p.n,.slice a1 p.st.r.length c1,.int .i64 p.st.q,.int .i64 p.st.d,.slice an m cn,.slice a5 p.t.length c5,.slice a6 p.a.length c6]) ?_
      try simp only [Act.put,q1,q2,q3]
      refine zdy 2 {dst:=some 36,op:=Op.fieldAddr 97 (Operand.tmp 2) 2,type:=0,pos:=_,after:=_,guard:=none} (.pointer (some ⟨w.heap.size,4,none⟩)) ?_
      try simp only [Act.put,q1,q2,q3]
      refine zdy 3 {dst:=some 37,op:=Op.load 95 (Operand.tmp 36),type:=95,pos:=_,after:=_,guard:=none} (.slice a4 p.p.length c4) ?_
      try simp only [Act.put,q1,q2,q3]
      refine zdy 4 {dst:=some 38,op:=Op.move (Operand.tmp 6),type:=3,pos:=_,after:=_,guard:=none} (.int .i64 (k:Int)) ?_
      try simp only [Act.put,q1,q2,q3]
      refine zdy 5 {dst:=some 39,op:=Op.slice 95 (Operand.tmp 37) none (some (Operand.tmp 38)) none,type:=95,pos:=_,after:=_,guard:=none} (.slice au m2 cu) ?_
      try simp only [Act.put,q1,q2,q3]
      refine wpAnyH_ready (rs:= [1]) (by kernel_rfl) (by simp) ?_
      refine AllReadyH.cons rfl (fun K hK=> ?_) AllReadyH.nil
      obtain⟨g8,hg8⟩:∃g,g=W6.heap.size:=⟨_,rfl⟩
      obtain⟨w1x,hw1⟩:∃V,(W6.alloc (.cells #[] 172)).drew=V:=⟨_,rfl⟩
      have HW1:=ywk hw1
      have HG8:Hid (g8=W6.heap.size):=hg8
      have Q_2:Hid (Bk w1x w2.heap.size 97 #[.int .i64 p.n,.slice a1 p.st.r.length c1,.int .i64 p.st.q,.int .i64 p.st.d,.slice an m cn,.slice a5 p.t.length c5,.slice a6 p.a.length c6]):=by(rw [←hw1];exact Q_0.out.alloc _)
      have X_2:Hid (Bk w1x w.heap.size 97 #[.int .i64 p.n,.slice a1 p.st.r.length c1,.int .i64 p.st.q,.int .i64 p.st.d,.slice a4 p.p.length c4,.slice a5 p.t.length c5,.slice a6 p.a.length c6]):=by(rw [←hw1];exact X_0.out.alloc _)
      have Z_2:Hid (Bk w1x (w.heap.size+1+1) 97 #[.int .i64 0,.slice none 0 0,.int .i64 0,.int .i64 0,.slice none 0 0,.slice none 0 0,.slice none 0 0]):=by(rw [←hw1];exact Z_0.out.alloc _)
      have R_2:Hid (w1x.ownsRow (w2.heap.size+1) 172 12 (.slice an m cn) m cs):=by(rw [←hw1];exact R_0.out.alloc _)
      have BW_2:Hid (Below w.heap.size w w1x):=by(rw [←hw1];exact BW_0.out.alloc BW_0.out.size _)
      clear Q_0 X_0 Z_0 R_0 BW_0
      have E_2:Hid (w1x.ownsRow W6.heap.size 172 12 (.slice (some ⟨g8,0,none⟩) 0 0) 0 []):=by(rw [←hw1,hg8];exact yx8 W6 172 12)
      have hz1:g8<w1x.heap.size:=by(rw [←hw1,hg8];exact(Bk.new W6 172 #[]).lt)
      have hzy1:W6.heap.size≤g8∧g8≤W6.heap.size:=by omega
      clear hw1 hg8
      go_simp
      rw [HW1.out,←HG8.out]
      have S_2:Hid (w1x.cell? ⟨w2.heap.size,0,none⟩=some (.int .i64 p.n)∧w1x.cell? ⟨w2.heap.size,1,none⟩=some (.slice a1 p.st.r.length c1)∧w1x.cell? ⟨w2.heap.size,2,none⟩=some (.int .i64 p.st.q)∧w1x.cell? ⟨w2.heap.size,3,none⟩=some (.int .i64 p.st.d)∧w1x.cell? ⟨w2.heap.size,4,none⟩=some (.slice an m cn)∧w1x.cell? ⟨w2.heap.size,5,none⟩=some (.slice a5 p.t.length c5)∧w1x.cell? ⟨w2.heap.size,6,none⟩=some (.slice a6 p.a.length c6)∧w1x.cell? ⟨w.heap.size,4,none⟩=some (.slice a4 p.p.length c4)):=⟨Q_2.out.cell rfl,Q_2.out.cell rfl,Q_2.out.cell rfl,Q_2.out.cell rfl,Q_2.out.cell rfl,Q_2.out.cell rfl,Q_2.out.cell rfl,X_2.out.cell rfl⟩
      refine hK.out _ _ S_2.out (fun hHeld=> ?_)
      clear hK K
      try simp only [Act.put,q1,q2,q3]
      refine wpAnyH_ready (rs:= [6]) (by kernel_rfl) (by simp) ?_
      refine AllReadyH.cons rfl (fun K hK=> ?_) AllReadyH.nil
      refine ywl (w:=w1x) rfl (.tmp 35) (.tmp 39) 95 rfl W6.heap.size 172 ip _ 12 144 Tryz.underlying95 hip hip0 hip1 hip2 rfl (by decide) (.slice (some ⟨g8,0,none⟩) 0 0) 0 [] rfl E_2.out (.slice au m2 cu) m2 cs2 rfl (HSR2.out.below BW_2.out) H2.out (by unfold maxLen;omega) (by omega) (by omega) ?_
      intro vn w3x hown hgrow hnew
      rw [Nat.zero_add,List.nil_append]at hown
      obtain⟨ae,ce,hve⟩:=yfm hown
      subst hve
      have hgt:=yw9 hgrow
      have hS8:∀k,(Value.slice (some ⟨g8,0,none⟩) 0 0).ownBlock=some k→k=g8:=fun k e=>by simpa [Value.ownBlock] using e.symm
      have hz3:w1x.heap.size≤w3x.heap.size:=hgrow.size
      have HLR:Hid (∀b,(Value.slice an m cn).ownBlock=some b→b<W6.heap.size∧w2.heap.size+1≤b):=fun b hb=>⟨HL6.out b hb,yx4 R_2.out hb⟩
      have Q_4:=ywk (Q_2.out.turns hgt (fun e=>by have:=hS8 _ e;omega))
      have X_4:=ywk (X_2.out.turns hgt (fun e=>by have:=hS8 _ e;omega))
      have Z_4:=ywk (Z_2.out.turns hgt (fun e=>by have:=hS8 _ e;omega))
      have R_4:=ywk (ypa R_2.out hgt (fun b hb e=>by have:=hS8 b e;have:=HLR.out b hb;omega))
      have BW_4:=ywk (BW_2.out.grown hgrow BW_2.out.size (fun k e=>by have:=hS8 k e;omega))
      clear Q_2 X_2 Z_2 R_2 BW_2 E_2
      have A_4:=ywk hown
      clear hown hgrow hnew hgt hS8
      have S_4:Hid (w3x.cell? ⟨w2.heap.size,0,none⟩=some (.int .i64 p.n)∧w3x.cell? ⟨w2.heap.size,1,none⟩=some (.slice a1 p.st.r.length c1)∧w3x.cell? ⟨w2.heap.size,2,none⟩=some (.int .i64 p.st.q)∧w3x.cell? ⟨w2.heap.size,3,none⟩=some (.int .i64 p.st.d)∧w3x.cell? ⟨w2.heap.size,4,none⟩=some (.slice an m cn)∧w3x.cell? ⟨w2.heap.size,5,none⟩=some (.slice a5 p.t.length c5)∧w3x.cell? ⟨w2.heap.size,6,none⟩=some (.slice a6 p.a.length c6)∧w3x.cell? ⟨w.heap.size,4,none⟩=some (.slice a4 p.p.length c4)):=⟨Q_4.out.cell rfl,Q_4.out.cell rfl,Q_4.out.cell rfl,Q_4.out.cell rfl,Q_4.out.cell rfl,Q_4.out.cell rfl,Q_4.out.cell rfl,X_4.out.cell rfl⟩
      refine hK.out _ _ S_4.out (fun hHeld=> ?_)
      clear hK K
      try simp only [Act.put,q1,q2,q3]
      refine wpAnyH_ready (rs:= [7]) (by kernel_rfl) (by simp) ?_
      refine AllReadyH.cons rfl (fun K hK=> ?_) AllReadyH.nil
      obtain⟨q0,q1,q2,q3,q4,q5,q6⟩:=c7_7 Z_4.out
      have qf:=Z_4.out.free
      obtain⟨X5,hX5⟩:∃X5,put7s w3x (w.heap.size+1+1) (.int .i64 p.n) (.slice a1 p.st.r.length c1) (.int .i64 p.st.q) (.int .i64 p.st.d) (.slice an m cn) (.slice a5 p.t.length c5) (.slice a6 p.a.length c6)=X5:=⟨_,rfl⟩
      have hP:=Z_4.out.put7s (.int .i64 p.n) (.slice a1 p.st.r.length c1) (.int .i64 p.st.q) (.int .i64 p.st.d) (.slice an m cn) (.slice a5 p.t.length c5) (.slice a6 p.a.length c6)
      have ht:=yz7 w3x (w.heap.size+1+1) (.int .i64 p.n) (.slice a1 p.st.r.length c1) (.int .i64 p.st.q) (.int .i64 p.st.d) (.slice an m cn) (.slice a5 p.t.length c5) (.slice a6 p.a.length c6)
      rw [hX5]at hP ht
      unfold put7s at hX5
      have HX5:Hid _:=hX5
      have HP5:=ywk hP
      have HT5:=ywk ht
      have QX:=ywk (Q_4.out.turns ht (by omega))
      have XX:=ywk (X_4.out.turns ht (by omega))
      clear hX5 hP ht
      go_simp
      clear qf q0 q1 q2 q3 q4 q5 q6
      rw [HX5.out]
      refine hK.out _ _ ⟨QX.out.cell rfl,QX.out.cell rfl,QX.out.cell rfl,QX.out.cell rfl,QX.out.cell rfl,QX.out.cell rfl,QX.out.cell rfl,XX.out.cell rfl⟩ (fun hHeld=> ?_)
      clear hK K
      try simp only [Act.put,q1,q2,q3]
      refine zdy 8 {dst:=some 5,op:=Op.assign (Operand.tmp 40),type:=95,pos:=_,after:=_,guard:=none} (.slice ae m2 ce) ?_
      try simp only [Act.put,q1,q2,q3]
      refine wpAnyH_done (by kernel_rfl) ?_ _
      clear hHeld
      go_wp2
      obtain⟨t0,t1,t2,t3,t4,t5,t6⟩:=c7_7 HP5.out
      refine bodyPost_ret (v:= .tuple #[.agg #[.int .i64 p.n,.slice a1 p.st.r.length c1,.int .i64 p.st.q,.int .i64 p.st.d,.slice an m cn,.slice a5 p.t.length c5,.slice a6 p.a.length c6],.slice ae m2 ce]) (by simp [results,Tryz.results110,go_sem,t0,t1,t2,t3,t4,t5,t6]) rfl ?_
      have hBX:Below w.heap.size w X5:=BW_4.out.trans (HT5.out.to_below (fun b e=>by omega) BW_4.out.size)
      refine⟨an,cn,.slice ae m2 ce,k,cs,?_,HC.out,HVS.out,?_,hBX⟩
      · rw [HM.out.1]
      · rw [HM.out.1]
        exact yw0 (ypa R_4.out HT5.out (fun b hb e=>by have:=yx4 R_4.out hb;omega)) (by omega)
theorem InD.parts {F:Nat→Prop} {w:World} {x:Value} {c n:Nat} {f:Nat→Dat} (h:InD F w x (.row c n f)):∃a cap,x= .slice a n cap∧n≤cap∧cap≤maxLen∧
    (n=0∨ ∃b off,a=some ⟨b,off,none⟩∧F b∧b<w.heap.size∧ ∀j,j<n*c→ ∃u,w.cell? ⟨b,off+j,none⟩=some u∧InD F w u (f j)):=by
  cases h with
  |nil a cap _ _ h=>exact⟨a,cap,rfl,Nat.zero_le _,h,.inl rfl⟩
  |row b off _ cap _ _ U h1 h2 hF hB hc hs=>exact⟨_,cap,rfl,h1,h2,.inr ⟨b,off,rfl,hF,hB,fun j hj=>⟨U j,hc j hj,hs j hj⟩⟩⟩
theorem inD_row {F:Nat→Prop} {w:World} {B:Nat} {T:TypeId} {c n:Nat} {v:Value} {cs:List Value} {f:Nat→Dat} (ho:w.ownsRow B T c v n cs) (hd:∀j,j<n*c→InD F w (nthV cs j) (f j)) (hF:∀k,v.ownBlock=some k→F k):InD F w v (.row c n f):=by
  obtain⟨hl,⟨rfl,rfl⟩|⟨g,cap,cur,rfl,hg,hc,h1,h2,h3,h4⟩⟩:=ho
  · exact .nil _ _ _ _ (Nat.zero_le _)
  · refine .row g 0 n cap c f (fun j=>nthV cs j) h1 h2 (hF g rfl) (Array.getElem?_eq_some_iff.1 hc).1 (fun j hj=> ?_) hd
    have hjc:j<cs.length:=by omega
    have h5:w.cell? ⟨g,0+j,none⟩=cs[j]? :=by
      rw [Nat.zero_add,←h4,List.getElem?_take_of_lt hj]
      simp [World.cell?,hc]
    rw [h5,List.getElem?_eq_getElem hjc]
    simp [nthV,hjc]
theorem past_in {F:Nat→Prop} {w:World} {a:Option Addr} {cap k:Nat} {l:List Ps} {cs:List Value} (h:InD F w (.slice a l.length cap) (yw3 l)) (hs:SrcC w (sliced a k l.length cap 12) 12 (l.drop k).length cs):∀j,j<(l.drop k).length*12→InD F w (nthV cs j) (ydq (l.drop k) j):=by
  intro j hj
  rw [List.length_drop]at hj
  have hkl:k<l.length:=by clear h hs;omega
  obtain⟨a',cap',he,h1,h2,h⟩:=InD.parts (c:=12) (n:=l.length) h
  obtain⟨rfl,rfl⟩:a=a'∧cap=cap':=by simpa using he
  have hn0:¬l.length=0:=by clear h hs;omega
  have hcap:¬cap=k:=by clear h hs;omega
  obtain⟨b,off,rfl,_,hb,hc⟩:=h.resolve_left hn0
  obtain⟨hl,a2,c2,he2,h3⟩:=hs
  unfold sliced at he2
  rw [if_neg hcap]at he2
  have ha2:a2=some ⟨b,off+k*12,none⟩:=by
    have h9:=(Value.slice.inj he2).1
    rw [←h9]
    simp [Addr.add_lit]
  obtain⟨b',off',e,_,hcs⟩:=h3.resolve_left (by rw [List.length_drop];exact Nat.sub_ne_zero_of_lt hkl)
  rw [ha2]at e
  obtain⟨rfl,rfl⟩:b=b'∧off+k*12=off':=by simpa using e
  obtain⟨u,hu,hd⟩:=hc (k*12+j) (by clear hc hcs h3;omega)
  have h5:=hcs j (by rw [List.length_drop];exact hj)
  rw [Nat.add_assoc,hu]at h5
  have h6:nthV cs j=u:=by
    unfold nthV
    rw [List.getD_eq_getElem?_getD,←h5]
    rfl
  have e2:ydq (l.drop k) j=ydq l (k*12+j):=by
    show(psAt (l.drop k) (j/12)).cell (j%12)=(psAt l ((k*12+j)/12)).cell ((k*12+j)%12)
    rw [zhi,show(k*12+j)/12=k+j/12 by omega,show(k*12+j)%12=j%12 by omega]
  rw [h6,e2]
  exact hd
theorem cut_in {F:Nat→Prop} {w w':World} {a:Option Addr} {cap k B:Nat} {l:List Ps} {cs:List Value} {v:Value} (h:InD F w (.slice a l.length cap) (yw3 l)) (hs:SrcC w (sliced a k l.length cap 12) 12 (l.drop k).length cs) (ho:w'.ownsRow B 172 12 v (l.drop k).length cs) (hb:Below w.heap.size w w'):InD (fun j=>F j∨(B≤j∧j<w'.heap.size)) w' v (yw3 (l.drop k)):=
  inD_row ho (fun j hj=>((past_in h hs j hj).under hb).mono fun _=> .inl) (fun k e=> .inr (World.ownsRow.lt ho k e))
set_option maxHeartbeats 4000000
set_option maxRecDepth 100000
open Go.RowKit
theorem zfr {p:Prop} (h:p):Hid p:=h
theorem zlg (t s q d k v g:Int) (b:Bool) (w:World):
    Calls Tryz.prog 113 #[.agg #[.int .i64 t,.int .i64 s,.int .i64 q,.int .i64 d,.int .i64 k,.int .i64 v,.int .i64 g,.bool b]] w fun e w'=>e= .returned (.agg #[.int .i64 t,.int .i64 s,.int .i64 q,.int .i64 d,.int .i64 k,.int .i64 v,.int .i64 g,.bool b])∧Below w.heap.size w w':=by
  obtain⟨W0,hW0⟩:∃V,((w.alloc (.cells #[.int .i64 t,.int .i64 s,.int .i64 q,.int .i64 d,.int .i64 k,.int .i64 v,.int .i64 g,.bool b] 163)).alloc (.cells #[.int .i64 0,.int .i64 0,.int .i64 0,.int .i64 0,.int .i64 0,.int .i64 0,.int .i64 0,.bool false] 152)).alloc (.cells #[.int .i64 0,.int .i64 0,.int .i64 0,.int .i64 0,.int .i64 0,.int .i64 0,.int .i64 0,.bool false] 152)=V:=⟨_,rfl⟩
  have hb0:Below w.heap.size w W0:=hW0▸(((Below.refl _ w).alloc (Nat.le_refl _) _).alloc (by simp) _).alloc (by simp;omega) _
  have HB0:=zfr hb0
  have B1:Hid (Bk W0 w.heap.size 163 #[.int .i64 t,.int .i64 s,.int .i64 q,.int .i64 d,.int .i64 k,.int .i64 v,.int .i64 g,.bool b]):=hW0▸((Bk.new w _ _).alloc _).alloc _
  have B2:Hid (Bk W0 (w.heap.size+1) 152 #[.int .i64 0,.int .i64 0,.int .i64 0,.int .i64 0,.int .i64 0,.int .i64 0,.int .i64 0,.bool false]):=hW0▸(Bk.newAt (by simp) _ _).alloc _
  have B3:Hid (Bk W0 (w.heap.size+1+1) 152 #[.int .i64 0,.int .i64 0,.int .i64 0,.int .i64 0,.int .i64 0,.int .i64 0,.int .i64 0,.bool false]):=hW0▸Bk.newAt (by simp) _ _
  clear hb0
  have x0:=B1.out.cell (i:=0) rfl
  have x1:=B1.out.cell (i:=1) rfl
  have x2:=B1.out.cell (i:=2) rfl
  have x3:=B1.out.cell (i:=3) rfl
  have x4:=B1.out.cell (i:=4) rfl
  have x5:=B1.out.cell (i:=5) rfl
  have x6:=B1.out.cell (i:=6) rfl
  go_enter Tryz.func113,Tryz.ntmps113
  go_wp2_with fail
  clear hW0 x0 x1 x2 x3 x4 x5 x6
  refine(zca _ _ _ _ _ _ _ _).mono ?_
  rintro r w1 ⟨rfl,hb⟩
  have x7:=(B1.out.below hb).cell (i:=7) rfl
  have Y2:=zfr (B2.out.below hb)
  have Y3:=zfr (B3.out.below hb)
  obtain⟨y0,y1,y2,y3,y4,y5,y6,y7⟩:=c8_8 Y2.out
  obtain⟨z0,z1,z2,z3,z4,z5,z6,z7⟩:=c8_8 Y3.out
  have yf:=Y2.out.free
  have zf:=Y3.out.free
  have HB1:=trh HB0 hb
  clear hb
  go_wp2
  refine bodyPost_ret (v:= .agg #[.int .i64 t,.int .i64 s,.int .i64 q,.int .i64 d,.int .i64 k,.int .i64 v,.int .i64 g,.bool b]) (by simp [results,Tryz.results113,go_sem,y0,y1,y2,y3,y4,y5,y6,y7]) rfl ⟨rfl,?_⟩
  exact((((((((((((((((HB1.out.setCell (p:=⟨w.heap.size+1+1,0,none⟩) (by show w.heap.size≤w.heap.size+1+1;omega) _).setCell (p:=⟨w.heap.size+1+1,1,none⟩) (by show w.heap.size≤w.heap.size+1+1;omega) _).setCell (p:=⟨w.heap.size+1+1,2,none⟩) (by show w.heap.size≤w.heap.size+1+1;omega) _).setCell (p:=⟨w.heap.size+1+1,3,none⟩) (by show w.heap.size≤w.heap.size+1+1;omega) _).setCell (p:=⟨w.heap.size+1+1,4,none⟩) (by show w.heap.size≤w.heap.size+1+1;omega) _).setCell (p:=⟨w.heap.size+1+1,5,none⟩) (by show w.heap.size≤w.heap.size+1+1;omega) _).setCell (p:=⟨w.heap.size+1+1,6,none⟩) (by show w.heap.size≤w.heap.size+1+1;omega) _).setCell (p:=⟨w.heap.size+1+1,7,none⟩) (by show w.heap.size≤w.heap.size+1+1;omega) _).setCell (p:=⟨w.heap.size+1,0,none⟩) (by show w.heap.size≤w.heap.size+1;omega) _).setCell (p:=⟨w.heap.size+1,1,none⟩) (by show w.heap.size≤w.heap.size+1;omega) _).setCell (p:=⟨w.heap.size+1,2,none⟩) (by show w.heap.size≤w.heap.size+1;omega) _).setCell (p:=⟨w.heap.size+1,3,none⟩) (by show w.heap.size≤w.heap.size+1;omega) _).setCell (p:=⟨w.heap.size+1,4,none⟩) (by show w.heap.size≤w.heap.size+1;omega) _).setCell (p:=⟨w.heap.size+1,5,none⟩) (by show w.heap.size≤w.heap.size+1;omega) _).setCell (p:=⟨w.heap.size+1,6,none⟩) (by show w.heap.size≤w.heap.size+1;omega) _).setCell (p:=⟨w.heap.size+1,7,none⟩) (by show w.heap.size≤w.heap.size+1;omega) _)
theorem infoMl:(Tryz.prog.info? 152).map (fun i=>(i.zero,i.size,i.bytes))=some (some (.agg #[.int .i64 0,.int .i64 0,.int .i64 0,.int .i64 0,.int .i64 0,.int .i64 0,.int .i64 0,.bool false]),8,64):=by kernel_rfl
theorem mails_at {l:List Ml} {k:Nat} (h:k<l.length):(yxk l).getD (k*8) (.int .i64 0)= .int .i64 (mlAt l k).e.t∧(yxk l).getD (k*8+1) (.int .i64 0)= .int .i64 (mlAt l k).e.s∧(yxk l).getD (k*8+2) (.int .i64 0)= .int .i64 (mlAt l k).e.q∧(yxk l).getD (k*8+3) (.int .i64 0)= .int .i64 (mlAt l k).e.d∧(yxk l).getD (k*8+4) (.int .i64 0)= .int .i64 (mlAt l k).e.k∧(yxk l).getD (k*8+5) (.int .i64 0)= .int .i64 (mlAt l k).e.v∧(yxk l).getD (k*8+6) (.int .i64 0)= .int .i64 (mlAt l k).e.g∧(yxk l).getD (k*8+7) (.int .i64 0)= .bool (mlAt l k).a:=
  ⟨yxj (yxt l k 0 h (by omega)),yxj (yxt l k 1 h (by omega)),yxj (yxt l k 2 h (by omega)),yxj (yxt l k 3 h (by omega)),yxj (yxt l k 4 h (by omega)),yxj (yxt l k 5 h (by omega)),yxj (yxt l k 6 h (by omega)),yxj (yxt l k 7 h (by omega))⟩
theorem toMl_any (x:Value) (l:List Ml) (w:World) (hl:l.length≤1048576) (h:IsMl w x l):
    Calls Tryz.prog 43 #[x] w fun e w'=>e= .returned (sl w.heap.size l.length)∧Below w.heap.size w w'∧OwnD w' (fun k=>w.heap.size≤k∧k<w'.heap.size) (sl w.heap.size l.length) (yww l):=by
  obtain⟨a,cap,rfl,h1,h2,h⟩:=h
  have hp:(0:Int)≤(l.length:Int):=by omega
  obtain⟨i0,hi,hz0,hz1,hz2⟩:=info_parts infoMl
  go_enter Tryz.func43,Tryz.ntmps43
  go_wp2_with (at_make;refine wpList_make_full _ rfl _ _ 38 rfl w.heap.size 152 i0 _ 8 Tryz.underlying38 hi hz0 hz1 .i64 .i64 l.length l.length l.length rfl rfl rfl rfl (by rw [hz2];omega) (by unfold maxLen;omega) (Nat.le_refl _) ?_;intro w1 hown hgrow)
  have hB1:Hid (Below w.heap.size w w1):=(Below.refl _ _).grown hgrow (Nat.le_refl _) (fun k e=>by cases e)
  obtain⟨zs,hR0⟩:=OwnD.made0 (fun j=> .val ((yxk l).getD j (.int .i64 0))) hown
  have hR1:=zfr hR0
  clear hown hgrow hi hz0 hz1 hz2 hR0
  go_loopw [4] (fun i wr=>∃k:Nat,k≤l.length∧i= .int .i64 k∧Below w.heap.size w wr∧OwnD wr (fun k=>w.heap.size≤k∧k<wr.heap.size) (sl w.heap.size l.length) (.row 8 l.length (toC (fun j=> .val ((yxk l).getD j (.int .i64 0))) zs (k*8)))) (fun i _=>l.length-(intOf i).toNat)
  case atStart=>exact⟨0,Nat.zero_le _,rfl,hB1.out,hR1.out⟩
  case round=>
    obtain⟨k,hk,rfl,hB,hR⟩:=hrel
    have HB:=zfr hB
    have HR:=zfr hR
    clear hR
    by_cases hlt:k<l.length
    · obtain⟨b,off,rfl,hb,hc⟩:=h.resolve_left (by intro e;subst e;simp at hlt)
      obtain⟨f0,f1,f2,f3,f4,f5,f6,f7⟩:=(hc k hlt).below hB hb
      have hg:w.heap.size<wr.heap.size:=(HR.out.lt (by omega)).1
      clear hB hB1 hR1 h hc
      go_wp2_with (go_at_call 113;refine(zlg _ _ _ _ _ _ _ _ _).mono ?_;rintro e w2 ⟨rfl,hb2⟩;have HB2:=hdq hb2;have HR2:Hid (OwnD w2 (fun k=>w.heap.size≤k∧k<wr.heap.size) (sl w.heap.size l.length) (.row 8 l.length (toC (fun j=> .val ((yxk l).getD j (.int .i64 0))) zs (k*8)))):=HR.out.under hb2;obtain⟨c0,_,g0,z0,_⟩:=HR2.out.step (j:=k*8) (by omega);obtain⟨c1,_,g1,z1,_⟩:=HR2.out.step (j:=k*8+1) (by omega);obtain⟨c2,_,g2,z2,_⟩:=HR2.out.step (j:=k*8+2) (by omega);obtain⟨c3,_,g3,z3,_⟩:=HR2.out.step (j:=k*8+3) (by omega);obtain⟨c4,_,g4,z4,_⟩:=HR2.out.step (j:=k*8+4) (by omega);obtain⟨c5,_,g5,z5,_⟩:=HR2.out.step (j:=k*8+5) (by omega);obtain⟨c6,_,g6,z6,_⟩:=HR2.out.step (j:=k*8+6) (by omega);obtain⟨c7,_,g7,z7,_⟩:=HR2.out.step (j:=k*8+7) (by omega);clear hb2)
      go_roundw
      case rel=>
        obtain⟨e0,e1,e2,e3,e4,e5,e6,e7⟩:=mails_at hlt
        refine⟨k+1,by omega,by go_num,(((((((((HB.out.trans (HB2.out.mono (by omega))).setCell (p:=⟨w.heap.size,_,none⟩) (Nat.le_refl _) _).setCell (p:=⟨w.heap.size,_,none⟩) (Nat.le_refl _) _).setCell (p:=⟨w.heap.size,_,none⟩) (Nat.le_refl _) _).setCell (p:=⟨w.heap.size,_,none⟩) (Nat.le_refl _) _).setCell (p:=⟨w.heap.size,_,none⟩) (Nat.le_refl _) _).setCell (p:=⟨w.heap.size,_,none⟩) (Nat.le_refl _) _).setCell (p:=⟨w.heap.size,_,none⟩) (Nat.le_refl _) _).setCell (p:=⟨w.heap.size,_,none⟩) (Nat.le_refl _) _),?_⟩
        rw [show(k+1)*8=k*8+1+1+1+1+1+1+1+1 from by omega]
        exact(((((((((HR2.out.fill_val (m:=k*8) (by omega) (by rw [e0])).fill_val (m:=k*8+1) (by omega) (by rw [e1])).fill_val (m:=k*8+2) (by omega) (by rw [e2])).fill_val (m:=k*8+3) (by omega) (by rw [e3])).fill_val (m:=k*8+4) (by omega) (by rw [e4])).fill_val (m:=k*8+5) (by omega) (by rw [e5])).fill_val (m:=k*8+6) (by omega) (by rw [e6])).fill_val (m:=k*8+7) (by omega) (by rw [e7]))).mono (fun b hb=>⟨hb.1,by have:=HB2.out.size;simp;omega⟩)
      case measure=>simp [intOf];omega
    · clear hB hB1 hR1 h
      go_wp2
      go_ret
      obtain rfl:k=l.length:=by omega
      exact⟨rfl,HB.out,HR.out.toAll rfl⟩
theorem to_mails (x:Value) (l:List Ml) (w:World) (hl:l.length≤1048576) (h:IsD w x (yww l)):
    Calls Tryz.prog 43 #[x] w fun e w'=>∃y,e= .returned y∧Below w.heap.size w w'∧OwnD w' (fun k=>w.heap.size≤k∧k<w'.heap.size) y (yww l):=by
  refine(toMl_any x l w hl h.isMl).mono ?_
  rintro e w' ⟨rfl,hb,hr⟩
  exact⟨_,rfl,hb,hr⟩
theorem yzi {p:Prop} (h:p):Hid p:=h
theorem putN_7 (w:World) (g m:Nat) (v0 v1 v2 v3 v4 v5 v6:Value):putN w g m (fun i=> [v0,v1,v2,v3,v4,v5,v6].getD i (.int .i64 0)) 7=(((((((w.setCell ⟨g,m,none⟩ (v0)).setCell ⟨g,m+1,none⟩ (v1)).setCell ⟨g,m+2,none⟩ (v2)).setCell ⟨g,m+3,none⟩ (v3)).setCell ⟨g,m+4,none⟩ (v4)).setCell ⟨g,m+5,none⟩ (v5)).setCell ⟨g,m+6,none⟩ (v6)):=rfl
theorem zfh (w:World) (g m:Nat) (v0 v1 v2 v3 v4 v5 v6:Value):Turns (fun k=>k=g) w (((((((w.setCell ⟨g,m,none⟩ (v0)).setCell ⟨g,m+1,none⟩ (v1)).setCell ⟨g,m+2,none⟩ (v2)).setCell ⟨g,m+3,none⟩ (v3)).setCell ⟨g,m+4,none⟩ (v4)).setCell ⟨g,m+5,none⟩ (v5)).setCell ⟨g,m+6,none⟩ (v6)):=putN_7 w g m v0 v1 v2 v3 v4 v5 v6▸zbx w g m _ 7
theorem infoPart:(Tryz.prog.info? 97).map (fun i=>(i.zero,i.size,i.bytes))=some (some (.agg #[.int .i64 0,.slice none 0 0,.int .i64 0,.int .i64 0,.slice none 0 0,.slice none 0 0,.slice none 0 0]),7,120):=by kernel_rfl
set_option maxHeartbeats 8000000 in
theorem to_parts (x:Value) (l:List Pa) (w:World) (hl:(ywi l).wt≤1048576) (h:IsD w x (ywi l)):
    Calls Tryz.prog 42 #[x] w fun e w'=>∃y,e= .returned y∧Below w.heap.size w w'∧OwnD w' (fun k=>w.heap.size≤k∧k<w'.heap.size) y (ywi l):=by
  obtain⟨a,cap,rfl,h1,h2,h⟩:=IsD.parts (c:=7) (n:=l.length) h
  have HS:=yzi hl
  have hl2:l.length≤1048576:=by rw [yyb]at hl;omega
  have hp:(0:Int)≤(l.length:Int):=by omega
  clear hl
  obtain⟨i0,hi,hz0,hz1,hz2⟩:=info_parts infoPart
  go_enter Tryz.func42,Tryz.ntmps42
  go_wp2_with (at_make;refine wpList_make_full _ rfl _ _ 37 rfl w.heap.size 97 i0 _ 7 Tryz.underlying37 hi hz0 hz1 .i64 .i64 l.length l.length l.length rfl rfl rfl rfl (by rw [hz2];omega) (by unfold maxLen;omega) (Nat.le_refl _) ?_;intro w1 hown hgrow)
  have hB1:Hid (Below w.heap.size w w1):=(Below.refl _ _).grown hgrow (Nat.le_refl _) (fun k e=>by cases e)
  obtain⟨zs,hR0⟩:=OwnD.made0 (yfa l) hown
  have hR1:=yzi hR0
  clear hown hgrow hi hz0 hz1 hz2 hR0
  go_loopw [4] (fun i wr=>∃k:Nat,k≤l.length∧i= .int .i64 k∧Below w.heap.size w wr∧OwnD wr (fun k=>w.heap.size≤k∧k<wr.heap.size) (sl w.heap.size l.length) (.row 7 l.length (toC (yfa l) zs (k*7)))) (fun i _=>l.length-(intOf i).toNat)
  case atStart=>exact⟨0,Nat.zero_le _,rfl,hB1.out,hR1.out⟩
  case round=>
    obtain⟨k,hk,rfl,hB,hR⟩:=hrel
    have HB:=yzi hB
    have HR:=yzi hR
    clear hR
    by_cases hlt:k<l.length
    · obtain⟨b,off,rfl,hb,hc⟩:=h.resolve_left (by omega)
      obtain⟨u1,u4,u5,u6,f0,f1,f2,f3,f4,f5,f6,d1,d4,d5,d6⟩:=yzg (fun j hj=>by
        obtain⟨u,hu,hd⟩:=hc j hj
        exact⟨u,(hB.cell (p:=⟨b,off+j,none⟩) hb).trans hu,hd.under hB⟩) hlt
      have HD:Hid (IsPart wr (.agg #[.int .i64 (paAt l k).n,u1,.int .i64 (paAt l k).st.q,.int .i64 (paAt l k).st.d,u4,u5,u6]) (paAt l k)):=⟨u1,u4,u5,u6,rfl,d1,d4,d5,d6⟩
      have hg:w.heap.size<wr.heap.size:=(HR.out.lt (by omega)).1
      clear hB hB1 hR1 h hc d1 d4 d5 d6
      go_wp2_with fail
      clear f0 f1 f2 f3 f4 f5 f6
      refine(zle _ (paAt l k) _ (Nat.le_trans (Pa.wt_le hlt) HS.out) HD.out).mono ?_
      rintro e w2 ⟨y,rfl,hb2,A1,A4,A5,A6,v1,v4,v5,v6,rfl,o1,o4,o5,o6,d1,d4,d5,d6⟩
      have HB2:=yzi hb2
      have HR2:=yzi (HR.out.under hb2)
      obtain⟨a1,c1,rfl,_⟩:=OwnD.parts (c:=1) (n:=(paAt l k).st.r.length) o1
      have O1:=yzi o1
      obtain⟨a4,c4,rfl,_⟩:=OwnD.parts (c:=12) (n:=(paAt l k).p.length) o4
      have O4:=yzi o4
      obtain⟨a5,c5,rfl,_⟩:=OwnD.parts (c:=7) (n:=(paAt l k).t.length) o5
      have O5:=yzi o5
      obtain⟨a6,c6,rfl,_⟩:=OwnD.parts (c:=1) (n:=(paAt l k).a.length) o6
      have O6:=yzi o6
      obtain⟨x0,_,g0,z0,_⟩:=HR2.out.step (j:=k*7) (by omega)
      obtain⟨x1,_,g1,z1,_⟩:=HR2.out.step (j:=k*7+1) (by omega)
      obtain⟨x2,_,g2,z2,_⟩:=HR2.out.step (j:=k*7+2) (by omega)
      obtain⟨x3,_,g3,z3,_⟩:=HR2.out.step (j:=k*7+3) (by omega)
      obtain⟨x4,_,g4,z4,_⟩:=HR2.out.step (j:=k*7+4) (by omega)
      obtain⟨x5,_,g5,z5,_⟩:=HR2.out.step (j:=k*7+5) (by omega)
      obtain⟨x6,_,g6,z6,_⟩:=HR2.out.step (j:=k*7+6) (by omega)
      have D1:=yzi d1
      have D4:=yzi d4
      have D5:=yzi d5
      have D6:=yzi d6
      clear hb2 o1 d1 o4 d4 o5 d5 o6 d6
      go_wp2
      go_roundw
      case rel=>
        have hG:∀i b,(fun i=>if i=1 then A1 else if i=4 then A4 else if i=5 then A5 else if i=6 then A6 else fun _=>False) i b→wr.heap.size≤b∧b<w2.heap.size:=by
          intro i b hb
          by_cases e:i=1∨i=4∨i=5∨i=6
          · rcases e with rfl|rfl|rfl|rfl
            · exact(D1.out b hb).1
            · exact(D4.out b hb).1
            · exact(D5.out b hb).1
            · exact(D6.out b hb)
          · simp only [not_or]at e
            simp [e]at hb
        have hGG:∀i j,i≠j→ ∀b,(fun i=>if i=1 then A1 else if i=4 then A4 else if i=5 then A5 else if i=6 then A6 else fun _=>False) i b→ ¬(fun i=>if i=1 then A1 else if i=4 then A4 else if i=5 then A5 else if i=6 then A6 else fun _=>False) j b:=by
          intro i j hij b hb hb'
          by_cases e:i=1∨i=4∨i=5∨i=6
          · by_cases e':j=1∨j=4∨j=5∨j=6
            · rcases e with rfl|rfl|rfl|rfl<;>rcases e' with rfl|rfl|rfl|rfl
              · exact hij rfl
              · exact(D1.out b hb).2.1 hb'
              · exact(D1.out b hb).2.2.1 hb'
              · exact(D1.out b hb).2.2.2 hb'
              · exact(D1.out b hb').2.1 hb
              · exact hij rfl
              · exact(D4.out b hb).2.1 hb'
              · exact(D4.out b hb).2.2 hb'
              · exact(D1.out b hb').2.2.1 hb
              · exact(D4.out b hb').2.1 hb
              · exact hij rfl
              · exact(D5.out b hb).2 hb'
              · exact(D1.out b hb').2.2.2 hb
              · exact(D4.out b hb').2.2 hb
              · exact(D5.out b hb').2 hb
              · exact hij rfl
            · simp only [not_or]at e'
              simp [e']at hb'
          · simp only [not_or]at e
            simp [e]at hb
        have q:=OwnD.fillN (G:=(fun i=>if i=1 then A1 else if i=4 then A4 else if i=5 then A5 else if i=6 then A6 else fun _=>False)) (U:=(fun i=> [.int .i64 (paAt l k).n,.slice a1 (paAt l k).st.r.length c1,.int .i64 (paAt l k).st.q,.int .i64 (paAt l k).st.d,.slice a4 (paAt l k).p.length c4,.slice a5 (paAt l k).t.length c5,.slice a6 (paAt l k).a.length c6].getD i (.int .i64 0))) HR2.out ⟨Nat.le_refl _,hg⟩ 7 (by omega) (fun i hi=>by
          have hat:yfa l (k*7+i)=(paAt l k).cell i:=yxn l k (r:=i) hi
          match i,hi,hat with
          |0,_,hat=>rw [hat];exact OwnD.val _ _
          |1,_,hat=>rw [hat];exact O1.out
          |2,_,hat=>rw [hat];exact OwnD.val _ _
          |3,_,hat=>rw [hat];exact OwnD.val _ _
          |4,_,hat=>rw [hat];exact O4.out
          |5,_,hat=>rw [hat];exact O5.out
          |6,_,hat=>rw [hat];exact O6.out
          |_+7,h,_=>exact absurd h (by omega)) (fun i _ b hb hb'=>by have:=hG i b hb;omega) (fun i j _ _ hij b hb hb'=>hGG i j hij b hb hb')
        rw [putN_7]at q
        have hT:=zfh w2 w.heap.size (k*7) (.int .i64 (paAt l k).n) (.slice a1 (paAt l k).st.r.length c1) (.int .i64 (paAt l k).st.q) (.int .i64 (paAt l k).st.d) (.slice a4 (paAt l k).p.length c4) (.slice a5 (paAt l k).t.length c5) (.slice a6 (paAt l k).a.length c6)
        have hsz:=hT.size
        refine⟨k+1,by omega,by go_num,(HB.out.trans (HB2.out.mono (by omega))).trans (hT.to_below (fun b e=>by omega) (by have:=HB2.out.size;omega)),?_⟩
        rw [show(k+1)*7=k*7+7 from by omega]
        refine q.mono (fun b hb=> ?_)
        have hs2:=HB2.out.size
        rcases hb with hb|⟨i,_,hb⟩
        · exact⟨hb.1,Nat.lt_of_lt_of_le hb.2 (Nat.le_trans hs2 hsz)⟩
        · have:=hG i b hb
          exact⟨by omega,Nat.lt_of_lt_of_le this.2 hsz⟩
      case measure=>simp [intOf];omega
    · clear hB hB1 hR1 h
      go_wp2
      go_ret
      obtain rfl:k=l.length:=by omega
      exact⟨_,rfl,HB.out,HR.out.toAll rfl⟩
end Go.Proofs.YtghndljgadpijaaGreat

