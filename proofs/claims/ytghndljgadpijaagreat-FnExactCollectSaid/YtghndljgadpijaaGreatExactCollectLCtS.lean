/- The specification's l5committed. -/
import Derived.Test.YtghndljgadpijaaGreatExactCollectG01
import Derived.Test.YtghndljgadpijaaGreatExactCollectG33
import Derived.Test.YtghndljgadpijaaGreatExactCollectG23
namespace Go.Proofs.YtghndljgadpijaaGreat
set_option maxHeartbeats 64000000
set_option maxRecDepth 100000
open Go.RowKit
theorem yzz {P:Program} {md:Region.Mode} {ops:Array Oper} {Q:Exit→Act→World→Prop} {S:World→Prop} {z fuel:Nat} {listed:Array Bool} {a:Act} {w:World} (i:Nat) (oi:Oper) (v:Value)
  (h:yx7 P md ops Q S z fuel (listed.setIfInBounds i true) (a.put oi.dst v) w) (hi:ops[i]? =some oi:=by rfl)
  (hs:Region.noSelect ops=true:=by kernel_rfl) (hf:Region.free md ops listed i=true:=by kernel_rfl) (hr:(Region.ready md ops listed).contains i=true:=by kernel_rfl)
  (hc:yzl md ops i z [i]=true:=by kernel_rfl) (hu: [i].all (fun p=> !listed.getD p true)=true:=by kernel_rfl)
  (hQ:∀c a w,Q (.panic c) (a.put oi.dst v) w→Q (.panic c) a w:=by exact fun _ _ _ h=>h)
  (hy:YieldsIf P ops S oi v a:=by exact Or.inl ⟨by rfl,by(intro wX hSw;(try dsimp only at hSw);go_simp;(try exact IntWalk.i64_in _ (by omega)))⟩) (hS:S w:=by assumption):yx7 P md ops Q S z (fuel+1) listed a w:=
  ywe i [] hi hs hf hr hc hu hQ hy hS h
theorem yw7 {p:Prop} (h:p):Hid p:=h
def yzu (n:Nat):Array Bool:=(Array.range 14).map fun i=>n.testBit i
theorem zfd {P:Program} {ops:Array Oper} {Q:Exit→Act→World→Prop} {md:Region.Mode} {S:World→Prop} {z fuel:Nat} {listed:Array Bool} {a:Act} {w:World} (h:∀G:Nat→Array Bool→Act→World→Prop,G=yx7 P md ops Q S z→G fuel listed a w):yx7 P md ops Q S z fuel listed a w:=h _ rfl
theorem yw2 {P:Program} {ops:Array Oper} {Q:Exit→Act→World→Prop} {md:Region.Mode} {S:World→Prop} {z fuel:Nat} {l l':Array Bool} {a:Act} {w:World} (h:l=l') (H:yx7 P md ops Q S z fuel l' a w):yx7 P md ops Q S z fuel l a w:=h▸H
theorem zcg (W:World) (xs:Array Value) (T:TypeId):∃X V,Hid (X=W.heap.size)∧Hid (W.alloc (.cells xs T)=V)∧Below W.heap.size W V∧Bk V X T xs:=⟨_,_,rfl,rfl,(Below.refl _ W).alloc (Nat.le_refl _) _,Bk.new W _ _⟩
theorem zhf {w:World} {g N c:Nat} {T:TypeId} (h:Bk w g T #[]) (hN:N≤g):w.ownsRow N T c (.slice (some ⟨g,0,none⟩) 0 0) 0 []:=⟨by simp,.inr ⟨g,0,#[],rfl,hN,h,Nat.le_refl _,Nat.zero_le _,by simp,by simp⟩⟩
theorem zgx {w:World} {g b:Nat} {T U:TypeId} {xs ys:Array Value} (h:Bk w g T xs) (k:Bk w b U ys) (hT:T≠U):¬g=b:=fun e=>by
  subst e
  have h2:some (Obj.cells xs T (0,0))=some (Obj.cells ys U (0,0)):=h.symm.trans k
  cases h2
  exact hT rfl
def putH (w:World) (P:Nat) (v0 v1 v2 v3:Value):World:=(((w.setCell ⟨P,0,none⟩ v0).setCell ⟨P,1,none⟩ v1).setCell ⟨P,2,none⟩ v2).setCell ⟨P,3,none⟩ v3
theorem za6 (w:World) (P:Nat) (v0 v1 v2 v3:Value):Turns (fun b=>b=P) w (putH w P v0 v1 v2 v3):=
  (((yag w P 0 v0).trans (yag _ P 1 v1)).trans (yag _ P 2 v2)).trans (yag _ P 3 v3)
theorem Bk.putH {w:World} {P:Nat} {T:TypeId} {a0 a1 a2 a3:Value} (h:Bk w P T #[a0,a1,a2,a3]) (v0 v1 v2 v3:Value):Bk (putH w P v0 v1 v2 v3) P T #[v0,v1,v2,v3]:=
  (((h.put 0 v0).put 1 v1).put 2 v2).put 3 v3
def FinC (W0:World) (k:Kn) (wf:World) (Hb:Nat):Prop:=∃ay cy ae2 ce2,wf.ownsRow W0.heap.size 90 7 (.slice ay k.s.length cy) k.s.length (yvz k.s)∧wf.ownsRow W0.heap.size 166 3 (.slice ae2 k.x.length ce2) k.x.length (ywm k.x)∧Bk wf Hb 86 #[.slice ay k.s.length cy,.slice ae2 k.x.length ce2,.int .i64 k.q,.bool k.f]∧Below W0.heap.size W0 wf∧W0.heap.size≤Hb
def actC (k:Kn) (ai:Option Addr) (ci:Nat) (ah:Option Addr) (ch:Nat) (ae:Option Addr) (ce:Nat) (ad:Option Addr) (cd:Nat) (ap:Option Addr) (cp:Nat) (ab:Option Addr) (cb:Nat) (au:Option Addr) (cu:Nat) (ax:Option Addr) (cx:Nat) (P Rb:Nat) (v3 v16 v17 v20 v21:Value):Act:=⟨#[.agg #[.int .i64 k.m.n,.int .i64 k.m.s,.slice ai k.m.i.length ci,.slice ah k.m.h.length ch,.slice ae k.m.e.length ce,.int .i64 k.m.z,.slice ad k.d.length cd,.slice ap k.p.length cp,.slice ab k.b.length cb,.int .i64 k.t,.int .i64 k.q,.bool k.f,.slice au k.s.length cu,.slice ax k.x.length cx],.pointer (some ⟨P,0,none⟩),.pointer (some ⟨Rb,0,none⟩),v3,undef,undef,undef,undef,undef,undef,.pointer (some ⟨P,10,none⟩),.int .i64 k.q,.pointer (some ⟨P,11,none⟩),.bool k.f,.pointer (some ⟨P,12,none⟩),.slice au k.s.length cu,v16,v17,.pointer (some ⟨P,13,none⟩),.slice ax k.x.length cx,v20,v21,undef,undef,undef,undef,undef,undef,undef,undef,undef,undef,undef,undef,undef,undef,undef,undef,undef,undef,undef,undef,undef,undef,undef,undef,undef,undef,undef,undef,undef,undef,undef,undef,undef,undef,undef,undef,undef,undef,undef,undef,undef,undef,undef,undef,undef,undef,undef,undef,undef,undef,undef,undef,undef,undef,undef,undef,undef,undef,undef,undef,undef,undef,undef,undef,undef,undef,undef,undef,undef,undef,undef,undef,undef,undef,undef,undef,undef,undef,undef,undef,undef,undef,undef,undef,undef,undef,undef,undef,undef,undef,undef,undef,undef,undef,undef,undef,undef,undef,undef,undef,undef,undef,undef,undef,undef,undef,undef],[]⟩
def putQ (w:World) (P:Nat) (v0 v1 v2 v3 v4 v5 v6 v7 v8 v9 v10 v11:Value):World:=((((((((((((w.setCell ⟨P,0,none⟩ v0).setCell ⟨P,1,none⟩ v1).setCell ⟨P,2,none⟩ v2).setCell ⟨P,3,none⟩ v3).setCell ⟨P,4,none⟩ v4).setCell ⟨P,5,none⟩ v5).setCell ⟨P,6,none⟩ v6).setCell ⟨P,7,none⟩ v7).setCell ⟨P,8,none⟩ v8).setCell ⟨P,9,none⟩ v9).setCell ⟨P,10,none⟩ v10).setCell ⟨P,11,none⟩ v11)
theorem zlp (w:World) (P:Nat) (v0 v1 v2 v3 v4 v5 v6 v7 v8 v9 v10 v11:Value):Turns (fun b=>b=P) w (putQ w P v0 v1 v2 v3 v4 v5 v6 v7 v8 v9 v10 v11):=(((((((((((yag w P 0 v0).trans (yag _ P 1 v1)).trans (yag _ P 2 v2)).trans (yag _ P 3 v3)).trans (yag _ P 4 v4)).trans (yag _ P 5 v5)).trans (yag _ P 6 v6)).trans (yag _ P 7 v7)).trans (yag _ P 8 v8)).trans (yag _ P 9 v9)).trans (yag _ P 10 v10)).trans (yag _ P 11 v11)
theorem Bk.putQ {w:World} {P:Nat} {T:TypeId} {a0 a1 a2 a3 a4 a5 a6 a7 a8 a9 a10 a11:Value} (h:Bk w P T #[a0,a1,a2,a3,a4,a5,a6,a7,a8,a9,a10,a11]) (v0 v1 v2 v3 v4 v5 v6 v7 v8 v9 v10 v11:Value):Bk (putQ w P v0 v1 v2 v3 v4 v5 v6 v7 v8 v9 v10 v11) P T #[v0,v1,v2,v3,v4,v5,v6,v7,v8,v9,v10,v11]:=by
  have h0:Bk (w.setCell ⟨P,0,none⟩ v0) P T #[v0,a1,a2,a3,a4,a5,a6,a7,a8,a9,a10,a11]:=h.put 0 v0
  have h1:Bk ((w.setCell ⟨P,0,none⟩ v0).setCell ⟨P,1,none⟩ v1) P T #[v0,v1,a2,a3,a4,a5,a6,a7,a8,a9,a10,a11]:=h0.put 1 v1
  have h2:Bk (((w.setCell ⟨P,0,none⟩ v0).setCell ⟨P,1,none⟩ v1).setCell ⟨P,2,none⟩ v2) P T #[v0,v1,v2,a3,a4,a5,a6,a7,a8,a9,a10,a11]:=h1.put 2 v2
  have h3:Bk ((((w.setCell ⟨P,0,none⟩ v0).setCell ⟨P,1,none⟩ v1).setCell ⟨P,2,none⟩ v2).setCell ⟨P,3,none⟩ v3) P T #[v0,v1,v2,v3,a4,a5,a6,a7,a8,a9,a10,a11]:=h2.put 3 v3
  have h4:Bk (((((w.setCell ⟨P,0,none⟩ v0).setCell ⟨P,1,none⟩ v1).setCell ⟨P,2,none⟩ v2).setCell ⟨P,3,none⟩ v3).setCell ⟨P,4,none⟩ v4) P T #[v0,v1,v2,v3,v4,a5,a6,a7,a8,a9,a10,a11]:=h3.put 4 v4
  have h5:Bk ((((((w.setCell ⟨P,0,none⟩ v0).setCell ⟨P,1,none⟩ v1).setCell ⟨P,2,none⟩ v2).setCell ⟨P,3,none⟩ v3).setCell ⟨P,4,none⟩ v4).setCell ⟨P,5,none⟩ v5) P T #[v0,v1,v2,v3,v4,v5,a6,a7,a8,a9,a10,a11]:=h4.put 5 v5
  have h6:Bk (((((((w.setCell ⟨P,0,none⟩ v0).setCell ⟨P,1,none⟩ v1).setCell ⟨P,2,none⟩ v2).setCell ⟨P,3,none⟩ v3).setCell ⟨P,4,none⟩ v4).setCell ⟨P,5,none⟩ v5).setCell ⟨P,6,none⟩ v6) P T #[v0,v1,v2,v3,v4,v5,v6,a7,a8,a9,a10,a11]:=h5.put 6 v6
  have h7:Bk ((((((((w.setCell ⟨P,0,none⟩ v0).setCell ⟨P,1,none⟩ v1).setCell ⟨P,2,none⟩ v2).setCell ⟨P,3,none⟩ v3).setCell ⟨P,4,none⟩ v4).setCell ⟨P,5,none⟩ v5).setCell ⟨P,6,none⟩ v6).setCell ⟨P,7,none⟩ v7) P T #[v0,v1,v2,v3,v4,v5,v6,v7,a8,a9,a10,a11]:=h6.put 7 v7
  have h8:Bk (((((((((w.setCell ⟨P,0,none⟩ v0).setCell ⟨P,1,none⟩ v1).setCell ⟨P,2,none⟩ v2).setCell ⟨P,3,none⟩ v3).setCell ⟨P,4,none⟩ v4).setCell ⟨P,5,none⟩ v5).setCell ⟨P,6,none⟩ v6).setCell ⟨P,7,none⟩ v7).setCell ⟨P,8,none⟩ v8) P T #[v0,v1,v2,v3,v4,v5,v6,v7,v8,a9,a10,a11]:=h7.put 8 v8
  have h9:Bk ((((((((((w.setCell ⟨P,0,none⟩ v0).setCell ⟨P,1,none⟩ v1).setCell ⟨P,2,none⟩ v2).setCell ⟨P,3,none⟩ v3).setCell ⟨P,4,none⟩ v4).setCell ⟨P,5,none⟩ v5).setCell ⟨P,6,none⟩ v6).setCell ⟨P,7,none⟩ v7).setCell ⟨P,8,none⟩ v8).setCell ⟨P,9,none⟩ v9) P T #[v0,v1,v2,v3,v4,v5,v6,v7,v8,v9,a10,a11]:=h8.put 9 v9
  have h10:Bk (((((((((((w.setCell ⟨P,0,none⟩ v0).setCell ⟨P,1,none⟩ v1).setCell ⟨P,2,none⟩ v2).setCell ⟨P,3,none⟩ v3).setCell ⟨P,4,none⟩ v4).setCell ⟨P,5,none⟩ v5).setCell ⟨P,6,none⟩ v6).setCell ⟨P,7,none⟩ v7).setCell ⟨P,8,none⟩ v8).setCell ⟨P,9,none⟩ v9).setCell ⟨P,10,none⟩ v10) P T #[v0,v1,v2,v3,v4,v5,v6,v7,v8,v9,v10,a11]:=h9.put 10 v10
  have h11:Bk ((((((((((((w.setCell ⟨P,0,none⟩ v0).setCell ⟨P,1,none⟩ v1).setCell ⟨P,2,none⟩ v2).setCell ⟨P,3,none⟩ v3).setCell ⟨P,4,none⟩ v4).setCell ⟨P,5,none⟩ v5).setCell ⟨P,6,none⟩ v6).setCell ⟨P,7,none⟩ v7).setCell ⟨P,8,none⟩ v8).setCell ⟨P,9,none⟩ v9).setCell ⟨P,10,none⟩ v10).setCell ⟨P,11,none⟩ v11) P T #[v0,v1,v2,v3,v4,v5,v6,v7,v8,v9,v10,v11]:=h10.put 11 v11
  exact h11
def nxA (n:Nat) (nx:Nat→Nat):Array Value:=((List.range n).map (fun i=>Value.int .i64 (nx i:Nat))).toArray
theorem zfl {n j:Nat} (nx:Nat→Nat) (h:j<n):(nxA n nx)[j]? =some (.int .i64 (nx j:Nat)):=by simp [nxA,h]
def cellN:Option Value→Nat
  |some (.int _ z)=>z.toNat
  |_=>0
def nxM (w:World) (Nb n:Nat):Nat:=sumL (fun i=>cellN (w.cell? ⟨Nb,i,none⟩)) n
theorem mk_ints:∀(n:Nat),n≤4→ ∀w:World,∃wm,(Instr.makeSlice 22 (.int .i64 (n:Int)) (.int .i64 (n:Int))).run Tryz.prog w= .ok (.slice (some ⟨w.heap.size,0,none⟩) n n) wm∧Bk wm w.heap.size 3 (nxA n (fun _=>0))∧Below w.heap.size w wm
  |0,_,w=>⟨w.alloc (.cells #[] 3),by kernel_rfl,Bk.new w _ _,(Below.refl _ w).alloc (Nat.le_refl _) _⟩
  |1,_,w=>⟨w.alloc (.cells #[.int .i64 0] 3),by kernel_rfl,Bk.new w _ _,(Below.refl _ w).alloc (Nat.le_refl _) _⟩
  |2,_,w=>⟨w.alloc (.cells #[.int .i64 0,.int .i64 0] 3),by kernel_rfl,Bk.new w _ _,(Below.refl _ w).alloc (Nat.le_refl _) _⟩
  |3,_,w=>⟨w.alloc (.cells #[.int .i64 0,.int .i64 0,.int .i64 0] 3),by kernel_rfl,Bk.new w _ _,(Below.refl _ w).alloc (Nat.le_refl _) _⟩
  |4,_,w=>⟨w.alloc (.cells #[.int .i64 0,.int .i64 0,.int .i64 0,.int .i64 0] 3),by kernel_rfl,Bk.new w _ _,(Below.refl _ w).alloc (Nat.le_refl _) _⟩
  |n+5,h,_=>by omega
def zgz (e:Ev):Ev:=⟨e.t,e.s,e.q,e.d,e.k,e.v,0⟩
def yz8 (l:List Ps):List Ev:=l.map (fun p=>zgz p.e)
def yze (k:Kn) (l:List Ps):List Em:=k.x++l.flatMap (·.x)
structure CtI (W0:World) (k:Kn) (wr:World) (Nb Eb Hb:Nat) (ge:Ev) (nx:Nat→Nat) (pre:List Ps):Prop where
  nxs:Bk wr Nb 3 (nxA k.p.length nx)
  ev:Bk wr Eb 90 #[.int .i64 ge.t,.int .i64 ge.s,.int .i64 ge.q,.int .i64 ge.d,.int .i64 ge.k,.int .i64 ge.v,.int .i64 ge.g]
  rows:∃ay cy ax cx,Bk wr Hb 86 #[.slice ay (k.s++yz8 pre).length cy,.slice ax (yze k pre).length cx,.int .i64 k.q,.bool k.f]∧wr.ownsRow W0.heap.size 90 7 (.slice ay (k.s++yz8 pre).length cy) (k.s++yz8 pre).length (yvz (k.s++yz8 pre))∧wr.ownsRow W0.heap.size 166 3 (.slice ax (yze k pre).length cx) (yze k pre).length (ywm (yze k pre))∧ ¬(Value.slice ay (k.s++yz8 pre).length cy).ownBlock=some Eb
  bel:Below W0.heap.size W0 wr
theorem zpk (k:Kn):k.s++yz8 []=k.s:=by simp [yz8]
theorem told0 (k:Kn):yze k []=k.x:=by simp [yze]
theorem zod {k:Kn} (h:k.ok=true):k.p.length≤4:=by
  have h1:=(partsKB_iff.1 (kern_iff.1 h).2.2.2.2.2.1).1
  have h2:=(kern_iff.1 h).2.1
  simp only [Md.ok,Bool.and_eq_true,decide_eq_true_eq]at h2
  have h3:=h2.1.1.1
  unfold Md.hd at h3
  omega
theorem zk7 {w:World} {g:Nat} {e:Ev} (h:Bk w g 90 #[.int .i64 e.t,.int .i64 e.s,.int .i64 e.q,.int .i64 e.d,.int .i64 e.k,.int .i64 e.v,.int .i64 e.g]):SrcC w (.slice (some ⟨g,0,none⟩) 1 1) 7 1 e.cs:=
  ⟨rfl,_,_,rfl,.inr ⟨g,0,rfl,h.lt,fun j hj=>by
    have h':w.heap[g]? =some (.cells #[.int .i64 e.t,.int .i64 e.s,.int .i64 e.q,.int .i64 e.d,.int .i64 e.k,.int .i64 e.v,.int .i64 e.g] 90):=h
    rw [Nat.zero_add]
    simp [World.cell?,h',Ev.cs]⟩⟩
theorem zdh {w:World} {B C c d n m:Nat} {T U:TypeId} {u v:Value} {us vs:List Value} (h:w.ownsRow B T c u n us) (k:w.ownsRow C U d v m vs) (hT:U≠T) {j:Nat} (e:u.ownBlock=some j) (e':v.ownBlock=some j):False:=by
  obtain⟨_,⟨rfl,_⟩|⟨g,cap,cur,rfl,_,hc,_⟩⟩:=h
  · cases e
  · obtain⟨_,⟨rfl,_⟩|⟨g',cap',cur',rfl,_,hc',_⟩⟩:=k
    · cases e'
    · cases e
      cases e'
      have h2:=hc.symm.trans hc'
      cases h2
      exact hT rfl
theorem ziz {k:Kn} (h:k.ok=true) {pre t:List Ps} (e:comL k=pre++t):pre.length≤800:=by
  have h1:=(ze6 h).1.length_eq
  have h2:=zg3 k (fun i hi=>(zeo (zby h i hi)).1) _ (Nat.le_refl _)
  have h3:=zod h
  rw [e,List.length_append]at h1
  omega
theorem zjn {k:Kn} (h:k.ok=true) {p:Ps} (hp:p∈comL k):p.x.length≤8:=by
  have h1:=(ze6 h).1.subset hp
  have hc:=zkg k
  obtain⟨i,j,hi,_,hj,rfl⟩:=zg4 (fun i hi=>(hc i hi).le) h1
  have hl:j<(paAt k.p i).p.length:=Nat.lt_of_lt_of_le hj (hc i hi).le
  have hS:=(zd1 _).2 (Pa.ok_iff.1 (zby h i hi))
  have h2:=(hS.2.1 j hl).2.2.2.2.2.1
  unfold emsB at h2
  simp only [Bool.and_eq_true,decide_eq_true_eq]at h2
  exact h2.1
theorem zko:∀(l:List Ps),(∀p∈l,p.x.length≤8)→(l.flatMap (·.x)).length≤8*l.length
  | [],_=>by simp
  |p::l,h=>by
    have h1:=zko l (fun q hq=>h q (List.mem_cons_of_mem _ hq))
    have h2:=h p List.mem_cons_self
    rw [List.flatMap_cons,List.length_append,List.length_cons]
    omega
theorem zk0 {k:Kn} (h:k.ok=true) {pre t:List Ps} (e:comL k=pre++t):(yze k pre).length≤k.x.length+6400:=by
  have h1:=ziz h e
  have h2:=zko pre (fun p hp=>zjn h (by rw [e];exact List.mem_append_left _ hp))
  unfold yze
  rw [List.length_append]
  omega
theorem zcq (k:Kn) (l:List Ps) (q:Ps):yze k (l++ [q])=yze k l++q.x:=by simp [yze,List.append_assoc]
theorem zbs (k:Kn) (l:List Ps) (q:Ps):k.s++yz8 (l++ [q])=(k.s++yz8 l)++ [zgz q.e]:=by simp [yz8,List.append_assoc]
theorem zk5 {f g:Nat→Nat}:∀{n:Nat},(∀i,i<n→f i≤g i)→sumL f n≤sumL g n
  |0,_=>Nat.le_refl _
  |n+1,h=>by
    have h1:=zk5 (fun i hi=>h i (Nat.lt_succ_of_lt hi))
    have h2:=h n (Nat.lt_succ_self n)
    show sumL f n+f n≤sumL g n+g n
    omega
theorem zed {f g:Nat→Nat}:∀{n:Nat},(∀i,i<n→f i=g i)→sumL f n=sumL g n
  |0,_=>rfl
  |n+1,h=>by
    have h1:=zed (fun i hi=>h i (Nat.lt_succ_of_lt hi))
    have h2:=h n (Nat.lt_succ_self n)
    show sumL f n+f n=sumL g n+g n
    omega
theorem zip {nx:Nat→Nat} {b:Nat}:∀{n:Nat},b<n→sumL (upN nx b) n=sumL nx n+1
  |n+1,h=>by
    show sumL (upN nx b) n+upN nx b n=sumL nx n+nx n+1
    by_cases e:b=n
    · subst e
      have h1:sumL (upN nx b) b=sumL nx b:=zed (fun i hi=>by unfold upN;rw [if_neg (by omega)])
      have h2:upN nx b b=nx b+1:=by unfold upN;rw [if_pos rfl]
      omega
    · have h1:=zip (nx:=nx) (b:=b) (n:=n) (by omega)
      have h2:upN nx b n=nx n:=by unfold upN;rw [if_neg (by omega)]
      omega
theorem nxM_bk {w:World} {Nb n:Nat} {nx:Nat→Nat} (h:Bk w Nb 3 (nxA n nx)):nxM w Nb n=sumL nx n:=by
  unfold nxM
  refine zed (fun i hi=> ?_)
  rw [h.cell (zfl nx hi)]
  simp [cellN]
theorem nxA_up {nx:Nat→Nat} {b n:Nat} (h:b<n):(nxA n nx).setIfInBounds b (.int .i64 ((nx b:Nat)+1:Int))=nxA n (upN nx b):=by
  unfold nxA
  rw [List.setIfInBounds_toArray]
  congr 1
  apply List.ext_getElem?
  intro i
  rw [List.getElem?_set]
  simp only [List.getElem?_map,List.length_map,List.length_range]
  by_cases hi:i<n
  · rw [List.getElem?_range hi]
    by_cases e:b=i
    · subst e
      rw [if_pos rfl,if_pos h]
      simp [upN]
    · rw [if_neg e]
      have:upN nx b i=nx i:=by unfold upN;rw [if_neg (fun h=>e h.symm)]
      simp [this]
  · have h1:(List.range n)[i]? =none:=by simp;omega
    rw [h1]
    by_cases e:b=i
    · omega
    · rw [if_neg e];rfl
theorem bare_any (e:Ev) (w:World):
    Calls Tryz.prog 180 #[.agg #[.int .i64 e.t,.int .i64 e.s,.int .i64 e.q,.int .i64 e.d,.int .i64 e.k,.int .i64 e.v,.int .i64 e.g]] w fun r w'=>r= .returned (.agg #[.int .i64 e.t,.int .i64 e.s,.int .i64 e.q,.int .i64 e.d,.int .i64 e.k,.int .i64 e.v,.int .i64 0])∧Below w.heap.size w w':=by
  obtain⟨t,s,q,d,k,v,g⟩:=e
  go_enter Tryz.func180,Tryz.ntmps180
  go_wp2
  have hB:Below w.heap.size w ((w.alloc (.cells #[.int .i64 t,.int .i64 s,.int .i64 q,.int .i64 d,.int .i64 k,.int .i64 v,.int .i64 0] 90)).alloc (.cells #[.int .i64 t,.int .i64 s,.int .i64 q,.int .i64 d,.int .i64 k,.int .i64 v,.int .i64 0] 90)):=((Below.refl _ w).alloc (Nat.le_refl _) _).alloc (by simp) _
  refine bodyPost_ret (v:= .agg #[.int .i64 t,.int .i64 s,.int .i64 q,.int .i64 d,.int .i64 k,.int .i64 v,.int .i64 0]) (by simp [results,Tryz.results180,go_sem]) rfl ⟨rfl,hB⟩
theorem sCommit1 (x:Value) (k:Kn) (w:World) (hs:ywy k) (hok:k.ok=true) (h:IsKern w x k):
    Calls Tryz.prog 108 #[x] w fun e w'=>∃ay cy ax cx,e= .returned (.agg #[.slice ay (k.s++yz8 (comL k)).length cy,.slice ax (yze k (comL k)).length cx,.int .i64 k.q,.bool k.f])∧w'.ownsRow w.heap.size 90 7 (.slice ay (k.s++yz8 (comL k)).length cy) (k.s++yz8 (comL k)).length (yvz (k.s++yz8 (comL k)))∧w'.ownsRow w.heap.size 166 3 (.slice ax (yze k (comL k)).length cx) (yze k (comL k)).length (ywm (yze k (comL k)))∧Below w.heap.size w w':=by
  have HOK:Hid (k.ok=true):=hok
  have HSK:Hid (ywy k):=hs
  obtain⟨HSM0,hsk⟩:=hs
  obtain⟨hdl,hpl,hbl,hsl,hxl⟩:=yyp hsk
  have HSL:Hid (k.s.length≤1048577):=by show _≤_;omega
  have HXL:Hid (k.x.length≤1048577):=by show _≤_;omega
  clear hsk HSM0 hok
  obtain⟨ai,ci,ah,ch,ae,ce,ad,cd,ap,cp,ab,cb,au,cu,ax,cx,rfl,hm,hd,hp,hbg,hsu,hx⟩:=h.form
  have HPP:=yw7 hp
  have HSS:=yw7 hsu.isD.srcEv
  have HXS:=yw7 hx.isD.srcX
  have HK:=yw7 h
  clear hm hd hp hbg hsu hx h
  obtain⟨Rb,hRb⟩:∃Rb,Rb=w.heap.size+1:=⟨_,rfl⟩
  obtain⟨W0,hW0⟩:=al2IsKern HK.out 41 (.cells #[.slice none 0 0,.slice none 0 0,.int .i64 0,.bool false] 86)
  have HB0:Hid (Below w.heap.size w W0):=hW0▸((Below.refl _ w).alloc (Nat.le_refl _) _).alloc (by simp) _
  have HP0:Hid (Bk W0 w.heap.size 41 #[.int .i64 k.m.n,.int .i64 k.m.s,.slice ai k.m.i.length ci,.slice ah k.m.h.length ch,.slice ae k.m.e.length ce,.int .i64 k.m.z,.slice ad k.d.length cd,.slice ap k.p.length cp,.slice ab k.b.length cb,.int .i64 k.t,.int .i64 k.q,.bool k.f,.slice au k.s.length cu,.slice ax k.x.length cx]):=hW0▸(Bk.new w _ _).alloc _
  have HR0:Hid (Bk W0 Rb 86 #[.slice none 0 0,.slice none 0 0,.int .i64 0,.bool false]):=by rw [←hW0,hRb];exact Bk.newAt (by simp) _ _
  have HW0:=yw7 hW0
  have HRB:=yw7 hRb
  have hRw:w.heap.size<Rb:=by omega
  have hRW:Rb<W0.heap.size:=HR0.out.lt
  clear hW0 hRb
  go_enter Tryz.func108,Tryz.ntmps108
  go_upto_region 1 with fail
  rw [HW0.out,←HRB.out]
  clear HW0
  go_cut [3]from 4 (fun s3 wc=>∃Hb,s3= .pointer (some ⟨Hb,0,none⟩)∧FinC W0 k wc Hb)
  case first=>
    refine yx1 13 (fun W=>W.cell? ⟨w.heap.size,10,none⟩=some (.int .i64 k.q)∧W.cell? ⟨w.heap.size,11,none⟩=some (.bool k.f)∧W.cell? ⟨w.heap.size,12,none⟩=some (.slice au k.s.length cu)∧W.cell? ⟨w.heap.size,13,none⟩=some (.slice ax k.x.length cx)) (by kernel_rfl) ⟨HP0.out.drew.cell (i:=10) rfl,HP0.out.drew.cell (i:=11) rfl,HP0.out.drew.cell (i:=12) rfl,HP0.out.drew.cell (i:=13) rfl⟩ (fun hHeld=> ?_)
    have hBd:Below W0.heap.size W0 W0.drew:=(Below.refl _ W0).drew
    refine yzz 0 {dst:=some 10,op:=Op.fieldAddr 41 (Operand.tmp 1) 5,type:=0,pos:=_,after:=_,guard:=none} (.pointer (some ⟨w.heap.size,10,none⟩)) ?_
    try simp only [Act.put,q1,q2,q3]
    refine yzz 1 {dst:=some 11,op:=Op.load 3 (Operand.tmp 10),type:=3,pos:=_,after:=_,guard:=none} (.int .i64 k.q) ?_
    try simp only [Act.put,q1,q2,q3]
    refine yzz 2 {dst:=some 12,op:=Op.fieldAddr 41 (Operand.tmp 1) 6,type:=0,pos:=_,after:=_,guard:=none} (.pointer (some ⟨w.heap.size,11,none⟩)) ?_
    try simp only [Act.put,q1,q2,q3]
    refine yzz 3 {dst:=some 13,op:=Op.load 4 (Operand.tmp 12),type:=4,pos:=_,after:=_,guard:=none} (.bool k.f) ?_
    try simp only [Act.put,q1,q2,q3]
    refine yzz 4 {dst:=some 14,op:=Op.fieldAddr 41 (Operand.tmp 1) 7,type:=0,pos:=_,after:=_,guard:=none} (.pointer (some ⟨w.heap.size,12,none⟩)) ?_
    try simp only [Act.put,q1,q2,q3]
    refine yzz 5 {dst:=some 15,op:=Op.load 34 (Operand.tmp 14),type:=34,pos:=_,after:=_,guard:=none} (.slice au k.s.length cu) ?_
    try simp only [Act.put,q1,q2,q3]
    refine yzz 8 {dst:=some 18,op:=Op.fieldAddr 41 (Operand.tmp 1) 8,type:=0,pos:=_,after:=_,guard:=none} (.pointer (some ⟨w.heap.size,13,none⟩)) ?_
    try simp only [Act.put,q1,q2,q3]
    refine yzz 9 {dst:=some 19,op:=Op.load 39 (Operand.tmp 18),type:=39,pos:=_,after:=_,guard:=none} (.slice ax k.x.length cx) ?_
    try simp only [Act.put,q1,q2,q3]
    refine yw2 (l':=(yzu 831)) (by kernel_rfl) ?_
    refine zfd (fun G hG=> ?_)
    have HGE:Hid (G=_):=hG
    clear hG hHeld
    have st1111:Hid (∀(W:World) (ay:Option Addr) (cy:Nat) (g7:Nat) (ae2:Option Addr) (ce2:Nat) (Hb:Nat),Below W0.heap.size W0 W→W.ownsRow W0.heap.size 90 7 (.slice ay k.s.length cy) k.s.length (yvz k.s)→W.ownsRow W0.heap.size 166 3 (.slice ae2 k.x.length ce2) k.x.length (ywm k.x)→Bk W Hb 86 #[.slice none 0 0,.slice none 0 0,.int .i64 0,.bool false]→W0.heap.size≤Hb→G 1 (yzu 8191) (actC k ai ci ah ch ae ce ad cd ap cp ab cb au cu ax cx w.heap.size Rb (.pointer (some ⟨Hb,0,none⟩)) (.slice ay k.s.length cy) (.slice (some ⟨g7,0,none⟩) 0 0) (.slice ae2 k.x.length ce2) (.agg #[.slice ay k.s.length cy,.slice ae2 k.x.length ce2,.int .i64 k.q,.bool k.f])) W):=by
      intro W ay cy g7 ae2 ce2 Hb hB hC hX hH hHb
      rw [HGE.out]
      unfold actC
      refine yfb (rs:= [13]) (by kernel_rfl) (by simp) ?_
      refine AllReadyZ.last rfl (fun K hK=> ?_)
      obtain⟨k0,k1,k2,k3⟩:=c4_4 hH
      have kf:=hH.free
      obtain⟨wf,hwf⟩:∃X,putH W Hb (.slice ay k.s.length cy) (.slice ae2 k.x.length ce2) (.int .i64 k.q) (.bool k.f)=X:=⟨_,rfl⟩
      have ht:Turns (fun j=>j=Hb) W wf:=hwf▸za6 _ _ _ _ _ _
      have HFN:Hid (FinC W0 k wf Hb):=⟨ay,cy,ae2,ce2,owN hC ht hH,owN hX ht hH,hwf▸hH.putH _ _ _ _,hB.trans (ht.to_below (fun j hj=>by omega) hB.size),hHb⟩
      unfold putH at hwf
      have HWF:Hid _:=hwf
      clear hwf ht hC hX hH hB
      go_simp
      rw [HWF.out]
      clear HWF k0 k1 k2 k3 kf
      refine hK.out _ _ ?_
      clear hK K
      try simp only [Act.put,q1,q2,q3]
      refine yx2 (by kernel_rfl) ?_ _
      try go_wp2_with fail
      go_meet
      case rel=>exact⟨Hb,rfl,HFN.out⟩
    have st1110:Hid (∀(W:World) (ay:Option Addr) (cy:Nat) (g7:Nat) (ae2:Option Addr) (ce2:Nat),Below W0.heap.size W0 W→W.ownsRow W0.heap.size 90 7 (.slice ay k.s.length cy) k.s.length (yvz k.s)→W.ownsRow W0.heap.size 166 3 (.slice ae2 k.x.length ce2) k.x.length (ywm k.x)→G 2 (yzu 4095) (actC k ai ci ah ch ae ce ad cd ap cp ab cb au cu ax cx w.heap.size Rb undef (.slice ay k.s.length cy) (.slice (some ⟨g7,0,none⟩) 0 0) (.slice ae2 k.x.length ce2) (.agg #[.slice ay k.s.length cy,.slice ae2 k.x.length ce2,.int .i64 k.q,.bool k.f])) W):=by
      intro W ay cy g7 ae2 ce2 hB hC hX
      rw [HGE.out]
      unfold actC
      refine yfb (rs:= [12]) (by kernel_rfl) (by simp) ?_
      refine AllReadyZ.cons (i:=12) rfl (fun K hKK=> ?_) AllReadyZ.nil
      · obtain⟨Hb,V,HX,HV,hb,hk⟩:=zcg W #[.slice none 0 0,.slice none 0 0,.int .i64 0,.bool false] 86
        go_simp
        rw [HV.out,←HX.out]
        have hB':Below W0.heap.size W0 V:=trm hB hb
        refine hKK.out _ _ ⟨(HP0.out.below hB').cell (i:=10) rfl,(HP0.out.below hB').cell (i:=11) rfl,(HP0.out.below hB').cell (i:=12) rfl,(HP0.out.below hB').cell (i:=13) rfl⟩ (fun hHeld=> ?_)
        try simp only [Act.put,q1]
        try simp only [q3]
        try simp only [q2]
        refine yw2 (l':=(yzu 8191)) (by kernel_rfl) ?_
        rw [←HGE.out]
        exact st1111.out V ay cy g7 ae2 ce2 Hb hB' (owB hC hb) (owB hX hb) hk (HX.out▸hB.size)
    have st1101:Hid (∀(W:World) (ay:Option Addr) (cy:Nat) (g7:Nat) (Hb:Nat),Below W0.heap.size W0 W→W.ownsRow W0.heap.size 90 7 (.slice ay k.s.length cy) k.s.length (yvz k.s)→Bk W g7 166 #[]→W0.heap.size≤g7→Bk W Hb 86 #[.slice none 0 0,.slice none 0 0,.int .i64 0,.bool false]→W0.heap.size≤Hb→G 3 (yzu 5119) (actC k ai ci ah ch ae ce ad cd ap cp ab cb au cu ax cx w.heap.size Rb (.pointer (some ⟨Hb,0,none⟩)) (.slice ay k.s.length cy) (.slice (some ⟨g7,0,none⟩) 0 0) undef undef) W):=by
      intro W ay cy g7 Hb hB hC hG hg7 hH hHb
      rw [HGE.out]
      unfold actC
      refine yfb (rs:= [10]) (by kernel_rfl) (by simp) ?_
      refine AllReadyZ.cons (i:=10) rfl (fun K hKK=> ?_) AllReadyZ.nil
      · obtain⟨ip,hip,hip0,hip1,hip2⟩:=info_parts zfp
        refine ywl (w:=W) rfl (.tmp 17) (.tmp 19) 39 rfl W0.heap.size 166 ip _ 3 24 Tryz.underlying39 hip hip0 hip1 hip2 rfl (by decide) (.slice (some ⟨g7,0,none⟩) 0 0) 0 [] rfl (zhf hG hg7) (.slice ax k.x.length cx) k.x.length (ywm k.x) rfl ((HXS.out.below HB0.out).below hB) (yyz k.x) (by unfold maxLen;have h9:=HXL.out;omega) (by have h9:=HXL.out;omega) hB.size ?_
        intro v' V hown hgrow hnew
        rw [Nat.zero_add,List.nil_append]at hown
        obtain⟨ae2,ce2,rfl⟩:=yfm hown
        have hgt:=yw9 hgrow
        have hb:Below W0.heap.size W0 V:=hB.grown hgrow hB.size (fun q e=>by cases e;exact hg7)
        refine hKK.out _ _ ⟨(HP0.out.below hb).cell (i:=10) rfl,(HP0.out.below hb).cell (i:=11) rfl,(HP0.out.below hb).cell (i:=12) rfl,(HP0.out.below hb).cell (i:=13) rfl⟩ (fun hHeld=> ?_)
        try simp only [Act.put,q1]
        try simp only [q3]
        try simp only [q2]
        refine yzz 11 {dst:=some 21,op:=Op.build 86 #[(2,Operand.tmp 11),(3,Operand.tmp 13),(0,Operand.tmp 16),(1,Operand.tmp 20)],type:=86,pos:=_,after:=_,guard:=none} ((.agg #[.slice ay k.s.length cy,.slice ae2 k.x.length ce2,.int .i64 k.q,.bool k.f])) ?_
        try simp only [Act.put]
        refine yw2 (l':=(yzu 8191)) (by kernel_rfl) ?_
        rw [←HGE.out]
        exact st1111.out V ay cy g7 ae2 ce2 Hb hb (ypa hC hgt (fun j hj e=>ywp hC hG (by decide) (by cases e;exact hj))) hown (hH.turns hgt (fun e=>zgx hG hH (by decide) (Option.some.inj (show some g7=some Hb from e)))) hHb
    have st0101:Hid (∀(W:World) (g7:Nat) (Hb:Nat),Below W0.heap.size W0 W→Bk W g7 166 #[]→W0.heap.size≤g7→Bk W Hb 86 #[.slice none 0 0,.slice none 0 0,.int .i64 0,.bool false]→W0.heap.size≤Hb→G 4 (yzu 5055) (actC k ai ci ah ch ae ce ad cd ap cp ab cb au cu ax cx w.heap.size Rb (.pointer (some ⟨Hb,0,none⟩)) undef (.slice (some ⟨g7,0,none⟩) 0 0) undef undef) W):=by
      intro W g7 Hb hB hG hg7 hH hHb
      rw [HGE.out]
      unfold actC
      refine yfb (rs:= [6]) (by kernel_rfl) (by simp) ?_
      refine AllReadyZ.cons (i:=6) rfl (fun K hKK=> ?_) AllReadyZ.nil
      · go_simp
        refine(yyc _ k.s W HSL.out ((HSS.out.below HB0.out).below hB)).mono ?_
        rintro e V ⟨y0,rfl,ho,hb⟩
        obtain⟨ay,cy,rfl⟩:=yfm ho
        have hC':V.ownsRow W0.heap.size 90 7 (.slice ay k.s.length cy) k.s.length (yvz k.s):=yw0 ho hB.size
        try go_simp
        have hB':Below W0.heap.size W0 V:=trm hB hb
        refine hKK.out _ _ ⟨(HP0.out.below hB').cell (i:=10) rfl,(HP0.out.below hB').cell (i:=11) rfl,(HP0.out.below hB').cell (i:=12) rfl,(HP0.out.below hB').cell (i:=13) rfl⟩ (fun hHeld=> ?_)
        try simp only [Act.put,q1]
        try simp only [q3]
        try simp only [q2]
        refine yw2 (l':=(yzu 5119)) (by kernel_rfl) ?_
        rw [←HGE.out]
        exact st1101.out V ay cy g7 Hb hB' hC' (hG.below hb) hg7 (hH.below hb) hHb
    have st1001:Hid (∀(W:World) (ay:Option Addr) (cy:Nat) (Hb:Nat),Below W0.heap.size W0 W→W.ownsRow W0.heap.size 90 7 (.slice ay k.s.length cy) k.s.length (yvz k.s)→Bk W Hb 86 #[.slice none 0 0,.slice none 0 0,.int .i64 0,.bool false]→W0.heap.size≤Hb→G 4 (yzu 4991) (actC k ai ci ah ch ae ce ad cd ap cp ab cb au cu ax cx w.heap.size Rb (.pointer (some ⟨Hb,0,none⟩)) (.slice ay k.s.length cy) undef undef undef) W):=by
      intro W ay cy Hb hB hC hH hHb
      rw [HGE.out]
      unfold actC
      refine yfb (rs:= [7]) (by kernel_rfl) (by simp) ?_
      refine AllReadyZ.cons (i:=7) rfl (fun K hKK=> ?_) AllReadyZ.nil
      · obtain⟨g7,V,HX,HV,hb,hk⟩:=zcg W #[] 166
        go_simp
        rw [HV.out,←HX.out]
        have hB':Below W0.heap.size W0 V:=trm hB hb
        refine hKK.out _ _ ⟨(HP0.out.below hB').cell (i:=10) rfl,(HP0.out.below hB').cell (i:=11) rfl,(HP0.out.below hB').cell (i:=12) rfl,(HP0.out.below hB').cell (i:=13) rfl⟩ (fun hHeld=> ?_)
        try simp only [Act.put,q1]
        try simp only [q3]
        try simp only [q2]
        refine yw2 (l':=(yzu 5119)) (by kernel_rfl) ?_
        rw [←HGE.out]
        exact st1101.out V ay cy g7 Hb hB' (owB hC hb) hk (HX.out▸hB.size) (hH.below hb) hHb
    have st1100:Hid (∀(W:World) (ay:Option Addr) (cy:Nat) (g7:Nat),Below W0.heap.size W0 W→W.ownsRow W0.heap.size 90 7 (.slice ay k.s.length cy) k.s.length (yvz k.s)→Bk W g7 166 #[]→W0.heap.size≤g7→G 4 (yzu 1023) (actC k ai ci ah ch ae ce ad cd ap cp ab cb au cu ax cx w.heap.size Rb undef (.slice ay k.s.length cy) (.slice (some ⟨g7,0,none⟩) 0 0) undef undef) W):=by
      intro W ay cy g7 hB hC hG hg7
      rw [HGE.out]
      unfold actC
      refine yfb (rs:= [10,12]) (by kernel_rfl) (by simp) ?_
      refine AllReadyZ.cons (i:=10) rfl (fun K hKK=> ?_) (AllReadyZ.cons (i:=12) rfl (fun K hKK=> ?_) AllReadyZ.nil)
      · obtain⟨ip,hip,hip0,hip1,hip2⟩:=info_parts zfp
        refine ywl (w:=W) rfl (.tmp 17) (.tmp 19) 39 rfl W0.heap.size 166 ip _ 3 24 Tryz.underlying39 hip hip0 hip1 hip2 rfl (by decide) (.slice (some ⟨g7,0,none⟩) 0 0) 0 [] rfl (zhf hG hg7) (.slice ax k.x.length cx) k.x.length (ywm k.x) rfl ((HXS.out.below HB0.out).below hB) (yyz k.x) (by unfold maxLen;have h9:=HXL.out;omega) (by have h9:=HXL.out;omega) hB.size ?_
        intro v' V hown hgrow hnew
        rw [Nat.zero_add,List.nil_append]at hown
        obtain⟨ae2,ce2,rfl⟩:=yfm hown
        have hgt:=yw9 hgrow
        have hb:Below W0.heap.size W0 V:=hB.grown hgrow hB.size (fun q e=>by cases e;exact hg7)
        refine hKK.out _ _ ⟨(HP0.out.below hb).cell (i:=10) rfl,(HP0.out.below hb).cell (i:=11) rfl,(HP0.out.below hb).cell (i:=12) rfl,(HP0.out.below hb).cell (i:=13) rfl⟩ (fun hHeld=> ?_)
        try simp only [Act.put,q1]
        try simp only [q3]
        try simp only [q2]
        refine yzz 11 {dst:=some 21,op:=Op.build 86 #[(2,Operand.tmp 11),(3,Operand.tmp 13),(0,Operand.tmp 16),(1,Operand.tmp 20)],type:=86,pos:=_,after:=_,guard:=none} ((.agg #[.slice ay k.s.length cy,.slice ae2 k.x.length ce2,.int .i64 k.q,.bool k.f])) ?_
        try simp only [Act.put]
        refine yw2 (l':=(yzu 4095)) (by kernel_rfl) ?_
        rw [←HGE.out]
        exact st1110.out V ay cy g7 ae2 ce2 hb (ypa hC hgt (fun j hj e=>ywp hC hG (by decide) (by cases e;exact hj))) hown
      · obtain⟨Hb,V,HX,HV,hb,hk⟩:=zcg W #[.slice none 0 0,.slice none 0 0,.int .i64 0,.bool false] 86
        go_simp
        rw [HV.out,←HX.out]
        have hB':Below W0.heap.size W0 V:=trm hB hb
        refine hKK.out _ _ ⟨(HP0.out.below hB').cell (i:=10) rfl,(HP0.out.below hB').cell (i:=11) rfl,(HP0.out.below hB').cell (i:=12) rfl,(HP0.out.below hB').cell (i:=13) rfl⟩ (fun hHeld=> ?_)
        try simp only [Act.put,q1]
        try simp only [q3]
        try simp only [q2]
        refine yw2 (l':=(yzu 5119)) (by kernel_rfl) ?_
        rw [←HGE.out]
        exact st1101.out V ay cy g7 Hb hB' (owB hC hb) (hG.below hb) hg7 hk (HX.out▸hB.size)
    have st0001:Hid (∀(W:World) (Hb:Nat),Below W0.heap.size W0 W→Bk W Hb 86 #[.slice none 0 0,.slice none 0 0,.int .i64 0,.bool false]→W0.heap.size≤Hb→G 5 (yzu 4927) (actC k ai ci ah ch ae ce ad cd ap cp ab cb au cu ax cx w.heap.size Rb (.pointer (some ⟨Hb,0,none⟩)) undef undef undef undef) W):=by
      intro W Hb hB hH hHb
      rw [HGE.out]
      unfold actC
      refine yfb (rs:= [6,7]) (by kernel_rfl) (by simp) ?_
      refine AllReadyZ.cons (i:=6) rfl (fun K hKK=> ?_) (AllReadyZ.cons (i:=7) rfl (fun K hKK=> ?_) AllReadyZ.nil)
      · go_simp
        refine(yyc _ k.s W HSL.out ((HSS.out.below HB0.out).below hB)).mono ?_
        rintro e V ⟨y0,rfl,ho,hb⟩
        obtain⟨ay,cy,rfl⟩:=yfm ho
        have hC':V.ownsRow W0.heap.size 90 7 (.slice ay k.s.length cy) k.s.length (yvz k.s):=yw0 ho hB.size
        try go_simp
        have hB':Below W0.heap.size W0 V:=trm hB hb
        refine hKK.out _ _ ⟨(HP0.out.below hB').cell (i:=10) rfl,(HP0.out.below hB').cell (i:=11) rfl,(HP0.out.below hB').cell (i:=12) rfl,(HP0.out.below hB').cell (i:=13) rfl⟩ (fun hHeld=> ?_)
        try simp only [Act.put,q1]
        try simp only [q3]
        try simp only [q2]
        refine yw2 (l':=(yzu 4991)) (by kernel_rfl) ?_
        rw [←HGE.out]
        exact st1001.out V ay cy Hb hB' hC' (hH.below hb) hHb
      · obtain⟨g7,V,HX,HV,hb,hk⟩:=zcg W #[] 166
        go_simp
        rw [HV.out,←HX.out]
        have hB':Below W0.heap.size W0 V:=trm hB hb
        refine hKK.out _ _ ⟨(HP0.out.below hB').cell (i:=10) rfl,(HP0.out.below hB').cell (i:=11) rfl,(HP0.out.below hB').cell (i:=12) rfl,(HP0.out.below hB').cell (i:=13) rfl⟩ (fun hHeld=> ?_)
        try simp only [Act.put,q1]
        try simp only [q3]
        try simp only [q2]
        refine yw2 (l':=(yzu 5055)) (by kernel_rfl) ?_
        rw [←HGE.out]
        exact st0101.out V g7 Hb hB' hk (HX.out▸hB.size) (hH.below hb) hHb
    have st0100:Hid (∀(W:World) (g7:Nat),Below W0.heap.size W0 W→Bk W g7 166 #[]→W0.heap.size≤g7→G 5 (yzu 959) (actC k ai ci ah ch ae ce ad cd ap cp ab cb au cu ax cx w.heap.size Rb undef undef (.slice (some ⟨g7,0,none⟩) 0 0) undef undef) W):=by
      intro W g7 hB hG hg7
      rw [HGE.out]
      unfold actC
      refine yfb (rs:= [6,12]) (by kernel_rfl) (by simp) ?_
      refine AllReadyZ.cons (i:=6) rfl (fun K hKK=> ?_) (AllReadyZ.cons (i:=12) rfl (fun K hKK=> ?_) AllReadyZ.nil)
      · go_simp
        refine(yyc _ k.s W HSL.out ((HSS.out.below HB0.out).below hB)).mono ?_
        rintro e V ⟨y0,rfl,ho,hb⟩
        obtain⟨ay,cy,rfl⟩:=yfm ho
        have hC':V.ownsRow W0.heap.size 90 7 (.slice ay k.s.length cy) k.s.length (yvz k.s):=yw0 ho hB.size
        try go_simp
        have hB':Below W0.heap.size W0 V:=trm hB hb
        refine hKK.out _ _ ⟨(HP0.out.below hB').cell (i:=10) rfl,(HP0.out.below hB').cell (i:=11) rfl,(HP0.out.below hB').cell (i:=12) rfl,(HP0.out.below hB').cell (i:=13) rfl⟩ (fun hHeld=> ?_)
        try simp only [Act.put,q1]
        try simp only [q3]
        try simp only [q2]
        refine yw2 (l':=(yzu 1023)) (by kernel_rfl) ?_
        rw [←HGE.out]
        exact st1100.out V ay cy g7 hB' hC' (hG.below hb) hg7
      · obtain⟨Hb,V,HX,HV,hb,hk⟩:=zcg W #[.slice none 0 0,.slice none 0 0,.int .i64 0,.bool false] 86
        go_simp
        rw [HV.out,←HX.out]
        have hB':Below W0.heap.size W0 V:=trm hB hb
        refine hKK.out _ _ ⟨(HP0.out.below hB').cell (i:=10) rfl,(HP0.out.below hB').cell (i:=11) rfl,(HP0.out.below hB').cell (i:=12) rfl,(HP0.out.below hB').cell (i:=13) rfl⟩ (fun hHeld=> ?_)
        try simp only [Act.put,q1]
        try simp only [q3]
        try simp only [q2]
        refine yw2 (l':=(yzu 5055)) (by kernel_rfl) ?_
        rw [←HGE.out]
        exact st0101.out V g7 Hb hB' (hG.below hb) hg7 hk (HX.out▸hB.size)
    have st1000:Hid (∀(W:World) (ay:Option Addr) (cy:Nat),Below W0.heap.size W0 W→W.ownsRow W0.heap.size 90 7 (.slice ay k.s.length cy) k.s.length (yvz k.s)→G 5 (yzu 895) (actC k ai ci ah ch ae ce ad cd ap cp ab cb au cu ax cx w.heap.size Rb undef (.slice ay k.s.length cy) undef undef undef) W):=by
      intro W ay cy hB hC
      rw [HGE.out]
      unfold actC
      refine yfb (rs:= [7,12]) (by kernel_rfl) (by simp) ?_
      refine AllReadyZ.cons (i:=7) rfl (fun K hKK=> ?_) (AllReadyZ.cons (i:=12) rfl (fun K hKK=> ?_) AllReadyZ.nil)
      · obtain⟨g7,V,HX,HV,hb,hk⟩:=zcg W #[] 166
        go_simp
        rw [HV.out,←HX.out]
        have hB':Below W0.heap.size W0 V:=trm hB hb
        refine hKK.out _ _ ⟨(HP0.out.below hB').cell (i:=10) rfl,(HP0.out.below hB').cell (i:=11) rfl,(HP0.out.below hB').cell (i:=12) rfl,(HP0.out.below hB').cell (i:=13) rfl⟩ (fun hHeld=> ?_)
        try simp only [Act.put,q1]
        try simp only [q3]
        try simp only [q2]
        refine yw2 (l':=(yzu 1023)) (by kernel_rfl) ?_
        rw [←HGE.out]
        exact st1100.out V ay cy g7 hB' (owB hC hb) hk (HX.out▸hB.size)
      · obtain⟨Hb,V,HX,HV,hb,hk⟩:=zcg W #[.slice none 0 0,.slice none 0 0,.int .i64 0,.bool false] 86
        go_simp
        rw [HV.out,←HX.out]
        have hB':Below W0.heap.size W0 V:=trm hB hb
        refine hKK.out _ _ ⟨(HP0.out.below hB').cell (i:=10) rfl,(HP0.out.below hB').cell (i:=11) rfl,(HP0.out.below hB').cell (i:=12) rfl,(HP0.out.below hB').cell (i:=13) rfl⟩ (fun hHeld=> ?_)
        try simp only [Act.put,q1]
        try simp only [q3]
        try simp only [q2]
        refine yw2 (l':=(yzu 4991)) (by kernel_rfl) ?_
        rw [←HGE.out]
        exact st1001.out V ay cy Hb hB' (owB hC hb) hk (HX.out▸hB.size)
    have st0000:Hid (∀(W:World),Below W0.heap.size W0 W→G 6 (yzu 831) (actC k ai ci ah ch ae ce ad cd ap cp ab cb au cu ax cx w.heap.size Rb undef undef undef undef undef) W):=by
      intro W hB
      rw [HGE.out]
      unfold actC
      refine yfb (rs:= [6,7,12]) (by kernel_rfl) (by simp) ?_
      refine AllReadyZ.cons (i:=6) rfl (fun K hKK=> ?_) (AllReadyZ.cons (i:=7) rfl (fun K hKK=> ?_) (AllReadyZ.cons (i:=12) rfl (fun K hKK=> ?_) AllReadyZ.nil))
      · go_simp
        refine(yyc _ k.s W HSL.out ((HSS.out.below HB0.out).below hB)).mono ?_
        rintro e V ⟨y0,rfl,ho,hb⟩
        obtain⟨ay,cy,rfl⟩:=yfm ho
        have hC':V.ownsRow W0.heap.size 90 7 (.slice ay k.s.length cy) k.s.length (yvz k.s):=yw0 ho hB.size
        try go_simp
        have hB':Below W0.heap.size W0 V:=trm hB hb
        refine hKK.out _ _ ⟨(HP0.out.below hB').cell (i:=10) rfl,(HP0.out.below hB').cell (i:=11) rfl,(HP0.out.below hB').cell (i:=12) rfl,(HP0.out.below hB').cell (i:=13) rfl⟩ (fun hHeld=> ?_)
        try simp only [Act.put,q1]
        try simp only [q3]
        try simp only [q2]
        refine yw2 (l':=(yzu 895)) (by kernel_rfl) ?_
        rw [←HGE.out]
        exact st1000.out V ay cy hB' hC'
      · obtain⟨g7,V,HX,HV,hb,hk⟩:=zcg W #[] 166
        go_simp
        rw [HV.out,←HX.out]
        have hB':Below W0.heap.size W0 V:=trm hB hb
        refine hKK.out _ _ ⟨(HP0.out.below hB').cell (i:=10) rfl,(HP0.out.below hB').cell (i:=11) rfl,(HP0.out.below hB').cell (i:=12) rfl,(HP0.out.below hB').cell (i:=13) rfl⟩ (fun hHeld=> ?_)
        try simp only [Act.put,q1]
        try simp only [q3]
        try simp only [q2]
        refine yw2 (l':=(yzu 959)) (by kernel_rfl) ?_
        rw [←HGE.out]
        exact st0100.out V g7 hB' hk (HX.out▸hB.size)
      · obtain⟨Hb,V,HX,HV,hb,hk⟩:=zcg W #[.slice none 0 0,.slice none 0 0,.int .i64 0,.bool false] 86
        go_simp
        rw [HV.out,←HX.out]
        have hB':Below W0.heap.size W0 V:=trm hB hb
        refine hKK.out _ _ ⟨(HP0.out.below hB').cell (i:=10) rfl,(HP0.out.below hB').cell (i:=11) rfl,(HP0.out.below hB').cell (i:=12) rfl,(HP0.out.below hB').cell (i:=13) rfl⟩ (fun hHeld=> ?_)
        try simp only [Act.put,q1]
        try simp only [q3]
        try simp only [q2]
        refine yw2 (l':=(yzu 4927)) (by kernel_rfl) ?_
        rw [←HGE.out]
        exact st0001.out V Hb hB' hk (HX.out▸hB.size)
    exact st0000.out _ hBd
  case rest=>
    obtain⟨Hb,rfl,ay,cy,ae2,ce2,hC,hX,hH,hB,hHb⟩:=hcut
    obtain⟨w5,rfl⟩:∃w5,w5=wc:=⟨wc,rfl⟩
    have HC5:=yw7 hC
    have HX5:=yw7 hX
    have HH5:=yw7 hH
    have HP5:=yw7 (HP0.out.below hB)
    have HR5:=yw7 (HR0.out.below hB)
    have HB5:=trh HB0 hB
    have hs5:W0.heap.size≤w5.heap.size:=hB.size
    have hHl:Hb<w5.heap.size:=hH.lt
    have HBL5:=yw7 hB
    clear hC hX hH hB
    obtain⟨m0,m1,m2,m3,m4,m5,m6,m7,m8,m9,m10,m11,m12,m13⟩:=ywd HP5.out
    go_wp2_with fail
    clear m0 m1 m2 m3 m4 m5 m6 m7 m8 m9 m10 m11 m12 m13
    refine(sGvt5 _ k _ HSK.out (HK.out.under HB5.out)).mono ?_
    rintro e w6 ⟨rfl,hb6⟩
    obtain⟨ge,gf,hg0,hg1,hg2⟩:∃(ge:Ev) (gf:Bool),retE (gvtE k)= .tuple #[.agg #[.int .i64 ge.t,.int .i64 ge.s,.int .i64 ge.q,.int .i64 ge.d,.int .i64 ge.k,.int .i64 ge.v,.int .i64 ge.g],.bool gf]∧(if gf=true then some ge else none)=gvtE k∧(gf=true→ge.ok=true):=by
      refine⟨orZ (gvtE k),(gvtE k).isSome,rfl,?_,?_⟩
      · cases gvtE k<;>rfl
      · intro hy
        cases hq:gvtE k with
        |none=>rw [hq]at hy;cases hy
        |some g=>exact zj9 HOK.out g hq
    have HGE:=yw7 hg1
    have HGO:=yw7 hg2
    rw [hg0]
    clear hg0 hg1 hg2
    obtain⟨Eb,hEb⟩:∃Eb,Eb=w6.heap.size:=⟨_,rfl⟩
    obtain⟨w7,hw7⟩:∃V,w6.alloc (.cells #[.int .i64 ge.t,.int .i64 ge.s,.int .i64 ge.q,.int .i64 ge.d,.int .i64 ge.k,.int .i64 ge.v,.int .i64 ge.g] 90)=V:=⟨_,rfl⟩
    have hb7:Below w5.heap.size w5 w7:=hw7▸trm hb6 ((Below.refl _ w6).alloc (Nat.le_refl _) _)
    have HE7:Hid (Bk w7 Eb 90 #[.int .i64 ge.t,.int .i64 ge.s,.int .i64 ge.q,.int .i64 ge.d,.int .i64 ge.k,.int .i64 ge.v,.int .i64 ge.g]):=hw7▸hEb▸Bk.new w6 _ _
    have HP7:=yw7 (HP5.out.below hb7)
    have HR7:=yw7 (HR5.out.below hb7)
    have HH7:=yw7 (HH5.out.below hb7)
    have HC7:=yw7 (owB HC5.out hb7)
    have HX7:=yw7 (owB HX5.out hb7)
    have HB7:=trh HB5 hb7
    have hpl4:k.p.length≤4:=zod HOK.out
    have hs7:W0.heap.size≤w7.heap.size:=Nat.le_trans hs5 hb7.size
    have hE5:w5.heap.size≤Eb:=by rw [hEb];exact hb6.size
    have hElt:Eb<w7.heap.size:=HE7.out.lt
    have HNE0:Hid (¬(.slice ay k.s.length cy:Value).ownBlock=some Eb):=fun e=>by have:=owns_lt HC5.out e;omega
    have HW7:=yw7 hw7
    have HEB:Hid (Eb=w6.heap.size):=hEb
    have HBL7:=yw7 (HBL5.out.trans (hb7.mono hs5))
    obtain⟨wm,hmk,hmb,hmB⟩:=mk_ints k.p.length hpl4 w7
    have HMK:Hid _:=hmk
    have HNB:=yw7 hmb
    have HMB:=yw7 hmB
    have q7:=HP7.out.cell (i:=7) rfl
    have hw:=HW7.out
    clear hb6 hb7 hw7 hEb HC5 HX5 HH5 HP5 HR5 HB5
    go_wp2
    clear hw q7 HW7 hmk HMK hmb hmB
    rw [←HEB.out]
    obtain⟨Nb,hNb⟩:∃Nb,Nb=w7.heap.size:=⟨_,rfl⟩
    rw [←hNb]at HNB
    rw [←hNb]
    have HI0:Hid (CtI W0 k wm Nb Eb Hb ge (fun _=>0) []):=⟨HNB.out,HE7.out.below HMB.out,⟨ay,cy,ae2,ce2,by rw [zpk,told0];exact HH7.out.below HMB.out,by rw [zpk];exact owB HC7.out HMB.out,by rw [told0];exact owB HX7.out HMB.out,by rw [zpk];exact HNE0.out⟩,HBL7.out.trans (HMB.out.mono hs7)⟩
    have hEW:W0.heap.size≤Eb:=Nat.le_trans hs5 hE5
    have hNW:W0.heap.size≤Nb:=by omega
    have HPK:=yw7 HP0.out
    have HRK:=yw7 HR0.out
    clear HNB HE7 HH7 HC7 HX7 HMB HBL7 HBL5 HP7 HR7 HB7 HP0 HR0 hNb HEB hE5 hElt hs5 hs7 hHl
    go_loopw [7,8,9] (fun _ _ _ wr=>∃(nx:Nat→Nat) (f:Nat) (pre:List Ps),Hid (CtI W0 k wr Nb Eb Hb ge nx pre)∧Hid (∀i,i<k.p.length→nx i≤ctK k i)∧Hid ((remL (PP k) (ctK k) nx k.p.length).length≤f)∧Hid (comL k=pre++comR (PP k) k.p.length (gvtE k) nx f)) (fun _ _ _ wr=>sumL (ctK k) k.p.length-nxM wr Nb k.p.length)
    case atStart=>exact⟨fun _=>0,_,[],HI0.out,fun _ _=>Nat.zero_le _,Nat.le_refl _,rfl⟩
    case round=>
      clear HI0
      obtain⟨W1,rfl⟩:∃W1,W1=wr:=⟨wr,rfl⟩
      obtain⟨nx,f,pre,HI,HN,HF,HCM⟩:=hrel
      have HP1:=yw7 (HPK.out.below HI.out.bel)
      have hW01:W0.heap.size≤W1.heap.size:=HI.out.bel.size
      have HBW1:=yw7 (HB0.out.trans (HI.out.bel.mono HB0.out.size))
      go_wp2
      go_loopw [7,8] (fun b i wr=>∃j:Nat,j≤k.p.length∧i= .int .i64 j∧b= .int .i64 (ywt (PP k) nx j)∧Below W1.heap.size W1 wr) (fun _ i _=>k.p.length-(intOf i).toNat)
      case atStart=>exact⟨0,Nat.zero_le _,rfl,rfl,Below.refl _ _⟩
      case round=>
        obtain⟨W2,rfl⟩:∃W2,W2=wr:=⟨wr,rfl⟩
        obtain⟨j,hj,rfl,rfl,hb2⟩:=hrel
        have HB2:=yw7 hb2
        have HBW2:=trh HBW1 hb2
        have HP2:=yw7 (HP1.out.below hb2)
        have HN2:=yw7 (HI.out.nxs.below hb2)
        have hne:=neB W2
        have q7:=HP2.out.cell (i:=7) rfl
        clear hb2
        by_cases hlt:j<k.p.length
        · obtain⟨b,off,rfl,hPA⟩:=HPP.out.resolve_left (by intro e;rw [e]at hlt;simp at hlt)
          have hbw:b<w.heap.size:=hPA.1
          have hbW2:b<W2.heap.size:=Nat.lt_of_lt_of_le hbw HBW2.out.size
          obtain⟨a1,c1,a4,c4,a5,c5,a6,c6,hp⟩:=hPA.2 j hlt
          have o7:=HP2.out.beyond (i:=7) rfl
          have hnj:∀q:Beyond W2,q.w.cell? ⟨Nb,j,none⟩=some (.int .i64 (nx j:Nat)):=HN2.out.beyond (i:=j) (zfl nx hlt)
          have g4:∀q:Beyond W2,q.w.cell? ⟨b,off+j*7+4,none⟩=some (.slice a4 (paAt k.p j).p.length c4):=fun q=>q.cell hbW2 ((HBW2.out.cell (p:=⟨b,_,none⟩) hbw).trans hp.f4)
          have hki:(j:Int)<(k.p.length:Int):=by omega
          have HD4:=yw7 hp.d4
          clear hp
          by_cases hl:nx j<(paAt k.p j).p.length
          · have hd1:decide (nx j<(paAt k.p j).p.length)=true:=by simp;omega
            have hd2:decide ((nx j:Int)<((paAt k.p j).p.length:Int))=true:=by simp;omega
            have hd3:(nx j:Int)<((paAt k.p j).p.length:Int):=by omega
            have hlI:=yw7 hl
            obtain⟨hz0,hz1,hz2⟩:=zbr (PP k) nx j
            by_cases hz:ywt (PP k) nx j<0
            · have HBE:Hid (ywt (PP k) nx (j+1)=(j:Int)):=by show _=_;rw [ywt,if_pos ⟨hl,.inl hz⟩]
              have hd4:decide (ywt (PP k) nx j<0)=true:=by simp;omega
              generalize ywt (PP k) nx j=z at hz hd4
              clear hl hz0 hz1 hz2
              go_wp2_with fail
              refine wrb ?_
              repeat(go_big_quiet_step (fail))
              refine wpQuiet_nil ?_
              rintro w2 ⟨⟨_,hb3⟩,rfl⟩
              clear hne q7 o7 hnj g4
              go_wp2
              go_roundw
              case rel=>exact⟨j+1,by omega,by go_num,by rw [HBE.out],trm HB2.out hb3⟩
              case measure=>simp [intOf];omega
            · obtain⟨hn1,hn2,_⟩:=hz2 (by omega)
              obtain⟨bn,hbn⟩:∃bn:Nat,ywt (PP k) nx j=(bn:Int):=⟨(ywt (PP k) nx j).toNat,by omega⟩
              have hbt:(ywt (PP k) nx j).toNat=bn:=by omega
              rw [hbt]at hn1 hn2
              have hn2':nx bn<(paAt k.p bn).p.length:=hn2
              have hbk:bn<k.p.length:=by omega
              have HBT:Hid (ywt (PP k) nx (j+1)=if (psAt (paAt k.p j).p (nx j)).e.cmp (psAt (paAt k.p bn).p (nx bn)).e<0 then(j:Int)else(bn:Int)):=by
                show _=_
                rw [ywt,hbt,hbn]
                by_cases hc:(psAt (paAt k.p j).p (nx j)).e.cmp (psAt (paAt k.p bn).p (nx bn)).e<0
                · rw [if_pos hc,if_pos ⟨hl,.inr hc⟩]
                · rw [if_neg hc,if_neg (fun h=>h.2.elim (fun h9=>by omega) (fun h9=>hc h9))]
              rw [hbn]
              have hd4:decide ((bn:Int)<0)=false:=by simp
              have hd5:¬((bn:Int)<0):=by omega
              have hk2:(bn:Int)<(k.p.length:Int):=by omega
              have hd6:(nx bn:Int)<((paAt k.p bn).p.length:Int):=by omega
              obtain⟨b1',d1',b4',d4',b5',d5',b6',d6',hp'⟩:=hPA.2 bn hbk
              have hnb:∀q:Beyond W2,q.w.cell? ⟨Nb,bn,none⟩=some (.int .i64 (nx bn:Nat)):=HN2.out.beyond (i:=bn) (zfl nx hbk)
              have g4':∀q:Beyond W2,q.w.cell? ⟨b,off+bn*7+4,none⟩=some (.slice b4' (paAt k.p bn).p.length d4'):=fun q=>q.cell hbW2 ((HBW2.out.cell (p:=⟨b,_,none⟩) hbw).trans hp'.f4)
              obtain⟨e4,o4,rfl,hew,hee⟩:=(yz1 HD4.out).resolve_left (by intro e9;rw [e9]at hl;simp at hl)
              obtain⟨e4',o4',rfl,hew',hee'⟩:=(yz1 hp'.d4).resolve_left (by intro e9;rw [e9]at hn2';simp at hn2')
              obtain⟨_,_,_,_,_,_,hpp⟩:=hee (nx j) hl
              obtain⟨_,_,_,_,_,_,hpp'⟩:=hee' (nx bn) hn2'
              obtain⟨u0,u1,u2,u3,u4,u5,u6⟩:=EvAt.beyond (hpp.ev.below HBW2.out hew) (Nat.lt_of_lt_of_le hew HBW2.out.size)
              obtain⟨v0,v1,v2,v3,v4,v5,v6⟩:=EvAt.beyond (hpp'.ev.below HBW2.out hew') (Nat.lt_of_lt_of_le hew' HBW2.out.size)
              clear hpp hpp' hee hee' hp' hl hn2 hn1 hz hz0 hz1 hz2 hbt
              generalize (psAt (paAt k.p j).p (nx j)).e=ea at u0 u1 u2 u3 u4 u5 u6 HBT
              generalize (psAt (paAt k.p bn).p (nx bn)).e=eb at v0 v1 v2 v3 v4 v5 v6 HBT
              generalize hzc:ea.cmp eb=zc at HBT
              have HZ:Hid (ea.cmp eb=zc):=hzc
              clear hzc
              by_cases hc:zc<0
              · have hdz:decide (zc<0)=true:=by simp;omega
                have HBE:Hid (ywt (PP k) nx (j+1)=(j:Int)):=by show _=_;rw [HBT.out,if_pos hc]
                go_wp2_with fail
                refine wrb ?_
                repeat(go_big_quiet_step (first|(go_at_call 176;exact Beyond.of (yxa ea eb zc HZ.out _))))
                refine wpQuiet_nil ?_
                rintro w2 ⟨⟨_,hb3⟩,rfl⟩
                clear hne q7 o7 hnj g4 hnb g4' u0 u1 u2 u3 u4 u5 u6 v0 v1 v2 v3 v4 v5 v6
                go_wp2
                go_roundw
                case rel=>exact⟨j+1,by omega,by go_num,by rw [HBE.out],trm HB2.out hb3⟩
                case measure=>simp [intOf];omega
              · have hdz:decide (zc<0)=false:=by simp;omega
                have HBE:Hid (ywt (PP k) nx (j+1)=(bn:Int)):=by show _=_;rw [HBT.out,if_neg hc]
                go_wp2_with fail
                refine wrb ?_
                repeat(go_big_quiet_step (first|(go_at_call 176;exact Beyond.of (yxa ea eb zc HZ.out _))))
                refine wpQuiet_nil ?_
                rintro w2 ⟨⟨_,hb3⟩,rfl⟩
                clear hne q7 o7 hnj g4 hnb g4' u0 u1 u2 u3 u4 u5 u6 v0 v1 v2 v3 v4 v5 v6
                go_wp2
                go_roundw
                case rel=>exact⟨j+1,by omega,by go_num,by rw [HBE.out],trm HB2.out hb3⟩
                case measure=>simp [intOf];omega
          · have hd1:decide (nx j<(paAt k.p j).p.length)=false:=by simp;omega
            have hd2:decide ((nx j:Int)<((paAt k.p j).p.length:Int))=false:=by simp;omega
            have hd3:¬((nx j:Int)<((paAt k.p j).p.length:Int)):=by omega
            have HBE:Hid (ywt (PP k) nx (j+1)=ywt (PP k) nx j):=by show _=_;rw [ywt,if_neg (fun h=>hl h.1)]
            generalize ywt (PP k) nx j=z at HBE
            clear hl
            go_wp2_with fail
            refine wrb ?_
            repeat(go_big_quiet_step (fail))
            refine wpQuiet_nil ?_
            rintro w2 ⟨⟨_,hb3⟩,rfl⟩
            clear hne q7 o7 hnj g4
            go_wp2
            go_roundw
            case rel=>exact⟨j+1,by omega,by go_num,by rw [HBE.out],trm HB2.out hb3⟩
            case measure=>simp [intOf];omega
        · obtain rfl:k.p.length=j:=by omega
          obtain⟨ay1,cy1,ax1,cx1,hH1,hC1,hX1,hne1⟩:=HI.out.rows
          obtain⟨EL,hEL⟩:∃EL,k.s++yz8 pre=EL:=⟨_,rfl⟩
          obtain⟨TL,hTL⟩:∃TL,yze k pre=TL:=⟨_,rfl⟩
          rw [hEL,hTL]at hH1
          rw [hEL]at hC1 hne1
          have HNEc:=yw7 hne1
          have HELL:Hid (EL.length≤1050000):=by
            show _≤_
            rw [←hEL,List.length_append]
            have:=ziz HOK.out HCM.out
            have:=HSL.out
            simp only [yz8,List.length_map]
            omega
          have HTLL:Hid (TL.length≤1060000):=by
            show _≤_
            rw [←hTL]
            have h1:=zk0 HOK.out HCM.out
            have h2:=HXL.out
            omega
          rw [hTL]at hX1
          have HEL:=yw7 hEL
          have HTL:Hid (yze k pre=TL):=hTL
          clear hEL hTL
          have HBL2:=yw7 (HI.out.bel.trans (HB2.out.mono hW01))
          have HH2:=yw7 (hH1.below HB2.out)
          have HC2:=yw7 (owB hC1 HB2.out)
          have HX2:=yw7 (owB hX1 HB2.out)
          have HE2:=yw7 (HI.out.ev.below HB2.out)
          have HR2:=yw7 (HRK.out.below HBL2.out)
          obtain⟨hz0,hz1,hz2⟩:=zbr (PP k) nx k.p.length
          clear hH1 hC1 hX1 hne hne1
          by_cases hz:ywt (PP k) nx k.p.length<0
          · have HEND:Hid (comL k=pre):=by show _=_;rw [HCM.out,zpc (.inl hz),List.append_nil]
            generalize ywt (PP k) nx k.p.length=z at hz
            clear hz0 hz1 hz2
            obtain⟨y0,y1,y2,y3⟩:=c4_4 HH2.out
            obtain⟨r0,r1,r2,r3⟩:=c4_4 HR2.out
            have rf:=HR2.out.free
            go_wp2
            clear y0 y1 y2 y3 r0 r1 r2 r3 rf
            obtain⟨X,hX⟩:∃X,putH W2 Rb (.slice ay1 EL.length cy1) (.slice ax1 TL.length cx1) (.int .i64 k.q) (.bool k.f)=X:=⟨_,rfl⟩
            have ht:=za6 W2 Rb (.slice ay1 EL.length cy1) (.slice ax1 TL.length cx1) (.int .i64 k.q) (.bool k.f)
            have hk:=HR2.out.putH (.slice ay1 EL.length cy1) (.slice ax1 TL.length cx1) (.int .i64 k.q) (.bool k.f)
            rw [hX]at ht hk
            unfold putH at hX
            rw [hX]
            obtain⟨t0,t1,t2,t3⟩:=c4_4 hk
            refine bodyPost_ret (v:= .agg #[.slice ay1 EL.length cy1,.slice ax1 TL.length cx1,.int .i64 k.q,.bool k.f]) (by simp [results,Tryz.results108,go_sem,t0,t1,t2,t3]) rfl ?_
            rw [HEND.out]
            try rw [←List.length_append]
            rw [HEL.out,HTL.out]
            exact⟨ay1,cy1,ax1,cx1,rfl,yw0 (owN HC2.out ht HR2.out) HB0.out.size,yw0 (owN HX2.out ht HR2.out) HB0.out.size,(trm HB0.out HBL2.out).trans (ht.to_below (fun b e=>by omega) (Nat.le_trans HB0.out.size HBL2.out.size))⟩
          · obtain⟨hn1,hn2,_⟩:=hz2 (by omega)
            obtain⟨bn,hbn⟩:∃bn:Nat,ywt (PP k) nx k.p.length=(bn:Int):=⟨(ywt (PP k) nx k.p.length).toNat,by omega⟩
            have hbt:(ywt (PP k) nx k.p.length).toNat=bn:=by omega
            rw [hbt]at hn1 hn2
            have hn2':nx bn<(paAt k.p bn).p.length:=hn2
            have HBN:=yw7 hbn
            have HNZ:=yw7 hz
            rw [hbn]
            have hk2:(bn:Int)<(k.p.length:Int):=by omega
            have hk3:(0:Int)≤(bn:Int):=by omega
            have hd6:(nx bn:Int)<((paAt k.p bn).p.length:Int):=by omega
            have hd5:¬((bn:Int)<0):=by omega
            obtain⟨b,off,rfl,hPA⟩:=HPP.out.resolve_left (by intro e;rw [e]at hn1;simp at hn1)
            have hbw:b<w.heap.size:=hPA.1
            obtain⟨b1,d1,b4,d4,b5,d5,b6,d6,hp⟩:=hPA.2 bn hn1
            obtain⟨e4,o4,rfl,hew,hee⟩:=(yz1 hp.d4).resolve_left (by intro e9;rw [e9]at hn2';simp at hn2')
            obtain⟨a7,c7,a10,c10,a11,c11,hpp⟩:=hee (nx bn) hn2'
            have hp4:=hp.f4
            obtain⟨Q,hQ⟩:∃Q,psAt (paAt k.p bn).p (nx bn)=Q:=⟨_,rfl⟩
            have HQ:=yw7 hQ
            rw [hQ]at hpp
            have HX11:=yw7 hpp.d11
            have p0:=hpp.ev.f0
            have p1:=hpp.ev.f1
            have p2:=hpp.ev.f2
            have p3:=hpp.ev.f3
            have p4:=hpp.ev.f4
            have p5:=hpp.ev.f5
            have p6:=hpp.ev.f6
            have p7:=hpp.f7
            have p8:=hpp.f8
            have p9:=hpp.f9
            have p10:=hpp.f10
            have p11:=hpp.f11
            clear hp hpp hee hPA hQ hz hz0 hz1 hz2 hbn hbt hn2
            go_upto_region 12 with fail
            refine yx1 13 (fun W=>W.cell? ⟨w.heap.size,7,none⟩=some (.slice (some ⟨b,off,none⟩) k.p.length cp)∧W.cell? ⟨b,off+bn*7+4,none⟩=some (.slice (some ⟨e4,o4,none⟩) (paAt k.p bn).p.length d4)∧W.cell? ⟨Nb,bn,none⟩=some (.int .i64 (nx bn:Nat))∧W.cell? ⟨e4,o4+nx bn*12,none⟩=some (.int .i64 Q.e.t)∧W.cell? ⟨e4,o4+nx bn*12+1,none⟩=some (.int .i64 Q.e.s)∧W.cell? ⟨e4,o4+nx bn*12+2,none⟩=some (.int .i64 Q.e.q)∧W.cell? ⟨e4,o4+nx bn*12+3,none⟩=some (.int .i64 Q.e.d)∧W.cell? ⟨e4,o4+nx bn*12+4,none⟩=some (.int .i64 Q.e.k)∧W.cell? ⟨e4,o4+nx bn*12+5,none⟩=some (.int .i64 Q.e.v)∧W.cell? ⟨e4,o4+nx bn*12+6,none⟩=some (.int .i64 Q.e.g)∧W.cell? ⟨e4,o4+nx bn*12+7,none⟩=some (.slice a7 Q.b.r.length c7)∧W.cell? ⟨e4,o4+nx bn*12+8,none⟩=some (.int .i64 Q.b.q)∧W.cell? ⟨e4,o4+nx bn*12+9,none⟩=some (.int .i64 Q.b.d)∧W.cell? ⟨e4,o4+nx bn*12+10,none⟩=some (.slice a10 Q.s.length c10)∧W.cell? ⟨e4,o4+nx bn*12+11,none⟩=some (.slice a11 Q.x.length c11)) (by kernel_rfl) ⟨HP2.out.drew.cell (i:=7) rfl,((HBW2.out.drew).cell (p:=⟨b,_,none⟩) hbw).trans hp4,HN2.out.drew.cell (i:=bn) (zfl nx hn1),((HBW2.out.drew).cell (p:=⟨e4,_,none⟩) hew).trans p0,((HBW2.out.drew).cell (p:=⟨e4,_,none⟩) hew).trans p1,((HBW2.out.drew).cell (p:=⟨e4,_,none⟩) hew).trans p2,((HBW2.out.drew).cell (p:=⟨e4,_,none⟩) hew).trans p3,((HBW2.out.drew).cell (p:=⟨e4,_,none⟩) hew).trans p4,((HBW2.out.drew).cell (p:=⟨e4,_,none⟩) hew).trans p5,((HBW2.out.drew).cell (p:=⟨e4,_,none⟩) hew).trans p6,((HBW2.out.drew).cell (p:=⟨e4,_,none⟩) hew).trans p7,((HBW2.out.drew).cell (p:=⟨e4,_,none⟩) hew).trans p8,((HBW2.out.drew).cell (p:=⟨e4,_,none⟩) hew).trans p9,((HBW2.out.drew).cell (p:=⟨e4,_,none⟩) hew).trans p10,((HBW2.out.drew).cell (p:=⟨e4,_,none⟩) hew).trans p11⟩ (fun hHeld=> ?_)
            obtain⟨wd,hwd⟩:∃wd,W2.drew=wd:=⟨_,rfl⟩
            have hbd:Below W2.heap.size W2 wd:=hwd▸(Below.refl _ W2).drew
            rw [hwd]at hHeld
            rw [hwd]
            clear hwd
            refine yzz 0 {dst:=some 88,op:=Op.fieldAddr 41 (Operand.tmp 1) 2,type:=0,pos:=_,after:=_,guard:=none} (.pointer (some ⟨w.heap.size,7,none⟩)) ?_
            try simp only [Act.put,q1,q2,q3]
            refine yzz 1 {dst:=some 89,op:=Op.load 37 (Operand.tmp 88),type:=37,pos:=_,after:=_,guard:=none} (.slice (some ⟨b,off,none⟩) k.p.length cp) ?_
            try simp only [Act.put,q1,q2,q3]
            refine yzz 2 {dst:=some 90,op:=Op.move (Operand.tmp 7),type:=3,pos:=_,after:=_,guard:=none} (.int .i64 (bn:Int)) ?_
            try simp only [Act.put,q1,q2,q3]
            refine ywe (i:=3) (oi:= {dst:=some 91,op:=Op.indexAddr 37 (Operand.tmp 89) (Operand.tmp 90),type:=0,pos:=_,after:=_,guard:=none}) (v:= .pointer (some ⟨b,off+bn*7,none⟩)) 3 [] rfl (by kernel_rfl) (by kernel_rfl) (by kernel_rfl) (by kernel_rfl) (by kernel_rfl) (fun _ _ _ h=>h) (Or.inl ⟨by rfl,?_⟩) (by assumption) ?_
            · intro wX hSw
              try dsimp only at hSw
              go_simp
              try exact IntWalk.i64_in _ (by omega)
              try(intro h9;exfalso;omega)
            try simp only [Act.put,q1,q2,q3]
            refine yzz 4 {dst:=some 92,op:=Op.fieldAddr 97 (Operand.tmp 91) 2,type:=0,pos:=_,after:=_,guard:=none} (.pointer (some ⟨b,off+bn*7+4,none⟩)) ?_
            try simp only [Act.put,q1,q2,q3]
            refine yzz 5 {dst:=some 93,op:=Op.load 95 (Operand.tmp 92),type:=95,pos:=_,after:=_,guard:=none} (.slice (some ⟨e4,o4,none⟩) (paAt k.p bn).p.length d4) ?_
            try simp only [Act.put,q1,q2,q3]
            refine yzz 6 {dst:=some 94,op:=Op.move (Operand.tmp 6),type:=22,pos:=_,after:=_,guard:=none} (.slice (some ⟨Nb,0,none⟩) k.p.length k.p.length) ?_
            try simp only [Act.put,q1,q2,q3]
            refine yzz 7 {dst:=some 95,op:=Op.move (Operand.tmp 7),type:=3,pos:=_,after:=_,guard:=none} (.int .i64 (bn:Int)) ?_
            try simp only [Act.put,q1,q2,q3]
            refine ywe (i:=8) (oi:= {dst:=some 96,op:=Op.indexAddr 22 (Operand.tmp 94) (Operand.tmp 95),type:=0,pos:=_,after:=_,guard:=none}) (v:= .pointer (some ⟨Nb,bn,none⟩)) 8 [] rfl (by kernel_rfl) (by kernel_rfl) (by kernel_rfl) (by kernel_rfl) (by kernel_rfl) (fun _ _ _ h=>h) (Or.inl ⟨by rfl,?_⟩) (by assumption) ?_
            · intro wX hSw
              try dsimp only at hSw
              go_simp
              try exact IntWalk.i64_in _ (by omega)
              try(intro h9;exfalso;omega)
            try simp only [Act.put,q1,q2,q3]
            refine yzz 9 {dst:=some 97,op:=Op.load 3 (Operand.tmp 96),type:=3,pos:=_,after:=_,guard:=none} (.int .i64 (nx bn:Nat)) ?_
            try simp only [Act.put,q1,q2,q3]
            refine ywe (i:=10) (oi:= {dst:=some 98,op:=Op.indexAddr 95 (Operand.tmp 93) (Operand.tmp 97),type:=0,pos:=_,after:=_,guard:=none}) (v:= .pointer (some ⟨e4,o4+nx bn*12,none⟩)) 10 [] rfl (by kernel_rfl) (by kernel_rfl) (by kernel_rfl) (by kernel_rfl) (by kernel_rfl) (fun _ _ _ h=>h) (Or.inl ⟨by rfl,?_⟩) (by assumption) ?_
            · intro wX hSw
              try dsimp only at hSw
              go_simp
              try exact IntWalk.i64_in _ (by omega)
              try(intro h9;exfalso;omega)
            try simp only [Act.put,q1,q2,q3]
            refine yzz 11 {dst:=some 99,op:=Op.load 172 (Operand.tmp 98),type:=172,pos:=_,after:=_,guard:=none} (.agg #[.int .i64 Q.e.t,.int .i64 Q.e.s,.int .i64 Q.e.q,.int .i64 Q.e.d,.int .i64 Q.e.k,.int .i64 Q.e.v,.int .i64 Q.e.g,.slice a7 Q.b.r.length c7,.int .i64 Q.b.q,.int .i64 Q.b.d,.slice a10 Q.s.length c10,.slice a11 Q.x.length c11]) ?_
            try simp only [Act.put,q1,q2,q3]
            refine yfb (rs:= [12]) (by kernel_rfl) (by simp) ?_
            refine AllReadyZ.cons rfl (fun K hK=> ?_) AllReadyZ.nil
            obtain⟨Xb,V,HXb,HV,hb,hk⟩:=zcg wd #[.int .i64 0,.int .i64 0,.int .i64 0,.int .i64 0,.int .i64 0,.int .i64 0,.int .i64 0,.slice none 0 0,.int .i64 0,.int .i64 0,.slice none 0 0,.slice none 0 0] 172
            have hbV:Below W2.heap.size W2 V:=trm hbd hb
            have HKX:=yw7 hk
            have HBV:=yw7 hbV
            have HXW:Hid (W2.heap.size≤Xb):=by(show _≤_;rw [HXb.out];exact hbd.size)
            clear hb hk
            go_simp
            rw [HV.out,←HXb.out]
            clear HV HXb
            refine hK.out _ _ ⟨(HP2.out.below hbV).cell (i:=7) rfl,((trm HBW2.out hbV).cell (p:=⟨b,_,none⟩) hbw).trans hp4,(HN2.out.below hbV).cell (i:=bn) (zfl nx hn1),((trm HBW2.out hbV).cell (p:=⟨e4,_,none⟩) hew).trans p0,((trm HBW2.out hbV).cell (p:=⟨e4,_,none⟩) hew).trans p1,((trm HBW2.out hbV).cell (p:=⟨e4,_,none⟩) hew).trans p2,((trm HBW2.out hbV).cell (p:=⟨e4,_,none⟩) hew).trans p3,((trm HBW2.out hbV).cell (p:=⟨e4,_,none⟩) hew).trans p4,((trm HBW2.out hbV).cell (p:=⟨e4,_,none⟩) hew).trans p5,((trm HBW2.out hbV).cell (p:=⟨e4,_,none⟩) hew).trans p6,((trm HBW2.out hbV).cell (p:=⟨e4,_,none⟩) hew).trans p7,((trm HBW2.out hbV).cell (p:=⟨e4,_,none⟩) hew).trans p8,((trm HBW2.out hbV).cell (p:=⟨e4,_,none⟩) hew).trans p9,((trm HBW2.out hbV).cell (p:=⟨e4,_,none⟩) hew).trans p10,((trm HBW2.out hbV).cell (p:=⟨e4,_,none⟩) hew).trans p11⟩ (fun hHeld=> ?_)
            clear hK K
            try simp only [Act.put,q1,q2,q3]
            refine yfb (rs:= [13]) (by kernel_rfl) (by simp) ?_
            refine AllReadyZ.last rfl (fun K hK=> ?_)
            obtain⟨k0,k1,k2,k3,k4,k5,k6,k7,k8,k9,k10,k11⟩:=zpj HKX.out
            have kf:=HKX.out.free
            obtain⟨wf,hwf⟩:∃X,putQ V Xb (.int .i64 Q.e.t) (.int .i64 Q.e.s) (.int .i64 Q.e.q) (.int .i64 Q.e.d) (.int .i64 Q.e.k) (.int .i64 Q.e.v) (.int .i64 Q.e.g) (.slice a7 Q.b.r.length c7) (.int .i64 Q.b.q) (.int .i64 Q.b.d) (.slice a10 Q.s.length c10) (.slice a11 Q.x.length c11)=X:=⟨_,rfl⟩
            have ht:Turns (fun j=>j=Xb) V wf:=hwf▸zlp _ _ _ _ _ _ _ _ _ _ _ _ _ _
            have HXF:Hid (Bk wf Xb 172 #[.int .i64 Q.e.t,.int .i64 Q.e.s,.int .i64 Q.e.q,.int .i64 Q.e.d,.int .i64 Q.e.k,.int .i64 Q.e.v,.int .i64 Q.e.g,.slice a7 Q.b.r.length c7,.int .i64 Q.b.q,.int .i64 Q.b.d,.slice a10 Q.s.length c10,.slice a11 Q.x.length c11]):=hwf▸HKX.out.putQ _ _ _ _ _ _ _ _ _ _ _ _
            have HBF:=yw7 (HBV.out.trans (ht.to_below (fun j hj=>by have:=HXW.out;omega) HBV.out.size))
            unfold putQ at hwf
            have HWF:Hid _:=hwf
            clear hwf ht HKX HBV
            go_simp
            rw [HWF.out]
            clear HWF k0 k1 k2 k3 k4 k5 k6 k7 k8 k9 k10 k11 kf
            refine hK.out _ _ ?_
            clear hK K
            try simp only [Act.put,q1,q2,q3]
            refine yx2 (by kernel_rfl) ?_ _
            clear hHeld p0 p1 p2 p3 p4 p5 p6 p7 p8 p9 p10 p11 hp4
            have HE3:=yw7 (HE2.out.below HBF.out)
            have HH3:=yw7 (HH2.out.below HBF.out)
            have HR3:=yw7 (HR2.out.below HBF.out)
            have HN3:=yw7 (HN2.out.below HBF.out)
            have HC3:=yw7 (owB HC2.out HBF.out)
            have HX3:=yw7 (owB HX2.out HBF.out)
            have HBL3:=trh HBL2 HBF.out
            have HBW3:=trh HBW2 HBF.out
            have HG1:Hid (gf=true→gvtE k=some ge):=fun h=>by rw [←HGE.out,if_pos h]
            have HG0:Hid (gf=false→gvtE k=none):=fun h=>by rw [←HGE.out,h];rfl
            have HAH:Hid (hdE (PP k) nx (ywt (PP k) nx k.p.length).toNat=Q.e):=by
              show _=_
              rw [HBN.out,Int.toNat_natCast,←HQ.out]
              rfl
            clear HE2 HH2 HR2 HN2 HC2 HX2 HBL2 HP2 HBW2 HGE HB2
            go_upto_region 13 with fail
            go_cut [107]from 31 to 128 (fun s107 wc=>∃b9:Bool,s107= .bool b9∧Below wf.heap.size wf wc∧(b9=false→yzm (gvtE k) (hdE (PP k) nx (ywt (PP k) nx k.p.length).toNat)=true)∧(b9=true→ ¬yzm (gvtE k) (hdE (PP k) nx (ywt (PP k) nx k.p.length).toNat)=true))
            case first=>
              cases gf with
              |false=>
                have HGV:Hid (gvtE k=none):=HG0.out rfl
                go_wp2
                go_meet
                case rel=>exact⟨false,rfl,Below.refl _ _,fun _=>by rw [HGV.out];rfl,fun h=>by cases h⟩
              |true=>
                have HGV:Hid (gvtE k=some ge):=HG1.out rfl
                generalize hzc:Q.e.cmp ge=zc
                have HZ:Hid (Q.e.cmp ge=zc):=hzc
                clear hzc
                have p0:=HXF.out.cell (i:=0) rfl
                have y0:=HE3.out.cell (i:=0) rfl
                have p1:=HXF.out.cell (i:=1) rfl
                have y1:=HE3.out.cell (i:=1) rfl
                have p2:=HXF.out.cell (i:=2) rfl
                have y2:=HE3.out.cell (i:=2) rfl
                have p3:=HXF.out.cell (i:=3) rfl
                have y3:=HE3.out.cell (i:=3) rfl
                have p4:=HXF.out.cell (i:=4) rfl
                have y4:=HE3.out.cell (i:=4) rfl
                have p5:=HXF.out.cell (i:=5) rfl
                have y5:=HE3.out.cell (i:=5) rfl
                have p6:=HXF.out.cell (i:=6) rfl
                have y6:=HE3.out.cell (i:=6) rfl
                go_wp2_with fail
                clear p0 y0 p1 y1 p2 y2 p3 y3 p4 y4 p5 y5 p6 y6
                refine(yxa Q.e ge zc HZ.out _).mono ?_
                rintro e w9 ⟨rfl,hb9⟩
                by_cases hc:zc<0
                · have hdc:decide (0≤zc)=false:=by simp;omega
                  have hdc2:¬(0≤zc):=by omega
                  go_wp2
                  go_meet
                  case rel=>
                    refine⟨false,rfl,hb9,fun _=> ?_,fun h=>by cases h⟩
                    rw [HGV.out,HAH.out]
                    simp only [yzm,decide_eq_true_eq]
                    rw [HZ.out]
                    exact hc
                · have hdc:decide (0≤zc)=true:=by simp;omega
                  have hdc2:0≤zc:=by omega
                  go_wp2
                  go_meet
                  case rel=>
                    refine⟨true,rfl,hb9,(fun h=>by cases h),fun _=> ?_⟩
                    rw [HGV.out,HAH.out]
                    simp only [yzm,decide_eq_true_eq]
                    rw [HZ.out]
                    exact fun h9=>by omega
            case rest=>
              obtain⟨b9,rfl,hb9,h9f,h9t⟩:=hcut
              obtain⟨w9,rfl⟩:∃w9,w9=wc:=⟨wc,rfl⟩
              have HHc:=yw7 (HH3.out.below hb9)
              have HCc:=yw7 (owB HC3.out hb9)
              have HXc:=yw7 (owB HX3.out hb9)
              have HBLc:=trh HBL3 hb9
              cases b9 with
              |true=>
                have HEND:Hid (comL k=pre):=by
                  show _=_
                  rw [HCM.out,zpc (.inr (h9t rfl)),List.append_nil]
                have HR9:=yw7 (HR3.out.below hb9)
                clear h9f h9t
                obtain⟨y0,y1,y2,y3⟩:=c4_4 HHc.out
                obtain⟨r0,r1,r2,r3⟩:=c4_4 HR9.out
                have rf:=HR9.out.free
                go_wp2
                clear y0 y1 y2 y3 r0 r1 r2 r3 rf
                obtain⟨X,hX⟩:∃X,putH w9 Rb (.slice ay1 EL.length cy1) (.slice ax1 TL.length cx1) (.int .i64 k.q) (.bool k.f)=X:=⟨_,rfl⟩
                have ht:=za6 w9 Rb (.slice ay1 EL.length cy1) (.slice ax1 TL.length cx1) (.int .i64 k.q) (.bool k.f)
                have hk:=HR9.out.putH (.slice ay1 EL.length cy1) (.slice ax1 TL.length cx1) (.int .i64 k.q) (.bool k.f)
                rw [hX]at ht hk
                unfold putH at hX
                rw [hX]
                obtain⟨t0,t1,t2,t3⟩:=c4_4 hk
                refine bodyPost_ret (v:= .agg #[.slice ay1 EL.length cy1,.slice ax1 TL.length cx1,.int .i64 k.q,.bool k.f]) (by simp [results,Tryz.results108,go_sem,t0,t1,t2,t3]) rfl ?_
                rw [HEND.out]
                try rw [←List.length_append]
                rw [HEL.out,HTL.out]
                exact⟨ay1,cy1,ax1,cx1,rfl,yw0 (owN HCc.out ht HR9.out) HB0.out.size,yw0 (owN HXc.out ht HR9.out) HB0.out.size,(trm HB0.out HBLc.out).trans (ht.to_below (fun b e=>by omega) (Nat.le_trans HB0.out.size HBLc.out.size))⟩
              |false=>
                have HGO9:=yw7 (h9f rfl)
                have HNc:=yw7 (HN3.out.below hb9)
                have HFc:=yw7 (HXF.out.below hb9)
                have HEc:=yw7 (HE3.out.below hb9)
                clear h9f h9t hb9
                go_upto_region 15 with fail
                refine yx1 8 (fun W=>W.cell? ⟨Hb,0,none⟩=some (.slice ay1 EL.length cy1)∧W.cell? ⟨Xb,0,none⟩=some (.int .i64 Q.e.t)∧W.cell? ⟨Xb,1,none⟩=some (.int .i64 Q.e.s)∧W.cell? ⟨Xb,2,none⟩=some (.int .i64 Q.e.q)∧W.cell? ⟨Xb,3,none⟩=some (.int .i64 Q.e.d)∧W.cell? ⟨Xb,4,none⟩=some (.int .i64 Q.e.k)∧W.cell? ⟨Xb,5,none⟩=some (.int .i64 Q.e.v)∧W.cell? ⟨Xb,6,none⟩=some (.int .i64 Q.e.g)) (by kernel_rfl) ⟨HHc.out.drew.cell (i:=0) rfl,HFc.out.drew.cell (i:=0) rfl,HFc.out.drew.cell (i:=1) rfl,HFc.out.drew.cell (i:=2) rfl,HFc.out.drew.cell (i:=3) rfl,HFc.out.drew.cell (i:=4) rfl,HFc.out.drew.cell (i:=5) rfl,HFc.out.drew.cell (i:=6) rfl⟩ (fun hHeld=> ?_)
                obtain⟨wd,hwd⟩:∃wd,w9.drew=wd:=⟨_,rfl⟩
                have hbd:Below w9.heap.size w9 wd:=hwd▸(Below.refl _ w9).drew
                rw [hwd]at hHeld
                rw [hwd]
                clear hwd
                refine yzz 0 {dst:=some 109,op:=Op.fieldAddr 86 (Operand.tmp 3) 0,type:=0,pos:=_,after:=_,guard:=none} (.pointer (some ⟨Hb,0,none⟩)) ?_
                try simp only [Act.put,q1,q2,q3]
                refine yzz 1 {dst:=some 110,op:=Op.load 34 (Operand.tmp 109),type:=34,pos:=_,after:=_,guard:=none} (.slice ay1 EL.length cy1) ?_
                try simp only [Act.put,q1,q2,q3]
                refine yzz 2 {dst:=some 111,op:=Op.fieldAddr 172 (Operand.tmp 9) 0,type:=0,pos:=_,after:=_,guard:=none} (.pointer (some ⟨Xb,0,none⟩)) ?_
                try simp only [Act.put,q1,q2,q3]
                refine yzz 3 {dst:=some 112,op:=Op.load 90 (Operand.tmp 111),type:=90,pos:=_,after:=_,guard:=none} (.agg #[.int .i64 Q.e.t,.int .i64 Q.e.s,.int .i64 Q.e.q,.int .i64 Q.e.d,.int .i64 Q.e.k,.int .i64 Q.e.v,.int .i64 Q.e.g]) ?_
                try simp only [Act.put,q1,q2,q3]
                refine yfb (rs:= [4]) (by kernel_rfl) (by simp) ?_
                refine AllReadyZ.cons rfl (fun K hK=> ?_) AllReadyZ.nil
                go_simp
                go_at_call 180
                refine(bare_any Q.e _).mono ?_
                rintro r v1 ⟨rfl,hb1⟩
                have hb1':Below w9.heap.size w9 v1:=trm hbd hb1
                have HH4:=yw7 (HHc.out.below hb1')
                have HF4:=yw7 (HFc.out.below hb1')
                have HB4:Hid _:=hb1'
                clear hb1 hb1' hbd
                try go_simp
                refine hK.out _ _ ⟨HH4.out.cell (i:=0) rfl,HF4.out.cell (i:=0) rfl,HF4.out.cell (i:=1) rfl,HF4.out.cell (i:=2) rfl,HF4.out.cell (i:=3) rfl,HF4.out.cell (i:=4) rfl,HF4.out.cell (i:=5) rfl,HF4.out.cell (i:=6) rfl⟩ (fun hHeld=> ?_)
                clear hK K
                try simp only [Act.put,q1,q2,q3]
                refine yfb (rs:= [5]) (by kernel_rfl) (by simp) ?_
                refine AllReadyZ.cons rfl (fun K hK=> ?_) AllReadyZ.nil
                obtain⟨g1,v2,HX1,HV,hb,hk⟩:=zcg v1 #[.int .i64 Q.e.t,.int .i64 Q.e.s,.int .i64 Q.e.q,.int .i64 Q.e.d,.int .i64 Q.e.k,.int .i64 Q.e.v,.int .i64 0] 90
                have hb2':Below w9.heap.size w9 v2:=trm HB4.out hb
                have HH5:=yw7 (HHc.out.below hb2')
                have HF5:=yw7 (HFc.out.below hb2')
                have HK5:=yw7 hk
                have HC5:=yw7 (owB HCc.out hb2')
                have HB5:Hid _:=hb2'
                clear hb hk hb2'
                go_simp
                rw [HV.out,←HX1.out]
                clear HV HX1
                refine hK.out _ _ ⟨HH5.out.cell (i:=0) rfl,HF5.out.cell (i:=0) rfl,HF5.out.cell (i:=1) rfl,HF5.out.cell (i:=2) rfl,HF5.out.cell (i:=3) rfl,HF5.out.cell (i:=4) rfl,HF5.out.cell (i:=5) rfl,HF5.out.cell (i:=6) rfl⟩ (fun hHeld=> ?_)
                clear hK K
                try simp only [Act.put,q1,q2,q3]
                refine yfb (rs:= [6]) (by kernel_rfl) (by simp) ?_
                refine AllReadyZ.cons rfl (fun K hK=> ?_) AllReadyZ.nil
                obtain⟨i0,hi,hi0,hi1,hi2⟩:=info_parts info25
                refine ywl (w:=v2) rfl (.tmp 110) (.tmp 114) 34 rfl W0.heap.size 90 i0 _ 7 56 Tryz.underlying34 hi hi0 hi1 hi2 rfl (by decide) (.slice ay1 EL.length cy1) EL.length (yvz EL) rfl HC5.out (.slice (some ⟨g1,0,none⟩) 1 1) 1 (zgz Q.e).cs rfl (zk7 HK5.out) (zi9 _) (by unfold maxLen;have h9:=HELL.out;omega) (by have h9:=HELL.out;omega) (Nat.le_trans HBLc.out.size HB5.out.size) ?_
                intro v' v3 hown hgrow hnew
                obtain⟨ay2,cy2,rfl⟩:=yfm hown
                have hgt:=yw9 hgrow
                obtain⟨EL2,hEL2⟩:∃L,EL++ [zgz Q.e]=L:=⟨_,rfl⟩
                have HEL2:=yw7 hEL2
                have HC6:Hid (v3.ownsRow W0.heap.size 90 7 (.slice ay2 EL2.length cy2) EL2.length (yvz EL2)):=by(rw [←hEL2,List.length_append];exact(yyk EL [zgz Q.e])▸hown)
                have hnl:EL.length+1=EL2.length:=by(rw [←hEL2];simp)
                rw [hnl]
                clear hEL2
                have HB6:=yw7 ((trm HBLc.out HB5.out).grown hgrow (Nat.le_trans HBLc.out.size HB5.out.size) (fun q e=>yx4 HC5.out e))
                have HH6:=yw7 (HH5.out.turns hgt (ywp HC5.out HH5.out (by decide)))
                have HF6:=yw7 (HF5.out.turns hgt (ywp HC5.out HF5.out (by decide)))
                have HX6:=yw7 (ypa (owB HXc.out HB5.out) hgt (fun j hj e=>zdh HC5.out (owB HXc.out HB5.out) (by decide) e hj))
                have HN6:=yw7 ((HNc.out.below HB5.out).turns hgt (ywp HC5.out (HNc.out.below HB5.out) (by decide)))
                have HE6:=yw7 ((HEc.out.below HB5.out).turns hgt (fun e=>HNEc.out e))
                rw [hnl]at hnew
                have hHB5:=HB5.out
                have HNE6:Hid (¬(.slice ay2 EL2.length cy2:Value).ownBlock=some Eb):=fun e=>hnew.elim (fun h9=>HNEc.out (h9.symm.trans e)) (fun h9=>by have h8:=h9 _ e;have h7:=HEc.out.lt;have h6:=hHB5.size;omega)
                clear hHB5
                clear hown hgrow hnew hgt HC5 HH5 HF5 HK5 HB5 HB4 HH4 HF4 hi hi0 hi1 hi2 hnl
                refine hK.out _ _ ⟨HH6.out.cell (i:=0) rfl,HF6.out.cell (i:=0) rfl,HF6.out.cell (i:=1) rfl,HF6.out.cell (i:=2) rfl,HF6.out.cell (i:=3) rfl,HF6.out.cell (i:=4) rfl,HF6.out.cell (i:=5) rfl,HF6.out.cell (i:=6) rfl⟩ (fun hHeld=> ?_)
                clear hK K
                try simp only [Act.put,q1,q2,q3]
                refine yzz 7 {dst:=some 116,op:=Op.fieldAddr 86 (Operand.tmp 3) 0,type:=0,pos:=_,after:=_,guard:=none} (.pointer (some ⟨Hb,0,none⟩)) ?_
                try simp only [Act.put,q1,q2,q3]
                refine yfb (rs:= [8]) (by kernel_rfl) (by simp) ?_
                refine AllReadyZ.last rfl (fun K hK=> ?_)
                have k0:=HH6.out.cell (i:=0) rfl
                have kf:=HH6.out.free
                obtain⟨wg,hwg⟩:∃X,v3.setCell ⟨Hb,0,none⟩ (.slice ay2 EL2.length cy2)=X:=⟨_,rfl⟩
                have ht:Turns (fun j=>j=Hb) v3 wg:=hwg▸yag _ _ 0 _
                have HH7:Hid (Bk wg Hb 86 #[.slice ay2 EL2.length cy2,.slice ax1 TL.length cx1,.int .i64 k.q,.bool k.f]):=hwg▸HH6.out.put 0 _
                have HT7:=yw7 ht
                have HWG:Hid _:=hwg
                clear hwg ht
                go_simp
                rw [HWG.out]
                clear HWG k0 kf
                refine hK.out _ _ ?_
                clear hK K
                try simp only [Act.put,q1,q2,q3]
                refine yx2 (by kernel_rfl) ?_ _
                clear hHeld HHc HCc HXc HNc HFc HEc HBLc
                obtain⟨f',hf',hcr,hup,hlf⟩:=com_step (kn_asc HOK.out) (zkg k) HN.out HF.out (by have h:=HNZ.out;omega) HGO9.out
                rw [HBN.out,Int.toNat_natCast]at hcr hup hlf
                have hqq:psAt (PP k bn) (nx bn)=Q:=HQ.out
                rw [hqq]at hcr
                have HST:Hid (comL k=(pre++ [Q])++comR (PP k) k.p.length (gvtE k) (upN nx bn) f'):=by
                  show _=_
                  rw [HCM.out,hcr,List.append_assoc,List.singleton_append]
                have HUP:=yw7 hup
                have HLF:=yw7 hlf
                clear hf' hcr hup hlf hqq
                have HCg:Hid (wg.ownsRow W0.heap.size 90 7 (.slice ay2 EL2.length cy2) EL2.length (yvz EL2)):=owN HC6.out HT7.out HH6.out
                have HXg:Hid (wg.ownsRow W0.heap.size 166 3 (.slice ax1 TL.length cx1) TL.length (ywm TL)):=owN HX6.out HT7.out HH6.out
                have HNg:=yw7 (HN6.out.turns HT7.out (fun e=>zgx HN6.out HH6.out (by decide) e))
                have HEg:=yw7 (HE6.out.turns HT7.out (fun e=>zgx HE6.out HH6.out (by decide) e))
                have HFg:=yw7 (HF6.out.turns HT7.out (fun e=>zgx HF6.out HH6.out (by decide) e))
                have HBg:=yw7 (HB6.out.trans (HT7.out.to_below (fun j hj=>by omega) HB6.out.size))
                have HS11:=yw7 (HX11.out.srcX.below (trm HB0.out HBg.out))
                clear HC6 HX6 HN6 HE6 HF6 HB6 HH6 HT7
                have HQX:Hid (Q.x.length≤8):=zjn HOK.out (by rw [HST.out];simp)
                obtain⟨ip,hip,hip0,hip1,hip2⟩:=info_parts zfp
                have k1:=HH7.out.cell (i:=1) rfl
                have x11:=HFg.out.cell (i:=11) rfl
                go_upto_region 17 with (at_builtin;refine ywg _ rfl _ _ 39 rfl W0.heap.size 166 ip _ 3 24 Tryz.underlying39 hip hip0 hip1 hip2 rfl (by decide) (.slice ax1 TL.length cx1) TL.length (ywm TL) rfl HXg.out (.slice a11 Q.x.length c11) Q.x.length (ywm Q.x) rfl HS11.out (yyz Q.x) (by unfold maxLen;have h9:=HTLL.out;have h8:=HQX.out;omega) (by have h9:=HTLL.out;have h8:=HQX.out;omega) HBg.out.size ?_;rintro v4 w16 hown hgrow-;obtain⟨ax2,cx2,rfl⟩:=yfm hown;obtain⟨TL2,hTL2⟩:∃L,TL++Q.x=L:=⟨_,rfl⟩;have HTL2:=hdq hTL2;have hnl:TL.length+Q.x.length=TL2.length:=(by rw [←hTL2,List.length_append]);rw [hnl];have HOW:Hid (w16.ownsRow W0.heap.size 166 3 (.slice ax2 TL2.length cx2) TL2.length (ywm TL2)):=(by rw [←hTL2,List.length_append,zb6];exact hown);have hgt:=yw9 hgrow;have HH16:=hdq (HH7.out.turns hgt (ywp HXg.out HH7.out (by decide)));have HN16:=hdq (HNg.out.turns hgt (ywp HXg.out HNg.out (by decide)));have HE16:=hdq (HEg.out.turns hgt (ywp HXg.out HEg.out (by decide)));have HC16:Hid (w16.ownsRow W0.heap.size 90 7 (.slice ay2 EL2.length cy2) EL2.length (yvz EL2)):=ypa HCg.out hgt (fun j hj e=>zdh HXg.out HCg.out (by decide) e hj);have HB16:Hid (Below W0.heap.size W0 w16):=HBg.out.grown hgrow HBg.out.size (fun q e=>yx4 HXg.out e);clear hown hgrow hgt hTL2 hnl k1 x11 HH7 HNg HEg HCg HBg HXg HFg HS11 hip hip0 hip1 hip2;have k1:=HH16.out.cell (i:=1) rfl;have kf:=HH16.out.free)
                obtain⟨w17,hw17⟩:∃X,w16.setCell ⟨Hb,1,none⟩ (.slice ax2 TL2.length cx2)=X:=⟨_,rfl⟩
                have HT17:Hid (Turns (fun j=>j=Hb) w16 w17):=hw17▸yag _ _ 1 _
                have HH17:Hid (Bk w17 Hb 86 #[.slice ay2 EL2.length cy2,.slice ax2 TL2.length cx2,.int .i64 k.q,.bool k.f]):=hw17▸HH16.out.put 1 _
                have HN17:=yw7 (HN16.out.turns HT17.out (fun e=>zgx HN16.out HH16.out (by decide) e))
                have HE17:=yw7 (HE16.out.turns HT17.out (fun e=>zgx HE16.out HH16.out (by decide) e))
                have HC17:Hid (w17.ownsRow W0.heap.size 90 7 (.slice ay2 EL2.length cy2) EL2.length (yvz EL2)):=owN HC16.out HT17.out HH16.out
                have HX17:Hid (w17.ownsRow W0.heap.size 166 3 (.slice ax2 TL2.length cx2) TL2.length (ywm TL2)):=owN HOW.out HT17.out HH16.out
                have HB17:=yw7 (HB16.out.trans (HT17.out.to_below (fun j hj=>by omega) HB16.out.size))
                rw [hw17]
                clear hw17 k1 kf HH16 HN16 HE16 HC16 HOW HB16 HT17
                have n0:=HN17.out.cell (i:=bn) (zfl nx hn1)
                have nf:=HN17.out.free
                have hnb:nx bn≤200:=by
                  have h1:=(zeo (zby HOK.out bn hn1)).1
                  omega
                go_wp2
                obtain⟨w18,hw18⟩:∃X,w17.setCell ⟨Nb,bn,none⟩ (.int .i64 ((nx bn:Nat)+1:Int))=X:=⟨_,rfl⟩
                have HT18:Hid (Turns (fun j=>j=Nb) w17 w18):=hw18▸yag _ _ bn _
                have HN18:Hid (Bk w18 Nb 3 (nxA k.p.length (upN nx bn))):=by
                  have h1:=HN17.out.put bn (.int .i64 ((nx bn:Nat)+1:Int))
                  rw [nxA_up hn1,hw18]at h1
                  exact h1
                have HH18:=yw7 (HH17.out.turns HT18.out (fun e=>zgx HH17.out HN17.out (by decide) e))
                have HE18:=yw7 (HE17.out.turns HT18.out (fun e=>zgx HE17.out HN17.out (by decide) e))
                have HC18:Hid (w18.ownsRow W0.heap.size 90 7 (.slice ay2 EL2.length cy2) EL2.length (yvz EL2)):=owN HC17.out HT18.out HN17.out
                have HX18:Hid (w18.ownsRow W0.heap.size 166 3 (.slice ax2 TL2.length cx2) TL2.length (ywm TL2)):=owN HX17.out HT18.out HN17.out
                have HB18:=yw7 (HB17.out.trans (HT18.out.to_below (fun j hj=>by omega) HB17.out.size))
                rw [hw18]
                clear hw18 n0 nf HH17 HN17 HE17 HC17 HX17 HB17 HT18
                go_roundw
                case rel=>exact⟨upN nx bn,f',pre++ [Q],⟨HN18.out,HE18.out,⟨ay2,cy2,ax2,cx2,by rw [zbs,HEL.out,HEL2.out,zcq,HTL.out,HTL2.out];exact HH18.out,by rw [zbs,HEL.out,HEL2.out];exact HC18.out,by rw [zcq,HTL.out,HTL2.out];exact HX18.out,by rw [zbs,HEL.out,HEL2.out];exact HNE6.out⟩,HB18.out⟩,HUP,HLF,HST⟩
                case measure=>
                  rw [nxM_bk HN18.out,nxM_bk HI.out.nxs,zip hn1]
                  have h1:=zk5 HUP.out
                  rw [zip hn1]at h1
                  omega
end Go.Proofs.YtghndljgadpijaaGreat
