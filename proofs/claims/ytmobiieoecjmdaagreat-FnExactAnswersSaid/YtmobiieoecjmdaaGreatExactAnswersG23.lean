/- MBy, MByI, MAskI, MByP, VOf, VQuiet, VMeet, VSpec, PApp, WPu -/
import Derived.Test.YtmobiieoecjmdaaGreatExactAnswersG22
import Derived.Test.YtmobiieoecjmdaaGreatExactAnswersLKSg
import Derived.Laws.IdiomStrings
namespace Go.Proofs.YtmobiieoecjmdaaGreat
set_option maxHeartbeats 1000000
set_option maxRecDepth 100000
open Go.RowKit
def byteOf (z:Int):UInt8:=UInt8.ofNat (z%256).toNat
theorem yky (z:Int):((byteOf z).toNat:Int)=z%256:=by
 unfold byteOf
 have h1:0≤z%256:=Int.emod_nonneg _ (by omega)
 have h2:z%256<256:=Int.emod_lt_of_pos _ (by omega)
 rw [UInt8.toNat_ofNat']
 omega
def twoB (z:Int):List UInt8:= [byteOf (z/256),byteOf z]
def RowBy (B:Nat) (w:World) (x:Value) (l:List UInt8):Prop:=w.ownsRow B 5 1 x l.length (By.intCells l)
theorem ykd (l l':List UInt8):By.intCells (l++l')=By.intCells l++By.intCells l':=by simp [By.intCells]
theorem RowBy.own {B:Nat} {w:World} {x:Value} {l:List UInt8} (h:RowBy B w x l):By.OwnI B w x l:=By.OwnI.of_row h
theorem RowBy.mono {B B':Nat} {w:World} {x:Value} {l:List UInt8} (h:RowBy B w x l) (hB:B'≤B):RowBy B' w x l:=by
 obtain⟨h0,h1|⟨g,cap,cur,e,hg,h1⟩⟩:=h
 ·exact⟨h0,.inl h1⟩
 ·exact⟨h0,.inr ⟨g,cap,cur,e,Nat.le_trans hB hg,h1⟩⟩
theorem RowBy.below {B:Nat} {w w':World} {x:Value} {l:List UInt8} (h:RowBy B w x l) (hb:Below w.heap.size w w'):RowBy B w' x l:=by
 obtain⟨h0,h1|⟨g,cap,cur,e,hg,hc,h1⟩⟩:=h
 ·exact⟨h0,.inl h1⟩
 ·exact⟨h0,.inr ⟨g,cap,cur,e,hg,(hb.block g (Array.getElem?_eq_some_iff.1 hc).1).trans hc,h1⟩⟩
theorem RowBy.ne {B:Nat} {w:World} {x:Value} {l:List UInt8} (h:RowBy B w x l) {P:Nat} {T:TypeId} {vs:Array Value} (hb:Bk w P T vs) (hT:T≠5):¬x.ownBlock=some P:=by
 intro e
 obtain⟨_,⟨rfl,_⟩|⟨g,cap,cur,rfl,_,hc,_⟩⟩:=h
 ·simp [Value.ownBlock]at e
 ·simp [Value.ownBlock]at e
  subst e
  have hb':w.heap[g]? =some (.cells vs T):=hb
  rw [hb']at hc
  simp at hc
  exact hT hc.2
theorem yig (w:World) (a b:Value):∀j u,[a,b][j]? =some u→(w.alloc (.cells #[a,b] 5)).cell? ((⟨w.heap.size,0,none⟩:Addr).add j)=some u:=by
 intro j u hu
 match j,hu with
 |0,hu=>simp at hu;subst hu;simp [Addr.add]
 |1,hu=>simp at hu;subst hu;simp [Addr.add]
 |(j+2),hu=>simp at hu
theorem ym6 (w:World) (a:Value):∀j u,[a][j]? =some u→(w.alloc (.cells #[a] 5)).cell? ((⟨w.heap.size,0,none⟩:Addr).add j)=some u:=by
 intro j u hu
 match j,hu with
 |0,hu=>simp at hu;subst hu;simp [Addr.add]
 |(j+1),hu=>simp at hu
theorem RowBy.grow {B:Nat} {w:World} {v:Value} {l r:List UInt8} {n:Nat} {cs:List Value} (h:w.ownsRow B 5 1 v (l.length+n) (By.intCells l++cs)) (hcs:By.intCells r=cs) (hn:r.length=n):RowBy B w v (l++r):=by
 subst hcs hn
 unfold RowBy
 rw [List.length_append,ykd]
 exact h
theorem cells_one (z:Int):By.intCells [byteOf z]= [.int .u8 (z%256)]:=by simp [By.intCells,yky]
theorem yd8 {z:Int} (h0:0≤z) (h1:z≤255):By.intCells [byteOf z]= [.int .u8 z]:=by rw [cells_one,show z%256=z by omega]
theorem ykx {z y:Int} (h0:0≤z) (h1:z≤255) (h2:0≤y) (h3:y≤255):By.intCells [byteOf z,byteOf y]= [.int .u8 z,.int .u8 y]:=by
 have e:By.intCells [byteOf z,byteOf y]=By.intCells [byteOf z]++By.intCells [byteOf y]:=rfl
 rw [e,yd8 h0 h1,yd8 h2 h3]
 rfl
theorem ynv (z:Int):By.intCells (twoB z)= [.int .u8 (z/256%256),.int .u8 (z%256)]:=by simp [By.intCells,twoB,yky]
theorem ysi {z:Int} (h0:0≤z) (h1:z≤65535):By.intCells (twoB z)= [.int .u8 (z/256),.int .u8 (z%256)]:=by rw [ynv,show z/256%256=z/256 by omega]
theorem ye4 (B:Nat) (x:Value) (l:List UInt8) (z:Int) (w:World) (hB:B≤w.heap.size) (hl:l.length≤1000000) (h:RowBy B w x l):
  Calls Tryz.prog 137 #[x,.int .i64 z] w fun e w'=>∃y,e= .returned y∧RowBy B w' y (l++twoB z)∧Turns (fun k=>x.ownBlock=some k) w w':=by
 obtain⟨i0,hi,hz0,hz1,hz2⟩:=info_parts By.info5
 have HR:Hid (RowBy B w x l):=h
 clear h
 go_enter Tryz.func137,Tryz.ntmps137
 go_wp2_with (at_builtin;refine wpList_append_own _ rfl _ _ 127 rfl B 5 i0 (.int .u8 0) 1 1 Tryz.underlying127 hi hz0 hz1 hz2 rfl (by decide) x _ _ rfl (World.ownsRow.alloc HR.out _) ⟨w.heap.size,0,none⟩ 2 2 [.int .u8 (z/256%256),.int .u8 (z%256)] rfl rfl (yig _ _ _) (fun u hu=>by simp at hu;first|(subst hu;rfl)|(rcases hu with rfl|rfl<;>rfl)) (by unfold maxLen;omega) (by omega) (by simp;omega) ?_;intro v' w2 hown hgrow hnil)
 go_ret
 exact⟨_,rfl,RowBy.grow hown (ynv z) rfl,((Turns.refl _ w).alloc _).trans (yan hgrow)⟩
theorem ygk (B:Nat) (x:Value) (l:List UInt8) (z:Int) (w:World) (hB:B≤w.heap.size) (hl:l.length≤1000000) (hz:0≤z) (hz9:z≤65535) (h:RowBy B w x l):
  Calls Tryz.prog 181 #[x,.int .i64 z] w fun e w'=>∃y,e= .returned y∧RowBy B w' y (l++twoB z)∧Turns (fun k=>x.ownBlock=some k) w w':=by
 obtain⟨i0,hi,hz0,hz1,hz2⟩:=info_parts By.info5
 have HR:Hid (RowBy B w x l):=h
 have HZ:Hid (0≤z∧z≤65535):=⟨hz,hz9⟩
 clear h
 go_enter Tryz.func181,Tryz.ntmps181
 go_wp2_with (at_builtin;refine wpList_append_own _ rfl _ _ 127 rfl B 5 i0 (.int .u8 0) 1 1 Tryz.underlying127 hi hz0 hz1 hz2 rfl (by decide) x _ _ rfl (World.ownsRow.alloc HR.out _) ⟨w.heap.size,0,none⟩ 2 2 [.int .u8 (z/256),.int .u8 (z%256)] rfl rfl (yig _ _ _) (fun u hu=>by simp at hu;first|(subst hu;rfl)|(rcases hu with rfl|rfl<;>rfl)) (by unfold maxLen;omega) (by omega) (by simp;omega) ?_;intro v' w2 hown hgrow hnil)
 go_ret
 exact⟨_,rfl,RowBy.grow hown (ysi HZ.out.1 HZ.out.2) rfl,((Turns.refl _ w).alloc _).trans (yan hgrow)⟩
set_option maxHeartbeats 4000000
set_option maxRecDepth 100000
open Go.RowKit
theorem yev {p:Prop} (h:p):Hid p:=h
def opB (o:O):List UInt8:= [byteOf o.c,byteOf o.a]++twoB o.b++ [byteOf o.k]
def opsB (r:List O):Nat→List UInt8
 |0=> []
 |k+1=>opsB r k++opB (oAt r k)
def ymr (r:List O):List UInt8:= [byteOf (r.length:Int)]++opsB r r.length
def evB (e:Ev):List UInt8:=twoB e.t++ [byteOf e.d,byteOf e.k]++twoB e.v
theorem yrq (o:O):(opB o).length=5:=rfl
theorem yfg (r:List O):∀k,(opsB r k).length=5*k
 |0=>rfl
 |k+1=>by simp [opsB,yfg r k,yrq];omega
theorem ysd (e:Ev):(evB e).length=6:=rfl
theorem ydm (z:Int):(twoB z).length=2:=rfl
def yt8 (o:O):Prop:=0≤o.c∧o.c≤255∧0≤o.a∧o.a≤255∧0≤o.b∧o.b≤65535∧0≤o.k∧o.k≤255
theorem yoy (B:Nat) (x u:Value) (l:List UInt8) (r:List O) (w:World) (hB:B≤w.heap.size) (hl:l.length≤10000) (hr:r.length≤255) (hsm:∀q,q<r.length→yt8 (oAt r q)) (h:RowBy B w x l) (hu:∃a cap,u= .slice a r.length cap∧(r= []∨ ∃b off,a=some ⟨b,off,none⟩∧b<B∧OsAt w b off r)):
  Calls Tryz.prog 182 #[x,u] w fun e w'=>∃y,e= .returned y∧RowBy B w' y (l++ymr r)∧Below B w w':=by
 obtain⟨i0,hi,hz0,hz1,hz2⟩:=info_parts By.info5
 obtain⟨a1,c1,rfl,hu⟩:=hu
 have HR:Hid (RowBy B w x l):=h
 have HU:=yev hu
 have HSM:=yev hsm
 have hr0:(0:Int)≤(r.length:Int):=by omega
 have hr1:(r.length:Int)≤255:=by omega
 clear h hu hsm
 go_enter Tryz.func182,Tryz.ntmps182
 go_wp2_with (at_builtin;refine wpList_append_own _ rfl _ _ 127 rfl B 5 i0 (.int .u8 0) 1 1 Tryz.underlying127 hi hz0 hz1 hz2 rfl (by decide) x _ _ rfl (World.ownsRow.alloc HR.out _) ⟨w.heap.size,0,none⟩ 1 1 [.int .u8 (r.length:Int)] rfl rfl (ym6 _ _) (fun u hu=>by simp at hu;first|(subst hu;rfl)|(rcases hu with rfl|rfl<;>rfl)) (by unfold maxLen;omega) (by omega) (by simp;omega) ?_;intro v1 w1 hown hgrow hnil)
 have HR1:=yev (RowBy.grow hown (yd8 hr0 hr1) rfl)
 have HB1:Hid (Below B w w1):=((Below.refl B w).alloc hB _).grown hgrow (by simp;omega) (fun j e=>ybf HR.out e)
 clear hown hgrow hnil
 have hll:(l++ [byteOf (r.length:Int)]).length=l.length+1:=by simp
 have HLL:Hid (l++ymr r=(l++ [byteOf (r.length:Int)])++opsB r r.length):=(by simp [ymr]:l++ymr r=(l++ [byteOf (r.length:Int)])++opsB r r.length)
 generalize l++ [byteOf (r.length:Int)]=l1 at HR1 HLL hll
 go_loopw [0,15] (fun o i wr=>∃(q:Nat) (v:Value),q≤r.length∧v=o∧i= .int .i64 q∧RowBy B wr o (l1++opsB r q)∧Below B w wr) (fun _ i _=>r.length-(intOf i).toNat)
 case atStart=>exact⟨0,_,Nat.zero_le _,rfl,rfl,by simpa [opsB] using HR1.out,HB1.out⟩
 case round=>
  clear HR1 HB1
  obtain⟨q,o,hq,rfl,rfl,hR,hBw⟩:=hrel
  have HR1:=yev hR
  have HB1:Hid (Below B w wr):=hBw
  have hs1:B≤wr.heap.size:=Nat.le_trans hB hBw.size
  have hln:(l1++opsB r q).length≤12000:=by rw [List.length_append,yfg];omega
  have HN:Hid (l1++opsB r (q+1)=(l1++opsB r q)++opB (oAt r q)):=(by simp [opsB]:l1++opsB r (q+1)=(l1++opsB r q)++opB (oAt r q))
  generalize hlq:l1++opsB r q=lq at HR1 hln HN
  have HLQ:=yev hlq
  clear hlq
  clear hR
  by_cases hlt:q<r.length
  ·obtain⟨b,off,rfl,hb,hb2,hc⟩:=HU.out.resolve_left (by intro e;rw [e]at hlt;simp at hlt)
   obtain⟨g0,g1,g2,g3⟩:=(hc q hlt).below hBw hb
   obtain⟨s0,s1,s2,s3,s4,s5,s6,s7⟩:=HSM.out q hlt
   generalize oAt r q=e at g0 g1 g2 g3 HN s0 s1 s2 s3 s4 s5 s6 s7
   obtain⟨c,a,b2,k2⟩:=e
   simp only at s0 s1 s2 s3 s4 s5 s6 s7
   have HSS:Hid ((0≤c∧c≤255∧0≤a∧a≤255)∧(0≤b2∧b2≤65535)∧0≤k2∧k2≤255):=⟨⟨s0,s1,s2,s3⟩,⟨s4,s5⟩,s6,s7⟩
   clear hc hBw
   obtain⟨V,hV⟩:∃V,wr.alloc (.cells #[.int .i64 c,.int .i64 a,.int .i64 b2,.int .i64 k2] 182)=V:=⟨_,rfl⟩
   have hsV:B≤V.heap.size:=by rw [←hV];simp;omega
   have HBV:Hid (Below B w V):=hV▸HB1.out.alloc hs1 _
   have HRV:Hid (RowBy B V o lq):=hV▸World.ownsRow.alloc HR1.out _
   have HQV:=hdq (bkA hV)
   have e0:=HQV.out.cell (i:=0) rfl
   have e1:=HQV.out.cell (i:=1) rfl
   clear HB1 HR1
   go_wp2_with (at_builtin;refine wpList_append_own _ rfl _ _ 127 rfl B 5 i0 (.int .u8 0) 1 1 Tryz.underlying127 hi hz0 hz1 hz2 rfl (by decide) o _ _ rfl (World.ownsRow.alloc HRV.out _) ⟨V.heap.size,0,none⟩ 2 2 [.int .u8 c,.int .u8 a] rfl rfl (yig _ _ _) (fun u hu=>by simp at hu;first|(subst hu;rfl)|(rcases hu with rfl|rfl<;>rfl)) (by unfold maxLen;omega) (by omega) (by simp;omega) ?_;intro v2 w2 hown hgrow hnil;have HR2:Hid (RowBy B w2 v2 (lq++ [byteOf c,byteOf a])):=RowBy.grow hown (ykx HSS.out.1.1 HSS.out.1.2.1 HSS.out.1.2.2.1 HSS.out.1.2.2.2) rfl;have HB2:Hid (Below B w w2):=(HBV.out.alloc (by omega) _).grown hgrow (by simp;omega) (fun j e=>ybf HRV.out e);have HQ2:Hid (Bk w2 wr.heap.size 182 #[.int .i64 c,.int .i64 a,.int .i64 b2,.int .i64 k2]):=(HQV.out.alloc _).turns (yan hgrow) (HRV.out.ne HQV.out (by decide));have e2:=HQ2.out.cell (i:=2) rfl;clear hown hgrow hnil)
   have hs2:B≤w2.heap.size:=Nat.le_trans hB HB2.out.size
   clear e0 e1 e2 g0 g1 g2 g3 hV HBV HRV HQV
   refine(ygk B _ _ _ _ hs2 (by rw [List.length_append];simp;omega) HSS.out.2.1.1 HSS.out.2.1.2 HR2.out).mono ?_
   rintro e w3 ⟨v3,rfl,hr3,ht3⟩
   have HR3:=yev hr3
   have HB3:Hid (Below B w w3):=HB2.out.trans (ht3.to_below (fun k e=>ybf HR2.out e) hs2)
   have HQ3:=yev (HQ2.out.turns ht3 (HR2.out.ne HQ2.out (by decide)))
   have e3:=HQ3.out.cell (i:=3) rfl
   have hs3:B≤w3.heap.size:=Nat.le_trans hB HB3.out.size
   have hl3:(lq++ [byteOf c,byteOf a]++twoB b2).length≤12004:=by rw [List.length_append,List.length_append,ydm];simp;omega
   clear hr3 ht3 HR2 HB2 HQ2
   go_wp2_with (at_builtin;refine wpList_append_own _ rfl _ _ 127 rfl B 5 i0 (.int .u8 0) 1 1 Tryz.underlying127 hi hz0 hz1 hz2 rfl (by decide) v3 _ _ rfl (World.ownsRow.alloc HR3.out _) ⟨w3.heap.size,0,none⟩ 1 1 [.int .u8 k2] rfl rfl (ym6 _ _) (fun u hu=>by simp at hu;first|(subst hu;rfl)|(rcases hu with rfl|rfl<;>rfl)) (by unfold maxLen;omega) (by omega) (by simp;omega) ?_;intro v4 w4 hown hgrow hnil)
   go_roundw
   case rel=>
    refine⟨q+1,_,by omega,rfl,by go_num,?_,(HB3.out.alloc hs3 _).grown hgrow (by simp;omega) (fun j e=>ybf HR3.out e)⟩
    have:=RowBy.grow hown (yd8 HSS.out.2.2.1 HSS.out.2.2.2) rfl
    rw [HN.out]
    simpa [opB] using this
   case measure=>simp [intOf];omega
  ·obtain rfl:q=r.length:=by omega
   clear hBw
   go_wp2
   go_ret
   exact⟨_,rfl,by rw [HLL.out,HLQ.out];exact HR1.out,HB1.out⟩
theorem yt2 (B:Nat) (x:Value) (l:List UInt8) (t s1 qq d kk v g:Int) (w:World) (hB:B≤w.heap.size) (hl:l.length≤10000) (ht0:0≤t) (ht1:t≤65535) (hd0:0≤d) (hd1:d≤255) (hk0:0≤kk) (hk1:kk≤255) (hv0:0≤v) (hv1:v≤65535) (h:RowBy B w x l):
  Calls Tryz.prog 183 #[x,.agg #[.int .i64 t,.int .i64 s1,.int .i64 qq,.int .i64 d,.int .i64 kk,.int .i64 v,.int .i64 g]] w fun e w'=>∃y,e= .returned y∧RowBy B w' y (l++evB ⟨t,s1,qq,d,kk,v,g⟩)∧Below B w w':=by
 obtain⟨i0,hi,hz0,hz1,hz2⟩:=info_parts By.info5
 obtain⟨V,hV⟩:∃V,w.alloc (.cells #[.int .i64 t,.int .i64 s1,.int .i64 qq,.int .i64 d,.int .i64 kk,.int .i64 v,.int .i64 g] 110)=V:=⟨_,rfl⟩
 have HBV:Hid (Below B w V):=hV▸(Below.refl B w).alloc hB _
 have HRV:Hid (RowBy B V x l):=hV▸World.ownsRow.alloc h _
 have HQV:=hdq (bkA hV)
 have HT:Hid ((0≤t∧t≤65535)∧(0≤v∧v≤65535)):=⟨⟨ht0,ht1⟩,hv0,hv1⟩
 have hsV:B≤V.heap.size:=Nat.le_trans hB HBV.out.size
 have e0:=HQV.out.cell (i:=0) rfl
 clear h ht0 ht1 hv0 hv1
 go_enter Tryz.func183,Tryz.ntmps183
 go_wp2_with fail
 clear e0 hV
 refine(ygk B _ _ _ _ hsV (by omega) HT.out.1.1 HT.out.1.2 HRV.out).mono ?_
 rintro e w2 ⟨v2,rfl,hr2,ht2⟩
 have HR2:=yev hr2
 have HB2:Hid (Below B w w2):=HBV.out.trans (ht2.to_below (fun k e=>ybf HRV.out e) hsV)
 have HQ2:=yev (HQV.out.turns ht2 (HRV.out.ne HQV.out (by decide)))
 have hs2:B≤w2.heap.size:=Nat.le_trans hB HB2.out.size
 have hl2:(l++twoB t).length≤10002:=by rw [List.length_append,ydm];omega
 have HLD:Hid (l++evB ⟨t,s1,qq,d,kk,v,g⟩=(l++twoB t)++ [byteOf d,byteOf kk]++twoB v):=(by simp [evB]:l++evB ⟨t,s1,qq,d,kk,v,g⟩=(l++twoB t)++ [byteOf d,byteOf kk]++twoB v)
 generalize l++twoB t=l2 at HR2 hl2 HLD
 have e3:=HQ2.out.cell (i:=3) rfl
 have e4:=HQ2.out.cell (i:=4) rfl
 clear hr2 ht2 HBV HRV HQV
 go_wp2_with (at_builtin;refine wpList_append_own _ rfl _ _ 127 rfl B 5 i0 (.int .u8 0) 1 1 Tryz.underlying127 hi hz0 hz1 hz2 rfl (by decide) v2 _ _ rfl (World.ownsRow.alloc HR2.out _) ⟨w2.heap.size,0,none⟩ 2 2 [.int .u8 d,.int .u8 kk] rfl rfl (yig _ _ _) (fun u hu=>by simp at hu;first|(subst hu;rfl)|(rcases hu with rfl|rfl<;>rfl)) (by unfold maxLen;omega) (by omega) (by simp;omega) ?_;intro v3 w3 hown hgrow hnil;have HR3:Hid (RowBy B w3 v3 (l2++ [byteOf d,byteOf kk])):=RowBy.grow hown (ykx hd0 hd1 hk0 hk1) rfl;have HB3:Hid (Below B w w3):=(HB2.out.alloc hs2 _).grown hgrow (by simp;omega) (fun j e=>ybf HR2.out e);have HQ3:Hid (Bk w3 w.heap.size 110 #[.int .i64 t,.int .i64 s1,.int .i64 qq,.int .i64 d,.int .i64 kk,.int .i64 v,.int .i64 g]):=(HQ2.out.alloc _).turns (yan hgrow) (HR2.out.ne HQ2.out (by decide));have e5:=HQ3.out.cell (i:=5) rfl;clear hown hgrow hnil)
 have hs3:B≤w3.heap.size:=Nat.le_trans hB HB3.out.size
 refine(ygk B _ _ _ _ hs3 (by rw [List.length_append];simp;omega) HT.out.2.1 HT.out.2.2 HR3.out).mono ?_
 rintro e w4 ⟨v4,rfl,hr4,ht4⟩
 have HR4:=yev hr4
 have HB4:Hid (Below B w w4):=HB3.out.trans (ht4.to_below (fun k e=>ybf HR3.out e) hs3)
 clear hr4 ht4 e3 e4 e5
 go_wp2
 go_ret
 exact⟨_,rfl,by rw [HLD.out];exact HR4.out,HB4.out⟩
end Go.Proofs.YtmobiieoecjmdaaGreat

namespace Go.Proofs.YtmobiieoecjmdaaGreat
open Go.RowKit
theorem ok_op {m:Md} (h:m.ok=true) {k q:Nat} (hk:k<m.h.length) (hq:q<(hAt m.h k).length):(oAt (hAt m.h k) q).ok m.n m.h.length=true:=by
 have hh:m.okH=true:=by simp [Md.ok]at h;exact h.1.2
 have hr:rowB m (hAt m.h k)=true:=List.all_eq_true.1 hh k (by simpa using hk)
 simp only [rowB,Bool.and_eq_true]at hr
 exact List.all_eq_true.1 hr.2 q (by simpa using hq)
def iniB (m:Md):Nat→List UInt8
 |0=> []
 |k+1=>iniB m k++twoB (intAt m.i k)
def yej (m:Md):Nat→List UInt8
 |0=> []
 |k+1=>yej m k++ymr (hAt m.h k)
def evsB (m:Md):Nat→List UInt8
 |0=> []
 |k+1=>evsB m k++evB (evAt m.e k)
def yek (m:Md):List UInt8:= [byteOf m.n,byteOf (m.h.length:Int),byteOf (m.e.length:Int)]
def ycz (m:Md):List UInt8:=yek m++twoB m.z++twoB m.s++iniB m m.i.length++yej m m.h.length++evsB m m.e.length
def yi1 (m:Md):List UInt8:=if m.ok=true then ycz m else []
theorem yeg (m:Md):∀k,(iniB m k).length=2*k
 |0=>rfl
 |k+1=>by simp [iniB,yeg m k,ydm];omega
theorem ymq (r:List O):(ymr r).length=1+5*r.length:=by simp [ymr,yfg];omega
theorem yha (m:Md):∀k,(evsB m k).length=6*k
 |0=>rfl
 |k+1=>by simp [evsB,yha m k,ysd];omega
theorem yko {m:Md} (h:m.ok=true):m.hd∧m.okI=true∧m.okH=true∧m.okE=true:=by
 simp [Md.ok]at h
 exact⟨h.1.1.1,h.1.1.2,h.1.2,h.2⟩
theorem yol {m:Md} (h:m.ok=true) (k:Nat):(hAt m.h k).length≤8:=by
 by_cases hk:k<m.h.length
 ·have hr:rowB m (hAt m.h k)=true:=List.all_eq_true.1 (yko h).2.2.1 k (by simpa using hk)
  simp only [rowB,Bool.and_eq_true,decide_eq_true_eq]at hr
  exact hr.1
 ·rw [yuz (by omega)];simp
theorem yds {m:Md} (h:m.ok=true):∀k,(yej m k).length≤41*k
 |0=>by simp [yej]
 |k+1=>by
  have:=yds h k
  have:=yol h k
  simp [yej,ymq];omega
theorem ok_int {m:Md} (h:m.ok=true) {k:Nat} (hk:k<m.i.length):0≤intAt m.i k∧intAt m.i k≤999:=by
 have:=List.all_eq_true.1 (yko h).2.1 k (by simpa using hk)
 simpa [inB] using this
theorem ok_small {m:Md} (h:m.ok=true) {k q:Nat} (hk:k<m.h.length) (hq:q<(hAt m.h k).length):yt8 (oAt (hAt m.h k) q):=by
 have h1:=ok_op h hk hq
 have hd:=(yko h).1
 unfold Md.hd at hd
 simp only [O.ok,okO,decide_eq_true_eq]at h1
 unfold yt8
 omega
theorem ok_ev {m:Md} (h:m.ok=true) {k:Nat} (hk:k<m.e.length) {t s1 qq d kk v g:Int} (e:evAt m.e k=⟨t,s1,qq,d,kk,v,g⟩):(0≤t∧t≤1000)∧(0≤d∧d≤3)∧(0≤kk∧kk≤3)∧0≤v∧v≤999:=by
 have h1:=List.all_eq_true.1 (yko h).2.2.2 k (by simpa using hk)
 rw [e]at h1
 simp only [stB,Ev.ok,okB,Bool.and_eq_true,decide_eq_true_eq]at h1
 omega
theorem yth (w:World) (a b c:Value):(w.alloc (.cells #[a,b,c] 5)).ownsRow w.heap.size 5 1 (.slice (some ⟨w.heap.size,0,none⟩) 3 3) 3 [a,b,c]:=by
 refine⟨rfl,.inr ⟨w.heap.size,3,#[a,b,c],rfl,Nat.le_refl _,?_,Nat.le_refl _,by unfold maxLen;omega,rfl,rfl⟩⟩
 show(w.heap.push _)[w.heap.size]? =_
 simp
set_option maxHeartbeats 1000000
open Go.RowKit
abbrev i64 (z:Int):Value:= .int .i64 z
abbrev vec (a b c d:Int):Value:= .agg #[i64 a,i64 b,i64 c,i64 d]
abbrev yam (a b c d:Int):Obj:= .cells #[i64 a,i64 b,i64 c,i64 d] 137
def ygr (l:List Int):Value:=if vok l=true then vec (intAt l 0) (intAt l 1) (intAt l 2) (intAt l 3)else vec 0 0 0 0
theorem ykc {z:Int} (h0: -1≤z) (h1:z≤1):(decide (-1≤z)&&decide (z≤1))=true:=by simp [h0,h1]
theorem decNo {z:Int} (h:z< -1∨1<z):(decide (-1≤z)&&decide (z≤1))=false:=by
 rw [Bool.and_eq_false_iff];simp;omega
theorem of_at0 (b off cap:Nat) (x0:Int) (w:World) (hb:b<w.heap.size) (h0:w.cell? ⟨b,off,none⟩=some (.int .i64 x0)) (d0:(decide (-1≤x0)&&decide (x0≤1))=false):
  Calls Tryz.prog 129 #[.slice (some ⟨b,off,none⟩) 4 cap] w fun e w'=>e= .returned (.tuple #[vec 0 0 0 0,.bool false])∧Below w.heap.size w w':=by
 go_enter Tryz.func129,Tryz.ntmps129
 go_wp2
 go_loopw [13] (fun i wr=>(i= .int .i64 0∧wr=(w.alloc (yam 0 0 0 0)).alloc (yam 0 0 0 0))) (fun i _=>4-(intOf i).toNat)
 case atStart=>exact⟨rfl,rfl⟩
 case round=>
  rcases hrel with ⟨rfl,rfl⟩
  ·go_wp2_with (go_at_call 112;refine(yad x0 _ _ _).mono ?_;rintro e w' ⟨rfl,rfl⟩;rw [d0])
   exact bodyPost_ret (v:= .tuple #[vec 0 0 0 0,.bool false]) (by simp [results,Tryz.results129,go_sem]) rfl ⟨rfl,((Below.refl _ w).alloc (Nat.le_refl _) _).alloc (by simp) _⟩
theorem of_at1 (b off cap:Nat) (x0 x1:Int) (w:World) (hb:b<w.heap.size) (h0:w.cell? ⟨b,off,none⟩=some (.int .i64 x0)) (h1:w.cell? ⟨b,off+1,none⟩=some (.int .i64 x1)) (d0:(decide (-1≤x0)&&decide (x0≤1))=true) (d1:(decide (-1≤x1)&&decide (x1≤1))=false):
  Calls Tryz.prog 129 #[.slice (some ⟨b,off,none⟩) 4 cap] w fun e w'=>e= .returned (.tuple #[vec 0 0 0 0,.bool false])∧Below w.heap.size w w':=by
 go_enter Tryz.func129,Tryz.ntmps129
 go_wp2
 go_loopw [13] (fun i wr=>(i= .int .i64 0∧wr=(w.alloc (yam 0 0 0 0)).alloc (yam 0 0 0 0))∨(i= .int .i64 1∧wr=(w.alloc (yam 0 0 0 0)).alloc (yam x0 0 0 0))) (fun i _=>4-(intOf i).toNat)
 case atStart=>exact .inl ⟨rfl,rfl⟩
 case round=>
  rcases hrel with ⟨rfl,rfl⟩|⟨rfl,rfl⟩
  ·go_wp2_with (go_at_call 112;refine(yad x0 _ _ _).mono ?_;rintro e w' ⟨rfl,rfl⟩;rw [d0])
   go_roundw
   case rel=>exact .inr (⟨rfl,trivial⟩)
   case measure=>simp [intOf]
  ·go_wp2_with (go_at_call 112;refine(yad x1 _ _ _).mono ?_;rintro e w' ⟨rfl,rfl⟩;rw [d1])
   exact bodyPost_ret (v:= .tuple #[vec 0 0 0 0,.bool false]) (by simp [results,Tryz.results129,go_sem]) rfl ⟨rfl,((Below.refl _ w).alloc (Nat.le_refl _) _).alloc (by simp) _⟩
theorem of_at2 (b off cap:Nat) (x0 x1 x2:Int) (w:World) (hb:b<w.heap.size) (h0:w.cell? ⟨b,off,none⟩=some (.int .i64 x0)) (h1:w.cell? ⟨b,off+1,none⟩=some (.int .i64 x1)) (h2:w.cell? ⟨b,off+2,none⟩=some (.int .i64 x2)) (d0:(decide (-1≤x0)&&decide (x0≤1))=true) (d1:(decide (-1≤x1)&&decide (x1≤1))=true) (d2:(decide (-1≤x2)&&decide (x2≤1))=false):
  Calls Tryz.prog 129 #[.slice (some ⟨b,off,none⟩) 4 cap] w fun e w'=>e= .returned (.tuple #[vec 0 0 0 0,.bool false])∧Below w.heap.size w w':=by
 go_enter Tryz.func129,Tryz.ntmps129
 go_wp2
 go_loopw [13] (fun i wr=>(i= .int .i64 0∧wr=(w.alloc (yam 0 0 0 0)).alloc (yam 0 0 0 0))∨(i= .int .i64 1∧wr=(w.alloc (yam 0 0 0 0)).alloc (yam x0 0 0 0))∨(i= .int .i64 2∧wr=(w.alloc (yam 0 0 0 0)).alloc (yam x0 x1 0 0))) (fun i _=>4-(intOf i).toNat)
 case atStart=>exact .inl ⟨rfl,rfl⟩
 case round=>
  rcases hrel with ⟨rfl,rfl⟩|⟨rfl,rfl⟩|⟨rfl,rfl⟩
  ·go_wp2_with (go_at_call 112;refine(yad x0 _ _ _).mono ?_;rintro e w' ⟨rfl,rfl⟩;rw [d0])
   go_roundw
   case rel=>exact .inr (.inl ⟨rfl,trivial⟩)
   case measure=>simp [intOf]
  ·go_wp2_with (go_at_call 112;refine(yad x1 _ _ _).mono ?_;rintro e w' ⟨rfl,rfl⟩;rw [d1])
   go_roundw
   case rel=>exact .inr (.inr (⟨rfl,trivial⟩))
   case measure=>simp [intOf]
  ·go_wp2_with (go_at_call 112;refine(yad x2 _ _ _).mono ?_;rintro e w' ⟨rfl,rfl⟩;rw [d2])
   exact bodyPost_ret (v:= .tuple #[vec 0 0 0 0,.bool false]) (by simp [results,Tryz.results129,go_sem]) rfl ⟨rfl,((Below.refl _ w).alloc (Nat.le_refl _) _).alloc (by simp) _⟩
theorem of_at3 (b off cap:Nat) (x0 x1 x2 x3:Int) (w:World) (hb:b<w.heap.size) (h0:w.cell? ⟨b,off,none⟩=some (.int .i64 x0)) (h1:w.cell? ⟨b,off+1,none⟩=some (.int .i64 x1)) (h2:w.cell? ⟨b,off+2,none⟩=some (.int .i64 x2)) (h3:w.cell? ⟨b,off+3,none⟩=some (.int .i64 x3)) (d0:(decide (-1≤x0)&&decide (x0≤1))=true) (d1:(decide (-1≤x1)&&decide (x1≤1))=true) (d2:(decide (-1≤x2)&&decide (x2≤1))=true) (d3:(decide (-1≤x3)&&decide (x3≤1))=false):
  Calls Tryz.prog 129 #[.slice (some ⟨b,off,none⟩) 4 cap] w fun e w'=>e= .returned (.tuple #[vec 0 0 0 0,.bool false])∧Below w.heap.size w w':=by
 go_enter Tryz.func129,Tryz.ntmps129
 go_wp2
 go_loopw [13] (fun i wr=>(i= .int .i64 0∧wr=(w.alloc (yam 0 0 0 0)).alloc (yam 0 0 0 0))∨(i= .int .i64 1∧wr=(w.alloc (yam 0 0 0 0)).alloc (yam x0 0 0 0))∨(i= .int .i64 2∧wr=(w.alloc (yam 0 0 0 0)).alloc (yam x0 x1 0 0))∨(i= .int .i64 3∧wr=(w.alloc (yam 0 0 0 0)).alloc (yam x0 x1 x2 0))) (fun i _=>4-(intOf i).toNat)
 case atStart=>exact .inl ⟨rfl,rfl⟩
 case round=>
  rcases hrel with ⟨rfl,rfl⟩|⟨rfl,rfl⟩|⟨rfl,rfl⟩|⟨rfl,rfl⟩
  ·go_wp2_with (go_at_call 112;refine(yad x0 _ _ _).mono ?_;rintro e w' ⟨rfl,rfl⟩;rw [d0])
   go_roundw
   case rel=>exact .inr (.inl ⟨rfl,trivial⟩)
   case measure=>simp [intOf]
  ·go_wp2_with (go_at_call 112;refine(yad x1 _ _ _).mono ?_;rintro e w' ⟨rfl,rfl⟩;rw [d1])
   go_roundw
   case rel=>exact .inr (.inr (.inl ⟨rfl,trivial⟩))
   case measure=>simp [intOf]
  ·go_wp2_with (go_at_call 112;refine(yad x2 _ _ _).mono ?_;rintro e w' ⟨rfl,rfl⟩;rw [d2])
   go_roundw
   case rel=>exact .inr (.inr (.inr (⟨rfl,trivial⟩)))
   case measure=>simp [intOf]
  ·go_wp2_with (go_at_call 112;refine(yad x3 _ _ _).mono ?_;rintro e w' ⟨rfl,rfl⟩;rw [d3])
   exact bodyPost_ret (v:= .tuple #[vec 0 0 0 0,.bool false]) (by simp [results,Tryz.results129,go_sem]) rfl ⟨rfl,((Below.refl _ w).alloc (Nat.le_refl _) _).alloc (by simp) _⟩
theorem of_at4 (b off cap:Nat) (x0 x1 x2 x3:Int) (w:World) (hb:b<w.heap.size) (h0:w.cell? ⟨b,off,none⟩=some (.int .i64 x0)) (h1:w.cell? ⟨b,off+1,none⟩=some (.int .i64 x1)) (h2:w.cell? ⟨b,off+2,none⟩=some (.int .i64 x2)) (h3:w.cell? ⟨b,off+3,none⟩=some (.int .i64 x3)) (d0:(decide (-1≤x0)&&decide (x0≤1))=true) (d1:(decide (-1≤x1)&&decide (x1≤1))=true) (d2:(decide (-1≤x2)&&decide (x2≤1))=true) (d3:(decide (-1≤x3)&&decide (x3≤1))=true):
  Calls Tryz.prog 129 #[.slice (some ⟨b,off,none⟩) 4 cap] w fun e w'=>e= .returned (.tuple #[vec x0 x1 x2 x3,.bool true])∧Below w.heap.size w w':=by
 go_enter Tryz.func129,Tryz.ntmps129
 go_wp2
 go_loopw [13] (fun i wr=>(i= .int .i64 0∧wr=(w.alloc (yam 0 0 0 0)).alloc (yam 0 0 0 0))∨(i= .int .i64 1∧wr=(w.alloc (yam 0 0 0 0)).alloc (yam x0 0 0 0))∨(i= .int .i64 2∧wr=(w.alloc (yam 0 0 0 0)).alloc (yam x0 x1 0 0))∨(i= .int .i64 3∧wr=(w.alloc (yam 0 0 0 0)).alloc (yam x0 x1 x2 0))∨(i= .int .i64 4∧wr=(w.alloc (yam 0 0 0 0)).alloc (yam x0 x1 x2 x3))) (fun i _=>4-(intOf i).toNat)
 case atStart=>exact .inl ⟨rfl,rfl⟩
 case round=>
  rcases hrel with ⟨rfl,rfl⟩|⟨rfl,rfl⟩|⟨rfl,rfl⟩|⟨rfl,rfl⟩|⟨rfl,rfl⟩
  ·go_wp2_with (go_at_call 112;refine(yad x0 _ _ _).mono ?_;rintro e w' ⟨rfl,rfl⟩;rw [d0])
   go_roundw
   case rel=>exact .inr (.inl ⟨rfl,trivial⟩)
   case measure=>simp [intOf]
  ·go_wp2_with (go_at_call 112;refine(yad x1 _ _ _).mono ?_;rintro e w' ⟨rfl,rfl⟩;rw [d1])
   go_roundw
   case rel=>exact .inr (.inr (.inl ⟨rfl,trivial⟩))
   case measure=>simp [intOf]
  ·go_wp2_with (go_at_call 112;refine(yad x2 _ _ _).mono ?_;rintro e w' ⟨rfl,rfl⟩;rw [d2])
   go_roundw
   case rel=>exact .inr (.inr (.inr (.inl ⟨rfl,trivial⟩)))
   case measure=>simp [intOf]
  ·go_wp2_with (go_at_call 112;refine(yad x3 _ _ _).mono ?_;rintro e w' ⟨rfl,rfl⟩;rw [d3])
   go_roundw
   case rel=>exact .inr (.inr (.inr (.inr (⟨rfl,trivial⟩))))
   case measure=>simp [intOf]
  ·go_wp2
   exact bodyPost_ret (v:= .tuple #[vec x0 x1 x2 x3,.bool true]) (by simp [results,Tryz.results129,go_sem]) rfl ⟨rfl,((Below.refl _ w).alloc (Nat.le_refl _) _).alloc (by simp) _⟩
theorem of_long (a:Option Addr) (n cap:Nat) (w:World) (_hn:n≤4611686018427387904) (h4:¬(n:Int)=4):
  Calls Tryz.prog 129 #[.slice a n cap] w fun e w'=>e= .returned (.tuple #[vec 0 0 0 0,.bool false])∧Below w.heap.size w w':=by
 go_enter Tryz.func129,Tryz.ntmps129
 go_wp2
 exact bodyPost_ret (v:= .tuple #[vec 0 0 0 0,.bool false]) (by simp [results,Tryz.results129,go_sem]) rfl ⟨rfl,(Below.refl _ w).alloc (Nat.le_refl _) _⟩
theorem ypf {l:List Int} (h:vok l=false):ygr l=vec 0 0 0 0:=by simp [ygr,h]
theorem yn1 (x:Value) (l:List Int) (w:World) (hl:l.length≤4611686018427387904) (h:IsI w x l):
  Calls Tryz.prog 129 #[x] w fun e w'=>e= .returned (.tuple #[ygr l,.bool (vok l)])∧Below w.heap.size w w':=by
 obtain⟨a,cap,rfl,h1,h2,h⟩:=h
 by_cases h4:l.length=4
 ·obtain⟨b,off,rfl,hb,hc⟩:=h.resolve_left (by rintro rfl;simp at h4)
  have c0:=hc 0 (by omega)
  have c1:=hc 1 (by omega)
  have c2:=hc 2 (by omega)
  have c3:=hc 3 (by omega)
  rw [Nat.add_zero]at c0
  have no:∀k,k<4→(intAt l k< -1∨1<intAt l k)→Ending.returned (.tuple #[vec 0 0 0 0,.bool false])= .returned (.tuple #[ygr l,.bool (vok l)]):=fun k hk hb=>by
   have hv:=vok_no (l:=l) (k:=k) (by omega) hb
   rw [ypf hv,hv]
  rw [h4]
  by_cases e0:intAt l 0< -1∨1<intAt l 0
  ·exact(of_at0 b off cap _ w hb c0 (decNo e0)).mono fun e w' ⟨h,k⟩=>⟨h.trans (no 0 (by omega) e0),k⟩
  by_cases e1:intAt l 1< -1∨1<intAt l 1
  ·exact(of_at1 b off cap _ _ w hb c0 c1 (ykc (by omega) (by omega)) (decNo e1)).mono fun e w' ⟨h,k⟩=>⟨h.trans (no 1 (by omega) e1),k⟩
  by_cases e2:intAt l 2< -1∨1<intAt l 2
  ·exact(of_at2 b off cap _ _ _ w hb c0 c1 c2 (ykc (by omega) (by omega)) (ykc (by omega) (by omega)) (decNo e2)).mono fun e w' ⟨h,k⟩=>⟨h.trans (no 2 (by omega) e2),k⟩
  by_cases e3:intAt l 3< -1∨1<intAt l 3
  ·exact(of_at3 b off cap _ _ _ _ w hb c0 c1 c2 c3 (ykc (by omega) (by omega)) (ykc (by omega) (by omega)) (ykc (by omega) (by omega)) (decNo e3)).mono fun e w' ⟨h,k⟩=>⟨h.trans (no 3 (by omega) e3),k⟩
  have hv:vok l=true:=by
   rw [ysp (fun j hj=>by
    have hj4:j=0∨j=1∨j=2∨j=3:=by omega
    rcases hj4 with rfl|rfl|rfl|rfl<;>omega)]
   simp [h4]
  refine(of_at4 b off cap _ _ _ _ w hb c0 c1 c2 c3 (ykc (by omega) (by omega)) (ykc (by omega) (by omega)) (ykc (by omega) (by omega)) (ykc (by omega) (by omega))).mono fun e w' ⟨h,k⟩=>⟨h.trans ?_,k⟩
  simp [ygr,hv]
 ·have hv:vok l=false:=by simp [vok,h4]
  refine(of_long a l.length cap w hl (by omega)).mono fun e w' ⟨h,k⟩=>⟨h.trans ?_,k⟩
  rw [ypf hv,hv]
theorem Beyond.ints {W:World} {b off:Nat} {l:List Int} (h:IntsAt W b off l) {k:Nat} (hk:k<l.length) {z:Int} (hz:z=intAt l k):∀p:Beyond W,p.w.cell? ⟨b,off+k,none⟩=some (.int .i64 z):=fun p=>hz▸p.cell h.1 (h.2 k hk)
theorem Beyond.ints0 {W:World} {b:Nat} {l:List Int} (h:IntsAt W b 0 l) {k:Nat} (hk:k<l.length) {z:Int} (hz:z=intAt l k):∀p:Beyond W,p.w.cell? ⟨b,k,none⟩=some (.int .i64 z):=fun p=>by have:=Beyond.ints h hk hz p;rwa [Nat.zero_add]at this
instance (W : World) : Nonempty (Beyond W) := ⟨⟨W, Below.refl _ _⟩⟩
set_option maxHeartbeats 4000000
open Go.RowKit
theorem yde {p:Prop} (h:p):Hid p:=h
def mB (a b:Int):Bool:=decide (a= -1)||decide (b= -1)||decide (a=b)
def ybz (l r:List Int):Bool:=(List.range 4).all fun j=>mB (intAt l j) (intAt r j)
theorem yqm {f:Nat→Bool} (h:∀j,j<4→f j=true):(List.range 4).all f=true:=by
 rw [List.all_eq_true];intro x hx;exact h x (by simpa using hx)
theorem yvu {f:Nat→Bool} {j:Nat} (hj:j<4) (h:f j=false):(List.range 4).all f=false:=by
 rw [List.all_eq_false];exact⟨j,by simpa using hj,by simp [h]⟩
theorem ykr (w:World) (a b c d:Int) (t:TypeId):IntsAt (w.alloc (.cells #[i64 a,i64 b,i64 c,i64 d] t)) w.heap.size 0 [a,b,c,d]:=by
 refine⟨by simp,fun i hi=> ?_⟩
 have hi4:i=0∨i=1∨i=2∨i=3:=by simp at hi;omega
 have hh:(w.alloc (.cells #[i64 a,i64 b,i64 c,i64 d] t)).heap[w.heap.size]? =some (.cells #[i64 a,i64 b,i64 c,i64 d] t):=by
  show(w.heap.push _)[w.heap.size]? =_
  simp
 rcases hi4 with rfl|rfl|rfl|rfl<;>(unfold World.cell?;simp only [hh];rfl)
theorem yn2 (a0 a1 a2 a3 b0 b1 b2 b3:Int) (w:World):
  Calls Tryz.prog 140 #[vec a0 a1 a2 a3,vec b0 b1 b2 b3] w fun e w'=>e= .returned (.bool (ybz [a0,a1,a2,a3] [b0,b1,b2,b3]))∧Below w.heap.size w w':=by
 go_enter Tryz.func140,Tryz.ntmps140
 go_wp2
 go_loopw [6] (fun i wr=>∃k:Nat,k≤4∧i= .int .i64 k∧Below w.heap.size w wr∧IntsAt wr w.heap.size 0 [a0,a1,a2,a3]∧IntsAt wr (w.heap.size+1) 0 [b0,b1,b2,b3]∧ ∀j,j<k→mB (intAt [a0,a1,a2,a3] j) (intAt [b0,b1,b2,b3] j)=true) (fun i _=>4-(intOf i).toNat)
 case atStart=>
  have h1:=ykr w a0 a1 a2 a3 137
  have h2:=ykr (w.alloc (yam a0 a1 a2 a3)) b0 b1 b2 b3 137
  rw [show(w.alloc (yam a0 a1 a2 a3)).heap.size=w.heap.size+1 by simp]at h2
  refine⟨0,by omega,rfl,((Below.refl _ w).alloc (Nat.le_refl _) _).alloc (by simp) _,h1.below ((Below.refl (w.heap.size+1) _).alloc (by simp) _) (by omega),h2,fun j hj=>by omega⟩
 case round=>
  obtain⟨k,hk,rfl,hB,hI,hJ,hall⟩:=hrel
  have HB:=yde hB
  have HI:=yde hI
  have HJ:=yde hJ
  have HA:=yde hall
  clear hB hI hJ hall
  by_cases hlt:k<4
  ·obtain⟨x,hx⟩:∃x,x=intAt [a0,a1,a2,a3] k:=⟨_,rfl⟩
   obtain⟨y,hy⟩:∃y,y=intAt [b0,b1,b2,b3] k:=⟨_,rfl⟩
   have fx:=Beyond.ints0 HI.out (k:=k) hlt hx
   have fy:=Beyond.ints0 HJ.out (k:=k) hlt hy
   have HX:=yde hx
   have HY:=yde hy
   clear hx hy
   have hki:(k:Int)<4:=by omega
   by_cases e1:x= -1
   case pos=>
    have d1:(x !=(-1:Int))=false:=by simp [e1]
    have HF:Hid (mB x y=true):=by show _=_;simp [mB, *]
    clear e1
    go_wp2_with fail
    refine wrb ?_
    repeat(go_big_quiet_step (fail))
    refine wpQuiet_nil ?_
    rintro w2 ⟨⟨_,hb2⟩,rfl⟩
    clear fx fy
    go_wp2
    go_roundw
    case rel=>exact⟨k+1,by omega,by go_num,trm HB.out hb2,HI.out.below hb2 HI.out.1,HJ.out.below hb2 HJ.out.1,fun j hj=>by
     by_cases e:j<k
     ·exact HA.out j e
     ·rw [show j=k by omega,←HX.out,←HY.out];exact HF.out⟩
    case measure=>simp [intOf];omega
   have d1:(x !=(-1:Int))=true:=by simp [e1]
   by_cases e2:y= -1
   case pos=>
    have d2:(y !=(-1:Int))=false:=by simp [e2]
    have HF:Hid (mB x y=true):=by show _=_;simp [mB, *]
    clear e1 e2
    go_wp2_with fail
    refine wrb ?_
    repeat(go_big_quiet_step (fail))
    refine wpQuiet_nil ?_
    rintro w2 ⟨⟨_,hb2⟩,rfl⟩
    clear fx fy
    go_wp2
    go_roundw
    case rel=>exact⟨k+1,by omega,by go_num,trm HB.out hb2,HI.out.below hb2 HI.out.1,HJ.out.below hb2 HJ.out.1,fun j hj=>by
     by_cases e:j<k
     ·exact HA.out j e
     ·rw [show j=k by omega,←HX.out,←HY.out];exact HF.out⟩
    case measure=>simp [intOf];omega
   have d2:(y !=(-1:Int))=true:=by simp [e2]
   by_cases e3:x=y
   case pos=>
    have d3:(x !=y)=false:=by simp [e3]
    have HF:Hid (mB x y=true):=by show _=_;simp [mB, *]
    clear e1 e2 e3
    go_wp2_with fail
    refine wrb ?_
    repeat(go_big_quiet_step (fail))
    refine wpQuiet_nil ?_
    rintro w2 ⟨⟨_,hb2⟩,rfl⟩
    clear fx fy
    go_wp2
    go_roundw
    case rel=>exact⟨k+1,by omega,by go_num,trm HB.out hb2,HI.out.below hb2 HI.out.1,HJ.out.below hb2 HJ.out.1,fun j hj=>by
     by_cases e:j<k
     ·exact HA.out j e
     ·rw [show j=k by omega,←HX.out,←HY.out];exact HF.out⟩
    case measure=>simp [intOf];omega
   have d3:(x !=y)=true:=by simp [e3]
   have HF:Hid (mB x y=false):=by show _=_;simp [mB, *]
   clear e1 e2 e3
   go_wp2_with fail
   refine wrb ?_
   repeat(go_big_quiet_step (fail))
   refine wpQuiet_nil ?_
   rintro w2 ⟨⟨_,hb2⟩,rfl⟩
   clear fx fy
   go_wp2
   go_ret
   exact⟨ya0 (yvu hlt (by rw [←HX.out,←HY.out];exact HF.out)).symm,trm HB.out hb2⟩
  ·go_wp2
   go_ret
   exact⟨ya0 (yqm (fun j hj=>HA.out j (by omega))).symm,HB.out⟩
theorem yrz (b off cap b' off' cap':Nat) (l r:List Int) (w:World) (hl:l.length=4) (hr:r.length=4) (hl1:∀j,j<4→ -1≤intAt l j) (hr1:∀j,j<4→ -1≤intAt r j) (hI:IntsAt w b off l) (hJ:IntsAt w b' off' r):
  Calls Tryz.prog 89 #[.slice (some ⟨b,off,none⟩) 4 cap,.slice (some ⟨b',off',none⟩) 4 cap'] w fun e w'=>e= .returned (.bool (ybz l r))∧Below w.heap.size w w':=by
 have HL:Hid (l.length=4):=hl
 have HR:Hid (r.length=4):=hr
 have HL1:=yde hl1
 have HR1:=yde hr1
 have HI0:Hid (IntsAt w b off l):=hI
 have HJ0:Hid (IntsAt w b' off' r):=hJ
 clear hl hr hl1 hr1 hI hJ
 go_enter Tryz.func89,Tryz.ntmps89
 go_wp2
 go_loopw [5] (fun i wr=>∃k:Nat,k≤4∧i= .int .i64 k∧Below w.heap.size w wr∧IntsAt wr b off l∧IntsAt wr b' off' r∧ ∀j,j<k→mB (intAt l j) (intAt r j)=true) (fun i _=>4-(intOf i).toNat)
 case atStart=>exact⟨0,by omega,rfl,Below.refl _ _,HI0.out,HJ0.out,fun j hj=>by omega⟩
 case round=>
  obtain⟨k,hk,rfl,hB,hI,hJ,hall⟩:=hrel
  have HB:=yde hB
  have HI:Hid (IntsAt wr b off l):=hI
  have HJ:=yde hJ
  have HA:=yde hall
  clear hB hI hJ hall
  by_cases hlt:k<4
  ·obtain⟨x,hx⟩:∃x,x=intAt l k:=⟨_,rfl⟩
   obtain⟨y,hy⟩:∃y,y=intAt r k:=⟨_,rfl⟩
   have fx:=Beyond.ints HI.out (k:=k) (by rw [HL.out];exact hlt) hx
   have fy:=Beyond.ints HJ.out (k:=k) (by rw [HR.out];exact hlt) hy
   have HX:Hid (x=intAt l k):=hx
   have HY:Hid (y=intAt r k):=hy
   have gx: -1≤x:=hx▸HL1.out k hlt
   have gy: -1≤y:=hy▸HR1.out k hlt
   clear hx hy
   have hki:(k:Int)<4:=by omega
   by_cases e1:x= -1
   case pos=>
    have d1:decide ((0:Int)≤x)=false:=by simp [e1]
    have HF:Hid (mB x y=true):=by show _=_;simp [mB, *]
    clear e1
    go_wp2_with fail
    refine wrb ?_
    repeat(go_big_quiet_step (fail))
    refine wpQuiet_nil ?_
    rintro w2 ⟨⟨_,hb2⟩,rfl⟩
    clear fx fy
    go_wp2
    go_roundw
    case rel=>exact⟨k+1,by omega,by go_num,trm HB.out hb2,HI.out.below hb2 HI.out.1,HJ.out.below hb2 HJ.out.1,fun j hj=>by
     by_cases e:j<k
     ·exact HA.out j e
     ·rw [show j=k by omega,←HX.out,←HY.out];exact HF.out⟩
    case measure=>simp [intOf];omega
   have d1:decide ((0:Int)≤x)=true:=by simp;omega
   by_cases e2:y= -1
   case pos=>
    have d2:decide ((0:Int)≤y)=false:=by simp [e2]
    have HF:Hid (mB x y=true):=by show _=_;simp [mB, *]
    clear e1 e2
    go_wp2_with fail
    refine wrb ?_
    repeat(go_big_quiet_step (fail))
    refine wpQuiet_nil ?_
    rintro w2 ⟨⟨_,hb2⟩,rfl⟩
    clear fx fy
    go_wp2
    go_roundw
    case rel=>exact⟨k+1,by omega,by go_num,trm HB.out hb2,HI.out.below hb2 HI.out.1,HJ.out.below hb2 HJ.out.1,fun j hj=>by
     by_cases e:j<k
     ·exact HA.out j e
     ·rw [show j=k by omega,←HX.out,←HY.out];exact HF.out⟩
    case measure=>simp [intOf];omega
   have d2:decide ((0:Int)≤y)=true:=by simp;omega
   by_cases e3:x=y
   case pos=>
    have d3:(x !=y)=false:=by simp [e3]
    have HF:Hid (mB x y=true):=by show _=_;simp [mB, *]
    clear e1 e2 e3
    go_wp2_with fail
    refine wrb ?_
    repeat(go_big_quiet_step (fail))
    refine wpQuiet_nil ?_
    rintro w2 ⟨⟨_,hb2⟩,rfl⟩
    clear fx fy
    go_wp2
    go_roundw
    case rel=>exact⟨k+1,by omega,by go_num,trm HB.out hb2,HI.out.below hb2 HI.out.1,HJ.out.below hb2 HJ.out.1,fun j hj=>by
     by_cases e:j<k
     ·exact HA.out j e
     ·rw [show j=k by omega,←HX.out,←HY.out];exact HF.out⟩
    case measure=>simp [intOf];omega
   have d3:(x !=y)=true:=by simp [e3]
   have HF:Hid (mB x y=false):=by show _=_;simp [mB, *]
   clear e1 e2 e3
   go_wp2_with fail
   refine wrb ?_
   repeat(go_big_quiet_step (fail))
   refine wpQuiet_nil ?_
   rintro w2 ⟨⟨_,hb2⟩,rfl⟩
   clear fx fy
   go_wp2
   go_ret
   exact⟨ya0 (yvu hlt (by rw [←HX.out,←HY.out];exact HF.out)).symm,trm HB.out hb2⟩
  ·go_wp2
   go_ret
   exact⟨ya0 (yqm (fun j hj=>HA.out j (by omega))).symm,HB.out⟩
theorem yso {l:List Int} (h:vok l=true) (j:Nat) (hj:j<4): -1≤intAt l j∧intAt l j≤1:=by
 obtain⟨a,b,c,d,rfl,h0,h1,h2,h3⟩:=yiw h
 have hj4:j=0∨j=1∨j=2∨j=3:=by omega
 rcases hj4 with rfl|rfl|rfl|rfl
 ·exact h0
 ·exact h1
 ·exact h2
 ·exact h3
theorem yge {l:List Int} (h:vok l=true):l.length=4:=by
 simp only [vok,Bool.and_eq_true,decide_eq_true_eq]at h;exact h.2
theorem IsI.four {w:World} {x:Value} {l:List Int} (h:IsI w x l) (hl:l.length=4):∃b off cap,x= .slice (some ⟨b,off,none⟩) 4 cap∧IntsAt w b off l:=by
 obtain⟨a,cap,rfl,_,_,h⟩:=h
 obtain⟨b,off,rfl,h'⟩:=h.resolve_left (by rintro rfl;simp at hl)
 exact⟨b,off,cap,by rw [hl],h'⟩
theorem yuw {p:Prop} (h:p):Hid p:=h
def SrcC (w:World) (x:Value) (size m:Nat) (news:List Value):Prop:=news.length=m*size∧ ∃a c,x= .slice a m c∧(m=0∨ ∃b off,a=some ⟨b,off,none⟩∧b<w.heap.size∧ ∀j,j<m*size→w.cell? ⟨b,off+j,none⟩=news[j]?)
theorem SrcC.below {w w':World} {x:Value} {size m:Nat} {news:List Value} (h:SrcC w x size m news) (hb:Below w.heap.size w w'):SrcC w' x size m news:=by
 obtain⟨hn,a,c,rfl,h⟩:=h
 refine⟨hn,a,c,rfl,h.imp id ?_⟩
 rintro ⟨b,off,rfl,hlt,hc⟩
 exact⟨b,off,rfl,Nat.lt_of_lt_of_le hlt hb.size,fun j hj=>(hb.cell (p:=⟨b,off+j,none⟩) hlt).trans (hc j hj)⟩
theorem IsD.src {w:World} {x:Value} {c n:Nat} {cs:List Value} (h:IsD w x (flat c n cs)) (hl:cs.length=n*c):SrcC w x c n cs:=by
 obtain⟨a,cap,rfl,h1,h2,h⟩:=IsD.parts (c:=c) (n:=n) h
 refine⟨hl,a,cap,rfl,h.imp id ?_⟩
 rintro ⟨b,off,rfl,hlt,hc⟩
 refine⟨b,off,rfl,hlt,fun j hj=> ?_⟩
 obtain⟨u,hu,hd⟩:=hc j hj
 have:=IsD.val_eq hd
 subst this
 rw [hu,List.getElem?_eq_getElem (by omega)]
 simp [show j<cs.length by omega]
theorem IsD.srcEv {w:World} {x:Value} {l:List Ev} (h:IsD w x (evsD l)):SrcC w x 7 l.length (yag l):=IsD.src h (yb7 l)
theorem IsD.srcX {w:World} {x:Value} {l:List Em} (h:IsD w x (emsD l)):SrcC w x 3 l.length (yaw l):=IsD.src h (ye8 l)
theorem yec {P:Program} {w:World} (base:Nat) (t ty e:TypeId) (i:TypeInfo) (size:Nat) (ht:P.underlying t=some (.slice e)) (hi:P.info? e=some i) (v:Value) (n c:Nat) (xs:List Value) (hown:w.ownsRow base e size v n xs):
  (Builtin.append_ #[t,t] ty #[v,.slice none 0 c]).run P w= .ok v w:=by
 rcases hown.2 with ⟨rfl,rfl⟩|⟨g,cap,cur,rfl,_,_,hnc,_⟩
 ·simp [Builtin.append_,run_underlying ht,sizeOf,typeInfo,hi,Builtin.lenOf,Builtin.firstCells]
 ·simp [Builtin.append_,run_underlying ht,sizeOf,typeInfo,hi,Builtin.lenOf,Builtin.firstCells,hnc,storeCells]
theorem ydb {P:Program} {ops:Array Oper} {o:Oper} {a:Act} {w:World} {K:Act→World→Prop} {Q:Exit→Act→World→Prop} {E:Prop}
  (hg:o.guard=none) (s x:Operand) (t:TypeId) (hop:o.op=Op.call {callee:=Callee.builtin Builtin.append,args:= #[s,x],argTypes:= #[t,t]})
  (base:Nat) (e:TypeId) (i:TypeInfo) (z:Value) (size bytes:Nat) (h1:P.underlying t=some (.slice e)) (h2:P.info? e=some i) (h3:i.zero=some z) (h4:i.size=size) (h5:i.bytes=bytes) (h6:z.cells.size=size) (h7:0<size)
  (v:Value) (n:Nat) (xs:List Value) (hs:a.eval s=v) (hown:w.ownsRow base e size v n xs)
  (u:Value) (m:Nat) (news:List Value) (hx:a.eval x=u) (hc:SrcC w u size m news) (h1c:∀u∈news,u.oneCell'=true)
  (b1:n+m≤maxLen) (b2:(n+m)*bytes≤140737488355328) (hbase:base≤w.heap.size)
  (hK:∀v' w',w'.ownsRow base e size v' (n+m) (xs++news)→w.grownBy w' v.ownBlock→yny w v v'→K (a.put o.dst v') w'):
  if Region.wanted o (yielded ops a.tmps)=true then Oper.wp P o a w K Q else E:=by
 obtain⟨hn,au,c,rfl,hc⟩:=hc
 have some_case:∀ad:Addr,au=some ad→(∀j u,news[j]? =some u→w.cell? (ad.add j)=some u)→(if Region.wanted o (yielded ops a.tmps)=true then Oper.wp P o a w K Q else E):=fun ad e1 e2=>by
  subst e1
  exact yis hg s x t hop base e i z size bytes h1 h2 h3 h4 h5 h6 h7 v n xs hs hown ad m c news hx hn e2 h1c b1 b2 hbase hK
 rcases hc with rfl|⟨b,off,rfl,hlt,hcc⟩
 ·have hnil:news= []:=List.eq_nil_of_length_eq_zero (by simpa using hn)
  subst hnil
  cases au with
  |some ad=>exact some_case ad rfl (fun j u hu=>by simp at hu)
  |none=>
   have hw:Region.wanted o (yielded ops a.tmps)=true:=by simp [Region.wanted,hg]
   rw [if_pos hw]
   have hr:=yec (P:=P) (w:=w) base t o.type e i size h1 h2 v n c xs hown
   unfold Oper.wp execOp
   simp only [hop,resolve,invoke,builtin,Sem.run_bind,Sem.run_pure,Result.andThen_ok,List.map_toArray,List.map_cons,List.map_nil,hs,hx,hr]
   exact hK v w (by simpa using hown) (yic w _) (.inl rfl)
 ·refine some_case ⟨b,off,none⟩ rfl (fun j u hu=> ?_)
  have hj:j<m*size:=by rw [←hn];exact(List.getElem?_eq_some_iff.1 hu).1
  rw [Addr.add_lit,hcc j hj]
  exact hu
theorem yat {P:Program} {ops:Array Oper} {rest:List Oper} {o:Oper} {a:Act} {Q:Exit→Act→World→Prop} (w:World) (hgd:o.guard=none) (s x:Operand) (t:TypeId)
  (ho:o.op= .call {callee:= .builtin .append,args:= #[s,x],argTypes:= #[t,t]})
  (base:Nat) (e:TypeId) (i:TypeInfo) (z:Value) (size bytes:Nat) (ht:P.underlying t=some (.slice e)) (hi:P.info? e=some i) (hz:i.zero=some z)
  (hsize:i.size=size) (hby:i.bytes=bytes) (hzs:z.cells.size=size) (hsz:0<size)
  (v:Value) (n:Nat) (xs:List Value) (hs:a.eval s=v) (hown:w.ownsRow base e size v n xs)
  (u:Value) (m:Nat) (news:List Value) (hx:a.eval x=u) (hc:SrcC w u size m news) (h1:∀u∈news,u.oneCell'=true)
  (h63:n+m≤maxLen) (hbytes:(n+m)*bytes≤140737488355328) (hbase:base≤w.heap.size)
  (h:∀v' w',w'.ownsRow base e size v' (n+m) (xs++news)→w.grownBy w' v.ownBlock→yny w v v'→wpList P ops Q rest (a.put o.dst v') w'):wpList P ops Q (o::rest) a w:=by
 obtain⟨hn,au,c,rfl,hc⟩:=hc
 have some_case:∀ad:Addr,au=some ad→(∀j u,news[j]? =some u→w.cell? (ad.add j)=some u)→wpList P ops Q (o::rest) a w:=fun ad e1 e2=>by
  subst e1
  exact yhf w hgd s x t ho base e i z size bytes ht hi hz hsize hby hzs hsz v n xs hs hown ad m c news hx hn e2 h1 h63 hbytes hbase h
 rcases hc with rfl|⟨b,off,rfl,hlt,hcc⟩
 ·have hnil:news= []:=List.eq_nil_of_length_eq_zero (by simpa using hn)
  subst hnil
  cases au with
  |some ad=>exact some_case ad rfl (fun j u hu=>by simp at hu)
  |none=>
   refine wpList_plain hgd fun _ hK=> ?_
   have hr:=yec (P:=P) (w:=w) base t o.type e i size ht hi v n c xs hown
   unfold Oper.wp execOp
   simp only [ho,resolve,invoke,builtin,Sem.run_bind,Sem.run_pure,Result.andThen_ok,List.map_toArray,List.map_cons,List.map_nil,hs,hx,hr]
   exact hK _ _ (h v w (by simpa using hown) (yic w _) (.inl rfl))
 ·refine some_case ⟨b,off,none⟩ rfl (fun j u hu=> ?_)
  have hj:j<m*size:=by rw [←hn];exact(List.getElem?_eq_some_iff.1 hu).1
  rw [Addr.add_lit,hcc j hj]
  exact hu
theorem yhe (l:List Ev):∀u∈yag l,u.oneCell'=true:=fun u hu=>by obtain⟨i,rfl⟩:=yk0 l u hu;rfl
theorem yei (l:List Em):∀u∈yaw l,u.oneCell'=true:=fun u hu=>by obtain⟨i,rfl⟩:=yk1 l u hu;rfl
set_option maxRecDepth 100000 in
set_option maxHeartbeats 2000000 in
theorem yhp (x:Value) (l:List Ev) (w:World) (hl:l.length≤1048577) (h:SrcC w x 7 l.length (yag l)):
  Calls Tryz.prog 102 #[x] w fun e w'=>∃y,e= .returned y∧w'.ownsRow w.heap.size 110 7 y l.length (yag l)∧Below w.heap.size w w':=by
 obtain⟨i0,hi,hz0,hz1,hz2⟩:=info_parts ygv
 have hb:Below w.heap.size w (w.alloc (.cells #[] 110)):=(Below.refl _ w).alloc (Nat.le_refl _) _
 have HS:=yuw (h.below hb)
 have HB:=yuw hb
 obtain⟨_,a,c,rfl,_⟩:=h
 clear hb
 go_enter Tryz.func102,Tryz.ntmps102
 go_wp2_with (at_builtin;refine yat _ rfl _ _ 34 rfl w.heap.size 110 i0 _ 7 56 Tryz.underlying34 hi hz0 hz1 hz2 rfl (by decide) (.slice (some ⟨w.heap.size,0,none⟩) 0 0) 0 [] rfl (yti w) (.slice a l.length c) l.length (yag l) rfl HS.out (yhe l) (by unfold maxLen;omega) (by omega) (by simp) ?_;intro v' w' hown hgrow hnew)
 go_ret
 rw [Nat.zero_add,List.nil_append]at hown
 exact⟨_,rfl,hown,HB.out.grown hgrow (by simp) (fun k e=>by cases e;exact Nat.le_refl _)⟩
def dsOf (l:List Kn):List (List Int):=l.map Kn.d
def allV (v:Wd):List (List Int):=dsOf v.k++v.c
def noMB (l:List (List Int)):Bool:=allB l.length fun i=>allB i fun j=> !ybz (vAt l i) (vAt l j)
noncomputable def runB (v : Wd) (k : Kn) : Bool := k.ok && decide (ycz k.m = ycz v.m)
def headW (v:Wd):Bool:=v.m.ok&&decide (v.k.length≤16)&&decide (v.c.length≤100)
noncomputable def Wd.ok (v : Wd) : Bool := headW v && allB v.k.length (fun i => runB v (knAt v.k i)) && allB v.c.length (fun i => vok (vAt v.c i)) && noMB (allV v)
theorem wok_iff {v:Wd}:v.ok=true↔(v.m.ok=true∧v.k.length≤16∧v.c.length≤100)∧(∀i,i<v.k.length→runB v (knAt v.k i)=true)∧(∀i,i<v.c.length→vok (vAt v.c i)=true)∧noMB (allV v)=true:=by
 unfold Wd.ok headW
 simp only [Bool.and_eq_true,allB_iff,decide_eq_true_eq,and_assoc]
theorem noMB_iff {l:List (List Int)}:noMB l=true↔ ∀i,i<l.length→ ∀j,j<i→ybz (vAt l i) (vAt l j)=false:=by
 unfold noMB
 simp only [allB_iff,Bool.not_eq_true']
theorem runB_iff {v:Wd} {k:Kn}:runB v k=true↔k.ok=true∧ycz k.m=ycz v.m:=by
 unfold runB
 simp only [Bool.and_eq_true,decide_eq_true_eq]
theorem yc0 (l:List Kn):(dsOf l).length=l.length:=by simp [dsOf]
theorem yex {l:List Kn} {i:Nat} (h:i<l.length):vAt (dsOf l) i=(knAt l i).d:=by
 simp [vAt,dsOf,knAt,h]
theorem yia {k:Kn} (h:k.ok=true):k.m.ok=true∧vok k.d=true:=by
 have h1:=headK_iff.1 (ok_iff.1 h).1
 exact⟨h1.1,h1.2.1⟩
theorem ygg {l:List (List Int)} {k:Nat} (h:k<l.length):l.take (k+1)=l.take k++ [vAt l k]:=by
 rw [List.take_succ_eq_append_getElem h]
 simp [vAt,h]
theorem yii {l r:List (List Int)} {i:Nat} (h:i<l.length):vAt (l++r) i=vAt l i:=by
 simp [vAt,List.getElem?_append_left h]
theorem yhh {l r:List (List Int)} {i:Nat} (h:l.length≤i):vAt (l++r) i=vAt r (i-l.length):=by
 simp [vAt,List.getElem?_append_right h]
def RowV (B:Nat) (w0 w:World) (x:Value) (l:List (List Int)):Prop:=∃us:List Value,w.ownsRow B 22 1 x l.length us∧(∀u∈us,u.oneCell'=true)∧ ∀j,j<l.length→ ∃u,us[j]? =some u∧IsD w0 u (yaq (vAt l j))
theorem RowV.nil (B:Nat) (w0 w:World):RowV B w0 w (.slice none 0 0) []:=⟨[],World.ownsRow_nil _ _ _ _,fun u h=>(by cases h),fun j h=>by simp at h⟩
theorem RowV.below {B:Nat} {w0 w w':World} {x:Value} {l:List (List Int)} (h:RowV B w0 w x l) (hb:Below w.heap.size w w'):RowV B w0 w' x l:=by
 obtain⟨us,h1,h2,h3⟩:=h
 exact⟨us,owB h1 hb,h2,h3⟩
theorem RowV.cell {B:Nat} {w0 w:World} {a:Option Addr} {cap:Nat} {l:List (List Int)} (h:RowV B w0 w (.slice a l.length cap) l) {j:Nat} (hj:j<l.length):∃g u,a=some ⟨g,0,none⟩∧g<w.heap.size∧w.cell? ⟨g,j,none⟩=some u∧IsD w0 u (yaq (vAt l j)):=by
 obtain⟨us,h1,h2,h3⟩:=h
 obtain⟨u,hu,hd⟩:=h3 j hj
 obtain⟨hl,⟨e,h0⟩|⟨g,cap',cur,e,_,hc,k1,k2,k3,k4⟩⟩:=h1
 ·have:=(Value.slice.inj e).2.1;omega
 ·cases e
  refine⟨g,u,rfl,(Array.getElem?_eq_some_iff.1 hc).1,?_,hd⟩
  have h9:(cur.toList.take (l.length*1))[j]? =some u:=by rw [k4];exact hu
  rw [List.getElem?_take_of_lt (by omega)]at h9
  simpa [World.cell?,hc] using h9
theorem RowV.snoc {B:Nat} {w0 w':World} {x:Value} {l:List (List Int)} {u:Value} {d:List Int} {us:List Value} (h:w'.ownsRow B 22 1 x (l.length+1) (us++ [u])) (h2:∀u∈us,u.oneCell'=true) (h3:∀j,j<l.length→ ∃u,us[j]? =some u∧IsD w0 u (yaq (vAt l j))) (hl:us.length=l.length) (hu:u.oneCell'=true) (hd:IsD w0 u (yaq d)):RowV B w0 w' x (l++ [d]):=by
 refine⟨us++ [u],by rw [List.length_append];exact h,fun y hy=> ?_,fun j hj=> ?_⟩
 ·rcases List.mem_append.1 hy with hy|hy
  ·exact h2 y hy
  ·simp at hy;subst hy;exact hu
 ·rw [List.length_append]at hj
  by_cases hjl:j<l.length
  ·obtain⟨y,hy,hD⟩:=h3 j hjl
   exact⟨y,by rw [List.getElem?_append_left (by omega)];exact hy,by rw [yii hjl];exact hD⟩
  ·have e:j=l.length:=by simp at hj;omega
   subst e
   refine⟨u,by rw [List.getElem?_append_right (by omega),hl];simp,?_⟩
   rw [yhh (Nat.le_refl _)]
   simpa [vAt] using hd
theorem RowV.len {B:Nat} {w:World} {x:Value} {n:Nat} {us:List Value} (h:w.ownsRow B 22 1 x n us):us.length=n:=by
 have:=h.1
 omega
theorem IsD.one {w:World} {u:Value} {d:List Int} (h:IsD w u (yaq d)):u.oneCell'=true∧ ∃a cap,u= .slice a d.length cap:=by
 obtain⟨a,cap,rfl,_⟩:=IsD.parts (c:=1) (n:=d.length) h
 exact⟨rfl,a,cap,rfl⟩
theorem IsW.form {w:World} {x:Value} {v:Wd} (h:IsW w x v):∃ai ci ah ch ae ce ak ck ac cc,x= .agg #[.int .i64 v.m.n,.int .i64 v.m.s,.slice ai v.m.i.length ci,.slice ah v.m.h.length ch,.slice ae v.m.e.length ce,.int .i64 v.m.z,.slice ak v.k.length ck,.slice ac v.c.length cc]∧IsM w (.agg #[.int .i64 v.m.n,.int .i64 v.m.s,.slice ai v.m.i.length ci,.slice ah v.m.h.length ch,.slice ae v.m.e.length ce,.int .i64 v.m.z]) v.m∧(v.k.length=0∨ ∃b off,ak=some ⟨b,off,none⟩∧b<w.heap.size∧ ∀i,i<v.k.length→KAt w b (off+i*14) (knAt v.k i))∧(v.c.length=0∨ ∃b off,ac=some ⟨b,off,none⟩∧b<w.heap.size∧ ∀j,j<v.c.length→ ∃u,w.cell? ⟨b,off+j,none⟩=some u∧IsD w u (yaq (vAt v.c j))):=by
 obtain⟨vi,vh,vs,uk,uc,rfl,hm,⟨ak,ck,rfl,_,_,hk⟩,hc⟩:=h
 obtain⟨ac,cc,rfl,_,_,hc⟩:=IsD.parts (c:=1) (n:=v.c.length) hc
 have hm':=hm
 obtain⟨xi,xh,xs,e,⟨ai,ci,ei,_⟩,⟨ah,ch,eh,_⟩,⟨ae,ce,ee,_⟩⟩:=hm'
 have e9:=congrArg Array.toList (Value.agg.inj e)
 simp at e9
 obtain⟨e1,e2,e3⟩:=e9
 subst e1 e2 e3 ei eh ee
 refine⟨ai,ci,ah,ch,ae,ce,ak,ck,ac,cc,rfl,hm,hk,hc.imp id ?_⟩
 rintro ⟨b,off,rfl,hb,hj⟩
 exact⟨b,off,rfl,hb,fun j hj'=>hj j (by omega)⟩
theorem KAt.form {w:World} {b off:Nat} {k:Kn} (h:KAt w b off k):∃ki di kh dh ke de k6 d6 k7 d7 k8 d8 k12 d12 k13 d13,(w.cell? ⟨b,off,none⟩=some (.int .i64 k.m.n)∧w.cell? ⟨b,off+1,none⟩=some (.int .i64 k.m.s)∧w.cell? ⟨b,off+2,none⟩=some (.slice ki k.m.i.length di)∧w.cell? ⟨b,off+3,none⟩=some (.slice kh k.m.h.length dh)∧w.cell? ⟨b,off+4,none⟩=some (.slice ke k.m.e.length de)∧w.cell? ⟨b,off+5,none⟩=some (.int .i64 k.m.z)∧w.cell? ⟨b,off+6,none⟩=some (.slice k6 k.d.length d6)∧w.cell? ⟨b,off+7,none⟩=some (.slice k7 k.p.length d7)∧w.cell? ⟨b,off+8,none⟩=some (.slice k8 k.b.length d8)∧w.cell? ⟨b,off+9,none⟩=some (.int .i64 k.t)∧w.cell? ⟨b,off+10,none⟩=some (.int .i64 k.q)∧w.cell? ⟨b,off+11,none⟩=some (.bool k.f)∧w.cell? ⟨b,off+12,none⟩=some (.slice k12 k.s.length d12)∧w.cell? ⟨b,off+13,none⟩=some (.slice k13 k.x.length d13))∧IsKern w (.agg #[.int .i64 k.m.n,.int .i64 k.m.s,.slice ki k.m.i.length di,.slice kh k.m.h.length dh,.slice ke k.m.e.length de,.int .i64 k.m.z,.slice k6 k.d.length d6,.slice k7 k.p.length d7,.slice k8 k.b.length d8,.int .i64 k.t,.int .i64 k.q,.bool k.f,.slice k12 k.s.length d12,.slice k13 k.x.length d13]) k∧IsM w (.agg #[.int .i64 k.m.n,.int .i64 k.m.s,.slice ki k.m.i.length di,.slice kh k.m.h.length dh,.slice ke k.m.e.length de,.int .i64 k.m.z]) k.m∧IsD w (.slice k6 k.d.length d6) (yaq k.d):=by
 obtain⟨vi,vh,vs,u6,u7,u8,u12,u13,hcs,hk⟩:=h
 have hk':=hk
 obtain⟨yi,yh,ys,y6,y7,y8,y12,y13,e,hm,h6,h7,h8,h12,h13⟩:=hk'
 have e9:=congrArg Array.toList (Value.agg.inj e)
 simp at e9
 obtain⟨e1,e2,e3,e4,e5,e6,e7,e8⟩:=e9
 subst e1 e2 e3 e4 e5 e6 e7 e8
 have hm':=hm
 obtain⟨xi,xh,xs,e,⟨ai,ci,ei,_⟩,⟨ah,ch,eh,_⟩,⟨ae,ce,ee,_⟩⟩:=hm'
 have e9:=congrArg Array.toList (Value.agg.inj e)
 simp at e9
 obtain⟨e1,e2,e3⟩:=e9
 subst e1 e2 e3 ei eh ee
 have h6':=h6
 obtain⟨a6,c6,rfl,_⟩:=IsD.parts (c:=1) (n:=k.d.length) h6
 obtain⟨a7,c7,rfl,_⟩:=IsD.parts (c:=7) (n:=k.p.length) h7
 obtain⟨a8,c8,rfl,_⟩:=IsD.parts (c:=8) (n:=k.b.length) h8
 obtain⟨a12,c12,rfl,_⟩:=IsD.parts (c:=7) (n:=k.s.length) h12
 obtain⟨a13,c13,rfl,_⟩:=IsD.parts (c:=3) (n:=k.x.length) h13
 exact⟨ai,ci,ah,ch,ae,ce,a6,c6,a7,c7,a8,c8,a12,c12,a13,c13,hcs,hk,hm,h6'⟩
def strB (l:List UInt8):ByteArray:=⟨l.toArray⟩
theorem yhl (l:List UInt8):(strB l).toList=l:=Go.ByteArray.toList_mk l
theorem addS (b off n:Nat):(⟨b,off,none⟩:Addr).add n=⟨b,off+n,none⟩:=by
 unfold Addr.add
 split
 next h=>rw [h];rfl
 ·rfl
theorem yeq (w:World) (u:Value) (l:List UInt8) (hne:l≠ []) (h:By.IsI w u l):(convert 127 9 u).run Tryz.prog w= .ok (.string (strB l)) w:=by
 obtain⟨a,cap,rfl,_,_,h⟩:=h
 obtain⟨b,off,rfl,hI⟩:=h.resolve_left hne
 exact run_convert_bytes_back (P:=Tryz.prog) w 127 9 5 ⟨b,off,none⟩ cap l Tryz.underlying127 Tryz.underlying5 Tryz.underlying9 (fun j hj=>by
   have h9:=hI.2 j hj
   rw [show(⟨b,off,none⟩:Addr).add j=⟨b,off+j,none⟩from addS b off j,h9]
   simp [By.intAt,hj])
theorem ydr (m:Md):ycz m≠ []:=by
 unfold ycz yek
 simp
end Go.Proofs.YtmobiieoecjmdaaGreat

