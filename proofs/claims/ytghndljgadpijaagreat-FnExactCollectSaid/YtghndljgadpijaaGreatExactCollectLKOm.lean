/- The specification's copy of a model. -/
import Derived.Test.YtghndljgadpijaaGreatExactCollectG01
import Derived.Test.YtghndljgadpijaaGreatExactCollectG36
import Derived.Test.YtghndljgadpijaaGreatExactCollectG06
import Derived.Deep.CutBlock
namespace Go.Proofs.YtghndljgadpijaaGreat
open Go.RowKit
theorem zag {P:Program} {md:Region.Mode} {ops:Array Oper} {Q:Exit→Act→World→Prop} {S:World→Prop} {z fuel:Nat} {listed:Array Bool} {a:Act} {w:World} (i:Nat) (oi:Oper) (v:Value)
  (h:yx7 P md ops Q S z fuel (listed.setIfInBounds i true) (a.put oi.dst v) w) (hi:ops[i]? =some oi:=by rfl)
  (hs:Region.noSelect ops=true:=by kernel_rfl) (hf:Region.free md ops listed i=true:=by kernel_rfl) (hr:(Region.ready md ops listed).contains i=true:=by kernel_rfl)
  (hc:yzl md ops i z [i]=true:=by kernel_rfl) (hu: [i].all (fun p=> !listed.getD p true)=true:=by kernel_rfl)
  (hQ:∀c a w,Q (.panic c) (a.put oi.dst v) w→Q (.panic c) a w:=by exact fun _ _ _ h=>h)
  (hy:YieldsIf P ops S oi v a:=by exact Or.inl ⟨by rfl,by(intro wX hSw;(try dsimp only at hSw);go_simp;(try exact IntWalk.i64_in _ (by omega)))⟩) (hS:S w:=by assumption):yx7 P md ops Q S z (fuel+1) listed a w:=
  ywe i [] hi hs hf hr hc hu hQ hy hS h
theorem yxx {p:Prop} (h:p):Hid p:=h
def zhh (w:World) (b:Nat) (n s:Int) (vi vh vs:Value) (z:Int):World:=(((((w.setCell ⟨b,0,none⟩ (.int .i64 n)).setCell ⟨b,1,none⟩ (.int .i64 s)).setCell ⟨b,2,none⟩ vi).setCell ⟨b,3,none⟩ vh).setCell ⟨b,4,none⟩ vs).setCell ⟨b,5,none⟩ (.int .i64 z)
theorem zay (w:World) (b:Nat) (n s:Int) (vi vh vs:Value) (z:Int):Turns (fun k=>k=b) w (zhh w b n s vi vh vs z):=
  (((((yag _ _ 0 _).trans (yag _ _ 1 _)).trans (yag _ _ 2 _)).trans (yag _ _ 3 _)).trans (yag _ _ 4 _)).trans (yag _ _ 5 _)
theorem mb_begin {w:World} {B Rb Mb:Nat} {m:Md} {vi vs:Value} (hM:Bk w Mb 36 #[.int .i64 0,.int .i64 0,.slice none 0 0,.slice none 0 0,.slice none 0 0,.int .i64 0]) (hR:Bk w Rb 36 Z6) (hne:Rb≠Mb) (hi:w.ownsRow B 3 1 vi m.i.length (intCells m.i)) (he:w.ownsRow B 90 7 vs m.e.length (yvz m.e)):
    MB (zhh w Mb m.n m.s vi (.slice none 0 0) vs m.z) B Rb Mb ⟨m.n,m.s,m.i,[],m.e,m.z⟩ vi (.slice none 0 0) vs []:=by
  have ht:=zay w Mb m.n m.s vi (.slice none 0 0) vs m.z
  exact⟨hne,hR.turns ht hne,(((((hM.put 0 _).put 1 _).put 2 _).put 3 _).put 4 _).put 5 _,ypa hi ht (fun k hk e=>ywp hi hM (by decide) (e▸hk)),World.ownsRow_nil _ _ _ _,HsO.nil _ _,ypa he ht (fun k hk e=>ywp he hM (by decide) (e▸hk))⟩
theorem IsO.src {w:World} {x:Value} {l:List O} (h:IsO w x l):SrcC w x 4 l.length (yyv l):=by
  obtain⟨a,cap,rfl,_,_,h⟩:=h
  refine⟨za5 l,a,cap,rfl,h.imp (fun e=>by rw [e];rfl) ?_⟩
  rintro ⟨b,off,rfl,hb,hc⟩
  refine⟨b,off,rfl,hb,fun j hj=> ?_⟩
  obtain⟨g0,g1,g2,g3⟩:=hc (j/4) (by omega)
  have hg:=zc4 l (j/4) (j%4) (by omega) (by omega)
  rw [show j/4*4+j%4=j from by omega]at hg
  rw [hg]
  have h4:j%4=0∨j%4=1∨j%4=2∨j%4=3:=by omega
  rcases h4 with e|e|e|e
  · rw [e,show off+j=off+j/4*4 from by omega];exact g0
  · rw [e,show off+j=off+j/4*4+1 from by omega];exact g1
  · rw [e,show off+j=off+j/4*4+2 from by omega];exact g2
  · rw [e,show off+j=off+j/4*4+3 from by omega];exact g3
theorem bk_one {w:World} {X:Nat} {T:TypeId} {v:Value} (h:Bk w X T #[v]):∀j u,[v][j]? =some u→w.cell? ((⟨X,0,none⟩:Addr).add j)=some u:=by
  intro j u hu
  rw [Addr.add_lit,Nat.zero_add]
  exact h.cell (by simpa using hu)
theorem keep5 {wr W:World} {B Rb Mb P b off k cvh ln:Nat} {m5:Md} {vi vs:Value} {us:List Value} {avh:Option Addr} {xs:Array Value} {sl vh9:Value} (hG:MB W B Rb Mb m5 vi (.slice avh ln cvh) vs us) (hl:ln=k) (hP:Bk W P 36 xs) (hB:Below B wr W) (hb:b<B) (f1:wr.cell? ⟨b,off,none⟩=some sl) (hx:xs[3]? =some vh9):W.cell? ⟨Mb,3,none⟩=some (.slice avh k cvh)∧W.cell? ⟨P,3,none⟩=some vh9∧W.cell? ⟨b,off,none⟩=some sl:=by
  subst hl
  exact⟨hG.b.cell (i:=3) rfl,hP.cell (i:=3) hx,(hB.cell (p:=⟨b,_,none⟩) hb).trans f1⟩
set_option maxRecDepth 100000 in
set_option maxHeartbeats 16000000 in
theorem ownM_any (x:Value) (m:Md) (w:World) (hil:m.i.length≤1048576) (hhl:m.h.length≤1048576) (hel:m.e.length≤1048576) (hol:∀i,i<m.h.length→(hAt m.h i).length≤1048576) (h:IsM w x m):
    Calls Tryz.prog 105 #[x] w fun e w'=>∃y,e= .returned y∧Below w.heap.size w w'∧MdF (fun k=>w.heap.size≤k∧k<w'.heap.size) w' y m:=by
  obtain⟨vi0,vh0,vs0,rfl,hI,hH,hE⟩:=h
  have hdI:=hI.isD
  have hdE:=hE.isD
  obtain⟨ai,ci,rfl,_⟩:=hI
  obtain⟨ah,ch,rfl,_,_,hh3⟩:=hH
  obtain⟨ae,ce,rfl,_⟩:=hE
  have HH:=yxx hh3
  have HOL:=yxx hol
  clear hh3 hol
  obtain⟨Rb,hRb⟩:∃Rb,Rb=w.heap.size+1:=⟨_,rfl⟩
  obtain⟨W0,hW0⟩:∃W0,(w.alloc (.cells #[.int .i64 m.n,.int .i64 m.s,.slice ai m.i.length ci,.slice ah m.h.length ch,.slice ae m.e.length ce,.int .i64 m.z] 36)).alloc (.cells #[.int .i64 0,.int .i64 0,.slice none 0 0,.slice none 0 0,.slice none 0 0,.int .i64 0] 36)=W0:=⟨_,rfl⟩
  have HP:=hdq (bkA2 hW0)
  have HR0:Hid (Bk W0 Rb 36 Z6):=by rw [←hW0];exact Bk.newAt (by simp [hRb]) _ _
  have HB0:=hdq (beA2 hW0)
  obtain⟨B,hBe⟩:∃B,B=W0.heap.size:=⟨_,rfl⟩
  have hBW:B≤W0.heap.size:=by omega
  have hRB:Rb<B:=hBe▸HR0.out.lt
  have hPB:w.heap.size<B:=by omega
  have HSI:Hid (∀W,Below B W0 W→SrcC W (.slice ai m.i.length ci) 1 m.i.length (intCells m.i)):=fun W hW=>(IsD.src hdI (by rw [yws];omega)).below (HB0.out.trans (hW.mono (by omega)))
  have HSE:Hid (∀W,Below B W0 W→SrcC W (.slice ae m.e.length ce) 7 m.e.length (yvz m.e)):=fun W hW=>(IsD.src hdE (ywc _)).below (HB0.out.trans (hW.mono (by omega)))
  clear hdI hdE
  go_enter Tryz.func105,Tryz.ntmps105
  have hRb':=hRb.symm
  clear hBe hRb
  go_upto_region 1 with fail
  try rw [hW0]
  clear hW0
  go_cut [3]from 4 (fun s3 wc=>∃Mb vi vh vs,s3= .pointer (some ⟨Mb,0,none⟩)∧MB wc B Rb Mb ⟨m.n,m.s,m.i,[],m.e,m.z⟩ vi vh vs []∧Bk wc w.heap.size 36 #[.int .i64 m.n,.int .i64 m.s,.slice ai m.i.length ci,.slice ah m.h.length ch,.slice ae m.e.length ce,.int .i64 m.z]∧Below B W0 wc∧B≤Mb)
  case first=>
    refine yx1 15 (fun W=>W.cell? ⟨w.heap.size,0,none⟩=some (.int .i64 m.n)∧W.cell? ⟨w.heap.size,1,none⟩=some (.int .i64 m.s)∧W.cell? ⟨w.heap.size,2,none⟩=some (.slice ai m.i.length ci)∧W.cell? ⟨w.heap.size,4,none⟩=some (.slice ae m.e.length ce)∧W.cell? ⟨w.heap.size,5,none⟩=some (.int .i64 m.z)) (by kernel_rfl) ⟨HP.out.drew.cell (i:=0) rfl,HP.out.drew.cell (i:=1) rfl,HP.out.drew.cell (i:=2) rfl,HP.out.drew.cell (i:=4) rfl,HP.out.drew.cell (i:=5) rfl⟩ (fun hHeld=> ?_)
    obtain⟨wd,hwd⟩:∃wd,W0.drew=wd:=⟨_,rfl⟩
    rw [hwd]at hHeld
    rw [hwd]
    have HPX:Hid (Bk wd w.heap.size 36 #[.int .i64 m.n,.int .i64 m.s,.slice ai m.i.length ci,.slice ah m.h.length ch,.slice ae m.e.length ce,.int .i64 m.z]):=hwd▸HP.out.drew
    have HRX:Hid (Bk wd Rb 36 Z6):=hwd▸HR0.out.drew
    have HBX:Hid (Below B W0 wd):=hwd▸(Below.refl B W0).drew
    clear hwd
    refine zag 0 {dst:=some 5,op:=Op.fieldAddr 36 (Operand.tmp 1) 0,type:=0,pos:=_,after:=_,guard:=none} (.pointer (some ⟨w.heap.size,0,none⟩)) ?_
    try simp only [Act.put,q1,q2,q3]
    refine zag 1 {dst:=some 6,op:=Op.load 3 (Operand.tmp 5),type:=3,pos:=_,after:=_,guard:=none} (.int .i64 m.n) ?_
    try simp only [Act.put,q1,q2,q3]
    refine zag 2 {dst:=some 7,op:=Op.fieldAddr 36 (Operand.tmp 1) 1,type:=0,pos:=_,after:=_,guard:=none} (.pointer (some ⟨w.heap.size,1,none⟩)) ?_
    try simp only [Act.put,q1,q2,q3]
    refine zag 3 {dst:=some 8,op:=Op.load 3 (Operand.tmp 7),type:=3,pos:=_,after:=_,guard:=none} (.int .i64 m.s) ?_
    try simp only [Act.put,q1,q2,q3]
    refine zag 5 {dst:=some 10,op:=Op.fieldAddr 36 (Operand.tmp 1) 2,type:=0,pos:=_,after:=_,guard:=none} (.pointer (some ⟨w.heap.size,2,none⟩)) ?_
    try simp only [Act.put,q1,q2,q3]
    refine zag 6 {dst:=some 11,op:=Op.load 22 (Operand.tmp 10),type:=22,pos:=_,after:=_,guard:=none} (.slice ai m.i.length ci) ?_
    try simp only [Act.put,q1,q2,q3]
    refine zag 8 {dst:=some 13,op:=Op.fieldAddr 36 (Operand.tmp 1) 4,type:=0,pos:=_,after:=_,guard:=none} (.pointer (some ⟨w.heap.size,4,none⟩)) ?_
    try simp only [Act.put,q1,q2,q3]
    refine zag 9 {dst:=some 14,op:=Op.load 34 (Operand.tmp 13),type:=34,pos:=_,after:=_,guard:=none} (.slice ae m.e.length ce) ?_
    try simp only [Act.put,q1,q2,q3]
    refine zag 11 {dst:=some 16,op:=Op.fieldAddr 36 (Operand.tmp 1) 5,type:=0,pos:=_,after:=_,guard:=none} (.pointer (some ⟨w.heap.size,5,none⟩)) ?_
    try simp only [Act.put,q1,q2,q3]
    refine zag 12 {dst:=some 17,op:=Op.load 3 (Operand.tmp 16),type:=3,pos:=_,after:=_,guard:=none} (.int .i64 m.z) ?_
    try simp only [Act.put,q1,q2,q3]
    refine yfb (rs:= [4,14]) (by kernel_rfl) (by simp) ?_
    refine AllReadyZ.cons (o:= {dst:=some 9,op:=Op.buildSlice 22 0 #[],type:=22,pos:=_,after:=_,guard:=none}) rfl (fun K hK=> ?g2x) (AllReadyZ.cons (o:= {dst:=some 3,op:=Op.alloc 36,type:=0,pos:=_,after:=_,guard:=none}) rfl (fun K hK=> ?g1x) AllReadyZ.nil)
    case' g2x=>
      obtain⟨g4,hg4⟩:∃X,X=wd.heap.size:=⟨_,rfl⟩
      obtain⟨v3,hV⟩:∃V,wd.alloc (.cells #[] 3)=V:=⟨_,rfl⟩
      have HZ:Hid (B≤wd.heap.size):=Nat.le_trans hBW HBX.out.size
      have HG9:Hid (v3.ownsRow B 3 1 (.slice (some ⟨g4,0,none⟩) 0 0) 0 []):=hV▸hg4▸yw0 (yx8 wd 3 1) HZ.out
      have HPX':Hid (Bk v3 w.heap.size 36 #[.int .i64 m.n,.int .i64 m.s,.slice ai m.i.length ci,.slice ah m.h.length ch,.slice ae m.e.length ce,.int .i64 m.z]):=hV▸HPX.out.alloc _
      have HRX':Hid (Bk v3 Rb 36 Z6):=hV▸HRX.out.alloc _
      have HBX':Hid (Below B W0 v3):=hV▸HBX.out.alloc HZ.out _
      clear HPX HRX HBX
      have HPX:=HPX'
      have HRX:=HRX'
      have HBX:=HBX'
      clear HPX' HRX' HBX'
      have HG:=HG9
      clear HG9
      have HX:Hid (g4=wd.heap.size):=hg4
      have HV:=yxx hV
      clear hV hg4 HZ
      go_simp
      rw [HV.out,←HX.out]
      clear HV HX
      refine hK.out _ _ ⟨HPX.out.cell (i:=0) rfl,HPX.out.cell (i:=1) rfl,HPX.out.cell (i:=2) rfl,HPX.out.cell (i:=4) rfl,HPX.out.cell (i:=5) rfl⟩ (fun hHeld=> ?_)
      clear hK K
      try simp only [Act.put,q1,q2,q3]
      refine yfb (rs:= [7,14]) (by kernel_rfl) (by simp) ?_
      refine AllReadyZ.cons (o:= {dst:=some 12,op:=Op.call {callee:=Callee.builtin Builtin.append,args:= #[Operand.tmp 9,Operand.tmp 11],argTypes:= #[22,22]},type:=22,pos:=_,after:=_,guard:=none}) rfl (fun K hK=> ?g5x) (AllReadyZ.cons (o:= {dst:=some 3,op:=Op.alloc 36,type:=0,pos:=_,after:=_,guard:=none}) rfl (fun K hK=> ?g4x) AllReadyZ.nil)
      case' g5x=>
        obtain⟨i0,hi0,hz0,hz1,hz2⟩:=info_parts zf8
        refine ywl rfl (.tmp 9) (.tmp 11) 22 rfl B 3 i0 (.int .i64 0) 1 8 Tryz.underlying22 hi0 hz0 hz1 hz2 rfl (by decide) (.slice (some ⟨g4,0,none⟩) 0 0) 0 [] rfl HG.out (.slice ai m.i.length ci) m.i.length (intCells m.i) rfl (HSI.out v3 HBX.out) (yzh _) (by unfold maxLen;omega) (by omega) (Nat.le_trans hBW HBX.out.size) ?_
        intro vi v6 ho hg hnr
        rw [Nat.zero_add,List.nil_append]at ho
        obtain⟨avi,cvi,rfl⟩:=yfm ho
        have HT:=yxx (yw9 hg)
        have HI9:=yxx ho
        have HPX':Hid (Bk v6 w.heap.size 36 #[.int .i64 m.n,.int .i64 m.s,.slice ai m.i.length ci,.slice ah m.h.length ch,.slice ae m.e.length ce,.int .i64 m.z]):=HPX.out.turns HT.out (ywp HG.out HPX.out (by decide))
        have HRX':Hid (Bk v6 Rb 36 Z6):=HRX.out.turns HT.out (ywp HG.out HRX.out (by decide))
        have HBX':Hid (Below B W0 v6):=HBX.out.trans ((Below.refl B v3).grown hg (Nat.le_trans hBW HBX.out.size) (fun j e=>yx4 HG.out e))
        clear HPX HRX HBX
        have HPX:=HPX'
        have HRX:=HRX'
        have HBX:=HBX'
        clear HPX' HRX' HBX'
        have HI:=HI9
        clear HI9 HG HT ho hg hnr hi0 hz0 hz1 hz2
        refine hK.out _ _ ⟨HPX.out.cell (i:=0) rfl,HPX.out.cell (i:=1) rfl,HPX.out.cell (i:=2) rfl,HPX.out.cell (i:=4) rfl,HPX.out.cell (i:=5) rfl⟩ (fun hHeld=> ?_)
        clear hK K
        try simp only [Act.put,q1,q2,q3]
        refine yfb (rs:= [10,14]) (by kernel_rfl) (by simp) ?_
        refine AllReadyZ.cons (o:= {dst:=some 15,op:=Op.call {callee:=Callee.value (Operand.func 106),args:= #[Operand.tmp 14],argTypes:= #[34]},type:=34,pos:=_,after:=_,guard:=none}) rfl (fun K hK=> ?g8x) (AllReadyZ.cons (o:= {dst:=some 3,op:=Op.alloc 36,type:=0,pos:=_,after:=_,guard:=none}) rfl (fun K hK=> ?g7x) AllReadyZ.nil)
        case' g8x=>
          go_simp
          refine(yyc _ m.e v6 (by omega) (HSE.out v6 HBX.out)).mono ?_
          rintro e v9 ⟨vs,rfl,ho,hb⟩
          obtain⟨avs,cvs,rfl⟩:=yfm ho
          have HE9:=yxx (yw0 ho (Nat.le_trans hBW HBX.out.size))
          have HPX':Hid (Bk v9 w.heap.size 36 #[.int .i64 m.n,.int .i64 m.s,.slice ai m.i.length ci,.slice ah m.h.length ch,.slice ae m.e.length ce,.int .i64 m.z]):=HPX.out.below hb
          have HRX':Hid (Bk v9 Rb 36 Z6):=HRX.out.below hb
          have HBX':Hid (Below B W0 v9):=HBX.out.trans (hb.mono (Nat.le_trans hBW HBX.out.size))
          have HI':Hid (v9.ownsRow B 3 1 (.slice avi m.i.length cvi) m.i.length (intCells m.i)):=owB HI.out hb
          clear HPX HRX HBX HI
          have HPX:=HPX'
          have HRX:=HRX'
          have HBX:=HBX'
          have HI:=HI'
          clear HPX' HRX' HBX' HI'
          have HE:=HE9
          clear HE9 ho hb
          try go_simp
          refine hK.out _ _ ⟨HPX.out.cell (i:=0) rfl,HPX.out.cell (i:=1) rfl,HPX.out.cell (i:=2) rfl,HPX.out.cell (i:=4) rfl,HPX.out.cell (i:=5) rfl⟩ (fun hHeld=> ?_)
          clear hK K
          try simp only [Act.put,q1,q2,q3]
          refine zag 13 {dst:=some 18,op:=Op.build 36 #[(0,Operand.tmp 6),(1,Operand.tmp 8),(2,Operand.tmp 12),(4,Operand.tmp 15),(5,Operand.tmp 17)],type:=36,pos:=_,after:=_,guard:=none} ((.agg #[.int .i64 m.n,.int .i64 m.s,.slice avi m.i.length cvi,.slice none 0 0,.slice avs m.e.length cvs,.int .i64 m.z])) ?_
          try simp only [Act.put,q1,q2,q3]
          refine yfb (rs:= [14]) (by kernel_rfl) (by simp) ?_
          refine AllReadyZ.cons (o:= {dst:=some 3,op:=Op.alloc 36,type:=0,pos:=_,after:=_,guard:=none}) rfl (fun K hK=> ?g10x) AllReadyZ.nil
          case' g10x=>
            obtain⟨Mb,hMb⟩:∃X,X=v9.heap.size:=⟨_,rfl⟩
            obtain⟨vz,hV⟩:∃V,v9.alloc (.cells #[.int .i64 0,.int .i64 0,.slice none 0 0,.slice none 0 0,.slice none 0 0,.int .i64 0] 36)=V:=⟨_,rfl⟩
            have HZ:Hid (B≤v9.heap.size):=Nat.le_trans hBW HBX.out.size
            have HM9:Hid (Bk vz Mb 36 #[.int .i64 0,.int .i64 0,.slice none 0 0,.slice none 0 0,.slice none 0 0,.int .i64 0]):=hV▸Bk.newAt hMb _ _
            have HMB:Hid (B≤Mb):=hMb▸HZ.out
            have HPX':Hid (Bk vz w.heap.size 36 #[.int .i64 m.n,.int .i64 m.s,.slice ai m.i.length ci,.slice ah m.h.length ch,.slice ae m.e.length ce,.int .i64 m.z]):=hV▸HPX.out.alloc _
            have HRX':Hid (Bk vz Rb 36 Z6):=hV▸HRX.out.alloc _
            have HBX':Hid (Below B W0 vz):=hV▸HBX.out.alloc HZ.out _
            have HI':Hid (vz.ownsRow B 3 1 (.slice avi m.i.length cvi) m.i.length (intCells m.i)):=hV▸World.ownsRow.alloc HI.out _
            have HE':Hid (vz.ownsRow B 90 7 (.slice avs m.e.length cvs) m.e.length (yvz m.e)):=hV▸World.ownsRow.alloc HE.out _
            clear HPX HRX HBX HI HE
            have HPX:=HPX'
            have HRX:=HRX'
            have HBX:=HBX'
            have HI:=HI'
            have HE:=HE'
            clear HPX' HRX' HBX' HI' HE'
            have HM:=HM9
            clear HM9
            have HX:Hid (Mb=v9.heap.size):=hMb
            have HV:=yxx hV
            clear hV hMb HZ
            go_simp
            rw [HV.out,←HX.out]
            clear HV HX
            refine hK.out _ _ ⟨HPX.out.cell (i:=0) rfl,HPX.out.cell (i:=1) rfl,HPX.out.cell (i:=2) rfl,HPX.out.cell (i:=4) rfl,HPX.out.cell (i:=5) rfl⟩ (fun hHeld=> ?_)
            clear hK K
            try simp only [Act.put,q1,q2,q3]
        case' g7x=>
          obtain⟨Mb,hMb⟩:∃X,X=v6.heap.size:=⟨_,rfl⟩
          obtain⟨v12,hV⟩:∃V,v6.alloc (.cells #[.int .i64 0,.int .i64 0,.slice none 0 0,.slice none 0 0,.slice none 0 0,.int .i64 0] 36)=V:=⟨_,rfl⟩
          have HZ:Hid (B≤v6.heap.size):=Nat.le_trans hBW HBX.out.size
          have HM9:Hid (Bk v12 Mb 36 #[.int .i64 0,.int .i64 0,.slice none 0 0,.slice none 0 0,.slice none 0 0,.int .i64 0]):=hV▸Bk.newAt hMb _ _
          have HMB:Hid (B≤Mb):=hMb▸HZ.out
          have HPX':Hid (Bk v12 w.heap.size 36 #[.int .i64 m.n,.int .i64 m.s,.slice ai m.i.length ci,.slice ah m.h.length ch,.slice ae m.e.length ce,.int .i64 m.z]):=hV▸HPX.out.alloc _
          have HRX':Hid (Bk v12 Rb 36 Z6):=hV▸HRX.out.alloc _
          have HBX':Hid (Below B W0 v12):=hV▸HBX.out.alloc HZ.out _
          have HI':Hid (v12.ownsRow B 3 1 (.slice avi m.i.length cvi) m.i.length (intCells m.i)):=hV▸World.ownsRow.alloc HI.out _
          clear HPX HRX HBX HI
          have HPX:=HPX'
          have HRX:=HRX'
          have HBX:=HBX'
          have HI:=HI'
          clear HPX' HRX' HBX' HI'
          have HM:=HM9
          clear HM9
          have HX:Hid (Mb=v6.heap.size):=hMb
          have HV:=yxx hV
          clear hV hMb HZ
          go_simp
          rw [HV.out,←HX.out]
          clear HV HX
          refine hK.out _ _ ⟨HPX.out.cell (i:=0) rfl,HPX.out.cell (i:=1) rfl,HPX.out.cell (i:=2) rfl,HPX.out.cell (i:=4) rfl,HPX.out.cell (i:=5) rfl⟩ (fun hHeld=> ?_)
          clear hK K
          try simp only [Act.put,q1,q2,q3]
          refine yfb (rs:= [10]) (by kernel_rfl) (by simp) ?_
          refine AllReadyZ.cons (o:= {dst:=some 15,op:=Op.call {callee:=Callee.value (Operand.func 106),args:= #[Operand.tmp 14],argTypes:= #[34]},type:=34,pos:=_,after:=_,guard:=none}) rfl (fun K hK=> ?g13x) AllReadyZ.nil
          case' g13x=>
            go_simp
            refine(yyc _ m.e v12 (by omega) (HSE.out v12 HBX.out)).mono ?_
            rintro e vz ⟨vs,rfl,ho,hb⟩
            obtain⟨avs,cvs,rfl⟩:=yfm ho
            have HE9:=yxx (yw0 ho (Nat.le_trans hBW HBX.out.size))
            have HPX':Hid (Bk vz w.heap.size 36 #[.int .i64 m.n,.int .i64 m.s,.slice ai m.i.length ci,.slice ah m.h.length ch,.slice ae m.e.length ce,.int .i64 m.z]):=HPX.out.below hb
            have HRX':Hid (Bk vz Rb 36 Z6):=HRX.out.below hb
            have HBX':Hid (Below B W0 vz):=HBX.out.trans (hb.mono (Nat.le_trans hBW HBX.out.size))
            have HI':Hid (vz.ownsRow B 3 1 (.slice avi m.i.length cvi) m.i.length (intCells m.i)):=owB HI.out hb
            have HM':Hid (Bk vz Mb 36 #[.int .i64 0,.int .i64 0,.slice none 0 0,.slice none 0 0,.slice none 0 0,.int .i64 0]):=HM.out.below hb
            clear HPX HRX HBX HI HM
            have HPX:=HPX'
            have HRX:=HRX'
            have HBX:=HBX'
            have HI:=HI'
            have HM:=HM'
            clear HPX' HRX' HBX' HI' HM'
            have HE:=HE9
            clear HE9 ho hb
            try go_simp
            refine hK.out _ _ ⟨HPX.out.cell (i:=0) rfl,HPX.out.cell (i:=1) rfl,HPX.out.cell (i:=2) rfl,HPX.out.cell (i:=4) rfl,HPX.out.cell (i:=5) rfl⟩ (fun hHeld=> ?_)
            clear hK K
            try simp only [Act.put,q1,q2,q3]
            refine zag 13 {dst:=some 18,op:=Op.build 36 #[(0,Operand.tmp 6),(1,Operand.tmp 8),(2,Operand.tmp 12),(4,Operand.tmp 15),(5,Operand.tmp 17)],type:=36,pos:=_,after:=_,guard:=none} ((.agg #[.int .i64 m.n,.int .i64 m.s,.slice avi m.i.length cvi,.slice none 0 0,.slice avs m.e.length cvs,.int .i64 m.z])) ?_
            try simp only [Act.put,q1,q2,q3]
      case' g4x=>
        obtain⟨Mb,hMb⟩:∃X,X=v3.heap.size:=⟨_,rfl⟩
        obtain⟨v15,hV⟩:∃V,v3.alloc (.cells #[.int .i64 0,.int .i64 0,.slice none 0 0,.slice none 0 0,.slice none 0 0,.int .i64 0] 36)=V:=⟨_,rfl⟩
        have HZ:Hid (B≤v3.heap.size):=Nat.le_trans hBW HBX.out.size
        have HM9:Hid (Bk v15 Mb 36 #[.int .i64 0,.int .i64 0,.slice none 0 0,.slice none 0 0,.slice none 0 0,.int .i64 0]):=hV▸Bk.newAt hMb _ _
        have HMB:Hid (B≤Mb):=hMb▸HZ.out
        have HPX':Hid (Bk v15 w.heap.size 36 #[.int .i64 m.n,.int .i64 m.s,.slice ai m.i.length ci,.slice ah m.h.length ch,.slice ae m.e.length ce,.int .i64 m.z]):=hV▸HPX.out.alloc _
        have HRX':Hid (Bk v15 Rb 36 Z6):=hV▸HRX.out.alloc _
        have HBX':Hid (Below B W0 v15):=hV▸HBX.out.alloc HZ.out _
        have HG':Hid (v15.ownsRow B 3 1 (.slice (some ⟨g4,0,none⟩) 0 0) 0 []):=hV▸World.ownsRow.alloc HG.out _
        clear HPX HRX HBX HG
        have HPX:=HPX'
        have HRX:=HRX'
        have HBX:=HBX'
        have HG:=HG'
        clear HPX' HRX' HBX' HG'
        have HM:=HM9
        clear HM9
        have HX:Hid (Mb=v3.heap.size):=hMb
        have HV:=yxx hV
        clear hV hMb HZ
        go_simp
        rw [HV.out,←HX.out]
        clear HV HX
        refine hK.out _ _ ⟨HPX.out.cell (i:=0) rfl,HPX.out.cell (i:=1) rfl,HPX.out.cell (i:=2) rfl,HPX.out.cell (i:=4) rfl,HPX.out.cell (i:=5) rfl⟩ (fun hHeld=> ?_)
        clear hK K
        try simp only [Act.put,q1,q2,q3]
        refine yfb (rs:= [7]) (by kernel_rfl) (by simp) ?_
        refine AllReadyZ.cons (o:= {dst:=some 12,op:=Op.call {callee:=Callee.builtin Builtin.append,args:= #[Operand.tmp 9,Operand.tmp 11],argTypes:= #[22,22]},type:=22,pos:=_,after:=_,guard:=none}) rfl (fun K hK=> ?g16x) AllReadyZ.nil
        case' g16x=>
          obtain⟨i0,hi0,hz0,hz1,hz2⟩:=info_parts zf8
          refine ywl rfl (.tmp 9) (.tmp 11) 22 rfl B 3 i0 (.int .i64 0) 1 8 Tryz.underlying22 hi0 hz0 hz1 hz2 rfl (by decide) (.slice (some ⟨g4,0,none⟩) 0 0) 0 [] rfl HG.out (.slice ai m.i.length ci) m.i.length (intCells m.i) rfl (HSI.out v15 HBX.out) (yzh _) (by unfold maxLen;omega) (by omega) (Nat.le_trans hBW HBX.out.size) ?_
          intro vi v17 ho hg hnr
          rw [Nat.zero_add,List.nil_append]at ho
          obtain⟨avi,cvi,rfl⟩:=yfm ho
          have HT:=yxx (yw9 hg)
          have HI9:=yxx ho
          have HPX':Hid (Bk v17 w.heap.size 36 #[.int .i64 m.n,.int .i64 m.s,.slice ai m.i.length ci,.slice ah m.h.length ch,.slice ae m.e.length ce,.int .i64 m.z]):=HPX.out.turns HT.out (ywp HG.out HPX.out (by decide))
          have HRX':Hid (Bk v17 Rb 36 Z6):=HRX.out.turns HT.out (ywp HG.out HRX.out (by decide))
          have HBX':Hid (Below B W0 v17):=HBX.out.trans ((Below.refl B v15).grown hg (Nat.le_trans hBW HBX.out.size) (fun j e=>yx4 HG.out e))
          have HM':Hid (Bk v17 Mb 36 #[.int .i64 0,.int .i64 0,.slice none 0 0,.slice none 0 0,.slice none 0 0,.int .i64 0]):=HM.out.turns HT.out (ywp HG.out HM.out (by decide))
          clear HPX HRX HBX HM
          have HPX:=HPX'
          have HRX:=HRX'
          have HBX:=HBX'
          have HM:=HM'
          clear HPX' HRX' HBX' HM'
          have HI:=HI9
          clear HI9 HG HT ho hg hnr hi0 hz0 hz1 hz2
          refine hK.out _ _ ⟨HPX.out.cell (i:=0) rfl,HPX.out.cell (i:=1) rfl,HPX.out.cell (i:=2) rfl,HPX.out.cell (i:=4) rfl,HPX.out.cell (i:=5) rfl⟩ (fun hHeld=> ?_)
          clear hK K
          try simp only [Act.put,q1,q2,q3]
          refine yfb (rs:= [10]) (by kernel_rfl) (by simp) ?_
          refine AllReadyZ.cons (o:= {dst:=some 15,op:=Op.call {callee:=Callee.value (Operand.func 106),args:= #[Operand.tmp 14],argTypes:= #[34]},type:=34,pos:=_,after:=_,guard:=none}) rfl (fun K hK=> ?g18x) AllReadyZ.nil
          case' g18x=>
            go_simp
            refine(yyc _ m.e v17 (by omega) (HSE.out v17 HBX.out)).mono ?_
            rintro e vz ⟨vs,rfl,ho,hb⟩
            obtain⟨avs,cvs,rfl⟩:=yfm ho
            have HE9:=yxx (yw0 ho (Nat.le_trans hBW HBX.out.size))
            have HPX':Hid (Bk vz w.heap.size 36 #[.int .i64 m.n,.int .i64 m.s,.slice ai m.i.length ci,.slice ah m.h.length ch,.slice ae m.e.length ce,.int .i64 m.z]):=HPX.out.below hb
            have HRX':Hid (Bk vz Rb 36 Z6):=HRX.out.below hb
            have HBX':Hid (Below B W0 vz):=HBX.out.trans (hb.mono (Nat.le_trans hBW HBX.out.size))
            have HI':Hid (vz.ownsRow B 3 1 (.slice avi m.i.length cvi) m.i.length (intCells m.i)):=owB HI.out hb
            have HM':Hid (Bk vz Mb 36 #[.int .i64 0,.int .i64 0,.slice none 0 0,.slice none 0 0,.slice none 0 0,.int .i64 0]):=HM.out.below hb
            clear HPX HRX HBX HI HM
            have HPX:=HPX'
            have HRX:=HRX'
            have HBX:=HBX'
            have HI:=HI'
            have HM:=HM'
            clear HPX' HRX' HBX' HI' HM'
            have HE:=HE9
            clear HE9 ho hb
            try go_simp
            refine hK.out _ _ ⟨HPX.out.cell (i:=0) rfl,HPX.out.cell (i:=1) rfl,HPX.out.cell (i:=2) rfl,HPX.out.cell (i:=4) rfl,HPX.out.cell (i:=5) rfl⟩ (fun hHeld=> ?_)
            clear hK K
            try simp only [Act.put,q1,q2,q3]
            refine zag 13 {dst:=some 18,op:=Op.build 36 #[(0,Operand.tmp 6),(1,Operand.tmp 8),(2,Operand.tmp 12),(4,Operand.tmp 15),(5,Operand.tmp 17)],type:=36,pos:=_,after:=_,guard:=none} ((.agg #[.int .i64 m.n,.int .i64 m.s,.slice avi m.i.length cvi,.slice none 0 0,.slice avs m.e.length cvs,.int .i64 m.z])) ?_
            try simp only [Act.put,q1,q2,q3]
    case' g1x=>
      obtain⟨Mb,hMb⟩:∃X,X=wd.heap.size:=⟨_,rfl⟩
      obtain⟨v20,hV⟩:∃V,wd.alloc (.cells #[.int .i64 0,.int .i64 0,.slice none 0 0,.slice none 0 0,.slice none 0 0,.int .i64 0] 36)=V:=⟨_,rfl⟩
      have HZ:Hid (B≤wd.heap.size):=Nat.le_trans hBW HBX.out.size
      have HM9:Hid (Bk v20 Mb 36 #[.int .i64 0,.int .i64 0,.slice none 0 0,.slice none 0 0,.slice none 0 0,.int .i64 0]):=hV▸Bk.newAt hMb _ _
      have HMB:Hid (B≤Mb):=hMb▸HZ.out
      have HPX':Hid (Bk v20 w.heap.size 36 #[.int .i64 m.n,.int .i64 m.s,.slice ai m.i.length ci,.slice ah m.h.length ch,.slice ae m.e.length ce,.int .i64 m.z]):=hV▸HPX.out.alloc _
      have HRX':Hid (Bk v20 Rb 36 Z6):=hV▸HRX.out.alloc _
      have HBX':Hid (Below B W0 v20):=hV▸HBX.out.alloc HZ.out _
      clear HPX HRX HBX
      have HPX:=HPX'
      have HRX:=HRX'
      have HBX:=HBX'
      clear HPX' HRX' HBX'
      have HM:=HM9
      clear HM9
      have HX:Hid (Mb=wd.heap.size):=hMb
      have HV:=yxx hV
      clear hV hMb HZ
      go_simp
      rw [HV.out,←HX.out]
      clear HV HX
      refine hK.out _ _ ⟨HPX.out.cell (i:=0) rfl,HPX.out.cell (i:=1) rfl,HPX.out.cell (i:=2) rfl,HPX.out.cell (i:=4) rfl,HPX.out.cell (i:=5) rfl⟩ (fun hHeld=> ?_)
      clear hK K
      try simp only [Act.put,q1,q2,q3]
      refine yfb (rs:= [4]) (by kernel_rfl) (by simp) ?_
      refine AllReadyZ.cons (o:= {dst:=some 9,op:=Op.buildSlice 22 0 #[],type:=22,pos:=_,after:=_,guard:=none}) rfl (fun K hK=> ?g21x) AllReadyZ.nil
      case' g21x=>
        obtain⟨g4,hg4⟩:∃X,X=v20.heap.size:=⟨_,rfl⟩
        obtain⟨v22,hV⟩:∃V,v20.alloc (.cells #[] 3)=V:=⟨_,rfl⟩
        have HZ:Hid (B≤v20.heap.size):=Nat.le_trans hBW HBX.out.size
        have HG9:Hid (v22.ownsRow B 3 1 (.slice (some ⟨g4,0,none⟩) 0 0) 0 []):=hV▸hg4▸yw0 (yx8 v20 3 1) HZ.out
        have HPX':Hid (Bk v22 w.heap.size 36 #[.int .i64 m.n,.int .i64 m.s,.slice ai m.i.length ci,.slice ah m.h.length ch,.slice ae m.e.length ce,.int .i64 m.z]):=hV▸HPX.out.alloc _
        have HRX':Hid (Bk v22 Rb 36 Z6):=hV▸HRX.out.alloc _
        have HBX':Hid (Below B W0 v22):=hV▸HBX.out.alloc HZ.out _
        have HM':Hid (Bk v22 Mb 36 #[.int .i64 0,.int .i64 0,.slice none 0 0,.slice none 0 0,.slice none 0 0,.int .i64 0]):=hV▸HM.out.alloc _
        clear HPX HRX HBX HM
        have HPX:=HPX'
        have HRX:=HRX'
        have HBX:=HBX'
        have HM:=HM'
        clear HPX' HRX' HBX' HM'
        have HG:=HG9
        clear HG9
        have HX:Hid (g4=v20.heap.size):=hg4
        have HV:=yxx hV
        clear hV hg4 HZ
        go_simp
        rw [HV.out,←HX.out]
        clear HV HX
        refine hK.out _ _ ⟨HPX.out.cell (i:=0) rfl,HPX.out.cell (i:=1) rfl,HPX.out.cell (i:=2) rfl,HPX.out.cell (i:=4) rfl,HPX.out.cell (i:=5) rfl⟩ (fun hHeld=> ?_)
        clear hK K
        try simp only [Act.put,q1,q2,q3]
        refine yfb (rs:= [7]) (by kernel_rfl) (by simp) ?_
        refine AllReadyZ.cons (o:= {dst:=some 12,op:=Op.call {callee:=Callee.builtin Builtin.append,args:= #[Operand.tmp 9,Operand.tmp 11],argTypes:= #[22,22]},type:=22,pos:=_,after:=_,guard:=none}) rfl (fun K hK=> ?g23x) AllReadyZ.nil
        case' g23x=>
          obtain⟨i0,hi0,hz0,hz1,hz2⟩:=info_parts zf8
          refine ywl rfl (.tmp 9) (.tmp 11) 22 rfl B 3 i0 (.int .i64 0) 1 8 Tryz.underlying22 hi0 hz0 hz1 hz2 rfl (by decide) (.slice (some ⟨g4,0,none⟩) 0 0) 0 [] rfl HG.out (.slice ai m.i.length ci) m.i.length (intCells m.i) rfl (HSI.out v22 HBX.out) (yzh _) (by unfold maxLen;omega) (by omega) (Nat.le_trans hBW HBX.out.size) ?_
          intro vi v24 ho hg hnr
          rw [Nat.zero_add,List.nil_append]at ho
          obtain⟨avi,cvi,rfl⟩:=yfm ho
          have HT:=yxx (yw9 hg)
          have HI9:=yxx ho
          have HPX':Hid (Bk v24 w.heap.size 36 #[.int .i64 m.n,.int .i64 m.s,.slice ai m.i.length ci,.slice ah m.h.length ch,.slice ae m.e.length ce,.int .i64 m.z]):=HPX.out.turns HT.out (ywp HG.out HPX.out (by decide))
          have HRX':Hid (Bk v24 Rb 36 Z6):=HRX.out.turns HT.out (ywp HG.out HRX.out (by decide))
          have HBX':Hid (Below B W0 v24):=HBX.out.trans ((Below.refl B v22).grown hg (Nat.le_trans hBW HBX.out.size) (fun j e=>yx4 HG.out e))
          have HM':Hid (Bk v24 Mb 36 #[.int .i64 0,.int .i64 0,.slice none 0 0,.slice none 0 0,.slice none 0 0,.int .i64 0]):=HM.out.turns HT.out (ywp HG.out HM.out (by decide))
          clear HPX HRX HBX HM
          have HPX:=HPX'
          have HRX:=HRX'
          have HBX:=HBX'
          have HM:=HM'
          clear HPX' HRX' HBX' HM'
          have HI:=HI9
          clear HI9 HG HT ho hg hnr hi0 hz0 hz1 hz2
          refine hK.out _ _ ⟨HPX.out.cell (i:=0) rfl,HPX.out.cell (i:=1) rfl,HPX.out.cell (i:=2) rfl,HPX.out.cell (i:=4) rfl,HPX.out.cell (i:=5) rfl⟩ (fun hHeld=> ?_)
          clear hK K
          try simp only [Act.put,q1,q2,q3]
          refine yfb (rs:= [10]) (by kernel_rfl) (by simp) ?_
          refine AllReadyZ.cons (o:= {dst:=some 15,op:=Op.call {callee:=Callee.value (Operand.func 106),args:= #[Operand.tmp 14],argTypes:= #[34]},type:=34,pos:=_,after:=_,guard:=none}) rfl (fun K hK=> ?g25x) AllReadyZ.nil
          case' g25x=>
            go_simp
            refine(yyc _ m.e v24 (by omega) (HSE.out v24 HBX.out)).mono ?_
            rintro e vz ⟨vs,rfl,ho,hb⟩
            obtain⟨avs,cvs,rfl⟩:=yfm ho
            have HE9:=yxx (yw0 ho (Nat.le_trans hBW HBX.out.size))
            have HPX':Hid (Bk vz w.heap.size 36 #[.int .i64 m.n,.int .i64 m.s,.slice ai m.i.length ci,.slice ah m.h.length ch,.slice ae m.e.length ce,.int .i64 m.z]):=HPX.out.below hb
            have HRX':Hid (Bk vz Rb 36 Z6):=HRX.out.below hb
            have HBX':Hid (Below B W0 vz):=HBX.out.trans (hb.mono (Nat.le_trans hBW HBX.out.size))
            have HI':Hid (vz.ownsRow B 3 1 (.slice avi m.i.length cvi) m.i.length (intCells m.i)):=owB HI.out hb
            have HM':Hid (Bk vz Mb 36 #[.int .i64 0,.int .i64 0,.slice none 0 0,.slice none 0 0,.slice none 0 0,.int .i64 0]):=HM.out.below hb
            clear HPX HRX HBX HI HM
            have HPX:=HPX'
            have HRX:=HRX'
            have HBX:=HBX'
            have HI:=HI'
            have HM:=HM'
            clear HPX' HRX' HBX' HI' HM'
            have HE:=HE9
            clear HE9 ho hb
            try go_simp
            refine hK.out _ _ ⟨HPX.out.cell (i:=0) rfl,HPX.out.cell (i:=1) rfl,HPX.out.cell (i:=2) rfl,HPX.out.cell (i:=4) rfl,HPX.out.cell (i:=5) rfl⟩ (fun hHeld=> ?_)
            clear hK K
            try simp only [Act.put,q1,q2,q3]
            refine zag 13 {dst:=some 18,op:=Op.build 36 #[(0,Operand.tmp 6),(1,Operand.tmp 8),(2,Operand.tmp 12),(4,Operand.tmp 15),(5,Operand.tmp 17)],type:=36,pos:=_,after:=_,guard:=none} ((.agg #[.int .i64 m.n,.int .i64 m.s,.slice avi m.i.length cvi,.slice none 0 0,.slice avs m.e.length cvs,.int .i64 m.z])) ?_
            try simp only [Act.put,q1,q2,q3]
    all_goals
      refine yfb (rs:= [15]) (by kernel_rfl) (by simp) ?_
      refine AllReadyZ.last (o:= {dst:=none,op:=Op.store 36 (Operand.tmp 3) (Operand.tmp 18),type:=0,pos:=_,after:=_,guard:=none}) rfl (fun K hK=> ?_)
      obtain⟨k0,k1,k2,k3,k4,k5,kf⟩:_∧_∧_∧_∧_∧_∧_:=⟨HM.out.cell (i:=0) rfl,HM.out.cell (i:=1) rfl,HM.out.cell (i:=2) rfl,HM.out.cell (i:=3) rfl,HM.out.cell (i:=4) rfl,HM.out.cell (i:=5) rfl,HM.out.free⟩
      obtain⟨wf,hwf⟩:∃X,zhh vz Mb m.n m.s (.slice avi m.i.length cvi) (.slice none 0 0) (.slice avs m.e.length cvs) m.z=X:=⟨_,rfl⟩
      have HMB9:Hid (MB wf B Rb Mb ⟨m.n,m.s,m.i,[],m.e,m.z⟩ (.slice avi m.i.length cvi) (.slice none 0 0) (.slice avs m.e.length cvs) []):=hwf▸mb_begin HM.out HRX.out (fun e=>by have h9:=HMB.out;have h8:=hRB;omega) HI.out HE.out
      have HTF:Hid (Turns (fun k=>k=Mb) vz wf):=hwf▸zay _ _ _ _ _ _ _ _
      have HPF:=yxx (HPX.out.turns HTF.out (fun e=>by have h9:=HMB.out;omega))
      have HBF:Hid (Below B W0 wf):=HBX.out.trans (HTF.out.to_below (fun k hk=>by have h9:=HMB.out;omega) (Nat.le_trans hBW HBX.out.size))
      unfold zhh at hwf
      have HWF:Hid _:=hwf
      clear hwf
      go_simp
      rw [HWF.out]
      clear HWF k0 k1 k2 k3 k4 k5 kf HTF HPX HRX HBX HI HE HM
      refine hK.out _ _ ?_
      clear hK K
      try simp only [Act.put,q1,q2,q3]
      refine yx2 (by kernel_rfl) ?_ _
      clear hHeld
      try go_wp2_with fail
      go_meet
      case rel=>exact⟨Mb,_,_,_,rfl,HMB9.out,HPF.out,HBF.out,HMB.out⟩
  case rest=>
    obtain⟨Mb,vi,vh,vs,rfl,hMB,hP1,hB1,hMb⟩:=hcut
    have HG0:=yxx hMB
    have HP0:=yxx hP1
    have HB1:Hid (Below B W0 wc):=hB1
    clear hMB hP1 hB1 HP HR0 HSI HSE
    go_wp2
    go_loopw [4] (fun i wr=>∃(k:Nat) (vh:Value) (us:List Value),k≤m.h.length∧i= .int .i64 k∧Hid (MB wr B Rb Mb ⟨m.n,m.s,m.i,m.h.take k,m.e,m.z⟩ vi vh vs us)∧Hid (Bk wr w.heap.size 36 #[.int .i64 m.n,.int .i64 m.s,.slice ai m.i.length ci,.slice ah m.h.length ch,.slice ae m.e.length ce,.int .i64 m.z])∧Hid (Below B W0 wr)) (fun i _=>m.h.length-(intOf i).toNat)
    case atStart=>exact⟨0,_,_,Nat.zero_le _,rfl,HG0.out,HP0.out,HB1.out⟩
    case round=>
      clear HG0 HP0 HB1
      obtain⟨k,vh,us,hk,rfl,HG,HPr,HBr⟩:=hrel
      have hBw:B≤wr.heap.size:=Nat.le_trans hBW HBr.out.size
      have HBX:=yxx (HB0.out.trans (HBr.out.mono (by omega)))
      have q3:=HPr.out.cell (i:=3) rfl
      by_cases hlt:k<m.h.length
      case pos=>
        have hkd:decide ((k:Int)<(m.h.length:Int))=true:=by simpa using hlt
        obtain⟨b,off,rfl,hb,hc⟩:=HH.out.resolve_left (by intro e;rw [e]at hlt;simp at hlt)
        obtain⟨u,f0,hu⟩:=hc k hlt
        have hr8:=HOL.out k hlt
        have HSR:Hid (∀W,Below B W0 W→SrcC W u 4 (hAt m.h k).length (yyv (hAt m.h k))):=fun W hW=>(IsO.src hu).below (HB0.out.trans (hW.mono (by omega)))
        have f1:=(HBX.out.cell (p:=⟨b,off+k,none⟩) hb).trans f0
        have hbB:b<B:=by omega
        obtain⟨a1,c1,rfl,_⟩:=hu
        have HTK:Hid (m.h.take (k+1)=m.h.take k++ [hAt m.h k]):=(by rw [List.take_add_one,List.getElem?_eq_getElem hlt];simp [hAt,hlt]:m.h.take (k+1)=m.h.take k++ [hAt m.h k])
        have htl:(m.h.take k).length=k:=by simp;omega
        clear hc f0
        obtain⟨avh,cvh,rfl⟩:=yfm HG.out.h
        have HGh:=HG.out.h
        have m3:=HG.out.b.cell (i:=3) rfl
        simp only [htl]at m3
        go_upto_region 5 with fail
        clear q3
        refine yx1 12 (fun W=>W.cell? ⟨Mb,3,none⟩=some (.slice avh k cvh)∧W.cell? ⟨w.heap.size,3,none⟩=some (.slice (some ⟨b,off,none⟩) m.h.length ch)∧W.cell? ⟨b,off+k,none⟩=some (.slice a1 (hAt m.h k).length c1)) (by kernel_rfl) (keep5 HG.out.drew htl HPr.out.drew (Below.refl B wr).drew hbB f1 rfl) (fun hHeld=> ?_)
        obtain⟨wd,hwd⟩:∃wd,wr.drew=wd:=⟨_,rfl⟩
        rw [hwd]at hHeld
        rw [hwd]
        have HGX:Hid (MB wd B Rb Mb ⟨m.n,m.s,m.i,m.h.take k,m.e,m.z⟩ vi (.slice avh (m.h.take k).length cvh) vs us):=hwd▸HG.out.drew
        have HPX:Hid (Bk wd w.heap.size 36 #[.int .i64 m.n,.int .i64 m.s,.slice ai m.i.length ci,.slice (some ⟨b,off,none⟩) m.h.length ch,.slice ae m.e.length ce,.int .i64 m.z]):=hwd▸HPr.out.drew
        have HB5:Hid (Below B wr wd):=hwd▸(Below.refl B wr).drew
        have hN:wr.heap.size≤wd.heap.size:=by rw [←hwd];exact Nat.le_refl _
        have HAW:=yxx HGX.out.aw
        obtain⟨N,hNe⟩:∃N,N=wd.heap.size:=⟨_,rfl⟩
        rw [←hNe]at HAW
        clear hwd
        refine zag 0 {dst:=some 26,op:=Op.fieldAddr 36 (Operand.tmp 3) 3,type:=0,pos:=_,after:=_,guard:=none} (.pointer (some ⟨Mb,3,none⟩)) ?_
        try simp only [Act.put,q1,q2,q3]
        refine zag 1 {dst:=some 27,op:=Op.load 33 (Operand.tmp 26),type:=33,pos:=_,after:=_,guard:=none} (.slice avh k cvh) ?_
        try simp only [Act.put,q1,q2,q3]
        refine zag 3 {dst:=some 29,op:=Op.fieldAddr 36 (Operand.tmp 1) 3,type:=0,pos:=_,after:=_,guard:=none} (.pointer (some ⟨w.heap.size,3,none⟩)) ?_
        try simp only [Act.put,q1,q2,q3]
        refine zag 4 {dst:=some 30,op:=Op.load 33 (Operand.tmp 29),type:=33,pos:=_,after:=_,guard:=none} (.slice (some ⟨b,off,none⟩) m.h.length ch) ?_
        try simp only [Act.put,q1,q2,q3]
        refine zag 5 {dst:=some 31,op:=Op.move (Operand.tmp 4),type:=3,pos:=_,after:=_,guard:=none} (.int .i64 (k:Int)) ?_
        try simp only [Act.put,q1,q2,q3]
        refine zag 6 {dst:=some 32,op:=Op.indexAddr 33 (Operand.tmp 30) (Operand.tmp 31),type:=0,pos:=_,after:=_,guard:=none} (.pointer (some ⟨b,off+k,none⟩)) ?_
        try simp only [Act.put,q1,q2,q3]
        refine zag 7 {dst:=some 33,op:=Op.load 241 (Operand.tmp 32),type:=241,pos:=_,after:=_,guard:=none} (.slice a1 (hAt m.h k).length c1) ?_
        try simp only [Act.put,q1,q2,q3]
        refine yfb (rs:= [2]) (by kernel_rfl) (by simp) ?_
        refine AllReadyZ.cons (o:= {dst:=some 28,op:=Op.buildSlice 241 0 #[],type:=241,pos:=_,after:=_,guard:=none}) rfl (fun K hK=> ?_) AllReadyZ.nil
        obtain⟨v1,hV⟩:∃V,wd.alloc (.cells #[] 244)=V:=⟨_,rfl⟩
        have HO:Hid (v1.ownsRow N 244 4 (.slice (some ⟨N,0,none⟩) 0 0) 0 []):=hV▸hNe▸yx8 wd 244 4
        have HG1:Hid (MB v1 B Rb Mb ⟨m.n,m.s,m.i,m.h.take k,m.e,m.z⟩ vi (.slice avh (m.h.take k).length cvh) vs us):=hV▸HGX.out.alloc _
        have HP1:Hid (Bk v1 w.heap.size 36 #[.int .i64 m.n,.int .i64 m.s,.slice ai m.i.length ci,.slice (some ⟨b,off,none⟩) m.h.length ch,.slice ae m.e.length ce,.int .i64 m.z]):=hV▸HPX.out.alloc _
        have HB1:Hid (Below B wr v1):=hV▸HB5.out.alloc (by omega) _
        have hN1:N≤v1.heap.size:=by rw [←hV,hNe];simp
        have HV:=yxx hV
        have HN:Hid (N=wd.heap.size):=hNe
        clear hV HGX HPX HB5
        have HGX:=HG1
        have HPX:=HP1
        have HB5:=HB1
        clear HG1 HP1 HB1
        go_simp
        rw [HV.out,←HN.out]
        clear HV
        refine hK.out _ _ (keep5 HGX.out htl HPX.out HB5.out hbB f1 rfl) (fun hHeld=> ?_)
        clear hK K
        try simp only [Act.put,q1,q2,q3]
        refine yfb (rs:= [8]) (by kernel_rfl) (by simp) ?_
        refine AllReadyZ.cons (o:= {dst:=some 34,op:=Op.call {callee:=Callee.builtin Builtin.append,args:= #[Operand.tmp 28,Operand.tmp 33],argTypes:= #[241,241]},type:=241,pos:=_,after:=_,guard:=none}) rfl (fun K hK=> ?_) AllReadyZ.nil
        obtain⟨i0,hi0,hz0,hz1,hz2⟩:=info_parts zki
        refine ywl rfl (.tmp 28) (.tmp 33) 241 rfl N 244 i0 (.agg #[.int .i64 0,.int .i64 0,.int .i64 0,.int .i64 0]) 4 32 Tryz.underlying241 hi0 hz0 hz1 hz2 rfl (by decide) (.slice (some ⟨N,0,none⟩) 0 0) 0 [] rfl HO.out (.slice a1 (hAt m.h k).length c1) (hAt m.h k).length (yyv (hAt m.h k)) rfl (HSR.out v1 (HBr.out.trans HB5.out)) (zfw _) (by unfold maxLen;omega) (by omega) hN1 ?_
        intro u2 v2 ho hg hnr
        rw [Nat.zero_add,List.nil_append]at ho
        obtain⟨a2,c2,rfl⟩:=yfm ho
        have HU:=yxx ho
        have HG1:=yxx (HGX.out.grownA HAW.out hg (fun j e=>yx4 HO.out e))
        have HP1:=yxx (HPX.out.turns (yw9 hg) (ywp HO.out HPX.out (by decide)))
        have HB1:Hid (Below B wr v2):=HB5.out.trans ((Below.refl B v1).grown hg (by omega) (fun j e=>by have h9:=yx4 HO.out e;omega))
        have hN2:N≤v2.heap.size:=Nat.le_trans hN1 hg.size
        clear ho hg hnr hi0 hz0 hz1 hz2 HGX HPX HB5 HO
        have HGX:=HG1
        have HPX:=HP1
        have HB5:=HB1
        clear HG1 HP1 HB1
        refine hK.out _ _ (keep5 HGX.out htl HPX.out HB5.out hbB f1 rfl) (fun hHeld=> ?_)
        clear hK K
        try simp only [Act.put,q1,q2,q3]
        refine yfb (rs:= [9]) (by kernel_rfl) (by simp) ?_
        refine AllReadyZ.cons (o:= {dst:=some 35,op:=Op.buildSlice 33 1 #[(0,Operand.tmp 34)],type:=33,pos:=_,after:=_,guard:=none}) rfl (fun K hK=> ?_) AllReadyZ.nil
        obtain⟨v3,hV⟩:∃V,v2.alloc (.cells #[.slice a2 (hAt m.h k).length c2] 241)=V:=⟨_,rfl⟩
        obtain⟨X3,hX3⟩:∃X,X=v2.heap.size:=⟨_,rfl⟩
        have HS3:Hid (Bk v3 X3 241 #[.slice a2 (hAt m.h k).length c2]):=hV▸Bk.newAt hX3 _ _
        have HU3:Hid (v3.ownsRow N 244 4 (.slice a2 (hAt m.h k).length c2) (hAt m.h k).length (yyv (hAt m.h k))):=hV▸World.ownsRow.alloc HU.out _
        have HG1:Hid (MB v3 B Rb Mb ⟨m.n,m.s,m.i,m.h.take k,m.e,m.z⟩ vi (.slice avh (m.h.take k).length cvh) vs us):=hV▸HGX.out.alloc _
        have HP1:Hid (Bk v3 w.heap.size 36 #[.int .i64 m.n,.int .i64 m.s,.slice ai m.i.length ci,.slice (some ⟨b,off,none⟩) m.h.length ch,.slice ae m.e.length ce,.int .i64 m.z]):=hV▸HPX.out.alloc _
        have HB1:Hid (Below B wr v3):=hV▸HB5.out.alloc (by omega) _
        have hN3:N≤v3.heap.size:=by rw [←hV];simp;omega
        have HV:=yxx hV
        have HX3:Hid (X3=v2.heap.size):=hX3
        clear hV hX3 HGX HPX HB5 HU
        have HGX:=HG1
        have HPX:=HP1
        have HB5:=HB1
        clear HG1 HP1 HB1
        go_simp
        rw [HV.out,←HX3.out]
        clear HV HX3
        refine hK.out _ _ (keep5 HGX.out htl HPX.out HB5.out hbB f1 rfl) (fun hHeld=> ?_)
        clear hK K
        try simp only [Act.put,q1,q2,q3]
        refine yfb (rs:= [10]) (by kernel_rfl) (by simp) ?_
        refine AllReadyZ.cons (o:= {dst:=some 36,op:=Op.call {callee:=Callee.builtin Builtin.append,args:= #[Operand.tmp 27,Operand.tmp 35],argTypes:= #[33,33]},type:=33,pos:=_,after:=_,guard:=none}) rfl (fun K hK=> ?_) AllReadyZ.nil
        obtain⟨i0,hi0,hz0,hz1,hz2⟩:=info_parts infoSS
        refine zbf rfl (.tmp 27) (.tmp 35) 33 rfl B 241 i0 (.slice none 0 0) 1 24 Tryz.underlying33 hi0 hz0 hz1 hz2 rfl (by decide) (.slice avh k cvh) k us rfl (by have h9:=HGX.out.h;simp only [htl]at h9;exact h9) ⟨X3,0,none⟩ 1 1 [.slice a2 (hAt m.h k).length c2] rfl rfl (bk_one HS3.out) (zlm _ _ _) (by unfold maxLen;omega) (by omega) (by omega) ?_
        intro v9 v4 ho hg
        have HP1:=yxx (HPX.out.turns (yw9 hg) (by have h9:=HGX.out.h;simp only [htl]at h9;exact ywp h9 HPX.out (by decide)))
        have HB1:Hid (Below B wr v4):=HB5.out.trans ((Below.refl B v3).grown hg (by omega) (fun j e=>by have h9:=HGX.out.h;simp only [htl]at h9;exact yx4 h9 e))
        obtain⟨a9,c9,rfl⟩:=yfm ho
        have HGF0:=yxx (HGX.out.putH HU3.out (by omega) (fun i j hi hj=>HAW.out.2.2.2.2.1 i j hi hj) (by simp only [htl];exact ho) (by simp only [htl];exact hg))
        have HM4:Hid (Bk v4 Mb 36 #[.int .i64 m.n,.int .i64 m.s,vi,.slice avh k cvh,vs,.int .i64 m.z]):=by have h9:=HGX.out.b;have h8:=HGX.out.h;simp only [htl]at h9 h8;exact h9.turns (yw9 hg) (ywp h8 h9 (by decide))
        clear ho hg hi0 hz0 hz1 hz2 HGX HPX HB5 HS3 HU3
        have HPX:=HP1
        have HB5:=HB1
        clear HP1 HB1
        refine hK.out _ _ ⟨HM4.out.cell (i:=3) rfl,HPX.out.cell (i:=3) rfl,(HB5.out.cell (p:=⟨b,_,none⟩) hbB).trans f1⟩ (fun hHeld=> ?_)
        clear hK K
        try simp only [Act.put,q1,q2,q3]
        refine zag 11 {dst:=some 37,op:=Op.fieldAddr 36 (Operand.tmp 3) 3,type:=0,pos:=_,after:=_,guard:=none} (.pointer (some ⟨Mb,3,none⟩)) ?_
        try simp only [Act.put,q1,q2,q3]
        refine yfb (rs:= [12]) (by kernel_rfl) (by simp) ?_
        refine AllReadyZ.last (o:= {dst:=none,op:=Op.store 33 (Operand.tmp 37) (Operand.tmp 36),type:=0,pos:=_,after:=_,guard:=none}) rfl (fun K hK=> ?_)
        have k3:=HM4.out.cell (i:=3) rfl
        have kf:=HM4.out.free
        obtain⟨wf,hwf⟩:∃X,v4.setCell ⟨Mb,3,none⟩ (.slice a9 (k+1) c9)=X:=⟨_,rfl⟩
        have HGF:=HGF0
        rw [hwf]at HGF
        have HTF:Hid (Turns (fun k=>k=Mb) v4 wf):=hwf▸yag _ _ 3 _
        have HPF:=yxx (HPX.out.turns HTF.out (fun e=>by omega))
        have HBF:Hid (Below B W0 wf):=HBr.out.trans (HB5.out.trans (HTF.out.to_below (fun k hk=>by omega) (Nat.le_trans hBw HB5.out.size)))
        have HWF:Hid _:=hwf
        clear hwf
        go_simp
        rw [HWF.out]
        clear HWF k3 kf HTF HGF0 HM4 HPX HB5
        refine hK.out _ _ ?_
        clear hK K
        try simp only [Act.put,q1,q2,q3]
        refine yx2 (by kernel_rfl) ?_ _
        clear hHeld
        go_wp2
        go_roundw
        case rel=>
          rw [←HTK.out]at HGF
          exact⟨k+1,_,_,by omega,by go_num,HGF.out,HPF.out,HBF.out⟩
        case measure=>simp [intOf];omega
      case neg=>
        obtain rfl:k=m.h.length:=by omega
        have hkd:decide ((m.h.length:Int)<(m.h.length:Int))=false:=by simp
        have htk:m.h.take m.h.length=m.h:=List.take_of_length_le (Nat.le_refl _)
        have HG9:=HG.out
        rw [htk]at HG9
        obtain⟨avh,cvh,rfl⟩:=yfm HG9.h
        obtain⟨avi,cvi,rfl⟩:=yfm HG9.i
        obtain⟨avs,cvs,rfl⟩:=yfm HG9.e
        obtain⟨m0,m1,m2,m3,m4,m5⟩:=c6_6 HG9.b
        obtain⟨r0,r1,r2,r3,r4,r5⟩:=c6_6 HG9.r
        have rf:=HG9.r.free
        obtain⟨wf,hwf⟩:∃X,zhh wr Rb m.n m.s (.slice avi m.i.length cvi) (.slice avh m.h.length cvh) (.slice avs m.e.length cvs) m.z=X:=⟨_,rfl⟩
        have HTF:Hid (Turns (fun k=>k=Rb) wr wf):=hwf▸zay _ _ _ _ _ _ _ _
        have HMO:=yxx (HG9.mo HTF.out)
        have HRF:Hid (Bk wf Rb 36 #[.int .i64 m.n,.int .i64 m.s,.slice avi m.i.length cvi,.slice avh m.h.length cvh,.slice avs m.e.length cvs,.int .i64 m.z]):=hwf▸(((((HG9.r.put 0 _).put 1 _).put 2 _).put 3 _).put 4 _).put 5 _
        obtain⟨t0,t1,t2,t3,t4,t5⟩:=c6_6 HRF.out
        unfold zhh at hwf
        clear HG9 htk
        go_wp2
        refine bodyPost_ret (v:= .agg #[.int .i64 m.n,.int .i64 m.s,.slice avi m.i.length cvi,.slice avh m.h.length cvh,.slice avs m.e.length cvs,.int .i64 m.z]) (by simp [results,Tryz.results105,go_sem,t0,t1,t2,t3,t4,t5]) rfl ⟨_,rfl,HBX.out.trans (HTF.out.to_below (fun k hk=>by omega) HBX.out.size),?_⟩
        exact HMO.out.mdf.mono (fun k hk=>⟨by omega,hk.2⟩)
end Go.Proofs.YtghndljgadpijaaGreat
