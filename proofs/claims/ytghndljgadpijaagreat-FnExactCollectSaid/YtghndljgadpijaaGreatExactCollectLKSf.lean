/- The specification's l5tags: the walk. -/
import Derived.Test.YtghndljgadpijaaGreatExactCollectG01
import Derived.Test.YtghndljgadpijaaGreatExactCollectG25
namespace Go.Proofs.YtghndljgadpijaaGreat
open Go.RowKit
theorem ywq {p:Prop} (h:p):Hid p:=h
theorem Bk.low {B:Nat} {w w':World} {P:Nat} {T:TypeId} {vs:Array Value} (h:Bk w P T vs) (hb:Below B w w') (hP:P<B):Bk w' P T vs:=(hb.block P hP).trans h
set_option maxRecDepth 100000 in
set_option maxHeartbeats 32000000 in
theorem sTags5 (x:Value) (k:Kn) (w:World) (hs:ywy k) (h:IsKern w x k):
    Calls Tryz.prog 104 #[x] w fun e w'=>e= .returned (.bool (zbd k))∧Below w.heap.size w w':=by
  have hTL:=zk1 hs.2
  obtain⟨HSM0,hsk⟩:=hs
  have HSM:Hid (SmallM k.m):=HSM0
  obtain⟨hdl,hpl,hbl,hsl,hxl⟩:=yyp hsk
  have HWP:=ywq (yyf hsk)
  clear hsk HSM0
  obtain⟨ai,ci,ah,ch,ae,ce,ad,cd,ap,cp,ab,cb,au,cu,ax,cx,rfl,hm,hd,hp,hbg,hsu,hx⟩:=h.form
  have HM:=ywq hm
  have HD:=ywq hd
  have HPP:=ywq hp
  have HBG:=ywq hbg.rows
  have HSU:=ywq hsu.rows
  have HXX:=ywq hx.rows
  have HSUI:=ywq hsu
  have HXXI:=ywq hx
  have HK:=ywq h
  clear hm hd hp hbg hsu hx h
  obtain⟨W0,hW0⟩:=alIsKern HK.out 41
  have HB0:Hid (Below w.heap.size w W0):=by rw [←hW0];exact(Below.refl _ w).alloc (Nat.le_refl _) _
  have HP0:Hid (Bk W0 w.heap.size 41 #[.int .i64 k.m.n,.int .i64 k.m.s,.slice ai k.m.i.length ci,.slice ah k.m.h.length ch,.slice ae k.m.e.length ce,.int .i64 k.m.z,.slice ad k.d.length cd,.slice ap k.p.length cp,.slice ab k.b.length cb,.int .i64 k.t,.int .i64 k.q,.bool k.f,.slice au k.s.length cu,.slice ax k.x.length cx]):=by rw [←hW0];exact Bk.new w _ _
  have HW:=ywq hW0
  have hs0:w.heap.size<W0.heap.size:=HP0.out.lt
  obtain⟨i3,hi3,hz0,hz1,hz2⟩:=info_parts zf8
  obtain⟨B,hB⟩:∃B,B=W0.heap.size:=⟨_,rfl⟩
  have hB1:B≤W0.heap.size:=by omega
  have hB2:w.heap.size<B:=by omega
  clear hB hW0
  have hw:=HW.out
  go_enter Tryz.func104,Tryz.ntmps104
  go_wp2
  clear hw
  go_loopw [3,4] (fun o i wr=>∃(j:Nat) (v:Value),j≤k.b.length∧v=o∧i= .int .i64 j∧RowZ B wr o (bagT (k.b.take j))∧Below B W0 wr) (fun _ i _=>k.b.length-(intOf i).toNat)
  case atStart=>exact⟨0,_,Nat.zero_le _,rfl,rfl,RowZ.nil _ _,Below.refl _ _⟩
  case round=>
    obtain⟨j,o,hj,rfl,rfl,hR,hBr⟩:=hrel
    have HR:=ywq hR
    have HBB:Hid (Below B W0 wr):=hBr
    have HBr:=ywq (HB0.out.trans (hBr.mono (by omega)))
    have HPr:=ywq (HP0.out.low hBr hB2)
    have hs1:B≤wr.heap.size:=Nat.le_trans hB1 hBr.size
    have m8:=HPr.out.cell (i:=8) rfl
    clear hR hBr
    by_cases hlt:j<k.b.length
    · obtain⟨b,off,rfl,hb,hMA⟩:=HBG.out.resolve_left (by intro e;rw [e]at hlt;simp at hlt)
      have hml:=(hMA j hlt).below HBr.out hb
      have f7:=hml.f7
      have f6:=hml.f6
      have HNX:=ywq (zpl hlt)
      have hbl2:(bagT (k.b.take j)).length≤1048576:=Nat.le_trans (zl1 _) (by rw [List.length_take];omega)
      generalize bagT (k.b.take j)=lq at HR HNX hbl2
      clear hml hMA
      cases ha:(mlAt k.b j).a with
      |true=>
        have HN2:Hid (bagT (k.b.take (j+1))=lq):=by show _=_;rw [HNX.out,ha];simp
        rw [ha]at f7
        clear ha
        go_wp2
        go_roundw
        case rel=>exact⟨j+1,_,by omega,rfl,by go_num,by rw [HN2.out];exact HR.out,HBB.out⟩
        case measure=>simp [intOf];omega
      |false=>
        have HN2:Hid (bagT (k.b.take (j+1))=lq++ [(mlAt k.b j).e.g]):=by show _=_;rw [HNX.out,ha];simp
        rw [ha]at f7
        clear ha
        generalize (mlAt k.b j).e.g=g at f6 HN2
        go_wp2_with (at_builtin;refine wpList_append_own _ rfl _ _ 22 rfl B 3 i3 (.int .i64 0) 1 8 Tryz.underlying22 hi3 hz0 hz1 hz2 rfl (by decide) o _ _ rfl (World.ownsRow.alloc HR.out _) ⟨wr.heap.size,0,none⟩ 1 1 [.int .i64 g] rfl rfl (zjt _ _) (oneZ _) (by unfold maxLen;omega) (by omega) (by simp;omega) ?_;intro v4 w4 hown hgrow hnil)
        go_roundw
        case rel=>exact⟨j+1,_,by omega,rfl,by go_num,by rw [HN2.out];exact RowZ.grow hown,(HBB.out.alloc hs1 _).grown hgrow (by simp;omega) (fun q e=>RowZ.ge HR.out e)⟩
        case measure=>simp [intOf];omega
    · obtain rfl:k.b.length=j:=by omega
      rw [List.take_length]at HR
      obtain⟨W1,rfl⟩:∃W1,W1=wr:=⟨wr,rfl⟩
      have HR1:=ywq HR.out
      have HBB1:Hid (Below B W0 W1):=HBB.out
      clear HR HBB HBr HPr hj hlt hs1
      go_wp2
      clear m8
      go_loopw [3,5] (fun o i wr=>∃(j:Nat) (v:Value),j≤k.p.length∧v=o∧i= .int .i64 j∧Hid (∀i,i<j→znx k (paAt k.p i)=true)∧RowZ B wr o (bagT k.b++yye (k.p.take j))∧Below B W0 wr) (fun _ i _=>k.p.length-(intOf i).toNat)
      case atStart=>exact⟨0,_,Nat.zero_le _,rfl,rfl,fun i hi=>by omega,by simpa [yye] using HR1.out,HBB1.out⟩
      case round=>
        clear HR1 HBB1
        obtain⟨j,o,hj,rfl,rfl,HAK,hR,hBr⟩:=hrel
        have HR:=ywq hR
        have HBB:Hid (Below B W0 wr):=hBr
        have HBr:=ywq (HB0.out.trans (hBr.mono (by omega)))
        have HPr:=ywq (HP0.out.low hBr hB2)
        have hs1:B≤wr.heap.size:=Nat.le_trans hB1 hBr.size
        have m7:=HPr.out.cell (i:=7) rfl
        clear hR hBr
        by_cases hlt:j<k.p.length
        · obtain⟨b,off,rfl,hb,hPA⟩:=HPP.out.resolve_left (by intro e;rw [e]at hlt;simp at hlt)
          obtain⟨a1,c1,a4,c4,a5,c5,a6,c6,hp⟩:=hPA j hlt
          have f0:=cst HBr.out hb hp.f0
          have f1:=cst HBr.out hb hp.f1
          have f2:=cst HBr.out hb hp.f2
          have f3:=cst HBr.out hb hp.f3
          have f4:=cst HBr.out hb hp.f4
          have f5:=cst HBr.out hb hp.f5
          have f6:=cst HBr.out hb hp.f6
          have HT:=ywq hp.d5.isEvs.rows
          have HPS:=ywq (yz1 hp.d4)
          have HAN:=ywq hp.d6.isI.rows
          have HNX:Hid (bagT k.b++yye (k.p.take (j+1))=(bagT k.b++yye (k.p.take j))++(zil (paAt k.p j)++zhk (paAt k.p j))):=(by rw [zek hlt];simp:bagT k.b++yye (k.p.take (j+1))=_)
          have hlq:(bagT k.b++yye (k.p.take j)).length≤1048576:=by
            have h1:(yye (k.p.take j)).length≤(yye k.p).length:=by
              conv=>rhs;rw [←List.take_append_drop j k.p]
              unfold yye
              rw [List.flatMap_append,List.length_append]
              omega
            rw [List.length_append]
            omega
          have hwt:=HWP.out j hlt
          have hlens:(paAt k.p j).t.length≤1048576∧(paAt k.p j).p.length≤1048576∧(paAt k.p j).a.length≤1048576∧ ∀i,i<(paAt k.p j).p.length→(psAt (paAt k.p j).p i).s.length≤1048576:=by
            unfold Pa.wt at hwt
            simp only [ywf,yx0]at hwt
            have h2:=yxh (paAt k.p j).p
            refine⟨by omega,by omega,by omega,fun i hi=> ?_⟩
            have h9:(psAt (paAt k.p j).p i).wt≤(yw3 (paAt k.p j).p).wt:=Ps.wt_le hi
            unfold Ps.wt at h9
            simp only [ywf,yx0,yy3]at h9
            omega
          obtain⟨htl,hpl2,hal,hsl2⟩:=hlens
          have HSL:=ywq hsl2
          generalize bagT k.b++yye (k.p.take j)=lq at HR HNX hlq
          obtain⟨PB,hPB⟩:∃PB,PB=wr.heap.size:=⟨_,rfl⟩
          obtain⟨V,hV⟩:∃V,wr.alloc (.cells #[.int .i64 (paAt k.p j).n,.slice a1 (paAt k.p j).st.r.length c1,.int .i64 (paAt k.p j).st.q,.int .i64 (paAt k.p j).st.d,.slice a4 (paAt k.p j).p.length c4,.slice a5 (paAt k.p j).t.length c5,.slice a6 (paAt k.p j).a.length c6] 97)=V:=⟨_,rfl⟩
          have HQV:Hid (Bk V PB 97 #[.int .i64 (paAt k.p j).n,.slice a1 (paAt k.p j).st.r.length c1,.int .i64 (paAt k.p j).st.q,.int .i64 (paAt k.p j).st.d,.slice a4 (paAt k.p j).p.length c4,.slice a5 (paAt k.p j).t.length c5,.slice a6 (paAt k.p j).a.length c6]):=by rw [←hV,hPB];exact Bk.new _ _ _
          have HRV:Hid (RowZ B V o lq):=by rw [←hV];exact HR.out.alloc _
          have HBV:Hid (Below B W0 V):=by rw [←hV];exact HBB.out.alloc hs1 _
          have HPBe:Hid (PB=wr.heap.size):=hPB
          have HVe:=ywq hV
          clear hp hPA hwt hsl2 hPB hV HR HBB HBr HPr hs1
          go_wp2
          rw [HVe.out,←HPBe.out]
          clear HVe HPBe f0 f1 f2 f3 f4 f5 f6 m7
          go_loopw [3,7] (fun o i wr=>∃(i':Nat) (v:Value),i'≤(paAt k.p j).t.length∧v=o∧i= .int .i64 i'∧RowZ B wr o (lq++((paAt k.p j).t.take i').map (·.g))∧Bk wr PB 97 #[.int .i64 (paAt k.p j).n,.slice a1 (paAt k.p j).st.r.length c1,.int .i64 (paAt k.p j).st.q,.int .i64 (paAt k.p j).st.d,.slice a4 (paAt k.p j).p.length c4,.slice a5 (paAt k.p j).t.length c5,.slice a6 (paAt k.p j).a.length c6]∧Below B W0 wr) (fun _ i _=>(paAt k.p j).t.length-(intOf i).toNat)
          case atStart=>exact⟨0,_,Nat.zero_le _,rfl,rfl,by simpa using HRV.out,HQV.out,HBV.out⟩
          case round=>
            clear HRV HQV HBV
            obtain⟨i,o,hi,rfl,rfl,hR,hQ,hBr⟩:=hrel
            have HR:=ywq hR
            have HQ:=ywq hQ
            have HBB:Hid (Below B W0 wr):=hBr
            have HBr:=ywq (HB0.out.trans (hBr.mono (by omega)))
            have hs1:B≤wr.heap.size:=Nat.le_trans hB1 hBr.size
            have m5:=HQ.out.cell (i:=5) rfl
            clear hR hBr hQ
            by_cases hlt2:i<(paAt k.p j).t.length
            · obtain⟨b5,off5,rfl,hb5,hc5⟩:=HT.out.resolve_left (by intro e;rw [e]at hlt2;simp at hlt2)
              have g6:=((hc5 i hlt2).below HBr.out hb5).f6
              have HN2:Hid (lq++((paAt k.p j).t.take (i+1)).map (·.g)=(lq++((paAt k.p j).t.take i).map (·.g))++ [(evAt (paAt k.p j).t i).g]):=(by rw [zdf hlt2];simp:lq++((paAt k.p j).t.take (i+1)).map (·.g)=_)
              have hl2:(lq++((paAt k.p j).t.take i).map (·.g)).length≤3000000:=by rw [List.length_append,List.length_map,List.length_take];omega
              generalize lq++((paAt k.p j).t.take i).map (·.g)=l2 at HR HN2 hl2
              generalize (evAt (paAt k.p j).t i).g=g at g6 HN2
              clear hc5
              go_wp2_with (at_builtin;refine wpList_append_own _ rfl _ _ 22 rfl B 3 i3 (.int .i64 0) 1 8 Tryz.underlying22 hi3 hz0 hz1 hz2 rfl (by decide) o _ _ rfl (World.ownsRow.alloc HR.out _) ⟨wr.heap.size,0,none⟩ 1 1 [.int .i64 g] rfl rfl (zjt _ _) (oneZ _) (by unfold maxLen;omega) (by omega) (by simp;omega) ?_;intro v4 w4 hown hgrow hnil)
              go_roundw
              case rel=>exact⟨i+1,_,by omega,rfl,by go_num,by rw [HN2.out];exact RowZ.grow hown,(HQ.out.alloc _).turns (grownT hgrow) (HR.out.ne HQ.out (by decide)),(HBB.out.alloc hs1 _).grown hgrow (by simp;omega) (fun q e=>RowZ.ge HR.out e)⟩
              case measure=>simp [intOf];omega
            · obtain rfl:(paAt k.p j).t.length=i:=by omega
              rw [List.take_length]at HR
              have HN3:Hid (bagT k.b++yye (k.p.take (j+1))=(lq++(paAt k.p j).t.map (·.g))++zhk (paAt k.p j)):=(by rw [HNX.out,zil];simp:bagT k.b++yye (k.p.take (j+1))=_)
              have hl3:(lq++(paAt k.p j).t.map (·.g)).length≤3000000:=by rw [List.length_append,List.length_map];omega
              generalize lq++(paAt k.p j).t.map (·.g)=l3 at HR HN3 hl3
              obtain⟨W2,rfl⟩:∃W2,W2=wr:=⟨wr,rfl⟩
              have HR2:Hid (RowZ B W2 o l3):=HR.out
              have HQ2:=ywq HQ.out
              have HBB2:Hid (Below B W0 W2):=HBB.out
              clear HR HQ HBB HBr hs1 hi hlt2 HNX
              go_wp2
              clear m5
              go_loopw [3,8] (fun o i wr=>∃(i':Nat) (v:Value),i'≤(paAt k.p j).p.length∧v=o∧i= .int .i64 i'∧Hid (∀q,q<i'→zni k (psAt (paAt k.p j).p q)=true)∧RowZ B wr o (l3++((paAt k.p j).p.take i').map (·.e.g))∧Bk wr PB 97 #[.int .i64 (paAt k.p j).n,.slice a1 (paAt k.p j).st.r.length c1,.int .i64 (paAt k.p j).st.q,.int .i64 (paAt k.p j).st.d,.slice a4 (paAt k.p j).p.length c4,.slice a5 (paAt k.p j).t.length c5,.slice a6 (paAt k.p j).a.length c6]∧Below B W0 wr) (fun _ i _=>(paAt k.p j).p.length-(intOf i).toNat)
              case atStart=>exact⟨0,_,Nat.zero_le _,rfl,rfl,fun q hq=>by omega,by simpa using HR2.out,HQ2.out,HBB2.out⟩
              case round=>
                clear HR2 HQ2 HBB2
                obtain⟨i,o,hi,rfl,rfl,HAS,hR,hQ,hBr⟩:=hrel
                have HR:=ywq hR
                have HQ:=ywq hQ
                have HBB:Hid (Below B W0 wr):=hBr
                have HBr:=ywq (HB0.out.trans (hBr.mono (by omega)))
                have hs1:B≤wr.heap.size:=Nat.le_trans hB1 hBr.size
                have m4:=HQ.out.cell (i:=4) rfl
                clear hR hBr hQ
                by_cases hlt2:i<(paAt k.p j).p.length
                · obtain⟨b4,off4,rfl,hb4,hc4⟩:=HPS.out.resolve_left (by intro e;rw [e]at hlt2;simp at hlt2)
                  obtain⟨a7,c7,a10,c10,a11,c11,hpp⟩:=hc4 i hlt2
                  have g6:=(HBr.out.cell (p:=⟨b4,_,none⟩) hb4).trans hpp.ev.f6
                  have HSE:=ywq hpp.d10.isEvs.rows
                  have HF10:=ywq hpp.f10
                  have HB4:Hid (b4<w.heap.size):=hb4
                  have HN2:Hid (l3++((paAt k.p j).p.take (i+1)).map (·.e.g)=(l3++((paAt k.p j).p.take i).map (·.e.g))++ [(psAt (paAt k.p j).p i).e.g]):=(by rw [zff hlt2];simp:l3++((paAt k.p j).p.take (i+1)).map (·.e.g)=_)
                  have hl2:(l3++((paAt k.p j).p.take i).map (·.e.g)).length≤5000000:=by rw [List.length_append,List.length_map,List.length_take];omega
                  have hsn:(psAt (paAt k.p j).p i).s.length≤1048576:=HSL.out i hlt2
                  generalize l3++((paAt k.p j).p.take i).map (·.e.g)=l2 at HR HN2 hl2
                  generalize (psAt (paAt k.p j).p i).e.g=g at g6 HN2
                  clear hc4 hpp
                  go_wp2_with (at_builtin;refine wpList_append_own _ rfl _ _ 22 rfl B 3 i3 (.int .i64 0) 1 8 Tryz.underlying22 hi3 hz0 hz1 hz2 rfl (by decide) o _ _ rfl (World.ownsRow.alloc HR.out _) ⟨wr.heap.size,0,none⟩ 1 1 [.int .i64 g] rfl rfl (zjt _ _) (oneZ _) (by unfold maxLen;omega) (by omega) (by simp;omega) ?_;intro v4 w4 hown hgrow hnil;have HR4:Hid (RowZ B w4 v4 (l2++ [g])):=RowZ.grow hown;have HQ4:Hid (Bk w4 PB 97 #[.int .i64 (paAt k.p j).n,.slice a1 (paAt k.p j).st.r.length c1,.int .i64 (paAt k.p j).st.q,.int .i64 (paAt k.p j).st.d,.slice (some ⟨b4,off4,none⟩) (paAt k.p j).p.length c4,.slice a5 (paAt k.p j).t.length c5,.slice a6 (paAt k.p j).a.length c6]):=(HQ.out.alloc _).turns (grownT hgrow) (HR.out.ne HQ.out (by decide));have HBB4:Hid (Below B W0 w4):=(HBB.out.alloc hs1 _).grown hgrow (by simp;omega) (fun q e=>RowZ.ge HR.out e);clear hown hgrow hnil)
                  clear m4 g6 HR HQ HBB HBr hs1
                  go_loopw [9] (fun s wr=>∃s':Nat,s'≤(psAt (paAt k.p j).p i).s.length∧s= .int .i64 s'∧Hid (∀q,q<s'→evIn k.m (evAt (psAt (paAt k.p j).p i).s q)=true∧(evAt (psAt (paAt k.p j).p i).s q).g<k.t)∧Below w4.heap.size w4 wr) (fun s _=>(psAt (paAt k.p j).p i).s.length-(intOf s).toNat)
                  case atStart=>exact⟨0,Nat.zero_le _,rfl,fun q hq=>by omega,Below.refl _ _⟩
                  case round=>
                    obtain⟨s,hs',rfl,HAV,hB⟩:=hrel
                    have HQs:=ywq (HQ4.out.below hB)
                    have HBBs:Hid (Below B W0 wr):=HBB4.out.trans (hB.mono (Nat.le_trans hB1 HBB4.out.size))
                    have HBs:=ywq (HB0.out.trans (HBBs.out.mono (by omega)))
                    have HKs:=ywq (HP0.out.low HBBs.out hB2)
                    have HB4s:=ywq hB
                    have m4:=HQs.out.cell (i:=4) rfl
                    have f10:=(HBs.out.cell (p:=⟨b4,_,none⟩) HB4.out).trans HF10.out
                    clear hB
                    by_cases hlt3:s<(psAt (paAt k.p j).p i).s.length
                    · obtain⟨b6,off6,rfl,hb6,hc6⟩:=HSE.out.resolve_left (by intro e;rw [e]at hlt3;simp at hlt3)
                      obtain⟨e0,e1,e2,e3,e4,e5,e6⟩:=(hc6 s hlt3).below HBs.out hb6
                      have HBX:Hid (evIn k.m (evAt (psAt (paAt k.p j).p i).s s)=true→(evAt (psAt (paAt k.p j).p i).s s).g<k.t→ ∀q,q<s+1→evIn k.m (evAt (psAt (paAt k.p j).p i).s q)=true∧(evAt (psAt (paAt k.p j).p i).s q).g<k.t):=fun h1 h2 q hq=>by
                        by_cases e:q=s
                        · subst e;exact⟨h1,h2⟩
                        · exact HAV.out q (by omega)
                      have HNO:Hid (¬(evIn k.m (evAt (psAt (paAt k.p j).p i).s s)=true∧(evAt (psAt (paAt k.p j).p i).s s).g<k.t)→zbd k=false):=fun h1=>ywj (fun h=>h1 (sentK_iff.1 ((partK_iff.1 ((tagsB_iff.1 h).1 j hlt)).1 i hlt2) s hlt3))
                      generalize evAt (psAt (paAt k.p j).p i).s s=ev at e0 e1 e2 e3 e4 e5 e6 HBX HNO
                      clear hc6
                      obtain⟨V6,hV6⟩:∃V,wr.alloc (.cells #[.int .i64 ev.t,.int .i64 ev.s,.int .i64 ev.q,.int .i64 ev.d,.int .i64 ev.k,.int .i64 ev.v,.int .i64 ev.g] 90)=V:=⟨_,rfl⟩
                      have HE6:=hdq (bkA hV6)
                      have HB6:=hdq (beA hV6)
                      have HK6:=ywq (HKs.out.below HB6.out)
                      obtain⟨k0,k1,k2,k3,k4,k5⟩:=zgw HK6.out
                      obtain⟨v0,v1,v2,v3,v4,v5,v6⟩:=c7_7 HE6.out
                      go_wp2_with fail
                      clear e0 e1 e2 e3 e4 e5 e6 m4 f10 hV6 k0 k1 k2 k3 k4 k5 v0 v1 v2 v3 v4 v5 v6
                      refine(yyw _ k.m ev _ rfl _ (HM.out.below (trm HBs.out HB6.out))).mono ?_
                      rintro e w7 ⟨rfl,hb7⟩
                      have HB7:=trh HB6 hb7
                      have v6:=(HE6.out.below hb7).cell (i:=6) rfl
                      have k9:=(HK6.out.below hb7).cell (i:=9) rfl
                      clear hb7
                      cases hev:evIn k.m ev with
                      |false=>
                        have HN:Hid (zbd k=false):=HNO.out (fun h=>by rw [hev]at h;cases h.1)
                        clear hev
                        go_wp2
                        go_ret
                        exact⟨ye8 HN.out.symm,trm HBs.out HB7.out⟩
                      |true=>
                        have K1:Hid (evIn k.m ev=true):=hev
                        clear hev
                        by_cases hg:ev.g<k.t
                        case neg=>
                          have hg':k.t≤ev.g:=by omega
                          have HN:Hid (zbd k=false):=HNO.out (fun h=>hg h.2)
                          clear hg
                          go_wp2
                          go_ret
                          exact⟨ye8 HN.out.symm,trm HBs.out HB7.out⟩
                        have hg':¬k.t≤ev.g:=by omega
                        have K2:Hid (ev.g<k.t):=hg
                        clear hg
                        go_wp2
                        go_roundw
                        case rel=>exact⟨s+1,by omega,by go_num,HBX.out K1.out K2.out,trm HB4s.out HB7.out⟩
                        case measure=>simp [intOf];omega
                    · obtain rfl:(psAt (paAt k.p j).p i).s.length=s:=by omega
                      have K9:=ywq (sentK_iff.2 HAV.out)
                      go_wp2
                      go_roundw
                      case rel=>exact⟨i+1,_,by omega,rfl,by go_num,fun q hq=>by
                        by_cases e:q=i
                        · subst e;exact K9.out
                        · exact HAS.out q (by omega),by rw [HN2.out];exact HR4.out.below HB4s.out,HQs.out,HBBs.out⟩
                      case measure=>simp [intOf];omega
                · obtain rfl:(paAt k.p j).p.length=i:=by omega
                  rw [List.take_length]at HR
                  have HN4:Hid (bagT k.b++yye (k.p.take (j+1))=l3++(paAt k.p j).p.map (·.e.g)):=(by rw [HN3.out,zhk]:bagT k.b++yye (k.p.take (j+1))=_)
                  have HSA:=ywq HAS.out
                  obtain⟨W3,rfl⟩:∃W3,W3=wr:=⟨wr,rfl⟩
                  have HR3:=ywq HR.out
                  have HQ3:=ywq HQ.out
                  have HBB3:Hid (Below B W0 W3):=HBB.out
                  clear HR HQ HBB HBr hs1 hi hlt2 HAS HN3
                  go_wp2
                  clear m4
                  go_loopw [11] (fun s wr=>∃s':Nat,s'≤(paAt k.p j).a.length∧s= .int .i64 s'∧Hid (∀q,q<s'→intAt (paAt k.p j).a q<k.t)∧Below W3.heap.size W3 wr) (fun s _=>(paAt k.p j).a.length-(intOf s).toNat)
                  case atStart=>exact⟨0,Nat.zero_le _,rfl,fun q hq=>by omega,Below.refl _ _⟩
                  case round=>
                    obtain⟨s,hs',rfl,HAV,hB⟩:=hrel
                    have HQs:=ywq (HQ3.out.below hB)
                    have HBBs:Hid (Below B W0 wr):=HBB3.out.trans (hB.mono (Nat.le_trans hB1 HBB3.out.size))
                    have HBs:=ywq (HB0.out.trans (HBBs.out.mono (by omega)))
                    have HKs:=ywq (HP0.out.low HBBs.out hB2)
                    have HB4s:=ywq hB
                    have m6:=HQs.out.cell (i:=6) rfl
                    clear hB
                    by_cases hlt3:s<(paAt k.p j).a.length
                    · obtain⟨b6,off6,rfl,hb6,hc6⟩:=HAN.out.resolve_left (by intro e;rw [e]at hlt3;simp at hlt3)
                      have hbr:b6<wr.heap.size:=Nat.lt_of_lt_of_le hb6 HBs.out.size
                      have e0:∀q:Beyond wr,q.w.cell? ⟨b6,off6+s,none⟩=some (.int .i64 (intAt (paAt k.p j).a s)):=fun q=>q.cell hbr ((HBs.out.cell (p:=⟨b6,_,none⟩) hb6).trans (hc6 s hlt3))
                      have y6:=yoj (i:=6) HQs.out rfl
                      have y9:=yoj (i:=9) HKs.out rfl
                      have hne:=neB wr
                      have HBX:Hid (intAt (paAt k.p j).a s<k.t→ ∀q,q<s+1→intAt (paAt k.p j).a q<k.t):=fun h1 q hq=>by
                        by_cases e:q=s
                        · subst e;exact h1
                        · exact HAV.out q (by omega)
                      have HNO:Hid (¬intAt (paAt k.p j).a s<k.t→zbd k=false):=fun h1=>ywj (fun h=>h1 ((partK_iff.1 ((tagsB_iff.1 h).1 j hlt)).2 s hlt3))
                      have hki:(s:Int)<((paAt k.p j).a.length:Int):=by omega
                      generalize intAt (paAt k.p j).a s=z at e0 HBX HNO
                      clear hc6
                      by_cases hg:z<k.t
                      case neg=>
                        have hg':decide (k.t≤z)=true:=decide_eq_true (by omega)
                        have HN:Hid (zbd k=false):=HNO.out hg
                        clear hg
                        go_wp2_with fail
                        refine wrb ?_
                        repeat(go_big_quiet_step (fail))
                        refine wpQuiet_nil ?_
                        rintro w3 ⟨⟨_,hb3⟩,rfl⟩
                        have HB3:=ywq hb3
                        clear hb3
                        go_wp2
                        go_ret
                        exact⟨ye8 HN.out.symm,trm HBs.out HB3.out⟩
                      have hg':decide (k.t≤z)=false:=decide_eq_false (by omega)
                      have K2:Hid (z<k.t):=hg
                      clear hg
                      go_wp2_with fail
                      refine wrb ?_
                      repeat(go_big_quiet_step (fail))
                      refine wpQuiet_nil ?_
                      rintro w3 ⟨⟨_,hb3⟩,rfl⟩
                      have HB3:=ywq hb3
                      clear hb3
                      go_wp2
                      go_roundw
                      case rel=>exact⟨s+1,by omega,by go_num,HBX.out K2.out,trm HB4s.out HB3.out⟩
                      case measure=>simp [intOf];omega
                    · obtain rfl:(paAt k.p j).a.length=s:=by omega
                      have K9:=ywq (partK_iff.2 ⟨HSA.out,HAV.out⟩)
                      go_wp2
                      go_roundw
                      case rel=>exact⟨j+1,_,by omega,rfl,by go_num,fun q hq=>by
                        by_cases e:q=j
                        · subst e;exact K9.out
                        · exact HAK.out q (by omega),by rw [HN4.out];exact HR3.out.below HB4s.out,HBBs.out⟩
                      case measure=>simp [intOf];omega
        · obtain rfl:k.p.length=j:=by omega
          rw [List.take_length]at HR
          have HTE:Hid (zf3 k=bagT k.b++yye k.p):=(rfl:zf3 k=_)
          have HPK:=ywq HAK.out
          obtain⟨W4,rfl⟩:∃W4,W4=wr:=⟨wr,rfl⟩
          have hll:(bagT k.b++yye k.p).length≤1048576:=by rw [List.length_append];exact hTL
          rw [←HTE.out]at HR hll
          have HTB:Hid (zbd k=zib k.t (zf3 k)):=(by
            cases e:zib k.t (zf3 k)
            · exact ywj (fun h=>by have:=(tagsB_iff.1 h).2;rw [e]at this;cases this)
            · exact tagsB_iff.2 ⟨HPK.out,e⟩:zbd k=_)
          generalize zf3 k=l at HR hll HTB
          obtain⟨ao,co,rfl,hco1,hco2,hro⟩:=HR.out.form
          have HRO:=ywq hro
          have HB4:=ywq HBr.out
          have HK4:=ywq HPr.out
          clear hro HR HBB HBr HPr hs1 hj hlt HAK HTE HPK
          go_wp2
          clear m7
          go_loopw [12] (fun s wr=>∃s':Nat,s'≤l.length∧s= .int .i64 s'∧Hid (∀q,q<s'→intAt l q<k.t∧hasI l q (intAt l q)=false)∧Below W4.heap.size W4 wr) (fun s _=>l.length-(intOf s).toNat)
          case atStart=>exact⟨0,Nat.zero_le _,rfl,fun q hq=>by omega,Below.refl _ _⟩
          case round=>
            obtain⟨s,hs',rfl,HAV,hB⟩:=hrel
            have HBs:=trh HB4 hB
            have HKs:=ywq (HK4.out.below hB)
            have HB4s:=ywq hB
            by_cases hlt3:s<l.length
            · obtain⟨g,rfl,hg0,hc6⟩:=HRO.out.resolve_left (by intro e;rw [e]at hlt3;simp at hlt3)
              have hbr:g<wr.heap.size:=Nat.lt_of_lt_of_le hg0 hB.size
              have HIA:Hid (∀q:Beyond wr,IntsAt q.w g 0 l):=fun q=>⟨Nat.lt_of_lt_of_le hbr q.h.size,fun i hi=>q.cell hbr ((hB.cell (p:=⟨g,_,none⟩) hg0).trans (hc6 i hi))⟩
              have e0:∀q:Beyond wr,q.w.cell? ⟨g,s,none⟩=some (.int .i64 (intAt l s)):=fun q=>by have:=(HIA.out q).2 s hlt3;rwa [Nat.zero_add]at this
              have y9:=yoj (i:=9) HKs.out rfl
              have hne:=neB wr
              have hki:(s:Int)<(l.length:Int):=by omega
              have hsc:(s:Int)≤(co:Int):=by omega
              have hll9:l.length≤100000000:=by omega
              have HNO:Hid (¬(intAt l s<k.t∧hasI l s (intAt l s)=false)→zbd k=false):=fun h1=>by rw [HTB.out];exact ywj (fun h=>h1 (diffB_iff.1 h s hlt3))
              have HBX:Hid (intAt l s<k.t∧hasI l s (intAt l s)=false→ ∀q,q<s+1→intAt l q<k.t∧hasI l q (intAt l q)=false):=fun h1 q hq=>by
                by_cases e:q=s
                · subst e;exact h1
                · exact HAV.out q (by omega)
              have HFH:Hid (0≤fstI l (intAt l s) s↔hasI l s (intAt l s)=true):=zkn
              generalize hfz:fstI l (intAt l s) s=fz at HFH
              have KF:=ywq hfz
              clear hc6 hB hfz
              by_cases hg:intAt l s<k.t
              case neg=>
                have hg':decide (k.t≤intAt l s)=true:=decide_eq_true (by omega)
                have HN:Hid (zbd k=false):=HNO.out (fun h=>hg h.1)
                clear hg
                go_wp2_with fail
                refine wrb ?_
                repeat(go_big_quiet_step (fail))
                refine wpQuiet_nil ?_
                rintro w3 ⟨⟨_,hb3⟩,rfl⟩
                have HB3:=ywq hb3
                clear hb3
                go_wp2
                go_ret
                exact⟨ye8 HN.out.symm,trm HBs.out HB3.out⟩
              have hg':decide (k.t≤intAt l s)=false:=decide_eq_false (by omega)
              have K2:Hid (intAt l s<k.t):=hg
              clear hg
              by_cases hf:0≤fz
              · have hf':decide (0≤fz)=true:=decide_eq_true hf
                have HN:Hid (zbd k=false):=HNO.out (fun h=>by have:=HFH.out.1 hf;rw [h.2]at this;cases this)
                go_wp2_with fail
                refine wrb ?_
                repeat(go_big_quiet_step (first|(go_at_call 178;exact Beyond.of (KF.out▸znk _ s _ l (intAt l s) _ (by omega) hll9 (.inr ⟨g,0,rfl,HIA.out _⟩)))))
                refine wpQuiet_nil ?_
                rintro w3 ⟨⟨_,hb3⟩,rfl⟩
                have HB3:=ywq hb3
                clear hb3
                go_wp2
                go_ret
                exact⟨ye8 HN.out.symm,trm HBs.out HB3.out⟩
              · have hf':decide (0≤fz)=false:=decide_eq_false hf
                have K3:=ywq (ywj (fun h=>hf (HFH.out.2 h)))
                go_wp2_with fail
                refine wrb ?_
                repeat(go_big_quiet_step (first|(go_at_call 178;exact Beyond.of (KF.out▸znk _ s _ l (intAt l s) _ (by omega) hll9 (.inr ⟨g,0,rfl,HIA.out _⟩)))))
                refine wpQuiet_nil ?_
                rintro w3 ⟨⟨_,hb3⟩,rfl⟩
                have HB3:=ywq hb3
                clear hb3
                go_wp2
                go_roundw
                case rel=>exact⟨s+1,by omega,by go_num,HBX.out ⟨K2.out,K3.out⟩,trm HB4s.out HB3.out⟩
                case measure=>simp [intOf];omega
            · obtain rfl:l.length=s:=by omega
              have HY:Hid (zbd k=true):=by rw [HTB.out];exact diffB_iff.2 HAV.out
              clear hB
              go_wp2
              go_ret
              exact⟨ye8 HY.out.symm,HBs.out⟩
end Go.Proofs.YtghndljgadpijaaGreat
