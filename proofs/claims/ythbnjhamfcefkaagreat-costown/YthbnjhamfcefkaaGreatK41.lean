import Derived.Test.YthbnjhamfcefkaaGreatK27
import Derived.Test.YthbnjhamfcefkaaGreatK40
set_option maxHeartbeats 25600000
set_option maxRecDepth 100000
namespace Go.Proofs.YthbnjhamfcefkaaGreat.Nm
open Go.RowKit Go.Maps Sp Lx Gr
theorem rcEvent (k:Int) (w:World):Calls Tryz.prog 18 #[.int .i64 k] w fun e w'=>e=.returned (.bool (decide (k=8\/k=9\/k=10)))/\w'=w:=by
 have HB:Hid (decide (k=8\/k=9\/k=10)=((k == 8) || ((k == 9) || (k == 10)))):=by
  show _=_
  rw [Bool.eq_iff_iff]
  simp
 generalize decide (k=8\/k=9\/k=10)=z at *
 by_cases h8:k=8
 ·subst h8
  go_enter Tryz.func18,Tryz.ntmps18
  go_wp2
  go_ret
  exact ⟨by rw [HB.out];rfl,rfl⟩
 ·have q8:(k == 8)=false:=by simp [h8]
  by_cases h9:k=9
  ·subst h9
   go_enter Tryz.func18,Tryz.ntmps18
   go_wp2
   go_ret
   exact ⟨by rw [HB.out];rfl,rfl⟩
  ·have q9:(k == 9)=false:=by simp [h9]
   go_enter Tryz.func18,Tryz.ntmps18
   go_wp2
   go_ret
   exact ⟨by rw [HB.out,q8,q9];rfl,rfl⟩
structure EvX (w5 wr:World) (q:Nat) (c:Co):Prop where
 on:RowN wr w5.heap.size c.on
 bx:wr.heap[w5.heap.size+1]?=some (.cells #[.slice (some ⟨w5.heap.size,0,none⟩) q q,.int .i64 (c.miss:Int)] 40 (0,0))
 be:Below w5.heap.size w5 wr
theorem EvX.below {w5 wr w':World} {q:Nat} {c:Co} (h:EvX w5 wr q c) (hb:Below wr.heap.size wr w'):EvX w5 w' q c:=⟨h.on.below hb h.on.lt,(hb.block _ (blk_in h.bx)).trans h.bx,h.be.trans (hb.mono h.be.size)⟩
theorem EvX.setMiss {w5 wr:World} {q:Nat} {c:Co} (h:EvX w5 wr q c) (n:Nat):EvX w5 (wr.setCell ⟨w5.heap.size+1,1,none⟩ (.int .i64 (n:Int))) q ⟨c.on,n⟩:=
 ⟨(Below.heap_setCell wr _ _ w5.heap.size (by show w5.heap.size ≠ w5.heap.size+1;omega)).trans h.on,by rw [heap_setCell_same wr (w5.heap.size+1) 1 _ _ _ h.bx];rfl,h.be.setCell (p:=⟨w5.heap.size+1,1,none⟩) (Nat.le_succ _) _⟩
theorem EvX.setOn {w5 wr:World} {q:Nat} {c:Co} (h:EvX w5 wr q c) (k n:Nat):EvX w5 (wr.setCell ⟨w5.heap.size,k,none⟩ (.int .i64 (n:Int))) q ⟨c.on.set k n,c.miss⟩:=
 ⟨h.on.set k n,(Below.heap_setCell wr _ _ (w5.heap.size+1) (by show w5.heap.size+1 ≠ w5.heap.size;omega)).trans h.bx,h.be.setCell (p:=⟨w5.heap.size,k,none⟩) (Nat.le_refl _) _⟩
theorem evx_start (w:World) (q:Nat):EvX w ((w.alloc (.cells (Array.replicate q (.int .i64 0)) 3)).alloc (.cells #[.slice (some ⟨w.heap.size,0,none⟩) q q,.int .i64 0] 40)) q ⟨List.replicate q 0,0⟩:=by
 refine ⟨?_,alloc_at _ _ _ (by simp),(bAl w _).alloc (by simp) _⟩
 unfold RowN
 rw [zeros_eq,alloc_old _ _ _ (by simp)]
 exact alloc_at _ _ _ rfl
theorem rcost_any {w:World} {p:Pg} {ao qo vo tto uo oo xo yo eo:Option Addr} {ac qc vc tc uc oc nx cx ny cy ec:Nat} {rd:List Int} (h:RdG w p ao qo vo tto uo oo) (hs:p.Sm) (hl:p.rows.length<=65536) (hkd:∀ r ∈ p.rows,r.kids<=9223372036854775807/\r.name.size<=4611686018427387000) (hd:IsVals w eo (iv rd)) (hrd:rd.length<=17592186043904):
  Calls Tryz.prog 9 #[pvG p ao qo vo tto uo oo ac qc vc tc uc oc,.agg #[.slice xo nx cx,.slice yo ny cy,.slice eo rd.length ec]] w fun e w'=>∃ r,BRes p rd r/\CTold w r e w':=by
 have HS0:=hdn <| bdw_start w (polC p ao qo vo tto uo oo ac qc vc tc uc oc) #[.slice xo nx cx,.slice yo ny cy,.slice eo rd.length ec]
 have HB:Hid (∀ wr,BdW w wr w.heap.size (polC p ao qo vo tto uo oo ac qc vc tc uc oc) #[.slice xo nx cx,.slice yo ny cy,.slice eo rd.length ec]->Below w.heap.size w wr/\w.heap.size<=wr.heap.size):=fun wr h=>⟨h.be,h.be.size⟩
 have HCk:=hdn <| rcheck_any (ac:=ac) (qc:=qc) (vc:=vc) (tc:=tc) (uc:=uc) (oc:=oc) (h.below HS0.out.be) hs hkd
 have HR:=hdn <| h
 have HD:Hid (IsVals w eo (iv rd)/\rd.length<=17592186043904/\p.rows.length<=65536):=⟨hd,hrd,hl⟩
 obtain ⟨k0,k1,k2,k3,k4,k5,k6,k7⟩:=pol8 HS0.out.p
 clear h hs hkd hd hl
 dsimp only [pvG,polC] at *
 go_enter Tryz.func9,Tryz.ntmps9
 go_wp2_with fail
 generalize ((((w.alloc (.cells #[.string p.name,.slice ao p.rows.length ac,.slice qo p.qs.length qc,.slice vo p.vs.length vc,.slice tto p.ts.length tc,.slice uo p.us.length uc,.slice oo p.on.length oc,.int .i64 p.miss] 29)).alloc (.cells #[.slice xo nx cx,.slice yo ny cy,.slice eo rd.length ec] 37)).alloc (.cells #[.slice none 0 0,.int .i64 0] 40)).alloc (.cells #[.int .i64 0,.int .i64 0] 32))=w1 at *
 clear k0 k1 k2 k3 k4 k5 k6 k7
 refine Calls.mono HCk.out ?_
 rintro e w2 ⟨hor,hb2⟩
 have h2:=HS0.out.below hb2 (HB.out _ HS0.out).2
 have HW2:=hdn <| h2
 clear HCk hb2 HS0
 rcases hor with ⟨p',hp1,hp2,rfl⟩ | ⟨hno,rfl⟩
 ·have HP':Hid (IsP p p'):=⟨hp1,hp2⟩
  obtain ⟨k0,k1,k2,k3,k4,k5,k6,k7⟩:=pol8 h2.p
  obtain ⟨t0,t1,t2⟩:=read3 h2.t
  have hrl:(rd.length:Int)<=17592186043904:=by omega
  have hpl:(p.rows.length:Int)<=65536:=by have:=HD.out.2.2;omega
  clear hp1 hp2
  go_wp2_with fail
  go_loopg [7,8] rd.length (fun gq x y wr=>∃ (k:Nat) (bb:Bool),k+gq=rd.length/\y=.int .i64 (k:Int)/\x=.bool bb/\(bb=true ↔ (rd.length ≠ p.rows.length\/(rd.take k).any badN=true))/\wr=w2)
  case atStart=>exact ⟨0,_,by omega,rfl,rfl,by simp [bne_iff_ne];omega,rfl⟩
  case round=>
   obtain ⟨k,bb,hkg,rfl,rfl,hbb,hw⟩:=hrel
   have HG:Hid (k+gk=rd.length/\(bb=true ↔ (rd.length ≠ p.rows.length\/(rd.take k).any badN=true))):=⟨hkg,hbb⟩
   rw [hw]
   clear hw
   cases bb with
   | true=>
    have HNo:Hid (BRes p rd (.error (43,0))):=Or.inr ⟨p',HP'.out,Or.inl ⟨(by
     rcases HG.out.2.1 rfl with h | h
     ·exact Or.inl h
     ·refine Or.inr ?_
      obtain ⟨x,hx1,hx2⟩:=List.any_eq_true.1 h
      exact List.any_eq_true.2 ⟨x,List.mem_of_mem_take hx1,hx2⟩),rfl⟩⟩
    by_cases hlt:k < rd.length
    ·have hk':(k:Int) < (rd.length:Int):=by omega
     have h2:=HW2.out
     clear hkg hbb hlt
     obtain ⟨r0,r1,r2⟩:=read2 h2.b0
     obtain ⟨s0,s1,s2⟩:=read2 h2.b1
     have z0:=r2 0
     have z1:=r2 1
     have z2:=s2 0
     have z3:=s2 1
     obtain ⟨p1,p2,p3,p4⟩:=wrote4 h2.b0 h2.b1 (by omega) h2.be (.slice none 0 0) (.int .i64 0) (.int .i64 43) (.int .i64 0)
     have HP:Hid (_/\_/\Below w.heap.size w _):=⟨p1,p2,p3⟩
     clear r2 s2 p1 p2 p3 p4 h2
     go_wp2_with fail
     clear r0 r1 s0 s1 z0 z1 z2 z3
     obtain ⟨y0,y1,_⟩:=read2 HP.out.1
     obtain ⟨y2,y3,_⟩:=read2 HP.out.2.1
     have HXr:=hdn <| HP.out.2.2
     clear HP
     generalize ((((w2.setCell ⟨w.heap.size+1+1,0,none⟩ (.slice none 0 0)).setCell ⟨w.heap.size+1+1,1,none⟩ (.int .i64 0)).setCell ⟨w.heap.size+1+1+1,0,none⟩ (.int .i64 43)).setCell ⟨w.heap.size+1+1+1,1,none⟩ (.int .i64 0))=w9 at *
     exact bodyPost_ret (v:=.tuple #[.agg #[.slice none 0 0,.int .i64 0],.agg #[.int .i64 43,.int .i64 0]]) (by simp [results,Tryz.results9,go_sem,y0,y1,y2,y3]) rfl ⟨_,HNo.out,HXr.out,rfl⟩
    ·have hk':decide (k < rd.length)=false:=decide_eq_false hlt
     have hk3:decide ((k:Int) < (rd.length:Int))=false:=decide_eq_false (by omega)
     have h2:=HW2.out
     clear hkg hbb hlt
     obtain ⟨r0,r1,r2⟩:=read2 h2.b0
     obtain ⟨s0,s1,s2⟩:=read2 h2.b1
     have z0:=r2 0
     have z1:=r2 1
     have z2:=s2 0
     have z3:=s2 1
     obtain ⟨p1,p2,p3,p4⟩:=wrote4 h2.b0 h2.b1 (by omega) h2.be (.slice none 0 0) (.int .i64 0) (.int .i64 43) (.int .i64 0)
     have HP:Hid (_/\_/\Below w.heap.size w _):=⟨p1,p2,p3⟩
     clear r2 s2 p1 p2 p3 p4 h2
     go_wp2_with fail
     clear r0 r1 s0 s1 z0 z1 z2 z3
     obtain ⟨y0,y1,_⟩:=read2 HP.out.1
     obtain ⟨y2,y3,_⟩:=read2 HP.out.2.1
     have HXr:=hdn <| HP.out.2.2
     clear HP
     generalize ((((w2.setCell ⟨w.heap.size+1+1,0,none⟩ (.slice none 0 0)).setCell ⟨w.heap.size+1+1,1,none⟩ (.int .i64 0)).setCell ⟨w.heap.size+1+1+1,0,none⟩ (.int .i64 43)).setCell ⟨w.heap.size+1+1+1,1,none⟩ (.int .i64 0))=w9 at *
     exact bodyPost_ret (v:=.tuple #[.agg #[.slice none 0 0,.int .i64 0],.agg #[.int .i64 43,.int .i64 0]]) (by simp [results,Tryz.results9,go_sem,y0,y1,y2,y3]) rfl ⟨_,HNo.out,HXr.out,rfl⟩
   | false=>
    have hne:¬ (rd.length ≠ p.rows.length\/(rd.take k).any badN=true):=fun e=>absurd (HG.out.2.2 e) (by decide)
    have HLen:Hid (rd.length=p.rows.length/\(rd.take k).any badN=false):=⟨by omega,by
     cases hx:(rd.take k).any badN with
     | false=>rfl
     | true=>exact absurd (Or.inr hx) hne⟩
    by_cases hlt:k < rd.length
    ·have hk':(k:Int) < (rd.length:Int):=by omega
     have hk2:(k:Int)<=17592186043904:=by omega
     obtain ⟨g,o,rfl,_,d0⟩:=(HD.out.1.below HW2.out.be) k _ (iv_at hlt)
     have HS:Hid ((rd.take (k+1)).any badN=badN rd[k]):=by
      show _=_
      rw [any_take hlt,HLen.out.2]
      rfl
     have HLt:Hid (k < rd.length):=hlt
     generalize rd[k]=x at *
     have HBx:Hid (badN x=(decide (x < 0) || decide (4194304 < x))):=rfl
     clear hkg hbb hlt hne
     by_cases hx0:x < 0
     ·have hx1:decide (x < 0)=true:=decide_eq_true hx0
      go_wp2_with fail
      go_roundg (rd.length - (k+1))
      case measure=>have:=HG.out.1;have:=HLt.out;omega
      case rel=>exact ⟨k+1,true,by have:=HLt.out;omega,by go_num,rfl,by rw [HS.out,HBx.out,hx1];simp,rfl⟩
     ·have hx1:decide (x < 0)=false:=decide_eq_false hx0
      go_wp2_with fail
      go_roundg (rd.length - (k+1))
      case measure=>have:=HG.out.1;have:=HLt.out;omega
      case rel=>exact ⟨k+1,decide (4194304 < x),by have:=HLt.out;omega,by go_num,rfl,by rw [HS.out,HBx.out,hx1];simp [HLen.out.1],rfl⟩
    ·have hk':decide (k < rd.length)=false:=decide_eq_false hlt
     have hk3:decide ((k:Int) < (rd.length:Int))=false:=decide_eq_false (by omega)
     have hke:k=rd.length:=by omega
     have HAny:Hid (rd.any badN=false):=by
      have:=HLen.out.2
      rwa [hke,List.take_length] at this
     have HL0:Hid (rd.length=p.rows.length):=HLen.out.1
     clear hkg hbb hlt hne hke HG HLen
     obtain ⟨hPc,hq,hev,hus,hon⟩:=HP'.out.pc HD.out.2.2 HL0.out
     obtain ⟨hk12,hk13⟩:=HP'.out.most
     have hul:p.us.length=p'.us.length:=by rw [hus,List.length_map]
     have HPr:Hid (∀ k,k<=p'.us.length->Pr p.rows rd (rsN p.rows rd p'.us k)):=fun k hk=>⟨hPc.tree,hPc.len,hPc.rl,fun x hx=>by
      have h1:=HAny.out
      have h2:badN x=false:=by
       cases hb:badN x with
       | false=>rfl
       | true=>exact absurd (List.any_eq_true.2 ⟨x,hx,hb⟩) (by rw [h1];decide)
      unfold badN at h2
      simp only [Bool.or_eq_false_iff,decide_eq_false_iff_not] at h2
      omega,fun i hi e=>⟨hPc.iff i hi e,hk12 i hi e⟩,hk13,by rw [rsN_len];have:=hPc.um;omega,rsN_le _ _ _ _⟩
     have HPc:=hdn <| hPc
     have HEv:=hdn <| hev
     have HYes:Hid (BRes p rd (evR p.rows rd p'.us p.qs.length)):=Or.inr ⟨p',HP'.out,Or.inr ⟨HL0.out,HAny.out,rfl⟩⟩
     have HQ:Hid (p.on.length=p.qs.length/\p.qs.length<=16):=⟨hon,hq⟩
     have HEn:=hdn <| ends_any ao p.rows ac w2 ((RdG.below HR.out HW2.out.be).r) (by have:=HD.out.2.2;omega) hPc.tree
     have HUs:Hid (∀ W,Below w.heap.size w W->IsNats W uo p'.us):=fun W hW=>by
      have hu2:=(RdG.below HR.out hW).u
      rw [hus] at hu2
      exact nats_vals hu2
     have hum:(p'.us.length:Int)<=64:=by have:=hPc.um;omega
     have honI:(p.on.length:Int)<=16:=by omega
     have HUl:Hid (p.us.length=p'.us.length):=hul
     rw [hul] at HW2 HB k5 ⊢
     clear hPc hq hev hus hon hk12 hk13 hul
     go_wp2_with fail
     refine Calls.mono HEn.out ?_
     rintro e w3 ⟨eb,rfl,heb,hri,hb3⟩
     have HW3:Hid (BdW w w3 w.heap.size _ _/\RowI w3 eb p.rows.length (fun i=>(endp p.rows i:Int))):=⟨HW2.out.below hb3 (HB.out _ HW2.out).2,hri⟩
     obtain ⟨k0,k1,k2,k3,k4,k5,k6,k7⟩:=pol8 HW3.out.1.p
     clear hb3 heb hri HEn
     go_wp2_with fail
     clear k0 k1 k2 k3 k4 k5 k6 k7 t0 t1 t2 h2
     have HBc:Hid (∀ W,Below w3.heap.size w3 W->∀ (rs:List Nat) (uo':Option Addr) (uc' row:Nat),Pr p.rows rd rs->IsVals W uo' (iv (zi rs))->row < p.rows.length->(∀ j,row<=j->j < endp p.rows row->(rat p.rows j).kind=22->0<=(rat p.rows j).n/\(rat p.rows j).n < (rs.length:Int))->Calls Tryz.prog 30 #[.agg #[.string p.name,.slice ao p.rows.length ac,.slice qo p.qs.length qc,.slice vo p.vs.length vc,.slice tto p.ts.length tc,.slice uo p'.us.length uc,.slice oo p.on.length oc,.int .i64 p.miss],.slice eo rd.length ec,.slice (some ⟨eb,0,none⟩) p.rows.length p.rows.length,.slice uo' rs.length uc',.int .i64 (row:Int)] W fun e w'=>e=.returned (.int .i64 (bnd p.rows rd rs row:Nat))/\Below W.heap.size W w'):=fun W hW rs uo' uc' row hpr hu hrow hcall=>by
      have hbw:Below w.heap.size w W:=HW3.out.1.be.trans (hW.mono HW3.out.1.be.size)
      exact rcbound hpr ⟨(RdG.below HR.out hbw).r,HD.out.1.below hbw,fun i hi=>(hW.cell (p:=⟨eb,i,none⟩) HW3.out.2.lt).trans (HW3.out.2.cell hi),hu⟩ hrow hcall
     obtain ⟨i0,hi,hz0,hz1,hz2⟩:=info_parts infoI
     go_loopg [10,11] p'.us.length (fun gq x y wr=>∃ k:Nat,k+gq=p'.us.length/\y=.int .i64 (k:Int)/\wr.ownsRow w3.heap.size 3 1 x k (iv (zi (rsN p.rows rd p'.us k)))/\Below w3.heap.size w3 wr)
     case atStart=>exact ⟨0,by omega,rfl,⟨rfl,Or.inl ⟨rfl,rfl⟩⟩,Below.refl _ _⟩
     case round=>
      obtain ⟨k,hkg,rfl,hown,hbq⟩:=hrel
      obtain ⟨so,sc,rfl⟩:=own_form hown
      have HG:Hid (k+gk=p'.us.length/\wr.ownsRow w3.heap.size 3 1 (.slice so k sc) k (iv (zi (rsN p.rows rd p'.us k)))/\Below w3.heap.size w3 wr):=⟨hkg,hown,hbq⟩
      have HWr:=hdn <| HW3.out.1.below hbq (HB.out _ HW3.out.1).2
      by_cases hlt:k < p'.us.length
      ·have hk':(k:Int) < (p'.us.length:Int):=by omega
       have hk2:(k:Int)<=64:=by omega
       have hgx:=List.getElem?_eq_getElem hlt
       obtain ⟨ug,uof,rfl,hug,ucl⟩:=HUs.out wr HWr.out.be k p'.us[k] hgx
       have HXk:Hid (rsN p.rows rd p'.us (k+1)=rsN p.rows rd p'.us k++[bnd p.rows rd (rsN p.rows rd p'.us k) p'.us[k]]):=by
        show _++[bnd p.rows rd _ (p'.us.getD k 0)]=_
        rw [List.getD_eq_getElem?_getD,hgx]
        rfl
       have hne:Nonempty (Kin wr):=Kin.there _
       have HC:Hid (∀ y:Kin wr,Calls Tryz.prog 30 #[.agg #[.string p.name,.slice ao p.rows.length ac,.slice qo p.qs.length qc,.slice vo p.vs.length vc,.slice tto p.ts.length tc,.slice (some ⟨ug,uof,none⟩) p'.us.length uc,.slice oo p.on.length oc,.int .i64 p.miss],.slice eo rd.length ec,.slice (some ⟨eb,0,none⟩) p.rows.length p.rows.length,.slice so k sc,.int .i64 (p'.us[k]:Nat)] y.u fun e w'=>e=.returned (.int .i64 (bnd p.rows rd (rsN p.rows rd p'.us k) p'.us[k]:Nat))/\Below y.u.heap.size y.u w'):=fun y=>by
        have:=HBc.out y.u (HG.out.2.2.trans (y.ok.mono HG.out.2.2.size)) (rsN p.rows rd p'.us k) so sc p'.us[k] (HPr.out k (Nat.le_of_lt hlt)) ((vals_of HG.out.2.1).below y.ok) (HPc.out.ul _ (List.getElem_mem hlt)) (by rw [rsN_len];exact HPc.out.ahead k hlt)
        rw [rsN_len] at this
        exact this
       generalize bnd p.rows rd (rsN p.rows rd p'.us k) p'.us[k]=bk at *
       generalize p'.us[k]=ux at *
       have ky:∀ (i:Nat) (v:Value),wr.cell? ⟨w.heap.size,i,none⟩=some v->∀ y:Kin wr,y.u.cell? ⟨w.heap.size,i,none⟩=some v:=fun i v hv y=>y.cell (a:=⟨w.heap.size,i,none⟩) (blk_in HWr.out.p) hv
       obtain ⟨k0',k1',k2',k3',k4',k5',k6',k7'⟩:=pol8 HWr.out.p
       obtain ⟨_,_,t2'⟩:=read3 HWr.out.t
       have y0:=ky 0 _ k0'
       have y1:=ky 1 _ k1'
       have y2:=ky 2 _ k2'
       have y3:=ky 3 _ k3'
       have y4:=ky 4 _ k4'
       have y5:=ky 5 _ k5'
       have y6:=ky 6 _ k6'
       have y7:=ky 7 _ k7'
       have yt:∀ y:Kin wr,y.u.cell? ⟨w.heap.size+1,2,none⟩=some (.slice eo rd.length ec):=fun y=>y.cell (a:=⟨w.heap.size+1,2,none⟩) (blk_in HWr.out.t) t2'
       have yu:∀ y:Kin wr,y.u.cell? ⟨ug,uof+k,none⟩=some (.int .i64 (ux:Int)):=fun y=>y.cell (a:=⟨ug,uof+k,none⟩) hug ucl
       have HLt:Hid (k < p'.us.length):=hlt
       clear hkg hown hbq hlt hgx ky hug ucl k0' k1' k2' k3' k4' k6' k7' t2'
       go_wp2_with fail
       refine wp_region_kin (by kernel_rfl) (by kernel_rfl) ?_
       iterate 11 quiet_step (exact kin_of (HC.out _))
       quiet_step (fail)
       refine wpQuiet_nil ?_
       rintro _ ⟨y,rfl⟩
       have HYk:Hid (Below wr.heap.size wr y.u):=y.ok
       clear y0 y1 y2 y3 y4 y5 y6 y7 yt yu HC hne
       generalize y.u=w4 at *
       have hbU:Below wr.heap.size wr (w4.alloc (.cells #[.int .i64 (bk:Int)] 3)):=HYk.out.alloc HYk.out.size _
       have HOw:Hid ((w4.alloc (.cells #[.int .i64 (bk:Int)] 3)).ownsRow w3.heap.size 3 1 (.slice so k sc) k (iv (zi (rsN p.rows rd p'.us k)))/\Below w3.heap.size w3 (w4.alloc (.cells #[.int .i64 (bk:Int)] 3))/\k<=64):=⟨own_below HG.out.2.1 hbU,HG.out.2.2.trans (hbU.mono HG.out.2.2.size),by omega⟩
       clear hbU
       go_wp2_with (at_builtin;refine wpl_app _ rfl _ _ 23 rfl w3.heap.size 3 i0 (.int .i64 0) 1 8 Tryz.underlying23 hi hz0 hz1 hz2 rfl (by decide) (.slice so k sc) k (iv (zi (rsN p.rows rd p'.us k))) rfl HOw.out.1 (some ⟨w4.heap.size,0,none⟩) 1 1 [.int .i64 (bk:Int)] rfl rfl (fun e=>by cases e) (fun ad e=>by cases e;exact cell_one w4 _ _) (by intro u hu;simp only [List.mem_cons,List.not_mem_nil,or_false] at hu;subst hu;rfl) ?c3 ?c4 HOw.out.2.1.size ?_)
       case c3=>have:=HOw.out.2.2;unfold maxLen;omega
       case c4=>have:=HOw.out.2.2;omega
       intro v2 w5 ho2 hg2 _
       have H4:Hid (w5.ownsRow w3.heap.size 3 1 v2 (k+1) (iv (zi (rsN p.rows rd p'.us (k+1))))/\Below w3.heap.size w3 w5):=⟨by rw [HXk.out];simpa [iv,zi] using ho2,HOw.out.2.1.grown hg2 HOw.out.2.1.size (fun q e=>(World.ownsRow.lt HOw.out.1 q e).1)⟩
       obtain ⟨bo,bc,rfl⟩:=own_form ho2
       clear ho2 hg2 HOw
       go_wp2_with fail
       go_roundg (p'.us.length - (k+1))
       case measure=>have:=HG.out.1;have:=HLt.out;omega
       case rel=>exact ⟨k+1,by have:=HLt.out;omega,by go_num,H4.out.1,H4.out.2⟩
      ·have hke:k=p'.us.length:=by omega
       subst hke
       have hk':decide (p'.us.length < p'.us.length)=false:=decide_eq_false (Nat.lt_irrefl _)
       have hmk:=mk_nats p.on.length (by have:=HQ.out;omega)
       have HYe0:Hid (∀ R,evR p.rows rd p'.us p.on.length=R->BRes p rd R):=fun R hR=>by
        rw [<-hR,HQ.out.1]
        exact HYes.out
       have HEq:Hid (∀ i,i < p.rows.length->(rat p.rows i).kind=8\/(rat p.rows i).kind=9->∃ n:Nat,(rat p.rows i).n=(n:Int)/\n < p.on.length):=by
        show ∀ i,_
        rw [HQ.out.1]
        exact HEv.out
       have HERd:Hid (evR p.rows rd p'.us p.on.length=match evN p.rows rd (rsAll p.rows rd p'.us) p.on.length p.rows.length with
        | .error a=>.error (61,a)
        | .ok c=>.ok c):=rfl
       have HRs:Hid (IsVals wr so (iv (zi (rsAll p.rows rd p'.us)))/\(rsAll p.rows rd p'.us).length=p'.us.length/\Pr p.rows rd (rsAll p.rows rd p'.us)):=⟨vals_of hown,rsN_len _ _ _ _,HPr.out _ (Nat.le_refl _)⟩
       obtain ⟨k0',k1',k2',k3',k4',k5',k6',k7'⟩:=pol8 HWr.out.p
       have HS5:=hdn <| evx_start wr p.on.length
       clear HYes HQ HEv
       generalize p.on.length=q at *
       generalize rsAll p.rows rd p'.us=rsA at *
       clear hkg hown hbq HPr
       go_wp2_with fail
       obtain ⟨w5,hw5⟩:∃ w5,w5=wr:=⟨_,rfl⟩
       rw [<-hw5] at HS5 HWr HRs HG ⊢
       clear hw5 hmk k0' k1' k2' k3' k4' k5' k6' k7'
       have HB5:Hid (Below w3.heap.size w3 w5):=HG.out.2.2
       clear HG
       generalize ((w5.alloc (.cells (Array.replicate q (.int .i64 0)) 3)).alloc (.cells #[.slice (some ⟨w5.heap.size,0,none⟩) q q,.int .i64 0] 40))=w5a at *
       go_loopg [14] p.rows.length (fun gq y wr=>∃ (k:Nat) (c:Co),k+gq=p.rows.length/\y=.int .i64 (k:Int)/\evN p.rows rd rsA q k=.ok c/\EvX w5 wr q c)
       case atStart=>exact ⟨0,_,by omega,rfl,rfl,HS5.out⟩
       case round=>
        obtain ⟨k,c,hkg,rfl,hev,hw⟩:=hrel
        have HG:Hid (k+gk=p.rows.length/\evN p.rows rd rsA q k=.ok c/\EvX w5 wr q c):=⟨hkg,hev,hw⟩
        have hBd:=HWr.out.below hw.be (HB.out _ HWr.out).2
        obtain ⟨k0',k1',k2',k3',k4',k5',k6',k7'⟩:=pol8 hBd.p
        by_cases hlt:k < p.rows.length
        ·have hk':(k:Int) < (p.rows.length:Int):=by omega
         have hk2:(k:Int)<=65536:=by omega
         obtain ⟨g,o,rfl,hg,c0,c1,c2,c3,c4⟩:=(RdG.below HR.out hBd.be).r k _ (some_rat hlt)
         have HLt:Hid (k < p.rows.length):=hlt
         have HNx:Hid (evN p.rows rd rsA q (k+1)=evSt p.rows rd rsA k c):=by
          show evNx p.rows rd rsA k (evN p.rows rd rsA q k)=_
          rw [hev]
          rfl
         have HSx:Hid (evSt p.rows rd rsA k c=if (rat p.rows k).kind=8\/(rat p.rows k).kind=9\/(rat p.rows k).kind=10 then
          if 72057594037927936 < bnd p.rows rd rsA (k+1) then .error k
          else if (rat p.rows k).kind=10 then .ok ⟨c.on,bnd p.rows rd rsA (k+1)⟩
          else .ok ⟨c.on.set (rat p.rows k).n.toNat (bnd p.rows rd rsA (k+1)),c.miss⟩
         else .ok c):=rfl
         have HKd:Hid ((rat p.rows k).kind=8\/(rat p.rows k).kind=9\/(rat p.rows k).kind=10->k+1 < p.rows.length):=fun e=>by
          have h1:=HPc.out.ev k hlt e
          have h2:=(kidIn HPc.out.tree.whole hlt (k:=0) (by omega)).2.1
          rwa [kid_zero] at h2
         have HEk:=hdn <| HEq.out k hlt
         generalize rat p.rows k=x at *
         obtain ⟨kd,nm,st,n,kk⟩:=x
         dsimp only at *
         have hbx:Below wr.heap.size wr (wr.alloc (.cells #[.int .i64 kd,.string nm,.int .i64 st,.int .i64 n,.int .i64 kk] 51)):=bAl wr _
         have hnew:=heap_alloc_new wr (.cells #[.int .i64 kd,.string nm,.int .i64 st,.int .i64 n,.int .i64 kk] 51)
         have HNw:Hid ((wr.alloc (.cells #[.int .i64 kd,.string nm,.int .i64 st,.int .i64 n,.int .i64 kk] 51)).heap[wr.heap.size]?=some (.cells #[.int .i64 kd,.string nm,.int .i64 st,.int .i64 n,.int .i64 kk] 51 (0,0))/\EvX w5 (wr.alloc (.cells #[.int .i64 kd,.string nm,.int .i64 st,.int .i64 n,.int .i64 kk] 51)) q c/\BdW w (wr.alloc (.cells #[.int .i64 kd,.string nm,.int .i64 st,.int .i64 n,.int .i64 kk] 51)) w.heap.size _ _):=⟨hnew,hw.below hbx,hBd.below hbx (HB.out _ hBd).2⟩
         obtain ⟨x0,x3⟩:=row5 hnew
         have HIe:=hdn <| rcEvent kd (wr.alloc (.cells #[.int .i64 kd,.string nm,.int .i64 st,.int .i64 n,.int .i64 kk] 51))
         by_cases hE:kd=8\/kd=9\/kd=10
         ·rw [decide_eq_true hE] at HIe
          have HS2:Hid (evN p.rows rd rsA q (k+1)=if 72057594037927936 < bnd p.rows rd rsA (k+1) then .error k
           else if kd=10 then .ok ⟨c.on,bnd p.rows rd rsA (k+1)⟩
           else .ok ⟨c.on.set n.toNat (bnd p.rows rd rsA (k+1)),c.miss⟩):=by
           show _=_
           rw [HNx.out,HSx.out,if_pos hE]
          have HC:=hdn <| HBc.out (wr.alloc (.cells #[.int .i64 kd,.string nm,.int .i64 st,.int .i64 n,.int .i64 kk] 51)) (HB5.out.trans (HNw.out.2.1.be.mono HB5.out.size)) rsA so sc (k+1) HRs.out.2.2 (HRs.out.1.below HNw.out.2.1.be) (HKd.out hE) (by
           rw [HRs.out.2.1]
           exact fun j hj1 hj2=>HPc.out.there j (Nat.lt_of_lt_of_le hj2 (end_kid HPc.out.tree.whole (HKd.out hE)).2.2))
          rw [HRs.out.2.1] at HC
          have hbl:=bnd_le p.rows rd rsA (k+1)
          generalize bnd p.rows rd rsA (k+1)=bk at *
          have hwr:IntKind.i64.wrap ((k:Int)+1)=((k+1:Nat):Int):=by rw [IntKind.wrap_i64];omega
          have hbl2:(bk:Int)<=4611686018427387904:=by omega
          obtain ⟨l0,l1,l2,l3,l4,l5,l6,l7⟩:=pol8 HNw.out.2.2.p
          obtain ⟨_,_,t2⟩:=read3 HNw.out.2.2.t
          clear hkg hlt hbl hev hw hBd hbx hnew HSx HKd HNx
          by_cases hov:72057594037927936 < bk
          ·have HFin:Hid (evR p.rows rd p'.us q=.error (61,k)):=by
            show _=_
            have e0:evN p.rows rd rsA q (k+1)=.error k:=by rw [HS2.out,if_pos hov]
            have e1:=evN_err e0 (p.rows.length - (k+1))
            rw [show k+1+(p.rows.length - (k+1))=p.rows.length by have:=HLt.out;omega] at e1
            rw [HERd.out,e1]
           have HYe:=hdn <| HYe0.out _ HFin.out
           have hov1:decide ((72057594037927936:Int) < (bk:Int))=true:=decide_eq_true (by omega)
           have hov2:(72057594037927936:Int) < (bk:Int):=by omega
           clear hov HS2 HEk
           rcases hE with rfl | rfl | rfl
           all_goals
            go_wp2_with fail
            generalize wr.alloc (.cells #[.int .i64 _,.string nm,.int .i64 st,.int .i64 n,.int .i64 kk] 51)=W2 at *
            refine Calls.mono HIe.out ?_
            rintro e w7 ⟨rfl,hw7⟩
            rw [hw7]
            clear hw7 w7 HIe
            go_wp2_with fail
            refine Calls.mono HC.out ?_
            rintro e w6 ⟨rfl,hb6⟩
            clear l0 l1 l2 l3 l4 l5 l6 l7 t2 x0 x3 c0 c1 c2 c3 c4
            have h6:=HNw.out.2.2.below hb6 (HB.out _ HNw.out.2.2).2
            clear hb6 HC
            obtain ⟨r0,r1,r2⟩:=read2 h6.b0
            obtain ⟨s0,s1,s2⟩:=read2 h6.b1
            have z0:=r2 0
            have z1:=r2 1
            have z2:=s2 0
            have z3:=s2 1
            obtain ⟨p1,p2,p3,p4⟩:=wrote4 h6.b0 h6.b1 (by omega) h6.be (.slice none 0 0) (.int .i64 0) (.int .i64 61) (.int .i64 (k:Int))
            have HP:Hid (_/\_/\Below w.heap.size w _):=⟨p1,p2,p3⟩
            clear r2 s2 p1 p2 p3 p4 h6
            go_wp2_with fail
            clear r0 r1 s0 s1 z0 z1 z2 z3
            obtain ⟨y0,y1,_⟩:=read2 HP.out.1
            obtain ⟨y2,y3,_⟩:=read2 HP.out.2.1
            have HXr:=hdn <| HP.out.2.2
            clear HP
            generalize ((((w6.setCell ⟨w.heap.size+1+1,0,none⟩ (.slice none 0 0)).setCell ⟨w.heap.size+1+1,1,none⟩ (.int .i64 0)).setCell ⟨w.heap.size+1+1+1,0,none⟩ (.int .i64 61)).setCell ⟨w.heap.size+1+1+1,1,none⟩ (.int .i64 (k:Int)))=w9 at *
            exact bodyPost_ret (v:=.tuple #[.agg #[.slice none 0 0,.int .i64 0],.agg #[.int .i64 61,.int .i64 (k:Int)]]) (by simp [results,Tryz.results9,go_sem,y0,y1,y2,y3]) rfl (by exact ⟨_,HYe.out,HXr.out,rfl⟩)
          ·have hov1:decide ((72057594037927936:Int) < (bk:Int))=false:=decide_eq_false (by omega)
           have hov3:decide (72057594037927936 < bk)=false:=decide_eq_false hov
           by_cases h10:kd=10
           ·subst h10
            have HS3:Hid (evN p.rows rd rsA q (k+1)=.ok ⟨c.on,bk⟩):=by
             show _=_
             rw [HS2.out,if_neg hov,if_pos rfl]
            clear hov HS2 HEk hE
            go_wp2_with fail
            generalize wr.alloc (.cells #[.int .i64 _,.string nm,.int .i64 st,.int .i64 n,.int .i64 kk] 51)=W2 at *
            refine Calls.mono HIe.out ?_
            rintro e w7 ⟨rfl,hw7⟩
            rw [hw7]
            clear hw7 w7 HIe
            go_wp2_with fail
            refine Calls.mono HC.out ?_
            rintro e w6 ⟨rfl,hb6⟩
            clear l0 l1 l2 l3 l4 l5 l6 l7 t2 x0 x3 c0 c1 c2 c3 c4
            have h6:=HNw.out.2.1.below hb6
            obtain ⟨x0',_⟩:=row5 ((hb6.block _ (blk_in HNw.out.1)).trans HNw.out.1)
            obtain ⟨r0,r1,r2⟩:=read2 h6.bx
            have z1:=r2 1
            have HP:=hdn <| h6.setMiss bk
            clear hb6 HC h6 r2
            go_wp2_with fail
            go_roundg (p.rows.length - (k+1))
            case measure=>have:=HG.out.1;have:=HLt.out;omega
            case rel=>exact ⟨k+1,_,by have:=HLt.out;omega,by go_num,HS3.out,HP.out⟩
           ·have hE2:kd=8\/kd=9:=by
             rcases hE with h | h | h
             ·exact Or.inl h
             ·exact Or.inr h
             ·exact absurd h h10
            obtain ⟨mm,hm,hmq⟩:=HEk.out hE2
            subst hm
            have HS3:Hid (evN p.rows rd rsA q (k+1)=.ok ⟨c.on.set mm bk,c.miss⟩):=by
             show _=_
             rw [HS2.out,if_neg hov,if_neg h10]
             rfl
            have hmq2:(mm:Int) < (q:Int):=by omega
            have HMq:Hid (mm < c.on.length):=by
             show _ < _
             rw [evN_len HG.out.2.1]
             exact hmq
            clear hov HS2 HEk hE hmq h10
            rcases hE2 with rfl | rfl
            all_goals
             go_wp2_with fail
             generalize wr.alloc (.cells #[.int .i64 _,.string nm,.int .i64 st,.int .i64 (mm:Int),.int .i64 kk] 51)=W2 at *
             refine Calls.mono HIe.out ?_
             rintro e w7 ⟨rfl,hw7⟩
             rw [hw7]
             clear hw7 w7 HIe
             go_wp2_with fail
             refine Calls.mono HC.out ?_
             rintro e w6 ⟨rfl,hb6⟩
             clear l0 l1 l2 l3 l4 l5 l6 l7 t2 x0 x3 c0 c1 c2 c3 c4
             have h6:=HNw.out.2.1.below hb6
             obtain ⟨x0',x3'⟩:=row5 ((hb6.block _ (blk_in HNw.out.1)).trans HNw.out.1)
             obtain ⟨r0,r1,r2⟩:=read2 h6.bx
             have z1:=h6.on.frozen mm
             have ce:=h6.on.cell HMq.out
             have HP:=hdn <| h6.setOn mm bk
             generalize c.on[mm]'HMq.out=old at ce
             clear hb6 HC h6 r2
             go_wp2_with fail
             go_roundg (p.rows.length - (k+1))
             case measure=>have:=HG.out.1;have:=HLt.out;omega
             case rel=>exact ⟨k+1,_,by have:=HLt.out;omega,by go_num,HS3.out,HP.out⟩
         ·rw [decide_eq_false hE] at HIe
          have HS3:Hid (evN p.rows rd rsA q (k+1)=.ok c):=by
           show _=_
           rw [HNx.out,HSx.out,if_neg hE]
          clear hkg hlt hev hw hBd hbx hnew HSx HKd HNx HEk hE
          go_wp2_with fail
          refine Calls.mono HIe.out ?_
          rintro e w6 ⟨rfl,hw6⟩
          rw [hw6]
          clear hw6 w6
          go_wp2_with fail
          go_roundg (p.rows.length - (k+1))
          case measure=>have:=HG.out.1;have:=HLt.out;omega
          case rel=>exact ⟨k+1,_,by have:=HLt.out;omega,by go_num,HS3.out,HNw.out.2.1⟩
        ·have hk':decide (k < p.rows.length)=false:=decide_eq_false hlt
         have hk3:decide ((k:Int) < (p.rows.length:Int))=false:=decide_eq_false (by omega)
         have hke:k=p.rows.length:=by omega
         have HFin:Hid (evR p.rows rd p'.us q=.ok c/\c.on.length=q):=by
          refine ⟨?_,evN_len hev⟩
          rw [HERd.out,<-hke,hev]
         have HYe:=hdn <| HYe0.out _ HFin.out.1
         have HCl:Hid (c.on.length=q):=HFin.out.2
         obtain ⟨u0,u1,_⟩:=read2 hw.bx
         have HOb:Hid (w.heap.size<=w5.heap.size):=(HB.out _ HWr.out).2
         have hobX:w.heap.size+1+1+1 < w5.heap.size:=blk_in HWr.out.b1
         have hrow:=hw.on
         have h6:=hBd
         clear hkg hlt hev hw hke hBd k0' k2' k3' k4' k5' k6' k7'
         obtain ⟨r0,r1,r2⟩:=read2 h6.b0
         obtain ⟨s0,s1,s2⟩:=read2 h6.b1
         have z0:=r2 0
         have z1:=r2 1
         have z2:=s2 0
         have z3:=s2 1
         obtain ⟨p1,p2,p3,p4⟩:=wrote4 h6.b0 h6.b1 (by omega) h6.be (.slice (some ⟨w5.heap.size,0,none⟩) q q) (.int .i64 (c.miss:Int)) (.int .i64 0) (.int .i64 0)
         have HP:Hid (_/\_/\Below w.heap.size w _/\RowN _ w5.heap.size c.on):=⟨p1,p2,p3,(p4 _ (by omega) (by omega)).trans hrow⟩
         clear r2 s2 p1 p2 p3 p4 h6 hrow hobX
         go_wp2_with fail
         clear r0 r1 s0 s1 z0 z1 z2 z3
         obtain ⟨y0,y1,_⟩:=read2 HP.out.1
         obtain ⟨y2,y3,_⟩:=read2 HP.out.2.1
         have HXr:=hdn <| HP.out.2.2
         clear HP
         generalize ((((wr.setCell ⟨w.heap.size+1+1,0,none⟩ (.slice (some ⟨w5.heap.size,0,none⟩) q q)).setCell ⟨w.heap.size+1+1,1,none⟩ (.int .i64 (c.miss:Int))).setCell ⟨w.heap.size+1+1+1,0,none⟩ (.int .i64 0)).setCell ⟨w.heap.size+1+1+1,1,none⟩ (.int .i64 0))=w9 at *
         exact bodyPost_ret (v:=.tuple #[.agg #[.slice (some ⟨w5.heap.size,0,none⟩) q q,.int .i64 (c.miss:Int)],.agg #[.int .i64 0,.int .i64 0]]) (by simp [results,Tryz.results9,go_sem,y0,y1,y2,y3]) rfl (by exact ⟨_,HYe.out,HXr.out.1,w5.heap.size,by rw [HCl.out],HOb.out,HXr.out.2⟩)
 ·have HNo:Hid (BRes p rd (.error (23,0))):=Or.inl ⟨hno,rfl⟩
  obtain ⟨r0,r1,r2⟩:=read2 h2.b0
  obtain ⟨s0,s1,s2⟩:=read2 h2.b1
  have z0:=r2 0
  have z1:=r2 1
  have z2:=s2 0
  have z3:=s2 1
  obtain ⟨p1,p2,p3,p4⟩:=wrote4 h2.b0 h2.b1 (by omega) h2.be (.slice none 0 0) (.int .i64 0) (.int .i64 23) (.int .i64 0)
  have HP:Hid (_/\_/\Below w.heap.size w _):=⟨p1,p2,p3⟩
  clear r2 s2 p1 p2 p3 p4 h2 hno
  go_wp2_with fail
  clear r0 r1 s0 s1 z0 z1 z2 z3
  obtain ⟨y0,y1,_⟩:=read2 HP.out.1
  obtain ⟨y2,y3,_⟩:=read2 HP.out.2.1
  have HXr:=hdn <| HP.out.2.2
  clear HP
  generalize ((((w2.setCell ⟨w.heap.size+1+1,0,none⟩ (.slice none 0 0)).setCell ⟨w.heap.size+1+1,1,none⟩ (.int .i64 0)).setCell ⟨w.heap.size+1+1+1,0,none⟩ (.int .i64 23)).setCell ⟨w.heap.size+1+1+1,1,none⟩ (.int .i64 0))=w9 at *
  exact bodyPost_ret (v:=.tuple #[.agg #[.slice none 0 0,.int .i64 0],.agg #[.int .i64 23,.int .i64 0]]) (by simp [results,Tryz.results9,go_sem,y0,y1,y2,y3]) rfl ⟨_,HNo.out,HXr.out,rfl⟩
end Go.Proofs.YthbnjhamfcefkaaGreat.Nm
