import Derived.Test.YtfgpbdieaflclaaGreatK46
import Derived.Test.YtfgpbdieaflclaaGreatK47
set_option maxHeartbeats 51200000
set_option maxRecDepth 2000000
set_option linter.unusedSimpArgs false
namespace Go.Proofs.YtfgpbdieaflclaaGreat.Nm.Ty
open Go.RowKit Go.Maps Sp Lx Gr Nm
theorem growsWalk (ao:Option Addr) (l:List Rz) (cap:Nat) (bo:Option Addr) (rl:List Int) (bc:Nat) (mo:Option Addr) (ml:List Int) (mc:Nat) (w:World) (h:IsRz w ao l) (hcap:l.length<=cap) (hn:l.length<=2932031007317) (hkd:∀ r ∈ l,r.kids<=9223372036854775807/\r.name.size<=4611686018427387000) (hv:IsVals w bo (iv rl)) (hR:rl.length<=1152921504606846975) (hv2:IsVals w mo (iv ml)) (hM:ml.length<=1152921504606846975):
  Calls Tryz.prog 3 #[.slice ao l.length cap,.slice bo rl.length bc,.slice mo ml.length mc] w fun e w'=>e=.returned (.bool true)/\Below w.heap.size w w':=by
 by_cases hf:4096 < l.length
 ·have hf':decide ((4096:Int) < (l.length:Int))=true:=decide_eq_true (by omega)
  clear h hcap hn hkd hv hR hv2 hM
  go_enter Tryz.func3,Tryz.ntmps3
  go_wp2_with fail
  refine Calls.mono (head10 _) ?_
  rintro e wz ⟨rfl,hbz⟩
  have HBz:=hdn <| hbz
  clear hbz
  go_wp2
  go_ret
  exact ⟨rfl,HBz.out⟩
 ·have hf':decide ((4096:Int) < (l.length:Int))=false:=decide_eq_false (by omega)
  have HA:Hid (l.length<=4096/\l.length<=cap/\IsRz w ao l/\∀ r ∈ l,r.kids<=9223372036854775807/\r.name.size<=4611686018427387000):=⟨by omega,hcap,h,hkd⟩
  have HV:Hid (IsVals w bo (iv rl)/\rl.length<=1152921504606846975/\IsVals w mo (iv ml)/\ml.length<=1152921504606846975):=⟨hv,hR,hv2,hM⟩
  have HRr:=hdn <| rresolve_any (cap:=cap) h hn hkd
  have HPk:=hdn <| res_kd (l:=l) (by omega) hkd
  have HFw:=hdn <| resP_few (l:=l) (by omega)
  clear h hcap hn hkd hv hR hv2 hM hf
  go_enter Tryz.func3,Tryz.ntmps3
  go_wp2_with fail
  refine Calls.mono HRr.out ?_
  rintro e w2 hT2
  obtain ⟨ao1,qo1,vo1,to1,uo1,oo1,ac1,qc1,vc1,tc1,uc1,oc1,rfl,hb2,hrd2,n2,n3,n4,n5,n6⟩:=told_gn hT2
  have HNi:Hid ((qo1=none->qc1=0)/\(vo1=none->vc1=0)/\(to1=none->tc1=0)/\(uo1=none->uc1=0)/\(oo1=none->oc1=0)):=⟨n2,n3,n4,n5,n6⟩
  clear hT2 HRr n2 n3 n4 n5 n6
  obtain ⟨P,hP⟩:∃ P,P=resP l:=⟨_,rfl⟩
  obtain ⟨c1,hc1⟩:∃ c1,c1=(resC l).1:=⟨_,rfl⟩
  obtain ⟨c2,hc2⟩:∃ c2,c2=(resC l).2:=⟨_,rfl⟩
  rw [<-hP] at hrd2 HPk HFw ⊢
  rw [<-hc1,<-hc2]
  have HRs:Hid (P=resP l/\c1=(resC l).1):=⟨hP,hc1⟩
  clear hP hc1 hc2
  dsimp only [pvG]
  have hb3:Below w2.heap.size w2 ((w2.alloc (.cells #[.string P.name,.slice ao1 P.rows.length ac1,.slice qo1 P.qs.length qc1,.slice vo1 P.vs.length vc1,.slice to1 P.ts.length tc1,.slice uo1 P.us.length uc1,.slice oo1 P.on.length oc1,.int .i64 P.miss] 28)).alloc (.cells #[.int .i64 (c1:Int),.int .i64 (c2:Int)] 31)):=(bAl w2 _).alloc (by simp) _
  have H3:Hid (Below w.heap.size w ((w2.alloc (.cells #[.string P.name,.slice ao1 P.rows.length ac1,.slice qo1 P.qs.length qc1,.slice vo1 P.vs.length vc1,.slice to1 P.ts.length tc1,.slice uo1 P.us.length uc1,.slice oo1 P.on.length oc1,.int .i64 P.miss] 28)).alloc (.cells #[.int .i64 (c1:Int),.int .i64 (c2:Int)] 31))/\(∀ X:World,(∀ q,q < w2.heap.size->X.heap[q]?=((w2.alloc (.cells #[.string P.name,.slice ao1 P.rows.length ac1,.slice qo1 P.qs.length qc1,.slice vo1 P.vs.length vc1,.slice to1 P.ts.length tc1,.slice uo1 P.us.length uc1,.slice oo1 P.on.length oc1,.int .i64 P.miss] 28)).alloc (.cells #[.int .i64 (c1:Int),.int .i64 (c2:Int)] 31)).heap[q]?)->RdG X P ao1 qo1 vo1 to1 uo1 oo1)/\((w2.alloc (.cells #[.string P.name,.slice ao1 P.rows.length ac1,.slice qo1 P.qs.length qc1,.slice vo1 P.vs.length vc1,.slice to1 P.ts.length tc1,.slice uo1 P.us.length uc1,.slice oo1 P.on.length oc1,.int .i64 P.miss] 28)).alloc (.cells #[.int .i64 (c1:Int),.int .i64 (c2:Int)] 31)).heap[w2.heap.size]?=some (.cells #[.string P.name,.slice ao1 P.rows.length ac1,.slice qo1 P.qs.length qc1,.slice vo1 P.vs.length vc1,.slice to1 P.ts.length tc1,.slice uo1 P.us.length uc1,.slice oo1 P.on.length oc1,.int .i64 P.miss] 28 (0,0))/\((w2.alloc (.cells #[.string P.name,.slice ao1 P.rows.length ac1,.slice qo1 P.qs.length qc1,.slice vo1 P.vs.length vc1,.slice to1 P.ts.length tc1,.slice uo1 P.us.length uc1,.slice oo1 P.on.length oc1,.int .i64 P.miss] 28)).alloc (.cells #[.int .i64 (c1:Int),.int .i64 (c2:Int)] 31)).heap[w2.heap.size+1]?=some (.cells #[.int .i64 (c1:Int),.int .i64 (c2:Int)] 31 (0,0))/\w.heap.size<=w2.heap.size):=by
   refine ⟨hb2.trans (hb3.mono hb2.size),fun X hX=>hrd2 X (fun q _ q2=>(hX q q2).trans (hb3.block q q2)),by rw [alloc_old _ _ _ (by simp)];exact alloc_at _ _ _ rfl,alloc_at _ _ _ (by simp),hb2.size⟩
  clear hb2 hrd2 hb3
  go_upto_region 4 with fail
  generalize ((w2.alloc (.cells #[.string P.name,.slice ao1 P.rows.length ac1,.slice qo1 P.qs.length qc1,.slice vo1 P.vs.length vc1,.slice to1 P.ts.length tc1,.slice uo1 P.us.length uc1,.slice oo1 P.on.length oc1,.int .i64 P.miss] 28)).alloc (.cells #[.int .i64 (c1:Int),.int .i64 (c2:Int)] 31))=w3 at *
  generalize w2.heap.size=B7 at *
  obtain ⟨f0,f1⟩:=cells2 H3.out.2.2.2.1
  by_cases hc1:c1=0
  rotate_left
  ·have hc':((c1:Int) == 0)=false:=beq_false_of_ne (by omega)
   clear hc1
   go_wp2_with fail
   refine Calls.mono (head10 _) ?_
   rintro e wz ⟨rfl,hbz⟩
   have HBz:Hid (Below w.heap.size w wz):=H3.out.1.trans (hbz.mono H3.out.1.size)
   clear hbz
   go_wp2
   go_ret
   exact ⟨rfl,HBz.out⟩
  ·subst hc1
   clear f0 f1
   obtain ⟨f0,f1⟩:=cells2 H3.out.2.2.2.1
   have f0:w3.cell? ⟨B7+1,0,none⟩=some (.int .i64 0):=f0
   have HWi:Hid (∀ (z:Int) (W:World),Calls Tryz.prog 6 #[.int .i64 z,.int .i64 4194304] W fun r w'=>r=.returned (.int .i64 ((wtn10 z 4194304:Nat):Int))/\w'=W):=fun z W=>within_any z 4194304 (by decide) (by decide) W
   obtain ⟨pb,hpb⟩:∃ pb,pb+1=w3.heap.size:=⟨w3.heap.size - 1,by have:=blk_lt H3.out.2.2.1;omega⟩
   have HPb:=hdn <| hpb
   clear hpb
   go_wp2_with fail
   clear f0 f1
   go_loopg [9,10,11] 100 (fun gq s9 s10 s11 wq=>∃ (i:Nat) (L1 L2:List Int) (E:Nat->Option Ent) (lo go:Option Addr) (lc gc:Nat),i<=100/\gq=100 - i/\s11=.int .i64 (i:Int)/\s9=.slice lo L1.length lc/\s10=.slice go L2.length gc/\Gw w3 wq pb E L1 L2 (.slice lo L1.length lc) (.slice go L2.length gc)/\L1.length=i/\L2.length=i/\∀ j,0<=L1.getD j 0/\L1.getD j 0<=L2.getD j 0/\L2.getD j 0<=4194304)
   case atStart=>exact ⟨0,[],[],_,none,none,0,0,by omega,rfl,rfl,rfl,rfl,Gw.start HPb.out,rfl,rfl,fun j=>by simp⟩
   case round=>
    rename_i J0 K0 hJ0 hH0
    obtain ⟨i,L1,L2,E,lo,go,lc,gc,hi,hgk,rfl,rfl,rfl,hGw,hl1,hl2,hL⟩:=hrel
    have HG:Hid (gk=100 - i/\i<=100/\L1.length=i/\L2.length=i):=⟨hgk,hi,hl1,hl2⟩
    have HW:Hid (Gw w3 wr pb E L1 L2 (.slice lo L1.length lc) (.slice go L2.length gc)):=hGw
    have HLs:Hid (∀ j,0<=L1.getD j 0/\L1.getD j 0<=L2.getD j 0/\L2.getD j 0<=4194304):=hL
    have hib:(i:Int)<=100:=by omega
    clear hgk hl1 hl2 hGw hL
    go_upto_region 9 with fail
    go_cut [37] from 30 to 37 (fun s37 wx=>s37=.bool (decide (i < rl.length/\i < 100))/\wx=wr)
    case first=>
     by_cases h1:i < rl.length
     ·have h1':(i:Int) < (rl.length:Int):=by omega
      by_cases h2:i < 100
      ·have h2':(i:Int) < 100:=by omega
       have e:decide (i < rl.length/\i < 100)=true:=decide_eq_true ⟨h1,h2⟩
       go_wp2_with fail
       go_meet
       exact ⟨by rw [e],rfl⟩
      ·have h2':¬ (i:Int) < 100:=by omega
       have e:decide (i < rl.length/\i < 100)=false:=decide_eq_false (fun h=>h2 h.2)
       go_wp2_with fail
       go_meet
       exact ⟨by rw [e],rfl⟩
     ·have h1':¬ (i:Int) < (rl.length:Int):=by omega
      have e:decide (i < rl.length/\i < 100)=false:=decide_eq_false (fun h=>h1 h.1)
      go_wp2_with fail
      go_meet
      exact ⟨by rw [e],rfl⟩
    case rest=>
     obtain ⟨rfl,rfl⟩:=hcut
     by_cases hbd:i < rl.length/\i < 100
     case pos=>
      have e:decide (i < rl.length/\i < 100)=true:=decide_eq_true hbd
      have HI:Hid (i < rl.length/\i < 100):=hbd
      rw [e]
      clear e hi
      obtain ⟨z,hz⟩:∃ z,rl[i]?=some z:=⟨_,List.getElem?_eq_getElem hbd.1⟩
      have HBw:Hid (Below w.heap.size w wc):=H3.out.1.trans (HW.out.be.mono H3.out.1.size)
      obtain ⟨gb,ob,hbo,-,hc⟩:=HV.out.1.below HBw.out i (.int .i64 z) (by simp [iv,hz])
      subst hbo
      have hi1:(i:Int) < (rl.length:Int):=by have:=hbd.1;omega
      clear hbd hz
      go_wp2_with fail
      refine Calls.mono (HWi.out z wc) ?_
      rintro e w' ⟨rfl,rfl⟩
      have hz0:((wtn10 z 4194304:Nat):Int) < 4194304:=by have:=wtn10_lt z (n:=4194304) (by decide);omega
      have hz1:0<=((wtn10 z 4194304:Nat):Int):=by omega
      generalize ((wtn10 z 4194304:Nat):Int)=z0 at *
      have HZ:Hid (0<=z0/\z0 < 4194304):=⟨hz1,hz0⟩
      clear hc hi1
      go_upto_region 12 with fail
      have hbA:Below w'.heap.size w' (w'.alloc (.cells #[.int .i64 z0] 3)):=bAl _ _
      have HWa:Hid (Gw w3 (w'.alloc (.cells #[.int .i64 z0] 3)) pb E L1 L2 (.slice lo L1.length lc) (.slice go L2.length gc)):=HW.out.below hbA
      obtain ⟨n,hn,hown,hclo⟩:=HWa.out.own0
      have HOw:=hdn <| hown
      have HCl:=hdn <| hclo
      have HNn:=hdn <| hn
      clear hn hown hclo hbA HW
      obtain ⟨ii,hii,hzi0,hzi1,hzi2⟩:=info_parts infoI
      go_wp2_with (at_builtin;refine wpl_app _ rfl _ _ 23 rfl n 3 ii (.int .i64 0) 1 8 Tryz.underlying23 hii hzi0 hzi1 hzi2 rfl (by decide) (.slice lo L1.length lc) L1.length (iv L1) rfl HOw.out (some ⟨w'.heap.size,0,none⟩) 1 1 [.int .i64 z0] rfl rfl nofun (fun ad e=>by cases e;exact cells_newC w' _ _) (by intro u hu;simp only [List.mem_cons,List.not_mem_nil,or_false] at hu;rcases hu with rfl;rfl) (by have:=HG.out;unfold maxLen;omega) (by have:=HG.out;omega) HNn.out ?_)
      intro v' w5 hv' hg' hk'
      have HF:=hdn <| HCl.out w5 v' z0 hg' hv' (by simpa using hk')
      obtain ⟨lo',lc',rfl⟩:=own_form hv'
      obtain ⟨E2,hE2⟩:=HF.out
      have HW5:Hid (Gw w3 w5 pb E2 (L1++[z0]) L2 (.slice lo' (L1.length+1) lc') (.slice go L2.length gc)):=hE2
      clear hv' hg' hk' HF hE2 HOw HCl HNn HWa
      go_upto_region 13 with fail
      have hml0:(ml.length:Int)<=1152921504606846975:=by have:=HV.out;omega
      go_upto_if 51 with fail
      go_cut [12] (fun s12 wx=>∃ z2:Int,s12=.int .i64 z2/\z0<=z2/\z2<=4194304/\wx=w5)
      case first=>
       by_cases hm0:0 < ml.length
       ·have hm1:(0:Int) < (ml.length:Int):=by omega
        have hm2:¬ (ml.length:Int)=0:=by omega
        have hm3:((ml.length:Int) == 0)=false:=beq_false_of_ne hm2
        have hmod:(i:Int) % (ml.length:Int)=((i % ml.length:Nat):Int):=(Int.natCast_emod _ _).symm
        have hmt:(i:Int).tmod (ml.length:Int)=((i % ml.length:Nat):Int):=by rw [Int.tmod_eq_emod_of_nonneg (by omega)];exact hmod
        have hmlt:=Nat.mod_lt i hm0
        have hml:((i % ml.length:Nat):Int) < (ml.length:Int):=Int.ofNat_lt.2 hmlt
        generalize i % ml.length=md at *
        have HBw5:Hid (Below w.heap.size w w5):=H3.out.1.trans (HW5.out.be.mono H3.out.1.size)
        obtain ⟨y,hy⟩:∃ y,ml[md]?=some y:=⟨_,List.getElem?_eq_getElem hmlt⟩
        obtain ⟨gm,om,hmo,-,hc⟩:=HV.out.2.2.1.below HBw5.out md (.int .i64 y) (by simp [iv,hy])
        subst hmo
        clear hy hmlt hm0
        go_wp2_with fail
        refine Calls.mono (HWi.out y w5) ?_
        rintro e w6 ⟨rfl,rfl⟩
        have hy0:((wtn10 y 4194304:Nat):Int) < 4194304:=by have:=wtn10_lt y (n:=4194304) (by decide);omega
        have hy1:0<=((wtn10 y 4194304:Nat):Int):=by omega
        generalize ((wtn10 y 4194304:Nat):Int)=y0 at *
        have hws:IntKind.i64.wrap (z0+y0)=z0+y0:=by rw [IntKind.wrap_i64];have:=HZ.out;omega
        by_cases hbig:4194304 < z0+y0
        ·have hbig2:¬ z0+y0 < 4194304:=by omega
         go_wp2_with fail
         go_meet
         exact ⟨_,rfl,by have:=HZ.out;omega,by omega,rfl⟩
        ·go_wp2_with fail
         go_meet
         exact ⟨_,rfl,by have:=HZ.out;omega,by omega,rfl⟩
       ·have hm1:¬ (0:Int) < (ml.length:Int):=by omega
        go_wp2_with fail
        go_meet
        exact ⟨_,rfl,Int.le_refl _,by have:=HZ.out;omega,rfl⟩
      case rest=>
       obtain ⟨z2,rfl,hza,hzb,rfl⟩:=hcut
       clear hml0
       have HZ2:Hid (0<=z0/\z0<=z2/\z2<=4194304):=⟨HZ.out.1,hza,hzb⟩
       clear hza hzb
       have hbA:Below wc.heap.size wc (wc.alloc (.cells #[.int .i64 z2] 3)):=bAl _ _
       have HWa:Hid (Gw w3 (wc.alloc (.cells #[.int .i64 z2] 3)) pb E2 (L1++[z0]) L2 (.slice lo' (L1.length+1) lc') (.slice go L2.length gc)):=HW5.out.below hbA
       obtain ⟨n,hn,hown,hclo⟩:=HWa.out.own1
       have HOw:=hdn <| hown
       have HCl:=hdn <| hclo
       have HNn:=hdn <| hn
       clear hn hown hclo hbA HW5
       go_wp2_with (at_builtin;refine wpl_app _ rfl _ _ 23 rfl n 3 ii (.int .i64 0) 1 8 Tryz.underlying23 hii hzi0 hzi1 hzi2 rfl (by decide) (.slice go L2.length gc) L2.length (iv L2) rfl HOw.out (some ⟨wc.heap.size,0,none⟩) 1 1 [.int .i64 z2] rfl rfl nofun (fun ad e=>by cases e;exact cells_newC wc _ _) (by intro u hu;simp only [List.mem_cons,List.not_mem_nil,or_false] at hu;rcases hu with rfl;rfl) (by have:=HG.out;unfold maxLen;omega) (by have:=HG.out;omega) HNn.out ?_)
       intro v' w8 hv' hg' hk'
       have HF:=hdn <| HCl.out w8 v' z2 hg' hv' (by simpa using hk')
       obtain ⟨go',gc',rfl⟩:=own_form hv'
       obtain ⟨E3,hE3⟩:=HF.out
       have HW8:Hid (Gw w3 w8 pb E3 (L1++[z0]) (L2++[z2]) (.slice lo' (L1.length+1) lc') (.slice go' (L2.length+1) gc')):=hE3
       clear hv' hg' hk' HF hE3 HOw HCl HNn HWa hii hzi0 hzi1 hzi2
       go_wp2_with fail
       go_roundg (100 - (i+1))
       case measure=>have:=HG.out;have:=HI.out;omega
       case rel=>
        refine ⟨i+1,L1++[z0],L2++[z2],E3,lo',go',lc',gc',by have:=HI.out;omega,rfl,by go_num,by simp,by simp,?_,by have:=HG.out;simp;omega,by have:=HG.out;simp;omega,fun j=>?_⟩
        ·have h1:=HW8.out
         simpa using h1
        ·have h1:=HG.out
         have h2:=HLs.out j
         have h3:=HZ2.out
         simp only [List.getD_eq_getElem?_getD] at h2 ⊢
         by_cases hj:j < i
         ·rw [List.getElem?_append_left (by omega),List.getElem?_append_left (by omega)]
          exact h2
         ·by_cases hj2:j=i
          ·rw [List.getElem?_append_right (by omega),List.getElem?_append_right (by omega),show j - L1.length=0 by omega,show j - L2.length=0 by omega]
           simpa using h3
          ·rw [List.getElem?_eq_none (by simp;omega),List.getElem?_eq_none (by simp;omega)]
           simp
     case neg=>
      have e:decide (i < rl.length/\i < 100)=false:=decide_eq_false hbd
      rw [e]
      clear e hbd hib hi
      go_upto_region 16 with fail
      generalize wc=w6 at *
      have hB7:B7+1 < w3.heap.size:=blk_lt H3.out.2.2.2.1
      have HX7:Hid (w6.heap[B7]?=some (.cells #[.string P.name,.slice ao1 P.rows.length ac1,.slice qo1 P.qs.length qc1,.slice vo1 P.vs.length vc1,.slice to1 P.ts.length tc1,.slice uo1 P.us.length uc1,.slice oo1 P.on.length oc1,.int .i64 P.miss] 28 (0,0))):=(HW.out.be.block _ (by omega)).trans H3.out.2.2.1
      have HXf:Hid (w6.heap[B7+1]?=some (.cells #[.int .i64 ((0:Nat):Int),.int .i64 (c2:Int)] 31 (0,0))):=(HW.out.be.block _ hB7).trans H3.out.2.2.2.1
      have HRd:=hdn <| H3.out.2.1 w6 (fun q hq=>HW.out.be.block q (by omega))
      have HB6:Hid (Below w.heap.size w w6/\w3.heap.size<=w6.heap.size/\B7+1 < w3.heap.size):=⟨H3.out.1.trans (HW.out.be.mono H3.out.1.size),HW.out.be.size,hB7⟩
      have HO6:=hdn <| HW.out.fin
      have HG6:Hid (L1.length=i/\L2.length=i/\i<=100):=⟨HG.out.2.2.1,HG.out.2.2.2,HG.out.2.1⟩
      have HW3:Hid (∀ q,q < w3.heap.size->w6.heap[q]?=w3.heap[q]?):=fun q hq=>HW.out.be.block q hq
      clear hB7 HW HG
      have HXA:Hid (∀ X,Below w6.heap.size w6 X->(fun w':World=>w'.heap[B7]?=some (.cells #[.string P.name,.slice ao1 P.rows.length ac1,.slice qo1 P.qs.length qc1,.slice vo1 P.vs.length vc1,.slice to1 P.ts.length tc1,.slice uo1 P.us.length uc1,.slice oo1 P.on.length oc1,.int .i64 P.miss] 28 (0,0))) X):=fun X hX=>(hX.block _ (blk_lt HX7.out)).trans HX7.out
      refine wp_region_held (S:=fun w':World=>w'.heap[B7]?=some (.cells #[.string P.name,.slice ao1 P.rows.length ac1,.slice qo1 P.qs.length qc1,.slice vo1 P.vs.length vc1,.slice to1 P.ts.length tc1,.slice uo1 P.us.length uc1,.slice oo1 P.on.length oc1,.int .i64 P.miss] 28 (0,0))) (by kernel_rfl) ?_
      change wpAnyH _ _ _ _ _ _ _ _ w6.drew
      have HDA:Hid (Below w6.heap.size w6 w6.drew):=(Below.refl _ _).drew
      have hS:=HXA.out _ HDA.out
      generalize hwd:w6.drew=wd at *
      have HWdA:Hid (wd.heap.size=w6.heap.size):=by rw [<-hwd];rfl
      clear hwd
      refine tk (i:=0) (v:=?v0wd) rfl (Or.inl ⟨by rfl,?y0wd⟩) hS ?r0wd
      case y0wd=>
       intro w hSw
       obtain ⟨k0,k1,k2,k3,k4,k5,k6,k7⟩:=pol8 hSw
       first
        | (go_simp;done)
        | (go_simp;with_reducible rfl)
      refine tk (i:=2) (v:=?v2wd) rfl (Or.inl ⟨by rfl,?y2wd⟩) hS ?r2wd
      case y2wd=>
       intro w hSw
       obtain ⟨k0,k1,k2,k3,k4,k5,k6,k7⟩:=pol8 hSw
       first
        | (go_simp;done)
        | (go_simp;with_reducible rfl)
      refine tk (i:=3) (v:=?v3wd) rfl (Or.inl ⟨by rfl,?y3wd⟩) hS ?r3wd
      case y3wd=>
       intro w hSw
       first
        | (go_simp;done)
        | (go_simp;with_reducible rfl)
      go_simp
      have HLnA:Hid (∀ X,Below w6.heap.size w6 X->Calls Tryz.prog 8 #[.agg #[.string P.name,.slice ao1 P.rows.length ac1,.slice qo1 P.qs.length qc1,.slice vo1 P.vs.length vc1,.slice to1 P.ts.length tc1,.slice uo1 P.us.length uc1,.slice oo1 P.on.length oc1,.int .i64 P.miss]] X fun e w'=>Below X.heap.size X w'/\∃ v,e=.returned v/\Lp w' P v):=fun X hX=>lend_c (HRd.out.below hX) HPk.out.1 HFw.out.2.1 HFw.out.2.2.1 HFw.out.2.2.2.1 HFw.out.2.2.2.2.1 HFw.out.2.2.2.2.2 HNi.out.1 HNi.out.2.1 HNi.out.2.2.1 HNi.out.2.2.2.1 HNi.out.2.2.2.2
      have HRoA:Hid (∀ X,Below w6.heap.size w6 X->Calls Tryz.prog 9 #[.agg #[.string P.name,.slice ao1 P.rows.length ac1,.slice qo1 P.qs.length qc1,.slice vo1 P.vs.length vc1,.slice to1 P.ts.length tc1,.slice uo1 P.us.length uc1,.slice oo1 P.on.length oc1,.int .i64 P.miss],.slice lo L1.length lc] X fun e w'=>Below X.heap.size X w'/\∃ v,e=.returned v/\Lt w' ((List.range P.rows.length).map (rdv P.rows L1)) v):=fun X hX=>rounds_c (HRd.out.below hX) ((vals_of HO6.out.1).below hX) HPk.out.1 (by have:=HG6.out;omega)
      obtain ⟨rdA,hrd⟩:∃ rdA:List Int,rdA=(List.range P.rows.length).map (rdv P.rows L1):=⟨_,rfl⟩
      have HRd0A:=hdn <| hrd
      have HRdlA:Hid (rdA.length=P.rows.length):=by rw [hrd,List.length_map,List.length_range];exact rfl
      rw [<-hrd] at HRoA
      clear hrd
      refine held_from (b:=fun _=>false) (c:=fun _=>false) (n:=8) lU cU (fun a0 b c a w=>∃ s d:Nat->Value,a=(((((((a0.put (some 69) (s 0)).put (some 72) (s 1)).put (some 73) (s 2)).put (some 67) (s 3)).put (some 74) (s 4)).put (some 75) (s 5)).put (some 13) (d 0))/\Rg wd w P rdA b c s d/\c 1=false) 1 (by kernel_rfl) (by kernel_rfl) (by kernel_rfl) ?hstartwd ?hendwd ?hnewd ?hstepwd
      case hstartwd=>exact rg_startU (by kernel_rfl)
      case hnewd=>
       intro b c hc
       cases b0:b 0 with
       | false=>
        rw [show lU b c=#[true,false,true,true,b 1,b 2,b 3,b 4,b 5,c 0,c 2,false] by unfold lU;rw [b0]]
        exact ready_ne 1 (of_decide_eq_true (by kernel_rfl)) (by kernel_rfl)
       | true=>?_
       cases b1:b 1 with
       | false=>
        rw [show lU b c=#[true,true,true,true,false,b 2,b 3,b 4,b 5,c 0,c 2,false] by unfold lU;rw [b1,b0]]
        exact ready_ne 4 (of_decide_eq_true (by kernel_rfl)) (by kernel_rfl)
       | true=>?_
       cases b2:b 2 with
       | false=>
        rw [show lU b c=#[true,true,true,true,true,false,b 3,b 4,b 5,c 0,c 2,false] by unfold lU;rw [b2,b0,b1]]
        exact ready_ne 5 (of_decide_eq_true (by kernel_rfl)) (by kernel_rfl)
       | true=>?_
       cases b3:b 3 with
       | false=>
        rw [show lU b c=#[true,true,true,true,true,true,false,b 4,b 5,c 0,c 2,false] by unfold lU;rw [b3,b0,b1,b2]]
        exact ready_ne 6 (of_decide_eq_true (by kernel_rfl)) (by kernel_rfl)
       | true=>?_
       cases b4:b 4 with
       | false=>
        rw [show lU b c=#[true,true,true,true,true,true,true,false,b 5,c 0,c 2,false] by unfold lU;rw [b4,b0,b1,b2,b3]]
        exact ready_ne 7 (of_decide_eq_true (by kernel_rfl)) (by kernel_rfl)
       | true=>?_
       cases b5:b 5 with
       | false=>
        rw [show lU b c=#[true,true,true,true,true,true,true,true,false,c 0,c 2,false] by unfold lU;rw [b5,b0,b1,b2,b3,b4]]
        exact ready_ne 8 (of_decide_eq_true (by kernel_rfl)) (by kernel_rfl)
       | true=>?_
       cases c0:c 0 with
       | false=>
        rw [show lU b c=#[true,true,true,true,true,true,true,true,true,false,c 2,false] by unfold lU;rw [c0,b0,b1,b2,b3,b4,b5]]
        exact ready_ne 9 (of_decide_eq_true (by kernel_rfl)) (by kernel_rfl)
       | true=>?_
       cases c2:c 2 with
       | false=>
        rw [show lU b c=#[true,true,true,true,true,true,true,true,true,true,false,false] by unfold lU;rw [c2,b0,b1,b2,b3,b4,b5,c0]]
        exact ready_ne 10 (of_decide_eq_true (by kernel_rfl)) (by kernel_rfl)
       | true=>?_
       exact absurd (by unfold cU;rw [b0,b1,b2,b3,b4,b5,c0,c2];rfl) hc
      case hstepwd=>
       clear hS
       intro b c a w i hc hIl hr
       obtain ⟨s,d,rfl,hR,hno⟩:=hIl
       obtain ⟨hrf,hro⟩:=ready_on hr
       have hX:∀ w',Below w.heap.size w w'->Below w6.heap.size w6 w':=fun w' h=>by
        have h1:=HDA.out.trans (hR.be.mono (by rw [HWdA.out];exact Nat.le_refl _))
        exact h1.trans (h.mono h1.size)
       clear hr
       have hiN:i < 12:=by
        rcases Nat.lt_or_ge i 12 with h | h
        ·exact h
        ·have e:(lU b c).getD i true=true:=by
          rw [Array.getD_eq_getD_getElem?,Array.getElem?_eq_none (by exact h)]
          rfl
         rw [e] at hrf
         cases hrf
       have hi:i=1\/i=4\/i=5\/i=6\/i=7\/i=8\/i=9\/i=10\/i=11\/i=0\/i=2\/i=3:=by omega
       clear hiN
       rcases hi with rfl | rfl | rfl | rfl | rfl | rfl | rfl | rfl | rfl | hi
       ·refine ⟨up b 0 true,c,rfl,cU_b (by omega) hrf,wpOp_step rfl fun K' hK=>?_⟩
        go_simp
        refine Calls.mono (HLnA.out w (hX w (Below.refl _ _))) ?_
        rintro e w' ⟨hb,v,rfl,hv⟩
        exact hK _ _ ⟨HXA.out _ (hX _ hb),up s 0 v,d,by kernel_rfl,(hR.below hb).b0 hrf hv,hno⟩
       ·have q0:b 0=true:=hro ⟨1,.chain⟩ (by simp) rfl
        refine ⟨up b 1 true,c,rfl,cU_b (by omega) hrf,wpOp_step rfl fun K' hK=>?_⟩
        go_simp
        refine Calls.mono (HRoA.out w (hX w (Below.refl _ _))) ?_
        rintro e w' ⟨hb,v,rfl,hv⟩
        exact hK _ _ ⟨HXA.out _ (hX _ hb),up s 1 v,d,by kernel_rfl,(hR.below hb).b1 q0 hrf hv,hno⟩
       ·have q0:b 0=true:=hro ⟨1,.data⟩ (by simp) rfl
        have q1A:b 1=true:=hro ⟨4,.data⟩ (by simp) rfl
        refine ⟨up b 2 true,c,rfl,cU_b (by omega) hrf,wpOp_step rfl fun K' hK=>?_⟩
        go_simp
        refine Calls.mono (bound_c (Wd:=wd) hR.be.size (hR.f0 q0 hrf) ((hR.f1 q1A).2 hrf) HFw.out.1 HPk.out.1 HFw.out.2.1 (by rw [HRdlA.out];exact HPk.out.1)) ?_
        rintro e w' ⟨hb,v,rfl,hv⟩
        exact hK _ _ ⟨HXA.out _ (hX _ hb),up s 2 v,d,by kernel_rfl,(hR.below hb).b2 q1A hrf hv,hno⟩
       ·have q2:b 2=true:=hro ⟨5,.data⟩ (by simp) rfl
        refine ⟨up b 3 true,c,rfl,cU_b (by omega) hrf,wpOp_step rfl fun K' hK=>?_⟩
        go_simp
        exact hK _ _ ⟨HXA.out _ (hX _ (Below.refl _ _)),up s 3 (s 2),d,by kernel_rfl,hR.b3 q2 hrf,hno⟩
       ·have q3:b 3=true:=hro ⟨6,.data⟩ (by simp) rfl
        obtain ⟨q2,e3⟩:=hR.f3 q3
        obtain ⟨-,r,p1A,q1A,-,e2,-⟩:=hR.f2 q2
        rw [e2] at e3
        clear e2
        obtain ⟨x,y,e6⟩:∃ x y,s 3=.tuple #[x,y]:=⟨_,_,e3⟩
        clear e3
        refine ⟨up b 4 true,c,rfl,cU_b (by omega) hrf,wpOp_step rfl fun K' hK=>?_⟩
        go_simp
        exact hK _ _ ⟨HXA.out _ (hX _ (Below.refl _ _)),up (up s 3 (.tuple #[x,y])) 4 x,d,by kernel_rfl,by rw [up_self e6];exact hR.b4 q3 hrf e6,hno⟩
       ·have q3:b 3=true:=hro ⟨6,.data⟩ (by simp) rfl
        obtain ⟨q2,e3⟩:=hR.f3 q3
        obtain ⟨-,r,p1A,q1A,-,e2,-⟩:=hR.f2 q2
        rw [e2] at e3
        clear e2
        obtain ⟨x,y,e6⟩:∃ x y,s 3=.tuple #[x,y]:=⟨_,_,e3⟩
        clear e3
        refine ⟨up b 5 true,c,rfl,cU_b (by omega) hrf,wpOp_step rfl fun K' hK=>?_⟩
        go_simp
        exact hK _ _ ⟨HXA.out _ (hX _ (Below.refl _ _)),up (up s 3 (.tuple #[x,y])) 5 y,d,by kernel_rfl,by rw [up_self e6];exact hR.b5 q3 e6,hno⟩
       ·refine ⟨b,up c 0 true,rfl,cU_c (by omega) hrf,wpOp_step rfl fun K' hK=>?_⟩
        go_simp
        have hb:Below w.heap.size w (w.alloc (.cells #[.slice none 0 0,.int .i64 0] 36)):=bAl _ _
        exact hK _ _ ⟨HXA.out _ (hX _ hb),s,up d 0 _,by kernel_rfl,(hR.below hb).c0 hrf ⟨w.heap.size,rfl,hR.be.size,heap_alloc_new _ _⟩,(up_ne (by omega)).trans hno⟩
       ·have q4:b 4=true:=hro ⟨7,.data⟩ (by simp) rfl
        have q0:c 0=true:=hro ⟨9,.data⟩ (by simp) rfl
        obtain ⟨q3,x4,y4,e34,e4⟩:=hR.f4 q4
        obtain ⟨q2,e3⟩:=hR.f3 q3
        obtain ⟨-,r,p1A,q1A,-,e2,-⟩:=hR.f2 q2
        rw [e3,e2] at e34
        cases e34
        obtain ⟨gc,hd,hgc,hhc⟩:=hR.d0 q0 hrf
        have hR2:=hR.c2 q4 q0 hrf e4 hd
        refine ⟨b,up c 2 true,rfl,cU_c (by omega) hrf,?_⟩
        apply wpOp_step rfl
        intro K' hK
        refine (step_store ?h1A 36 (.tmp 13) (.tmp 74) ?h2A gc #[.slice p1A (zi (ctOf r).1).length q1A,.int .i64 ((ctOf r).2.1:Int)] ?h3A ?h4A 36 _ hhc (by kernel_rfl) rfl (by kernel_rfl) ?h5A:_)
        case h1A=>rfl
        case h2A=>rfl
        case h3A=>exact Eq.trans (b:=d 0) (by kernel_rfl) hd
        case h4A=>exact Eq.trans (b:=s 4) (by kernel_rfl) e4
        exact hK _ _ ⟨HXA.out _ (HDA.out.trans (hR2.be.mono (by rw [HWdA.out];exact Nat.le_refl _))),s,d,by kernel_rfl,hR2,(up_ne (by omega)).trans hno⟩
       ·have q5:b 5=true:=hro ⟨8,.data⟩ (by simp) rfl
        have q10:c 2=true:=hro ⟨10,.chain⟩ (by simp) rfl
        obtain ⟨q8,q4,-⟩:=hR.d2 q10
        have q3:=(hR.f4 q4).1
        have q2:=(hR.f3 q3).1
        have q1A:=(hR.f2 q2).1
        have q0:=(hR.f1 q1A).1
        refine absurd ?_ hc
        unfold cU
        rw [q0,q1A,q2,q3,q4,q5,q8,q10]
        rfl
       ·rcases hi with rfl | rfl | rfl
        all_goals exact absurd (show true=false from hrf) (by decide)
      case hendwd=>
       clear hS
       intro b c a w7A hc hIf
       obtain ⟨s,d,rfl,hR,hno⟩:=hIf
       obtain ⟨⟨k0,k1,k2,k3,k4,k5⟩,c0,c2⟩:=cU_0 hc
       rw [show lU b c=#[true,true,true,true,true,true,true,true,true,true,true,false] by unfold lU;rw [k0,k1,k2,k3,k4,k5,c0,c2]]
       obtain ⟨r,p1A,q1A,g0A,hBr,h5,hd0A,hg0wA,hbeA,hg0A,hoA⟩:=hR.finU hc
       clear hR k0 k1 k2 k3 k4 k5 c0 c2 hc hno
       have HBrA:=hdn <| hBr
       have HOnA:=hdn <| zi_len hBr HFw.out.2.1
       clear hBr
       obtain ⟨onA,eo⟩:∃ onA:List Int,zi (ctOf r).1=onA:=⟨_,rfl⟩
       obtain ⟨msA,em⟩:∃ msA:Int,(((ctOf r).2.1:Nat):Int)=msA:=⟨_,rfl⟩
       obtain ⟨e1A,ee⟩:∃ e1A:Int,(((ctOf r).2.2.1:Nat):Int)=e1A:=⟨_,rfl⟩
       obtain ⟨a1A,ea⟩:∃ a1A:Int,(((ctOf r).2.2.2:Nat):Int)=a1A:=⟨_,rfl⟩
       have HCtA:Hid (zi (ctOf r).1=onA/\(((ctOf r).2.1:Nat):Int)=msA/\(((ctOf r).2.2.1:Nat):Int)=e1A):=⟨eo,em,ee⟩
       simp only [eo,em,ee,ea] at h5 hg0A hoA HOnA
       clear eo em ee ea
       have hb67:Below w6.heap.size w6 w7A:=HDA.out.trans (hbeA.mono (by rw [HWdA.out];exact Nat.le_refl _))
       have hs8:(w7A.setRow (B7+1) #[.int .i64 e1A,.int .i64 a1A]).heap.size=w7A.heap.size:=by simp [World.setRow]
       have hst:∀ q,q ≠ B7+1->(w7A.setRow (B7+1) #[.int .i64 e1A,.int .i64 a1A]).heap[q]?=w7A.heap[q]?:=fun q hq=>setRow_other w7A (B7+1) q _ hq
       have hfb:w7A.heap[B7+1]?=some (.cells #[.int .i64 ((0:Nat):Int),.int .i64 (c2:Int)] 31 (0,0)):=(hb67.block _ (by have:=HB6.out;omega)).trans HXf.out
       have hwd6:wd.heap.size=w6.heap.size:=HWdA.out
       have H8:Hid (Below w.heap.size w (w7A.setRow (B7+1) #[.int .i64 e1A,.int .i64 a1A])/\(∀ q,q ≠ B7+1->q < w6.heap.size->(w7A.setRow (B7+1) #[.int .i64 e1A,.int .i64 a1A]).heap[q]?=w6.heap[q]?)/\w6.heap.size<=(w7A.setRow (B7+1) #[.int .i64 e1A,.int .i64 a1A]).heap.size/\(w7A.setRow (B7+1) #[.int .i64 e1A,.int .i64 a1A]).heap[B7+1]?=some (.cells #[.int .i64 e1A,.int .i64 a1A] 31 (0,0))/\(w7A.setRow (B7+1) #[.int .i64 e1A,.int .i64 a1A]).heap[g0A]?=some (.cells #[.slice p1A onA.length q1A,.int .i64 msA] 36 (0,0))/\(w7A.setRow (B7+1) #[.int .i64 e1A,.int .i64 a1A]).ownsRow w6.heap.size 3 1 (.slice p1A onA.length q1A) onA.length (iv onA)):=by
        have hw:=HB6.out.1.trans (hb67.mono HB6.out.1.size)
        refine ⟨⟨hw.os,hw.tape,hw.output,by rw [hs8];exact hw.size,fun q hq=>(hst q (by have:=H3.out.2.2.2.2;omega)).trans (hw.block q hq)⟩,fun q hq hq2=>(hst q hq).trans (hb67.block q hq2),by rw [hs8];exact hb67.size,setRow_heap _ _ _ _ _ _ hfb,(hst _ (by have:=HB6.out;omega)).trans hg0A,own_base (own_kb hoA fun q hq=>hst q (by have:=(World.ownsRow.lt hoA q hq).1;have:=HB6.out;omega)) (by omega)⟩
       have HFb:=hdn <| hfb
       have HS8:Hid ((w7A.setRow (B7+1) #[.int .i64 e1A,.int .i64 a1A]).heap[B7]?=some (.cells #[.string P.name,.slice ao1 P.rows.length ac1,.slice qo1 P.qs.length qc1,.slice vo1 P.vs.length vc1,.slice to1 P.ts.length tc1,.slice uo1 P.us.length uc1,.slice oo1 P.on.length oc1,.int .i64 P.miss] 28 (0,0))):=(hst B7 (by omega)).trans ((hb67.block _ (blk_lt HX7.out)).trans HX7.out)
       clear hbeA hg0A hoA hb67 hs8 hst hfb hwd6 hg0wA
       go_simp
       refine wpAnyH_ready (rs:=[11]) (by kernel_rfl) (by simp) ?_
       refine AllReadyH.cons rfl (fun K' hK=>?_) AllReadyH.nil
       refine (step_store ?h1S 31 (.tmp 8) (.tmp 75) ?h2S (B7+1) #[.int .i64 e1A,.int .i64 a1A] ?h3S ?h4S 31 _ HFb.out (by kernel_rfl) rfl (by kernel_rfl) ?h6S:_)
       case h1S=>rfl
       case h2S=>rfl
       case h3S=>kernel_rfl
       case h4S=>kernel_rfl
       refine hK.out _ _ HS8.out (fun hS=>?_)
       clear hK K' hS HFb HDA HWdA HLnA HRoA HXA
       refine wpAnyH_done (by kernel_rfl) ?_ _
       go_simp
       generalize (w7A.setRow (B7+1) #[.int .i64 e1A,.int .i64 a1A])=w8 at *
       clear h5
       go_upto_region 17 with fail
       have HRd8:=hdn <| H3.out.2.1 w8 (fun q hq=>by
        have h1:=HB6.out
        have h2:=HO6
        exact (H8.out.2.1 q (by omega) (by omega)).trans (HW3.out q (by omega)))
       have HO8:Hid (w8.ownsRow w3.heap.size 3 1 (.slice lo L1.length lc) L1.length (iv L1)/\w8.ownsRow w3.heap.size 3 1 (.slice go L2.length gc) L2.length (iv L2)):=by
        have h1:=HB6.out
        exact ⟨own_kb HO6.out.1 fun q hq=>H8.out.2.1 q (by have:=World.ownsRow.lt HO6.out.1 q hq;omega) (World.ownsRow.lt HO6.out.1 q hq).2,own_kb HO6.out.2 fun q hq=>H8.out.2.1 q (by have:=World.ownsRow.lt HO6.out.2 q hq;omega) (World.ownsRow.lt HO6.out.2 q hq).2⟩
       have HXB:Hid (∀ X,Below w8.heap.size w8 X->(fun w':World=>w'.heap[B7]?=some (.cells #[.string P.name,.slice ao1 P.rows.length ac1,.slice qo1 P.qs.length qc1,.slice vo1 P.vs.length vc1,.slice to1 P.ts.length tc1,.slice uo1 P.us.length uc1,.slice oo1 P.on.length oc1,.int .i64 P.miss] 28 (0,0))) X):=fun X hX=>(hX.block _ (blk_lt HS8.out)).trans HS8.out
       refine wp_region_held (S:=fun w':World=>w'.heap[B7]?=some (.cells #[.string P.name,.slice ao1 P.rows.length ac1,.slice qo1 P.qs.length qc1,.slice vo1 P.vs.length vc1,.slice to1 P.ts.length tc1,.slice uo1 P.us.length uc1,.slice oo1 P.on.length oc1,.int .i64 P.miss] 28 (0,0))) (by kernel_rfl) ?_
       change wpAnyH _ _ _ _ _ _ _ _ w8.drew
       have HDB:Hid (Below w8.heap.size w8 w8.drew):=(Below.refl _ _).drew
       have hS:=HXB.out _ HDB.out
       generalize hwd:w8.drew=wx at *
       have HWdB:Hid (wx.heap.size=w8.heap.size):=by rw [<-hwd];rfl
       clear hwd
       refine tk (i:=0) (v:=?v0wx) rfl (Or.inl ⟨by rfl,?y0wx⟩) hS ?r0wx
       case y0wx=>
        intro w hSw
        obtain ⟨k0,k1,k2,k3,k4,k5,k6,k7⟩:=pol8 hSw
        first
         | (go_simp;done)
         | (go_simp;with_reducible rfl)
       refine tk (i:=2) (v:=?v2wx) rfl (Or.inl ⟨by rfl,?y2wx⟩) hS ?r2wx
       case y2wx=>
        intro w hSw
        obtain ⟨k0,k1,k2,k3,k4,k5,k6,k7⟩:=pol8 hSw
        first
         | (go_simp;done)
         | (go_simp;with_reducible rfl)
       refine tk (i:=3) (v:=?v3wx) rfl (Or.inl ⟨by rfl,?y3wx⟩) hS ?r3wx
       case y3wx=>
        intro w hSw
        first
         | (go_simp;done)
         | (go_simp;with_reducible rfl)
       go_simp
       have HLnB:Hid (∀ X,Below w8.heap.size w8 X->Calls Tryz.prog 8 #[.agg #[.string P.name,.slice ao1 P.rows.length ac1,.slice qo1 P.qs.length qc1,.slice vo1 P.vs.length vc1,.slice to1 P.ts.length tc1,.slice uo1 P.us.length uc1,.slice oo1 P.on.length oc1,.int .i64 P.miss]] X fun e w'=>Below X.heap.size X w'/\∃ v,e=.returned v/\Lp w' P v):=fun X hX=>lend_c (HRd8.out.below hX) HPk.out.1 HFw.out.2.1 HFw.out.2.2.1 HFw.out.2.2.2.1 HFw.out.2.2.2.2.1 HFw.out.2.2.2.2.2 HNi.out.1 HNi.out.2.1 HNi.out.2.2.1 HNi.out.2.2.2.1 HNi.out.2.2.2.2
       have HRoB:Hid (∀ X,Below w8.heap.size w8 X->Calls Tryz.prog 9 #[.agg #[.string P.name,.slice ao1 P.rows.length ac1,.slice qo1 P.qs.length qc1,.slice vo1 P.vs.length vc1,.slice to1 P.ts.length tc1,.slice uo1 P.us.length uc1,.slice oo1 P.on.length oc1,.int .i64 P.miss],.slice go L2.length gc] X fun e w'=>Below X.heap.size X w'/\∃ v,e=.returned v/\Lt w' ((List.range P.rows.length).map (rdv P.rows L2)) v):=fun X hX=>rounds_c (HRd8.out.below hX) ((vals_of HO8.out.2).below hX) HPk.out.1 (by have:=HG6.out;omega)
       obtain ⟨rdB,hrd⟩:∃ rdB:List Int,rdB=(List.range P.rows.length).map (rdv P.rows L2):=⟨_,rfl⟩
       have HRd0B:=hdn <| hrd
       have HRdlB:Hid (rdB.length=P.rows.length):=by rw [hrd,List.length_map,List.length_range];exact rfl
       rw [<-hrd] at HRoB
       clear hrd
       refine held_from (b:=fun _=>false) (c:=fun _=>false) (n:=9) lT cN (fun a0 b c a w=>∃ s d:Nat->Value,a=((((((((a0.put (some 78) (s 0)).put (some 81) (s 1)).put (some 82) (s 2)).put (some 76) (s 3)).put (some 83) (s 4)).put (some 84) (s 5)).put (some 14) (d 0)).put (some 15) (d 1))/\Rg wx w P rdB b c s d) 1 (by kernel_rfl) (by kernel_rfl) (by kernel_rfl) ?hstartwx ?hendwx ?hnewx ?hstepwx
       case hstartwx=>exact rg_start (by kernel_rfl)
       case hnewx=>
        intro b c hc
        cases b0:b 0 with
        | false=>
         rw [show lT b c=#[true,false,true,true,b 1,b 2,b 3,b 4,b 5,c 0,c 1,c 2,false] by unfold lT;rw [b0]]
         exact ready_ne 1 (of_decide_eq_true (by kernel_rfl)) (by kernel_rfl)
        | true=>?_
        cases b1:b 1 with
        | false=>
         rw [show lT b c=#[true,true,true,true,false,b 2,b 3,b 4,b 5,c 0,c 1,c 2,false] by unfold lT;rw [b1,b0]]
         exact ready_ne 4 (of_decide_eq_true (by kernel_rfl)) (by kernel_rfl)
        | true=>?_
        cases b2:b 2 with
        | false=>
         rw [show lT b c=#[true,true,true,true,true,false,b 3,b 4,b 5,c 0,c 1,c 2,false] by unfold lT;rw [b2,b0,b1]]
         exact ready_ne 5 (of_decide_eq_true (by kernel_rfl)) (by kernel_rfl)
        | true=>?_
        cases b3:b 3 with
        | false=>
         rw [show lT b c=#[true,true,true,true,true,true,false,b 4,b 5,c 0,c 1,c 2,false] by unfold lT;rw [b3,b0,b1,b2]]
         exact ready_ne 6 (of_decide_eq_true (by kernel_rfl)) (by kernel_rfl)
        | true=>?_
        cases b4:b 4 with
        | false=>
         rw [show lT b c=#[true,true,true,true,true,true,true,false,b 5,c 0,c 1,c 2,false] by unfold lT;rw [b4,b0,b1,b2,b3]]
         exact ready_ne 7 (of_decide_eq_true (by kernel_rfl)) (by kernel_rfl)
        | true=>?_
        cases b5:b 5 with
        | false=>
         rw [show lT b c=#[true,true,true,true,true,true,true,true,false,c 0,c 1,c 2,false] by unfold lT;rw [b5,b0,b1,b2,b3,b4]]
         exact ready_ne 8 (of_decide_eq_true (by kernel_rfl)) (by kernel_rfl)
        | true=>?_
        cases c0:c 0 with
        | false=>
         rw [show lT b c=#[true,true,true,true,true,true,true,true,true,false,c 1,c 2,false] by unfold lT;rw [c0,b0,b1,b2,b3,b4,b5]]
         exact ready_ne 9 (of_decide_eq_true (by kernel_rfl)) (by kernel_rfl)
        | true=>?_
        cases c1:c 1 with
        | false=>
         rw [show lT b c=#[true,true,true,true,true,true,true,true,true,true,false,c 2,false] by unfold lT;rw [c1,b0,b1,b2,b3,b4,b5,c0]]
         exact ready_ne 10 (of_decide_eq_true (by kernel_rfl)) (by kernel_rfl)
        | true=>?_
        cases c2:c 2 with
        | false=>
         rw [show lT b c=#[true,true,true,true,true,true,true,true,true,true,true,false,false] by unfold lT;rw [c2,b0,b1,b2,b3,b4,b5,c0,c1]]
         exact ready_ne 11 (of_decide_eq_true (by kernel_rfl)) (by kernel_rfl)
        | true=>?_
        exact absurd (by unfold cN;rw [b0,b1,b2,b3,b4,b5,c0,c1,c2];rfl) hc
       case hstepwx=>
        clear hS
        intro b c a w i hc hIl hr
        obtain ⟨s,d,rfl,hR⟩:=hIl
        obtain ⟨hrf,hro⟩:=ready_on hr
        have hX:∀ w',Below w.heap.size w w'->Below w8.heap.size w8 w':=fun w' h=>by
         have h1:=HDB.out.trans (hR.be.mono (by rw [HWdB.out];exact Nat.le_refl _))
         exact h1.trans (h.mono h1.size)
        clear hr
        have hiN:i < 13:=by
         rcases Nat.lt_or_ge i 13 with h | h
         ·exact h
         ·have e:(lT b c).getD i true=true:=by
           rw [Array.getD_eq_getD_getElem?,Array.getElem?_eq_none (by exact h)]
           rfl
          rw [e] at hrf
          cases hrf
        have hi:i=1\/i=4\/i=5\/i=6\/i=7\/i=8\/i=9\/i=10\/i=11\/i=12\/i=0\/i=2\/i=3:=by omega
        clear hiN
        rcases hi with rfl | rfl | rfl | rfl | rfl | rfl | rfl | rfl | rfl | rfl | hi
        ·refine ⟨up b 0 true,c,rfl,cN_b (by omega) hrf,wpOp_step rfl fun K' hK=>?_⟩
         go_simp
         refine Calls.mono (HLnB.out w (hX w (Below.refl _ _))) ?_
         rintro e w' ⟨hb,v,rfl,hv⟩
         exact hK _ _ ⟨HXB.out _ (hX _ hb),up s 0 v,d,by kernel_rfl,(hR.below hb).b0 hrf hv⟩
        ·have q0:b 0=true:=hro ⟨1,.chain⟩ (by simp) rfl
         refine ⟨up b 1 true,c,rfl,cN_b (by omega) hrf,wpOp_step rfl fun K' hK=>?_⟩
         go_simp
         refine Calls.mono (HRoB.out w (hX w (Below.refl _ _))) ?_
         rintro e w' ⟨hb,v,rfl,hv⟩
         exact hK _ _ ⟨HXB.out _ (hX _ hb),up s 1 v,d,by kernel_rfl,(hR.below hb).b1 q0 hrf hv⟩
        ·have q0:b 0=true:=hro ⟨1,.data⟩ (by simp) rfl
         have q1B:b 1=true:=hro ⟨4,.data⟩ (by simp) rfl
         refine ⟨up b 2 true,c,rfl,cN_b (by omega) hrf,wpOp_step rfl fun K' hK=>?_⟩
         go_simp
         refine Calls.mono (bound_c (Wd:=wx) hR.be.size (hR.f0 q0 hrf) ((hR.f1 q1B).2 hrf) HFw.out.1 HPk.out.1 HFw.out.2.1 (by rw [HRdlB.out];exact HPk.out.1)) ?_
         rintro e w' ⟨hb,v,rfl,hv⟩
         exact hK _ _ ⟨HXB.out _ (hX _ hb),up s 2 v,d,by kernel_rfl,(hR.below hb).b2 q1B hrf hv⟩
        ·have q2:b 2=true:=hro ⟨5,.data⟩ (by simp) rfl
         refine ⟨up b 3 true,c,rfl,cN_b (by omega) hrf,wpOp_step rfl fun K' hK=>?_⟩
         go_simp
         exact hK _ _ ⟨HXB.out _ (hX _ (Below.refl _ _)),up s 3 (s 2),d,by kernel_rfl,hR.b3 q2 hrf⟩
        ·have q3:b 3=true:=hro ⟨6,.data⟩ (by simp) rfl
         obtain ⟨q2,e3⟩:=hR.f3 q3
         obtain ⟨-,r,p1B,q1B,-,e2,-⟩:=hR.f2 q2
         rw [e2] at e3
         clear e2
         obtain ⟨x,y,e6⟩:∃ x y,s 3=.tuple #[x,y]:=⟨_,_,e3⟩
         clear e3
         refine ⟨up b 4 true,c,rfl,cN_b (by omega) hrf,wpOp_step rfl fun K' hK=>?_⟩
         go_simp
         exact hK _ _ ⟨HXB.out _ (hX _ (Below.refl _ _)),up (up s 3 (.tuple #[x,y])) 4 x,d,by kernel_rfl,by rw [up_self e6];exact hR.b4 q3 hrf e6⟩
        ·have q3:b 3=true:=hro ⟨6,.data⟩ (by simp) rfl
         obtain ⟨q2,e3⟩:=hR.f3 q3
         obtain ⟨-,r,p1B,q1B,-,e2,-⟩:=hR.f2 q2
         rw [e2] at e3
         clear e2
         obtain ⟨x,y,e6⟩:∃ x y,s 3=.tuple #[x,y]:=⟨_,_,e3⟩
         clear e3
         refine ⟨up b 5 true,c,rfl,cN_b (by omega) hrf,wpOp_step rfl fun K' hK=>?_⟩
         go_simp
         exact hK _ _ ⟨HXB.out _ (hX _ (Below.refl _ _)),up (up s 3 (.tuple #[x,y])) 5 y,d,by kernel_rfl,by rw [up_self e6];exact hR.b5 q3 e6⟩
        ·refine ⟨b,up c 0 true,rfl,cN_c (by omega) hrf,wpOp_step rfl fun K' hK=>?_⟩
         go_simp
         have hb:Below w.heap.size w (w.alloc (.cells #[.slice none 0 0,.int .i64 0] 36)):=bAl _ _
         exact hK _ _ ⟨HXB.out _ (hX _ hb),s,up d 0 _,by kernel_rfl,(hR.below hb).c0 hrf ⟨w.heap.size,rfl,hR.be.size,heap_alloc_new _ _⟩⟩
        ·refine ⟨b,up c 1 true,rfl,cN_c (by omega) hrf,wpOp_step rfl fun K' hK=>?_⟩
         go_simp
         have hb:Below w.heap.size w (w.alloc (.cells #[.int .i64 0,.int .i64 0] 31)):=bAl _ _
         exact hK _ _ ⟨HXB.out _ (hX _ hb),s,up d 1 _,by kernel_rfl,(hR.below hb).c1 ⟨w.heap.size,rfl,hR.be.size,heap_alloc_new _ _⟩⟩
        ·have q4:b 4=true:=hro ⟨7,.data⟩ (by simp) rfl
         have q0:c 0=true:=hro ⟨9,.data⟩ (by simp) rfl
         obtain ⟨q3,x4,y4,e34,e4⟩:=hR.f4 q4
         obtain ⟨q2,e3⟩:=hR.f3 q3
         obtain ⟨-,r,p1B,q1B,-,e2,-⟩:=hR.f2 q2
         rw [e3,e2] at e34
         cases e34
         obtain ⟨gc,hd,hgc,hhc⟩:=hR.d0 q0 hrf
         have hR2:=hR.c2 q4 q0 hrf e4 hd
         refine ⟨b,up c 2 true,rfl,cN_c (by omega) hrf,?_⟩
         apply wpOp_step rfl
         intro K' hK
         refine (step_store ?h1B 36 (.tmp 14) (.tmp 83) ?h2B gc #[.slice p1B (zi (ctOf r).1).length q1B,.int .i64 ((ctOf r).2.1:Int)] ?h3B ?h4B 36 _ hhc (by kernel_rfl) rfl (by kernel_rfl) ?h5B:_)
         case h1B=>rfl
         case h2B=>rfl
         case h3B=>exact Eq.trans (b:=d 0) (by kernel_rfl) hd
         case h4B=>exact Eq.trans (b:=s 4) (by kernel_rfl) e4
         exact hK _ _ ⟨HXB.out _ (HDB.out.trans (hR2.be.mono (by rw [HWdB.out];exact Nat.le_refl _))),s,d,by kernel_rfl,hR2⟩
        ·have q5:b 5=true:=hro ⟨8,.data⟩ (by simp) rfl
         have q9:c 1=true:=hro ⟨10,.data⟩ (by simp) rfl
         have q10:c 2=true:=hro ⟨11,.chain⟩ (by simp) rfl
         obtain ⟨q8,q4,-⟩:=hR.d2 q10
         have q3:=(hR.f4 q4).1
         have q2:=(hR.f3 q3).1
         have q1B:=(hR.f2 q2).1
         have q0:=(hR.f1 q1B).1
         refine absurd ?_ hc
         unfold cN
         rw [q0,q1B,q2,q3,q4,q5,q8,q9,q10]
         rfl
        ·rcases hi with rfl | rfl | rfl
         all_goals exact absurd (show true=false from hrf) (by decide)
       case hendwx=>
        clear hS
        intro b c a w7B hc hIf
        obtain ⟨s,d,rfl,hR⟩:=hIf
        obtain ⟨⟨k0,k1,k2,k3,k4,k5⟩,c0,c1,c2⟩:=cN_0 hc
        rw [show lT b c=#[true,true,true,true,true,true,true,true,true,true,true,true,false] by unfold lT;rw [k0,k1,k2,k3,k4,k5,c0,c1,c2]]
        obtain ⟨r,p1B,q1B,g0B,g1B,hBr,h5,hd0B,hd1B,hh1B,hbeB,hg0B,hg1B,hoB⟩:=hR.fin hc
        clear hR k0 k1 k2 k3 k4 k5 c0 c1 c2 hc
        have HBrB:=hdn <| hBr
        have HOnB:=hdn <| zi_len hBr HFw.out.2.1
        clear hBr
        obtain ⟨onB,eo⟩:∃ onB:List Int,zi (ctOf r).1=onB:=⟨_,rfl⟩
        obtain ⟨msB,em⟩:∃ msB:Int,(((ctOf r).2.1:Nat):Int)=msB:=⟨_,rfl⟩
        obtain ⟨e1B,ee⟩:∃ e1B:Int,(((ctOf r).2.2.1:Nat):Int)=e1B:=⟨_,rfl⟩
        obtain ⟨a1B,ea⟩:∃ a1B:Int,(((ctOf r).2.2.2:Nat):Int)=a1B:=⟨_,rfl⟩
        have HCtB:Hid (zi (ctOf r).1=onB/\(((ctOf r).2.1:Nat):Int)=msB/\(((ctOf r).2.2.1:Nat):Int)=e1B):=⟨eo,em,ee⟩
        simp only [eo,em,ee,ea] at h5 hbeB hg0B hg1B hoB HOnB
        clear eo em ee ea
        have hb810:Below w8.heap.size w8 (w7B.setRow g1B #[.int .i64 e1B,.int .i64 a1B]):=HDB.out.trans (hbeB.mono (by rw [HWdB.out];exact Nat.le_refl _))
        have H10:Hid (Below w8.heap.size w8 (w7B.setRow g1B #[.int .i64 e1B,.int .i64 a1B])/\(w7B.setRow g1B #[.int .i64 e1B,.int .i64 a1B]).heap[g0B]?=some (.cells #[.slice p1B onB.length q1B,.int .i64 msB] 36 (0,0))/\(w7B.setRow g1B #[.int .i64 e1B,.int .i64 a1B]).heap[g1B]?=some (.cells #[.int .i64 e1B,.int .i64 a1B] 31 (0,0))/\IsVals (w7B.setRow g1B #[.int .i64 e1B,.int .i64 a1B]) p1B (iv onB)):=⟨hb810,hg0B,hg1B,vals_of hoB⟩
        have HH1:=hdn <| hh1B
        clear hbeB hg0B hg1B hoB hb810 hh1B
        go_simp
        refine wpAnyH_ready (rs:=[12]) (by kernel_rfl) (by simp) ?_
        refine AllReadyH.cons rfl (fun K' hK=>?_) AllReadyH.nil
        refine (step_store ?h1T 31 (.tmp 15) (.tmp 84) ?h2T g1B #[.int .i64 e1B,.int .i64 a1B] ?h3T ?h4T 31 _ HH1.out (by kernel_rfl) rfl (by kernel_rfl) ?h6T:_)
        case h1T=>rfl
        case h2T=>rfl
        case h3T=>kernel_rfl
        case h4T=>kernel_rfl
        refine hK.out _ _ (HXB.out _ H10.out.1) (fun hS=>?_)
        clear hK K' hS HH1 HDB HWdB HLnB HRoB HXB
        refine wpAnyH_done (by kernel_rfl) ?_ _
        go_simp
        generalize (w7B.setRow g1B #[.int .i64 e1B,.int .i64 a1B])=w10 at *
        clear h5
        have HLm:Hid ((∀ n ∈ L1,0<=n/\n<=4194304)/\∀ n ∈ L2,0<=n/\n<=4194304):=by
         have hLs:=HLs.out
         have hG:=HG6.out
         refine ⟨fun n hn=>?_,fun n hn=>?_⟩
         ·obtain ⟨j,hj,rfl⟩:=List.mem_iff_getElem.1 hn
          have h1:=hLs j
          simp only [List.getD_eq_getElem?_getD,List.getElem?_eq_getElem hj,Option.getD_some] at h1
          omega
         ·obtain ⟨j,hj,rfl⟩:=List.mem_iff_getElem.1 hn
          have h1:=hLs j
          simp only [List.getD_eq_getElem?_getD,List.getElem?_eq_getElem hj,Option.getD_some] at h1
          omega
        have HFin:Hid ((e1A=61/\e1B=61)\/(e1A=0/\e1B=61)\/(e1A=0/\e1B=0/\∃ (pp:Pl) (c c':Co),res l=.ok pp/\P=pp.g/\evR pp.rows ((List.range pp.rows.length).map (rdv pp.rows L1)) pp.us pp.qs.length=.ok c/\onA=zi c.on/\msA=((c.miss:Nat):Int)/\onB=zi c'.on/\msB=((c'.miss:Nat):Int)/\LeL c.on c'.on/\c.miss<=c'.miss)):=by
         cases hres:res l with
         | error ci=>
          exfalso
          have h1:=res_pos hres
          have h2:=HRs.out.2
          unfold resC at h2
          rw [hres] at h2
          simp only at h2
          omega
         | ok pp=>
          have hP:P=pp.g:=by
           have h1:=HRs.out.1
           unfold resP at h1
           rw [hres] at h1
           exact h1
          subst hP
          have hrA:=bres_of hres HBrA.out HRdlA.out (by rw [HRd0A.out];exact rd_bad HLm.out.1 _)
          have hrB:=bres_of hres HBrB.out HRdlB.out (by rw [HRd0B.out];exact rd_bad HLm.out.2 _)
          have hdA:rdA=(List.range pp.rows.length).map (rdv pp.rows L1):=HRd0A.out
          have hdB:rdB=(List.range pp.rows.length).map (rdv pp.rows L2):=HRd0B.out
          rw [hdA] at hrA
          rw [hdB] at hrB
          have hlen:L1.length=L2.length:=by have:=HG6.out;omega
          have hle:∀ i,(L1.getD i 0).toNat<=(L2.getD i 0).toNat:=fun j=>by have:=HLs.out j;omega
          have hg1:=(grow_cost (R:=pp.rows) (us:=pp.us) (q:=pp.qs.length) hlen hle).1
          have hg2:=(grow_cost (R:=pp.rows) (us:=pp.us) (q:=pp.qs.length) hlen hle).2
          have hg3:=(grow_cost (R:=pp.rows) (us:=pp.us) (q:=pp.qs.length) (rl:=L2) (rl':=L2) rfl (fun _=>Nat.le_refl _)).1
          obtain ⟨a1,a2,a3⟩:=HCtA.out
          obtain ⟨b1,b2,b3⟩:=HCtB.out
          rw [hrA] at a1 a2 a3
          rw [hrB] at b1 b2 b3
          cases hcB:evR pp.rows ((List.range pp.rows.length).map (rdv pp.rows L2)) pp.us pp.qs.length with
          | error e=>
           rw [hcB] at b3
           have hb61:e1B=61:=by
            rw [<-b3]
            show ((e.1:Nat):Int)=61
            rw [hg3 e hcB]
            rfl
           cases hcA:evR pp.rows ((List.range pp.rows.length).map (rdv pp.rows L1)) pp.us pp.qs.length with
           | error e'=>
            rw [hcA] at a3
            left
            refine ⟨?_,hb61⟩
            rw [<-a3]
            show ((e'.1:Nat):Int)=61
            rw [hg1 e' hcA]
            rfl
           | ok c=>
            rw [hcA] at a3
            exact Or.inr (Or.inl ⟨a3.symm,hb61⟩)
          | ok c'=>
           rw [hcB] at b1 b2 b3
           obtain ⟨c,hcA,hl,hm⟩:=hg2 c' hcB
           rw [hcA] at a1 a2 a3
           exact Or.inr (Or.inr ⟨a3.symm,b3.symm,pp,c,c',rfl,rfl,hcA,a1.symm,a2.symm,b1.symm,b2.symm,hl,hm⟩)
        have HBw:Hid (Below w.heap.size w w10):=H8.out.1.trans (H10.out.1.mono H8.out.1.size)
        have h8B:B7+1 < w8.heap.size:=blk_lt H8.out.2.2.2.1
        have Hfb:Hid (w10.heap[B7+1]?=some (.cells #[.int .i64 e1A,.int .i64 a1A] 31 (0,0))):=(H10.out.1.block _ h8B).trans H8.out.2.2.2.1
        have Hcb:Hid (w10.heap[g0A]?=some (.cells #[.slice p1A onA.length q1A,.int .i64 msA] 36 (0,0))):=(H10.out.1.block _ (blk_lt H8.out.2.2.2.2.1)).trans H8.out.2.2.2.2.1
        have Hpb:Hid (w10.heap[B7]?=some (.cells #[.string P.name,.slice ao1 P.rows.length ac1,.slice qo1 P.qs.length qc1,.slice vo1 P.vs.length vc1,.slice to1 P.ts.length tc1,.slice uo1 P.us.length uc1,.slice oo1 P.on.length oc1,.int .i64 P.miss] 28 (0,0))):=(H10.out.1.block _ (by omega)).trans HS8.out
        have HVA:Hid (IsVals w10 p1A (iv onA)/\IsVals w10 p1B (iv onB)/\IsVals w10 lo (iv L1)):=⟨(vals_of H8.out.2.2.2.2.2).below H10.out.1,H10.out.2.2.2,(vals_of HO8.out.1).below H10.out.1⟩
        have HTc:=hdn <| H10.out.2.1
        have HTf:=hdn <| H10.out.2.2.1
        clear h8B H8 H10 HO8 HRd8 HS8 HRd HX7 HXf HB6 HO6 HW3 H3 HV HWi HPb HRs HPk HFw HBrA HBrB HCtA HCtB HRd0A HRd0B HRdlA HRdlB HLs HNi
        have f0:=(cells2 Hfb.out).1
        have u0:=(cells2 HTf.out).1
        obtain ⟨v0,v1⟩:=cells2 Hcb.out
        obtain ⟨t0,t1⟩:=cells2 HTc.out
        rcases HFin.out with ⟨h1,h2⟩ | ⟨h1,h2⟩ | ⟨h1,h2,pp,c,c',hres,hP,hev,onAe,msAe,onBe,msBe,hle,hms⟩
        ·subst h1 h2
         clear HFin
         go_wp2_with fail
         refine Calls.mono (head10 _) ?_
         rintro e wz ⟨rfl,hbz⟩
         have HBz:Hid (Below w.heap.size w wz):=HBw.out.trans (hbz.mono HBw.out.size)
         clear hbz
         go_wp2
         go_ret
         exact ⟨rfl,HBz.out⟩
        ·subst h1 h2
         clear HFin
         go_wp2_with fail
         refine Calls.mono (head10 _) ?_
         rintro e wz ⟨rfl,hbz⟩
         have HBz:Hid (Below w.heap.size w wz):=HBw.out.trans (hbz.mono HBw.out.size)
         clear hbz
         go_wp2
         go_ret
         exact ⟨rfl,HBz.out⟩
        ·subst h1 h2
         clear HFin
         as_aux_lemma=>
          have HK2:Hid (res l=.ok pp/\P=pp.g/\evR pp.rows ((List.range pp.rows.length).map (rdv pp.rows L1)) pp.us pp.qs.length=.ok c/\onA=zi c.on/\msA=((c.miss:Nat):Int)/\LeL c.on c'.on/\onB=zi c'.on):=⟨hres,hP,hev,onAe,msAe,hle,onBe⟩
          have hlen:onA.length=onB.length:=by rw [onAe,onBe];simp only [zi,List.length_map];exact hle.len
          have hlenI:(onA.length:Int)=(onB.length:Int):=by omega
          have hmsI:msA<=msB:=by omega
          have hget:∀ j,onA.getD j 0<=onB.getD j 0:=fun j=>by
           have h1:=hle.get j
           rw [onAe,onBe]
           simp only [zi,List.getD_eq_getElem?_getD,List.getElem?_map] at h1 ⊢
           cases h2:c.on[j]? with
           | none=>
            cases h3:c'.on[j]? with
            | none=>simp
            | some y=>simp
           | some x=>
            cases h3:c'.on[j]? with
            | none=>rw [h2,h3] at h1;simp at h1 ⊢;omega
            | some y=>rw [h2,h3] at h1;simp at h1 ⊢;omega
          have HGe:=hdn <| hget
          have HLn:=hdn <| hlen
          clear hres hP hev onAe msAe onBe msBe hle hms hget hlen
          go_wp2_with fail
          go_loopg [16] onA.length (fun gq s16 wq=>∃ i:Nat,i<=onA.length/\gq=onA.length - i/\s16=.int .i64 (i:Int)/\Below w10.heap.size w10 wq)
          case atStart=>exact ⟨0,by omega,rfl,rfl,Below.refl _ _⟩
          case round=>
           rename_i J1 K1 hJ1 hH1
           obtain ⟨m,hm,hgk,rfl,hbr⟩:=hrel
           have HM:Hid (m<=onA.length/\gk=onA.length - m):=⟨hm,hgk⟩
           have HR:Hid (Below w10.heap.size w10 wr):=hbr
           clear hm hgk hbr f0 u0 v0 v1 t0 t1
           have Hca:Hid (wr.heap[g0A]?=some (.cells #[.slice p1A onA.length q1A,.int .i64 msA] 36 (0,0))):=(HR.out.block _ (blk_lt Hcb.out)).trans Hcb.out
           have Hcbb:Hid (wr.heap[g0B]?=some (.cells #[.slice p1B onB.length q1B,.int .i64 msB] 36 (0,0))):=(HR.out.block _ (blk_lt HTc.out)).trans HTc.out
           obtain ⟨v0,v1⟩:=cells2 Hca.out
           obtain ⟨t0,t1⟩:=cells2 Hcbb.out
           by_cases hlt:m < onA.length
           ·have HLt:=hdn <| hlt
            have hltI:(m:Int) < (onA.length:Int):=by omega
            have hltJ:(m:Int) < (onB.length:Int):=by have:=HLn.out;omega
            obtain ⟨z,hz⟩:∃ z,onA[m]?=some z:=⟨_,List.getElem?_eq_getElem hlt⟩
            obtain ⟨y,hy⟩:∃ y,onB[m]?=some y:=⟨_,List.getElem?_eq_getElem (by have:=HLn.out;omega)⟩
            have hzy:decide (y < z)=false:=by
             refine decide_eq_false ?_
             have h1:=HGe.out m
             simp only [List.getD_eq_getElem?_getD,hz,hy,Option.getD_some] at h1
             omega
            obtain ⟨gz,oz,hzo,-,cz⟩:=HVA.out.1.below HR.out m (.int .i64 z) (by simp [iv,hz])
            obtain ⟨gy,oy,hyo,-,cy⟩:=HVA.out.2.1.below HR.out m (.int .i64 y) (by simp [iv,hy])
            subst hzo hyo
            clear hz hy hlt
            have hmb:(m:Int) < 17592186043905:=by have:=HOnA.out;have:=HLt.out;omega
            go_wp2_with fail
            go_region
            all_goals
             go_wp2_with fail
             go_roundg (onA.length - (m+1))
             case measure=>have:=HM.out;have:=HLt.out;omega
             case rel=>exact ⟨m+1,by have:=HLt.out;omega,rfl,by go_num,HR.out.drew⟩
           ·have hltI:¬ (m:Int) < (onA.length:Int):=by omega
            clear hlt
            have Hpc:Hid (wr.heap[B7]?=some (.cells #[.string P.name,.slice ao1 P.rows.length ac1,.slice qo1 P.qs.length qc1,.slice vo1 P.vs.length vc1,.slice to1 P.ts.length tc1,.slice uo1 P.us.length uc1,.slice oo1 P.on.length oc1,.int .i64 P.miss] 28 (0,0))):=(HR.out.block _ (blk_lt Hpb.out)).trans Hpb.out
            obtain ⟨k0,k1,k2,k3,k4,k5,k6,k7⟩:=pol8 Hpc.out
            clear k0 k1 k2 k3 k4 k5 k6
            have HBr:Hid (Below w.heap.size w wr):=HBw.out.trans (HR.out.mono HBw.out.size)
            by_cases hneg:P.miss < 0
            ·have h0:msA=0:=by
              obtain ⟨q1,q2,q3,q4,q5,q6⟩:=HK2.out
              have h1:=no_miss q1 (by rw [q2] at hneg;exact hneg)
              rw [q5,(evR_top q3).2 h1]
              rfl
             subst h0
             go_wp2_with fail
             refine Calls.mono (head10 _) ?_
             rintro e wz ⟨rfl,hbz⟩
             have HBz:Hid (Below w.heap.size w wz):=HBr.out.trans (hbz.mono HBr.out.size)
             clear hbz
             go_wp2
             go_ret
             exact ⟨rfl,HBz.out⟩
            ·obtain ⟨a,ha⟩:∃ a:Nat,P.miss=(a:Int):=⟨P.miss.toNat,by omega⟩
             have HLo:Hid (Calls Tryz.prog 10 #[.slice ao l.length cap,.int .i64 (a:Int),.slice lo L1.length lc,.agg #[.slice p1A onA.length q1A,.int .i64 msA]] wr fun e w'=>e=.returned (.bool true)/\Below wr.heap.size wr w'):=by
              obtain ⟨q1,q2,q3,q4,q5,q6,q7⟩:=HK2.out
              have hz:IsVals wr p1A (iv onA):=HVA.out.1.below HR.out
              have hn:=HOnA.out
              rw [q4] at hz hn
              rw [q5,q4]
              exact longer_any ((HA.out.2.2.1).below HBr.out) HA.out.2.1 HA.out.1 HA.out.2.2.2 q1 (by rw [q2] at ha;exact ha) (HVA.out.2.2.below HR.out) HLm.out.1 (by have:=HG6.out;omega) hz hn q3
             rw [ha] at k7 hneg
             go_wp2_with fail
             refine Calls.mono HLo.out ?_
             rintro e wy ⟨rfl,hby⟩
             have HBy:Hid (Below w.heap.size w wy):=HBr.out.trans (hby.mono HBr.out.size)
             clear hby
             go_wp2_with fail
             refine Calls.mono (head10 _) ?_
             rintro e wz ⟨rfl,hbz⟩
             have HBz:Hid (Below w.heap.size w wz):=HBy.out.trans (hbz.mono HBy.out.size)
             clear hbz
             go_wp2
             go_ret
             exact ⟨rfl,HBz.out⟩
end Go.Proofs.YtfgpbdieaflclaaGreat.Nm.Ty
namespace Go.Proofs.YtfgpbdieaflclaaGreat.costGrows
open Go.ChangeShapes Go.WideShapes Go.ChangeAt Go.RowKit
open Sp Lx Gr
open Nm Nm.Ty in
theorem walk (ao:Option Addr) (l:List Rz) (cap:Nat) (bo:Option Addr) (m1 cb:Nat) (z1:Nat->Int) (co:Option Addr) (m2 cc:Nat) (z2:Nat->Int) (w:World) (h:IsRz w ao l) (hc:l.length<=cap) (hn:l.length<=2932031007317) (hkd:∀ r ∈ l,r.kids<=9223372036854775807/\r.name.size<=4611686018427387000) (hz1:IsInts w bo m1 z1) (hm1:m1<=17592186043904) (hz2:IsInts w co m2 z2) (hm2:m2<=17592186043904):
  Calls Tryz.prog 3 #[.slice ao l.length cap,.slice bo m1 cb,.slice co m2 cc] w fun e w'=>e=.returned (.bool true)/\Below w.heap.size w w':=by
 have:=growsWalk ao l cap bo ((List.range m1).map z1) cb co ((List.range m2).map z2) cc w h hc hn hkd (ints_valsJ hz1) (by rw [List.length_map,List.length_range];omega) (ints_valsJ hz2) (by rw [List.length_map,List.length_range];omega)
 rw [List.length_map,List.length_range,List.length_map,List.length_range] at this
 exact this
theorem contractF (H:Type) (enc:TypeId × Value->H) (W:World) (base:Nat) (args:Array Value) (ds gs:List (DataW H)) (before:List MemPlace)
  (hval:∀ (j:Nat) t v,Tryz.f3.params[j]?=some t->args[j]?=some v->Value.okWide Tryz.prog W .any base t v)
  (hW:DataW.Whole enc Tryz.prog Tryz.f3.params.toList Rows.costGrowsSpec.vars false W args.toList ds gs before)
  (hsz:(DataW.weightsEach Tryz.prog (Tryz.f3.params.toList++Rows.costGrowsSpec.plain.varTypes Tryz.prog) (ds++gs)).all (· <= reachBytes)=true):
  Calls Tryz.prog 3 args W fun e W'=>∃ v,e=.returned v/\Rows.costGrowsSpec.post enc Tryz.prog Tryz.f3 false true false false W args v W':=by
 have hW':=hW
 obtain ⟨p,q,hA0,hV,rfl,hfz,hnd⟩:=hW
 have hA:DataW.TrodAll enc Tryz.prog W 0 (fun _=>true) true Tryz.f3.params.toList args.toList ds p:=hA0
 rw [Tryz.params3] at hA hval hsz
 obtain ⟨v0,vs0,d0,ds0,p0,q0,hargs,rfl,rfl,h0,r0⟩:=trodAll_cons hA
 obtain ⟨v1,vs1,d1,ds1,p1,q1,rfl,rfl,rfl,h1,r1⟩:=trodAll_cons r0
 obtain ⟨v2,vs2,d2,ds2,p2,q2,rfl,rfl,rfl,h2,r2⟩:=trodAll_cons r1
 obtain ⟨rfl,rfl,rfl⟩:=trodAll_nil r2
 obtain rfl:args=#[v0,v1,v2]:=by cases args;simp_all
 obtain ⟨rfl,rfl⟩:=trodVars_none hV
 obtain ⟨a0,len0,cap0,rfl⟩:=okWide_slice Tryz.underlying22 (hval 0 22 v0 rfl rfl)
 have lt0:∀ x ∈ p0,x.block < W.heap.size:=by obtain ⟨m,hm⟩:=h0;exact DataW.trod_lt m _ _ _ hm
 obtain ⟨s0,rfl,cl0,ib0,kb0,dd0⟩:=open_rowsZ h0
 obtain ⟨a1,len1,cap1,rfl⟩:=okWide_slice Tryz.underlying23 (hval 1 23 v1 rfl rfl)
 have lt1:∀ x ∈ p1,x.block < W.heap.size:=by obtain ⟨m,hm⟩:=h1;exact DataW.trod_lt m _ _ _ hm
 obtain ⟨z1,ib1,dd1⟩:=open_nums h1
 obtain ⟨a2,len2,cap2,rfl⟩:=okWide_slice Tryz.underlying23 (hval 2 23 v2 rfl rfl)
 have lt2:∀ x ∈ p2,x.block < W.heap.size:=by obtain ⟨m,hm⟩:=h2;exact DataW.trod_lt m _ _ _ hm
 obtain ⟨z2,ib2,dd2⟩:=open_nums h2
 refine (walk a0 s0 cap0 a1 len1 cap1 z1 a2 len2 cap2 z2 W ib0 (by first | exact cl0 | omega) (rows_reach hsz (j:=0) rfl rfl dd0).1 (fun r hr=>⟨kb0 r hr,by have:=(rows_reach hsz (j:=0) rfl rfl dd0).2 r hr;omega⟩) ib1 (Nm.nums_reachJ hsz (j:=1) rfl rfl dd1) ib2 (Nm.nums_reachJ hsz (j:=2) rfl rfl dd2)).mono fun e W2 ⟨he,bel⟩=>?_
 subst he
 exact ⟨_,rfl,_,_,_,[],_,[],hW',trodAll_mk1 (shut_bool Tryz.underlying4 _),(trodAll_cons_mk (Below.trod laidOut (by kernel_rfl) (of_decide_eq_true (by kernel_rfl)) h0 bel lt0) (trodAll_cons_mk (Below.trod laidOut (by kernel_rfl) (of_decide_eq_true (by kernel_rfl)) h1 bel lt1) (trodAll_cons_mk (Below.trod laidOut (by kernel_rfl) (of_decide_eq_true (by kernel_rfl)) h2 bel lt2) trodAll_mk0))),rfl,bel.frame _,fun h=>by cases h⟩
theorem liftedF (os:Os) (started:os.Started) (H:Type) (enc:TypeId × Value->H):
  ReturnsInHanded {} Tryz.checked os 3 .any (Rows.costGrowsSpec.pre6 enc Tryz.prog Tryz.f3 Rows.costGrowsRow.domain false) (Rows.costGrowsSpec.post enc Tryz.prog Tryz.f3 false true false false):=by
 refine returnsInHanded_of_change_sized (C:=Tryz.checked) own started (by kernel_rfl) Tryz.func3
  (ChangeSpec.witness6 (enc:=enc) (C:=Tryz.checked) false ⟨#[],#[.slice none 0 0,.slice none 0 0,.slice none 0 0],[]⟩ 8 (by kernel_rfl) (by kernel_rfl) (by kernel_rfl) (by kernel_rfl)) ?_
 intro W base args ds gs before hval hW _ hsz _
 exact contractF H enc W base args ds gs before hval hW hsz
theorem provedF:Rows.CostGrowsSaid:=
 OpenClaim.holds_of_wide 3 Tryz.f3 rfl rfl rfl rfl rfl rfl rfl ⟨rfl,rfl,rfl,rfl,rfl⟩ rfl rfl rfl rfl rfl (by kernel_rfl) Tryz.func3 (by kernel_rfl)
  (of_decide_eq_true (by kernel_rfl)) (by unfold Func.isWrapper;first | (rw [if_pos (by decide +kernel)];kernel_rfl) | (rw [if_neg (by decide +kernel)];exact ⟨rfl,rfl⟩))
  (fun os started H enc _=>liftedF os started H enc)
end Go.Proofs.YtfgpbdieaflclaaGreat.costGrows
