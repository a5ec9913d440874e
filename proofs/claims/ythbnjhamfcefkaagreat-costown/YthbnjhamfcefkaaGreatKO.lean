import Derived.Test.YthbnjhamfcefkaaGreatK47
set_option maxHeartbeats 51200000
set_option maxRecDepth 2000000
set_option linter.unusedSimpArgs false
namespace Go.Proofs.YthbnjhamfcefkaaGreat.Nm.Ty
open Go.RowKit Go.Maps Sp Lx Gr Nm
theorem ownWalk10 (ao:Option Addr) (L:List Tr) (cap:Nat) (eo:Option Addr) (rl:List Int) (ec:Nat) (w:World) (h:IsVals w ao (L.map trV)) (hL:∀ x ∈ L,IsRz w x.a x.l/\∀ r ∈ x.l,r.kids<=9223372036854775807/\r.name.size<=4611686018427387000) (hv:IsVals w eo (iv rl)) (hR:rl.length<=1152921504606846975):
  Calls Tryz.prog 3 #[.slice ao L.length cap,.slice eo rl.length ec] w fun e w'=>e=.returned (.bool true)/\Below w.heap.size w w':=by
 have HA:Hid (IsVals w ao (L.map trV)/\(∀ x ∈ L,IsRz w x.a x.l/\∀ r ∈ x.l,r.kids<=9223372036854775807/\r.name.size<=4611686018427387000)/\IsVals w eo (iv rl)/\rl.length<=1152921504606846975):=⟨h,hL,hv,hR⟩
 clear h hL hv hR
 go_enter Tryz.func3,Tryz.ntmps3
 go_wp2_with fail
 go_loopg [5,6] 9 (fun gq s5 s6 wr=>∃ (i:Nat) (K:List Kc) (E:Nat->Option Ent) (ko:Option Addr) (kc:Nat),i<=9/\gq=9 - i/\s6=.int .i64 (i:Int)/\s5=.slice ko K.length kc/\Below w.heap.size w wr/\Kp wr w.heap.size (.slice ko K.length kc) K E/\K.length<=2 * i/\∀ x ∈ K,x.l.length<=17592186043904)
 case atStart=>exact ⟨0,[],_,none,0,by omega,rfl,rfl,rfl,Below.refl _ _,Kp.start w,by simp,fun x hx=>by cases hx⟩
 case round=>
  obtain ⟨i,K,E,ko,kc,hi9,hgk,rfl,rfl,hB,hK,hKl,hKs⟩:=hrel
  have HG:Hid (gk=9 - i/\i<=9):=⟨hgk,hi9⟩
  have HB:Hid (Below w.heap.size w wr/\K.length<=2 * i/\(∀ x ∈ K,x.l.length<=17592186043904)):=⟨hB,hKl,hKs⟩
  have HK:=hdn <| hK
  clear hgk hi9 hB hK hKl hKs
  rcases (show (i < L.length/\i < 9)\/(i < L.length/\¬ i < 9)\/¬ i < L.length by omega) with ⟨hi1,hi2⟩ | ⟨hi1,hi2⟩ | hi1
  ·have HI:Hid (i < L.length/\i < 9):=⟨hi1,hi2⟩
   have hx1:(i:Int) < (L.length:Int):=by omega
   have hx2:(i:Int) < 9:=by omega
   obtain ⟨t,ht⟩:∃ t,L[i]?=some t:=⟨_,List.getElem?_eq_getElem hi1⟩
   have HT:=hdn <| HA.out.2.1 t (List.mem_of_getElem? ht)
   obtain ⟨ag,ao2,hao,hag,hc⟩:=IsVals.below HA.out.1 HB.out.1 i (trV t) (by rw [List.getElem?_map,ht];rfl)
   subst hao
   change wr.cell? ⟨ag,ao2+i,none⟩=some (.slice t.a t.l.length t.c) at hc
   clear hi1 hi2 ht
   by_cases h600:600 < t.l.length
   ·have h6i:(600:Int) < (t.l.length:Int):=by omega
    clear h600 HT
    go_wp2_with fail
    go_roundg (9 - (i+1))
    case measure=>have:=HG.out;have:=HI.out;omega
    case rel=>exact ⟨i+1,K,E,ko,kc,by have:=HI.out;omega,rfl,by go_num,rfl,HB.out.1,HK.out,by have:=HB.out.2.1;omega,HB.out.2.2⟩
   ·have h6i:¬ (600:Int) < (t.l.length:Int):=by omega
    have HRr:=hdn <| rresolve_any (cap:=t.c) (HT.out.1.below HB.out.1) (by omega) HT.out.2
    have HPk:=hdn <| res_kd (l:=t.l) (by omega) HT.out.2
    have HFw:=hdn <| resP_few (l:=t.l) (by omega)
    clear h600 HT
    go_wp2_with fail
    refine Calls.mono HRr.out ?_
    rintro e w2 hT2
    obtain ⟨ao1,qo1,vo1,to1,uo1,oo1,ac1,qc1,vc1,tc1,uc1,oc1,rfl,hb2,hrd2,n2,n3,n4,n5,n6⟩:=told_gn hT2
    have HNi:Hid ((qo1=none->qc1=0)/\(vo1=none->vc1=0)/\(to1=none->tc1=0)/\(uo1=none->uc1=0)/\(oo1=none->oc1=0)):=⟨n2,n3,n4,n5,n6⟩
    clear hT2 HRr n2 n3 n4 n5 n6 hc hag h6i
    generalize resP t.l=P at *
    generalize resC t.l=C at *
    obtain ⟨c1,c2⟩:=C
    dsimp only [pvG]
    have hb3:Below w2.heap.size w2 ((w2.alloc (.cells #[.string P.name,.slice ao1 P.rows.length ac1,.slice qo1 P.qs.length qc1,.slice vo1 P.vs.length vc1,.slice to1 P.ts.length tc1,.slice uo1 P.us.length uc1,.slice oo1 P.on.length oc1,.int .i64 P.miss] 29)).alloc (.cells #[.int .i64 (c1:Int),.int .i64 (c2:Int)] 32)):=(bAl w2 _).alloc (by simp) _
    have H3:Hid (Below wr.heap.size wr ((w2.alloc (.cells #[.string P.name,.slice ao1 P.rows.length ac1,.slice qo1 P.qs.length qc1,.slice vo1 P.vs.length vc1,.slice to1 P.ts.length tc1,.slice uo1 P.us.length uc1,.slice oo1 P.on.length oc1,.int .i64 P.miss] 29)).alloc (.cells #[.int .i64 (c1:Int),.int .i64 (c2:Int)] 32))/\(∀ X:World,(∀ q,wr.heap.size<=q->q < ((w2.alloc (.cells #[.string P.name,.slice ao1 P.rows.length ac1,.slice qo1 P.qs.length qc1,.slice vo1 P.vs.length vc1,.slice to1 P.ts.length tc1,.slice uo1 P.us.length uc1,.slice oo1 P.on.length oc1,.int .i64 P.miss] 29)).alloc (.cells #[.int .i64 (c1:Int),.int .i64 (c2:Int)] 32)).heap.size->X.heap[q]?=((w2.alloc (.cells #[.string P.name,.slice ao1 P.rows.length ac1,.slice qo1 P.qs.length qc1,.slice vo1 P.vs.length vc1,.slice to1 P.ts.length tc1,.slice uo1 P.us.length uc1,.slice oo1 P.on.length oc1,.int .i64 P.miss] 29)).alloc (.cells #[.int .i64 (c1:Int),.int .i64 (c2:Int)] 32)).heap[q]?)->RdG X P ao1 qo1 vo1 to1 uo1 oo1)/\((w2.alloc (.cells #[.string P.name,.slice ao1 P.rows.length ac1,.slice qo1 P.qs.length qc1,.slice vo1 P.vs.length vc1,.slice to1 P.ts.length tc1,.slice uo1 P.us.length uc1,.slice oo1 P.on.length oc1,.int .i64 P.miss] 29)).alloc (.cells #[.int .i64 (c1:Int),.int .i64 (c2:Int)] 32)).heap[w2.heap.size]?=some (.cells #[.string P.name,.slice ao1 P.rows.length ac1,.slice qo1 P.qs.length qc1,.slice vo1 P.vs.length vc1,.slice to1 P.ts.length tc1,.slice uo1 P.us.length uc1,.slice oo1 P.on.length oc1,.int .i64 P.miss] 29 (0,0))/\((w2.alloc (.cells #[.string P.name,.slice ao1 P.rows.length ac1,.slice qo1 P.qs.length qc1,.slice vo1 P.vs.length vc1,.slice to1 P.ts.length tc1,.slice uo1 P.us.length uc1,.slice oo1 P.on.length oc1,.int .i64 P.miss] 29)).alloc (.cells #[.int .i64 (c1:Int),.int .i64 (c2:Int)] 32)).heap[w2.heap.size+1]?=some (.cells #[.int .i64 (c1:Int),.int .i64 (c2:Int)] 32 (0,0))/\wr.heap.size<=w2.heap.size):=by
     refine ⟨hb2.trans (hb3.mono hb2.size),fun X hX=>hrd2 X (fun q q1 q2=>(hX q q1 (Nat.lt_of_lt_of_le q2 hb3.size)).trans (hb3.block q q2)),by rw [alloc_old _ _ _ (by simp)];exact alloc_at _ _ _ rfl,alloc_at _ _ _ (by simp),hb2.size⟩
    clear hb2 hrd2 hb3
    have f0:((w2.alloc (.cells #[.string P.name,.slice ao1 P.rows.length ac1,.slice qo1 P.qs.length qc1,.slice vo1 P.vs.length vc1,.slice to1 P.ts.length tc1,.slice uo1 P.us.length uc1,.slice oo1 P.on.length oc1,.int .i64 P.miss] 29)).alloc (.cells #[.int .i64 (c1:Int),.int .i64 (c2:Int)] 32)).cell? ⟨w2.heap.size+1,0,none⟩=some (.int .i64 (c1:Int)):=by rw [World.cell?,H3.out.2.2.2.1];rfl
    go_upto_region 7 with fail
    generalize ((w2.alloc (.cells #[.string P.name,.slice ao1 P.rows.length ac1,.slice qo1 P.qs.length qc1,.slice vo1 P.vs.length vc1,.slice to1 P.ts.length tc1,.slice uo1 P.us.length uc1,.slice oo1 P.on.length oc1,.int .i64 P.miss] 29)).alloc (.cells #[.int .i64 (c1:Int),.int .i64 (c2:Int)] 32))=w3 at *
    generalize w2.heap.size=B7 at *
    by_cases hc1:c1=0
    rotate_left
    ·have hc':((c1:Int) == 0)=false:=beq_false_of_ne (by omega)
     clear hc1
     go_wp2_with fail
     go_roundg (9 - (i+1))
     case measure=>have:=HG.out;have:=HI.out;omega
     case rel=>exact ⟨i+1,K,E,ko,kc,by have:=HI.out;omega,rfl,by go_num,rfl,HB.out.1.trans (H3.out.1.mono HB.out.1.size),HK.out.below H3.out.1,by have:=HB.out.2.1;omega,HB.out.2.2⟩
    ·subst hc1
     clear f0
     have f0:w3.cell? ⟨B7+1,0,none⟩=some (.int .i64 0):=by rw [World.cell?,H3.out.2.2.2.1];rfl
     go_wp2_with fail
     clear f0
     have HI3:Hid (In w wr w3 w3 K E ko kc (2 * i)):=In.start HB.out.1 HK.out HB.out.2.1 HB.out.2.2 H3.out.1
     have H3n:Hid (w.heap.size < w3.heap.size):=by have:=blk_lt H3.out.2.2.1;have:=H3.out.2.2.2.2;have:=HB.out.1.size;show _ < _;omega
     generalize wr=wA at *
     go_loopg [5,9] 2 (fun gq s5 s9 wq=>∃ (k:Nat) (K2:List Kc) (E2:Nat->Option Ent) (ko2:Option Addr) (kc2:Nat),k<=2/\gq=2 - k/\s9=.int .i64 (k:Int)/\s5=.slice ko2 K2.length kc2/\In w wA w3 wq K2 E2 ko2 kc2 (2 * i+k))
     case atStart=>exact ⟨0,K,E,ko,kc,by omega,rfl,rfl,rfl,HI3.out⟩
     case round=>
      rename_i J0 K0 hJ0 hH0
      obtain ⟨k,K2,E2,ko2,kc2,hk,hgk,rfl,rfl,hIn⟩:=hrel
      have HG2:Hid (gk=2 - k/\k<=2):=⟨hgk,hk⟩
      have HIn:Hid (In w wA w3 wr K2 E2 ko2 kc2 (2 * i+k)):=hIn
      clear hgk hIn HI3
      by_cases hk2:k < 2
      case pos=>
       have hk1:(k:Int) < 2:=by omega
       have HK2:Hid (k < 2):=hk2
       clear hk2 hk
       have HX7:Hid (wr.heap[B7]?=some (.cells #[.string P.name,.slice ao1 P.rows.length ac1,.slice qo1 P.qs.length qc1,.slice vo1 P.vs.length vc1,.slice to1 P.ts.length tc1,.slice uo1 P.us.length uc1,.slice oo1 P.on.length oc1,.int .i64 P.miss] 29 (0,0))):=(HIn.out.st B7 H3.out.2.2.2.2 (blk_lt H3.out.2.2.1)).trans H3.out.2.2.1
       have HRd:=hdn <| H3.out.2.1 wr HIn.out.st
       obtain ⟨k0,k1,k2,k3,k4,k5,k6,k7⟩:=pol8 HX7.out
       have HRn:=hdn <| rounds_any (P:=P) (qo:=qo1) (vo:=vo1) (tto:=to1) (uo:=uo1) (oo:=oo1) (ac:=ac1) (qc:=qc1) (vc:=vc1) (tc:=tc1) (uc:=uc1) (oc:=oc1) (ec:=ec) HRd.out.r (HA.out.2.2.1.below HIn.out.be) HPk.out.1 HA.out.2.2.2
       dsimp only [pvG] at HRn
       go_wp2_with fail
       refine Calls.mono HRn.out ?_
       rintro e w5 ⟨g,rfl,hg,hrow,hb5⟩
       obtain ⟨rd,hrd⟩:∃ rd:List Int,rd=(List.range P.rows.length).map (rdv P.rows rl):=⟨_,rfl⟩
       have hlen:rd.length=P.rows.length:=by rw [hrd,List.length_map,List.length_range]
       have hbT:Below w5.heap.size w5 (w5.alloc (.cells #[.slice none 0 0,.slice none 0 0,.slice (some ⟨g,0,none⟩) P.rows.length P.rows.length] 37)):=bAl _ _
       have H6:Hid (Below wr.heap.size wr (w5.alloc (.cells #[.slice none 0 0,.slice none 0 0,.slice (some ⟨g,0,none⟩) P.rows.length P.rows.length] 37))/\IsVals (w5.alloc (.cells #[.slice none 0 0,.slice none 0 0,.slice (some ⟨g,0,none⟩) P.rows.length P.rows.length] 37)) (some ⟨g,0,none⟩) (iv rd)/\(w5.alloc (.cells #[.slice none 0 0,.slice none 0 0,.slice (some ⟨g,0,none⟩) P.rows.length P.rows.length] 37)).heap[w5.heap.size]?=some (.cells #[.slice none 0 0,.slice none 0 0,.slice (some ⟨g,0,none⟩) P.rows.length P.rows.length] 37 (0,0))/\rd.length=P.rows.length):=⟨hb5.trans (hbT.mono hb5.size),IsVals.below (by rw [hrd];exact rowi_vals hrow) hbT,heap_alloc_new _ _,hlen⟩
       clear hg hrow hb5 hrd hlen hbT HRn k0 k1 k2 k3 k4 k5 k6 k7
       go_upto_region 12 with fail
       generalize (w5.alloc (.cells #[.slice none 0 0,.slice none 0 0,.slice (some ⟨g,0,none⟩) P.rows.length P.rows.length] 37))=w6 at *
       generalize w5.heap.size=B10 at *
       have HX:Hid (∀ X,Below w6.heap.size w6 X->(fun w':World=>w'.heap[B7]?=some (.cells #[.string P.name,.slice ao1 P.rows.length ac1,.slice qo1 P.qs.length qc1,.slice vo1 P.vs.length vc1,.slice to1 P.ts.length tc1,.slice uo1 P.us.length uc1,.slice oo1 P.on.length oc1,.int .i64 P.miss] 29 (0,0))/\w'.heap[B10]?=some (.cells #[.slice none 0 0,.slice none 0 0,.slice (some ⟨g,0,none⟩) P.rows.length P.rows.length] 37 (0,0))) X):=fun X hX=>⟨((hX.mono H6.out.1.size).block _ (blk_lt HX7.out)).trans ((H6.out.1.block _ (blk_lt HX7.out)).trans HX7.out),(hX.block _ (blk_lt H6.out.2.2.1)).trans H6.out.2.2.1⟩
       refine wp_region_held (S:=fun w':World=>w'.heap[B7]?=some (.cells #[.string P.name,.slice ao1 P.rows.length ac1,.slice qo1 P.qs.length qc1,.slice vo1 P.vs.length vc1,.slice to1 P.ts.length tc1,.slice uo1 P.us.length uc1,.slice oo1 P.on.length oc1,.int .i64 P.miss] 29 (0,0))/\w'.heap[B10]?=some (.cells #[.slice none 0 0,.slice none 0 0,.slice (some ⟨g,0,none⟩) P.rows.length P.rows.length] 37 (0,0))) (by kernel_rfl) ?_
       change wpAnyH _ _ _ _ _ _ _ _ w6.drew
       have HD:Hid (Below w6.heap.size w6 w6.drew):=(Below.refl _ _).drew
       have hS:=HX.out _ HD.out
       generalize hwd:w6.drew=wd at *
       have HWd:Hid (wd.heap.size=w6.heap.size):=by rw [<-hwd];rfl
       clear hwd
       refine tk (i:=0) (v:=?v0) rfl (Or.inl ⟨by rfl,?y0⟩) hS ?r0
       case y0=>
        intro w hSw
        obtain ⟨k0,k1,k2,k3,k4,k5,k6,k7⟩:=pol8 hSw.1
        first
         | (go_simp;done)
         | (go_simp;with_reducible rfl)
       refine tk (i:=2) (v:=?v2) rfl (Or.inl ⟨by rfl,?y2⟩) hS ?r2
       case y2=>
        intro w hSw
        obtain ⟨g0,g1,g2⟩:=cells3 hSw.2
        first
         | (go_simp;done)
         | (go_simp;with_reducible rfl)
       go_simp
       have HLn:Hid (∀ X,Below w6.heap.size w6 X->Calls Tryz.prog 7 #[.agg #[.string P.name,.slice ao1 P.rows.length ac1,.slice qo1 P.qs.length qc1,.slice vo1 P.vs.length vc1,.slice to1 P.ts.length tc1,.slice uo1 P.us.length uc1,.slice oo1 P.on.length oc1,.int .i64 P.miss]] X fun e w'=>Below X.heap.size X w'/\∃ v,e=.returned v/\Lp w' P v):=fun X hX=>lend_c (HRd.out.below (H6.out.1.trans (hX.mono H6.out.1.size))) HPk.out.1 HFw.out.2.1 HFw.out.2.2.1 HFw.out.2.2.2.1 HFw.out.2.2.2.2.1 HFw.out.2.2.2.2.2 HNi.out.1 HNi.out.2.1 HNi.out.2.2.1 HNi.out.2.2.2.1 HNi.out.2.2.2.2
       have HLt:Hid (∀ X,Below w6.heap.size w6 X->Calls Tryz.prog 8 #[.agg #[.slice none 0 0,.slice none 0 0,.slice (some ⟨g,0,none⟩) P.rows.length P.rows.length]] X fun e w'=>Below X.heap.size X w'/\∃ v,e=.returned v/\Lt w' rd v):=fun X hX=>by
        have h:=lendt_c (ec:=P.rows.length) (H6.out.2.1.below hX) (by rw [H6.out.2.2.2];exact HPk.out.1) nofun
        rw [H6.out.2.2.2] at h
        exact h
       refine held_from (b:=fun _=>false) (c:=fun _=>false) (n:=9) lT cN (fun a0 b c a w=>∃ s d,a=((((((((a0.put (some 56) (s 0)).put (some 58) (s 1)).put (some 59) (s 2)).put (some 54) (s 3)).put (some 60) (s 4)).put (some 61) (s 5)).put (some 11) (d 0)).put (some 12) (d 1))/\Rg wd w P rd b c s d) 1 (by kernel_rfl) (by kernel_rfl) (by kernel_rfl) ?hstart ?hend ?hne ?hstep
       case hstart=>exact rg_start (by kernel_rfl)
       case hne=>
        intro b c hc
        cases b0:b 0 with
        | false=>
         rw [show lT b c=#[true,false,true,b 1,b 2,b 3,b 4,b 5,c 0,c 1,c 2,false] by unfold lT;rw [b0]]
         exact ready_ne 1 (of_decide_eq_true (by kernel_rfl)) (by kernel_rfl)
        | true=>?_
        cases b1:b 1 with
        | false=>
         rw [show lT b c=#[true,true,true,false,b 2,b 3,b 4,b 5,c 0,c 1,c 2,false] by unfold lT;rw [b1,b0]]
         exact ready_ne 3 (of_decide_eq_true (by kernel_rfl)) (by kernel_rfl)
        | true=>?_
        cases b2:b 2 with
        | false=>
         rw [show lT b c=#[true,true,true,true,false,b 3,b 4,b 5,c 0,c 1,c 2,false] by unfold lT;rw [b2,b0,b1]]
         exact ready_ne 4 (of_decide_eq_true (by kernel_rfl)) (by kernel_rfl)
        | true=>?_
        cases b3:b 3 with
        | false=>
         rw [show lT b c=#[true,true,true,true,true,false,b 4,b 5,c 0,c 1,c 2,false] by unfold lT;rw [b3,b0,b1,b2]]
         exact ready_ne 5 (of_decide_eq_true (by kernel_rfl)) (by kernel_rfl)
        | true=>?_
        cases b4:b 4 with
        | false=>
         rw [show lT b c=#[true,true,true,true,true,true,false,b 5,c 0,c 1,c 2,false] by unfold lT;rw [b4,b0,b1,b2,b3]]
         exact ready_ne 6 (of_decide_eq_true (by kernel_rfl)) (by kernel_rfl)
        | true=>?_
        cases b5:b 5 with
        | false=>
         rw [show lT b c=#[true,true,true,true,true,true,true,false,c 0,c 1,c 2,false] by unfold lT;rw [b5,b0,b1,b2,b3,b4]]
         exact ready_ne 7 (of_decide_eq_true (by kernel_rfl)) (by kernel_rfl)
        | true=>?_
        cases c0:c 0 with
        | false=>
         rw [show lT b c=#[true,true,true,true,true,true,true,true,false,c 1,c 2,false] by unfold lT;rw [c0,b0,b1,b2,b3,b4,b5]]
         exact ready_ne 8 (of_decide_eq_true (by kernel_rfl)) (by kernel_rfl)
        | true=>?_
        cases c1:c 1 with
        | false=>
         rw [show lT b c=#[true,true,true,true,true,true,true,true,true,false,c 2,false] by unfold lT;rw [c1,b0,b1,b2,b3,b4,b5,c0]]
         exact ready_ne 9 (of_decide_eq_true (by kernel_rfl)) (by kernel_rfl)
        | true=>?_
        cases c2:c 2 with
        | false=>
         rw [show lT b c=#[true,true,true,true,true,true,true,true,true,true,false,false] by unfold lT;rw [c2,b0,b1,b2,b3,b4,b5,c0,c1]]
         exact ready_ne 10 (of_decide_eq_true (by kernel_rfl)) (by kernel_rfl)
        | true=>?_
        exact absurd (by unfold cN;rw [b0,b1,b2,b3,b4,b5,c0,c1,c2];rfl) hc
       case hstep=>
        clear hS
        intro b c a w i hc hIl hr
        obtain ⟨s,d,rfl,hR⟩:=hIl
        obtain ⟨hrf,hro⟩:=ready_on hr
        have hX:∀ w',Below w.heap.size w w'->Below w6.heap.size w6 w':=fun w' h=>by
         have h1:=HD.out.trans (hR.be.mono (by rw [HWd.out];exact Nat.le_refl _))
         exact h1.trans (h.mono h1.size)
        clear hr
        have hi12:i < 12:=by
         rcases Nat.lt_or_ge i 12 with h | h
         ·exact h
         ·have e:(lT b c).getD i true=true:=by
           rw [Array.getD_eq_getD_getElem?,Array.getElem?_eq_none (by exact h)]
           rfl
          rw [e] at hrf
          cases hrf
        have hi:i=1\/i=3\/i=4\/i=5\/i=6\/i=7\/i=8\/i=9\/i=10\/i=11\/i=0\/i=2:=by omega
        clear hi12
        rcases hi with rfl | rfl | rfl | rfl | rfl | rfl | rfl | rfl | rfl | rfl | hi
        ·refine ⟨up b 0 true,c,rfl,cN_b (by omega) hrf,wpOp_step rfl fun K' hK=>?_⟩
         go_simp
         refine Calls.mono (HLn.out w (hX w (Below.refl _ _))) ?_
         rintro e w' ⟨hb,v,rfl,hv⟩
         exact hK _ _ ⟨HX.out _ (hX _ hb),up s 0 v,d,by kernel_rfl,(hR.below hb).b0 hrf hv⟩
        ·have q0:b 0=true:=hro ⟨1,.chain⟩ (by simp) rfl
         refine ⟨up b 1 true,c,rfl,cN_b (by omega) hrf,wpOp_step rfl fun K' hK=>?_⟩
         go_simp
         refine Calls.mono (HLt.out w (hX w (Below.refl _ _))) ?_
         rintro e w' ⟨hb,v,rfl,hv⟩
         exact hK _ _ ⟨HX.out _ (hX _ hb),up s 1 v,d,by kernel_rfl,(hR.below hb).b1 q0 hrf hv⟩
        ·have q0:b 0=true:=hro ⟨1,.data⟩ (by simp) rfl
         have q1:b 1=true:=hro ⟨3,.data⟩ (by simp) rfl
         refine ⟨up b 2 true,c,rfl,cN_b (by omega) hrf,wpOp_step rfl fun K' hK=>?_⟩
         go_simp
         refine Calls.mono (bound_c (Wd:=wd) hR.be.size (hR.f0 q0 hrf) ((hR.f1 q1).2 hrf) HFw.out.1 HPk.out.1 HFw.out.2.1 (by rw [H6.out.2.2.2];exact HPk.out.1)) ?_
         rintro e w' ⟨hb,v,rfl,hv⟩
         exact hK _ _ ⟨HX.out _ (hX _ hb),up s 2 v,d,by kernel_rfl,(hR.below hb).b2 q1 hrf hv⟩
        ·have q2:b 2=true:=hro ⟨4,.data⟩ (by simp) rfl
         refine ⟨up b 3 true,c,rfl,cN_b (by omega) hrf,wpOp_step rfl fun K' hK=>?_⟩
         go_simp
         exact hK _ _ ⟨HX.out _ (hX _ (Below.refl _ _)),up s 3 (s 2),d,by kernel_rfl,hR.b3 q2 hrf⟩
        ·have q3:b 3=true:=hro ⟨5,.data⟩ (by simp) rfl
         obtain ⟨q2,e3⟩:=hR.f3 q3
         obtain ⟨-,r,p1,q1,-,e2,-⟩:=hR.f2 q2
         rw [e2] at e3
         clear e2
         obtain ⟨x,y,e6⟩:∃ x y,s 3=.tuple #[x,y]:=⟨_,_,e3⟩
         clear e3
         refine ⟨up b 4 true,c,rfl,cN_b (by omega) hrf,wpOp_step rfl fun K' hK=>?_⟩
         go_simp
         exact hK _ _ ⟨HX.out _ (hX _ (Below.refl _ _)),up (up s 3 (.tuple #[x,y])) 4 x,d,by kernel_rfl,by rw [up_self e6];exact hR.b4 q3 hrf e6⟩
        ·have q3:b 3=true:=hro ⟨5,.data⟩ (by simp) rfl
         obtain ⟨q2,e3⟩:=hR.f3 q3
         obtain ⟨-,r,p1,q1,-,e2,-⟩:=hR.f2 q2
         rw [e2] at e3
         clear e2
         obtain ⟨x,y,e6⟩:∃ x y,s 3=.tuple #[x,y]:=⟨_,_,e3⟩
         clear e3
         refine ⟨up b 5 true,c,rfl,cN_b (by omega) hrf,wpOp_step rfl fun K' hK=>?_⟩
         go_simp
         exact hK _ _ ⟨HX.out _ (hX _ (Below.refl _ _)),up (up s 3 (.tuple #[x,y])) 5 y,d,by kernel_rfl,by rw [up_self e6];exact hR.b5 q3 e6⟩
        ·refine ⟨b,up c 0 true,rfl,cN_c (by omega) hrf,wpOp_step rfl fun K' hK=>?_⟩
         go_simp
         have hb:Below w.heap.size w (w.alloc (.cells #[.slice none 0 0,.int .i64 0] 40)):=bAl _ _
         exact hK _ _ ⟨HX.out _ (hX _ hb),s,up d 0 _,by kernel_rfl,(hR.below hb).c0 hrf ⟨w.heap.size,rfl,hR.be.size,heap_alloc_new _ _⟩⟩
        ·refine ⟨b,up c 1 true,rfl,cN_c (by omega) hrf,wpOp_step rfl fun K' hK=>?_⟩
         go_simp
         have hb:Below w.heap.size w (w.alloc (.cells #[.int .i64 0,.int .i64 0] 32)):=bAl _ _
         exact hK _ _ ⟨HX.out _ (hX _ hb),s,up d 1 _,by kernel_rfl,(hR.below hb).c1 ⟨w.heap.size,rfl,hR.be.size,heap_alloc_new _ _⟩⟩
        ·have q4:b 4=true:=hro ⟨6,.data⟩ (by simp) rfl
         have q0:c 0=true:=hro ⟨8,.data⟩ (by simp) rfl
         obtain ⟨q3,x4,y4,e34,e4⟩:=hR.f4 q4
         obtain ⟨q2,e3⟩:=hR.f3 q3
         obtain ⟨-,r,p1,q1,-,e2,-⟩:=hR.f2 q2
         rw [e3,e2] at e34
         cases e34
         obtain ⟨gc,hd,hgc,hhc⟩:=hR.d0 q0 hrf
         have hR2:=hR.c2 q4 q0 hrf e4 hd
         refine ⟨b,up c 2 true,rfl,cN_c (by omega) hrf,?_⟩
         apply wpOp_step rfl
         intro K' hK
         refine (step_store ?h1 40 (.tmp 11) (.tmp 60) ?h2 gc #[.slice p1 (zi (ctOf r).1).length q1,.int .i64 ((ctOf r).2.1:Int)] ?h3 ?h4 40 _ hhc (by kernel_rfl) rfl (by kernel_rfl) ?h5:_)
         case h1=>rfl
         case h2=>rfl
         case h3=>exact Eq.trans (b:=d 0) (by kernel_rfl) hd
         case h4=>exact Eq.trans (b:=s 4) (by kernel_rfl) e4
         exact hK _ _ ⟨HX.out _ (HD.out.trans (hR2.be.mono (by rw [HWd.out];exact Nat.le_refl _))),s,d,by kernel_rfl,hR2⟩
        ·have q5:b 5=true:=hro ⟨7,.data⟩ (by simp) rfl
         have q9:c 1=true:=hro ⟨9,.data⟩ (by simp) rfl
         have q10:c 2=true:=hro ⟨10,.chain⟩ (by simp) rfl
         obtain ⟨q8,q4,-⟩:=hR.d2 q10
         have q3:=(hR.f4 q4).1
         have q2:=(hR.f3 q3).1
         have q1:=(hR.f2 q2).1
         have q0:=(hR.f1 q1).1
         refine absurd ?_ hc
         unfold cN
         rw [q0,q1,q2,q3,q4,q5,q8,q9,q10]
         rfl
        ·rcases hi with rfl | rfl
         all_goals exact absurd (show true=false from hrf) (by decide)
       case hend=>
        clear hS
        intro b c a w7 hc hIf
        obtain ⟨s,d,rfl,hR⟩:=hIf
        obtain ⟨⟨k0,k1,k2,k3,k4,k5⟩,c0,c1,c2⟩:=cN_0 hc
        rw [show lT b c=#[true,true,true,true,true,true,true,true,true,true,true,false] by unfold lT;rw [k0,k1,k2,k3,k4,k5,c0,c1,c2]]
        obtain ⟨r,p1,q1,g0,g1,hBr,h5,hd0,hd1,hh1,hbe,hg0,hg1,ho⟩:=hR.fin hc
        clear hR k0 k1 k2 k3 k4 k5 c0 c1 c2 hc
        have HBr:=hdn <| hBr
        have HOn:=hdn <| zi_len hBr HFw.out.2.1
        have HRb:Hid (∀ X,Below w6.heap.size w6 X->Calls Tryz.prog 9 #[.agg #[.string P.name,.slice ao1 P.rows.length ac1,.slice qo1 P.qs.length qc1,.slice vo1 P.vs.length vc1,.slice to1 P.ts.length tc1,.slice uo1 P.us.length uc1,.slice oo1 P.on.length oc1,.int .i64 P.miss],.agg #[.slice none 0 0,.slice none 0 0,.slice (some ⟨g,0,none⟩) P.rows.length P.rows.length]] X fun e w'=>Below X.heap.size X w'/\∃ p2 q2,e=.returned (.tuple #[.agg #[.slice p2 (zi (ctOf r).1).length q2,.int .i64 ((ctOf r).2.1:Int)],.agg #[.int .i64 ((ctOf r).2.2.1:Int),.int .i64 ((ctOf r).2.2.2:Int)]])/\IsVals w' p2 (iv (zi (ctOf r).1))):=fun X hX=>by
         have h:=rbound_c (ac:=ac1) (qc:=qc1) (vc:=vc1) (tc:=tc1) (uc:=uc1) (oc:=oc1) (ec:=P.rows.length) hBr (HRd.out.below (H6.out.1.trans (hX.mono H6.out.1.size))) HFw.out.1 HPk.out.1 HPk.out.2 (H6.out.2.1.below hX) (by rw [H6.out.2.2.2];exact HPk.out.1)
         rw [H6.out.2.2.2] at h
         exact h
        clear hBr HBr
        generalize zi (ctOf r).1=on at *
        generalize (((ctOf r).2.1:Nat):Int)=ms at *
        generalize (((ctOf r).2.2.1:Nat):Int)=e1 at *
        generalize (((ctOf r).2.2.2:Nat):Int)=a1 at *
        have hb68:Below w6.heap.size w6 (w7.setRow g1 #[.int .i64 e1,.int .i64 a1]):=HD.out.trans (hbe.mono (by rw [HWd.out];exact Nat.le_refl _))
        have H8:Hid (Below wr.heap.size wr (w7.setRow g1 #[.int .i64 e1,.int .i64 a1])/\Below w6.heap.size w6 (w7.setRow g1 #[.int .i64 e1,.int .i64 a1])/\(w7.setRow g1 #[.int .i64 e1,.int .i64 a1]).heap[g0]?=some (.cells #[.slice p1 on.length q1,.int .i64 ms] 40 (0,0))/\(w7.setRow g1 #[.int .i64 e1,.int .i64 a1]).heap[g1]?=some (.cells #[.int .i64 e1,.int .i64 a1] 32 (0,0))/\(w7.setRow g1 #[.int .i64 e1,.int .i64 a1]).ownsRow wr.heap.size 3 1 (.slice p1 on.length q1) on.length (iv on)):=⟨H6.out.1.trans (hb68.mono H6.out.1.size),hb68,hg0,hg1,own_base ho (by rw [HWd.out];exact H6.out.1.size)⟩
        have HH1:=hdn <| hh1
        clear hbe hg0 hg1 ho hb68 hh1
        go_simp
        refine wpAnyH_ready (rs:=[11]) (by kernel_rfl) (by simp) ?_
        refine AllReadyH.cons rfl (fun K' hK=>?_) AllReadyH.nil
        refine (step_store ?h1 32 (.tmp 12) (.tmp 61) ?h2 g1 #[.int .i64 e1,.int .i64 a1] ?h3 ?h4 32 _ HH1.out (by kernel_rfl) rfl (by kernel_rfl) ?h6:_)
        case h1=>rfl
        case h2=>rfl
        case h3=>kernel_rfl
        case h4=>kernel_rfl
        refine hK.out _ _ (HX.out _ H8.out.2.1) (fun hS=>?_)
        clear hK K' hS HH1 HD HWd HLn HLt
        refine wpAnyH_done (by kernel_rfl) ?_ _
        go_simp
        try simp only [hd0,hd1]
        generalize (w7.setRow g1 #[.int .i64 e1,.int .i64 a1])=w8 at *
        have HRb1:=hdn <| HRb.out w8 H8.out.2.1
        obtain ⟨k0,k1,k2,k3,k4,k5,k6,k7⟩:=pol8 (HX.out w8 H8.out.2.1).1
        obtain ⟨t0,t1,t2⟩:=cells3 (HX.out w8 H8.out.2.1).2
        go_wp2_with fail
        refine Calls.mono HRb1.out ?_
        rintro e w9 ⟨hb9,p2,q2,rfl,hv2⟩
        have hbA:Below w9.heap.size w9 ((w9.alloc (.cells #[.slice p2 on.length q2,.int .i64 ms] 40)).alloc (.cells #[.int .i64 e1,.int .i64 a1] 32)):=(bAl w9 _).alloc (by simp) _
        have hb8A:=hb9.trans (hbA.mono hb9.size)
        have H10:Hid (Below w8.heap.size w8 ((w9.alloc (.cells #[.slice p2 on.length q2,.int .i64 ms] 40)).alloc (.cells #[.int .i64 e1,.int .i64 a1] 32))/\((w9.alloc (.cells #[.slice p2 on.length q2,.int .i64 ms] 40)).alloc (.cells #[.int .i64 e1,.int .i64 a1] 32)).heap[w9.heap.size]?=some (.cells #[.slice p2 on.length q2,.int .i64 ms] 40 (0,0))/\((w9.alloc (.cells #[.slice p2 on.length q2,.int .i64 ms] 40)).alloc (.cells #[.int .i64 e1,.int .i64 a1] 32)).heap[w9.heap.size+1]?=some (.cells #[.int .i64 e1,.int .i64 a1] 32 (0,0))/\IsVals ((w9.alloc (.cells #[.slice p2 on.length q2,.int .i64 ms] 40)).alloc (.cells #[.int .i64 e1,.int .i64 a1] 32)) p2 (iv on)):=⟨hb8A,by rw [alloc_old _ _ _ (by simp)];exact alloc_at _ _ _ rfl,alloc_at _ _ _ (by simp),hv2.below hbA⟩
        clear hb9 hbA hb8A hv2 HRb1 k0 k1 k2 k3 k4 k5 k6 k7 t0 t1 t2
        go_upto_region 14 with fail
        generalize ((w9.alloc (.cells #[.slice p2 on.length q2,.int .i64 ms] 40)).alloc (.cells #[.int .i64 e1,.int .i64 a1] 32))=w10 at *
        generalize w9.heap.size=B13 at *
        obtain ⟨t0,t1⟩:=costs2 ((H10.out.1.block _ (blk_lt H8.out.2.2.1)).trans H8.out.2.2.1)
        obtain ⟨f0,f1⟩:=costs2 ((H10.out.1.block _ (blk_lt H8.out.2.2.2.1)).trans H8.out.2.2.2.1)
        obtain ⟨u0,u1⟩:=costs2 H10.out.2.1
        obtain ⟨v0,v1⟩:=costs2 H10.out.2.2.1
        have HSa:=hdn <| same10 (ca:=q1) (cb:=q2) (m:=ms) ((vals_of H8.out.2.2.2.2).below H10.out.1) H10.out.2.2.2 HOn.out
        go_wp2_with fail
        refine Calls.mono HSa.out ?_
        rintro e w11 ⟨rfl,hbB⟩
        have hbw:Below wr.heap.size wr w11:=H8.out.1.trans ((H10.out.1.trans (hbB.mono H10.out.1.size)).mono H8.out.1.size)
        have hbC:Below w11.heap.size w11 (w11.alloc (.cells #[.slice p1 on.length q1,.int .i64 ms] 40)):=bAl _ _
        have hbr:=hbw.trans (hbC.mono hbw.size)
        have hIo:=HIn.out.add (by have:=H3n.out;have:=HIn.out.le;omega) hbr (own_below (own_below H8.out.2.2.2.2 (H10.out.1.trans (hbB.mono H10.out.1.size))) hbC)
        have hx1:(w11.heap[g0]?=some (.cells #[.slice p1 on.length q1,.int .i64 ms] 40 (0,0))):=(hbB.block _ (by have:=blk_lt H8.out.2.2.1;have:=H10.out.1.size;omega)).trans ((H10.out.1.block _ (blk_lt H8.out.2.2.1)).trans H8.out.2.2.1)
        have H11:Hid (wr.heap.size<=w11.heap.size):=hbw.size
        have HIo:Hid (In w wA w3 (w11.alloc (.cells #[.slice p1 on.length q1,.int .i64 ms] 40)) K2 (up E2 (K2.length+1) (some ⟨wr.heap.size,3,1,.slice p1 on.length q1,on.length,iv on⟩)) ko2 kc2 (2 * i+k)):=hIo
        obtain ⟨c0,c1⟩:=costs2 hx1
        obtain ⟨ic,hic,hzc0,hzc1,hzc2⟩:=info_parts infoCo
        have hKo:=(hIo.kp.ap.ow 0 _ hIo.kp.z).2
        have HKo:=hdn <| hKo
        have HNl:Hid (K2.length<=18):=by have:=HIn.out.nl;have:=HG2.out.2;have:=HI.out.2;show _<=_;omega
        clear hbB hbw hbC hbr hIo hx1 HSa t0 t1 f0 f1 u0 u1 v0 v1 hKo
        dsimp only at HKo
        go_wp2_with (at_builtin;refine wpl_app _ rfl _ _ 24 rfl (w.heap.size+1) 40 ic (.agg #[pz,.int .i64 0]) 2 32 Tryz.underlying24 hic hzc0 hzc1 hzc2 rfl (by decide) (.slice ko2 K2.length kc2) K2.length (K2.flatMap kcC) rfl HKo.out (some ⟨w11.heap.size,0,none⟩) 1 1 [.slice p1 on.length q1,.int .i64 ms] rfl rfl nofun (fun ad e=>by cases e;exact cells_newC w11 _ _) (by intro u hu;simp only [List.mem_cons,List.not_mem_nil,or_false] at hu;rcases hu with rfl | rfl<;>rfl) (by have:=HNl.out;unfold maxLen;omega) (by have:=HNl.out;omega) (by have:=HIo.out.be.size;have:=H3n.out;have:=HIo.out.le;omega) ?_)
        intro v' w12 ho hg hbk
        clear c0 c1 hic hzc0 hzc1 hzc2
        have HF:=hdn <| HIo.out.app (x:=⟨.slice p1 on.length q1,on,ms⟩) (v':=v') (by have:=H11.out;simp;omega) (up_same _ _ _) HOn.out hg ho (by simpa using hbk)
        clear ho hg hbk HKo HIo
        obtain ⟨E4,ko4,kc4,rfl,hI4⟩:=HF.out
        have HI4:Hid (In w wA w3 w12 (K2++[⟨.slice p1 on.length q1,on,ms⟩]) E4 ko4 kc4 (2 * i+k+1)):=hI4
        clear HF hI4
        go_wp2_with fail
        go_roundg (2 - (k+1))
        case measure=>have:=HG2.out;have:=HK2.out;omega
        case rel=>exact ⟨k+1,_,E4,ko4,kc4,HK2.out,rfl,by go_num,rfl,HI4.out⟩
      case neg=>
       have hk1:¬ (k:Int) < 2:=by omega
       have HKe:Hid (k<=2):=hk
       clear hk2 hk
       go_wp2_with fail
       go_roundg (9 - (i+1))
       case measure=>have:=HG.out;have:=HI.out;omega
       case rel=>exact ⟨i+1,K2,E2,ko2,kc2,by have:=HI.out;omega,rfl,by go_num,rfl,HIn.out.be,HIn.out.kp,by have:=HIn.out.nl;have:=HKe.out;omega,HIn.out.ll⟩
  all_goals
   have HE0:Hid (∃ E1,Mt w wr K E1 (.slice ko K.length kc) K.length 0 0):=⟨E,HB.out.1,HK.out,rfl,HB.out.2.2,Mk2.zero K⟩
   have HN:Hid (K.length<=18):=by have:=HB.out.2.1;have:=HG.out.2;show _<=_;omega
  case' inr.inl=>
   have hx1:(i:Int) < (L.length:Int):=by omega
   have hx2:¬ (i:Int) < 9:=by omega
   clear hi1 hi2
   go_upto_region 17 with fail
   clear hx1 hx2
  case' inr.inr=>
   have hx1:¬ (i:Int) < (L.length:Int):=by omega
   clear hi1
   go_upto_region 17 with fail
   clear hx1
  all_goals
   clear HG HB HK
   go_wp2_with fail
   go_loopg [15] K.length (fun gq s15 wq=>∃ (j:Nat) (K3:List Kc) (E3:Nat->Option Ent),j<=K.length/\gq=K.length - j/\s15=.int .i64 (j:Int)/\Mt w wq K3 E3 (.slice ko K.length kc) K.length j 0)
   case atStart=>
    obtain ⟨E1,h⟩:=HE0.out
    exact ⟨0,K,E1,by omega,rfl,rfl,h⟩
   case round=>
    rename_i J0 K0 hJ0 hH0
    obtain ⟨j,K3,E3,hj,hgj,rfl,hM⟩:=hrel
    have HG3:Hid (gk=K.length - j/\j<=K.length):=⟨hgj,hj⟩
    have HM:Hid (Mt w wr K3 E3 (.slice ko K.length kc) K.length j 0):=hM
    clear hgj hj hM HE0
    by_cases hjn:j < K.length
    case pos=>
     have hj1:(j:Int) < (K.length:Int):=by omega
     have HJn:Hid (j < K.length):=hjn
     obtain ⟨x,hx⟩:∃ x,K3[j]?=some x:=⟨_,List.getElem?_eq_getElem (by rw [HM.out.nl];exact hjn)⟩
     obtain ⟨xn,hxn⟩:∃ xn,xn=x.l.length:=⟨_,rfl⟩
     have HXn:Hid (xn<=17592186043904):=by rw [hxn];exact HM.out.ll x (List.mem_of_getElem? hx)
     have HXx:Hid (K3[j]?=some x/\x.l.length=xn):=⟨hx,hxn.symm⟩
     clear hjn hx hxn
     go_upto_region 20 with fail
     go_wp2_with fail
     generalize wr=wB at *
     go_loopg [16] xn (fun gq s16 wq=>∃ (k:Nat) (K4:List Kc) (E4:Nat->Option Ent) (y:Kc),k<=xn/\gq=xn - k/\s16=.int .i64 (k:Int)/\K4[j]?=some y/\y.l.length=xn/\Mt w wq K4 E4 (.slice ko K.length kc) K.length j k)
     case atStart=>exact ⟨0,K3,E3,x,Nat.zero_le _,rfl,rfl,HXx.out.1,HXx.out.2,HM.out⟩
     case round=>
      rename_i J1 K1 hJ1 hH1
      obtain ⟨k,K4,E4,y,hk,hgk,rfl,hy,hyl,hM4⟩:=hrel
      have HG4:Hid (gk=xn - k/\k<=xn):=⟨hgk,hk⟩
      have HM4:Hid (K4[j]?=some y/\y.l.length=xn/\Mt w wr K4 E4 (.slice ko K.length kc) K.length j k):=⟨hy,hyl,hM4⟩
      obtain ⟨gl,gc,hkv,hc,o,n,hyv,hvs,hgo⟩:=hM4.kp.get hy
      obtain ⟨hko,-,-⟩:ko=some ⟨gl,0,none⟩/\K.length=K4.length/\kc=gc:=by injection hkv with e1 e2 e3;exact ⟨e1,e2,e3⟩
      subst hko
      clear hkv
      rw [hyl] at hyv hgo
      rw [hyv] at hc
      clear hgk hk hM4
      by_cases hkn:k < xn
      case pos=>
       have hk1:(k:Int) < (xn:Int):=by omega
       have HKn:Hid (k < xn):=hkn
       obtain ⟨g,ho,hgw,hfz⟩:=hgo k hkn
       subst ho
       have hd:∃ z,wr.cell? ⟨g,k,none⟩=some z:=by
        obtain ⟨g',o',e,-,h1⟩:=hvs k (.int .i64 (y.l[k]'(by omega))) (by simp [iv])
        cases e
        rw [Nat.zero_add] at h1
        exact ⟨_,h1⟩
       obtain ⟨z,hz⟩:=hd
       have HNx:=hdn <| HM4.out.2.2.set hy (by omega) (by rw [hyl];exact hyv) (by omega)
       have hkb:(k:Int)<=17592186043904:=by have:=HXn.out;omega
       have hw1:IntKind.i64.wrap (1000 * (j:Int))=1000 * (j:Int):=by rw [IntKind.wrap_i64];have:=HJn.out;have:=HN.out;omega
       have hw2:IntKind.i64.wrap (1000 * (j:Int)+(k:Int))=1000 * (j:Int)+(k:Int):=by rw [IntKind.wrap_i64];have:=HJn.out;have:=HN.out;have:=HXn.out;omega
       clear hkn hvs hgo hyv hy hyl hgw
       go_wp2_with fail
       obtain ⟨E5,h5⟩:=HNx.out
       go_roundg (xn - (k+1))
       case measure=>have:=HG4.out;have:=HKn.out;omega
       case rel=>exact ⟨k+1,_,E5,⟨y.v,y.l.set k (1000 * (j:Int)+(k:Int)),y.m⟩,HKn.out,rfl,by go_num,by rw [List.getElem?_set_self (List.getElem?_eq_some_iff.1 HM4.out.1).1],by show (y.l.set k _).length=_;rw [List.length_set];exact HM4.out.2.1,h5⟩
      case neg=>
       have hk1:¬ (k:Int) < (xn:Int):=by omega
       have HKn:Hid (xn<=k):=by show _<=_;omega
       have HYv:Hid (y.v=.slice o xn n):=hyv
       clear hkn hvs hgo hyv hy hyl
       go_upto_region 24 with fail
       clear hk1
       have hbB:Below wr.heap.size wr (wr.alloc (.cells #[.int .i64 (-5),.int .i64 (-6),.int .i64 (-7)] 3)):=bAl _ _
       have HMb:Hid (Mt w (wr.alloc (.cells #[.int .i64 (-5),.int .i64 (-6),.int .i64 (-7)] 3)) K4 E4 (.slice (some ⟨gl,0,none⟩) K.length kc) K.length j k):=HM4.out.2.2.below hbB
       obtain ⟨b,hbw,hpb,hown,hclo⟩:=HMb.out.kp.own HM4.out.1
       rw [HYv.out,HM4.out.2.1] at hown hclo
       have HOw:Hid ((wr.alloc (.cells #[.int .i64 (-5),.int .i64 (-6),.int .i64 (-7)] 3)).ownsRow b 3 1 (.slice o xn n) xn (iv y.l)/\b<=(wr.alloc (.cells #[.int .i64 (-5),.int .i64 (-6),.int .i64 (-7)] 3)).heap.size/\w.heap.size < b):=⟨hown,hbw,hpb⟩
       have HCl:=hdn <| hclo
       have hgk2:gl < wr.heap.size:=by
        have:=World.ownsRow.lt (HM4.out.2.2.kp.ap.ow 0 _ HM4.out.2.2.kp.z).2 gl rfl
        exact this.2
       clear hbB hown hclo hbw hpb
       go_wp2_with (at_builtin;refine app_more _ rfl _ _ 23 rfl Tryz.underlying23 infoI rfl (by decide) rfl HOw.out.1 HOw.out.2.1 (ad:=⟨wr.heap.size,0,none⟩) (m:=3) (c:=3) (news:=[.int .i64 (-5),.int .i64 (-6),.int .i64 (-7)]) rfl rfl (cells_newC wr _ _) (by intro u hu;simp only [List.mem_cons,List.not_mem_nil,or_false] at hu;rcases hu with rfl | rfl | rfl<;>rfl) (by have:=HXn.out;unfold maxLen;omega) (by have:=HXn.out;omega) (by decide) ?_)
       intro g5 c5 w5 ho5 ho6 hg5 hg6
       have hG5:Gone (wr.alloc (.cells #[.int .i64 (-5),.int .i64 (-6),.int .i64 (-7)] 3)) (.slice o xn n) w5 (.slice (some ⟨g5,0,none⟩) (xn+3) c5):=⟨hg5,by simpa using hg6⟩
       have HMn:Hid (Mt w w5 K4 E4 (.slice (some ⟨gl,0,none⟩) K.length kc) K.length (j+1) 0):=by
        have hm:=HMb.out
        refine hm.gone (v':=.slice (some ⟨g5,0,none⟩) (xn+3) c5) HM4.out.1 (by rw [HYv.out];exact hG5) (HCl.out _ _ hG5 ho6) (fun q hq=>?_) (by rw [HM4.out.2.1];exact HKn.out)
        rw [HYv.out] at hq
        have:=(World.ownsRow.lt HOw.out.1 q hq).1
        have:=HOw.out.2.2
        omega
       clear hgk2 hc ho5 ho6 hg5 hg6 hG5 HMb HOw HCl
       obtain ⟨gl2,gc2,hkv,hc,-⟩:=HMn.out.kp.get HM4.out.1
       obtain rfl:gl2=gl:=by injection hkv with e1 _ _;cases e1;rfl
       clear hkv
       rw [HYv.out] at hc
       have hxb:(xn:Int)<=17592186043904:=by have:=HXn.out;omega
       go_upto_region 25 with fail
       have hKb:(j:Int)<=18:=by have:=HN.out;have:=HJn.out;omega
       go_wp2_with fail
       go_roundg (K.length - (j+1))
       case measure=>have:=HG3.out;have:=HJn.out;omega
       case rel=>exact ⟨j+1,K4,E4,HJn.out,rfl,by go_num,HMn.out⟩
    case neg=>
     have hj1:¬ (j:Int) < (K.length:Int):=by omega
     have HMe:Hid (Mt w wr K3 E3 (.slice ko K.length kc) K.length K.length 0):=by
      have h1:=HM.out
      have h2:=HG3.out.2
      rw [show j=K.length by omega] at h1
      exact h1
     clear hjn HM HG3
     go_wp2_with fail
     clear hj1
     obtain ⟨wE,rfl⟩:∃ wE,wE=wr:=⟨_,rfl⟩
     go_loopg [18] K.length (fun gq s18 wq=>∃ (j:Nat),j<=K.length/\gq=K.length - j/\s18=.int .i64 (j:Int)/\wq=wE)
     case atStart=>exact ⟨0,by omega,rfl,rfl,rfl⟩
     case round=>
      rename_i J0 K0 hJ0 hH0
      obtain ⟨j,hj,hgj,rfl,rfl⟩:=hrel
      have HG3:Hid (gk=K.length - j/\j<=K.length):=⟨hgj,hj⟩
      clear hgj hj
      by_cases hjn:j < K.length
      case pos=>
       have hj1:(j:Int) < (K.length:Int):=by omega
       have HJn:Hid (j < K.length):=hjn
       obtain ⟨x,hx⟩:∃ x,K3[j]?=some x:=⟨_,List.getElem?_eq_getElem (by rw [HMe.out.nl];exact hjn)⟩
       obtain ⟨xn,hxn⟩:∃ xn,xn=x.l.length:=⟨_,rfl⟩
       have HXn:Hid (xn<=17592186043904):=by rw [hxn];exact HMe.out.ll x (List.mem_of_getElem? hx)
       have HXx:Hid (K3[j]?=some x/\x.l.length=xn):=⟨hx,hxn.symm⟩
       obtain ⟨gl,gc,hkv,hc,o,n,hyv,hvs,-⟩:=HMe.out.kp.get hx
       obtain ⟨hko,-,-⟩:ko=some ⟨gl,0,none⟩/\K.length=K3.length/\kc=gc:=by injection hkv with e1 e2 e3;exact ⟨e1,e2,e3⟩
       subst hko
       clear hkv
       rw [<-hxn] at hyv
       rw [hyv] at hc
       have HVs:=hdn <| hvs
       have HC:Hid (wr.cell? ⟨gl,j * 2,none⟩=some (.slice o xn n)):=hc
       clear hjn hx hxn hyv hvs hc
       go_upto_region 30 with fail
       go_wp2_with fail
       obtain ⟨wF,rfl⟩:∃ wF,wF=wr:=⟨_,rfl⟩
       go_loopg [19] xn (fun gq s19 wq=>∃ (k:Nat),k<=xn/\gq=xn - k/\s19=.int .i64 (k:Int)/\wq=wF)
       case atStart=>exact ⟨0,Nat.zero_le _,rfl,rfl,rfl⟩
       case round=>
        rename_i J1 K1 hJ1 hH1
        obtain ⟨k,hk,hgk,rfl,rfl⟩:=hrel
        have HG4:Hid (gk=xn - k/\k<=xn):=⟨hgk,hk⟩
        have hc:=HC.out
        clear hgk hk
        by_cases hkn:k < xn
        case pos=>
         have hk1:(k:Int) < (xn:Int):=by omega
         have HKn:Hid (k < xn):=hkn
         have hd:∃ g p,o=some ⟨g,p,none⟩/\wr.cell? ⟨g,p+k,none⟩=some (.int .i64 (1000 * (j:Int)+(k:Int))):=by
          have h1:=HMe.out.ms j x HXx.out.1 k (by rw [HXx.out.2];exact hkn) (Or.inl HJn.out)
          obtain ⟨g',o',e,-,h2⟩:=HVs.out k (.int .i64 (1000 * (j:Int)+(k:Int))) (by simp [iv,h1])
          exact ⟨g',o',e,h2⟩
         obtain ⟨g,p,ho,hz⟩:=hd
         subst ho
         have hkb:(k:Int)<=17592186043904:=by have:=HXn.out;omega
         have hw1:IntKind.i64.wrap (1000 * (j:Int))=1000 * (j:Int):=by rw [IntKind.wrap_i64];have:=HJn.out;have:=HN.out;omega
         have hw2:IntKind.i64.wrap (1000 * (j:Int)+(k:Int))=1000 * (j:Int)+(k:Int):=by rw [IntKind.wrap_i64];have:=HJn.out;have:=HN.out;have:=HXn.out;omega
         clear hkn
         go_wp2_with fail
         go_roundg (xn - (k+1))
         case measure=>have:=HG4.out;have:=HKn.out;omega
         case rel=>exact ⟨k+1,HKn.out,rfl,by go_num,rfl⟩
        case neg=>
         have hk1:¬ (k:Int) < (xn:Int):=by omega
         clear hkn
         have hKb:(j:Int)<=18:=by have:=HN.out;have:=HJn.out;omega
         go_wp2_with fail
         go_roundg (K.length - (j+1))
         case measure=>have:=HG3.out;have:=HJn.out;omega
         case rel=>exact ⟨j+1,HJn.out,rfl,by go_num,rfl⟩
      case neg=>
       have hj1:¬ (j:Int) < (K.length:Int):=by omega
       clear hjn HG3
       go_wp2_with fail
       refine Calls.mono (head10 _) ?_
       rintro e wz ⟨rfl,hbz⟩
       have HBz:Hid (Below w.heap.size w wz):=HMe.out.be.trans (hbz.mono HMe.out.be.size)
       clear hbz hj1
       go_wp2
       go_ret
       exact ⟨rfl,HBz.out⟩
end Go.Proofs.YthbnjhamfcefkaaGreat.Nm.Ty
namespace Go.Proofs.YthbnjhamfcefkaaGreat.costOwn
open Go.ChangeShapes Go.WideShapes Go.ChangeAt Go.RowKit
open Sp Lx Gr
open Nm Nm.Ty in
theorem walk (ao:Option Addr) (L:List Tr) (cap:Nat) (bo:Option Addr) (m cb:Nat) (z:Nat->Int) (w:World) (h:IsVals w ao (L.map trV)) (hL:∀ x ∈ L,IsRz w x.a x.l/\∀ r ∈ x.l,r.kids<=9223372036854775807/\r.name.size<=4611686018427387000) (hz:IsInts w bo m z) (hm:m<=17592186043904):
  Calls Tryz.prog 3 #[.slice ao L.length cap,.slice bo m cb] w fun e w'=>e=.returned (.bool true)/\Below w.heap.size w w':=by
 have:=ownWalk10 ao L cap bo ((List.range m).map z) cb w h hL (ints_valsJ hz) (by rw [List.length_map,List.length_range];omega)
 rw [List.length_map,List.length_range] at this
 exact this
theorem contractF (H:Type) (enc:TypeId × Value->H) (W:World) (base:Nat) (args:Array Value) (ds gs:List (DataW H)) (before:List MemPlace)
  (hval:∀ (j:Nat) t v,Tryz.f3.params[j]?=some t->args[j]?=some v->Value.okWide Tryz.prog W .any base t v)
  (hW:DataW.Whole enc Tryz.prog Tryz.f3.params.toList Rows.costOwnSpec.vars false W args.toList ds gs before)
  (hsz:(DataW.weightsEach Tryz.prog (Tryz.f3.params.toList++Rows.costOwnSpec.plain.varTypes Tryz.prog) (ds++gs)).all (· <= reachBytes)=true):
  Calls Tryz.prog 3 args W fun e W'=>∃ v,e=.returned v/\Rows.costOwnSpec.post enc Tryz.prog Tryz.f3 false true false false W args v W':=by
 have hW':=hW
 obtain ⟨p,q,hA0,hV,rfl,hfz,hnd⟩:=hW
 have hA:DataW.TrodAll enc Tryz.prog W 0 (fun _=>true) true Tryz.f3.params.toList args.toList ds p:=hA0
 rw [Tryz.params3] at hA hval hsz
 obtain ⟨v0,vs0,d0,ds0,p0,q0,hargs,rfl,rfl,h0,r0⟩:=trodAll_cons hA
 obtain ⟨v1,vs1,d1,ds1,p1,q1,rfl,rfl,rfl,h1,r1⟩:=trodAll_cons r0
 obtain ⟨rfl,rfl,rfl⟩:=trodAll_nil r1
 obtain rfl:args=#[v0,v1]:=by cases args;simp_all
 obtain ⟨rfl,rfl⟩:=trodVars_none hV
 obtain ⟨a0,len0,cap0,rfl⟩:=okWide_slice Tryz.underlying22 (hval 0 22 v0 rfl rfl)
 have lt0:∀ x ∈ p0,x.block < W.heap.size:=by obtain ⟨m,hm⟩:=h0;exact DataW.trod_lt m _ _ _ hm
 obtain ⟨s0,rfl,ib0,kb0,dd0⟩:=Nm.Ty.open_rowss h0
 obtain ⟨a1,len1,cap1,rfl⟩:=okWide_slice Tryz.underlying23 (hval 1 23 v1 rfl rfl)
 have lt1:∀ x ∈ p1,x.block < W.heap.size:=by obtain ⟨m,hm⟩:=h1;exact DataW.trod_lt m _ _ _ hm
 obtain ⟨z1,ib1,dd1⟩:=open_nums h1
 refine (walk a0 s0 cap0 a1 len1 cap1 z1 W ib0 (fun x hx=>⟨(kb0 x hx).1,fun r hr=>⟨(kb0 x hx).2 r hr,by have:=Nm.Ty.rowss_reach hsz (j:=0) rfl rfl dd0 x hx r hr;omega⟩⟩) ib1 (Nm.nums_reachJ hsz (j:=1) rfl rfl dd1)).mono fun e W2 ⟨he,bel⟩=>?_
 subst he
 exact ⟨_,rfl,_,_,_,[],_,[],hW',trodAll_mk1 (shut_bool Tryz.underlying4 _),(trodAll_cons_mk (Below.trod laidOut (by kernel_rfl) (of_decide_eq_true (by kernel_rfl)) h0 bel lt0) (trodAll_cons_mk (Below.trod laidOut (by kernel_rfl) (of_decide_eq_true (by kernel_rfl)) h1 bel lt1) trodAll_mk0)),rfl,bel.frame _,fun h=>by cases h⟩
theorem liftedF (os:Os) (started:os.Started) (H:Type) (enc:TypeId × Value->H):
  ReturnsInHanded {} Tryz.checked os 3 .any (Rows.costOwnSpec.pre6 enc Tryz.prog Tryz.f3 Rows.costOwnRow.domain false) (Rows.costOwnSpec.post enc Tryz.prog Tryz.f3 false true false false):=by
 refine returnsInHanded_of_change_sized (C:=Tryz.checked) own started (by kernel_rfl) Tryz.func3
  (ChangeSpec.witness6 (enc:=enc) (C:=Tryz.checked) false ⟨#[],#[.slice none 0 0,.slice none 0 0],[]⟩ 8 (by kernel_rfl) (by kernel_rfl) (by kernel_rfl) (by kernel_rfl)) ?_
 intro W base args ds gs before hval hW _ hsz _
 exact contractF H enc W base args ds gs before hval hW hsz
theorem provedF:Rows.CostOwnSaid:=
 OpenClaim.holds_of_wide 3 Tryz.f3 rfl rfl rfl rfl rfl rfl rfl ⟨rfl,rfl,rfl,rfl,rfl⟩ rfl rfl rfl rfl rfl (by kernel_rfl) Tryz.func3 (by kernel_rfl)
  (of_decide_eq_true (by kernel_rfl)) (by unfold Func.isWrapper;first | (rw [if_pos (by decide +kernel)];kernel_rfl) | (rw [if_neg (by decide +kernel)];exact ⟨rfl,rfl⟩))
  (fun os started H enc _=>liftedF os started H enc)
end Go.Proofs.YthbnjhamfcefkaaGreat.costOwn
