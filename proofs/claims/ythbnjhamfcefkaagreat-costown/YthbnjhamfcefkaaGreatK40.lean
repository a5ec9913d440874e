import Derived.Test.YthbnjhamfcefkaaGreatK38
import Derived.Test.YthbnjhamfcefkaaGreatK39
set_option maxHeartbeats 6400000
set_option maxRecDepth 100000
namespace Go.Proofs.YthbnjhamfcefkaaGreat.Nm
open Go.RowKit Go.Maps Sp Lx Gr
theorem rplain_any {w:World} {ao:Option Addr} {l:List Rz} {cap:Nat} (h:IsRz w ao l) (hl:l.length<=2932031007317):
  Calls Tryz.prog 43 #[.slice ao l.length cap] w fun e w'=>∃ v,e=.returned v/\w'.ownsRow w.heap.size 51 5 v l.length ((l.map unn).flatMap rz5)/\Below w.heap.size w w':=by
 have HI:=hdn <| h
 have HL:=hdn <| hl
 have hl2:(l.length:Int)<=2932031007317:=by omega
 obtain ⟨i0,hi,hz0,hz1,hz2⟩:=info_parts infoRw
 clear h hl
 go_enter Tryz.func43,Tryz.ntmps43
 go_wp2_with fail
 go_loopg [3,4] l.length (fun gq v x wr=>∃ k:Nat,k+gq=l.length/\x=.int .i64 (k:Int)/\wr.ownsRow w.heap.size 51 5 v k (((l.take k).map unn).flatMap rz5)/\Below w.heap.size w wr)
 case atStart=>exact ⟨0,by omega,rfl,⟨rfl,Or.inl ⟨rfl,rfl⟩⟩,Below.refl _ _⟩
 case round=>
  obtain ⟨k,hkg,rfl,hown,hbw⟩:=hrel
  obtain ⟨so,sc,rfl⟩:=own_form hown
  have HG:Hid (k+gk=l.length/\wr.ownsRow w.heap.size 51 5 (.slice so k sc) k (((l.take k).map unn).flatMap rz5)/\Below w.heap.size w wr):=⟨hkg,hown,hbw⟩
  by_cases hlt:k < l.length
  ·have hk':(k:Int) < (l.length:Int):=by omega
   have hk2:(k:Int)<=2932031007317:=by omega
   have hx:=List.getElem?_eq_getElem hlt
   obtain ⟨g,o,rfl,hgl,d0,d1,d2,d3,d4⟩:=(IsRz.below HI.out hbw) k _ hx
   have HT:Hid (l.take (k+1)=l.take k++[l[k]]):=by rw [List.take_add_one,hx];rfl
   generalize l[k]=x at *
   obtain ⟨kd,nm,st,n,ks⟩:=x
   dsimp only at *
   have HLt:Hid (k < l.length):=hlt
   clear hkg hlt hbw hown hx hgl
   by_cases h27:kd=27
   rotate_right
   focus
    have h27':(kd != 27)=true:=by simp [h27]
    have HU:Hid (unn ⟨kd,nm,st,n,ks⟩=⟨kd,nm,st,0,ks⟩):=by show unn _=_;simp [unn,h27]
    clear h27
    have HOw:Hid (((wr.alloc (.cells #[.int .i64 kd,.string nm,.int .i64 st,.int .i64 0,.int .i64 ks] 51)).alloc (.cells #[.int .i64 kd,.string nm,.int .i64 st,.int .i64 0,.int .i64 ks] 51)).ownsRow w.heap.size 51 5 (.slice so k sc) k (((l.take k).map unn).flatMap rz5)/\Below w.heap.size w ((wr.alloc (.cells #[.int .i64 kd,.string nm,.int .i64 st,.int .i64 0,.int .i64 ks] 51)).alloc (.cells #[.int .i64 kd,.string nm,.int .i64 st,.int .i64 0,.int .i64 ks] 51))):=by
     have b1:Below wr.heap.size wr (wr.alloc (.cells #[.int .i64 kd,.string nm,.int .i64 st,.int .i64 0,.int .i64 ks] 51)):=bAl wr _
     have b2:Below (wr.alloc (.cells #[.int .i64 kd,.string nm,.int .i64 st,.int .i64 0,.int .i64 ks] 51)).heap.size (wr.alloc (.cells #[.int .i64 kd,.string nm,.int .i64 st,.int .i64 0,.int .i64 ks] 51)) ((wr.alloc (.cells #[.int .i64 kd,.string nm,.int .i64 st,.int .i64 0,.int .i64 ks] 51)).alloc (.cells #[.int .i64 kd,.string nm,.int .i64 st,.int .i64 0,.int .i64 ks] 51)):=bAl _ _
     exact ⟨own_below (own_below HG.out.2.1 b1) b2,(HG.out.2.2.trans (b1.mono HG.out.2.2.size)).trans (b2.mono (Nat.le_trans HG.out.2.2.size b1.size))⟩
    have hsz:(wr.alloc (.cells #[.int .i64 kd,.string nm,.int .i64 st,.int .i64 0,.int .i64 ks] 51)).heap.size=wr.heap.size+1:=by simp
    go_wp2_with (at_builtin;refine append_gone _ rfl _ _ 25 rfl w.heap.size 51 i0 (.agg #[.int .i64 0,.string ⟨#[]⟩,.int .i64 0,.int .i64 0,.int .i64 0]) 5 48 Tryz.underlying25 hi hz0 hz1 hz2 rfl (by decide) (.slice so k sc) k (((l.take k).map unn).flatMap rz5) rfl HOw.out.1 ⟨wr.heap.size+1,0,none⟩ 1 1 [.int .i64 kd,.string nm,.int .i64 st,.int .i64 0,.int .i64 ks] rfl rfl ?c1 ?c2 ?c3 ?c4 ?c5 ?c6 ?_)
    case c1=>rw [<-hsz];exact cell_five (wr.alloc (.cells #[.int .i64 kd,.string nm,.int .i64 st,.int .i64 0,.int .i64 ks] 51)) _ _ _ _ _ _
    case c2=>intro u hu;simp only [List.mem_cons,List.not_mem_nil,or_false] at hu;rcases hu with rfl | rfl | rfl | rfl | rfl<;>rfl
    case c3=>have:=HL.out;have:=HLt.out;unfold maxLen;omega
    case c4=>have:=HL.out;have:=HLt.out;omega
    case c5=>exact HOw.out.2.size
    case c6=>decide
   rotate_right
   focus
    have h27':(kd != 27)=false:=by simp [h27]
    have HU:Hid (unn ⟨kd,nm,st,n,ks⟩=⟨kd,nm,st,n,ks⟩):=by show unn _=_;simp [unn,h27]
    clear h27
    have HOw:Hid (((wr.alloc (.cells #[.int .i64 kd,.string nm,.int .i64 st,.int .i64 n,.int .i64 ks] 51)).alloc (.cells #[.int .i64 kd,.string nm,.int .i64 st,.int .i64 n,.int .i64 ks] 51)).ownsRow w.heap.size 51 5 (.slice so k sc) k (((l.take k).map unn).flatMap rz5)/\Below w.heap.size w ((wr.alloc (.cells #[.int .i64 kd,.string nm,.int .i64 st,.int .i64 n,.int .i64 ks] 51)).alloc (.cells #[.int .i64 kd,.string nm,.int .i64 st,.int .i64 n,.int .i64 ks] 51))):=by
     have b1:Below wr.heap.size wr (wr.alloc (.cells #[.int .i64 kd,.string nm,.int .i64 st,.int .i64 n,.int .i64 ks] 51)):=bAl wr _
     have b2:Below (wr.alloc (.cells #[.int .i64 kd,.string nm,.int .i64 st,.int .i64 n,.int .i64 ks] 51)).heap.size (wr.alloc (.cells #[.int .i64 kd,.string nm,.int .i64 st,.int .i64 n,.int .i64 ks] 51)) ((wr.alloc (.cells #[.int .i64 kd,.string nm,.int .i64 st,.int .i64 n,.int .i64 ks] 51)).alloc (.cells #[.int .i64 kd,.string nm,.int .i64 st,.int .i64 n,.int .i64 ks] 51)):=bAl _ _
     exact ⟨own_below (own_below HG.out.2.1 b1) b2,(HG.out.2.2.trans (b1.mono HG.out.2.2.size)).trans (b2.mono (Nat.le_trans HG.out.2.2.size b1.size))⟩
    have hsz:(wr.alloc (.cells #[.int .i64 kd,.string nm,.int .i64 st,.int .i64 n,.int .i64 ks] 51)).heap.size=wr.heap.size+1:=by simp
    go_wp2_with (at_builtin;refine append_gone _ rfl _ _ 25 rfl w.heap.size 51 i0 (.agg #[.int .i64 0,.string ⟨#[]⟩,.int .i64 0,.int .i64 0,.int .i64 0]) 5 48 Tryz.underlying25 hi hz0 hz1 hz2 rfl (by decide) (.slice so k sc) k (((l.take k).map unn).flatMap rz5) rfl HOw.out.1 ⟨wr.heap.size+1,0,none⟩ 1 1 [.int .i64 kd,.string nm,.int .i64 st,.int .i64 n,.int .i64 ks] rfl rfl ?c1 ?c2 ?c3 ?c4 ?c5 ?c6 ?_)
    case c1=>rw [<-hsz];exact cell_five (wr.alloc (.cells #[.int .i64 kd,.string nm,.int .i64 st,.int .i64 n,.int .i64 ks] 51)) _ _ _ _ _ _
    case c2=>intro u hu;simp only [List.mem_cons,List.not_mem_nil,or_false] at hu;rcases hu with rfl | rfl | rfl | rfl | rfl<;>rfl
    case c3=>have:=HL.out;have:=HLt.out;unfold maxLen;omega
    case c4=>have:=HL.out;have:=HLt.out;omega
    case c5=>exact HOw.out.2.size
    case c6=>decide
   all_goals
    intro v' w4 hown4 hG4
    have H4:Hid (w4.ownsRow w.heap.size 51 5 v' (k+1) (((l.take (k+1)).map unn).flatMap rz5)/\Below w.heap.size w w4):=by
     refine ⟨?_,HOw.out.2.grown hG4.1 HOw.out.2.size (fun q e=>(World.ownsRow.lt HOw.out.1 q e).1)⟩
     rw [HT.out,List.map_append,List.flatMap_append]
     simp only [List.map_cons,List.map_nil,HU.out,List.flatMap_cons,List.flatMap_nil,List.append_nil]
     rw [List.map_take]
     exact hown4
    obtain ⟨bo,bc,rfl⟩:=own_form hown4
    clear hown4 hG4
    go_wp2_with fail
    go_roundg (l.length - (k+1))
    case measure=>have:=HG.out.1;have:=HLt.out;omega
    case rel=>exact ⟨k+1,by have:=HG.out.1;have:=HLt.out;omega,by go_num,H4.out.1,H4.out.2⟩
  ·have hk':decide (k < l.length)=false:=decide_eq_false hlt
   have hk2:decide ((k:Int) < (l.length:Int))=false:=decide_eq_false (by omega)
   have HE:Hid (wr.ownsRow w.heap.size 51 5 (.slice so k sc) l.length ((l.map unn).flatMap rz5)):=by
    have hke:k=l.length:=by omega
    subst hke
    rw [List.take_length] at hown
    exact hown
   clear hkg hown hbw hlt
   go_wp2
   go_ret
   exact ⟨_,rfl,HE.out,HG.out.2.2⟩
theorem rz_of_own {w:World} {base n c:Nat} {bo:Option Addr} {l:List Rz} (h:w.ownsRow base 51 5 (.slice bo n c) n (l.flatMap rz5)) (hl:l.length=n):IsRz w bo l:=by
 subst hl
 cases l with
 | nil=>exact fun i x hx=>by simp at hx
 | cons x l=>
  obtain ⟨g,cap,cur,e,_⟩:=own_block h (by simp)
  cases e
  exact (rw_of_own h).rz
theorem rcheck_any {w:World} {p:Pg} {ao qo vo tto uo oo:Option Addr} {ac qc vc tc uc oc:Nat} (h:RdG w p ao qo vo tto uo oo) (hs:p.Sm) (hkd:∀ r ∈ p.rows,r.kids<=9223372036854775807/\r.name.size<=4611686018427387000):
  Calls Tryz.prog 29 #[pvG p ao qo vo tto uo oo ac qc vc tc uc oc] w fun e w'=>((∃ p',res (p.rows.map unn)=.ok p'/\p'.g=p/\e=.returned (.int .i64 0))\/((¬ ∃ p',res (p.rows.map unn)=.ok p'/\p'.g=p)/\e=.returned (.int .i64 23)))/\Below w.heap.size w w':=by
 dsimp only [pvG]
 have hb1:Below w.heap.size w (w.alloc (.cells #[.string p.name,.slice ao p.rows.length ac,.slice qo p.qs.length qc,.slice vo p.vs.length vc,.slice tto p.ts.length tc,.slice uo p.us.length uc,.slice oo p.on.length oc,.int .i64 p.miss] 29)):=bAl w _
 have H1:Hid ((w.alloc (.cells #[.string p.name,.slice ao p.rows.length ac,.slice qo p.qs.length qc,.slice vo p.vs.length vc,.slice tto p.ts.length tc,.slice uo p.us.length uc,.slice oo p.on.length oc,.int .i64 p.miss] 29)).heap[w.heap.size]?=some (.cells #[.string p.name,.slice ao p.rows.length ac,.slice qo p.qs.length qc,.slice vo p.vs.length vc,.slice tto p.ts.length tc,.slice uo p.us.length uc,.slice oo p.on.length oc,.int .i64 p.miss] 29 (0,0))/\Below w.heap.size w (w.alloc (.cells #[.string p.name,.slice ao p.rows.length ac,.slice qo p.qs.length qc,.slice vo p.vs.length vc,.slice tto p.ts.length tc,.slice uo p.us.length uc,.slice oo p.on.length oc,.int .i64 p.miss] 29))/\RdG w p ao qo vo tto uo oo/\p.Sm):=⟨heap_alloc_new w _,hb1,h,hs⟩
 have HKd:Hid (∀ r ∈ p.rows.map unn,r.kids<=9223372036854775807/\r.name.size<=4611686018427387000):=fun r hr=>by
  obtain ⟨x,hx,rfl⟩:=List.mem_map.1 hr
  have:=hkd x hx
  unfold unn
  split<;>exact this
 obtain ⟨k0,k1,k2,k3,k4,k5,k6,k7⟩:=pol8 H1.out.1
 have HPl:=hdn <| rplain_any (cap:=ac) (h.r.below hb1) hs.r
 clear h hs hb1 hkd
 go_enter Tryz.func29,Tryz.ntmps29
 go_wp2_with fail
 generalize w.alloc (.cells #[.string p.name,.slice ao p.rows.length ac,.slice qo p.qs.length qc,.slice vo p.vs.length vc,.slice tto p.ts.length tc,.slice uo p.us.length uc,.slice oo p.on.length oc,.int .i64 p.miss] 29)=w1 at *
 clear k0 k1 k2 k3 k4 k5 k6 k7
 refine Calls.mono HPl.out ?_
 rintro e w2 ⟨v,rfl,hv,hb2⟩
 obtain ⟨bo,bc,rfl⟩:=own_form hv
 have HZ:Hid (IsRz w2 bo (p.rows.map unn)/\Below w1.heap.size w1 w2):=⟨rz_of_own hv (by simp),hb2⟩
 have HRs:Hid (Calls Tryz.prog 4 #[.slice bo p.rows.length bc] w2 (Told w2 (res (p.rows.map unn)))):=by
  have:=rresolve_any (cap:=bc) HZ.out.1 (by rw [List.length_map];exact H1.out.2.2.2.r) HKd.out
  rw [List.length_map] at this
  exact this
 clear hv hb2 HPl
 go_wp2_with fail
 refine Calls.mono HRs.out ?_
 rintro e w3 hT3
 obtain ⟨ao1,qo1,vo1,to1,uo1,oo1,ac1,qc1,vc1,tc1,uc1,oc1,rfl,hb3,hrd3⟩:=told_g hT3
 have HC:Hid (∀ ci,res (p.rows.map unn)=.error ci->0 < (resC (p.rows.map unn)).1):=fun ci hci=>by
  unfold resC
  rw [hci]
  exact res_pos hci
 have HO:Hid (∀ q,res (p.rows.map unn)=.ok q->(resC (p.rows.map unn)).1=0/\resP (p.rows.map unn)=q.g):=fun q hq=>by
  unfold resC resP
  rw [hq]
  exact ⟨rfl,rfl⟩
 clear hT3 HRs HKd
 generalize resP (p.rows.map unn)=P at *
 generalize resC (p.rows.map unn)=C at *
 obtain ⟨c1,c2⟩:=C
 dsimp only [pvG] at HC HO ⊢
 have hb4:Below w3.heap.size w3 ((w3.alloc (.cells #[.string P.name,.slice ao1 P.rows.length ac1,.slice qo1 P.qs.length qc1,.slice vo1 P.vs.length vc1,.slice to1 P.ts.length tc1,.slice uo1 P.us.length uc1,.slice oo1 P.on.length oc1,.int .i64 P.miss] 29)).alloc (.cells #[.int .i64 (c1:Int),.int .i64 (c2:Int)] 32)):=(bAl w3 _).alloc (by simp) _
 have hx1:((w3.alloc (.cells #[.string P.name,.slice ao1 P.rows.length ac1,.slice qo1 P.qs.length qc1,.slice vo1 P.vs.length vc1,.slice to1 P.ts.length tc1,.slice uo1 P.us.length uc1,.slice oo1 P.on.length oc1,.int .i64 P.miss] 29)).alloc (.cells #[.int .i64 (c1:Int),.int .i64 (c2:Int)] 32)).heap[w3.heap.size]?=some (.cells #[.string P.name,.slice ao1 P.rows.length ac1,.slice qo1 P.qs.length qc1,.slice vo1 P.vs.length vc1,.slice to1 P.ts.length tc1,.slice uo1 P.us.length uc1,.slice oo1 P.on.length oc1,.int .i64 P.miss] 29 (0,0)):=by rw [alloc_old _ _ _ (by simp)];exact alloc_at _ _ _ rfl
 have hx2:((w3.alloc (.cells #[.string P.name,.slice ao1 P.rows.length ac1,.slice qo1 P.qs.length qc1,.slice vo1 P.vs.length vc1,.slice to1 P.ts.length tc1,.slice uo1 P.us.length uc1,.slice oo1 P.on.length oc1,.int .i64 P.miss] 29)).alloc (.cells #[.int .i64 (c1:Int),.int .i64 (c2:Int)] 32)).heap[w3.heap.size+1]?=some (.cells #[.int .i64 (c1:Int),.int .i64 (c2:Int)] 32 (0,0)):=alloc_at _ _ _ (by simp)
 have hb13:Below w1.heap.size w1 ((w3.alloc (.cells #[.string P.name,.slice ao1 P.rows.length ac1,.slice qo1 P.qs.length qc1,.slice vo1 P.vs.length vc1,.slice to1 P.ts.length tc1,.slice uo1 P.us.length uc1,.slice oo1 P.on.length oc1,.int .i64 P.miss] 29)).alloc (.cells #[.int .i64 (c1:Int),.int .i64 (c2:Int)] 32)):=(HZ.out.2.trans (hb3.mono HZ.out.2.size)).trans (hb4.mono (by have:=HZ.out.2.size;have:=hb3.size;omega))
 have H4:Hid (Below w.heap.size w ((w3.alloc (.cells #[.string P.name,.slice ao1 P.rows.length ac1,.slice qo1 P.qs.length qc1,.slice vo1 P.vs.length vc1,.slice to1 P.ts.length tc1,.slice uo1 P.us.length uc1,.slice oo1 P.on.length oc1,.int .i64 P.miss] 29)).alloc (.cells #[.int .i64 (c1:Int),.int .i64 (c2:Int)] 32))/\RdG ((w3.alloc (.cells #[.string P.name,.slice ao1 P.rows.length ac1,.slice qo1 P.qs.length qc1,.slice vo1 P.vs.length vc1,.slice to1 P.ts.length tc1,.slice uo1 P.us.length uc1,.slice oo1 P.on.length oc1,.int .i64 P.miss] 29)).alloc (.cells #[.int .i64 (c1:Int),.int .i64 (c2:Int)] 32)) P ao1 qo1 vo1 to1 uo1 oo1/\RdG ((w3.alloc (.cells #[.string P.name,.slice ao1 P.rows.length ac1,.slice qo1 P.qs.length qc1,.slice vo1 P.vs.length vc1,.slice to1 P.ts.length tc1,.slice uo1 P.us.length uc1,.slice oo1 P.on.length oc1,.int .i64 P.miss] 29)).alloc (.cells #[.int .i64 (c1:Int),.int .i64 (c2:Int)] 32)) p ao qo vo tto uo oo):=by
  have hb:Below w.heap.size w ((w3.alloc (.cells #[.string P.name,.slice ao1 P.rows.length ac1,.slice qo1 P.qs.length qc1,.slice vo1 P.vs.length vc1,.slice to1 P.ts.length tc1,.slice uo1 P.us.length uc1,.slice oo1 P.on.length oc1,.int .i64 P.miss] 29)).alloc (.cells #[.int .i64 (c1:Int),.int .i64 (c2:Int)] 32)):=H1.out.2.1.trans (hb13.mono H1.out.2.1.size)
  exact ⟨hb,hrd3 _ (fun k _ hk=>hb4.block k hk),H1.out.2.2.1.below hb⟩
 obtain ⟨a0,a1,a2,a3,a4,a5,a6,a7⟩:=pol8 hx1
 obtain ⟨b0,b1,b2,b3,b4,b5,b6,b7⟩:=pol8 ((hb13.block _ (blk_lt H1.out.1)).trans H1.out.1)
 have f0:((w3.alloc (.cells #[.string P.name,.slice ao1 P.rows.length ac1,.slice qo1 P.qs.length qc1,.slice vo1 P.vs.length vc1,.slice to1 P.ts.length tc1,.slice uo1 P.us.length uc1,.slice oo1 P.on.length oc1,.int .i64 P.miss] 29)).alloc (.cells #[.int .i64 (c1:Int),.int .i64 (c2:Int)] 32)).cell? ⟨w3.heap.size+1,0,none⟩=some (.int .i64 (c1:Int)):=by rw [World.cell?,hx2];rfl
 clear hb3 hrd3 hb4 hx1 hx2 hb13
 cases hres:res (p.rows.map unn) with
 | error ci=>
  have hc1:=HC.out ci hres
  have hc2:((c1:Int) != 0)=true:=by simp;omega
  have HN:Hid (¬ ∃ p',res (p.rows.map unn)=.ok p'/\p'.g=p):=fun ⟨_,h,_⟩=>by rw [hres] at h;cases h
  clear hc1
  go_wp2_with fail
  go_ret
  exact ⟨Or.inr ⟨HN.out,rfl⟩,H4.out.1⟩
 | ok q=>
  obtain ⟨hc0,rfl⟩:=HO.out q hres
  have hc2:((c1:Int) != 0)=false:=by simp [hc0]
  have HRq:Hid (res (p.rows.map unn)=.ok q):=hres
  have HSm:=hdn <| rsame_any (ac:=ac) (qc:=qc) (vc:=vc) (tc:=tc) (uc:=uc) (oc:=oc) (ac2:=ac1) (qc2:=qc1) (vc2:=vc1) (tc2:=tc1) (uc2:=uc1) (oc2:=oc1) H4.out.2.2 H4.out.2.1 H1.out.2.2.2
  dsimp only [pvG] at HSm
  clear HC HO hres hc0
  go_wp2_with fail
  generalize ((w3.alloc (.cells #[.string q.g.name,.slice ao1 q.g.rows.length ac1,.slice qo1 q.g.qs.length qc1,.slice vo1 q.g.vs.length vc1,.slice to1 q.g.ts.length tc1,.slice uo1 q.g.us.length uc1,.slice oo1 q.g.on.length oc1,.int .i64 q.g.miss] 29)).alloc (.cells #[.int .i64 (c1:Int),.int .i64 (c2:Int)] 32))=w4 at *
  refine Calls.mono HSm.out ?_
  rintro e w5 ⟨⟨b,rfl,hbt⟩,hb5⟩
  have HB5:Hid (Below w.heap.size w w5):=H4.out.1.trans (hb5.mono H4.out.1.size)
  clear hb5 a0 a1 a2 a3 a4 a5 a6 a7 b0 b1 b2 b3 b4 b5 b6 b7 f0
  cases b with
  | true=>
   have HP:Hid (p=q.g):=hbt.1 rfl
   clear hbt
   go_wp2_with fail
   go_ret
   exact ⟨Or.inl ⟨q,HRq.out,HP.out.symm,rfl⟩,HB5.out⟩
  | false=>
   have HP:Hid (¬ ∃ p',res (p.rows.map unn)=.ok p'/\p'.g=p):=fun ⟨p',h,h2⟩=>by
    rw [HRq.out] at h
    cases h
    have:=hbt.2 h2.symm
    cases this
   clear hbt
   go_wp2_with fail
   go_ret
   exact ⟨Or.inr ⟨HP.out,rfl⟩,HB5.out⟩
end Go.Proofs.YthbnjhamfcefkaaGreat.Nm
