import Derived.Test.YtjhffaikodnalaaGreatK34
import Derived.Test.YtjhffaikodnalaaGreatK35
import Derived.RangeFuncNested
import Derived.RangeFuncBound
import Derived.RangeFuncCalls
import Derived.RangeFuncBox
import Derived.RangeFuncLeaves
import Derived.Shelf.Abstract
import Derived.Shelf.RegionOpen
import Derived.OwnWalkIn
import Derived.TacticsInMore
import Derived.LoopNIn
import Derived.LoopIn
import Derived.Test.YtjhffaikodnalaaGreatK21
set_option maxHeartbeats 6400000
set_option maxRecDepth 100000
namespace Go.Proofs.YtjhffaikodnalaaGreat.Nm
open Go.RowKit Go.Maps Sp Lx Gr
theorem rplain_any {w:World} {ao:Option Addr} {l:List Rz} {cap:Nat} (h:IsRz w ao l) (hl:l.length<=2932031007317):
  Calls Tryz.prog 62 #[.slice ao l.length cap] w fun e w'=>∃ v,e=.returned v/\w'.ownsRow w.heap.size 61 5 v l.length ((l.map unn).flatMap rz5)/\Below w.heap.size w w':=by
 have HI:=show Hid _ from h
 have HL:=show Hid _ from hl
 have hl2:(l.length:Int)<=2932031007317:=by omega
 obtain ⟨i0,hi,hz0,hz1,hz2⟩:=info_parts infoRw
 clear h hl
 go_enter Tryz.func62,Tryz.ntmps62
 go_wp2_with fail
 go_loopg [3,4] l.length (fun gq v x wr=>∃ k:Nat,k+gq=l.length/\x=.int .i64 (k:Int)/\wr.ownsRow w.heap.size 61 5 v k (((l.take k).map unn).flatMap rz5)/\Below w.heap.size w wr)
 case atStart=>exact ⟨0,by omega,rfl,⟨rfl,Or.inl ⟨rfl,rfl⟩⟩,Below.refl _ _⟩
 case round=>
  obtain ⟨k,hkg,rfl,hown,hbw⟩:=hrel
  obtain ⟨so,sc,rfl⟩:=own_form hown
  have HG:Hid (k+gk=l.length/\wr.ownsRow w.heap.size 61 5 (.slice so k sc) k (((l.take k).map unn).flatMap rz5)/\Below w.heap.size w wr):=⟨hkg,hown,hbw⟩
  by_cases hlt:k < l.length
  ·have hk':(k:Int) < (l.length:Int):=by omega
   have hk2:(k:Int)<=2932031007317:=by omega
   have hx:=List.getElem?_eq_getElem hlt
   obtain ⟨g,o,rfl,hgl,d0,d1,d2,d3,d4⟩:=(IsRz.below HI.out hbw) k _ hx
   have HT:Hid (l.take (k+1)=l.take k++[l[k]]):=by rw [List.take_add_one,hx];rfl
   generalize l[k]=x at *
   obtain ⟨kd,nm,st,n,ks⟩:=x
   dsimp only at *
   have HLt:Hid (k < l.length):=hlt
   clear hkg hlt hbw hown hx hgl
   by_cases h27:kd=27
   ·have h27':(kd != 27)=false:=by simp [h27]
    have HU:Hid (unn ⟨kd,nm,st,n,ks⟩=⟨kd,nm,st,n,ks⟩):=by show unn _=_;simp [unn,h27]
    clear h27
    have HOw:Hid (((wr.alloc (.cells #[.int .i64 kd,.string nm,.int .i64 st,.int .i64 n,.int .i64 ks] 61)).alloc (.cells #[.int .i64 kd,.string nm,.int .i64 st,.int .i64 n,.int .i64 ks] 61)).ownsRow w.heap.size 61 5 (.slice so k sc) k (((l.take k).map unn).flatMap rz5)/\Below w.heap.size w ((wr.alloc (.cells #[.int .i64 kd,.string nm,.int .i64 st,.int .i64 n,.int .i64 ks] 61)).alloc (.cells #[.int .i64 kd,.string nm,.int .i64 st,.int .i64 n,.int .i64 ks] 61))):=by
     have b1:Below wr.heap.size wr (wr.alloc (.cells #[.int .i64 kd,.string nm,.int .i64 st,.int .i64 n,.int .i64 ks] 61)):=(Below.refl _ wr).alloc (Nat.le_refl _) _
     have b2:Below (wr.alloc (.cells #[.int .i64 kd,.string nm,.int .i64 st,.int .i64 n,.int .i64 ks] 61)).heap.size (wr.alloc (.cells #[.int .i64 kd,.string nm,.int .i64 st,.int .i64 n,.int .i64 ks] 61)) ((wr.alloc (.cells #[.int .i64 kd,.string nm,.int .i64 st,.int .i64 n,.int .i64 ks] 61)).alloc (.cells #[.int .i64 kd,.string nm,.int .i64 st,.int .i64 n,.int .i64 ks] 61)):=(Below.refl _ _).alloc (Nat.le_refl _) _
     exact ⟨own_below (own_below HG.out.2.1 b1) b2,(HG.out.2.2.trans (b1.mono HG.out.2.2.size)).trans (b2.mono (Nat.le_trans HG.out.2.2.size b1.size))⟩
    have hsz:(wr.alloc (.cells #[.int .i64 kd,.string nm,.int .i64 st,.int .i64 n,.int .i64 ks] 61)).heap.size=wr.heap.size+1:=by simp
    go_wp2_with (at_builtin;refine append_gone _ rfl _ _ 22 rfl w.heap.size 61 i0 (.agg #[.int .i64 0,.string ⟨#[]⟩,.int .i64 0,.int .i64 0,.int .i64 0]) 5 48 Tryz.underlying22 hi hz0 hz1 hz2 rfl (by decide) (.slice so k sc) k (((l.take k).map unn).flatMap rz5) rfl HOw.out.1 ⟨wr.heap.size+1,0,none⟩ 1 1 [.int .i64 kd,.string nm,.int .i64 st,.int .i64 n,.int .i64 ks] rfl rfl ?c1 ?c2 ?c3 ?c4 ?c5 ?c6 ?_)
    case c1=>rw [<-hsz];exact cell_five (wr.alloc (.cells #[.int .i64 kd,.string nm,.int .i64 st,.int .i64 n,.int .i64 ks] 61)) _ _ _ _ _ _
    case c2=>intro u hu;simp only [List.mem_cons,List.not_mem_nil,or_false] at hu;rcases hu with rfl | rfl | rfl | rfl | rfl<;>rfl
    case c3=>have:=HL.out;have:=HLt.out;unfold maxLen;omega
    case c4=>have:=HL.out;have:=HLt.out;omega
    case c5=>exact HOw.out.2.size
    case c6=>decide
    intro v' w4 hown4 hG4
    have H4:Hid (w4.ownsRow w.heap.size 61 5 v' (k+1) (((l.take (k+1)).map unn).flatMap rz5)/\Below w.heap.size w w4):=by
     refine ⟨?_,HOw.out.2.grown hG4.1 HOw.out.2.size (fun q e=>(World.ownsRow.lt HOw.out.1 q e).1)⟩
     rw [HT.out,List.map_append,List.flatMap_append]
     simp only [List.map_cons,List.map_nil,HU.out,List.flatMap_cons,List.flatMap_nil,List.append_nil]
     rw [List.map_take]
     exact hown4
    obtain ⟨bo,bc,rfl⟩:=own_form hown4
    clear hown4 hG4
    go_wp2_with fail
    go_roundg (l.length - (k+1))
    case measure=>have:=HG.out.1;have:=HLt.out;omega
    case rel=>exact ⟨k+1,by have:=HG.out.1;have:=HLt.out;omega,by go_num,H4.out.1,H4.out.2⟩
   ·have h27':(kd != 27)=true:=by simp [h27]
    have HU:Hid (unn ⟨kd,nm,st,n,ks⟩=⟨kd,nm,st,0,ks⟩):=by show unn _=_;simp [unn,h27]
    clear h27
    have HOw:Hid (((wr.alloc (.cells #[.int .i64 kd,.string nm,.int .i64 st,.int .i64 0,.int .i64 ks] 61)).alloc (.cells #[.int .i64 kd,.string nm,.int .i64 st,.int .i64 0,.int .i64 ks] 61)).ownsRow w.heap.size 61 5 (.slice so k sc) k (((l.take k).map unn).flatMap rz5)/\Below w.heap.size w ((wr.alloc (.cells #[.int .i64 kd,.string nm,.int .i64 st,.int .i64 0,.int .i64 ks] 61)).alloc (.cells #[.int .i64 kd,.string nm,.int .i64 st,.int .i64 0,.int .i64 ks] 61))):=by
     have b1:Below wr.heap.size wr (wr.alloc (.cells #[.int .i64 kd,.string nm,.int .i64 st,.int .i64 0,.int .i64 ks] 61)):=(Below.refl _ wr).alloc (Nat.le_refl _) _
     have b2:Below (wr.alloc (.cells #[.int .i64 kd,.string nm,.int .i64 st,.int .i64 0,.int .i64 ks] 61)).heap.size (wr.alloc (.cells #[.int .i64 kd,.string nm,.int .i64 st,.int .i64 0,.int .i64 ks] 61)) ((wr.alloc (.cells #[.int .i64 kd,.string nm,.int .i64 st,.int .i64 0,.int .i64 ks] 61)).alloc (.cells #[.int .i64 kd,.string nm,.int .i64 st,.int .i64 0,.int .i64 ks] 61)):=(Below.refl _ _).alloc (Nat.le_refl _) _
     exact ⟨own_below (own_below HG.out.2.1 b1) b2,(HG.out.2.2.trans (b1.mono HG.out.2.2.size)).trans (b2.mono (Nat.le_trans HG.out.2.2.size b1.size))⟩
    have hsz:(wr.alloc (.cells #[.int .i64 kd,.string nm,.int .i64 st,.int .i64 0,.int .i64 ks] 61)).heap.size=wr.heap.size+1:=by simp
    go_wp2_with (at_builtin;refine append_gone _ rfl _ _ 22 rfl w.heap.size 61 i0 (.agg #[.int .i64 0,.string ⟨#[]⟩,.int .i64 0,.int .i64 0,.int .i64 0]) 5 48 Tryz.underlying22 hi hz0 hz1 hz2 rfl (by decide) (.slice so k sc) k (((l.take k).map unn).flatMap rz5) rfl HOw.out.1 ⟨wr.heap.size+1,0,none⟩ 1 1 [.int .i64 kd,.string nm,.int .i64 st,.int .i64 0,.int .i64 ks] rfl rfl ?c1 ?c2 ?c3 ?c4 ?c5 ?c6 ?_)
    case c1=>rw [<-hsz];exact cell_five (wr.alloc (.cells #[.int .i64 kd,.string nm,.int .i64 st,.int .i64 0,.int .i64 ks] 61)) _ _ _ _ _ _
    case c2=>intro u hu;simp only [List.mem_cons,List.not_mem_nil,or_false] at hu;rcases hu with rfl | rfl | rfl | rfl | rfl<;>rfl
    case c3=>have:=HL.out;have:=HLt.out;unfold maxLen;omega
    case c4=>have:=HL.out;have:=HLt.out;omega
    case c5=>exact HOw.out.2.size
    case c6=>decide
    intro v' w4 hown4 hG4
    have H4:Hid (w4.ownsRow w.heap.size 61 5 v' (k+1) (((l.take (k+1)).map unn).flatMap rz5)/\Below w.heap.size w w4):=by
     refine ⟨?_,HOw.out.2.grown hG4.1 HOw.out.2.size (fun q e=>(World.ownsRow.lt HOw.out.1 q e).1)⟩
     rw [HT.out,List.map_append,List.flatMap_append]
     simp only [List.map_cons,List.map_nil,HU.out,List.flatMap_cons,List.flatMap_nil,List.append_nil]
     rw [List.map_take]
     exact hown4
    obtain ⟨bo,bc,rfl⟩:=own_form hown4
    clear hown4 hG4
    go_wp2_with fail
    go_roundg (l.length - (k+1))
    case measure=>have:=HG.out.1;have:=HLt.out;omega
    case rel=>exact ⟨k+1,by have:=HG.out.1;have:=HLt.out;omega,by go_num,H4.out.1,H4.out.2⟩
  ·have hk':decide (k < l.length)=false:=decide_eq_false hlt
   have hk2:decide ((k:Int) < (l.length:Int))=false:=decide_eq_false (by omega)
   have HE:Hid (wr.ownsRow w.heap.size 61 5 (.slice so k sc) l.length ((l.map unn).flatMap rz5)):=by
    have hke:k=l.length:=by omega
    subst hke
    rw [List.take_length] at hown
    exact hown
   clear hkg hown hbw hlt
   go_wp2
   go_ret
   exact ⟨_,rfl,HE.out,HG.out.2.2⟩
def zeroG:Pg:=⟨⟨#[]⟩,[],[],[],[],[],[],0⟩
def resP (l:List Rz):Pg:=match res l with | .error _=>zeroG | .ok p=>p.g
def resC (l:List Rz):Nat × Nat:=match res l with | .error ci=>ci | .ok _=>(0,0)
theorem zero_rd (W:World):RdG W zeroG none none none none none none:=⟨fun i x hx=>by simp [zeroG] at hx,fun i x hx=>by simp [zeroG,qF] at hx,fun i x hx=>by simp [zeroG] at hx,fun i x hx=>by simp [zeroG] at hx,fun i x hx=>by simp [zeroG] at hx,fun i x hx=>by simp [zeroG] at hx⟩
theorem IsPl.all {w:World} {base:Nat} {v:Value} {p:Pl} (h:IsPl w base v p):∃ rb qo vo tto uo oo ac qc vc tc uc oc,v=pv p (some ⟨rb,0,none⟩) qo vo tto uo oo ac qc vc tc uc oc/\p.us.length<=uc/\∀ W:World,(∀ k,base<=k->k < w.heap.size->W.heap[k]?=w.heap[k]?)->Rd W p (some ⟨rb,0,none⟩) qo vo tto uo oo/\IsNats W uo p.us:=by
 obtain ⟨rb,cap,qv,vv,tv,uv,ov,rfl,hrb,hr,hq,hv,ht,hu,ho⟩:=h.ex
 obtain ⟨qo,qc,rfl⟩:=own_form hq
 obtain ⟨vo,vc,rfl⟩:=own_form hv
 obtain ⟨tto,tc,rfl⟩:=own_form ht
 obtain ⟨uo,uc,rfl⟩:=own_form hu
 obtain ⟨oo,oc,rfl⟩:=own_form ho
 refine ⟨rb,qo,vo,tto,uo,oo,cap,qc,vc,tc,uc,oc,rfl,(nats_of hu).2,fun W hW=>?_⟩
 have kp:∀ {T:TypeId} {sz n:Nat} {v':Value} {xs:List Value},w.ownsRow base T sz v' n xs->W.ownsRow base T sz v' n xs:=fun h1=>own_keepB h1 (fun k hk=>hW k (World.ownsRow.lt h1 k hk).1 (World.ownsRow.lt h1 k hk).2)
 refine ⟨⟨(hr.same (hW rb hrb hr.lt)).rz,vals_of (kp hq),vals_of (kp hv),vals_of (kp ht),?_,vals_of (kp ho)⟩,(nats_of (kp hu)).1⟩
 have:=vals_of (kp hu)
 simpa [iv,nv,List.map_map,Function.comp_def] using this
theorem rd_g {W:World} {p:Pl} {ao qo vo tto uo oo:Option Addr} (h:Rd W p ao qo vo tto uo oo):RdG W p.g ao qo vo tto uo oo:=⟨h.r,h.q,h.v,h.t,h.u,h.o⟩
theorem told_g {w w':World} {l:List Rz} {e:Ending} (h:Told w (res l) e w'):∃ ao qo vo tto uo oo ac qc vc tc uc oc,e=.returned (.tuple #[pvG (resP l) ao qo vo tto uo oo ac qc vc tc uc oc,.agg #[.int .i64 ((resC l).1:Int),.int .i64 ((resC l).2:Int)]])/\Below w.heap.size w w'/\∀ W:World,(∀ k,w.heap.size<=k->k < w'.heap.size->W.heap[k]?=w'.heap[k]?)->RdG W (resP l) ao qo vo tto uo oo:=by
 obtain ⟨hb,hm⟩:=h
 unfold resP resC
 cases hr:res l with
 | error ci=>
  rw [hr] at hm
  exact ⟨none,none,none,none,none,none,0,0,0,0,0,0,hm,hb,fun W _=>zero_rd W⟩
 | ok p=>
  rw [hr] at hm
  obtain ⟨v,he,hp⟩:=hm
  obtain ⟨rb,qo,vo,tto,uo,oo,ac,qc,vc,tc,uc,oc,rfl,_,hall⟩:=hp.all
  refine ⟨some ⟨rb,0,none⟩,qo,vo,tto,uo,oo,ac,qc,vc,tc,uc,oc,?_,hb,fun W hW=>rd_g (hall W hW).1⟩
  rw [he]
  simp [pvG,pv,Pl.g]
theorem rz_of_own {w:World} {base n c:Nat} {bo:Option Addr} {l:List Rz} (h:w.ownsRow base 61 5 (.slice bo n c) n (l.flatMap rz5)) (hl:l.length=n):IsRz w bo l:=by
 subst hl
 cases l with
 | nil=>exact fun i x hx=>by simp at hx
 | cons x l=>
  obtain ⟨g,cap,cur,e,_⟩:=own_block h (by simp)
  cases e
  exact (rw_of_own h).rz
theorem rcheck_any {w:World} {p:Pg} {ao qo vo tto uo oo:Option Addr} {ac qc vc tc uc oc:Nat} (h:RdG w p ao qo vo tto uo oo) (hs:p.Sm) (hkd:∀ r ∈ p.rows,r.kids<=9223372036854775807/\r.name.size<=4611686018427387000):
  Calls Tryz.prog 33 #[pvG p ao qo vo tto uo oo ac qc vc tc uc oc] w fun e w'=>((∃ p',res (p.rows.map unn)=.ok p'/\p'.g=p/\e=.returned (.int .i64 0))\/((¬ ∃ p',res (p.rows.map unn)=.ok p'/\p'.g=p)/\e=.returned (.int .i64 23)))/\Below w.heap.size w w':=by
 dsimp only [pvG]
 have hb1:Below w.heap.size w (w.alloc (.cells #[.string p.name,.slice ao p.rows.length ac,.slice qo p.qs.length qc,.slice vo p.vs.length vc,.slice tto p.ts.length tc,.slice uo p.us.length uc,.slice oo p.on.length oc,.int .i64 p.miss] 27)):=(Below.refl _ w).alloc (Nat.le_refl _) _
 have H1:Hid ((w.alloc (.cells #[.string p.name,.slice ao p.rows.length ac,.slice qo p.qs.length qc,.slice vo p.vs.length vc,.slice tto p.ts.length tc,.slice uo p.us.length uc,.slice oo p.on.length oc,.int .i64 p.miss] 27)).heap[w.heap.size]?=some (.cells #[.string p.name,.slice ao p.rows.length ac,.slice qo p.qs.length qc,.slice vo p.vs.length vc,.slice tto p.ts.length tc,.slice uo p.us.length uc,.slice oo p.on.length oc,.int .i64 p.miss] 27 (0,0))/\Below w.heap.size w (w.alloc (.cells #[.string p.name,.slice ao p.rows.length ac,.slice qo p.qs.length qc,.slice vo p.vs.length vc,.slice tto p.ts.length tc,.slice uo p.us.length uc,.slice oo p.on.length oc,.int .i64 p.miss] 27))/\RdG w p ao qo vo tto uo oo/\p.Sm):=⟨heap_alloc_new w _,hb1,h,hs⟩
 have HKd:Hid (∀ r ∈ p.rows.map unn,r.kids<=9223372036854775807/\r.name.size<=4611686018427387000):=fun r hr=>by
  obtain ⟨x,hx,rfl⟩:=List.mem_map.1 hr
  have:=hkd x hx
  unfold unn
  split<;>exact this
 obtain ⟨k0,k1,k2,k3,k4,k5,k6,k7⟩:=pol8 H1.out.1
 have HPl:=show Hid _ from rplain_any (cap:=ac) (h.r.below hb1) hs.r
 clear h hs hb1 hkd
 go_enter Tryz.func33,Tryz.ntmps33
 go_wp2_with fail
 generalize w.alloc (.cells #[.string p.name,.slice ao p.rows.length ac,.slice qo p.qs.length qc,.slice vo p.vs.length vc,.slice tto p.ts.length tc,.slice uo p.us.length uc,.slice oo p.on.length oc,.int .i64 p.miss] 27)=w1 at *
 clear k0 k1 k2 k3 k4 k5 k6 k7
 refine Calls.mono HPl.out ?_
 rintro e w2 ⟨v,rfl,hv,hb2⟩
 obtain ⟨bo,bc,rfl⟩:=own_form hv
 have HZ:Hid (IsRz w2 bo (p.rows.map unn)/\Below w1.heap.size w1 w2):=⟨rz_of_own hv (by simp),hb2⟩
 have HRs:Hid (Calls Tryz.prog 61 #[.slice bo p.rows.length bc] w2 (Told w2 (res (p.rows.map unn)))):=by
  have:=rresolve_any (cap:=bc) HZ.out.1 (by rw [List.length_map];exact H1.out.2.2.2.r) HKd.out
  rw [List.length_map] at this
  exact this
 clear hv hb2 HPl
 go_wp2_with fail
 refine Calls.mono HRs.out ?_
 rintro e w3 hT3
 obtain ⟨ao1,qo1,vo1,to1,uo1,oo1,ac1,qc1,vc1,tc1,uc1,oc1,rfl,hb3,hrd3⟩:=told_g hT3
 have HC:Hid (∀ ci,res (p.rows.map unn)=.error ci->0 < (resC (p.rows.map unn)).1):=fun ci hci=>by
  unfold resC
  rw [hci]
  exact res_pos hci
 have HO:Hid (∀ q,res (p.rows.map unn)=.ok q->(resC (p.rows.map unn)).1=0/\resP (p.rows.map unn)=q.g):=fun q hq=>by
  unfold resC resP
  rw [hq]
  exact ⟨rfl,rfl⟩
 clear hT3 HRs HKd
 generalize resP (p.rows.map unn)=P at *
 generalize resC (p.rows.map unn)=C at *
 obtain ⟨c1,c2⟩:=C
 dsimp only [pvG] at HC HO ⊢
 have hb4:Below w3.heap.size w3 ((w3.alloc (.cells #[.string P.name,.slice ao1 P.rows.length ac1,.slice qo1 P.qs.length qc1,.slice vo1 P.vs.length vc1,.slice to1 P.ts.length tc1,.slice uo1 P.us.length uc1,.slice oo1 P.on.length oc1,.int .i64 P.miss] 27)).alloc (.cells #[.int .i64 (c1:Int),.int .i64 (c2:Int)] 32)):=((Below.refl _ w3).alloc (Nat.le_refl _) _).alloc (by simp) _
 have hx1:((w3.alloc (.cells #[.string P.name,.slice ao1 P.rows.length ac1,.slice qo1 P.qs.length qc1,.slice vo1 P.vs.length vc1,.slice to1 P.ts.length tc1,.slice uo1 P.us.length uc1,.slice oo1 P.on.length oc1,.int .i64 P.miss] 27)).alloc (.cells #[.int .i64 (c1:Int),.int .i64 (c2:Int)] 32)).heap[w3.heap.size]?=some (.cells #[.string P.name,.slice ao1 P.rows.length ac1,.slice qo1 P.qs.length qc1,.slice vo1 P.vs.length vc1,.slice to1 P.ts.length tc1,.slice uo1 P.us.length uc1,.slice oo1 P.on.length oc1,.int .i64 P.miss] 27 (0,0)):=by rw [alloc_old _ _ _ (by simp)];exact alloc_at _ _ _ rfl
 have hx2:((w3.alloc (.cells #[.string P.name,.slice ao1 P.rows.length ac1,.slice qo1 P.qs.length qc1,.slice vo1 P.vs.length vc1,.slice to1 P.ts.length tc1,.slice uo1 P.us.length uc1,.slice oo1 P.on.length oc1,.int .i64 P.miss] 27)).alloc (.cells #[.int .i64 (c1:Int),.int .i64 (c2:Int)] 32)).heap[w3.heap.size+1]?=some (.cells #[.int .i64 (c1:Int),.int .i64 (c2:Int)] 32 (0,0)):=alloc_at _ _ _ (by simp)
 have hb13:Below w1.heap.size w1 ((w3.alloc (.cells #[.string P.name,.slice ao1 P.rows.length ac1,.slice qo1 P.qs.length qc1,.slice vo1 P.vs.length vc1,.slice to1 P.ts.length tc1,.slice uo1 P.us.length uc1,.slice oo1 P.on.length oc1,.int .i64 P.miss] 27)).alloc (.cells #[.int .i64 (c1:Int),.int .i64 (c2:Int)] 32)):=(HZ.out.2.trans (hb3.mono HZ.out.2.size)).trans (hb4.mono (by have:=HZ.out.2.size;have:=hb3.size;omega))
 have H4:Hid (Below w.heap.size w ((w3.alloc (.cells #[.string P.name,.slice ao1 P.rows.length ac1,.slice qo1 P.qs.length qc1,.slice vo1 P.vs.length vc1,.slice to1 P.ts.length tc1,.slice uo1 P.us.length uc1,.slice oo1 P.on.length oc1,.int .i64 P.miss] 27)).alloc (.cells #[.int .i64 (c1:Int),.int .i64 (c2:Int)] 32))/\RdG ((w3.alloc (.cells #[.string P.name,.slice ao1 P.rows.length ac1,.slice qo1 P.qs.length qc1,.slice vo1 P.vs.length vc1,.slice to1 P.ts.length tc1,.slice uo1 P.us.length uc1,.slice oo1 P.on.length oc1,.int .i64 P.miss] 27)).alloc (.cells #[.int .i64 (c1:Int),.int .i64 (c2:Int)] 32)) P ao1 qo1 vo1 to1 uo1 oo1/\RdG ((w3.alloc (.cells #[.string P.name,.slice ao1 P.rows.length ac1,.slice qo1 P.qs.length qc1,.slice vo1 P.vs.length vc1,.slice to1 P.ts.length tc1,.slice uo1 P.us.length uc1,.slice oo1 P.on.length oc1,.int .i64 P.miss] 27)).alloc (.cells #[.int .i64 (c1:Int),.int .i64 (c2:Int)] 32)) p ao qo vo tto uo oo):=by
  have hb:Below w.heap.size w ((w3.alloc (.cells #[.string P.name,.slice ao1 P.rows.length ac1,.slice qo1 P.qs.length qc1,.slice vo1 P.vs.length vc1,.slice to1 P.ts.length tc1,.slice uo1 P.us.length uc1,.slice oo1 P.on.length oc1,.int .i64 P.miss] 27)).alloc (.cells #[.int .i64 (c1:Int),.int .i64 (c2:Int)] 32)):=H1.out.2.1.trans (hb13.mono H1.out.2.1.size)
  exact ⟨hb,hrd3 _ (fun k _ hk=>hb4.block k hk),H1.out.2.2.1.below hb⟩
 obtain ⟨a0,a1,a2,a3,a4,a5,a6,a7⟩:=pol8 hx1
 obtain ⟨b0,b1,b2,b3,b4,b5,b6,b7⟩:=pol8 ((hb13.block _ (blk_lt H1.out.1)).trans H1.out.1)
 have f0:((w3.alloc (.cells #[.string P.name,.slice ao1 P.rows.length ac1,.slice qo1 P.qs.length qc1,.slice vo1 P.vs.length vc1,.slice to1 P.ts.length tc1,.slice uo1 P.us.length uc1,.slice oo1 P.on.length oc1,.int .i64 P.miss] 27)).alloc (.cells #[.int .i64 (c1:Int),.int .i64 (c2:Int)] 32)).cell? ⟨w3.heap.size+1,0,none⟩=some (.int .i64 (c1:Int)):=by rw [World.cell?,hx2];rfl
 clear hb3 hrd3 hb4 hx1 hx2 hb13
 cases hres:res (p.rows.map unn) with
 | error ci=>
  have hc1:=HC.out ci hres
  have hc2:((c1:Int) != 0)=true:=by simp;omega
  have HN:Hid (¬ ∃ p',res (p.rows.map unn)=.ok p'/\p'.g=p):=fun ⟨_,h,_⟩=>by rw [hres] at h;cases h
  clear hc1
  go_wp2_with fail
  go_ret
  exact ⟨Or.inr ⟨HN.out,rfl⟩,H4.out.1⟩
 | ok q=>
  obtain ⟨hc0,rfl⟩:=HO.out q hres
  have hc2:((c1:Int) != 0)=false:=by simp [hc0]
  have HRq:Hid (res (p.rows.map unn)=.ok q):=hres
  have HSm:=show Hid _ from rsame_any (ac:=ac) (qc:=qc) (vc:=vc) (tc:=tc) (uc:=uc) (oc:=oc) (ac2:=ac1) (qc2:=qc1) (vc2:=vc1) (tc2:=tc1) (uc2:=uc1) (oc2:=oc1) H4.out.2.2 H4.out.2.1 H1.out.2.2.2
  dsimp only [pvG] at HSm
  clear HC HO hres hc0
  go_wp2_with fail
  generalize ((w3.alloc (.cells #[.string q.g.name,.slice ao1 q.g.rows.length ac1,.slice qo1 q.g.qs.length qc1,.slice vo1 q.g.vs.length vc1,.slice to1 q.g.ts.length tc1,.slice uo1 q.g.us.length uc1,.slice oo1 q.g.on.length oc1,.int .i64 q.g.miss] 27)).alloc (.cells #[.int .i64 (c1:Int),.int .i64 (c2:Int)] 32))=w4 at *
  refine Calls.mono HSm.out ?_
  rintro e w5 ⟨⟨b,rfl,hbt⟩,hb5⟩
  have HB5:Hid (Below w.heap.size w w5):=H4.out.1.trans (hb5.mono H4.out.1.size)
  clear hb5 a0 a1 a2 a3 a4 a5 a6 a7 b0 b1 b2 b3 b4 b5 b6 b7 f0
  cases b with
  | true=>
   have HP:Hid (p=q.g):=hbt.1 rfl
   clear hbt
   go_wp2_with fail
   go_ret
   exact ⟨Or.inl ⟨q,HRq.out,HP.out.symm,rfl⟩,HB5.out⟩
  | false=>
   have HP:Hid (¬ ∃ p',res (p.rows.map unn)=.ok p'/\p'.g=p):=fun ⟨p',h,h2⟩=>by
    rw [HRq.out] at h
    cases h
    have:=hbt.2 h2.symm
    cases this
   clear hbt
   go_wp2_with fail
   go_ret
   exact ⟨Or.inr ⟨HP.out,rfl⟩,HB5.out⟩
end Go.Proofs.YtjhffaikodnalaaGreat.Nm
namespace Go.Proofs.YtjhffaikodnalaaGreat.Nm.Ty
open Go.RowKit Go.Shelf Sp Lx Gr
attribute [local go_sem] Oper.semAt_some
theorem pback_in (F:Fence) (n:Nat) (h8:F.fn 112) (hro:F.round=none) (hn:1<=n) (l Bs b bo cap:Nat) (f:Nat->Value) (N:Nat) (hreach:N<=2932031007317) (J Jx:List Nat->World->Prop)
  (hY:∀ pre x W,J pre W->pre.length < N->YieldAt F (n - 1) Tryz.prog l #[.int .i64 ((x % N:Nat):Int),f (x % N)] W fun e W'=>
   (e=.returned (.bool true)/\J (pre++[x]) W'/\Kq [Bs,b] W W')\/(e=.returned (.bool false)/\Jx (pre++[x]) W'))
  (W:World) (hBs:W.cell? ⟨Bs,0,none⟩=some (.slice (some ⟨b,bo,none⟩) N cap)) (hc:IsVals W (some ⟨b,bo,none⟩) (fL N f)) (h0:J [] W):
  CallsIn F n Tryz.prog 112 #[.func (.yield l) #[] #[],.pointer (some ⟨Bs,0,none⟩)] W fun e W'=>(∃ v,e=.returned v) /\
   ((∃ ys,ys=dnto N N/\J ys W')\/(∃ pre,(∃ k,k<=N/\pre=dnto N k)/\Jx pre W')):=by
 have hrc:(N:Int)<=2932031007317:=by omega
 refine callsIn_of_wp Tryz.func112 rfl h8 ?_ hro
 simp only [Tryz.ntmps112,List.size_toArray,List.length_cons,List.length_nil,Nat.reduceAdd,Nat.reduceSub,Array.replicate_succ,Array.replicate_zero,List.push_toArray,List.append_toArray,List.nil_append,List.cons_append]
 gi_wp2
 gi_loopw [3] (fun i wr=>∃ k:Nat,k<=N/\i=.int .i64 ((N:Int) - 1 - k)/\J (dnto N k) wr/\Kq [Bs,b] W wr)
  (fun i _=>(intOf i+1).toNat)
 case atStart=>exact ⟨0,Nat.zero_le _,by simp,h0,Kq.refl _ _⟩
 case round=>
  obtain ⟨k,hk,rfl,hJs,hnx⟩:=hrel
  have hcs:wr.cell? ⟨Bs,0,none⟩=some (.slice (some ⟨b,bo,none⟩) N cap):=(World.cell?_of_block (a:=⟨Bs,0,none⟩) (hnx.2 Bs (by simp))).trans hBs
  by_cases hlt:k < N
  ·obtain ⟨pk,hpk⟩:∃ pk,pk=N - 1 - k:=⟨_,rfl⟩
   have hi:(N:Int) - 1 - (k:Int)=(pk:Int):=by omega
   rw [hi]
   have hpl:pk < N:=by omega
   have hpl':(pk:Int) < (N:Int):=by omega
   have hJn:dnto N (k+1)=dnto N k++[pk]:=by rw [dnto_succ,<-hpk]
   obtain ⟨fn,tmps,assign,body,hy,hR⟩:=hY _ pk wr hJs (by rw [dnto_length];exact hlt)
   rw [Nat.mod_eq_of_lt hpl] at hy
   obtain ⟨g,o,e,_,c0⟩:=hc pk _ (fL_at hpl)
   cases e
   have d0:wr.cell? ⟨b,bo+pk,none⟩=some (f pk):=(World.cell?_of_block (a:=⟨b,bo+pk,none⟩) (hnx.2 b (by simp))).trans c0
   clear c0 hpk
   generalize f pk=r at *
   gi_wp2
   refine hR.mono ?_
   rintro e W3 (⟨rfl,hJ3,hk3⟩ | ⟨rfl,hJx3⟩)
   ·gi_wp2
    go_roundw
    case rel=>exact ⟨k+1,by omega,by simp;omega,by rw [hJn];exact hJ3,hnx.trans hk3⟩
    case measure=>simp [intOf]
   ·gi_wp2
    refine bodyPost_ret (results_none rfl _ _ _) rfl ?_
    exact ⟨⟨_,rfl⟩,.inr ⟨_,⟨k+1,by omega,hJn.symm⟩,hJx3⟩⟩
  ·have hkN:k=N:=by omega
   have hi:(N:Int) - 1 - (k:Int)=-1:=by omega
   rw [hi]
   rw [hkN] at hJs
   gi_wp2
   go_end0
   exact ⟨⟨_,rfl⟩,.inl ⟨_,rfl,hJs⟩⟩
theorem pbackward_any (a:Option Addr) (len cap:Nat) (w:World):
  Calls Tryz.prog 72 #[.slice a len cap] w fun e w'=>e=.returned (.func (.func 112) #[] #[.pointer (some ⟨w.heap.size,0,none⟩)])/\w'=w.alloc (.cells #[.slice a len cap] 63):=by
 have hmf:∀ (fn:Fn) (first cap:Array Value) (w:World),(Instr.makeFunc fn first cap).run Tryz.prog w=.ok (.func fn first cap) w:=fun _ _ _ _=>rfl
 go_enter Tryz.func72,Tryz.ntmps72
 go_wp2
 go_ret
 exact ⟨rfl,rfl⟩
theorem pback_stops (F:Fence) (n:Nat) (h8:F.fn 112) (hro:F.round=none) (hn:1<=n) (Bs b bo cap:Nat) (f:Nat->Value) (N:Nat) (hreach:N<=2932031007317) (w:World) (hBs:Bs < w.heap.size)
  (hc:w.cell? ⟨Bs,0,none⟩=some (.slice (some ⟨b,bo,none⟩) N cap)) (hI:IsVals w (some ⟨b,bo,none⟩) (fL N f)):
  SeqStopsK F n Tryz.prog 112 #[.pointer (some ⟨Bs,0,none⟩)] (fun x:Nat=>#[Value.int .i64 ((x % N:Nat):Int),f (x % N)]) (Kq [Bs,b]) (fun ys=>ys=dnto N N)
   (fun pre=>∃ k,k<=N/\pre=dnto N k) N w:=fun l J Jx W hW _ _ hY h0=>
 pback_in F n h8 hro hn l Bs b bo cap f N hreach J Jx hY W ((hW.cell (p:=⟨Bs,0,none⟩) hBs).trans hc) (IsVals.below hI hW) h0
end Go.Proofs.YtjhffaikodnalaaGreat.Nm.Ty
