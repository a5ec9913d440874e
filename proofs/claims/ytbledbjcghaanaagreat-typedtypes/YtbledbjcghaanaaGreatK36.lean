import Derived.Test.YtbledbjcghaanaaGreatTk
import Derived.Test.YtbledbjcghaanaaGreatK34
import Derived.Test.YtbledbjcghaanaaGreatK35
import Derived.Test.YtbledbjcghaanaaGreatK22
import Derived.Test.YtbledbjcghaanaaGreatK25
set_option maxHeartbeats 25600000
set_option maxRecDepth 100000
namespace Go.Proofs.YtbledbjcghaanaaGreat.Nm
open Go.RowKit Go.Maps Sp Lx Gr
theorem rplain_any {w:World} {ao:Option Addr} {l:List Rz} {cap:Nat} (h:IsRz w ao l) (hl:l.length<=2932031007317):
  Calls Tryz.prog 62 #[.slice ao l.length cap] w fun e w'=>∃ v,e=.returned v/\w'.ownsRow w.heap.size 61 5 v l.length ((l.map unn).flatMap rz5)/\Below w.heap.size w w':=by
 have HI:=hdn <| h
 have HL:=hdn <| hl
 have hl2:(l.length:Int)<=2932031007317:=by omega
 obtain ⟨i0,hi,hz0,hz1,hz2⟩:=info_parts infoRw
 clear h hl
 go_enter Tryz.func62,Tryz.ntmps62
 go_wp2_with fail
 go_loopg [3,4] l.length (fun gq v x wr=>∃ k:Nat,k+gq=l.length/\x=.int .i64 (k:Int)/\wr.ownsRow w.heap.size 61 5 v k (((l.take k).map unn).flatMap rz5)/\Below w.heap.size w wr)
 case atStart=>exact ⟨0,by omega,rfl,⟨rfl,Or.inl ⟨rfl,rfl⟩⟩,Below.refl _ _⟩
 case round=>
  obtain ⟨k,hkg,rfl,hown,hbw⟩:=hrel
  obtain ⟨so,sc,rfl⟩:=own_form hown
  have HG:Hid (k+gk=l.length/\wr.ownsRow w.heap.size 61 5 (.slice so k sc) k (((l.take k).map unn).flatMap rz5)/\Below w.heap.size w wr):=⟨hkg,hown,hbw⟩
  by_cases hlt:k < l.length
  ·have hk':(k:Int) < (l.length:Int):=by omega
   have hk2:(k:Int)<=2932031007317:=by omega
   have hx:=List.getElem?_eq_getElem hlt
   obtain ⟨g,o,rfl,hgl,d0,d1,d2,d3,d4⟩:=(IsRz.below HI.out hbw) k _ hx
   have HT:Hid (l.take (k+1)=l.take k++[l[k]]):=by rw [List.take_add_one,hx];rfl
   generalize l[k]=x at *
   obtain ⟨kd,nm,st,n,ks⟩:=x
   dsimp only at *
   have HLt:Hid (k < l.length):=hlt
   clear hkg hlt hbw hown hx hgl
   by_cases h27:kd=27
   rotate_right
   focus
    have h27':(kd != 27)=true:=by simp [h27]
    have HU:Hid (unn ⟨kd,nm,st,n,ks⟩=⟨kd,nm,st,0,ks⟩):=by show unn _=_;simp [unn,h27]
    clear h27
    have HOw:Hid (((wr.alloc (.cells #[.int .i64 kd,.string nm,.int .i64 st,.int .i64 0,.int .i64 ks] 61)).alloc (.cells #[.int .i64 kd,.string nm,.int .i64 st,.int .i64 0,.int .i64 ks] 61)).ownsRow w.heap.size 61 5 (.slice so k sc) k (((l.take k).map unn).flatMap rz5)/\Below w.heap.size w ((wr.alloc (.cells #[.int .i64 kd,.string nm,.int .i64 st,.int .i64 0,.int .i64 ks] 61)).alloc (.cells #[.int .i64 kd,.string nm,.int .i64 st,.int .i64 0,.int .i64 ks] 61))):=by
     have b1:Below wr.heap.size wr (wr.alloc (.cells #[.int .i64 kd,.string nm,.int .i64 st,.int .i64 0,.int .i64 ks] 61)):=bAl wr _
     have b2:Below (wr.alloc (.cells #[.int .i64 kd,.string nm,.int .i64 st,.int .i64 0,.int .i64 ks] 61)).heap.size (wr.alloc (.cells #[.int .i64 kd,.string nm,.int .i64 st,.int .i64 0,.int .i64 ks] 61)) ((wr.alloc (.cells #[.int .i64 kd,.string nm,.int .i64 st,.int .i64 0,.int .i64 ks] 61)).alloc (.cells #[.int .i64 kd,.string nm,.int .i64 st,.int .i64 0,.int .i64 ks] 61)):=bAl _ _
     exact ⟨own_below (own_below HG.out.2.1 b1) b2,(HG.out.2.2.trans (b1.mono HG.out.2.2.size)).trans (b2.mono (Nat.le_trans HG.out.2.2.size b1.size))⟩
    have hsz:(wr.alloc (.cells #[.int .i64 kd,.string nm,.int .i64 st,.int .i64 0,.int .i64 ks] 61)).heap.size=wr.heap.size+1:=by simp
    go_wp2_with (at_builtin;refine append_gone _ rfl _ _ 22 rfl w.heap.size 61 i0 (.agg #[.int .i64 0,.string ⟨#[]⟩,.int .i64 0,.int .i64 0,.int .i64 0]) 5 48 Tryz.underlying22 hi hz0 hz1 hz2 rfl (by decide) (.slice so k sc) k (((l.take k).map unn).flatMap rz5) rfl HOw.out.1 ⟨wr.heap.size+1,0,none⟩ 1 1 [.int .i64 kd,.string nm,.int .i64 st,.int .i64 0,.int .i64 ks] rfl rfl ?c1 ?c2 ?c3 ?c4 ?c5 ?c6 ?_)
    case c1=>rw [<-hsz];exact cell_five (wr.alloc (.cells #[.int .i64 kd,.string nm,.int .i64 st,.int .i64 0,.int .i64 ks] 61)) _ _ _ _ _ _
    case c2=>intro u hu;simp only [List.mem_cons,List.not_mem_nil,or_false] at hu;rcases hu with rfl | rfl | rfl | rfl | rfl<;>rfl
    case c3=>have:=HL.out;have:=HLt.out;unfold maxLen;omega
    case c4=>have:=HL.out;have:=HLt.out;omega
    case c5=>exact HOw.out.2.size
    case c6=>decide
   rotate_right
   focus
    have h27':(kd != 27)=false:=by simp [h27]
    have HU:Hid (unn ⟨kd,nm,st,n,ks⟩=⟨kd,nm,st,n,ks⟩):=by show unn _=_;simp [unn,h27]
    clear h27
    have HOw:Hid (((wr.alloc (.cells #[.int .i64 kd,.string nm,.int .i64 st,.int .i64 n,.int .i64 ks] 61)).alloc (.cells #[.int .i64 kd,.string nm,.int .i64 st,.int .i64 n,.int .i64 ks] 61)).ownsRow w.heap.size 61 5 (.slice so k sc) k (((l.take k).map unn).flatMap rz5)/\Below w.heap.size w ((wr.alloc (.cells #[.int .i64 kd,.string nm,.int .i64 st,.int .i64 n,.int .i64 ks] 61)).alloc (.cells #[.int .i64 kd,.string nm,.int .i64 st,.int .i64 n,.int .i64 ks] 61))):=by
     have b1:Below wr.heap.size wr (wr.alloc (.cells #[.int .i64 kd,.string nm,.int .i64 st,.int .i64 n,.int .i64 ks] 61)):=bAl wr _
     have b2:Below (wr.alloc (.cells #[.int .i64 kd,.string nm,.int .i64 st,.int .i64 n,.int .i64 ks] 61)).heap.size (wr.alloc (.cells #[.int .i64 kd,.string nm,.int .i64 st,.int .i64 n,.int .i64 ks] 61)) ((wr.alloc (.cells #[.int .i64 kd,.string nm,.int .i64 st,.int .i64 n,.int .i64 ks] 61)).alloc (.cells #[.int .i64 kd,.string nm,.int .i64 st,.int .i64 n,.int .i64 ks] 61)):=bAl _ _
     exact ⟨own_below (own_below HG.out.2.1 b1) b2,(HG.out.2.2.trans (b1.mono HG.out.2.2.size)).trans (b2.mono (Nat.le_trans HG.out.2.2.size b1.size))⟩
    have hsz:(wr.alloc (.cells #[.int .i64 kd,.string nm,.int .i64 st,.int .i64 n,.int .i64 ks] 61)).heap.size=wr.heap.size+1:=by simp
    go_wp2_with (at_builtin;refine append_gone _ rfl _ _ 22 rfl w.heap.size 61 i0 (.agg #[.int .i64 0,.string ⟨#[]⟩,.int .i64 0,.int .i64 0,.int .i64 0]) 5 48 Tryz.underlying22 hi hz0 hz1 hz2 rfl (by decide) (.slice so k sc) k (((l.take k).map unn).flatMap rz5) rfl HOw.out.1 ⟨wr.heap.size+1,0,none⟩ 1 1 [.int .i64 kd,.string nm,.int .i64 st,.int .i64 n,.int .i64 ks] rfl rfl ?c1 ?c2 ?c3 ?c4 ?c5 ?c6 ?_)
    case c1=>rw [<-hsz];exact cell_five (wr.alloc (.cells #[.int .i64 kd,.string nm,.int .i64 st,.int .i64 n,.int .i64 ks] 61)) _ _ _ _ _ _
    case c2=>intro u hu;simp only [List.mem_cons,List.not_mem_nil,or_false] at hu;rcases hu with rfl | rfl | rfl | rfl | rfl<;>rfl
    case c3=>have:=HL.out;have:=HLt.out;unfold maxLen;omega
    case c4=>have:=HL.out;have:=HLt.out;omega
    case c5=>exact HOw.out.2.size
    case c6=>decide
   all_goals
    intro v' w4 hown4 hG4
    have H4:Hid (w4.ownsRow w.heap.size 61 5 v' (k+1) (((l.take (k+1)).map unn).flatMap rz5)/\Below w.heap.size w w4):=by
     refine ⟨?_,HOw.out.2.grown hG4.1 HOw.out.2.size (fun q e=>(World.ownsRow.lt HOw.out.1 q e).1)⟩
     rw [HT.out,List.map_append,List.flatMap_append]
     simp only [List.map_cons,List.map_nil,HU.out,List.flatMap_cons,List.flatMap_nil,List.append_nil]
     rw [List.map_take]
     exact hown4
    obtain ⟨bo,bc,rfl⟩:=own_form hown4
    clear hown4 hG4
    go_wp2_with fail
    go_roundg (l.length - (k+1))
    case measure=>have:=HG.out.1;have:=HLt.out;omega
    case rel=>exact ⟨k+1,by have:=HG.out.1;have:=HLt.out;omega,by go_num,H4.out.1,H4.out.2⟩
  ·have hk':decide (k < l.length)=false:=decide_eq_false hlt
   have hk2:decide ((k:Int) < (l.length:Int))=false:=decide_eq_false (by omega)
   have HE:Hid (wr.ownsRow w.heap.size 61 5 (.slice so k sc) l.length ((l.map unn).flatMap rz5)):=by
    have hke:k=l.length:=by omega
    subst hke
    rw [List.take_length] at hown
    exact hown
   clear hkg hown hbw hlt
   go_wp2
   go_ret
   exact ⟨_,rfl,HE.out,HG.out.2.2⟩
def zeroG:Pg:=⟨⟨#[]⟩,[],[],[],[],[],[],0⟩
def resP (l:List Rz):Pg:=match res l with | .error _=>zeroG | .ok p=>p.g
def resC (l:List Rz):Nat × Nat:=match res l with | .error ci=>ci | .ok _=>(0,0)
theorem zero_rd (W:World):RdG W zeroG none none none none none none:=⟨fun i x hx=>by simp [zeroG] at hx,fun i x hx=>by simp [zeroG,qF] at hx,fun i x hx=>by simp [zeroG] at hx,fun i x hx=>by simp [zeroG] at hx,fun i x hx=>by simp [zeroG] at hx,fun i x hx=>by simp [zeroG] at hx⟩
theorem IsPl.all {w:World} {base:Nat} {v:Value} {p:Pl} (h:IsPl w base v p):∃ rb qo vo tto uo oo ac qc vc tc uc oc,v=pv p (some ⟨rb,0,none⟩) qo vo tto uo oo ac qc vc tc uc oc/\p.us.length<=uc/\∀ W:World,(∀ k,base<=k->k < w.heap.size->W.heap[k]?=w.heap[k]?)->Rd W p (some ⟨rb,0,none⟩) qo vo tto uo oo/\IsNats W uo p.us:=by
 obtain ⟨rb,cap,qv,vv,tv,uv,ov,rfl,hrb,hr,hq,hv,ht,hu,ho⟩:=h.ex
 obtain ⟨qo,qc,rfl⟩:=own_form hq
 obtain ⟨vo,vc,rfl⟩:=own_form hv
 obtain ⟨tto,tc,rfl⟩:=own_form ht
 obtain ⟨uo,uc,rfl⟩:=own_form hu
 obtain ⟨oo,oc,rfl⟩:=own_form ho
 refine ⟨rb,qo,vo,tto,uo,oo,cap,qc,vc,tc,uc,oc,rfl,(nats_of hu).2,fun W hW=>?_⟩
 have kp:∀ {T:TypeId} {sz n:Nat} {v':Value} {xs:List Value},w.ownsRow base T sz v' n xs->W.ownsRow base T sz v' n xs:=fun h1=>own_keepB h1 (fun k hk=>hW k (World.ownsRow.lt h1 k hk).1 (World.ownsRow.lt h1 k hk).2)
 refine ⟨⟨(hr.same (hW rb hrb hr.lt)).rz,vals_of (kp hq),vals_of (kp hv),vals_of (kp ht),?_,vals_of (kp ho)⟩,(nats_of (kp hu)).1⟩
 have:=vals_of (kp hu)
 simpa [iv,nv,List.map_map,Function.comp_def] using this
theorem rd_g {W:World} {p:Pl} {ao qo vo tto uo oo:Option Addr} (h:Rd W p ao qo vo tto uo oo):RdG W p.g ao qo vo tto uo oo:=⟨h.r,h.q,h.v,h.t,h.u,h.o⟩
theorem told_g {w w':World} {l:List Rz} {e:Ending} (h:Told w (res l) e w'):∃ ao qo vo tto uo oo ac qc vc tc uc oc,e=.returned (.tuple #[pvG (resP l) ao qo vo tto uo oo ac qc vc tc uc oc,.agg #[.int .i64 ((resC l).1:Int),.int .i64 ((resC l).2:Int)]])/\Below w.heap.size w w'/\∀ W:World,(∀ k,w.heap.size<=k->k < w'.heap.size->W.heap[k]?=w'.heap[k]?)->RdG W (resP l) ao qo vo tto uo oo:=by
 obtain ⟨hb,hm⟩:=h
 unfold resP resC
 cases hr:res l with
 | error ci=>
  rw [hr] at hm
  exact ⟨none,none,none,none,none,none,0,0,0,0,0,0,hm,hb,fun W _=>zero_rd W⟩
 | ok p=>
  rw [hr] at hm
  obtain ⟨v,he,hp⟩:=hm
  obtain ⟨rb,qo,vo,tto,uo,oo,ac,qc,vc,tc,uc,oc,rfl,_,hall⟩:=hp.all
  refine ⟨some ⟨rb,0,none⟩,qo,vo,tto,uo,oo,ac,qc,vc,tc,uc,oc,?_,hb,fun W hW=>rd_g (hall W hW).1⟩
  rw [he]
  simp [pvG,pv,Pl.g]
theorem rz_of_own {w:World} {base n c:Nat} {bo:Option Addr} {l:List Rz} (h:w.ownsRow base 61 5 (.slice bo n c) n (l.flatMap rz5)) (hl:l.length=n):IsRz w bo l:=by
 subst hl
 cases l with
 | nil=>exact fun i x hx=>by simp at hx
 | cons x l=>
  obtain ⟨g,cap,cur,e,_⟩:=own_block h (by simp)
  cases e
  exact (rw_of_own h).rz
theorem rcheck_any {w:World} {p:Pg} {ao qo vo tto uo oo:Option Addr} {ac qc vc tc uc oc:Nat} (h:RdG w p ao qo vo tto uo oo) (hs:p.Sm) (hkd:∀ r ∈ p.rows,r.kids<=9223372036854775807/\r.name.size<=4611686018427387000):
  Calls Tryz.prog 33 #[pvG p ao qo vo tto uo oo ac qc vc tc uc oc] w fun e w'=>((∃ p',res (p.rows.map unn)=.ok p'/\p'.g=p/\e=.returned (.int .i64 0))\/((¬ ∃ p',res (p.rows.map unn)=.ok p'/\p'.g=p)/\e=.returned (.int .i64 23)))/\Below w.heap.size w w':=by
 dsimp only [pvG]
 have hb1:Below w.heap.size w (w.alloc (.cells #[.string p.name,.slice ao p.rows.length ac,.slice qo p.qs.length qc,.slice vo p.vs.length vc,.slice tto p.ts.length tc,.slice uo p.us.length uc,.slice oo p.on.length oc,.int .i64 p.miss] 27)):=bAl w _
 have H1:Hid ((w.alloc (.cells #[.string p.name,.slice ao p.rows.length ac,.slice qo p.qs.length qc,.slice vo p.vs.length vc,.slice tto p.ts.length tc,.slice uo p.us.length uc,.slice oo p.on.length oc,.int .i64 p.miss] 27)).heap[w.heap.size]?=some (.cells #[.string p.name,.slice ao p.rows.length ac,.slice qo p.qs.length qc,.slice vo p.vs.length vc,.slice tto p.ts.length tc,.slice uo p.us.length uc,.slice oo p.on.length oc,.int .i64 p.miss] 27 (0,0))/\Below w.heap.size w (w.alloc (.cells #[.string p.name,.slice ao p.rows.length ac,.slice qo p.qs.length qc,.slice vo p.vs.length vc,.slice tto p.ts.length tc,.slice uo p.us.length uc,.slice oo p.on.length oc,.int .i64 p.miss] 27))/\RdG w p ao qo vo tto uo oo/\p.Sm):=⟨heap_alloc_new w _,hb1,h,hs⟩
 have HKd:Hid (∀ r ∈ p.rows.map unn,r.kids<=9223372036854775807/\r.name.size<=4611686018427387000):=fun r hr=>by
  obtain ⟨x,hx,rfl⟩:=List.mem_map.1 hr
  have:=hkd x hx
  unfold unn
  split<;>exact this
 obtain ⟨k0,k1,k2,k3,k4,k5,k6,k7⟩:=pol8 H1.out.1
 have HPl:=hdn <| rplain_any (cap:=ac) (h.r.below hb1) hs.r
 clear h hs hb1 hkd
 go_enter Tryz.func33,Tryz.ntmps33
 go_wp2_with fail
 generalize w.alloc (.cells #[.string p.name,.slice ao p.rows.length ac,.slice qo p.qs.length qc,.slice vo p.vs.length vc,.slice tto p.ts.length tc,.slice uo p.us.length uc,.slice oo p.on.length oc,.int .i64 p.miss] 27)=w1 at *
 clear k0 k1 k2 k3 k4 k5 k6 k7
 refine Calls.mono HPl.out ?_
 rintro e w2 ⟨v,rfl,hv,hb2⟩
 obtain ⟨bo,bc,rfl⟩:=own_form hv
 have HZ:Hid (IsRz w2 bo (p.rows.map unn)/\Below w1.heap.size w1 w2):=⟨rz_of_own hv (by simp),hb2⟩
 have HRs:Hid (Calls Tryz.prog 61 #[.slice bo p.rows.length bc] w2 (Told w2 (res (p.rows.map unn)))):=by
  have:=rresolve_any (cap:=bc) HZ.out.1 (by rw [List.length_map];exact H1.out.2.2.2.r) HKd.out
  rw [List.length_map] at this
  exact this
 clear hv hb2 HPl
 go_wp2_with fail
 refine Calls.mono HRs.out ?_
 rintro e w3 hT3
 obtain ⟨ao1,qo1,vo1,to1,uo1,oo1,ac1,qc1,vc1,tc1,uc1,oc1,rfl,hb3,hrd3⟩:=told_g hT3
 have HC:Hid (∀ ci,res (p.rows.map unn)=.error ci->0 < (resC (p.rows.map unn)).1):=fun ci hci=>by
  unfold resC
  rw [hci]
  exact res_pos hci
 have HO:Hid (∀ q,res (p.rows.map unn)=.ok q->(resC (p.rows.map unn)).1=0/\resP (p.rows.map unn)=q.g):=fun q hq=>by
  unfold resC resP
  rw [hq]
  exact ⟨rfl,rfl⟩
 clear hT3 HRs HKd
 generalize resP (p.rows.map unn)=P at *
 generalize resC (p.rows.map unn)=C at *
 obtain ⟨c1,c2⟩:=C
 dsimp only [pvG] at HC HO ⊢
 have hb4:Below w3.heap.size w3 ((w3.alloc (.cells #[.string P.name,.slice ao1 P.rows.length ac1,.slice qo1 P.qs.length qc1,.slice vo1 P.vs.length vc1,.slice to1 P.ts.length tc1,.slice uo1 P.us.length uc1,.slice oo1 P.on.length oc1,.int .i64 P.miss] 27)).alloc (.cells #[.int .i64 (c1:Int),.int .i64 (c2:Int)] 32)):=(bAl w3 _).alloc (by simp) _
 have hx1:((w3.alloc (.cells #[.string P.name,.slice ao1 P.rows.length ac1,.slice qo1 P.qs.length qc1,.slice vo1 P.vs.length vc1,.slice to1 P.ts.length tc1,.slice uo1 P.us.length uc1,.slice oo1 P.on.length oc1,.int .i64 P.miss] 27)).alloc (.cells #[.int .i64 (c1:Int),.int .i64 (c2:Int)] 32)).heap[w3.heap.size]?=some (.cells #[.string P.name,.slice ao1 P.rows.length ac1,.slice qo1 P.qs.length qc1,.slice vo1 P.vs.length vc1,.slice to1 P.ts.length tc1,.slice uo1 P.us.length uc1,.slice oo1 P.on.length oc1,.int .i64 P.miss] 27 (0,0)):=by rw [alloc_old _ _ _ (by simp)];exact alloc_at _ _ _ rfl
 have hx2:((w3.alloc (.cells #[.string P.name,.slice ao1 P.rows.length ac1,.slice qo1 P.qs.length qc1,.slice vo1 P.vs.length vc1,.slice to1 P.ts.length tc1,.slice uo1 P.us.length uc1,.slice oo1 P.on.length oc1,.int .i64 P.miss] 27)).alloc (.cells #[.int .i64 (c1:Int),.int .i64 (c2:Int)] 32)).heap[w3.heap.size+1]?=some (.cells #[.int .i64 (c1:Int),.int .i64 (c2:Int)] 32 (0,0)):=alloc_at _ _ _ (by simp)
 have hb13:Below w1.heap.size w1 ((w3.alloc (.cells #[.string P.name,.slice ao1 P.rows.length ac1,.slice qo1 P.qs.length qc1,.slice vo1 P.vs.length vc1,.slice to1 P.ts.length tc1,.slice uo1 P.us.length uc1,.slice oo1 P.on.length oc1,.int .i64 P.miss] 27)).alloc (.cells #[.int .i64 (c1:Int),.int .i64 (c2:Int)] 32)):=(HZ.out.2.trans (hb3.mono HZ.out.2.size)).trans (hb4.mono (by have:=HZ.out.2.size;have:=hb3.size;omega))
 have H4:Hid (Below w.heap.size w ((w3.alloc (.cells #[.string P.name,.slice ao1 P.rows.length ac1,.slice qo1 P.qs.length qc1,.slice vo1 P.vs.length vc1,.slice to1 P.ts.length tc1,.slice uo1 P.us.length uc1,.slice oo1 P.on.length oc1,.int .i64 P.miss] 27)).alloc (.cells #[.int .i64 (c1:Int),.int .i64 (c2:Int)] 32))/\RdG ((w3.alloc (.cells #[.string P.name,.slice ao1 P.rows.length ac1,.slice qo1 P.qs.length qc1,.slice vo1 P.vs.length vc1,.slice to1 P.ts.length tc1,.slice uo1 P.us.length uc1,.slice oo1 P.on.length oc1,.int .i64 P.miss] 27)).alloc (.cells #[.int .i64 (c1:Int),.int .i64 (c2:Int)] 32)) P ao1 qo1 vo1 to1 uo1 oo1/\RdG ((w3.alloc (.cells #[.string P.name,.slice ao1 P.rows.length ac1,.slice qo1 P.qs.length qc1,.slice vo1 P.vs.length vc1,.slice to1 P.ts.length tc1,.slice uo1 P.us.length uc1,.slice oo1 P.on.length oc1,.int .i64 P.miss] 27)).alloc (.cells #[.int .i64 (c1:Int),.int .i64 (c2:Int)] 32)) p ao qo vo tto uo oo):=by
  have hb:Below w.heap.size w ((w3.alloc (.cells #[.string P.name,.slice ao1 P.rows.length ac1,.slice qo1 P.qs.length qc1,.slice vo1 P.vs.length vc1,.slice to1 P.ts.length tc1,.slice uo1 P.us.length uc1,.slice oo1 P.on.length oc1,.int .i64 P.miss] 27)).alloc (.cells #[.int .i64 (c1:Int),.int .i64 (c2:Int)] 32)):=H1.out.2.1.trans (hb13.mono H1.out.2.1.size)
  exact ⟨hb,hrd3 _ (fun k _ hk=>hb4.block k hk),H1.out.2.2.1.below hb⟩
 obtain ⟨a0,a1,a2,a3,a4,a5,a6,a7⟩:=pol8 hx1
 obtain ⟨b0,b1,b2,b3,b4,b5,b6,b7⟩:=pol8 ((hb13.block _ (blk_lt H1.out.1)).trans H1.out.1)
 have f0:((w3.alloc (.cells #[.string P.name,.slice ao1 P.rows.length ac1,.slice qo1 P.qs.length qc1,.slice vo1 P.vs.length vc1,.slice to1 P.ts.length tc1,.slice uo1 P.us.length uc1,.slice oo1 P.on.length oc1,.int .i64 P.miss] 27)).alloc (.cells #[.int .i64 (c1:Int),.int .i64 (c2:Int)] 32)).cell? ⟨w3.heap.size+1,0,none⟩=some (.int .i64 (c1:Int)):=by rw [World.cell?,hx2];rfl
 clear hb3 hrd3 hb4 hx1 hx2 hb13
 cases hres:res (p.rows.map unn) with
 | error ci=>
  have hc1:=HC.out ci hres
  have hc2:((c1:Int) != 0)=true:=by simp;omega
  have HN:Hid (¬ ∃ p',res (p.rows.map unn)=.ok p'/\p'.g=p):=fun ⟨_,h,_⟩=>by rw [hres] at h;cases h
  clear hc1
  go_wp2_with fail
  go_ret
  exact ⟨Or.inr ⟨HN.out,rfl⟩,H4.out.1⟩
 | ok q=>
  obtain ⟨hc0,rfl⟩:=HO.out q hres
  have hc2:((c1:Int) != 0)=false:=by simp [hc0]
  have HRq:Hid (res (p.rows.map unn)=.ok q):=hres
  have HSm:=hdn <| rsame_any (ac:=ac) (qc:=qc) (vc:=vc) (tc:=tc) (uc:=uc) (oc:=oc) (ac2:=ac1) (qc2:=qc1) (vc2:=vc1) (tc2:=tc1) (uc2:=uc1) (oc2:=oc1) H4.out.2.2 H4.out.2.1 H1.out.2.2.2
  dsimp only [pvG] at HSm
  clear HC HO hres hc0
  go_wp2_with fail
  generalize ((w3.alloc (.cells #[.string q.g.name,.slice ao1 q.g.rows.length ac1,.slice qo1 q.g.qs.length qc1,.slice vo1 q.g.vs.length vc1,.slice to1 q.g.ts.length tc1,.slice uo1 q.g.us.length uc1,.slice oo1 q.g.on.length oc1,.int .i64 q.g.miss] 27)).alloc (.cells #[.int .i64 (c1:Int),.int .i64 (c2:Int)] 32))=w4 at *
  refine Calls.mono HSm.out ?_
  rintro e w5 ⟨⟨b,rfl,hbt⟩,hb5⟩
  have HB5:Hid (Below w.heap.size w w5):=H4.out.1.trans (hb5.mono H4.out.1.size)
  clear hb5 a0 a1 a2 a3 a4 a5 a6 a7 b0 b1 b2 b3 b4 b5 b6 b7 f0
  cases b with
  | true=>
   have HP:Hid (p=q.g):=hbt.1 rfl
   clear hbt
   go_wp2_with fail
   go_ret
   exact ⟨Or.inl ⟨q,HRq.out,HP.out.symm,rfl⟩,HB5.out⟩
  | false=>
   have HP:Hid (¬ ∃ p',res (p.rows.map unn)=.ok p'/\p'.g=p):=fun ⟨p',h,h2⟩=>by
    rw [HRq.out] at h
    cases h
    have:=hbt.2 h2.symm
    cases this
   clear hbt
   go_wp2_with fail
   go_ret
   exact ⟨Or.inr ⟨HP.out,rfl⟩,HB5.out⟩
end Go.Proofs.YtbledbjcghaanaaGreat.Nm
namespace Go.Proofs.YtbledbjcghaanaaGreat.Nm.Ty
open Go.RowKit Go.Maps Sp Lx Gr Nm
def Kd9 (l:List Rz):Prop:=Kd8 l/\∀ j,j < l.length->(rat l j).kind=13->0 < km l j
def tyq (l:List Rz) (k:Nat):List Int:=(List.range k).map fun i=>(rP l i).is
theorem tyq_succ (l:List Rz) (k:Nat):iv (tyq l (k+1))=iv (tyq l k)++[.int .i64 (rP l k).is]:=by simp [tyq,iv,List.range_succ]
theorem tyq_len (l:List Rz) (k:Nat):(tyq l k).length=k:=by simp [tyq]
structure Tb8 (w X:World) (pc:Array Value) (l:List Rz) (ga gf:Nat):Prop where
 p:X.heap[w.heap.size]?=some (.cells pc 27 (0,0))
 f:X.heap[w.heap.size+1]?=some (.cells #[.int .i64 0,.int .i64 0] 32 (0,0))
 a:RowI X ga l.length (asksN l l.length)
 x:RowT X gf l.length (fixN l l.length)
 be:Below w.heap.size w X
theorem Tb8.below {w X Y:World} {pc:Array Value} {l:List Rz} {ga gf:Nat} (h:Tb8 w X pc l ga gf) (hb:Below X.heap.size X Y):Tb8 w Y pc l ga gf:=⟨(hb.block _ (blk_lt h.p)).trans h.p,(hb.block _ (blk_lt h.f)).trans h.f,h.a.below hb h.a.lt,h.x.below hb h.x.lt,h.be.trans (hb.mono h.be.size)⟩
theorem rtypes8 {P:Pg} {ao qo vo tto uo oo:Option Addr} {ac qc vc tc uc oc:Nat} {w:World} (h:RdG w P ao qo vo tto uo oo) (hs:P.Sm) (hkd:∀ r ∈ P.rows,r.kids<=9223372036854775807/\r.name.size<=4611686018427387000) (hR:IsOk P->Rdy P/\Kd9 P.rows):
  Calls Tryz.prog 12 #[pvG P ao qo vo tto uo oo ac qc vc tc uc oc] w fun e w'=>Below w.heap.size w w'/\((¬ IsOk P/\e=.returned (.tuple #[pz,.agg #[.int .i64 23,.int .i64 0]]))\/(IsOk P/\(fltN P.rows (ghL P.qs) P.rows.length).1 ≠ 0/\e=.returned (.tuple #[pz,.agg #[.int .i64 ((fltN P.rows (ghL P.qs) P.rows.length).1:Nat),.int .i64 ((fltN P.rows (ghL P.qs) P.rows.length).2:Nat)]]))
   \/ (IsOk P/\(fltN P.rows (ghL P.qs) P.rows.length).1=0/\∃ v,e=.returned (.tuple #[v,.agg #[.int .i64 0,.int .i64 0]])/\w'.ownsRow w.heap.size 3 1 v P.rows.length (iv (tyq P.rows P.rows.length)))):=by
 obtain ⟨j0,hj,hj0,hj1,hj2⟩:=info_parts info3
 have hb1:Below w.heap.size w ((w.alloc (.cells #[.string P.name,.slice ao P.rows.length ac,.slice qo P.qs.length qc,.slice vo P.vs.length vc,.slice tto P.ts.length tc,.slice uo P.us.length uc,.slice oo P.on.length oc,.int .i64 P.miss] 27)).alloc (.cells #[.int .i64 0,.int .i64 0] 32)):=(bAl w _).alloc (by simp) _
 have H1:Hid (((w.alloc (.cells #[.string P.name,.slice ao P.rows.length ac,.slice qo P.qs.length qc,.slice vo P.vs.length vc,.slice tto P.ts.length tc,.slice uo P.us.length uc,.slice oo P.on.length oc,.int .i64 P.miss] 27)).alloc (.cells #[.int .i64 0,.int .i64 0] 32)).heap[w.heap.size]?=some (.cells #[.string P.name,.slice ao P.rows.length ac,.slice qo P.qs.length qc,.slice vo P.vs.length vc,.slice tto P.ts.length tc,.slice uo P.us.length uc,.slice oo P.on.length oc,.int .i64 P.miss] 27 (0,0))/\((w.alloc (.cells #[.string P.name,.slice ao P.rows.length ac,.slice qo P.qs.length qc,.slice vo P.vs.length vc,.slice tto P.ts.length tc,.slice uo P.us.length uc,.slice oo P.on.length oc,.int .i64 P.miss] 27)).alloc (.cells #[.int .i64 0,.int .i64 0] 32)).heap[w.heap.size+1]?=some (.cells #[.int .i64 0,.int .i64 0] 32 (0,0))/\Below w.heap.size w ((w.alloc (.cells #[.string P.name,.slice ao P.rows.length ac,.slice qo P.qs.length qc,.slice vo P.vs.length vc,.slice tto P.ts.length tc,.slice uo P.us.length uc,.slice oo P.on.length oc,.int .i64 P.miss] 27)).alloc (.cells #[.int .i64 0,.int .i64 0] 32))):=⟨by rw [alloc_old _ _ _ (by simp)];exact alloc_at _ _ _ rfl,alloc_at _ _ _ (by simp),hb1⟩
 have HD:=hdn <| h
 have HRy:=hdn <| hR
 have HSr:Hid (P.rows.length<=2932031007317):=hs.r
 have HCk:=hdn <| rcheck_any (ac:=ac) (qc:=qc) (vc:=vc) (tc:=tc) (uc:=uc) (oc:=oc) (h.below hb1) hs hkd
 obtain ⟨k0,k1,k2,k3,k4,k5,k6,k7⟩:=zr8 H1.out.1
 dsimp only [pvG] at *
 clear h hs hkd hR hb1
 go_enter Tryz.func12,Tryz.ntmps12
 go_wp2_with fail
 generalize ((w.alloc (.cells #[.string P.name,.slice ao P.rows.length ac,.slice qo P.qs.length qc,.slice vo P.vs.length vc,.slice tto P.ts.length tc,.slice uo P.us.length uc,.slice oo P.on.length oc,.int .i64 P.miss] 27)).alloc (.cells #[.int .i64 0,.int .i64 0] 32))=w1 at *
 refine Calls.mono HCk.out ?_
 rintro e w2 ⟨hck,hb2⟩
 have H2:Hid (w2.heap[w.heap.size]?=some (.cells #[.string P.name,.slice ao P.rows.length ac,.slice qo P.qs.length qc,.slice vo P.vs.length vc,.slice tto P.ts.length tc,.slice uo P.us.length uc,.slice oo P.on.length oc,.int .i64 P.miss] 27 (0,0))/\w2.heap[w.heap.size+1]?=some (.cells #[.int .i64 0,.int .i64 0] 32 (0,0))/\Below w.heap.size w w2):=⟨(hb2.block _ (blk_lt H1.out.1)).trans H1.out.1,(hb2.block _ (blk_lt H1.out.2.1)).trans H1.out.2.1,H1.out.2.2.trans (hb2.mono H1.out.2.2.size)⟩
 clear H1 hb2 HCk k0 k1 k2 k3 k4 k5 k6 k7
 rcases hck with ⟨p',hp1,hp2,rfl⟩ | ⟨hno,rfl⟩
 ·have hok:IsOk P:=⟨p',hp1,hp2⟩
  have HIs:Hid (IsOk P):=hok
  obtain ⟨hRd,hKd⟩:=HRy.out hok
  have HRd:=hdn <| hRd
  have HKd:=hdn <| hKd
  have HMk:=hdn <| rmarks8 (cap:=ac) (HD.out.below H2.out.2.2).r HSr.out hRd.t hKd.1
  have HFc:Hid (∀ i,i < P.rows.length->fixN P.rows P.rows.length i=decide (i < conN P.rows i)):=fun i hi=>fix_con hRd.t.whole hKd.2 _ (Nat.le_refl _) hi
  obtain ⟨k0,k1,k2,k3,k4,k5,k6,k7⟩:=zr8 H2.out.1
  clear hp1 hp2 p' hok hRd hKd
  go_wp2_with fail
  refine Calls.mono HMk.out ?_
  rintro e x2 ⟨rfl,hra,hrx,hb⟩
  have HT2:Hid (Tb8 w x2 #[.string P.name,.slice ao P.rows.length ac,.slice qo P.qs.length qc,.slice vo P.vs.length vc,.slice tto P.ts.length tc,.slice uo P.us.length uc,.slice oo P.on.length oc,.int .i64 P.miss] P.rows w2.heap.size (w2.heap.size+1)):=⟨(hb.block _ (blk_lt H2.out.1)).trans H2.out.1,(hb.block _ (blk_lt H2.out.2.1)).trans H2.out.2.1,hra,hrx,H2.out.2.2.trans (hb.mono H2.out.2.2.size)⟩
  have hln:(P.rows.length:Int)<=2932031007317:=by have:=HSr.out;omega
  clear hra hrx hb HMk H2 k0 k1 k2 k3 k4 k5 k6 k7
  generalize w2.heap.size+1=gf at *
  generalize w2.heap.size=ga at *
  go_wp2_with fail
  go_loopg [7,8] P.rows.length (fun gq x c wr=>∃ (k:Nat) (v:Value),k<=P.rows.length/\gq=P.rows.length - k/\v=x/\c=.int .i64 (k:Int)/\wr.ownsRow x2.heap.size 3 1 v k (iv (tyq P.rows k))/\Below x2.heap.size x2 wr/\fltN P.rows (ghL P.qs) k=(0,0))
  case atStart=>exact ⟨0,_,Nat.zero_le _,rfl,rfl,by go_num,World.ownsRow_nil _ _ _ _,Below.refl _ _,rfl⟩
  case round=>
   obtain ⟨k,v,hk,hgk,rfl,rfl,hO,hB,hF⟩:=hrel
   have HG:Hid (gk=P.rows.length - k):=hgk
   have HO:Hid (wr.ownsRow x2.heap.size 3 1 v k (iv (tyq P.rows k))/\Below x2.heap.size x2 wr/\fltN P.rows (ghL P.qs) k=(0,0)):=⟨hO,hB,hF⟩
   have HT:=hdn <| HT2.out.below hB
   obtain ⟨_,k1,_⟩:=zr8 HT.out.p
   obtain ⟨bo,bc,rfl⟩:=own_form hO
   clear hgk hO hB hF
   by_cases hlk:k < P.rows.length
   ·have hlk':(k:Int) < (P.rows.length:Int):=by omega
    obtain ⟨gr,or,rfl,_,c0,_⟩:=row_cells (HD.out.below HT.out.be).r hlk
    have ca:=HT.out.a.cell hlk
    have cx:=HT.out.x.cell hlk
    rw [HFc.out k hlk] at cx
    have HZ:Hid (fltZ P.rows (ghL P.qs) k=if asksN P.rows P.rows.length k ≠ 0/\asksN P.rows P.rows.length k ≠ (rP P.rows k).is then 41 else if k < conN P.rows k/\(rP P.rows k).changing=true then 42 else if othZ P.rows (ghL P.qs) k=true then 46 else 0):=rfl
    have HTy:Hid (∀ W,Calls Tryz.prog 35 #[.int .i64 (rat P.rows k).kind] W fun e w'=>e=.returned (.int .i64 (rP P.rows k).is)/\w'=W):=fun W=>rtype8 _ (rat P.rows k).n W
    have HFr:Hid (∀ W,Calls Tryz.prog 36 #[.int .i64 (rat P.rows k).kind] W fun e w'=>e=.returned (.bool (rP P.rows k).changing)/\w'=W):=fun W=>rfree8 _ (rat P.rows k).n W
    have HOt:=hdn <| rother8 (P:=P) (ao:=some ⟨gr,or,none⟩) (qo:=qo) (vo:=vo) (tto:=tto) (uo:=uo) (oo:=oo) (ac:=ac) (qc:=qc) (vc:=vc) (tc:=tc) (uc:=uc) (oc:=oc) k (HD.out.below HT.out.be).r (HD.out.below HT.out.be).q HSr.out hlk HRd.out.q HRd.out.k
    have HFa:Hid (∀ c,fltZ P.rows (ghL P.qs) k=c->c ≠ 0->fltN P.rows (ghL P.qs) P.rows.length=(c,k)):=fun c hc h0=>by rw [flt_at HO.out.2.2 (by omega) hlk,hc]
    have HFn:Hid (fltZ P.rows (ghL P.qs) k=0->fltN P.rows (ghL P.qs) (k+1)=(0,0)):=fun hc=>flt_no HO.out.2.2 hc
    have HTl:Hid (iv (tyq P.rows (k+1))=iv (tyq P.rows k)++[.int .i64 (rP P.rows k).is]):=tyq_succ _ _
    have HKl:Hid (k < P.rows.length/\P.rows.length<=2932031007317):=⟨hlk,HSr.out⟩
    obtain ⟨f0,f1⟩:=fcells2 HT.out.f
    have hff:=zr8f HT.out.f
    obtain ⟨_,_,k2,k3,k4,k5,k6,k7⟩:=zr8 HT.out.p
    have k0:=(zr8 HT.out.p).1
    clear hlk
    generalize asksN P.rows P.rows.length k=ak at *
    generalize (rP P.rows k).is=ty at *
    generalize (rP P.rows k).changing=ch at *
    generalize othZ P.rows (ghL P.qs) k=oz at *
    generalize (rat P.rows k).kind=kd at *
    generalize conN P.rows k=cn at *
    by_cases h0:ak=0
    ·have h0b:(ak != 0)=false:=by simp [h0]
     have hA:¬ (ak ≠ 0/\ak ≠ ty):=fun h=>h.1 h0
     by_cases hc:k < cn
     ·have hcd:decide (k < cn)=true:=decide_eq_true hc
      rw [hcd] at cx
      cases ch with
      | true=>
       go_wp2_with fail
       refine Calls.mono (HTy.out _) ?_
       rintro e w5 ⟨rfl,rfl⟩
       go_wp2_with fail
       refine Calls.mono (HFr.out _) ?_
       rintro e w6 ⟨rfl,rfl⟩
       have HE:=hdn <| HFa.out 42 (by rw [HZ.out];rw [if_neg hA,if_pos ⟨hc,by simp⟩]) (by decide)
       go_wp2_with fail
       obtain ⟨q1,q2,q3⟩:=put2M (B:=w.heap.size+1) (v0:=.int .i64 42) (v1:=.int .i64 (k:Int)) HT.out.be (Nat.le_succ _) HT.out.f
       obtain ⟨y0,y1⟩:=cells2 q1
       refine bodyPost_ret (v:=.tuple #[pz,.agg #[.int .i64 42,.int .i64 (k:Int)]]) (by simp [results,Tryz.results12,go_sem,y0,y1]) rfl ?_
       exact ⟨q2,Or.inr (Or.inl ⟨HIs.out,by rw [HE.out];simp,by rw [HE.out];rfl⟩)⟩
      | false=>
       go_wp2_with fail
       refine Calls.mono (HTy.out _) ?_
       rintro e w5 ⟨rfl,rfl⟩
       go_wp2_with fail
       refine Calls.mono (HFr.out _) ?_
       rintro e w7 ⟨rfl,rfl⟩
       go_wp2_with fail
       refine Calls.mono HOt.out ?_
       rintro e w6 ⟨rfl,hb6⟩
       have HT5:=hdn <| HT.out.below hb6
       have HO5:Hid (w6.ownsRow x2.heap.size 3 1 (.slice bo k bc) k (iv (tyq P.rows k))/\Below x2.heap.size x2 w6):=⟨own_below HO.out.1 hb6,HO.out.2.1.trans (hb6.mono HO.out.2.1.size)⟩
       clear hb6 HOt f0 f1 hff k0 k1 k2 k3 k4 k5 k6 k7 c0 ca cx
       obtain ⟨f0,f1⟩:=fcells2 HT5.out.f
       have hff:=zr8f HT5.out.f
       cases oz with
       | true=>
        have HE:=hdn <| HFa.out 46 (by rw [HZ.out];rw [if_neg hA,if_neg (fun h=>by cases h.2)];rfl) (by decide)
        go_wp2_with fail
        obtain ⟨q1,q2,q3⟩:=put2M (B:=w.heap.size+1) (v0:=.int .i64 46) (v1:=.int .i64 (k:Int)) HT5.out.be (Nat.le_succ _) HT5.out.f
        obtain ⟨y0,y1⟩:=cells2 q1
        refine bodyPost_ret (v:=.tuple #[pz,.agg #[.int .i64 46,.int .i64 (k:Int)]]) (by simp [results,Tryz.results12,go_sem,y0,y1]) rfl ?_
        exact ⟨q2,Or.inr (Or.inl ⟨HIs.out,by rw [HE.out];simp,by rw [HE.out];rfl⟩)⟩
       | false=>
        have HF1:=hdn <| HFn.out (by rw [HZ.out];rw [if_neg hA,if_neg (fun h=>by cases h.2)];rfl)
        have hb2:Below w6.heap.size w6 (w6.alloc (.cells #[.int .i64 ty] 3)):=bAl w6 _
        have HO2:Hid ((w6.alloc (.cells #[.int .i64 ty] 3)).ownsRow x2.heap.size 3 1 (.slice bo k bc) k (iv (tyq P.rows k))):=own_below HO5.out.1 hb2
        clear hb2
        go_wp2_with (at_builtin;refine append_gone _ rfl _ _ 25 rfl x2.heap.size 3 j0 (.int .i64 0) 1 8 Tryz.underlying25 hj hj0 hj1 hj2 rfl (by decide) (.slice bo k bc) k (iv (tyq P.rows k)) rfl HO2.out ⟨w6.heap.size,0,none⟩ 1 1 [.int .i64 ty] rfl rfl (cell_one w6 _ _) (by intro u hu;simp only [List.mem_cons,List.not_mem_nil,or_false] at hu;subst hu;rfl) (by have:=HKl.out;unfold maxLen;omega) (by have:=HKl.out;omega) (by have h1:=HO5.out.2.size;rw [World.size_alloc];omega) (by decide) ?_)
        intro v4 w4 ho hG
        have HO4:Hid (w4.ownsRow x2.heap.size 3 1 v4 (k+1) (iv (tyq P.rows (k+1)))):=by rw [HTl.out];exact ho
        have hb4:Below x2.heap.size (w6.alloc (.cells #[.int .i64 ty] 3)) w4:=(Went.gone hG).low (fun j hj=>(World.ownsRow.lt HO2.out j hj).1) (by have h1:=HO5.out.2.size;rw [World.size_alloc];omega)
        have HB4:Hid (Below x2.heap.size x2 w4):=(HO5.out.2.alloc HO5.out.2.size _).trans hb4
        clear ho hG hb4
        go_wp2_with fail
        go_roundg (P.rows.length - (k+1))
        case measure=>have h1:=HG.out;have:=HKl.out;omega
        case rel=>exact ⟨k+1,_,by have:=HKl.out;omega,rfl,rfl,by go_num,HO4.out,HB4.out,HF1.out⟩
     ·have hcd:decide (k < cn)=false:=decide_eq_false hc
      rw [hcd] at cx
      go_wp2_with fail
      refine Calls.mono (HTy.out _) ?_
      rintro e w5 ⟨rfl,rfl⟩
      go_wp2_with fail
      refine Calls.mono HOt.out ?_
      rintro e w6 ⟨rfl,hb6⟩
      have HT5:=hdn <| HT.out.below hb6
      have HO5:Hid (w6.ownsRow x2.heap.size 3 1 (.slice bo k bc) k (iv (tyq P.rows k))/\Below x2.heap.size x2 w6):=⟨own_below HO.out.1 hb6,HO.out.2.1.trans (hb6.mono HO.out.2.1.size)⟩
      clear hb6 HOt f0 f1 hff k0 k1 k2 k3 k4 k5 k6 k7 c0 ca cx
      obtain ⟨f0,f1⟩:=fcells2 HT5.out.f
      have hff:=zr8f HT5.out.f
      cases oz with
      | true=>
       have HE:=hdn <| HFa.out 46 (by rw [HZ.out];rw [if_neg hA,if_neg (fun h=>hc h.1)];rfl) (by decide)
       go_wp2_with fail
       obtain ⟨q1,q2,q3⟩:=put2M (B:=w.heap.size+1) (v0:=.int .i64 46) (v1:=.int .i64 (k:Int)) HT5.out.be (Nat.le_succ _) HT5.out.f
       obtain ⟨y0,y1⟩:=cells2 q1
       refine bodyPost_ret (v:=.tuple #[pz,.agg #[.int .i64 46,.int .i64 (k:Int)]]) (by simp [results,Tryz.results12,go_sem,y0,y1]) rfl ?_
       exact ⟨q2,Or.inr (Or.inl ⟨HIs.out,by rw [HE.out];simp,by rw [HE.out];rfl⟩)⟩
      | false=>
       have HF1:=hdn <| HFn.out (by rw [HZ.out];rw [if_neg hA,if_neg (fun h=>hc h.1)];rfl)
       have hb2:Below w6.heap.size w6 (w6.alloc (.cells #[.int .i64 ty] 3)):=bAl w6 _
       have HO2:Hid ((w6.alloc (.cells #[.int .i64 ty] 3)).ownsRow x2.heap.size 3 1 (.slice bo k bc) k (iv (tyq P.rows k))):=own_below HO5.out.1 hb2
       clear hb2
       go_wp2_with (at_builtin;refine append_gone _ rfl _ _ 25 rfl x2.heap.size 3 j0 (.int .i64 0) 1 8 Tryz.underlying25 hj hj0 hj1 hj2 rfl (by decide) (.slice bo k bc) k (iv (tyq P.rows k)) rfl HO2.out ⟨w6.heap.size,0,none⟩ 1 1 [.int .i64 ty] rfl rfl (cell_one w6 _ _) (by intro u hu;simp only [List.mem_cons,List.not_mem_nil,or_false] at hu;subst hu;rfl) (by have:=HKl.out;unfold maxLen;omega) (by have:=HKl.out;omega) (by have h1:=HO5.out.2.size;rw [World.size_alloc];omega) (by decide) ?_)
       intro v4 w4 ho hG
       have HO4:Hid (w4.ownsRow x2.heap.size 3 1 v4 (k+1) (iv (tyq P.rows (k+1)))):=by rw [HTl.out];exact ho
       have hb4:Below x2.heap.size (w6.alloc (.cells #[.int .i64 ty] 3)) w4:=(Went.gone hG).low (fun j hj=>(World.ownsRow.lt HO2.out j hj).1) (by have h1:=HO5.out.2.size;rw [World.size_alloc];omega)
       have HB4:Hid (Below x2.heap.size x2 w4):=(HO5.out.2.alloc HO5.out.2.size _).trans hb4
       clear ho hG hb4
       go_wp2_with fail
       go_roundg (P.rows.length - (k+1))
       case measure=>have h1:=HG.out;have:=HKl.out;omega
       case rel=>exact ⟨k+1,_,by have:=HKl.out;omega,rfl,rfl,by go_num,HO4.out,HB4.out,HF1.out⟩
    ·have h0b:(ak != 0)=true:=by simp [h0]
     by_cases h1:ak=ty
     ·have h1b:(ak != ty)=false:=by simp [h1]
      have hA:¬ (ak ≠ 0/\ak ≠ ty):=fun h=>h.2 h1
      by_cases hc:k < cn
      ·have hcd:decide (k < cn)=true:=decide_eq_true hc
       rw [hcd] at cx
       cases ch with
       | true=>
        go_wp2_with fail
        refine Calls.mono (HTy.out _) ?_
        rintro e w5 ⟨rfl,rfl⟩
        go_wp2_with fail
        refine Calls.mono (HFr.out _) ?_
        rintro e w6 ⟨rfl,rfl⟩
        have HE:=hdn <| HFa.out 42 (by rw [HZ.out];rw [if_neg hA,if_pos ⟨hc,by simp⟩]) (by decide)
        go_wp2_with fail
        obtain ⟨q1,q2,q3⟩:=put2M (B:=w.heap.size+1) (v0:=.int .i64 42) (v1:=.int .i64 (k:Int)) HT.out.be (Nat.le_succ _) HT.out.f
        obtain ⟨y0,y1⟩:=cells2 q1
        refine bodyPost_ret (v:=.tuple #[pz,.agg #[.int .i64 42,.int .i64 (k:Int)]]) (by simp [results,Tryz.results12,go_sem,y0,y1]) rfl ?_
        exact ⟨q2,Or.inr (Or.inl ⟨HIs.out,by rw [HE.out];simp,by rw [HE.out];rfl⟩)⟩
       | false=>
        go_wp2_with fail
        refine Calls.mono (HTy.out _) ?_
        rintro e w5 ⟨rfl,rfl⟩
        go_wp2_with fail
        refine Calls.mono (HFr.out _) ?_
        rintro e w7 ⟨rfl,rfl⟩
        go_wp2_with fail
        refine Calls.mono HOt.out ?_
        rintro e w6 ⟨rfl,hb6⟩
        have HT5:=hdn <| HT.out.below hb6
        have HO5:Hid (w6.ownsRow x2.heap.size 3 1 (.slice bo k bc) k (iv (tyq P.rows k))/\Below x2.heap.size x2 w6):=⟨own_below HO.out.1 hb6,HO.out.2.1.trans (hb6.mono HO.out.2.1.size)⟩
        clear hb6 HOt f0 f1 hff k0 k1 k2 k3 k4 k5 k6 k7 c0 ca cx
        obtain ⟨f0,f1⟩:=fcells2 HT5.out.f
        have hff:=zr8f HT5.out.f
        cases oz with
        | true=>
         have HE:=hdn <| HFa.out 46 (by rw [HZ.out];rw [if_neg hA,if_neg (fun h=>by cases h.2)];rfl) (by decide)
         go_wp2_with fail
         obtain ⟨q1,q2,q3⟩:=put2M (B:=w.heap.size+1) (v0:=.int .i64 46) (v1:=.int .i64 (k:Int)) HT5.out.be (Nat.le_succ _) HT5.out.f
         obtain ⟨y0,y1⟩:=cells2 q1
         refine bodyPost_ret (v:=.tuple #[pz,.agg #[.int .i64 46,.int .i64 (k:Int)]]) (by simp [results,Tryz.results12,go_sem,y0,y1]) rfl ?_
         exact ⟨q2,Or.inr (Or.inl ⟨HIs.out,by rw [HE.out];simp,by rw [HE.out];rfl⟩)⟩
        | false=>
         have HF1:=hdn <| HFn.out (by rw [HZ.out];rw [if_neg hA,if_neg (fun h=>by cases h.2)];rfl)
         have hb2:Below w6.heap.size w6 (w6.alloc (.cells #[.int .i64 ty] 3)):=bAl w6 _
         have HO2:Hid ((w6.alloc (.cells #[.int .i64 ty] 3)).ownsRow x2.heap.size 3 1 (.slice bo k bc) k (iv (tyq P.rows k))):=own_below HO5.out.1 hb2
         clear hb2
         go_wp2_with (at_builtin;refine append_gone _ rfl _ _ 25 rfl x2.heap.size 3 j0 (.int .i64 0) 1 8 Tryz.underlying25 hj hj0 hj1 hj2 rfl (by decide) (.slice bo k bc) k (iv (tyq P.rows k)) rfl HO2.out ⟨w6.heap.size,0,none⟩ 1 1 [.int .i64 ty] rfl rfl (cell_one w6 _ _) (by intro u hu;simp only [List.mem_cons,List.not_mem_nil,or_false] at hu;subst hu;rfl) (by have:=HKl.out;unfold maxLen;omega) (by have:=HKl.out;omega) (by have h1:=HO5.out.2.size;rw [World.size_alloc];omega) (by decide) ?_)
         intro v4 w4 ho hG
         have HO4:Hid (w4.ownsRow x2.heap.size 3 1 v4 (k+1) (iv (tyq P.rows (k+1)))):=by rw [HTl.out];exact ho
         have hb4:Below x2.heap.size (w6.alloc (.cells #[.int .i64 ty] 3)) w4:=(Went.gone hG).low (fun j hj=>(World.ownsRow.lt HO2.out j hj).1) (by have h1:=HO5.out.2.size;rw [World.size_alloc];omega)
         have HB4:Hid (Below x2.heap.size x2 w4):=(HO5.out.2.alloc HO5.out.2.size _).trans hb4
         clear ho hG hb4
         go_wp2_with fail
         go_roundg (P.rows.length - (k+1))
         case measure=>have h1:=HG.out;have:=HKl.out;omega
         case rel=>exact ⟨k+1,_,by have:=HKl.out;omega,rfl,rfl,by go_num,HO4.out,HB4.out,HF1.out⟩
      ·have hcd:decide (k < cn)=false:=decide_eq_false hc
       rw [hcd] at cx
       go_wp2_with fail
       refine Calls.mono (HTy.out _) ?_
       rintro e w5 ⟨rfl,rfl⟩
       go_wp2_with fail
       refine Calls.mono HOt.out ?_
       rintro e w6 ⟨rfl,hb6⟩
       have HT5:=hdn <| HT.out.below hb6
       have HO5:Hid (w6.ownsRow x2.heap.size 3 1 (.slice bo k bc) k (iv (tyq P.rows k))/\Below x2.heap.size x2 w6):=⟨own_below HO.out.1 hb6,HO.out.2.1.trans (hb6.mono HO.out.2.1.size)⟩
       clear hb6 HOt f0 f1 hff k0 k1 k2 k3 k4 k5 k6 k7 c0 ca cx
       obtain ⟨f0,f1⟩:=fcells2 HT5.out.f
       have hff:=zr8f HT5.out.f
       cases oz with
       | true=>
        have HE:=hdn <| HFa.out 46 (by rw [HZ.out];rw [if_neg hA,if_neg (fun h=>hc h.1)];rfl) (by decide)
        go_wp2_with fail
        obtain ⟨q1,q2,q3⟩:=put2M (B:=w.heap.size+1) (v0:=.int .i64 46) (v1:=.int .i64 (k:Int)) HT5.out.be (Nat.le_succ _) HT5.out.f
        obtain ⟨y0,y1⟩:=cells2 q1
        refine bodyPost_ret (v:=.tuple #[pz,.agg #[.int .i64 46,.int .i64 (k:Int)]]) (by simp [results,Tryz.results12,go_sem,y0,y1]) rfl ?_
        exact ⟨q2,Or.inr (Or.inl ⟨HIs.out,by rw [HE.out];simp,by rw [HE.out];rfl⟩)⟩
       | false=>
        have HF1:=hdn <| HFn.out (by rw [HZ.out];rw [if_neg hA,if_neg (fun h=>hc h.1)];rfl)
        have hb2:Below w6.heap.size w6 (w6.alloc (.cells #[.int .i64 ty] 3)):=bAl w6 _
        have HO2:Hid ((w6.alloc (.cells #[.int .i64 ty] 3)).ownsRow x2.heap.size 3 1 (.slice bo k bc) k (iv (tyq P.rows k))):=own_below HO5.out.1 hb2
        clear hb2
        go_wp2_with (at_builtin;refine append_gone _ rfl _ _ 25 rfl x2.heap.size 3 j0 (.int .i64 0) 1 8 Tryz.underlying25 hj hj0 hj1 hj2 rfl (by decide) (.slice bo k bc) k (iv (tyq P.rows k)) rfl HO2.out ⟨w6.heap.size,0,none⟩ 1 1 [.int .i64 ty] rfl rfl (cell_one w6 _ _) (by intro u hu;simp only [List.mem_cons,List.not_mem_nil,or_false] at hu;subst hu;rfl) (by have:=HKl.out;unfold maxLen;omega) (by have:=HKl.out;omega) (by have h1:=HO5.out.2.size;rw [World.size_alloc];omega) (by decide) ?_)
        intro v4 w4 ho hG
        have HO4:Hid (w4.ownsRow x2.heap.size 3 1 v4 (k+1) (iv (tyq P.rows (k+1)))):=by rw [HTl.out];exact ho
        have hb4:Below x2.heap.size (w6.alloc (.cells #[.int .i64 ty] 3)) w4:=(Went.gone hG).low (fun j hj=>(World.ownsRow.lt HO2.out j hj).1) (by have h1:=HO5.out.2.size;rw [World.size_alloc];omega)
        have HB4:Hid (Below x2.heap.size x2 w4):=(HO5.out.2.alloc HO5.out.2.size _).trans hb4
        clear ho hG hb4
        go_wp2_with fail
        go_roundg (P.rows.length - (k+1))
        case measure=>have h1:=HG.out;have:=HKl.out;omega
        case rel=>exact ⟨k+1,_,by have:=HKl.out;omega,rfl,rfl,by go_num,HO4.out,HB4.out,HF1.out⟩
     ·have h1b:(ak != ty)=true:=by simp [h1]
      go_wp2_with fail
      refine Calls.mono (HTy.out _) ?_
      rintro e w5 ⟨rfl,rfl⟩
      have HE:=hdn <| HFa.out 41 (by rw [HZ.out];exact if_pos ⟨h0,h1⟩) (by decide)
      go_wp2_with fail
      obtain ⟨q1,q2,q3⟩:=put2M (B:=w.heap.size+1) (v0:=.int .i64 41) (v1:=.int .i64 (k:Int)) HT.out.be (Nat.le_succ _) HT.out.f
      obtain ⟨y0,y1⟩:=cells2 q1
      refine bodyPost_ret (v:=.tuple #[pz,.agg #[.int .i64 41,.int .i64 (k:Int)]]) (by simp [results,Tryz.results12,go_sem,y0,y1]) rfl ?_
      exact ⟨q2,Or.inr (Or.inl ⟨HIs.out,by rw [HE.out];simp,by rw [HE.out];rfl⟩)⟩
   ·have hke:k=P.rows.length:=by omega
    have hlk':¬ (k:Int) < (P.rows.length:Int):=by omega
    have HE:Hid (fltN P.rows (ghL P.qs) P.rows.length=(0,0)):=by rw [<-hke];exact HO.out.2.2
    have HO9:Hid (wr.ownsRow w.heap.size 3 1 (.slice bo k bc) P.rows.length (iv (tyq P.rows P.rows.length))/\w.heap.size+1 < x2.heap.size):=by
     refine ⟨?_,blk_lt HT2.out.f⟩
     have h1:=own_base HO.out.1 (show w.heap.size<=x2.heap.size from HT2.out.be.size)
     rw [hke] at h1 ⊢
     exact h1
    obtain ⟨f0,f1⟩:=fcells2 HT.out.f
    have hff:=zr8f HT.out.f
    have HOb:=hdn <| HO.out.1
    clear hke hlk hk
    go_wp2_with fail
    obtain ⟨q1,q2,q3⟩:=put2M (B:=w.heap.size+1) (v0:=.int .i64 0) (v1:=.int .i64 0) HT.out.be (Nat.le_succ _) HT.out.f
    obtain ⟨y0,y1⟩:=cells2 q1
    refine bodyPost_ret (v:=.tuple #[.slice bo k bc,.agg #[.int .i64 0,.int .i64 0]]) (by simp [results,Tryz.results12,go_sem,y0,y1]) rfl ?_
    refine ⟨q2,Or.inr (Or.inr ⟨HIs.out,by rw [HE.out],_,rfl,?_⟩)⟩
    exact own_keepB HO9.out.1 (fun j hj=>q3 j (by have:=(World.ownsRow.lt HOb.out j hj).1;have:=HO9.out.2;omega))
 ·have HNo:Hid (¬ IsOk P):=hno
  obtain ⟨f0,f1⟩:=fcells2 H2.out.2.1
  have hff:=zr8f H2.out.2.1
  clear hno
  go_wp2_with fail
  obtain ⟨q1,q2,q3⟩:=put2M (B:=w.heap.size+1) (v0:=.int .i64 23) (v1:=.int .i64 0) H2.out.2.2 (Nat.le_succ _) H2.out.2.1
  obtain ⟨y0,y1⟩:=cells2 q1
  refine bodyPost_ret (v:=.tuple #[pz,.agg #[.int .i64 23,.int .i64 0]]) (by simp [results,Tryz.results12,go_sem,y0,y1]) rfl ?_
  exact ⟨q2,Or.inl ⟨HNo.out,rfl⟩⟩
end Go.Proofs.YtbledbjcghaanaaGreat.Nm.Ty
