import Derived.Test.YtinjccfhhdidiaaGreatK25
set_option maxHeartbeats 6400000
set_option maxRecDepth 1759218604390400
namespace Go.Proofs.YtinjccfhhdidiaaGreat.Nm
open Go.RowKit Go.Maps Sp Lx Gr
theorem farR (ao:Option Addr) (n cap:Nat) (hn:n<=2932031007317) (w:World):Calls Tryz.prog 46 #[.slice ao n cap] w fun e w'=>e=.returned (.bool (decide (65536 < n)))/\w=w':=by
 by_cases h:65536 < n
 ·have h1:decide ((65536:Int) < (n:Int))=true:=decide_eq_true (by omega)
  have h2:(65536:Int) < (n:Int):=by omega
  have HE:Hid (decide (65536 < n)=true):=decide_eq_true h
  clear h
  go_enter Tryz.func46,Tryz.ntmps46
  go_wp2
  go_ret
  exact ⟨by rw [HE.out];rfl,rfl⟩
 ·have h1:decide ((65536:Int) < (n:Int))=false:=decide_eq_false (by omega)
  have h3:decide (65536 < n)=false:=decide_eq_false h
  have HE:Hid (decide (65536 < n)=false):=h3
  clear h
  go_enter Tryz.func46,Tryz.ntmps46
  go_wp2
  go_ret
  exact ⟨by rw [HE.out];rfl,rfl⟩
theorem farQ {P:Pg} {ao qo vo tto uo oo:Option Addr} {ac qc vc tc uc oc:Nat} (w:World) (hr:P.rows.length<=2932031007317):
  Calls Tryz.prog 20 #[pvG P ao qo vo tto uo oo ac qc vc tc uc oc] w fun e w'=>∃ b,e=.returned (.bool b)/\(b=false->P.rows.length<=65536/\P.qs.length<=100/\P.vs.length<=100/\P.ts.length<=100/\P.us.length<=100/\P.on.length<=100)/\Below w.heap.size w w':=by
 dsimp only [pvG]
 have HB:Hid (Below w.heap.size w (w.alloc (.cells #[.string P.name,.slice ao P.rows.length ac,.slice qo P.qs.length qc,.slice vo P.vs.length vc,.slice tto P.ts.length tc,.slice uo P.us.length uc,.slice oo P.on.length oc,.int .i64 P.miss] 27))):=(Below.refl _ w).alloc (Nat.le_refl _) _
 obtain ⟨k0,k1,k2,k3,k4,k5,k6,k7⟩:=pol8 (heap_alloc_new w (.cells #[.string P.name,.slice ao P.rows.length ac,.slice qo P.qs.length qc,.slice vo P.vs.length vc,.slice tto P.ts.length tc,.slice uo P.us.length uc,.slice oo P.on.length oc,.int .i64 P.miss] 27))
 have HF:=show Hid _ from farR ao P.rows.length ac hr (w.alloc (.cells #[.string P.name,.slice ao P.rows.length ac,.slice qo P.qs.length qc,.slice vo P.vs.length vc,.slice tto P.ts.length tc,.slice uo P.us.length uc,.slice oo P.on.length oc,.int .i64 P.miss] 27))
 by_cases hf:65536 < P.rows.length
 ·rw [decide_eq_true hf] at HF
  clear hf
  go_enter Tryz.func20,Tryz.ntmps20
  go_wp2_with fail
  refine Calls.mono HF.out ?_
  rintro _ _ ⟨rfl,rfl⟩
  go_wp2
  go_ret
  exact ⟨true,rfl,nofun,HB.out⟩
 rw [decide_eq_false hf] at HF
 by_cases h0:100 < P.qs.length
 ·have d0:decide ((100:Int) < (P.qs.length:Int))=true:=decide_eq_true (by omega)
  have e0:(100:Int) < (P.qs.length:Int):=by omega
  clear hf h0
  go_enter Tryz.func20,Tryz.ntmps20
  go_wp2_with fail
  refine Calls.mono HF.out ?_
  rintro _ _ ⟨rfl,rfl⟩
  go_wp2
  go_ret
  exact ⟨true,rfl,nofun,HB.out⟩
 by_cases h1:100 < P.vs.length
 ·have d0:decide ((100:Int) < (P.qs.length:Int))=false:=decide_eq_false (by omega)
  have e0:decide (100 < P.qs.length)=false:=decide_eq_false (by omega)
  have d1:decide ((100:Int) < (P.vs.length:Int))=true:=decide_eq_true (by omega)
  have e1:(100:Int) < (P.vs.length:Int):=by omega
  clear hf h0 h1
  go_enter Tryz.func20,Tryz.ntmps20
  go_wp2_with fail
  refine Calls.mono HF.out ?_
  rintro _ _ ⟨rfl,rfl⟩
  go_wp2
  go_ret
  exact ⟨true,rfl,nofun,HB.out⟩
 by_cases h2:100 < P.ts.length
 ·have d0:decide ((100:Int) < (P.qs.length:Int))=false:=decide_eq_false (by omega)
  have e0:decide (100 < P.qs.length)=false:=decide_eq_false (by omega)
  have d1:decide ((100:Int) < (P.vs.length:Int))=false:=decide_eq_false (by omega)
  have e1:decide (100 < P.vs.length)=false:=decide_eq_false (by omega)
  have d2:decide ((100:Int) < (P.ts.length:Int))=true:=decide_eq_true (by omega)
  have e2:(100:Int) < (P.ts.length:Int):=by omega
  clear hf h0 h1 h2
  go_enter Tryz.func20,Tryz.ntmps20
  go_wp2_with fail
  refine Calls.mono HF.out ?_
  rintro _ _ ⟨rfl,rfl⟩
  go_wp2
  go_ret
  exact ⟨true,rfl,nofun,HB.out⟩
 by_cases h3:100 < P.us.length
 ·have d0:decide ((100:Int) < (P.qs.length:Int))=false:=decide_eq_false (by omega)
  have e0:decide (100 < P.qs.length)=false:=decide_eq_false (by omega)
  have d1:decide ((100:Int) < (P.vs.length:Int))=false:=decide_eq_false (by omega)
  have e1:decide (100 < P.vs.length)=false:=decide_eq_false (by omega)
  have d2:decide ((100:Int) < (P.ts.length:Int))=false:=decide_eq_false (by omega)
  have e2:decide (100 < P.ts.length)=false:=decide_eq_false (by omega)
  have d3:decide ((100:Int) < (P.us.length:Int))=true:=decide_eq_true (by omega)
  have e3:(100:Int) < (P.us.length:Int):=by omega
  clear hf h0 h1 h2 h3
  go_enter Tryz.func20,Tryz.ntmps20
  go_wp2_with fail
  refine Calls.mono HF.out ?_
  rintro _ _ ⟨rfl,rfl⟩
  go_wp2
  go_ret
  exact ⟨true,rfl,nofun,HB.out⟩
 by_cases h4:100 < P.on.length
 ·have d0:decide ((100:Int) < (P.qs.length:Int))=false:=decide_eq_false (by omega)
  have e0:decide (100 < P.qs.length)=false:=decide_eq_false (by omega)
  have d1:decide ((100:Int) < (P.vs.length:Int))=false:=decide_eq_false (by omega)
  have e1:decide (100 < P.vs.length)=false:=decide_eq_false (by omega)
  have d2:decide ((100:Int) < (P.ts.length:Int))=false:=decide_eq_false (by omega)
  have e2:decide (100 < P.ts.length)=false:=decide_eq_false (by omega)
  have d3:decide ((100:Int) < (P.us.length:Int))=false:=decide_eq_false (by omega)
  have e3:decide (100 < P.us.length)=false:=decide_eq_false (by omega)
  have d4:decide ((100:Int) < (P.on.length:Int))=true:=decide_eq_true (by omega)
  have e4:(100:Int) < (P.on.length:Int):=by omega
  clear hf h0 h1 h2 h3 h4
  go_enter Tryz.func20,Tryz.ntmps20
  go_wp2_with fail
  refine Calls.mono HF.out ?_
  rintro _ _ ⟨rfl,rfl⟩
  go_wp2
  go_ret
  exact ⟨true,rfl,nofun,HB.out⟩
 have d0:decide ((100:Int) < (P.qs.length:Int))=false:=decide_eq_false (by omega)
 have e0:decide (100 < P.qs.length)=false:=decide_eq_false (by omega)
 have d1:decide ((100:Int) < (P.vs.length:Int))=false:=decide_eq_false (by omega)
 have e1:decide (100 < P.vs.length)=false:=decide_eq_false (by omega)
 have d2:decide ((100:Int) < (P.ts.length:Int))=false:=decide_eq_false (by omega)
 have e2:decide (100 < P.ts.length)=false:=decide_eq_false (by omega)
 have d3:decide ((100:Int) < (P.us.length:Int))=false:=decide_eq_false (by omega)
 have e3:decide (100 < P.us.length)=false:=decide_eq_false (by omega)
 have d4:decide ((100:Int) < (P.on.length:Int))=false:=decide_eq_false (by omega)
 have e4:decide (100 < P.on.length)=false:=decide_eq_false (by omega)
 have HT:Hid (P.rows.length<=65536/\P.qs.length<=100/\P.vs.length<=100/\P.ts.length<=100/\P.us.length<=100/\P.on.length<=100):=⟨by omega,by omega,by omega,by omega,by omega,by omega⟩
 clear hf h0 h1 h2 h3 h4
 go_enter Tryz.func20,Tryz.ntmps20
 go_wp2_with fail
 refine Calls.mono HF.out ?_
 rintro _ _ ⟨rfl,rfl⟩
 go_wp2
 go_ret
 exact ⟨false,rfl,fun _=>HT.out,HB.out⟩
theorem farT {P:Pg} {ao qo vo tto uo oo xo yo eo:Option Addr} {ac qc vc tc uc oc nx cx ny cy ne ec:Nat} (w:World) (hr:P.rows.length<=2932031007317):
  Calls Tryz.prog 7 #[pvG P ao qo vo tto uo oo ac qc vc tc uc oc,.agg #[.slice xo nx cx,.slice yo ny cy,.slice eo ne ec]] w fun e w'=>∃ b,e=.returned (.bool b)/\(b=false->(P.rows.length<=65536/\P.qs.length<=100/\P.vs.length<=100/\P.ts.length<=100/\P.us.length<=100/\P.on.length<=100)/\nx<=100/\ny<=100/\ne<=65536)/\Below w.heap.size w w':=by
 have HF:=show Hid _ from farQ (P:=P) (ao:=ao) (qo:=qo) (vo:=vo) (tto:=tto) (uo:=uo) (oo:=oo) (ac:=ac) (qc:=qc) (vc:=vc) (tc:=tc) (uc:=uc) (oc:=oc) ((w.alloc (.cells #[.string P.name,.slice ao P.rows.length ac,.slice qo P.qs.length qc,.slice vo P.vs.length vc,.slice tto P.ts.length tc,.slice uo P.us.length uc,.slice oo P.on.length oc,.int .i64 P.miss] 27)).alloc (.cells #[.slice xo nx cx,.slice yo ny cy,.slice eo ne ec] 30)) hr
 dsimp only [pvG] at HF ⊢
 have hbB:Below w.heap.size w ((w.alloc (.cells #[.string P.name,.slice ao P.rows.length ac,.slice qo P.qs.length qc,.slice vo P.vs.length vc,.slice tto P.ts.length tc,.slice uo P.us.length uc,.slice oo P.on.length oc,.int .i64 P.miss] 27)).alloc (.cells #[.slice xo nx cx,.slice yo ny cy,.slice eo ne ec] 30)):=((Below.refl _ w).alloc (Nat.le_refl _) _).alloc (by simp) _
 have hp:((w.alloc (.cells #[.string P.name,.slice ao P.rows.length ac,.slice qo P.qs.length qc,.slice vo P.vs.length vc,.slice tto P.ts.length tc,.slice uo P.us.length uc,.slice oo P.on.length oc,.int .i64 P.miss] 27)).alloc (.cells #[.slice xo nx cx,.slice yo ny cy,.slice eo ne ec] 30)).heap[w.heap.size]?=some (.cells #[.string P.name,.slice ao P.rows.length ac,.slice qo P.qs.length qc,.slice vo P.vs.length vc,.slice tto P.ts.length tc,.slice uo P.us.length uc,.slice oo P.on.length oc,.int .i64 P.miss] 27 (0,0)):=by rw [alloc_old _ _ _ (by simp)];exact alloc_at _ _ _ rfl
 have ht:((w.alloc (.cells #[.string P.name,.slice ao P.rows.length ac,.slice qo P.qs.length qc,.slice vo P.vs.length vc,.slice tto P.ts.length tc,.slice uo P.us.length uc,.slice oo P.on.length oc,.int .i64 P.miss] 27)).alloc (.cells #[.slice xo nx cx,.slice yo ny cy,.slice eo ne ec] 30)).heap[w.heap.size+1]?=some (.cells #[.slice xo nx cx,.slice yo ny cy,.slice eo ne ec] 30 (0,0)):=alloc_at _ _ _ (by simp)
 obtain ⟨k0,k1,k2,k3,k4,k5,k6,k7⟩:=pol8 hp
 have HT:Hid (((w.alloc (.cells #[.string P.name,.slice ao P.rows.length ac,.slice qo P.qs.length qc,.slice vo P.vs.length vc,.slice tto P.ts.length tc,.slice uo P.us.length uc,.slice oo P.on.length oc,.int .i64 P.miss] 27)).alloc (.cells #[.slice xo nx cx,.slice yo ny cy,.slice eo ne ec] 30)).heap[w.heap.size+1]?=some (.cells #[.slice xo nx cx,.slice yo ny cy,.slice eo ne ec] 30 (0,0))/\Below w.heap.size w ((w.alloc (.cells #[.string P.name,.slice ao P.rows.length ac,.slice qo P.qs.length qc,.slice vo P.vs.length vc,.slice tto P.ts.length tc,.slice uo P.us.length uc,.slice oo P.on.length oc,.int .i64 P.miss] 27)).alloc (.cells #[.slice xo nx cx,.slice yo ny cy,.slice eo ne ec] 30))):=⟨ht,hbB⟩
 clear hp hbB ht
 go_enter Tryz.func7,Tryz.ntmps7
 go_wp2_with fail
 generalize ((w.alloc (.cells #[.string P.name,.slice ao P.rows.length ac,.slice qo P.qs.length qc,.slice vo P.vs.length vc,.slice tto P.ts.length tc,.slice uo P.us.length uc,.slice oo P.on.length oc,.int .i64 P.miss] 27)).alloc (.cells #[.slice xo nx cx,.slice yo ny cy,.slice eo ne ec] 30))=wB at *
 refine Calls.mono HF.out ?_
 rintro e w3 ⟨b,rfl,hbb,hb3⟩
 have hb4:=(hb3.block _ (blk_lt HT.out.1)).trans HT.out.1
 have HB:Hid (Below w.heap.size w w3):=HT.out.2.trans (hb3.mono HT.out.2.size)
 clear k0 k1 k2 k3 k4 k5 k6 k7 hb3 HF HT
 obtain ⟨t0,t1,t2⟩:=cells3 hb4
 clear hb4
 cases b with
 | true=>
  clear hbb
  go_wp2
  go_ret
  exact ⟨true,rfl,nofun,HB.out⟩
 | false=>
  have HL:=show Hid _ from hbb rfl
  clear hbb
  by_cases g0:100 < nx
  ·have d0:decide ((100:Int) < (nx:Int))=true:=decide_eq_true (by omega)
   have e0:(100:Int) < (nx:Int):=by omega
   clear g0
   go_wp2
   go_ret
   exact ⟨true,rfl,nofun,HB.out⟩
  by_cases g1:100 < ny
  ·have d0:decide ((100:Int) < (nx:Int))=false:=decide_eq_false (by omega)
   have e0:decide (100 < nx)=false:=decide_eq_false (by omega)
   have d1:decide ((100:Int) < (ny:Int))=true:=decide_eq_true (by omega)
   have e1:(100:Int) < (ny:Int):=by omega
   clear g0 g1
   go_wp2
   go_ret
   exact ⟨true,rfl,nofun,HB.out⟩
  by_cases g2:65536 < ne
  ·have d0:decide ((100:Int) < (nx:Int))=false:=decide_eq_false (by omega)
   have e0:decide (100 < nx)=false:=decide_eq_false (by omega)
   have d1:decide ((100:Int) < (ny:Int))=false:=decide_eq_false (by omega)
   have e1:decide (100 < ny)=false:=decide_eq_false (by omega)
   have d2:decide ((65536:Int) < (ne:Int))=true:=decide_eq_true (by omega)
   have e2:(65536:Int) < (ne:Int):=by omega
   clear g0 g1 g2
   go_wp2
   go_ret
   exact ⟨true,rfl,nofun,HB.out⟩
  have d0:decide ((100:Int) < (nx:Int))=false:=decide_eq_false (by omega)
  have e0:decide (100 < nx)=false:=decide_eq_false (by omega)
  have d1:decide ((100:Int) < (ny:Int))=false:=decide_eq_false (by omega)
  have e1:decide (100 < ny)=false:=decide_eq_false (by omega)
  have d2:decide ((65536:Int) < (ne:Int))=false:=decide_eq_false (by omega)
  have e2:decide (65536 < ne)=false:=decide_eq_false (by omega)
  have HT:Hid (nx<=100/\ny<=100/\ne<=65536):=⟨by omega,by omega,by omega⟩
  clear g0 g1 g2
  go_wp2
  go_ret
  exact ⟨false,rfl,fun _=>⟨HL.out,HT.out⟩,HB.out⟩
theorem rSameIntsJ {w:World} {ao bo:Option Addr} {l m:List Int} {ca cb:Nat} (ha:IsVals w ao (iv l)) (hb:IsVals w bo (iv m)) (hn:l.length<=17592186043904):
  Calls Tryz.prog 36 #[.slice ao l.length ca,.slice bo m.length cb] w fun e w'=>(∃ b,e=.returned (.bool b)/\(b=true ↔ l=m))/\Below w.heap.size w w':=by
 by_cases hlen:l.length=m.length
 ·have HA:=show Hid _ from ha
  have HB:=show Hid _ from hb
  have HLn:=show Hid _ from hlen
  have hn2:(l.length:Int)<=17592186043904:=by omega
  have hne:((l.length:Int) != (l.length:Int))=false:=by simp
  rw [<-hlen]
  clear ha hb hlen
  go_enter Tryz.func36,Tryz.ntmps36
  go_wp2_with fail
  go_loopg [5] l.length (fun gq x wr=>∃ k:Nat,k+gq=l.length/\x=.int .i64 (k:Int)/\l.take k=m.take k/\Below w.heap.size w wr)
  case atStart=>exact ⟨0,by omega,rfl,rfl,Below.refl _ _⟩
  case round=>
   obtain ⟨k,hkg,rfl,htk,hbw⟩:=hrel
   have HG:Hid (k+gk=l.length/\Below w.heap.size w wr/\l.take k=m.take k):=⟨hkg,hbw,htk⟩
   by_cases hlt:k < l.length
   ·have hk':(k:Int) < (l.length:Int):=by omega
    have hk2:(k:Int)<=17592186043904:=by omega
    have hlm:k < m.length:=by have:=HLn.out;omega
    have hx:(iv l)[k]?=some (.int .i64 l[k]):=by rw [List.getElem?_map,List.getElem?_eq_getElem hlt];rfl
    have hy:(iv m)[k]?=some (.int .i64 m[k]):=by rw [List.getElem?_map,List.getElem?_eq_getElem hlm];rfl
    obtain ⟨g,o,rfl,_,d0⟩:=(IsVals.below HA.out hbw) k _ hx
    obtain ⟨g',o',rfl,_,e0⟩:=(IsVals.below HB.out hbw) k _ hy
    have HSame:Hid (l[k]=m[k]->l.take (k+1)=m.take (k+1)):=fun e=>by rw [List.take_add_one,List.take_add_one,HG.out.2.2,List.getElem?_eq_getElem hlt,List.getElem?_eq_getElem hlm,e]
    have HDiff:Hid (l[k] ≠ m[k]->l ≠ m):=fun e h=>e (by subst h;rfl)
    clear hx hy
    generalize l[k]=x at *
    generalize m[k]=y at *
    have HLt:Hid (k < l.length):=hlt
    clear hkg hlt hbw htk hlm
    by_cases hxy:x=y
    ·subst hxy
     have HS:Hid (l.take (k+1)=m.take (k+1)):=HSame.out rfl
     clear HSame HDiff
     have hq:(x != x)=false:=by simp
     go_wp2_with fail
     go_quiet (fail)
     go_wp2_with fail
     go_roundg (l.length - (k+1))
     case measure=>have:=HG.out.1;have:=HLt.out;omega
     case rel=>exact ⟨k+1,by have:=HLt.out;omega,by go_num,HS.out,HG.out.2.1.trans ((below_drewN _ _).mono HG.out.2.1.size)⟩
    ·have HD:Hid (l ≠ m):=HDiff.out hxy
     clear HSame HDiff
     have hq:(x != y)=true:=by simp [hxy]
     go_wp2_with fail
     go_quiet (fail)
     go_wp2
     go_ret
     exact ⟨⟨false,rfl,by simp [HD.out]⟩,HG.out.2.1.trans ((below_drewN _ _).mono HG.out.2.1.size)⟩
   ·have hk':decide (k < l.length)=false:=decide_eq_false hlt
    have HE:Hid (l=m):=by
     have hke:k=l.length:=by omega
     rw [hke,List.take_length,HLn.out,List.take_length] at htk
     exact htk
    clear hkg hlt hbw htk
    go_wp2
    go_ret
    exact ⟨⟨true,rfl,by simp [HE.out]⟩,HG.out.2.1⟩
 ·have hne:((l.length:Int) != (m.length:Int))=true:=by simp;omega
  have HD:Hid (l ≠ m):=fun e=>hlen (by rw [e])
  clear ha hb hlen hn
  go_enter Tryz.func36,Tryz.ntmps36
  go_wp2
  go_ret
  exact ⟨⟨false,rfl,by simp [HD.out]⟩,Below.refl _ _⟩
theorem rSameInts {w:World} {ao bo:Option Addr} {l m:List Int} {ca cb:Nat} (ha:IsVals w ao (iv l)) (hb:IsVals w bo (iv m)) (hn:l.length<=2932031007317):
  Calls Tryz.prog 36 #[.slice ao l.length ca,.slice bo m.length cb] w fun e w'=>(∃ b,e=.returned (.bool b)/\(b=true ↔ l=m))/\Below w.heap.size w w':=rSameIntsJ ha hb (by omega)
theorem costs2 {wq:World} {B:Nat} {v0 v1:Value} {T:TypeId} (h:wq.heap[B]?=some (.cells #[v0,v1] T (0,0))):wq.cell? ⟨B,0,none⟩=some v0/\wq.cell? ⟨B,1,none⟩=some v1:=by
 refine ⟨?_,?_⟩
 all_goals
  simp only [World.cell?,h]
  rfl
theorem same10 {w:World} {ao bo:Option Addr} {l:List Int} {ca cb:Nat} {m:Int} (ha:IsVals w ao (iv l)) (hb:IsVals w bo (iv l)) (hn:l.length<=17592186043904):
  Calls Tryz.prog 15 #[.agg #[.slice ao l.length ca,.int .i64 m],.agg #[.slice bo l.length cb,.int .i64 m]] w fun e w'=>e=.returned (.bool true)/\Below w.heap.size w w':=by
 have hbB:Below w.heap.size w ((w.alloc (.cells #[.slice ao l.length ca,.int .i64 m] 36)).alloc (.cells #[.slice bo l.length cb,.int .i64 m] 36)):=((Below.refl _ w).alloc (Nat.le_refl _) _).alloc (by simp) _
 have hp:((w.alloc (.cells #[.slice ao l.length ca,.int .i64 m] 36)).alloc (.cells #[.slice bo l.length cb,.int .i64 m] 36)).heap[w.heap.size]?=some (.cells #[.slice ao l.length ca,.int .i64 m] 36 (0,0)):=by rw [alloc_old _ _ _ (by simp)];exact alloc_at _ _ _ rfl
 have ht:((w.alloc (.cells #[.slice ao l.length ca,.int .i64 m] 36)).alloc (.cells #[.slice bo l.length cb,.int .i64 m] 36)).heap[w.heap.size+1]?=some (.cells #[.slice bo l.length cb,.int .i64 m] 36 (0,0)):=alloc_at _ _ _ (by simp)
 have HS:Hid (Calls Tryz.prog 36 #[.slice ao l.length ca,.slice bo l.length cb] ((w.alloc (.cells #[.slice ao l.length ca,.int .i64 m] 36)).alloc (.cells #[.slice bo l.length cb,.int .i64 m] 36)) fun e w'=>e=.returned (.bool true)/\Below w.heap.size w w'):=Calls.mono (rSameIntsJ (IsVals.below ha hbB) (IsVals.below hb hbB) hn) (fun e w' ⟨⟨b,he,hb⟩,hw⟩=>⟨by rw [he,hb.2 rfl],hbB.trans (hw.mono hbB.size)⟩)
 obtain ⟨a0,a1⟩:=costs2 hp
 obtain ⟨b0,b1⟩:=costs2 ht
 clear ha hb hn hbB hp ht
 go_enter Tryz.func15,Tryz.ntmps15
 go_wp2_with fail
 refine Calls.mono HS.out ?_
 rintro e w3 ⟨rfl,hb3⟩
 have HB:=show Hid _ from hb3
 clear hb3 a0 a1 b0 b1 HS
 go_wp2
 go_ret
 exact ⟨rfl,HB.out⟩
theorem vals_front {w:World} {ao:Option Addr} {xs ys:List Value} (h:IsVals w ao (xs++ys)):IsVals w ao xs:=fun k x hx=>h k x (by rw [List.getElem?_append_left (List.getElem?_eq_some_iff.1 hx).1];exact hx)
theorem own_cells {w:World} {base g n cap sz:Nat} {T:TypeId} {xs:List Value} (h:w.ownsRow base T sz (.slice (some ⟨g,0,none⟩) n cap) n xs):∃ cur:Array Value,w.heap[g]?=some (.cells cur T (0,0))/\cur.size=cap * sz/\n<=cap/\cap<=maxLen:=by
 rcases h.2 with ⟨e,_⟩ | ⟨g',c',cur,e,_,h3,h4,h5,h6,_⟩
 ·cases e
 ·cases e
  exact ⟨cur,h3,h6,h4,h5⟩
theorem cell_in {w:World} {g j:Nat} {T:TypeId} {cur:Array Value} (h:w.heap[g]?=some (.cells cur T (0,0))) (hj:j < cur.size):w.cell? ⟨g,j,none⟩=some cur[j]:=by
 rw [World.cell?,h]
 simp [hj]
theorem set_in {w:World} {g j:Nat} {T:TypeId} {cur:Array Value} (h:w.heap[g]?=some (.cells cur T (0,0))) (v:Value):(w.setCell ⟨g,j,none⟩ v).heap[g]?=some (.cells (cur.setIfInBounds j v) T (0,0)):=heap_setCell_same w g j cur T v h
theorem fr_set {w wr:World} {g:Nat} (h:Fr [g] w wr) (j:Nat) (v:Value):Fr [g] w (wr.setCell ⟨g,j,none⟩ v):=h.trans (Fr.set (F:=[g]) wr j v (by simp)) (fun x hx=>Or.inl hx)
theorem keptJ_any {w:World} {base g cap c:Nat} {l:List Int} {lo:Option Addr} (h1:w.ownsRow base 3 1 (.slice (some ⟨g,0,none⟩) (l.length+1) cap) (l.length+1) (iv l++[.int .i64 (-77)])) (h2:IsVals w lo (iv l)) (hn:l.length<=17592186043904):
  Calls Tryz.prog 35 #[.slice (some ⟨g,0,none⟩) l.length cap,.slice lo l.length c] w fun e w'=>e=.returned (.bool true)/\Fr [g] w w':=by
 have hv:=vals_of h1
 have HS:=show Hid _ from rSameIntsJ (ca:=cap) (cb:=c) (vals_front hv) h2 (by omega)
 obtain ⟨g',o',e',_,hmk⟩:=hv l.length (.int .i64 (-77)) (by rw [List.getElem?_append_right (by simp)];simp)
 cases e'
 obtain ⟨cur,hcur,hsz,hcap,hcm⟩:=own_cells h1
 have HC:Hid (w.heap[g]?=some (.cells cur 3 (0,0))/\cur.size=cap/\l.length+1<=cap):=⟨hcur,by omega,hcap⟩
 have HM:Hid (∀ W,Below w.heap.size w W->W.cell? ⟨g,l.length,none⟩=some (.int .i64 (-77))):=fun W hW=>by
  have:=(hW.cell (p:=⟨g,0+l.length,none⟩) (blk_lt hcur)).trans hmk
  rw [Nat.zero_add] at this
  exact this
 have hln:(l.length:Int)<=17592186043904:=by omega
 have hc1:(l.length:Int)+1<=(cap:Int):=by omega
 have hc2:(l.length:Int)<=(cap:Int):=by omega
 have hc3:l.length+1<=cap:=hcap
 have hc4:(cap:Int)<=9223372036854775807:=by unfold maxLen at hcm;omega
 clear h1 h2 hn hv hmk hcur hsz hcap hcm
 go_enter Tryz.func35,Tryz.ntmps35
 go_wp2_with fail
 refine Calls.mono HS.out ?_
 rintro e w1 ⟨⟨b,rfl,hbt⟩,hb1⟩
 obtain rfl:b=true:=by simpa using hbt
 have hm1:=HM.out w1 hb1
 have H1:Hid (w1.heap[g]?=some (.cells cur 3 (0,0))/\Fr [g] w w1):=⟨(hb1.block _ (blk_lt HC.out.1)).trans HC.out.1,Fr.of_below hb1⟩
 clear hbt hb1 HM HS
 go_wp2_with fail
 clear hm1
 go_loopg [6] l.length (fun gq x wr=>∃ (k:Nat) (cu:Array Value),k+gq=l.length/\x=.int .i64 (k:Int)/\wr.heap[g]?=some (.cells cu 3 (0,0))/\cu.size=cap/\Fr [g] w wr)
 case atStart=>exact ⟨0,cur,by omega,rfl,H1.out.1,HC.out.2.1,H1.out.2⟩
 case round=>
  obtain ⟨k,cu,hkg,rfl,hcu,hsz,hFr⟩:=hrel
  have HG:Hid (k+gk=l.length/\wr.heap[g]?=some (.cells cu 3 (0,0))/\cu.size=cap/\Fr [g] w wr):=⟨hkg,hcu,hsz,hFr⟩
  by_cases hlt:k < l.length
  ·have hk':(k:Int) < (l.length:Int):=by omega
   have hce:=cell_in hcu (j:=k) (by omega)
   have hfz:wr.frozen? ⟨g,k,none⟩=false:=by simp [World.frozen?,hcu]
   have HS2:Hid ((wr.setCell ⟨g,k,none⟩ (.int .i64 (-78))).heap[g]?=some (.cells (cu.setIfInBounds k (.int .i64 (-78))) 3 (0,0))/\Fr [g] w (wr.setCell ⟨g,k,none⟩ (.int .i64 (-78)))):=⟨set_in hcu _,fr_set hFr _ _⟩
   have HLt:Hid (k < l.length):=hlt
   generalize cu[k]'(by omega)=old at hce
   clear hkg hcu hsz hFr hlt
   go_wp2_with fail
   go_roundg (l.length - (k+1))
   case measure=>have:=HG.out.1;have:=HLt.out;omega
   case rel=>exact ⟨k+1,_,by have:=HLt.out;omega,by go_num,HS2.out.1,by simpa using HG.out.2.2.1,HS2.out.2⟩
  ·have hk':decide (k < l.length)=false:=decide_eq_false hlt
   have hk2:decide ((k:Int) < (l.length:Int))=false:=decide_eq_false (by omega)
   clear hkg hcu hsz hFr hlt
   go_wp2_with fail
   go_ret
   exact ⟨rfl,HG.out.2.2.2⟩
theorem keptI_any {w:World} {base g cap c:Nat} {l:List Int} {lo:Option Addr} (h1:w.ownsRow base 3 1 (.slice (some ⟨g,0,none⟩) (l.length+1) cap) (l.length+1) (iv l++[.int .i64 (-77)])) (h2:IsVals w lo (iv l)) (hn:l.length<=1000):
  Calls Tryz.prog 35 #[.slice (some ⟨g,0,none⟩) l.length cap,.slice lo l.length c] w fun e w'=>e=.returned (.bool true)/\Fr [g] w w':=keptJ_any h1 h2 (by omega)
theorem rSameTexts {w:World} {ao bo:Option Addr} {l m:List ByteArray} {ca cb:Nat} (ha:IsVals w ao (l.map Value.string)) (hb:IsVals w bo (m.map Value.string)) (hn:l.length<=2932031007317):
  Calls Tryz.prog 55 #[.slice ao l.length ca,.slice bo m.length cb] w fun e w'=>(∃ b,e=.returned (.bool b)/\(b=true ↔ l=m))/\Below w.heap.size w w':=by
 by_cases hlen:l.length=m.length
 ·have HA:=show Hid _ from ha
  have HB:=show Hid _ from hb
  have HLn:=show Hid _ from hlen
  have hn2:(l.length:Int)<=2932031007317:=by omega
  have hne:((l.length:Int) != (l.length:Int))=false:=by simp
  rw [<-hlen]
  clear ha hb hlen
  go_enter Tryz.func55,Tryz.ntmps55
  go_wp2_with fail
  go_loopg [5] l.length (fun gq x wr=>∃ k:Nat,k+gq=l.length/\x=.int .i64 (k:Int)/\l.take k=m.take k/\Below w.heap.size w wr)
  case atStart=>exact ⟨0,by omega,rfl,rfl,Below.refl _ _⟩
  case round=>
   obtain ⟨k,hkg,rfl,htk,hbw⟩:=hrel
   have HG:Hid (k+gk=l.length/\Below w.heap.size w wr/\l.take k=m.take k):=⟨hkg,hbw,htk⟩
   by_cases hlt:k < l.length
   ·have hk':(k:Int) < (l.length:Int):=by omega
    have hk2:(k:Int)<=2932031007317:=by omega
    have hlm:k < m.length:=by have:=HLn.out;omega
    have hx:(l.map Value.string)[k]?=some (.string l[k]):=by rw [List.getElem?_map,List.getElem?_eq_getElem hlt];rfl
    have hy:(m.map Value.string)[k]?=some (.string m[k]):=by rw [List.getElem?_map,List.getElem?_eq_getElem hlm];rfl
    obtain ⟨g,o,rfl,_,d0⟩:=(IsVals.below HA.out hbw) k _ hx
    obtain ⟨g',o',rfl,_,e0⟩:=(IsVals.below HB.out hbw) k _ hy
    have HSame:Hid (l[k]=m[k]->l.take (k+1)=m.take (k+1)):=fun e=>by rw [List.take_add_one,List.take_add_one,HG.out.2.2,List.getElem?_eq_getElem hlt,List.getElem?_eq_getElem hlm,e]
    have HDiff:Hid (l[k] ≠ m[k]->l ≠ m):=fun e h=>e (by subst h;rfl)
    clear hx hy
    generalize l[k]=x at *
    generalize m[k]=y at *
    have HLt:Hid (k < l.length):=hlt
    clear hkg hlt hbw htk hlm
    by_cases hxy:x=y
    ·subst hxy
     have HS:Hid (l.take (k+1)=m.take (k+1)):=HSame.out rfl
     clear HSame HDiff
     have hq:(x.toList != x.toList)=false:=by simp
     go_wp2_with fail
     go_quiet (fail)
     go_wp2_with fail
     go_roundg (l.length - (k+1))
     case measure=>have:=HG.out.1;have:=HLt.out;omega
     case rel=>exact ⟨k+1,by have:=HLt.out;omega,by go_num,HS.out,HG.out.2.1.trans ((below_drewN _ _).mono HG.out.2.1.size)⟩
    ·have HD:Hid (l ≠ m):=HDiff.out hxy
     clear HSame HDiff
     have hq0:¬ x.toList=y.toList:=fun e=>hxy (bytes_of e)
     have hq1:(x.toList == y.toList)=false:=by simpa using hq0
     have hq:(x.toList != y.toList)=true:=by simpa using hq0
     go_wp2_with fail
     go_quiet (fail)
     go_wp2
     go_ret
     exact ⟨⟨false,rfl,by simp [HD.out]⟩,HG.out.2.1.trans ((below_drewN _ _).mono HG.out.2.1.size)⟩
   ·have hk':decide (k < l.length)=false:=decide_eq_false hlt
    have HE:Hid (l=m):=by
     have hke:k=l.length:=by omega
     rw [hke,List.take_length,HLn.out,List.take_length] at htk
     exact htk
    clear hkg hlt hbw htk
    go_wp2
    go_ret
    exact ⟨⟨true,rfl,by simp [HE.out]⟩,HG.out.2.1⟩
 ·have hne:((l.length:Int) != (m.length:Int))=true:=by simp;omega
  have HD:Hid (l ≠ m):=fun e=>hlen (by rw [e])
  clear ha hb hlen hn
  go_enter Tryz.func55,Tryz.ntmps55
  go_wp2
  go_ret
  exact ⟨⟨false,rfl,by simp [HD.out]⟩,Below.refl _ _⟩
end Go.Proofs.YtinjccfhhdidiaaGreat.Nm
