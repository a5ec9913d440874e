import Derived.Test.YthbnjhamfcefkaaGreatK23
set_option maxHeartbeats 12800000
set_option maxRecDepth 100000
namespace Go.Proofs.YthbnjhamfcefkaaGreat.Nm
open Go.RowKit Go.Maps Sp Lx Gr
theorem rSameIntsJ {w:World} {ao bo:Option Addr} {l m:List Int} {ca cb:Nat} (ha:IsVals w ao (iv l)) (hb:IsVals w bo (iv m)) (hn:l.length<=17592186043904):
  Calls Tryz.prog 31 #[.slice ao l.length ca,.slice bo m.length cb] w fun e w'=>(∃ b,e=.returned (.bool b)/\(b=true ↔ l=m))/\Below w.heap.size w w':=by
 by_cases hlen:l.length=m.length
 ·have HA:=hdn <| ha
  have HB:=hdn <| hb
  have HLn:=hdn <| hlen
  have hn2:(l.length:Int)<=17592186043904:=by omega
  have hne:((l.length:Int) != (l.length:Int))=false:=by simp
  rw [<-hlen]
  clear ha hb hlen
  go_enter Tryz.func31,Tryz.ntmps31
  go_wp2_with fail
  go_loopg [5] l.length (fun gq x wr=>∃ k:Nat,k+gq=l.length/\x=.int .i64 (k:Int)/\l.take k=m.take k/\Below w.heap.size w wr)
  case atStart=>exact ⟨0,by omega,rfl,rfl,Below.refl _ _⟩
  case round=>
   obtain ⟨k,hkg,rfl,htk,hbw⟩:=hrel
   have HG:Hid (k+gk=l.length/\Below w.heap.size w wr/\l.take k=m.take k):=⟨hkg,hbw,htk⟩
   by_cases hlt:k < l.length
   ·have hk':(k:Int) < (l.length:Int):=by omega
    have hk2:(k:Int)<=17592186043904:=by omega
    have hlm:k < m.length:=by have:=HLn.out;omega
    have hx:(iv l)[k]?=some (.int .i64 l[k]):=by rw [List.getElem?_map,List.getElem?_eq_getElem hlt];rfl
    have hy:(iv m)[k]?=some (.int .i64 m[k]):=by rw [List.getElem?_map,List.getElem?_eq_getElem hlm];rfl
    obtain ⟨g,o,rfl,_,d0⟩:=(IsVals.below HA.out hbw) k _ hx
    obtain ⟨g',o',rfl,_,e0⟩:=(IsVals.below HB.out hbw) k _ hy
    have HSame:Hid (l[k]=m[k]->l.take (k+1)=m.take (k+1)):=fun e=>by rw [List.take_add_one,List.take_add_one,HG.out.2.2,List.getElem?_eq_getElem hlt,List.getElem?_eq_getElem hlm,e]
    have HDiff:Hid (l[k] ≠ m[k]->l ≠ m):=fun e h=>e (by subst h;rfl)
    clear hx hy
    generalize l[k]=x at *
    generalize m[k]=y at *
    have HLt:Hid (k < l.length):=hlt
    clear hkg hlt hbw htk hlm
    by_cases hxy:x=y
    ·subst hxy
     have HS:Hid (l.take (k+1)=m.take (k+1)):=HSame.out rfl
     clear HSame HDiff
     have hq:(x != x)=false:=by simp
     go_wp2_with fail
     go_quiet (fail)
     go_wp2_with fail
     go_roundg (l.length - (k+1))
     case measure=>have:=HG.out.1;have:=HLt.out;omega
     case rel=>exact ⟨k+1,by have:=HLt.out;omega,by go_num,HS.out,HG.out.2.1.trans ((below_drewN _ _).mono HG.out.2.1.size)⟩
    ·have HD:Hid (l ≠ m):=HDiff.out hxy
     clear HSame HDiff
     have hq:(x != y)=true:=by simp [hxy]
     go_wp2_with fail
     go_quiet (fail)
     go_wp2
     go_ret
     exact ⟨⟨false,rfl,by simp [HD.out]⟩,HG.out.2.1.trans ((below_drewN _ _).mono HG.out.2.1.size)⟩
   ·have hk':decide (k < l.length)=false:=decide_eq_false hlt
    have HE:Hid (l=m):=by
     have hke:k=l.length:=by omega
     rw [hke,List.take_length,HLn.out,List.take_length] at htk
     exact htk
    clear hkg hlt hbw htk
    go_wp2
    go_ret
    exact ⟨⟨true,rfl,by simp [HE.out]⟩,HG.out.2.1⟩
 ·have hne:((l.length:Int) != (m.length:Int))=true:=by simp;omega
  have HD:Hid (l ≠ m):=fun e=>hlen (by rw [e])
  clear ha hb hlen hn
  go_enter Tryz.func31,Tryz.ntmps31
  go_wp2
  go_ret
  exact ⟨⟨false,rfl,by simp [HD.out]⟩,Below.refl _ _⟩
theorem rSameInts {w:World} {ao bo:Option Addr} {l m:List Int} {ca cb:Nat} (ha:IsVals w ao (iv l)) (hb:IsVals w bo (iv m)) (hn:l.length<=2932031007317):
  Calls Tryz.prog 31 #[.slice ao l.length ca,.slice bo m.length cb] w fun e w'=>(∃ b,e=.returned (.bool b)/\(b=true ↔ l=m))/\Below w.heap.size w w':=rSameIntsJ ha hb (by omega)
theorem rSameTexts {w:World} {ao bo:Option Addr} {l m:List ByteArray} {ca cb:Nat} (ha:IsVals w ao (l.map Value.string)) (hb:IsVals w bo (m.map Value.string)) (hn:l.length<=2932031007317):
  Calls Tryz.prog 66 #[.slice ao l.length ca,.slice bo m.length cb] w fun e w'=>(∃ b,e=.returned (.bool b)/\(b=true ↔ l=m))/\Below w.heap.size w w':=by
 by_cases hlen:l.length=m.length
 ·have HA:=hdn <| ha
  have HB:=hdn <| hb
  have HLn:=hdn <| hlen
  have hn2:(l.length:Int)<=2932031007317:=by omega
  have hne:((l.length:Int) != (l.length:Int))=false:=by simp
  rw [<-hlen]
  clear ha hb hlen
  go_enter Tryz.func66,Tryz.ntmps66
  go_wp2_with fail
  go_loopg [5] l.length (fun gq x wr=>∃ k:Nat,k+gq=l.length/\x=.int .i64 (k:Int)/\l.take k=m.take k/\Below w.heap.size w wr)
  case atStart=>exact ⟨0,by omega,rfl,rfl,Below.refl _ _⟩
  case round=>
   obtain ⟨k,hkg,rfl,htk,hbw⟩:=hrel
   have HG:Hid (k+gk=l.length/\Below w.heap.size w wr/\l.take k=m.take k):=⟨hkg,hbw,htk⟩
   by_cases hlt:k < l.length
   ·have hk':(k:Int) < (l.length:Int):=by omega
    have hk2:(k:Int)<=2932031007317:=by omega
    have hlm:k < m.length:=by have:=HLn.out;omega
    have hx:(l.map Value.string)[k]?=some (.string l[k]):=by rw [List.getElem?_map,List.getElem?_eq_getElem hlt];rfl
    have hy:(m.map Value.string)[k]?=some (.string m[k]):=by rw [List.getElem?_map,List.getElem?_eq_getElem hlm];rfl
    obtain ⟨g,o,rfl,_,d0⟩:=(IsVals.below HA.out hbw) k _ hx
    obtain ⟨g',o',rfl,_,e0⟩:=(IsVals.below HB.out hbw) k _ hy
    have HSame:Hid (l[k]=m[k]->l.take (k+1)=m.take (k+1)):=fun e=>by rw [List.take_add_one,List.take_add_one,HG.out.2.2,List.getElem?_eq_getElem hlt,List.getElem?_eq_getElem hlm,e]
    have HDiff:Hid (l[k] ≠ m[k]->l ≠ m):=fun e h=>e (by subst h;rfl)
    clear hx hy
    generalize l[k]=x at *
    generalize m[k]=y at *
    have HLt:Hid (k < l.length):=hlt
    clear hkg hlt hbw htk hlm
    by_cases hxy:x=y
    ·subst hxy
     have HS:Hid (l.take (k+1)=m.take (k+1)):=HSame.out rfl
     clear HSame HDiff
     have hq:(x.toList != x.toList)=false:=by simp
     go_wp2_with fail
     go_quiet (fail)
     go_wp2_with fail
     go_roundg (l.length - (k+1))
     case measure=>have:=HG.out.1;have:=HLt.out;omega
     case rel=>exact ⟨k+1,by have:=HLt.out;omega,by go_num,HS.out,HG.out.2.1.trans ((below_drewN _ _).mono HG.out.2.1.size)⟩
    ·have HD:Hid (l ≠ m):=HDiff.out hxy
     clear HSame HDiff
     have hq0:¬ x.toList=y.toList:=fun e=>hxy (bytes_of e)
     have hq1:(x.toList == y.toList)=false:=by simpa using hq0
     have hq:(x.toList != y.toList)=true:=by simpa using hq0
     go_wp2_with fail
     go_quiet (fail)
     go_wp2
     go_ret
     exact ⟨⟨false,rfl,by simp [HD.out]⟩,HG.out.2.1.trans ((below_drewN _ _).mono HG.out.2.1.size)⟩
   ·have hk':decide (k < l.length)=false:=decide_eq_false hlt
    have HE:Hid (l=m):=by
     have hke:k=l.length:=by omega
     rw [hke,List.take_length,HLn.out,List.take_length] at htk
     exact htk
    clear hkg hlt hbw htk
    go_wp2
    go_ret
    exact ⟨⟨true,rfl,by simp [HE.out]⟩,HG.out.2.1⟩
 ·have hne:((l.length:Int) != (m.length:Int))=true:=by simp;omega
  have HD:Hid (l ≠ m):=fun e=>hlen (by rw [e])
  clear ha hb hlen hn
  go_enter Tryz.func66,Tryz.ntmps66
  go_wp2
  go_ret
  exact ⟨⟨false,rfl,by simp [HD.out]⟩,Below.refl _ _⟩
theorem rsame_any {w:World} {p q:Pg} {ao qo vo tto uo oo ao2 qo2 vo2 tto2 uo2 oo2:Option Addr} {ac qc vc tc uc oc ac2 qc2 vc2 tc2 uc2 oc2:Nat} (h1:RdG w p ao qo vo tto uo oo) (h2:RdG w q ao2 qo2 vo2 tto2 uo2 oo2) (hp:p.Sm):
  Calls Tryz.prog 44 #[pvG p ao qo vo tto uo oo ac qc vc tc uc oc,pvG q ao2 qo2 vo2 tto2 uo2 oo2 ac2 qc2 vc2 tc2 uc2 oc2] w fun e w'=>(∃ b,e=.returned (.bool b)/\(b=true ↔ p=q))/\Below w.heap.size w w':=by
 dsimp only [pvG]
 have hb0:Below w.heap.size w ((w.alloc (.cells #[.string p.name,.slice ao p.rows.length ac,.slice qo p.qs.length qc,.slice vo p.vs.length vc,.slice tto p.ts.length tc,.slice uo p.us.length uc,.slice oo p.on.length oc,.int .i64 p.miss] 29)).alloc (.cells #[.string q.name,.slice ao2 q.rows.length ac2,.slice qo2 q.qs.length qc2,.slice vo2 q.vs.length vc2,.slice tto2 q.ts.length tc2,.slice uo2 q.us.length uc2,.slice oo2 q.on.length oc2,.int .i64 q.miss] 29)):=(bAl w _).alloc (by simp) _
 have HB0:Hid (Below w.heap.size w ((w.alloc (.cells #[.string p.name,.slice ao p.rows.length ac,.slice qo p.qs.length qc,.slice vo p.vs.length vc,.slice tto p.ts.length tc,.slice uo p.us.length uc,.slice oo p.on.length oc,.int .i64 p.miss] 29)).alloc (.cells #[.string q.name,.slice ao2 q.rows.length ac2,.slice qo2 q.qs.length qc2,.slice vo2 q.vs.length vc2,.slice tto2 q.ts.length tc2,.slice uo2 q.us.length uc2,.slice oo2 q.on.length oc2,.int .i64 q.miss] 29))/\((w.alloc (.cells #[.string p.name,.slice ao p.rows.length ac,.slice qo p.qs.length qc,.slice vo p.vs.length vc,.slice tto p.ts.length tc,.slice uo p.us.length uc,.slice oo p.on.length oc,.int .i64 p.miss] 29)).alloc (.cells #[.string q.name,.slice ao2 q.rows.length ac2,.slice qo2 q.qs.length qc2,.slice vo2 q.vs.length vc2,.slice tto2 q.ts.length tc2,.slice uo2 q.us.length uc2,.slice oo2 q.on.length oc2,.int .i64 q.miss] 29)).heap[w.heap.size]?=some (.cells #[.string p.name,.slice ao p.rows.length ac,.slice qo p.qs.length qc,.slice vo p.vs.length vc,.slice tto p.ts.length tc,.slice uo p.us.length uc,.slice oo p.on.length oc,.int .i64 p.miss] 29 (0,0))/\((w.alloc (.cells #[.string p.name,.slice ao p.rows.length ac,.slice qo p.qs.length qc,.slice vo p.vs.length vc,.slice tto p.ts.length tc,.slice uo p.us.length uc,.slice oo p.on.length oc,.int .i64 p.miss] 29)).alloc (.cells #[.string q.name,.slice ao2 q.rows.length ac2,.slice qo2 q.qs.length qc2,.slice vo2 q.vs.length vc2,.slice tto2 q.ts.length tc2,.slice uo2 q.us.length uc2,.slice oo2 q.on.length oc2,.int .i64 q.miss] 29)).heap[w.heap.size+1]?=some (.cells #[.string q.name,.slice ao2 q.rows.length ac2,.slice qo2 q.qs.length qc2,.slice vo2 q.vs.length vc2,.slice tto2 q.ts.length tc2,.slice uo2 q.us.length uc2,.slice oo2 q.on.length oc2,.int .i64 q.miss] 29 (0,0))):=⟨hb0,by rw [alloc_old _ _ _ (by simp)];exact alloc_at _ _ _ rfl,alloc_at _ _ _ (by simp)⟩
 have HS1:=hdn <| hp
 have H1:=hdn <| h1
 have H2:=hdn <| h2
 obtain ⟨k0,k1,k2,k3,k4,k5,k6,k7⟩:=pol8 HB0.out.2.1
 obtain ⟨m0,m1,m2,m3,m4,m5,m6,m7⟩:=pol8 HB0.out.2.2
 clear h1 h2 hp hb0
 by_cases hnm:p.name=q.name
 case neg=>
  have hnx:¬ p.name.toList=q.name.toList:=fun e=>hnm (bytes_of e)
  have hnb0:(p.name.toList == q.name.toList)=false:=by simpa using hnx
  have hnb:(p.name.toList != q.name.toList)=true:=by simpa using hnx
  clear hnx
  have HNe:Hid (p ≠ q):=fun e=>hnm (by rw [e])
  clear hnm
  go_enter Tryz.func44,Tryz.ntmps44
  go_wp2
  go_ret
  exact ⟨⟨false,rfl,by simp [HNe.out]⟩,HB0.out.1⟩
 have hnb0:(p.name.toList == q.name.toList)=true:=by rw [hnm];simp
 have hnb:(p.name.toList != q.name.toList)=false:=by rw [hnm];simp
 have HNm:=hdn <| hnm
 clear hnm
 by_cases hmi:p.miss=q.miss
 case neg=>
  have hmb:(p.miss != q.miss)=true:=by simp [hmi]
  have HNe:Hid (p ≠ q):=fun e=>hmi (by rw [e])
  clear hmi
  go_enter Tryz.func44,Tryz.ntmps44
  go_wp2
  go_ret
  exact ⟨⟨false,rfl,by simp [HNe.out]⟩,HB0.out.1⟩
 have hmb:(p.miss != q.miss)=false:=by simp [hmi]
 have HMi:=hdn <| hmi
 clear hmi
 by_cases hlr:p.rows.length=q.rows.length
 case neg=>
  have hlrb:((p.rows.length:Int) != (q.rows.length:Int))=true:=by simp;omega
  have HNe:Hid (p ≠ q):=fun e=>hlr (by rw [e])
  clear hlr
  go_enter Tryz.func44,Tryz.ntmps44
  go_wp2
  go_ret
  exact ⟨⟨false,rfl,by simp [HNe.out]⟩,HB0.out.1⟩
 have hlrb:((p.rows.length:Int) != (q.rows.length:Int))=false:=by simp;omega
 have Hhlr:=hdn <| hlr
 clear hlr
 by_cases hlq:p.qs.length=q.qs.length
 case neg=>
  have hlqb:((p.qs.length:Int) != (q.qs.length:Int))=true:=by simp;omega
  have HNe:Hid (p ≠ q):=fun e=>hlq (by rw [e])
  clear hlq
  go_enter Tryz.func44,Tryz.ntmps44
  go_wp2
  go_ret
  exact ⟨⟨false,rfl,by simp [HNe.out]⟩,HB0.out.1⟩
 have hlqb:((p.qs.length:Int) != (q.qs.length:Int))=false:=by simp;omega
 have Hhlq:=hdn <| hlq
 clear hlq
 have hpr:(p.rows.length:Int)<=2932031007317:=by have:=HS1.out.r;omega
 have hpq:(p.qs.length:Int)<=2932031007317:=by have:=HS1.out.q;omega
 go_enter Tryz.func44,Tryz.ntmps44
 go_wp2_with fail
 clear hnb0 hnb hmb hlrb hlqb k0 k1 k2 k3 k4 k5 k6 k7 m0 m1 m2 m3 m4 m5 m6 m7
 go_loopg [5] p.rows.length (fun gq x wr=>∃ k:Nat,k+gq=p.rows.length/\x=.int .i64 (k:Int)/\p.rows.take k=q.rows.take k/\Below w.heap.size w wr/\wr.heap[w.heap.size]?=some (.cells #[.string p.name,.slice ao p.rows.length ac,.slice qo p.qs.length qc,.slice vo p.vs.length vc,.slice tto p.ts.length tc,.slice uo p.us.length uc,.slice oo p.on.length oc,.int .i64 p.miss] 29 (0,0))/\wr.heap[w.heap.size+1]?=some (.cells #[.string q.name,.slice ao2 q.rows.length ac2,.slice qo2 q.qs.length qc2,.slice vo2 q.vs.length vc2,.slice tto2 q.ts.length tc2,.slice uo2 q.us.length uc2,.slice oo2 q.on.length oc2,.int .i64 q.miss] 29 (0,0)))
 case atStart=>exact ⟨0,by omega,rfl,rfl,HB0.out⟩
 case round=>
  obtain ⟨k,hkg,rfl,htk,hbw⟩:=hrel
  have HG:Hid (k+gk=p.rows.length/\(Below w.heap.size w wr/\wr.heap[w.heap.size]?=some (.cells #[.string p.name,.slice ao p.rows.length ac,.slice qo p.qs.length qc,.slice vo p.vs.length vc,.slice tto p.ts.length tc,.slice uo p.us.length uc,.slice oo p.on.length oc,.int .i64 p.miss] 29 (0,0))/\wr.heap[w.heap.size+1]?=some (.cells #[.string q.name,.slice ao2 q.rows.length ac2,.slice qo2 q.qs.length qc2,.slice vo2 q.vs.length vc2,.slice tto2 q.ts.length tc2,.slice uo2 q.us.length uc2,.slice oo2 q.on.length oc2,.int .i64 q.miss] 29 (0,0)))/\p.rows.take k=q.rows.take k):=⟨hkg,hbw,htk⟩
  obtain ⟨k0,k1,k2,k3,k4,k5,k6,k7⟩:=pol8 hbw.2.1
  obtain ⟨m0,m1,m2,m3,m4,m5,m6,m7⟩:=pol8 hbw.2.2
  by_cases hlt:k < p.rows.length
  ·have hk1:(k:Int) < (p.rows.length:Int):=by omega
   have hk2:(k:Int)<=2932031007317:=by omega
   have hlm:k < q.rows.length:=by have:=Hhlr.out;omega
   have hlm2:(k:Int) < (q.rows.length:Int):=by omega
   have hdr:∀ n,Hid (Below w.heap.size w (wr.drewN n)/\(wr.drewN n).heap[w.heap.size]?=some (.cells #[.string p.name,.slice ao p.rows.length ac,.slice qo p.qs.length qc,.slice vo p.vs.length vc,.slice tto p.ts.length tc,.slice uo p.us.length uc,.slice oo p.on.length oc,.int .i64 p.miss] 29 (0,0))/\(wr.drewN n).heap[w.heap.size+1]?=some (.cells #[.string q.name,.slice ao2 q.rows.length ac2,.slice qo2 q.qs.length qc2,.slice vo2 q.vs.length vc2,.slice tto2 q.ts.length tc2,.slice uo2 q.us.length uc2,.slice oo2 q.on.length oc2,.int .i64 q.miss] 29 (0,0))):=fun n=>⟨HG.out.2.1.1.trans ((below_drewN _ _).mono HG.out.2.1.1.size),((below_drewN _ _).block _ (blk_lt HG.out.2.1.2.1)).trans HG.out.2.1.2.1,((below_drewN _ _).block _ (blk_lt HG.out.2.1.2.2)).trans HG.out.2.1.2.2⟩
   have hx:=List.getElem?_eq_getElem hlt
   have hy:=List.getElem?_eq_getElem hlm
   obtain ⟨g,o,hao,_,d0,d1,d2,d3,d4⟩:=(IsRz.below H1.out.r hbw.1) k _ hx
   obtain ⟨g',o',hao2,_,e0,e1,e2,e3,e4⟩:=(IsRz.below H2.out.r hbw.1) k _ hy
   subst hao
   subst hao2
   clear hx hy
   have HSame:Hid (p.rows[k]=q.rows[k]->p.rows.take (k+1)=q.rows.take (k+1)):=fun e=>by rw [List.take_add_one,List.take_add_one,HG.out.2.2,List.getElem?_eq_getElem hlt,List.getElem?_eq_getElem hlm,e]
   have HDiff:Hid (p.rows[k] ≠ q.rows[k]->p ≠ q):=fun e h=>e (by subst h;rfl)
   generalize p.rows[k]=x at *
   generalize q.rows[k]=y at *
   have HLt:Hid (k < p.rows.length):=hlt
   clear hkg hlt hbw htk hlm
   by_cases hxy:x=y
   ·subst hxy
    have HS:Hid (p.rows.take (k+1)=q.rows.take (k+1)):=HSame.out rfl
    clear HSame HDiff
    obtain ⟨kd,nm,st,n,ks⟩:=x
    dsimp only at *
    go_wp2_with fail
    go_quiet (fail)
    go_wp2_with fail
    go_roundg (p.rows.length - (k+1))
    case measure=>have:=HG.out.1;have:=HLt.out;omega
    case rel=>exact ⟨k+1,by have:=HLt.out;omega,by go_num,HS.out,(hdr _).out⟩
   ·have HD:Hid (p ≠ q):=HDiff.out hxy
    clear HSame HDiff
    have hq:∀ u:World,(binOp BinOp.neq 51 (rv x) (rv y)).run Tryz.prog u=.ok (.bool true) u:=fun u=>neq_row hxy u
    obtain ⟨kd,nm,st,n,ks⟩:=x
    obtain ⟨kd',nm',st',n',ks'⟩:=y
    dsimp only at *
    go_wp2_with fail
    go_quiet (fail)
    go_wp2
    go_ret
    exact ⟨⟨false,rfl,by simp [HD.out]⟩,(hdr _).out.1⟩
  ·have hk1:decide (k < p.rows.length)=false:=decide_eq_false hlt
   have HT0:Hid (p.rows=q.rows):=by
    have hke:k=p.rows.length:=by omega
    rw [hke,List.take_length,Hhlr.out,List.take_length] at htk
    exact htk
   have HW:Hid (Below w.heap.size w wr/\wr.heap[w.heap.size]?=some (.cells #[.string p.name,.slice ao p.rows.length ac,.slice qo p.qs.length qc,.slice vo p.vs.length vc,.slice tto p.ts.length tc,.slice uo p.us.length uc,.slice oo p.on.length oc,.int .i64 p.miss] 29 (0,0))/\wr.heap[w.heap.size+1]?=some (.cells #[.string q.name,.slice ao2 q.rows.length ac2,.slice qo2 q.qs.length qc2,.slice vo2 q.vs.length vc2,.slice tto2 q.ts.length tc2,.slice uo2 q.us.length uc2,.slice oo2 q.on.length oc2,.int .i64 q.miss] 29 (0,0))):=hbw
   clear hkg hlt hbw htk HG
   go_wp2_with fail
   clear k0 k1 k2 k3 k4 k5 k6 k7 m0 m1 m2 m3 m4 m5 m6 m7
   have HW0:=hdn <| HW.out
   clear HW
   go_loopg [6] p.qs.length (fun gq x wr=>∃ k:Nat,k+gq=p.qs.length/\x=.int .i64 (k:Int)/\p.qs.take k=q.qs.take k/\Below w.heap.size w wr/\wr.heap[w.heap.size]?=some (.cells #[.string p.name,.slice ao p.rows.length ac,.slice qo p.qs.length qc,.slice vo p.vs.length vc,.slice tto p.ts.length tc,.slice uo p.us.length uc,.slice oo p.on.length oc,.int .i64 p.miss] 29 (0,0))/\wr.heap[w.heap.size+1]?=some (.cells #[.string q.name,.slice ao2 q.rows.length ac2,.slice qo2 q.qs.length qc2,.slice vo2 q.vs.length vc2,.slice tto2 q.ts.length tc2,.slice uo2 q.us.length uc2,.slice oo2 q.on.length oc2,.int .i64 q.miss] 29 (0,0)))
   case atStart=>exact ⟨0,by omega,rfl,rfl,HW0.out⟩
   case round=>
    obtain ⟨k,hkg,rfl,htk,hbw⟩:=hrel
    have HG:Hid (k+gk=p.qs.length/\(Below w.heap.size w wr/\wr.heap[w.heap.size]?=some (.cells #[.string p.name,.slice ao p.rows.length ac,.slice qo p.qs.length qc,.slice vo p.vs.length vc,.slice tto p.ts.length tc,.slice uo p.us.length uc,.slice oo p.on.length oc,.int .i64 p.miss] 29 (0,0))/\wr.heap[w.heap.size+1]?=some (.cells #[.string q.name,.slice ao2 q.rows.length ac2,.slice qo2 q.qs.length qc2,.slice vo2 q.vs.length vc2,.slice tto2 q.ts.length tc2,.slice uo2 q.us.length uc2,.slice oo2 q.on.length oc2,.int .i64 q.miss] 29 (0,0)))/\p.qs.take k=q.qs.take k):=⟨hkg,hbw,htk⟩
    obtain ⟨k0,k1,k2,k3,k4,k5,k6,k7⟩:=pol8 hbw.2.1
    obtain ⟨m0,m1,m2,m3,m4,m5,m6,m7⟩:=pol8 hbw.2.2
    by_cases hlt:k < p.qs.length
    ·have hk1:(k:Int) < (p.qs.length:Int):=by omega
     have hk2:(k:Int)<=2932031007317:=by omega
     have hlm:k < q.qs.length:=by have:=Hhlq.out;omega
     have hlm2:(k:Int) < (q.qs.length:Int):=by omega
     have hdr:∀ n,Hid (Below w.heap.size w (wr.drewN n)/\(wr.drewN n).heap[w.heap.size]?=some (.cells #[.string p.name,.slice ao p.rows.length ac,.slice qo p.qs.length qc,.slice vo p.vs.length vc,.slice tto p.ts.length tc,.slice uo p.us.length uc,.slice oo p.on.length oc,.int .i64 p.miss] 29 (0,0))/\(wr.drewN n).heap[w.heap.size+1]?=some (.cells #[.string q.name,.slice ao2 q.rows.length ac2,.slice qo2 q.qs.length qc2,.slice vo2 q.vs.length vc2,.slice tto2 q.ts.length tc2,.slice uo2 q.us.length uc2,.slice oo2 q.on.length oc2,.int .i64 q.miss] 29 (0,0))):=fun n=>⟨HG.out.2.1.1.trans ((below_drewN _ _).mono HG.out.2.1.1.size),((below_drewN _ _).block _ (blk_lt HG.out.2.1.2.1)).trans HG.out.2.1.2.1,((below_drewN _ _).block _ (blk_lt HG.out.2.1.2.2)).trans HG.out.2.1.2.2⟩
     obtain ⟨hx,hx2⟩:=qF_at p.qs k hlt
     obtain ⟨hy,hy2⟩:=qF_at q.qs k hlm
     obtain ⟨g,o,hao,_,d0⟩:=(IsVals.below H1.out.q hbw.1) _ _ hx
     obtain ⟨g',o',hao2,_,e0⟩:=(IsVals.below H2.out.q hbw.1) _ _ hy
     obtain ⟨g2,o2,he2,_,d1⟩:=(IsVals.below H1.out.q hbw.1) _ _ hx2
     obtain ⟨g3,o3,he3,_,e1⟩:=(IsVals.below H2.out.q hbw.1) _ _ hy2
     subst hao
     subst hao2
     cases he2
     cases he3
     rw [<-Nat.add_assoc] at d1 e1
     clear hx hy hx2 hy2
     have HSame:Hid (p.qs[k]=q.qs[k]->p.qs.take (k+1)=q.qs.take (k+1)):=fun e=>by rw [List.take_add_one,List.take_add_one,HG.out.2.2,List.getElem?_eq_getElem hlt,List.getElem?_eq_getElem hlm,e]
     have HDiff:Hid (p.qs[k] ≠ q.qs[k]->p ≠ q):=fun e h=>e (by subst h;rfl)
     generalize p.qs[k]=x at *
     generalize q.qs[k]=y at *
     have HLt:Hid (k < p.qs.length):=hlt
     clear hkg hlt hbw htk hlm
     by_cases hxy:x=y
     ·subst hxy
      have HS:Hid (p.qs.take (k+1)=q.qs.take (k+1)):=HSame.out rfl
      clear HSame HDiff
      obtain ⟨x1,x2⟩:=x
      dsimp only at *
      go_wp2_with fail
      go_quiet (fail)
      go_wp2_with fail
      go_roundg (p.qs.length - (k+1))
      case measure=>have:=HG.out.1;have:=HLt.out;omega
      case rel=>exact ⟨k+1,by have:=HLt.out;omega,by go_num,HS.out,(hdr _).out⟩
     ·have HD:Hid (p ≠ q):=HDiff.out hxy
      clear HSame HDiff
      have hq:∀ u:World,(binOp BinOp.neq 69 (.agg #[.string x.1,.bool x.2]) (.agg #[.string y.1,.bool y.2])).run Tryz.prog u=.ok (.bool true) u:=fun u=>neq_queue hxy u
      obtain ⟨x1,x2⟩:=x
      obtain ⟨y1,y2⟩:=y
      dsimp only at *
      go_wp2_with fail
      go_quiet (fail)
      go_wp2
      go_ret
      exact ⟨⟨false,rfl,by simp [HD.out]⟩,(hdr _).out.1⟩
    ·have hk1:decide (k < p.qs.length)=false:=decide_eq_false hlt
     have HT1:Hid (p.qs=q.qs):=by
      have hke:k=p.qs.length:=by omega
      rw [hke,List.take_length,Hhlq.out,List.take_length] at htk
      exact htk
     have HW:Hid (Below w.heap.size w wr/\wr.heap[w.heap.size]?=some (.cells #[.string p.name,.slice ao p.rows.length ac,.slice qo p.qs.length qc,.slice vo p.vs.length vc,.slice tto p.ts.length tc,.slice uo p.us.length uc,.slice oo p.on.length oc,.int .i64 p.miss] 29 (0,0))/\wr.heap[w.heap.size+1]?=some (.cells #[.string q.name,.slice ao2 q.rows.length ac2,.slice qo2 q.qs.length qc2,.slice vo2 q.vs.length vc2,.slice tto2 q.ts.length tc2,.slice uo2 q.us.length uc2,.slice oo2 q.on.length oc2,.int .i64 q.miss] 29 (0,0))):=hbw
     clear hkg hlt hbw htk HG
     have HB2:=hdn <| HW.out
     clear HW
     go_wp2_with fail
     have HC:=hdn <| rSameTexts (ca:=vc) (cb:=vc2) (RdG.below H1.out HB2.out.1).v (RdG.below H2.out HB2.out.1).v HS1.out.v
     clear k0 k1 k2 k3 k4 k5 k6 k7 m0 m1 m2 m3 m4 m5 m6 m7
     refine Calls.mono HC.out ?_
     rintro e w3 ⟨⟨b,rfl,hbi⟩,hb3⟩
     have HB3:Hid (Below w.heap.size w w3/\w3.heap[w.heap.size]?=some (.cells #[.string p.name,.slice ao p.rows.length ac,.slice qo p.qs.length qc,.slice vo p.vs.length vc,.slice tto p.ts.length tc,.slice uo p.us.length uc,.slice oo p.on.length oc,.int .i64 p.miss] 29 (0,0))/\w3.heap[w.heap.size+1]?=some (.cells #[.string q.name,.slice ao2 q.rows.length ac2,.slice qo2 q.qs.length qc2,.slice vo2 q.vs.length vc2,.slice tto2 q.ts.length tc2,.slice uo2 q.us.length uc2,.slice oo2 q.on.length oc2,.int .i64 q.miss] 29 (0,0))):=⟨HB2.out.1.trans (hb3.mono HB2.out.1.size),(hb3.block _ (blk_lt HB2.out.2.1)).trans HB2.out.2.1,(hb3.block _ (blk_lt HB2.out.2.2)).trans HB2.out.2.2⟩
     have HI2:=hdn <| hbi
     clear HC hb3 hbi
     cases b with
     | false=>
      have HNe:Hid (p ≠ q):=fun e=>absurd (HI2.out.2 (by rw [e])) (by decide)
      go_wp2
      go_ret
      exact ⟨⟨false,rfl,by simp [HNe.out]⟩,HB3.out.1⟩
     | true=>
      have HT2:=hdn <| HI2.out.1 rfl
      clear HI2
      obtain ⟨k0,k1,k2,k3,k4,k5,k6,k7⟩:=pol8 HB3.out.2.1
      obtain ⟨m0,m1,m2,m3,m4,m5,m6,m7⟩:=pol8 HB3.out.2.2
      go_wp2_with fail
      have HC:=hdn <| rSameTexts (ca:=tc) (cb:=tc2) (RdG.below H1.out HB3.out.1).t (RdG.below H2.out HB3.out.1).t HS1.out.t
      clear k0 k1 k2 k3 k4 k5 k6 k7 m0 m1 m2 m3 m4 m5 m6 m7
      refine Calls.mono HC.out ?_
      rintro e w4 ⟨⟨b,rfl,hbi⟩,hb4⟩
      have HB4:Hid (Below w.heap.size w w4/\w4.heap[w.heap.size]?=some (.cells #[.string p.name,.slice ao p.rows.length ac,.slice qo p.qs.length qc,.slice vo p.vs.length vc,.slice tto p.ts.length tc,.slice uo p.us.length uc,.slice oo p.on.length oc,.int .i64 p.miss] 29 (0,0))/\w4.heap[w.heap.size+1]?=some (.cells #[.string q.name,.slice ao2 q.rows.length ac2,.slice qo2 q.qs.length qc2,.slice vo2 q.vs.length vc2,.slice tto2 q.ts.length tc2,.slice uo2 q.us.length uc2,.slice oo2 q.on.length oc2,.int .i64 q.miss] 29 (0,0))):=⟨HB3.out.1.trans (hb4.mono HB3.out.1.size),(hb4.block _ (blk_lt HB3.out.2.1)).trans HB3.out.2.1,(hb4.block _ (blk_lt HB3.out.2.2)).trans HB3.out.2.2⟩
      have HI3:=hdn <| hbi
      clear HC hb4 hbi
      cases b with
      | false=>
       have HNe:Hid (p ≠ q):=fun e=>absurd (HI3.out.2 (by rw [e])) (by decide)
       go_wp2
       go_ret
       exact ⟨⟨false,rfl,by simp [HNe.out]⟩,HB4.out.1⟩
      | true=>
       have HT3:=hdn <| HI3.out.1 rfl
       clear HI3
       obtain ⟨k0,k1,k2,k3,k4,k5,k6,k7⟩:=pol8 HB4.out.2.1
       obtain ⟨m0,m1,m2,m3,m4,m5,m6,m7⟩:=pol8 HB4.out.2.2
       go_wp2_with fail
       have HC:=hdn <| rSameInts (ca:=uc) (cb:=uc2) (RdG.below H1.out HB4.out.1).u (RdG.below H2.out HB4.out.1).u HS1.out.u
       clear k0 k1 k2 k3 k4 k5 k6 k7 m0 m1 m2 m3 m4 m5 m6 m7
       refine Calls.mono HC.out ?_
       rintro e w5 ⟨⟨b,rfl,hbi⟩,hb5⟩
       have HB5:Hid (Below w.heap.size w w5/\w5.heap[w.heap.size]?=some (.cells #[.string p.name,.slice ao p.rows.length ac,.slice qo p.qs.length qc,.slice vo p.vs.length vc,.slice tto p.ts.length tc,.slice uo p.us.length uc,.slice oo p.on.length oc,.int .i64 p.miss] 29 (0,0))/\w5.heap[w.heap.size+1]?=some (.cells #[.string q.name,.slice ao2 q.rows.length ac2,.slice qo2 q.qs.length qc2,.slice vo2 q.vs.length vc2,.slice tto2 q.ts.length tc2,.slice uo2 q.us.length uc2,.slice oo2 q.on.length oc2,.int .i64 q.miss] 29 (0,0))):=⟨HB4.out.1.trans (hb5.mono HB4.out.1.size),(hb5.block _ (blk_lt HB4.out.2.1)).trans HB4.out.2.1,(hb5.block _ (blk_lt HB4.out.2.2)).trans HB4.out.2.2⟩
       have HI4:=hdn <| hbi
       clear HC hb5 hbi
       cases b with
       | false=>
        have HNe:Hid (p ≠ q):=fun e=>absurd (HI4.out.2 (by rw [e])) (by decide)
        go_wp2
        go_ret
        exact ⟨⟨false,rfl,by simp [HNe.out]⟩,HB5.out.1⟩
       | true=>
        have HT4:=hdn <| HI4.out.1 rfl
        clear HI4
        obtain ⟨k0,k1,k2,k3,k4,k5,k6,k7⟩:=pol8 HB5.out.2.1
        obtain ⟨m0,m1,m2,m3,m4,m5,m6,m7⟩:=pol8 HB5.out.2.2
        go_wp2_with fail
        have HC:=hdn <| rSameInts (ca:=oc) (cb:=oc2) (RdG.below H1.out HB5.out.1).o (RdG.below H2.out HB5.out.1).o HS1.out.o
        clear k0 k1 k2 k3 k4 k5 k6 k7 m0 m1 m2 m3 m4 m5 m6 m7
        refine Calls.mono HC.out ?_
        rintro e w6 ⟨⟨b,rfl,hbi⟩,hb6⟩
        have HB6:Hid (Below w.heap.size w w6/\w6.heap[w.heap.size]?=some (.cells #[.string p.name,.slice ao p.rows.length ac,.slice qo p.qs.length qc,.slice vo p.vs.length vc,.slice tto p.ts.length tc,.slice uo p.us.length uc,.slice oo p.on.length oc,.int .i64 p.miss] 29 (0,0))/\w6.heap[w.heap.size+1]?=some (.cells #[.string q.name,.slice ao2 q.rows.length ac2,.slice qo2 q.qs.length qc2,.slice vo2 q.vs.length vc2,.slice tto2 q.ts.length tc2,.slice uo2 q.us.length uc2,.slice oo2 q.on.length oc2,.int .i64 q.miss] 29 (0,0))):=⟨HB5.out.1.trans (hb6.mono HB5.out.1.size),(hb6.block _ (blk_lt HB5.out.2.1)).trans HB5.out.2.1,(hb6.block _ (blk_lt HB5.out.2.2)).trans HB5.out.2.2⟩
        have HI5:=hdn <| hbi
        clear HC hb6 hbi
        cases b with
        | false=>
         have HNe:Hid (p ≠ q):=fun e=>absurd (HI5.out.2 (by rw [e])) (by decide)
         go_wp2
         go_ret
         exact ⟨⟨false,rfl,by simp [HNe.out]⟩,HB6.out.1⟩
        | true=>
         have HT5:=hdn <| HI5.out.1 rfl
         clear HI5
         go_wp2
         go_ret
         exact ⟨⟨true,rfl,by simp [Pg.ext8 HNm.out HMi.out HT0.out HT1.out HT2.out HT3.out HT4.out HT5.out]⟩,HB6.out.1⟩
end Go.Proofs.YthbnjhamfcefkaaGreat.Nm
