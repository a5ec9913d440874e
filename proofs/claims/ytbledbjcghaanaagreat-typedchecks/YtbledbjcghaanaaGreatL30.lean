import Derived.Test.YtbledbjcghaanaaGreatTl
import Derived.Test.YtbledbjcghaanaaGreatL29
set_option maxHeartbeats 12800000
set_option maxRecDepth 100000
namespace Go.Proofs.YtbledbjcghaanaaGreat.Nm
open Go.RowKit Go.Maps Sp Lx Gr
theorem rSameIntsJ {w:World} {ao bo:Option Addr} {l m:List Int} {ca cb:Nat} (ha:IsVals w ao (iv l)) (hb:IsVals w bo (iv m)) (hn:l.length<=17592186043904):
  Calls Tryz.prog 106 #[.slice ao l.length ca,.slice bo m.length cb] w fun e w'=>(∃ b,e=.returned (.bool b)/\(b=true ↔ l=m))/\Below w.heap.size w w':=by
 by_cases hlen:l.length=m.length
 ·have HA:=hdn <| ha;have HB:=hdn <| hb;have HLn:=hdn <| hlen;have hn2:(l.length:Int)<=17592186043904:=by omega
  have hne:((l.length:Int) != (l.length:Int))=false:=by simp
  rw [<-hlen];clear ha hb hlen;go_enter Tryz.func106,Tryz.ntmps106;go_wp2_with fail
  go_loopg [5] l.length (fun gq x wr=>∃ k:Nat,k+gq=l.length/\x=I (k:Int)/\l.take k=m.take k/\Below w.heap.size w wr)
  case atStart=>exact ⟨0,by omega,rfl,rfl,Below.refl _ _⟩
  case round=>
   obtain ⟨k,hkg,rfl,htk,hbw⟩:=hrel;have HG:Hid (k+gk=l.length/\Below w.heap.size w wr/\l.take k=m.take k):=⟨hkg,hbw,htk⟩;by_cases hlt:k < l.length
   ·have hk':(k:Int) < (l.length:Int):=by omega
    have hk2:(k:Int)<=17592186043904:=by omega
    have hlm:k < m.length:=by have:=HLn.out;omega
    have hx:(iv l)[k]?=some (I l[k]):=by rw [List.getElem?_map,List.getElem?_eq_getElem hlt];rfl
    have hy:(iv m)[k]?=some (I m[k]):=by rw [List.getElem?_map,List.getElem?_eq_getElem hlm];rfl
    obtain ⟨g,o,rfl,_,d0⟩:=(IsVals.below HA.out hbw) k _ hx;obtain ⟨g',o',rfl,_,e0⟩:=(IsVals.below HB.out hbw) k _ hy;have HSame:Hid (l[k]=m[k]->l.take (k+1)=m.take (k+1)):=fun e=>by rw [List.take_add_one,List.take_add_one,HG.out.2.2,List.getElem?_eq_getElem hlt,List.getElem?_eq_getElem hlm,e]
    have HDiff:Hid (l[k] ≠ m[k]->l ≠ m):=fun e h=>e (by subst h;rfl)
    clear hx hy;generalize l[k]=x at *;generalize m[k]=y at *;have HLt:Hid (k < l.length):=hlt;clear hkg hlt hbw htk hlm;by_cases hxy:x=y
    ·subst hxy;have HS:Hid (l.take (k+1)=m.take (k+1)):=HSame.out rfl;clear HSame HDiff;have hq:(x != x)=false:=by simp
     go_wp2_with fail
     go_quiet (fail)
     go_wp2_with fail
     go_roundg (l.length - (k+1))
     case measure=>have:=HG.out.1;have:=HLt.out;omega
     case rel=>exact ⟨k+1,by have:=HLt.out;omega,by go_num,HS.out,HG.out.2.1.trans ((below_drewN _ _).mono HG.out.2.1.size)⟩
    ·have HD:Hid (l ≠ m):=HDiff.out hxy;clear HSame HDiff;have hq:(x != y)=true:=by simp [hxy]
     go_wp2_with fail
     go_quiet (fail)
     go_wp2;go_ret;exact ⟨⟨false,rfl,by simp [HD.out]⟩,HG.out.2.1.trans ((below_drewN _ _).mono HG.out.2.1.size)⟩
   ·have hk':decide (k < l.length)=false:=decide_eq_false hlt;have HE:Hid (l=m):=by
     have hke:k=l.length:=by omega
     rw [hke,List.take_length,HLn.out,List.take_length] at htk;exact htk
    clear hkg hlt hbw htk;go_wp2;go_ret;exact ⟨⟨true,rfl,by simp [HE.out]⟩,HG.out.2.1⟩
 ·have hne:((l.length:Int) != (m.length:Int))=true:=by simp;omega
  have HD:Hid (l ≠ m):=fun e=>hlen (by rw [e])
  clear ha hb hlen hn;go_enter Tryz.func106,Tryz.ntmps106;go_wp2;go_ret;exact ⟨⟨false,rfl,by simp [HD.out]⟩,Below.refl _ _⟩
theorem rSameInts {w:World} {ao bo:Option Addr} {l m:List Int} {ca cb:Nat} (ha:IsVals w ao (iv l)) (hb:IsVals w bo (iv m)) (hn:l.length<=17592186043904):
  Calls Tryz.prog 106 #[.slice ao l.length ca,.slice bo m.length cb] w fun e w'=>(∃ b,e=.returned (.bool b)/\(b=true ↔ l=m))/\Below w.heap.size w w':=rSameIntsJ ha hb (by omega)
theorem rSameTexts {w:World} {ao bo:Option Addr} {l m:List ByteArray} {ca cb:Nat} (ha:IsVals w ao (l.map Value.string)) (hb:IsVals w bo (m.map Value.string)) (hn:l.length<=17592186043904):
  Calls Tryz.prog 105 #[.slice ao l.length ca,.slice bo m.length cb] w fun e w'=>(∃ b,e=.returned (.bool b)/\(b=true ↔ l=m))/\Below w.heap.size w w':=by
 by_cases hlen:l.length=m.length
 ·have HA:=hdn <| ha;have HB:=hdn <| hb;have HLn:=hdn <| hlen;have hn2:(l.length:Int)<=17592186043904:=by omega
  have hne:((l.length:Int) != (l.length:Int))=false:=by simp
  rw [<-hlen];clear ha hb hlen;go_enter Tryz.func105,Tryz.ntmps105;go_wp2_with fail
  go_loopg [5] l.length (fun gq x wr=>∃ k:Nat,k+gq=l.length/\x=I (k:Int)/\l.take k=m.take k/\Below w.heap.size w wr)
  case atStart=>exact ⟨0,by omega,rfl,rfl,Below.refl _ _⟩
  case round=>
   obtain ⟨k,hkg,rfl,htk,hbw⟩:=hrel;have HG:Hid (k+gk=l.length/\Below w.heap.size w wr/\l.take k=m.take k):=⟨hkg,hbw,htk⟩;by_cases hlt:k < l.length
   ·have hk':(k:Int) < (l.length:Int):=by omega
    have hk2:(k:Int)<=17592186043904:=by omega
    have hlm:k < m.length:=by have:=HLn.out;omega
    have hx:(l.map Value.string)[k]?=some (.string l[k]):=by rw [List.getElem?_map,List.getElem?_eq_getElem hlt];rfl
    have hy:(m.map Value.string)[k]?=some (.string m[k]):=by rw [List.getElem?_map,List.getElem?_eq_getElem hlm];rfl
    obtain ⟨g,o,rfl,_,d0⟩:=(IsVals.below HA.out hbw) k _ hx;obtain ⟨g',o',rfl,_,e0⟩:=(IsVals.below HB.out hbw) k _ hy;have HSame:Hid (l[k]=m[k]->l.take (k+1)=m.take (k+1)):=fun e=>by rw [List.take_add_one,List.take_add_one,HG.out.2.2,List.getElem?_eq_getElem hlt,List.getElem?_eq_getElem hlm,e]
    have HDiff:Hid (l[k] ≠ m[k]->l ≠ m):=fun e h=>e (by subst h;rfl)
    clear hx hy;generalize l[k]=x at *;generalize m[k]=y at *;have HLt:Hid (k < l.length):=hlt;clear hkg hlt hbw htk hlm;by_cases hxy:x=y
    ·subst hxy;have HS:Hid (l.take (k+1)=m.take (k+1)):=HSame.out rfl;clear HSame HDiff;have hq:(x.toList != x.toList)=false:=by simp
     go_wp2_with fail
     go_quiet (fail)
     go_wp2_with fail
     go_roundg (l.length - (k+1))
     case measure=>have:=HG.out.1;have:=HLt.out;omega
     case rel=>exact ⟨k+1,by have:=HLt.out;omega,by go_num,HS.out,HG.out.2.1.trans ((below_drewN _ _).mono HG.out.2.1.size)⟩
    ·have HD:Hid (l ≠ m):=HDiff.out hxy;clear HSame HDiff;have hq0:¬ x.toList=y.toList:=fun e=>hxy (bytes_of e);have hq1:(x.toList == y.toList)=false:=by simpa using hq0
     have hq:(x.toList != y.toList)=true:=by simpa using hq0
     go_wp2_with fail
     go_quiet (fail)
     go_wp2;go_ret;exact ⟨⟨false,rfl,by simp [HD.out]⟩,HG.out.2.1.trans ((below_drewN _ _).mono HG.out.2.1.size)⟩
   ·have hk':decide (k < l.length)=false:=decide_eq_false hlt;have HE:Hid (l=m):=by
     have hke:k=l.length:=by omega
     rw [hke,List.take_length,HLn.out,List.take_length] at htk;exact htk
    clear hkg hlt hbw htk;go_wp2;go_ret;exact ⟨⟨true,rfl,by simp [HE.out]⟩,HG.out.2.1⟩
 ·have hne:((l.length:Int) != (m.length:Int))=true:=by simp;omega
  have HD:Hid (l ≠ m):=fun e=>hlen (by rw [e])
  clear ha hb hlen hn;go_enter Tryz.func105,Tryz.ntmps105;go_wp2;go_ret;exact ⟨⟨false,rfl,by simp [HD.out]⟩,Below.refl _ _⟩
theorem rsame_any {w:World} {p q:Pg} {ao qo vo tto uo oo ao2 qo2 vo2 tto2 uo2 oo2:Option Addr} {ac qc vc tc uc oc ac2 qc2 vc2 tc2 uc2 oc2:Nat} (h1:RdG w p ao qo vo tto uo oo) (h2:RdG w q ao2 qo2 vo2 tto2 uo2 oo2) (hp:p.Sm):
  Calls Tryz.prog 63 #[pvG p ao qo vo tto uo oo ac qc vc tc uc oc,pvG q ao2 qo2 vo2 tto2 uo2 oo2 ac2 qc2 vc2 tc2 uc2 oc2] w fun e w'=>(∃ b,e=.returned (.bool b)/\(b=true ↔ p=q))/\Below w.heap.size w w':=by
 dsimp only [pvG];have hb0:Below w.heap.size w ((w.alloc (.cells (pC p ao ac qo qc vo vc tto tc uo uc oo oc) 27)).alloc (.cells (pC q ao2 ac2 qo2 qc2 vo2 vc2 tto2 tc2 uo2 uc2 oo2 oc2) 27)):=(bAl w _).alloc (by simp) _
 have HB0:Hid (Below w.heap.size w ((w.alloc (.cells (pC p ao ac qo qc vo vc tto tc uo uc oo oc) 27)).alloc (.cells (pC q ao2 ac2 qo2 qc2 vo2 vc2 tto2 tc2 uo2 uc2 oo2 oc2) 27))/\((w.alloc (.cells (pC p ao ac qo qc vo vc tto tc uo uc oo oc) 27)).alloc (.cells (pC q ao2 ac2 qo2 qc2 vo2 vc2 tto2 tc2 uo2 uc2 oo2 oc2) 27)).heap[w.heap.size]?=some (.cells (pC p ao ac qo qc vo vc tto tc uo uc oo oc) 27 (0,0))/\((w.alloc (.cells (pC p ao ac qo qc vo vc tto tc uo uc oo oc) 27)).alloc (.cells (pC q ao2 ac2 qo2 qc2 vo2 vc2 tto2 tc2 uo2 uc2 oo2 oc2) 27)).heap[w.heap.size+1]?=some (.cells (pC q ao2 ac2 qo2 qc2 vo2 vc2 tto2 tc2 uo2 uc2 oo2 oc2) 27 (0,0))):=⟨hb0,by rw [alloc_old _ _ _ (by simp)];exact alloc_at _ _ _ rfl,alloc_at _ _ _ (by simp)⟩
 have HS1:=hdn <| hp;have H1:=hdn <| h1;have H2:=hdn <| h2;obtain ⟨k0,k1,k2,k3,k4,k5,k6,k7⟩:=pol8 HB0.out.2.1;obtain ⟨m0,m1,m2,m3,m4,m5,m6,m7⟩:=pol8 HB0.out.2.2;clear h1 h2 hp hb0;by_cases hnm:p.name=q.name
 case neg=>
  have hnx:¬ p.name.toList=q.name.toList:=fun e=>hnm (bytes_of e);have hnb0:(p.name.toList == q.name.toList)=false:=by simpa using hnx
  have hnb:(p.name.toList != q.name.toList)=true:=by simpa using hnx
  clear hnx;have HNe:Hid (p ≠ q):=fun e=>hnm (by rw [e])
  clear hnm;go_enter Tryz.func63,Tryz.ntmps63;go_wp2;go_ret;exact ⟨⟨false,rfl,by simp [HNe.out]⟩,HB0.out.1⟩
 have hnb0:(p.name.toList == q.name.toList)=true:=by rw [hnm];simp
 have hnb:(p.name.toList != q.name.toList)=false:=by rw [hnm];simp
 have HNm:=hdn <| hnm;clear hnm;by_cases hmi:p.miss=q.miss
 case neg=>
  have hmb:(p.miss != q.miss)=true:=by simp [hmi]
  have HNe:Hid (p ≠ q):=fun e=>hmi (by rw [e])
  clear hmi;go_enter Tryz.func63,Tryz.ntmps63;go_wp2;go_ret;exact ⟨⟨false,rfl,by simp [HNe.out]⟩,HB0.out.1⟩
 have hmb:(p.miss != q.miss)=false:=by simp [hmi]
 have HMi:=hdn <| hmi;clear hmi;by_cases hlr:p.rows.length=q.rows.length
 case neg=>
  have hlrb:((p.rows.length:Int) != (q.rows.length:Int))=true:=by simp;omega
  have HNe:Hid (p ≠ q):=fun e=>hlr (by rw [e])
  clear hlr;go_enter Tryz.func63,Tryz.ntmps63;go_wp2;go_ret;exact ⟨⟨false,rfl,by simp [HNe.out]⟩,HB0.out.1⟩
 have hlrb:((p.rows.length:Int) != (q.rows.length:Int))=false:=by simp;omega
 have Hhlr:=hdn <| hlr;clear hlr;by_cases hlq:p.qs.length=q.qs.length
 case neg=>
  have hlqb:((p.qs.length:Int) != (q.qs.length:Int))=true:=by simp;omega
  have HNe:Hid (p ≠ q):=fun e=>hlq (by rw [e])
  clear hlq;go_enter Tryz.func63,Tryz.ntmps63;go_wp2;go_ret;exact ⟨⟨false,rfl,by simp [HNe.out]⟩,HB0.out.1⟩
 have hlqb:((p.qs.length:Int) != (q.qs.length:Int))=false:=by simp;omega
 have Hhlq:=hdn <| hlq;clear hlq;have hpr:(p.rows.length:Int)<=2932031007317:=by have:=HS1.out.r;omega
 have hpq:(p.qs.length:Int)<=17592186043904:=by have:=HS1.out.q;omega
 go_enter Tryz.func63,Tryz.ntmps63
 go_wp2_with fail
 clear hnb0 hnb hmb hlrb hlqb k0 k1 k2 k3 k4 k5 k6 k7 m0 m1 m2 m3 m4 m5 m6 m7
 go_loopg [5] p.rows.length (fun gq x wr=>∃ k:Nat,k+gq=p.rows.length/\x=I (k:Int)/\p.rows.take k=q.rows.take k/\Below w.heap.size w wr/\wr.heap[w.heap.size]?=some (.cells (pC p ao ac qo qc vo vc tto tc uo uc oo oc) 27 (0,0))/\wr.heap[w.heap.size+1]?=some (.cells (pC q ao2 ac2 qo2 qc2 vo2 vc2 tto2 tc2 uo2 uc2 oo2 oc2) 27 (0,0)))
 case atStart=>exact ⟨0,by omega,rfl,rfl,HB0.out⟩
 case round=>
  obtain ⟨k,hkg,rfl,htk,hbw⟩:=hrel;have HG:Hid (k+gk=p.rows.length/\(Below w.heap.size w wr/\wr.heap[w.heap.size]?=some (.cells (pC p ao ac qo qc vo vc tto tc uo uc oo oc) 27 (0,0))/\wr.heap[w.heap.size+1]?=some (.cells (pC q ao2 ac2 qo2 qc2 vo2 vc2 tto2 tc2 uo2 uc2 oo2 oc2) 27 (0,0)))/\p.rows.take k=q.rows.take k):=⟨hkg,hbw,htk⟩;obtain ⟨k0,k1,k2,k3,k4,k5,k6,k7⟩:=pol8 hbw.2.1;obtain ⟨m0,m1,m2,m3,m4,m5,m6,m7⟩:=pol8 hbw.2.2;by_cases hlt:k < p.rows.length
  ·have hk1:(k:Int) < (p.rows.length:Int):=by omega
   have hk2:(k:Int)<=2932031007317:=by omega
   have hlm:k < q.rows.length:=by have:=Hhlr.out;omega
   have hlm2:(k:Int) < (q.rows.length:Int):=by omega
   have hdr:∀ n,Hid (Below w.heap.size w (wr.drewN n)/\(wr.drewN n).heap[w.heap.size]?=some (.cells (pC p ao ac qo qc vo vc tto tc uo uc oo oc) 27 (0,0))/\(wr.drewN n).heap[w.heap.size+1]?=some (.cells (pC q ao2 ac2 qo2 qc2 vo2 vc2 tto2 tc2 uo2 uc2 oo2 oc2) 27 (0,0))):=fun n=>⟨HG.out.2.1.1.trans ((below_drewN _ _).mono HG.out.2.1.1.size),((below_drewN _ _).block _ (blk_lt HG.out.2.1.2.1)).trans HG.out.2.1.2.1,((below_drewN _ _).block _ (blk_lt HG.out.2.1.2.2)).trans HG.out.2.1.2.2⟩;have hx:=List.getElem?_eq_getElem hlt;have hy:=List.getElem?_eq_getElem hlm;obtain ⟨g,o,hao,_,d0,d1,d2,d3,d4⟩:=(IsRz.below H1.out.r hbw.1) k _ hx;obtain ⟨g',o',hao2,_,e0,e1,e2,e3,e4⟩:=(IsRz.below H2.out.r hbw.1) k _ hy;subst hao;subst hao2;clear hx hy;have HSame:Hid (p.rows[k]=q.rows[k]->p.rows.take (k+1)=q.rows.take (k+1)):=fun e=>by rw [List.take_add_one,List.take_add_one,HG.out.2.2,List.getElem?_eq_getElem hlt,List.getElem?_eq_getElem hlm,e]
   have HDiff:Hid (p.rows[k] ≠ q.rows[k]->p ≠ q):=fun e h=>e (by subst h;rfl)
   generalize p.rows[k]=x at *;generalize q.rows[k]=y at *;have HLt:Hid (k < p.rows.length):=hlt;clear hkg hlt hbw htk hlm;by_cases hxy:x=y
   ·subst hxy;have HS:Hid (p.rows.take (k+1)=q.rows.take (k+1)):=HSame.out rfl;clear HSame HDiff;obtain ⟨kd,nm,st,n,ks⟩:=x;dsimp only at *;go_wp2_with fail
    go_quiet (fail)
    go_wp2_with fail
    go_roundg (p.rows.length - (k+1))
    case measure=>have:=HG.out.1;have:=HLt.out;omega
    case rel=>exact ⟨k+1,by have:=HLt.out;omega,by go_num,HS.out,(hdr _).out⟩
   ·have HD:Hid (p ≠ q):=HDiff.out hxy;clear HSame HDiff;have hq:∀ u:World,(binOp BinOp.neq 61 (rv x) (rv y)).run Tryz.prog u=.ok (.bool true) u:=fun u=>neq_row hxy u;obtain ⟨kd,nm,st,n,ks⟩:=x;obtain ⟨kd',nm',st',n',ks'⟩:=y;dsimp only at *;go_wp2_with fail
    go_quiet (fail)
    go_wp2;go_ret;exact ⟨⟨false,rfl,by simp [HD.out]⟩,(hdr _).out.1⟩
  ·have hk1:decide (k < p.rows.length)=false:=decide_eq_false hlt;have HT0:Hid (p.rows=q.rows):=by
    have hke:k=p.rows.length:=by omega
    rw [hke,List.take_length,Hhlr.out,List.take_length] at htk;exact htk
   have HW:Hid (Below w.heap.size w wr/\wr.heap[w.heap.size]?=some (.cells (pC p ao ac qo qc vo vc tto tc uo uc oo oc) 27 (0,0))/\wr.heap[w.heap.size+1]?=some (.cells (pC q ao2 ac2 qo2 qc2 vo2 vc2 tto2 tc2 uo2 uc2 oo2 oc2) 27 (0,0))):=hbw;clear hkg hlt hbw htk HG;go_wp2_with fail;clear k0 k1 k2 k3 k4 k5 k6 k7 m0 m1 m2 m3 m4 m5 m6 m7;have HW0:=hdn <| HW.out;clear HW
   go_loopg [6] p.qs.length (fun gq x wr=>∃ k:Nat,k+gq=p.qs.length/\x=I (k:Int)/\p.qs.take k=q.qs.take k/\Below w.heap.size w wr/\wr.heap[w.heap.size]?=some (.cells (pC p ao ac qo qc vo vc tto tc uo uc oo oc) 27 (0,0))/\wr.heap[w.heap.size+1]?=some (.cells (pC q ao2 ac2 qo2 qc2 vo2 vc2 tto2 tc2 uo2 uc2 oo2 oc2) 27 (0,0)))
   case atStart=>exact ⟨0,by omega,rfl,rfl,HW0.out⟩
   case round=>
    obtain ⟨k,hkg,rfl,htk,hbw⟩:=hrel;have HG:Hid (k+gk=p.qs.length/\(Below w.heap.size w wr/\wr.heap[w.heap.size]?=some (.cells (pC p ao ac qo qc vo vc tto tc uo uc oo oc) 27 (0,0))/\wr.heap[w.heap.size+1]?=some (.cells (pC q ao2 ac2 qo2 qc2 vo2 vc2 tto2 tc2 uo2 uc2 oo2 oc2) 27 (0,0)))/\p.qs.take k=q.qs.take k):=⟨hkg,hbw,htk⟩;obtain ⟨k0,k1,k2,k3,k4,k5,k6,k7⟩:=pol8 hbw.2.1;obtain ⟨m0,m1,m2,m3,m4,m5,m6,m7⟩:=pol8 hbw.2.2;by_cases hlt:k < p.qs.length
    ·have hk1:(k:Int) < (p.qs.length:Int):=by omega
     have hk2:(k:Int)<=17592186043904:=by omega
     have hlm:k < q.qs.length:=by have:=Hhlq.out;omega
     have hlm2:(k:Int) < (q.qs.length:Int):=by omega
     have hdr:∀ n,Hid (Below w.heap.size w (wr.drewN n)/\(wr.drewN n).heap[w.heap.size]?=some (.cells (pC p ao ac qo qc vo vc tto tc uo uc oo oc) 27 (0,0))/\(wr.drewN n).heap[w.heap.size+1]?=some (.cells (pC q ao2 ac2 qo2 qc2 vo2 vc2 tto2 tc2 uo2 uc2 oo2 oc2) 27 (0,0))):=fun n=>⟨HG.out.2.1.1.trans ((below_drewN _ _).mono HG.out.2.1.1.size),((below_drewN _ _).block _ (blk_lt HG.out.2.1.2.1)).trans HG.out.2.1.2.1,((below_drewN _ _).block _ (blk_lt HG.out.2.1.2.2)).trans HG.out.2.1.2.2⟩;obtain ⟨hx,hx2⟩:=qF_at p.qs k hlt;obtain ⟨hy,hy2⟩:=qF_at q.qs k hlm;obtain ⟨g,o,hao,_,d0⟩:=(IsVals.below H1.out.q hbw.1) _ _ hx;obtain ⟨g',o',hao2,_,e0⟩:=(IsVals.below H2.out.q hbw.1) _ _ hy;obtain ⟨g2,o2,he2,_,d1⟩:=(IsVals.below H1.out.q hbw.1) _ _ hx2;obtain ⟨g3,o3,he3,_,e1⟩:=(IsVals.below H2.out.q hbw.1) _ _ hy2;subst hao;subst hao2;cases he2;cases he3;rw [<-Nat.add_assoc] at d1 e1;clear hx hy hx2 hy2;have HSame:Hid (p.qs[k]=q.qs[k]->p.qs.take (k+1)=q.qs.take (k+1)):=fun e=>by rw [List.take_add_one,List.take_add_one,HG.out.2.2,List.getElem?_eq_getElem hlt,List.getElem?_eq_getElem hlm,e]
     have HDiff:Hid (p.qs[k] ≠ q.qs[k]->p ≠ q):=fun e h=>e (by subst h;rfl)
     generalize p.qs[k]=x at *;generalize q.qs[k]=y at *;have HLt:Hid (k < p.qs.length):=hlt;clear hkg hlt hbw htk hlm;by_cases hxy:x=y
     ·subst hxy;have HS:Hid (p.qs.take (k+1)=q.qs.take (k+1)):=HSame.out rfl;clear HSame HDiff;obtain ⟨x1,x2⟩:=x;dsimp only at *;go_wp2_with fail
      go_quiet (fail)
      go_wp2_with fail
      go_roundg (p.qs.length - (k+1))
      case measure=>have:=HG.out.1;have:=HLt.out;omega
      case rel=>exact ⟨k+1,by have:=HLt.out;omega,by go_num,HS.out,(hdr _).out⟩
     ·have HD:Hid (p ≠ q):=HDiff.out hxy;clear HSame HDiff;have hq:∀ u:World,(binOp BinOp.neq 77 (.agg #[.string x.1,.bool x.2]) (.agg #[.string y.1,.bool y.2])).run Tryz.prog u=.ok (.bool true) u:=fun u=>neq_queue hxy u;obtain ⟨x1,x2⟩:=x;obtain ⟨y1,y2⟩:=y;dsimp only at *;go_wp2_with fail
      go_quiet (fail)
      go_wp2;go_ret;exact ⟨⟨false,rfl,by simp [HD.out]⟩,(hdr _).out.1⟩
    ·have hk1:decide (k < p.qs.length)=false:=decide_eq_false hlt;have HT1:Hid (p.qs=q.qs):=by
      have hke:k=p.qs.length:=by omega
      rw [hke,List.take_length,Hhlq.out,List.take_length] at htk;exact htk
     have HW:Hid (Below w.heap.size w wr/\wr.heap[w.heap.size]?=some (.cells (pC p ao ac qo qc vo vc tto tc uo uc oo oc) 27 (0,0))/\wr.heap[w.heap.size+1]?=some (.cells (pC q ao2 ac2 qo2 qc2 vo2 vc2 tto2 tc2 uo2 uc2 oo2 oc2) 27 (0,0))):=hbw;clear hkg hlt hbw htk HG;have HB2:=hdn <| HW.out;clear HW;go_wp2_with fail;have HC:=hdn <| rSameTexts (ca:=vc) (cb:=vc2) (RdG.below H1.out HB2.out.1).v (RdG.below H2.out HB2.out.1).v HS1.out.v;clear k0 k1 k2 k3 k4 k5 k6 k7 m0 m1 m2 m3 m4 m5 m6 m7;refine Calls.mono HC.out ?_;rintro e w3 ⟨⟨b,rfl,hbi⟩,hb3⟩;have HB3:Hid (Below w.heap.size w w3/\w3.heap[w.heap.size]?=some (.cells (pC p ao ac qo qc vo vc tto tc uo uc oo oc) 27 (0,0))/\w3.heap[w.heap.size+1]?=some (.cells (pC q ao2 ac2 qo2 qc2 vo2 vc2 tto2 tc2 uo2 uc2 oo2 oc2) 27 (0,0))):=⟨HB2.out.1.trans (hb3.mono HB2.out.1.size),(hb3.block _ (blk_lt HB2.out.2.1)).trans HB2.out.2.1,(hb3.block _ (blk_lt HB2.out.2.2)).trans HB2.out.2.2⟩;have HI2:=hdn <| hbi;clear HC hb3 hbi;cases b with
     | false=>
      have HNe:Hid (p ≠ q):=fun e=>absurd (HI2.out.2 (by rw [e])) (by decide)
      go_wp2;go_ret;exact ⟨⟨false,rfl,by simp [HNe.out]⟩,HB3.out.1⟩
     | true=>
      have HT2:=hdn <| HI2.out.1 rfl;clear HI2;obtain ⟨k0,k1,k2,k3,k4,k5,k6,k7⟩:=pol8 HB3.out.2.1;obtain ⟨m0,m1,m2,m3,m4,m5,m6,m7⟩:=pol8 HB3.out.2.2;go_wp2_with fail;have HC:=hdn <| rSameTexts (ca:=tc) (cb:=tc2) (RdG.below H1.out HB3.out.1).t (RdG.below H2.out HB3.out.1).t HS1.out.t;clear k0 k1 k2 k3 k4 k5 k6 k7 m0 m1 m2 m3 m4 m5 m6 m7;refine Calls.mono HC.out ?_;rintro e w4 ⟨⟨b,rfl,hbi⟩,hb4⟩;have HB4:Hid (Below w.heap.size w w4/\w4.heap[w.heap.size]?=some (.cells (pC p ao ac qo qc vo vc tto tc uo uc oo oc) 27 (0,0))/\w4.heap[w.heap.size+1]?=some (.cells (pC q ao2 ac2 qo2 qc2 vo2 vc2 tto2 tc2 uo2 uc2 oo2 oc2) 27 (0,0))):=⟨HB3.out.1.trans (hb4.mono HB3.out.1.size),(hb4.block _ (blk_lt HB3.out.2.1)).trans HB3.out.2.1,(hb4.block _ (blk_lt HB3.out.2.2)).trans HB3.out.2.2⟩;have HI3:=hdn <| hbi;clear HC hb4 hbi;cases b with
      | false=>
       have HNe:Hid (p ≠ q):=fun e=>absurd (HI3.out.2 (by rw [e])) (by decide)
       go_wp2;go_ret;exact ⟨⟨false,rfl,by simp [HNe.out]⟩,HB4.out.1⟩
      | true=>
       have HT3:=hdn <| HI3.out.1 rfl;clear HI3;obtain ⟨k0,k1,k2,k3,k4,k5,k6,k7⟩:=pol8 HB4.out.2.1;obtain ⟨m0,m1,m2,m3,m4,m5,m6,m7⟩:=pol8 HB4.out.2.2;go_wp2_with fail;have HC:=hdn <| rSameInts (ca:=uc) (cb:=uc2) (RdG.below H1.out HB4.out.1).u (RdG.below H2.out HB4.out.1).u HS1.out.u;clear k0 k1 k2 k3 k4 k5 k6 k7 m0 m1 m2 m3 m4 m5 m6 m7;refine Calls.mono HC.out ?_;rintro e w5 ⟨⟨b,rfl,hbi⟩,hb5⟩;have HB5:Hid (Below w.heap.size w w5/\w5.heap[w.heap.size]?=some (.cells (pC p ao ac qo qc vo vc tto tc uo uc oo oc) 27 (0,0))/\w5.heap[w.heap.size+1]?=some (.cells (pC q ao2 ac2 qo2 qc2 vo2 vc2 tto2 tc2 uo2 uc2 oo2 oc2) 27 (0,0))):=⟨HB4.out.1.trans (hb5.mono HB4.out.1.size),(hb5.block _ (blk_lt HB4.out.2.1)).trans HB4.out.2.1,(hb5.block _ (blk_lt HB4.out.2.2)).trans HB4.out.2.2⟩;have HI4:=hdn <| hbi;clear HC hb5 hbi;cases b with
       | false=>
        have HNe:Hid (p ≠ q):=fun e=>absurd (HI4.out.2 (by rw [e])) (by decide)
        go_wp2;go_ret;exact ⟨⟨false,rfl,by simp [HNe.out]⟩,HB5.out.1⟩
       | true=>
        have HT4:=hdn <| HI4.out.1 rfl;clear HI4;obtain ⟨k0,k1,k2,k3,k4,k5,k6,k7⟩:=pol8 HB5.out.2.1;obtain ⟨m0,m1,m2,m3,m4,m5,m6,m7⟩:=pol8 HB5.out.2.2;go_wp2_with fail;have HC:=hdn <| rSameInts (ca:=oc) (cb:=oc2) (RdG.below H1.out HB5.out.1).o (RdG.below H2.out HB5.out.1).o HS1.out.o;clear k0 k1 k2 k3 k4 k5 k6 k7 m0 m1 m2 m3 m4 m5 m6 m7;refine Calls.mono HC.out ?_;rintro e w6 ⟨⟨b,rfl,hbi⟩,hb6⟩;have HB6:Hid (Below w.heap.size w w6/\w6.heap[w.heap.size]?=some (.cells (pC p ao ac qo qc vo vc tto tc uo uc oo oc) 27 (0,0))/\w6.heap[w.heap.size+1]?=some (.cells (pC q ao2 ac2 qo2 qc2 vo2 vc2 tto2 tc2 uo2 uc2 oo2 oc2) 27 (0,0))):=⟨HB5.out.1.trans (hb6.mono HB5.out.1.size),(hb6.block _ (blk_lt HB5.out.2.1)).trans HB5.out.2.1,(hb6.block _ (blk_lt HB5.out.2.2)).trans HB5.out.2.2⟩;have HI5:=hdn <| hbi;clear HC hb6 hbi;cases b with
        | false=>
         have HNe:Hid (p ≠ q):=fun e=>absurd (HI5.out.2 (by rw [e])) (by decide)
         go_wp2;go_ret;exact ⟨⟨false,rfl,by simp [HNe.out]⟩,HB6.out.1⟩
        | true=>
         have HT5:=hdn <| HI5.out.1 rfl;clear HI5;go_wp2;go_ret;exact ⟨⟨true,rfl,by simp [Pg.ext8 HNm.out HMi.out HT0.out HT1.out HT2.out HT3.out HT4.out HT5.out]⟩,HB6.out.1⟩
theorem rplain_any {w:World} {ao:Option Addr} {l:List Rz} {cap:Nat} (h:IsRz w ao l) (hl:l.length<=2932031007317):
  Calls Tryz.prog 62 #[.slice ao l.length cap] w fun e w'=>∃ v,e=.returned v/\w'.ownsRow w.heap.size 61 5 v l.length ((l.map unn).flatMap rz5)/\Below w.heap.size w w':=by
 have HI:=hdn <| h;have HL:=hdn <| hl;have hl2:(l.length:Int)<=2932031007317:=by omega
 obtain ⟨i0,hi,hz0,hz1,hz2⟩:=info_parts infoRw;clear h hl;go_enter Tryz.func62,Tryz.ntmps62;go_wp2_with fail
 go_loopg [3,4] l.length (fun gq v x wr=>∃ k:Nat,k+gq=l.length/\x=I (k:Int)/\wr.ownsRow w.heap.size 61 5 v k (((l.take k).map unn).flatMap rz5)/\Below w.heap.size w wr)
 case atStart=>exact ⟨0,by omega,rfl,⟨rfl,Or.inl ⟨rfl,rfl⟩⟩,Below.refl _ _⟩
 case round=>
  obtain ⟨k,hkg,rfl,hown,hbw⟩:=hrel;obtain ⟨so,sc,rfl⟩:=own_form hown;have HG:Hid (k+gk=l.length/\wr.ownsRow w.heap.size 61 5 (.slice so k sc) k (((l.take k).map unn).flatMap rz5)/\Below w.heap.size w wr):=⟨hkg,hown,hbw⟩;by_cases hlt:k < l.length
  ·have hk':(k:Int) < (l.length:Int):=by omega
   have hk2:(k:Int)<=2932031007317:=by omega
   have hx:=List.getElem?_eq_getElem hlt;obtain ⟨g,o,rfl,hgl,d0,d1,d2,d3,d4⟩:=(IsRz.below HI.out hbw) k _ hx;have HT:Hid (l.take (k+1)=l.take k++[l[k]]):=by rw [List.take_add_one,hx];rfl
   generalize l[k]=x at *;obtain ⟨kd,nm,st,n,ks⟩:=x;dsimp only at *;have HLt:Hid (k < l.length):=hlt;clear hkg hlt hbw hown hx hgl;by_cases h27:kd=27
   rotate_right
   focus
    have h27':(kd != 27)=true:=by simp [h27]
    have HU:Hid (unn ⟨kd,nm,st,n,ks⟩=⟨kd,nm,st,0,ks⟩):=by show unn _=_;simp [unn,h27]
    clear h27;have HOw:Hid (((wr.alloc (.cells #[I kd,.string nm,I st,I 0,I ks] 61)).alloc (.cells #[I kd,.string nm,I st,I 0,I ks] 61)).ownsRow w.heap.size 61 5 (.slice so k sc) k (((l.take k).map unn).flatMap rz5)/\Below w.heap.size w ((wr.alloc (.cells #[I kd,.string nm,I st,I 0,I ks] 61)).alloc (.cells #[I kd,.string nm,I st,I 0,I ks] 61))):=by
     have b1:Below wr.heap.size wr (wr.alloc (.cells #[I kd,.string nm,I st,I 0,I ks] 61)):=bAl wr _;have b2:Below (wr.alloc (.cells #[I kd,.string nm,I st,I 0,I ks] 61)).heap.size (wr.alloc (.cells #[I kd,.string nm,I st,I 0,I ks] 61)) ((wr.alloc (.cells #[I kd,.string nm,I st,I 0,I ks] 61)).alloc (.cells #[I kd,.string nm,I st,I 0,I ks] 61)):=bAl _ _;exact ⟨own_below (own_below HG.out.2.1 b1) b2,(HG.out.2.2.trans (b1.mono HG.out.2.2.size)).trans (b2.mono (Nat.le_trans HG.out.2.2.size b1.size))⟩
    have hsz:(wr.alloc (.cells #[I kd,.string nm,I st,I 0,I ks] 61)).heap.size=wr.heap.size+1:=by simp
    go_wp2_with (at_builtin;refine append_gone _ rfl _ _ 22 rfl w.heap.size 61 i0 (.agg #[I 0,.string ⟨#[]⟩,I 0,I 0,I 0]) 5 48 Tryz.underlying22 hi hz0 hz1 hz2 rfl (by decide) (.slice so k sc) k (((l.take k).map unn).flatMap rz5) rfl HOw.out.1 ⟨wr.heap.size+1,0,none⟩ 1 1 [I kd,.string nm,I st,I 0,I ks] rfl rfl ?c1 ?c2 ?c3 ?c4 ?c5 ?c6 ?_)
    case c1=>rw [<-hsz];exact cell_five (wr.alloc (.cells #[I kd,.string nm,I st,I 0,I ks] 61)) _ _ _ _ _ _
    case c2=>intro u hu;simp only [List.mem_cons,List.not_mem_nil,or_false] at hu;rcases hu with rfl | rfl | rfl | rfl | rfl<;>rfl
    case c3=>have:=HL.out;have:=HLt.out;unfold maxLen;omega
    case c4=>have:=HL.out;have:=HLt.out;omega
    case c5=>exact HOw.out.2.size
    case c6=>decide
   rotate_right
   focus
    have h27':(kd != 27)=false:=by simp [h27]
    have HU:Hid (unn ⟨kd,nm,st,n,ks⟩=⟨kd,nm,st,n,ks⟩):=by show unn _=_;simp [unn,h27]
    clear h27;have HOw:Hid (((wr.alloc (.cells #[I kd,.string nm,I st,I n,I ks] 61)).alloc (.cells #[I kd,.string nm,I st,I n,I ks] 61)).ownsRow w.heap.size 61 5 (.slice so k sc) k (((l.take k).map unn).flatMap rz5)/\Below w.heap.size w ((wr.alloc (.cells #[I kd,.string nm,I st,I n,I ks] 61)).alloc (.cells #[I kd,.string nm,I st,I n,I ks] 61))):=by
     have b1:Below wr.heap.size wr (wr.alloc (.cells #[I kd,.string nm,I st,I n,I ks] 61)):=bAl wr _;have b2:Below (wr.alloc (.cells #[I kd,.string nm,I st,I n,I ks] 61)).heap.size (wr.alloc (.cells #[I kd,.string nm,I st,I n,I ks] 61)) ((wr.alloc (.cells #[I kd,.string nm,I st,I n,I ks] 61)).alloc (.cells #[I kd,.string nm,I st,I n,I ks] 61)):=bAl _ _;exact ⟨own_below (own_below HG.out.2.1 b1) b2,(HG.out.2.2.trans (b1.mono HG.out.2.2.size)).trans (b2.mono (Nat.le_trans HG.out.2.2.size b1.size))⟩
    have hsz:(wr.alloc (.cells #[I kd,.string nm,I st,I n,I ks] 61)).heap.size=wr.heap.size+1:=by simp
    go_wp2_with (at_builtin;refine append_gone _ rfl _ _ 22 rfl w.heap.size 61 i0 (.agg #[I 0,.string ⟨#[]⟩,I 0,I 0,I 0]) 5 48 Tryz.underlying22 hi hz0 hz1 hz2 rfl (by decide) (.slice so k sc) k (((l.take k).map unn).flatMap rz5) rfl HOw.out.1 ⟨wr.heap.size+1,0,none⟩ 1 1 [I kd,.string nm,I st,I n,I ks] rfl rfl ?c1 ?c2 ?c3 ?c4 ?c5 ?c6 ?_)
    case c1=>rw [<-hsz];exact cell_five (wr.alloc (.cells #[I kd,.string nm,I st,I n,I ks] 61)) _ _ _ _ _ _
    case c2=>intro u hu;simp only [List.mem_cons,List.not_mem_nil,or_false] at hu;rcases hu with rfl | rfl | rfl | rfl | rfl<;>rfl
    case c3=>have:=HL.out;have:=HLt.out;unfold maxLen;omega
    case c4=>have:=HL.out;have:=HLt.out;omega
    case c5=>exact HOw.out.2.size
    case c6=>decide
   all_goals
    intro v' w4 hown4 hG4;have H4:Hid (w4.ownsRow w.heap.size 61 5 v' (k+1) (((l.take (k+1)).map unn).flatMap rz5)/\Below w.heap.size w w4):=by
     refine ⟨?_,HOw.out.2.grown hG4.1 HOw.out.2.size (fun q e=>(World.ownsRow.lt HOw.out.1 q e).1)⟩;rw [HT.out,List.map_append,List.flatMap_append];simp only [List.map_cons,List.map_nil,HU.out,List.flatMap_cons,List.flatMap_nil,List.append_nil];rw [List.map_take];exact hown4
    obtain ⟨bo,bc,rfl⟩:=own_form hown4;clear hown4 hG4;go_wp2_with fail;go_roundg (l.length - (k+1))
    case measure=>have:=HG.out.1;have:=HLt.out;omega
    case rel=>exact ⟨k+1,by have:=HG.out.1;have:=HLt.out;omega,by go_num,H4.out.1,H4.out.2⟩
  ·have hk':decide (k < l.length)=false:=decide_eq_false hlt;have hk2:decide ((k:Int) < (l.length:Int))=false:=decide_eq_false (by omega)
   have HE:Hid (wr.ownsRow w.heap.size 61 5 (.slice so k sc) l.length ((l.map unn).flatMap rz5)):=by
    have hke:k=l.length:=by omega
    subst hke;rw [List.take_length] at hown;exact hown
   clear hkg hown hbw hlt;go_wp2;go_ret;exact ⟨_,rfl,HE.out,HG.out.2.2⟩
def zeroG:Pg:=⟨⟨#[]⟩,[],[],[],[],[],[],0⟩
def resP (l:List Rz):Pg:=match res l with | .error _=>zeroG | .ok p=>p.g
def resC (l:List Rz):Nat × Nat:=match res l with | .error ci=>ci | .ok _=>(0,0)
theorem zero_rd (W:World):RdG W zeroG none none none none none none:=⟨fun i x hx=>by simp [zeroG] at hx,fun i x hx=>by simp [zeroG,qF] at hx,fun i x hx=>by simp [zeroG] at hx,fun i x hx=>by simp [zeroG] at hx,fun i x hx=>by simp [zeroG] at hx,fun i x hx=>by simp [zeroG] at hx⟩
theorem IsPl.all {w:World} {base:Nat} {v:Value} {p:Pl} (h:IsPl w base v p):∃ rb qo vo tto uo oo ac qc vc tc uc oc,v=pv p (pZ rb) qo vo tto uo oo ac qc vc tc uc oc/\p.us.length<=uc/\∀ W:World,(∀ k,base<=k->k < w.heap.size->W.heap[k]?=w.heap[k]?)->Rd W p (pZ rb) qo vo tto uo oo/\IsNats W uo p.us:=by
 obtain ⟨rb,cap,qv,vv,tv,uv,ov,rfl,hrb,hr,hq,hv,ht,hu,ho⟩:=h.ex;obtain ⟨qo,qc,rfl⟩:=own_form hq;obtain ⟨vo,vc,rfl⟩:=own_form hv;obtain ⟨tto,tc,rfl⟩:=own_form ht;obtain ⟨uo,uc,rfl⟩:=own_form hu;obtain ⟨oo,oc,rfl⟩:=own_form ho;refine ⟨rb,qo,vo,tto,uo,oo,cap,qc,vc,tc,uc,oc,rfl,(nats_of hu).2,fun W hW=>?_⟩;have kp:∀ {T:TypeId} {sz n:Nat} {v':Value} {xs:List Value},w.ownsRow base T sz v' n xs->W.ownsRow base T sz v' n xs:=fun h1=>own_keepB h1 (fun k hk=>hW k (World.ownsRow.lt h1 k hk).1 (World.ownsRow.lt h1 k hk).2);refine ⟨⟨(hr.same (hW rb hrb hr.lt)).rz,vals_of (kp hq),vals_of (kp hv),vals_of (kp ht),?_,vals_of (kp ho)⟩,(nats_of (kp hu)).1⟩;have:=vals_of (kp hu)
 simpa [iv,nv,List.map_map,Function.comp_def] using this
theorem rd_g {W:World} {p:Pl} {ao qo vo tto uo oo:Option Addr} (h:Rd W p ao qo vo tto uo oo):RdG W p.g ao qo vo tto uo oo:=⟨h.r,h.q,h.v,h.t,h.u,h.o⟩
theorem told_g {w w':World} {l:List Rz} {e:Ending} (h:Told w (res l) e w'):∃ ao qo vo tto uo oo ac qc vc tc uc oc,e=.returned (.tuple #[pvG (resP l) ao qo vo tto uo oo ac qc vc tc uc oc,.agg #[I ((resC l).1:Int),I ((resC l).2:Int)]])/\Below w.heap.size w w'/\∀ W:World,(∀ k,w.heap.size<=k->k < w'.heap.size->W.heap[k]?=w'.heap[k]?)->RdG W (resP l) ao qo vo tto uo oo:=by
 obtain ⟨hb,hm⟩:=h;unfold resP resC;cases hr:res l with
 | error ci=>
  rw [hr] at hm;exact ⟨none,none,none,none,none,none,0,0,0,0,0,0,hm,hb,fun W _=>zero_rd W⟩
 | ok p=>
  rw [hr] at hm;obtain ⟨v,he,hp⟩:=hm;obtain ⟨rb,qo,vo,tto,uo,oo,ac,qc,vc,tc,uc,oc,rfl,_,hall⟩:=hp.all;refine ⟨some ⟨rb,0,none⟩,qo,vo,tto,uo,oo,ac,qc,vc,tc,uc,oc,?_,hb,fun W hW=>rd_g (hall W hW).1⟩;rw [he];simp [pvG,pv,Pl.g]
theorem rz_of_own {w:World} {base n c:Nat} {bo:Option Addr} {l:List Rz} (h:w.ownsRow base 61 5 (.slice bo n c) n (l.flatMap rz5)) (hl:l.length=n):IsRz w bo l:=by
 subst hl;cases l with
 | nil=>exact fun i x hx=>by simp at hx
 | cons x l=>
  obtain ⟨g,cap,cur,e,_⟩:=own_block h (by simp)
  cases e;exact (rw_of_own h).rz
theorem rcheck_any {w:World} {p:Pg} {ao qo vo tto uo oo:Option Addr} {ac qc vc tc uc oc:Nat} (h:RdG w p ao qo vo tto uo oo) (hs:p.Sm) (hkd:∀ r ∈ p.rows,r.kids<=9223372036854775807/\r.name.size<=4611686018427387000):
  Calls Tryz.prog 33 #[pvG p ao qo vo tto uo oo ac qc vc tc uc oc] w fun e w'=>((∃ p',res (p.rows.map unn)=.ok p'/\p'.g=p/\e=.returned (I 0))\/((¬ ∃ p',res (p.rows.map unn)=.ok p'/\p'.g=p)/\e=.returned (I 23)))/\Below w.heap.size w w':=by
 dsimp only [pvG];have hb1:Below w.heap.size w (w.alloc (.cells (pC p ao ac qo qc vo vc tto tc uo uc oo oc) 27)):=bAl w _;have H1:Hid ((w.alloc (.cells (pC p ao ac qo qc vo vc tto tc uo uc oo oc) 27)).heap[w.heap.size]?=some (.cells (pC p ao ac qo qc vo vc tto tc uo uc oo oc) 27 (0,0))/\Below w.heap.size w (w.alloc (.cells (pC p ao ac qo qc vo vc tto tc uo uc oo oc) 27))/\RdG w p ao qo vo tto uo oo/\p.Sm):=⟨heap_alloc_new w _,hb1,h,hs⟩;have HKd:Hid (∀ r ∈ p.rows.map unn,r.kids<=9223372036854775807/\r.name.size<=4611686018427387000):=fun r hr=>by
  obtain ⟨x,hx,rfl⟩:=List.mem_map.1 hr;have:=hkd x hx;unfold unn
  split<;>exact this
 obtain ⟨k0,k1,k2,k3,k4,k5,k6,k7⟩:=pol8 H1.out.1;have HPl:=hdn <| rplain_any (cap:=ac) (h.r.below hb1) hs.r;clear h hs hb1 hkd;go_enter Tryz.func33,Tryz.ntmps33;go_wp2_with fail;generalize w.alloc (.cells (pC p ao ac qo qc vo vc tto tc uo uc oo oc) 27)=w1 at *;clear k0 k1 k2 k3 k4 k5 k6 k7;refine Calls.mono HPl.out ?_;rintro e w2 ⟨v,rfl,hv,hb2⟩;obtain ⟨bo,bc,rfl⟩:=own_form hv;have HZ:Hid (IsRz w2 bo (p.rows.map unn)/\Below w1.heap.size w1 w2):=⟨rz_of_own hv (by simp),hb2⟩
 have HRs:Hid (Calls Tryz.prog 61 #[.slice bo p.rows.length bc] w2 (Told w2 (res (p.rows.map unn)))):=by
  have:=rresolve_any (cap:=bc) HZ.out.1 (by rw [List.length_map];exact H1.out.2.2.2.r) HKd.out
  rw [List.length_map] at this;exact this
 clear hv hb2 HPl;go_wp2_with fail;refine Calls.mono HRs.out ?_;rintro e w3 hT3;obtain ⟨ao1,qo1,vo1,to1,uo1,oo1,ac1,qc1,vc1,tc1,uc1,oc1,rfl,hb3,hrd3⟩:=told_g hT3;have HC:Hid (∀ ci,res (p.rows.map unn)=.error ci->0 < (resC (p.rows.map unn)).1):=fun ci hci=>by
  unfold resC;rw [hci];exact res_pos hci
 have HO:Hid (∀ q,res (p.rows.map unn)=.ok q->(resC (p.rows.map unn)).1=0/\resP (p.rows.map unn)=q.g):=fun q hq=>by
  unfold resC resP;rw [hq];exact ⟨rfl,rfl⟩
 clear hT3 HRs HKd;generalize resP (p.rows.map unn)=P at *;generalize resC (p.rows.map unn)=C at *;obtain ⟨c1,c2⟩:=C;dsimp only [pvG] at HC HO ⊢;have hb4:Below w3.heap.size w3 ((w3.alloc (.cells (pC P ao1 ac1 qo1 qc1 vo1 vc1 to1 tc1 uo1 uc1 oo1 oc1) 27)).alloc (.cells #[I (c1:Int),I (c2:Int)] 32)):=(bAl w3 _).alloc (by simp) _
 have hx1:((w3.alloc (.cells (pC P ao1 ac1 qo1 qc1 vo1 vc1 to1 tc1 uo1 uc1 oo1 oc1) 27)).alloc (.cells #[I (c1:Int),I (c2:Int)] 32)).heap[w3.heap.size]?=some (.cells (pC P ao1 ac1 qo1 qc1 vo1 vc1 to1 tc1 uo1 uc1 oo1 oc1) 27 (0,0)):=by rw [alloc_old _ _ _ (by simp)];exact alloc_at _ _ _ rfl
 have hx2:((w3.alloc (.cells (pC P ao1 ac1 qo1 qc1 vo1 vc1 to1 tc1 uo1 uc1 oo1 oc1) 27)).alloc (.cells #[I (c1:Int),I (c2:Int)] 32)).heap[w3.heap.size+1]?=some (.cells #[I (c1:Int),I (c2:Int)] 32 (0,0)):=alloc_at _ _ _ (by simp)
 have hb13:Below w1.heap.size w1 ((w3.alloc (.cells (pC P ao1 ac1 qo1 qc1 vo1 vc1 to1 tc1 uo1 uc1 oo1 oc1) 27)).alloc (.cells #[I (c1:Int),I (c2:Int)] 32)):=(HZ.out.2.trans (hb3.mono HZ.out.2.size)).trans (hb4.mono (by have:=HZ.out.2.size;have:=hb3.size;omega))
 have H4:Hid (Below w.heap.size w ((w3.alloc (.cells (pC P ao1 ac1 qo1 qc1 vo1 vc1 to1 tc1 uo1 uc1 oo1 oc1) 27)).alloc (.cells #[I (c1:Int),I (c2:Int)] 32))/\RdG ((w3.alloc (.cells (pC P ao1 ac1 qo1 qc1 vo1 vc1 to1 tc1 uo1 uc1 oo1 oc1) 27)).alloc (.cells #[I (c1:Int),I (c2:Int)] 32)) P ao1 qo1 vo1 to1 uo1 oo1/\RdG ((w3.alloc (.cells (pC P ao1 ac1 qo1 qc1 vo1 vc1 to1 tc1 uo1 uc1 oo1 oc1) 27)).alloc (.cells #[I (c1:Int),I (c2:Int)] 32)) p ao qo vo tto uo oo):=by
  have hb:Below w.heap.size w ((w3.alloc (.cells (pC P ao1 ac1 qo1 qc1 vo1 vc1 to1 tc1 uo1 uc1 oo1 oc1) 27)).alloc (.cells #[I (c1:Int),I (c2:Int)] 32)):=H1.out.2.1.trans (hb13.mono H1.out.2.1.size);exact ⟨hb,hrd3 _ (fun k _ hk=>hb4.block k hk),H1.out.2.2.1.below hb⟩
 obtain ⟨a0,a1,a2,a3,a4,a5,a6,a7⟩:=pol8 hx1;obtain ⟨b0,b1,b2,b3,b4,b5,b6,b7⟩:=pol8 ((hb13.block _ (blk_lt H1.out.1)).trans H1.out.1);have f0:((w3.alloc (.cells (pC P ao1 ac1 qo1 qc1 vo1 vc1 to1 tc1 uo1 uc1 oo1 oc1) 27)).alloc (.cells #[I (c1:Int),I (c2:Int)] 32)).cell? ⟨w3.heap.size+1,0,none⟩=some (I (c1:Int)):=by rw [World.cell?,hx2];rfl
 clear hb3 hrd3 hb4 hx1 hx2 hb13;cases hres:res (p.rows.map unn) with
 | error ci=>
  have hc1:=HC.out ci hres;have hc2:((c1:Int) != 0)=true:=by simp;omega
  have HN:Hid (¬ ∃ p',res (p.rows.map unn)=.ok p'/\p'.g=p):=fun ⟨_,h,_⟩=>by rw [hres] at h;cases h
  clear hc1;go_wp2_with fail;go_ret;exact ⟨Or.inr ⟨HN.out,rfl⟩,H4.out.1⟩
 | ok q=>
  obtain ⟨hc0,rfl⟩:=HO.out q hres;have hc2:((c1:Int) != 0)=false:=by simp [hc0]
  have HRq:Hid (res (p.rows.map unn)=.ok q):=hres;have HSm:=hdn <| rsame_any (ac:=ac) (qc:=qc) (vc:=vc) (tc:=tc) (uc:=uc) (oc:=oc) (ac2:=ac1) (qc2:=qc1) (vc2:=vc1) (tc2:=tc1) (uc2:=uc1) (oc2:=oc1) H4.out.2.2 H4.out.2.1 H1.out.2.2.2;dsimp only [pvG] at HSm;clear HC HO hres hc0;go_wp2_with fail;generalize ((w3.alloc (.cells #[.string q.g.name,.slice ao1 q.g.rows.length ac1,.slice qo1 q.g.qs.length qc1,.slice vo1 q.g.vs.length vc1,.slice to1 q.g.ts.length tc1,.slice uo1 q.g.us.length uc1,.slice oo1 q.g.on.length oc1,I q.g.miss] 27)).alloc (.cells #[I (c1:Int),I (c2:Int)] 32))=w4 at *;refine Calls.mono HSm.out ?_;rintro e w5 ⟨⟨b,rfl,hbt⟩,hb5⟩;have HB5:Hid (Below w.heap.size w w5):=H4.out.1.trans (hb5.mono H4.out.1.size);clear hb5 a0 a1 a2 a3 a4 a5 a6 a7 b0 b1 b2 b3 b4 b5 b6 b7 f0;cases b with
  | true=>
   have HP:Hid (p=q.g):=hbt.1 rfl;clear hbt;go_wp2_with fail;go_ret;exact ⟨Or.inl ⟨q,HRq.out,HP.out.symm,rfl⟩,HB5.out⟩
  | false=>
   have HP:Hid (¬ ∃ p',res (p.rows.map unn)=.ok p'/\p'.g=p):=fun ⟨p',h,h2⟩=>by
    rw [HRq.out] at h;cases h;have:=hbt.2 h2.symm;cases this
   clear hbt;go_wp2_with fail;go_ret;exact ⟨Or.inr ⟨HP.out,rfl⟩,HB5.out⟩
end Go.Proofs.YtbledbjcghaanaaGreat.Nm
