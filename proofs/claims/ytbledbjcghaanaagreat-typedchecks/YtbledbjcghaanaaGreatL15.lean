import Derived.Test.YtbledbjcghaanaaGreatTl
import Derived.Test.YtbledbjcghaanaaGreatL14
import Derived.BigQuiet
set_option maxHeartbeats 12800000
set_option maxRecDepth 100000
namespace Go.Proofs.YtbledbjcghaanaaGreat.Nm
open Go.RowKit Go.Maps Sp Lx Gr
theorem same17 {w:World} {ao bo:Option Addr} {l m:List Int} {ca cb:Nat} (ha:IsVals w ao (iv l)) (hb:IsVals w bo (iv m)) (hn:l.length<=17592186043904):
  Calls Tryz.prog 14 #[.slice ao l.length ca,.slice bo m.length cb] w fun e w'=>(∃ b,e=.returned (.bool b)/\(b=true ↔ l=m))/\Below w.heap.size w w':=by
 by_cases hlen:l.length=m.length
 ·have HA:=hdn <| ha;have HB:=hdn <| hb;have HLn:=hdn <| hlen;have hn2:(l.length:Int)<=17592186043904:=by omega
  have hne:((l.length:Int) != (l.length:Int))=false:=by simp
  rw [<-hlen];clear ha hb hlen;go_enter Tryz.func14,Tryz.ntmps14;go_wp2_with fail
  go_loopg [5] l.length (fun gq x wr=>∃ k:Nat,k+gq=l.length/\x=I (k:Int)/\l.take k=m.take k/\Below w.heap.size w wr)
  case atStart=>exact ⟨0,by omega,rfl,rfl,Below.refl _ _⟩
  case round=>
   obtain ⟨k,hkg,rfl,htk,hbw⟩:=hrel;have HG:Hid (k+gk=l.length/\Below w.heap.size w wr/\l.take k=m.take k):=⟨hkg,hbw,htk⟩;by_cases hlt:k < l.length
   ·have hk':(k:Int) < (l.length:Int):=by omega
    have hk2:(k:Int)<=17592186043904:=by omega
    have hlm:k < m.length:=by have:=HLn.out;omega
    have hx:(iv l)[k]?=some (I l[k]):=by rw [List.getElem?_map,List.getElem?_eq_getElem hlt];rfl
    have hy:(iv m)[k]?=some (I m[k]):=by rw [List.getElem?_map,List.getElem?_eq_getElem hlm];rfl
    obtain ⟨g,o,rfl,_,d0⟩:=(IsVals.below HA.out hbw) k _ hx;obtain ⟨g',o',rfl,_,e0⟩:=(IsVals.below HB.out hbw) k _ hy;have HSame:Hid (l[k]=m[k]->l.take (k+1)=m.take (k+1)):=fun e=>by rw [List.take_add_one,List.take_add_one,HG.out.2.2,List.getElem?_eq_getElem hlt,List.getElem?_eq_getElem hlm,e]
    have HDiff:Hid (l[k] ≠ m[k]->l ≠ m):=fun e h=>e (by subst h;rfl)
    clear hx hy;generalize l[k]=x at *;generalize m[k]=y at *;have HLt:Hid (k < l.length):=hlt;clear hkg hlt hbw htk hlm;by_cases hxy:x=y
    ·subst hxy;have HS:Hid (l.take (k+1)=m.take (k+1)):=HSame.out rfl;clear HSame HDiff;have hq:(x != x)=false:=by simp
     go_wp2_with fail
     go_quiet (fail)
     go_wp2_with fail
     go_roundg (l.length - (k+1))
     case measure=>have:=HG.out.1;have:=HLt.out;omega
     case rel=>exact ⟨k+1,by have:=HLt.out;omega,by go_num,HS.out,HG.out.2.1.trans ((below_drewN _ _).mono HG.out.2.1.size)⟩
    ·have HD:Hid (l ≠ m):=HDiff.out hxy;clear HSame HDiff;have hq:(x != y)=true:=by simp [hxy]
     go_wp2_with fail
     go_quiet (fail)
     go_wp2;go_ret;exact ⟨⟨false,rfl,by simp [HD.out]⟩,HG.out.2.1.trans ((below_drewN _ _).mono HG.out.2.1.size)⟩
   ·have hk':decide (k < l.length)=false:=decide_eq_false hlt;have HE:Hid (l=m):=by
     have hke:k=l.length:=by omega
     rw [hke,List.take_length,HLn.out,List.take_length] at htk;exact htk
    clear hkg hlt hbw htk;go_wp2;go_ret;exact ⟨⟨true,rfl,by simp [HE.out]⟩,HG.out.2.1⟩
 ·have hne:((l.length:Int) != (m.length:Int))=true:=by simp;omega
  have HD:Hid (l ≠ m):=fun e=>hlen (by rw [e])
  clear ha hb hlen hn;go_enter Tryz.func14,Tryz.ntmps14;go_wp2;go_ret;exact ⟨⟨false,rfl,by simp [HD.out]⟩,Below.refl _ _⟩
end Go.Proofs.YtbledbjcghaanaaGreat.Nm
namespace Go.Proofs.YtbledbjcghaanaaGreat.Nm.Ty
open Go.RowKit Go.Maps Sp Lx Gr Nm
theorem sameR8 (ao bo:Option Addr) (l:List Rz) (ca cb:Nat) (w:World) (h1:IsRz w ao l) (h2:IsRz w bo l) (hn:l.length<=2932031007317):
  Calls Tryz.prog 65 #[.slice ao l.length ca,.slice bo l.length cb] w fun e w'=>e=.returned (.bool true)/\Below w.heap.size w w':=by
 have H1:Hid (IsRz w ao l):=h1;have H2:Hid (IsRz w bo l):=h2;have hln:(l.length:Int)<=2932031007317:=by omega
 clear h1 h2 hn;have hne:((l.length:Int) != (l.length:Int))=false:=by simp
 go_enter Tryz.func65,Tryz.ntmps65
 go_wp2
 go_loopw [5] (fun i wr=>∃ k:Nat,k<=l.length/\i=I k/\Below w.heap.size w wr) (fun i _=>l.length - (intOf i).toNat)
 case atStart=>exact ⟨0,Nat.zero_le _,rfl,Below.refl _ _⟩
 case round=>
  obtain ⟨k,hk,rfl,hB⟩:=hrel;have HB:Hid (Below w.heap.size w wr):=hB;clear hB;by_cases hlt:k < l.length
  ·obtain ⟨x,hx⟩:∃ x,l[k]?=some x:=⟨_,List.getElem?_eq_getElem hlt⟩;obtain ⟨g1,o1,rfl,hg1,a0,a1,a2,a3,a4⟩:=(H1.out.below HB.out) k x hx;obtain ⟨g2,o2,rfl,hg2,b0,b1,b2,b3,b4⟩:=(H2.out.below HB.out) k x hx;obtain ⟨kd,nm,e,m,c⟩:=x;clear hx;simp only at a0 a1 a2 a3 a4 b0 b1 b2 b3 b4;go_wp2_with fail
   go_quiet (fail)
   go_wp2
   go_roundw
   case rel=>exact ⟨k+1,by omega,by go_num,HB.out.trans ((Go.Proofs.YtbledbjcghaanaaGreat.Lx.below_drewN _ _).mono HB.out.size)⟩
   case measure=>simp [intOf];omega
  ·have hd:decide ((k:Int) < (l.length:Int))=false:=by simp;omega
   go_wp2;go_ret;exact ⟨rfl,HB.out⟩
theorem sameQ8 (ao bo:Option Addr) (l:List (ByteArray × Bool)) (ca cb:Nat) (w:World) (h1:IsVals w ao (qF l)) (h2:IsVals w bo (qF l)) (hn:l.length<=17592186043904):
  Calls Tryz.prog 66 #[.slice ao l.length ca,.slice bo l.length cb] w fun e w'=>e=.returned (.bool true)/\Below w.heap.size w w':=by
 have H1:Hid (IsVals w ao (qF l)):=h1;have H2:Hid (IsVals w bo (qF l)):=h2;have hln:(l.length:Int)<=17592186043904:=by omega
 clear h1 h2 hn;have hne:((l.length:Int) != (l.length:Int))=false:=by simp
 go_enter Tryz.func66,Tryz.ntmps66
 go_wp2
 go_loopw [5] (fun i wr=>∃ k:Nat,k<=l.length/\i=I k/\Below w.heap.size w wr) (fun i _=>l.length - (intOf i).toNat)
 case atStart=>exact ⟨0,Nat.zero_le _,rfl,Below.refl _ _⟩
 case round=>
  obtain ⟨k,hk,rfl,hB⟩:=hrel;have HB:Hid (Below w.heap.size w wr):=hB;clear hB;by_cases hlt:k < l.length
  ·obtain ⟨x,hx⟩:∃ x,l[k]?=some x:=⟨_,List.getElem?_eq_getElem hlt⟩;obtain ⟨q1,q2⟩:=qF_two l k x hx;obtain ⟨g1,o1,rfl,_,a0⟩:=(H1.out.below HB.out) _ _ q1;obtain ⟨_,_,e1,_,a1⟩:=(H1.out.below HB.out) _ _ q2;obtain ⟨g2,o2,rfl,_,b0⟩:=(H2.out.below HB.out) _ _ q1;obtain ⟨_,_,e2,_,b1⟩:=(H2.out.below HB.out) _ _ q2;cases e1;cases e2;rw [<-Nat.add_assoc] at a1 b1;obtain ⟨nm,gh⟩:=x;clear hx q1 q2;simp only at a0 a1 b0 b1;go_wp2_with fail
   go_quiet (fail)
   go_wp2
   go_roundw
   case rel=>exact ⟨k+1,by omega,by go_num,HB.out.trans ((Go.Proofs.YtbledbjcghaanaaGreat.Lx.below_drewN _ _).mono HB.out.size)⟩
   case measure=>simp [intOf];omega
  ·have hd:decide ((k:Int) < (l.length:Int))=false:=by simp;omega
   go_wp2;go_ret;exact ⟨rfl,HB.out⟩
theorem sameW8 (ao bo:Option Addr) (l:List ByteArray) (ca cb:Nat) (w:World) (h1:IsVals w ao (l.map Value.string)) (h2:IsVals w bo (l.map Value.string)) (hn:l.length<=17592186043904):
  Calls Tryz.prog 67 #[.slice ao l.length ca,.slice bo l.length cb] w fun e w'=>e=.returned (.bool true)/\Below w.heap.size w w':=by
 have H1:Hid (IsVals w ao (l.map Value.string)):=h1;have H2:Hid (IsVals w bo (l.map Value.string)):=h2;have hln:(l.length:Int)<=17592186043904:=by omega
 clear h1 h2 hn;have hne:((l.length:Int) != (l.length:Int))=false:=by simp
 go_enter Tryz.func67,Tryz.ntmps67
 go_wp2
 go_loopw [5] (fun i wr=>∃ k:Nat,k<=l.length/\i=I k/\Below w.heap.size w wr) (fun i _=>l.length - (intOf i).toNat)
 case atStart=>exact ⟨0,Nat.zero_le _,rfl,Below.refl _ _⟩
 case round=>
  obtain ⟨k,hk,rfl,hB⟩:=hrel;have HB:Hid (Below w.heap.size w wr):=hB;clear hB;by_cases hlt:k < l.length
  ·have hx:(l.map Value.string)[k]?=some (.string l[k]):=by rw [List.getElem?_map,List.getElem?_eq_getElem hlt];rfl
   obtain ⟨g1,o1,rfl,_,a0⟩:=(H1.out.below HB.out) _ _ hx;obtain ⟨g2,o2,rfl,_,b0⟩:=(H2.out.below HB.out) _ _ hx;generalize l[k]=x at *;have hq:(x.toList != x.toList)=false:=by simp
   clear hx;go_wp2_with fail
   go_quiet (fail)
   go_wp2
   go_roundw
   case rel=>exact ⟨k+1,by omega,by go_num,HB.out.trans ((Go.Proofs.YtbledbjcghaanaaGreat.Lx.below_drewN _ _).mono HB.out.size)⟩
   case measure=>simp [intOf];omega
  ·have hd:decide ((k:Int) < (l.length:Int))=false:=by simp;omega
   go_wp2;go_ret;exact ⟨rfl,HB.out⟩
theorem kept17 {w:World} {g c:Nat} {l:List Int} {lo:Option Addr} (h1:RowJ w g (fillI l 5)) (h2:IsVals w lo (iv l)) (hn:l.length<=17592186043904):
  Calls Tryz.prog 17 #[.slice (pZ g) l.length (l.length+5),.slice lo l.length c] w fun e w'=>e=.returned (.bool true)/\Fr [g] w w':=by
 have HS:=hdn <| same17 (ca:=l.length+5) (cb:=c) (RowJ.vals (q:=l) h1) h2 hn;have H1:Hid (RowJ w g (fillI l 5)):=h1;have hln:(l.length:Int)<=17592186043904:=by omega
 clear h1 h2 hn;go_enter Tryz.func17,Tryz.ntmps17;go_wp2_with fail;refine Calls.mono HS.out ?_;rintro e w1 ⟨⟨b,rfl,hbt⟩,hb1⟩;obtain rfl:b=true:=by simpa using hbt
 have HR:Hid (RowJ w1 g (fillI l 5)/\Fr [g] w w1):=⟨H1.out.below hb1 H1.out.lt,Fr.of_below hb1⟩;clear hbt hb1 HS H1;go_wp2_with fail
 go_loopg [5,7] 5 (fun gq a i wr=>a=.bool true/\wr=w1/\∃ k:Nat,k<=5/\gq=5 - k/\i=I ((l.length:Int)+k))
 case atStart=>exact ⟨rfl,rfl,0,by omega,rfl,by go_num⟩
 case round=>
  obtain ⟨rfl,rfl,k,hk,hgk,rfl⟩:=hrel;have HG:Hid (gk=5 - k):=hgk;have hk3:(k:Int)<=5:=by omega
  clear hgk;by_cases hlt:k < 5
  ·have hlt':(l.length:Int)+(k:Int) < (l.length:Int)+5:=by omega
   have c0:=HR.out.1.cell (fillI_mark l k hlt);have htn:((l.length:Int)+(k:Int)).toNat=l.length+k:=by omega
   have hcast:((l.length+k:Nat):Int)=(l.length:Int)+(k:Int):=by omega
   clear hlt;rw [<-hcast] at hlt' ⊢;go_wp2_with fail;go_roundg (5 - (k+1))
   case measure=>have h1:=HG.out;omega
   case rel=>exact ⟨by simp,rfl,k+1,by omega,rfl,by go_num⟩
  ·have hlt':¬ ((l.length:Int)+(k:Int) < (l.length:Int)+5):=by omega
   clear hlt hk;go_wp2_with fail
   go_loopg [8] (l.length+5) (fun gq x wy=>∃ (j:Nat) (q:List Int),j+gq=l.length+5/\x=I (j:Int)/\RowJ wy g q/\q.length=l.length+5/\Fr [g] w wy)
   case atStart=>exact ⟨0,_,by omega,rfl,HR.out.1,fillI_len l 5 (by omega),HR.out.2⟩
   case round=>
    obtain ⟨j,q,hjg,rfl,hq,hql,hFr⟩:=hrel;have HJ:Hid (j+gk=l.length+5/\RowJ wr g q/\q.length=l.length+5/\Fr [g] w wr):=⟨hjg,hq,hql,hFr⟩;by_cases hjl:j < l.length+5
    ·have hj':(j:Int) < (l.length:Int)+5:=by omega
     have c0:=hq.cell (i:=j) (List.getElem?_eq_getElem (by omega))
     have hfz:=hq.frozen j;have HS2:Hid (RowJ (wr.setCell ⟨g,j,none⟩ (I 31)) g (q.set j 31)/\Fr [g] w (wr.setCell ⟨g,j,none⟩ (I 31))):=⟨hq.set j 31,hFr.trans (Fr.set (F:=[g]) wr j _ (by simp)) (fun x hx=>Or.inl hx)⟩
     have HLt:Hid (j < l.length+5):=hjl;generalize q[j]'(by omega)=old at c0
     clear hjg hq hql hFr;go_wp2_with fail;go_roundg (l.length+5 - (j+1))
     case measure=>have:=HJ.out.1;have:=HLt.out;omega
     case rel=>exact ⟨j+1,q.set j 31,by have:=HLt.out;omega,by go_num,HS2.out.1,by simpa using HJ.out.2.2.1,HS2.out.2⟩
    ·have hj':¬ ((j:Int) < (l.length:Int)+5):=by omega
     clear hjg hq hql hFr;go_wp2_with fail;go_ret;exact ⟨rfl,HJ.out.2.2.2⟩
structure Lm (p:Pg):Prop where
 r:p.rows.length<=2932031007317
 q:p.qs.length<=5864062014634
 v:p.vs.length<=8796093021952
 t:p.ts.length<=8796093021952
 u:p.us.length<=17592186043904
 o:p.on.length<=17592186043904
structure Bx8 (w X:World) (ca cb:Array Value):Prop where
 a:X.heap[w.heap.size]?=some (.cells ca 27 (0,0))
 b:X.heap[w.heap.size+1]?=some (.cells cb 27 (0,0))
 be:Below w.heap.size w X
theorem Bx8.below {w X Y:World} {ca cb:Array Value} (h:Bx8 w X ca cb) (hb:Below X.heap.size X Y):Bx8 w Y ca cb:=⟨(hb.block _ (blk_lt h.a)).trans h.a,(hb.block _ (blk_lt h.b)).trans h.b,h.be.trans (hb.mono h.be.size)⟩
theorem bx8_start (w:World) (ca cb:Array Value):Bx8 w ((w.alloc (.cells ca 27)).alloc (.cells cb 27)) ca cb:=⟨by rw [alloc_old _ _ _ (by simp)];exact alloc_at _ _ _ rfl,alloc_at _ _ _ (by simp),(bAl w _).alloc (by simp) _⟩
theorem same8 {w:World} {p:Pg} {ao qo vo tto uo oo ao2 qo2 vo2 tto2 uo2 oo2:Option Addr} {ac qc vc tc uc oc ac2 qc2 vc2 tc2 uc2 oc2:Nat} (h1:RdG w p ao2 qo2 vo2 tto2 uo2 oo2) (h2:RdG w p ao qo vo tto uo oo) (hs:Lm p):
  Calls Tryz.prog 38 #[.agg (pC p ao2 ac2 qo2 qc2 vo2 vc2 tto2 tc2 uo2 uc2 oo2 oc2),.agg (pC p ao ac qo qc vo vc tto tc uo uc oo oc)] w fun e w'=>e=.returned (.bool true)/\Below w.heap.size w w':=by
 have H1:=hdn <| h1;have H2:=hdn <| h2;have HS:=hdn <| hs;have HX:Hid (Bx8 w ((w.alloc (.cells (pC p ao2 ac2 qo2 qc2 vo2 vc2 tto2 tc2 uo2 uc2 oo2 oc2) 27)).alloc (.cells (pC p ao ac qo qc vo vc tto tc uo uc oo oc) 27)) (pC p ao2 ac2 qo2 qc2 vo2 vc2 tto2 tc2 uo2 uc2 oo2 oc2) (pC p ao ac qo qc vo vc tto tc uo uc oo oc)):=bx8_start w _ _;obtain ⟨a0,a1,a2,a3,a4,a5,a6,a7⟩:=zr8 HX.out.a;obtain ⟨b0,b1,b2,b3,b4,b5,b6,b7⟩:=zr8 HX.out.b;have hnm:(p.name.toList == p.name.toList)=true:=by simp
 have hms:(p.miss == p.miss)=true:=by simp
 clear h1 h2 hs;go_enter Tryz.func38,Tryz.ntmps38;go_wp2_with fail;generalize (w.alloc (.cells (pC p ao2 ac2 qo2 qc2 vo2 vc2 tto2 tc2 uo2 uc2 oo2 oc2) 27)).alloc (.cells (pC p ao ac qo qc vo vc tto tc uo uc oo oc) 27)=x0 at *;refine Calls.mono (sameR8 ao2 ao p.rows ac2 ac x0 (RdG.r H1.out |>.below HX.out.be) (RdG.r H2.out |>.below HX.out.be) (by have:=Lm.r HS.out;omega)) ?_
 rintro e x1 ⟨rfl,hb⟩;have HX:=hdn <| HX.out.below hb;clear hb a0 a1 a2 a3 a4 a5 a6 a7 b0 b1 b2 b3 b4 b5 b6 b7;obtain ⟨a0,a1,a2,a3,a4,a5,a6,a7⟩:=zr8 HX.out.a;obtain ⟨b0,b1,b2,b3,b4,b5,b6,b7⟩:=zr8 HX.out.b;go_wp2_with fail;refine Calls.mono (sameQ8 qo2 qo p.qs qc2 qc x1 (RdG.q H1.out |>.below HX.out.be) (RdG.q H2.out |>.below HX.out.be) (by have:=Lm.q HS.out;omega)) ?_
 rintro e x2 ⟨rfl,hb⟩;have HX:=hdn <| HX.out.below hb;clear hb a0 a1 a2 a3 a4 a5 a6 a7 b0 b1 b2 b3 b4 b5 b6 b7;obtain ⟨a0,a1,a2,a3,a4,a5,a6,a7⟩:=zr8 HX.out.a;obtain ⟨b0,b1,b2,b3,b4,b5,b6,b7⟩:=zr8 HX.out.b;go_wp2_with fail;refine Calls.mono (sameW8 vo2 vo p.vs vc2 vc x2 (RdG.v H1.out |>.below HX.out.be) (RdG.v H2.out |>.below HX.out.be) (by have:=Lm.v HS.out;omega)) ?_
 rintro e x3 ⟨rfl,hb⟩;have HX:=hdn <| HX.out.below hb;clear hb a0 a1 a2 a3 a4 a5 a6 a7 b0 b1 b2 b3 b4 b5 b6 b7;obtain ⟨a0,a1,a2,a3,a4,a5,a6,a7⟩:=zr8 HX.out.a;obtain ⟨b0,b1,b2,b3,b4,b5,b6,b7⟩:=zr8 HX.out.b;go_wp2_with fail;refine Calls.mono (sameW8 tto2 tto p.ts tc2 tc x3 (RdG.t H1.out |>.below HX.out.be) (RdG.t H2.out |>.below HX.out.be) (by have:=Lm.t HS.out;omega)) ?_
 rintro e x4 ⟨rfl,hb⟩;have HX:=hdn <| HX.out.below hb;clear hb a0 a1 a2 a3 a4 a5 a6 a7 b0 b1 b2 b3 b4 b5 b6 b7;obtain ⟨a0,a1,a2,a3,a4,a5,a6,a7⟩:=zr8 HX.out.a;obtain ⟨b0,b1,b2,b3,b4,b5,b6,b7⟩:=zr8 HX.out.b;go_wp2_with fail;refine Calls.mono (same17 (ca:=uc2) (cb:=uc) (RdG.u H1.out |>.below HX.out.be) (RdG.u H2.out |>.below HX.out.be) (by have:=Lm.u HS.out;omega)) ?_
 rintro e x5 ⟨⟨b,rfl,hbt⟩,hb⟩;obtain rfl:b=true:=by simpa using hbt
 have HX:=hdn <| HX.out.below hb;clear hb a0 a1 a2 a3 a4 a5 a6 a7 b0 b1 b2 b3 b4 b5 b6 b7;obtain ⟨a0,a1,a2,a3,a4,a5,a6,a7⟩:=zr8 HX.out.a;obtain ⟨b0,b1,b2,b3,b4,b5,b6,b7⟩:=zr8 HX.out.b;go_wp2_with fail;refine Calls.mono (same17 (ca:=oc2) (cb:=oc) (RdG.o H1.out |>.below HX.out.be) (RdG.o H2.out |>.below HX.out.be) (by have:=Lm.o HS.out;omega)) ?_
 rintro e x6 ⟨⟨b,rfl,hbt⟩,hb⟩;obtain rfl:b=true:=by simpa using hbt
 have HX:=hdn <| HX.out.below hb;clear hb a0 a1 a2 a3 a4 a5 a6 a7 b0 b1 b2 b3 b4 b5 b6 b7;obtain ⟨a0,a1,a2,a3,a4,a5,a6,a7⟩:=zr8 HX.out.a;obtain ⟨b0,b1,b2,b3,b4,b5,b6,b7⟩:=zr8 HX.out.b;go_wp2_with fail;go_ret;exact ⟨rfl,HX.out.be⟩
theorem spare8 {w:World} {g c:Nat} {l:List ByteArray} {lo:Option Addr} (h1:w.heap[g]?=some (.cells ((l++List.replicate 3 (⟨#[]⟩:ByteArray)).map Value.string).toArray 9 (0,0))) (h2:IsVals w lo (l.map Value.string)) (hn:l.length<=8796093021952):
  Calls Tryz.prog 39 #[.slice (pZ g) l.length (l.length+3),.slice lo l.length c] w fun e w'=>e=.returned (.bool true)/\Fr [g] w w':=by
 have HS:=hdn <| sameW8 (pZ g) lo l (l.length+3) c w (copied_vals (ys:=(List.replicate 3 (⟨#[]⟩:ByteArray)).map Value.string) (by rw [<-List.map_append];exact h1)) h2 (by omega)
 have H1:=hdn <| h1;have hln:(l.length:Int)<=8796093021952:=by omega
 clear h1 h2 hn;go_enter Tryz.func39,Tryz.ntmps39;go_wp2_with fail;refine Calls.mono HS.out ?_;rintro e w1 ⟨rfl,hb1⟩;have HR:Hid (w1.heap[g]?=some (.cells ((l++List.replicate 3 (⟨#[]⟩:ByteArray)).map Value.string).toArray 9 (0,0))/\Fr [g] w w1):=⟨(hb1.block _ (blk_lt H1.out)).trans H1.out,Fr.of_below hb1⟩;clear hb1 HS H1;go_wp2_with fail
 go_loopg [5,7] (l.length+3) (fun gq a x wy=>a=.bool true/\∃ (j:Nat) (cA:Array Value),j+gq=l.length+3/\x=I (j:Int)/\wy.heap[g]?=some (.cells cA 9 (0,0))/\cA.size=l.length+3/\(∀ i,j<=i->cA[i]?=((l++List.replicate 3 (⟨#[]⟩:ByteArray)).map Value.string)[i]?)/\Fr [g] w wy)
 case atStart=>exact ⟨rfl,0,_,by omega,rfl,HR.out.1,by simp,fun i _=>by simp,HR.out.2⟩
 case round=>
  obtain ⟨rfl,j,cA,hjg,rfl,hc,hsz,hat,hFr⟩:=hrel;have HJ:Hid (j+gk=l.length+3/\cA.size=l.length+3/\(∀ i,j<=i->cA[i]?=((l++List.replicate 3 (⟨#[]⟩:ByteArray)).map Value.string)[i]?)/\Fr [g] w wr):=⟨hjg,hsz,hat,hFr⟩;by_cases hjl:j < l.length+3
  ·have hj':(j:Int) < (l.length:Int)+3:=by omega
   have hsx:∃ s:ByteArray,cA[j]?=some (.string s)/\(¬ j < l.length->s=⟨#[]⟩):=by
    rw [hat j (Nat.le_refl _),List.getElem?_map];by_cases hll:j < l.length
    ·rw [List.getElem?_append_left hll,List.getElem?_eq_getElem hll];exact ⟨_,rfl,fun h=>absurd hll h⟩
    ·rw [List.getElem?_append_right (by omega),List.getElem?_replicate,if_pos (by omega)]
     exact ⟨_,rfl,fun _=>rfl⟩
   obtain ⟨s,hs0,hs1⟩:=hsx;have c0:wr.cell? ⟨g,j,none⟩=some (.string s):=by rw [World.cell?,hc];exact hs0
   have hfz:wr.frozen? ⟨g,j,none⟩=false:=zr8f hc j;have HS2:Hid ((wr.setCell ⟨g,j,none⟩ (.string ⟨#[115,112,111,105,108,116]⟩)).heap[g]?=some (.cells (cA.setIfInBounds j (.string ⟨#[115,112,111,105,108,116]⟩)) 9 (0,0))/\Fr [g] w (wr.setCell ⟨g,j,none⟩ (.string ⟨#[115,112,111,105,108,116]⟩))):=⟨heap_setCell_same wr g j cA _ _ hc,hFr.trans (Fr.set (F:=[g]) wr j _ (by simp)) (fun x hx=>Or.inl hx)⟩
   have HLt:Hid (j < l.length+3):=hjl;have HN:Hid (∀ i,j+1<=i->(cA.setIfInBounds j (.string ⟨#[115,112,111,105,108,116]⟩))[i]?=((l++List.replicate 3 (⟨#[]⟩:ByteArray)).map Value.string)[i]?):=fun i hi=>by
    rw [Array.getElem?_setIfInBounds_ne (by omega)]
    exact hat i (by omega)
   clear hjg hc hsz hat hFr hs0;by_cases hll:j < l.length
   ·have hl':(j:Int) < (l.length:Int):=by omega
    clear hs1;go_wp2_with fail;go_roundg (l.length+3 - (j+1))
    case measure=>have:=HJ.out.1;have:=HLt.out;omega
    case rel=>exact ⟨by simp,j+1,_,by have:=HLt.out;omega,by go_num,HS2.out.1,by simpa using HJ.out.2.1,HN.out,HS2.out.2⟩
   ·obtain rfl:=hs1 hll;have hl':¬ (j:Int) < (l.length:Int):=by omega
    clear hs1;go_wp2_with fail;go_roundg (l.length+3 - (j+1))
    case measure=>have:=HJ.out.1;have:=HLt.out;omega
    case rel=>exact ⟨by simp,j+1,_,by have:=HLt.out;omega,by go_num,HS2.out.1,by simpa using HJ.out.2.1,HN.out,HS2.out.2⟩
  ·have hj':¬ ((j:Int) < (l.length:Int)+3):=by omega
   clear hjg hc hsz hat hFr;go_wp2_with fail;go_ret;exact ⟨rfl,HJ.out.2.2.2⟩
end Go.Proofs.YtbledbjcghaanaaGreat.Nm.Ty
