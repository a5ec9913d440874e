import Derived.Test.YtbledbjcghaanaaGreatL09
import Derived.Test.YtbledbjcghaanaaGreatTl
import Derived.Maps.AppendAt
import Derived.Laws.MakeOwn
import Derived.Laws.CopyOwn
import Derived.Laws.Externs
set_option maxHeartbeats 6400000
set_option maxRecDepth 100000
namespace Go.Proofs.YtbledbjcghaanaaGreat.Nm
open Go.RowKit Go.Maps Sp Lx Gr
def IsVals (w:World) (ao:Option Addr) (xs:List Value):Prop:=∀ (k:Nat) (x:Value),xs[k]?=some x->∃ g o,ao=some ⟨g,o,none⟩/\g < w.heap.size/\w.cell? ⟨g,o+k,none⟩=some x
theorem IsVals.below {w w':World} {ao:Option Addr} {xs:List Value} (h:IsVals w ao xs) (hb:Below w.heap.size w w'):IsVals w' ao xs:=fun k x hx=>by
 obtain ⟨g,o,e,hg,hc⟩:=h k x hx;exact ⟨g,o,e,Nat.lt_of_lt_of_le hg hb.size,(hb.cell (p:=⟨g,o+k,none⟩) hg).trans hc⟩
theorem vals_of {w:World} {base n c sz m:Nat} {T:TypeId} {ao:Option Addr} {xs:List Value} (h:w.ownsRow base T sz (.slice ao n c) m xs):IsVals w ao xs:=by
 intro k x hx;have hc:=h;rcases h.2 with ⟨_,hz⟩ | ⟨g,cap,cur,e,h3,h4,_⟩
 ·have h1:=h.1;rw [hz,Nat.zero_mul] at h1;have:=(List.getElem?_eq_some_iff.1 hx).1;omega
 ·cases e;refine ⟨g,0,rfl,blk_lt h4,?_⟩;have:=hc.cells (g:=g) rfl k x hx;rw [Lib.addr_add] at this;exact this
theorem qF_at (l:List (ByteArray × Bool)) (k:Nat) (hk:k < l.length):(qF l)[k * 2]?=some (.string l[k].1)/\(qF l)[k * 2+1]?=some (.bool l[k].2):=by
 induction l generalizing k with
 | nil=>simp at hk
 | cons x l ih=>
  cases k with
  | zero=>exact ⟨rfl,rfl⟩
  | succ k=>
   have:=ih k (by simpa using hk)
   have e:qF (x :: l)=.string x.1 :: .bool x.2 :: qF l:=rfl;rw [e,show (k+1) * 2=k * 2+1+1 by omega]
   exact ⟨by simpa using this.1,by simpa using this.2⟩
theorem bytes_of {x y:ByteArray} (h:x.toList=y.toList):x=y:=by
 rw [ByteArray.toList_eq,ByteArray.toList_eq] at h;cases x;cases y
 simpa using h
theorem neq_queue {x y:ByteArray × Bool} (h:x ≠ y) (u:World):(binOp BinOp.neq 77 (.agg #[.string x.1,.bool x.2]) (.agg #[.string y.1,.bool y.2])).run Tryz.prog u=.ok (.bool true) u:=by
 go_simp;intro e1 e2;exact h (Prod.ext (bytes_of e1) e2)
theorem neq_row {x y:Rz} (h:x ≠ y) (u:World):(binOp BinOp.neq 61 (rv x) (rv y)).run Tryz.prog u=.ok (.bool true) u:=by
 unfold rv;go_simp;intro e1 e2 e3 e4 e5;refine h ?_;cases x;cases y;have:=bytes_of e2
 simp_all
theorem eqIntsG {w:World} {ao bo:Option Addr} {l m:List Int} {ca cb:Nat} (ha:IsVals w ao (iv l)) (hb:IsVals w bo (iv m)) (hn:l.length<=17592186043904):
  Calls Tryz.prog 110 #[.slice ao l.length ca,.slice bo m.length cb] w fun e w'=>(∃ b,e=.returned (.bool b)/\(b=true ↔ l=m))/\Below w.heap.size w w':=by
 by_cases hlen:l.length=m.length
 ·have HA:=hdn <| ha;have HB:=hdn <| hb;have HLn:=hdn <| hlen;have hn2:(l.length:Int)<=17592186043904:=by omega
  have hne:((l.length:Int) != (l.length:Int))=false:=by simp
  rw [<-hlen];clear ha hb hlen;go_enter Tryz.func110,Tryz.ntmps110;go_wp2_with fail
  go_loopg [13] l.length (fun gq x wr=>∃ k:Nat,k+gq=l.length/\x=I (k:Int)/\l.take k=m.take k/\Below w.heap.size w wr)
  case atStart=>exact ⟨0,by omega,rfl,rfl,Below.refl _ _⟩
  case round=>
   obtain ⟨k,hkg,rfl,htk,hbw⟩:=hrel;have HG:Hid (k+gk=l.length/\Below w.heap.size w wr/\l.take k=m.take k):=⟨hkg,hbw,htk⟩;by_cases hlt:k < l.length
   ·have hk':(k:Int) < (l.length:Int):=by omega
    have hk2:(k:Int)<=17592186043904:=by omega
    have hlm:k < m.length:=by have:=HLn.out;omega
    have hx:(iv l)[k]?=some (I l[k]):=by rw [List.getElem?_map,List.getElem?_eq_getElem hlt];rfl
    have hy:(iv m)[k]?=some (I m[k]):=by rw [List.getElem?_map,List.getElem?_eq_getElem hlm];rfl
    obtain ⟨g,o,rfl,_,d0⟩:=(IsVals.below HA.out hbw) k _ hx;obtain ⟨g',o',rfl,_,e0⟩:=(IsVals.below HB.out hbw) k _ hy;have HSame:Hid (l[k]=m[k]->l.take (k+1)=m.take (k+1)):=fun e=>by rw [List.take_add_one,List.take_add_one,HG.out.2.2,List.getElem?_eq_getElem hlt,List.getElem?_eq_getElem hlm,e]
    have HDiff:Hid (l[k] ≠ m[k]->l ≠ m):=fun e h=>e (by subst h;rfl)
    clear hx hy;generalize l[k]=x at *;generalize m[k]=y at *;have HLt:Hid (k < l.length):=hlt;clear hkg hlt hbw htk hlm;by_cases hxy:x=y
    ·subst hxy;have HS:Hid (l.take (k+1)=m.take (k+1)):=HSame.out rfl;clear HSame HDiff;have hq:(x != x)=false:=by simp
     go_wp2_with fail
     go_quiet (fail)
     go_wp2_with fail
     go_roundg (l.length - (k+1))
     case measure=>have:=HG.out.1;have:=HLt.out;omega
     case rel=>exact ⟨k+1,by have:=HLt.out;omega,by go_num,HS.out,HG.out.2.1.trans ((below_drewN _ _).mono HG.out.2.1.size)⟩
    ·have HD:Hid (l ≠ m):=HDiff.out hxy;clear HSame HDiff;have hq:(x != y)=true:=by simp [hxy]
     go_wp2_with fail
     go_quiet (fail)
     go_wp2;go_ret;exact ⟨⟨false,rfl,by simp [HD.out]⟩,HG.out.2.1.trans ((below_drewN _ _).mono HG.out.2.1.size)⟩
   ·have hk':decide (k < l.length)=false:=decide_eq_false hlt;have HE:Hid (l=m):=by
     have hke:k=l.length:=by omega
     rw [hke,List.take_length,HLn.out,List.take_length] at htk;exact htk
    clear hkg hlt hbw htk;go_wp2;go_ret;exact ⟨⟨true,rfl,by simp [HE.out]⟩,HG.out.2.1⟩
 ·have hne:((l.length:Int) != (m.length:Int))=true:=by simp;omega
  have HD:Hid (l ≠ m):=fun e=>hlen (by rw [e])
  clear ha hb hlen hn;go_enter Tryz.func110,Tryz.ntmps110;go_wp2;go_ret;exact ⟨⟨false,rfl,by simp [HD.out]⟩,Below.refl _ _⟩
theorem eqStrsG {w:World} {ao bo:Option Addr} {l m:List ByteArray} {ca cb:Nat} (ha:IsVals w ao (l.map Value.string)) (hb:IsVals w bo (m.map Value.string)) (hn:l.length<=17592186043904):
  Calls Tryz.prog 109 #[.slice ao l.length ca,.slice bo m.length cb] w fun e w'=>(∃ b,e=.returned (.bool b)/\(b=true ↔ l=m))/\Below w.heap.size w w':=by
 by_cases hlen:l.length=m.length
 ·have HA:=hdn <| ha;have HB:=hdn <| hb;have HLn:=hdn <| hlen;have hn2:(l.length:Int)<=17592186043904:=by omega
  have hne:((l.length:Int) != (l.length:Int))=false:=by simp
  rw [<-hlen];clear ha hb hlen;go_enter Tryz.func109,Tryz.ntmps109;go_wp2_with fail
  go_loopg [13] l.length (fun gq x wr=>∃ k:Nat,k+gq=l.length/\x=I (k:Int)/\l.take k=m.take k/\Below w.heap.size w wr)
  case atStart=>exact ⟨0,by omega,rfl,rfl,Below.refl _ _⟩
  case round=>
   obtain ⟨k,hkg,rfl,htk,hbw⟩:=hrel;have HG:Hid (k+gk=l.length/\Below w.heap.size w wr/\l.take k=m.take k):=⟨hkg,hbw,htk⟩;by_cases hlt:k < l.length
   ·have hk':(k:Int) < (l.length:Int):=by omega
    have hk2:(k:Int)<=17592186043904:=by omega
    have hlm:k < m.length:=by have:=HLn.out;omega
    have hx:(l.map Value.string)[k]?=some (.string l[k]):=by rw [List.getElem?_map,List.getElem?_eq_getElem hlt];rfl
    have hy:(m.map Value.string)[k]?=some (.string m[k]):=by rw [List.getElem?_map,List.getElem?_eq_getElem hlm];rfl
    obtain ⟨g,o,rfl,_,d0⟩:=(IsVals.below HA.out hbw) k _ hx;obtain ⟨g',o',rfl,_,e0⟩:=(IsVals.below HB.out hbw) k _ hy;have HSame:Hid (l[k]=m[k]->l.take (k+1)=m.take (k+1)):=fun e=>by rw [List.take_add_one,List.take_add_one,HG.out.2.2,List.getElem?_eq_getElem hlt,List.getElem?_eq_getElem hlm,e]
    have HDiff:Hid (l[k] ≠ m[k]->l ≠ m):=fun e h=>e (by subst h;rfl)
    clear hx hy;generalize l[k]=x at *;generalize m[k]=y at *;have HLt:Hid (k < l.length):=hlt;clear hkg hlt hbw htk hlm;by_cases hxy:x=y
    ·subst hxy;have HS:Hid (l.take (k+1)=m.take (k+1)):=HSame.out rfl;clear HSame HDiff;have hq:(x.toList != x.toList)=false:=by simp
     go_wp2_with fail
     go_quiet (fail)
     go_wp2_with fail
     go_roundg (l.length - (k+1))
     case measure=>have:=HG.out.1;have:=HLt.out;omega
     case rel=>exact ⟨k+1,by have:=HLt.out;omega,by go_num,HS.out,HG.out.2.1.trans ((below_drewN _ _).mono HG.out.2.1.size)⟩
    ·have HD:Hid (l ≠ m):=HDiff.out hxy;clear HSame HDiff;have hq0:¬ x.toList=y.toList:=fun e=>hxy (bytes_of e);have hq1:(x.toList == y.toList)=false:=by simpa using hq0
     have hq:(x.toList != y.toList)=true:=by simpa using hq0
     go_wp2_with fail
     go_quiet (fail)
     go_wp2;go_ret;exact ⟨⟨false,rfl,by simp [HD.out]⟩,HG.out.2.1.trans ((below_drewN _ _).mono HG.out.2.1.size)⟩
   ·have hk':decide (k < l.length)=false:=decide_eq_false hlt;have HE:Hid (l=m):=by
     have hke:k=l.length:=by omega
     rw [hke,List.take_length,HLn.out,List.take_length] at htk;exact htk
    clear hkg hlt hbw htk;go_wp2;go_ret;exact ⟨⟨true,rfl,by simp [HE.out]⟩,HG.out.2.1⟩
 ·have hne:((l.length:Int) != (m.length:Int))=true:=by simp;omega
  have HD:Hid (l ≠ m):=fun e=>hlen (by rw [e])
  clear ha hb hlen hn;go_enter Tryz.func109,Tryz.ntmps109;go_wp2;go_ret;exact ⟨⟨false,rfl,by simp [HD.out]⟩,Below.refl _ _⟩
theorem eqQsG {w:World} {ao bo:Option Addr} {l m:List (ByteArray × Bool)} {ca cb:Nat} (ha:IsVals w ao (qF l)) (hb:IsVals w bo (qF m)) (hn:l.length<=17592186043904):
  Calls Tryz.prog 108 #[.slice ao l.length ca,.slice bo m.length cb] w fun e w'=>(∃ b,e=.returned (.bool b)/\(b=true ↔ l=m))/\Below w.heap.size w w':=by
 by_cases hlen:l.length=m.length
 ·have HA:=hdn <| ha;have HB:=hdn <| hb;have HLn:=hdn <| hlen;have hn2:(l.length:Int)<=17592186043904:=by omega
  have hne:((l.length:Int) != (l.length:Int))=false:=by simp
  rw [<-hlen];clear ha hb hlen;go_enter Tryz.func108,Tryz.ntmps108;go_wp2_with fail
  go_loopg [13] l.length (fun gq x wr=>∃ k:Nat,k+gq=l.length/\x=I (k:Int)/\l.take k=m.take k/\Below w.heap.size w wr)
  case atStart=>exact ⟨0,by omega,rfl,rfl,Below.refl _ _⟩
  case round=>
   obtain ⟨k,hkg,rfl,htk,hbw⟩:=hrel;have HG:Hid (k+gk=l.length/\Below w.heap.size w wr/\l.take k=m.take k):=⟨hkg,hbw,htk⟩;by_cases hlt:k < l.length
   ·have hk':(k:Int) < (l.length:Int):=by omega
    have hk2:(k:Int)<=17592186043904:=by omega
    have hlm:k < m.length:=by have:=HLn.out;omega
    obtain ⟨hx,hx2⟩:=qF_at l k hlt;obtain ⟨hy,hy2⟩:=qF_at m k hlm;obtain ⟨g,o,rfl,_,d0⟩:=(IsVals.below HA.out hbw) _ _ hx;obtain ⟨g',o',rfl,_,e0⟩:=(IsVals.below HB.out hbw) _ _ hy;obtain ⟨g2,o2,he2,_,d1⟩:=(IsVals.below HA.out hbw) _ _ hx2;cases he2;obtain ⟨g3,o3,he3,_,e1⟩:=(IsVals.below HB.out hbw) _ _ hy2;cases he3;rw [<-Nat.add_assoc] at d1 e1;have HSame:Hid (l[k]=m[k]->l.take (k+1)=m.take (k+1)):=fun e=>by rw [List.take_add_one,List.take_add_one,HG.out.2.2,List.getElem?_eq_getElem hlt,List.getElem?_eq_getElem hlm,e]
    have HDiff:Hid (l[k] ≠ m[k]->l ≠ m):=fun e h=>e (by subst h;rfl)
    clear hx hy hx2 hy2;generalize l[k]=x at *;generalize m[k]=y at *;have HLt:Hid (k < l.length):=hlt;clear hkg hlt hbw htk hlm;by_cases hxy:x=y
    ·subst hxy;have HS:Hid (l.take (k+1)=m.take (k+1)):=HSame.out rfl;clear HSame HDiff;obtain ⟨x1,x2⟩:=x;dsimp only at *;go_wp2_with fail
     go_quiet (fail)
     go_wp2_with fail
     go_roundg (l.length - (k+1))
     case measure=>have:=HG.out.1;have:=HLt.out;omega
     case rel=>exact ⟨k+1,by have:=HLt.out;omega,by go_num,HS.out,HG.out.2.1.trans ((below_drewN _ _).mono HG.out.2.1.size)⟩
    ·have HD:Hid (l ≠ m):=HDiff.out hxy;clear HSame HDiff;have hq:∀ u:World,(binOp BinOp.neq 77 (.agg #[.string x.1,.bool x.2]) (.agg #[.string y.1,.bool y.2])).run Tryz.prog u=.ok (.bool true) u:=fun u=>neq_queue hxy u;obtain ⟨x1,x2⟩:=x;obtain ⟨y1,y2⟩:=y;dsimp only at *;go_wp2_with fail
     go_quiet (fail)
     go_wp2;go_ret;exact ⟨⟨false,rfl,by simp [HD.out]⟩,HG.out.2.1.trans ((below_drewN _ _).mono HG.out.2.1.size)⟩
   ·have hk':decide (k < l.length)=false:=decide_eq_false hlt;have HE:Hid (l=m):=by
     have hke:k=l.length:=by omega
     rw [hke,List.take_length,HLn.out,List.take_length] at htk;exact htk
    clear hkg hlt hbw htk;go_wp2;go_ret;exact ⟨⟨true,rfl,by simp [HE.out]⟩,HG.out.2.1⟩
 ·have hne:((l.length:Int) != (m.length:Int))=true:=by simp;omega
  have HD:Hid (l ≠ m):=fun e=>hlen (by rw [e])
  clear ha hb hlen hn;go_enter Tryz.func108,Tryz.ntmps108;go_wp2;go_ret;exact ⟨⟨false,rfl,by simp [HD.out]⟩,Below.refl _ _⟩
theorem eqRowsG {w:World} {ao bo:Option Addr} {l m:List Rz} {ca cb:Nat} (ha:IsRz w ao l) (hb:IsRz w bo m) (hn:l.length<=2932031007317):
  Calls Tryz.prog 107 #[.slice ao l.length ca,.slice bo m.length cb] w fun e w'=>(∃ b,e=.returned (.bool b)/\(b=true ↔ l=m))/\Below w.heap.size w w':=by
 by_cases hlen:l.length=m.length
 ·have HA:=hdn <| ha;have HB:=hdn <| hb;have HLn:=hdn <| hlen;have hn2:(l.length:Int)<=2932031007317:=by omega
  have hne:((l.length:Int) != (l.length:Int))=false:=by simp
  rw [<-hlen];clear ha hb hlen;go_enter Tryz.func107,Tryz.ntmps107;go_wp2_with fail
  go_loopg [13] l.length (fun gq x wr=>∃ k:Nat,k+gq=l.length/\x=I (k:Int)/\l.take k=m.take k/\Below w.heap.size w wr)
  case atStart=>exact ⟨0,by omega,rfl,rfl,Below.refl _ _⟩
  case round=>
   obtain ⟨k,hkg,rfl,htk,hbw⟩:=hrel;have HG:Hid (k+gk=l.length/\Below w.heap.size w wr/\l.take k=m.take k):=⟨hkg,hbw,htk⟩;by_cases hlt:k < l.length
   ·have hk':(k:Int) < (l.length:Int):=by omega
    have hk2:(k:Int)<=2932031007317:=by omega
    have hlm:k < m.length:=by have:=HLn.out;omega
    have hx:=List.getElem?_eq_getElem hlt;have hy:=List.getElem?_eq_getElem hlm;obtain ⟨g,o,rfl,_,d0,d1,d2,d3,d4⟩:=(IsRz.below HA.out hbw) k _ hx;obtain ⟨g',o',rfl,_,e0,e1,e2,e3,e4⟩:=(IsRz.below HB.out hbw) k _ hy;have HSame:Hid (l[k]=m[k]->l.take (k+1)=m.take (k+1)):=fun e=>by rw [List.take_add_one,List.take_add_one,HG.out.2.2,List.getElem?_eq_getElem hlt,List.getElem?_eq_getElem hlm,e]
    have HDiff:Hid (l[k] ≠ m[k]->l ≠ m):=fun e h=>e (by subst h;rfl)
    clear hx hy;generalize l[k]=x at *;generalize m[k]=y at *;have HLt:Hid (k < l.length):=hlt;clear hkg hlt hbw htk hlm;by_cases hxy:x=y
    ·subst hxy;have HS:Hid (l.take (k+1)=m.take (k+1)):=HSame.out rfl;clear HSame HDiff;obtain ⟨kd,nm,st,n,ks⟩:=x;dsimp only at *;go_wp2_with fail
     go_quiet (fail)
     go_wp2_with fail
     go_roundg (l.length - (k+1))
     case measure=>have:=HG.out.1;have:=HLt.out;omega
     case rel=>exact ⟨k+1,by have:=HLt.out;omega,by go_num,HS.out,HG.out.2.1.trans ((below_drewN _ _).mono HG.out.2.1.size)⟩
    ·have HD:Hid (l ≠ m):=HDiff.out hxy;clear HSame HDiff;have hq:∀ u:World,(binOp BinOp.neq 61 (rv x) (rv y)).run Tryz.prog u=.ok (.bool true) u:=fun u=>neq_row hxy u;obtain ⟨kd,nm,st,n,ks⟩:=x;obtain ⟨kd',nm',st',n',ks'⟩:=y;dsimp only at *;go_wp2_with fail
     go_quiet (fail)
     go_wp2;go_ret;exact ⟨⟨false,rfl,by simp [HD.out]⟩,HG.out.2.1.trans ((below_drewN _ _).mono HG.out.2.1.size)⟩
   ·have hk':decide (k < l.length)=false:=decide_eq_false hlt;have HE:Hid (l=m):=by
     have hke:k=l.length:=by omega
     rw [hke,List.take_length,HLn.out,List.take_length] at htk;exact htk
    clear hkg hlt hbw htk;go_wp2;go_ret;exact ⟨⟨true,rfl,by simp [HE.out]⟩,HG.out.2.1⟩
 ·have hne:((l.length:Int) != (m.length:Int))=true:=by simp;omega
  have HD:Hid (l ≠ m):=fun e=>hlen (by rw [e])
  clear ha hb hlen hn;go_enter Tryz.func107,Tryz.ntmps107;go_wp2;go_ret;exact ⟨⟨false,rfl,by simp [HD.out]⟩,Below.refl _ _⟩
theorem run_app {P:Program} (w:World) (base:Nat) (t ty e:TypeId) (i:TypeInfo) (z:Value) (size bytes:Nat) (ht:P.underlying t=some (.slice e)) (hi:P.info? e=some i) (hz:i.zero=some z)
  (hsize:i.size=size) (hby:i.bytes=bytes) (hzs:z.cells.size=size) (hsz:0 < size)
  (v:Value) (n:Nat) (xs:List Value) (hown:w.ownsRow base e size v n xs)
  (ao:Option Addr) (m c:Nat) (news:List Value) (hl:news.length=m * size) (hnone:ao=none->m=0/\c=0) (hnews:∀ ad,ao=some ad->∀ j u,news[j]?=some u->w.cell? (ad.add j)=some u) (h1:∀ u ∈ news,u.oneCell'=true)
  (h63:n+m<=maxLen) (hbytes:(n+m) * bytes<=140737488355328) (hbase:base<=w.heap.size):
  ∃ v' w',(Builtin.append_ #[t,t] ty #[v,.slice ao m c]).run P w=.ok v' w'/\w'.ownsRow base e size v' (n+m) (xs++news)/\w.grownBy w' v.ownBlock/\(v'.ownBlock=v.ownBlock\/v'.ownBlock=some w.heap.size):=by
 cases ao with
 | some ad=>
  obtain ⟨v',w',hr,h2,h3,_,h5⟩:=run_append_own_at (P:=P) w base t ty e i z size bytes ht hi hz hsize hby hzs hsz v n xs hown ad m c news hl (hnews ad rfl) h1 h63 hbytes hbase;exact ⟨v',w',hr,h2,h3,h5⟩
 | none=>
  obtain ⟨rfl,rfl⟩:=hnone rfl;have he:news=[]:=List.eq_nil_of_length_eq_zero (by simpa using hl)
  subst he;exact ⟨v,w,run_append_owned_none (P:=P) w base t ty e i size ht hi v n xs hown,by simpa using hown,World.grownBy.refl _ _,Or.inl rfl⟩
theorem step_app {P:Program} (w:World) {ops:Array Oper} {o:Oper} {a:Act} {K:Act->World->Prop} {Q:Exit->Act->World->Prop} {E:Prop} (hgd:o.guard=none) (s x:Operand) (t:TypeId)
  (ho:o.op=.call { callee:=.builtin .append,args:=#[s,x],argTypes:=#[t,t] })
  (base:Nat) (e:TypeId) (i:TypeInfo) (z:Value) (size bytes:Nat) (ht:P.underlying t=some (.slice e)) (hi:P.info? e=some i) (hz:i.zero=some z)
  (hsize:i.size=size) (hby:i.bytes=bytes) (hzs:z.cells.size=size) (hsz:0 < size)
  (v:Value) (n:Nat) (xs:List Value) (hs:a.eval s=v) (hown:w.ownsRow base e size v n xs)
  (ao:Option Addr) (m c:Nat) (news:List Value) (hx:a.eval x=.slice ao m c) (hl:news.length=m * size) (hnone:ao=none->m=0/\c=0) (hnews:∀ ad,ao=some ad->∀ j u,news[j]?=some u->w.cell? (ad.add j)=some u) (h1:∀ u ∈ news,u.oneCell'=true)
  (h63:n+m<=maxLen) (hbytes:(n+m) * bytes<=140737488355328) (hbase:base<=w.heap.size)
  (h:∀ v' w',w'.ownsRow base e size v' (n+m) (xs++news)->w.grownBy w' v.ownBlock->(v'.ownBlock=v.ownBlock\/v'.ownBlock=some w.heap.size)->K (a.put o.dst v') w'):if Region.wanted o (yielded ops a.tmps)=true then Oper.wp P o a w K Q else E:=by
 have hw:Region.wanted o (yielded ops a.tmps)=true:=by simp [Region.wanted,hgd]
 rw [if_pos hw];obtain ⟨v',w',hr,h2,h3,h4⟩:=run_app (P:=P) w base t o.type e i z size bytes ht hi hz hsize hby hzs hsz v n xs hown ao m c news hl hnone hnews h1 h63 hbytes hbase;unfold Oper.wp execOp;simp only [ho,resolve,invoke,builtin,Sem.run_bind,Sem.run_pure,Result.andThen_ok,List.map_toArray,List.map_cons,List.map_nil,hs,hx,hr];exact h v' w' h2 h3 h4
theorem vals_src {w:World} {ao:Option Addr} {xs:List Value} (h:IsVals w ao xs):∀ ad,ao=some ad->∀ j u,xs[j]?=some u->w.cell? (ad.add j)=some u:=fun ad e j u hu=>by
 obtain ⟨g,o,e2,_,hc⟩:=h j u hu;rw [e] at e2;cases e2;rw [Lib.addr_add];exact hc
theorem vals_nil {w:World} {ao:Option Addr} {xs:List Value} {m sz:Nat} (h:IsVals w ao xs) (hl:xs.length=m * sz) (hs:0 < sz):ao=none->m=0:=fun e=>by
 cases m with
 | zero=>rfl
 | succ m=>
  have h0:0 < xs.length:=by rw [hl,Nat.succ_mul];omega
  obtain ⟨g,o,e2,_⟩:=h 0 _ (List.getElem?_eq_getElem h0);rw [e] at e2;cases e2
theorem iv_one (l:List Int):∀ u ∈ iv l,u.oneCell'=true:=fun u hu=>by
 obtain ⟨n,_,rfl⟩:=List.mem_map.1 hu;rfl
end Go.Proofs.YtbledbjcghaanaaGreat.Nm
namespace Go.Proofs.YtbledbjcghaanaaGreat.Nm.Ty
open Go.RowKit Go.Maps Sp Lx Gr Nm
theorem run_copyS {P:Program} (w:World) (dT sT ty elem:TypeId) (i:TypeInfo) (hq:P.info? elem=some i) (g o dLen dCap:Nat) (a:Addr) (sLen sCap k:Nat) (hk:Nat.min sLen dLen=k) (cur:List Value) (t:TypeId) (cs:List Value)
  (hu:P.underlying dT=some (.slice elem))
  (hg:w.heap[g]?=some (.cells cur.toArray t (0,0))) (hn:cs.length=k * i.size)
  (hsrc:∀ j v,cs[j]?=some v->w.cell? (a.add j)=some v) (hfit:o+cs.length<=cur.length) (h1:∀ v ∈ cs,v.oneCell'=true):
  (Builtin.copy_ #[dT,sT] ty #[.slice (some ⟨g,o,none⟩) dLen dCap,.slice (some a) sLen sCap]).run P w=.ok (goInt k) (w.setRow g (splice cur o cs).toArray):=by
 have hl:=run_loadCells_list (P:=P) w a cs hsrc;have hst:=run_storeCells_at P g o t cs 0 cur.toArray w hg (by simpa using hfit) h1
 simp only [Nat.add_zero] at hst;simp [Builtin.copy_,run_underlying hu,Builtin.lenOf,Builtin.firstCells,sizeOf,typeInfo,hq,hk,<-hn,hl,hst,splice]
theorem copied_gen {t e:TypeId} {i:TypeInfo} {size:Nat} (ht:Tryz.prog.underlying t=some (.slice e)) (hi:Tryz.prog.info? e=some i) (hsize:i.size=size) (hpos:0 < size) (ao:Option Addr) (n k cap:Nat) (w:World) (M xs:List Value) (hM:M.length=(n+k) * size) (h:IsVals w ao xs) (hl:xs.length=n * size) (h1:∀ u ∈ xs,u.oneCell'=true) (ty:TypeId):
  ∃ W2,(Builtin.copy_ #[t,t] ty #[.slice (pZ w.heap.size) (n+k) (n+k),.slice ao n cap]).run Tryz.prog (w.alloc (.cells M.toArray e))=.ok (goInt n) W2 /\
   W2.heap[w.heap.size]?=some (.cells (xs++M.drop (n * size)).toArray e (0,0))/\Below w.heap.size w W2/\W2.heap.size=w.heap.size+1:=by
 have hB:Below w.heap.size w (w.alloc (.cells M.toArray e)):=bAl w _;by_cases h0:n=0
 ·subst h0;obtain rfl:xs=[]:=List.eq_nil_of_length_eq_zero (by omega)
  refine ⟨w.alloc (.cells M.toArray e),?_,?_,hB,by simp⟩
  ·simp [Builtin.copy_,run_underlying ht,Builtin.lenOf,Builtin.firstCells,sizeOf,typeInfo,hi];cases ao<;>simp [storeCells,loadCells,go_sem]
  ·rw [heap_alloc_new];simp
 ·cases ao with
  | none=>exact absurd (vals_nil h hl hpos rfl) h0
  | some ad=>
   have hr:=run_copyS (P:=Tryz.prog) (w.alloc (.cells M.toArray e)) t t ty e i hi w.heap.size 0 (n+k) (n+k) ad n cap n (Nat.min_eq_left (by omega)) M e xs ht (heap_alloc_new w _) (by rw [hl,hsize]) (vals_src (h.below hB) ad rfl) (by rw [hl,hM,Nat.add_mul];omega) h1
   refine ⟨_,hr,?_,below_setRow hB (Nat.le_refl _) _,by simp [World.setRow]⟩
   have h5:=setRow_heap (w.alloc (.cells M.toArray e)) w.heap.size M.toArray (splice M 0 xs).toArray e (0,0) (heap_alloc_new w _);rw [h5];simp [splice,hl]
theorem copied_vals {W:World} {g:Nat} {e:TypeId} {xs ys:List Value} (h:W.heap[g]?=some (.cells (xs++ys).toArray e (0,0))):IsVals W (pZ g) xs:=fun k x hx=>by
 refine ⟨g,0,rfl,(Array.getElem?_eq_some_iff.1 h).1,?_⟩;have hx':(xs++ys)[k]?=some x:=by rw [List.getElem?_append_left (List.getElem?_eq_some_iff.1 hx).1];exact hx
 rw [Nat.zero_add,World.cell?,h]
 simpa using hx'
end Go.Proofs.YtbledbjcghaanaaGreat.Nm.Ty
