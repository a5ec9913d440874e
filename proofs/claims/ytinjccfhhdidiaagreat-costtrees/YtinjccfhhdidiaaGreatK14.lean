import Derived.Test.YtinjccfhhdidiaaGreatK13
import Derived.Maps.AppendAt
import Derived.Laws.MakeOwn
set_option maxHeartbeats 6400000
set_option maxRecDepth 1759218604390400
namespace Go.Proofs.YtinjccfhhdidiaaGreat.Nm
open Go.RowKit Go.Maps Sp Lx Gr
def IsVals (w:World) (ao:Option Addr) (xs:List Value):Prop:=∀ (k:Nat) (x:Value),xs[k]?=some x->∃ g o,ao=some ⟨g,o,none⟩/\g < w.heap.size/\w.cell? ⟨g,o+k,none⟩=some x
theorem IsVals.below {w w':World} {ao:Option Addr} {xs:List Value} (h:IsVals w ao xs) (hb:Below w.heap.size w w'):IsVals w' ao xs:=fun k x hx=>by
 obtain ⟨g,o,e,hg,hc⟩:=h k x hx
 exact ⟨g,o,e,Nat.lt_of_lt_of_le hg hb.size,(hb.cell (p:=⟨g,o+k,none⟩) hg).trans hc⟩
theorem vals_of {w:World} {base n c sz m:Nat} {T:TypeId} {ao:Option Addr} {xs:List Value} (h:w.ownsRow base T sz (.slice ao n c) m xs):IsVals w ao xs:=by
 intro k x hx
 have hc:=h
 rcases h.2 with ⟨_,hz⟩ | ⟨g,cap,cur,e,h3,h4,_⟩
 ·have h1:=h.1
  rw [hz,Nat.zero_mul] at h1
  have:=(List.getElem?_eq_some_iff.1 hx).1
  omega
 ·cases e
  refine ⟨g,0,rfl,blk_lt h4,?_⟩
  have:=hc.cells (g:=g) rfl k x hx
  rw [Lib.addr_add] at this
  exact this
theorem qF_at (l:List (ByteArray × Bool)) (k:Nat) (hk:k < l.length):(qF l)[k * 2]?=some (.string l[k].1)/\(qF l)[k * 2+1]?=some (.bool l[k].2):=by
 induction l generalizing k with
 | nil=>simp at hk
 | cons x l ih=>
  cases k with
  | zero=>exact ⟨rfl,rfl⟩
  | succ k=>
   have:=ih k (by simpa using hk)
   have e:qF (x :: l)=.string x.1 :: .bool x.2 :: qF l:=rfl
   rw [e,show (k+1) * 2=k * 2+1+1 by omega]
   exact ⟨by simpa using this.1,by simpa using this.2⟩
theorem bytes_of {x y:ByteArray} (h:x.toList=y.toList):x=y:=by
 rw [ByteArray.toList_eq,ByteArray.toList_eq] at h
 cases x
 cases y
 simpa using h
theorem neq_queue {x y:ByteArray × Bool} (h:x ≠ y) (u:World):(binOp BinOp.neq 61 (.agg #[.string x.1,.bool x.2]) (.agg #[.string y.1,.bool y.2])).run Tryz.prog u=.ok (.bool true) u:=by
 go_simp
 intro e1 e2
 exact h (Prod.ext (bytes_of e1) e2)
theorem neq_row {x y:Rz} (h:x ≠ y) (u:World):(binOp BinOp.neq 57 (rv x) (rv y)).run Tryz.prog u=.ok (.bool true) u:=by
 unfold rv
 go_simp
 intro e1 e2 e3 e4 e5
 refine h ?_
 cases x
 cases y
 have:=bytes_of e2
 simp_all
theorem eqIntsG {w:World} {ao bo:Option Addr} {l m:List Int} {ca cb:Nat} (ha:IsVals w ao (iv l)) (hb:IsVals w bo (iv m)) (hn:l.length<=2932031007317):
  Calls Tryz.prog 71 #[.slice ao l.length ca,.slice bo m.length cb] w fun e w'=>(∃ b,e=.returned (.bool b)/\(b=true ↔ l=m))/\Below w.heap.size w w':=by
 by_cases hlen:l.length=m.length
 ·have HA:=show Hid _ from ha
  have HB:=show Hid _ from hb
  have HLn:=show Hid _ from hlen
  have hn2:(l.length:Int)<=2932031007317:=by omega
  have hne:((l.length:Int) != (l.length:Int))=false:=by simp
  rw [<-hlen]
  clear ha hb hlen
  go_enter Tryz.func71,Tryz.ntmps71
  go_wp2_with fail
  go_loopg [13] l.length (fun gq x wr=>∃ k:Nat,k+gq=l.length/\x=.int .i64 (k:Int)/\l.take k=m.take k/\Below w.heap.size w wr)
  case atStart=>exact ⟨0,by omega,rfl,rfl,Below.refl _ _⟩
  case round=>
   obtain ⟨k,hkg,rfl,htk,hbw⟩:=hrel
   have HG:Hid (k+gk=l.length/\Below w.heap.size w wr/\l.take k=m.take k):=⟨hkg,hbw,htk⟩
   by_cases hlt:k < l.length
   ·have hk':(k:Int) < (l.length:Int):=by omega
    have hk2:(k:Int)<=2932031007317:=by omega
    have hlm:k < m.length:=by have:=HLn.out;omega
    have hx:(iv l)[k]?=some (.int .i64 l[k]):=by rw [List.getElem?_map,List.getElem?_eq_getElem hlt];rfl
    have hy:(iv m)[k]?=some (.int .i64 m[k]):=by rw [List.getElem?_map,List.getElem?_eq_getElem hlm];rfl
    obtain ⟨g,o,rfl,_,d0⟩:=(IsVals.below HA.out hbw) k _ hx
    obtain ⟨g',o',rfl,_,e0⟩:=(IsVals.below HB.out hbw) k _ hy
    have HSame:Hid (l[k]=m[k]->l.take (k+1)=m.take (k+1)):=fun e=>by rw [List.take_add_one,List.take_add_one,HG.out.2.2,List.getElem?_eq_getElem hlt,List.getElem?_eq_getElem hlm,e]
    have HDiff:Hid (l[k] ≠ m[k]->l ≠ m):=fun e h=>e (by subst h;rfl)
    clear hx hy
    generalize l[k]=x at *
    generalize m[k]=y at *
    have HLt:Hid (k < l.length):=hlt
    clear hkg hlt hbw htk hlm
    by_cases hxy:x=y
    ·subst hxy
     have HS:Hid (l.take (k+1)=m.take (k+1)):=HSame.out rfl
     clear HSame HDiff
     have hq:(x != x)=false:=by simp
     go_wp2_with fail
     go_quiet (fail)
     go_wp2_with fail
     go_roundg (l.length - (k+1))
     case measure=>have:=HG.out.1;have:=HLt.out;omega
     case rel=>exact ⟨k+1,by have:=HLt.out;omega,by go_num,HS.out,HG.out.2.1.trans ((below_drewN _ _).mono HG.out.2.1.size)⟩
    ·have HD:Hid (l ≠ m):=HDiff.out hxy
     clear HSame HDiff
     have hq:(x != y)=true:=by simp [hxy]
     go_wp2_with fail
     go_quiet (fail)
     go_wp2
     go_ret
     exact ⟨⟨false,rfl,by simp [HD.out]⟩,HG.out.2.1.trans ((below_drewN _ _).mono HG.out.2.1.size)⟩
   ·have hk':decide (k < l.length)=false:=decide_eq_false hlt
    have HE:Hid (l=m):=by
     have hke:k=l.length:=by omega
     rw [hke,List.take_length,HLn.out,List.take_length] at htk
     exact htk
    clear hkg hlt hbw htk
    go_wp2
    go_ret
    exact ⟨⟨true,rfl,by simp [HE.out]⟩,HG.out.2.1⟩
 ·have hne:((l.length:Int) != (m.length:Int))=true:=by simp;omega
  have HD:Hid (l ≠ m):=fun e=>hlen (by rw [e])
  clear ha hb hlen hn
  go_enter Tryz.func71,Tryz.ntmps71
  go_wp2
  go_ret
  exact ⟨⟨false,rfl,by simp [HD.out]⟩,Below.refl _ _⟩
theorem eqStrsG {w:World} {ao bo:Option Addr} {l m:List ByteArray} {ca cb:Nat} (ha:IsVals w ao (l.map Value.string)) (hb:IsVals w bo (m.map Value.string)) (hn:l.length<=2932031007317):
  Calls Tryz.prog 70 #[.slice ao l.length ca,.slice bo m.length cb] w fun e w'=>(∃ b,e=.returned (.bool b)/\(b=true ↔ l=m))/\Below w.heap.size w w':=by
 by_cases hlen:l.length=m.length
 ·have HA:=show Hid _ from ha
  have HB:=show Hid _ from hb
  have HLn:=show Hid _ from hlen
  have hn2:(l.length:Int)<=2932031007317:=by omega
  have hne:((l.length:Int) != (l.length:Int))=false:=by simp
  rw [<-hlen]
  clear ha hb hlen
  go_enter Tryz.func70,Tryz.ntmps70
  go_wp2_with fail
  go_loopg [13] l.length (fun gq x wr=>∃ k:Nat,k+gq=l.length/\x=.int .i64 (k:Int)/\l.take k=m.take k/\Below w.heap.size w wr)
  case atStart=>exact ⟨0,by omega,rfl,rfl,Below.refl _ _⟩
  case round=>
   obtain ⟨k,hkg,rfl,htk,hbw⟩:=hrel
   have HG:Hid (k+gk=l.length/\Below w.heap.size w wr/\l.take k=m.take k):=⟨hkg,hbw,htk⟩
   by_cases hlt:k < l.length
   ·have hk':(k:Int) < (l.length:Int):=by omega
    have hk2:(k:Int)<=2932031007317:=by omega
    have hlm:k < m.length:=by have:=HLn.out;omega
    have hx:(l.map Value.string)[k]?=some (.string l[k]):=by rw [List.getElem?_map,List.getElem?_eq_getElem hlt];rfl
    have hy:(m.map Value.string)[k]?=some (.string m[k]):=by rw [List.getElem?_map,List.getElem?_eq_getElem hlm];rfl
    obtain ⟨g,o,rfl,_,d0⟩:=(IsVals.below HA.out hbw) k _ hx
    obtain ⟨g',o',rfl,_,e0⟩:=(IsVals.below HB.out hbw) k _ hy
    have HSame:Hid (l[k]=m[k]->l.take (k+1)=m.take (k+1)):=fun e=>by rw [List.take_add_one,List.take_add_one,HG.out.2.2,List.getElem?_eq_getElem hlt,List.getElem?_eq_getElem hlm,e]
    have HDiff:Hid (l[k] ≠ m[k]->l ≠ m):=fun e h=>e (by subst h;rfl)
    clear hx hy
    generalize l[k]=x at *
    generalize m[k]=y at *
    have HLt:Hid (k < l.length):=hlt
    clear hkg hlt hbw htk hlm
    by_cases hxy:x=y
    ·subst hxy
     have HS:Hid (l.take (k+1)=m.take (k+1)):=HSame.out rfl
     clear HSame HDiff
     have hq:(x.toList != x.toList)=false:=by simp
     go_wp2_with fail
     go_quiet (fail)
     go_wp2_with fail
     go_roundg (l.length - (k+1))
     case measure=>have:=HG.out.1;have:=HLt.out;omega
     case rel=>exact ⟨k+1,by have:=HLt.out;omega,by go_num,HS.out,HG.out.2.1.trans ((below_drewN _ _).mono HG.out.2.1.size)⟩
    ·have HD:Hid (l ≠ m):=HDiff.out hxy
     clear HSame HDiff
     have hq0:¬ x.toList=y.toList:=fun e=>hxy (bytes_of e)
     have hq1:(x.toList == y.toList)=false:=by simpa using hq0
     have hq:(x.toList != y.toList)=true:=by simpa using hq0
     go_wp2_with fail
     go_quiet (fail)
     go_wp2
     go_ret
     exact ⟨⟨false,rfl,by simp [HD.out]⟩,HG.out.2.1.trans ((below_drewN _ _).mono HG.out.2.1.size)⟩
   ·have hk':decide (k < l.length)=false:=decide_eq_false hlt
    have HE:Hid (l=m):=by
     have hke:k=l.length:=by omega
     rw [hke,List.take_length,HLn.out,List.take_length] at htk
     exact htk
    clear hkg hlt hbw htk
    go_wp2
    go_ret
    exact ⟨⟨true,rfl,by simp [HE.out]⟩,HG.out.2.1⟩
 ·have hne:((l.length:Int) != (m.length:Int))=true:=by simp;omega
  have HD:Hid (l ≠ m):=fun e=>hlen (by rw [e])
  clear ha hb hlen hn
  go_enter Tryz.func70,Tryz.ntmps70
  go_wp2
  go_ret
  exact ⟨⟨false,rfl,by simp [HD.out]⟩,Below.refl _ _⟩
theorem eqQsG {w:World} {ao bo:Option Addr} {l m:List (ByteArray × Bool)} {ca cb:Nat} (ha:IsVals w ao (qF l)) (hb:IsVals w bo (qF m)) (hn:l.length<=2932031007317):
  Calls Tryz.prog 69 #[.slice ao l.length ca,.slice bo m.length cb] w fun e w'=>(∃ b,e=.returned (.bool b)/\(b=true ↔ l=m))/\Below w.heap.size w w':=by
 by_cases hlen:l.length=m.length
 ·have HA:=show Hid _ from ha
  have HB:=show Hid _ from hb
  have HLn:=show Hid _ from hlen
  have hn2:(l.length:Int)<=2932031007317:=by omega
  have hne:((l.length:Int) != (l.length:Int))=false:=by simp
  rw [<-hlen]
  clear ha hb hlen
  go_enter Tryz.func69,Tryz.ntmps69
  go_wp2_with fail
  go_loopg [13] l.length (fun gq x wr=>∃ k:Nat,k+gq=l.length/\x=.int .i64 (k:Int)/\l.take k=m.take k/\Below w.heap.size w wr)
  case atStart=>exact ⟨0,by omega,rfl,rfl,Below.refl _ _⟩
  case round=>
   obtain ⟨k,hkg,rfl,htk,hbw⟩:=hrel
   have HG:Hid (k+gk=l.length/\Below w.heap.size w wr/\l.take k=m.take k):=⟨hkg,hbw,htk⟩
   by_cases hlt:k < l.length
   ·have hk':(k:Int) < (l.length:Int):=by omega
    have hk2:(k:Int)<=2932031007317:=by omega
    have hlm:k < m.length:=by have:=HLn.out;omega
    obtain ⟨hx,hx2⟩:=qF_at l k hlt
    obtain ⟨hy,hy2⟩:=qF_at m k hlm
    obtain ⟨g,o,rfl,_,d0⟩:=(IsVals.below HA.out hbw) _ _ hx
    obtain ⟨g',o',rfl,_,e0⟩:=(IsVals.below HB.out hbw) _ _ hy
    obtain ⟨g2,o2,he2,_,d1⟩:=(IsVals.below HA.out hbw) _ _ hx2
    cases he2
    obtain ⟨g3,o3,he3,_,e1⟩:=(IsVals.below HB.out hbw) _ _ hy2
    cases he3
    rw [<-Nat.add_assoc] at d1 e1
    have HSame:Hid (l[k]=m[k]->l.take (k+1)=m.take (k+1)):=fun e=>by rw [List.take_add_one,List.take_add_one,HG.out.2.2,List.getElem?_eq_getElem hlt,List.getElem?_eq_getElem hlm,e]
    have HDiff:Hid (l[k] ≠ m[k]->l ≠ m):=fun e h=>e (by subst h;rfl)
    clear hx hy hx2 hy2
    generalize l[k]=x at *
    generalize m[k]=y at *
    have HLt:Hid (k < l.length):=hlt
    clear hkg hlt hbw htk hlm
    by_cases hxy:x=y
    ·subst hxy
     have HS:Hid (l.take (k+1)=m.take (k+1)):=HSame.out rfl
     clear HSame HDiff
     obtain ⟨x1,x2⟩:=x
     dsimp only at *
     go_wp2_with fail
     go_quiet (fail)
     go_wp2_with fail
     go_roundg (l.length - (k+1))
     case measure=>have:=HG.out.1;have:=HLt.out;omega
     case rel=>exact ⟨k+1,by have:=HLt.out;omega,by go_num,HS.out,HG.out.2.1.trans ((below_drewN _ _).mono HG.out.2.1.size)⟩
    ·have HD:Hid (l ≠ m):=HDiff.out hxy
     clear HSame HDiff
     have hq:∀ u:World,(binOp BinOp.neq 61 (.agg #[.string x.1,.bool x.2]) (.agg #[.string y.1,.bool y.2])).run Tryz.prog u=.ok (.bool true) u:=fun u=>neq_queue hxy u
     obtain ⟨x1,x2⟩:=x
     obtain ⟨y1,y2⟩:=y
     dsimp only at *
     go_wp2_with fail
     go_quiet (fail)
     go_wp2
     go_ret
     exact ⟨⟨false,rfl,by simp [HD.out]⟩,HG.out.2.1.trans ((below_drewN _ _).mono HG.out.2.1.size)⟩
   ·have hk':decide (k < l.length)=false:=decide_eq_false hlt
    have HE:Hid (l=m):=by
     have hke:k=l.length:=by omega
     rw [hke,List.take_length,HLn.out,List.take_length] at htk
     exact htk
    clear hkg hlt hbw htk
    go_wp2
    go_ret
    exact ⟨⟨true,rfl,by simp [HE.out]⟩,HG.out.2.1⟩
 ·have hne:((l.length:Int) != (m.length:Int))=true:=by simp;omega
  have HD:Hid (l ≠ m):=fun e=>hlen (by rw [e])
  clear ha hb hlen hn
  go_enter Tryz.func69,Tryz.ntmps69
  go_wp2
  go_ret
  exact ⟨⟨false,rfl,by simp [HD.out]⟩,Below.refl _ _⟩
theorem eqRowsG {w:World} {ao bo:Option Addr} {l m:List Rz} {ca cb:Nat} (ha:IsRz w ao l) (hb:IsRz w bo m) (hn:l.length<=2932031007317):
  Calls Tryz.prog 68 #[.slice ao l.length ca,.slice bo m.length cb] w fun e w'=>(∃ b,e=.returned (.bool b)/\(b=true ↔ l=m))/\Below w.heap.size w w':=by
 by_cases hlen:l.length=m.length
 ·have HA:=show Hid _ from ha
  have HB:=show Hid _ from hb
  have HLn:=show Hid _ from hlen
  have hn2:(l.length:Int)<=2932031007317:=by omega
  have hne:((l.length:Int) != (l.length:Int))=false:=by simp
  rw [<-hlen]
  clear ha hb hlen
  go_enter Tryz.func68,Tryz.ntmps68
  go_wp2_with fail
  go_loopg [13] l.length (fun gq x wr=>∃ k:Nat,k+gq=l.length/\x=.int .i64 (k:Int)/\l.take k=m.take k/\Below w.heap.size w wr)
  case atStart=>exact ⟨0,by omega,rfl,rfl,Below.refl _ _⟩
  case round=>
   obtain ⟨k,hkg,rfl,htk,hbw⟩:=hrel
   have HG:Hid (k+gk=l.length/\Below w.heap.size w wr/\l.take k=m.take k):=⟨hkg,hbw,htk⟩
   by_cases hlt:k < l.length
   ·have hk':(k:Int) < (l.length:Int):=by omega
    have hk2:(k:Int)<=2932031007317:=by omega
    have hlm:k < m.length:=by have:=HLn.out;omega
    have hx:=List.getElem?_eq_getElem hlt
    have hy:=List.getElem?_eq_getElem hlm
    obtain ⟨g,o,rfl,_,d0,d1,d2,d3,d4⟩:=(IsRz.below HA.out hbw) k _ hx
    obtain ⟨g',o',rfl,_,e0,e1,e2,e3,e4⟩:=(IsRz.below HB.out hbw) k _ hy
    have HSame:Hid (l[k]=m[k]->l.take (k+1)=m.take (k+1)):=fun e=>by rw [List.take_add_one,List.take_add_one,HG.out.2.2,List.getElem?_eq_getElem hlt,List.getElem?_eq_getElem hlm,e]
    have HDiff:Hid (l[k] ≠ m[k]->l ≠ m):=fun e h=>e (by subst h;rfl)
    clear hx hy
    generalize l[k]=x at *
    generalize m[k]=y at *
    have HLt:Hid (k < l.length):=hlt
    clear hkg hlt hbw htk hlm
    by_cases hxy:x=y
    ·subst hxy
     have HS:Hid (l.take (k+1)=m.take (k+1)):=HSame.out rfl
     clear HSame HDiff
     obtain ⟨kd,nm,st,n,ks⟩:=x
     dsimp only at *
     go_wp2_with fail
     go_quiet (fail)
     go_wp2_with fail
     go_roundg (l.length - (k+1))
     case measure=>have:=HG.out.1;have:=HLt.out;omega
     case rel=>exact ⟨k+1,by have:=HLt.out;omega,by go_num,HS.out,HG.out.2.1.trans ((below_drewN _ _).mono HG.out.2.1.size)⟩
    ·have HD:Hid (l ≠ m):=HDiff.out hxy
     clear HSame HDiff
     have hq:∀ u:World,(binOp BinOp.neq 57 (rv x) (rv y)).run Tryz.prog u=.ok (.bool true) u:=fun u=>neq_row hxy u
     obtain ⟨kd,nm,st,n,ks⟩:=x
     obtain ⟨kd',nm',st',n',ks'⟩:=y
     dsimp only at *
     go_wp2_with fail
     go_quiet (fail)
     go_wp2
     go_ret
     exact ⟨⟨false,rfl,by simp [HD.out]⟩,HG.out.2.1.trans ((below_drewN _ _).mono HG.out.2.1.size)⟩
   ·have hk':decide (k < l.length)=false:=decide_eq_false hlt
    have HE:Hid (l=m):=by
     have hke:k=l.length:=by omega
     rw [hke,List.take_length,HLn.out,List.take_length] at htk
     exact htk
    clear hkg hlt hbw htk
    go_wp2
    go_ret
    exact ⟨⟨true,rfl,by simp [HE.out]⟩,HG.out.2.1⟩
 ·have hne:((l.length:Int) != (m.length:Int))=true:=by simp;omega
  have HD:Hid (l ≠ m):=fun e=>hlen (by rw [e])
  clear ha hb hlen hn
  go_enter Tryz.func68,Tryz.ntmps68
  go_wp2
  go_ret
  exact ⟨⟨false,rfl,by simp [HD.out]⟩,Below.refl _ _⟩
theorem run_app {P:Program} (w:World) (base:Nat) (t ty e:TypeId) (i:TypeInfo) (z:Value) (size bytes:Nat) (ht:P.underlying t=some (.slice e)) (hi:P.info? e=some i) (hz:i.zero=some z)
  (hsize:i.size=size) (hby:i.bytes=bytes) (hzs:z.cells.size=size) (hsz:0 < size)
  (v:Value) (n:Nat) (xs:List Value) (hown:w.ownsRow base e size v n xs)
  (ao:Option Addr) (m c:Nat) (news:List Value) (hl:news.length=m * size) (hnone:ao=none->m=0/\c=0) (hnews:∀ ad,ao=some ad->∀ j u,news[j]?=some u->w.cell? (ad.add j)=some u) (h1:∀ u ∈ news,u.oneCell'=true)
  (h63:n+m<=maxLen) (hbytes:(n+m) * bytes<=140737488355328) (hbase:base<=w.heap.size):
  ∃ v' w',(Builtin.append_ #[t,t] ty #[v,.slice ao m c]).run P w=.ok v' w'/\w'.ownsRow base e size v' (n+m) (xs++news)/\w.grownBy w' v.ownBlock/\(v'.ownBlock=v.ownBlock\/v'.ownBlock=some w.heap.size):=by
 cases ao with
 | some ad=>
  obtain ⟨v',w',hr,h2,h3,_,h5⟩:=run_append_own_at (P:=P) w base t ty e i z size bytes ht hi hz hsize hby hzs hsz v n xs hown ad m c news hl (hnews ad rfl) h1 h63 hbytes hbase
  exact ⟨v',w',hr,h2,h3,h5⟩
 | none=>
  obtain ⟨rfl,rfl⟩:=hnone rfl
  have he:news=[]:=List.eq_nil_of_length_eq_zero (by simpa using hl)
  subst he
  exact ⟨v,w,run_append_owned_none (P:=P) w base t ty e i size ht hi v n xs hown,by simpa using hown,World.grownBy.refl _ _,Or.inl rfl⟩
theorem wpl_app {P:Program} (w:World) {ops:Array Oper} {rest:List Oper} {o:Oper} {a:Act} {Q:Exit->Act->World->Prop} (hgd:o.guard=none) (s x:Operand) (t:TypeId)
  (ho:o.op=.call { callee:=.builtin .append,args:=#[s,x],argTypes:=#[t,t] })
  (base:Nat) (e:TypeId) (i:TypeInfo) (z:Value) (size bytes:Nat) (ht:P.underlying t=some (.slice e)) (hi:P.info? e=some i) (hz:i.zero=some z)
  (hsize:i.size=size) (hby:i.bytes=bytes) (hzs:z.cells.size=size) (hsz:0 < size)
  (v:Value) (n:Nat) (xs:List Value) (hs:a.eval s=v) (hown:w.ownsRow base e size v n xs)
  (ao:Option Addr) (m c:Nat) (news:List Value) (hx:a.eval x=.slice ao m c) (hl:news.length=m * size) (hnone:ao=none->m=0/\c=0) (hnews:∀ ad,ao=some ad->∀ j u,news[j]?=some u->w.cell? (ad.add j)=some u) (h1:∀ u ∈ news,u.oneCell'=true)
  (h63:n+m<=maxLen) (hbytes:(n+m) * bytes<=140737488355328) (hbase:base<=w.heap.size)
  (h:∀ v' w',w'.ownsRow base e size v' (n+m) (xs++news)->w.grownBy w' v.ownBlock->(v'.ownBlock=v.ownBlock\/v'.ownBlock=some w.heap.size)->wpList P ops Q rest (a.put o.dst v') w'):wpList P ops Q (o :: rest) a w:=by
 refine wpList_plain hgd fun K hK=>?_
 obtain ⟨v',w',hr,h2,h3,h4⟩:=run_app (P:=P) w base t o.type e i z size bytes ht hi hz hsize hby hzs hsz v n xs hown ao m c news hl hnone hnews h1 h63 hbytes hbase
 unfold Oper.wp execOp
 simp only [ho,resolve,invoke,builtin,Sem.run_bind,Sem.run_pure,Result.andThen_ok,List.map_toArray,List.map_cons,List.map_nil,hs,hx,hr]
 exact hK _ _ (h v' w' h2 h3 h4)
theorem step_app {P:Program} (w:World) {ops:Array Oper} {o:Oper} {a:Act} {K:Act->World->Prop} {Q:Exit->Act->World->Prop} {E:Prop} (hgd:o.guard=none) (s x:Operand) (t:TypeId)
  (ho:o.op=.call { callee:=.builtin .append,args:=#[s,x],argTypes:=#[t,t] })
  (base:Nat) (e:TypeId) (i:TypeInfo) (z:Value) (size bytes:Nat) (ht:P.underlying t=some (.slice e)) (hi:P.info? e=some i) (hz:i.zero=some z)
  (hsize:i.size=size) (hby:i.bytes=bytes) (hzs:z.cells.size=size) (hsz:0 < size)
  (v:Value) (n:Nat) (xs:List Value) (hs:a.eval s=v) (hown:w.ownsRow base e size v n xs)
  (ao:Option Addr) (m c:Nat) (news:List Value) (hx:a.eval x=.slice ao m c) (hl:news.length=m * size) (hnone:ao=none->m=0/\c=0) (hnews:∀ ad,ao=some ad->∀ j u,news[j]?=some u->w.cell? (ad.add j)=some u) (h1:∀ u ∈ news,u.oneCell'=true)
  (h63:n+m<=maxLen) (hbytes:(n+m) * bytes<=140737488355328) (hbase:base<=w.heap.size)
  (h:∀ v' w',w'.ownsRow base e size v' (n+m) (xs++news)->w.grownBy w' v.ownBlock->(v'.ownBlock=v.ownBlock\/v'.ownBlock=some w.heap.size)->K (a.put o.dst v') w'):if Region.wanted o (yielded ops a.tmps)=true then Oper.wp P o a w K Q else E:=by
 have hw:Region.wanted o (yielded ops a.tmps)=true:=by simp [Region.wanted,hgd]
 rw [if_pos hw]
 obtain ⟨v',w',hr,h2,h3,h4⟩:=run_app (P:=P) w base t o.type e i z size bytes ht hi hz hsize hby hzs hsz v n xs hown ao m c news hl hnone hnews h1 h63 hbytes hbase
 unfold Oper.wp execOp
 simp only [ho,resolve,invoke,builtin,Sem.run_bind,Sem.run_pure,Result.andThen_ok,List.map_toArray,List.map_cons,List.map_nil,hs,hx,hr]
 exact h v' w' h2 h3 h4
theorem mk_capJ {t e:TypeId} {i:TypeInfo} {z:Value} {size bytes:Nat} (ht:Tryz.prog.underlying t=some (.slice e)) (hi:Tryz.prog.info? e=some i) (hz:i.zero=some z) (hsize:i.size=size) (hby:i.bytes=bytes) (n:Nat) (hn:bytes * (n+3)<=140737488355352) (hn2:n<=140737488355328):
  ∃ M:Array Value,(∀ u:World,(Instr.makeSlice t (.int .i64 0) (.int .i64 ((n:Int)+3))).run Tryz.prog u=.ok (.slice (some ⟨u.heap.size,0,none⟩) 0 (n+3)) (u.alloc (.cells M e)))/\M.size=(n+3) * size:=by
 refine ⟨_,fun u=>?_,size_madeCells z.cells ((n+3) * size)⟩
 have h:=run_make (P:=Tryz.prog) u t e i z ht hi hz .i64 .i64 0 ((n:Int)+3) (Int.le_refl _) (by omega) (by
  rw [hby]
  have:(bytes:Int) * ((n:Int)+3)=((bytes * (n+3):Nat):Int):=by simp
  rw [this]
  omega) (by omega)
 have e1:((n:Int)+3).toNat=n+3:=by omega
 rw [e1,hsize] at h
 exact h
theorem own_madeJ {u:World} {M:Array Value} {e:TypeId} {n size base:Nat} (hM:M.size=(n+3) * size) (hb:base<=u.heap.size) (hn:n<=140737488355328):(u.alloc (.cells M e)).ownsRow base e size (.slice (some ⟨u.heap.size,0,none⟩) 0 (n+3)) 0 []:=
 own_mk (cur:=M.toList) (by simp) hb (by rw [Array.toArray_toList];exact heap_alloc_new u _) (Nat.zero_le _) (by unfold maxLen;omega) (by simpa using hM) (by simp)
theorem vals_src {w:World} {ao:Option Addr} {xs:List Value} (h:IsVals w ao xs):∀ ad,ao=some ad->∀ j u,xs[j]?=some u->w.cell? (ad.add j)=some u:=fun ad e j u hu=>by
 obtain ⟨g,o,e2,_,hc⟩:=h j u hu
 rw [e] at e2
 cases e2
 rw [Lib.addr_add]
 exact hc
theorem vals_nil {w:World} {ao:Option Addr} {xs:List Value} {m sz:Nat} (h:IsVals w ao xs) (hl:xs.length=m * sz) (hs:0 < sz):ao=none->m=0:=fun e=>by
 cases m with
 | zero=>rfl
 | succ m=>
  have h0:0 < xs.length:=by rw [hl,Nat.succ_mul];omega
  obtain ⟨g,o,e2,_⟩:=h 0 _ (List.getElem?_eq_getElem h0)
  rw [e] at e2
  cases e2
theorem iv_one (l:List Int):∀ u ∈ iv l,u.oneCell'=true:=fun u hu=>by
 obtain ⟨n,_,rfl⟩:=List.mem_map.1 hu
 rfl
theorem own_some {w:World} {base:Nat} {e:TypeId} {size:Nat} {v:Value} {n:Nat} {xs:List Value} (h:w.ownsRow base e size v n xs) (hn:0 < n):∃ g cap,v=.slice (some ⟨g,0,none⟩) n cap/\n<=cap/\cap<=maxLen:=by
 obtain ⟨g,cap,cur,e1,_,_,h4,h5,_⟩:=own_block h hn
 exact ⟨g,cap,e1,h4,h5⟩
theorem mk_cap {t e:TypeId} {i:TypeInfo} {z:Value} {size bytes:Nat} (ht:Tryz.prog.underlying t=some (.slice e)) (hi:Tryz.prog.info? e=some i) (hz:i.zero=some z) (hsize:i.size=size) (hby:i.bytes=bytes) (hb:bytes<=1000) (n:Nat) (hn:n<=1000):
  ∃ M:Array Value,(∀ u:World,(Instr.makeSlice t (.int .i64 0) (.int .i64 ((n:Int)+3))).run Tryz.prog u=.ok (.slice (some ⟨u.heap.size,0,none⟩) 0 (n+3)) (u.alloc (.cells M e)))/\M.size=(n+3) * size:=mk_capJ ht hi hz hsize hby n (Nat.le_trans (Nat.mul_le_mul hb (show n+3<=1003 by omega)) (by decide)) (by omega)
theorem own_made {u:World} {M:Array Value} {e:TypeId} {n size base:Nat} (hM:M.size=(n+3) * size) (hb:base<=u.heap.size) (hn:n<=1000):(u.alloc (.cells M e)).ownsRow base e size (.slice (some ⟨u.heap.size,0,none⟩) 0 (n+3)) 0 []:=own_madeJ hM hb (by omega)
theorem lendJ_any {w:World} {ao:Option Addr} {l:List Int} {c:Nat} (h:IsVals w ao (iv l)) (hn:l.length<=17592186043904) (hnil:ao=none->c=0):
  Calls Tryz.prog 24 #[.slice ao l.length c] w fun e w'=>∃ g cap,e=.returned (.slice (some ⟨g,0,none⟩) l.length cap)/\w'.ownsRow w.heap.size 3 1 (.slice (some ⟨g,0,none⟩) (l.length+1) cap) (l.length+1) (iv l++[.int .i64 (-77)])/\Below w.heap.size w w':=by
 obtain ⟨i0,hi,hz0,hz1,hz2⟩:=info_parts infoI
 obtain ⟨M,hmk,hM⟩:=mk_capJ Tryz.underlying25 hi hz0 hz1 hz2 l.length (by omega) (by omega)
 have hb1:Below w.heap.size w (w.alloc (.cells M 3)):=(Below.refl _ w).alloc (Nat.le_refl _) _
 have HO:Hid ((w.alloc (.cells M 3)).ownsRow w.heap.size 3 1 (.slice (some ⟨w.heap.size,0,none⟩) 0 (l.length+3)) 0 []):=own_madeJ hM (Nat.le_refl _) (by omega)
 have HB1:=show Hid _ from hb1
 have HV:=show Hid _ from h.below hb1
 have HN:Hid (l.length<=17592186043904/\(ao=none->l.length=0/\c=0)/\(iv l).length=l.length * 1):=⟨hn,fun e=>⟨vals_nil (m:=l.length) (sz:=1) h (by simp) (by decide) e,hnil e⟩,by simp⟩
 have hln:(l.length:Int)<=17592186043904:=by omega
 clear h hn hnil hb1 hM
 go_enter Tryz.func24,Tryz.ntmps24
 go_wp2_with (at_builtin;refine wpl_app _ rfl _ _ 25 rfl w.heap.size 3 i0 (.int .i64 0) 1 8 Tryz.underlying25 hi hz0 hz1 hz2 rfl (by decide) (.slice (some ⟨w.heap.size,0,none⟩) 0 (l.length+3)) 0 [] rfl HO.out ao l.length c (iv l) rfl HN.out.2.2 HN.out.2.1 (vals_src HV.out) (iv_one l) ?c3 ?c4 HB1.out.size ?_)
 case c3=>have:=HN.out.1;unfold maxLen;omega
 case c4=>have:=HN.out.1;omega
 intro v1 w2 ho1 hg1 _
 have hb2:Below w.heap.size w w2:=HB1.out.grown hg1 HB1.out.size (fun q e=>by cases e;exact Nat.le_refl _)
 have hb3:Below w2.heap.size w2 (w2.alloc (.cells #[.int .i64 (-77)] 3)):=(Below.refl _ w2).alloc (Nat.le_refl _) _
 have HO2:Hid ((w2.alloc (.cells #[.int .i64 (-77)] 3)).ownsRow w.heap.size 3 1 v1 l.length (iv l)/\Below w.heap.size w (w2.alloc (.cells #[.int .i64 (-77)] 3))):=⟨own_below ho1 hb3,hb2.trans (hb3.mono hb2.size)⟩
 clear ho1 hg1 hb2 hb3 HO HV
 go_wp2_with (at_builtin;refine wpl_app _ rfl _ _ 25 rfl w.heap.size 3 i0 (.int .i64 0) 1 8 Tryz.underlying25 hi hz0 hz1 hz2 rfl (by decide) v1 l.length (iv l) rfl HO2.out.1 (some ⟨w2.heap.size,0,none⟩) 1 1 [.int .i64 (-77)] rfl rfl (fun e=>by cases e) (fun ad e=>by cases e;exact cell_one w2 _ _) (by intro u hu;simp only [List.mem_cons,List.not_mem_nil,or_false] at hu;subst hu;rfl) ?c3 ?c4 HO2.out.2.size ?_)
 case c3=>have:=HN.out.1;unfold maxLen;omega
 case c4=>have:=HN.out.1;omega
 intro v2 w4 ho2 hg2 _
 have H4:Hid (w4.ownsRow w.heap.size 3 1 v2 (l.length+1) (iv l++[.int .i64 (-77)])/\Below w.heap.size w w4):=⟨ho2,HO2.out.2.grown hg2 HO2.out.2.size (fun q e=>(World.ownsRow.lt HO2.out.1 q e).1)⟩
 obtain ⟨g,cap,rfl,hcap,hcm⟩:=own_some ho2 (Nat.succ_pos _)
 have hc1:(l.length:Int)<=(cap:Int):=by omega
 have hc2:(l.length:Int)+1<=(cap:Int):=by omega
 have hc3:l.length<=cap:=by omega
 have hc4:(cap:Int)<=9223372036854775807:=by unfold maxLen at hcm;omega
 clear ho2 hg2 HO2 hcm
 go_wp2_with fail
 go_ret
 exact ⟨g,cap,rfl,H4.out.1,H4.out.2⟩
theorem lendI_any {w:World} {ao:Option Addr} {l:List Int} {c:Nat} (h:IsVals w ao (iv l)) (hn:l.length<=1000) (hnil:ao=none->c=0):
  Calls Tryz.prog 24 #[.slice ao l.length c] w fun e w'=>∃ g cap,e=.returned (.slice (some ⟨g,0,none⟩) l.length cap)/\w'.ownsRow w.heap.size 3 1 (.slice (some ⟨g,0,none⟩) (l.length+1) cap) (l.length+1) (iv l++[.int .i64 (-77)])/\Below w.heap.size w w':=lendJ_any h (by omega) hnil
end Go.Proofs.YtinjccfhhdidiaaGreat.Nm
