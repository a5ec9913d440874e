import Derived.Test.YtfgpbdieaflclaaGreatK16
import Derived.Maps.AppendAt
import Derived.Laws.MakeOwn
import Derived.OrdersHeld
import Derived.Deep.RegionHeld
import Derived.Great.BuildSlice
set_option maxHeartbeats 6400000
set_option maxRecDepth 100000
namespace Go.Proofs.YtfgpbdieaflclaaGreat.Nm
open Go.RowKit Go.Maps Sp Lx Gr
def IsVals (w:World) (ao:Option Addr) (xs:List Value):Prop:=∀ (k:Nat) (x:Value),xs[k]?=some x->∃ g o,ao=some ⟨g,o,none⟩/\g < w.heap.size/\w.cell? ⟨g,o+k,none⟩=some x
theorem IsVals.below {w w':World} {ao:Option Addr} {xs:List Value} (h:IsVals w ao xs) (hb:Below w.heap.size w w'):IsVals w' ao xs:=fun k x hx=>by
 obtain ⟨g,o,e,hg,hc⟩:=h k x hx
 exact ⟨g,o,e,Nat.lt_of_lt_of_le hg hb.size,(hb.cell (p:=⟨g,o+k,none⟩) hg).trans hc⟩
theorem vals_of {w:World} {base n c sz m:Nat} {T:TypeId} {ao:Option Addr} {xs:List Value} (h:w.ownsRow base T sz (.slice ao n c) m xs):IsVals w ao xs:=by
 intro k x hx
 have hc:=h
 rcases h.2 with ⟨_,hz⟩ | ⟨g,cap,cur,e,h3,h4,_⟩
 ·have h1:=h.1
  rw [hz,Nat.zero_mul] at h1
  have:=(List.getElem?_eq_some_iff.1 hx).1
  omega
 ·cases e
  refine ⟨g,0,rfl,blk_lt h4,?_⟩
  have:=hc.cells (g:=g) rfl k x hx
  rw [Lib.addr_add] at this
  exact this
theorem qF_at (l:List (ByteArray × Bool)) (k:Nat) (hk:k < l.length):(qF l)[k * 2]?=some (.string l[k].1)/\(qF l)[k * 2+1]?=some (.bool l[k].2):=by
 induction l generalizing k with
 | nil=>simp at hk
 | cons x l ih=>
  cases k with
  | zero=>exact ⟨rfl,rfl⟩
  | succ k=>
   have:=ih k (by simpa using hk)
   have e:qF (x :: l)=.string x.1 :: .bool x.2 :: qF l:=rfl
   rw [e,show (k+1) * 2=k * 2+1+1 by omega]
   exact ⟨by simpa using this.1,by simpa using this.2⟩
theorem bytes_of {x y:ByteArray} (h:x.toList=y.toList):x=y:=by
 rw [ByteArray.toList_eq,ByteArray.toList_eq] at h
 cases x
 cases y
 simpa using h
theorem neq_queue {x y:ByteArray × Bool} (h:x ≠ y) (u:World):(binOp BinOp.neq 67 (.agg #[.string x.1,.bool x.2]) (.agg #[.string y.1,.bool y.2])).run Tryz.prog u=.ok (.bool true) u:=by
 go_simp
 intro e1 e2
 exact h (Prod.ext (bytes_of e1) e2)
theorem neq_row {x y:Rz} (h:x ≠ y) (u:World):(binOp BinOp.neq 47 (rv x) (rv y)).run Tryz.prog u=.ok (.bool true) u:=by
 unfold rv
 go_simp
 intro e1 e2 e3 e4 e5
 refine h ?_
 cases x
 cases y
 have:=bytes_of e2
 simp_all
theorem eqIntsG {w:World} {ao bo:Option Addr} {l m:List Int} {ca cb:Nat} (ha:IsVals w ao (iv l)) (hb:IsVals w bo (iv m)) (hn:l.length<=2932031007317):
  Calls Tryz.prog 57 #[.slice ao l.length ca,.slice bo m.length cb] w fun e w'=>(∃ b,e=.returned (.bool b)/\(b=true ↔ l=m))/\Below w.heap.size w w':=by
 by_cases hlen:l.length=m.length
 ·have HA:=hdn <| ha
  have HB:=hdn <| hb
  have HLn:=hdn <| hlen
  have hn2:(l.length:Int)<=2932031007317:=by omega
  have hne:((l.length:Int) != (l.length:Int))=false:=by simp
  rw [<-hlen]
  clear ha hb hlen
  go_enter Tryz.func57,Tryz.ntmps57
  go_wp2_with fail
  go_loopg [13] l.length (fun gq x wr=>∃ k:Nat,k+gq=l.length/\x=.int .i64 (k:Int)/\l.take k=m.take k/\Below w.heap.size w wr)
  case atStart=>exact ⟨0,by omega,rfl,rfl,Below.refl _ _⟩
  case round=>
   obtain ⟨k,hkg,rfl,htk,hbw⟩:=hrel
   have HG:Hid (k+gk=l.length/\Below w.heap.size w wr/\l.take k=m.take k):=⟨hkg,hbw,htk⟩
   by_cases hlt:k < l.length
   ·have hk':(k:Int) < (l.length:Int):=by omega
    have hk2:(k:Int)<=2932031007317:=by omega
    have hlm:k < m.length:=by have:=HLn.out;omega
    have hx:(iv l)[k]?=some (.int .i64 l[k]):=by rw [List.getElem?_map,List.getElem?_eq_getElem hlt];rfl
    have hy:(iv m)[k]?=some (.int .i64 m[k]):=by rw [List.getElem?_map,List.getElem?_eq_getElem hlm];rfl
    obtain ⟨g,o,rfl,_,d0⟩:=(IsVals.below HA.out hbw) k _ hx
    obtain ⟨g',o',rfl,_,e0⟩:=(IsVals.below HB.out hbw) k _ hy
    have HSame:Hid (l[k]=m[k]->l.take (k+1)=m.take (k+1)):=fun e=>by rw [List.take_add_one,List.take_add_one,HG.out.2.2,List.getElem?_eq_getElem hlt,List.getElem?_eq_getElem hlm,e]
    have HDiff:Hid (l[k] ≠ m[k]->l ≠ m):=fun e h=>e (by subst h;rfl)
    clear hx hy
    generalize l[k]=x at *
    generalize m[k]=y at *
    have HLt:Hid (k < l.length):=hlt
    clear hkg hlt hbw htk hlm
    by_cases hxy:x=y
    ·subst hxy
     have HS:Hid (l.take (k+1)=m.take (k+1)):=HSame.out rfl
     clear HSame HDiff
     have hq:(x != x)=false:=by simp
     go_wp2_with fail
     go_quiet (fail)
     go_wp2_with fail
     go_roundg (l.length - (k+1))
     case measure=>have:=HG.out.1;have:=HLt.out;omega
     case rel=>exact ⟨k+1,by have:=HLt.out;omega,by go_num,HS.out,HG.out.2.1.trans ((below_drewN _ _).mono HG.out.2.1.size)⟩
    ·have HD:Hid (l ≠ m):=HDiff.out hxy
     clear HSame HDiff
     have hq:(x != y)=true:=by simp [hxy]
     go_wp2_with fail
     go_quiet (fail)
     go_wp2
     go_ret
     exact ⟨⟨false,rfl,by simp [HD.out]⟩,HG.out.2.1.trans ((below_drewN _ _).mono HG.out.2.1.size)⟩
   ·have hk':decide (k < l.length)=false:=decide_eq_false hlt
    have HE:Hid (l=m):=by
     have hke:k=l.length:=by omega
     rw [hke,List.take_length,HLn.out,List.take_length] at htk
     exact htk
    clear hkg hlt hbw htk
    go_wp2
    go_ret
    exact ⟨⟨true,rfl,by simp [HE.out]⟩,HG.out.2.1⟩
 ·have hne:((l.length:Int) != (m.length:Int))=true:=by simp;omega
  have HD:Hid (l ≠ m):=fun e=>hlen (by rw [e])
  clear ha hb hlen hn
  go_enter Tryz.func57,Tryz.ntmps57
  go_wp2
  go_ret
  exact ⟨⟨false,rfl,by simp [HD.out]⟩,Below.refl _ _⟩
theorem eqStrsG {w:World} {ao bo:Option Addr} {l m:List ByteArray} {ca cb:Nat} (ha:IsVals w ao (l.map Value.string)) (hb:IsVals w bo (m.map Value.string)) (hn:l.length<=2932031007317):
  Calls Tryz.prog 56 #[.slice ao l.length ca,.slice bo m.length cb] w fun e w'=>(∃ b,e=.returned (.bool b)/\(b=true ↔ l=m))/\Below w.heap.size w w':=by
 by_cases hlen:l.length=m.length
 ·have HA:=hdn <| ha
  have HB:=hdn <| hb
  have HLn:=hdn <| hlen
  have hn2:(l.length:Int)<=2932031007317:=by omega
  have hne:((l.length:Int) != (l.length:Int))=false:=by simp
  rw [<-hlen]
  clear ha hb hlen
  go_enter Tryz.func56,Tryz.ntmps56
  go_wp2_with fail
  go_loopg [13] l.length (fun gq x wr=>∃ k:Nat,k+gq=l.length/\x=.int .i64 (k:Int)/\l.take k=m.take k/\Below w.heap.size w wr)
  case atStart=>exact ⟨0,by omega,rfl,rfl,Below.refl _ _⟩
  case round=>
   obtain ⟨k,hkg,rfl,htk,hbw⟩:=hrel
   have HG:Hid (k+gk=l.length/\Below w.heap.size w wr/\l.take k=m.take k):=⟨hkg,hbw,htk⟩
   by_cases hlt:k < l.length
   ·have hk':(k:Int) < (l.length:Int):=by omega
    have hk2:(k:Int)<=2932031007317:=by omega
    have hlm:k < m.length:=by have:=HLn.out;omega
    have hx:(l.map Value.string)[k]?=some (.string l[k]):=by rw [List.getElem?_map,List.getElem?_eq_getElem hlt];rfl
    have hy:(m.map Value.string)[k]?=some (.string m[k]):=by rw [List.getElem?_map,List.getElem?_eq_getElem hlm];rfl
    obtain ⟨g,o,rfl,_,d0⟩:=(IsVals.below HA.out hbw) k _ hx
    obtain ⟨g',o',rfl,_,e0⟩:=(IsVals.below HB.out hbw) k _ hy
    have HSame:Hid (l[k]=m[k]->l.take (k+1)=m.take (k+1)):=fun e=>by rw [List.take_add_one,List.take_add_one,HG.out.2.2,List.getElem?_eq_getElem hlt,List.getElem?_eq_getElem hlm,e]
    have HDiff:Hid (l[k] ≠ m[k]->l ≠ m):=fun e h=>e (by subst h;rfl)
    clear hx hy
    generalize l[k]=x at *
    generalize m[k]=y at *
    have HLt:Hid (k < l.length):=hlt
    clear hkg hlt hbw htk hlm
    by_cases hxy:x=y
    ·subst hxy
     have HS:Hid (l.take (k+1)=m.take (k+1)):=HSame.out rfl
     clear HSame HDiff
     have hq:(x.toList != x.toList)=false:=by simp
     go_wp2_with fail
     go_quiet (fail)
     go_wp2_with fail
     go_roundg (l.length - (k+1))
     case measure=>have:=HG.out.1;have:=HLt.out;omega
     case rel=>exact ⟨k+1,by have:=HLt.out;omega,by go_num,HS.out,HG.out.2.1.trans ((below_drewN _ _).mono HG.out.2.1.size)⟩
    ·have HD:Hid (l ≠ m):=HDiff.out hxy
     clear HSame HDiff
     have hq0:¬ x.toList=y.toList:=fun e=>hxy (bytes_of e)
     have hq1:(x.toList == y.toList)=false:=by simpa using hq0
     have hq:(x.toList != y.toList)=true:=by simpa using hq0
     go_wp2_with fail
     go_quiet (fail)
     go_wp2
     go_ret
     exact ⟨⟨false,rfl,by simp [HD.out]⟩,HG.out.2.1.trans ((below_drewN _ _).mono HG.out.2.1.size)⟩
   ·have hk':decide (k < l.length)=false:=decide_eq_false hlt
    have HE:Hid (l=m):=by
     have hke:k=l.length:=by omega
     rw [hke,List.take_length,HLn.out,List.take_length] at htk
     exact htk
    clear hkg hlt hbw htk
    go_wp2
    go_ret
    exact ⟨⟨true,rfl,by simp [HE.out]⟩,HG.out.2.1⟩
 ·have hne:((l.length:Int) != (m.length:Int))=true:=by simp;omega
  have HD:Hid (l ≠ m):=fun e=>hlen (by rw [e])
  clear ha hb hlen hn
  go_enter Tryz.func56,Tryz.ntmps56
  go_wp2
  go_ret
  exact ⟨⟨false,rfl,by simp [HD.out]⟩,Below.refl _ _⟩
theorem eqQsG {w:World} {ao bo:Option Addr} {l m:List (ByteArray × Bool)} {ca cb:Nat} (ha:IsVals w ao (qF l)) (hb:IsVals w bo (qF m)) (hn:l.length<=2932031007317):
  Calls Tryz.prog 55 #[.slice ao l.length ca,.slice bo m.length cb] w fun e w'=>(∃ b,e=.returned (.bool b)/\(b=true ↔ l=m))/\Below w.heap.size w w':=by
 by_cases hlen:l.length=m.length
 ·have HA:=hdn <| ha
  have HB:=hdn <| hb
  have HLn:=hdn <| hlen
  have hn2:(l.length:Int)<=2932031007317:=by omega
  have hne:((l.length:Int) != (l.length:Int))=false:=by simp
  rw [<-hlen]
  clear ha hb hlen
  go_enter Tryz.func55,Tryz.ntmps55
  go_wp2_with fail
  go_loopg [13] l.length (fun gq x wr=>∃ k:Nat,k+gq=l.length/\x=.int .i64 (k:Int)/\l.take k=m.take k/\Below w.heap.size w wr)
  case atStart=>exact ⟨0,by omega,rfl,rfl,Below.refl _ _⟩
  case round=>
   obtain ⟨k,hkg,rfl,htk,hbw⟩:=hrel
   have HG:Hid (k+gk=l.length/\Below w.heap.size w wr/\l.take k=m.take k):=⟨hkg,hbw,htk⟩
   by_cases hlt:k < l.length
   ·have hk':(k:Int) < (l.length:Int):=by omega
    have hk2:(k:Int)<=2932031007317:=by omega
    have hlm:k < m.length:=by have:=HLn.out;omega
    obtain ⟨hx,hx2⟩:=qF_at l k hlt
    obtain ⟨hy,hy2⟩:=qF_at m k hlm
    obtain ⟨g,o,rfl,_,d0⟩:=(IsVals.below HA.out hbw) _ _ hx
    obtain ⟨g',o',rfl,_,e0⟩:=(IsVals.below HB.out hbw) _ _ hy
    obtain ⟨g2,o2,he2,_,d1⟩:=(IsVals.below HA.out hbw) _ _ hx2
    cases he2
    obtain ⟨g3,o3,he3,_,e1⟩:=(IsVals.below HB.out hbw) _ _ hy2
    cases he3
    rw [<-Nat.add_assoc] at d1 e1
    have HSame:Hid (l[k]=m[k]->l.take (k+1)=m.take (k+1)):=fun e=>by rw [List.take_add_one,List.take_add_one,HG.out.2.2,List.getElem?_eq_getElem hlt,List.getElem?_eq_getElem hlm,e]
    have HDiff:Hid (l[k] ≠ m[k]->l ≠ m):=fun e h=>e (by subst h;rfl)
    clear hx hy hx2 hy2
    generalize l[k]=x at *
    generalize m[k]=y at *
    have HLt:Hid (k < l.length):=hlt
    clear hkg hlt hbw htk hlm
    by_cases hxy:x=y
    ·subst hxy
     have HS:Hid (l.take (k+1)=m.take (k+1)):=HSame.out rfl
     clear HSame HDiff
     obtain ⟨x1,x2⟩:=x
     dsimp only at *
     go_wp2_with fail
     go_quiet (fail)
     go_wp2_with fail
     go_roundg (l.length - (k+1))
     case measure=>have:=HG.out.1;have:=HLt.out;omega
     case rel=>exact ⟨k+1,by have:=HLt.out;omega,by go_num,HS.out,HG.out.2.1.trans ((below_drewN _ _).mono HG.out.2.1.size)⟩
    ·have HD:Hid (l ≠ m):=HDiff.out hxy
     clear HSame HDiff
     have hq:∀ u:World,(binOp BinOp.neq 67 (.agg #[.string x.1,.bool x.2]) (.agg #[.string y.1,.bool y.2])).run Tryz.prog u=.ok (.bool true) u:=fun u=>neq_queue hxy u
     obtain ⟨x1,x2⟩:=x
     obtain ⟨y1,y2⟩:=y
     dsimp only at *
     go_wp2_with fail
     go_quiet (fail)
     go_wp2
     go_ret
     exact ⟨⟨false,rfl,by simp [HD.out]⟩,HG.out.2.1.trans ((below_drewN _ _).mono HG.out.2.1.size)⟩
   ·have hk':decide (k < l.length)=false:=decide_eq_false hlt
    have HE:Hid (l=m):=by
     have hke:k=l.length:=by omega
     rw [hke,List.take_length,HLn.out,List.take_length] at htk
     exact htk
    clear hkg hlt hbw htk
    go_wp2
    go_ret
    exact ⟨⟨true,rfl,by simp [HE.out]⟩,HG.out.2.1⟩
 ·have hne:((l.length:Int) != (m.length:Int))=true:=by simp;omega
  have HD:Hid (l ≠ m):=fun e=>hlen (by rw [e])
  clear ha hb hlen hn
  go_enter Tryz.func55,Tryz.ntmps55
  go_wp2
  go_ret
  exact ⟨⟨false,rfl,by simp [HD.out]⟩,Below.refl _ _⟩
theorem eqRowsG {w:World} {ao bo:Option Addr} {l m:List Rz} {ca cb:Nat} (ha:IsRz w ao l) (hb:IsRz w bo m) (hn:l.length<=2932031007317):
  Calls Tryz.prog 54 #[.slice ao l.length ca,.slice bo m.length cb] w fun e w'=>(∃ b,e=.returned (.bool b)/\(b=true ↔ l=m))/\Below w.heap.size w w':=by
 by_cases hlen:l.length=m.length
 ·have HA:=hdn <| ha
  have HB:=hdn <| hb
  have HLn:=hdn <| hlen
  have hn2:(l.length:Int)<=2932031007317:=by omega
  have hne:((l.length:Int) != (l.length:Int))=false:=by simp
  rw [<-hlen]
  clear ha hb hlen
  go_enter Tryz.func54,Tryz.ntmps54
  go_wp2_with fail
  go_loopg [13] l.length (fun gq x wr=>∃ k:Nat,k+gq=l.length/\x=.int .i64 (k:Int)/\l.take k=m.take k/\Below w.heap.size w wr)
  case atStart=>exact ⟨0,by omega,rfl,rfl,Below.refl _ _⟩
  case round=>
   obtain ⟨k,hkg,rfl,htk,hbw⟩:=hrel
   have HG:Hid (k+gk=l.length/\Below w.heap.size w wr/\l.take k=m.take k):=⟨hkg,hbw,htk⟩
   by_cases hlt:k < l.length
   ·have hk':(k:Int) < (l.length:Int):=by omega
    have hk2:(k:Int)<=2932031007317:=by omega
    have hlm:k < m.length:=by have:=HLn.out;omega
    have hx:=List.getElem?_eq_getElem hlt
    have hy:=List.getElem?_eq_getElem hlm
    obtain ⟨g,o,rfl,_,d0,d1,d2,d3,d4⟩:=(IsRz.below HA.out hbw) k _ hx
    obtain ⟨g',o',rfl,_,e0,e1,e2,e3,e4⟩:=(IsRz.below HB.out hbw) k _ hy
    have HSame:Hid (l[k]=m[k]->l.take (k+1)=m.take (k+1)):=fun e=>by rw [List.take_add_one,List.take_add_one,HG.out.2.2,List.getElem?_eq_getElem hlt,List.getElem?_eq_getElem hlm,e]
    have HDiff:Hid (l[k] ≠ m[k]->l ≠ m):=fun e h=>e (by subst h;rfl)
    clear hx hy
    generalize l[k]=x at *
    generalize m[k]=y at *
    have HLt:Hid (k < l.length):=hlt
    clear hkg hlt hbw htk hlm
    by_cases hxy:x=y
    ·subst hxy
     have HS:Hid (l.take (k+1)=m.take (k+1)):=HSame.out rfl
     clear HSame HDiff
     obtain ⟨kd,nm,st,n,ks⟩:=x
     dsimp only at *
     go_wp2_with fail
     go_quiet (fail)
     go_wp2_with fail
     go_roundg (l.length - (k+1))
     case measure=>have:=HG.out.1;have:=HLt.out;omega
     case rel=>exact ⟨k+1,by have:=HLt.out;omega,by go_num,HS.out,HG.out.2.1.trans ((below_drewN _ _).mono HG.out.2.1.size)⟩
    ·have HD:Hid (l ≠ m):=HDiff.out hxy
     clear HSame HDiff
     have hq:∀ u:World,(binOp BinOp.neq 47 (rv x) (rv y)).run Tryz.prog u=.ok (.bool true) u:=fun u=>neq_row hxy u
     obtain ⟨kd,nm,st,n,ks⟩:=x
     obtain ⟨kd',nm',st',n',ks'⟩:=y
     dsimp only at *
     go_wp2_with fail
     go_quiet (fail)
     go_wp2
     go_ret
     exact ⟨⟨false,rfl,by simp [HD.out]⟩,HG.out.2.1.trans ((below_drewN _ _).mono HG.out.2.1.size)⟩
   ·have hk':decide (k < l.length)=false:=decide_eq_false hlt
    have HE:Hid (l=m):=by
     have hke:k=l.length:=by omega
     rw [hke,List.take_length,HLn.out,List.take_length] at htk
     exact htk
    clear hkg hlt hbw htk
    go_wp2
    go_ret
    exact ⟨⟨true,rfl,by simp [HE.out]⟩,HG.out.2.1⟩
 ·have hne:((l.length:Int) != (m.length:Int))=true:=by simp;omega
  have HD:Hid (l ≠ m):=fun e=>hlen (by rw [e])
  clear ha hb hlen hn
  go_enter Tryz.func54,Tryz.ntmps54
  go_wp2
  go_ret
  exact ⟨⟨false,rfl,by simp [HD.out]⟩,Below.refl _ _⟩
theorem run_app {P:Program} (w:World) (base:Nat) (t ty e:TypeId) (i:TypeInfo) (z:Value) (size bytes:Nat) (ht:P.underlying t=some (.slice e)) (hi:P.info? e=some i) (hz:i.zero=some z)
  (hsize:i.size=size) (hby:i.bytes=bytes) (hzs:z.cells.size=size) (hsz:0 < size)
  (v:Value) (n:Nat) (xs:List Value) (hown:w.ownsRow base e size v n xs)
  (ao:Option Addr) (m c:Nat) (news:List Value) (hl:news.length=m * size) (hnone:ao=none->m=0/\c=0) (hnews:∀ ad,ao=some ad->∀ j u,news[j]?=some u->w.cell? (ad.add j)=some u) (h1:∀ u ∈ news,u.oneCell'=true)
  (h63:n+m<=maxLen) (hbytes:(n+m) * bytes<=140737488355328) (hbase:base<=w.heap.size):
  ∃ v' w',(Builtin.append_ #[t,t] ty #[v,.slice ao m c]).run P w=.ok v' w'/\w'.ownsRow base e size v' (n+m) (xs++news)/\w.grownBy w' v.ownBlock/\(v'.ownBlock=v.ownBlock\/v'.ownBlock=some w.heap.size):=by
 cases ao with
 | some ad=>
  obtain ⟨v',w',hr,h2,h3,_,h5⟩:=run_append_own_at (P:=P) w base t ty e i z size bytes ht hi hz hsize hby hzs hsz v n xs hown ad m c news hl (hnews ad rfl) h1 h63 hbytes hbase
  exact ⟨v',w',hr,h2,h3,h5⟩
 | none=>
  obtain ⟨rfl,rfl⟩:=hnone rfl
  have he:news=[]:=List.eq_nil_of_length_eq_zero (by simpa using hl)
  subst he
  exact ⟨v,w,run_append_owned_none (P:=P) w base t ty e i size ht hi v n xs hown,by simpa using hown,World.grownBy.refl _ _,Or.inl rfl⟩
theorem wpl_app {P:Program} (w:World) {ops:Array Oper} {rest:List Oper} {o:Oper} {a:Act} {Q:Exit->Act->World->Prop} (hgd:o.guard=none) (s x:Operand) (t:TypeId)
  (ho:o.op=.call { callee:=.builtin .append,args:=#[s,x],argTypes:=#[t,t] })
  (base:Nat) (e:TypeId) (i:TypeInfo) (z:Value) (size bytes:Nat) (ht:P.underlying t=some (.slice e)) (hi:P.info? e=some i) (hz:i.zero=some z)
  (hsize:i.size=size) (hby:i.bytes=bytes) (hzs:z.cells.size=size) (hsz:0 < size)
  (v:Value) (n:Nat) (xs:List Value) (hs:a.eval s=v) (hown:w.ownsRow base e size v n xs)
  (ao:Option Addr) (m c:Nat) (news:List Value) (hx:a.eval x=.slice ao m c) (hl:news.length=m * size) (hnone:ao=none->m=0/\c=0) (hnews:∀ ad,ao=some ad->∀ j u,news[j]?=some u->w.cell? (ad.add j)=some u) (h1:∀ u ∈ news,u.oneCell'=true)
  (h63:n+m<=maxLen) (hbytes:(n+m) * bytes<=140737488355328) (hbase:base<=w.heap.size)
  (h:∀ v' w',w'.ownsRow base e size v' (n+m) (xs++news)->w.grownBy w' v.ownBlock->(v'.ownBlock=v.ownBlock\/v'.ownBlock=some w.heap.size)->wpList P ops Q rest (a.put o.dst v') w'):wpList P ops Q (o :: rest) a w:=by
 refine wpList_plain hgd fun K hK=>?_
 obtain ⟨v',w',hr,h2,h3,h4⟩:=run_app (P:=P) w base t o.type e i z size bytes ht hi hz hsize hby hzs hsz v n xs hown ao m c news hl hnone hnews h1 h63 hbytes hbase
 unfold Oper.wp execOp
 simp only [ho,resolve,invoke,builtin,Sem.run_bind,Sem.run_pure,Result.andThen_ok,List.map_toArray,List.map_cons,List.map_nil,hs,hx,hr]
 exact hK _ _ (h v' w' h2 h3 h4)
theorem step_app {P:Program} (w:World) {ops:Array Oper} {o:Oper} {a:Act} {K:Act->World->Prop} {Q:Exit->Act->World->Prop} {E:Prop} (hgd:o.guard=none) (s x:Operand) (t:TypeId)
  (ho:o.op=.call { callee:=.builtin .append,args:=#[s,x],argTypes:=#[t,t] })
  (base:Nat) (e:TypeId) (i:TypeInfo) (z:Value) (size bytes:Nat) (ht:P.underlying t=some (.slice e)) (hi:P.info? e=some i) (hz:i.zero=some z)
  (hsize:i.size=size) (hby:i.bytes=bytes) (hzs:z.cells.size=size) (hsz:0 < size)
  (v:Value) (n:Nat) (xs:List Value) (hs:a.eval s=v) (hown:w.ownsRow base e size v n xs)
  (ao:Option Addr) (m c:Nat) (news:List Value) (hx:a.eval x=.slice ao m c) (hl:news.length=m * size) (hnone:ao=none->m=0/\c=0) (hnews:∀ ad,ao=some ad->∀ j u,news[j]?=some u->w.cell? (ad.add j)=some u) (h1:∀ u ∈ news,u.oneCell'=true)
  (h63:n+m<=maxLen) (hbytes:(n+m) * bytes<=140737488355328) (hbase:base<=w.heap.size)
  (h:∀ v' w',w'.ownsRow base e size v' (n+m) (xs++news)->w.grownBy w' v.ownBlock->(v'.ownBlock=v.ownBlock\/v'.ownBlock=some w.heap.size)->K (a.put o.dst v') w'):if Region.wanted o (yielded ops a.tmps)=true then Oper.wp P o a w K Q else E:=by
 have hw:Region.wanted o (yielded ops a.tmps)=true:=by simp [Region.wanted,hgd]
 rw [if_pos hw]
 obtain ⟨v',w',hr,h2,h3,h4⟩:=run_app (P:=P) w base t o.type e i z size bytes ht hi hz hsize hby hzs hsz v n xs hown ao m c news hl hnone hnews h1 h63 hbytes hbase
 unfold Oper.wp execOp
 simp only [ho,resolve,invoke,builtin,Sem.run_bind,Sem.run_pure,Result.andThen_ok,List.map_toArray,List.map_cons,List.map_nil,hs,hx,hr]
 exact h v' w' h2 h3 h4
theorem mk_capJ {t e:TypeId} {i:TypeInfo} {z:Value} {size bytes:Nat} (ht:Tryz.prog.underlying t=some (.slice e)) (hi:Tryz.prog.info? e=some i) (hz:i.zero=some z) (hsize:i.size=size) (hby:i.bytes=bytes) (n:Nat) (hn:bytes * (n+3)<=140737488355352) (hn2:n<=140737488355328):
  ∃ M:Array Value,(∀ u:World,(Instr.makeSlice t (.int .i64 0) (.int .i64 ((n:Int)+3))).run Tryz.prog u=.ok (.slice (some ⟨u.heap.size,0,none⟩) 0 (n+3)) (u.alloc (.cells M e)))/\M.size=(n+3) * size:=by
 refine ⟨_,fun u=>?_,size_madeCells z.cells ((n+3) * size)⟩
 have h:=run_make (P:=Tryz.prog) u t e i z ht hi hz .i64 .i64 0 ((n:Int)+3) (Int.le_refl _) (by omega) (by
  rw [hby]
  have:(bytes:Int) * ((n:Int)+3)=((bytes * (n+3):Nat):Int):=by simp
  rw [this]
  omega) (by omega)
 have e1:((n:Int)+3).toNat=n+3:=by omega
 rw [e1,hsize] at h
 exact h
theorem own_madeJ {u:World} {M:Array Value} {e:TypeId} {n size base:Nat} (hM:M.size=(n+3) * size) (hb:base<=u.heap.size) (hn:n<=140737488355328):(u.alloc (.cells M e)).ownsRow base e size (.slice (some ⟨u.heap.size,0,none⟩) 0 (n+3)) 0 []:=
 own_mk (cur:=M.toList) (by simp) hb (by rw [Array.toArray_toList];exact heap_alloc_new u _) (Nat.zero_le _) (by unfold maxLen;omega) (by simpa using hM) (by simp)
theorem vals_src {w:World} {ao:Option Addr} {xs:List Value} (h:IsVals w ao xs):∀ ad,ao=some ad->∀ j u,xs[j]?=some u->w.cell? (ad.add j)=some u:=fun ad e j u hu=>by
 obtain ⟨g,o,e2,_,hc⟩:=h j u hu
 rw [e] at e2
 cases e2
 rw [Lib.addr_add]
 exact hc
theorem vals_nil {w:World} {ao:Option Addr} {xs:List Value} {m sz:Nat} (h:IsVals w ao xs) (hl:xs.length=m * sz) (hs:0 < sz):ao=none->m=0:=fun e=>by
 cases m with
 | zero=>rfl
 | succ m=>
  have h0:0 < xs.length:=by rw [hl,Nat.succ_mul];omega
  obtain ⟨g,o,e2,_⟩:=h 0 _ (List.getElem?_eq_getElem h0)
  rw [e] at e2
  cases e2
theorem iv_one (l:List Int):∀ u ∈ iv l,u.oneCell'=true:=fun u hu=>by
 obtain ⟨n,_,rfl⟩:=List.mem_map.1 hu
 rfl
theorem own_some {w:World} {base:Nat} {e:TypeId} {size:Nat} {v:Value} {n:Nat} {xs:List Value} (h:w.ownsRow base e size v n xs) (hn:0 < n):∃ g cap,v=.slice (some ⟨g,0,none⟩) n cap/\n<=cap/\cap<=maxLen:=by
 obtain ⟨g,cap,cur,e1,_,_,h4,h5,_⟩:=own_block h hn
 exact ⟨g,cap,e1,h4,h5⟩
theorem mk_cap {t e:TypeId} {i:TypeInfo} {z:Value} {size bytes:Nat} (ht:Tryz.prog.underlying t=some (.slice e)) (hi:Tryz.prog.info? e=some i) (hz:i.zero=some z) (hsize:i.size=size) (hby:i.bytes=bytes) (hb:bytes<=1000) (n:Nat) (hn:n<=1000):
  ∃ M:Array Value,(∀ u:World,(Instr.makeSlice t (.int .i64 0) (.int .i64 ((n:Int)+3))).run Tryz.prog u=.ok (.slice (some ⟨u.heap.size,0,none⟩) 0 (n+3)) (u.alloc (.cells M e)))/\M.size=(n+3) * size:=mk_capJ ht hi hz hsize hby n (Nat.le_trans (Nat.mul_le_mul hb (show n+3<=1003 by omega)) (by decide)) (by omega)
theorem own_made {u:World} {M:Array Value} {e:TypeId} {n size base:Nat} (hM:M.size=(n+3) * size) (hb:base<=u.heap.size) (hn:n<=1000):(u.alloc (.cells M e)).ownsRow base e size (.slice (some ⟨u.heap.size,0,none⟩) 0 (n+3)) 0 []:=own_madeJ hM hb (by omega)
end Go.Proofs.YtfgpbdieaflclaaGreat.Nm
set_option linter.unusedSimpArgs false
namespace Go.Proofs.YtfgpbdieaflclaaGreat.Nm.Ty
open Go.RowKit Go.Maps Nm
structure Ent where
 base:Nat
 T:TypeId
 sz:Nat
 v:Value
 n:Nat
 xs:List Value
structure Ap (w:World) (pb:Nat) (E:Nat->Option Ent):Prop where
 ow:∀ j x,E j=some x->pb < x.base/\w.ownsRow x.base x.T x.sz x.v x.n x.xs
 ap:∀ i j x y,i ≠ j->E i=some x->E j=some y->∀ k,x.v.ownBlock=some k->y.v.ownBlock ≠ some k
def up {α:Type} (f:Nat->α) (j:Nat) (v:α):Nat->α:=fun i=>if i=j then v else f i
theorem up_same {α:Type} (f:Nat->α) (j:Nat) (v:α):up f j v j=v:=if_pos rfl
theorem up_ne {α:Type} {f:Nat->α} {i j:Nat} {v:α} (h:i ≠ j):up f j v i=f i:=if_neg h
theorem own_kb {w w':World} {base:Nat} {e:TypeId} {size:Nat} {v:Value} {n:Nat} {xs:List Value} (h:w.ownsRow base e size v n xs) (hb:∀ k,v.ownBlock=some k->w'.heap[k]?=w.heap[k]?):w'.ownsRow base e size v n xs:=by
 refine ⟨h.1,?_⟩
 rcases h.2 with h2 | ⟨g,cap,cur,rfl,h3,h4,h5⟩
 ·exact Or.inl h2
 ·exact Or.inr ⟨g,cap,cur,rfl,h3,(hb g rfl).trans h4,h5⟩
section
variable {w w':World} {pb:Nat} {E E':Nat->Option Ent}
theorem Ap.turn {j:Nat} {y:Ent} (h:Ap w pb E) (hy:pb < y.base/\w'.ownsRow y.base y.T y.sz y.v y.n y.xs) (hk:∀ i x,i ≠ j->E i=some x->∀ k,x.v.ownBlock=some k->w'.heap[k]?=w.heap[k]?/\y.v.ownBlock ≠ some k):Ap w' pb (up E j (some y)):=by
 refine ⟨fun i x hx=>?_,fun i i2 x x2 hne hx hx2 k hb hb2=>?_⟩
 ·by_cases hi:i=j
  ·subst hi
   rw [up_same] at hx
   cases hx
   exact hy
  ·rw [up_ne hi] at hx
   exact ⟨(h.ow i x hx).1,own_kb (h.ow i x hx).2 fun k e=>(hk i x hi hx k e).1⟩
 ·by_cases hi:i=j
  ·subst hi
   rw [up_same] at hx
   cases hx
   rw [up_ne (Ne.symm hne)] at hx2
   exact (hk i2 x2 (Ne.symm hne) hx2 k hb2).2 hb
  ·rw [up_ne hi] at hx
   by_cases hi2:i2=j
   ·subst hi2
    rw [up_same] at hx2
    cases hx2
    exact (hk i x hi hx k hb).2 hb2
   ·rw [up_ne hi2] at hx2
    exact h.ap i i2 x x2 hne hx hx2 k hb hb2
theorem Ap.app {j n':Nat} {x:Ent} {v':Value} {xs':List Value} (h:Ap w pb E) (hx:E j=some x) (hg:w.grownBy w' x.v.ownBlock) (ho:w'.ownsRow x.base x.T x.sz v' n' xs') (hb:v'.ownBlock=x.v.ownBlock\/v'.ownBlock=some w.heap.size):Ap w' pb (up E j (some ⟨x.base,x.T,x.sz,v',n',xs'⟩)):=
 h.turn ⟨(h.ow j x hx).1,ho⟩ fun i y hi hy k hk=>by
  have h1:=(World.ownsRow.lt (h.ow i y hy).2 k hk).2
  have h2:some k ≠ x.v.ownBlock:=fun e=>h.ap i j y x hi hy hx k hk e.symm
  refine ⟨hg.block k h1 h2,fun e=>?_⟩
  have e':v'.ownBlock=some k:=e
  rcases hb with hb | hb
  ·exact h2 (e'.symm.trans hb)
  ·rw [e'] at hb
   have:=Option.some.inj hb
   omega
theorem Ap.keep (h:Ap w pb E) (hk:∀ j x,E j=some x->∀ k,x.v.ownBlock=some k->w'.heap[k]?=w.heap[k]?):Ap w' pb E:=
 ⟨fun j x hx=>⟨(h.ow j x hx).1,own_kb (h.ow j x hx).2 (hk j x hx)⟩,h.ap⟩
theorem Ap.below (h:Ap w pb E) (hb:Below w.heap.size w w'):Ap w' pb E:=
 h.keep fun j x hx k hk=>hb.block k (World.ownsRow.lt (h.ow j x hx).2 k hk).2
end
section
variable {P:Program} {ops:Array Oper} {Q:Exit->Act->World->Prop} {md:Region.Mode} {S:World->Prop}
theorem ready_ne {l:Array Bool} (i:Nat) (hi:i < ops.size) (h:(!l.getD i true && ((ops[i]?).map (·.after.all fun e=>!Region.binds md e || l.getD e.on false)).getD false)=true):Region.ready md ops l ≠ []:=fun e=>by
 have h2:i ∈ Region.ready md ops l:=List.mem_filter.2 ⟨List.mem_range.2 hi,h⟩
 rw [e] at h2
 cases h2
theorem ready_on {l:Array Bool} {i:Nat} (h:i ∈ Region.ready md ops l):l.getD i true=false/\∀ e ∈ ((ops[i]?).map (·.after.toList)).getD [],Region.binds md e=true->l.getD e.on false=true:=by
 obtain ⟨h1,o,ho,h2⟩:=mem_ready.1 h
 refine ⟨h1,fun e he hb=>h2 e ?_ hb⟩
 rw [ho] at he
 exact Array.mem_toList_iff.1 he
theorem held_bc (L:(Nat->Bool)->(Nat->Bool)->Array Bool) (cnt:(Nat->Bool)->(Nat->Bool)->Nat) (I:(Nat->Bool)->(Nat->Bool)->Act->World->Prop) (f0:Nat)
  (hend:∀ b c a w,cnt b c=0->I b c a w->wpAnyH P md ops Q S f0 (L b c) a w)
  (hne:∀ b c,cnt b c ≠ 0->Region.ready md ops (L b c) ≠ [])
  (hstep:∀ b c a w i,cnt b c ≠ 0->I b c a w->i ∈ Region.ready md ops (L b c)->∃ b' c',L b' c'=(L b c).setIfInBounds i true/\cnt b' c'+1=cnt b c/\wpOp P ops Q i (fun a' w'=>S w'/\I b' c' a' w') a w):
  ∀ n b c a w,cnt b c=n->I b c a w->wpAnyH P md ops Q S (n+f0) (L b c) a w:=by
 intro n
 induction n with
 | zero=>
  intro b c a w hc hI
  rw [Nat.zero_add]
  exact hend b c a w hc hI
 | succ n ih=>
  intro b c a w hc hI
  rw [show n+1+f0=(n+f0)+1 by omega]
  refine wpAnyH_all rfl (hne b c (by omega)) fun i hi=>?_
  obtain ⟨b',c',h1,h2,h3⟩:=hstep b c a w i (by omega) hI hi
  rw [<-h1]
  exact wpOp_mono (fun a' w' h=>⟨h.1,ih b' c' a' w' (by omega) h.2⟩) h3
theorem held_go {b c:Nat->Bool} {n fuel:Nat} {listed:Array Bool} {a:Act} {w:World} (L:(Nat->Bool)->(Nat->Bool)->Array Bool) (cnt:(Nat->Bool)->(Nat->Bool)->Nat) (I:(Nat->Bool)->(Nat->Bool)->Act->World->Prop) (f0:Nat)
  (hl:listed=L b c) (hc:cnt b c=n) (hf:fuel=n+f0) (hI:I b c a w)
  (hend:∀ b c a w,cnt b c=0->I b c a w->wpAnyH P md ops Q S f0 (L b c) a w)
  (hne:∀ b c,cnt b c ≠ 0->Region.ready md ops (L b c) ≠ [])
  (hstep:∀ b c a w i,cnt b c ≠ 0->I b c a w->i ∈ Region.ready md ops (L b c)->∃ b' c',L b' c'=(L b c).setIfInBounds i true/\cnt b' c'+1=cnt b c/\wpOp P ops Q i (fun a' w'=>S w'/\I b' c' a' w') a w):wpAnyH P md ops Q S fuel listed a w:=by
 subst hl
 subst hf
 exact held_bc L cnt I f0 hend hne hstep n b c a w hc hI
theorem held_from {b c:Nat->Bool} {n fuel:Nat} {listed:Array Bool} {a0:Act} {w:World} (L:(Nat->Bool)->(Nat->Bool)->Array Bool) (cnt:(Nat->Bool)->(Nat->Bool)->Nat) (I:Act->(Nat->Bool)->(Nat->Bool)->Act->World->Prop) (f0:Nat)
  (hl:listed=L b c) (hc:cnt b c=n) (hf:fuel=n+f0) (hI:I a0 b c a0 w)
  (hend:∀ b c a w,cnt b c=0->I a0 b c a w->wpAnyH P md ops Q S f0 (L b c) a w)
  (hne:∀ b c,cnt b c ≠ 0->Region.ready md ops (L b c) ≠ [])
  (hstep:∀ b c a w i,cnt b c ≠ 0->I a0 b c a w->i ∈ Region.ready md ops (L b c)->∃ b' c',L b' c'=(L b c).setIfInBounds i true/\cnt b' c'+1=cnt b c/\wpOp P ops Q i (fun a' w'=>S w'/\I a0 b' c' a' w') a w):wpAnyH P md ops Q S fuel listed a0 w:=
 held_go L cnt (I a0) f0 hl hc hf hI hend hne hstep
theorem step_store {w:World} {o:Oper} {a:Act} {K:Act->World->Prop} {F:Prop} (hgd:o.guard=none) (ty:TypeId) (x y:Operand) (ho:o.op=.store ty x y)
  (g:Nat) (cells:Array Value) (hx:a.eval x=.pointer (some ⟨g,0,none⟩)) (hy:a.eval y=.agg cells)
  (t:TypeId) (old:Array Value) (hg:w.heap[g]?=some (.cells old t (0,0))) (hi:(P.info? ty).map (·.size)=some cells.size)
  (hold:old.size=cells.size) (h1:cells.all (·.oneCell')=true)
  (h:K (a.put o.dst undef) (w.setRow g cells)):if Region.wanted o (yielded ops a.tmps)=true then Oper.wp P o a w K Q else F:=by
 have hw:Region.wanted o (yielded ops a.tmps)=true:=by simp [Region.wanted,hgd]
 rw [if_pos hw]
 exact wp_store_row ty x y ho g cells hx hy t old hg hi hold h1 h
end
end Go.Proofs.YtfgpbdieaflclaaGreat.Nm.Ty
