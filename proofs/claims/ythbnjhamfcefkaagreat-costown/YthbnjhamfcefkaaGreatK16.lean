import Derived.Test.YthbnjhamfcefkaaGreatK15
set_option maxHeartbeats 6400000
set_option maxRecDepth 100000
namespace Go.Proofs.YthbnjhamfcefkaaGreat.Nm
open Go.RowKit Go.Maps Sp Lx Gr
def IsVals (w:World) (ao:Option Addr) (xs:List Value):Prop:=∀ (k:Nat) (x:Value),xs[k]?=some x->∃ g o,ao=some ⟨g,o,none⟩/\g < w.heap.size/\w.cell? ⟨g,o+k,none⟩=some x
theorem IsVals.below {w w':World} {ao:Option Addr} {xs:List Value} (h:IsVals w ao xs) (hb:Below w.heap.size w w'):IsVals w' ao xs:=fun k x hx=>by
 obtain ⟨g,o,e,hg,hc⟩:=h k x hx
 exact ⟨g,o,e,Nat.lt_of_lt_of_le hg hb.size,(hb.cell (p:=⟨g,o+k,none⟩) hg).trans hc⟩
theorem vals_of {w:World} {base n c sz m:Nat} {T:TypeId} {ao:Option Addr} {xs:List Value} (h:w.ownsRow base T sz (.slice ao n c) m xs):IsVals w ao xs:=by
 intro k x hx
 have hc:=h
 rcases h.2 with ⟨_,hz⟩ | ⟨g,cap,cur,e,h3,h4,_⟩
 ·have h1:=h.1
  rw [hz,Nat.zero_mul] at h1
  have:=(List.getElem?_eq_some_iff.1 hx).1
  omega
 ·cases e
  refine ⟨g,0,rfl,blk_lt h4,?_⟩
  have:=hc.cells (g:=g) rfl k x hx
  rw [Lib.addr_add] at this
  exact this
theorem qF_at (l:List (ByteArray × Bool)) (k:Nat) (hk:k < l.length):(qF l)[k * 2]?=some (.string l[k].1)/\(qF l)[k * 2+1]?=some (.bool l[k].2):=by
 induction l generalizing k with
 | nil=>simp at hk
 | cons x l ih=>
  cases k with
  | zero=>exact ⟨rfl,rfl⟩
  | succ k=>
   have:=ih k (by simpa using hk)
   have e:qF (x :: l)=.string x.1 :: .bool x.2 :: qF l:=rfl
   rw [e,show (k+1) * 2=k * 2+1+1 by omega]
   exact ⟨by simpa using this.1,by simpa using this.2⟩
theorem bytes_of {x y:ByteArray} (h:x.toList=y.toList):x=y:=by
 rw [ByteArray.toList_eq,ByteArray.toList_eq] at h
 cases x
 cases y
 simpa using h
theorem neq_queue {x y:ByteArray × Bool} (h:x ≠ y) (u:World):(binOp BinOp.neq 69 (.agg #[.string x.1,.bool x.2]) (.agg #[.string y.1,.bool y.2])).run Tryz.prog u=.ok (.bool true) u:=by
 go_simp
 intro e1 e2
 exact h (Prod.ext (bytes_of e1) e2)
theorem neq_row {x y:Rz} (h:x ≠ y) (u:World):(binOp BinOp.neq 51 (rv x) (rv y)).run Tryz.prog u=.ok (.bool true) u:=by
 unfold rv
 go_simp
 intro e1 e2 e3 e4 e5
 refine h ?_
 cases x
 cases y
 have:=bytes_of e2
 simp_all
theorem eqIntsG {w:World} {ao bo:Option Addr} {l m:List Int} {ca cb:Nat} (ha:IsVals w ao (iv l)) (hb:IsVals w bo (iv m)) (hn:l.length<=2932031007317):
  Calls Tryz.prog 64 #[.slice ao l.length ca,.slice bo m.length cb] w fun e w'=>(∃ b,e=.returned (.bool b)/\(b=true ↔ l=m))/\Below w.heap.size w w':=by
 by_cases hlen:l.length=m.length
 ·have HA:=hdn <| ha
  have HB:=hdn <| hb
  have HLn:=hdn <| hlen
  have hn2:(l.length:Int)<=2932031007317:=by omega
  have hne:((l.length:Int) != (l.length:Int))=false:=by simp
  rw [<-hlen]
  clear ha hb hlen
  go_enter Tryz.func64,Tryz.ntmps64
  go_wp2_with fail
  go_loopg [13] l.length (fun gq x wr=>∃ k:Nat,k+gq=l.length/\x=.int .i64 (k:Int)/\l.take k=m.take k/\Below w.heap.size w wr)
  case atStart=>exact ⟨0,by omega,rfl,rfl,Below.refl _ _⟩
  case round=>
   obtain ⟨k,hkg,rfl,htk,hbw⟩:=hrel
   have HG:Hid (k+gk=l.length/\Below w.heap.size w wr/\l.take k=m.take k):=⟨hkg,hbw,htk⟩
   by_cases hlt:k < l.length
   ·have hk':(k:Int) < (l.length:Int):=by omega
    have hk2:(k:Int)<=2932031007317:=by omega
    have hlm:k < m.length:=by have:=HLn.out;omega
    have hx:(iv l)[k]?=some (.int .i64 l[k]):=by rw [List.getElem?_map,List.getElem?_eq_getElem hlt];rfl
    have hy:(iv m)[k]?=some (.int .i64 m[k]):=by rw [List.getElem?_map,List.getElem?_eq_getElem hlm];rfl
    obtain ⟨g,o,rfl,_,d0⟩:=(IsVals.below HA.out hbw) k _ hx
    obtain ⟨g',o',rfl,_,e0⟩:=(IsVals.below HB.out hbw) k _ hy
    have HSame:Hid (l[k]=m[k]->l.take (k+1)=m.take (k+1)):=fun e=>by rw [List.take_add_one,List.take_add_one,HG.out.2.2,List.getElem?_eq_getElem hlt,List.getElem?_eq_getElem hlm,e]
    have HDiff:Hid (l[k] ≠ m[k]->l ≠ m):=fun e h=>e (by subst h;rfl)
    clear hx hy
    generalize l[k]=x at *
    generalize m[k]=y at *
    have HLt:Hid (k < l.length):=hlt
    clear hkg hlt hbw htk hlm
    by_cases hxy:x=y
    ·subst hxy
     have HS:Hid (l.take (k+1)=m.take (k+1)):=HSame.out rfl
     clear HSame HDiff
     have hq:(x != x)=false:=by simp
     go_wp2_with fail
     go_quiet (fail)
     go_wp2_with fail
     go_roundg (l.length - (k+1))
     case measure=>have:=HG.out.1;have:=HLt.out;omega
     case rel=>exact ⟨k+1,by have:=HLt.out;omega,by go_num,HS.out,HG.out.2.1.trans ((below_drewN _ _).mono HG.out.2.1.size)⟩
    ·have HD:Hid (l ≠ m):=HDiff.out hxy
     clear HSame HDiff
     have hq:(x != y)=true:=by simp [hxy]
     go_wp2_with fail
     go_quiet (fail)
     go_wp2
     go_ret
     exact ⟨⟨false,rfl,by simp [HD.out]⟩,HG.out.2.1.trans ((below_drewN _ _).mono HG.out.2.1.size)⟩
   ·have hk':decide (k < l.length)=false:=decide_eq_false hlt
    have HE:Hid (l=m):=by
     have hke:k=l.length:=by omega
     rw [hke,List.take_length,HLn.out,List.take_length] at htk
     exact htk
    clear hkg hlt hbw htk
    go_wp2
    go_ret
    exact ⟨⟨true,rfl,by simp [HE.out]⟩,HG.out.2.1⟩
 ·have hne:((l.length:Int) != (m.length:Int))=true:=by simp;omega
  have HD:Hid (l ≠ m):=fun e=>hlen (by rw [e])
  clear ha hb hlen hn
  go_enter Tryz.func64,Tryz.ntmps64
  go_wp2
  go_ret
  exact ⟨⟨false,rfl,by simp [HD.out]⟩,Below.refl _ _⟩
theorem eqStrsG {w:World} {ao bo:Option Addr} {l m:List ByteArray} {ca cb:Nat} (ha:IsVals w ao (l.map Value.string)) (hb:IsVals w bo (m.map Value.string)) (hn:l.length<=2932031007317):
  Calls Tryz.prog 63 #[.slice ao l.length ca,.slice bo m.length cb] w fun e w'=>(∃ b,e=.returned (.bool b)/\(b=true ↔ l=m))/\Below w.heap.size w w':=by
 by_cases hlen:l.length=m.length
 ·have HA:=hdn <| ha
  have HB:=hdn <| hb
  have HLn:=hdn <| hlen
  have hn2:(l.length:Int)<=2932031007317:=by omega
  have hne:((l.length:Int) != (l.length:Int))=false:=by simp
  rw [<-hlen]
  clear ha hb hlen
  go_enter Tryz.func63,Tryz.ntmps63
  go_wp2_with fail
  go_loopg [13] l.length (fun gq x wr=>∃ k:Nat,k+gq=l.length/\x=.int .i64 (k:Int)/\l.take k=m.take k/\Below w.heap.size w wr)
  case atStart=>exact ⟨0,by omega,rfl,rfl,Below.refl _ _⟩
  case round=>
   obtain ⟨k,hkg,rfl,htk,hbw⟩:=hrel
   have HG:Hid (k+gk=l.length/\Below w.heap.size w wr/\l.take k=m.take k):=⟨hkg,hbw,htk⟩
   by_cases hlt:k < l.length
   ·have hk':(k:Int) < (l.length:Int):=by omega
    have hk2:(k:Int)<=2932031007317:=by omega
    have hlm:k < m.length:=by have:=HLn.out;omega
    have hx:(l.map Value.string)[k]?=some (.string l[k]):=by rw [List.getElem?_map,List.getElem?_eq_getElem hlt];rfl
    have hy:(m.map Value.string)[k]?=some (.string m[k]):=by rw [List.getElem?_map,List.getElem?_eq_getElem hlm];rfl
    obtain ⟨g,o,rfl,_,d0⟩:=(IsVals.below HA.out hbw) k _ hx
    obtain ⟨g',o',rfl,_,e0⟩:=(IsVals.below HB.out hbw) k _ hy
    have HSame:Hid (l[k]=m[k]->l.take (k+1)=m.take (k+1)):=fun e=>by rw [List.take_add_one,List.take_add_one,HG.out.2.2,List.getElem?_eq_getElem hlt,List.getElem?_eq_getElem hlm,e]
    have HDiff:Hid (l[k] ≠ m[k]->l ≠ m):=fun e h=>e (by subst h;rfl)
    clear hx hy
    generalize l[k]=x at *
    generalize m[k]=y at *
    have HLt:Hid (k < l.length):=hlt
    clear hkg hlt hbw htk hlm
    by_cases hxy:x=y
    ·subst hxy
     have HS:Hid (l.take (k+1)=m.take (k+1)):=HSame.out rfl
     clear HSame HDiff
     have hq:(x.toList != x.toList)=false:=by simp
     go_wp2_with fail
     go_quiet (fail)
     go_wp2_with fail
     go_roundg (l.length - (k+1))
     case measure=>have:=HG.out.1;have:=HLt.out;omega
     case rel=>exact ⟨k+1,by have:=HLt.out;omega,by go_num,HS.out,HG.out.2.1.trans ((below_drewN _ _).mono HG.out.2.1.size)⟩
    ·have HD:Hid (l ≠ m):=HDiff.out hxy
     clear HSame HDiff
     have hq0:¬ x.toList=y.toList:=fun e=>hxy (bytes_of e)
     have hq1:(x.toList == y.toList)=false:=by simpa using hq0
     have hq:(x.toList != y.toList)=true:=by simpa using hq0
     go_wp2_with fail
     go_quiet (fail)
     go_wp2
     go_ret
     exact ⟨⟨false,rfl,by simp [HD.out]⟩,HG.out.2.1.trans ((below_drewN _ _).mono HG.out.2.1.size)⟩
   ·have hk':decide (k < l.length)=false:=decide_eq_false hlt
    have HE:Hid (l=m):=by
     have hke:k=l.length:=by omega
     rw [hke,List.take_length,HLn.out,List.take_length] at htk
     exact htk
    clear hkg hlt hbw htk
    go_wp2
    go_ret
    exact ⟨⟨true,rfl,by simp [HE.out]⟩,HG.out.2.1⟩
 ·have hne:((l.length:Int) != (m.length:Int))=true:=by simp;omega
  have HD:Hid (l ≠ m):=fun e=>hlen (by rw [e])
  clear ha hb hlen hn
  go_enter Tryz.func63,Tryz.ntmps63
  go_wp2
  go_ret
  exact ⟨⟨false,rfl,by simp [HD.out]⟩,Below.refl _ _⟩
theorem eqQsG {w:World} {ao bo:Option Addr} {l m:List (ByteArray × Bool)} {ca cb:Nat} (ha:IsVals w ao (qF l)) (hb:IsVals w bo (qF m)) (hn:l.length<=2932031007317):
  Calls Tryz.prog 62 #[.slice ao l.length ca,.slice bo m.length cb] w fun e w'=>(∃ b,e=.returned (.bool b)/\(b=true ↔ l=m))/\Below w.heap.size w w':=by
 by_cases hlen:l.length=m.length
 ·have HA:=hdn <| ha
  have HB:=hdn <| hb
  have HLn:=hdn <| hlen
  have hn2:(l.length:Int)<=2932031007317:=by omega
  have hne:((l.length:Int) != (l.length:Int))=false:=by simp
  rw [<-hlen]
  clear ha hb hlen
  go_enter Tryz.func62,Tryz.ntmps62
  go_wp2_with fail
  go_loopg [13] l.length (fun gq x wr=>∃ k:Nat,k+gq=l.length/\x=.int .i64 (k:Int)/\l.take k=m.take k/\Below w.heap.size w wr)
  case atStart=>exact ⟨0,by omega,rfl,rfl,Below.refl _ _⟩
  case round=>
   obtain ⟨k,hkg,rfl,htk,hbw⟩:=hrel
   have HG:Hid (k+gk=l.length/\Below w.heap.size w wr/\l.take k=m.take k):=⟨hkg,hbw,htk⟩
   by_cases hlt:k < l.length
   ·have hk':(k:Int) < (l.length:Int):=by omega
    have hk2:(k:Int)<=2932031007317:=by omega
    have hlm:k < m.length:=by have:=HLn.out;omega
    obtain ⟨hx,hx2⟩:=qF_at l k hlt
    obtain ⟨hy,hy2⟩:=qF_at m k hlm
    obtain ⟨g,o,rfl,_,d0⟩:=(IsVals.below HA.out hbw) _ _ hx
    obtain ⟨g',o',rfl,_,e0⟩:=(IsVals.below HB.out hbw) _ _ hy
    obtain ⟨g2,o2,he2,_,d1⟩:=(IsVals.below HA.out hbw) _ _ hx2
    cases he2
    obtain ⟨g3,o3,he3,_,e1⟩:=(IsVals.below HB.out hbw) _ _ hy2
    cases he3
    rw [<-Nat.add_assoc] at d1 e1
    have HSame:Hid (l[k]=m[k]->l.take (k+1)=m.take (k+1)):=fun e=>by rw [List.take_add_one,List.take_add_one,HG.out.2.2,List.getElem?_eq_getElem hlt,List.getElem?_eq_getElem hlm,e]
    have HDiff:Hid (l[k] ≠ m[k]->l ≠ m):=fun e h=>e (by subst h;rfl)
    clear hx hy hx2 hy2
    generalize l[k]=x at *
    generalize m[k]=y at *
    have HLt:Hid (k < l.length):=hlt
    clear hkg hlt hbw htk hlm
    by_cases hxy:x=y
    ·subst hxy
     have HS:Hid (l.take (k+1)=m.take (k+1)):=HSame.out rfl
     clear HSame HDiff
     obtain ⟨x1,x2⟩:=x
     dsimp only at *
     go_wp2_with fail
     go_quiet (fail)
     go_wp2_with fail
     go_roundg (l.length - (k+1))
     case measure=>have:=HG.out.1;have:=HLt.out;omega
     case rel=>exact ⟨k+1,by have:=HLt.out;omega,by go_num,HS.out,HG.out.2.1.trans ((below_drewN _ _).mono HG.out.2.1.size)⟩
    ·have HD:Hid (l ≠ m):=HDiff.out hxy
     clear HSame HDiff
     have hq:∀ u:World,(binOp BinOp.neq 69 (.agg #[.string x.1,.bool x.2]) (.agg #[.string y.1,.bool y.2])).run Tryz.prog u=.ok (.bool true) u:=fun u=>neq_queue hxy u
     obtain ⟨x1,x2⟩:=x
     obtain ⟨y1,y2⟩:=y
     dsimp only at *
     go_wp2_with fail
     go_quiet (fail)
     go_wp2
     go_ret
     exact ⟨⟨false,rfl,by simp [HD.out]⟩,HG.out.2.1.trans ((below_drewN _ _).mono HG.out.2.1.size)⟩
   ·have hk':decide (k < l.length)=false:=decide_eq_false hlt
    have HE:Hid (l=m):=by
     have hke:k=l.length:=by omega
     rw [hke,List.take_length,HLn.out,List.take_length] at htk
     exact htk
    clear hkg hlt hbw htk
    go_wp2
    go_ret
    exact ⟨⟨true,rfl,by simp [HE.out]⟩,HG.out.2.1⟩
 ·have hne:((l.length:Int) != (m.length:Int))=true:=by simp;omega
  have HD:Hid (l ≠ m):=fun e=>hlen (by rw [e])
  clear ha hb hlen hn
  go_enter Tryz.func62,Tryz.ntmps62
  go_wp2
  go_ret
  exact ⟨⟨false,rfl,by simp [HD.out]⟩,Below.refl _ _⟩
theorem eqRowsG {w:World} {ao bo:Option Addr} {l m:List Rz} {ca cb:Nat} (ha:IsRz w ao l) (hb:IsRz w bo m) (hn:l.length<=2932031007317):
  Calls Tryz.prog 61 #[.slice ao l.length ca,.slice bo m.length cb] w fun e w'=>(∃ b,e=.returned (.bool b)/\(b=true ↔ l=m))/\Below w.heap.size w w':=by
 by_cases hlen:l.length=m.length
 ·have HA:=hdn <| ha
  have HB:=hdn <| hb
  have HLn:=hdn <| hlen
  have hn2:(l.length:Int)<=2932031007317:=by omega
  have hne:((l.length:Int) != (l.length:Int))=false:=by simp
  rw [<-hlen]
  clear ha hb hlen
  go_enter Tryz.func61,Tryz.ntmps61
  go_wp2_with fail
  go_loopg [13] l.length (fun gq x wr=>∃ k:Nat,k+gq=l.length/\x=.int .i64 (k:Int)/\l.take k=m.take k/\Below w.heap.size w wr)
  case atStart=>exact ⟨0,by omega,rfl,rfl,Below.refl _ _⟩
  case round=>
   obtain ⟨k,hkg,rfl,htk,hbw⟩:=hrel
   have HG:Hid (k+gk=l.length/\Below w.heap.size w wr/\l.take k=m.take k):=⟨hkg,hbw,htk⟩
   by_cases hlt:k < l.length
   ·have hk':(k:Int) < (l.length:Int):=by omega
    have hk2:(k:Int)<=2932031007317:=by omega
    have hlm:k < m.length:=by have:=HLn.out;omega
    have hx:=List.getElem?_eq_getElem hlt
    have hy:=List.getElem?_eq_getElem hlm
    obtain ⟨g,o,rfl,_,d0,d1,d2,d3,d4⟩:=(IsRz.below HA.out hbw) k _ hx
    obtain ⟨g',o',rfl,_,e0,e1,e2,e3,e4⟩:=(IsRz.below HB.out hbw) k _ hy
    have HSame:Hid (l[k]=m[k]->l.take (k+1)=m.take (k+1)):=fun e=>by rw [List.take_add_one,List.take_add_one,HG.out.2.2,List.getElem?_eq_getElem hlt,List.getElem?_eq_getElem hlm,e]
    have HDiff:Hid (l[k] ≠ m[k]->l ≠ m):=fun e h=>e (by subst h;rfl)
    clear hx hy
    generalize l[k]=x at *
    generalize m[k]=y at *
    have HLt:Hid (k < l.length):=hlt
    clear hkg hlt hbw htk hlm
    by_cases hxy:x=y
    ·subst hxy
     have HS:Hid (l.take (k+1)=m.take (k+1)):=HSame.out rfl
     clear HSame HDiff
     obtain ⟨kd,nm,st,n,ks⟩:=x
     dsimp only at *
     go_wp2_with fail
     go_quiet (fail)
     go_wp2_with fail
     go_roundg (l.length - (k+1))
     case measure=>have:=HG.out.1;have:=HLt.out;omega
     case rel=>exact ⟨k+1,by have:=HLt.out;omega,by go_num,HS.out,HG.out.2.1.trans ((below_drewN _ _).mono HG.out.2.1.size)⟩
    ·have HD:Hid (l ≠ m):=HDiff.out hxy
     clear HSame HDiff
     have hq:∀ u:World,(binOp BinOp.neq 51 (rv x) (rv y)).run Tryz.prog u=.ok (.bool true) u:=fun u=>neq_row hxy u
     obtain ⟨kd,nm,st,n,ks⟩:=x
     obtain ⟨kd',nm',st',n',ks'⟩:=y
     dsimp only at *
     go_wp2_with fail
     go_quiet (fail)
     go_wp2
     go_ret
     exact ⟨⟨false,rfl,by simp [HD.out]⟩,HG.out.2.1.trans ((below_drewN _ _).mono HG.out.2.1.size)⟩
   ·have hk':decide (k < l.length)=false:=decide_eq_false hlt
    have HE:Hid (l=m):=by
     have hke:k=l.length:=by omega
     rw [hke,List.take_length,HLn.out,List.take_length] at htk
     exact htk
    clear hkg hlt hbw htk
    go_wp2
    go_ret
    exact ⟨⟨true,rfl,by simp [HE.out]⟩,HG.out.2.1⟩
 ·have hne:((l.length:Int) != (m.length:Int))=true:=by simp;omega
  have HD:Hid (l ≠ m):=fun e=>hlen (by rw [e])
  clear ha hb hlen hn
  go_enter Tryz.func61,Tryz.ntmps61
  go_wp2
  go_ret
  exact ⟨⟨false,rfl,by simp [HD.out]⟩,Below.refl _ _⟩
end Go.Proofs.YthbnjhamfcefkaaGreat.Nm
