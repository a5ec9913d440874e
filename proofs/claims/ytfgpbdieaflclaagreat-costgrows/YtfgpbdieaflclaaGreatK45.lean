import Derived.Test.YtfgpbdieaflclaaGreatK30
set_option maxHeartbeats 6400000
set_option maxRecDepth 100000
namespace Go.Proofs.YtfgpbdieaflclaaGreat.Nm
open Go.RowKit Go.Maps Sp Lx Gr
theorem rSameIntsJ {w:World} {ao bo:Option Addr} {l m:List Int} {ca cb:Nat} (ha:IsVals w ao (iv l)) (hb:IsVals w bo (iv m)) (hn:l.length<=17592186043904):
  Calls Tryz.prog 30 #[.slice ao l.length ca,.slice bo m.length cb] w fun e w'=>(∃ b,e=.returned (.bool b)/\(b=true ↔ l=m))/\Below w.heap.size w w':=by
 by_cases hlen:l.length=m.length
 ·have HA:=hdn <| ha
  have HB:=hdn <| hb
  have HLn:=hdn <| hlen
  have hn2:(l.length:Int)<=17592186043904:=by omega
  have hne:((l.length:Int) != (l.length:Int))=false:=by simp
  rw [<-hlen]
  clear ha hb hlen
  go_enter Tryz.func30,Tryz.ntmps30
  go_wp2_with fail
  go_loopg [5] l.length (fun gq x wr=>∃ k:Nat,k+gq=l.length/\x=.int .i64 (k:Int)/\l.take k=m.take k/\Below w.heap.size w wr)
  case atStart=>exact ⟨0,by omega,rfl,rfl,Below.refl _ _⟩
  case round=>
   obtain ⟨k,hkg,rfl,htk,hbw⟩:=hrel
   have HG:Hid (k+gk=l.length/\Below w.heap.size w wr/\l.take k=m.take k):=⟨hkg,hbw,htk⟩
   by_cases hlt:k < l.length
   ·have hk':(k:Int) < (l.length:Int):=by omega
    have hk2:(k:Int)<=17592186043904:=by omega
    have hlm:k < m.length:=by have:=HLn.out;omega
    have hx:(iv l)[k]?=some (.int .i64 l[k]):=by rw [List.getElem?_map,List.getElem?_eq_getElem hlt];rfl
    have hy:(iv m)[k]?=some (.int .i64 m[k]):=by rw [List.getElem?_map,List.getElem?_eq_getElem hlm];rfl
    obtain ⟨g,o,rfl,_,d0⟩:=(IsVals.below HA.out hbw) k _ hx
    obtain ⟨g',o',rfl,_,e0⟩:=(IsVals.below HB.out hbw) k _ hy
    have HSame:Hid (l[k]=m[k]->l.take (k+1)=m.take (k+1)):=fun e=>by rw [List.take_add_one,List.take_add_one,HG.out.2.2,List.getElem?_eq_getElem hlt,List.getElem?_eq_getElem hlm,e]
    have HDiff:Hid (l[k] ≠ m[k]->l ≠ m):=fun e h=>e (by subst h;rfl)
    clear hx hy
    generalize l[k]=x at *
    generalize m[k]=y at *
    have HLt:Hid (k < l.length):=hlt
    clear hkg hlt hbw htk hlm
    by_cases hxy:x=y
    ·subst hxy
     have HS:Hid (l.take (k+1)=m.take (k+1)):=HSame.out rfl
     clear HSame HDiff
     have hq:(x != x)=false:=by simp
     go_wp2_with fail
     go_quiet (fail)
     go_wp2_with fail
     go_roundg (l.length - (k+1))
     case measure=>have:=HG.out.1;have:=HLt.out;omega
     case rel=>exact ⟨k+1,by have:=HLt.out;omega,by go_num,HS.out,HG.out.2.1.trans ((below_drewN _ _).mono HG.out.2.1.size)⟩
    ·have HD:Hid (l ≠ m):=HDiff.out hxy
     clear HSame HDiff
     have hq:(x != y)=true:=by simp [hxy]
     go_wp2_with fail
     go_quiet (fail)
     go_wp2
     go_ret
     exact ⟨⟨false,rfl,by simp [HD.out]⟩,HG.out.2.1.trans ((below_drewN _ _).mono HG.out.2.1.size)⟩
   ·have hk':decide (k < l.length)=false:=decide_eq_false hlt
    have HE:Hid (l=m):=by
     have hke:k=l.length:=by omega
     rw [hke,List.take_length,HLn.out,List.take_length] at htk
     exact htk
    clear hkg hlt hbw htk
    go_wp2
    go_ret
    exact ⟨⟨true,rfl,by simp [HE.out]⟩,HG.out.2.1⟩
 ·have hne:((l.length:Int) != (m.length:Int))=true:=by simp;omega
  have HD:Hid (l ≠ m):=fun e=>hlen (by rw [e])
  clear ha hb hlen hn
  go_enter Tryz.func30,Tryz.ntmps30
  go_wp2
  go_ret
  exact ⟨⟨false,rfl,by simp [HD.out]⟩,Below.refl _ _⟩
end Go.Proofs.YtfgpbdieaflclaaGreat.Nm
set_option linter.unusedSimpArgs false
namespace Go.Proofs.YtfgpbdieaflclaaGreat.Nm.Ty
open Go.RowKit Go.Maps Sp Lx Gr Nm
theorem resP_few {l:List Rz} (hl:l.length<=65536):(resP l).Sm/\(resP l).qs.length<=100/\(resP l).vs.length<=100/\(resP l).ts.length<=100/\(resP l).us.length<=100/\(resP l).on.length<=100:=by
 unfold resP
 cases h:res l with
 | error ci=>exact ⟨⟨by simp [zeroG],by simp [zeroG],by simp [zeroG],by simp [zeroG],by simp [zeroG],by simp [zeroG]⟩,by simp [zeroG],by simp [zeroG],by simp [zeroG],by simp [zeroG],by simp [zeroG]⟩
 | ok p=>
  have hs:=(res_sm (by omega) h).1
  refine ⟨hs,?_⟩
  unfold res at h
  split at h
  ·cases h
  ·rename_i hc
   have hB:=base_of (chk_ok (by simpa using hc)).2
   unfold resR at h
   split at h
   ·cases h
   ·rename_i s hs
    have hg:=upto_good hB _ (Nat.le_refl _) hs
    split at h
    ·cases h
    ·cases h
     have:=hg.q
     have:=hg.v
     have:=hg.t
     have:=hg.u
     exact ⟨by show s.qs.length<=_;omega,by show s.vs.length<=_;omega,by show s.ts.length<=_;omega,by show (s.us.map _).length<=_;rw [List.length_map];omega,by show (onsOf _ _).length<=_;rw [onsOf_len];omega⟩
end Go.Proofs.YtfgpbdieaflclaaGreat.Nm.Ty
