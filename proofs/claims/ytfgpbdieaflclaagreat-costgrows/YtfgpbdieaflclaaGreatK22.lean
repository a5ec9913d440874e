import Derived.Test.YtfgpbdieaflclaaGreatK21
import Derived.Test.YtfgpbdieaflclaaGreatK17
set_option maxHeartbeats 3200000
set_option maxRecDepth 100000
namespace Go.Proofs.YtfgpbdieaflclaaGreat.Nm
open Go.RowKit Go.Maps Sp Lx Gr
def unn (x:Rz):Rz:=if x.kind=27 then x else { x with n:=0 }
def unK (l:List Rz):Nat->List Rz
 | 0=>l
 | k+1=>if (rat (unK l k) k).kind=27 then unK l k else (unK l k).set k { rat (unK l k) k with n:=0 }
theorem unK_len (l:List Rz) (k:Nat):(unK l k).length=l.length:=by
 induction k with
 | zero=>rfl
 | succ k ih=>
  simp only [unK]
  split
  ·exact ih
  ·rw [List.length_set];exact ih
theorem unK_at (l:List Rz) (k i:Nat):(unK l k)[i]?=if i < k then (l[i]?).map unn else l[i]?:=by
 induction k generalizing i with
 | zero=>simp [unK]
 | succ k ih=>
  have hk:=ih k
  rw [if_neg (Nat.lt_irrefl k)] at hk
  have hr:k < l.length->rat (unK l k) k=rat l k:=fun hl=>by
   have h1:=some_rat (l:=unK l k) (i:=k) (by rw [unK_len];exact hl)
   rw [hk,some_rat hl] at h1
   exact (Option.some.inj h1).symm
  simp only [unK]
  by_cases hl:k < l.length
  ·rw [hr hl]
   by_cases hi:i=k
   ·subst hi
    rw [if_pos (Nat.lt_succ_self _),some_rat hl]
    split
    ·rename_i h27
     rw [hk,some_rat hl]
     show some (rat l i)=some (unn (rat l i))
     unfold unn
     rw [if_pos h27]
    ·rename_i h27
     rw [List.getElem?_set,if_pos rfl,if_pos (by rw [unK_len];exact hl)]
     simp only [Option.map_some,unn,if_neg h27]
   ·have h1:(i < k+1)=(i < k):=by apply propext;omega
    split
    ·rw [ih i];simp only [h1]
    ·rw [List.getElem?_set,if_neg (fun e=>hi e.symm),ih i];simp only [h1]
  ·have hset:∀ x:Rz,(unK l k).set k x=unK l k:=fun x=>List.set_eq_of_length_le (by rw [unK_len];omega)
   rw [hset,ite_self,ih i]
   by_cases hi:i < k
   ·rw [if_pos hi,if_pos (by omega)]
   ·rw [if_neg hi,List.getElem?_eq_none (by omega)]
    split<;>rfl
theorem unK_all (l:List Rz):unK l l.length=l.map unn:=by
 refine List.ext_getElem? fun i=>?_
 rw [unK_at,List.getElem?_map]
 split
 ·rfl
 ·rw [List.getElem?_eq_none (by omega)];rfl
theorem unnamed_any {w:World} {a:Addr} {l:List Rz} {cap:Nat} (h:IsRz w (some a) l) (hl:l.length<=2932031007317):
  Calls Tryz.prog 36 #[.slice (some a) l.length cap] w fun e w'=>∃ rb rc,e=.returned (.slice (some ⟨rb,0,none⟩) l.length rc)/\Rw w' rb (l.map unn)/\Below w.heap.size w w':=by
 have HC:=hdn <| clone_rows w a cap l h hl
 have hl2:(l.length:Int)<=2932031007317:=by omega
 have HM:Hid (unK l l.length=l.map unn):=unK_all l
 clear h hl
 go_enter Tryz.func36,Tryz.ntmps36
 go_wp2_with fail
 refine Calls.mono HC.out ?_
 rintro e w1 ⟨rb,rc,rfl,hrw,hrb,hb1⟩
 have H0:Hid (Rw w1 rb (unK l 0)/\w.heap.size<=rb/\Below w.heap.size w w1):=⟨hrw,hrb,hb1⟩
 clear hrw hrb hb1 HC
 go_wp2_with fail
 go_loopg [9] l.length (fun gq x wr=>∃ k:Nat,k+gq=l.length/\x=.int .i64 (k:Int)/\Rw wr rb (unK l k)/\Below w.heap.size w wr)
 case atStart=>exact ⟨0,by omega,rfl,H0.out.1,H0.out.2.2⟩
 case round=>
  obtain ⟨k,hkg,rfl,hR,hbw⟩:=hrel
  have HG:Hid (k+gk=l.length/\Rw wr rb (unK l k)/\Below w.heap.size w wr):=⟨hkg,hR,hbw⟩
  by_cases hlt:k < l.length
  ·have hk':(k:Int) < (l.length:Int):=by omega
   have hk2:(k:Int)<=2932031007317:=by omega
   have hx:=some_rat (l:=unK l k) (i:=k) (by rw [unK_len];exact hlt)
   obtain ⟨d0,d1,d2,d3,d4,fz⟩:=hR.cells hx
   have fz3:=fz (k * 5+3)
   have HU:Hid (unK l (k+1)=if (rat (unK l k) k).kind=27 then unK l k else (unK l k).set k { rat (unK l k) k with n:=0 }):=rfl
   have HS:Hid (Rw (wr.setCell ⟨rb,k * 5+3,none⟩ (.int .i64 0)) rb ((unK l k).set k { rat (unK l k) k with n:=0 })/\Below w.heap.size w (wr.setCell ⟨rb,k * 5+3,none⟩ (.int .i64 0))):=⟨hR.setN hx 0,below_set hbw H0.out.2.1 _ _⟩
   have HLt:Hid (k < l.length):=hlt
   clear hkg hlt hbw hR hx fz
   generalize rat (unK l k) k=x at *
   obtain ⟨kd,nm,st,n,ks⟩:=x
   dsimp only at *
   by_cases h27:kd=27
   ·have h27':(kd != 27)=false:=by simp [h27]
    rw [if_pos h27] at HU
    clear h27
    go_wp2_with fail
    go_roundg (l.length - (k+1))
    case measure=>have:=HG.out.1;have:=HLt.out;omega
    case rel=>exact ⟨k+1,by have:=HLt.out;omega,by go_num,by rw [HU.out];exact HG.out.2.1,HG.out.2.2⟩
   ·have h27':(kd != 27)=true:=by simp [h27]
    rw [if_neg h27] at HU
    clear h27
    go_wp2_with fail
    go_roundg (l.length - (k+1))
    case measure=>have:=HG.out.1;have:=HLt.out;omega
    case rel=>exact ⟨k+1,by have:=HLt.out;omega,by go_num,by rw [HU.out];exact HS.out.1,HS.out.2⟩
  ·have hk':decide (k < l.length)=false:=decide_eq_false hlt
   have hke:k=l.length:=by omega
   have HE:Hid (Rw wr rb (l.map unn)):=by rw [hke,HM.out] at hR;exact hR
   clear hkg hlt hbw hR hke
   go_wp2
   go_ret
   exact ⟨rb,rc,rfl,HE.out,HG.out.2.2⟩
structure Rd (w:World) (p:Pl) (ao qo vo tto uo oo:Option Addr):Prop where
 r:IsRz w ao p.rows
 q:IsVals w qo (qF p.qs)
 v:IsVals w vo (p.vs.map Value.string)
 t:IsVals w tto (p.ts.map Value.string)
 u:IsVals w uo (iv (p.us.map fun n:Nat=>(n:Int)))
 o:IsVals w oo (iv p.on)
theorem Rd.below {w w':World} {p:Pl} {ao qo vo tto uo oo:Option Addr} (h:Rd w p ao qo vo tto uo oo) (hb:Below w.heap.size w w'):Rd w' p ao qo vo tto uo oo:=⟨h.r.below hb,h.q.below hb,h.v.below hb,h.t.below hb,h.u.below hb,h.o.below hb⟩
abbrev pv (p:Pl) (ao qo vo tto uo oo:Option Addr) (ac qc vc tc uc oc:Nat):Value:=.agg #[.string p.name,.slice ao p.rows.length ac,.slice qo p.qs.length qc,.slice vo p.vs.length vc,.slice tto p.ts.length tc,.slice uo p.us.length uc,.slice oo p.on.length oc,.int .i64 p.miss]
theorem IsPl.rd {w:World} {base:Nat} {v:Value} {p:Pl} (h:IsPl w base v p):∃ rb qo vo tto uo oo ac qc vc tc uc oc,v=pv p (some ⟨rb,0,none⟩) qo vo tto uo oo ac qc vc tc uc oc/\Rw w rb p.rows/\Rd w p (some ⟨rb,0,none⟩) qo vo tto uo oo/\IsNats w uo p.us/\p.us.length<=uc:=by
 obtain ⟨rb,cap,qv,vv,tv,uv,ov,rfl,_,hr,hq,hv,ht,hu,ho⟩:=h.ex
 obtain ⟨qo,qc,rfl⟩:=own_form hq
 obtain ⟨vo,vc,rfl⟩:=own_form hv
 obtain ⟨tto,tc,rfl⟩:=own_form ht
 obtain ⟨uo,uc,rfl⟩:=own_form hu
 obtain ⟨oo,oc,rfl⟩:=own_form ho
 refine ⟨rb,qo,vo,tto,uo,oo,cap,qc,vc,tc,uc,oc,rfl,hr,⟨hr.rz,vals_of hq,vals_of hv,vals_of ht,?_,vals_of ho⟩,nats_of hu⟩
 have:=vals_of hu
 simpa [iv,nv,List.map_map,Function.comp_def] using this
end Go.Proofs.YtfgpbdieaflclaaGreat.Nm
