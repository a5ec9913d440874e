import Derived.Test.YthbnjhamfcefkaaGreatK44
import Derived.Test.YthbnjhamfcefkaaGreatK39
set_option maxHeartbeats 6400000
set_option maxRecDepth 100000
namespace Go.Proofs.YthbnjhamfcefkaaGreat.Nm
open Go.RowKit Go.Maps Sp Lx Gr
theorem costs2 {wq:World} {B:Nat} {v0 v1:Value} {T:TypeId} (h:wq.heap[B]?=some (.cells #[v0,v1] T (0,0))):wq.cell? ⟨B,0,none⟩=some v0/\wq.cell? ⟨B,1,none⟩=some v1:=by
 refine ⟨?_,?_⟩
 all_goals
  simp only [World.cell?,h]
  rfl
theorem same10 {w:World} {ao bo:Option Addr} {l:List Int} {ca cb:Nat} {m:Int} (ha:IsVals w ao (iv l)) (hb:IsVals w bo (iv l)) (hn:l.length<=17592186043904):
  Calls Tryz.prog 10 #[.agg #[.slice ao l.length ca,.int .i64 m],.agg #[.slice bo l.length cb,.int .i64 m]] w fun e w'=>e=.returned (.bool true)/\Below w.heap.size w w':=by
 have hbB:Below w.heap.size w ((w.alloc (.cells #[.slice ao l.length ca,.int .i64 m] 40)).alloc (.cells #[.slice bo l.length cb,.int .i64 m] 40)):=(bAl w _).alloc (by simp) _
 have hp:((w.alloc (.cells #[.slice ao l.length ca,.int .i64 m] 40)).alloc (.cells #[.slice bo l.length cb,.int .i64 m] 40)).heap[w.heap.size]?=some (.cells #[.slice ao l.length ca,.int .i64 m] 40 (0,0)):=by rw [alloc_old _ _ _ (by simp)];exact alloc_at _ _ _ rfl
 have ht:((w.alloc (.cells #[.slice ao l.length ca,.int .i64 m] 40)).alloc (.cells #[.slice bo l.length cb,.int .i64 m] 40)).heap[w.heap.size+1]?=some (.cells #[.slice bo l.length cb,.int .i64 m] 40 (0,0)):=alloc_at _ _ _ (by simp)
 have HS:Hid (Calls Tryz.prog 31 #[.slice ao l.length ca,.slice bo l.length cb] ((w.alloc (.cells #[.slice ao l.length ca,.int .i64 m] 40)).alloc (.cells #[.slice bo l.length cb,.int .i64 m] 40)) fun e w'=>e=.returned (.bool true)/\Below w.heap.size w w'):=Calls.mono (rSameIntsJ (IsVals.below ha hbB) (IsVals.below hb hbB) hn) (fun e w' ⟨⟨b,he,hb⟩,hw⟩=>⟨by rw [he,hb.2 rfl],hbB.trans (hw.mono hbB.size)⟩)
 obtain ⟨a0,a1⟩:=costs2 hp
 obtain ⟨b0,b1⟩:=costs2 ht
 clear ha hb hn hbB hp ht
 go_enter Tryz.func10,Tryz.ntmps10
 go_wp2_with fail
 refine Calls.mono HS.out ?_
 rintro e w3 ⟨rfl,hb3⟩
 have HB:=hdn <| hb3
 clear hb3 a0 a1 b0 b1 HS
 go_wp2
 go_ret
 exact ⟨rfl,HB.out⟩
def lpN (l:List Rz) (i:Nat):Nat:=(l.take i).countP (fun r=>r.kind == 13)
def rdv (l:List Rz) (rl:List Int) (j:Nat):Int:=if (rat l j).kind=13 then rl.getD (lpN l j % rl.length) 0 else 0
theorem lp_zero (l:List Rz):lpN l 0=0:=by simp [lpN]
theorem lp_step {l:List Rz} {i:Nat} (h:i < l.length):lpN l (i+1)=lpN l i+if (rat l i).kind=13 then 1 else 0:=by
 have e:=some_rat h
 have e2:l.take (i+1)=l.take i++[rat l i]:=by rw [List.take_add_one,e];rfl
 unfold lpN
 rw [e2,List.countP_append]
 congr 1
 simp
theorem lp_le (l:List Rz) (i:Nat):lpN l i<=l.length:=by
 unfold lpN
 exact Nat.le_trans List.countP_le_length (by first | (simp;done) | (simp;omega))
theorem rdv_nil (l:List Rz) (j:Nat):rdv l [] j=0:=by simp [rdv]
theorem row_kind {w:World} {ao:Option Addr} {l:List Rz} (h:IsRz w ao l) {k:Nat} (hk:k < l.length):∃ g o,ao=some ⟨g,o,none⟩/\g < w.heap.size/\w.cell? ⟨g,o+k * 5,none⟩=some (.int .i64 (rat l k).kind):=by
 obtain ⟨g,o,e,hg,c0,_⟩:=h k _ (some_rat hk)
 exact ⟨g,o,e,hg,c0⟩
theorem rdv_cell {w:World} {eo:Option Addr} {rl:List Int} (h:IsVals w eo (iv rl)) (c:Nat) (h0:0 < rl.length):∃ g o,eo=some ⟨g,o,none⟩/\g < w.heap.size/\w.cell? ⟨g,o+c % rl.length,none⟩=some (.int .i64 (rl.getD (c % rl.length) 0)):=by
 have hlt:=Nat.mod_lt c h0
 refine h (c % rl.length) _ ?_
 simp [iv,List.getD,hlt]
theorem rounds_any {P:Pg} {ao qo vo tto uo oo:Option Addr} {ac qc vc tc uc oc:Nat} {rl:List Int} {eo:Option Addr} {ec:Nat} {w:World} (h:IsRz w ao P.rows) (hr:IsVals w eo (iv rl)) (hn:P.rows.length<=65536) (hR:rl.length<=1152921504606846975):
  Calls Tryz.prog 5 #[pvG P ao qo vo tto uo oo ac qc vc tc uc oc,.slice eo rl.length ec] w fun e w'=>∃ g,e=.returned (.agg #[.slice none 0 0,.slice none 0 0,.slice (some ⟨g,0,none⟩) P.rows.length P.rows.length])/\w.heap.size<=g/\RowI w' g P.rows.length (rdv P.rows rl)/\Below w.heap.size w w':=by
 obtain ⟨M,hmk,hM⟩:=mk_ints P.rows.length (by omega)
 have HI:Hid (IsRz w ao P.rows):=h
 have HV:Hid (IsVals w eo (iv rl)):=hr
 have hln:(P.rows.length:Int)<=65536:=by omega
 have hlr:(rl.length:Int)<=1152921504606846975:=by omega
 have H0:Hid (RowI ((((w.alloc (.cells #[.string P.name,.slice ao P.rows.length ac,.slice qo P.qs.length qc,.slice vo P.vs.length vc,.slice tto P.ts.length tc,.slice uo P.us.length uc,.slice oo P.on.length oc,.int .i64 P.miss] 29)).alloc (.cells #[.slice none 0 0,.slice none 0 0,.slice none 0 0] 37)).alloc (.cells M 3)).alloc (.cells #[.slice none 0 0,.slice none 0 0,.slice (some ⟨w.heap.size+1+1,0,none⟩) P.rows.length P.rows.length] 37)) (w.heap.size+1+1) P.rows.length (fun _=>0)/\((((w.alloc (.cells #[.string P.name,.slice ao P.rows.length ac,.slice qo P.qs.length qc,.slice vo P.vs.length vc,.slice tto P.ts.length tc,.slice uo P.us.length uc,.slice oo P.on.length oc,.int .i64 P.miss] 29)).alloc (.cells #[.slice none 0 0,.slice none 0 0,.slice none 0 0] 37)).alloc (.cells M 3)).alloc (.cells #[.slice none 0 0,.slice none 0 0,.slice (some ⟨w.heap.size+1+1,0,none⟩) P.rows.length P.rows.length] 37)).heap[w.heap.size]?=some (.cells #[.string P.name,.slice ao P.rows.length ac,.slice qo P.qs.length qc,.slice vo P.vs.length vc,.slice tto P.ts.length tc,.slice uo P.us.length uc,.slice oo P.on.length oc,.int .i64 P.miss] 29 (0,0))/\((((w.alloc (.cells #[.string P.name,.slice ao P.rows.length ac,.slice qo P.qs.length qc,.slice vo P.vs.length vc,.slice tto P.ts.length tc,.slice uo P.us.length uc,.slice oo P.on.length oc,.int .i64 P.miss] 29)).alloc (.cells #[.slice none 0 0,.slice none 0 0,.slice none 0 0] 37)).alloc (.cells M 3)).alloc (.cells #[.slice none 0 0,.slice none 0 0,.slice (some ⟨w.heap.size+1+1,0,none⟩) P.rows.length P.rows.length] 37)).heap[w.heap.size+1]?=some (.cells #[.slice none 0 0,.slice none 0 0,.slice none 0 0] 37 (0,0))/\((((w.alloc (.cells #[.string P.name,.slice ao P.rows.length ac,.slice qo P.qs.length qc,.slice vo P.vs.length vc,.slice tto P.ts.length tc,.slice uo P.us.length uc,.slice oo P.on.length oc,.int .i64 P.miss] 29)).alloc (.cells #[.slice none 0 0,.slice none 0 0,.slice none 0 0] 37)).alloc (.cells M 3)).alloc (.cells #[.slice none 0 0,.slice none 0 0,.slice (some ⟨w.heap.size+1+1,0,none⟩) P.rows.length P.rows.length] 37)).heap[w.heap.size+1+1+1]?=some (.cells #[.slice none 0 0,.slice none 0 0,.slice (some ⟨w.heap.size+1+1,0,none⟩) P.rows.length P.rows.length] 37 (0,0))/\Below w.heap.size w ((((w.alloc (.cells #[.string P.name,.slice ao P.rows.length ac,.slice qo P.qs.length qc,.slice vo P.vs.length vc,.slice tto P.ts.length tc,.slice uo P.us.length uc,.slice oo P.on.length oc,.int .i64 P.miss] 29)).alloc (.cells #[.slice none 0 0,.slice none 0 0,.slice none 0 0] 37)).alloc (.cells M 3)).alloc (.cells #[.slice none 0 0,.slice none 0 0,.slice (some ⟨w.heap.size+1+1,0,none⟩) P.rows.length P.rows.length] 37))):=by
  have e2:=hM ((w.alloc (.cells #[.string P.name,.slice ao P.rows.length ac,.slice qo P.qs.length qc,.slice vo P.vs.length vc,.slice tto P.ts.length tc,.slice uo P.us.length uc,.slice oo P.on.length oc,.int .i64 P.miss] 29)).alloc (.cells #[.slice none 0 0,.slice none 0 0,.slice none 0 0] 37))
  have es:((w.alloc (.cells #[.string P.name,.slice ao P.rows.length ac,.slice qo P.qs.length qc,.slice vo P.vs.length vc,.slice tto P.ts.length tc,.slice uo P.us.length uc,.slice oo P.on.length oc,.int .i64 P.miss] 29)).alloc (.cells #[.slice none 0 0,.slice none 0 0,.slice none 0 0] 37)).heap.size=w.heap.size+1+1:=by simp
  rw [es] at e2
  refine ⟨e2.of_block (alloc_old _ _ _ (by simp)),?_,?_,?_,(((bAl w _).alloc (by simp) _).alloc (by first | (simp;done) | (simp;omega)) _).alloc (by first | (simp;done) | (simp;omega)) _⟩
  ·rw [alloc_old _ _ _ (by first | (simp;done) | (simp;omega)),alloc_old _ _ _ (by first | (simp;done) | (simp;omega)),alloc_old _ _ _ (by simp)]
   exact alloc_at _ _ _ rfl
  ·rw [alloc_old _ _ _ (by first | (simp;done) | (simp;omega)),alloc_old _ _ _ (by simp)]
   exact alloc_at _ _ _ (by simp)
  ·exact alloc_at _ _ _ (by simp)
 dsimp only [pvG]
 clear h hr hn hM
 go_enter Tryz.func5,Tryz.ntmps5
 go_wp2_with fail
 generalize ((((w.alloc (.cells #[.string P.name,.slice ao P.rows.length ac,.slice qo P.qs.length qc,.slice vo P.vs.length vc,.slice tto P.ts.length tc,.slice uo P.us.length uc,.slice oo P.on.length oc,.int .i64 P.miss] 29)).alloc (.cells #[.slice none 0 0,.slice none 0 0,.slice none 0 0] 37)).alloc (.cells M 3)).alloc (.cells #[.slice none 0 0,.slice none 0 0,.slice (some ⟨w.heap.size+1+1,0,none⟩) P.rows.length P.rows.length] 37))=W0 at *
 clear hmk
 go_loopg [6,7] P.rows.length (fun gq c i wr=>∃ m:Nat,m<=P.rows.length/\gq=P.rows.length - m/\c=.int .i64 (lpN P.rows m:Int)/\i=.int .i64 m/\RowI wr (w.heap.size+1+1) P.rows.length (fun i=>if i < m then rdv P.rows rl i else 0)/\wr.heap[w.heap.size]?=some (.cells #[.string P.name,.slice ao P.rows.length ac,.slice qo P.qs.length qc,.slice vo P.vs.length vc,.slice tto P.ts.length tc,.slice uo P.us.length uc,.slice oo P.on.length oc,.int .i64 P.miss] 29 (0,0))/\wr.heap[w.heap.size+1]?=some (.cells #[.slice none 0 0,.slice none 0 0,.slice none 0 0] 37 (0,0))/\wr.heap[w.heap.size+1+1+1]?=some (.cells #[.slice none 0 0,.slice none 0 0,.slice (some ⟨w.heap.size+1+1,0,none⟩) P.rows.length P.rows.length] 37 (0,0))/\Below w.heap.size w wr)
 case atStart=>exact ⟨0,Nat.zero_le _,rfl,by rw [lp_zero];go_num,by go_num,H0.out.1.ext fun i _=>(if_neg (Nat.not_lt_zero _)).symm,H0.out.2⟩
 case round=>
  obtain ⟨m,hm,hgk,rfl,rfl,hrel⟩:=hrel
  have HR:Hid (RowI wr (w.heap.size+1+1) P.rows.length (fun i=>if i < m then rdv P.rows rl i else 0)/\wr.heap[w.heap.size]?=some (.cells #[.string P.name,.slice ao P.rows.length ac,.slice qo P.qs.length qc,.slice vo P.vs.length vc,.slice tto P.ts.length tc,.slice uo P.us.length uc,.slice oo P.on.length oc,.int .i64 P.miss] 29 (0,0))/\wr.heap[w.heap.size+1]?=some (.cells #[.slice none 0 0,.slice none 0 0,.slice none 0 0] 37 (0,0))/\wr.heap[w.heap.size+1+1+1]?=some (.cells #[.slice none 0 0,.slice none 0 0,.slice (some ⟨w.heap.size+1+1,0,none⟩) P.rows.length P.rows.length] 37 (0,0))/\Below w.heap.size w wr):=hrel
  have HG:Hid (gk=P.rows.length - m):=hgk
  have hcl:(lpN P.rows m:Int)<=65536:=by have:=lp_le P.rows m;omega
  have hc0:(0:Int)<=(lpN P.rows m:Int):=by omega
  have HN:Hid (∀ y:Int,RowI (wr.setCell ⟨w.heap.size+1+1,m,none⟩ (.int .i64 y)) (w.heap.size+1+1) P.rows.length (fun i=>if i=m then y else if i < m then rdv P.rows rl i else 0)/\(wr.setCell ⟨w.heap.size+1+1,m,none⟩ (.int .i64 y)).heap[w.heap.size]?=some (.cells #[.string P.name,.slice ao P.rows.length ac,.slice qo P.qs.length qc,.slice vo P.vs.length vc,.slice tto P.ts.length tc,.slice uo P.us.length uc,.slice oo P.on.length oc,.int .i64 P.miss] 29 (0,0))/\(wr.setCell ⟨w.heap.size+1+1,m,none⟩ (.int .i64 y)).heap[w.heap.size+1]?=some (.cells #[.slice none 0 0,.slice none 0 0,.slice none 0 0] 37 (0,0))/\(wr.setCell ⟨w.heap.size+1+1,m,none⟩ (.int .i64 y)).heap[w.heap.size+1+1+1]?=some (.cells #[.slice none 0 0,.slice none 0 0,.slice (some ⟨w.heap.size+1+1,0,none⟩) P.rows.length P.rows.length] 37 (0,0))/\Below w.heap.size w (wr.setCell ⟨w.heap.size+1+1,m,none⟩ (.int .i64 y))):=by
   intro y
   refine ⟨HR.out.1.set m y,?_,?_,?_,HR.out.2.2.2.2.trans ((Below.refl w.heap.size wr).setCell (p:=⟨w.heap.size+1+1,m,none⟩) (by first | (simp;done) | (simp;omega)) _)⟩
   ·exact (Below.heap_setCell _ _ _ _ (by first | (simp;done) | (simp;omega))).trans HR.out.2.1
   ·exact (Below.heap_setCell _ _ _ _ (by simp)).trans HR.out.2.2.1
   ·exact (Below.heap_setCell _ _ _ _ (by first | (simp;done) | (simp;omega))).trans HR.out.2.2.2.1
  obtain ⟨k0,k1,k2,k3,k4,k5,k6,k7⟩:=pol8 HR.out.2.1
  obtain ⟨t0,t1,t2⟩:=cells3 HR.out.2.2.2.1
  clear hrel hgk
  by_cases hlt:m < P.rows.length/\0 < rl.length
  ·obtain ⟨hlt,hR0⟩:=hlt
   have hlt':(m:Int) < (P.rows.length:Int):=by omega
   have hR1:(0:Int) < (rl.length:Int):=by omega
   obtain ⟨g,o,rfl,hg,c0⟩:=row_kind (HI.out.below HR.out.2.2.2.2) hlt
   have HS:Hid (lpN P.rows (m+1)=lpN P.rows m+if (rat P.rows m).kind=13 then 1 else 0):=lp_step hlt
   by_cases hk:(rat P.rows m).kind=13
   ·have HS2:Hid (lpN P.rows (m+1)=lpN P.rows m+1):=by show _=_;rw [HS.out,if_pos hk]
    have HE:Hid (rdv P.rows rl m=rl.getD (lpN P.rows m % rl.length) 0):=if_pos hk
    obtain ⟨g2,o2,rfl,hg2,c2⟩:=rdv_cell (HV.out.below HR.out.2.2.2.2) (lpN P.rows m) hR0
    rw [hk] at c0
    have hmod:(lpN P.rows m:Int) % (rl.length:Int)=((lpN P.rows m % rl.length:Nat):Int):=(Int.natCast_emod _ _).symm
    have hml:((lpN P.rows m % rl.length:Nat):Int) < (rl.length:Int):=Int.ofNat_lt.2 (Nat.mod_lt (lpN P.rows m) hR0)
    have hnz:¬ (rl.length:Int)=0:=by omega
    have hnz':((rl.length:Int) == 0)=false:=beq_false_of_ne hnz
    generalize lpN P.rows m % rl.length=md at *
    generalize rl.getD md 0=y at *
    have hc:=HR.out.1.cell hlt
    have hf:=HR.out.1.frozen m
    generalize (if m < m then rdv P.rows rl m else 0)=y0 at hc
    clear hk
    go_wp2_with fail
    go_region
    go_wp2_with fail
    go_roundg (P.rows.length - (m+1))
    case measure=>have:=HG.out;omega
    case rel=>
     refine ⟨m+1,by omega,rfl,by rw [HS2.out];go_num,by go_num,(HN.out y).1.ext fun i _=>?_,(HN.out y).2.1,(HN.out y).2.2.1,(HN.out y).2.2.2.1,(HN.out y).2.2.2.2.drew⟩
     by_cases e:i=m
     ·subst e;rw [if_pos rfl,if_pos (by omega),HE.out]
     ·rw [if_neg e]
      by_cases e2:i < m
      ·rw [if_pos e2,if_pos (by omega)]
      ·rw [if_neg e2,if_neg (by omega)]
   ·have HS2:Hid (lpN P.rows (m+1)=lpN P.rows m):=by show _=_;rw [HS.out,if_neg hk];rfl
    have HE:Hid (rdv P.rows rl m=0):=if_neg hk
    generalize (rat P.rows m).kind=kd at *
    have hk':(kd == 13)=false:=by simp [hk]
    go_wp2_with fail
    go_roundg (P.rows.length - (m+1))
    case measure=>have:=HG.out;omega
    case rel=>
     refine ⟨m+1,by omega,rfl,by rw [HS2.out],by go_num,HR.out.1.ext fun i _=>?_,HR.out.2⟩
     by_cases e:i < m
     ·rw [if_pos e,if_pos (by omega)]
     ·rw [if_neg e]
      by_cases e2:i=m
      ·subst e2;rw [if_pos (by omega),HE.out]
      ·rw [if_neg (by omega)]
  ·have HD:Hid (∀ i,i < P.rows.length->(if i < m then rdv P.rows rl i else 0)=rdv P.rows rl i):=by
    intro i hi
    by_cases e:m < P.rows.length
    ·have e2:rl=[]:=by
      cases rl with
      | nil=>rfl
      | cons x xs=>exact absurd ⟨e,by simp⟩ hlt
     subst e2
     rw [rdv_nil]
     split<;>rfl
    ·rw [if_pos (by omega)]
   obtain ⟨f0,f1,f2⟩:=cells3 HR.out.2.2.1
   have hfz:∀ j,wr.frozen? ⟨w.heap.size+1,j,none⟩=false:=fun j=>by
    have:=HR.out.2.2.1
    simp only [World.frozen?,this]
    rfl
   by_cases e:m < P.rows.length
   ·have hlt':(m:Int) < (P.rows.length:Int):=by omega
    have hz:rl.length=0:=by omega
    rw [hz]
    clear hlt
    go_wp2_with fail
    obtain ⟨x1,x2,x3⟩:=put3L (B:=w.heap.size+1) (v0:=.slice none 0 0) (v1:=.slice none 0 0) (v2:=.slice (some ⟨w.heap.size+1+1,0,none⟩) P.rows.length P.rows.length) HR.out.2.2.2.2 (Nat.le_succ _) HR.out.2.2.1
    obtain ⟨y0,y1,y2⟩:=cells3 x1
    refine bodyPost_ret (v:=.agg #[.slice none 0 0,.slice none 0 0,.slice (some ⟨w.heap.size+1+1,0,none⟩) P.rows.length P.rows.length]) (by simp [results,Tryz.results5,go_sem,y0,y1,y2]) rfl ?_
    exact ⟨w.heap.size+1+1,rfl,by omega,(HR.out.1.ext HD.out).of_block (x3 _ (by omega)),x2⟩
   ·have hlt':¬ (m:Int) < (P.rows.length:Int):=by omega
    clear hlt
    go_wp2_with fail
    obtain ⟨x1,x2,x3⟩:=put3L (B:=w.heap.size+1) (v0:=.slice none 0 0) (v1:=.slice none 0 0) (v2:=.slice (some ⟨w.heap.size+1+1,0,none⟩) P.rows.length P.rows.length) HR.out.2.2.2.2 (Nat.le_succ _) HR.out.2.2.1
    obtain ⟨y0,y1,y2⟩:=cells3 x1
    refine bodyPost_ret (v:=.agg #[.slice none 0 0,.slice none 0 0,.slice (some ⟨w.heap.size+1+1,0,none⟩) P.rows.length P.rows.length]) (by simp [results,Tryz.results5,go_sem,y0,y1,y2]) rfl ?_
    exact ⟨w.heap.size+1+1,rfl,by omega,(HR.out.1.ext HD.out).of_block (x3 _ (by omega)),x2⟩
end Go.Proofs.YthbnjhamfcefkaaGreat.Nm
