import Derived.ProofKit
import Derived.OpenShut
import Derived.ShutString
import Derived.ChangeOld
import Derived.Below
import Derived.JoinedCond
import Derived.SizedLaws
import Derived.SliceStrings
import Derived.ChangeMaps5
import Derived.Test.YtfgpbdieaflclaaGreatK29
set_option maxHeartbeats 6400000
set_option maxRecDepth 100000
namespace Go.Proofs.YtfgpbdieaflclaaGreat.Gr
open Go.RowKit Sp Lx
def RowI (w:World) (g n:Nat) (f:Nat->Int):Prop:=w.heap[g]?=some (.cells ((List.range n).map (fun i=>Value.int .i64 (f i))).toArray 3 (0,0))
theorem RowI.lt {w:World} {g n:Nat} {f:Nat->Int} (h:RowI w g n f):g < w.heap.size:=(Array.getElem?_eq_some_iff.1 h).1
theorem RowI.cell {w:World} {g n:Nat} {f:Nat->Int} (h:RowI w g n f) {j:Nat} (hj:j < n):w.cell? ⟨g,j,none⟩=some (.int .i64 (f j)):=by
 rw [World.cell?,h]
 simp [hj]
theorem RowI.frozen {w:World} {g n:Nat} {f:Nat->Int} (h:RowI w g n f) (j:Nat):w.frozen? ⟨g,j,none⟩=false:=by
 rw [World.frozen?,h]
 simp
theorem RowI.ext {w:World} {g n:Nat} {f f':Nat->Int} (h:RowI w g n f) (e:∀ i,i < n->f i=f' i):RowI w g n f':=by
 have:(List.range n).map (fun i=>Value.int .i64 (f i))=(List.range n).map (fun i=>Value.int .i64 (f' i)):=by
  refine List.map_congr_left fun i hi=>?_
  rw [e i (List.mem_range.1 hi)]
 unfold RowI
 rw [<-this]
 exact h
theorem RowI.of_block {w w':World} {g n:Nat} {f:Nat->Int} (h:RowI w g n f) (e:w'.heap[g]?=w.heap[g]?):RowI w' g n f:=e.trans h
theorem RowI.below {w w':World} {g n:Nat} {f:Nat->Int} (h:RowI w g n f) {b:Nat} (hb:Below b w w') (hg:g < b):RowI w' g n f:=h.of_block (hb.block g hg)
theorem RowI.other {w:World} {g n:Nat} {f:Nat->Int} (h:RowI w g n f) {a:Addr} (ha:g ≠ a.block) (v:Value):RowI (w.setCell a v) g n f:=h.of_block (Below.heap_setCell w a v g ha)
theorem RowI.set {w:World} {g n:Nat} {f:Nat->Int} (h:RowI w g n f) (k:Nat) (x:Int):RowI (w.setCell ⟨g,k,none⟩ (.int .i64 x)) g n (fun i=>if i=k then x else f i):=by
 have h1:(w.setCell ⟨g,k,none⟩ (.int .i64 x)).heap[g]?=some (.cells (((List.range n).map (fun i=>Value.int .i64 (f i))).toArray.setIfInBounds k (.int .i64 x)) 3 (0,0)):=heap_setCell_same w g k _ _ _ h
 have h2:((List.range n).map (fun i=>Value.int .i64 (f i))).toArray.setIfInBounds k (.int .i64 x)=((List.range n).map (fun i=>Value.int .i64 (if i=k then x else f i))).toArray:=by
  apply Array.ext'
  rw [Array.toList_setIfInBounds]
  apply List.ext_getElem?
  intro i
  by_cases hi:i < n
  ·by_cases hk:i=k
   ·subst hk;simp [hi]
   ·rw [List.getElem?_set_ne (fun e=>hk e.symm)]
    simp [hi,hk]
  ·rw [List.getElem?_eq_none (by simp;omega),List.getElem?_eq_none (by simp;omega)]
 unfold RowI
 rw [h1,h2]
theorem mk_ints (n:Nat) (hn:n<=2932031007317):∃ M:Array Value,(∀ u:World,(Instr.makeSlice 23 (.int .i64 (n:Int)) (.int .i64 (n:Int))).run Tryz.prog u=.ok (.slice (some ⟨u.heap.size,0,none⟩) n n) (u.alloc (.cells M 3))) /\
  ∀ u:World,RowI (u.alloc (.cells M 3)) u.heap.size n (fun _=>0):=by
 obtain ⟨i0,hi,hz0,hz1,hz2⟩:=info_parts info3
 refine ⟨madeCells (Value.int .i64 0).cells ((n:Int).toNat * i0.size),fun u=>?_,fun u=>?_⟩
 ·have h:=run_make (P:=Tryz.prog) u 23 3 i0 (.int .i64 0) Tryz.underlying23 hi hz0 .i64 .i64 (n:Int) (n:Int) (by omega) (Int.le_refl _) (by rw [hz2];omega) (by omega)
  have e:(n:Int).toNat=n:=by omega
  rw [e] at h ⊢
  exact h
 ·have e:madeCells (Value.int .i64 0).cells ((n:Int).toNat * i0.size)=((List.range n).map (fun _=>Value.int .i64 0)).toArray:=by
   apply Array.ext'
   have e1:(Value.int .i64 0).cells=#[.int .i64 0]:=rfl
   rw [e1,toList_madeCells_one,hz1]
   apply List.ext_getElem?
   intro j
   have e2:(n:Int).toNat * 1=n:=by omega
   rw [e2]
   by_cases hj:j < n
   ·simp [hj]
   ·simp [hj]
  rw [e]
  exact heap_alloc_new u _
end Go.Proofs.YtfgpbdieaflclaaGreat.Gr
namespace Go.Proofs.YtfgpbdieaflclaaGreat.Nm
open Go.RowKit Go.Maps Sp Lx Gr
theorem cells3 {wq:World} {B:Nat} {v0 v1 v2:Value} {T:TypeId} (h:wq.heap[B]?=some (.cells #[v0,v1,v2] T (0,0))):wq.cell? ⟨B,0,none⟩=some v0/\wq.cell? ⟨B,1,none⟩=some v1/\wq.cell? ⟨B,2,none⟩=some v2:=by
 refine ⟨?_,?_,?_⟩
 all_goals
  simp only [World.cell?,h]
  rfl
theorem put3L {n:Nat} {w wx:World} {B:Nat} {T:TypeId} {a b c v0 v1 v2:Value} (hb:Below n w wx) (hB:n<=B) (hz:wx.heap[B]?=some (.cells #[a,b,c] T (0,0))):(((wx.setCell ⟨B,0,none⟩ v0).setCell ⟨B,1,none⟩ v1).setCell ⟨B,2,none⟩ v2).heap[B]?=some (.cells #[v0,v1,v2] T (0,0))/\Below n w (((wx.setCell ⟨B,0,none⟩ v0).setCell ⟨B,1,none⟩ v1).setCell ⟨B,2,none⟩ v2)/\∀ k,k ≠ B->(((wx.setCell ⟨B,0,none⟩ v0).setCell ⟨B,1,none⟩ v1).setCell ⟨B,2,none⟩ v2).heap[k]?=wx.heap[k]?:=by
 have h0:=set_at hz v0 (cs':=#[v0,b,c]) (i:=0) rfl
 have h1:=set_at h0 v1 (cs':=#[v0,v1,c]) (i:=1) rfl
 have h2:=set_at h1 v2 (cs':=#[v0,v1,v2]) (i:=2) rfl
 refine ⟨h2,below_set (below_set (below_set hb hB 0 v0) hB 1 v1) hB 2 v2,fun k hk=>?_⟩
 have hp:∀ (u:World) (i:Nat) (v:Value),(u.setCell ⟨B,i,none⟩ v).heap[k]?=u.heap[k]?:=fun u i v=>Below.heap_setCell u _ v _ (fun e=>hk e)
 rw [hp,hp,hp]
def lpN (l:List Rz) (i:Nat):Nat:=(l.take i).countP (fun r=>r.kind == 13)
def rdv (l:List Rz) (rl:List Int) (j:Nat):Int:=if (rat l j).kind=13 then rl.getD (lpN l j % rl.length) 0 else 0
theorem lp_zero (l:List Rz):lpN l 0=0:=by simp [lpN]
theorem lp_step {l:List Rz} {i:Nat} (h:i < l.length):lpN l (i+1)=lpN l i+if (rat l i).kind=13 then 1 else 0:=by
 have e:=some_rat h
 have e2:l.take (i+1)=l.take i++[rat l i]:=by rw [List.take_add_one,e];rfl
 unfold lpN
 rw [e2,List.countP_append]
 congr 1
 simp
theorem lp_le (l:List Rz) (i:Nat):lpN l i<=l.length:=by
 unfold lpN
 exact Nat.le_trans List.countP_le_length (by first | (simp;done) | (simp;omega))
theorem rdv_nil (l:List Rz) (j:Nat):rdv l [] j=0:=by simp [rdv]
theorem row_kind {w:World} {ao:Option Addr} {l:List Rz} (h:IsRz w ao l) {k:Nat} (hk:k < l.length):∃ g o,ao=some ⟨g,o,none⟩/\g < w.heap.size/\w.cell? ⟨g,o+k * 5,none⟩=some (.int .i64 (rat l k).kind):=by
 obtain ⟨g,o,e,hg,c0,_⟩:=h k _ (some_rat hk)
 exact ⟨g,o,e,hg,c0⟩
theorem rdv_cell {w:World} {eo:Option Addr} {rl:List Int} (h:IsVals w eo (iv rl)) (c:Nat) (h0:0 < rl.length):∃ g o,eo=some ⟨g,o,none⟩/\g < w.heap.size/\w.cell? ⟨g,o+c % rl.length,none⟩=some (.int .i64 (rl.getD (c % rl.length) 0)):=by
 have hlt:=Nat.mod_lt c h0
 refine h (c % rl.length) _ ?_
 simp [iv,List.getD,hlt]
theorem rounds_any {P:Pg} {ao qo vo tto uo oo:Option Addr} {ac qc vc tc uc oc:Nat} {rl:List Int} {eo:Option Addr} {ec:Nat} {w:World} (h:IsRz w ao P.rows) (hr:IsVals w eo (iv rl)) (hn:P.rows.length<=65536) (hR:rl.length<=1152921504606846975):
  Calls Tryz.prog 9 #[pvG P ao qo vo tto uo oo ac qc vc tc uc oc,.slice eo rl.length ec] w fun e w'=>∃ g,e=.returned (.agg #[.slice none 0 0,.slice none 0 0,.slice (some ⟨g,0,none⟩) P.rows.length P.rows.length])/\w.heap.size<=g/\RowI w' g P.rows.length (rdv P.rows rl)/\Below w.heap.size w w':=by
 obtain ⟨M,hmk,hM⟩:=mk_ints P.rows.length (by omega)
 have HI:Hid (IsRz w ao P.rows):=h
 have HV:Hid (IsVals w eo (iv rl)):=hr
 have hln:(P.rows.length:Int)<=65536:=by omega
 have hlr:(rl.length:Int)<=1152921504606846975:=by omega
 have H0:Hid (RowI ((((w.alloc (.cells #[.string P.name,.slice ao P.rows.length ac,.slice qo P.qs.length qc,.slice vo P.vs.length vc,.slice tto P.ts.length tc,.slice uo P.us.length uc,.slice oo P.on.length oc,.int .i64 P.miss] 28)).alloc (.cells #[.slice none 0 0,.slice none 0 0,.slice none 0 0] 42)).alloc (.cells M 3)).alloc (.cells #[.slice none 0 0,.slice none 0 0,.slice (some ⟨w.heap.size+1+1,0,none⟩) P.rows.length P.rows.length] 42)) (w.heap.size+1+1) P.rows.length (fun _=>0)/\((((w.alloc (.cells #[.string P.name,.slice ao P.rows.length ac,.slice qo P.qs.length qc,.slice vo P.vs.length vc,.slice tto P.ts.length tc,.slice uo P.us.length uc,.slice oo P.on.length oc,.int .i64 P.miss] 28)).alloc (.cells #[.slice none 0 0,.slice none 0 0,.slice none 0 0] 42)).alloc (.cells M 3)).alloc (.cells #[.slice none 0 0,.slice none 0 0,.slice (some ⟨w.heap.size+1+1,0,none⟩) P.rows.length P.rows.length] 42)).heap[w.heap.size]?=some (.cells #[.string P.name,.slice ao P.rows.length ac,.slice qo P.qs.length qc,.slice vo P.vs.length vc,.slice tto P.ts.length tc,.slice uo P.us.length uc,.slice oo P.on.length oc,.int .i64 P.miss] 28 (0,0))/\((((w.alloc (.cells #[.string P.name,.slice ao P.rows.length ac,.slice qo P.qs.length qc,.slice vo P.vs.length vc,.slice tto P.ts.length tc,.slice uo P.us.length uc,.slice oo P.on.length oc,.int .i64 P.miss] 28)).alloc (.cells #[.slice none 0 0,.slice none 0 0,.slice none 0 0] 42)).alloc (.cells M 3)).alloc (.cells #[.slice none 0 0,.slice none 0 0,.slice (some ⟨w.heap.size+1+1,0,none⟩) P.rows.length P.rows.length] 42)).heap[w.heap.size+1]?=some (.cells #[.slice none 0 0,.slice none 0 0,.slice none 0 0] 42 (0,0))/\((((w.alloc (.cells #[.string P.name,.slice ao P.rows.length ac,.slice qo P.qs.length qc,.slice vo P.vs.length vc,.slice tto P.ts.length tc,.slice uo P.us.length uc,.slice oo P.on.length oc,.int .i64 P.miss] 28)).alloc (.cells #[.slice none 0 0,.slice none 0 0,.slice none 0 0] 42)).alloc (.cells M 3)).alloc (.cells #[.slice none 0 0,.slice none 0 0,.slice (some ⟨w.heap.size+1+1,0,none⟩) P.rows.length P.rows.length] 42)).heap[w.heap.size+1+1+1]?=some (.cells #[.slice none 0 0,.slice none 0 0,.slice (some ⟨w.heap.size+1+1,0,none⟩) P.rows.length P.rows.length] 42 (0,0))/\Below w.heap.size w ((((w.alloc (.cells #[.string P.name,.slice ao P.rows.length ac,.slice qo P.qs.length qc,.slice vo P.vs.length vc,.slice tto P.ts.length tc,.slice uo P.us.length uc,.slice oo P.on.length oc,.int .i64 P.miss] 28)).alloc (.cells #[.slice none 0 0,.slice none 0 0,.slice none 0 0] 42)).alloc (.cells M 3)).alloc (.cells #[.slice none 0 0,.slice none 0 0,.slice (some ⟨w.heap.size+1+1,0,none⟩) P.rows.length P.rows.length] 42))):=by
  have e2:=hM ((w.alloc (.cells #[.string P.name,.slice ao P.rows.length ac,.slice qo P.qs.length qc,.slice vo P.vs.length vc,.slice tto P.ts.length tc,.slice uo P.us.length uc,.slice oo P.on.length oc,.int .i64 P.miss] 28)).alloc (.cells #[.slice none 0 0,.slice none 0 0,.slice none 0 0] 42))
  have es:((w.alloc (.cells #[.string P.name,.slice ao P.rows.length ac,.slice qo P.qs.length qc,.slice vo P.vs.length vc,.slice tto P.ts.length tc,.slice uo P.us.length uc,.slice oo P.on.length oc,.int .i64 P.miss] 28)).alloc (.cells #[.slice none 0 0,.slice none 0 0,.slice none 0 0] 42)).heap.size=w.heap.size+1+1:=by simp
  rw [es] at e2
  refine ⟨e2.of_block (alloc_old _ _ _ (by simp)),?_,?_,?_,(((bAl w _).alloc (by simp) _).alloc (by first | (simp;done) | (simp;omega)) _).alloc (by first | (simp;done) | (simp;omega)) _⟩
  ·rw [alloc_old _ _ _ (by first | (simp;done) | (simp;omega)),alloc_old _ _ _ (by first | (simp;done) | (simp;omega)),alloc_old _ _ _ (by simp)]
   exact alloc_at _ _ _ rfl
  ·rw [alloc_old _ _ _ (by first | (simp;done) | (simp;omega)),alloc_old _ _ _ (by simp)]
   exact alloc_at _ _ _ (by simp)
  ·exact alloc_at _ _ _ (by simp)
 dsimp only [pvG]
 clear h hr hn hM
 go_enter Tryz.func9,Tryz.ntmps9
 go_wp2_with fail
 generalize ((((w.alloc (.cells #[.string P.name,.slice ao P.rows.length ac,.slice qo P.qs.length qc,.slice vo P.vs.length vc,.slice tto P.ts.length tc,.slice uo P.us.length uc,.slice oo P.on.length oc,.int .i64 P.miss] 28)).alloc (.cells #[.slice none 0 0,.slice none 0 0,.slice none 0 0] 42)).alloc (.cells M 3)).alloc (.cells #[.slice none 0 0,.slice none 0 0,.slice (some ⟨w.heap.size+1+1,0,none⟩) P.rows.length P.rows.length] 42))=W0 at *
 clear hmk
 go_loopg [6,7] P.rows.length (fun gq c i wr=>∃ m:Nat,m<=P.rows.length/\gq=P.rows.length - m/\c=.int .i64 (lpN P.rows m:Int)/\i=.int .i64 m/\RowI wr (w.heap.size+1+1) P.rows.length (fun i=>if i < m then rdv P.rows rl i else 0)/\wr.heap[w.heap.size]?=some (.cells #[.string P.name,.slice ao P.rows.length ac,.slice qo P.qs.length qc,.slice vo P.vs.length vc,.slice tto P.ts.length tc,.slice uo P.us.length uc,.slice oo P.on.length oc,.int .i64 P.miss] 28 (0,0))/\wr.heap[w.heap.size+1]?=some (.cells #[.slice none 0 0,.slice none 0 0,.slice none 0 0] 42 (0,0))/\wr.heap[w.heap.size+1+1+1]?=some (.cells #[.slice none 0 0,.slice none 0 0,.slice (some ⟨w.heap.size+1+1,0,none⟩) P.rows.length P.rows.length] 42 (0,0))/\Below w.heap.size w wr)
 case atStart=>exact ⟨0,Nat.zero_le _,rfl,by rw [lp_zero];go_num,by go_num,H0.out.1.ext fun i _=>(if_neg (Nat.not_lt_zero _)).symm,H0.out.2⟩
 case round=>
  obtain ⟨m,hm,hgk,rfl,rfl,hrel⟩:=hrel
  have HR:Hid (RowI wr (w.heap.size+1+1) P.rows.length (fun i=>if i < m then rdv P.rows rl i else 0)/\wr.heap[w.heap.size]?=some (.cells #[.string P.name,.slice ao P.rows.length ac,.slice qo P.qs.length qc,.slice vo P.vs.length vc,.slice tto P.ts.length tc,.slice uo P.us.length uc,.slice oo P.on.length oc,.int .i64 P.miss] 28 (0,0))/\wr.heap[w.heap.size+1]?=some (.cells #[.slice none 0 0,.slice none 0 0,.slice none 0 0] 42 (0,0))/\wr.heap[w.heap.size+1+1+1]?=some (.cells #[.slice none 0 0,.slice none 0 0,.slice (some ⟨w.heap.size+1+1,0,none⟩) P.rows.length P.rows.length] 42 (0,0))/\Below w.heap.size w wr):=hrel
  have HG:Hid (gk=P.rows.length - m):=hgk
  have hcl:(lpN P.rows m:Int)<=65536:=by have:=lp_le P.rows m;omega
  have hc0:(0:Int)<=(lpN P.rows m:Int):=by omega
  have HN:Hid (∀ y:Int,RowI (wr.setCell ⟨w.heap.size+1+1,m,none⟩ (.int .i64 y)) (w.heap.size+1+1) P.rows.length (fun i=>if i=m then y else if i < m then rdv P.rows rl i else 0)/\(wr.setCell ⟨w.heap.size+1+1,m,none⟩ (.int .i64 y)).heap[w.heap.size]?=some (.cells #[.string P.name,.slice ao P.rows.length ac,.slice qo P.qs.length qc,.slice vo P.vs.length vc,.slice tto P.ts.length tc,.slice uo P.us.length uc,.slice oo P.on.length oc,.int .i64 P.miss] 28 (0,0))/\(wr.setCell ⟨w.heap.size+1+1,m,none⟩ (.int .i64 y)).heap[w.heap.size+1]?=some (.cells #[.slice none 0 0,.slice none 0 0,.slice none 0 0] 42 (0,0))/\(wr.setCell ⟨w.heap.size+1+1,m,none⟩ (.int .i64 y)).heap[w.heap.size+1+1+1]?=some (.cells #[.slice none 0 0,.slice none 0 0,.slice (some ⟨w.heap.size+1+1,0,none⟩) P.rows.length P.rows.length] 42 (0,0))/\Below w.heap.size w (wr.setCell ⟨w.heap.size+1+1,m,none⟩ (.int .i64 y))):=by
   intro y
   refine ⟨HR.out.1.set m y,?_,?_,?_,HR.out.2.2.2.2.trans ((Below.refl w.heap.size wr).setCell (p:=⟨w.heap.size+1+1,m,none⟩) (by first | (simp;done) | (simp;omega)) _)⟩
   ·exact (Below.heap_setCell _ _ _ _ (by first | (simp;done) | (simp;omega))).trans HR.out.2.1
   ·exact (Below.heap_setCell _ _ _ _ (by simp)).trans HR.out.2.2.1
   ·exact (Below.heap_setCell _ _ _ _ (by first | (simp;done) | (simp;omega))).trans HR.out.2.2.2.1
  obtain ⟨k0,k1,k2,k3,k4,k5,k6,k7⟩:=pol8 HR.out.2.1
  obtain ⟨t0,t1,t2⟩:=cells3 HR.out.2.2.2.1
  clear hrel hgk
  by_cases hlt:m < P.rows.length/\0 < rl.length
  ·obtain ⟨hlt,hR0⟩:=hlt
   have hlt':(m:Int) < (P.rows.length:Int):=by omega
   have hR1:(0:Int) < (rl.length:Int):=by omega
   obtain ⟨g,o,rfl,hg,c0⟩:=row_kind (HI.out.below HR.out.2.2.2.2) hlt
   have HS:Hid (lpN P.rows (m+1)=lpN P.rows m+if (rat P.rows m).kind=13 then 1 else 0):=lp_step hlt
   by_cases hk:(rat P.rows m).kind=13
   ·have HS2:Hid (lpN P.rows (m+1)=lpN P.rows m+1):=by show _=_;rw [HS.out,if_pos hk]
    have HE:Hid (rdv P.rows rl m=rl.getD (lpN P.rows m % rl.length) 0):=if_pos hk
    obtain ⟨g2,o2,rfl,hg2,c2⟩:=rdv_cell (HV.out.below HR.out.2.2.2.2) (lpN P.rows m) hR0
    rw [hk] at c0
    have hmod:(lpN P.rows m:Int) % (rl.length:Int)=((lpN P.rows m % rl.length:Nat):Int):=(Int.natCast_emod _ _).symm
    have hml:((lpN P.rows m % rl.length:Nat):Int) < (rl.length:Int):=Int.ofNat_lt.2 (Nat.mod_lt (lpN P.rows m) hR0)
    have hnz:¬ (rl.length:Int)=0:=by omega
    have hnz':((rl.length:Int) == 0)=false:=beq_false_of_ne hnz
    generalize lpN P.rows m % rl.length=md at *
    generalize rl.getD md 0=y at *
    have hc:=HR.out.1.cell hlt
    have hf:=HR.out.1.frozen m
    generalize (if m < m then rdv P.rows rl m else 0)=y0 at hc
    clear hk
    go_wp2_with fail
    go_region
    go_wp2_with fail
    go_roundg (P.rows.length - (m+1))
    case measure=>have:=HG.out;omega
    case rel=>
     refine ⟨m+1,by omega,rfl,by rw [HS2.out];go_num,by go_num,(HN.out y).1.ext fun i _=>?_,(HN.out y).2.1,(HN.out y).2.2.1,(HN.out y).2.2.2.1,(HN.out y).2.2.2.2.drew⟩
     by_cases e:i=m
     ·subst e;rw [if_pos rfl,if_pos (by omega),HE.out]
     ·rw [if_neg e]
      by_cases e2:i < m
      ·rw [if_pos e2,if_pos (by omega)]
      ·rw [if_neg e2,if_neg (by omega)]
   ·have HS2:Hid (lpN P.rows (m+1)=lpN P.rows m):=by show _=_;rw [HS.out,if_neg hk];rfl
    have HE:Hid (rdv P.rows rl m=0):=if_neg hk
    generalize (rat P.rows m).kind=kd at *
    have hk':(kd == 13)=false:=by simp [hk]
    go_wp2_with fail
    go_roundg (P.rows.length - (m+1))
    case measure=>have:=HG.out;omega
    case rel=>
     refine ⟨m+1,by omega,rfl,by rw [HS2.out],by go_num,HR.out.1.ext fun i _=>?_,HR.out.2⟩
     by_cases e:i < m
     ·rw [if_pos e,if_pos (by omega)]
     ·rw [if_neg e]
      by_cases e2:i=m
      ·subst e2;rw [if_pos (by omega),HE.out]
      ·rw [if_neg (by omega)]
  ·have HD:Hid (∀ i,i < P.rows.length->(if i < m then rdv P.rows rl i else 0)=rdv P.rows rl i):=by
    intro i hi
    by_cases e:m < P.rows.length
    ·have e2:rl=[]:=by
      cases rl with
      | nil=>rfl
      | cons x xs=>exact absurd ⟨e,by simp⟩ hlt
     subst e2
     rw [rdv_nil]
     split<;>rfl
    ·rw [if_pos (by omega)]
   obtain ⟨f0,f1,f2⟩:=cells3 HR.out.2.2.1
   have hfz:∀ j,wr.frozen? ⟨w.heap.size+1,j,none⟩=false:=fun j=>by
    have:=HR.out.2.2.1
    simp only [World.frozen?,this]
    rfl
   by_cases e:m < P.rows.length
   ·have hlt':(m:Int) < (P.rows.length:Int):=by omega
    have hz:rl.length=0:=by omega
    rw [hz]
    clear hlt
    go_wp2_with fail
    obtain ⟨x1,x2,x3⟩:=put3L (B:=w.heap.size+1) (v0:=.slice none 0 0) (v1:=.slice none 0 0) (v2:=.slice (some ⟨w.heap.size+1+1,0,none⟩) P.rows.length P.rows.length) HR.out.2.2.2.2 (Nat.le_succ _) HR.out.2.2.1
    obtain ⟨y0,y1,y2⟩:=cells3 x1
    refine bodyPost_ret (v:=.agg #[.slice none 0 0,.slice none 0 0,.slice (some ⟨w.heap.size+1+1,0,none⟩) P.rows.length P.rows.length]) (by simp [results,Tryz.results9,go_sem,y0,y1,y2]) rfl ?_
    exact ⟨w.heap.size+1+1,rfl,by omega,(HR.out.1.ext HD.out).of_block (x3 _ (by omega)),x2⟩
   ·have hlt':¬ (m:Int) < (P.rows.length:Int):=by omega
    clear hlt
    go_wp2_with fail
    obtain ⟨x1,x2,x3⟩:=put3L (B:=w.heap.size+1) (v0:=.slice none 0 0) (v1:=.slice none 0 0) (v2:=.slice (some ⟨w.heap.size+1+1,0,none⟩) P.rows.length P.rows.length) HR.out.2.2.2.2 (Nat.le_succ _) HR.out.2.2.1
    obtain ⟨y0,y1,y2⟩:=cells3 x1
    refine bodyPost_ret (v:=.agg #[.slice none 0 0,.slice none 0 0,.slice (some ⟨w.heap.size+1+1,0,none⟩) P.rows.length P.rows.length]) (by simp [results,Tryz.results9,go_sem,y0,y1,y2]) rfl ?_
    exact ⟨w.heap.size+1+1,rfl,by omega,(HR.out.1.ext HD.out).of_block (x3 _ (by omega)),x2⟩
end Go.Proofs.YtfgpbdieaflclaaGreat.Nm
namespace Go.Proofs.YtfgpbdieaflclaaGreat.Lx
open Go.ChangeShapes Go.WideShapes Go.ChangeAt Go.RowKit Sp
theorem own:ownKnob Tryz.prog.godebug=none:=by kernel_rfl
theorem laidOut:laidOutB Tryz.prog=true:=by kernel_rfl
end Go.Proofs.YtfgpbdieaflclaaGreat.Lx
namespace Go.Proofs.YtfgpbdieaflclaaGreat.Lx
open Go.RowKit Sp
def IsInts (w:World) (ao:Option Addr) (n:Nat) (z:Nat->Int):Prop:=∀ i,i < n->∃ g o,ao=some ⟨g,o,none⟩/\g < w.heap.size/\w.cell? ⟨g,o+i,none⟩=some (.int .i64 (z i))
end Go.Proofs.YtfgpbdieaflclaaGreat.Lx
namespace Go.Proofs.YtfgpbdieaflclaaGreat.Lx
open Go.ChangeShapes Go.WideShapes Go.ChangeAt Go.RowKit Sp
theorem bytes3:Tryz.prog.bytesOf 3=8:=by kernel_rfl
theorem open_nums {H:Type} {enc:TypeId × Value->H} {W:World} {a:Option Addr} {len cap:Nat} {d:DataW H} {p:List MemPlace} (h:DataW.Trod enc Tryz.prog W 0 (fun _=>true) true 23 (.slice a len cap) d p):
  ∃ z:Nat->Int,IsInts W a len z/\(len=0\/∃ el sp,d=.slice el sp/\el.length=len):=by
 obtain ⟨fuel,hf⟩:=h
 rcases open_ints Tryz.underlying23 Tryz.underlying3 (by kernel_rfl) hf with ⟨hcs,hx⟩ | ⟨x,l,c,zs,hcs,_,hl,hm,hz,hx,hcell,hwz⟩
 ·simp [Value.cells] at hcs
  obtain ⟨rfl,rfl,rfl⟩:=hcs
  exact ⟨fun _=>0,fun i hi=>absurd hi (Nat.not_lt_zero _),Or.inl rfl⟩
 ·simp [Value.cells] at hcs
  obtain ⟨rfl,rfl,rfl⟩:=hcs
  simp at hz hx
  obtain ⟨rfl,rfl⟩:=hx
  refine ⟨fun i=>zs.getD i 0,fun i hi=>?_,Or.inr ⟨_,_,rfl,by simp [lits];omega⟩⟩
  obtain ⟨b,off,spot⟩:=x
  have h0:=hcell 0 (by omega)
  have hspot:spot=none:=by simpa [Addr.add] using World.cell?_spot h0
  subst hspot
  have hc:=hcell i (by omega)
  rw [Lib.addr_add] at hc
  exact ⟨b,off,rfl,World.block_lt_of_cell? W _ hc,hc⟩
end Go.Proofs.YtfgpbdieaflclaaGreat.Lx
namespace Go.Proofs.YtfgpbdieaflclaaGreat.Nm
open Go.ChangeShapes Go.WideShapes Go.ChangeAt Go.RowKit Sp Lx Gr
section
variable {H:Type} {enc:TypeId × Value->H} {W:World}
theorem ints_valsJ {ao:Option Addr} {len:Nat} {z:Nat->Int} (h:IsInts W ao len z):IsVals W ao (iv ((List.range len).map z)):=fun k x hx=>by
 have hk:k < len:=by
  have:=(List.getElem?_eq_some_iff.1 hx).1
  simpa [iv] using this
 have e:x=.int .i64 (z k):=by
  rw [show (iv ((List.range len).map z))[k]?=some (.int .i64 (z k)) by simp [iv,hk]] at hx
  cases hx
  rfl
 subst e
 exact h k hk
theorem nums_reachJ {ts:List TypeId} {ds:List (DataW H)} (hsz:(DataW.weightsEach Tryz.prog ts ds).all (· <= reachBytes)=true) {j len:Nat} {d:DataW H} (ht:ts[j]?=some 23) (hd:ds[j]?=some d) (h:len=0\/∃ el sp,d=.slice el sp/\el.length=len):len<=17592186043904:=by
 rcases h with rfl | ⟨el,sp,rfl,rfl⟩
 ·omega
 ·have:=sized_slice hsz ht hd Tryz.underlying23
  rw [bytes3] at this
  simp only [reachBytes] at this
  omega
end
end Go.Proofs.YtfgpbdieaflclaaGreat.Nm
set_option linter.unusedSimpArgs false
namespace Go.Proofs.YtfgpbdieaflclaaGreat.Nm
open Go.RowKit Go.Maps Sp Lx Gr
theorem vals_front {w:World} {ao:Option Addr} {xs ys:List Value} (h:IsVals w ao (xs++ys)):IsVals w ao xs:=fun k x hx=>h k x (by rw [List.getElem?_append_left (List.getElem?_eq_some_iff.1 hx).1];exact hx)
theorem rowz_own {W:World} {base g m:Nat} {l:List Rz} (h:W.ownsRow base 47 5 (.slice (some ⟨g,0,none⟩) m m) m (l.flatMap rz5)):RowZ W g l:=by
 rcases h.2 with ⟨e,_⟩ | ⟨g',c',cur,e,_,h3,_,_,h6,h7⟩
 ·cases e
 ·cases e
  unfold RowZ
  rw [h3]
  have e2:cur.toList=l.flatMap rz5:=by
   rw [<-h7,List.take_of_length_le (by rw [Array.length_toList];omega)]
  rw [<-e2]
theorem lsRd {W:World} {base:Nat} {p:Pg} {g gq cq gv cv gt ct gu cu go co:Nat} (h:Ls W base (lentOs p g gq cq gv cv gt ct gu cu go co)):RdG W p (some ⟨g,0,none⟩) (some ⟨gq,0,none⟩) (some ⟨gv,0,none⟩) (some ⟨gt,0,none⟩) (some ⟨gu,0,none⟩) (some ⟨go,0,none⟩):=by
 have a:∀ (i:Nat) (hi:i < (lentOs p g gq cq gv cv gt ct gu cu go co).length),W.ownsRow base ((lentOs p g gq cq gv cv gt ct gu cu go co)[i]).T ((lentOs p g gq cq gv cv gt ct gu cu go co)[i]).sz ((lentOs p g gq cq gv cv gt ct gu cu go co)[i]).v ((lentOs p g gq cq gv cv gt ct gu cu go co)[i]).n ((lentOs p g gq cq gv cv gt ct gu cu go co)[i]).xs:=fun i hi=>h.own _ (List.getElem_mem hi)
 have a0:=a 0 (by simp)
 have a1:=a 1 (by simp)
 have a2:=a 2 (by simp)
 have a3:=a 3 (by simp)
 have a4:=a 4 (by simp)
 have a5:=a 5 (by simp)
 exact ⟨RowZ.reads (l':=(List.range 9).map (fun j=>mkL (p.rows.length+j))++List.replicate (9 - 9) rz0) (rowz_own (l:=fillL p.rows 9) a0),vals_front (vals_of a1),vals_front (vals_of a2),vals_front (vals_of a3),vals_front (vals_of a4),vals_front (vals_of a5)⟩
def ctOf:Except (Nat × Nat) Co->List Nat × Nat × Nat × Nat
 | .error ci=>([],0,ci.1,ci.2)
 | .ok c=>(c.on,c.miss,0,0)
theorem on_len {p:Pg} {rd:List Int} {r:Except (Nat × Nat) Co} (h:BRes p rd r) (hq:p.qs.length<=100):(ctOf r).1.length<=17592186043904:=by
 rcases h with ⟨_,rfl⟩ | ⟨p',_,⟨_,rfl⟩ | ⟨_,_,rfl⟩⟩
 ·simp [ctOf]
 ·simp [ctOf]
 ·unfold evR
  split
  ·simp [ctOf]
  ·rename_i c hc
   have:=evN_len hc
   simp only [ctOf]
   omega
theorem own_nil {w:World} {base:Nat} {T:TypeId} {sz n c:Nat} {o:Option Addr} {xs:List Value} (h:w.ownsRow base T sz (.slice o n c) n xs):o=none->c=0:=by
 rintro rfl
 obtain ⟨_,⟨e,_⟩ | ⟨g,cap,cur,e,_⟩⟩:=h
 ·cases e
  rfl
 ·cases e
theorem agg8 {a b c d e f g h a' b' c' d' e' f' g' h':Value} (x:Value.agg #[a,b,c,d,e,f,g,h]=Value.agg #[a',b',c',d',e',f',g',h']):b'=b/\c'=c/\d'=d/\e'=e/\f'=f/\g'=g:=by
 cases x
 exact ⟨rfl,rfl,rfl,rfl,rfl,rfl⟩
theorem told_gn {w w':World} {l:List Rz} {e:Ending} (h:Told w (res l) e w'):∃ ao qo vo tto uo oo ac qc vc tc uc oc,e=.returned (.tuple #[pvG (resP l) ao qo vo tto uo oo ac qc vc tc uc oc,.agg #[.int .i64 ((resC l).1:Int),.int .i64 ((resC l).2:Int)]])/\Below w.heap.size w w'/\(∀ W:World,(∀ k,w.heap.size<=k->k < w'.heap.size->W.heap[k]?=w'.heap[k]?)->RdG W (resP l) ao qo vo tto uo oo)/\(qo=none->qc=0)/\(vo=none->vc=0)/\(tto=none->tc=0)/\(uo=none->uc=0)/\(oo=none->oc=0):=by
 obtain ⟨hb,hm⟩:=h
 unfold resP resC
 cases hr:res l with
 | error ci=>
  rw [hr] at hm
  exact ⟨none,none,none,none,none,none,0,0,0,0,0,0,hm,hb,fun W _=>zero_rd W,fun _=>rfl,fun _=>rfl,fun _=>rfl,fun _=>rfl,fun _=>rfl⟩
 | ok p=>
  rw [hr] at hm
  obtain ⟨v,he,hp⟩:=hm
  have hp2:=hp
  obtain ⟨rb,cap,qv,vv,tv,uv,ov,hv0,hrb,hrw,hq,hv,ht,hu,ho⟩:=hp2.ex
  obtain ⟨rb1,qo,vo,tto,uo,oo,ac,qc,vc,tc,uc,oc,rfl,_,hall⟩:=hp.all
  simp only [pv] at hv0
  obtain ⟨_,e2,e3,e4,e5,e6⟩:=agg8 hv0
  subst e2
  subst e3
  subst e4
  subst e5
  subst e6
  refine ⟨some ⟨rb1,0,none⟩,qo,vo,tto,uo,oo,ac,qc,vc,tc,uc,oc,?_,hb,fun W hW=>rd_g (hall W hW).1,own_nil hq,own_nil hv,own_nil ht,own_nil hu,own_nil ho⟩
  rw [he]
  simp [pvG,pv,Pl.g]
theorem res_kd {l:List Rz} (hl:l.length<=65536) (hkd:∀ r ∈ l,r.kids<=9223372036854775807/\r.name.size<=4611686018427387000):(resP l).rows.length<=65536/\∀ r ∈ (resP l).rows,r.kids<=9223372036854775807/\r.name.size<=4611686018427387000:=by
 unfold resP
 cases h:res l with
 | error ci=>exact ⟨by simp [zeroG],fun r hr=>by simp [zeroG] at hr⟩
 | ok p=>
  have hk:=(res_sm (by omega) h).2.2.2.1
  have hlen:=like_len hk
  show p.rows.length<=65536/\∀ r ∈ p.rows,r.kids<=9223372036854775807/\r.name.size<=4611686018427387000
  refine ⟨by omega,fun r hr=>?_⟩
  obtain ⟨i,hi,rfl⟩:=List.mem_iff_getElem.1 hr
  have hi':i < l.length:=by rw [<-hlen];exact hi
  have e1:rat p.rows i=p.rows[i]'hi:=by
   have:=some_rat (l:=p.rows) (i:=i) hi
   rw [List.getElem?_eq_getElem hi] at this
   exact (Option.some.inj this).symm
  have e2:rat l i=l[i]'hi':=by
   have:=some_rat (l:=l) (i:=i) hi'
   rw [List.getElem?_eq_getElem hi'] at this
   exact (Option.some.inj this).symm
  obtain ⟨_,n1,n2⟩:=like_kind hk hi'
  have:=hkd _ (List.getElem_mem hi')
  rw [<-e2,<-n1,<-n2,e1] at this
  exact this
theorem rowi_vals {w:World} {g n:Nat} {f:Nat->Int} (h:RowI w g n f):IsVals w (some ⟨g,0,none⟩) (iv ((List.range n).map f)):=fun k x hx=>by
 have hk:k < n:=by
  have:=(List.getElem?_eq_some_iff.1 hx).1
  simpa [iv] using this
 have e:x=.int .i64 (f k):=by
  rw [show (iv ((List.range n).map f))[k]?=some (.int .i64 (f k)) by simp [iv,hk]] at hx
  cases hx
  rfl
 subst e
 exact ⟨g,0,rfl,h.lt,by rw [Nat.zero_add];exact h.cell hk⟩
end Go.Proofs.YtfgpbdieaflclaaGreat.Nm
