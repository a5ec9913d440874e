import Derived.Test.YtfgpbdieaflclaaGreatK07
import Derived.Deep.LoopGhost
import Derived.Test.YtfgpbdieaflclaaGreatRows
import Derived.WalkKit
import Derived.WalkSpells
import Derived.WalkLawsBesides
import Derived.Deep.QuietTactic
import Derived.BigQuiet
import Derived.Laws.MakeOwn
import Derived.Laws.CopyOwn
import Derived.Laws.OwnMore
import Derived.Deep.RegionLaw
import Derived.Lib.Buffer
set_option maxHeartbeats 6400000
set_option maxRecDepth 100000
namespace Go.Proofs.YtfgpbdieaflclaaGreat.Nm
open Go.RowKit Go.Maps Sp Lx Gr
theorem most_any (k:Nat) (h:k<=4) (w:World):Calls Tryz.prog 69 #[.int .i64 (k:Int)] w fun e w'=>e=.returned (.int .i64 (mst k:Nat))/\w'=w:=by
 have hix:∀ u,(Instr.index 53 (.agg #[.int .i64 0,.int .i64 16,.int .i64 16,.int .i64 4,.int .i64 64]) (.int .i64 (k:Int))).run Tryz.prog u=.ok (.int .i64 (mst k:Nat)) u:=by
  obtain rfl | rfl | rfl | rfl | rfl:k=0\/k=1\/k=2\/k=3\/k=4:=by omega
  all_goals
   intro u
   kernel_rfl
 generalize mst k=z at *
 ·go_enter Tryz.func69,Tryz.ntmps69
  go_wp2
  go_ret
  exact ⟨rfl,rfl⟩
structure Fb (F:List Nat) (n:Nat) (w w':World):Prop where
 os:w'.os=w.os
 tape:w'.tape=w.tape
 output:w'.output=w.output
 size:w.heap.size<=w'.heap.size
 block:∀ k,k < n->k ∉ F->w'.heap[k]?=w.heap[k]?
theorem Fb.trans {F:List Nat} {n:Nat} {a b c:World} (h:Fb F n a b) (k:Fb F n b c):Fb F n a c:=⟨k.os.trans h.os,k.tape.trans h.tape,k.output.trans h.output,Nat.le_trans h.size k.size,fun x hx hn=>(k.block x hx hn).trans (h.block x hx hn)⟩
theorem Fb.mono {F:List Nat} {n m:Nat} {a b:World} (h:Fb F n a b) (hm:m<=n):Fb F m a b:=⟨h.os,h.tape,h.output,h.size,fun x hx hn=>h.block x (Nat.lt_of_lt_of_le hx hm) hn⟩
theorem Fb.of_below {F:List Nat} {n:Nat} {w w':World} (h:Below n w w'):Fb F n w w':=⟨h.os,h.tape,h.output,h.size,fun k hk _=>h.block k hk⟩
theorem Fb.set {F:List Nat} {n:Nat} (w:World) {g:Nat} (i:Nat) (v:Value) (hg:n<=g):Fb F n w (w.setCell ⟨g,i,none⟩ v):=⟨rfl,rfl,rfl,by simp [World.setCell],fun k hk _=>Below.heap_setCell w _ v k (fun e=>by have e2:k=g:=e;omega)⟩
end Go.Proofs.YtfgpbdieaflclaaGreat.Nm
namespace Go.Proofs.YtfgpbdieaflclaaGreat.Nm
open Go.RowKit Go.Maps Sp Lx Gr
theorem inOrder_inv {w:World} {ao:Option Addr} {n cap ab acap:Nat} (F:List Nat) (St:Nat->Nat->World->Prop) (Er:Nat->Nat->Prop) (Inv:World->Prop) (fs:Nat->Nat) (cs:Nat->Array Value) (hn:n<=2932031007317) (hF:∀ k ∈ F,k < w.heap.size)
  (hent:∀ j,j < 3->∀ (args:Array Value) (u:World),(callFunc (fs j) args).run Tryz.prog u=.ok (.enter (fs j) args) u)
  (hask:∀ i j W,j < 3->St i j W->W.cell? ⟨ab,j,none⟩=some (.func (.func (fs j)) #[] (cs j)))
  (hstep:∀ i j W,i < n->j < 3->w.heap.size < W.heap.size->St i j W->Calls Tryz.prog (fs j) (#[.int .i64 (i:Int)]++cs j) W fun e w'=>Fb F (w.heap.size+1) W w'/\((e=.returned (.int .i64 0)/\St i (j+1) w')\/∃ c:Nat,0 < c/\c<=1000/\e=.returned (.int .i64 (c:Int))/\Er i c/\Inv w')) (hinv:∀ W (q:Nat) v,Inv W->Inv (W.setCell ⟨w.heap.size,q,none⟩ v))
  (hnext:∀ i W,St i 3 W->St (i+1) 0 W) (hset:∀ i j W (q:Nat) v,St i j W->St i j (W.setCell ⟨w.heap.size,q,none⟩ v)) (h0:St 0 0 (w.alloc (.cells #[.int .i64 0,.int .i64 0] 31))):
  Calls Tryz.prog 48 #[.slice ao n cap,.slice (some ⟨ab,0,none⟩) 3 acap] w fun e w'=>(e=.returned (.agg #[.int .i64 0,.int .i64 0])/\St n 0 w'/\Fb F w.heap.size w w')\/(∃ i c:Nat,i < n/\0 < c/\e=.returned (.agg #[.int .i64 (c:Int),.int .i64 (i:Int)])/\Er i c/\Inv w'/\Fb F w.heap.size w w'):=by
 have hn':(n:Int)<=2932031007317:=by omega
 have HS0:Hid (St 0 0 (w.alloc (.cells #[.int .i64 0,.int .i64 0] 31))/\Fb F w.heap.size w (w.alloc (.cells #[.int .i64 0,.int .i64 0] 31))/\(w.alloc (.cells #[.int .i64 0,.int .i64 0] 31)).heap[w.heap.size]?=some (.cells #[.int .i64 0,.int .i64 0] 31 (0,0))):=
  ⟨h0,Fb.of_below (bAl w _),heap_alloc_new w _⟩
 have HAsk:=hdn <| hask
 have HStep:=hdn <| hstep
 have HNext:=hdn <| hnext
 have HSet:=hdn <| hset
 have HInv:=hdn <| hinv
 have HF:=hdn <| hF
 clear hask hstep hnext hset h0 hn hF hinv
 go_enter Tryz.func48,Tryz.ntmps48
 go_wp2_with fail
 generalize w.alloc (.cells #[.int .i64 0,.int .i64 0] 31)=w1 at *
 go_loopg [11] n (fun r vi wr=>∃ i:Nat,i+r=n/\vi=.int .i64 (i:Int)/\St i 0 wr/\Fb F w.heap.size w wr/\wr.heap[w.heap.size]?=some (.cells #[.int .i64 0,.int .i64 0] 31 (0,0)))
 case atStart=>exact ⟨0,by omega,rfl,HS0.out.1,HS0.out.2.1,HS0.out.2.2⟩
 case round=>
  obtain ⟨i,hir,rfl,hSt,hFr,hbx⟩:=hrel
  have HI:Hid (i+gk=n/\St i 0 wr/\Fb F w.heap.size w wr/\wr.heap[w.heap.size]?=some (.cells #[.int .i64 0,.int .i64 0] 31 (0,0))):=⟨hir,hSt,hFr,hbx⟩
  clear hSt hFr hbx hir HS0
  by_cases hi:i < n
  ·have hi':(i:Int) < (n:Int):=by omega
   have HIn:Hid (i < n):=hi
   have hi2:(i:Int)<=2932031007317:=by omega
   clear hi
   go_wp2_with fail
   go_loopg [16] 3 (fun r vj wq=>∃ j:Nat,j+r=3/\vj=.int .i64 (j:Int)/\St i j wq/\Fb F w.heap.size w wq/\wq.heap[w.heap.size]?=some (.cells #[.int .i64 0,.int .i64 0] 31 (0,0)))
   case atStart=>exact ⟨0,by omega,rfl,HI.out.2.1,HI.out.2.2.1,HI.out.2.2.2⟩
   case round=>
    obtain ⟨j,hjr,rfl,hSt,hFr,hbx⟩:=hrel
    have HJ:Hid (j+gk=3/\St i j wr/\Fb F w.heap.size w wr/\wr.heap[w.heap.size]?=some (.cells #[.int .i64 0,.int .i64 0] 31 (0,0))):=⟨hjr,hSt,hFr,hbx⟩
    by_cases hj:j < 3
    ·have hj':(j:Int) < 3:=by omega
     have hc:=HAsk.out i j wr hj hSt
     have he:=hent j hj
     have HC:=hdn <| HStep.out i j wr HIn.out hj (Array.getElem?_eq_some_iff.1 hbx).1 hSt
     clear hSt hFr hbx hjr hj
     go_wp2_with fail
     refine Calls.mono HC.out ?_
     rintro e w3 ⟨hf,⟨rfl,hs3⟩ | ⟨c,hc0,hc1,rfl,her,hiv⟩⟩
     ·have H3:Hid (St i (j+1) w3/\Fb F w.heap.size w w3/\w3.heap[w.heap.size]?=some (.cells #[.int .i64 0,.int .i64 0] 31 (0,0))):=⟨hs3,HJ.out.2.2.1.trans (hf.mono (Nat.le_succ _)),(hf.block w.heap.size (Nat.lt_succ_self _) (fun hm=>by have:=HF.out _ hm;omega)).trans HJ.out.2.2.2⟩
      clear hf hs3 HC
      go_wp2_with fail
      go_roundg (3 - (j+1))
      case measure=>have:=HJ.out.1;omega
      case rel=>exact ⟨j+1,by have:=HJ.out.1;omega,by go_num,H3.out.1,H3.out.2.1,H3.out.2.2⟩
     ·have hb3:w3.heap[w.heap.size]?=some (.cells #[.int .i64 0,.int .i64 0] 31 (0,0)):=(hf.block w.heap.size (Nat.lt_succ_self _) (fun hm=>by have:=HF.out _ hm;omega)).trans HJ.out.2.2.2
      have HX:Hid (w3.heap[w.heap.size]?=some (.cells #[.int .i64 0,.int .i64 0] 31 (0,0))/\Fb F w.heap.size w w3/\0 < c/\Er i c/\Inv w3):=⟨hb3,HJ.out.2.2.1.trans (hf.mono (Nat.le_succ _)),hc0,her,hiv⟩
      have x0:w3.cell? ⟨w.heap.size,0,none⟩=some (.int .i64 0):=by rw [World.cell?,hb3];rfl
      have x1:w3.cell? ⟨w.heap.size,1,none⟩=some (.int .i64 0):=by rw [World.cell?,hb3];rfl
      have x2:w3.frozen? ⟨w.heap.size,0,none⟩=false:=by rw [World.frozen?,hb3];rfl
      have x3:w3.frozen? ⟨w.heap.size,1,none⟩=false:=by rw [World.frozen?,hb3];rfl
      have hcn:((c:Int) != 0)=true:=by simp;omega
      have hc1':(c:Int)<=1000:=by omega
      clear hf hc0 her hiv hb3 HC hc1
      go_wp2_with fail
      obtain ⟨q0,q1⟩:=two_cells (.int .i64 (c:Int)) (.int .i64 (i:Int)) HX.out.1
      exact bodyPost_ret (v:=.agg #[.int .i64 (c:Int),.int .i64 (i:Int)]) (by simp [results,Tryz.results48,go_sem,q0,q1]) rfl (Or.inr ⟨i,c,HIn.out,HX.out.2.2.1,rfl,HX.out.2.2.2.1,HInv.out _ _ _ (HInv.out _ _ _ HX.out.2.2.2.2),(HX.out.2.1.trans (Fb.set _ _ _ (Nat.le_refl _))).trans (Fb.set _ _ _ (Nat.le_refl _))⟩)
    ·obtain rfl:j=3:=by have:=HJ.out.1;omega
     have hS4:=HNext.out i wr hSt
     have H4:Hid (St (i+1) 0 wr/\Fb F w.heap.size w wr/\wr.heap[w.heap.size]?=some (.cells #[.int .i64 0,.int .i64 0] 31 (0,0))):=⟨hS4,hFr,hbx⟩
     clear hS4 hSt hFr hbx hjr hj
     go_wp2_with fail
     go_roundg (n - (i+1))
     case measure=>have:=HI.out.1;have:=HIn.out;omega
     case rel=>exact ⟨i+1,by have:=HIn.out;omega,by go_num,H4.out.1,H4.out.2.1,H4.out.2.2⟩
  ·have hi':decide ((i:Int) < (n:Int))=false:=by simp;omega
   obtain rfl:i=n:=by have:=HI.out.1;omega
   have x0:wr.cell? ⟨w.heap.size,0,none⟩=some (.int .i64 0):=by rw [World.cell?,HI.out.2.2.2];rfl
   have x1:wr.cell? ⟨w.heap.size,1,none⟩=some (.int .i64 0):=by rw [World.cell?,HI.out.2.2.2];rfl
   have x2:wr.frozen? ⟨w.heap.size,0,none⟩=false:=by rw [World.frozen?,HI.out.2.2.2];rfl
   have x3:wr.frozen? ⟨w.heap.size,1,none⟩=false:=by rw [World.frozen?,HI.out.2.2.2];rfl
   go_wp2_with fail
   obtain ⟨q0,q1⟩:=two_cells (.int .i64 0) (.int .i64 0) HI.out.2.2.2
   exact bodyPost_ret (v:=.agg #[.int .i64 0,.int .i64 0]) (by simp [results,Tryz.results48,go_sem,q0,q1]) rfl (Or.inl ⟨rfl,HSet.out _ _ _ _ _ (HSet.out _ _ _ _ _ HI.out.2.1),(HI.out.2.2.1.trans (Fb.set _ _ _ (Nat.le_refl _))).trans (Fb.set _ _ _ (Nat.le_refl _))⟩)
end Go.Proofs.YtfgpbdieaflclaaGreat.Nm
namespace Go.Proofs.YtfgpbdieaflclaaGreat.Nm
open Go.RowKit
theorem below_drewN (w:World) (n:Nat):Below w.heap.size w (w.drewN n):=by
 induction n with
 | zero=>exact Below.refl _ _
 | succ n ih=>exact ih.drew
theorem run_append_keep {P:Program} (w:World) (base:Nat) (t ty e:TypeId) (i:TypeInfo) (z:Value) (size bytes:Nat) (ht:P.underlying t=some (.slice e)) (hi:P.info? e=some i) (hz:i.zero=some z)
  (hsize:i.size=size) (hby:i.bytes=bytes) (hzs:z.cells.size=size) (hsz:0 < size)
  (v:Value) (n:Nat) (xs:List Value) (hown:w.ownsRow base e size v n xs)
  (a:Addr) (m c:Nat) (news:List Value) (hl:news.length=m * size) (hnews:∀ j u,news[j]?=some u->w.cell? (a.add j)=some u) (h1:∀ u ∈ news,u.oneCell'=true)
  (h63:n+m<=maxLen) (hbytes:(n+m) * bytes<=140737488355328) (hbase:base<=w.heap.size) (hm:0 < m):
  ∃ v' w',(Builtin.append_ #[t,t] ty #[v,.slice (some a) m c]).run P w=.ok v' w'/\w'.ownsRow base e size v' (n+m) (xs++news)/\w.grownBy w' v.ownBlock /\
   ((∃ g,v.ownBlock=some g/\v'.ownBlock=some g)\/((∀ k,k < w.heap.size->w'.heap[k]?=w.heap[k]?)/\∀ g,v'.ownBlock=some g->w.heap.size<=g)):=by
 obtain ⟨v',w',hr,h2,h3,_⟩:=run_append_own (P:=P) w base t ty e i z size bytes ht hi hz hsize hby hzs hsz v n xs hown a m c news hl hnews h1 h63 hbytes hbase
 refine ⟨v',w',hr,h2,h3,?_⟩
 subst hsize
 subst hby
 have hsmall:n+m<=9223372036854775807:=by simp only [maxLen] at h63;omega
 rcases hown.2 with ⟨rfl,rfl⟩ | ⟨g,cap,cur,rfl,hbg,hg,hnc,hcm,hcs,htake⟩
 ·right
  have hr2:=run_append_nil (P:=P) w t ty e i z ht hi hz a m c news hl hnews (by omega) (by omega) (by have hb:=hbytes;simp only [Nat.zero_add] at hb;omega)
  rw [hr2] at hr
  cases hr
  refine ⟨fun k hk=>Below.heap_alloc w.drew _ k hk,fun g hg=>?_⟩
  simp only [Value.ownBlock,Option.some.injEq] at hg
  omega
 ·by_cases hroom:n+m<=cap
  ·left
   have hfit:n * i.size+news.length<=cur.size:=by rw [hl,hcs,<-Nat.add_mul];exact Nat.mul_le_mul_right _ hroom
   have hr2:=run_append_room (P:=P) w t ty e i ht hi g n cap cur hg a m c news hl hnews h1 hroom hfit
   rw [hr2] at hr
   cases hr
   exact ⟨g,rfl,rfl⟩
  ·right
   have holds:∀ j u,xs[j]?=some u->w.cell? ((⟨g,0,none⟩:Addr).add j)=some u:=hown.cells (g:=g) rfl
   have hr2:=run_append_grow (P:=P) w t ty e i z ht hi hz ⟨g,0,none⟩ n cap xs hown.1 holds a m c news hl hnews (by omega) (by omega) (growslice_fits (by omega) hbytes)
   rw [hr2] at hr
   cases hr
   refine ⟨fun k hk=>Below.heap_alloc w.drew _ k hk,fun g hg=>?_⟩
   simp only [Value.ownBlock,Option.some.injEq] at hg
   omega
theorem append_keep {P:Program} (w:World) {ops:Array Oper} {rest:List Oper} {o:Oper} {a:Act} {Q:Exit->Act->World->Prop} (hgd:o.guard=none) (s x:Operand) (t:TypeId)
  (ho:o.op=.call { callee:=.builtin .append,args:=#[s,x],argTypes:=#[t,t] })
  (base:Nat) (e:TypeId) (i:TypeInfo) (z:Value) (size bytes:Nat) (ht:P.underlying t=some (.slice e)) (hi:P.info? e=some i) (hz:i.zero=some z)
  (hsize:i.size=size) (hby:i.bytes=bytes) (hzs:z.cells.size=size) (hsz:0 < size)
  (v:Value) (n:Nat) (xs:List Value) (hs:a.eval s=v) (hown:w.ownsRow base e size v n xs)
  (ad:Addr) (m c:Nat) (news:List Value) (hx:a.eval x=.slice (some ad) m c) (hl:news.length=m * size) (hnews:∀ j u,news[j]?=some u->w.cell? (ad.add j)=some u) (h1:∀ u ∈ news,u.oneCell'=true)
  (h63:n+m<=maxLen) (hbytes:(n+m) * bytes<=140737488355328) (hbase:base<=w.heap.size) (hm:0 < m)
  (h:∀ v' w',w'.ownsRow base e size v' (n+m) (xs++news)->w.grownBy w' v.ownBlock->((∃ g,v.ownBlock=some g/\v'.ownBlock=some g)\/((∀ k,k < w.heap.size->w'.heap[k]?=w.heap[k]?)/\∀ g,v'.ownBlock=some g->w.heap.size<=g))->wpList P ops Q rest (a.put o.dst v') w'):wpList P ops Q (o :: rest) a w:=by
 refine wpList_plain hgd fun K hK=>?_
 obtain ⟨v',w',hr,h2,h3,h4⟩:=run_append_keep (P:=P) w base t o.type e i z size bytes ht hi hz hsize hby hzs hsz v n xs hown ad m c news hl hnews h1 h63 hbytes hbase hm
 unfold Oper.wp execOp
 simp only [ho,resolve,invoke,builtin,Sem.run_bind,Sem.run_pure,Result.andThen_ok,List.map_toArray,List.map_cons,List.map_nil,hs,hx,hr]
 exact hK _ _ (h v' w' h2 h3 h4)
theorem own_below {w w':World} {base:Nat} {e:TypeId} {size:Nat} {v:Value} {n:Nat} {xs:List Value} (h:w.ownsRow base e size v n xs) (hb:Below w.heap.size w w'):w'.ownsRow base e size v n xs:=by
 refine World.ownsRow.kept h (row:=none) ⟨hb.os,hb.tape,hb.output,hb.size,fun k hk _=>hb.block k hk⟩ ?_
 cases v.ownBlock with
 | none=>exact Or.inl rfl
 | some k=>exact Or.inr (by simp)
def Gone (w:World) (v:Value) (w':World) (v':Value):Prop:=
 w.grownBy w' v.ownBlock/\((∃ g,v.ownBlock=some g/\v'.ownBlock=some g)\/((∀ k,k < w.heap.size->w'.heap[k]?=w.heap[k]?)/\∀ g,v'.ownBlock=some g->w.heap.size<=g))
theorem Gone.own {w w':World} {v v':Value} (h:Gone w v w' v'):v'.ownBlock=v.ownBlock\/∀ k,v'.ownBlock=some k->w.heap.size<=k:=by
 rcases h.2 with ⟨g,h1,h2⟩ | ⟨_,h2⟩
 ·exact Or.inl (h2.trans h1.symm)
 ·exact Or.inr h2
theorem append_gone {P:Program} (w:World) {ops:Array Oper} {rest:List Oper} {o:Oper} {a:Act} {Q:Exit->Act->World->Prop} (hgd:o.guard=none) (s x:Operand) (t:TypeId)
  (ho:o.op=.call { callee:=.builtin .append,args:=#[s,x],argTypes:=#[t,t] })
  (base:Nat) (e:TypeId) (i:TypeInfo) (z:Value) (size bytes:Nat) (ht:P.underlying t=some (.slice e)) (hi:P.info? e=some i) (hz:i.zero=some z)
  (hsize:i.size=size) (hby:i.bytes=bytes) (hzs:z.cells.size=size) (hsz:0 < size)
  (v:Value) (n:Nat) (xs:List Value) (hs:a.eval s=v) (hown:w.ownsRow base e size v n xs)
  (ad:Addr) (m c:Nat) (news:List Value) (hx:a.eval x=.slice (some ad) m c) (hl:news.length=m * size) (hnews:∀ j u,news[j]?=some u->w.cell? (ad.add j)=some u) (h1:∀ u ∈ news,u.oneCell'=true)
  (h63:n+m<=maxLen) (hbytes:(n+m) * bytes<=140737488355328) (hbase:base<=w.heap.size) (hm:0 < m)
  (h:∀ v' w',w'.ownsRow base e size v' (n+m) (xs++news)->Gone w v w' v'->wpList P ops Q rest (a.put o.dst v') w'):wpList P ops Q (o :: rest) a w:=
 append_keep w hgd s x t ho base e i z size bytes ht hi hz hsize hby hzs hsz v n xs hs hown ad m c news hx hl hnews h1 h63 hbytes hbase hm fun v' w' h1 h2 h3=>h v' w' h1 ⟨h2,h3⟩
theorem step_gone {P:Program} (w:World) {ops:Array Oper} {o:Oper} {a:Act} {K:Act->World->Prop} {Q:Exit->Act->World->Prop} {E:Prop} (hgd:o.guard=none) (s x:Operand) (t:TypeId)
  (ho:o.op=.call { callee:=.builtin .append,args:=#[s,x],argTypes:=#[t,t] })
  (base:Nat) (e:TypeId) (i:TypeInfo) (z:Value) (size bytes:Nat) (ht:P.underlying t=some (.slice e)) (hi:P.info? e=some i) (hz:i.zero=some z)
  (hsize:i.size=size) (hby:i.bytes=bytes) (hzs:z.cells.size=size) (hsz:0 < size)
  (v:Value) (n:Nat) (xs:List Value) (hs:a.eval s=v) (hown:w.ownsRow base e size v n xs)
  (ad:Addr) (m c:Nat) (news:List Value) (hx:a.eval x=.slice (some ad) m c) (hl:news.length=m * size) (hnews:∀ j u,news[j]?=some u->w.cell? (ad.add j)=some u) (h1:∀ u ∈ news,u.oneCell'=true)
  (h63:n+m<=maxLen) (hbytes:(n+m) * bytes<=140737488355328) (hbase:base<=w.heap.size) (hm:0 < m)
  (h:∀ v' w',w'.ownsRow base e size v' (n+m) (xs++news)->Gone w v w' v'->K (a.put o.dst v') w'):if Region.wanted o (yielded ops a.tmps)=true then Oper.wp P o a w K Q else E:=by
 have hw:Region.wanted o (yielded ops a.tmps)=true:=by simp [Region.wanted,hgd]
 rw [if_pos hw]
 obtain ⟨v',w',hr,h2,h3,h4⟩:=run_append_keep (P:=P) w base t o.type e i z size bytes ht hi hz hsize hby hzs hsz v n xs hown ad m c news hl hnews h1 h63 hbytes hbase hm
 unfold Oper.wp execOp
 simp only [ho,resolve,invoke,builtin,Sem.run_bind,Sem.run_pure,Result.andThen_ok,List.map_toArray,List.map_cons,List.map_nil,hs,hx,hr]
 exact h v' w' h2 ⟨h3,h4⟩
theorem cell_one (w:World) (T:TypeId) (a:Value):∀ j u,[a][j]?=some u->(w.alloc (.cells #[a] T)).cell? ((⟨w.heap.size,0,none⟩:Addr).add j)=some u:=by
 intro j u h
 have:=Lib.cells_of_row (heap_alloc_new w (.cells #[a] T)) 1 j u (by simpa using h)
 exact this
theorem own_form {w:World} {base:Nat} {e:TypeId} {size:Nat} {v:Value} {n:Nat} {xs:List Value} (h:w.ownsRow base e size v n xs):∃ bo bc,v=.slice bo n bc:=by
 rcases h.2 with ⟨rfl,h0⟩ | ⟨g,cap,cur,rfl,_⟩
 ·exact ⟨none,0,by rw [h0]⟩
 ·exact ⟨_,_,rfl⟩
theorem own_block {w:World} {base:Nat} {e:TypeId} {size:Nat} {v:Value} {n:Nat} {xs:List Value} (h:w.ownsRow base e size v n xs) (hn:0 < n):∃ g cap cur,v=.slice (some ⟨g,0,none⟩) n cap/\base<=g/\w.heap[g]?=some (.cells (List.toArray cur) e (0,0))/\n<=cap/\cap<=maxLen/\cur.length=cap * size/\cur.take (n * size)=xs:=by
 rcases h.2 with ⟨_,h0⟩ | ⟨g,cap,cur,h1,h2,h3,h4,h5,h6,h7⟩
 ·omega
 ·exact ⟨g,cap,cur.toList,h1,h2,by simpa using h3,h4,h5,by simpa using h6,h7⟩
theorem own_mk {w:World} {base:Nat} {e:TypeId} {size n g cap:Nat} {cur xs:List Value} (hx:xs.length=n * size) (h2:base<=g) (h3:w.heap[g]?=some (.cells cur.toArray e (0,0))) (h4:n<=cap) (h5:cap<=maxLen) (h6:cur.length=cap * size) (h7:cur.take (n * size)=xs):
  w.ownsRow base e size (.slice (some ⟨g,0,none⟩) n cap) n xs:=⟨hx,Or.inr ⟨g,cap,cur.toArray,rfl,h2,h3,h4,h5,by simpa using h6,by simpa using h7⟩⟩
end Go.Proofs.YtfgpbdieaflclaaGreat.Nm
