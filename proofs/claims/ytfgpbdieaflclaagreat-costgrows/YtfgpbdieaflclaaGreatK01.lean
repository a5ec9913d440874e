import Derived.Test.YtfgpbdieaflclaaGreatK00
import Derived.Laws.OwnMore
import Derived.Deep.RegionLaw
import Derived.KernelRfl
set_option maxHeartbeats 4000000
set_option maxRecDepth 100000
namespace Go.Proofs.YtfgpbdieaflclaaGreat.Lx
open Go.RowKit Sp
theorem run_append_keep {P:Program} (w:World) (base:Nat) (t ty e:TypeId) (i:TypeInfo) (z:Value) (size bytes:Nat) (ht:P.underlying t=some (.slice e)) (hi:P.info? e=some i) (hz:i.zero=some z)
  (hsize:i.size=size) (hby:i.bytes=bytes) (hzs:z.cells.size=size) (hsz:0 < size)
  (v:Value) (n:Nat) (xs:List Value) (hown:w.ownsRow base e size v n xs)
  (a:Addr) (m c:Nat) (news:List Value) (hl:news.length=m * size) (hnews:∀ j u,news[j]?=some u->w.cell? (a.add j)=some u) (h1:∀ u ∈ news,u.oneCell'=true)
  (h63:n+m<=maxLen) (hbytes:(n+m) * bytes<=140737488355328) (hbase:base<=w.heap.size) (hm:0 < m):
  ∃ v' w',(Builtin.append_ #[t,t] ty #[v,.slice (some a) m c]).run P w=.ok v' w'/\w'.ownsRow base e size v' (n+m) (xs++news)/\w.grownBy w' v.ownBlock /\
   ((∃ g,v.ownBlock=some g/\v'.ownBlock=some g)\/((∀ k,k < w.heap.size->w'.heap[k]?=w.heap[k]?)/\∀ g,v'.ownBlock=some g->w.heap.size<=g)):=by
 obtain ⟨v',w',hr,h2,h3,_⟩:=run_append_own (P:=P) w base t ty e i z size bytes ht hi hz hsize hby hzs hsz v n xs hown a m c news hl hnews h1 h63 hbytes hbase
 refine ⟨v',w',hr,h2,h3,?_⟩
 subst hsize
 subst hby
 have hsmall:n+m<=9223372036854775807:=by simp only [maxLen] at h63;omega
 rcases hown.2 with ⟨rfl,rfl⟩ | ⟨g,cap,cur,rfl,hbg,hg,hnc,hcm,hcs,htake⟩
 ·right
  have hr2:=run_append_nil (P:=P) w t ty e i z ht hi hz a m c news hl hnews (by omega) (by omega) (by have hb:=hbytes;simp only [Nat.zero_add] at hb;omega)
  rw [hr2] at hr
  cases hr
  refine ⟨fun k hk=>Below.heap_alloc w.drew _ k hk,fun g hg=>?_⟩
  simp only [Value.ownBlock,Option.some.injEq] at hg
  omega
 ·by_cases hroom:n+m<=cap
  ·left
   have hfit:n * i.size+news.length<=cur.size:=by rw [hl,hcs,<-Nat.add_mul];exact Nat.mul_le_mul_right _ hroom
   have hr2:=run_append_room (P:=P) w t ty e i ht hi g n cap cur hg a m c news hl hnews h1 hroom hfit
   rw [hr2] at hr
   cases hr
   exact ⟨g,rfl,rfl⟩
  ·right
   have holds:∀ j u,xs[j]?=some u->w.cell? ((⟨g,0,none⟩:Addr).add j)=some u:=hown.cells (g:=g) rfl
   have hr2:=run_append_grow (P:=P) w t ty e i z ht hi hz ⟨g,0,none⟩ n cap xs hown.1 holds a m c news hl hnews (by omega) (by omega) (growslice_fits (by omega) hbytes)
   rw [hr2] at hr
   cases hr
   refine ⟨fun k hk=>Below.heap_alloc w.drew _ k hk,fun g hg=>?_⟩
   simp only [Value.ownBlock,Option.some.injEq] at hg
   omega
theorem append_keep {P:Program} (w:World) {ops:Array Oper} {rest:List Oper} {o:Oper} {a:Act} {Q:Exit->Act->World->Prop} (hgd:o.guard=none) (s x:Operand) (t:TypeId)
  (ho:o.op=.call { callee:=.builtin .append,args:=#[s,x],argTypes:=#[t,t] })
  (base:Nat) (e:TypeId) (i:TypeInfo) (z:Value) (size bytes:Nat) (ht:P.underlying t=some (.slice e)) (hi:P.info? e=some i) (hz:i.zero=some z)
  (hsize:i.size=size) (hby:i.bytes=bytes) (hzs:z.cells.size=size) (hsz:0 < size)
  (v:Value) (n:Nat) (xs:List Value) (hs:a.eval s=v) (hown:w.ownsRow base e size v n xs)
  (ad:Addr) (m c:Nat) (news:List Value) (hx:a.eval x=.slice (some ad) m c) (hl:news.length=m * size) (hnews:∀ j u,news[j]?=some u->w.cell? (ad.add j)=some u) (h1:∀ u ∈ news,u.oneCell'=true)
  (h63:n+m<=maxLen) (hbytes:(n+m) * bytes<=140737488355328) (hbase:base<=w.heap.size) (hm:0 < m)
  (h:∀ v' w',w'.ownsRow base e size v' (n+m) (xs++news)->w.grownBy w' v.ownBlock->((∃ g,v.ownBlock=some g/\v'.ownBlock=some g)\/((∀ k,k < w.heap.size->w'.heap[k]?=w.heap[k]?)/\∀ g,v'.ownBlock=some g->w.heap.size<=g))->wpList P ops Q rest (a.put o.dst v') w'):wpList P ops Q (o :: rest) a w:=by
 refine wpList_plain hgd fun K hK=>?_
 obtain ⟨v',w',hr,h2,h3,h4⟩:=run_append_keep (P:=P) w base t o.type e i z size bytes ht hi hz hsize hby hzs hsz v n xs hown ad m c news hl hnews h1 h63 hbytes hbase hm
 unfold Oper.wp execOp
 simp only [ho,resolve,invoke,builtin,Sem.run_bind,Sem.run_pure,Result.andThen_ok,List.map_toArray,List.map_cons,List.map_nil,hs,hx,hr]
 exact hK _ _ (h v' w' h2 h3 h4)
end Go.Proofs.YtfgpbdieaflclaaGreat.Lx
namespace Go.Proofs.YtfgpbdieaflclaaGreat.Gr
open Go.RowKit Sp Lx
theorem info3:(Tryz.prog.info? 3).map (fun i=>(i.zero,i.size,i.bytes))=some (some (.int .i64 0),1,8):=by kernel_rfl
theorem own_below {w w':World} {base:Nat} {e:TypeId} {size:Nat} {v:Value} {n:Nat} {xs:List Value} (h:w.ownsRow base e size v n xs) (hb:Below w.heap.size w w'):w'.ownsRow base e size v n xs:=by
 refine World.ownsRow.kept h (row:=none) ⟨hb.os,hb.tape,hb.output,hb.size,fun k hk _=>hb.block k hk⟩ ?_
 cases v.ownBlock with
 | none=>exact Or.inl rfl
 | some k=>exact Or.inr (by simp)
def Gone (w:World) (v:Value) (w':World) (v':Value):Prop:=
 w.grownBy w' v.ownBlock/\((∃ g,v.ownBlock=some g/\v'.ownBlock=some g)\/((∀ k,k < w.heap.size->w'.heap[k]?=w.heap[k]?)/\∀ g,v'.ownBlock=some g->w.heap.size<=g))
theorem Gone.own {w w':World} {v v':Value} (h:Gone w v w' v'):v'.ownBlock=v.ownBlock\/∀ k,v'.ownBlock=some k->w.heap.size<=k:=by
 rcases h.2 with ⟨g,h1,h2⟩ | ⟨_,h2⟩
 ·exact Or.inl (h2.trans h1.symm)
 ·exact Or.inr h2
theorem append_gone {P:Program} (w:World) {ops:Array Oper} {rest:List Oper} {o:Oper} {a:Act} {Q:Exit->Act->World->Prop} (hgd:o.guard=none) (s x:Operand) (t:TypeId)
  (ho:o.op=.call { callee:=.builtin .append,args:=#[s,x],argTypes:=#[t,t] })
  (base:Nat) (e:TypeId) (i:TypeInfo) (z:Value) (size bytes:Nat) (ht:P.underlying t=some (.slice e)) (hi:P.info? e=some i) (hz:i.zero=some z)
  (hsize:i.size=size) (hby:i.bytes=bytes) (hzs:z.cells.size=size) (hsz:0 < size)
  (v:Value) (n:Nat) (xs:List Value) (hs:a.eval s=v) (hown:w.ownsRow base e size v n xs)
  (ad:Addr) (m c:Nat) (news:List Value) (hx:a.eval x=.slice (some ad) m c) (hl:news.length=m * size) (hnews:∀ j u,news[j]?=some u->w.cell? (ad.add j)=some u) (h1:∀ u ∈ news,u.oneCell'=true)
  (h63:n+m<=maxLen) (hbytes:(n+m) * bytes<=140737488355328) (hbase:base<=w.heap.size) (hm:0 < m)
  (h:∀ v' w',w'.ownsRow base e size v' (n+m) (xs++news)->Gone w v w' v'->wpList P ops Q rest (a.put o.dst v') w'):wpList P ops Q (o :: rest) a w:=
 append_keep w hgd s x t ho base e i z size bytes ht hi hz hsize hby hzs hsz v n xs hs hown ad m c news hx hl hnews h1 h63 hbytes hbase hm fun v' w' h1 h2 h3=>h v' w' h1 ⟨h2,h3⟩
theorem step_gone {P:Program} (w:World) {ops:Array Oper} {o:Oper} {a:Act} {K:Act->World->Prop} {Q:Exit->Act->World->Prop} {E:Prop} (hgd:o.guard=none) (s x:Operand) (t:TypeId)
  (ho:o.op=.call { callee:=.builtin .append,args:=#[s,x],argTypes:=#[t,t] })
  (base:Nat) (e:TypeId) (i:TypeInfo) (z:Value) (size bytes:Nat) (ht:P.underlying t=some (.slice e)) (hi:P.info? e=some i) (hz:i.zero=some z)
  (hsize:i.size=size) (hby:i.bytes=bytes) (hzs:z.cells.size=size) (hsz:0 < size)
  (v:Value) (n:Nat) (xs:List Value) (hs:a.eval s=v) (hown:w.ownsRow base e size v n xs)
  (ad:Addr) (m c:Nat) (news:List Value) (hx:a.eval x=.slice (some ad) m c) (hl:news.length=m * size) (hnews:∀ j u,news[j]?=some u->w.cell? (ad.add j)=some u) (h1:∀ u ∈ news,u.oneCell'=true)
  (h63:n+m<=maxLen) (hbytes:(n+m) * bytes<=140737488355328) (hbase:base<=w.heap.size) (hm:0 < m)
  (h:∀ v' w',w'.ownsRow base e size v' (n+m) (xs++news)->Gone w v w' v'->K (a.put o.dst v') w'):if Region.wanted o (yielded ops a.tmps)=true then Oper.wp P o a w K Q else E:=by
 have hw:Region.wanted o (yielded ops a.tmps)=true:=by simp [Region.wanted,hgd]
 rw [if_pos hw]
 obtain ⟨v',w',hr,h2,h3,h4⟩:=run_append_keep (P:=P) w base t o.type e i z size bytes ht hi hz hsize hby hzs hsz v n xs hown ad m c news hl hnews h1 h63 hbytes hbase hm
 unfold Oper.wp execOp
 simp only [ho,resolve,invoke,builtin,Sem.run_bind,Sem.run_pure,Result.andThen_ok,List.map_toArray,List.map_cons,List.map_nil,hs,hx,hr]
 exact h v' w' h2 ⟨h3,h4⟩
theorem cell_five (w:World) (T:TypeId) (a b c d f:Value):∀ j u,[a,b,c,d,f][j]?=some u->(w.alloc (.cells #[a,b,c,d,f] T)).cell? ((⟨w.heap.size,0,none⟩:Addr).add j)=some u:=by
 intro j u h
 have:=Lib.cells_of_row (heap_alloc_new w (.cells #[a,b,c,d,f] T)) 5 j u (by simpa using h)
 exact this
theorem own_form {w:World} {base:Nat} {e:TypeId} {size:Nat} {v:Value} {n:Nat} {xs:List Value} (h:w.ownsRow base e size v n xs):∃ bo bc,v=.slice bo n bc:=by
 rcases h.2 with ⟨rfl,h0⟩ | ⟨g,cap,cur,rfl,_⟩
 ·exact ⟨none,0,by rw [h0]⟩
 ·exact ⟨_,_,rfl⟩
theorem own_block {w:World} {base:Nat} {e:TypeId} {size:Nat} {v:Value} {n:Nat} {xs:List Value} (h:w.ownsRow base e size v n xs) (hn:0 < n):∃ g cap cur,v=.slice (some ⟨g,0,none⟩) n cap/\base<=g/\w.heap[g]?=some (.cells (List.toArray cur) e (0,0))/\n<=cap/\cap<=maxLen/\cur.length=cap * size/\cur.take (n * size)=xs:=by
 rcases h.2 with ⟨_,h0⟩ | ⟨g,cap,cur,h1,h2,h3,h4,h5,h6,h7⟩
 ·omega
 ·exact ⟨g,cap,cur.toList,h1,h2,by simpa using h3,h4,h5,by simpa using h6,h7⟩
def ruleOf (k:Int):Nat:=
 if k=54 then 1 else if k=53 then 2 else if k=47\/k=48\/k=49\/k=50\/k=51\/k=52 then 3
 else if k=45\/k=46 then 4 else if k=43\/k=44 then 5 else if k=41\/k=42 then 6 else 7
def least (k:Int):Nat:=
 if k=1\/k=11 then 0 else if k=20 then 0
 else if k=5\/k=6\/k=7\/k=8\/k=9\/k=10\/k=14\/k=19\/k=38\/k=41\/k=42 then 1
 else if k=12 then 2 else if k=15\/k=39\/k=40 then 2 else if k=4\/k=13 then 3 else if ruleOf k < 6 then 2 else 0
def greatest (k:Int):Int:=
 if k=1\/k=11 then 9223372036854775807 else if k=20 then 1
 else if k=5\/k=6\/k=7\/k=8\/k=9\/k=10\/k=14\/k=19\/k=38\/k=41\/k=42 then 1
 else if k=12 then 3 else if k=15\/k=39\/k=40 then 2 else if k=4\/k=13 then 3 else if ruleOf k < 6 then 2 else 0
theorem ruleOf_any (k:Int) (w:World):Calls Tryz.prog 104 #[.int .i64 k] w fun e w'=>e=.returned (.int .i64 (ruleOf k:Nat))/\w'=w:=by
 go_enter Tryz.func104,Tryz.ntmps104
 go_wp2
 all_goals go_ret
 all_goals refine ⟨?_,rfl⟩
 all_goals simp only [beq_iff_eq,beq_eq_false_iff_ne,ne_eq] at *
 all_goals simp [ruleOf, *]
theorem kidsOf_any (k:Int) (w:World):Calls Tryz.prog 99 #[.int .i64 k] w fun e w'=>e=.returned (.tuple #[.int .i64 (least k:Nat),.int .i64 (greatest k)])/\w'=w:=by
 by_cases hr:ruleOf k < 6
 ·have hr2:decide ((ruleOf k:Int) < 6)=true:=by simp;omega
  have HR:Hid (ruleOf k < 6):=hr
  clear hr
  go_enter Tryz.func99,Tryz.ntmps99
  go_wp2_with (go_at_call 104;refine (ruleOf_any _ _).mono ?_;rintro e w' ⟨rfl,rfl⟩)
  all_goals go_ret2
  all_goals refine ⟨?_,rfl⟩
  all_goals simp only [beq_iff_eq,beq_eq_false_iff_ne,ne_eq] at *
  all_goals simp [least,greatest,HR.out, *]
 ·have hr2:decide ((ruleOf k:Int) < 6)=false:=by simp;omega
  have HR:Hid (¬ ruleOf k < 6):=hr
  clear hr
  go_enter Tryz.func99,Tryz.ntmps99
  go_wp2_with (go_at_call 104;refine (ruleOf_any _ _).mono ?_;rintro e w' ⟨rfl,rfl⟩)
  all_goals go_ret2
  all_goals refine ⟨?_,rfl⟩
  all_goals simp only [beq_iff_eq,beq_eq_false_iff_ne,ne_eq] at *
  all_goals simp [least,greatest,HR.out, *]
def loose (p k d:Int):Bool:=
 if ruleOf p=7 then false else if ruleOf p=6\/ruleOf d ≠ ruleOf p then decide (ruleOf d < ruleOf p) else (k == 1 || ruleOf d == 3)
def rank (k:Int):Nat:=
 if k=54 then 1 else if k=53 then 2 else if 47<=k/\k<=52 then 3 else if k=45\/k=46 then 4 else if k=43\/k=44 then 5 else if k=41\/k=42 then 6 else if 27<=k/\k<=54 then 7 else 0
def refLoose (p k d:Int):Bool:=
 if rank p=0\/rank d=0\/rank p=7 then false else if rank p=6 then decide (rank d < 6) else (decide (rank d < rank p) || (rank d == rank p && (k == 1 || rank p == 3)))
theorem rank_rule (k:Int):(rank k=ruleOf k/\1<=ruleOf k/\ruleOf k<=7)\/(rank k=0/\ruleOf k=7):=by
 unfold rank ruleOf
 repeat' split
 all_goals omega
theorem loose_same (p k d:Int):refLoose p k d=loose p k d:=by
 unfold refLoose loose
 rcases rank_rule p with ⟨h1,h2,h3⟩ | ⟨h1,h2⟩<;>rcases rank_rule d with ⟨g1,g2,g3⟩ | ⟨g1,g2⟩
 ·rw [h1,g1]
  generalize ruleOf p=a at *
  generalize ruleOf d=b at *
  by_cases a7:a=7
  ·simp [a7]
  ·by_cases a6:a=6
   ·subst a6;simp;omega
   ·rw [if_neg (by omega),if_neg a6,if_neg a7]
    by_cases hab:b=a
    ·subst hab
     simp
     omega
    ·rw [if_pos (Or.inr hab)]
     simp [hab]
 ·rw [g1,g2]
  generalize ruleOf p=a at *
  by_cases a7:a=7
  ·simp [a7]
  ·rw [if_pos (Or.inr (Or.inl rfl)),if_neg a7,if_pos (Or.inr (by omega))]
   symm
   rw [decide_eq_false_iff_not]
   omega
 ·rw [h1,h2];simp
 ·rw [h1,h2];simp
theorem loose_any (p k d:Int) (w:World):Calls Tryz.prog 89 #[.int .i64 p,.int .i64 k,.int .i64 d] w fun e w'=>e=.returned (.bool (loose p k d))/\w'=w:=by
 have HL:Hid (loose p k d=if ruleOf p=7 then false else if ruleOf p=6\/ruleOf d ≠ ruleOf p then decide (ruleOf d < ruleOf p) else (k == 1 || ruleOf d == 3)):=rfl
 have H1:Hid (∀ w,Calls Tryz.prog 104 #[.int .i64 p] w fun e w'=>e=.returned (.int .i64 (ruleOf p:Nat))/\w'=w):=fun w=>ruleOf_any p w
 have H2:Hid (∀ w,Calls Tryz.prog 104 #[.int .i64 d] w fun e w'=>e=.returned (.int .i64 (ruleOf d:Nat))/\w'=w):=fun w=>ruleOf_any d w
 generalize loose p k d=res at *
 generalize ruleOf p=a at *
 generalize ruleOf d=b at *
 go_enter Tryz.func89,Tryz.ntmps89
 go_wp2_with fail
 refine (H1.out _).mono ?_
 rintro e w' ⟨rfl,rfl⟩
 go_wp2_with fail
 refine (H2.out _).mono ?_
 rintro e w' ⟨rfl,rfl⟩
 go_wp2
 all_goals go_ret
 all_goals refine ⟨congrArg (fun b=>Ending.returned (Value.bool b)) ?_,rfl⟩
 all_goals rw [HL.out]
 all_goals simp only [beq_iff_eq,beq_eq_false_iff_ne,bne_iff_ne,bne_eq_false_iff_eq,ne_eq] at *
 ·rw [if_pos (by omega)]
 ·rw [if_neg (by omega),if_pos (by omega)]
  rw [decide_eq_decide];omega
 ·rw [if_neg (by omega),if_pos (by omega)]
 ·rw [if_neg (by omega),if_neg (by omega)]
  simp
  omega
 ·rw [if_neg (by omega),if_neg (by omega)]
  have e3:((b:Int) == 3)=(b == 3):=by rw [Bool.eq_iff_iff];simp;omega
  first | rw [e3] | (subst_vars;simp_all)
end Go.Proofs.YtfgpbdieaflclaaGreat.Gr
namespace Go.Proofs.YtfgpbdieaflclaaGreat.Gr
structure Rz where
 kind:Int
 name:ByteArray
 stop:Int
 n:Int
 kids:Int
def Rz.m (r:Rz):Nat:=r.kids.toNat
structure Ab where
 kind:Int
 kids:Int
 seen:Nat
 kid:Int
 levels:Int
def ab0:Ab:=⟨0,0,0,0,0⟩
def top (t:List Ab):Ab:=t.headD ab0
def bump (k:Int):List Ab->List Ab
 | []=>[]
 | a :: t=>⟨a.kind,a.kids,a.seen+1,k,a.levels⟩ :: t
def pop:List Ab->List Ab
 | []=>[]
 | a :: t=>if a.kids<=a.seen then pop t else a :: t
def past (t:List Ab) (r:Rz) (lv:Int):List Ab:=pop (⟨r.kind,r.kids,0,0,lv⟩ :: bump r.kind t)
def sz:List Rz->Nat->Option Nat
 | [],m=>if m=0 then some 0 else none
 | r :: l,m=>if m=0 then some 0 else (sz l (m - 1+r.m)).map (· + 1)
theorem sz_zero (l:List Rz):sz l 0=some 0:=by cases l<;>simp [sz]
theorem sz_cons {r:Rz} {l:List Rz} {m n:Nat} (hm:1<=m) (h:sz (r :: l) m=some n):1<=n/\sz l (m - 1+r.m)=some (n - 1):=by
 simp only [sz] at h
 rw [if_neg (by omega)] at h
 rcases hx:sz l (m - 1+r.m) with _ | y
 ·rw [hx] at h;cases h
 ·rw [hx] at h
  have e:y+1=n:=Option.some.inj h
  exact ⟨by omega,by congr 1;omega⟩
theorem sz_mk {r:Rz} {l:List Rz} {m n:Nat} (hm:1<=m) (h:sz l (m - 1+r.m)=some n):sz (r :: l) m=some (n+1):=by
 simp only [sz]
 rw [if_neg (by omega),h];rfl
theorem sz_add (l:List Rz) (a b n:Nat) (h:sz l (a+b)=some n):∃ x,sz l a=some x/\x<=n/\sz (l.drop x) b=some (n - x):=by
 induction l generalizing a n with
 | nil=>
  simp only [sz] at h
  split at h
  ·cases h
   obtain rfl:a=0:=by omega
   obtain rfl:b=0:=by omega
   exact ⟨0,by simp [sz],by omega,by simp [sz]⟩
  ·cases h
 | cons r l ih=>
  by_cases ha:a=0
  ·subst ha
   exact ⟨0,sz_zero _,by omega,by simpa using h⟩
  ·obtain ⟨h1,h2⟩:=sz_cons (by omega) h
   rw [show a+b - 1+r.m=a - 1+r.m+b by omega] at h2
   obtain ⟨x,h3,h4,h5⟩:=ih _ _ h2
   refine ⟨x+1,sz_mk (by omega) h3,by omega,?_⟩
   rw [List.drop_succ_cons,h5]
   congr 1
   omega
theorem sz_pos {l:List Rz} {m n:Nat} (hm:1<=m) (h:sz l m=some n):1<=n/\1<=l.length:=by
 cases l with
 | nil=>simp only [sz] at h;rw [if_neg (by omega)] at h;cases h
 | cons r l=>exact ⟨(sz_cons hm h).1,by simp⟩
def Whole (l:List Rz):Prop:=sz l 1=some l.length
def km (l:List Rz) (i:Nat):Nat:=((l[i]?).map Rz.m).getD 0
def endp (l:List Rz) (i:Nat):Nat:=i+(sz (l.drop i) 1).getD 0
def kidp (l:List Rz) (i k:Nat):Nat:=i+1+(sz (l.drop (i+1)) k).getD 0
theorem drop_at {l:List Rz} {i:Nat} (h:i < l.length):∃ r,l[i]?=some r/\l.drop i=r :: l.drop (i+1)/\km l i=r.m:=
 ⟨l[i],List.getElem?_eq_getElem h,List.drop_eq_getElem_cons h,by simp [km,List.getElem?_eq_getElem h]⟩
theorem whole_tail {l:List Rz} (h:Whole l) (i:Nat) (hi:i<=l.length):∃ m,sz (l.drop i) m=some (l.length - i):=by
 induction i with
 | zero=>exact ⟨1,h⟩
 | succ i ih=>
  obtain ⟨m,hm⟩:=ih (by omega)
  obtain ⟨r,_,h2,_⟩:=drop_at (l:=l) (i:=i) (by omega)
  rw [h2] at hm
  have:1<=m:=by
   rcases Nat.eq_zero_or_pos m with h0 | h0
   ·subst h0;rw [sz_zero] at hm;have:=Option.some.inj hm;omega
   ·exact h0
  obtain ⟨_,h3⟩:=sz_cons this hm
  exact ⟨_,by rw [h3];congr 1⟩
theorem one_at {l:List Rz} (h:Whole l) {i:Nat} (hi:i < l.length):∃ x,sz (l.drop (i+1)) (km l i)=some x/\sz (l.drop i) 1=some (x+1)/\i+x+1<=l.length:=by
 obtain ⟨m,hm⟩:=whole_tail h i (by omega)
 have:1<=m:=by
  rcases Nat.eq_zero_or_pos m with h0 | h0
  ·subst h0;rw [sz_zero] at hm;have:=Option.some.inj hm;omega
  ·exact h0
 rw [show m=1+(m - 1) by omega] at hm
 obtain ⟨x,h1,h2,_⟩:=sz_add _ _ _ _ hm
 obtain ⟨r,_,h4,h5⟩:=drop_at hi
 have h6:=h1
 rw [h4] at h1
 obtain ⟨h7,h8⟩:=sz_cons (by omega) h1
 refine ⟨x - 1,?_,?_,by omega⟩
 ·rw [h5,<-h8];congr 1;omega
 ·rw [h6];congr 1;omega
theorem kid_at {l:List Rz} (h:Whole l) {i k:Nat} (hi:i < l.length) (hk:k < km l i):kidp l i k < l.length/\kidp l i (k+1)=endp l (kidp l i k)/\i < kidp l i k:=by
 obtain ⟨x,h1,h2,h3⟩:=one_at h hi
 have h1':=h1
 rw [show km l i=k+(km l i - k) by omega] at h1
 obtain ⟨y,h4,h5,h6⟩:=sz_add _ _ _ _ h1
 rw [List.drop_drop] at h6
 have h7:=(sz_pos (by omega) h6).2
 rw [List.length_drop] at h7
 rw [show km l i=(k+1)+(km l i - k - 1) by omega] at h1'
 obtain ⟨z,h8,_,_⟩:=sz_add _ _ _ _ h1'
 obtain ⟨y',h9,h10,h11⟩:=sz_add _ _ _ _ h8
 rw [h4] at h9
 cases h9
 rw [List.drop_drop] at h11
 unfold kidp endp
 rw [h4,h8]
 simp only [Option.getD_some]
 rw [h11]
 simp only [Option.getD_some]
 omega
theorem kid_zero (l:List Rz) (i:Nat):kidp l i 0=i+1:=by simp [kidp,sz_zero]
theorem end_kid {l:List Rz} (h:Whole l) {i:Nat} (hi:i < l.length):endp l i=kidp l i (km l i)/\i < endp l i/\endp l i<=l.length:=by
 obtain ⟨x,h1,h2,h3⟩:=one_at h hi
 unfold endp kidp
 rw [h1,h2]
 simp only [Option.getD_some]
 omega
theorem kid_le {l:List Rz} (h:Whole l) {i k:Nat} (hi:i < l.length) (hk:k<=km l i):kidp l i k<=l.length:=by
 rcases Nat.lt_or_ge k (km l i) with h1 | h1
 ·exact Nat.le_of_lt (kid_at h hi h1).1
 ·obtain rfl:k=km l i:=by omega
  rw [<-(end_kid h hi).1];exact (end_kid h hi).2.2
def gbump:List (Nat × Nat)->List (Nat × Nat)
 | []=>[]
 | a :: t=>(a.1,a.2+1) :: t
def gpop (l:List Rz):List (Nat × Nat)->List (Nat × Nat)
 | []=>[]
 | a :: t=>if km l a.1<=a.2 then gpop l t else a :: t
def gst (l:List Rz):Nat->List (Nat × Nat)
 | 0=>[]
 | i+1=>gpop l ((i,0) :: gbump (gst l i))
def gm (l:List Rz):List (Nat × Nat)->Nat
 | []=>0
 | a :: t=>(km l a.1 - a.2)+gm l t
theorem gm_pop (l:List Rz) (t:List (Nat × Nat)):gm l (gpop l t)=gm l t:=by
 induction t with
 | nil=>rfl
 | cons a t ih=>
  simp only [gpop]
  split
  ·rw [ih];simp only [gm];omega
  ·rfl
theorem pop_hd (l:List Rz) (t:List (Nat × Nat)):gpop l t=[]\/∃ a r,gpop l t=a :: r/\a.2 < km l a.1:=by
 induction t with
 | nil=>exact Or.inl rfl
 | cons a t ih=>
  simp only [gpop]
  split
  ·exact ih
  ·exact Or.inr ⟨a,t,rfl,by omega⟩
theorem gst_hd (l:List Rz) (i:Nat):gst l i=[]\/∃ a r,gst l i=a :: r/\a.2 < km l a.1:=by
 cases i with
 | zero=>exact Or.inl rfl
 | succ i=>exact pop_hd l _
theorem gst_sz {l:List Rz} (h:Whole l) (i:Nat) (hi:i+1<=l.length):sz (l.drop (i+1)) (gm l (gst l (i+1)))=some (l.length - (i+1)):=by
 induction i with
 | zero=>
  obtain ⟨r,_,h2,h3⟩:=drop_at (l:=l) (i:=0) (by omega)
  rw [List.drop_zero] at h2
  have h4:=h
  unfold Whole at h4
  rw [h2] at h4
  have h5:=(sz_cons (by omega) h4).2
  show sz _ (gm l (gpop l [(0,0)]))=_
  rw [gm_pop]
  simp only [gm]
  rw [h3]
  have:r.m - 0+0=1 - 1+r.m:=by omega
  rw [this,h5,<-h2]
 | succ i ih=>
  have h1:=ih (by omega)
  obtain ⟨r,_,h2,h3⟩:=drop_at (l:=l) (i:=i+1) (by omega)
  rw [h2] at h1
  show sz _ (gm l (gpop l ((i+1,0) :: gbump (gst l (i+1)))))=_
  rw [gm_pop]
  rcases gst_hd l (i+1) with h4 | ⟨a,t,h4,h5⟩
  ·rw [h4] at h1
   simp only [gm] at h1
   rw [sz_zero] at h1
   have:=Option.some.inj h1
   omega
  ·rw [h4] at h1 ⊢
   simp only [gm,gbump] at h1 ⊢
   obtain ⟨_,h6⟩:=sz_cons (by omega) h1
   rw [h3]
   rw [show r.m - 0+(km l a.1 - (a.2+1)+gm l t)=km l a.1 - a.2+gm l t - 1+r.m by omega,h6]
   congr 1
theorem gst_cons {l:List Rz} (h:Whole l) {i:Nat} (h0:0 < i) (hi:i < l.length):∃ a r,gst l i=a :: r/\a.2 < km l a.1:=by
 rcases gst_hd l i with h1 | h1
 ·obtain ⟨j,rfl⟩:∃ j,i=j+1:=⟨i - 1,by omega⟩
  have:=gst_sz h j (by omega)
  rw [h1] at this
  simp only [gm] at this
  rw [sz_zero] at this
  have:=Option.some.inj this
  omega
 ·exact h1
theorem run {l:List Rz} (h:Whole l):∀ (n p:Nat),l.length - p<=n->p < l.length->(∀ a r,gst l p=a :: r->a.2 < km l a.1->gst l (endp l p)=gpop l ((a.1,a.2+1) :: r))/\∀ k,k<=km l p->gst l (kidp l p k)=gpop l ((p,k) :: gbump (gst l p)):=by
 intro n
 induction n with
 | zero=>intro p h1 h2;omega
 | succ n ih=>
  intro p h1 h2
  have hk:∀ k,k<=km l p->gst l (kidp l p k)=gpop l ((p,k) :: gbump (gst l p)):=by
   intro k
   induction k with
   | zero=>intro _;rw [kid_zero];rfl
   | succ k ihk=>
    intro hk
    obtain ⟨h3,h4,h5⟩:=kid_at h h2 (k:=k) (by omega)
    have h6:=ihk (by omega)
    rw [show gpop l ((p,k) :: gbump (gst l p))=(p,k) :: gbump (gst l p) by simp only [gpop];rw [if_neg (by omega)]] at h6
    rw [h4]
    exact (ih (kidp l p k) (by omega) h3).1 _ _ h6 (by show k < km l p;omega)
  refine ⟨fun a r h3 h4=>?_,hk⟩
  have h5:=hk (km l p) (Nat.le_refl _)
  rw [<-(end_kid h h2).1,h3] at h5
  rw [h5]
  simp only [gpop,gbump]
  rw [if_pos (Nat.le_refl _)]
theorem gst_kid {l:List Rz} (h:Whole l) {i k:Nat} (hi:i < l.length) (hk:k < km l i):gst l (kidp l i k)=(i,k) :: gbump (gst l i):=by
 rw [(run h _ i (Nat.le_refl _) hi).2 k (by omega)]
 simp only [gpop]
 rw [if_neg (by omega)]
def Below2 (l:List Rz):List (Nat × Nat)->Nat->Prop
 | [],_=>True
 | a :: t,j=>1<=a.2/\a.2<=km l a.1/\a.1 < l.length/\kidp l a.1 (a.2 - 1)=j/\a.1 < j/\Below2 l t a.1
def Chain (l:List Rz):List (Nat × Nat)->Nat->Prop
 | [],_=>True
 | a :: t,p=>kidp l a.1 a.2=p/\a.2<=km l a.1/\a.1 < l.length/\a.1 < p/\Below2 l t a.1
theorem chain_pop {l:List Rz} (h:Whole l) (t:List (Nat × Nat)) (p:Nat) (hc:Chain l t p):Chain l (gpop l t) p:=by
 induction t with
 | nil=>exact hc
 | cons a t ih=>
  simp only [gpop]
  split
  ·obtain ⟨h1,h2,h3,h4,h5⟩:=hc
   apply ih
   cases t with
   | nil=>trivial
   | cons b t=>
    obtain ⟨g1,g2,g3,g4,g5,g6⟩:=h5
    have e:a.2=km l a.1:=by omega
    obtain ⟨_,k2,_⟩:=kid_at h g3 (k:=b.2 - 1) (by omega)
    rw [show b.2 - 1+1=b.2 by omega,g4,(end_kid h h3).1,<-e,h1] at k2
    exact ⟨k2,g2,g3,by omega,g6⟩
  ·exact hc
theorem gst_chain {l:List Rz} (h:Whole l) (p:Nat) (hp:p<=l.length):Chain l (gst l p) p:=by
 induction p with
 | zero=>trivial
 | succ p ih=>
  refine chain_pop h _ _ ⟨kid_zero l p,Nat.zero_le _,by show p < _;omega,by show p < _;omega,?_⟩
  have h1:=ih (by omega)
  rcases gst_hd l p with h2 | ⟨a,t,h2,h3⟩
  ·rw [h2];trivial
  ·rw [h2] at h1 ⊢
   obtain ⟨k1,k2,k3,k4,k5⟩:=h1
   exact ⟨by simp,h3,k3,by simpa using k1,k4,k5⟩
def up (l:List Rz) (p:Nat):Nat:=((gst l p).headD (0,0)).1
def wh (l:List Rz) (p:Nat):Nat:=((gst l p).headD (0,0)).2
theorem up_at {l:List Rz} (h:Whole l) {p:Nat} (h0:0 < p) (hp:p < l.length):
  kidp l (up l p) (wh l p)=p/\wh l p < km l (up l p)/\up l p < p/\gst l p=(up l p,wh l p) :: gbump (gst l (up l p)):=by
 obtain ⟨a,r,h1,h2⟩:=gst_cons h h0 hp
 have h3:=gst_chain h p (by omega)
 have e1:up l p=a.1:=by simp [up,h1]
 have e2:wh l p=a.2:=by simp [wh,h1]
 rw [h1] at h3
 obtain ⟨k1,k2,k3,k4,k5⟩:=h3
 rw [e1,e2]
 refine ⟨k1,h2,k4,?_⟩
 rw [<-gst_kid h k3 h2,k1]
theorem up_kid {l:List Rz} (h:Whole l) {i k:Nat} (hi:i < l.length) (hk:k < km l i):up l (kidp l i k)=i/\wh l (kidp l i k)=k:=by
 unfold up wh
 rw [gst_kid h hi hk]
 exact ⟨rfl,rfl⟩
end Go.Proofs.YtfgpbdieaflclaaGreat.Gr
