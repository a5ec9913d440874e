import Derived.Test.YthbnjhamfcefkaaGreatK16
import Derived.Maps.AppendAt
import Derived.Laws.MakeOwn
import Derived.OrdersHeld
import Derived.Deep.RegionHeld
import Derived.Great.BuildSlice
namespace Go.Proofs.YthbnjhamfcefkaaGreat.Nm
open Go.RowKit Go.Maps Sp Lx Gr
theorem run_app {P:Program} (w:World) (base:Nat) (t ty e:TypeId) (i:TypeInfo) (z:Value) (size bytes:Nat) (ht:P.underlying t=some (.slice e)) (hi:P.info? e=some i) (hz:i.zero=some z)
  (hsize:i.size=size) (hby:i.bytes=bytes) (hzs:z.cells.size=size) (hsz:0 < size)
  (v:Value) (n:Nat) (xs:List Value) (hown:w.ownsRow base e size v n xs)
  (ao:Option Addr) (m c:Nat) (news:List Value) (hl:news.length=m * size) (hnone:ao=none->m=0/\c=0) (hnews:∀ ad,ao=some ad->∀ j u,news[j]?=some u->w.cell? (ad.add j)=some u) (h1:∀ u ∈ news,u.oneCell'=true)
  (h63:n+m<=maxLen) (hbytes:(n+m) * bytes<=140737488355328) (hbase:base<=w.heap.size):
  ∃ v' w',(Builtin.append_ #[t,t] ty #[v,.slice ao m c]).run P w=.ok v' w'/\w'.ownsRow base e size v' (n+m) (xs++news)/\w.grownBy w' v.ownBlock/\(v'.ownBlock=v.ownBlock\/v'.ownBlock=some w.heap.size):=by
 cases ao with
 | some ad=>
  obtain ⟨v',w',hr,h2,h3,_,h5⟩:=run_append_own_at (P:=P) w base t ty e i z size bytes ht hi hz hsize hby hzs hsz v n xs hown ad m c news hl (hnews ad rfl) h1 h63 hbytes hbase
  exact ⟨v',w',hr,h2,h3,h5⟩
 | none=>
  obtain ⟨rfl,rfl⟩:=hnone rfl
  have he:news=[]:=List.eq_nil_of_length_eq_zero (by simpa using hl)
  subst he
  exact ⟨v,w,run_append_owned_none (P:=P) w base t ty e i size ht hi v n xs hown,by simpa using hown,World.grownBy.refl _ _,Or.inl rfl⟩
theorem wpl_app {P:Program} (w:World) {ops:Array Oper} {rest:List Oper} {o:Oper} {a:Act} {Q:Exit->Act->World->Prop} (hgd:o.guard=none) (s x:Operand) (t:TypeId)
  (ho:o.op=.call { callee:=.builtin .append,args:=#[s,x],argTypes:=#[t,t] })
  (base:Nat) (e:TypeId) (i:TypeInfo) (z:Value) (size bytes:Nat) (ht:P.underlying t=some (.slice e)) (hi:P.info? e=some i) (hz:i.zero=some z)
  (hsize:i.size=size) (hby:i.bytes=bytes) (hzs:z.cells.size=size) (hsz:0 < size)
  (v:Value) (n:Nat) (xs:List Value) (hs:a.eval s=v) (hown:w.ownsRow base e size v n xs)
  (ao:Option Addr) (m c:Nat) (news:List Value) (hx:a.eval x=.slice ao m c) (hl:news.length=m * size) (hnone:ao=none->m=0/\c=0) (hnews:∀ ad,ao=some ad->∀ j u,news[j]?=some u->w.cell? (ad.add j)=some u) (h1:∀ u ∈ news,u.oneCell'=true)
  (h63:n+m<=maxLen) (hbytes:(n+m) * bytes<=140737488355328) (hbase:base<=w.heap.size)
  (h:∀ v' w',w'.ownsRow base e size v' (n+m) (xs++news)->w.grownBy w' v.ownBlock->(v'.ownBlock=v.ownBlock\/v'.ownBlock=some w.heap.size)->wpList P ops Q rest (a.put o.dst v') w'):wpList P ops Q (o :: rest) a w:=by
 refine wpList_plain hgd fun K hK=>?_
 obtain ⟨v',w',hr,h2,h3,h4⟩:=run_app (P:=P) w base t o.type e i z size bytes ht hi hz hsize hby hzs hsz v n xs hown ao m c news hl hnone hnews h1 h63 hbytes hbase
 unfold Oper.wp execOp
 simp only [ho,resolve,invoke,builtin,Sem.run_bind,Sem.run_pure,Result.andThen_ok,List.map_toArray,List.map_cons,List.map_nil,hs,hx,hr]
 exact hK _ _ (h v' w' h2 h3 h4)
theorem step_app {P:Program} (w:World) {ops:Array Oper} {o:Oper} {a:Act} {K:Act->World->Prop} {Q:Exit->Act->World->Prop} {E:Prop} (hgd:o.guard=none) (s x:Operand) (t:TypeId)
  (ho:o.op=.call { callee:=.builtin .append,args:=#[s,x],argTypes:=#[t,t] })
  (base:Nat) (e:TypeId) (i:TypeInfo) (z:Value) (size bytes:Nat) (ht:P.underlying t=some (.slice e)) (hi:P.info? e=some i) (hz:i.zero=some z)
  (hsize:i.size=size) (hby:i.bytes=bytes) (hzs:z.cells.size=size) (hsz:0 < size)
  (v:Value) (n:Nat) (xs:List Value) (hs:a.eval s=v) (hown:w.ownsRow base e size v n xs)
  (ao:Option Addr) (m c:Nat) (news:List Value) (hx:a.eval x=.slice ao m c) (hl:news.length=m * size) (hnone:ao=none->m=0/\c=0) (hnews:∀ ad,ao=some ad->∀ j u,news[j]?=some u->w.cell? (ad.add j)=some u) (h1:∀ u ∈ news,u.oneCell'=true)
  (h63:n+m<=maxLen) (hbytes:(n+m) * bytes<=140737488355328) (hbase:base<=w.heap.size)
  (h:∀ v' w',w'.ownsRow base e size v' (n+m) (xs++news)->w.grownBy w' v.ownBlock->(v'.ownBlock=v.ownBlock\/v'.ownBlock=some w.heap.size)->K (a.put o.dst v') w'):if Region.wanted o (yielded ops a.tmps)=true then Oper.wp P o a w K Q else E:=by
 have hw:Region.wanted o (yielded ops a.tmps)=true:=by simp [Region.wanted,hgd]
 rw [if_pos hw]
 obtain ⟨v',w',hr,h2,h3,h4⟩:=run_app (P:=P) w base t o.type e i z size bytes ht hi hz hsize hby hzs hsz v n xs hown ao m c news hl hnone hnews h1 h63 hbytes hbase
 unfold Oper.wp execOp
 simp only [ho,resolve,invoke,builtin,Sem.run_bind,Sem.run_pure,Result.andThen_ok,List.map_toArray,List.map_cons,List.map_nil,hs,hx,hr]
 exact h v' w' h2 h3 h4
theorem mk_capJ {t e:TypeId} {i:TypeInfo} {z:Value} {size bytes:Nat} (ht:Tryz.prog.underlying t=some (.slice e)) (hi:Tryz.prog.info? e=some i) (hz:i.zero=some z) (hsize:i.size=size) (hby:i.bytes=bytes) (n:Nat) (hn:bytes * (n+3)<=140737488355352) (hn2:n<=140737488355328):
  ∃ M:Array Value,(∀ u:World,(Instr.makeSlice t (.int .i64 0) (.int .i64 ((n:Int)+3))).run Tryz.prog u=.ok (.slice (some ⟨u.heap.size,0,none⟩) 0 (n+3)) (u.alloc (.cells M e)))/\M.size=(n+3) * size:=by
 refine ⟨_,fun u=>?_,size_madeCells z.cells ((n+3) * size)⟩
 have h:=run_make (P:=Tryz.prog) u t e i z ht hi hz .i64 .i64 0 ((n:Int)+3) (Int.le_refl _) (by omega) (by
  rw [hby]
  have:(bytes:Int) * ((n:Int)+3)=((bytes * (n+3):Nat):Int):=by simp
  rw [this]
  omega) (by omega)
 have e1:((n:Int)+3).toNat=n+3:=by omega
 rw [e1,hsize] at h
 exact h
theorem own_madeJ {u:World} {M:Array Value} {e:TypeId} {n size base:Nat} (hM:M.size=(n+3) * size) (hb:base<=u.heap.size) (hn:n<=140737488355328):(u.alloc (.cells M e)).ownsRow base e size (.slice (some ⟨u.heap.size,0,none⟩) 0 (n+3)) 0 []:=
 own_mk (cur:=M.toList) (by simp) hb (by rw [Array.toArray_toList];exact heap_alloc_new u _) (Nat.zero_le _) (by unfold maxLen;omega) (by simpa using hM) (by simp)
theorem vals_src {w:World} {ao:Option Addr} {xs:List Value} (h:IsVals w ao xs):∀ ad,ao=some ad->∀ j u,xs[j]?=some u->w.cell? (ad.add j)=some u:=fun ad e j u hu=>by
 obtain ⟨g,o,e2,_,hc⟩:=h j u hu
 rw [e] at e2
 cases e2
 rw [Lib.addr_add]
 exact hc
theorem vals_nil {w:World} {ao:Option Addr} {xs:List Value} {m sz:Nat} (h:IsVals w ao xs) (hl:xs.length=m * sz) (hs:0 < sz):ao=none->m=0:=fun e=>by
 cases m with
 | zero=>rfl
 | succ m=>
  have h0:0 < xs.length:=by rw [hl,Nat.succ_mul];omega
  obtain ⟨g,o,e2,_⟩:=h 0 _ (List.getElem?_eq_getElem h0)
  rw [e] at e2
  cases e2
theorem iv_one (l:List Int):∀ u ∈ iv l,u.oneCell'=true:=fun u hu=>by
 obtain ⟨n,_,rfl⟩:=List.mem_map.1 hu
 rfl
theorem own_some {w:World} {base:Nat} {e:TypeId} {size:Nat} {v:Value} {n:Nat} {xs:List Value} (h:w.ownsRow base e size v n xs) (hn:0 < n):∃ g cap,v=.slice (some ⟨g,0,none⟩) n cap/\n<=cap/\cap<=maxLen:=by
 obtain ⟨g,cap,cur,e1,_,_,h4,h5,_⟩:=own_block h hn
 exact ⟨g,cap,e1,h4,h5⟩
theorem mk_cap {t e:TypeId} {i:TypeInfo} {z:Value} {size bytes:Nat} (ht:Tryz.prog.underlying t=some (.slice e)) (hi:Tryz.prog.info? e=some i) (hz:i.zero=some z) (hsize:i.size=size) (hby:i.bytes=bytes) (hb:bytes<=1000) (n:Nat) (hn:n<=1000):
  ∃ M:Array Value,(∀ u:World,(Instr.makeSlice t (.int .i64 0) (.int .i64 ((n:Int)+3))).run Tryz.prog u=.ok (.slice (some ⟨u.heap.size,0,none⟩) 0 (n+3)) (u.alloc (.cells M e)))/\M.size=(n+3) * size:=mk_capJ ht hi hz hsize hby n (Nat.le_trans (Nat.mul_le_mul hb (show n+3<=1003 by omega)) (by decide)) (by omega)
theorem own_made {u:World} {M:Array Value} {e:TypeId} {n size base:Nat} (hM:M.size=(n+3) * size) (hb:base<=u.heap.size) (hn:n<=1000):(u.alloc (.cells M e)).ownsRow base e size (.slice (some ⟨u.heap.size,0,none⟩) 0 (n+3)) 0 []:=own_madeJ hM hb (by omega)
end Go.Proofs.YthbnjhamfcefkaaGreat.Nm
set_option linter.unusedSimpArgs false
namespace Go.Proofs.YthbnjhamfcefkaaGreat.Nm.Ty
open Go.RowKit Go.Maps Nm
structure Ent where
 base:Nat
 T:TypeId
 sz:Nat
 v:Value
 n:Nat
 xs:List Value
structure Ap (w:World) (pb:Nat) (E:Nat->Option Ent):Prop where
 ow:∀ j x,E j=some x->pb < x.base/\w.ownsRow x.base x.T x.sz x.v x.n x.xs
 ap:∀ i j x y,i ≠ j->E i=some x->E j=some y->∀ k,x.v.ownBlock=some k->y.v.ownBlock ≠ some k
def up {α:Type} (f:Nat->α) (j:Nat) (v:α):Nat->α:=fun i=>if i=j then v else f i
theorem up_same {α:Type} (f:Nat->α) (j:Nat) (v:α):up f j v j=v:=if_pos rfl
theorem up_ne {α:Type} {f:Nat->α} {i j:Nat} {v:α} (h:i ≠ j):up f j v i=f i:=if_neg h
theorem own_kb {w w':World} {base:Nat} {e:TypeId} {size:Nat} {v:Value} {n:Nat} {xs:List Value} (h:w.ownsRow base e size v n xs) (hb:∀ k,v.ownBlock=some k->w'.heap[k]?=w.heap[k]?):w'.ownsRow base e size v n xs:=by
 refine ⟨h.1,?_⟩
 rcases h.2 with h2 | ⟨g,cap,cur,rfl,h3,h4,h5⟩
 ·exact Or.inl h2
 ·exact Or.inr ⟨g,cap,cur,rfl,h3,(hb g rfl).trans h4,h5⟩
section
variable {w w':World} {pb:Nat} {E E':Nat->Option Ent}
theorem Ap.turn {j:Nat} {y:Ent} (h:Ap w pb E) (hy:pb < y.base/\w'.ownsRow y.base y.T y.sz y.v y.n y.xs) (hk:∀ i x,i ≠ j->E i=some x->∀ k,x.v.ownBlock=some k->w'.heap[k]?=w.heap[k]?/\y.v.ownBlock ≠ some k):Ap w' pb (up E j (some y)):=by
 refine ⟨fun i x hx=>?_,fun i i2 x x2 hne hx hx2 k hb hb2=>?_⟩
 ·by_cases hi:i=j
  ·subst hi
   rw [up_same] at hx
   cases hx
   exact hy
  ·rw [up_ne hi] at hx
   exact ⟨(h.ow i x hx).1,own_kb (h.ow i x hx).2 fun k e=>(hk i x hi hx k e).1⟩
 ·by_cases hi:i=j
  ·subst hi
   rw [up_same] at hx
   cases hx
   rw [up_ne (Ne.symm hne)] at hx2
   exact (hk i2 x2 (Ne.symm hne) hx2 k hb2).2 hb
  ·rw [up_ne hi] at hx
   by_cases hi2:i2=j
   ·subst hi2
    rw [up_same] at hx2
    cases hx2
    exact (hk i x hi hx k hb).2 hb2
   ·rw [up_ne hi2] at hx2
    exact h.ap i i2 x x2 hne hx hx2 k hb hb2
theorem Ap.app {j n':Nat} {x:Ent} {v':Value} {xs':List Value} (h:Ap w pb E) (hx:E j=some x) (hg:w.grownBy w' x.v.ownBlock) (ho:w'.ownsRow x.base x.T x.sz v' n' xs') (hb:v'.ownBlock=x.v.ownBlock\/v'.ownBlock=some w.heap.size):Ap w' pb (up E j (some ⟨x.base,x.T,x.sz,v',n',xs'⟩)):=
 h.turn ⟨(h.ow j x hx).1,ho⟩ fun i y hi hy k hk=>by
  have h1:=(World.ownsRow.lt (h.ow i y hy).2 k hk).2
  have h2:some k ≠ x.v.ownBlock:=fun e=>h.ap i j y x hi hy hx k hk e.symm
  refine ⟨hg.block k h1 h2,fun e=>?_⟩
  have e':v'.ownBlock=some k:=e
  rcases hb with hb | hb
  ·exact h2 (e'.symm.trans hb)
  ·rw [e'] at hb
   have:=Option.some.inj hb
   omega
theorem Ap.keep (h:Ap w pb E) (hk:∀ j x,E j=some x->∀ k,x.v.ownBlock=some k->w'.heap[k]?=w.heap[k]?):Ap w' pb E:=
 ⟨fun j x hx=>⟨(h.ow j x hx).1,own_kb (h.ow j x hx).2 (hk j x hx)⟩,h.ap⟩
theorem Ap.below (h:Ap w pb E) (hb:Below w.heap.size w w'):Ap w' pb E:=
 h.keep fun j x hx k hk=>hb.block k (World.ownsRow.lt (h.ow j x hx).2 k hk).2
theorem Ap.setC {j g n c:Nat} {b sz:Nat} {T:TypeId} {xs:List Value} (h:Ap w pb E) (hx:E j=some ⟨b,T,sz,.slice (some ⟨g,0,none⟩) n c,n,xs⟩) (k:Nat) (u:Value):Ap (w.setCell ⟨g,k,none⟩ u) pb (up E j (some ⟨b,T,sz,.slice (some ⟨g,0,none⟩) n c,n,xs.set k u⟩)):=
 h.turn ⟨(h.ow j _ hx).1,((h.ow j _ hx).2.stored k u).1⟩ fun i y hi hy q hq=>by
  have h2:q ≠ g:=fun e=>h.ap i j y _ hi hy hx q hq (by rw [e];rfl)
  exact ⟨heap_setCell_other w ⟨g,k,none⟩ q u h2,fun e=>h2 (Option.some.inj e).symm⟩
theorem Ap.add {T:TypeId} {sz n b:Nat} {v:Value} {xs:List Value} (h:Ap w pb E) (hb:Below w.heap.size w w') (hp:pb < b) (hbb:w.heap.size<=b) (ho:w'.ownsRow b T sz v n xs) (j:Nat):Ap w' pb (up E j (some ⟨b,T,sz,v,n,xs⟩)):=
 h.turn ⟨hp,ho⟩ fun i y hi hy q hq=>by
  have h1:=(World.ownsRow.lt (h.ow i y hy).2 q hq).2
  exact ⟨hb.block q h1,fun e=>by have:=(World.ownsRow.lt ho q e).1;omega⟩
end
section
variable {P:Program} {ops:Array Oper} {Q:Exit->Act->World->Prop} {md:Region.Mode} {S:World->Prop}
theorem ready_ne {l:Array Bool} (i:Nat) (hi:i < ops.size) (h:(!l.getD i true && ((ops[i]?).map (·.after.all fun e=>!Region.binds md e || l.getD e.on false)).getD false)=true):Region.ready md ops l ≠ []:=fun e=>by
 have h2:i ∈ Region.ready md ops l:=List.mem_filter.2 ⟨List.mem_range.2 hi,h⟩
 rw [e] at h2
 cases h2
theorem ready_on {l:Array Bool} {i:Nat} (h:i ∈ Region.ready md ops l):l.getD i true=false/\∀ e ∈ ((ops[i]?).map (·.after.toList)).getD [],Region.binds md e=true->l.getD e.on false=true:=by
 obtain ⟨h1,o,ho,h2⟩:=mem_ready.1 h
 refine ⟨h1,fun e he hb=>h2 e ?_ hb⟩
 rw [ho] at he
 exact Array.mem_toList_iff.1 he
theorem held_bc (L:(Nat->Bool)->(Nat->Bool)->Array Bool) (cnt:(Nat->Bool)->(Nat->Bool)->Nat) (I:(Nat->Bool)->(Nat->Bool)->Act->World->Prop) (f0:Nat)
  (hend:∀ b c a w,cnt b c=0->I b c a w->wpAnyH P md ops Q S f0 (L b c) a w)
  (hne:∀ b c,cnt b c ≠ 0->Region.ready md ops (L b c) ≠ [])
  (hstep:∀ b c a w i,cnt b c ≠ 0->I b c a w->i ∈ Region.ready md ops (L b c)->∃ b' c',L b' c'=(L b c).setIfInBounds i true/\cnt b' c'+1=cnt b c/\wpOp P ops Q i (fun a' w'=>S w'/\I b' c' a' w') a w):
  ∀ n b c a w,cnt b c=n->I b c a w->wpAnyH P md ops Q S (n+f0) (L b c) a w:=by
 intro n
 induction n with
 | zero=>
  intro b c a w hc hI
  rw [Nat.zero_add]
  exact hend b c a w hc hI
 | succ n ih=>
  intro b c a w hc hI
  rw [show n+1+f0=(n+f0)+1 by omega]
  refine wpAnyH_all rfl (hne b c (by omega)) fun i hi=>?_
  obtain ⟨b',c',h1,h2,h3⟩:=hstep b c a w i (by omega) hI hi
  rw [<-h1]
  exact wpOp_mono (fun a' w' h=>⟨h.1,ih b' c' a' w' (by omega) h.2⟩) h3
theorem held_go {b c:Nat->Bool} {n fuel:Nat} {listed:Array Bool} {a:Act} {w:World} (L:(Nat->Bool)->(Nat->Bool)->Array Bool) (cnt:(Nat->Bool)->(Nat->Bool)->Nat) (I:(Nat->Bool)->(Nat->Bool)->Act->World->Prop) (f0:Nat)
  (hl:listed=L b c) (hc:cnt b c=n) (hf:fuel=n+f0) (hI:I b c a w)
  (hend:∀ b c a w,cnt b c=0->I b c a w->wpAnyH P md ops Q S f0 (L b c) a w)
  (hne:∀ b c,cnt b c ≠ 0->Region.ready md ops (L b c) ≠ [])
  (hstep:∀ b c a w i,cnt b c ≠ 0->I b c a w->i ∈ Region.ready md ops (L b c)->∃ b' c',L b' c'=(L b c).setIfInBounds i true/\cnt b' c'+1=cnt b c/\wpOp P ops Q i (fun a' w'=>S w'/\I b' c' a' w') a w):wpAnyH P md ops Q S fuel listed a w:=by
 subst hl
 subst hf
 exact held_bc L cnt I f0 hend hne hstep n b c a w hc hI
theorem held_from {b c:Nat->Bool} {n fuel:Nat} {listed:Array Bool} {a0:Act} {w:World} (L:(Nat->Bool)->(Nat->Bool)->Array Bool) (cnt:(Nat->Bool)->(Nat->Bool)->Nat) (I:Act->(Nat->Bool)->(Nat->Bool)->Act->World->Prop) (f0:Nat)
  (hl:listed=L b c) (hc:cnt b c=n) (hf:fuel=n+f0) (hI:I a0 b c a0 w)
  (hend:∀ b c a w,cnt b c=0->I a0 b c a w->wpAnyH P md ops Q S f0 (L b c) a w)
  (hne:∀ b c,cnt b c ≠ 0->Region.ready md ops (L b c) ≠ [])
  (hstep:∀ b c a w i,cnt b c ≠ 0->I a0 b c a w->i ∈ Region.ready md ops (L b c)->∃ b' c',L b' c'=(L b c).setIfInBounds i true/\cnt b' c'+1=cnt b c/\wpOp P ops Q i (fun a' w'=>S w'/\I a0 b' c' a' w') a w):wpAnyH P md ops Q S fuel listed a0 w:=
 held_go L cnt (I a0) f0 hl hc hf hI hend hne hstep
theorem step_store {w:World} {o:Oper} {a:Act} {K:Act->World->Prop} {F:Prop} (hgd:o.guard=none) (ty:TypeId) (x y:Operand) (ho:o.op=.store ty x y)
  (g:Nat) (cells:Array Value) (hx:a.eval x=.pointer (some ⟨g,0,none⟩)) (hy:a.eval y=.agg cells)
  (t:TypeId) (old:Array Value) (hg:w.heap[g]?=some (.cells old t (0,0))) (hi:(P.info? ty).map (·.size)=some cells.size)
  (hold:old.size=cells.size) (h1:cells.all (·.oneCell')=true)
  (h:K (a.put o.dst undef) (w.setRow g cells)):if Region.wanted o (yielded ops a.tmps)=true then Oper.wp P o a w K Q else F:=by
 have hw:Region.wanted o (yielded ops a.tmps)=true:=by simp [Region.wanted,hgd]
 rw [if_pos hw]
 exact wp_store_row ty x y ho g cells hx hy t old hg hi hold h1 h
end
end Go.Proofs.YthbnjhamfcefkaaGreat.Nm.Ty
set_option linter.unusedSimpArgs false
namespace Go.Proofs.YthbnjhamfcefkaaGreat.Nm.Ty
open Go.RowKit Go.Maps Sp Lx Gr Nm
abbrev Gone (w:World) (v:Value) (w':World) (v':Value):Prop:=w.grownBy w' v.ownBlock/\((∃ g,v.ownBlock=some g/\v'.ownBlock=some g)\/((∀ k,k < w.heap.size->w'.heap[k]?=w.heap[k]?)/\∀ g,v'.ownBlock=some g->w.heap.size<=g))
theorem up_self {α:Type} {f:Nat->α} {j:Nat} {a:α} (h:f j=a):up f j a=f:=by
 funext i
 by_cases e:i=j
 ·subst e;rw [up_same,h]
 ·rw [up_ne e]
section
variable {w w':World} {pb:Nat} {E:Nat->Option Ent}
theorem Ap.more {j:Nat} {x:Ent} {v':Value} (h:Ap w pb E) (hx:E j=some x) (hG:Gone w x.v w' v') (ho:w'.ownsRow x.base x.T x.sz x.v x.n x.xs):Ap w' pb E:=by
 have h1:=h.turn (j:=j) (y:=x) (w':=w') ⟨(h.ow j x hx).1,ho⟩ fun i y hi hy k hk=>by
  have h1:=(World.ownsRow.lt (h.ow i y hy).2 k hk).2
  have h2:some k ≠ x.v.ownBlock:=fun e=>h.ap i j y x hi hy hx k hk e.symm
  exact ⟨hG.1.block k h1 h2,fun e=>h2 e.symm⟩
 rw [up_self hx] at h1
 exact h1
end
theorem run_append_both {P:Program} (w:World) (base:Nat) (t ty e:TypeId) (i:TypeInfo) (z:Value) (size bytes:Nat) (ht:P.underlying t=some (.slice e)) (hi:P.info? e=some i) (hz:i.zero=some z)
  (hsize:i.size=size) (hby:i.bytes=bytes) (hzs:z.cells.size=size) (hsz:0 < size)
  (v:Value) (n:Nat) (xs:List Value) (hown:w.ownsRow base e size v n xs)
  (a:Addr) (m c:Nat) (news:List Value) (hl:news.length=m * size) (hnews:∀ j u,news[j]?=some u->w.cell? (a.add j)=some u) (h1:∀ u ∈ news,u.oneCell'=true)
  (h63:n+m<=maxLen) (hbytes:(n+m) * bytes<=140737488355328) (hbase:base<=w.heap.size) (hm:0 < m):
  ∃ v' w',(Builtin.append_ #[t,t] ty #[v,.slice (some a) m c]).run P w=.ok v' w'/\w'.ownsRow base e size v' (n+m) (xs++news)/\w'.ownsRow base e size v n xs/\Gone w v w' v':=by
 obtain ⟨v',w',hr,h2,h3,h4⟩:=run_append_keep (P:=P) w base t ty e i z size bytes ht hi hz hsize hby hzs hsz v n xs hown a m c news hl hnews h1 h63 hbytes hbase hm
 refine ⟨v',w',hr,h2,?_,h3,h4⟩
 have hxl:=hown.1
 rcases hown.2 with ⟨rfl,rfl⟩ | ⟨g,cap,cur,rfl,hbg,hg,hnc,hcm,hcs,htake⟩
 ·exact ⟨hxl,Or.inl ⟨rfl,rfl⟩⟩
 ·by_cases hroom:n+m<=cap
  ·have hfit:n * i.size+news.length<=cur.size:=by rw [hsize,hl,hcs,<-Nat.add_mul];exact Nat.mul_le_mul_right _ hroom
   have hr2:=run_append_room (P:=P) w t ty e i ht hi g n cap cur hg a m c news (by rw [hsize];exact hl) hnews h1 hroom hfit
   rw [hr2] at hr
   have hv:=(Result.ok.inj hr).1
   rcases h2.2 with ⟨e1,_⟩ | ⟨g',cap',cur',e1,q1,q2,q3,q4,q5,q6⟩
   ·rw [<-hv] at e1
    cases e1
   ·rw [<-hv] at e1
    cases e1
    refine ⟨hxl,Or.inr ⟨g,cap,cur',rfl,q1,q2,hnc,q4,q5,?_⟩⟩
    have h5:(cur'.toList.take ((n+m) * size)).take (n * size)=(xs++news).take (n * size):=by rw [q6]
    rw [List.take_take,Nat.min_eq_left (Nat.mul_le_mul_right _ (by omega)),<-hxl,List.take_left] at h5
    rw [hxl] at h5
    exact h5
  ·have hb:w'.heap[g]?=w.heap[g]?:=by
    rcases h4 with ⟨g',e1,e2⟩ | ⟨h5,_⟩
    ·exfalso
     have holds:∀ j u,xs[j]?=some u->w.cell? ((⟨g,0,none⟩:Addr).add j)=some u:=hown.cells (g:=g) rfl
     have hr2:=run_append_grow (P:=P) w t ty e i z ht hi hz ⟨g,0,none⟩ n cap xs (by rw [hsize];exact hown.1) holds a m c news (by rw [hsize];exact hl) hnews (by omega) (by unfold maxLen at h63;omega) (by rw [hby];exact growslice_fits (by unfold maxLen at h63;omega) hbytes)
     rw [hr2] at hr
     have hv:=(Result.ok.inj hr).1
     rw [<-hv] at e2
     simp only [Value.ownBlock,Option.some.injEq] at e1 e2
     have:=(Array.getElem?_eq_some_iff.1 hg).1
     have:(w.drew).heap.size=w.heap.size:=rfl
     omega
    ·exact h5 g (Array.getElem?_eq_some_iff.1 hg).1
   exact ⟨hxl,Or.inr ⟨g,cap,cur,rfl,hbg,hb.trans hg,hnc,hcm,hcs,htake⟩⟩
theorem app_more {P:Program} (w:World) {ops:Array Oper} {rest:List Oper} {o:Oper} {a:Act} {Q:Exit->Act->World->Prop} (hgd:o.guard=none) (s x:Operand) (t:TypeId)
  (ho:o.op=.call { callee:=.builtin .append,args:=#[s,x],argTypes:=#[t,t] })
  {e:TypeId} {z:Value} {size bytes:Nat} (ht:P.underlying t=some (.slice e)) (hinfo:(P.info? e).map (fun i=>(i.zero,i.size,i.bytes))=some (some z,size,bytes)) (hzs:z.cells.size=size) (hsz:0 < size)
  {base:Nat} {v:Value} {n:Nat} {xs:List Value} (hs:a.eval s=v) (hown:w.ownsRow base e size v n xs) (hbase:base<=w.heap.size)
  {ad:Addr} {m c:Nat} {news:List Value} (hx:a.eval x=.slice (some ad) m c) (hl:news.length=m * size) (hnews:∀ j u,news[j]?=some u->w.cell? (ad.add j)=some u) (h1:∀ u ∈ news,u.oneCell'=true)
  (h63:n+m<=maxLen) (hbytes:(n+m) * bytes<=140737488355328) (hm:0 < m)
  (h:∀ g' c' w',w'.ownsRow base e size (.slice (some ⟨g',0,none⟩) (n+m) c') (n+m) (xs++news)->w'.ownsRow base e size v n xs->Gone w v w' (.slice (some ⟨g',0,none⟩) (n+m) c')->wpList P ops Q rest (a.put o.dst (.slice (some ⟨g',0,none⟩) (n+m) c')) w'):wpList P ops Q (o :: rest) a w:=by
 refine wpList_plain hgd fun K hK=>?_
 obtain ⟨i,hi,hz0,hz1,hz2⟩:=info_parts hinfo
 obtain ⟨v',w',hr,h2,h3,h4⟩:=run_append_both (P:=P) w base t o.type e i z size bytes ht hi hz0 hz1 hz2 hzs hsz v n xs hown ad m c news hl hnews h1 h63 hbytes hbase hm
 obtain ⟨g',cap,cur,rfl,-⟩:=own_block h2 (by omega)
 unfold Oper.wp execOp
 simp only [ho,resolve,invoke,builtin,Sem.run_bind,Sem.run_pure,Result.andThen_ok,List.map_toArray,List.map_cons,List.map_nil,hs,hx,hr]
 exact hK _ _ (h g' cap w' h2 h3 h4)
theorem infoCo:(Tryz.prog.info? 40).map (fun i=>(i.zero,i.size,i.bytes))=some (some (.agg #[pz,.int .i64 0]),2,32):=by kernel_rfl
structure Kc where
 v:Value
 l:List Int
 m:Int
def kcC (x:Kc):List Value:=[x.v,.int .i64 x.m]
theorem kc_at:∀ (L:List Kc) (i:Nat) (x:Kc),L[i]?=some x->(L.flatMap kcC)[i * 2]?=some x.v/\(L.flatMap kcC)[i * 2+1]?=some (.int .i64 x.m)
 | [],i,x,h=>by simp at h
 | y :: l,0,x,h=>by
  obtain rfl:y=x:=by simpa using h
  exact ⟨rfl,rfl⟩
 | y :: l,i+1,x,h=>by
  have:=kc_at l i x (by simpa using h)
  rw [List.flatMap_cons,List.getElem?_append_right (by simp only [kcC,List.length_cons,List.length_nil];omega),List.getElem?_append_right (by simp only [kcC,List.length_cons,List.length_nil];omega)]
  simp only [kcC,List.length_cons,List.length_nil,show (i+1) * 2 - (0+1+1)=i * 2 by omega,show (i+1) * 2+1 - (0+1+1)=i * 2+1 by omega]
  exact this
theorem kc_set:∀ (L:List Kc) (i:Nat) (x y:Kc),L[i]?=some x->kcC y=kcC x->(L.set i y).flatMap kcC=L.flatMap kcC
 | [],i,x,y,h,_=>by simp at h
 | z :: l,0,x,y,h,e=>by
  obtain rfl:z=x:=by simpa using h
  rw [List.set_cons_zero,List.flatMap_cons,List.flatMap_cons,e]
 | z :: l,i+1,x,y,h,e=>by
  rw [List.set_cons_succ,List.flatMap_cons,List.flatMap_cons,kc_set l i x y (by simpa using h) e]
structure Kp (w:World) (pb:Nat) (kv:Value) (L:List Kc) (E:Nat->Option Ent):Prop where
 ap:Ap w pb E
 z:E 0=some ⟨pb+1,40,2,kv,L.length,L.flatMap kcC⟩
 el:∀ i x,L[i]?=some x->∃ b,b<=w.heap.size/\E (i+1)=some ⟨b,3,1,x.v,x.l.length,iv x.l⟩
section
variable {w w':World} {pb:Nat} {kv:Value} {L:List Kc} {E:Nat->Option Ent}
theorem Kp.start (w:World):Kp w w.heap.size pz [] (fun i=>if i=0 then some ⟨w.heap.size+1,40,2,pz,0,[]⟩ else none):=by
 refine ⟨⟨fun j x hx=>?_,fun i j x y hij hx hy=>?_⟩,rfl,fun i x hx=>by simp at hx⟩
 ·split at hx
  ·cases hx
   exact ⟨Nat.lt_succ_self _,World.ownsRow_nil _ _ _ _⟩
  ·cases hx
 ·split at hx
  ·split at hy
   ·omega
   ·cases hy
  ·cases hx
theorem Kp.below (h:Kp w pb kv L E) (hb:Below w.heap.size w w'):Kp w' pb kv L E:=⟨h.ap.below hb,h.z,fun i x hx=>by
 obtain ⟨b,h1,h2⟩:=h.el i x hx
 exact ⟨b,Nat.le_trans h1 hb.size,h2⟩⟩
theorem Kp.add (h:Kp w pb kv L E) (hb:Below w.heap.size w w') (hp:pb < w.heap.size) {b:Nat} {v:Value} {l:List Int} (hbb:w.heap.size<=b) (ho:w'.ownsRow b 3 1 v l.length (iv l)):Kp w' pb kv L (up E (L.length+1) (some ⟨b,3,1,v,l.length,iv l⟩)):=
 ⟨h.ap.add hb (by omega) hbb ho _,(up_ne (by omega)).trans h.z,fun i x hx=>by
  have hi:i < L.length:=(List.getElem?_eq_some_iff.1 hx).1
  obtain ⟨b,h1,h2⟩:=h.el i x hx
  exact ⟨b,Nat.le_trans h1 hb.size,(up_ne (by omega)).trans h2⟩⟩
theorem Kp.app (h:Kp w pb kv L E) {b:Nat} {x:Kc} {kv':Value} (hbw:b<=w.heap.size) (hx:E (L.length+1)=some ⟨b,3,1,x.v,x.l.length,iv x.l⟩) (hg:w.grownBy w' kv.ownBlock) (ho:w'.ownsRow (pb+1) 40 2 kv' (L.length+1) (L.flatMap kcC++kcC x)) (hbk:kv'.ownBlock=kv.ownBlock\/kv'.ownBlock=some w.heap.size):∃ E',Kp w' pb kv' (L++[x]) E':=by
 refine ⟨_,h.ap.app h.z hg ho hbk,?_,fun i y hy=>?_⟩
 ·rw [up_same,List.length_append,List.flatMap_append]
  simp only [List.length_cons,List.length_nil,List.flatMap_cons,List.flatMap_nil,List.append_nil]
 ·rw [up_ne (by omega)]
  by_cases hi:i < L.length
  ·rw [List.getElem?_append_left hi] at hy
   obtain ⟨b,h1,h2⟩:=h.el i y hy
   exact ⟨b,Nat.le_trans h1 hg.size,h2⟩
  ·have hlt:=(List.getElem?_eq_some_iff.1 hy).1
   simp only [List.length_append,List.length_cons,List.length_nil] at hlt
   obtain rfl:i=L.length:=by omega
   rw [List.getElem?_append_right (Nat.le_refl _),Nat.sub_self] at hy
   obtain rfl:x=y:=by simpa using hy
   exact ⟨b,Nat.le_trans hbw hg.size,hx⟩
theorem Kp.get (h:Kp w pb kv L E) {i:Nat} {x:Kc} (hi:L[i]?=some x):∃ gk c,kv=.slice (some ⟨gk,0,none⟩) L.length c/\w.cell? ⟨gk,i * 2,none⟩=some x.v/\∃ o n,x.v=.slice o x.l.length n/\IsVals w o (iv x.l)/\∀ k,k < x.l.length->∃ g,o=some ⟨g,0,none⟩/\pb < g/\∀ j,w.frozen? ⟨g,j,none⟩=false:=by
 have ho:=(h.ap.ow 0 _ h.z).2
 have hil:i < L.length:=(List.getElem?_eq_some_iff.1 hi).1
 obtain ⟨bo,bc,hv⟩:=own_form ho
 dsimp only at ho hv
 subst hv
 have hg:∃ g,bo=some ⟨g,0,none⟩:=by
  rcases ho.2 with ⟨_,e2⟩ | ⟨g,cap,cur,e1,_⟩
  ·omega
  ·injection e1 with e1 _ _
   exact ⟨g,e1⟩
 obtain ⟨g,rfl⟩:=hg
 obtain ⟨b,-,hb⟩:=h.el i x hi
 have hx:=h.ap.ow _ _ hb
 obtain ⟨o,n,hxv⟩:=own_form hx.2
 dsimp only at hx hxv
 refine ⟨g,bc,rfl,?_,o,n,hxv,?_,fun k hk=>?_⟩
 ·rw [ho.cellAt (i * 2) (by omega)]
  exact (kc_at L i x hi).1
 ·have:=hx.2
  rw [hxv] at this
  exact vals_of this
 ·have h2:=hx.2
  rw [hxv] at h2
  rcases h2.2 with ⟨_,e2⟩ | ⟨g',cap,cur,e1,h3,_⟩
  ·omega
  ·injection e1 with e1 _ _
   subst e1
   exact ⟨g',rfl,by have:=hx.1;omega,h2.frozenAt⟩
theorem Kp.set (h:Kp w pb kv L E) {i k g n:Nat} {x:Kc} (hi:L[i]?=some x) (hv:x.v=.slice (some ⟨g,0,none⟩) x.l.length n) (z:Int):∃ E',Kp (w.setCell ⟨g,k,none⟩ (.int .i64 z)) pb kv (L.set i ⟨x.v,x.l.set k z,x.m⟩) E':=by
 obtain ⟨b,hbw,hb⟩:=h.el i x hi
 rw [hv] at hb
 have h1:=h.ap.setC hb k (.int .i64 z)
 have hs:(w.setCell ⟨g,k,none⟩ (.int .i64 z)).heap.size=w.heap.size:=by simp [World.setCell]
 refine ⟨_,h1,?_,fun j y hy=>?_⟩
 ·rw [up_ne (by omega),h.z,List.length_set,kc_set L i x ⟨x.v,x.l.set k z,x.m⟩ hi rfl]
 ·rw [hs]
  by_cases e:j=i
  ·subst e
   have hlt:j < L.length:=(List.getElem?_eq_some_iff.1 hi).1
   rw [List.getElem?_set_self hlt] at hy
   cases hy
   refine ⟨b,hbw,?_⟩
   rw [up_same,hv,List.length_set]
   simp only [iv,List.map_set]
  ·rw [List.getElem?_set_ne (fun q=>e q.symm)] at hy
   obtain ⟨b',h2,h3⟩:=h.el j y hy
   exact ⟨b',h2,(up_ne (by omega)).trans h3⟩
theorem Kp.own (h:Kp w pb kv L E) {i:Nat} {x:Kc} (hi:L[i]?=some x):∃ b,b<=w.heap.size/\pb < b/\w.ownsRow b 3 1 x.v x.l.length (iv x.l)/\∀ w' v',Gone w x.v w' v'->w'.ownsRow b 3 1 x.v x.l.length (iv x.l)->Kp w' pb kv L E:=by
 obtain ⟨b,hbw,hb⟩:=h.el i x hi
 exact ⟨b,hbw,(h.ap.ow _ _ hb).1,(h.ap.ow _ _ hb).2,fun w' v' hG ho=>⟨h.ap.more hb hG ho,h.z,fun j y hy=>by
  obtain ⟨b,h1,h2⟩:=h.el j y hy
  exact ⟨b,Nat.le_trans h1 hG.1.size,h2⟩⟩⟩
end
end Go.Proofs.YthbnjhamfcefkaaGreat.Nm.Ty
