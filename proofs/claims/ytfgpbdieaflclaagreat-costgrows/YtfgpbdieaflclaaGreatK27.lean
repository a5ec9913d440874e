import Derived.Laws.CopyOwn
import Derived.Laws.Externs
import Derived.BigQuiet
import Derived.Test.YtfgpbdieaflclaaGreatK16
set_option maxHeartbeats 3200000
set_option maxRecDepth 100000
namespace Go.Proofs.YtfgpbdieaflclaaGreat.Nm
open Go.RowKit Go.Maps Sp Lx Gr
theorem run_copy_rows {P:Program} (w:World) (dT sT ty elem:TypeId) (i:TypeInfo) (hq:P.info? elem=some i) (g o dLen dCap:Nat) (a:Addr) (sLen sCap k:Nat) (hk:Nat.min sLen dLen=k) (cur:List Value) (t:TypeId) (cs:List Value)
  (hu:P.underlying dT=some (.slice elem))
  (hg:w.heap[g]?=some (.cells cur.toArray t (0,0))) (hn:cs.length=k * i.size)
  (hsrc:∀ j v,cs[j]?=some v->w.cell? (a.add j)=some v) (hfit:o+cs.length<=cur.length) (h1:∀ v ∈ cs,v.oneCell'=true):
  (Builtin.copy_ #[dT,sT] ty #[.slice (some ⟨g,o,none⟩) dLen dCap,.slice (some a) sLen sCap]).run P w=.ok (goInt k) (w.setRow g (splice cur o cs).toArray):=by
 have hl:=run_loadCells_list (P:=P) w a cs hsrc
 have hst:=run_storeCells_at P g o t cs 0 cur.toArray w hg (by simpa using hfit) h1
 simp only [Nat.add_zero] at hst
 simp [Builtin.copy_,run_underlying hu,Builtin.lenOf,Builtin.firstCells,sizeOf,typeInfo,hq,hk,<-hn,hl,hst,splice]
theorem rz5_set (l:List Rz) (i:Nat) (r r':Rz) (h:l[i]?=some r):(l.set i r').flatMap rz5=(((((l.flatMap rz5).set (i * 5) (.int .i64 r'.kind)).set (i * 5+1) (.string r'.name)).set (i * 5+2) (.int .i64 r'.stop)).set (i * 5+3) (.int .i64 r'.n)).set (i * 5+4) (.int .i64 r'.kids):=by
 induction l generalizing i with
 | nil=>simp at h
 | cons y l ih=>
  cases i with
  | zero=>
   rw [List.set_cons_zero,List.flatMap_cons,List.flatMap_cons]
   simp [rz5]
  | succ i=>
   have e:∀ k,(i+1) * 5+k=i * 5+k+1+1+1+1+1:=fun k=>by omega
   rw [List.set_cons_succ,List.flatMap_cons,List.flatMap_cons,ih i (by simpa using h)]
   rw [show (i+1) * 5=i * 5+1+1+1+1+1 by omega]
   rw [show i * 5+1+1+1+1+1+1=i * 5+1+1+1+1+1+1 from rfl]
   simp only [rz5,List.cons_append,List.nil_append]
   simp only [show i * 5+1+1+1+1+1+1=(i * 5+1)+1+1+1+1+1 by omega,show i * 5+1+1+1+1+1+2=(i * 5+2)+1+1+1+1+1 by omega,show i * 5+1+1+1+1+1+3=(i * 5+3)+1+1+1+1+1 by omega,show i * 5+1+1+1+1+1+4=(i * 5+4)+1+1+1+1+1 by omega,List.set_cons_succ]
def RowZ (w:World) (g:Nat) (l:List Rz):Prop:=w.heap[g]?=some (.cells (l.flatMap rz5).toArray 47 (0,0))
theorem RowZ.lt {w:World} {g:Nat} {l:List Rz} (h:RowZ w g l):g < w.heap.size:=(Array.getElem?_eq_some_iff.1 h).1
theorem RowZ.cell {w:World} {g:Nat} {l:List Rz} (h:RowZ w g l) {i:Nat} {r:Rz} (hi:l[i]?=some r) (j:Nat) (hj:j < 5):w.cell? ⟨g,i * 5+j,none⟩=(rz5 r)[j]?:=by
 rw [World.cell?,h,<-rz5_at l i j r hi hj]
 simp
theorem RowZ.frozen {w:World} {g:Nat} {l:List Rz} (h:RowZ w g l) (j:Nat):w.frozen? ⟨g,j,none⟩=false:=by rw [World.frozen?,h];simp
theorem RowZ.cells {w:World} {g:Nat} {l:List Rz} (h:RowZ w g l) {i:Nat} {r:Rz} (hi:l[i]?=some r):w.cell? ⟨g,i * 5,none⟩=some (.int .i64 r.kind)/\w.cell? ⟨g,i * 5+1,none⟩=some (.string r.name)/\w.cell? ⟨g,i * 5+2,none⟩=some (.int .i64 r.stop)/\w.cell? ⟨g,i * 5+3,none⟩=some (.int .i64 r.n)/\w.cell? ⟨g,i * 5+4,none⟩=some (.int .i64 r.kids):=
 ⟨h.cell hi 0 (by omega),h.cell hi 1 (by omega),h.cell hi 2 (by omega),h.cell hi 3 (by omega),h.cell hi 4 (by omega)⟩
theorem RowZ.below {w w':World} {g:Nat} {l:List Rz} (h:RowZ w g l) {b:Nat} (hb:Below b w w') (hg:g < b):RowZ w' g l:=(hb.block g hg).trans h
theorem RowZ.reads {w:World} {g:Nat} {l l':List Rz} (h:RowZ w g (l++l')):IsRz w (some ⟨g,0,none⟩) l:=by
 intro i x hx
 have hx':(l++l')[i]?=some x:=by rw [List.getElem?_append_left (List.getElem?_eq_some_iff.1 hx).1];exact hx
 obtain ⟨c0,c1,c2,c3,c4⟩:=h.cells hx'
 refine ⟨g,0,rfl,h.lt,?_,?_,?_,?_,?_⟩<;>simp only [Nat.zero_add]<;>assumption
abbrev storeRow (w:World) (g i:Nat) (r:Rz):World:=((((w.setCell ⟨g,i * 5,none⟩ (.int .i64 r.kind)).setCell ⟨g,i * 5+1,none⟩ (.string r.name)).setCell ⟨g,i * 5+2,none⟩ (.int .i64 r.stop)).setCell ⟨g,i * 5+3,none⟩ (.int .i64 r.n)).setCell ⟨g,i * 5+4,none⟩ (.int .i64 r.kids)
theorem RowZ.set {w:World} {g:Nat} {l:List Rz} (h:RowZ w g l) {i:Nat} {r:Rz} (hi:l[i]?=some r) (r':Rz):RowZ (storeRow w g i r') g (l.set i r'):=by
 have h1:=heap_setCell_same w g (i * 5) _ _ (.int .i64 r'.kind) h
 have h2:=heap_setCell_same _ g (i * 5+1) _ _ (.string r'.name) h1
 have h3:=heap_setCell_same _ g (i * 5+2) _ _ (.int .i64 r'.stop) h2
 have h4:=heap_setCell_same _ g (i * 5+3) _ _ (.int .i64 r'.n) h3
 have h5:=heap_setCell_same _ g (i * 5+4) _ _ (.int .i64 r'.kids) h4
 unfold RowZ storeRow
 rw [h5,rz5_set l i r r' hi]
 simp
theorem mk_cells (n:Nat):madeCells (Value.agg #[.int .i64 0,.string ⟨#[]⟩,.int .i64 0,.int .i64 0,.int .i64 0]).cells (n * 5)=((List.replicate n rz0).flatMap rz5).toArray:=by
 apply Array.ext'
 apply List.ext_getElem?
 intro j
 have e1:(Value.agg #[.int .i64 0,.string ⟨#[]⟩,.int .i64 0,.int .i64 0,.int .i64 0]).cells=#[.int .i64 0,.string ⟨#[]⟩,.int .i64 0,.int .i64 0,.int .i64 0]:=rfl
 rw [e1]
 by_cases hj:j < n * 5
 ·have hq:(List.replicate n rz0)[j / 5]?=some rz0:=by rw [List.getElem?_replicate,if_pos (by omega)]
  have h2:=rz5_at (List.replicate n rz0) (j / 5) (j % 5) rz0 hq (by omega)
  rw [show j / 5 * 5+j % 5=j by omega] at h2
  rw [List.toList_toArray,h2,Array.getElem?_toList]
  simp only [madeCells]
  have hm:j % 5 < 5:=by omega
  simp [hj]
  generalize j % 5=m at hm
  match m,hm with
  | 0,_=>rfl
  | 1,_=>rfl
  | 2,_=>rfl
  | 3,_=>rfl
  | 4,_=>rfl
 ·rw [List.getElem?_eq_none (by rw [Array.length_toList,size_madeCells];omega),List.getElem?_eq_none (by rw [List.toList_toArray,rz5_len,List.length_replicate];omega)]
theorem mk_rows (n:Nat) (hn:n<=2932031007330):∃ M:List Value,(∀ u:World,(Instr.makeSlice 22 (.int .i64 (n:Int)) (.int .i64 (n:Int))).run Tryz.prog u=.ok (.slice (some ⟨u.heap.size,0,none⟩) n n) (u.alloc (.cells M.toArray 47)))/\M=(List.replicate n rz0).flatMap rz5:=by
 obtain ⟨i0,hi,hz0,hz1,hz2⟩:=info_parts infoRw
 refine ⟨_,fun u=>?_,rfl⟩
 have h:=run_make (P:=Tryz.prog) u 22 47 i0 (.agg #[.int .i64 0,.string ⟨#[]⟩,.int .i64 0,.int .i64 0,.int .i64 0]) Tryz.underlying22 hi hz0 .i64 .i64 (n:Int) (n:Int) (by omega) (Int.le_refl _) (by rw [hz2];omega) (by omega)
 have e:(n:Int).toNat=n:=by omega
 rw [e,hz1] at h
 refine h.trans ?_
 have key:madeCells (Value.agg #[.int .i64 0,.string ⟨#[]⟩,.int .i64 0,.int .i64 0,.int .i64 0]).cells (n * 5)=((List.replicate n rz0).flatMap rz5).toArray:=mk_cells n
 rw [key]
def mkL (i:Nat):Rz:=⟨-7,⟨#[108,101,110,116]⟩,0,0,i⟩
def fillL (l:List Rz) (k:Nat):List Rz:=l++((List.range k).map (fun j=>mkL (l.length+j))++List.replicate (9 - k) rz0)
theorem fillL_len (l:List Rz) (k:Nat) (hk:k<=9):(fillL l k).length=l.length+9:=by
 simp [fillL]
 omega
theorem fillL_at (l:List Rz) (k:Nat) (hk:k < 9):(fillL l k)[l.length+k]?=some rz0:=by
 unfold fillL
 rw [List.getElem?_append_right (by omega),show l.length+k - l.length=k by omega,List.getElem?_append_right (by simp),List.length_map,List.length_range,Nat.sub_self,List.getElem?_replicate,if_pos (by omega)]
theorem fillL_set (l:List Rz) (k:Nat) (hk:k < 9):(fillL l k).set (l.length+k) (mkL (l.length+k))=fillL l (k+1):=by
 unfold fillL
 rw [List.set_append_right _ _ (by omega),show l.length+k - l.length=k by omega]
 congr 1
 rw [List.set_append_right _ _ (by simp),List.length_map,List.length_range,Nat.sub_self,show 9 - k=(9 - (k+1))+1 by omega,List.replicate_succ,List.set_cons_zero,List.range_succ,List.map_append,List.append_assoc]
 rfl
theorem copied_rows (ao:Option Addr) (l:List Rz) (cap:Nat) (w:World) (M:List Value) (hM:M=(List.replicate (l.length+9) rz0).flatMap rz5) (h:IsRz w ao l):
  ∃ W2,(Builtin.copy_ #[22,22] 3 #[.slice (some ⟨w.heap.size,0,none⟩) (l.length+9) (l.length+9),.slice ao l.length cap]).run Tryz.prog (w.alloc (.cells M.toArray 47))=.ok (goInt l.length) W2 /\
   RowZ W2 w.heap.size (fillL l 0)/\Below w.heap.size w W2:=by
 obtain ⟨i0,hi,hz0,hz1,hz2⟩:=info_parts infoRw
 have hB:Below w.heap.size w (w.alloc (.cells M.toArray 47)):=bAl w _
 by_cases h0:l.length=0
 ·obtain rfl:l=[]:=List.eq_nil_of_length_eq_zero h0
  refine ⟨w.alloc (.cells M.toArray 47),?_,?_,hB⟩
  ·simp [Builtin.copy_,run_underlying Tryz.underlying22,Builtin.lenOf,Builtin.firstCells,sizeOf,typeInfo,hi]
   cases ao<;>simp [storeCells,loadCells,go_sem]
  ·show _=_
   rw [heap_alloc_new,hM]
   rfl
 ·obtain ⟨g,o,rfl,hg,hc⟩:=rz_cells h (by omega)
  have hr:=run_copy_rows (P:=Tryz.prog) (w.alloc (.cells M.toArray 47)) 22 22 3 47 i0 hi w.heap.size 0 (l.length+9) (l.length+9) ⟨g,o,none⟩ l.length cap l.length (Nat.min_eq_left (by omega)) M 47 (l.flatMap rz5) Tryz.underlying22 (heap_alloc_new w _)
   (by rw [rz5_len,hz1]) (fun j v hv=>by
    have h1:=hc j v hv
    rw [Lib.addr_add] at h1 ⊢
    exact (World.cell?_of_block (a:=⟨g,o+j,none⟩) (Below.heap_alloc w _ g hg)).trans h1) (by rw [rz5_len,hM,rz5_len,List.length_replicate];omega) (rz5_one l)
  refine ⟨_,hr,?_,below_setRow hB (Nat.le_refl _) _⟩
  have this:∀ n,((List.replicate (n+9) rz0).flatMap rz5).drop (n * 5)=(List.replicate 9 rz0).flatMap rz5:=by
   intro n
   induction n with
   | zero=>rfl
   | succ n ih=>
    rw [show n+1+9=(n+9)+1 by omega,List.replicate_succ,List.flatMap_cons,show (n+1) * 5=(rz5 rz0).length+n * 5 by show _=5+_;omega,List.drop_length_add_append,ih]
  have key:splice M 0 (l.flatMap rz5)=(fillL l 0).flatMap rz5:=by
   unfold splice fillL
   rw [List.take_zero,List.nil_append,List.flatMap_append,Nat.zero_add,rz5_len,hM,this]
   rfl
  have h5:=setRow_heap (w.alloc (.cells M.toArray 47)) w.heap.size M.toArray (splice M 0 (l.flatMap rz5)).toArray 47 (0,0) (heap_alloc_new w _)
  rw [key] at h5
  unfold RowZ
  rw [key]
  exact h5
theorem lendR_any (ao:Option Addr) (l:List Rz) (cap:Nat) (w:World) (h:IsRz w ao l) (hn:l.length<=2932031007300):
  Calls Tryz.prog 28 #[.slice ao l.length cap] w fun e w'=>e=.returned (.slice (some ⟨w.heap.size,0,none⟩) l.length (l.length+9))/\RowZ w' w.heap.size (fillL l 9)/\Below w.heap.size w w':=by
 obtain ⟨M,hmk,hM⟩:=mk_rows (l.length+9) (by omega)
 have hmk2:∀ u:World,(Instr.makeSlice 22 (.int .i64 ((l.length:Int)+9)) (.int .i64 ((l.length:Int)+9))).run Tryz.prog u=.ok (.slice (some ⟨u.heap.size,0,none⟩) (l.length+9) (l.length+9)) (u.alloc (.cells M.toArray 47)):=fun u=>by
  have:=hmk u
  rw [show ((l.length+9:Nat):Int)=(l.length:Int)+9 by omega] at this
  exact this
 obtain ⟨W2,hcp,hR,hB⟩:=copied_rows ao l cap w M hM h
 have H0:Hid (RowZ W2 w.heap.size (fillL l 0)/\Below w.heap.size w W2):=⟨hR,hB⟩
 have hln:(l.length:Int)<=2932031007300:=by omega
 clear hmk hM h hn hR hB
 go_enter Tryz.func28,Tryz.ntmps28
 go_wp2_with fail
 go_loopg [4] 9 (fun gq i wr=>∃ k:Nat,k<=9/\gq=9 - k/\i=.int .i64 ((l.length:Int)+k)/\RowZ wr w.heap.size (fillL l k)/\Below w.heap.size w wr)
 case atStart=>exact ⟨0,by omega,rfl,by go_num,H0.out.1,H0.out.2⟩
 case round=>
  obtain ⟨k,hk,hgk,rfl,hR,hB⟩:=hrel
  have HG:Hid (gk=9 - k):=hgk
  have HR:Hid (RowZ wr w.heap.size (fillL l k)/\Below w.heap.size w wr):=⟨hR,hB⟩
  have hk3:(k:Int)<=9:=by omega
  clear hgk hB
  by_cases hlt:k < 9
  ·have hlt':(l.length:Int)+(k:Int) < (l.length:Int)+9:=by omega
   obtain ⟨c0,c1,c2,c3,c4⟩:=hR.cells (fillL_at l k hlt)
   have hf:=hR.frozen
   have hs:=hR.set (fillL_at l k hlt) (mkL (l.length+k))
   rw [fillL_set l k hlt] at hs
   have HS:Hid (RowZ (storeRow wr w.heap.size (l.length+k) (mkL (l.length+k))) w.heap.size (fillL l (k+1))):=hs
   have htn:((l.length:Int)+(k:Int)).toNat=l.length+k:=by omega
   have hcast:((l.length+k:Nat):Int)=(l.length:Int)+(k:Int):=by omega
   clear hR hs hlt
   rw [<-hcast] at hlt' ⊢
   go_wp2_with fail
   go_roundg (9 - (k+1))
   case measure=>have h1:=HG.out;omega
   case rel=>exact ⟨k+1,by omega,rfl,by go_num,HS.out,((((HR.out.2.setCell (p:=⟨w.heap.size,(l.length+k) * 5,none⟩) (Nat.le_refl _) _).setCell (p:=⟨w.heap.size,(l.length+k) * 5+1,none⟩) (Nat.le_refl _) _).setCell (p:=⟨w.heap.size,(l.length+k) * 5+2,none⟩) (Nat.le_refl _) _).setCell (p:=⟨w.heap.size,(l.length+k) * 5+3,none⟩) (Nat.le_refl _) _).setCell (p:=⟨w.heap.size,(l.length+k) * 5+4,none⟩) (Nat.le_refl _) _⟩
  ·have hlt':¬ ((l.length:Int)+(k:Int) < (l.length:Int)+9):=by omega
   have hke:k=9:=by omega
   have HF:Hid (RowZ wr w.heap.size (fillL l 9)/\Below w.heap.size w wr):=by rw [hke] at HR;exact HR
   clear hR hke hlt
   go_wp2_with fail
   go_ret
   exact ⟨rfl,HF.out⟩
structure Ow where
 i:Nat
 T:TypeId
 sz:Nat
 v:Value
 n:Nat
 xs:List Value
structure Ob (W:World) (b base:Nat) (T:TypeId) (cs:Array Value) (os:List Ow):Prop where
 blk:W.heap[b]?=some (.cells cs T (0,0))
 own:∀ o ∈ os,cs[o.i]?=some o.v/\W.ownsRow base o.T o.sz o.v o.n o.xs
 dis:os.Pairwise fun a c=>∀ g,a.v.ownBlock=some g->c.v.ownBlock ≠ some g
 ixs:os.Pairwise fun a c=>a.i ≠ c.i
 lt:b < base
 sz:base<=W.heap.size
section
variable {W W':World} {b base:Nat} {T:TypeId} {cs:Array Value} {os:List Ow}
theorem Ob.below (h:Ob W b base T cs os) (hb:Below W.heap.size W W'):Ob W' b base T cs os:=
 ⟨(hb.block _ (blk_lt h.blk)).trans h.blk,fun o ho=>⟨(h.own o ho).1,own_below (h.own o ho).2 hb⟩,h.dis,h.ixs,h.lt,Nat.le_trans h.sz hb.size⟩
theorem Ob.set (h:Ob W b base T cs os) (i:Nat) (v:Value) (hi:∀ o ∈ os,o.i ≠ i):Ob (W.setCell ⟨b,i,none⟩ v) b base T (cs.setIfInBounds i v) os:=by
 have hset:∀ k,k ≠ b->(W.setCell ⟨b,i,none⟩ v).heap[k]?=W.heap[k]?:=fun k hk=>Below.heap_setCell W _ v k (fun e=>hk e)
 refine ⟨heap_setCell_same W b i cs T v h.blk,fun o ho=>⟨?_,own_keepB (h.own o ho).2 (fun k hk=>hset k ?_)⟩,h.dis,h.ixs,h.lt,?_⟩
 ·rw [Array.getElem?_setIfInBounds,if_neg (fun e=>hi o ho e.symm)]
  exact (h.own o ho).1
 ·have:=(World.ownsRow.lt (h.own o ho).2 k hk).1
  have:=h.lt
  omega
 ·have:=h.sz
  simpa [World.setCell] using this
theorem Ob.other (h:Ob W b base T cs os) {g:Nat} (hg:g < base) (hne:g ≠ b) (hF:Fr [g] W W'):Ob W' b base T cs os:=by
 have hb:∀ k,k < W.heap.size->k ≠ g->W'.heap[k]?=W.heap[k]?:=fun k hk hn=>hF.block k hk (by simpa using hn)
 refine ⟨(hb b (blk_lt h.blk) (Ne.symm hne)).trans h.blk,fun o ho=>⟨(h.own o ho).1,own_keepB (h.own o ho).2 (fun k hk=>hb k (World.ownsRow.lt (h.own o ho).2 k hk).2 ?_)⟩,h.dis,h.ixs,h.lt,Nat.le_trans h.sz hF.size⟩
 have:=(World.ownsRow.lt (h.own o ho).2 k hk).1
 omega
end
theorem Ob.put {W W2:World} {b base:Nat} {T:TypeId} {cs:Array Value} {os1 os2:List Ow} {o:Ow} {v':Value} {n':Nat} {xs':List Value} (h:Ob W b base T cs (os1++o :: os2)) (hG:Gone W o.v W2 v') (ho:W2.ownsRow base o.T o.sz v' n' xs'):
  W2.heap[b]?=some (.cells cs T (0,0))/\Ob (W2.setCell ⟨b,o.i,none⟩ v') b base T (cs.setIfInBounds o.i v') (os1++{ o with v:=v',n:=n',xs:=xs' } :: os2):=by
 have hmem:o ∈ os1++o :: os2:=by simp
 have hoo:=h.own o hmem
 have hlt:∀ k,o.v.ownBlock=some k->base<=k/\k < W.heap.size:=fun k e=>World.ownsRow.lt hoo.2 k e
 have hbl:=h.lt
 have hblk2:W2.heap[b]?=some (.cells cs T (0,0)):=(hG.1.block b (blk_lt h.blk) (fun e=>by have:=(hlt b e.symm).1;omega)).trans h.blk
 have hset:∀ k,k ≠ b->(W2.setCell ⟨b,o.i,none⟩ v').heap[k]?=W2.heap[k]?:=fun k hk=>Below.heap_setCell W2 _ v' k (fun e=>hk e)
 have hds:=List.pairwise_append.1 h.dis
 have hix:=List.pairwise_append.1 h.ixs
 have hd2:=List.pairwise_cons.1 hds.2.1
 have hi2:=List.pairwise_cons.1 hix.2.1
 have hne:∀ a ∈ os1++os2,(∀ g,a.v.ownBlock=some g->o.v.ownBlock ≠ some g)/\a.i ≠ o.i:=fun a ha=>by
  rcases List.mem_append.1 ha with ha | ha
  ·exact ⟨hds.2.2 a ha o (by simp),hix.2.2 a ha o (by simp)⟩
  ·exact ⟨fun g e e2=>hd2.1 a ha g e2 e,fun e=>hi2.1 a ha e.symm⟩
 have hin:∀ a ∈ os1++os2,a ∈ os1++o :: os2:=fun a ha=>by
  rcases List.mem_append.1 ha with ha | ha
  ·exact List.mem_append.2 (Or.inl ha)
  ·exact List.mem_append.2 (Or.inr (List.mem_cons_of_mem _ ha))
 have hrow:∀ a ∈ os1++os2,W2.ownsRow base a.T a.sz a.v a.n a.xs:=fun a ha=>own_keepB (h.own a (hin a ha)).2 (fun k hk=>hG.1.block k (World.ownsRow.lt (h.own a (hin a ha)).2 k hk).2 (fun e=>(hne a ha).1 k hk e.symm))
 have hv':∀ a ∈ os1++os2,∀ g,a.v.ownBlock=some g->v'.ownBlock ≠ some g:=fun a ha g hg e=>by
  rcases hG.own with hq | hq
  ·rw [hq] at e
   exact (hne a ha).1 g hg e
  ·have:=hq g e
   have:=(World.ownsRow.lt (h.own a (hin a ha)).2 g hg).2
   omega
 have hkeep:∀ {S:TypeId} {sz n:Nat} {v:Value} {xs:List Value},W2.ownsRow base S sz v n xs->(W2.setCell ⟨b,o.i,none⟩ v').ownsRow base S sz v n xs:=fun h1=>own_keepB h1 (fun k hk=>hset k (by have:=(World.ownsRow.lt h1 k hk).1;omega))
 have hsz:o.i < cs.size:=(Array.getElem?_eq_some_iff.1 hoo.1).1
 refine ⟨hblk2,⟨heap_setCell_same W2 b o.i cs T v' hblk2,fun a ha=>?_,?_,?_,h.lt,?_⟩⟩
 ·have hsp:a={ o with v:=v',n:=n',xs:=xs' } \/ a ∈ os1++os2:=by
   rcases List.mem_append.1 ha with ha | ha
   ·exact Or.inr (List.mem_append.2 (Or.inl ha))
   ·rcases List.mem_cons.1 ha with ha | ha
    ·exact Or.inl ha
    ·exact Or.inr (List.mem_append.2 (Or.inr ha))
  rcases hsp with rfl | ha2
  ·exact ⟨by simp [hsz],hkeep ho⟩
  ·refine ⟨?_,hkeep (hrow a ha2)⟩
   rw [Array.getElem?_setIfInBounds,if_neg (fun e=>(hne a ha2).2 e.symm)]
   exact (h.own a (hin a ha2)).1
 ·refine List.pairwise_append.2 ⟨hds.1,List.pairwise_cons.2 ⟨fun a ha g e=>?_,hd2.2⟩,fun a ha c hc=>?_⟩
  ·exact fun e2=>hv' a (List.mem_append.2 (Or.inr ha)) g e2 e
  ·rcases List.mem_cons.1 hc with rfl | hc
   ·exact hv' a (List.mem_append.2 (Or.inl ha))
   ·exact hds.2.2 a ha c (List.mem_cons_of_mem _ hc)
 ·refine List.pairwise_append.2 ⟨hix.1,List.pairwise_cons.2 ⟨hi2.1,hi2.2⟩,fun a ha c hc=>?_⟩
  rcases List.mem_cons.1 hc with rfl | hc
  ·exact hix.2.2 a ha o (by simp)
  ·exact hix.2.2 a ha c (List.mem_cons_of_mem _ hc)
 ·have:=hG.1.size
  have:=h.sz
  simp [World.setCell]
  omega
theorem own_store {W:World} {base n g cap j:Nat} {T:TypeId} {xs:List Value} (h:W.ownsRow base T 1 (.slice (some ⟨g,0,none⟩) n cap) n xs) (u:Value):(W.setCell ⟨g,j,none⟩ u).ownsRow base T 1 (.slice (some ⟨g,0,none⟩) n cap) n (xs.set j u):=by
 obtain ⟨hx,hr⟩:=h
 rcases hr with ⟨e,_⟩ | ⟨g',cap',cur,e,h2,h3,h4,h5,h6,h7⟩
 ·cases e
 ·cases e
  refine ⟨by rw [List.length_set];exact hx,Or.inr ⟨g,cap,cur.setIfInBounds j u,rfl,h2,heap_setCell_same W g j cur T u h3,h4,h5,by simpa using h6,?_⟩⟩
  rw [Array.toList_setIfInBounds,List.take_set,h7]
theorem Ob.store {W:World} {b base g cap j n:Nat} {T S:TypeId} {i:Nat} {cs:Array Value} {os1 os2:List Ow} {xs:List Value} (u:Value) (h:Ob W b base T cs (os1++⟨i,S,1,.slice (some ⟨g,0,none⟩) n cap,n,xs⟩ :: os2)):
  Ob (W.setCell ⟨g,j,none⟩ u) b base T cs (os1++⟨i,S,1,.slice (some ⟨g,0,none⟩) n cap,n,xs.set j u⟩ :: os2):=by
 have hoo:=h.own ⟨i,S,1,.slice (some ⟨g,0,none⟩) n cap,n,xs⟩ (by simp)
 have hg:=World.ownsRow.lt hoo.2 g rfl
 have hbl:=h.lt
 have hset:∀ k,k ≠ g->(W.setCell ⟨g,j,none⟩ u).heap[k]?=W.heap[k]?:=fun k hk=>Below.heap_setCell W _ u k (fun e=>hk e)
 have hds:=List.pairwise_append.1 h.dis
 have hix:=List.pairwise_append.1 h.ixs
 have hd2:=List.pairwise_cons.1 hds.2.1
 have hi2:=List.pairwise_cons.1 hix.2.1
 have hne:∀ a ∈ os1++os2,∀ k,a.v.ownBlock=some k->k ≠ g:=fun a ha k hk e=>by
  subst e
  rcases List.mem_append.1 ha with ha | ha
  ·exact hds.2.2 a ha _ List.mem_cons_self k hk rfl
  ·exact hd2.1 a ha k rfl hk
 have hin:∀ a ∈ os1++os2,a ∈ os1++⟨i,S,1,.slice (some ⟨g,0,none⟩) n cap,n,xs⟩ :: os2:=fun a ha=>by
  rcases List.mem_append.1 ha with ha | ha
  ·exact List.mem_append.2 (Or.inl ha)
  ·exact List.mem_append.2 (Or.inr (List.mem_cons_of_mem _ ha))
 refine ⟨(hset b (by omega)).trans h.blk,fun a ha=>?_,?_,?_,h.lt,by have:=h.sz;simpa [World.setCell] using this⟩
 ·have hsp:a=⟨i,S,1,.slice (some ⟨g,0,none⟩) n cap,n,xs.set j u⟩\/a ∈ os1++os2:=by
   rcases List.mem_append.1 ha with ha | ha
   ·exact Or.inr (List.mem_append.2 (Or.inl ha))
   ·rcases List.mem_cons.1 ha with ha | ha
    ·exact Or.inl ha
    ·exact Or.inr (List.mem_append.2 (Or.inr ha))
  rcases hsp with rfl | ha2
  ·exact ⟨hoo.1,own_store hoo.2 u⟩
  ·exact ⟨(h.own a (hin a ha2)).1,own_keepB (h.own a (hin a ha2)).2 (fun k hk=>hset k (hne a ha2 k hk))⟩
 ·refine List.pairwise_append.2 ⟨hds.1,List.pairwise_cons.2 ⟨fun a ha k e e2=>hd2.1 a ha k e e2,hd2.2⟩,fun a ha c hc=>?_⟩
  rcases List.mem_cons.1 hc with rfl | hc
  ·exact fun k e e2=>hds.2.2 a ha _ List.mem_cons_self k e e2
  ·exact hds.2.2 a ha c (List.mem_cons_of_mem _ hc)
 ·refine List.pairwise_append.2 ⟨hix.1,List.pairwise_cons.2 ⟨hi2.1,hi2.2⟩,fun a ha c hc=>?_⟩
  rcases List.mem_cons.1 hc with rfl | hc
  ·exact hix.2.2 a ha ⟨i,S,1,.slice (some ⟨g,0,none⟩) n cap,n,xs⟩ List.mem_cons_self
  ·exact hix.2.2 a ha c (List.mem_cons_of_mem _ hc)
theorem onsOf_cons (ev:List ((Nat × Nat) × Nat)) (n k a:Nat):onsOf (((1,k),a) :: ev) n=(onsOf ev n).set k (a:Int):=by
 refine List.ext_getElem? fun j=>?_
 simp only [onsOf,List.getElem?_map,List.getElem?_set,List.length_map,List.length_range]
 by_cases hj:j < n
 ·rw [List.getElem?_range hj]
  by_cases e:k=j
  ·subst e
   rw [if_pos rfl,if_pos hj]
   simp [plc,lk]
  ·rw [if_neg e]
   simp only [Option.map_some,plc,lk]
   rw [if_neg (fun h=>e (by cases h;rfl))]
 ·rw [List.getElem?_eq_none (by simpa using hj)]
  by_cases e:k=j
  ·rw [if_pos e,if_neg (by omega)];rfl
  ·rw [if_neg e];rfl
theorem onsOf_miss (ev:List ((Nat × Nat) × Nat)) (n a:Nat):onsOf (((5,0),a) :: ev) n=onsOf ev n:=by
 unfold onsOf
 refine List.map_congr_left fun q _=>?_
 simp only [plc,lk]
 rw [if_neg (fun h=>by cases h)]
theorem plc_cons (ev:List ((Nat × Nat) × Nat)) (x:Nat × Nat) (a:Nat):plc ((x,a) :: ev) x=(a:Int):=by simp [plc,lk]
theorem plc_other (ev:List ((Nat × Nat) × Nat)) (k a:Nat):plc (((1,k),a) :: ev) (5,0)=plc ev (5,0):=by
 simp only [plc,lk]
 rw [if_neg (fun h=>by cases h)]
theorem plc_some {ev:List ((Nat × Nat) × Nat)} {x:Nat × Nat} : (lk ev x).isSome=true ↔ 0<=plc ev x:=by
 unfold plc
 cases lk ev x with
 | none=>simp
 | some v=>simp
end Go.Proofs.YtfgpbdieaflclaaGreat.Nm
