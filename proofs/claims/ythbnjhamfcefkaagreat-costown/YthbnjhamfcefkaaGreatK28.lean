import Derived.Test.YthbnjhamfcefkaaGreatK25
import Derived.Deep.LoopGhost
set_option maxHeartbeats 3200000
set_option maxRecDepth 100000
namespace Go.Proofs.YthbnjhamfcefkaaGreat.Nm
open Go.RowKit Go.Maps Sp Lx Gr
theorem filled_most {r:Rz} (h:filled r=true):r.kids<=greatest r.kind:=by
 unfold filled at h
 simp only [Bool.and_eq_true] at h
 have h1:=h.2.2.2
 unfold wtn at h1
 simp only [Bool.and_eq_true,decide_eq_true_eq] at h1
 exact h1.2
theorem res_most {l:List Rz} {p:Pl} (h:res l=.ok p):∀ i,i < p.rows.length->(km p.rows i:Int)<=greatest (rat p.rows i).kind:=by
 unfold res at h
 split at h
 ·cases h
 ·rename_i hk
  have hB:=base_of (chk_ok (by simpa using hk)).2
  unfold resR at h
  split at h
  ·cases h
  ·rename_i s hs
   have hg:=upto_good hB _ (Nat.le_refl _) hs
   have hll:=like_len hg.like
   split at h
   ·cases h
   ·cases h
    intro i hi
    have hi':i < s.rows.length:=hi
    have hi2:i < l.length:=by omega
    obtain ⟨e1,_,e2⟩:=like_kind hg.like hi2
    have h3:=filled_most (hB.fill i hi2)
    have h4:=(like_tree hg.like hB.tree).kids i hi'
    show (km s.rows i:Int)<=greatest (rat s.rows i).kind
    have h5:(rat s.rows i).kids=(rat l i).kids:=by
     have:=e2
     first | exact this | exact this.1
    rw [e1]
    omega
theorem IsP.most {p:Pg} {p':Pl} (h:IsP p p'):(∀ i,i < p.rows.length->(rat p.rows i).kind=12->km p.rows i<=3)/\(∀ i,i < p.rows.length->(rat p.rows i).kind=13->km p.rows i=3):=by
 obtain ⟨h1,h2⟩:=h
 have hm:=res_most h1
 have hf:=res_least h1
 subst h2
 refine ⟨fun i hi e=>?_,fun i hi e=>?_⟩
 ·have e':(rat p'.rows i).kind=12:=e
  have:=hm i hi
  rw [e'] at this
  have h3:greatest 12=3:=by decide
  show km p'.rows i<=3
  omega
 ·have e':(rat p'.rows i).kind=13:=e
  have h4:=hm i hi
  have h5:=hf i hi
  rw [e'] at h4 h5
  have h3:greatest 13=3:=by decide
  have h6:least 13=3:=by decide
  show km p'.rows i=3
  omega
structure Ow where
 i:Nat
 T:TypeId
 sz:Nat
 v:Value
 n:Nat
 xs:List Value
structure Ob (W:World) (b base:Nat) (T:TypeId) (cs:Array Value) (os:List Ow):Prop where
 blk:W.heap[b]?=some (.cells cs T (0,0))
 own:∀ o ∈ os,cs[o.i]?=some o.v/\W.ownsRow base o.T o.sz o.v o.n o.xs
 dis:os.Pairwise fun a c=>∀ g,a.v.ownBlock=some g->c.v.ownBlock ≠ some g
 ixs:os.Pairwise fun a c=>a.i ≠ c.i
 lt:b < base
 sz:base<=W.heap.size
section
variable {W W':World} {b base:Nat} {T:TypeId} {cs:Array Value} {os:List Ow}
theorem Ob.below (h:Ob W b base T cs os) (hb:Below W.heap.size W W'):Ob W' b base T cs os:=
 ⟨(hb.block _ (blk_lt h.blk)).trans h.blk,fun o ho=>⟨(h.own o ho).1,own_below (h.own o ho).2 hb⟩,h.dis,h.ixs,h.lt,Nat.le_trans h.sz hb.size⟩
theorem Ob.set (h:Ob W b base T cs os) (i:Nat) (v:Value) (hi:∀ o ∈ os,o.i ≠ i):Ob (W.setCell ⟨b,i,none⟩ v) b base T (cs.setIfInBounds i v) os:=by
 have hset:∀ k,k ≠ b->(W.setCell ⟨b,i,none⟩ v).heap[k]?=W.heap[k]?:=fun k hk=>Below.heap_setCell W _ v k (fun e=>hk e)
 refine ⟨heap_setCell_same W b i cs T v h.blk,fun o ho=>⟨?_,own_keepB (h.own o ho).2 (fun k hk=>hset k ?_)⟩,h.dis,h.ixs,h.lt,?_⟩
 ·rw [Array.getElem?_setIfInBounds,if_neg (fun e=>hi o ho e.symm)]
  exact (h.own o ho).1
 ·have:=(World.ownsRow.lt (h.own o ho).2 k hk).1
  have:=h.lt
  omega
 ·have:=h.sz
  simpa [World.setCell] using this
theorem Ob.other (h:Ob W b base T cs os) {g:Nat} (hg:g < base) (hne:g ≠ b) (hF:Fr [g] W W'):Ob W' b base T cs os:=by
 have hb:∀ k,k < W.heap.size->k ≠ g->W'.heap[k]?=W.heap[k]?:=fun k hk hn=>hF.block k hk (by simpa using hn)
 refine ⟨(hb b (blk_lt h.blk) (Ne.symm hne)).trans h.blk,fun o ho=>⟨(h.own o ho).1,own_keepB (h.own o ho).2 (fun k hk=>hb k (World.ownsRow.lt (h.own o ho).2 k hk).2 ?_)⟩,h.dis,h.ixs,h.lt,Nat.le_trans h.sz hF.size⟩
 have:=(World.ownsRow.lt (h.own o ho).2 k hk).1
 omega
end
theorem Ob.put {W W2:World} {b base:Nat} {T:TypeId} {cs:Array Value} {os1 os2:List Ow} {o:Ow} {v':Value} {n':Nat} {xs':List Value} (h:Ob W b base T cs (os1++o :: os2)) (hG:Gone W o.v W2 v') (ho:W2.ownsRow base o.T o.sz v' n' xs'):
  W2.heap[b]?=some (.cells cs T (0,0))/\Ob (W2.setCell ⟨b,o.i,none⟩ v') b base T (cs.setIfInBounds o.i v') (os1++{ o with v:=v',n:=n',xs:=xs' } :: os2):=by
 have hmem:o ∈ os1++o :: os2:=by simp
 have hoo:=h.own o hmem
 have hlt:∀ k,o.v.ownBlock=some k->base<=k/\k < W.heap.size:=fun k e=>World.ownsRow.lt hoo.2 k e
 have hbl:=h.lt
 have hblk2:W2.heap[b]?=some (.cells cs T (0,0)):=(hG.1.block b (blk_lt h.blk) (fun e=>by have:=(hlt b e.symm).1;omega)).trans h.blk
 have hset:∀ k,k ≠ b->(W2.setCell ⟨b,o.i,none⟩ v').heap[k]?=W2.heap[k]?:=fun k hk=>Below.heap_setCell W2 _ v' k (fun e=>hk e)
 have hds:=List.pairwise_append.1 h.dis
 have hix:=List.pairwise_append.1 h.ixs
 have hd2:=List.pairwise_cons.1 hds.2.1
 have hi2:=List.pairwise_cons.1 hix.2.1
 have hne:∀ a ∈ os1++os2,(∀ g,a.v.ownBlock=some g->o.v.ownBlock ≠ some g)/\a.i ≠ o.i:=fun a ha=>by
  rcases List.mem_append.1 ha with ha | ha
  ·exact ⟨hds.2.2 a ha o (by simp),hix.2.2 a ha o (by simp)⟩
  ·exact ⟨fun g e e2=>hd2.1 a ha g e2 e,fun e=>hi2.1 a ha e.symm⟩
 have hin:∀ a ∈ os1++os2,a ∈ os1++o :: os2:=fun a ha=>by
  rcases List.mem_append.1 ha with ha | ha
  ·exact List.mem_append.2 (Or.inl ha)
  ·exact List.mem_append.2 (Or.inr (List.mem_cons_of_mem _ ha))
 have hrow:∀ a ∈ os1++os2,W2.ownsRow base a.T a.sz a.v a.n a.xs:=fun a ha=>own_keepB (h.own a (hin a ha)).2 (fun k hk=>hG.1.block k (World.ownsRow.lt (h.own a (hin a ha)).2 k hk).2 (fun e=>(hne a ha).1 k hk e.symm))
 have hv':∀ a ∈ os1++os2,∀ g,a.v.ownBlock=some g->v'.ownBlock ≠ some g:=fun a ha g hg e=>by
  rcases hG.own with hq | hq
  ·rw [hq] at e
   exact (hne a ha).1 g hg e
  ·have:=hq g e
   have:=(World.ownsRow.lt (h.own a (hin a ha)).2 g hg).2
   omega
 have hkeep:∀ {S:TypeId} {sz n:Nat} {v:Value} {xs:List Value},W2.ownsRow base S sz v n xs->(W2.setCell ⟨b,o.i,none⟩ v').ownsRow base S sz v n xs:=fun h1=>own_keepB h1 (fun k hk=>hset k (by have:=(World.ownsRow.lt h1 k hk).1;omega))
 have hsz:o.i < cs.size:=(Array.getElem?_eq_some_iff.1 hoo.1).1
 refine ⟨hblk2,⟨heap_setCell_same W2 b o.i cs T v' hblk2,fun a ha=>?_,?_,?_,h.lt,?_⟩⟩
 ·have hsp:a={ o with v:=v',n:=n',xs:=xs' } \/ a ∈ os1++os2:=by
   rcases List.mem_append.1 ha with ha | ha
   ·exact Or.inr (List.mem_append.2 (Or.inl ha))
   ·rcases List.mem_cons.1 ha with ha | ha
    ·exact Or.inl ha
    ·exact Or.inr (List.mem_append.2 (Or.inr ha))
  rcases hsp with rfl | ha2
  ·exact ⟨by simp [hsz],hkeep ho⟩
  ·refine ⟨?_,hkeep (hrow a ha2)⟩
   rw [Array.getElem?_setIfInBounds,if_neg (fun e=>(hne a ha2).2 e.symm)]
   exact (h.own a (hin a ha2)).1
 ·refine List.pairwise_append.2 ⟨hds.1,List.pairwise_cons.2 ⟨fun a ha g e=>?_,hd2.2⟩,fun a ha c hc=>?_⟩
  ·exact fun e2=>hv' a (List.mem_append.2 (Or.inr ha)) g e2 e
  ·rcases List.mem_cons.1 hc with rfl | hc
   ·exact hv' a (List.mem_append.2 (Or.inl ha))
   ·exact hds.2.2 a ha c (List.mem_cons_of_mem _ hc)
 ·refine List.pairwise_append.2 ⟨hix.1,List.pairwise_cons.2 ⟨hi2.1,hi2.2⟩,fun a ha c hc=>?_⟩
  rcases List.mem_cons.1 hc with rfl | hc
  ·exact hix.2.2 a ha o (by simp)
  ·exact hix.2.2 a ha c (List.mem_cons_of_mem _ hc)
 ·have:=hG.1.size
  have:=h.sz
  simp [World.setCell]
  omega
theorem own_store {W:World} {base n g cap j:Nat} {T:TypeId} {xs:List Value} (h:W.ownsRow base T 1 (.slice (some ⟨g,0,none⟩) n cap) n xs) (u:Value):(W.setCell ⟨g,j,none⟩ u).ownsRow base T 1 (.slice (some ⟨g,0,none⟩) n cap) n (xs.set j u):=by
 obtain ⟨hx,hr⟩:=h
 rcases hr with ⟨e,_⟩ | ⟨g',cap',cur,e,h2,h3,h4,h5,h6,h7⟩
 ·cases e
 ·cases e
  refine ⟨by rw [List.length_set];exact hx,Or.inr ⟨g,cap,cur.setIfInBounds j u,rfl,h2,heap_setCell_same W g j cur T u h3,h4,h5,by simpa using h6,?_⟩⟩
  rw [Array.toList_setIfInBounds,List.take_set,h7]
theorem Ob.store {W:World} {b base g cap j n:Nat} {T S:TypeId} {i:Nat} {cs:Array Value} {os1 os2:List Ow} {xs:List Value} (u:Value) (h:Ob W b base T cs (os1++⟨i,S,1,.slice (some ⟨g,0,none⟩) n cap,n,xs⟩ :: os2)):
  Ob (W.setCell ⟨g,j,none⟩ u) b base T cs (os1++⟨i,S,1,.slice (some ⟨g,0,none⟩) n cap,n,xs.set j u⟩ :: os2):=by
 have hoo:=h.own ⟨i,S,1,.slice (some ⟨g,0,none⟩) n cap,n,xs⟩ (by simp)
 have hg:=World.ownsRow.lt hoo.2 g rfl
 have hbl:=h.lt
 have hset:∀ k,k ≠ g->(W.setCell ⟨g,j,none⟩ u).heap[k]?=W.heap[k]?:=fun k hk=>Below.heap_setCell W _ u k (fun e=>hk e)
 have hds:=List.pairwise_append.1 h.dis
 have hix:=List.pairwise_append.1 h.ixs
 have hd2:=List.pairwise_cons.1 hds.2.1
 have hi2:=List.pairwise_cons.1 hix.2.1
 have hne:∀ a ∈ os1++os2,∀ k,a.v.ownBlock=some k->k ≠ g:=fun a ha k hk e=>by
  subst e
  rcases List.mem_append.1 ha with ha | ha
  ·exact hds.2.2 a ha _ List.mem_cons_self k hk rfl
  ·exact hd2.1 a ha k rfl hk
 have hin:∀ a ∈ os1++os2,a ∈ os1++⟨i,S,1,.slice (some ⟨g,0,none⟩) n cap,n,xs⟩ :: os2:=fun a ha=>by
  rcases List.mem_append.1 ha with ha | ha
  ·exact List.mem_append.2 (Or.inl ha)
  ·exact List.mem_append.2 (Or.inr (List.mem_cons_of_mem _ ha))
 refine ⟨(hset b (by omega)).trans h.blk,fun a ha=>?_,?_,?_,h.lt,by have:=h.sz;simpa [World.setCell] using this⟩
 ·have hsp:a=⟨i,S,1,.slice (some ⟨g,0,none⟩) n cap,n,xs.set j u⟩\/a ∈ os1++os2:=by
   rcases List.mem_append.1 ha with ha | ha
   ·exact Or.inr (List.mem_append.2 (Or.inl ha))
   ·rcases List.mem_cons.1 ha with ha | ha
    ·exact Or.inl ha
    ·exact Or.inr (List.mem_append.2 (Or.inr ha))
  rcases hsp with rfl | ha2
  ·exact ⟨hoo.1,own_store hoo.2 u⟩
  ·exact ⟨(h.own a (hin a ha2)).1,own_keepB (h.own a (hin a ha2)).2 (fun k hk=>hset k (hne a ha2 k hk))⟩
 ·refine List.pairwise_append.2 ⟨hds.1,List.pairwise_cons.2 ⟨fun a ha k e e2=>hd2.1 a ha k e e2,hd2.2⟩,fun a ha c hc=>?_⟩
  rcases List.mem_cons.1 hc with rfl | hc
  ·exact fun k e e2=>hds.2.2 a ha _ List.mem_cons_self k e e2
  ·exact hds.2.2 a ha c (List.mem_cons_of_mem _ hc)
 ·refine List.pairwise_append.2 ⟨hix.1,List.pairwise_cons.2 ⟨hi2.1,hi2.2⟩,fun a ha c hc=>?_⟩
  rcases List.mem_cons.1 hc with rfl | hc
  ·exact hix.2.2 a ha ⟨i,S,1,.slice (some ⟨g,0,none⟩) n cap,n,xs⟩ List.mem_cons_self
  ·exact hix.2.2 a ha c (List.mem_cons_of_mem _ hc)
theorem onsOf_cons (ev:List ((Nat × Nat) × Nat)) (n k a:Nat):onsOf (((1,k),a) :: ev) n=(onsOf ev n).set k (a:Int):=by
 refine List.ext_getElem? fun j=>?_
 simp only [onsOf,List.getElem?_map,List.getElem?_set,List.length_map,List.length_range]
 by_cases hj:j < n
 ·rw [List.getElem?_range hj]
  by_cases e:k=j
  ·subst e
   rw [if_pos rfl,if_pos hj]
   simp [plc,lk]
  ·rw [if_neg e]
   simp only [Option.map_some,plc,lk]
   rw [if_neg (fun h=>e (by cases h;rfl))]
 ·rw [List.getElem?_eq_none (by simpa using hj)]
  by_cases e:k=j
  ·rw [if_pos e,if_neg (by omega)];rfl
  ·rw [if_neg e];rfl
theorem onsOf_miss (ev:List ((Nat × Nat) × Nat)) (n a:Nat):onsOf (((5,0),a) :: ev) n=onsOf ev n:=by
 unfold onsOf
 refine List.map_congr_left fun q _=>?_
 simp only [plc,lk]
 rw [if_neg (fun h=>by cases h)]
theorem plc_cons (ev:List ((Nat × Nat) × Nat)) (x:Nat × Nat) (a:Nat):plc ((x,a) :: ev) x=(a:Int):=by simp [plc,lk]
theorem plc_other (ev:List ((Nat × Nat) × Nat)) (k a:Nat):plc (((1,k),a) :: ev) (5,0)=plc ev (5,0):=by
 simp only [plc,lk]
 rw [if_neg (fun h=>by cases h)]
theorem plc_some {ev:List ((Nat × Nat) × Nat)} {x:Nat × Nat} : (lk ev x).isSome=true ↔ 0<=plc ev x:=by
 unfold plc
 cases lk ev x with
 | none=>simp
 | some v=>simp
end Go.Proofs.YthbnjhamfcefkaaGreat.Nm
namespace Go.Proofs.YthbnjhamfcefkaaGreat.Nm
open Go.RowKit Sp Lx
theorem declares_any (k:Int) (w:World):Calls Tryz.prog 14 #[.int .i64 k] w fun e w'=>e=.returned (.int .i64 (decl k:Nat))/\w'=w:=by
 have HD:Hid (decl k=if k=2\/k=3 then 1 else if k=4 then 2 else if k=5 then 3 else if k=7 then 4 else 0):=rfl
 generalize decl k=z at *
 go_enter Tryz.func14,Tryz.ntmps14
 go_wp2
 all_goals
  go_ret
  refine ⟨?_,rfl⟩
  rw [HD.out]
  simp_all
theorem names_any (k:Int) (w:World):Calls Tryz.prog 16 #[.int .i64 k] w fun e w'=>e=.returned (.int .i64 (nmd k:Nat))/\w'=w:=by
 have HD:Hid (nmd k=if k=8\/k=9\/k=16\/k=17\/k=21\/k=19\/k=20\/k=24\/k=26\/k=31\/k=32\/k=35\/k=36\/k=37 then 1 else if k=14\/k=28 then 2 else if k=15\/k=38 then 3 else if k=22 then 4 else 0):=rfl
 generalize nmd k=z at *
 go_enter Tryz.func16,Tryz.ntmps16
 go_wp2
 all_goals
  go_ret
  refine ⟨?_,rfl⟩
  rw [HD.out]
  simp_all
theorem rmost_any (k:Nat) (h1:1<=k) (h4:k<=4) (w:World):Calls Tryz.prog 37 #[.int .i64 (k:Int)] w fun e w'=>e=.returned (.int .i64 (mst k:Nat))/\w'=w:=by
 obtain rfl | rfl | rfl | rfl:k=1\/k=2\/k=3\/k=4:=by omega
 all_goals
  go_enter Tryz.func37,Tryz.ntmps37
  go_wp2
  go_ret
  exact ⟨rfl,rfl⟩
theorem isEvent_any (k:Int) (w:World):Calls Tryz.prog 18 #[.int .i64 k] w fun e w'=>(∃ b,e=.returned (.bool b)/\(b=true ↔ (k=8\/k=9\/k=10)))/\w'=w:=by
 by_cases h8:k=8
 ·subst h8
  go_enter Tryz.func18,Tryz.ntmps18
  go_wp2
  go_ret
  exact ⟨⟨true,rfl,by simp⟩,rfl⟩
 ·have b8:(k == 8)=false:=by simp [h8]
  by_cases h9:k=9
  ·subst h9
   go_enter Tryz.func18,Tryz.ntmps18
   go_wp2
   go_ret
   exact ⟨⟨true,rfl,by simp⟩,rfl⟩
  ·have b9:(k == 9)=false:=by simp [h9]
   have H89:Hid (k ≠ 8/\k ≠ 9):=⟨h8,h9⟩
   clear h8 h9
   by_cases h10:k=10
   ·have b10:(k == 10)=true:=by simp [h10]
    have H10:=hdn <| h10
    clear h10
    go_enter Tryz.func18,Tryz.ntmps18
    go_wp2
    go_ret
    exact ⟨⟨true,rfl,by simp [H10.out]⟩,rfl⟩
   ·have b10:(k == 10)=false:=by simp [h10]
    have H10:=hdn <| h10
    clear h10
    go_enter Tryz.func18,Tryz.ntmps18
    go_wp2
    go_ret
    refine ⟨⟨false,rfl,⟨fun h=>(by cases h),fun h=>?_⟩⟩,rfl⟩
    rcases h with h | h | h
    ·exact absurd h H89.out.1
    ·exact absurd h H89.out.2
    ·exact absurd h H10.out
theorem rplus_any (a b:Nat) (ha:a<=4611686018427387904) (hb:b<=4611686018427387904) (w:World):Calls Tryz.prog 21 #[.int .i64 a,.int .i64 b] w fun e w'=>e=.returned (.int .i64 (pls a b:Nat))/\w'=w:=by
 have h1:(a:Int)<=4611686018427387904:=by omega
 have h2:(b:Int)<=4611686018427387904:=by omega
 by_cases h:(4611686018427387904:Int) - b < a
 ·have HP:Hid ((pls a b:Int)=4611686018427387904):=by
   show _=_
   unfold pls
   omega
  have hd:decide ((4611686018427387904:Int) - b < a)=true:=decide_eq_true h
  clear h
  generalize pls a b=z at *
  go_enter Tryz.func21,Tryz.ntmps21
  go_wp2
  all_goals
   go_ret
   exact ⟨by rw [HP.out];rfl,rfl⟩
 ·have HP:Hid ((pls a b:Int)=a+b):=by
   show _=_
   unfold pls
   omega
  have hd:decide ((4611686018427387904:Int) - b < a)=false:=decide_eq_false h
  have h3:(a:Int)+b<=4611686018427387904:=by omega
  clear h
  generalize pls a b=z at *
  go_enter Tryz.func21,Tryz.ntmps21
  go_wp2
  all_goals
   go_ret
   exact ⟨by rw [HP.out];rfl,rfl⟩
abbrev Th:=ByteArray × Nat × Nat × Nat
def thF (l:List Th):List Value:=l.flatMap fun x=>[.string x.1,.int .i64 (x.2.1:Int),.int .i64 (x.2.2.1:Int),.int .i64 (x.2.2.2:Int)]
theorem thF_at (l:List Th) (k:Nat) (hk:k < l.length):(thF l)[k * 4]?=some (.string l[k].1)/\(thF l)[k * 4+1]?=some (.int .i64 (l[k].2.1:Int))/\(thF l)[k * 4+2]?=some (.int .i64 (l[k].2.2.1:Int))/\(thF l)[k * 4+3]?=some (.int .i64 (l[k].2.2.2:Int)):=by
 induction l generalizing k with
 | nil=>simp at hk
 | cons x l ih=>
  cases k with
  | zero=>exact ⟨rfl,rfl,rfl,rfl⟩
  | succ k=>
   have:=ih k (by simpa using hk)
   have e:thF (x :: l)=.string x.1 :: .int .i64 (x.2.1:Int) :: .int .i64 (x.2.2.1:Int) :: .int .i64 (x.2.2.2:Int) :: thF l:=rfl
   rw [e,show (k+1) * 4=k * 4+1+1+1+1 by omega]
   exact ⟨by simpa using this.1,by simpa using this.2.1,by simpa using this.2.2.1,by simpa using this.2.2.2⟩
def IsTh (w:World) (ao:Option Addr) (l:List Th):Prop:=∀ k (hk:k < l.length),∃ g o,ao=some ⟨g,o,none⟩/\w.cell? ⟨g,o+k * 4,none⟩=some (.string l[k].1)/\w.cell? ⟨g,o+k * 4+1,none⟩=some (.int .i64 (l[k].2.1:Int))/\w.cell? ⟨g,o+k * 4+2,none⟩=some (.int .i64 (l[k].2.2.1:Int))/\w.cell? ⟨g,o+k * 4+3,none⟩=some (.int .i64 (l[k].2.2.2:Int))
theorem th_of {w:World} {base n c:Nat} {ao:Option Addr} {l:List Th} (h:w.ownsRow base 80 4 (.slice ao n c) l.length (thF l)):IsTh w ao l:=by
 intro k hk
 have hc:=h
 rcases h.2 with ⟨_,hz⟩ | ⟨g,cap,cur,e,h3,h4,_⟩
 ·omega
 ·cases e
  obtain ⟨a0,a1,a2,a3⟩:=thF_at l k hk
  have hat:∀ j u,(thF l)[j]?=some u->w.cell? ⟨g,0+j,none⟩=some u:=fun j u hu=>by
   have:=hc.cells (g:=g) rfl j u hu
   rw [Lib.addr_add] at this
   exact this
  exact ⟨g,0,rfl,hat _ _ a0,by rw [Nat.add_assoc];exact hat _ _ a1,by rw [Nat.add_assoc];exact hat _ _ a2,by rw [Nat.add_assoc];exact hat _ _ a3⟩
theorem find_any {W:World} {b hc:Nat} {ho:Option Addr} {l:List Th} {nm:ByteArray} (h9:W.cell? ⟨b,9,none⟩=some (.slice ho l.length hc)) (ht:IsTh W ho l) (hl:l.length<=1000):
  Calls Tryz.prog 36 #[.pointer (some ⟨b,0,none⟩),.string nm] W fun e w'=>((∃ i,∃ hi:i < l.length,l[i].1=nm/\e=.returned (.int .i64 (i:Int)))\/((∀ x ∈ l,x.1 ≠ nm)/\e=.returned (.int .i64 (-1))))/\w'=W:=by
 have HT:=hdn <| ht
 have hl2:(l.length:Int)<=1000:=by omega
 clear ht hl
 go_enter Tryz.func36,Tryz.ntmps36
 go_wp2_with fail
 go_loopg [5] l.length (fun gq x wr=>∃ k:Nat,k+gq=l.length/\x=.int .i64 (k:Int)/\(∀ j (hj:j < l.length),j < k->l[j].1 ≠ nm)/\wr=W)
 case atStart=>exact ⟨0,by omega,rfl,fun j _ h=>by omega,rfl⟩
 case round=>
  obtain ⟨k,hkg,rfl,hno,hw⟩:=hrel
  have HG:Hid (k+gk=l.length/\(∀ j (hj:j < l.length),j < k->l[j].1 ≠ nm)):=⟨hkg,hno⟩
  rw [hw]
  clear hw
  by_cases hlt:k < l.length
  ·have hk':(k:Int) < (l.length:Int):=by omega
   have hk2:(k:Int)<=1000:=by omega
   obtain ⟨g,o,rfl,d0,-⟩:=HT.out k hlt
   have HLt:=hdn <| hlt
   by_cases he:l[k].1=nm
   ·have hq:(l[k].1.toList == nm.toList)=true:=by rw [he];simp
    have HE:Hid (∃ hi:k < l.length,l[k].1=nm):=⟨hlt,he⟩
    clear hkg hno he
    generalize l[k].1=x at *
    clear hlt
    go_wp2
    go_ret
    exact ⟨Or.inl ⟨k,HE.out.1,HE.out.2,rfl⟩,rfl⟩
   ·have hq:(l[k].1.toList == nm.toList)=false:=by
     simp only [beq_eq_false_iff_ne]
     intro e
     rw [ByteArray.toList_eq,ByteArray.toList_eq] at e
     exact he (by cases hx:l[k].1;cases nm;rw [hx] at e;simpa using e)
    have HN:Hid (∀ j (hj:j < l.length),j < k+1->l[j].1 ≠ nm):=fun j hj hjk=>by
     by_cases e:j=k
     ·subst e;exact he
     ·exact hno j hj (by omega)
    clear hkg hno he
    generalize l[k].1=x at *
    clear hlt
    go_wp2_with fail
    go_roundg (l.length - (k+1))
    case measure=>have:=HG.out.1;have:=HLt.out;omega
    case rel=>exact ⟨k+1,by have:=HLt.out;omega,by go_num,HN.out,rfl⟩
  ·have hk':decide (k < l.length)=false:=decide_eq_false hlt
   have hk2:decide ((k:Int) < (l.length:Int))=false:=decide_eq_false (by omega)
   have HN:Hid (∀ x ∈ l,x.1 ≠ nm):=fun x hx=>by
    obtain ⟨j,hj,rfl⟩:=List.mem_iff_getElem.1 hx
    exact hno j hj (by omega)
   clear hkg hno hlt
   go_wp2
   go_ret
   exact ⟨Or.inr ⟨HN.out,rfl⟩,rfl⟩
end Go.Proofs.YthbnjhamfcefkaaGreat.Nm
