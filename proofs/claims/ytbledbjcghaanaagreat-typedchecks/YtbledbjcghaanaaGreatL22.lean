import Derived.Test.YtbledbjcghaanaaGreatTl
import Derived.Deep.LoopGhost
import Derived.Test.YtbledbjcghaanaaGreatL17
set_option maxHeartbeats 6400000
set_option maxRecDepth 100000
namespace Go.Proofs.YtbledbjcghaanaaGreat.Nm
open Go.RowKit Go.Maps Sp Lx Gr
structure Ow where
 i:Nat
 T:TypeId
 sz:Nat
 v:Value
 n:Nat
 xs:List Value
structure Ob (W:World) (b base:Nat) (T:TypeId) (cs:Array Value) (os:List Ow):Prop where
 blk:W.heap[b]?=some (.cells cs T (0,0))
 own:∀ o ∈ os,cs[o.i]?=some o.v/\W.ownsRow base o.T o.sz o.v o.n o.xs
 dis:os.Pairwise fun a c=>∀ g,a.v.ownBlock=some g->c.v.ownBlock ≠ some g
 ixs:os.Pairwise fun a c=>a.i ≠ c.i
 lt:b < base
 sz:base<=W.heap.size
section
variable {W W':World} {b base:Nat} {T:TypeId} {cs:Array Value} {os:List Ow}
theorem Ob.below (h:Ob W b base T cs os) (hb:Below W.heap.size W W'):Ob W' b base T cs os:=
 ⟨(hb.block _ (blk_lt h.blk)).trans h.blk,fun o ho=>⟨(h.own o ho).1,own_below (h.own o ho).2 hb⟩,h.dis,h.ixs,h.lt,Nat.le_trans h.sz hb.size⟩
theorem Ob.set (h:Ob W b base T cs os) (i:Nat) (v:Value) (hi:∀ o ∈ os,o.i ≠ i):Ob (W.setCell ⟨b,i,none⟩ v) b base T (cs.setIfInBounds i v) os:=by
 have hset:∀ k,k ≠ b->(W.setCell ⟨b,i,none⟩ v).heap[k]?=W.heap[k]?:=fun k hk=>Below.heap_setCell W _ v k (fun e=>hk e);refine ⟨heap_setCell_same W b i cs T v h.blk,fun o ho=>⟨?_,own_keepB (h.own o ho).2 (fun k hk=>hset k ?_)⟩,h.dis,h.ixs,h.lt,?_⟩
 ·rw [Array.getElem?_setIfInBounds,if_neg (fun e=>hi o ho e.symm)];exact (h.own o ho).1
 ·have:=(World.ownsRow.lt (h.own o ho).2 k hk).1;have:=h.lt;omega
 ·have:=h.sz
  simpa [World.setCell] using this
theorem Ob.other (h:Ob W b base T cs os) {g:Nat} (hg:g < base) (hne:g ≠ b) (hF:Fr [g] W W'):Ob W' b base T cs os:=by
 have hb:∀ k,k < W.heap.size->k ≠ g->W'.heap[k]?=W.heap[k]?:=fun k hk hn=>hF.block k hk (by simpa using hn)
 refine ⟨(hb b (blk_lt h.blk) (Ne.symm hne)).trans h.blk,fun o ho=>⟨(h.own o ho).1,own_keepB (h.own o ho).2 (fun k hk=>hb k (World.ownsRow.lt (h.own o ho).2 k hk).2 ?_)⟩,h.dis,h.ixs,h.lt,Nat.le_trans h.sz hF.size⟩;have:=(World.ownsRow.lt (h.own o ho).2 k hk).1;omega
end
theorem Ob.put {W W2:World} {b base:Nat} {T:TypeId} {cs:Array Value} {os1 os2:List Ow} {o:Ow} {v':Value} {n':Nat} {xs':List Value} (h:Ob W b base T cs (os1++o :: os2)) (hG:Gone W o.v W2 v') (ho:W2.ownsRow base o.T o.sz v' n' xs'):
  W2.heap[b]?=some (.cells cs T (0,0))/\Ob (W2.setCell ⟨b,o.i,none⟩ v') b base T (cs.setIfInBounds o.i v') (os1++{ o with v:=v',n:=n',xs:=xs' } :: os2):=by
 have hmem:o ∈ os1++o :: os2:=by simp
 have hoo:=h.own o hmem;have hlt:∀ k,o.v.ownBlock=some k->base<=k/\k < W.heap.size:=fun k e=>World.ownsRow.lt hoo.2 k e;have hbl:=h.lt;have hblk2:W2.heap[b]?=some (.cells cs T (0,0)):=(hG.1.block b (blk_lt h.blk) (fun e=>by have:=(hlt b e.symm).1;omega)).trans h.blk
 have hset:∀ k,k ≠ b->(W2.setCell ⟨b,o.i,none⟩ v').heap[k]?=W2.heap[k]?:=fun k hk=>Below.heap_setCell W2 _ v' k (fun e=>hk e);have hds:=List.pairwise_append.1 h.dis;have hix:=List.pairwise_append.1 h.ixs;have hd2:=List.pairwise_cons.1 hds.2.1;have hi2:=List.pairwise_cons.1 hix.2.1;have hne:∀ a ∈ os1++os2,(∀ g,a.v.ownBlock=some g->o.v.ownBlock ≠ some g)/\a.i ≠ o.i:=fun a ha=>by
  rcases List.mem_append.1 ha with ha | ha
  ·exact ⟨hds.2.2 a ha o (by simp),hix.2.2 a ha o (by simp)⟩
  ·exact ⟨fun g e e2=>hd2.1 a ha g e2 e,fun e=>hi2.1 a ha e.symm⟩
 have hin:∀ a ∈ os1++os2,a ∈ os1++o :: os2:=fun a ha=>by
  rcases List.mem_append.1 ha with ha | ha
  ·exact List.mem_append.2 (Or.inl ha)
  ·exact List.mem_append.2 (Or.inr (List.mem_cons_of_mem _ ha))
 have hrow:∀ a ∈ os1++os2,W2.ownsRow base a.T a.sz a.v a.n a.xs:=fun a ha=>own_keepB (h.own a (hin a ha)).2 (fun k hk=>hG.1.block k (World.ownsRow.lt (h.own a (hin a ha)).2 k hk).2 (fun e=>(hne a ha).1 k hk e.symm));have hv':∀ a ∈ os1++os2,∀ g,a.v.ownBlock=some g->v'.ownBlock ≠ some g:=fun a ha g hg e=>by
  rcases hG.own with hq | hq
  ·rw [hq] at e;exact (hne a ha).1 g hg e
  ·have:=hq g e;have:=(World.ownsRow.lt (h.own a (hin a ha)).2 g hg).2;omega
 have hkeep:∀ {S:TypeId} {sz n:Nat} {v:Value} {xs:List Value},W2.ownsRow base S sz v n xs->(W2.setCell ⟨b,o.i,none⟩ v').ownsRow base S sz v n xs:=fun h1=>own_keepB h1 (fun k hk=>hset k (by have:=(World.ownsRow.lt h1 k hk).1;omega))
 have hsz:o.i < cs.size:=(Array.getElem?_eq_some_iff.1 hoo.1).1;refine ⟨hblk2,⟨heap_setCell_same W2 b o.i cs T v' hblk2,fun a ha=>?_,?_,?_,h.lt,?_⟩⟩
 ·have hsp:a={ o with v:=v',n:=n',xs:=xs' } \/ a ∈ os1++os2:=by
   rcases List.mem_append.1 ha with ha | ha
   ·exact Or.inr (List.mem_append.2 (Or.inl ha))
   ·rcases List.mem_cons.1 ha with ha | ha
    ·exact Or.inl ha
    ·exact Or.inr (List.mem_append.2 (Or.inr ha))
  rcases hsp with rfl | ha2
  ·exact ⟨by simp [hsz],hkeep ho⟩
  ·refine ⟨?_,hkeep (hrow a ha2)⟩;rw [Array.getElem?_setIfInBounds,if_neg (fun e=>(hne a ha2).2 e.symm)];exact (h.own a (hin a ha2)).1
 ·refine List.pairwise_append.2 ⟨hds.1,List.pairwise_cons.2 ⟨fun a ha g e=>?_,hd2.2⟩,fun a ha c hc=>?_⟩
  ·exact fun e2=>hv' a (List.mem_append.2 (Or.inr ha)) g e2 e
  ·rcases List.mem_cons.1 hc with rfl | hc
   ·exact hv' a (List.mem_append.2 (Or.inl ha))
   ·exact hds.2.2 a ha c (List.mem_cons_of_mem _ hc)
 ·refine List.pairwise_append.2 ⟨hix.1,List.pairwise_cons.2 ⟨hi2.1,hi2.2⟩,fun a ha c hc=>?_⟩;rcases List.mem_cons.1 hc with rfl | hc
  ·exact hix.2.2 a ha o (by simp)
  ·exact hix.2.2 a ha c (List.mem_cons_of_mem _ hc)
 ·have:=hG.1.size;have:=h.sz;simp [World.setCell];omega
theorem own_store {W:World} {base n g cap j:Nat} {T:TypeId} {xs:List Value} (h:W.ownsRow base T 1 (.slice (pZ g) n cap) n xs) (u:Value):(W.setCell ⟨g,j,none⟩ u).ownsRow base T 1 (.slice (pZ g) n cap) n (xs.set j u):=by
 obtain ⟨hx,hr⟩:=h;rcases hr with ⟨e,_⟩ | ⟨g',cap',cur,e,h2,h3,h4,h5,h6,h7⟩
 ·cases e
 ·cases e;refine ⟨by rw [List.length_set];exact hx,Or.inr ⟨g,cap,cur.setIfInBounds j u,rfl,h2,heap_setCell_same W g j cur T u h3,h4,h5,by simpa using h6,?_⟩⟩
  rw [Array.toList_setIfInBounds,List.take_set,h7]
theorem Ob.store {W:World} {b base g cap j n:Nat} {T S:TypeId} {i:Nat} {cs:Array Value} {os1 os2:List Ow} {xs:List Value} (u:Value) (h:Ob W b base T cs (os1++⟨i,S,1,.slice (pZ g) n cap,n,xs⟩ :: os2)):
  Ob (W.setCell ⟨g,j,none⟩ u) b base T cs (os1++⟨i,S,1,.slice (pZ g) n cap,n,xs.set j u⟩ :: os2):=by
 have hoo:=h.own ⟨i,S,1,.slice (pZ g) n cap,n,xs⟩ (by simp)
 have hg:=World.ownsRow.lt hoo.2 g rfl;have hbl:=h.lt;have hset:∀ k,k ≠ g->(W.setCell ⟨g,j,none⟩ u).heap[k]?=W.heap[k]?:=fun k hk=>Below.heap_setCell W _ u k (fun e=>hk e);have hds:=List.pairwise_append.1 h.dis;have hix:=List.pairwise_append.1 h.ixs;have hd2:=List.pairwise_cons.1 hds.2.1;have hi2:=List.pairwise_cons.1 hix.2.1;have hne:∀ a ∈ os1++os2,∀ k,a.v.ownBlock=some k->k ≠ g:=fun a ha k hk e=>by
  subst e;rcases List.mem_append.1 ha with ha | ha
  ·exact hds.2.2 a ha _ List.mem_cons_self k hk rfl
  ·exact hd2.1 a ha k rfl hk
 have hin:∀ a ∈ os1++os2,a ∈ os1++⟨i,S,1,.slice (pZ g) n cap,n,xs⟩ :: os2:=fun a ha=>by
  rcases List.mem_append.1 ha with ha | ha
  ·exact List.mem_append.2 (Or.inl ha)
  ·exact List.mem_append.2 (Or.inr (List.mem_cons_of_mem _ ha))
 refine ⟨(hset b (by omega)).trans h.blk,fun a ha=>?_,?_,?_,h.lt,by have:=h.sz;simpa [World.setCell] using this⟩
 ·have hsp:a=⟨i,S,1,.slice (pZ g) n cap,n,xs.set j u⟩\/a ∈ os1++os2:=by
   rcases List.mem_append.1 ha with ha | ha
   ·exact Or.inr (List.mem_append.2 (Or.inl ha))
   ·rcases List.mem_cons.1 ha with ha | ha
    ·exact Or.inl ha
    ·exact Or.inr (List.mem_append.2 (Or.inr ha))
  rcases hsp with rfl | ha2
  ·exact ⟨hoo.1,own_store hoo.2 u⟩
  ·exact ⟨(h.own a (hin a ha2)).1,own_keepB (h.own a (hin a ha2)).2 (fun k hk=>hset k (hne a ha2 k hk))⟩
 ·refine List.pairwise_append.2 ⟨hds.1,List.pairwise_cons.2 ⟨fun a ha k e e2=>hd2.1 a ha k e e2,hd2.2⟩,fun a ha c hc=>?_⟩;rcases List.mem_cons.1 hc with rfl | hc
  ·exact fun k e e2=>hds.2.2 a ha _ List.mem_cons_self k e e2
  ·exact hds.2.2 a ha c (List.mem_cons_of_mem _ hc)
 ·refine List.pairwise_append.2 ⟨hix.1,List.pairwise_cons.2 ⟨hi2.1,hi2.2⟩,fun a ha c hc=>?_⟩;rcases List.mem_cons.1 hc with rfl | hc
  ·exact hix.2.2 a ha ⟨i,S,1,.slice (pZ g) n cap,n,xs⟩ List.mem_cons_self
  ·exact hix.2.2 a ha c (List.mem_cons_of_mem _ hc)
theorem onsOf_cons (ev:List ((Nat × Nat) × Nat)) (n k a:Nat):onsOf (((1,k),a) :: ev) n=(onsOf ev n).set k (a:Int):=by
 refine List.ext_getElem? fun j=>?_;simp only [onsOf,List.getElem?_map,List.getElem?_set,List.length_map,List.length_range];by_cases hj:j < n
 ·rw [List.getElem?_range hj];by_cases e:k=j
  ·subst e;rw [if_pos rfl,if_pos hj];simp [plc,lk]
  ·rw [if_neg e];simp only [Option.map_some,plc,lk];rw [if_neg (fun h=>e (by cases h;rfl))]
 ·rw [List.getElem?_eq_none (by simpa using hj)]
  by_cases e:k=j
  ·rw [if_pos e,if_neg (by omega)];rfl
  ·rw [if_neg e];rfl
theorem onsOf_miss (ev:List ((Nat × Nat) × Nat)) (n a:Nat):onsOf (((5,0),a) :: ev) n=onsOf ev n:=by
 unfold onsOf;refine List.map_congr_left fun q _=>?_;simp only [plc,lk];rw [if_neg (fun h=>by cases h)]
theorem plc_cons (ev:List ((Nat × Nat) × Nat)) (x:Nat × Nat) (a:Nat):plc ((x,a) :: ev) x=(a:Int):=by simp [plc,lk]
theorem plc_other (ev:List ((Nat × Nat) × Nat)) (k a:Nat):plc (((1,k),a) :: ev) (5,0)=plc ev (5,0):=by
 simp only [plc,lk];rw [if_neg (fun h=>by cases h)]
theorem plc_some {ev:List ((Nat × Nat) × Nat)} {x:Nat × Nat} : (lk ev x).isSome=true ↔ 0<=plc ev x:=by
 unfold plc;cases lk ev x with
 | none=>simp
 | some v=>simp
end Go.Proofs.YtbledbjcghaanaaGreat.Nm
namespace Go.Proofs.YtbledbjcghaanaaGreat.Nm
open Go.RowKit Sp Lx
theorem declares_any (k:Int) (w:World):Calls Tryz.prog 96 #[I k] w fun e w'=>e=.returned (I (decl k:Nat))/\w'=w:=by
 have HD:Hid (decl k=if k=2\/k=3 then 1 else if k=4 then 2 else if k=5 then 3 else if k=7 then 4 else 0):=rfl;generalize decl k=z at *;go_enter Tryz.func96,Tryz.ntmps96;go_wp2
 all_goals
  go_ret;refine ⟨?_,rfl⟩;rw [HD.out]
  simp_all
theorem names_any (k:Int) (w:World):Calls Tryz.prog 98 #[I k] w fun e w'=>e=.returned (I (nmd k:Nat))/\w'=w:=by
 have HD:Hid (nmd k=if k=8\/k=9\/k=16\/k=17\/k=21\/k=19\/k=20\/k=24\/k=26\/k=31\/k=32\/k=35\/k=36\/k=37 then 1 else if k=14\/k=28 then 2 else if k=15\/k=38 then 3 else if k=22 then 4 else 0):=rfl;generalize nmd k=z at *;go_enter Tryz.func98,Tryz.ntmps98;go_wp2
 all_goals
  go_ret;refine ⟨?_,rfl⟩;rw [HD.out]
  simp_all
theorem rmost_any (k:Nat) (h1:1<=k) (h4:k<=4) (w:World):Calls Tryz.prog 128 #[I (k:Int)] w fun e w'=>e=.returned (I (mst k:Nat))/\w'=w:=by
 obtain rfl | rfl | rfl | rfl:k=1\/k=2\/k=3\/k=4:=by omega
 all_goals
  go_enter Tryz.func128,Tryz.ntmps128
  go_wp2;go_ret;exact ⟨rfl,rfl⟩
theorem isEvent_any (k:Int) (w:World):Calls Tryz.prog 100 #[I k] w fun e w'=>(∃ b,e=.returned (.bool b)/\(b=true ↔ (k=8\/k=9\/k=10)))/\w'=w:=by
 by_cases h8:k=8
 ·subst h8;go_enter Tryz.func100,Tryz.ntmps100;go_wp2;go_ret;exact ⟨⟨true,rfl,by simp⟩,rfl⟩
 ·have b8:(k == 8)=false:=by simp [h8]
  by_cases h9:k=9
  ·subst h9;go_enter Tryz.func100,Tryz.ntmps100;go_wp2;go_ret;exact ⟨⟨true,rfl,by simp⟩,rfl⟩
  ·have b9:(k == 9)=false:=by simp [h9]
   have H89:Hid (k ≠ 8/\k ≠ 9):=⟨h8,h9⟩;clear h8 h9;by_cases h10:k=10
   ·have b10:(k == 10)=true:=by simp [h10]
    have H10:=hdn <| h10;clear h10;go_enter Tryz.func100,Tryz.ntmps100;go_wp2;go_ret;exact ⟨⟨true,rfl,by simp [H10.out]⟩,rfl⟩
   ·have b10:(k == 10)=false:=by simp [h10]
    have H10:=hdn <| h10;clear h10;go_enter Tryz.func100,Tryz.ntmps100;go_wp2;go_ret;refine ⟨⟨false,rfl,⟨fun h=>(by cases h),fun h=>?_⟩⟩,rfl⟩
    rcases h with h | h | h
    ·exact absurd h H89.out.1
    ·exact absurd h H89.out.2
    ·exact absurd h H10.out
theorem rplus_any (a b:Nat) (ha:a<=4611686018427387904) (hb:b<=4611686018427387904) (w:World):Calls Tryz.prog 103 #[I a,I b] w fun e w'=>e=.returned (I (pls a b:Nat))/\w'=w:=by
 have h1:(a:Int)<=4611686018427387904:=by omega
 have h2:(b:Int)<=4611686018427387904:=by omega
 by_cases h:(4611686018427387904:Int) - b < a
 ·have HP:Hid ((pls a b:Int)=4611686018427387904):=by
   show _=_
   unfold pls;omega
  have hd:decide ((4611686018427387904:Int) - b < a)=true:=decide_eq_true h;clear h;generalize pls a b=z at *;go_enter Tryz.func103,Tryz.ntmps103;go_wp2
  all_goals
   go_ret;exact ⟨by rw [HP.out];rfl,rfl⟩
 ·have HP:Hid ((pls a b:Int)=a+b):=by
   show _=_
   unfold pls;omega
  have hd:decide ((4611686018427387904:Int) - b < a)=false:=decide_eq_false h;have h3:(a:Int)+b<=4611686018427387904:=by omega
  clear h;generalize pls a b=z at *;go_enter Tryz.func103,Tryz.ntmps103;go_wp2
  all_goals
   go_ret;exact ⟨by rw [HP.out];rfl,rfl⟩
abbrev Th:=ByteArray × Nat × Nat × Nat
def thF (l:List Th):List Value:=l.flatMap fun x=>[.string x.1,I (x.2.1:Int),I (x.2.2.1:Int),I (x.2.2.2:Int)]
theorem thF_at (l:List Th) (k:Nat) (hk:k < l.length):(thF l)[k * 4]?=some (.string l[k].1)/\(thF l)[k * 4+1]?=some (I (l[k].2.1:Int))/\(thF l)[k * 4+2]?=some (I (l[k].2.2.1:Int))/\(thF l)[k * 4+3]?=some (I (l[k].2.2.2:Int)):=by
 induction l generalizing k with
 | nil=>simp at hk
 | cons x l ih=>
  cases k with
  | zero=>exact ⟨rfl,rfl,rfl,rfl⟩
  | succ k=>
   have:=ih k (by simpa using hk)
   have e:thF (x :: l)=.string x.1 :: I (x.2.1:Int) :: I (x.2.2.1:Int) :: I (x.2.2.2:Int) :: thF l:=rfl;rw [e,show (k+1) * 4=k * 4+1+1+1+1 by omega]
   exact ⟨by simpa using this.1,by simpa using this.2.1,by simpa using this.2.2.1,by simpa using this.2.2.2⟩
def IsTh (w:World) (ao:Option Addr) (l:List Th):Prop:=∀ k (hk:k < l.length),∃ g o,ao=some ⟨g,o,none⟩/\w.cell? ⟨g,o+k * 4,none⟩=some (.string l[k].1)/\w.cell? ⟨g,o+k * 4+1,none⟩=some (I (l[k].2.1:Int))/\w.cell? ⟨g,o+k * 4+2,none⟩=some (I (l[k].2.2.1:Int))/\w.cell? ⟨g,o+k * 4+3,none⟩=some (I (l[k].2.2.2:Int))
theorem th_of {w:World} {base n c:Nat} {ao:Option Addr} {l:List Th} (h:w.ownsRow base 176 4 (.slice ao n c) l.length (thF l)):IsTh w ao l:=by
 intro k hk;have hc:=h;rcases h.2 with ⟨_,hz⟩ | ⟨g,cap,cur,e,h3,h4,_⟩
 ·omega
 ·cases e;obtain ⟨a0,a1,a2,a3⟩:=thF_at l k hk;have hat:∀ j u,(thF l)[j]?=some u->w.cell? ⟨g,0+j,none⟩=some u:=fun j u hu=>by
   have:=hc.cells (g:=g) rfl j u hu;rw [Lib.addr_add] at this;exact this
  exact ⟨g,0,rfl,hat _ _ a0,by rw [Nat.add_assoc];exact hat _ _ a1,by rw [Nat.add_assoc];exact hat _ _ a2,by rw [Nat.add_assoc];exact hat _ _ a3⟩
theorem find_any {W:World} {b hc:Nat} {ho:Option Addr} {l:List Th} {nm:ByteArray} (h9:W.cell? ⟨b,9,none⟩=some (.slice ho l.length hc)) (ht:IsTh W ho l) (hl:l.length<=1000):
  Calls Tryz.prog 127 #[.pointer (pZ b),.string nm] W fun e w'=>((∃ i,∃ hi:i < l.length,l[i].1=nm/\e=.returned (I (i:Int)))\/((∀ x ∈ l,x.1 ≠ nm)/\e=.returned (I (-1))))/\w'=W:=by
 have HT:=hdn <| ht;have hl2:(l.length:Int)<=1000:=by omega
 clear ht hl;go_enter Tryz.func127,Tryz.ntmps127;go_wp2_with fail
 go_loopg [5] l.length (fun gq x wr=>∃ k:Nat,k+gq=l.length/\x=I (k:Int)/\(∀ j (hj:j < l.length),j < k->l[j].1 ≠ nm)/\wr=W)
 case atStart=>exact ⟨0,by omega,rfl,fun j _ h=>by omega,rfl⟩
 case round=>
  obtain ⟨k,hkg,rfl,hno,hw⟩:=hrel;have HG:Hid (k+gk=l.length/\(∀ j (hj:j < l.length),j < k->l[j].1 ≠ nm)):=⟨hkg,hno⟩;rw [hw];clear hw;by_cases hlt:k < l.length
  ·have hk':(k:Int) < (l.length:Int):=by omega
   have hk2:(k:Int)<=1000:=by omega
   obtain ⟨g,o,rfl,d0,-⟩:=HT.out k hlt;have HLt:=hdn <| hlt;by_cases he:l[k].1=nm
   ·have hq:(l[k].1.toList == nm.toList)=true:=by rw [he];simp
    have HE:Hid (∃ hi:k < l.length,l[k].1=nm):=⟨hlt,he⟩;clear hkg hno he;generalize l[k].1=x at *;clear hlt;go_wp2;go_ret;exact ⟨Or.inl ⟨k,HE.out.1,HE.out.2,rfl⟩,rfl⟩
   ·have hq:(l[k].1.toList == nm.toList)=false:=by
     simp only [beq_eq_false_iff_ne];intro e;rw [ByteArray.toList_eq,ByteArray.toList_eq] at e;exact he (by cases hx:l[k].1;cases nm;rw [hx] at e;simpa using e)
    have HN:Hid (∀ j (hj:j < l.length),j < k+1->l[j].1 ≠ nm):=fun j hj hjk=>by
     by_cases e:j=k
     ·subst e;exact he
     ·exact hno j hj (by omega)
    clear hkg hno he;generalize l[k].1=x at *;clear hlt;go_wp2_with fail;go_roundg (l.length - (k+1))
    case measure=>have:=HG.out.1;have:=HLt.out;omega
    case rel=>exact ⟨k+1,by have:=HLt.out;omega,by go_num,HN.out,rfl⟩
  ·have hk':decide (k < l.length)=false:=decide_eq_false hlt;have hk2:decide ((k:Int) < (l.length:Int))=false:=decide_eq_false (by omega)
   have HN:Hid (∀ x ∈ l,x.1 ≠ nm):=fun x hx=>by
    obtain ⟨j,hj,rfl⟩:=List.mem_iff_getElem.1 hx;exact hno j hj (by omega)
   clear hkg hno hlt;go_wp2;go_ret;exact ⟨Or.inr ⟨HN.out,rfl⟩,rfl⟩
end Go.Proofs.YtbledbjcghaanaaGreat.Nm
namespace Go.Proofs.YtbledbjcghaanaaGreat.Nm
open Go.RowKit Go.Maps Sp Lx Gr
def Nd (s:Rs):Prop:=(s.known.map (·.1)).Nodup
theorem lk_nodup {k:List Th} (hn:(k.map (·.1)).Nodup) {nm:ByteArray} {v:Nat × Nat × Nat} (h:(nm,v) ∈ k):lk k nm=some v:=by
 induction k with
 | nil=>cases h
 | cons x k ih=>
  obtain ⟨x1,x2⟩:=x;simp only [List.map_cons,List.nodup_cons] at hn;simp only [lk];rcases List.mem_cons.1 h with e | h
  ·cases e;rw [if_pos rfl]
  ·rw [if_neg (fun e=>hn.1 (by rw [<-e];exact List.mem_map.2 ⟨(nm,v),h,rfl⟩))]
   exact ih hn.2 h
theorem lk_none {k:List Th} {nm:ByteArray} (h:∀ x ∈ k,x.1 ≠ nm):lk k nm=none:=by
 induction k with
 | nil=>rfl
 | cons x k ih=>
  obtain ⟨x1,x2⟩:=x;simp only [lk];rw [if_neg (fun e=>h (x1,x2) (by simp) e.symm)]
  exact ih (fun y hy=>h y (by simp [hy]))
abbrev mkC (nm:ByteArray) (rb rc n eb:Nat) (qv vv tv uv ov:Value) (miss:Int) (hv:Value) (c1 c2 c3 c4:Nat):Array Value:=#[.string nm,.slice (pZ rb) n rc,qv,vv,tv,uv,ov,I miss,.slice (pZ eb) n n,hv,I 0,I (c1:Int),I (c2:Int),I (c3:Int),I (c4:Int)]
structure Mkr (W:World) (b base rb rc eb:Nat) (nm:ByteArray) (l0:List Rz) (s:Rs) (qv vv tv uv ov hv:Value):Prop where
 ob:Ob W b base 155 (mkC nm rb rc l0.length eb qv vv tv uv ov (plc s.ev (5,0)) hv (s.cnt 1) (s.cnt 2) (s.cnt 3) (s.cnt 4)) [⟨2,77,2,qv,s.qs.length,qF s.qs⟩,⟨3,9,1,vv,s.vs.length,s.vs.map Value.string⟩,⟨4,9,1,tv,s.ts.length,s.ts.map Value.string⟩,⟨5,3,1,uv,s.us.length,nv s.us⟩,⟨6,3,1,ov,s.qs.length,iv (onsOf s.ev s.qs.length)⟩,⟨9,176,4,hv,s.known.length,thF s.known.reverse⟩]
 r:Rw W rb s.rows
 e:∀ i,i < l0.length->W.cell? ⟨eb,i,none⟩=some (I (endp l0 i:Nat))
 lt:rb < base/\eb < base/\rb ≠ b/\eb ≠ b/\rb ≠ eb
section
variable {W W':World} {b base rb rc eb:Nat} {nm:ByteArray} {l0:List Rz} {s:Rs} {qv vv tv uv ov hv:Value}
theorem Mkr.below (h:Mkr W b base rb rc eb nm l0 s qv vv tv uv ov hv) (hb:Below W.heap.size W W'):Mkr W' b base rb rc eb nm l0 s qv vv tv uv ov hv:=
 ⟨h.ob.below hb,h.r.same (hb.block _ h.r.lt),fun i hi=>(hb.cell (p:=⟨eb,i,none⟩) (World.block_lt_of_cell? W ⟨eb,i,none⟩ (h.e i hi))).trans (h.e i hi),h.lt⟩
theorem Mkr.cell (h:Mkr W b base rb rc eb nm l0 s qv vv tv uv ov hv) (i:Nat) (v:Value) (hv:(mkC nm rb rc l0.length eb qv vv tv uv ov (plc s.ev (5,0)) hv (s.cnt 1) (s.cnt 2) (s.cnt 3) (s.cnt 4))[i]?=some v):W.cell? ⟨b,i,none⟩=some v:=by
 simp only [World.cell?,h.ob.blk];exact hv
theorem Mkr.things (h:Mkr W b base rb rc eb nm l0 s qv vv tv uv ov hv):∃ ho hc,hv=.slice ho s.known.reverse.length hc/\IsTh W ho s.known.reverse:=by
 have h9:W.ownsRow base 176 4 hv s.known.length (thF s.known.reverse):=(h.ob.own ⟨9,176,4,hv,s.known.length,thF s.known.reverse⟩ (by simp)).2
 obtain ⟨ho,hc,rfl⟩:=own_form h9;refine ⟨ho,hc,by rw [List.length_reverse],th_of (base:=base) (n:=s.known.length) (c:=hc) ?_⟩
 rw [List.length_reverse];exact h9
theorem Mkr.num (h:Mkr W b base rb rc eb nm l0 s qv vv tv uv ov hv) {i:Nat} (hi:i < s.rows.length) (m:Nat):Mkr (W.setCell ⟨rb,i * 5+3,none⟩ (I (m:Int))) b base rb rc eb nm l0 { s with rows:=numb s.rows i m } qv vv tv uv ov hv:=by
 obtain ⟨h1,h2,h3,h4,h5⟩:=h.lt;refine ⟨h.ob.other h1 h3 (Fr.set W _ _ (by simp)),h.r.setN (some_rat hi) (m:Int),fun j hj=>?_,h.lt⟩
 rw [World.cell?_of_block (a:=⟨eb,j,none⟩) (Below.heap_setCell W _ _ eb (fun e=>h5 e.symm))];exact h.e j hj
end
structure Inv2 (s:Rs):Prop where
 nd:Nd s
 ek:∀ e ∈ s.ev,e.1.1=1->e.1.2 < s.qs.length
theorem lk_no_mem {k:List Th} {nm:ByteArray} (h:lk k nm=none):nm ∉ k.map (·.1):=by
 induction k with
 | nil=>simp
 | cons x k ih=>
  obtain ⟨x1,x2⟩:=x;simp only [lk] at h
  split at h
  ·cases h
  ·rename_i hne
   simp only [List.map_cons,List.mem_cons,not_or];exact ⟨hne,ih h⟩
theorem inv_D {s s':Rs} {i:Nat} (h:Inv2 s) (hs:askD i s=.ok s'):Inv2 s':=by
 unfold askD at hs
 split at hs
 ·cases hs;exact h
 split at hs
 ·cases hs
 split at hs
 ·cases hs
 rename_i h1 h2 _
 cases hs;refine ⟨?_,fun e he h1=>?_⟩
 ·show ((rat s.rows i).name :: s.known.map (·.1)).Nodup
  refine List.nodup_cons.2 ⟨lk_no_mem ?_,h.nd⟩;cases hq:lk s.known (rat s.rows i).name with
  | none=>rfl
  | some v=>rw [hq] at h2;exact absurd rfl h2
 ·have:=h.ek e he h1;have hl:=(dec_lens s i).1;rw [hl];omega
theorem inv_M {s s':Rs} {i:Nat} (h:Inv2 s) (hs:askM i s=.ok s'):Inv2 s':=by
 unfold askM at hs
 split at hs
 ·cases hs;exact h
 split at hs
 ·cases hs
 split at hs
 ·cases hs
 split at hs
 ·cases hs
 ·cases hs;exact ⟨h.nd,h.ek⟩
theorem num_M2 {l0:List Rz} {m i:Nat} {s s':Rs} (hi:i < l0.length) (h:Good l0 m s) (hs:askM i s=.ok s') (he:(evt (rat s'.rows i)).1=1):0<=(rat s'.rows i).n/\(rat s'.rows i).n < (s'.qs.length:Int):=by
 have hlen:=like_len h.like;have hkd:∀ x:Rz,(evt x).1=1->nmd x.kind=1:=fun x hx=>by
  unfold evt at hx
  split at hx
  ·rename_i hk
   rcases hk with e | e<;>(rw [e];decide)
  ·split at hx<;>cases hx
 unfold askM at hs
 split at hs
 ·rename_i h0
  cases hs;have:=hkd _ he;omega
 split at hs
 ·cases hs
 rename_i k mm p hlk
 split at hs
 ·cases hs
 split at hs
 ·cases hs
 ·rename_i hne
  cases hs;dsimp only at he ⊢;rw [rat_numb (by omega)] at he ⊢
  have h1:=hkd _ he;have h2:=(h.kn _ (lk_mem hlk)).2.2;dsimp only at h1 h2 ⊢;have hk1:k=1:=by omega
  rw [hk1] at h2;have h3:mm < s.qs.length:=h2;omega
theorem inv_H {s s':Rs} {i:Nat} (h:Inv2 s) (hn:(evt (rat s.rows i)).1=1->0<=(rat s.rows i).n/\(rat s.rows i).n < (s.qs.length:Int)) (hs:askH i s=.ok s'):Inv2 s':=by
 unfold askH at hs
 split at hs
 ·cases hs;exact h
 split at hs
 ·cases hs
 ·cases hs;refine ⟨h.nd,fun e he h1=>?_⟩;rcases List.mem_cons.1 he with rfl | he
  ·have h2:(evt (rat s.rows i)).1=1:=h1;obtain ⟨a,b⟩:=hn h2;have h3:(evt (rat s.rows i)).2=(rat s.rows i).n:=by
    unfold evt at h2 ⊢
    split
    ·rfl
    ·rename_i h8
     rw [if_neg h8] at h2
     split at h2<;>cases h2
   show (evt (rat s.rows i)).2.toNat < s.qs.length
   rw [h3];omega
  ·exact h.ek e he h1
theorem Inv2.on {s:Rs} (h:Inv2 s):lk s.ev (1,s.qs.length)=none:=by
 cases hl:lk s.ev (1,s.qs.length) with
 | none=>rfl
 | some v=>
  have:=h.ek _ (lk_mem hl) rfl;dsimp only at this;omega
theorem inv_start (l:List Rz):Inv2 (start l):=⟨by unfold Nd start;exact List.nodup_nil,fun e he=>by simp [start] at he⟩
end Go.Proofs.YtbledbjcghaanaaGreat.Nm
namespace Go.Proofs.YtbledbjcghaanaaGreat.Gr
open Go.RowKit Sp Lx
theorem stand_in {d s c k:Int} (h0:d ≠ 0) (h1:d ≠ 1) (h:mayStand d s c k=true):k ≠ 7/\k ≠ 1/\k ≠ 0:=by
 unfold mayStand at h;rw [if_neg h0,if_neg h1] at h;refine ⟨?_,?_,?_⟩
 all_goals
  rintro rfl
  split at h
  ·exact absurd h (by decide)
  split at h
  ·exact absurd h (by decide)
  split at h
  ·exact absurd h (by decide)
  split at h
  ·exact absurd h (by decide)
  unfold mayFollow at h
  repeat' split at h
  all_goals exact absurd h (by decide)
theorem pop_app (v b:List Ab):pop (v++b)=if pop v=[] then pop b else pop v++b:=by
 induction v with
 | nil=>simp [pop]
 | cons a v ih=>
  simp only [List.cons_append,pop]
  split
  ·exact ih
  ·simp
theorem pop_mem (v:List Ab):∀ a ∈ pop v,a ∈ v:=by
 induction v with
 | nil=>intro a h;exact h
 | cons c v ih=>
  intro a h;simp only [pop] at h
  split at h
  ·exact List.mem_cons_of_mem _ (ih a h)
  ·exact h
theorem in_rule (l:List Rz):∀ (u b:List Ab) (i:Nat),(∀ a ∈ u,a.kind ≠ 0/\a.kind ≠ 1)->(u=[]\/∃ a r,u=a :: r/\(a.seen:Int) < a.kids)->(wrong (u++b) i l).2=false->∀ j x,sz l (mis u)=some x->j < x->(rat l j).kind ≠ 7:=by
 induction l with
 | nil=>
  intro u b i _ _ _ j x hx hj;simp only [sz] at hx
  split at hx
  ·cases hx;omega
  ·cases hx
 | cons r l ih=>
  intro u b i hu ht h j x hx hj;rcases ht with rfl | ⟨a,t,rfl,hlt⟩
  ·rw [show mis []=0 from rfl,sz_zero] at hx;cases hx;omega
  ·simp only [wrong,List.cons_append] at h
   split at h
   ·cases h
   ·rename_i hc
    simp only [List.isEmpty_cons,Bool.false_or,Bool.not_eq_true',Bool.not_eq_false,Bool.and_eq_true] at hc;have hk:=filled_kids hc.2;obtain ⟨a0,a1⟩:=hu a (by simp)
    obtain ⟨k7,k1,k0⟩:=stand_in (d:=a.kind) a0 a1 hc.1;cases j with
    | zero=>exact k7
    | succ j=>
     have hm:mis (pop (⟨r.kind,r.kids,0,0,0⟩ :: bump r.kind (a :: t)))=mis (a :: t) - 1+r.m:=by
      rw [mis_pop];simp only [mis,bump,Rz.m];omega
     obtain ⟨x1,hx1⟩:=sz_cons (by simp only [mis];omega) hx
     rw [<-hm] at hx1;have hpa:past (a :: (t++b)) r 0=if pop (⟨r.kind,r.kids,0,0,0⟩ :: bump r.kind (a :: t))=[] then pop b else pop (⟨r.kind,r.kids,0,0,0⟩ :: bump r.kind (a :: t))++b:=by
      rw [<-pop_app];rfl
     rw [hpa] at h;by_cases hp:pop (⟨r.kind,r.kids,0,0,0⟩ :: bump r.kind (a :: t))=[]
     ·rw [hp,show mis []=0 from rfl,sz_zero] at hx1;have:=Option.some.inj hx1;omega
     ·rw [if_neg hp] at h;have hmem:∀ c ∈ pop (⟨r.kind,r.kids,0,0,0⟩ :: bump r.kind (a :: t)),c.kind ≠ 0/\c.kind ≠ 1:=fun c hc2=>by
       have:=pop_mem _ c hc2;simp only [bump,List.mem_cons] at this;rcases this with rfl | rfl | hm2
       ·exact ⟨k0,k1⟩
       ·exact ⟨a0,a1⟩
       ·exact hu c (by simp [hm2])
      have hpp:∀ x:List Ab,pop x=[]\/∃ b q,pop x=b :: q/\(b.seen:Int) < b.kids:=by
       intro x
       induction x with
       | nil=>exact Or.inl rfl
       | cons c x ihx=>
        simp only [pop]
        split
        ·exact ihx
        ·exact Or.inr ⟨c,x,rfl,by omega⟩
      have:=ih _ b (i+1) hmem (hpp _) h j (x - 1) hx1 (by omega)
      exact this
theorem wrong_drop (l:List Rz):∀ (t:List Ab) (i a:Nat),a<=l.length->(wrong t i l).2=false->∃ t',(wrong t' (i+a) (l.drop a)).2=false:=by
 induction l with
 | nil=>
  intro t i a ha h;have h0:a=0:=by simpa using ha
  subst h0;exact ⟨t,h⟩
 | cons r l ih=>
  intro t i a ha h;cases a with
  | zero=>exact ⟨t,h⟩
  | succ a=>
   simp only [wrong] at h
   split at h
   ·cases h
   ·obtain ⟨t',h'⟩:=ih _ (i+1) a (by simpa using ha) h
    exact ⟨t',by rw [show i+(a+1)=i+1+a by omega];exact h'⟩
theorem rat_drop (l:List Rz) (a j:Nat):rat (l.drop a) j=rat l (a+j):=by simp [rat,List.getD_eq_getElem?_getD,List.getElem?_drop]
theorem rule_apart {l:List Rz} (h:(wrong [ab1] 0 l).2=false) {a c:Nat} (ha:a < l.length) (hk:(rat l a).kind=7) (hac:a < c) (hce:c < endp l a):(rat l c).kind ≠ 7:=by
 have hW:=whole_of h;have hf:=wrong_all l _ _ h _ (List.mem_of_getElem? (some_rat ha));have hk1:1<=(rat l a).kids:=Nm.filled_kid hf (Or.inl hk);obtain ⟨t,ht⟩:=wrong_drop l [ab1] 0 a (by omega) h
 obtain ⟨r,hr1,hr2,_⟩:=drop_at ha;have hr:r=rat l a:=by rw [some_rat ha] at hr1;exact (Option.some.inj hr1).symm
 subst hr;rw [hr2] at ht;simp only [wrong] at ht
 split at ht
 ·cases ht
 ·have hpa:past t (rat l a) 0=[⟨(rat l a).kind,(rat l a).kids,0,0,0⟩]++bump (rat l a).kind t:=by
   unfold past;simp only [pop];rw [if_neg (by omega)]
   rfl
  rw [hpa] at ht;have hE:∃ x,sz (l.drop (a+1)) (mis [⟨(rat l a).kind,(rat l a).kids,0,0,0⟩])=some x/\endp l a=a+1+x:=by
   obtain ⟨h1,h2⟩:=end_kid hW ha;unfold endp at *;rw [hr2] at *;cases hs:sz (rat l a :: l.drop (a+1)) 1 with
   | none=>rw [hs] at h2;simp at h2
   | some y=>
    obtain ⟨hy,hz⟩:=sz_cons (Nat.le_refl 1) hs;refine ⟨y - 1,?_,?_⟩
    ·rw [<-hz]
     congr 1
     simp [mis,Rz.m]
    ·simp;omega
  obtain ⟨x,hx1,hx2⟩:=hE;have:=in_rule (l.drop (a+1)) [⟨(rat l a).kind,(rat l a).kids,0,0,0⟩] (bump (rat l a).kind t) _ (by intro q hq;simp only [List.mem_singleton] at hq;subst hq;dsimp only;rw [hk];decide) (Or.inr ⟨_,[],rfl,by show (0:Int) < (rat l a).kids;omega⟩) ht (c - (a+1)) x hx1 (by omega)
  rw [rat_drop,show a+1+(c - (a+1))=c by omega] at this
  exact this
end Go.Proofs.YtbledbjcghaanaaGreat.Gr
namespace Go.Proofs.YtbledbjcghaanaaGreat.Nm
open Go.RowKit Go.Maps Sp Lx Gr
theorem rat_numb_ne {l:List Rz} {i j n:Nat} (h:j ≠ i):rat (numb l i n) j=rat l j:=by
 simp only [rat,numb,List.getD_eq_getElem?_getD,List.getElem?_set,if_neg (Ne.symm h)]
structure Cl (l0:List Rz) (i m:Nat) (s:Rs):Prop where
 k:∀ e ∈ s.known,e.2.1=4->∃ h:e.2.2.1 < s.us.length,e.2.2.2=endp l0 (s.us[e.2.2.1] - 1)
 u:∀ k (h:k < s.us.length),1<=s.us[k]/\s.us[k]<=i/\(rat l0 (s.us[k] - 1)).kind=7
 o:s.us.Pairwise (· < ·)
 c:∀ j,j < m->(rat l0 j).kind=22->∃ n:Nat,∃ h:n < s.us.length,(rat s.rows j).n=(n:Int)/\endp l0 (s.us[n] - 1)<=j
theorem cl_D {l0:List Rz} {i m:Nat} {s s':Rs} (hi:i < l0.length) (hg:Good l0 m s) (h:Cl l0 i i s) (hs:askD i s=.ok s'):Cl l0 (i+1) i s':=by
 have hup:Cl l0 (i+1) i s:=⟨h.k,fun k hk=>⟨(h.u k hk).1,Nat.le_succ_of_le (h.u k hk).2.1,(h.u k hk).2.2⟩,h.o,h.c⟩;unfold askD at hs
 split at hs
 ·cases hs;exact hup
 split at hs
 ·cases hs
 split at hs
 ·cases hs
 rename_i hd _ _
 cases hs;have hkd:=like_kind hg.like hi;have hend:endp (numb s.rows i (s.cnt (decl (rat s.rows i).kind))) i=endp l0 i:=endp_like ((numb_clr _ _ _).trans hg.like) i;by_cases h7:(rat s.rows i).kind=7
 ·have hus:(s.dec i).us=s.us++[i+1]:=if_pos h7;have hd4:decl (rat s.rows i).kind=4:=by rw [h7];rfl
  have hcn:s.cnt 4=s.us.length:=rfl;have hget:∀ k (hk:k < s.us.length) (hk2:k < (s.dec i).us.length),(s.dec i).us[k]=s.us[k]:=fun k hk hk2=>by simp only [hus];exact List.getElem_append_left hk
  refine ⟨fun e he h4=>?_,fun k hk=>?_,?_,fun j hj h22=>?_⟩
  ·rcases List.mem_cons.1 he with rfl | he
   ·dsimp only;rw [hend,hd4,hcn];refine ⟨by rw [hus];simp,?_⟩
    simp only [hus];simp
   ·obtain ⟨h1,h2⟩:=h.k e he h4;have h3:e.2.2.1 < (s.dec i).us.length:=by rw [hus];simp;omega
    exact ⟨h3,by rw [hget _ h1 h3];exact h2⟩
  ·by_cases hk2:k < s.us.length
   ·rw [hget k hk2 hk];exact hup.u k hk2
   ·have hk3:k=s.us.length:=by rw [hus] at hk;simp at hk;omega
    subst hk3;have he:(s.dec i).us[s.us.length]=i+1:=by simp only [hus];simp
    rw [he];exact ⟨by omega,Nat.le_refl _,by rw [Nat.add_sub_cancel,<-hkd.1];exact h7⟩
  ·rw [hus];refine List.pairwise_append.2 ⟨h.o,List.pairwise_singleton _ _,fun a ha b hb=>?_⟩;rw [List.mem_singleton.1 hb];obtain ⟨k,hk,rfl⟩:=List.mem_iff_getElem.1 ha;have:=(h.u k hk).2.1;omega
  ·obtain ⟨n,hn,h1,h2⟩:=h.c j hj h22;have h3:n < (s.dec i).us.length:=by rw [hus];simp;omega
   exact ⟨n,h3,by show (rat (numb _ _ _) j).n=_;rw [rat_numb_ne (by omega)];exact h1,by rw [hget _ hn h3];exact h2⟩
 ·have hus:(s.dec i).us=s.us:=if_neg h7;have hd4:decl (rat s.rows i).kind ≠ 4:=fun e=>by
   rcases decl_cases (rat s.rows i).kind with ⟨_,e2⟩ | ⟨_,e2⟩ | ⟨_,e2⟩ | ⟨_,e2⟩ | ⟨e1,_⟩ | ⟨_,_,_,_,_,e2⟩
   all_goals first | exact h7 e1 | omega
  refine ⟨fun e he h4=>?_,?_,?_,fun j hj h22=>?_⟩
  ·rcases List.mem_cons.1 he with rfl | he
   ·exact absurd h4 hd4
   ·simp only [hus];exact h.k e he h4
  ·simp only [hus];exact hup.u
  ·rw [hus];exact h.o
  ·simp only [hus];obtain ⟨n,hn,h1,h2⟩:=h.c j hj h22;exact ⟨n,hn,by show (rat (numb _ _ _) j).n=_;rw [rat_numb_ne (by omega)];exact h1,h2⟩
theorem cl_M {l0:List Rz} {i m:Nat} {s s':Rs} (hi:i < l0.length) (hg:Good l0 m s) (h:Cl l0 (i+1) i s) (hs:askM i s=.ok s'):Cl l0 (i+1) (i+1) s':=by
 have hkd:=like_kind hg.like hi;have hlen:=like_len hg.like;unfold askM at hs
 split at hs
 ·rename_i h0
  cases hs;refine ⟨h.k,h.u,h.o,fun j hj h22=>?_⟩;by_cases e:j=i
  ·subst e;rw [hkd.1,h22] at h0;exact absurd h0 (by decide)
  ·exact h.c j (by omega) h22
 split at hs
 ·cases hs
 rename_i k mm p hlk
 split at hs
 ·cases hs
 rename_i hp
 split at hs
 ·cases hs
 ·rename_i hne
  cases hs;refine ⟨h.k,h.u,h.o,fun j hj h22=>?_⟩;by_cases e:j=i
  ·subst e;have h4:k=4:=by
    have:nmd (rat s.rows j).kind=4:=by rw [hkd.1,h22];rfl
    omega
   obtain ⟨h1,h2⟩:=h.k _ (lk_mem hlk) h4;exact ⟨mm,h1,by show (rat (numb _ _ _) j).n=_;rw [rat_numb (by omega)],by rw [<-h2];dsimp only;omega⟩
  ·obtain ⟨n,hn,h1,h2⟩:=h.c j (by omega) h22
   exact ⟨n,hn,by show (rat (numb _ _ _) j).n=_;rw [rat_numb_ne e];exact h1,h2⟩
theorem cl_H {l0:List Rz} {i n:Nat} {s s':Rs} (h:Cl l0 n n s) (hs:askH i s=.ok s'):Cl l0 n n s':=by
 unfold askH at hs
 split at hs
 ·cases hs;exact h
 split at hs
 ·cases hs
 ·cases hs;exact ⟨h.k,h.u,h.o,h.c⟩
theorem upto_cl {l:List Rz} (hB:Base l) (n:Nat) (hn:n<=l.length) {s:Rs} (h:upto (start l) n=.ok s):Cl l n n s:=by
 induction n generalizing s with
 | zero=>
  cases h;exact ⟨fun e he=>by simp [start] at he,fun k hk=>by simp [start] at hk,List.Pairwise.nil,fun j hj=>by omega⟩
 | succ n ih=>
  simp only [upto] at h
  split at h
  ·cases h
  ·rename_i t ht
   have hc:=ih (by omega) ht
   have hg:=upto_good hB n (by omega) ht
   split at h
   ·cases h
   ·rename_i t' h3
    cases h;cases h1:askN n t 1 with
    | error c=>rw [askN_err h1 2] at h3;cases h3
    | ok t1=>
     cases h2:askN n t 2 with
     | error c=>rw [askN_err h2 1] at h3;cases h3
     | ok t2=>
      have a1:askD n t=.ok t1:=(askN_succ (j:=0) rfl).symm.trans h1;have a2:askM n t1=.ok t2:=(askN_succ h1).symm.trans h2;have a3:askH n t2=.ok s:=(askN_succ h2).symm.trans h3;exact cl_H (cl_M (by omega) (good_D hB (by omega) hg a1) (cl_D (by omega) hg hc a1) a2) a3
theorem calls_ahead {l:List Rz} {m:Nat} {s:Rs} (hw:(wrong [ab1] 0 l).2=false) (hg:Good l m s) (h:Cl l l.length l.length s):∀ k (hk:k < s.us.length) j,s.us[k]<=j->j < endp s.rows s.us[k]->(rat s.rows j).kind=22->0<=(rat s.rows j).n/\(rat s.rows j).n < (k:Int):=by
 intro k hk j hj1 hj2 h22;have hW:=whole_of hw;obtain ⟨u1,u2,u3⟩:=h.u k hk;have ha:s.us[k] - 1 < l.length:=by omega
 have hB:=base_of hw;have hf:=hB.fill _ ha;have hkid:km l (s.us[k] - 1)=1:=by
  have h1:=filled_kid hf (Or.inl u3);have h2:(rat l (s.us[k] - 1)).kids<=1:=by
   unfold filled wtn at hf;simp only [Bool.and_eq_true,decide_eq_true_eq] at hf;have:=hf.2.2.2.2;rw [u3] at this;exact this
  have:=hB.tree.kids _ ha;omega
 have hend:endp l (s.us[k] - 1)=endp l s.us[k]:=by
  obtain ⟨e1,_,_⟩:=end_kid hW ha;obtain ⟨_,e2,_⟩:=kid_at hW ha (k:=0) (by omega)
  rw [e1,hkid,show (1:Nat)=0+1 from rfl,e2]
  congr 1
  simp [kidp,sz_zero];omega
 rw [endp_like hg.like] at hj2;have hjl:j < l.length:=by
  have:=(end_kid hW ha).2.2;omega
 rw [(like_kind hg.like hjl).1] at h22;obtain ⟨n,hn,e1,e2⟩:=h.c j hjl h22;rw [e1];refine ⟨by omega,?_⟩
 by_cases hlt:n < k
 ·omega
 ·exfalso
  by_cases he:n=k
  ·subst he;omega
  ·have hlt2:s.us[k] < s.us[n]:=List.pairwise_iff_getElem.1 h.o k n hk hn (by omega)
   obtain ⟨v1,v2,v3⟩:=h.u n hn;have hnl:s.us[n] - 1 < l.length:=by omega
   have:=(end_kid hW hnl).2.1;exact rule_apart hw ha u3 (c:=s.us[n] - 1) (by omega) (by omega) v3
theorem calls_there {l:List Rz} {m:Nat} {s:Rs} (hg:Good l m s) (h:Cl l l.length l.length s):∀ j,j < l.length->(rat s.rows j).kind=22->0<=(rat s.rows j).n/\(rat s.rows j).n < (s.us.length:Int):=by
 intro j hj h22;rw [(like_kind hg.like hj).1] at h22;obtain ⟨n,hn,e1,_⟩:=h.c j hj h22;rw [e1];exact ⟨by omega,by omega⟩
end Go.Proofs.YtbledbjcghaanaaGreat.Nm
namespace Go.Proofs.YtbledbjcghaanaaGreat.Gr
open Go.RowKit Sp Lx
theorem ends_any (ao:Option Addr) (l:List Rz) (cap:Nat) (w:World) (h:IsRz w ao l) (hn:l.length<=2932031007317) (hT:TreeZ l):
  Calls Tryz.prog 95 #[.slice ao l.length cap] w fun e w'=>∃ g,e=.returned (.slice (pZ g) l.length l.length)/\w.heap.size<=g/\RowI w' g l.length (fun i=>(endp l i:Int))/\Below w.heap.size w w':=by
 obtain ⟨M,hmk,hM⟩:=mk_ints l.length hn;have HI:Hid (IsRz w ao l):=h;have HN:Hid (l.length<=2932031007317):=hn;have HT:Hid (TreeZ l):=hT;have HA:Hid (RowI (w.alloc (.cells M 3)) w.heap.size l.length (fun i=>if l.length<=i then (endp l i:Int) else 0)):=(hM w).ext fun i hi=>by rw [if_neg (by omega)]
 have HB0:Hid (Below w.heap.size w (w.alloc (.cells M 3))):=bAl w _;have hln:(l.length:Int)<=2932031007317:=by omega
 clear h hn hT hM;go_enter Tryz.func95,Tryz.ntmps95;go_wp2_with fail
 go_loopg [4] l.length (fun gq i wr=>∃ m:Nat,m<=l.length/\gq=m/\i=I ((m:Int) - 1)/\RowI wr w.heap.size l.length (fun i=>if m<=i then (endp l i:Int) else 0)/\Below w.heap.size w wr)
 case atStart=>exact ⟨l.length,Nat.le_refl _,rfl,by go_num,HA.out,HB0.out⟩
 case round=>
  obtain ⟨m,hm,hgk,rfl,hR,hB⟩:=hrel;have HG:Hid (gk=m):=hgk;have HR:Hid (RowI wr w.heap.size l.length (fun i=>if m<=i then (endp l i:Int) else 0)):=hR;have HB:Hid (Below w.heap.size w wr):=hB;clear hgk hR hB hmk;cases m with
  | zero=>
   go_wp2_with fail
   go_ret;exact ⟨w.heap.size,rfl,Nat.le_refl _,HR.out.ext fun i _=>by rw [if_pos (Nat.zero_le _)],HB.out⟩
  | succ m=>
   have hml:m < l.length:=by omega
   have hmi:(((m+1:Nat):Int) - 1)=(m:Int):=by omega
   rw [hmi];obtain ⟨g,o,rfl,hg,c0,c4⟩:=kids_at (HI.out.below HB.out) HT.out hml;have hml':(m:Int) < (l.length:Int):=by omega
   have hm0:(m:Int)<=2932031007317:=by omega
   clear hm hmi;generalize wr=W1 at *;go_wp2_with fail
   go_loopg [5,6] (km l m) (fun gq nx kk wr'=>∃ k:Nat,k<=km l m/\gq=km l m - k/\nx=I (kidp l m k:Int)/\kk=I k/\wr'=W1)
   case atStart=>exact ⟨0,Nat.zero_le _,rfl,by rw [kid_zero];go_num,rfl,rfl⟩
   case round=>
    obtain ⟨k,hk,hgk,rfl,rfl,hw⟩:=hrel;have HG2:Hid (gk=km l m - k):=hgk;rw [hw];clear hgk hw;have HK:Hid (k<=km l m):=hk;have hkl:(kidp l m k:Int)<=2932031007317:=by have h1:=kid_le HT.out.whole hml hk;have h2:=HN.out;omega
    have HKe:Hid (km l m<=kidp l m (km l m)):=by
     show _<=_
     have:∀ j,j<=km l m->j<=kidp l m j:=by
      intro j
      induction j with
      | zero=>intro _;omega
      | succ j ih=>
       intro hj;obtain ⟨h1,h2,h3⟩:=kid_at HT.out.whole hml (k:=j) (by omega)
       have h4:=(end_kid HT.out.whole h1).2.1;have:=ih (by omega)
       omega
     exact this _ (Nat.le_refl _)
    have hkm:(km l m:Int)<=2932031007317:=by have h1:=HKe.out;have h2:=kid_le HT.out.whole hml (Nat.le_refl _);have h3:=HN.out;omega
    by_cases hlt:k < km l m
    ·obtain ⟨h1,h2,h3⟩:=kid_at HT.out.whole hml hlt;have hc:=HR.out.cell h1;rw [if_pos (by omega)] at hc
     have hlt':(k:Int) < (km l m:Int):=by omega
     have hkl':(kidp l m k:Int) < (l.length:Int):=by omega
     have HN2:Hid (kidp l m (k+1)=endp l (kidp l m k)):=h2;clear h1 h2 h3 hlt hk;go_wp2_with fail;go_roundg (km l m - (k+1))
     case measure=>have h1:=HG2.out;have h2:=HK.out;omega
     case rel=>exact ⟨k+1,by omega,rfl,by rw [HN2.out],by go_num,rfl⟩
    ·have hlt':¬ ((k:Int) < (km l m:Int)):=by omega
     have hke:k=km l m:=by omega
     have HE:Hid (kidp l m k=endp l m):=by show _=_;rw [hke];exact (end_kid HT.out.whole hml).1.symm
     have hc:=HR.out.cell hml;have hf:=HR.out.frozen m;generalize (if m+1<=m then (endp l m:Int) else 0)=y at hc;have HS:Hid (RowI (W1.setCell ⟨w.heap.size,m,none⟩ (I (kidp l m k:Int))) w.heap.size l.length (fun i=>if i=m then (kidp l m k:Int) else if m+1<=i then (endp l i:Int) else 0)):=HR.out.set m (kidp l m k:Int);have HB2:Hid (Below w.heap.size w (W1.setCell ⟨w.heap.size,m,none⟩ (I (kidp l m k:Int)))):=HB.out.trans ((Below.refl w.heap.size W1).setCell (p:=⟨w.heap.size,m,none⟩) (Nat.le_refl _) _);clear hke hlt hk;go_wp2_with fail;go_roundg m
     case measure=>have:=HG.out;omega
     case rel=>
      refine ⟨m,by omega,rfl,by go_num,HS.out.ext fun i _=>?_,HB2.out⟩
      by_cases e:i=m
      ·subst e;rw [if_pos rfl,if_pos (Nat.le_refl _),HE.out]
      ·rw [if_neg e];by_cases e2:m+1<=i
       ·rw [if_pos e2,if_pos (by omega)]
       ·rw [if_neg e2,if_neg (by omega)]
end Go.Proofs.YtbledbjcghaanaaGreat.Gr
