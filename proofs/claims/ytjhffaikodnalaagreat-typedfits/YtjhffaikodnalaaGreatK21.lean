import Derived.RangeFuncNested
import Derived.RangeFuncBound
import Derived.RangeFuncCalls
import Derived.RangeFuncBox
import Derived.RangeFuncLeaves
import Derived.Shelf.Abstract
import Derived.Shelf.RegionOpen
import Derived.OwnWalkIn
import Derived.TacticsInMore
import Derived.LoopNIn
import Derived.LoopIn
import Derived.Test.YtjhffaikodnalaaGreatK20
set_option maxHeartbeats 6400000
set_option maxRecDepth 100000
namespace Go.Proofs.YtjhffaikodnalaaGreat.Nm.Ty
open Go.RowKit Go.Shelf Sp Lx Gr
attribute [local go_sem] Oper.semAt_some
def dnto (n k:Nat):List Nat:=(List.range k).map (fun j=>n - 1 - j)
theorem dnto_succ (n k:Nat):dnto n (k+1)=dnto n k++[n - 1 - k]:=by simp [dnto,List.range_succ]
theorem dnto_length (n k:Nat):(dnto n k).length=k:=by simp [dnto]
def Kq (S:List Nat) (U V:World):Prop:=U.heap.size<=V.heap.size/\∀ k ∈ S,V.heap[k]?=U.heap[k]?
theorem Kq.refl (S:List Nat) (U:World):Kq S U U:=⟨Nat.le_refl _,fun _ _=>rfl⟩
theorem Kq.trans {S:List Nat} {U V X:World} (h:Kq S U V) (k:Kq S V X):Kq S U X:=⟨Nat.le_trans h.1 k.1,fun i hi=>(k.2 i hi).trans (h.2 i hi)⟩
abbrev rzV (r:Rz):Value:=.agg #[.int .i64 r.kind,.string r.name,.int .i64 r.stop,.int .i64 r.n,.int .i64 r.kids]
theorem rback_in (F:Fence) (n:Nat) (h8:F.fn 122) (hro:F.round=none) (hn:1<=n) (l Bs b bo cap:Nat) (L:List Rz) (hreach:L.length<=2932031007317) (J Jx:List Nat->World->Prop)
  (hY:∀ pre x W,J pre W->pre.length < L.length->YieldAt F (n - 1) Tryz.prog l #[.int .i64 ((x % L.length:Nat):Int),rzV (rat L (x % L.length))] W fun e W'=>
   (e=.returned (.bool true)/\J (pre++[x]) W'/\Kq [Bs,b] W W')\/(e=.returned (.bool false)/\Jx (pre++[x]) W'))
  (W:World) (hBs:W.cell? ⟨Bs,0,none⟩=some (.slice (some ⟨b,bo,none⟩) L.length cap)) (hc:IsRz W (some ⟨b,bo,none⟩) L) (h0:J [] W):
  CallsIn F n Tryz.prog 122 #[.func (.yield l) #[] #[],.pointer (some ⟨Bs,0,none⟩)] W fun e W'=>(∃ v,e=.returned v) /\
   ((∃ ys,ys=dnto L.length L.length/\J ys W')\/(∃ pre,(∃ k,k<=L.length/\pre=dnto L.length k)/\Jx pre W')):=by
 have hrc:(L.length:Int)<=2932031007317:=by omega
 refine callsIn_of_wp Tryz.func122 rfl h8 ?_ hro
 simp only [Tryz.ntmps122,List.size_toArray,List.length_cons,List.length_nil,Nat.reduceAdd,Nat.reduceSub,Array.replicate_succ,Array.replicate_zero,List.push_toArray,List.append_toArray,List.nil_append,List.cons_append]
 gi_wp2
 gi_loopw [3] (fun i wr=>∃ k:Nat,k<=L.length/\i=.int .i64 ((L.length:Int) - 1 - k)/\J (dnto L.length k) wr/\Kq [Bs,b] W wr)
  (fun i _=>(intOf i+1).toNat)
 case atStart=>exact ⟨0,Nat.zero_le _,by simp,h0,Kq.refl _ _⟩
 case round=>
  obtain ⟨k,hk,rfl,hJs,hnx⟩:=hrel
  have hcs:wr.cell? ⟨Bs,0,none⟩=some (.slice (some ⟨b,bo,none⟩) L.length cap):=(World.cell?_of_block (a:=⟨Bs,0,none⟩) (hnx.2 Bs (by simp))).trans hBs
  by_cases hlt:k < L.length
  ·obtain ⟨pk,hpk⟩:∃ pk,pk=L.length - 1 - k:=⟨_,rfl⟩
   have hi:(L.length:Int) - 1 - (k:Int)=(pk:Int):=by omega
   rw [hi]
   have hpl:pk < L.length:=by omega
   have hpl':(pk:Int) < (L.length:Int):=by omega
   have hJn:dnto L.length (k+1)=dnto L.length k++[pk]:=by rw [dnto_succ,<-hpk]
   obtain ⟨fn,tmps,assign,body,hy,hR⟩:=hY _ pk wr hJs (by rw [dnto_length];exact hlt)
   rw [Nat.mod_eq_of_lt hpl] at hy
   obtain ⟨g,o,e,_,c0,c1,c2,c3,c4⟩:=row_cells hc hpl
   cases e
   have hcell:∀ j v,W.cell? ⟨b,j,none⟩=some v->wr.cell? ⟨b,j,none⟩=some v:=fun j v h=>(World.cell?_of_block (a:=⟨b,j,none⟩) (hnx.2 b (by simp))).trans h
   have d0:=hcell _ _ c0
   have d1:=hcell _ _ c1
   have d2:=hcell _ _ c2
   have d3:=hcell _ _ c3
   have d4:=hcell _ _ c4
   clear hcell c0 c1 c2 c3 c4 hpk
   generalize rat L pk=r at *
   gi_wp2
   refine hR.mono ?_
   rintro e W3 (⟨rfl,hJ3,hk3⟩ | ⟨rfl,hJx3⟩)
   ·gi_wp2
    go_roundw
    case rel=>exact ⟨k+1,by omega,by simp;omega,by rw [hJn];exact hJ3,hnx.trans hk3⟩
    case measure=>simp [intOf]
   ·gi_wp2
    refine bodyPost_ret (results_none rfl _ _ _) rfl ?_
    exact ⟨⟨_,rfl⟩,.inr ⟨_,⟨k+1,by omega,hJn.symm⟩,hJx3⟩⟩
  ·obtain rfl:k=L.length:=by omega
   have hi:(L.length:Int) - 1 - (L.length:Int)=-1:=by omega
   rw [hi]
   gi_wp2
   go_end0
   exact ⟨⟨_,rfl⟩,.inl ⟨_,rfl,hJs⟩⟩
theorem rbackward_any (a:Option Addr) (len cap:Nat) (w:World):
  Calls Tryz.prog 89 #[.slice a len cap] w fun e w'=>e=.returned (.func (.func 122) #[] #[.pointer (some ⟨w.heap.size,0,none⟩)])/\w'=w.alloc (.cells #[.slice a len cap] 22):=by
 have hmf:∀ (fn:Fn) (first cap:Array Value) (w:World),(Instr.makeFunc fn first cap).run Tryz.prog w=.ok (.func fn first cap) w:=fun _ _ _ _=>rfl
 go_enter Tryz.func89,Tryz.ntmps89
 go_wp2
 go_ret
 exact ⟨rfl,rfl⟩
theorem rback_stops (F:Fence) (n:Nat) (h8:F.fn 122) (hro:F.round=none) (hn:1<=n) (Bs b bo cap:Nat) (L:List Rz) (hreach:L.length<=2932031007317) (w:World) (hBs:Bs < w.heap.size)
  (hc:w.cell? ⟨Bs,0,none⟩=some (.slice (some ⟨b,bo,none⟩) L.length cap)) (hI:IsRz w (some ⟨b,bo,none⟩) L):
  SeqStopsK F n Tryz.prog 122 #[.pointer (some ⟨Bs,0,none⟩)] (fun x:Nat=>#[Value.int .i64 ((x % L.length:Nat):Int),rzV (rat L (x % L.length))]) (Kq [Bs,b]) (fun ys=>ys=dnto L.length L.length)
   (fun pre=>∃ k,k<=L.length/\pre=dnto L.length k) L.length w:=fun l J Jx W hW _ _ hY h0=>
 rback_in F n h8 hro hn l Bs b bo cap L hreach J Jx hY W ((hW.cell (p:=⟨Bs,0,none⟩) hBs).trans hc) (hI.below hW) h0
end Go.Proofs.YtjhffaikodnalaaGreat.Nm.Ty
namespace Go.Proofs.YtjhffaikodnalaaGreat.Nm.Ty
open Gr
def Okf (l:List Rz) (f:Nat->Int):Prop:=∀ i,i < l.length->f i=0\/(f i=(endp l i:Int)/\∀ j,i < j->j < endp l i->f j=(endp l j:Int))
theorem in_kid {l:List Rz} (h:Whole l) {i j:Nat} (hi:i < l.length) (h1:i < j) (h2:j < endp l i):∃ m,m < km l i/\kidp l i m<=j/\j < endp l (kidp l i m):=by
 have key:∀ k,k<=km l i->j < kidp l i k->∃ m,m < km l i/\kidp l i m<=j/\j < endp l (kidp l i m):=by
  intro k
  induction k with
  | zero=>intro _ h3;rw [kid_zero] at h3;omega
  | succ k ih=>
   intro hk h3
   by_cases h4:j < kidp l i k
   ·exact ih (by omega) h4
   ·obtain ⟨_,h5,_⟩:=kid_at h hi (k:=k) (by omega)
    exact ⟨k,by omega,by omega,by rw [<-h5];exact h3⟩
 refine key (km l i) (Nat.le_refl _) ?_
 rw [<-(end_kid h hi).1]
 exact h2
def Stf (l:List Rz) (f:Nat->Int) (i k e:Nat):Prop:=(e=kidp l i k/\∀ m,m < k->f (kidp l i m)=(endp l (kidp l i m):Int))\/(e=0/\f 0=0/\∃ m,m < k/\f (kidp l i m)=0)
theorem stf_zero (l:List Rz) (f:Nat->Int) (i:Nat):Stf l f i 0 (i+1):=Or.inl ⟨(kid_zero l i).symm,fun m hm=>by omega⟩
theorem stf_step {l:List Rz} {f:Nat->Int} (hT:Whole l) (hE:endp l 0=l.length) (hF:Okf l f) {i k e:Nat} (hi:i < l.length) (hk:k < km l i) (h:Stf l f i k e):e < l.length/\∃ e':Nat,f e=(e':Int)/\Stf l f i (k+1) e':=by
 obtain ⟨h1,h2,h3⟩:=kid_at hT hi hk
 rcases h with ⟨rfl,hr⟩ | ⟨rfl,hz,m,hm,hmz⟩
 ·refine ⟨h1,?_⟩
  rcases hF _ h1 with h0 | ⟨he,_⟩
  ·refine ⟨0,h0,Or.inr ⟨rfl,?_,k,by omega,h0⟩⟩
   rcases hF 0 (by omega) with h4 | ⟨_,h5⟩
   ·exact h4
   ·have:=h5 (kidp l i k) (by omega) (by rw [hE];exact h1)
    have h6:=(end_kid hT h1).2.1
    omega
  ·refine ⟨endp l (kidp l i k),he,Or.inl ⟨h2.symm,fun m hm=>?_⟩⟩
   by_cases e:m=k
   ·subst e;exact he
   ·exact hr m (by omega)
 ·exact ⟨by omega,0,by simpa using hz,Or.inr ⟨rfl,hz,m,by omega,hmz⟩⟩
theorem stf_end {l:List Rz} {f:Nat->Int} (hT:Whole l) (hF:Okf l f) {i e:Nat} (hi:i < l.length) (h:Stf l f i (km l i) e):e<=l.length/\Okf l (setF f i (e:Int))/\((∀ j,i < j->j < l.length->f j=(endp l j:Int))->∀ j,i<=j->j < l.length->setF f i (e:Int) j=(endp l j:Int)):=by
 obtain ⟨he1,he2,he3⟩:=end_kid hT hi
 have hkid:∀ m,m < km l i->i < kidp l i m/\kidp l i m < endp l i/\kidp l i m < endp l (kidp l i m):=fun m hm=>by
  obtain ⟨a,b,c,_⟩:=kidIn hT hi hm
  have:=(end_kid hT b).2.1
  exact ⟨a,by omega,this⟩
 have hz:(∃ m,m < km l i/\f (kidp l i m)=0)->∀ i',i' < l.length->i'<=i->f i'=(endp l i':Int)->(∀ j,i' < j->j < endp l i'->f j=(endp l j:Int))->i < endp l i'->endp l i<=endp l i'->False:=by
  rintro ⟨m,hm,h0⟩ i' hi' hle _ hcl h1 h2
  obtain ⟨a,b,c⟩:=hkid m hm
  have:=hcl (kidp l i m) (by omega) (by omega)
  omega
 refine ⟨?_,?_,?_⟩
 ·rcases h with ⟨rfl,_⟩ | ⟨rfl,_⟩
  ·rw [<-he1];exact he3
  ·omega
 ·intro i' hi'
  by_cases e1:i'=i
  ·subst e1
   rcases h with ⟨rfl,hr⟩ | ⟨rfl,_⟩
   ·refine Or.inr ⟨by simp [setF,he1],fun j h1 h2=>?_⟩
    obtain ⟨m,hm,h3,h4⟩:=in_kid hT hi h1 h2
    have e2:setF f i' ((kidp l i' (km l i'):Nat):Int) j=f j:=if_neg (by omega)
    rw [e2]
    by_cases h5:j=kidp l i' m
    ·rw [h5];exact hr m hm
    ·have hk:=hr m hm
     rcases hF (kidp l i' m) (by have:=(hkid m hm).2.1;omega) with h6 | ⟨_,h7⟩
     ·have:=(hkid m hm).2.2;omega
     ·exact h7 j (by omega) h4
   ·exact Or.inl (by simp [setF])
  ·have e2:setF f i (e:Int) i'=f i':=if_neg e1
   rw [e2]
   rcases hF i' hi' with h0 | ⟨h0,hcl⟩
   ·exact Or.inl h0
   ·refine Or.inr ⟨h0,fun j h1 h2=>?_⟩
    by_cases e3:j=i
    ·subst e3
     have hfi:=hcl j h1 h2
     have:e=endp l j:=by
      rcases h with ⟨rfl,_⟩ | ⟨rfl,_,m,hm,h0m⟩
      ·exact he1.symm
      ·exfalso
       rcases hF j hi with h6 | ⟨_,h7⟩
       ·omega
       ·obtain ⟨a,b,c⟩:=hkid m hm
        have:=h7 (kidp l j m) a b
        omega
     rw [this]
     exact if_pos rfl
    ·rw [show setF f i (e:Int) j=f j from if_neg e3]
     exact hcl j h1 h2
 ·intro hall j h1 h2
  by_cases e3:j=i
  ·subst e3
   have:e=endp l j:=by
    rcases h with ⟨rfl,_⟩ | ⟨rfl,_,m,hm,h0m⟩
    ·exact he1.symm
    ·exfalso
     obtain ⟨a,b,c⟩:=hkid m hm
     have:=hall (kidp l j m) a (by omega)
     omega
   rw [this]
   exact if_pos rfl
  ·rw [show setF f i (e:Int) j=f j from if_neg e3]
   exact hall j (by omega) h2
end Go.Proofs.YtjhffaikodnalaaGreat.Nm.Ty
namespace Go.Proofs.YtjhffaikodnalaaGreat.Nm.Ty
open Go.RowKit Go.Shelf Sp Lx Gr
attribute [local go_sem] Oper.semAt_some
theorem ends_any {l:List Rz} {ao:Option Addr} {cap:Nat} {w:World} (h:IsRz w ao l) (hn:l.length<=2932031007317) (hT:TreeZ l) (h0:0 < l.length):
  Calls Tryz.prog 58 #[.slice ao l.length cap] w fun e w'=>∃ g,e=.returned (.slice (some ⟨g,0,none⟩) l.length l.length)/\w.heap.size<=g/\RowI w' g l.length (fun i=>(endp l i:Int))/\Below w.heap.size w w':=by
 obtain ⟨M,hmk,hM⟩:=mk_ints l.length hn
 have hln:(l.length:Int)<=2932031007317:=by omega
 have hbk:=rbackward_any ao l.length cap
 have hb1:Below w.heap.size w (((w.alloc (.cells M 3)).alloc (.cells #[.slice (some ⟨w.heap.size,0,none⟩) l.length l.length] 25)).alloc (.cells #[.slice ao l.length cap] 22)):=(((Below.refl _ w).alloc (Nat.le_refl _) _).alloc (by simp) _).alloc (by simp;omega) _
 have hnil:∀ (cp:Array Value) (u:World),(binOp BinOp.eql 132 (.func (.func 122) #[] cp) .nilFunc).run Tryz.prog u=.ok (.bool false) u:=fun _ _=>rfl
 refine (callsIn_wide (n:=5)).1 ?_
 refine callsIn_of_wp_marks Tryz.func58 rfl trivial ?_ rfl
 simp only [Tryz.ntmps58,List.size_toArray,List.length_cons,List.length_nil,Nat.reduceAdd,Nat.reduceSub,Array.replicate_succ,Array.replicate_zero,List.push_toArray,List.append_toArray,List.nil_append,List.cons_append]
 gi_wp2
 refine ⟨trivial,(callsIn_wide.2 (hbk _)).mono ?_⟩
 rintro e w2 ⟨rfl,rfl⟩
 have hRb:=row_cells h h0
 obtain ⟨b,bo,rfl,hb,_⟩:=hRb
 have hz2:(((w.alloc (.cells M 3)).alloc (.cells #[.slice (some ⟨w.heap.size,0,none⟩) l.length l.length] 25)).alloc (.cells #[.slice (some ⟨b,bo,none⟩) l.length cap] 22)).heap.size=w.heap.size+3:=by simp
 have hR2:RowI (((w.alloc (.cells M 3)).alloc (.cells #[.slice (some ⟨w.heap.size,0,none⟩) l.length l.length] 25)).alloc (.cells #[.slice (some ⟨b,bo,none⟩) l.length cap] 22)) w.heap.size l.length (fun _=>0):=(hM w).of_block ((alloc_old _ _ _ (by simp;omega)).trans (alloc_old _ _ _ (by simp)))
 have hX2:(((w.alloc (.cells M 3)).alloc (.cells #[.slice (some ⟨w.heap.size,0,none⟩) l.length l.length] 25)).alloc (.cells #[.slice (some ⟨b,bo,none⟩) l.length cap] 22)).heap[w.heap.size+1]?=some (.cells #[.slice (some ⟨w.heap.size,0,none⟩) l.length l.length] 25 (0,0)):=by
  rw [alloc_old _ _ _ (by simp)]
  exact alloc_at _ _ _ (by simp)
 have hB2:(((w.alloc (.cells M 3)).alloc (.cells #[.slice (some ⟨w.heap.size,0,none⟩) l.length l.length] 25)).alloc (.cells #[.slice (some ⟨b,bo,none⟩) l.length cap] 22)).heap[w.heap.size+1+1]?=some (.cells #[.slice (some ⟨b,bo,none⟩) l.length cap] 22 (0,0)):=alloc_at _ _ _ (by simp)
 have hI2:=h.below hb1
 have hE0:endp l 0=l.length:=by
  have:=hT.whole
  unfold Whole at this
  simp [endp,this]
 gi_wp2
 generalize (((w.alloc (.cells M 3)).alloc (.cells #[.slice (some ⟨w.heap.size,0,none⟩) l.length l.length] 25)).alloc (.cells #[.slice (some ⟨b,bo,none⟩) l.length cap] 22))=w2 at *
 clear hmk hM hbk
 refine wpIn_rangeFunc_ownH rfl (by omega) (gf:=122) (lb:=#[.pointer (some ⟨w.heap.size+1+1,0,none⟩)]) rfl trivial (enters_of Tryz.func122 (by kernel_rfl) rfl)
  (rback_stops Fence.wide 4 trivial rfl (by omega) (w.heap.size+1+1) b bo cap l hn w2 (by omega) (by rw [World.cell?,hB2];rfl) hI2) (fun h k=>h.trans k) (fun W k o o' hk _ _ _=>⟨by simp,fun i hi=>World.putObj_heap_other (fun e=>by simp at hi;omega)⟩) (Below.refl _ _) (fun _=>rfl)
  (fun pre W=>(∃ f,RowI W w.heap.size l.length f/\Okf l f/\(pre=dnto l.length pre.length->∀ j,l.length - pre.length<=j->j < l.length->f j=(endp l j:Int)))/\W.heap[w.heap.size+1]?=some (.cells #[.slice (some ⟨w.heap.size,0,none⟩) l.length l.length] 25 (0,0))/\Below w.heap.size w W/\W.heap[w.heap.size+1+1]?=some (.cells #[.slice (some ⟨b,bo,none⟩) l.length cap] 22 (0,0)))
  (fun (_:Code) (_:List Nat) (_:World)=>False)
  (fun s A B row hs hg hr=>⟨?oI,?oX,?oB,?oS⟩)
  (fun _ s A B row hs _ _=>hs)
  ⟨⟨fun _=>0,hR2,fun i _=>Or.inl rfl,fun _ j h1 h2=>by simp at h1;omega⟩,hX2,hb1,hB2⟩
  (fun x a' W=>∃ B5,a'={ tmps:=#[.slice (some ⟨b,bo,none⟩) l.length cap,undef,.slice none 0 0,.pointer (some ⟨w.heap.size+1,0,none⟩),.int .i64 ((x % l.length:Nat):Int),.pointer (some ⟨B5,0,none⟩),undef,.slice (some ⟨b,bo,none⟩) l.length cap,.int .i64 (l.length:Int),.slice (some ⟨w.heap.size,0,none⟩) l.length l.length,.slice (some ⟨b,bo,none⟩) l.length cap,.func (.func 122) #[] #[.pointer (some ⟨w.heap.size+1+1,0,none⟩)],.int .i64 ((x % l.length:Nat):Int),rzV (rat l (x % l.length)),undef,undef,undef,undef,undef,undef,undef,undef,undef,undef,undef,undef,undef,undef,undef,undef],defers:=[] } /\ W.heap[B5]?=some (.cells #[.int .i64 (rat l (x % l.length)).kind,.string (rat l (x % l.length)).name,.int .i64 (rat l (x % l.length)).stop,.int .i64 (rat l (x % l.length)).n,.int .i64 (rat l (x % l.length)).kids] 61 (0,0))/\w.heap.size+1 < B5)
  (fun x a' s A B row hs hg hr=>?oA) ?assign ?body ?done ?stop
 case oI=>
  obtain ⟨f,hf,h1⟩:=hs.1
  exact ⟨f,(grownBy_keeps_cells hg (fun r e=>(hr r e).2) hf rfl).trans hf,h1⟩
 case oX=>exact (grownBy_keeps_cells hg (fun r e=>(hr r e).2) hs.2.1 rfl).trans hs.2.1
 case oS=>exact (grownBy_keeps_cells hg (fun r e=>(hr r e).2) hs.2.2.2 rfl).trans hs.2.2.2
 case oB=>exact ownFrom_below (β:=Unit) (w₀:=w) (Nat.le_refl _) (B:=w2.heap.size) (by omega) () A B row hs.2.2.1 hg hr
 case oA=>
  obtain ⟨B5,h1,h2,h3⟩:=hs
  exact ⟨B5,h1,(grownBy_keeps_cells hg (fun r e=>(hr r e).2) h2 rfl).trans h2,h3⟩
 case assign=>
  rintro q pre x W K ⟨⟨f,hf,h1⟩,h2,h3,h4⟩ hK
  dsimp only at hK ⊢
  generalize x % l.length=i at hK ⊢
  generalize rat l i=r at hK ⊢
  gi_wp2
  refine hK _ _ ((KeepsOthers.alloc W _).from _) ⟨by simp,fun k hk=>alloc_old W _ k ?lt⟩ ⟨⟨f,hf.of_block (alloc_old W _ _ hf.lt),h1⟩,(alloc_old W _ _ (blk_lt h2)).trans h2,h3.alloc h3.size _,(alloc_old W _ _ (blk_lt h4)).trans h4⟩ ⟨W.heap.size,rfl,heap_alloc_new W _,blk_lt h2⟩
  have h5:=blk_lt h4
  simp at hk
  omega
 case body=>
  rintro q pre x a' W hq hloop ⟨⟨f,hf,hok,hpre⟩,hX,hB,hBx⟩ ⟨B5,rfl,hB5,hb5⟩ hplt
  have hiL:x % l.length < l.length:=Nat.mod_lt _ h0
  have hkid:=hT.kids (x % l.length) hiL
  have hxi:pre++[x]=dnto l.length (pre++[x]).length->pre=dnto l.length pre.length/\x % l.length=l.length - (pre.length+1):=by
   intro he
   rw [List.length_append,List.length_singleton,dnto_succ] at he
   obtain ⟨e1,e2⟩:=List.append_inj' he rfl
   have e3:x=l.length - 1 - pre.length:=by simpa using e2
   exact ⟨e1,by rw [Nat.mod_eq_of_lt (by omega)];omega⟩
  generalize x % l.length=i at *
  have hend:=fun e (hs:Stf l f i (km l i) e)=>stf_end hT.whole hok hiL hs
  have hstep:=fun k e (hk:k < km l i) (hs:Stf l f i k e)=>stf_step hT.whole hE0 hok hiL hk hs
  have hst0:=stf_zero l f i
  have hcx:W.cell? ⟨w.heap.size+1,0,none⟩=some (.slice (some ⟨w.heap.size,0,none⟩) l.length l.length):=by rw [World.cell?,hX];rfl
  have hc4:W.cell? ⟨B5,4,none⟩=some (.int .i64 (km l i:Int)):=by rw [World.cell?,hB5,<-hkid];rfl
  have hci:=hf.cell hiL
  have hfi:=hf.frozen i
  have hi':(i:Int) < (l.length:Int):=by omega
  have hkm:(km l i:Int)<=2932031007317:=by have:=km_le hT.whole hiL;omega
  generalize rat l i=r at *
  generalize hfy:f i=fy at hci
  clear hfy
  gi_wp2
  gi_loopw [6,18] (fun e k wr=>∃ (kk e':Nat),kk<=km l i/\e=.int .i64 (e':Int)/\k=.int .i64 (kk:Int)/\Stf l f i kk e'/\wr=W) (fun _ k _=>km l i - (intOf k).toNat)
  case atStart=>exact ⟨0,i+1,Nat.zero_le _,by simp,rfl,hst0,rfl⟩
  case round=>
   obtain ⟨kk,e',hk,rfl,rfl,hs,hw⟩:=hrel
   rw [hw]
   clear hw
   have hkk:(kk:Int)<=2932031007317:=by omega
   by_cases hlt:kk < km l i
   ·have hlt':(kk:Int) < (km l i:Int):=by omega
    obtain ⟨he1,e2,he2,hs2⟩:=hstep kk e' hlt hs
    have he1':(e':Int) < (l.length:Int):=by omega
    have hce:=hf.cell he1
    rw [he2] at hce
    gi_wp2
    go_roundw
    case rel=>exact ⟨kk+1,e2,by omega,rfl,by simp,hs2,by first | rfl | trivial⟩
    case measure=>simp [intOf];omega
   ·have hlt':¬ (kk:Int) < (km l i:Int):=by omega
    obtain rfl:kk=km l i:=by omega
    obtain ⟨h1,h2,h3⟩:=hend e' hs
    gi_wp2
    refine ⟨(KeepsOthers.setCell _ _ _).from _,⟨by simp,fun k hk=>Below.heap_setCell W _ _ k ?ne⟩,⟨setF f i (e':Int),hf.set i (e':Int),h2,fun he j hj1 hj2=>?_⟩,(Below.heap_setCell W _ _ _ (by simp)).trans hX,hB.trans ((Below.refl w.heap.size W).setCell (p:=⟨w.heap.size,i,none⟩) (Nat.le_refl _) _),(Below.heap_setCell W _ _ _ (by simp;omega)).trans hBx⟩
    case ne=>simp at hk;show k ≠ w.heap.size;omega
    obtain ⟨e1,e2⟩:=hxi he
    rw [List.length_append,List.length_singleton] at hj1
    exact h3 (fun j h4 h5=>hpre e1 j (by omega) h5) j (by omega) hj2
 case done=>
  rintro D ys W hD rfl ⟨⟨f,hf,hok,hpre⟩,hX,hB,hBx⟩ hK
  rw [dnto_length] at hpre
  have hcx:W.cell? ⟨w.heap.size+1,0,none⟩=some (.slice (some ⟨w.heap.size,0,none⟩) l.length l.length):=by rw [World.cell?,hX];rfl
  gi_wp2
  refine ⟨by simp,.inl ⟨_,_,rfl,run_takeDeferred hK,?_⟩⟩
  have hne:w.heap.size ≠ D:=by omega
  refine ⟨.slice (some ⟨w.heap.size,0,none⟩) l.length l.length,?_,w.heap.size,rfl,Nat.le_refl _,(hf.of_block (World.putObj_heap_other hne)).ext fun j hj=>hpre (by first | rfl | trivial) j (by omega) hj,hB.trans (belowK_b (w:=w) (Nat.le_refl _) _ D _ _ (by omega) hK rfl rfl)⟩
  simp [results,Tryz.f58,go_sem]
 case stop=>
  rintro D cc pre W hD _ h _
  exact h.elim
end Go.Proofs.YtjhffaikodnalaaGreat.Nm.Ty
