import Derived.Test.YtbledbjcghaanaaGreatK18
import Derived.Deep.Onto
import Derived.Test.YtbledbjcghaanaaGreatTk
set_option maxHeartbeats 3200000
set_option maxRecDepth 100000
namespace Go.Proofs.YtbledbjcghaanaaGreat.Gr
open Go.RowKit Sp Lx
def RowI (w:World) (g n:Nat) (f:Nat->Int):Prop:=w.heap[g]?=some (.cells ((List.range n).map (fun i=>Value.int .i64 (f i))).toArray 3 (0,0))
theorem RowI.lt {w:World} {g n:Nat} {f:Nat->Int} (h:RowI w g n f):g < w.heap.size:=(Array.getElem?_eq_some_iff.1 h).1
theorem RowI.cell {w:World} {g n:Nat} {f:Nat->Int} (h:RowI w g n f) {j:Nat} (hj:j < n):w.cell? ⟨g,j,none⟩=some (.int .i64 (f j)):=by
 rw [World.cell?,h]
 simp [hj]
theorem RowI.frozen {w:World} {g n:Nat} {f:Nat->Int} (h:RowI w g n f) (j:Nat):w.frozen? ⟨g,j,none⟩=false:=by
 rw [World.frozen?,h]
 simp
theorem RowI.ext {w:World} {g n:Nat} {f f':Nat->Int} (h:RowI w g n f) (e:∀ i,i < n->f i=f' i):RowI w g n f':=by
 have:(List.range n).map (fun i=>Value.int .i64 (f i))=(List.range n).map (fun i=>Value.int .i64 (f' i)):=by
  refine List.map_congr_left fun i hi=>?_
  rw [e i (List.mem_range.1 hi)]
 unfold RowI
 rw [<-this]
 exact h
theorem RowI.of_block {w w':World} {g n:Nat} {f:Nat->Int} (h:RowI w g n f) (e:w'.heap[g]?=w.heap[g]?):RowI w' g n f:=e.trans h
theorem RowI.below {w w':World} {g n:Nat} {f:Nat->Int} (h:RowI w g n f) {b:Nat} (hb:Below b w w') (hg:g < b):RowI w' g n f:=h.of_block (hb.block g hg)
theorem RowI.other {w:World} {g n:Nat} {f:Nat->Int} (h:RowI w g n f) {a:Addr} (ha:g ≠ a.block) (v:Value):RowI (w.setCell a v) g n f:=h.of_block (Below.heap_setCell w a v g ha)
theorem RowI.set {w:World} {g n:Nat} {f:Nat->Int} (h:RowI w g n f) (k:Nat) (x:Int):RowI (w.setCell ⟨g,k,none⟩ (.int .i64 x)) g n (fun i=>if i=k then x else f i):=by
 have h1:(w.setCell ⟨g,k,none⟩ (.int .i64 x)).heap[g]?=some (.cells (((List.range n).map (fun i=>Value.int .i64 (f i))).toArray.setIfInBounds k (.int .i64 x)) 3 (0,0)):=heap_setCell_same w g k _ _ _ h
 have h2:((List.range n).map (fun i=>Value.int .i64 (f i))).toArray.setIfInBounds k (.int .i64 x)=((List.range n).map (fun i=>Value.int .i64 (if i=k then x else f i))).toArray:=by
  apply Array.ext'
  rw [Array.toList_setIfInBounds]
  apply List.ext_getElem?
  intro i
  by_cases hi:i < n
  ·by_cases hk:i=k
   ·subst hk;simp [hi]
   ·rw [List.getElem?_set_ne (fun e=>hk e.symm)]
    simp [hi,hk]
  ·rw [List.getElem?_eq_none (by simp;omega),List.getElem?_eq_none (by simp;omega)]
 unfold RowI
 rw [h1,h2]
theorem mk_ints (n:Nat) (hn:n<=2932031007317):∃ M:Array Value,(∀ u:World,(Instr.makeSlice 25 (.int .i64 (n:Int)) (.int .i64 (n:Int))).run Tryz.prog u=.ok (.slice (some ⟨u.heap.size,0,none⟩) n n) (u.alloc (.cells M 3))) /\
  ∀ u:World,RowI (u.alloc (.cells M 3)) u.heap.size n (fun _=>0):=by
 obtain ⟨i0,hi,hz0,hz1,hz2⟩:=info_parts info3
 refine ⟨madeCells (Value.int .i64 0).cells ((n:Int).toNat * i0.size),fun u=>?_,fun u=>?_⟩
 ·have h:=run_make (P:=Tryz.prog) u 25 3 i0 (.int .i64 0) Tryz.underlying25 hi hz0 .i64 .i64 (n:Int) (n:Int) (by omega) (Int.le_refl _) (by rw [hz2];omega) (by omega)
  have e:(n:Int).toNat=n:=by omega
  rw [e] at h ⊢
  exact h
 ·have e:madeCells (Value.int .i64 0).cells ((n:Int).toNat * i0.size)=((List.range n).map (fun _=>Value.int .i64 0)).toArray:=by
   apply Array.ext'
   have e1:(Value.int .i64 0).cells=#[.int .i64 0]:=rfl
   rw [e1,toList_madeCells_one,hz1]
   apply List.ext_getElem?
   intro j
   have e2:(n:Int).toNat * 1=n:=by omega
   rw [e2]
   by_cases hj:j < n
   ·simp [hj]
   ·simp [hj]
  rw [e]
  exact heap_alloc_new u _
end Go.Proofs.YtbledbjcghaanaaGreat.Gr
namespace Go.Proofs.YtbledbjcghaanaaGreat.Nm
open Gr
theorem kidMono {l:List Rz} (h:Whole l) {i:Nat} (hi:i < l.length):∀ d k,k+d<=km l i->kidp l i k<=kidp l i (k+d):=by
 intro d
 induction d with
 | zero=>intro k _;exact Nat.le_refl _
 | succ d ih=>
  intro k hk
  have h1:=ih k (by omega)
  obtain ⟨h2,h3,_⟩:=kid_at h hi (k:=k+d) (by omega)
  have h4:=(end_kid h h2).2.1
  rw [show k+(d+1)=k+d+1 by omega,h3]
  omega
theorem kidIn {l:List Rz} (h:Whole l) {i k:Nat} (hi:i < l.length) (hk:k < km l i):i < kidp l i k/\kidp l i k < l.length/\endp l (kidp l i k)<=endp l i/\kidp l i (k+1)=endp l (kidp l i k):=by
 obtain ⟨h1,h2,h3⟩:=kid_at h hi hk
 refine ⟨h3,h1,?_,h2⟩
 rw [(end_kid h hi).1,<-h2]
 have:=kidMono h hi (km l i - (k+1)) (k+1) (by omega)
 rwa [show k+1+(km l i - (k+1))=km l i by omega] at this
end Go.Proofs.YtbledbjcghaanaaGreat.Nm
namespace Go.Proofs.YtbledbjcghaanaaGreat.Nm.Ty
open Go.RowKit Go.Maps Sp Lx Gr Nm
def nc (n:Nat):Value:=.int .i64 n
def kl (l:List Rz) (i k:Nat):List Nat:=(List.range k).map (kidp l i)
theorem kl_succ (l:List Rz) (i k:Nat):kl l i (k+1)=kl l i k++[kidp l i k]:=by simp [kl,List.range_succ]
def fL (n:Nat) (f:Nat->Value):List Value:=(List.range n).map f
theorem fL_at {n:Nat} {f:Nat->Value} {k:Nat} (h:k < n):(fL n f)[k]?=some (f k):=by simp [fL,h]
def eV (l:List Rz) (i:Nat):Value:=.int .i64 (endp l i:Nat)
structure IsRg (w:World) (l:List Rz) (qv:List Value) (ao qo po eo:Option Addr):Prop where
 r:IsRz w ao l
 q:IsVals w qo qv
 p:IsVals w po (fL l.length (fun i=>(rP l i).V))
 e:IsVals w eo (fL l.length (eV l))
theorem IsRg.below {w w':World} {l:List Rz} {qv:List Value} {ao qo po eo:Option Addr} (h:IsRg w l qv ao qo po eo) (hb:Below w.heap.size w w'):IsRg w' l qv ao qo po eo:=⟨h.r.below hb,h.q.below hb,h.p.below hb,h.e.below hb⟩
theorem IsRg.part {w:World} {l:List Rz} {qv:List Value} {ao qo po eo:Option Addr} (h:IsRg w l qv ao qo po eo) {i:Nat} (hi:i < l.length):∃ g o,po=some ⟨g,o,none⟩/\g < w.heap.size/\w.cell? ⟨g,o+i,none⟩=some (rP l i).V:=h.p i _ (fL_at hi)
theorem IsRg.ends {w:World} {l:List Rz} {qv:List Value} {ao qo po eo:Option Addr} (h:IsRg w l qv ao qo po eo) {i:Nat} (hi:i < l.length):∃ g o,eo=some ⟨g,o,none⟩/\g < w.heap.size/\w.cell? ⟨g,o+i,none⟩=some (.int .i64 (endp l i:Nat)):=h.e i _ (fL_at hi)
abbrev rgC (l:List Rz) (nq:Nat) (ao qo po eo:Option Addr) (ac qc pc ec:Nat):Array Value:=#[.slice ao l.length ac,.slice qo nq qc,.slice po l.length pc,.slice eo l.length ec]
theorem cells4 {wq:World} {B:Nat} {v0 v1 v2 v3:Value} {T:TypeId} (h:wq.heap[B]?=some (.cells #[v0,v1,v2,v3] T (0,0))):wq.cell? ⟨B,0,none⟩=some v0/\wq.cell? ⟨B,1,none⟩=some v1/\wq.cell? ⟨B,2,none⟩=some v2/\wq.cell? ⟨B,3,none⟩=some v3:=by
 refine ⟨?_,?_,?_,?_⟩
 all_goals
  simp only [World.cell?,h]
  rfl
theorem kids_any {l:List Rz} {qv:List Value} {nq:Nat} {ao qo po eo:Option Addr} {ac qc pc ec:Nat} (i:Nat) {w:World} (h:IsRg w l qv ao qo po eo) (hn:l.length<=2932031007317) (hT:TreeZ l) (hi:i < l.length):
  Calls Tryz.prog 114 #[.agg (rgC l nq ao qo po eo ac qc pc ec),.int .i64 i] w fun e w'=>∃ v,e=.returned v/\w'.ownsRow w.heap.size 3 1 v (km l i) ((kl l i (km l i)).map nc)/\Below w.heap.size w w':=by
 obtain ⟨j0,hj,hj0,hj1,hj2⟩:=info_parts info3
 have HI:Hid (IsRg w l qv ao qo po eo):=h
 have HT:Hid (TreeZ l):=hT
 have hln:(l.length:Int)<=2932031007317:=by omega
 have hi1:(i:Int) < (l.length:Int):=by omega
 have HKm:Hid (km l i<=2932031007317):=by have:=km_le hT.whole hi;show _<=_;omega
 have HEe:Hid (endp l i<=l.length):=(end_kid hT.whole hi).2.2
 have HB0:Hid (Below w.heap.size w (w.alloc (.cells (rgC l nq ao qo po eo ac qc pc ec) 65))):=bAl w _
 dsimp only [rgC] at *
 clear h hn hT
 go_enter Tryz.func114,Tryz.ntmps114
 go_wp2_with fail
 have HX:Hid ((w.alloc (.cells #[.slice ao l.length ac,.slice qo nq qc,.slice po l.length pc,.slice eo l.length ec] 65)).heap[w.heap.size]?=some (.cells #[.slice ao l.length ac,.slice qo nq qc,.slice po l.length pc,.slice eo l.length ec] 65 (0,0))/\w.heap.size+1=(w.alloc (.cells #[.slice ao l.length ac,.slice qo nq qc,.slice po l.length pc,.slice eo l.length ec] 65)).heap.size):=⟨heap_alloc_new w _,by simp⟩
 generalize (w.alloc (.cells #[.slice ao l.length ac,.slice qo nq qc,.slice po l.length pc,.slice eo l.length ec] 65))=w1 at *
 go_loopg [5,6] (km l i) (fun gq x nx wr=>∃ (k:Nat) (v:Value),k<=km l i/\gq=km l i - k/\v=x/\nx=.int .i64 (kidp l i k:Int)/\wr.ownsRow w1.heap.size 3 1 v k ((kl l i k).map nc)/\Below w1.heap.size w1 wr)
 case atStart=>exact ⟨0,_,Nat.zero_le _,rfl,rfl,by rw [kid_zero];go_num,World.ownsRow_nil _ _ _ _,Below.refl _ _⟩
 case round=>
  obtain ⟨k,v,hk,hgk,rfl,rfl,hO,hB⟩:=hrel
  have HG:Hid (gk=km l i - k):=hgk
  have HO:Hid (wr.ownsRow w1.heap.size 3 1 v k ((kl l i k).map nc)):=hO
  have HBr:Hid (Below w1.heap.size w1 wr):=hB
  have HKl:Hid (k<=2932031007317):=by have:=HKm.out;show _<=_;omega
  have HKp:Hid (kidp l i k<=l.length):=kid_le HT.out.whole hi hk
  have hkp:(kidp l i k:Int)<=2932031007317:=by have:=HKp.out;omega
  have hbx:=(HBr.out.block _ (by have:=HX.out.2;omega)).trans HX.out.1
  obtain ⟨c0,c1,c2,c3⟩:=cells4 hbx
  have HIr:Hid (IsRg wr l qv ao qo po eo):=HI.out.below (HB0.out.trans (HBr.out.mono HB0.out.size))
  obtain ⟨ge,oe,rfl,hge,ce⟩:=HIr.out.ends hi
  have hee:(endp l i:Int)<=2932031007317:=by have:=HEe.out;omega
  clear hgk hO hB hbx
  by_cases hlk:k < km l i
  ·obtain ⟨h1,h2,h3⟩:=kid_at HT.out.whole hi hlk
   have h4:kidp l i k < endp l i:=by
    have h5:=(kidIn HT.out.whole hi hlk).2.2.1
    have h6:=(end_kid HT.out.whole h1).2.1
    omega
   have h4':(kidp l i k:Int) < (endp l i:Int):=by omega
   have h1':(kidp l i k:Int) < (l.length:Int):=by omega
   have HNx:Hid (kidp l i (k+1)=endp l (kidp l i k)):=h2
   obtain ⟨ge2,oe2,hge0,hge2,ce2⟩:=HIr.out.ends h1
   obtain ⟨rfl,rfl⟩:ge=ge2/\oe=oe2:=by cases hge0;exact ⟨rfl,rfl⟩
   have hb2:Below wr.heap.size wr (wr.alloc (.cells #[.int .i64 (kidp l i k:Int)] 3)):=bAl wr _
   have HO2:Hid ((wr.alloc (.cells #[.int .i64 (kidp l i k:Int)] 3)).ownsRow w1.heap.size 3 1 v k ((kl l i k).map nc)):=own_below HO.out hb2
   obtain ⟨bo,bc,rfl⟩:=own_form HO.out
   have HEn:Hid (endp l (kidp l i k)<=l.length):=(end_kid HT.out.whole h1).2.2
   have HLk:Hid (k < km l i):=hlk
   clear h1 h2 h3 h4 hlk hk hb2
   go_wp2_with (at_builtin;refine append_gone _ rfl _ _ 25 rfl w1.heap.size 3 j0 (.int .i64 0) 1 8 Tryz.underlying25 hj hj0 hj1 hj2 rfl (by decide) (.slice bo k bc) k ((kl l i k).map nc) rfl HO2.out ⟨wr.heap.size,0,none⟩ 1 1 [nc (kidp l i k)] rfl rfl (cell_one wr _ _) (by intro u hu;simp only [nc,List.mem_cons,List.not_mem_nil,or_false] at hu;subst hu;rfl) (by have:=HKl.out;unfold maxLen;omega) (by have:=HKl.out;omega) (by have h1:=HBr.out.size;rw [World.size_alloc];omega) (by decide) ?_)
   intro v4 w4 ho hG
   have HO4:Hid (w4.ownsRow w1.heap.size 3 1 v4 (k+1) ((kl l i (k+1)).map nc)):=by
    show w4.ownsRow w1.heap.size 3 1 v4 (k+1) ((kl l i (k+1)).map nc)
    rw [kl_succ]
    simpa using ho
   have hb4:Below w1.heap.size (wr.alloc (.cells #[.int .i64 (kidp l i k:Int)] 3)) w4:=(Went.gone hG).low (fun j hj=>(World.ownsRow.lt HO2.out j hj).1) (by have h1:=HBr.out.size;rw [World.size_alloc];omega)
   have HB4:Hid (Below w1.heap.size w1 w4):=(HBr.out.alloc HBr.out.size _).trans hb4
   obtain ⟨bo4,bc4,rfl⟩:=own_form ho
   clear ho hG hb4 c0 c1 c2 c3 ce ce2
   have hbx:=(HB4.out.block _ (by have:=HX.out.2;omega)).trans HX.out.1
   obtain ⟨c0,c1,c2,c3⟩:=cells4 hbx
   obtain ⟨ge3,oe3,hge1,_,ce⟩:=(HI.out.below (HB0.out.trans (HB4.out.mono HB0.out.size))).ends (i:=kidp l i k) (by omega)
   obtain ⟨rfl,rfl⟩:ge=ge3/\oe=oe3:=by cases hge1;exact ⟨rfl,rfl⟩
   clear hbx hge1
   go_wp2_with fail
   go_roundg (km l i - (k+1))
   case measure=>have h1:=HG.out;have:=HLk.out;omega
   case rel=>exact ⟨k+1,_,by have:=HLk.out;omega,rfl,rfl,by rw [HNx.out],HO4.out,HB4.out⟩
  ·have hke:k=km l i:=by omega
   have hke2:(kidp l i k:Int)=(endp l i:Int):=by rw [hke,(end_kid HT.out.whole hi).1]
   have hlk':¬ ((kidp l i k:Int) < (endp l i:Int)):=by omega
   have HF:Hid (wr.ownsRow w1.heap.size 3 1 v (km l i) ((kl l i (km l i)).map nc)):=by rw [hke] at HO;exact HO
   clear hke hlk hk hke2
   go_wp2_with fail
   go_ret
   exact ⟨_,rfl,own_base HF.out HB0.out.size,HB0.out.trans (HBr.out.mono HB0.out.size)⟩
end Go.Proofs.YtbledbjcghaanaaGreat.Nm.Ty
namespace Go.Proofs.YtbledbjcghaanaaGreat.Nm.Ty
open Gr
def Okf (l:List Rz) (f:Nat->Int):Prop:=∀ i,i < l.length->f i=0\/(f i=(endp l i:Int)/\∀ j,i < j->j < endp l i->f j=(endp l j:Int))
theorem in_kid {l:List Rz} (h:Whole l) {i j:Nat} (hi:i < l.length) (h1:i < j) (h2:j < endp l i):∃ m,m < km l i/\kidp l i m<=j/\j < endp l (kidp l i m):=by
 have key:∀ k,k<=km l i->j < kidp l i k->∃ m,m < km l i/\kidp l i m<=j/\j < endp l (kidp l i m):=by
  intro k
  induction k with
  | zero=>intro _ h3;rw [kid_zero] at h3;omega
  | succ k ih=>
   intro hk h3
   by_cases h4:j < kidp l i k
   ·exact ih (by omega) h4
   ·obtain ⟨_,h5,_⟩:=kid_at h hi (k:=k) (by omega)
    exact ⟨k,by omega,by omega,by rw [<-h5];exact h3⟩
 refine key (km l i) (Nat.le_refl _) ?_
 rw [<-(end_kid h hi).1]
 exact h2
def Stf (l:List Rz) (f:Nat->Int) (i k e:Nat):Prop:=(e=kidp l i k/\∀ m,m < k->f (kidp l i m)=(endp l (kidp l i m):Int))\/(e=0/\f 0=0/\∃ m,m < k/\f (kidp l i m)=0)
theorem stf_zero (l:List Rz) (f:Nat->Int) (i:Nat):Stf l f i 0 (i+1):=Or.inl ⟨(kid_zero l i).symm,fun m hm=>by omega⟩
theorem stf_step {l:List Rz} {f:Nat->Int} (hT:Whole l) (hE:endp l 0=l.length) (hF:Okf l f) {i k e:Nat} (hi:i < l.length) (hk:k < km l i) (h:Stf l f i k e):e < l.length/\∃ e':Nat,f e=(e':Int)/\Stf l f i (k+1) e':=by
 obtain ⟨h1,h2,h3⟩:=kid_at hT hi hk
 rcases h with ⟨rfl,hr⟩ | ⟨rfl,hz,m,hm,hmz⟩
 ·refine ⟨h1,?_⟩
  rcases hF _ h1 with h0 | ⟨he,_⟩
  ·refine ⟨0,h0,Or.inr ⟨rfl,?_,k,by omega,h0⟩⟩
   rcases hF 0 (by omega) with h4 | ⟨_,h5⟩
   ·exact h4
   ·have:=h5 (kidp l i k) (by omega) (by rw [hE];exact h1)
    have h6:=(end_kid hT h1).2.1
    omega
  ·refine ⟨endp l (kidp l i k),he,Or.inl ⟨h2.symm,fun m hm=>?_⟩⟩
   by_cases e:m=k
   ·subst e;exact he
   ·exact hr m (by omega)
 ·exact ⟨by omega,0,by simpa using hz,Or.inr ⟨rfl,hz,m,by omega,hmz⟩⟩
theorem stf_end {l:List Rz} {f:Nat->Int} (hT:Whole l) (hF:Okf l f) {i e:Nat} (hi:i < l.length) (h:Stf l f i (km l i) e):e<=l.length/\Okf l (setF f i (e:Int))/\((∀ j,i < j->j < l.length->f j=(endp l j:Int))->∀ j,i<=j->j < l.length->setF f i (e:Int) j=(endp l j:Int)):=by
 obtain ⟨he1,he2,he3⟩:=end_kid hT hi
 have hkid:∀ m,m < km l i->i < kidp l i m/\kidp l i m < endp l i/\kidp l i m < endp l (kidp l i m):=fun m hm=>by
  obtain ⟨a,b,c,_⟩:=kidIn hT hi hm
  have:=(end_kid hT b).2.1
  exact ⟨a,by omega,this⟩
 have hz:(∃ m,m < km l i/\f (kidp l i m)=0)->∀ i',i' < l.length->i'<=i->f i'=(endp l i':Int)->(∀ j,i' < j->j < endp l i'->f j=(endp l j:Int))->i < endp l i'->endp l i<=endp l i'->False:=by
  rintro ⟨m,hm,h0⟩ i' hi' hle _ hcl h1 h2
  obtain ⟨a,b,c⟩:=hkid m hm
  have:=hcl (kidp l i m) (by omega) (by omega)
  omega
 refine ⟨?_,?_,?_⟩
 ·rcases h with ⟨rfl,_⟩ | ⟨rfl,_⟩
  ·rw [<-he1];exact he3
  ·omega
 ·intro i' hi'
  by_cases e1:i'=i
  ·subst e1
   rcases h with ⟨rfl,hr⟩ | ⟨rfl,_⟩
   ·refine Or.inr ⟨by simp [setF,he1],fun j h1 h2=>?_⟩
    obtain ⟨m,hm,h3,h4⟩:=in_kid hT hi h1 h2
    have e2:setF f i' ((kidp l i' (km l i'):Nat):Int) j=f j:=if_neg (by omega)
    rw [e2]
    by_cases h5:j=kidp l i' m
    ·rw [h5];exact hr m hm
    ·have hk:=hr m hm
     rcases hF (kidp l i' m) (by have:=(hkid m hm).2.1;omega) with h6 | ⟨_,h7⟩
     ·have:=(hkid m hm).2.2;omega
     ·exact h7 j (by omega) h4
   ·exact Or.inl (by simp [setF])
  ·have e2:setF f i (e:Int) i'=f i':=if_neg e1
   rw [e2]
   rcases hF i' hi' with h0 | ⟨h0,hcl⟩
   ·exact Or.inl h0
   ·refine Or.inr ⟨h0,fun j h1 h2=>?_⟩
    by_cases e3:j=i
    ·subst e3
     have hfi:=hcl j h1 h2
     have:e=endp l j:=by
      rcases h with ⟨rfl,_⟩ | ⟨rfl,_,m,hm,h0m⟩
      ·exact he1.symm
      ·exfalso
       rcases hF j hi with h6 | ⟨_,h7⟩
       ·omega
       ·obtain ⟨a,b,c⟩:=hkid m hm
        have:=h7 (kidp l j m) a b
        omega
     rw [this]
     exact if_pos rfl
    ·rw [show setF f i (e:Int) j=f j from if_neg e3]
     exact hcl j h1 h2
 ·intro hall j h1 h2
  by_cases e3:j=i
  ·subst e3
   have:e=endp l j:=by
    rcases h with ⟨rfl,_⟩ | ⟨rfl,_,m,hm,h0m⟩
    ·exact he1.symm
    ·exfalso
     obtain ⟨a,b,c⟩:=hkid m hm
     have:=hall (kidp l j m) a (by omega)
     omega
   rw [this]
   exact if_pos rfl
  ·rw [show setF f i (e:Int) j=f j from if_neg e3]
   exact hall j (by omega) h2
end Go.Proofs.YtbledbjcghaanaaGreat.Nm.Ty
namespace Go.Proofs.YtbledbjcghaanaaGreat.Nm.Ty
open Go.RowKit Go.Maps Sp Lx Gr Nm
theorem kid_in {l:List Rz} {i a:Nat} : ∀ d,i < a->a < kidp l i d->∃ k,k < d/\kidp l i k<=a/\a < kidp l i (k+1):=by
 intro d
 induction d with
 | zero=>intro h1 hd;rw [kid_zero] at hd;omega
 | succ d ihd=>
  intro h1 ha
  by_cases h3:a < kidp l i d
  ·obtain ⟨k,k1,k2,k3⟩:=ihd h1 h3
   exact ⟨k,by omega,k2,k3⟩
  ·exact ⟨d,by omega,by omega,ha⟩
theorem end_sub {l:List Rz} (h:Whole l):∀ (f:Nat) {i a:Nat},i < l.length->endp l i - i<=f->i<=a->a < endp l i->endp l a<=endp l i:=by
 intro f
 induction f with
 | zero=>intro i a hi hf _ _;have:=(end_kid h hi).2.1;omega
 | succ f ih=>
  intro i a hi hf h1 h2
  by_cases e:a=i
  ·subst e;exact Nat.le_refl _
  ·obtain ⟨k,k1,k2,k3⟩:=kid_in (km l i) (show i < a by omega) (by rw [<-(end_kid h hi).1];exact h2)
   obtain ⟨q1,q2,q3,q4⟩:=kidIn h hi k1
   have q5:=(end_kid h q2).2.1
   have:=ih q2 (by omega) k2 (by rw [<-q4];exact k3)
   omega
theorem kid_mono {l:List Rz} (h:Whole l) {i:Nat} (hi:i < l.length) {k:Nat} : ∀ d,k+d<=km l i->kidp l i k+d<=kidp l i (k+d):=by
 intro d
 induction d with
 | zero=>intro _;exact Nat.le_refl _
 | succ d ih=>
  intro hd
  have h1:=ih (by omega)
  obtain ⟨q1,q2,q3,q4⟩:=kidIn h hi (show k+d < km l i by omega)
  have q5:=(end_kid h q2).2.1
  rw [show k+(d+1)=k+d+1 by omega,q4]
  omega
theorem end_kid_le {l:List Rz} (h:Whole l) {i j k:Nat} (hi:i < l.length) (hk:k<=km l i) (h1:i < j) (h2:j < kidp l i k):endp l j<=kidp l i k:=by
 obtain ⟨m,m1,m2,m3⟩:=kid_in k h1 h2
 obtain ⟨q1,q2,q3,q4⟩:=kidIn h hi (show m < km l i by omega)
 have h4:=end_sub h _ q2 (Nat.le_refl _) m2 (by rw [<-q4];exact m3)
 have h5:=kid_mono h hi (k:=m+1) (k - (m+1)) (by omega)
 rw [show m+1+(k - (m+1))=k by omega] at h5
 omega
theorem con_ex {l:List Rz} {x:Nat} : ∀ m,x < conN l m ↔ ∃ j,j < m/\x < tillZ l j:=by
 intro m
 induction m with
 | zero=>unfold conN;exact ⟨fun h=>by omega,fun ⟨j,h,_⟩=>by omega⟩
 | succ m ih=>
  unfold conN
  constructor
  ·intro h
   by_cases h1:x < conN l m
   ·obtain ⟨j,h2,h3⟩:=ih.1 h1
    exact ⟨j,by omega,h3⟩
   ·exact ⟨m,by omega,by omega⟩
  ·rintro ⟨j,h1,h2⟩
   by_cases e:j=m
   ·subst e;omega
   ·have:=ih.2 ⟨j,by omega,h2⟩
    omega
def fixC (l:List Rz) (i k:Nat):Bool:=decide ((rat l i).kind=4) || decide ((rat l i).kind=5) || decide ((rat l i).kind=6) || (decide ((rat l i).kind=13) && decide (k=0))
theorem fixC_iff {l:List Rz} {i k:Nat} : fixC l i k=true ↔ (((rat l i).kind=4\/(rat l i).kind=5\/(rat l i).kind=6)\/((rat l i).kind=13/\k=0)):=by
 unfold fixC
 generalize (rat l i).kind=x
 simp only [Bool.or_eq_true,Bool.and_eq_true,decide_eq_true_eq]
 omega
theorem till_le {l:List Rz} (h:Whole l) {j:Nat} (hj:j < l.length) (h13:(rat l j).kind=13->0 < km l j):tillZ l j<=endp l j:=by
 unfold tillZ
 simp only
 split
 ·exact Nat.le_refl _
 ·split
  ·rename_i h3
   obtain ⟨q1,q2,q3,q4⟩:=kidIn h hj (h13 h3)
   rw [kid_zero] at q3
   exact q3
  ·omega
theorem con_kid {l:List Rz} (h:Whole l) (h13:∀ j,j < l.length->(rat l j).kind=13->0 < km l j) {i k:Nat} (hi:i < l.length) (hk:k < km l i):(kidp l i k < conN l (kidp l i k)) ↔ (i < conN l i\/fixC l i k=true):=by
 obtain ⟨q1,q2,q3,q4⟩:=kidIn h hi hk
 have q5:=(end_kid h q2).2.1
 rw [con_ex,con_ex]
 constructor
 ·rintro ⟨j,h1,h2⟩
  rcases Nat.lt_trichotomy j i with hj | hj | hj
  ·exact Or.inl ⟨j,hj,by omega⟩
  ·subst hj
   refine Or.inr ?_
   unfold tillZ at h2
   simp only at h2
   rw [fixC_iff]
   split at h2
   ·rename_i h3
    exact Or.inl h3
   ·split at h2
    ·rename_i h3
     have hk0:k=0:=by
      by_cases e:k=0
      ·exact e
      ·have h5:=kid_mono h hi (k:=1) (k - 1) (by omega)
       rw [show 1+(k - 1)=k by omega] at h5
       obtain ⟨_,_,_,p4⟩:=kidIn h hi (show 0 < km l j by omega)
       rw [kid_zero] at p4
       rw [show (0:Nat)+1=1 from rfl] at p4
       omega
     exact Or.inr ⟨h3,hk0⟩
    ·omega
  ·have hjl:j < l.length:=by omega
   have h4:=end_kid_le h hi (Nat.le_of_lt hk) hj h1
   have h5:=till_le h hjl (h13 j hjl)
   omega
 ·rintro (⟨j,h1,h2⟩ | h1)
  ·have hjl:j < l.length:=by omega
   refine ⟨j,by omega,?_⟩
   have hin:∃ a,a < l.length/\a<=i/\i < endp l a/\endp l a=tillZ l j:=by
    unfold tillZ at h2 ⊢
    simp only at h2 ⊢
    split at h2
    ·rename_i h3
     rw [if_pos h3]
     exact ⟨j,hjl,by omega,h2,rfl⟩
    ·rename_i h3
     split at h2
     ·rename_i h4
      rw [if_neg h3,if_pos h4]
      exact ⟨j+1,by omega,by omega,h2,rfl⟩
     ·omega
   obtain ⟨a,a1,a2,a3,a4⟩:=hin
   have:=end_sub h _ a1 (Nat.le_refl _) a2 a3
   omega
  ·refine ⟨i,q1,?_⟩
   rw [fixC_iff] at h1
   unfold tillZ
   simp only
   by_cases h3:(rat l i).kind=4\/(rat l i).kind=5\/(rat l i).kind=6
   ·rw [if_pos h3]
    omega
   ·rw [if_neg h3]
    have h4:(rat l i).kind=13/\k=0:=h1.resolve_left h3
    rw [if_pos h4.1]
    have e:=h4.2
    subst e
    rw [kid_zero] at q4 ⊢
    rw [kid_zero] at q5
    exact q5
def setB (f:Nat->Bool) (j:Nat) (x:Bool):Nat->Bool:=fun i=>if i=j then x else f i
def fixRow (l:List Rz) (i:Nat) (f:Nat->Bool):Nat->Nat->Bool
 | 0=>f
 | k+1=>setB (fixRow l i f k) (kidp l i k) (f i || fixC l i k)
def fixN (l:List Rz):Nat->Nat->Bool
 | 0=>fun _=>false
 | n+1=>fixRow l n (fixN l n) (km l n)
theorem fixRow_low {l:List Rz} (h:Whole l) {i j:Nat} (hi:i < l.length) (hj:j<=i) (f:Nat->Bool):∀ k,k<=km l i->fixRow l i f k j=f j
 | 0,_=>rfl
 | k+1,hk=>by
  have h1:=(kid_at h hi (show k < km l i by omega)).2.2
  unfold fixRow setB
  rw [if_neg (by omega)]
  exact fixRow_low h hi hj f k (by omega)
theorem fixN_low {l:List Rz} (h:Whole l) {j:Nat} : ∀ n,j<=n->n<=l.length->fixN l n j=fixN l j j
 | 0,h1,_=>by rw [show j=0 by omega]
 | n+1,h1,h2=>by
  by_cases e:j=n+1
  ·rw [e]
  ·show fixRow l n (fixN l n) (km l n) j=_
   rw [fixRow_low h (by omega) (by omega) _ _ (Nat.le_refl _)]
   exact fixN_low h n (by omega) (by omega)
theorem kid_one {l:List Rz} (h:Whole l) {i k i' k':Nat} (hi:i < l.length) (hk:k < km l i) (hi':i' < l.length) (hk':k' < km l i') (e:kidp l i k=kidp l i' k'):i=i'/\k=k':=by
 have h1:=up_kid h hi hk
 have h2:=up_kid h hi' hk'
 rw [e] at h1
 exact ⟨h1.1.symm.trans h2.1,h1.2.symm.trans h2.2⟩
theorem fixRow_own {l:List Rz} (h:Whole l) {i k:Nat} (hi:i < l.length) (f:Nat->Bool):∀ m,m<=km l i->k < m->fixRow l i f m (kidp l i k)=(f i || fixC l i k)
 | 0,_,hk=>by omega
 | m+1,hm,hk=>by
  unfold fixRow setB
  by_cases e:kidp l i k=kidp l i m
  ·rw [if_pos e,(kid_one h hi (by omega) hi (by omega) e).2]
  ·rw [if_neg e]
   exact fixRow_own h hi f m (by omega) (by
    rcases Nat.lt_or_ge k m with h1 | h1
    ·exact h1
    ·exact absurd (by rw [show k=m by omega]) e)
theorem fixRow_other {l:List Rz} (h:Whole l) {i k i':Nat} (hi:i < l.length) (hk:k < km l i) (hi':i' < l.length) (hne:i' ≠ i) (f:Nat->Bool):∀ m,m<=km l i'->fixRow l i' f m (kidp l i k)=f (kidp l i k)
 | 0,_=>rfl
 | m+1,hm=>by
  unfold fixRow setB
  rw [if_neg (fun e=>hne (kid_one h hi hk hi' (by omega) e).1.symm)]
  exact fixRow_other h hi hk hi' hne f m (by omega)
theorem fix_kid {l:List Rz} (h:Whole l) {i k:Nat} (hi:i < l.length) (hk:k < km l i):∀ n,i < n->n<=l.length->fixN l n (kidp l i k)=(fixN l i i || fixC l i k)
 | 0,h0,_=>by omega
 | n+1,h0,hn=>by
  show fixRow l n (fixN l n) (km l n) _=_
  by_cases e:n=i
  ·subst e
   exact fixRow_own h hi _ _ (Nat.le_refl _) hk
  ·rw [fixRow_other h hi hk (by omega) e _ _ (Nat.le_refl _)]
   exact fix_kid h hi hk n (by omega) (by omega)
theorem fix_con {l:List Rz} (h:Whole l) (h13:∀ j,j < l.length->(rat l j).kind=13->0 < km l j):∀ (f:Nat) {i:Nat},i<=f->i < l.length->fixN l l.length i=decide (i < conN l i):=by
 intro f
 induction f with
 | zero=>
  intro i h1 h2
  obtain rfl:i=0:=by omega
  rw [fixN_low h l.length (Nat.zero_le _) (Nat.le_refl _)]
  rfl
 | succ f ih=>
  intro i h1 h2
  by_cases e:i=0
  ·exact ih (by omega) h2
  ·obtain ⟨u3,u2,u1,_⟩:=up_at h (show 0 < i by omega) h2
   have hpi:up l i < l.length:=by omega
   have h3:=ih (i:=up l i) (by omega) hpi
   have h4:=fix_kid h hpi u2 l.length hpi (Nat.le_refl _)
   rw [u3] at h4
   rw [h4,<-fixN_low h l.length (Nat.le_of_lt hpi) (Nat.le_refl _),h3]
   have h5:=con_kid h h13 hpi u2
   rw [u3] at h5
   rw [Bool.eq_iff_iff]
   simp only [Bool.or_eq_true,decide_eq_true_eq]
   exact h5.symm
end Go.Proofs.YtbledbjcghaanaaGreat.Nm.Ty
