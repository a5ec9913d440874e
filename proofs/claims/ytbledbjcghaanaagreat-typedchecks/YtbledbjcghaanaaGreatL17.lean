import Derived.Test.YtbledbjcghaanaaGreatTl
import Derived.Test.YtbledbjcghaanaaGreatL16
import Derived.Deep.Onto
import Derived.RangeFuncNested
import Derived.RangeFuncBound
import Derived.RangeFuncCalls
import Derived.RangeFuncBox
import Derived.RangeFuncLeaves
import Derived.Shelf.Abstract
import Derived.Shelf.RegionOpen
import Derived.OwnWalkIn
import Derived.TacticsInMore
import Derived.LoopNIn
import Derived.LoopIn
set_option maxHeartbeats 6400000
set_option maxRecDepth 100000
namespace Go.Proofs.YtbledbjcghaanaaGreat.Gr
open Go.RowKit Sp Lx
def RowI (w:World) (g n:Nat) (f:Nat->Int):Prop:=w.heap[g]?=some (.cells ((List.range n).map (fun i=>Value.int .i64 (f i))).toArray 3 (0,0))
theorem RowI.lt {w:World} {g n:Nat} {f:Nat->Int} (h:RowI w g n f):g < w.heap.size:=(Array.getElem?_eq_some_iff.1 h).1
theorem RowI.cell {w:World} {g n:Nat} {f:Nat->Int} (h:RowI w g n f) {j:Nat} (hj:j < n):w.cell? ⟨g,j,none⟩=some (I (f j)):=by
 rw [World.cell?,h];simp [hj]
theorem RowI.frozen {w:World} {g n:Nat} {f:Nat->Int} (h:RowI w g n f) (j:Nat):w.frozen? ⟨g,j,none⟩=false:=by
 rw [World.frozen?,h];simp
theorem RowI.ext {w:World} {g n:Nat} {f f':Nat->Int} (h:RowI w g n f) (e:∀ i,i < n->f i=f' i):RowI w g n f':=by
 have:(List.range n).map (fun i=>Value.int .i64 (f i))=(List.range n).map (fun i=>Value.int .i64 (f' i)):=by
  refine List.map_congr_left fun i hi=>?_;rw [e i (List.mem_range.1 hi)]
 unfold RowI;rw [<-this];exact h
theorem RowI.of_block {w w':World} {g n:Nat} {f:Nat->Int} (h:RowI w g n f) (e:w'.heap[g]?=w.heap[g]?):RowI w' g n f:=e.trans h
theorem RowI.below {w w':World} {g n:Nat} {f:Nat->Int} (h:RowI w g n f) {b:Nat} (hb:Below b w w') (hg:g < b):RowI w' g n f:=h.of_block (hb.block g hg)
theorem RowI.other {w:World} {g n:Nat} {f:Nat->Int} (h:RowI w g n f) {a:Addr} (ha:g ≠ a.block) (v:Value):RowI (w.setCell a v) g n f:=h.of_block (Below.heap_setCell w a v g ha)
theorem RowI.set {w:World} {g n:Nat} {f:Nat->Int} (h:RowI w g n f) (k:Nat) (x:Int):RowI (w.setCell ⟨g,k,none⟩ (I x)) g n (fun i=>if i=k then x else f i):=by
 have h1:(w.setCell ⟨g,k,none⟩ (I x)).heap[g]?=some (.cells (((List.range n).map (fun i=>Value.int .i64 (f i))).toArray.setIfInBounds k (I x)) 3 (0,0)):=heap_setCell_same w g k _ _ _ h;have h2:((List.range n).map (fun i=>Value.int .i64 (f i))).toArray.setIfInBounds k (I x)=((List.range n).map (fun i=>Value.int .i64 (if i=k then x else f i))).toArray:=by
  apply Array.ext'
  rw [Array.toList_setIfInBounds];apply List.ext_getElem?;intro i;by_cases hi:i < n
  ·by_cases hk:i=k
   ·subst hk;simp [hi]
   ·rw [List.getElem?_set_ne (fun e=>hk e.symm)];simp [hi,hk]
  ·rw [List.getElem?_eq_none (by simp;omega),List.getElem?_eq_none (by simp;omega)]
 unfold RowI;rw [h1,h2]
theorem mk_ints (n:Nat) (hn:n<=2932031007317):∃ M:Array Value,(∀ u:World,(Instr.makeSlice 25 (I (n:Int)) (I (n:Int))).run Tryz.prog u=.ok (.slice (pZ u.heap.size) n n) (u.alloc (.cells M 3))) /\
  ∀ u:World,RowI (u.alloc (.cells M 3)) u.heap.size n (fun _=>0):=by
 obtain ⟨i0,hi,hz0,hz1,hz2⟩:=info_parts info3;refine ⟨madeCells (Value.int .i64 0).cells ((n:Int).toNat * i0.size),fun u=>?_,fun u=>?_⟩
 ·have h:=run_make (P:=Tryz.prog) u 25 3 i0 (I 0) Tryz.underlying25 hi hz0 .i64 .i64 (n:Int) (n:Int) (by omega) (Int.le_refl _) (by rw [hz2];omega) (by omega)
  have e:(n:Int).toNat=n:=by omega
  rw [e] at h ⊢;exact h
 ·have e:madeCells (Value.int .i64 0).cells ((n:Int).toNat * i0.size)=((List.range n).map (fun _=>Value.int .i64 0)).toArray:=by
   apply Array.ext'
   have e1:(Value.int .i64 0).cells=#[I 0]:=rfl;rw [e1,toList_madeCells_one,hz1];apply List.ext_getElem?;intro j;have e2:(n:Int).toNat * 1=n:=by omega
   rw [e2];by_cases hj:j < n
   ·simp [hj]
   ·simp [hj]
  rw [e];exact heap_alloc_new u _
end Go.Proofs.YtbledbjcghaanaaGreat.Gr
namespace Go.Proofs.YtbledbjcghaanaaGreat.Nm
open Gr
theorem kidMono {l:List Rz} (h:Whole l) {i:Nat} (hi:i < l.length):∀ d k,k+d<=km l i->kidp l i k<=kidp l i (k+d):=by
 intro d
 induction d with
 | zero=>intro k _;exact Nat.le_refl _
 | succ d ih=>
  intro k hk;have h1:=ih k (by omega)
  obtain ⟨h2,h3,_⟩:=kid_at h hi (k:=k+d) (by omega)
  have h4:=(end_kid h h2).2.1;rw [show k+(d+1)=k+d+1 by omega,h3]
  omega
theorem kidIn {l:List Rz} (h:Whole l) {i k:Nat} (hi:i < l.length) (hk:k < km l i):i < kidp l i k/\kidp l i k < l.length/\endp l (kidp l i k)<=endp l i/\kidp l i (k+1)=endp l (kidp l i k):=by
 obtain ⟨h1,h2,h3⟩:=kid_at h hi hk;refine ⟨h3,h1,?_,h2⟩;rw [(end_kid h hi).1,<-h2];have:=kidMono h hi (km l i - (k+1)) (k+1) (by omega)
 rwa [show k+1+(km l i - (k+1))=km l i by omega] at this
end Go.Proofs.YtbledbjcghaanaaGreat.Nm
namespace Go.Proofs.YtbledbjcghaanaaGreat.Nm.Ty
open Go.RowKit Go.Maps Sp Lx Gr Nm
def nc (n:Nat):Value:=I n
def kl (l:List Rz) (i k:Nat):List Nat:=(List.range k).map (kidp l i)
theorem kl_succ (l:List Rz) (i k:Nat):kl l i (k+1)=kl l i k++[kidp l i k]:=by simp [kl,List.range_succ]
def fL (n:Nat) (f:Nat->Value):List Value:=(List.range n).map f
theorem fL_at {n:Nat} {f:Nat->Value} {k:Nat} (h:k < n):(fL n f)[k]?=some (f k):=by simp [fL,h]
def eV (l:List Rz) (i:Nat):Value:=I (endp l i:Nat)
structure IsRg (w:World) (l:List Rz) (qv:List Value) (ao qo po eo:Option Addr):Prop where
 r:IsRz w ao l
 q:IsVals w qo qv
 p:IsVals w po (fL l.length (fun i=>(rP l i).V))
 e:IsVals w eo (fL l.length (eV l))
theorem IsRg.below {w w':World} {l:List Rz} {qv:List Value} {ao qo po eo:Option Addr} (h:IsRg w l qv ao qo po eo) (hb:Below w.heap.size w w'):IsRg w' l qv ao qo po eo:=⟨h.r.below hb,h.q.below hb,h.p.below hb,h.e.below hb⟩
theorem IsRg.part {w:World} {l:List Rz} {qv:List Value} {ao qo po eo:Option Addr} (h:IsRg w l qv ao qo po eo) {i:Nat} (hi:i < l.length):∃ g o,po=some ⟨g,o,none⟩/\g < w.heap.size/\w.cell? ⟨g,o+i,none⟩=some (rP l i).V:=h.p i _ (fL_at hi)
theorem IsRg.ends {w:World} {l:List Rz} {qv:List Value} {ao qo po eo:Option Addr} (h:IsRg w l qv ao qo po eo) {i:Nat} (hi:i < l.length):∃ g o,eo=some ⟨g,o,none⟩/\g < w.heap.size/\w.cell? ⟨g,o+i,none⟩=some (I (endp l i:Nat)):=h.e i _ (fL_at hi)
abbrev rgC (l:List Rz) (nq:Nat) (ao qo po eo:Option Addr) (ac qc pc ec:Nat):Array Value:=#[.slice ao l.length ac,.slice qo nq qc,.slice po l.length pc,.slice eo l.length ec]
theorem cells4 {wq:World} {B:Nat} {v0 v1 v2 v3:Value} {T:TypeId} (h:wq.heap[B]?=some (.cells #[v0,v1,v2,v3] T (0,0))):wq.cell? ⟨B,0,none⟩=some v0/\wq.cell? ⟨B,1,none⟩=some v1/\wq.cell? ⟨B,2,none⟩=some v2/\wq.cell? ⟨B,3,none⟩=some v3:=by
 refine ⟨?_,?_,?_,?_⟩
 all_goals
  simp only [World.cell?,h];rfl
theorem kids_any {l:List Rz} {qv:List Value} {nq:Nat} {ao qo po eo:Option Addr} {ac qc pc ec:Nat} (i:Nat) {w:World} (h:IsRg w l qv ao qo po eo) (hn:l.length<=2932031007317) (hT:TreeZ l) (hi:i < l.length):
  Calls Tryz.prog 114 #[.agg (rgC l nq ao qo po eo ac qc pc ec),I i] w fun e w'=>∃ v,e=.returned v/\w'.ownsRow w.heap.size 3 1 v (km l i) ((kl l i (km l i)).map nc)/\Below w.heap.size w w':=by
 obtain ⟨j0,hj,hj0,hj1,hj2⟩:=info_parts info3;have HI:Hid (IsRg w l qv ao qo po eo):=h;have HT:Hid (TreeZ l):=hT;have hln:(l.length:Int)<=2932031007317:=by omega
 have hi1:(i:Int) < (l.length:Int):=by omega
 have HKm:Hid (km l i<=2932031007317):=by have:=km_le hT.whole hi;show _<=_;omega
 have HEe:Hid (endp l i<=l.length):=(end_kid hT.whole hi).2.2;have HB0:Hid (Below w.heap.size w (w.alloc (.cells (rgC l nq ao qo po eo ac qc pc ec) 65))):=bAl w _;dsimp only [rgC] at *;clear h hn hT;go_enter Tryz.func114,Tryz.ntmps114;go_wp2_with fail;have HX:Hid ((w.alloc (.cells #[.slice ao l.length ac,.slice qo nq qc,.slice po l.length pc,.slice eo l.length ec] 65)).heap[w.heap.size]?=some (.cells #[.slice ao l.length ac,.slice qo nq qc,.slice po l.length pc,.slice eo l.length ec] 65 (0,0))/\w.heap.size+1=(w.alloc (.cells #[.slice ao l.length ac,.slice qo nq qc,.slice po l.length pc,.slice eo l.length ec] 65)).heap.size):=⟨heap_alloc_new w _,by simp⟩
 generalize (w.alloc (.cells #[.slice ao l.length ac,.slice qo nq qc,.slice po l.length pc,.slice eo l.length ec] 65))=w1 at *
 go_loopg [5,6] (km l i) (fun gq x nx wr=>∃ (k:Nat) (v:Value),k<=km l i/\gq=km l i - k/\v=x/\nx=I (kidp l i k:Int)/\wr.ownsRow w1.heap.size 3 1 v k ((kl l i k).map nc)/\Below w1.heap.size w1 wr)
 case atStart=>exact ⟨0,_,Nat.zero_le _,rfl,rfl,by rw [kid_zero];go_num,World.ownsRow_nil _ _ _ _,Below.refl _ _⟩
 case round=>
  obtain ⟨k,v,hk,hgk,rfl,rfl,hO,hB⟩:=hrel;have HG:Hid (gk=km l i - k):=hgk;have HO:Hid (wr.ownsRow w1.heap.size 3 1 v k ((kl l i k).map nc)):=hO;have HBr:Hid (Below w1.heap.size w1 wr):=hB;have HKl:Hid (k<=2932031007317):=by have:=HKm.out;show _<=_;omega
  have HKp:Hid (kidp l i k<=l.length):=kid_le HT.out.whole hi hk;have hkp:(kidp l i k:Int)<=2932031007317:=by have:=HKp.out;omega
  have hbx:=(HBr.out.block _ (by have:=HX.out.2;omega)).trans HX.out.1
  obtain ⟨c0,c1,c2,c3⟩:=cells4 hbx;have HIr:Hid (IsRg wr l qv ao qo po eo):=HI.out.below (HB0.out.trans (HBr.out.mono HB0.out.size));obtain ⟨ge,oe,rfl,hge,ce⟩:=HIr.out.ends hi;have hee:(endp l i:Int)<=2932031007317:=by have:=HEe.out;omega
  clear hgk hO hB hbx;by_cases hlk:k < km l i
  ·obtain ⟨h1,h2,h3⟩:=kid_at HT.out.whole hi hlk;have h4:kidp l i k < endp l i:=by
    have h5:=(kidIn HT.out.whole hi hlk).2.2.1;have h6:=(end_kid HT.out.whole h1).2.1;omega
   have h4':(kidp l i k:Int) < (endp l i:Int):=by omega
   have h1':(kidp l i k:Int) < (l.length:Int):=by omega
   have HNx:Hid (kidp l i (k+1)=endp l (kidp l i k)):=h2;obtain ⟨ge2,oe2,hge0,hge2,ce2⟩:=HIr.out.ends h1;obtain ⟨rfl,rfl⟩:ge=ge2/\oe=oe2:=by cases hge0;exact ⟨rfl,rfl⟩
   have hb2:Below wr.heap.size wr (wr.alloc (.cells #[I (kidp l i k:Int)] 3)):=bAl wr _;have HO2:Hid ((wr.alloc (.cells #[I (kidp l i k:Int)] 3)).ownsRow w1.heap.size 3 1 v k ((kl l i k).map nc)):=own_below HO.out hb2;obtain ⟨bo,bc,rfl⟩:=own_form HO.out;have HEn:Hid (endp l (kidp l i k)<=l.length):=(end_kid HT.out.whole h1).2.2;have HLk:Hid (k < km l i):=hlk;clear h1 h2 h3 h4 hlk hk hb2;go_wp2_with (at_builtin;refine append_gone _ rfl _ _ 25 rfl w1.heap.size 3 j0 (I 0) 1 8 Tryz.underlying25 hj hj0 hj1 hj2 rfl (by decide) (.slice bo k bc) k ((kl l i k).map nc) rfl HO2.out ⟨wr.heap.size,0,none⟩ 1 1 [nc (kidp l i k)] rfl rfl (cell_one wr _ _) (by intro u hu;simp only [nc,List.mem_cons,List.not_mem_nil,or_false] at hu;subst hu;rfl) (by have:=HKl.out;unfold maxLen;omega) (by have:=HKl.out;omega) (by have h1:=HBr.out.size;rw [World.size_alloc];omega) (by decide) ?_)
   intro v4 w4 ho hG;have HO4:Hid (w4.ownsRow w1.heap.size 3 1 v4 (k+1) ((kl l i (k+1)).map nc)):=by
    show w4.ownsRow w1.heap.size 3 1 v4 (k+1) ((kl l i (k+1)).map nc)
    rw [kl_succ]
    simpa using ho
   have hb4:Below w1.heap.size (wr.alloc (.cells #[I (kidp l i k:Int)] 3)) w4:=(Went.gone hG).low (fun j hj=>(World.ownsRow.lt HO2.out j hj).1) (by have h1:=HBr.out.size;rw [World.size_alloc];omega)
   have HB4:Hid (Below w1.heap.size w1 w4):=(HBr.out.alloc HBr.out.size _).trans hb4;obtain ⟨bo4,bc4,rfl⟩:=own_form ho;clear ho hG hb4 c0 c1 c2 c3 ce ce2;have hbx:=(HB4.out.block _ (by have:=HX.out.2;omega)).trans HX.out.1
   obtain ⟨c0,c1,c2,c3⟩:=cells4 hbx;obtain ⟨ge3,oe3,hge1,_,ce⟩:=(HI.out.below (HB0.out.trans (HB4.out.mono HB0.out.size))).ends (i:=kidp l i k) (by omega)
   obtain ⟨rfl,rfl⟩:ge=ge3/\oe=oe3:=by cases hge1;exact ⟨rfl,rfl⟩
   clear hbx hge1;go_wp2_with fail;go_roundg (km l i - (k+1))
   case measure=>have h1:=HG.out;have:=HLk.out;omega
   case rel=>exact ⟨k+1,_,by have:=HLk.out;omega,rfl,rfl,by rw [HNx.out],HO4.out,HB4.out⟩
  ·have hke:k=km l i:=by omega
   have hke2:(kidp l i k:Int)=(endp l i:Int):=by rw [hke,(end_kid HT.out.whole hi).1]
   have hlk':¬ ((kidp l i k:Int) < (endp l i:Int)):=by omega
   have HF:Hid (wr.ownsRow w1.heap.size 3 1 v (km l i) ((kl l i (km l i)).map nc)):=by rw [hke] at HO;exact HO
   clear hke hlk hk hke2;go_wp2_with fail;go_ret;exact ⟨_,rfl,own_base HF.out HB0.out.size,HB0.out.trans (HBr.out.mono HB0.out.size)⟩
end Go.Proofs.YtbledbjcghaanaaGreat.Nm.Ty
namespace Go.Proofs.YtbledbjcghaanaaGreat.Nm.Ty
open Go.RowKit Go.Maps Sp Lx Gr
structure Qs (l:List Rz) (qs:List (ByteArray × Bool)):Prop where
 n:∀ i,i < l.length->(rat l i).kind=8\/(rat l i).kind=9\/(rat l i).kind=17\/(rat l i).kind=19\/(rat l i).kind=20\/(rat l i).kind=21\/(rat l i).kind=24->∃ n:Nat,(rat l i).n=(n:Int)/\n < qs.length
 up:∀ i,i < l.length->(rat l i).kind=24->0 < i/\((rat l (i - 1)).kind=19\/(rat l (i - 1)).kind=20)
def ghL (qs:List (ByteArray × Bool)) (i:Nat):Bool:=(qs.getD i (⟨#[]⟩,false)).2
theorem qF_at {qs:List (ByteArray × Bool)} {n:Nat} (h:n < qs.length):(qF qs)[n * 2+1]?=some (.bool (ghL qs n)):=by
 induction qs generalizing n with
 | nil=>simp at h
 | cons q qs ih=>
  cases n with
  | zero=>simp [qF,ghL]
  | succ n=>
   have:=ih (n:=n) (by simpa using h)
   simp only [qF,List.flatMap_cons] at this ⊢;rw [show (n+1) * 2+1=n * 2+1+2 by omega]
   simpa [ghL] using this
theorem row_cells {w:World} {ao:Option Addr} {l:List Rz} (h:IsRz w ao l) {k:Nat} (hk:k < l.length):∃ g o,ao=some ⟨g,o,none⟩/\g < w.heap.size/\w.cell? ⟨g,o+k * 5,none⟩=some (I (rat l k).kind)/\w.cell? ⟨g,o+k * 5+1,none⟩=some (.string (rat l k).name)/\w.cell? ⟨g,o+k * 5+2,none⟩=some (I (rat l k).stop)/\w.cell? ⟨g,o+k * 5+3,none⟩=some (I (rat l k).n)/\w.cell? ⟨g,o+k * 5+4,none⟩=some (I (rat l k).kids):=h k _ (some_rat hk)
theorem ghost_any {l:List Rz} {qs:List (ByteArray × Bool)} {ao qo po eo:Option Addr} {ac qc pc ec:Nat} (i n:Nat) {w:World} (h:IsRg w l (qF qs) ao qo po eo) (hn:l.length<=2932031007317) (hi:i < l.length) (hN:(rat l i).n=(n:Int)) (hq:n < qs.length) (hql:qs.length<=2932031007317):
  Calls Tryz.prog 124 #[.agg (rgC l qs.length ao qo po eo ac qc pc ec),I i] w fun e w'=>e=.returned (.bool (ghL qs n))/\Below w.heap.size w w':=by
 have hln:(l.length:Int)<=2932031007317:=by omega
 have hi1:(i:Int) < (l.length:Int):=by omega
 have hq1:(n:Int) < (qs.length:Int):=by omega
 have hq2:(qs.length:Int)<=2932031007317:=by omega
 have hb:Below w.heap.size w (w.alloc (.cells (rgC l qs.length ao qo po eo ac qc pc ec) 65)):=bAl w _;have h2:=h.below hb;obtain ⟨g,o,rfl,hg,c0,c1,c2,c3,c4⟩:=row_cells h2.r hi;rw [hN] at c3;obtain ⟨gq,oq,rfl,hgq,cq⟩:=h2.q (n * 2+1) _ (qF_at hq);have cq':=cq;rw [<-Nat.add_assoc] at cq';have HB:=hdn <| hb;have hx:=heap_alloc_new w (.cells (rgC l qs.length (some ⟨g,o,none⟩) (some ⟨gq,oq,none⟩) po eo ac qc pc ec) 65);obtain ⟨b0,b1,b2,b3⟩:=cells4 hx;have HX:=hdn <| hx;dsimp only [rgC] at *;clear h hb h2 hx c0 c1 c2 c4 cq hN;generalize ghL qs n=z at *;generalize hW:w.alloc (.cells #[.slice (some ⟨g,o,none⟩) l.length ac,.slice (some ⟨gq,oq,none⟩) qs.length qc,.slice po l.length pc,.slice eo l.length ec] 65)=w1 at *;go_enter Tryz.func124,Tryz.ntmps124;go_wp2_with fail;clear hW HX;go_region;go_wp2;go_ret;exact ⟨rfl,HB.out.drew⟩
theorem till_any {l:List Rz} {qv:List Value} {nq:Nat} {ao qo po eo:Option Addr} {ac qc pc ec:Nat} (i:Nat) {w:World} (h:IsRg w l qv ao qo po eo) (hn:l.length<=2932031007317) (hi:i < l.length) (hL:(rat l i).kind=13->i+1 < l.length):
  Calls Tryz.prog 93 #[.agg (rgC l nq ao qo po eo ac qc pc ec),I i] w fun e w'=>e=.returned (I (tillZ l i:Nat))/\Below w.heap.size w w':=by
 have hln:(l.length:Int)<=2932031007317:=by omega
 have hi1:(i:Int) < (l.length:Int):=by omega
 have HT:Hid (tillZ l i=if (rat l i).kind=4\/(rat l i).kind=5\/(rat l i).kind=6 then endp l i else if (rat l i).kind=13 then endp l (i+1) else 0):=rfl;have hb:Below w.heap.size w (w.alloc (.cells (rgC l nq ao qo po eo ac qc pc ec) 65)):=bAl w _;have HI:=hdn <| h.below hb;have HB:=hdn <| hb;have HX:=hdn <| heap_alloc_new w (.cells (rgC l nq ao qo po eo ac qc pc ec) 65);obtain ⟨g,o,rfl,hg,c0,_⟩:=row_cells HI.out.r hi;obtain ⟨ge,oe,rfl,hge,ce⟩:=HI.out.ends hi;obtain ⟨b0,b1,b2,b3⟩:=cells4 HX.out;dsimp only [rgC] at *;clear h hb hn;by_cases h13:(rat l i).kind=13
 ·obtain ⟨ge2,oe2,hge0,_,ce2⟩:=HI.out.ends (hL h13);obtain ⟨rfl,rfl⟩:ge=ge2/\oe=oe2:=by cases hge0;exact ⟨rfl,rfl⟩
  have HR:Hid (tillZ l i=endp l (i+1)):=by show _=_;rw [HT.out,h13];rfl
  have hi2:(i:Int)+1 < (l.length:Int):=by have:=hL h13;omega
  have hi3:((i+1:Nat):Int)=(i:Int)+1:=by omega
  rw [h13] at c0;clear HT hge0 hL;go_enter Tryz.func93,Tryz.ntmps93;go_wp2;go_ret;rw [HR.out];exact ⟨rfl,HB.out⟩
 ·by_cases h4:(rat l i).kind=4\/(rat l i).kind=5\/(rat l i).kind=6
  ·have HR:Hid (tillZ l i=endp l i):=by show _=_;rw [HT.out,if_pos h4]
   clear HT hL;rcases h4 with h | h | h
   all_goals
    rw [h] at c0;go_enter Tryz.func93,Tryz.ntmps93;go_wp2;go_ret;rw [HR.out];exact ⟨rfl,HB.out⟩
  ·have HR:Hid (tillZ l i=0):=by show _=_;rw [HT.out,if_neg h4,if_neg h13]
   generalize (rat l i).kind=kd at *;have q1:(kd == 13)=false:=beq_false_of_ne h13;have q2:(kd == 4)=false:=beq_false_of_ne (fun e=>h4 (Or.inl e));have q3:(kd == 5)=false:=beq_false_of_ne (fun e=>h4 (Or.inr (Or.inl e)));have q4:(kd == 6)=false:=beq_false_of_ne (fun e=>h4 (Or.inr (Or.inr e)));clear HT hL h4 h13;go_enter Tryz.func93,Tryz.ntmps93;go_wp2;go_ret;rw [HR.out];exact ⟨rfl,HB.out⟩
theorem other_any {l:List Rz} {qs:List (ByteArray × Bool)} {ao qo po eo:Option Addr} {ac qc pc ec:Nat} (i:Nat) {w:World} (h:IsRg w l (qF qs) ao qo po eo) (hn:l.length<=2932031007317) (hi:i < l.length) (hQ:Qs l qs) (hql:qs.length<=2932031007317):
  Calls Tryz.prog 92 #[.agg (rgC l qs.length ao qo po eo ac qc pc ec),I i] w fun e w'=>e=.returned (.bool (othZ l (ghL qs) i))/\Below w.heap.size w w':=by
 have hln:(l.length:Int)<=2932031007317:=by omega
 have hi1:(i:Int) < (l.length:Int):=by omega
 have HO:Hid (othZ l (ghL qs) i=if (rat l i).kind=8\/(rat l i).kind=17\/(rat l i).kind=20 then ghZ l (ghL qs) i else if (rat l i).kind=9\/(rat l i).kind=21 then !ghZ l (ghL qs) i
  else if (rat l i).kind=24 then (if (rat l (i - 1)).kind=20 then !ghZ l (ghL qs) i else ghZ l (ghL qs) i != ghZ l (ghL qs) (i - 1)) else false):=rfl
 have hb:Below w.heap.size w (w.alloc (.cells (rgC l qs.length ao qo po eo ac qc pc ec) 65)):=bAl w _;have HI:=hdn <| h.below hb;have HB:=hdn <| hb;have HX:=hdn <| heap_alloc_new w (.cells (rgC l qs.length ao qo po eo ac qc pc ec) 65);have HGh:Hid (∀ (j n:Nat) (W:World),IsRg W l (qF qs) ao qo po eo->j < l.length->(rat l j).n=(n:Int)->n < qs.length->Calls Tryz.prog 124 #[.agg (rgC l qs.length ao qo po eo ac qc pc ec),I j] W fun e w'=>e=.returned (.bool (ghL qs n))/\Below W.heap.size W w'):=fun j n W hW hj hN hq=>ghost_any j n hW hn hj hN hq hql;obtain ⟨g,o,rfl,hg,c0,_⟩:=row_cells HI.out.r hi;obtain ⟨b0,b1,b2,b3⟩:=cells4 HX.out;dsimp only [rgC] at *;clear h hb hn;by_cases hA:(rat l i).kind=8\/(rat l i).kind=17\/(rat l i).kind=20
 ·obtain ⟨n,hN,hq⟩:=hQ.n i hi (by omega)
  have HR:Hid (othZ l (ghL qs) i=ghL qs n):=by show _=_;rw [HO.out,if_pos hA];unfold ghZ;rw [hN];rfl
  have HC:=hdn <| HGh.out i n _ HI.out hi hN hq;clear HO HGh hQ;generalize ghL qs n=z at *;rcases hA with h | h | h
  all_goals
   rw [h] at c0;go_enter Tryz.func92,Tryz.ntmps92;go_wp2_with fail;refine Calls.mono HC.out ?_;rintro e w2 ⟨rfl,hb2⟩;have HB2:Hid (Below w.heap.size w w2):=HB.out.trans (hb2.mono HB.out.size);clear hb2;go_wp2;go_ret;rw [HR.out];exact ⟨rfl,HB2.out⟩
 ·by_cases hD:(rat l i).kind=9\/(rat l i).kind=21
  ·obtain ⟨n,hN,hq⟩:=hQ.n i hi (by omega)
   have HR:Hid (othZ l (ghL qs) i=!ghL qs n):=by show _=_;rw [HO.out,if_neg hA,if_pos hD];unfold ghZ;rw [hN];rfl
   have HC:=hdn <| HGh.out i n _ HI.out hi hN hq;clear HO HGh hQ hA;generalize ghL qs n=z at *;rcases hD with h | h
   all_goals
    rw [h] at c0;go_enter Tryz.func92,Tryz.ntmps92;go_wp2_with fail;refine Calls.mono HC.out ?_;rintro e w2 ⟨rfl,hb2⟩;have HB2:Hid (Below w.heap.size w w2):=HB.out.trans (hb2.mono HB.out.size);clear hb2;go_wp2;go_ret;rw [HR.out];exact ⟨rfl,HB2.out⟩
  ·by_cases hP:(rat l i).kind=24
   ·obtain ⟨n,hN,hq⟩:=hQ.n i hi (by omega)
    obtain ⟨hi0,hup⟩:=hQ.up i hi hP;obtain ⟨n2,hN2,hq2⟩:=hQ.n (i - 1) (by omega) (by omega)
    have hs:((i:Int) - 1)=((i - 1:Nat):Int):=by omega
    obtain ⟨g2,o2,hg0,_,d0,_⟩:=row_cells HI.out.r (k:=i - 1) (by omega)
    obtain ⟨rfl,rfl⟩:g=g2/\o=o2:=by cases hg0;exact ⟨rfl,rfl⟩
    have hi2:((i - 1:Nat):Int) < (l.length:Int):=by omega
    have HC:=hdn <| HGh.out i n _ HI.out hi hN hq;rw [hP] at c0;rcases hup with h19 | h20
    ·have HR:Hid (othZ l (ghL qs) i=(ghZ l (ghL qs) i != ghZ l (ghL qs) (i - 1))):=by show _=_;rw [HO.out,if_neg hA,if_neg hD,if_pos hP,h19];rfl
     rw [h19] at d0;have HC2:Hid (∀ (j:Nat) (W:World),IsRg W l (qF qs) (some ⟨g,o,none⟩) qo po eo->(j=i\/j=i - 1)->Calls Tryz.prog 124 #[.agg #[.slice (some ⟨g,o,none⟩) l.length ac,.slice qo qs.length qc,.slice po l.length pc,.slice eo l.length ec],I j] W fun e w'=>e=.returned (.bool (ghZ l (ghL qs) j))/\Below W.heap.size W w'):=by
      intro j W hW hj;rcases hj with rfl | rfl
      ·unfold ghZ;rw [hN];exact HGh.out _ n W hW hi hN hq
      ·unfold ghZ;rw [hN2];exact HGh.out _ n2 W hW (by omega) hN2 hq2
     clear HO HGh hQ hA hD hP hg0 hN hN2 HC;generalize i - 1=i1 at *;generalize ghZ l (ghL qs)=gz at *;go_enter Tryz.func92,Tryz.ntmps92;go_wp2_with fail;generalize (w.alloc (.cells #[.slice (some ⟨g,o,none⟩) l.length ac,.slice qo qs.length qc,.slice po l.length pc,.slice eo l.length ec] 65))=w1 at *;have hlt:=blk_lt HX.out;have y0:∀ y:Kin w1,y.u.cell? ⟨w.heap.size,0,none⟩=some (.slice (some ⟨g,o,none⟩) l.length ac):=fun y=>y.cell (a:=⟨w.heap.size,0,none⟩) hlt b0;have y1:∀ y:Kin w1,y.u.cell? ⟨w.heap.size,1,none⟩=some (.slice qo qs.length qc):=fun y=>y.cell (a:=⟨w.heap.size,1,none⟩) hlt b1;have y2:∀ y:Kin w1,y.u.cell? ⟨w.heap.size,2,none⟩=some (.slice po l.length pc):=fun y=>y.cell (a:=⟨w.heap.size,2,none⟩) hlt b2;have y3:∀ y:Kin w1,y.u.cell? ⟨w.heap.size,3,none⟩=some (.slice eo l.length ec):=fun y=>y.cell (a:=⟨w.heap.size,3,none⟩) hlt b3;have HC3:Hid (∀ (y:Kin w1) (j:Nat),(j=i\/j=i1)->Calls Tryz.prog 124 #[.agg #[.slice (some ⟨g,o,none⟩) l.length ac,.slice qo qs.length qc,.slice po l.length pc,.slice eo l.length ec],I j] y.u fun e w'=>e=.returned (.bool (gz j))/\Below y.u.heap.size y.u w'):=fun y j hj=>HC2.out j y.u (HI.out.below y.ok) hj;clear HC2 b0 b1 b2 b3 c0 d0;refine wp_region_kin (by kernel_rfl) (by kernel_rfl) ?_
     have hw1:IntKind.i64.wrap (i1:Int)=(i1:Int):=by rw [IntKind.wrap_i64];omega
     have HCa:=hdn <| fun y=>HC3.out y i (Or.inl rfl);have HCb:=hdn <| fun y=>HC3.out y i1 (Or.inr rfl);clear HC3
     iterate 3 quiet_step (first | with_reducible rfl | exact kin_of (HCa.out _))
     clear HCa
     iterate 4 quiet_step (first | with_reducible rfl | exact kin_of (HCb.out _))
     iterate 2 quiet_step (with_reducible rfl)
     refine wpQuiet_nil ?_;rintro _ ⟨y,rfl⟩;have HYk:Hid (Below w.heap.size w y.u):=HB.out.trans (y.ok.mono HB.out.size);clear y0 y1 y2 y3 HCb;generalize y.u=w4 at *;go_wp2;go_ret;rw [HR.out];exact ⟨rfl,HYk.out⟩
    ·have HR:Hid (othZ l (ghL qs) i=!ghL qs n):=by show _=_;rw [HO.out,if_neg hA,if_neg hD,if_pos hP,h20];unfold ghZ;rw [hN];rfl
     rw [h20] at d0;clear HO HGh hQ hA hD hP hg0 hN hN2;generalize ghL qs n=z at *;generalize i - 1=i1 at *;go_enter Tryz.func92,Tryz.ntmps92;go_wp2_with fail;refine Calls.mono HC.out ?_;rintro e w2 ⟨rfl,hb2⟩;have HB2:Hid (Below w.heap.size w w2):=HB.out.trans (hb2.mono HB.out.size);clear hb2;go_wp2;go_ret;rw [HR.out];exact ⟨rfl,HB2.out⟩
   ·have HR:Hid (othZ l (ghL qs) i=false):=by show _=_;rw [HO.out,if_neg hA,if_neg hD,if_neg hP]
    generalize (rat l i).kind=kd at *;have q1:(kd == 8)=false:=beq_false_of_ne (by omega)
    have q2:(kd == 17)=false:=beq_false_of_ne (by omega)
    have q3:(kd == 20)=false:=beq_false_of_ne (by omega)
    have q4:(kd == 9)=false:=beq_false_of_ne (by omega)
    have q5:(kd == 21)=false:=beq_false_of_ne (by omega)
    have q6:(kd == 24)=false:=beq_false_of_ne (by omega)
    clear HO HGh hQ hA hD hP;go_enter Tryz.func92,Tryz.ntmps92;go_wp2;go_ret;rw [HR.out];exact ⟨rfl,HB.out⟩
end Go.Proofs.YtbledbjcghaanaaGreat.Nm.Ty
namespace Go.Proofs.YtbledbjcghaanaaGreat.Nm.Ty
open Go.RowKit Go.Shelf Sp Lx Gr
attribute [local go_sem] Oper.semAt_some
def dnto (n k:Nat):List Nat:=(List.range k).map (fun j=>n - 1 - j)
theorem dnto_succ (n k:Nat):dnto n (k+1)=dnto n k++[n - 1 - k]:=by simp [dnto,List.range_succ]
theorem dnto_length (n k:Nat):(dnto n k).length=k:=by simp [dnto]
def Kq (S:List Nat) (U V:World):Prop:=U.heap.size<=V.heap.size/\∀ k ∈ S,V.heap[k]?=U.heap[k]?
theorem Kq.refl (S:List Nat) (U:World):Kq S U U:=⟨Nat.le_refl _,fun _ _=>rfl⟩
theorem Kq.trans {S:List Nat} {U V X:World} (h:Kq S U V) (k:Kq S V X):Kq S U X:=⟨Nat.le_trans h.1 k.1,fun i hi=>(k.2 i hi).trans (h.2 i hi)⟩
abbrev rzV (r:Rz):Value:=.agg #[I r.kind,.string r.name,I r.stop,I r.n,I r.kids]
theorem rback_in (F:Fence) (n:Nat) (h8:F.fn 122) (hro:F.round=none) (hn:1<=n) (l Bs b bo cap:Nat) (L:List Rz) (hreach:L.length<=2932031007317) (J Jx:List Nat->World->Prop)
  (hY:∀ pre x W,J pre W->pre.length < L.length->YieldAt F (n - 1) Tryz.prog l #[I ((x % L.length:Nat):Int),rzV (rat L (x % L.length))] W fun e W'=>
   (e=.returned (.bool true)/\J (pre++[x]) W'/\Kq [Bs,b] W W')\/(e=.returned (.bool false)/\Jx (pre++[x]) W'))
  (W:World) (hBs:W.cell? ⟨Bs,0,none⟩=some (.slice (some ⟨b,bo,none⟩) L.length cap)) (hc:IsRz W (some ⟨b,bo,none⟩) L) (h0:J [] W):
  CallsIn F n Tryz.prog 122 #[.func (.yield l) #[] #[],.pointer (pZ Bs)] W fun e W'=>(∃ v,e=.returned v) /\
   ((∃ ys,ys=dnto L.length L.length/\J ys W')\/(∃ pre,(∃ k,k<=L.length/\pre=dnto L.length k)/\Jx pre W')):=by
 have hrc:(L.length:Int)<=2932031007317:=by omega
 refine callsIn_of_wp Tryz.func122 rfl h8 ?_ hro;simp only [Tryz.ntmps122,List.size_toArray,List.length_cons,List.length_nil,Nat.reduceAdd,Nat.reduceSub,Array.replicate_succ,Array.replicate_zero,List.push_toArray,List.append_toArray,List.nil_append,List.cons_append]
 gi_wp2
 gi_loopw [3] (fun i wr=>∃ k:Nat,k<=L.length/\i=I ((L.length:Int) - 1 - k)/\J (dnto L.length k) wr/\Kq [Bs,b] W wr)
  (fun i _=>(intOf i+1).toNat)
 case atStart=>exact ⟨0,Nat.zero_le _,by simp,h0,Kq.refl _ _⟩
 case round=>
  obtain ⟨k,hk,rfl,hJs,hnx⟩:=hrel;have hcs:wr.cell? ⟨Bs,0,none⟩=some (.slice (some ⟨b,bo,none⟩) L.length cap):=(World.cell?_of_block (a:=⟨Bs,0,none⟩) (hnx.2 Bs (by simp))).trans hBs
  by_cases hlt:k < L.length
  ·obtain ⟨pk,hpk⟩:∃ pk,pk=L.length - 1 - k:=⟨_,rfl⟩;have hi:(L.length:Int) - 1 - (k:Int)=(pk:Int):=by omega
   rw [hi];have hpl:pk < L.length:=by omega
   have hpl':(pk:Int) < (L.length:Int):=by omega
   have hJn:dnto L.length (k+1)=dnto L.length k++[pk]:=by rw [dnto_succ,<-hpk]
   obtain ⟨fn,tmps,assign,body,hy,hR⟩:=hY _ pk wr hJs (by rw [dnto_length];exact hlt)
   rw [Nat.mod_eq_of_lt hpl] at hy;obtain ⟨g,o,e,_,c0,c1,c2,c3,c4⟩:=row_cells hc hpl;cases e;have hcell:∀ j v,W.cell? ⟨b,j,none⟩=some v->wr.cell? ⟨b,j,none⟩=some v:=fun j v h=>(World.cell?_of_block (a:=⟨b,j,none⟩) (hnx.2 b (by simp))).trans h
   have d0:=hcell _ _ c0;have d1:=hcell _ _ c1;have d2:=hcell _ _ c2;have d3:=hcell _ _ c3;have d4:=hcell _ _ c4;clear hcell c0 c1 c2 c3 c4 hpk;generalize rat L pk=r at *
   gi_wp2
   refine hR.mono ?_;rintro e W3 (⟨rfl,hJ3,hk3⟩ | ⟨rfl,hJx3⟩)
   ·gi_wp2
    go_roundw
    case rel=>exact ⟨k+1,by omega,by simp;omega,by rw [hJn];exact hJ3,hnx.trans hk3⟩
    case measure=>simp [intOf]
   ·gi_wp2
    refine bodyPost_ret (results_none rfl _ _ _) rfl ?_;exact ⟨⟨_,rfl⟩,.inr ⟨_,⟨k+1,by omega,hJn.symm⟩,hJx3⟩⟩
  ·obtain rfl:k=L.length:=by omega
   have hi:(L.length:Int) - 1 - (L.length:Int)=-1:=by omega
   rw [hi]
   gi_wp2
   go_end0
   exact ⟨⟨_,rfl⟩,.inl ⟨_,rfl,hJs⟩⟩
theorem rbackward_any (a:Option Addr) (len cap:Nat) (w:World):
  Calls Tryz.prog 89 #[.slice a len cap] w fun e w'=>e=.returned (.func (.func 122) #[] #[.pointer (pZ w.heap.size)])/\w'=w.alloc (.cells #[.slice a len cap] 22):=by
 have hmf:∀ (fn:Fn) (first cap:Array Value) (w:World),(Instr.makeFunc fn first cap).run Tryz.prog w=.ok (.func fn first cap) w:=fun _ _ _ _=>rfl;go_enter Tryz.func89,Tryz.ntmps89;go_wp2;go_ret;exact ⟨rfl,rfl⟩
theorem rback_stops (F:Fence) (n:Nat) (h8:F.fn 122) (hro:F.round=none) (hn:1<=n) (Bs b bo cap:Nat) (L:List Rz) (hreach:L.length<=2932031007317) (w:World) (hBs:Bs < w.heap.size)
  (hc:w.cell? ⟨Bs,0,none⟩=some (.slice (some ⟨b,bo,none⟩) L.length cap)) (hI:IsRz w (some ⟨b,bo,none⟩) L):
  SeqStopsK F n Tryz.prog 122 #[.pointer (pZ Bs)] (fun x:Nat=>#[Value.int .i64 ((x % L.length:Nat):Int),rzV (rat L (x % L.length))]) (Kq [Bs,b]) (fun ys=>ys=dnto L.length L.length)
   (fun pre=>∃ k,k<=L.length/\pre=dnto L.length k) L.length w:=fun l J Jx W hW _ _ hY h0=>
 rback_in F n h8 hro hn l Bs b bo cap L hreach J Jx hY W ((hW.cell (p:=⟨Bs,0,none⟩) hBs).trans hc) (hI.below hW) h0
end Go.Proofs.YtbledbjcghaanaaGreat.Nm.Ty
namespace Go.Proofs.YtbledbjcghaanaaGreat.Nm.Ty
open Gr
def Okf (l:List Rz) (f:Nat->Int):Prop:=∀ i,i < l.length->f i=0\/(f i=(endp l i:Int)/\∀ j,i < j->j < endp l i->f j=(endp l j:Int))
theorem in_kid {l:List Rz} (h:Whole l) {i j:Nat} (hi:i < l.length) (h1:i < j) (h2:j < endp l i):∃ m,m < km l i/\kidp l i m<=j/\j < endp l (kidp l i m):=by
 have key:∀ k,k<=km l i->j < kidp l i k->∃ m,m < km l i/\kidp l i m<=j/\j < endp l (kidp l i m):=by
  intro k
  induction k with
  | zero=>intro _ h3;rw [kid_zero] at h3;omega
  | succ k ih=>
   intro hk h3;by_cases h4:j < kidp l i k
   ·exact ih (by omega) h4
   ·obtain ⟨_,h5,_⟩:=kid_at h hi (k:=k) (by omega)
    exact ⟨k,by omega,by omega,by rw [<-h5];exact h3⟩
 refine key (km l i) (Nat.le_refl _) ?_;rw [<-(end_kid h hi).1];exact h2
def Stf (l:List Rz) (f:Nat->Int) (i k e:Nat):Prop:=(e=kidp l i k/\∀ m,m < k->f (kidp l i m)=(endp l (kidp l i m):Int))\/(e=0/\f 0=0/\∃ m,m < k/\f (kidp l i m)=0)
theorem stf_zero (l:List Rz) (f:Nat->Int) (i:Nat):Stf l f i 0 (i+1):=Or.inl ⟨(kid_zero l i).symm,fun m hm=>by omega⟩
theorem stf_step {l:List Rz} {f:Nat->Int} (hT:Whole l) (hE:endp l 0=l.length) (hF:Okf l f) {i k e:Nat} (hi:i < l.length) (hk:k < km l i) (h:Stf l f i k e):e < l.length/\∃ e':Nat,f e=(e':Int)/\Stf l f i (k+1) e':=by
 obtain ⟨h1,h2,h3⟩:=kid_at hT hi hk;rcases h with ⟨rfl,hr⟩ | ⟨rfl,hz,m,hm,hmz⟩
 ·refine ⟨h1,?_⟩;rcases hF _ h1 with h0 | ⟨he,_⟩
  ·refine ⟨0,h0,Or.inr ⟨rfl,?_,k,by omega,h0⟩⟩
   rcases hF 0 (by omega) with h4 | ⟨_,h5⟩
   ·exact h4
   ·have:=h5 (kidp l i k) (by omega) (by rw [hE];exact h1)
    have h6:=(end_kid hT h1).2.1;omega
  ·refine ⟨endp l (kidp l i k),he,Or.inl ⟨h2.symm,fun m hm=>?_⟩⟩;by_cases e:m=k
   ·subst e;exact he
   ·exact hr m (by omega)
 ·exact ⟨by omega,0,by simpa using hz,Or.inr ⟨rfl,hz,m,by omega,hmz⟩⟩
theorem stf_end {l:List Rz} {f:Nat->Int} (hT:Whole l) (hF:Okf l f) {i e:Nat} (hi:i < l.length) (h:Stf l f i (km l i) e):e<=l.length/\Okf l (setF f i (e:Int))/\((∀ j,i < j->j < l.length->f j=(endp l j:Int))->∀ j,i<=j->j < l.length->setF f i (e:Int) j=(endp l j:Int)):=by
 obtain ⟨he1,he2,he3⟩:=end_kid hT hi;have hkid:∀ m,m < km l i->i < kidp l i m/\kidp l i m < endp l i/\kidp l i m < endp l (kidp l i m):=fun m hm=>by
  obtain ⟨a,b,c,_⟩:=kidIn hT hi hm;have:=(end_kid hT b).2.1;exact ⟨a,by omega,this⟩
 have hz:(∃ m,m < km l i/\f (kidp l i m)=0)->∀ i',i' < l.length->i'<=i->f i'=(endp l i':Int)->(∀ j,i' < j->j < endp l i'->f j=(endp l j:Int))->i < endp l i'->endp l i<=endp l i'->False:=by
  rintro ⟨m,hm,h0⟩ i' hi' hle _ hcl h1 h2;obtain ⟨a,b,c⟩:=hkid m hm;have:=hcl (kidp l i m) (by omega) (by omega)
  omega
 refine ⟨?_,?_,?_⟩
 ·rcases h with ⟨rfl,_⟩ | ⟨rfl,_⟩
  ·rw [<-he1];exact he3
  ·omega
 ·intro i' hi';by_cases e1:i'=i
  ·subst e1;rcases h with ⟨rfl,hr⟩ | ⟨rfl,_⟩
   ·refine Or.inr ⟨by simp [setF,he1],fun j h1 h2=>?_⟩
    obtain ⟨m,hm,h3,h4⟩:=in_kid hT hi h1 h2;have e2:setF f i' ((kidp l i' (km l i'):Nat):Int) j=f j:=if_neg (by omega)
    rw [e2];by_cases h5:j=kidp l i' m
    ·rw [h5];exact hr m hm
    ·have hk:=hr m hm;rcases hF (kidp l i' m) (by have:=(hkid m hm).2.1;omega) with h6 | ⟨_,h7⟩
     ·have:=(hkid m hm).2.2;omega
     ·exact h7 j (by omega) h4
   ·exact Or.inl (by simp [setF])
  ·have e2:setF f i (e:Int) i'=f i':=if_neg e1;rw [e2];rcases hF i' hi' with h0 | ⟨h0,hcl⟩
   ·exact Or.inl h0
   ·refine Or.inr ⟨h0,fun j h1 h2=>?_⟩;by_cases e3:j=i
    ·subst e3;have hfi:=hcl j h1 h2;have:e=endp l j:=by
      rcases h with ⟨rfl,_⟩ | ⟨rfl,_,m,hm,h0m⟩
      ·exact he1.symm
      ·exfalso
       rcases hF j hi with h6 | ⟨_,h7⟩
       ·omega
       ·obtain ⟨a,b,c⟩:=hkid m hm;have:=h7 (kidp l j m) a b;omega
     rw [this];exact if_pos rfl
    ·rw [show setF f i (e:Int) j=f j from if_neg e3];exact hcl j h1 h2
 ·intro hall j h1 h2;by_cases e3:j=i
  ·subst e3;have:e=endp l j:=by
    rcases h with ⟨rfl,_⟩ | ⟨rfl,_,m,hm,h0m⟩
    ·exact he1.symm
    ·exfalso
     obtain ⟨a,b,c⟩:=hkid m hm;have:=hall (kidp l j m) a (by omega)
     omega
   rw [this];exact if_pos rfl
  ·rw [show setF f i (e:Int) j=f j from if_neg e3];exact hall j (by omega) h2
end Go.Proofs.YtbledbjcghaanaaGreat.Nm.Ty
namespace Go.Proofs.YtbledbjcghaanaaGreat.Nm.Ty
open Go.RowKit Go.Shelf Sp Lx Gr
attribute [local go_sem] Oper.semAt_some
theorem ends_any {l:List Rz} {ao:Option Addr} {cap:Nat} {w:World} (h:IsRz w ao l) (hn:l.length<=2932031007317) (hT:TreeZ l) (h0:0 < l.length):
  Calls Tryz.prog 58 #[.slice ao l.length cap] w fun e w'=>∃ g,e=.returned (.slice (pZ g) l.length l.length)/\w.heap.size<=g/\RowI w' g l.length (fun i=>(endp l i:Int))/\Below w.heap.size w w':=by
 obtain ⟨M,hmk,hM⟩:=mk_ints l.length hn;have hln:(l.length:Int)<=2932031007317:=by omega
 have hbk:=rbackward_any ao l.length cap;have hb1:Below w.heap.size w (((w.alloc (.cells M 3)).alloc (.cells #[.slice (pZ w.heap.size) l.length l.length] 25)).alloc (.cells #[.slice ao l.length cap] 22)):=((bAl w _).alloc (by simp) _).alloc (by simp;omega) _
 have hnil:∀ (cp:Array Value) (u:World),(binOp BinOp.eql 132 (.func (.func 122) #[] cp) .nilFunc).run Tryz.prog u=.ok (.bool false) u:=fun _ _=>rfl;refine (callsIn_wide (n:=5)).1 ?_;refine callsIn_of_wp_marks Tryz.func58 rfl trivial ?_ rfl;simp only [Tryz.ntmps58,List.size_toArray,List.length_cons,List.length_nil,Nat.reduceAdd,Nat.reduceSub,Array.replicate_succ,Array.replicate_zero,List.push_toArray,List.append_toArray,List.nil_append,List.cons_append]
 gi_wp2
 refine ⟨trivial,(callsIn_wide.2 (hbk _)).mono ?_⟩;rintro e w2 ⟨rfl,rfl⟩;have hRb:=row_cells h h0;obtain ⟨b,bo,rfl,hb,_⟩:=hRb;have hz2:(((w.alloc (.cells M 3)).alloc (.cells #[.slice (pZ w.heap.size) l.length l.length] 25)).alloc (.cells #[.slice (some ⟨b,bo,none⟩) l.length cap] 22)).heap.size=w.heap.size+3:=by simp
 have hR2:RowI (((w.alloc (.cells M 3)).alloc (.cells #[.slice (pZ w.heap.size) l.length l.length] 25)).alloc (.cells #[.slice (some ⟨b,bo,none⟩) l.length cap] 22)) w.heap.size l.length (fun _=>0):=(hM w).of_block ((alloc_old _ _ _ (by simp;omega)).trans (alloc_old _ _ _ (by simp)))
 have hX2:(((w.alloc (.cells M 3)).alloc (.cells #[.slice (pZ w.heap.size) l.length l.length] 25)).alloc (.cells #[.slice (some ⟨b,bo,none⟩) l.length cap] 22)).heap[w.heap.size+1]?=some (.cells #[.slice (pZ w.heap.size) l.length l.length] 25 (0,0)):=by
  rw [alloc_old _ _ _ (by simp)]
  exact alloc_at _ _ _ (by simp)
 have hB2:(((w.alloc (.cells M 3)).alloc (.cells #[.slice (pZ w.heap.size) l.length l.length] 25)).alloc (.cells #[.slice (some ⟨b,bo,none⟩) l.length cap] 22)).heap[w.heap.size+1+1]?=some (.cells #[.slice (some ⟨b,bo,none⟩) l.length cap] 22 (0,0)):=alloc_at _ _ _ (by simp)
 have hI2:=h.below hb1;have hE0:endp l 0=l.length:=by
  have:=hT.whole;unfold Whole at this;simp [endp,this]
 gi_wp2
 generalize (((w.alloc (.cells M 3)).alloc (.cells #[.slice (pZ w.heap.size) l.length l.length] 25)).alloc (.cells #[.slice (some ⟨b,bo,none⟩) l.length cap] 22))=w2 at *;clear hmk hM hbk;refine wpIn_rangeFunc_ownH rfl (by omega) (gf:=122) (lb:=#[.pointer (pZ (w.heap.size+1+1))]) rfl trivial (enters_of Tryz.func122 (by kernel_rfl) rfl)
  (rback_stops Fence.wide 4 trivial rfl (by omega) (w.heap.size+1+1) b bo cap l hn w2 (by omega) (by rw [World.cell?,hB2];rfl) hI2) (fun h k=>h.trans k) (fun W k o o' hk _ _ _=>⟨by simp,fun i hi=>World.putObj_heap_other (fun e=>by simp at hi;omega)⟩) (Below.refl _ _) (fun _=>rfl)
  (fun pre W=>(∃ f,RowI W w.heap.size l.length f/\Okf l f/\(pre=dnto l.length pre.length->∀ j,l.length - pre.length<=j->j < l.length->f j=(endp l j:Int)))/\W.heap[w.heap.size+1]?=some (.cells #[.slice (pZ w.heap.size) l.length l.length] 25 (0,0))/\Below w.heap.size w W/\W.heap[w.heap.size+1+1]?=some (.cells #[.slice (some ⟨b,bo,none⟩) l.length cap] 22 (0,0)))
  (fun (_:Code) (_:List Nat) (_:World)=>False)
  (fun s A B row hs hg hr=>⟨?oI,?oX,?oB,?oS⟩)
  (fun _ s A B row hs _ _=>hs)
  ⟨⟨fun _=>0,hR2,fun i _=>Or.inl rfl,fun _ j h1 h2=>by simp at h1;omega⟩,hX2,hb1,hB2⟩
  (fun x a' W=>∃ B5,a'={ tmps:=#[.slice (some ⟨b,bo,none⟩) l.length cap,undef,.slice none 0 0,.pointer (pZ (w.heap.size+1)),I ((x % l.length:Nat):Int),.pointer (pZ B5),undef,.slice (some ⟨b,bo,none⟩) l.length cap,I (l.length:Int),.slice (pZ w.heap.size) l.length l.length,.slice (some ⟨b,bo,none⟩) l.length cap,.func (.func 122) #[] #[.pointer (pZ (w.heap.size+1+1))],I ((x % l.length:Nat):Int),rzV (rat l (x % l.length)),undef,undef,undef,undef,undef,undef,undef,undef,undef,undef,undef,undef,undef,undef,undef,undef],defers:=[] } /\ W.heap[B5]?=some (.cells #[I (rat l (x % l.length)).kind,.string (rat l (x % l.length)).name,I (rat l (x % l.length)).stop,I (rat l (x % l.length)).n,I (rat l (x % l.length)).kids] 61 (0,0))/\w.heap.size+1 < B5)
  (fun x a' s A B row hs hg hr=>?oA) ?assign ?body ?done ?stop
 case oI=>
  obtain ⟨f,hf,h1⟩:=hs.1;exact ⟨f,(grownBy_keeps_cells hg (fun r e=>(hr r e).2) hf rfl).trans hf,h1⟩
 case oX=>exact (grownBy_keeps_cells hg (fun r e=>(hr r e).2) hs.2.1 rfl).trans hs.2.1
 case oS=>exact (grownBy_keeps_cells hg (fun r e=>(hr r e).2) hs.2.2.2 rfl).trans hs.2.2.2
 case oB=>exact ownFrom_below (β:=Unit) (w₀:=w) (Nat.le_refl _) (B:=w2.heap.size) (by omega) () A B row hs.2.2.1 hg hr
 case oA=>
  obtain ⟨B5,h1,h2,h3⟩:=hs;exact ⟨B5,h1,(grownBy_keeps_cells hg (fun r e=>(hr r e).2) h2 rfl).trans h2,h3⟩
 case assign=>
  rintro q pre x W K ⟨⟨f,hf,h1⟩,h2,h3,h4⟩ hK;dsimp only at hK ⊢;generalize x % l.length=i at hK ⊢;generalize rat l i=r at hK ⊢
  gi_wp2
  refine hK _ _ ((KeepsOthers.alloc W _).from _) ⟨by simp,fun k hk=>alloc_old W _ k ?lt⟩ ⟨⟨f,hf.of_block (alloc_old W _ _ hf.lt),h1⟩,(alloc_old W _ _ (blk_lt h2)).trans h2,h3.alloc h3.size _,(alloc_old W _ _ (blk_lt h4)).trans h4⟩ ⟨W.heap.size,rfl,heap_alloc_new W _,blk_lt h2⟩
  have h5:=blk_lt h4;simp at hk;omega
 case body=>
  rintro q pre x a' W hq hloop ⟨⟨f,hf,hok,hpre⟩,hX,hB,hBx⟩ ⟨B5,rfl,hB5,hb5⟩ hplt;have hiL:x % l.length < l.length:=Nat.mod_lt _ h0;have hkid:=hT.kids (x % l.length) hiL;have hxi:pre++[x]=dnto l.length (pre++[x]).length->pre=dnto l.length pre.length/\x % l.length=l.length - (pre.length+1):=by
   intro he;rw [List.length_append,List.length_singleton,dnto_succ] at he;obtain ⟨e1,e2⟩:=List.append_inj' he rfl;have e3:x=l.length - 1 - pre.length:=by simpa using e2
   exact ⟨e1,by rw [Nat.mod_eq_of_lt (by omega)];omega⟩
  generalize x % l.length=i at *;have hend:=fun e (hs:Stf l f i (km l i) e)=>stf_end hT.whole hok hiL hs;have hstep:=fun k e (hk:k < km l i) (hs:Stf l f i k e)=>stf_step hT.whole hE0 hok hiL hk hs;have hst0:=stf_zero l f i;have hcx:W.cell? ⟨w.heap.size+1,0,none⟩=some (.slice (pZ w.heap.size) l.length l.length):=by rw [World.cell?,hX];rfl
  have hc4:W.cell? ⟨B5,4,none⟩=some (I (km l i:Int)):=by rw [World.cell?,hB5,<-hkid];rfl
  have hci:=hf.cell hiL;have hfi:=hf.frozen i;have hi':(i:Int) < (l.length:Int):=by omega
  have hkm:(km l i:Int)<=2932031007317:=by have:=km_le hT.whole hiL;omega
  generalize rat l i=r at *;generalize hfy:f i=fy at hci;clear hfy
  gi_wp2
  gi_loopw [6,18] (fun e k wr=>∃ (kk e':Nat),kk<=km l i/\e=I (e':Int)/\k=I (kk:Int)/\Stf l f i kk e'/\wr=W) (fun _ k _=>km l i - (intOf k).toNat)
  case atStart=>exact ⟨0,i+1,Nat.zero_le _,by simp,rfl,hst0,rfl⟩
  case round=>
   obtain ⟨kk,e',hk,rfl,rfl,hs,hw⟩:=hrel;rw [hw];clear hw;have hkk:(kk:Int)<=2932031007317:=by omega
   by_cases hlt:kk < km l i
   ·have hlt':(kk:Int) < (km l i:Int):=by omega
    obtain ⟨he1,e2,he2,hs2⟩:=hstep kk e' hlt hs;have he1':(e':Int) < (l.length:Int):=by omega
    have hce:=hf.cell he1;rw [he2] at hce
    gi_wp2
    go_roundw
    case rel=>exact ⟨kk+1,e2,by omega,rfl,by simp,hs2,by first | rfl | trivial⟩
    case measure=>simp [intOf];omega
   ·have hlt':¬ (kk:Int) < (km l i:Int):=by omega
    obtain rfl:kk=km l i:=by omega
    obtain ⟨h1,h2,h3⟩:=hend e' hs
    gi_wp2
    refine ⟨(KeepsOthers.setCell _ _ _).from _,⟨by simp,fun k hk=>Below.heap_setCell W _ _ k ?ne⟩,⟨setF f i (e':Int),hf.set i (e':Int),h2,fun he j hj1 hj2=>?_⟩,(Below.heap_setCell W _ _ _ (by simp)).trans hX,hB.trans ((Below.refl w.heap.size W).setCell (p:=⟨w.heap.size,i,none⟩) (Nat.le_refl _) _),(Below.heap_setCell W _ _ _ (by simp;omega)).trans hBx⟩
    case ne=>simp at hk;show k ≠ w.heap.size;omega
    obtain ⟨e1,e2⟩:=hxi he;rw [List.length_append,List.length_singleton] at hj1;exact h3 (fun j h4 h5=>hpre e1 j (by omega) h5) j (by omega) hj2
 case done=>
  rintro D ys W hD rfl ⟨⟨f,hf,hok,hpre⟩,hX,hB,hBx⟩ hK;rw [dnto_length] at hpre;have hcx:W.cell? ⟨w.heap.size+1,0,none⟩=some (.slice (pZ w.heap.size) l.length l.length):=by rw [World.cell?,hX];rfl
  gi_wp2
  refine ⟨by simp,.inl ⟨_,_,rfl,run_takeDeferred hK,?_⟩⟩
  have hne:w.heap.size ≠ D:=by omega
  refine ⟨.slice (pZ w.heap.size) l.length l.length,?_,w.heap.size,rfl,Nat.le_refl _,(hf.of_block (World.putObj_heap_other hne)).ext fun j hj=>hpre (by first | rfl | trivial) j (by omega) hj,hB.trans (belowK_b (w:=w) (Nat.le_refl _) _ D _ _ (by omega) hK rfl rfl)⟩
  simp [results,Tryz.f58,go_sem]
 case stop=>
  rintro D cc pre W hD _ h _;exact h.elim
end Go.Proofs.YtbledbjcghaanaaGreat.Nm.Ty
