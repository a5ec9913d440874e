import Derived.RangeFuncNested
import Derived.RangeFuncBound
import Derived.RangeFuncCalls
import Derived.RangeFuncBox
import Derived.RangeFuncLeaves
import Derived.Shelf.Abstract
import Derived.Shelf.RegionOpen
import Derived.OwnWalkIn
import Derived.TacticsInMore
import Derived.LoopNIn
import Derived.LoopIn
import Derived.Test.YtbledbjcghaanaaGreatK20
import Derived.Test.YtbledbjcghaanaaGreatTk
import Derived.Test.YtbledbjcghaanaaGreatK21
set_option maxHeartbeats 25600000
set_option maxRecDepth 100000
namespace Go.Proofs.YtbledbjcghaanaaGreat.Nm.Ty
open Go.RowKit Go.Shelf Sp Lx Gr
attribute [local go_sem] Oper.semAt_some
def dnto (n k:Nat):List Nat:=(List.range k).map (fun j=>n - 1 - j)
theorem dnto_succ (n k:Nat):dnto n (k+1)=dnto n k++[n - 1 - k]:=by simp [dnto,List.range_succ]
theorem dnto_length (n k:Nat):(dnto n k).length=k:=by simp [dnto]
def Kq (S:List Nat) (U V:World):Prop:=U.heap.size<=V.heap.size/\∀ k ∈ S,V.heap[k]?=U.heap[k]?
theorem Kq.refl (S:List Nat) (U:World):Kq S U U:=⟨Nat.le_refl _,fun _ _=>rfl⟩
theorem Kq.trans {S:List Nat} {U V X:World} (h:Kq S U V) (k:Kq S V X):Kq S U X:=⟨Nat.le_trans h.1 k.1,fun i hi=>(k.2 i hi).trans (h.2 i hi)⟩
abbrev rzV (r:Rz):Value:=.agg #[.int .i64 r.kind,.string r.name,.int .i64 r.stop,.int .i64 r.n,.int .i64 r.kids]
theorem rback_in (F:Fence) (n:Nat) (h8:F.fn 122) (hro:F.round=none) (hn:1<=n) (l Bs b bo cap:Nat) (L:List Rz) (hreach:L.length<=2932031007317) (J Jx:List Nat->World->Prop)
  (hY:∀ pre x W,J pre W->pre.length < L.length->YieldAt F (n - 1) Tryz.prog l #[.int .i64 ((x % L.length:Nat):Int),rzV (rat L (x % L.length))] W fun e W'=>
   (e=.returned (.bool true)/\J (pre++[x]) W'/\Kq [Bs,b] W W')\/(e=.returned (.bool false)/\Jx (pre++[x]) W'))
  (W:World) (hBs:W.cell? ⟨Bs,0,none⟩=some (.slice (some ⟨b,bo,none⟩) L.length cap)) (hc:IsRz W (some ⟨b,bo,none⟩) L) (h0:J [] W):
  CallsIn F n Tryz.prog 122 #[.func (.yield l) #[] #[],.pointer (some ⟨Bs,0,none⟩)] W fun e W'=>(∃ v,e=.returned v) /\
   ((∃ ys,ys=dnto L.length L.length/\J ys W')\/(∃ pre,(∃ k,k<=L.length/\pre=dnto L.length k)/\Jx pre W')):=by
 have hrc:(L.length:Int)<=2932031007317:=by omega
 refine callsIn_of_wp Tryz.func122 rfl h8 ?_ hro
 simp only [Tryz.ntmps122,List.size_toArray,List.length_cons,List.length_nil,Nat.reduceAdd,Nat.reduceSub,Array.replicate_succ,Array.replicate_zero,List.push_toArray,List.append_toArray,List.nil_append,List.cons_append]
 gi_wp2
 gi_loopw [3] (fun i wr=>∃ k:Nat,k<=L.length/\i=.int .i64 ((L.length:Int) - 1 - k)/\J (dnto L.length k) wr/\Kq [Bs,b] W wr)
  (fun i _=>(intOf i+1).toNat)
 case atStart=>exact ⟨0,Nat.zero_le _,by simp,h0,Kq.refl _ _⟩
 case round=>
  obtain ⟨k,hk,rfl,hJs,hnx⟩:=hrel
  have hcs:wr.cell? ⟨Bs,0,none⟩=some (.slice (some ⟨b,bo,none⟩) L.length cap):=(World.cell?_of_block (a:=⟨Bs,0,none⟩) (hnx.2 Bs (by simp))).trans hBs
  by_cases hlt:k < L.length
  ·obtain ⟨pk,hpk⟩:∃ pk,pk=L.length - 1 - k:=⟨_,rfl⟩
   have hi:(L.length:Int) - 1 - (k:Int)=(pk:Int):=by omega
   rw [hi]
   have hpl:pk < L.length:=by omega
   have hpl':(pk:Int) < (L.length:Int):=by omega
   have hJn:dnto L.length (k+1)=dnto L.length k++[pk]:=by rw [dnto_succ,<-hpk]
   obtain ⟨fn,tmps,assign,body,hy,hR⟩:=hY _ pk wr hJs (by rw [dnto_length];exact hlt)
   rw [Nat.mod_eq_of_lt hpl] at hy
   obtain ⟨g,o,e,_,c0,c1,c2,c3,c4⟩:=row_cells hc hpl
   cases e
   have hcell:∀ j v,W.cell? ⟨b,j,none⟩=some v->wr.cell? ⟨b,j,none⟩=some v:=fun j v h=>(World.cell?_of_block (a:=⟨b,j,none⟩) (hnx.2 b (by simp))).trans h
   have d0:=hcell _ _ c0
   have d1:=hcell _ _ c1
   have d2:=hcell _ _ c2
   have d3:=hcell _ _ c3
   have d4:=hcell _ _ c4
   clear hcell c0 c1 c2 c3 c4 hpk
   generalize rat L pk=r at *
   gi_wp2
   refine hR.mono ?_
   rintro e W3 (⟨rfl,hJ3,hk3⟩ | ⟨rfl,hJx3⟩)
   ·gi_wp2
    go_roundw
    case rel=>exact ⟨k+1,by omega,by simp;omega,by rw [hJn];exact hJ3,hnx.trans hk3⟩
    case measure=>simp [intOf]
   ·gi_wp2
    refine bodyPost_ret (results_none rfl _ _ _) rfl ?_
    exact ⟨⟨_,rfl⟩,.inr ⟨_,⟨k+1,by omega,hJn.symm⟩,hJx3⟩⟩
  ·obtain rfl:k=L.length:=by omega
   have hi:(L.length:Int) - 1 - (L.length:Int)=-1:=by omega
   rw [hi]
   gi_wp2
   go_end0
   exact ⟨⟨_,rfl⟩,.inl ⟨_,rfl,hJs⟩⟩
theorem rbackward_any (a:Option Addr) (len cap:Nat) (w:World):
  Calls Tryz.prog 89 #[.slice a len cap] w fun e w'=>e=.returned (.func (.func 122) #[] #[.pointer (some ⟨w.heap.size,0,none⟩)])/\w'=w.alloc (.cells #[.slice a len cap] 22):=by
 have hmf:∀ (fn:Fn) (first cap:Array Value) (w:World),(Instr.makeFunc fn first cap).run Tryz.prog w=.ok (.func fn first cap) w:=fun _ _ _ _=>rfl
 go_enter Tryz.func89,Tryz.ntmps89
 go_wp2
 go_ret
 exact ⟨rfl,rfl⟩
theorem rback_stops (F:Fence) (n:Nat) (h8:F.fn 122) (hro:F.round=none) (hn:1<=n) (Bs b bo cap:Nat) (L:List Rz) (hreach:L.length<=2932031007317) (w:World) (hBs:Bs < w.heap.size)
  (hc:w.cell? ⟨Bs,0,none⟩=some (.slice (some ⟨b,bo,none⟩) L.length cap)) (hI:IsRz w (some ⟨b,bo,none⟩) L):
  SeqStopsK F n Tryz.prog 122 #[.pointer (some ⟨Bs,0,none⟩)] (fun x:Nat=>#[Value.int .i64 ((x % L.length:Nat):Int),rzV (rat L (x % L.length))]) (Kq [Bs,b]) (fun ys=>ys=dnto L.length L.length)
   (fun pre=>∃ k,k<=L.length/\pre=dnto L.length k) L.length w:=fun l J Jx W hW _ _ hY h0=>
 rback_in F n h8 hro hn l Bs b bo cap L hreach J Jx hY W ((hW.cell (p:=⟨Bs,0,none⟩) hBs).trans hc) (hI.below hW) h0
attribute [local go_sem] Oper.semAt_some
theorem ends_any {l:List Rz} {ao:Option Addr} {cap:Nat} {w:World} (h:IsRz w ao l) (hn:l.length<=2932031007317) (hT:TreeZ l) (h0:0 < l.length):
  Calls Tryz.prog 58 #[.slice ao l.length cap] w fun e w'=>∃ g,e=.returned (.slice (some ⟨g,0,none⟩) l.length l.length)/\w.heap.size<=g/\RowI w' g l.length (fun i=>(endp l i:Int))/\Below w.heap.size w w':=by
 obtain ⟨M,hmk,hM⟩:=mk_ints l.length hn
 have hln:(l.length:Int)<=2932031007317:=by omega
 have hbk:=rbackward_any ao l.length cap
 have hb1:Below w.heap.size w (((w.alloc (.cells M 3)).alloc (.cells #[.slice (some ⟨w.heap.size,0,none⟩) l.length l.length] 25)).alloc (.cells #[.slice ao l.length cap] 22)):=((bAl w _).alloc (by simp) _).alloc (by simp;omega) _
 have hnil:∀ (cp:Array Value) (u:World),(binOp BinOp.eql 132 (.func (.func 122) #[] cp) .nilFunc).run Tryz.prog u=.ok (.bool false) u:=fun _ _=>rfl
 refine (callsIn_wide (n:=5)).1 ?_
 refine callsIn_of_wp_marks Tryz.func58 rfl trivial ?_ rfl
 simp only [Tryz.ntmps58,List.size_toArray,List.length_cons,List.length_nil,Nat.reduceAdd,Nat.reduceSub,Array.replicate_succ,Array.replicate_zero,List.push_toArray,List.append_toArray,List.nil_append,List.cons_append]
 gi_wp2
 refine ⟨trivial,(callsIn_wide.2 (hbk _)).mono ?_⟩
 rintro e w2 ⟨rfl,rfl⟩
 have hRb:=row_cells h h0
 obtain ⟨b,bo,rfl,hb,_⟩:=hRb
 have hz2:(((w.alloc (.cells M 3)).alloc (.cells #[.slice (some ⟨w.heap.size,0,none⟩) l.length l.length] 25)).alloc (.cells #[.slice (some ⟨b,bo,none⟩) l.length cap] 22)).heap.size=w.heap.size+3:=by simp
 have hR2:RowI (((w.alloc (.cells M 3)).alloc (.cells #[.slice (some ⟨w.heap.size,0,none⟩) l.length l.length] 25)).alloc (.cells #[.slice (some ⟨b,bo,none⟩) l.length cap] 22)) w.heap.size l.length (fun _=>0):=(hM w).of_block ((alloc_old _ _ _ (by simp;omega)).trans (alloc_old _ _ _ (by simp)))
 have hX2:(((w.alloc (.cells M 3)).alloc (.cells #[.slice (some ⟨w.heap.size,0,none⟩) l.length l.length] 25)).alloc (.cells #[.slice (some ⟨b,bo,none⟩) l.length cap] 22)).heap[w.heap.size+1]?=some (.cells #[.slice (some ⟨w.heap.size,0,none⟩) l.length l.length] 25 (0,0)):=by
  rw [alloc_old _ _ _ (by simp)]
  exact alloc_at _ _ _ (by simp)
 have hB2:(((w.alloc (.cells M 3)).alloc (.cells #[.slice (some ⟨w.heap.size,0,none⟩) l.length l.length] 25)).alloc (.cells #[.slice (some ⟨b,bo,none⟩) l.length cap] 22)).heap[w.heap.size+1+1]?=some (.cells #[.slice (some ⟨b,bo,none⟩) l.length cap] 22 (0,0)):=alloc_at _ _ _ (by simp)
 have hI2:=h.below hb1
 have hE0:endp l 0=l.length:=by
  have:=hT.whole
  unfold Whole at this
  simp [endp,this]
 gi_wp2
 generalize (((w.alloc (.cells M 3)).alloc (.cells #[.slice (some ⟨w.heap.size,0,none⟩) l.length l.length] 25)).alloc (.cells #[.slice (some ⟨b,bo,none⟩) l.length cap] 22))=w2 at *
 clear hmk hM hbk
 refine wpIn_rangeFunc_ownH rfl (by omega) (gf:=122) (lb:=#[.pointer (some ⟨w.heap.size+1+1,0,none⟩)]) rfl trivial (enters_of Tryz.func122 (by kernel_rfl) rfl)
  (rback_stops Fence.wide 4 trivial rfl (by omega) (w.heap.size+1+1) b bo cap l hn w2 (by omega) (by rw [World.cell?,hB2];rfl) hI2) (fun h k=>h.trans k) (fun W k o o' hk _ _ _=>⟨by simp,fun i hi=>World.putObj_heap_other (fun e=>by simp at hi;omega)⟩) (Below.refl _ _) (fun _=>rfl)
  (fun pre W=>(∃ f,RowI W w.heap.size l.length f/\Okf l f/\(pre=dnto l.length pre.length->∀ j,l.length - pre.length<=j->j < l.length->f j=(endp l j:Int)))/\W.heap[w.heap.size+1]?=some (.cells #[.slice (some ⟨w.heap.size,0,none⟩) l.length l.length] 25 (0,0))/\Below w.heap.size w W/\W.heap[w.heap.size+1+1]?=some (.cells #[.slice (some ⟨b,bo,none⟩) l.length cap] 22 (0,0)))
  (fun (_:Code) (_:List Nat) (_:World)=>False)
  (fun s A B row hs hg hr=>⟨?oI,?oX,?oB,?oS⟩)
  (fun _ s A B row hs _ _=>hs)
  ⟨⟨fun _=>0,hR2,fun i _=>Or.inl rfl,fun _ j h1 h2=>by simp at h1;omega⟩,hX2,hb1,hB2⟩
  (fun x a' W=>∃ B5,a'={ tmps:=#[.slice (some ⟨b,bo,none⟩) l.length cap,undef,.slice none 0 0,.pointer (some ⟨w.heap.size+1,0,none⟩),.int .i64 ((x % l.length:Nat):Int),.pointer (some ⟨B5,0,none⟩),undef,.slice (some ⟨b,bo,none⟩) l.length cap,.int .i64 (l.length:Int),.slice (some ⟨w.heap.size,0,none⟩) l.length l.length,.slice (some ⟨b,bo,none⟩) l.length cap,.func (.func 122) #[] #[.pointer (some ⟨w.heap.size+1+1,0,none⟩)],.int .i64 ((x % l.length:Nat):Int),rzV (rat l (x % l.length)),undef,undef,undef,undef,undef,undef,undef,undef,undef,undef,undef,undef,undef,undef,undef,undef],defers:=[] } /\ W.heap[B5]?=some (.cells #[.int .i64 (rat l (x % l.length)).kind,.string (rat l (x % l.length)).name,.int .i64 (rat l (x % l.length)).stop,.int .i64 (rat l (x % l.length)).n,.int .i64 (rat l (x % l.length)).kids] 61 (0,0))/\w.heap.size+1 < B5)
  (fun x a' s A B row hs hg hr=>?oA) ?assign ?body ?done ?stop
 case oI=>
  obtain ⟨f,hf,h1⟩:=hs.1
  exact ⟨f,(grownBy_keeps_cells hg (fun r e=>(hr r e).2) hf rfl).trans hf,h1⟩
 case oX=>exact (grownBy_keeps_cells hg (fun r e=>(hr r e).2) hs.2.1 rfl).trans hs.2.1
 case oS=>exact (grownBy_keeps_cells hg (fun r e=>(hr r e).2) hs.2.2.2 rfl).trans hs.2.2.2
 case oB=>exact ownFrom_below (β:=Unit) (w₀:=w) (Nat.le_refl _) (B:=w2.heap.size) (by omega) () A B row hs.2.2.1 hg hr
 case oA=>
  obtain ⟨B5,h1,h2,h3⟩:=hs
  exact ⟨B5,h1,(grownBy_keeps_cells hg (fun r e=>(hr r e).2) h2 rfl).trans h2,h3⟩
 case assign=>
  rintro q pre x W K ⟨⟨f,hf,h1⟩,h2,h3,h4⟩ hK
  dsimp only at hK ⊢
  generalize x % l.length=i at hK ⊢
  generalize rat l i=r at hK ⊢
  gi_wp2
  refine hK _ _ ((KeepsOthers.alloc W _).from _) ⟨by simp,fun k hk=>alloc_old W _ k ?lt⟩ ⟨⟨f,hf.of_block (alloc_old W _ _ hf.lt),h1⟩,(alloc_old W _ _ (blk_lt h2)).trans h2,h3.alloc h3.size _,(alloc_old W _ _ (blk_lt h4)).trans h4⟩ ⟨W.heap.size,rfl,heap_alloc_new W _,blk_lt h2⟩
  have h5:=blk_lt h4
  simp at hk
  omega
 case body=>
  rintro q pre x a' W hq hloop ⟨⟨f,hf,hok,hpre⟩,hX,hB,hBx⟩ ⟨B5,rfl,hB5,hb5⟩ hplt
  have hiL:x % l.length < l.length:=Nat.mod_lt _ h0
  have hkid:=hT.kids (x % l.length) hiL
  have hxi:pre++[x]=dnto l.length (pre++[x]).length->pre=dnto l.length pre.length/\x % l.length=l.length - (pre.length+1):=by
   intro he
   rw [List.length_append,List.length_singleton,dnto_succ] at he
   obtain ⟨e1,e2⟩:=List.append_inj' he rfl
   have e3:x=l.length - 1 - pre.length:=by simpa using e2
   exact ⟨e1,by rw [Nat.mod_eq_of_lt (by omega)];omega⟩
  generalize x % l.length=i at *
  have hend:=fun e (hs:Stf l f i (km l i) e)=>stf_end hT.whole hok hiL hs
  have hstep:=fun k e (hk:k < km l i) (hs:Stf l f i k e)=>stf_step hT.whole hE0 hok hiL hk hs
  have hst0:=stf_zero l f i
  have hcx:W.cell? ⟨w.heap.size+1,0,none⟩=some (.slice (some ⟨w.heap.size,0,none⟩) l.length l.length):=by rw [World.cell?,hX];rfl
  have hc4:W.cell? ⟨B5,4,none⟩=some (.int .i64 (km l i:Int)):=by rw [World.cell?,hB5,<-hkid];rfl
  have hci:=hf.cell hiL
  have hfi:=hf.frozen i
  have hi':(i:Int) < (l.length:Int):=by omega
  have hkm:(km l i:Int)<=2932031007317:=by have:=km_le hT.whole hiL;omega
  generalize rat l i=r at *
  generalize hfy:f i=fy at hci
  clear hfy
  gi_wp2
  gi_loopw [6,18] (fun e k wr=>∃ (kk e':Nat),kk<=km l i/\e=.int .i64 (e':Int)/\k=.int .i64 (kk:Int)/\Stf l f i kk e'/\wr=W) (fun _ k _=>km l i - (intOf k).toNat)
  case atStart=>exact ⟨0,i+1,Nat.zero_le _,by simp,rfl,hst0,rfl⟩
  case round=>
   obtain ⟨kk,e',hk,rfl,rfl,hs,hw⟩:=hrel
   rw [hw]
   clear hw
   have hkk:(kk:Int)<=2932031007317:=by omega
   by_cases hlt:kk < km l i
   ·have hlt':(kk:Int) < (km l i:Int):=by omega
    obtain ⟨he1,e2,he2,hs2⟩:=hstep kk e' hlt hs
    have he1':(e':Int) < (l.length:Int):=by omega
    have hce:=hf.cell he1
    rw [he2] at hce
    gi_wp2
    go_roundw
    case rel=>exact ⟨kk+1,e2,by omega,rfl,by simp,hs2,by first | rfl | trivial⟩
    case measure=>simp [intOf];omega
   ·have hlt':¬ (kk:Int) < (km l i:Int):=by omega
    obtain rfl:kk=km l i:=by omega
    obtain ⟨h1,h2,h3⟩:=hend e' hs
    gi_wp2
    refine ⟨(KeepsOthers.setCell _ _ _).from _,⟨by simp,fun k hk=>Below.heap_setCell W _ _ k ?ne⟩,⟨setF f i (e':Int),hf.set i (e':Int),h2,fun he j hj1 hj2=>?_⟩,(Below.heap_setCell W _ _ _ (by simp)).trans hX,hB.trans ((Below.refl w.heap.size W).setCell (p:=⟨w.heap.size,i,none⟩) (Nat.le_refl _) _),(Below.heap_setCell W _ _ _ (by simp;omega)).trans hBx⟩
    case ne=>simp at hk;show k ≠ w.heap.size;omega
    obtain ⟨e1,e2⟩:=hxi he
    rw [List.length_append,List.length_singleton] at hj1
    exact h3 (fun j h4 h5=>hpre e1 j (by omega) h5) j (by omega) hj2
 case done=>
  rintro D ys W hD rfl ⟨⟨f,hf,hok,hpre⟩,hX,hB,hBx⟩ hK
  rw [dnto_length] at hpre
  have hcx:W.cell? ⟨w.heap.size+1,0,none⟩=some (.slice (some ⟨w.heap.size,0,none⟩) l.length l.length):=by rw [World.cell?,hX];rfl
  gi_wp2
  refine ⟨by simp,.inl ⟨_,_,rfl,run_takeDeferred hK,?_⟩⟩
  have hne:w.heap.size ≠ D:=by omega
  refine ⟨.slice (some ⟨w.heap.size,0,none⟩) l.length l.length,?_,w.heap.size,rfl,Nat.le_refl _,(hf.of_block (World.putObj_heap_other hne)).ext fun j hj=>hpre (by first | rfl | trivial) j (by omega) hj,hB.trans (belowK_b (w:=w) (Nat.le_refl _) _ D _ _ (by omega) hK rfl rfl)⟩
  simp [results,Tryz.f58,go_sem]
 case stop=>
  rintro D cc pre W hD _ h _
  exact h.elim
end Go.Proofs.YtbledbjcghaanaaGreat.Nm.Ty
namespace Go.Proofs.YtbledbjcghaanaaGreat.Nm.Ty
open Go.RowKit Go.Maps Sp Lx Gr
theorem cells2 {wq:World} {B:Nat} {v0 v1:Value} {T:TypeId} (h:wq.heap[B]?=some (.cells #[v0,v1] T (0,0))):wq.cell? ⟨B,0,none⟩=some v0/\wq.cell? ⟨B,1,none⟩=some v1:=by
 refine ⟨?_,?_⟩
 all_goals
  simp only [World.cell?,h]
  rfl
theorem put2L {n:Nat} {w wx:World} {B:Nat} {T:TypeId} {a b v0 v1:Value} (hb:Below n w wx) (hB:n<=B) (hz:wx.heap[B]?=some (.cells #[a,b] T (0,0))):((wx.setCell ⟨B,0,none⟩ v0).setCell ⟨B,1,none⟩ v1).heap[B]?=some (.cells #[v0,v1] T (0,0))/\Below n w ((wx.setCell ⟨B,0,none⟩ v0).setCell ⟨B,1,none⟩ v1):=by
 have h0:=set_at hz v0 (cs':=#[v0,b]) (i:=0) rfl
 have h1:=set_at h0 v1 (cs':=#[v0,v1]) (i:=1) rfl
 exact ⟨h1,(hb.trans ((Below.refl n wx).setCell (p:=⟨B,0,none⟩) hB _)).trans ((Below.refl n _).setCell (p:=⟨B,1,none⟩) hB _)⟩
theorem flt_stop {l:List Rz} {gh:Nat->Bool} {m:Nat} (h:(fltN l gh m).1 ≠ 0):∀ d,fltN l gh (m+d)=fltN l gh m:=by
 intro d
 induction d with
 | zero=>rfl
 | succ d ih=>
  show (if (fltN l gh (m+d)).1 ≠ 0 then fltN l gh (m+d) else _)=_
  rw [ih,if_pos h]
theorem flt_at {l:List Rz} {gh:Nat->Bool} {m n:Nat} (h0:fltN l gh m=(0,0)) (hc:fltZ l gh m ≠ 0) (hm:m < n):fltN l gh n=(fltZ l gh m,m):=by
 have e:fltN l gh (m+1)=(fltZ l gh m,m):=by
  show (if (fltN l gh m).1 ≠ 0 then fltN l gh m else if fltZ l gh m ≠ 0 then (fltZ l gh m,m) else (0,0))=_
  rw [h0,if_neg (by simp),if_pos hc]
 have:=flt_stop (m:=m+1) (by rw [e];exact hc) (n - (m+1))
 rw [show m+1+(n - (m+1))=n by omega,e] at this
 exact this
theorem flt_no {l:List Rz} {gh:Nat->Bool} {m:Nat} (h0:fltN l gh m=(0,0)) (hc:fltZ l gh m=0):fltN l gh (m+1)=(0,0):=by
 show (if (fltN l gh m).1 ≠ 0 then fltN l gh m else if fltZ l gh m ≠ 0 then (fltZ l gh m,m) else (0,0))=_
 rw [h0,if_neg (by simp),if_neg (by simp [hc])]
theorem con_le {l:List Rz} (hT:TreeZ l) (hL:∀ i,i < l.length->(rat l i).kind=13->i+1 < l.length):∀ m,m<=l.length->conN l m<=l.length:=by
 intro m
 induction m with
 | zero=>intro _;exact Nat.zero_le _
 | succ m ih=>
  intro hm
  have h1:=ih (by omega)
  have h2:=(end_kid hT.whole (i:=m) (by omega)).2.2
  have h3:(rat l m).kind=13->endp l (m+1)<=l.length:=fun h=>(end_kid hT.whole (hL m (by omega) h)).2.2
  show max (conN l m) (tillZ l m)<=_
  unfold tillZ
  dsimp only
  split
  ·omega
  ·split
   ·rename_i h;have:=h3 h;omega
   ·omega
theorem fault_any {l:List Rz} {qs:List (ByteArray × Bool)} {ao qo po eo:Option Addr} {ac qc pc ec:Nat} {w:World} (h:IsRg w l (qF qs) ao qo po eo) (hn:l.length<=2932031007317) (hT:TreeZ l) (hQ:Qs l qs) (hql:qs.length<=2932031007317) (hL:∀ i,i < l.length->(rat l i).kind=13->i+1 < l.length):
  Calls Tryz.prog 60 #[.agg (rgC l qs.length ao qo po eo ac qc pc ec)] w fun e w'=>e=.returned (.agg #[.int .i64 ((fltN l (ghL qs) l.length).1:Nat),.int .i64 ((fltN l (ghL qs) l.length).2:Nat)])/\Below w.heap.size w w':=by
 have HI:Hid (IsRg w l (qF qs) ao qo po eo):=h
 have HCl:Hid (∀ m,m<=l.length->conN l m<=l.length):=con_le hT hL
 have hln:(l.length:Int)<=2932031007317:=by omega
 have hient:=is_enter
 have hifn:=is_fn
 have HAs:Hid (∀ W:World,IsRg W l (qF qs) ao qo po eo->Calls Tryz.prog 91 #[.agg (rgC l qs.length ao qo po eo ac qc pc ec)] W fun e w'=>∃ g,e=.returned (.slice (some ⟨g,0,none⟩) l.length l.length)/\W.heap.size<=g/\RowI w' g l.length (asksN l l.length)/\Below W.heap.size W w'):=fun W hW=>asks_any hW hn hT
 have HOt:Hid (∀ (i:Nat) (W:World),IsRg W l (qF qs) ao qo po eo->i < l.length->Calls Tryz.prog 92 #[.agg (rgC l qs.length ao qo po eo ac qc pc ec),.int .i64 i] W fun e w'=>e=.returned (.bool (othZ l (ghL qs) i))/\Below W.heap.size W w'):=fun i W hW hi=>other_any i hW hn hi hQ hql
 have HTi:Hid (∀ (i:Nat) (W:World),IsRg W l (qF qs) ao qo po eo->i < l.length->Calls Tryz.prog 93 #[.agg (rgC l qs.length ao qo po eo ac qc pc ec),.int .i64 i] W fun e w'=>e=.returned (.int .i64 (tillZ l i:Nat))/\Below W.heap.size W w'):=fun i W hW hi=>till_any i hW hn hi (hL i hi)
 have H0:Hid (Below w.heap.size w ((w.alloc (.cells (rgC l qs.length ao qo po eo ac qc pc ec) 65)).alloc (.cells #[.int .i64 0,.int .i64 0] 32))/\((w.alloc (.cells (rgC l qs.length ao qo po eo ac qc pc ec) 65)).alloc (.cells #[.int .i64 0,.int .i64 0] 32)).heap[w.heap.size]?=some (.cells (rgC l qs.length ao qo po eo ac qc pc ec) 65 (0,0))/\((w.alloc (.cells (rgC l qs.length ao qo po eo ac qc pc ec) 65)).alloc (.cells #[.int .i64 0,.int .i64 0] 32)).heap[w.heap.size+1]?=some (.cells #[.int .i64 0,.int .i64 0] 32 (0,0))):=
  ⟨(bAl w _).alloc (by simp) _,(Below.heap_alloc _ _ _ (by simp)).trans (heap_alloc_new w _),by have:=heap_alloc_new (w.alloc (.cells (rgC l qs.length ao qo po eo ac qc pc ec) 65)) (.cells #[.int .i64 0,.int .i64 0] 32);rw [World.size_alloc] at this;exact this⟩
 dsimp only [rgC] at *
 clear h hn hT hQ hql hL
 have HA1:=hdn <| HAs.out _ (HI.out.below H0.out.1)
 obtain ⟨b0,b1,b2,b3⟩:=cells4 H0.out.2.1
 go_enter Tryz.func60,Tryz.ntmps60
 go_wp2_with fail
 generalize ((w.alloc (.cells #[.slice ao l.length ac,.slice qo qs.length qc,.slice po l.length pc,.slice eo l.length ec] 65)).alloc (.cells #[.int .i64 0,.int .i64 0] 32))=w1 at *
 refine Calls.mono HA1.out ?_
 rintro e w2 ⟨gA,rfl,hgA,hRA,hb2⟩
 have H2:Hid ((RowI w2 gA l.length (asksN l l.length)/\w.heap.size+1 < gA)/\Below w.heap.size w w2/\w2.heap[w.heap.size]?=some (.cells #[.slice ao l.length ac,.slice qo qs.length qc,.slice po l.length pc,.slice eo l.length ec] 65 (0,0))/\w2.heap[w.heap.size+1]?=some (.cells #[.int .i64 0,.int .i64 0] 32 (0,0))):=⟨⟨hRA,by have:=blk_lt H0.out.2.2;omega⟩,H0.out.1.trans (hb2.mono H0.out.1.size),(hb2.block _ (blk_lt H0.out.2.1)).trans H0.out.2.1,(hb2.block _ (blk_lt H0.out.2.2)).trans H0.out.2.2⟩
 clear hgA hRA hb2 HA1 H0 b0 b1 b2 b3 HAs
 obtain ⟨b0,b1,b2,b3⟩:=cells4 H2.out.2.2.1
 go_wp2_with fail
 clear b0 b1 b2 b3
 go_loopg [4,12] l.length (fun gq c x wr=>∃ m:Nat,m<=l.length/\gq=l.length - m/\c=.int .i64 (conN l m:Nat)/\x=.int .i64 m/\fltN l (ghL qs) m=(0,0)/\(RowI wr gA l.length (asksN l l.length)/\w.heap.size+1 < gA)/\Below w.heap.size w wr/\wr.heap[w.heap.size]?=some (.cells #[.slice ao l.length ac,.slice qo qs.length qc,.slice po l.length pc,.slice eo l.length ec] 65 (0,0))/\wr.heap[w.heap.size+1]?=some (.cells #[.int .i64 0,.int .i64 0] 32 (0,0)))
 case atStart=>exact ⟨0,Nat.zero_le _,rfl,by go_num,by go_num,rfl,H2.out⟩
 case round=>
  obtain ⟨m,hm,hgk,rfl,rfl,hf0,hrel⟩:=hrel
  have HR:Hid ((RowI wr gA l.length (asksN l l.length)/\w.heap.size+1 < gA)/\Below w.heap.size w wr/\wr.heap[w.heap.size]?=some (.cells #[.slice ao l.length ac,.slice qo qs.length qc,.slice po l.length pc,.slice eo l.length ec] 65 (0,0))/\wr.heap[w.heap.size+1]?=some (.cells #[.int .i64 0,.int .i64 0] 32 (0,0))):=hrel
  have HF0:Hid (fltN l (ghL qs) m=(0,0)):=hf0
  have HG:Hid (gk=l.length - m):=hgk
  have HCn:Hid (conN l (m+1)=max (conN l m) (tillZ l m)):=rfl
  have hcn:(conN l m:Int)<=2932031007317:=by have:=HCl.out m hm;omega
  clear hgk hrel hf0 H2
  by_cases hlt:m < l.length
  ·have hlt':(m:Int) < (l.length:Int):=by omega
   have HFz:Hid (fltZ l (ghL qs) m=if asksN l l.length m ≠ 0/\asksN l l.length m ≠ (rP l m).is then 41 else if m < conN l m/\(rP l m).changing=true then 42 else if othZ l (ghL qs) m=true then 46 else 0):=rfl
   have HFat:=hdn <| fun hc=>flt_at (n:=l.length) HF0.out hc hlt
   have HFno:=hdn <| flt_no (l:=l) (gh:=ghL qs) HF0.out
   obtain ⟨gp,op,rfl,hgp,cp⟩:=(HI.out.below HR.out.2.1).part hlt
   have ca:=HR.out.1.1.cell hlt
   have ya:∀ y:Kin wr,y.u.cell? ⟨gA,m,none⟩=some (.int .i64 (asksN l l.length m)):=fun y=>y.cell (a:=⟨gA,m,none⟩) HR.out.1.1.lt ca
   have HCi:Hid (∀ y:Kin wr,Calls Tryz.prog (rP l m).isF #[(rP l m).D] y.u fun e w'=>e=.returned (.int .i64 (rP l m).is)/\Below y.u.heap.size y.u w'):=fun y=>is_any _ _
   have HCc:Hid (∀ W:World,Calls Tryz.prog 71 #[(rP l m).V] W fun e w'=>e=.returned (.bool (rP l m).changing)/\Below W.heap.size W w'):=fun W=>changing_any _ _
   have HCo:=hdn <| fun (W:World) (hW:Below wr.heap.size wr W)=>HOt.out m W ((HI.out.below HR.out.2.1).below hW) hlt
   have HCt:=hdn <| fun (W:World) (hW:Below wr.heap.size wr W)=>HTi.out m W ((HI.out.below HR.out.2.1).below hW) hlt
   have HTl:Hid (tillZ l m<=l.length):=by have h1:=HCl.out (m+1) (by omega);rw [HCn.out] at h1;show _<=_;omega
   generalize rP l m=x at *
   generalize asksN l l.length m=ak at *
   generalize othZ l (ghL qs) m=ot at *
   generalize fltZ l (ghL qs) m=fz at *
   generalize hcg:conN l m=cn at *
   generalize tillZ l m=tl at *
   clear hcg HOt HTi
   have HFz0:∀ {W:World},W.heap[w.heap.size+1]?=some (.cells #[.int .i64 0,.int .i64 0] 32 (0,0))->∀ j,W.frozen? ⟨w.heap.size+1,j,none⟩=false:=fun h j=>by simp only [World.frozen?,h];rfl
   by_cases hA0:ak=0
   case' pos=>
    have HnA:Hid (¬ (ak ≠ 0/\ak ≠ x.is)):=fun h=>h.1 hA0
    have hA0':(ak != 0)=false:=by simp [hA0]
    go_wp2_with fail
    refine wp_region_kin (by kernel_rfl) (by kernel_rfl) ?_
    iterate 15 quiet_step (first | with_reducible rfl | exact kin_of (HCi.out _))
    refine wpQuiet_nil ?_
    rintro _ ⟨y,rfl⟩
    have HBq:Hid (Below w.heap.size w y.u/\y.u.heap[w.heap.size]?=some (.cells #[.slice ao l.length ac,.slice qo qs.length qc,.slice (some ⟨gp,op,none⟩) l.length pc,.slice eo l.length ec] 65 (0,0))/\y.u.heap[w.heap.size+1]?=some (.cells #[.int .i64 0,.int .i64 0] 32 (0,0))/\Below wr.heap.size wr y.u):=⟨HR.out.2.1.trans (y.ok.mono HR.out.2.1.size),(y.ok.block _ (blk_lt HR.out.2.2.1)).trans HR.out.2.2.1,(y.ok.block _ (blk_lt HR.out.2.2.2)).trans HR.out.2.2.2,y.ok⟩
    clear ya HCi
    generalize y.u=w4 at *
    clear y
   case' neg=>
    have hA0':(ak != 0)=true:=by simp [hA0]
    by_cases hAe:ak=x.is
    case' pos=>
     have HnA:Hid (¬ (ak ≠ 0/\ak ≠ x.is)):=fun h=>h.2 hAe
     have hAe':(ak != x.is)=false:=by simp [hAe]
     clear hAe
     go_wp2_with fail
     refine wp_region_kin (by kernel_rfl) (by kernel_rfl) ?_
     iterate 15 quiet_step (first | with_reducible rfl | exact kin_of (HCi.out _))
     refine wpQuiet_nil ?_
     rintro _ ⟨y,rfl⟩
     have HBq:Hid (Below w.heap.size w y.u/\y.u.heap[w.heap.size]?=some (.cells #[.slice ao l.length ac,.slice qo qs.length qc,.slice (some ⟨gp,op,none⟩) l.length pc,.slice eo l.length ec] 65 (0,0))/\y.u.heap[w.heap.size+1]?=some (.cells #[.int .i64 0,.int .i64 0] 32 (0,0))/\Below wr.heap.size wr y.u):=⟨HR.out.2.1.trans (y.ok.mono HR.out.2.1.size),(y.ok.block _ (blk_lt HR.out.2.2.1)).trans HR.out.2.2.1,(y.ok.block _ (blk_lt HR.out.2.2.2)).trans HR.out.2.2.2,y.ok⟩
     clear ya HCi
     generalize y.u=w4 at *
     clear y
    case' neg=>
     have HZ:Hid (fz=41):=by show _=_;rw [HFz.out,if_pos ⟨hA0,hAe⟩]
     have hAe':(ak != x.is)=true:=by simp [hAe]
     clear hAe
     go_wp2_with fail
     refine wp_region_kin (by kernel_rfl) (by kernel_rfl) ?_
     iterate 15 quiet_step (first | with_reducible rfl | exact kin_of (HCi.out _))
     refine wpQuiet_nil ?_
     rintro _ ⟨y,rfl⟩
     have HBq:Hid (Below w.heap.size w y.u/\y.u.heap[w.heap.size]?=some (.cells #[.slice ao l.length ac,.slice qo qs.length qc,.slice (some ⟨gp,op,none⟩) l.length pc,.slice eo l.length ec] 65 (0,0))/\y.u.heap[w.heap.size+1]?=some (.cells #[.int .i64 0,.int .i64 0] 32 (0,0))/\Below wr.heap.size wr y.u):=⟨HR.out.2.1.trans (y.ok.mono HR.out.2.1.size),(y.ok.block _ (blk_lt HR.out.2.2.1)).trans HR.out.2.2.1,(y.ok.block _ (blk_lt HR.out.2.2.2)).trans HR.out.2.2.2,y.ok⟩
     clear ya HCi
     generalize y.u=w4 at *
     clear y
     obtain ⟨b0,b1,b2,b3⟩:=cells4 HBq.out.2.1
     obtain ⟨f0,f1⟩:=cells2 HBq.out.2.2.1
     have g0:=HFz0 HBq.out.2.2.1 0
     have g1:=HFz0 HBq.out.2.2.1 1
     go_wp2_with fail
     obtain ⟨x1,x2⟩:=put2L (B:=w.heap.size+1) (v0:=.int .i64 41) (v1:=.int .i64 (m:Int)) HBq.out.1 (Nat.le_succ _) HBq.out.2.2.1
     obtain ⟨y0,y1⟩:=cells2 x1
     refine bodyPost_ret (v:=.agg #[.int .i64 41,.int .i64 (m:Int)]) (by simp [results,Tryz.results60,go_sem,y0,y1]) rfl ?_
     refine ⟨?_,x2⟩
     rw [HFat.out (by rw [HZ.out];decide),HZ.out]
     rfl
   all_goals
    by_cases hcon:m < cn
    ·have hcon':(m:Int) < (cn:Int):=by omega
     have HC1:=hdn <| HCc.out w4
     obtain ⟨b0,b1,b2,b3⟩:=cells4 HBq.out.2.1
     obtain ⟨f0,f1⟩:=cells2 HBq.out.2.2.1
     have g0:=HFz0 HBq.out.2.2.1 0
     have g1:=HFz0 HBq.out.2.2.1 1
     go_wp2_with fail
     refine Calls.mono HC1.out ?_
     rintro e w5 ⟨rfl,hb5⟩
     clear HC1 b0 b1 b2 b3 f0 f1 g0 g1
     have HBq2:Hid (Below w.heap.size w w5/\w5.heap[w.heap.size]?=some (.cells #[.slice ao l.length ac,.slice qo qs.length qc,.slice (some ⟨gp,op,none⟩) l.length pc,.slice eo l.length ec] 65 (0,0))/\w5.heap[w.heap.size+1]?=some (.cells #[.int .i64 0,.int .i64 0] 32 (0,0))/\Below wr.heap.size wr w5):=⟨HBq.out.1.trans (hb5.mono HBq.out.1.size),(hb5.block _ (blk_lt HBq.out.2.1)).trans HBq.out.2.1,(hb5.block _ (blk_lt HBq.out.2.2.1)).trans HBq.out.2.2.1,HBq.out.2.2.2.trans (hb5.mono HBq.out.2.2.2.size)⟩
     clear hb5 HBq
     have HBq:=hdn <| HBq2.out
     clear HBq2
     cases hchg:x.changing with
     | true=>
      have HZ:Hid (fz=42):=by show _=_;rw [HFz.out,if_neg HnA.out,if_pos ⟨hcon,hchg⟩]
      obtain ⟨b0,b1,b2,b3⟩:=cells4 HBq.out.2.1
      obtain ⟨f0,f1⟩:=cells2 HBq.out.2.2.1
      have g0:=HFz0 HBq.out.2.2.1 0
      have g1:=HFz0 HBq.out.2.2.1 1
      clear hchg
      go_wp2_with fail
      obtain ⟨x1,x2⟩:=put2L (B:=w.heap.size+1) (v0:=.int .i64 42) (v1:=.int .i64 (m:Int)) HBq.out.1 (Nat.le_succ _) HBq.out.2.2.1
      obtain ⟨y0,y1⟩:=cells2 x1
      refine bodyPost_ret (v:=.agg #[.int .i64 42,.int .i64 (m:Int)]) (by simp [results,Tryz.results60,go_sem,y0,y1]) rfl ?_
      refine ⟨?_,x2⟩
      rw [HFat.out (by rw [HZ.out];decide),HZ.out]
      rfl
     | false=>
      have HnB:Hid (¬ (m < cn/\x.changing=true)):=fun h=>by rw [hchg] at h;cases h.2
      clear hchg
      have HCx:=hdn <| HCo.out _ HBq.out.2.2.2
      obtain ⟨b0,b1,b2,b3⟩:=cells4 HBq.out.2.1
      obtain ⟨f0,f1⟩:=cells2 HBq.out.2.2.1
      have g0:=HFz0 HBq.out.2.2.1 0
      have g1:=HFz0 HBq.out.2.2.1 1
      go_wp2_with fail
      refine Calls.mono HCx.out ?_
      rintro e w6 ⟨rfl,hb6⟩
      clear HCx b0 b1 b2 b3 f0 f1 g0 g1
      have HBq2:Hid (Below w.heap.size w w6/\w6.heap[w.heap.size]?=some (.cells #[.slice ao l.length ac,.slice qo qs.length qc,.slice (some ⟨gp,op,none⟩) l.length pc,.slice eo l.length ec] 65 (0,0))/\w6.heap[w.heap.size+1]?=some (.cells #[.int .i64 0,.int .i64 0] 32 (0,0))/\Below wr.heap.size wr w6):=⟨HBq.out.1.trans (hb6.mono HBq.out.1.size),(hb6.block _ (blk_lt HBq.out.2.1)).trans HBq.out.2.1,(hb6.block _ (blk_lt HBq.out.2.2.1)).trans HBq.out.2.2.1,HBq.out.2.2.2.trans (hb6.mono HBq.out.2.2.2.size)⟩
      clear hb6 HBq
      have HBq:=hdn <| HBq2.out
      clear HBq2
      obtain ⟨b0,b1,b2,b3⟩:=cells4 HBq.out.2.1
      obtain ⟨f0,f1⟩:=cells2 HBq.out.2.2.1
      have g0:=HFz0 HBq.out.2.2.1 0
      have g1:=HFz0 HBq.out.2.2.1 1
      cases ot with
      | true=>
       have HZ:Hid (fz=46):=by show _=_;rw [HFz.out,if_neg HnA.out,if_neg HnB.out,if_pos rfl]
       go_wp2_with fail
       obtain ⟨x1,x2⟩:=put2L (B:=w.heap.size+1) (v0:=.int .i64 46) (v1:=.int .i64 (m:Int)) HBq.out.1 (Nat.le_succ _) HBq.out.2.2.1
       obtain ⟨y0,y1⟩:=cells2 x1
       refine bodyPost_ret (v:=.agg #[.int .i64 46,.int .i64 (m:Int)]) (by simp [results,Tryz.results60,go_sem,y0,y1]) rfl ?_
       refine ⟨?_,x2⟩
       rw [HFat.out (by rw [HZ.out];decide),HZ.out]
       rfl
      | false=>
       have HZ:Hid (fz=0):=by show _=_;rw [HFz.out,if_neg HnA.out,if_neg HnB.out,if_neg (by simp)]
       have HCy:=hdn <| HCt.out _ HBq.out.2.2.2
       go_wp2_with fail
       refine Calls.mono HCy.out ?_
       rintro e w7 ⟨rfl,hb7⟩
       clear HCy b0 b1 b2 b3 f0 f1 g0 g1
       have HBq2:Hid (Below w.heap.size w w7/\w7.heap[w.heap.size]?=some (.cells #[.slice ao l.length ac,.slice qo qs.length qc,.slice (some ⟨gp,op,none⟩) l.length pc,.slice eo l.length ec] 65 (0,0))/\w7.heap[w.heap.size+1]?=some (.cells #[.int .i64 0,.int .i64 0] 32 (0,0))/\Below wr.heap.size wr w7):=⟨HBq.out.1.trans (hb7.mono HBq.out.1.size),(hb7.block _ (blk_lt HBq.out.2.1)).trans HBq.out.2.1,(hb7.block _ (blk_lt HBq.out.2.2.1)).trans HBq.out.2.2.1,HBq.out.2.2.2.trans (hb7.mono HBq.out.2.2.2.size)⟩
       clear hb7 HBq
       have HBq:=hdn <| HBq2.out
       clear HBq2
       have hmx:max (cn:Int) (tl:Int)=((max cn tl:Nat):Int):=by omega
       go_wp2_with fail
       go_roundg (l.length - (m+1))
       case measure=>have:=HG.out;omega
       case rel=>exact ⟨m+1,by omega,rfl,by rw [HCn.out,<-hmx],by go_num,HFno.out HZ.out,⟨HR.out.1.1.below HBq.out.2.2.2 HR.out.1.1.lt,HR.out.1.2⟩,HBq.out.1,HBq.out.2.1,HBq.out.2.2.1⟩
    ·have hcon':¬ (m:Int) < (cn:Int):=by omega
     have HnB:Hid (¬ (m < cn/\x.changing=true)):=fun h=>hcon h.1
     have HCx:=hdn <| HCo.out _ HBq.out.2.2.2
     obtain ⟨b0,b1,b2,b3⟩:=cells4 HBq.out.2.1
     obtain ⟨f0,f1⟩:=cells2 HBq.out.2.2.1
     have g0:=HFz0 HBq.out.2.2.1 0
     have g1:=HFz0 HBq.out.2.2.1 1
     go_wp2_with fail
     refine Calls.mono HCx.out ?_
     rintro e w6 ⟨rfl,hb6⟩
     clear HCx b0 b1 b2 b3 f0 f1 g0 g1
     have HBq2:Hid (Below w.heap.size w w6/\w6.heap[w.heap.size]?=some (.cells #[.slice ao l.length ac,.slice qo qs.length qc,.slice (some ⟨gp,op,none⟩) l.length pc,.slice eo l.length ec] 65 (0,0))/\w6.heap[w.heap.size+1]?=some (.cells #[.int .i64 0,.int .i64 0] 32 (0,0))/\Below wr.heap.size wr w6):=⟨HBq.out.1.trans (hb6.mono HBq.out.1.size),(hb6.block _ (blk_lt HBq.out.2.1)).trans HBq.out.2.1,(hb6.block _ (blk_lt HBq.out.2.2.1)).trans HBq.out.2.2.1,HBq.out.2.2.2.trans (hb6.mono HBq.out.2.2.2.size)⟩
     clear hb6 HBq
     have HBq:=hdn <| HBq2.out
     clear HBq2
     obtain ⟨b0,b1,b2,b3⟩:=cells4 HBq.out.2.1
     obtain ⟨f0,f1⟩:=cells2 HBq.out.2.2.1
     have g0:=HFz0 HBq.out.2.2.1 0
     have g1:=HFz0 HBq.out.2.2.1 1
     cases ot with
     | true=>
      have HZ:Hid (fz=46):=by show _=_;rw [HFz.out,if_neg HnA.out,if_neg HnB.out,if_pos rfl]
      go_wp2_with fail
      obtain ⟨x1,x2⟩:=put2L (B:=w.heap.size+1) (v0:=.int .i64 46) (v1:=.int .i64 (m:Int)) HBq.out.1 (Nat.le_succ _) HBq.out.2.2.1
      obtain ⟨y0,y1⟩:=cells2 x1
      refine bodyPost_ret (v:=.agg #[.int .i64 46,.int .i64 (m:Int)]) (by simp [results,Tryz.results60,go_sem,y0,y1]) rfl ?_
      refine ⟨?_,x2⟩
      rw [HFat.out (by rw [HZ.out];decide),HZ.out]
      rfl
     | false=>
      have HZ:Hid (fz=0):=by show _=_;rw [HFz.out,if_neg HnA.out,if_neg HnB.out,if_neg (by simp)]
      have HCy:=hdn <| HCt.out _ HBq.out.2.2.2
      go_wp2_with fail
      refine Calls.mono HCy.out ?_
      rintro e w7 ⟨rfl,hb7⟩
      clear HCy b0 b1 b2 b3 f0 f1 g0 g1
      have HBq2:Hid (Below w.heap.size w w7/\w7.heap[w.heap.size]?=some (.cells #[.slice ao l.length ac,.slice qo qs.length qc,.slice (some ⟨gp,op,none⟩) l.length pc,.slice eo l.length ec] 65 (0,0))/\w7.heap[w.heap.size+1]?=some (.cells #[.int .i64 0,.int .i64 0] 32 (0,0))/\Below wr.heap.size wr w7):=⟨HBq.out.1.trans (hb7.mono HBq.out.1.size),(hb7.block _ (blk_lt HBq.out.2.1)).trans HBq.out.2.1,(hb7.block _ (blk_lt HBq.out.2.2.1)).trans HBq.out.2.2.1,HBq.out.2.2.2.trans (hb7.mono HBq.out.2.2.2.size)⟩
      clear hb7 HBq
      have HBq:=hdn <| HBq2.out
      clear HBq2
      have hmx:max (cn:Int) (tl:Int)=((max cn tl:Nat):Int):=by omega
      go_wp2_with fail
      go_roundg (l.length - (m+1))
      case measure=>have:=HG.out;omega
      case rel=>exact ⟨m+1,by omega,rfl,by rw [HCn.out,<-hmx],by go_num,HFno.out HZ.out,⟨HR.out.1.1.below HBq.out.2.2.2 HR.out.1.1.lt,HR.out.1.2⟩,HBq.out.1,HBq.out.2.1,HBq.out.2.2.1⟩
  ·have hlt':¬ (m:Int) < (l.length:Int):=by omega
   have hme:m=l.length:=by omega
   have HZ:Hid (fltN l (ghL qs) l.length=(0,0)):=by show _=_;rw [<-hme];exact HF0.out
   obtain ⟨f0,f1⟩:=cells2 HR.out.2.2.2
   have hfz:∀ j,wr.frozen? ⟨w.heap.size+1,j,none⟩=false:=fun j=>by have:=HR.out.2.2.2;simp only [World.frozen?,this];rfl
   clear hme
   go_wp2_with fail
   obtain ⟨x1,x2⟩:=put2L (B:=w.heap.size+1) (v0:=.int .i64 0) (v1:=.int .i64 0) HR.out.2.1 (Nat.le_succ _) HR.out.2.2.2
   obtain ⟨y0,y1⟩:=cells2 x1
   refine bodyPost_ret (v:=.agg #[.int .i64 0,.int .i64 0]) (by simp [results,Tryz.results60,go_sem,y0,y1]) rfl ?_
   refine ⟨?_,x2⟩
   rw [HZ.out]
   rfl
end Go.Proofs.YtbledbjcghaanaaGreat.Nm.Ty
