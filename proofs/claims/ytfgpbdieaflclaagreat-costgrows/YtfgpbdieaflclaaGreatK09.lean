import Derived.Test.YtfgpbdieaflclaaGreatK08
import Derived.Deep.DeepCutAuto
import Derived.Deep.CutBlock
set_option maxHeartbeats 6400000
set_option maxRecDepth 100000
namespace Go.Proofs.YtfgpbdieaflclaaGreat.Nm
open Go.RowKit Go.Maps Sp Lx Gr
theorem infoS:(Tryz.prog.info? 9).map (fun i=>(i.zero,i.size,i.bytes))=some (some (.string ByteArray.empty),1,16):=by kernel_rfl
theorem infoI:(Tryz.prog.info? 3).map (fun i=>(i.zero,i.size,i.bytes))=some (some (.int .i64 0),1,8):=by kernel_rfl
def qF (l:List (ByteArray × Bool)):List Value:=l.flatMap fun x=>[.string x.1,.bool x.2]
structure Pol (W:World) (pb base:Nat) (nm:ByteArray) (rows on miss qv vv tv uv:Value) (qs:List (ByteArray × Bool)) (vs ts:List ByteArray) (us:List Nat):Prop where
 blk:W.heap[pb]?=some (.cells #[.string nm,rows,qv,vv,tv,uv,on,miss] 28 (0,0))
 oq:W.ownsRow base 67 2 qv qs.length (qF qs)
 ov:W.ownsRow base 9 1 vv vs.length (vs.map Value.string)
 ot:W.ownsRow base 9 1 tv ts.length (ts.map Value.string)
 ou:W.ownsRow base 3 1 uv us.length (us.map fun n:Nat=>Value.int .i64 (n:Int))
 ne:∀ g,vv.ownBlock=some g->tv.ownBlock ≠ some g
 lt:pb < base
 sz:base<=W.heap.size
theorem Pol.cells {W:World} {pb base:Nat} {nm:ByteArray} {rows on miss qv vv tv uv:Value} {qs:List (ByteArray × Bool)} {vs ts:List ByteArray} {us:List Nat} (h:Pol W pb base nm rows on miss qv vv tv uv qs vs ts us):W.cell? ⟨pb,1,none⟩=some rows/\W.cell? ⟨pb,3,none⟩=some vv/\W.cell? ⟨pb,4,none⟩=some tv/\W.cell? ⟨pb,5,none⟩=some uv/\∀ j,W.frozen? ⟨pb,j,none⟩=false:=
 ⟨by simp [World.cell?,h.blk],by simp [World.cell?,h.blk],by simp [World.cell?,h.blk],by simp [World.cell?,h.blk],fun j=>by simp [World.frozen?,h.blk]⟩
theorem Pol.below {W W':World} {pb base:Nat} {nm:ByteArray} {rows on miss qv vv tv uv:Value} {qs:List (ByteArray × Bool)} {vs ts:List ByteArray} {us:List Nat} (h:Pol W pb base nm rows on miss qv vv tv uv qs vs ts us) (hb:Below W.heap.size W W'):Pol W' pb base nm rows on miss qv vv tv uv qs vs ts us:=
 ⟨(hb.block pb (Array.getElem?_eq_some_iff.1 h.blk).1).trans h.blk,own_below h.oq hb,own_below h.ov hb,own_below h.ot hb,own_below h.ou hb,h.ne,h.lt,Nat.le_trans h.sz hb.size⟩
theorem own_keepB {W W':World} {base n s:Nat} {T:TypeId} {v:Value} {xs:List Value} (h:W.ownsRow base T s v n xs) (hk:∀ k,v.ownBlock=some k->W'.heap[k]?=W.heap[k]?):W'.ownsRow base T s v n xs:=by
 rcases h with ⟨h1,h2 | ⟨g,cap,cur,rfl,h3,h4,h5⟩⟩
 ·exact ⟨h1,Or.inl h2⟩
 ·exact ⟨h1,Or.inr ⟨g,cap,cur,rfl,h3,(hk g rfl).trans h4,h5⟩⟩
theorem rows_ne {W:World} {b b' n n' s s':Nat} {T T':TypeId} {v v':Value} {xs xs':List Value} (h:W.ownsRow b T s v n xs) (h':W.ownsRow b' T' s' v' n' xs') (hT:T ≠ T'):∀ k,v.ownBlock=some k->v'.ownBlock ≠ some k:=by
 intro k e e'
 rcases h.2 with ⟨rfl,_⟩ | ⟨g,c,cur,rfl,_,hg,_⟩
 ·cases e
 ·rcases h'.2 with ⟨rfl,_⟩ | ⟨g',c',cur',rfl,_,hg',_⟩
  ·cases e'
  ·simp only [Value.ownBlock,Option.some.injEq] at e e'
   subst e
   subst e'
   rw [hg] at hg'
   cases hg'
   exact hT rfl
theorem Pol.putU {W W2:World} {pb base:Nat} {nm:ByteArray} {rows on miss qv vv tv uv uv':Value} {qs:List (ByteArray × Bool)} {vs ts:List ByteArray} {us:List Nat} {u:Nat} (h:Pol W pb base nm rows on miss qv vv tv uv qs vs ts us) (hG:Gone W uv W2 uv') (ho:W2.ownsRow base 3 1 uv' (us.length+1) ((us.map fun n:Nat=>Value.int .i64 (n:Int))++[Value.int .i64 (u:Int)])):
  W2.heap[pb]?=some (.cells #[.string nm,rows,qv,vv,tv,uv,on,miss] 28 (0,0))/\Pol (W2.setCell ⟨pb,5,none⟩ uv') pb base nm rows on miss qv vv tv uv' qs vs ts (us++[u]):=by
 have hlt:∀ k,uv.ownBlock=some k->base<=k:=fun k e=>(World.ownsRow.lt h.ou k e).1
 have hpb:=h.lt
 have eP:W2.heap[pb]?=some (.cells #[.string nm,rows,qv,vv,tv,uv,on,miss] 28 (0,0)):=(hG.1.block pb (Array.getElem?_eq_some_iff.1 h.blk).1 (fun e=>by have:=hlt pb e.symm;omega)).trans h.blk
 have hs:∀ {T:TypeId} {v:Value} {n s:Nat} {xs:List Value},W2.ownsRow base T s v n xs->(W2.setCell ⟨pb,5,none⟩ uv').ownsRow base T s v n xs:=fun ho=>own_keepB ho (fun k hk=>Below.heap_setCell W2 _ _ k (fun e=>by have e2:k=pb:=e;have:=(World.ownsRow.lt ho k hk).1;omega))
 have o1:W2.ownsRow base 9 1 vv vs.length (vs.map Value.string):=own_keepB h.ov (fun k hk=>hG.1.block k (World.ownsRow.lt h.ov k hk).2 (fun e=>rows_ne h.ov h.ou (by decide) k hk e.symm))
 have o2:W2.ownsRow base 9 1 tv ts.length (ts.map Value.string):=own_keepB h.ot (fun k hk=>hG.1.block k (World.ownsRow.lt h.ot k hk).2 (fun e=>rows_ne h.ot h.ou (by decide) k hk e.symm))
 have oq:W2.ownsRow base 67 2 qv qs.length (qF qs):=own_keepB h.oq (fun k hk=>hG.1.block k (World.ownsRow.lt h.oq k hk).2 (fun e=>rows_ne h.oq h.ou (by decide) k hk e.symm))
 refine ⟨eP,⟨?_,hs oq,hs o1,hs o2,?_,h.ne,h.lt,?_⟩⟩
 ·have:=heap_setCell_same W2 pb 5 _ 28 uv' eP
  simpa using this
 ·have:=hs ho
  simpa using this
 ·have:=hG.1.size
  have:=h.sz
  simp [World.setCell]
  omega
end Go.Proofs.YtfgpbdieaflclaaGreat.Nm
namespace Go.Proofs.YtfgpbdieaflclaaGreat.Nm
open Go.RowKit Go.Maps Sp Lx Gr
theorem alloc_row (W:World) (x:Rz):(W.alloc (.cells #[.int .i64 x.kind,.string x.name,.int .i64 x.stop,.int .i64 x.n,.int .i64 x.kids] 47)).cell? ⟨W.heap.size,0,none⟩=some (.int .i64 x.kind)/\(W.alloc (.cells #[.int .i64 x.kind,.string x.name,.int .i64 x.stop,.int .i64 x.n,.int .i64 x.kids] 47)).cell? ⟨W.heap.size,1,none⟩=some (.string x.name):=by
 have:=heap_alloc_new W (.cells #[.int .i64 x.kind,.string x.name,.int .i64 x.stop,.int .i64 x.n,.int .i64 x.kids] 47)
 exact ⟨by rw [World.cell?,this];rfl,by rw [World.cell?,this];rfl⟩
theorem gone_fb {W W2:World} {v v':Value} {base n s:Nat} {T:TypeId} {xs:List Value} {F:List Nat} (hG:Gone W v W2 v') (ho:W.ownsRow base T s v n xs) (hb:base<=W.heap.size):Fb F base W W2:=⟨hG.1.os,hG.1.tape,hG.1.output,hG.1.size,fun k hk _=>hG.1.block k (by omega) (fun e=>by have:=(World.ownsRow.lt ho k e.symm).1;omega)⟩
theorem set_fb {W:World} {pb base i:Nat} {v:Value} : Fb [pb] base W (W.setCell ⟨pb,i,none⟩ v):=⟨rfl,rfl,rfl,by simp [World.setCell],fun k _ hn=>Below.heap_setCell W _ v k (fun e=>by have e2:k=pb:=e;exact hn (by simp [e2]))⟩
theorem enlist_rule {W:World} {pb base rb cap at_:Nat} {nm:ByteArray} {on miss qv vv tv uv:Value} {qs:List (ByteArray × Bool)} {vs ts:List ByteArray} {us:List Nat} {l:List Rz} {x:Rz} (h:Pol W pb base nm (.slice (some ⟨rb,0,none⟩) l.length cap) on miss qv vv tv uv qs vs ts us) (hr:Rw W rb l) (hx:l[at_]?=some x) (hl:l.length<=2932031007317) (hk:x.kind=7) (hu:us.length<=1000):
  Calls Tryz.prog 71 #[.pointer (some ⟨pb,0,none⟩),.int .i64 (at_:Int)] W fun e w'=>e=.returned (.tuple #[])/\∃ uv',Pol w' pb base nm (.slice (some ⟨rb,0,none⟩) l.length cap) on miss qv vv tv uv' qs vs ts (us++[at_+1])/\Fb [pb] base W w':=by
 have hat:at_ < l.length:=(List.getElem?_eq_some_iff.1 hx).1
 have h3:(at_:Int) < (l.length:Int):=by omega
 have h4:(at_:Int)<=2932031007317:=by omega
 obtain ⟨c0,c1,c2,c3,c4,_⟩:=hr.cells hx
 obtain ⟨p1,_,_,_,_⟩:=h.cells
 obtain ⟨a0,a1⟩:=alloc_row W x
 have hb1:Below W.heap.size W (W.alloc (.cells #[.int .i64 x.kind,.string x.name,.int .i64 x.stop,.int .i64 x.n,.int .i64 x.kids] 47)):=bAl W _
 have hP1:=h.below hb1
 obtain ⟨_,_,_,p5,pf⟩:=hP1.cells
 have pf5:=pf 5
 obtain ⟨j0,hj,hj0,hj1,hj2⟩:=info_parts infoI
 have HP1:=hdn <| hP1
 have HB1:Hid (Fb [pb] base W (W.alloc (.cells #[.int .i64 x.kind,.string x.name,.int .i64 x.stop,.int .i64 x.n,.int .i64 x.kids] 47))):=Fb.of_below (hb1.mono h.sz)
 have HU:Hid (us.length<=1000):=hu
 obtain ⟨kd,n1,st,nn,ks⟩:=x
 dsimp only at *
 subst hk
 clear h hr hx hl hat hb1 hP1 pf hu
 go_enter Tryz.func71,Tryz.ntmps71
 go_upto_region 10 with fail
 generalize W.alloc (.cells #[.int .i64 7,.string n1,.int .i64 st,.int .i64 nn,.int .i64 ks] 47)=w1 at *
 have HP2:Hid (Pol (w1.alloc (.cells #[.int .i64 ((at_:Int)+1)] 3)) pb base nm (.slice (some ⟨rb,0,none⟩) l.length cap) on miss qv vv tv uv qs vs ts us):=HP1.out.below (bAl w1 _)
 have HB2:Hid (Fb [pb] base W (w1.alloc (.cells #[.int .i64 ((at_:Int)+1)] 3))):=HB1.out.trans (Fb.of_below ((bAl w1 _).mono HP1.out.sz))
 go_wp2_with (at_builtin;refine append_gone _ rfl _ _ 23 rfl base 3 j0 (.int .i64 0) 1 8 Tryz.underlying23 hj hj0 hj1 hj2 rfl (by decide) uv _ (us.map fun n:Nat=>Value.int .i64 (n:Int)) rfl HP2.out.ou ⟨w1.heap.size,0,none⟩ 1 1 [.int .i64 ((at_:Int)+1)] rfl rfl ?c1 ?c2 ?c3 ?c4 ?c5 ?c6 ?_)
 case c1=>exact cell_one w1 _ _
 case c2=>intro u hu;simp only [List.mem_cons,List.not_mem_nil,or_false] at hu;subst hu;rfl
 case c3=>have:=HU.out;unfold maxLen;omega
 case c4=>have:=HU.out;omega
 case c5=>exact HP2.out.sz
 case c6=>decide
 intro uv' w3 ho hG
 obtain ⟨eP,hP3⟩:=HP2.out.putU (u:=at_+1) hG (by rw [show ((at_+1:Nat):Int)=(at_:Int)+1 by omega];exact ho)
 have HP3:=hdn <| hP3
 have HB3:Hid (Fb [pb] base W (w3.setCell ⟨pb,5,none⟩ uv')):=(HB2.out.trans (gone_fb hG HP2.out.ou HP2.out.sz)).trans set_fb
 have e5:w3.cell? ⟨pb,5,none⟩=some uv:=by simp [World.cell?,eP]
 have f5:w3.frozen? ⟨pb,5,none⟩=false:=by simp [World.frozen?,eP]
 obtain ⟨bo,bc,rfl⟩:=own_form ho
 clear ho hG eP hP3 HP2 HB2
 go_wp2
 go_end0
 exact ⟨rfl,_,HP3.out,HB3.out⟩
end Go.Proofs.YtfgpbdieaflclaaGreat.Nm
namespace Go.Proofs.YtfgpbdieaflclaaGreat.Nm
open Go.RowKit Go.Maps Sp Lx Gr
theorem cell_oned (w:World) (T:TypeId) (a:Value) (b:Nat) (hb:b=w.heap.size):∀ j u,[a][j]?=some u->(w.alloc (.cells #[a] T)).drew.cell? ((⟨b,0,none⟩:Addr).add j)=some u:=by
 intro j u h
 subst hb
 exact Lib.cells_of_row (heap_alloc_new w (.cells #[a] T)) 1 j u (by simpa using h)
theorem Pol.putV {W W2:World} {pb base:Nat} {nm:ByteArray} {rows on miss qv vv tv uv xv':Value} {qs:List (ByteArray × Bool)} {vs ts:List ByteArray} {us:List Nat} {u:ByteArray} (h:Pol W pb base nm rows on miss qv vv tv uv qs vs ts us) (hG:Gone W vv W2 xv') (ho:W2.ownsRow base 9 1 xv' (vs.length+1) ((vs.map Value.string)++[Value.string u])):
  W2.heap[pb]?=some (.cells #[.string nm,rows,qv,vv,tv,uv,on,miss] 28 (0,0))/\Pol (W2.setCell ⟨pb,3,none⟩ xv') pb base nm rows on miss qv xv' tv uv qs (vs++[u]) ts us:=by
 have hlt:∀ k,vv.ownBlock=some k->base<=k:=fun k e=>(World.ownsRow.lt h.ov k e).1
 have hpb:=h.lt
 have eP:W2.heap[pb]?=some (.cells #[.string nm,rows,qv,vv,tv,uv,on,miss] 28 (0,0)):=(hG.1.block pb (Array.getElem?_eq_some_iff.1 h.blk).1 (fun e=>by have:=hlt pb e.symm;omega)).trans h.blk
 have hs:∀ {T:TypeId} {v:Value} {n s:Nat} {xs:List Value},W2.ownsRow base T s v n xs->(W2.setCell ⟨pb,3,none⟩ xv').ownsRow base T s v n xs:=fun ho=>own_keepB ho (fun k hk=>Below.heap_setCell W2 _ _ k (fun e=>by have e2:k=pb:=e;have:=(World.ownsRow.lt ho k hk).1;omega))
 have o1:W2.ownsRow base 9 1 tv ts.length (ts.map Value.string):=own_keepB h.ot (fun k hk=>hG.1.block k (World.ownsRow.lt h.ot k hk).2 (fun e=>h.ne k e.symm hk))
 have o2:W2.ownsRow base 3 1 uv us.length (us.map fun n:Nat=>Value.int .i64 (n:Int)):=own_keepB h.ou (fun k hk=>hG.1.block k (World.ownsRow.lt h.ou k hk).2 (fun e=>rows_ne h.ou h.ov (by decide) k hk e.symm))
 have oq:W2.ownsRow base 67 2 qv qs.length (qF qs):=own_keepB h.oq (fun k hk=>hG.1.block k (World.ownsRow.lt h.oq k hk).2 (fun e=>rows_ne h.oq h.ov (by decide) k hk e.symm))
 refine ⟨eP,⟨?_,hs oq,?_,hs o1,hs o2,?_,h.lt,?_⟩⟩
 ·have:=heap_setCell_same W2 pb 3 _ 28 xv' eP
  simpa using this
 ·have:=hs ho
  simpa using this
 ·intro g hg he
  rcases hG.own with e | e
  ·exact h.ne g (e ▸ hg) he
  ·have h1:=e g hg
   have h2:=(World.ownsRow.lt h.ot g he).2
   omega
 ·have:=hG.1.size
  have:=h.sz
  simp [World.setCell]
  omega
theorem Pol.putT {W W2:World} {pb base:Nat} {nm:ByteArray} {rows on miss qv vv tv uv xv':Value} {qs:List (ByteArray × Bool)} {vs ts:List ByteArray} {us:List Nat} {u:ByteArray} (h:Pol W pb base nm rows on miss qv vv tv uv qs vs ts us) (hG:Gone W tv W2 xv') (ho:W2.ownsRow base 9 1 xv' (ts.length+1) ((ts.map Value.string)++[Value.string u])):
  W2.heap[pb]?=some (.cells #[.string nm,rows,qv,vv,tv,uv,on,miss] 28 (0,0))/\Pol (W2.setCell ⟨pb,4,none⟩ xv') pb base nm rows on miss qv vv xv' uv qs vs (ts++[u]) us:=by
 have hlt:∀ k,tv.ownBlock=some k->base<=k:=fun k e=>(World.ownsRow.lt h.ot k e).1
 have hpb:=h.lt
 have eP:W2.heap[pb]?=some (.cells #[.string nm,rows,qv,vv,tv,uv,on,miss] 28 (0,0)):=(hG.1.block pb (Array.getElem?_eq_some_iff.1 h.blk).1 (fun e=>by have:=hlt pb e.symm;omega)).trans h.blk
 have hs:∀ {T:TypeId} {v:Value} {n s:Nat} {xs:List Value},W2.ownsRow base T s v n xs->(W2.setCell ⟨pb,4,none⟩ xv').ownsRow base T s v n xs:=fun ho=>own_keepB ho (fun k hk=>Below.heap_setCell W2 _ _ k (fun e=>by have e2:k=pb:=e;have:=(World.ownsRow.lt ho k hk).1;omega))
 have o1:W2.ownsRow base 9 1 vv vs.length (vs.map Value.string):=own_keepB h.ov (fun k hk=>hG.1.block k (World.ownsRow.lt h.ov k hk).2 (fun e=>h.ne k hk e.symm))
 have o2:W2.ownsRow base 3 1 uv us.length (us.map fun n:Nat=>Value.int .i64 (n:Int)):=own_keepB h.ou (fun k hk=>hG.1.block k (World.ownsRow.lt h.ou k hk).2 (fun e=>rows_ne h.ou h.ot (by decide) k hk e.symm))
 have oq:W2.ownsRow base 67 2 qv qs.length (qF qs):=own_keepB h.oq (fun k hk=>hG.1.block k (World.ownsRow.lt h.oq k hk).2 (fun e=>rows_ne h.oq h.ot (by decide) k hk e.symm))
 refine ⟨eP,⟨?_,hs oq,hs o1,?_,hs o2,?_,h.lt,?_⟩⟩
 ·have:=heap_setCell_same W2 pb 4 _ 28 xv' eP
  simpa using this
 ·have:=hs ho
  simpa using this
 ·intro g hg he
  rcases hG.own with e | e
  ·exact h.ne g hg (e ▸ he)
  ·have h1:=e g he
   have h2:=(World.ownsRow.lt h.ov g hg).2
   omega
 ·have:=hG.1.size
  have:=h.sz
  simp [World.setCell]
  omega
theorem enlist_var {W:World} {pb base rb cap at_:Nat} {nm:ByteArray} {on miss qv vv tv uv:Value} {qs:List (ByteArray × Bool)} {vs ts:List ByteArray} {us:List Nat} {l:List Rz} {x:Rz} (h:Pol W pb base nm (.slice (some ⟨rb,0,none⟩) l.length cap) on miss qv vv tv uv qs vs ts us) (hr:Rw W rb l) (hx:l[at_]?=some x) (hl:l.length<=2932031007317) (hk:x.kind=4) (hu:vs.length<=1000):
  Calls Tryz.prog 71 #[.pointer (some ⟨pb,0,none⟩),.int .i64 (at_:Int)] W fun e w'=>e=.returned (.tuple #[])/\∃ xv',Pol w' pb base nm (.slice (some ⟨rb,0,none⟩) l.length cap) on miss qv xv' tv uv qs (vs++[x.name]) ts us/\Fb [pb] base W w':=by
 have hat:at_ < l.length:=(List.getElem?_eq_some_iff.1 hx).1
 have h3:(at_:Int) < (l.length:Int):=by omega
 have h4:(at_:Int)<=2932031007317:=by omega
 obtain ⟨c0,c1,c2,c3,c4,_⟩:=hr.cells hx
 obtain ⟨p1,_,_,_,_⟩:=h.cells
 obtain ⟨a0,a1⟩:=alloc_row W x
 have hb1:Below W.heap.size W (W.alloc (.cells #[.int .i64 x.kind,.string x.name,.int .i64 x.stop,.int .i64 x.n,.int .i64 x.kids] 47)):=bAl W _
 have hP1:=h.below hb1
 obtain ⟨_,p3,p4,_,pf⟩:=hP1.cells
 obtain ⟨j0,hj,hj0,hj1,hj2⟩:=info_parts infoS
 have HP1:=hdn <| hP1
 have HB1:Hid (Fb [pb] base W (W.alloc (.cells #[.int .i64 x.kind,.string x.name,.int .i64 x.stop,.int .i64 x.n,.int .i64 x.kids] 47))):=Fb.of_below (hb1.mono h.sz)
 have HU:Hid (vs.length<=1000):=hu
 obtain ⟨kd,n1,st,nn,ks⟩:=x
 dsimp only at *
 subst hk
 clear h hr hx hl hat hb1 hP1 pf hu
 go_enter Tryz.func71,Tryz.ntmps71
 go_upto_region 6 with fail
 generalize W.alloc (.cells #[.int .i64 4,.string n1,.int .i64 st,.int .i64 nn,.int .i64 ks] 47)=w1 at *
 have hP2:Pol (w1.alloc (.cells #[.string n1] 9)).drew pb base nm (.slice (some ⟨rb,0,none⟩) l.length cap) on miss qv vv tv uv qs vs ts us:=HP1.out.below (bAl w1 _).drew
 have HP2:=hdn <| hP2
 have HB2:Hid (Fb [pb] base W (w1.alloc (.cells #[.string n1] 9)).drew):=HB1.out.trans (Fb.of_below ((bAl w1 _).drew.mono HP1.out.sz))
 obtain ⟨_,q3,q4,_,_⟩:=(HP1.out.below (bAl w1 (.cells #[.string n1] 9))).cells
 clear hP2
 go_region_law (refine step_gone _ rfl (.tmp 38) (.tmp 41) 26 rfl base 9 j0 (.string ByteArray.empty) 1 16 Tryz.underlying26 hj hj0 hj1 hj2 rfl (by decide) vv _ (vs.map Value.string) (by simp [Act.eval]) HP2.out.ov ⟨w1.heap.size,0,none⟩ 1 1 [.string n1] (by simp [Act.eval]) rfl (cell_oned w1 _ _ _ rfl) (by intro u hu;simp only [List.mem_cons,List.not_mem_nil,or_false] at hu;subst hu;rfl) (by have:=HU.out;unfold maxLen;omega) (by have:=HU.out;omega) HP2.out.sz (by decide) ?_
                intro xv' w3 ho hG
                obtain ⟨eP,hP3⟩:=HP2.out.putV (u:=n1) hG ho
                have HP3:=hdn <| hP3
                have HB3:Hid (Fb [pb] base W (w3.setCell ⟨pb,3,none⟩ xv')):=(HB2.out.trans (gone_fb hG HP2.out.ov HP2.out.sz)).trans set_fb
                have e5:w3.cell? ⟨pb,3,none⟩=some vv:=by simp [World.cell?,eP]
                have f5:w3.frozen? ⟨pb,3,none⟩=false:=by simp [World.frozen?,eP]
                obtain ⟨bo,bc,rfl⟩:=own_form ho
                clear ho hG eP hP3)
 all_goals
  clear HP2 HB2
  go_wp2
  go_end0
  exact ⟨rfl,_,HP3.out,HB3.out⟩
theorem enlist_tag {W:World} {pb base rb cap at_:Nat} {nm:ByteArray} {on miss qv vv tv uv:Value} {qs:List (ByteArray × Bool)} {vs ts:List ByteArray} {us:List Nat} {l:List Rz} {x:Rz} (h:Pol W pb base nm (.slice (some ⟨rb,0,none⟩) l.length cap) on miss qv vv tv uv qs vs ts us) (hr:Rw W rb l) (hx:l[at_]?=some x) (hl:l.length<=2932031007317) (hk:x.kind=5) (hu:ts.length<=1000):
  Calls Tryz.prog 71 #[.pointer (some ⟨pb,0,none⟩),.int .i64 (at_:Int)] W fun e w'=>e=.returned (.tuple #[])/\∃ xv',Pol w' pb base nm (.slice (some ⟨rb,0,none⟩) l.length cap) on miss qv vv xv' uv qs vs (ts++[x.name]) us/\Fb [pb] base W w':=by
 have hat:at_ < l.length:=(List.getElem?_eq_some_iff.1 hx).1
 have h3:(at_:Int) < (l.length:Int):=by omega
 have h4:(at_:Int)<=2932031007317:=by omega
 obtain ⟨c0,c1,c2,c3,c4,_⟩:=hr.cells hx
 obtain ⟨p1,_,_,_,_⟩:=h.cells
 obtain ⟨a0,a1⟩:=alloc_row W x
 have hb1:Below W.heap.size W (W.alloc (.cells #[.int .i64 x.kind,.string x.name,.int .i64 x.stop,.int .i64 x.n,.int .i64 x.kids] 47)):=bAl W _
 have hP1:=h.below hb1
 obtain ⟨_,p3,p4,_,pf⟩:=hP1.cells
 obtain ⟨j0,hj,hj0,hj1,hj2⟩:=info_parts infoS
 have HP1:=hdn <| hP1
 have HB1:Hid (Fb [pb] base W (W.alloc (.cells #[.int .i64 x.kind,.string x.name,.int .i64 x.stop,.int .i64 x.n,.int .i64 x.kids] 47))):=Fb.of_below (hb1.mono h.sz)
 have HU:Hid (ts.length<=1000):=hu
 obtain ⟨kd,n1,st,nn,ks⟩:=x
 dsimp only at *
 subst hk
 clear h hr hx hl hat hb1 hP1 pf hu
 go_enter Tryz.func71,Tryz.ntmps71
 go_upto_region 8 with fail
 generalize W.alloc (.cells #[.int .i64 5,.string n1,.int .i64 st,.int .i64 nn,.int .i64 ks] 47)=w1 at *
 have hP2:Pol (w1.alloc (.cells #[.string n1] 9)).drew pb base nm (.slice (some ⟨rb,0,none⟩) l.length cap) on miss qv vv tv uv qs vs ts us:=HP1.out.below (bAl w1 _).drew
 have HP2:=hdn <| hP2
 have HB2:Hid (Fb [pb] base W (w1.alloc (.cells #[.string n1] 9)).drew):=HB1.out.trans (Fb.of_below ((bAl w1 _).drew.mono HP1.out.sz))
 obtain ⟨_,q3,q4,_,_⟩:=(HP1.out.below (bAl w1 (.cells #[.string n1] 9))).cells
 clear hP2
 go_region_law (refine step_gone _ rfl (.tmp 51) (.tmp 54) 26 rfl base 9 j0 (.string ByteArray.empty) 1 16 Tryz.underlying26 hj hj0 hj1 hj2 rfl (by decide) tv _ (ts.map Value.string) (by simp [Act.eval]) HP2.out.ot ⟨w1.heap.size,0,none⟩ 1 1 [.string n1] (by simp [Act.eval]) rfl (cell_oned w1 _ _ _ rfl) (by intro u hu;simp only [List.mem_cons,List.not_mem_nil,or_false] at hu;subst hu;rfl) (by have:=HU.out;unfold maxLen;omega) (by have:=HU.out;omega) HP2.out.sz (by decide) ?_
                intro xv' w3 ho hG
                obtain ⟨eP,hP3⟩:=HP2.out.putT (u:=n1) hG ho
                have HP3:=hdn <| hP3
                have HB3:Hid (Fb [pb] base W (w3.setCell ⟨pb,4,none⟩ xv')):=(HB2.out.trans (gone_fb hG HP2.out.ot HP2.out.sz)).trans set_fb
                have e5:w3.cell? ⟨pb,4,none⟩=some tv:=by simp [World.cell?,eP]
                have f5:w3.frozen? ⟨pb,4,none⟩=false:=by simp [World.frozen?,eP]
                obtain ⟨bo,bc,rfl⟩:=own_form ho
                clear ho hG eP hP3)
 all_goals
  clear HP2 HB2
  go_wp2
  go_end0
  exact ⟨rfl,_,HP3.out,HB3.out⟩
end Go.Proofs.YtfgpbdieaflclaaGreat.Nm
namespace Go.Proofs.YtfgpbdieaflclaaGreat.Nm
open Go.RowKit Go.Maps Sp Lx Gr
theorem infoQ:(Tryz.prog.info? 67).map (fun i=>(i.zero,i.size,i.bytes))=some (some (.agg #[.string ByteArray.empty,.bool false]),2,24):=by kernel_rfl
theorem cell_twod (w:World) (T:TypeId) (a c:Value) (b:Nat) (hb:b=w.heap.size):∀ j u,[a,c][j]?=some u->(w.alloc (.cells #[a,c] T)).drew.cell? ((⟨b,0,none⟩:Addr).add j)=some u:=by
 intro j u h
 subst hb
 exact Lib.cells_of_row (heap_alloc_new w (.cells #[a,c] T)) 2 j u (by simpa using h)
theorem Pol.putQ {W W2:World} {pb base:Nat} {nm:ByteArray} {rows on miss qv vv tv uv xv':Value} {qs:List (ByteArray × Bool)} {vs ts:List ByteArray} {us:List Nat} {u:ByteArray × Bool} (h:Pol W pb base nm rows on miss qv vv tv uv qs vs ts us) (hG:Gone W qv W2 xv') (ho:W2.ownsRow base 67 2 xv' (qs.length+1) (qF qs++[.string u.1,.bool u.2])):
  W2.heap[pb]?=some (.cells #[.string nm,rows,qv,vv,tv,uv,on,miss] 28 (0,0))/\Pol (W2.setCell ⟨pb,2,none⟩ xv') pb base nm rows on miss xv' vv tv uv (qs++[u]) vs ts us:=by
 have hlt:∀ k,qv.ownBlock=some k->base<=k:=fun k e=>(World.ownsRow.lt h.oq k e).1
 have hpb:=h.lt
 have eP:W2.heap[pb]?=some (.cells #[.string nm,rows,qv,vv,tv,uv,on,miss] 28 (0,0)):=(hG.1.block pb (Array.getElem?_eq_some_iff.1 h.blk).1 (fun e=>by have:=hlt pb e.symm;omega)).trans h.blk
 have hs:∀ {T:TypeId} {v:Value} {n s:Nat} {xs:List Value},W2.ownsRow base T s v n xs->(W2.setCell ⟨pb,2,none⟩ xv').ownsRow base T s v n xs:=fun ho=>own_keepB ho (fun k hk=>Below.heap_setCell W2 _ _ k (fun e=>by have e2:k=pb:=e;have:=(World.ownsRow.lt ho k hk).1;omega))
 have o1:W2.ownsRow base 9 1 vv vs.length (vs.map Value.string):=own_keepB h.ov (fun k hk=>hG.1.block k (World.ownsRow.lt h.ov k hk).2 (fun e=>rows_ne h.ov h.oq (by decide) k hk e.symm))
 have o2:W2.ownsRow base 9 1 tv ts.length (ts.map Value.string):=own_keepB h.ot (fun k hk=>hG.1.block k (World.ownsRow.lt h.ot k hk).2 (fun e=>rows_ne h.ot h.oq (by decide) k hk e.symm))
 have o3:W2.ownsRow base 3 1 uv us.length (us.map fun n:Nat=>Value.int .i64 (n:Int)):=own_keepB h.ou (fun k hk=>hG.1.block k (World.ownsRow.lt h.ou k hk).2 (fun e=>rows_ne h.ou h.oq (by decide) k hk e.symm))
 refine ⟨eP,⟨?_,?_,hs o1,hs o2,hs o3,h.ne,h.lt,?_⟩⟩
 ·have:=heap_setCell_same W2 pb 2 _ 28 xv' eP
  simpa using this
 ·have:=hs ho
  simpa [qF] using this
 ·have:=hG.1.size
  have:=h.sz
  simp [World.setCell]
  omega
theorem enlist_queue {W:World} {pb base rb cap at_:Nat} {nm:ByteArray} {on miss qv vv tv uv:Value} {qs:List (ByteArray × Bool)} {vs ts:List ByteArray} {us:List Nat} {l:List Rz} {x:Rz} (h:Pol W pb base nm (.slice (some ⟨rb,0,none⟩) l.length cap) on miss qv vv tv uv qs vs ts us) (hr:Rw W rb l) (hx:l[at_]?=some x) (hl:l.length<=2932031007317) (hk:x.kind=2) (hu:qs.length<=1000):
  Calls Tryz.prog 71 #[.pointer (some ⟨pb,0,none⟩),.int .i64 (at_:Int)] W fun e w'=>e=.returned (.tuple #[])/\∃ xv',Pol w' pb base nm (.slice (some ⟨rb,0,none⟩) l.length cap) on miss xv' vv tv uv (qs++[(x.name,false)]) vs ts us/\Fb [pb] base W w':=by
 have hat:at_ < l.length:=(List.getElem?_eq_some_iff.1 hx).1
 have h3:(at_:Int) < (l.length:Int):=by omega
 have h4:(at_:Int)<=2932031007317:=by omega
 obtain ⟨c0,c1,c2,c3,c4,_⟩:=hr.cells hx
 obtain ⟨p1,_,_,_,_⟩:=h.cells
 obtain ⟨a0,a1⟩:=alloc_row W x
 have hb1:Below W.heap.size W (W.alloc (.cells #[.int .i64 x.kind,.string x.name,.int .i64 x.stop,.int .i64 x.n,.int .i64 x.kids] 47)):=bAl W _
 have hP1:=h.below hb1
 have p2:(W.alloc (.cells #[.int .i64 x.kind,.string x.name,.int .i64 x.stop,.int .i64 x.n,.int .i64 x.kids] 47)).cell? ⟨pb,2,none⟩=some qv:=by simp only [World.cell?,hP1.blk];rfl
 obtain ⟨j0,hj,hj0,hj1,hj2⟩:=info_parts infoQ
 have HP1:=hdn <| hP1
 have HB1:Hid (Fb [pb] base W (W.alloc (.cells #[.int .i64 x.kind,.string x.name,.int .i64 x.stop,.int .i64 x.n,.int .i64 x.kids] 47))):=Fb.of_below (hb1.mono h.sz)
 have HU:Hid (qs.length<=1000):=hu
 obtain ⟨kd,n1,st,nn,ks⟩:=x
 dsimp only at *
 subst hk
 clear h hr hx hl hat hb1 hP1 hu
 go_enter Tryz.func71,Tryz.ntmps71
 go_upto_region 4 with fail
 generalize W.alloc (.cells #[.int .i64 2,.string n1,.int .i64 st,.int .i64 nn,.int .i64 ks] 47)=w1 at *
 have hP2:Pol (w1.alloc (.cells #[.string n1,.bool false] 67)).drew pb base nm (.slice (some ⟨rb,0,none⟩) l.length cap) on miss qv vv tv uv qs vs ts us:=HP1.out.below (bAl w1 _).drew
 have HP2:=hdn <| hP2
 have HB2:Hid (Fb [pb] base W (w1.alloc (.cells #[.string n1,.bool false] 67)).drew):=HB1.out.trans (Fb.of_below ((bAl w1 _).drew.mono HP1.out.sz))
 have q2:(w1.alloc (.cells #[.string n1,.bool false] 67)).cell? ⟨pb,2,none⟩=some qv:=by simp only [World.cell?,(HP1.out.below (bAl w1 (.cells #[.string n1,.bool false] 67))).blk];rfl
 clear hP2
 go_region_law (refine step_gone _ rfl (.tmp 21) (.tmp 28) 25 rfl base 67 j0 (.agg #[.string ByteArray.empty,.bool false]) 2 24 Tryz.underlying25 hj hj0 hj1 hj2 rfl (by decide) qv _ (qF qs) (by simp [Act.eval]) HP2.out.oq ⟨w1.heap.size,0,none⟩ 1 1 [.string n1,.bool false] (by simp [Act.eval]) rfl (cell_twod w1 _ _ _ _ rfl) (by intro u hu;simp only [List.mem_cons,List.not_mem_nil,or_false] at hu;rcases hu with rfl | rfl<;>rfl) (by have:=HU.out;unfold maxLen;omega) (by have:=HU.out;omega) HP2.out.sz (by decide) ?_
                intro xv' w3 ho hG
                obtain ⟨eP,hP3⟩:=HP2.out.putQ (u:=(n1,false)) hG ho
                have HP3:=hdn <| hP3
                have HB3:Hid (Fb [pb] base W (w3.setCell ⟨pb,2,none⟩ xv')):=(HB2.out.trans (gone_fb hG HP2.out.oq HP2.out.sz)).trans set_fb
                have e5:w3.cell? ⟨pb,2,none⟩=some qv:=by simp [World.cell?,eP]
                have f5:w3.frozen? ⟨pb,2,none⟩=false:=by simp [World.frozen?,eP]
                obtain ⟨bo,bc,rfl⟩:=own_form ho
                clear ho hG eP hP3)
 all_goals
  clear HP2 HB2
  go_wp2
  go_end0
  exact ⟨rfl,_,HP3.out,HB3.out⟩
theorem enlist_ghost {W:World} {pb base rb cap at_:Nat} {nm:ByteArray} {on miss qv vv tv uv:Value} {qs:List (ByteArray × Bool)} {vs ts:List ByteArray} {us:List Nat} {l:List Rz} {x:Rz} (h:Pol W pb base nm (.slice (some ⟨rb,0,none⟩) l.length cap) on miss qv vv tv uv qs vs ts us) (hr:Rw W rb l) (hx:l[at_]?=some x) (hl:l.length<=2932031007317) (hk:x.kind=3) (hu:qs.length<=1000):
  Calls Tryz.prog 71 #[.pointer (some ⟨pb,0,none⟩),.int .i64 (at_:Int)] W fun e w'=>e=.returned (.tuple #[])/\∃ xv',Pol w' pb base nm (.slice (some ⟨rb,0,none⟩) l.length cap) on miss xv' vv tv uv (qs++[(x.name,true)]) vs ts us/\Fb [pb] base W w':=by
 have hat:at_ < l.length:=(List.getElem?_eq_some_iff.1 hx).1
 have h3:(at_:Int) < (l.length:Int):=by omega
 have h4:(at_:Int)<=2932031007317:=by omega
 obtain ⟨c0,c1,c2,c3,c4,_⟩:=hr.cells hx
 obtain ⟨p1,_,_,_,_⟩:=h.cells
 obtain ⟨a0,a1⟩:=alloc_row W x
 have hb1:Below W.heap.size W (W.alloc (.cells #[.int .i64 x.kind,.string x.name,.int .i64 x.stop,.int .i64 x.n,.int .i64 x.kids] 47)):=bAl W _
 have hP1:=h.below hb1
 have p2:(W.alloc (.cells #[.int .i64 x.kind,.string x.name,.int .i64 x.stop,.int .i64 x.n,.int .i64 x.kids] 47)).cell? ⟨pb,2,none⟩=some qv:=by simp only [World.cell?,hP1.blk];rfl
 obtain ⟨j0,hj,hj0,hj1,hj2⟩:=info_parts infoQ
 have HP1:=hdn <| hP1
 have HB1:Hid (Fb [pb] base W (W.alloc (.cells #[.int .i64 x.kind,.string x.name,.int .i64 x.stop,.int .i64 x.n,.int .i64 x.kids] 47))):=Fb.of_below (hb1.mono h.sz)
 have HU:Hid (qs.length<=1000):=hu
 obtain ⟨kd,n1,st,nn,ks⟩:=x
 dsimp only at *
 subst hk
 clear h hr hx hl hat hb1 hP1 hu
 go_enter Tryz.func71,Tryz.ntmps71
 go_upto_region 4 with fail
 generalize W.alloc (.cells #[.int .i64 3,.string n1,.int .i64 st,.int .i64 nn,.int .i64 ks] 47)=w1 at *
 have hP2:Pol (w1.alloc (.cells #[.string n1,.bool true] 67)).drew pb base nm (.slice (some ⟨rb,0,none⟩) l.length cap) on miss qv vv tv uv qs vs ts us:=HP1.out.below (bAl w1 _).drew
 have HP2:=hdn <| hP2
 have HB2:Hid (Fb [pb] base W (w1.alloc (.cells #[.string n1,.bool true] 67)).drew):=HB1.out.trans (Fb.of_below ((bAl w1 _).drew.mono HP1.out.sz))
 have q2:(w1.alloc (.cells #[.string n1,.bool true] 67)).cell? ⟨pb,2,none⟩=some qv:=by simp only [World.cell?,(HP1.out.below (bAl w1 (.cells #[.string n1,.bool true] 67))).blk];rfl
 clear hP2
 go_region_law (refine step_gone _ rfl (.tmp 21) (.tmp 28) 25 rfl base 67 j0 (.agg #[.string ByteArray.empty,.bool false]) 2 24 Tryz.underlying25 hj hj0 hj1 hj2 rfl (by decide) qv _ (qF qs) (by simp [Act.eval]) HP2.out.oq ⟨w1.heap.size,0,none⟩ 1 1 [.string n1,.bool true] (by simp [Act.eval]) rfl (cell_twod w1 _ _ _ _ rfl) (by intro u hu;simp only [List.mem_cons,List.not_mem_nil,or_false] at hu;rcases hu with rfl | rfl<;>rfl) (by have:=HU.out;unfold maxLen;omega) (by have:=HU.out;omega) HP2.out.sz (by decide) ?_
                intro xv' w3 ho hG
                obtain ⟨eP,hP3⟩:=HP2.out.putQ (u:=(n1,true)) hG ho
                have HP3:=hdn <| hP3
                have HB3:Hid (Fb [pb] base W (w3.setCell ⟨pb,2,none⟩ xv')):=(HB2.out.trans (gone_fb hG HP2.out.oq HP2.out.sz)).trans set_fb
                have e5:w3.cell? ⟨pb,2,none⟩=some qv:=by simp [World.cell?,eP]
                have f5:w3.frozen? ⟨pb,2,none⟩=false:=by simp [World.frozen?,eP]
                obtain ⟨bo,bc,rfl⟩:=own_form ho
                clear ho hG eP hP3)
 all_goals
  clear HP2 HB2
  go_wp2
  go_end0
  exact ⟨rfl,_,HP3.out,HB3.out⟩
end Go.Proofs.YtfgpbdieaflclaaGreat.Nm
