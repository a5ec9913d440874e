import Derived.StillTail
import Derived.Deep.Quiet
import Derived.Test.YtfgpbdieaflclaaGreatK10
set_option maxHeartbeats 12800000
set_option maxRecDepth 100000
namespace Go.Proofs.YtfgpbdieaflclaaGreat.Lx
open Go.RowKit Sp
section
variable {P:Program} {ops:Array Oper} {md:Region.Mode} {C:World->Prop}
def wpHead (P:Program) (md:Region.Mode) (ops:Array Oper) (C:World->Prop) (n:Nat) (L:Array Bool->Act->Prop):Nat->Array Bool->Act->Prop
 | 0,listed,a=>L listed a
 | f+1,listed,a=>Region.ready md ops listed ≠ []/\∀ i ∈ Region.ready md ops listed,i < n/\qOp P ops C i (wpHead P md ops C n L f (listed.setIfInBounds i true)) a
theorem wpAny_of_wpHead {n g:Nat} {L:Array Bool->Act->Prop} {Q':Exit->Act->World->Prop} (hL:∀ listed a w,C w->L listed a->wpAny P md ops Q' g listed a w):
  ∀ (f:Nat) (listed:Array Bool) (a:Act) (w:World),C w->wpHead P md ops C n L f listed a->wpAny P md ops Q' (f+g) listed a w:=by
 intro f
 induction f with
 | zero=>intro listed a w hw h;rw [Nat.zero_add];exact hL _ _ _ hw h
 | succ f ih=>
  intro listed a w hw h
  rw [show f+1+g=(f+g)+1 by omega]
  exact ⟨fun h0=>absurd h0 h.1,fun i hi=>wpOp_of_qOp hw (fun a' w' hw' h'=>ih _ a' w' hw' h') (h.2 i hi).2⟩
theorem wpHead_first {n i:Nat} {oi:Oper} {v:Value} {L:Array Bool->Act->Prop} (hi:ops[i]?=some oi) (hsel:∀ (j:Nat) (o:Oper) cs b,ops[j]?=some o->o.op ≠ .select cs b)
  (hs:Region.sinkB md ops n=true) (hc:Region.chainB md ops n=true) (hn:n < ops.size) (hin:i < n)
  (hdone:∀ listed a,L listed a->∀ j ∈ Region.ready md ops listed,n<=j):
  ∀ (f:Nat) (listed:Array Bool) (a:Act),HeadInv md ops n listed ->
   (∀ j oj,ops[j]?=some oj->j ≠ i->listed.getD j true=false->(∀ e ∈ oj.after,Region.binds md e=true->e.on ≠ i)->oi.apart ops oj=true) ->
   i ∈ Region.ready md ops listed->YieldsIn P ops C oi v a ->
   wpHead P md ops C n L f (listed.setIfInBounds i true) (a.put oi.dst v)->wpHead P md ops C n L (f+1) listed a:=by
 intro f
 induction f with
 | zero=>
  intro listed a inv _ hr hy H
  have hun:=(mem_ready.1 hr).1
  refine ⟨List.ne_nil_of_mem hr,fun j hj=>?_⟩
  have hjn:j < n:=Nat.lt_of_not_le fun h=>tail_waits hs hc hn inv _ i rfl hin hun j h hj
  refine ⟨hjn,?_⟩
  by_cases hji:j=i
  ·subst hji;exact hy.qOp hi H
  ·exact absurd (hdone _ _ H j (ready_mono hj hji)) (by omega)
 | succ f ih=>
  intro listed a inv hfree hr hy H
  have hun:=(mem_ready.1 hr).1
  refine ⟨List.ne_nil_of_mem hr,fun j hj=>?_⟩
  have hjn:j < n:=Nat.lt_of_not_le fun h=>tail_waits hs hc hn inv _ i rfl hin hun j h hj
  refine ⟨hjn,?_⟩
  by_cases hji:j=i
  ·subst hji;exact hy.qOp hi H
  ·have h1:=(H.2 j (ready_mono hj hji)).2
   obtain ⟨hjun,oj,hoj,hall⟩:=mem_ready.1 hj
   have hnot:∀ e ∈ oj.after,Region.binds md e=true->e.on ≠ i:=fun e he hb heq=>by
    have h5:=hall e he hb
    rw [heq,getD_both hun] at h5
    cases h5
   have h2:=qOp_put hoj (hfree j oj hoj hji hjun hnot) (fun cs b=>hsel i oi cs b hi) (fun cs b=>hsel j oj cs b hoj) hy h1
   refine qOp_mono (fun a' h3=>ih (listed.setIfInBounds j true) a' (inv.set hj hjn) (fun k ok hk hki hk2 hno=>hfree k ok hk hki ?_ hno) (ready_mono hr (Ne.symm hji)) h3.1 ?_) h2
   ·by_cases hjk:j=k
    ·subst hjk;exact hjun
    ·rw [getD_set_ne true hjk] at hk2;exact hk2
   ·rw [Array.setIfInBounds_comm _ _ hji]
    exact h3.2
theorem wpHead_lex {n g:Nat} {Lq:Act->Prop} (hsel:Region.noSelect ops=true) (hs:Region.sinkB md ops n=true) (hc:Region.chainB md ops n=true) (hn:n < ops.size):
  ∀ (l:List Oper) (k:Nat) (listed:Array Bool) (a:Act),(∀ j,j < l.length->l[j]?=ops[k+j]?)->k+l.length=n->HeadInv md ops n listed ->
  Region.lexHead md ops g l.length k listed=true->wpQuiet P ops C Lq l a ->
  wpHead P md ops C n (fun listed' a'=>Region.seqB md ops g n listed'=true/\Lq a') l.length listed a:=by
 intro l
 induction l with
 | nil=>
  intro k listed a _ hk _ hB h
  obtain rfl:k=n:=by simpa using hk
  exact ⟨by simpa [Region.lexHead] using hB,h⟩
 | cons o l ih=>
  intro k listed a hl hk inv hB h
  have h0:ops[k]?=some o:=by simpa using (hl 0 (by simp)).symm
  simp only [List.length_cons,Region.lexHead,Bool.and_eq_true] at hB
  obtain ⟨⟨hr,hf⟩,hB'⟩:=hB
  have hkn:k < n:=by simp only [List.length_cons] at hk;omega
  have hr':k ∈ Region.ready md ops listed:=by simpa using hr
  have hst:qOp P ops C k (wpQuiet P ops C Lq l) a:=by unfold qOp;simp only [h0];exact h
  obtain ⟨v,hy,hK⟩:=yieldsIn_of_qOp h0 hst
  refine wpHead_first h0 (Region.noSelect_spec hsel) hs hc hn hkn (fun listed' a' hL=>seqB_ready hL.1) l.length listed a inv (Region.free_spec h0 hf) hr' hy ?_
  exact ih (k+1) _ _ (fun j hj=>by have:=hl (j+1) (by simp;omega);simpa [Nat.add_assoc,Nat.add_comm 1 j] using this) (by simp only [List.length_cons] at hk;omega) (inv.set hr' hkn) hB' hK
theorem wp_region_quiet_tail {id:Nat} {Q:Exit->Act->World->Prop} {a:Act} {w:World} {l:List Oper} (n:Nat) (hm:P.follows .mixedOrders=true) (hB:Region.lexTailB .any l.toArray n=true) (hC:C { w with drawn:=w.drawn+1 })
  (h:wpQuiet P l.toArray C (fun a'=>∀ w',C w'->wpList P l.toArray Q (l.drop n) a' w') (l.take n) a):(Code.region id l.toArray true).wp P Q a w:=by
 simp only [Region.lexTailB,Bool.and_eq_true,decide_eq_true_eq] at hB
 obtain ⟨⟨⟨⟨hsel,hn⟩,hs⟩,hc⟩,hlex⟩:=hB
 have hn':n < l.length:=by simpa using hn
 have htl:(l.take n).length=n:=by simp;omega
 have hdl:(l.drop n).length=l.toArray.size - n:=by simp
 have inv0:HeadInv .any l.toArray n (Array.replicate l.toArray.size false):=
  ⟨by simp,fun j oj _ hl=>(by rw [getD_replicate_false] at hl;cases hl),fun t _ ht=>getD_in (by simpa using ht) (getD_replicate_false _ _)⟩
 have H:=wpHead_lex (md:=.any) (g:=l.toArray.size - n) hsel hs hc hn (l.take n) 0 _ a (fun j hj=>by
  have hj':j < n:=by rw [htl] at hj;exact hj
  simp [hj']) (by simpa using htl) inv0 (by rw [htl];exact hlex) h
 refine wp_region_any hm ?_
 have:=wpAny_of_wpHead (Q':=Q) (g:=l.toArray.size - n) (fun listed a' w' hw' hL=>by
  have:=wpAny_of_seq (md:=.any) (Q':=Q) (l.drop n) n listed a' w' (fun j=>by simp [List.getElem?_drop]) (by rw [hdl];exact hL.1) (hL.2 w' hw')
  rwa [hdl] at this) _ _ _ { w with drawn:=w.drawn+1 } hC H
 rw [htl,show n+(l.toArray.size - n)=l.toArray.size by omega] at this
 exact this
end
end Go.Proofs.YtfgpbdieaflclaaGreat.Lx
namespace Go.Proofs.YtfgpbdieaflclaaGreat.Nm
open Go.RowKit Go.Maps Sp Lx Gr
theorem declaring_new {W:World} {b1 b2 b3 pb base rb kb cb cap at_ nk nc nc' z cnt:Nat} {nm:ByteArray} {on miss qv vv tv uv:Value} {qs:List (ByteArray × Bool)} {vs ts:List ByteArray} {us:List Nat} {l:List Rz} {x:Rz} {f:ByteArray->Option Value} {c:Nat->Option Value} {P2:World->Prop}
  (h:Dec W b1 b2 b3 pb base rb kb cb cap nm on miss qv vv tv uv qs vs ts us l f nk c nc) (hx:l[at_]?=some x) (hl:l.length<=2932031007317) (hs:x.name.size<=maxLen) (hf:f x.name=none) (hz:decl x.kind=z) (hz0:z ≠ 0) (hc:(c z).getD (.int .i64 0)=.int .i64 (cnt:Nat)) (hlt:cnt < mst z) (hm64:mst z<=64)
  (hrb:rb < base) (hkb:kb < base) (hcb:cb < base) (hkc:kb ≠ cb) (hT:TreeZ (l.set at_ { x with n:=(cnt:Int) })) (hnk:nk<=1000) (hnc:nc<=1000) (hnc':(if (c z).isSome then nc else nc+1)=nc')
  (hen:∀ u,Pol u pb base nm (.slice (some ⟨rb,0,none⟩) (l.set at_ { x with n:=(cnt:Int) }).length cap) on miss qv vv tv uv qs vs ts us->Rw u rb (l.set at_ { x with n:=(cnt:Int) })->Calls Tryz.prog 71 #[.pointer (some ⟨pb,0,none⟩),.int .i64 (at_:Int)] u fun e w'=>e=.returned (.tuple #[])/\P2 w'/\Fb [pb] base u w'):
  Calls Tryz.prog 67 #[.int .i64 (at_:Int),.pointer (some ⟨b1,0,none⟩),.pointer (some ⟨b2,0,none⟩),.pointer (some ⟨b3,0,none⟩)] W fun e w'=>e=.returned (.int .i64 0)/\P2 w' /\
   ∃ u,Fb [pb] base u w'/\Dec u b1 b2 b3 pb base rb kb cb cap nm on miss qv vv tv uv qs vs ts us (l.set at_ { x with n:=(cnt:Int) }) (upd f x.name (some (mv z cnt (endp (l.set at_ { x with n:=(cnt:Int) }) at_)))) (nk+1) (upd c z (some (.int .i64 ((cnt:Int)+1)))) nc'/\Fb [rb,kb,cb] base W u:=by
 have hat:at_ < l.length:=(List.getElem?_eq_some_iff.1 hx).1
 have h3:(at_:Int) < (l.length:Int):=by omega
 have h4:(at_:Int)<=2932031007317:=by omega
 obtain ⟨c0,c1,c2,c3,c4,_⟩:=h.r.cells hx
 obtain ⟨p1,_,_,_,_⟩:=h.p.cells
 obtain ⟨d1,_⟩:=box_cell h.x1
 obtain ⟨d2,_⟩:=box_cell h.x2
 obtain ⟨d3,_⟩:=box_cell h.x3
 have HN:=hdn <| declared_any x.kind W
 have hz4:z<=4:=hz ▸ decl_le x.kind
 have hbM:Below W.heap.size W (W.alloc (.cells #[.int .i64 0,.int .i64 0,.int .i64 0] 110)):=bAl W _
 have hmD:(Instr.lookup 86 (.map (some kb)) (.string x.name) true).run Tryz.prog W.drew=.ok (.tuple #[(f x.name).getD (mv 0 0 0),.bool (f x.name).isSome]) W.drew:=(h.k.same (w':=W.drew) rfl).lookOk kmap_law (k:=x.name) hs
 have hmA:(Instr.lookup 86 (.map (some kb)) (.string x.name) true).run Tryz.prog (W.alloc (.cells #[.int .i64 0,.int .i64 0,.int .i64 0] 110)).drew=.ok (.tuple #[(f x.name).getD (mv 0 0 0),.bool (f x.name).isSome]) (W.alloc (.cells #[.int .i64 0,.int .i64 0,.int .i64 0] 110)).drew:=(h.k.same (w':=(W.alloc (.cells #[.int .i64 0,.int .i64 0,.int .i64 0] 110)).drew) (hbM.block kb h.k.lt)).lookOk kmap_law (k:=x.name) hs
 rw [hf] at hmD hmA
 simp only [Option.getD_none,Option.isSome_none] at hmD hmA
 have ca:∀ {b i:Nat} {v:Value},W.cell? ⟨b,i,none⟩=some v->(W.alloc (.cells #[.int .i64 0,.int .i64 0,.int .i64 0] 110)).cell? ⟨b,i,none⟩=some v:=fun {b i v} hv=>(World.cell?_of_block (a:=⟨b,i,none⟩) (hbM.block b (World.block_lt_of_cell? W _ hv))).trans hv
 have ca2:=ca d2
 have ca3:=ca c1
 have HL:Hid (∀ j,(Instr.lookup 105 (.map (some cb)) (.int .i64 (z:Int)) false).run Tryz.prog ((W.alloc (.cells #[.int .i64 0,.int .i64 0,.int .i64 0] 110)).drew.drewN j)=.ok (.int .i64 (cnt:Int)) ((W.alloc (.cells #[.int .i64 0,.int .i64 0,.int .i64 0] 110)).drew.drewN j)):=fun j=>by
  have hb:=hbM.drew.trans ((bel_drewN (W.alloc (.cells #[.int .i64 0,.int .i64 0,.int .i64 0] 110)).drew j).mono hbM.drew.size)
  have:=(h.c.same (hb.block cb h.c.lt)).look cmap_law (k:=z) (show z<=4 from hz4)
  have e:(c z).getD cmap.z=.int .i64 (cnt:Int):=hc
  rw [e] at this
  exact this
 have HV:Hid (Below W.heap.size W (W.alloc (.cells #[.int .i64 0,.int .i64 0,.int .i64 0] 110)).drew):=hbM.drew
 have HD3:Hid ((W.alloc (.cells #[.int .i64 0,.int .i64 0,.int .i64 0] 110)).drew.cell? ⟨b3,0,none⟩=some (.map (some cb))):=ca d3
 have HMo:Hid (∀ u,Calls Tryz.prog 69 #[.int .i64 (z:Int)] u fun e w'=>e=.returned (.int .i64 (mst z:Nat))/\w'=u):=fun u=>most_any z hz4 u
 rw [hz] at HN
 have hz0':((z:Int) == 0)=false:=by simp;omega
 have hne:((cnt:Int) == (mst z:Int))=false:=by simp;omega
 have hcn:(cnt:Int)<=64:=by omega
 have HA:Hid (Dec W b1 b2 b3 pb base rb kb cb cap nm on miss qv vv tv uv qs vs ts us l f nk c nc/\l[at_]?=some x/\l.length<=2932031007317/\x.name.size<=maxLen/\f x.name=none/\(c z).getD (.int .i64 0)=.int .i64 (cnt:Nat)/\z<=4/\nk<=1000/\nc<=1000/\rb < base/\kb < base/\cb < base/\kb ≠ cb/\at_ < l.length):=⟨h,hx,hl,hs,hf,hc,hz4,hnk,hnc,hrb,hkb,hcb,hkc,hat⟩
 have HT:=hdn <| hT
 have HNc:=hdn <| hnc'
 have HEn:=hdn <| hen
 have hz4':(z:Int)<=4:=by omega
 clear h hx hl hs hat hbM ca hf hz hz0 hc hz4 hlt hm64 hrb hkb hcb hkc hT hnk hnc hen hnc'
 generalize mst z=mz at *
 go_enter Tryz.func67,Tryz.ntmps67
 go_wp2_with fail
 refine Calls.mono HN.out ?_
 rintro e w1 ⟨rfl,rfl⟩
 go_wp2_with fail
 go_region
 all_goals
  generalize (w1.alloc (.cells #[.int .i64 0,.int .i64 0,.int .i64 0] 110)).drew=w5 at *
  have e3:=HD3.out
  have hlk:=HL.out
  clear HL HD3 hmD hmA ca2 ca3
  go_wp2_with fail
  go_quiet ((go_at_call 69;exact Calls.quiet_of_same (HMo.out _)))
  have HV2:Hid (Below w1.heap.size w1 (w5.drewN nq)):=HV.out.trans ((bel_drewN w5 nq).mono HV.out.size)
  generalize w5.drewN nq=w6 at *
  clear hlk e3
  have h6:=HA.out.1.below HV2.out
  obtain ⟨g1,_⟩:=box_cell h6.x3
  obtain ⟨_,_,_,g2,_,g3⟩:=h6.r.cells HA.out.2.1
  have g4:=g3 (at_ * 5+3)
  have hlk6:(Instr.lookup 105 (.map (some cb)) (.int .i64 (z:Int)) false).run Tryz.prog w6=.ok (.int .i64 (cnt:Int)) w6:=by
   have:=h6.c.look cmap_law (k:=z) (show z<=4 from HA.out.2.2.2.2.2.2.1)
   have e:(c z).getD cmap.z=.int .i64 (cnt:Int):=HA.out.2.2.2.2.2.1
   rw [e] at this
   exact this
  have h7:=h6.setN HA.out.2.1 HA.out.2.2.2.2.2.2.2.2.2.1 (cnt:Int)
  have H7:=hdn <| h7
  have hfr7:Fr [rb] w6 (w6.setCell ⟨rb,at_ * 5+3,none⟩ (.int .i64 (cnt:Int))):=Fr.set w6 (at_ * 5+3) (.int .i64 (cnt:Int)) (List.mem_singleton.2 rfl)
  have HF7:Hid (Fb [rb,kb,cb] base w1 (w6.setCell ⟨rb,at_ * 5+3,none⟩ (.int .i64 (cnt:Int)))):=⟨HV2.out.os,HV2.out.tape,HV2.out.output,by have:=HV2.out.size;simpa [World.setCell] using this,fun k hk hn=>(hfr7.block k (Nat.lt_of_lt_of_le hk h6.p.sz) (fun hm=>hn (by simp at hm;simp [hm]))).trans (HV2.out.block k (Nat.lt_of_lt_of_le hk HA.out.1.p.sz))⟩
  clear h6 h7 hfr7 g3
  go_upto_region 11 with fail
  generalize w6.setCell ⟨rb,at_ * 5+3,none⟩ (.int .i64 (cnt:Int))=w7 at *
  clear g1 g2 g4 hlk6
  obtain ⟨g1,_⟩:=box_cell H7.out.x3
  have hlk7:(Instr.lookup 105 (.map (some cb)) (.int .i64 (z:Int)) false).run Tryz.prog w7=.ok (.int .i64 (cnt:Int)) w7:=by
   have:=H7.out.c.look cmap_law (k:=z) (show z<=4 from HA.out.2.2.2.2.2.2.1)
   have e:(c z).getD cmap.z=.int .i64 (cnt:Int):=HA.out.2.2.2.2.2.1
   rw [e] at this
   exact this
  obtain ⟨w8,hup8,hm8,hg8⟩:=H7.out.c.put cmap_law (k:=z) (show z<=4 from HA.out.2.2.2.2.2.2.1) (by have:=HA.out.2.2.2.2.2.2.2.2.1;unfold maxLen;omega) (.int .i64 ((cnt:Int)+1))
  have hup8':(Instr.mapUpdate 105 (.map (some cb)) (.int .i64 (z:Int)) (.int .i64 ((cnt:Int)+1))).run Tryz.prog w7=.ok () w8:=hup8
  rw [HNc.out] at hm8
  have h8:=H7.out.cput HA.out.2.2.2.2.2.2.2.2.2.2.2.1 HA.out.2.2.2.2.2.2.2.2.2.2.2.2.1 hg8 hm8
  have H8:=hdn <| h8
  have HF8:Hid (Fb [rb,kb,cb] base w1 w8):=HF7.out.trans ⟨hg8.os,hg8.tape,hg8.output,hg8.size,fun k hk hn=>hg8.block k (Nat.lt_of_lt_of_le hk H7.out.p.sz) (fun e=>hn (by cases e;simp))⟩
  clear hup8 hm8 hg8 h8
  go_upto_region 12 with fail
  clear g1 hlk7 hup8'
  have h8d:∀ j,Dec (w8.drewN j) b1 b2 b3 pb base rb kb cb cap nm on miss qv vv tv uv qs vs ts us (l.set at_ { x with n:=(cnt:Int) }) f nk (upd c z (some (.int .i64 ((cnt:Int)+1)))) nc':=fun j=>H8.out.below (bel_drewN w8 j)
  have H8d:=hdn <| h8d
  obtain ⟨g2,_⟩:=box_cell H8.out.x2
  obtain ⟨g3,_⟩:=box_cell H8.out.x1
  obtain ⟨g4,_,_,_,_⟩:=H8.out.p.cells
  have hxs:(l.set at_ { x with n:=(cnt:Int) })[at_]?=some { x with n:=(cnt:Int) } := by rw [List.getElem?_set,if_pos rfl,if_pos HA.out.2.2.2.2.2.2.2.2.2.2.2.2.2]
  obtain ⟨_,g5,_,g6,_,_⟩:=H8.out.r.cells hxs
  dsimp only at g5 g6
  have HEd:Hid (∀ j,Calls Tryz.prog 70 #[.slice (some ⟨rb,0,none⟩) l.length cap,.int .i64 (at_:Int)] (w8.drewN j) fun e w'=>e=.returned (.int .i64 (endp (l.set at_ { x with n:=(cnt:Int) }) at_:Nat))/\w'=w8.drewN j):=fun j=>by
   have:=end_any (some ⟨rb,0,none⟩) (l.set at_ { x with n:=(cnt:Int) }) cap at_ (w8.drewN j) (H8d.out j).r.rz (by rw [List.length_set];exact HA.out.2.2.1) HT.out (by rw [List.length_set];exact HA.out.2.2.2.2.2.2.2.2.2.2.2.2.2)
   rw [List.length_set] at this
   exact this
  rw [List.length_set] at g4
  generalize hep:endp (l.set at_ { x with n:=(cnt:Int) }) at_=ep at *
  have HEp:Hid (endp (l.set at_ { x with n:=(cnt:Int) }) at_=ep):=hep
  clear h8d hxs hep
  refine wp_region_quiet_tail (C:=fun w'=>∃ j,w'=w8.drewN j) 18 (by kernel_rfl) (by kernel_rfl) ⟨1,rfl⟩ ?_
  simp only [List.take_succ_cons,List.take_zero,List.drop_succ_cons,List.drop_zero]
  iterate 18 quiet_step ((go_at_call 70;exact Calls.quiet_of_same (HEd.out _)))
  refine wpQuiet_nil ?_
  rintro _ ⟨j,rfl⟩
  obtain ⟨w9,hup9,hm9,hg9⟩:=(H8d.out j).k.put kmap_law (k:=x.name) HA.out.2.2.2.1 (by have:=HA.out.2.2.2.2.2.2.2.1;unfold maxLen;omega) (mv z cnt ep)
  have hup9':(Instr.mapUpdate 86 (.map (some kb)) (.string x.name) (.agg #[.int .i64 (z:Int),.int .i64 (cnt:Int),.int .i64 (ep:Int)])).run Tryz.prog (w8.drewN j)=.ok () w9:=hup9
  rw [HA.out.2.2.2.2.1] at hm9
  have hm9:IsMp kmap w9 kb (upd f x.name (some (mv z cnt ep))) (nk+1):=hm9
  have h9:=(H8d.out j).kput HA.out.2.2.2.2.2.2.2.2.2.2.1 HA.out.2.2.2.2.2.2.2.2.2.2.2.2.1 hg9 hm9
  have H9:=hdn <| h9
  have HF9:Hid (Fb [rb,kb,cb] base w1 w9):=(HF8.out.trans (Fb.of_below ((bel_drewN w8 j).mono H8.out.p.sz))).trans ⟨hg9.os,hg9.tape,hg9.output,hg9.size,fun k hk hn=>hg9.block k (Nat.lt_of_lt_of_le hk (H8d.out j).p.sz) (fun e=>hn (by cases e;simp))⟩
  obtain ⟨g7,_⟩:=box_cell h9.x1
  have HE9:=hdn <| HEn.out w9 h9.p h9.r
  clear hup9 hm9 hg9 h9 HEd H8d HEn
  go_wp2_with fail
  refine Calls.mono HE9.out ?_
  rintro e w10 ⟨rfl,hP2,hF10⟩
  have H10:Hid (P2 w10/\Fb [pb] base w9 w10):=⟨hP2,hF10⟩
  clear hP2 hF10 HE9 g7
  go_wp2
  go_ret
  exact ⟨rfl,H10.out.1,w9,H10.out.2,by rw [HEp.out];exact H9.out,HF9.out⟩
end Go.Proofs.YtfgpbdieaflclaaGreat.Nm
