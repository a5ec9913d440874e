import Derived.Test.YtfgpbdieaflclaaGreatK28
set_option maxHeartbeats 25600000
set_option maxRecDepth 100000
namespace Go.Proofs.YtfgpbdieaflclaaGreat.Nm
open Go.RowKit Go.Maps Sp Lx Gr
abbrev o5 (s:Rs) (qv vv tv uv ov:Value):List Ow:=[⟨2,67,2,qv,s.qs.length,qF s.qs⟩,⟨3,9,1,vv,s.vs.length,s.vs.map Value.string⟩,⟨4,9,1,tv,s.ts.length,s.ts.map Value.string⟩,⟨5,3,1,uv,s.us.length,nv s.us⟩,⟨6,3,1,ov,s.qs.length,iv (onsOf s.ev s.qs.length)⟩]
theorem infoTh:(Tryz.prog.info? 73).map (fun i=>(i.zero,i.size,i.bytes))=some (some (.agg #[.string ⟨#[]⟩,.int .i64 0,.int .i64 0,.int .i64 0]),4,40):=by kernel_rfl
theorem thF_snoc (k:List Th) (x:Th):thF (x :: k).reverse=thF k.reverse++[.string x.1,.int .i64 (x.2.1:Int),.int .i64 (x.2.2.1:Int),.int .i64 (x.2.2.2:Int)]:=by
 rw [List.reverse_cons]
 unfold thF
 rw [List.flatMap_append]
 rfl
theorem Ob.putF {wa w4:World} {b base:Nat} {T:TypeId} {cs:Array Value} {os1 os2:List Ow} {o:Ow} {v':Value} {n':Nat} {xs':List Value} (h:Ob wa b base T cs (os1++o :: os2)) (hG:Gone wa o.v w4 v') (ho:w4.ownsRow base o.T o.sz v' n' xs'):
  w4.heap[b]?=some (.cells cs T (0,0))/\Ob (w4.setCell ⟨b,o.i,none⟩ v') b base T (cs.setIfInBounds o.i v') (os1++{ o with v:=v',n:=n',xs:=xs' } :: os2)/\(∀ k,k < base->w4.heap[k]?=wa.heap[k]?)/\(∀ (k:Nat) (a:Array Value) (S:TypeId),wa.heap[k]?=some (.cells a S (0,0))->S ≠ o.T->w4.heap[k]?=some (.cells a S (0,0)))/\Fb [b] base wa (w4.setCell ⟨b,o.i,none⟩ v'):=by
 obtain ⟨h1,h2⟩:=h.put hG ho
 have hoo:=h.own o (by simp)
 have hlt:∀ k,o.v.ownBlock=some k->base<=k:=fun k e=>(World.ownsRow.lt hoo.2 k e).1
 have hk:∀ k,k < base->w4.heap[k]?=wa.heap[k]?:=fun k hk=>hG.1.block k (by have:=h.sz;omega) (fun e=>by have:=hlt k e.symm;omega)
 refine ⟨h1,h2,hk,fun k a S hb hS=>?_,⟨hG.1.os,hG.1.tape,hG.1.output,?_,fun k hkb hn=>?_⟩⟩
 ·refine (hG.1.block k (blk_lt hb) (fun e=>?_)).trans hb
  rcases hoo.2.2 with ⟨e1,_⟩ | ⟨g,cap,cur,e1,_,h4,_⟩
  ·rw [e1] at e;cases e
  ·rw [e1] at e
   simp only [Value.ownBlock,Option.some.injEq] at e
   subst e
   rw [hb] at h4
   cases h4
   exact hS rfl
 ·have:=hG.1.size
  simpa [World.setCell] using this
 ·rw [Below.heap_setCell w4 _ v' k (fun e=>hn (by have e2:k=b:=e;simp [e2]))]
  exact hk k hkb
theorem cell_fourd (w:World) (T:TypeId) (a c d e:Value):∀ j u,[a,c,d,e][j]?=some u->(w.alloc (.cells #[a,c,d,e] T)).cell? ((⟨w.heap.size,0,none⟩:Addr).add j)=some u:=by
 intro j u h
 exact Lib.cells_of_row (heap_alloc_new w (.cells #[a,c,d,e] T)) 4 j u (by simpa using h)
theorem declare7 {W:World} {b base rb rc eb m i:Nat} {nm:ByteArray} {l0:List Rz} {s:Rs} {qv vv tv uv ov hv:Value} (h:Mkr W b base rb rc eb nm l0 s qv vv tv uv ov hv) (hg:Good l0 m s) (hnd:Nd s) (hi:i < l0.length) (hl:l0.length<=2932031007317) (hT:TreeZ l0) (hk:(rat s.rows i).kind=7):
  Calls Tryz.prog 16 #[.pointer (some ⟨b,0,none⟩),.int .i64 (i:Int),.int .i64 4] W (MkL W b base rb rc eb nm l0 (askD i s)):=by
 have hlen:=like_len hg.like
 have his:i < s.rows.length:=by omega
 obtain ⟨c0,c1,c2,c3,c4,_⟩:=h.r.cells (some_rat his)
 have b1:W.cell? ⟨b,1,none⟩=some (.slice (some ⟨rb,0,none⟩) l0.length rc):=h.cell 1 _ rfl
 obtain ⟨a0,a1,a2,a3,a4⟩:=row_cells W (rat s.rows i)
 have hkl:s.known.reverse.length<=1000:=by
  rw [List.length_reverse,hg.kl]
  have:=hg.q
  have:=hg.v
  have:=hg.t
  have:=hg.u
  omega
 have hcl:s.cnt 4<=64:=hg.cnt_le 4
 have hdk:decl (rat s.rows i).kind=4:=by rw [hk];rfl
 have HA:Hid (askD i s=if (lk s.known (rat s.rows i).name).isSome then .error 31 else if s.cnt 4=64 then .error 3 else .ok (s.dec i)):=by
  show _=_
  unfold askD
  rw [hdk,if_neg (by decide)]
  rfl
 have HD:Hid (s.dec i=⟨numb s.rows i (s.cnt 4),((rat s.rows i).name,4,s.cnt 4,endp l0 i) :: s.known,s.qs,s.vs,s.ts,s.us++[i+1],s.ev⟩):=by
  show _=_
  have he:endp (numb s.rows i (s.cnt 4)) i=endp l0 i:=endp_like ((numb_clr _ _ _).trans hg.like) i
  unfold Rs.dec
  rw [hdk,hk,he]
  rfl
 have HCn:Hid ((s.dec i).cnt 1=s.cnt 1/\(s.dec i).cnt 2=s.cnt 2/\(s.dec i).cnt 3=s.cnt 3/\(s.dec i).cnt 4=s.cnt 4+1):=by
  refine ⟨?_,?_,?_,?_⟩
  all_goals
   rw [cnt_dec s i _ (by rw [hdk];decide),hdk]
   rfl
 have hR5:rat s.rows i=⟨7,(rat s.rows i).name,(rat s.rows i).stop,(rat s.rows i).n,(rat s.rows i).kids⟩:=by
  rw [<-hk]
 have hep:endp l0 i<=l0.length:=(end_kid hT.whole hi).2.2
 have hb1:Below W.heap.size W (W.alloc (.cells #[.int .i64 (rat s.rows i).kind,.string (rat s.rows i).name,.int .i64 (rat s.rows i).stop,.int .i64 (rat s.rows i).n,.int .i64 (rat s.rows i).kids] 47)):=bAl W _
 have h1:=h.below hb1
 obtain ⟨ho,hc,hhv,hth⟩:=h1.things
 subst hhv
 have HM:=hdn <| h1
 have HB1:Hid (Fb [b,rb] base W (W.alloc (.cells #[.int .i64 (rat s.rows i).kind,.string (rat s.rows i).name,.int .i64 (rat s.rows i).stop,.int .i64 (rat s.rows i).n,.int .i64 (rat s.rows i).kids] 47))/\b < W.heap.size/\eb < W.heap.size/\rb < W.heap.size):=⟨Fb.of_below (hb1.mono h.ob.sz),blk_lt h.ob.blk,Nat.lt_of_lt_of_le h.lt.2.1 h.ob.sz,h.r.lt⟩
 have HNd:=hdn <| hnd
 have HV:Hid (s.us.length<=1000):=by show _<=_;have:=hg.q;have:=hg.v;have:=hg.t;have:=hg.u;omega
 have HS:Hid (i < s.rows.length/\i < l0.length/\s.us.length<=64/\s.known.length<=1000):=⟨his,hi,hg.u,by rw [<-List.length_reverse];exact hkl⟩
 generalize hxx:rat s.rows i=x at *
 have HX:Hid (rat s.rows i=x):=hxx
 obtain ⟨kd0,nm1,st,n,ks⟩:=x
 dsimp only at *
 subst hk
 have b9:(W.alloc (.cells #[.int .i64 7,.string nm1,.int .i64 st,.int .i64 n,.int .i64 ks] 47)).cell? ⟨b,9,none⟩=some (.slice ho s.known.reverse.length hc):=h1.cell 9 _ rfl
 have bz:(W.alloc (.cells #[.int .i64 7,.string nm1,.int .i64 st,.int .i64 n,.int .i64 ks] 47)).cell? ⟨b,14,none⟩=some (.int .i64 (s.cnt 4:Nat)):=h1.cell 14 _ rfl
 have fz:(W.alloc (.cells #[.int .i64 7,.string nm1,.int .i64 st,.int .i64 n,.int .i64 ks] 47)).frozen? ⟨b,14,none⟩=false:=fzb h1.ob.blk 14
 have HFd:=hdn <| find_any (nm:=nm1) b9 hth hkl
 have HMs:Hid (∀ u,Calls Tryz.prog 34 #[.int .i64 4] u fun e w'=>e=.returned (.int .i64 64)/\w'=u):=fun u=>rmost_any 4 (by decide) (by decide) u
 have hi':(i:Int) < (l0.length:Int):=by omega
 have hi2:(i:Int)<=2932031007317:=by omega
 have hcl2:(s.cnt 4:Int)<=64:=by omega
 have hep2:(endp l0 i:Int)<=2932031007317:=by omega
 clear h hg hnd hi hl hlen his hkl hcl hdk hb1 h1 hth hep hR5 hT hxx
 generalize askD i s=R at *
 go_enter Tryz.func16,Tryz.ntmps16
 go_wp2_with fail
 refine Calls.mono HFd.out ?_
 rintro e w1 ⟨⟨j,hj,hnm,rfl⟩ | ⟨hno,rfl⟩,rfl⟩
 ·have hlk:(lk s.known nm1).isSome=true:=by
   rw [lk_nodup HNd.out (nm:=nm1) (v:=s.known.reverse[j].2) (by rw [<-hnm];exact List.mem_reverse.1 (List.getElem_mem hj))]
   rfl
  rw [if_pos hlk] at HA
  have hj0:decide ((0:Int)<=(j:Int))=true:=decide_eq_true (by omega)
  have hj1:(0:Int)<=(j:Int):=by omega
  clear hlk hnm hj HFd HNd HD
  go_wp2
  go_ret
  rw [HA.out]
  exact ⟨HB1.out.1,rfl⟩
 ·have hlk:(lk s.known nm1).isSome=false:=by rw [lk_none (fun x hx=>hno x (List.mem_reverse.2 hx))];rfl
  rw [hlk,if_neg (by decide)] at HA
  clear hno hlk HFd HNd
  by_cases hfull:s.cnt 4=64
  ·have hfb:((s.cnt 4:Int) == 64)=true:=by simp [hfull]
   rw [if_pos hfull] at HA
   clear hfull HD
   go_wp2_with fail
   refine Calls.mono (HMs.out _) ?_
   rintro e w2 ⟨rfl,rfl⟩
   go_wp2
   go_ret
   rw [HA.out]
   exact ⟨HB1.out.1,rfl⟩
  ·have hfb:((s.cnt 4:Int) == 64)=false:=by simp;omega
   rw [if_neg hfull] at HA
   clear hfull
   go_wp2_with fail
   refine Calls.mono (HMs.out _) ?_
   rintro e w2 ⟨rfl,rfl⟩
   go_upto_region 8 with fail
   have hO2:Ob ((W.alloc (.cells #[.int .i64 7,.string nm1,.int .i64 st,.int .i64 n,.int .i64 ks] 47)).setCell ⟨b,14,none⟩ (.int .i64 ((s.cnt 4:Int)+1))) b base 55 (mkC nm rb rc l0.length eb qv vv tv uv ov (plc s.ev (5,0)) (.slice ho s.known.reverse.length hc) (s.cnt 1) (s.cnt 2) (s.cnt 3) (s.cnt 4+1)) ((o5 s qv vv tv uv ov)++[⟨9,73,4,.slice ho s.known.reverse.length hc,s.known.length,thF s.known.reverse⟩]):=HM.out.ob.set 14 (.int .i64 ((s.cnt 4:Int)+1)) (by simp)
   have hset:∀ k,k ≠ b->((W.alloc (.cells #[.int .i64 7,.string nm1,.int .i64 st,.int .i64 n,.int .i64 ks] 47)).setCell ⟨b,14,none⟩ (.int .i64 ((s.cnt 4:Int)+1))).heap[k]?=(W.alloc (.cells #[.int .i64 7,.string nm1,.int .i64 st,.int .i64 n,.int .i64 ks] 47)).heap[k]?:=fun k hk=>Below.heap_setCell _ _ _ k (fun e=>hk e)
   have hlt:=HM.out.lt
   have hnb:W.heap.size ≠ b:=by have:=HB1.out.2.1;omega
   have x1:((W.alloc (.cells #[.int .i64 7,.string nm1,.int .i64 st,.int .i64 n,.int .i64 ks] 47)).setCell ⟨b,14,none⟩ (.int .i64 ((s.cnt 4:Int)+1))).cell? ⟨W.heap.size,1,none⟩=some (.string nm1):=(World.cell?_of_block (a:=⟨W.heap.size,1,none⟩) (hset _ hnb)).trans a1
   have x0:((W.alloc (.cells #[.int .i64 7,.string nm1,.int .i64 st,.int .i64 n,.int .i64 ks] 47)).setCell ⟨b,14,none⟩ (.int .i64 ((s.cnt 4:Int)+1))).cell? ⟨W.heap.size,0,none⟩=some (.int .i64 7):=(World.cell?_of_block (a:=⟨W.heap.size,0,none⟩) (hset _ hnb)).trans a0
   have H2:Hid (Ob ((W.alloc (.cells #[.int .i64 7,.string nm1,.int .i64 st,.int .i64 n,.int .i64 ks] 47)).setCell ⟨b,14,none⟩ (.int .i64 ((s.cnt 4:Int)+1))) b base 55 (mkC nm rb rc l0.length eb qv vv tv uv ov (plc s.ev (5,0)) (.slice ho s.known.reverse.length hc) (s.cnt 1) (s.cnt 2) (s.cnt 3) (s.cnt 4+1)) ((o5 s qv vv tv uv ov)++[⟨9,73,4,.slice ho s.known.reverse.length hc,s.known.length,thF s.known.reverse⟩])/\Rw ((W.alloc (.cells #[.int .i64 7,.string nm1,.int .i64 st,.int .i64 n,.int .i64 ks] 47)).setCell ⟨b,14,none⟩ (.int .i64 ((s.cnt 4:Int)+1))) rb s.rows/\(∀ k,k < l0.length->((W.alloc (.cells #[.int .i64 7,.string nm1,.int .i64 st,.int .i64 n,.int .i64 ks] 47)).setCell ⟨b,14,none⟩ (.int .i64 ((s.cnt 4:Int)+1))).cell? ⟨eb,k,none⟩=some (.int .i64 (endp l0 k:Nat)))/\Fb [b,rb] base W ((W.alloc (.cells #[.int .i64 7,.string nm1,.int .i64 st,.int .i64 n,.int .i64 ks] 47)).setCell ⟨b,14,none⟩ (.int .i64 ((s.cnt 4:Int)+1)))/\((W.alloc (.cells #[.int .i64 7,.string nm1,.int .i64 st,.int .i64 n,.int .i64 ks] 47)).setCell ⟨b,14,none⟩ (.int .i64 ((s.cnt 4:Int)+1))).cell? ⟨W.heap.size,1,none⟩=some (.string nm1)/\((W.alloc (.cells #[.int .i64 7,.string nm1,.int .i64 st,.int .i64 n,.int .i64 ks] 47)).setCell ⟨b,14,none⟩ (.int .i64 ((s.cnt 4:Int)+1))).cell? ⟨W.heap.size,0,none⟩=some (.int .i64 7)):=⟨hO2,HM.out.r.same (hset _ hlt.2.2.1),fun k hk=>(World.cell?_of_block (a:=⟨eb,k,none⟩) (hset _ hlt.2.2.2.1)).trans (HM.out.e k hk),HB1.out.1.trans ((Fr.set (F:=[b,rb]) _ 14 (.int .i64 ((s.cnt 4:Int)+1)) (by simp)).fbw HM.out.ob.sz),x1,x0⟩
   have HXb:Hid (((W.alloc (.cells #[.int .i64 7,.string nm1,.int .i64 st,.int .i64 n,.int .i64 ks] 47)).setCell ⟨b,14,none⟩ (.int .i64 ((s.cnt 4:Int)+1))).drew.heap[W.heap.size]?=some (.cells #[.int .i64 7,.string nm1,.int .i64 st,.int .i64 n,.int .i64 ks] 47 (0,0))):=(hset _ hnb).trans (heap_alloc_new W _)
   have HLt:=hdn <| hlt
   clear hO2 hset hlt x1 x0 a0 a1 a2 a3 a4 b1 b9 bz fz c0 c1 c2 c3 c4 HMs hfb
   generalize (W.alloc (.cells #[.int .i64 7,.string nm1,.int .i64 st,.int .i64 n,.int .i64 ks] 47)).setCell ⟨b,14,none⟩ (.int .i64 ((s.cnt 4:Int)+1))=w3 at *
   go_cut [] (fun wx=>∃ bo bc,Ob wx b base 55 (mkC nm rb rc l0.length eb qv vv tv uv ov (plc s.ev (5,0)) (.slice bo (s.known.length+1) bc) (s.cnt 1) (s.cnt 2) (s.cnt 3) (s.cnt 4+1)) ((o5 s qv vv tv uv ov)++[⟨9,73,4,.slice bo (s.known.length+1) bc,s.known.length+1,thF ((nm1,4,s.cnt 4,endp l0 i) :: s.known).reverse⟩])/\Rw wx rb s.rows/\(∀ k,k < l0.length->wx.cell? ⟨eb,k,none⟩=some (.int .i64 (endp l0 k:Nat)))/\Fb [b,rb] base W wx/\wx.heap[W.heap.size]?=some (.cells #[.int .i64 7,.string nm1,.int .i64 st,.int .i64 n,.int .i64 ks] 47 (0,0)))
   case rest=>
    obtain ⟨bo,bc,hO,hR,hE,hF,hXB⟩:=hcut
    have y1:wc.cell? ⟨b,1,none⟩=some (.slice (some ⟨rb,0,none⟩) l0.length rc):=by simp only [World.cell?,hO.blk];rfl
    have hxr:=some_rat HS.out.1
    rw [HX.out] at hxr
    obtain ⟨_,_,_,d3,_,dfz⟩:=hR.cells hxr
    have df3:=dfz (i * 5+3)
    dsimp only at d3
    have hbk:∀ k,k ≠ rb->(wc.setCell ⟨rb,i * 5+3,none⟩ (.int .i64 (s.cnt 4:Int))).heap[k]?=wc.heap[k]?:=fun k hk=>Below.heap_setCell wc _ _ k (fun e=>hk e)
    have hnr:W.heap.size ≠ rb:=by have:=HB1.out.2.2.2;omega
    have hR6:=hR.setN hxr (s.cnt 4:Int)
    have H6:Hid (Ob (wc.setCell ⟨rb,i * 5+3,none⟩ (.int .i64 (s.cnt 4:Int))) b base 55 (mkC nm rb rc l0.length eb qv vv tv uv ov (plc s.ev (5,0)) (.slice bo (s.known.length+1) bc) (s.cnt 1) (s.cnt 2) (s.cnt 3) (s.cnt 4+1)) ((o5 s qv vv tv uv ov)++[⟨9,73,4,.slice bo (s.known.length+1) bc,s.known.length+1,thF ((nm1,4,s.cnt 4,endp l0 i) :: s.known).reverse⟩])/\Rw (wc.setCell ⟨rb,i * 5+3,none⟩ (.int .i64 (s.cnt 4:Int))) rb (numb s.rows i (s.cnt 4))/\(∀ k,k < l0.length->(wc.setCell ⟨rb,i * 5+3,none⟩ (.int .i64 (s.cnt 4:Int))).cell? ⟨eb,k,none⟩=some (.int .i64 (endp l0 k:Nat)))/\Fb [b,rb] base W (wc.setCell ⟨rb,i * 5+3,none⟩ (.int .i64 (s.cnt 4:Int)))/\(wc.setCell ⟨rb,i * 5+3,none⟩ (.int .i64 (s.cnt 4:Int))).heap[W.heap.size]?=some (.cells #[.int .i64 7,.string nm1,.int .i64 st,.int .i64 n,.int .i64 ks] 47 (0,0))):=by
     refine ⟨hO.other HLt.out.1 HLt.out.2.2.1 (Fr.set wc _ _ (by simp)),?_,fun k hk=>(World.cell?_of_block (a:=⟨eb,k,none⟩) (hbk _ (Ne.symm HLt.out.2.2.2.2))).trans (hE k hk),hF.trans ((Fr.set (F:=[b,rb]) wc (i * 5+3) (.int .i64 (s.cnt 4:Int)) (by simp)).fbw hO.sz),(hbk _ hnr).trans hXB⟩
     unfold numb
     rw [HX.out]
     exact hR6
    clear hO hR hE hF hXB hbk hxr hR6 dfz HXb H2 HM
    go_upto_region 19 with fail
    generalize wc.setCell ⟨rb,i * 5+3,none⟩ (.int .i64 (s.cnt 4:Int))=w6 at *
    have y5:w6.cell? ⟨b,5,none⟩=some uv:=by simp only [World.cell?,H6.out.1.blk];rfl
    have hbU:Below w6.heap.size w6 (w6.alloc (.cells #[.int .i64 ((i:Int)+1)] 3)):=bAl w6 _
    have HO7:=hdn <| H6.out.1.below hbU
    have HR7:Hid (Rw (w6.alloc (.cells #[.int .i64 ((i:Int)+1)] 3)) rb (numb s.rows i (s.cnt 4))/\(∀ k,k < l0.length->(w6.alloc (.cells #[.int .i64 ((i:Int)+1)] 3)).cell? ⟨eb,k,none⟩=some (.int .i64 (endp l0 k:Nat)))/\Fb [b,rb] base W (w6.alloc (.cells #[.int .i64 ((i:Int)+1)] 3))):=⟨H6.out.2.1.same (hbU.block _ H6.out.2.1.lt),fun k hk=>(hbU.cell (p:=⟨eb,k,none⟩) (World.block_lt_of_cell? w6 ⟨eb,k,none⟩ (H6.out.2.2.1 k hk))).trans (H6.out.2.2.1 k hk),H6.out.2.2.2.1.trans (Fb.of_below (hbU.mono H6.out.1.sz))⟩
    have HOw:Hid ((w6.alloc (.cells #[.int .i64 ((i:Int)+1)] 3)).ownsRow base 3 1 uv s.us.length (nv s.us)):=(HO7.out.own ⟨5,3,1,uv,s.us.length,nv s.us⟩ (by simp)).2
    obtain ⟨j0,hj,hj0,hj1,hj2⟩:=info_parts infoI
    clear hbU
    go_wp2_with (at_builtin;refine append_gone _ rfl _ _ 23 rfl base 3 j0 (.int .i64 0) 1 8 Tryz.underlying23 hj hj0 hj1 hj2 rfl (by decide) uv _ (nv s.us) rfl HOw.out ⟨w6.heap.size,0,none⟩ 1 1 [.int .i64 ((i:Int)+1)] rfl rfl (cell_one w6 _ _) (by intro u hu;simp only [List.mem_cons,List.not_mem_nil,or_false] at hu;subst hu;rfl) (by have:=HS.out.2.2.1;unfold maxLen;omega) (by have:=HS.out.2.2.1;omega) HO7.out.sz (by decide) ?_)
    intro uv' w8 hown8 hG8
    obtain ⟨p1,p2,p3,p4,p5⟩:=Ob.putF (os1:=[⟨2,67,2,qv,s.qs.length,qF s.qs⟩,⟨3,9,1,vv,s.vs.length,s.vs.map Value.string⟩,⟨4,9,1,tv,s.ts.length,s.ts.map Value.string⟩]) (os2:=[⟨6,3,1,ov,s.qs.length,iv (onsOf s.ev s.qs.length)⟩,⟨9,73,4,.slice bo (s.known.length+1) bc,s.known.length+1,thF ((nm1,4,s.cnt 4,endp l0 i) :: s.known).reverse⟩]) HO7.out hG8 hown8
    have e5:w8.cell? ⟨b,5,none⟩=some uv:=by simp only [World.cell?,p1];rfl
    have f5:w8.frozen? ⟨b,5,none⟩=false:=fzb p1 5
    have hne:∀ k,k ≠ b->(w8.setCell ⟨b,5,none⟩ uv').heap[k]?=w8.heap[k]?:=fun k hk=>Below.heap_setCell w8 _ _ k (fun e=>hk e)
    have HF:Hid (Fb [b,rb] base W (w8.setCell ⟨b,5,none⟩ uv')):=HR7.out.2.2.trans (p5.wide (by simp))
    have HEnd:Hid (Mkr (w8.setCell ⟨b,5,none⟩ uv') b base rb rc eb nm l0 (s.dec i) qv vv tv uv' ov (.slice bo (s.known.length+1) bc)):=by
     have hd:=HD.out
     have f1:(s.dec i).rows=numb s.rows i (s.cnt 4):=by rw [hd]
     have f2:(s.dec i).known=(nm1,4,s.cnt 4,endp l0 i) :: s.known:=by rw [hd]
     have f3:(s.dec i).qs=s.qs:=by rw [hd]
     have f4:(s.dec i).vs=s.vs:=by rw [hd]
     have f5':(s.dec i).ts=s.ts:=by rw [hd]
     have f6:(s.dec i).us=s.us++[i+1]:=by rw [hd]
     have f7:(s.dec i).ev=s.ev:=by rw [hd]
     refine ⟨?_,by rw [f1];exact HR7.out.1.same ((hne _ HLt.out.2.2.1).trans (p3 _ HLt.out.1)),fun k hk=>(World.cell?_of_block (a:=⟨eb,k,none⟩) ((hne _ HLt.out.2.2.2.1).trans (p3 _ HLt.out.2.1))).trans (HR7.out.2.1 k hk),HLt.out⟩
     have e1:nv (s.us++[i+1])=nv s.us++[.int .i64 ((i:Int)+1)]:=by simp [nv]
     have e2:(s.us++[i+1]).length=s.us.length+1:=by simp
     rw [HCn.out.1,HCn.out.2.1,HCn.out.2.2.1,HCn.out.2.2.2,f2,f3,f4,f5',f6,f7,e1,e2,List.length_cons]
     exact p2
    obtain ⟨uo',uc',rfl⟩:=own_form hown8
    clear hown8 hG8 p1 p2 p3 p4 p5 hne
    go_wp2
    go_ret
    rw [HA.out]
    exact ⟨HF.out,rfl,qv,vv,tv,_,ov,_,HEnd.out⟩
   have hbd:Below w3.heap.size w3 w3.drew:=(Below.refl _ w3).drew
   have HLd:Hid (Ob w3.drew b base 55 (mkC nm rb rc l0.length eb qv vv tv uv ov (plc s.ev (5,0)) (.slice ho s.known.reverse.length hc) (s.cnt 1) (s.cnt 2) (s.cnt 3) (s.cnt 4+1)) ((o5 s qv vv tv uv ov)++[⟨9,73,4,.slice ho s.known.reverse.length hc,s.known.length,thF s.known.reverse⟩])/\Rw w3.drew rb s.rows/\(∀ k,k < l0.length->w3.drew.cell? ⟨eb,k,none⟩=some (.int .i64 (endp l0 k:Nat)))/\Fb [b,rb] base W w3.drew/\w3.drew.cell? ⟨W.heap.size,1,none⟩=some (.string nm1)/\w3.drew.cell? ⟨W.heap.size,0,none⟩=some (.int .i64 7)):=⟨H2.out.1.below hbd,H2.out.2.1.same rfl,H2.out.2.2.1,H2.out.2.2.2.1.trans (Fb.of_below (hbd.mono H2.out.1.sz)),H2.out.2.2.2.2.1,H2.out.2.2.2.2.2⟩
   clear hbd H2
   have hS0:w3.drew.cell? ⟨W.heap.size,1,none⟩=some (.string nm1)/\w3.drew.cell? ⟨b,8,none⟩=some (.slice (some ⟨eb,0,none⟩) l0.length l0.length)/\w3.drew.cell? ⟨eb,i,none⟩=some (.int .i64 (endp l0 i:Int)):=⟨HLd.out.2.2.2.2.1,by simp only [World.cell?,HLd.out.1.blk];rfl,HLd.out.2.2.1 i HS.out.2.1⟩
   obtain ⟨j0,hj,hj0,hj1,hj2⟩:=info_parts infoTh
   refine wp_region_held (S:=fun w'=>w'.cell? ⟨W.heap.size,1,none⟩=some (.string nm1)/\w'.cell? ⟨b,8,none⟩=some (.slice (some ⟨eb,0,none⟩) l0.length l0.length)/\w'.cell? ⟨eb,i,none⟩=some (.int .i64 (endp l0 i:Int))) (by kernel_rfl) ?_
   have hS:(fun w':World=>w'.cell? ⟨W.heap.size,1,none⟩=some (.string nm1)/\w'.cell? ⟨b,8,none⟩=some (.slice (some ⟨eb,0,none⟩) l0.length l0.length)/\w'.cell? ⟨eb,i,none⟩=some (.int .i64 (endp l0 i:Int))) w3.drew:=hS0
   change wpAnyH _ _ _ _ _ _ _ _ w3.drew
   refine tq 0 rfl hS ?_
   refine tq 1 rfl hS ?_
   refine tq 2 rfl hS ?_
   refine tq 3 rfl hS ?_
   refine tq 5 rfl hS ?_
   refine tq 6 rfl hS ?_
   refine tq 7 rfl hS ?_
   refine tq 8 rfl hS ?_
   refine tq 9 rfl hS ?_
   refine tq 10 rfl hS ?_
   refine tq 11 rfl hS ?_
   refine tq 12 rfl hS ?_
   refine tq 13 rfl hS ?_
   refine tq 14 rfl hS ?_
   refine tq 15 rfl hS ?_
   refine tq 16 rfl hS ?_
   have hXB:w3.drew.heap[W.heap.size]?=some (.cells #[.int .i64 7,.string nm1,.int .i64 st,.int .i64 n,.int .i64 ks] 47 (0,0)):=HXb.out
   generalize w3.drew=wd at *
   have hbA:Below wd.heap.size wd (wd.alloc (.cells #[.string nm1,.int .i64 4,.int .i64 (s.cnt 4:Int),.int .i64 (endp l0 i:Int)] 73)):=bAl wd _
   have HOA:=hdn <| HLd.out.1.below hbA
   have HRA:Hid (Rw (wd.alloc (.cells #[.string nm1,.int .i64 4,.int .i64 (s.cnt 4:Int),.int .i64 (endp l0 i:Int)] 73)) rb s.rows/\(∀ k,k < l0.length->(wd.alloc (.cells #[.string nm1,.int .i64 4,.int .i64 (s.cnt 4:Int),.int .i64 (endp l0 i:Int)] 73)).cell? ⟨eb,k,none⟩=some (.int .i64 (endp l0 k:Nat)))/\Fb [b,rb] base W (wd.alloc (.cells #[.string nm1,.int .i64 4,.int .i64 (s.cnt 4:Int),.int .i64 (endp l0 i:Int)] 73))):=⟨HLd.out.2.1.same (hbA.block _ HLd.out.2.1.lt),fun k hk=>(hbA.cell (p:=⟨eb,k,none⟩) (World.block_lt_of_cell? wd ⟨eb,k,none⟩ (HLd.out.2.2.1 k hk))).trans (HLd.out.2.2.1 k hk),HLd.out.2.2.2.1.trans (Fb.of_below (hbA.mono HLd.out.1.sz))⟩
   have HXB:Hid ((wd.alloc (.cells #[.string nm1,.int .i64 4,.int .i64 (s.cnt 4:Int),.int .i64 (endp l0 i:Int)] 73)).heap[W.heap.size]?=some (.cells #[.int .i64 7,.string nm1,.int .i64 st,.int .i64 n,.int .i64 ks] 47 (0,0))):=(hbA.block _ (blk_lt hXB)).trans hXB
   have hSA:(wd.alloc (.cells #[.string nm1,.int .i64 4,.int .i64 (s.cnt 4:Int),.int .i64 (endp l0 i:Int)] 73)).cell? ⟨W.heap.size,1,none⟩=some (.string nm1)/\(wd.alloc (.cells #[.string nm1,.int .i64 4,.int .i64 (s.cnt 4:Int),.int .i64 (endp l0 i:Int)] 73)).cell? ⟨b,8,none⟩=some (.slice (some ⟨eb,0,none⟩) l0.length l0.length)/\(wd.alloc (.cells #[.string nm1,.int .i64 4,.int .i64 (s.cnt 4:Int),.int .i64 (endp l0 i:Int)] 73)).cell? ⟨eb,i,none⟩=some (.int .i64 (endp l0 i:Int)):=⟨by rw [World.cell?,HXB.out];rfl,by simp only [World.cell?,HOA.out.blk];rfl,HRA.out.2.1 i HS.out.2.1⟩
   have HSA:=hdn <| hSA
   have y9:wd.cell? ⟨b,9,none⟩=some (.slice ho s.known.reverse.length hc):=by simp only [World.cell?,HLd.out.1.blk];rfl
   have yA:(wd.alloc (.cells #[.string nm1,.int .i64 4,.int .i64 (s.cnt 4:Int),.int .i64 (endp l0 i:Int)] 73)).cell? ⟨b,9,none⟩=some (.slice ho s.known.reverse.length hc):=by simp only [World.cell?,HOA.out.blk];rfl
   have HOw:Hid ((wd.alloc (.cells #[.string nm1,.int .i64 4,.int .i64 (s.cnt 4:Int),.int .i64 (endp l0 i:Int)] 73)).ownsRow base 73 4 (.slice ho s.known.reverse.length hc) s.known.length (thF s.known.reverse)):=(HOA.out.own ⟨9,73,4,.slice ho s.known.reverse.length hc,s.known.length,thF s.known.reverse⟩ (by simp)).2
   clear hbA hXB
   refine rd2 4 17 (by kernel_rfl) rfl rfl (fun K hK=>?_) (fun K hK=>?_)
   rotate_right
   focus
    go_simp
    refine hK.out _ _ hSA (fun hS=>?_)
    refine wpAnyH_ready (rs:=[4]) (by kernel_rfl) (by simp) ?_
   rotate_right
   focus
    go_simp
    refine hK.out _ _ hS0 (fun hS=>?_)
    refine wpAnyH_ready (rs:=[17]) (by kernel_rfl) (by simp) ?_
   all_goals
    refine AllReadyH.cons rfl (fun K hK=>?_) AllReadyH.nil
    go_simp
    refine hK.out _ _ hSA (fun hS=>?_)
    refine rd1 18 rfl fun K hK=>?_
    refine step_gone _ rfl (.tmp 43) (.tmp 56) 52 rfl base 73 j0 (.agg #[.string ⟨#[]⟩,.int .i64 0,.int .i64 0,.int .i64 0]) 4 40 Tryz.underlying52 hj hj0 hj1 hj2 rfl (by decide) (.slice ho s.known.reverse.length hc) _ (thF s.known.reverse) (by simp [Act.eval]) HOw.out ⟨wd.heap.size,0,none⟩ 1 1 [.string nm1,.int .i64 4,.int .i64 (s.cnt 4:Int),.int .i64 (endp l0 i:Int)] (by simp [Act.eval]) rfl (cell_fourd wd _ _ _ _ _) (by intro u hu;simp only [List.mem_cons,List.not_mem_nil,or_false] at hu;rcases hu with rfl | rfl | rfl | rfl<;>rfl) (by have:=HS.out.2.2.2;unfold maxLen;omega) (by have:=HS.out.2.2.2;omega) HOA.out.sz (by decide) ?_
    intro hv' w4 hown4 hG4
    obtain ⟨p1,p2,p3,p4,p5⟩:=Ob.putF (os1:=(o5 s qv vv tv uv ov)) (os2:=[]) HOA.out hG4 hown4
    have e9:w4.cell? ⟨b,9,none⟩=some (.slice ho s.known.reverse.length hc):=by simp only [World.cell?,p1];rfl
    have f9:w4.frozen? ⟨b,9,none⟩=false:=fzb p1 9
    have s4:w4.cell? ⟨W.heap.size,1,none⟩=some (.string nm1)/\w4.cell? ⟨b,8,none⟩=some (.slice (some ⟨eb,0,none⟩) l0.length l0.length)/\w4.cell? ⟨eb,i,none⟩=some (.int .i64 (endp l0 i:Int)):=⟨by rw [World.cell?,p4 _ _ _ HXB.out (show (47:TypeId) ≠ 73 by decide)];rfl,by simp only [World.cell?,p1];rfl,(World.cell?_of_block (a:=⟨eb,i,none⟩) (p3 eb HLt.out.2.1)).trans HSA.out.2.2⟩
    obtain ⟨bo,bc,rfl⟩:=own_form hown4
    have H5:Hid (Ob (w4.setCell ⟨b,9,none⟩ (.slice bo (s.known.length+1) bc)) b base 55 (mkC nm rb rc l0.length eb qv vv tv uv ov (plc s.ev (5,0)) (.slice bo (s.known.length+1) bc) (s.cnt 1) (s.cnt 2) (s.cnt 3) (s.cnt 4+1)) ((o5 s qv vv tv uv ov)++[⟨9,73,4,.slice bo (s.known.length+1) bc,s.known.length+1,thF ((nm1,4,s.cnt 4,endp l0 i) :: s.known).reverse⟩])/\Rw (w4.setCell ⟨b,9,none⟩ (.slice bo (s.known.length+1) bc)) rb s.rows/\(∀ k,k < l0.length->(w4.setCell ⟨b,9,none⟩ (.slice bo (s.known.length+1) bc)).cell? ⟨eb,k,none⟩=some (.int .i64 (endp l0 k:Nat)))/\Fb [b,rb] base W (w4.setCell ⟨b,9,none⟩ (.slice bo (s.known.length+1) bc))/\(w4.setCell ⟨b,9,none⟩ (.slice bo (s.known.length+1) bc)).heap[W.heap.size]?=some (.cells #[.int .i64 7,.string nm1,.int .i64 st,.int .i64 n,.int .i64 ks] 47 (0,0))):=by
     have hne:∀ k,k ≠ b->(w4.setCell ⟨b,9,none⟩ (.slice bo (s.known.length+1) bc)).heap[k]?=w4.heap[k]?:=fun k hk=>Below.heap_setCell w4 _ _ k (fun e=>hk e)
     refine ⟨by rw [thF_snoc];exact p2,HRA.out.1.same ((hne _ HLt.out.2.2.1).trans (p3 _ HLt.out.1)),fun k hk=>(World.cell?_of_block (a:=⟨eb,k,none⟩) ((hne _ HLt.out.2.2.2.1).trans (p3 _ HLt.out.2.1))).trans (HRA.out.2.1 k hk),HRA.out.2.2.trans (p5.wide (by simp)),(hne _ hnb).trans (p4 _ _ _ HXB.out (show (47:TypeId) ≠ 73 by decide))⟩
    have s5:(w4.setCell ⟨b,9,none⟩ (.slice bo (s.known.length+1) bc)).cell? ⟨W.heap.size,1,none⟩=some (.string nm1)/\(w4.setCell ⟨b,9,none⟩ (.slice bo (s.known.length+1) bc)).cell? ⟨b,8,none⟩=some (.slice (some ⟨eb,0,none⟩) l0.length l0.length)/\(w4.setCell ⟨b,9,none⟩ (.slice bo (s.known.length+1) bc)).cell? ⟨eb,i,none⟩=some (.int .i64 (endp l0 i:Int)):=⟨by rw [World.cell?,H5.out.2.2.2.2];rfl,by simp only [World.cell?,H5.out.1.blk];rfl,H5.out.2.2.1 i HS.out.2.1⟩
    clear hown4 hG4 p1 p2 p3 p4 p5
    refine hK.out _ _ s4 (fun hS=>?_)
    refine rd1 19 rfl fun K hK=>?_
    go_simp
    refine hK.out _ _ s4 (fun hS=>?_)
    refine rd1 20 rfl fun K hK=>?_
    go_simp
    refine hK.out _ _ s4 (fun hS=>?_)
    refine rd1 21 rfl fun K hK=>?_
    go_simp
    refine hK.out _ _ s5 (fun hS=>?_)
    refine wpAnyH_done (by kernel_rfl) ?_ _
    clear e9 f9 s4 s5 hS
    go_wp2_with fail
    go_meet
    case rel=>exact ⟨bo,bc,H5.out⟩
theorem declare4 {W:World} {b base rb rc eb m i:Nat} {nm:ByteArray} {l0:List Rz} {s:Rs} {qv vv tv uv ov hv:Value} (h:Mkr W b base rb rc eb nm l0 s qv vv tv uv ov hv) (hg:Good l0 m s) (hnd:Nd s) (hi:i < l0.length) (hl:l0.length<=2932031007317) (hT:TreeZ l0) (hk:(rat s.rows i).kind=4):
  Calls Tryz.prog 16 #[.pointer (some ⟨b,0,none⟩),.int .i64 (i:Int),.int .i64 2] W (MkL W b base rb rc eb nm l0 (askD i s)):=by
 have hlen:=like_len hg.like
 have his:i < s.rows.length:=by omega
 obtain ⟨c0,c1,c2,c3,c4,_⟩:=h.r.cells (some_rat his)
 have b1:W.cell? ⟨b,1,none⟩=some (.slice (some ⟨rb,0,none⟩) l0.length rc):=h.cell 1 _ rfl
 obtain ⟨a0,a1,a2,a3,a4⟩:=row_cells W (rat s.rows i)
 have hkl:s.known.reverse.length<=1000:=by
  rw [List.length_reverse,hg.kl]
  have:=hg.q
  have:=hg.v
  have:=hg.t
  have:=hg.u
  omega
 have hcl:s.cnt 2<=16:=hg.cnt_le 2
 have hdk:decl (rat s.rows i).kind=2:=by rw [hk];rfl
 have HA:Hid (askD i s=if (lk s.known (rat s.rows i).name).isSome then .error 31 else if s.cnt 2=16 then .error 3 else .ok (s.dec i)):=by
  show _=_
  unfold askD
  rw [hdk,if_neg (by decide)]
  rfl
 have HD:Hid (s.dec i=⟨numb s.rows i (s.cnt 2),((rat s.rows i).name,2,s.cnt 2,endp l0 i) :: s.known,s.qs,s.vs++[(rat s.rows i).name],s.ts,s.us,s.ev⟩):=by
  show _=_
  have he:endp (numb s.rows i (s.cnt 2)) i=endp l0 i:=endp_like ((numb_clr _ _ _).trans hg.like) i
  unfold Rs.dec
  rw [hdk,hk,he]
  rfl
 have HCn:Hid ((s.dec i).cnt 1=s.cnt 1/\(s.dec i).cnt 2=s.cnt 2+1/\(s.dec i).cnt 3=s.cnt 3/\(s.dec i).cnt 4=s.cnt 4):=by
  refine ⟨?_,?_,?_,?_⟩
  all_goals
   rw [cnt_dec s i _ (by rw [hdk];decide),hdk]
   rfl
 have hR5:rat s.rows i=⟨4,(rat s.rows i).name,(rat s.rows i).stop,(rat s.rows i).n,(rat s.rows i).kids⟩:=by
  rw [<-hk]
 have hep:endp l0 i<=l0.length:=(end_kid hT.whole hi).2.2
 have hb1:Below W.heap.size W (W.alloc (.cells #[.int .i64 (rat s.rows i).kind,.string (rat s.rows i).name,.int .i64 (rat s.rows i).stop,.int .i64 (rat s.rows i).n,.int .i64 (rat s.rows i).kids] 47)):=bAl W _
 have h1:=h.below hb1
 obtain ⟨ho,hc,hhv,hth⟩:=h1.things
 subst hhv
 have HM:=hdn <| h1
 have HB1:Hid (Fb [b,rb] base W (W.alloc (.cells #[.int .i64 (rat s.rows i).kind,.string (rat s.rows i).name,.int .i64 (rat s.rows i).stop,.int .i64 (rat s.rows i).n,.int .i64 (rat s.rows i).kids] 47))/\b < W.heap.size/\eb < W.heap.size/\rb < W.heap.size):=⟨Fb.of_below (hb1.mono h.ob.sz),blk_lt h.ob.blk,Nat.lt_of_lt_of_le h.lt.2.1 h.ob.sz,h.r.lt⟩
 have HNd:=hdn <| hnd
 have HV:Hid (s.vs.length<=1000):=by show _<=_;have:=hg.q;have:=hg.v;have:=hg.t;have:=hg.u;omega
 have HS:Hid (i < s.rows.length/\i < l0.length/\s.us.length<=64/\s.known.length<=1000):=⟨his,hi,hg.u,by rw [<-List.length_reverse];exact hkl⟩
 generalize hxx:rat s.rows i=x at *
 have HX:Hid (rat s.rows i=x):=hxx
 obtain ⟨kd0,nm1,st,n,ks⟩:=x
 dsimp only at *
 subst hk
 have b9:(W.alloc (.cells #[.int .i64 4,.string nm1,.int .i64 st,.int .i64 n,.int .i64 ks] 47)).cell? ⟨b,9,none⟩=some (.slice ho s.known.reverse.length hc):=h1.cell 9 _ rfl
 have bz:(W.alloc (.cells #[.int .i64 4,.string nm1,.int .i64 st,.int .i64 n,.int .i64 ks] 47)).cell? ⟨b,12,none⟩=some (.int .i64 (s.cnt 2:Nat)):=h1.cell 12 _ rfl
 have fz:(W.alloc (.cells #[.int .i64 4,.string nm1,.int .i64 st,.int .i64 n,.int .i64 ks] 47)).frozen? ⟨b,12,none⟩=false:=fzb h1.ob.blk 12
 have HFd:=hdn <| find_any (nm:=nm1) b9 hth hkl
 have HMs:Hid (∀ u,Calls Tryz.prog 34 #[.int .i64 2] u fun e w'=>e=.returned (.int .i64 16)/\w'=u):=fun u=>rmost_any 2 (by decide) (by decide) u
 have hi':(i:Int) < (l0.length:Int):=by omega
 have hi2:(i:Int)<=2932031007317:=by omega
 have hcl2:(s.cnt 2:Int)<=16:=by omega
 have hep2:(endp l0 i:Int)<=2932031007317:=by omega
 clear h hg hnd hi hl hlen his hkl hcl hdk hb1 h1 hth hep hR5 hT hxx
 generalize askD i s=R at *
 go_enter Tryz.func16,Tryz.ntmps16
 go_wp2_with fail
 refine Calls.mono HFd.out ?_
 rintro e w1 ⟨⟨j,hj,hnm,rfl⟩ | ⟨hno,rfl⟩,rfl⟩
 ·have hlk:(lk s.known nm1).isSome=true:=by
   rw [lk_nodup HNd.out (nm:=nm1) (v:=s.known.reverse[j].2) (by rw [<-hnm];exact List.mem_reverse.1 (List.getElem_mem hj))]
   rfl
  rw [if_pos hlk] at HA
  have hj0:decide ((0:Int)<=(j:Int))=true:=decide_eq_true (by omega)
  have hj1:(0:Int)<=(j:Int):=by omega
  clear hlk hnm hj HFd HNd HD
  go_wp2
  go_ret
  rw [HA.out]
  exact ⟨HB1.out.1,rfl⟩
 ·have hlk:(lk s.known nm1).isSome=false:=by rw [lk_none (fun x hx=>hno x (List.mem_reverse.2 hx))];rfl
  rw [hlk,if_neg (by decide)] at HA
  clear hno hlk HFd HNd
  by_cases hfull:s.cnt 2=16
  ·have hfb:((s.cnt 2:Int) == 16)=true:=by simp [hfull]
   rw [if_pos hfull] at HA
   clear hfull HD
   go_wp2_with fail
   refine Calls.mono (HMs.out _) ?_
   rintro e w2 ⟨rfl,rfl⟩
   go_wp2
   go_ret
   rw [HA.out]
   exact ⟨HB1.out.1,rfl⟩
  ·have hfb:((s.cnt 2:Int) == 16)=false:=by simp;omega
   rw [if_neg hfull] at HA
   clear hfull
   go_wp2_with fail
   refine Calls.mono (HMs.out _) ?_
   rintro e w2 ⟨rfl,rfl⟩
   go_upto_region 8 with fail
   have hO2:Ob ((W.alloc (.cells #[.int .i64 4,.string nm1,.int .i64 st,.int .i64 n,.int .i64 ks] 47)).setCell ⟨b,12,none⟩ (.int .i64 ((s.cnt 2:Int)+1))) b base 55 (mkC nm rb rc l0.length eb qv vv tv uv ov (plc s.ev (5,0)) (.slice ho s.known.reverse.length hc) (s.cnt 1) (s.cnt 2+1) (s.cnt 3) (s.cnt 4)) ((o5 s qv vv tv uv ov)++[⟨9,73,4,.slice ho s.known.reverse.length hc,s.known.length,thF s.known.reverse⟩]):=HM.out.ob.set 12 (.int .i64 ((s.cnt 2:Int)+1)) (by simp)
   have hset:∀ k,k ≠ b->((W.alloc (.cells #[.int .i64 4,.string nm1,.int .i64 st,.int .i64 n,.int .i64 ks] 47)).setCell ⟨b,12,none⟩ (.int .i64 ((s.cnt 2:Int)+1))).heap[k]?=(W.alloc (.cells #[.int .i64 4,.string nm1,.int .i64 st,.int .i64 n,.int .i64 ks] 47)).heap[k]?:=fun k hk=>Below.heap_setCell _ _ _ k (fun e=>hk e)
   have hlt:=HM.out.lt
   have hnb:W.heap.size ≠ b:=by have:=HB1.out.2.1;omega
   have x1:((W.alloc (.cells #[.int .i64 4,.string nm1,.int .i64 st,.int .i64 n,.int .i64 ks] 47)).setCell ⟨b,12,none⟩ (.int .i64 ((s.cnt 2:Int)+1))).cell? ⟨W.heap.size,1,none⟩=some (.string nm1):=(World.cell?_of_block (a:=⟨W.heap.size,1,none⟩) (hset _ hnb)).trans a1
   have x0:((W.alloc (.cells #[.int .i64 4,.string nm1,.int .i64 st,.int .i64 n,.int .i64 ks] 47)).setCell ⟨b,12,none⟩ (.int .i64 ((s.cnt 2:Int)+1))).cell? ⟨W.heap.size,0,none⟩=some (.int .i64 4):=(World.cell?_of_block (a:=⟨W.heap.size,0,none⟩) (hset _ hnb)).trans a0
   have H2:Hid (Ob ((W.alloc (.cells #[.int .i64 4,.string nm1,.int .i64 st,.int .i64 n,.int .i64 ks] 47)).setCell ⟨b,12,none⟩ (.int .i64 ((s.cnt 2:Int)+1))) b base 55 (mkC nm rb rc l0.length eb qv vv tv uv ov (plc s.ev (5,0)) (.slice ho s.known.reverse.length hc) (s.cnt 1) (s.cnt 2+1) (s.cnt 3) (s.cnt 4)) ((o5 s qv vv tv uv ov)++[⟨9,73,4,.slice ho s.known.reverse.length hc,s.known.length,thF s.known.reverse⟩])/\Rw ((W.alloc (.cells #[.int .i64 4,.string nm1,.int .i64 st,.int .i64 n,.int .i64 ks] 47)).setCell ⟨b,12,none⟩ (.int .i64 ((s.cnt 2:Int)+1))) rb s.rows/\(∀ k,k < l0.length->((W.alloc (.cells #[.int .i64 4,.string nm1,.int .i64 st,.int .i64 n,.int .i64 ks] 47)).setCell ⟨b,12,none⟩ (.int .i64 ((s.cnt 2:Int)+1))).cell? ⟨eb,k,none⟩=some (.int .i64 (endp l0 k:Nat)))/\Fb [b,rb] base W ((W.alloc (.cells #[.int .i64 4,.string nm1,.int .i64 st,.int .i64 n,.int .i64 ks] 47)).setCell ⟨b,12,none⟩ (.int .i64 ((s.cnt 2:Int)+1)))/\((W.alloc (.cells #[.int .i64 4,.string nm1,.int .i64 st,.int .i64 n,.int .i64 ks] 47)).setCell ⟨b,12,none⟩ (.int .i64 ((s.cnt 2:Int)+1))).cell? ⟨W.heap.size,1,none⟩=some (.string nm1)/\((W.alloc (.cells #[.int .i64 4,.string nm1,.int .i64 st,.int .i64 n,.int .i64 ks] 47)).setCell ⟨b,12,none⟩ (.int .i64 ((s.cnt 2:Int)+1))).cell? ⟨W.heap.size,0,none⟩=some (.int .i64 4)):=⟨hO2,HM.out.r.same (hset _ hlt.2.2.1),fun k hk=>(World.cell?_of_block (a:=⟨eb,k,none⟩) (hset _ hlt.2.2.2.1)).trans (HM.out.e k hk),HB1.out.1.trans ((Fr.set (F:=[b,rb]) _ 12 (.int .i64 ((s.cnt 2:Int)+1)) (by simp)).fbw HM.out.ob.sz),x1,x0⟩
   have HXb:Hid (((W.alloc (.cells #[.int .i64 4,.string nm1,.int .i64 st,.int .i64 n,.int .i64 ks] 47)).setCell ⟨b,12,none⟩ (.int .i64 ((s.cnt 2:Int)+1))).drew.heap[W.heap.size]?=some (.cells #[.int .i64 4,.string nm1,.int .i64 st,.int .i64 n,.int .i64 ks] 47 (0,0))):=(hset _ hnb).trans (heap_alloc_new W _)
   have HLt:=hdn <| hlt
   clear hO2 hset hlt x1 x0 a0 a1 a2 a3 a4 b1 b9 bz fz c0 c1 c2 c3 c4 HMs hfb
   generalize (W.alloc (.cells #[.int .i64 4,.string nm1,.int .i64 st,.int .i64 n,.int .i64 ks] 47)).setCell ⟨b,12,none⟩ (.int .i64 ((s.cnt 2:Int)+1))=w3 at *
   go_cut [] (fun wx=>∃ bo bc,Ob wx b base 55 (mkC nm rb rc l0.length eb qv vv tv uv ov (plc s.ev (5,0)) (.slice bo (s.known.length+1) bc) (s.cnt 1) (s.cnt 2+1) (s.cnt 3) (s.cnt 4)) ((o5 s qv vv tv uv ov)++[⟨9,73,4,.slice bo (s.known.length+1) bc,s.known.length+1,thF ((nm1,2,s.cnt 2,endp l0 i) :: s.known).reverse⟩])/\Rw wx rb s.rows/\(∀ k,k < l0.length->wx.cell? ⟨eb,k,none⟩=some (.int .i64 (endp l0 k:Nat)))/\Fb [b,rb] base W wx/\wx.heap[W.heap.size]?=some (.cells #[.int .i64 4,.string nm1,.int .i64 st,.int .i64 n,.int .i64 ks] 47 (0,0)))
   case rest=>
    obtain ⟨bo,bc,hO,hR,hE,hF,hXB⟩:=hcut
    have y1:wc.cell? ⟨b,1,none⟩=some (.slice (some ⟨rb,0,none⟩) l0.length rc):=by simp only [World.cell?,hO.blk];rfl
    have hxr:=some_rat HS.out.1
    rw [HX.out] at hxr
    obtain ⟨_,_,_,d3,_,dfz⟩:=hR.cells hxr
    have df3:=dfz (i * 5+3)
    dsimp only at d3
    have hbk:∀ k,k ≠ rb->(wc.setCell ⟨rb,i * 5+3,none⟩ (.int .i64 (s.cnt 2:Int))).heap[k]?=wc.heap[k]?:=fun k hk=>Below.heap_setCell wc _ _ k (fun e=>hk e)
    have hnr:W.heap.size ≠ rb:=by have:=HB1.out.2.2.2;omega
    have hR6:=hR.setN hxr (s.cnt 2:Int)
    have H6:Hid (Ob (wc.setCell ⟨rb,i * 5+3,none⟩ (.int .i64 (s.cnt 2:Int))) b base 55 (mkC nm rb rc l0.length eb qv vv tv uv ov (plc s.ev (5,0)) (.slice bo (s.known.length+1) bc) (s.cnt 1) (s.cnt 2+1) (s.cnt 3) (s.cnt 4)) ((o5 s qv vv tv uv ov)++[⟨9,73,4,.slice bo (s.known.length+1) bc,s.known.length+1,thF ((nm1,2,s.cnt 2,endp l0 i) :: s.known).reverse⟩])/\Rw (wc.setCell ⟨rb,i * 5+3,none⟩ (.int .i64 (s.cnt 2:Int))) rb (numb s.rows i (s.cnt 2))/\(∀ k,k < l0.length->(wc.setCell ⟨rb,i * 5+3,none⟩ (.int .i64 (s.cnt 2:Int))).cell? ⟨eb,k,none⟩=some (.int .i64 (endp l0 k:Nat)))/\Fb [b,rb] base W (wc.setCell ⟨rb,i * 5+3,none⟩ (.int .i64 (s.cnt 2:Int)))/\(wc.setCell ⟨rb,i * 5+3,none⟩ (.int .i64 (s.cnt 2:Int))).heap[W.heap.size]?=some (.cells #[.int .i64 4,.string nm1,.int .i64 st,.int .i64 n,.int .i64 ks] 47 (0,0))):=by
     refine ⟨hO.other HLt.out.1 HLt.out.2.2.1 (Fr.set wc _ _ (by simp)),?_,fun k hk=>(World.cell?_of_block (a:=⟨eb,k,none⟩) (hbk _ (Ne.symm HLt.out.2.2.2.2))).trans (hE k hk),hF.trans ((Fr.set (F:=[b,rb]) wc (i * 5+3) (.int .i64 (s.cnt 2:Int)) (by simp)).fbw hO.sz),(hbk _ hnr).trans hXB⟩
     unfold numb
     rw [HX.out]
     exact hR6
    clear hO hR hE hF hXB hbk hxr hR6 dfz HXb H2 HM
    go_upto_region 15 with fail
    generalize wc.setCell ⟨rb,i * 5+3,none⟩ (.int .i64 (s.cnt 2:Int))=w6 at *
    have y3:w6.cell? ⟨b,3,none⟩=some vv:=by simp only [World.cell?,H6.out.1.blk];rfl
    have x1:w6.cell? ⟨W.heap.size,1,none⟩=some (.string nm1):=by rw [World.cell?,H6.out.2.2.2.2];rfl
    have hbU:Below w6.heap.size w6 (w6.alloc (.cells #[.string nm1] 9)):=bAl w6 _
    have yA:(w6.alloc (.cells #[.string nm1] 9)).cell? ⟨b,3,none⟩=some vv:=(hbU.cell (p:=⟨b,3,none⟩) (blk_lt H6.out.1.blk)).trans y3
    have HO7:=hdn <| H6.out.1.below hbU.drew
    have HR7:Hid (Rw (w6.alloc (.cells #[.string nm1] 9)).drew rb (numb s.rows i (s.cnt 2))/\(∀ k,k < l0.length->(w6.alloc (.cells #[.string nm1] 9)).drew.cell? ⟨eb,k,none⟩=some (.int .i64 (endp l0 k:Nat)))/\Fb [b,rb] base W (w6.alloc (.cells #[.string nm1] 9)).drew):=⟨H6.out.2.1.same (hbU.drew.block _ H6.out.2.1.lt),fun k hk=>(hbU.drew.cell (p:=⟨eb,k,none⟩) (World.block_lt_of_cell? w6 ⟨eb,k,none⟩ (H6.out.2.2.1 k hk))).trans (H6.out.2.2.1 k hk),H6.out.2.2.2.1.trans (Fb.of_below (hbU.drew.mono H6.out.1.sz))⟩
    have HOw:Hid ((w6.alloc (.cells #[.string nm1] 9)).drew.ownsRow base 9 1 vv s.vs.length (s.vs.map Value.string)):=(HO7.out.own ⟨3,9,1,vv,s.vs.length,s.vs.map Value.string⟩ (by simp)).2
    obtain ⟨j0,hj,hj0,hj1,hj2⟩:=info_parts infoS
    have hln:s.vs.length<=1000:=HV.out
    have HLn:=hdn <| hln
    clear hbU hln
    go_region_law (refine step_gone _ rfl (.tmp 107) (.tmp 110) 26 rfl base 9 j0 (.string ByteArray.empty) 1 16 Tryz.underlying26 hj hj0 hj1 hj2 rfl (by decide) vv _ (s.vs.map Value.string) (by simp [Act.eval]) HOw.out ⟨w6.heap.size,0,none⟩ 1 1 [.string nm1] (by simp [Act.eval]) rfl (cell_oned w6 _ _ _ rfl) (by intro u hu;simp only [List.mem_cons,List.not_mem_nil,or_false] at hu;subst hu;rfl) (by have:=HLn.out;unfold maxLen;omega) (by have:=HLn.out;omega) HO7.out.sz (by decide) ?_
                   intro xv' w8 hown8 hG8
                   obtain ⟨p1,p2,p3,p4,p5⟩:=Ob.putF (os1:=[⟨2,67,2,qv,s.qs.length,qF s.qs⟩]) (os2:=[⟨4,9,1,tv,s.ts.length,s.ts.map Value.string⟩,⟨5,3,1,uv,s.us.length,nv s.us⟩,⟨6,3,1,ov,s.qs.length,iv (onsOf s.ev s.qs.length)⟩,⟨9,73,4,.slice bo (s.known.length+1) bc,s.known.length+1,thF ((nm1,2,s.cnt 2,endp l0 i) :: s.known).reverse⟩]) HO7.out hG8 hown8
                   have e3:w8.cell? ⟨b,3,none⟩=some vv:=by simp only [World.cell?,p1];rfl
                   have f3:w8.frozen? ⟨b,3,none⟩=false:=fzb p1 3
                   have HP2:=hdn <| p2
                   have HP3:=hdn <| p3
                   have HP5:=hdn <| p5
                   obtain ⟨uo',uc',rfl⟩:=own_form hown8
                   clear hown8 hG8 p1 p2 p3 p4 p5)
    all_goals
     have hne:∀ k,k ≠ b->(w8.setCell ⟨b,3,none⟩ (.slice uo' (s.vs.length+1) uc')).heap[k]?=w8.heap[k]?:=fun k hk=>Below.heap_setCell w8 _ _ k (fun e=>hk e)
     have HF:Hid (Fb [b,rb] base W (w8.setCell ⟨b,3,none⟩ (.slice uo' (s.vs.length+1) uc'))):=HR7.out.2.2.trans (HP5.out.wide (by simp))
     have HEnd:Hid (Mkr (w8.setCell ⟨b,3,none⟩ (.slice uo' (s.vs.length+1) uc')) b base rb rc eb nm l0 (s.dec i) qv (.slice uo' (s.vs.length+1) uc') tv uv ov (.slice bo (s.known.length+1) bc)):=by
      have hd:=HD.out
      have f1:(s.dec i).rows=numb s.rows i (s.cnt 2):=by rw [hd]
      have f2:(s.dec i).known=(nm1,2,s.cnt 2,endp l0 i) :: s.known:=by rw [hd]
      have f4:(s.dec i).qs=s.qs:=by rw [hd]
      have f5:(s.dec i).vs=s.vs++[nm1]:=by rw [hd]
      have f5':(s.dec i).ts=s.ts:=by rw [hd]
      have f6:(s.dec i).us=s.us:=by rw [hd]
      have f7:(s.dec i).ev=s.ev:=by rw [hd]
      refine ⟨?_,by rw [f1];exact HR7.out.1.same ((hne _ HLt.out.2.2.1).trans (HP3.out _ HLt.out.1)),fun k hk=>(World.cell?_of_block (a:=⟨eb,k,none⟩) ((hne _ HLt.out.2.2.2.1).trans (HP3.out _ HLt.out.2.1))).trans (HR7.out.2.1 k hk),HLt.out⟩
      have e1:(s.vs++[nm1]).map Value.string=s.vs.map Value.string++[.string nm1]:=by simp
      have e2:(s.vs++[nm1]).length=s.vs.length+1:=by simp
      rw [HCn.out.1,HCn.out.2.1,HCn.out.2.2.1,HCn.out.2.2.2,f2,f4,f5,f5',f6,f7,e1,e2,List.length_cons]
      exact HP2.out
     clear hne HO7 HOw
     go_wp2
     go_ret
     rw [HA.out]
     exact ⟨HF.out,rfl,_,_,_,_,_,_,HEnd.out⟩
   have hbd:Below w3.heap.size w3 w3.drew:=(Below.refl _ w3).drew
   have HLd:Hid (Ob w3.drew b base 55 (mkC nm rb rc l0.length eb qv vv tv uv ov (plc s.ev (5,0)) (.slice ho s.known.reverse.length hc) (s.cnt 1) (s.cnt 2+1) (s.cnt 3) (s.cnt 4)) ((o5 s qv vv tv uv ov)++[⟨9,73,4,.slice ho s.known.reverse.length hc,s.known.length,thF s.known.reverse⟩])/\Rw w3.drew rb s.rows/\(∀ k,k < l0.length->w3.drew.cell? ⟨eb,k,none⟩=some (.int .i64 (endp l0 k:Nat)))/\Fb [b,rb] base W w3.drew/\w3.drew.cell? ⟨W.heap.size,1,none⟩=some (.string nm1)/\w3.drew.cell? ⟨W.heap.size,0,none⟩=some (.int .i64 4)):=⟨H2.out.1.below hbd,H2.out.2.1.same rfl,H2.out.2.2.1,H2.out.2.2.2.1.trans (Fb.of_below (hbd.mono H2.out.1.sz)),H2.out.2.2.2.2.1,H2.out.2.2.2.2.2⟩
   clear hbd H2
   have hS0:w3.drew.cell? ⟨W.heap.size,1,none⟩=some (.string nm1)/\w3.drew.cell? ⟨b,8,none⟩=some (.slice (some ⟨eb,0,none⟩) l0.length l0.length)/\w3.drew.cell? ⟨eb,i,none⟩=some (.int .i64 (endp l0 i:Int)):=⟨HLd.out.2.2.2.2.1,by simp only [World.cell?,HLd.out.1.blk];rfl,HLd.out.2.2.1 i HS.out.2.1⟩
   obtain ⟨j0,hj,hj0,hj1,hj2⟩:=info_parts infoTh
   refine wp_region_held (S:=fun w'=>w'.cell? ⟨W.heap.size,1,none⟩=some (.string nm1)/\w'.cell? ⟨b,8,none⟩=some (.slice (some ⟨eb,0,none⟩) l0.length l0.length)/\w'.cell? ⟨eb,i,none⟩=some (.int .i64 (endp l0 i:Int))) (by kernel_rfl) ?_
   have hS:(fun w':World=>w'.cell? ⟨W.heap.size,1,none⟩=some (.string nm1)/\w'.cell? ⟨b,8,none⟩=some (.slice (some ⟨eb,0,none⟩) l0.length l0.length)/\w'.cell? ⟨eb,i,none⟩=some (.int .i64 (endp l0 i:Int))) w3.drew:=hS0
   change wpAnyH _ _ _ _ _ _ _ _ w3.drew
   refine tq 0 rfl hS ?_
   refine tq 1 rfl hS ?_
   refine tq 2 rfl hS ?_
   refine tq 3 rfl hS ?_
   refine tq 5 rfl hS ?_
   refine tq 6 rfl hS ?_
   refine tq 7 rfl hS ?_
   refine tq 8 rfl hS ?_
   refine tq 9 rfl hS ?_
   refine tq 10 rfl hS ?_
   refine tq 11 rfl hS ?_
   refine tq 12 rfl hS ?_
   refine tq 13 rfl hS ?_
   refine tq 14 rfl hS ?_
   refine tq 15 rfl hS ?_
   refine tq 16 rfl hS ?_
   have hXB:w3.drew.heap[W.heap.size]?=some (.cells #[.int .i64 4,.string nm1,.int .i64 st,.int .i64 n,.int .i64 ks] 47 (0,0)):=HXb.out
   generalize w3.drew=wd at *
   have hbA:Below wd.heap.size wd (wd.alloc (.cells #[.string nm1,.int .i64 2,.int .i64 (s.cnt 2:Int),.int .i64 (endp l0 i:Int)] 73)):=bAl wd _
   have HOA:=hdn <| HLd.out.1.below hbA
   have HRA:Hid (Rw (wd.alloc (.cells #[.string nm1,.int .i64 2,.int .i64 (s.cnt 2:Int),.int .i64 (endp l0 i:Int)] 73)) rb s.rows/\(∀ k,k < l0.length->(wd.alloc (.cells #[.string nm1,.int .i64 2,.int .i64 (s.cnt 2:Int),.int .i64 (endp l0 i:Int)] 73)).cell? ⟨eb,k,none⟩=some (.int .i64 (endp l0 k:Nat)))/\Fb [b,rb] base W (wd.alloc (.cells #[.string nm1,.int .i64 2,.int .i64 (s.cnt 2:Int),.int .i64 (endp l0 i:Int)] 73))):=⟨HLd.out.2.1.same (hbA.block _ HLd.out.2.1.lt),fun k hk=>(hbA.cell (p:=⟨eb,k,none⟩) (World.block_lt_of_cell? wd ⟨eb,k,none⟩ (HLd.out.2.2.1 k hk))).trans (HLd.out.2.2.1 k hk),HLd.out.2.2.2.1.trans (Fb.of_below (hbA.mono HLd.out.1.sz))⟩
   have HXB:Hid ((wd.alloc (.cells #[.string nm1,.int .i64 2,.int .i64 (s.cnt 2:Int),.int .i64 (endp l0 i:Int)] 73)).heap[W.heap.size]?=some (.cells #[.int .i64 4,.string nm1,.int .i64 st,.int .i64 n,.int .i64 ks] 47 (0,0))):=(hbA.block _ (blk_lt hXB)).trans hXB
   have hSA:(wd.alloc (.cells #[.string nm1,.int .i64 2,.int .i64 (s.cnt 2:Int),.int .i64 (endp l0 i:Int)] 73)).cell? ⟨W.heap.size,1,none⟩=some (.string nm1)/\(wd.alloc (.cells #[.string nm1,.int .i64 2,.int .i64 (s.cnt 2:Int),.int .i64 (endp l0 i:Int)] 73)).cell? ⟨b,8,none⟩=some (.slice (some ⟨eb,0,none⟩) l0.length l0.length)/\(wd.alloc (.cells #[.string nm1,.int .i64 2,.int .i64 (s.cnt 2:Int),.int .i64 (endp l0 i:Int)] 73)).cell? ⟨eb,i,none⟩=some (.int .i64 (endp l0 i:Int)):=⟨by rw [World.cell?,HXB.out];rfl,by simp only [World.cell?,HOA.out.blk];rfl,HRA.out.2.1 i HS.out.2.1⟩
   have HSA:=hdn <| hSA
   have y9:wd.cell? ⟨b,9,none⟩=some (.slice ho s.known.reverse.length hc):=by simp only [World.cell?,HLd.out.1.blk];rfl
   have yA:(wd.alloc (.cells #[.string nm1,.int .i64 2,.int .i64 (s.cnt 2:Int),.int .i64 (endp l0 i:Int)] 73)).cell? ⟨b,9,none⟩=some (.slice ho s.known.reverse.length hc):=by simp only [World.cell?,HOA.out.blk];rfl
   have HOw:Hid ((wd.alloc (.cells #[.string nm1,.int .i64 2,.int .i64 (s.cnt 2:Int),.int .i64 (endp l0 i:Int)] 73)).ownsRow base 73 4 (.slice ho s.known.reverse.length hc) s.known.length (thF s.known.reverse)):=(HOA.out.own ⟨9,73,4,.slice ho s.known.reverse.length hc,s.known.length,thF s.known.reverse⟩ (by simp)).2
   clear hbA hXB
   refine rd2 4 17 (by kernel_rfl) rfl rfl (fun K hK=>?_) (fun K hK=>?_)
   rotate_right
   focus
    go_simp
    refine hK.out _ _ hSA (fun hS=>?_)
    refine wpAnyH_ready (rs:=[4]) (by kernel_rfl) (by simp) ?_
   rotate_right
   focus
    go_simp
    refine hK.out _ _ hS0 (fun hS=>?_)
    refine wpAnyH_ready (rs:=[17]) (by kernel_rfl) (by simp) ?_
   all_goals
    refine AllReadyH.cons rfl (fun K hK=>?_) AllReadyH.nil
    go_simp
    refine hK.out _ _ hSA (fun hS=>?_)
    refine rd1 18 rfl fun K hK=>?_
    refine step_gone _ rfl (.tmp 43) (.tmp 56) 52 rfl base 73 j0 (.agg #[.string ⟨#[]⟩,.int .i64 0,.int .i64 0,.int .i64 0]) 4 40 Tryz.underlying52 hj hj0 hj1 hj2 rfl (by decide) (.slice ho s.known.reverse.length hc) _ (thF s.known.reverse) (by simp [Act.eval]) HOw.out ⟨wd.heap.size,0,none⟩ 1 1 [.string nm1,.int .i64 2,.int .i64 (s.cnt 2:Int),.int .i64 (endp l0 i:Int)] (by simp [Act.eval]) rfl (cell_fourd wd _ _ _ _ _) (by intro u hu;simp only [List.mem_cons,List.not_mem_nil,or_false] at hu;rcases hu with rfl | rfl | rfl | rfl<;>rfl) (by have:=HS.out.2.2.2;unfold maxLen;omega) (by have:=HS.out.2.2.2;omega) HOA.out.sz (by decide) ?_
    intro hv' w4 hown4 hG4
    obtain ⟨p1,p2,p3,p4,p5⟩:=Ob.putF (os1:=(o5 s qv vv tv uv ov)) (os2:=[]) HOA.out hG4 hown4
    have e9:w4.cell? ⟨b,9,none⟩=some (.slice ho s.known.reverse.length hc):=by simp only [World.cell?,p1];rfl
    have f9:w4.frozen? ⟨b,9,none⟩=false:=fzb p1 9
    have s4:w4.cell? ⟨W.heap.size,1,none⟩=some (.string nm1)/\w4.cell? ⟨b,8,none⟩=some (.slice (some ⟨eb,0,none⟩) l0.length l0.length)/\w4.cell? ⟨eb,i,none⟩=some (.int .i64 (endp l0 i:Int)):=⟨by rw [World.cell?,p4 _ _ _ HXB.out (show (47:TypeId) ≠ 73 by decide)];rfl,by simp only [World.cell?,p1];rfl,(World.cell?_of_block (a:=⟨eb,i,none⟩) (p3 eb HLt.out.2.1)).trans HSA.out.2.2⟩
    obtain ⟨bo,bc,rfl⟩:=own_form hown4
    have H5:Hid (Ob (w4.setCell ⟨b,9,none⟩ (.slice bo (s.known.length+1) bc)) b base 55 (mkC nm rb rc l0.length eb qv vv tv uv ov (plc s.ev (5,0)) (.slice bo (s.known.length+1) bc) (s.cnt 1) (s.cnt 2+1) (s.cnt 3) (s.cnt 4)) ((o5 s qv vv tv uv ov)++[⟨9,73,4,.slice bo (s.known.length+1) bc,s.known.length+1,thF ((nm1,2,s.cnt 2,endp l0 i) :: s.known).reverse⟩])/\Rw (w4.setCell ⟨b,9,none⟩ (.slice bo (s.known.length+1) bc)) rb s.rows/\(∀ k,k < l0.length->(w4.setCell ⟨b,9,none⟩ (.slice bo (s.known.length+1) bc)).cell? ⟨eb,k,none⟩=some (.int .i64 (endp l0 k:Nat)))/\Fb [b,rb] base W (w4.setCell ⟨b,9,none⟩ (.slice bo (s.known.length+1) bc))/\(w4.setCell ⟨b,9,none⟩ (.slice bo (s.known.length+1) bc)).heap[W.heap.size]?=some (.cells #[.int .i64 4,.string nm1,.int .i64 st,.int .i64 n,.int .i64 ks] 47 (0,0))):=by
     have hne:∀ k,k ≠ b->(w4.setCell ⟨b,9,none⟩ (.slice bo (s.known.length+1) bc)).heap[k]?=w4.heap[k]?:=fun k hk=>Below.heap_setCell w4 _ _ k (fun e=>hk e)
     refine ⟨by rw [thF_snoc];exact p2,HRA.out.1.same ((hne _ HLt.out.2.2.1).trans (p3 _ HLt.out.1)),fun k hk=>(World.cell?_of_block (a:=⟨eb,k,none⟩) ((hne _ HLt.out.2.2.2.1).trans (p3 _ HLt.out.2.1))).trans (HRA.out.2.1 k hk),HRA.out.2.2.trans (p5.wide (by simp)),(hne _ hnb).trans (p4 _ _ _ HXB.out (show (47:TypeId) ≠ 73 by decide))⟩
    have s5:(w4.setCell ⟨b,9,none⟩ (.slice bo (s.known.length+1) bc)).cell? ⟨W.heap.size,1,none⟩=some (.string nm1)/\(w4.setCell ⟨b,9,none⟩ (.slice bo (s.known.length+1) bc)).cell? ⟨b,8,none⟩=some (.slice (some ⟨eb,0,none⟩) l0.length l0.length)/\(w4.setCell ⟨b,9,none⟩ (.slice bo (s.known.length+1) bc)).cell? ⟨eb,i,none⟩=some (.int .i64 (endp l0 i:Int)):=⟨by rw [World.cell?,H5.out.2.2.2.2];rfl,by simp only [World.cell?,H5.out.1.blk];rfl,H5.out.2.2.1 i HS.out.2.1⟩
    clear hown4 hG4 p1 p2 p3 p4 p5
    refine hK.out _ _ s4 (fun hS=>?_)
    refine rd1 19 rfl fun K hK=>?_
    go_simp
    refine hK.out _ _ s4 (fun hS=>?_)
    refine rd1 20 rfl fun K hK=>?_
    go_simp
    refine hK.out _ _ s4 (fun hS=>?_)
    refine rd1 21 rfl fun K hK=>?_
    go_simp
    refine hK.out _ _ s5 (fun hS=>?_)
    refine wpAnyH_done (by kernel_rfl) ?_ _
    clear e9 f9 s4 s5 hS
    go_wp2_with fail
    go_meet
    case rel=>exact ⟨bo,bc,H5.out⟩
theorem declare5 {W:World} {b base rb rc eb m i:Nat} {nm:ByteArray} {l0:List Rz} {s:Rs} {qv vv tv uv ov hv:Value} (h:Mkr W b base rb rc eb nm l0 s qv vv tv uv ov hv) (hg:Good l0 m s) (hnd:Nd s) (hi:i < l0.length) (hl:l0.length<=2932031007317) (hT:TreeZ l0) (hk:(rat s.rows i).kind=5):
  Calls Tryz.prog 16 #[.pointer (some ⟨b,0,none⟩),.int .i64 (i:Int),.int .i64 3] W (MkL W b base rb rc eb nm l0 (askD i s)):=by
 have hlen:=like_len hg.like
 have his:i < s.rows.length:=by omega
 obtain ⟨c0,c1,c2,c3,c4,_⟩:=h.r.cells (some_rat his)
 have b1:W.cell? ⟨b,1,none⟩=some (.slice (some ⟨rb,0,none⟩) l0.length rc):=h.cell 1 _ rfl
 obtain ⟨a0,a1,a2,a3,a4⟩:=row_cells W (rat s.rows i)
 have hkl:s.known.reverse.length<=1000:=by
  rw [List.length_reverse,hg.kl]
  have:=hg.q
  have:=hg.v
  have:=hg.t
  have:=hg.u
  omega
 have hcl:s.cnt 3<=4:=hg.cnt_le 3
 have hdk:decl (rat s.rows i).kind=3:=by rw [hk];rfl
 have HA:Hid (askD i s=if (lk s.known (rat s.rows i).name).isSome then .error 31 else if s.cnt 3=4 then .error 3 else .ok (s.dec i)):=by
  show _=_
  unfold askD
  rw [hdk,if_neg (by decide)]
  rfl
 have HD:Hid (s.dec i=⟨numb s.rows i (s.cnt 3),((rat s.rows i).name,3,s.cnt 3,endp l0 i) :: s.known,s.qs,s.vs,s.ts++[(rat s.rows i).name],s.us,s.ev⟩):=by
  show _=_
  have he:endp (numb s.rows i (s.cnt 3)) i=endp l0 i:=endp_like ((numb_clr _ _ _).trans hg.like) i
  unfold Rs.dec
  rw [hdk,hk,he]
  rfl
 have HCn:Hid ((s.dec i).cnt 1=s.cnt 1/\(s.dec i).cnt 2=s.cnt 2/\(s.dec i).cnt 3=s.cnt 3+1/\(s.dec i).cnt 4=s.cnt 4):=by
  refine ⟨?_,?_,?_,?_⟩
  all_goals
   rw [cnt_dec s i _ (by rw [hdk];decide),hdk]
   rfl
 have hR5:rat s.rows i=⟨5,(rat s.rows i).name,(rat s.rows i).stop,(rat s.rows i).n,(rat s.rows i).kids⟩:=by
  rw [<-hk]
 have hep:endp l0 i<=l0.length:=(end_kid hT.whole hi).2.2
 have hb1:Below W.heap.size W (W.alloc (.cells #[.int .i64 (rat s.rows i).kind,.string (rat s.rows i).name,.int .i64 (rat s.rows i).stop,.int .i64 (rat s.rows i).n,.int .i64 (rat s.rows i).kids] 47)):=bAl W _
 have h1:=h.below hb1
 obtain ⟨ho,hc,hhv,hth⟩:=h1.things
 subst hhv
 have HM:=hdn <| h1
 have HB1:Hid (Fb [b,rb] base W (W.alloc (.cells #[.int .i64 (rat s.rows i).kind,.string (rat s.rows i).name,.int .i64 (rat s.rows i).stop,.int .i64 (rat s.rows i).n,.int .i64 (rat s.rows i).kids] 47))/\b < W.heap.size/\eb < W.heap.size/\rb < W.heap.size):=⟨Fb.of_below (hb1.mono h.ob.sz),blk_lt h.ob.blk,Nat.lt_of_lt_of_le h.lt.2.1 h.ob.sz,h.r.lt⟩
 have HNd:=hdn <| hnd
 have HV:Hid (s.ts.length<=1000):=by show _<=_;have:=hg.q;have:=hg.v;have:=hg.t;have:=hg.u;omega
 have HS:Hid (i < s.rows.length/\i < l0.length/\s.us.length<=64/\s.known.length<=1000):=⟨his,hi,hg.u,by rw [<-List.length_reverse];exact hkl⟩
 generalize hxx:rat s.rows i=x at *
 have HX:Hid (rat s.rows i=x):=hxx
 obtain ⟨kd0,nm1,st,n,ks⟩:=x
 dsimp only at *
 subst hk
 have b9:(W.alloc (.cells #[.int .i64 5,.string nm1,.int .i64 st,.int .i64 n,.int .i64 ks] 47)).cell? ⟨b,9,none⟩=some (.slice ho s.known.reverse.length hc):=h1.cell 9 _ rfl
 have bz:(W.alloc (.cells #[.int .i64 5,.string nm1,.int .i64 st,.int .i64 n,.int .i64 ks] 47)).cell? ⟨b,13,none⟩=some (.int .i64 (s.cnt 3:Nat)):=h1.cell 13 _ rfl
 have fz:(W.alloc (.cells #[.int .i64 5,.string nm1,.int .i64 st,.int .i64 n,.int .i64 ks] 47)).frozen? ⟨b,13,none⟩=false:=fzb h1.ob.blk 13
 have HFd:=hdn <| find_any (nm:=nm1) b9 hth hkl
 have HMs:Hid (∀ u,Calls Tryz.prog 34 #[.int .i64 3] u fun e w'=>e=.returned (.int .i64 4)/\w'=u):=fun u=>rmost_any 3 (by decide) (by decide) u
 have hi':(i:Int) < (l0.length:Int):=by omega
 have hi2:(i:Int)<=2932031007317:=by omega
 have hcl2:(s.cnt 3:Int)<=4:=by omega
 have hep2:(endp l0 i:Int)<=2932031007317:=by omega
 clear h hg hnd hi hl hlen his hkl hcl hdk hb1 h1 hth hep hR5 hT hxx
 generalize askD i s=R at *
 go_enter Tryz.func16,Tryz.ntmps16
 go_wp2_with fail
 refine Calls.mono HFd.out ?_
 rintro e w1 ⟨⟨j,hj,hnm,rfl⟩ | ⟨hno,rfl⟩,rfl⟩
 ·have hlk:(lk s.known nm1).isSome=true:=by
   rw [lk_nodup HNd.out (nm:=nm1) (v:=s.known.reverse[j].2) (by rw [<-hnm];exact List.mem_reverse.1 (List.getElem_mem hj))]
   rfl
  rw [if_pos hlk] at HA
  have hj0:decide ((0:Int)<=(j:Int))=true:=decide_eq_true (by omega)
  have hj1:(0:Int)<=(j:Int):=by omega
  clear hlk hnm hj HFd HNd HD
  go_wp2
  go_ret
  rw [HA.out]
  exact ⟨HB1.out.1,rfl⟩
 ·have hlk:(lk s.known nm1).isSome=false:=by rw [lk_none (fun x hx=>hno x (List.mem_reverse.2 hx))];rfl
  rw [hlk,if_neg (by decide)] at HA
  clear hno hlk HFd HNd
  by_cases hfull:s.cnt 3=4
  ·have hfb:((s.cnt 3:Int) == 4)=true:=by simp [hfull]
   rw [if_pos hfull] at HA
   clear hfull HD
   go_wp2_with fail
   refine Calls.mono (HMs.out _) ?_
   rintro e w2 ⟨rfl,rfl⟩
   go_wp2
   go_ret
   rw [HA.out]
   exact ⟨HB1.out.1,rfl⟩
  ·have hfb:((s.cnt 3:Int) == 4)=false:=by simp;omega
   rw [if_neg hfull] at HA
   clear hfull
   go_wp2_with fail
   refine Calls.mono (HMs.out _) ?_
   rintro e w2 ⟨rfl,rfl⟩
   go_upto_region 8 with fail
   have hO2:Ob ((W.alloc (.cells #[.int .i64 5,.string nm1,.int .i64 st,.int .i64 n,.int .i64 ks] 47)).setCell ⟨b,13,none⟩ (.int .i64 ((s.cnt 3:Int)+1))) b base 55 (mkC nm rb rc l0.length eb qv vv tv uv ov (plc s.ev (5,0)) (.slice ho s.known.reverse.length hc) (s.cnt 1) (s.cnt 2) (s.cnt 3+1) (s.cnt 4)) ((o5 s qv vv tv uv ov)++[⟨9,73,4,.slice ho s.known.reverse.length hc,s.known.length,thF s.known.reverse⟩]):=HM.out.ob.set 13 (.int .i64 ((s.cnt 3:Int)+1)) (by simp)
   have hset:∀ k,k ≠ b->((W.alloc (.cells #[.int .i64 5,.string nm1,.int .i64 st,.int .i64 n,.int .i64 ks] 47)).setCell ⟨b,13,none⟩ (.int .i64 ((s.cnt 3:Int)+1))).heap[k]?=(W.alloc (.cells #[.int .i64 5,.string nm1,.int .i64 st,.int .i64 n,.int .i64 ks] 47)).heap[k]?:=fun k hk=>Below.heap_setCell _ _ _ k (fun e=>hk e)
   have hlt:=HM.out.lt
   have hnb:W.heap.size ≠ b:=by have:=HB1.out.2.1;omega
   have x1:((W.alloc (.cells #[.int .i64 5,.string nm1,.int .i64 st,.int .i64 n,.int .i64 ks] 47)).setCell ⟨b,13,none⟩ (.int .i64 ((s.cnt 3:Int)+1))).cell? ⟨W.heap.size,1,none⟩=some (.string nm1):=(World.cell?_of_block (a:=⟨W.heap.size,1,none⟩) (hset _ hnb)).trans a1
   have x0:((W.alloc (.cells #[.int .i64 5,.string nm1,.int .i64 st,.int .i64 n,.int .i64 ks] 47)).setCell ⟨b,13,none⟩ (.int .i64 ((s.cnt 3:Int)+1))).cell? ⟨W.heap.size,0,none⟩=some (.int .i64 5):=(World.cell?_of_block (a:=⟨W.heap.size,0,none⟩) (hset _ hnb)).trans a0
   have H2:Hid (Ob ((W.alloc (.cells #[.int .i64 5,.string nm1,.int .i64 st,.int .i64 n,.int .i64 ks] 47)).setCell ⟨b,13,none⟩ (.int .i64 ((s.cnt 3:Int)+1))) b base 55 (mkC nm rb rc l0.length eb qv vv tv uv ov (plc s.ev (5,0)) (.slice ho s.known.reverse.length hc) (s.cnt 1) (s.cnt 2) (s.cnt 3+1) (s.cnt 4)) ((o5 s qv vv tv uv ov)++[⟨9,73,4,.slice ho s.known.reverse.length hc,s.known.length,thF s.known.reverse⟩])/\Rw ((W.alloc (.cells #[.int .i64 5,.string nm1,.int .i64 st,.int .i64 n,.int .i64 ks] 47)).setCell ⟨b,13,none⟩ (.int .i64 ((s.cnt 3:Int)+1))) rb s.rows/\(∀ k,k < l0.length->((W.alloc (.cells #[.int .i64 5,.string nm1,.int .i64 st,.int .i64 n,.int .i64 ks] 47)).setCell ⟨b,13,none⟩ (.int .i64 ((s.cnt 3:Int)+1))).cell? ⟨eb,k,none⟩=some (.int .i64 (endp l0 k:Nat)))/\Fb [b,rb] base W ((W.alloc (.cells #[.int .i64 5,.string nm1,.int .i64 st,.int .i64 n,.int .i64 ks] 47)).setCell ⟨b,13,none⟩ (.int .i64 ((s.cnt 3:Int)+1)))/\((W.alloc (.cells #[.int .i64 5,.string nm1,.int .i64 st,.int .i64 n,.int .i64 ks] 47)).setCell ⟨b,13,none⟩ (.int .i64 ((s.cnt 3:Int)+1))).cell? ⟨W.heap.size,1,none⟩=some (.string nm1)/\((W.alloc (.cells #[.int .i64 5,.string nm1,.int .i64 st,.int .i64 n,.int .i64 ks] 47)).setCell ⟨b,13,none⟩ (.int .i64 ((s.cnt 3:Int)+1))).cell? ⟨W.heap.size,0,none⟩=some (.int .i64 5)):=⟨hO2,HM.out.r.same (hset _ hlt.2.2.1),fun k hk=>(World.cell?_of_block (a:=⟨eb,k,none⟩) (hset _ hlt.2.2.2.1)).trans (HM.out.e k hk),HB1.out.1.trans ((Fr.set (F:=[b,rb]) _ 13 (.int .i64 ((s.cnt 3:Int)+1)) (by simp)).fbw HM.out.ob.sz),x1,x0⟩
   have HXb:Hid (((W.alloc (.cells #[.int .i64 5,.string nm1,.int .i64 st,.int .i64 n,.int .i64 ks] 47)).setCell ⟨b,13,none⟩ (.int .i64 ((s.cnt 3:Int)+1))).drew.heap[W.heap.size]?=some (.cells #[.int .i64 5,.string nm1,.int .i64 st,.int .i64 n,.int .i64 ks] 47 (0,0))):=(hset _ hnb).trans (heap_alloc_new W _)
   have HLt:=hdn <| hlt
   clear hO2 hset hlt x1 x0 a0 a1 a2 a3 a4 b1 b9 bz fz c0 c1 c2 c3 c4 HMs hfb
   generalize (W.alloc (.cells #[.int .i64 5,.string nm1,.int .i64 st,.int .i64 n,.int .i64 ks] 47)).setCell ⟨b,13,none⟩ (.int .i64 ((s.cnt 3:Int)+1))=w3 at *
   go_cut [] (fun wx=>∃ bo bc,Ob wx b base 55 (mkC nm rb rc l0.length eb qv vv tv uv ov (plc s.ev (5,0)) (.slice bo (s.known.length+1) bc) (s.cnt 1) (s.cnt 2) (s.cnt 3+1) (s.cnt 4)) ((o5 s qv vv tv uv ov)++[⟨9,73,4,.slice bo (s.known.length+1) bc,s.known.length+1,thF ((nm1,3,s.cnt 3,endp l0 i) :: s.known).reverse⟩])/\Rw wx rb s.rows/\(∀ k,k < l0.length->wx.cell? ⟨eb,k,none⟩=some (.int .i64 (endp l0 k:Nat)))/\Fb [b,rb] base W wx/\wx.heap[W.heap.size]?=some (.cells #[.int .i64 5,.string nm1,.int .i64 st,.int .i64 n,.int .i64 ks] 47 (0,0)))
   case rest=>
    obtain ⟨bo,bc,hO,hR,hE,hF,hXB⟩:=hcut
    have y1:wc.cell? ⟨b,1,none⟩=some (.slice (some ⟨rb,0,none⟩) l0.length rc):=by simp only [World.cell?,hO.blk];rfl
    have hxr:=some_rat HS.out.1
    rw [HX.out] at hxr
    obtain ⟨_,_,_,d3,_,dfz⟩:=hR.cells hxr
    have df3:=dfz (i * 5+3)
    dsimp only at d3
    have hbk:∀ k,k ≠ rb->(wc.setCell ⟨rb,i * 5+3,none⟩ (.int .i64 (s.cnt 3:Int))).heap[k]?=wc.heap[k]?:=fun k hk=>Below.heap_setCell wc _ _ k (fun e=>hk e)
    have hnr:W.heap.size ≠ rb:=by have:=HB1.out.2.2.2;omega
    have hR6:=hR.setN hxr (s.cnt 3:Int)
    have H6:Hid (Ob (wc.setCell ⟨rb,i * 5+3,none⟩ (.int .i64 (s.cnt 3:Int))) b base 55 (mkC nm rb rc l0.length eb qv vv tv uv ov (plc s.ev (5,0)) (.slice bo (s.known.length+1) bc) (s.cnt 1) (s.cnt 2) (s.cnt 3+1) (s.cnt 4)) ((o5 s qv vv tv uv ov)++[⟨9,73,4,.slice bo (s.known.length+1) bc,s.known.length+1,thF ((nm1,3,s.cnt 3,endp l0 i) :: s.known).reverse⟩])/\Rw (wc.setCell ⟨rb,i * 5+3,none⟩ (.int .i64 (s.cnt 3:Int))) rb (numb s.rows i (s.cnt 3))/\(∀ k,k < l0.length->(wc.setCell ⟨rb,i * 5+3,none⟩ (.int .i64 (s.cnt 3:Int))).cell? ⟨eb,k,none⟩=some (.int .i64 (endp l0 k:Nat)))/\Fb [b,rb] base W (wc.setCell ⟨rb,i * 5+3,none⟩ (.int .i64 (s.cnt 3:Int)))/\(wc.setCell ⟨rb,i * 5+3,none⟩ (.int .i64 (s.cnt 3:Int))).heap[W.heap.size]?=some (.cells #[.int .i64 5,.string nm1,.int .i64 st,.int .i64 n,.int .i64 ks] 47 (0,0))):=by
     refine ⟨hO.other HLt.out.1 HLt.out.2.2.1 (Fr.set wc _ _ (by simp)),?_,fun k hk=>(World.cell?_of_block (a:=⟨eb,k,none⟩) (hbk _ (Ne.symm HLt.out.2.2.2.2))).trans (hE k hk),hF.trans ((Fr.set (F:=[b,rb]) wc (i * 5+3) (.int .i64 (s.cnt 3:Int)) (by simp)).fbw hO.sz),(hbk _ hnr).trans hXB⟩
     unfold numb
     rw [HX.out]
     exact hR6
    clear hO hR hE hF hXB hbk hxr hR6 dfz HXb H2 HM
    go_upto_region 17 with fail
    generalize wc.setCell ⟨rb,i * 5+3,none⟩ (.int .i64 (s.cnt 3:Int))=w6 at *
    have y3:w6.cell? ⟨b,4,none⟩=some tv:=by simp only [World.cell?,H6.out.1.blk];rfl
    have x1:w6.cell? ⟨W.heap.size,1,none⟩=some (.string nm1):=by rw [World.cell?,H6.out.2.2.2.2];rfl
    have hbU:Below w6.heap.size w6 (w6.alloc (.cells #[.string nm1] 9)):=bAl w6 _
    have yA:(w6.alloc (.cells #[.string nm1] 9)).cell? ⟨b,4,none⟩=some tv:=(hbU.cell (p:=⟨b,4,none⟩) (blk_lt H6.out.1.blk)).trans y3
    have HO7:=hdn <| H6.out.1.below hbU.drew
    have HR7:Hid (Rw (w6.alloc (.cells #[.string nm1] 9)).drew rb (numb s.rows i (s.cnt 3))/\(∀ k,k < l0.length->(w6.alloc (.cells #[.string nm1] 9)).drew.cell? ⟨eb,k,none⟩=some (.int .i64 (endp l0 k:Nat)))/\Fb [b,rb] base W (w6.alloc (.cells #[.string nm1] 9)).drew):=⟨H6.out.2.1.same (hbU.drew.block _ H6.out.2.1.lt),fun k hk=>(hbU.drew.cell (p:=⟨eb,k,none⟩) (World.block_lt_of_cell? w6 ⟨eb,k,none⟩ (H6.out.2.2.1 k hk))).trans (H6.out.2.2.1 k hk),H6.out.2.2.2.1.trans (Fb.of_below (hbU.drew.mono H6.out.1.sz))⟩
    have HOw:Hid ((w6.alloc (.cells #[.string nm1] 9)).drew.ownsRow base 9 1 tv s.ts.length (s.ts.map Value.string)):=(HO7.out.own ⟨4,9,1,tv,s.ts.length,s.ts.map Value.string⟩ (by simp)).2
    obtain ⟨j0,hj,hj0,hj1,hj2⟩:=info_parts infoS
    have hln:s.ts.length<=1000:=HV.out
    have HLn:=hdn <| hln
    clear hbU hln
    go_region_law (refine step_gone _ rfl (.tmp 122) (.tmp 125) 26 rfl base 9 j0 (.string ByteArray.empty) 1 16 Tryz.underlying26 hj hj0 hj1 hj2 rfl (by decide) tv _ (s.ts.map Value.string) (by simp [Act.eval]) HOw.out ⟨w6.heap.size,0,none⟩ 1 1 [.string nm1] (by simp [Act.eval]) rfl (cell_oned w6 _ _ _ rfl) (by intro u hu;simp only [List.mem_cons,List.not_mem_nil,or_false] at hu;subst hu;rfl) (by have:=HLn.out;unfold maxLen;omega) (by have:=HLn.out;omega) HO7.out.sz (by decide) ?_
                   intro xv' w8 hown8 hG8
                   obtain ⟨p1,p2,p3,p4,p5⟩:=Ob.putF (os1:=[⟨2,67,2,qv,s.qs.length,qF s.qs⟩,⟨3,9,1,vv,s.vs.length,s.vs.map Value.string⟩]) (os2:=[⟨5,3,1,uv,s.us.length,nv s.us⟩,⟨6,3,1,ov,s.qs.length,iv (onsOf s.ev s.qs.length)⟩,⟨9,73,4,.slice bo (s.known.length+1) bc,s.known.length+1,thF ((nm1,3,s.cnt 3,endp l0 i) :: s.known).reverse⟩]) HO7.out hG8 hown8
                   have e3:w8.cell? ⟨b,4,none⟩=some tv:=by simp only [World.cell?,p1];rfl
                   have f3:w8.frozen? ⟨b,4,none⟩=false:=fzb p1 4
                   have HP2:=hdn <| p2
                   have HP3:=hdn <| p3
                   have HP5:=hdn <| p5
                   obtain ⟨uo',uc',rfl⟩:=own_form hown8
                   clear hown8 hG8 p1 p2 p3 p4 p5)
    all_goals
     have hne:∀ k,k ≠ b->(w8.setCell ⟨b,4,none⟩ (.slice uo' (s.ts.length+1) uc')).heap[k]?=w8.heap[k]?:=fun k hk=>Below.heap_setCell w8 _ _ k (fun e=>hk e)
     have HF:Hid (Fb [b,rb] base W (w8.setCell ⟨b,4,none⟩ (.slice uo' (s.ts.length+1) uc'))):=HR7.out.2.2.trans (HP5.out.wide (by simp))
     have HEnd:Hid (Mkr (w8.setCell ⟨b,4,none⟩ (.slice uo' (s.ts.length+1) uc')) b base rb rc eb nm l0 (s.dec i) qv vv (.slice uo' (s.ts.length+1) uc') uv ov (.slice bo (s.known.length+1) bc)):=by
      have hd:=HD.out
      have f1:(s.dec i).rows=numb s.rows i (s.cnt 3):=by rw [hd]
      have f2:(s.dec i).known=(nm1,3,s.cnt 3,endp l0 i) :: s.known:=by rw [hd]
      have f4:(s.dec i).qs=s.qs:=by rw [hd]
      have f5:(s.dec i).ts=s.ts++[nm1]:=by rw [hd]
      have f5':(s.dec i).vs=s.vs:=by rw [hd]
      have f6:(s.dec i).us=s.us:=by rw [hd]
      have f7:(s.dec i).ev=s.ev:=by rw [hd]
      refine ⟨?_,by rw [f1];exact HR7.out.1.same ((hne _ HLt.out.2.2.1).trans (HP3.out _ HLt.out.1)),fun k hk=>(World.cell?_of_block (a:=⟨eb,k,none⟩) ((hne _ HLt.out.2.2.2.1).trans (HP3.out _ HLt.out.2.1))).trans (HR7.out.2.1 k hk),HLt.out⟩
      have e1:(s.ts++[nm1]).map Value.string=s.ts.map Value.string++[.string nm1]:=by simp
      have e2:(s.ts++[nm1]).length=s.ts.length+1:=by simp
      rw [HCn.out.1,HCn.out.2.1,HCn.out.2.2.1,HCn.out.2.2.2,f2,f4,f5,f5',f6,f7,e1,e2,List.length_cons]
      exact HP2.out
     clear hne HO7 HOw
     go_wp2
     go_ret
     rw [HA.out]
     exact ⟨HF.out,rfl,_,_,_,_,_,_,HEnd.out⟩
   have hbd:Below w3.heap.size w3 w3.drew:=(Below.refl _ w3).drew
   have HLd:Hid (Ob w3.drew b base 55 (mkC nm rb rc l0.length eb qv vv tv uv ov (plc s.ev (5,0)) (.slice ho s.known.reverse.length hc) (s.cnt 1) (s.cnt 2) (s.cnt 3+1) (s.cnt 4)) ((o5 s qv vv tv uv ov)++[⟨9,73,4,.slice ho s.known.reverse.length hc,s.known.length,thF s.known.reverse⟩])/\Rw w3.drew rb s.rows/\(∀ k,k < l0.length->w3.drew.cell? ⟨eb,k,none⟩=some (.int .i64 (endp l0 k:Nat)))/\Fb [b,rb] base W w3.drew/\w3.drew.cell? ⟨W.heap.size,1,none⟩=some (.string nm1)/\w3.drew.cell? ⟨W.heap.size,0,none⟩=some (.int .i64 5)):=⟨H2.out.1.below hbd,H2.out.2.1.same rfl,H2.out.2.2.1,H2.out.2.2.2.1.trans (Fb.of_below (hbd.mono H2.out.1.sz)),H2.out.2.2.2.2.1,H2.out.2.2.2.2.2⟩
   clear hbd H2
   have hS0:w3.drew.cell? ⟨W.heap.size,1,none⟩=some (.string nm1)/\w3.drew.cell? ⟨b,8,none⟩=some (.slice (some ⟨eb,0,none⟩) l0.length l0.length)/\w3.drew.cell? ⟨eb,i,none⟩=some (.int .i64 (endp l0 i:Int)):=⟨HLd.out.2.2.2.2.1,by simp only [World.cell?,HLd.out.1.blk];rfl,HLd.out.2.2.1 i HS.out.2.1⟩
   obtain ⟨j0,hj,hj0,hj1,hj2⟩:=info_parts infoTh
   refine wp_region_held (S:=fun w'=>w'.cell? ⟨W.heap.size,1,none⟩=some (.string nm1)/\w'.cell? ⟨b,8,none⟩=some (.slice (some ⟨eb,0,none⟩) l0.length l0.length)/\w'.cell? ⟨eb,i,none⟩=some (.int .i64 (endp l0 i:Int))) (by kernel_rfl) ?_
   have hS:(fun w':World=>w'.cell? ⟨W.heap.size,1,none⟩=some (.string nm1)/\w'.cell? ⟨b,8,none⟩=some (.slice (some ⟨eb,0,none⟩) l0.length l0.length)/\w'.cell? ⟨eb,i,none⟩=some (.int .i64 (endp l0 i:Int))) w3.drew:=hS0
   change wpAnyH _ _ _ _ _ _ _ _ w3.drew
   refine tq 0 rfl hS ?_
   refine tq 1 rfl hS ?_
   refine tq 2 rfl hS ?_
   refine tq 3 rfl hS ?_
   refine tq 5 rfl hS ?_
   refine tq 6 rfl hS ?_
   refine tq 7 rfl hS ?_
   refine tq 8 rfl hS ?_
   refine tq 9 rfl hS ?_
   refine tq 10 rfl hS ?_
   refine tq 11 rfl hS ?_
   refine tq 12 rfl hS ?_
   refine tq 13 rfl hS ?_
   refine tq 14 rfl hS ?_
   refine tq 15 rfl hS ?_
   refine tq 16 rfl hS ?_
   have hXB:w3.drew.heap[W.heap.size]?=some (.cells #[.int .i64 5,.string nm1,.int .i64 st,.int .i64 n,.int .i64 ks] 47 (0,0)):=HXb.out
   generalize w3.drew=wd at *
   have hbA:Below wd.heap.size wd (wd.alloc (.cells #[.string nm1,.int .i64 3,.int .i64 (s.cnt 3:Int),.int .i64 (endp l0 i:Int)] 73)):=bAl wd _
   have HOA:=hdn <| HLd.out.1.below hbA
   have HRA:Hid (Rw (wd.alloc (.cells #[.string nm1,.int .i64 3,.int .i64 (s.cnt 3:Int),.int .i64 (endp l0 i:Int)] 73)) rb s.rows/\(∀ k,k < l0.length->(wd.alloc (.cells #[.string nm1,.int .i64 3,.int .i64 (s.cnt 3:Int),.int .i64 (endp l0 i:Int)] 73)).cell? ⟨eb,k,none⟩=some (.int .i64 (endp l0 k:Nat)))/\Fb [b,rb] base W (wd.alloc (.cells #[.string nm1,.int .i64 3,.int .i64 (s.cnt 3:Int),.int .i64 (endp l0 i:Int)] 73))):=⟨HLd.out.2.1.same (hbA.block _ HLd.out.2.1.lt),fun k hk=>(hbA.cell (p:=⟨eb,k,none⟩) (World.block_lt_of_cell? wd ⟨eb,k,none⟩ (HLd.out.2.2.1 k hk))).trans (HLd.out.2.2.1 k hk),HLd.out.2.2.2.1.trans (Fb.of_below (hbA.mono HLd.out.1.sz))⟩
   have HXB:Hid ((wd.alloc (.cells #[.string nm1,.int .i64 3,.int .i64 (s.cnt 3:Int),.int .i64 (endp l0 i:Int)] 73)).heap[W.heap.size]?=some (.cells #[.int .i64 5,.string nm1,.int .i64 st,.int .i64 n,.int .i64 ks] 47 (0,0))):=(hbA.block _ (blk_lt hXB)).trans hXB
   have hSA:(wd.alloc (.cells #[.string nm1,.int .i64 3,.int .i64 (s.cnt 3:Int),.int .i64 (endp l0 i:Int)] 73)).cell? ⟨W.heap.size,1,none⟩=some (.string nm1)/\(wd.alloc (.cells #[.string nm1,.int .i64 3,.int .i64 (s.cnt 3:Int),.int .i64 (endp l0 i:Int)] 73)).cell? ⟨b,8,none⟩=some (.slice (some ⟨eb,0,none⟩) l0.length l0.length)/\(wd.alloc (.cells #[.string nm1,.int .i64 3,.int .i64 (s.cnt 3:Int),.int .i64 (endp l0 i:Int)] 73)).cell? ⟨eb,i,none⟩=some (.int .i64 (endp l0 i:Int)):=⟨by rw [World.cell?,HXB.out];rfl,by simp only [World.cell?,HOA.out.blk];rfl,HRA.out.2.1 i HS.out.2.1⟩
   have HSA:=hdn <| hSA
   have y9:wd.cell? ⟨b,9,none⟩=some (.slice ho s.known.reverse.length hc):=by simp only [World.cell?,HLd.out.1.blk];rfl
   have yA:(wd.alloc (.cells #[.string nm1,.int .i64 3,.int .i64 (s.cnt 3:Int),.int .i64 (endp l0 i:Int)] 73)).cell? ⟨b,9,none⟩=some (.slice ho s.known.reverse.length hc):=by simp only [World.cell?,HOA.out.blk];rfl
   have HOw:Hid ((wd.alloc (.cells #[.string nm1,.int .i64 3,.int .i64 (s.cnt 3:Int),.int .i64 (endp l0 i:Int)] 73)).ownsRow base 73 4 (.slice ho s.known.reverse.length hc) s.known.length (thF s.known.reverse)):=(HOA.out.own ⟨9,73,4,.slice ho s.known.reverse.length hc,s.known.length,thF s.known.reverse⟩ (by simp)).2
   clear hbA hXB
   refine rd2 4 17 (by kernel_rfl) rfl rfl (fun K hK=>?_) (fun K hK=>?_)
   rotate_right
   focus
    go_simp
    refine hK.out _ _ hSA (fun hS=>?_)
    refine wpAnyH_ready (rs:=[4]) (by kernel_rfl) (by simp) ?_
   rotate_right
   focus
    go_simp
    refine hK.out _ _ hS0 (fun hS=>?_)
    refine wpAnyH_ready (rs:=[17]) (by kernel_rfl) (by simp) ?_
   all_goals
    refine AllReadyH.cons rfl (fun K hK=>?_) AllReadyH.nil
    go_simp
    refine hK.out _ _ hSA (fun hS=>?_)
    refine rd1 18 rfl fun K hK=>?_
    refine step_gone _ rfl (.tmp 43) (.tmp 56) 52 rfl base 73 j0 (.agg #[.string ⟨#[]⟩,.int .i64 0,.int .i64 0,.int .i64 0]) 4 40 Tryz.underlying52 hj hj0 hj1 hj2 rfl (by decide) (.slice ho s.known.reverse.length hc) _ (thF s.known.reverse) (by simp [Act.eval]) HOw.out ⟨wd.heap.size,0,none⟩ 1 1 [.string nm1,.int .i64 3,.int .i64 (s.cnt 3:Int),.int .i64 (endp l0 i:Int)] (by simp [Act.eval]) rfl (cell_fourd wd _ _ _ _ _) (by intro u hu;simp only [List.mem_cons,List.not_mem_nil,or_false] at hu;rcases hu with rfl | rfl | rfl | rfl<;>rfl) (by have:=HS.out.2.2.2;unfold maxLen;omega) (by have:=HS.out.2.2.2;omega) HOA.out.sz (by decide) ?_
    intro hv' w4 hown4 hG4
    obtain ⟨p1,p2,p3,p4,p5⟩:=Ob.putF (os1:=(o5 s qv vv tv uv ov)) (os2:=[]) HOA.out hG4 hown4
    have e9:w4.cell? ⟨b,9,none⟩=some (.slice ho s.known.reverse.length hc):=by simp only [World.cell?,p1];rfl
    have f9:w4.frozen? ⟨b,9,none⟩=false:=fzb p1 9
    have s4:w4.cell? ⟨W.heap.size,1,none⟩=some (.string nm1)/\w4.cell? ⟨b,8,none⟩=some (.slice (some ⟨eb,0,none⟩) l0.length l0.length)/\w4.cell? ⟨eb,i,none⟩=some (.int .i64 (endp l0 i:Int)):=⟨by rw [World.cell?,p4 _ _ _ HXB.out (show (47:TypeId) ≠ 73 by decide)];rfl,by simp only [World.cell?,p1];rfl,(World.cell?_of_block (a:=⟨eb,i,none⟩) (p3 eb HLt.out.2.1)).trans HSA.out.2.2⟩
    obtain ⟨bo,bc,rfl⟩:=own_form hown4
    have H5:Hid (Ob (w4.setCell ⟨b,9,none⟩ (.slice bo (s.known.length+1) bc)) b base 55 (mkC nm rb rc l0.length eb qv vv tv uv ov (plc s.ev (5,0)) (.slice bo (s.known.length+1) bc) (s.cnt 1) (s.cnt 2) (s.cnt 3+1) (s.cnt 4)) ((o5 s qv vv tv uv ov)++[⟨9,73,4,.slice bo (s.known.length+1) bc,s.known.length+1,thF ((nm1,3,s.cnt 3,endp l0 i) :: s.known).reverse⟩])/\Rw (w4.setCell ⟨b,9,none⟩ (.slice bo (s.known.length+1) bc)) rb s.rows/\(∀ k,k < l0.length->(w4.setCell ⟨b,9,none⟩ (.slice bo (s.known.length+1) bc)).cell? ⟨eb,k,none⟩=some (.int .i64 (endp l0 k:Nat)))/\Fb [b,rb] base W (w4.setCell ⟨b,9,none⟩ (.slice bo (s.known.length+1) bc))/\(w4.setCell ⟨b,9,none⟩ (.slice bo (s.known.length+1) bc)).heap[W.heap.size]?=some (.cells #[.int .i64 5,.string nm1,.int .i64 st,.int .i64 n,.int .i64 ks] 47 (0,0))):=by
     have hne:∀ k,k ≠ b->(w4.setCell ⟨b,9,none⟩ (.slice bo (s.known.length+1) bc)).heap[k]?=w4.heap[k]?:=fun k hk=>Below.heap_setCell w4 _ _ k (fun e=>hk e)
     refine ⟨by rw [thF_snoc];exact p2,HRA.out.1.same ((hne _ HLt.out.2.2.1).trans (p3 _ HLt.out.1)),fun k hk=>(World.cell?_of_block (a:=⟨eb,k,none⟩) ((hne _ HLt.out.2.2.2.1).trans (p3 _ HLt.out.2.1))).trans (HRA.out.2.1 k hk),HRA.out.2.2.trans (p5.wide (by simp)),(hne _ hnb).trans (p4 _ _ _ HXB.out (show (47:TypeId) ≠ 73 by decide))⟩
    have s5:(w4.setCell ⟨b,9,none⟩ (.slice bo (s.known.length+1) bc)).cell? ⟨W.heap.size,1,none⟩=some (.string nm1)/\(w4.setCell ⟨b,9,none⟩ (.slice bo (s.known.length+1) bc)).cell? ⟨b,8,none⟩=some (.slice (some ⟨eb,0,none⟩) l0.length l0.length)/\(w4.setCell ⟨b,9,none⟩ (.slice bo (s.known.length+1) bc)).cell? ⟨eb,i,none⟩=some (.int .i64 (endp l0 i:Int)):=⟨by rw [World.cell?,H5.out.2.2.2.2];rfl,by simp only [World.cell?,H5.out.1.blk];rfl,H5.out.2.2.1 i HS.out.2.1⟩
    clear hown4 hG4 p1 p2 p3 p4 p5
    refine hK.out _ _ s4 (fun hS=>?_)
    refine rd1 19 rfl fun K hK=>?_
    go_simp
    refine hK.out _ _ s4 (fun hS=>?_)
    refine rd1 20 rfl fun K hK=>?_
    go_simp
    refine hK.out _ _ s4 (fun hS=>?_)
    refine rd1 21 rfl fun K hK=>?_
    go_simp
    refine hK.out _ _ s5 (fun hS=>?_)
    refine wpAnyH_done (by kernel_rfl) ?_ _
    clear e9 f9 s4 s5 hS
    go_wp2_with fail
    go_meet
    case rel=>exact ⟨bo,bc,H5.out⟩
end Go.Proofs.YtfgpbdieaflclaaGreat.Nm
