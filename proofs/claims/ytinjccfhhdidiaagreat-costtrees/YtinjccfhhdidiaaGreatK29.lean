import Derived.Test.YtinjccfhhdidiaaGreatK28
set_option maxHeartbeats 25600000
set_option maxRecDepth 100000
namespace Go.Proofs.YtinjccfhhdidiaaGreat.Nm
open Go.RowKit Go.Maps Sp Lx Gr
theorem vF_at (l:List (Int × Int × Int)) (ys:List Value) (n:Nat) (v:Int × Int × Int) (h:l[n]?=some v):(vF l++ys)[n * 3]?=some (.int .i64 v.1)/\(vF l++ys)[n * 3+1]?=some (.int .i64 v.2.1)/\(vF l++ys)[n * 3+2]?=some (.int .i64 v.2.2):=by
 induction l generalizing n with
 | nil=>simp at h
 | cons z l ih=>
  have e:vF (z :: l)++ys=.int .i64 z.1 :: .int .i64 z.2.1 :: .int .i64 z.2.2 :: (vF l++ys):=by simp [vF]
  rw [e]
  cases n with
  | zero=>
   simp at h
   subst h
   exact ⟨rfl,rfl,rfl⟩
  | succ n=>
   rw [show (n+1) * 3=n * 3+1+1+1 by omega,show n * 3+1+1+1+1=n * 3+1+1+1+1 by omega]
   simpa using ih n (by simpa using h)
theorem vals_three {w:World} {ao:Option Addr} {l:List (Int × Int × Int)} {ys:List Value} {n:Nat} {v:Int × Int × Int} (h:IsVals w ao (vF l++ys)) (hv:l[n]?=some v):∃ g o,ao=some ⟨g,o,none⟩/\w.cell? ⟨g,o+n * 3,none⟩=some (.int .i64 v.1)/\w.cell? ⟨g,o+n * 3+1,none⟩=some (.int .i64 v.2.1)/\w.cell? ⟨g,o+n * 3+2,none⟩=some (.int .i64 v.2.2):=by
 obtain ⟨h0,h1,h2⟩:=vF_at l ys n v hv
 obtain ⟨g,o,e,_,c0⟩:=h _ _ h0
 obtain ⟨g1,o1,e1,_,c1⟩:=h _ _ h1
 obtain ⟨g2,o2,e2,_,c2⟩:=h _ _ h2
 rw [e] at e1 e2
 cases e1
 cases e2
 exact ⟨g,o,e,c0,c1,c2⟩
theorem lent_t {W:World} {base:Nat} {vl:List (Int × Int × Int)} {tg rd:List Int} {gv cv gt ct gr cr:Nat} (h:Ls W base (lentOt vl tg rd gv cv gt ct gr cr)):(W.ownsRow base 3 1 (.slice (some ⟨gt,0,none⟩) (tg.length+1) ct) (tg.length+1) (iv tg++[.int .i64 (-77)])/\W.ownsRow base 3 1 (.slice (some ⟨gr,0,none⟩) (rd.length+1) cr) (rd.length+1) (iv rd++[.int .i64 (-77)])/\W.ownsRow base 64 3 (.slice (some ⟨gv,0,none⟩) (vl.length+1) cv) (vl.length+1) (vF vl++[.int .i64 (-77),.int .i64 0,.int .i64 0]))/\gt ≠ gr/\gt ≠ gv/\gr ≠ gv:=by
 have a:∀ (i:Nat) (hi:i < 3),W.ownsRow base ((lentOt vl tg rd gv cv gt ct gr cr)[i]'hi).T ((lentOt vl tg rd gv cv gt ct gr cr)[i]'hi).sz ((lentOt vl tg rd gv cv gt ct gr cr)[i]'hi).v ((lentOt vl tg rd gv cv gt ct gr cr)[i]'hi).n ((lentOt vl tg rd gv cv gt ct gr cr)[i]'hi).xs:=fun i hi=>h.own _ (List.getElem_mem hi)
 have d:=h.dis
 simp only [lentOt,List.pairwise_cons,List.mem_cons,List.not_mem_nil,or_false,forall_eq_or_imp,forall_eq,Value.ownBlock,Option.some.injEq,ne_eq] at d
 refine ⟨⟨a 0 (by omega),a 1 (by omega),a 2 (by omega)⟩,fun e=>?_,fun e=>?_,fun e=>?_⟩
 ·exact d.1.1 _ rfl e.symm
 ·exact d.1.2 _ rfl e.symm
 ·exact d.2.1 _ rfl e.symm
theorem keptT_any {w0 w:World} {xo yo eo:Option Addr} {cx cy ec gv cv gt ct gr cr:Nat} {vl:List (Int × Int × Int)} {tg rd:List Int} (h1:IsVals w0 xo (vF vl)) (h2:IsVals w0 yo (iv tg)) (h3:IsVals w0 eo (iv rd)) (hb:Below w0.heap.size w0 w) (hL:Ls w w0.heap.size (lentOt vl tg rd gv cv gt ct gr cr)) (n1:vl.length<=1000) (n2:tg.length<=1000) (n3:rd.length<=17592186043904):
  Calls Tryz.prog 14 #[.agg #[.slice (some ⟨gv,0,none⟩) vl.length cv,.slice (some ⟨gt,0,none⟩) tg.length ct,.slice (some ⟨gr,0,none⟩) rd.length cr],.agg #[.slice xo vl.length cx,.slice yo tg.length cy,.slice eo rd.length ec]] w fun e w'=>e=.returned (.bool true)/\Fr [gv,gt,gr] w w':=by
 obtain ⟨⟨o1,o2,o3⟩,d1,d2,d3⟩:=lent_t hL
 have HL:Hid ((gt < w.heap.size/\w0.heap.size<=gt)/\(gr < w.heap.size/\w0.heap.size<=gr)/\(gv < w.heap.size/\w0.heap.size<=gv)/\gt ≠ gr/\gt ≠ gv/\gr ≠ gv):=⟨⟨(World.ownsRow.lt o1 gt rfl).2,(World.ownsRow.lt o1 gt rfl).1⟩,⟨(World.ownsRow.lt o2 gr rfl).2,(World.ownsRow.lt o2 gr rfl).1⟩,⟨(World.ownsRow.lt o3 gv rfl).2,(World.ownsRow.lt o3 gv rfl).1⟩,d1,d2,d3⟩
 have hbA:Below w.heap.size w ((w.alloc (.cells #[.slice (some ⟨gv,0,none⟩) vl.length cv,.slice (some ⟨gt,0,none⟩) tg.length ct,.slice (some ⟨gr,0,none⟩) rd.length cr] 30)).alloc (.cells #[.slice xo vl.length cx,.slice yo tg.length cy,.slice eo rd.length ec] 30)):=((Below.refl _ w).alloc (Nat.le_refl _) _).alloc (by simp) _
 have HX:Hid (IsVals w0 xo (vF vl++[])/\IsVals w0 yo (iv tg)/\IsVals w0 eo (iv rd)/\tg.length<=1000/\rd.length<=17592186043904):=⟨by rw [List.append_nil];exact h1,h2,h3,n2,n3⟩
 have HS:Hid ((((w.alloc (.cells #[.slice (some ⟨gv,0,none⟩) vl.length cv,.slice (some ⟨gt,0,none⟩) tg.length ct,.slice (some ⟨gr,0,none⟩) rd.length cr] 30)).alloc (.cells #[.slice xo vl.length cx,.slice yo tg.length cy,.slice eo rd.length ec] 30)).heap[w.heap.size]?=some (.cells #[.slice (some ⟨gv,0,none⟩) vl.length cv,.slice (some ⟨gt,0,none⟩) tg.length ct,.slice (some ⟨gr,0,none⟩) rd.length cr] 30 (0,0))/\((w.alloc (.cells #[.slice (some ⟨gv,0,none⟩) vl.length cv,.slice (some ⟨gt,0,none⟩) tg.length ct,.slice (some ⟨gr,0,none⟩) rd.length cr] 30)).alloc (.cells #[.slice xo vl.length cx,.slice yo tg.length cy,.slice eo rd.length ec] 30)).heap[w.heap.size+1]?=some (.cells #[.slice xo vl.length cx,.slice yo tg.length cy,.slice eo rd.length ec] 30 (0,0)))/\Below w0.heap.size w0 ((w.alloc (.cells #[.slice (some ⟨gv,0,none⟩) vl.length cv,.slice (some ⟨gt,0,none⟩) tg.length ct,.slice (some ⟨gr,0,none⟩) rd.length cr] 30)).alloc (.cells #[.slice xo vl.length cx,.slice yo tg.length cy,.slice eo rd.length ec] 30))/\Fr [gv,gt,gr] w ((w.alloc (.cells #[.slice (some ⟨gv,0,none⟩) vl.length cv,.slice (some ⟨gt,0,none⟩) tg.length ct,.slice (some ⟨gr,0,none⟩) rd.length cr] 30)).alloc (.cells #[.slice xo vl.length cx,.slice yo tg.length cy,.slice eo rd.length ec] 30))/\((w.alloc (.cells #[.slice (some ⟨gv,0,none⟩) vl.length cv,.slice (some ⟨gt,0,none⟩) tg.length ct,.slice (some ⟨gr,0,none⟩) rd.length cr] 30)).alloc (.cells #[.slice xo vl.length cx,.slice yo tg.length cy,.slice eo rd.length ec] 30)).ownsRow w0.heap.size 3 1 (.slice (some ⟨gt,0,none⟩) (tg.length+1) ct) (tg.length+1) (iv tg++[.int .i64 (-77)])/\((w.alloc (.cells #[.slice (some ⟨gv,0,none⟩) vl.length cv,.slice (some ⟨gt,0,none⟩) tg.length ct,.slice (some ⟨gr,0,none⟩) rd.length cr] 30)).alloc (.cells #[.slice xo vl.length cx,.slice yo tg.length cy,.slice eo rd.length ec] 30)).ownsRow w0.heap.size 3 1 (.slice (some ⟨gr,0,none⟩) (rd.length+1) cr) (rd.length+1) (iv rd++[.int .i64 (-77)])/\((w.alloc (.cells #[.slice (some ⟨gv,0,none⟩) vl.length cv,.slice (some ⟨gt,0,none⟩) tg.length ct,.slice (some ⟨gr,0,none⟩) rd.length cr] 30)).alloc (.cells #[.slice xo vl.length cx,.slice yo tg.length cy,.slice eo rd.length ec] 30)).ownsRow w0.heap.size 64 3 (.slice (some ⟨gv,0,none⟩) (vl.length+1) cv) (vl.length+1) (vF vl++[.int .i64 (-77),.int .i64 0,.int .i64 0])):=
  ⟨⟨by rw [alloc_old _ _ _ (by simp)];exact alloc_at _ _ _ rfl,alloc_at _ _ _ (by simp)⟩,hb.trans (hbA.mono hb.size),Fr.of_below hbA,own_below o1 hbA,own_below o2 hbA,own_below o3 hbA⟩
 have hn1:(vl.length:Int)<=1000:=by omega
 obtain ⟨_,_,_,cp,cm⟩:=own_cells o3
 have hc1:(vl.length:Int)+1<=(cv:Int):=by omega
 unfold maxLen at cm
 have hc2:(cv:Int)<=9223372036854775807:=by omega
 have HCp:Hid (vl.length+1<=cv/\vl.length<=1000):=⟨cp,n1⟩
 clear h1 h2 h3 hb hL n1 n2 n3 o1 o2 o3 d1 d2 d3 hbA cm
 obtain ⟨a0,a1,a2⟩:=cells3 HS.out.1.1
 obtain ⟨b0,b1,b2⟩:=cells3 HS.out.1.2
 have km:((w.alloc (.cells #[.slice (some ⟨gv,0,none⟩) vl.length cv,.slice (some ⟨gt,0,none⟩) tg.length ct,.slice (some ⟨gr,0,none⟩) rd.length cr] 30)).alloc (.cells #[.slice xo vl.length cx,.slice yo tg.length cy,.slice eo rd.length ec] 30)).cell? ⟨gv,vl.length * 3,none⟩=some (.int .i64 (-77)):=by
  obtain ⟨g',o',e',_,hc⟩:=vals_of HS.out.2.2.2.2.2 (vl.length * 3) (.int .i64 (-77)) (by rw [List.getElem?_append_right (by rw [vF_len];omega),vF_len,Nat.sub_self];rfl)
  cases e'
  rw [Nat.zero_add] at hc
  exact hc
 go_enter Tryz.func14,Tryz.ntmps14
 go_wp2_with fail
 go_quiet (fail)
 go_wp2_with fail
 clear km a0 a1 a2 b0 b1 b2
 have hbd:Below ((w.alloc (.cells #[.slice (some ⟨gv,0,none⟩) vl.length cv,.slice (some ⟨gt,0,none⟩) tg.length ct,.slice (some ⟨gr,0,none⟩) rd.length cr] 30)).alloc (.cells #[.slice xo vl.length cx,.slice yo tg.length cy,.slice eo rd.length ec] 30)).heap.size ((w.alloc (.cells #[.slice (some ⟨gv,0,none⟩) vl.length cv,.slice (some ⟨gt,0,none⟩) tg.length ct,.slice (some ⟨gr,0,none⟩) rd.length cr] 30)).alloc (.cells #[.slice xo vl.length cx,.slice yo tg.length cy,.slice eo rd.length ec] 30)) (World.drewN ((w.alloc (.cells #[.slice (some ⟨gv,0,none⟩) vl.length cv,.slice (some ⟨gt,0,none⟩) tg.length ct,.slice (some ⟨gr,0,none⟩) rd.length cr] 30)).alloc (.cells #[.slice xo vl.length cx,.slice yo tg.length cy,.slice eo rd.length ec] 30)) nq):=below_drewN _ _
 have HS1:Hid (((World.drewN ((w.alloc (.cells #[.slice (some ⟨gv,0,none⟩) vl.length cv,.slice (some ⟨gt,0,none⟩) tg.length ct,.slice (some ⟨gr,0,none⟩) rd.length cr] 30)).alloc (.cells #[.slice xo vl.length cx,.slice yo tg.length cy,.slice eo rd.length ec] 30)) nq).heap[w.heap.size]?=some (.cells #[.slice (some ⟨gv,0,none⟩) vl.length cv,.slice (some ⟨gt,0,none⟩) tg.length ct,.slice (some ⟨gr,0,none⟩) rd.length cr] 30 (0,0))/\(World.drewN ((w.alloc (.cells #[.slice (some ⟨gv,0,none⟩) vl.length cv,.slice (some ⟨gt,0,none⟩) tg.length ct,.slice (some ⟨gr,0,none⟩) rd.length cr] 30)).alloc (.cells #[.slice xo vl.length cx,.slice yo tg.length cy,.slice eo rd.length ec] 30)) nq).heap[w.heap.size+1]?=some (.cells #[.slice xo vl.length cx,.slice yo tg.length cy,.slice eo rd.length ec] 30 (0,0)))/\Below w0.heap.size w0 (World.drewN ((w.alloc (.cells #[.slice (some ⟨gv,0,none⟩) vl.length cv,.slice (some ⟨gt,0,none⟩) tg.length ct,.slice (some ⟨gr,0,none⟩) rd.length cr] 30)).alloc (.cells #[.slice xo vl.length cx,.slice yo tg.length cy,.slice eo rd.length ec] 30)) nq)/\Fr [gv,gt,gr] w (World.drewN ((w.alloc (.cells #[.slice (some ⟨gv,0,none⟩) vl.length cv,.slice (some ⟨gt,0,none⟩) tg.length ct,.slice (some ⟨gr,0,none⟩) rd.length cr] 30)).alloc (.cells #[.slice xo vl.length cx,.slice yo tg.length cy,.slice eo rd.length ec] 30)) nq)/\(World.drewN ((w.alloc (.cells #[.slice (some ⟨gv,0,none⟩) vl.length cv,.slice (some ⟨gt,0,none⟩) tg.length ct,.slice (some ⟨gr,0,none⟩) rd.length cr] 30)).alloc (.cells #[.slice xo vl.length cx,.slice yo tg.length cy,.slice eo rd.length ec] 30)) nq).ownsRow w0.heap.size 3 1 (.slice (some ⟨gt,0,none⟩) (tg.length+1) ct) (tg.length+1) (iv tg++[.int .i64 (-77)])/\(World.drewN ((w.alloc (.cells #[.slice (some ⟨gv,0,none⟩) vl.length cv,.slice (some ⟨gt,0,none⟩) tg.length ct,.slice (some ⟨gr,0,none⟩) rd.length cr] 30)).alloc (.cells #[.slice xo vl.length cx,.slice yo tg.length cy,.slice eo rd.length ec] 30)) nq).ownsRow w0.heap.size 3 1 (.slice (some ⟨gr,0,none⟩) (rd.length+1) cr) (rd.length+1) (iv rd++[.int .i64 (-77)])/\(World.drewN ((w.alloc (.cells #[.slice (some ⟨gv,0,none⟩) vl.length cv,.slice (some ⟨gt,0,none⟩) tg.length ct,.slice (some ⟨gr,0,none⟩) rd.length cr] 30)).alloc (.cells #[.slice xo vl.length cx,.slice yo tg.length cy,.slice eo rd.length ec] 30)) nq).ownsRow w0.heap.size 64 3 (.slice (some ⟨gv,0,none⟩) (vl.length+1) cv) (vl.length+1) (vF vl++[.int .i64 (-77),.int .i64 0,.int .i64 0])):=
  ⟨⟨(hbd.block _ (blk_lt HS.out.1.1)).trans HS.out.1.1,(hbd.block _ (blk_lt HS.out.1.2)).trans HS.out.1.2⟩,HS.out.2.1.trans (hbd.mono HS.out.2.1.size),HS.out.2.2.1.trans (Fr.of_below (F:=[]) hbd) (fun x hx=>by cases hx),own_below HS.out.2.2.2.1 hbd,own_below HS.out.2.2.2.2.1 hbd,own_below HS.out.2.2.2.2.2 hbd⟩
 clear hbd HS
 generalize (World.drewN ((w.alloc (.cells #[.slice (some ⟨gv,0,none⟩) vl.length cv,.slice (some ⟨gt,0,none⟩) tg.length ct,.slice (some ⟨gr,0,none⟩) rd.length cr] 30)).alloc (.cells #[.slice xo vl.length cx,.slice yo tg.length cy,.slice eo rd.length ec] 30)) nq)=x0 at *
 go_loopg [5,6] vl.length (fun gq x y wr=>∃ k:Nat,k+gq=vl.length/\x=.bool true/\y=.int .i64 (k:Int)/\Below x0.heap.size x0 wr)
 case atStart=>exact ⟨0,by omega,rfl,rfl,Below.refl _ _⟩
 case round=>
  obtain ⟨k,hkg,rfl,rfl,hbr⟩:=hrel
  have HB:Hid (Below x0.heap.size x0 wr):=hbr
  obtain ⟨a0,a1,a2⟩:=cells3 ((hbr.block _ (blk_lt HS1.out.1.1)).trans HS1.out.1.1)
  obtain ⟨b0,b1,b2⟩:=cells3 ((hbr.block _ (blk_lt HS1.out.1.2)).trans HS1.out.1.2)
  by_cases hlt:k < vl.length
  ·have hk1:(k:Int) < (vl.length:Int):=by omega
   have HK:Hid (k+gk=vl.length/\k < vl.length):=⟨hkg,hlt⟩
   have hkc:(k:Int) < (cv:Int):=by omega
   obtain ⟨pg,pof,e1,c0,c1,c2⟩:=vals_three (IsVals.below (vals_of HS1.out.2.2.2.2.2) hbr) (List.getElem?_eq_getElem hlt)
   cases e1
   simp only [Nat.zero_add] at c0 c1 c2
   obtain ⟨qg,qof,rfl,q0,q1,q2⟩:=vals_three (IsVals.below HX.out.1 (HS1.out.2.1.trans (hbr.mono HS1.out.2.1.size))) (List.getElem?_eq_getElem hlt)
   generalize vl[k].1=v0 at *
   generalize vl[k].2.1=v1 at *
   generalize vl[k].2.2=v2 at *
   clear hkg hlt hbr
   go_wp2_with fail
   go_quiet (fail)
   go_wp2_with fail
   go_roundg (vl.length - (k+1))
   case measure=>have:=HK.out;omega
   case rel=>exact ⟨k+1,by have:=HK.out;omega,rfl,by go_num,HB.out.trans ((below_drewN _ _).mono HB.out.size)⟩
  ·have hk':decide (k < vl.length)=false:=decide_eq_false hlt
   have hk2:decide ((k:Int) < (vl.length:Int))=false:=decide_eq_false (by omega)
   have HS2:Hid ((wr.heap[w.heap.size]?=some (.cells #[.slice (some ⟨gv,0,none⟩) vl.length cv,.slice (some ⟨gt,0,none⟩) tg.length ct,.slice (some ⟨gr,0,none⟩) rd.length cr] 30 (0,0))/\wr.heap[w.heap.size+1]?=some (.cells #[.slice xo vl.length cx,.slice yo tg.length cy,.slice eo rd.length ec] 30 (0,0)))/\Below w0.heap.size w0 wr/\Fr [gv,gt,gr] w wr/\wr.ownsRow w0.heap.size 3 1 (.slice (some ⟨gt,0,none⟩) (tg.length+1) ct) (tg.length+1) (iv tg++[.int .i64 (-77)])/\wr.ownsRow w0.heap.size 3 1 (.slice (some ⟨gr,0,none⟩) (rd.length+1) cr) (rd.length+1) (iv rd++[.int .i64 (-77)])/\wr.ownsRow w0.heap.size 64 3 (.slice (some ⟨gv,0,none⟩) (vl.length+1) cv) (vl.length+1) (vF vl++[.int .i64 (-77),.int .i64 0,.int .i64 0])):=
    ⟨⟨(hbr.block _ (blk_lt HS1.out.1.1)).trans HS1.out.1.1,(hbr.block _ (blk_lt HS1.out.1.2)).trans HS1.out.1.2⟩,HS1.out.2.1.trans (hbr.mono HS1.out.2.1.size),HS1.out.2.2.1.trans (Fr.of_below (F:=[]) hbr) (fun x hx=>by cases hx),own_below HS1.out.2.2.2.1 hbr,own_below HS1.out.2.2.2.2.1 hbr,own_below HS1.out.2.2.2.2.2 hbr⟩
   clear hkg hlt hbr HS1 HB
   go_wp2_with fail
   clear a0 a1 a2 b0 b1 b2 hk' hk2
   obtain ⟨W2,rfl⟩:∃ W2,W2=wr:=⟨_,rfl⟩
   obtain ⟨cur,hcur,hszc,_,_⟩:=own_cells HS2.out.2.2.2.2.2
   have HC:Hid (W2.heap[gv]?=some (.cells cur 64 (0,0))/\cur.size=cv * 3):=⟨hcur,hszc⟩
   clear hcur hszc
   go_loopg [7] vl.length (fun gq x wr=>∃ (k:Nat) (cA:Array Value),k+gq=vl.length/\x=.int .i64 (k:Int)/\wr.heap[gv]?=some (.cells cA 64 (0,0))/\cA.size=cv * 3/\Fr [gv] W2 wr)
   case atStart=>exact ⟨0,cur,by omega,rfl,HC.out.1,HC.out.2,Fr.refl _ _⟩
   case round=>
    obtain ⟨k,cA,hkg,rfl,hcu,hsz,hFr⟩:=hrel
    have HG:Hid (k+gk=vl.length/\wr.heap[gv]?=some (.cells cA 64 (0,0))/\cA.size=cv * 3/\Fr [gv] W2 wr):=⟨hkg,hcu,hsz,hFr⟩
    have hbx:wr.heap[w.heap.size]?=some (.cells #[.slice (some ⟨gv,0,none⟩) vl.length cv,.slice (some ⟨gt,0,none⟩) tg.length ct,.slice (some ⟨gr,0,none⟩) rd.length cr] 30 (0,0)):=(hFr.block _ (blk_lt HS2.out.1.1) (by have:=HL.out;simp;omega)).trans HS2.out.1.1
    obtain ⟨a0,a1,a2⟩:=cells3 hbx
    by_cases hlt:k < vl.length
    ·have hk1:(k:Int) < (vl.length:Int):=by omega
     have hkc:(k:Int) < (cv:Int):=by have:=HCp.out;omega
     have HK:Hid (k < vl.length):=hlt
     have hin:k * 3+2 < cA.size:=by have:=HCp.out;omega
     obtain ⟨old0,c0⟩:∃ old,wr.cell? ⟨gv,k * 3,none⟩=some old:=⟨_,cell_in hcu (j:=k * 3) (by omega)⟩
     obtain ⟨old1,c1⟩:∃ old,wr.cell? ⟨gv,k * 3+1,none⟩=some old:=⟨_,cell_in hcu (j:=k * 3+1) (by omega)⟩
     obtain ⟨old2,c2⟩:∃ old,wr.cell? ⟨gv,k * 3+2,none⟩=some old:=⟨_,cell_in hcu (j:=k * 3+2) (by omega)⟩
     have f0:wr.frozen? ⟨gv,k * 3,none⟩=false:=by simp [World.frozen?,hcu]
     have f1:wr.frozen? ⟨gv,k * 3+1,none⟩=false:=by simp [World.frozen?,hcu]
     have f2:wr.frozen? ⟨gv,k * 3+2,none⟩=false:=by simp [World.frozen?,hcu]
     have HS3:Hid ((((wr.setCell ⟨gv,k * 3,none⟩ (.int .i64 1)).setCell ⟨gv,k * 3+1,none⟩ (.int .i64 0)).setCell ⟨gv,k * 3+2,none⟩ (.int .i64 0)).heap[gv]?=some (.cells (((cA.setIfInBounds (k * 3) (.int .i64 1)).setIfInBounds (k * 3+1) (.int .i64 0)).setIfInBounds (k * 3+2) (.int .i64 0)) 64 (0,0))/\Fr [gv] W2 (((wr.setCell ⟨gv,k * 3,none⟩ (.int .i64 1)).setCell ⟨gv,k * 3+1,none⟩ (.int .i64 0)).setCell ⟨gv,k * 3+2,none⟩ (.int .i64 0))):=⟨set_in (set_in (set_in hcu _) _) _,fr_set (fr_set (fr_set hFr _ _) _ _) _ _⟩
     clear hkg hcu hsz hFr hlt hbx hin
     go_wp2_with fail
     go_roundg (vl.length - (k+1))
     case measure=>have:=HG.out.1;have:=HK.out;omega
     case rel=>exact ⟨k+1,_,by have:=HK.out;have:=HG.out.1;omega,by go_num,HS3.out.1,by simpa using HG.out.2.2.1,HS3.out.2⟩
    ·have hk':decide (k < vl.length)=false:=decide_eq_false hlt
     have hk2:decide ((k:Int) < (vl.length:Int))=false:=decide_eq_false (by omega)
     have hbel:=frB HS2.out.2.1 hFr HL.out.2.2.1.2 (Nat.le_refl _)
     have hpx:wr.heap[w.heap.size+1]?=some (.cells #[.slice xo vl.length cx,.slice yo tg.length cy,.slice eo rd.length ec] 30 (0,0)):=(hFr.block _ (blk_lt HS2.out.1.2) (by have:=HL.out;simp;omega)).trans HS2.out.1.2
     have HS3:Hid ((wr.heap[w.heap.size]?=some (.cells #[.slice (some ⟨gv,0,none⟩) vl.length cv,.slice (some ⟨gt,0,none⟩) tg.length ct,.slice (some ⟨gr,0,none⟩) rd.length cr] 30 (0,0))/\wr.heap[w.heap.size+1]?=some (.cells #[.slice xo vl.length cx,.slice yo tg.length cy,.slice eo rd.length ec] 30 (0,0)))/\Below w0.heap.size w0 wr/\Fr [gv,gt,gr] w wr/\wr.ownsRow w0.heap.size 3 1 (.slice (some ⟨gr,0,none⟩) (rd.length+1) cr) (rd.length+1) (iv rd++[.int .i64 (-77)])):=⟨⟨hbx,hpx⟩,hbel,HS2.out.2.2.1.trans hFr (fun x hx=>Or.inl (by simp at hx;simp [hx])),own_other HS2.out.2.2.2.2.1 hFr HL.out.2.2.2.2.2⟩
     have HKt:=show Hid _ from keptJ_any (c:=cy) (own_other HS2.out.2.2.2.1 hFr HL.out.2.2.2.2.1) (IsVals.below HX.out.2.1 hbel) (by have:=HX.out.2.2.2.1;omega)
     obtain ⟨b0,b1,b2⟩:=cells3 hpx
     clear hkg hcu hsz hFr hlt hbx hbel hpx HS2
     go_wp2_with fail
     refine Calls.mono HKt.out ?_
     rintro e w3 ⟨rfl,hF3⟩
     have hbx:w3.heap[w.heap.size]?=some (.cells #[.slice (some ⟨gv,0,none⟩) vl.length cv,.slice (some ⟨gt,0,none⟩) tg.length ct,.slice (some ⟨gr,0,none⟩) rd.length cr] 30 (0,0)):=(hF3.block _ (blk_lt HS3.out.1.1) (by have:=HL.out;simp;omega)).trans HS3.out.1.1
     have hpx:w3.heap[w.heap.size+1]?=some (.cells #[.slice xo vl.length cx,.slice yo tg.length cy,.slice eo rd.length ec] 30 (0,0)):=(hF3.block _ (blk_lt HS3.out.1.2) (by have:=HL.out;simp;omega)).trans HS3.out.1.2
     have hbel:=frB HS3.out.2.1 hF3 HL.out.1.2 (Nat.le_refl _)
     have HF3:Hid (Fr [gv,gt,gr] w w3):=HS3.out.2.2.1.trans hF3 (fun x hx=>Or.inl (by simp at hx;simp [hx]))
     have HKr:=show Hid _ from keptJ_any (c:=ec) (own_other HS3.out.2.2.2 hF3 HL.out.2.2.2.1.symm) (IsVals.below HX.out.2.2.1 hbel) HX.out.2.2.2.2
     clear a0 a1 a2 b0 b1 b2 hF3 hbel HKt HS3
     obtain ⟨a0,a1,a2⟩:=cells3 hbx
     obtain ⟨b0,b1,b2⟩:=cells3 hpx
     clear hbx hpx
     go_wp2_with fail
     refine Calls.mono HKr.out ?_
     rintro e w4 ⟨rfl,hF4⟩
     have HF4:Hid (Fr [gv,gt,gr] w w4):=HF3.out.trans hF4 (fun x hx=>Or.inl (by simp at hx;simp [hx]))
     clear hF4 HKr a0 a1 a2 b0 b1 b2
     go_wp2
     go_ret
     exact ⟨rfl,HF4.out⟩
end Go.Proofs.YtinjccfhhdidiaaGreat.Nm
