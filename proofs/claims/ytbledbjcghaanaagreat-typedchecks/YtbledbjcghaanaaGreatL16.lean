import Derived.Test.YtbledbjcghaanaaGreatL15
import Derived.Test.YtbledbjcghaanaaGreatTl
set_option maxHeartbeats 25600000
set_option maxRecDepth 100000
namespace Go.Proofs.YtbledbjcghaanaaGreat.Nm.Ty
open Go.RowKit Go.Maps Sp Lx Gr Nm
theorem own_blk {W:World} {base g m sz:Nat} {T:TypeId} {xs:List Value} (h:W.ownsRow base T sz (.slice (pZ g) m m) m xs):W.heap[g]?=some (.cells xs.toArray T (0,0))/\base<=g/\g < W.heap.size:=by
 obtain ⟨hx,h1⟩:=h;rcases h1 with ⟨e,_⟩ | ⟨g',cap,cur,e,h2,h3,h4,h5,h6,h7⟩
 ·cases e
 ·cases e;have e1:cur=xs.toArray:=by
   apply Array.toList_inj.1
   rw [<-h7,<-h6];exact (List.take_of_length_le (by simp)).symm
  rw [e1] at h3;exact ⟨h3,h2,blk_lt h3⟩
structure Lb8 (w:World) (base:Nat) (p:Pg) (g gq gv gt gu go:Nat):Prop where
 r:RowZ w g (fillL p.rows 9)
 q:w.heap[gq]?=some (.cells (qF (p.qs++List.replicate 3 qz0)).toArray 77 (0,0))
 v:w.heap[gv]?=some (.cells ((p.vs++List.replicate 3 (⟨#[]⟩:ByteArray)).map Value.string).toArray 9 (0,0))
 t:w.heap[gt]?=some (.cells ((p.ts++List.replicate 3 (⟨#[]⟩:ByteArray)).map Value.string).toArray 9 (0,0))
 u:RowJ w gu (fillI p.us 5)
 o:RowJ w go (fillI p.on 5)
 n:base<=g/\base<=gq/\base<=gv/\base<=gt/\base<=gu/\base<=go
 d:(g ≠ gq/\g ≠ gv/\g ≠ gt/\g ≠ gu/\g ≠ go)/\(gq ≠ gv/\gq ≠ gt/\gq ≠ gu/\gq ≠ go)/\(gv ≠ gt/\gv ≠ gu/\gv ≠ go)/\(gt ≠ gu/\gt ≠ go)/\gu ≠ go
theorem lb_of {w:World} {base:Nat} {p:Pg} {g gq gv gt gu go:Nat} (h:Ls w base (los8 p g gq gv gt gu go)):Lb8 w base p g gq gv gt gu go:=by
 obtain ⟨ho,hd⟩:=h;have h1:=own_blk (ho _ (List.mem_cons_self ..));have h2:=own_blk (ho _ (List.mem_cons_of_mem _ (List.mem_cons_self ..)));have h3:=own_blk (ho _ (List.mem_cons_of_mem _ (List.mem_cons_of_mem _ (List.mem_cons_self ..))));have h4:=own_blk (ho _ (List.mem_cons_of_mem _ (List.mem_cons_of_mem _ (List.mem_cons_of_mem _ (List.mem_cons_self ..)))));have h5:=own_blk (ho _ (List.mem_cons_of_mem _ (List.mem_cons_of_mem _ (List.mem_cons_of_mem _ (List.mem_cons_of_mem _ (List.mem_cons_self ..))))));have h6:=own_blk (ho _ (List.mem_cons_of_mem _ (List.mem_cons_of_mem _ (List.mem_cons_of_mem _ (List.mem_cons_of_mem _ (List.mem_cons_of_mem _ (List.mem_cons_self ..)))))));refine ⟨h1.1,h2.1,h3.1,h4.1,h5.1,h6.1,⟨h1.2.1,h2.2.1,h3.2.1,h4.2.1,h5.2.1,h6.2.1⟩,?_⟩;simp [los8,Value.ownBlock] at hd;omega
theorem Lb8.rd {w:World} {base:Nat} {p:Pg} {g gq gv gt gu go:Nat} (h:Lb8 w base p g gq gv gt gu go):RdG w p (pZ g) (pZ gq) (pZ gv) (pZ gt) (pZ gu) (pZ go):=
 ⟨RowZ.reads h.r,copied_vals (ys:=qF (List.replicate 3 qz0)) (by rw [<-qF_app];exact h.q),copied_vals (ys:=(List.replicate 3 (⟨#[]⟩:ByteArray)).map Value.string) (by rw [<-List.map_append];exact h.v),copied_vals (ys:=(List.replicate 3 (⟨#[]⟩:ByteArray)).map Value.string) (by rw [<-List.map_append];exact h.t),RowJ.vals h.u,RowJ.vals h.o⟩
theorem Lb8.keep {w w':World} {base:Nat} {p:Pg} {g gq gv gt gu go:Nat} (h:Lb8 w base p g gq gv gt gu go) (hk:∀ k,k < w.heap.size->base<=k->w'.heap[k]?=w.heap[k]?):Lb8 w' base p g gq gv gt gu go:=
 ⟨(hk _ h.r.lt h.n.1).trans h.r,(hk _ (blk_lt h.q) h.n.2.1).trans h.q,(hk _ (blk_lt h.v) h.n.2.2.1).trans h.v,(hk _ (blk_lt h.t) h.n.2.2.2.1).trans h.t,(hk _ h.u.lt h.n.2.2.2.2.1).trans h.u,(hk _ h.o.lt h.n.2.2.2.2.2).trans h.o,h.n,h.d⟩
theorem Lb8.below {w w':World} {base:Nat} {p:Pg} {g gq gv gt gu go:Nat} (h:Lb8 w base p g gq gv gt gu go) (hb:Below w.heap.size w w'):Lb8 w' base p g gq gv gt gu go:=h.keep fun k hk _=>hb.block k hk
structure K8 (w0 w X:World) (ca cb:Array Value) (F:List Nat):Prop where
 a:X.heap[w.heap.size]?=some (.cells ca 27 (0,0))
 b:X.heap[w.heap.size+1]?=some (.cells cb 27 (0,0))
 fr:Fr F w X
 be:Below w0.heap.size w0 X
theorem K8.below {w0 w X Y:World} {ca cb:Array Value} {F:List Nat} (h:K8 w0 w X ca cb F) (hb:Below X.heap.size X Y):K8 w0 w Y ca cb F:=
 ⟨(hb.block _ (blk_lt h.a)).trans h.a,(hb.block _ (blk_lt h.b)).trans h.b,h.fr.trans (Fr.of_below (F:=[]) hb) (fun x hx=>by cases hx),h.be.trans (hb.mono h.be.size)⟩
theorem K8.step {w0 w X Y:World} {ca cb:Array Value} {F:List Nat} {x:Nat} (h:K8 w0 w X ca cb F) (hF:Fr [x] X Y) (hx:x ∈ F) (hw:x < w.heap.size) (h0:w0.heap.size<=x):K8 w0 w Y ca cb F:=
 ⟨(hF.block _ (blk_lt h.a) (by simp;omega)).trans h.a,(hF.block _ (blk_lt h.b) (by simp;omega)).trans h.b,h.fr.trans hF (fun y hy=>by simp at hy;subst hy;exact Or.inl hx),h.be.trans ⟨hF.os,hF.tape,hF.output,hF.size,fun k hk=>hF.block k (by have:=h.be.size;omega) (by simp;omega)⟩⟩
theorem k8_start {w0 w:World} {F:List Nat} (hb:Below w0.heap.size w0 w) (ca cb:Array Value):K8 w0 w ((w.alloc (.cells ca 27)).alloc (.cells cb 27)) ca cb F:=
 have h:=bx8_start w ca cb
 ⟨h.a,h.b,Fr.of_below h.be,hb.trans (h.be.mono hb.size)⟩
theorem kept8 {w0 w:World} {p:Pg} {ao qo vo tto uo oo:Option Addr} {ac qc vc tc uc oc g gq gv gt gu go:Nat} (h:RdG w0 p ao qo vo tto uo oo) (hb:Below w0.heap.size w0 w) (hL:Lb8 w w0.heap.size p g gq gv gt gu go) (hs:Lm p):
  Calls Tryz.prog 13 #[lent8 p g gq gv gt gu go,pvG p ao qo vo tto uo oo ac qc vc tc uc oc] w fun e w'=>e=.returned (.bool true)/\Fr [g,gq,gv,gt,gu,go] w w':=by
 dsimp only [pvG,lent8];have HD:=hdn <| h;have HS:=hdn <| hs;have HL:=hdn <| hL;have HLt:Hid ((g < w.heap.size/\gq < w.heap.size/\gv < w.heap.size/\gt < w.heap.size/\gu < w.heap.size/\go < w.heap.size)):=⟨hL.r.lt,blk_lt hL.q,blk_lt hL.v,blk_lt hL.t,hL.u.lt,hL.o.lt⟩;have HX:Hid (K8 w0 w ((w.alloc (.cells (pC p (pZ g) (p.rows.length+9) (pZ gq) (p.qs.length+3) (pZ gv) (p.vs.length+3) (pZ gt) (p.ts.length+3) (pZ gu) (p.us.length+5) (pZ go) (p.on.length+5)) 27)).alloc (.cells (pC p ao ac qo qc vo vc tto tc uo uc oo oc) 27)) (pC p (pZ g) (p.rows.length+9) (pZ gq) (p.qs.length+3) (pZ gv) (p.vs.length+3) (pZ gt) (p.ts.length+3) (pZ gu) (p.us.length+5) (pZ go) (p.on.length+5)) (pC p ao ac qo qc vo vc tto tc uo uc oo oc) [g,gq,gv,gt,gu,go]):=k8_start hb _ _;have hbA:Below w.heap.size w ((w.alloc (.cells (pC p (pZ g) (p.rows.length+9) (pZ gq) (p.qs.length+3) (pZ gv) (p.vs.length+3) (pZ gt) (p.ts.length+3) (pZ gu) (p.us.length+5) (pZ go) (p.on.length+5)) 27)).alloc (.cells (pC p ao ac qo qc vo vc tto tc uo uc oo oc) 27)):=(bx8_start w _ _).be;have HLa:=hdn <| hL.below hbA;have HSm:=hdn <| same8 (ac2:=p.rows.length+9) (qc2:=p.qs.length+3) (vc2:=p.vs.length+3) (tc2:=p.ts.length+3) (uc2:=p.us.length+5) (oc2:=p.on.length+5) (ac:=ac) (qc:=qc) (vc:=vc) (tc:=tc) (uc:=uc) (oc:=oc) HLa.out.rd (HD.out.below HX.out.be) hs;obtain ⟨a0,a1,a2,a3,a4,a5,a6,a7⟩:=zr8 HX.out.a;obtain ⟨b0,b1,b2,b3,b4,b5,b6,b7⟩:=zr8 HX.out.b;have hn1:(p.rows.length:Int)<=2932031007317:=by have:=hs.r;omega
 have hn2:(p.qs.length:Int)<=5864062014634:=by have:=hs.q;omega
 clear h hb hL hs hbA;go_enter Tryz.func13,Tryz.ntmps13;go_wp2_with fail;generalize ((w.alloc (.cells (pC p (pZ g) (p.rows.length+9) (pZ gq) (p.qs.length+3) (pZ gv) (p.vs.length+3) (pZ gt) (p.ts.length+3) (pZ gu) (p.us.length+5) (pZ go) (p.on.length+5)) 27)).alloc (.cells (pC p ao ac qo qc vo vc tto tc uo uc oo oc) 27))=x0 at *;refine Calls.mono HSm.out ?_;rintro e x1 ⟨rfl,hb⟩;have HX:=hdn <| HX.out.below hb;have HLb:=hdn <| HLa.out.below hb;clear hb HSm HLa;clear a0 a1 a2 a3 a4 a5 a6 a7 b0 b1 b2 b3 b4 b5 b6 b7;have Hu:Hid (RowJ x1 gu (fillI p.us 5)):=HLb.out.u;have Ho:Hid (RowJ x1 go (fillI p.on 5)):=HLb.out.o;have Hv:Hid (x1.heap[gv]?=some (.cells ((p.vs++List.replicate 3 (⟨#[]⟩:ByteArray)).map Value.string).toArray 9 (0,0))):=HLb.out.v;have Ht:Hid (x1.heap[gt]?=some (.cells ((p.ts++List.replicate 3 (⟨#[]⟩:ByteArray)).map Value.string).toArray 9 (0,0))):=HLb.out.t;have Hr:Hid (RowZ x1 g (fillL p.rows 9)):=HLb.out.r;have Hq:Hid (x1.heap[gq]?=some (.cells (qF (p.qs++List.replicate 3 qz0)).toArray 77 (0,0))):=HLb.out.q;clear HLb;obtain ⟨a0,a1,a2,a3,a4,a5,a6,a7⟩:=zr8 HX.out.a;obtain ⟨b0,b1,b2,b3,b4,b5,b6,b7⟩:=zr8 HX.out.b;go_wp2_with fail;refine Calls.mono (kept17 (g:=gu) (c:=uc) Hu.out (RdG.u HD.out |>.below HX.out.be) (by have:=Lm.u HS.out;omega)) ?_
 rintro e x2 ⟨rfl,hF⟩;have Ho:Hid (RowJ x2 go (fillI p.on 5)):=(hF.block go (blk_lt Ho.out) (by have:=HL.out.d;simp;omega)).trans Ho.out
 have Hv:Hid (x2.heap[gv]?=some (.cells ((p.vs++List.replicate 3 (⟨#[]⟩:ByteArray)).map Value.string).toArray 9 (0,0))):=(hF.block gv (blk_lt Hv.out) (by have:=HL.out.d;simp;omega)).trans Hv.out
 have Ht:Hid (x2.heap[gt]?=some (.cells ((p.ts++List.replicate 3 (⟨#[]⟩:ByteArray)).map Value.string).toArray 9 (0,0))):=(hF.block gt (blk_lt Ht.out) (by have:=HL.out.d;simp;omega)).trans Ht.out
 have Hr:Hid (RowZ x2 g (fillL p.rows 9)):=(hF.block g (blk_lt Hr.out) (by have:=HL.out.d;simp;omega)).trans Hr.out
 have Hq:Hid (x2.heap[gq]?=some (.cells (qF (p.qs++List.replicate 3 qz0)).toArray 77 (0,0))):=(hF.block gq (blk_lt Hq.out) (by have:=HL.out.d;simp;omega)).trans Hq.out
 have HX:=hdn <| HX.out.step hF (by simp) (by have:=HLt.out;omega) (by have:=HL.out.n;omega)
 clear hF Hu;clear a0 a1 a2 a3 a4 a5 a6 a7 b0 b1 b2 b3 b4 b5 b6 b7;obtain ⟨a0,a1,a2,a3,a4,a5,a6,a7⟩:=zr8 HX.out.a;obtain ⟨b0,b1,b2,b3,b4,b5,b6,b7⟩:=zr8 HX.out.b;go_wp2_with fail;refine Calls.mono (kept17 (g:=go) (c:=oc) Ho.out (RdG.o HD.out |>.below HX.out.be) (by have:=Lm.o HS.out;omega)) ?_
 rintro e x3 ⟨rfl,hF⟩;have Hv:Hid (x3.heap[gv]?=some (.cells ((p.vs++List.replicate 3 (⟨#[]⟩:ByteArray)).map Value.string).toArray 9 (0,0))):=(hF.block gv (blk_lt Hv.out) (by have:=HL.out.d;simp;omega)).trans Hv.out
 have Ht:Hid (x3.heap[gt]?=some (.cells ((p.ts++List.replicate 3 (⟨#[]⟩:ByteArray)).map Value.string).toArray 9 (0,0))):=(hF.block gt (blk_lt Ht.out) (by have:=HL.out.d;simp;omega)).trans Ht.out
 have Hr:Hid (RowZ x3 g (fillL p.rows 9)):=(hF.block g (blk_lt Hr.out) (by have:=HL.out.d;simp;omega)).trans Hr.out
 have Hq:Hid (x3.heap[gq]?=some (.cells (qF (p.qs++List.replicate 3 qz0)).toArray 77 (0,0))):=(hF.block gq (blk_lt Hq.out) (by have:=HL.out.d;simp;omega)).trans Hq.out
 have HX:=hdn <| HX.out.step hF (by simp) (by have:=HLt.out;omega) (by have:=HL.out.n;omega)
 clear hF Ho;clear a0 a1 a2 a3 a4 a5 a6 a7 b0 b1 b2 b3 b4 b5 b6 b7;obtain ⟨a0,a1,a2,a3,a4,a5,a6,a7⟩:=zr8 HX.out.a;obtain ⟨b0,b1,b2,b3,b4,b5,b6,b7⟩:=zr8 HX.out.b;go_wp2_with fail;refine Calls.mono (spare8 (g:=gv) (c:=vc) Hv.out (RdG.v HD.out |>.below HX.out.be) (by have:=Lm.v HS.out;omega)) ?_
 rintro e x4 ⟨rfl,hF⟩;have Ht:Hid (x4.heap[gt]?=some (.cells ((p.ts++List.replicate 3 (⟨#[]⟩:ByteArray)).map Value.string).toArray 9 (0,0))):=(hF.block gt (blk_lt Ht.out) (by have:=HL.out.d;simp;omega)).trans Ht.out
 have Hr:Hid (RowZ x4 g (fillL p.rows 9)):=(hF.block g (blk_lt Hr.out) (by have:=HL.out.d;simp;omega)).trans Hr.out
 have Hq:Hid (x4.heap[gq]?=some (.cells (qF (p.qs++List.replicate 3 qz0)).toArray 77 (0,0))):=(hF.block gq (blk_lt Hq.out) (by have:=HL.out.d;simp;omega)).trans Hq.out
 have HX:=hdn <| HX.out.step hF (by simp) (by have:=HLt.out;omega) (by have:=HL.out.n;omega)
 clear hF Hv;clear a0 a1 a2 a3 a4 a5 a6 a7 b0 b1 b2 b3 b4 b5 b6 b7;obtain ⟨a0,a1,a2,a3,a4,a5,a6,a7⟩:=zr8 HX.out.a;obtain ⟨b0,b1,b2,b3,b4,b5,b6,b7⟩:=zr8 HX.out.b;go_wp2_with fail;refine Calls.mono (spare8 (g:=gt) (c:=tc) Ht.out (RdG.t HD.out |>.below HX.out.be) (by have:=Lm.t HS.out;omega)) ?_
 rintro e x5 ⟨rfl,hF⟩;have Hr:Hid (RowZ x5 g (fillL p.rows 9)):=(hF.block g (blk_lt Hr.out) (by have:=HL.out.d;simp;omega)).trans Hr.out
 have Hq:Hid (x5.heap[gq]?=some (.cells (qF (p.qs++List.replicate 3 qz0)).toArray 77 (0,0))):=(hF.block gq (blk_lt Hq.out) (by have:=HL.out.d;simp;omega)).trans Hq.out
 have HX:=hdn <| HX.out.step hF (by simp) (by have:=HLt.out;omega) (by have:=HL.out.n;omega)
 clear hF Ht;clear a0 a1 a2 a3 a4 a5 a6 a7 b0 b1 b2 b3 b4 b5 b6 b7;obtain ⟨a0,a1,a2,a3,a4,a5,a6,a7⟩:=zr8 HX.out.a;obtain ⟨b0,b1,b2,b3,b4,b5,b6,b7⟩:=zr8 HX.out.b;go_wp2_with fail;clear a0 a1 a2 a3 a4 a5 a6 a7 b0 b1 b2 b3 b4 b5 b6 b7
 go_loopg [5,7] (p.rows.length+9) (fun gq' a x wy=>a=.bool true/\∃ (j:Nat) (L:List Rz),j+gq'=p.rows.length+9/\x=I (j:Int)/\RowZ wy g L/\L.length=p.rows.length+9/\(∀ i,j<=i->L[i]?=(fillL p.rows 9)[i]?)/\Fr [g] x5 wy)
 case atStart=>exact ⟨rfl,0,_,by omega,rfl,Hr.out,fillL_len _ _ (Nat.le_refl _),fun i _=>rfl,Fr.refl _ _⟩
 case round=>
  obtain ⟨rfl,j,L,hjg,rfl,hc,hsz,hat,hFr⟩:=hrel;have HJ:Hid (j+gk=p.rows.length+9/\L.length=p.rows.length+9/\Fr [g] x5 wr):=⟨hjg,hsz,hFr⟩;have HX1:=hdn <| HX.out.step hFr (by simp) (by have:=HLt.out;omega) (by have:=HL.out.n;omega)
  have b1:=(zr8 HX1.out.b).2.1;by_cases hjl:j < p.rows.length+9
  ·have hj':(j:Int) < (p.rows.length:Int)+9:=by omega
   obtain ⟨r,hr⟩:∃ r,L[j]?=some r:=⟨_,List.getElem?_eq_getElem (by omega)⟩
   have hr2:¬ j < p.rows.length->r=mkL j:=fun hn=>by
    have h1:=fillL_mark p.rows (j - p.rows.length) (by omega)
    rw [show p.rows.length+(j - p.rows.length)=j by omega,<-hat j (Nat.le_refl _),hr] at h1
    cases h1;rfl
   obtain ⟨c0,c1,c2,c3,c4⟩:=hc.cells hr;have hf:=hc.frozen;have HS2:Hid (RowZ (storeRow wr g j ⟨23,⟨#[]⟩,0,0,0⟩) g (L.set j ⟨23,⟨#[]⟩,0,0,0⟩)):=hc.set hr _;have HLj:Hid (j < p.rows.length+9):=hjl;have HN:Hid (∀ i,j+1<=i->(L.set j (⟨23,⟨#[]⟩,0,0,0⟩:Rz))[i]?=(fillL p.rows 9)[i]?):=fun i hi=>by
    rw [List.getElem?_set_ne (by omega)]
    exact hat i (by omega)
   have HF2:Hid (Fr [g] x5 (storeRow wr g j ⟨23,⟨#[]⟩,0,0,0⟩)):=by
    have k0:∀ (W:World) (i:Nat) (v:Value),Fr [g] x5 W->Fr [g] x5 (W.setCell ⟨g,i,none⟩ v):=fun W i v h=>h.trans (Fr.set (F:=[g]) W i v (by simp)) (fun x hx=>Or.inl hx)
    exact k0 _ _ _ (k0 _ _ _ (k0 _ _ _ (k0 _ _ _ (k0 _ _ _ hFr))))
   clear hjg hc hsz hat hFr hr;by_cases hll:j < p.rows.length
   rotate_right
   focus
    obtain rfl:=hr2 hll;have hl':¬ (j:Int) < (p.rows.length:Int):=by omega
    simp only [mkL] at c0 c1 c2 c3 c4
   rotate_right
   focus
    have hl':(j:Int) < (p.rows.length:Int):=by omega
   all_goals
    clear hr2;go_wp2_with fail;go_roundg (p.rows.length+9 - (j+1))
    case measure=>have:=HJ.out.1;have:=HLj.out;omega
    case rel=>exact ⟨by simp,j+1,_,by have:=HLj.out;omega,by go_num,HS2.out,by simpa using HJ.out.2.1,HN.out,HF2.out⟩
  ·have hj':¬ ((j:Int) < (p.rows.length:Int)+9):=by omega
   have HQ:Hid (wr.heap[gq]?=some (.cells (qF (p.qs++List.replicate 3 qz0)).toArray 77 (0,0))):=(hFr.block gq (blk_lt Hq.out) (by have:=HL.out.d;simp;omega)).trans Hq.out
   clear hjg hc hsz hat hFr Hq b1 HX HJ;obtain ⟨a0,a1,a2,a3,a4,a5,a6,a7⟩:=zr8 HX1.out.a;obtain ⟨b0,b1,b2,b3,b4,b5,b6,b7⟩:=zr8 HX1.out.b;go_wp2_with fail;clear a0 a1 a2 a3 a4 a5 a6 a7 b0 b1 b2 b3 b4 b5 b6 b7;obtain ⟨x6,rfl⟩:∃ x6,x6=wr:=⟨_,rfl⟩
   go_loopg [5,9] (p.qs.length+3) (fun gq' a x wy=>a=.bool true/\∃ (j:Nat) (cA:Array Value),j+gq'=p.qs.length+3/\x=I (j:Int)/\wy.heap[gq]?=some (.cells cA 77 (0,0))/\cA.size=(p.qs.length+3) * 2/\(∀ i,j * 2<=i->cA[i]?=(qF (p.qs++List.replicate 3 qz0))[i]?)/\Fr [gq] x6 wy)
   case atStart=>exact ⟨rfl,0,_,by omega,rfl,HQ.out,by rw [List.size_toArray,qF_len];simp,fun i _=>by simp,Fr.refl _ _⟩
   case round=>
    obtain ⟨rfl,j,cA,hjg,rfl,hc,hsz,hat,hFr⟩:=hrel;have HJ:Hid (j+gk=p.qs.length+3/\cA.size=(p.qs.length+3) * 2/\Fr [gq] x6 wr):=⟨hjg,hsz,hFr⟩;have HX2:=hdn <| HX1.out.step hFr (by simp) (by have:=HLt.out;omega) (by have:=HL.out.n;omega)
    have b2:=(zr8 HX2.out.b).2.2.1;by_cases hjl:j < p.qs.length+3
    ·have hj':(j:Int) < (p.qs.length:Int)+3:=by omega
     obtain ⟨r,hr⟩:∃ r,(p.qs++List.replicate 3 qz0)[j]?=some r:=⟨_,List.getElem?_eq_getElem (by simp;omega)⟩
     have hr2:¬ j < p.qs.length->r=qz0:=fun hn=>by
      rw [List.getElem?_append_right (by omega),List.getElem?_replicate,if_pos (by omega)] at hr
      cases hr;rfl
     obtain ⟨q1,q2⟩:=qF_two _ j r hr;rw [<-hat _ (by omega)] at q1 q2
     have c0:wr.cell? ⟨gq,j * 2,none⟩=some (.string r.1):=by rw [World.cell?,hc];exact q1
     have c1:wr.cell? ⟨gq,j * 2+1,none⟩=some (.bool r.2):=by rw [World.cell?,hc];exact q2
     have hf:=zr8f hc;have HLj:Hid (j < p.qs.length+3):=hjl;have HS2:Hid (((wr.setCell ⟨gq,j * 2,none⟩ (.string ⟨#[115,112,111,105,108,116]⟩)).setCell ⟨gq,j * 2+1,none⟩ (.bool !r.2)).heap[gq]?=some (.cells ((cA.setIfInBounds (j * 2) (.string ⟨#[115,112,111,105,108,116]⟩)).setIfInBounds (j * 2+1) (.bool !r.2)) 77 (0,0))):=heap_setCell_same _ gq (j * 2+1) _ _ _ (heap_setCell_same wr gq (j * 2) cA _ _ hc);have HN:Hid (∀ i,(j+1) * 2<=i->((cA.setIfInBounds (j * 2) (.string ⟨#[115,112,111,105,108,116]⟩)).setIfInBounds (j * 2+1) (.bool !r.2))[i]?=(qF (p.qs++List.replicate 3 qz0))[i]?):=fun i hi=>by
      rw [Array.getElem?_setIfInBounds_ne (by omega),Array.getElem?_setIfInBounds_ne (by omega)]
      exact hat i (by omega)
     have HF2:Hid (Fr [gq] x6 ((wr.setCell ⟨gq,j * 2,none⟩ (.string ⟨#[115,112,111,105,108,116]⟩)).setCell ⟨gq,j * 2+1,none⟩ (.bool !r.2))):=by
      have k0:∀ (W:World) (i:Nat) (v:Value),Fr [gq] x6 W->Fr [gq] x6 (W.setCell ⟨gq,i,none⟩ v):=fun W i v h=>h.trans (Fr.set (F:=[gq]) W i v (by simp)) (fun x hx=>Or.inl hx)
      exact k0 _ _ _ (k0 _ _ _ hFr)
     clear hjg hc hsz hat hFr hr q1 q2;by_cases hll:j < p.qs.length
     rotate_right
     focus
      obtain rfl:=hr2 hll;have hl':¬ (j:Int) < (p.qs.length:Int):=by omega
      simp only [qz0] at c0 c1
     rotate_right
     focus
      have hl':(j:Int) < (p.qs.length:Int):=by omega
     all_goals
      clear hr2;go_wp2_with fail;go_roundg (p.qs.length+3 - (j+1))
      case measure=>have:=HJ.out.1;have:=HLj.out;omega
      case rel=>exact ⟨by simp,j+1,_,by have:=HLj.out;omega,by go_num,HS2.out,by simpa using HJ.out.2.1,HN.out,HF2.out⟩
    ·have hj':¬ ((j:Int) < (p.qs.length:Int)+3):=by omega
     clear hjg hc hsz hat hFr b2;go_wp2_with fail;go_ret;exact ⟨rfl,HX2.out.fr⟩
end Go.Proofs.YtbledbjcghaanaaGreat.Nm.Ty
namespace Go.Proofs.YtbledbjcghaanaaGreat.Nm.Ty
open Go.RowKit Go.Maps Sp Lx Gr
inductive Prt where
 | dng (a b c:Int)
 | wri (t n:Int)
 | cpy (q:Int)
 | siz
 | chg (t:Int)
 | rck (k:Int)
 | cmp (k:Int)
 | joi (k:Int)
 | lik (k:Int)
def askA (k:Int):Int:=if k=4 then 1 else if k=5\/k=14 then 1 else if k=15 then 0 else if k=13 then 1 else if k=6\/k=12 then 2 else 0
def askB (k:Int):Int:=if k=4 then 1 else if k=5\/k=14 then 0 else if k=15 then 1 else if k=13 then 2 else 0
def askC (k:Int):Int:=if k=4 then 1 else 0
def pOf (k n:Int):Prt:=
 if k=27 then .wri 1 n else if k=29 then .wri 2 1 else if k=30 then .wri 2 0 else if k=32 then .cpy n else if k=33 then .siz
 else if k=28\/k=31\/k=34\/k=38 then .chg 1 else if k=35\/k=36\/k=37 then .chg 2
 else if k=39\/k=40\/k=41\/k=43\/k=44\/k=45\/k=46 then .rck k
 else if k=49\/k=50\/k=51\/k=52 then .cmp k else if k=42\/k=53\/k=54 then .joi k else if k=47\/k=48 then .lik k
 else .dng (askA k) (askB k) (askC k)
def Prt.is:Prt->Int
 | .dng _ _ _=>0
 | .wri t _=>t
 | .cpy _=>1
 | .siz=>1
 | .chg t=>t
 | .rck _=>1
 | .cmp _=>2
 | .joi _=>2
 | .lik _=>2
def clampZ (n:Int):Int:=max (-1073741824) (min n 1073741824)
def divZ (a b:Int):Int:=if b=0 then 0 else if b=-1 then -clampZ a else clampZ (a.tdiv b - if a.tmod b ≠ 0/\¬ ((a.tmod b < 0) ↔ (b < 0)) then 1 else 0)
def oneZ (b:Bool):Int:=if b then 1 else 0
def Prt.asked (x:Prt) (kid:Nat) (first:Int):Int:=match x with
 | .dng a b c=>if kid=0 then a else if kid=1 then b else if kid=2 then c else 0
 | .rck _=>1
 | .cmp _=>1
 | .joi _=>2
 | .lik _=>if kid=1 then first else 0
 | _=>0
def Prt.changing:Prt->Bool
 | .chg _=>true
 | _=>false
def rP (l:List Rz) (i:Nat):Prt:=pOf (rat l i).kind (rat l i).n
def setF (f:Nat->Int) (j:Nat) (x:Int):Nat->Int:=fun i=>if i=j then x else f i
def askRow (l:List Rz) (i:Nat) (f:Nat->Int):Nat->Nat->Int
 | 0=>f
 | k+1=>setF (askRow l i f k) (kidp l i k) ((rP l i).asked k (rP l (i+1)).is)
def asksN (l:List Rz):Nat->Nat->Int
 | 0=>fun _=>0
 | n+1=>askRow l n (asksN l n) (km l n)
def tillZ (l:List Rz) (i:Nat):Nat:=let k:=(rat l i).kind;if k=4\/k=5\/k=6 then endp l i else if k=13 then endp l (i+1) else 0
def conN (l:List Rz):Nat->Nat
 | 0=>0
 | n+1=>max (conN l n) (tillZ l n)
def ghZ (l:List Rz) (gh:Nat->Bool) (i:Nat):Bool:=gh (rat l i).n.toNat
def othZ (l:List Rz) (gh:Nat->Bool) (i:Nat):Bool:=let k:=(rat l i).kind
 if k=8\/k=17\/k=20 then ghZ l gh i else if k=9\/k=21 then !ghZ l gh i
 else if k=24 then (if (rat l (i - 1)).kind=20 then !ghZ l gh i else ghZ l gh i != ghZ l gh (i - 1)) else false
def fltZ (l:List Rz) (gh:Nat->Bool) (i:Nat):Nat:=
 if asksN l l.length i ≠ 0/\asksN l l.length i ≠ (rP l i).is then 41 else if i < conN l i/\(rP l i).changing=true then 42 else if othZ l gh i=true then 46 else 0
def fltN (l:List Rz) (gh:Nat->Bool):Nat->Nat × Nat
 | 0=>(0,0)
 | n+1=>if (fltN l gh n).1 ≠ 0 then fltN l gh n else if fltZ l gh n ≠ 0 then (fltZ l gh n,n) else (0,0)
def Prt.T:Prt->TypeId
 | .dng _ _ _=>150
 | .wri _ _=>135
 | .cpy _=>137
 | .siz=>139
 | .chg _=>141
 | .rck _=>143
 | .cmp _=>144
 | .joi _=>145
 | .lik _=>146
def Prt.D:Prt->Value
 | .dng a b c=>.agg #[I a,I b,I c]
 | .wri t n=>.agg #[I t,I n]
 | .cpy q=>.agg #[I q]
 | .siz=>.agg #[]
 | .chg t=>.agg #[I t]
 | .rck k=>.agg #[I k]
 | .cmp k=>.agg #[I k]
 | .joi k=>.agg #[I k]
 | .lik k=>.agg #[I k]
abbrev Prt.V (x:Prt):Value:=.iface x.T x.D
def Prt.isF:Prt->Nat
 | .dng _ _ _=>201
 | .wri _ _=>184
 | .cpy _=>186
 | .siz=>188
 | .chg _=>190
 | .rck _=>192
 | .cmp _=>194
 | .joi _=>197
 | .lik _=>199
def Prt.coF:Prt->Nat
 | .dng _ _ _=>200
 | .wri _ _=>183
 | .cpy _=>185
 | .siz=>187
 | .chg _=>189
 | .rck _=>191
 | .cmp _=>193
 | .joi _=>196
 | .lik _=>198
theorem clamp_any (n:Int) (w:World):Calls Tryz.prog 19 #[I n] w fun e w'=>e=.returned (I (clampZ n))/\w'=w:=by
 go_enter Tryz.func19,Tryz.ntmps19
 go_wp2;go_ret;exact ⟨rfl,rfl⟩
theorem one_any (b:Bool) (w:World):Calls Tryz.prog 195 #[.bool b] w fun e w'=>e=.returned (I (oneZ b))/\w'=w:=by
 cases b with
 | true=>
  go_enter Tryz.func195,Tryz.ntmps195
  go_wp2;go_ret;exact ⟨rfl,rfl⟩
 | false=>
  go_enter Tryz.func195,Tryz.ntmps195
  go_wp2;go_ret;exact ⟨rfl,rfl⟩
theorem ask_cases (k:Int):k=4\/k=5\/k=14\/k=15\/k=13\/k=6\/k=12\/(¬ k=4/\¬ k=5/\¬ k=14/\¬ k=15/\¬ k=13/\¬ k=6/\¬ k=12):=by omega
theorem asking_any (k:Int) (w:World):Calls Tryz.prog 90 #[I k] w fun e w'=>e=.returned (.agg #[I (askA k),I (askB k),I (askC k)])/\Below w.heap.size w w':=by
 rcases ask_cases k with rfl | rfl | rfl | rfl | rfl | rfl | rfl | ⟨h4,h5,h14,h15,h13,h6,h12⟩
 ·go_enter Tryz.func90,Tryz.ntmps90
  go_wp2;refine bodyPost_ret (v:=.agg #[I (askA 4),I (askB 4),I (askC 4)]) (by simp [results,Tryz.results90,go_sem,askA,askB,askC]) rfl ?_
  exact ⟨rfl,bAl w _⟩
 ·go_enter Tryz.func90,Tryz.ntmps90
  go_wp2;refine bodyPost_ret (v:=.agg #[I (askA 5),I (askB 5),I (askC 5)]) (by simp [results,Tryz.results90,go_sem,askA,askB,askC]) rfl ?_
  exact ⟨rfl,bAl w _⟩
 ·go_enter Tryz.func90,Tryz.ntmps90
  go_wp2;refine bodyPost_ret (v:=.agg #[I (askA 14),I (askB 14),I (askC 14)]) (by simp [results,Tryz.results90,go_sem,askA,askB,askC]) rfl ?_
  exact ⟨rfl,bAl w _⟩
 ·go_enter Tryz.func90,Tryz.ntmps90
  go_wp2;refine bodyPost_ret (v:=.agg #[I (askA 15),I (askB 15),I (askC 15)]) (by simp [results,Tryz.results90,go_sem,askA,askB,askC]) rfl ?_
  exact ⟨rfl,bAl w _⟩
 ·go_enter Tryz.func90,Tryz.ntmps90
  go_wp2;refine bodyPost_ret (v:=.agg #[I (askA 13),I (askB 13),I (askC 13)]) (by simp [results,Tryz.results90,go_sem,askA,askB,askC]) rfl ?_
  exact ⟨rfl,bAl w _⟩
 ·go_enter Tryz.func90,Tryz.ntmps90
  go_wp2;refine bodyPost_ret (v:=.agg #[I (askA 6),I (askB 6),I (askC 6)]) (by simp [results,Tryz.results90,go_sem,askA,askB,askC]) rfl ?_
  exact ⟨rfl,bAl w _⟩
 ·go_enter Tryz.func90,Tryz.ntmps90
  go_wp2;refine bodyPost_ret (v:=.agg #[I (askA 12),I (askB 12),I (askC 12)]) (by simp [results,Tryz.results90,go_sem,askA,askB,askC]) rfl ?_
  exact ⟨rfl,bAl w _⟩
 ·have HA:Hid (askA k=0/\askB k=0/\askC k=0):=by
   simp [Hid,askA,askB,askC,h4,h5,h14,h15,h13,h6,h12]
  have b4:(k == 4)=false:=beq_false_of_ne h4;have b5:(k == 5)=false:=beq_false_of_ne h5;have b14:(k == 14)=false:=beq_false_of_ne h14;have b15:(k == 15)=false:=beq_false_of_ne h15;have b13:(k == 13)=false:=beq_false_of_ne h13;have b6:(k == 6)=false:=beq_false_of_ne h6;have b12:(k == 12)=false:=beq_false_of_ne h12;go_enter Tryz.func90,Tryz.ntmps90;go_wp2;rw [HA.out.1,HA.out.2.1,HA.out.2.2];refine bodyPost_ret (v:=.agg #[I 0,I 0,I 0]) (by simp [results,Tryz.results90,go_sem]) rfl ?_
  exact ⟨rfl,bAl w _⟩
theorem part_cases (k:Int):k=27\/k=29\/k=30\/k=32\/k=33\/k=28\/k=31\/k=34\/k=38\/k=35\/k=36\/k=37\/k=39\/k=40\/k=41\/k=43\/k=44\/k=45\/k=46\/k=49\/k=50\/k=51\/k=52\/k=42\/k=53\/k=54\/k=47\/k=48\/(¬ k=27/\¬ k=29/\¬ k=30/\¬ k=32/\¬ k=33/\¬ k=28/\¬ k=31/\¬ k=34/\¬ k=38/\¬ k=35/\¬ k=36/\¬ k=37/\¬ k=39/\¬ k=40/\¬ k=41/\¬ k=43/\¬ k=44/\¬ k=45/\¬ k=46/\¬ k=49/\¬ k=50/\¬ k=51/\¬ k=52/\¬ k=42/\¬ k=53/\¬ k=54/\¬ k=47/\¬ k=48):=by omega
theorem part_any (k n st kd:Int) (nm:ByteArray) (w:World):Calls Tryz.prog 59 #[.agg #[I k,.string nm,I st,I n,I kd]] w fun e w'=>e=.returned (pOf k n).V/\Below w.heap.size w w':=by
 have hb:=fun k:Int=>(Below.refl w.heap.size w).alloc (Nat.le_refl _) (.cells #[I k,.string nm,I st,I n,I kd] 61);have HB:=hdn <| hb;clear hb;rcases part_cases k with rfl | rfl | rfl | rfl | rfl | rfl | rfl | rfl | rfl | rfl | rfl | rfl | rfl | rfl | rfl | rfl | rfl | rfl | rfl | rfl | rfl | rfl | rfl | rfl | rfl | rfl | rfl | rfl | ⟨h27,h29,h30,h32,h33,h28,h31,h34,h38,h35,h36,h37,h39,h40,h41,h43,h44,h45,h46,h49,h50,h51,h52,h42,h53,h54,h47,h48⟩
 ·go_enter Tryz.func59,Tryz.ntmps59
  go_wp2;go_ret;exact ⟨rfl,HB.out _⟩
 ·go_enter Tryz.func59,Tryz.ntmps59
  go_wp2;go_ret;exact ⟨rfl,HB.out _⟩
 ·go_enter Tryz.func59,Tryz.ntmps59
  go_wp2;go_ret;exact ⟨rfl,HB.out _⟩
 ·go_enter Tryz.func59,Tryz.ntmps59
  go_wp2;go_ret;exact ⟨rfl,HB.out _⟩
 ·go_enter Tryz.func59,Tryz.ntmps59
  go_wp2;go_ret;exact ⟨rfl,HB.out _⟩
 ·go_enter Tryz.func59,Tryz.ntmps59
  go_wp2;go_ret;exact ⟨rfl,HB.out _⟩
 ·go_enter Tryz.func59,Tryz.ntmps59
  go_wp2;go_ret;exact ⟨rfl,HB.out _⟩
 ·go_enter Tryz.func59,Tryz.ntmps59
  go_wp2;go_ret;exact ⟨rfl,HB.out _⟩
 ·go_enter Tryz.func59,Tryz.ntmps59
  go_wp2;go_ret;exact ⟨rfl,HB.out _⟩
 ·go_enter Tryz.func59,Tryz.ntmps59
  go_wp2;go_ret;exact ⟨rfl,HB.out _⟩
 ·go_enter Tryz.func59,Tryz.ntmps59
  go_wp2;go_ret;exact ⟨rfl,HB.out _⟩
 ·go_enter Tryz.func59,Tryz.ntmps59
  go_wp2;go_ret;exact ⟨rfl,HB.out _⟩
 ·go_enter Tryz.func59,Tryz.ntmps59
  go_wp2;go_ret;exact ⟨rfl,HB.out _⟩
 ·go_enter Tryz.func59,Tryz.ntmps59
  go_wp2;go_ret;exact ⟨rfl,HB.out _⟩
 ·go_enter Tryz.func59,Tryz.ntmps59
  go_wp2;go_ret;exact ⟨rfl,HB.out _⟩
 ·go_enter Tryz.func59,Tryz.ntmps59
  go_wp2;go_ret;exact ⟨rfl,HB.out _⟩
 ·go_enter Tryz.func59,Tryz.ntmps59
  go_wp2;go_ret;exact ⟨rfl,HB.out _⟩
 ·go_enter Tryz.func59,Tryz.ntmps59
  go_wp2;go_ret;exact ⟨rfl,HB.out _⟩
 ·go_enter Tryz.func59,Tryz.ntmps59
  go_wp2;go_ret;exact ⟨rfl,HB.out _⟩
 ·go_enter Tryz.func59,Tryz.ntmps59
  go_wp2;go_ret;exact ⟨rfl,HB.out _⟩
 ·go_enter Tryz.func59,Tryz.ntmps59
  go_wp2;go_ret;exact ⟨rfl,HB.out _⟩
 ·go_enter Tryz.func59,Tryz.ntmps59
  go_wp2;go_ret;exact ⟨rfl,HB.out _⟩
 ·go_enter Tryz.func59,Tryz.ntmps59
  go_wp2;go_ret;exact ⟨rfl,HB.out _⟩
 ·go_enter Tryz.func59,Tryz.ntmps59
  go_wp2;go_ret;exact ⟨rfl,HB.out _⟩
 ·go_enter Tryz.func59,Tryz.ntmps59
  go_wp2;go_ret;exact ⟨rfl,HB.out _⟩
 ·go_enter Tryz.func59,Tryz.ntmps59
  go_wp2;go_ret;exact ⟨rfl,HB.out _⟩
 ·go_enter Tryz.func59,Tryz.ntmps59
  go_wp2;go_ret;exact ⟨rfl,HB.out _⟩
 ·go_enter Tryz.func59,Tryz.ntmps59
  go_wp2;go_ret;exact ⟨rfl,HB.out _⟩
 ·have HP:Hid (pOf k n=.dng (askA k) (askB k) (askC k)):=by
   simp [Hid,pOf,h27,h29,h30,h32,h33,h28,h31,h34,h38,h35,h36,h37,h39,h40,h41,h43,h44,h45,h46,h49,h50,h51,h52,h42,h53,h54,h47,h48]
  have b27:(k == 27)=false:=beq_false_of_ne h27;have b29:(k == 29)=false:=beq_false_of_ne h29;have b30:(k == 30)=false:=beq_false_of_ne h30;have b32:(k == 32)=false:=beq_false_of_ne h32;have b33:(k == 33)=false:=beq_false_of_ne h33;have b28:(k == 28)=false:=beq_false_of_ne h28;have b31:(k == 31)=false:=beq_false_of_ne h31;have b34:(k == 34)=false:=beq_false_of_ne h34;have b38:(k == 38)=false:=beq_false_of_ne h38;have b35:(k == 35)=false:=beq_false_of_ne h35;have b36:(k == 36)=false:=beq_false_of_ne h36;have b37:(k == 37)=false:=beq_false_of_ne h37;have b39:(k == 39)=false:=beq_false_of_ne h39;have b40:(k == 40)=false:=beq_false_of_ne h40;have b41:(k == 41)=false:=beq_false_of_ne h41;have b43:(k == 43)=false:=beq_false_of_ne h43;have b44:(k == 44)=false:=beq_false_of_ne h44;have b45:(k == 45)=false:=beq_false_of_ne h45;have b46:(k == 46)=false:=beq_false_of_ne h46;have b49:(k == 49)=false:=beq_false_of_ne h49;have b50:(k == 50)=false:=beq_false_of_ne h50;have b51:(k == 51)=false:=beq_false_of_ne h51;have b52:(k == 52)=false:=beq_false_of_ne h52;have b42:(k == 42)=false:=beq_false_of_ne h42;have b53:(k == 53)=false:=beq_false_of_ne h53;have b54:(k == 54)=false:=beq_false_of_ne h54;have b47:(k == 47)=false:=beq_false_of_ne h47;have b48:(k == 48)=false:=beq_false_of_ne h48;clear h27 h29 h30 h32 h33 h28 h31 h34 h38 h35 h36 h37 h39 h40 h41 h43 h44 h45 h46 h49 h50 h51 h52 h42 h53 h54 h47 h48;go_enter Tryz.func59,Tryz.ntmps59;go_wp2_with fail;refine Calls.mono (asking_any k _) ?_;rintro e w1 ⟨rfl,hb1⟩;have HB1:Hid (Below w.heap.size w w1):=(HB.out k).trans (hb1.mono (HB.out k).size);clear hb1;go_wp2;go_ret;rw [HP.out];exact ⟨rfl,HB1.out⟩
theorem is_any (x:Prt) (w:World):Calls Tryz.prog x.isF #[x.D] w fun e w'=>e=.returned (I x.is)/\Below w.heap.size w w':=by
 cases x with
 | dng a b c=>
  have HB:Hid (Below w.heap.size w (w.alloc (.cells #[I a,I b,I c] 150))):=bAl w _;show Calls Tryz.prog 201 #[.agg #[I a,I b,I c]] w _;go_enter Tryz.func201,Tryz.ntmps201;go_wp2;go_ret;exact ⟨rfl,HB.out⟩
 | wri t n=>
  have HB:Hid (Below w.heap.size w (w.alloc (.cells #[I t,I n] 135))):=bAl w _;show Calls Tryz.prog 184 #[.agg #[I t,I n]] w _;go_enter Tryz.func184,Tryz.ntmps184;go_wp2;go_ret;exact ⟨rfl,HB.out⟩
 | cpy q=>
  have HB:Hid (Below w.heap.size w (w.alloc (.cells #[I q] 137))):=bAl w _;show Calls Tryz.prog 186 #[.agg #[I q]] w _;go_enter Tryz.func186,Tryz.ntmps186;go_wp2;go_ret;exact ⟨rfl,HB.out⟩
 | siz  =>
  have HB:Hid (Below w.heap.size w (w.alloc (.cells #[] 139))):=bAl w _;show Calls Tryz.prog 188 #[.agg #[]] w _;go_enter Tryz.func188,Tryz.ntmps188;go_wp2;go_ret;exact ⟨rfl,HB.out⟩
 | chg t=>
  have HB:Hid (Below w.heap.size w (w.alloc (.cells #[I t] 141))):=bAl w _;show Calls Tryz.prog 190 #[.agg #[I t]] w _;go_enter Tryz.func190,Tryz.ntmps190;go_wp2;go_ret;exact ⟨rfl,HB.out⟩
 | rck k=>
  have HB:Hid (Below w.heap.size w (w.alloc (.cells #[I k] 143))):=bAl w _;show Calls Tryz.prog 192 #[.agg #[I k]] w _;go_enter Tryz.func192,Tryz.ntmps192;go_wp2;go_ret;exact ⟨rfl,HB.out⟩
 | cmp k=>
  have HB:Hid (Below w.heap.size w (w.alloc (.cells #[I k] 144))):=bAl w _;show Calls Tryz.prog 194 #[.agg #[I k]] w _;go_enter Tryz.func194,Tryz.ntmps194;go_wp2;go_ret;exact ⟨rfl,HB.out⟩
 | joi k=>
  have HB:Hid (Below w.heap.size w (w.alloc (.cells #[I k] 145))):=bAl w _;show Calls Tryz.prog 197 #[.agg #[I k]] w _;go_enter Tryz.func197,Tryz.ntmps197;go_wp2;go_ret;exact ⟨rfl,HB.out⟩
 | lik k=>
  have HB:Hid (Below w.heap.size w (w.alloc (.cells #[I k] 146))):=bAl w _;show Calls Tryz.prog 199 #[.agg #[I k]] w _;go_enter Tryz.func199,Tryz.ntmps199;go_wp2;go_ret;exact ⟨rfl,HB.out⟩
theorem is_fn (x : Prt) (w : World) : (method 308 x.T x.D "winnow/typed.is").run Tryz.prog w = .ok (x.isF, x.D) w := by
 cases x<;>kernel_rfl
theorem co_fn (x : Prt) (w : World) : (method 308 x.T x.D "winnow/typed.comes").run Tryz.prog w = .ok (x.coF, x.D) w := by
 cases x<;>kernel_rfl
end Go.Proofs.YtbledbjcghaanaaGreat.Nm.Ty
