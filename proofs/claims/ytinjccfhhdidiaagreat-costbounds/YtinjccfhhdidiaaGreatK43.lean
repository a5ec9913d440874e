import Derived.Test.YtinjccfhhdidiaaGreatK29
import Derived.Test.YtinjccfhhdidiaaGreatK42
set_option maxHeartbeats 25600000
set_option maxRecDepth 100000
namespace Go.Proofs.YtinjccfhhdidiaaGreat.Nm
open Go.RowKit Go.Maps Sp Lx Gr
theorem lsB {W W':World} {base:Nat} {os:List Ow} (h:Ls W base os) (hb:Below W.heap.size W W'):Ls W' base os:=⟨fun o ho=>own_below (h.own o ho) hb,h.dis⟩
theorem lsK {W W':World} {base b:Nat} {os:List Ow} (h:Ls W base os) (hb:b<=base) (hk:∀ k,base<=k->k < W.heap.size->W'.heap[k]?=W.heap[k]?):Ls W' b os:=⟨fun o ho=>own_base (own_keepB (h.own o ho) (fun k hk2=>hk k (World.ownsRow.lt (h.own o ho) k hk2).1 (World.ownsRow.lt (h.own o ho) k hk2).2)) hb,h.dis⟩
theorem lsRd {W:World} {base:Nat} {p:Pg} {g gq cq gv cv gt ct gu cu go co:Nat} (h:Ls W base (lentOs p g gq cq gv cv gt ct gu cu go co)):RdG W p (some ⟨g,0,none⟩) (some ⟨gq,0,none⟩) (some ⟨gv,0,none⟩) (some ⟨gt,0,none⟩) (some ⟨gu,0,none⟩) (some ⟨go,0,none⟩):=by
 have a:∀ (i:Nat) (hi:i < (lentOs p g gq cq gv cv gt ct gu cu go co).length),W.ownsRow base ((lentOs p g gq cq gv cv gt ct gu cu go co)[i]).T ((lentOs p g gq cq gv cv gt ct gu cu go co)[i]).sz ((lentOs p g gq cq gv cv gt ct gu cu go co)[i]).v ((lentOs p g gq cq gv cv gt ct gu cu go co)[i]).n ((lentOs p g gq cq gv cv gt ct gu cu go co)[i]).xs:=fun i hi=>h.own _ (List.getElem_mem hi)
 have a0:=a 0 (by simp)
 have a1:=a 1 (by simp)
 have a2:=a 2 (by simp)
 have a3:=a 3 (by simp)
 have a4:=a 4 (by simp)
 have a5:=a 5 (by simp)
 exact ⟨RowZ.reads (l':=(List.range 9).map (fun j=>mkL (p.rows.length+j))++List.replicate (9 - 9) rz0) (rowz_own (l:=fillL p.rows 9) a0),vals_front (vals_of a1),vals_front (vals_of a2),vals_front (vals_of a3),vals_front (vals_of a4),vals_front (vals_of a5)⟩
def ctOf:Except (Nat × Nat) Co->List Nat × Nat × Nat × Nat
 | .error ci=>([],0,ci.1,ci.2)
 | .ok c=>(c.on,c.miss,0,0)
def OnR (W:World) (base:Nat) (oo:Option Addr) (on:List Nat):Prop:=(oo=none/\on=[])\/∃ ob,oo=some ⟨ob,0,none⟩/\base<=ob/\RowN W ob on
theorem OnR.keep {W W':World} {base:Nat} {oo:Option Addr} {on:List Nat} (h:OnR W base oo on) (hk:∀ k,base<=k->k < W.heap.size->W'.heap[k]?=W.heap[k]?):OnR W' base oo on:=by
 rcases h with h | ⟨ob,h1,h2,h3⟩
 ·exact Or.inl h
 ·exact Or.inr ⟨ob,h1,h2,(hk ob h2 h3.lt).trans h3⟩
theorem OnR.vals {W:World} {base:Nat} {oo:Option Addr} {on:List Nat} (h:OnR W base oo on):IsVals W oo (iv (zi on)):=by
 rcases h with ⟨_,rfl⟩ | ⟨ob,rfl,_,h3⟩
 ·exact fun k x hx=>by simp [zi,iv] at hx
 ·exact h3.vals
theorem ctold_out {w w':World} {r:Except (Nat × Nat) Co} {e:Ending} (h:CTold w r e w'):∃ p1 q1,e=.returned (.tuple #[.agg #[.slice p1 (ctOf r).1.length q1,.int .i64 ((ctOf r).2.1:Int)],.agg #[.int .i64 ((ctOf r).2.2.1:Int),.int .i64 ((ctOf r).2.2.2:Int)]])/\OnR w' w.heap.size p1 (ctOf r).1/\Below w.heap.size w w':=by
 obtain ⟨hb,h2⟩:=h
 cases r with
 | error ci=>exact ⟨none,0,h2,Or.inl ⟨rfl,rfl⟩,hb⟩
 | ok c=>
  obtain ⟨ob,he,h3,h4⟩:=h2
  exact ⟨some ⟨ob,0,none⟩,c.on.length,he,Or.inr ⟨ob,rfl,h3,h4⟩,hb⟩
theorem on_len {p:Pg} {rd:List Int} {r:Except (Nat × Nat) Co} (h:BRes p rd r) (hq:p.qs.length<=100):(ctOf r).1.length<=17592186043904:=by
 rcases h with ⟨_,rfl⟩ | ⟨p',_,⟨_,rfl⟩ | ⟨_,_,rfl⟩⟩
 ·simp [ctOf]
 ·simp [ctOf]
 ·unfold evR
  split
  ·simp [ctOf]
  ·rename_i c hc
   have:=evN_len hc
   simp only [ctOf]
   omega
theorem boundsWalk (P:Pg) (ao qo vo tto uo oo:Option Addr) (ac qc vc tc uc oc:Nat) (xo yo eo:Option Addr) (cx cy ec:Nat) (vl:List (Int × Int × Int)) (tg rd:List Int) (w:World) (h:RdG w P ao qo vo tto uo oo) (hr:P.rows.length<=2932031007317) (hkd:∀ r ∈ P.rows,r.kids<=9223372036854775807/\r.name.size<=4611686018427387000)
  (n2:qo=none->qc=0) (n3:vo=none->vc=0) (n4:tto=none->tc=0) (n5:uo=none->uc=0) (n6:oo=none->oc=0) (h1:IsVals w xo (vF vl)) (h2:IsVals w yo (iv tg)) (h3:IsVals w eo (iv rd)) (m1:xo=none->cx=0) (m2:yo=none->cy=0) (m3:eo=none->ec=0):
  Calls Tryz.prog 3 #[pvG P ao qo vo tto uo oo ac qc vc tc uc oc,.agg #[.slice xo vl.length cx,.slice yo tg.length cy,.slice eo rd.length ec]] w fun e w'=>e=.returned (.bool true)/\Below w.heap.size w w':=by
 have hb1:Below w.heap.size w ((w.alloc (.cells #[.string P.name,.slice ao P.rows.length ac,.slice qo P.qs.length qc,.slice vo P.vs.length vc,.slice tto P.ts.length tc,.slice uo P.us.length uc,.slice oo P.on.length oc,.int .i64 P.miss] 27)).alloc (.cells #[.slice xo vl.length cx,.slice yo tg.length cy,.slice eo rd.length ec] 30)):=((Below.refl _ w).alloc (Nat.le_refl _) _).alloc (by simp) _
 have H0:Hid ((((w.alloc (.cells #[.string P.name,.slice ao P.rows.length ac,.slice qo P.qs.length qc,.slice vo P.vs.length vc,.slice tto P.ts.length tc,.slice uo P.us.length uc,.slice oo P.on.length oc,.int .i64 P.miss] 27)).alloc (.cells #[.slice xo vl.length cx,.slice yo tg.length cy,.slice eo rd.length ec] 30)).heap[w.heap.size]?=some (.cells #[.string P.name,.slice ao P.rows.length ac,.slice qo P.qs.length qc,.slice vo P.vs.length vc,.slice tto P.ts.length tc,.slice uo P.us.length uc,.slice oo P.on.length oc,.int .i64 P.miss] 27 (0,0))/\((w.alloc (.cells #[.string P.name,.slice ao P.rows.length ac,.slice qo P.qs.length qc,.slice vo P.vs.length vc,.slice tto P.ts.length tc,.slice uo P.us.length uc,.slice oo P.on.length oc,.int .i64 P.miss] 27)).alloc (.cells #[.slice xo vl.length cx,.slice yo tg.length cy,.slice eo rd.length ec] 30)).heap[w.heap.size+1]?=some (.cells #[.slice xo vl.length cx,.slice yo tg.length cy,.slice eo rd.length ec] 30 (0,0)))/\Below w.heap.size w ((w.alloc (.cells #[.string P.name,.slice ao P.rows.length ac,.slice qo P.qs.length qc,.slice vo P.vs.length vc,.slice tto P.ts.length tc,.slice uo P.us.length uc,.slice oo P.on.length oc,.int .i64 P.miss] 27)).alloc (.cells #[.slice xo vl.length cx,.slice yo tg.length cy,.slice eo rd.length ec] 30))/\RdG w P ao qo vo tto uo oo/\IsVals w xo (vF vl)/\IsVals w yo (iv tg)/\IsVals w eo (iv rd)):=⟨⟨by rw [alloc_old _ _ _ (by simp)];exact alloc_at _ _ _ rfl,alloc_at _ _ _ (by simp)⟩,hb1,h,h1,h2,h3⟩
 have HFr:=show Hid _ from farT (P:=P) (ao:=ao) (qo:=qo) (vo:=vo) (tto:=tto) (uo:=uo) (oo:=oo) (ac:=ac) (qc:=qc) (vc:=vc) (tc:=tc) (uc:=uc) (oc:=oc) (xo:=xo) (yo:=yo) (eo:=eo) (nx:=vl.length) (cx:=cx) (ny:=tg.length) (cy:=cy) (ne:=rd.length) (ec:=ec) ((w.alloc (.cells #[.string P.name,.slice ao P.rows.length ac,.slice qo P.qs.length qc,.slice vo P.vs.length vc,.slice tto P.ts.length tc,.slice uo P.us.length uc,.slice oo P.on.length oc,.int .i64 P.miss] 27)).alloc (.cells #[.slice xo vl.length cx,.slice yo tg.length cy,.slice eo rd.length ec] 30)) hr
 have HNil:Hid ((qo=none->qc=0)/\(vo=none->vc=0)/\(tto=none->tc=0)/\(uo=none->uc=0)/\(oo=none->oc=0)/\(xo=none->cx=0)/\(yo=none->cy=0)/\(eo=none->ec=0)):=⟨n2,n3,n4,n5,n6,m1,m2,m3⟩
 have HKd:=show Hid _ from hkd
 obtain ⟨k0,k1,k2,k3,k4,k5,k6,k7⟩:=pol8 H0.out.1.1
 obtain ⟨t0,t1,t2⟩:=cells3 H0.out.1.2
 dsimp only [pvG] at HFr ⊢
 clear h hr hkd n2 n3 n4 n5 n6 hb1 h1 h2 h3 m1 m2 m3
 go_enter Tryz.func3,Tryz.ntmps3
 go_wp2_with fail
 generalize ((w.alloc (.cells #[.string P.name,.slice ao P.rows.length ac,.slice qo P.qs.length qc,.slice vo P.vs.length vc,.slice tto P.ts.length tc,.slice uo P.us.length uc,.slice oo P.on.length oc,.int .i64 P.miss] 27)).alloc (.cells #[.slice xo vl.length cx,.slice yo tg.length cy,.slice eo rd.length ec] 30))=w1 at *
 refine Calls.mono HFr.out ?_
 rintro e wf ⟨b,rfl,hfar,hbf⟩
 have HBf:Hid ((wf.heap[w.heap.size]?=some (.cells #[.string P.name,.slice ao P.rows.length ac,.slice qo P.qs.length qc,.slice vo P.vs.length vc,.slice tto P.ts.length tc,.slice uo P.us.length uc,.slice oo P.on.length oc,.int .i64 P.miss] 27 (0,0))/\wf.heap[w.heap.size+1]?=some (.cells #[.slice xo vl.length cx,.slice yo tg.length cy,.slice eo rd.length ec] 30 (0,0)))/\Below w.heap.size w wf/\RdG wf P ao qo vo tto uo oo/\IsVals wf xo (vF vl)/\IsVals wf yo (iv tg)/\IsVals wf eo (iv rd)):=by
  have hb:=H0.out.2.1.trans (hbf.mono H0.out.2.1.size)
  exact ⟨⟨(hbf.block _ (blk_lt H0.out.1.1)).trans H0.out.1.1,(hbf.block _ (blk_lt H0.out.1.2)).trans H0.out.1.2⟩,hb,H0.out.2.2.1.below hb,IsVals.below H0.out.2.2.2.1 hb,IsVals.below H0.out.2.2.2.2.1 hb,IsVals.below H0.out.2.2.2.2.2 hb⟩
 clear hbf HFr H0 k0 k1 k2 k3 k4 k5 k6 k7 t0 t1 t2
 cases b with
 | true=>
  clear hfar
  go_wp2_with fail
  refine Calls.mono (head10 _) ?_
  rintro e wz ⟨rfl,hbz⟩
  have HBz:Hid (Below w.heap.size w wz):=HBf.out.2.1.trans (hbz.mono HBf.out.2.1.size)
  clear hbz
  go_wp2
  go_ret
  exact ⟨rfl,HBz.out⟩
 | false=>
  have HSz:Hid ((P.rows.length<=65536/\P.qs.length<=100/\P.vs.length<=100/\P.ts.length<=100/\P.us.length<=100/\P.on.length<=100)/\vl.length<=100/\tg.length<=100/\rd.length<=65536):=hfar rfl
  have HSm:Hid P.Sm:=by
   obtain ⟨⟨a,b,c,d,e,f⟩,_⟩:=HSz.out
   exact ⟨by omega,by omega,by omega,by omega,by omega,by omega⟩
  have HLn:=show Hid _ from lendP_any (ac:=ac) (qc:=qc) (vc:=vc) (tc:=tc) (uc:=uc) (oc:=oc) HBf.out.2.2.1 (by have:=HSz.out.1;omega) (by have:=HSz.out.1;omega) (by have:=HSz.out.1;omega) (by have:=HSz.out.1;omega) (by have:=HSz.out.1;omega) (by have:=HSz.out.1;omega) HNil.out.1 HNil.out.2.1 HNil.out.2.2.1 HNil.out.2.2.2.1 HNil.out.2.2.2.2.1
  dsimp only [pvG] at HLn
  obtain ⟨k0,k1,k2,k3,k4,k5,k6,k7⟩:=pol8 HBf.out.1.1
  clear hfar
  go_wp2_with fail
  refine Calls.mono HLn.out ?_
  rintro e w2 ⟨g,gq,cq,gv,cv,gt,ct,gu,cu,go,co,rfl,hLs,hb2⟩
  clear k0 k1 k2 k3 k4 k5 k6 k7 HLn
  dsimp only [lentV]
  have hb3:Below w2.heap.size w2 (w2.alloc (.cells #[.string P.name,.slice (some ⟨g,0,none⟩) P.rows.length (P.rows.length+9),.slice (some ⟨gq,0,none⟩) P.qs.length cq,.slice (some ⟨gv,0,none⟩) P.vs.length cv,.slice (some ⟨gt,0,none⟩) P.ts.length ct,.slice (some ⟨gu,0,none⟩) P.us.length cu,.slice (some ⟨go,0,none⟩) P.on.length co,.int .i64 P.miss] 27)):=(Below.refl _ w2).alloc (Nat.le_refl _) _
  have H3:Hid (Below wf.heap.size wf (w2.alloc (.cells #[.string P.name,.slice (some ⟨g,0,none⟩) P.rows.length (P.rows.length+9),.slice (some ⟨gq,0,none⟩) P.qs.length cq,.slice (some ⟨gv,0,none⟩) P.vs.length cv,.slice (some ⟨gt,0,none⟩) P.ts.length ct,.slice (some ⟨gu,0,none⟩) P.us.length cu,.slice (some ⟨go,0,none⟩) P.on.length co,.int .i64 P.miss] 27))/\(w2.alloc (.cells #[.string P.name,.slice (some ⟨g,0,none⟩) P.rows.length (P.rows.length+9),.slice (some ⟨gq,0,none⟩) P.qs.length cq,.slice (some ⟨gv,0,none⟩) P.vs.length cv,.slice (some ⟨gt,0,none⟩) P.ts.length ct,.slice (some ⟨gu,0,none⟩) P.us.length cu,.slice (some ⟨go,0,none⟩) P.on.length co,.int .i64 P.miss] 27)).heap[w2.heap.size]?=some (.cells #[.string P.name,.slice (some ⟨g,0,none⟩) P.rows.length (P.rows.length+9),.slice (some ⟨gq,0,none⟩) P.qs.length cq,.slice (some ⟨gv,0,none⟩) P.vs.length cv,.slice (some ⟨gt,0,none⟩) P.ts.length ct,.slice (some ⟨gu,0,none⟩) P.us.length cu,.slice (some ⟨go,0,none⟩) P.on.length co,.int .i64 P.miss] 27 (0,0))/\Ls (w2.alloc (.cells #[.string P.name,.slice (some ⟨g,0,none⟩) P.rows.length (P.rows.length+9),.slice (some ⟨gq,0,none⟩) P.qs.length cq,.slice (some ⟨gv,0,none⟩) P.vs.length cv,.slice (some ⟨gt,0,none⟩) P.ts.length ct,.slice (some ⟨gu,0,none⟩) P.us.length cu,.slice (some ⟨go,0,none⟩) P.on.length co,.int .i64 P.miss] 27)) wf.heap.size (lentOs P g gq cq gv cv gt ct gu cu go co)/\Ls w2 wf.heap.size (lentOs P g gq cq gv cv gt ct gu cu go co)/\w2.heap.size < (w2.alloc (.cells #[.string P.name,.slice (some ⟨g,0,none⟩) P.rows.length (P.rows.length+9),.slice (some ⟨gq,0,none⟩) P.qs.length cq,.slice (some ⟨gv,0,none⟩) P.vs.length cv,.slice (some ⟨gt,0,none⟩) P.ts.length ct,.slice (some ⟨gu,0,none⟩) P.us.length cu,.slice (some ⟨go,0,none⟩) P.on.length co,.int .i64 P.miss] 27)).heap.size):=⟨hb2.trans (hb3.mono hb2.size),heap_alloc_new w2 _,lsB hLs hb3,hLs,by simp⟩
  have HLt:=show Hid _ from lendT_any (cx:=cx) (cy:=cy) (ec:=ec) (IsVals.below HBf.out.2.2.2.1 H3.out.1) (IsVals.below HBf.out.2.2.2.2.1 H3.out.1) (IsVals.below HBf.out.2.2.2.2.2 H3.out.1) (by have:=HSz.out.2;omega) (by have:=HSz.out.2;omega) (by have:=HSz.out.2;omega) HNil.out.2.2.2.2.2.1 HNil.out.2.2.2.2.2.2.1 HNil.out.2.2.2.2.2.2.2
  obtain ⟨t0,t1,t2⟩:=cells3 ((H3.out.1.block _ (blk_lt HBf.out.1.2)).trans HBf.out.1.2)
  clear hb2 hb3 hLs
  go_wp2_with fail
  generalize (w2.alloc (.cells #[.string P.name,.slice (some ⟨g,0,none⟩) P.rows.length (P.rows.length+9),.slice (some ⟨gq,0,none⟩) P.qs.length cq,.slice (some ⟨gv,0,none⟩) P.vs.length cv,.slice (some ⟨gt,0,none⟩) P.ts.length ct,.slice (some ⟨gu,0,none⟩) P.us.length cu,.slice (some ⟨go,0,none⟩) P.on.length co,.int .i64 P.miss] 27))=w3 at *
  refine Calls.mono HLt.out ?_
  rintro e w4 ⟨hv,dv,ht,dt,hr,dr,rfl,hLs,hb4⟩
  clear t0 t1 t2 HLt
  have hb5:Below w4.heap.size w4 (w4.alloc (.cells #[.slice (some ⟨hv,0,none⟩) vl.length dv,.slice (some ⟨ht,0,none⟩) tg.length dt,.slice (some ⟨hr,0,none⟩) rd.length dr] 30)):=(Below.refl _ w4).alloc (Nat.le_refl _) _
  have hb45:Below w3.heap.size w3 (w4.alloc (.cells #[.slice (some ⟨hv,0,none⟩) vl.length dv,.slice (some ⟨ht,0,none⟩) tg.length dt,.slice (some ⟨hr,0,none⟩) rd.length dr] 30)):=hb4.trans (hb5.mono hb4.size)
  have H5:Hid (Below wf.heap.size wf (w4.alloc (.cells #[.slice (some ⟨hv,0,none⟩) vl.length dv,.slice (some ⟨ht,0,none⟩) tg.length dt,.slice (some ⟨hr,0,none⟩) rd.length dr] 30))/\(w4.alloc (.cells #[.slice (some ⟨hv,0,none⟩) vl.length dv,.slice (some ⟨ht,0,none⟩) tg.length dt,.slice (some ⟨hr,0,none⟩) rd.length dr] 30)).heap[w2.heap.size]?=some (.cells #[.string P.name,.slice (some ⟨g,0,none⟩) P.rows.length (P.rows.length+9),.slice (some ⟨gq,0,none⟩) P.qs.length cq,.slice (some ⟨gv,0,none⟩) P.vs.length cv,.slice (some ⟨gt,0,none⟩) P.ts.length ct,.slice (some ⟨gu,0,none⟩) P.us.length cu,.slice (some ⟨go,0,none⟩) P.on.length co,.int .i64 P.miss] 27 (0,0))/\Ls (w4.alloc (.cells #[.slice (some ⟨hv,0,none⟩) vl.length dv,.slice (some ⟨ht,0,none⟩) tg.length dt,.slice (some ⟨hr,0,none⟩) rd.length dr] 30)) wf.heap.size (lentOs P g gq cq gv cv gt ct gu cu go co)/\(w4.alloc (.cells #[.slice (some ⟨hv,0,none⟩) vl.length dv,.slice (some ⟨ht,0,none⟩) tg.length dt,.slice (some ⟨hr,0,none⟩) rd.length dr] 30)).heap[w4.heap.size]?=some (.cells #[.slice (some ⟨hv,0,none⟩) vl.length dv,.slice (some ⟨ht,0,none⟩) tg.length dt,.slice (some ⟨hr,0,none⟩) rd.length dr] 30 (0,0))/\Ls (w4.alloc (.cells #[.slice (some ⟨hv,0,none⟩) vl.length dv,.slice (some ⟨ht,0,none⟩) tg.length dt,.slice (some ⟨hr,0,none⟩) rd.length dr] 30)) w3.heap.size (lentOt vl tg rd hv dv ht dt hr dr)/\(w2.heap.size < w3.heap.size/\w3.heap.size<=w4.heap.size/\w4.heap.size < (w4.alloc (.cells #[.slice (some ⟨hv,0,none⟩) vl.length dv,.slice (some ⟨ht,0,none⟩) tg.length dt,.slice (some ⟨hr,0,none⟩) rd.length dr] 30)).heap.size)):=⟨H3.out.1.trans (hb45.mono H3.out.1.size),(hb45.block _ (blk_lt H3.out.2.1)).trans H3.out.2.1,lsB H3.out.2.2.1 hb45,heap_alloc_new w4 _,lsB hLs hb5,H3.out.2.2.2.2,hb4.size,by simp⟩
  have HLl:=show Hid _ from lent_lt H3.out.2.2.2.1
  have HTl:Hid ((ht < w4.heap.size/\w3.heap.size<=ht)/\(hr < w4.heap.size/\w3.heap.size<=hr)/\(hv < w4.heap.size/\w3.heap.size<=hv)):=by
   obtain ⟨⟨o1,o2,o3⟩,_⟩:=lent_t hLs
   exact ⟨⟨(World.ownsRow.lt o1 ht rfl).2,(World.ownsRow.lt o1 ht rfl).1⟩,⟨(World.ownsRow.lt o2 hr rfl).2,(World.ownsRow.lt o2 hr rfl).1⟩,⟨(World.ownsRow.lt o3 hv rfl).2,(World.ownsRow.lt o3 hv rfl).1⟩⟩
  obtain ⟨k0,k1,k2,k3,k4,k5,k6,k7⟩:=pol8 H5.out.2.1
  obtain ⟨t0,t1,t2⟩:=cells3 H5.out.2.2.2.1
  have HCo:=show Hid _ from cost_any (ac:=P.rows.length+9) (qc:=cq) (vc:=cv) (tc:=ct) (uc:=cu) (oc:=co) (xo:=some ⟨hv,0,none⟩) (yo:=some ⟨ht,0,none⟩) (nx:=vl.length) (cx:=dv) (ny:=tg.length) (cy:=dt) (ec:=dr) (lsRd H5.out.2.2.1) HSm.out HSz.out.1.1 (fun e=>by cases e) (vals_front (vals_of (lent_t H5.out.2.2.2.2.1).1.2.1)) (by have:=HSz.out.2;omega)
  dsimp only [pvG] at HCo
  clear hb4 hb5 hb45 hLs H3
  go_wp2_with fail
  generalize (w4.alloc (.cells #[.slice (some ⟨hv,0,none⟩) vl.length dv,.slice (some ⟨ht,0,none⟩) tg.length dt,.slice (some ⟨hr,0,none⟩) rd.length dr] 30))=w5 at *
  generalize w2.heap.size=mb at *
  generalize w4.heap.size=tb at *
  refine Calls.mono HCo.out ?_
  rintro e w6 ⟨r,hBr,hCt⟩
  obtain ⟨p1,q1,rfl,hO6,hb6⟩:=ctold_out hCt
  clear k0 k1 k2 k3 k4 k5 k6 k7 t0 t1 t2 HCo hCt
  have HBr:Hid (BRes P rd r/\(ctOf r).1.length<=17592186043904):=⟨hBr,on_len hBr (by have:=HSz.out.1;omega)⟩
  obtain ⟨on,ms,c1,c2,hct⟩:∃ on ms c1 c2,ctOf r=(on,ms,c1,c2):=⟨_,_,_,_,rfl⟩
  have HCt:Hid (ctOf r=(on,ms,c1,c2)/\on.length<=17592186043904):=⟨hct,by have:=HBr.out.2;rw [hct] at this;exact this⟩
  rw [hct] at hO6 ⊢
  dsimp only at hO6 ⊢
  have hb7:Below w6.heap.size w6 ((w6.alloc (.cells #[.slice p1 on.length q1,.int .i64 (ms:Int)] 36)).alloc (.cells #[.int .i64 (c1:Int),.int .i64 (c2:Int)] 39)):=((Below.refl _ w6).alloc (Nat.le_refl _) _).alloc (by simp) _
  have hb67:Below w5.heap.size w5 ((w6.alloc (.cells #[.slice p1 on.length q1,.int .i64 (ms:Int)] 36)).alloc (.cells #[.int .i64 (c1:Int),.int .i64 (c2:Int)] 39)):=hb6.trans (hb7.mono hb6.size)
  have H7:Hid (Below wf.heap.size wf ((w6.alloc (.cells #[.slice p1 on.length q1,.int .i64 (ms:Int)] 36)).alloc (.cells #[.int .i64 (c1:Int),.int .i64 (c2:Int)] 39))/\Below w5.heap.size w5 ((w6.alloc (.cells #[.slice p1 on.length q1,.int .i64 (ms:Int)] 36)).alloc (.cells #[.int .i64 (c1:Int),.int .i64 (c2:Int)] 39))/\OnR ((w6.alloc (.cells #[.slice p1 on.length q1,.int .i64 (ms:Int)] 36)).alloc (.cells #[.int .i64 (c1:Int),.int .i64 (c2:Int)] 39)) w5.heap.size p1 on/\((w6.alloc (.cells #[.slice p1 on.length q1,.int .i64 (ms:Int)] 36)).alloc (.cells #[.int .i64 (c1:Int),.int .i64 (c2:Int)] 39)).heap[w6.heap.size]?=some (.cells #[.slice p1 on.length q1,.int .i64 (ms:Int)] 36 (0,0))/\((w6.alloc (.cells #[.slice p1 on.length q1,.int .i64 (ms:Int)] 36)).alloc (.cells #[.int .i64 (c1:Int),.int .i64 (c2:Int)] 39)).heap[w6.heap.size+1]?=some (.cells #[.int .i64 (c1:Int),.int .i64 (c2:Int)] 39 (0,0))/\w5.heap.size<=w6.heap.size):=⟨H5.out.1.trans (hb67.mono H5.out.1.size),hb67,hO6.keep (fun k _ hk=>hb7.block k hk),by rw [alloc_old _ _ _ (by simp)];exact alloc_at _ _ _ rfl,alloc_at _ _ _ (by simp),hb6.size⟩
  obtain ⟨k0,k1,k2,k3,k4,k5,k6,k7⟩:=pol8 ((H7.out.1.block _ (blk_lt HBf.out.1.1)).trans HBf.out.1.1)
  obtain ⟨t0,t1,t2⟩:=cells3 ((H7.out.1.block _ (blk_lt HBf.out.1.2)).trans HBf.out.1.2)
  have HRc:=show Hid _ from rcost_any (ac:=ac) (qc:=qc) (vc:=vc) (tc:=tc) (uc:=uc) (oc:=oc) (xo:=xo) (yo:=yo) (nx:=vl.length) (cx:=cx) (ny:=tg.length) (cy:=cy) (ec:=ec) (HBf.out.2.2.1.below H7.out.1) HSm.out HSz.out.1.1 HKd.out (IsVals.below HBf.out.2.2.2.2.2 H7.out.1) (by have:=HSz.out.2;omega)
  dsimp only [pvG] at HRc
  clear hb6 hb7 hb67 hO6 hct hBr
  go_wp2_with fail
  generalize ((w6.alloc (.cells #[.slice p1 on.length q1,.int .i64 (ms:Int)] 36)).alloc (.cells #[.int .i64 (c1:Int),.int .i64 (c2:Int)] 39))=w7 at *
  generalize w6.heap.size=cb at *
  refine Calls.mono HRc.out ?_
  rintro e w8 ⟨r2,hBr2,hCt2⟩
  obtain rfl:=HBr.out.1.uniq hBr2
  obtain ⟨p2,q2,rfl,hO8,hb8⟩:=ctold_out hCt2
  clear k0 k1 k2 k3 k4 k5 k6 k7 t0 t1 t2 HRc hCt2 hBr2
  rw [HCt.out.1] at hO8 ⊢
  dsimp only at hO8 ⊢
  have hb9:Below w8.heap.size w8 ((w8.alloc (.cells #[.slice p2 on.length q2,.int .i64 (ms:Int)] 36)).alloc (.cells #[.int .i64 (c1:Int),.int .i64 (c2:Int)] 39)):=((Below.refl _ w8).alloc (Nat.le_refl _) _).alloc (by simp) _
  have hb89:Below w7.heap.size w7 ((w8.alloc (.cells #[.slice p2 on.length q2,.int .i64 (ms:Int)] 36)).alloc (.cells #[.int .i64 (c1:Int),.int .i64 (c2:Int)] 39)):=hb8.trans (hb9.mono hb8.size)
  have hb59:Below w5.heap.size w5 ((w8.alloc (.cells #[.slice p2 on.length q2,.int .i64 (ms:Int)] 36)).alloc (.cells #[.int .i64 (c1:Int),.int .i64 (c2:Int)] 39)):=H7.out.2.1.trans (hb89.mono H7.out.2.1.size)
  have H9:Hid ((Below wf.heap.size wf ((w8.alloc (.cells #[.slice p2 on.length q2,.int .i64 (ms:Int)] 36)).alloc (.cells #[.int .i64 (c1:Int),.int .i64 (c2:Int)] 39))/\Below w5.heap.size w5 ((w8.alloc (.cells #[.slice p2 on.length q2,.int .i64 (ms:Int)] 36)).alloc (.cells #[.int .i64 (c1:Int),.int .i64 (c2:Int)] 39)))/\(OnR ((w8.alloc (.cells #[.slice p2 on.length q2,.int .i64 (ms:Int)] 36)).alloc (.cells #[.int .i64 (c1:Int),.int .i64 (c2:Int)] 39)) w5.heap.size p1 on/\OnR ((w8.alloc (.cells #[.slice p2 on.length q2,.int .i64 (ms:Int)] 36)).alloc (.cells #[.int .i64 (c1:Int),.int .i64 (c2:Int)] 39)) w7.heap.size p2 on)/\(((w8.alloc (.cells #[.slice p2 on.length q2,.int .i64 (ms:Int)] 36)).alloc (.cells #[.int .i64 (c1:Int),.int .i64 (c2:Int)] 39)).heap[cb]?=some (.cells #[.slice p1 on.length q1,.int .i64 (ms:Int)] 36 (0,0))/\((w8.alloc (.cells #[.slice p2 on.length q2,.int .i64 (ms:Int)] 36)).alloc (.cells #[.int .i64 (c1:Int),.int .i64 (c2:Int)] 39)).heap[cb+1]?=some (.cells #[.int .i64 (c1:Int),.int .i64 (c2:Int)] 39 (0,0)))/\(((w8.alloc (.cells #[.slice p2 on.length q2,.int .i64 (ms:Int)] 36)).alloc (.cells #[.int .i64 (c1:Int),.int .i64 (c2:Int)] 39)).heap[w8.heap.size]?=some (.cells #[.slice p2 on.length q2,.int .i64 (ms:Int)] 36 (0,0))/\((w8.alloc (.cells #[.slice p2 on.length q2,.int .i64 (ms:Int)] 36)).alloc (.cells #[.int .i64 (c1:Int),.int .i64 (c2:Int)] 39)).heap[w8.heap.size+1]?=some (.cells #[.int .i64 (c1:Int),.int .i64 (c2:Int)] 39 (0,0)))/\w5.heap.size<=cb/\w7.heap.size<=w8.heap.size/\w5.heap.size<=w7.heap.size):=⟨⟨H7.out.1.trans (hb89.mono H7.out.1.size),hb59⟩,⟨H7.out.2.2.1.keep (fun k _ hk=>hb89.block k hk),hO8.keep (fun k _ hk=>hb9.block k hk)⟩,⟨(hb89.block _ (blk_lt H7.out.2.2.2.1)).trans H7.out.2.2.2.1,(hb89.block _ (blk_lt H7.out.2.2.2.2.1)).trans H7.out.2.2.2.2.1⟩,⟨by rw [alloc_old _ _ _ (by simp)];exact alloc_at _ _ _ rfl,alloc_at _ _ _ (by simp)⟩,H7.out.2.2.2.2.2,hb8.size,H7.out.2.1.size⟩
  clear hb8 hb9 hb89 hb59 hO8 H7
  obtain ⟨k0,k1,k2,k3,k4,k5,k6,k7⟩:=pol8 ((H9.out.1.2.block _ (blk_lt H5.out.2.1)).trans H5.out.2.1)
  obtain ⟨m0,m1,m2,m3,m4,m5,m6,m7⟩:=pol8 ((H9.out.1.1.block _ (blk_lt HBf.out.1.1)).trans HBf.out.1.1)
  have HKp:=show Hid _ from keptQ_any (K:=fun k=>(k < wf.heap.size\/mb<=k)/\k < ((w8.alloc (.cells #[.slice p2 on.length q2,.int .i64 (ms:Int)] 36)).alloc (.cells #[.int .i64 (c1:Int),.int .i64 (c2:Int)] 39)).heap.size) (ac:=ac) (qc:=qc) (vc:=vc) (tc:=tc) (uc:=uc) (oc:=oc) HBf.out.2.2.1 H9.out.1.1 (lsB H5.out.2.2.1 H9.out.1.2) (by have:=HSz.out.1;omega) (by have:=HSz.out.1;omega) (by have:=HSz.out.1;omega) (by have:=HSz.out.1;omega) (by have:=HSz.out.1;omega) (by have:=HSz.out.1;omega) (fun k hk=>by
   obtain ⟨a,b,c,d,e,f⟩:=HLl.out
   refine ⟨hk.2,?_,?_,?_,?_,?_,?_⟩
   all_goals omega)
  dsimp only [pvG,lentV] at HKp
  go_wp2_with fail
  generalize ((w8.alloc (.cells #[.slice p2 on.length q2,.int .i64 (ms:Int)] 36)).alloc (.cells #[.int .i64 (c1:Int),.int .i64 (c2:Int)] 39))=w9 at *
  generalize w8.heap.size=db at *
  refine Calls.mono HKp.out ?_
  rintro e wX ⟨rfl,hbX,hkX⟩
  clear k0 k1 k2 k3 k4 k5 k6 k7 m0 m1 m2 m3 m4 m5 m6 m7 HKp
  have hsz5:=blk_lt H5.out.2.2.2.1
  have hs9:=H9.out.1.2.size
  have hX:∀ k,w3.heap.size<=k->k < w9.heap.size->wX.heap[k]?=w9.heap[k]?:=fun k h1 h2=>hkX k ⟨Or.inr (by have:=H5.out.2.2.2.2.2;omega),h2⟩
  have HX:Hid (Below wf.heap.size wf wX/\Ls wX wf.heap.size (lentOt vl tg rd hv dv ht dt hr dr)/\(OnR wX w5.heap.size p1 on/\OnR wX w7.heap.size p2 on)/\(wX.heap[cb]?=some (.cells #[.slice p1 on.length q1,.int .i64 (ms:Int)] 36 (0,0))/\wX.heap[cb+1]?=some (.cells #[.int .i64 (c1:Int),.int .i64 (c2:Int)] 39 (0,0)))/\(wX.heap[db]?=some (.cells #[.slice p2 on.length q2,.int .i64 (ms:Int)] 36 (0,0))/\wX.heap[db+1]?=some (.cells #[.int .i64 (c1:Int),.int .i64 (c2:Int)] 39 (0,0)))/\wX.heap[tb]?=some (.cells #[.slice (some ⟨hv,0,none⟩) vl.length dv,.slice (some ⟨ht,0,none⟩) tg.length dt,.slice (some ⟨hr,0,none⟩) rd.length dr] 30 (0,0))/\(w3.heap.size<=tb/\tb < w5.heap.size/\w5.heap.size<=cb/\w5.heap.size<=w7.heap.size/\w7.heap.size<=db/\wf.heap.size<=w3.heap.size)):=by
   have hz:=H5.out.2.2.2.2.2
   have hy:=H9.out.2.2.2.2
   have hls:=lsB H5.out.2.2.2.2.1 H9.out.1.2
   refine ⟨hbX,lsK hls (by have:=H5.out.1.size;have:=HLl.out.1;omega) (fun k h1 h2=>hX k h1 h2),⟨H9.out.2.1.1.keep (fun k h1 h2=>hX k (by omega) h2),H9.out.2.1.2.keep (fun k h1 h2=>hX k (by omega) h2)⟩,⟨(hX _ (by omega) (blk_lt H9.out.2.2.1.1)).trans H9.out.2.2.1.1,(hX _ (by omega) (blk_lt H9.out.2.2.1.2)).trans H9.out.2.2.1.2⟩,⟨(hX _ (by omega) (blk_lt H9.out.2.2.2.1.1)).trans H9.out.2.2.2.1.1,(hX _ (by omega) (blk_lt H9.out.2.2.2.1.2)).trans H9.out.2.2.2.1.2⟩,(hX _ (by omega) (by omega)).trans ((H9.out.1.2.block _ hsz5).trans H5.out.2.2.2.1),hz.2.1,hsz5,by omega,by omega,by omega,by have:=HLl.out.1;omega⟩
  clear hbX hkX hX hsz5 hs9 H9 H5
  obtain ⟨t0,t1,t2⟩:=cells3 HX.out.2.2.2.2.2.1
  obtain ⟨u0,u1,u2⟩:=cells3 ((HX.out.1.block _ (blk_lt HBf.out.1.2)).trans HBf.out.1.2)
  have HKt:=show Hid _ from keptT_any (cx:=cx) (cy:=cy) (ec:=ec) HBf.out.2.2.2.1 HBf.out.2.2.2.2.1 HBf.out.2.2.2.2.2 HX.out.1 HX.out.2.1 (by have:=HSz.out.2;omega) (by have:=HSz.out.2;omega) (by have:=HSz.out.2;omega)
  go_wp2_with fail
  refine Calls.mono HKt.out ?_
  rintro e wY ⟨rfl,hFY⟩
  clear t0 t1 t2 u0 u1 u2 HKt
  have hY:∀ k,w5.heap.size<=k->k < wX.heap.size->wY.heap[k]?=wX.heap[k]?:=fun k h1 h2=>hFY.block k h2 (by have:=HTl.out;have:=HX.out.2.2.2.2.2.2;simp;omega)
  have HY:Hid (Below w.heap.size w wY/\(OnR wY w5.heap.size p1 on/\OnR wY w7.heap.size p2 on)/\(wY.heap[cb]?=some (.cells #[.slice p1 on.length q1,.int .i64 (ms:Int)] 36 (0,0))/\wY.heap[cb+1]?=some (.cells #[.int .i64 (c1:Int),.int .i64 (c2:Int)] 39 (0,0)))/\(wY.heap[db]?=some (.cells #[.slice p2 on.length q2,.int .i64 (ms:Int)] 36 (0,0))/\wY.heap[db+1]?=some (.cells #[.int .i64 (c1:Int),.int .i64 (c2:Int)] 39 (0,0)))):=by
   have hz:=HX.out.2.2.2.2.2.2
   have hT:=HTl.out
   have hs:=HBf.out.2.1.trans (HX.out.1.mono HBf.out.2.1.size)
   refine ⟨hs.trans ⟨hFY.os,hFY.tape,hFY.output,hFY.size,fun k hk=>hFY.block k (by have:=hs.size;omega) ?_⟩,⟨HX.out.2.2.1.1.keep (fun k h1 h2=>hY k h1 h2),HX.out.2.2.1.2.keep (fun k h1 h2=>hY k (by omega) h2)⟩,⟨(hY _ (by omega) (blk_lt HX.out.2.2.2.1.1)).trans HX.out.2.2.2.1.1,(hY _ (by omega) (blk_lt HX.out.2.2.2.1.2)).trans HX.out.2.2.2.1.2⟩,⟨(hY _ (by omega) (blk_lt HX.out.2.2.2.2.1.1)).trans HX.out.2.2.2.2.1.1,(hY _ (by omega) (blk_lt HX.out.2.2.2.2.1.2)).trans HX.out.2.2.2.2.1.2⟩⟩
   have h1:=HBf.out.2.1.size
   have h2:=HLl.out.1
   simp
   omega
  clear hFY hY HX
  obtain ⟨t0,t1⟩:=costs2 HY.out.2.2.1.1
  obtain ⟨f0,f1⟩:=costs2 HY.out.2.2.1.2
  obtain ⟨u0,u1⟩:=costs2 HY.out.2.2.2.1
  obtain ⟨g0,g1⟩:=costs2 HY.out.2.2.2.2
  have HSa:Hid (Calls Tryz.prog 15 #[.agg #[.slice p1 on.length q1,.int .i64 (ms:Int)],.agg #[.slice p2 on.length q2,.int .i64 (ms:Int)]] wY fun e w'=>e=.returned (.bool true)/\Below wY.heap.size wY w'):=by
   have:=same10 (ca:=q1) (cb:=q2) (m:=(ms:Int)) HY.out.2.1.1.vals HY.out.2.1.2.vals (by have:=HCt.out.2;simpa [zi] using this)
   rw [show (zi on).length=on.length by simp [zi]] at this
   exact this
  go_wp2_with fail
  refine Calls.mono HSa.out ?_
  rintro e wZ ⟨rfl,hbZ⟩
  have HZ:Hid (Below w.heap.size w wZ):=HY.out.1.trans (hbZ.mono HY.out.1.size)
  clear t0 t1 f0 f1 u0 u1 g0 g1 HSa hbZ
  go_wp2_with fail
  refine Calls.mono (head10 _) ?_
  rintro e wz ⟨rfl,hbz⟩
  have HBz:Hid (Below w.heap.size w wz):=HZ.out.trans (hbz.mono HZ.out.size)
  clear hbz
  go_wp2
  go_ret
  exact ⟨rfl,HBz.out⟩
end Go.Proofs.YtinjccfhhdidiaaGreat.Nm
