import Derived.Test.YtinjccfhhdidiaaGreatK44
import Derived.Deep.SlicePairs
import Derived.Test.YtinjccfhhdidiaaGreatK43
set_option maxRecDepth 100000
namespace Go.Proofs.YtinjccfhhdidiaaGreat.Nm
open Go.ChangeShapes Go.WideShapes Go.ChangeAt Go.RowKit Go.Deep Sp Lx Gr
theorem cellsP:Tryz.prog.cellsOf 27=8:=by kernel_rfl
theorem cellsR:Tryz.prog.cellsOf 22=1:=by kernel_rfl
theorem cellsQ:Tryz.prog.cellsOf 23=1:=by kernel_rfl
theorem cellsSS:Tryz.prog.cellsOf 24=1:=by kernel_rfl
theorem cellsII:Tryz.prog.cellsOf 25=1:=by kernel_rfl
theorem cellsS:Tryz.prog.cellsOf 9=1:=by kernel_rfl
theorem cellsI:Tryz.prog.cellsOf 3=1:=by kernel_rfl
theorem cellsB:Tryz.prog.cellsOf 4=1:=by kernel_rfl
theorem cellsQu:Tryz.prog.cellsOf 61=2:=by kernel_rfl
theorem eight {α:Type} {l:List α} (h:l.length=8):∃ a b c d e f g i,l=[a,b,c,d,e,f,g,i]:=by
 match l,h with
 | [a,b,c,d,e,f,g,i],_=>exact ⟨a,b,c,d,e,f,g,i,rfl⟩
section
variable {H:Type} {enc:TypeId × Value->H} {W:World}
theorem slice_shape {t e:TypeId} {n:Nat} {a:Value} {y:DataW H × List MemPlace} (ht:Tryz.prog.underlying t=some (.slice e)) (h:DataW.trod enc Tryz.prog W 0 (fun _=>true) true n t [a]=some y):
  ∃ ao len cap,a=.slice ao len cap/\(ao=none->cap=0)/\DataW.Trod enc Tryz.prog W 0 (fun _=>true) true t (.slice ao len cap) y.1 y.2:=by
 rcases open_slice ht h with ⟨hcs,_⟩ | ⟨x,l,c,m,k,D,Pl,hcs,_⟩
 ·cases hcs
  exact ⟨none,0,0,rfl,fun _=>rfl,n,by simpa [Value.cells] using h⟩
 ·cases hcs
  exact ⟨some x,l,c,rfl,(fun e=>by cases e),n,by simpa [Value.cells] using h⟩
theorem strs_vals {ao:Option Addr} {ss:List ByteArray} (h:IsStrs W ao ss):IsVals W ao (ss.map Value.string):=fun k x hx=>by
 rw [List.getElem?_map] at hx
 cases hs:ss[k]? with
 | none=>rw [hs] at hx;cases hx
 | some s=>
  rw [hs] at hx
  cases hx
  exact h k s hs
theorem ints_vals {ao:Option Addr} {len:Nat} {z:Nat->Int} (h:IsInts W ao len z):IsVals W ao (iv ((List.range len).map z)):=fun k x hx=>by
 have hk:k < len:=by
  have:=(List.getElem?_eq_some_iff.1 hx).1
  simpa [iv] using this
 have e:x=.int .i64 (z k):=by
  rw [show (iv ((List.range len).map z))[k]?=some (.int .i64 (z k)) by simp [iv,hk]] at hx
  cases hx
  rfl
 subst e
 exact h k hk
theorem open_queues {a:Option Addr} {len cap:Nat} {d:DataW H} {p:List MemPlace} (h:DataW.Trod enc Tryz.prog W 0 (fun _=>true) true 23 (.slice a len cap) d p):∃ qs:List (ByteArray × Bool),qs.length=len/\IsVals W a (qF qs):=by
 obtain ⟨fuel,hf⟩:=h
 rcases open_slice_pairs Tryz.underlying23 Tryz.underlying61 cellsQu rfl rfl cellsS cellsB hf with ⟨hcs,_⟩ | ⟨x,l,c,m,n,V0,V1,D0,D1,P0,P1,hcs,_,hl,hm,hmm,hx,hcell⟩
 ·simp [Value.cells] at hcs
  obtain ⟨rfl,rfl,rfl⟩:=hcs
  exact ⟨[],rfl,fun i y hy=>by simp [qF] at hy⟩
 ·simp [Value.cells] at hcs
  obtain ⟨rfl,rfl,rfl⟩:=hcs
  simp only [if_true] at hmm
  subst hmm
  have each:∀ i,i < len->∃ q:ByteArray × Bool,V0 i=.string q.1/\V1 i=.bool q.2:=fun i hi=>by
   obtain ⟨_,_,t0,t1⟩:=hcell i (by omega)
   obtain ⟨s,e0,_⟩:=DataW.trod_string Tryz.underlying9 t0
   obtain ⟨b,e1,_⟩:=DataW.trod_bool Tryz.underlying4 t1
   simp only [List.cons.injEq,and_true] at e0 e1
   exact ⟨(s,b),e0,e1⟩
  haveI:Inhabited (ByteArray × Bool):=⟨(⟨#[]⟩,false)⟩
  obtain ⟨q,hq⟩:=choose_lt each
  have hat:∀ (qs:List (ByteArray × Bool)) (k:Nat) (y:Value),(qF qs)[k]?=some y->∃ i,∃ hi:i < qs.length,(k=i * 2/\y=.string qs[i].1)\/(k=i * 2+1/\y=.bool qs[i].2):=by
   intro qs
   induction qs with
   | nil=>intro k y hy;simp [qF] at hy
   | cons z qs ih=>
    intro k y hy
    have e:qF (z :: qs)=[.string z.1,.bool z.2]++qF qs:=by simp [qF]
    rw [e] at hy
    match k with
    | 0=>exact ⟨0,by simp,Or.inl ⟨rfl,by simpa using hy.symm⟩⟩
    | 1=>exact ⟨0,by simp,Or.inr ⟨rfl,by simpa using hy.symm⟩⟩
    | k+2=>
     obtain ⟨i,hi,hh⟩:=ih k y (by simpa using hy)
     refine ⟨i+1,by simpa using hi,?_⟩
     rcases hh with ⟨rfl,rfl⟩ | ⟨rfl,rfl⟩
     ·exact Or.inl ⟨by omega,by simp⟩
     ·exact Or.inr ⟨by omega,by simp⟩
  obtain ⟨b,off,spot⟩:=x
  refine ⟨(List.range len).map q,by simp,fun k y hy=>?_⟩
  obtain ⟨i,hi,hh⟩:=hat _ k y hy
  have hil:i < len:=by simpa using hi
  obtain ⟨c0,c1,_,_⟩:=hcell i (by omega)
  have hspot:spot=none:=by
   have z0:=(hcell 0 (by omega)).1
   simp [Addr.add] at z0
   simpa using World.cell?_spot z0
  subst hspot
  rw [Lib.addr_add] at c0 c1
  rw [(hq i hil).1] at c0
  rw [(hq i hil).2] at c1
  rcases hh with ⟨rfl,rfl⟩ | ⟨rfl,rfl⟩
  ·exact ⟨b,off,rfl,World.block_lt_of_cell? W _ c0,by simpa using c0⟩
  ·exact ⟨b,off,rfl,World.block_lt_of_cell? W _ c0,by simpa [Nat.add_assoc] using c1⟩
theorem open_pol {base:Nat} {v:Value} {d:DataW H} {p:List MemPlace} (hv:Value.okWide Tryz.prog W .any base 27 v) (h:DataW.Trod enc Tryz.prog W 0 (fun _=>true) true 27 v d p):
  ∃ (P:Pg) (ao qo vo tto uo oo:Option Addr) (ac qc vc tc uc oc:Nat) (d0 d1 d2 d3 d4 d5 d6 d7:DataW H),v=pvG P ao qo vo tto uo oo ac qc vc tc uc oc/\RdG W P ao qo vo tto uo oo/\((qo=none->qc=0)/\(vo=none->vc=0)/\(tto=none->tc=0)/\(uo=none->uc=0)/\(oo=none->oc=0))/\(∀ r ∈ P.rows,r.kids<=9223372036854775807)/\d=.agg [d0,d1,d2,d3,d4,d5,d6,d7]/\(P.rows=[]\/∃ sp,d1=.slice (P.rows.map dz) sp):=by
 obtain ⟨cs,rfl,hcs⟩:=okWide_struct Tryz.underlying27 hv
 obtain ⟨fuel,hf⟩:=h
 obtain ⟨xs,n,_,hxy,hl,hxl,hfs⟩:=DataW.trod_struct Tryz.underlying27 hf
 have hc:(Value.agg cs).cells=cs:=rfl
 rw [hc] at hl hfs
 rw [cellsP] at hl
 have hxl8:xs.length=8:=hxl
 obtain ⟨y0,y1,y2,y3,y4,y5,y6,y7,rfl⟩:=eight hxl8
 obtain ⟨a0,a1,a2,a3,a4,a5,a6,a7,hcl⟩:=eight hl
 rw [hcl] at hfs
 have g0:=hfs 0 _ rfl
 have g1:=hfs 1 _ rfl
 have g2:=hfs 2 _ rfl
 have g3:=hfs 3 _ rfl
 have g4:=hfs 4 _ rfl
 have g5:=hfs 5 _ rfl
 have g6:=hfs 6 _ rfl
 have g7:=hfs 7 _ rfl
 simp [cellsS,cellsR,cellsQ,cellsSS,cellsII,cellsI] at g0 g1 g2 g3 g4 g5 g6 g7
 obtain ⟨nm,e0,_,_⟩:=DataW.trod_string Tryz.underlying9 g0
 obtain ⟨ao,ln1,ac,rfl,_,t1⟩:=slice_shape Tryz.underlying22 g1
 obtain ⟨qo,ln2,qc,rfl,n2,t2⟩:=slice_shape Tryz.underlying23 g2
 obtain ⟨vo,ln3,vc,rfl,n3,t3⟩:=slice_shape Tryz.underlying24 g3
 obtain ⟨tto,ln4,tc,rfl,n4,t4⟩:=slice_shape Tryz.underlying24 g4
 obtain ⟨uo,ln5,uc,rfl,n5,t5⟩:=slice_shape Tryz.underlying25 g5
 obtain ⟨oo,ln6,oc,rfl,n6,t6⟩:=slice_shape Tryz.underlying25 g6
 obtain ⟨ms,e7,_,_⟩:=DataW.trod_int Tryz.underlying3 g7
 obtain ⟨l,rfl,_,hr,hk,hd1⟩:=open_rowsZ t1
 obtain ⟨qs,rfl,hq⟩:=open_queues t2
 obtain ⟨vs,rfl,_,hvs,_⟩:=open_texts t3
 obtain ⟨ts,rfl,_,hts,_⟩:=open_texts t4
 obtain ⟨z5,hz5,_⟩:=open_nums t5
 obtain ⟨z6,hz6,_⟩:=open_nums t6
 simp only [List.cons.injEq,and_true] at e0 e7
 subst e0 e7
 simp only [Prod.mk.injEq,List.map_cons,List.map_nil] at hxy
 refine ⟨⟨nm,l,qs,vs,ts,(List.range ln5).map z5,(List.range ln6).map z6,ms⟩,ao,qo,vo,tto,uo,oo,ac,qc,vc,tc,uc,oc,y0.1,y1.1,y2.1,y3.1,y4.1,y5.1,y6.1,y7.1,?_,⟨hr,hq,strs_vals hvs,strs_vals hts,ints_vals hz5,ints_vals hz6⟩,⟨n2,n3,n4,n5,n6⟩,hk,hxy.1,hd1⟩
 have ha:cs=#[.string nm,.slice ao l.length ac,.slice qo qs.length qc,.slice vo vs.length vc,.slice tto ts.length tc,.slice uo ln5 uc,.slice oo ln6 oc,.int .i64 ms]:=by
  apply Array.toList_inj.1
  exact hcl
 rw [ha]
 simp [pvG]
end
theorem pol_reach {H:Type} {ts:List TypeId} {ds:List (DataW H)} (hsz:(DataW.weightsEach Tryz.prog ts ds).all (· <= reachBytes)=true) {j:Nat} {l:List Rz} {d0 d1 d2 d3 d4 d5 d6 d7:DataW H} (ht:ts[j]?=some 27) (hd:ds[j]?=some (.agg [d0,d1,d2,d3,d4,d5,d6,d7])) (h:l=[]\/∃ sp,d1=.slice (l.map dz) sp):
  l.length<=2932031007317/\∀ r ∈ l,r.name.size<=140737488351232:=by
 have hs:(DataW.weightsEach Tryz.prog [9,22,23,24,24,25,25,3] [d0,d1,d2,d3,d4,d5,d6,d7]).all (· <= reachBytes)=true:=by
  refine List.all_eq_true.2 fun x hx=>?_
  refine List.all_eq_true.1 hsz x (DataW.weights_mem_each ht hd x ?_)
  simpa [DataW.weights,Tryz.underlying27] using hx
 exact rows_reach hs (j:=1) rfl rfl h
theorem cellsT:Tryz.prog.cellsOf 30=3:=by kernel_rfl
theorem cellsV:Tryz.prog.cellsOf 28=1:=by kernel_rfl
theorem cellsVr:Tryz.prog.cellsOf 64=3:=by kernel_rfl
theorem three {α:Type} {l:List α} (h:l.length=3):∃ a b c,l=[a,b,c]:=by
 match l,h with
 | [a,b,c],_=>exact ⟨a,b,c,rfl⟩
section
variable {H:Type} {enc:TypeId × Value->H} {W:World}
theorem open_var {base n:Nat} {sp:Nat->Bool} {hd:Bool} {cs:List Value} {d:DataW H} {pl:List MemPlace} (h:DataW.trod enc Tryz.prog W base sp hd n 64 cs=some (d,pl)):∃ v:Int × Int × Int,cs=[.int .i64 v.1,.int .i64 v.2.1,.int .i64 v.2.2]:=by
 obtain ⟨xs,k,hk,hxy,hl,hxl,hf⟩:=DataW.trod_struct Tryz.underlying64 h
 rw [cellsVr] at hl
 have hxl3:xs.length=3:=hxl
 obtain ⟨y0,y1,y2,rfl⟩:=three hxl3
 obtain ⟨v0,v1,v2,rfl⟩:=three hl
 have g0:=hf 0 _ rfl
 have g1:=hf 1 _ rfl
 have g2:=hf 2 _ rfl
 simp [cellsI] at g0 g1 g2
 obtain ⟨a0,e0,_,_⟩:=DataW.trod_int Tryz.underlying3 g0
 obtain ⟨a1,e1,_,_⟩:=DataW.trod_int Tryz.underlying3 g1
 obtain ⟨a2,e2,_,_⟩:=DataW.trod_int Tryz.underlying3 g2
 simp only [List.cons.injEq,and_true] at e0 e1 e2
 subst e0 e1 e2
 exact ⟨(a0,a1,a2),rfl⟩
theorem vF_cut (l:List (Int × Int × Int)) (k:Nat) (y:Value) (h:(vF l)[k]?=some y):∃ i,∃ hi:i < l.length,(k=i * 3/\y=.int .i64 l[i].1)\/(k=i * 3+1/\y=.int .i64 l[i].2.1)\/(k=i * 3+2/\y=.int .i64 l[i].2.2):=by
 induction l generalizing k with
 | nil=>simp [vF] at h
 | cons z l ih=>
  have e:vF (z :: l)=[.int .i64 z.1,.int .i64 z.2.1,.int .i64 z.2.2]++vF l:=by simp [vF]
  rw [e] at h
  match k with
  | 0=>exact ⟨0,by simp,Or.inl ⟨rfl,by simpa using h.symm⟩⟩
  | 1=>exact ⟨0,by simp,Or.inr (Or.inl ⟨rfl,by simpa using h.symm⟩)⟩
  | 2=>exact ⟨0,by simp,Or.inr (Or.inr ⟨rfl,by simpa using h.symm⟩)⟩
  | k+3=>
   obtain ⟨i,hi,hh⟩:=ih k (by simpa using h)
   refine ⟨i+1,by simpa using hi,?_⟩
   rcases hh with ⟨rfl,rfl⟩ | ⟨rfl,rfl⟩ | ⟨rfl,rfl⟩
   ·exact Or.inl ⟨by omega,by simp⟩
   ·exact Or.inr (Or.inl ⟨by omega,by simp⟩)
   ·exact Or.inr (Or.inr ⟨by omega,by simp⟩)
theorem open_vars {a:Option Addr} {len cap:Nat} {d:DataW H} {p:List MemPlace} (h:DataW.Trod enc Tryz.prog W 0 (fun _=>true) true 28 (.slice a len cap) d p):∃ l:List (Int × Int × Int),l.length=len/\IsVals W a (vF l):=by
 obtain ⟨fuel,hf⟩:=h
 rcases open_slice Tryz.underlying28 hf with ⟨hcs,_⟩ | ⟨x,l,c,m,n,D,Pl,hcs,_,hl,hm,hmm,hx,hcell⟩
 ·simp [Value.cells] at hcs
  obtain ⟨rfl,rfl,rfl⟩:=hcs
  exact ⟨[],rfl,fun i y hy=>by simp [vF] at hy⟩
 ·simp [Value.cells] at hcs
  obtain ⟨rfl,rfl,rfl⟩:=hcs
  simp only [if_true] at hmm
  subst hmm
  have each:∀ i,i < len->∃ v:Int × Int × Int,W.cells? 0 (x.add (i * 3)) 3=some [.int .i64 v.1,.int .i64 v.2.1,.int .i64 v.2.2]:=by
   intro i hi
   obtain ⟨cs',h1,h2⟩:=hcell i (by omega)
   obtain ⟨r,rfl⟩:=open_var h2
   rw [cellsVr] at h1
   exact ⟨r,h1⟩
  haveI:Inhabited (Int × Int × Int):=⟨(0,0,0)⟩
  obtain ⟨q,hq⟩:=choose_lt each
  obtain ⟨b,off,spot⟩:=x
  refine ⟨(List.range len).map q,by simp,fun k y hy=>?_⟩
  obtain ⟨i,hi,hh⟩:=vF_cut _ k y hy
  have hil:i < len:=by simpa using hi
  have hspot:spot=none:=by
   obtain ⟨_,_,gc⟩:=World.cells?_some (hq 0 (by omega))
   have g0:=gc 0 (by omega)
   simp [Addr.add] at g0
   simpa [Addr.add] using World.cell?_spot g0
  subst hspot
  obtain ⟨_,_,hc⟩:=World.cells?_some (hq i hil)
  have e0:=hc 0 (by omega)
  have e1:=hc 1 (by omega)
  have e2:=hc 2 (by omega)
  rw [add_add] at e0 e1 e2
  simp at e0 e1 e2
  rw [Lib.addr_add] at e0 e1 e2
  simp only [List.getElem_map,List.getElem_range] at hh
  rcases hh with ⟨rfl,rfl⟩ | ⟨rfl,rfl⟩ | ⟨rfl,rfl⟩
  ·exact ⟨b,off,rfl,World.block_lt_of_cell? W _ e0,e0⟩
  ·exact ⟨b,off,rfl,World.block_lt_of_cell? W _ e0,e1⟩
  ·exact ⟨b,off,rfl,World.block_lt_of_cell? W _ e0,e2⟩
theorem open_typ {base:Nat} {v:Value} {d:DataW H} {p:List MemPlace} (hv:Value.okWide Tryz.prog W .any base 30 v) (h:DataW.Trod enc Tryz.prog W 0 (fun _=>true) true 30 v d p):
  ∃ (xo yo eo:Option Addr) (cx cy ec:Nat) (vl:List (Int × Int × Int)) (tg rd:List Int),v=.agg #[.slice xo vl.length cx,.slice yo tg.length cy,.slice eo rd.length ec]/\(IsVals W xo (vF vl)/\IsVals W yo (iv tg)/\IsVals W eo (iv rd))/\(xo=none->cx=0)/\(yo=none->cy=0)/\(eo=none->ec=0):=by
 obtain ⟨cs,rfl,hcs⟩:=okWide_struct Tryz.underlying30 hv
 obtain ⟨fuel,hf⟩:=h
 obtain ⟨xs,n,_,hxy,hl,hxl,hfs⟩:=DataW.trod_struct Tryz.underlying30 hf
 have hc:(Value.agg cs).cells=cs:=rfl
 rw [hc] at hl hfs
 rw [cellsT] at hl
 have hxl3:xs.length=3:=hxl
 obtain ⟨y0,y1,y2,rfl⟩:=three hxl3
 obtain ⟨a0,a1,a2,hcl⟩:=three hl
 rw [hcl] at hfs
 have g0:=hfs 0 _ rfl
 have g1:=hfs 1 _ rfl
 have g2:=hfs 2 _ rfl
 simp [cellsV,cellsII] at g0 g1 g2
 obtain ⟨xo,ln0,cx,rfl,n0,t0⟩:=slice_shape Tryz.underlying28 g0
 obtain ⟨yo,ln1,cy,rfl,n1,t1⟩:=slice_shape Tryz.underlying25 g1
 obtain ⟨eo,ln2,ec,rfl,n2,t2⟩:=slice_shape Tryz.underlying25 g2
 obtain ⟨vl,rfl,hvl⟩:=open_vars t0
 obtain ⟨z1,hz1,_⟩:=open_nums t1
 obtain ⟨z2,hz2,_⟩:=open_nums t2
 refine ⟨xo,yo,eo,cx,cy,ec,vl,(List.range ln1).map z1,(List.range ln2).map z2,?_,⟨hvl,ints_vals hz1,ints_vals hz2⟩,n0,n1,n2⟩
 have ha:cs=#[.slice xo vl.length cx,.slice yo ln1 cy,.slice eo ln2 ec]:=by
  apply Array.toList_inj.1
  exact hcl
 rw [ha]
 simp
end
end Go.Proofs.YtinjccfhhdidiaaGreat.Nm
namespace Go.Proofs.YtinjccfhhdidiaaGreat.costBounds
open Go.ChangeShapes Go.WideShapes Go.ChangeAt Go.RowKit
open Sp Lx Gr Nm
theorem contractF (H:Type) (enc:TypeId × Value->H) (W:World) (base:Nat) (args:Array Value) (ds gs:List (DataW H)) (before:List MemPlace)
  (hval:∀ (j:Nat) t v,Tryz.f3.params[j]?=some t->args[j]?=some v->Value.okWide Tryz.prog W .any base t v)
  (hW:DataW.Whole enc Tryz.prog Tryz.f3.params.toList Rows.costBoundsSpec.vars false W args.toList ds gs before)
  (hsz:(DataW.weightsEach Tryz.prog (Tryz.f3.params.toList++Rows.costBoundsSpec.plain.varTypes Tryz.prog) (ds++gs)).all (· <= reachBytes)=true):
  Calls Tryz.prog 3 args W fun e W'=>∃ v,e=.returned v/\Rows.costBoundsSpec.post enc Tryz.prog Tryz.f3 false true false false W args v W':=by
 have hW':=hW
 obtain ⟨p,q,hA0,hV,rfl,hfz,hnd⟩:=hW
 have hA:DataW.TrodAll enc Tryz.prog W 0 (fun _=>true) true Tryz.f3.params.toList args.toList ds p:=hA0
 rw [Tryz.params3] at hA hval hsz
 obtain ⟨v0,vs0,d0,ds0,p0,q0,hargs,rfl,rfl,h0,r0⟩:=trodAll_cons hA
 obtain ⟨v1,vs1,d1,ds1,p1,q1,rfl,rfl,rfl,h1,r1⟩:=trodAll_cons r0
 obtain ⟨rfl,rfl,rfl⟩:=trodAll_nil r1
 obtain rfl:args=#[v0,v1]:=by cases args;simp_all
 obtain ⟨rfl,rfl⟩:=trodVars_none hV
 have lt0:∀ x ∈ p0,x.block < W.heap.size:=by obtain ⟨m,hm⟩:=h0;exact DataW.trod_lt m _ _ _ hm
 have lt1:∀ x ∈ p1,x.block < W.heap.size:=by obtain ⟨m,hm⟩:=h1;exact DataW.trod_lt m _ _ _ hm
 obtain ⟨P,ao,qo,vo,tto,uo,oo,ac,qc,vc,tc,uc,oc,e0,e1,e2,e3,e4,e5,e6,e7,rfl,hrd,hnil,hk,rfl,hd1⟩:=open_pol (hval 0 27 v0 rfl rfl) h0
 have hpr:=pol_reach hsz (j:=0) rfl rfl hd1
 obtain ⟨xo,yo,eo,cx,cy,ec,vl,tg,rd,rfl,hvs,m1,m2,m3⟩:=open_typ (hval 1 30 v1 rfl rfl) h1
 refine (boundsWalk P ao qo vo tto uo oo ac qc vc tc uc oc xo yo eo cx cy ec vl tg rd W hrd hpr.1 (fun r hr=>⟨hk r hr,by have:=hpr.2 r hr;omega⟩) hnil.1 hnil.2.1 hnil.2.2.1 hnil.2.2.2.1 hnil.2.2.2.2 hvs.1 hvs.2.1 hvs.2.2 m1 m2 m3).mono fun e W2 ⟨he,bel⟩=>?_
 subst he
 exact ⟨_,rfl,_,_,_,[],_,[],hW',trodAll_mk1 (shut_bool Tryz.underlying4 _),(trodAll_cons_mk (Below.trod laidOut (by kernel_rfl) (of_decide_eq_true (by kernel_rfl)) h0 bel lt0) (trodAll_cons_mk (Below.trod laidOut (by kernel_rfl) (of_decide_eq_true (by kernel_rfl)) h1 bel lt1) trodAll_mk0)),rfl,bel.frame _,fun h=>by cases h⟩
theorem liftedF (os:Os) (started:os.Started) (H:Type) (enc:TypeId × Value->H):
  ReturnsInHanded {} Tryz.checked os 3 .any (Rows.costBoundsSpec.pre6 enc Tryz.prog Tryz.f3 Rows.costBoundsRow.domain false) (Rows.costBoundsSpec.post enc Tryz.prog Tryz.f3 false true false false):=by
 refine returnsInHanded_of_change_sized (C:=Tryz.checked) own started (by kernel_rfl) Tryz.func3
  (ChangeSpec.witness6 (enc:=enc) (C:=Tryz.checked) false ⟨#[],#[.agg #[.string ⟨#[]⟩,.slice none 0 0,.slice none 0 0,.slice none 0 0,.slice none 0 0,.slice none 0 0,.slice none 0 0,.int .i64 0],.agg #[.slice none 0 0,.slice none 0 0,.slice none 0 0]],[]⟩ 8 (by kernel_rfl) (by kernel_rfl) (by kernel_rfl) (by kernel_rfl)) ?_
 intro W base args ds gs before hval hW _ hsz _
 exact contractF H enc W base args ds gs before hval hW hsz
theorem provedF:Rows.CostBoundsSaid:=
 OpenClaim.holds_of_wide 3 Tryz.f3 rfl rfl rfl rfl rfl rfl rfl ⟨rfl,rfl,rfl,rfl,rfl⟩ rfl rfl rfl rfl rfl (by kernel_rfl) Tryz.func3 (by kernel_rfl)
  (of_decide_eq_true (by kernel_rfl)) (by unfold Func.isWrapper;first | (rw [if_pos (by decide +kernel)];kernel_rfl) | (rw [if_neg (by decide +kernel)];exact ⟨rfl,rfl⟩))
  (fun os started H enc _=>liftedF os started H enc)
end Go.Proofs.YtinjccfhhdidiaaGreat.costBounds
