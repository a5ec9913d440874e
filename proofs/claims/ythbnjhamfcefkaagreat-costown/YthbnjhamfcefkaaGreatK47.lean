import Derived.Test.YthbnjhamfcefkaaGreatK46
import Derived.Deep.Slices
import Derived.ChangeSame
import Derived.Deep.SlicePairs
namespace Go.Proofs.YthbnjhamfcefkaaGreat.Gr
open Go.ChangeShapes Go.WideShapes Go.ChangeAt Go.RowKit Go.Deep Sp Lx
theorem cells51:Tryz.prog.cellsOf 51=5:=by kernel_rfl
theorem cells3:Tryz.prog.cellsOf 3=1:=by kernel_rfl
theorem cells9:Tryz.prog.cellsOf 9=1:=by kernel_rfl
instance:Inhabited Rz:=⟨rz0⟩
def dz {H:Type} (r:Rz):DataW H:=.agg [.lit (.int .i64 r.kind),.lit (.string r.name.data.toList),.lit (.int .i64 r.stop),.lit (.int .i64 r.n),.lit (.int .i64 r.kids)]
theorem wf_le {n:Int} (h:(Lit.int .i64 n).wf=true):n<=9223372036854775807:=by
 simp [Lit.wf] at h
 omega
theorem five {α:Type} {l:List α} (h:l.length=5):∃ a b c d e,l=[a,b,c,d,e]:=by
 match l,h with
 | [a,b,c,d,e],_=>exact ⟨a,b,c,d,e,rfl⟩
theorem open_one {H:Type} {enc:TypeId × Value->H} {W:World} {base n:Nat} {sp:Nat->Bool} {hd:Bool} {cs:List Value} {d:DataW H} {pl:List MemPlace} (h:DataW.trod enc Tryz.prog W base sp hd n 51 cs=some (d,pl)):
  ∃ r:Rz,cs=[.int .i64 r.kind,.string r.name,.int .i64 r.stop,.int .i64 r.n,.int .i64 r.kids]/\d=dz r/\r.kids<=9223372036854775807:=by
 obtain ⟨xs,k,hk,hxy,hl,hxl,hf⟩:=DataW.trod_struct Tryz.underlying51 h
 rw [cells51] at hl
 have hxl5:xs.length=5:=hxl
 obtain ⟨y0,y1,y2,y3,y4,rfl⟩:=five hxl5
 obtain ⟨v0,v1,v2,v3,v4,rfl⟩:=five hl
 have g0:=hf 0 _ rfl
 have g1:=hf 1 _ rfl
 have g2:=hf 2 _ rfl
 have g3:=hf 3 _ rfl
 have g4:=hf 4 _ rfl
 simp [cells3,cells9] at g0 g1 g2 g3 g4
 obtain ⟨a0,e0,f0,_⟩:=DataW.trod_int Tryz.underlying3 g0
 obtain ⟨a1,e1,f1,_⟩:=DataW.trod_string Tryz.underlying9 g1
 obtain ⟨a2,e2,f2,_⟩:=DataW.trod_int Tryz.underlying3 g2
 obtain ⟨a3,e3,f3,_⟩:=DataW.trod_int Tryz.underlying3 g3
 obtain ⟨a4,e4,f4,w4⟩:=DataW.trod_int Tryz.underlying3 g4
 simp only [List.cons.injEq,and_true] at e0 e1 e2 e3 e4
 subst e0 e1 e2 e3 e4 f0 f1 f2 f3 f4
 simp only [Prod.mk.injEq] at hxy
 exact ⟨⟨a0,a1,a2,a3,a4⟩,rfl,by simpa [dz] using hxy.1,wf_le w4⟩
theorem open_rowsZ {H:Type} {enc:TypeId × Value->H} {W:World} {a:Option Addr} {len cap:Nat} {d:DataW H} {p:List MemPlace} (h:DataW.Trod enc Tryz.prog W 0 (fun _=>true) true 25 (.slice a len cap) d p):
  ∃ l:List Rz,l.length=len/\len<=cap/\IsRz W a l/\(∀ r ∈ l,r.kids<=9223372036854775807)/\(l=[]\/∃ sp,d=.slice (l.map dz) sp):=by
 obtain ⟨fuel,hf⟩:=h
 rcases open_slice Tryz.underlying25 hf with ⟨hcs,_⟩ | ⟨x,l,c,m,n,D,Pl,hcs,_,hl,hm,hmm,hx,hcell⟩
 ·simp [Value.cells] at hcs
  obtain ⟨rfl,rfl,rfl⟩:=hcs
  exact ⟨[],rfl,Nat.le_refl _,fun i x hx=>(by simp at hx),fun r hr=>(by cases hr),Or.inl rfl⟩
 ·simp [Value.cells] at hcs
  obtain ⟨rfl,rfl,rfl⟩:=hcs
  simp only [if_true] at hmm
  subst hmm
  simp only [Prod.mk.injEq] at hx
  have each:∀ i,i < len->∃ r:Rz,W.cells? 0 (x.add (i * 5)) 5=some [.int .i64 r.kind,.string r.name,.int .i64 r.stop,.int .i64 r.n,.int .i64 r.kids]/\D i=dz r/\r.kids<=9223372036854775807:=by
   intro i hi
   obtain ⟨cs',h1,h2⟩:=hcell i (by omega)
   obtain ⟨r,rfl,h4,h5⟩:=open_one h2
   rw [cells51] at h1
   exact ⟨r,h1,h4,h5⟩
  obtain ⟨q,hq⟩:=choose_lt each
  refine ⟨(List.range len).map q,by simp,hl,fun i r hr=>?_,fun r hr=>?_,Or.inr ⟨(List.range (m - len)).map fun j=>D (len+j),?_⟩⟩
  ·have hi:i < len:=by
    have:=(List.getElem?_eq_some_iff.1 hr).1
    simpa using this
   have hri:q i=r:=by simpa [hi] using hr
   obtain ⟨h1,_,_⟩:=hq i hi
   rw [hri] at h1
   obtain ⟨_,hlen,hc⟩:=World.cells?_some h1
   have e0:=hc 0 (by omega)
   have e1:=hc 1 (by omega)
   have e2:=hc 2 (by omega)
   have e3:=hc 3 (by omega)
   have e4:=hc 4 (by omega)
   rw [add_add] at e0 e1 e2 e3 e4
   simp at e0 e1 e2 e3 e4
   obtain ⟨b,off,spot⟩:=x
   have hspot:spot=none:=by
    obtain ⟨g1,_,_⟩:=hq 0 (by omega)
    obtain ⟨_,_,gc⟩:=World.cells?_some g1
    have g0:=gc 0 (by omega)
    simp [Addr.add] at g0
    simpa [Addr.add] using World.cell?_spot g0
   subst hspot
   rw [Lib.addr_add] at e0 e1 e2 e3 e4
   refine ⟨b,off,rfl,World.block_lt_of_cell? W _ e0,e0,?_,?_,?_,?_⟩
   ·rw [Nat.add_assoc];exact e1
   ·rw [Nat.add_assoc];exact e2
   ·rw [Nat.add_assoc];exact e3
   ·rw [Nat.add_assoc];exact e4
  ·obtain ⟨i,hi,rfl⟩:=List.mem_map.1 hr
   exact (hq i (List.mem_range.1 hi)).2.2
  ·rw [hx.1]
   congr 1
   rw [List.map_map]
   exact List.map_congr_left fun i hi=>(hq i (List.mem_range.1 hi)).2.1
theorem weights_all {H:Type} {P:Program} {e:TypeId} {d:DataW H} {l:List (DataW H)} (h:d ∈ l):∀ n ∈ d.weights P e,n ∈ DataW.weightsAll P e l:=by
 induction l with
 | nil=>cases h
 | cons x r ih=>
  intro n hn
  simp only [DataW.weightsAll,List.mem_append]
  rcases List.mem_cons.1 h with rfl | h1
  ·exact Or.inl hn
  ·exact Or.inr (ih h1 n hn)
end Go.Proofs.YthbnjhamfcefkaaGreat.Gr
set_option linter.unusedSimpArgs false
namespace Go.Proofs.YthbnjhamfcefkaaGreat.Nm.Ty
open Go.ChangeShapes Go.WideShapes Go.ChangeAt Go.RowKit Go.Deep Sp Lx Gr Nm
theorem cellsRows:Tryz.prog.cellsOf 25=1:=by kernel_rfl
structure Tr where
 a:Option Addr
 l:List Rz
 c:Nat
instance:Inhabited Tr:=⟨⟨none,[],0⟩⟩
def trV (x:Tr):Value:=.slice x.a x.l.length x.c
section
variable {H:Type} {enc:TypeId × Value->H} {W:World}
theorem slice_shape {t e:TypeId} {n:Nat} {a:Value} {y:DataW H × List MemPlace} (ht:Tryz.prog.underlying t=some (.slice e)) (h:DataW.trod enc Tryz.prog W 0 (fun _=>true) true n t [a]=some y):
  ∃ ao len cap,a=.slice ao len cap/\DataW.Trod enc Tryz.prog W 0 (fun _=>true) true t (.slice ao len cap) y.1 y.2:=by
 rcases open_slice ht h with ⟨hcs,_⟩ | ⟨x,l,c,m,k,D,Pl,hcs,_⟩
 ·cases hcs
  exact ⟨none,0,0,rfl,n,by simpa [Value.cells] using h⟩
 ·cases hcs
  exact ⟨some x,l,c,rfl,n,by simpa [Value.cells] using h⟩
theorem open_rowss {a:Option Addr} {len cap:Nat} {d:DataW H} {p:List MemPlace} (h:DataW.Trod enc Tryz.prog W 0 (fun _=>true) true 22 (.slice a len cap) d p):
  ∃ L:List Tr,L.length=len/\IsVals W a (L.map trV)/\(∀ x ∈ L,IsRz W x.a x.l/\∀ r ∈ x.l,r.kids<=9223372036854775807)/\(L=[]\/∃ els sp,d=.slice els sp/\∀ x ∈ L,x.l=[]\/∃ sp',.slice (x.l.map dz) sp' ∈ els):=by
 obtain ⟨fuel,hf⟩:=h
 rcases open_slice Tryz.underlying22 hf with ⟨hcs,_⟩ | ⟨x,l,c,m,n,D,Pl,hcs,_,hl,hm,hmm,hx,hcell⟩
 ·simp [Value.cells] at hcs
  obtain ⟨rfl,rfl,rfl⟩:=hcs
  exact ⟨[],rfl,fun i x hx=>(by simp at hx),fun r hr=>(by cases hr),Or.inl rfl⟩
 ·simp [Value.cells] at hcs
  obtain ⟨rfl,rfl,rfl⟩:=hcs
  simp only [if_true] at hmm
  subst hmm
  simp only [Prod.mk.injEq] at hx
  have each:∀ i,i < len->∃ t:Tr,W.cells? 0 (x.add (i * 1)) 1=some [trV t]/\IsRz W t.a t.l/\(∀ r ∈ t.l,r.kids<=9223372036854775807)/\(t.l=[]\/∃ sp,D i=.slice (t.l.map dz) sp):=by
   intro i hi
   obtain ⟨cs',h1,h2⟩:=hcell i (by omega)
   rw [cellsRows] at h1
   have hlen:=(World.cells?_some h1).2.1
   obtain ⟨v,rfl⟩:=List.length_eq_one_iff.1 hlen
   obtain ⟨ao,ln,cp,rfl,ht⟩:=slice_shape Tryz.underlying25 h2
   obtain ⟨l,rfl,hlc,hIs,hk,hd⟩:=open_rowsZ ht
   exact ⟨⟨ao,l,cp⟩,h1,hIs,hk,hd⟩
  obtain ⟨q,hq⟩:=choose_lt each
  refine ⟨(List.range len).map q,by simp,fun k v hv=>?_,fun y hy=>?_,Or.inr ⟨(List.range len).map D,(List.range (m - len)).map fun j=>D (len+j),?_,fun y hy=>?_⟩⟩
  ·have hk:k < len:=by
    have:=(List.getElem?_eq_some_iff.1 hv).1
    simpa using this
   have hv':trV (q k)=v:=by simpa [hk] using hv
   obtain ⟨h1,_⟩:=hq k hk
   obtain ⟨_,_,hc⟩:=World.cells?_some h1
   have e0:=hc 0 (by omega)
   rw [add_add] at e0
   simp at e0
   rw [hv'] at e0
   obtain ⟨b,off,spot⟩:=x
   have hspot:spot=none:=by
    obtain ⟨g1,_⟩:=hq 0 (by omega)
    obtain ⟨_,_,gc⟩:=World.cells?_some g1
    have g0:=gc 0 (by omega)
    simp [Addr.add] at g0
    simpa [Addr.add] using World.cell?_spot g0
   subst hspot
   rw [Lib.addr_add] at e0
   exact ⟨b,off,rfl,World.block_lt_of_cell? W _ e0,e0⟩
  ·obtain ⟨i,hi,rfl⟩:=List.mem_map.1 hy
   have:=hq i (List.mem_range.1 hi)
   exact ⟨this.2.1,this.2.2.1⟩
  ·exact hx.1
  ·obtain ⟨i,hi,rfl⟩:=List.mem_map.1 hy
   rcases (hq i (List.mem_range.1 hi)).2.2.2 with h | ⟨sp,h⟩
   ·exact Or.inl h
   ·exact Or.inr ⟨sp,List.mem_map.2 ⟨i,hi,h⟩⟩
theorem rowss_reach {ts:List TypeId} {ds:List (DataW H)} (hsz:(DataW.weightsEach Tryz.prog ts ds).all (· <= reachBytes)=true) {j:Nat} {L:List Tr} {d:DataW H} (ht:ts[j]?=some 22) (hd:ds[j]?=some d) (h:L=[]\/∃ els sp,d=.slice els sp/\∀ x ∈ L,x.l=[]\/∃ sp',.slice (x.l.map dz) sp' ∈ els):∀ t ∈ L,∀ x ∈ t.l,x.name.size<=140737488351232:=by
 intro t htL x hx
 rcases h with rfl | ⟨els,sp,rfl,h⟩
 ·cases htL
 ·rcases h t htL with h | ⟨sp',hm⟩
  ·rw [h] at hx
   cases hx
  ·have h1:(dz x:DataW H) ∈ t.l.map dz:=List.mem_map.2 ⟨x,hx,rfl⟩
   have h2:=Gr.weights_all (P:=Tryz.prog) (e:=51) h1 x.name.data.toList.length (by simp [dz,DataW.weights,Tryz.underlying51,DataW.weightsEach])
   have h3:x.name.data.toList.length ∈ DataW.weights Tryz.prog 25 (.slice (t.l.map dz) sp'):=by
    simp only [DataW.weights,Tryz.underlying25]
    exact List.mem_cons_of_mem _ (List.mem_append_left _ h2)
   have h4:=Gr.weights_all (P:=Tryz.prog) (e:=25) hm _ h3
   have h5:=List.all_eq_true.1 hsz _ (DataW.weights_mem_each ht hd x.name.data.toList.length (by
    simp only [DataW.weights,Tryz.underlying22]
    exact List.mem_cons_of_mem _ (List.mem_append_left _ h4)))
   have h6:=of_decide_eq_true h5
   simpa [reachBytes] using h6
end
end Go.Proofs.YthbnjhamfcefkaaGreat.Nm.Ty
set_option linter.unusedSimpArgs false
namespace Go.Proofs.YthbnjhamfcefkaaGreat.Nm.Ty
open Go.RowKit Go.Maps Sp Lx Gr Nm
theorem resP_few {l:List Rz} (hl:l.length<=65536):(resP l).Sm/\(resP l).qs.length<=100/\(resP l).vs.length<=100/\(resP l).ts.length<=100/\(resP l).us.length<=100/\(resP l).on.length<=100:=by
 unfold resP
 cases h:res l with
 | error ci=>exact ⟨⟨by simp [zeroG],by simp [zeroG],by simp [zeroG],by simp [zeroG],by simp [zeroG],by simp [zeroG]⟩,by simp [zeroG],by simp [zeroG],by simp [zeroG],by simp [zeroG],by simp [zeroG]⟩
 | ok p=>
  have hs:=(res_sm (by omega) h).1
  refine ⟨hs,?_⟩
  unfold res at h
  split at h
  ·cases h
  ·rename_i hc
   have hB:=base_of (chk_ok (by simpa using hc)).2
   unfold resR at h
   split at h
   ·cases h
   ·rename_i s hs
    have hg:=upto_good hB _ (Nat.le_refl _) hs
    split at h
    ·cases h
    ·cases h
     have:=hg.q
     have:=hg.v
     have:=hg.t
     have:=hg.u
     exact ⟨by show s.qs.length<=_;omega,by show s.vs.length<=_;omega,by show s.ts.length<=_;omega,by show (s.us.map _).length<=_;rw [List.length_map];omega,by show (onsOf _ _).length<=_;rw [onsOf_len];omega⟩
end Go.Proofs.YthbnjhamfcefkaaGreat.Nm.Ty
set_option linter.unusedSimpArgs false
namespace Go.Proofs.YthbnjhamfcefkaaGreat.Nm.Ty
open Go.RowKit Go.Maps Sp Lx Gr Nm
structure In (w wr w3 wq:World) (K:List Kc) (E:Nat->Option Ent) (ko:Option Addr) (kc n:Nat):Prop where
 be:Below w.heap.size w wq
 kp:Kp wq w.heap.size (.slice ko K.length kc) K E
 nl:K.length<=n
 ll:∀ x ∈ K,x.l.length<=17592186043904
 ob:∀ g,(Value.slice ko K.length kc).ownBlock=some g->g < wr.heap.size\/w3.heap.size<=g
 st:∀ q,wr.heap.size<=q->q < w3.heap.size->wq.heap[q]?=w3.heap[q]?
 le:w3.heap.size<=wq.heap.size
section
variable {w wr w3 wq wz:World} {K:List Kc} {E:Nat->Option Ent} {ko:Option Addr} {kc n:Nat}
theorem In.start (hb:Below w.heap.size w wr) (hk:Kp wr w.heap.size (.slice ko K.length kc) K E) (hn:K.length<=n) (hl:∀ x ∈ K,x.l.length<=17592186043904) (h3:Below wr.heap.size wr w3):In w wr w3 w3 K E ko kc n:=
 ⟨hb.trans (h3.mono hb.size),hk.below h3,hn,hl,fun g hg=>Or.inl (World.ownsRow.lt (hk.ap.ow 0 _ hk.z).2 g hg).2,fun _ _ _=>rfl,Nat.le_refl _⟩
theorem In.below (h:In w wr w3 wq K E ko kc n) (hb:Below wq.heap.size wq wz):In w wr w3 wz K E ko kc n:=
 ⟨h.be.trans (hb.mono h.be.size),h.kp.below hb,h.nl,h.ll,h.ob,fun q q1 q2=>(hb.block q (Nat.lt_of_lt_of_le q2 h.le)).trans (h.st q q1 q2),Nat.le_trans h.le hb.size⟩
theorem In.add (h:In w wr w3 wq K E ko kc n) (hw:w.heap.size < wq.heap.size) (hb:Below wq.heap.size wq wz) {v:Value} {l:List Int} (ho:wz.ownsRow wq.heap.size 3 1 v l.length (iv l)):In w wr w3 wz K (up E (K.length+1) (some ⟨wq.heap.size,3,1,v,l.length,iv l⟩)) ko kc n:=
 ⟨h.be.trans (hb.mono h.be.size),h.kp.add hb hw (Nat.le_refl _) ho,h.nl,h.ll,h.ob,(h.below hb).st,(h.below hb).le⟩
theorem In.app (h:In w wr w3 wq K E ko kc n) {b:Nat} {x:Kc} {v':Value} (hbw:b<=wq.heap.size) (hx:E (K.length+1)=some ⟨b,3,1,x.v,x.l.length,iv x.l⟩) (hxl:x.l.length<=17592186043904) (hg:wq.grownBy wz (Value.slice ko K.length kc).ownBlock) (ho:wz.ownsRow (w.heap.size+1) 40 2 v' (K.length+1) (K.flatMap kcC++kcC x)) (hbk:v'.ownBlock=(Value.slice ko K.length kc).ownBlock\/v'.ownBlock=some wq.heap.size):∃ E' ko' kc',v'=.slice ko' (K++[x]).length kc'/\In w wr w3 wz (K++[x]) E' ko' kc' (n+1):=by
 obtain ⟨ko',kc',rfl⟩:=own_form ho
 obtain ⟨E',hE⟩:=h.kp.app hbw hx hg ho hbk
 have hlen:(K++[x]).length=K.length+1:=by simp
 refine ⟨E',ko',kc',by rw [hlen],⟨⟨hg.os.trans h.be.os,hg.tape.trans h.be.tape,hg.output.trans h.be.output,Nat.le_trans h.be.size hg.size,fun k hk=>(hg.block k (Nat.lt_of_lt_of_le hk h.be.size) fun e=>?_).trans (h.be.block k hk)⟩,by rw [hlen];exact hE,by rw [hlen];have:=h.nl;omega,fun y hy=>?_,fun g hg2=>?_,fun q q1 q2=>?_,Nat.le_trans h.le hg.size⟩⟩
 ·have:=(World.ownsRow.lt (h.kp.ap.ow 0 _ h.kp.z).2 k e.symm).1
  dsimp only at this
  omega
 ·rcases List.mem_append.1 hy with hy | hy
  ·exact h.ll y hy
  ·rw [List.mem_singleton.1 hy]
   exact hxl
 ·rw [hlen] at hg2
  rcases hbk with e | e
  ·exact h.ob g (e.symm.trans hg2)
  ·rw [e] at hg2
   have e2:=Option.some.inj hg2
   have:=h.le
   exact Or.inr (by omega)
 ·refine (hg.block q (Nat.lt_of_lt_of_le q2 h.le) fun e=>?_).trans (h.st q q1 q2)
  rcases h.ob q e.symm with h1 | h1<;>omega
end
theorem Rg.fin {Wd w:World} {P:Pg} {rd:List Int} {b c:Nat->Bool} {s d:Nat->Value} (h:Rg Wd w P rd b c s d) (hn:cN b c=0):∃ r p1 q1 g0 g1,BRes P rd r/\s 5=.agg #[.int .i64 ((ctOf r).2.2.1:Int),.int .i64 ((ctOf r).2.2.2:Int)]/\d 0=.pointer (some ⟨g0,0,none⟩)/\d 1=.pointer (some ⟨g1,0,none⟩)/\w.heap[g1]?=some (.cells #[.int .i64 0,.int .i64 0] 32 (0,0)) /\
  Below Wd.heap.size Wd (w.setRow g1 #[.int .i64 ((ctOf r).2.2.1:Int),.int .i64 ((ctOf r).2.2.2:Int)]) /\
  (w.setRow g1 #[.int .i64 ((ctOf r).2.2.1:Int),.int .i64 ((ctOf r).2.2.2:Int)]).heap[g0]?=some (.cells #[.slice p1 (zi (ctOf r).1).length q1,.int .i64 ((ctOf r).2.1:Int)] 40 (0,0)) /\
  (w.setRow g1 #[.int .i64 ((ctOf r).2.2.1:Int),.int .i64 ((ctOf r).2.2.2:Int)]).heap[g1]?=some (.cells #[.int .i64 ((ctOf r).2.2.1:Int),.int .i64 ((ctOf r).2.2.2:Int)] 32 (0,0)) /\
  (w.setRow g1 #[.int .i64 ((ctOf r).2.2.1:Int),.int .i64 ((ctOf r).2.2.2:Int)]).ownsRow Wd.heap.size 3 1 (.slice p1 (zi (ctOf r).1).length q1) (zi (ctOf r).1).length (iv (zi (ctOf r).1)):=by
 obtain ⟨⟨k0,k1,k2,k3,k4,k5⟩,c0,c1,c2⟩:=cN_0 hn
 obtain ⟨-,r,p1,q1,hr,hs2,ho⟩:=h.f2 k2
 have hs3:=(h.f3 k3).2
 obtain ⟨-,x4,y4,h43,hs4⟩:=h.f4 k4
 obtain ⟨-,x5,y5,h53,hs5⟩:=h.f5 k5
 obtain ⟨g1,hd1,hg1,hh1⟩:=h.d1 c1
 obtain ⟨-,-,cs,hcs,g0,hd0,hg0,hh0⟩:=h.d2 c2
 rw [hs3,hs2] at h43 h53
 cases h43
 cases h53
 rw [hs4] at hcs
 cases hcs
 have hsz:∀ cs:Array Value,(w.setRow g1 cs).heap.size=w.heap.size:=fun cs=>by simp [World.setRow]
 refine ⟨r,p1,q1,g0,g1,hr,hs5,hd0,hd1,hh1,⟨h.be.os,h.be.tape,h.be.output,by rw [hsz];exact h.be.size,fun k hk=>(setRow_other w g1 k _ (by omega)).trans (h.be.block k hk)⟩,(setRow_other w g1 _ _ fun e=>?_).trans hh0,setRow_heap _ _ _ _ _ _ hh1,own_kb ho fun k hk=>setRow_other w g1 _ _ fun e=>?_⟩
 ·subst e
  rw [hh1] at hh0
  cases hh0
 ·rcases ho.2 with ⟨k3,_⟩ | ⟨g',cap,cur,k3,_,k4,_⟩
  ·rw [k3] at hk
   cases hk
  ·rw [k3] at hk
   cases hk
   subst e
   rw [hh1] at k4
   cases k4
theorem Rg.zero (Wd:World) (P:Pg) (rd:List Int) (s d:Nat->Value):Rg Wd Wd P rd (fun _=>false) (fun _=>false) s d:=
 ⟨Below.refl _ _,nofun,nofun,nofun,nofun,nofun,nofun,nofun,nofun,nofun⟩
theorem rg_start {a0:Act} {Wd:World} {P:Pg} {rd:List Int} (h:a0=((((((((a0.put (some 56) (a0.eval (.tmp 56))).put (some 58) (a0.eval (.tmp 58))).put (some 59) (a0.eval (.tmp 59))).put (some 54) (a0.eval (.tmp 54))).put (some 60) (a0.eval (.tmp 60))).put (some 61) (a0.eval (.tmp 61))).put (some 11) (a0.eval (.tmp 11))).put (some 12) (a0.eval (.tmp 12)))):∃ s d:Nat->Value,a0=((((((((a0.put (some 56) (s 0)).put (some 58) (s 1)).put (some 59) (s 2)).put (some 54) (s 3)).put (some 60) (s 4)).put (some 61) (s 5)).put (some 11) (d 0)).put (some 12) (d 1))/\Rg Wd Wd P rd (fun _=>false) (fun _=>false) s d:=
 ⟨fun | 0=>a0.eval (.tmp 56) | 1=>a0.eval (.tmp 58) | 2=>a0.eval (.tmp 59) | 3=>a0.eval (.tmp 54) | 4=>a0.eval (.tmp 60) | _=>a0.eval (.tmp 61),fun | 0=>a0.eval (.tmp 11) | _=>a0.eval (.tmp 12),h,Rg.zero _ _ _ _ _⟩
theorem lend_c {w:World} {P:Pg} {ao qo vo tto uo oo:Option Addr} {ac qc vc tc uc oc:Nat} (h:RdG w P ao qo vo tto uo oo) (h0:P.rows.length<=65536) (h2:P.qs.length<=100) (h3:P.vs.length<=100) (h4:P.ts.length<=100) (h5:P.us.length<=100) (h6:P.on.length<=100)
  (n2:qo=none->qc=0) (n3:vo=none->vc=0) (n4:tto=none->tc=0) (n5:uo=none->uc=0) (n6:oo=none->oc=0):
  Calls Tryz.prog 7 #[pvG P ao qo vo tto uo oo ac qc vc tc uc oc] w fun e w'=>Below w.heap.size w w'/\∃ v,e=.returned v/\Lp w' P v:=by
 refine Calls.mono (lendP_any h (by omega) (by omega) (by omega) (by omega) (by omega) (by omega) n2 n3 n4 n5 n6) ?_
 rintro e w' ⟨g,gq,cq,gv,cv,gt,ct,gu,cu,go,co,he,hL,hb⟩
 exact ⟨hb,_,he,g,gq,cq,gv,cv,gt,ct,gu,cu,go,co,rfl,lsRd hL⟩
theorem lendt_c {w:World} {eo:Option Addr} {ec:Nat} {rd:List Int} (h:IsVals w eo (iv rd)) (hn:rd.length<=65536) (hc:eo=none->ec=0):
  Calls Tryz.prog 8 #[.agg #[.slice none 0 0,.slice none 0 0,.slice eo rd.length ec]] w fun e w'=>Below w.heap.size w w'/\∃ v,e=.returned v/\Lt w' rd v:=by
 have h1:=lendT_any (w:=w) (xo:=none) (yo:=none) (eo:=eo) (cx:=0) (cy:=0) (ec:=ec) (vl:=[]) (tg:=[]) (rd:=rd) (fun k x hx=>by simp [vF] at hx) (fun k x hx=>by simp [iv] at hx) h (by simp) (by simp) (by omega) (fun _=>rfl) (fun _=>rfl) hc
 refine Calls.mono h1 ?_
 rintro e w' ⟨gv,cv,gt,ct,gr,cr,he,hL,hb⟩
 have ho:=hL.own _ (List.mem_cons_of_mem _ List.mem_cons_self)
 exact ⟨hb,_,he,gv,cv,gt,ct,gr,cr,rfl,vals_front (vals_of ho)⟩
theorem bound_c {Wd w:World} {P:Pg} {rd:List Int} {v0 v1:Value} (hW:Wd.heap.size<=w.heap.size) (h0:Lp w P v0) (h1:Lt w rd v1) (hs:P.Sm) (hl:P.rows.length<=65536) (hq:P.qs.length<=100) (hrd:rd.length<=65536):
  Calls Tryz.prog 6 #[v0,v1] w fun e w'=>Below w.heap.size w w'/\∃ v,e=.returned v/\Bd Wd w' P rd v:=by
 obtain ⟨g,gq,cq,gv,cv,gt,ct,gu,cu,go,co,rfl,hr⟩:=h0
 obtain ⟨hv,hcv,ht,hct,gr,cr,rfl,hi⟩:=h1
 refine Calls.mono (cost_any hr hs hl nofun hi (by omega)) ?_
 rintro e w' ⟨r,hr,hc⟩
 exact bd_of hW hr hq hc
theorem rbound_c {w:World} {P:Pg} {rd:List Int} {r:Except (Nat × Nat) Co} {ao qo vo tto uo oo eo:Option Addr} {ac qc vc tc uc oc ec:Nat} (hBr:BRes P rd r) (h:RdG w P ao qo vo tto uo oo) (hs:P.Sm) (hl:P.rows.length<=65536) (hkd:∀ r ∈ P.rows,r.kids<=9223372036854775807/\r.name.size<=4611686018427387000) (hd:IsVals w eo (iv rd)) (hrd:rd.length<=65536):
  Calls Tryz.prog 9 #[pvG P ao qo vo tto uo oo ac qc vc tc uc oc,.agg #[.slice none 0 0,.slice none 0 0,.slice eo rd.length ec]] w fun e w'=>Below w.heap.size w w'/\∃ p2 q2,e=.returned (.tuple #[.agg #[.slice p2 (zi (ctOf r).1).length q2,.int .i64 ((ctOf r).2.1:Int)],.agg #[.int .i64 ((ctOf r).2.2.1:Int),.int .i64 ((ctOf r).2.2.2:Int)]])/\IsVals w' p2 (iv (zi (ctOf r).1)):=by
 refine Calls.mono (rcost_any h hs hl hkd hd (by omega)) ?_
 rintro e w' ⟨r2,hr2,hc⟩
 obtain rfl:=hBr.uniq hr2
 obtain ⟨p2,q2,he,ho,hb⟩:=ctold_out hc
 refine ⟨hb,p2,q2,?_,ho.vals⟩
 rw [show (zi (ctOf r).1).length=(ctOf r).1.length by simp [zi]]
 exact he
theorem zi_len {P:Pg} {rd:List Int} {r:Except (Nat × Nat) Co} (h:BRes P rd r) (hq:P.qs.length<=100):(zi (ctOf r).1).length<=17592186043904:=by
 rw [show (zi (ctOf r).1).length=(ctOf r).1.length by simp [zi]]
 exact on_len h hq
def Mk2 (K:List Kc) (j k:Nat):Prop:=∀ (t:Nat) (x:Kc),K[t]?=some x->∀ q,q < x.l.length->(t < j\/t=j/\q < k)->x.l[q]?=some (1000 * (t:Int)+(q:Int))
theorem Mk2.zero (K:List Kc):Mk2 K 0 0:=fun t x _ q _ h=>by omega
theorem Mk2.next {K:List Kc} {j k:Nat} {x:Kc} (h:Mk2 K j k) (hx:K[j]?=some x) (hk:x.l.length<=k):Mk2 K (j+1) 0:=fun t y hy q hq h1=>by
 rcases (show t < j\/t=j by omega) with h2 | rfl
 ·exact h t y hy q hq (Or.inl h2)
 ·rw [hx] at hy
  cases hy
  exact h _ x hx q hq (Or.inr ⟨rfl,by omega⟩)
theorem Mk2.set {K:List Kc} {j k:Nat} {x:Kc} (h:Mk2 K j k) (hx:K[j]?=some x) (hk:k < x.l.length):Mk2 (K.set j ⟨x.v,x.l.set k (1000 * (j:Int)+(k:Int)),x.m⟩) j (k+1):=fun t y hy q hq h1=>by
 by_cases e:t=j
 ·subst e
  rw [List.getElem?_set_self (List.getElem?_eq_some_iff.1 hx).1] at hy
  cases hy
  dsimp only at hq ⊢
  rw [List.length_set] at hq
  by_cases e2:q=k
  ·subst e2
   rw [List.getElem?_set_self hk]
  ·rw [List.getElem?_set_ne (fun q=>e2 q.symm)]
   exact h _ x hx q hq (Or.inr ⟨rfl,by omega⟩)
 ·rw [List.getElem?_set_ne (fun q=>e q.symm)] at hy
  exact h t y hy q hq (Or.inl (by omega))
structure Mt (w wq:World) (K:List Kc) (E:Nat->Option Ent) (kv:Value) (n j k:Nat):Prop where
 be:Below w.heap.size w wq
 kp:Kp wq w.heap.size kv K E
 nl:K.length=n
 ll:∀ x ∈ K,x.l.length<=17592186043904
 ms:Mk2 K j k
theorem Mt.set {w wq:World} {K:List Kc} {E:Nat->Option Ent} {kv:Value} {n j k g c:Nat} {x:Kc} (h:Mt w wq K E kv n j k) (hx:K[j]?=some x) (hk:k < x.l.length) (hv:x.v=.slice (some ⟨g,0,none⟩) x.l.length c) (hg:w.heap.size<=g):∃ E',Mt w (wq.setCell ⟨g,k,none⟩ (.int .i64 (1000 * (j:Int)+(k:Int)))) (K.set j ⟨x.v,x.l.set k (1000 * (j:Int)+(k:Int)),x.m⟩) E' kv n j (k+1):=by
 obtain ⟨E',hE⟩:=h.kp.set hx hv (k:=k) (1000 * (j:Int)+(k:Int))
 refine ⟨E',h.be.setCell (p:=⟨g,k,none⟩) hg _,hE,by rw [List.length_set];exact h.nl,fun y hy=>?_,h.ms.set hx hk⟩
 rcases List.mem_or_eq_of_mem_set hy with h1 | rfl
 ·exact h.ll y h1
 ·show (x.l.set k _).length<=_
  rw [List.length_set]
  exact h.ll x (List.mem_of_getElem? hx)
theorem Mt.gone {w wq wz:World} {K:List Kc} {E:Nat->Option Ent} {kv:Value} {n j k:Nat} {x:Kc} (h:Mt w wq K E kv n j k) (hx:K[j]?=some x) {v':Value} (hG:Gone wq x.v wz v') (hk:Kp wz w.heap.size kv K E) (hw:∀ q,x.v.ownBlock=some q->w.heap.size<=q) (hl:x.l.length<=k):Mt w wz K E kv n (j+1) 0:=
 ⟨⟨hG.1.os.trans h.be.os,hG.1.tape.trans h.be.tape,hG.1.output.trans h.be.output,Nat.le_trans h.be.size hG.1.size,fun q hq=>(hG.1.block q (Nat.lt_of_lt_of_le hq h.be.size) fun e=>by have:=hw q e.symm;omega).trans (h.be.block q hq)⟩,hk,h.nl,h.ll,h.ms.next hx hl⟩
theorem Mt.below {w wq wz:World} {K:List Kc} {E:Nat->Option Ent} {kv:Value} {n j k:Nat} (h:Mt w wq K E kv n j k) (hb:Below wq.heap.size wq wz):Mt w wz K E kv n j k:=
 ⟨h.be.trans (hb.mono h.be.size),h.kp.below hb,h.nl,h.ll,h.ms⟩
theorem cells_newC (w:World) (T:TypeId) (xs:List Value):∀ j u,xs[j]?=some u->(w.alloc (.cells xs.toArray T)).cell? ((⟨w.heap.size,0,none⟩:Addr).add j)=some u:=by
 intro j u h
 rw [Lib.addr_add]
 simp only [World.cell?,heap_alloc_new w (.cells xs.toArray T),Nat.zero_add]
 simpa using h
end Go.Proofs.YthbnjhamfcefkaaGreat.Nm.Ty
