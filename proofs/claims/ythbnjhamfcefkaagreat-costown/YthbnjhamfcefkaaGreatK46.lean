import Derived.ProofKit
import Derived.OpenShut
import Derived.ShutString
import Derived.ChangeOld
import Derived.Below
import Derived.JoinedCond
import Derived.SizedLaws
import Derived.SliceStrings
import Derived.ChangeMaps5
import Derived.Test.YthbnjhamfcefkaaGreatK41
import Derived.Test.YthbnjhamfcefkaaGreatK45
namespace Go.Proofs.YthbnjhamfcefkaaGreat.Lx
open Go.ChangeShapes Go.WideShapes Go.ChangeAt Go.RowKit Sp
theorem own:ownKnob Tryz.prog.godebug=none:=by kernel_rfl
theorem laidOut:laidOutB Tryz.prog=true:=by kernel_rfl
end Go.Proofs.YthbnjhamfcefkaaGreat.Lx
namespace Go.Proofs.YthbnjhamfcefkaaGreat.Lx
open Go.RowKit Sp
def IsInts (w:World) (ao:Option Addr) (n:Nat) (z:Nat->Int):Prop:=∀ i,i < n->∃ g o,ao=some ⟨g,o,none⟩/\g < w.heap.size/\w.cell? ⟨g,o+i,none⟩=some (.int .i64 (z i))
end Go.Proofs.YthbnjhamfcefkaaGreat.Lx
namespace Go.Proofs.YthbnjhamfcefkaaGreat.Lx
open Go.ChangeShapes Go.WideShapes Go.ChangeAt Go.RowKit Sp
theorem bytes3:Tryz.prog.bytesOf 3=8:=by kernel_rfl
theorem open_nums {H:Type} {enc:TypeId × Value->H} {W:World} {a:Option Addr} {len cap:Nat} {d:DataW H} {p:List MemPlace} (h:DataW.Trod enc Tryz.prog W 0 (fun _=>true) true 23 (.slice a len cap) d p):
  ∃ z:Nat->Int,IsInts W a len z/\(len=0\/∃ el sp,d=.slice el sp/\el.length=len):=by
 obtain ⟨fuel,hf⟩:=h
 rcases open_ints Tryz.underlying23 Tryz.underlying3 (by kernel_rfl) hf with ⟨hcs,hx⟩ | ⟨x,l,c,zs,hcs,_,hl,hm,hz,hx,hcell,hwz⟩
 ·simp [Value.cells] at hcs
  obtain ⟨rfl,rfl,rfl⟩:=hcs
  exact ⟨fun _=>0,fun i hi=>absurd hi (Nat.not_lt_zero _),Or.inl rfl⟩
 ·simp [Value.cells] at hcs
  obtain ⟨rfl,rfl,rfl⟩:=hcs
  simp at hz hx
  obtain ⟨rfl,rfl⟩:=hx
  refine ⟨fun i=>zs.getD i 0,fun i hi=>?_,Or.inr ⟨_,_,rfl,by simp [lits];omega⟩⟩
  obtain ⟨b,off,spot⟩:=x
  have h0:=hcell 0 (by omega)
  have hspot:spot=none:=by simpa [Addr.add] using World.cell?_spot h0
  subst hspot
  have hc:=hcell i (by omega)
  rw [Lib.addr_add] at hc
  exact ⟨b,off,rfl,World.block_lt_of_cell? W _ hc,hc⟩
end Go.Proofs.YthbnjhamfcefkaaGreat.Lx
namespace Go.Proofs.YthbnjhamfcefkaaGreat.Nm
open Go.ChangeShapes Go.WideShapes Go.ChangeAt Go.RowKit Sp Lx Gr
section
variable {H:Type} {enc:TypeId × Value->H} {W:World}
theorem ints_valsJ {ao:Option Addr} {len:Nat} {z:Nat->Int} (h:IsInts W ao len z):IsVals W ao (iv ((List.range len).map z)):=fun k x hx=>by
 have hk:k < len:=by
  have:=(List.getElem?_eq_some_iff.1 hx).1
  simpa [iv] using this
 have e:x=.int .i64 (z k):=by
  rw [show (iv ((List.range len).map z))[k]?=some (.int .i64 (z k)) by simp [iv,hk]] at hx
  cases hx
  rfl
 subst e
 exact h k hk
theorem nums_reachJ {ts:List TypeId} {ds:List (DataW H)} (hsz:(DataW.weightsEach Tryz.prog ts ds).all (· <= reachBytes)=true) {j len:Nat} {d:DataW H} (ht:ts[j]?=some 23) (hd:ds[j]?=some d) (h:len=0\/∃ el sp,d=.slice el sp/\el.length=len):len<=17592186043904:=by
 rcases h with rfl | ⟨el,sp,rfl,rfl⟩
 ·omega
 ·have:=sized_slice hsz ht hd Tryz.underlying23
  rw [bytes3] at this
  simp only [reachBytes] at this
  omega
end
end Go.Proofs.YthbnjhamfcefkaaGreat.Nm
set_option linter.unusedSimpArgs false
namespace Go.Proofs.YthbnjhamfcefkaaGreat.Nm
open Go.RowKit Go.Maps Sp Lx Gr
theorem vals_front {w:World} {ao:Option Addr} {xs ys:List Value} (h:IsVals w ao (xs++ys)):IsVals w ao xs:=fun k x hx=>h k x (by rw [List.getElem?_append_left (List.getElem?_eq_some_iff.1 hx).1];exact hx)
theorem rowz_own {W:World} {base g m:Nat} {l:List Rz} (h:W.ownsRow base 51 5 (.slice (some ⟨g,0,none⟩) m m) m (l.flatMap rz5)):RowZ W g l:=by
 rcases h.2 with ⟨e,_⟩ | ⟨g',c',cur,e,_,h3,_,_,h6,h7⟩
 ·cases e
 ·cases e
  unfold RowZ
  rw [h3]
  have e2:cur.toList=l.flatMap rz5:=by
   rw [<-h7,List.take_of_length_le (by rw [Array.length_toList];omega)]
  rw [<-e2]
theorem lsRd {W:World} {base:Nat} {p:Pg} {g gq cq gv cv gt ct gu cu go co:Nat} (h:Ls W base (lentOs p g gq cq gv cv gt ct gu cu go co)):RdG W p (some ⟨g,0,none⟩) (some ⟨gq,0,none⟩) (some ⟨gv,0,none⟩) (some ⟨gt,0,none⟩) (some ⟨gu,0,none⟩) (some ⟨go,0,none⟩):=by
 have a:∀ (i:Nat) (hi:i < (lentOs p g gq cq gv cv gt ct gu cu go co).length),W.ownsRow base ((lentOs p g gq cq gv cv gt ct gu cu go co)[i]).T ((lentOs p g gq cq gv cv gt ct gu cu go co)[i]).sz ((lentOs p g gq cq gv cv gt ct gu cu go co)[i]).v ((lentOs p g gq cq gv cv gt ct gu cu go co)[i]).n ((lentOs p g gq cq gv cv gt ct gu cu go co)[i]).xs:=fun i hi=>h.own _ (List.getElem_mem hi)
 have a0:=a 0 (by simp)
 have a1:=a 1 (by simp)
 have a2:=a 2 (by simp)
 have a3:=a 3 (by simp)
 have a4:=a 4 (by simp)
 have a5:=a 5 (by simp)
 exact ⟨RowZ.reads (l':=(List.range 9).map (fun j=>mkL (p.rows.length+j))++List.replicate (9 - 9) rz0) (rowz_own (l:=fillL p.rows 9) a0),vals_front (vals_of a1),vals_front (vals_of a2),vals_front (vals_of a3),vals_front (vals_of a4),vals_front (vals_of a5)⟩
def ctOf:Except (Nat × Nat) Co->List Nat × Nat × Nat × Nat
 | .error ci=>([],0,ci.1,ci.2)
 | .ok c=>(c.on,c.miss,0,0)
def OnR (W:World) (base:Nat) (oo:Option Addr) (on:List Nat):Prop:=(oo=none/\on=[])\/∃ ob,oo=some ⟨ob,0,none⟩/\base<=ob/\RowN W ob on
theorem OnR.vals {W:World} {base:Nat} {oo:Option Addr} {on:List Nat} (h:OnR W base oo on):IsVals W oo (iv (zi on)):=by
 rcases h with ⟨_,rfl⟩ | ⟨ob,rfl,_,h3⟩
 ·exact fun k x hx=>by simp [zi,iv] at hx
 ·exact h3.vals
theorem ctold_out {w w':World} {r:Except (Nat × Nat) Co} {e:Ending} (h:CTold w r e w'):∃ p1 q1,e=.returned (.tuple #[.agg #[.slice p1 (ctOf r).1.length q1,.int .i64 ((ctOf r).2.1:Int)],.agg #[.int .i64 ((ctOf r).2.2.1:Int),.int .i64 ((ctOf r).2.2.2:Int)]])/\OnR w' w.heap.size p1 (ctOf r).1/\Below w.heap.size w w':=by
 obtain ⟨hb,h2⟩:=h
 cases r with
 | error ci=>exact ⟨none,0,h2,Or.inl ⟨rfl,rfl⟩,hb⟩
 | ok c=>
  obtain ⟨ob,he,h3,h4⟩:=h2
  exact ⟨some ⟨ob,0,none⟩,c.on.length,he,Or.inr ⟨ob,rfl,h3,h4⟩,hb⟩
theorem on_len {p:Pg} {rd:List Int} {r:Except (Nat × Nat) Co} (h:BRes p rd r) (hq:p.qs.length<=100):(ctOf r).1.length<=17592186043904:=by
 rcases h with ⟨_,rfl⟩ | ⟨p',_,⟨_,rfl⟩ | ⟨_,_,rfl⟩⟩
 ·simp [ctOf]
 ·simp [ctOf]
 ·unfold evR
  split
  ·simp [ctOf]
  ·rename_i c hc
   have:=evN_len hc
   simp only [ctOf]
   omega
theorem own_nil {w:World} {base:Nat} {T:TypeId} {sz n c:Nat} {o:Option Addr} {xs:List Value} (h:w.ownsRow base T sz (.slice o n c) n xs):o=none->c=0:=by
 rintro rfl
 obtain ⟨_,⟨e,_⟩ | ⟨g,cap,cur,e,_⟩⟩:=h
 ·cases e
  rfl
 ·cases e
theorem agg8 {a b c d e f g h a' b' c' d' e' f' g' h':Value} (x:Value.agg #[a,b,c,d,e,f,g,h]=Value.agg #[a',b',c',d',e',f',g',h']):b'=b/\c'=c/\d'=d/\e'=e/\f'=f/\g'=g:=by
 cases x
 exact ⟨rfl,rfl,rfl,rfl,rfl,rfl⟩
theorem told_gn {w w':World} {l:List Rz} {e:Ending} (h:Told w (res l) e w'):∃ ao qo vo tto uo oo ac qc vc tc uc oc,e=.returned (.tuple #[pvG (resP l) ao qo vo tto uo oo ac qc vc tc uc oc,.agg #[.int .i64 ((resC l).1:Int),.int .i64 ((resC l).2:Int)]])/\Below w.heap.size w w'/\(∀ W:World,(∀ k,w.heap.size<=k->k < w'.heap.size->W.heap[k]?=w'.heap[k]?)->RdG W (resP l) ao qo vo tto uo oo)/\(qo=none->qc=0)/\(vo=none->vc=0)/\(tto=none->tc=0)/\(uo=none->uc=0)/\(oo=none->oc=0):=by
 obtain ⟨hb,hm⟩:=h
 unfold resP resC
 cases hr:res l with
 | error ci=>
  rw [hr] at hm
  exact ⟨none,none,none,none,none,none,0,0,0,0,0,0,hm,hb,fun W _=>zero_rd W,fun _=>rfl,fun _=>rfl,fun _=>rfl,fun _=>rfl,fun _=>rfl⟩
 | ok p=>
  rw [hr] at hm
  obtain ⟨v,he,hp⟩:=hm
  have hp2:=hp
  obtain ⟨rb,cap,qv,vv,tv,uv,ov,hv0,hrb,hrw,hq,hv,ht,hu,ho⟩:=hp2.ex
  obtain ⟨rb1,qo,vo,tto,uo,oo,ac,qc,vc,tc,uc,oc,rfl,_,hall⟩:=hp.all
  simp only [pv] at hv0
  obtain ⟨_,e2,e3,e4,e5,e6⟩:=agg8 hv0
  subst e2
  subst e3
  subst e4
  subst e5
  subst e6
  refine ⟨some ⟨rb1,0,none⟩,qo,vo,tto,uo,oo,ac,qc,vc,tc,uc,oc,?_,hb,fun W hW=>rd_g (hall W hW).1,own_nil hq,own_nil hv,own_nil ht,own_nil hu,own_nil ho⟩
  rw [he]
  simp [pvG,pv,Pl.g]
theorem res_kd {l:List Rz} (hl:l.length<=65536) (hkd:∀ r ∈ l,r.kids<=9223372036854775807/\r.name.size<=4611686018427387000):(resP l).rows.length<=65536/\∀ r ∈ (resP l).rows,r.kids<=9223372036854775807/\r.name.size<=4611686018427387000:=by
 unfold resP
 cases h:res l with
 | error ci=>exact ⟨by simp [zeroG],fun r hr=>by simp [zeroG] at hr⟩
 | ok p=>
  have hk:=(res_sm (by omega) h).2.2.2.1
  have hlen:=like_len hk
  show p.rows.length<=65536/\∀ r ∈ p.rows,r.kids<=9223372036854775807/\r.name.size<=4611686018427387000
  refine ⟨by omega,fun r hr=>?_⟩
  obtain ⟨i,hi,rfl⟩:=List.mem_iff_getElem.1 hr
  have hi':i < l.length:=by rw [<-hlen];exact hi
  have e1:rat p.rows i=p.rows[i]'hi:=by
   have:=some_rat (l:=p.rows) (i:=i) hi
   rw [List.getElem?_eq_getElem hi] at this
   exact (Option.some.inj this).symm
  have e2:rat l i=l[i]'hi':=by
   have:=some_rat (l:=l) (i:=i) hi'
   rw [List.getElem?_eq_getElem hi'] at this
   exact (Option.some.inj this).symm
  obtain ⟨_,n1,n2⟩:=like_kind hk hi'
  have:=hkd _ (List.getElem_mem hi')
  rw [<-e2,<-n1,<-n2,e1] at this
  exact this
theorem rowi_vals {w:World} {g n:Nat} {f:Nat->Int} (h:RowI w g n f):IsVals w (some ⟨g,0,none⟩) (iv ((List.range n).map f)):=fun k x hx=>by
 have hk:k < n:=by
  have:=(List.getElem?_eq_some_iff.1 hx).1
  simpa [iv] using this
 have e:x=.int .i64 (f k):=by
  rw [show (iv ((List.range n).map f))[k]?=some (.int .i64 (f k)) by simp [iv,hk]] at hx
  cases hx
  rfl
 subst e
 exact ⟨g,0,rfl,h.lt,by rw [Nat.zero_add];exact h.cell hk⟩
end Go.Proofs.YthbnjhamfcefkaaGreat.Nm
set_option linter.unusedSimpArgs false
namespace Go.Proofs.YthbnjhamfcefkaaGreat.Nm.Ty
open Go.RowKit Go.Maps Sp Lx Gr Nm
def Lp (w:World) (P:Pg) (v:Value):Prop:=∃ g gq cq gv cv gt ct gu cu go co,v=lentV P g gq cq gv cv gt ct gu cu go co/\RdG w P (some ⟨g,0,none⟩) (some ⟨gq,0,none⟩) (some ⟨gv,0,none⟩) (some ⟨gt,0,none⟩) (some ⟨gu,0,none⟩) (some ⟨go,0,none⟩)
def Lt (w:World) (rd:List Int) (v:Value):Prop:=∃ gv cv gt ct gr cr,v=.agg #[.slice (some ⟨gv,0,none⟩) 0 cv,.slice (some ⟨gt,0,none⟩) 0 ct,.slice (some ⟨gr,0,none⟩) rd.length cr]/\IsVals w (some ⟨gr,0,none⟩) (iv rd)
def Bd (Wd w:World) (P:Pg) (rd:List Int) (v:Value):Prop:=∃ r p1 q1,BRes P rd r/\v=.tuple #[.agg #[.slice p1 (zi (ctOf r).1).length q1,.int .i64 ((ctOf r).2.1:Int)],.agg #[.int .i64 ((ctOf r).2.2.1:Int),.int .i64 ((ctOf r).2.2.2:Int)]]/\w.ownsRow Wd.heap.size 3 1 (.slice p1 (zi (ctOf r).1).length q1) (zi (ctOf r).1).length (iv (zi (ctOf r).1))
def Bo (Wd w:World) (cs:Array Value) (T:TypeId) (v:Value):Prop:=∃ g,v=.pointer (some ⟨g,0,none⟩)/\Wd.heap.size<=g/\w.heap[g]?=some (.cells cs T (0,0))
theorem Lp.below {w w':World} {P:Pg} {v:Value} (h:Lp w P v) (hb:Below w.heap.size w w'):Lp w' P v:=by
 obtain ⟨g,gq,cq,gv,cv,gt,ct,gu,cu,go,co,h1,h2⟩:=h
 exact ⟨g,gq,cq,gv,cv,gt,ct,gu,cu,go,co,h1,h2.below hb⟩
theorem Lt.below {w w':World} {rd:List Int} {v:Value} (h:Lt w rd v) (hb:Below w.heap.size w w'):Lt w' rd v:=by
 obtain ⟨gv,cv,gt,ct,gr,cr,h1,h2⟩:=h
 exact ⟨gv,cv,gt,ct,gr,cr,h1,h2.below hb⟩
theorem Bd.below {Wd w w':World} {P:Pg} {rd:List Int} {v:Value} (h:Bd Wd w P rd v) (hb:Below w.heap.size w w'):Bd Wd w' P rd v:=by
 obtain ⟨r,p1,q1,h0,h1,h2⟩:=h
 exact ⟨r,p1,q1,h0,h1,own_below h2 hb⟩
theorem Bo.below {Wd w w':World} {cs:Array Value} {T:TypeId} {v:Value} (h:Bo Wd w cs T v) (hb:Below w.heap.size w w'):Bo Wd w' cs T v:=by
 obtain ⟨g,h1,h2,h3⟩:=h
 exact ⟨g,h1,h2,(hb.block _ (blk_lt h3)).trans h3⟩
structure Rg (Wd w:World) (P:Pg) (rd:List Int) (b c:Nat->Bool) (s d:Nat->Value):Prop where
 be:Below Wd.heap.size Wd w
 f0:b 0=true->b 2=false->Lp w P (s 0)
 f1:b 1=true->b 0=true/\(b 2=false->Lt w rd (s 1))
 f2:b 2=true->b 1=true/\Bd Wd w P rd (s 2)
 f3:b 3=true->b 2=true/\s 3=s 2
 f4:b 4=true->b 3=true/\∃ x y,s 3=.tuple #[x,y]/\s 4=x
 f5:b 5=true->b 3=true/\∃ x y,s 3=.tuple #[x,y]/\s 5=y
 d0:c 0=true->c 2=false->Bo Wd w #[pz,.int .i64 0] 40 (d 0)
 d1:c 1=true->Bo Wd w #[.int .i64 0,.int .i64 0] 32 (d 1)
 d2:c 2=true->c 0=true/\b 4=true/\∃ cs,s 4=.agg cs/\Bo Wd w cs 40 (d 0)
section
variable {Wd w w':World} {P:Pg} {rd:List Int} {b c:Nat->Bool} {s d:Nat->Value} {v:Value}
theorem Rg.below (h:Rg Wd w P rd b c s d) (hb:Below w.heap.size w w'):Rg Wd w' P rd b c s d:=
 ⟨h.be.trans (hb.mono h.be.size),fun e e2=>(h.f0 e e2).below hb,fun e=>⟨(h.f1 e).1,fun e2=>((h.f1 e).2 e2).below hb⟩,fun e=>⟨(h.f2 e).1,(h.f2 e).2.below hb⟩,h.f3,h.f4,h.f5,fun e e2=>(h.d0 e e2).below hb,fun e=>(h.d1 e).below hb,fun e=>by
  obtain ⟨h1,h2,cs,h3,h4⟩:=h.d2 e
  exact ⟨h1,h2,cs,h3,h4.below hb⟩⟩
theorem ft {p:Prop} {x:Bool} (h:x=false) (e:x=true):p:=by rw [h] at e;cases e
theorem Rg.no0 (h:Rg Wd w P rd b c s d) (e:b 0=false):b 1=false:=by
 cases h1:b 1 with
 | false=>rfl
 | true=>exact ft e (h.f1 h1).1
theorem Rg.no1 (h:Rg Wd w P rd b c s d) (e:b 1=false):b 2=false:=by
 cases h1:b 2 with
 | false=>rfl
 | true=>exact ft e (h.f2 h1).1
theorem Rg.no2 (h:Rg Wd w P rd b c s d) (e:b 2=false):b 3=false:=by
 cases h1:b 3 with
 | false=>rfl
 | true=>exact ft e (h.f3 h1).1
theorem Rg.no3 (h:Rg Wd w P rd b c s d) (e:b 3=false):b 4=false/\b 5=false:=by
 constructor
 ·cases h1:b 4 with
  | false=>rfl
  | true=>exact ft e (h.f4 h1).1
 ·cases h1:b 5 with
  | false=>rfl
  | true=>exact ft e (h.f5 h1).1
theorem Rg.no4 (h:Rg Wd w P rd b c s d) (e:b 4=false):c 2=false:=by
 cases h1:c 2 with
 | false=>rfl
 | true=>exact ft e (h.d2 h1).2.1
theorem Rg.b0 (h:Rg Wd w P rd b c s d) (e:b 0=false) (hv:Lp w P v):Rg Wd w P rd (up b 0 true) c (up s 0 v) d:=by
 have e1:=h.no0 e
 have e2:=h.no1 e1
 have e3:=h.no2 e2
 have e4:=h.no3 e3
 have e5:=h.no4 e4.1
 refine ⟨h.be,fun _ _=>by rw [up_same];exact hv,fun q=>?_,fun q=>?_,fun q=>?_,fun q=>?_,fun q=>?_,h.d0,h.d1,fun q=>ft e5 q⟩<;>rw [up_ne (by omega)] at q
 ·exact ft e1 q
 ·exact ft e2 q
 ·exact ft e3 q
 ·exact ft e4.1 q
 ·exact ft e4.2 q
theorem Rg.b1 (h:Rg Wd w P rd b c s d) (e0:b 0=true) (e:b 1=false) (hv:Lt w rd v):Rg Wd w P rd (up b 1 true) c (up s 1 v) d:=by
 have e2:=h.no1 e
 have e3:=h.no2 e2
 have e4:=h.no3 e3
 have e5:=h.no4 e4.1
 refine ⟨h.be,fun q q2=>?_,fun q=>⟨by rw [up_ne (by omega)];exact e0,fun _=>by rw [up_same];exact hv⟩,fun q=>?_,fun q=>?_,fun q=>?_,fun q=>?_,h.d0,h.d1,fun q=>ft e5 q⟩
 ·rw [up_ne (by omega)] at q q2 ⊢
  exact h.f0 q q2
 all_goals rw [up_ne (by omega)] at q
 ·exact ft e2 q
 ·exact ft e3 q
 ·exact ft e4.1 q
 ·exact ft e4.2 q
theorem Rg.b2 (h:Rg Wd w P rd b c s d) (e1:b 1=true) (e:b 2=false) (hv:Bd Wd w P rd v):Rg Wd w P rd (up b 2 true) c (up s 2 v) d:=by
 have e3:=h.no2 e
 have e4:=h.no3 e3
 have e5:=h.no4 e4.1
 refine ⟨h.be,fun q q2=>?_,fun q=>⟨?_,fun q2=>?_⟩,fun q=>⟨by rw [up_ne (by omega)];exact e1,by rw [up_same];exact hv⟩,fun q=>?_,fun q=>?_,fun q=>?_,h.d0,h.d1,fun q=>ft e5 q⟩
 ·rw [up_same] at q2
  cases q2
 ·rw [up_ne (by omega)] at q ⊢
  exact (h.f1 q).1
 ·rw [up_same] at q2
  cases q2
 all_goals rw [up_ne (by omega)] at q
 ·exact ft e3 q
 ·exact ft e4.1 q
 ·exact ft e4.2 q
theorem Rg.b3 (h:Rg Wd w P rd b c s d) (e2:b 2=true) (e:b 3=false):Rg Wd w P rd (up b 3 true) c (up s 3 (s 2)) d:=by
 have e4:=h.no3 e
 have e5:=h.no4 e4.1
 refine ⟨h.be,fun q q2=>?_,fun q=>⟨?_,fun q2=>?_⟩,fun q=>⟨?_,?_⟩,fun q=>⟨by rw [up_ne (by omega)];exact e2,by rw [up_same,up_ne (by omega)]⟩,fun q=>?_,fun q=>?_,h.d0,h.d1,fun q=>ft e5 q⟩
 ·rw [up_ne (by omega)] at q2
  exact ft q2 e2
 ·rw [up_ne (by omega)] at q ⊢
  exact (h.f1 q).1
 ·rw [up_ne (by omega)] at q2
  exact ft q2 e2
 ·rw [up_ne (by omega)] at q ⊢
  exact (h.f2 q).1
 ·rw [up_ne (by omega)] at q ⊢
  exact (h.f2 q).2
 all_goals rw [up_ne (by omega)] at q
 ·exact ft e4.1 q
 ·exact ft e4.2 q
theorem Rg.b4 {x y:Value} (h:Rg Wd w P rd b c s d) (e3:b 3=true) (e:b 4=false) (hx:s 3=.tuple #[x,y]):Rg Wd w P rd (up b 4 true) c (up s 4 x) d:=by
 have e5:=h.no4 e
 have e2:=(h.f3 e3).1
 refine ⟨h.be,fun q q2=>?_,fun q=>⟨?_,fun q2=>?_⟩,fun q=>⟨?_,?_⟩,fun q=>⟨?_,?_⟩,fun q=>⟨by rw [up_ne (by omega)];exact e3,x,y,by rw [up_ne (by omega)];exact hx,up_same _ _ _⟩,fun q=>⟨by rw [up_ne (by omega)];exact e3,?_⟩,h.d0,h.d1,fun q=>ft e5 q⟩
 ·rw [up_ne (by omega)] at q2
  exact ft q2 e2
 ·rw [up_ne (by omega)] at q ⊢
  exact (h.f1 q).1
 ·rw [up_ne (by omega)] at q2
  exact ft q2 e2
 ·rw [up_ne (by omega)] at q ⊢
  exact (h.f2 q).1
 ·rw [up_ne (by omega)] at q ⊢
  exact (h.f2 q).2
 ·rw [up_ne (by omega)]
  exact e2
 ·rw [up_ne (by omega),up_ne (by omega)]
  exact (h.f3 e3).2
 ·rw [up_ne (by omega)] at q
  rw [up_ne (by omega),up_ne (by omega)]
  exact (h.f5 q).2
theorem Rg.b5 {x y:Value} (h:Rg Wd w P rd b c s d) (e3:b 3=true) (hx:s 3=.tuple #[x,y]):Rg Wd w P rd (up b 5 true) c (up s 5 y) d:=by
 have e2:=(h.f3 e3).1
 refine ⟨h.be,fun q q2=>?_,fun q=>⟨?_,fun q2=>?_⟩,fun q=>⟨?_,?_⟩,fun q=>⟨?_,?_⟩,fun q=>⟨by rw [up_ne (by omega)];exact e3,?_⟩,fun q=>⟨by rw [up_ne (by omega)];exact e3,x,y,by rw [up_ne (by omega)];exact hx,up_same _ _ _⟩,h.d0,h.d1,fun q=>?_⟩
 ·rw [up_ne (by omega)] at q2
  exact ft q2 e2
 ·rw [up_ne (by omega)] at q ⊢
  exact (h.f1 q).1
 ·rw [up_ne (by omega)] at q2
  exact ft q2 e2
 ·rw [up_ne (by omega)] at q ⊢
  exact (h.f2 q).1
 ·rw [up_ne (by omega)] at q ⊢
  exact (h.f2 q).2
 ·rw [up_ne (by omega)]
  exact e2
 ·rw [up_ne (by omega),up_ne (by omega)]
  exact (h.f3 e3).2
 ·rw [up_ne (by omega)] at q
  rw [up_ne (by omega),up_ne (by omega)]
  exact (h.f4 q).2
 ·obtain ⟨h1,h2,h3⟩:=h.d2 q
  rw [up_ne (by omega),up_ne (by omega)]
  exact ⟨h1,h2,h3⟩
theorem Rg.c0 (h:Rg Wd w P rd b c s d) (e:c 0=false) (hv:Bo Wd w #[pz,.int .i64 0] 40 v):Rg Wd w P rd b (up c 0 true) s (up d 0 v):=by
 refine ⟨h.be,h.f0,h.f1,h.f2,h.f3,h.f4,h.f5,fun _ _=>by rw [up_same];exact hv,fun q=>?_,fun q=>?_⟩<;>rw [up_ne (by omega)] at q
 ·rw [up_ne (by omega)]
  exact h.d1 q
 ·exact ft e (h.d2 q).1
theorem Rg.c1 (h:Rg Wd w P rd b c s d) (hv:Bo Wd w #[.int .i64 0,.int .i64 0] 32 v):Rg Wd w P rd b (up c 1 true) s (up d 1 v):=by
 refine ⟨h.be,h.f0,h.f1,h.f2,h.f3,h.f4,h.f5,fun q q2=>?_,fun _=>by rw [up_same];exact hv,fun q=>?_⟩
 ·rw [up_ne (by omega)] at q q2 ⊢
  exact h.d0 q q2
 ·rw [up_ne (by omega)] at q
  rw [up_ne (by omega),up_ne (by omega)]
  exact h.d2 q
theorem Rg.c2 {cs:Array Value} {g:Nat} (h:Rg Wd w P rd b c s d) (e4:b 4=true) (e0:c 0=true) (e:c 2=false) (hs:s 4=.agg cs) (hd:d 0=.pointer (some ⟨g,0,none⟩)):Rg Wd (w.setRow g cs) P rd b (up c 2 true) s d:=by
 obtain ⟨g',h1,h2,h3⟩:=h.d0 e0 e
 rw [hd] at h1
 cases h1
 have e3:=(h.f4 e4).1
 have e2:=(h.f3 e3).1
 have hsz:(w.setRow g cs).heap.size=w.heap.size:=by simp [World.setRow]
 have hne:∀ (q:Nat) (xs:Array Value) (T:TypeId),T ≠ 40->w.heap[q]?=some (.cells xs T (0,0))->q ≠ g:=fun q xs T hT hq e=>by
  subst e
  rw [h3] at hq
  cases hq
  exact hT rfl
 refine ⟨⟨h.be.os,h.be.tape,h.be.output,by rw [hsz];exact h.be.size,fun k hk=>(setRow_other w g k _ (by omega)).trans (h.be.block k hk)⟩,fun _ q2=>ft q2 e2,fun q=>⟨(h.f1 q).1,fun q2=>ft q2 e2⟩,fun q=>⟨(h.f2 q).1,?_⟩,h.f3,h.f4,h.f5,fun q q2=>?_,fun q=>?_,fun q=>⟨?_,e4,cs,hs,g,hd,h2,setRow_heap _ _ _ _ _ _ h3⟩⟩
 ·obtain ⟨r,p1,q1,k0,k1,k2⟩:=(h.f2 q).2
  refine ⟨r,p1,q1,k0,k1,own_kb k2 fun k hk=>?_⟩
  rcases k2.2 with ⟨k3,_⟩ | ⟨g',cap,cur,k3,_,k4,_⟩
  ·rw [k3] at hk
   cases hk
  ·rw [k3] at hk
   cases hk
   exact setRow_other w g _ _ (hne _ _ _ (by decide) k4)
 ·rw [up_same] at q2
  cases q2
 ·rw [up_ne (by omega)] at q
  obtain ⟨g1,k1,k2,k3⟩:=h.d1 q
  exact ⟨g1,k1,k2,(setRow_other w g _ _ (hne _ _ _ (by decide) k3)).trans k3⟩
 ·rw [up_ne (by omega)]
  exact e0
def lT (b c:Nat->Bool):Array Bool:=#[true,b 0,true,b 1,b 2,b 3,b 4,b 5,c 0,c 1,c 2,false]
def cN (b c:Nat->Bool):Nat:=cond (b 0) 0 1+cond (b 1) 0 1+cond (b 2) 0 1+cond (b 3) 0 1+cond (b 4) 0 1+cond (b 5) 0 1+cond (c 0) 0 1+cond (c 1) 0 1+cond (c 2) 0 1
theorem cN_b {b c:Nat->Bool} {j:Nat} (hj:j < 6) (h:b j=false):cN (up b j true) c+1=cN b c:=by
 unfold cN
 match j,hj with
 | 0,_=>rw [up_same,up_ne (by omega),up_ne (by omega),up_ne (by omega),up_ne (by omega),up_ne (by omega),h];simp only [cond_true,cond_false];omega
 | 1,_=>rw [up_same,up_ne (by omega),up_ne (by omega),up_ne (by omega),up_ne (by omega),up_ne (by omega),h];simp only [cond_true,cond_false];omega
 | 2,_=>rw [up_same,up_ne (by omega),up_ne (by omega),up_ne (by omega),up_ne (by omega),up_ne (by omega),h];simp only [cond_true,cond_false];omega
 | 3,_=>rw [up_same,up_ne (by omega),up_ne (by omega),up_ne (by omega),up_ne (by omega),up_ne (by omega),h];simp only [cond_true,cond_false];omega
 | 4,_=>rw [up_same,up_ne (by omega),up_ne (by omega),up_ne (by omega),up_ne (by omega),up_ne (by omega),h];simp only [cond_true,cond_false];omega
 | 5,_=>rw [up_same,up_ne (by omega),up_ne (by omega),up_ne (by omega),up_ne (by omega),up_ne (by omega),h];simp only [cond_true,cond_false];omega
theorem cN_c {b c:Nat->Bool} {j:Nat} (hj:j < 3) (h:c j=false):cN b (up c j true)+1=cN b c:=by
 unfold cN
 match j,hj with
 | 0,_=>rw [up_same,up_ne (by omega),up_ne (by omega),h];simp only [cond_true,cond_false];omega
 | 1,_=>rw [up_same,up_ne (by omega),up_ne (by omega),h];simp only [cond_true,cond_false];omega
 | 2,_=>rw [up_same,up_ne (by omega),up_ne (by omega),h];simp only [cond_true,cond_false]
theorem c1z {x:Bool} (h:cond x 0 1=0):x=true:=by cases x<;>simp_all
theorem cN_0 {b c:Nat->Bool} (h:cN b c=0):(b 0=true/\b 1=true/\b 2=true/\b 3=true/\b 4=true/\b 5=true)/\c 0=true/\c 1=true/\c 2=true:=by
 unfold cN at h
 exact ⟨⟨c1z (by omega),c1z (by omega),c1z (by omega),c1z (by omega),c1z (by omega),c1z (by omega)⟩,c1z (by omega),c1z (by omega),c1z (by omega)⟩
end
theorem bd_of {Wd w w':World} {P:Pg} {rd:List Int} {e:Ending} {r:Except (Nat × Nat) Co} (hW:Wd.heap.size<=w.heap.size) (h0:BRes P rd r) (hq:P.qs.length<=100) (h:CTold w r e w'):Below w.heap.size w w'/\∃ v,e=.returned v/\Bd Wd w' P rd v:=by
 have hlen:=on_len h0 hq
 obtain ⟨hb,h2⟩:=h
 refine ⟨hb,?_⟩
 cases r with
 | error ci=>exact ⟨_,h2,_,none,0,h0,rfl,World.ownsRow_nil _ _ _ _⟩
 | ok c=>
  obtain ⟨ob,he,h3,h4⟩:=h2
  have hz:(zi c.on).length=c.on.length:=by simp [zi]
  refine ⟨_,he,_,some ⟨ob,0,none⟩,c.on.length,h0,by simp only [ctOf,hz];rfl,?_⟩
  dsimp only [ctOf] at hlen ⊢
  rw [hz]
  refine ⟨by simp [iv,hz],Or.inr ⟨ob,c.on.length,_,rfl,by omega,h4,Nat.le_refl _,by unfold maxLen;omega,by simp [iv,hz],?_⟩⟩
  rw [List.take_of_length_le (by simp [iv,hz])]
end Go.Proofs.YthbnjhamfcefkaaGreat.Nm.Ty
