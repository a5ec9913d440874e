import Derived.ProofKit
import Derived.OpenShut
import Derived.ShutString
import Derived.ChangeOld
import Derived.Below
import Derived.JoinedCond
import Derived.SizedLaws
import Derived.SliceStrings
import Derived.ChangeMaps5
import Derived.Test.YtinjccfhhdidiaaGreatK03
import Derived.Deep.Slices
import Derived.ChangeSame
namespace Go.Proofs.YtinjccfhhdidiaaGreat.Lx
open Go.ChangeShapes Go.WideShapes Go.ChangeAt Go.RowKit Sp
theorem own:ownKnob Tryz.prog.godebug=none:=by kernel_rfl
theorem laidOut:laidOutB Tryz.prog=true:=by kernel_rfl
end Go.Proofs.YtinjccfhhdidiaaGreat.Lx
namespace Go.Proofs.YtinjccfhhdidiaaGreat.Gr
open Go.ChangeShapes Go.WideShapes Go.ChangeAt Go.RowKit Go.Deep Sp Lx
theorem bytes57:Tryz.prog.bytesOf 57=48:=by kernel_rfl
theorem cells57:Tryz.prog.cellsOf 57=5:=by kernel_rfl
theorem cells3:Tryz.prog.cellsOf 3=1:=by kernel_rfl
theorem cells9:Tryz.prog.cellsOf 9=1:=by kernel_rfl
instance:Inhabited Rz:=⟨rz0⟩
def dz {H:Type} (r:Rz):DataW H:=.agg [.lit (.int .i64 r.kind),.lit (.string r.name.data.toList),.lit (.int .i64 r.stop),.lit (.int .i64 r.n),.lit (.int .i64 r.kids)]
theorem wf_le {n:Int} (h:(Lit.int .i64 n).wf=true):n<=9223372036854775807:=by
 simp [Lit.wf] at h
 omega
theorem five {α:Type} {l:List α} (h:l.length=5):∃ a b c d e,l=[a,b,c,d,e]:=by
 match l,h with
 | [a,b,c,d,e],_=>exact ⟨a,b,c,d,e,rfl⟩
theorem open_one {H:Type} {enc:TypeId × Value->H} {W:World} {base n:Nat} {sp:Nat->Bool} {hd:Bool} {cs:List Value} {d:DataW H} {pl:List MemPlace} (h:DataW.trod enc Tryz.prog W base sp hd n 57 cs=some (d,pl)):
  ∃ r:Rz,cs=[.int .i64 r.kind,.string r.name,.int .i64 r.stop,.int .i64 r.n,.int .i64 r.kids]/\d=dz r/\r.kids<=9223372036854775807:=by
 obtain ⟨xs,k,hk,hxy,hl,hxl,hf⟩:=DataW.trod_struct Tryz.underlying57 h
 rw [cells57] at hl
 have hxl5:xs.length=5:=hxl
 obtain ⟨y0,y1,y2,y3,y4,rfl⟩:=five hxl5
 obtain ⟨v0,v1,v2,v3,v4,rfl⟩:=five hl
 have g0:=hf 0 _ rfl
 have g1:=hf 1 _ rfl
 have g2:=hf 2 _ rfl
 have g3:=hf 3 _ rfl
 have g4:=hf 4 _ rfl
 simp [cells3,cells9] at g0 g1 g2 g3 g4
 obtain ⟨a0,e0,f0,_⟩:=DataW.trod_int Tryz.underlying3 g0
 obtain ⟨a1,e1,f1,_⟩:=DataW.trod_string Tryz.underlying9 g1
 obtain ⟨a2,e2,f2,_⟩:=DataW.trod_int Tryz.underlying3 g2
 obtain ⟨a3,e3,f3,_⟩:=DataW.trod_int Tryz.underlying3 g3
 obtain ⟨a4,e4,f4,w4⟩:=DataW.trod_int Tryz.underlying3 g4
 simp only [List.cons.injEq,and_true] at e0 e1 e2 e3 e4
 subst e0 e1 e2 e3 e4 f0 f1 f2 f3 f4
 simp only [Prod.mk.injEq] at hxy
 exact ⟨⟨a0,a1,a2,a3,a4⟩,rfl,by simpa [dz] using hxy.1,wf_le w4⟩
theorem open_rowsZ {H:Type} {enc:TypeId × Value->H} {W:World} {a:Option Addr} {len cap:Nat} {d:DataW H} {p:List MemPlace} (h:DataW.Trod enc Tryz.prog W 0 (fun _=>true) true 22 (.slice a len cap) d p):
  ∃ l:List Rz,l.length=len/\len<=cap/\IsRz W a l/\(∀ r ∈ l,r.kids<=9223372036854775807)/\(l=[]\/∃ sp,d=.slice (l.map dz) sp):=by
 obtain ⟨fuel,hf⟩:=h
 rcases open_slice Tryz.underlying22 hf with ⟨hcs,_⟩ | ⟨x,l,c,m,n,D,Pl,hcs,_,hl,hm,hmm,hx,hcell⟩
 ·simp [Value.cells] at hcs
  obtain ⟨rfl,rfl,rfl⟩:=hcs
  exact ⟨[],rfl,Nat.le_refl _,fun i x hx=>(by simp at hx),fun r hr=>(by cases hr),Or.inl rfl⟩
 ·simp [Value.cells] at hcs
  obtain ⟨rfl,rfl,rfl⟩:=hcs
  simp only [if_true] at hmm
  subst hmm
  simp only [Prod.mk.injEq] at hx
  have each:∀ i,i < len->∃ r:Rz,W.cells? 0 (x.add (i * 5)) 5=some [.int .i64 r.kind,.string r.name,.int .i64 r.stop,.int .i64 r.n,.int .i64 r.kids]/\D i=dz r/\r.kids<=9223372036854775807:=by
   intro i hi
   obtain ⟨cs',h1,h2⟩:=hcell i (by omega)
   obtain ⟨r,rfl,h4,h5⟩:=open_one h2
   rw [cells57] at h1
   exact ⟨r,h1,h4,h5⟩
  obtain ⟨q,hq⟩:=choose_lt each
  refine ⟨(List.range len).map q,by simp,hl,fun i r hr=>?_,fun r hr=>?_,Or.inr ⟨(List.range (m - len)).map fun j=>D (len+j),?_⟩⟩
  ·have hi:i < len:=by
    have:=(List.getElem?_eq_some_iff.1 hr).1
    simpa using this
   have hri:q i=r:=by simpa [hi] using hr
   obtain ⟨h1,_,_⟩:=hq i hi
   rw [hri] at h1
   obtain ⟨_,hlen,hc⟩:=World.cells?_some h1
   have e0:=hc 0 (by omega)
   have e1:=hc 1 (by omega)
   have e2:=hc 2 (by omega)
   have e3:=hc 3 (by omega)
   have e4:=hc 4 (by omega)
   rw [add_add] at e0 e1 e2 e3 e4
   simp at e0 e1 e2 e3 e4
   obtain ⟨b,off,spot⟩:=x
   have hspot:spot=none:=by
    obtain ⟨g1,_,_⟩:=hq 0 (by omega)
    obtain ⟨_,_,gc⟩:=World.cells?_some g1
    have g0:=gc 0 (by omega)
    simp [Addr.add] at g0
    simpa [Addr.add] using World.cell?_spot g0
   subst hspot
   rw [Lib.addr_add] at e0 e1 e2 e3 e4
   refine ⟨b,off,rfl,World.block_lt_of_cell? W _ e0,e0,?_,?_,?_,?_⟩
   ·rw [Nat.add_assoc];exact e1
   ·rw [Nat.add_assoc];exact e2
   ·rw [Nat.add_assoc];exact e3
   ·rw [Nat.add_assoc];exact e4
  ·obtain ⟨i,hi,rfl⟩:=List.mem_map.1 hr
   exact (hq i (List.mem_range.1 hi)).2.2
  ·rw [hx.1]
   congr 1
   rw [List.map_map]
   exact List.map_congr_left fun i hi=>(hq i (List.mem_range.1 hi)).2.1
theorem weights_all {H:Type} {P:Program} {e:TypeId} {d:DataW H} {l:List (DataW H)} (h:d ∈ l):∀ n ∈ d.weights P e,n ∈ DataW.weightsAll P e l:=by
 induction l with
 | nil=>cases h
 | cons x r ih=>
  intro n hn
  simp only [DataW.weightsAll,List.mem_append]
  rcases List.mem_cons.1 h with rfl | h1
  ·exact Or.inl hn
  ·exact Or.inr (ih h1 n hn)
theorem rows_reach {H:Type} {ts:List TypeId} {ds:List (DataW H)} (hsz:(DataW.weightsEach Tryz.prog ts ds).all (· <= reachBytes)=true) {j:Nat} {l:List Rz} {d:DataW H} (ht:ts[j]?=some 22) (hd:ds[j]?=some d) (h:l=[]\/∃ sp,d=.slice (l.map dz) sp):
  l.length<=2932031007317/\∀ r ∈ l,r.name.size<=140737488351232:=by
 rcases h with rfl | ⟨sp,rfl⟩
 ·exact ⟨by simp,fun x hx=>by cases hx⟩
 ·refine ⟨?_,fun x hx=>?_⟩
  ·have:=sized_slice hsz ht hd Tryz.underlying22
   rw [bytes57] at this
   simp only [reachBytes,List.length_map] at this
   omega
  ·have h1:(dz x:DataW H) ∈ l.map dz:=List.mem_map.2 ⟨x,hx,rfl⟩
   have h2:=weights_all (P:=Tryz.prog) (e:=57) h1 x.name.data.toList.length (by simp [dz,DataW.weights,Tryz.underlying57,DataW.weightsEach])
   have h3:=List.all_eq_true.1 hsz _ (DataW.weights_mem_each ht hd x.name.data.toList.length (by
    simp only [DataW.weights,Tryz.underlying22]
    exact List.mem_cons_of_mem _ (List.mem_append_left _ h2)))
   have h4:=of_decide_eq_true h3
   simpa [reachBytes] using h4
end Go.Proofs.YtinjccfhhdidiaaGreat.Gr
namespace Go.Proofs.YtinjccfhhdidiaaGreat.Lx
open Go.RowKit Sp
def IsStrs (w:World) (ao:Option Addr) (ss:List ByteArray):Prop:=∀ i x,ss[i]?=some x->∃ g o,ao=some ⟨g,o,none⟩/\g < w.heap.size/\w.cell? ⟨g,o+i,none⟩=some (.string x)
def IsInts (w:World) (ao:Option Addr) (n:Nat) (z:Nat->Int):Prop:=∀ i,i < n->∃ g o,ao=some ⟨g,o,none⟩/\g < w.heap.size/\w.cell? ⟨g,o+i,none⟩=some (.int .i64 (z i))
end Go.Proofs.YtinjccfhhdidiaaGreat.Lx
namespace Go.Proofs.YtinjccfhhdidiaaGreat.Lx
open Go.ChangeShapes Go.WideShapes Go.ChangeAt Go.RowKit Sp
theorem bytes3:Tryz.prog.bytesOf 3=8:=by kernel_rfl
theorem open_texts {H:Type} {enc:TypeId × Value->H} {W:World} {a:Option Addr} {len cap:Nat} {d:DataW H} {p:List MemPlace} (h:DataW.Trod enc Tryz.prog W 0 (fun _=>true) true 24 (.slice a len cap) d p):
  ∃ ss:List ByteArray,ss.length=len/\len<=cap/\IsStrs W a ss/\(ss=[]\/∃ sp,d=.slice (strs ss) sp):=by
 obtain ⟨fuel,hf⟩:=h
 rcases open_strings Tryz.underlying24 Tryz.underlying9 (by kernel_rfl) hf with ⟨hcs,hx⟩ | ⟨x,l,c,zs,hcs,_,hl,hm,hz,hx,hcell,hwz⟩
 ·simp [Value.cells] at hcs
  obtain ⟨rfl,rfl,rfl⟩:=hcs
  exact ⟨[],rfl,Nat.le_refl _,fun i x hx=>by simp at hx,Or.inl rfl⟩
 ·simp [Value.cells] at hcs
  obtain ⟨rfl,rfl,rfl⟩:=hcs
  simp at hz hx
  obtain ⟨rfl,rfl⟩:=hx
  refine ⟨zs.take len,by simp;omega,hl,fun i y hy=>?_,Or.inr ⟨_,rfl⟩⟩
  have hil:i < len:=by
   have:=(List.getElem?_eq_some_iff.1 hy).1
   simp at this;omega
  have hc:=hcell i (by omega)
  obtain ⟨b,off,spot⟩:=x
  have h0:=hcell 0 (by omega)
  have hspot:spot=none:=by simpa [Addr.add] using World.cell?_spot h0
  subst hspot
  rw [Lib.addr_add] at hc
  refine ⟨b,off,rfl,World.block_lt_of_cell? W _ hc,?_⟩
  rw [hc]
  rw [List.getElem?_take_of_lt hil] at hy
  simp [List.getD,hy]
theorem open_nums {H:Type} {enc:TypeId × Value->H} {W:World} {a:Option Addr} {len cap:Nat} {d:DataW H} {p:List MemPlace} (h:DataW.Trod enc Tryz.prog W 0 (fun _=>true) true 25 (.slice a len cap) d p):
  ∃ z:Nat->Int,IsInts W a len z/\(len=0\/∃ el sp,d=.slice el sp/\el.length=len):=by
 obtain ⟨fuel,hf⟩:=h
 rcases open_ints Tryz.underlying25 Tryz.underlying3 (by kernel_rfl) hf with ⟨hcs,hx⟩ | ⟨x,l,c,zs,hcs,_,hl,hm,hz,hx,hcell,hwz⟩
 ·simp [Value.cells] at hcs
  obtain ⟨rfl,rfl,rfl⟩:=hcs
  exact ⟨fun _=>0,fun i hi=>absurd hi (Nat.not_lt_zero _),Or.inl rfl⟩
 ·simp [Value.cells] at hcs
  obtain ⟨rfl,rfl,rfl⟩:=hcs
  simp at hz hx
  obtain ⟨rfl,rfl⟩:=hx
  refine ⟨fun i=>zs.getD i 0,fun i hi=>?_,Or.inr ⟨_,_,rfl,by simp [lits];omega⟩⟩
  obtain ⟨b,off,spot⟩:=x
  have h0:=hcell 0 (by omega)
  have hspot:spot=none:=by simpa [Addr.add] using World.cell?_spot h0
  subst hspot
  have hc:=hcell i (by omega)
  rw [Lib.addr_add] at hc
  exact ⟨b,off,rfl,World.block_lt_of_cell? W _ hc,hc⟩
end Go.Proofs.YtinjccfhhdidiaaGreat.Lx
