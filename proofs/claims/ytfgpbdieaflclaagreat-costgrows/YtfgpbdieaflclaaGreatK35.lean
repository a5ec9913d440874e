import Derived.Test.YtfgpbdieaflclaaGreatK30
import Derived.Deep.Slices
import Derived.ChangeSame
set_option maxHeartbeats 6400000
set_option maxRecDepth 100000
namespace Go.Proofs.YtfgpbdieaflclaaGreat.Gr
open Go.ChangeShapes Go.WideShapes Go.ChangeAt Go.RowKit Go.Deep Sp Lx
theorem bytes47:Tryz.prog.bytesOf 47=48:=by kernel_rfl
theorem cells47:Tryz.prog.cellsOf 47=5:=by kernel_rfl
theorem cells3:Tryz.prog.cellsOf 3=1:=by kernel_rfl
theorem cells9:Tryz.prog.cellsOf 9=1:=by kernel_rfl
instance:Inhabited Rz:=⟨rz0⟩
def dz {H:Type} (r:Rz):DataW H:=.agg [.lit (.int .i64 r.kind),.lit (.string r.name.data.toList),.lit (.int .i64 r.stop),.lit (.int .i64 r.n),.lit (.int .i64 r.kids)]
theorem wf_le {n:Int} (h:(Lit.int .i64 n).wf=true):n<=9223372036854775807:=by
 simp [Lit.wf] at h
 omega
theorem five {α:Type} {l:List α} (h:l.length=5):∃ a b c d e,l=[a,b,c,d,e]:=by
 match l,h with
 | [a,b,c,d,e],_=>exact ⟨a,b,c,d,e,rfl⟩
theorem open_one {H:Type} {enc:TypeId × Value->H} {W:World} {base n:Nat} {sp:Nat->Bool} {hd:Bool} {cs:List Value} {d:DataW H} {pl:List MemPlace} (h:DataW.trod enc Tryz.prog W base sp hd n 47 cs=some (d,pl)):
  ∃ r:Rz,cs=[.int .i64 r.kind,.string r.name,.int .i64 r.stop,.int .i64 r.n,.int .i64 r.kids]/\d=dz r/\r.kids<=9223372036854775807:=by
 obtain ⟨xs,k,hk,hxy,hl,hxl,hf⟩:=DataW.trod_struct Tryz.underlying47 h
 rw [cells47] at hl
 have hxl5:xs.length=5:=hxl
 obtain ⟨y0,y1,y2,y3,y4,rfl⟩:=five hxl5
 obtain ⟨v0,v1,v2,v3,v4,rfl⟩:=five hl
 have g0:=hf 0 _ rfl
 have g1:=hf 1 _ rfl
 have g2:=hf 2 _ rfl
 have g3:=hf 3 _ rfl
 have g4:=hf 4 _ rfl
 simp [cells3,cells9] at g0 g1 g2 g3 g4
 obtain ⟨a0,e0,f0,_⟩:=DataW.trod_int Tryz.underlying3 g0
 obtain ⟨a1,e1,f1,_⟩:=DataW.trod_string Tryz.underlying9 g1
 obtain ⟨a2,e2,f2,_⟩:=DataW.trod_int Tryz.underlying3 g2
 obtain ⟨a3,e3,f3,_⟩:=DataW.trod_int Tryz.underlying3 g3
 obtain ⟨a4,e4,f4,w4⟩:=DataW.trod_int Tryz.underlying3 g4
 simp only [List.cons.injEq,and_true] at e0 e1 e2 e3 e4
 subst e0 e1 e2 e3 e4 f0 f1 f2 f3 f4
 simp only [Prod.mk.injEq] at hxy
 exact ⟨⟨a0,a1,a2,a3,a4⟩,rfl,by simpa [dz] using hxy.1,wf_le w4⟩
theorem open_rowsZ {H:Type} {enc:TypeId × Value->H} {W:World} {a:Option Addr} {len cap:Nat} {d:DataW H} {p:List MemPlace} (h:DataW.Trod enc Tryz.prog W 0 (fun _=>true) true 22 (.slice a len cap) d p):
  ∃ l:List Rz,l.length=len/\len<=cap/\IsRz W a l/\(∀ r ∈ l,r.kids<=9223372036854775807)/\(l=[]\/∃ sp,d=.slice (l.map dz) sp):=by
 obtain ⟨fuel,hf⟩:=h
 rcases open_slice Tryz.underlying22 hf with ⟨hcs,_⟩ | ⟨x,l,c,m,n,D,Pl,hcs,_,hl,hm,hmm,hx,hcell⟩
 ·simp [Value.cells] at hcs
  obtain ⟨rfl,rfl,rfl⟩:=hcs
  exact ⟨[],rfl,Nat.le_refl _,fun i x hx=>(by simp at hx),fun r hr=>(by cases hr),Or.inl rfl⟩
 ·simp [Value.cells] at hcs
  obtain ⟨rfl,rfl,rfl⟩:=hcs
  simp only [if_true] at hmm
  subst hmm
  simp only [Prod.mk.injEq] at hx
  have each:∀ i,i < len->∃ r:Rz,W.cells? 0 (x.add (i * 5)) 5=some [.int .i64 r.kind,.string r.name,.int .i64 r.stop,.int .i64 r.n,.int .i64 r.kids]/\D i=dz r/\r.kids<=9223372036854775807:=by
   intro i hi
   obtain ⟨cs',h1,h2⟩:=hcell i (by omega)
   obtain ⟨r,rfl,h4,h5⟩:=open_one h2
   rw [cells47] at h1
   exact ⟨r,h1,h4,h5⟩
  obtain ⟨q,hq⟩:=choose_lt each
  refine ⟨(List.range len).map q,by simp,hl,fun i r hr=>?_,fun r hr=>?_,Or.inr ⟨(List.range (m - len)).map fun j=>D (len+j),?_⟩⟩
  ·have hi:i < len:=by
    have:=(List.getElem?_eq_some_iff.1 hr).1
    simpa using this
   have hri:q i=r:=by simpa [hi] using hr
   obtain ⟨h1,_,_⟩:=hq i hi
   rw [hri] at h1
   obtain ⟨_,hlen,hc⟩:=World.cells?_some h1
   have e0:=hc 0 (by omega)
   have e1:=hc 1 (by omega)
   have e2:=hc 2 (by omega)
   have e3:=hc 3 (by omega)
   have e4:=hc 4 (by omega)
   rw [add_add] at e0 e1 e2 e3 e4
   simp at e0 e1 e2 e3 e4
   obtain ⟨b,off,spot⟩:=x
   have hspot:spot=none:=by
    obtain ⟨g1,_,_⟩:=hq 0 (by omega)
    obtain ⟨_,_,gc⟩:=World.cells?_some g1
    have g0:=gc 0 (by omega)
    simp [Addr.add] at g0
    simpa [Addr.add] using World.cell?_spot g0
   subst hspot
   rw [Lib.addr_add] at e0 e1 e2 e3 e4
   refine ⟨b,off,rfl,World.block_lt_of_cell? W _ e0,e0,?_,?_,?_,?_⟩
   ·rw [Nat.add_assoc];exact e1
   ·rw [Nat.add_assoc];exact e2
   ·rw [Nat.add_assoc];exact e3
   ·rw [Nat.add_assoc];exact e4
  ·obtain ⟨i,hi,rfl⟩:=List.mem_map.1 hr
   exact (hq i (List.mem_range.1 hi)).2.2
  ·rw [hx.1]
   congr 1
   rw [List.map_map]
   exact List.map_congr_left fun i hi=>(hq i (List.mem_range.1 hi)).2.1
theorem weights_all {H:Type} {P:Program} {e:TypeId} {d:DataW H} {l:List (DataW H)} (h:d ∈ l):∀ n ∈ d.weights P e,n ∈ DataW.weightsAll P e l:=by
 induction l with
 | nil=>cases h
 | cons x r ih=>
  intro n hn
  simp only [DataW.weightsAll,List.mem_append]
  rcases List.mem_cons.1 h with rfl | h1
  ·exact Or.inl hn
  ·exact Or.inr (ih h1 n hn)
theorem rows_reach {H:Type} {ts:List TypeId} {ds:List (DataW H)} (hsz:(DataW.weightsEach Tryz.prog ts ds).all (· <= reachBytes)=true) {j:Nat} {l:List Rz} {d:DataW H} (ht:ts[j]?=some 22) (hd:ds[j]?=some d) (h:l=[]\/∃ sp,d=.slice (l.map dz) sp):
  l.length<=2932031007317/\∀ r ∈ l,r.name.size<=140737488351232:=by
 rcases h with rfl | ⟨sp,rfl⟩
 ·exact ⟨by simp,fun x hx=>by cases hx⟩
 ·refine ⟨?_,fun x hx=>?_⟩
  ·have:=sized_slice hsz ht hd Tryz.underlying22
   rw [bytes47] at this
   simp only [reachBytes,List.length_map] at this
   omega
  ·have h1:(dz x:DataW H) ∈ l.map dz:=List.mem_map.2 ⟨x,hx,rfl⟩
   have h2:=weights_all (P:=Tryz.prog) (e:=47) h1 x.name.data.toList.length (by simp [dz,DataW.weights,Tryz.underlying47,DataW.weightsEach])
   have h3:=List.all_eq_true.1 hsz _ (DataW.weights_mem_each ht hd x.name.data.toList.length (by
    simp only [DataW.weights,Tryz.underlying22]
    exact List.mem_cons_of_mem _ (List.mem_append_left _ h2)))
   have h4:=of_decide_eq_true h3
   simpa [reachBytes] using h4
end Go.Proofs.YtfgpbdieaflclaaGreat.Gr
namespace Go.Proofs.YtfgpbdieaflclaaGreat.Nm
open Go.RowKit Go.Maps Sp Lx Gr
structure Inv2 (s:Rs):Prop where
 nd:Nd s
 ek:∀ e ∈ s.ev,e.1.1=1->e.1.2 < s.qs.length
theorem lk_no_mem {k:List Th} {nm:ByteArray} (h:lk k nm=none):nm ∉ k.map (·.1):=by
 induction k with
 | nil=>simp
 | cons x k ih=>
  obtain ⟨x1,x2⟩:=x
  simp only [lk] at h
  split at h
  ·cases h
  ·rename_i hne
   simp only [List.map_cons,List.mem_cons,not_or]
   exact ⟨hne,ih h⟩
theorem inv_D {s s':Rs} {i:Nat} (h:Inv2 s) (hs:askD i s=.ok s'):Inv2 s':=by
 unfold askD at hs
 split at hs
 ·cases hs;exact h
 split at hs
 ·cases hs
 split at hs
 ·cases hs
 rename_i h1 h2 _
 cases hs
 refine ⟨?_,fun e he h1=>?_⟩
 ·show ((rat s.rows i).name :: s.known.map (·.1)).Nodup
  refine List.nodup_cons.2 ⟨lk_no_mem ?_,h.nd⟩
  cases hq:lk s.known (rat s.rows i).name with
  | none=>rfl
  | some v=>rw [hq] at h2;exact absurd rfl h2
 ·have:=h.ek e he h1
  have hl:=(dec_lens s i).1
  rw [hl]
  omega
theorem inv_M {s s':Rs} {i:Nat} (h:Inv2 s) (hs:askM i s=.ok s'):Inv2 s':=by
 unfold askM at hs
 split at hs
 ·cases hs;exact h
 split at hs
 ·cases hs
 split at hs
 ·cases hs
 split at hs
 ·cases hs
 ·cases hs
  exact ⟨h.nd,h.ek⟩
theorem num_M2 {l0:List Rz} {m i:Nat} {s s':Rs} (hi:i < l0.length) (h:Good l0 m s) (hs:askM i s=.ok s') (he:(evt (rat s'.rows i)).1=1):0<=(rat s'.rows i).n/\(rat s'.rows i).n < (s'.qs.length:Int):=by
 have hlen:=like_len h.like
 have hkd:∀ x:Rz,(evt x).1=1->nmd x.kind=1:=fun x hx=>by
  unfold evt at hx
  split at hx
  ·rename_i hk
   rcases hk with e | e<;>(rw [e];decide)
  ·split at hx<;>cases hx
 unfold askM at hs
 split at hs
 ·rename_i h0
  cases hs
  have:=hkd _ he
  omega
 split at hs
 ·cases hs
 rename_i k mm p hlk
 split at hs
 ·cases hs
 split at hs
 ·cases hs
 ·rename_i hne
  cases hs
  dsimp only at he ⊢
  rw [rat_numb (by omega)] at he ⊢
  have h1:=hkd _ he
  have h2:=(h.kn _ (lk_mem hlk)).2.2
  dsimp only at h1 h2 ⊢
  have hk1:k=1:=by omega
  rw [hk1] at h2
  have h3:mm < s.qs.length:=h2
  omega
theorem inv_H {s s':Rs} {i:Nat} (h:Inv2 s) (hn:(evt (rat s.rows i)).1=1->0<=(rat s.rows i).n/\(rat s.rows i).n < (s.qs.length:Int)) (hs:askH i s=.ok s'):Inv2 s':=by
 unfold askH at hs
 split at hs
 ·cases hs;exact h
 split at hs
 ·cases hs
 ·cases hs
  refine ⟨h.nd,fun e he h1=>?_⟩
  rcases List.mem_cons.1 he with rfl | he
  ·have h2:(evt (rat s.rows i)).1=1:=h1
   obtain ⟨a,b⟩:=hn h2
   have h3:(evt (rat s.rows i)).2=(rat s.rows i).n:=by
    unfold evt at h2 ⊢
    split
    ·rfl
    ·rename_i h8
     rw [if_neg h8] at h2
     split at h2<;>cases h2
   show (evt (rat s.rows i)).2.toNat < s.qs.length
   rw [h3]
   omega
  ·exact h.ek e he h1
theorem Inv2.on {s:Rs} (h:Inv2 s):lk s.ev (1,s.qs.length)=none:=by
 cases hl:lk s.ev (1,s.qs.length) with
 | none=>rfl
 | some v=>
  have:=h.ek _ (lk_mem hl) rfl
  dsimp only at this
  omega
theorem inv_start (l:List Rz):Inv2 (start l):=⟨by unfold Nd start;exact List.nodup_nil,fun e he=>by simp [start] at he⟩
end Go.Proofs.YtfgpbdieaflclaaGreat.Nm
namespace Go.Proofs.YtfgpbdieaflclaaGreat.Gr
open Go.RowKit Sp Lx
theorem ends_any (ao:Option Addr) (l:List Rz) (cap:Nat) (w:World) (h:IsRz w ao l) (hn:l.length<=2932031007317) (hT:TreeZ l):
  Calls Tryz.prog 14 #[.slice ao l.length cap] w fun e w'=>∃ g,e=.returned (.slice (some ⟨g,0,none⟩) l.length l.length)/\w.heap.size<=g/\RowI w' g l.length (fun i=>(endp l i:Int))/\Below w.heap.size w w':=by
 obtain ⟨M,hmk,hM⟩:=mk_ints l.length hn
 have HI:Hid (IsRz w ao l):=h
 have HN:Hid (l.length<=2932031007317):=hn
 have HT:Hid (TreeZ l):=hT
 have HA:Hid (RowI (w.alloc (.cells M 3)) w.heap.size l.length (fun i=>if l.length<=i then (endp l i:Int) else 0)):=(hM w).ext fun i hi=>by rw [if_neg (by omega)]
 have HB0:Hid (Below w.heap.size w (w.alloc (.cells M 3))):=bAl w _
 have hln:(l.length:Int)<=2932031007317:=by omega
 clear h hn hT hM
 go_enter Tryz.func14,Tryz.ntmps14
 go_wp2_with fail
 go_loopg [4] l.length (fun gq i wr=>∃ m:Nat,m<=l.length/\gq=m/\i=.int .i64 ((m:Int) - 1)/\RowI wr w.heap.size l.length (fun i=>if m<=i then (endp l i:Int) else 0)/\Below w.heap.size w wr)
 case atStart=>exact ⟨l.length,Nat.le_refl _,rfl,by go_num,HA.out,HB0.out⟩
 case round=>
  obtain ⟨m,hm,hgk,rfl,hR,hB⟩:=hrel
  have HG:Hid (gk=m):=hgk
  have HR:Hid (RowI wr w.heap.size l.length (fun i=>if m<=i then (endp l i:Int) else 0)):=hR
  have HB:Hid (Below w.heap.size w wr):=hB
  clear hgk hR hB hmk
  cases m with
  | zero=>
   go_wp2_with fail
   go_ret
   exact ⟨w.heap.size,rfl,Nat.le_refl _,HR.out.ext fun i _=>by rw [if_pos (Nat.zero_le _)],HB.out⟩
  | succ m=>
   have hml:m < l.length:=by omega
   have hmi:(((m+1:Nat):Int) - 1)=(m:Int):=by omega
   rw [hmi]
   obtain ⟨g,o,rfl,hg,c0,c4⟩:=kids_at (HI.out.below HB.out) HT.out hml
   have hml':(m:Int) < (l.length:Int):=by omega
   have hm0:(m:Int)<=2932031007317:=by omega
   clear hm hmi
   generalize wr=W1 at *
   go_wp2_with fail
   go_loopg [5,6] (km l m) (fun gq nx kk wr'=>∃ k:Nat,k<=km l m/\gq=km l m - k/\nx=.int .i64 (kidp l m k:Int)/\kk=.int .i64 k/\wr'=W1)
   case atStart=>exact ⟨0,Nat.zero_le _,rfl,by rw [kid_zero];go_num,rfl,rfl⟩
   case round=>
    obtain ⟨k,hk,hgk,rfl,rfl,hw⟩:=hrel
    have HG2:Hid (gk=km l m - k):=hgk
    rw [hw]
    clear hgk hw
    have HK:Hid (k<=km l m):=hk
    have hkl:(kidp l m k:Int)<=2932031007317:=by have h1:=kid_le HT.out.whole hml hk;have h2:=HN.out;omega
    have HKe:Hid (km l m<=kidp l m (km l m)):=by
     show _<=_
     have:∀ j,j<=km l m->j<=kidp l m j:=by
      intro j
      induction j with
      | zero=>intro _;omega
      | succ j ih=>
       intro hj
       obtain ⟨h1,h2,h3⟩:=kid_at HT.out.whole hml (k:=j) (by omega)
       have h4:=(end_kid HT.out.whole h1).2.1
       have:=ih (by omega)
       omega
     exact this _ (Nat.le_refl _)
    have hkm:(km l m:Int)<=2932031007317:=by have h1:=HKe.out;have h2:=kid_le HT.out.whole hml (Nat.le_refl _);have h3:=HN.out;omega
    by_cases hlt:k < km l m
    ·obtain ⟨h1,h2,h3⟩:=kid_at HT.out.whole hml hlt
     have hc:=HR.out.cell h1
     rw [if_pos (by omega)] at hc
     have hlt':(k:Int) < (km l m:Int):=by omega
     have hkl':(kidp l m k:Int) < (l.length:Int):=by omega
     have HN2:Hid (kidp l m (k+1)=endp l (kidp l m k)):=h2
     clear h1 h2 h3 hlt hk
     go_wp2_with fail
     go_roundg (km l m - (k+1))
     case measure=>have h1:=HG2.out;have h2:=HK.out;omega
     case rel=>exact ⟨k+1,by omega,rfl,by rw [HN2.out],by go_num,rfl⟩
    ·have hlt':¬ ((k:Int) < (km l m:Int)):=by omega
     have hke:k=km l m:=by omega
     have HE:Hid (kidp l m k=endp l m):=by show _=_;rw [hke];exact (end_kid HT.out.whole hml).1.symm
     have hc:=HR.out.cell hml
     have hf:=HR.out.frozen m
     generalize (if m+1<=m then (endp l m:Int) else 0)=y at hc
     have HS:Hid (RowI (W1.setCell ⟨w.heap.size,m,none⟩ (.int .i64 (kidp l m k:Int))) w.heap.size l.length (fun i=>if i=m then (kidp l m k:Int) else if m+1<=i then (endp l i:Int) else 0)):=HR.out.set m (kidp l m k:Int)
     have HB2:Hid (Below w.heap.size w (W1.setCell ⟨w.heap.size,m,none⟩ (.int .i64 (kidp l m k:Int)))):=HB.out.trans ((Below.refl w.heap.size W1).setCell (p:=⟨w.heap.size,m,none⟩) (Nat.le_refl _) _)
     clear hke hlt hk
     go_wp2_with fail
     go_roundg m
     case measure=>have:=HG.out;omega
     case rel=>
      refine ⟨m,by omega,rfl,by go_num,HS.out.ext fun i _=>?_,HB2.out⟩
      by_cases e:i=m
      ·subst e;rw [if_pos rfl,if_pos (Nat.le_refl _),HE.out]
      ·rw [if_neg e]
       by_cases e2:m+1<=i
       ·rw [if_pos e2,if_pos (by omega)]
       ·rw [if_neg e2,if_neg (by omega)]
def fu (l:List Rz) (i k p:Nat):Int:=if p=0 then -1 else if up l p < i\/(up l p=i/\wh l p < k) then (up l p:Int) else 0
def fw (l:List Rz) (i k p:Nat):Int:=if p=0 then 0 else if up l p < i\/(up l p=i/\wh l p < k) then (wh l p:Int) else 0
theorem f_iff {l:List Rz} (h:Whole l) {i k q:Nat} (h0:0 < q) (hq:q < l.length) (hne:q ≠ kidp l i k):(up l q < i\/(up l q=i/\wh l q < k+1)) ↔ (up l q < i\/(up l q=i/\wh l q < k)):=by
 have h1:=(up_at h h0 hq).1
 constructor
 ·rintro (h2 | ⟨h2,h3⟩)
  ·exact Or.inl h2
  ·refine Or.inr ⟨h2,?_⟩
   rcases Nat.lt_or_ge (wh l q) k with h4 | h4
   ·exact h4
   ·have:wh l q=k:=by omega
    rw [h2,this] at h1
    exact absurd h1.symm hne
 ·rintro (h2 | ⟨h2,h3⟩)
  ·exact Or.inl h2
  ·exact Or.inr ⟨h2,by omega⟩
theorem fu_step {l:List Rz} (h:Whole l) {i k:Nat} (hi:i < l.length) (hk:k < km l i) (q:Nat) (hq:q < l.length):(if q=kidp l i k then (i:Int) else fu l i k q)=fu l i (k+1) q:=by
 obtain ⟨e1,e2⟩:=up_kid h hi hk
 have h3:=(kid_at h hi hk).2.2
 by_cases e:q=kidp l i k
 ·rw [if_pos e]
  unfold fu
  rw [if_neg (by omega),if_pos (Or.inr ⟨by rw [e];exact e1,by rw [e,e2];omega⟩),e,e1]
 ·rw [if_neg e]
  unfold fu
  by_cases h0:q=0
  ·rw [if_pos h0,if_pos h0]
  ·rw [if_neg h0,if_neg h0]
   simp only [f_iff h (by omega) hq e]
theorem fw_step {l:List Rz} (h:Whole l) {i k:Nat} (hi:i < l.length) (hk:k < km l i) (q:Nat) (hq:q < l.length):(if q=kidp l i k then (k:Int) else fw l i k q)=fw l i (k+1) q:=by
 obtain ⟨e1,e2⟩:=up_kid h hi hk
 have h3:=(kid_at h hi hk).2.2
 by_cases e:q=kidp l i k
 ·rw [if_pos e]
  unfold fw
  rw [if_neg (by omega),if_pos (Or.inr ⟨by rw [e];exact e1,by rw [e,e2];omega⟩),e,e2]
 ·rw [if_neg e]
  unfold fw
  by_cases h0:q=0
  ·rw [if_pos h0,if_pos h0]
  ·rw [if_neg h0,if_neg h0]
   simp only [f_iff h (by omega) hq e]
theorem f_done {l:List Rz} (h:Whole l) {i q:Nat} (h0:0 < q) (hq:q < l.length):(up l q < i\/(up l q=i/\wh l q < km l i)) ↔ (up l q < i+1\/(up l q=i+1/\wh l q < 0)):=by
 have h1:=(up_at h h0 hq).2.1
 constructor
 ·rintro (h2 | ⟨h2,h3⟩)<;>left<;>omega
 ·rintro (h2 | ⟨h2,h3⟩)
  ·rcases Nat.lt_or_ge (up l q) i with h4 | h4
   ·exact Or.inl h4
   ·have:up l q=i:=by omega
    rw [this] at h1
    exact Or.inr ⟨this,h1⟩
  ·omega
theorem fu_done {l:List Rz} (h:Whole l) {i q:Nat} (hq:q < l.length):fu l i (km l i) q=fu l (i+1) 0 q:=by
 unfold fu
 by_cases h0:q=0
 ·rw [if_pos h0,if_pos h0]
 ·rw [if_neg h0,if_neg h0]
  simp only [f_done h (by omega) hq]
theorem fw_done {l:List Rz} (h:Whole l) {i q:Nat} (hq:q < l.length):fw l i (km l i) q=fw l (i+1) 0 q:=by
 unfold fw
 by_cases h0:q=0
 ·rw [if_pos h0,if_pos h0]
 ·rw [if_neg h0,if_neg h0]
  simp only [f_done h (by omega) hq]
def upv (l:List Rz) (p:Nat):Int:=if p=0 then -1 else (up l p:Int)
theorem fu_all {l:List Rz} (h:Whole l) {q:Nat} (hq:q < l.length):fu l l.length 0 q=upv l q:=by
 unfold fu upv
 by_cases h0:q=0
 ·rw [if_pos h0,if_pos h0]
 ·have:=(up_at h (by omega) hq).2.2.1
  rw [if_neg h0,if_neg h0,if_pos (Or.inl (by omega))]
theorem fw_all {l:List Rz} (h:Whole l) {q:Nat} (hq:q < l.length):fw l l.length 0 q=(wh l q:Int):=by
 unfold fw
 by_cases h0:q=0
 ·rw [if_pos h0,h0];rfl
 ·have:=(up_at h (by omega) hq).2.2.1
  rw [if_neg h0,if_pos (Or.inl (by omega))]
structure Par3 (w0:World) (l:List Rz) (ge i k:Nat) (wr:World):Prop where
 u:RowI wr w0.heap.size l.length (fu l i k)
 v:RowI wr (w0.heap.size+1) l.length (fw l i k)
 e:RowI wr ge l.length (fun i=>(endp l i:Int))
 b:Below w0.heap.size w0 wr
theorem parents_any (ao:Option Addr) (l:List Rz) (cap:Nat) (w:World) (h:IsRz w ao l) (hn:l.length<=2932031007317) (hT:TreeZ l) (h0:0 < l.length):
  Calls Tryz.prog 44 #[.slice ao l.length cap] w fun e w'=>e=.returned (.tuple #[.slice (some ⟨w.heap.size,0,none⟩) l.length l.length,.slice (some ⟨w.heap.size+1,0,none⟩) l.length l.length]) /\
   RowI w' w.heap.size l.length (upv l)/\RowI w' (w.heap.size+1) l.length (fun p=>(wh l p:Int))/\Below w.heap.size w w':=by
 obtain ⟨M,hmk,hM⟩:=mk_ints l.length hn
 have hb1:Below w.heap.size w (w.alloc (.cells M 3)):=bAl w _
 have hb2:Below w.heap.size w ((w.alloc (.cells M 3)).alloc (.cells M 3)):=hb1.alloc hb1.size _
 have HE:=show Hid (Calls Tryz.prog 14 #[.slice ao l.length cap] ((w.alloc (.cells M 3)).alloc (.cells M 3)) fun e w'=>∃ g,e=.returned (.slice (some ⟨g,0,none⟩) l.length l.length)/\((w.alloc (.cells M 3)).alloc (.cells M 3)).heap.size<=g/\RowI w' g l.length (fun i=>(endp l i:Int))/\Below ((w.alloc (.cells M 3)).alloc (.cells M 3)).heap.size ((w.alloc (.cells M 3)).alloc (.cells M 3)) w') from
  ends_any ao l cap _ (h.below hb2) hn hT
 have HU:Hid (RowI ((w.alloc (.cells M 3)).alloc (.cells M 3)) w.heap.size l.length (fun _=>0)):=(hM w).of_block (Below.heap_alloc _ _ _ (by simp))
 have HV:Hid (RowI ((w.alloc (.cells M 3)).alloc (.cells M 3)) (w.heap.size+1) l.length (fun _=>0)):=by
  have:=hM (w.alloc (.cells M 3))
  rw [World.size_alloc] at this
  exact this
 have HB2:Hid (Below w.heap.size w ((w.alloc (.cells M 3)).alloc (.cells M 3))):=hb2
 have hz2:((w.alloc (.cells M 3)).alloc (.cells M 3)).heap.size=w.heap.size+2:=by simp
 have HZ2:Hid (((w.alloc (.cells M 3)).alloc (.cells M 3)).heap.size=w.heap.size+2):=hz2
 have HI:Hid (IsRz w ao l):=h
 have HN:Hid (l.length<=2932031007317):=hn
 have HT:Hid (TreeZ l):=hT
 have hln:(l.length:Int)<=2932031007317:=by omega
 have h0':(0:Int) < (l.length:Int):=by omega
 clear h hn hT hM hb1 hb2 hz2
 go_enter Tryz.func44,Tryz.ntmps44
 go_wp2_with fail
 refine HE.out.mono ?_
 rintro e w3 ⟨ge,rfl,hge,hRe,hB3⟩
 rw [HZ2.out] at hge hB3
 have hU3:=HU.out.below hB3 (by omega)
 have hV3:=HV.out.below hB3 (by omega)
 have hc:=hU3.cell h0
 have hf:=hU3.frozen 0
 have hP0:Par3 w l ge 0 0 (w3.setCell ⟨w.heap.size,0,none⟩ (.int .i64 (-1))):=by
  refine ⟨(hU3.set 0 (-1)).ext fun i _=>?_,(hV3.other (by simp) _).ext fun i _=>?_,hRe.other (by show ge ≠ w.heap.size;omega) _,(HB2.out.trans (hB3.mono (by omega))).setCell (p:=⟨w.heap.size,0,none⟩) (Nat.le_refl _) _⟩
  ·unfold fu
   by_cases e:i=0
   ·rw [if_pos e,if_pos e]
   ·rw [if_neg e,if_neg e,if_neg (by omega)]
  ·unfold fw
   by_cases e:i=0
   ·rw [if_pos e]
   ·rw [if_neg e,if_neg (by omega)]
 have HP0:Hid (Par3 w l ge 0 0 (w3.setCell ⟨w.heap.size,0,none⟩ (.int .i64 (-1)))):=hP0
 have HGe:Hid (w.heap.size+2<=ge):=hge
 clear hRe hB3 hU3 hV3 hP0 hge hmk
 go_wp2_with fail
 go_loopg [7] l.length (fun gq x wr=>∃ i:Nat,i<=l.length/\gq=l.length - i/\x=.int .i64 i/\Par3 w l ge i 0 wr)
 case atStart=>exact ⟨0,Nat.zero_le _,rfl,rfl,HP0.out⟩
 case round=>
  obtain ⟨i,hi,hgk,rfl,hP⟩:=hrel
  have HG:Hid (gk=l.length - i):=hgk
  have HP:Hid (Par3 w l ge i 0 wr):=hP
  clear hgk hP hc hf
  by_cases hlt:i < l.length
  ·have hlt':(i:Int) < (l.length:Int):=by omega
   have HKm:Hid (km l i<=l.length):=km_le HT.out.whole hlt
   have hkm:(km l i:Int)<=2932031007317:=by have h1:=HKm.out;have h2:=HN.out;omega
   go_wp2_with fail
   go_loopg [8,9] (km l i) (fun gq nx kk wr=>∃ k:Nat,k<=km l i/\gq=km l i - k/\nx=.int .i64 (kidp l i k:Int)/\kk=.int .i64 k/\Par3 w l ge i k wr)
   case atStart=>exact ⟨0,Nat.zero_le _,rfl,by rw [kid_zero];go_num,rfl,HP.out⟩
   case round=>
    obtain ⟨k,hk,hgk,rfl,rfl,hP⟩:=hrel
    have HG2:Hid (gk=km l i - k):=hgk
    have HP2:Hid (Par3 w l ge i k wr):=hP
    clear hgk hP
    have hkl:(kidp l i k:Int)<=2932031007317:=by have h1:=kid_le HT.out.whole hlt hk;have h2:=HN.out;omega
    obtain ⟨g,o,rfl,hg,c0,c4⟩:=kids_at (HI.out.below HP2.out.b) HT.out hlt
    by_cases hlk:k < km l i
    ·obtain ⟨h1,h2,h3⟩:=kid_at HT.out.whole hlt hlk
     have hlk':(k:Int) < (km l i:Int):=by omega
     have h1':(kidp l i k:Int) < (l.length:Int):=by omega
     have hr1:=HP2.out.u.set (kidp l i k) i
     have hr2:=HP2.out.v.other (a:=⟨w.heap.size,kidp l i k,none⟩) (by simp) (.int .i64 i)
     have hr3:=HP2.out.e.other (a:=⟨w.heap.size,kidp l i k,none⟩) (by show ge ≠ w.heap.size;have:=HGe.out;omega) (.int .i64 i)
     have hs1:=hr1.other (a:=⟨w.heap.size+1,kidp l i k,none⟩) (by simp) (.int .i64 k)
     have hs2:=hr2.set (kidp l i k) k
     have hs3:=hr3.other (a:=⟨w.heap.size+1,kidp l i k,none⟩) (by show ge ≠ w.heap.size+1;have:=HGe.out;omega) (.int .i64 k)
     have a1:=HP2.out.u.cell h1
     have a2:=HP2.out.u.frozen (kidp l i k)
     have a3:=hr2.cell h1
     have a4:=hr2.frozen (kidp l i k)
     have a5:=hs3.cell h1
     have HP3:Hid (Par3 w l ge i (k+1) ((wr.setCell ⟨w.heap.size,kidp l i k,none⟩ (.int .i64 i)).setCell ⟨w.heap.size+1,kidp l i k,none⟩ (.int .i64 k))):=
      ⟨hs1.ext fun q hq=>fu_step HT.out.whole hlt hlk q hq,hs2.ext fun q hq=>fw_step HT.out.whole hlt hlk q hq,hs3,(HP2.out.b.setCell (p:=⟨w.heap.size,kidp l i k,none⟩) (Nat.le_refl _) _).setCell (p:=⟨w.heap.size+1,kidp l i k,none⟩) (Nat.le_succ _) _⟩
     have HN2:Hid (kidp l i (k+1)=endp l (kidp l i k)):=h2
     have hge1:ge < wr.heap.size:=HP2.out.e.lt
     clear hr1 hr2 hr3 hs1 hs2 hs3 h1 h2 h3 hlk hk
     generalize fu l i k (kidp l i k)=y1 at a1
     generalize fw l i k (kidp l i k)=y2 at a3
     go_wp2_with fail
     go_roundg (km l i - (k+1))
     case measure=>have h1:=HG2.out;omega
     case rel=>exact ⟨k+1,by omega,rfl,by rw [HN2.out],by go_num,HP3.out⟩
    ·have hlk':¬ ((k:Int) < (km l i:Int)):=by omega
     have hke:k=km l i:=by omega
     have HP3:Hid (Par3 w l ge (i+1) 0 wr):=by
      obtain ⟨q1,q2,q3,q4⟩:=HP2.out
      rw [hke] at q1 q2
      exact ⟨q1.ext fun q hq=>fu_done HT.out.whole hq,q2.ext fun q hq=>fw_done HT.out.whole hq,q3,q4⟩
     clear hke hlk hk
     go_wp2_with fail
     go_roundg (l.length - (i+1))
     case measure=>have h1:=HG.out;omega
     case rel=>exact ⟨i+1,by omega,rfl,by go_num,HP3.out⟩
  ·have hlt':¬ ((i:Int) < (l.length:Int)):=by omega
   have hie:i=l.length:=by omega
   have HF:Hid (Par3 w l ge l.length 0 wr):=by rw [hie] at HP;exact HP
   clear hie hlt
   go_wp2_with fail
   go_ret2
   exact ⟨rfl,HF.out.u.ext fun q hq=>fu_all HT.out.whole hq,HF.out.v.ext fun q hq=>fw_all HT.out.whole hq,HF.out.b⟩
end Go.Proofs.YtfgpbdieaflclaaGreat.Gr
