import Derived.Test.YtinjccfhhdidiaaGreatK44
import Derived.Test.YtinjccfhhdidiaaGreatK43
set_option maxHeartbeats 25600000
set_option maxRecDepth 100000
namespace Go.Proofs.YtinjccfhhdidiaaGreat.Nm
open Go.ChangeShapes Go.WideShapes Go.ChangeAt Go.RowKit Sp Lx Gr
section
variable {H:Type} {enc:TypeId × Value->H} {W:World}
theorem ints_valsJ {ao:Option Addr} {len:Nat} {z:Nat->Int} (h:IsInts W ao len z):IsVals W ao (iv ((List.range len).map z)):=fun k x hx=>by
 have hk:k < len:=by
  have:=(List.getElem?_eq_some_iff.1 hx).1
  simpa [iv] using this
 have e:x=.int .i64 (z k):=by
  rw [show (iv ((List.range len).map z))[k]?=some (.int .i64 (z k)) by simp [iv,hk]] at hx
  cases hx
  rfl
 subst e
 exact h k hk
theorem nil_capI {a:Option Addr} {len cap:Nat} {d:DataW H} {p:List MemPlace} (h:DataW.Trod enc Tryz.prog W 0 (fun _=>true) true 25 (.slice a len cap) d p):a=none->cap=0:=by
 obtain ⟨fuel,hf⟩:=h
 rcases open_ints Tryz.underlying25 Tryz.underlying3 (by kernel_rfl) hf with ⟨hcs,hx⟩ | ⟨x,l,c,zs,hcs,_⟩
 ·simp [Value.cells] at hcs
  obtain ⟨rfl,rfl,rfl⟩:=hcs
  exact fun _=>rfl
 ·simp [Value.cells] at hcs
  obtain ⟨rfl,rfl,rfl⟩:=hcs
  intro e
  cases e
theorem nums_reachJ {ts:List TypeId} {ds:List (DataW H)} (hsz:(DataW.weightsEach Tryz.prog ts ds).all (· <= reachBytes)=true) {j len:Nat} {d:DataW H} (ht:ts[j]?=some 25) (hd:ds[j]?=some d) (h:len=0\/∃ el sp,d=.slice el sp/\el.length=len):len<=17592186043904:=by
 rcases h with rfl | ⟨el,sp,rfl,rfl⟩
 ·omega
 ·have:=sized_slice hsz ht hd Tryz.underlying25
  rw [bytes3] at this
  simp only [reachBytes] at this
  omega
end
end Go.Proofs.YtinjccfhhdidiaaGreat.Nm
namespace Go.Proofs.YtinjccfhhdidiaaGreat.Nm
open Go.RowKit Go.Maps Sp Lx Gr
def lpN (l:List Rz) (i:Nat):Nat:=(l.take i).countP (fun r=>r.kind == 13)
def rdv (l:List Rz) (rl:List Int) (j:Nat):Int:=if (rat l j).kind=13 then rl.getD (lpN l j % rl.length) 0 else 0
theorem lp_zero (l:List Rz):lpN l 0=0:=by simp [lpN]
theorem lp_step {l:List Rz} {i:Nat} (h:i < l.length):lpN l (i+1)=lpN l i+if (rat l i).kind=13 then 1 else 0:=by
 have e:=some_rat h
 have e2:l.take (i+1)=l.take i++[rat l i]:=by rw [List.take_add_one,e];rfl
 unfold lpN
 rw [e2,List.countP_append]
 congr 1
 simp
theorem lp_le (l:List Rz) (i:Nat):lpN l i<=l.length:=by
 unfold lpN
 exact Nat.le_trans List.countP_le_length (by first | (simp;done) | (simp;omega))
theorem rdv_nil (l:List Rz) (j:Nat):rdv l [] j=0:=by simp [rdv]
theorem row_kind {w:World} {ao:Option Addr} {l:List Rz} (h:IsRz w ao l) {k:Nat} (hk:k < l.length):∃ g o,ao=some ⟨g,o,none⟩/\g < w.heap.size/\w.cell? ⟨g,o+k * 5,none⟩=some (.int .i64 (rat l k).kind):=by
 obtain ⟨g,o,e,hg,c0,_⟩:=h k _ (some_rat hk)
 exact ⟨g,o,e,hg,c0⟩
theorem rdv_cell {w:World} {eo:Option Addr} {rl:List Int} (h:IsVals w eo (iv rl)) (c:Nat) (h0:0 < rl.length):∃ g o,eo=some ⟨g,o,none⟩/\g < w.heap.size/\w.cell? ⟨g,o+c % rl.length,none⟩=some (.int .i64 (rl.getD (c % rl.length) 0)):=by
 have hlt:=Nat.mod_lt c h0
 refine h (c % rl.length) _ ?_
 simp [iv,List.getD,hlt]
theorem rounds_any {P:Pg} {ao qo vo tto uo oo:Option Addr} {ac qc vc tc uc oc:Nat} {rl:List Int} {eo:Option Addr} {ec:Nat} {w:World} (h:IsRz w ao P.rows) (hr:IsVals w eo (iv rl)) (hn:P.rows.length<=65536) (hR:rl.length<=1152921504606846975):
  Calls Tryz.prog 17 #[pvG P ao qo vo tto uo oo ac qc vc tc uc oc,.slice eo rl.length ec] w fun e w'=>∃ g,e=.returned (.agg #[.slice none 0 0,.slice none 0 0,.slice (some ⟨g,0,none⟩) P.rows.length P.rows.length])/\w.heap.size<=g/\RowI w' g P.rows.length (rdv P.rows rl)/\Below w.heap.size w w':=by
 obtain ⟨M,hmk,hM⟩:=mk_ints P.rows.length (by omega)
 have HI:Hid (IsRz w ao P.rows):=h
 have HV:Hid (IsVals w eo (iv rl)):=hr
 have hln:(P.rows.length:Int)<=65536:=by omega
 have hlr:(rl.length:Int)<=1152921504606846975:=by omega
 have H0:Hid (RowI ((((w.alloc (.cells #[.string P.name,.slice ao P.rows.length ac,.slice qo P.qs.length qc,.slice vo P.vs.length vc,.slice tto P.ts.length tc,.slice uo P.us.length uc,.slice oo P.on.length oc,.int .i64 P.miss] 27)).alloc (.cells #[.slice none 0 0,.slice none 0 0,.slice none 0 0] 30)).alloc (.cells M 3)).alloc (.cells #[.slice none 0 0,.slice none 0 0,.slice (some ⟨w.heap.size+1+1,0,none⟩) P.rows.length P.rows.length] 30)) (w.heap.size+1+1) P.rows.length (fun _=>0)/\((((w.alloc (.cells #[.string P.name,.slice ao P.rows.length ac,.slice qo P.qs.length qc,.slice vo P.vs.length vc,.slice tto P.ts.length tc,.slice uo P.us.length uc,.slice oo P.on.length oc,.int .i64 P.miss] 27)).alloc (.cells #[.slice none 0 0,.slice none 0 0,.slice none 0 0] 30)).alloc (.cells M 3)).alloc (.cells #[.slice none 0 0,.slice none 0 0,.slice (some ⟨w.heap.size+1+1,0,none⟩) P.rows.length P.rows.length] 30)).heap[w.heap.size]?=some (.cells #[.string P.name,.slice ao P.rows.length ac,.slice qo P.qs.length qc,.slice vo P.vs.length vc,.slice tto P.ts.length tc,.slice uo P.us.length uc,.slice oo P.on.length oc,.int .i64 P.miss] 27 (0,0))/\((((w.alloc (.cells #[.string P.name,.slice ao P.rows.length ac,.slice qo P.qs.length qc,.slice vo P.vs.length vc,.slice tto P.ts.length tc,.slice uo P.us.length uc,.slice oo P.on.length oc,.int .i64 P.miss] 27)).alloc (.cells #[.slice none 0 0,.slice none 0 0,.slice none 0 0] 30)).alloc (.cells M 3)).alloc (.cells #[.slice none 0 0,.slice none 0 0,.slice (some ⟨w.heap.size+1+1,0,none⟩) P.rows.length P.rows.length] 30)).heap[w.heap.size+1]?=some (.cells #[.slice none 0 0,.slice none 0 0,.slice none 0 0] 30 (0,0))/\((((w.alloc (.cells #[.string P.name,.slice ao P.rows.length ac,.slice qo P.qs.length qc,.slice vo P.vs.length vc,.slice tto P.ts.length tc,.slice uo P.us.length uc,.slice oo P.on.length oc,.int .i64 P.miss] 27)).alloc (.cells #[.slice none 0 0,.slice none 0 0,.slice none 0 0] 30)).alloc (.cells M 3)).alloc (.cells #[.slice none 0 0,.slice none 0 0,.slice (some ⟨w.heap.size+1+1,0,none⟩) P.rows.length P.rows.length] 30)).heap[w.heap.size+1+1+1]?=some (.cells #[.slice none 0 0,.slice none 0 0,.slice (some ⟨w.heap.size+1+1,0,none⟩) P.rows.length P.rows.length] 30 (0,0))/\Below w.heap.size w ((((w.alloc (.cells #[.string P.name,.slice ao P.rows.length ac,.slice qo P.qs.length qc,.slice vo P.vs.length vc,.slice tto P.ts.length tc,.slice uo P.us.length uc,.slice oo P.on.length oc,.int .i64 P.miss] 27)).alloc (.cells #[.slice none 0 0,.slice none 0 0,.slice none 0 0] 30)).alloc (.cells M 3)).alloc (.cells #[.slice none 0 0,.slice none 0 0,.slice (some ⟨w.heap.size+1+1,0,none⟩) P.rows.length P.rows.length] 30))):=by
  have e2:=hM ((w.alloc (.cells #[.string P.name,.slice ao P.rows.length ac,.slice qo P.qs.length qc,.slice vo P.vs.length vc,.slice tto P.ts.length tc,.slice uo P.us.length uc,.slice oo P.on.length oc,.int .i64 P.miss] 27)).alloc (.cells #[.slice none 0 0,.slice none 0 0,.slice none 0 0] 30))
  have es:((w.alloc (.cells #[.string P.name,.slice ao P.rows.length ac,.slice qo P.qs.length qc,.slice vo P.vs.length vc,.slice tto P.ts.length tc,.slice uo P.us.length uc,.slice oo P.on.length oc,.int .i64 P.miss] 27)).alloc (.cells #[.slice none 0 0,.slice none 0 0,.slice none 0 0] 30)).heap.size=w.heap.size+1+1:=by simp
  rw [es] at e2
  refine ⟨e2.of_block (alloc_old _ _ _ (by simp)),?_,?_,?_,((((Below.refl _ w).alloc (Nat.le_refl _) _).alloc (by simp) _).alloc (by first | (simp;done) | (simp;omega)) _).alloc (by first | (simp;done) | (simp;omega)) _⟩
  ·rw [alloc_old _ _ _ (by first | (simp;done) | (simp;omega)),alloc_old _ _ _ (by first | (simp;done) | (simp;omega)),alloc_old _ _ _ (by simp)]
   exact alloc_at _ _ _ rfl
  ·rw [alloc_old _ _ _ (by first | (simp;done) | (simp;omega)),alloc_old _ _ _ (by simp)]
   exact alloc_at _ _ _ (by simp)
  ·exact alloc_at _ _ _ (by simp)
 dsimp only [pvG]
 clear h hr hn hM
 go_enter Tryz.func17,Tryz.ntmps17
 go_wp2_with fail
 generalize ((((w.alloc (.cells #[.string P.name,.slice ao P.rows.length ac,.slice qo P.qs.length qc,.slice vo P.vs.length vc,.slice tto P.ts.length tc,.slice uo P.us.length uc,.slice oo P.on.length oc,.int .i64 P.miss] 27)).alloc (.cells #[.slice none 0 0,.slice none 0 0,.slice none 0 0] 30)).alloc (.cells M 3)).alloc (.cells #[.slice none 0 0,.slice none 0 0,.slice (some ⟨w.heap.size+1+1,0,none⟩) P.rows.length P.rows.length] 30))=W0 at *
 clear hmk
 go_loopg [6,7] P.rows.length (fun gq c i wr=>∃ m:Nat,m<=P.rows.length/\gq=P.rows.length - m/\c=.int .i64 (lpN P.rows m:Int)/\i=.int .i64 m/\RowI wr (w.heap.size+1+1) P.rows.length (fun i=>if i < m then rdv P.rows rl i else 0)/\wr.heap[w.heap.size]?=some (.cells #[.string P.name,.slice ao P.rows.length ac,.slice qo P.qs.length qc,.slice vo P.vs.length vc,.slice tto P.ts.length tc,.slice uo P.us.length uc,.slice oo P.on.length oc,.int .i64 P.miss] 27 (0,0))/\wr.heap[w.heap.size+1]?=some (.cells #[.slice none 0 0,.slice none 0 0,.slice none 0 0] 30 (0,0))/\wr.heap[w.heap.size+1+1+1]?=some (.cells #[.slice none 0 0,.slice none 0 0,.slice (some ⟨w.heap.size+1+1,0,none⟩) P.rows.length P.rows.length] 30 (0,0))/\Below w.heap.size w wr)
 case atStart=>exact ⟨0,Nat.zero_le _,rfl,by rw [lp_zero];go_num,by go_num,H0.out.1.ext fun i _=>(if_neg (Nat.not_lt_zero _)).symm,H0.out.2⟩
 case round=>
  obtain ⟨m,hm,hgk,rfl,rfl,hrel⟩:=hrel
  have HR:Hid (RowI wr (w.heap.size+1+1) P.rows.length (fun i=>if i < m then rdv P.rows rl i else 0)/\wr.heap[w.heap.size]?=some (.cells #[.string P.name,.slice ao P.rows.length ac,.slice qo P.qs.length qc,.slice vo P.vs.length vc,.slice tto P.ts.length tc,.slice uo P.us.length uc,.slice oo P.on.length oc,.int .i64 P.miss] 27 (0,0))/\wr.heap[w.heap.size+1]?=some (.cells #[.slice none 0 0,.slice none 0 0,.slice none 0 0] 30 (0,0))/\wr.heap[w.heap.size+1+1+1]?=some (.cells #[.slice none 0 0,.slice none 0 0,.slice (some ⟨w.heap.size+1+1,0,none⟩) P.rows.length P.rows.length] 30 (0,0))/\Below w.heap.size w wr):=hrel
  have HG:Hid (gk=P.rows.length - m):=hgk
  have hcl:(lpN P.rows m:Int)<=65536:=by have:=lp_le P.rows m;omega
  have hc0:(0:Int)<=(lpN P.rows m:Int):=by omega
  have HN:Hid (∀ y:Int,RowI (wr.setCell ⟨w.heap.size+1+1,m,none⟩ (.int .i64 y)) (w.heap.size+1+1) P.rows.length (fun i=>if i=m then y else if i < m then rdv P.rows rl i else 0)/\(wr.setCell ⟨w.heap.size+1+1,m,none⟩ (.int .i64 y)).heap[w.heap.size]?=some (.cells #[.string P.name,.slice ao P.rows.length ac,.slice qo P.qs.length qc,.slice vo P.vs.length vc,.slice tto P.ts.length tc,.slice uo P.us.length uc,.slice oo P.on.length oc,.int .i64 P.miss] 27 (0,0))/\(wr.setCell ⟨w.heap.size+1+1,m,none⟩ (.int .i64 y)).heap[w.heap.size+1]?=some (.cells #[.slice none 0 0,.slice none 0 0,.slice none 0 0] 30 (0,0))/\(wr.setCell ⟨w.heap.size+1+1,m,none⟩ (.int .i64 y)).heap[w.heap.size+1+1+1]?=some (.cells #[.slice none 0 0,.slice none 0 0,.slice (some ⟨w.heap.size+1+1,0,none⟩) P.rows.length P.rows.length] 30 (0,0))/\Below w.heap.size w (wr.setCell ⟨w.heap.size+1+1,m,none⟩ (.int .i64 y))):=by
   intro y
   refine ⟨HR.out.1.set m y,?_,?_,?_,HR.out.2.2.2.2.trans ((Below.refl w.heap.size wr).setCell (p:=⟨w.heap.size+1+1,m,none⟩) (by first | (simp;done) | (simp;omega)) _)⟩
   ·exact (Below.heap_setCell _ _ _ _ (by first | (simp;done) | (simp;omega))).trans HR.out.2.1
   ·exact (Below.heap_setCell _ _ _ _ (by simp)).trans HR.out.2.2.1
   ·exact (Below.heap_setCell _ _ _ _ (by first | (simp;done) | (simp;omega))).trans HR.out.2.2.2.1
  obtain ⟨k0,k1,k2,k3,k4,k5,k6,k7⟩:=pol8 HR.out.2.1
  obtain ⟨t0,t1,t2⟩:=cells3 HR.out.2.2.2.1
  clear hrel hgk
  by_cases hlt:m < P.rows.length/\0 < rl.length
  ·obtain ⟨hlt,hR0⟩:=hlt
   have hlt':(m:Int) < (P.rows.length:Int):=by omega
   have hR1:(0:Int) < (rl.length:Int):=by omega
   obtain ⟨g,o,rfl,hg,c0⟩:=row_kind (HI.out.below HR.out.2.2.2.2) hlt
   have HS:Hid (lpN P.rows (m+1)=lpN P.rows m+if (rat P.rows m).kind=13 then 1 else 0):=lp_step hlt
   by_cases hk:(rat P.rows m).kind=13
   ·have HS2:Hid (lpN P.rows (m+1)=lpN P.rows m+1):=by show _=_;rw [HS.out,if_pos hk]
    have HE:Hid (rdv P.rows rl m=rl.getD (lpN P.rows m % rl.length) 0):=if_pos hk
    obtain ⟨g2,o2,rfl,hg2,c2⟩:=rdv_cell (HV.out.below HR.out.2.2.2.2) (lpN P.rows m) hR0
    rw [hk] at c0
    have hmod:(lpN P.rows m:Int) % (rl.length:Int)=((lpN P.rows m % rl.length:Nat):Int):=(Int.natCast_emod _ _).symm
    have hml:((lpN P.rows m % rl.length:Nat):Int) < (rl.length:Int):=Int.ofNat_lt.2 (Nat.mod_lt (lpN P.rows m) hR0)
    have hnz:¬ (rl.length:Int)=0:=by omega
    have hnz':((rl.length:Int) == 0)=false:=beq_false_of_ne hnz
    generalize lpN P.rows m % rl.length=md at *
    generalize rl.getD md 0=y at *
    have hc:=HR.out.1.cell hlt
    have hf:=HR.out.1.frozen m
    generalize (if m < m then rdv P.rows rl m else 0)=y0 at hc
    clear hk
    go_wp2_with fail
    go_region
    go_wp2_with fail
    go_roundg (P.rows.length - (m+1))
    case measure=>have:=HG.out;omega
    case rel=>
     refine ⟨m+1,by omega,rfl,by rw [HS2.out];go_num,by go_num,(HN.out y).1.ext fun i _=>?_,(HN.out y).2.1,(HN.out y).2.2.1,(HN.out y).2.2.2.1,(HN.out y).2.2.2.2.drew⟩
     by_cases e:i=m
     ·subst e;rw [if_pos rfl,if_pos (by omega),HE.out]
     ·rw [if_neg e]
      by_cases e2:i < m
      ·rw [if_pos e2,if_pos (by omega)]
      ·rw [if_neg e2,if_neg (by omega)]
   ·have HS2:Hid (lpN P.rows (m+1)=lpN P.rows m):=by show _=_;rw [HS.out,if_neg hk];rfl
    have HE:Hid (rdv P.rows rl m=0):=if_neg hk
    generalize (rat P.rows m).kind=kd at *
    have hk':(kd == 13)=false:=by simp [hk]
    go_wp2_with fail
    go_roundg (P.rows.length - (m+1))
    case measure=>have:=HG.out;omega
    case rel=>
     refine ⟨m+1,by omega,rfl,by rw [HS2.out],by go_num,HR.out.1.ext fun i _=>?_,HR.out.2⟩
     by_cases e:i < m
     ·rw [if_pos e,if_pos (by omega)]
     ·rw [if_neg e]
      by_cases e2:i=m
      ·subst e2;rw [if_pos (by omega),HE.out]
      ·rw [if_neg (by omega)]
  ·have HD:Hid (∀ i,i < P.rows.length->(if i < m then rdv P.rows rl i else 0)=rdv P.rows rl i):=by
    intro i hi
    by_cases e:m < P.rows.length
    ·have e2:rl=[]:=by
      cases rl with
      | nil=>rfl
      | cons x xs=>exact absurd ⟨e,by simp⟩ hlt
     subst e2
     rw [rdv_nil]
     split<;>rfl
    ·rw [if_pos (by omega)]
   obtain ⟨f0,f1,f2⟩:=cells3 HR.out.2.2.1
   have hfz:∀ j,wr.frozen? ⟨w.heap.size+1,j,none⟩=false:=fun j=>by
    have:=HR.out.2.2.1
    simp only [World.frozen?,this]
    rfl
   by_cases e:m < P.rows.length
   ·have hlt':(m:Int) < (P.rows.length:Int):=by omega
    have hz:rl.length=0:=by omega
    rw [hz]
    clear hlt
    go_wp2_with fail
    obtain ⟨x1,x2,x3⟩:=put3L (B:=w.heap.size+1) (v0:=.slice none 0 0) (v1:=.slice none 0 0) (v2:=.slice (some ⟨w.heap.size+1+1,0,none⟩) P.rows.length P.rows.length) HR.out.2.2.2.2 (Nat.le_succ _) HR.out.2.2.1
    obtain ⟨y0,y1,y2⟩:=cells3 x1
    refine bodyPost_ret (v:=.agg #[.slice none 0 0,.slice none 0 0,.slice (some ⟨w.heap.size+1+1,0,none⟩) P.rows.length P.rows.length]) (by simp [results,Tryz.results17,go_sem,y0,y1,y2]) rfl ?_
    exact ⟨w.heap.size+1+1,rfl,by omega,(HR.out.1.ext HD.out).of_block (x3 _ (by omega)),x2⟩
   ·have hlt':¬ (m:Int) < (P.rows.length:Int):=by omega
    clear hlt
    go_wp2_with fail
    obtain ⟨x1,x2,x3⟩:=put3L (B:=w.heap.size+1) (v0:=.slice none 0 0) (v1:=.slice none 0 0) (v2:=.slice (some ⟨w.heap.size+1+1,0,none⟩) P.rows.length P.rows.length) HR.out.2.2.2.2 (Nat.le_succ _) HR.out.2.2.1
    obtain ⟨y0,y1,y2⟩:=cells3 x1
    refine bodyPost_ret (v:=.agg #[.slice none 0 0,.slice none 0 0,.slice (some ⟨w.heap.size+1+1,0,none⟩) P.rows.length P.rows.length]) (by simp [results,Tryz.results17,go_sem,y0,y1,y2]) rfl ?_
    exact ⟨w.heap.size+1+1,rfl,by omega,(HR.out.1.ext HD.out).of_block (x3 _ (by omega)),x2⟩
end Go.Proofs.YtinjccfhhdidiaaGreat.Nm
namespace Go.Proofs.YtinjccfhhdidiaaGreat.Nm
open Go.RowKit Go.Maps Sp Lx Gr
theorem own_nil {w:World} {base:Nat} {T:TypeId} {sz n c:Nat} {o:Option Addr} {xs:List Value} (h:w.ownsRow base T sz (.slice o n c) n xs):o=none->c=0:=by
 rintro rfl
 obtain ⟨_,⟨e,_⟩ | ⟨g,cap,cur,e,_⟩⟩:=h
 ·cases e
  rfl
 ·cases e
theorem agg8 {a b c d e f g h a' b' c' d' e' f' g' h':Value} (x:Value.agg #[a,b,c,d,e,f,g,h]=Value.agg #[a',b',c',d',e',f',g',h']):b'=b/\c'=c/\d'=d/\e'=e/\f'=f/\g'=g:=by
 cases x
 exact ⟨rfl,rfl,rfl,rfl,rfl,rfl⟩
theorem told_gn {w w':World} {l:List Rz} {e:Ending} (h:Told w (res l) e w'):∃ ao qo vo tto uo oo ac qc vc tc uc oc,e=.returned (.tuple #[pvG (resP l) ao qo vo tto uo oo ac qc vc tc uc oc,.agg #[.int .i64 ((resC l).1:Int),.int .i64 ((resC l).2:Int)]])/\Below w.heap.size w w'/\(∀ W:World,(∀ k,w.heap.size<=k->k < w'.heap.size->W.heap[k]?=w'.heap[k]?)->RdG W (resP l) ao qo vo tto uo oo)/\(qo=none->qc=0)/\(vo=none->vc=0)/\(tto=none->tc=0)/\(uo=none->uc=0)/\(oo=none->oc=0):=by
 obtain ⟨hb,hm⟩:=h
 unfold resP resC
 cases hr:res l with
 | error ci=>
  rw [hr] at hm
  exact ⟨none,none,none,none,none,none,0,0,0,0,0,0,hm,hb,fun W _=>zero_rd W,fun _=>rfl,fun _=>rfl,fun _=>rfl,fun _=>rfl,fun _=>rfl⟩
 | ok p=>
  rw [hr] at hm
  obtain ⟨v,he,hp⟩:=hm
  have hp2:=hp
  obtain ⟨rb,cap,qv,vv,tv,uv,ov,hv0,hrb,hrw,hq,hv,ht,hu,ho⟩:=hp2.ex
  obtain ⟨rb1,qo,vo,tto,uo,oo,ac,qc,vc,tc,uc,oc,rfl,_,hall⟩:=hp.all
  simp only [pv] at hv0
  obtain ⟨_,e2,e3,e4,e5,e6⟩:=agg8 hv0
  subst e2
  subst e3
  subst e4
  subst e5
  subst e6
  refine ⟨some ⟨rb1,0,none⟩,qo,vo,tto,uo,oo,ac,qc,vc,tc,uc,oc,?_,hb,fun W hW=>rd_g (hall W hW).1,own_nil hq,own_nil hv,own_nil ht,own_nil hu,own_nil ho⟩
  rw [he]
  simp [pvG,pv,Pl.g]
theorem res_kd {l:List Rz} (hl:l.length<=65536) (hkd:∀ r ∈ l,r.kids<=9223372036854775807/\r.name.size<=4611686018427387000):(resP l).rows.length<=65536/\∀ r ∈ (resP l).rows,r.kids<=9223372036854775807/\r.name.size<=4611686018427387000:=by
 unfold resP
 cases h:res l with
 | error ci=>exact ⟨by simp [zeroG],fun r hr=>by simp [zeroG] at hr⟩
 | ok p=>
  have hk:=(res_sm (by omega) h).2.2.2.1
  have hlen:=like_len hk
  show p.rows.length<=65536/\∀ r ∈ p.rows,r.kids<=9223372036854775807/\r.name.size<=4611686018427387000
  refine ⟨by omega,fun r hr=>?_⟩
  obtain ⟨i,hi,rfl⟩:=List.mem_iff_getElem.1 hr
  have hi':i < l.length:=by rw [<-hlen];exact hi
  have e1:rat p.rows i=p.rows[i]'hi:=by
   have:=some_rat (l:=p.rows) (i:=i) hi
   rw [List.getElem?_eq_getElem hi] at this
   exact (Option.some.inj this).symm
  have e2:rat l i=l[i]'hi':=by
   have:=some_rat (l:=l) (i:=i) hi'
   rw [List.getElem?_eq_getElem hi'] at this
   exact (Option.some.inj this).symm
  obtain ⟨_,n1,n2⟩:=like_kind hk hi'
  have:=hkd _ (List.getElem_mem hi')
  rw [<-e2,<-n1,<-n2,e1] at this
  exact this
theorem rowi_vals {w:World} {g n:Nat} {f:Nat->Int} (h:RowI w g n f):IsVals w (some ⟨g,0,none⟩) (iv ((List.range n).map f)):=fun k x hx=>by
 have hk:k < n:=by
  have:=(List.getElem?_eq_some_iff.1 hx).1
  simpa [iv] using this
 have e:x=.int .i64 (f k):=by
  rw [show (iv ((List.range n).map f))[k]?=some (.int .i64 (f k)) by simp [iv,hk]] at hx
  cases hx
  rfl
 subst e
 exact ⟨g,0,rfl,h.lt,by rw [Nat.zero_add];exact h.cell hk⟩
theorem treesWalk (ao:Option Addr) (l:List Rz) (cap:Nat) (eo:Option Addr) (rl:List Int) (ec:Nat) (w:World) (h:IsRz w ao l) (hn:l.length<=2932031007317) (hkd:∀ r ∈ l,r.kids<=9223372036854775807/\r.name.size<=4611686018427387000) (hv:IsVals w eo (iv rl)) (hR:rl.length<=1152921504606846975):
  Calls Tryz.prog 4 #[.slice ao l.length cap,.slice eo rl.length ec] w fun e w'=>e=.returned (.bool true)/\Below w.heap.size w w':=by
 by_cases hf:65536 < l.length
 ·have hf':decide ((65536:Int) < (l.length:Int))=true:=decide_eq_true (by omega)
  clear h hn hkd hv hR
  go_enter Tryz.func4,Tryz.ntmps4
  go_wp2_with fail
  refine Calls.mono (head10 _) ?_
  rintro e wz ⟨rfl,hbz⟩
  have HBz:=show Hid _ from hbz
  clear hbz
  go_wp2
  go_ret
  exact ⟨rfl,HBz.out⟩
 ·have hf':decide ((65536:Int) < (l.length:Int))=false:=decide_eq_false (by omega)
  have HV:Hid (IsVals w eo (iv rl)/\rl.length<=1152921504606846975):=⟨hv,hR⟩
  have HRr:=show Hid _ from rresolve_any (cap:=cap) h hn hkd
  have HPk:=show Hid _ from res_kd (by omega) hkd
  clear h hn hkd hv hR hf
  go_enter Tryz.func4,Tryz.ntmps4
  go_wp2_with fail
  refine Calls.mono HRr.out ?_
  rintro e w2 hT2
  obtain ⟨ao1,qo1,vo1,to1,uo1,oo1,ac1,qc1,vc1,tc1,uc1,oc1,rfl,hb2,hrd2,n2,n3,n4,n5,n6⟩:=told_gn hT2
  have HNi:Hid ((qo1=none->qc1=0)/\(vo1=none->vc1=0)/\(to1=none->tc1=0)/\(uo1=none->uc1=0)/\(oo1=none->oc1=0)):=⟨n2,n3,n4,n5,n6⟩
  clear hT2 HRr n2 n3 n4 n5 n6
  generalize resP l=P at *
  generalize resC l=C at *
  obtain ⟨c1,c2⟩:=C
  dsimp only [pvG]
  have hb3:Below w2.heap.size w2 ((w2.alloc (.cells #[.string P.name,.slice ao1 P.rows.length ac1,.slice qo1 P.qs.length qc1,.slice vo1 P.vs.length vc1,.slice to1 P.ts.length tc1,.slice uo1 P.us.length uc1,.slice oo1 P.on.length oc1,.int .i64 P.miss] 27)).alloc (.cells #[.int .i64 (c1:Int),.int .i64 (c2:Int)] 39)):=((Below.refl _ w2).alloc (Nat.le_refl _) _).alloc (by simp) _
  have H3:Hid ((Below w.heap.size w ((w2.alloc (.cells #[.string P.name,.slice ao1 P.rows.length ac1,.slice qo1 P.qs.length qc1,.slice vo1 P.vs.length vc1,.slice to1 P.ts.length tc1,.slice uo1 P.us.length uc1,.slice oo1 P.on.length oc1,.int .i64 P.miss] 27)).alloc (.cells #[.int .i64 (c1:Int),.int .i64 (c2:Int)] 39))/\RdG ((w2.alloc (.cells #[.string P.name,.slice ao1 P.rows.length ac1,.slice qo1 P.qs.length qc1,.slice vo1 P.vs.length vc1,.slice to1 P.ts.length tc1,.slice uo1 P.us.length uc1,.slice oo1 P.on.length oc1,.int .i64 P.miss] 27)).alloc (.cells #[.int .i64 (c1:Int),.int .i64 (c2:Int)] 39)) P ao1 qo1 vo1 to1 uo1 oo1)/\((w2.alloc (.cells #[.string P.name,.slice ao1 P.rows.length ac1,.slice qo1 P.qs.length qc1,.slice vo1 P.vs.length vc1,.slice to1 P.ts.length tc1,.slice uo1 P.us.length uc1,.slice oo1 P.on.length oc1,.int .i64 P.miss] 27)).alloc (.cells #[.int .i64 (c1:Int),.int .i64 (c2:Int)] 39)).heap[w2.heap.size]?=some (.cells #[.string P.name,.slice ao1 P.rows.length ac1,.slice qo1 P.qs.length qc1,.slice vo1 P.vs.length vc1,.slice to1 P.ts.length tc1,.slice uo1 P.us.length uc1,.slice oo1 P.on.length oc1,.int .i64 P.miss] 27 (0,0))/\((w2.alloc (.cells #[.string P.name,.slice ao1 P.rows.length ac1,.slice qo1 P.qs.length qc1,.slice vo1 P.vs.length vc1,.slice to1 P.ts.length tc1,.slice uo1 P.us.length uc1,.slice oo1 P.on.length oc1,.int .i64 P.miss] 27)).alloc (.cells #[.int .i64 (c1:Int),.int .i64 (c2:Int)] 39)).heap[w2.heap.size+1]?=some (.cells #[.int .i64 (c1:Int),.int .i64 (c2:Int)] 39 (0,0))):=by
   refine ⟨⟨hb2.trans (hb3.mono hb2.size),hrd2 _ (fun k _ k2=>hb3.block k k2)⟩,by rw [alloc_old _ _ _ (by simp)];exact alloc_at _ _ _ rfl,alloc_at _ _ _ (by simp)⟩
  clear hb2 hrd2 hb3
  have f0:((w2.alloc (.cells #[.string P.name,.slice ao1 P.rows.length ac1,.slice qo1 P.qs.length qc1,.slice vo1 P.vs.length vc1,.slice to1 P.ts.length tc1,.slice uo1 P.us.length uc1,.slice oo1 P.on.length oc1,.int .i64 P.miss] 27)).alloc (.cells #[.int .i64 (c1:Int),.int .i64 (c2:Int)] 39)).cell? ⟨w2.heap.size+1,0,none⟩=some (.int .i64 (c1:Int)):=by rw [World.cell?,H3.out.2.2];rfl
  by_cases hc:c1=0
  ·have hc':((c1:Int) == 0)=true:=by simp [hc]
   have HRn:=show Hid _ from fun (W:World) (hW:IsRz W ao1 P.rows) (hW2:IsVals W eo (iv rl))=>rounds_any (P:=P) (qo:=qo1) (vo:=vo1) (tto:=to1) (uo:=uo1) (oo:=oo1) (ac:=ac1) (qc:=qc1) (vc:=vc1) (tc:=tc1) (uc:=uc1) (oc:=oc1) (ec:=ec) hW hW2 HPk.out.1 HV.out.2
   dsimp only [pvG] at HRn
   subst hc
   go_wp2_with fail
   generalize hW0:((w2.alloc (.cells #[.string P.name,.slice ao1 P.rows.length ac1,.slice qo1 P.qs.length qc1,.slice vo1 P.vs.length vc1,.slice to1 P.ts.length tc1,.slice uo1 P.us.length uc1,.slice oo1 P.on.length oc1,.int .i64 P.miss] 27)).alloc (.cells #[.int .i64 ((0:Nat):Int),.int .i64 (c2:Int)] 39))=w3 at *
   clear hW0 f0
   refine wp_region_held (S:=fun w':World=>w'.heap[w2.heap.size]?=some (.cells #[.string P.name,.slice ao1 P.rows.length ac1,.slice qo1 P.qs.length qc1,.slice vo1 P.vs.length vc1,.slice to1 P.ts.length tc1,.slice uo1 P.us.length uc1,.slice oo1 P.on.length oc1,.int .i64 P.miss] 27 (0,0))) (by kernel_rfl) ?_
   have hS:(fun w':World=>w'.heap[w2.heap.size]?=some (.cells #[.string P.name,.slice ao1 P.rows.length ac1,.slice qo1 P.qs.length qc1,.slice vo1 P.vs.length vc1,.slice to1 P.ts.length tc1,.slice uo1 P.us.length uc1,.slice oo1 P.on.length oc1,.int .i64 P.miss] 27 (0,0))) w3.drew:=H3.out.2.1
   change wpAnyH _ _ _ _ _ _ _ _ w3.drew
   have HB3:Hid (Below w.heap.size w w3.drew/\RdG w3.drew P ao1 qo1 vo1 to1 uo1 oo1):=⟨H3.out.1.1.drew,H3.out.1.2.below (Below.refl _ _).drew⟩
   obtain ⟨W3,hW3⟩:∃ W3,W3=w3.drew:=⟨_,rfl⟩
   rw [<-hW3] at hS HB3 ⊢
   clear hW3
   refine tk (i:=0) (v:=?v0) rfl (Or.inl ⟨by rfl,?y0⟩) hS ?r0
   case y0=>
    intro w hSw
    try dsimp only at hSw
    obtain ⟨k0,k1,k2,k3,k4,k5,k6,k7⟩:=pol8 hSw
    first
     | (go_simp;done)
     | (go_simp;with_reducible rfl)
   refine tk (i:=1) (v:=?v1) rfl (Or.inl ⟨by rfl,?y1⟩) hS ?r1
   case y1=>
    intro w hSw
    try dsimp only at hSw
    obtain ⟨k0,k1,k2,k3,k4,k5,k6,k7⟩:=pol8 hSw
    first
     | (go_simp;done)
     | (go_simp;with_reducible rfl)
   refine tk (i:=2) (v:=?v2) rfl (Or.inl ⟨by rfl,?y2⟩) hS ?r2
   case y2=>
    intro w hSw
    try dsimp only at hSw
    obtain ⟨k0,k1,k2,k3,k4,k5,k6,k7⟩:=pol8 hSw
    first
     | (go_simp;done)
     | (go_simp;with_reducible rfl)
   refine rd1 3 (by kernel_rfl) rfl fun K hK=>?_
   go_simp
   refine Calls.mono (HRn.out _ HB3.out.2.r (HV.out.1.below HB3.out.1)) ?_
   rintro e w5 ⟨g,rfl,hg,hrow,hb5⟩
   have HB5:Hid (Below w.heap.size w w5/\RdG w5 P ao1 qo1 vo1 to1 uo1 oo1/\IsVals w5 (some ⟨g,0,none⟩) (iv ((List.range P.rows.length).map (rdv P.rows rl)))):=⟨HB3.out.1.trans (hb5.mono HB3.out.1.size),HB3.out.2.below hb5,rowi_vals hrow⟩
   refine hK.out _ _ ((hb5.block _ (blk_lt hS)).trans hS) (fun hS=>?_)
   clear hK K hb5 hrow hg
   have HCb:=show Hid _ from boundsWalk P ao1 qo1 vo1 to1 uo1 oo1 ac1 qc1 vc1 tc1 uc1 oc1 none none (some ⟨g,0,none⟩) 0 0 P.rows.length [] [] ((List.range P.rows.length).map (rdv P.rows rl)) w5 HB5.out.2.1 (by have:=HPk.out.1;omega) HPk.out.2 HNi.out.1 HNi.out.2.1 HNi.out.2.2.1 HNi.out.2.2.2.1 HNi.out.2.2.2.2 (fun k x hx=>by simp [vF] at hx) (fun k x hx=>by simp [iv] at hx) HB5.out.2.2 (fun _=>rfl) (fun _=>rfl) nofun
   rw [List.length_map,List.length_range] at HCb
   dsimp only [pvG,List.length_nil] at HCb
   refine rd1 4 (by kernel_rfl) rfl fun K hK=>?_
   go_simp
   refine Calls.mono HCb.out ?_
   rintro e w6 ⟨rfl,hb6⟩
   have HB6:Hid (Below w.heap.size w w6):=HB5.out.1.trans (hb6.mono HB5.out.1.size)
   refine hK.out _ _ ((hb6.block _ (blk_lt hS)).trans hS) (fun hS=>?_)
   clear hK K hb6
   refine rd1 5 (by kernel_rfl) rfl fun K hK=>?_
   go_simp
   refine hK.out _ _ hS (fun hS=>?_)
   refine wpAnyH_done (by kernel_rfl) ?_ _
   clear hK K hS
   go_simp
   go_wp2
   go_ret
   exact ⟨rfl,HB6.out⟩
  ·have hc':((c1:Int) == 0)=false:=beq_false_of_ne (by omega)
   go_wp2_with fail
   refine Calls.mono (head10 _) ?_
   rintro e wz ⟨rfl,hbz⟩
   have HBz:Hid (Below w.heap.size w wz):=H3.out.1.1.trans (hbz.mono H3.out.1.1.size)
   clear hbz
   go_wp2
   go_ret
   exact ⟨rfl,HBz.out⟩
end Go.Proofs.YtinjccfhhdidiaaGreat.Nm
namespace Go.Proofs.YtinjccfhhdidiaaGreat.costTrees
open Go.RowKit Go.Maps Sp Lx Gr Nm
theorem walk (ao:Option Addr) (l:List Rz) (cap:Nat) (bo:Option Addr) (m cb:Nat) (z:Nat->Int) (w:World) (h:IsRz w ao l) (hn:l.length<=2932031007317) (hkd:∀ r ∈ l,r.kids<=9223372036854775807/\r.name.size<=4611686018427387000) (hz:IsInts w bo m z) (hm:m<=17592186043904) (_:bo=none->cb=0):
  Calls Tryz.prog 4 #[.slice ao l.length cap,.slice bo m cb] w fun e w'=>e=.returned (.bool true)/\Below w.heap.size w w':=by
 have:=treesWalk ao l cap bo ((List.range m).map z) cb w h hn hkd (ints_valsJ hz) (by rw [List.length_map,List.length_range];omega)
 rw [List.length_map,List.length_range] at this
 exact this
end Go.Proofs.YtinjccfhhdidiaaGreat.costTrees
namespace Go.Proofs.YtinjccfhhdidiaaGreat.costTrees
open Go.ChangeShapes Go.WideShapes Go.ChangeAt Go.RowKit
open Sp Lx Gr
theorem contractF (H:Type) (enc:TypeId × Value->H) (W:World) (base:Nat) (args:Array Value) (ds gs:List (DataW H)) (before:List MemPlace)
  (hval:∀ (j:Nat) t v,Tryz.f4.params[j]?=some t->args[j]?=some v->Value.okWide Tryz.prog W .any base t v)
  (hW:DataW.Whole enc Tryz.prog Tryz.f4.params.toList Rows.costTreesSpec.vars false W args.toList ds gs before)
  (hsz:(DataW.weightsEach Tryz.prog (Tryz.f4.params.toList++Rows.costTreesSpec.plain.varTypes Tryz.prog) (ds++gs)).all (· <= reachBytes)=true):
  Calls Tryz.prog 4 args W fun e W'=>∃ v,e=.returned v/\Rows.costTreesSpec.post enc Tryz.prog Tryz.f4 false true false false W args v W':=by
 have hW':=hW
 obtain ⟨p,q,hA0,hV,rfl,hfz,hnd⟩:=hW
 have hA:DataW.TrodAll enc Tryz.prog W 0 (fun _=>true) true Tryz.f4.params.toList args.toList ds p:=hA0
 rw [Tryz.params4] at hA hval hsz
 obtain ⟨v0,vs0,d0,ds0,p0,q0,hargs,rfl,rfl,h0,r0⟩:=trodAll_cons hA
 obtain ⟨v1,vs1,d1,ds1,p1,q1,rfl,rfl,rfl,h1,r1⟩:=trodAll_cons r0
 obtain ⟨rfl,rfl,rfl⟩:=trodAll_nil r1
 obtain rfl:args=#[v0,v1]:=by cases args;simp_all
 obtain ⟨rfl,rfl⟩:=trodVars_none hV
 obtain ⟨a0,len0,cap0,rfl⟩:=okWide_slice Tryz.underlying22 (hval 0 22 v0 rfl rfl)
 have lt0:∀ x ∈ p0,x.block < W.heap.size:=by obtain ⟨m,hm⟩:=h0;exact DataW.trod_lt m _ _ _ hm
 obtain ⟨s0,rfl,cl0,ib0,kb0,dd0⟩:=open_rowsZ h0
 obtain ⟨a1,len1,cap1,rfl⟩:=okWide_slice Tryz.underlying25 (hval 1 25 v1 rfl rfl)
 have lt1:∀ x ∈ p1,x.block < W.heap.size:=by obtain ⟨m,hm⟩:=h1;exact DataW.trod_lt m _ _ _ hm
 obtain ⟨z1,ib1,dd1⟩:=open_nums h1
 refine (walk a0 s0 cap0 a1 len1 cap1 z1 W ib0 (rows_reach hsz (j:=0) rfl rfl dd0).1 (fun r hr=>⟨kb0 r hr,by have:=(rows_reach hsz (j:=0) rfl rfl dd0).2 r hr;omega⟩) ib1 (Nm.nums_reachJ hsz (j:=1) rfl rfl dd1) (Nm.nil_capI h1)).mono fun e W2 ⟨he,bel⟩=>?_
 subst he
 exact ⟨_,rfl,_,_,_,[],_,[],hW',trodAll_mk1 (shut_bool Tryz.underlying4 _),(trodAll_cons_mk (Below.trod laidOut (by kernel_rfl) (of_decide_eq_true (by kernel_rfl)) h0 bel lt0) (trodAll_cons_mk (Below.trod laidOut (by kernel_rfl) (of_decide_eq_true (by kernel_rfl)) h1 bel lt1) trodAll_mk0)),rfl,bel.frame _,fun h=>by cases h⟩
theorem liftedF (os:Os) (started:os.Started) (H:Type) (enc:TypeId × Value->H):
  ReturnsInHanded {} Tryz.checked os 4 .any (Rows.costTreesSpec.pre6 enc Tryz.prog Tryz.f4 Rows.costTreesRow.domain false) (Rows.costTreesSpec.post enc Tryz.prog Tryz.f4 false true false false):=by
 refine returnsInHanded_of_change_sized (C:=Tryz.checked) own started (by kernel_rfl) Tryz.func4
  (ChangeSpec.witness6 (enc:=enc) (C:=Tryz.checked) false ⟨#[],#[.slice none 0 0,.slice none 0 0],[]⟩ 8 (by kernel_rfl) (by kernel_rfl) (by kernel_rfl) (by kernel_rfl)) ?_
 intro W base args ds gs before hval hW _ hsz _
 exact contractF H enc W base args ds gs before hval hW hsz
theorem provedF:Rows.CostTreesSaid:=
 OpenClaim.holds_of_wide 4 Tryz.f4 rfl rfl rfl rfl rfl rfl rfl ⟨rfl,rfl,rfl,rfl,rfl⟩ rfl rfl rfl rfl rfl (by kernel_rfl) Tryz.func4 (by kernel_rfl)
  (of_decide_eq_true (by kernel_rfl)) (by unfold Func.isWrapper;first | (rw [if_pos (by decide +kernel)];kernel_rfl) | (rw [if_neg (by decide +kernel)];exact ⟨rfl,rfl⟩))
  (fun os started H enc _=>liftedF os started H enc)
end Go.Proofs.YtinjccfhhdidiaaGreat.costTrees
