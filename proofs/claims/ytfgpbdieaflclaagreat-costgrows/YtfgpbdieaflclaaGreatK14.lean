import Derived.Deep.LoopGhost
import Derived.Test.YtfgpbdieaflclaaGreatK13
import Derived.Deep.RegionHeld3
set_option maxHeartbeats 12800000
set_option maxRecDepth 100000
namespace Go.Proofs.YtfgpbdieaflclaaGreat.Nm
open Go.RowKit Go.Maps Sp Lx Gr
def addRow (l:List Rz) (sums:List Nat) (at_ s:Nat):Nat:=
 if (rat l at_).kind=22/\0<=(rat l at_).n/\(rat l at_).n < (sums.length:Int) then pls (pls s 1) (sums.getD (rat l at_).n.toNat 0) else pls s 1
def layN (l:List Rz) (sums:List Nat) (row:Nat):Nat->Nat
 | 0=>0
 | k+1=>addRow l sums (row+k) (layN l sums row k)
def laidAt (l:List Rz) (sums:List Nat) (row:Nat):Nat:=layN l sums row (endp l row - row)
theorem addRow_le {l:List Rz} {sums:List Nat} (hs:∀ k x:Nat,sums[k]?=some x->x<=4611686018427387904) (at_ s:Nat):addRow l sums at_ s<=4611686018427387904:=by
 unfold addRow
 split
 ·rw [List.getD_eq_getElem?_getD]
  cases hx:sums[(rat l at_).n.toNat]? with
  | none=>exact pls_le _ _ (by simp)
  | some x=>exact pls_le _ _ (hs _ _ hx)
 ·exact pls_le _ _ (by decide)
theorem layN_le {l:List Rz} {sums:List Nat} (hs:∀ k x:Nat,sums[k]?=some x->x<=4611686018427387904) (row k:Nat):layN l sums row k<=4611686018427387904:=by
 cases k with
 | zero=>exact Nat.zero_le _
 | succ k=>exact addRow_le hs _ _
theorem laidAt_le {l:List Rz} {sums:List Nat} (hs:∀ k x:Nat,sums[k]?=some x->x<=4611686018427387904) (row:Nat):laidAt l sums row<=4611686018427387904:=layN_le hs _ _
def IsSums (W:World) (uo:Option Addr) (sums:List Nat):Prop:=∀ k x:Nat,sums[k]?=some x->∃ g,uo=some ⟨g,0,none⟩/\W.cell? ⟨g,k,none⟩=some (.int .i64 (x:Int))/\x<=4611686018427387904
theorem IsSums.le {W:World} {uo:Option Addr} {sums:List Nat} (h:IsSums W uo sums):∀ k x:Nat,sums[k]?=some x->x<=4611686018427387904:=fun k x hx=>by
 obtain ⟨_,_,_,h3⟩:=h k x hx
 exact h3
theorem laid_any {W:World} {xb ub cap uc row:Nat} {ao uo:Option Addr} {l:List Rz} {sums:List Nat} (h1:W.cell? ⟨xb,1,none⟩=some (.slice ao l.length cap)) (hr:IsRz W ao l) (h2:W.cell? ⟨ub,0,none⟩=some (.slice uo sums.length uc)) (hu:IsSums W uo sums)
  (hT:TreeZ l) (hl:l.length<=2932031007317) (hs:sums.length<=1000) (hrow:row < l.length):
  Calls Tryz.prog 90 #[.int .i64 (row:Int),.pointer (some ⟨xb,0,none⟩),.pointer (some ⟨ub,0,none⟩)] W fun e w'=>e=.returned (.int .i64 (laidAt l sums row:Nat))/\w'=W:=by
 have HE:=hdn <| end_any ao l cap row W hr hl hT hrow
 have HD:Hid (row < endp l row/\endp l row<=l.length):=(end_kid hT.whole hrow).2
 have HP:Hid (∀ (a b:Nat) (w:World),a<=4611686018427387904->b<=4611686018427387904->Calls Tryz.prog 78 #[.int .i64 (a:Int),.int .i64 (b:Int)] w fun e w'=>e=.returned (.int .i64 (pls a b:Nat))/\w'=w):=fun a b w ha hb=>plus_any a b ha hb w
 have HR:Hid (IsRz W ao l):=hr
 have HU:Hid (IsSums W uo sums):=hu
 have HLn:Hid (l.length<=2932031007317):=hl
 have hl2:(l.length:Int)<=2932031007317:=by omega
 have hs2:(sums.length:Int)<=1000:=by omega
 have hrow2:(row:Int)<=2932031007317:=by omega
 have HL:Hid (laidAt l sums row=layN l sums row (endp l row - row)):=rfl
 generalize laidAt l sums row=res at *
 generalize endp l row=E at *
 have hE:(E:Int)<=2932031007317:=by have:=HD.out.2;omega
 clear hr hu hT hl hs hrow
 go_enter Tryz.func90,Tryz.ntmps90
 go_wp2_with fail
 refine Calls.mono HE.out ?_
 rintro e w1 ⟨rfl,rfl⟩
 go_wp2_with fail
 go_loopg [5,6] (E - row) (fun gq x y wr=>∃ k:Nat,row+k<=E/\gq=E - (row+k)/\x=.int .i64 (layN l sums row k:Nat)/\y=.int .i64 ((row+k:Nat):Int)/\wr=w1)
 case atStart=>exact ⟨0,by have:=HD.out.1;omega,rfl,rfl,rfl,rfl⟩
 case round=>
  obtain ⟨k,hk,hgk,rfl,rfl,hw⟩:=hrel
  have HG:Hid (row+k<=E/\gk=E - (row+k)):=⟨hk,hgk⟩
  rw [hw]
  have HS:Hid (layN l sums row k<=4611686018427387904):=layN_le HU.out.le row k
  have HN:Hid (layN l sums row (k+1)=addRow l sums (row+k) (layN l sums row k)):=rfl
  have HEnd:Hid (row+k=E->res=layN l sums row k):=fun e=>by rw [HL.out,<-e];congr 1;omega
  clear hgk hw
  by_cases hlt:row+k < E
  ·have hat:row+k < l.length:=by have:=HD.out.2;omega
   obtain ⟨g,o,rfl,hg,c0,c1,c2,c3,c4⟩:=HR.out (row+k) _ (some_rat hat)
   have HA:Hid (addRow l sums (row+k) (layN l sums row k)=if (rat l (row+k)).kind=22/\0<=(rat l (row+k)).n/\(rat l (row+k)).n < (sums.length:Int) then pls (pls (layN l sums row k) 1) (sums.getD (rat l (row+k)).n.toNat 0) else pls (layN l sums row k) 1):=rfl
   have HLt:Hid (row+k < E):=hlt
   generalize hlk:layN l sums row k=s at *
   generalize hlk1:layN l sums row (k+1)=s1 at *
   have HK1:Hid (layN l sums row (k+1)=s1):=hlk1
   clear hlk hlk1
   rw [HA.out] at HN
   generalize rat l (row+k)=x at *
   obtain ⟨kd,nm,st,n,ks⟩:=x
   dsimp only at *
   have hat2:((row+k:Nat):Int) < (l.length:Int):=by omega
   have hat3:((row+k:Nat):Int) < (E:Int):=by omega
   have hat4:((row+k:Nat):Int)<=2932031007317:=by omega
   have HP1:=hdn <| HP.out s 1 w1 HS.out (by decide)
   have hsl:=HS.out
   have HB1:Hid (pls s 1<=4611686018427387904):=pls_le _ _ (by decide)
   generalize pls s 1=p1 at *
   generalize hrk:row+k=rk at *
   have HRk:Hid (row+k=rk):=hrk
   clear hlt hat hrk hk hsl HA
   by_cases hkd:kd=22
   ·have hkd':(kd == 22)=true:=by simp [hkd]
    by_cases hn0:0<=n
    ·have hn0':decide (0<=n)=true:=decide_eq_true hn0
     by_cases hn1:n < (sums.length:Int)
     rotate_right
     focus
      have hn1':decide (n < (sums.length:Int))=false:=decide_eq_false hn1
      have HN1:Hid (s1=p1):=by
       show _=_
       rw [HN.out,if_neg (fun h=>hn1 h.2.2)]
      clear HN hn0 hn1
      go_wp2_with fail
      refine Calls.mono HP1.out ?_
      rintro e w2 ⟨rfl,rfl⟩
     rotate_right
     focus
      have hn1':decide (n < (sums.length:Int))=true:=decide_eq_true hn1
      obtain ⟨m,rfl⟩:=Int.eq_ofNat_of_zero_le hn0
      have hm:m < sums.length:=by omega
      obtain ⟨ug,rfl,u1,u2⟩:=HU.out m _ (List.getElem?_eq_getElem hm)
      have HN1:Hid (s1=pls p1 sums[m]):=by
       show _=_
       rw [HN.out,if_pos ⟨hkd,hn0,hn1⟩]
       simp [List.getD_eq_getElem?_getD,List.getElem?_eq_getElem hm]
      have HP2:=hdn <| HP.out p1 sums[m] w1 HB1.out u2
      generalize sums[m]=um at *
      have hm2:(m:Int) < (sums.length:Int):=by omega
      clear HN hn0 hm u2
      go_wp2_with fail
      refine Calls.mono HP1.out ?_
      rintro e w2 ⟨rfl,rfl⟩
      go_wp2_with fail
      refine Calls.mono HP2.out ?_
      rintro e w3 ⟨rfl,rfl⟩
     all_goals
      go_wp2_with fail
      go_roundg (E - (rk+1))
      case measure=>have h1:=HG.out;have h2:=HLt.out;omega
      case rel=>exact ⟨k+1,by have:=HLt.out;have:=HRk.out;omega,by rw [<-HRk.out];rfl,by rw [HK1.out,HN1.out],by rw [<-HRk.out];go_num,rfl⟩
    ·have hn0':decide (0<=n)=false:=decide_eq_false hn0
     have HN1:Hid (s1=p1):=by
      show _=_
      rw [HN.out,if_neg (fun h=>hn0 h.2.1)]
     clear HN hn0
     go_wp2_with fail
     refine Calls.mono HP1.out ?_
     rintro e w2 ⟨rfl,rfl⟩
     go_wp2_with fail
     go_roundg (E - (rk+1))
     case measure=>have h1:=HG.out;have h2:=HLt.out;omega
     case rel=>exact ⟨k+1,by have:=HLt.out;have:=HRk.out;omega,by rw [<-HRk.out];rfl,by rw [HK1.out,HN1.out],by rw [<-HRk.out];go_num,rfl⟩
   ·have hkd':(kd == 22)=false:=by simp [hkd]
    have HN1:Hid (s1=p1):=by
     show _=_
     rw [HN.out,if_neg (fun h=>hkd h.1)]
    clear HN hkd
    go_wp2_with fail
    refine Calls.mono HP1.out ?_
    rintro e w2 ⟨rfl,rfl⟩
    go_wp2_with fail
    go_roundg (E - (rk+1))
    case measure=>have h1:=HG.out;have h2:=HLt.out;omega
    case rel=>exact ⟨k+1,by have:=HLt.out;have:=HRk.out;omega,by rw [<-HRk.out];rfl,by rw [HK1.out,HN1.out],by rw [<-HRk.out];go_num,rfl⟩
  ·have hge:row+k=E:=by omega
   have hat3:decide (((row+k:Nat):Int) < (E:Int))=false:=by simp;omega
   have HRes:=HEnd.out hge
   have HRes2:Hid (res=layN l sums row k):=HRes
   generalize layN l sums row k=s at *
   generalize row+k=rk at *
   clear hlt HRes
   go_wp2
   go_ret
   exact ⟨by rw [HRes2.out];rfl,rfl⟩
end Go.Proofs.YtfgpbdieaflclaaGreat.Nm
namespace Go.Proofs.YtfgpbdieaflclaaGreat.Nm
open Go.RowKit Go.Maps Sp Lx Gr
def sumsN (l:List Rz) (us:List Nat):Nat->List Nat
 | 0=>[]
 | k+1=>sumsN l us k++[laidAt l (sumsN l us k) (us.getD k 0)]
def sumsOf (l:List Rz) (us:List Nat):List Nat:=sumsN l us us.length
theorem sumsN_len (l:List Rz) (us:List Nat) (k:Nat):(sumsN l us k).length=k:=by
 induction k with
 | zero=>rfl
 | succ k ih=>simp [sumsN,ih]
theorem sumsN_le (l:List Rz) (us:List Nat) (k:Nat):∀ i x:Nat,(sumsN l us k)[i]?=some x->x<=4611686018427387904:=by
 induction k with
 | zero=>intro i x h;simp [sumsN] at h
 | succ k ih=>
  intro i x h
  simp only [sumsN,List.getElem?_append] at h
  split at h
  ·exact ih i x h
  ·have hm:=List.mem_of_getElem? h
   rw [List.mem_singleton.1 hm]
   exact laidAt_le ih _
def IsNats (W:World) (uo:Option Addr) (us:List Nat):Prop:=∀ k x:Nat,us[k]?=some x->∃ g o,uo=some ⟨g,o,none⟩/\g < W.heap.size/\W.cell? ⟨g,o+k,none⟩=some (.int .i64 (x:Int))
theorem IsNats.below {W w':World} {uo:Option Addr} {us:List Nat} (h:IsNats W uo us) (hb:Below W.heap.size W w'):IsNats w' uo us:=fun k x hx=>by
 obtain ⟨g,o,e,hg,hc⟩:=h k x hx
 exact ⟨g,o,e,Nat.lt_of_lt_of_le hg hb.size,(hb.cell (p:=⟨g,o+k,none⟩) hg).trans hc⟩
abbrev nv (l:List Nat):List Value:=l.map fun n:Nat=>Value.int .i64 (n:Int)
structure Lyg (W wr:World) (c0 c2 c3 c4 c5 c6 c7:Value) (ao:Option Addr) (n cap:Nat) (sv:Value) (sums:List Nat):Prop where
 be:Below W.heap.size W wr
 bx:wr.heap[W.heap.size]?=some (.cells #[c0,.slice ao n cap,c2,c3,c4,c5,c6,c7] 28 (0,0))
 sx:wr.heap[W.heap.size+1]?=some (.cells #[sv] 23 (0,0))
 own:wr.ownsRow (W.heap.size+2) 3 1 sv sums.length (nv sums)
section
variable {W wr w':World} {c0 c2 c3 c4 c5 c6 c7 sv:Value} {ao:Option Addr} {n cap:Nat} {sums:List Nat}
theorem Lyg.lt (h:Lyg W wr c0 c2 c3 c4 c5 c6 c7 ao n cap sv sums):W.heap.size+2<=wr.heap.size:=(Array.getElem?_eq_some_iff.1 h.sx).1
theorem Lyg.below (h:Lyg W wr c0 c2 c3 c4 c5 c6 c7 ao n cap sv sums) (hb:Below wr.heap.size wr w'):Lyg W w' c0 c2 c3 c4 c5 c6 c7 ao n cap sv sums:=
 ⟨h.be.trans (hb.mono h.be.size),(hb.block _ (Array.getElem?_eq_some_iff.1 h.bx).1).trans h.bx,(hb.block _ (Array.getElem?_eq_some_iff.1 h.sx).1).trans h.sx,own_below h.own hb⟩
theorem Lyg.read (h:Lyg W wr c0 c2 c3 c4 c5 c6 c7 ao n cap sv sums) (hs:∀ i x:Nat,sums[i]?=some x->x<=4611686018427387904):∃ uo uc,sv=.slice uo sums.length uc/\IsSums wr uo sums/\wr.cell? ⟨W.heap.size+1,0,none⟩=some (.slice uo sums.length uc)/\wr.cell? ⟨W.heap.size,1,none⟩=some (.slice ao n cap):=by
 have hc:=h.own
 obtain ⟨uo,uc,rfl⟩:=own_form h.own
 refine ⟨uo,uc,rfl,fun k x hx=>?_,by simp only [World.cell?,h.sx];rfl,by simp only [World.cell?,h.bx];rfl⟩
 rcases hc.2 with ⟨_,hz⟩ | ⟨g,c,cur,e,_⟩
 ·have:=(List.getElem?_eq_some_iff.1 hx).1
  omega
 ·cases e
  refine ⟨g,rfl,?_,hs k x hx⟩
  have:=hc.cells (g:=g) rfl k (.int .i64 (x:Int)) (by simp [nv,hx])
  rw [Lib.addr_add] at this
  simpa using this
theorem Lyg.put {v':Value} {x:Nat} (h:Lyg W wr c0 c2 c3 c4 c5 c6 c7 ao n cap sv sums) (hg:Gone wr sv w' v') (ho:w'.ownsRow (W.heap.size+2) 3 1 v' (sums.length+1) (nv sums++[.int .i64 (x:Int)])):
  w'.heap[W.heap.size+1]?=some (.cells #[sv] 23 (0,0))/\Lyg W (w'.setCell ⟨W.heap.size+1,0,none⟩ v') c0 c2 c3 c4 c5 c6 c7 ao n cap v' (sums++[x]):=by
 have hov:∀ k,sv.ownBlock=some k->W.heap.size+2<=k:=fun k e=>(World.ownsRow.lt h.own k e).1
 have hlt:=h.lt
 have hkeep:∀ k,k < W.heap.size+2->w'.heap[k]?=wr.heap[k]?:=fun k hk=>hg.1.block k (by omega) (fun e=>by have:=hov k e.symm;omega)
 have hp:=(hkeep (W.heap.size+1) (by omega)).trans h.sx
 have hset:∀ k,k ≠ W.heap.size+1->(w'.setCell ⟨W.heap.size+1,0,none⟩ v').heap[k]?=w'.heap[k]?:=fun k hk=>Below.heap_setCell w' _ v' k (fun e=>hk e)
 refine ⟨hp,⟨⟨?_,?_,?_,?_,?_⟩,?_,?_,?_⟩⟩
 ·exact hg.1.os.trans h.be.os
 ·exact hg.1.tape.trans h.be.tape
 ·exact hg.1.output.trans h.be.output
 ·have:=hg.1.size
  simp [World.setCell]
  omega
 ·intro k hk
  rw [hset k (by omega),hkeep k (by omega)]
  exact h.be.block k hk
 ·rw [hset _ (by omega),hkeep _ (by omega)]
  exact h.bx
 ·have:=heap_setCell_same w' (W.heap.size+1) 0 _ 23 v' hp
  simpa using this
 ·have:(w'.setCell ⟨W.heap.size+1,0,none⟩ v').ownsRow (W.heap.size+2) 3 1 v' (sums.length+1) (nv sums++[.int .i64 (x:Int)]):=own_keepB ho (fun k hk=>hset k (by have:=(World.ownsRow.lt ho k hk).1;omega))
  simpa [nv] using this
end
theorem laying_any {W:World} {c0 c2 c3 c4 c6 c7:Value} {ao uo:Option Addr} {l:List Rz} {us:List Nat} {cap uc:Nat} (hr:IsRz W ao l) (hu:IsNats W uo us) (hT:TreeZ l) (hl:l.length<=2932031007317) (hn:us.length<=64) (hul:∀ u ∈ us,u < l.length) (huc:us.length<=uc):
  Calls Tryz.prog 77 #[.agg #[c0,.slice ao l.length cap,c2,c3,c4,.slice uo us.length uc,c6,c7]] W fun e w'=>e=.returned (.func (.func 90) #[] #[ptr0 W.heap.size,ptr0 (W.heap.size+1)])/\∃ sv,Lyg W w' c0 c2 c3 c4 (.slice uo us.length uc) c6 c7 ao l.length cap sv (sumsOf l us):=by
 have hb1:Below W.heap.size W ((W.alloc (.cells #[c0,.slice ao l.length cap,c2,c3,c4,.slice uo us.length uc,c6,c7] 28)).alloc (.cells #[.slice none 0 0] 23)):=(bAl W _).alloc (by simp) _
 have h0:Lyg W ((W.alloc (.cells #[c0,.slice ao l.length cap,c2,c3,c4,.slice uo us.length uc,c6,c7] 28)).alloc (.cells #[.slice none 0 0] 23)) c0 c2 c3 c4 (.slice uo us.length uc) c6 c7 ao l.length cap (.slice none 0 0) []:=⟨hb1,by rw [alloc_old _ _ _ (by simp)];exact alloc_at _ _ _ rfl,alloc_at _ _ _ (by simp),⟨rfl,Or.inl ⟨rfl,rfl⟩⟩⟩
 have H0:=hdn <| h0
 have q5:((W.alloc (.cells #[c0,.slice ao l.length cap,c2,c3,c4,.slice uo us.length uc,c6,c7] 28)).alloc (.cells #[.slice none 0 0] 23)).cell? ⟨W.heap.size,5,none⟩=some (.slice uo us.length uc):=by simp only [World.cell?,h0.bx];rfl
 have HS:Hid (sumsOf l us=sumsN l us us.length):=rfl
 generalize sumsOf l us=SS at *
 obtain ⟨j0,hj,hj0,hj1,hj2⟩:=info_parts infoI
 have HU:=hdn <| hu
 have HUL:=hdn <| hul
 have HN:Hid (us.length<=64):=hn
 have hn2:(us.length:Int)<=64:=by omega
 have hmin:min (us.length:Int) 64=us.length:=by omega
 have HC:Hid (∀ wq sv (j row:Nat),row < l.length->j<=64->Lyg W wq c0 c2 c3 c4 (.slice uo us.length uc) c6 c7 ao l.length cap sv (sumsN l us j)->Calls Tryz.prog 90 #[.int .i64 (row:Int),.pointer (some ⟨W.heap.size,0,none⟩),.pointer (some ⟨W.heap.size+1,0,none⟩)] wq fun e w'=>e=.returned (.int .i64 (laidAt l (sumsN l us j) row:Nat))/\w'=wq):=fun wq sv j row hrow hj hY=>by
  obtain ⟨so,sc,_,h1,h2,h3⟩:=hY.read (sumsN_le l us j)
  exact laid_any h3 (hr.below hY.be) h2 h1 hT hl (by rw [sumsN_len];omega) hrow
 have hsl:(Instr.slice 23 (.slice uo us.length uc) none (some (.int .i64 (us.length:Int))) none).run Tryz.prog=(Instr.slice 23 (.slice uo us.length uc) none (some (.int .i64 (us.length:Int))) none).run Tryz.prog:=rfl
 have huc2:(us.length:Int)<=(uc:Int):=by omega
 clear hr hu hT hl hn hul hb1 h0 hsl huc
 unfold ptr0
 go_enter Tryz.func77,Tryz.ntmps77
 go_wp2_with fail
 go_loopg [16] us.length (fun gq x wr=>∃ j sv,j+gq=us.length/\x=.int .i64 (j:Int)/\Lyg W wr c0 c2 c3 c4 (.slice uo us.length uc) c6 c7 ao l.length cap sv (sumsN l us j))
 case atStart=>exact ⟨0,_,by omega,rfl,H0.out⟩
 case round=>
  obtain ⟨j,sv,hjg,rfl,hP⟩:=hrel
  have HJ:Hid (j+gk=us.length):=hjg
  have HP:=hdn <| hP
  by_cases hlt:j < us.length
  ·have hj':(j:Int) < (us.length:Int):=by omega
   have HL:Hid (j<=64):=by show _<=_;have:=HN.out;omega
   have hgx:=List.getElem?_eq_getElem hlt
   have HX:Hid (us[j] < l.length/\sumsN l us (j+1)=sumsN l us j++[laidAt l (sumsN l us j) us[j]]):=⟨HUL.out _ (List.getElem_mem hlt),by simp [sumsN,List.getD_eq_getElem?_getD,hgx]⟩
   generalize us[j]=ux at *
   have HXl:Hid (ux < l.length):=HX.out.1
   obtain ⟨ug,uof,rfl,hug,ucl⟩:=(IsNats.below HU.out hP.be) j ux hgx
   have cs:wr.drew.cell? ⟨W.heap.size+1,0,none⟩=some sv:=by simp only [World.cell?,(hP.below (Below.refl _ wr).drew).sx];rfl
   have HPd:=hdn <| HP.out.below (Below.refl _ wr).drew
   clear hjg hP hlt q5 hgx hug
   go_wp2_with fail
   refine wp_region_held (S:=fun _=>True) (by kernel_rfl) ?_
   have hS:(fun _:World=>True) wr.drew:=trivial
   change wpAnyH _ _ _ _ _ _ _ _ wr.drew
   refine tk (i:=1) (v:=?v0) rfl (Or.inl ⟨by rfl,?y0⟩) hS ?r0
   case y0=>
    intro w hSw
    first
     | (go_simp;done)
     | (go_simp;with_reducible rfl)
   refine tk (i:=2) (v:=?v1) rfl (Or.inl ⟨by rfl,?y1⟩) hS ?r1
   case y1=>
    intro w hSw
    first
     | (go_simp;done)
     | (go_simp;with_reducible rfl)
   generalize wr.drew=wd at *
   refine rd2 0 3 (by kernel_rfl) rfl rfl (fun K hK=>?_) (fun K hK=>?_)
   ·go_simp
    refine hK.out _ _ trivial (fun hS=>?_)
    refine rd1 3 rfl fun K hK=>?_
    go_simp
    refine Calls.mono (HC.out wd sv j ux HXl.out HL.out HPd.out) ?_
    rintro e w2 ⟨rfl,hw2⟩
    subst hw2
    have HP3:=hdn <| HPd.out.below (bAl w2 (.cells #[.int .i64 (laidAt l (sumsN l us j) ux:Nat)] 3))
    have c63:(w2.alloc (.cells #[.int .i64 (laidAt l (sumsN l us j) ux:Nat)] 3)).cell? ⟨W.heap.size+1,0,none⟩=some sv:=by simp only [World.cell?,HP3.out.sx];rfl
    refine hK.out _ _ trivial (fun hS=>?_)
    refine rd1 4 rfl fun K hK=>?_
    go_simp
    refine hK.out _ _ trivial (fun hS=>?_)
    refine rd1 5 rfl fun K hK=>?_
    refine step_gone _ rfl (.tmp 20) (.tmp 24) 23 rfl (W.heap.size+2) 3 j0 (.int .i64 0) 1 8 Tryz.underlying23 hj hj0 hj1 hj2 rfl (by decide) sv _ (nv (sumsN l us j)) (by simp [Act.eval]) HP3.out.own ⟨w2.heap.size,0,none⟩ 1 1 [.int .i64 (laidAt l (sumsN l us j) ux:Nat)] (by simp [Act.eval]) rfl (cell_one w2 _ _) (by intro u hu;simp only [List.mem_cons,List.not_mem_nil,or_false] at hu;subst hu;rfl) (by have:=HL.out;rw [sumsN_len];unfold maxLen;omega) (by have:=HL.out;rw [sumsN_len];omega) HP3.out.lt (by decide) ?_
    intro xv' w4 ho hG
    obtain ⟨hpb4,hP4⟩:=HP3.out.put hG ho
    rw [<-HX.out.2] at hP4
    have HP4:=hdn <| hP4
    have e6:w4.cell? ⟨W.heap.size+1,0,none⟩=some sv:=by simp only [World.cell?,hpb4];rfl
    have f6:w4.frozen? ⟨W.heap.size+1,0,none⟩=false:=by simp only [World.frozen?,hpb4];rfl
    obtain ⟨bo,bc,rfl⟩:=own_form ho
    clear ho hG hP4 hpb4
    refine hK.out _ _ trivial (fun hS=>?_)
    refine rd1 6 rfl fun K hK=>?_
    go_simp
    refine hK.out _ _ trivial (fun hS=>?_)
    refine wpAnyH_done (by kernel_rfl) ?_ _
    go_wp2_with fail
    go_roundg (us.length - (j+1))
    case measure=>have:=HJ.out;omega
    case rel=>exact ⟨j+1,_,by have:=HJ.out;omega,by go_num,HP4.out⟩
   ·go_simp
    refine Calls.mono (HC.out wd sv j ux HXl.out HL.out HPd.out) ?_
    rintro e w2 ⟨rfl,hw2⟩
    subst hw2
    have HP3:=hdn <| HPd.out.below (bAl w2 (.cells #[.int .i64 (laidAt l (sumsN l us j) ux:Nat)] 3))
    have c63:(w2.alloc (.cells #[.int .i64 (laidAt l (sumsN l us j) ux:Nat)] 3)).cell? ⟨W.heap.size+1,0,none⟩=some sv:=by simp only [World.cell?,HP3.out.sx];rfl
    refine hK.out _ _ trivial (fun hS=>?_)
    refine rd2 0 4 (by kernel_rfl) rfl rfl (fun K hK=>?_) (fun K hK=>?_)
    rotate_right
    focus
     go_simp
     refine hK.out _ _ trivial (fun hS=>?_)
     refine wpAnyH_ready (rs:=[0]) (by kernel_rfl) (by simp) ?_
    rotate_right
    focus
     go_simp
     refine hK.out _ _ trivial (fun hS=>?_)
     refine wpAnyH_ready (rs:=[4]) (by kernel_rfl) (by simp) ?_
    all_goals
     refine AllReadyH.cons rfl (fun K hK=>?_) AllReadyH.nil
     go_simp
     refine hK.out _ _ trivial (fun hS=>?_)
     refine rd1 5 rfl fun K hK=>?_
     refine step_gone _ rfl (.tmp 20) (.tmp 24) 23 rfl (W.heap.size+2) 3 j0 (.int .i64 0) 1 8 Tryz.underlying23 hj hj0 hj1 hj2 rfl (by decide) sv _ (nv (sumsN l us j)) (by simp [Act.eval]) HP3.out.own ⟨w2.heap.size,0,none⟩ 1 1 [.int .i64 (laidAt l (sumsN l us j) ux:Nat)] (by simp [Act.eval]) rfl (cell_one w2 _ _) (by intro u hu;simp only [List.mem_cons,List.not_mem_nil,or_false] at hu;subst hu;rfl) (by have:=HL.out;rw [sumsN_len];unfold maxLen;omega) (by have:=HL.out;rw [sumsN_len];omega) HP3.out.lt (by decide) ?_
     intro xv' w4 ho hG
     obtain ⟨hpb4,hP4⟩:=HP3.out.put hG ho
     rw [<-HX.out.2] at hP4
     have HP4:=hdn <| hP4
     have e6:w4.cell? ⟨W.heap.size+1,0,none⟩=some sv:=by simp only [World.cell?,hpb4];rfl
     have f6:w4.frozen? ⟨W.heap.size+1,0,none⟩=false:=by simp only [World.frozen?,hpb4];rfl
     obtain ⟨bo,bc,rfl⟩:=own_form ho
     clear ho hG hP4 hpb4
     refine hK.out _ _ trivial (fun hS=>?_)
     refine rd1 6 rfl fun K hK=>?_
     go_simp
     refine hK.out _ _ trivial (fun hS=>?_)
     refine wpAnyH_done (by kernel_rfl) ?_ _
     go_wp2_with fail
     go_roundg (us.length - (j+1))
     case measure=>have:=HJ.out;omega
     case rel=>exact ⟨j+1,_,by have:=HJ.out;omega,by go_num,HP4.out⟩
  ·have hj':decide ((j:Int) < (us.length:Int))=false:=by simp;omega
   obtain rfl:j=us.length:=by have:=HJ.out;omega
   clear hjg hP hlt q5
   go_wp2
   go_ret
   exact ⟨rfl,sv,by rw [HS.out];exact HP.out⟩
end Go.Proofs.YtfgpbdieaflclaaGreat.Nm
namespace Go.Proofs.YtfgpbdieaflclaaGreat.Nm
open Go.RowKit Go.Maps Sp Lx Gr
def big (l:List Rz) (sums:List Nat):Nat->Except Nat Nat
 | 0=>.ok 0
 | k+1=>match big l sums k with
  | .error e=>.error e
  | .ok s=>if (evt (rat l k)).1=0 then .ok s else if 16384 < pls s (laidAt l sums (k+1)) then .error k else .ok (pls s (laidAt l sums (k+1)))
theorem big_err {l:List Rz} {sums:List Nat} {k e:Nat} (h:big l sums k=.error e):∀ j,big l sums (k+j)=.error e:=by
 intro j
 induction j with
 | zero=>exact h
 | succ j ih=>rw [<-Nat.add_assoc];simp only [big,ih]
def bigF (r:Except Nat Nat):Nat × Nat:=match r with | .error k=>(34,k) | .ok _=>(0,0)
theorem row_cells (W:World) (x:Rz):(W.alloc (.cells #[.int .i64 x.kind,.string x.name,.int .i64 x.stop,.int .i64 x.n,.int .i64 x.kids] 47)).cell? ⟨W.heap.size,0,none⟩=some (.int .i64 x.kind)/\(W.alloc (.cells #[.int .i64 x.kind,.string x.name,.int .i64 x.stop,.int .i64 x.n,.int .i64 x.kids] 47)).cell? ⟨W.heap.size,1,none⟩=some (.string x.name)/\(W.alloc (.cells #[.int .i64 x.kind,.string x.name,.int .i64 x.stop,.int .i64 x.n,.int .i64 x.kids] 47)).cell? ⟨W.heap.size,2,none⟩=some (.int .i64 x.stop)/\(W.alloc (.cells #[.int .i64 x.kind,.string x.name,.int .i64 x.stop,.int .i64 x.n,.int .i64 x.kids] 47)).cell? ⟨W.heap.size,3,none⟩=some (.int .i64 x.n)/\(W.alloc (.cells #[.int .i64 x.kind,.string x.name,.int .i64 x.stop,.int .i64 x.n,.int .i64 x.kids] 47)).cell? ⟨W.heap.size,4,none⟩=some (.int .i64 x.kids):=by
 have:=heap_alloc_new W (.cells #[.int .i64 x.kind,.string x.name,.int .i64 x.stop,.int .i64 x.n,.int .i64 x.kids] 47)
 exact ⟨by rw [World.cell?,this];rfl,by rw [World.cell?,this];rfl,by rw [World.cell?,this];rfl,by rw [World.cell?,this];rfl,by rw [World.cell?,this];rfl⟩
theorem tooLarge_any {W:World} {c0 c2 c3 c4 c6 c7:Value} {ao uo:Option Addr} {l:List Rz} {us:List Nat} {cap uc:Nat} (hr:IsRz W ao l) (hu:IsNats W uo us) (hT:TreeZ l) (hl:l.length<=2932031007317) (hn:us.length<=64) (hul:∀ u ∈ us,u < l.length) (huc:us.length<=uc) (hev:∀ k,k < l.length->(evt (rat l k)).1 ≠ 0->k+1 < l.length):
  Calls Tryz.prog 53 #[.agg #[c0,.slice ao l.length cap,c2,c3,c4,.slice uo us.length uc,c6,c7]] W fun e w'=>e=.returned (.agg #[.int .i64 ((bigF (big l (sumsOf l us) l.length)).1:Nat),.int .i64 ((bigF (big l (sumsOf l us) l.length)).2:Nat)])/\Below W.heap.size W w':=by
 have hb1:Below W.heap.size W ((W.alloc (.cells #[c0,.slice ao l.length cap,c2,c3,c4,.slice uo us.length uc,c6,c7] 28)).alloc (.cells #[.int .i64 0,.int .i64 0] 31)):=(bAl W _).alloc (by simp) _
 have hx1:((W.alloc (.cells #[c0,.slice ao l.length cap,c2,c3,c4,.slice uo us.length uc,c6,c7] 28)).alloc (.cells #[.int .i64 0,.int .i64 0] 31)).heap[W.heap.size]?=some (.cells #[c0,.slice ao l.length cap,c2,c3,c4,.slice uo us.length uc,c6,c7] 28 (0,0)):=by rw [alloc_old _ _ _ (by simp)];exact alloc_at _ _ _ rfl
 have hx2:((W.alloc (.cells #[c0,.slice ao l.length cap,c2,c3,c4,.slice uo us.length uc,c6,c7] 28)).alloc (.cells #[.int .i64 0,.int .i64 0] 31)).heap[W.heap.size+1]?=some (.cells #[.int .i64 0,.int .i64 0] 31 (0,0)):=alloc_at _ _ _ (by simp)
 have hz1:((W.alloc (.cells #[c0,.slice ao l.length cap,c2,c3,c4,.slice uo us.length uc,c6,c7] 28)).alloc (.cells #[.int .i64 0,.int .i64 0] 31)).heap.size=W.heap.size+2:=by simp
 have HY:=hdn <| laying_any (W:=(W.alloc (.cells #[c0,.slice ao l.length cap,c2,c3,c4,.slice uo us.length uc,c6,c7] 28)).alloc (.cells #[.int .i64 0,.int .i64 0] 31)) (c0:=c0) (c2:=c2) (c3:=c3) (c4:=c4) (c6:=c6) (c7:=c7) (cap:=cap) (uc:=uc) (hr.below hb1) (hu.below hb1) hT hl hn hul huc
 generalize hW1:(W.alloc (.cells #[c0,.slice ao l.length cap,c2,c3,c4,.slice uo us.length uc,c6,c7] 28)).alloc (.cells #[.int .i64 0,.int .i64 0] 31)=W1 at *
 have q0:W1.cell? ⟨W.heap.size,0,none⟩=some c0:=by simp only [World.cell?,hx1];rfl
 have q1:W1.cell? ⟨W.heap.size,1,none⟩=some (.slice ao l.length cap):=by simp only [World.cell?,hx1];rfl
 have q2:W1.cell? ⟨W.heap.size,2,none⟩=some c2:=by simp only [World.cell?,hx1];rfl
 have q3:W1.cell? ⟨W.heap.size,3,none⟩=some c3:=by simp only [World.cell?,hx1];rfl
 have q4:W1.cell? ⟨W.heap.size,4,none⟩=some c4:=by simp only [World.cell?,hx1];rfl
 have q5:W1.cell? ⟨W.heap.size,5,none⟩=some (.slice uo us.length uc):=by simp only [World.cell?,hx1];rfl
 have q6:W1.cell? ⟨W.heap.size,6,none⟩=some c6:=by simp only [World.cell?,hx1];rfl
 have q7:W1.cell? ⟨W.heap.size,7,none⟩=some c7:=by simp only [World.cell?,hx1];rfl
 have HK:Hid (Below W.heap.size W W1/\W1.heap[W.heap.size]?=some (.cells #[c0,.slice ao l.length cap,c2,c3,c4,.slice uo us.length uc,c6,c7] 28 (0,0))/\W1.heap[W.heap.size+1]?=some (.cells #[.int .i64 0,.int .i64 0] 31 (0,0))/\W1.heap.size=W.heap.size+2):=⟨hb1,hx1,hx2,hz1⟩
 have HR:Hid (IsRz W1 ao l):=hr.below hb1
 have HT:Hid (TreeZ l/\l.length<=2932031007317/\us.length<=64):=⟨hT,hl,hn⟩
 have HEv:=hdn <| hev
 have HSN:Hid (∀ i x:Nat,(sumsOf l us)[i]?=some x->x<=4611686018427387904):=sumsN_le l us _
 have HSL:Hid ((sumsOf l us).length<=64):=by show _<=_;unfold sumsOf;rw [sumsN_len];exact hn
 have HP:Hid (∀ (a b:Nat) (w:World),a<=4611686018427387904->b<=4611686018427387904->Calls Tryz.prog 78 #[.int .i64 (a:Int),.int .i64 (b:Int)] w fun e w'=>e=.returned (.int .i64 (pls a b:Nat))/\w'=w):=fun a b w ha hb=>plus_any a b ha hb w
 have hl2:(l.length:Int)<=2932031007317:=by omega
 generalize sumsOf l us=SS at *
 have HBg:Hid (∀ k,big l SS (k+1)=match big l SS k with | .error e=>.error e | .ok s=>if (evt (rat l k)).1=0 then .ok s else if 16384 < pls s (laidAt l SS (k+1)) then .error k else .ok (pls s (laidAt l SS (k+1)))):=fun _=>rfl
 have HB0:Hid (big l SS 0=.ok 0):=rfl
 have HBF:Hid (∀ k e,big l SS k=.error e->k<=l.length->big l SS l.length=.error e):=fun k e h hk=>by
  have:=big_err h (l.length - k)
  rw [show k+(l.length - k)=l.length by omega] at this
  exact this
 clear hr hu hT hl hn hul huc hev hb1 hx1 hx2 hz1
 go_enter Tryz.func53,Tryz.ntmps53
 go_wp2_with fail
 refine Calls.mono HY.out ?_
 rintro e w2 ⟨rfl,sv,hY⟩
 unfold ptr0
 have HB2:Hid (Below W1.heap.size W1 w2):=hY.be
 have HL:Hid (∀ (wq:World) (row:Nat),Below w2.heap.size w2 wq->row < l.length->Calls Tryz.prog 90 #[.int .i64 (row:Int),.pointer (some ⟨W1.heap.size,0,none⟩),.pointer (some ⟨W1.heap.size+1,0,none⟩)] wq fun e w'=>e=.returned (.int .i64 (laidAt l SS row:Nat))/\w'=wq):=fun wq row hb hrow=>by
  have hYq:=hY.below hb
  obtain ⟨so,sc,_,h1,h2,h3⟩:=hYq.read HSN.out
  exact laid_any h3 (HR.out.below hYq.be) h2 h1 HT.out.1 HT.out.2.1 (by have:=HSL.out;omega) hrow
 have HRq:Hid (∀ wq,Below w2.heap.size w2 wq->IsRz wq ao l/\wq.heap[W.heap.size+1]?=some (.cells #[.int .i64 0,.int .i64 0] 31 (0,0))/\Below W.heap.size W wq):=fun wq hb=>by
  have hb3:Below W1.heap.size W1 wq:=HB2.out.trans (hb.mono HB2.out.size)
  exact ⟨HR.out.below hb3,(hb3.block _ (by have:=HK.out.2.2.2;omega)).trans HK.out.2.2.1,HK.out.1.trans (hb3.mono HK.out.1.size)⟩
 have r1:w2.cell? ⟨W.heap.size,1,none⟩=some (.slice ao l.length cap):=by simp only [World.cell?,(HB2.out.block W.heap.size (by have:=HK.out.2.2.2;omega)).trans HK.out.2.1];rfl
 clear hY q0 q1 q2 q3 q4 q5 q6 q7 HY
 go_wp2_with fail
 go_loopg [4,12] l.length (fun gq x y wr=>∃ k s:Nat,k+gq=l.length/\x=.int .i64 (s:Int)/\y=.int .i64 (k:Int)/\big l SS k=.ok s/\s<=4611686018427387904/\Below w2.heap.size w2 wr)
 case atStart=>exact ⟨0,0,by omega,rfl,rfl,HB0.out,by decide,Below.refl _ _⟩
 case round=>
  obtain ⟨k,s,hkg,rfl,rfl,hbk,hs,hbw⟩:=hrel
  have HG:Hid (k+gk=l.length/\big l SS k=.ok s/\s<=4611686018427387904/\Below w2.heap.size w2 wr):=⟨hkg,hbk,hs,hbw⟩
  have hs2:(s:Int)<=4611686018427387904:=by omega
  by_cases hlt:k < l.length
  ·have hk':(k:Int) < (l.length:Int):=by omega
   have hk2:(k:Int)<=2932031007317:=by omega
   have HBk:=HBg.out k
   rw [hbk] at HBk
   have HBk:Hid (big l SS (k+1)=if (evt (rat l k)).1=0 then .ok s else if 16384 < pls s (laidAt l SS (k+1)) then .error k else .ok (pls s (laidAt l SS (k+1)))):=HBk
   obtain ⟨g,o,rfl,hg,d0,d1,d2,d3,d4⟩:=(HRq.out wr hbw).1 k _ (some_rat hlt)
   obtain ⟨a0,a1,a2,a3,a4⟩:=row_cells wr (rat l k)
   have HE:=hdn <| event_any (rat l k) (wr.alloc (.cells #[.int .i64 (rat l k).kind,.string (rat l k).name,.int .i64 (rat l k).stop,.int .i64 (rat l k).n,.int .i64 (rat l k).kids] 47))
   have HBA:Hid (Below w2.heap.size w2 (wr.alloc (.cells #[.int .i64 (rat l k).kind,.string (rat l k).name,.int .i64 (rat l k).stop,.int .i64 (rat l k).n,.int .i64 (rat l k).kids] 47))):=hbw.alloc hbw.size _
   have HIn:Hid ((evt (rat l k)).1 ≠ 0->k+1 < l.length):=HEv.out k hlt
   generalize hez:evt (rat l k)=z at *
   obtain ⟨z1,z2⟩:=z
   dsimp only at HE HBk HIn
   have HLt:Hid (k < l.length):=hlt
   clear hkg hbk hs hbw hlt hg r1 hez
   generalize rat l k=x at *
   obtain ⟨kd,nm,st,n,ks⟩:=x
   dsimp only at *
   go_wp2_with fail
   generalize wr.alloc (.cells #[.int .i64 kd,.string nm,.int .i64 st,.int .i64 n,.int .i64 ks] 47)=wA at *
   clear d0 d1 d2 d3 d4 a0 a1 a2 a3 a4
   refine Calls.mono HE.out ?_
   rintro e w3 ⟨rfl,hb3⟩
   have HB3:Hid (Below w2.heap.size w2 w3):=HBA.out.trans (hb3.mono HBA.out.size)
   clear hb3 HE
   have hfl:∀ u:World,(Instr.field 108 (.agg #[.int .i64 (z1:Int),.int .i64 z2]) 0).run Tryz.prog u=.ok (.int .i64 (z1:Int)) u:=fun u=>by kernel_rfl
   by_cases hz0:z1=0
   ·have hz0':((z1:Int) == 0)=true:=by simp [hz0]
    have HBn:Hid (big l SS (k+1)=.ok s):=by
     show _=_
     rw [HBk.out,if_pos hz0]
    clear hz0 HBk
    go_wp2_with fail
    go_roundg (l.length - (k+1))
    case measure=>have:=HG.out.1;have:=HLt.out;omega
    case rel=>exact ⟨k+1,s,by have:=HLt.out;omega,rfl,by go_num,HBn.out,HG.out.2.2.1,HB3.out⟩
   ·have hz0':((z1:Int) == 0)=false:=by simp;omega
    have HC:=hdn <| HL.out w3 (k+1) HB3.out (HIn.out hz0)
    have hcast:((k+1:Nat):Int)=(k:Int)+1:=by omega
    rw [hcast] at HC
    have HC2:=hdn <| HP.out s (laidAt l SS (k+1)) w3 HG.out.2.2.1 (laidAt_le HSN.out _)
    have HPl:Hid (pls s (laidAt l SS (k+1))<=4611686018427387904):=pls_le _ _ (laidAt_le HSN.out _)
    rw [if_neg hz0] at HBk
    generalize laidAt l SS (k+1)=la at *
    generalize pls s la=s1 at *
    have hs1:(s1:Int)<=4611686018427387904:=by have:=HPl.out;omega
    clear hz0 hcast
    by_cases hbig:16384 < s1
    ·have hbig':decide ((16384:Int) < (s1:Int))=true:=decide_eq_true (by omega)
     have HBn:Hid (big l SS l.length=.error k):=HBF.out (k+1) k (by rw [HBk.out,if_pos hbig]) (by have:=HLt.out;omega)
     have hft:=(HRq.out w3 HB3.out).2.1
     have x0:w3.cell? ⟨W.heap.size+1,0,none⟩=some (.int .i64 0):=by rw [World.cell?,hft];rfl
     have x1:w3.cell? ⟨W.heap.size+1,1,none⟩=some (.int .i64 0):=by rw [World.cell?,hft];rfl
     have x2:w3.frozen? ⟨W.heap.size+1,0,none⟩=false:=by rw [World.frozen?,hft];rfl
     have x3:w3.frozen? ⟨W.heap.size+1,1,none⟩=false:=by rw [World.frozen?,hft];rfl
     have HFt:Hid (w3.heap[W.heap.size+1]?=some (.cells #[.int .i64 0,.int .i64 0] 31 (0,0))):=hft
     have hbig2:(16384:Int) < (s1:Int):=by omega
     clear hbig HBk hft
     go_wp2_with fail
     refine Calls.mono HC.out ?_
     rintro e w4 ⟨rfl,rfl⟩
     go_wp2_with fail
     refine Calls.mono HC2.out ?_
     rintro e w5 ⟨rfl,rfl⟩
     go_wp2_with fail
     obtain ⟨p0,p1⟩:=two_cells (.int .i64 34) (.int .i64 (k:Int)) HFt.out
     refine bodyPost_ret (v:=.agg #[.int .i64 34,.int .i64 (k:Int)]) (by simp [results,Tryz.results53,go_sem,p0,p1]) rfl ⟨?_,?_⟩
     ·rw [HBn.out];rfl
     ·have hb:=(HRq.out _ HB3.out).2.2
      exact ⟨hb.os,hb.tape,hb.output,by have:=hb.size;simp [World.setCell];omega,fun q hq=>by
       rw [Below.heap_setCell _ _ _ q (fun e=>by have e2:q=W.heap.size+1:=e;omega),Below.heap_setCell _ _ _ q (fun e=>by have e2:q=W.heap.size+1:=e;omega)]
       exact hb.block q hq⟩
    ·have hbig':decide ((16384:Int) < (s1:Int))=false:=decide_eq_false (by omega)
     have HBn:Hid (big l SS (k+1)=.ok s1):=by
      show _=_
      rw [HBk.out,if_neg hbig]
     clear hbig HBk
     go_wp2_with fail
     refine Calls.mono HC.out ?_
     rintro e w4 ⟨rfl,rfl⟩
     go_wp2_with fail
     refine Calls.mono HC2.out ?_
     rintro e w5 ⟨rfl,rfl⟩
     go_wp2_with fail
     go_roundg (l.length - (k+1))
     case measure=>have:=HG.out.1;have:=HLt.out;omega
     case rel=>exact ⟨k+1,s1,by have:=HLt.out;omega,rfl,by go_num,HBn.out,HPl.out,HB3.out⟩
  ·have hk':decide ((k:Int) < (l.length:Int))=false:=by simp;omega
   obtain rfl:k=l.length:=by have:=HG.out.1;omega
   obtain ⟨_,hft,hb⟩:=HRq.out wr hbw
   have x0:wr.cell? ⟨W.heap.size+1,0,none⟩=some (.int .i64 0):=by rw [World.cell?,hft];rfl
   have x1:wr.cell? ⟨W.heap.size+1,1,none⟩=some (.int .i64 0):=by rw [World.cell?,hft];rfl
   have x2:wr.frozen? ⟨W.heap.size+1,0,none⟩=false:=by rw [World.frozen?,hft];rfl
   have x3:wr.frozen? ⟨W.heap.size+1,1,none⟩=false:=by rw [World.frozen?,hft];rfl
   have HFt:Hid (wr.heap[W.heap.size+1]?=some (.cells #[.int .i64 0,.int .i64 0] 31 (0,0))):=hft
   have HBe:Hid (Below W.heap.size W wr):=hb
   clear hkg hbk hs hbw hlt hft hb r1
   go_wp2_with fail
   obtain ⟨p0,p1⟩:=two_cells (.int .i64 0) (.int .i64 0) HFt.out
   refine bodyPost_ret (v:=.agg #[.int .i64 0,.int .i64 0]) (by simp [results,Tryz.results53,go_sem,p0,p1]) rfl ⟨?_,?_⟩
   ·rw [HG.out.2.1];rfl
   ·have hb:=HBe.out
    exact ⟨hb.os,hb.tape,hb.output,by have:=hb.size;simp [World.setCell];omega,fun q hq=>by
     rw [Below.heap_setCell _ _ _ q (fun e=>by have e2:q=W.heap.size+1:=e;omega),Below.heap_setCell _ _ _ q (fun e=>by have e2:q=W.heap.size+1:=e;omega)]
     exact hb.block q hq⟩
end Go.Proofs.YtfgpbdieaflclaaGreat.Nm
