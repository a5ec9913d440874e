import Derived.Test.YtfgpbdieaflclaaGreatK42
import Derived.Test.YtfgpbdieaflclaaGreatK35
import Derived.Deep.RegionHeld3
set_option maxHeartbeats 12800000
set_option maxRecDepth 100000
namespace Go.Proofs.YtfgpbdieaflclaaGreat.Nm
open Go.RowKit Go.Maps Sp Lx Gr
theorem declareR_any {W:World} {b base rb rc eb m i:Nat} {nm:ByteArray} {l0:List Rz} {s:Rs} {qv vv tv uv ov hv:Value} (h:Mkr W b base rb rc eb nm l0 s qv vv tv uv ov hv) (hg:Good l0 m s) (hI:Inv2 s) (hi:i < l0.length) (hl:l0.length<=2932031007317) (hT:TreeZ l0) (hk:decl (rat s.rows i).kind ≠ 0):
  Calls Tryz.prog 16 #[.pointer (some ⟨b,0,none⟩),.int .i64 (i:Int),.int .i64 (decl (rat s.rows i).kind:Nat)] W (MkL W b base rb rc eb nm l0 (askD i s)):=by
 rcases decl_cases (rat s.rows i).kind with ⟨e,ed⟩ | ⟨e,ed⟩ | ⟨e,ed⟩ | ⟨e,ed⟩ | ⟨e,ed⟩ | ⟨_,_,_,_,_,ed⟩
 ·rw [ed]
  exact declareQ (Or.inl ⟨rfl,rfl⟩) h hg hI.nd hi hl hT hI.on e
 ·rw [ed]
  exact declareQ (Or.inr ⟨rfl,rfl⟩) h hg hI.nd hi hl hT hI.on e
 ·rw [ed]
  exact declare4 h hg hI.nd hi hl hT e
 ·rw [ed]
  exact declare5 h hg hI.nd hi hl hT e
 ·rw [ed]
  exact declare7 h hg hI.nd hi hl hT e
 ·exact absurd ed hk
theorem rlaid_any {W:World} {c0 c2 c3 c4 c5 c6 c7:Value} {cap uc eb row:Nat} {ao uo:Option Addr} {l:List Rz} {sums:List Nat} (hr:IsRz W ao l) (hu:IsSums W uo sums) (he:W.cell? ⟨eb,row,none⟩=some (.int .i64 (endp l row:Nat)))
  (hT:TreeZ l) (hl:l.length<=2932031007317) (hs:sums.length<=1000) (hrow:row < l.length) (hcall:∀ j,row<=j->j < endp l row->(rat l j).kind=22->0<=(rat l j).n/\(rat l j).n < (sums.length:Int)):
  Calls Tryz.prog 23 #[.agg #[c0,.slice ao l.length cap,c2,c3,c4,c5,c6,c7],.slice (some ⟨eb,0,none⟩) l.length l.length,.slice uo sums.length uc,.int .i64 (row:Int)] W fun e w'=>e=.returned (.int .i64 (laidAt l sums row:Nat))/\Below W.heap.size W w':=by
 have hb1:Below W.heap.size W (W.alloc (.cells #[c0,.slice ao l.length cap,c2,c3,c4,c5,c6,c7] 28)):=bAl W _
 have hnew:=heap_alloc_new W (.cells #[c0,.slice ao l.length cap,c2,c3,c4,c5,c6,c7] 28)
 have k1:(W.alloc (.cells #[c0,.slice ao l.length cap,c2,c3,c4,c5,c6,c7] 28)).cell? ⟨W.heap.size,1,none⟩=some (.slice ao l.length cap):=by rw [World.cell?,hnew];rfl
 have e1:(W.alloc (.cells #[c0,.slice ao l.length cap,c2,c3,c4,c5,c6,c7] 28)).cell? ⟨eb,row,none⟩=some (.int .i64 (endp l row:Nat)):=(hb1.cell (p:=⟨eb,row,none⟩) (World.block_lt_of_cell? W ⟨eb,row,none⟩ he)).trans he
 have HB:Hid (Below W.heap.size W (W.alloc (.cells #[c0,.slice ao l.length cap,c2,c3,c4,c5,c6,c7] 28))):=hb1
 have HD:Hid (row < endp l row/\endp l row<=l.length):=(end_kid hT.whole hrow).2
 have HP:Hid (∀ (a b:Nat) (w:World),a<=4611686018427387904->b<=4611686018427387904->Calls Tryz.prog 22 #[.int .i64 (a:Int),.int .i64 (b:Int)] w fun e w'=>e=.returned (.int .i64 (pls a b:Nat))/\w'=w):=fun a b w ha hb=>rplus_any a b ha hb w
 have HR:Hid (IsRz (W.alloc (.cells #[c0,.slice ao l.length cap,c2,c3,c4,c5,c6,c7] 28)) ao l):=hr.below hb1
 have HU:Hid (IsSums (W.alloc (.cells #[c0,.slice ao l.length cap,c2,c3,c4,c5,c6,c7] 28)) uo sums):=fun k x hx=>by
  obtain ⟨g,e,hc,hle⟩:=hu k x hx
  exact ⟨g,e,(hb1.cell (p:=⟨g,k,none⟩) (World.block_lt_of_cell? W ⟨g,k,none⟩ hc)).trans hc,hle⟩
 have HCall:=hdn <| hcall
 have hl2:(l.length:Int)<=2932031007317:=by omega
 have hs2:(sums.length:Int)<=1000:=by omega
 have hrow2:(row:Int)<=2932031007317:=by omega
 have hrow3:(row:Int) < (l.length:Int):=by omega
 have HL:Hid (laidAt l sums row=layN l sums row (endp l row - row)):=rfl
 generalize laidAt l sums row=res at *
 generalize endp l row=E at *
 have hE:(E:Int)<=2932031007317:=by have:=HD.out.2;omega
 clear hr hu hT hl hs hrow he hb1 hnew hcall
 go_enter Tryz.func23,Tryz.ntmps23
 go_wp2_with fail
 generalize W.alloc (.cells #[c0,.slice ao l.length cap,c2,c3,c4,c5,c6,c7] 28)=w1 at *
 go_loopg [9,10] (E - row) (fun gq x y wr=>∃ k:Nat,row+k<=E/\gq=E - (row+k)/\x=.int .i64 (layN l sums row k:Nat)/\y=.int .i64 ((row+k:Nat):Int)/\wr=w1)
 case atStart=>exact ⟨0,by have:=HD.out.1;omega,rfl,rfl,rfl,rfl⟩
 case round=>
  obtain ⟨k,hk,hgk,rfl,rfl,hw⟩:=hrel
  have HG:Hid (row+k<=E/\gk=E - (row+k)):=⟨hk,hgk⟩
  rw [hw]
  have HS:Hid (layN l sums row k<=4611686018427387904):=layN_le (IsSums.le HU.out) row k
  have HN:Hid (layN l sums row (k+1)=addRow l sums (row+k) (layN l sums row k)):=rfl
  have HEnd:Hid (row+k=E->res=layN l sums row k):=fun e=>by rw [HL.out,<-e];congr 1;omega
  clear hgk hw
  by_cases hlt:row+k < E
  ·have hat:row+k < l.length:=by have:=HD.out.2;omega
   obtain ⟨g,o,rfl,hg,c0',c1',c2',c3',c4'⟩:=HR.out (row+k) _ (some_rat hat)
   have HA:Hid (addRow l sums (row+k) (layN l sums row k)=if (rat l (row+k)).kind=22/\0<=(rat l (row+k)).n/\(rat l (row+k)).n < (sums.length:Int) then pls (pls (layN l sums row k) 1) (sums.getD (rat l (row+k)).n.toNat 0) else pls (layN l sums row k) 1):=rfl
   have HLt:Hid (row+k < E):=hlt
   have HCx:=HCall.out (row+k) (by omega) hlt
   generalize hlk:layN l sums row k=s at *
   generalize hlk1:layN l sums row (k+1)=s1 at *
   have HK1:Hid (layN l sums row (k+1)=s1):=hlk1
   clear hlk hlk1
   rw [HA.out] at HN
   generalize rat l (row+k)=x at *
   obtain ⟨kd,nm,st,n,ks⟩:=x
   dsimp only at *
   have hat2:((row+k:Nat):Int) < (l.length:Int):=by omega
   have hat3:((row+k:Nat):Int) < (E:Int):=by omega
   have hat4:((row+k:Nat):Int)<=2932031007317:=by omega
   have HP1:=hdn <| HP.out s 1 w1 HS.out (by decide)
   have HB1:Hid (pls s 1<=4611686018427387904):=pls_le _ _ (by decide)
   generalize pls s 1=p1 at *
   generalize hrk:row+k=rk at *
   have HRk:Hid (row+k=rk):=hrk
   clear hlt hat hrk hk HA hg
   by_cases hkd:kd=22
   ·have hkd':(kd == 22)=true:=by simp [hkd]
    obtain ⟨hn0,hn1⟩:=HCx hkd
    obtain ⟨m,rfl⟩:=Int.eq_ofNat_of_zero_le hn0
    have hm:m < sums.length:=by omega
    obtain ⟨ug,rfl,u1,u2⟩:=HU.out m _ (List.getElem?_eq_getElem hm)
    have HN1:Hid (s1=pls p1 sums[m]):=by
     show _=_
     rw [HN.out,if_pos ⟨hkd,hn0,hn1⟩]
     simp [List.getD_eq_getElem?_getD,List.getElem?_eq_getElem hm]
    have HP2:=hdn <| HP.out p1 sums[m] w1 HB1.out u2
    generalize sums[m]=um at *
    have hm2:(m:Int) < (sums.length:Int):=by omega
    clear HN hn0 hm u2 HCx hkd
    go_wp2_with fail
    refine Calls.mono HP1.out ?_
    rintro e w2 ⟨rfl,rfl⟩
    go_wp2_with fail
    refine Calls.mono HP2.out ?_
    rintro e w3 ⟨rfl,rfl⟩
    go_wp2_with fail
    go_roundg (E - (rk+1))
    case measure=>have h1:=HG.out;have h2:=HLt.out;omega
    case rel=>exact ⟨k+1,by have:=HLt.out;have:=HRk.out;omega,by rw [<-HRk.out];rfl,by rw [HK1.out,HN1.out],by rw [<-HRk.out];go_num,rfl⟩
   ·have hkd':(kd == 22)=false:=by simp [hkd]
    have HN1:Hid (s1=p1):=by
     show _=_
     rw [HN.out,if_neg (fun h=>hkd h.1)]
    clear HN hkd HCx
    go_wp2_with fail
    refine Calls.mono HP1.out ?_
    rintro e w2 ⟨rfl,rfl⟩
    go_wp2_with fail
    go_roundg (E - (rk+1))
    case measure=>have h1:=HG.out;have h2:=HLt.out;omega
    case rel=>exact ⟨k+1,by have:=HLt.out;have:=HRk.out;omega,by rw [<-HRk.out];rfl,by rw [HK1.out,HN1.out],by rw [<-HRk.out];go_num,rfl⟩
  ·have hge:row+k=E:=by omega
   have hat3:decide (((row+k:Nat):Int) < (E:Int))=false:=by simp;omega
   have HRes2:Hid (res=layN l sums row k):=HEnd.out hge
   generalize layN l sums row k=s at *
   generalize row+k=rk at *
   clear hlt
   go_wp2
   go_ret
   exact ⟨by rw [HRes2.out];rfl,HB.out⟩
theorem sums_of {w:World} {base n c:Nat} {ao:Option Addr} {l:List Nat} (h:w.ownsRow base 3 1 (.slice ao n c) l.length (nv l)) (hl:∀ i x:Nat,l[i]?=some x->x<=4611686018427387904):IsSums w ao l:=by
 intro k x hx
 have hc:=h
 rcases h.2 with ⟨_,hz⟩ | ⟨g,cap,cur,e,_⟩
 ·have:=(List.getElem?_eq_some_iff.1 hx).1
  omega
 ·cases e
  refine ⟨g,rfl,?_,hl k x hx⟩
  have:=hc.cells (g:=g) rfl k (.int .i64 (x:Int)) (by simp [nv,hx])
  rw [Lib.addr_add] at this
  simpa using this
theorem rsums_any {W:World} {c0 c2 c3 c4 c6 c7:Value} {ao uo:Option Addr} {l:List Rz} {us:List Nat} {cap uc eb:Nat} (hr:IsRz W ao l) (hu:IsNats W uo us) (he:∀ i,i < l.length->W.cell? ⟨eb,i,none⟩=some (.int .i64 (endp l i:Nat))) (hT:TreeZ l) (hl:l.length<=2932031007317) (hn:us.length<=64) (hul:∀ u ∈ us,u < l.length)
  (hcall:∀ k (hk:k < us.length) j,us[k]<=j->j < endp l us[k]->(rat l j).kind=22->0<=(rat l j).n/\(rat l j).n < (k:Int)):
  Calls Tryz.prog 21 #[.agg #[c0,.slice ao l.length cap,c2,c3,c4,.slice uo us.length uc,c6,c7],.slice (some ⟨eb,0,none⟩) l.length l.length] W fun e w'=>∃ sv,e=.returned sv/\w'.ownsRow (W.heap.size+1) 3 1 sv us.length (nv (sumsOf l us))/\Below W.heap.size W w':=by
 have hb1:Below W.heap.size W (W.alloc (.cells #[c0,.slice ao l.length cap,c2,c3,c4,.slice uo us.length uc,c6,c7] 28)):=bAl W _
 have HNw:Hid ((W.alloc (.cells #[c0,.slice ao l.length cap,c2,c3,c4,.slice uo us.length uc,c6,c7] 28)).heap[W.heap.size]?=some (.cells #[c0,.slice ao l.length cap,c2,c3,c4,.slice uo us.length uc,c6,c7] 28 (0,0))/\Below W.heap.size W (W.alloc (.cells #[c0,.slice ao l.length cap,c2,c3,c4,.slice uo us.length uc,c6,c7] 28))/\(W.alloc (.cells #[c0,.slice ao l.length cap,c2,c3,c4,.slice uo us.length uc,c6,c7] 28)).heap.size=W.heap.size+1):=⟨heap_alloc_new W _,hb1,by simp⟩
 have k5:(W.alloc (.cells #[c0,.slice ao l.length cap,c2,c3,c4,.slice uo us.length uc,c6,c7] 28)).cell? ⟨W.heap.size,5,none⟩=some (.slice uo us.length uc):=by rw [World.cell?,HNw.out.1];rfl
 have HR:Hid (IsRz W ao l/\IsNats W uo us/\(∀ i,i < l.length->W.cell? ⟨eb,i,none⟩=some (.int .i64 (endp l i:Nat)))/\TreeZ l/\l.length<=2932031007317/\us.length<=64):=⟨hr,hu,he,hT,hl,hn⟩
 have HUL:=hdn <| hul
 have HCall:=hdn <| hcall
 have hn2:(us.length:Int)<=64:=by omega
 have HSS:Hid (sumsOf l us=sumsN l us us.length):=rfl
 generalize sumsOf l us=SS at *
 clear hr hu he hT hl hn hul hcall hb1
 go_enter Tryz.func21,Tryz.ntmps21
 go_wp2_with fail
 generalize W.alloc (.cells #[c0,.slice ao l.length cap,c2,c3,c4,.slice uo us.length uc,c6,c7] 28)=w1 at *
 go_loopg [5,6] us.length (fun gq x y wr=>∃ k:Nat,k+gq=us.length/\y=.int .i64 (k:Int)/\wr.ownsRow (W.heap.size+1) 3 1 x k (nv (sumsN l us k))/\Below (W.heap.size+1) w1 wr)
 case atStart=>exact ⟨0,by omega,rfl,⟨rfl,Or.inl ⟨rfl,rfl⟩⟩,Below.refl _ _⟩
 case round=>
  obtain ⟨k,hkg,rfl,hown,hbw⟩:=hrel
  obtain ⟨so,sc,rfl⟩:=own_form hown
  have HG:Hid (k+gk=us.length/\wr.ownsRow (W.heap.size+1) 3 1 (.slice so k sc) k (nv (sumsN l us k))/\Below (W.heap.size+1) w1 wr):=⟨hkg,hown,hbw⟩
  have hblk:wr.heap[W.heap.size]?=some (.cells #[c0,.slice ao l.length cap,c2,c3,c4,.slice uo us.length uc,c6,c7] 28 (0,0)):=(hbw.block _ (Nat.lt_succ_self _)).trans HNw.out.1
  have HBk:Hid (wr.heap[W.heap.size]?=some (.cells #[c0,.slice ao l.length cap,c2,c3,c4,.slice uo us.length uc,c6,c7] 28 (0,0))/\Below W.heap.size W wr):=⟨hblk,HNw.out.2.1.trans (hbw.mono (Nat.le_succ _))⟩
  have r5:wr.cell? ⟨W.heap.size,5,none⟩=some (.slice uo us.length uc):=by rw [World.cell?,hblk];rfl
  by_cases hlt:k < us.length
  ·have hk':(k:Int) < (us.length:Int):=by omega
   have hk64:(k:Int)<=64:=by omega
   have hgx:=List.getElem?_eq_getElem hlt
   obtain ⟨ug,uof,rfl,hug,ucl⟩:=(IsNats.below HR.out.2.1 HBk.out.2) k us[k] hgx
   have HX:Hid (us[k] < l.length/\sumsN l us (k+1)=sumsN l us k++[laidAt l (sumsN l us k) us[k]]/\∀ j,us[k]<=j->j < endp l us[k]->(rat l j).kind=22->0<=(rat l j).n/\(rat l j).n < ((sumsN l us k).length:Int)):=⟨HUL.out _ (List.getElem_mem hlt),by simp [sumsN,List.getD_eq_getElem?_getD,hgx],by rw [sumsN_len];exact HCall.out k hlt⟩
   generalize us[k]=ux at *
   have HC:Hid (∀ wq,Below wr.heap.size wr wq->Calls Tryz.prog 23 #[.agg #[c0,.slice ao l.length cap,c2,c3,c4,.slice (some ⟨ug,uof,none⟩) us.length uc,c6,c7],.slice (some ⟨eb,0,none⟩) l.length l.length,.slice so k sc,.int .i64 (ux:Int)] wq fun e w'=>e=.returned (.int .i64 (laidAt l (sumsN l us k) ux:Nat))/\Below wq.heap.size wq w'):=fun wq hb=>by
    have hbW:Below W.heap.size W wq:=HBk.out.2.trans (hb.mono HBk.out.2.size)
    have ho:wq.ownsRow (W.heap.size+1) 3 1 (.slice so k sc) (sumsN l us k).length (nv (sumsN l us k)):=by rw [sumsN_len];exact own_below HG.out.2.1 hb
    have:=rlaid_any (c0:=c0) (c2:=c2) (c3:=c3) (c4:=c4) (c5:=.slice (some ⟨ug,uof,none⟩) us.length uc) (c6:=c6) (c7:=c7) (cap:=cap) (uc:=sc) (HR.out.1.below hbW) (sums_of ho (sumsN_le l us k)) ((hbW.cell (p:=⟨eb,ux,none⟩) (World.block_lt_of_cell? W ⟨eb,ux,none⟩ (HR.out.2.2.1 ux HX.out.1))).trans (HR.out.2.2.1 ux HX.out.1)) HR.out.2.2.2.1 HR.out.2.2.2.2.1 (by rw [sumsN_len];have:=HR.out.2.2.2.2.2;omega) HX.out.1 HX.out.2.2
    rw [sumsN_len] at this
    exact this
   have hS0:wr.drew.cell? ⟨W.heap.size,0,none⟩=some c0/\wr.drew.cell? ⟨W.heap.size,1,none⟩=some (.slice ao l.length cap)/\wr.drew.cell? ⟨W.heap.size,2,none⟩=some c2/\wr.drew.cell? ⟨W.heap.size,3,none⟩=some c3/\wr.drew.cell? ⟨W.heap.size,4,none⟩=some c4/\wr.drew.cell? ⟨W.heap.size,5,none⟩=some (.slice (some ⟨ug,uof,none⟩) us.length uc)/\wr.drew.cell? ⟨W.heap.size,6,none⟩=some c6/\wr.drew.cell? ⟨W.heap.size,7,none⟩=some c7/\wr.drew.cell? ⟨ug,uof+k,none⟩=some (.int .i64 (ux:Int)):=by
    obtain ⟨q0,q1,q2,q3,q4,q5,q6,q7⟩:=pol8 hblk
    exact ⟨q0,q1,q2,q3,q4,q5,q6,q7,ucl⟩
   have HUg:Hid (ug < wr.heap.size):=hug
   clear hkg hown hbw hblk hlt hgx k5 hug
   go_wp2_with fail
   refine wp_region_held (S:=fun w'=>w'.cell? ⟨W.heap.size,0,none⟩=some c0/\w'.cell? ⟨W.heap.size,1,none⟩=some (.slice ao l.length cap)/\w'.cell? ⟨W.heap.size,2,none⟩=some c2/\w'.cell? ⟨W.heap.size,3,none⟩=some c3/\w'.cell? ⟨W.heap.size,4,none⟩=some c4/\w'.cell? ⟨W.heap.size,5,none⟩=some (.slice (some ⟨ug,uof,none⟩) us.length uc)/\w'.cell? ⟨W.heap.size,6,none⟩=some c6/\w'.cell? ⟨W.heap.size,7,none⟩=some c7/\w'.cell? ⟨ug,uof+k,none⟩=some (.int .i64 (ux:Int))) (by kernel_rfl) ?_
   have hS:(fun w':World=>w'.cell? ⟨W.heap.size,0,none⟩=some c0/\w'.cell? ⟨W.heap.size,1,none⟩=some (.slice ao l.length cap)/\w'.cell? ⟨W.heap.size,2,none⟩=some c2/\w'.cell? ⟨W.heap.size,3,none⟩=some c3/\w'.cell? ⟨W.heap.size,4,none⟩=some c4/\w'.cell? ⟨W.heap.size,5,none⟩=some (.slice (some ⟨ug,uof,none⟩) us.length uc)/\w'.cell? ⟨W.heap.size,6,none⟩=some c6/\w'.cell? ⟨W.heap.size,7,none⟩=some c7/\w'.cell? ⟨ug,uof+k,none⟩=some (.int .i64 (ux:Int))) wr.drew:=hS0
   change wpAnyH _ _ _ _ _ _ _ _ wr.drew
   refine tq 0 rfl hS ?_
   refine tq 1 rfl hS ?_
   refine tq 2 rfl hS ?_
   refine tq 3 rfl hS ?_
   refine tq 4 rfl hS ?_
   refine tq 5 rfl hS ?_
   refine tq 6 rfl hS ?_
   refine tq 7 rfl hS ?_
   refine rd1 8 rfl fun K hK=>?_
   go_simp
   refine Calls.mono (HC.out _ (Below.refl _ wr).drew) ?_
   rintro e w2 ⟨rfl,hb2⟩
   have hb3:Below wr.heap.size wr w2:=(Below.refl _ wr).drew.trans (hb2.mono (Nat.le_refl _))
   have hS2:w2.cell? ⟨W.heap.size,0,none⟩=some c0/\w2.cell? ⟨W.heap.size,1,none⟩=some (.slice ao l.length cap)/\w2.cell? ⟨W.heap.size,2,none⟩=some c2/\w2.cell? ⟨W.heap.size,3,none⟩=some c3/\w2.cell? ⟨W.heap.size,4,none⟩=some c4/\w2.cell? ⟨W.heap.size,5,none⟩=some (.slice (some ⟨ug,uof,none⟩) us.length uc)/\w2.cell? ⟨W.heap.size,6,none⟩=some c6/\w2.cell? ⟨W.heap.size,7,none⟩=some c7/\w2.cell? ⟨ug,uof+k,none⟩=some (.int .i64 (ux:Int)):=by
    obtain ⟨q0,q1,q2,q3,q4,q5,q6,q7⟩:=pol8 ((hb3.block _ (blk_lt HBk.out.1)).trans HBk.out.1)
    exact ⟨q0,q1,q2,q3,q4,q5,q6,q7,(hb3.cell (p:=⟨ug,uof+k,none⟩) HUg.out).trans ucl⟩
   have HB3:=hdn <| hb3
   clear hb2 hb3 HC
   refine hK.out _ _ hS2 (fun hS=>?_)
   refine rd1 9 rfl fun K hK=>?_
   go_simp
   refine hK.out _ _ hS2 (fun hS=>?_)
   refine wpAnyH_done (by kernel_rfl) ?_ _
   clear hS hS2 hS0 ucl r5
   have hbU:Below w2.heap.size w2 (w2.alloc (.cells #[.int .i64 (laidAt l (sumsN l us k) ux:Nat)] 3)):=bAl w2 _
   have HOw:Hid ((w2.alloc (.cells #[.int .i64 (laidAt l (sumsN l us k) ux:Nat)] 3)).ownsRow (W.heap.size+1) 3 1 (.slice so k sc) k (nv (sumsN l us k))/\Below (W.heap.size+1) w1 (w2.alloc (.cells #[.int .i64 (laidAt l (sumsN l us k) ux:Nat)] 3))/\k<=64):=⟨own_below (own_below HG.out.2.1 HB3.out) hbU,(HG.out.2.2.trans (HB3.out.mono (by have:=HG.out.2.2.size;have:=HNw.out.2.2;omega))).trans (hbU.mono (by have:=HG.out.2.2.size;have:=HNw.out.2.2;have:=HB3.out.size;omega)),by omega⟩
   obtain ⟨j0,hj,hj0,hj1,hj2⟩:=info_parts infoI
   clear hbU
   go_wp2_with (at_builtin;refine append_gone _ rfl _ _ 23 rfl (W.heap.size+1) 3 j0 (.int .i64 0) 1 8 Tryz.underlying23 hj hj0 hj1 hj2 rfl (by decide) (.slice so k sc) _ (nv (sumsN l us k)) rfl HOw.out.1 ⟨w2.heap.size,0,none⟩ 1 1 [.int .i64 (laidAt l (sumsN l us k) ux:Nat)] rfl rfl (cell_one w2 _ _) (by intro u hu;simp only [List.mem_cons,List.not_mem_nil,or_false] at hu;subst hu;rfl) (by have:=HOw.out.2.2;unfold maxLen;omega) (by have:=HOw.out.2.2;omega) (by have:=HOw.out.2.1.size;have:=HNw.out.2.2;omega) (by decide) ?_)
   intro sv' w4 hown4 hG4
   have H4:Hid (w4.ownsRow (W.heap.size+1) 3 1 sv' (k+1) (nv (sumsN l us (k+1)))/\Below (W.heap.size+1) w1 w4):=by
    refine ⟨by rw [HX.out.2.1];simpa [nv] using hown4,HOw.out.2.1.grown hG4.1 (by have:=HOw.out.2.1.size;have:=HNw.out.2.2;omega) (fun q e=>(World.ownsRow.lt HOw.out.1 q e).1)⟩
   obtain ⟨bo,bc,rfl⟩:=own_form hown4
   clear hown4 hG4
   go_wp2_with fail
   go_roundg (us.length - (k+1))
   case measure=>have:=HG.out.1;omega
   case rel=>exact ⟨k+1,by have:=HG.out.1;omega,by go_num,H4.out.1,H4.out.2⟩
  ·have hk':decide (k < us.length)=false:=decide_eq_false hlt
   have hk2:decide ((k:Int) < (us.length:Int))=false:=decide_eq_false (by omega)
   have hke:k=us.length:=by omega
   have HE:Hid (wr.ownsRow (W.heap.size+1) 3 1 (.slice so k sc) us.length (nv SS)):=by rw [HSS.out];rw [hke] at hown ⊢;exact hown
   clear hkg hown hbw hblk hlt hke k5
   go_wp2
   go_ret
   exact ⟨_,rfl,HE.out,HBk.out.2⟩
end Go.Proofs.YtfgpbdieaflclaaGreat.Nm
