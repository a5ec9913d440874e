import Derived.Test.YtbledbjcghaanaaGreatL21
import Derived.Test.YtbledbjcghaanaaGreatL30
import Derived.Test.YtbledbjcghaanaaGreatTl
import Derived.Deep.RegionHeld3
import Derived.RangeFuncNested
import Derived.RangeFuncBound
import Derived.RangeFuncCalls
import Derived.RangeFuncBox
import Derived.RangeFuncLeaves
import Derived.Shelf.Abstract
import Derived.Shelf.RegionOpen
import Derived.OwnWalkIn
import Derived.TacticsInMore
import Derived.LoopNIn
import Derived.LoopIn
import Derived.OrdersIn
import Derived.OrdersHeld
import Derived.TacticsIn
set_option maxHeartbeats 12800000
set_option maxRecDepth 100000
namespace Go.Proofs.YtbledbjcghaanaaGreat.Nm.Ty
open Go.RowKit Go.Maps Sp Lx Gr
def RfO (fe:Int) (e:Ending):Prop:=∃ b:Bool,e=.returned (.bool b)/\fe=if b=true then 0 else 45
theorem rfits_any {P:Pg} {ao qo vo tto uo oo co:Option Addr} {ac qc vc tc uc oc nc cc:Nat} {size:Int} {cs:Nat->Int} {w:World} (hq:IsVals w qo (qF P.qs)) (hc:IsVals w co (fL nc (fun i=>I (cs i)))) (hql:P.qs.length<=5864062014634) (hcl:nc<=17592186043904):
  Calls Tryz.prog 42 #[.agg (pC P ao ac qo qc vo vc tto tc uo uc oo oc),.agg #[I size,.slice co nc cc]] w fun e w'=>RfO (fitE (ghL P.qs) P.qs.length size cs nc) e/\Below w.heap.size w w':=by
 have HQ:=hdn <| hq;have HC:=hdn <| hc;have hql':(P.qs.length:Int)<=5864062014634:=by omega
 have hcl':(nc:Int)<=17592186043904:=by omega
 have H0:Hid (Below w.heap.size w ((w.alloc (.cells (pC P ao ac qo qc vo vc tto tc uo uc oo oc) 27)).alloc (.cells #[I size,.slice co nc cc] 39))/\((w.alloc (.cells (pC P ao ac qo qc vo vc tto tc uo uc oo oc) 27)).alloc (.cells #[I size,.slice co nc cc] 39)).heap[w.heap.size]?=some (.cells (pC P ao ac qo qc vo vc tto tc uo uc oo oc) 27 (0,0))/\((w.alloc (.cells (pC P ao ac qo qc vo vc tto tc uo uc oo oc) 27)).alloc (.cells #[I size,.slice co nc cc] 39)).heap[w.heap.size+1]?=some (.cells #[I size,.slice co nc cc] 39 (0,0))):=
  ⟨(bAl w _).alloc (by simp) _,by rw [alloc_old _ _ _ (by simp)];exact alloc_at _ _ _ rfl,alloc_at _ _ _ (by simp)⟩
 clear hq hc;obtain ⟨b0,b1⟩:=fcells2 H0.out.2.2;obtain ⟨_,_,a2,_,_,_,_,_⟩:=pol8 H0.out.2.1;by_cases hs1:size < 1
 ·have hs1':decide (size < 1)=true:=decide_eq_true hs1;have HZ:Hid (fitE (ghL P.qs) P.qs.length size cs nc=45):=if_neg (fun h=>by have:=h.1;omega)
  clear HQ HC;go_enter Tryz.func42,Tryz.ntmps42;go_wp2_with fail;go_ret;exact ⟨⟨false,rfl,by rw [HZ.out];rfl⟩,H0.out.1⟩
 ·have hs1':decide (size < 1)=false:=decide_eq_false hs1;by_cases hs2:1048576 < size
  ·have hs2':decide (1048576 < size)=true:=decide_eq_true hs2;have HZ:Hid (fitE (ghL P.qs) P.qs.length size cs nc=45):=if_neg (fun h=>by have:=h.2.1;omega)
   clear HQ HC;go_enter Tryz.func42,Tryz.ntmps42;go_wp2_with fail;go_ret;exact ⟨⟨false,rfl,by rw [HZ.out];rfl⟩,H0.out.1⟩
  ·have hs2':decide (1048576 < size)=false:=decide_eq_false hs2;by_cases hs3:nc=P.qs.length
   ·have hs3':((nc:Int) != (P.qs.length:Int))=false:=by simp [hs3]
    have HE:Hid (nc=P.qs.length):=hs3;have hsz:size<=1048576:=by omega
    have hsz0:1<=size:=by omega
    clear hs3;go_enter Tryz.func42,Tryz.ntmps42;go_wp2_with fail;generalize hW0:((w.alloc (.cells (pC P ao ac qo qc vo vc tto tc uo uc oo oc) 27)).alloc (.cells #[I size,.slice co nc cc] 39))=W0 at *;clear hW0
    go_loopg [5,6,7] nc (fun gq a b x wr=>∃ k:Nat,k<=nc/\gq=nc - k/\a=I (resS (ghL P.qs) cs k)/\b=I (ghoS (ghL P.qs) cs k)/\x=I k/\(∀ j,j < k->okC (ghL P.qs) size cs j)/\wr=W0)
    case atStart=>exact ⟨0,Nat.zero_le _,rfl,rfl,rfl,by go_num,fun j hj=>by omega,rfl⟩
    case round=>
     obtain ⟨k,hk,hgk,rfl,rfl,rfl,hok,hw⟩:=hrel;rw [hw];clear hw;obtain ⟨e1,e2,e3⟩:=sums_le k hok;have HOk:Hid (∀ j,j < k->okC (ghL P.qs) size cs j):=hok;have HG:Hid (gk=nc - k):=hgk;have hk2:(k:Int)<=5864062014634:=by have:=HE.out;omega
     have hr1:resS (ghL P.qs) cs k<=6148914691236517888:=by omega
     have hr2:ghoS (ghL P.qs) cs k<=6148914691236517888:=by omega
     have hr3:resS (ghL P.qs) cs k+ghoS (ghL P.qs) cs k<=6148914691236517888:=by omega
     have HSr:Hid (resS (ghL P.qs) cs (k+1)=if ghL P.qs k=true then resS (ghL P.qs) cs k else resS (ghL P.qs) cs k+cs k):=rfl;have HSg:Hid (ghoS (ghL P.qs) cs (k+1)=if ghL P.qs k=true then ghoS (ghL P.qs) cs k+cs k else ghoS (ghL P.qs) cs k):=rfl;clear hok hgk e3;by_cases hlt:k < nc
     ·have hlt':(k:Int) < (nc:Int):=by omega
      obtain ⟨gc,oc',rfl,hgc,ck⟩:=HC.out k _ (fL_at hlt);have ck0:=(H0.out.1.cell (p:=⟨gc,oc'+k,none⟩) hgc).trans ck;have hkq:k < P.qs.length:=by have:=HE.out;omega
      have hkq':(k:Int) < (P.qs.length:Int):=by omega
      obtain ⟨gq,oq,rfl,hgq,cq⟩:=HQ.out (k * 2+1) _ (qF_at hkq);have cq0:=(H0.out.1.cell (p:=⟨gq,oq+(k * 2+1),none⟩) hgq).trans cq;rw [<-Nat.add_assoc] at cq0;have HNo:Hid (¬ okC (ghL P.qs) size cs k->fitE (ghL P.qs) P.qs.length size cs nc=45):=fun h=>if_neg (fun h2=>h (h2.2.2.2.1 k hlt));have HOn:Hid (okC (ghL P.qs) size cs k->∀ j,j < k+1->okC (ghL P.qs) size cs j):=fun h j hj=>by
       by_cases e:j=k
       ·rw [e];exact h
       ·exact HOk.out j (by omega)
      have HOc:Hid (okC (ghL P.qs) size cs k ↔ (1<=cs k/\cs k<=1048576/\(ghL P.qs k=true\/cs k<=size))):=Iff.rfl;clear ck cq HC HQ;generalize okC (ghL P.qs) size cs k=okk at *;generalize resS (ghL P.qs) cs k=rs at *;generalize ghoS (ghL P.qs) cs k=gs at *;generalize cs k=c at *;by_cases hc1:c < 1
      ·have hc1':decide (c < 1)=true:=decide_eq_true hc1;have HZ:Hid (fitE (ghL P.qs) P.qs.length size cs nc=45):=HNo.out (fun h=>by have:=(HOc.out.1 h).1;omega)
       go_wp2_with fail
       go_ret;exact ⟨⟨false,rfl,by rw [HZ.out];rfl⟩,H0.out.1⟩
      ·have hc1':decide (c < 1)=false:=decide_eq_false hc1;by_cases hc2:1048576 < c
       ·have hc2':decide (1048576 < c)=true:=decide_eq_true hc2;have HZ:Hid (fitE (ghL P.qs) P.qs.length size cs nc=45):=HNo.out (fun h=>by have:=(HOc.out.1 h).2.1;omega)
        go_wp2_with fail
        go_ret;exact ⟨⟨false,rfl,by rw [HZ.out];rfl⟩,H0.out.1⟩
       ·have hc2':decide (1048576 < c)=false:=decide_eq_false hc2;cases hgh:ghL P.qs k with
        | true=>
         rw [hgh] at cq0;have HOo:=hdn <| HOn.out (HOc.out.2 ⟨by omega,by omega,Or.inl hgh⟩)
         have HS1:Hid (resS (ghL P.qs) cs (k+1)=rs/\ghoS (ghL P.qs) cs (k+1)=gs+c):=⟨by rw [HSr.out,if_pos hgh],by rw [HSg.out,if_pos hgh]⟩
         have hw2:IntKind.i64.wrap (gs+c)=gs+c:=by rw [IntKind.wrap_i64];omega
         clear hgh;go_wp2_with fail;go_roundg (nc - (k+1))
         case measure=>have:=HG.out;omega
         case rel=>exact ⟨k+1,by omega,rfl,by rw [HS1.out.1],by rw [HS1.out.2],by go_num,HOo.out,rfl⟩
        | false=>
         rw [hgh] at cq0;by_cases hc3:size < c
         ·have hc3':decide (size < c)=true:=decide_eq_true hc3;have HZ:Hid (fitE (ghL P.qs) P.qs.length size cs nc=45):=HNo.out (fun h=>by have:=(HOc.out.1 h).2.2;rw [hgh] at this;exact this.elim nofun (fun h=>by omega))
          clear hgh;go_wp2_with fail;go_ret;exact ⟨⟨false,rfl,by rw [HZ.out];rfl⟩,H0.out.1⟩
         ·have hc3':decide (size < c)=false:=decide_eq_false hc3;have HOo:=hdn <| HOn.out (HOc.out.2 ⟨by omega,by omega,Or.inr (by omega)⟩)
          have HS1:Hid (resS (ghL P.qs) cs (k+1)=rs+c/\ghoS (ghL P.qs) cs (k+1)=gs):=⟨by rw [HSr.out,if_neg (by simp [hgh])],by rw [HSg.out,if_neg (by simp [hgh])]⟩
          have hw2:IntKind.i64.wrap (rs+c)=rs+c:=by rw [IntKind.wrap_i64];omega
          clear hgh;go_wp2_with fail;go_roundg (nc - (k+1))
          case measure=>have:=HG.out;omega
          case rel=>exact ⟨k+1,by omega,rfl,by rw [HS1.out.1],by rw [HS1.out.2],by go_num,HOo.out,rfl⟩
     ·have hlt':¬ (k:Int) < (nc:Int):=by omega
      have hke:k=nc:=by omega
      have HFt:Hid (fitE (ghL P.qs) P.qs.length size cs nc=if min (resS (ghL P.qs) cs k) size+ghoS (ghL P.qs) cs k<=4194304 then 0 else 45):=by
       show (if fitZ _ _ _ _ _ then (0:Int) else 45)=_
       have:fitZ (ghL P.qs) P.qs.length size cs nc ↔ min (resS (ghL P.qs) cs k) size+ghoS (ghL P.qs) cs k<=4194304:=by
        rw [hke,Int.min_comm];exact ⟨fun h=>h.2.2.2.2,fun h=>⟨hsz0,hsz,HE.out,fun j hj=>HOk.out j (by omega),h⟩⟩
       by_cases h:min (resS (ghL P.qs) cs k) size+ghoS (ghL P.qs) cs k<=4194304
       ·rw [if_pos h,if_pos (this.2 h)]
       ·rw [if_neg h,if_neg (fun h2=>h (this.1 h2))]
      clear hke HSr HSg HQ HC;generalize resS (ghL P.qs) cs k=rs at *;generalize ghoS (ghL P.qs) cs k=gs at *;have hmn:min rs size<=1048576:=by omega
      have hmn0:0<=min rs size:=by omega
      generalize hmz:min rs size=mz at *;have hw2:IntKind.i64.wrap (mz+gs)=mz+gs:=by rw [IntKind.wrap_i64];omega
      by_cases h4:mz+gs<=4194304
      ·have h4':decide (mz+gs<=4194304)=true:=decide_eq_true h4;have HZ:Hid (fitE (ghL P.qs) P.qs.length size cs nc=0):=by show _=_;rw [HFt.out,if_pos h4]
       go_wp2_with fail
       go_ret;exact ⟨⟨true,by simp,by rw [HZ.out];rfl⟩,H0.out.1⟩
      ·have h4':decide (mz+gs<=4194304)=false:=decide_eq_false h4;have HZ:Hid (fitE (ghL P.qs) P.qs.length size cs nc=45):=by show _=_;rw [HFt.out,if_neg h4]
       go_wp2_with fail
       go_ret;exact ⟨⟨false,by simp,by rw [HZ.out];rfl⟩,H0.out.1⟩
   ·have hs3':((nc:Int) != (P.qs.length:Int))=true:=by simp;omega
    have HZ:Hid (fitE (ghL P.qs) P.qs.length size cs nc=45):=if_neg (fun h=>hs3 h.2.2.1);clear HQ HC;go_enter Tryz.func42,Tryz.ntmps42;go_wp2_with fail;go_ret;exact ⟨⟨false,rfl,by rw [HZ.out];rfl⟩,H0.out.1⟩
theorem rfit_any {P:Pg} {ao qo vo tto uo oo co:Option Addr} {ac qc vc tc uc oc nc cc:Nat} {size:Int} {cs:Nat->Int} {w:World} (h:RdG w P ao qo vo tto uo oo) (hs:P.Sm) (hkd:∀ r ∈ P.rows,r.kids<=9223372036854775807/\r.name.size<=4611686018427387000) (hc:IsVals w co (fL nc (fun i=>I (cs i)))) (hcl:nc<=17592186043904):
  Calls Tryz.prog 18 #[pvG P ao qo vo tto uo oo ac qc vc tc uc oc,.agg #[I size,.slice co nc cc]] w fun e w'=>Below w.heap.size w w'/\((¬ IsOk P/\e=.returned (.agg #[I 23,I 0]))\/(IsOk P/\e=.returned (.agg #[I (fitE (ghL P.qs) P.qs.length size cs nc),I 0]))):=by
 have H1:Hid (Fq w (((w.alloc (.cells (pC P ao ac qo qc vo vc tto tc uo uc oo oc) 27)).alloc (.cells #[I size,.slice co nc cc] 39)).alloc (.cells #[I 0,I 0] 32)) (pC P ao ac qo qc vo vc tto tc uo uc oo oc) #[I size,.slice co nc cc]):=fq_start w _ _;have HG:=hdn <| h;have HC:Hid (IsVals w co (fL nc (fun i=>I (cs i)))):=hc;have HCl:Hid (nc<=17592186043904/\P.qs.length<=5864062014634):=⟨hcl,hs.q⟩;have HCk:=hdn <| rcheck_any (ac:=ac) (qc:=qc) (vc:=vc) (tc:=tc) (uc:=uc) (oc:=oc) (h.below H1.out.be) hs hkd;obtain ⟨k0,k1,k2,k3,k4,k5,k6,k7⟩:=pol8 H1.out.p;dsimp only [pvG] at *;clear h hs hkd hc hcl;go_enter Tryz.func18,Tryz.ntmps18;go_wp2_with fail;generalize (((w.alloc (.cells (pC P ao ac qo qc vo vc tto tc uo uc oo oc) 27)).alloc (.cells #[I size,.slice co nc cc] 39)).alloc (.cells #[I 0,I 0] 32))=w1 at *;refine Calls.mono HCk.out ?_;rintro e w2 ⟨hck,hb2⟩;have H2:=hdn <| H1.out.below hb2;clear H1 hb2 HCk k0 k1 k2 k3 k4 k5 k6 k7;obtain ⟨f0,f1⟩:=cells2 H2.out.f;have hf:∀ j,w2.frozen? ⟨w.heap.size+1+1,j,none⟩=false:=fun j=>by have:=H2.out.f;simp only [World.frozen?,this];rfl
 rcases hck with ⟨p',hp1,hp2,rfl⟩ | ⟨hno,rfl⟩
 ·have HIs:Hid (IsOk P):=⟨p',hp1,hp2⟩;have HFi:=hdn <| rfits_any (ao:=ao) (vo:=vo) (tto:=tto) (uo:=uo) (oo:=oo) (ac:=ac) (qc:=qc) (vc:=vc) (tc:=tc) (uc:=uc) (oc:=oc) (cc:=cc) (size:=size) (HG.out.below H2.out.be).q (HC.out.below H2.out.be) HCl.out.2 HCl.out.1;obtain ⟨k0,k1,k2,k3,k4,k5,k6,k7⟩:=pol8 H2.out.p;obtain ⟨d0,d1⟩:=cells2 H2.out.c;clear hp1 hp2 p';go_wp2_with fail;refine Calls.mono HFi.out ?_;rintro e w3 ⟨⟨b,rfl,hbe⟩,hb3⟩;have H3:=hdn <| H2.out.below hb3;have HBe:=hdn <| hbe;clear hb3 hbe HFi H2 k0 k1 k2 k3 k4 k5 k6 k7 d0 d1 f0 f1 hf;obtain ⟨f0,f1⟩:=cells2 H3.out.f;have hf:∀ j,w3.frozen? ⟨w.heap.size+1+1,j,none⟩=false:=fun j=>by have:=H3.out.f;simp only [World.frozen?,this];rfl
  cases b with
  | true=>
   go_wp2_with fail
   obtain ⟨c1,c2,c3⟩:=put2M (B:=w.heap.size+1+1) (v0:=I 0) (v1:=I 0) H3.out.be (by omega) H3.out.f
   obtain ⟨y0,y1⟩:=cells2 c1;refine bodyPost_ret (v:=.agg #[I 0,I 0]) (by simp [results,Tryz.results18,go_sem,y0,y1]) rfl ?_
   exact ⟨c2,Or.inr ⟨HIs.out,by rw [HBe.out];rfl⟩⟩
  | false=>
   go_wp2_with fail
   obtain ⟨c1,c2,c3⟩:=put2M (B:=w.heap.size+1+1) (v0:=I 45) (v1:=I 0) H3.out.be (by omega) H3.out.f
   obtain ⟨y0,y1⟩:=cells2 c1;refine bodyPost_ret (v:=.agg #[I 45,I 0]) (by simp [results,Tryz.results18,go_sem,y0,y1]) rfl ?_
   exact ⟨c2,Or.inr ⟨HIs.out,by rw [HBe.out];rfl⟩⟩
 ·have HNo:Hid (¬ IsOk P):=hno;clear hno;go_wp2_with fail;obtain ⟨c1,c2,c3⟩:=put2M (B:=w.heap.size+1+1) (v0:=I 23) (v1:=I 0) H2.out.be (by omega) H2.out.f
  obtain ⟨y0,y1⟩:=cells2 c1;refine bodyPost_ret (v:=.agg #[I 23,I 0]) (by simp [results,Tryz.results18,go_sem,y0,y1]) rfl ?_
  exact ⟨c2,Or.inl ⟨HNo.out,rfl⟩⟩
end Go.Proofs.YtbledbjcghaanaaGreat.Nm.Ty
namespace Go.Proofs.YtbledbjcghaanaaGreat.Nm.Ty
open Go.RowKit Go.Maps Sp Lx Gr Nm
theorem lendC17 {w:World} {co:Option Addr} {l:List Int} {size:Int} {cc:Nat} (h:IsVals w co (iv l)) (hn:l.length<=17592186043904):
  Calls Tryz.prog 15 #[.agg #[I size,.slice co l.length cc]] w fun e w'=>∃ g,e=.returned (.agg #[I size,.slice (pZ g) l.length (l.length+5)])/\w.heap.size<=g/\RowJ w' g (fillI l 5)/\Below w.heap.size w w':=by
 have hb0:Below w.heap.size w ((w.alloc (.cells #[I size,.slice co l.length cc] 39)).alloc (.cells #[I 0,pz] 39)):=(bAl w _).alloc (by simp) _
 have HP:Hid (((w.alloc (.cells #[I size,.slice co l.length cc] 39)).alloc (.cells #[I 0,pz] 39)).heap[w.heap.size]?=some (.cells #[I size,.slice co l.length cc] 39 (0,0))/\((w.alloc (.cells #[I size,.slice co l.length cc] 39)).alloc (.cells #[I 0,pz] 39)).heap[w.heap.size+1]?=some (.cells #[I 0,pz] 39 (0,0))/\Below w.heap.size w ((w.alloc (.cells #[I size,.slice co l.length cc] 39)).alloc (.cells #[I 0,pz] 39))):=⟨by rw [alloc_old _ _ _ (by simp)];exact alloc_at _ _ _ rfl,alloc_at _ _ _ (by simp),hb0⟩
 have HD:Hid (IsVals w co (iv l)/\l.length<=17592186043904):=⟨h,hn⟩;clear h hn hb0;go_enter Tryz.func15,Tryz.ntmps15;go_wp2_with fail;generalize ((w.alloc (.cells #[I size,.slice co l.length cc] 39)).alloc (.cells #[I 0,pz] 39))=w2 at *;have hS0:w2.drew.cell? ⟨w.heap.size,0,none⟩=some (I size)/\w2.drew.cell? ⟨w.heap.size,1,none⟩=some (.slice co l.length cc):=by
  have hd:w2.drew.heap[w.heap.size]?=_:=HP.out.1;exact ⟨by simp [World.cell?,hd],by simp [World.cell?,hd]⟩
 refine wp_region_held (S:=(fun w':World=>w'.cell? ⟨w.heap.size,0,none⟩=some (I size)/\w'.cell? ⟨w.heap.size,1,none⟩=some (.slice co l.length cc))) (by kernel_rfl) ?_
 have hS:(fun w':World=>w'.cell? ⟨w.heap.size,0,none⟩=some (I size)/\w'.cell? ⟨w.heap.size,1,none⟩=some (.slice co l.length cc)) w2.drew:=hS0;change wpAnyH _ _ _ _ _ _ _ _ w2.drew;refine tk (i:=0) (v:=?av0) rfl (Or.inl ⟨by rfl,?ay0⟩) hS ?ar0
 case ay0=>intro w hSw;(try dsimp only at hSw);obtain ⟨e0,e1⟩:=hSw;first | (go_simp;done) | (go_simp;with_reducible rfl)
 refine tk (i:=1) (v:=?av1) rfl (Or.inl ⟨by rfl,?ay1⟩) hS ?ar1
 case ay1=>intro w hSw;(try dsimp only at hSw);obtain ⟨e0,e1⟩:=hSw;first | (go_simp;done) | (go_simp;with_reducible rfl)
 refine tk (i:=2) (v:=?av2) rfl (Or.inl ⟨by rfl,?ay2⟩) hS ?ar2
 case ay2=>intro w hSw;(try dsimp only at hSw);obtain ⟨e0,e1⟩:=hSw;first | (go_simp;done) | (go_simp;with_reducible rfl)
 refine tk (i:=3) (v:=?av3) rfl (Or.inl ⟨by rfl,?ay3⟩) hS ?ar3
 case ay3=>intro w hSw;(try dsimp only at hSw);obtain ⟨e0,e1⟩:=hSw;first | (go_simp;done) | (go_simp;with_reducible rfl)
 have HP3:Hid (w2.drew.heap[w.heap.size]?=some (.cells #[I size,.slice co l.length cc] 39 (0,0))/\w2.drew.heap[w.heap.size+1]?=some (.cells #[I 0,pz] 39 (0,0))/\Below w.heap.size w w2.drew):=⟨HP.out.1,HP.out.2.1,HP.out.2.2.drew⟩;have HP0:Hid (w.heap.size+1 < w2.drew.heap.size/\w.heap.size < w2.drew.heap.size):=⟨blk_lt HP3.out.2.1,blk_lt HP3.out.1⟩;clear HP;generalize w2.drew=x0 at *;refine rd1 4 rfl fun K hK=>?_;go_simp;refine Calls.mono (lend17 (HD.out.1.below HP3.out.2.2) HD.out.2) ?_;rintro e w4 ⟨rfl,hR4,hb4⟩;have hr4:w4.heap[w.heap.size+1]?=some (.cells #[I 0,pz] 39 (0,0)):=(hb4.block _ HP0.out.1).trans HP3.out.2.1;have h5:=set_at hr4 (I size) (cs':=#[I size,pz]) (i:=0) rfl;have h6:=set_at h5 (.slice (pZ x0.heap.size) l.length (l.length+5)) (cs':=#[I size,.slice (pZ x0.heap.size) l.length (l.length+5)]) (i:=1) rfl;have hne:∀ k,k ≠ w.heap.size+1->((w4.setCell ⟨w.heap.size+1,0,none⟩ (I size)).setCell ⟨w.heap.size+1,1,none⟩ (.slice (pZ x0.heap.size) l.length (l.length+5))).heap[k]?=w4.heap[k]?:=fun k hk=>(Below.heap_setCell _ _ _ k (fun e=>hk e)).trans (Below.heap_setCell _ _ _ k (fun e=>hk e));have hS4:w4.cell? ⟨w.heap.size,0,none⟩=some (I size)/\w4.cell? ⟨w.heap.size,1,none⟩=some (.slice co l.length cc):=⟨(hb4.cell (p:=⟨w.heap.size,0,none⟩) HP0.out.2).trans hS0.1,(hb4.cell (p:=⟨w.heap.size,1,none⟩) HP0.out.2).trans hS0.2⟩;have hf0:w4.frozen? ⟨w.heap.size+1,0,none⟩=false/\w4.cell? ⟨w.heap.size+1,0,none⟩=some (I 0)/\w4.cell? ⟨w.heap.size+1,1,none⟩=some pz/\w4.frozen? ⟨w.heap.size+1,1,none⟩=false:=⟨by simp [World.frozen?,hr4],by simp [World.cell?,hr4],by simp [World.cell?,hr4],by simp [World.frozen?,hr4]⟩
 obtain ⟨f0,f1,f2,f3⟩:=hf0;have HE:Hid (RowJ ((w4.setCell ⟨w.heap.size+1,0,none⟩ (I size)).setCell ⟨w.heap.size+1,1,none⟩ (.slice (pZ x0.heap.size) l.length (l.length+5))) x0.heap.size (fillI l 5)/\Below w.heap.size w ((w4.setCell ⟨w.heap.size+1,0,none⟩ (I size)).setCell ⟨w.heap.size+1,1,none⟩ (.slice (pZ x0.heap.size) l.length (l.length+5)))):=⟨(hne _ (by have:=HP0.out.1;omega)).trans hR4,below_set (below_set (HP3.out.2.2.trans (hb4.mono HP3.out.2.2.size)) (by omega) 0 _) (by omega) 1 _⟩
 have hS6:((w4.setCell ⟨w.heap.size+1,0,none⟩ (I size)).setCell ⟨w.heap.size+1,1,none⟩ (.slice (pZ x0.heap.size) l.length (l.length+5))).cell? ⟨w.heap.size,0,none⟩=some (I size)/\((w4.setCell ⟨w.heap.size+1,0,none⟩ (I size)).setCell ⟨w.heap.size+1,1,none⟩ (.slice (pZ x0.heap.size) l.length (l.length+5))).cell? ⟨w.heap.size,1,none⟩=some (.slice co l.length cc):=by
  simp only [World.cell?,hne w.heap.size (by omega)]
  exact hS4
 have HX:Hid (x0.heap.size ≥ w.heap.size):=HP3.out.2.2.size;clear hR4 hb4 hne h5;refine hK.out _ _ hS4 (fun hS=>?_);refine rd1 5 rfl fun K hK=>?_;go_simp;refine hK.out _ _ hS4 (fun hS=>?_);refine rd1 6 rfl fun K hK=>?_;go_simp;refine hK.out _ _ hS6 (fun hS=>?_);refine wpAnyH_done (by kernel_rfl) ?_ _
 clear f0 f1 f2 f3 hr4;have k0:((w4.setCell ⟨w.heap.size+1,0,none⟩ (I size)).setCell ⟨w.heap.size+1,1,none⟩ (.slice (pZ x0.heap.size) l.length (l.length+5))).cell? ⟨w.heap.size+1,0,none⟩=some (I size)/\((w4.setCell ⟨w.heap.size+1,0,none⟩ (I size)).setCell ⟨w.heap.size+1,1,none⟩ (.slice (pZ x0.heap.size) l.length (l.length+5))).cell? ⟨w.heap.size+1,1,none⟩=some (.slice (pZ x0.heap.size) l.length (l.length+5)):=by
  simp [World.cell?,h6]
 obtain ⟨k1,k2⟩:=k0;go_wp2_with fail;refine bodyPost_ret (v:=.agg #[I size,.slice (pZ x0.heap.size) l.length (l.length+5)]) (by simp [results,Tryz.results15,go_sem,k1,k2]) rfl ?_
 exact ⟨_,rfl,HX.out,HE.out⟩
end Go.Proofs.YtbledbjcghaanaaGreat.Nm.Ty
namespace Go.Proofs.YtbledbjcghaanaaGreat.Nm.Ty
open Go.RowKit Go.Shelf Sp Lx Gr
attribute [local go_sem] Oper.semAt_some
theorem pback_in (F:Fence) (n:Nat) (h8:F.fn 112) (hro:F.round=none) (hn:1<=n) (l Bs b bo cap:Nat) (f:Nat->Value) (N:Nat) (hreach:N<=2932031007317) (J Jx:List Nat->World->Prop)
  (hY:∀ pre x W,J pre W->pre.length < N->YieldAt F (n - 1) Tryz.prog l #[I ((x % N:Nat):Int),f (x % N)] W fun e W'=>
   (e=.returned (.bool true)/\J (pre++[x]) W'/\Kq [Bs,b] W W')\/(e=.returned (.bool false)/\Jx (pre++[x]) W'))
  (W:World) (hBs:W.cell? ⟨Bs,0,none⟩=some (.slice (some ⟨b,bo,none⟩) N cap)) (hc:IsVals W (some ⟨b,bo,none⟩) (fL N f)) (h0:J [] W):
  CallsIn F n Tryz.prog 112 #[.func (.yield l) #[] #[],.pointer (pZ Bs)] W fun e W'=>(∃ v,e=.returned v) /\
   ((∃ ys,ys=dnto N N/\J ys W')\/(∃ pre,(∃ k,k<=N/\pre=dnto N k)/\Jx pre W')):=by
 have hrc:(N:Int)<=2932031007317:=by omega
 refine callsIn_of_wp Tryz.func112 rfl h8 ?_ hro;simp only [Tryz.ntmps112,List.size_toArray,List.length_cons,List.length_nil,Nat.reduceAdd,Nat.reduceSub,Array.replicate_succ,Array.replicate_zero,List.push_toArray,List.append_toArray,List.nil_append,List.cons_append]
 gi_wp2
 gi_loopw [3] (fun i wr=>∃ k:Nat,k<=N/\i=I ((N:Int) - 1 - k)/\J (dnto N k) wr/\Kq [Bs,b] W wr)
  (fun i _=>(intOf i+1).toNat)
 case atStart=>exact ⟨0,Nat.zero_le _,by simp,h0,Kq.refl _ _⟩
 case round=>
  obtain ⟨k,hk,rfl,hJs,hnx⟩:=hrel;have hcs:wr.cell? ⟨Bs,0,none⟩=some (.slice (some ⟨b,bo,none⟩) N cap):=(World.cell?_of_block (a:=⟨Bs,0,none⟩) (hnx.2 Bs (by simp))).trans hBs
  by_cases hlt:k < N
  ·obtain ⟨pk,hpk⟩:∃ pk,pk=N - 1 - k:=⟨_,rfl⟩;have hi:(N:Int) - 1 - (k:Int)=(pk:Int):=by omega
   rw [hi];have hpl:pk < N:=by omega
   have hpl':(pk:Int) < (N:Int):=by omega
   have hJn:dnto N (k+1)=dnto N k++[pk]:=by rw [dnto_succ,<-hpk]
   obtain ⟨fn,tmps,assign,body,hy,hR⟩:=hY _ pk wr hJs (by rw [dnto_length];exact hlt)
   rw [Nat.mod_eq_of_lt hpl] at hy;obtain ⟨g,o,e,_,c0⟩:=hc pk _ (fL_at hpl);cases e;have d0:wr.cell? ⟨b,bo+pk,none⟩=some (f pk):=(World.cell?_of_block (a:=⟨b,bo+pk,none⟩) (hnx.2 b (by simp))).trans c0
   clear c0 hpk;generalize f pk=r at *
   gi_wp2
   refine hR.mono ?_;rintro e W3 (⟨rfl,hJ3,hk3⟩ | ⟨rfl,hJx3⟩)
   ·gi_wp2
    go_roundw
    case rel=>exact ⟨k+1,by omega,by simp;omega,by rw [hJn];exact hJ3,hnx.trans hk3⟩
    case measure=>simp [intOf]
   ·gi_wp2
    refine bodyPost_ret (results_none rfl _ _ _) rfl ?_;exact ⟨⟨_,rfl⟩,.inr ⟨_,⟨k+1,by omega,hJn.symm⟩,hJx3⟩⟩
  ·have hkN:k=N:=by omega
   have hi:(N:Int) - 1 - (k:Int)=-1:=by omega
   rw [hi];rw [hkN] at hJs
   gi_wp2
   go_end0
   exact ⟨⟨_,rfl⟩,.inl ⟨_,rfl,hJs⟩⟩
theorem pbackward_any (a:Option Addr) (len cap:Nat) (w:World):
  Calls Tryz.prog 72 #[.slice a len cap] w fun e w'=>e=.returned (.func (.func 112) #[] #[.pointer (pZ w.heap.size)])/\w'=w.alloc (.cells #[.slice a len cap] 63):=by
 have hmf:∀ (fn:Fn) (first cap:Array Value) (w:World),(Instr.makeFunc fn first cap).run Tryz.prog w=.ok (.func fn first cap) w:=fun _ _ _ _=>rfl;go_enter Tryz.func72,Tryz.ntmps72;go_wp2;go_ret;exact ⟨rfl,rfl⟩
theorem pback_stops (F:Fence) (n:Nat) (h8:F.fn 112) (hro:F.round=none) (hn:1<=n) (Bs b bo cap:Nat) (f:Nat->Value) (N:Nat) (hreach:N<=2932031007317) (w:World) (hBs:Bs < w.heap.size)
  (hc:w.cell? ⟨Bs,0,none⟩=some (.slice (some ⟨b,bo,none⟩) N cap)) (hI:IsVals w (some ⟨b,bo,none⟩) (fL N f)):
  SeqStopsK F n Tryz.prog 112 #[.pointer (pZ Bs)] (fun x:Nat=>#[Value.int .i64 ((x % N:Nat):Int),f (x % N)]) (Kq [Bs,b]) (fun ys=>ys=dnto N N)
   (fun pre=>∃ k,k<=N/\pre=dnto N k) N w:=fun l J Jx W hW _ _ hY h0=>
 pback_in F n h8 hro hn l Bs b bo cap f N hreach J Jx hY W ((hW.cell (p:=⟨Bs,0,none⟩) hBs).trans hc) (IsVals.below hI hW) h0
end Go.Proofs.YtbledbjcghaanaaGreat.Nm.Ty
namespace Go.Proofs.YtbledbjcghaanaaGreat.Nm.Ty
open Go.RowKit Go.Maps Sp Lx Gr
theorem tdiv_in {a b:Int} (ha:-9223372036854775808<=a/\a<=9223372036854775807) (h0:b ≠ 0) (h1:b ≠ -1):(-9223372036854775808<=a.tdiv b/\a.tdiv b<=9223372036854775807)/\(a.tmod b ≠ 0->-9223372036854775807<=a.tdiv b):=by
 have h2:=Int.natAbs_tdiv a b;have h3:(a.tdiv b).natAbs * b.natAbs<=a.natAbs:=by rw [h2];exact Nat.div_mul_le_self _ _
 by_cases h4:b=1
 ·subst h4;rw [Int.tdiv_one,Int.tmod_one];exact ⟨ha,fun h=>absurd rfl h⟩
 ·have h5:2<=b.natAbs:=by omega
  have h6:(a.tdiv b).natAbs * 2<=a.natAbs:=Nat.le_trans (Nat.mul_le_mul_left _ h5) h3;generalize a.tdiv b=q at *;exact ⟨by omega,fun _=>by omega⟩
theorem clamp_in (n:Int):-1073741824<=clampZ n/\clampZ n<=1073741824:=by unfold clampZ;omega
theorem tmod_in {a b:Int} (ha:-9223372036854775808<=a/\a<=9223372036854775807):-9223372036854775808<=a.tmod b/\a.tmod b<=9223372036854775807:=by
 have h2:(a.tmod b).natAbs<=a.natAbs:=by rw [Int.natAbs_tmod];exact Nat.mod_le _ _
 by_cases h0:0<=a
 ·have h3:=Int.tmod_nonneg b h0;generalize a.tmod b=r at *;omega
 ·have h3:=Int.tmod_nonneg b (show 0<=-a by omega)
  rw [Int.neg_tmod] at h3;generalize a.tmod b=r at *;omega
theorem div_any {a b:Int} (ha:-9223372036854775808<=a/\a<=9223372036854775807) (w:World):Calls Tryz.prog 21 #[I a,I b] w fun e w'=>e=.returned (I (divZ a b))/\w'=w:=by
 have HC:=hdn <| clamp_any;have HD:Hid (divZ a b=if b=0 then 0 else if b=-1 then -clampZ a else clampZ (a.tdiv b - if a.tmod b ≠ 0/\¬ ((a.tmod b < 0) ↔ (b < 0)) then 1 else 0)):=rfl;by_cases h0:b=0
 ·have HR:Hid (divZ a b=0):=by show _=_;rw [HD.out,if_pos h0]
  subst h0;go_enter Tryz.func21,Tryz.ntmps21;go_wp2;go_ret;rw [HR.out];exact ⟨rfl,rfl⟩
 ·by_cases h1:b=-1
  ·have HR:Hid (divZ a b=-clampZ a):=by show _=_;rw [HD.out,if_neg h0,if_pos h1]
   have hcl:=clamp_in a;subst h1;clear HD;generalize hz:clampZ a=z at *;have HCa:=hdn <| HC.out a w;rw [hz] at HCa;clear hz;go_enter Tryz.func21,Tryz.ntmps21;go_wp2_with fail;refine Calls.mono HCa.out ?_;rintro e w1 ⟨rfl,hw⟩;rw [hw];clear hw;go_wp2;go_ret;rw [HR.out];exact ⟨rfl,rfl⟩
  ·obtain ⟨hq,hq2⟩:=tdiv_in ha h0 h1;have hr:=tmod_in (b:=b) ha;have HR:Hid (divZ a b=clampZ (a.tdiv b - if a.tmod b ≠ 0/\¬ ((a.tmod b < 0) ↔ (b < 0)) then 1 else 0)):=by show _=_;rw [HD.out,if_neg h0,if_neg h1]
   have q0:(b == 0)=false:=beq_false_of_ne h0;have q1:(b == -1)=false:=beq_false_of_ne h1;have hwq:IntKind.i64.wrap (a.tdiv b)=a.tdiv b:=by rw [IntKind.wrap_i64];generalize a.tdiv b=q at *;omega
   have hwr:IntKind.i64.wrap (a.tmod b)=a.tmod b:=by rw [IntKind.wrap_i64];generalize a.tmod b=r at *;omega
   clear HD;by_cases hr0:a.tmod b=0
   ·have HR2:Hid (divZ a b=clampZ (a.tdiv b)):=by show _=_;rw [HR.out,if_neg (fun h=>h.1 hr0),Int.sub_zero]
    have hn:(a.tmod b != 0)=false:=by simp [hr0]
    clear hr0 hq2;go_enter Tryz.func21,Tryz.ntmps21;go_wp2_with fail;refine Calls.mono (HC.out _ _) ?_;rintro e w1 ⟨rfl,hw⟩;rw [hw];clear hw;go_wp2;go_ret;rw [HR2.out];exact ⟨rfl,rfl⟩
   ·have hn:(a.tmod b != 0)=true:=by simp [hr0]
    have hq3:=hq2 hr0;have hw1:IntKind.i64.wrap (a.tdiv b - 1)=a.tdiv b - 1:=by rw [IntKind.wrap_i64];generalize a.tdiv b=q at *;omega
    by_cases hs:a.tmod b < 0
    rotate_right
    focus
     have hs':decide (a.tmod b < 0)=false:=decide_eq_false hs;by_cases hb:b < 0
     rotate_right
     focus
      have hb':decide (b < 0)=false:=decide_eq_false hb;have HR2:Hid (divZ a b=clampZ (a.tdiv b)):=by show _=_;rw [HR.out,if_neg (fun h=>h.2 ⟨fun h=>absurd h hs,fun h=>absurd h hb⟩),Int.sub_zero]
     rotate_right
     focus
      have hb':decide (b < 0)=true:=decide_eq_true hb;have HR2:Hid (divZ a b=clampZ (a.tdiv b - 1)):=by show _=_;rw [HR.out,if_pos ⟨hr0,fun h=>hs (h.2 hb)⟩]
    rotate_right
    focus
     have hs':decide (a.tmod b < 0)=true:=decide_eq_true hs;by_cases hb:b < 0
     rotate_right
     focus
      have hb':decide (b < 0)=false:=decide_eq_false hb;have HR2:Hid (divZ a b=clampZ (a.tdiv b - 1)):=by show _=_;rw [HR.out,if_pos ⟨hr0,fun h=>hb (h.1 hs)⟩]
     rotate_right
     focus
      have hb':decide (b < 0)=true:=decide_eq_true hb;have HR2:Hid (divZ a b=clampZ (a.tdiv b)):=by show _=_;rw [HR.out,if_neg (fun h=>h.2 ⟨fun _=>hb,fun _=>hs⟩),Int.sub_zero]
    all_goals
     all_goals
      go_enter Tryz.func21,Tryz.ntmps21
      go_wp2_with fail
      refine Calls.mono (HC.out _ _) ?_;rintro e w1 ⟨rfl,hw⟩;rw [hw];clear hw;go_wp2;go_ret;rw [HR2.out];exact ⟨rfl,rfl⟩
def Prt.cm (x:Prt) (size:Int) (cq:Nat->Int) (a b:Int):Int:=match x with
 | .wri _ n=>n
 | .cpy q=>cq q.toNat
 | .siz=>size
 | .rck k=>if k=39 then min a b else if k=40 then max a b else if k=41 then clampZ (wrap64 (-a)) else if k=43 then clampZ (wrap64 (a * b)) else if k=44 then divZ a b else if k=45 then clampZ (wrap64 (a+b)) else clampZ (wrap64 (a - b))
 | .cmp k=>if k=49 then oneZ (decide (a < b)) else if k=50 then oneZ (decide (a<=b)) else if k=51 then oneZ (decide (b < a)) else oneZ (decide (b<=a))
 | .joi k=>if k=42 then wrap64 (1 - a) else if k=53 then bits .and .i64 a b else bits .or .i64 a b
 | .lik k=>oneZ ((a == b) == (k == 47))
 | _=>0
theorem comes_any (x:Prt) {size:Int} {cq:Nat->Int} {co:Option Addr} {nc cc:Nat} {a b:Int} (ha:-9223372036854775808<=a/\a<=9223372036854775807) {w:World} (hc:IsVals w co (fL nc (fun i=>I (cq i)))) (hn:nc<=17592186043904) (hx:∀ q,x=.cpy q->∃ n:Nat,q=(n:Int)/\n < nc):Calls Tryz.prog x.coF #[x.D,.agg #[I size,.slice co nc cc],I a,I b] w fun e w'=>e=.returned (I (x.cm size cq a b))/\Below w.heap.size w w':=by
 have hnl:(nc:Int)<=17592186043904:=by omega
 cases x with
 | dng u v t=>
  have HB:Hid (Below w.heap.size w ((w.alloc (.cells #[I u,I v,I t] 150)).alloc (.cells #[I size,.slice co nc cc] 39))):=(bAl w _).alloc (by simp) _
  clear hc hx;show Calls Tryz.prog 200 #[.agg #[I u,I v,I t],_,_,_] w _;go_enter Tryz.func200,Tryz.ntmps200;go_wp2;go_ret;exact ⟨rfl,HB.out⟩
 | wri t n=>
  have HB:Hid (Below w.heap.size w ((w.alloc (.cells #[I t,I n] 135)).alloc (.cells #[I size,.slice co nc cc] 39))):=(bAl w _).alloc (by simp) _
  clear hc hx;show Calls Tryz.prog 183 #[.agg #[I t,I n],_,_,_] w _;go_enter Tryz.func183,Tryz.ntmps183;go_wp2;go_ret;exact ⟨rfl,HB.out⟩
 | siz  =>
  have HB:Hid (Below w.heap.size w ((w.alloc (.cells #[] 139)).alloc (.cells #[I size,.slice co nc cc] 39))):=(bAl w _).alloc (by simp) _
  clear hc hx;show Calls Tryz.prog 187 #[.agg #[],_,_,_] w _;go_enter Tryz.func187,Tryz.ntmps187;go_wp2;go_ret;exact ⟨rfl,HB.out⟩
 | chg t=>
  have HB:Hid (Below w.heap.size w ((w.alloc (.cells #[I t] 141)).alloc (.cells #[I size,.slice co nc cc] 39))):=(bAl w _).alloc (by simp) _
  clear hc hx;show Calls Tryz.prog 189 #[.agg #[I t],_,_,_] w _;go_enter Tryz.func189,Tryz.ntmps189;go_wp2;go_ret;exact ⟨rfl,HB.out⟩
 | cpy q=>
  obtain ⟨n,rfl,hq⟩:=hx q rfl;obtain ⟨g,o,rfl,hg,c0⟩:=hc n _ (fL_at hq);have hb:Below w.heap.size w ((w.alloc (.cells #[I (n:Int)] 137)).alloc (.cells #[I size,.slice (some ⟨g,o,none⟩) nc cc] 39)):=(bAl w _).alloc (by simp) _
  have c1:=(hb.cell (p:=⟨g,o+n,none⟩) hg).trans c0;have HB:=hdn <| hb;have hq':(n:Int) < (nc:Int):=by omega
  have HR:Hid ((Prt.cpy (n:Int)).cm size cq a b=cq n):=rfl;clear hb hx hc c0;generalize cq n=y at *;show Calls Tryz.prog 185 #[.agg #[I (n:Int)],_,_,_] w _;go_enter Tryz.func185,Tryz.ntmps185;go_wp2;go_ret;rw [HR.out];exact ⟨rfl,HB.out⟩
 | rck k=>
  have HB:Hid (Below w.heap.size w ((w.alloc (.cells #[I k] 143)).alloc (.cells #[I size,.slice co nc cc] 39))):=(bAl w _).alloc (by simp) _
  clear hc hx;show Calls Tryz.prog 191 #[.agg #[I k],_,_,_] w _;have HC:=hdn <| clamp_any;have HD:=hdn <| div_any (b:=b) ha;by_cases h39:k=39
  ·subst h39;go_enter Tryz.func191,Tryz.ntmps191;go_wp2;go_ret;exact ⟨rfl,HB.out⟩
  ·have q39:(k == 39)=false:=beq_false_of_ne h39;by_cases h40:k=40
   ·subst h40;go_enter Tryz.func191,Tryz.ntmps191;go_wp2;go_ret;exact ⟨rfl,HB.out⟩
   ·have q40:(k == 40)=false:=beq_false_of_ne h40;by_cases h41:k=41
    ·subst h41;have HR:Hid (clampZ (0)=clampZ (0)):=rfl;go_enter Tryz.func191,Tryz.ntmps191;go_wp2_with fail;refine Calls.mono (HC.out _ _) ?_;rintro e w1 ⟨rfl,hw⟩;rw [hw];clear hw;go_wp2;go_ret;exact ⟨rfl,HB.out⟩
    ·have q41:(k == 41)=false:=beq_false_of_ne h41;by_cases h43:k=43
     ·subst h43;have HR:Hid (clampZ (0)=clampZ (0)):=rfl;go_enter Tryz.func191,Tryz.ntmps191;go_wp2_with fail;refine Calls.mono (HC.out _ _) ?_;rintro e w1 ⟨rfl,hw⟩;rw [hw];clear hw;go_wp2;go_ret;exact ⟨rfl,HB.out⟩
     ·have q43:(k == 43)=false:=beq_false_of_ne h43;by_cases h44:k=44
      ·subst h44;go_enter Tryz.func191,Tryz.ntmps191;go_wp2_with fail;refine Calls.mono (HD.out _) ?_;rintro e w1 ⟨rfl,hw⟩;rw [hw];clear hw;go_wp2;go_ret;exact ⟨rfl,HB.out⟩
      ·have q44:(k == 44)=false:=beq_false_of_ne h44;by_cases h45:k=45
       ·subst h45;have HR:Hid (clampZ (0)=clampZ (0)):=rfl;go_enter Tryz.func191,Tryz.ntmps191;go_wp2_with fail;refine Calls.mono (HC.out _ _) ?_;rintro e w1 ⟨rfl,hw⟩;rw [hw];clear hw;go_wp2;go_ret;exact ⟨rfl,HB.out⟩
       ·have q45:(k == 45)=false:=beq_false_of_ne h45;have HR:Hid ((Prt.rck k).cm size cq a b=clampZ (wrap64 (a - b))):=by
         show (if k=39 then min a b else if k=40 then max a b else if k=41 then clampZ (wrap64 (-a)) else if k=43 then clampZ (wrap64 (a * b)) else if k=44 then divZ a b else if k=45 then clampZ (wrap64 (a+b)) else clampZ (wrap64 (a - b)))=_
         rw [if_neg h39,if_neg h40,if_neg h41,if_neg h43,if_neg h44,if_neg h45]
        go_enter Tryz.func191,Tryz.ntmps191
        go_wp2_with fail
        refine Calls.mono (HC.out _ _) ?_;rintro e w1 ⟨rfl,hw⟩;rw [hw];clear hw;go_wp2;go_ret;rw [HR.out];exact ⟨rfl,HB.out⟩
 | cmp k=>
  have HB:Hid (Below w.heap.size w ((w.alloc (.cells #[I k] 144)).alloc (.cells #[I size,.slice co nc cc] 39))):=(bAl w _).alloc (by simp) _
  clear hc hx;show Calls Tryz.prog 193 #[.agg #[I k],_,_,_] w _;have HC:=hdn <| one_any;by_cases h49:k=49
  ·subst h49;go_enter Tryz.func193,Tryz.ntmps193;go_wp2_with fail;refine Calls.mono (HC.out _ _) ?_;rintro e w1 ⟨rfl,hw⟩;rw [hw];clear hw;go_wp2;go_ret;exact ⟨rfl,HB.out⟩
  ·have q49:(k == 49)=false:=beq_false_of_ne h49;by_cases h50:k=50
   ·subst h50;go_enter Tryz.func193,Tryz.ntmps193;go_wp2_with fail;refine Calls.mono (HC.out _ _) ?_;rintro e w1 ⟨rfl,hw⟩;rw [hw];clear hw;go_wp2;go_ret;exact ⟨rfl,HB.out⟩
   ·have q50:(k == 50)=false:=beq_false_of_ne h50;by_cases h51:k=51
    ·subst h51;go_enter Tryz.func193,Tryz.ntmps193;go_wp2_with fail;refine Calls.mono (HC.out _ _) ?_;rintro e w1 ⟨rfl,hw⟩;rw [hw];clear hw;go_wp2;go_ret;exact ⟨rfl,HB.out⟩
    ·have q51:(k == 51)=false:=beq_false_of_ne h51;have HR:Hid ((Prt.cmp k).cm size cq a b=oneZ (decide (b<=a))):=by
      show (if k=49 then oneZ (decide (a < b)) else if k=50 then oneZ (decide (a<=b)) else if k=51 then oneZ (decide (b < a)) else oneZ (decide (b<=a)))=_
      rw [if_neg h49,if_neg h50,if_neg h51]
     go_enter Tryz.func193,Tryz.ntmps193
     go_wp2_with fail
     refine Calls.mono (HC.out _ _) ?_;rintro e w1 ⟨rfl,hw⟩;rw [hw];clear hw;go_wp2;go_ret;rw [HR.out];exact ⟨rfl,HB.out⟩
 | joi k=>
  have HB:Hid (Below w.heap.size w ((w.alloc (.cells #[I k] 145)).alloc (.cells #[I size,.slice co nc cc] 39))):=(bAl w _).alloc (by simp) _
  clear hc hx;show Calls Tryz.prog 196 #[.agg #[I k],_,_,_] w _;by_cases h1:k=42
  ·subst h1;go_enter Tryz.func196,Tryz.ntmps196;go_wp2;go_ret;exact ⟨rfl,HB.out⟩
  ·have q1:(k == 42)=false:=beq_false_of_ne h1;by_cases h2:k=53
   ·subst h2;go_enter Tryz.func196,Tryz.ntmps196;go_wp2;go_ret;exact ⟨rfl,HB.out⟩
   ·have q2:(k == 53)=false:=beq_false_of_ne h2;go_enter Tryz.func196,Tryz.ntmps196;have HR:Hid ((Prt.joi k).cm size cq a b=bits .or .i64 a b):=by
     show (if k=42 then wrap64 (1 - a) else if k=53 then bits .and .i64 a b else bits .or .i64 a b)=_
     rw [if_neg h1,if_neg h2]
    go_wp2;go_ret;rw [HR.out];exact ⟨rfl,HB.out⟩
 | lik k=>
  have HB:Hid (Below w.heap.size w ((w.alloc (.cells #[I k] 146)).alloc (.cells #[I size,.slice co nc cc] 39))):=(bAl w _).alloc (by simp) _
  clear hc hx;show Calls Tryz.prog 198 #[.agg #[I k],_,_,_] w _;have HC:=hdn <| one_any;go_enter Tryz.func198,Tryz.ntmps198;go_wp2_with fail;refine Calls.mono (HC.out _ _) ?_;rintro e w1 ⟨rfl,hw⟩;rw [hw];clear hw;go_wp2;go_ret;exact ⟨rfl,HB.out⟩
end Go.Proofs.YtbledbjcghaanaaGreat.Nm.Ty
namespace Go.Proofs.YtbledbjcghaanaaGreat.Nm.Ty
open Go.RowKit Go.Shelf Sp Lx Gr
attribute [local go_sem] Oper.semAt_some
def vB (l:List Rz) (size:Int) (cq:Nat->Int):Nat->Nat->Int
 | 0=>fun _=>0
 | p+1=>setF (vB l size cq p) (l.length - 1 - p) ((rP l (l.length - 1 - p)).cm size cq (if 0 < km l (l.length - 1 - p) then vB l size cq p (l.length - 1 - p+1) else 0) (if 1 < km l (l.length - 1 - p) then vB l size cq p (endp l (l.length - 1 - p+1)) else 0))
def in64 (n:Int):Prop:=-9223372036854775808<=n/\n<=9223372036854775807
theorem bits_in (a b:Int):in64 (bits .and .i64 a b)/\in64 (bits .or .i64 a b):=by
 simp only [bits,IntKind.wrap_i64,in64];omega
theorem wrap_in (n:Int):in64 (wrap64 n):=by unfold in64 wrap64;omega
theorem clamp64 (n:Int):in64 (clampZ n):=by have:=clamp_in n;unfold in64;omega
theorem one64 (b:Bool):in64 (oneZ b):=by unfold oneZ in64;split<;>omega
theorem cm_in (x:Prt) {size:Int} {cq:Nat->Int} {a b:Int} (hs:in64 size) (hq:∀ i,in64 (cq i)) (ha:in64 a) (hb:in64 b) (hn:∀ t n,x=.wri t n->in64 n):in64 (x.cm size cq a b):=by
 have h0:in64 0:=by unfold in64;omega
 have hmin:in64 (min a b):=by unfold in64 at *;omega
 have hmax:in64 (max a b):=by unfold in64 at *;omega
 have hdiv:in64 (divZ a b):=by
  unfold divZ
  split
  ·exact h0
  ·split
   ·have:=clamp_in a;unfold in64;omega
   ·exact clamp64 _
 cases x with
 | dng u v t=>exact h0
 | wri t n=>exact hn t n rfl
 | cpy q=>exact hq _
 | siz=>exact hs
 | chg t=>exact h0
 | rck k=>
  simp only [Prt.cm]
  repeat' split
  all_goals first | exact hmin | exact hmax | exact clamp64 _ | exact hdiv
 | cmp k=>
  simp only [Prt.cm]
  repeat' split
  all_goals exact one64 _
 | joi k=>
  simp only [Prt.cm]
  repeat' split
  ·exact wrap_in _
  ·exact (bits_in a b).1
  ·exact (bits_in a b).2
 | lik k=>exact one64 _
end Go.Proofs.YtbledbjcghaanaaGreat.Nm.Ty
namespace Go.Proofs.YtbledbjcghaanaaGreat.Nm.Ty
open Go.RowKit Sp Lx
section
variable {P:Program} {ops:Array Oper} {md:Region.Mode} {Q:Exit->Act->World->Prop}
theorem uponIn_round (l n:Nat) {o:Oper} {a:Act} {K K':Act->World->Prop} (hk:∀ a w,K a w->K' a w) {r:Result Next} (h:o.upon P a K Q r):o.uponIn (Fence.wide.inRound l) n P a K' Q r:=by
 cases r with
 | ok x w'=>
  cases x<;>simp only [Oper.upon,Oper.uponIn] at h ⊢
  case value v=>exact hk _ _ h
  case skip=>exact hk _ _ h
  case defer d=>exact hk _ _ h
  case enter f args=>
   refine ⟨fun hz=>(by simp [Fence.wide,Fence.inRound] at hz),CallsIn.inRound l (callsIn_wide.2 (h.mono fun e w'' he=>?_))⟩
   cases e<;>first | exact hk _ _ he | exact he
  case row rw args=>
   refine ⟨fun hz=>(by simp [Fence.wide,Fence.inRound] at hz),fun c cs _=>?_⟩
   obtain ⟨v,w2,h1,h2⟩:=h c cs;exact ⟨v,w2,hk _ _ h1,stepsIn_wide.2 h2⟩
 | halt x w'=>
  cases x<;>simp only [Oper.upon,Oper.uponIn] at h ⊢
  all_goals first | exact h | exact h.elim
theorem wpAnyIn_round (l n:Nat) (hL:¬ LetsOut Q) (hd:∀ (j:Nat) (o:Oper),ops[j]?=some o->∀ c,o.op ≠ .defer c):
  ∀ (fuel:Nat) (listed:Array Bool) (a:Act) (w:World),wpAny P md ops Q fuel listed a w->wpAnyIn (Fence.wide.inRound l) n P md ops Q fuel listed a w:=by
 intro fuel
 induction fuel with
 | zero=>intro listed a w h;exact h
 | succ fuel ih=>
  intro listed a w h;refine ⟨h.1,fun i hi=>?_⟩;have h1:=h.2 i hi;unfold wpOp at h1;unfold wpOpIn;cases ho:ops[i]? with
  | none=>rw [ho] at h1;exact ih _ _ _ h1
  | some o=>
   rw [ho] at h1;dsimp only at h1 ⊢
   split
   ·rename_i hw
    rw [if_pos hw] at h1;refine ⟨fun _ _=>trivial,?_⟩;rw [Oper.semAt_eq _ _ _ (hd i o ho)];exact uponIn_round l n (fun a w h=>ih _ _ _ h) (h1.resolve_right fun e=>hL e.2)
   ·rename_i hw
    rw [if_neg hw] at h1;exact ⟨fun _ _=>trivial,ih _ _ _ h1⟩
theorem wpIn_region_round {id l n:Nat} {a:Act} {w:World} (hm:P.follows .mixedOrders=true) (hL:¬ LetsOut Q) (hd:∀ (j:Nat) (o:Oper),ops[j]?=some o->∀ c,o.op ≠ .defer c)
  (h:wpAny P .any ops Q ops.size (Array.replicate ops.size false) a { w with drawn:=w.drawn+1 }):(Code.region id ops true).wpIn (Fence.wide.inRound l) n P Q a w:=
 wpIn_region_any hm (wpAnyIn_round l n hL hd _ _ _ _ h)
def noDefer (l:List Oper):Bool:=l.all fun o=>match o.op with
 | .defer _=>false
 | _=>true
theorem noDefer_spec {l:List Oper} (h:noDefer l=true):∀ (j:Nat) (o:Oper),l.toArray[j]?=some o->∀ c,o.op ≠ .defer c:=by
 intro j o ho c he;have hm:o ∈ l:=by simpa using Array.mem_of_getElem? ho
 have h1:=List.all_eq_true.1 h o hm;rw [he] at h1;cases h1
end
section
variable {P:Program} {C:World->Prop}
theorem wpIn_round_tail {q nf id:Nat} {Q:Exit->Act->World->Prop} {a:Act} {w:World} {l:List Oper} (n:Nat) (hm:P.follows .mixedOrders=true) (hB:Region.lexTailB .any l.toArray n=true) (hd:noDefer l=true) (hL:¬ LetsOut Q) (hC:C { w with drawn:=w.drawn+1 })
  (h:wpQuiet P l.toArray C (fun a'=>∀ w',C w'->wpList P l.toArray Q (l.drop n) a' w') (l.take n) a):(Code.region id l.toArray true).wpIn (Fence.wide.inRound q) nf P Q a w:=by
 simp only [Region.lexTailB,Bool.and_eq_true,decide_eq_true_eq] at hB;obtain ⟨⟨⟨⟨hsel,hn⟩,hs⟩,hc⟩,hlex⟩:=hB;have hn':n < l.length:=by simpa using hn
 have htl:(l.take n).length=n:=by simp;omega
 have hdl:(l.drop n).length=l.toArray.size - n:=by simp
 have inv0:HeadInv .any l.toArray n (Array.replicate l.toArray.size false):=
  ⟨by simp,fun j oj _ hl=>(by rw [getD_replicate_false] at hl;cases hl),fun t _ ht=>getD_in (by simpa using ht) (getD_replicate_false _ _)⟩
 have H:=wpHead_lex (md:=.any) (g:=l.toArray.size - n) hsel hs hc hn (l.take n) 0 _ a (fun j hj=>by
  have hj':j < n:=by rw [htl] at hj;exact hj
  simp [hj']) (by simpa using htl) inv0 (by rw [htl];exact hlex) h
 refine wpIn_region_round hm hL (noDefer_spec hd) ?_;have:=wpAny_of_wpHead (Q':=Q) (g:=l.toArray.size - n) (fun listed a' w' hw' hL=>by
  have:=wpAny_of_seq (md:=.any) (Q':=Q) (l.drop n) n listed a' w' (fun j=>by simp [List.getElem?_drop]) (by rw [hdl];exact hL.1) (hL.2 w' hw')
  rwa [hdl] at this) _ _ _ { w with drawn:=w.drawn+1 } hC H
 rw [htl,show n+(l.toArray.size - n)=l.toArray.size by omega] at this
 exact this
theorem wpIn_round_quiet {q nf id:Nat} {Q:Exit->Act->World->Prop} {a:Act} {w:World} {l:List Oper} (hm:P.follows .mixedOrders=true) (hB:Region.lexB .any l.toArray=true) (hd:noDefer l=true) (hL:¬ LetsOut Q) (hC:C { w with drawn:=w.drawn+1 })
  (h:wpQuiet P l.toArray C (fun a'=>∀ w',C w'->Q .normal a' w') l a):(Code.region id l.toArray true).wpIn (Fence.wide.inRound q) nf P Q a w:=by
 simp only [Region.lexB,Bool.and_eq_true] at hB;refine wpIn_region_round hm hL (noDefer_spec hd) (wpAny_of_quiet (Q:=fun a'=>∀ w',C w'->Q .normal a' w') (fun _ w' hw' h=>h w' hw') _ _ _ _ hC ?_);have:=wpAnyQ_lex (C:=C) (md:=.any) hB.1 l 0 (Array.replicate l.toArray.size false) a (by simp) (by simpa using hB.2) h
 simpa using this
end
end Go.Proofs.YtbledbjcghaanaaGreat.Nm.Ty
