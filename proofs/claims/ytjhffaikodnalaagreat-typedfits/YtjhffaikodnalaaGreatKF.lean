import Derived.Deep.RegionHeld3
import Derived.Test.YtjhffaikodnalaaGreatTk
import Derived.Test.YtjhffaikodnalaaGreatK42
import Derived.Test.YtjhffaikodnalaaGreatK43
set_option maxHeartbeats 25600000
set_option maxRecDepth 100000
namespace Go.Proofs.YtjhffaikodnalaaGreat.Nm.Ty
open Go.RowKit Go.Maps Sp Lx Gr
def RfO (fe:Int) (e:Ending):Prop:=∃ b:Bool,e=.returned (.bool b)/\fe=if b=true then 0 else 45
theorem rfits_any {P:Pg} {ao qo vo tto uo oo co:Option Addr} {ac qc vc tc uc oc nc cc:Nat} {size:Int} {cs:Nat->Int} {w:World} (hq:IsVals w qo (qF P.qs)) (hc:IsVals w co (fL nc (fun i=>.int .i64 (cs i)))) (hql:P.qs.length<=5864062014634) (hcl:nc<=17592186043904):
  Calls Tryz.prog 42 #[.agg #[.string P.name,.slice ao P.rows.length ac,.slice qo P.qs.length qc,.slice vo P.vs.length vc,.slice tto P.ts.length tc,.slice uo P.us.length uc,.slice oo P.on.length oc,.int .i64 P.miss],.agg #[.int .i64 size,.slice co nc cc]] w fun e w'=>RfO (fitE (ghL P.qs) P.qs.length size cs nc) e/\Below w.heap.size w w':=by
 have HQ:=show Hid _ from hq
 have HC:=show Hid _ from hc
 have hql':(P.qs.length:Int)<=5864062014634:=by omega
 have hcl':(nc:Int)<=17592186043904:=by omega
 have H0:Hid (Below w.heap.size w ((w.alloc (.cells #[.string P.name,.slice ao P.rows.length ac,.slice qo P.qs.length qc,.slice vo P.vs.length vc,.slice tto P.ts.length tc,.slice uo P.us.length uc,.slice oo P.on.length oc,.int .i64 P.miss] 27)).alloc (.cells #[.int .i64 size,.slice co nc cc] 39))/\((w.alloc (.cells #[.string P.name,.slice ao P.rows.length ac,.slice qo P.qs.length qc,.slice vo P.vs.length vc,.slice tto P.ts.length tc,.slice uo P.us.length uc,.slice oo P.on.length oc,.int .i64 P.miss] 27)).alloc (.cells #[.int .i64 size,.slice co nc cc] 39)).heap[w.heap.size]?=some (.cells #[.string P.name,.slice ao P.rows.length ac,.slice qo P.qs.length qc,.slice vo P.vs.length vc,.slice tto P.ts.length tc,.slice uo P.us.length uc,.slice oo P.on.length oc,.int .i64 P.miss] 27 (0,0))/\((w.alloc (.cells #[.string P.name,.slice ao P.rows.length ac,.slice qo P.qs.length qc,.slice vo P.vs.length vc,.slice tto P.ts.length tc,.slice uo P.us.length uc,.slice oo P.on.length oc,.int .i64 P.miss] 27)).alloc (.cells #[.int .i64 size,.slice co nc cc] 39)).heap[w.heap.size+1]?=some (.cells #[.int .i64 size,.slice co nc cc] 39 (0,0))):=
  ⟨((Below.refl _ w).alloc (Nat.le_refl _) _).alloc (by simp) _,by rw [alloc_old _ _ _ (by simp)];exact alloc_at _ _ _ rfl,alloc_at _ _ _ (by simp)⟩
 clear hq hc
 obtain ⟨b0,b1⟩:=fcells2 H0.out.2.2
 obtain ⟨_,_,a2,_,_,_,_,_⟩:=pol8 H0.out.2.1
 by_cases hs1:size < 1
 ·have hs1':decide (size < 1)=true:=decide_eq_true hs1
  have HZ:Hid (fitE (ghL P.qs) P.qs.length size cs nc=45):=if_neg (fun h=>by have:=h.1;omega)
  clear HQ HC
  go_enter Tryz.func42,Tryz.ntmps42
  go_wp2_with fail
  go_ret
  exact ⟨⟨false,rfl,by rw [HZ.out];rfl⟩,H0.out.1⟩
 ·have hs1':decide (size < 1)=false:=decide_eq_false hs1
  by_cases hs2:1048576 < size
  ·have hs2':decide (1048576 < size)=true:=decide_eq_true hs2
   have HZ:Hid (fitE (ghL P.qs) P.qs.length size cs nc=45):=if_neg (fun h=>by have:=h.2.1;omega)
   clear HQ HC
   go_enter Tryz.func42,Tryz.ntmps42
   go_wp2_with fail
   go_ret
   exact ⟨⟨false,rfl,by rw [HZ.out];rfl⟩,H0.out.1⟩
  ·have hs2':decide (1048576 < size)=false:=decide_eq_false hs2
   by_cases hs3:nc=P.qs.length
   ·have hs3':((nc:Int) != (P.qs.length:Int))=false:=by simp [hs3]
    have HE:Hid (nc=P.qs.length):=hs3
    have hsz:size<=1048576:=by omega
    have hsz0:1<=size:=by omega
    clear hs3
    go_enter Tryz.func42,Tryz.ntmps42
    go_wp2_with fail
    generalize hW0:((w.alloc (.cells #[.string P.name,.slice ao P.rows.length ac,.slice qo P.qs.length qc,.slice vo P.vs.length vc,.slice tto P.ts.length tc,.slice uo P.us.length uc,.slice oo P.on.length oc,.int .i64 P.miss] 27)).alloc (.cells #[.int .i64 size,.slice co nc cc] 39))=W0 at *
    clear hW0
    go_loopg [5,6,7] nc (fun gq a b x wr=>∃ k:Nat,k<=nc/\gq=nc - k/\a=.int .i64 (resS (ghL P.qs) cs k)/\b=.int .i64 (ghoS (ghL P.qs) cs k)/\x=.int .i64 k/\(∀ j,j < k->okC (ghL P.qs) size cs j)/\wr=W0)
    case atStart=>exact ⟨0,Nat.zero_le _,rfl,rfl,rfl,by go_num,fun j hj=>by omega,rfl⟩
    case round=>
     obtain ⟨k,hk,hgk,rfl,rfl,rfl,hok,hw⟩:=hrel
     rw [hw]
     clear hw
     obtain ⟨e1,e2,e3⟩:=sums_le k hok
     have HOk:Hid (∀ j,j < k->okC (ghL P.qs) size cs j):=hok
     have HG:Hid (gk=nc - k):=hgk
     have hk2:(k:Int)<=5864062014634:=by have:=HE.out;omega
     have hr1:resS (ghL P.qs) cs k<=6148914691236517888:=by omega
     have hr2:ghoS (ghL P.qs) cs k<=6148914691236517888:=by omega
     have hr3:resS (ghL P.qs) cs k+ghoS (ghL P.qs) cs k<=6148914691236517888:=by omega
     have HSr:Hid (resS (ghL P.qs) cs (k+1)=if ghL P.qs k=true then resS (ghL P.qs) cs k else resS (ghL P.qs) cs k+cs k):=rfl
     have HSg:Hid (ghoS (ghL P.qs) cs (k+1)=if ghL P.qs k=true then ghoS (ghL P.qs) cs k+cs k else ghoS (ghL P.qs) cs k):=rfl
     clear hok hgk e3
     by_cases hlt:k < nc
     ·have hlt':(k:Int) < (nc:Int):=by omega
      obtain ⟨gc,oc',rfl,hgc,ck⟩:=HC.out k _ (fL_at hlt)
      have ck0:=(H0.out.1.cell (p:=⟨gc,oc'+k,none⟩) hgc).trans ck
      have hkq:k < P.qs.length:=by have:=HE.out;omega
      have hkq':(k:Int) < (P.qs.length:Int):=by omega
      obtain ⟨gq,oq,rfl,hgq,cq⟩:=HQ.out (k * 2+1) _ (qF_at hkq)
      have cq0:=(H0.out.1.cell (p:=⟨gq,oq+(k * 2+1),none⟩) hgq).trans cq
      rw [<-Nat.add_assoc] at cq0
      have HNo:Hid (¬ okC (ghL P.qs) size cs k->fitE (ghL P.qs) P.qs.length size cs nc=45):=fun h=>if_neg (fun h2=>h (h2.2.2.2.1 k hlt))
      have HOn:Hid (okC (ghL P.qs) size cs k->∀ j,j < k+1->okC (ghL P.qs) size cs j):=fun h j hj=>by
       by_cases e:j=k
       ·rw [e];exact h
       ·exact HOk.out j (by omega)
      have HOc:Hid (okC (ghL P.qs) size cs k ↔ (1<=cs k/\cs k<=1048576/\(ghL P.qs k=true\/cs k<=size))):=Iff.rfl
      clear ck cq HC HQ
      generalize okC (ghL P.qs) size cs k=okk at *
      generalize resS (ghL P.qs) cs k=rs at *
      generalize ghoS (ghL P.qs) cs k=gs at *
      generalize cs k=c at *
      by_cases hc1:c < 1
      ·have hc1':decide (c < 1)=true:=decide_eq_true hc1
       have HZ:Hid (fitE (ghL P.qs) P.qs.length size cs nc=45):=HNo.out (fun h=>by have:=(HOc.out.1 h).1;omega)
       go_wp2_with fail
       go_ret
       exact ⟨⟨false,rfl,by rw [HZ.out];rfl⟩,H0.out.1⟩
      ·have hc1':decide (c < 1)=false:=decide_eq_false hc1
       by_cases hc2:1048576 < c
       ·have hc2':decide (1048576 < c)=true:=decide_eq_true hc2
        have HZ:Hid (fitE (ghL P.qs) P.qs.length size cs nc=45):=HNo.out (fun h=>by have:=(HOc.out.1 h).2.1;omega)
        go_wp2_with fail
        go_ret
        exact ⟨⟨false,rfl,by rw [HZ.out];rfl⟩,H0.out.1⟩
       ·have hc2':decide (1048576 < c)=false:=decide_eq_false hc2
        cases hgh:ghL P.qs k with
        | true=>
         rw [hgh] at cq0
         have HOo:=show Hid _ from HOn.out (HOc.out.2 ⟨by omega,by omega,Or.inl hgh⟩)
         have HS1:Hid (resS (ghL P.qs) cs (k+1)=rs/\ghoS (ghL P.qs) cs (k+1)=gs+c):=⟨by rw [HSr.out,if_pos hgh],by rw [HSg.out,if_pos hgh]⟩
         have hw2:IntKind.i64.wrap (gs+c)=gs+c:=by rw [IntKind.wrap_i64];omega
         clear hgh
         go_wp2_with fail
         go_roundg (nc - (k+1))
         case measure=>have:=HG.out;omega
         case rel=>exact ⟨k+1,by omega,rfl,by rw [HS1.out.1],by rw [HS1.out.2],by go_num,HOo.out,rfl⟩
        | false=>
         rw [hgh] at cq0
         by_cases hc3:size < c
         ·have hc3':decide (size < c)=true:=decide_eq_true hc3
          have HZ:Hid (fitE (ghL P.qs) P.qs.length size cs nc=45):=HNo.out (fun h=>by have:=(HOc.out.1 h).2.2;rw [hgh] at this;exact this.elim nofun (fun h=>by omega))
          clear hgh
          go_wp2_with fail
          go_ret
          exact ⟨⟨false,rfl,by rw [HZ.out];rfl⟩,H0.out.1⟩
         ·have hc3':decide (size < c)=false:=decide_eq_false hc3
          have HOo:=show Hid _ from HOn.out (HOc.out.2 ⟨by omega,by omega,Or.inr (by omega)⟩)
          have HS1:Hid (resS (ghL P.qs) cs (k+1)=rs+c/\ghoS (ghL P.qs) cs (k+1)=gs):=⟨by rw [HSr.out,if_neg (by simp [hgh])],by rw [HSg.out,if_neg (by simp [hgh])]⟩
          have hw2:IntKind.i64.wrap (rs+c)=rs+c:=by rw [IntKind.wrap_i64];omega
          clear hgh
          go_wp2_with fail
          go_roundg (nc - (k+1))
          case measure=>have:=HG.out;omega
          case rel=>exact ⟨k+1,by omega,rfl,by rw [HS1.out.1],by rw [HS1.out.2],by go_num,HOo.out,rfl⟩
     ·have hlt':¬ (k:Int) < (nc:Int):=by omega
      have hke:k=nc:=by omega
      have HFt:Hid (fitE (ghL P.qs) P.qs.length size cs nc=if min (resS (ghL P.qs) cs k) size+ghoS (ghL P.qs) cs k<=4194304 then 0 else 45):=by
       show (if fitZ _ _ _ _ _ then (0:Int) else 45)=_
       have:fitZ (ghL P.qs) P.qs.length size cs nc ↔ min (resS (ghL P.qs) cs k) size+ghoS (ghL P.qs) cs k<=4194304:=by
        rw [hke,Int.min_comm]
        exact ⟨fun h=>h.2.2.2.2,fun h=>⟨hsz0,hsz,HE.out,fun j hj=>HOk.out j (by omega),h⟩⟩
       by_cases h:min (resS (ghL P.qs) cs k) size+ghoS (ghL P.qs) cs k<=4194304
       ·rw [if_pos h,if_pos (this.2 h)]
       ·rw [if_neg h,if_neg (fun h2=>h (this.1 h2))]
      clear hke HSr HSg HQ HC
      generalize resS (ghL P.qs) cs k=rs at *
      generalize ghoS (ghL P.qs) cs k=gs at *
      have hmn:min rs size<=1048576:=by omega
      have hmn0:0<=min rs size:=by omega
      generalize hmz:min rs size=mz at *
      have hw2:IntKind.i64.wrap (mz+gs)=mz+gs:=by rw [IntKind.wrap_i64];omega
      by_cases h4:mz+gs<=4194304
      ·have h4':decide (mz+gs<=4194304)=true:=decide_eq_true h4
       have HZ:Hid (fitE (ghL P.qs) P.qs.length size cs nc=0):=by show _=_;rw [HFt.out,if_pos h4]
       go_wp2_with fail
       go_ret
       exact ⟨⟨true,by simp,by rw [HZ.out];rfl⟩,H0.out.1⟩
      ·have h4':decide (mz+gs<=4194304)=false:=decide_eq_false h4
       have HZ:Hid (fitE (ghL P.qs) P.qs.length size cs nc=45):=by show _=_;rw [HFt.out,if_neg h4]
       go_wp2_with fail
       go_ret
       exact ⟨⟨false,by simp,by rw [HZ.out];rfl⟩,H0.out.1⟩
   ·have hs3':((nc:Int) != (P.qs.length:Int))=true:=by simp;omega
    have HZ:Hid (fitE (ghL P.qs) P.qs.length size cs nc=45):=if_neg (fun h=>hs3 h.2.2.1)
    clear HQ HC
    go_enter Tryz.func42,Tryz.ntmps42
    go_wp2_with fail
    go_ret
    exact ⟨⟨false,rfl,by rw [HZ.out];rfl⟩,H0.out.1⟩
theorem rfit_any {P:Pg} {ao qo vo tto uo oo co:Option Addr} {ac qc vc tc uc oc nc cc:Nat} {size:Int} {cs:Nat->Int} {w:World} (h:RdG w P ao qo vo tto uo oo) (hs:P.Sm) (hkd:∀ r ∈ P.rows,r.kids<=9223372036854775807/\r.name.size<=4611686018427387000) (hc:IsVals w co (fL nc (fun i=>.int .i64 (cs i)))) (hcl:nc<=17592186043904):
  Calls Tryz.prog 18 #[pvG P ao qo vo tto uo oo ac qc vc tc uc oc,.agg #[.int .i64 size,.slice co nc cc]] w fun e w'=>Below w.heap.size w w'/\((¬ IsOk P/\e=.returned (.agg #[.int .i64 23,.int .i64 0]))\/(IsOk P/\e=.returned (.agg #[.int .i64 (fitE (ghL P.qs) P.qs.length size cs nc),.int .i64 0]))):=by
 have H1:Hid (Fq w (((w.alloc (.cells #[.string P.name,.slice ao P.rows.length ac,.slice qo P.qs.length qc,.slice vo P.vs.length vc,.slice tto P.ts.length tc,.slice uo P.us.length uc,.slice oo P.on.length oc,.int .i64 P.miss] 27)).alloc (.cells #[.int .i64 size,.slice co nc cc] 39)).alloc (.cells #[.int .i64 0,.int .i64 0] 32)) #[.string P.name,.slice ao P.rows.length ac,.slice qo P.qs.length qc,.slice vo P.vs.length vc,.slice tto P.ts.length tc,.slice uo P.us.length uc,.slice oo P.on.length oc,.int .i64 P.miss] #[.int .i64 size,.slice co nc cc]):=fq_start w _ _
 have HG:=show Hid _ from h
 have HC:Hid (IsVals w co (fL nc (fun i=>.int .i64 (cs i)))):=hc
 have HCl:Hid (nc<=17592186043904/\P.qs.length<=5864062014634):=⟨hcl,hs.q⟩
 have HCk:=show Hid _ from rcheck_any (ac:=ac) (qc:=qc) (vc:=vc) (tc:=tc) (uc:=uc) (oc:=oc) (h.below H1.out.be) hs hkd
 obtain ⟨k0,k1,k2,k3,k4,k5,k6,k7⟩:=pol8 H1.out.p
 dsimp only [pvG] at *
 clear h hs hkd hc hcl
 go_enter Tryz.func18,Tryz.ntmps18
 go_wp2_with fail
 generalize (((w.alloc (.cells #[.string P.name,.slice ao P.rows.length ac,.slice qo P.qs.length qc,.slice vo P.vs.length vc,.slice tto P.ts.length tc,.slice uo P.us.length uc,.slice oo P.on.length oc,.int .i64 P.miss] 27)).alloc (.cells #[.int .i64 size,.slice co nc cc] 39)).alloc (.cells #[.int .i64 0,.int .i64 0] 32))=w1 at *
 refine Calls.mono HCk.out ?_
 rintro e w2 ⟨hck,hb2⟩
 have H2:=show Hid _ from H1.out.below hb2
 clear H1 hb2 HCk k0 k1 k2 k3 k4 k5 k6 k7
 obtain ⟨f0,f1⟩:=cells2 H2.out.f
 have hf:∀ j,w2.frozen? ⟨w.heap.size+1+1,j,none⟩=false:=fun j=>by have:=H2.out.f;simp only [World.frozen?,this];rfl
 rcases hck with ⟨p',hp1,hp2,rfl⟩ | ⟨hno,rfl⟩
 ·have HIs:Hid (IsOk P):=⟨p',hp1,hp2⟩
  have HFi:=show Hid _ from rfits_any (ao:=ao) (vo:=vo) (tto:=tto) (uo:=uo) (oo:=oo) (ac:=ac) (qc:=qc) (vc:=vc) (tc:=tc) (uc:=uc) (oc:=oc) (cc:=cc) (size:=size) (HG.out.below H2.out.be).q (HC.out.below H2.out.be) HCl.out.2 HCl.out.1
  obtain ⟨k0,k1,k2,k3,k4,k5,k6,k7⟩:=pol8 H2.out.p
  obtain ⟨d0,d1⟩:=cells2 H2.out.c
  clear hp1 hp2 p'
  go_wp2_with fail
  refine Calls.mono HFi.out ?_
  rintro e w3 ⟨⟨b,rfl,hbe⟩,hb3⟩
  have H3:=show Hid _ from H2.out.below hb3
  have HBe:=show Hid _ from hbe
  clear hb3 hbe HFi H2 k0 k1 k2 k3 k4 k5 k6 k7 d0 d1 f0 f1 hf
  obtain ⟨f0,f1⟩:=cells2 H3.out.f
  have hf:∀ j,w3.frozen? ⟨w.heap.size+1+1,j,none⟩=false:=fun j=>by have:=H3.out.f;simp only [World.frozen?,this];rfl
  cases b with
  | true=>
   go_wp2_with fail
   obtain ⟨c1,c2,c3⟩:=put2M (B:=w.heap.size+1+1) (v0:=.int .i64 0) (v1:=.int .i64 0) H3.out.be (by omega) H3.out.f
   obtain ⟨y0,y1⟩:=cells2 c1
   refine bodyPost_ret (v:=.agg #[.int .i64 0,.int .i64 0]) (by simp [results,Tryz.results18,go_sem,y0,y1]) rfl ?_
   exact ⟨c2,Or.inr ⟨HIs.out,by rw [HBe.out];rfl⟩⟩
  | false=>
   go_wp2_with fail
   obtain ⟨c1,c2,c3⟩:=put2M (B:=w.heap.size+1+1) (v0:=.int .i64 45) (v1:=.int .i64 0) H3.out.be (by omega) H3.out.f
   obtain ⟨y0,y1⟩:=cells2 c1
   refine bodyPost_ret (v:=.agg #[.int .i64 45,.int .i64 0]) (by simp [results,Tryz.results18,go_sem,y0,y1]) rfl ?_
   exact ⟨c2,Or.inr ⟨HIs.out,by rw [HBe.out];rfl⟩⟩
 ·have HNo:Hid (¬ IsOk P):=hno
  clear hno
  go_wp2_with fail
  obtain ⟨c1,c2,c3⟩:=put2M (B:=w.heap.size+1+1) (v0:=.int .i64 23) (v1:=.int .i64 0) H2.out.be (by omega) H2.out.f
  obtain ⟨y0,y1⟩:=cells2 c1
  refine bodyPost_ret (v:=.agg #[.int .i64 23,.int .i64 0]) (by simp [results,Tryz.results18,go_sem,y0,y1]) rfl ?_
  exact ⟨c2,Or.inl ⟨HNo.out,rfl⟩⟩
end Go.Proofs.YtjhffaikodnalaaGreat.Nm.Ty
namespace Go.Proofs.YtjhffaikodnalaaGreat.Nm.Ty
open Go.RowKit Go.Maps Sp Lx Gr Nm
theorem lendC17 {w:World} {co:Option Addr} {l:List Int} {size:Int} {cc:Nat} (h:IsVals w co (iv l)) (hn:l.length<=17592186043904):
  Calls Tryz.prog 15 #[.agg #[.int .i64 size,.slice co l.length cc]] w fun e w'=>∃ g,e=.returned (.agg #[.int .i64 size,.slice (some ⟨g,0,none⟩) l.length (l.length+5)])/\w.heap.size<=g/\RowJ w' g (fillI l 5)/\Below w.heap.size w w':=by
 have hb0:Below w.heap.size w ((w.alloc (.cells #[.int .i64 size,.slice co l.length cc] 39)).alloc (.cells #[.int .i64 0,pz] 39)):=((Below.refl _ w).alloc (Nat.le_refl _) _).alloc (by simp) _
 have HP:Hid (((w.alloc (.cells #[.int .i64 size,.slice co l.length cc] 39)).alloc (.cells #[.int .i64 0,pz] 39)).heap[w.heap.size]?=some (.cells #[.int .i64 size,.slice co l.length cc] 39 (0,0))/\((w.alloc (.cells #[.int .i64 size,.slice co l.length cc] 39)).alloc (.cells #[.int .i64 0,pz] 39)).heap[w.heap.size+1]?=some (.cells #[.int .i64 0,pz] 39 (0,0))/\Below w.heap.size w ((w.alloc (.cells #[.int .i64 size,.slice co l.length cc] 39)).alloc (.cells #[.int .i64 0,pz] 39))):=⟨by rw [alloc_old _ _ _ (by simp)];exact alloc_at _ _ _ rfl,alloc_at _ _ _ (by simp),hb0⟩
 have HD:Hid (IsVals w co (iv l)/\l.length<=17592186043904):=⟨h,hn⟩
 clear h hn hb0
 go_enter Tryz.func15,Tryz.ntmps15
 go_wp2_with fail
 generalize ((w.alloc (.cells #[.int .i64 size,.slice co l.length cc] 39)).alloc (.cells #[.int .i64 0,pz] 39))=w2 at *
 have hS0:w2.drew.cell? ⟨w.heap.size,0,none⟩=some (.int .i64 size)/\w2.drew.cell? ⟨w.heap.size,1,none⟩=some (.slice co l.length cc):=by
  have hd:w2.drew.heap[w.heap.size]?=_:=HP.out.1
  exact ⟨by simp [World.cell?,hd],by simp [World.cell?,hd]⟩
 refine wp_region_held (S:=(fun w':World=>w'.cell? ⟨w.heap.size,0,none⟩=some (.int .i64 size)/\w'.cell? ⟨w.heap.size,1,none⟩=some (.slice co l.length cc))) (by kernel_rfl) ?_
 have hS:(fun w':World=>w'.cell? ⟨w.heap.size,0,none⟩=some (.int .i64 size)/\w'.cell? ⟨w.heap.size,1,none⟩=some (.slice co l.length cc)) w2.drew:=hS0
 change wpAnyH _ _ _ _ _ _ _ _ w2.drew
 refine tk (i:=0) (v:=?av0) rfl (Or.inl ⟨by rfl,?ay0⟩) hS ?ar0
 case ay0=>intro w hSw;(try dsimp only at hSw);obtain ⟨e0,e1⟩:=hSw;first | (go_simp;done) | (go_simp;with_reducible rfl)
 refine tk (i:=1) (v:=?av1) rfl (Or.inl ⟨by rfl,?ay1⟩) hS ?ar1
 case ay1=>intro w hSw;(try dsimp only at hSw);obtain ⟨e0,e1⟩:=hSw;first | (go_simp;done) | (go_simp;with_reducible rfl)
 refine tk (i:=2) (v:=?av2) rfl (Or.inl ⟨by rfl,?ay2⟩) hS ?ar2
 case ay2=>intro w hSw;(try dsimp only at hSw);obtain ⟨e0,e1⟩:=hSw;first | (go_simp;done) | (go_simp;with_reducible rfl)
 refine tk (i:=3) (v:=?av3) rfl (Or.inl ⟨by rfl,?ay3⟩) hS ?ar3
 case ay3=>intro w hSw;(try dsimp only at hSw);obtain ⟨e0,e1⟩:=hSw;first | (go_simp;done) | (go_simp;with_reducible rfl)
 have HP3:Hid (w2.drew.heap[w.heap.size]?=some (.cells #[.int .i64 size,.slice co l.length cc] 39 (0,0))/\w2.drew.heap[w.heap.size+1]?=some (.cells #[.int .i64 0,pz] 39 (0,0))/\Below w.heap.size w w2.drew):=⟨HP.out.1,HP.out.2.1,HP.out.2.2.drew⟩
 have HP0:Hid (w.heap.size+1 < w2.drew.heap.size/\w.heap.size < w2.drew.heap.size):=⟨blk_lt HP3.out.2.1,blk_lt HP3.out.1⟩
 clear HP
 generalize w2.drew=x0 at *
 refine rd1 4 (by kernel_rfl) rfl fun K hK=>?_
 go_simp
 refine Calls.mono (lend17 (HD.out.1.below HP3.out.2.2) HD.out.2) ?_
 rintro e w4 ⟨rfl,hR4,hb4⟩
 have hr4:w4.heap[w.heap.size+1]?=some (.cells #[.int .i64 0,pz] 39 (0,0)):=(hb4.block _ HP0.out.1).trans HP3.out.2.1
 have h5:=set_at hr4 (.int .i64 size) (cs':=#[.int .i64 size,pz]) (i:=0) rfl
 have h6:=set_at h5 (.slice (some ⟨x0.heap.size,0,none⟩) l.length (l.length+5)) (cs':=#[.int .i64 size,.slice (some ⟨x0.heap.size,0,none⟩) l.length (l.length+5)]) (i:=1) rfl
 have hne:∀ k,k ≠ w.heap.size+1->((w4.setCell ⟨w.heap.size+1,0,none⟩ (.int .i64 size)).setCell ⟨w.heap.size+1,1,none⟩ (.slice (some ⟨x0.heap.size,0,none⟩) l.length (l.length+5))).heap[k]?=w4.heap[k]?:=fun k hk=>(Below.heap_setCell _ _ _ k (fun e=>hk e)).trans (Below.heap_setCell _ _ _ k (fun e=>hk e))
 have hS4:w4.cell? ⟨w.heap.size,0,none⟩=some (.int .i64 size)/\w4.cell? ⟨w.heap.size,1,none⟩=some (.slice co l.length cc):=⟨(hb4.cell (p:=⟨w.heap.size,0,none⟩) HP0.out.2).trans hS0.1,(hb4.cell (p:=⟨w.heap.size,1,none⟩) HP0.out.2).trans hS0.2⟩
 have hf0:w4.frozen? ⟨w.heap.size+1,0,none⟩=false/\w4.cell? ⟨w.heap.size+1,0,none⟩=some (.int .i64 0)/\w4.cell? ⟨w.heap.size+1,1,none⟩=some pz/\w4.frozen? ⟨w.heap.size+1,1,none⟩=false:=⟨by simp [World.frozen?,hr4],by simp [World.cell?,hr4],by simp [World.cell?,hr4],by simp [World.frozen?,hr4]⟩
 obtain ⟨f0,f1,f2,f3⟩:=hf0
 have HE:Hid (RowJ ((w4.setCell ⟨w.heap.size+1,0,none⟩ (.int .i64 size)).setCell ⟨w.heap.size+1,1,none⟩ (.slice (some ⟨x0.heap.size,0,none⟩) l.length (l.length+5))) x0.heap.size (fillI l 5)/\Below w.heap.size w ((w4.setCell ⟨w.heap.size+1,0,none⟩ (.int .i64 size)).setCell ⟨w.heap.size+1,1,none⟩ (.slice (some ⟨x0.heap.size,0,none⟩) l.length (l.length+5)))):=⟨(hne _ (by have:=HP0.out.1;omega)).trans hR4,below_set (below_set (HP3.out.2.2.trans (hb4.mono HP3.out.2.2.size)) (by omega) 0 _) (by omega) 1 _⟩
 have hS6:((w4.setCell ⟨w.heap.size+1,0,none⟩ (.int .i64 size)).setCell ⟨w.heap.size+1,1,none⟩ (.slice (some ⟨x0.heap.size,0,none⟩) l.length (l.length+5))).cell? ⟨w.heap.size,0,none⟩=some (.int .i64 size)/\((w4.setCell ⟨w.heap.size+1,0,none⟩ (.int .i64 size)).setCell ⟨w.heap.size+1,1,none⟩ (.slice (some ⟨x0.heap.size,0,none⟩) l.length (l.length+5))).cell? ⟨w.heap.size,1,none⟩=some (.slice co l.length cc):=by
  simp only [World.cell?,hne w.heap.size (by omega)]
  exact hS4
 have HX:Hid (x0.heap.size ≥ w.heap.size):=HP3.out.2.2.size
 clear hR4 hb4 hne h5
 refine hK.out _ _ hS4 (fun hS=>?_)
 refine rd1 5 (by kernel_rfl) rfl fun K hK=>?_
 go_simp
 refine hK.out _ _ hS4 (fun hS=>?_)
 refine rd1 6 (by kernel_rfl) rfl fun K hK=>?_
 go_simp
 refine hK.out _ _ hS6 (fun hS=>?_)
 refine wpAnyH_done (by kernel_rfl) ?_ _
 clear f0 f1 f2 f3 hr4
 have k0:((w4.setCell ⟨w.heap.size+1,0,none⟩ (.int .i64 size)).setCell ⟨w.heap.size+1,1,none⟩ (.slice (some ⟨x0.heap.size,0,none⟩) l.length (l.length+5))).cell? ⟨w.heap.size+1,0,none⟩=some (.int .i64 size)/\((w4.setCell ⟨w.heap.size+1,0,none⟩ (.int .i64 size)).setCell ⟨w.heap.size+1,1,none⟩ (.slice (some ⟨x0.heap.size,0,none⟩) l.length (l.length+5))).cell? ⟨w.heap.size+1,1,none⟩=some (.slice (some ⟨x0.heap.size,0,none⟩) l.length (l.length+5)):=by
  simp [World.cell?,h6]
 obtain ⟨k1,k2⟩:=k0
 go_wp2_with fail
 refine bodyPost_ret (v:=.agg #[.int .i64 size,.slice (some ⟨x0.heap.size,0,none⟩) l.length (l.length+5)]) (by simp [results,Tryz.results15,go_sem,k1,k2]) rfl ?_
 exact ⟨_,rfl,HX.out,HE.out⟩
theorem Lm.sm {P:Pg} (h:Lm P):P.Sm:=⟨h.r,h.q,by have:=h.v;omega,by have:=h.t;omega,h.u,h.o⟩
theorem Lb8.lower {w:World} {b b':Nat} {p:Pg} {g gq gv gt gu go:Nat} (h:Lb8 w b p g gq gv gt gu go) (hb:b'<=b):Lb8 w b' p g gq gv gt gu go:=⟨h.r,h.q,h.v,h.t,h.u,h.o,by have:=h.n;omega,h.d⟩
structure Sg8 (W:World) (b2 b3 b5 b6 b7:Nat) (pc cc la lc fa:Array Value):Prop where
 p:W.heap[b2]?=some (.cells pc 27 (0,0))
 c:W.heap[b3]?=some (.cells cc 39 (0,0))
 l:W.heap[b5]?=some (.cells la 27 (0,0))
 k:W.heap[b6]?=some (.cells lc 39 (0,0))
 f:W.heap[b7]?=some (.cells fa 32 (0,0))
theorem Sg8.fr {W W':World} {b2 b3 b5 b6 b7:Nat} {pc cc la lc fa:Array Value} {F:List Nat} (h:Sg8 W b2 b3 b5 b6 b7 pc cc la lc fa) (hF:Fr F W W') (hn:b2 ∉ F/\b3 ∉ F/\b5 ∉ F/\b6 ∉ F/\b7 ∉ F):Sg8 W' b2 b3 b5 b6 b7 pc cc la lc fa:=
 ⟨(hF.block _ (blk_lt h.p) hn.1).trans h.p,(hF.block _ (blk_lt h.c) hn.2.1).trans h.c,(hF.block _ (blk_lt h.l) hn.2.2.1).trans h.l,(hF.block _ (blk_lt h.k) hn.2.2.2.1).trans h.k,(hF.block _ (blk_lt h.f) hn.2.2.2.2).trans h.f⟩
theorem Fr.bel {F:List Nat} {w W W':World} (h:Below w.heap.size w W) (hF:Fr F W W') (hn:∀ x ∈ F,w.heap.size<=x):Below w.heap.size w W':=
 h.trans ⟨hF.os,hF.tape,hF.output,hF.size,fun k hk=>hF.block k (by have:=h.size;omega) (fun hk2=>by have:=hn k hk2;omega)⟩
theorem fitsWalk (P:Pg) (ao qo vo tto uo oo:Option Addr) (ac qc vc tc uc oc:Nat) (csz:Int) (co:Option Addr) (ql:List Int) (cc:Nat) (w:World) (h:RdG w P ao qo vo tto uo oo) (hm:Lm P) (hnil:ao=none->ac=0) (hkd:∀ r ∈ P.rows,r.kids<=9223372036854775807/\r.name.size<=4611686018427387000) (hq:IsVals w co (iv ql)) (hql:ql.length<=17592186043904):
  Calls Tryz.prog 4 #[pvG P ao qo vo tto uo oo ac qc vc tc uc oc,.agg #[.int .i64 csz,.slice co ql.length cc]] w fun e w'=>e=.returned (.bool true)/\Below w.heap.size w w':=by
 dsimp only [pvG]
 have HD:=show Hid _ from h
 have HM:=show Hid _ from hm
 have HK:Hid ((ao=none->ac=0)/\(∀ r ∈ P.rows,r.kids<=9223372036854775807/\r.name.size<=4611686018427387000)):=⟨hnil,hkd⟩
 have HQ:Hid (IsVals w co (iv ql)/\ql.length<=17592186043904):=⟨hq,hql⟩
 have H1:Hid (((w.alloc (.cells #[.string P.name,.slice ao P.rows.length ac,.slice qo P.qs.length qc,.slice vo P.vs.length vc,.slice tto P.ts.length tc,.slice uo P.us.length uc,.slice oo P.on.length oc,.int .i64 P.miss] 27)).alloc (.cells #[.int .i64 csz,.slice co ql.length cc] 39)).heap[w.heap.size]?=some (.cells #[.string P.name,.slice ao P.rows.length ac,.slice qo P.qs.length qc,.slice vo P.vs.length vc,.slice tto P.ts.length tc,.slice uo P.us.length uc,.slice oo P.on.length oc,.int .i64 P.miss] 27 (0,0))/\((w.alloc (.cells #[.string P.name,.slice ao P.rows.length ac,.slice qo P.qs.length qc,.slice vo P.vs.length vc,.slice tto P.ts.length tc,.slice uo P.us.length uc,.slice oo P.on.length oc,.int .i64 P.miss] 27)).alloc (.cells #[.int .i64 csz,.slice co ql.length cc] 39)).heap[w.heap.size+1]?=some (.cells #[.int .i64 csz,.slice co ql.length cc] 39 (0,0))/\Below w.heap.size w ((w.alloc (.cells #[.string P.name,.slice ao P.rows.length ac,.slice qo P.qs.length qc,.slice vo P.vs.length vc,.slice tto P.ts.length tc,.slice uo P.us.length uc,.slice oo P.on.length oc,.int .i64 P.miss] 27)).alloc (.cells #[.int .i64 csz,.slice co ql.length cc] 39))):=⟨by rw [alloc_old _ _ _ (by simp)];exact alloc_at _ _ _ rfl,alloc_at _ _ _ (by simp),((Below.refl _ w).alloc (Nat.le_refl _) _).alloc (by simp) _⟩
 have HKn:=show Hid _ from known_any ((w.alloc (.cells #[.string P.name,.slice ao P.rows.length ac,.slice qo P.qs.length qc,.slice vo P.vs.length vc,.slice tto P.ts.length tc,.slice uo P.us.length uc,.slice oo P.on.length oc,.int .i64 P.miss] 27)).alloc (.cells #[.int .i64 csz,.slice co ql.length cc] 39))
 clear h hm hnil hkd hq hql
 go_enter Tryz.func4,Tryz.ntmps4
 go_wp2_with fail
 generalize ((w.alloc (.cells #[.string P.name,.slice ao P.rows.length ac,.slice qo P.qs.length qc,.slice vo P.vs.length vc,.slice tto P.ts.length tc,.slice uo P.us.length uc,.slice oo P.on.length oc,.int .i64 P.miss] 27)).alloc (.cells #[.int .i64 csz,.slice co ql.length cc] 39))=w1 at *
 refine Calls.mono HKn.out ?_
 rintro e w2 ⟨rfl,hb2⟩
 have H2:Hid (w2.heap[w.heap.size]?=some (.cells #[.string P.name,.slice ao P.rows.length ac,.slice qo P.qs.length qc,.slice vo P.vs.length vc,.slice tto P.ts.length tc,.slice uo P.us.length uc,.slice oo P.on.length oc,.int .i64 P.miss] 27 (0,0))/\w2.heap[w.heap.size+1]?=some (.cells #[.int .i64 csz,.slice co ql.length cc] 39 (0,0))/\Below w.heap.size w w2):=⟨(hb2.block _ (blk_lt H1.out.1)).trans H1.out.1,(hb2.block _ (blk_lt H1.out.2.1)).trans H1.out.2.1,H1.out.2.2.trans (hb2.mono H1.out.2.2.size)⟩
 clear hb2 HKn H1
 obtain ⟨a0,a1,a2,a3,a4,a5,a6,a7⟩:=zr8 H2.out.1
 have HLd:=show Hid _ from lend8 (ac:=ac) (qc:=qc) (vc:=vc) (tc:=tc) (uc:=uc) (oc:=oc) (HD.out.below H2.out.2.2) HM.out.r HM.out.q HM.out.v HM.out.t HM.out.u HM.out.o
 dsimp only [pvG,lent8] at HLd
 go_wp2_with fail
 refine Calls.mono HLd.out ?_
 rintro e w3 ⟨g,gq,gv,gt,gu,go,rfl,hL,hb3⟩
 have hLb:=lb_of hL
 have hb4:Below w3.heap.size w3 (w3.alloc (.cells #[.string P.name,.slice (some ⟨g,0,none⟩) P.rows.length (P.rows.length+9),.slice (some ⟨gq,0,none⟩) P.qs.length (P.qs.length+3),.slice (some ⟨gv,0,none⟩) P.vs.length (P.vs.length+3),.slice (some ⟨gt,0,none⟩) P.ts.length (P.ts.length+3),.slice (some ⟨gu,0,none⟩) P.us.length (P.us.length+5),.slice (some ⟨go,0,none⟩) P.on.length (P.on.length+5),.int .i64 P.miss] 27)):=(Below.refl _ w3).alloc (Nat.le_refl _) _
 have hb24:=hb3.trans (hb4.mono hb3.size)
 have H4:Hid ((w3.alloc (.cells #[.string P.name,.slice (some ⟨g,0,none⟩) P.rows.length (P.rows.length+9),.slice (some ⟨gq,0,none⟩) P.qs.length (P.qs.length+3),.slice (some ⟨gv,0,none⟩) P.vs.length (P.vs.length+3),.slice (some ⟨gt,0,none⟩) P.ts.length (P.ts.length+3),.slice (some ⟨gu,0,none⟩) P.us.length (P.us.length+5),.slice (some ⟨go,0,none⟩) P.on.length (P.on.length+5),.int .i64 P.miss] 27)).heap[w.heap.size]?=some (.cells #[.string P.name,.slice ao P.rows.length ac,.slice qo P.qs.length qc,.slice vo P.vs.length vc,.slice tto P.ts.length tc,.slice uo P.us.length uc,.slice oo P.on.length oc,.int .i64 P.miss] 27 (0,0))/\(w3.alloc (.cells #[.string P.name,.slice (some ⟨g,0,none⟩) P.rows.length (P.rows.length+9),.slice (some ⟨gq,0,none⟩) P.qs.length (P.qs.length+3),.slice (some ⟨gv,0,none⟩) P.vs.length (P.vs.length+3),.slice (some ⟨gt,0,none⟩) P.ts.length (P.ts.length+3),.slice (some ⟨gu,0,none⟩) P.us.length (P.us.length+5),.slice (some ⟨go,0,none⟩) P.on.length (P.on.length+5),.int .i64 P.miss] 27)).heap[w.heap.size+1]?=some (.cells #[.int .i64 csz,.slice co ql.length cc] 39 (0,0))/\(w3.alloc (.cells #[.string P.name,.slice (some ⟨g,0,none⟩) P.rows.length (P.rows.length+9),.slice (some ⟨gq,0,none⟩) P.qs.length (P.qs.length+3),.slice (some ⟨gv,0,none⟩) P.vs.length (P.vs.length+3),.slice (some ⟨gt,0,none⟩) P.ts.length (P.ts.length+3),.slice (some ⟨gu,0,none⟩) P.us.length (P.us.length+5),.slice (some ⟨go,0,none⟩) P.on.length (P.on.length+5),.int .i64 P.miss] 27)).heap[w3.heap.size]?=some (.cells #[.string P.name,.slice (some ⟨g,0,none⟩) P.rows.length (P.rows.length+9),.slice (some ⟨gq,0,none⟩) P.qs.length (P.qs.length+3),.slice (some ⟨gv,0,none⟩) P.vs.length (P.vs.length+3),.slice (some ⟨gt,0,none⟩) P.ts.length (P.ts.length+3),.slice (some ⟨gu,0,none⟩) P.us.length (P.us.length+5),.slice (some ⟨go,0,none⟩) P.on.length (P.on.length+5),.int .i64 P.miss] 27 (0,0))/\Below w.heap.size w (w3.alloc (.cells #[.string P.name,.slice (some ⟨g,0,none⟩) P.rows.length (P.rows.length+9),.slice (some ⟨gq,0,none⟩) P.qs.length (P.qs.length+3),.slice (some ⟨gv,0,none⟩) P.vs.length (P.vs.length+3),.slice (some ⟨gt,0,none⟩) P.ts.length (P.ts.length+3),.slice (some ⟨gu,0,none⟩) P.us.length (P.us.length+5),.slice (some ⟨go,0,none⟩) P.on.length (P.on.length+5),.int .i64 P.miss] 27))/\Lb8 (w3.alloc (.cells #[.string P.name,.slice (some ⟨g,0,none⟩) P.rows.length (P.rows.length+9),.slice (some ⟨gq,0,none⟩) P.qs.length (P.qs.length+3),.slice (some ⟨gv,0,none⟩) P.vs.length (P.vs.length+3),.slice (some ⟨gt,0,none⟩) P.ts.length (P.ts.length+3),.slice (some ⟨gu,0,none⟩) P.us.length (P.us.length+5),.slice (some ⟨go,0,none⟩) P.on.length (P.on.length+5),.int .i64 P.miss] 27)) w2.heap.size P g gq gv gt gu go):=⟨(hb24.block _ (blk_lt H2.out.1)).trans H2.out.1,(hb24.block _ (blk_lt H2.out.2.1)).trans H2.out.2.1,heap_alloc_new w3 _,H2.out.2.2.trans (hb24.mono H2.out.2.2.size),hLb.below hb4⟩
 have HSz:Hid (w.heap.size+1 < w2.heap.size/\(g < w3.heap.size/\gq < w3.heap.size/\gv < w3.heap.size/\gt < w3.heap.size/\gu < w3.heap.size/\go < w3.heap.size)/\(w2.heap.size<=g/\w2.heap.size<=gq/\w2.heap.size<=gv/\w2.heap.size<=gt/\w2.heap.size<=gu/\w2.heap.size<=go)):=⟨blk_lt H2.out.2.1,⟨hLb.r.lt,blk_lt hLb.q,blk_lt hLb.v,blk_lt hLb.t,hLb.u.lt,hLb.o.lt⟩,hLb.n⟩
 clear a0 a1 a2 a3 a4 a5 a6 a7 hL hLb hb3 hb4 hb24 HLd
 obtain ⟨c0,c1⟩:=fcells2 H4.out.2.1
 have HLc:=show Hid _ from lendC17 (size:=csz) (cc:=cc) (HQ.out.1.below H4.out.2.2.2.1) HQ.out.2
 go_wp2_with fail
 generalize w3.alloc (.cells #[.string P.name,.slice (some ⟨g,0,none⟩) P.rows.length (P.rows.length+9),.slice (some ⟨gq,0,none⟩) P.qs.length (P.qs.length+3),.slice (some ⟨gv,0,none⟩) P.vs.length (P.vs.length+3),.slice (some ⟨gt,0,none⟩) P.ts.length (P.ts.length+3),.slice (some ⟨gu,0,none⟩) P.us.length (P.us.length+5),.slice (some ⟨go,0,none⟩) P.on.length (P.on.length+5),.int .i64 P.miss] 27)=w4 at *
 refine Calls.mono HLc.out ?_
 rintro e w5 ⟨gc,rfl,hgc,hRc,hb5⟩
 have hb6:Below w5.heap.size w5 (w5.alloc (.cells #[.int .i64 csz,.slice (some ⟨gc,0,none⟩) ql.length (ql.length+5)] 39)):=(Below.refl _ w5).alloc (Nat.le_refl _) _
 have hb46:=hb5.trans (hb6.mono hb5.size)
 have H6:Hid ((w5.alloc (.cells #[.int .i64 csz,.slice (some ⟨gc,0,none⟩) ql.length (ql.length+5)] 39)).heap[w.heap.size]?=some (.cells #[.string P.name,.slice ao P.rows.length ac,.slice qo P.qs.length qc,.slice vo P.vs.length vc,.slice tto P.ts.length tc,.slice uo P.us.length uc,.slice oo P.on.length oc,.int .i64 P.miss] 27 (0,0))/\(w5.alloc (.cells #[.int .i64 csz,.slice (some ⟨gc,0,none⟩) ql.length (ql.length+5)] 39)).heap[w.heap.size+1]?=some (.cells #[.int .i64 csz,.slice co ql.length cc] 39 (0,0))/\(w5.alloc (.cells #[.int .i64 csz,.slice (some ⟨gc,0,none⟩) ql.length (ql.length+5)] 39)).heap[w3.heap.size]?=some (.cells #[.string P.name,.slice (some ⟨g,0,none⟩) P.rows.length (P.rows.length+9),.slice (some ⟨gq,0,none⟩) P.qs.length (P.qs.length+3),.slice (some ⟨gv,0,none⟩) P.vs.length (P.vs.length+3),.slice (some ⟨gt,0,none⟩) P.ts.length (P.ts.length+3),.slice (some ⟨gu,0,none⟩) P.us.length (P.us.length+5),.slice (some ⟨go,0,none⟩) P.on.length (P.on.length+5),.int .i64 P.miss] 27 (0,0))/\(w5.alloc (.cells #[.int .i64 csz,.slice (some ⟨gc,0,none⟩) ql.length (ql.length+5)] 39)).heap[w5.heap.size]?=some (.cells #[.int .i64 csz,.slice (some ⟨gc,0,none⟩) ql.length (ql.length+5)] 39 (0,0))/\Below w.heap.size w (w5.alloc (.cells #[.int .i64 csz,.slice (some ⟨gc,0,none⟩) ql.length (ql.length+5)] 39))/\Lb8 (w5.alloc (.cells #[.int .i64 csz,.slice (some ⟨gc,0,none⟩) ql.length (ql.length+5)] 39)) w2.heap.size P g gq gv gt gu go/\RowJ (w5.alloc (.cells #[.int .i64 csz,.slice (some ⟨gc,0,none⟩) ql.length (ql.length+5)] 39)) gc (fillI ql 5)):=⟨(hb46.block _ (blk_lt H4.out.1)).trans H4.out.1,(hb46.block _ (blk_lt H4.out.2.1)).trans H4.out.2.1,(hb46.block _ (blk_lt H4.out.2.2.1)).trans H4.out.2.2.1,heap_alloc_new w5 _,H4.out.2.2.2.1.trans (hb46.mono H4.out.2.2.2.1.size),H4.out.2.2.2.2.below hb46,hRc.below hb6 hRc.lt⟩
 have HGc:Hid (w3.heap.size < gc/\gc < w5.heap.size):=⟨by have:=blk_lt H4.out.2.2.1;omega,hRc.lt⟩
 clear c0 c1 hgc hRc hb5 hb6 hb46 HLc H4
 obtain ⟨a0,a1,a2,a3,a4,a5,a6,a7⟩:=zr8 H6.out.2.2.1
 obtain ⟨c0,c1⟩:=fcells2 H6.out.2.2.2.1
 have hcv:=RowJ.vals (q:=ql) H6.out.2.2.2.2.2.2
 rw [iv_fL] at hcv
 have HFt:=show Hid _ from fit_any (ac:=P.rows.length+9) (qc:=P.qs.length+3) (vc:=P.vs.length+3) (tc:=P.ts.length+3) (uc:=P.us.length+5) (oc:=P.on.length+5) (cc:=ql.length+5) (size:=csz) H6.out.2.2.2.2.2.1.rd HM.out.sm nofun hcv HQ.out.2
 dsimp only [pvG] at HFt
 clear hcv
 go_wp2_with fail
 generalize w5.alloc (.cells #[.int .i64 csz,.slice (some ⟨gc,0,none⟩) ql.length (ql.length+5)] 39)=w6 at *
 refine Calls.mono HFt.out ?_
 rintro e w7 ⟨hb7,hcase⟩
 obtain ⟨fe,rfl,hfe⟩:∃ fe:Int,e=.returned (.agg #[.int .i64 fe,.int .i64 0])/\((¬ IsOk P/\fe=23)\/(IsOk P/\fe=fitE (ghL P.qs) P.qs.length csz (fun i=>ql.getD i 0) ql.length)):=by
  rcases hcase with ⟨h1,h2⟩ | ⟨h1,h2⟩
  ·exact ⟨_,h2,Or.inl ⟨h1,rfl⟩⟩
  ·exact ⟨_,h2,Or.inr ⟨h1,rfl⟩⟩
 have HFe:=show Hid _ from hfe
 have hb8:Below w7.heap.size w7 (w7.alloc (.cells #[.int .i64 fe,.int .i64 0] 32)).drew:=((Below.refl _ w7).alloc (Nat.le_refl _) _).drew
 have hb68:=hb7.trans (hb8.mono hb7.size)
 have HSg:Hid (Sg8 (w7.alloc (.cells #[.int .i64 fe,.int .i64 0] 32)).drew w.heap.size (w.heap.size+1) w3.heap.size w5.heap.size w7.heap.size #[.string P.name,.slice ao P.rows.length ac,.slice qo P.qs.length qc,.slice vo P.vs.length vc,.slice tto P.ts.length tc,.slice uo P.us.length uc,.slice oo P.on.length oc,.int .i64 P.miss] #[.int .i64 csz,.slice co ql.length cc] #[.string P.name,.slice (some ⟨g,0,none⟩) P.rows.length (P.rows.length+9),.slice (some ⟨gq,0,none⟩) P.qs.length (P.qs.length+3),.slice (some ⟨gv,0,none⟩) P.vs.length (P.vs.length+3),.slice (some ⟨gt,0,none⟩) P.ts.length (P.ts.length+3),.slice (some ⟨gu,0,none⟩) P.us.length (P.us.length+5),.slice (some ⟨go,0,none⟩) P.on.length (P.on.length+5),.int .i64 P.miss] #[.int .i64 csz,.slice (some ⟨gc,0,none⟩) ql.length (ql.length+5)] #[.int .i64 fe,.int .i64 0]):=⟨(hb68.block _ (blk_lt H6.out.1)).trans H6.out.1,(hb68.block _ (blk_lt H6.out.2.1)).trans H6.out.2.1,(hb68.block _ (blk_lt H6.out.2.2.1)).trans H6.out.2.2.1,(hb68.block _ (blk_lt H6.out.2.2.2.1)).trans H6.out.2.2.2.1,heap_alloc_new w7 _⟩
 have H8:Hid (Below w.heap.size w (w7.alloc (.cells #[.int .i64 fe,.int .i64 0] 32)).drew/\Lb8 (w7.alloc (.cells #[.int .i64 fe,.int .i64 0] 32)).drew w2.heap.size P g gq gv gt gu go/\RowJ (w7.alloc (.cells #[.int .i64 fe,.int .i64 0] 32)).drew gc (fillI ql 5)):=⟨H6.out.2.2.2.2.1.trans (hb68.mono H6.out.2.2.2.2.1.size),H6.out.2.2.2.2.2.1.below hb68,H6.out.2.2.2.2.2.2.below hb68 H6.out.2.2.2.2.2.2.lt⟩
 have HS7:Hid (w3.heap.size < w5.heap.size/\w5.heap.size < w7.heap.size):=⟨by have:=HGc.out;omega,by have:=blk_lt H6.out.2.2.2.1;have:=hb7.size;omega⟩
 clear a0 a1 a2 a3 a4 a5 a6 a7 c0 c1 HFt hcase hb7 hb8 hb68 H6 hfe
 go_wp2_with fail
 refine wp_region_held (S:=fun w'=>Sg8 w' w.heap.size (w.heap.size+1) w3.heap.size w5.heap.size w7.heap.size #[.string P.name,.slice ao P.rows.length ac,.slice qo P.qs.length qc,.slice vo P.vs.length vc,.slice tto P.ts.length tc,.slice uo P.us.length uc,.slice oo P.on.length oc,.int .i64 P.miss] #[.int .i64 csz,.slice co ql.length cc] #[.string P.name,.slice (some ⟨g,0,none⟩) P.rows.length (P.rows.length+9),.slice (some ⟨gq,0,none⟩) P.qs.length (P.qs.length+3),.slice (some ⟨gv,0,none⟩) P.vs.length (P.vs.length+3),.slice (some ⟨gt,0,none⟩) P.ts.length (P.ts.length+3),.slice (some ⟨gu,0,none⟩) P.us.length (P.us.length+5),.slice (some ⟨go,0,none⟩) P.on.length (P.on.length+5),.int .i64 P.miss] #[.int .i64 csz,.slice (some ⟨gc,0,none⟩) ql.length (ql.length+5)] #[.int .i64 fe,.int .i64 0]) (by kernel_rfl) ?_
 have hS:(fun w':World=>Sg8 w' w.heap.size (w.heap.size+1) w3.heap.size w5.heap.size w7.heap.size #[.string P.name,.slice ao P.rows.length ac,.slice qo P.qs.length qc,.slice vo P.vs.length vc,.slice tto P.ts.length tc,.slice uo P.us.length uc,.slice oo P.on.length oc,.int .i64 P.miss] #[.int .i64 csz,.slice co ql.length cc] #[.string P.name,.slice (some ⟨g,0,none⟩) P.rows.length (P.rows.length+9),.slice (some ⟨gq,0,none⟩) P.qs.length (P.qs.length+3),.slice (some ⟨gv,0,none⟩) P.vs.length (P.vs.length+3),.slice (some ⟨gt,0,none⟩) P.ts.length (P.ts.length+3),.slice (some ⟨gu,0,none⟩) P.us.length (P.us.length+5),.slice (some ⟨go,0,none⟩) P.on.length (P.on.length+5),.int .i64 P.miss] #[.int .i64 csz,.slice (some ⟨gc,0,none⟩) ql.length (ql.length+5)] #[.int .i64 fe,.int .i64 0]) (w7.alloc (.cells #[.int .i64 fe,.int .i64 0] 32)).drew:=HSg.out
 change wpAnyH _ _ _ _ _ _ _ _ (w7.alloc (.cells #[.int .i64 fe,.int .i64 0] 32)).drew
 generalize (w7.alloc (.cells #[.int .i64 fe,.int .i64 0] 32)).drew=x0 at *
 refine tk (i:=0) (v:=?v0) rfl (Or.inl ⟨by rfl,?y0⟩) hS ?r0
 case y0=>
  intro w hSw
  try dsimp only at hSw
  obtain ⟨k0,k1,k2,k3,k4,k5,k6,k7⟩:=zr8 hSw.l
  first
   | (go_simp;done)
   | (go_simp;with_reducible rfl)
 refine tk (i:=1) (v:=?v1) rfl (Or.inl ⟨by rfl,?y1⟩) hS ?r1
 case y1=>
  intro w hSw
  try dsimp only at hSw
  obtain ⟨k0,k1,k2,k3,k4,k5,k6,k7⟩:=zr8 hSw.p
  first
   | (go_simp;done)
   | (go_simp;with_reducible rfl)
 refine rd1 2 (by kernel_rfl) rfl fun K hK=>?_
 go_simp
 have HKp:=show Hid _ from kept8 (ac:=ac) (qc:=qc) (vc:=vc) (tc:=tc) (uc:=uc) (oc:=oc) HD.out H8.out.1 (H8.out.2.1.lower (by have:=HSz.out;omega)) HM.out
 dsimp only [pvG,lent8] at HKp
 refine Calls.mono HKp.out ?_
 rintro e x1 ⟨rfl,hF1⟩
 have HX1:Hid (Below w.heap.size w x1/\RowJ x1 gc (fillI ql 5)):=⟨Fr.bel H8.out.1 hF1 (by have:=HSz.out;intro x hx;simp at hx;omega),(hF1.block gc H8.out.2.2.lt (by have:=HSz.out;have:=HGc.out;simp;omega)).trans H8.out.2.2⟩
 have hS1:=Sg8.fr hS hF1 (by have:=HSz.out;have:=HS7.out;simp;omega)
 refine hK.out _ _ hS1 (fun hS=>?_)
 clear hK K hF1 HKp hS1 H8
 refine tk (i:=3) (v:=?v2) rfl (Or.inl ⟨by rfl,?y2⟩) hS ?r2
 case y2=>intro w hSw;(try dsimp only at hSw);first | (go_simp;done) | (go_simp;with_reducible rfl)
 refine tk (i:=4) (v:=?v3) rfl (Or.inl ⟨by rfl,?y3⟩) hS ?r3
 case y3=>intro w hSw;(try dsimp only at hSw);first | (go_simp;done) | (go_simp;with_reducible rfl)
 refine tk (i:=5) (v:=?v4) rfl (Or.inl ⟨by rfl,?y4⟩) hS ?r4
 case y4=>
  intro w hSw
  try dsimp only at hSw
  obtain ⟨k0,k1⟩:=fcells2 hSw.k
  first
   | (go_simp;done)
   | (go_simp;with_reducible rfl)
 refine tk (i:=6) (v:=?v5) rfl (Or.inl ⟨by rfl,?y5⟩) hS ?r5
 case y5=>intro w hSw;(try dsimp only at hSw);first | (go_simp;done) | (go_simp;with_reducible rfl)
 refine tk (i:=7) (v:=?v6) rfl (Or.inl ⟨by rfl,?y6⟩) hS ?r6
 case y6=>
  intro w hSw
  try dsimp only at hSw
  obtain ⟨k0,k1⟩:=fcells2 hSw.c
  first
   | (go_simp;done)
   | (go_simp;with_reducible rfl)
 refine rd1 8 (by kernel_rfl) rfl fun K hK=>?_
 go_simp
 refine Calls.mono (kept17 (c:=cc) HX1.out.2 (HQ.out.1.below HX1.out.1) HQ.out.2) ?_
 rintro e x2 ⟨rfl,hF2⟩
 have HX2:Hid (Below w.heap.size w x2):=Fr.bel HX1.out.1 hF2 (by have:=HSz.out;have:=HGc.out;intro x hx;simp at hx;omega)
 have hS1:=Sg8.fr hS hF2 (by have:=HSz.out;have:=HS7.out;have:=HGc.out;simp;omega)
 refine hK.out _ _ hS1 (fun hS=>?_)
 clear hK K hF2 hS1 HX1
 refine tk (i:=9) (v:=?v7) rfl (Or.inl ⟨by rfl,?y7⟩) hS ?r7
 case y7=>intro w hSw;(try dsimp only at hSw);first | (go_simp;done) | (go_simp;with_reducible rfl)
 refine tk (i:=10) (v:=?v8) rfl (Or.inl ⟨by rfl,?y8⟩) hS ?r8
 case y8=>intro w hSw;(try dsimp only at hSw);first | (go_simp;done) | (go_simp;with_reducible rfl)
 refine tk (i:=11) (v:=?v9) rfl (Or.inl ⟨by rfl,?y9⟩) hS ?r9
 case y9=>
  intro w hSw
  try dsimp only at hSw
  obtain ⟨k0,k1⟩:=fcells2 hSw.f
  first
   | (go_simp;done)
   | (go_simp;with_reducible rfl)
 refine tk (i:=12) (v:=?v10) rfl (Or.inl ⟨by rfl,?y10⟩) hS ?r10
 case y10=>
  intro w hSw
  try dsimp only at hSw
  obtain ⟨k0,k1,k2,k3,k4,k5,k6,k7⟩:=zr8 hSw.p
  first
   | (go_simp;done)
   | (go_simp;with_reducible rfl)
 refine tk (i:=13) (v:=?v11) rfl (Or.inl ⟨by rfl,?y11⟩) hS ?r11
 case y11=>
  intro w hSw
  try dsimp only at hSw
  obtain ⟨k0,k1⟩:=fcells2 hSw.c
  first
   | (go_simp;done)
   | (go_simp;with_reducible rfl)
 refine rd1 14 (by kernel_rfl) rfl fun K hK=>?_
 go_simp
 have hcv:=HQ.out.1.below HX2.out
 rw [iv_fL] at hcv
 have HRf:=show Hid _ from rfit_any (ac:=ac) (qc:=qc) (vc:=vc) (tc:=tc) (uc:=uc) (oc:=oc) (cc:=cc) (size:=csz) (HD.out.below HX2.out) HM.out.sm HK.out.2 hcv HQ.out.2
 dsimp only [pvG] at HRf
 refine Calls.mono HRf.out ?_
 rintro e x3 ⟨hb3,hcase⟩
 obtain rfl:e=.returned (.agg #[.int .i64 fe,.int .i64 0]):=by
  rcases HFe.out with ⟨h1,rfl⟩ | ⟨h1,rfl⟩<;>rcases hcase with ⟨h2,h3⟩ | ⟨h2,h3⟩
  ·exact h3
  ·exact absurd h2 h1
  ·exact absurd h1 h2
  ·exact h3
 have HX3:Hid (Below w.heap.size w x3):=HX2.out.trans (hb3.mono HX2.out.size)
 have hS1:=Sg8.fr (F:=[]) hS (Fr.of_below hb3) (by simp)
 refine hK.out _ _ hS1 (fun hS=>?_)
 clear hK K hb3 hS1 HX2 HRf hcase hcv
 refine tk (i:=15) (v:=?v12) rfl (Or.inl ⟨by rfl,?y12⟩) hS ?r12
 case y12=>intro w hSw;(try dsimp only at hSw);first | (go_simp;done) | (go_simp;with_reducible rfl)
 refine tk (i:=16) (v:=?v13) rfl (Or.inl ⟨by rfl,?y13⟩) hS ?r13
 case y13=>intro w hSw;(try dsimp only at hSw);first | (go_simp;done) | (go_simp;with_reducible rfl)
 refine rd1 17 (by kernel_rfl) rfl fun K hK=>?_
 go_simp
 refine hK.out _ _ hS (fun hS=>?_)
 refine wpAnyH_done (by kernel_rfl) ?_ _
 clear hK K hS
 go_simp
 go_wp2
 go_ret
 exact ⟨rfl,HX3.out⟩
end Go.Proofs.YtjhffaikodnalaaGreat.Nm.Ty
namespace Go.Proofs.YtjhffaikodnalaaGreat.typedFits
open Go.ChangeShapes Go.WideShapes Go.ChangeAt Go.RowKit
open Sp Lx Gr Nm
theorem contractF (H:Type) (enc:TypeId × Value->H) (W:World) (base:Nat) (args:Array Value) (ds gs:List (DataW H)) (before:List MemPlace)
  (hval:∀ (j:Nat) t v,Tryz.f4.params[j]?=some t->args[j]?=some v->Value.okWide Tryz.prog W .any base t v)
  (hW:DataW.Whole enc Tryz.prog Tryz.f4.params.toList Rows.typedFitsSpec.vars false W args.toList ds gs before)
  (hsz:(DataW.weightsEach Tryz.prog (Tryz.f4.params.toList++Rows.typedFitsSpec.plain.varTypes Tryz.prog) (ds++gs)).all (· <= reachBytes)=true):
  Calls Tryz.prog 4 args W fun e W'=>∃ v,e=.returned v/\Rows.typedFitsSpec.post enc Tryz.prog Tryz.f4 false true false false W args v W':=by
 have hW':=hW
 obtain ⟨p,q,hA0,hV,rfl,hfz,hnd⟩:=hW
 have hA:DataW.TrodAll enc Tryz.prog W 0 (fun _=>true) true Tryz.f4.params.toList args.toList ds p:=hA0
 rw [Tryz.params4] at hA hval hsz
 obtain ⟨v0,vs0,d0,ds0,p0,q0,hargs,rfl,rfl,h0,r0⟩:=trodAll_cons hA
 obtain ⟨v1,vs1,d1,ds1,p1,q1,rfl,rfl,rfl,h1,r1⟩:=trodAll_cons r0
 obtain ⟨rfl,rfl,rfl⟩:=trodAll_nil r1
 obtain rfl:args=#[v0,v1]:=by cases args;simp_all
 obtain ⟨rfl,rfl⟩:=trodVars_none hV
 have lt0:∀ x ∈ p0,x.block < W.heap.size:=by obtain ⟨m,hm⟩:=h0;exact DataW.trod_lt m _ _ _ hm
 have lt1:∀ x ∈ p1,x.block < W.heap.size:=by obtain ⟨m,hm⟩:=h1;exact DataW.trod_lt m _ _ _ hm
 obtain ⟨P,ao,qo,vo,tto,uo,oo,ac,qc,vc,tc,uc,oc,e0,e1,e2,e3,e4,e5,e6,e7,rfl,hrd,hnil,hkd,hus,rfl,dd1,dd2,dd3,dd4,dd5,dd6⟩:=Ty.open_polL (hval 0 27 v0 rfl rfl) h0
 obtain ⟨hlm,hnm⟩:=Ty.polL_reach hsz (j:=0) rfl rfl dd1 dd2 dd3 dd4 dd5 dd6
 obtain ⟨csz,co,cc,ql,c0,c1,rfl,hcsz,hq,hqi,hcn,rfl,hd1⟩:=Ty.open_caps (hval 1 39 v1 rfl rfl) h1
 refine (Ty.fitsWalk P ao qo vo tto uo oo ac qc vc tc uc oc csz co ql cc W hrd hlm hnil (fun r hr=>⟨hkd r hr,by have:=hnm r hr;omega⟩) hq (Ty.caps_reach hsz (j:=1) rfl rfl hd1)).mono fun e W2 ⟨he,bel⟩=>?_
 subst he
 exact ⟨_,rfl,_,_,_,[],_,[],hW',trodAll_mk1 (shut_bool Tryz.underlying4 _),(trodAll_cons_mk (Below.trod laidOut (by kernel_rfl) (of_decide_eq_true (by kernel_rfl)) h0 bel lt0) (trodAll_cons_mk (Below.trod laidOut (by kernel_rfl) (of_decide_eq_true (by kernel_rfl)) h1 bel lt1) trodAll_mk0)),rfl,bel.frame _,fun h=>by cases h⟩
theorem liftedF (os:Os) (started:os.Started) (H:Type) (enc:TypeId × Value->H):
  ReturnsInHanded {} Tryz.checked os 4 .any (Rows.typedFitsSpec.pre6 enc Tryz.prog Tryz.f4 Rows.typedFitsRow.domain false) (Rows.typedFitsSpec.post enc Tryz.prog Tryz.f4 false true false false):=by
 refine returnsInHanded_of_change_sized (C:=Tryz.checked) own started (by kernel_rfl) Tryz.func4
  (ChangeSpec.witness6 (enc:=enc) (C:=Tryz.checked) false ⟨#[],#[.agg #[.string ⟨#[]⟩,.slice none 0 0,.slice none 0 0,.slice none 0 0,.slice none 0 0,.slice none 0 0,.slice none 0 0,.int .i64 0],.agg #[.int .i64 0,.slice none 0 0]],[]⟩ 8 (by kernel_rfl) (by kernel_rfl) (by kernel_rfl) (by kernel_rfl)) ?_
 intro W base args ds gs before hval hW _ hsz _
 exact contractF H enc W base args ds gs before hval hW hsz
theorem provedF:Rows.TypedFitsSaid:=
 OpenClaim.holds_of_wide 4 Tryz.f4 rfl rfl rfl rfl rfl rfl rfl ⟨rfl,rfl,rfl,rfl,rfl⟩ rfl rfl rfl rfl rfl (by kernel_rfl) Tryz.func4 (by kernel_rfl)
  (of_decide_eq_true (by kernel_rfl)) (by unfold Func.isWrapper;first | (rw [if_pos (by decide +kernel)];kernel_rfl) | (rw [if_neg (by decide +kernel)];exact ⟨rfl,rfl⟩))
  (fun os started H enc _=>liftedF os started H enc)
end Go.Proofs.YtjhffaikodnalaaGreat.typedFits
