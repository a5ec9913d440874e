import Derived.Test.YtbledbjcghaanaaGreatL42
import Derived.Test.YtbledbjcghaanaaGreatL43
import Derived.Test.YtbledbjcghaanaaGreatTl
import Derived.ProofKit
import Derived.OpenShut
import Derived.ShutString
import Derived.ChangeOld
import Derived.Below
import Derived.JoinedCond
import Derived.SizedLaws
import Derived.SliceStrings
import Derived.ChangeMaps5
import Derived.Deep.Slices
import Derived.ChangeSame
import Derived.Deep.SlicePairs
set_option maxHeartbeats 25600000
set_option maxRecDepth 100000
namespace Go.Proofs.YtbledbjcghaanaaGreat.Nm.Ty
open Go.RowKit Go.Maps Sp Lx Gr Nm
theorem chkQ_out (P:Pg) (size:Int) (cs:Nat->Int) (nc:Nat):∃ O:Co,(O.vs.length<=P.rows.length/\O.ts.length<=P.rows.length/\O.rl.length<=P.rows.length)/\∀ w e w',ChkQ P size cs nc w e w'->∃ v1 t1 r1 c1 c2 c3,e=.returned (.tuple #[.agg #[.slice v1 O.vs.length c1,.slice t1 O.ts.length c2,.slice r1 O.rl.length c3],.agg #[I O.e,I O.a]])/\IsVals w' v1 (vC O.vs)/\IsVals w' t1 (iv O.ts)/\IsVals w' r1 (iv O.rl)/\∀ a,v1=some a\/t1=some a\/r1=some a->w.heap.size<=a.block:=by
 by_cases hok:IsOk P
 ·refine ⟨chkO P size cs nc,chkO_len P size cs nc,fun w e w' hq=>?_⟩;have hn:∀ o:Option Addr,IsVals w' o []:=fun o k x hx=>by cases hx
  rcases hq with ⟨h1,_⟩ | ⟨_,h1,he⟩ | ⟨_,h1,⟨h2,he⟩ | ⟨h2,vv,tv,rb,he,hrb,hr,hv,ht⟩⟩
  ·exact absurd hok h1
  ·have e:chkO P size cs nc=⟨(ruZ P size cs nc).1,(ruZ P size cs nc).2,[],[],[]⟩:=if_pos h1;rw [e];exact ⟨none,none,none,0,0,0,he,hn _,hn _,hn _,fun a h=>(by rcases h with h | h | h<;>cases h)⟩
  ·have e:chkO P size cs nc=⟨((setN P.rows (vB P.rows size cs P.rows.length) P.rows.length).1:Int),((setN P.rows (vB P.rows size cs P.rows.length) P.rows.length).2:Int),[],[],[]⟩:=by unfold chkO;rw [if_neg (by rw [h1];exact fun e=>e rfl),if_pos h2]
   rw [e];exact ⟨none,none,none,0,0,0,he,hn _,hn _,hn _,fun a h=>(by rcases h with h | h | h<;>cases h)⟩
  ·have e:chkO P size cs nc=⟨0,0,setV P.rows (vB P.rows size cs P.rows.length) P.rows.length,setT P.rows (vB P.rows size cs P.rows.length) P.rows.length,(List.range P.rows.length).map (setR P.rows (vB P.rows size cs P.rows.length) P.rows.length)⟩:=by unfold chkO;rw [if_neg (by rw [h1];exact fun e=>e rfl),if_neg (by rw [h2];exact fun e=>e rfl)]
   rw [e];obtain ⟨v1,c1,rfl⟩:=own_form hv;obtain ⟨t1,c2,rfl⟩:=own_form ht;exact ⟨v1,t1,some ⟨rb,0,none⟩,c1,c2,P.rows.length,by rw [he];simp,vals_of hv,vals_of ht,rowI_vals hr,fun a h=>(by
    rcases h with h | h | h
    ·exact (World.ownsRow.lt hv a.block (by rw [h];rfl)).1
    ·exact (World.ownsRow.lt ht a.block (by rw [h];rfl)).1
    ·cases h;exact hrb)⟩
 ·refine ⟨⟨23,0,[],[],[]⟩,by simp,fun w e w' hq=>?_⟩
  have hn:∀ o:Option Addr,IsVals w' o []:=fun o k x hx=>by cases hx
  rcases hq with ⟨_,he⟩ | ⟨h1,_⟩ | ⟨h1,_⟩
  ·exact ⟨none,none,none,0,0,0,he,hn _,hn _,hn _,fun a h=>(by rcases h with h | h | h<;>cases h)⟩
  ·exact absurd h1 hok
  ·exact absurd h1 hok
theorem vals_fr8 {w w':World} {o:Option Addr} {xs:List Value} {F:List Nat} (h:IsVals w o xs) (hF:Fr F w w') (hn:∀ a,o=some a->a.block ∉ F):IsVals w' o xs:=fun k x hx=>by
 obtain ⟨g,f,e,hg,hc⟩:=h k x hx;have hb:=hF.block g hg (hn _ e);exact ⟨g,f,e,Nat.lt_of_lt_of_le hg hF.size,(World.cell?_of_block (a:=⟨g,f+k,none⟩) hb).trans hc⟩
def Tv8 (W:World) (O:Co) (v t r:Option Addr) (m:Nat):Prop:=IsVals W v (vC O.vs)/\IsVals W t (iv O.ts)/\IsVals W r (iv O.rl)/\∀ a,v=some a\/t=some a\/r=some a->m<=a.block
theorem Tv8.below {W W':World} {O:Co} {v t r:Option Addr} {m:Nat} (h:Tv8 W O v t r m) (hb:Below W.heap.size W W'):Tv8 W' O v t r m:=⟨h.1.below hb,h.2.1.below hb,h.2.2.1.below hb,h.2.2.2⟩
theorem Tv8.fr {W W':World} {O:Co} {v t r:Option Addr} {m:Nat} {F:List Nat} (h:Tv8 W O v t r m) (hF:Fr F W W') (hn:∀ x ∈ F,x < m):Tv8 W' O v t r m:=
 ⟨vals_fr8 h.1 hF fun a e hx=>absurd (hn _ hx) (by have:=h.2.2.2 a (Or.inl e);omega),vals_fr8 h.2.1 hF fun a e hx=>absurd (hn _ hx) (by have:=h.2.2.2 a (Or.inr (Or.inl e));omega),vals_fr8 h.2.2.1 hF fun a e hx=>absurd (hn _ hx) (by have:=h.2.2.2 a (Or.inr (Or.inr e));omega),h.2.2.2⟩
theorem checksWalk (P:Pg) (ao qo vo tto uo oo:Option Addr) (ac qc vc tc uc oc:Nat) (csz:Int) (co:Option Addr) (ql:List Int) (cc:Nat) (w:World) (h:RdG w P ao qo vo tto uo oo) (hm:Lm P) (hnil:ao=none->ac=0) (hkd:∀ r ∈ P.rows,r.kids<=9223372036854775807/\r.name.size<=4611686018427387000) (hq:IsVals w co (iv ql)) (hql:ql.length<=17592186043904) (hqi:∀ n ∈ ql,in64 n) (hcsz:in64 csz):
  Calls Tryz.prog 7 #[pvG P ao qo vo tto uo oo ac qc vc tc uc oc,.agg #[I csz,.slice co ql.length cc]] w fun e w'=>e=.returned (.bool true)/\Below w.heap.size w w':=by
 dsimp only [pvG];have HD:=hdn <| h;have HM:=hdn <| hm;have HK:Hid ((ao=none->ac=0)/\(∀ r ∈ P.rows,r.kids<=9223372036854775807/\r.name.size<=4611686018427387000)):=⟨hnil,hkd⟩;have HQ:Hid (IsVals w co (iv ql)/\ql.length<=17592186043904):=⟨hq,hql⟩;have H1:Hid (((w.alloc (.cells (pC P ao ac qo qc vo vc tto tc uo uc oo oc) 27)).alloc (.cells #[I csz,.slice co ql.length cc] 39)).heap[w.heap.size]?=some (.cells (pC P ao ac qo qc vo vc tto tc uo uc oo oc) 27 (0,0))/\((w.alloc (.cells (pC P ao ac qo qc vo vc tto tc uo uc oo oc) 27)).alloc (.cells #[I csz,.slice co ql.length cc] 39)).heap[w.heap.size+1]?=some (.cells #[I csz,.slice co ql.length cc] 39 (0,0))/\Below w.heap.size w ((w.alloc (.cells (pC P ao ac qo qc vo vc tto tc uo uc oo oc) 27)).alloc (.cells #[I csz,.slice co ql.length cc] 39))):=⟨by rw [alloc_old _ _ _ (by simp)];exact alloc_at _ _ _ rfl,alloc_at _ _ _ (by simp),(bAl w _).alloc (by simp) _⟩
 have HKn:=hdn <| known_any ((w.alloc (.cells (pC P ao ac qo qc vo vc tto tc uo uc oo oc) 27)).alloc (.cells #[I csz,.slice co ql.length cc] 39));have HI:Hid ((∀ i,in64 (ql.getD i 0))/\in64 csz):=⟨in64_get hqi,hcsz⟩;clear h hm hnil hkd hq hql hqi hcsz;go_enter Tryz.func7,Tryz.ntmps7;go_wp2_with fail;generalize ((w.alloc (.cells (pC P ao ac qo qc vo vc tto tc uo uc oo oc) 27)).alloc (.cells #[I csz,.slice co ql.length cc] 39))=w1 at *;refine Calls.mono HKn.out ?_;rintro e w2 ⟨rfl,hb2⟩;have H2:Hid (w2.heap[w.heap.size]?=some (.cells (pC P ao ac qo qc vo vc tto tc uo uc oo oc) 27 (0,0))/\w2.heap[w.heap.size+1]?=some (.cells #[I csz,.slice co ql.length cc] 39 (0,0))/\Below w.heap.size w w2):=⟨(hb2.block _ (blk_lt H1.out.1)).trans H1.out.1,(hb2.block _ (blk_lt H1.out.2.1)).trans H1.out.2.1,H1.out.2.2.trans (hb2.mono H1.out.2.2.size)⟩;clear hb2 HKn H1;obtain ⟨a0,a1,a2,a3,a4,a5,a6,a7⟩:=zr8 H2.out.1;have HLd:=hdn <| lend8 (ac:=ac) (qc:=qc) (vc:=vc) (tc:=tc) (uc:=uc) (oc:=oc) (HD.out.below H2.out.2.2) HM.out.r HM.out.q HM.out.v HM.out.t HM.out.u HM.out.o;dsimp only [pvG,lent8] at HLd;go_wp2_with fail;refine Calls.mono HLd.out ?_;rintro e w3 ⟨g,gq,gv,gt,gu,go,rfl,hL,hb3⟩;have hLb:=lb_of hL;have hb4:Below w3.heap.size w3 (w3.alloc (.cells (pC P (pZ g) (P.rows.length+9) (pZ gq) (P.qs.length+3) (pZ gv) (P.vs.length+3) (pZ gt) (P.ts.length+3) (pZ gu) (P.us.length+5) (pZ go) (P.on.length+5)) 27)):=bAl w3 _;have hb24:=hb3.trans (hb4.mono hb3.size);have H4:Hid ((w3.alloc (.cells (pC P (pZ g) (P.rows.length+9) (pZ gq) (P.qs.length+3) (pZ gv) (P.vs.length+3) (pZ gt) (P.ts.length+3) (pZ gu) (P.us.length+5) (pZ go) (P.on.length+5)) 27)).heap[w.heap.size]?=some (.cells (pC P ao ac qo qc vo vc tto tc uo uc oo oc) 27 (0,0))/\(w3.alloc (.cells (pC P (pZ g) (P.rows.length+9) (pZ gq) (P.qs.length+3) (pZ gv) (P.vs.length+3) (pZ gt) (P.ts.length+3) (pZ gu) (P.us.length+5) (pZ go) (P.on.length+5)) 27)).heap[w.heap.size+1]?=some (.cells #[I csz,.slice co ql.length cc] 39 (0,0))/\(w3.alloc (.cells (pC P (pZ g) (P.rows.length+9) (pZ gq) (P.qs.length+3) (pZ gv) (P.vs.length+3) (pZ gt) (P.ts.length+3) (pZ gu) (P.us.length+5) (pZ go) (P.on.length+5)) 27)).heap[w3.heap.size]?=some (.cells (pC P (pZ g) (P.rows.length+9) (pZ gq) (P.qs.length+3) (pZ gv) (P.vs.length+3) (pZ gt) (P.ts.length+3) (pZ gu) (P.us.length+5) (pZ go) (P.on.length+5)) 27 (0,0))/\Below w.heap.size w (w3.alloc (.cells (pC P (pZ g) (P.rows.length+9) (pZ gq) (P.qs.length+3) (pZ gv) (P.vs.length+3) (pZ gt) (P.ts.length+3) (pZ gu) (P.us.length+5) (pZ go) (P.on.length+5)) 27))/\Lb8 (w3.alloc (.cells (pC P (pZ g) (P.rows.length+9) (pZ gq) (P.qs.length+3) (pZ gv) (P.vs.length+3) (pZ gt) (P.ts.length+3) (pZ gu) (P.us.length+5) (pZ go) (P.on.length+5)) 27)) w2.heap.size P g gq gv gt gu go):=⟨(hb24.block _ (blk_lt H2.out.1)).trans H2.out.1,(hb24.block _ (blk_lt H2.out.2.1)).trans H2.out.2.1,heap_alloc_new w3 _,H2.out.2.2.trans (hb24.mono H2.out.2.2.size),hLb.below hb4⟩;have HSz:Hid (w.heap.size+1 < w2.heap.size/\(g < w3.heap.size/\gq < w3.heap.size/\gv < w3.heap.size/\gt < w3.heap.size/\gu < w3.heap.size/\go < w3.heap.size)/\(w2.heap.size<=g/\w2.heap.size<=gq/\w2.heap.size<=gv/\w2.heap.size<=gt/\w2.heap.size<=gu/\w2.heap.size<=go)):=⟨blk_lt H2.out.2.1,⟨hLb.r.lt,blk_lt hLb.q,blk_lt hLb.v,blk_lt hLb.t,hLb.u.lt,hLb.o.lt⟩,hLb.n⟩;clear a0 a1 a2 a3 a4 a5 a6 a7 hL hLb hb3 hb4 hb24 HLd;obtain ⟨c0,c1⟩:=fcells2 H4.out.2.1;have HLc:=hdn <| lendC17 (size:=csz) (cc:=cc) (HQ.out.1.below H4.out.2.2.2.1) HQ.out.2;go_wp2_with fail;generalize w3.alloc (.cells (pC P (pZ g) (P.rows.length+9) (pZ gq) (P.qs.length+3) (pZ gv) (P.vs.length+3) (pZ gt) (P.ts.length+3) (pZ gu) (P.us.length+5) (pZ go) (P.on.length+5)) 27)=w4 at *;refine Calls.mono HLc.out ?_;rintro e w5 ⟨gc,rfl,hgc,hRc,hb5⟩;have hb6:Below w5.heap.size w5 (w5.alloc (.cells #[I csz,.slice (pZ gc) ql.length (ql.length+5)] 39)):=bAl w5 _;have hb46:=hb5.trans (hb6.mono hb5.size)
 have H6:Hid ((w5.alloc (.cells #[I csz,.slice (pZ gc) ql.length (ql.length+5)] 39)).heap[w.heap.size]?=some (.cells (pC P ao ac qo qc vo vc tto tc uo uc oo oc) 27 (0,0))/\(w5.alloc (.cells #[I csz,.slice (pZ gc) ql.length (ql.length+5)] 39)).heap[w.heap.size+1]?=some (.cells #[I csz,.slice co ql.length cc] 39 (0,0))/\(w5.alloc (.cells #[I csz,.slice (pZ gc) ql.length (ql.length+5)] 39)).heap[w3.heap.size]?=some (.cells (pC P (pZ g) (P.rows.length+9) (pZ gq) (P.qs.length+3) (pZ gv) (P.vs.length+3) (pZ gt) (P.ts.length+3) (pZ gu) (P.us.length+5) (pZ go) (P.on.length+5)) 27 (0,0))/\(w5.alloc (.cells #[I csz,.slice (pZ gc) ql.length (ql.length+5)] 39)).heap[w5.heap.size]?=some (.cells #[I csz,.slice (pZ gc) ql.length (ql.length+5)] 39 (0,0))/\Below w.heap.size w (w5.alloc (.cells #[I csz,.slice (pZ gc) ql.length (ql.length+5)] 39))/\Lb8 (w5.alloc (.cells #[I csz,.slice (pZ gc) ql.length (ql.length+5)] 39)) w2.heap.size P g gq gv gt gu go/\RowJ (w5.alloc (.cells #[I csz,.slice (pZ gc) ql.length (ql.length+5)] 39)) gc (fillI ql 5)):=⟨(hb46.block _ (blk_lt H4.out.1)).trans H4.out.1,(hb46.block _ (blk_lt H4.out.2.1)).trans H4.out.2.1,(hb46.block _ (blk_lt H4.out.2.2.1)).trans H4.out.2.2.1,heap_alloc_new w5 _,H4.out.2.2.2.1.trans (hb46.mono H4.out.2.2.2.1.size),H4.out.2.2.2.2.below hb46,hRc.below hb6 hRc.lt⟩;have HGc:Hid (w3.heap.size < gc/\gc < w5.heap.size):=⟨by have:=blk_lt H4.out.2.2.1;omega,hRc.lt⟩
 clear c0 c1 hgc hRc hb5 hb6 hb46 HLc H4;obtain ⟨a0,a1,a2,a3,a4,a5,a6,a7⟩:=zr8 H6.out.2.2.1;obtain ⟨c0,c1⟩:=fcells2 H6.out.2.2.2.1;obtain ⟨O,hOl,hO⟩:=chkQ_out P csz (fun i=>ql.getD i 0) ql.length;have HOl:Hid (O.vs.length<=2932031007317/\O.ts.length<=2932031007317/\O.rl.length<=2932031007317):=⟨by have:=HM.out.r;omega,by have:=HM.out.r;omega,by have:=HM.out.r;omega⟩
 have HO:=hdn <| hO;clear hO hOl;have hcv:=RowJ.vals (q:=ql) H6.out.2.2.2.2.2.2;rw [iv_fL] at hcv;have HFt:=hdn <| tcheck_any (ac:=P.rows.length+9) (qc:=P.qs.length+3) (vc:=P.vs.length+3) (tc:=P.ts.length+3) (uc:=P.us.length+5) (oc:=P.on.length+5) (cc:=ql.length+5) (size:=csz) H6.out.2.2.2.2.2.1.rd HM.out.sm nofun (fun h=>(rdy_of HM.out.sm h).1) (fun h=>(rdy_of HM.out.sm h).2) hcv HQ.out.2 HI.out.2 HI.out.1;dsimp only [pvG] at HFt;clear hcv;go_wp2_with fail;generalize w5.alloc (.cells #[I csz,.slice (pZ gc) ql.length (ql.length+5)] 39)=w6 at *;refine Calls.mono HFt.out ?_;rintro e w7 ⟨hb7,hcase⟩;obtain ⟨v1,t1,r1,c11,c12,c13,rfl,hv1⟩:=HO.out _ _ _ hcase;have hb8:Below w7.heap.size w7 ((w7.alloc (.cells #[.slice v1 O.vs.length c11,.slice t1 O.ts.length c12,.slice r1 O.rl.length c13] 51)).alloc (.cells #[I O.e,I O.a] 32)):=(bAl w7 _).alloc (by simp) _
 have hb68:=hb7.trans (hb8.mono hb7.size);have HSg:Hid (Sg8 ((w7.alloc (.cells #[.slice v1 O.vs.length c11,.slice t1 O.ts.length c12,.slice r1 O.rl.length c13] 51)).alloc (.cells #[I O.e,I O.a] 32)) w.heap.size (w.heap.size+1) w3.heap.size w5.heap.size (w7.heap.size+1) (pC P ao ac qo qc vo vc tto tc uo uc oo oc) #[I csz,.slice co ql.length cc] (pC P (pZ g) (P.rows.length+9) (pZ gq) (P.qs.length+3) (pZ gv) (P.vs.length+3) (pZ gt) (P.ts.length+3) (pZ gu) (P.us.length+5) (pZ go) (P.on.length+5)) #[I csz,.slice (pZ gc) ql.length (ql.length+5)] #[I O.e,I O.a]):=⟨(hb68.block _ (blk_lt H6.out.1)).trans H6.out.1,(hb68.block _ (blk_lt H6.out.2.1)).trans H6.out.2.1,(hb68.block _ (blk_lt H6.out.2.2.1)).trans H6.out.2.2.1,(hb68.block _ (blk_lt H6.out.2.2.2.1)).trans H6.out.2.2.2.1,alloc_at _ _ _ (by simp)⟩
 have HTa:Hid (((w7.alloc (.cells #[.slice v1 O.vs.length c11,.slice t1 O.ts.length c12,.slice r1 O.rl.length c13] 51)).alloc (.cells #[I O.e,I O.a] 32)).heap[w7.heap.size]?=some (.cells #[.slice v1 O.vs.length c11,.slice t1 O.ts.length c12,.slice r1 O.rl.length c13] 51 (0,0))/\Tv8 ((w7.alloc (.cells #[.slice v1 O.vs.length c11,.slice t1 O.ts.length c12,.slice r1 O.rl.length c13] 51)).alloc (.cells #[I O.e,I O.a] 32)) O v1 t1 r1 w6.heap.size):=⟨(alloc_old _ _ _ (by simp)).trans (alloc_at _ _ _ rfl),Tv8.below hv1 hb8⟩
 have H8:Hid (Below w.heap.size w ((w7.alloc (.cells #[.slice v1 O.vs.length c11,.slice t1 O.ts.length c12,.slice r1 O.rl.length c13] 51)).alloc (.cells #[I O.e,I O.a] 32))/\Lb8 ((w7.alloc (.cells #[.slice v1 O.vs.length c11,.slice t1 O.ts.length c12,.slice r1 O.rl.length c13] 51)).alloc (.cells #[I O.e,I O.a] 32)) w2.heap.size P g gq gv gt gu go/\RowJ ((w7.alloc (.cells #[.slice v1 O.vs.length c11,.slice t1 O.ts.length c12,.slice r1 O.rl.length c13] 51)).alloc (.cells #[I O.e,I O.a] 32)) gc (fillI ql 5)):=⟨H6.out.2.2.2.2.1.trans (hb68.mono H6.out.2.2.2.2.1.size),H6.out.2.2.2.2.2.1.below hb68,H6.out.2.2.2.2.2.2.below hb68 H6.out.2.2.2.2.2.2.lt⟩;have HS7:Hid (w3.heap.size < w5.heap.size/\w5.heap.size < w6.heap.size/\w6.heap.size<=w7.heap.size):=⟨by have:=HGc.out;omega,blk_lt H6.out.2.2.2.1,hb7.size⟩
 clear a0 a1 a2 a3 a4 a5 a6 a7 c0 c1 HFt hcase hb7 hb8 hb68 H6 hv1;obtain ⟨a0,a1,a2,a3,a4,a5,a6,a7⟩:=zr8 HSg.out.p;obtain ⟨c0,c1⟩:=fcells2 HSg.out.c;have hcv:=HQ.out.1.below H8.out.1;rw [iv_fL] at hcv;have HRf:=hdn <| rcheck8 (ac:=ac) (qc:=qc) (vc:=vc) (tc:=tc) (uc:=uc) (oc:=oc) (cc:=cc) (size:=csz) (HD.out.below H8.out.1) HM.out.sm HK.out.2 hcv HQ.out.2;dsimp only [pvG] at HRf;clear hcv;go_wp2_with fail;generalize ((w7.alloc (.cells #[.slice v1 O.vs.length c11,.slice t1 O.ts.length c12,.slice r1 O.rl.length c13] 51)).alloc (.cells #[I O.e,I O.a] 32))=w8 at *;refine Calls.mono HRf.out ?_;rintro e w9 ⟨hb9,hcase⟩;obtain ⟨v2,t2,r2,c21,c22,c23,rfl,hv2⟩:=HO.out _ _ _ hcase;have hb10:Below w9.heap.size w9 ((w9.alloc (.cells #[.slice v2 O.vs.length c21,.slice t2 O.ts.length c22,.slice r2 O.rl.length c23] 51)).alloc (.cells #[I O.e,I O.a] 32)):=(bAl w9 _).alloc (by simp) _
 have hb810:=hb9.trans (hb10.mono hb9.size);have HS2:Hid (Sg8 ((w9.alloc (.cells #[.slice v2 O.vs.length c21,.slice t2 O.ts.length c22,.slice r2 O.rl.length c23] 51)).alloc (.cells #[I O.e,I O.a] 32)) w.heap.size (w.heap.size+1) w3.heap.size w5.heap.size (w7.heap.size+1) (pC P ao ac qo qc vo vc tto tc uo uc oo oc) #[I csz,.slice co ql.length cc] (pC P (pZ g) (P.rows.length+9) (pZ gq) (P.qs.length+3) (pZ gv) (P.vs.length+3) (pZ gt) (P.ts.length+3) (pZ gu) (P.us.length+5) (pZ go) (P.on.length+5)) #[I csz,.slice (pZ gc) ql.length (ql.length+5)] #[I O.e,I O.a]/\((w9.alloc (.cells #[.slice v2 O.vs.length c21,.slice t2 O.ts.length c22,.slice r2 O.rl.length c23] 51)).alloc (.cells #[I O.e,I O.a] 32)).heap[w9.heap.size+1]?=some (.cells #[I O.e,I O.a] 32 (0,0))/\((w9.alloc (.cells #[.slice v2 O.vs.length c21,.slice t2 O.ts.length c22,.slice r2 O.rl.length c23] 51)).alloc (.cells #[I O.e,I O.a] 32)).heap[w7.heap.size]?=some (.cells #[.slice v1 O.vs.length c11,.slice t1 O.ts.length c12,.slice r1 O.rl.length c13] 51 (0,0))/\((w9.alloc (.cells #[.slice v2 O.vs.length c21,.slice t2 O.ts.length c22,.slice r2 O.rl.length c23] 51)).alloc (.cells #[I O.e,I O.a] 32)).heap[w9.heap.size]?=some (.cells #[.slice v2 O.vs.length c21,.slice t2 O.ts.length c22,.slice r2 O.rl.length c23] 51 (0,0))/\Tv8 ((w9.alloc (.cells #[.slice v2 O.vs.length c21,.slice t2 O.ts.length c22,.slice r2 O.rl.length c23] 51)).alloc (.cells #[I O.e,I O.a] 32)) O v1 t1 r1 w6.heap.size/\Tv8 ((w9.alloc (.cells #[.slice v2 O.vs.length c21,.slice t2 O.ts.length c22,.slice r2 O.rl.length c23] 51)).alloc (.cells #[I O.e,I O.a] 32)) O v2 t2 r2 w8.heap.size):=⟨⟨(hb810.block _ (blk_lt HSg.out.p)).trans HSg.out.p,(hb810.block _ (blk_lt HSg.out.c)).trans HSg.out.c,(hb810.block _ (blk_lt HSg.out.l)).trans HSg.out.l,(hb810.block _ (blk_lt HSg.out.k)).trans HSg.out.k,(hb810.block _ (blk_lt HSg.out.f)).trans HSg.out.f⟩,alloc_at _ _ _ (by simp),(hb810.block _ (blk_lt HTa.out.1)).trans HTa.out.1,(alloc_old _ _ _ (by simp)).trans (alloc_at _ _ _ rfl),HTa.out.2.below hb810,Tv8.below hv2 hb10⟩
 have H10:Hid (Below w.heap.size w ((w9.alloc (.cells #[.slice v2 O.vs.length c21,.slice t2 O.ts.length c22,.slice r2 O.rl.length c23] 51)).alloc (.cells #[I O.e,I O.a] 32))/\Lb8 ((w9.alloc (.cells #[.slice v2 O.vs.length c21,.slice t2 O.ts.length c22,.slice r2 O.rl.length c23] 51)).alloc (.cells #[I O.e,I O.a] 32)) w2.heap.size P g gq gv gt gu go/\RowJ ((w9.alloc (.cells #[.slice v2 O.vs.length c21,.slice t2 O.ts.length c22,.slice r2 O.rl.length c23] 51)).alloc (.cells #[I O.e,I O.a] 32)) gc (fillI ql 5)):=⟨H8.out.1.trans (hb810.mono H8.out.1.size),H8.out.2.1.below hb810,H8.out.2.2.below hb810 H8.out.2.2.lt⟩;have HS9:Hid (w7.heap.size+1 < w8.heap.size/\w8.heap.size<=w9.heap.size):=⟨blk_lt HSg.out.f,hb9.size⟩;clear a0 a1 a2 a3 a4 a5 a6 a7 c0 c1 HRf hcase hb9 hb10 hb810 H8 HO HSg HTa hv2;obtain ⟨a0,a1,a2,a3,a4,a5,a6,a7⟩:=zr8 HS2.out.1.p;obtain ⟨l0,l1,l2,l3,l4,l5,l6,l7⟩:=zr8 HS2.out.1.l;have HKp:=hdn <| kept8 (ac:=ac) (qc:=qc) (vc:=vc) (tc:=tc) (uc:=uc) (oc:=oc) HD.out H10.out.1 (H10.out.2.1.lower (by have:=HSz.out;omega)) HM.out
 dsimp only [pvG,lent8] at HKp;go_wp2_with fail;generalize ((w9.alloc (.cells #[.slice v2 O.vs.length c21,.slice t2 O.ts.length c22,.slice r2 O.rl.length c23] 51)).alloc (.cells #[I O.e,I O.a] 32))=x0 at *;refine Calls.mono HKp.out ?_;rintro e x1 ⟨rfl,hF1⟩;have HN1:Hid (∀ x,w3.heap.size<=x->x ∉ [g,gq,gv,gt,gu,go]):=fun x hx hm=>by have:=HSz.out;simp at hm;omega
 have HX1:Hid (Below w.heap.size w x1/\RowJ x1 gc (fillI ql 5)/\x1.heap[w9.heap.size+1]?=some (.cells #[I O.e,I O.a] 32 (0,0))/\x1.heap[w7.heap.size]?=some (.cells #[.slice v1 O.vs.length c11,.slice t1 O.ts.length c12,.slice r1 O.rl.length c13] 51 (0,0))/\x1.heap[w9.heap.size]?=some (.cells #[.slice v2 O.vs.length c21,.slice t2 O.ts.length c22,.slice r2 O.rl.length c23] 51 (0,0))/\Tv8 x1 O v1 t1 r1 w6.heap.size/\Tv8 x1 O v2 t2 r2 w8.heap.size):=
  ⟨Fr.bel H10.out.1 hF1 (by have:=HSz.out;intro x hx;simp at hx;omega),(hF1.block gc H10.out.2.2.lt (HN1.out _ (by have:=HGc.out;omega))).trans H10.out.2.2,(hF1.block _ (blk_lt HS2.out.2.1) (HN1.out _ (by have:=HS7.out;have:=HS9.out;omega))).trans HS2.out.2.1,(hF1.block _ (blk_lt HS2.out.2.2.1) (HN1.out _ (by have:=HS7.out;omega))).trans HS2.out.2.2.1,(hF1.block _ (blk_lt HS2.out.2.2.2.1) (HN1.out _ (by have:=HS7.out;have:=HS9.out;omega))).trans HS2.out.2.2.2.1,HS2.out.2.2.2.2.1.fr hF1 (by have:=HSz.out;have:=HS7.out;intro x hx;simp at hx;omega),HS2.out.2.2.2.2.2.fr hF1 (by have:=HSz.out;have:=HS7.out;have:=HS9.out;intro x hx;simp at hx;omega)⟩
 have HS1:=hdn <| Sg8.fr HS2.out.1 hF1 (by have:=HSz.out;have:=HS7.out;simp;omega)
 clear a0 a1 a2 a3 a4 a5 a6 a7 l0 l1 l2 l3 l4 l5 l6 l7 hF1 HKp H10 HS2 HN1;obtain ⟨c0,c1⟩:=fcells2 HS1.out.c;obtain ⟨k0,k1⟩:=fcells2 HS1.out.k;have HKi:=hdn <| kept17 (c:=cc) HX1.out.2.1 (HQ.out.1.below HX1.out.1) HQ.out.2;go_wp2_with fail;refine Calls.mono HKi.out ?_;rintro e x2 ⟨rfl,hF2⟩;have HN2:Hid (∀ x,w5.heap.size<=x->x ∉ [gc]):=fun x hx hm=>by have:=HGc.out;simp at hm;omega
 have HX2:Hid (Below w.heap.size w x2/\Tv8 x2 O v1 t1 r1 w6.heap.size/\Tv8 x2 O v2 t2 r2 w8.heap.size):=⟨Fr.bel HX1.out.1 hF2 (by have:=HSz.out;have:=HGc.out;intro x hx;simp at hx;omega),HX1.out.2.2.2.2.2.1.fr hF2 (by have:=HGc.out;have:=HS7.out;intro x hx;simp at hx;omega),HX1.out.2.2.2.2.2.2.fr hF2 (by have:=HGc.out;have:=HS7.out;have:=HS9.out;intro x hx;simp at hx;omega)⟩
 obtain ⟨f0,f1⟩:=fcells2 ((hF2.block _ (blk_lt HX1.out.2.2.1) (HN2.out _ (by have:=HS7.out;have:=HS9.out;omega))).trans HX1.out.2.2.1)
 obtain ⟨y0,y1,y2⟩:=cells3 ((hF2.block _ (blk_lt HX1.out.2.2.2.1) (HN2.out _ (by have:=HS7.out;omega))).trans HX1.out.2.2.2.1)
 obtain ⟨z0,z1,z2⟩:=cells3 ((hF2.block _ (blk_lt HX1.out.2.2.2.2.1) (HN2.out _ (by have:=HS7.out;have:=HS9.out;omega))).trans HX1.out.2.2.2.2.1)
 obtain ⟨g0,g1⟩:=fcells2 (Sg8.fr HS1.out hF2 (by have:=HSz.out;have:=HS7.out;have:=HGc.out;simp;omega)).f
 have HSt:=hdn <| sameTyped_any (vc1:=c11) (tc1:=c12) (rc1:=c13) (vc2:=c21) (tc2:=c22) (rc2:=c23) HX2.out.2.1.1 HX2.out.2.2.1 HX2.out.2.1.2.1 HX2.out.2.2.2.1 HX2.out.2.1.2.2.1 HX2.out.2.2.2.2.1 HOl.out.1 HOl.out.2.1 HOl.out.2.2;clear c0 c1 k0 k1 hF2 HKi HX1 HS1 HN2;go_wp2_with fail;refine Calls.mono HSt.out ?_;rintro e x3 ⟨rfl,hb3⟩;have HX3:Hid (Below w.heap.size w x3):=HX2.out.1.trans (hb3.mono HX2.out.1.size);clear hb3 HSt f0 f1 y0 y1 y2 z0 z1 z2 g0 g1;go_wp2;go_ret;exact ⟨rfl,HX3.out⟩
end Go.Proofs.YtbledbjcghaanaaGreat.Nm.Ty
namespace Go.Proofs.YtbledbjcghaanaaGreat.Lx
open Go.ChangeShapes Go.WideShapes Go.ChangeAt Go.RowKit Sp
theorem own:ownKnob Tryz.prog.godebug=none:=by kernel_rfl
theorem laidOut:laidOutB Tryz.prog=true:=by kernel_rfl
end Go.Proofs.YtbledbjcghaanaaGreat.Lx
namespace Go.Proofs.YtbledbjcghaanaaGreat.Gr
open Go.ChangeShapes Go.WideShapes Go.ChangeAt Go.RowKit Go.Deep Sp Lx
theorem bytes61:Tryz.prog.bytesOf 61=48:=by kernel_rfl
theorem cells61:Tryz.prog.cellsOf 61=5:=by kernel_rfl
theorem cells3:Tryz.prog.cellsOf 3=1:=by kernel_rfl
theorem cells9:Tryz.prog.cellsOf 9=1:=by kernel_rfl
instance:Inhabited Rz:=⟨rz0⟩
def dz {H:Type} (r:Rz):DataW H:=.agg [.lit (.int .i64 r.kind),.lit (.string r.name.data.toList),.lit (.int .i64 r.stop),.lit (.int .i64 r.n),.lit (.int .i64 r.kids)]
theorem wf_le {n:Int} (h:(Lit.int .i64 n).wf=true):n<=9223372036854775807:=by
 simp [Lit.wf] at h;omega
theorem five {α:Type} {l:List α} (h:l.length=5):∃ a b c d e,l=[a,b,c,d,e]:=by
 match l,h with
 | [a,b,c,d,e],_=>exact ⟨a,b,c,d,e,rfl⟩
theorem open_one {H:Type} {enc:TypeId × Value->H} {W:World} {base n:Nat} {sp:Nat->Bool} {hd:Bool} {cs:List Value} {d:DataW H} {pl:List MemPlace} (h:DataW.trod enc Tryz.prog W base sp hd n 61 cs=some (d,pl)):
  ∃ r:Rz,cs=[.int .i64 r.kind,.string r.name,.int .i64 r.stop,.int .i64 r.n,.int .i64 r.kids]/\d=dz r/\r.kids<=9223372036854775807:=by
 obtain ⟨xs,k,hk,hxy,hl,hxl,hf⟩:=DataW.trod_struct Tryz.underlying61 h;rw [cells61] at hl;have hxl5:xs.length=5:=hxl;obtain ⟨y0,y1,y2,y3,y4,rfl⟩:=five hxl5;obtain ⟨v0,v1,v2,v3,v4,rfl⟩:=five hl;have g0:=hf 0 _ rfl;have g1:=hf 1 _ rfl;have g2:=hf 2 _ rfl;have g3:=hf 3 _ rfl;have g4:=hf 4 _ rfl;simp [cells3,cells9] at g0 g1 g2 g3 g4;obtain ⟨a0,e0,f0,_⟩:=DataW.trod_int Tryz.underlying3 g0;obtain ⟨a1,e1,f1,_⟩:=DataW.trod_string Tryz.underlying9 g1;obtain ⟨a2,e2,f2,_⟩:=DataW.trod_int Tryz.underlying3 g2;obtain ⟨a3,e3,f3,_⟩:=DataW.trod_int Tryz.underlying3 g3;obtain ⟨a4,e4,f4,w4⟩:=DataW.trod_int Tryz.underlying3 g4;simp only [List.cons.injEq,and_true] at e0 e1 e2 e3 e4;subst e0 e1 e2 e3 e4 f0 f1 f2 f3 f4;simp only [Prod.mk.injEq] at hxy;exact ⟨⟨a0,a1,a2,a3,a4⟩,rfl,by simpa [dz] using hxy.1,wf_le w4⟩
theorem open_rowsZ {H:Type} {enc:TypeId × Value->H} {W:World} {a:Option Addr} {len cap:Nat} {d:DataW H} {p:List MemPlace} (h:DataW.Trod enc Tryz.prog W 0 (fun _=>true) true 22 (.slice a len cap) d p):
  ∃ l:List Rz,l.length=len/\len<=cap/\IsRz W a l/\(∀ r ∈ l,r.kids<=9223372036854775807)/\(l=[]\/∃ sp,d=.slice (l.map dz) sp):=by
 obtain ⟨fuel,hf⟩:=h;rcases open_slice Tryz.underlying22 hf with ⟨hcs,_⟩ | ⟨x,l,c,m,n,D,Pl,hcs,_,hl,hm,hmm,hx,hcell⟩
 ·simp [Value.cells] at hcs;obtain ⟨rfl,rfl,rfl⟩:=hcs;exact ⟨[],rfl,Nat.le_refl _,fun i x hx=>(by simp at hx),fun r hr=>(by cases hr),Or.inl rfl⟩
 ·simp [Value.cells] at hcs;obtain ⟨rfl,rfl,rfl⟩:=hcs;simp only [if_true] at hmm;subst hmm;simp only [Prod.mk.injEq] at hx;have each:∀ i,i < len->∃ r:Rz,W.cells? 0 (x.add (i * 5)) 5=some [.int .i64 r.kind,.string r.name,.int .i64 r.stop,.int .i64 r.n,.int .i64 r.kids]/\D i=dz r/\r.kids<=9223372036854775807:=by
   intro i hi;obtain ⟨cs',h1,h2⟩:=hcell i (by omega)
   obtain ⟨r,rfl,h4,h5⟩:=open_one h2;rw [cells61] at h1;exact ⟨r,h1,h4,h5⟩
  obtain ⟨q,hq⟩:=choose_lt each;refine ⟨(List.range len).map q,by simp,hl,fun i r hr=>?_,fun r hr=>?_,Or.inr ⟨(List.range (m - len)).map fun j=>D (len+j),?_⟩⟩
  ·have hi:i < len:=by
    have:=(List.getElem?_eq_some_iff.1 hr).1
    simpa using this
   have hri:q i=r:=by simpa [hi] using hr
   obtain ⟨h1,_,_⟩:=hq i hi;rw [hri] at h1;obtain ⟨_,hlen,hc⟩:=World.cells?_some h1;have e0:=hc 0 (by omega)
   have e1:=hc 1 (by omega)
   have e2:=hc 2 (by omega)
   have e3:=hc 3 (by omega)
   have e4:=hc 4 (by omega)
   rw [add_add] at e0 e1 e2 e3 e4;simp at e0 e1 e2 e3 e4;obtain ⟨b,off,spot⟩:=x;have hspot:spot=none:=by
    obtain ⟨g1,_,_⟩:=hq 0 (by omega)
    obtain ⟨_,_,gc⟩:=World.cells?_some g1;have g0:=gc 0 (by omega)
    simp [Addr.add] at g0
    simpa [Addr.add] using World.cell?_spot g0
   subst hspot;rw [Lib.addr_add] at e0 e1 e2 e3 e4;refine ⟨b,off,rfl,World.block_lt_of_cell? W _ e0,e0,?_,?_,?_,?_⟩
   ·rw [Nat.add_assoc];exact e1
   ·rw [Nat.add_assoc];exact e2
   ·rw [Nat.add_assoc];exact e3
   ·rw [Nat.add_assoc];exact e4
  ·obtain ⟨i,hi,rfl⟩:=List.mem_map.1 hr;exact (hq i (List.mem_range.1 hi)).2.2
  ·rw [hx.1]
   congr 1
   rw [List.map_map];exact List.map_congr_left fun i hi=>(hq i (List.mem_range.1 hi)).2.1
theorem weights_all {H:Type} {P:Program} {e:TypeId} {d:DataW H} {l:List (DataW H)} (h:d ∈ l):∀ n ∈ d.weights P e,n ∈ DataW.weightsAll P e l:=by
 induction l with
 | nil=>cases h
 | cons x r ih=>
  intro n hn;simp only [DataW.weightsAll,List.mem_append];rcases List.mem_cons.1 h with rfl | h1
  ·exact Or.inl hn
  ·exact Or.inr (ih h1 n hn)
theorem rows_reach {H:Type} {ts:List TypeId} {ds:List (DataW H)} (hsz:(DataW.weightsEach Tryz.prog ts ds).all (· <= reachBytes)=true) {j:Nat} {l:List Rz} {d:DataW H} (ht:ts[j]?=some 22) (hd:ds[j]?=some d) (h:l=[]\/∃ sp,d=.slice (l.map dz) sp):
  l.length<=2932031007317/\∀ r ∈ l,r.name.size<=140737488351232:=by
 rcases h with rfl | ⟨sp,rfl⟩
 ·exact ⟨by simp,fun x hx=>by cases hx⟩
 ·refine ⟨?_,fun x hx=>?_⟩
  ·have:=sized_slice hsz ht hd Tryz.underlying22;rw [bytes61] at this;simp only [reachBytes,List.length_map] at this;omega
  ·have h1:(dz x:DataW H) ∈ l.map dz:=List.mem_map.2 ⟨x,hx,rfl⟩;have h2:=weights_all (P:=Tryz.prog) (e:=61) h1 x.name.data.toList.length (by simp [dz,DataW.weights,Tryz.underlying61,DataW.weightsEach])
   have h3:=List.all_eq_true.1 hsz _ (DataW.weights_mem_each ht hd x.name.data.toList.length (by
    simp only [DataW.weights,Tryz.underlying22];exact List.mem_cons_of_mem _ (List.mem_append_left _ h2)))
   have h4:=of_decide_eq_true h3
   simpa [reachBytes] using h4
end Go.Proofs.YtbledbjcghaanaaGreat.Gr
namespace Go.Proofs.YtbledbjcghaanaaGreat.Lx
open Go.RowKit Sp
def IsStrs (w:World) (ao:Option Addr) (ss:List ByteArray):Prop:=∀ i x,ss[i]?=some x->∃ g o,ao=some ⟨g,o,none⟩/\g < w.heap.size/\w.cell? ⟨g,o+i,none⟩=some (.string x)
end Go.Proofs.YtbledbjcghaanaaGreat.Lx
namespace Go.Proofs.YtbledbjcghaanaaGreat.Lx
open Go.ChangeShapes Go.WideShapes Go.ChangeAt Go.RowKit Sp
theorem bytes9:Tryz.prog.bytesOf 9=16:=by kernel_rfl
theorem bytes3:Tryz.prog.bytesOf 3=8:=by kernel_rfl
theorem open_texts {H:Type} {enc:TypeId × Value->H} {W:World} {a:Option Addr} {len cap:Nat} {d:DataW H} {p:List MemPlace} (h:DataW.Trod enc Tryz.prog W 0 (fun _=>true) true 24 (.slice a len cap) d p):
  ∃ ss:List ByteArray,ss.length=len/\len<=cap/\IsStrs W a ss/\(ss=[]\/∃ sp,d=.slice (strs ss) sp):=by
 obtain ⟨fuel,hf⟩:=h;rcases open_strings Tryz.underlying24 Tryz.underlying9 (by kernel_rfl) hf with ⟨hcs,hx⟩ | ⟨x,l,c,zs,hcs,_,hl,hm,hz,hx,hcell,hwz⟩
 ·simp [Value.cells] at hcs;obtain ⟨rfl,rfl,rfl⟩:=hcs;exact ⟨[],rfl,Nat.le_refl _,fun i x hx=>by simp at hx,Or.inl rfl⟩
 ·simp [Value.cells] at hcs;obtain ⟨rfl,rfl,rfl⟩:=hcs;simp at hz hx;obtain ⟨rfl,rfl⟩:=hx;refine ⟨zs.take len,by simp;omega,hl,fun i y hy=>?_,Or.inr ⟨_,rfl⟩⟩
  have hil:i < len:=by
   have:=(List.getElem?_eq_some_iff.1 hy).1;simp at this;omega
  have hc:=hcell i (by omega)
  obtain ⟨b,off,spot⟩:=x;have h0:=hcell 0 (by omega)
  have hspot:spot=none:=by simpa [Addr.add] using World.cell?_spot h0
  subst hspot;rw [Lib.addr_add] at hc;refine ⟨b,off,rfl,World.block_lt_of_cell? W _ hc,?_⟩;rw [hc];rw [List.getElem?_take_of_lt hil] at hy;simp [List.getD,hy]
end Go.Proofs.YtbledbjcghaanaaGreat.Lx
namespace Go.Proofs.YtbledbjcghaanaaGreat.Nm
open Go.ChangeShapes Go.WideShapes Go.ChangeAt Go.RowKit Go.Deep Sp Lx Gr
theorem cellsP:Tryz.prog.cellsOf 27=8:=by kernel_rfl
theorem cellsR:Tryz.prog.cellsOf 22=1:=by kernel_rfl
theorem cellsQ:Tryz.prog.cellsOf 23=1:=by kernel_rfl
theorem cellsSS:Tryz.prog.cellsOf 24=1:=by kernel_rfl
theorem cellsII:Tryz.prog.cellsOf 25=1:=by kernel_rfl
theorem cellsS:Tryz.prog.cellsOf 9=1:=by kernel_rfl
theorem cellsI:Tryz.prog.cellsOf 3=1:=by kernel_rfl
theorem cellsB:Tryz.prog.cellsOf 4=1:=by kernel_rfl
theorem cellsQu:Tryz.prog.cellsOf 77=2:=by kernel_rfl
theorem eight {α:Type} {l:List α} (h:l.length=8):∃ a b c d e f g i,l=[a,b,c,d,e,f,g,i]:=by
 match l,h with
 | [a,b,c,d,e,f,g,i],_=>exact ⟨a,b,c,d,e,f,g,i,rfl⟩
section
variable {H:Type} {enc:TypeId × Value->H} {W:World}
theorem slice_shape {t e:TypeId} {n:Nat} {a:Value} {y:DataW H × List MemPlace} (ht:Tryz.prog.underlying t=some (.slice e)) (h:DataW.trod enc Tryz.prog W 0 (fun _=>true) true n t [a]=some y):
  ∃ ao len cap,a=.slice ao len cap/\(ao=none->cap=0)/\DataW.Trod enc Tryz.prog W 0 (fun _=>true) true t (.slice ao len cap) y.1 y.2:=by
 rcases open_slice ht h with ⟨hcs,_⟩ | ⟨x,l,c,m,k,D,Pl,hcs,_⟩
 ·cases hcs;exact ⟨none,0,0,rfl,fun _=>rfl,n,by simpa [Value.cells] using h⟩
 ·cases hcs;exact ⟨some x,l,c,rfl,(fun e=>by cases e),n,by simpa [Value.cells] using h⟩
theorem strs_vals {ao:Option Addr} {ss:List ByteArray} (h:IsStrs W ao ss):IsVals W ao (ss.map Value.string):=fun k x hx=>by
 rw [List.getElem?_map] at hx;cases hs:ss[k]? with
 | none=>rw [hs] at hx;cases hx
 | some s=>
  rw [hs] at hx;cases hx;exact h k s hs
theorem open_queues {a:Option Addr} {len cap:Nat} {d:DataW H} {p:List MemPlace} (h:DataW.Trod enc Tryz.prog W 0 (fun _=>true) true 23 (.slice a len cap) d p):∃ qs:List (ByteArray × Bool),qs.length=len/\IsVals W a (qF qs):=by
 obtain ⟨fuel,hf⟩:=h;rcases open_slice_pairs Tryz.underlying23 Tryz.underlying77 cellsQu rfl rfl cellsS cellsB hf with ⟨hcs,_⟩ | ⟨x,l,c,m,n,V0,V1,D0,D1,P0,P1,hcs,_,hl,hm,hmm,hx,hcell⟩
 ·simp [Value.cells] at hcs;obtain ⟨rfl,rfl,rfl⟩:=hcs;exact ⟨[],rfl,fun i y hy=>by simp [qF] at hy⟩
 ·simp [Value.cells] at hcs;obtain ⟨rfl,rfl,rfl⟩:=hcs;simp only [if_true] at hmm;subst hmm;have each:∀ i,i < len->∃ q:ByteArray × Bool,V0 i=.string q.1/\V1 i=.bool q.2:=fun i hi=>by
   obtain ⟨_,_,t0,t1⟩:=hcell i (by omega)
   obtain ⟨s,e0,_⟩:=DataW.trod_string Tryz.underlying9 t0;obtain ⟨b,e1,_⟩:=DataW.trod_bool Tryz.underlying4 t1;simp only [List.cons.injEq,and_true] at e0 e1;exact ⟨(s,b),e0,e1⟩
  haveI:Inhabited (ByteArray × Bool):=⟨(⟨#[]⟩,false)⟩
  obtain ⟨q,hq⟩:=choose_lt each;have hat:∀ (qs:List (ByteArray × Bool)) (k:Nat) (y:Value),(qF qs)[k]?=some y->∃ i,∃ hi:i < qs.length,(k=i * 2/\y=.string qs[i].1)\/(k=i * 2+1/\y=.bool qs[i].2):=by
   intro qs
   induction qs with
   | nil=>intro k y hy;simp [qF] at hy
   | cons z qs ih=>
    intro k y hy;have e:qF (z :: qs)=[.string z.1,.bool z.2]++qF qs:=by simp [qF]
    rw [e] at hy
    match k with
    | 0=>exact ⟨0,by simp,Or.inl ⟨rfl,by simpa using hy.symm⟩⟩
    | 1=>exact ⟨0,by simp,Or.inr ⟨rfl,by simpa using hy.symm⟩⟩
    | k+2=>
     obtain ⟨i,hi,hh⟩:=ih k y (by simpa using hy)
     refine ⟨i+1,by simpa using hi,?_⟩
     rcases hh with ⟨rfl,rfl⟩ | ⟨rfl,rfl⟩
     ·exact Or.inl ⟨by omega,by simp⟩
     ·exact Or.inr ⟨by omega,by simp⟩
  obtain ⟨b,off,spot⟩:=x;refine ⟨(List.range len).map q,by simp,fun k y hy=>?_⟩
  obtain ⟨i,hi,hh⟩:=hat _ k y hy;have hil:i < len:=by simpa using hi
  obtain ⟨c0,c1,_,_⟩:=hcell i (by omega)
  have hspot:spot=none:=by
   have z0:=(hcell 0 (by omega)).1
   simp [Addr.add] at z0
   simpa using World.cell?_spot z0
  subst hspot;rw [Lib.addr_add] at c0 c1;rw [(hq i hil).1] at c0;rw [(hq i hil).2] at c1;rcases hh with ⟨rfl,rfl⟩ | ⟨rfl,rfl⟩
  ·exact ⟨b,off,rfl,World.block_lt_of_cell? W _ c0,by simpa using c0⟩
  ·exact ⟨b,off,rfl,World.block_lt_of_cell? W _ c0,by simpa [Nat.add_assoc] using c1⟩
end
end Go.Proofs.YtbledbjcghaanaaGreat.Nm
namespace Go.Proofs.YtbledbjcghaanaaGreat.Nm.Ty
theorem wf_in {n:Int} (h:(Lit.int .i64 n).wf=true):in64 n:=by
 simp only [Lit.wf,Bool.and_eq_true,decide_eq_true_eq] at h;have h1:IntKind.i64.min=-9223372036854775808:=by decide
 have h2:IntKind.i64.max=9223372036854775807:=by decide
 rw [h1,h2] at h;exact h
end Go.Proofs.YtbledbjcghaanaaGreat.Nm.Ty
namespace Go.Proofs.YtbledbjcghaanaaGreat.Nm
open Go.ChangeShapes Go.WideShapes Go.ChangeAt Go.RowKit Sp Lx Gr
section
variable {H:Type} {enc:TypeId × Value->H} {W:World}
theorem nums_reachJ {ts:List TypeId} {ds:List (DataW H)} (hsz:(DataW.weightsEach Tryz.prog ts ds).all (· <= reachBytes)=true) {j len:Nat} {d:DataW H} (ht:ts[j]?=some 25) (hd:ds[j]?=some d) (h:len=0\/∃ el sp,d=.slice el sp/\el.length=len):len<=17592186043904:=by
 rcases h with rfl | ⟨el,sp,rfl,rfl⟩
 ·omega
 ·have:=sized_slice hsz ht hd Tryz.underlying25;rw [bytes3] at this;simp only [reachBytes] at this;omega
end
end Go.Proofs.YtbledbjcghaanaaGreat.Nm
namespace Go.Proofs.YtbledbjcghaanaaGreat.Nm.Ty
open Go.ChangeShapes Go.WideShapes Go.ChangeAt Go.RowKit Go.Deep Sp Lx Gr Nm
theorem cellsC2:Tryz.prog.cellsOf 39=2:=by kernel_rfl
theorem cellsI2:Tryz.prog.cellsOf 25=1:=by kernel_rfl
theorem cellsN2:Tryz.prog.cellsOf 3=1:=by kernel_rfl
theorem two2 {α:Type} {l:List α} (h:l.length=2):∃ a b,l=[a,b]:=by
 match l,h with
 | [a,b],_=>exact ⟨a,b,rfl⟩
section
variable {H:Type} {enc:TypeId × Value->H} {W:World}
theorem open_numsW {a:Option Addr} {len cap:Nat} {d:DataW H} {p:List MemPlace} (h:DataW.Trod enc Tryz.prog W 0 (fun _=>true) true 25 (.slice a len cap) d p):
  ∃ l:List Int,l.length=len/\IsVals W a (iv l)/\(∀ n ∈ l,in64 n)/\(a=none->cap=0)/\(len=0\/∃ el sp,d=.slice el sp/\el.length=len):=by
 obtain ⟨fuel,hf⟩:=h;rcases open_ints Tryz.underlying25 Tryz.underlying3 (by kernel_rfl) hf with ⟨hcs,hx⟩ | ⟨x,l,c,zs,hcs,_,hl,hm,hz,hx,hcell,hwz⟩
 ·simp [Value.cells] at hcs;obtain ⟨rfl,rfl,rfl⟩:=hcs;exact ⟨[],rfl,fun k x hx=>(by cases hx),fun n hn=>(by cases hn),fun _=>rfl,Or.inl rfl⟩
 ·simp [Value.cells] at hcs;obtain ⟨rfl,rfl,rfl⟩:=hcs;simp at hz hx;obtain ⟨rfl,rfl⟩:=hx;refine ⟨zs.take len,by simp;omega,fun k y hy=>?_,fun n hn=>wf_in (hwz n (List.mem_of_mem_take hn)),fun e=>(by cases e),Or.inr ⟨_,_,rfl,by simp [lits];omega⟩⟩
  have hk:k < len:=by
   have:=(List.getElem?_eq_some_iff.1 hy).1;simp [iv] at this;omega
  obtain ⟨b,off,spot⟩:=x;have h0:=hcell 0 (by omega)
  have hspot:spot=none:=by simpa [Addr.add] using World.cell?_spot h0
  subst hspot;have hc:=hcell k (by omega)
  rw [Lib.addr_add] at hc;refine ⟨b,off,rfl,World.block_lt_of_cell? W _ hc,?_⟩;rw [hc];have hk2:k < zs.length:=by omega
  simp [iv,hk,List.getElem?_eq_getElem hk2] at hy;rw [<-hy];simp [List.getD_eq_getElem?_getD,List.getElem?_eq_getElem hk2]
theorem open_caps {base:Nat} {v:Value} {d:DataW H} {p:List MemPlace} (hv:Value.okWide Tryz.prog W .any base 39 v) (h:DataW.Trod enc Tryz.prog W 0 (fun _=>true) true 39 v d p):
  ∃ (size:Int) (qo:Option Addr) (qc:Nat) (ql:List Int) (d0 d1:DataW H),v=.agg #[.int .i64 size,.slice qo ql.length qc]/\in64 size/\IsVals W qo (iv ql)/\(∀ n ∈ ql,in64 n)/\(qo=none->qc=0)/\d=.agg [d0,d1]/\(ql.length=0\/∃ el sp,d1=.slice el sp/\el.length=ql.length):=by
 obtain ⟨cs,rfl,hcs⟩:=okWide_struct Tryz.underlying39 hv;obtain ⟨fuel,hf⟩:=h;obtain ⟨xs,n,_,hxy,hl,hxl,hfs⟩:=DataW.trod_struct Tryz.underlying39 hf;have hc:(Value.agg cs).cells=cs:=rfl;rw [hc] at hl hfs;rw [cellsC2] at hl;have hxl2:xs.length=2:=hxl;obtain ⟨y0,y1,rfl⟩:=two2 hxl2;obtain ⟨a0,a1,hcl⟩:=two2 hl;rw [hcl] at hfs;have g0:=hfs 0 _ rfl;have g1:=hfs 1 _ rfl;simp [cellsI2,cellsN2] at g0 g1;obtain ⟨z,e0,_,hw⟩:=DataW.trod_int Tryz.underlying3 g0;simp only [List.cons.injEq,and_true] at e0;subst e0;rcases open_slice Tryz.underlying25 g1 with ⟨hcs1,_⟩ | ⟨x,l,c,m,k,D,Pl,hcs1,_⟩
 ·simp only [List.cons.injEq,and_true] at hcs1;subst hcs1;obtain ⟨ql,hlen,h1,h2,h3,h4⟩:=open_numsW (W:=W) (enc:=enc) (d:=y1.1) (p:=y1.2) ⟨n,g1⟩;obtain rfl:=List.eq_nil_of_length_eq_zero hlen;refine ⟨z,none,0,[],y0.1,y1.1,?_,wf_in hw,h1,h2,h3,?_,Or.inl rfl⟩
  ·congr 1
   exact Array.toList_inj.1 hcl
  ·simpa using congrArg Prod.fst hxy
 ·simp only [List.cons.injEq,and_true] at hcs1;subst hcs1;obtain ⟨ql,hlen,h1,h2,h3,h4⟩:=open_numsW (W:=W) (enc:=enc) (d:=y1.1) (p:=y1.2) ⟨n,g1⟩;subst hlen;refine ⟨z,_,_,ql,y0.1,y1.1,?_,wf_in hw,h1,h2,h3,?_,h4⟩
  ·congr 1
   exact Array.toList_inj.1 hcl
  ·simpa using congrArg Prod.fst hxy
theorem caps_reach {ts:List TypeId} {ds:List (DataW H)} (hsz:(DataW.weightsEach Tryz.prog ts ds).all (· <= reachBytes)=true) {j len:Nat} {d0 d1:DataW H} (ht:ts[j]?=some 39) (hd:ds[j]?=some (.agg [d0,d1])) (h:len=0\/∃ el sp,d1=.slice el sp/\el.length=len):len<=17592186043904:=by
 have hs:(DataW.weightsEach Tryz.prog [3,25] [d0,d1]).all (· <= reachBytes)=true:=by
  refine List.all_eq_true.2 fun x hx=>?_;refine List.all_eq_true.1 hsz x (DataW.weights_mem_each ht hd x ?_)
  simpa [DataW.weights,Tryz.underlying39] using hx
 exact nums_reachJ hs (j:=1) rfl rfl h
end
section
variable {H:Type} {enc:TypeId × Value->H} {W:World}
theorem slice_len {t e:TypeId} {a:Option Addr} {len cap:Nat} {d:DataW H} {p:List MemPlace} (ht:Tryz.prog.underlying t=some (.slice e)) (h:DataW.Trod enc Tryz.prog W 0 (fun _=>true) true t (.slice a len cap) d p):len=0\/∃ el sp,d=.slice el sp/\el.length=len:=by
 obtain ⟨fuel,hf⟩:=h;rcases open_slice ht hf with ⟨hcs,_⟩ | ⟨x,l,c,m,n,D,Pl,hcs,_,_,_,_,hx,_⟩
 ·simp [Value.cells] at hcs;exact Or.inl hcs.2.1
 ·simp [Value.cells] at hcs;obtain ⟨rfl,rfl,rfl⟩:=hcs;cases hx;exact Or.inr ⟨_,_,rfl,by simp⟩
theorem open_polL {base:Nat} {v:Value} {d:DataW H} {p:List MemPlace} (hv:Value.okWide Tryz.prog W .any base 27 v) (h:DataW.Trod enc Tryz.prog W 0 (fun _=>true) true 27 v d p):
  ∃ (P:Pg) (ao qo vo tto uo oo:Option Addr) (ac qc vc tc uc oc:Nat) (d0 d1 d2 d3 d4 d5 d6 d7:DataW H),v=pvG P ao qo vo tto uo oo ac qc vc tc uc oc/\RdG W P ao qo vo tto uo oo/\(ao=none->ac=0)/\(∀ r ∈ P.rows,r.kids<=9223372036854775807)/\(∀ n ∈ P.us,in64 n)/\d=.agg [d0,d1,d2,d3,d4,d5,d6,d7]/\(P.rows=[]\/∃ sp,d1=.slice (P.rows.map dz) sp)/\(P.qs.length=0\/∃ el sp,d2=.slice el sp/\el.length=P.qs.length)/\(P.vs.length=0\/∃ el sp,d3=.slice el sp/\el.length=P.vs.length)/\(P.ts.length=0\/∃ el sp,d4=.slice el sp/\el.length=P.ts.length)/\(P.us.length=0\/∃ el sp,d5=.slice el sp/\el.length=P.us.length)/\(P.on.length=0\/∃ el sp,d6=.slice el sp/\el.length=P.on.length):=by
 obtain ⟨cs,rfl,hcs⟩:=okWide_struct Tryz.underlying27 hv;obtain ⟨fuel,hf⟩:=h;obtain ⟨xs,n,_,hxy,hl,hxl,hfs⟩:=DataW.trod_struct Tryz.underlying27 hf;have hc:(Value.agg cs).cells=cs:=rfl;rw [hc] at hl hfs;rw [cellsP] at hl;have hxl8:xs.length=8:=hxl;obtain ⟨y0,y1,y2,y3,y4,y5,y6,y7,rfl⟩:=eight hxl8;obtain ⟨a0,a1,a2,a3,a4,a5,a6,a7,hcl⟩:=eight hl;rw [hcl] at hfs;have g0:=hfs 0 _ rfl;have g1:=hfs 1 _ rfl;have g2:=hfs 2 _ rfl;have g3:=hfs 3 _ rfl;have g4:=hfs 4 _ rfl;have g5:=hfs 5 _ rfl;have g6:=hfs 6 _ rfl;have g7:=hfs 7 _ rfl;simp [cellsS,cellsR,cellsQ,cellsSS,cellsII,cellsI] at g0 g1 g2 g3 g4 g5 g6 g7;obtain ⟨nm,e0,_,_⟩:=DataW.trod_string Tryz.underlying9 g0;obtain ⟨ao,ln1,ac,rfl,n1,t1⟩:=slice_shape Tryz.underlying22 g1;obtain ⟨qo,ln2,qc,rfl,n2,t2⟩:=slice_shape Tryz.underlying23 g2;obtain ⟨vo,ln3,vc,rfl,n3,t3⟩:=slice_shape Tryz.underlying24 g3;obtain ⟨tto,ln4,tc,rfl,n4,t4⟩:=slice_shape Tryz.underlying24 g4;obtain ⟨uo,ln5,uc,rfl,n5,t5⟩:=slice_shape Tryz.underlying25 g5;obtain ⟨oo,ln6,oc,rfl,n6,t6⟩:=slice_shape Tryz.underlying25 g6;obtain ⟨ms,e7,_,_⟩:=DataW.trod_int Tryz.underlying3 g7;obtain ⟨l,rfl,_,hr,hk,hd1⟩:=open_rowsZ t1;obtain ⟨qs,rfl,hq⟩:=open_queues t2;obtain ⟨vs,rfl,_,hvs,_⟩:=open_texts t3;obtain ⟨ts,rfl,_,hts,_⟩:=open_texts t4;obtain ⟨l5,rfl,hz5,hi5,_,_⟩:=open_numsW t5;obtain ⟨l6,rfl,hz6,_,_,_⟩:=open_numsW t6;have e2:=slice_len Tryz.underlying23 t2;have e3:=slice_len Tryz.underlying24 t3;have e4:=slice_len Tryz.underlying24 t4;have e5:=slice_len Tryz.underlying25 t5;have e6:=slice_len Tryz.underlying25 t6;simp only [List.cons.injEq,and_true] at e0 e7;subst e0 e7;simp only [Prod.mk.injEq,List.map_cons,List.map_nil] at hxy;refine ⟨⟨nm,l,qs,vs,ts,l5,l6,ms⟩,ao,qo,vo,tto,uo,oo,ac,qc,vc,tc,uc,oc,y0.1,y1.1,y2.1,y3.1,y4.1,y5.1,y6.1,y7.1,?_,⟨hr,hq,strs_vals hvs,strs_vals hts,hz5,hz6⟩,n1,hk,hi5,hxy.1,hd1,e2,e3,e4,e5,e6⟩;have ha:cs=#[.string nm,.slice ao l.length ac,.slice qo qs.length qc,.slice vo vs.length vc,.slice tto ts.length tc,.slice uo l5.length uc,.slice oo l6.length oc,.int .i64 ms]:=by
  apply Array.toList_inj.1
  exact hcl
 rw [ha]
end
theorem bytes_que:Tryz.prog.bytesOf 77=24:=by kernel_rfl
theorem polL_reach {H:Type} {ts:List TypeId} {ds:List (DataW H)} (hsz:(DataW.weightsEach Tryz.prog ts ds).all (· <= reachBytes)=true) {j:Nat} {P:Pg} {d0 d1 d2 d3 d4 d5 d6 d7:DataW H} (ht:ts[j]?=some 27) (hd:ds[j]?=some (.agg [d0,d1,d2,d3,d4,d5,d6,d7])) (h:P.rows=[]\/∃ sp,d1=.slice (P.rows.map dz) sp) (h2:P.qs.length=0\/∃ el sp,d2=.slice el sp/\el.length=P.qs.length) (h3:P.vs.length=0\/∃ el sp,d3=.slice el sp/\el.length=P.vs.length) (h4:P.ts.length=0\/∃ el sp,d4=.slice el sp/\el.length=P.ts.length) (h5:P.us.length=0\/∃ el sp,d5=.slice el sp/\el.length=P.us.length) (h6:P.on.length=0\/∃ el sp,d6=.slice el sp/\el.length=P.on.length):
  Lm P/\∀ r ∈ P.rows,r.name.size<=140737488351232:=by
 have hs:(DataW.weightsEach Tryz.prog [9,22,23,24,24,25,25,3] [d0,d1,d2,d3,d4,d5,d6,d7]).all (· <= reachBytes)=true:=by
  refine List.all_eq_true.2 fun x hx=>?_;refine List.all_eq_true.1 hsz x (DataW.weights_mem_each ht hd x ?_)
  simpa [DataW.weights,Tryz.underlying27] using hx
 have h1:=rows_reach hs (j:=1) rfl rfl h;refine ⟨⟨h1.1,?_,?_,?_,nums_reachJ hs (j:=5) rfl rfl h5,nums_reachJ hs (j:=6) rfl rfl h6⟩,h1.2⟩
 ·rcases h2 with h2 | ⟨el,sp,rfl,h2⟩
  ·omega
  ·have:=sized_slice hs (j:=2) rfl rfl Tryz.underlying23;rw [bytes_que] at this;simp only [reachBytes] at this;omega
 ·rcases h3 with h3 | ⟨el,sp,rfl,h3⟩
  ·omega
  ·have:=sized_slice hs (j:=3) rfl rfl Tryz.underlying24;rw [bytes9] at this;simp only [reachBytes] at this;omega
 ·rcases h4 with h4 | ⟨el,sp,rfl,h4⟩
  ·omega
  ·have:=sized_slice hs (j:=4) rfl rfl Tryz.underlying24;rw [bytes9] at this;simp only [reachBytes] at this;omega
end Go.Proofs.YtbledbjcghaanaaGreat.Nm.Ty
namespace Go.Proofs.YtbledbjcghaanaaGreat.typedChecks
open Go.ChangeShapes Go.WideShapes Go.ChangeAt Go.RowKit
open Sp Lx Gr Nm
theorem contractF (H:Type) (enc:TypeId × Value->H) (W:World) (base:Nat) (args:Array Value) (ds gs:List (DataW H)) (before:List MemPlace)
  (hval:∀ (j:Nat) t v,Tryz.f7.params[j]?=some t->args[j]?=some v->Value.okWide Tryz.prog W .any base t v)
  (hW:DataW.Whole enc Tryz.prog Tryz.f7.params.toList Rows.typedChecksSpec.vars false W args.toList ds gs before)
  (hsz:(DataW.weightsEach Tryz.prog (Tryz.f7.params.toList++Rows.typedChecksSpec.plain.varTypes Tryz.prog) (ds++gs)).all (· <= reachBytes)=true):
  Calls Tryz.prog 7 args W fun e W'=>∃ v,e=.returned v/\Rows.typedChecksSpec.post enc Tryz.prog Tryz.f7 false true false false W args v W':=by
 have hW':=hW;obtain ⟨p,q,hA0,hV,rfl,hfz,hnd⟩:=hW;have hA:DataW.TrodAll enc Tryz.prog W 0 (fun _=>true) true Tryz.f7.params.toList args.toList ds p:=hA0;rw [Tryz.params7] at hA hval hsz;obtain ⟨v0,vs0,d0,ds0,p0,q0,hargs,rfl,rfl,h0,r0⟩:=trodAll_cons hA;obtain ⟨v1,vs1,d1,ds1,p1,q1,rfl,rfl,rfl,h1,r1⟩:=trodAll_cons r0;obtain ⟨rfl,rfl,rfl⟩:=trodAll_nil r1;obtain rfl:args=#[v0,v1]:=by cases args;simp_all
 obtain ⟨rfl,rfl⟩:=trodVars_none hV;have lt0:∀ x ∈ p0,x.block < W.heap.size:=by obtain ⟨m,hm⟩:=h0;exact DataW.trod_lt m _ _ _ hm
 have lt1:∀ x ∈ p1,x.block < W.heap.size:=by obtain ⟨m,hm⟩:=h1;exact DataW.trod_lt m _ _ _ hm
 obtain ⟨P,ao,qo,vo,tto,uo,oo,ac,qc,vc,tc,uc,oc,e0,e1,e2,e3,e4,e5,e6,e7,rfl,hrd,hnil,hkd,hus,rfl,dd1,dd2,dd3,dd4,dd5,dd6⟩:=Ty.open_polL (hval 0 27 v0 rfl rfl) h0;obtain ⟨hlm,hnm⟩:=Ty.polL_reach hsz (j:=0) rfl rfl dd1 dd2 dd3 dd4 dd5 dd6;obtain ⟨csz,co,cc,ql,c0,c1,rfl,hcsz,hq,hqi,hcn,rfl,hd1⟩:=Ty.open_caps (hval 1 39 v1 rfl rfl) h1;refine (Ty.checksWalk P ao qo vo tto uo oo ac qc vc tc uc oc csz co ql cc W hrd hlm hnil (fun r hr=>⟨hkd r hr,by have:=hnm r hr;omega⟩) hq (Ty.caps_reach hsz (j:=1) rfl rfl hd1) hqi hcsz).mono fun e W2 ⟨he,bel⟩=>?_
 subst he;exact ⟨_,rfl,_,_,_,[],_,[],hW',trodAll_mk1 (shut_bool Tryz.underlying4 _),(trodAll_cons_mk (Below.trod laidOut (by kernel_rfl) (of_decide_eq_true (by kernel_rfl)) h0 bel lt0) (trodAll_cons_mk (Below.trod laidOut (by kernel_rfl) (of_decide_eq_true (by kernel_rfl)) h1 bel lt1) trodAll_mk0)),rfl,bel.frame _,fun h=>by cases h⟩
theorem liftedF (os:Os) (started:os.Started) (H:Type) (enc:TypeId × Value->H):
  ReturnsInHanded {} Tryz.checked os 7 .any (Rows.typedChecksSpec.pre6 enc Tryz.prog Tryz.f7 Rows.typedChecksRow.domain false) (Rows.typedChecksSpec.post enc Tryz.prog Tryz.f7 false true false false):=by
 refine returnsInHanded_of_change_sized (C:=Tryz.checked) own started (by kernel_rfl) Tryz.func7
  (ChangeSpec.witness6 (enc:=enc) (C:=Tryz.checked) false ⟨#[],#[.agg #[.string ⟨#[]⟩,.slice none 0 0,.slice none 0 0,.slice none 0 0,.slice none 0 0,.slice none 0 0,.slice none 0 0,.int .i64 0],.agg #[.int .i64 0,.slice none 0 0]],[]⟩ 8 (by kernel_rfl) (by kernel_rfl) (by kernel_rfl) (by kernel_rfl)) ?_
 intro W base args ds gs before hval hW _ hsz _;exact contractF H enc W base args ds gs before hval hW hsz
theorem provedF:Rows.TypedChecksSaid:=
 OpenClaim.holds_of_wide 7 Tryz.f7 rfl rfl rfl rfl rfl rfl rfl ⟨rfl,rfl,rfl,rfl,rfl⟩ rfl rfl rfl rfl rfl (by kernel_rfl) Tryz.func7 (by kernel_rfl)
  (of_decide_eq_true (by kernel_rfl)) (by unfold Func.isWrapper;first | (rw [if_pos (by decide +kernel)];kernel_rfl) | (rw [if_neg (by decide +kernel)];exact ⟨rfl,rfl⟩))
  (fun os started H enc _=>liftedF os started H enc)
end Go.Proofs.YtbledbjcghaanaaGreat.typedChecks
