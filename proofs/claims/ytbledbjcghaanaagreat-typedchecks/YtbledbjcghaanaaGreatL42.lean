import Derived.Test.YtbledbjcghaanaaGreatL41
import Derived.Test.YtbledbjcghaanaaGreatTl
set_option maxHeartbeats 51200000
set_option maxRecDepth 100000
namespace Go.Proofs.YtbledbjcghaanaaGreat.Nm.Ty
open Go.RowKit Go.Maps Sp Lx Gr Nm
theorem kid_con8 {l:List Rz} {gh:Nat->Bool} (h:Whole l) (hf:(fltN l gh l.length).1=0) {i k:Nat} (hi:i < l.length) (hk:k < km l i) (hd:(rat l i).kind=4/\k < 3\/k=0/\((rat l i).kind=5\/(rat l i).kind=6\/(rat l i).kind=13)):(rP l (kidp l i k)).is ≠ 0/\∀ j,kidp l i k<=j->j < endp l (kidp l i k)->(rP l j).changing=false:=by
 have ha:∀ x,(rP l i).asked k x ≠ 0:=by
  intro x;unfold rP;rcases hd with ⟨e,hk3⟩ | ⟨rfl,e | e | e⟩
  ·have h3:k=0\/k=1\/k=2:=by omega
   rw [e];rcases h3 with rfl | rfl | rfl<;>simp [pOf,Prt.asked,askA,askB,askC]
  all_goals
   rw [e];simp [pOf,Prt.asked,askA]
 refine ⟨by rw [kid_is h hf hi hk (ha _)];exact ha _,fun j h1 h2=>?_⟩
 obtain ⟨q1,q2,q3,q4⟩:=kidIn h hi hk;have hj:j < l.length:=by have:=(end_kid h q2).2.2;omega
 refine not_changing hf hj ?_;have ht:=con_till (l:=l) (i:=i) (j:=j) (by omega)
 have h3:endp l (kidp l i k)<=tillZ l i:=by
  unfold tillZ;dsimp only;by_cases h13:(rat l i).kind=13
  ·rw [if_neg (by omega),if_pos h13]
   have e0:k=0:=by omega
   rw [e0,kid_zero];exact Nat.le_refl _
  ·rw [if_pos (by omega)]
   exact q3
 omega
theorem kid_first8 {P:Pg} (h:IsOk P):∀ i,i < P.rows.length->((rat P.rows i).kind=5\/(rat P.rows i).kind=6\/(rat P.rows i).kind=13)->0 < km P.rows i:=by
 obtain ⟨p,h1,rfl⟩:=h;have t:=res_told8 h1;intro i hi hk;have h2:=(t.kids i hi).1;show 0 < km p.rows i;have e:0 < least (rat p.rows i).kind:=by
  rcases hk with hk | hk | hk
  ·rw [show (rat p.rows i).kind=5 from hk];decide
  ·rw [show (rat p.rows i).kind=6 from hk];decide
  ·rw [show (rat p.rows i).kind=13 from hk];decide
 omega
theorem cell_three8 (w:World) (T:TypeId) (a b c:Value):∀ j u,[a,b,c][j]?=some u->(w.alloc (.cells #[a,b,c] T)).cell? ((⟨w.heap.size,0,none⟩:Addr).add j)=some u:=by
 intro j u h;exact Lib.cells_of_row (heap_alloc_new w (.cells #[a,b,c] T)) 3 j u (by simpa using h)
theorem rcheck8 {P:Pg} {ao qo vo tto uo oo co:Option Addr} {ac qc vc tc uc oc nc cc:Nat} {size:Int} {cs:Nat->Int} {w:World} (h:RdG w P ao qo vo tto uo oo) (hs:P.Sm) (hkd:∀ r ∈ P.rows,r.kids<=9223372036854775807/\r.name.size<=4611686018427387000) (hc:IsVals w co (fL nc (fun i=>I (cs i)))) (hcl:nc<=17592186043904):
  Calls Tryz.prog 26 #[pvG P ao qo vo tto uo oo ac qc vc tc uc oc,.agg #[I size,.slice co nc cc]] w fun e w'=>Below w.heap.size w w'/\ChkQ P size cs nc w e w':=by
 have H1:Hid (Cq w ((((w.alloc (.cells (pC P ao ac qo qc vo vc tto tc uo uc oo oc) 27)).alloc (.cells #[I size,.slice co nc cc] 39)).alloc (.cells #[pz,pz,pz] 51)).alloc (.cells #[I 0,I 0] 32)) (pC P ao ac qo qc vo vc tto tc uo uc oo oc) #[I size,.slice co nc cc]):=cq_start w _ _;have HG:=hdn <| h;have HS:=hdn <| hs;have HKd8:=hdn <| hkd;have HC:Hid (IsVals w co (fL nc (fun i=>I (cs i)))):=hc;have HCl:Hid (nc<=17592186043904):=hcl;have HTr:=hdn <| tyo_ref (ac:=ac) (qc:=qc) (vc:=vc) (tc:=tc) (uc:=uc) (oc:=oc) (h.below H1.out.be) hs hkd;obtain ⟨k0,k1,k2,k3,k4,k5,k6,k7⟩:=zr8 H1.out.p;dsimp only [pvG] at *;clear h hs hkd hc hcl;go_enter Tryz.func26,Tryz.ntmps26;go_wp2_with fail;generalize ((((w.alloc (.cells (pC P ao ac qo qc vo vc tto tc uo uc oo oc) 27)).alloc (.cells #[I size,.slice co nc cc] 39)).alloc (.cells #[pz,pz,pz] 51)).alloc (.cells #[I 0,I 0] 32))=w1 at *;refine Calls.mono HTr.out ?_;rintro e w2 ⟨⟨xo,L,xc,fe,fa,rfl,hT⟩,hb2⟩;have hb3:Below w2.heap.size w2 (w2.alloc (.cells #[I fe,I fa] 32)):=bAl w2 _;have H3:=hdn <| (H1.out.below hb2).below hb3;have HX3:=hdn <| heap_alloc_new w2 (.cells #[I fe,I fa] 32);have HT:=hdn <| hT.2.2.2;have HL:Hid (w.heap.size+1+1+1 < w2.heap.size):=blk_lt (H1.out.below hb2).f;clear H1 hb2 hb3 HTr hT k0 k1 k2 k3 k4 k5 k6 k7;by_cases h0:fe=0
 ·subst h0;obtain ⟨hok,hfl,rfl⟩:IsOk P/\(fltN P.rows (ghL P.qs) P.rows.length).1=0/\fa=0:=by
   rcases HT.out with ⟨_,_,c,_⟩ | ⟨_,b,_,d,_⟩ | ⟨a,b,_,_,e⟩
   ·cases c
   ·exact absurd (by omega) b
   ·exact ⟨a,b,e⟩
  have HOk:Hid (IsOk P):=hok;have HFl:Hid ((fltN P.rows (ghL P.qs) P.rows.length).1=0):=hfl;have HFt:=hdn <| rfit_any (ac:=ac) (qc:=qc) (vc:=vc) (tc:=tc) (uc:=uc) (oc:=oc) (cc:=cc) (size:=size) (HG.out.below H3.out.be) HS.out HKd8.out (IsVals.below HC.out H3.out.be) HCl.out;dsimp only [pvG] at HFt;obtain ⟨k0,k1,k2,k3,k4,k5,k6,k7⟩:=zr8 H3.out.p;obtain ⟨d0,d1⟩:=fcells2 H3.out.c;obtain ⟨f0,f1⟩:=fcells2 HX3.out;clear hok hfl HT;go_wp2_with fail;generalize w2.alloc (.cells #[I 0,I 0] 32)=w3 at *;refine Calls.mono HFt.out ?_;rintro e w4 ⟨hb4,hcase⟩;obtain rfl:e=.returned (.agg #[I (fitE (ghL P.qs) P.qs.length size cs nc),I 0]):=by
   rcases hcase with ⟨h1,_⟩ | ⟨_,h2⟩
   ·exact absurd HOk.out h1
   ·exact h2
  have H4:=hdn <| H3.out.below hb4;have HX4:Hid (w4.heap[w2.heap.size]?=some (.cells #[I 0,I 0] 32 (0,0))):=(hb4.block _ (blk_lt HX3.out)).trans HX3.out;obtain ⟨fE,hfE⟩:∃ x,x=fitE (ghL P.qs) P.qs.length size cs nc:=⟨_,rfl⟩;have HFe:Hid (fitE (ghL P.qs) P.qs.length size cs nc=fE):=hfE.symm;rw [<-hfE];clear hb4 hcase HFt H3 HX3 k0 k1 k2 k3 k4 k5 k6 k7 d0 d1 f0 f1 hfE;obtain ⟨f0,f1⟩:=fcells2 HX4.out;have hfz:=zr8f HX4.out;obtain ⟨p1,p2,p3⟩:=put2M (B:=w2.heap.size) (v0:=I fE) (v1:=I 0) H4.out.be (by have:=HL.out;omega) HX4.out
  have H5:Hid (Cq w ((w4.setCell ⟨w2.heap.size,0,none⟩ (I fE)).setCell ⟨w2.heap.size,1,none⟩ (I 0)) (pC P ao ac qo qc vo vc tto tc uo uc oo oc) #[I size,.slice co nc cc]):=⟨(p3 _ (by have:=HL.out;omega)).trans H4.out.p,(p3 _ (by have:=HL.out;omega)).trans H4.out.c,(p3 _ (by have:=HL.out;omega)).trans H4.out.t,(p3 _ (by have:=HL.out;omega)).trans H4.out.f,p2⟩
  have HX5:=hdn <| p1;have HL5:Hid (w.heap.size+1+1+1 < ((w4.setCell ⟨w2.heap.size,0,none⟩ (I fE)).setCell ⟨w2.heap.size,1,none⟩ (I 0)).heap.size):=blk_lt H5.out.f;clear p1 p2 p3;by_cases hz:fE=0
  ·have z1:(fE != 0)=false:=by simp [hz]
   have HRu:Hid ((ruZ P size cs nc).1=0):=by
    show (ruZ P size cs nc).1=0
    unfold ruZ;rw [if_pos HFl.out];show fitE (ghL P.qs) P.qs.length size cs nc=0;rw [HFe.out,hz]
   have HFit:=hdn <| fit_rng8 (HFe.out.trans hz);have hln:(P.rows.length:Int)<=2932031007317:=by have:=HS.out.r;omega
   obtain ⟨hRd,hRc⟩:=rdy_of HS.out HOk.out;have HTz:Hid (TreeZ P.rows):=hRd.t;have HZz:Hid (Stz P.rows):=hRc.z;obtain ⟨gr,or,rfl,_⟩:=row_cells (HG.out.below H5.out.be).r hRd.n;have HVk:Hid (∀ i k,i < P.rows.length->k < km P.rows i->((rat P.rows i).kind=4/\k < 3\/k=0/\((rat P.rows i).kind=5\/(rat P.rows i).kind=6\/(rat P.rows i).kind=13))->∀ W:World,IsRz W (some ⟨gr,or,none⟩) P.rows->IsVals W co (fL nc (fun i=>I (cs i)))->Calls Tryz.prog 47 #[.agg (pC P (some ⟨gr,or,none⟩) ac qo qc vo vc tto tc uo uc oo oc),.agg #[I size,.slice co nc cc],I ((kidp P.rows i k:Nat):Int)] W fun e w'=>e=.returned (I (vB P.rows size cs P.rows.length (kidp P.rows i k)))/\Below W.heap.size W w'):=by
    intro i k hi hk hd W hW hC;have h32:∀ i,i < P.rows.length->(rat P.rows i).kind=32->∃ m:Nat,(rat P.rows i).n=(m:Int)/\m < nc:=fun i hi hk=>by
     obtain ⟨m,h1,h2⟩:=hRc.c i hi hk;exact ⟨m,h1,by rw [HFit.out.2.1];exact h2⟩
    obtain ⟨h1,h2⟩:=kid_con8 hRd.t.whole HFl.out hi hk hd;exact rvalue8 (gh:=ghL P.qs) HOk.out hRd.t HS.out.r HFl.out (kd_val HOk.out) (fun j hj=>vB_rng hRd.t.whole HFl.out HFit.out.1 (num_of HOk.out) (fun i hi hk=>by
      obtain ⟨m,e1,e2⟩:=h32 i hi hk;rw [e1,Int.toNat_natCast];exact HFit.out.2.2 m e2) _ j (Nat.le_refl _) hj) h32 HCl.out _ _ (Nat.le_refl _) (kidIn hRd.t.whole hi hk).2.1 h1 h2 W hW hC
   have HF0:Hid (∀ i,i < P.rows.length->((rat P.rows i).kind=5\/(rat P.rows i).kind=6\/(rat P.rows i).kind=13)->0 < km P.rows i):=kid_first8 HOk.out;obtain ⟨V,hV⟩:∃ V,V=vB P.rows size cs P.rows.length:=⟨_,rfl⟩;rw [<-hV] at HVk;have HQ:Hid (∀ e W',StlQ P.rows V w e W'->ChkQ P size cs nc w e W'):=fun e W' h=>Or.inr (Or.inr ⟨HOk.out,HRu.out,by rw [<-hV];exact h⟩)
   obtain ⟨M,hmk,hM⟩:=mk_ints P.rows.length (by have:=HS.out.r;omega)
   have HM:Hid (∀ W:World,RowI (W.alloc (.cells M 3)) W.heap.size P.rows.length (fun _=>0)):=hM;clear hRd hRc hV hM hz HFit HFe HFl HOk HRu HX5
   go_upto_region 6 with fail
   generalize ((w4.setCell ⟨w2.heap.size,0,none⟩ (I fE)).setCell ⟨w2.heap.size,1,none⟩ (I 0))=w5 at *;clear hfz f0 f1 H4 HX4;have hb3:Below w5.heap.size w5 ((w5.alloc (.cells M 3)).alloc (.cells #[pz,pz,.slice (pZ w5.heap.size) P.rows.length P.rows.length] 51)):=(bAl w5 _).alloc (by simp) _
   have HS3:Hid (Sd ((w5.alloc (.cells M 3)).alloc (.cells #[pz,pz,.slice (pZ w5.heap.size) P.rows.length P.rows.length] 51)) P.rows.length (w5.heap.size+1) w5.heap.size pz pz [] [] (fun _=>0)):=⟨alloc_at _ _ _ (by simp),(HM.out w5).of_block (alloc_old _ _ _ (by simp)),World.ownsRow_nil _ _ _ _,World.ownsRow_nil _ _ _ _,Nat.lt_succ_self _⟩
   have HB3:=hdn <| hb3;obtain ⟨k0,k1,k2,k3,k4,k5,k6,k7⟩:=zr8 H5.out.p;clear hb3;go_wp2_with fail;generalize ((w5.alloc (.cells M 3)).alloc (.cells #[pz,pz,.slice (pZ w5.heap.size) P.rows.length P.rows.length] 51))=w6 at *;clear k0 k1 k2 k3 k4 k5 k6 k7 hmk HM
   go_loopg [9] P.rows.length (fun gq x wr=>∃ (k:Nat) (vv tv:Value),k<=P.rows.length/\gq=P.rows.length - k/\x=I (k:Int)/\(setN P.rows V k).1=0/\Sd wr P.rows.length (w5.heap.size+1) w5.heap.size vv tv (setV P.rows V k) (setT P.rows V k) (setR P.rows V k)/\Below w5.heap.size w5 wr)
   case atStart=>exact ⟨0,pz,pz,Nat.zero_le _,rfl,rfl,rfl,HS3.out,HB3.out⟩
   case round=>
    obtain ⟨k,vv,tv,hk,hgk,rfl,hno,hS,hB⟩:=hrel;have HGk:Hid (gk=P.rows.length - k):=hgk;have HSr:=hdn <| hS;have HBr:Hid (Below w5.heap.size w5 wr):=hB;have HNo:Hid ((setN P.rows V k).1=0):=hno;have HDr:Hid (Cq w wr (pC P (some ⟨gr,or,none⟩) ac qo qc vo vc tto tc uo uc oo oc) #[I size,.slice co nc cc]):=H5.out.below hB;obtain ⟨k0,k1,k2,k3,k4,k5,k6,k7⟩:=zr8 HDr.out.p;have hkl:(k:Int)<=2932031007317:=by omega
    clear hgk hS hB hno HS3 HB3;by_cases hlt:k < P.rows.length
    ·have hlt':(k:Int) < (P.rows.length:Int):=by omega
     have HKs:=hdn <| rkids8 (cap:=ac) k ((HG.out.below HDr.out.be).r) HS.out.r HTz.out hlt;have HLt:Hid (k < P.rows.length):=hlt;have HN4:Hid (∀ c:Nat,c ≠ 0->setE P.rows V k=c->(setN P.rows V P.rows.length).1 ≠ 0/\Ending.returned (.tuple #[.agg #[pz,pz,pz],.agg #[I (c:Int),I (k:Int)]])=.returned (.tuple #[.agg #[pz,pz,pz],.agg #[I ((setN P.rows V P.rows.length).1:Int),I ((setN P.rows V P.rows.length).2:Int)]])):=fun c hc he=>by
      have h1:=setN_next HNo.out (by rw [he];exact hc)
      rw [setN_stays (n:=k+1) (by rw [h1,he];exact hc) P.rows.length HLt.out,h1,he]
      exact ⟨hc,rfl⟩
     clear hk;go_wp2_with fail;refine Calls.mono HKs.out ?_;rintro e x1 ⟨v,rfl,ho,hb⟩;obtain ⟨bo,bc,rfl⟩:=own_form ho;have HOw:Hid (∀ j,j < km P.rows k->∃ b,bo=some ⟨b,0,none⟩/\b < x1.heap.size/\x1.cell? ⟨b,j,none⟩=some (I ((kidp P.rows k j:Nat):Int))):=fun j hj=>by
      obtain ⟨b,c,e,_,hlt,hcl⟩:=own_ints ho (by omega)
      cases e;exact ⟨b,rfl,hlt,hcl j _ (by simp [kl,Go.Proofs.YtbledbjcghaanaaGreat.Nm.Ty.nc,hj])⟩
     have HD1:Hid (Cq w x1 (pC P (some ⟨gr,or,none⟩) ac qo qc vo vc tto tc uo uc oo oc) #[I size,.slice co nc cc]):=HDr.out.below hb;have HS1:=hdn <| HSr.out.below hb;have HB1:Hid (Below w5.heap.size w5 x1):=HBr.out.trans (hb.mono HBr.out.size);have HR1:Hid (IsRz x1 (some ⟨gr,or,none⟩) P.rows/\IsVals x1 co (fL nc (fun i=>I (cs i)))):=⟨(HG.out.below HD1.out.be).r,IsVals.below HC.out HD1.out.be⟩;obtain ⟨g',o',e',_,m0,_⟩:=row_cells HR1.out.1 hlt;cases e';clear k0 k1 k2 k3 k4 k5 k6 k7 ho hb HKs HSr HDr HBr;obtain ⟨k0,k1,k2,k3,k4,k5,k6,k7⟩:=zr8 HD1.out.p;obtain ⟨kd,hkd⟩:∃ x,x=(rat P.rows k).kind:=⟨_,rfl⟩;rw [<-hkd] at m0;have HKd:Hid ((rat P.rows k).kind=kd):=hkd.symm;clear hkd hlt;by_cases h4:kd=4
     ·have e4:(kd == 4)=true:=by rw [h4];rfl
      have hkm:km P.rows k=3:=HZz.out.v k HLt.out (by rw [HKd.out];exact h4)
      obtain ⟨b,rfl,hbl,hb0⟩:=HOw.out 0 (by omega)
      have HB0:Hid ((∀ j,j < 3->x1.cell? ⟨b,j,none⟩=some (I ((kidp P.rows k j:Nat):Int)))/\b < x1.heap.size):=⟨fun j hj=>by
       obtain ⟨b',e,_,h2⟩:=HOw.out j (by omega)
       cases e;exact h2,hbl⟩
      obtain ⟨p,hp⟩:∃ y,y=V (kidp P.rows k 0):=⟨_,rfl⟩;obtain ⟨q,hq⟩:∃ y,y=V (kidp P.rows k 1):=⟨_,rfl⟩;obtain ⟨r,hr⟩:∃ y,y=V (kidp P.rows k 2):=⟨_,rfl⟩;have HV0:=hdn <| HVk.out k 0 HLt.out (by omega) (Or.inl ⟨by rw [HKd.out];exact h4,by omega⟩)
      have HV1:=hdn <| HVk.out k 1 HLt.out (by omega) (Or.inl ⟨by rw [HKd.out];exact h4,by omega⟩)
      have HV2:=hdn <| HVk.out k 2 HLt.out (by omega) (Or.inl ⟨by rw [HKd.out];exact h4,by omega⟩)
      rw [<-hp] at HV0;rw [<-hq] at HV1;rw [<-hr] at HV2;have HEq:Hid (setE P.rows V k=if p < q\/r < p then 43 else 0):=by show setE _ _ _=_;unfold setE;rw [HKd.out,if_pos h4,<-hp,<-hq,<-hr]
      have HVe:Hid (setV P.rows V (k+1)=setV P.rows V k++[(p,q,r)]/\setT P.rows V (k+1)=setT P.rows V k/\setR P.rows V (k+1)=setR P.rows V k):=⟨(if_pos (by rw [HKd.out];exact h4)).trans (by rw [hp,hq,hr]),if_neg (by rw [HKd.out];omega),if_neg (by rw [HKd.out];omega)⟩
      have HVl:Hid ((setV P.rows V k).length<=2932031007317):=by have h1:=setV_le P.rows V k;have h2:=HLt.out;show _<=_;omega
      have HSb:Hid (∀ W:World,Below x1.heap.size x1 W->(fun w':World=>w'.heap[w.heap.size]?=some (.cells (pC P (some ⟨gr,or,none⟩) ac qo qc vo vc tto tc uo uc oo oc) 27 (0,0))/\w'.heap[w.heap.size+1]?=some (.cells #[I size,.slice co nc cc] 39 (0,0))/\w'.cell? ⟨b,0,none⟩=some (I ((kidp P.rows k 0:Nat):Int))/\w'.cell? ⟨b,1,none⟩=some (I ((kidp P.rows k 1:Nat):Int))/\w'.cell? ⟨b,2,none⟩=some (I ((kidp P.rows k 2:Nat):Int))) W):=fun W hb=>⟨(hb.block _ (blk_lt HD1.out.p)).trans HD1.out.p,(hb.block _ (blk_lt HD1.out.c)).trans HD1.out.c,(hb.cell (p:=⟨b,0,none⟩) HB0.out.2).trans (HB0.out.1 0 (by omega)),(hb.cell (p:=⟨b,1,none⟩) HB0.out.2).trans (HB0.out.1 1 (by omega)),(hb.cell (p:=⟨b,2,none⟩) HB0.out.2).trans (HB0.out.1 2 (by omega))⟩
      clear hb0 hbl hp hq hr h4 HOw HB0
      go_upto_region 13 with fail
      clear k0 k1 k2 k3 k4 k5 k6 k7 m0
      go_cut [11] from 35 to 150 (fun s11 wx=>∃ g,s11=.pointer (pZ g)/\Below x1.heap.size x1 wx/\x1.heap.size<=g/\wx.heap[g]?=some (.cells #[I p,I q,I r] 59 (0,0)))
      case rest=>
       obtain ⟨g,rfl,hbx,hg,hgc⟩:=hcut;have HD2:=hdn <| HD1.out.below hbx;have HS2:=hdn <| HS1.out.below hbx;have HB2:Hid (Below w5.heap.size w5 wc):=HB1.out.trans (hbx.mono HB1.out.size);have HGc:=hdn <| hgc;obtain ⟨v0,v1,v2⟩:=cells3 hgc;clear hbx hg hgc HD1 HS1 HB1 HR1 HV0 HV1 HV2 HSb hkm;by_cases hy:p < q\/r < p
       ·have HE:Hid (setE P.rows V k=43):=HEq.out.trans (if_pos hy);by_cases hz:p < q
        rotate_right
        focus
         have hy':decide (p < q)=false:=decide_eq_false hz;have hz':decide (p > r)=true:=decide_eq_true (by omega)
        rotate_right
        focus
         have hy':decide (p < q)=true:=decide_eq_true hz
        all_goals
         clear hy hz;obtain ⟨t0,t1,t2⟩:=cells3 HD2.out.t;obtain ⟨f0,f1⟩:=cells2 HD2.out.f;have ft:∀ j,wc.frozen? ⟨w.heap.size+1+1,j,none⟩=false:=fun j=>by have:=HD2.out.t;simp only [World.frozen?,this];rfl
         have ff:∀ j,wc.frozen? ⟨w.heap.size+1+1+1,j,none⟩=false:=fun j=>by have:=HD2.out.f;simp only [World.frozen?,this];rfl
         go_wp2_with fail
         obtain ⟨a1,a2,a3⟩:=put3M (B:=w.heap.size+1+1) (v0:=pz) (v1:=pz) (v2:=pz) HD2.out.be (by omega) HD2.out.t
         obtain ⟨c1,c2,c3⟩:=put2M (B:=w.heap.size+1+1+1) (v0:=I 43) (v1:=I (k:Int)) a2 (by omega) ((a3 _ (by omega)).trans HD2.out.f)
         obtain ⟨y0,y1⟩:=cells2 c1;obtain ⟨u0,u1,u2⟩:=cells3 ((c3 _ (by omega)).trans a1)
         refine bodyPost_ret (v:=.tuple #[.agg #[pz,pz,pz],.agg #[I 43,I (k:Int)]]) (by simp [results,Tryz.results26,go_sem,y0,y1,u0,u1,u2]) rfl ?_
         exact ⟨c2,HQ.out _ _ (Or.inl (HN4.out 43 (by decide) HE.out))⟩
       ·have HE:Hid (setE P.rows V k=0):=HEq.out.trans (if_neg hy);have hy':decide (p < q)=false:=decide_eq_false (by omega)
        have hz':decide (p > r)=false:=decide_eq_false (by omega)
        clear hy
        focus
         obtain ⟨j0,hj,hj0,hj1,hj2⟩:=info_parts infoV;have hb3:Below wc.heap.size wc (wc.alloc (.cells #[I p,I q,I r] 59)):=bAl wc _;have HS3:=hdn <| HS2.out.below hb3;have HB3:Hid (Below w5.heap.size w5 (wc.alloc (.cells #[I p,I q,I r] 59))):=HB2.out.trans (hb3.mono HB2.out.size);obtain ⟨q0,q1,q2⟩:=cells3 HS2.out.b;clear hb3;obtain ⟨bo4,bc4,rfl⟩:=own_form HS2.out.v;go_wp2_with (at_builtin;refine append_gone _ rfl _ _ 49 rfl (w5.heap.size+1+1) 59 j0 (.agg #[I 0,I 0,I 0]) 3 24 Tryz.underlying49 hj hj0 hj1 hj2 rfl (by decide) (.slice bo4 (setV P.rows V k).length bc4) _ (vC (setV P.rows V k)) rfl HS3.out.v ⟨wc.heap.size,0,none⟩ 1 1 [I p,I q,I r] rfl rfl (cell_three8 wc _ _ _ _) (by intro u hu;simp only [List.mem_cons,List.not_mem_nil,or_false] at hu;rcases hu with rfl | rfl | rfl<;>rfl) (by have:=HVl.out;unfold maxLen;omega) (by have:=HVl.out;omega) HS3.out.lts (by decide) ?_)
         intro v4 w7 ho hG;have HS4:=hdn <| HS3.out.pushV hG.1 ho;have HB4:Hid (Below w5.heap.size w5 w7):=HB3.out.trans (((Went.gone hG).low (fun j hj=>(World.ownsRow.lt HS3.out.v j hj).1) HS3.out.lts).mono (by omega))
         have hb4:w7.heap[w5.heap.size+1]?=some (.cells #[.slice bo4 (setV P.rows V k).length bc4,tv,.slice (pZ w5.heap.size) P.rows.length P.rows.length] 51 (0,0)):=(hG.1.block (w5.heap.size+1) HS3.out.lts fun e=>by have:=(World.ownsRow.lt HS3.out.v (w5.heap.size+1) e.symm).1;omega).trans HS3.out.b
         have f4:w7.frozen? ⟨w5.heap.size+1,0,none⟩=false:=by simp only [World.frozen?,hb4];rfl
         obtain ⟨bo5,bc5,rfl⟩:=own_form ho;clear q0 q1 q2 v0 v1 v2;obtain ⟨q0,q1,q2⟩:=cells3 hb4;clear ho hG hb4;go_wp2_with fail;go_roundg (P.rows.length - (k+1))
         case measure=>have h1:=HGk.out;have:=HLt.out;omega
         case rel=>exact ⟨k+1,_,tv,HLt.out,rfl,by go_num,setN_pass HNo.out HE.out,by rw [HVe.out.1,HVe.out.2.1,HVe.out.2.2];exact HS4.out,HB4.out.trans ((Below.refl _ _).setCell (p:=⟨w5.heap.size+1,0,none⟩) (by simp) _)⟩
      have Hb0:Hid (Below x1.heap.size x1 x1.drew):=(Below.refl _ x1).drew;refine wp_region_held (S:=fun w':World=>w'.heap[w.heap.size]?=some (.cells (pC P (some ⟨gr,or,none⟩) ac qo qc vo vc tto tc uo uc oo oc) 27 (0,0))/\w'.heap[w.heap.size+1]?=some (.cells #[I size,.slice co nc cc] 39 (0,0))/\w'.cell? ⟨b,0,none⟩=some (I ((kidp P.rows k 0:Nat):Int))/\w'.cell? ⟨b,1,none⟩=some (I ((kidp P.rows k 1:Nat):Int))/\w'.cell? ⟨b,2,none⟩=some (I ((kidp P.rows k 2:Nat):Int))) (by kernel_rfl) ?_
      have hS:(fun w':World=>w'.heap[w.heap.size]?=some (.cells (pC P (some ⟨gr,or,none⟩) ac qo qc vo vc tto tc uo uc oo oc) 27 (0,0))/\w'.heap[w.heap.size+1]?=some (.cells #[I size,.slice co nc cc] 39 (0,0))/\w'.cell? ⟨b,0,none⟩=some (I ((kidp P.rows k 0:Nat):Int))/\w'.cell? ⟨b,1,none⟩=some (I ((kidp P.rows k 1:Nat):Int))/\w'.cell? ⟨b,2,none⟩=some (I ((kidp P.rows k 2:Nat):Int))) x1.drew:=HSb.out _ Hb0.out;change wpAnyH _ _ _ _ _ _ _ _ x1.drew;generalize x1.drew=y0 at *;refine tzA 0 rfl hS ?_;refine tcA 1 rfl hS ?_;refine tqA 2 rfl hS ?_;refine tqA 3 rfl hS ?_;refine tqA 4 rfl hS ?_;refine tzA 6 rfl hS ?_;refine tcA 7 rfl hS ?_;refine tqA 8 rfl hS ?_;refine tqA 9 rfl hS ?_;refine tqA 10 rfl hS ?_;refine tzA 12 rfl hS ?_;refine tcA 13 rfl hS ?_;refine tqA 14 rfl hS ?_;refine tqA 15 rfl hS ?_;refine tqA 16 rfl hS ?_;refine rd2 5 19 (by kernel_rfl) rfl rfl (fun K hK=>?_) (fun K hK=>?_)
      ·go_simp;refine Calls.mono (HV0.out y0 (IsRz.below HR1.out.1 Hb0.out) (IsVals.below HR1.out.2 Hb0.out)) ?_;rintro e y1 ⟨rfl,hb2⟩;have Hb1:Hid (Below x1.heap.size x1 y1):=Hb0.out.trans (hb2.mono Hb0.out.size);refine hK.out _ _ (HSb.out _ Hb1.out) (fun hS=>?_);clear hK K hb2;refine rd2 11 19 (by kernel_rfl) rfl rfl (fun K hK=>?_) (fun K hK=>?_)
       ·go_simp;refine Calls.mono (HV1.out y1 (IsRz.below HR1.out.1 Hb1.out) (IsVals.below HR1.out.2 Hb1.out)) ?_;rintro e y2 ⟨rfl,hb2⟩;have Hb2:Hid (Below x1.heap.size x1 y2):=Hb1.out.trans (hb2.mono Hb1.out.size);refine hK.out _ _ (HSb.out _ Hb2.out) (fun hS=>?_);clear hK K hb2;refine rd2 17 19 (by kernel_rfl) rfl rfl (fun K hK=>?_) (fun K hK=>?_)
        ·go_simp;refine Calls.mono (HV2.out y2 (IsRz.below HR1.out.1 Hb2.out) (IsVals.below HR1.out.2 Hb2.out)) ?_;rintro e y3 ⟨rfl,hb2⟩;have Hb3:Hid (Below x1.heap.size x1 y3):=Hb2.out.trans (hb2.mono Hb2.out.size);refine hK.out _ _ (HSb.out _ Hb3.out) (fun hS=>?_);clear hK K hb2;refine rd2 18 19 (by kernel_rfl) rfl rfl (fun K hK=>?_) (fun K hK=>?_)
         ·go_simp;refine hK.out _ _ hS (fun hS=>?_);clear hK K;refine rd1 19 rfl fun K hK=>?_;go_simp;have Hb4:Hid (Below x1.heap.size x1 (y3.alloc (.cells #[I 0,I 0,I 0] 59))):=Hb3.out.alloc Hb3.out.size _;have Hg:Hid ((y3.alloc (.cells #[I 0,I 0,I 0] 59)).heap[y3.heap.size]?=some (.cells #[I 0,I 0,I 0] 59 (0,0))/\x1.heap.size<=y3.heap.size):=⟨heap_alloc_new _ _,Hb3.out.size⟩;refine hK.out _ _ (HSb.out _ Hb4.out) (fun hS=>?_);clear hK K;generalize (y3.alloc (.cells #[I 0,I 0,I 0] 59))=y4 at *;generalize y3.heap.size=g at *;obtain ⟨s0,s1,s2⟩:=cells3 Hg.out.1;have fz:∀ j,y4.frozen? ⟨g,j,none⟩=false:=fun j=>by have:=Hg.out.1;simp only [World.frozen?,this];rfl
          refine rd1 20 rfl fun K hK=>?_;go_simp;obtain ⟨a1,a2,a3⟩:=put3M (B:=g) (v0:=I p) (v1:=I q) (v2:=I r) Hb4.out Hg.out.2 Hg.out.1;refine hK.out _ _ (HSb.out _ a2) (fun hS=>?_);refine wpAnyH_done (by kernel_rfl) ?_ _
          have HA1:Hid (_/\_):=⟨a1,a2⟩;clear hK K hS s0 s1 s2 fz a1 a2 a3;go_wp2_with fail;go_meet
          case rel=>exact ⟨g,rfl,HA1.out.2,Hg.out.2,HA1.out.1⟩
         ·go_simp;have Hb5:Hid (Below x1.heap.size x1 (y3.alloc (.cells #[I 0,I 0,I 0] 59))):=Hb3.out.alloc Hb3.out.size _;have Hg:Hid ((y3.alloc (.cells #[I 0,I 0,I 0] 59)).heap[y3.heap.size]?=some (.cells #[I 0,I 0,I 0] 59 (0,0))/\x1.heap.size<=y3.heap.size):=⟨heap_alloc_new _ _,Hb3.out.size⟩;refine hK.out _ _ (HSb.out _ Hb5.out) (fun hS=>?_);clear hK K;generalize (y3.alloc (.cells #[I 0,I 0,I 0] 59))=y5 at *;generalize y3.heap.size=g at *;refine rd1 18 rfl fun K hK=>?_;go_simp;refine hK.out _ _ hS (fun hS=>?_);clear hK K;obtain ⟨s0,s1,s2⟩:=cells3 Hg.out.1;have fz:∀ j,y5.frozen? ⟨g,j,none⟩=false:=fun j=>by have:=Hg.out.1;simp only [World.frozen?,this];rfl
          refine rd1 20 rfl fun K hK=>?_;go_simp;obtain ⟨a1,a2,a3⟩:=put3M (B:=g) (v0:=I p) (v1:=I q) (v2:=I r) Hb5.out Hg.out.2 Hg.out.1;refine hK.out _ _ (HSb.out _ a2) (fun hS=>?_);refine wpAnyH_done (by kernel_rfl) ?_ _
          have HA1:Hid (_/\_):=⟨a1,a2⟩;clear hK K hS s0 s1 s2 fz a1 a2 a3;go_wp2_with fail;go_meet
          case rel=>exact ⟨g,rfl,HA1.out.2,Hg.out.2,HA1.out.1⟩
        ·go_simp;have Hb6:Hid (Below x1.heap.size x1 (y2.alloc (.cells #[I 0,I 0,I 0] 59))):=Hb2.out.alloc Hb2.out.size _;have Hg:Hid ((y2.alloc (.cells #[I 0,I 0,I 0] 59)).heap[y2.heap.size]?=some (.cells #[I 0,I 0,I 0] 59 (0,0))/\x1.heap.size<=y2.heap.size):=⟨heap_alloc_new _ _,Hb2.out.size⟩;refine hK.out _ _ (HSb.out _ Hb6.out) (fun hS=>?_);clear hK K;generalize (y2.alloc (.cells #[I 0,I 0,I 0] 59))=y6 at *;generalize y2.heap.size=g at *;refine rd1 17 rfl fun K hK=>?_;go_simp;refine Calls.mono (HV2.out y6 (IsRz.below HR1.out.1 Hb6.out) (IsVals.below HR1.out.2 Hb6.out)) ?_;rintro e y7 ⟨rfl,hb2⟩;have Hb7:Hid (Below x1.heap.size x1 y7):=Hb6.out.trans (hb2.mono Hb6.out.size);refine hK.out _ _ (HSb.out _ Hb7.out) (fun hS=>?_);replace Hg:Hid (y7.heap[g]?=some (.cells #[I 0,I 0,I 0] 59 (0,0))/\x1.heap.size<=g):=⟨(hb2.block _ (blk_lt Hg.out.1)).trans Hg.out.1,Hg.out.2⟩;clear hK K hb2;refine rd1 18 rfl fun K hK=>?_;go_simp;refine hK.out _ _ hS (fun hS=>?_);clear hK K;obtain ⟨s0,s1,s2⟩:=cells3 Hg.out.1;have fz:∀ j,y7.frozen? ⟨g,j,none⟩=false:=fun j=>by have:=Hg.out.1;simp only [World.frozen?,this];rfl
         refine rd1 20 rfl fun K hK=>?_;go_simp;obtain ⟨a1,a2,a3⟩:=put3M (B:=g) (v0:=I p) (v1:=I q) (v2:=I r) Hb7.out Hg.out.2 Hg.out.1;refine hK.out _ _ (HSb.out _ a2) (fun hS=>?_);refine wpAnyH_done (by kernel_rfl) ?_ _
         have HA1:Hid (_/\_):=⟨a1,a2⟩;clear hK K hS s0 s1 s2 fz a1 a2 a3;go_wp2_with fail;go_meet
         case rel=>exact ⟨g,rfl,HA1.out.2,Hg.out.2,HA1.out.1⟩
       ·go_simp;have Hb8:Hid (Below x1.heap.size x1 (y1.alloc (.cells #[I 0,I 0,I 0] 59))):=Hb1.out.alloc Hb1.out.size _;have Hg:Hid ((y1.alloc (.cells #[I 0,I 0,I 0] 59)).heap[y1.heap.size]?=some (.cells #[I 0,I 0,I 0] 59 (0,0))/\x1.heap.size<=y1.heap.size):=⟨heap_alloc_new _ _,Hb1.out.size⟩;refine hK.out _ _ (HSb.out _ Hb8.out) (fun hS=>?_);clear hK K;generalize (y1.alloc (.cells #[I 0,I 0,I 0] 59))=y8 at *;generalize y1.heap.size=g at *;refine rd1 11 rfl fun K hK=>?_;go_simp;refine Calls.mono (HV1.out y8 (IsRz.below HR1.out.1 Hb8.out) (IsVals.below HR1.out.2 Hb8.out)) ?_;rintro e y9 ⟨rfl,hb2⟩;have Hb9:Hid (Below x1.heap.size x1 y9):=Hb8.out.trans (hb2.mono Hb8.out.size);refine hK.out _ _ (HSb.out _ Hb9.out) (fun hS=>?_);replace Hg:Hid (y9.heap[g]?=some (.cells #[I 0,I 0,I 0] 59 (0,0))/\x1.heap.size<=g):=⟨(hb2.block _ (blk_lt Hg.out.1)).trans Hg.out.1,Hg.out.2⟩;clear hK K hb2;refine rd1 17 rfl fun K hK=>?_;go_simp;refine Calls.mono (HV2.out y9 (IsRz.below HR1.out.1 Hb9.out) (IsVals.below HR1.out.2 Hb9.out)) ?_;rintro e y10 ⟨rfl,hb2⟩;have Hb10:Hid (Below x1.heap.size x1 y10):=Hb9.out.trans (hb2.mono Hb9.out.size);refine hK.out _ _ (HSb.out _ Hb10.out) (fun hS=>?_);replace Hg:Hid (y10.heap[g]?=some (.cells #[I 0,I 0,I 0] 59 (0,0))/\x1.heap.size<=g):=⟨(hb2.block _ (blk_lt Hg.out.1)).trans Hg.out.1,Hg.out.2⟩;clear hK K hb2;refine rd1 18 rfl fun K hK=>?_;go_simp;refine hK.out _ _ hS (fun hS=>?_);clear hK K;obtain ⟨s0,s1,s2⟩:=cells3 Hg.out.1;have fz:∀ j,y10.frozen? ⟨g,j,none⟩=false:=fun j=>by have:=Hg.out.1;simp only [World.frozen?,this];rfl
        refine rd1 20 rfl fun K hK=>?_;go_simp;obtain ⟨a1,a2,a3⟩:=put3M (B:=g) (v0:=I p) (v1:=I q) (v2:=I r) Hb10.out Hg.out.2 Hg.out.1;refine hK.out _ _ (HSb.out _ a2) (fun hS=>?_);refine wpAnyH_done (by kernel_rfl) ?_ _
        have HA1:Hid (_/\_):=⟨a1,a2⟩;clear hK K hS s0 s1 s2 fz a1 a2 a3;go_wp2_with fail;go_meet
        case rel=>exact ⟨g,rfl,HA1.out.2,Hg.out.2,HA1.out.1⟩
      ·go_simp;have Hb11:Hid (Below x1.heap.size x1 (y0.alloc (.cells #[I 0,I 0,I 0] 59))):=Hb0.out.alloc Hb0.out.size _;have Hg:Hid ((y0.alloc (.cells #[I 0,I 0,I 0] 59)).heap[y0.heap.size]?=some (.cells #[I 0,I 0,I 0] 59 (0,0))/\x1.heap.size<=y0.heap.size):=⟨heap_alloc_new _ _,Hb0.out.size⟩;refine hK.out _ _ (HSb.out _ Hb11.out) (fun hS=>?_);clear hK K;generalize (y0.alloc (.cells #[I 0,I 0,I 0] 59))=y11 at *;generalize y0.heap.size=g at *;refine rd1 5 rfl fun K hK=>?_;go_simp;refine Calls.mono (HV0.out y11 (IsRz.below HR1.out.1 Hb11.out) (IsVals.below HR1.out.2 Hb11.out)) ?_;rintro e y12 ⟨rfl,hb2⟩;have Hb12:Hid (Below x1.heap.size x1 y12):=Hb11.out.trans (hb2.mono Hb11.out.size);refine hK.out _ _ (HSb.out _ Hb12.out) (fun hS=>?_);replace Hg:Hid (y12.heap[g]?=some (.cells #[I 0,I 0,I 0] 59 (0,0))/\x1.heap.size<=g):=⟨(hb2.block _ (blk_lt Hg.out.1)).trans Hg.out.1,Hg.out.2⟩;clear hK K hb2;refine rd1 11 rfl fun K hK=>?_;go_simp;refine Calls.mono (HV1.out y12 (IsRz.below HR1.out.1 Hb12.out) (IsVals.below HR1.out.2 Hb12.out)) ?_;rintro e y13 ⟨rfl,hb2⟩;have Hb13:Hid (Below x1.heap.size x1 y13):=Hb12.out.trans (hb2.mono Hb12.out.size);refine hK.out _ _ (HSb.out _ Hb13.out) (fun hS=>?_);replace Hg:Hid (y13.heap[g]?=some (.cells #[I 0,I 0,I 0] 59 (0,0))/\x1.heap.size<=g):=⟨(hb2.block _ (blk_lt Hg.out.1)).trans Hg.out.1,Hg.out.2⟩;clear hK K hb2;refine rd1 17 rfl fun K hK=>?_;go_simp;refine Calls.mono (HV2.out y13 (IsRz.below HR1.out.1 Hb13.out) (IsVals.below HR1.out.2 Hb13.out)) ?_;rintro e y14 ⟨rfl,hb2⟩;have Hb14:Hid (Below x1.heap.size x1 y14):=Hb13.out.trans (hb2.mono Hb13.out.size);refine hK.out _ _ (HSb.out _ Hb14.out) (fun hS=>?_);replace Hg:Hid (y14.heap[g]?=some (.cells #[I 0,I 0,I 0] 59 (0,0))/\x1.heap.size<=g):=⟨(hb2.block _ (blk_lt Hg.out.1)).trans Hg.out.1,Hg.out.2⟩;clear hK K hb2;refine rd1 18 rfl fun K hK=>?_;go_simp;refine hK.out _ _ hS (fun hS=>?_);clear hK K;obtain ⟨s0,s1,s2⟩:=cells3 Hg.out.1;have fz:∀ j,y14.frozen? ⟨g,j,none⟩=false:=fun j=>by have:=Hg.out.1;simp only [World.frozen?,this];rfl
       refine rd1 20 rfl fun K hK=>?_;go_simp;obtain ⟨a1,a2,a3⟩:=put3M (B:=g) (v0:=I p) (v1:=I q) (v2:=I r) Hb14.out Hg.out.2 Hg.out.1;refine hK.out _ _ (HSb.out _ a2) (fun hS=>?_);refine wpAnyH_done (by kernel_rfl) ?_ _
       have HA1:Hid (_/\_):=⟨a1,a2⟩;clear hK K hS s0 s1 s2 fz a1 a2 a3;go_wp2_with fail;go_meet
       case rel=>exact ⟨g,rfl,HA1.out.2,Hg.out.2,HA1.out.1⟩
     by_cases hx:kd=5\/kd=6\/kd=13
     ·have hkm:0 < km P.rows k:=HF0.out k HLt.out (by have:=HKd.out;omega)
      obtain ⟨b,rfl,hbl,hb0⟩:=HOw.out 0 hkm;have HB0:Hid (x1.cell? ⟨b,0,none⟩=some (I ((kidp P.rows k 0:Nat):Int))/\b < x1.heap.size):=⟨hb0,hbl⟩;obtain ⟨y,hy0⟩:∃ y,y=V (k+1):=⟨_,rfl⟩;have HVv:=hdn <| HVk.out k 0 HLt.out hkm (Or.inr ⟨rfl,by have:=HKd.out;omega⟩)
      rw [show V (kidp P.rows k 0)=y by rw [kid_zero,hy0]] at HVv
      have HYe:Hid (V (k+1)=y):=hy0.symm;clear hb0 hy0;clear h4;rcases hx with rfl | rfl | rfl
      all_goals
       go_wp2_with fail
       refine wp_region_held (S:=fun w':World=>w'.heap[w.heap.size]?=some (.cells (pC P (some ⟨gr,or,none⟩) ac qo qc vo vc tto tc uo uc oo oc) 27 (0,0))/\w'.heap[w.heap.size+1]?=some (.cells #[I size,.slice co nc cc] 39 (0,0))/\w'.cell? ⟨b,0,none⟩=some (I ((kidp P.rows k 0:Nat):Int))) (by kernel_rfl) ?_
       have hS:(fun w':World=>w'.heap[w.heap.size]?=some (.cells (pC P (some ⟨gr,or,none⟩) ac qo qc vo vc tto tc uo uc oo oc) 27 (0,0))/\w'.heap[w.heap.size+1]?=some (.cells #[I size,.slice co nc cc] 39 (0,0))/\w'.cell? ⟨b,0,none⟩=some (I ((kidp P.rows k 0:Nat):Int))) x1.drew:=⟨HD1.out.p,HD1.out.c,HB0.out.1⟩;change wpAnyH _ _ _ _ _ _ _ _ x1.drew;refine tzA 0 rfl hS ?_;refine tcA 1 rfl hS ?_;refine tqA 2 rfl hS ?_;refine tqA 3 rfl hS ?_;refine tqA 4 rfl hS ?_;refine rd1 5 rfl fun K hK=>?_;go_simp;have hbd:Below x1.heap.size x1 x1.drew:=(Below.refl _ x1).drew;refine Calls.mono (HVv.out x1.drew (IsRz.below HR1.out.1 hbd) (IsVals.below HR1.out.2 hbd)) ?_;rintro e x2 ⟨rfl,hb2⟩;have hb12:Below x1.heap.size x1 x2:=hbd.trans (hb2.mono hbd.size);have HD2:=hdn <| HD1.out.below hb12;have HS2:=hdn <| HS1.out.below hb12;have HB2:Hid (Below w5.heap.size w5 x2):=HB1.out.trans (hb12.mono HB1.out.size);refine hK.out _ _ ⟨HD2.out.p,HD2.out.c,(hb12.cell (p:=⟨b,0,none⟩) HB0.out.2).trans HB0.out.1⟩ (fun hS=>?_);clear hK K hb2 hb12 hbd HB0 hbl k0 k1 k2 k3 k4 k5 k6 k7 m0 HD1 HS1 HB1 HR1 HVv HOw;refine rd1 6 rfl fun K hK=>?_;go_simp;refine hK.out _ _ hS (fun hS=>?_);refine wpAnyH_done (by kernel_rfl) ?_ _
       clear hK K hS
      ·have HEq:Hid (setE P.rows V k=if y < 1\/255 < y then 43 else 0):=by show setE _ _ _=_;unfold setE;rw [HKd.out,if_neg (by decide),if_pos rfl,HYe.out]
       have HV1:Hid (setV P.rows V (k+1)=setV P.rows V k/\setT P.rows V (k+1)=setT P.rows V k++[y]/\setR P.rows V (k+1)=setR P.rows V k):=⟨if_neg (by rw [HKd.out];decide),(if_pos (by rw [HKd.out])).trans (by rw [HYe.out]),if_neg (by rw [HKd.out];decide)⟩
       have HTl:Hid ((setT P.rows V k).length<=2932031007317):=by have h1:=setT_le P.rows V k;have h2:=HLt.out;show _<=_;omega
       by_cases hy:y < 1\/255 < y
       ·have HE:Hid (setE P.rows V k=43):=HEq.out.trans (if_pos hy);by_cases hz:y < 1
        rotate_right
        focus
         have hy':decide (y < 1)=false:=decide_eq_false hz;have hz':decide (y > 255)=true:=decide_eq_true (by omega)
        rotate_right
        focus
         have hy':decide (y < 1)=true:=decide_eq_true hz
        all_goals
         clear hy hz;obtain ⟨t0,t1,t2⟩:=cells3 HD2.out.t;obtain ⟨f0,f1⟩:=cells2 HD2.out.f;have ft:∀ j,x2.frozen? ⟨w.heap.size+1+1,j,none⟩=false:=fun j=>by have:=HD2.out.t;simp only [World.frozen?,this];rfl
         have ff:∀ j,x2.frozen? ⟨w.heap.size+1+1+1,j,none⟩=false:=fun j=>by have:=HD2.out.f;simp only [World.frozen?,this];rfl
         go_wp2_with fail
         obtain ⟨a1,a2,a3⟩:=put3M (B:=w.heap.size+1+1) (v0:=pz) (v1:=pz) (v2:=pz) HD2.out.be (by omega) HD2.out.t
         obtain ⟨c1,c2,c3⟩:=put2M (B:=w.heap.size+1+1+1) (v0:=I 43) (v1:=I (k:Int)) a2 (by omega) ((a3 _ (by omega)).trans HD2.out.f)
         obtain ⟨y0,y1⟩:=cells2 c1;obtain ⟨u0,u1,u2⟩:=cells3 ((c3 _ (by omega)).trans a1)
         refine bodyPost_ret (v:=.tuple #[.agg #[pz,pz,pz],.agg #[I 43,I (k:Int)]]) (by simp [results,Tryz.results26,go_sem,y0,y1,u0,u1,u2]) rfl ?_
         exact ⟨c2,HQ.out _ _ (Or.inl (HN4.out 43 (by decide) HE.out))⟩
       ·have HE:Hid (setE P.rows V k=0):=HEq.out.trans (if_neg hy);have hy':decide (y < 1)=false:=decide_eq_false (by omega)
        have hz':decide (y > 255)=false:=decide_eq_false (by omega)
        clear hy;obtain ⟨j0,hj,hj0,hj1,hj2⟩:=info_parts info3;have hb3:Below x2.heap.size x2 (x2.alloc (.cells #[I y] 3)):=bAl x2 _;have HS3:=hdn <| HS2.out.below hb3;have HB3:Hid (Below w5.heap.size w5 (x2.alloc (.cells #[I y] 3))):=HB2.out.trans (hb3.mono HB2.out.size);obtain ⟨q0,q1,q2⟩:=cells3 HS2.out.b;clear hb3;obtain ⟨bo4,bc4,rfl⟩:=own_form HS2.out.t;go_wp2_with (at_builtin;refine append_gone _ rfl _ _ 25 rfl (w5.heap.size+1+1) 3 j0 (I 0) 1 8 Tryz.underlying25 hj hj0 hj1 hj2 rfl (by decide) (.slice bo4 (setT P.rows V k).length bc4) _ (tC (setT P.rows V k)) rfl HS3.out.t ⟨x2.heap.size,0,none⟩ 1 1 [I y] rfl rfl (cell_one x2 _ _) (by intro u hu;simp only [List.mem_cons,List.not_mem_nil,or_false] at hu;subst hu;rfl) (by have:=HTl.out;unfold maxLen;omega) (by have:=HTl.out;omega) HS3.out.lts (by decide) ?_)
        intro v4 w7 ho hG;have HS4:=hdn <| HS3.out.pushT hG.1 ho;have HB4:Hid (Below w5.heap.size w5 w7):=HB3.out.trans (((Went.gone hG).low (fun j hj=>(World.ownsRow.lt HS3.out.t j hj).1) HS3.out.lts).mono (by omega))
        have hb4:w7.heap[w5.heap.size+1]?=some (.cells #[vv,.slice bo4 (setT P.rows V k).length bc4,.slice (pZ w5.heap.size) P.rows.length P.rows.length] 51 (0,0)):=(hG.1.block (w5.heap.size+1) HS3.out.lts fun e=>by have:=(World.ownsRow.lt HS3.out.t (w5.heap.size+1) e.symm).1;omega).trans HS3.out.b
        have f4:w7.frozen? ⟨w5.heap.size+1,1,none⟩=false:=by simp only [World.frozen?,hb4];rfl
        obtain ⟨bo5,bc5,rfl⟩:=own_form ho;clear q0 q1 q2;obtain ⟨q0,q1,q2⟩:=cells3 hb4;clear ho hG hb4;go_wp2_with fail;go_roundg (P.rows.length - (k+1))
        case measure=>have h1:=HGk.out;have:=HLt.out;omega
        case rel=>exact ⟨k+1,vv,_,HLt.out,rfl,by go_num,setN_pass HNo.out HE.out,by rw [HV1.out.1,HV1.out.2.1,HV1.out.2.2];exact HS4.out,HB4.out.trans ((Below.refl _ _).setCell (p:=⟨w5.heap.size+1,1,none⟩) (by simp) _)⟩
      ·have HEq:Hid (setE P.rows V k=if y=0 then 44 else 0):=by show setE _ _ _=_;unfold setE;rw [HKd.out,if_neg (by decide),if_neg (by decide),if_pos rfl,HYe.out]
       have HV1:Hid (setV P.rows V (k+1)=setV P.rows V k/\setT P.rows V (k+1)=setT P.rows V k/\setR P.rows V (k+1)=setR P.rows V k):=⟨if_neg (by rw [HKd.out];decide),if_neg (by rw [HKd.out];decide),if_neg (by rw [HKd.out];decide)⟩
       by_cases hy:y=0
       ·have HE:Hid (setE P.rows V k=44):=HEq.out.trans (if_pos hy);have hy':(y == 0)=true:=by simpa using hy
        clear hy;obtain ⟨t0,t1,t2⟩:=cells3 HD2.out.t;obtain ⟨f0,f1⟩:=cells2 HD2.out.f;have ft:∀ j,x2.frozen? ⟨w.heap.size+1+1,j,none⟩=false:=fun j=>by have:=HD2.out.t;simp only [World.frozen?,this];rfl
        have ff:∀ j,x2.frozen? ⟨w.heap.size+1+1+1,j,none⟩=false:=fun j=>by have:=HD2.out.f;simp only [World.frozen?,this];rfl
        go_wp2_with fail
        obtain ⟨a1,a2,a3⟩:=put3M (B:=w.heap.size+1+1) (v0:=pz) (v1:=pz) (v2:=pz) HD2.out.be (by omega) HD2.out.t
        obtain ⟨c1,c2,c3⟩:=put2M (B:=w.heap.size+1+1+1) (v0:=I 44) (v1:=I (k:Int)) a2 (by omega) ((a3 _ (by omega)).trans HD2.out.f)
        obtain ⟨y0,y1⟩:=cells2 c1;obtain ⟨u0,u1,u2⟩:=cells3 ((c3 _ (by omega)).trans a1)
        refine bodyPost_ret (v:=.tuple #[.agg #[pz,pz,pz],.agg #[I 44,I (k:Int)]]) (by simp [results,Tryz.results26,go_sem,y0,y1,u0,u1,u2]) rfl ?_
        exact ⟨c2,HQ.out _ _ (Or.inl (HN4.out 44 (by decide) HE.out))⟩
       ·have HE:Hid (setE P.rows V k=0):=HEq.out.trans (if_neg hy);have hy':(y == 0)=false:=by simpa using hy
        clear hy;go_wp2_with fail;go_roundg (P.rows.length - (k+1))
        case measure=>have h1:=HGk.out;have:=HLt.out;omega
        case rel=>exact ⟨k+1,vv,tv,HLt.out,rfl,by go_num,setN_pass HNo.out HE.out,by rw [HV1.out.1,HV1.out.2.1,HV1.out.2.2];exact HS2.out,HB2.out⟩
      ·have HEq:Hid (setE P.rows V k=if y < 0\/4194304 < y then 43 else 0):=by show setE _ _ _=_;unfold setE;rw [HKd.out,if_neg (by decide),if_neg (by decide),if_neg (by decide),if_pos rfl,HYe.out]
       have HV1:Hid (setV P.rows V (k+1)=setV P.rows V k/\setT P.rows V (k+1)=setT P.rows V k/\setR P.rows V (k+1)=setF (setR P.rows V k) k y):=⟨if_neg (by rw [HKd.out];decide),if_neg (by rw [HKd.out];decide),(if_pos (by rw [HKd.out])).trans (by rw [HYe.out])⟩
       by_cases hy:y < 0\/4194304 < y
       ·have HE:Hid (setE P.rows V k=43):=HEq.out.trans (if_pos hy);by_cases hz:y < 0
        rotate_right
        focus
         have hy':decide (y < 0)=false:=decide_eq_false hz;have hz':decide (y > 4194304)=true:=decide_eq_true (by omega)
        rotate_right
        focus
         have hy':decide (y < 0)=true:=decide_eq_true hz
        all_goals
         clear hy hz;obtain ⟨t0,t1,t2⟩:=cells3 HD2.out.t;obtain ⟨f0,f1⟩:=cells2 HD2.out.f;have ft:∀ j,x2.frozen? ⟨w.heap.size+1+1,j,none⟩=false:=fun j=>by have:=HD2.out.t;simp only [World.frozen?,this];rfl
         have ff:∀ j,x2.frozen? ⟨w.heap.size+1+1+1,j,none⟩=false:=fun j=>by have:=HD2.out.f;simp only [World.frozen?,this];rfl
         go_wp2_with fail
         obtain ⟨a1,a2,a3⟩:=put3M (B:=w.heap.size+1+1) (v0:=pz) (v1:=pz) (v2:=pz) HD2.out.be (by omega) HD2.out.t
         obtain ⟨c1,c2,c3⟩:=put2M (B:=w.heap.size+1+1+1) (v0:=I 43) (v1:=I (k:Int)) a2 (by omega) ((a3 _ (by omega)).trans HD2.out.f)
         obtain ⟨y0,y1⟩:=cells2 c1;obtain ⟨u0,u1,u2⟩:=cells3 ((c3 _ (by omega)).trans a1)
         refine bodyPost_ret (v:=.tuple #[.agg #[pz,pz,pz],.agg #[I 43,I (k:Int)]]) (by simp [results,Tryz.results26,go_sem,y0,y1,u0,u1,u2]) rfl ?_
         exact ⟨c2,HQ.out _ _ (Or.inl (HN4.out 43 (by decide) HE.out))⟩
       ·have HE:Hid (setE P.rows V k=0):=HEq.out.trans (if_neg hy);have hy':decide (y < 0)=false:=decide_eq_false (by omega)
        have hz':decide (y > 4194304)=false:=decide_eq_false (by omega)
        clear hy;obtain ⟨q0,q1,q2⟩:=cells3 HS2.out.b;have cr:=HS2.out.r.cell HLt.out;have fr:=HS2.out.r.frozen k;generalize setR P.rows V k k=ri at *;go_wp2_with fail;go_roundg (P.rows.length - (k+1))
        case measure=>have h1:=HGk.out;have:=HLt.out;omega
        case rel=>exact ⟨k+1,vv,tv,HLt.out,rfl,by go_num,setN_pass HNo.out HE.out,by rw [HV1.out.1,HV1.out.2.1,HV1.out.2.2];exact HS2.out.round k y,HB2.out.trans ((Below.refl _ _).setCell (p:=⟨w5.heap.size,k,none⟩) (Nat.le_refl _) _)⟩
     have h5:¬ kd=5:=by omega
     have h6:¬ kd=6:=by omega
     have h13:¬ kd=13:=by omega
     have e4:(kd == 4)=false:=by simpa using h4
     have e5:(kd == 5)=false:=by simpa using h5
     have e6:(kd == 6)=false:=by simpa using h6
     have e13:(kd == 13)=false:=by simpa using h13
     have HE:Hid (setE P.rows V k=0):=by show setE _ _ _=0;unfold setE;rw [HKd.out,if_neg h4,if_neg h5,if_neg h6,if_neg h13]
     have HV1:Hid (setV P.rows V (k+1)=setV P.rows V k/\setT P.rows V (k+1)=setT P.rows V k/\setR P.rows V (k+1)=setR P.rows V k):=⟨if_neg (by rw [HKd.out];exact h4),if_neg (by rw [HKd.out];exact h5),if_neg (by rw [HKd.out];exact h13)⟩
     clear h4 h5 h6 h13 hx;go_wp2_with fail;go_roundg (P.rows.length - (k+1))
     case measure=>have h1:=HGk.out;have:=HLt.out;omega
     case rel=>exact ⟨k+1,vv,tv,HLt.out,rfl,by go_num,setN_pass HNo.out HE.out,by rw [HV1.out.1,HV1.out.2.1,HV1.out.2.2];exact HS1.out,HB1.out⟩
    ·have hlt':¬ (k:Int) < (P.rows.length:Int):=by omega
     obtain rfl:k=P.rows.length:=by omega
     obtain ⟨vo1,vc1,rfl⟩:=own_form HSr.out.v;obtain ⟨to1,tc1,rfl⟩:=own_form HSr.out.t;obtain ⟨q0,q1,q2⟩:=cells3 HSr.out.b;obtain ⟨t0,t1,t2⟩:=cells3 HDr.out.t;obtain ⟨f0,f1⟩:=cells2 HDr.out.f;have ft:∀ j,wr.frozen? ⟨w.heap.size+1+1,j,none⟩=false:=fun j=>by have:=HDr.out.t;simp only [World.frozen?,this];rfl
     have ff:∀ j,wr.frozen? ⟨w.heap.size+1+1+1,j,none⟩=false:=fun j=>by have:=HDr.out.f;simp only [World.frozen?,this];rfl
     clear hlt hk;go_wp2_with fail;obtain ⟨a1,a2,a3⟩:=put3M (B:=w.heap.size+1+1) (v0:=.slice vo1 (setV P.rows V P.rows.length).length vc1) (v1:=.slice to1 (setT P.rows V P.rows.length).length tc1) (v2:=.slice (pZ w5.heap.size) P.rows.length P.rows.length) HDr.out.be (by omega) HDr.out.t
     obtain ⟨c1,c2,c3⟩:=put2M (B:=w.heap.size+1+1+1) (v0:=I 0) (v1:=I 0) a2 (by omega) ((a3 _ (by omega)).trans HDr.out.f)
     obtain ⟨y0,y1⟩:=cells2 c1;obtain ⟨u0,u1,u2⟩:=cells3 ((c3 _ (by omega)).trans a1)
     have hz2:=HL5.out;have hkp:∀ k,w5.heap.size<=k->_:=fun k (hk:w5.heap.size<=k)=>(c3 k (by omega)).trans (a3 k (by omega))
     refine bodyPost_ret (v:=.tuple #[.agg #[.slice vo1 (setV P.rows V P.rows.length).length vc1,.slice to1 (setT P.rows V P.rows.length).length tc1,.slice (pZ w5.heap.size) P.rows.length P.rows.length],.agg #[I 0,I 0]]) (by simp [results,Tryz.results26,go_sem,y0,y1,u0,u1,u2]) rfl ?_
     exact ⟨c2,HQ.out _ _ (Or.inr ⟨HNo.out,_,_,_,rfl,by omega,HSr.out.r.of_block (hkp _ (Nat.le_refl _)),own_keepY HSr.out.v (fun k hk=>hkp k (by omega)) (by omega),own_keepY HSr.out.t (fun k hk=>hkp k (by omega)) (by omega)⟩)⟩
  ·have hq:∀ W',ChkQ P size cs nc w (.returned (.tuple #[.agg #[pz,pz,pz],.agg #[I fE,I 0]])) W':=fun W'=>by
    refine Or.inr (Or.inl ⟨HOk.out,?_,?_⟩)
    ·unfold ruZ;rw [if_pos HFl.out];show fitE (ghL P.qs) P.qs.length size cs nc ≠ 0;rw [HFe.out];exact hz
    ·unfold ruZ;rw [if_pos HFl.out,HFe.out]
   have HQ:=hdn <| hq;have z1:(fE != 0)=true:=by simp [hz]
   obtain ⟨t0,t1,t2⟩:=cells3 H5.out.t;obtain ⟨e0,e1⟩:=fcells2 H5.out.f;have hff:=zr8f H5.out.f;have ft:=zr8f H5.out.t;obtain ⟨g0,g1⟩:=fcells2 HX5.out;have n1:¬ w2.heap.size=w.heap.size+1+1:=by have:=HL.out;omega
   have n2:¬ w2.heap.size=w.heap.size+1+1+1:=by have:=HL.out;omega
   clear hq hz;go_wp2_with fail;generalize ((w4.setCell ⟨w2.heap.size,0,none⟩ (I fE)).setCell ⟨w2.heap.size,1,none⟩ (I 0))=w5 at *;generalize w2.heap.size=m2 at *;go_region
   all_goals
    go_wp2_with fail
    obtain ⟨a1,a2,a3⟩:=put3M (B:=w.heap.size+1+1) (v0:=pz) (v1:=pz) (v2:=pz) H5.out.be (by omega) H5.out.t
    obtain ⟨q1,q2,q3⟩:=put2M (B:=w.heap.size+1+1+1) (v0:=I fE) (v1:=I 0) a2 (by omega) ((a3 _ (by omega)).trans H5.out.f)
    obtain ⟨y0,y1⟩:=cells2 q1;obtain ⟨u0,u1,u2⟩:=cells3 ((q3 _ (by omega)).trans a1)
    refine bodyPost_ret (v:=.tuple #[.agg #[pz,pz,pz],.agg #[I fE,I 0]]) (by simp [results,Tryz.results26,go_sem,y0,y1,u0,u1,u2]) rfl ?_
    exact ⟨q2.drew,HQ.out _⟩
 ·have hq:∀ W',ChkQ P size cs nc w (.returned (.tuple #[.agg #[pz,pz,pz],.agg #[I fe,I fa]])) W':=fun W'=>by
   rcases HT.out with ⟨a,_,c,d⟩ | ⟨a,b,_,d,e⟩ | ⟨_,_,_,d,_⟩
   ·exact Or.inl ⟨a,by rw [c,d]⟩
   ·refine Or.inr (Or.inl ⟨a,?_,?_⟩)
    ·unfold ruZ;rw [if_neg b];show ((fltN P.rows (ghL P.qs) P.rows.length).1:Int) ≠ 0;omega
    ·unfold ruZ;rw [if_neg b,d,e]
   ·exact absurd d h0
  have HQ:=hdn <| hq;have z0:(fe == 0)=false:=beq_false_of_ne h0;have z1:(fe != 0)=true:=by simp [h0]
  obtain ⟨f0,f1⟩:=fcells2 HX3.out;obtain ⟨t0,t1,t2⟩:=cells3 H3.out.t;obtain ⟨e0,e1⟩:=fcells2 H3.out.f;have hff:=zr8f H3.out.f;have ft:=zr8f H3.out.t;have n1:¬ w2.heap.size=w.heap.size+1+1:=by have:=HL.out;omega
  have n2:¬ w2.heap.size=w.heap.size+1+1+1:=by have:=HL.out;omega
  clear hq h0;go_wp2_with fail;generalize w2.alloc (.cells #[I fe,I fa] 32)=w3 at *;generalize w2.heap.size=m2 at *;go_region
  all_goals
   go_wp2_with fail
   obtain ⟨a1,a2,a3⟩:=put3M (B:=w.heap.size+1+1) (v0:=pz) (v1:=pz) (v2:=pz) H3.out.be (by omega) H3.out.t
   obtain ⟨q1,q2,q3⟩:=put2M (B:=w.heap.size+1+1+1) (v0:=I fe) (v1:=I fa) a2 (by omega) ((a3 _ (by omega)).trans H3.out.f)
   obtain ⟨y0,y1⟩:=cells2 q1;obtain ⟨u0,u1,u2⟩:=cells3 ((q3 _ (by omega)).trans a1)
   refine bodyPost_ret (v:=.tuple #[.agg #[pz,pz,pz],.agg #[I fe,I fa]]) (by simp [results,Tryz.results26,go_sem,y0,y1,u0,u1,u2]) rfl ?_
   exact ⟨q2.drew,HQ.out _⟩
end Go.Proofs.YtbledbjcghaanaaGreat.Nm.Ty
