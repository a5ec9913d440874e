import Derived.Test.YtbledbjcghaanaaGreatL38
import Derived.Deep.RegionHeld3
import Derived.Test.YtbledbjcghaanaaGreatTl
set_option maxHeartbeats 51200000
set_option maxRecDepth 100000
namespace Go.Proofs.YtbledbjcghaanaaGreat.Nm.Ty
open Go.RowKit Go.Maps Sp Lx Gr Nm
theorem con_cases (k n:Int) (h:(pOf k n).is ≠ 0) (hc:(pOf k n).changing=false):k=27\/k=29\/k=30\/k=32\/k=33\/k=41\/k=42\/(k=39\/k=40\/k=43\/k=44\/k=45\/k=46\/k=47\/k=48\/k=49\/k=50\/k=51\/k=52\/k=53\/k=54):=by
 rcases part_cases k with rfl | rfl | rfl | rfl | rfl | rfl | rfl | rfl | rfl | rfl | rfl | rfl | rfl | rfl | rfl | rfl | rfl | rfl | rfl | rfl | rfl | rfl | rfl | rfl | rfl | rfl | rfl | rfl | ⟨h27,h29,h30,h32,h33,h28,h31,h34,h38,h35,h36,h37,h39,h40,h41,h43,h44,h45,h46,h49,h50,h51,h52,h42,h53,h54,h47,h48⟩
 all_goals first | omega | (exact absurd hc (by decide)) | skip
 ·cases hc
 ·cases hc
 ·cases hc
 ·cases hc
 ·cases hc
 ·cases hc
 ·cases hc
 ·exact absurd (by simp [pOf,Prt.is,h27,h29,h30,h32,h33,h28,h31,h34,h38,h35,h36,h37,h39,h40,h41,h43,h44,h45,h46,h49,h50,h51,h52,h42,h53,h54,h47,h48]) h
theorem is_two (k n:Int):(pOf k n).is=0\/(pOf k n).is=1\/(pOf k n).is=2:=by
 unfold pOf
 repeat' split
 all_goals simp [Prt.is]
structure Vb8 (w X:World) (pc cc rw:Array Value):Prop where
 p:X.heap[w.heap.size]?=some (.cells pc 27 (0,0))
 c:X.heap[w.heap.size+1]?=some (.cells cc 39 (0,0))
 r:X.heap[w.heap.size+1+1]?=some (.cells rw 61 (0,0))
 be:Below w.heap.size w X
theorem Vb8.below {w X Y:World} {pc cc rw:Array Value} (h:Vb8 w X pc cc rw) (hb:Below X.heap.size X Y):Vb8 w Y pc cc rw:=⟨(hb.block _ (blk_lt h.p)).trans h.p,(hb.block _ (blk_lt h.c)).trans h.c,(hb.block _ (blk_lt h.r)).trans h.r,h.be.trans (hb.mono h.be.size)⟩
theorem vb8_start (w:World) (pc cc rw:Array Value):Vb8 w (((w.alloc (.cells pc 27)).alloc (.cells cc 39)).alloc (.cells rw 61)) pc cc rw:=
 ⟨by rw [alloc_old _ _ _ (by simp;omega),alloc_old _ _ _ (by simp)];exact alloc_at _ _ _ rfl,by rw [alloc_old _ _ _ (by simp)];exact alloc_at _ _ _ (by simp),alloc_at _ _ _ (by simp),((bAl w _).alloc (by simp) _).alloc (by simp;omega) _⟩
theorem cells53 {u:World} {B:Nat} {v0 v1 v2 v3 v4:Value} {T:TypeId} (h:u.heap[B]?=some (.cells #[v0,v1,v2,v3,v4] T (0,0))):u.cell? ⟨B,0,none⟩=some v0/\u.cell? ⟨B,3,none⟩=some v3:=by
 refine ⟨?_,?_⟩
 all_goals
  simp only [World.cell?,h];rfl
theorem rvalue8 {P:Pg} {qo vo tto uo oo co:Option Addr} {gr or ac qc vc tc uc oc nc cc:Nat} {size:Int} {cs:Nat->Int} {gh:Nat->Bool} (hok:IsOk P) (hT:TreeZ P.rows) (hn:P.rows.length<=2932031007317) (hf:(fltN P.rows gh P.rows.length).1=0)
  (hk1:∀ i,i < P.rows.length->((rat P.rows i).kind=41\/(rat P.rows i).kind=42->0 < km P.rows i)/\(39<=(rat P.rows i).kind/\¬ (rat P.rows i).kind=41/\¬ (rat P.rows i).kind=42->(rat P.rows i).kind<=54->1 < km P.rows i))
  (hR:∀ j,j < P.rows.length->Rng (rP P.rows j).is (vB P.rows size cs P.rows.length j)) (hq:∀ i,i < P.rows.length->(rat P.rows i).kind=32->∃ m:Nat,(rat P.rows i).n=(m:Int)/\m < nc) (hnc:nc<=17592186043904):
  ∀ (d i:Nat),endp P.rows i - i<=d->i < P.rows.length->(rP P.rows i).is ≠ 0->(∀ j,i<=j->j < endp P.rows i->(rP P.rows j).changing=false)->∀ w:World,IsRz w (some ⟨gr,or,none⟩) P.rows->IsVals w co (fL nc (fun i=>I (cs i))) ->
  Calls Tryz.prog 47 #[.agg (pC P (some ⟨gr,or,none⟩) ac qo qc vo vc tto tc uo uc oo oc),.agg #[I size,.slice co nc cc],I (i:Int)] w fun e w'=>e=.returned (I (vB P.rows size cs P.rows.length i))/\Below w.heap.size w w':=by
 have HOk:=hdn <| hok;have HT:=hdn <| hT;have HN:=hdn <| hn;have HF:=hdn <| hf;have HK1:=hdn <| hk1;have HRg:=hdn <| hR;have HQ:=hdn <| hq;have hln:(P.rows.length:Int)<=2932031007317:=by omega
 have hncl:(nc:Int)<=17592186043904:=by omega
 clear hok hT hn hf hk1 hR hq hnc;intro d
 induction d with
 | zero=>intro i hd hi;have:=(end_kid HT.out.whole hi).2.1;omega
 | succ d ih=>
  have HIh:=hdn <| ih;clear ih;intro i hd hi his hch w hr hc;have HI:Hid (IsRz w (some ⟨gr,or,none⟩) P.rows):=hr;have HC:Hid (IsVals w co (fL nc (fun i=>I (cs i)))):=hc;have hi':(i:Int) < (P.rows.length:Int):=by omega
  have HRc:=hdn <| vB_rec (size:=size) (cq:=cs) HT.out.whole hi;obtain ⟨g',o',e',hg,c0,c1,c2,c3,c4⟩:=row_cells hr hi;cases e';have hbP:Below w.heap.size w ((w.alloc (.cells (pC P (some ⟨gr,or,none⟩) ac qo qc vo vc tto tc uo uc oo oc) 27)).alloc (.cells #[I size,.slice co nc cc] 39)):=(bAl w _).alloc (by simp) _
  have r0:=(hbP.cell (p:=⟨gr,or+i * 5,none⟩) hg).trans c0;have r1:=(hbP.cell (p:=⟨gr,or+i * 5+1,none⟩) hg).trans c1;have r2:=(hbP.cell (p:=⟨gr,or+i * 5+2,none⟩) hg).trans c2;have r3:=(hbP.cell (p:=⟨gr,or+i * 5+3,none⟩) hg).trans c3;have r4:=(hbP.cell (p:=⟨gr,or+i * 5+4,none⟩) hg).trans c4;have hcc:=con_cases _ (rat P.rows i).n his (hch i (Nat.le_refl _) (end_kid HT.out.whole hi).2.1);have HCq:=hdn <| HQ.out i hi;have HKk:=hdn <| HK1.out i hi;have HKid:Hid (∀ k,k < km P.rows i->39<=(rat P.rows i).kind->∀ W:World,IsRz W (some ⟨gr,or,none⟩) P.rows->IsVals W co (fL nc (fun i=>I (cs i)))->Calls Tryz.prog 47 #[.agg (pC P (some ⟨gr,or,none⟩) ac qo qc vo vc tto tc uo uc oo oc),.agg #[I size,.slice co nc cc],I ((kidp P.rows i k:Nat):Int)] W fun e w'=>e=.returned (I (vB P.rows size cs P.rows.length (kidp P.rows i k)))/\Below W.heap.size W w'):=fun k hk hx W hW1 hW2=>by
   obtain ⟨q1,q2,q3,q4⟩:=kidIn HT.out.whole hi hk;exact HIh.out (kidp P.rows i k) (by omega) q2 (kid_exP HOk.out HT.out.whole hi hk hx) (fun j h1 h2=>hch j (by omega) (by omega)) W hW1 hW2
  have HKi:Hid (∀ k,k < km P.rows i->(rP P.rows i).asked k (rP P.rows (i+1)).is ≠ 0->(rP P.rows (kidp P.rows i k)).is=(rP P.rows i).asked k (rP P.rows (i+1)).is):=fun k hk ha=>kid_is HT.out.whole HF.out hi hk ha;have HKr:Hid (∀ k,k < km P.rows i->Rng (rP P.rows (kidp P.rows i k)).is (vB P.rows size cs P.rows.length (kidp P.rows i k))/\((rP P.rows (kidp P.rows i k)).is=0\/(rP P.rows (kidp P.rows i k)).is=1\/(rP P.rows (kidp P.rows i k)).is=2)):=fun k hk=>⟨HRg.out _ (kid_at HT.out.whole hi hk).1,is_two _ _⟩;have HKx:Hid (∀ k,k < km P.rows i->39<=(rat P.rows i).kind->(rP P.rows (kidp P.rows i k)).is ≠ 0):=fun k hk hx=>kid_exP HOk.out HT.out.whole hi hk hx;have HK2:Hid (kidp P.rows i 0=i+1/\(0 < km P.rows i->kidp P.rows i 1=endp P.rows (i+1))):=⟨kid_zero _ _,fun h=>by have:=(kid_at HT.out.whole hi h).2.1;rw [kid_zero] at this;exact this⟩
  have HKs:=hdn <| rkids8 (cap:=ac) i (hr.below (vb8_start w (pC P (some ⟨gr,or,none⟩) ac qo qc vo vc tto tc uo uc oo oc) #[I size,.slice co nc cc] #[I (rat P.rows i).kind,.string (rat P.rows i).name,I (rat P.rows i).stop,I (rat P.rows i).n,I (rat P.rows i).kids]).be) HN.out HT.out hi;have HVb:=hdn <| vb8_start w (pC P (some ⟨gr,or,none⟩) ac qo qc vo vc tto tc uo uc oo oc) #[I size,.slice co nc cc] #[I (rat P.rows i).kind,.string (rat P.rows i).name,I (rat P.rows i).stop,I (rat P.rows i).n,I (rat P.rows i).kids];have HrP:Hid (rP P.rows i=pOf (rat P.rows i).kind (rat P.rows i).n):=rfl;clear hd hi his hch hr hc hg c0 c1 c2 c3 c4 hbP HIh HQ HK1 HRg;generalize (rat P.rows i).kind=kd at *;generalize (rat P.rows i).name=nm at *;generalize (rat P.rows i).stop=st at *;generalize (rat P.rows i).n=nn at *;generalize (rat P.rows i).kids=ks at *;go_enter Tryz.func47,Tryz.ntmps47;go_wp2_with fail;generalize (((w.alloc (.cells (pC P (some ⟨gr,or,none⟩) ac qo qc vo vc tto tc uo uc oo oc) 27)).alloc (.cells #[I size,.slice co nc cc] 39)).alloc (.cells #[I kd,.string nm,I st,I nn,I ks] 61))=x0 at *;refine Calls.mono HKs.out ?_;rintro e x1 ⟨v,rfl,ho,hb⟩;have HV1:=hdn <| HVb.out.below hb;obtain ⟨bo,bc,rfl⟩:=own_form ho;have HOw:Hid (∀ k,k < km P.rows i->∃ b,bo=some ⟨b,0,none⟩/\b < x1.heap.size/\x1.cell? ⟨b,k,none⟩=some (I ((kidp P.rows i k:Nat):Int))):=fun k hk=>by
   obtain ⟨b,c,e,_,hlt,hcl⟩:=own_ints ho (by omega)
   cases e;exact ⟨b,rfl,hlt,hcl k _ (by simp [kl,Go.Proofs.YtbledbjcghaanaaGreat.Nm.Ty.nc,hk])⟩
  clear r0 r1 r2 r3 r4 ho hb HKs HVb;obtain ⟨s0,s3⟩:=cells53 HV1.out.r;obtain ⟨d0,d1⟩:=fcells2 HV1.out.c;rcases hcc with rfl | rfl | rfl | rfl | rfl | rfl | rfl | hk2
  ·have HE:Hid (vB P.rows size cs P.rows.length i=nn):=by rw [HRc.out,HrP.out];rfl
   go_wp2;go_ret;rw [HE.out];exact ⟨rfl,HV1.out.be⟩
  ·have HE:Hid (vB P.rows size cs P.rows.length i=1):=by rw [HRc.out,HrP.out];rfl
   go_wp2;go_ret;rw [HE.out];exact ⟨rfl,HV1.out.be⟩
  ·have HE:Hid (vB P.rows size cs P.rows.length i=0):=by rw [HRc.out,HrP.out];rfl
   go_wp2;go_ret;rw [HE.out];exact ⟨rfl,HV1.out.be⟩
  ·obtain ⟨m,rfl,hm⟩:=HCq.out rfl;have HE:Hid (vB P.rows size cs P.rows.length i=cs m):=by rw [HRc.out,HrP.out];rfl
   have hm':(m:Int) < (nc:Int):=by omega
   obtain ⟨gc,oc',rfl,hgc,ck⟩:=HC.out m _ (fL_at hm);have ck0:=(HV1.out.be.cell (p:=⟨gc,oc'+m,none⟩) hgc).trans ck;clear ck;go_wp2;go_ret;rw [HE.out];exact ⟨rfl,HV1.out.be⟩
  ·have HE:Hid (vB P.rows size cs P.rows.length i=size):=by rw [HRc.out,HrP.out];rfl
   go_wp2;go_ret;rw [HE.out];exact ⟨rfl,HV1.out.be⟩
  ·have hkm:0 < km P.rows i:=HKk.out.1 (by omega)
   have HE:Hid (vB P.rows size cs P.rows.length i=-vB P.rows size cs P.rows.length (kidp P.rows i 0)/\-1073741824<=vB P.rows size cs P.rows.length (kidp P.rows i 0)/\vB P.rows size cs P.rows.length (kidp P.rows i 0)<=1073741824):=by
    have ha:(rP P.rows i).asked 0 (rP P.rows (i+1)).is=1:=by rw [HrP.out];rfl
    have h1:=HKi.out 0 hkm (by rw [ha];decide)
    rw [ha] at h1;have h2:=(HKr.out 0 hkm).1.1 h1;refine ⟨?_,h2⟩;rw [HRc.out,HrP.out,if_pos hkm,<-HK2.out.1];show clampZ (wrap64 (-vB P.rows size cs P.rows.length (kidp P.rows i 0)))=_;generalize vB P.rows size cs P.rows.length (kidp P.rows i 0)=z at *;rw [show wrap64 (-z)=-z from by unfold wrap64;omega]
    unfold clampZ;omega
   obtain ⟨b,rfl,hbl,hb0⟩:=HOw.out 0 hkm;have HB0:Hid (x1.cell? ⟨b,0,none⟩=some (I ((kidp P.rows i 0:Nat):Int))/\b < x1.heap.size):=⟨hb0,hbl⟩;have hk0n:0 < km P.rows i:=hkm;clear hb0;go_wp2_with fail;refine wp_region_held (S:=fun w':World=>w'.heap[w.heap.size]?=some (.cells (pC P (some ⟨gr,or,none⟩) ac qo qc vo vc tto tc uo uc oo oc) 27 (0,0))/\w'.heap[w.heap.size+1]?=some (.cells #[I size,.slice co nc cc] 39 (0,0))/\w'.cell? ⟨b,0,none⟩=some (I ((kidp P.rows i 0:Nat):Int))) (by kernel_rfl) ?_
   have hS:(fun w':World=>w'.heap[w.heap.size]?=some (.cells (pC P (some ⟨gr,or,none⟩) ac qo qc vo vc tto tc uo uc oo oc) 27 (0,0))/\w'.heap[w.heap.size+1]?=some (.cells #[I size,.slice co nc cc] 39 (0,0))/\w'.cell? ⟨b,0,none⟩=some (I ((kidp P.rows i 0:Nat):Int))) x1.drew:=⟨HV1.out.p,HV1.out.c,HB0.out.1⟩;change wpAnyH _ _ _ _ _ _ _ _ x1.drew;refine tzA 0 rfl hS ?_;refine tcA 1 rfl hS ?_;refine tqA 2 rfl hS ?_;refine tqA 3 rfl hS ?_;refine tqA 4 rfl hS ?_;refine rd1 5 rfl fun K hK=>?_;go_simp;have hbd:Below x1.heap.size x1 x1.drew:=(Below.refl _ x1).drew;refine Calls.mono (HKid.out 0 hkm (by omega) x1.drew (IsRz.below HI.out (HV1.out.be.trans (hbd.mono HV1.out.be.size))) (IsVals.below HC.out (HV1.out.be.trans (hbd.mono HV1.out.be.size)))) ?_
   rintro e x2 ⟨rfl,hb2⟩;have hb12:Below x1.heap.size x1 x2:=hbd.trans (hb2.mono hbd.size);have HV2:=hdn <| HV1.out.below hb12;have HB2:Hid (∀ k,k < km P.rows i->x2.cell? ⟨b,k,none⟩=some (I ((kidp P.rows i k:Nat):Int))/\b < x2.heap.size):=fun k hk=>by
    obtain ⟨b',e,h1,h2⟩:=HOw.out k hk;cases e;exact ⟨(hb12.cell (p:=⟨b,k,none⟩) h1).trans h2,Nat.lt_of_lt_of_le h1 hb12.size⟩
   refine hK.out _ _ ⟨HV2.out.p,HV2.out.c,(HB2.out 0 hkm).1⟩ (fun hS=>?_);clear hK K hb2 hb12 hbd HB0 hbl s0 s3 d0 d1;refine rd1 6 rfl fun K hK=>?_;go_simp;refine hK.out _ _ hS (fun hS=>?_);refine wpAnyH_done (by kernel_rfl) ?_ _
   clear hK K hS;obtain ⟨s0,s3⟩:=cells53 HV2.out.r;generalize vB P.rows size cs P.rows.length (kidp P.rows i 0)=z at *;have hw:wrap64 (-z)=-z:=by have:=HE.out;unfold wrap64;omega
   go_wp2;go_ret;rw [HE.out.1];exact ⟨by rw [<-hw];rfl,HV2.out.be⟩
  ·have hkm:0 < km P.rows i:=HKk.out.1 (by omega)
   have HE:Hid (vB P.rows size cs P.rows.length i=wrap64 (1 - vB P.rows size cs P.rows.length (kidp P.rows i 0))):=by
    rw [HRc.out,HrP.out,if_pos hkm,<-HK2.out.1];rfl
   obtain ⟨b,rfl,hbl,hb0⟩:=HOw.out 0 hkm;have HB0:Hid (x1.cell? ⟨b,0,none⟩=some (I ((kidp P.rows i 0:Nat):Int))/\b < x1.heap.size):=⟨hb0,hbl⟩;have hk0n:0 < km P.rows i:=hkm;clear hb0;go_wp2_with fail;refine wp_region_held (S:=fun w':World=>w'.heap[w.heap.size]?=some (.cells (pC P (some ⟨gr,or,none⟩) ac qo qc vo vc tto tc uo uc oo oc) 27 (0,0))/\w'.heap[w.heap.size+1]?=some (.cells #[I size,.slice co nc cc] 39 (0,0))/\w'.cell? ⟨b,0,none⟩=some (I ((kidp P.rows i 0:Nat):Int))) (by kernel_rfl) ?_
   have hS:(fun w':World=>w'.heap[w.heap.size]?=some (.cells (pC P (some ⟨gr,or,none⟩) ac qo qc vo vc tto tc uo uc oo oc) 27 (0,0))/\w'.heap[w.heap.size+1]?=some (.cells #[I size,.slice co nc cc] 39 (0,0))/\w'.cell? ⟨b,0,none⟩=some (I ((kidp P.rows i 0:Nat):Int))) x1.drew:=⟨HV1.out.p,HV1.out.c,HB0.out.1⟩;change wpAnyH _ _ _ _ _ _ _ _ x1.drew;refine tzA 0 rfl hS ?_;refine tcA 1 rfl hS ?_;refine tqA 2 rfl hS ?_;refine tqA 3 rfl hS ?_;refine tqA 4 rfl hS ?_;refine rd1 5 rfl fun K hK=>?_;go_simp;have hbd:Below x1.heap.size x1 x1.drew:=(Below.refl _ x1).drew;refine Calls.mono (HKid.out 0 hkm (by omega) x1.drew (IsRz.below HI.out (HV1.out.be.trans (hbd.mono HV1.out.be.size))) (IsVals.below HC.out (HV1.out.be.trans (hbd.mono HV1.out.be.size)))) ?_
   rintro e x2 ⟨rfl,hb2⟩;have hb12:Below x1.heap.size x1 x2:=hbd.trans (hb2.mono hbd.size);have HV2:=hdn <| HV1.out.below hb12;have HB2:Hid (∀ k,k < km P.rows i->x2.cell? ⟨b,k,none⟩=some (I ((kidp P.rows i k:Nat):Int))/\b < x2.heap.size):=fun k hk=>by
    obtain ⟨b',e,h1,h2⟩:=HOw.out k hk;cases e;exact ⟨(hb12.cell (p:=⟨b,k,none⟩) h1).trans h2,Nat.lt_of_lt_of_le h1 hb12.size⟩
   refine hK.out _ _ ⟨HV2.out.p,HV2.out.c,(HB2.out 0 hkm).1⟩ (fun hS=>?_);clear hK K hb2 hb12 hbd HB0 hbl s0 s3 d0 d1;refine rd1 6 rfl fun K hK=>?_;go_simp;refine hK.out _ _ hS (fun hS=>?_);refine wpAnyH_done (by kernel_rfl) ?_ _
   clear hK K hS;obtain ⟨s0,s3⟩:=cells53 HV2.out.r;go_wp2;go_ret;rw [HE.out];exact ⟨rfl,HV2.out.be⟩
  ·have hkm1:1 < km P.rows i:=HKk.out.2 (by omega) (by omega)
   have hkm:0 < km P.rows i:=by omega
   have HE:Hid (vB P.rows size cs P.rows.length i=(pOf kd nn).cm size cs (vB P.rows size cs P.rows.length (kidp P.rows i 0)) (vB P.rows size cs P.rows.length (kidp P.rows i 1))):=by
    show _=_
    rw [HRc.out,HrP.out,if_pos hkm,if_pos hkm1,HK2.out.1,HK2.out.2 hkm]
   have HTw:=hdn <| fun W:World=>rtwo8 kd nn (vB P.rows size cs P.rows.length (kidp P.rows i 0)) (vB P.rows size cs P.rows.length (kidp P.rows i 1)) size cs W hk2 (by
    have h1:=HKr.out 0 hkm;rcases h1.2 with h2 | h2 | h2
    ·exact absurd h2 (HKx.out 0 hkm (by omega))
    ·have:=h1.1.1 h2;omega
    ·have:=h1.1.2 h2;omega) (fun h53=>by
    have ha:∀ k,(rP P.rows i).asked k (rP P.rows (i+1)).is=2:=fun k=>by rcases h53 with rfl | rfl<;>(rw [HrP.out];rfl)
    have g0:=HKi.out 0 hkm (by rw [ha];decide)
    have g1:=HKi.out 1 hkm1 (by rw [ha];decide)
    rw [ha] at g0 g1;exact ⟨(HKr.out 0 hkm).1.2 g0,(HKr.out 1 hkm1).1.2 g1⟩)
   have n27:(kd == 27)=false:=beq_false_of_ne (by omega)
   have n32:(kd == 32)=false:=beq_false_of_ne (by omega)
   have n33:(kd == 33)=false:=beq_false_of_ne (by omega)
   have n29:(kd == 29)=false:=beq_false_of_ne (by omega)
   have n30:(kd == 30)=false:=beq_false_of_ne (by omega)
   have n41:(kd == 41)=false:=beq_false_of_ne (by omega)
   have n42:(kd == 42)=false:=beq_false_of_ne (by omega)
   have HK39:Hid (39<=kd):=by show _<=_;omega
   clear hk2;obtain ⟨b,rfl,hbl,hb0⟩:=HOw.out 0 hkm;have HB0:Hid (x1.cell? ⟨b,0,none⟩=some (I ((kidp P.rows i 0:Nat):Int))/\b < x1.heap.size):=⟨hb0,hbl⟩;have hk0n:0 < km P.rows i:=hkm;clear hb0;go_wp2_with fail;refine wp_region_held (S:=fun w':World=>w'.heap[w.heap.size]?=some (.cells (pC P (some ⟨gr,or,none⟩) ac qo qc vo vc tto tc uo uc oo oc) 27 (0,0))/\w'.heap[w.heap.size+1]?=some (.cells #[I size,.slice co nc cc] 39 (0,0))/\w'.cell? ⟨b,0,none⟩=some (I ((kidp P.rows i 0:Nat):Int))) (by kernel_rfl) ?_
   have hS:(fun w':World=>w'.heap[w.heap.size]?=some (.cells (pC P (some ⟨gr,or,none⟩) ac qo qc vo vc tto tc uo uc oo oc) 27 (0,0))/\w'.heap[w.heap.size+1]?=some (.cells #[I size,.slice co nc cc] 39 (0,0))/\w'.cell? ⟨b,0,none⟩=some (I ((kidp P.rows i 0:Nat):Int))) x1.drew:=⟨HV1.out.p,HV1.out.c,HB0.out.1⟩;change wpAnyH _ _ _ _ _ _ _ _ x1.drew;refine tzA 0 rfl hS ?_;refine tcA 1 rfl hS ?_;refine tqA 2 rfl hS ?_;refine tqA 3 rfl hS ?_;refine tqA 4 rfl hS ?_;refine rd1 5 rfl fun K hK=>?_;go_simp;have hbd:Below x1.heap.size x1 x1.drew:=(Below.refl _ x1).drew;refine Calls.mono (HKid.out 0 hkm HK39.out x1.drew (IsRz.below HI.out (HV1.out.be.trans (hbd.mono HV1.out.be.size))) (IsVals.below HC.out (HV1.out.be.trans (hbd.mono HV1.out.be.size)))) ?_;rintro e x2 ⟨rfl,hb2⟩;have hb12:Below x1.heap.size x1 x2:=hbd.trans (hb2.mono hbd.size);have HV2:=hdn <| HV1.out.below hb12;have HB2:Hid (∀ k,k < km P.rows i->x2.cell? ⟨b,k,none⟩=some (I ((kidp P.rows i k:Nat):Int))/\b < x2.heap.size):=fun k hk=>by
    obtain ⟨b',e,h1,h2⟩:=HOw.out k hk;cases e;exact ⟨(hb12.cell (p:=⟨b,k,none⟩) h1).trans h2,Nat.lt_of_lt_of_le h1 hb12.size⟩
   refine hK.out _ _ ⟨HV2.out.p,HV2.out.c,(HB2.out 0 hkm).1⟩ (fun hS=>?_);clear hK K hb2 hb12 hbd HB0 hbl s0 s3 d0 d1;refine rd1 6 rfl fun K hK=>?_;go_simp;refine hK.out _ _ hS (fun hS=>?_);refine wpAnyH_done (by kernel_rfl) ?_ _
   clear hK K hS;obtain ⟨s0,s3⟩:=cells53 HV2.out.r;have hk1n:1 < km P.rows i:=hkm1;have hk1i:(1:Int) < ((km P.rows i:Nat):Int):=by omega
   go_wp2_with fail
   refine wp_region_held (S:=fun w':World=>w'.heap[w.heap.size]?=some (.cells (pC P (some ⟨gr,or,none⟩) ac qo qc vo vc tto tc uo uc oo oc) 27 (0,0))/\w'.heap[w.heap.size+1]?=some (.cells #[I size,.slice co nc cc] 39 (0,0))/\w'.cell? ⟨b,1,none⟩=some (I ((kidp P.rows i 1:Nat):Int))/\w'.cell? ⟨w.heap.size+1+1,0,none⟩=some (I kd)) (by kernel_rfl) ?_
   have hS:(fun w':World=>w'.heap[w.heap.size]?=some (.cells (pC P (some ⟨gr,or,none⟩) ac qo qc vo vc tto tc uo uc oo oc) 27 (0,0))/\w'.heap[w.heap.size+1]?=some (.cells #[I size,.slice co nc cc] 39 (0,0))/\w'.cell? ⟨b,1,none⟩=some (I ((kidp P.rows i 1:Nat):Int))/\w'.cell? ⟨w.heap.size+1+1,0,none⟩=some (I kd)) x2.drew:=⟨HV2.out.p,HV2.out.c,(HB2.out 1 hkm1).1,s0⟩;change wpAnyH _ _ _ _ _ _ _ _ x2.drew;refine tqA 0 rfl hS ?_;refine tqA 1 rfl hS ?_;refine tqA 2 rfl hS ?_;refine tzA 3 rfl hS ?_;refine tcA 4 rfl hS ?_;refine tqA 5 rfl hS ?_;refine tqA 6 rfl hS ?_;refine tqA 7 rfl hS ?_;refine rd1 8 rfl fun K hK=>?_;go_simp;have hbd:Below x2.heap.size x2 x2.drew:=(Below.refl _ x2).drew;refine Calls.mono (HKid.out 1 hkm1 HK39.out x2.drew (IsRz.below HI.out (HV2.out.be.trans (hbd.mono HV2.out.be.size))) (IsVals.below HC.out (HV2.out.be.trans (hbd.mono HV2.out.be.size)))) ?_;rintro e x3 ⟨rfl,hb3⟩;have hb23:Below x2.heap.size x2 x3:=hbd.trans (hb3.mono hbd.size);have HV3:=hdn <| HV2.out.below hb23;refine hK.out _ _ ⟨HV3.out.p,HV3.out.c,(hb23.cell (p:=⟨b,1,none⟩) (HB2.out 1 hkm1).2).trans (HB2.out 1 hkm1).1,(cells53 HV3.out.r).1⟩ (fun hS=>?_);clear hK K hb3 hb23 hbd;refine rd1 9 rfl fun K hK=>?_;go_simp;refine Calls.mono (HTw.out x3) ?_;rintro e x4 ⟨rfl,rfl⟩;refine hK.out _ _ hS (fun hS=>?_);clear hK K;refine rd1 10 rfl fun K hK=>?_;go_simp;refine hK.out _ _ hS (fun hS=>?_);refine wpAnyH_done (by kernel_rfl) ?_ _
   clear hK K hS;go_wp2;go_ret;rw [HE.out];exact ⟨rfl,HV3.out.be⟩
theorem ask_cases2 (k:Int):k=4\/k=5\/k=14\/k=6\/k=15\/k=12\/k=13\/(¬ k=4/\¬ k=5/\¬ k=14/\¬ k=6/\¬ k=15/\¬ k=12/\¬ k=13):=by omega
theorem rasked8 {l:List Rz} {ao:Option Addr} {cap:Nat} (i kid:Nat) {w:World} (h:IsRz w ao l) (hn:l.length<=2932031007317) (hf:i+1 < l.length) (hk4:(rat l i).kind=4->kid<=2) (hk1:(rat l i).kind=5\/(rat l i).kind=6\/(rat l i).kind=14->kid=0):
  Calls Tryz.prog 64 #[.slice ao l.length cap,I (i:Int),I ((i+1:Nat):Int),I (kid:Int)] w fun e w'=>e=.returned (I ((rP l i).asked kid (rP l (i+1)).is))/\w'=w:=by
 have hln:(l.length:Int)<=2932031007317:=by omega
 have hi':(i:Int) < (l.length:Int):=by omega
 have hi2:((i+1:Nat):Int) < (l.length:Int):=by omega
 obtain ⟨g,o,rfl,hg,c0,_⟩:=row_cells h (show i < l.length by omega)
 obtain ⟨g2,o2,e2,_,d0,_⟩:=row_cells h hf;cases e2;have HR:Hid (rP l i=pOf (rat l i).kind (rat l i).n):=rfl;have HT:Hid (∀ W,Calls Tryz.prog 35 #[I (rat l (i+1)).kind] W fun e w'=>e=.returned (I (rP l (i+1)).is)/\w'=W):=fun W=>rtype8 _ (rat l (i+1)).n W;have HK4:=hdn <| hk4;have HK1:=hdn <| hk1;rw [HR.out];clear h hn hf hk4 hk1 hg HR;generalize (rat l i).kind=k at *;generalize (rat l i).n=n at *;generalize (rat l (i+1)).kind=k2 at *;generalize (rP l (i+1)).is=t2 at *;generalize i+1=i1 at *;rcases part_cases k with rfl | rfl | rfl | rfl | rfl | rfl | rfl | rfl | rfl | rfl | rfl | rfl | rfl | rfl | rfl | rfl | rfl | rfl | rfl | rfl | rfl | rfl | rfl | rfl | rfl | rfl | rfl | rfl | ⟨h27,h29,h30,h32,h33,h28,h31,h34,h38,h35,h36,h37,h39,h40,h41,h43,h44,h45,h46,h49,h50,h51,h52,h42,h53,h54,h47,h48⟩
 ·clear HT HK4 HK1;go_enter Tryz.func64,Tryz.ntmps64;go_wp2;go_ret;exact ⟨rfl,rfl⟩
 ·clear HT HK4 HK1;go_enter Tryz.func64,Tryz.ntmps64;go_wp2;go_ret;exact ⟨rfl,rfl⟩
 ·clear HT HK4 HK1;go_enter Tryz.func64,Tryz.ntmps64;go_wp2;go_ret;exact ⟨rfl,rfl⟩
 ·clear HT HK4 HK1;go_enter Tryz.func64,Tryz.ntmps64;go_wp2;go_ret;exact ⟨rfl,rfl⟩
 ·clear HT HK4 HK1;go_enter Tryz.func64,Tryz.ntmps64;go_wp2;go_ret;exact ⟨rfl,rfl⟩
 ·clear HT HK4 HK1;go_enter Tryz.func64,Tryz.ntmps64;go_wp2;go_ret;exact ⟨rfl,rfl⟩
 ·clear HT HK4 HK1;go_enter Tryz.func64,Tryz.ntmps64;go_wp2;go_ret;exact ⟨rfl,rfl⟩
 ·clear HT HK4 HK1;go_enter Tryz.func64,Tryz.ntmps64;go_wp2;go_ret;exact ⟨rfl,rfl⟩
 ·clear HT HK4 HK1;go_enter Tryz.func64,Tryz.ntmps64;go_wp2;go_ret;exact ⟨rfl,rfl⟩
 ·clear HT HK4 HK1;go_enter Tryz.func64,Tryz.ntmps64;go_wp2;go_ret;exact ⟨rfl,rfl⟩
 ·clear HT HK4 HK1;go_enter Tryz.func64,Tryz.ntmps64;go_wp2;go_ret;exact ⟨rfl,rfl⟩
 ·clear HT HK4 HK1;go_enter Tryz.func64,Tryz.ntmps64;go_wp2;go_ret;exact ⟨rfl,rfl⟩
 ·clear HT HK4 HK1;go_enter Tryz.func64,Tryz.ntmps64;go_wp2;go_ret;exact ⟨rfl,rfl⟩
 ·clear HT HK4 HK1;go_enter Tryz.func64,Tryz.ntmps64;go_wp2;go_ret;exact ⟨rfl,rfl⟩
 ·clear HT HK4 HK1;go_enter Tryz.func64,Tryz.ntmps64;go_wp2;go_ret;exact ⟨rfl,rfl⟩
 ·clear HT HK4 HK1;go_enter Tryz.func64,Tryz.ntmps64;go_wp2;go_ret;exact ⟨rfl,rfl⟩
 ·clear HT HK4 HK1;go_enter Tryz.func64,Tryz.ntmps64;go_wp2;go_ret;exact ⟨rfl,rfl⟩
 ·clear HT HK4 HK1;go_enter Tryz.func64,Tryz.ntmps64;go_wp2;go_ret;exact ⟨rfl,rfl⟩
 ·clear HT HK4 HK1;go_enter Tryz.func64,Tryz.ntmps64;go_wp2;go_ret;exact ⟨rfl,rfl⟩
 ·clear HT HK4 HK1;go_enter Tryz.func64,Tryz.ntmps64;go_wp2;go_ret;exact ⟨rfl,rfl⟩
 ·clear HT HK4 HK1;go_enter Tryz.func64,Tryz.ntmps64;go_wp2;go_ret;exact ⟨rfl,rfl⟩
 ·clear HT HK4 HK1;go_enter Tryz.func64,Tryz.ntmps64;go_wp2;go_ret;exact ⟨rfl,rfl⟩
 ·clear HT HK4 HK1;go_enter Tryz.func64,Tryz.ntmps64;go_wp2;go_ret;exact ⟨rfl,rfl⟩
 ·clear HT HK4 HK1;go_enter Tryz.func64,Tryz.ntmps64;go_wp2;go_ret;exact ⟨rfl,rfl⟩
 ·clear HT HK4 HK1;go_enter Tryz.func64,Tryz.ntmps64;go_wp2;go_ret;exact ⟨rfl,rfl⟩
 ·clear HT HK4 HK1;go_enter Tryz.func64,Tryz.ntmps64;go_wp2;go_ret;exact ⟨rfl,rfl⟩
 ·by_cases hk:kid=1
  ·subst hk;go_enter Tryz.func64,Tryz.ntmps64;go_wp2_with fail;refine Calls.mono (HT.out _) ?_;rintro e w2 ⟨rfl,rfl⟩;go_wp2;go_ret;exact ⟨rfl,rfl⟩
  ·have hk':((kid:Int) == 1)=false:=beq_false_of_ne (by omega)
   have HZ:Hid ((pOf 47 n).asked kid t2=0):=if_neg hk;rw [HZ.out];clear hk;go_enter Tryz.func64,Tryz.ntmps64;go_wp2;go_ret;exact ⟨rfl,rfl⟩
 ·by_cases hk:kid=1
  ·subst hk;go_enter Tryz.func64,Tryz.ntmps64;go_wp2_with fail;refine Calls.mono (HT.out _) ?_;rintro e w2 ⟨rfl,rfl⟩;go_wp2;go_ret;exact ⟨rfl,rfl⟩
  ·have hk':((kid:Int) == 1)=false:=beq_false_of_ne (by omega)
   have HZ:Hid ((pOf 48 n).asked kid t2=0):=if_neg hk;rw [HZ.out];clear hk;go_enter Tryz.func64,Tryz.ntmps64;go_wp2;go_ret;exact ⟨rfl,rfl⟩
 ·have HP:Hid (pOf k n=.dng (askA k) (askB k) (askC k)):=by
   simp [Hid,pOf,h27,h29,h30,h32,h33,h28,h31,h34,h38,h35,h36,h37,h39,h40,h41,h43,h44,h45,h46,h49,h50,h51,h52,h42,h53,h54,h47,h48]
  rw [HP.out];clear HT HP;rcases ask_cases2 k with rfl | rfl | rfl | rfl | rfl | rfl | rfl | ⟨h4,h5,h14,h6,h15,h12,h13⟩
  ·have hk:kid=0\/kid=1\/kid=2:=by have:=HK4.out rfl;omega
   have HZ:Hid ((Prt.dng (askA 4) (askB 4) (askC 4)).asked kid t2=1):=by rcases hk with rfl | rfl | rfl<;>rfl
   rw [HZ.out];clear h27 h29 h30 h32 h33 h28 h31 h34 h38 h35 h36 h37 h39 h40 h41 h43 h44 h45 h46 h49 h50 h51 h52 h42 h53 h54 h47 h48 hk;go_enter Tryz.func64,Tryz.ntmps64;go_wp2;go_ret;exact ⟨rfl,rfl⟩
  ·obtain rfl:=HK1.out (by omega)
   clear h27 h29 h30 h32 h33 h28 h31 h34 h38 h35 h36 h37 h39 h40 h41 h43 h44 h45 h46 h49 h50 h51 h52 h42 h53 h54 h47 h48;go_enter Tryz.func64,Tryz.ntmps64;go_wp2;go_ret;exact ⟨rfl,rfl⟩
  ·obtain rfl:=HK1.out (by omega)
   clear h27 h29 h30 h32 h33 h28 h31 h34 h38 h35 h36 h37 h39 h40 h41 h43 h44 h45 h46 h49 h50 h51 h52 h42 h53 h54 h47 h48;go_enter Tryz.func64,Tryz.ntmps64;go_wp2;go_ret;exact ⟨rfl,rfl⟩
  ·obtain rfl:=HK1.out (by omega)
   clear h27 h29 h30 h32 h33 h28 h31 h34 h38 h35 h36 h37 h39 h40 h41 h43 h44 h45 h46 h49 h50 h51 h52 h42 h53 h54 h47 h48;go_enter Tryz.func64,Tryz.ntmps64;go_wp2;go_ret;exact ⟨rfl,rfl⟩
  ·clear h27 h29 h30 h32 h33 h28 h31 h34 h38 h35 h36 h37 h39 h40 h41 h43 h44 h45 h46 h49 h50 h51 h52 h42 h53 h54 h47 h48;by_cases hk:kid=1
   ·subst hk;go_enter Tryz.func64,Tryz.ntmps64;go_wp2;go_ret;exact ⟨rfl,rfl⟩
   ·have hk':((kid:Int) == 1)=false:=beq_false_of_ne (by omega)
    have HZ:Hid ((Prt.dng (askA 15) (askB 15) (askC 15)).asked kid t2=0):=by
     show (if kid=0 then askA 15 else if kid=1 then askB 15 else if kid=2 then askC 15 else 0)=0
     rw [if_neg hk]
     split
     ·rfl
     ·split<;>rfl
    rw [HZ.out];clear hk;go_enter Tryz.func64,Tryz.ntmps64;go_wp2;go_ret;exact ⟨rfl,rfl⟩
  ·clear h27 h29 h30 h32 h33 h28 h31 h34 h38 h35 h36 h37 h39 h40 h41 h43 h44 h45 h46 h49 h50 h51 h52 h42 h53 h54 h47 h48;by_cases hk:kid=0
   ·subst hk;go_enter Tryz.func64,Tryz.ntmps64;go_wp2;go_ret;exact ⟨rfl,rfl⟩
   ·have hk':((kid:Int) == 0)=false:=beq_false_of_ne (by omega)
    have HZ:Hid ((Prt.dng (askA 12) (askB 12) (askC 12)).asked kid t2=0):=by
     show (if kid=0 then askA 12 else if kid=1 then askB 12 else if kid=2 then askC 12 else 0)=0
     rw [if_neg hk]
     split
     ·rfl
     ·split<;>rfl
    rw [HZ.out];clear hk;go_enter Tryz.func64,Tryz.ntmps64;go_wp2;go_ret;exact ⟨rfl,rfl⟩
  ·clear h27 h29 h30 h32 h33 h28 h31 h34 h38 h35 h36 h37 h39 h40 h41 h43 h44 h45 h46 h49 h50 h51 h52 h42 h53 h54 h47 h48;by_cases hk:kid=0
   ·subst hk;go_enter Tryz.func64,Tryz.ntmps64;go_wp2;go_ret;exact ⟨rfl,rfl⟩
   ·have hk':((kid:Int) == 0)=false:=beq_false_of_ne (by omega)
    by_cases hj:kid=1
    ·subst hj;go_enter Tryz.func64,Tryz.ntmps64;go_wp2;go_ret;exact ⟨rfl,rfl⟩
    ·have hj':((kid:Int) == 1)=false:=beq_false_of_ne (by omega)
     have HZ:Hid ((Prt.dng (askA 13) (askB 13) (askC 13)).asked kid t2=0):=by
      show (if kid=0 then askA 13 else if kid=1 then askB 13 else if kid=2 then askC 13 else 0)=0
      rw [if_neg hk,if_neg hj]
      split<;>rfl
     rw [HZ.out];clear hk hj;go_enter Tryz.func64,Tryz.ntmps64;go_wp2;go_ret;exact ⟨rfl,rfl⟩
  ·have HZ:Hid ((Prt.dng (askA k) (askB k) (askC k)).asked kid t2=0):=by
    have z1:askA k=0:=by simp [askA,h4,h5,h14,h6,h15,h12,h13]
    have z2:askB k=0:=by simp [askB,h4,h5,h14,h15,h13]
    have z3:askC k=0:=by simp [askC,h4]
    show (if kid=0 then askA k else if kid=1 then askB k else if kid=2 then askC k else 0)=0
    rw [z1,z2,z3]
    split
    ·rfl
    ·split
     ·rfl
     ·split<;>rfl
   rw [HZ.out];have b4:(k == 4)=false:=beq_false_of_ne h4;have b5:(k == 5)=false:=beq_false_of_ne h5;have b14:(k == 14)=false:=beq_false_of_ne h14;have b41:(k == 41)=false:=beq_false_of_ne h41;have b39:(k == 39)=false:=beq_false_of_ne h39;have b40:(k == 40)=false:=beq_false_of_ne h40;have b43:(k == 43)=false:=beq_false_of_ne h43;have b44:(k == 44)=false:=beq_false_of_ne h44;have b45:(k == 45)=false:=beq_false_of_ne h45;have b46:(k == 46)=false:=beq_false_of_ne h46;have b49:(k == 49)=false:=beq_false_of_ne h49;have b50:(k == 50)=false:=beq_false_of_ne h50;have b51:(k == 51)=false:=beq_false_of_ne h51;have b52:(k == 52)=false:=beq_false_of_ne h52;have b6:(k == 6)=false:=beq_false_of_ne h6;have b42:(k == 42)=false:=beq_false_of_ne h42;have b53:(k == 53)=false:=beq_false_of_ne h53;have b54:(k == 54)=false:=beq_false_of_ne h54;have b15:(k == 15)=false:=beq_false_of_ne h15;have b12:(k == 12)=false:=beq_false_of_ne h12;have b13:(k == 13)=false:=beq_false_of_ne h13;have b47:(k == 47)=false:=beq_false_of_ne h47;have b48:(k == 48)=false:=beq_false_of_ne h48;clear h27 h29 h30 h32 h33 h28 h31 h34 h38 h35 h36 h37 h39 h40 h41 h43 h44 h45 h46 h49 h50 h51 h52 h42 h53 h54 h47 h48 h4 h5 h14 h6 h15 h12 h13;go_enter Tryz.func64,Tryz.ntmps64;go_wp2;go_ret;exact ⟨rfl,rfl⟩
theorem qgh {w:World} {qo:Option Addr} {qs:List (ByteArray × Bool)} (h:IsVals w qo (qF qs)) {n:Nat} (hn:n < qs.length):∃ g o,qo=some ⟨g,o,none⟩/\g < w.heap.size/\w.cell? ⟨g,o+n * 2+1,none⟩=some (.bool (ghL qs n)):=by
 obtain ⟨g,o,e,hg,hc⟩:=h _ _ (qF_at hn);exact ⟨g,o,e,hg,by rw [Nat.add_assoc];exact hc⟩
theorem rother8 {P:Pg} {ao qo vo tto uo oo:Option Addr} {ac qc vc tc uc oc:Nat} (i:Nat) {w:World} (hr:IsRz w ao P.rows) (hq:IsVals w qo (qF P.qs)) (hn:P.rows.length<=2932031007317) (hi:i < P.rows.length) (hQ:Qs P.rows P.qs) (hql:P.qs.length<=16):
  Calls Tryz.prog 37 #[.agg (pC P ao ac qo qc vo vc tto tc uo uc oo oc),I (i:Int)] w fun e w'=>e=.returned (.bool (othZ P.rows (ghL P.qs) i))/\Below w.heap.size w w':=by
 have hln:(P.rows.length:Int)<=2932031007317:=by omega
 have hi1:(i:Int) < (P.rows.length:Int):=by omega
 have hqn:(P.qs.length:Int)<=16:=by omega
 have HO:Hid (othZ P.rows (ghL P.qs) i=if (rat P.rows i).kind=8\/(rat P.rows i).kind=17\/(rat P.rows i).kind=20 then ghZ P.rows (ghL P.qs) i else if (rat P.rows i).kind=9\/(rat P.rows i).kind=21 then !ghZ P.rows (ghL P.qs) i
  else if (rat P.rows i).kind=24 then (if (rat P.rows (i - 1)).kind=20 then !ghZ P.rows (ghL P.qs) i else ghZ P.rows (ghL P.qs) i != ghZ P.rows (ghL P.qs) (i - 1)) else false):=rfl
 have hb:Below w.heap.size w (w.alloc (.cells (pC P ao ac qo qc vo vc tto tc uo uc oo oc) 27)):=bAl w _;have HX:=hdn <| heap_alloc_new w (.cells (pC P ao ac qo qc vo vc tto tc uo uc oo oc) 27);obtain ⟨g,o,rfl,hg,c0,c1,c2,c3,c4⟩:=row_cells (hr.below hb) hi;have HB:=hdn <| hb;have hB2:∀ cs:Array Value,Below w.heap.size w ((w.alloc (.cells (pC P (some ⟨g,o,none⟩) ac qo qc vo vc tto tc uo uc oo oc) 27)).alloc (.cells cs 61)):=fun cs=>hb.alloc (by simp) _
 have HB2:=hdn <| hB2;have HB3:Hid (∀ cs cs2:Array Value,Below w.heap.size w (((w.alloc (.cells (pC P (some ⟨g,o,none⟩) ac qo qc vo vc tto tc uo uc oo oc) 27)).alloc (.cells cs 61)).alloc (.cells cs2 61))):=fun cs cs2=>(hB2 cs).alloc (by simp;omega) _
 clear hB2;by_cases hA:(rat P.rows i).kind=8\/(rat P.rows i).kind=17\/(rat P.rows i).kind=20
 ·obtain ⟨n,hN,hq1⟩:=hQ.n i hi (by omega)
  have HR:Hid (othZ P.rows (ghL P.qs) i=ghL P.qs n):=by show _=_;rw [HO.out,if_pos hA];unfold ghZ;rw [hN];rfl
  rw [HR.out];rw [hN] at c3;have hnq:(n:Int) < (P.qs.length:Int):=by omega
  obtain ⟨g2,o2,rfl,hg2,q0⟩:=qgh hq hq1;have q1:∀ cs:Array Value,((w.alloc (.cells (pC P (some ⟨g,o,none⟩) ac (some ⟨g2,o2,none⟩) qc vo vc tto tc uo uc oo oc) 27)).alloc (.cells cs 61)).cell? ⟨g2,o2+n * 2+1,none⟩=some (.bool (ghL P.qs n)):=fun cs=>((HB2.out cs).cell (p:=⟨g2,o2+n * 2+1,none⟩) hg2).trans q0;clear HO hQ hN HR hr hq hb HB HX q0 hn hql hq1 hg hg2 HB3;generalize ghL P.qs n=z at *;rcases hA with h | h | h
  all_goals
   rw [h] at c0;go_enter Tryz.func37,Tryz.ntmps37;go_wp2;go_ret;exact ⟨rfl,HB2.out _⟩
 ·by_cases hD:(rat P.rows i).kind=9\/(rat P.rows i).kind=21
  ·obtain ⟨n,hN,hq1⟩:=hQ.n i hi (by omega)
   have HR:Hid (othZ P.rows (ghL P.qs) i=!ghL P.qs n):=by show _=_;rw [HO.out,if_neg hA,if_pos hD];unfold ghZ;rw [hN];rfl
   rw [HR.out];rw [hN] at c3;have hnq:(n:Int) < (P.qs.length:Int):=by omega
   obtain ⟨g2,o2,rfl,hg2,q0⟩:=qgh hq hq1;have q1:∀ cs:Array Value,((w.alloc (.cells (pC P (some ⟨g,o,none⟩) ac (some ⟨g2,o2,none⟩) qc vo vc tto tc uo uc oo oc) 27)).alloc (.cells cs 61)).cell? ⟨g2,o2+n * 2+1,none⟩=some (.bool (ghL P.qs n)):=fun cs=>((HB2.out cs).cell (p:=⟨g2,o2+n * 2+1,none⟩) hg2).trans q0;clear HO hQ hN HR hr hq hb HB HX q0 hn hql hq1 hg hg2 HB3 hA;generalize ghL P.qs n=z at *;rcases hD with h | h
   all_goals
    rw [h] at c0;go_enter Tryz.func37,Tryz.ntmps37;go_wp2;go_ret;exact ⟨rfl,HB2.out _⟩
  ·by_cases hP:(rat P.rows i).kind=24
   ·obtain ⟨n,hN,hq1⟩:=hQ.n i hi (by omega)
    obtain ⟨hi0,hup⟩:=hQ.up i hi hP;obtain ⟨n2,hN2,hq2⟩:=hQ.n (i - 1) (by omega) (by omega)
    have hs:((i:Int) - 1)=((i - 1:Nat):Int):=by omega
    have hi2:((i - 1:Nat):Int) < (P.rows.length:Int):=by omega
    obtain ⟨g3,o3,hg0,_,d0',d1',d2',d3',d4'⟩:=row_cells (hr.below hb) (k:=i - 1) (by omega)
    cases hg0;rw [hN] at c3;rw [hN2] at d3';have hnq:(n:Int) < (P.qs.length:Int):=by omega
    have hnq2:(n2:Int) < (P.qs.length:Int):=by omega
    obtain ⟨g2,o2,rfl,hg2,q0⟩:=qgh hq hq1;obtain ⟨_,_,eq2,_,q0'⟩:=qgh hq hq2;cases eq2;have hrow:∀ cs:Array Value,∀ (j:Nat) (v:Value),(w.alloc (.cells (pC P (some ⟨g,o,none⟩) ac (some ⟨g2,o2,none⟩) qc vo vc tto tc uo uc oo oc) 27)).cell? ⟨g,j,none⟩=some v->((w.alloc (.cells (pC P (some ⟨g,o,none⟩) ac (some ⟨g2,o2,none⟩) qc vo vc tto tc uo uc oo oc) 27)).alloc (.cells cs 61)).cell? ⟨g,j,none⟩=some v:=fun cs j v hv=>((bAl _ _).cell (p:=⟨g,j,none⟩) hg).trans hv;have d0:=fun cs=>hrow cs _ _ d0';have d1:=fun cs=>hrow cs _ _ d1';have d2:=fun cs=>hrow cs _ _ d2';have d3:=fun cs=>hrow cs _ _ d3';have d4:=fun cs=>hrow cs _ _ d4';have q1:∀ cs cs2:Array Value,(((w.alloc (.cells (pC P (some ⟨g,o,none⟩) ac (some ⟨g2,o2,none⟩) qc vo vc tto tc uo uc oo oc) 27)).alloc (.cells cs 61)).alloc (.cells cs2 61)).cell? ⟨g2,o2+n * 2+1,none⟩=some (.bool (ghL P.qs n)):=fun cs cs2=>((HB3.out cs cs2).cell (p:=⟨g2,o2+n * 2+1,none⟩) hg2).trans q0;have q2:∀ cs cs2:Array Value,(((w.alloc (.cells (pC P (some ⟨g,o,none⟩) ac (some ⟨g2,o2,none⟩) qc vo vc tto tc uo uc oo oc) 27)).alloc (.cells cs 61)).alloc (.cells cs2 61)).cell? ⟨g2,o2+n2 * 2+1,none⟩=some (.bool (ghL P.qs n2)):=fun cs cs2=>((HB3.out cs cs2).cell (p:=⟨g2,o2+n2 * 2+1,none⟩) hg2).trans q0';rw [hP] at c0;rcases hup with h19 | h20
    ·have HR:Hid (othZ P.rows (ghL P.qs) i=(ghL P.qs n != ghL P.qs n2)):=by show _=_;rw [HO.out,if_neg hA,if_neg hD,if_pos hP,h19];unfold ghZ;rw [hN,hN2];rfl
     rw [HR.out];rw [h19] at d0;clear HO hQ hN hN2 HR hr hq hb HB HX q0 q0' hn hql hq1 hq2 hg hg2 HB2 hA hD hP h19 d0' d1' d2' d3' d4' hrow;generalize i - 1=i1 at *;generalize ghL P.qs n=z at *;generalize ghL P.qs n2=z2 at *;go_enter Tryz.func37,Tryz.ntmps37;go_wp2_with fail
     go_quiet (fail)
     go_wp2;go_ret;exact ⟨rfl,(HB3.out _ _).trans ((below_drewN _ _).mono (HB3.out _ _).size)⟩
    ·have HR:Hid (othZ P.rows (ghL P.qs) i=!ghL P.qs n):=by show _=_;rw [HO.out,if_neg hA,if_neg hD,if_pos hP,if_pos h20];unfold ghZ;rw [hN];rfl
     rw [HR.out];rw [h20] at d0;clear HO hQ hN hN2 HR hr hq hb HB HX q0 q0' hn hql hq1 hq2 hg hg2 HB2 hA hD hP h20 d0' d1' d2' d3' d4' hrow;generalize i - 1=i1 at *;generalize ghL P.qs n=z at *;generalize ghL P.qs n2=z2 at *;go_enter Tryz.func37,Tryz.ntmps37;go_wp2;go_ret;exact ⟨rfl,HB3.out _ _⟩
   ·have HR:Hid (othZ P.rows (ghL P.qs) i=false):=by show _=_;rw [HO.out,if_neg hA,if_neg hD,if_neg hP]
    rw [HR.out];clear HO HR hr hq hb HB HX hn hql hg HB3 hQ;generalize (rat P.rows i).kind=k at *;have b8:(k == 8)=false:=beq_false_of_ne (by omega)
    have b17:(k == 17)=false:=beq_false_of_ne (by omega)
    have b20:(k == 20)=false:=beq_false_of_ne (by omega)
    have b9:(k == 9)=false:=beq_false_of_ne (by omega)
    have b21:(k == 21)=false:=beq_false_of_ne (by omega)
    have b24:(k == 24)=false:=beq_false_of_ne (by omega)
    clear hA hD hP;go_enter Tryz.func37,Tryz.ntmps37;go_wp2;go_ret;exact ⟨rfl,HB2.out _⟩
end Go.Proofs.YtbledbjcghaanaaGreat.Nm.Ty
