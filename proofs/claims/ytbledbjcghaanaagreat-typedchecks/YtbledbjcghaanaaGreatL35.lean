import Derived.Test.YtbledbjcghaanaaGreatL34
import Derived.Test.YtbledbjcghaanaaGreatTl
set_option maxHeartbeats 25600000
set_option maxRecDepth 100000
namespace Go.Proofs.YtbledbjcghaanaaGreat.Nm.Ty
open Go.RowKit Go.Maps Sp Lx Gr
structure Rdc (P:Pg):Prop where
 z:Stz P.rows
 c:∀ i,i < P.rows.length->(rat P.rows i).kind=32->∃ n:Nat,(rat P.rows i).n=(n:Int)/\n < P.qs.length
 n:∀ i,i < P.rows.length->in64 (rat P.rows i).n
theorem fitE_len {gh:Nat->Bool} {nq:Nat} {size:Int} {cs:Nat->Int} {nc:Nat} (h:fitE gh nq size cs nc=0):nc=nq:=by
 unfold fitE at h
 split at h
 ·rename_i h1
  exact h1.2.2.1
 ·omega
theorem ruZ_len {P:Pg} {size:Int} {cs:Nat->Int} {nc:Nat} (h:(ruZ P size cs nc).1=0):nc=P.qs.length:=by
 unfold ruZ at h
 split at h
 ·exact fitE_len h
 ·rename_i h1
  exact absurd (by simpa using h) h1
structure Cq (w wx:World) (pc cc:Array Value):Prop where
 p:wx.heap[w.heap.size]?=some (.cells pc 27 (0,0))
 c:wx.heap[w.heap.size+1]?=some (.cells cc 39 (0,0))
 t:wx.heap[w.heap.size+1+1]?=some (.cells #[pz,pz,pz] 51 (0,0))
 f:wx.heap[w.heap.size+1+1+1]?=some (.cells #[I 0,I 0] 32 (0,0))
 be:Below w.heap.size w wx
theorem Cq.below {w wx w':World} {pc cc:Array Value} (h:Cq w wx pc cc) (hb:Below wx.heap.size wx w'):Cq w w' pc cc:=⟨(hb.block _ (blk_lt h.p)).trans h.p,(hb.block _ (blk_lt h.c)).trans h.c,(hb.block _ (blk_lt h.t)).trans h.t,(hb.block _ (blk_lt h.f)).trans h.f,h.be.trans (hb.mono h.be.size)⟩
theorem cq_start (w:World) (pc cc:Array Value):Cq w ((((w.alloc (.cells pc 27)).alloc (.cells cc 39)).alloc (.cells #[pz,pz,pz] 51)).alloc (.cells #[I 0,I 0] 32)) pc cc:=by
 refine ⟨?_,?_,?_,?_,(((bAl w _).alloc (by simp) _).alloc (by simp;omega) _).alloc (by simp;omega) _⟩
 ·rw [alloc_old _ _ _ (by simp;omega),alloc_old _ _ _ (by simp;omega),alloc_old _ _ _ (by simp)]
  exact alloc_at _ _ _ rfl
 ·rw [alloc_old _ _ _ (by first | (simp;done) | (simp;omega)),alloc_old _ _ _ (by simp)]
  exact alloc_at _ _ _ (by simp)
 ·rw [alloc_old _ _ _ (by simp)]
  exact alloc_at _ _ _ (by simp)
 ·exact alloc_at _ _ _ (by simp)
def ChkQ (P:Pg) (size:Int) (cs:Nat->Int) (nc:Nat) (w:World) (e:Ending) (w':World):Prop:=(¬ IsOk P/\e=.returned (.tuple #[.agg #[pz,pz,pz],.agg #[I 23,I 0]])) \/
 (IsOk P/\(ruZ P size cs nc).1 ≠ 0/\e=.returned (.tuple #[.agg #[pz,pz,pz],.agg #[I (ruZ P size cs nc).1,I (ruZ P size cs nc).2]])) \/
 (IsOk P/\(ruZ P size cs nc).1=0/\StlQ P.rows (vB P.rows size cs P.rows.length) w e w')
theorem tcheck_any {P:Pg} {ao qo vo tto uo oo co:Option Addr} {ac qc vc tc uc oc nc cc:Nat} {size:Int} {cs:Nat->Int} {w:World} (h:RdG w P ao qo vo tto uo oo) (hs:P.Sm) (hnil:ao=none->ac=0) (hR:IsOk P->Rdy P) (hD:IsOk P->Rdc P) (hc:IsVals w co (fL nc (fun i=>I (cs i)))) (hcl:nc<=17592186043904) (hsz:in64 size) (hcs:∀ i,in64 (cs i)):
  Calls Tryz.prog 25 #[pvG P ao qo vo tto uo oo ac qc vc tc uc oc,.agg #[I size,.slice co nc cc]] w fun e w'=>Below w.heap.size w w'/\ChkQ P size cs nc w e w':=by
 have H1:Hid (Cq w ((((w.alloc (.cells (pC P ao ac qo qc vo vc tto tc uo uc oo oc) 27)).alloc (.cells #[I size,.slice co nc cc] 39)).alloc (.cells #[pz,pz,pz] 51)).alloc (.cells #[I 0,I 0] 32)) (pC P ao ac qo qc vo vc tto tc uo uc oo oc) #[I size,.slice co nc cc]):=cq_start w _ _;have HC:Hid (IsVals w co (fL nc (fun i=>I (cs i)))):=hc;have HSz:Hid (in64 size/\(∀ i,in64 (cs i))/\nc<=17592186043904):=⟨hsz,hcs,hcl⟩;have HU:=hdn <| under_any (ac:=ac) (qc:=qc) (vc:=vc) (tc:=tc) (uc:=uc) (oc:=oc) (cc:=cc) (size:=size) (h.below H1.out.be) hs hnil hR (hc.below H1.out.be) hcl;have HRd:=hdn <| hR;have HDd:=hdn <| hD;have HZl:Hid ((ruZ P size cs nc).1=0->nc=P.qs.length):=ruZ_len;obtain ⟨k0,k1,k2,k3,k4,k5,k6,k7⟩:=pol8 H1.out.p;obtain ⟨d0,d1⟩:=cells2 H1.out.c;dsimp only [pvG] at *;clear h hs hnil hR hc hcl hsz hcs hD;go_enter Tryz.func25,Tryz.ntmps25;go_wp2_with fail;generalize ((((w.alloc (.cells (pC P ao ac qo qc vo vc tto tc uo uc oo oc) 27)).alloc (.cells #[I size,.slice co nc cc] 39)).alloc (.cells #[pz,pz,pz] 51)).alloc (.cells #[I 0,I 0] 32))=w1 at *;refine Calls.mono HU.out ?_;rintro e w2 ⟨hb2,hr⟩;have H2:=hdn <| H1.out.below hb2;clear HU H1 hb2 k0 k1 k2 k3 k4 k5 k6 k7 d0 d1;rcases hr with ⟨hno,rfl⟩ | ⟨his,po,eo,pc,ec,rfl,hIr,hloc,hcap⟩
 ·have HNo:Hid (¬ IsOk P):=hno;clear hno;have hbW:Below w2.heap.size w2 ((w2.alloc (.cells #[pz,pz,pz,pz] 65)).alloc (.cells #[I 23,I 0] 32)):=(bAl w2 _).alloc (by simp) _
  have H3:=hdn <| H2.out.below hbW;have HX:Hid (((w2.alloc (.cells #[pz,pz,pz,pz] 65)).alloc (.cells #[I 23,I 0] 32)).heap[w2.heap.size+1]?=some (.cells #[I 23,I 0] 32 (0,0))/\w.heap.size+1+1+1 < w2.heap.size):=⟨alloc_at _ _ _ (by simp),blk_lt H2.out.f⟩
  obtain ⟨q0,q1⟩:=cells2 HX.out.1;clear hbW;go_wp2_with fail;generalize ((w2.alloc (.cells #[pz,pz,pz,pz] 65)).alloc (.cells #[I 23,I 0] 32))=w3 at *;obtain ⟨e0,e1,e2⟩:=cells3 H3.out.t;obtain ⟨f0,f1⟩:=cells2 H3.out.f;have hr:∀ j,w3.frozen? ⟨w.heap.size+1+1,j,none⟩=false:=fun j=>by have:=H3.out.t;simp only [World.frozen?,this];rfl
  have hf:∀ j,w3.frozen? ⟨w.heap.size+1+1+1,j,none⟩=false:=fun j=>by have:=H3.out.f;simp only [World.frozen?,this];rfl
  have hlt2:=HX.out.2;generalize w2.heap.size=m2 at *;have n1:¬ m2+1=w.heap.size+1+1:=by omega
  have n2:¬ m2+1=w.heap.size+1+1+1:=by omega
  go_region
  all_goals
   go_wp2_with fail
   obtain ⟨a1,a2,a3⟩:=put3M (B:=w.heap.size+1+1) (v0:=pz) (v1:=pz) (v2:=pz) H3.out.be (by omega) H3.out.t
   obtain ⟨c1,c2,c3⟩:=put2M (B:=w.heap.size+1+1+1) (v0:=I 23) (v1:=I 0) a2 (by omega) ((a3 _ (by omega)).trans H3.out.f)
   obtain ⟨y0,y1⟩:=cells2 c1;obtain ⟨u0,u1,u2⟩:=cells3 ((c3 _ (by omega)).trans a1)
   refine bodyPost_ret (v:=.tuple #[.agg #[pz,pz,pz],.agg #[I 23,I 0]]) (by simp [results,Tryz.results25,go_sem,y0,y1,u0,u1,u2]) rfl ?_
   exact ⟨c2.drew,Or.inl ⟨HNo.out,rfl⟩⟩
 ·have HIs:Hid (IsOk P):=his;have HIr:=hdn <| hIr;have HRu:Hid (∀ a b,(ruZ P size cs nc).1=a->(ruZ P size cs nc).2=b->ruZ P size cs nc=(a,b)):=fun a b e1 e2=>by rw [<-e1,<-e2]
  clear his hIr hloc hcap;have HQ1:Hid (∀ e W,(ruZ P size cs nc).1 ≠ 0->e=.returned (.tuple #[.agg #[pz,pz,pz],.agg #[I (ruZ P size cs nc).1,I (ruZ P size cs nc).2]])->ChkQ P size cs nc w e W):=fun e W h1 h2=>Or.inr (Or.inl ⟨HIs.out,h1,h2⟩);have HQ2:Hid (∀ e W,(ruZ P size cs nc).1=0->StlQ P.rows (vB P.rows size cs P.rows.length) w e W->ChkQ P size cs nc w e W):=fun e W h1 h2=>Or.inr (Or.inr ⟨HIs.out,h1,h2⟩);generalize ruZ P size cs nc=rz at *;dsimp only [rgC] at *;by_cases h0:rz.1=0
  ·have h0':(rz.1 != 0)=false:=by simp [h0]
   have hbW:Below w2.heap.size w2 ((w2.alloc (.cells #[.slice ao P.rows.length ac,.slice qo P.qs.length qc,.slice po P.rows.length pc,.slice eo P.rows.length ec] 65)).alloc (.cells #[I rz.1,I rz.2] 32)):=(bAl w2 _).alloc (by simp) _
   have H3:=hdn <| H2.out.below hbW;have HI3:=hdn <| HIr.out.below hbW;have HX:Hid (((w2.alloc (.cells #[.slice ao P.rows.length ac,.slice qo P.qs.length qc,.slice po P.rows.length pc,.slice eo P.rows.length ec] 65)).alloc (.cells #[I rz.1,I rz.2] 32)).heap[w2.heap.size]?=some (.cells #[.slice ao P.rows.length ac,.slice qo P.qs.length qc,.slice po P.rows.length pc,.slice eo P.rows.length ec] 65 (0,0))/\((w2.alloc (.cells #[.slice ao P.rows.length ac,.slice qo P.qs.length qc,.slice po P.rows.length pc,.slice eo P.rows.length ec] 65)).alloc (.cells #[I rz.1,I rz.2] 32)).heap[w2.heap.size+1]?=some (.cells #[I rz.1,I rz.2] 32 (0,0))/\w.heap.size+1+1+1 < w2.heap.size):=⟨by rw [alloc_old _ _ _ (by simp)];exact alloc_at _ _ _ rfl,alloc_at _ _ _ (by simp),blk_lt H2.out.f⟩
   obtain ⟨t0,t1,t2,t3⟩:=cells4 HX.out.1;obtain ⟨q0,q1⟩:=cells2 HX.out.2.1;obtain ⟨d0,d1⟩:=cells2 H3.out.c;have HCd:Hid (Calls Tryz.prog 48 #[.agg #[.slice ao P.rows.length ac,.slice qo P.qs.length qc,.slice po P.rows.length pc,.slice eo P.rows.length ec],.agg #[I size,.slice co nc cc]] ((w2.alloc (.cells #[.slice ao P.rows.length ac,.slice qo P.qs.length qc,.slice po P.rows.length pc,.slice eo P.rows.length ec] 65)).alloc (.cells #[I rz.1,I rz.2] 32)) fun e w'=>Below ((w2.alloc (.cells #[.slice ao P.rows.length ac,.slice qo P.qs.length qc,.slice po P.rows.length pc,.slice eo P.rows.length ec] 65)).alloc (.cells #[I rz.1,I rz.2] 32)).heap.size ((w2.alloc (.cells #[.slice ao P.rows.length ac,.slice qo P.qs.length qc,.slice po P.rows.length pc,.slice eo P.rows.length ec] 65)).alloc (.cells #[I rz.1,I rz.2] 32)) w'/\StlQ P.rows (vB P.rows size cs P.rows.length) ((w2.alloc (.cells #[.slice ao P.rows.length ac,.slice qo P.qs.length qc,.slice po P.rows.length pc,.slice eo P.rows.length ec] 65)).alloc (.cells #[I rz.1,I rz.2] 32)) e w'):=by
    have hd:=HDd.out HIs.out;have hr:=HRd.out HIs.out;exact settled_any HI3.out hr.m hr.t hr.n (HC.out.below H3.out.be) HSz.out.2.2 (fun i hi hk=>by rw [HZl.out h0];exact hd.c i hi hk) hd.n HSz.out.1 HSz.out.2.1 hd.z
   have HQ3:Hid (∀ e W,StlQ P.rows (vB P.rows size cs P.rows.length) w e W->ChkQ P size cs nc w e W):=fun e W=>HQ2.out e W h0;clear hbW h0 HQ1 HQ2;generalize vB P.rows size cs P.rows.length=V at *;go_wp2_with fail;generalize ((w2.alloc (.cells #[.slice ao P.rows.length ac,.slice qo P.qs.length qc,.slice po P.rows.length pc,.slice eo P.rows.length ec] 65)).alloc (.cells #[I rz.1,I rz.2] 32))=w3 at *;refine Calls.mono HCd.out ?_;rintro e w4 ⟨hb4,hq⟩;have H4:=hdn <| H3.out.below hb4;have HL3:Hid (w.heap.size+1+1+1 < w3.heap.size):=blk_lt H3.out.f;clear hb4 HCd t0 t1 t2 t3 q0 q1 d0 d1 HX HI3 H3;obtain ⟨e0,e1,e2⟩:=cells3 H4.out.t;obtain ⟨f0,f1⟩:=cells2 H4.out.f;have hr:∀ j,w4.frozen? ⟨w.heap.size+1+1,j,none⟩=false:=fun j=>by have:=H4.out.t;simp only [World.frozen?,this];rfl
   have hf:∀ j,w4.frozen? ⟨w.heap.size+1+1+1,j,none⟩=false:=fun j=>by have:=H4.out.f;simp only [World.frozen?,this];rfl
   rcases hq with ⟨hn1,rfl⟩ | ⟨hn0,vv,tv,rb,rfl,hrb,hrow,hov,hot⟩
   ·have HN:Hid ((setN P.rows V P.rows.length).1 ≠ 0):=hn1;have HQ4:=hdn <| fun W=>HQ3.out _ W (Or.inl ⟨HN.out,rfl⟩);clear hn1 HQ3;generalize (setN P.rows V P.rows.length).1=x1 at *;generalize (setN P.rows V P.rows.length).2=x2 at *;go_wp2_with fail;obtain ⟨a1,a2,a3⟩:=put3M (B:=w.heap.size+1+1) (v0:=pz) (v1:=pz) (v2:=pz) H4.out.be (by omega) H4.out.t
    obtain ⟨c1,c2,c3⟩:=put2M (B:=w.heap.size+1+1+1) (v0:=I (x1:Int)) (v1:=I (x2:Int)) a2 (by omega) ((a3 _ (by omega)).trans H4.out.f)
    obtain ⟨y0,y1⟩:=cells2 c1;obtain ⟨u0,u1,u2⟩:=cells3 ((c3 _ (by omega)).trans a1)
    refine bodyPost_ret (v:=.tuple #[.agg #[pz,pz,pz],.agg #[I (x1:Int),I (x2:Int)]]) (by simp [results,Tryz.results25,go_sem,y0,y1,u0,u1,u2]) rfl ?_
    exact ⟨c2,HQ4.out _⟩
   ·have HN:Hid ((setN P.rows V P.rows.length).1=0):=hn0;obtain ⟨vo1,vc1,rfl⟩:=own_form hov;obtain ⟨to1,tc1,rfl⟩:=own_form hot;have HP:Hid (w3.heap.size<=rb/\RowI w4 rb P.rows.length (setR P.rows V P.rows.length)/\w4.ownsRow w3.heap.size 59 3 (.slice vo1 (setV P.rows V P.rows.length).length vc1) (setV P.rows V P.rows.length).length (vC (setV P.rows V P.rows.length))/\w4.ownsRow w3.heap.size 3 1 (.slice to1 (setT P.rows V P.rows.length).length tc1) (setT P.rows V P.rows.length).length (tC (setT P.rows V P.rows.length))):=⟨hrb,hrow,hov,hot⟩;clear hn0 hrb hrow hov hot;go_wp2_with fail;obtain ⟨a1,a2,a3⟩:=put3M (B:=w.heap.size+1+1) (v0:=.slice vo1 (setV P.rows V P.rows.length).length vc1) (v1:=.slice to1 (setT P.rows V P.rows.length).length tc1) (v2:=.slice (pZ rb) P.rows.length P.rows.length) H4.out.be (by omega) H4.out.t
    obtain ⟨c1,c2,c3⟩:=put2M (B:=w.heap.size+1+1+1) (v0:=I 0) (v1:=I 0) a2 (by omega) ((a3 _ (by omega)).trans H4.out.f)
    obtain ⟨y0,y1⟩:=cells2 c1;obtain ⟨u0,u1,u2⟩:=cells3 ((c3 _ (by omega)).trans a1)
    refine bodyPost_ret (v:=.tuple #[.agg #[.slice vo1 (setV P.rows V P.rows.length).length vc1,.slice to1 (setT P.rows V P.rows.length).length tc1,.slice (pZ rb) P.rows.length P.rows.length],.agg #[I 0,I 0]]) (by simp [results,Tryz.results25,go_sem,y0,y1,u0,u1,u2]) rfl ?_
    have hz3:=HL3.out;have hkp:∀ k,w3.heap.size<=k->_:=fun k (hk:w3.heap.size<=k)=>(c3 k (by omega)).trans (a3 k (by omega))
    obtain ⟨p1,p2,p3,p4⟩:=HP.out;exact ⟨c2,HQ3.out _ _ (Or.inr ⟨HN.out,_,_,_,rfl,by omega,p2.of_block (hkp _ p1),own_keepY p3 hkp (by omega),own_keepY p4 hkp (by omega)⟩)⟩
  ·have h0':(rz.1 != 0)=true:=by simp [h0]
   have HE:=hdn <| fun W=>HQ1.out _ W h0 rfl;clear h0 HQ1 HQ2 HIr;have hbW:Below w2.heap.size w2 ((w2.alloc (.cells #[.slice ao P.rows.length ac,.slice qo P.qs.length qc,.slice po P.rows.length pc,.slice eo P.rows.length ec] 65)).alloc (.cells #[I rz.1,I rz.2] 32)):=(bAl w2 _).alloc (by simp) _
   have H3:=hdn <| H2.out.below hbW;have HX:Hid (((w2.alloc (.cells #[.slice ao P.rows.length ac,.slice qo P.qs.length qc,.slice po P.rows.length pc,.slice eo P.rows.length ec] 65)).alloc (.cells #[I rz.1,I rz.2] 32)).heap[w2.heap.size+1]?=some (.cells #[I rz.1,I rz.2] 32 (0,0))/\w.heap.size+1+1+1 < w2.heap.size):=⟨alloc_at _ _ _ (by simp),blk_lt H2.out.f⟩
   obtain ⟨q0,q1⟩:=cells2 HX.out.1;clear hbW;go_wp2_with fail;generalize ((w2.alloc (.cells #[.slice ao P.rows.length ac,.slice qo P.qs.length qc,.slice po P.rows.length pc,.slice eo P.rows.length ec] 65)).alloc (.cells #[I rz.1,I rz.2] 32))=w3 at *;obtain ⟨e0,e1,e2⟩:=cells3 H3.out.t;obtain ⟨f0,f1⟩:=cells2 H3.out.f;have hr:∀ j,w3.frozen? ⟨w.heap.size+1+1,j,none⟩=false:=fun j=>by have:=H3.out.t;simp only [World.frozen?,this];rfl
   have hf:∀ j,w3.frozen? ⟨w.heap.size+1+1+1,j,none⟩=false:=fun j=>by have:=H3.out.f;simp only [World.frozen?,this];rfl
   have hlt2:=HX.out.2;generalize w2.heap.size=m2 at *;have n1:¬ m2+1=w.heap.size+1+1:=by omega
   have n2:¬ m2+1=w.heap.size+1+1+1:=by omega
   go_region
   all_goals
    go_wp2_with fail
    obtain ⟨a1,a2,a3⟩:=put3M (B:=w.heap.size+1+1) (v0:=pz) (v1:=pz) (v2:=pz) H3.out.be (by omega) H3.out.t
    obtain ⟨c1,c2,c3⟩:=put2M (B:=w.heap.size+1+1+1) (v0:=I rz.1) (v1:=I rz.2) a2 (by omega) ((a3 _ (by omega)).trans H3.out.f)
    obtain ⟨y0,y1⟩:=cells2 c1;obtain ⟨u0,u1,u2⟩:=cells3 ((c3 _ (by omega)).trans a1)
    refine bodyPost_ret (v:=.tuple #[.agg #[pz,pz,pz],.agg #[I rz.1,I rz.2]]) (by simp [results,Tryz.results25,go_sem,y0,y1,u0,u1,u2]) rfl ?_
    exact ⟨c2.drew,HE.out _⟩
def anyC (f:Nat->Prt):Nat->Bool
 | 0=>false
 | k+1=>anyC f k || (f k).changing
theorem anyC_of {f:Nat->Prt} {k n:Nat} (h:anyC f k=true) (hk:k<=n):anyC f n=true:=by
 induction n with
 | zero=>
  obtain rfl:k=0:=by omega
  exact h
 | succ n ih=>
  by_cases e:k=n+1
  ·subst e;exact h
  ·simp only [anyC,ih (by omega),Bool.true_or]
theorem indexF_any {f:Nat->Prt} {so:Option Addr} {n sc:Nat} {w:World} (h:IsVals w so (fL n (fun i=>(f i).V))) (hn:n<=2932031007317):
  Calls Tryz.prog 111 #[.slice so n sc,.func (.func 71) #[] #[]] w fun e w'=>∃ z:Int,e=.returned (I z)/\decide (0<=z)=anyC f n/\Below w.heap.size w w':=by
 have HI:Hid (IsVals w so (fL n (fun i=>(f i).V))):=h;have hnl:(n:Int)<=2932031007317:=by omega
 clear h;go_enter Tryz.func111,Tryz.ntmps111;go_wp2_with fail
 go_loopg [8] n (fun gq x wr=>∃ m:Nat,m<=n/\gq=n - m/\x=I m/\anyC f m=false/\Below w.heap.size w wr)
 case atStart=>exact ⟨0,Nat.zero_le _,rfl,by go_num,rfl,Below.refl _ _⟩
 case round=>
  obtain ⟨m,hm,hgk,rfl,hno,hB⟩:=hrel;have HB:=hdn <| hB;have HNo:Hid (anyC f m=false):=hno;have HG:Hid (gk=n - m):=hgk;clear hgk hB hno;by_cases hlt:m < n
  ·have hlt':(m:Int) < (n:Int):=by omega
   obtain ⟨g,o,rfl,hg,c0⟩:=(IsVals.below HI.out HB.out) m _ (fL_at hlt);have HC:=hdn <| changing_any (f m) wr;have HA:Hid (anyC f (m+1)=(f m).changing):=by show (anyC f m || (f m).changing)=_;rw [HNo.out];rfl
   have HT:Hid ((f m).changing=true->anyC f n=true):=fun hc=>anyC_of (k:=m+1) (by rw [HA.out];exact hc) (by omega)
   generalize hx:f m=x at *;clear hx;go_wp2_with fail;refine Calls.mono HC.out ?_;rintro e w2 ⟨rfl,hb2⟩;have HB2:Hid (Below w.heap.size w w2):=HB.out.trans (hb2.mono HB.out.size);clear hb2 HC;cases hc:x.changing with
   | true=>
    have HT2:=hdn <| HT.out hc;clear hc HT;go_wp2_with fail;go_ret;exact ⟨(m:Int),rfl,by rw [HT2.out];simp,HB2.out⟩
   | false=>
    have HN2:Hid (anyC f (m+1)=false):=by show _=_;rw [HA.out];exact hc
    clear hc HT;go_wp2_with fail;go_roundg (n - (m+1))
    case measure=>have:=HG.out;omega
    case rel=>exact ⟨m+1,by omega,rfl,by go_num,HN2.out,HB2.out⟩
  ·have hlt':¬ (m:Int) < (n:Int):=by omega
   have hme:m=n:=by omega
   have HF:Hid (anyC f n=false):=by rw [hme] at HNo;exact HNo
   clear hme hlt;go_wp2_with fail;go_ret;exact ⟨-1,rfl,by rw [HF.out];rfl,HB.out⟩
theorem containsF_any {f:Nat->Prt} {so:Option Addr} {n sc:Nat} {w:World} (h:IsVals w so (fL n (fun i=>(f i).V))) (hn:n<=2932031007317):
  Calls Tryz.prog 70 #[.slice so n sc,.func (.func 71) #[] #[]] w fun e w'=>e=.returned (.bool (anyC f n))/\Below w.heap.size w w':=by
 have HC:=hdn <| indexF_any (sc:=sc) h hn;clear h hn;go_enter Tryz.func70,Tryz.ntmps70;go_wp2_with fail;refine Calls.mono HC.out ?_;rintro e w2 ⟨z,rfl,hz,hb2⟩;have HZ:=hdn <| hz;have HB:=hdn <| hb2;clear hz hb2 HC;go_wp2;go_ret;refine ⟨?_,HB.out⟩;rw [<-HZ.out];rfl
theorem vals_cut {w:World} {g o n i k:Nat} {f:Nat->Value} (h:IsVals w (some ⟨g,o,none⟩) (fL n f)) (hk:i+k<=n):IsVals w (some ⟨g,o+i,none⟩) (fL k (fun j=>f (i+j))):=fun j x hx=>by
 have hj:j < k:=by have:=(List.getElem?_eq_some_iff.1 hx).1;simpa [fL] using this
 rw [fL_at hj] at hx;cases hx;obtain ⟨g',o',e,hg,hc⟩:=h (i+j) _ (fL_at (by omega))
 cases e;exact ⟨g,o+i,rfl,hg,by rw [Nat.add_assoc];exact hc⟩
theorem has_any {l:List Rz} {qv:List Value} {nq:Nat} {ao qo po eo:Option Addr} {ac qc pc ec:Nat} (i:Nat) {w:World} (h:IsRg w l qv ao qo po eo) (hn:l.length<=2932031007317) (hT:TreeZ l) (hi:i < l.length) (hpc:l.length<=pc):
  Calls Tryz.prog 44 #[.agg (rgC l nq ao qo po eo ac qc pc ec),I i] w fun e w'=>e=.returned (.bool (anyC (fun j=>rP l (i+j)) (endp l i - i)))/\Below w.heap.size w w':=by
 have hb:Below w.heap.size w (w.alloc (.cells (rgC l nq ao qo po eo ac qc pc ec) 65)):=bAl w _;have HI:=hdn <| h.below hb;have HB:=hdn <| hb;have HX:=hdn <| heap_alloc_new w (.cells (rgC l nq ao qo po eo ac qc pc ec) 65);obtain ⟨gp,op,rfl,hgp,_⟩:=HI.out.part hi;obtain ⟨ge,oe,rfl,hge,ce⟩:=HI.out.ends hi;obtain ⟨b0,b1,b2,b3⟩:=cells4 HX.out;obtain ⟨-,he1,he2⟩:=end_kid hT.whole hi;have hi1:(i:Int) < (l.length:Int):=by omega
 have hin:(i:Int)<=(endp l i:Int):=by omega
 have hen:(endp l i:Int)<=(l.length:Int):=by omega
 have hec:(endp l i:Int)<=(pc:Int):=by omega
 have hln:(l.length:Int)<=2932031007317:=by omega
 have hnz:¬ pc=i:=by omega
 have hA:i<=endp l i:=by omega
 have hBc:endp l i<=pc:=by omega
 have hD1:decide (i<=endp l i)=true:=decide_eq_true hA;have hD2:decide (endp l i<=pc)=true:=decide_eq_true hBc;have hnz2:¬ pc - i=0:=by omega
 have HCv:Hid (∀ W:World,Below (w.alloc (.cells (rgC l nq ao qo (some ⟨gp,op,none⟩) (some ⟨ge,oe,none⟩) ac qc pc ec) 65)).heap.size (w.alloc (.cells (rgC l nq ao qo (some ⟨gp,op,none⟩) (some ⟨ge,oe,none⟩) ac qc pc ec) 65)) W->Calls Tryz.prog 70 #[.slice (some ⟨gp,op+i,none⟩) (endp l i - i) (pc - i),.func (.func 71) #[] #[]] W fun e w'=>e=.returned (.bool (anyC (fun j=>rP l (i+j)) (endp l i - i)))/\Below W.heap.size W w'):=fun W hW=>containsF_any (f:=fun j=>rP l (i+j)) (vals_cut (HI.out.below hW).p (by omega)) (by omega)
 dsimp only [rgC] at *;clear h hb hn hT;generalize anyC (fun j=>rP l (i+j)) (endp l i - i)=z at *;generalize endp l i=en at *;go_enter Tryz.func44,Tryz.ntmps44;go_wp2_with fail;generalize (w.alloc (.cells #[.slice ao l.length ac,.slice qo nq qc,.slice (some ⟨gp,op,none⟩) l.length pc,.slice (some ⟨ge,oe,none⟩) l.length ec] 65))=w1 at *;have hlt:=blk_lt HX.out;have y2:∀ y:Kin w1,y.u.cell? ⟨w.heap.size,2,none⟩=some (.slice (some ⟨gp,op,none⟩) l.length pc):=fun y=>y.cell (a:=⟨w.heap.size,2,none⟩) hlt b2;have y3:∀ y:Kin w1,y.u.cell? ⟨w.heap.size,3,none⟩=some (.slice (some ⟨ge,oe,none⟩) l.length ec):=fun y=>y.cell (a:=⟨w.heap.size,3,none⟩) hlt b3;have ye:∀ y:Kin w1,y.u.cell? ⟨ge,oe+i,none⟩=some (I (en:Nat)):=fun y=>y.cell (a:=⟨ge,oe+i,none⟩) hge ce;have HC3:Hid (∀ (y:Kin w1),Calls Tryz.prog 70 #[.slice (some ⟨gp,op+i,none⟩) (en - i) (pc - i),.func (.func 71) #[] #[]] y.u fun e w'=>e=.returned (.bool z)/\Below y.u.heap.size y.u w'):=fun y=>HCv.out y.u y.ok;clear HCv b0 b1 b2 b3 ce;refine wp_region_kin (by kernel_rfl) (by kernel_rfl) ?_
 iterate 9 quiet_step (with_reducible rfl)
 quiet_step (first | with_reducible rfl | exact kin_of (HC3.out _))
 quiet_step (with_reducible rfl)
 refine wpQuiet_nil ?_;rintro _ ⟨y,rfl⟩;have HYk:Hid (Below w.heap.size w y.u):=HB.out.trans (y.ok.mono HB.out.size);clear y2 y3 ye HC3;generalize y.u=w4 at *;go_wp2;go_ret;exact ⟨rfl,HYk.out⟩
end Go.Proofs.YtbledbjcghaanaaGreat.Nm.Ty
