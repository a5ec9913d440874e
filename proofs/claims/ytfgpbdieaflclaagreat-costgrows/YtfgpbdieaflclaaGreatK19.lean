import Derived.Test.YtfgpbdieaflclaaGreatK18
set_option maxHeartbeats 12800000
set_option maxRecDepth 100000
namespace Go.Proofs.YtfgpbdieaflclaaGreat.Nm
open Go.RowKit Go.Maps Sp Lx Gr
structure Rg (w:World) (b:Nat) (ao uo eo:Option Addr) (ac uc ec:Nat) (l:List Rz) (us:List Nat) (rd:List Int):Prop where
 box:w.heap[b]?=some (.cells #[.slice ao l.length ac,.slice uo us.length uc,.slice eo rd.length ec] 63 (0,0))
 r:IsRz w ao l
 u:IsNats w uo us
 d:IsVals w eo (iv rd)
theorem blk_in {u:World} {k:Nat} {x:Obj} (hk:u.heap[k]?=some x):k < u.heap.size:=(Array.getElem?_eq_some_iff.1 hk).1
theorem Rg.below {w w':World} {b:Nat} {ao uo eo:Option Addr} {ac uc ec:Nat} {l:List Rz} {us:List Nat} {rd:List Int} (h:Rg w b ao uo eo ac uc ec l us rd) (hb:Below w.heap.size w w'):Rg w' b ao uo eo ac uc ec l us rd:=⟨(hb.block _ (blk_in h.box)).trans h.box,h.r.below hb,h.u.below hb,h.d.below hb⟩
structure Pc (l:List Rz) (us:List Nat) (rd:List Int):Prop where
 tree:TreeZ l
 len:l.length<=65536
 rl:rd.length=l.length
 iff:∀ i,i < l.length->(rat l i).kind=12->2<=km l i
 loop:∀ i,i < l.length->(rat l i).kind=13->2<=km l i
 ev:∀ i,i < l.length->(rat l i).kind=8\/(rat l i).kind=9\/(rat l i).kind=10->1<=km l i
 um:us.length<=64
 ul:∀ u ∈ us,u < l.length
 ahead:∀ k (hk:k < us.length) j,us[k]<=j->j < endp l us[k]->(rat l j).kind=22->0<=(rat l j).n/\(rat l j).n < (k:Int)
 there:∀ j,j < l.length->(rat l j).kind=22->0<=(rat l j).n/\(rat l j).n < (us.length:Int)
theorem dN (w:World) (n:Nat):Below w.heap.size w (w.drewN n):=Go.Proofs.YtfgpbdieaflclaaGreat.Lx.below_drewN w n
theorem vals_new (w:World) (xs:List Value) (T:TypeId):IsVals (w.alloc (.cells xs.toArray T)) (some ⟨w.heap.size,0,none⟩) xs:=fun k x hx=>by
 refine ⟨w.heap.size,0,rfl,by simp,?_⟩
 simp only [World.cell?,heap_alloc_new w (.cells xs.toArray T),Nat.zero_add]
 simpa using hx
theorem vals_drop1 {w:World} {g o:Nat} {ks:List Nat} (h:IsVals w (some ⟨g,o,none⟩) (iv (zi ks))):IsVals w (some ⟨g,o+1,none⟩) (iv (zi (ks.drop 1))):=fun k x hx=>by
 have:(iv (zi ks))[k+1]?=some x:=by
  rw [<-hx]
  simp [iv,zi]
 obtain ⟨g',o',e,h1,h2⟩:=h (k+1) x this
 cases e
 exact ⟨_,_,rfl,h1,by rw [show o+1+k=o+(k+1) by omega];exact h2⟩
theorem read3 {wq:World} {B:Nat} {v0 v1 v2:Value} {T:TypeId} (h:wq.heap[B]?=some (.cells #[v0,v1,v2] T (0,0))):wq.cell? ⟨B,0,none⟩=some v0/\wq.cell? ⟨B,1,none⟩=some v1/\wq.cell? ⟨B,2,none⟩=some v2:=by
 refine ⟨?_,?_,?_⟩
 all_goals
  simp only [World.cell?,h]
  rfl
theorem row5 {wq:World} {B:Nat} {v0 v1 v2 v3 v4:Value} {T:TypeId} (h:wq.heap[B]?=some (.cells #[v0,v1,v2,v3,v4] T (0,0))):wq.cell? ⟨B,0,none⟩=some v0/\wq.cell? ⟨B,3,none⟩=some v3:=by
 refine ⟨?_,?_⟩
 all_goals
  simp only [World.cell?,h]
  rfl
theorem sum3 (W:World) (x y:Nat):Calls Tryz.prog 11 #[.slice (some ⟨W.heap.size,0,none⟩) 3 3] (W.alloc (.cells #[.int .i64 1,.int .i64 (x:Int),.int .i64 (y:Int)] 3)) fun e w'=>e=.returned (.int .i64 (sumL [1,(x:Int),(y:Int)]:Nat))/\w'=W.alloc (.cells #[.int .i64 1,.int .i64 (x:Int),.int .i64 (y:Int)] 3):=sum_any (l:=[1,(x:Int),(y:Int)]) (c:=3) (vals_new W _ _) (show 3<=17592186043904 by decide)
theorem sum2 (W:World) (x:Nat):Calls Tryz.prog 11 #[.slice (some ⟨W.heap.size,0,none⟩) 2 2] (W.alloc (.cells #[.int .i64 1,.int .i64 (x:Int)] 3)) fun e w'=>e=.returned (.int .i64 (sumL [1,(x:Int)]:Nat))/\w'=W.alloc (.cells #[.int .i64 1,.int .i64 (x:Int)] 3):=sum_any (l:=[1,(x:Int)]) (c:=2) (vals_new W _ _) (show 2<=17592186043904 by decide)
theorem times2 (W:World) (x:Int) (y:Nat):Calls Tryz.prog 12 #[.slice (some ⟨W.heap.size,0,none⟩) 2 2] (W.alloc (.cells #[.int .i64 x,.int .i64 (y:Int)] 3)) fun e w'=>e=.returned (.int .i64 (timL [x,(y:Int)]:Nat))/\w'=W.alloc (.cells #[.int .i64 x,.int .i64 (y:Int)] 3):=times_any (l:=[x,(y:Int)]) (c:=2) (vals_new W _ _) (show 2<=17592186043904 by decide)
theorem sumK {w:World} {ao:Option Addr} {ks:List Nat} {c:Nat} (h:IsVals w ao (iv (zi ks))) (hn:ks.length<=65536):Calls Tryz.prog 11 #[.slice ao ks.length c] w fun e w'=>e=.returned (.int .i64 (sumL (zi ks):Nat))/\w'=w:=by
 have:=sum_any (c:=c) h (by rw [zi_len];omega)
 rw [zi_len] at this
 exact this
theorem over_any {w:World} {b:Nat} {ao uo eo ko:Option Addr} {ac uc ec kc:Nat} {l:List Rz} {us rs ks:List Nat} {rd:List Int} {i:Nat} (hS:Pc l us rd) (h:Rg w b ao uo eo ac uc ec l us rd) (hi:i < l.length) (hk:IsVals w ko (iv (zi ks))) (hkm:ks.length=km l i) (hkc:ks.length<=kc) (hkc2:kc<=65536) (hle:∀ x ∈ ks,x<=4611686018427387904)
  (HC:(rat l i).kind=22->∃ n u:Nat,(rat l i).n=(n:Int)/\us[n]?=some u/\∀ W,Below w.heap.size w W->Calls Tryz.prog 39 #[.pointer (some ⟨b,0,none⟩),.int .i64 (u:Int)] W fun e W'=>e=.returned (.tuple #[.int .i64 (rs.getD n 0:Nat),.int .i64 (endp l u:Nat)])/\Below W.heap.size W W'):
  Calls Tryz.prog 58 #[.pointer (some ⟨b,0,none⟩),.int .i64 (i:Int),.slice ko ks.length kc] w fun e w'=>e=.returned (.int .i64 (overN l rd rs i ks:Nat))/\Below w.heap.size w w':=by
 obtain ⟨g,o,rfl,hg,c0,c1,c2,c3,c4⟩:=h.r i _ (some_rat hi)
 obtain ⟨b0,b1,b2⟩:=read3 h.box
 have hi1:(i:Int) < (l.length:Int):=by omega
 have hi2:(i:Int)<=65536:=by have:=hS.len;omega
 have hl2:(l.length:Int)<=65536:=by have:=hS.len;omega
 have hb1:∀ x,Below w.heap.size w (w.alloc x):=fun x=>bAl w x
 have HB1:=hdn <| hb1
 have HR:=hdn <| h
 have HK:=hdn <| hk
 have HM:Hid (ks.length=km l i/\ks.length<=kc/\kc<=65536):=⟨hkm,hkc,hkc2⟩
 have HLe:=hdn <| hle
 have HCc:=hdn <| HC
 have HIf:Hid ((rat l i).kind=12->2<=ks.length):=fun e=>by rw [hkm];exact hS.iff i hi e
 have HLp:Hid ((rat l i).kind=13->2<=ks.length):=fun e=>by rw [hkm];exact hS.loop i hi e
 have HD:=hdn <| hS.rl
 have HO:Hid (overN l rd rs i ks=if (rat l i).kind=12 then sumL [1,(ks.getD 0 0:Nat),(mxL (ks.drop 1):Nat)]
 else if (rat l i).kind=13 then sumL [1,(timL [rd.getD i 0,(sumL (zi (ks.drop 1)):Nat)]:Nat)]
 else if (rat l i).kind=22 then sumL [1,(rs.getD (rat l i).n.toNat 0:Nat)]
 else if (rat l i).kind=24 then 0
 else sumL [1,(sumL (zi ks):Nat)]):=rfl
 generalize overN l rd rs i ks=res at *
 have HI:=hdn <| hi
 clear h hk hkm hkc hkc2 hle HC hi hb1
 generalize rat l i=x at *
 obtain ⟨kd,nm,st,n,kk⟩:=x
 dsimp only at *
 have hkc4:(kc:Int)<=65536:=by have:=HM.out.2.2;omega
 have hkc5:(ks.length:Int)<=(kc:Int):=by have:=HM.out.2.1;omega
 have hkc6:(ks.length:Int)<=65536:=by omega
 have hnew:=heap_alloc_new w (.cells #[.int .i64 kd,.string nm,.int .i64 st,.int .i64 n,.int .i64 kk] 47)
 have HX:Hid (Below w.heap.size w (w.alloc (.cells #[.int .i64 kd,.string nm,.int .i64 st,.int .i64 n,.int .i64 kk] 47))):=HB1.out _
 obtain ⟨x0,x3⟩:=row5 hnew
 have HNw:=hdn <| hnew
 clear hnew HB1
 by_cases h12:kd=12
 ·subst h12
  have HO1:Hid (res=sumL [1,(ks.getD 0 0:Nat),(mxL (ks.drop 1):Nat)]):=HO.out
  have h2k:=HIf.out rfl
  clear HIf HLp HCc HO
  obtain ⟨kg,kof,rfl,hkg,d0⟩:=HK.out 0 _ (zi_at (by omega))
  rw [Nat.add_zero] at d0
  have hks1:(0:Int) < (ks.length:Int):=by omega
  have hks2:(1:Int)<=(ks.length:Int):=by omega
  have hks3:0 < ks.length:=by omega
  have hks4:1<=ks.length:=by omega
  have hkc9:¬ kc=1:=by have:=HM.out.2.1;omega
  have HK0:Hid (ks.getD 0 0=ks[0]/\ks[0]<=4611686018427387904):=⟨by simp [List.getD_eq_getElem?_getD,List.getElem?_eq_getElem (show 0 < ks.length by omega)],HLe.out _ (List.getElem_mem _)⟩
  rw [HK0.out.1] at HO1
  have HK0':=HK0.out.2
  clear HK0
  generalize ks[0]=k0 at *
  have HV:Hid (IsVals w (some ⟨kg,kof+1,none⟩) (iv (zi (ks.drop 1)))):=vals_drop1 HK.out
  have HMx:Hid (∀ W,Below w.heap.size w W->Calls Tryz.prog 79 #[.slice (some ⟨kg,kof+1,none⟩) (ks.length - 1) (kc - 1)] W fun e w'=>e=.returned (.int .i64 (mxL (ks.drop 1):Nat))/\w'=W):=fun W hW=>by
   have:=max_any (c:=kc - 1) (HV.out.below hW) (by rw [List.length_drop];have:=HM.out;omega) (by rw [List.length_drop];omega) (fun x hx=>HLe.out x (List.mem_of_mem_drop hx))
   rw [List.length_drop] at this
   exact this
  generalize mxL (ks.drop 1)=mx at *
  clear HV h2k
  go_enter Tryz.func58,Tryz.ntmps58
  go_wp2_with fail
  generalize w.alloc (.cells #[.int .i64 12,.string nm,.int .i64 st,.int .i64 n,.int .i64 kk] 47)=W0 at *
  have hd0:∀ j,(W0.drewN j).cell? ⟨kg,kof,none⟩=some (.int .i64 (k0:Int)):=fun j=>(HX.out.cell (p:=⟨kg,kof,none⟩) hkg).trans d0
  have HMj:Hid (∀ j,Calls Tryz.prog 79 #[.slice (some ⟨kg,kof+1,none⟩) (ks.length - 1) (kc - 1)] (W0.drewN j) fun e w'=>e=.returned (.int .i64 (mx:Nat))/\w'=W0.drewN j):=fun j=>HMx.out _ (HX.out.trans ((dN W0 j).mono HX.out.size))
  clear d0 x0 x3 c0 c1 c2 c3 c4 b0 b1 b2 HMx
  refine wp_region_quiet_tail (C:=fun w'=>∃ j,w'=W0.drewN j) 6 (by kernel_rfl) (by kernel_rfl) ⟨1,rfl⟩ ?_
  simp only [List.take_succ_cons,List.take_zero,List.drop_succ_cons,List.drop_zero]
  iterate 6 quiet_step ((go_at_call 79;exact Calls.quiet_of_same (HMj.out _)))
  refine wpQuiet_nil ?_
  rintro _ ⟨j,rfl⟩
  have HXj:Hid (Below w.heap.size w (W0.drewN j)):=HX.out.trans ((dN W0 j).mono HX.out.size)
  clear hd0 HMj
  generalize W0.drewN j=W1 at *
  have HS3:=hdn <| sum3 W1 k0 mx
  go_wp2_with fail
  refine Calls.mono HS3.out ?_
  rintro e w2 ⟨rfl,rfl⟩
  go_wp2
  go_ret
  exact ⟨by rw [HO1.out];rfl,HXj.out.alloc HXj.out.size _⟩
 ·by_cases h13:kd=13
  ·subst h13
   have HO1:Hid (res=sumL [1,(timL [rd.getD i 0,(sumL (zi (ks.drop 1)):Nat)]:Nat)]):=HO.out
   have h2k:=HLp.out rfl
   clear HIf HLp HCc HO h12
   obtain ⟨kg,kof,rfl,hkg,d0⟩:=HK.out 0 _ (zi_at (by omega))
   have hid:i < rd.length:=by have:=HD.out;have:=HI.out;omega
   obtain ⟨eg,eof,rfl,heg,e0⟩:=HR.out.d i _ (iv_at hid)
   have HK0:Hid (rd.getD i 0=rd[i]):=by show _=_;simp [List.getD_eq_getElem?_getD,List.getElem?_eq_getElem hid]
   rw [HK0.out] at HO1
   have hrd1:(i:Int) < (rd.length:Int):=by omega
   generalize rd[i]=ri at *
   have hks1:(0:Int) < (ks.length:Int):=by omega
   have hks2:(1:Int)<=(ks.length:Int):=by omega
   have hks3:0 < ks.length:=by omega
   have hks4:1<=ks.length:=by omega
   have hkc9:¬ kc=1:=by have:=HM.out.2.1;omega
   have HV:Hid (IsVals w (some ⟨kg,kof+1,none⟩) (iv (zi (ks.drop 1)))):=vals_drop1 HK.out
   have HSk:Hid (∀ W,Below w.heap.size w W->Calls Tryz.prog 11 #[.slice (some ⟨kg,kof+1,none⟩) (ks.length - 1) (kc - 1)] W fun e w'=>e=.returned (.int .i64 (sumL (zi (ks.drop 1)):Nat))/\w'=W):=fun W hW=>by
    have:=sumK (c:=kc - 1) (HV.out.below hW) (by rw [List.length_drop];have:=HM.out;omega)
    rw [List.length_drop] at this
    exact this
   generalize sumL (zi (ks.drop 1))=sk at *
   clear HV h2k HK0 d0 hid
   go_enter Tryz.func58,Tryz.ntmps58
   go_wp2_with fail
   generalize w.alloc (.cells #[.int .i64 13,.string nm,.int .i64 st,.int .i64 n,.int .i64 kk] 47)=W0 at *
   have hd0:∀ j,(W0.drewN j).cell? ⟨eg,eof+i,none⟩=some (.int .i64 ri):=fun j=>(HX.out.cell (p:=⟨eg,eof+i,none⟩) heg).trans e0
   have hd1:∀ j,(W0.drewN j).cell? ⟨b,2,none⟩=some (.slice (some ⟨eg,eof,none⟩) rd.length ec):=fun j=>(HX.out.cell (p:=⟨b,2,none⟩) (blk_in HR.out.box)).trans b2
   have HMj:Hid (∀ j,Calls Tryz.prog 11 #[.slice (some ⟨kg,kof+1,none⟩) (ks.length - 1) (kc - 1)] (W0.drewN j) fun e w'=>e=.returned (.int .i64 (sk:Nat))/\w'=W0.drewN j):=fun j=>HSk.out _ (HX.out.trans ((dN W0 j).mono HX.out.size))
   clear e0 x0 x3 c0 c1 c2 c3 c4 b0 b1 b2 HSk
   refine wp_region_quiet_tail (C:=fun w'=>∃ j,w'=W0.drewN j) 10 (by kernel_rfl) (by kernel_rfl) ⟨1,rfl⟩ ?_
   simp only [List.take_succ_cons,List.take_zero,List.drop_succ_cons,List.drop_zero]
   iterate 10 quiet_step ((go_at_call 11;exact Calls.quiet_of_same (HMj.out _)))
   refine wpQuiet_nil ?_
   rintro _ ⟨j,rfl⟩
   have HXj:Hid (Below w.heap.size w (W0.drewN j)):=HX.out.trans ((dN W0 j).mono HX.out.size)
   clear hd0 hd1 HMj
   generalize W0.drewN j=W1 at *
   have HT2:=hdn <| times2 W1 ri sk
   generalize timL [ri,(sk:Int)]=tk at *
   have HXk:Hid (Below w.heap.size w (W1.alloc (.cells #[.int .i64 ri,.int .i64 (sk:Int)] 3))):=HXj.out.alloc HXj.out.size _
   go_wp2_with fail
   refine Calls.mono HT2.out ?_
   rintro e w2 ⟨rfl,rfl⟩
   clear HT2
   generalize W1.alloc (.cells #[.int .i64 ri,.int .i64 (sk:Int)] 3)=W2 at *
   have HS3:=hdn <| sum2 W2 tk
   go_wp2_with fail
   refine Calls.mono HS3.out ?_
   rintro e w2 ⟨rfl,rfl⟩
   go_wp2
   go_ret
   exact ⟨by rw [HO1.out];rfl,HXk.out.alloc HXk.out.size _⟩
  ·by_cases h22:kd=22
   ·subst h22
    obtain ⟨m,u,hm,hu,HCu⟩:=HCc.out rfl
    have HO1:Hid (res=sumL [1,(rs.getD m 0:Nat)]):=by
     have:=HO.out
     rw [if_neg (by decide),if_neg (by decide),if_pos rfl] at this
     rw [hm] at this
     exact this
    clear HIf HLp HCc HO h12 h13
    subst hm
    obtain ⟨ug,uof,rfl,hug,u0⟩:=HR.out.u m u hu
    have hmu:m < us.length:=(List.getElem?_eq_some_iff.1 hu).1
    have hm1:(m:Int) < (us.length:Int):=by omega
    have hm2:(us.length:Int)<=64:=by have:=hS.um;omega
    have HCw:=hdn <| HCu
    generalize rs.getD m 0=rm at *
    generalize endp l u=eu at *
    clear HCu hu
    go_enter Tryz.func58,Tryz.ntmps58
    go_wp2_with fail
    generalize w.alloc (.cells #[.int .i64 22,.string nm,.int .i64 st,.int .i64 (m:Int),.int .i64 kk] 47)=W0 at *
    have hne:Nonempty (Kin W0):=Kin.there _
    have hd0:∀ y:Kin W0,y.u.cell? ⟨ug,uof+m,none⟩=some (.int .i64 (u:Int)):=fun y=>y.cell (a:=⟨ug,uof+m,none⟩) (Nat.lt_of_lt_of_le hug HX.out.size) ((HX.out.cell (p:=⟨ug,uof+m,none⟩) hug).trans u0)
    have hd1:∀ y:Kin W0,y.u.cell? ⟨b,1,none⟩=some (.slice (some ⟨ug,uof,none⟩) us.length uc):=fun y=>y.cell (a:=⟨b,1,none⟩) (Nat.lt_of_lt_of_le (blk_in HR.out.box) HX.out.size) ((HX.out.cell (p:=⟨b,1,none⟩) (blk_in HR.out.box)).trans b1)
    have hd2:∀ y:Kin W0,y.u.cell? ⟨w.heap.size,3,none⟩=some (.int .i64 (m:Int)):=fun y=>y.cell (a:=⟨w.heap.size,3,none⟩) (blk_in HNw.out) x3
    have HWy:Hid (∀ y:Kin W0,Calls Tryz.prog 39 #[.pointer (some ⟨b,0,none⟩),.int .i64 (u:Int)] y.u fun e w'=>e=.returned (.tuple #[.int .i64 (rm:Nat),.int .i64 (eu:Nat)])/\Below y.u.heap.size y.u w'):=fun y=>HCw.out y.u (HX.out.trans (y.ok.mono HX.out.size))
    clear u0 x0 x3 c0 c1 c2 c3 c4 b0 b1 b2 HCw
    refine wp_region_kin (by kernel_rfl) (by kernel_rfl) ?_
    iterate 10 quiet_step (exact kin_of (HWy.out _))
    iterate 5 quiet_step (fail)
    refine wpQuiet_nil ?_
    rintro _ ⟨y,rfl⟩
    have HXk:Hid (Below w.heap.size w y.u):=HX.out.trans (y.ok.mono HX.out.size)
    clear hd0 hd1 hd2 HWy
    generalize y.u=w2 at *
    have HS3:=hdn <| sum2 w2 rm
    clear hne
    go_wp2_with fail
    refine Calls.mono HS3.out ?_
    rintro e w3 ⟨rfl,rfl⟩
    go_wp2
    go_ret
    exact ⟨by rw [HO1.out];rfl,HXk.out.alloc HXk.out.size _⟩
   ·by_cases h24:kd=24
    ·subst h24
     have HO1:Hid (res=0):=HO.out
     clear HIf HLp HCc HO h12 h13 h22
     go_enter Tryz.func58,Tryz.ntmps58
     go_wp2
     go_ret
     exact ⟨by rw [HO1.out];rfl,HX.out⟩
    ·have HO1:Hid (res=sumL [1,(sumL (zi ks):Nat)]):=by
      have:=HO.out
      rw [if_neg h12,if_neg h13,if_neg h22,if_neg h24] at this
      exact this
     have q12:(kd == 12)=false:=by simp [h12]
     have q13:(kd == 13)=false:=by simp [h13]
     have q22:(kd == 22)=false:=by simp [h22]
     have q24:(kd == 24)=false:=by simp [h24]
     have HV:Hid (IsVals w ko (iv (zi ks))):=HK.out
     have HSk:Hid (∀ W,Below w.heap.size w W->Calls Tryz.prog 11 #[.slice ko ks.length kc] W fun e w'=>e=.returned (.int .i64 (sumL (zi ks):Nat))/\w'=W):=fun W hW=>sumK (HV.out.below hW) (by have:=HM.out;omega)
     generalize sumL (zi ks)=sk at *
     have HS1:=hdn <| HSk.out _ HX.out
     have HS3:=hdn <| sum2 (w.alloc (.cells #[.int .i64 kd,.string nm,.int .i64 st,.int .i64 n,.int .i64 kk] 47)) sk
     clear HIf HLp HCc HO h12 h13 h22 h24 HV HSk
     go_enter Tryz.func58,Tryz.ntmps58
     go_wp2_with fail
     generalize w.alloc (.cells #[.int .i64 kd,.string nm,.int .i64 st,.int .i64 n,.int .i64 kk] 47)=W0 at *
     refine Calls.mono HS1.out ?_
     rintro e w2 ⟨rfl,rfl⟩
     go_wp2_with fail
     refine Calls.mono HS3.out ?_
     rintro e w3 ⟨rfl,rfl⟩
     go_wp2
     go_ret
     exact ⟨by rw [HO1.out];rfl,HX.out.alloc HX.out.size _⟩
def RowN (w:World) (g:Nat) (l:List Nat):Prop:=w.heap[g]?=some (.cells (iv (zi l)).toArray 3 (0,0))
theorem RowN.lt {w:World} {g:Nat} {l:List Nat} (h:RowN w g l):g < w.heap.size:=blk_in h
theorem RowN.vals {w:World} {g:Nat} {l:List Nat} (h:RowN w g l):IsVals w (some ⟨g,0,none⟩) (iv (zi l)):=fun k x hx=>⟨g,0,rfl,h.lt,by
 unfold RowN at h
 simp only [World.cell?,h,Nat.zero_add]
 simpa using hx⟩
theorem RowN.below {w w':World} {g b:Nat} {l:List Nat} (h:RowN w g l) (hb:Below b w w') (hg:g < b):RowN w' g l:=(hb.block g hg).trans h
theorem RowN.frozen {w:World} {g:Nat} {l:List Nat} (h:RowN w g l) (j:Nat):w.frozen? ⟨g,j,none⟩=false:=by
 unfold RowN at h
 simp [World.frozen?,h]
theorem RowN.cell {w:World} {g k:Nat} {l:List Nat} (h:RowN w g l) (hk:k < l.length):w.cell? ⟨g,k,none⟩=some (.int .i64 (l[k]:Nat)):=by
 obtain ⟨g',o,e,_,h1⟩:=h.vals k _ (zi_at hk)
 cases e
 rw [Nat.zero_add] at h1
 exact h1
theorem RowN.set {w:World} {g:Nat} {l:List Nat} (h:RowN w g l) (k n:Nat):RowN (w.setCell ⟨g,k,none⟩ (.int .i64 (n:Int))) g (l.set k n):=by
 unfold RowN at h ⊢
 rw [heap_setCell_same w g k _ _ _ h]
 simp [iv,zi,List.map_set]
theorem zeros_eq (n:Nat):(iv (zi (List.replicate n 0))).toArray=Array.replicate n (Value.int .i64 0):=by simp [iv,zi]
theorem mk_nats (n:Nat) (hn:n<=65536):∀ u:World,(Instr.makeSlice 23 (.int .i64 (n:Int)) (.int .i64 (n:Int))).run Tryz.prog u=.ok (.slice (some ⟨u.heap.size,0,none⟩) n n) (u.alloc (.cells (Array.replicate n (.int .i64 0)) 3)):=fun u=>by
 obtain ⟨i0,hi,hz0,hz1,hz2⟩:=info_parts infoI
 have h:=run_make (P:=Tryz.prog) u 23 3 i0 (.int .i64 0) Tryz.underlying23 hi hz0 .i64 .i64 (n:Int) (n:Int) (by omega) (Int.le_refl _) (by rw [hz2];omega) (by omega)
 rw [hz1] at h
 have e:madeCells (Value.int .i64 0).cells (n * 1)=Array.replicate n (.int .i64 0):=by
  rw [Nat.mul_one]
  apply Array.ext
  ·simp [madeCells]
  ·intro k h1 h2
   simp [madeCells,Value.cells,Nat.mod_one]
 rw [h]
 simp only [Int.toNat_natCast,e]
def fillK (l:List Rz) (rd:List Int) (rs:List Nat) (i k:Nat):List Nat:=bks l rd rs i k++List.replicate (km l i - k) 0
theorem fillK_zero (l:List Rz) (rd:List Int) (rs:List Nat) (i:Nat):fillK l rd rs i 0=List.replicate (km l i) 0:=by simp [fillK,bks]
theorem fillK_end (l:List Rz) (rd:List Int) (rs:List Nat) (i:Nat):fillK l rd rs i (km l i)=bks l rd rs i (km l i):=by simp [fillK]
theorem fillK_len {l:List Rz} {rd:List Int} {rs:List Nat} {i k:Nat} (h:k<=km l i):(fillK l rd rs i k).length=km l i:=by
 simp [fillK,bks_len]
 omega
theorem fillK_set {l:List Rz} {rd:List Int} {rs:List Nat} {i k:Nat} (h:k < km l i):(fillK l rd rs i k).set k (bnd l rd rs (kidp l i k))=fillK l rd rs i (k+1):=by
 unfold fillK
 rw [List.set_append,if_neg (by rw [bks_len];exact Nat.lt_irrefl _),bks_len,bks_succ,List.append_assoc]
 congr 1
 obtain ⟨d,hd⟩:∃ d,km l i - k=d+1:=⟨km l i - k - 1,by omega⟩
 rw [hd,show km l i - (k+1)=d by omega,List.replicate_succ]
 simp
theorem bound_step {w:World} {b:Nat} {ao uo eo:Option Addr} {ac uc ec:Nat} {l:List Rz} {us:List Nat} {rd:List Int} {i:Nat} {rs:List Nat} (hS:Pc l us rd) (h:Rg w b ao uo eo ac uc ec l us rd) (hi:i < l.length)
  (HK:∀ k,k < km l i->∀ W,Rg W b ao uo eo ac uc ec l us rd->Calls Tryz.prog 39 #[.pointer (some ⟨b,0,none⟩),.int .i64 (kidp l i k:Nat)] W fun e W'=>e=.returned (.tuple #[.int .i64 (bnd l rd rs (kidp l i k):Nat),.int .i64 (endp l (kidp l i k):Nat)])/\Below W.heap.size W W')
  (HC:(rat l i).kind=22->∃ n u:Nat,(rat l i).n=(n:Int)/\us[n]?=some u/\∀ W,Rg W b ao uo eo ac uc ec l us rd->Calls Tryz.prog 39 #[.pointer (some ⟨b,0,none⟩),.int .i64 (u:Int)] W fun e W'=>e=.returned (.tuple #[.int .i64 (rs.getD n 0:Nat),.int .i64 (endp l u:Nat)])/\Below W.heap.size W W'):
  Calls Tryz.prog 39 #[.pointer (some ⟨b,0,none⟩),.int .i64 (i:Int)] w fun e w'=>e=.returned (.tuple #[.int .i64 (bnd l rd rs i:Nat),.int .i64 (endp l i:Nat)])/\Below w.heap.size w w':=by
 obtain ⟨g,o,rfl,hg,_,c4⟩:=kids_at h.r hS.tree hi
 obtain ⟨b0,_,_⟩:=read3 h.box
 have hi1:(i:Int) < (l.length:Int):=by omega
 have hi2:(i:Int)<=65536:=by have:=hS.len;omega
 have hl2:(l.length:Int)<=65536:=by have:=hS.len;omega
 have hkm:km l i<=65536:=Nat.le_trans (km_le hS.tree.whole hi) hS.len
 have hmk:=mk_nats (km l i) hkm
 have HR:=hdn <| h
 have HKd:=hdn <| HK
 have HCc:=hdn <| HC
 have HI:Hid (i < l.length):=hi
 have HN:Hid (RowN (w.alloc (.cells (Array.replicate (km l i) (.int .i64 0)) 3)) w.heap.size (fillK l rd rs i 0)/\Below w.heap.size w (w.alloc (.cells (Array.replicate (km l i) (.int .i64 0)) 3))):=⟨by unfold RowN;rw [fillK_zero,zeros_eq];exact heap_alloc_new w _,bAl w _⟩
 have hk2:(km l i:Int)<=65536:=by omega
 have HZ:Hid (kidp l i 0=i+1):=kid_zero l i
 have HE:Hid (bnd l rd rs i=overN l rd rs i (bks l rd rs i (km l i))/\endp l i=kidp l i (km l i)):=⟨bnd_eq rd rs hS.tree.whole hi,(end_kid hS.tree.whole hi).1⟩
 have HP:Hid (∀ k,k<=km l i->kidp l i k<=65536):=fun k hk=>Nat.le_trans (kid_le hS.tree.whole hi hk) hS.len
 have HSt:Hid (∀ k,k < km l i->kidp l i (k+1)=endp l (kidp l i k)):=fun k hk=>(kidIn hS.tree.whole hi hk).2.2.2
 clear h HK HC hi hkm
 go_enter Tryz.func39,Tryz.ntmps39
 go_wp2_with fail
 generalize w.alloc (.cells (Array.replicate (km l i) (.int .i64 0)) 3)=w1 at *
 clear hmk b0 c4
 go_loopg [5,21] (km l i) (fun gq x y wr=>∃ k:Nat,k+gq=km l i/\x=.int .i64 (kidp l i k:Nat)/\y=.int .i64 (k:Int)/\RowN wr w.heap.size (fillK l rd rs i k)/\Below w.heap.size w wr)
 case atStart=>exact ⟨0,by omega,by rw [HZ.out];rfl,rfl,HN.out.1,HN.out.2⟩
 case round=>
  obtain ⟨k,hkg,rfl,rfl,hrw,hbw⟩:=hrel
  have HG:Hid (k+gk=km l i/\RowN wr w.heap.size (fillK l rd rs i k)/\Below w.heap.size w wr):=⟨hkg,hrw,hbw⟩
  by_cases hlt:k < km l i
  ·have hk':(k:Int) < (km l i:Int):=by omega
   have hk3:(k:Int)<=65536:=by omega
   have HCk:=hdn <| HKd.out k hlt wr (Rg.below HR.out hbw)
   have HSe:Hid ((fillK l rd rs i k).set k (bnd l rd rs (kidp l i k))=fillK l rd rs i (k+1)):=fillK_set hlt
   have HSk:Hid (kidp l i (k+1)=endp l (kidp l i k)):=HSt.out k hlt
   have HLt:Hid (k < km l i):=hlt
   generalize bnd l rd rs (kidp l i k)=bk at *
   generalize endp l (kidp l i k)=ek at *
   generalize kidp l i k=kp at *
   clear hkg hrw hbw hlt
   go_wp2_with fail
   refine Calls.mono HCk.out ?_
   rintro e w2 ⟨rfl,hb2⟩
   have hr2:=HG.out.2.1.below hb2 HG.out.2.1.lt
   have hfz:=hr2.frozen k
   have hce:=hr2.cell (k:=k) (by rw [fillK_len (Nat.le_of_lt HLt.out)];exact HLt.out)
   have HS2:Hid (RowN (w2.setCell ⟨w.heap.size,k,none⟩ (.int .i64 (bk:Int))) w.heap.size (fillK l rd rs i (k+1))/\Below w.heap.size w (w2.setCell ⟨w.heap.size,k,none⟩ (.int .i64 (bk:Int)))):=⟨by rw [<-HSe.out];exact hr2.set k bk,(HG.out.2.2.trans (hb2.mono HG.out.2.2.size)).setCell (p:=⟨w.heap.size,k,none⟩) (Nat.le_refl _) _⟩
   generalize (fillK l rd rs i k)[k]'(by rw [fillK_len (Nat.le_of_lt HLt.out)];exact HLt.out)=old at hce
   clear hb2 hr2 HCk
   go_wp2_with fail
   go_roundg (km l i - (k+1))
   case measure=>have:=HG.out.1;have:=HLt.out;omega
   case rel=>exact ⟨k+1,by have:=HLt.out;omega,by rw [HSk.out],by go_num,HS2.out.1,HS2.out.2⟩
  ·have hk':decide (k < km l i)=false:=decide_eq_false hlt
   have hk3:decide ((k:Int) < (km l i:Int))=false:=decide_eq_false (by omega)
   have hke:k=km l i:=by omega
   subst hke
   have hrw':=hrw
   rw [fillK_end] at hrw'
   have HO:=hdn <| over_any (rs:=rs) (ks:=bks l rd rs i (km l i)) (kc:=km l i) hS (Rg.below HR.out hbw) HI.out hrw'.vals (bks_len _ _ _ _ _) (by rw [bks_len];exact Nat.le_refl _) (by omega) (bks_le _ _ _ _ _) (fun e=>by
    obtain ⟨n,u,h1,h2,h3⟩:=HCc.out e
    exact ⟨n,u,h1,h2,fun W hW=>h3 W (Rg.below (Rg.below HR.out hbw) hW)⟩)
   rw [bks_len,<-HE.out.1] at HO
   have HEn:Hid (kidp l i (km l i)=endp l i):=HE.out.2.symm
   clear hkg hrw hbw hlt hrw'
   go_wp2_with fail
   refine Calls.mono HO.out ?_
   rintro e w2 ⟨rfl,hb2⟩
   have HB2:Hid (Below w.heap.size w w2):=HG.out.2.2.trans (hb2.mono HG.out.2.2.size)
   clear hb2 HO
   go_wp2
   go_ret2
   exact ⟨by rw [HEn.out];rfl,HB2.out⟩
end Go.Proofs.YtfgpbdieaflclaaGreat.Nm
namespace Go.Proofs.YtfgpbdieaflclaaGreat.Nm
open Gr
structure Co where
 on:List Nat
 miss:Nat
def evSt (l:List Rz) (rd:List Int) (rs:List Nat) (a:Nat) (c:Co):Except Nat Co:=
 if (rat l a).kind=8\/(rat l a).kind=9\/(rat l a).kind=10 then
  if 72057594037927936 < bnd l rd rs (a+1) then .error a
  else if (rat l a).kind=10 then .ok ⟨c.on,bnd l rd rs (a+1)⟩
  else .ok ⟨c.on.set (rat l a).n.toNat (bnd l rd rs (a+1)),c.miss⟩
 else .ok c
def evNx (l:List Rz) (rd:List Int) (rs:List Nat) (a:Nat):Except Nat Co->Except Nat Co
 | .error e=>.error e
 | .ok c=>evSt l rd rs a c
def evN (l:List Rz) (rd:List Int) (rs:List Nat) (q:Nat):Nat->Except Nat Co
 | 0=>.ok ⟨List.replicate q 0,0⟩
 | k+1=>evNx l rd rs k (evN l rd rs q k)
theorem evSt_len {l:List Rz} {rd:List Int} {rs:List Nat} {a:Nat} {c c':Co} (h:evSt l rd rs a c=.ok c'):c'.on.length=c.on.length:=by
 unfold evSt at h
 split at h
 ·split at h
  ·cases h
  ·split at h
   ·cases h;rfl
   ·cases h;simp
 ·cases h;rfl
theorem evN_len {l:List Rz} {rd:List Int} {rs:List Nat} {q k:Nat} {c:Co} (h:evN l rd rs q k=.ok c):c.on.length=q:=by
 induction k generalizing c with
 | zero=>cases h;simp
 | succ k ih=>
  simp only [evN] at h
  cases hk:evN l rd rs q k with
  | error e=>rw [hk] at h;cases h
  | ok c0=>
   rw [hk] at h
   rw [evSt_len h,ih hk]
theorem evN_err {l:List Rz} {rd:List Int} {rs:List Nat} {q k e:Nat} (h:evN l rd rs q k=.error e) (j:Nat):evN l rd rs q (k+j)=.error e:=by
 induction j with
 | zero=>exact h
 | succ j ih=>
  show evNx l rd rs (k+j) (evN l rd rs q (k+j))=_
  rw [ih]
  rfl
end Go.Proofs.YtfgpbdieaflclaaGreat.Nm
namespace Go.Proofs.YtfgpbdieaflclaaGreat.Nm
open Go.RowKit Go.Maps Sp Lx Gr
theorem bound_rec {b:Nat} {ao uo eo:Option Addr} {ac uc ec:Nat} {l:List Rz} {us:List Nat} {rd:List Int} (hS:Pc l us rd) (m:Nat):∀ (f i:Nat),i < l.length->endp l i - i<=f->(∀ j,i<=j->j < endp l i->(rat l j).kind=22->(rat l j).n < (m:Int))->∀ w,Rg w b ao uo eo ac uc ec l us rd ->
  Calls Tryz.prog 39 #[.pointer (some ⟨b,0,none⟩),.int .i64 (i:Int)] w fun e w'=>e=.returned (.tuple #[.int .i64 (bnd l rd (rsAll l rd us) i:Nat),.int .i64 (endp l i:Nat)])/\Below w.heap.size w w':=by
 induction m using Nat.strongRecOn with
 | _ m IHm=>
  intro f
  induction f with
  | zero=>intro i hi hf;have:=(end_kid hS.tree.whole hi).2.1;omega
  | succ f ih=>
   intro i hi hf hc w h
   refine bound_step hS h hi (fun k hk W hW=>?_) (fun e=>?_)
   ·obtain ⟨h1,h2,h3,_⟩:=kidIn hS.tree.whole hi hk
    have:=(end_kid hS.tree.whole h2).2.1
    exact ih _ h2 (by omega) (fun j hj1 hj2 hj3=>hc j (by omega) (by omega) hj3) W hW
   ·obtain ⟨h1,h2⟩:=hS.there i hi e
    obtain ⟨n,hn⟩:=Int.eq_ofNat_of_zero_le h1
    have hnu:n < us.length:=by omega
    have hnm:n < m:=by have:=hc i (Nat.le_refl _) (end_kid hS.tree.whole hi).2.1 e;omega
    refine ⟨n,us[n],hn,List.getElem?_eq_getElem hnu,fun W hW=>?_⟩
    rw [rs_rule rd hS.tree.whole hS.ul hS.ahead hnu]
    exact IHm n hnm _ us[n] (hS.ul _ (List.getElem_mem hnu)) (Nat.le_refl _) (fun j hj1 hj2 hj3=>(hS.ahead n hnu j hj1 hj2 hj3).2) W hW
theorem bound_any {b:Nat} {ao uo eo:Option Addr} {ac uc ec:Nat} {l:List Rz} {us:List Nat} {rd:List Int} (hS:Pc l us rd) {i:Nat} (hi:i < l.length) {w:World} (h:Rg w b ao uo eo ac uc ec l us rd):
  Calls Tryz.prog 39 #[.pointer (some ⟨b,0,none⟩),.int .i64 (i:Int)] w fun e w'=>e=.returned (.tuple #[.int .i64 (bnd l rd (rsAll l rd us) i:Nat),.int .i64 (endp l i:Nat)])/\Below w.heap.size w w':=
 bound_rec hS us.length _ i hi (Nat.le_refl _) (fun j _ hj2 hj3=>(hS.there j (Nat.lt_of_lt_of_le hj2 (end_kid hS.tree.whole hi).2.2) hj3).2) w h
end Go.Proofs.YtfgpbdieaflclaaGreat.Nm
