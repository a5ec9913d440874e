import Derived.Test.YthbnjhamfcefkaaGreatK26
import Derived.Test.YthbnjhamfcefkaaGreatK17
set_option maxHeartbeats 25600000
set_option maxRecDepth 100000
namespace Go.Proofs.YthbnjhamfcefkaaGreat.Nm
open Go.RowKit Go.Maps Sp Lx Gr
structure RbW (W wr:World) (pc:Array Value) (of:List Nat):Prop where
 p:wr.heap[W.heap.size]?=some (.cells pc 29 (0,0))
 o:RowN wr (W.heap.size+1) of
 be:Below W.heap.size W wr
theorem RbW.below {W wr w':World} {pc:Array Value} {of:List Nat} (h:RbW W wr pc of) (hb:Below wr.heap.size wr w'):RbW W w' pc of:=⟨(hb.block _ (blk_in h.p)).trans h.p,h.o.below hb h.o.lt,h.be.trans (hb.mono h.be.size)⟩
theorem RbW.set {W wr:World} {pc:Array Value} {of:List Nat} (h:RbW W wr pc of) (k n:Nat):RbW W (wr.setCell ⟨W.heap.size+1,k,none⟩ (.int .i64 (n:Int))) pc (of.set k n):=⟨(Below.heap_setCell wr _ _ W.heap.size (by show W.heap.size ≠ W.heap.size+1;omega)).trans h.p,h.o.set k n,h.be.setCell (p:=⟨W.heap.size+1,k,none⟩) (Nat.le_succ _) _⟩
structure Rb (W:World) (ao eo uo:Option Addr) (eb:Nat) (l:List Rz) (rd:List Int) (rs:List Nat):Prop where
 r:IsRz W ao l
 d:IsVals W eo (iv rd)
 e:∀ i,i < l.length->W.cell? ⟨eb,i,none⟩=some (.int .i64 (endp l i:Nat))
 u:IsVals W uo (iv (zi rs))
theorem Rb.below {W w':World} {ao eo uo:Option Addr} {eb:Nat} {l:List Rz} {rd:List Int} {rs:List Nat} (h:Rb W ao eo uo eb l rd rs) (hb:Below W.heap.size W w'):Rb w' ao eo uo eb l rd rs:=⟨h.r.below hb,h.d.below hb,fun i hi=>(hb.cell (p:=⟨eb,i,none⟩) (World.block_lt_of_cell? W ⟨eb,i,none⟩ (h.e i hi))).trans (h.e i hi),h.u.below hb⟩
structure Pr (l:List Rz) (rd:List Int) (rs:List Nat):Prop where
 tree:TreeZ l
 len:l.length<=65536
 rl:rd.length=l.length
 rr:∀ x ∈ rd,0<=x/\x<=4194304
 k12:∀ i,i < l.length->(rat l i).kind=12->2<=km l i/\km l i<=3
 k13:∀ i,i < l.length->(rat l i).kind=13->km l i=3
 rm:rs.length<=64
 rb:∀ x ∈ rs,x<=4611686018427387904
theorem rcbound {W:World} {c0 c2 c3 c4 c5 c6 c7:Value} {ao eo uo:Option Addr} {eb cap ec uc row:Nat} {l:List Rz} {rd:List Int} {rs:List Nat} (hP:Pr l rd rs) (h:Rb W ao eo uo eb l rd rs) (hrow:row < l.length) (hcall:∀ j,row<=j->j < endp l row->(rat l j).kind=22->0<=(rat l j).n/\(rat l j).n < (rs.length:Int)):
  Calls Tryz.prog 30 #[.agg #[c0,.slice ao l.length cap,c2,c3,c4,c5,c6,c7],.slice eo rd.length ec,.slice (some ⟨eb,0,none⟩) l.length l.length,.slice uo rs.length uc,.int .i64 (row:Int)] W fun e w'=>e=.returned (.int .i64 (bnd l rd rs row:Nat))/\Below W.heap.size W w':=by
 obtain ⟨hE0,hE1,hE2⟩:=end_kid hP.tree.whole hrow
 obtain ⟨m,hm⟩:∃ m,endp l row=row+m:=⟨endp l row - row,by omega⟩
 have hm0:0 < m:=by omega
 have hlen:=hP.len
 have HPr:=hdn <| hP
 have HRb:=hdn <| h
 have HCall:=hdn <| hcall
 have HM:Hid (endp l row=row+m/\0 < m/\row+m<=l.length/\l.length<=65536):=⟨hm,hm0,by omega,hlen⟩
 have hmk:=mk_nats m (by omega)
 have hb1:Below W.heap.size W (W.alloc (.cells #[c0,.slice ao l.length cap,c2,c3,c4,c5,c6,c7] 29)):=bAl W _
 have e0:=h.e row hrow
 rw [hm] at e0
 have e1:(W.alloc (.cells #[c0,.slice ao l.length cap,c2,c3,c4,c5,c6,c7] 29)).cell? ⟨eb,row,none⟩=some (.int .i64 ((row+m:Nat):Int)):=(hb1.cell (p:=⟨eb,row,none⟩) (World.block_lt_of_cell? W ⟨eb,row,none⟩ e0)).trans e0
 have hb2:Below W.heap.size W ((W.alloc (.cells #[c0,.slice ao l.length cap,c2,c3,c4,c5,c6,c7] 29)).alloc (.cells (Array.replicate m (.int .i64 0)) 3)):=hb1.alloc (by simp) _
 have e2:((W.alloc (.cells #[c0,.slice ao l.length cap,c2,c3,c4,c5,c6,c7] 29)).alloc (.cells (Array.replicate m (.int .i64 0)) 3)).cell? ⟨eb,row,none⟩=some (.int .i64 ((row+m:Nat):Int)):=(hb2.cell (p:=⟨eb,row,none⟩) (World.block_lt_of_cell? W ⟨eb,row,none⟩ e0)).trans e0
 have HS0:Hid (RbW W ((W.alloc (.cells #[c0,.slice ao l.length cap,c2,c3,c4,c5,c6,c7] 29)).alloc (.cells (Array.replicate m (.int .i64 0)) 3)) #[c0,.slice ao l.length cap,c2,c3,c4,c5,c6,c7] (ofL l rd rs row m 0)):=⟨by rw [alloc_old _ _ _ (by simp)];exact alloc_at _ _ _ rfl,by unfold RowN;rw [ofL_zero,zeros_eq];exact alloc_at _ _ _ (by simp),hb2⟩
 have hrw1:(row:Int) < (l.length:Int):=by omega
 have hrw2:(row:Int)<=65536:=by omega
 have hll:(l.length:Int)<=65536:=by omega
 have hEi:((row+m:Nat):Int)<=65536:=by omega
 have hsub:IntKind.i64.wrap (((row+m:Nat):Int) - (row:Int))=(m:Int):=by rw [IntKind.wrap_i64];omega
 have hsub2:IntKind.i64.wrap (((row+m:Nat):Int) - 1)=((row+m:Nat):Int) - 1:=by rw [IntKind.wrap_i64];omega
 generalize hEE:row+m=E at *
 have HEE:Hid (row+m=E):=hEE
 clear hb1 hb2 e0 hE0 hE1 hE2 hm hm0 hlen h hP hcall hrow hEE
 go_enter Tryz.func30,Tryz.ntmps30
 go_wp2_with fail
 generalize ((W.alloc (.cells #[c0,.slice ao l.length cap,c2,c3,c4,c5,c6,c7] 29)).alloc (.cells (Array.replicate m (.int .i64 0)) 3))=w1 at *
 generalize W.alloc (.cells #[c0,.slice ao l.length cap,c2,c3,c4,c5,c6,c7] 29)=w0 at *
 clear e1 e2 hmk hsub hsub2
 go_loopg [12] m (fun gq y wr=>∃ t:Nat,t+gq=m/\y=.int .i64 ((E:Int) - 1 - (t:Int))/\RbW W wr #[c0,.slice ao l.length cap,c2,c3,c4,c5,c6,c7] (ofL l rd rs row m t))
 case atStart=>exact ⟨0,by omega,by simp,HS0.out⟩
 case round=>
  obtain ⟨t,htg,rfl,hw⟩:=hrel
  have HG:Hid (t+gk=m/\RbW W wr #[c0,.slice ao l.length cap,c2,c3,c4,c5,c6,c7] (ofL l rd rs row m t)):=⟨htg,hw⟩
  by_cases hlt:t < m
  ·obtain ⟨a,ha⟩:∃ a:Nat,(E:Int) - 1 - (t:Int)=(a:Int):=⟨E - 1 - t,by have:=HEE.out;omega⟩
   rw [ha]
   have HA:Hid (a+t+1=E/\row<=a/\a < l.length/\a - row=m - (t+1)/\a=row+(m - (t+1))):=by have:=HEE.out;have:=HM.out;exact ⟨by omega,by omega,by omega,by omega,by omega⟩
   have hra:(row:Int)<=(a:Int):=by have:=HA.out;omega
   have hal:(a:Int) < (l.length:Int):=by have:=HA.out;omega
   have ha2:(a:Int)<=65536:=by omega
   have HLt:Hid (t < m):=hlt
   have hRb:=Rb.below HRb.out hw.be
   obtain ⟨p0,p1,p2,p3,p4,p5,p6,p7⟩:=pol8 hw.p
   obtain ⟨g,o,rfl,hg,c0',c1',c2',c3',c4'⟩:=hRb.r a _ (some_rat HA.out.2.2.1)
   have hbx:Below wr.heap.size wr (wr.alloc (.cells #[.int .i64 (rat l a).kind,.string (rat l a).name,.int .i64 (rat l a).stop,.int .i64 (rat l a).n,.int .i64 (rat l a).kids] 51)):=bAl wr _
   have hnew:=heap_alloc_new wr (.cells #[.int .i64 (rat l a).kind,.string (rat l a).name,.int .i64 (rat l a).stop,.int .i64 (rat l a).n,.int .i64 (rat l a).kids] 51)
   have HX:Hid (RbW W (wr.alloc (.cells #[.int .i64 (rat l a).kind,.string (rat l a).name,.int .i64 (rat l a).stop,.int .i64 (rat l a).n,.int .i64 (rat l a).kids] 51)) #[c0,.slice (some ⟨g,o,none⟩) l.length cap,c2,c3,c4,c5,c6,c7] (ofL l rd rs row m t)/\Rb (wr.alloc (.cells #[.int .i64 (rat l a).kind,.string (rat l a).name,.int .i64 (rat l a).stop,.int .i64 (rat l a).n,.int .i64 (rat l a).kids] 51)) (some ⟨g,o,none⟩) eo uo eb l rd rs/\(wr.alloc (.cells #[.int .i64 (rat l a).kind,.string (rat l a).name,.int .i64 (rat l a).stop,.int .i64 (rat l a).n,.int .i64 (rat l a).kids] 51)).heap[wr.heap.size]?=some (.cells #[.int .i64 (rat l a).kind,.string (rat l a).name,.int .i64 (rat l a).stop,.int .i64 (rat l a).n,.int .i64 (rat l a).kids] 51 (0,0))):=⟨hw.below hbx,hRb.below hbx,hnew⟩
   have hadd:IntKind.i64.wrap ((a:Int)+1)=((a+1:Nat):Int):=by rw [IntKind.wrap_i64];omega
   have HK0:Hid (kidp l a 0=a+1):=kid_zero l a
   have HOv:Hid (bnd l rd rs a=overN l rd rs a (bks l rd rs a (km l a))/\endp l a=kidp l a (km l a)/\km l a<=65536/\endp l a<=l.length/\endp l a<=E):=by
    obtain ⟨q1,q2,q3⟩:=end_kid HPr.out.tree.whole HA.out.2.2.1
    exact ⟨bnd_eq rd rs HPr.out.tree.whole HA.out.2.2.1,q1,Nat.le_trans (km_le HPr.out.tree.whole HA.out.2.2.1) HPr.out.len,q3,(by
     have:=sub_end HPr.out.tree.whole _ (show row < l.length by have:=HA.out;omega) (Nat.le_refl _) HA.out.2.1 (by have:=HM.out.1;have:=HEE.out;have:=HA.out;omega)
     have:=HM.out.1;have:=HEE.out;omega)⟩
   obtain ⟨i0,hi,hz0,hz1,hz2⟩:=info_parts infoI
   generalize hxx:rat l a=x at *
   have HXX:Hid (rat l a=x):=hxx
   clear htg hw hlt hRb hbx hnew hxx ha
   obtain ⟨kd,nm,st,n,kk⟩:=x
   dsimp only at *
   go_wp2_with fail
   clear p0 p1 p2 p3 p4 p5 p6 p7 c0' c1' c2' c3' c4' hadd
   generalize wr.alloc (.cells #[.int .i64 kd,.string nm,.int .i64 st,.int .i64 n,.int .i64 kk] 51)=w2 at *
   generalize wr.heap.size=xb at *
   clear hg
   go_loopg [14,15,16] (km l a) (fun gq x y z wq=>∃ j:Nat,j+gq=km l a/\x=.int .i64 (sumL (zi (bks l rd rs a j)):Nat)/\z=.int .i64 (kidp l a j:Nat)/\wq.ownsRow w2.heap.size 3 1 y j (iv (zi (bks l rd rs a j)))/\Below w2.heap.size w2 wq)
   case atStart=>exact ⟨0,by omega,rfl,by rw [HK0.out];simp,⟨rfl,Or.inl ⟨rfl,rfl⟩⟩,Below.refl _ _⟩
   case round=>
    obtain ⟨j,hjg,rfl,rfl,hown,hbq⟩:=hrel
    obtain ⟨so,sc,rfl⟩:=own_form hown
    have HGj:Hid (j+gk=km l a/\wr.ownsRow w2.heap.size 3 1 (.slice so j sc) j (iv (zi (bks l rd rs a j)))/\Below w2.heap.size w2 wr):=⟨hjg,hown,hbq⟩
    have hRw:=HX.out.1.below hbq
    have hRb:=HX.out.2.1.below hbq
    have een:=hRb.e a HA.out.2.2.1
    by_cases hlt:j < km l a
    ·obtain ⟨q1,q2,q3,q4⟩:=kidIn HPr.out.tree.whole HA.out.2.2.1 hlt
     have q5:=(end_kid HPr.out.tree.whole q2).2.1
     have HLj:Hid (j < km l a/\kidp l a (j+1)=endp l (kidp l a j)):=⟨hlt,q4⟩
     have ek:=hRb.e _ q2
     have hof:=ofL_at (l:=l) (rd:=rd) (rs:=rs) (row:=row) (m:=m) (t:=t) (j:=kidp l a j - row) (by have:=HLt.out;omega) (by have:=HA.out;omega) (by have:=HA.out;have:=HOv.out;have:=HEE.out;omega)
     rw [show row+(kidp l a j - row)=kidp l a j by have:=HA.out;omega] at hof
     obtain ⟨hof1,hof2⟩:=List.getElem?_eq_some_iff.1 hof
     have co:=hRw.o.cell hof1
     rw [hof2] at co
     have HS:Hid (sumL (zi (bks l rd rs a (j+1)))=capS (sumL (zi (bks l rd rs a j))+bnd l rd rs (kidp l a j))/\bks l rd rs a (j+1)=bks l rd rs a j++[bnd l rd rs (kidp l a j)]):=by
      refine ⟨?_,bks_succ l rd rs a j⟩
      rw [bks_succ,zi_app,sumL_app]
      have:sumL (zi [bnd l rd rs (kidp l a j)])=capS (bnd l rd rs (kidp l a j)):=by simp [sumL,tsum,zi]
      rw [this,capS_one _ (bnd_le l rd rs _)]
     have HPl:Hid (∀ W',Calls Tryz.prog 45 #[.int .i64 (sumL (zi (bks l rd rs a j)):Nat),.int .i64 (bnd l rd rs (kidp l a j):Nat)] W' fun e w'=>e=.returned (.int .i64 (capS (sumL (zi (bks l rd rs a j))+bnd l rd rs (kidp l a j)):Nat))/\w'=W'):=fun W'=>rcplus _ _ (sumL_le _) (bnd_le _ _ _ _) W'
     have hkp1:(kidp l a j:Int) < (endp l a:Int):=by omega
     have hkp2:(kidp l a j:Int) < (l.length:Int):=by omega
     have hkp3:(kidp l a j:Int)<=65536:=by omega
     have hkp4:IntKind.i64.wrap ((kidp l a j:Int) - (row:Int))=((kidp l a j - row:Nat):Int):=by rw [IntKind.wrap_i64];have:=HA.out;omega
     have hkp5:((kidp l a j - row:Nat):Int) < (m:Int):=by have:=HA.out;have:=HOv.out;have:=HEE.out;omega
     have hm2:(m:Int)<=65536:=by have:=HM.out;have:=HEE.out;omega
     have HOf:Hid (RowN wr (W.heap.size+1) (ofL l rd rs row m t)/\wr.cell? ⟨W.heap.size+1,kidp l a j - row,none⟩=some (.int .i64 (bnd l rd rs (kidp l a j):Nat))):=⟨hRw.o,co⟩
     have HEk:Hid (∀ W',Below w2.heap.size w2 W'->W'.cell? ⟨eb,kidp l a j,none⟩=some (.int .i64 (endp l (kidp l a j):Nat))):=fun W' hb=>(HX.out.2.1.below hb).e _ q2
     generalize sumL (zi (bks l rd rs a j))=sj at *
     generalize hbk:bnd l rd rs (kidp l a j)=bk at *
     generalize capS (sj+bk)=sj1 at *
     generalize endp l (kidp l a j)=ekp at *
     generalize kidp l a j - row=kr at *
     generalize kidp l a j=kp at *
     clear hjg hown hbq hRw hRb hlt q1 q2 q3 q4 q5 hof hof1 hof2 hbk
     have hbU:Below wr.heap.size wr (wr.alloc (.cells #[.int .i64 (bk:Int)] 3)):=bAl wr _
     have HOw:Hid ((wr.alloc (.cells #[.int .i64 (bk:Int)] 3)).ownsRow w2.heap.size 3 1 (.slice so j sc) j (iv (zi (bks l rd rs a j)))/\Below w2.heap.size w2 (wr.alloc (.cells #[.int .i64 (bk:Int)] 3))/\j<=65536):=⟨own_below HGj.out.2.1 hbU,HGj.out.2.2.trans (hbU.mono HGj.out.2.2.size),by have:=HLj.out.1;have:=HOv.out;omega⟩
     have HBU:=hdn <| hbU
     clear hbU
     go_wp2_with (at_builtin;refine wpl_app _ rfl _ _ 23 rfl w2.heap.size 3 i0 (.int .i64 0) 1 8 Tryz.underlying23 hi hz0 hz1 hz2 rfl (by decide) (.slice so j sc) j (iv (zi (bks l rd rs a j))) rfl HOw.out.1 (some ⟨wr.heap.size,0,none⟩) 1 1 [.int .i64 (bk:Int)] rfl rfl (fun e=>by cases e) (fun ad e=>by cases e;exact cell_one wr _ _) (by intro u hu;simp only [List.mem_cons,List.not_mem_nil,or_false] at hu;subst hu;rfl) ?c3 ?c4 HOw.out.2.1.size ?_)
     case c3=>have:=HOw.out.2.2;unfold maxLen;omega
     case c4=>have:=HOw.out.2.2;omega
     intro v2 w4 ho2 hg2 _
     have hb4:Below w2.heap.size w2 w4:=HOw.out.2.1.grown hg2 HOw.out.2.1.size (fun q e=>(World.ownsRow.lt HOw.out.1 q e).1)
     have H4:Hid (w4.ownsRow w2.heap.size 3 1 v2 (j+1) (iv (zi (bks l rd rs a (j+1))))/\Below w2.heap.size w2 w4):=⟨by rw [HS.out.2];simpa [iv,zi] using ho2,hb4⟩
     obtain ⟨bo,bc,rfl⟩:=own_form ho2
     have co4:w4.cell? ⟨W.heap.size+1,kr,none⟩=some (.int .i64 (bk:Int)):=by
      have hb5:=HX.out.1.o.lt
      have:=(HGj.out.2.2.cell (p:=⟨W.heap.size+1,kr,none⟩) hb5).symm.trans HOf.out.2
      exact (hb4.cell (p:=⟨W.heap.size+1,kr,none⟩) hb5).trans this
     have ek4:w4.cell? ⟨eb,kp,none⟩=some (.int .i64 (ekp:Nat)):=HEk.out w4 hb4
     have HP4:=hdn <| HPl.out w4
     clear ho2 hg2 hb4 HOw co ek een HPl
     go_wp2_with fail
     refine Calls.mono HP4.out ?_
     rintro e w5 ⟨rfl,hw5⟩
     rw [hw5]
     clear hw5 HP4
     go_wp2_with fail
     go_roundg (km l a - (j+1))
     case measure=>have:=HGj.out.1;have:=HLj.out.1;omega
     case rel=>exact ⟨j+1,by have:=HLj.out.1;omega,by rw [HS.out.1],by rw [HLj.out.2],H4.out.1,H4.out.2⟩
    ·have hke:j=km l a:=by omega
     subst hke
     have HB0:=HGj.out.2.2
     have een2:=een
     rw [HOv.out.2.1] at een2
     obtain ⟨ks,hks⟩:∃ ks,bks l rd rs a (km l a)=ks:=⟨_,rfl⟩
     have hkl:ks.length=km l a:=by rw [<-hks];exact bks_len _ _ _ _ _
     have HKl:Hid (∀ x ∈ ks,x<=4611686018427387904):=by rw [<-hks];exact bks_le _ _ _ _ _
     rw [hks] at hown
     have HV:Hid (IsVals wr so (iv (zi ks))/\ks.length=km l a):=⟨vals_of hown,hkl⟩
     have HN:Hid (bnd l rd rs a=if kd=24 then 0 else capS (rcN l rd rs a ks+1)):=by
      show _=_
      rw [HOv.out.1,hks,over_rc (fun e=>hkl.trans (HPr.out.k13 a HA.out.2.2.1 e)),HXX.out]
     have HRc:Hid (rcN l rd rs a ks=if kd=12 then capS (ks.getD 0 0+mxL (ks.drop 1)) else if kd=13 then capS ((rd.getD a 0).toNat * capS (ks.getD 1 0+ks.getD 2 0)) else if kd=22 then rs.getD n.toNat 0 else sumL (zi ks)):=by
      show _=_
      unfold rcN
      rw [HXX.out]
     have HK12:Hid (kd=12->2<=km l a/\km l a<=3):=fun e=>HPr.out.k12 a HA.out.2.2.1 (by rw [HXX.out];exact e)
     have HK13:Hid (kd=13->km l a=3):=fun e=>HPr.out.k13 a HA.out.2.2.1 (by rw [HXX.out];exact e)
     have HK22:Hid (kd=22->0<=n/\n < (rs.length:Int)):=fun e=>by
      have:=HCall.out a HA.out.2.1 (by have:=HM.out.1;have:=HA.out;omega) (by rw [HXX.out];exact e)
      rw [HXX.out] at this
      exact this
     have hnex:xb ≠ W.heap.size+1:=fun e=>by
      have q1:=HX.out.2.2
      have q2:=HX.out.1.o
      unfold RowN at q2
      rw [e,q2] at q1
      exact absurd (show (3:Nat)=51 from congrArg (fun o:Option Obj=>match o with | some (.cells _ T _)=>T | _=>0) q1) (by decide)
     obtain ⟨ar,har⟩:∃ ar,a - row=ar:=⟨_,rfl⟩
     have hsub:IntKind.i64.wrap ((a:Int) - (row:Int))=(ar:Int):=by rw [IntKind.wrap_i64];have:=HA.out;omega
     have harm:(ar:Int) < (m:Int):=by have:=HA.out;have:=HLt.out;omega
     have hm2:(m:Int)<=65536:=by have:=HM.out;have:=HEE.out;omega
     have hdec:IntKind.i64.wrap ((a:Int) - 1)=(E:Int) - 1 - ((t+1:Nat):Int):=by rw [IntKind.wrap_i64];have:=HA.out;omega
     have hlenO:=ofL_len (l:=l) (rd:=rd) (rs:=rs) (row:=row) (m:=m) (t:=t) (Nat.le_of_lt HLt.out)
     have hset:=ofL_set (l:=l) (rd:=rd) (rs:=rs) (row:=row) (m:=m) (t:=t) HLt.out
     rw [<-HA.out.2.2.2.2,<-HA.out.2.2.2.1,har,HN.out] at hset
     have HFv:Hid (kd ≠ 24->(ofL l rd rs row m t).set ar (capS (rcN l rd rs a ks+1))=ofL l rd rs row m (t+1)):=fun e=>by rw [if_neg e] at hset;exact hset
     have HF24:Hid (kd=24->(ofL l rd rs row m t).set ar 0=ofL l rd rs row m (t+1)):=fun e=>by rw [if_pos e] at hset;exact hset
     have har2:ar < (ofL l rd rs row m t).length:=by rw [hlenO];omega
     obtain ⟨old,hold⟩:∃ old:Nat,(ofL l rd rs row m t)[ar]=old:=⟨_,rfl⟩
     have HFin:Hid (∀ V,Below wr.heap.size wr V->RbW W V #[c0,.slice (some ⟨g,o,none⟩) l.length cap,c2,c3,c4,c5,c6,c7] (ofL l rd rs row m t)/\(V.cell? ⟨W.heap.size+1,ar,none⟩=some (.int .i64 (old:Int))/\V.frozen? ⟨W.heap.size+1,ar,none⟩=false)/\V.cell? ⟨xb,0,none⟩=some (.int .i64 kd)/\∀ v,(V.setCell ⟨W.heap.size+1,ar,none⟩ v).cell? ⟨xb,0,none⟩=some (.int .i64 kd)):=fun V hV=>by
      have q1:=hRw.below hV
      have q2:V.heap[xb]?=some (.cells #[.int .i64 kd,.string nm,.int .i64 st,.int .i64 n,.int .i64 kk] 51 (0,0)):=((HB0.trans (hV.mono HB0.size)).block _ (blk_in HX.out.2.2)).trans HX.out.2.2
      have q3:=q1.o.cell har2
      rw [hold] at q3
      refine ⟨q1,⟨q3,q1.o.frozen ar⟩,(row5 q2).1,fun v=>?_⟩
      exact (row5 ((Below.heap_setCell V ⟨W.heap.size+1,ar,none⟩ v xb hnex).trans q2)).1
     have HX3:Hid (wr.cell? ⟨xb,3,none⟩=some (.int .i64 n)):=(row5 ((HB0.block _ (blk_in HX.out.2.2)).trans HX.out.2.2)).2
     obtain ⟨_,_,x0,_⟩:=HFin.out wr (Below.refl _ _)
     have HRr:=hdn <| hRb
     have hkml:(km l a:Int)<=65536:=by have:=HOv.out;omega
     generalize hnv:rcN l rd rs a ks=nv at *
     have HNv:Hid (nv<=4611686018427387904):=by
      show _<=_
      rw [<-hnv]
      exact rcN_le HPr.out.rb HKl.out
     generalize kidp l a (km l a)=kpe at *
     generalize hsk:sumL (zi (bks l rd rs a (km l a)))=sk at *
     have HSk:Hid (sumL (zi ks)=sk):=by show _=_;rw [<-hks];exact hsk
     clear hjg hown hbq hRw hRb een hlt hks hsk hlenO hset hold har2 hnv hkl hnex
     by_cases h12:kd=12
     ·subst h12
      have hk:=HK12.out rfl
      have HR1:Hid (nv=capS (ks.getD 0 0+mxL (ks.drop 1))):=HRc.out
      clear HK12 HK13 HK22 HRc HF24
      rcases list23 (ks:=ks) (by rw [HV.out.2];exact hk) with ⟨k0,k1,rfl⟩ | ⟨k0,k1,k2,rfl⟩
      ·have hkm:km l a=2:=by rw [<-HV.out.2];rfl
       obtain ⟨kg,kof,rfl,_,d0⟩:=HV.out.1 0 (.int .i64 (k0:Int)) rfl
       obtain ⟨kg',kof',e',_,d1⟩:=HV.out.1 1 (.int .i64 (k1:Int)) rfl
       cases e'
       rw [Nat.add_zero] at d0
       have hR2:nv=capS (k0+k1):=by rw [HR1.out];simp [mxL]
       have HP0:=hdn <| rcplus k0 k1 (HKl.out _ (by simp)) (HKl.out _ (by simp)) wr
       rw [<-hR2] at HP0
       rw [hkm]
       clear hR2 HR1 hk hkm hkml HV
       go_wp2_with fail
       refine Calls.mono HP0.out ?_
       rintro e w6 ⟨rfl,hw6⟩
       rw [hw6]
       clear hw6 HP0 d0 d1 w6
       have HT:=hdn <| rcplus nv 1 HNv.out (by decide) wr
       have HFz:=hdn <| HFv.out (by decide)
       generalize capS (nv+1)=cv at *
       go_wp2_with fail
       refine Calls.mono HT.out ?_
       rintro e w7 ⟨rfl,hw7⟩
       rw [hw7]
       clear hw7 HT
       obtain ⟨f0,f1,f2,f3⟩:=HFin.out wr (Below.refl _ _)
       have HS6:=hdn <| f0.set ar cv
       have x0s:=f3 (.int .i64 (cv:Int))
       clear f0 f3
       go_wp2_with fail
       go_roundg (m - (t+1))
       case measure=>have:=HG.out.1;have:=HLt.out;omega
       case rel=>exact ⟨t+1,by have:=HLt.out;omega,by go_num,by have:=HS6.out;rw [HFz.out] at this;exact this⟩
      ·have hkm:km l a=3:=by rw [<-HV.out.2];rfl
       obtain ⟨kg,kof,rfl,_,d0⟩:=HV.out.1 0 (.int .i64 (k0:Int)) rfl
       obtain ⟨kg',kof',e',_,d1⟩:=HV.out.1 1 (.int .i64 (k1:Int)) rfl
       cases e'
       obtain ⟨kg',kof',e',_,d2⟩:=HV.out.1 2 (.int .i64 (k2:Int)) rfl
       cases e'
       rw [Nat.add_zero] at d0
       by_cases hgt:k1 < k2
       ·have hg1:decide ((k1:Int) < (k2:Int))=true:=decide_eq_true (by omega)
        have hg2:(k1:Int) < (k2:Int):=by omega
        have hR2:nv=capS (k0+k2):=by
         rw [HR1.out]
         show capS (k0+max k1 (max k2 0))=_
         congr 2
         omega
        have HP0:=hdn <| rcplus k0 k2 (HKl.out _ (by simp)) (HKl.out _ (by simp)) wr
        rw [<-hR2] at HP0
        rw [hkm]
        clear hR2 HR1 hk hkm hkml HV hgt
        go_wp2_with fail
        refine Calls.mono HP0.out ?_
        rintro e w6 ⟨rfl,hw6⟩
        rw [hw6]
        clear hw6 HP0 d0 d1 d2 w6
        have HT:=hdn <| rcplus nv 1 HNv.out (by decide) wr
        have HFz:=hdn <| HFv.out (by decide)
        generalize capS (nv+1)=cv at *
        go_wp2_with fail
        refine Calls.mono HT.out ?_
        rintro e w7 ⟨rfl,hw7⟩
        rw [hw7]
        clear hw7 HT
        obtain ⟨f0,f1,f2,f3⟩:=HFin.out wr (Below.refl _ _)
        have HS6:=hdn <| f0.set ar cv
        have x0s:=f3 (.int .i64 (cv:Int))
        clear f0 f3
        go_wp2_with fail
        go_roundg (m - (t+1))
        case measure=>have:=HG.out.1;have:=HLt.out;omega
        case rel=>exact ⟨t+1,by have:=HLt.out;omega,by go_num,by have:=HS6.out;rw [HFz.out] at this;exact this⟩
       ·have hg1:decide ((k1:Int) < (k2:Int))=false:=decide_eq_false (by omega)
        have hg2:decide (k1 < k2)=false:=decide_eq_false hgt
        have hR2:nv=capS (k0+k1):=by
         rw [HR1.out]
         show capS (k0+max k1 (max k2 0))=_
         congr 2
         omega
        have HP0:=hdn <| rcplus k0 k1 (HKl.out _ (by simp)) (HKl.out _ (by simp)) wr
        rw [<-hR2] at HP0
        rw [hkm]
        clear hR2 HR1 hk hkm hkml HV hgt
        go_wp2_with fail
        refine Calls.mono HP0.out ?_
        rintro e w6 ⟨rfl,hw6⟩
        rw [hw6]
        clear hw6 HP0 d0 d1 d2 w6
        have HT:=hdn <| rcplus nv 1 HNv.out (by decide) wr
        have HFz:=hdn <| HFv.out (by decide)
        generalize capS (nv+1)=cv at *
        go_wp2_with fail
        refine Calls.mono HT.out ?_
        rintro e w7 ⟨rfl,hw7⟩
        rw [hw7]
        clear hw7 HT
        obtain ⟨f0,f1,f2,f3⟩:=HFin.out wr (Below.refl _ _)
        have HS6:=hdn <| f0.set ar cv
        have x0s:=f3 (.int .i64 (cv:Int))
        clear f0 f3
        go_wp2_with fail
        go_roundg (m - (t+1))
        case measure=>have:=HG.out.1;have:=HLt.out;omega
        case rel=>exact ⟨t+1,by have:=HLt.out;omega,by go_num,by have:=HS6.out;rw [HFz.out] at this;exact this⟩
     ·by_cases h13:kd=13
      ·subst h13
       have hk3:=HK13.out rfl
       have HR1:Hid (nv=capS ((rd.getD a 0).toNat * capS (ks.getD 1 0+ks.getD 2 0))):=HRc.out
       clear HK12 HK13 HK22 HRc HF24 h12
       obtain ⟨k0,k1,k2,rfl⟩:=list3 (ks:=ks) (by rw [HV.out.2];exact hk3)
       obtain ⟨kg,kof,rfl,_,d0⟩:=HV.out.1 1 (.int .i64 (k1:Int)) rfl
       obtain ⟨kg',kof',e',_,d1⟩:=HV.out.1 2 (.int .i64 (k2:Int)) rfl
       cases e'
       have hrl:a < rd.length:=by have:=HPr.out.rl;have:=HA.out;omega
       obtain ⟨eg,eof,rfl,_,d2⟩:=HRr.out.d a _ (iv_at hrl)
       have hr2:=HPr.out.rr _ (List.getElem_mem hrl)
       have hgd:rd.getD a 0=rd[a]:=by simp [List.getD_eq_getElem?_getD,List.getElem?_eq_getElem hrl]
       rw [hgd] at HR1
       have hrl2:(a:Int) < (rd.length:Int):=by omega
       generalize rd[a]=rx at *
       obtain ⟨ri,rfl⟩:=Int.eq_ofNat_of_zero_le hr2.1
       have hR2:nv=capS (ri * capS (k1+k2)):=HR1.out
       have HP0:Hid (∀ W',Calls Tryz.prog 45 #[.int .i64 (k1:Int),.int .i64 (k2:Int)] W' fun e w'=>e=.returned (.int .i64 (capS (k1+k2):Nat))/\w'=W'):=fun W'=>rcplus k1 k2 (HKl.out _ (by simp)) (HKl.out _ (by simp)) W'
       have HP1:Hid (∀ W',Calls Tryz.prog 46 #[.int .i64 (ri:Int),.int .i64 (capS (k1+k2):Nat)] W' fun e w'=>e=.returned (.int .i64 (nv:Nat))/\w'=W'):=fun W'=>by
        have:=rcby ri (capS (k1+k2)) (by omega) (capS_le _) W'
        rw [<-hR2] at this
        exact this
       generalize capS (k1+k2)=k12 at *
       rw [hk3]
       clear hR2 HR1 hk3 hkml HV hgd hr2
       go_wp2_with fail
       go_quiet (first | (go_at_call 45;exact Calls.quiet_of_same (HP0.out _)) | (go_at_call 46;exact Calls.quiet_of_same (HP1.out _)))
       generalize hVd:World.drewN wr _=V at *
       have HBV:Hid (Below wr.heap.size wr V):=by rw [<-hVd];exact dN _ _
       clear hVd d0 d1 d2 HP0 HP1
       have HT:=hdn <| rcplus nv 1 HNv.out (by decide) V
       have HFz:=hdn <| HFv.out (by decide)
       generalize capS (nv+1)=cv at *
       go_wp2_with fail
       refine Calls.mono HT.out ?_
       rintro e w7 ⟨rfl,hw7⟩
       rw [hw7]
       clear hw7 HT
       obtain ⟨f0,f1,f2,f3⟩:=HFin.out V HBV.out
       have HS6:=hdn <| f0.set ar cv
       have x0s:=f3 (.int .i64 (cv:Int))
       clear f0 f3
       go_wp2_with fail
       go_roundg (m - (t+1))
       case measure=>have:=HG.out.1;have:=HLt.out;omega
       case rel=>exact ⟨t+1,by have:=HLt.out;omega,by go_num,by have:=HS6.out;rw [HFz.out] at this;exact this⟩
      ·by_cases h22:kd=22
       ·subst h22
        obtain ⟨hn0,hn1⟩:=HK22.out rfl
        obtain ⟨q,rfl⟩:=Int.eq_ofNat_of_zero_le hn0
        have hqr:q < rs.length:=by omega
        have HR1:Hid (nv=rs[q]):=by
         have:=HRc.out
         rw [if_neg (by decide),if_neg (by decide),if_pos rfl] at this
         show _=_
         rw [this]
         simp [List.getD_eq_getElem?_getD,List.getElem?_eq_getElem hqr]
        obtain ⟨ug,uof,rfl,_,u0⟩:=HRr.out.u q _ (zi_at hqr)
        rw [<-HR1.out] at u0
        have x3:=HX3.out
        have hrm:(rs.length:Int)<=64:=by have:=HPr.out.rm;omega
        clear HK12 HK13 HK22 HRc HF24 h12 h13 hn0 HR1
        have HT:=hdn <| rcplus nv 1 HNv.out (by decide) wr
        have HFz:=hdn <| HFv.out (by decide)
        generalize capS (nv+1)=cv at *
        go_wp2_with fail
        refine Calls.mono HT.out ?_
        rintro e w7 ⟨rfl,hw7⟩
        rw [hw7]
        clear hw7 HT
        obtain ⟨f0,f1,f2,f3⟩:=HFin.out wr (Below.refl _ _)
        have HS6:=hdn <| f0.set ar cv
        have x0s:=f3 (.int .i64 (cv:Int))
        clear f0 f3
        go_wp2_with fail
        go_roundg (m - (t+1))
        case measure=>have:=HG.out.1;have:=HLt.out;omega
        case rel=>exact ⟨t+1,by have:=HLt.out;omega,by go_num,by have:=HS6.out;rw [HFz.out] at this;exact this⟩
       ·by_cases h24:kd=24
        ·have hR2:nv=sk:=by
          have:=HRc.out
          rw [h24,if_neg (by decide),if_neg (by decide),if_neg (by decide),HSk.out] at this
          exact this
         subst h24
         subst hR2
         clear HK12 HK13 HK22 HRc HFv h12 h13 h22 HSk HV
         have HT:=hdn <| rcplus nv 1 HNv.out (by decide) wr
         have HFz:=hdn <| HF24.out rfl
         generalize capS (nv+1)=cv at *
         go_wp2_with fail
         refine Calls.mono HT.out ?_
         rintro e w7 ⟨rfl,hw7⟩
         rw [hw7]
         clear hw7 HT
         obtain ⟨f0,f1,f2,f3⟩:=HFin.out wr (Below.refl _ _)
         have HS6:=hdn <| f0.set ar cv
         have x0s:=f3 (.int .i64 (cv:Int))
         have g1:=HS6.out.o.frozen ar
         have g2:=HS6.out.o.cell (k:=ar) (by rw [List.length_set,ofL_len (Nat.le_of_lt HLt.out)];omega)
         have HS7:=hdn <| HS6.out.set ar 0
         rw [List.set_set] at HS7
         generalize ((ofL l rd rs row m t).set ar cv)[ar]'(by rw [List.length_set,ofL_len (Nat.le_of_lt HLt.out)];omega)=old2 at g2
         clear f0 f3
         go_wp2_with fail
         go_roundg (m - (t+1))
         case measure=>have:=HG.out.1;have:=HLt.out;omega
         case rel=>exact ⟨t+1,by have:=HLt.out;omega,by go_num,by have:=HS7.out;rw [HFz.out] at this;exact this⟩
        ·have hR2:nv=sk:=by
          have:=HRc.out
          rw [if_neg h12,if_neg h13,if_neg h22,HSk.out] at this
          exact this
         subst hR2
         have q12:(kd == 12)=false:=by simp [h12]
         have q13:(kd == 13)=false:=by simp [h13]
         have q22:(kd == 22)=false:=by simp [h22]
         have q24:(kd == 24)=false:=by simp [h24]
         have HF5:=hdn <| HFv.out h24
         clear HK12 HK13 HK22 HRc HFv HF24 h12 h13 h22 h24 HSk HV
         have HT:=hdn <| rcplus nv 1 HNv.out (by decide) wr
         have HFz:=hdn <| HF5.out
         generalize capS (nv+1)=cv at *
         go_wp2_with fail
         refine Calls.mono HT.out ?_
         rintro e w7 ⟨rfl,hw7⟩
         rw [hw7]
         clear hw7 HT
         obtain ⟨f0,f1,f2,f3⟩:=HFin.out wr (Below.refl _ _)
         have HS6:=hdn <| f0.set ar cv
         have x0s:=f3 (.int .i64 (cv:Int))
         clear f0 f3
         go_wp2_with fail
         go_roundg (m - (t+1))
         case measure=>have:=HG.out.1;have:=HLt.out;omega
         case rel=>exact ⟨t+1,by have:=HLt.out;omega,by go_num,by have:=HS6.out;rw [HFz.out] at this;exact this⟩
  ·have hte:t=m:=by omega
   subst hte
   have hge:decide ((row:Int)<=(E:Int) - 1 - (t:Int))=false:=decide_eq_false (by have:=HEE.out;omega)
   have hto:=ofL_end l rd rs row t HM.out.2.1
   obtain ⟨ho1,ho2⟩:=List.getElem?_eq_some_iff.1 hto
   have co:=hw.o.cell ho1
   rw [ho2] at co
   have HB:=hdn <| hw.be
   have ht1:(0:Int) < (t:Int):=by have:=HM.out.2.1;omega
   have ht2:0 < t:=HM.out.2.1
   generalize hbr:bnd l rd rs row=br at *
   have HBr:Hid (bnd l rd rs row=br):=hbr
   clear hbr
   generalize (E:Int) - 1 - (t:Int)=ae at *
   clear htg hw hlt hto ho1 ho2
   go_wp2
   go_ret
   exact ⟨by rw [HBr.out];rfl,HB.out⟩
end Go.Proofs.YthbnjhamfcefkaaGreat.Nm
