import Derived.Test.YtfgpbdieaflclaaGreatK22
set_option maxHeartbeats 12800000
set_option maxRecDepth 100000
namespace Go.Proofs.YtfgpbdieaflclaaGreat.Nm
open Go.RowKit Go.Maps Sp Lx Gr
structure Pg where
 name:ByteArray
 rows:List Rz
 qs:List (ByteArray × Bool)
 vs:List ByteArray
 ts:List ByteArray
 us:List Int
 on:List Int
 miss:Int
def Pl.g (p:Pl):Pg:=⟨p.name,p.rows,p.qs,p.vs,p.ts,p.us.map (fun n:Nat=>(n:Int)),p.on,p.miss⟩
theorem Pg.ext8 {p q:Pg} (h0:p.name=q.name) (h1:p.miss=q.miss) (h2:p.rows=q.rows) (h3:p.qs=q.qs) (h4:p.vs=q.vs) (h5:p.ts=q.ts) (h6:p.us=q.us) (h7:p.on=q.on):p=q:=by
 cases p
 cases q
 simp_all
structure RdG (w:World) (p:Pg) (ao qo vo tto uo oo:Option Addr):Prop where
 r:IsRz w ao p.rows
 q:IsVals w qo (qF p.qs)
 v:IsVals w vo (p.vs.map Value.string)
 t:IsVals w tto (p.ts.map Value.string)
 u:IsVals w uo (iv p.us)
 o:IsVals w oo (iv p.on)
theorem RdG.below {w w':World} {p:Pg} {ao qo vo tto uo oo:Option Addr} (h:RdG w p ao qo vo tto uo oo) (hb:Below w.heap.size w w'):RdG w' p ao qo vo tto uo oo:=⟨h.r.below hb,h.q.below hb,h.v.below hb,h.t.below hb,h.u.below hb,h.o.below hb⟩
structure Pg.Sm (p:Pg):Prop where
 r:p.rows.length<=2932031007317
 q:p.qs.length<=2932031007317
 v:p.vs.length<=2932031007317
 t:p.ts.length<=2932031007317
 u:p.us.length<=2932031007317
 o:p.on.length<=2932031007317
abbrev pvG (p:Pg) (ao qo vo tto uo oo:Option Addr) (ac qc vc tc uc oc:Nat):Value:=.agg #[.string p.name,.slice ao p.rows.length ac,.slice qo p.qs.length qc,.slice vo p.vs.length vc,.slice tto p.ts.length tc,.slice uo p.us.length uc,.slice oo p.on.length oc,.int .i64 p.miss]
theorem same_any {w:World} {p q:Pg} {ao qo vo tto uo oo ao2 qo2 vo2 tto2 uo2 oo2:Option Addr} {ac qc vc tc uc oc ac2 qc2 vc2 tc2 uc2 oc2:Nat} (h1:RdG w p ao qo vo tto uo oo) (h2:RdG w q ao2 qo2 vo2 tto2 uo2 oo2) (hp:p.Sm):
  Calls Tryz.prog 37 #[pvG p ao qo vo tto uo oo ac qc vc tc uc oc,pvG q ao2 qo2 vo2 tto2 uo2 oo2 ac2 qc2 vc2 tc2 uc2 oc2] w fun e w'=>(∃ b,e=.returned (.bool b)/\(b=true ↔ p=q))/\Below w.heap.size w w':=by
 dsimp only [pvG]
 have hb0:Below w.heap.size w ((w.alloc (.cells #[.string p.name,.slice ao p.rows.length ac,.slice qo p.qs.length qc,.slice vo p.vs.length vc,.slice tto p.ts.length tc,.slice uo p.us.length uc,.slice oo p.on.length oc,.int .i64 p.miss] 28)).alloc (.cells #[.string q.name,.slice ao2 q.rows.length ac2,.slice qo2 q.qs.length qc2,.slice vo2 q.vs.length vc2,.slice tto2 q.ts.length tc2,.slice uo2 q.us.length uc2,.slice oo2 q.on.length oc2,.int .i64 q.miss] 28)):=(bAl w _).alloc (by simp) _
 have HB0:Hid (Below w.heap.size w ((w.alloc (.cells #[.string p.name,.slice ao p.rows.length ac,.slice qo p.qs.length qc,.slice vo p.vs.length vc,.slice tto p.ts.length tc,.slice uo p.us.length uc,.slice oo p.on.length oc,.int .i64 p.miss] 28)).alloc (.cells #[.string q.name,.slice ao2 q.rows.length ac2,.slice qo2 q.qs.length qc2,.slice vo2 q.vs.length vc2,.slice tto2 q.ts.length tc2,.slice uo2 q.us.length uc2,.slice oo2 q.on.length oc2,.int .i64 q.miss] 28))/\((w.alloc (.cells #[.string p.name,.slice ao p.rows.length ac,.slice qo p.qs.length qc,.slice vo p.vs.length vc,.slice tto p.ts.length tc,.slice uo p.us.length uc,.slice oo p.on.length oc,.int .i64 p.miss] 28)).alloc (.cells #[.string q.name,.slice ao2 q.rows.length ac2,.slice qo2 q.qs.length qc2,.slice vo2 q.vs.length vc2,.slice tto2 q.ts.length tc2,.slice uo2 q.us.length uc2,.slice oo2 q.on.length oc2,.int .i64 q.miss] 28)).heap[w.heap.size]?=some (.cells #[.string p.name,.slice ao p.rows.length ac,.slice qo p.qs.length qc,.slice vo p.vs.length vc,.slice tto p.ts.length tc,.slice uo p.us.length uc,.slice oo p.on.length oc,.int .i64 p.miss] 28 (0,0))/\((w.alloc (.cells #[.string p.name,.slice ao p.rows.length ac,.slice qo p.qs.length qc,.slice vo p.vs.length vc,.slice tto p.ts.length tc,.slice uo p.us.length uc,.slice oo p.on.length oc,.int .i64 p.miss] 28)).alloc (.cells #[.string q.name,.slice ao2 q.rows.length ac2,.slice qo2 q.qs.length qc2,.slice vo2 q.vs.length vc2,.slice tto2 q.ts.length tc2,.slice uo2 q.us.length uc2,.slice oo2 q.on.length oc2,.int .i64 q.miss] 28)).heap[w.heap.size+1]?=some (.cells #[.string q.name,.slice ao2 q.rows.length ac2,.slice qo2 q.qs.length qc2,.slice vo2 q.vs.length vc2,.slice tto2 q.ts.length tc2,.slice uo2 q.us.length uc2,.slice oo2 q.on.length oc2,.int .i64 q.miss] 28 (0,0))):=⟨hb0,by rw [alloc_old _ _ _ (by simp)];exact alloc_at _ _ _ rfl,alloc_at _ _ _ (by simp)⟩
 have HS1:=hdn <| hp
 have H1:=hdn <| h1
 have H2:=hdn <| h2
 obtain ⟨k0,k1,k2,k3,k4,k5,k6,k7⟩:=pol8 HB0.out.2.1
 obtain ⟨m0,m1,m2,m3,m4,m5,m6,m7⟩:=pol8 HB0.out.2.2
 clear h1 h2 hp hb0
 by_cases hnm:p.name=q.name
 ·have hnb:(p.name.toList == q.name.toList)=true:=by rw [hnm];simp
  have HNm:=hdn <| hnm
  clear hnm
  by_cases hmi:p.miss=q.miss
  ·have hmb:(p.miss == q.miss)=true:=by simp [hmi]
   have HMi:=hdn <| hmi
   clear hmi
   go_enter Tryz.func37,Tryz.ntmps37
   go_wp2_with fail
   have HC:=hdn <| eqRowsG (ca:=ac) (cb:=ac2) (RdG.below H1.out HB0.out.1).r (RdG.below H2.out HB0.out.1).r HS1.out.r
   clear k0 k1 k2 k3 k4 k5 k6 k7 m0 m1 m2 m3 m4 m5 m6 m7
   refine Calls.mono HC.out ?_
   rintro e w1 ⟨⟨b,rfl,hbi⟩,hb1⟩
   have HB1:Hid (Below w.heap.size w w1/\w1.heap[w.heap.size]?=some (.cells #[.string p.name,.slice ao p.rows.length ac,.slice qo p.qs.length qc,.slice vo p.vs.length vc,.slice tto p.ts.length tc,.slice uo p.us.length uc,.slice oo p.on.length oc,.int .i64 p.miss] 28 (0,0))/\w1.heap[w.heap.size+1]?=some (.cells #[.string q.name,.slice ao2 q.rows.length ac2,.slice qo2 q.qs.length qc2,.slice vo2 q.vs.length vc2,.slice tto2 q.ts.length tc2,.slice uo2 q.us.length uc2,.slice oo2 q.on.length oc2,.int .i64 q.miss] 28 (0,0))):=⟨HB0.out.1.trans (hb1.mono HB0.out.1.size),(hb1.block _ (blk_lt HB0.out.2.1)).trans HB0.out.2.1,(hb1.block _ (blk_lt HB0.out.2.2)).trans HB0.out.2.2⟩
   have HI0:=hdn <| hbi
   clear HC hb1 hbi
   cases b with
   | false=>
    have HNe:Hid (p ≠ q):=fun e=>absurd (HI0.out.2 (by rw [e])) (by decide)
    go_wp2
    go_ret
    exact ⟨⟨false,rfl,by simp [HNe.out]⟩,HB1.out.1⟩
   | true=>
    have HT0:=hdn <| HI0.out.1 rfl
    clear HI0
    obtain ⟨k0,k1,k2,k3,k4,k5,k6,k7⟩:=pol8 HB1.out.2.1
    obtain ⟨m0,m1,m2,m3,m4,m5,m6,m7⟩:=pol8 HB1.out.2.2
    go_wp2_with fail
    have HC:=hdn <| eqQsG (ca:=qc) (cb:=qc2) (RdG.below H1.out HB1.out.1).q (RdG.below H2.out HB1.out.1).q HS1.out.q
    clear k0 k1 k2 k3 k4 k5 k6 k7 m0 m1 m2 m3 m4 m5 m6 m7
    refine Calls.mono HC.out ?_
    rintro e w2 ⟨⟨b,rfl,hbi⟩,hb2⟩
    have HB2:Hid (Below w.heap.size w w2/\w2.heap[w.heap.size]?=some (.cells #[.string p.name,.slice ao p.rows.length ac,.slice qo p.qs.length qc,.slice vo p.vs.length vc,.slice tto p.ts.length tc,.slice uo p.us.length uc,.slice oo p.on.length oc,.int .i64 p.miss] 28 (0,0))/\w2.heap[w.heap.size+1]?=some (.cells #[.string q.name,.slice ao2 q.rows.length ac2,.slice qo2 q.qs.length qc2,.slice vo2 q.vs.length vc2,.slice tto2 q.ts.length tc2,.slice uo2 q.us.length uc2,.slice oo2 q.on.length oc2,.int .i64 q.miss] 28 (0,0))):=⟨HB1.out.1.trans (hb2.mono HB1.out.1.size),(hb2.block _ (blk_lt HB1.out.2.1)).trans HB1.out.2.1,(hb2.block _ (blk_lt HB1.out.2.2)).trans HB1.out.2.2⟩
    have HI1:=hdn <| hbi
    clear HC hb2 hbi
    cases b with
    | false=>
     have HNe:Hid (p ≠ q):=fun e=>absurd (HI1.out.2 (by rw [e])) (by decide)
     go_wp2
     go_ret
     exact ⟨⟨false,rfl,by simp [HNe.out]⟩,HB2.out.1⟩
    | true=>
     have HT1:=hdn <| HI1.out.1 rfl
     clear HI1
     obtain ⟨k0,k1,k2,k3,k4,k5,k6,k7⟩:=pol8 HB2.out.2.1
     obtain ⟨m0,m1,m2,m3,m4,m5,m6,m7⟩:=pol8 HB2.out.2.2
     go_wp2_with fail
     have HC:=hdn <| eqStrsG (ca:=vc) (cb:=vc2) (RdG.below H1.out HB2.out.1).v (RdG.below H2.out HB2.out.1).v HS1.out.v
     clear k0 k1 k2 k3 k4 k5 k6 k7 m0 m1 m2 m3 m4 m5 m6 m7
     refine Calls.mono HC.out ?_
     rintro e w3 ⟨⟨b,rfl,hbi⟩,hb3⟩
     have HB3:Hid (Below w.heap.size w w3/\w3.heap[w.heap.size]?=some (.cells #[.string p.name,.slice ao p.rows.length ac,.slice qo p.qs.length qc,.slice vo p.vs.length vc,.slice tto p.ts.length tc,.slice uo p.us.length uc,.slice oo p.on.length oc,.int .i64 p.miss] 28 (0,0))/\w3.heap[w.heap.size+1]?=some (.cells #[.string q.name,.slice ao2 q.rows.length ac2,.slice qo2 q.qs.length qc2,.slice vo2 q.vs.length vc2,.slice tto2 q.ts.length tc2,.slice uo2 q.us.length uc2,.slice oo2 q.on.length oc2,.int .i64 q.miss] 28 (0,0))):=⟨HB2.out.1.trans (hb3.mono HB2.out.1.size),(hb3.block _ (blk_lt HB2.out.2.1)).trans HB2.out.2.1,(hb3.block _ (blk_lt HB2.out.2.2)).trans HB2.out.2.2⟩
     have HI2:=hdn <| hbi
     clear HC hb3 hbi
     cases b with
     | false=>
      have HNe:Hid (p ≠ q):=fun e=>absurd (HI2.out.2 (by rw [e])) (by decide)
      go_wp2
      go_ret
      exact ⟨⟨false,rfl,by simp [HNe.out]⟩,HB3.out.1⟩
     | true=>
      have HT2:=hdn <| HI2.out.1 rfl
      clear HI2
      obtain ⟨k0,k1,k2,k3,k4,k5,k6,k7⟩:=pol8 HB3.out.2.1
      obtain ⟨m0,m1,m2,m3,m4,m5,m6,m7⟩:=pol8 HB3.out.2.2
      go_wp2_with fail
      have HC:=hdn <| eqStrsG (ca:=tc) (cb:=tc2) (RdG.below H1.out HB3.out.1).t (RdG.below H2.out HB3.out.1).t HS1.out.t
      clear k0 k1 k2 k3 k4 k5 k6 k7 m0 m1 m2 m3 m4 m5 m6 m7
      refine Calls.mono HC.out ?_
      rintro e w4 ⟨⟨b,rfl,hbi⟩,hb4⟩
      have HB4:Hid (Below w.heap.size w w4/\w4.heap[w.heap.size]?=some (.cells #[.string p.name,.slice ao p.rows.length ac,.slice qo p.qs.length qc,.slice vo p.vs.length vc,.slice tto p.ts.length tc,.slice uo p.us.length uc,.slice oo p.on.length oc,.int .i64 p.miss] 28 (0,0))/\w4.heap[w.heap.size+1]?=some (.cells #[.string q.name,.slice ao2 q.rows.length ac2,.slice qo2 q.qs.length qc2,.slice vo2 q.vs.length vc2,.slice tto2 q.ts.length tc2,.slice uo2 q.us.length uc2,.slice oo2 q.on.length oc2,.int .i64 q.miss] 28 (0,0))):=⟨HB3.out.1.trans (hb4.mono HB3.out.1.size),(hb4.block _ (blk_lt HB3.out.2.1)).trans HB3.out.2.1,(hb4.block _ (blk_lt HB3.out.2.2)).trans HB3.out.2.2⟩
      have HI3:=hdn <| hbi
      clear HC hb4 hbi
      cases b with
      | false=>
       have HNe:Hid (p ≠ q):=fun e=>absurd (HI3.out.2 (by rw [e])) (by decide)
       go_wp2
       go_ret
       exact ⟨⟨false,rfl,by simp [HNe.out]⟩,HB4.out.1⟩
      | true=>
       have HT3:=hdn <| HI3.out.1 rfl
       clear HI3
       obtain ⟨k0,k1,k2,k3,k4,k5,k6,k7⟩:=pol8 HB4.out.2.1
       obtain ⟨m0,m1,m2,m3,m4,m5,m6,m7⟩:=pol8 HB4.out.2.2
       go_wp2_with fail
       have HC:=hdn <| eqIntsG (ca:=uc) (cb:=uc2) (RdG.below H1.out HB4.out.1).u (RdG.below H2.out HB4.out.1).u HS1.out.u
       clear k0 k1 k2 k3 k4 k5 k6 k7 m0 m1 m2 m3 m4 m5 m6 m7
       refine Calls.mono HC.out ?_
       rintro e w5 ⟨⟨b,rfl,hbi⟩,hb5⟩
       have HB5:Hid (Below w.heap.size w w5/\w5.heap[w.heap.size]?=some (.cells #[.string p.name,.slice ao p.rows.length ac,.slice qo p.qs.length qc,.slice vo p.vs.length vc,.slice tto p.ts.length tc,.slice uo p.us.length uc,.slice oo p.on.length oc,.int .i64 p.miss] 28 (0,0))/\w5.heap[w.heap.size+1]?=some (.cells #[.string q.name,.slice ao2 q.rows.length ac2,.slice qo2 q.qs.length qc2,.slice vo2 q.vs.length vc2,.slice tto2 q.ts.length tc2,.slice uo2 q.us.length uc2,.slice oo2 q.on.length oc2,.int .i64 q.miss] 28 (0,0))):=⟨HB4.out.1.trans (hb5.mono HB4.out.1.size),(hb5.block _ (blk_lt HB4.out.2.1)).trans HB4.out.2.1,(hb5.block _ (blk_lt HB4.out.2.2)).trans HB4.out.2.2⟩
       have HI4:=hdn <| hbi
       clear HC hb5 hbi
       cases b with
       | false=>
        have HNe:Hid (p ≠ q):=fun e=>absurd (HI4.out.2 (by rw [e])) (by decide)
        go_wp2
        go_ret
        exact ⟨⟨false,rfl,by simp [HNe.out]⟩,HB5.out.1⟩
       | true=>
        have HT4:=hdn <| HI4.out.1 rfl
        clear HI4
        obtain ⟨k0,k1,k2,k3,k4,k5,k6,k7⟩:=pol8 HB5.out.2.1
        obtain ⟨m0,m1,m2,m3,m4,m5,m6,m7⟩:=pol8 HB5.out.2.2
        go_wp2_with fail
        have HC:=hdn <| eqIntsG (ca:=oc) (cb:=oc2) (RdG.below H1.out HB5.out.1).o (RdG.below H2.out HB5.out.1).o HS1.out.o
        clear k0 k1 k2 k3 k4 k5 k6 k7 m0 m1 m2 m3 m4 m5 m6 m7
        refine Calls.mono HC.out ?_
        rintro e w6 ⟨⟨b,rfl,hbi⟩,hb6⟩
        have HB6:Hid (Below w.heap.size w w6/\w6.heap[w.heap.size]?=some (.cells #[.string p.name,.slice ao p.rows.length ac,.slice qo p.qs.length qc,.slice vo p.vs.length vc,.slice tto p.ts.length tc,.slice uo p.us.length uc,.slice oo p.on.length oc,.int .i64 p.miss] 28 (0,0))/\w6.heap[w.heap.size+1]?=some (.cells #[.string q.name,.slice ao2 q.rows.length ac2,.slice qo2 q.qs.length qc2,.slice vo2 q.vs.length vc2,.slice tto2 q.ts.length tc2,.slice uo2 q.us.length uc2,.slice oo2 q.on.length oc2,.int .i64 q.miss] 28 (0,0))):=⟨HB5.out.1.trans (hb6.mono HB5.out.1.size),(hb6.block _ (blk_lt HB5.out.2.1)).trans HB5.out.2.1,(hb6.block _ (blk_lt HB5.out.2.2)).trans HB5.out.2.2⟩
        have HI5:=hdn <| hbi
        clear HC hb6 hbi
        cases b with
        | false=>
         have HNe:Hid (p ≠ q):=fun e=>absurd (HI5.out.2 (by rw [e])) (by decide)
         go_wp2
         go_ret
         exact ⟨⟨false,rfl,by simp [HNe.out]⟩,HB6.out.1⟩
        | true=>
         have HT5:=hdn <| HI5.out.1 rfl
         clear HI5
         go_wp2
         go_ret
         exact ⟨⟨true,rfl,by simp [Pg.ext8 HNm.out HMi.out HT0.out HT1.out HT2.out HT3.out HT4.out HT5.out]⟩,HB6.out.1⟩
  ·have hmb:(p.miss == q.miss)=false:=by simp [hmi]
   have HMi:Hid (p ≠ q):=fun e=>hmi (by rw [e])
   clear hmi
   go_enter Tryz.func37,Tryz.ntmps37
   go_wp2
   go_ret
   exact ⟨⟨false,rfl,by simp [HMi.out]⟩,HB0.out.1⟩
 ·have hnb:(p.name.toList == q.name.toList)=false:=by
   simp only [beq_eq_false_iff_ne]
   exact fun e=>hnm (bytes_of e)
  have HNm:Hid (p ≠ q):=fun e=>hnm (by rw [e])
  clear hnm
  go_enter Tryz.func37,Tryz.ntmps37
  go_wp2
  go_ret
  exact ⟨⟨false,rfl,by simp [HNm.out]⟩,HB0.out.1⟩
theorem Rd.gen {w:World} {p:Pl} {ao qo vo tto uo oo:Option Addr} (h:Rd w p ao qo vo tto uo oo):RdG w p.g ao qo vo tto uo oo:=⟨h.r,h.q,h.v,h.t,h.u,h.o⟩
theorem unnamed_nil (w:World):Calls Tryz.prog 36 #[.slice none 0 0] w fun e w'=>e=.returned (.slice none 0 0)/\w'=w:=by
 have HC:Hid (Calls Tryz.prog 47 #[.slice none 0 0] w fun r w'=>r=.returned (.slice none 0 0)/\w'=w):=by
  have hnil:∀ u:World,(binOp BinOp.eql 22 (.slice none 0 0) (.slice none 0 0)).run Tryz.prog u=.ok (.bool true) u:=fun _=>rfl
  go_enter Tryz.func47,Tryz.ntmps47
  go_wp2
  go_ret
  exact ⟨rfl,rfl⟩
 go_enter Tryz.func36,Tryz.ntmps36
 go_wp2_with fail
 refine Calls.mono HC.out ?_
 rintro e w1 ⟨rfl,rfl⟩
 go_wp2_with fail
 go_loopg [9] 0 (fun gq x wr=>gq=0/\x=.int .i64 0/\wr=w1)
 case atStart=>exact ⟨rfl,rfl,rfl⟩
 case round=>
  obtain ⟨_,rfl,rfl⟩:=hrel
  go_wp2
  go_ret
  exact ⟨rfl,rfl⟩
theorem ask_pos {i c:Nat} {s:Rs} {j:Nat} (h:ask j i s=.error c):0 < c:=by
 unfold ask at h
 split at h
 ·unfold askD at h
  repeat' split at h
  all_goals first | (cases h;done) | (cases h;decide)
 ·split at h
  ·unfold askM at h
   repeat' split at h
   all_goals first | (cases h;done) | (cases h;decide)
  ·unfold askH at h
   repeat' split at h
   all_goals first | (cases h;done) | (cases h;decide)
theorem askN_pos {i c:Nat} {s:Rs} (j:Nat) (h:askN i s j=.error c):0 < c:=by
 induction j with
 | zero=>cases h
 | succ j ih=>
  cases hj:askN i s j with
  | error c'=>
   simp only [askN,hj] at h
   cases h
   exact ih hj
  | ok t=>
   rw [askN_succ hj] at h
   exact ask_pos h
theorem upto_pos {s:Rs} {ci:Nat × Nat} (n:Nat) (h:upto s n=.error ci):0 < ci.1:=by
 induction n with
 | zero=>cases h
 | succ n ih=>
  simp only [upto] at h
  split at h
  ·rename_i e he
   cases h
   exact ih he
  ·split at h
   ·rename_i c hc
    cases h
    exact askN_pos 3 hc
   ·cases h
theorem res_pos {l:List Rz} {ci:Nat × Nat} (h:res l=.error ci):0 < ci.1:=by
 unfold res at h
 split at h
 ·rename_i hc
  cases h
  omega
 ·unfold resR at h
  split at h
  ·rename_i e he
   cases h
   exact upto_pos _ he
  ·split at h
   ·cases h
    exact (by decide:0 < 34)
   ·cases h
theorem upto_good {l:List Rz} (hB:Base l) (n:Nat) (hn:n<=l.length) {s:Rs} (h:upto (start l) n=.ok s):Good l n s:=by
 induction n generalizing s with
 | zero=>
  cases h
  exact good_start l
 | succ n ih=>
  simp only [upto] at h
  split at h
  ·cases h
  ·rename_i t ht
   have hg:=ih (by omega) ht
   split at h
   ·cases h
   ·rename_i t' h3
    cases h
    cases h1:askN n t 1 with
    | error c=>rw [askN_err h1 2] at h3;cases h3
    | ok t1=>
     cases h2:askN n t 2 with
     | error c=>rw [askN_err h2 1] at h3;cases h3
     | ok t2=>
      have a1:askD n t=.ok t1:=(askN_succ (j:=0) rfl).symm.trans h1
      have a2:askM n t1=.ok t2:=(askN_succ h1).symm.trans h2
      have a3:askH n t2=.ok s:=(askN_succ h2).symm.trans h3
      exact good_H (good_M (good_D hB (by omega) hg a1) a2) a3
theorem res_sm {l:List Rz} {p:Pl} (hl:l.length<=2932031007317) (h:res l=.ok p):p.g.Sm/\TreeZ p.rows/\p.us.length<=64/\p.rows.map clr=l.map clr/\∀ u ∈ p.us,u < p.rows.length:=by
 unfold res at h
 split at h
 ·cases h
 ·rename_i hc
  have hB:=base_of (chk_ok (by simpa using hc)).2
  unfold resR at h
  split at h
  ·cases h
  ·rename_i s hs
   have hg:=upto_good hB _ (Nat.le_refl _) hs
   have hll:=like_len hg.like
   split at h
   ·cases h
   ·cases h
    have:=hg.q
    have:=hg.v
    have:=hg.t
    have:=hg.u
    exact ⟨⟨by show s.rows.length<=_;omega,by show s.qs.length<=_;omega,by show s.vs.length<=_;omega,by show s.ts.length<=_;omega,by show (s.us.map _).length<=_;rw [List.length_map];omega,by show (onsOf _ _).length<=_;rw [onsOf_len];omega⟩,like_tree hg.like hB.tree,hg.u,hg.like,fun u hu=>by show u < s.rows.length;rw [hll];exact hg.ul u hu⟩
theorem unnamed_gen {w:World} {ao:Option Addr} {l:List Rz} {cap:Nat} (h:IsRz w ao l) (hl:l.length<=2932031007317) (hnil:ao=none->cap=0):
  Calls Tryz.prog 36 #[.slice ao l.length cap] w fun e w'=>∃ bo rc,e=.returned (.slice bo l.length rc)/\IsRz w' bo (l.map unn)/\Below w.heap.size w w':=by
 cases ao with
 | none=>
  have h0:l=[]:=by
   cases l with
   | nil=>rfl
   | cons x l=>
    obtain ⟨g,o,e,_⟩:=h 0 x rfl
    cases e
  subst h0
  rw [hnil rfl]
  refine Calls.mono (unnamed_nil w) ?_
  rintro e w' ⟨rfl,rfl⟩
  exact ⟨none,0,rfl,fun i x hx=>by simp at hx,Below.refl _ _⟩
 | some a=>
  refine Calls.mono (unnamed_any h hl) ?_
  rintro e w' ⟨rb,rc,rfl,hr,hb⟩
  exact ⟨some ⟨rb,0,none⟩,rc,rfl,hr.rz,hb⟩
theorem checkP_any {w:World} {p:Pg} {ao qo vo tto uo oo:Option Addr} {ac qc vc tc uc oc:Nat} (h:RdG w p ao qo vo tto uo oo) (hs:p.Sm) (hnil:ao=none->ac=0):
  Calls Tryz.prog 24 #[pvG p ao qo vo tto uo oo ac qc vc tc uc oc] w fun e w'=>((∃ p',res (p.rows.map unn)=.ok p'/\p'.g=p/\e=.returned (.int .i64 0))\/((¬ ∃ p',res (p.rows.map unn)=.ok p'/\p'.g=p)/\e=.returned (.int .i64 23)))/\Below w.heap.size w w':=by
 have hb0:Below w.heap.size w (w.alloc (.cells #[.string p.name,.slice ao p.rows.length ac,.slice qo p.qs.length qc,.slice vo p.vs.length vc,.slice tto p.ts.length tc,.slice uo p.us.length uc,.slice oo p.on.length oc,.int .i64 p.miss] 28)):=bAl w _
 have HB0:Hid (Below w.heap.size w (w.alloc (.cells #[.string p.name,.slice ao p.rows.length ac,.slice qo p.qs.length qc,.slice vo p.vs.length vc,.slice tto p.ts.length tc,.slice uo p.us.length uc,.slice oo p.on.length oc,.int .i64 p.miss] 28))/\(w.alloc (.cells #[.string p.name,.slice ao p.rows.length ac,.slice qo p.qs.length qc,.slice vo p.vs.length vc,.slice tto p.ts.length tc,.slice uo p.us.length uc,.slice oo p.on.length oc,.int .i64 p.miss] 28)).heap[w.heap.size]?=some (.cells #[.string p.name,.slice ao p.rows.length ac,.slice qo p.qs.length qc,.slice vo p.vs.length vc,.slice tto p.ts.length tc,.slice uo p.us.length uc,.slice oo p.on.length oc,.int .i64 p.miss] 28 (0,0))):=⟨hb0,heap_alloc_new w _⟩
 have HU:=hdn <| unnamed_gen (cap:=ac) (h.r.below hb0) hs.r hnil
 have H:=hdn <| h
 have HS:=hdn <| hs
 obtain ⟨k0,k1,k2,k3,k4,k5,k6,k7⟩:=pol8 HB0.out.2
 clear h hs hb0 hnil
 unfold pvG
 go_enter Tryz.func24,Tryz.ntmps24
 go_wp2_with fail
 refine Calls.mono HU.out ?_
 rintro e w1 ⟨bo,rc,rfl,hrw,hb1⟩
 have HB1:Hid (Below w.heap.size w w1/\w1.heap[w.heap.size]?=some (.cells #[.string p.name,.slice ao p.rows.length ac,.slice qo p.qs.length qc,.slice vo p.vs.length vc,.slice tto p.ts.length tc,.slice uo p.us.length uc,.slice oo p.on.length oc,.int .i64 p.miss] 28 (0,0))):=⟨HB0.out.1.trans (hb1.mono HB0.out.1.size),(hb1.block _ (blk_lt HB0.out.2)).trans HB0.out.2⟩
 have hlm:(p.rows.map unn).length<=2932031007317:=by rw [List.length_map];exact HS.out.r
 have HRs:=hdn <| resolve_any (cap:=rc) hrw hlm
 rw [List.length_map] at HRs
 have HPos:Hid (∀ ci,res (p.rows.map unn)=.error ci->0 < ci.1):=fun ci h=>res_pos h
 have HSm2:Hid (∀ p',res (p.rows.map unn)=.ok p'->p'.g.Sm):=fun p' h=>(res_sm hlm h).1
 clear hrw hb1 HU hlm k0 k1 k2 k3 k4 k5 k6 k7
 cases hRe:res (p.rows.map unn) with
 | error ci=>
  rw [hRe] at HRs
  have HRe:=hdn <| hRe
  have hpos:=HPos.out ci hRe
  clear hRe
  obtain ⟨c1,c2⟩:=ci
  dsimp only at hpos
  have hc0:((c1:Int) != 0)=true:=by simp;omega
  clear hpos HPos HSm2
  go_wp2_with fail
  refine Calls.mono HRs.out ?_
  rintro e w2 ⟨hb2,rfl⟩
  have hx3:((w2.alloc (.cells #[.string ⟨#[]⟩,pz,pz,pz,pz,pz,pz,.int .i64 0] 28)).alloc (.cells #[.int .i64 (c1:Int),.int .i64 (c2:Int)] 31)).heap[w2.heap.size+1]?=some (.cells #[.int .i64 (c1:Int),.int .i64 (c2:Int)] 31 (0,0)):=alloc_at _ _ _ (by simp)
  have f0:((w2.alloc (.cells #[.string ⟨#[]⟩,pz,pz,pz,pz,pz,pz,.int .i64 0] 28)).alloc (.cells #[.int .i64 (c1:Int),.int .i64 (c2:Int)] 31)).cell? ⟨w2.heap.size+1,0,none⟩=some (.int .i64 (c1:Int)):=by rw [World.cell?,hx3];rfl
  have HB3:Hid (Below w.heap.size w ((w2.alloc (.cells #[.string ⟨#[]⟩,pz,pz,pz,pz,pz,pz,.int .i64 0] 28)).alloc (.cells #[.int .i64 (c1:Int),.int .i64 (c2:Int)] 31))):=HB1.out.1.trans ((hb2.trans ((bAl w2 _).alloc (by simp) _ |>.mono hb2.size)).mono HB1.out.1.size)
  clear hb2 hx3 HRs
  go_wp2
  go_ret
  exact ⟨Or.inr ⟨fun ⟨p',h,_⟩=>(by rw [HRe.out] at h;cases h),rfl⟩,HB3.out⟩
 | ok p'=>
  rw [hRe] at HRs
  have HRe:=hdn <| hRe
  have HSp:=hdn <| HSm2.out p' hRe
  clear hRe
  clear HPos HSm2
  go_wp2_with fail
  refine Calls.mono HRs.out ?_
  rintro e w2 ⟨hb2,v,rfl,hpl⟩
  obtain ⟨rb2,qo2,vo2,tto2,uo2,oo2,ac2,qc2,vc2,tc2,uc2,oc2,rfl,_,hrd,_,_⟩:=hpl.rd
  have hul:p'.us.length=p'.g.us.length:=by simp [Pl.g]
  dsimp only [pv]
  rw [hul]
  have hb3:Below w2.heap.size w2 ((w2.alloc (.cells #[.string p'.name,.slice (some ⟨rb2,0,none⟩) p'.rows.length ac2,.slice qo2 p'.qs.length qc2,.slice vo2 p'.vs.length vc2,.slice tto2 p'.ts.length tc2,.slice uo2 p'.g.us.length uc2,.slice oo2 p'.on.length oc2,.int .i64 p'.miss] 28)).alloc (.cells #[.int .i64 0,.int .i64 0] 31)):=(bAl w2 _).alloc (by simp) _
  have HB3:Hid (Below w.heap.size w ((w2.alloc (.cells #[.string p'.name,.slice (some ⟨rb2,0,none⟩) p'.rows.length ac2,.slice qo2 p'.qs.length qc2,.slice vo2 p'.vs.length vc2,.slice tto2 p'.ts.length tc2,.slice uo2 p'.g.us.length uc2,.slice oo2 p'.on.length oc2,.int .i64 p'.miss] 28)).alloc (.cells #[.int .i64 0,.int .i64 0] 31))/\RdG ((w2.alloc (.cells #[.string p'.name,.slice (some ⟨rb2,0,none⟩) p'.rows.length ac2,.slice qo2 p'.qs.length qc2,.slice vo2 p'.vs.length vc2,.slice tto2 p'.ts.length tc2,.slice uo2 p'.g.us.length uc2,.slice oo2 p'.on.length oc2,.int .i64 p'.miss] 28)).alloc (.cells #[.int .i64 0,.int .i64 0] 31)) p'.g (some ⟨rb2,0,none⟩) qo2 vo2 tto2 uo2 oo2):=⟨HB1.out.1.trans ((hb2.trans (hb3.mono hb2.size)).mono HB1.out.1.size),(hrd.below hb3).gen⟩
  have hx1:((w2.alloc (.cells #[.string p'.name,.slice (some ⟨rb2,0,none⟩) p'.rows.length ac2,.slice qo2 p'.qs.length qc2,.slice vo2 p'.vs.length vc2,.slice tto2 p'.ts.length tc2,.slice uo2 p'.g.us.length uc2,.slice oo2 p'.on.length oc2,.int .i64 p'.miss] 28)).alloc (.cells #[.int .i64 0,.int .i64 0] 31)).heap[w.heap.size]?=some (.cells #[.string p.name,.slice ao p.rows.length ac,.slice qo p.qs.length qc,.slice vo p.vs.length vc,.slice tto p.ts.length tc,.slice uo p.us.length uc,.slice oo p.on.length oc,.int .i64 p.miss] 28 (0,0)):=((hb2.trans (hb3.mono hb2.size)).block _ (blk_lt HB1.out.2)).trans HB1.out.2
  have hx2:((w2.alloc (.cells #[.string p'.name,.slice (some ⟨rb2,0,none⟩) p'.rows.length ac2,.slice qo2 p'.qs.length qc2,.slice vo2 p'.vs.length vc2,.slice tto2 p'.ts.length tc2,.slice uo2 p'.g.us.length uc2,.slice oo2 p'.on.length oc2,.int .i64 p'.miss] 28)).alloc (.cells #[.int .i64 0,.int .i64 0] 31)).heap[w2.heap.size]?=some (.cells #[.string p'.name,.slice (some ⟨rb2,0,none⟩) p'.rows.length ac2,.slice qo2 p'.qs.length qc2,.slice vo2 p'.vs.length vc2,.slice tto2 p'.ts.length tc2,.slice uo2 p'.g.us.length uc2,.slice oo2 p'.on.length oc2,.int .i64 p'.miss] 28 (0,0)):=by rw [alloc_old _ _ _ (by simp)];exact alloc_at _ _ _ rfl
  have hx3:((w2.alloc (.cells #[.string p'.name,.slice (some ⟨rb2,0,none⟩) p'.rows.length ac2,.slice qo2 p'.qs.length qc2,.slice vo2 p'.vs.length vc2,.slice tto2 p'.ts.length tc2,.slice uo2 p'.g.us.length uc2,.slice oo2 p'.on.length oc2,.int .i64 p'.miss] 28)).alloc (.cells #[.int .i64 0,.int .i64 0] 31)).heap[w2.heap.size+1]?=some (.cells #[.int .i64 0,.int .i64 0] 31 (0,0)):=alloc_at _ _ _ (by simp)
  obtain ⟨k0,k1,k2,k3,k4,k5,k6,k7⟩:=pol8 hx1
  obtain ⟨m0,m1,m2,m3,m4,m5,m6,m7⟩:=pol8 hx2
  have f0:((w2.alloc (.cells #[.string p'.name,.slice (some ⟨rb2,0,none⟩) p'.rows.length ac2,.slice qo2 p'.qs.length qc2,.slice vo2 p'.vs.length vc2,.slice tto2 p'.ts.length tc2,.slice uo2 p'.g.us.length uc2,.slice oo2 p'.on.length oc2,.int .i64 p'.miss] 28)).alloc (.cells #[.int .i64 0,.int .i64 0] 31)).cell? ⟨w2.heap.size+1,0,none⟩=some (.int .i64 0):=by rw [World.cell?,hx3];rfl
  have HSm:Hid (Calls Tryz.prog 37 #[.agg #[.string p'.name,.slice (some ⟨rb2,0,none⟩) p'.rows.length ac2,.slice qo2 p'.qs.length qc2,.slice vo2 p'.vs.length vc2,.slice tto2 p'.ts.length tc2,.slice uo2 p'.g.us.length uc2,.slice oo2 p'.on.length oc2,.int .i64 p'.miss],.agg #[.string p.name,.slice ao p.rows.length ac,.slice qo p.qs.length qc,.slice vo p.vs.length vc,.slice tto p.ts.length tc,.slice uo p.us.length uc,.slice oo p.on.length oc,.int .i64 p.miss]] ((w2.alloc (.cells #[.string p'.name,.slice (some ⟨rb2,0,none⟩) p'.rows.length ac2,.slice qo2 p'.qs.length qc2,.slice vo2 p'.vs.length vc2,.slice tto2 p'.ts.length tc2,.slice uo2 p'.g.us.length uc2,.slice oo2 p'.on.length oc2,.int .i64 p'.miss] 28)).alloc (.cells #[.int .i64 0,.int .i64 0] 31)) fun e w'=>(∃ b,e=.returned (.bool b)/\(b=true ↔ p'.g=p))/\Below ((w2.alloc (.cells #[.string p'.name,.slice (some ⟨rb2,0,none⟩) p'.rows.length ac2,.slice qo2 p'.qs.length qc2,.slice vo2 p'.vs.length vc2,.slice tto2 p'.ts.length tc2,.slice uo2 p'.g.us.length uc2,.slice oo2 p'.on.length oc2,.int .i64 p'.miss] 28)).alloc (.cells #[.int .i64 0,.int .i64 0] 31)).heap.size ((w2.alloc (.cells #[.string p'.name,.slice (some ⟨rb2,0,none⟩) p'.rows.length ac2,.slice qo2 p'.qs.length qc2,.slice vo2 p'.vs.length vc2,.slice tto2 p'.ts.length tc2,.slice uo2 p'.g.us.length uc2,.slice oo2 p'.on.length oc2,.int .i64 p'.miss] 28)).alloc (.cells #[.int .i64 0,.int .i64 0] 31)) w'):=same_any (p:=p'.g) (q:=p) HB3.out.2 (RdG.below H.out HB3.out.1) HSp.out
  clear hb2 hb3 hpl hrd hx1 hx2 hx3 HRs hul
  go_wp2_with fail
  refine Calls.mono HSm.out ?_
  rintro e w5 ⟨⟨b,rfl,hbi⟩,hb5⟩
  have HB5:Hid (Below w.heap.size w w5):=HB3.out.1.trans (hb5.mono HB3.out.1.size)
  have HI:=hdn <| hbi
  clear hb5 hbi HSm k0 k1 k2 k3 k4 k5 k6 k7 m0 m1 m2 m3 m4 m5 m6 m7
  cases b with
  | true=>
   have HT:=hdn <| HI.out.1 rfl
   clear HI
   go_wp2
   go_ret
   exact ⟨Or.inl ⟨p',HRe.out,HT.out,rfl⟩,HB5.out⟩
  | false=>
   have HT:Hid (p'.g ≠ p):=fun e=>absurd (HI.out.2 e) (by decide)
   clear HI
   go_wp2
   go_ret
   exact ⟨Or.inr ⟨fun ⟨p2,h,e⟩=>(by rw [HRe.out] at h;cases h;exact HT.out e),rfl⟩,HB5.out⟩
end Go.Proofs.YtfgpbdieaflclaaGreat.Nm
