import Derived.RangeFuncNested
import Derived.RangeFuncBound
import Derived.RangeFuncCalls
import Derived.RangeFuncBox
import Derived.RangeFuncLeaves
import Derived.Shelf.Abstract
import Derived.Shelf.RegionOpen
import Derived.OwnWalkIn
import Derived.TacticsInMore
import Derived.LoopNIn
import Derived.LoopIn
import Derived.Test.YtbledbjcghaanaaGreatK23
import Derived.Test.YtbledbjcghaanaaGreatTk
import Derived.OrdersIn
import Derived.OrdersHeld
import Derived.TacticsIn
set_option maxHeartbeats 12800000
set_option maxRecDepth 100000
namespace Go.Proofs.YtbledbjcghaanaaGreat.Nm.Ty
open Go.RowKit Go.Shelf Sp Lx Gr
attribute [local go_sem] Oper.semAt_some
theorem pback_in (F:Fence) (n:Nat) (h8:F.fn 112) (hro:F.round=none) (hn:1<=n) (l Bs b bo cap:Nat) (f:Nat->Value) (N:Nat) (hreach:N<=2932031007317) (J Jx:List Nat->World->Prop)
  (hY:∀ pre x W,J pre W->pre.length < N->YieldAt F (n - 1) Tryz.prog l #[.int .i64 ((x % N:Nat):Int),f (x % N)] W fun e W'=>
   (e=.returned (.bool true)/\J (pre++[x]) W'/\Kq [Bs,b] W W')\/(e=.returned (.bool false)/\Jx (pre++[x]) W'))
  (W:World) (hBs:W.cell? ⟨Bs,0,none⟩=some (.slice (some ⟨b,bo,none⟩) N cap)) (hc:IsVals W (some ⟨b,bo,none⟩) (fL N f)) (h0:J [] W):
  CallsIn F n Tryz.prog 112 #[.func (.yield l) #[] #[],.pointer (some ⟨Bs,0,none⟩)] W fun e W'=>(∃ v,e=.returned v) /\
   ((∃ ys,ys=dnto N N/\J ys W')\/(∃ pre,(∃ k,k<=N/\pre=dnto N k)/\Jx pre W')):=by
 have hrc:(N:Int)<=2932031007317:=by omega
 refine callsIn_of_wp Tryz.func112 rfl h8 ?_ hro
 simp only [Tryz.ntmps112,List.size_toArray,List.length_cons,List.length_nil,Nat.reduceAdd,Nat.reduceSub,Array.replicate_succ,Array.replicate_zero,List.push_toArray,List.append_toArray,List.nil_append,List.cons_append]
 gi_wp2
 gi_loopw [3] (fun i wr=>∃ k:Nat,k<=N/\i=.int .i64 ((N:Int) - 1 - k)/\J (dnto N k) wr/\Kq [Bs,b] W wr)
  (fun i _=>(intOf i+1).toNat)
 case atStart=>exact ⟨0,Nat.zero_le _,by simp,h0,Kq.refl _ _⟩
 case round=>
  obtain ⟨k,hk,rfl,hJs,hnx⟩:=hrel
  have hcs:wr.cell? ⟨Bs,0,none⟩=some (.slice (some ⟨b,bo,none⟩) N cap):=(World.cell?_of_block (a:=⟨Bs,0,none⟩) (hnx.2 Bs (by simp))).trans hBs
  by_cases hlt:k < N
  ·obtain ⟨pk,hpk⟩:∃ pk,pk=N - 1 - k:=⟨_,rfl⟩
   have hi:(N:Int) - 1 - (k:Int)=(pk:Int):=by omega
   rw [hi]
   have hpl:pk < N:=by omega
   have hpl':(pk:Int) < (N:Int):=by omega
   have hJn:dnto N (k+1)=dnto N k++[pk]:=by rw [dnto_succ,<-hpk]
   obtain ⟨fn,tmps,assign,body,hy,hR⟩:=hY _ pk wr hJs (by rw [dnto_length];exact hlt)
   rw [Nat.mod_eq_of_lt hpl] at hy
   obtain ⟨g,o,e,_,c0⟩:=hc pk _ (fL_at hpl)
   cases e
   have d0:wr.cell? ⟨b,bo+pk,none⟩=some (f pk):=(World.cell?_of_block (a:=⟨b,bo+pk,none⟩) (hnx.2 b (by simp))).trans c0
   clear c0 hpk
   generalize f pk=r at *
   gi_wp2
   refine hR.mono ?_
   rintro e W3 (⟨rfl,hJ3,hk3⟩ | ⟨rfl,hJx3⟩)
   ·gi_wp2
    go_roundw
    case rel=>exact ⟨k+1,by omega,by simp;omega,by rw [hJn];exact hJ3,hnx.trans hk3⟩
    case measure=>simp [intOf]
   ·gi_wp2
    refine bodyPost_ret (results_none rfl _ _ _) rfl ?_
    exact ⟨⟨_,rfl⟩,.inr ⟨_,⟨k+1,by omega,hJn.symm⟩,hJx3⟩⟩
  ·have hkN:k=N:=by omega
   have hi:(N:Int) - 1 - (k:Int)=-1:=by omega
   rw [hi]
   rw [hkN] at hJs
   gi_wp2
   go_end0
   exact ⟨⟨_,rfl⟩,.inl ⟨_,rfl,hJs⟩⟩
theorem pbackward_any (a:Option Addr) (len cap:Nat) (w:World):
  Calls Tryz.prog 72 #[.slice a len cap] w fun e w'=>e=.returned (.func (.func 112) #[] #[.pointer (some ⟨w.heap.size,0,none⟩)])/\w'=w.alloc (.cells #[.slice a len cap] 63):=by
 have hmf:∀ (fn:Fn) (first cap:Array Value) (w:World),(Instr.makeFunc fn first cap).run Tryz.prog w=.ok (.func fn first cap) w:=fun _ _ _ _=>rfl
 go_enter Tryz.func72,Tryz.ntmps72
 go_wp2
 go_ret
 exact ⟨rfl,rfl⟩
theorem pback_stops (F:Fence) (n:Nat) (h8:F.fn 112) (hro:F.round=none) (hn:1<=n) (Bs b bo cap:Nat) (f:Nat->Value) (N:Nat) (hreach:N<=2932031007317) (w:World) (hBs:Bs < w.heap.size)
  (hc:w.cell? ⟨Bs,0,none⟩=some (.slice (some ⟨b,bo,none⟩) N cap)) (hI:IsVals w (some ⟨b,bo,none⟩) (fL N f)):
  SeqStopsK F n Tryz.prog 112 #[.pointer (some ⟨Bs,0,none⟩)] (fun x:Nat=>#[Value.int .i64 ((x % N:Nat):Int),f (x % N)]) (Kq [Bs,b]) (fun ys=>ys=dnto N N)
   (fun pre=>∃ k,k<=N/\pre=dnto N k) N w:=fun l J Jx W hW _ _ hY h0=>
 pback_in F n h8 hro hn l Bs b bo cap f N hreach J Jx hY W ((hW.cell (p:=⟨Bs,0,none⟩) hBs).trans hc) (IsVals.below hI hW) h0
end Go.Proofs.YtbledbjcghaanaaGreat.Nm.Ty
namespace Go.Proofs.YtbledbjcghaanaaGreat.Nm.Ty
open Go.RowKit Go.Maps Sp Lx Gr
theorem tdiv_in {a b:Int} (ha:-9223372036854775808<=a/\a<=9223372036854775807) (h0:b ≠ 0) (h1:b ≠ -1):(-9223372036854775808<=a.tdiv b/\a.tdiv b<=9223372036854775807)/\(a.tmod b ≠ 0->-9223372036854775807<=a.tdiv b):=by
 have h2:=Int.natAbs_tdiv a b
 have h3:(a.tdiv b).natAbs * b.natAbs<=a.natAbs:=by rw [h2];exact Nat.div_mul_le_self _ _
 by_cases h4:b=1
 ·subst h4
  rw [Int.tdiv_one,Int.tmod_one]
  exact ⟨ha,fun h=>absurd rfl h⟩
 ·have h5:2<=b.natAbs:=by omega
  have h6:(a.tdiv b).natAbs * 2<=a.natAbs:=Nat.le_trans (Nat.mul_le_mul_left _ h5) h3
  generalize a.tdiv b=q at *
  exact ⟨by omega,fun _=>by omega⟩
theorem clamp_in (n:Int):-1073741824<=clampZ n/\clampZ n<=1073741824:=by unfold clampZ;omega
theorem tmod_in {a b:Int} (ha:-9223372036854775808<=a/\a<=9223372036854775807):-9223372036854775808<=a.tmod b/\a.tmod b<=9223372036854775807:=by
 have h2:(a.tmod b).natAbs<=a.natAbs:=by rw [Int.natAbs_tmod];exact Nat.mod_le _ _
 by_cases h0:0<=a
 ·have h3:=Int.tmod_nonneg b h0
  generalize a.tmod b=r at *
  omega
 ·have h3:=Int.tmod_nonneg b (show 0<=-a by omega)
  rw [Int.neg_tmod] at h3
  generalize a.tmod b=r at *
  omega
theorem div_any {a b:Int} (ha:-9223372036854775808<=a/\a<=9223372036854775807) (w:World):Calls Tryz.prog 21 #[.int .i64 a,.int .i64 b] w fun e w'=>e=.returned (.int .i64 (divZ a b))/\w'=w:=by
 have HC:=hdn <| clamp_any
 have HD:Hid (divZ a b=if b=0 then 0 else if b=-1 then -clampZ a else clampZ (a.tdiv b - if a.tmod b ≠ 0/\¬ ((a.tmod b < 0) ↔ (b < 0)) then 1 else 0)):=rfl
 by_cases h0:b=0
 ·have HR:Hid (divZ a b=0):=by show _=_;rw [HD.out,if_pos h0]
  subst h0
  go_enter Tryz.func21,Tryz.ntmps21
  go_wp2
  go_ret
  rw [HR.out]
  exact ⟨rfl,rfl⟩
 ·by_cases h1:b=-1
  ·have HR:Hid (divZ a b=-clampZ a):=by show _=_;rw [HD.out,if_neg h0,if_pos h1]
   have hcl:=clamp_in a
   subst h1
   clear HD
   generalize hz:clampZ a=z at *
   have HCa:=hdn <| HC.out a w
   rw [hz] at HCa
   clear hz
   go_enter Tryz.func21,Tryz.ntmps21
   go_wp2_with fail
   refine Calls.mono HCa.out ?_
   rintro e w1 ⟨rfl,hw⟩
   rw [hw]
   clear hw
   go_wp2
   go_ret
   rw [HR.out]
   exact ⟨rfl,rfl⟩
  ·obtain ⟨hq,hq2⟩:=tdiv_in ha h0 h1
   have hr:=tmod_in (b:=b) ha
   have HR:Hid (divZ a b=clampZ (a.tdiv b - if a.tmod b ≠ 0/\¬ ((a.tmod b < 0) ↔ (b < 0)) then 1 else 0)):=by show _=_;rw [HD.out,if_neg h0,if_neg h1]
   have q0:(b == 0)=false:=beq_false_of_ne h0
   have q1:(b == -1)=false:=beq_false_of_ne h1
   have hwq:IntKind.i64.wrap (a.tdiv b)=a.tdiv b:=by rw [IntKind.wrap_i64];generalize a.tdiv b=q at *;omega
   have hwr:IntKind.i64.wrap (a.tmod b)=a.tmod b:=by rw [IntKind.wrap_i64];generalize a.tmod b=r at *;omega
   clear HD
   by_cases hr0:a.tmod b=0
   ·have HR2:Hid (divZ a b=clampZ (a.tdiv b)):=by show _=_;rw [HR.out,if_neg (fun h=>h.1 hr0),Int.sub_zero]
    have hn:(a.tmod b != 0)=false:=by simp [hr0]
    clear hr0 hq2
    go_enter Tryz.func21,Tryz.ntmps21
    go_wp2_with fail
    refine Calls.mono (HC.out _ _) ?_
    rintro e w1 ⟨rfl,hw⟩
    rw [hw]
    clear hw
    go_wp2
    go_ret
    rw [HR2.out]
    exact ⟨rfl,rfl⟩
   ·have hn:(a.tmod b != 0)=true:=by simp [hr0]
    have hq3:=hq2 hr0
    have hw1:IntKind.i64.wrap (a.tdiv b - 1)=a.tdiv b - 1:=by rw [IntKind.wrap_i64];generalize a.tdiv b=q at *;omega
    by_cases hs:a.tmod b < 0
    rotate_right
    focus
     have hs':decide (a.tmod b < 0)=false:=decide_eq_false hs
     by_cases hb:b < 0
     rotate_right
     focus
      have hb':decide (b < 0)=false:=decide_eq_false hb
      have HR2:Hid (divZ a b=clampZ (a.tdiv b)):=by show _=_;rw [HR.out,if_neg (fun h=>h.2 ⟨fun h=>absurd h hs,fun h=>absurd h hb⟩),Int.sub_zero]
     rotate_right
     focus
      have hb':decide (b < 0)=true:=decide_eq_true hb
      have HR2:Hid (divZ a b=clampZ (a.tdiv b - 1)):=by show _=_;rw [HR.out,if_pos ⟨hr0,fun h=>hs (h.2 hb)⟩]
    rotate_right
    focus
     have hs':decide (a.tmod b < 0)=true:=decide_eq_true hs
     by_cases hb:b < 0
     rotate_right
     focus
      have hb':decide (b < 0)=false:=decide_eq_false hb
      have HR2:Hid (divZ a b=clampZ (a.tdiv b - 1)):=by show _=_;rw [HR.out,if_pos ⟨hr0,fun h=>hb (h.1 hs)⟩]
     rotate_right
     focus
      have hb':decide (b < 0)=true:=decide_eq_true hb
      have HR2:Hid (divZ a b=clampZ (a.tdiv b)):=by show _=_;rw [HR.out,if_neg (fun h=>h.2 ⟨fun _=>hb,fun _=>hs⟩),Int.sub_zero]
    all_goals
     all_goals
      go_enter Tryz.func21,Tryz.ntmps21
      go_wp2_with fail
      refine Calls.mono (HC.out _ _) ?_
      rintro e w1 ⟨rfl,hw⟩
      rw [hw]
      clear hw
      go_wp2
      go_ret
      rw [HR2.out]
      exact ⟨rfl,rfl⟩
def Prt.cm (x:Prt) (size:Int) (cq:Nat->Int) (a b:Int):Int:=match x with
 | .wri _ n=>n
 | .cpy q=>cq q.toNat
 | .siz=>size
 | .rck k=>if k=39 then min a b else if k=40 then max a b else if k=41 then clampZ (wrap64 (-a)) else if k=43 then clampZ (wrap64 (a * b)) else if k=44 then divZ a b else if k=45 then clampZ (wrap64 (a+b)) else clampZ (wrap64 (a - b))
 | .cmp k=>if k=49 then oneZ (decide (a < b)) else if k=50 then oneZ (decide (a<=b)) else if k=51 then oneZ (decide (b < a)) else oneZ (decide (b<=a))
 | .joi k=>if k=42 then wrap64 (1 - a) else if k=53 then bits .and .i64 a b else bits .or .i64 a b
 | .lik k=>oneZ ((a == b) == (k == 47))
 | _=>0
theorem comes_any (x:Prt) {size:Int} {cq:Nat->Int} {co:Option Addr} {nc cc:Nat} {a b:Int} (ha:-9223372036854775808<=a/\a<=9223372036854775807) {w:World} (hc:IsVals w co (fL nc (fun i=>.int .i64 (cq i)))) (hn:nc<=17592186043904) (hx:∀ q,x=.cpy q->∃ n:Nat,q=(n:Int)/\n < nc):Calls Tryz.prog x.coF #[x.D,.agg #[.int .i64 size,.slice co nc cc],.int .i64 a,.int .i64 b] w fun e w'=>e=.returned (.int .i64 (x.cm size cq a b))/\Below w.heap.size w w':=by
 have hnl:(nc:Int)<=17592186043904:=by omega
 cases x with
 | dng u v t=>
  have HB:Hid (Below w.heap.size w ((w.alloc (.cells #[.int .i64 u,.int .i64 v,.int .i64 t] 150)).alloc (.cells #[.int .i64 size,.slice co nc cc] 39))):=(bAl w _).alloc (by simp) _
  clear hc hx
  show Calls Tryz.prog 200 #[.agg #[.int .i64 u,.int .i64 v,.int .i64 t],_,_,_] w _
  go_enter Tryz.func200,Tryz.ntmps200
  go_wp2
  go_ret
  exact ⟨rfl,HB.out⟩
 | wri t n=>
  have HB:Hid (Below w.heap.size w ((w.alloc (.cells #[.int .i64 t,.int .i64 n] 135)).alloc (.cells #[.int .i64 size,.slice co nc cc] 39))):=(bAl w _).alloc (by simp) _
  clear hc hx
  show Calls Tryz.prog 183 #[.agg #[.int .i64 t,.int .i64 n],_,_,_] w _
  go_enter Tryz.func183,Tryz.ntmps183
  go_wp2
  go_ret
  exact ⟨rfl,HB.out⟩
 | siz  =>
  have HB:Hid (Below w.heap.size w ((w.alloc (.cells #[] 139)).alloc (.cells #[.int .i64 size,.slice co nc cc] 39))):=(bAl w _).alloc (by simp) _
  clear hc hx
  show Calls Tryz.prog 187 #[.agg #[],_,_,_] w _
  go_enter Tryz.func187,Tryz.ntmps187
  go_wp2
  go_ret
  exact ⟨rfl,HB.out⟩
 | chg t=>
  have HB:Hid (Below w.heap.size w ((w.alloc (.cells #[.int .i64 t] 141)).alloc (.cells #[.int .i64 size,.slice co nc cc] 39))):=(bAl w _).alloc (by simp) _
  clear hc hx
  show Calls Tryz.prog 189 #[.agg #[.int .i64 t],_,_,_] w _
  go_enter Tryz.func189,Tryz.ntmps189
  go_wp2
  go_ret
  exact ⟨rfl,HB.out⟩
 | cpy q=>
  obtain ⟨n,rfl,hq⟩:=hx q rfl
  obtain ⟨g,o,rfl,hg,c0⟩:=hc n _ (fL_at hq)
  have hb:Below w.heap.size w ((w.alloc (.cells #[.int .i64 (n:Int)] 137)).alloc (.cells #[.int .i64 size,.slice (some ⟨g,o,none⟩) nc cc] 39)):=(bAl w _).alloc (by simp) _
  have c1:=(hb.cell (p:=⟨g,o+n,none⟩) hg).trans c0
  have HB:=hdn <| hb
  have hq':(n:Int) < (nc:Int):=by omega
  have HR:Hid ((Prt.cpy (n:Int)).cm size cq a b=cq n):=rfl
  clear hb hx hc c0
  generalize cq n=y at *
  show Calls Tryz.prog 185 #[.agg #[.int .i64 (n:Int)],_,_,_] w _
  go_enter Tryz.func185,Tryz.ntmps185
  go_wp2
  go_ret
  rw [HR.out]
  exact ⟨rfl,HB.out⟩
 | rck k=>
  have HB:Hid (Below w.heap.size w ((w.alloc (.cells #[.int .i64 k] 143)).alloc (.cells #[.int .i64 size,.slice co nc cc] 39))):=(bAl w _).alloc (by simp) _
  clear hc hx
  show Calls Tryz.prog 191 #[.agg #[.int .i64 k],_,_,_] w _
  have HC:=hdn <| clamp_any
  have HD:=hdn <| div_any (b:=b) ha
  by_cases h39:k=39
  ·subst h39
   go_enter Tryz.func191,Tryz.ntmps191
   go_wp2
   go_ret
   exact ⟨rfl,HB.out⟩
  ·have q39:(k == 39)=false:=beq_false_of_ne h39
   by_cases h40:k=40
   ·subst h40
    go_enter Tryz.func191,Tryz.ntmps191
    go_wp2
    go_ret
    exact ⟨rfl,HB.out⟩
   ·have q40:(k == 40)=false:=beq_false_of_ne h40
    by_cases h41:k=41
    ·subst h41
     have HR:Hid (clampZ (0)=clampZ (0)):=rfl
     go_enter Tryz.func191,Tryz.ntmps191
     go_wp2_with fail
     refine Calls.mono (HC.out _ _) ?_
     rintro e w1 ⟨rfl,hw⟩
     rw [hw]
     clear hw
     go_wp2
     go_ret
     exact ⟨rfl,HB.out⟩
    ·have q41:(k == 41)=false:=beq_false_of_ne h41
     by_cases h43:k=43
     ·subst h43
      have HR:Hid (clampZ (0)=clampZ (0)):=rfl
      go_enter Tryz.func191,Tryz.ntmps191
      go_wp2_with fail
      refine Calls.mono (HC.out _ _) ?_
      rintro e w1 ⟨rfl,hw⟩
      rw [hw]
      clear hw
      go_wp2
      go_ret
      exact ⟨rfl,HB.out⟩
     ·have q43:(k == 43)=false:=beq_false_of_ne h43
      by_cases h44:k=44
      ·subst h44
       go_enter Tryz.func191,Tryz.ntmps191
       go_wp2_with fail
       refine Calls.mono (HD.out _) ?_
       rintro e w1 ⟨rfl,hw⟩
       rw [hw]
       clear hw
       go_wp2
       go_ret
       exact ⟨rfl,HB.out⟩
      ·have q44:(k == 44)=false:=beq_false_of_ne h44
       by_cases h45:k=45
       ·subst h45
        have HR:Hid (clampZ (0)=clampZ (0)):=rfl
        go_enter Tryz.func191,Tryz.ntmps191
        go_wp2_with fail
        refine Calls.mono (HC.out _ _) ?_
        rintro e w1 ⟨rfl,hw⟩
        rw [hw]
        clear hw
        go_wp2
        go_ret
        exact ⟨rfl,HB.out⟩
       ·have q45:(k == 45)=false:=beq_false_of_ne h45
        have HR:Hid ((Prt.rck k).cm size cq a b=clampZ (wrap64 (a - b))):=by
         show (if k=39 then min a b else if k=40 then max a b else if k=41 then clampZ (wrap64 (-a)) else if k=43 then clampZ (wrap64 (a * b)) else if k=44 then divZ a b else if k=45 then clampZ (wrap64 (a+b)) else clampZ (wrap64 (a - b)))=_
         rw [if_neg h39,if_neg h40,if_neg h41,if_neg h43,if_neg h44,if_neg h45]
        go_enter Tryz.func191,Tryz.ntmps191
        go_wp2_with fail
        refine Calls.mono (HC.out _ _) ?_
        rintro e w1 ⟨rfl,hw⟩
        rw [hw]
        clear hw
        go_wp2
        go_ret
        rw [HR.out]
        exact ⟨rfl,HB.out⟩
 | cmp k=>
  have HB:Hid (Below w.heap.size w ((w.alloc (.cells #[.int .i64 k] 144)).alloc (.cells #[.int .i64 size,.slice co nc cc] 39))):=(bAl w _).alloc (by simp) _
  clear hc hx
  show Calls Tryz.prog 193 #[.agg #[.int .i64 k],_,_,_] w _
  have HC:=hdn <| one_any
  by_cases h49:k=49
  ·subst h49
   go_enter Tryz.func193,Tryz.ntmps193
   go_wp2_with fail
   refine Calls.mono (HC.out _ _) ?_
   rintro e w1 ⟨rfl,hw⟩
   rw [hw]
   clear hw
   go_wp2
   go_ret
   exact ⟨rfl,HB.out⟩
  ·have q49:(k == 49)=false:=beq_false_of_ne h49
   by_cases h50:k=50
   ·subst h50
    go_enter Tryz.func193,Tryz.ntmps193
    go_wp2_with fail
    refine Calls.mono (HC.out _ _) ?_
    rintro e w1 ⟨rfl,hw⟩
    rw [hw]
    clear hw
    go_wp2
    go_ret
    exact ⟨rfl,HB.out⟩
   ·have q50:(k == 50)=false:=beq_false_of_ne h50
    by_cases h51:k=51
    ·subst h51
     go_enter Tryz.func193,Tryz.ntmps193
     go_wp2_with fail
     refine Calls.mono (HC.out _ _) ?_
     rintro e w1 ⟨rfl,hw⟩
     rw [hw]
     clear hw
     go_wp2
     go_ret
     exact ⟨rfl,HB.out⟩
    ·have q51:(k == 51)=false:=beq_false_of_ne h51
     have HR:Hid ((Prt.cmp k).cm size cq a b=oneZ (decide (b<=a))):=by
      show (if k=49 then oneZ (decide (a < b)) else if k=50 then oneZ (decide (a<=b)) else if k=51 then oneZ (decide (b < a)) else oneZ (decide (b<=a)))=_
      rw [if_neg h49,if_neg h50,if_neg h51]
     go_enter Tryz.func193,Tryz.ntmps193
     go_wp2_with fail
     refine Calls.mono (HC.out _ _) ?_
     rintro e w1 ⟨rfl,hw⟩
     rw [hw]
     clear hw
     go_wp2
     go_ret
     rw [HR.out]
     exact ⟨rfl,HB.out⟩
 | joi k=>
  have HB:Hid (Below w.heap.size w ((w.alloc (.cells #[.int .i64 k] 145)).alloc (.cells #[.int .i64 size,.slice co nc cc] 39))):=(bAl w _).alloc (by simp) _
  clear hc hx
  show Calls Tryz.prog 196 #[.agg #[.int .i64 k],_,_,_] w _
  by_cases h1:k=42
  ·subst h1
   go_enter Tryz.func196,Tryz.ntmps196
   go_wp2
   go_ret
   exact ⟨rfl,HB.out⟩
  ·have q1:(k == 42)=false:=beq_false_of_ne h1
   by_cases h2:k=53
   ·subst h2
    go_enter Tryz.func196,Tryz.ntmps196
    go_wp2
    go_ret
    exact ⟨rfl,HB.out⟩
   ·have q2:(k == 53)=false:=beq_false_of_ne h2
    go_enter Tryz.func196,Tryz.ntmps196
    have HR:Hid ((Prt.joi k).cm size cq a b=bits .or .i64 a b):=by
     show (if k=42 then wrap64 (1 - a) else if k=53 then bits .and .i64 a b else bits .or .i64 a b)=_
     rw [if_neg h1,if_neg h2]
    go_wp2
    go_ret
    rw [HR.out]
    exact ⟨rfl,HB.out⟩
 | lik k=>
  have HB:Hid (Below w.heap.size w ((w.alloc (.cells #[.int .i64 k] 146)).alloc (.cells #[.int .i64 size,.slice co nc cc] 39))):=(bAl w _).alloc (by simp) _
  clear hc hx
  show Calls Tryz.prog 198 #[.agg #[.int .i64 k],_,_,_] w _
  have HC:=hdn <| one_any
  go_enter Tryz.func198,Tryz.ntmps198
  go_wp2_with fail
  refine Calls.mono (HC.out _ _) ?_
  rintro e w1 ⟨rfl,hw⟩
  rw [hw]
  clear hw
  go_wp2
  go_ret
  exact ⟨rfl,HB.out⟩
end Go.Proofs.YtbledbjcghaanaaGreat.Nm.Ty
namespace Go.Proofs.YtbledbjcghaanaaGreat.Nm.Ty
open Go.RowKit Go.Shelf Sp Lx Gr
attribute [local go_sem] Oper.semAt_some
def vB (l:List Rz) (size:Int) (cq:Nat->Int):Nat->Nat->Int
 | 0=>fun _=>0
 | p+1=>setF (vB l size cq p) (l.length - 1 - p) ((rP l (l.length - 1 - p)).cm size cq (if 0 < km l (l.length - 1 - p) then vB l size cq p (l.length - 1 - p+1) else 0) (if 1 < km l (l.length - 1 - p) then vB l size cq p (endp l (l.length - 1 - p+1)) else 0))
def in64 (n:Int):Prop:=-9223372036854775808<=n/\n<=9223372036854775807
theorem bits_in (a b:Int):in64 (bits .and .i64 a b)/\in64 (bits .or .i64 a b):=by
 simp only [bits,IntKind.wrap_i64,in64]
 omega
theorem wrap_in (n:Int):in64 (wrap64 n):=by unfold in64 wrap64;omega
theorem clamp64 (n:Int):in64 (clampZ n):=by have:=clamp_in n;unfold in64;omega
theorem one64 (b:Bool):in64 (oneZ b):=by unfold oneZ in64;split<;>omega
theorem cm_in (x:Prt) {size:Int} {cq:Nat->Int} {a b:Int} (hs:in64 size) (hq:∀ i,in64 (cq i)) (ha:in64 a) (hb:in64 b) (hn:∀ t n,x=.wri t n->in64 n):in64 (x.cm size cq a b):=by
 have h0:in64 0:=by unfold in64;omega
 have hmin:in64 (min a b):=by unfold in64 at *;omega
 have hmax:in64 (max a b):=by unfold in64 at *;omega
 have hdiv:in64 (divZ a b):=by
  unfold divZ
  split
  ·exact h0
  ·split
   ·have:=clamp_in a;unfold in64;omega
   ·exact clamp64 _
 cases x with
 | dng u v t=>exact h0
 | wri t n=>exact hn t n rfl
 | cpy q=>exact hq _
 | siz=>exact hs
 | chg t=>exact h0
 | rck k=>
  simp only [Prt.cm]
  repeat' split
  all_goals first | exact hmin | exact hmax | exact clamp64 _ | exact hdiv
 | cmp k=>
  simp only [Prt.cm]
  repeat' split
  all_goals exact one64 _
 | joi k=>
  simp only [Prt.cm]
  repeat' split
  ·exact wrap_in _
  ·exact (bits_in a b).1
  ·exact (bits_in a b).2
 | lik k=>exact one64 _
end Go.Proofs.YtbledbjcghaanaaGreat.Nm.Ty
namespace Go.Proofs.YtbledbjcghaanaaGreat.Nm.Ty
open Go.RowKit Sp Lx
section
variable {P:Program} {ops:Array Oper} {md:Region.Mode} {Q:Exit->Act->World->Prop}
theorem uponIn_round (l n:Nat) {o:Oper} {a:Act} {K K':Act->World->Prop} (hk:∀ a w,K a w->K' a w) {r:Result Next} (h:o.upon P a K Q r):o.uponIn (Fence.wide.inRound l) n P a K' Q r:=by
 cases r with
 | ok x w'=>
  cases x<;>simp only [Oper.upon,Oper.uponIn] at h ⊢
  case value v=>exact hk _ _ h
  case skip=>exact hk _ _ h
  case defer d=>exact hk _ _ h
  case enter f args=>
   refine ⟨fun hz=>(by simp [Fence.wide,Fence.inRound] at hz),CallsIn.inRound l (callsIn_wide.2 (h.mono fun e w'' he=>?_))⟩
   cases e<;>first | exact hk _ _ he | exact he
  case row rw args=>
   refine ⟨fun hz=>(by simp [Fence.wide,Fence.inRound] at hz),fun c cs _=>?_⟩
   obtain ⟨v,w2,h1,h2⟩:=h c cs
   exact ⟨v,w2,hk _ _ h1,stepsIn_wide.2 h2⟩
 | halt x w'=>
  cases x<;>simp only [Oper.upon,Oper.uponIn] at h ⊢
  all_goals first | exact h | exact h.elim
theorem wpAnyIn_round (l n:Nat) (hL:¬ LetsOut Q) (hd:∀ (j:Nat) (o:Oper),ops[j]?=some o->∀ c,o.op ≠ .defer c):
  ∀ (fuel:Nat) (listed:Array Bool) (a:Act) (w:World),wpAny P md ops Q fuel listed a w->wpAnyIn (Fence.wide.inRound l) n P md ops Q fuel listed a w:=by
 intro fuel
 induction fuel with
 | zero=>intro listed a w h;exact h
 | succ fuel ih=>
  intro listed a w h
  refine ⟨h.1,fun i hi=>?_⟩
  have h1:=h.2 i hi
  unfold wpOp at h1
  unfold wpOpIn
  cases ho:ops[i]? with
  | none=>rw [ho] at h1;exact ih _ _ _ h1
  | some o=>
   rw [ho] at h1
   dsimp only at h1 ⊢
   split
   ·rename_i hw
    rw [if_pos hw] at h1
    refine ⟨fun _ _=>trivial,?_⟩
    rw [Oper.semAt_eq _ _ _ (hd i o ho)]
    exact uponIn_round l n (fun a w h=>ih _ _ _ h) (h1.resolve_right fun e=>hL e.2)
   ·rename_i hw
    rw [if_neg hw] at h1
    exact ⟨fun _ _=>trivial,ih _ _ _ h1⟩
theorem wpIn_region_round {id l n:Nat} {a:Act} {w:World} (hm:P.follows .mixedOrders=true) (hL:¬ LetsOut Q) (hd:∀ (j:Nat) (o:Oper),ops[j]?=some o->∀ c,o.op ≠ .defer c)
  (h:wpAny P .any ops Q ops.size (Array.replicate ops.size false) a { w with drawn:=w.drawn+1 }):(Code.region id ops true).wpIn (Fence.wide.inRound l) n P Q a w:=
 wpIn_region_any hm (wpAnyIn_round l n hL hd _ _ _ _ h)
def noDefer (l:List Oper):Bool:=l.all fun o=>match o.op with
 | .defer _=>false
 | _=>true
theorem noDefer_spec {l:List Oper} (h:noDefer l=true):∀ (j:Nat) (o:Oper),l.toArray[j]?=some o->∀ c,o.op ≠ .defer c:=by
 intro j o ho c he
 have hm:o ∈ l:=by simpa using Array.mem_of_getElem? ho
 have h1:=List.all_eq_true.1 h o hm
 rw [he] at h1
 cases h1
end
section
variable {P:Program} {C:World->Prop}
theorem wpIn_round_tail {q nf id:Nat} {Q:Exit->Act->World->Prop} {a:Act} {w:World} {l:List Oper} (n:Nat) (hm:P.follows .mixedOrders=true) (hB:Region.lexTailB .any l.toArray n=true) (hd:noDefer l=true) (hL:¬ LetsOut Q) (hC:C { w with drawn:=w.drawn+1 })
  (h:wpQuiet P l.toArray C (fun a'=>∀ w',C w'->wpList P l.toArray Q (l.drop n) a' w') (l.take n) a):(Code.region id l.toArray true).wpIn (Fence.wide.inRound q) nf P Q a w:=by
 simp only [Region.lexTailB,Bool.and_eq_true,decide_eq_true_eq] at hB
 obtain ⟨⟨⟨⟨hsel,hn⟩,hs⟩,hc⟩,hlex⟩:=hB
 have hn':n < l.length:=by simpa using hn
 have htl:(l.take n).length=n:=by simp;omega
 have hdl:(l.drop n).length=l.toArray.size - n:=by simp
 have inv0:HeadInv .any l.toArray n (Array.replicate l.toArray.size false):=
  ⟨by simp,fun j oj _ hl=>(by rw [getD_replicate_false] at hl;cases hl),fun t _ ht=>getD_in (by simpa using ht) (getD_replicate_false _ _)⟩
 have H:=wpHead_lex (md:=.any) (g:=l.toArray.size - n) hsel hs hc hn (l.take n) 0 _ a (fun j hj=>by
  have hj':j < n:=by rw [htl] at hj;exact hj
  simp [hj']) (by simpa using htl) inv0 (by rw [htl];exact hlex) h
 refine wpIn_region_round hm hL (noDefer_spec hd) ?_
 have:=wpAny_of_wpHead (Q':=Q) (g:=l.toArray.size - n) (fun listed a' w' hw' hL=>by
  have:=wpAny_of_seq (md:=.any) (Q':=Q) (l.drop n) n listed a' w' (fun j=>by simp [List.getElem?_drop]) (by rw [hdl];exact hL.1) (hL.2 w' hw')
  rwa [hdl] at this) _ _ _ { w with drawn:=w.drawn+1 } hC H
 rw [htl,show n+(l.toArray.size - n)=l.toArray.size by omega] at this
 exact this
theorem wpIn_round_quiet {q nf id:Nat} {Q:Exit->Act->World->Prop} {a:Act} {w:World} {l:List Oper} (hm:P.follows .mixedOrders=true) (hB:Region.lexB .any l.toArray=true) (hd:noDefer l=true) (hL:¬ LetsOut Q) (hC:C { w with drawn:=w.drawn+1 })
  (h:wpQuiet P l.toArray C (fun a'=>∀ w',C w'->Q .normal a' w') l a):(Code.region id l.toArray true).wpIn (Fence.wide.inRound q) nf P Q a w:=by
 simp only [Region.lexB,Bool.and_eq_true] at hB
 refine wpIn_region_round hm hL (noDefer_spec hd) (wpAny_of_quiet (Q:=fun a'=>∀ w',C w'->Q .normal a' w') (fun _ w' hw' h=>h w' hw') _ _ _ _ hC ?_)
 have:=wpAnyQ_lex (C:=C) (md:=.any) hB.1 l 0 (Array.replicate l.toArray.size false) a (by simp) (by simpa using hB.2) h
 simpa using this
end
end Go.Proofs.YtbledbjcghaanaaGreat.Nm.Ty
