import Derived.Test.YtbledbjcghaanaaGreatTl
import Derived.Test.YtbledbjcghaanaaGreatL17
import Derived.RangeFuncCalls
set_option maxHeartbeats 12800000
set_option maxRecDepth 100000
namespace Go.Proofs.YtbledbjcghaanaaGreat.Nm.Ty
open Go.RowKit Go.Maps Sp Lx Gr
theorem changing_any (x:Prt) (w:World):Calls Tryz.prog 71 #[x.V] w fun e w'=>e=.returned (.bool x.changing)/\Below w.heap.size w w':=by
 cases x with
 | dng a b c=>
  have a0:∀ w:World,(Instr.typeAssert (.iface 150 (.agg #[I a,I b,I c])) 82 141 true).run Tryz.prog w=.ok (.tuple #[.agg #[I 0],.bool false]) w:=fun _=>by kernel_rfl
  show Calls Tryz.prog 71 #[.iface 150 (.agg #[I a,I b,I c])] w _
  go_enter Tryz.func71,Tryz.ntmps71
  go_wp2;go_ret;exact ⟨rfl,bAl w _⟩
 | wri t n=>
  have a0:∀ w:World,(Instr.typeAssert (.iface 135 (.agg #[I t,I n])) 82 141 true).run Tryz.prog w=.ok (.tuple #[.agg #[I 0],.bool false]) w:=fun _=>by kernel_rfl
  show Calls Tryz.prog 71 #[.iface 135 (.agg #[I t,I n])] w _
  go_enter Tryz.func71,Tryz.ntmps71
  go_wp2;go_ret;exact ⟨rfl,bAl w _⟩
 | cpy q=>
  have a0:∀ w:World,(Instr.typeAssert (.iface 137 (.agg #[I q])) 82 141 true).run Tryz.prog w=.ok (.tuple #[.agg #[I 0],.bool false]) w:=fun _=>by kernel_rfl
  show Calls Tryz.prog 71 #[.iface 137 (.agg #[I q])] w _
  go_enter Tryz.func71,Tryz.ntmps71
  go_wp2;go_ret;exact ⟨rfl,bAl w _⟩
 | siz  =>
  have a0:∀ w:World,(Instr.typeAssert (.iface 139 (.agg #[])) 82 141 true).run Tryz.prog w=.ok (.tuple #[.agg #[I 0],.bool false]) w:=fun _=>by kernel_rfl
  show Calls Tryz.prog 71 #[.iface 139 (.agg #[])] w _
  go_enter Tryz.func71,Tryz.ntmps71
  go_wp2;go_ret;exact ⟨rfl,bAl w _⟩
 | chg t=>
  have a0:∀ w:World,(Instr.typeAssert (.iface 141 (.agg #[I t])) 82 141 true).run Tryz.prog w=.ok (.tuple #[.agg #[I t],.bool true]) w:=fun _=>by kernel_rfl
  show Calls Tryz.prog 71 #[.iface 141 (.agg #[I t])] w _
  go_enter Tryz.func71,Tryz.ntmps71
  go_wp2;go_ret;exact ⟨rfl,bAl w _⟩
 | rck k=>
  have a0:∀ w:World,(Instr.typeAssert (.iface 143 (.agg #[I k])) 82 141 true).run Tryz.prog w=.ok (.tuple #[.agg #[I 0],.bool false]) w:=fun _=>by kernel_rfl
  show Calls Tryz.prog 71 #[.iface 143 (.agg #[I k])] w _
  go_enter Tryz.func71,Tryz.ntmps71
  go_wp2;go_ret;exact ⟨rfl,bAl w _⟩
 | cmp k=>
  have a0:∀ w:World,(Instr.typeAssert (.iface 144 (.agg #[I k])) 82 141 true).run Tryz.prog w=.ok (.tuple #[.agg #[I 0],.bool false]) w:=fun _=>by kernel_rfl
  show Calls Tryz.prog 71 #[.iface 144 (.agg #[I k])] w _
  go_enter Tryz.func71,Tryz.ntmps71
  go_wp2;go_ret;exact ⟨rfl,bAl w _⟩
 | joi k=>
  have a0:∀ w:World,(Instr.typeAssert (.iface 145 (.agg #[I k])) 82 141 true).run Tryz.prog w=.ok (.tuple #[.agg #[I 0],.bool false]) w:=fun _=>by kernel_rfl
  show Calls Tryz.prog 71 #[.iface 145 (.agg #[I k])] w _
  go_enter Tryz.func71,Tryz.ntmps71
  go_wp2;go_ret;exact ⟨rfl,bAl w _⟩
 | lik k=>
  have a0:∀ w:World,(Instr.typeAssert (.iface 146 (.agg #[I k])) 82 141 true).run Tryz.prog w=.ok (.tuple #[.agg #[I 0],.bool false]) w:=fun _=>by kernel_rfl
  show Calls Tryz.prog 71 #[.iface 146 (.agg #[I k])] w _
  go_enter Tryz.func71,Tryz.ntmps71
  go_wp2;go_ret;exact ⟨rfl,bAl w _⟩
theorem asked_any (x:Prt) (kid:Nat) (first:Int) (w:World):Calls Tryz.prog 123 #[x.V,I kid,I first] w fun e w'=>e=.returned (I (x.asked kid first))/\Below w.heap.size w w':=by
 cases x with
 | dng a b c=>
  have a0:∀ w:World,(Instr.typeAssert (.iface 150 (.agg #[I a,I b,I c])) 82 150 true).run Tryz.prog w=.ok (.tuple #[.agg #[I a,I b,I c],.bool true]) w:=fun _=>by kernel_rfl
  have a1:∀ w:World,(Instr.typeAssert (.iface 150 (.agg #[I a,I b,I c])) 82 143 true).run Tryz.prog w=.ok (.tuple #[.agg #[I 0],.bool false]) w:=fun _=>by kernel_rfl
  have a2:∀ w:World,(Instr.typeAssert (.iface 150 (.agg #[I a,I b,I c])) 82 144 true).run Tryz.prog w=.ok (.tuple #[.agg #[I 0],.bool false]) w:=fun _=>by kernel_rfl
  have a3:∀ w:World,(Instr.typeAssert (.iface 150 (.agg #[I a,I b,I c])) 82 145 true).run Tryz.prog w=.ok (.tuple #[.agg #[I 0],.bool false]) w:=fun _=>by kernel_rfl
  have a4:∀ w:World,(Instr.typeAssert (.iface 150 (.agg #[I a,I b,I c])) 82 146 true).run Tryz.prog w=.ok (.tuple #[.agg #[I 0],.bool false]) w:=fun _=>by kernel_rfl
  show Calls Tryz.prog 123 #[.iface 150 (.agg #[I a,I b,I c]),_,_] w _
  by_cases h3:kid < 3
  ·obtain rfl | rfl | rfl:kid=0\/kid=1\/kid=2:=by omega
   rotate_right
   rotate_right
   rotate_right
   all_goals
    go_enter Tryz.func123,Tryz.ntmps123
    go_wp2;go_ret;exact ⟨rfl,bAl w _⟩
  ·have h3':¬ (kid:Int) < 3:=by omega
   have HA:Hid ((Prt.dng a b c).asked kid first=0):=by
    show (if kid=0 then a else if kid=1 then b else if kid=2 then c else 0)=0
    rw [if_neg (by omega),if_neg (by omega),if_neg (by omega)]
   go_enter Tryz.func123,Tryz.ntmps123
   go_wp2;go_ret;rw [HA.out];exact ⟨rfl,bAl w _⟩
 | wri t n=>
  have a0:∀ w:World,(Instr.typeAssert (.iface 135 (.agg #[I t,I n])) 82 150 true).run Tryz.prog w=.ok (.tuple #[.agg #[I 0,I 0,I 0],.bool false]) w:=fun _=>by kernel_rfl
  have a1:∀ w:World,(Instr.typeAssert (.iface 135 (.agg #[I t,I n])) 82 143 true).run Tryz.prog w=.ok (.tuple #[.agg #[I 0],.bool false]) w:=fun _=>by kernel_rfl
  have a2:∀ w:World,(Instr.typeAssert (.iface 135 (.agg #[I t,I n])) 82 144 true).run Tryz.prog w=.ok (.tuple #[.agg #[I 0],.bool false]) w:=fun _=>by kernel_rfl
  have a3:∀ w:World,(Instr.typeAssert (.iface 135 (.agg #[I t,I n])) 82 145 true).run Tryz.prog w=.ok (.tuple #[.agg #[I 0],.bool false]) w:=fun _=>by kernel_rfl
  have a4:∀ w:World,(Instr.typeAssert (.iface 135 (.agg #[I t,I n])) 82 146 true).run Tryz.prog w=.ok (.tuple #[.agg #[I 0],.bool false]) w:=fun _=>by kernel_rfl
  show Calls Tryz.prog 123 #[.iface 135 (.agg #[I t,I n]),_,_] w _
  go_enter Tryz.func123,Tryz.ntmps123
  go_wp2;go_ret;exact ⟨rfl,Below.refl _ _⟩
 | cpy q=>
  have a0:∀ w:World,(Instr.typeAssert (.iface 137 (.agg #[I q])) 82 150 true).run Tryz.prog w=.ok (.tuple #[.agg #[I 0,I 0,I 0],.bool false]) w:=fun _=>by kernel_rfl
  have a1:∀ w:World,(Instr.typeAssert (.iface 137 (.agg #[I q])) 82 143 true).run Tryz.prog w=.ok (.tuple #[.agg #[I 0],.bool false]) w:=fun _=>by kernel_rfl
  have a2:∀ w:World,(Instr.typeAssert (.iface 137 (.agg #[I q])) 82 144 true).run Tryz.prog w=.ok (.tuple #[.agg #[I 0],.bool false]) w:=fun _=>by kernel_rfl
  have a3:∀ w:World,(Instr.typeAssert (.iface 137 (.agg #[I q])) 82 145 true).run Tryz.prog w=.ok (.tuple #[.agg #[I 0],.bool false]) w:=fun _=>by kernel_rfl
  have a4:∀ w:World,(Instr.typeAssert (.iface 137 (.agg #[I q])) 82 146 true).run Tryz.prog w=.ok (.tuple #[.agg #[I 0],.bool false]) w:=fun _=>by kernel_rfl
  show Calls Tryz.prog 123 #[.iface 137 (.agg #[I q]),_,_] w _
  go_enter Tryz.func123,Tryz.ntmps123
  go_wp2;go_ret;exact ⟨rfl,Below.refl _ _⟩
 | siz  =>
  have a0:∀ w:World,(Instr.typeAssert (.iface 139 (.agg #[])) 82 150 true).run Tryz.prog w=.ok (.tuple #[.agg #[I 0,I 0,I 0],.bool false]) w:=fun _=>by kernel_rfl
  have a1:∀ w:World,(Instr.typeAssert (.iface 139 (.agg #[])) 82 143 true).run Tryz.prog w=.ok (.tuple #[.agg #[I 0],.bool false]) w:=fun _=>by kernel_rfl
  have a2:∀ w:World,(Instr.typeAssert (.iface 139 (.agg #[])) 82 144 true).run Tryz.prog w=.ok (.tuple #[.agg #[I 0],.bool false]) w:=fun _=>by kernel_rfl
  have a3:∀ w:World,(Instr.typeAssert (.iface 139 (.agg #[])) 82 145 true).run Tryz.prog w=.ok (.tuple #[.agg #[I 0],.bool false]) w:=fun _=>by kernel_rfl
  have a4:∀ w:World,(Instr.typeAssert (.iface 139 (.agg #[])) 82 146 true).run Tryz.prog w=.ok (.tuple #[.agg #[I 0],.bool false]) w:=fun _=>by kernel_rfl
  show Calls Tryz.prog 123 #[.iface 139 (.agg #[]),_,_] w _
  go_enter Tryz.func123,Tryz.ntmps123
  go_wp2;go_ret;exact ⟨rfl,Below.refl _ _⟩
 | chg t=>
  have a0:∀ w:World,(Instr.typeAssert (.iface 141 (.agg #[I t])) 82 150 true).run Tryz.prog w=.ok (.tuple #[.agg #[I 0,I 0,I 0],.bool false]) w:=fun _=>by kernel_rfl
  have a1:∀ w:World,(Instr.typeAssert (.iface 141 (.agg #[I t])) 82 143 true).run Tryz.prog w=.ok (.tuple #[.agg #[I 0],.bool false]) w:=fun _=>by kernel_rfl
  have a2:∀ w:World,(Instr.typeAssert (.iface 141 (.agg #[I t])) 82 144 true).run Tryz.prog w=.ok (.tuple #[.agg #[I 0],.bool false]) w:=fun _=>by kernel_rfl
  have a3:∀ w:World,(Instr.typeAssert (.iface 141 (.agg #[I t])) 82 145 true).run Tryz.prog w=.ok (.tuple #[.agg #[I 0],.bool false]) w:=fun _=>by kernel_rfl
  have a4:∀ w:World,(Instr.typeAssert (.iface 141 (.agg #[I t])) 82 146 true).run Tryz.prog w=.ok (.tuple #[.agg #[I 0],.bool false]) w:=fun _=>by kernel_rfl
  show Calls Tryz.prog 123 #[.iface 141 (.agg #[I t]),_,_] w _
  go_enter Tryz.func123,Tryz.ntmps123
  go_wp2;go_ret;exact ⟨rfl,Below.refl _ _⟩
 | rck k=>
  have a0:∀ w:World,(Instr.typeAssert (.iface 143 (.agg #[I k])) 82 150 true).run Tryz.prog w=.ok (.tuple #[.agg #[I 0,I 0,I 0],.bool false]) w:=fun _=>by kernel_rfl
  have a1:∀ w:World,(Instr.typeAssert (.iface 143 (.agg #[I k])) 82 143 true).run Tryz.prog w=.ok (.tuple #[.agg #[I k],.bool true]) w:=fun _=>by kernel_rfl
  have a2:∀ w:World,(Instr.typeAssert (.iface 143 (.agg #[I k])) 82 144 true).run Tryz.prog w=.ok (.tuple #[.agg #[I 0],.bool false]) w:=fun _=>by kernel_rfl
  have a3:∀ w:World,(Instr.typeAssert (.iface 143 (.agg #[I k])) 82 145 true).run Tryz.prog w=.ok (.tuple #[.agg #[I 0],.bool false]) w:=fun _=>by kernel_rfl
  have a4:∀ w:World,(Instr.typeAssert (.iface 143 (.agg #[I k])) 82 146 true).run Tryz.prog w=.ok (.tuple #[.agg #[I 0],.bool false]) w:=fun _=>by kernel_rfl
  show Calls Tryz.prog 123 #[.iface 143 (.agg #[I k]),_,_] w _
  go_enter Tryz.func123,Tryz.ntmps123
  go_wp2;go_ret;exact ⟨rfl,Below.refl _ _⟩
 | cmp k=>
  have a0:∀ w:World,(Instr.typeAssert (.iface 144 (.agg #[I k])) 82 150 true).run Tryz.prog w=.ok (.tuple #[.agg #[I 0,I 0,I 0],.bool false]) w:=fun _=>by kernel_rfl
  have a1:∀ w:World,(Instr.typeAssert (.iface 144 (.agg #[I k])) 82 143 true).run Tryz.prog w=.ok (.tuple #[.agg #[I 0],.bool false]) w:=fun _=>by kernel_rfl
  have a2:∀ w:World,(Instr.typeAssert (.iface 144 (.agg #[I k])) 82 144 true).run Tryz.prog w=.ok (.tuple #[.agg #[I k],.bool true]) w:=fun _=>by kernel_rfl
  have a3:∀ w:World,(Instr.typeAssert (.iface 144 (.agg #[I k])) 82 145 true).run Tryz.prog w=.ok (.tuple #[.agg #[I 0],.bool false]) w:=fun _=>by kernel_rfl
  have a4:∀ w:World,(Instr.typeAssert (.iface 144 (.agg #[I k])) 82 146 true).run Tryz.prog w=.ok (.tuple #[.agg #[I 0],.bool false]) w:=fun _=>by kernel_rfl
  show Calls Tryz.prog 123 #[.iface 144 (.agg #[I k]),_,_] w _
  go_enter Tryz.func123,Tryz.ntmps123
  go_wp2;go_ret;exact ⟨rfl,Below.refl _ _⟩
 | joi k=>
  have a0:∀ w:World,(Instr.typeAssert (.iface 145 (.agg #[I k])) 82 150 true).run Tryz.prog w=.ok (.tuple #[.agg #[I 0,I 0,I 0],.bool false]) w:=fun _=>by kernel_rfl
  have a1:∀ w:World,(Instr.typeAssert (.iface 145 (.agg #[I k])) 82 143 true).run Tryz.prog w=.ok (.tuple #[.agg #[I 0],.bool false]) w:=fun _=>by kernel_rfl
  have a2:∀ w:World,(Instr.typeAssert (.iface 145 (.agg #[I k])) 82 144 true).run Tryz.prog w=.ok (.tuple #[.agg #[I 0],.bool false]) w:=fun _=>by kernel_rfl
  have a3:∀ w:World,(Instr.typeAssert (.iface 145 (.agg #[I k])) 82 145 true).run Tryz.prog w=.ok (.tuple #[.agg #[I k],.bool true]) w:=fun _=>by kernel_rfl
  have a4:∀ w:World,(Instr.typeAssert (.iface 145 (.agg #[I k])) 82 146 true).run Tryz.prog w=.ok (.tuple #[.agg #[I 0],.bool false]) w:=fun _=>by kernel_rfl
  show Calls Tryz.prog 123 #[.iface 145 (.agg #[I k]),_,_] w _
  go_enter Tryz.func123,Tryz.ntmps123
  go_wp2;go_ret;exact ⟨rfl,bAl w _⟩
 | lik k=>
  have a0:∀ w:World,(Instr.typeAssert (.iface 146 (.agg #[I k])) 82 150 true).run Tryz.prog w=.ok (.tuple #[.agg #[I 0,I 0,I 0],.bool false]) w:=fun _=>by kernel_rfl
  have a1:∀ w:World,(Instr.typeAssert (.iface 146 (.agg #[I k])) 82 143 true).run Tryz.prog w=.ok (.tuple #[.agg #[I 0],.bool false]) w:=fun _=>by kernel_rfl
  have a2:∀ w:World,(Instr.typeAssert (.iface 146 (.agg #[I k])) 82 144 true).run Tryz.prog w=.ok (.tuple #[.agg #[I 0],.bool false]) w:=fun _=>by kernel_rfl
  have a3:∀ w:World,(Instr.typeAssert (.iface 146 (.agg #[I k])) 82 145 true).run Tryz.prog w=.ok (.tuple #[.agg #[I 0],.bool false]) w:=fun _=>by kernel_rfl
  have a4:∀ w:World,(Instr.typeAssert (.iface 146 (.agg #[I k])) 82 146 true).run Tryz.prog w=.ok (.tuple #[.agg #[I k],.bool true]) w:=fun _=>by kernel_rfl
  show Calls Tryz.prog 123 #[.iface 146 (.agg #[I k]),_,_] w _
  by_cases h1:kid=1
  ·subst h1;go_enter Tryz.func123,Tryz.ntmps123;go_wp2;go_ret;exact ⟨rfl,bAl w _⟩
  ·have h1':((kid:Int) == 1)=false:=beq_false_of_ne (by omega)
   have HA:Hid ((Prt.lik k).asked kid first=0):=if_neg h1;go_enter Tryz.func123,Tryz.ntmps123;go_wp2;go_ret;rw [HA.out];exact ⟨rfl,bAl w _⟩
theorem is_enter (x:Prt) (args:Array Value) (w:World):(callFunc x.isF args).run Tryz.prog w=.ok (.enter x.isF args) w:=by
 cases x
 ·exact enters_of Tryz.func201 (by kernel_rfl) rfl args w
 ·exact enters_of Tryz.func184 (by kernel_rfl) rfl args w
 ·exact enters_of Tryz.func186 (by kernel_rfl) rfl args w
 ·exact enters_of Tryz.func188 (by kernel_rfl) rfl args w
 ·exact enters_of Tryz.func190 (by kernel_rfl) rfl args w
 ·exact enters_of Tryz.func192 (by kernel_rfl) rfl args w
 ·exact enters_of Tryz.func194 (by kernel_rfl) rfl args w
 ·exact enters_of Tryz.func197 (by kernel_rfl) rfl args w
 ·exact enters_of Tryz.func199 (by kernel_rfl) rfl args w
theorem co_enter (x:Prt) (args:Array Value) (w:World):(callFunc x.coF args).run Tryz.prog w=.ok (.enter x.coF args) w:=by
 cases x
 ·exact enters_of Tryz.func200 (by kernel_rfl) rfl args w
 ·exact enters_of Tryz.func183 (by kernel_rfl) rfl args w
 ·exact enters_of Tryz.func185 (by kernel_rfl) rfl args w
 ·exact enters_of Tryz.func187 (by kernel_rfl) rfl args w
 ·exact enters_of Tryz.func189 (by kernel_rfl) rfl args w
 ·exact enters_of Tryz.func191 (by kernel_rfl) rfl args w
 ·exact enters_of Tryz.func193 (by kernel_rfl) rfl args w
 ·exact enters_of Tryz.func196 (by kernel_rfl) rfl args w
 ·exact enters_of Tryz.func198 (by kernel_rfl) rfl args w
theorem types_any {l:List Rz} {qv:List Value} {nq:Nat} {ao qo po eo:Option Addr} {ac qc pc ec:Nat} {w:World} (h:IsRg w l qv ao qo po eo) (hn:l.length<=2932031007317):
  Calls Tryz.prog 32 #[.agg (rgC l nq ao qo po eo ac qc pc ec)] w fun e w'=>∃ g,e=.returned (.slice (pZ g) l.length l.length)/\w.heap.size<=g/\RowI w' g l.length (fun i=>(rP l i).is)/\Below w.heap.size w w':=by
 obtain ⟨M,hmk,hM⟩:=mk_ints l.length hn;have HI:Hid (IsRg w l qv ao qo po eo):=h;have hln:(l.length:Int)<=2932031007317:=by omega
 have hient:=is_enter;have hifn:=is_fn;have H0:Hid (RowI ((w.alloc (.cells (rgC l nq ao qo po eo ac qc pc ec) 65)).alloc (.cells M 3)) (w.heap.size+1) l.length (fun _=>0)/\Below w.heap.size w ((w.alloc (.cells (rgC l nq ao qo po eo ac qc pc ec) 65)).alloc (.cells M 3))):=by
  have e:=hM (w.alloc (.cells (rgC l nq ao qo po eo ac qc pc ec) 65));rw [World.size_alloc] at e;exact ⟨e,(bAl w _).alloc (by simp) _⟩
 dsimp only [rgC] at *;clear h hn hM;go_enter Tryz.func32,Tryz.ntmps32;go_wp2_with fail;generalize ((w.alloc (.cells #[.slice ao l.length ac,.slice qo nq qc,.slice po l.length pc,.slice eo l.length ec] 65)).alloc (.cells M 3))=w1 at *;clear hmk
 go_loopg [13] l.length (fun gq x wr=>∃ m:Nat,m<=l.length/\gq=l.length - m/\x=I m/\RowI wr (w.heap.size+1) l.length (fun i=>if i < m then (rP l i).is else 0)/\Below w.heap.size w wr)
 case atStart=>exact ⟨0,Nat.zero_le _,rfl,by go_num,H0.out.1.ext fun i _=>(if_neg (Nat.not_lt_zero _)).symm,H0.out.2⟩
 case round=>
  obtain ⟨m,hm,hgk,rfl,hR,hB⟩:=hrel;have HR:Hid (RowI wr (w.heap.size+1) l.length (fun i=>if i < m then (rP l i).is else 0)):=hR;have HB:=hdn <| hB;have HG:Hid (gk=l.length - m):=hgk;clear hgk hR hB;by_cases hlt:m < l.length
  ·have hlt':(m:Int) < (l.length:Int):=by omega
   obtain ⟨gp,op,rfl,hgp,cp⟩:=(HI.out.below HB.out).part hlt;have HN:Hid (∀ W:World,Below wr.heap.size wr W->RowI (W.setCell ⟨w.heap.size+1,m,none⟩ (I (rP l m).is)) (w.heap.size+1) l.length (fun i=>if i < m+1 then (rP l i).is else 0)/\Below w.heap.size w (W.setCell ⟨w.heap.size+1,m,none⟩ (I (rP l m).is))):=by
    intro W hW;refine ⟨((HR.out.below hW HR.out.lt).set m _).ext fun i _=>?_,(HB.out.trans (hW.mono HB.out.size)).trans ((Below.refl w.heap.size W).setCell (p:=⟨w.heap.size+1,m,none⟩) (by simp) _)⟩
    by_cases e:i=m
    ·subst e;rw [if_pos rfl,if_pos (by omega)]
    ·rw [if_neg e];by_cases e2:i < m
     ·rw [if_pos e2,if_pos (by omega)]
     ·rw [if_neg e2,if_neg (by omega)]
   generalize rP l m=x at *;have HC:=hdn <| is_any x wr;go_wp2_with fail;refine Calls.mono HC.out ?_;rintro e w2 ⟨rfl,hb2⟩;have HN2:=hdn <| HN.out w2 hb2;have hc:=(HR.out.below hb2 HR.out.lt).cell hlt;have hf:=(HR.out.below hb2 HR.out.lt).frozen m;clear hb2 HC HN;generalize x.is=y at *;go_wp2_with fail;go_roundg (l.length - (m+1))
   case measure=>have:=HG.out;omega
   case rel=>exact ⟨m+1,by omega,rfl,by go_num,HN2.out.1,HN2.out.2⟩
  ·have hlt':¬ (m:Int) < (l.length:Int):=by omega
   have hme:m=l.length:=by omega
   have HF:Hid (RowI wr (w.heap.size+1) l.length (fun i=>(rP l i).is)):=HR.out.ext fun i hi=>if_pos (by omega)
   clear hme hlt;go_wp2_with fail;go_ret;exact ⟨w.heap.size+1,rfl,by omega,HF.out,HB.out⟩
theorem own_ints {w:World} {base n:Nat} {v:Value} {xs:List Value} (h:w.ownsRow base 3 1 v n xs) (h0:0 < n):∃ b c,v=.slice (pZ b) n c/\base<=b/\b < w.heap.size/\∀ j u,xs[j]?=some u->w.cell? ⟨b,j,none⟩=some u:=by
 obtain ⟨hl,⟨_,rfl⟩ | ⟨g,c,cur,rfl,hb,hc,hn,hm,hs,ht⟩⟩:=h
 ·omega
 ·refine ⟨g,c,rfl,hb,blk_lt hc,fun j u hj=>?_⟩;rw [World.cell?,hc];rw [<-ht,List.getElem?_take] at hj
  split at hj
  ·simpa using hj
  ·cases hj
theorem asks_any {l:List Rz} {qv:List Value} {nq:Nat} {ao qo po eo:Option Addr} {ac qc pc ec:Nat} {w:World} (h:IsRg w l qv ao qo po eo) (hn:l.length<=2932031007317) (hT:TreeZ l):
  Calls Tryz.prog 91 #[.agg (rgC l nq ao qo po eo ac qc pc ec)] w fun e w'=>∃ g,e=.returned (.slice (pZ g) l.length l.length)/\w.heap.size<=g/\RowI w' g l.length (asksN l l.length)/\Below w.heap.size w w':=by
 obtain ⟨M,hmk,hM⟩:=mk_ints l.length hn;have HI:Hid (IsRg w l qv ao qo po eo):=h;have HT:Hid (TreeZ l):=hT;have hln:(l.length:Int)<=2932031007317:=by omega
 have hient:=is_enter;have hifn:=is_fn;have HKs:Hid (∀ (i:Nat) (W:World),IsRg W l qv ao qo po eo->i < l.length->Calls Tryz.prog 114 #[.agg (rgC l nq ao qo po eo ac qc pc ec),I i] W fun e w'=>∃ v,e=.returned v/\w'.ownsRow W.heap.size 3 1 v (km l i) ((kl l i (km l i)).map nc)/\Below W.heap.size W w'):=fun i W hW hi=>kids_any i hW hn hT hi;have H0:Hid (RowI ((w.alloc (.cells (rgC l nq ao qo po eo ac qc pc ec) 65)).alloc (.cells M 3)) (w.heap.size+1) l.length (fun _=>0)/\Below w.heap.size w ((w.alloc (.cells (rgC l nq ao qo po eo ac qc pc ec) 65)).alloc (.cells M 3))/\((w.alloc (.cells (rgC l nq ao qo po eo ac qc pc ec) 65)).alloc (.cells M 3)).heap[w.heap.size]?=some (.cells (rgC l nq ao qo po eo ac qc pc ec) 65 (0,0))):=by
  have e:=hM (w.alloc (.cells (rgC l nq ao qo po eo ac qc pc ec) 65));rw [World.size_alloc] at e;exact ⟨e,(bAl w _).alloc (by simp) _,(Below.heap_alloc _ _ _ (by simp)).trans (heap_alloc_new w _)⟩
 dsimp only [rgC] at *;clear h hn hM hT;go_enter Tryz.func91,Tryz.ntmps91;go_wp2_with fail;generalize ((w.alloc (.cells #[.slice ao l.length ac,.slice qo nq qc,.slice po l.length pc,.slice eo l.length ec] 65)).alloc (.cells M 3))=w1 at *;clear hmk
 go_loopg [15] l.length (fun gq x wr=>∃ m:Nat,m<=l.length/\gq=l.length - m/\x=I m/\RowI wr (w.heap.size+1) l.length (asksN l m)/\Below w.heap.size w wr/\wr.heap[w.heap.size]?=some (.cells #[.slice ao l.length ac,.slice qo nq qc,.slice po l.length pc,.slice eo l.length ec] 65 (0,0)))
 case atStart=>exact ⟨0,Nat.zero_le _,rfl,by go_num,H0.out.1,H0.out.2.1,H0.out.2.2⟩
 case round=>
  obtain ⟨m,hm,hgk,rfl,hR,hB,hX⟩:=hrel;have HR:Hid (RowI wr (w.heap.size+1) l.length (asksN l m)):=hR;have HB:=hdn <| hB;have HX:=hdn <| hX;have HG:Hid (gk=l.length - m):=hgk;obtain ⟨b0,b1,b2,b3⟩:=cells4 hX;clear hgk hR hB hX;by_cases hlt:m < l.length
  ·have hlt':(m:Int) < (l.length:Int):=by omega
   obtain ⟨gp,op,rfl,hgp,cp⟩:=(HI.out.below HB.out).part hlt;have HC:=hdn <| HKs.out m wr (HI.out.below HB.out) hlt;have HKm:Hid (km l m<=l.length/\(0 < km l m->m+1 < l.length)):=⟨km_le HT.out.whole hlt,fun h0=>by have:=(kid_at HT.out.whole hlt h0).1;rwa [kid_zero] at this⟩
   have hkm:(km l m:Int)<=2932031007317:=by have:=HKm.out.1;omega
   have HS:Hid (asksN l (m+1)=askRow l m (asksN l m) (km l m)):=rfl;have HAx:Hid (∀ k,askRow l m (asksN l m) (k+1)=setF (askRow l m (asksN l m) k) (kidp l m k) ((rP l m).asked k (rP l (m+1)).is)):=fun k=>rfl;have HA0:Hid (askRow l m (asksN l m) 0=asksN l m):=rfl;generalize hxm:rP l m=x at *;clear hxm;go_wp2_with fail;refine Calls.mono HC.out ?_;rintro e w2 ⟨v,rfl,ho2,hb2⟩;have HB2:Hid (Below w.heap.size w w2/\RowI w2 (w.heap.size+1) l.length (asksN l m)/\w2.heap[w.heap.size]?=some (.cells #[.slice ao l.length ac,.slice qo nq qc,.slice (some ⟨gp,op,none⟩) l.length pc,.slice eo l.length ec] 65 (0,0))):=⟨HB.out.trans (hb2.mono HB.out.size),HR.out.below hb2 HR.out.lt,(hb2.block _ (blk_lt HX.out)).trans HX.out⟩;obtain ⟨vo,vc,rfl⟩:=own_form ho2;have HO2:Hid (0 < km l m->∃ b,vo=some ⟨b,0,none⟩/\w.heap.size+1 < b/\b < w2.heap.size/\∀ j,j < km l m->w2.cell? ⟨b,j,none⟩=some (I (kidp l m j:Nat))):=by
    intro h0;obtain ⟨b,c,e,hb,hlt2,hc⟩:=own_ints ho2 h0;cases e;refine ⟨b,rfl,by have:=HR.out.lt;omega,hlt2,fun j hj=>hc j _ ?_⟩
    simp [kl,nc,hj]
   clear hb2 ho2 HC b0 b1 b2 b3;go_wp2_with fail;have HG1:Hid (gk=l.length - m):=HG.out;clear HG HR HB HX
   go_loopg [24] (km l m) (fun gq kk wr'=>∃ k:Nat,k<=km l m/\gq=km l m - k/\kk=I k/\RowI wr' (w.heap.size+1) l.length (askRow l m (asksN l m) k)/\Below w.heap.size w wr'/\wr'.heap[w.heap.size]?=some (.cells #[.slice ao l.length ac,.slice qo nq qc,.slice (some ⟨gp,op,none⟩) l.length pc,.slice eo l.length ec] 65 (0,0))/\(0 < km l m->∃ b,vo=some ⟨b,0,none⟩/\w.heap.size+1 < b/\b < wr'.heap.size/\∀ j,j < km l m->wr'.cell? ⟨b,j,none⟩=some (I (kidp l m j:Nat))))
   case atStart=>exact ⟨0,Nat.zero_le _,rfl,by go_num,HB2.out.2.1,HB2.out.1,HB2.out.2.2,HO2.out⟩
   case round=>
    obtain ⟨k,hk,hgk,rfl,hrel⟩:=hrel;have HR:Hid (RowI wr (w.heap.size+1) l.length (askRow l m (asksN l m) k)/\Below w.heap.size w wr/\wr.heap[w.heap.size]?=some (.cells #[.slice ao l.length ac,.slice qo nq qc,.slice (some ⟨gp,op,none⟩) l.length pc,.slice eo l.length ec] 65 (0,0))/\(0 < km l m->∃ b,vo=some ⟨b,0,none⟩/\w.heap.size+1 < b/\b < wr.heap.size/\∀ j,j < km l m->wr.cell? ⟨b,j,none⟩=some (I (kidp l m j:Nat)))):=hrel;have HG:Hid (gk=km l m - k):=hgk;obtain ⟨b0,b1,b2,b3⟩:=cells4 HR.out.2.2.1;clear hgk hrel HB2 HO2;by_cases hkl:k < km l m
    ·have hkl':(k:Int) < (km l m:Int):=by omega
     obtain ⟨b,rfl,hb1,hb2,hbc⟩:=HR.out.2.2.2 (by omega)
     have ck:=hbc k hkl;have HKp:Hid (kidp l m k < l.length):=(kid_at HT.out.whole hlt hkl).1;have hkp:(kidp l m k:Int) < (l.length:Int):=by have:=HKp.out;omega
     have hm1:m+1 < l.length:=HKm.out.2 (by omega)
     have hm1':(m:Int)+1 < (l.length:Int):=by omega
     obtain ⟨gp2,op2,hgp0,_,cp2⟩:=(HI.out.below HR.out.2.1).part hm1;obtain ⟨rfl,rfl⟩:gp=gp2/\op=op2:=by cases hgp0;exact ⟨rfl,rfl⟩
     have hm2:((m+1:Nat):Int)=(m:Int)+1:=by omega
     have HN:Hid (∀ W:World,Below wr.heap.size wr W->(W.cell? ⟨w.heap.size+1,kidp l m k,none⟩=some (I (askRow l m (asksN l m) k (kidp l m k)))/\W.frozen? ⟨w.heap.size+1,kidp l m k,none⟩=false)/\(RowI (W.setCell ⟨w.heap.size+1,kidp l m k,none⟩ (I (x.asked k (rP l (m+1)).is))) (w.heap.size+1) l.length (askRow l m (asksN l m) (k+1))/\Below w.heap.size w (W.setCell ⟨w.heap.size+1,kidp l m k,none⟩ (I (x.asked k (rP l (m+1)).is)))/\(W.setCell ⟨w.heap.size+1,kidp l m k,none⟩ (I (x.asked k (rP l (m+1)).is))).heap[w.heap.size]?=some (.cells #[.slice ao l.length ac,.slice qo nq qc,.slice (some ⟨gp,op,none⟩) l.length pc,.slice eo l.length ec] 65 (0,0))/\(0 < km l m->∃ b1,(some ⟨b,0,none⟩:Option Addr)=some ⟨b1,0,none⟩/\w.heap.size+1 < b1/\b1 < (W.setCell ⟨w.heap.size+1,kidp l m k,none⟩ (I (x.asked k (rP l (m+1)).is))).heap.size/\∀ j,j < km l m->(W.setCell ⟨w.heap.size+1,kidp l m k,none⟩ (I (x.asked k (rP l (m+1)).is))).cell? ⟨b1,j,none⟩=some (I (kidp l m j:Nat))))):=by
      intro W hW;have hRW:=HR.out.1.below hW HR.out.1.lt;refine ⟨⟨hRW.cell HKp.out,hRW.frozen _⟩,?_,(HR.out.2.1.trans (hW.mono HR.out.2.1.size)).trans ((Below.refl w.heap.size W).setCell (p:=⟨w.heap.size+1,kidp l m k,none⟩) (by simp) _),?_,fun _=>⟨b,rfl,hb1,?_,fun j hj=>?_⟩⟩
      ·rw [HAx.out];exact hRW.set _ _
      ·exact (Below.heap_setCell _ _ _ _ (by simp)).trans ((hW.block _ (blk_lt HR.out.2.2.1)).trans HR.out.2.2.1)
      ·rw [World.size_setCell];exact Nat.lt_of_lt_of_le hb2 hW.size
      ·rw [World.cell?_of_block (a:=⟨b,j,none⟩) (Below.heap_setCell W _ _ b (by show b ≠ w.heap.size+1;omega))]
       exact (hW.cell (p:=⟨b,j,none⟩) hb2).trans (hbc j hj)
     have HCi:=hdn <| is_any (rP l (m+1)) wr;clear hbc hgp0 HR HAx;generalize rP l (m+1)=x1 at *;generalize kidp l m k=kp at *;go_wp2_with fail;refine Calls.mono HCi.out ?_;rintro e w3 ⟨rfl,hb3⟩;have HB3:=hdn <| hb3;have HCa:=hdn <| asked_any x k x1.is w3;clear hb3 HCi;go_wp2_with fail;refine Calls.mono HCa.out ?_;rintro e w4 ⟨rfl,hb4⟩;obtain ⟨⟨hc,hf⟩,hN⟩:=HN.out w4 (HB3.out.trans (hb4.mono HB3.out.size));have HN2:=hdn <| hN;clear hb4 HCa HN hN HB3;generalize x.asked k x1.is=y at *;generalize askRow l m (asksN l m) k kp=y0 at hc;go_wp2_with fail;go_roundg (km l m - (k+1))
     case measure=>have:=HG.out;omega
     case rel=>exact ⟨k+1,by omega,rfl,by go_num,HN2.out.1,HN2.out.2.1,HN2.out.2.2.1,HN2.out.2.2.2⟩
    ·have hkl':¬ (k:Int) < (km l m:Int):=by omega
     have hke:k=km l m:=by omega
     have HF:Hid (RowI wr (w.heap.size+1) l.length (asksN l (m+1))/\Below w.heap.size w wr/\wr.heap[w.heap.size]?=some (.cells #[.slice ao l.length ac,.slice qo nq qc,.slice (some ⟨gp,op,none⟩) l.length pc,.slice eo l.length ec] 65 (0,0))):=by
      refine ⟨?_,HR.out.2.1,HR.out.2.2.1⟩;rw [HS.out,<-hke];exact HR.out.1
     clear hke hkl HR;go_wp2_with fail;go_roundg (l.length - (m+1))
     case measure=>have:=HG1.out;omega
     case rel=>exact ⟨m+1,by omega,rfl,by go_num,HF.out.1,HF.out.2.1,HF.out.2.2⟩
  ·have hlt':¬ (m:Int) < (l.length:Int):=by omega
   have hme:m=l.length:=by omega
   have HF:Hid (RowI wr (w.heap.size+1) l.length (asksN l l.length)):=by rw [hme] at HR;exact HR
   clear hme hlt;go_wp2_with fail;go_ret;exact ⟨w.heap.size+1,rfl,by omega,HF.out,HB.out⟩
end Go.Proofs.YtbledbjcghaanaaGreat.Nm.Ty
