import Derived.Test.YtfgpbdieaflclaaGreatK36
set_option maxHeartbeats 3200000
set_option maxRecDepth 100000
namespace Go.Proofs.YtfgpbdieaflclaaGreat.Gr
open Go.RowKit Sp Lx
def stands (k a:Int):Bool:=
 if a=0 then k == 1 else if a=1 then isDecl k || isEvent k else if a=2 then k == 11 else if a=3 then isDoing k else if a=4 then k == 11 || k == 12
 else if a=5 then k == 25 || k == 26 else if a=6 then k == 24 else isEx k
def kidw (d s:Int):Int:=
 if d=1 then 1 else if d=11 then 3 else if d=7\/d=8\/d=9\/d=10 then 2 else if d=19\/d=20 then 6 else if d=38 then 5
 else if d=12 then (if s=1 then 2 else if s=2 then 4 else 7) else if d=13 then (if s=2 then 2 else 7) else if d=15 then (if s=0 then 5 else 7) else 7
def mostk (k:Int):Int:=if k=1\/k=11 then -1 else greatest k
theorem refIsDecl_any (k:Int) (w:World):Calls Tryz.prog 42 #[.int .i64 k] w fun e w'=>e=.returned (.bool (isDecl k))/\w'=w:=by
 by_cases h1:2<=k
 ·go_enter Tryz.func42,Tryz.ntmps42
  go_wp2
  all_goals go_ret
  all_goals exact ⟨by simp [isDecl,wtn,h1],rfl⟩
 ·go_enter Tryz.func42,Tryz.ntmps42
  go_wp2
  all_goals go_ret
  all_goals exact ⟨by simp [isDecl,wtn];omega,rfl⟩
theorem refIsEvent_any (k:Int) (w:World):Calls Tryz.prog 43 #[.int .i64 k] w fun e w'=>e=.returned (.bool (isEvent k))/\w'=w:=by
 by_cases h1:8<=k
 ·go_enter Tryz.func43,Tryz.ntmps43
  go_wp2
  all_goals go_ret
  all_goals exact ⟨by simp [isEvent,wtn,h1],rfl⟩
 ·go_enter Tryz.func43,Tryz.ntmps43
  go_wp2
  all_goals go_ret
  all_goals exact ⟨by simp [isEvent,wtn];omega,rfl⟩
theorem refIsDoing_any (k:Int) (w:World):Calls Tryz.prog 80 #[.int .i64 k] w fun e w'=>e=.returned (.bool (isDoing k))/\w'=w:=by
 by_cases h1:11<=k
 ·go_enter Tryz.func80,Tryz.ntmps80
  go_wp2
  all_goals go_ret
  all_goals exact ⟨by simp [isDoing,wtn,h1],rfl⟩
 ·go_enter Tryz.func80,Tryz.ntmps80
  go_wp2
  all_goals go_ret
  all_goals exact ⟨by simp [isDoing,wtn];omega,rfl⟩
theorem refIsEx_any (k:Int) (w:World):Calls Tryz.prog 81 #[.int .i64 k] w fun e w'=>e=.returned (.bool (isEx k))/\w'=w:=by
 have:isEx k=decide (27<=k/\k<=54):=by simp [isEx,wtn]
 rw [this]
 exact isExpr_any k w
theorem refNamed_any (k:Int) (w:World):Calls Tryz.prog 61 #[.int .i64 k] w fun e w'=>e=.returned (.bool (nmd k))/\w'=w:=by
 have HN:Hid (nmd k=(k == 1 || k == 2 || k == 3 || k == 4 || k == 5 || k == 7 || k == 8 || k == 9 || k == 14 || k == 15 || k == 22 || k == 28 || k == 38 || k == 31 || k == 32 || k == 35 || k == 36 || k == 37 || decide (0 < lastEnd k))):=rfl
 generalize nmd k=R at *
 go_enter Tryz.func61,Tryz.ntmps61
 go_wp2
 all_goals go_ret
 all_goals refine ⟨?_,rfl⟩
 all_goals rw [HN.out]
 all_goals simp only [beq_iff_eq,beq_eq_false_iff_ne,ne_eq] at *
 all_goals simp [lastEnd, *]
theorem refEnded_any (k:Int) (w:World):Calls Tryz.prog 60 #[.int .i64 k] w fun e w'=>e=.returned (.bool (lastEnd k == 1))/\w'=w:=by
 go_enter Tryz.func60,Tryz.ntmps60
 go_wp2
 all_goals go_ret
 all_goals refine ⟨?_,rfl⟩
 all_goals simp only [beq_iff_eq,beq_eq_false_iff_ne,ne_eq] at *
 all_goals simp [lastEnd, *]
theorem many_any (k:Int) (w:World):Calls Tryz.prog 63 #[.int .i64 k] w fun e w'=>e=.returned (.tuple #[.int .i64 (least k:Nat),.int .i64 (mostk k)])/\w'=w:=by
 have HR:Hid (ruleOf k < 6 ↔ (43<=k/\k<=54)):=by
  show _ ↔ _
  unfold ruleOf
  repeat' split
  all_goals omega
 go_enter Tryz.func63,Tryz.ntmps63
 go_wp2
 all_goals go_ret2
 all_goals refine ⟨?_,rfl⟩
 all_goals simp only [beq_iff_eq,beq_eq_false_iff_ne,ne_eq] at *
 all_goals first
  | (simp [least,greatest,mostk, *];done)
  | (have hr:=HR.out
     by_cases hq:ruleOf k < 6
     ·first
       | (exfalso;omega)
       | (clear hr;simp [least,greatest,mostk, *])
     ·first
       | (exfalso;omega)
       | (clear hr;simp [least,greatest,mostk, *]))
theorem kidw_any (d s:Int) (w:World):Calls Tryz.prog 40 #[.int .i64 d,.int .i64 s] w fun e w'=>e=.returned (.int .i64 (kidw d s))/\w'=w:=by
 go_enter Tryz.func40,Tryz.ntmps40
 go_wp2
 all_goals go_ret
 all_goals refine ⟨?_,rfl⟩
 all_goals simp only [beq_iff_eq,beq_eq_false_iff_ne,ne_eq] at *
 all_goals simp [kidw, *]
theorem stands_any (k a:Int) (w:World):Calls Tryz.prog 59 #[.int .i64 k,.int .i64 a] w fun e w'=>e=.returned (.bool (stands k a))/\w'=w:=by
 have HS:Hid (stands k a=if a=0 then k == 1 else if a=1 then isDecl k || isEvent k else if a=2 then k == 11 else if a=3 then isDoing k else if a=4 then k == 11 || k == 12
  else if a=5 then k == 25 || k == 26 else if a=6 then k == 24 else isEx k):=rfl
 generalize stands k a=R at *
 have H1:Hid (∀ w,Calls Tryz.prog 42 #[.int .i64 k] w fun e w'=>e=.returned (.bool (isDecl k))/\w'=w):=fun w=>refIsDecl_any k w
 have H2:Hid (∀ w,Calls Tryz.prog 43 #[.int .i64 k] w fun e w'=>e=.returned (.bool (isEvent k))/\w'=w):=fun w=>refIsEvent_any k w
 have H3:Hid (∀ w,Calls Tryz.prog 80 #[.int .i64 k] w fun e w'=>e=.returned (.bool (isDoing k))/\w'=w):=fun w=>refIsDoing_any k w
 have H4:Hid (∀ w,Calls Tryz.prog 81 #[.int .i64 k] w fun e w'=>e=.returned (.bool (isEx k))/\w'=w):=fun w=>refIsEx_any k w
 generalize isDecl k=b1 at *
 generalize isEvent k=b2 at *
 generalize isDoing k=b3 at *
 generalize isEx k=b4 at *
 go_enter Tryz.func59,Tryz.ntmps59
 cases b1
 all_goals go_wp2_with (first
  | (go_at_call 42;refine (H1.out _).mono ?_;rintro e w' ⟨rfl,rfl⟩)
  | (go_at_call 43;refine (H2.out _).mono ?_;rintro e w' ⟨rfl,rfl⟩)
  | (go_at_call 80;refine (H3.out _).mono ?_;rintro e w' ⟨rfl,rfl⟩)
  | (go_at_call 81;refine (H4.out _).mono ?_;rintro e w' ⟨rfl,rfl⟩))
 all_goals go_ret
 all_goals refine ⟨?_,rfl⟩
 all_goals rw [HS.out]
 all_goals simp only [beq_iff_eq,beq_eq_false_iff_ne,ne_eq] at *
 all_goals simp [*]
structure Op3 where
 kind:Int
 left:Int
 next:Nat
def rtake:List Op3->List Op3
 | []=>[]
 | o :: t=>⟨o.kind,o.left - 1,o.next+1⟩ :: t
def rpop:List Op3->List Op3
 | []=>[]
 | o :: t=>if o.left=0 then rpop t else o :: t
def whatOf:List Op3->Int
 | []=>0
 | o :: _=>kidw o.kind o.next
def shp:List Op3->Bool->Nat->List Rz->Int
 | _,_,i,[]=>i
 | t,ev,i,r :: l=>
  if !(stands r.kind (whatOf t) && filled r) then i
  else if whatOf t == 1 && (ev && isDecl r.kind) then i
  else if (rpop (⟨r.kind,r.kids,0⟩ :: rtake t)).isEmpty then (if l.isEmpty then -1 else ((i+1:Nat):Int))
  else shp (rpop (⟨r.kind,r.kids,0⟩ :: rtake t)) (if whatOf t == 1 then ev || isEvent r.kind else ev) (i+1) l
def Eq3 (a:Ab) (o:Op3):Prop:=a.kind=o.kind/\a.seen=o.next/\a.kids=o.left+o.next/\0<=o.left
inductive Rl:List Ab->List Op3->Bool->Prop
 | root {p q b} : Eq3 p q->p.kind=1->b.kids<=(b.seen:Int)->Rl [p,b] [q] (isEvent p.kid)
 | up {a o t l ev} : Eq3 a o->2<=a.kind->Rl t l ev->Rl (a :: t) (o :: l) ev
theorem rl_pop {t:List Ab} {l:List Op3} {ev:Bool} (h:Rl t l ev):(pop t=[]/\rpop l=[])\/(Rl (pop t) (rpop l) ev/\(∃ a r,pop t=a :: r/\(a.seen:Int) < a.kids)):=by
 induction h with
 | @root p q b h1 h2 h3=>
  have ⟨k1,k2,k3,k4⟩:=h1
  by_cases hc:p.kids<=(p.seen:Int)
  ·have:q.left=0:=by omega
   left
   simp only [pop,rpop,if_pos hc,if_pos h3,if_pos this,and_self]
  ·have:¬ q.left=0:=by omega
   right
   simp only [pop,rpop,if_neg hc,if_neg this]
   exact ⟨.root h1 h2 h3,p,[b],rfl,by omega⟩
 | @up a o t l ev h1 h2 h3 ih=>
  have ⟨k1,k2,k3,k4⟩:=h1
  by_cases hc:a.kids<=(a.seen:Int)
  ·have:o.left=0:=by omega
   simp only [pop,rpop,if_pos hc,if_pos this]
   exact ih
  ·have:¬ o.left=0:=by omega
   right
   simp only [pop,rpop,if_neg hc,if_neg this]
   exact ⟨.up h1 h2 h3,a,t,rfl,by omega⟩
theorem rl_ne {t:List Ab} {l:List Op3} {ev:Bool} (h:Rl t l ev):∃ a t' o l',t=a :: t'/\l=o :: l'/\Eq3 a o/\1<=a.kind:=by
 cases h with
 | root h1 h2 h3=>exact ⟨_,_,_,_,rfl,rfl,h1,by omega⟩
 | up h1 h2 h3=>exact ⟨_,_,_,_,rfl,rfl,h1,by omega⟩
theorem stand_same (d s c k:Int) (h:1<=d):mayStand d s c k=(stands k (kidw d s) && !(kidw d s == 1 && (isEvent c && isDecl k))):=by
 have hd:isDecl k=true->isEvent k=false:=fun h=>by simp [isDecl,isEvent,wtn] at *;omega
 by_cases h1:d=1
 ·subst h1
  simp only [mayStand,kidw,stands]
  cases h2:isDecl k<;>cases h3:isEvent k<;>cases h4:isEvent c<;>simp_all
 ·by_cases h11:d=11
  ·subst h11;simp [mayStand,kidw,stands]
  ·by_cases h7:d=7\/d=8\/d=9\/d=10
   ·rcases h7 with rfl | rfl | rfl | rfl<;>simp [mayStand,kidw,stands]
   ·by_cases h19:d=19\/d=20
    ·rcases h19 with rfl | rfl<;>simp [mayStand,kidw,stands]
    ·by_cases h38:d=38
     ·subst h38;simp [mayStand,kidw,stands,isItem]
     ·by_cases h12:d=12
      ·subst h12
       by_cases s1:s=1
       ·subst s1;simp [mayStand,mayFollow,kidw,stands]
       ·by_cases s2:s=2
        ·subst s2;simp [mayStand,mayFollow,kidw,stands]
        ·simp [mayStand,mayFollow,kidw,stands,s1,s2]
      ·by_cases h13:d=13
       ·subst h13
        by_cases s2:s=2
        ·subst s2;simp [mayStand,mayFollow,kidw,stands]
        ·simp [mayStand,mayFollow,kidw,stands,s2]
       ·by_cases h15:d=15
        ·subst h15
         by_cases s0:s=0
         ·subst s0;simp [mayStand,mayFollow,kidw,stands,isItem]
         ·simp [mayStand,mayFollow,kidw,stands,s0]
        ·have h0:¬ d=0:=by omega
         simp only [mayStand,mayFollow,kidw,stands,if_neg h0,if_neg h1,if_neg h11,if_neg h7,if_neg h19,if_neg h38,h12,h13,h15,false_and,or_self,if_false]
         simp
theorem stands_two {k a:Int} (h0:a ≠ 0) (h:stands k a=true):2<=k:=by
 unfold stands at h
 rw [if_neg h0] at h
 repeat' split at h
 all_goals simp [isDecl,isEvent,isDoing,isEx,wtn] at h
 all_goals omega
theorem kidw_ne (d s:Int):kidw d s ≠ 0:=by
 unfold kidw
 repeat' split
 all_goals simp
theorem kidw_one {d s:Int} (h:(kidw d s == 1)=true):d=1:=by
 by_cases h1:d=1
 ·exact h1
 ·simp only [beq_iff_eq] at h
  unfold kidw at h
  rw [if_neg h1] at h
  repeat' split at h
  all_goals simp at h
theorem kidw_root (s:Int):kidw 1 s=1:=by simp [kidw]
def same3 (p:Nat × Bool) (n:Int):Prop:=(p.2=true/\n=p.1)\/(p.2=false/\n=-1)
theorem shp_wrong (l:List Rz):∀ (t:List Ab) (g:List Op3) (ev:Bool) (i:Nat),Rl t g ev->(∃ a r,t=a :: r/\(a.seen:Int) < a.kids)->same3 (wrong t i l) (shp g ev i l):=by
 induction l with
 | nil=>
  intro t g ev i h _
  obtain ⟨a,t',o,l',rfl,rfl,_,_⟩:=rl_ne h
  exact Or.inl ⟨rfl,rfl⟩
 | cons r l ih=>
  intro t g ev i h hinc
  obtain ⟨a,t',o,l',rfl,rfl,h1,h2⟩:=rl_ne h
  have ⟨k1,k2,k3,k4⟩:=h1
  obtain ⟨a',r',e',hlt⟩:=hinc
  cases e'
  have hms:=stand_same a.kind a.seen a.kid r.kind h2
  have hev:kidw a.kind a.seen == 1->isEvent a.kid=ev:=by
   intro hk
   have:=kidw_one hk
   cases h with
   | root=>rfl
   | up _ h4 _=>omega
  have hw:whatOf (o :: l')=kidw a.kind a.seen:=by show kidw o.kind o.next=_;rw [k1,k2]
  have hbad:(!(mayStand a.kind a.seen a.kid r.kind && filled r))=(!(stands r.kind (kidw a.kind a.seen) && filled r) || (kidw a.kind a.seen == 1 && (ev && isDecl r.kind))):=by
   rw [hms]
   cases hk:(kidw a.kind a.seen == 1)
   ·simp
   ·rw [hev hk]
    cases stands r.kind (kidw a.kind a.seen)<;>cases filled r<;>cases ev<;>cases isDecl r.kind<;>rfl
  show same3 (if (a :: t').isEmpty || !(mayStand a.kind a.seen a.kid r.kind && filled r) then (i,true) else wrong (past (a :: t') r 0) (i+1) l) _
  rw [show (a :: t').isEmpty=false from rfl,Bool.false_or,hbad]
  simp only [shp,hw]
  cases hs:(stands r.kind (kidw a.kind a.seen) && filled r)
  ·simp [same3]
  ·cases hd:(kidw a.kind a.seen == 1 && (ev && isDecl r.kind))
   ·simp only [Bool.not_true,Bool.false_or,Bool.false_eq_true,if_false]
    rw [Bool.and_eq_true] at hs
    have hk2:=stands_two (kidw_ne _ _) hs.1
    have hnew:Eq3 ⟨r.kind,r.kids,0,0,0⟩ ⟨r.kind,r.kids,0⟩:=⟨rfl,rfl,by simp,filled_kids hs.2⟩
    have hupd:Eq3 ⟨a.kind,a.kids,a.seen+1,r.kind,a.levels⟩ ⟨o.kind,o.left - 1,o.next+1⟩:=⟨k1,by show _+1=_+1;rw [k2],by show a.kids=o.left - 1+((o.next+1:Nat):Int);omega,by show 0<=o.left - 1;omega⟩
    have hR:Rl (⟨r.kind,r.kids,0,0,0⟩ :: bump r.kind (a :: t')) (⟨r.kind,r.kids,0⟩ :: rtake (o :: l')) (if kidw a.kind a.seen == 1 then ev || isEvent r.kind else ev):=by
     refine .up hnew hk2 ?_
     cases h with
     | root h3 h4 h5=>
      have e1:(kidw a.kind a.seen == 1)=true:=by rw [h4,kidw_root];rfl
      rw [e1] at hd ⊢
      have:(if true=true then isEvent a.kid || isEvent r.kind else isEvent a.kid)=isEvent r.kind:=by
       rw [if_pos rfl]
       have hs1:=hs.1
       rw [h4,kidw_root] at hs1
       have:(isDecl r.kind || isEvent r.kind)=true:=by simpa [stands] using hs1
       cases h6:isEvent a.kid<;>cases h7:isDecl r.kind<;>cases h8:isEvent r.kind<;>simp_all
      rw [this]
      exact .root hupd h4 h5
     | up h3 h4 h5=>
      have e1:(kidw a.kind a.seen == 1)=false:=by
       cases hx:(kidw a.kind a.seen == 1)
       ·rfl
       ·have:=kidw_one hx;omega
      rw [e1]
      exact .up hupd h4 h5
    rcases rl_pop hR with ⟨e1,e2⟩ | ⟨e1,e2⟩
    ·rw [show past (a :: t') r 0=[] from e1,e2]
     simp only [List.isEmpty_nil,if_true]
     cases l with
     | nil=>exact Or.inr ⟨rfl,rfl⟩
     | cons x l=>exact Or.inl ⟨rfl,rfl⟩
    ·have hne:(rpop (⟨r.kind,r.kids,0⟩ :: rtake (o :: l'))).isEmpty=false:=by
      obtain ⟨_,_,_,_,_,e3,_,_⟩:=rl_ne e1
      rw [e3];rfl
     rw [hne]
     simp only [Bool.false_eq_true,if_false]
     exact ih _ _ _ _ e1 e2
   ·simp [same3]
theorem shp_wrong0 (l:List Rz):same3 (wrong [ab1] 0 l) (shp [] false 0 l):=by
 cases l with
 | nil=>exact Or.inl ⟨rfl,rfl⟩
 | cons r l=>
  show same3 (if [ab1].isEmpty || !(mayStand 0 0 0 r.kind && filled r) then (0,true) else wrong (past [ab1] r 0) 1 l) _
  have e0:mayStand 0 0 0 r.kind=stands r.kind 0:=by simp [mayStand,stands]
  rw [show [ab1].isEmpty=false from rfl,Bool.false_or,e0]
  simp only [shp,whatOf]
  by_cases hs:(stands r.kind 0 && filled r)=true
  case neg=>
   rw [Bool.not_eq_true] at hs
   simp only [hs,Bool.not_false,if_true]
   exact Or.inl ⟨rfl,rfl⟩
  case pos=>
   have h01:((0:Int) == 1)=false:=rfl
   simp only [hs,h01,Bool.not_true,Bool.false_and,Bool.false_eq_true,if_false]
   rw [Bool.and_eq_true] at hs
   have hk1:r.kind=1:=by simpa [stands] using hs.1
   have hnew:Eq3 ⟨r.kind,r.kids,0,0,0⟩ ⟨r.kind,r.kids,0⟩:=⟨rfl,rfl,by simp,filled_kids hs.2⟩
   have hR:Rl (⟨r.kind,r.kids,0,0,0⟩ :: bump r.kind [ab1]) (⟨r.kind,r.kids,0⟩ :: rtake []) false:=.root hnew hk1 (by show (1:Int)<=((0+1:Nat):Int);omega)
   rcases rl_pop hR with ⟨e1,e2⟩ | ⟨e1,e2⟩
   ·rw [show past [ab1] r 0=[] from e1,e2]
    simp only [List.isEmpty_nil,if_true]
    cases l with
    | nil=>exact Or.inr ⟨rfl,rfl⟩
    | cons x l=>exact Or.inl ⟨rfl,rfl⟩
   ·have hne:(rpop (⟨r.kind,r.kids,0⟩ :: rtake [])).isEmpty=false:=by
     obtain ⟨_,_,_,_,_,e3,_,_⟩:=rl_ne e1
     rw [e3];rfl
    rw [hne]
    simp only [Bool.false_eq_true,if_false]
    exact shp_wrong l _ _ _ _ e1 e2
theorem info81:(Tryz.prog.info? 81).map (fun i=>(i.zero,i.size,i.bytes))=some (some (.agg #[.int .i64 0,.int .i64 0,.int .i64 0]),3,24):=by kernel_rfl
def oc (o:Op3):List Value:=[.int .i64 o.kind,.int .i64 o.left,.int .i64 o.next]
def tox (t:List Op3):List Value:=t.reverse.flatMap oc
theorem tox_cons (o:Op3) (t:List Op3):tox (o :: t)=tox t++oc o:=by simp [tox]
theorem tox_len (t:List Op3):(tox t).length=t.length * 3:=by
 induction t with
 | nil=>rfl
 | cons a t ih=>rw [tox_cons,List.length_append,ih,List.length_cons];show _+3=_;omega
theorem tox_top (o:Op3) (t:List Op3) (j:Nat):(tox (o :: t))[t.length * 3+j]?=(oc o)[j]?:=by
 rw [tox_cons,List.getElem?_append_right (by rw [tox_len];omega),tox_len]
 congr 1
 omega
theorem tox_set (a b:Op3) (t:List Op3) (j:Nat) (u:Value) (h:oc b=(oc a).set j u):(tox (a :: t)).set (t.length * 3+j) u=tox (b :: t):=by
 rw [tox_cons,tox_cons,List.set_append_right _ _ (by rw [tox_len];omega),tox_len,h]
 congr 2
 omega
abbrev OwnO (w:World) (base:Nat) (v:Value) (t:List Op3):Prop:=w.ownsRow base 81 3 v t.length (tox t)
theorem own_otop {w:World} {base:Nat} {v:Value} {a:Op3} {t:List Op3} (h:OwnO w base v (a :: t)):∃ g cap,v=.slice (some ⟨g,0,none⟩) (t.length+1) cap/\base<=g/\g < w.heap.size/\t.length+1<=cap/\(∀ j,w.frozen? ⟨g,j,none⟩=false) /\
  ∀ W:World,W.heap[g]?=w.heap[g]?->W.cell? ⟨g,t.length * 3,none⟩=some (.int .i64 a.kind)/\W.cell? ⟨g,t.length * 3+1,none⟩=some (.int .i64 a.left)/\W.cell? ⟨g,t.length * 3+2,none⟩=some (.int .i64 a.next):=by
 obtain ⟨g,cap,cur,rfl,h2,h3,h4,h5,h6,h7⟩:=own_block h (by simp)
 have hlt:=(Array.getElem?_eq_some_iff.1 h3).1
 refine ⟨g,cap,rfl,h2,hlt,h4,fun j=>h.frozenAt j,fun W hW=>?_⟩
 have hc:∀ j,j < 3->W.cell? ⟨g,t.length * 3+j,none⟩=(oc a)[j]?:=fun j hj=>by
  rw [World.cell?_of_block (w:=w) (w':=W) (a:=⟨g,t.length * 3+j,none⟩) hW,<-tox_top a t j]
  exact h.cellAt _ (by simp only [List.length_cons];omega)
 exact ⟨hc 0 (by omega),hc 1 (by omega),hc 2 (by omega)⟩
theorem own_opop {w:World} {base g cap:Nat} {a:Op3} {t:List Op3} (h:OwnO w base (.slice (some ⟨g,0,none⟩) (t.length+1) cap) (a :: t)):OwnO w base (.slice (some ⟨g,0,none⟩) t.length cap) t:=by
 refine ownsRow_pop (last:=oc a) (tox_len t) ?_
 rw [<-tox_cons]
 exact h
theorem own_opush {w':World} {base:Nat} {v':Value} {t:List Op3} {a:Op3} (h:w'.ownsRow base 81 3 v' (t.length+1) (tox t++oc a)):OwnO w' base v' (a :: t):=by
 rw [<-tox_cons] at h
 exact h
theorem own_take {w:World} {base g cap:Nat} {a:Op3} {t:List Op3} (h:OwnO w base (.slice (some ⟨g,0,none⟩) (t.length+1) cap) (a :: t)):
  OwnO ((w.setCell ⟨g,t.length * 3+2,none⟩ (.int .i64 ((a.next:Int)+1))).setCell ⟨g,t.length * 3+1,none⟩ (.int .i64 (a.left - 1))) base (.slice (some ⟨g,0,none⟩) (t.length+1) cap) (rtake (a :: t)) /\
  Went w (.slice (some ⟨g,0,none⟩) (t.length+1) cap) ((w.setCell ⟨g,t.length * 3+2,none⟩ (.int .i64 ((a.next:Int)+1))).setCell ⟨g,t.length * 3+1,none⟩ (.int .i64 (a.left - 1))) (.slice (some ⟨g,0,none⟩) (t.length+1) cap) /\
  (∀ j,(w.setCell ⟨g,t.length * 3+2,none⟩ (.int .i64 ((a.next:Int)+1))).frozen? ⟨g,j,none⟩=false) /\
  (w.setCell ⟨g,t.length * 3+2,none⟩ (.int .i64 ((a.next:Int)+1))).cell? ⟨g,t.length * 3+1,none⟩=some (.int .i64 a.left):=by
 obtain ⟨h1,g1⟩:=World.ownsRow.stored h (t.length * 3+2) (.int .i64 ((a.next:Int)+1))
 obtain ⟨h2,g2⟩:=World.ownsRow.stored h1 (t.length * 3+1) (.int .i64 (a.left - 1))
 have e1:=h1
 rw [tox_set a ⟨a.kind,a.left,a.next+1⟩ t 2 _ (by simp [oc])] at e1 h2
 rw [tox_set ⟨a.kind,a.left,a.next+1⟩ ⟨a.kind,a.left - 1,a.next+1⟩ t 1 _ rfl] at h2
 refine ⟨h2,(Went.mk g1 (Or.inl rfl)).trans (Went.mk g2 (Or.inl rfl)),fun j=>h1.frozenAt j,?_⟩
 rw [e1.cellAt _ (by omega)]
 exact tox_top ⟨a.kind,a.left,a.next+1⟩ t 1
def OkO (n:Nat) (t:List Op3):Prop:=∀ o ∈ t,0<=o.left/\o.left<=9223372036854775807/\o.next<=n
theorem ok_pop {n:Nat} {t:List Op3} (h:OkO n t):OkO n (rpop t):=by
 induction t with
 | nil=>exact h
 | cons a t ih=>
  simp only [rpop]
  split
  ·exact ih fun b hb=>h b (List.mem_cons_of_mem _ hb)
  ·exact h
theorem ok_take {n:Nat} {t:List Op3} (h:OkO n t) (h0:∀ o r,t=o :: r->o.left ≠ 0):OkO (n+1) (rtake t):=by
 cases t with
 | nil=>exact fun _ h=>by cases h
 | cons a t=>
  intro o ho
  have ha:=h a (List.mem_cons_self ..)
  have h1:=h0 a t rfl
  rcases List.mem_cons.1 ho with rfl | ho
  ·exact ⟨by show 0<=a.left - 1;omega,by show a.left - 1<=_;omega,by show a.next+1<=n+1;omega⟩
  ·have:=h o (List.mem_cons_of_mem _ ho);omega
theorem rpop_hd (t:List Op3):∀ o r,rpop t=o :: r->o.left ≠ 0:=by
 induction t with
 | nil=>intro o r h;cases h
 | cons a t ih=>
  intro o r h
  simp only [rpop] at h
  split at h
  ·exact ih o r h
  ·cases h;assumption
theorem rpop_len (t:List Op3):(rpop t).length<=t.length:=by
 induction t with
 | nil=>exact Nat.le_refl _
 | cons a t ih=>
  simp only [rpop]
  split
  ·exact Nat.le_succ_of_le ih
  ·exact Nat.le_refl _
theorem rtake_len (t:List Op3):(rtake t).length=t.length:=by cases t<;>rfl
theorem cell_three (w:World) (T:TypeId) (a b c:Value):∀ j u,[a,b,c][j]?=some u->(w.alloc (.cells #[a,b,c] T)).cell? ((⟨w.heap.size,0,none⟩:Addr).add j)=some u:=by
 intro j u h
 have:=Lib.cells_of_row (heap_alloc_new w (.cells #[a,b,c] T)) 3 j u (by simpa using h)
 exact this
end Go.Proofs.YtfgpbdieaflclaaGreat.Gr
namespace Go.Proofs.YtfgpbdieaflclaaGreat.Lx
open Go.RowKit Sp
theorem isL_W (c:Nat) (h:isL c=true):isW c=true:=by simp [isW,h]
theorem letter_any (c:Nat) (w:World):Calls Tryz.prog 91 #[.int .u8 c] w fun e w'=>e=.returned (.bool (isL c))/\w'=w:=by
 have HF:Hid (isL c=((decide (97<=c) && decide (c<=122)) || (decide (65<=c) && decide (c<=90)) || c == 95)):=rfl
 by_cases h1:97<=c
 ·by_cases h2:c<=122
  ·go_enter Tryz.func91,Tryz.ntmps91
   go_wp2
   go_ret
   exact ⟨ret_b (by rw [HF.out];simp [h1,h2]),rfl⟩
  ·have h3:((c:Int) == 95)=false:=by simp;omega
   go_enter Tryz.func91,Tryz.ntmps91
   go_wp2
   go_ret
   exact ⟨ret_b (by rw [HF.out,Bool.eq_iff_iff];simp;omega),rfl⟩
 ·by_cases h2:65<=c
  ·by_cases h3:c<=90
   ·go_enter Tryz.func91,Tryz.ntmps91
    go_wp2
    go_ret
    exact ⟨ret_b (by rw [HF.out];simp [h2,h3]),rfl⟩
   ·go_enter Tryz.func91,Tryz.ntmps91
    go_wp2
    go_ret
    exact ⟨ret_b (by rw [HF.out,Bool.eq_iff_iff];simp;omega),rfl⟩
  ·have h3:((c:Int) == 95)=false:=by simp;omega
   go_enter Tryz.func91,Tryz.ntmps91
   go_wp2
   go_ret
   exact ⟨ret_b (by rw [HF.out,Bool.eq_iff_iff];simp;omega),rfl⟩
theorem digit_any (c:Nat) (w:World):Calls Tryz.prog 92 #[.int .u8 c] w fun e w'=>e=.returned (.bool (isD c))/\w'=w:=by
 have HF:Hid (isD c=(decide (48<=c) && decide (c<=57))):=rfl
 by_cases h1:48<=c
 ·go_enter Tryz.func92,Tryz.ntmps92
  go_wp2
  go_ret
  exact ⟨ret_b (by rw [HF.out,Bool.eq_iff_iff];simp;omega),rfl⟩
 ·go_enter Tryz.func92,Tryz.ntmps92
  go_wp2
  go_ret
  exact ⟨ret_b (by rw [HF.out];simp [h1]),rfl⟩
theorem index_any (s:ByteArray) (k:Nat) (K:Int) (hK:K=(k:Int)) (hk:k < s.size) (w:World):(Instr.index 9 (.string s) (.int .i64 K)).run Tryz.prog w=.ok (.int .u8 (nb s k:Nat)) w:=by
 subst hK
 rw [run_index_string w 9 s .i64 (k:Int) Tryz.underlying9,dif_pos ⟨by omega,by omega⟩,nb_get s k hk]
 simp
def shp (s:ByteArray) (k:Nat):Bool:=(List.range k).all fun i=>isL (nb s i) || (i != 0 && isD (nb s i))
theorem shp_succ (s:ByteArray) (k:Nat):shp s (k+1)=(shp s k && (isL (nb s k) || (k != 0 && isD (nb s k)))):=by
 unfold shp
 rw [List.range_succ,List.all_append]
 simp
theorem shp_no {s:ByteArray} {k m:Nat} (h:(isL (nb s k) || (k != 0 && isD (nb s k)))=false) (hk:k < m):shp s m=false:=by
 cases h1:shp s m with
 | false=>rfl
 | true=>
  unfold shp at h1
  have:=List.all_eq_true.1 h1 k (by simp;omega)
  rw [h] at this
  cases this
theorem shaped_any (s:ByteArray) (w:World) (hs:s.size<=4611686018427387904):
  Calls Tryz.prog 82 #[.string s] w fun e w'=>e=.returned (.bool (shp s s.size && decide (0 < s.size)))/\w'=w:=by
 go_enter Tryz.func82,Tryz.ntmps82
 go_wp2
 go_loop [3] (fun i=>∃ k:Nat,k<=s.size/\i=.int .i64 k/\shp s k=true) (fun i=>s.size - (intOf i).toNat)
 case atStart=>exact ⟨0,Nat.zero_le _,rfl,rfl⟩
 case round=>
  obtain ⟨k,hk,rfl,hr⟩:=hrel
  have HR:Hid (shp s k=true):=hr
  clear hr
  by_cases hlt:k < s.size
  ·have hix:=index_any s k _ rfl hlt
   by_cases hL:isL (nb s k)=true
   ·have HN:Hid (shp s (k+1)=true):=by show _=_;rw [shp_succ,HR.out,hL];rfl
    generalize nb s k=c at *
    go_wp2_with fail
    refine (letter_any c _).mono ?_
    rintro e w' ⟨rfl,rfl⟩
    go_wp2_with fail
    go_round
    case rel=>exact ⟨k+1,by omega,by go_num,HN.out⟩
    case measure=>simp [intOf];omega
   ·have hL:isL (nb s k)=false:=by simpa using hL
    by_cases h0:k=0
    ·have hq:((k:Int) == 0)=true:=by simp [h0]
     have HN:Hid (shp s s.size=false):=shp_no (k:=k) (by rw [hL,h0];rfl) hlt
     clear h0
     generalize nb s k=c at *
     go_wp2_with fail
     refine (letter_any c _).mono ?_
     rintro e w' ⟨rfl,rfl⟩
     go_wp2_with fail
     go_ret
     exact ⟨ret_b (by rw [HN.out];rfl),rfl⟩
    ·have hq:((k:Int) == 0)=false:=by simp;omega
     by_cases hD:isD (nb s k)=true
     ·have HN:Hid (shp s (k+1)=true):=by
       show _=_
       rw [shp_succ,HR.out,hL,hD]
       simp [h0]
      generalize nb s k=c at *
      go_wp2_with fail
      refine (letter_any c _).mono ?_
      rintro e w' ⟨rfl,rfl⟩
      go_wp2_with fail
      refine (digit_any c _).mono ?_
      rintro e w' ⟨rfl,rfl⟩
      go_wp2_with fail
      go_round
      case rel=>exact ⟨k+1,by omega,by go_num,HN.out⟩
      case measure=>simp [intOf];omega
     ·have hD:isD (nb s k)=false:=by simpa using hD
      have HN:Hid (shp s s.size=false):=shp_no (k:=k) (by rw [hL,hD];simp) hlt
      generalize nb s k=c at *
      go_wp2_with fail
      refine (letter_any c _).mono ?_
      rintro e w' ⟨rfl,rfl⟩
      go_wp2_with fail
      refine (digit_any c _).mono ?_
      rintro e w' ⟨rfl,rfl⟩
      go_wp2_with fail
      go_ret
      exact ⟨ret_b (by rw [HN.out];rfl),rfl⟩
  ·obtain rfl:k=s.size:=by omega
   go_wp2_with fail
   go_ret
   exact ⟨ret_b (by rw [HR.out];simp),rfl⟩
theorem occurs_iff {K t:List Nat} {i:Nat} (h:i+t.length+2<=K.length):Occurs K t i ↔ (K.getD i 0=32/\K.getD (i+t.length+1) 0=32/\(K.drop (i+1)).take t.length=t):=by
 constructor
 ·rintro ⟨a,b,rfl,rfl⟩
  refine ⟨by simp [List.getD],?_,?_⟩
  ·have:(a++32 :: (t++32 :: b))[a.length+t.length+1]?=some 32:=by
    rw [List.getElem?_append_right (by omega),show a.length+t.length+1 - a.length=t.length+1 by omega,List.getElem?_cons_succ,List.getElem?_append_right (by omega)]
    simp
   rw [List.getD,this];rfl
  ·rw [<-List.drop_drop,List.drop_left]
   simp
 ·rintro ⟨h1,h2,h3⟩
  refine ⟨K.take i,K.drop (i+t.length+2),?_,by simp;omega⟩
  have e1:K.drop i=32 :: K.drop (i+1):=by
   rw [List.drop_eq_getElem_cons (by omega)]
   rw [List.getD,List.getElem?_eq_getElem (by omega)] at h1
   simp only [Option.getD_some] at h1
   rw [h1]
  have e2:K.drop (i+1)=t++K.drop (i+1+t.length):=by
   have:=(List.take_append_drop t.length (K.drop (i+1))).symm
   rw [h3,List.drop_drop] at this
   exact this
  have e3:K.drop (i+1+t.length)=32 :: K.drop (i+t.length+2):=by
   rw [List.drop_eq_getElem_cons (by omega)]
   rw [List.getD,List.getElem?_eq_getElem (by omega)] at h2
   simp only [Option.getD_some] at h2
   rw [show i+1+t.length+1=i+t.length+2 by omega]
   congr 1
   rw [<-h2]
   congr 1
   omega
  rw [<-e3,<-e2,<-e1,List.take_append_drop]
theorem occurs_len {K t:List Nat} {i:Nat} (h:Occurs K t i):i+t.length+2<=K.length:=by
 obtain ⟨a,b,rfl,rfl⟩:=h
 simp;omega
def am (K t:List Nat):Bool:=decide (0 < t.length) && t.all (· != 32) && decide (t ∈ inner K)
theorem am_blank {K t:List Nat} {i:Nat} (hi:i < t.length) (h:t.getD i 0=32):am K t=false:=by
 have:t.all (· != 32)=false:=by
  rw [Bool.eq_false_iff]
  intro h1
  have:=List.all_eq_true.1 h1 t[i] (List.getElem_mem _)
  rw [List.getD,List.getElem?_eq_getElem hi] at h
  simp only [Option.getD_some] at h
  rw [h] at this
  cases this
 simp [am,this]
theorem am_hit {K t:List Nat} {i:Nat} (h32:∀ j,j < t.length->t.getD j 0 ≠ 32) (h:Occurs K t i):am K t=decide (0 < t.length):=by
 have h1:∀ c ∈ t,c ≠ 32:=fun c hc=>by
  obtain ⟨j,hj,rfl⟩:=List.getElem_of_mem hc
  have:=h32 j hj
  rw [List.getD,List.getElem?_eq_getElem hj] at this
  exact this
 have h2:t.all (· != 32)=true:=List.all_eq_true.2 fun c hc=>by simpa using h1 c hc
 simp [am,h2,(inner_iff h1).2 ⟨i,h⟩]
theorem am_none {K t:List Nat} (h32:∀ j,j < t.length->t.getD j 0 ≠ 32) (h:∀ i,¬ Occurs K t i):am K t=false:=by
 have h1:∀ c ∈ t,c ≠ 32:=fun c hc=>by
  obtain ⟨j,hj,rfl⟩:=List.getElem_of_mem hc
  have:=h32 j hj
  rw [List.getD,List.getElem?_eq_getElem hj] at this
  exact this
 have h2:¬ t ∈ inner K:=fun h3=>by
  obtain ⟨i,h4⟩:=(inner_iff h1).1 h3
  exact h i h4
 simp [am,h2]
end Go.Proofs.YtfgpbdieaflclaaGreat.Lx
