import Derived.Test.YtfgpbdieaflclaaGreatK01
import Derived.WalkSmall
set_option maxHeartbeats 3200000
namespace Go.Proofs.YtfgpbdieaflclaaGreat.Gr
def rz0:Rz:=⟨0,⟨#[]⟩,0,0,0⟩
abbrev rat (l:List Rz) (i:Nat):Rz:=l.getD i rz0
theorem rat_some {l:List Rz} {i:Nat} {r:Rz} (h:l[i]?=some r):rat l i=r:=by simp [rat,List.getD_eq_getElem?_getD,h]
theorem some_rat {l:List Rz} {i:Nat} (h:i < l.length):l[i]?=some (rat l i):=by simp [rat,List.getD_eq_getElem?_getD,List.getElem?_eq_getElem h]
theorem km_rat (l:List Rz) (i:Nat):km l i=(rat l i).m:=by
 unfold km rat
 rw [List.getD_eq_getElem?_getD]
 cases l[i]?<;>rfl
def Like (l:List Rz) (f:Nat->Int) (a:Ab) (x:Nat × Nat):Prop:=a.kind=(rat l x.1).kind/\a.kids=(rat l x.1).kids/\a.seen=x.2/\a.levels=f x.1
inductive Sim (l:List Rz) (f:Nat->Int):List Ab->List (Nat × Nat)->Prop
 | nil:Sim l f [] []
 | cons {a x t g} : Like l f a x->Sim l f t g->Sim l f (a :: t) (x :: g)
theorem Sim.pop {l:List Rz} {f:Nat->Int} {t:List Ab} {g:List (Nat × Nat)} (h:Sim l f t g):Sim l f (pop t) (gpop l g):=by
 induction h with
 | nil=>exact .nil
 | @cons a x t g h1 h2 ih=>
  simp only [Gr.pop,gpop]
  have ⟨_,k2,k3,_⟩:=h1
  have e:(a.kids<=(a.seen:Int)) ↔ km l x.1<=x.2:=by rw [k2,k3,km_rat];unfold Rz.m;omega
  by_cases hc:a.kids<=(a.seen:Int)
  ·rw [if_pos hc,if_pos (e.1 hc)];exact ih
  ·rw [if_neg hc,if_neg (fun h=>hc (e.2 h))];exact .cons h1 h2
theorem Sim.bump {l:List Rz} {f:Nat->Int} {t:List Ab} {g:List (Nat × Nat)} (h:Sim l f t g) (k:Int):Sim l f (bump k t) (gbump g):=by
 cases h with
 | nil=>exact .nil
 | cons h1 h2=>exact .cons ⟨h1.1,h1.2.1,by show _+1=_+1;rw [h1.2.2.1],h1.2.2.2⟩ h2
def rst (f:Nat->Int) (l:List Rz):Nat->List Ab
 | 0=>[]
 | i+1=>past (rst f l i) (rat l i) (f i)
theorem rst_sim (f:Nat->Int) (l:List Rz) (i:Nat):Sim l f (rst f l i) (gst l i):=by
 induction i with
 | zero=>exact .nil
 | succ i ih=>exact Sim.pop (.cons ⟨rfl,rfl,rfl,rfl⟩ (ih.bump _))
section
variable (opn:Int->Int) (lz:Int->Int->Int->Bool)
def lvl (t:List Ab) (r:Rz):Int:=(top t).levels+opn r.kind+if lz (top t).kind (top t).seen r.kind then 1 else 0
def ast (l:List Rz):Nat->List Ab
 | 0=>[]
 | i+1=>past (ast l i) (rat l i) (lvl opn lz (ast l i) (rat l i))
def lev (l:List Rz) (i:Nat):Int:=lvl opn lz (ast opn lz l i) (rat l i)
def mx (l:List Rz):Nat->Int
 | 0=>0
 | i+1=>if mx l i < lev opn lz l i then lev opn lz l i else mx l i
theorem ast_rst (l:List Rz) (i:Nat):ast opn lz l i=rst (lev opn lz l) l i:=by
 induction i with
 | zero=>rfl
 | succ i ih=>show past _ _ _=past _ _ _;rw [<-ih];rfl
theorem lev_zero (l:List Rz):lev opn lz l 0=opn (rat l 0).kind+if lz 0 0 (rat l 0).kind then 1 else 0:=by
 show (0:Int)+_+_=_
 rw [Int.zero_add];rfl
theorem lev_up {l:List Rz} (h:Whole l) {p:Nat} (h0:0 < p) (hp:p < l.length):
  lev opn lz l p=lev opn lz l (up l p)+opn (rat l p).kind+if lz (rat l (up l p)).kind (wh l p) (rat l p).kind then 1 else 0:=by
 have h1:=rst_sim (lev opn lz l) l p
 rw [(up_at h h0 hp).2.2.2,<-ast_rst] at h1
 cases h2:ast opn lz l p with
 | nil=>rw [h2] at h1;cases h1
 | cons a t=>
  rw [h2] at h1
  cases h1 with
  | cons h3 h4=>
   obtain ⟨k1,_,k3,k4⟩:=h3
   show (top (ast opn lz l p)).levels+_+(if lz (top (ast opn lz l p)).kind (top (ast opn lz l p)).seen _ then 1 else 0)=_
   rw [h2]
   show a.levels+_+(if lz a.kind a.seen _ then 1 else 0)=_
   rw [k1,k3,k4]
end
theorem past_len (t:List Ab) (r:Rz) (v:Int):(past t r v).length<=t.length+1:=by
 have hp:∀ t:List Ab,(pop t).length<=t.length:=by
  intro t
  induction t with
  | nil=>exact Nat.le_refl _
  | cons a t ih=>
   simp only [pop]
   split
   ·exact Nat.le_succ_of_le ih
   ·exact Nat.le_refl _
 have hb:(bump r.kind t).length=t.length:=by cases t<;>rfl
 have:=hp (⟨r.kind,r.kids,0,0,v⟩ :: bump r.kind t)
 simp only [List.length_cons] at this
 unfold past
 omega
def SeenLe (n:Nat) (t:List Ab):Prop:=∀ a ∈ t,a.seen<=n
theorem seen_pop {n:Nat} {t:List Ab} (h:SeenLe n t):SeenLe n (pop t):=by
 induction t with
 | nil=>exact h
 | cons a t ih=>
  simp only [pop]
  split
  ·exact ih fun b hb=>h b (List.mem_cons_of_mem _ hb)
  ·exact h
theorem seen_past {n:Nat} {t:List Ab} (h:SeenLe n t) (r:Rz) (v:Int):SeenLe (n+1) (past t r v):=by
 refine seen_pop fun a ha=>?_
 rcases List.mem_cons.1 ha with rfl | ha
 ·exact Nat.zero_le _
 ·cases t with
  | nil=>cases ha
  | cons b t=>
   rcases List.mem_cons.1 ha with rfl | ha
   ·show b.seen+1<=n+1;have:=h b (List.mem_cons_self ..);omega
   ·have:=h a (List.mem_cons_of_mem _ ha);omega
end Go.Proofs.YtfgpbdieaflclaaGreat.Gr
namespace Go.Proofs.YtfgpbdieaflclaaGreat.Gr
open Go.RowKit Sp Lx
def wtn (n a b:Int):Bool:=decide (a<=n) && decide (n<=b)
def isDecl (k:Int):Bool:=wtn k 2 7
def isEvent (k:Int):Bool:=wtn k 8 10
def isDoing (k:Int):Bool:=wtn k 11 23
def isItem (k:Int):Bool:=k == 25 || k == 26
def isEx (k:Int):Bool:=wtn k 27 54
def lastEnd (k:Int):Int:=if k=16\/k=17\/k=21\/k=19\/k=20\/k=24\/k=26 then 1 else 0
def lastNum (k:Int):Int:=if k=27 then 1073741824 else 0
def nmd (k:Int):Bool:=
 k == 1 || k == 2 || k == 3 || k == 4 || k == 5 || k == 7 || k == 8 || k == 9 || k == 14 || k == 15 || k == 22 || k == 28 || k == 38 || k == 31 || k == 32 || k == 35 || k == 36 || k == 37 || decide (0 < lastEnd k)
def opn (k:Int):Int:=
 if k=1\/k=11\/k=26\/k=38\/k=39\/k=40\/k=41\/k=42\/k=31\/k=32\/k=35\/k=36\/k=37 then 1 else 0
def mayFollow (d s k:Int):Bool:=
 if d=15/\s=0 then isItem k else if (d=13/\s=2)\/(d=12/\s=1) then k == 11 else if d=12/\s=2 then k == 11 || k == 12 else isEx k
def mayStand (d s c k:Int):Bool:=
 if d=0 then k == 1 else if d=1 then isEvent k || (isDecl k && !isEvent c) else if d=7\/d=8\/d=9\/d=10 then k == 11
 else if d=11 then isDoing k else if d=19\/d=20 then k == 24 else if d=38 then isItem k else mayFollow d s k
theorem within_any (n a b:Int) (w:World):Calls Tryz.prog 101 #[.int .i64 n,.int .i64 a,.int .i64 b] w fun e w'=>e=.returned (.bool (wtn n a b))/\w'=w:=by
 by_cases h1:a<=n
 ·go_enter Tryz.func101,Tryz.ntmps101
  go_wp2
  all_goals go_ret
  all_goals exact ⟨by simp [wtn,h1],rfl⟩
 ·go_enter Tryz.func101,Tryz.ntmps101
  go_wp2
  all_goals go_ret
  all_goals exact ⟨by simp [wtn];omega,rfl⟩
theorem isDecl_any (k:Int) (w:World):Calls Tryz.prog 95 #[.int .i64 k] w fun e w'=>e=.returned (.bool (isDecl k))/\w'=w:=by
 go_enter Tryz.func95,Tryz.ntmps95
 go_wp2_with (go_at_call 101;refine (within_any _ _ _ _).mono ?_;rintro e w' ⟨rfl,rfl⟩)
 go_ret
 exact ⟨rfl,rfl⟩
theorem isEvent_any (k:Int) (w:World):Calls Tryz.prog 94 #[.int .i64 k] w fun e w'=>e=.returned (.bool (isEvent k))/\w'=w:=by
 go_enter Tryz.func94,Tryz.ntmps94
 go_wp2_with (go_at_call 101;refine (within_any _ _ _ _).mono ?_;rintro e w' ⟨rfl,rfl⟩)
 go_ret
 exact ⟨rfl,rfl⟩
theorem isDoing_any (k:Int) (w:World):Calls Tryz.prog 96 #[.int .i64 k] w fun e w'=>e=.returned (.bool (isDoing k))/\w'=w:=by
 go_enter Tryz.func96,Tryz.ntmps96
 go_wp2_with (go_at_call 101;refine (within_any _ _ _ _).mono ?_;rintro e w' ⟨rfl,rfl⟩)
 go_ret
 exact ⟨rfl,rfl⟩
theorem isEx_any (k:Int) (w:World):Calls Tryz.prog 105 #[.int .i64 k] w fun e w'=>e=.returned (.bool (isEx k))/\w'=w:=by
 go_enter Tryz.func105,Tryz.ntmps105
 go_wp2_with (go_at_call 101;refine (within_any _ _ _ _).mono ?_;rintro e w' ⟨rfl,rfl⟩)
 go_ret
 exact ⟨rfl,rfl⟩
theorem isItem_any (k:Int) (w:World):Calls Tryz.prog 97 #[.int .i64 k] w fun e w'=>e=.returned (.bool (isItem k))/\w'=w:=by
 go_enter Tryz.func97,Tryz.ntmps97
 go_wp2
 all_goals go_ret
 all_goals exact ⟨by simp [isItem, *],rfl⟩
theorem lastEnd_any (k:Int) (w:World):Calls Tryz.prog 102 #[.int .i64 k] w fun e w'=>e=.returned (.int .i64 (lastEnd k))/\w'=w:=by
 go_enter Tryz.func102,Tryz.ntmps102
 go_wp2
 all_goals go_ret
 all_goals refine ⟨?_,rfl⟩
 all_goals simp only [beq_iff_eq,beq_eq_false_iff_ne,ne_eq] at *
 all_goals simp [lastEnd, *]
theorem lastNum_any (k:Int) (w:World):Calls Tryz.prog 103 #[.int .i64 k] w fun e w'=>e=.returned (.int .i64 (lastNum k))/\w'=w:=by
 go_enter Tryz.func103,Tryz.ntmps103
 go_wp2
 all_goals go_ret
 all_goals refine ⟨?_,rfl⟩
 all_goals simp only [beq_iff_eq,beq_eq_false_iff_ne,ne_eq] at *
 all_goals simp [lastNum, *]
theorem opn_any (k:Int) (w:World):Calls Tryz.prog 88 #[.int .i64 k] w fun e w'=>e=.returned (.int .i64 (opn k))/\w'=w:=by
 go_enter Tryz.func88,Tryz.ntmps88
 go_wp2
 all_goals go_ret
 all_goals refine ⟨?_,rfl⟩
 all_goals simp only [beq_iff_eq,beq_eq_false_iff_ne,ne_eq] at *
 all_goals simp [opn, *]
theorem nmd_any (k:Int) (w:World):Calls Tryz.prog 106 #[.int .i64 k] w fun e w'=>e=.returned (.bool (nmd k))/\w'=w:=by
 have HN:Hid (nmd k=(k == 1 || k == 2 || k == 3 || k == 4 || k == 5 || k == 7 || k == 8 || k == 9 || k == 14 || k == 15 || k == 22 || k == 28 || k == 38 || k == 31 || k == 32 || k == 35 || k == 36 || k == 37 || decide (0 < lastEnd k))):=rfl
 generalize nmd k=R at *
 have HE:Hid (∀ w,Calls Tryz.prog 102 #[.int .i64 k] w fun e w'=>e=.returned (.int .i64 (lastEnd k))/\w'=w):=fun w=>lastEnd_any k w
 generalize lastEnd k=E at *
 go_enter Tryz.func106,Tryz.ntmps106
 go_wp2_with (go_at_call 102;refine (HE.out _).mono ?_;rintro e w' ⟨rfl,rfl⟩)
 all_goals go_ret
 all_goals refine ⟨?_,rfl⟩
 all_goals rw [HN.out]
 all_goals simp [*]
def ac (a:Ab):List Value:=[.int .i64 a.kind,.int .i64 a.kids,.int .i64 a.seen,.int .i64 a.kid,.int .i64 a.levels]
def tc (t:List Ab):List Value:=t.reverse.flatMap ac
theorem tc_cons (a:Ab) (t:List Ab):tc (a :: t)=tc t++ac a:=by simp [tc]
theorem tc_len (t:List Ab):(tc t).length=t.length * 5:=by
 induction t with
 | nil=>rfl
 | cons a t ih=>rw [tc_cons,List.length_append,ih,List.length_cons];show _+5=_;omega
theorem tc_top (a:Ab) (t:List Ab) (j:Nat):(tc (a :: t))[t.length * 5+j]?=(ac a)[j]?:=by
 rw [tc_cons,List.getElem?_append_right (by rw [tc_len];omega),tc_len]
 congr 1
 omega
abbrev OwnT (w:World) (base:Nat) (v:Value) (t:List Ab):Prop:=w.ownsRow base 119 5 v t.length (tc t)
abbrev agb (a:Ab):Value:=.agg #[.int .i64 a.kind,.int .i64 a.kids,.int .i64 a.seen,.int .i64 a.kid,.int .i64 a.levels]
theorem own_top {w:World} {base:Nat} {v:Value} {a:Ab} {t:List Ab} (h:OwnT w base v (a :: t)):∃ g cap,v=.slice (some ⟨g,0,none⟩) (t.length+1) cap/\base<=g/\g < w.heap.size/\(∀ j,w.frozen? ⟨g,j,none⟩=false) /\
  ∀ W:World,W.heap[g]?=w.heap[g]?->W.cell? ⟨g,t.length * 5,none⟩=some (.int .i64 a.kind)/\W.cell? ⟨g,t.length * 5+1,none⟩=some (.int .i64 a.kids)/\W.cell? ⟨g,t.length * 5+2,none⟩=some (.int .i64 a.seen)/\W.cell? ⟨g,t.length * 5+3,none⟩=some (.int .i64 a.kid)/\W.cell? ⟨g,t.length * 5+4,none⟩=some (.int .i64 a.levels):=by
 obtain ⟨g,cap,cur,rfl,h2,h3,h4,h5,h6,h7⟩:=own_block h (by simp)
 have hlt:=(Array.getElem?_eq_some_iff.1 h3).1
 refine ⟨g,cap,rfl,h2,hlt,fun j=>h.frozenAt j,fun W hW=>?_⟩
 have hc:∀ j,j < 5->W.cell? ⟨g,t.length * 5+j,none⟩=(ac a)[j]?:=fun j hj=>by
  rw [World.cell?_of_block (w:=w) (w':=W) (a:=⟨g,t.length * 5+j,none⟩) hW,<-tc_top a t j]
  exact h.cellAt _ (by simp only [List.length_cons];omega)
 exact ⟨hc 0 (by omega),hc 1 (by omega),hc 2 (by omega),hc 3 (by omega),hc 4 (by omega)⟩
theorem last_any (t:List Ab) (base:Nat) (v:Value) (w:World) (h:OwnT w base v t) (hn:t.length<=4611686018427387904):Calls Tryz.prog 85 #[v] w fun e w'=>e=.returned (agb (top t))/\Below w.heap.size w w':=by
 cases t with
 | nil=>
  obtain ⟨bo,bc,rfl⟩:=own_form h
  clear h
  go_enter Tryz.func85,Tryz.ntmps85
  go_wp2
  exact bodyPost_ret (v:=agb ab0) (by simp [results,Tryz.results85,go_sem,ab0]) rfl ⟨rfl,bAl w _⟩
 | cons a t=>
  obtain ⟨g,cap,rfl,hb,hg,hf,hW⟩:=own_top h
  obtain ⟨c0,c1,c2,c3,c4⟩:=hW (w.alloc (.cells #[.int .i64 0,.int .i64 0,.int .i64 0,.int .i64 0,.int .i64 0] 119)) (Below.heap_alloc _ _ _ hg)
  have h1:(t.length:Int)<=4611686018427387904:=by simp only [List.length_cons] at hn;omega
  clear h hW hf hn
  go_enter Tryz.func85,Tryz.ntmps85
  go_wp2
  exact bodyPost_ret (v:=agb a) (by simp [results,Tryz.results85,go_sem]) rfl ⟨rfl,bAl w _⟩
theorem info119:(Tryz.prog.info? 119).map (fun i=>(i.zero,i.size,i.bytes))=some (some (.agg #[.int .i64 0,.int .i64 0,.int .i64 0,.int .i64 0,.int .i64 0]),5,40):=by kernel_rfl
theorem tc_set (a b:Ab) (t:List Ab) (j:Nat) (u:Value) (h:ac b=(ac a).set j u):(tc (a :: t)).set (t.length * 5+j) u=tc (b :: t):=by
 rw [tc_cons,tc_cons,List.set_append_right _ _ (by rw [tc_len];omega),tc_len,h]
 congr 2
 omega
structure Went (w:World) (v:Value) (w':World) (v':Value):Prop where
 by_:w.grownBy w' v.ownBlock
 own:v'.ownBlock=v.ownBlock\/∀ k,v'.ownBlock=some k->w.heap.size<=k
theorem Went.refl (w:World) (v:Value):Went w v w v:=⟨⟨rfl,rfl,rfl,Nat.le_refl _,fun _ _ _=>rfl⟩,Or.inl rfl⟩
theorem Went.trans {a b c:World} {x y z:Value} (h:Went a x b y) (k:Went b y c z):Went a x c z:=by
 refine ⟨⟨k.by_.os.trans h.by_.os,k.by_.tape.trans h.by_.tape,k.by_.output.trans h.by_.output,Nat.le_trans h.by_.size k.by_.size,fun i hi hx=>?_⟩,?_⟩
 ·refine (k.by_.block i (Nat.lt_of_lt_of_le hi h.by_.size) ?_).trans (h.by_.block i hi hx)
  rcases h.own with e | e
  ·rw [e];exact hx
  ·intro e2;have:=e i e2.symm;omega
 ·rcases k.own with e | e
  ·rw [e];exact h.own
  ·exact Or.inr fun j hj=>Nat.le_trans h.by_.size (e j hj)
theorem Went.below {a b c:World} {x y:Value} (h:Went a x b y) (k:Below b.heap.size b c):Went a x c y:=
 h.trans ⟨⟨k.os,k.tape,k.output,k.size,fun i hi _=>k.block i hi⟩,Or.inl rfl⟩
theorem Went.gone {a b:World} {x y:Value} (h:Gone a x b y):Went a x b y:=⟨h.1,h.own⟩
theorem Went.low {a b:World} {x y:Value} (h:Went a x b y) {base:Nat} (hx:∀ k,x.ownBlock=some k->base<=k) (hb:base<=a.heap.size):Below base a b:=by
 refine ⟨h.by_.os,h.by_.tape,h.by_.output,h.by_.size,fun i hi=>h.by_.block i (Nat.lt_of_lt_of_le hi hb) fun e=>?_⟩
 have:=hx i e.symm;omega
theorem own_bump {w:World} {base g cap:Nat} {a:Ab} {t:List Ab} (k:Int) (h:OwnT w base (.slice (some ⟨g,0,none⟩) (t.length+1) cap) (a :: t)):
  OwnT ((w.setCell ⟨g,t.length * 5+2,none⟩ (.int .i64 (a.seen+1:Nat))).setCell ⟨g,t.length * 5+3,none⟩ (.int .i64 k)) base (.slice (some ⟨g,0,none⟩) (t.length+1) cap) (bump k (a :: t)) /\
  Went w (.slice (some ⟨g,0,none⟩) (t.length+1) cap) ((w.setCell ⟨g,t.length * 5+2,none⟩ (.int .i64 (a.seen+1:Nat))).setCell ⟨g,t.length * 5+3,none⟩ (.int .i64 k)) (.slice (some ⟨g,0,none⟩) (t.length+1) cap):=by
 obtain ⟨h1,g1⟩:=World.ownsRow.stored h (t.length * 5+2) (.int .i64 (a.seen+1:Nat))
 obtain ⟨h2,g2⟩:=World.ownsRow.stored h1 (t.length * 5+3) (.int .i64 k)
 rw [tc_set a ⟨a.kind,a.kids,a.seen+1,a.kid,a.levels⟩ t 2 _ rfl,tc_set ⟨a.kind,a.kids,a.seen+1,a.kid,a.levels⟩ ⟨a.kind,a.kids,a.seen+1,k,a.levels⟩ t 3 (.int .i64 k) rfl] at h2
 exact ⟨h2,(Went.mk g1 (Or.inl rfl)).trans (Went.mk g2 (Or.inl rfl))⟩
theorem own_pop {w:World} {base g cap:Nat} {a:Ab} {t:List Ab} (h:OwnT w base (.slice (some ⟨g,0,none⟩) (t.length+1) cap) (a :: t)):OwnT w base (.slice (some ⟨g,0,none⟩) t.length cap) t:=by
 refine ownsRow_pop (last:=ac a) (tc_len t) ?_
 rw [<-tc_cons]
 exact h
theorem own_push {w':World} {base:Nat} {v':Value} {t:List Ab} {a:Ab} (h:w'.ownsRow base 119 5 v' (t.length+1) (tc t++ac a)):OwnT w' base v' (a :: t):=by
 rw [<-tc_cons] at h
 exact h
abbrev agr (r:Rz):Value:=.agg #[.int .i64 r.kind,.string r.name,.int .i64 r.stop,.int .i64 r.n,.int .i64 r.kids]
end Go.Proofs.YtfgpbdieaflclaaGreat.Gr
