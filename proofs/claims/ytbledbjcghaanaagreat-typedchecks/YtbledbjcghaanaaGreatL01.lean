import Derived.Test.YtbledbjcghaanaaGreatL00
import Derived.Test.YtbledbjcghaanaaGreatTl
import Derived.WalkSmall
set_option maxHeartbeats 6400000
set_option maxRecDepth 100000
namespace Go.Proofs.YtbledbjcghaanaaGreat.Gr
def rz0:Rz:=⟨0,⟨#[]⟩,0,0,0⟩
abbrev rat (l:List Rz) (i:Nat):Rz:=l.getD i rz0
theorem rat_some {l:List Rz} {i:Nat} {r:Rz} (h:l[i]?=some r):rat l i=r:=by simp [rat,List.getD_eq_getElem?_getD,h]
theorem some_rat {l:List Rz} {i:Nat} (h:i < l.length):l[i]?=some (rat l i):=by simp [rat,List.getD_eq_getElem?_getD,List.getElem?_eq_getElem h]
theorem km_rat (l:List Rz) (i:Nat):km l i=(rat l i).m:=by
 unfold km rat;rw [List.getD_eq_getElem?_getD];cases l[i]?<;>rfl
def Like (l:List Rz) (f:Nat->Int) (a:Ab) (x:Nat × Nat):Prop:=a.kind=(rat l x.1).kind/\a.kids=(rat l x.1).kids/\a.seen=x.2/\a.levels=f x.1
inductive Sim (l:List Rz) (f:Nat->Int):List Ab->List (Nat × Nat)->Prop
 | nil:Sim l f [] []
 | cons {a x t g} : Like l f a x->Sim l f t g->Sim l f (a :: t) (x :: g)
theorem Sim.pop {l:List Rz} {f:Nat->Int} {t:List Ab} {g:List (Nat × Nat)} (h:Sim l f t g):Sim l f (pop t) (gpop l g):=by
 induction h with
 | nil=>exact .nil
 | @cons a x t g h1 h2 ih=>
  simp only [Gr.pop,gpop];have ⟨_,k2,k3,_⟩:=h1;have e:(a.kids<=(a.seen:Int)) ↔ km l x.1<=x.2:=by rw [k2,k3,km_rat];unfold Rz.m;omega
  by_cases hc:a.kids<=(a.seen:Int)
  ·rw [if_pos hc,if_pos (e.1 hc)];exact ih
  ·rw [if_neg hc,if_neg (fun h=>hc (e.2 h))];exact .cons h1 h2
theorem Sim.bump {l:List Rz} {f:Nat->Int} {t:List Ab} {g:List (Nat × Nat)} (h:Sim l f t g) (k:Int):Sim l f (bump k t) (gbump g):=by
 cases h with
 | nil=>exact .nil
 | cons h1 h2=>exact .cons ⟨h1.1,h1.2.1,by show _+1=_+1;rw [h1.2.2.1],h1.2.2.2⟩ h2
def rst (f:Nat->Int) (l:List Rz):Nat->List Ab
 | 0=>[]
 | i+1=>past (rst f l i) (rat l i) (f i)
theorem rst_sim (f:Nat->Int) (l:List Rz) (i:Nat):Sim l f (rst f l i) (gst l i):=by
 induction i with
 | zero=>exact .nil
 | succ i ih=>exact Sim.pop (.cons ⟨rfl,rfl,rfl,rfl⟩ (ih.bump _))
section
variable (opn:Int->Int) (lz:Int->Int->Int->Bool)
def lvl (t:List Ab) (r:Rz):Int:=(top t).levels+opn r.kind+if lz (top t).kind (top t).seen r.kind then 1 else 0
def ast (l:List Rz):Nat->List Ab
 | 0=>[]
 | i+1=>past (ast l i) (rat l i) (lvl opn lz (ast l i) (rat l i))
def lev (l:List Rz) (i:Nat):Int:=lvl opn lz (ast opn lz l i) (rat l i)
def mx (l:List Rz):Nat->Int
 | 0=>0
 | i+1=>if mx l i < lev opn lz l i then lev opn lz l i else mx l i
theorem ast_rst (l:List Rz) (i:Nat):ast opn lz l i=rst (lev opn lz l) l i:=by
 induction i with
 | zero=>rfl
 | succ i ih=>show past _ _ _=past _ _ _;rw [<-ih];rfl
theorem lev_zero (l:List Rz):lev opn lz l 0=opn (rat l 0).kind+if lz 0 0 (rat l 0).kind then 1 else 0:=by
 show (0:Int)+_+_=_
 rw [Int.zero_add];rfl
theorem lev_up {l:List Rz} (h:Whole l) {p:Nat} (h0:0 < p) (hp:p < l.length):
  lev opn lz l p=lev opn lz l (up l p)+opn (rat l p).kind+if lz (rat l (up l p)).kind (wh l p) (rat l p).kind then 1 else 0:=by
 have h1:=rst_sim (lev opn lz l) l p;rw [(up_at h h0 hp).2.2.2,<-ast_rst] at h1;cases h2:ast opn lz l p with
 | nil=>rw [h2] at h1;cases h1
 | cons a t=>
  rw [h2] at h1;cases h1 with
  | cons h3 h4=>
   obtain ⟨k1,_,k3,k4⟩:=h3;show (top (ast opn lz l p)).levels+_+(if lz (top (ast opn lz l p)).kind (top (ast opn lz l p)).seen _ then 1 else 0)=_;rw [h2];show a.levels+_+(if lz a.kind a.seen _ then 1 else 0)=_;rw [k1,k3,k4]
end
theorem past_len (t:List Ab) (r:Rz) (v:Int):(past t r v).length<=t.length+1:=by
 have hp:∀ t:List Ab,(pop t).length<=t.length:=by
  intro t
  induction t with
  | nil=>exact Nat.le_refl _
  | cons a t ih=>
   simp only [pop]
   split
   ·exact Nat.le_succ_of_le ih
   ·exact Nat.le_refl _
 have hb:(bump r.kind t).length=t.length:=by cases t<;>rfl
 have:=hp (⟨r.kind,r.kids,0,0,v⟩ :: bump r.kind t);simp only [List.length_cons] at this;unfold past;omega
def SeenLe (n:Nat) (t:List Ab):Prop:=∀ a ∈ t,a.seen<=n
theorem seen_pop {n:Nat} {t:List Ab} (h:SeenLe n t):SeenLe n (pop t):=by
 induction t with
 | nil=>exact h
 | cons a t ih=>
  simp only [pop]
  split
  ·exact ih fun b hb=>h b (List.mem_cons_of_mem _ hb)
  ·exact h
theorem seen_past {n:Nat} {t:List Ab} (h:SeenLe n t) (r:Rz) (v:Int):SeenLe (n+1) (past t r v):=by
 refine seen_pop fun a ha=>?_;rcases List.mem_cons.1 ha with rfl | ha
 ·exact Nat.zero_le _
 ·cases t with
  | nil=>cases ha
  | cons b t=>
   rcases List.mem_cons.1 ha with rfl | ha
   ·show b.seen+1<=n+1;have:=h b (List.mem_cons_self ..);omega
   ·have:=h a (List.mem_cons_of_mem _ ha);omega
end Go.Proofs.YtbledbjcghaanaaGreat.Gr
namespace Go.Proofs.YtbledbjcghaanaaGreat.Gr
open Go.RowKit Sp Lx
def wtn (n a b:Int):Bool:=decide (a<=n) && decide (n<=b)
def isDecl (k:Int):Bool:=wtn k 2 7
def isEvent (k:Int):Bool:=wtn k 8 10
def isDoing (k:Int):Bool:=wtn k 11 23
def isItem (k:Int):Bool:=k == 25 || k == 26
def isEx (k:Int):Bool:=wtn k 27 54
def lastEnd (k:Int):Int:=if k=16\/k=17\/k=21\/k=19\/k=20\/k=24\/k=26 then 1 else 0
def lastNum (k:Int):Int:=if k=27 then 1073741824 else 0
def nmd (k:Int):Bool:=
 k == 1 || k == 2 || k == 3 || k == 4 || k == 5 || k == 7 || k == 8 || k == 9 || k == 14 || k == 15 || k == 22 || k == 28 || k == 38 || k == 31 || k == 32 || k == 35 || k == 36 || k == 37 || decide (0 < lastEnd k)
def opn (k:Int):Int:=
 if k=1\/k=11\/k=26\/k=38\/k=39\/k=40\/k=41\/k=42\/k=31\/k=32\/k=35\/k=36\/k=37 then 1 else 0
def mayFollow (d s k:Int):Bool:=
 if d=15/\s=0 then isItem k else if (d=13/\s=2)\/(d=12/\s=1) then k == 11 else if d=12/\s=2 then k == 11 || k == 12 else isEx k
def mayStand (d s c k:Int):Bool:=
 if d=0 then k == 1 else if d=1 then isEvent k || (isDecl k && !isEvent c) else if d=7\/d=8\/d=9\/d=10 then k == 11
 else if d=11 then isDoing k else if d=19\/d=20 then k == 24 else if d=38 then isItem k else mayFollow d s k
theorem within_any (n a b:Int) (w:World):Calls Tryz.prog 136 #[I n,I a,I b] w fun e w'=>e=.returned (.bool (wtn n a b))/\w'=w:=by
 by_cases h1:a<=n
 ·go_enter Tryz.func136,Tryz.ntmps136
  go_wp2
  all_goals go_ret
  all_goals exact ⟨by simp [wtn,h1],rfl⟩
 ·go_enter Tryz.func136,Tryz.ntmps136
  go_wp2
  all_goals go_ret
  all_goals exact ⟨by simp [wtn];omega,rfl⟩
theorem isDecl_any (k:Int) (w:World):Calls Tryz.prog 130 #[I k] w fun e w'=>e=.returned (.bool (isDecl k))/\w'=w:=by
 go_enter Tryz.func130,Tryz.ntmps130
 go_wp2_with (go_at_call 136;refine (within_any _ _ _ _).mono ?_;rintro e w' ⟨rfl,rfl⟩)
 go_ret;exact ⟨rfl,rfl⟩
theorem isEvent_any (k:Int) (w:World):Calls Tryz.prog 129 #[I k] w fun e w'=>e=.returned (.bool (isEvent k))/\w'=w:=by
 go_enter Tryz.func129,Tryz.ntmps129
 go_wp2_with (go_at_call 136;refine (within_any _ _ _ _).mono ?_;rintro e w' ⟨rfl,rfl⟩)
 go_ret;exact ⟨rfl,rfl⟩
theorem isDoing_any (k:Int) (w:World):Calls Tryz.prog 131 #[I k] w fun e w'=>e=.returned (.bool (isDoing k))/\w'=w:=by
 go_enter Tryz.func131,Tryz.ntmps131
 go_wp2_with (go_at_call 136;refine (within_any _ _ _ _).mono ?_;rintro e w' ⟨rfl,rfl⟩)
 go_ret;exact ⟨rfl,rfl⟩
theorem isEx_any (k:Int) (w:World):Calls Tryz.prog 146 #[I k] w fun e w'=>e=.returned (.bool (isEx k))/\w'=w:=by
 go_enter Tryz.func146,Tryz.ntmps146
 go_wp2_with (go_at_call 136;refine (within_any _ _ _ _).mono ?_;rintro e w' ⟨rfl,rfl⟩)
 go_ret;exact ⟨rfl,rfl⟩
theorem isItem_any (k:Int) (w:World):Calls Tryz.prog 132 #[I k] w fun e w'=>e=.returned (.bool (isItem k))/\w'=w:=by
 go_enter Tryz.func132,Tryz.ntmps132
 go_wp2
 all_goals go_ret
 all_goals exact ⟨by simp [isItem, *],rfl⟩
theorem lastEnd_any (k:Int) (w:World):Calls Tryz.prog 137 #[I k] w fun e w'=>e=.returned (I (lastEnd k))/\w'=w:=by
 go_enter Tryz.func137,Tryz.ntmps137
 go_wp2
 all_goals go_ret
 all_goals refine ⟨?_,rfl⟩
 all_goals simp only [beq_iff_eq,beq_eq_false_iff_ne,ne_eq] at *
 all_goals simp [lastEnd, *]
theorem lastNum_any (k:Int) (w:World):Calls Tryz.prog 138 #[I k] w fun e w'=>e=.returned (I (lastNum k))/\w'=w:=by
 go_enter Tryz.func138,Tryz.ntmps138
 go_wp2
 all_goals go_ret
 all_goals refine ⟨?_,rfl⟩
 all_goals simp only [beq_iff_eq,beq_eq_false_iff_ne,ne_eq] at *
 all_goals simp [lastNum, *]
theorem opn_any (k:Int) (w:World):Calls Tryz.prog 119 #[I k] w fun e w'=>e=.returned (I (opn k))/\w'=w:=by
 go_enter Tryz.func119,Tryz.ntmps119
 go_wp2
 all_goals go_ret
 all_goals refine ⟨?_,rfl⟩
 all_goals simp only [beq_iff_eq,beq_eq_false_iff_ne,ne_eq] at *
 all_goals simp [opn, *]
theorem nmd_any (k:Int) (w:World):Calls Tryz.prog 147 #[I k] w fun e w'=>e=.returned (.bool (nmd k))/\w'=w:=by
 have HN:Hid (nmd k=(k == 1 || k == 2 || k == 3 || k == 4 || k == 5 || k == 7 || k == 8 || k == 9 || k == 14 || k == 15 || k == 22 || k == 28 || k == 38 || k == 31 || k == 32 || k == 35 || k == 36 || k == 37 || decide (0 < lastEnd k))):=rfl;generalize nmd k=R at *;have HE:Hid (∀ w,Calls Tryz.prog 137 #[I k] w fun e w'=>e=.returned (I (lastEnd k))/\w'=w):=fun w=>lastEnd_any k w;generalize lastEnd k=E at *;go_enter Tryz.func147,Tryz.ntmps147;go_wp2_with (go_at_call 137;refine (HE.out _).mono ?_;rintro e w' ⟨rfl,rfl⟩)
 all_goals go_ret
 all_goals refine ⟨?_,rfl⟩
 all_goals rw [HN.out]
 all_goals simp [*]
def ac (a:Ab):List Value:=[.int .i64 a.kind,.int .i64 a.kids,.int .i64 a.seen,.int .i64 a.kid,.int .i64 a.levels]
def tc (t:List Ab):List Value:=t.reverse.flatMap ac
theorem tc_cons (a:Ab) (t:List Ab):tc (a :: t)=tc t++ac a:=by simp [tc]
theorem tc_len (t:List Ab):(tc t).length=t.length * 5:=by
 induction t with
 | nil=>rfl
 | cons a t ih=>rw [tc_cons,List.length_append,ih,List.length_cons];show _+5=_;omega
theorem tc_top (a:Ab) (t:List Ab) (j:Nat):(tc (a :: t))[t.length * 5+j]?=(ac a)[j]?:=by
 rw [tc_cons,List.getElem?_append_right (by rw [tc_len];omega),tc_len]
 congr 1
 omega
abbrev OwnT (w:World) (base:Nat) (v:Value) (t:List Ab):Prop:=w.ownsRow base 164 5 v t.length (tc t)
abbrev agb (a:Ab):Value:=.agg #[.int .i64 a.kind,.int .i64 a.kids,.int .i64 a.seen,.int .i64 a.kid,.int .i64 a.levels]
theorem own_top {w:World} {base:Nat} {v:Value} {a:Ab} {t:List Ab} (h:OwnT w base v (a :: t)):∃ g cap,v=.slice (pZ g) (t.length+1) cap/\base<=g/\g < w.heap.size/\(∀ j,w.frozen? ⟨g,j,none⟩=false) /\
  ∀ W:World,W.heap[g]?=w.heap[g]?->W.cell? ⟨g,t.length * 5,none⟩=some (.int .i64 a.kind)/\W.cell? ⟨g,t.length * 5+1,none⟩=some (.int .i64 a.kids)/\W.cell? ⟨g,t.length * 5+2,none⟩=some (.int .i64 a.seen)/\W.cell? ⟨g,t.length * 5+3,none⟩=some (.int .i64 a.kid)/\W.cell? ⟨g,t.length * 5+4,none⟩=some (.int .i64 a.levels):=by
 obtain ⟨g,cap,cur,rfl,h2,h3,h4,h5,h6,h7⟩:=own_block h (by simp)
 have hlt:=(Array.getElem?_eq_some_iff.1 h3).1;refine ⟨g,cap,rfl,h2,hlt,fun j=>h.frozenAt j,fun W hW=>?_⟩;have hc:∀ j,j < 5->W.cell? ⟨g,t.length * 5+j,none⟩=(ac a)[j]?:=fun j hj=>by
  rw [World.cell?_of_block (w:=w) (w':=W) (a:=⟨g,t.length * 5+j,none⟩) hW,<-tc_top a t j];exact h.cellAt _ (by simp only [List.length_cons];omega)
 exact ⟨hc 0 (by omega),hc 1 (by omega),hc 2 (by omega),hc 3 (by omega),hc 4 (by omega)⟩
theorem last_any (t:List Ab) (base:Nat) (v:Value) (w:World) (h:OwnT w base v t) (hn:t.length<=4611686018427387904):Calls Tryz.prog 116 #[v] w fun e w'=>e=.returned (agb (top t))/\Below w.heap.size w w':=by
 cases t with
 | nil=>
  obtain ⟨bo,bc,rfl⟩:=own_form h;clear h;go_enter Tryz.func116,Tryz.ntmps116;go_wp2;exact bodyPost_ret (v:=agb ab0) (by simp [results,Tryz.results116,go_sem,ab0]) rfl ⟨rfl,bAl w _⟩
 | cons a t=>
  obtain ⟨g,cap,rfl,hb,hg,hf,hW⟩:=own_top h;obtain ⟨c0,c1,c2,c3,c4⟩:=hW (w.alloc (.cells #[.int .i64 0,.int .i64 0,.int .i64 0,.int .i64 0,.int .i64 0] 164)) (Below.heap_alloc _ _ _ hg);have h1:(t.length:Int)<=4611686018427387904:=by simp only [List.length_cons] at hn;omega
  clear h hW hf hn;go_enter Tryz.func116,Tryz.ntmps116;go_wp2;exact bodyPost_ret (v:=agb a) (by simp [results,Tryz.results116,go_sem]) rfl ⟨rfl,bAl w _⟩
theorem info164:(Tryz.prog.info? 164).map (fun i=>(i.zero,i.size,i.bytes))=some (some (.agg #[.int .i64 0,.int .i64 0,.int .i64 0,.int .i64 0,.int .i64 0]),5,40):=by kernel_rfl
theorem tc_set (a b:Ab) (t:List Ab) (j:Nat) (u:Value) (h:ac b=(ac a).set j u):(tc (a :: t)).set (t.length * 5+j) u=tc (b :: t):=by
 rw [tc_cons,tc_cons,List.set_append_right _ _ (by rw [tc_len];omega),tc_len,h]
 congr 2
 omega
structure Went (w:World) (v:Value) (w':World) (v':Value):Prop where
 by_:w.grownBy w' v.ownBlock
 own:v'.ownBlock=v.ownBlock\/∀ k,v'.ownBlock=some k->w.heap.size<=k
theorem Went.refl (w:World) (v:Value):Went w v w v:=⟨⟨rfl,rfl,rfl,Nat.le_refl _,fun _ _ _=>rfl⟩,Or.inl rfl⟩
theorem Went.trans {a b c:World} {x y z:Value} (h:Went a x b y) (k:Went b y c z):Went a x c z:=by
 refine ⟨⟨k.by_.os.trans h.by_.os,k.by_.tape.trans h.by_.tape,k.by_.output.trans h.by_.output,Nat.le_trans h.by_.size k.by_.size,fun i hi hx=>?_⟩,?_⟩
 ·refine (k.by_.block i (Nat.lt_of_lt_of_le hi h.by_.size) ?_).trans (h.by_.block i hi hx);rcases h.own with e | e
  ·rw [e];exact hx
  ·intro e2;have:=e i e2.symm;omega
 ·rcases k.own with e | e
  ·rw [e];exact h.own
  ·exact Or.inr fun j hj=>Nat.le_trans h.by_.size (e j hj)
theorem Went.below {a b c:World} {x y:Value} (h:Went a x b y) (k:Below b.heap.size b c):Went a x c y:=
 h.trans ⟨⟨k.os,k.tape,k.output,k.size,fun i hi _=>k.block i hi⟩,Or.inl rfl⟩
theorem Went.gone {a b:World} {x y:Value} (h:Gone a x b y):Went a x b y:=⟨h.1,h.own⟩
theorem Went.low {a b:World} {x y:Value} (h:Went a x b y) {base:Nat} (hx:∀ k,x.ownBlock=some k->base<=k) (hb:base<=a.heap.size):Below base a b:=by
 refine ⟨h.by_.os,h.by_.tape,h.by_.output,h.by_.size,fun i hi=>h.by_.block i (Nat.lt_of_lt_of_le hi hb) fun e=>?_⟩;have:=hx i e.symm;omega
theorem own_bump {w:World} {base g cap:Nat} {a:Ab} {t:List Ab} (k:Int) (h:OwnT w base (.slice (pZ g) (t.length+1) cap) (a :: t)):
  OwnT ((w.setCell ⟨g,t.length * 5+2,none⟩ (.int .i64 (a.seen+1:Nat))).setCell ⟨g,t.length * 5+3,none⟩ (.int .i64 k)) base (.slice (pZ g) (t.length+1) cap) (bump k (a :: t)) /\
  Went w (.slice (pZ g) (t.length+1) cap) ((w.setCell ⟨g,t.length * 5+2,none⟩ (.int .i64 (a.seen+1:Nat))).setCell ⟨g,t.length * 5+3,none⟩ (.int .i64 k)) (.slice (pZ g) (t.length+1) cap):=by
 obtain ⟨h1,g1⟩:=World.ownsRow.stored h (t.length * 5+2) (.int .i64 (a.seen+1:Nat));obtain ⟨h2,g2⟩:=World.ownsRow.stored h1 (t.length * 5+3) (.int .i64 k);rw [tc_set a ⟨a.kind,a.kids,a.seen+1,a.kid,a.levels⟩ t 2 _ rfl,tc_set ⟨a.kind,a.kids,a.seen+1,a.kid,a.levels⟩ ⟨a.kind,a.kids,a.seen+1,k,a.levels⟩ t 3 (.int .i64 k) rfl] at h2;exact ⟨h2,(Went.mk g1 (Or.inl rfl)).trans (Went.mk g2 (Or.inl rfl))⟩
theorem own_pop {w:World} {base g cap:Nat} {a:Ab} {t:List Ab} (h:OwnT w base (.slice (pZ g) (t.length+1) cap) (a :: t)):OwnT w base (.slice (pZ g) t.length cap) t:=by
 refine ownsRow_pop (last:=ac a) (tc_len t) ?_;rw [<-tc_cons];exact h
theorem own_push {w':World} {base:Nat} {v':Value} {t:List Ab} {a:Ab} (h:w'.ownsRow base 164 5 v' (t.length+1) (tc t++ac a)):OwnT w' base v' (a :: t):=by
 rw [<-tc_cons] at h;exact h
abbrev agr (r:Rz):Value:=.agg #[.int .i64 r.kind,.string r.name,.int .i64 r.stop,.int .i64 r.n,.int .i64 r.kids]
theorem pop_done {a:Ab} {t:List Ab} (h:a.kids<=a.seen):pop (a :: t)=pop t:=by simp only [pop];rw [if_pos h]
theorem pop_stay {a:Ab} {t:List Ab} (h:¬ a.kids<=a.seen):pop (a :: t)=a :: t:=by simp only [pop];rw [if_neg h]
theorem abf1 (a b c d e:Value) (w:World):(Instr.field 164 (.agg #[a,b,c,d,e]) 1).run Tryz.prog w=.ok b w:=by kernel_rfl
theorem abf2 (a b c d e:Value) (w:World):(Instr.field 164 (.agg #[a,b,c,d,e]) 2).run Tryz.prog w=.ok c w:=by kernel_rfl
abbrev PastL (w0:World) (v0:Value) (base:Nat) (T:List Ab) (tt:List Ab) (v:Value) (w:World):Prop:=OwnT w base v tt/\Went w0 v0 w v/\pop tt=T/\tt.length<=3000000000001
theorem cell_row (w:World) (r:Rz):(w.alloc (.cells #[.int .i64 r.kind,.string r.name,.int .i64 r.stop,.int .i64 r.n,.int .i64 r.kids] 61)).cell? ⟨w.heap.size,0,none⟩=some (.int .i64 r.kind)/\(w.alloc (.cells #[.int .i64 r.kind,.string r.name,.int .i64 r.stop,.int .i64 r.n,.int .i64 r.kids] 61)).cell? ⟨w.heap.size,4,none⟩=some (.int .i64 r.kids):=by
 constructor
 ·rw [World.cell?,heap_alloc_new];simp
 ·rw [World.cell?,heap_alloc_new];simp
theorem past_any (t:List Ab) (r:Rz) (lv:Int) (base:Nat) (v:Value) (w:World) (h:OwnT w base v t) (hb:base<=w.heap.size) (hs:SeenLe 4611686018427387000 t) (hn:t.length<=3000000000000):
  Calls Tryz.prog 118 #[v,agr r,.int .i64 lv] w fun e w'=>∃ v',e=.returned v'/\OwnT w' base v' (past t r lv)/\Went w v w' v':=by
 obtain ⟨i0,hi,hz0,hz1,hz2⟩:=info_parts info164;have HN:Hid (t.length<=3000000000000):=hn;have HB:Hid (base<=w.heap.size):=hb;have hBx:Below w.heap.size w (w.alloc (.cells #[.int .i64 r.kind,.string r.name,.int .i64 r.stop,.int .i64 r.n,.int .i64 r.kids] 61)):=bAl w _;have HP:Hid (past t r lv=pop (⟨r.kind,r.kids,0,0,lv⟩ :: bump r.kind t)):=rfl;have hL:∀ (tt:List Ab) (v:Value) (w:World),OwnT w base v tt->tt.length<=4611686018427387904->Calls Tryz.prog 116 #[v] w fun e w'=>e=.returned (agb (top tt))/\Below w.heap.size w w':=fun tt v w h hn=>last_any tt base v w h hn;have HL:Hid (∀ (tt:List Ab) (v:Value) (w:World),OwnT w base v tt->tt.length<=4611686018427387904->Calls Tryz.prog 116 #[v] w fun e w'=>e=.returned (agb (top tt))/\Below w.heap.size w w'):=hL;clear hL hn hb;cases t with
 | nil=>
  have HO:Hid (OwnT (w.alloc (.cells #[.int .i64 r.kind,.string r.name,.int .i64 r.stop,.int .i64 r.n,.int .i64 r.kids] 61)) base v []):=own_below h hBx;have HW:Hid (Went w v (w.alloc (.cells #[.int .i64 r.kind,.string r.name,.int .i64 r.stop,.int .i64 r.n,.int .i64 r.kids] 61)) v):=(Went.refl w v).below hBx;obtain ⟨bo,bc,rfl⟩:=own_form h;simp only [List.length_nil] at *;obtain ⟨k0,k4⟩:=cell_row w r;clear h hs hBx;have HO3:Hid (OwnT ((w.alloc (.cells #[.int .i64 r.kind,.string r.name,.int .i64 r.stop,.int .i64 r.n,.int .i64 r.kids] 61)).alloc (.cells #[.int .i64 r.kind,.int .i64 r.kids,.int .i64 0,.int .i64 0,.int .i64 lv] 164)) base (.slice bo 0 bc) ([])):=own_below HO.out (bAl _ _);have HW3:Hid (Went w (.slice bo 0 bc) ((w.alloc (.cells #[.int .i64 r.kind,.string r.name,.int .i64 r.stop,.int .i64 r.n,.int .i64 r.kids] 61)).alloc (.cells #[.int .i64 r.kind,.int .i64 r.kids,.int .i64 0,.int .i64 0,.int .i64 lv] 164)) (.slice bo 0 bc)):=HW.out.below (bAl _ _);have HN1:Hid ((0)+1<=3000000000001):=by have:=HN.out;show _+1<=_;omega
  have hsz3:((w.alloc (.cells #[.int .i64 r.kind,.string r.name,.int .i64 r.stop,.int .i64 r.n,.int .i64 r.kids] 61))).heap.size=w.heap.size+1:=by simp
  have HC:Hid (∀ j u,(ac ⟨r.kind,r.kids,0,0,lv⟩)[j]?=some u->((w.alloc (.cells #[.int .i64 r.kind,.string r.name,.int .i64 r.stop,.int .i64 r.n,.int .i64 r.kids] 61)).alloc (.cells #[.int .i64 r.kind,.int .i64 r.kids,.int .i64 0,.int .i64 0,.int .i64 lv] 164)).cell? ((⟨w.heap.size+1,0,none⟩:Addr).add j)=some u):=fun j u hu=>by
   rw [<-hsz3];exact cell_five _ _ _ _ _ _ _ j u hu
  clear hsz3;go_enter Tryz.func118,Tryz.ntmps118;go_wp2_with (at_builtin;refine append_gone _ rfl _ _ 166 rfl base 164 i0 (.agg #[.int .i64 0,.int .i64 0,.int .i64 0,.int .i64 0,.int .i64 0]) 5 40 Tryz.underlying166 hi hz0 hz1 hz2 rfl (by decide) (.slice bo 0 bc) (0) (tc ([])) rfl HO3.out ⟨w.heap.size+1,0,none⟩ 1 1 (ac ⟨r.kind,r.kids,0,0,lv⟩) rfl rfl ?c1 ?c2 ?c3 ?c4 ?c5 ?c6 ?_)
  case c1=>exact HC.out
  case c2=>intro u hu;simp only [ac,List.mem_cons,List.not_mem_nil,or_false] at hu;rcases hu with rfl | rfl | rfl | rfl | rfl<;>rfl
  case c3=>have:=HN1.out;unfold maxLen;omega
  case c4=>have:=HN1.out;omega
  case c5=>have h1:=HB.out;have h2:=HW3.out.by_.size;omega
  case c6=>decide
  intro v4 w4 ho hG;have hP4:PastL w (.slice bo 0 bc) base (pop (⟨r.kind,r.kids,0,0,lv⟩ :: [])) (⟨r.kind,r.kids,0,0,lv⟩ :: []) v4 w4:=
   ⟨own_push ho,HW3.out.trans (Went.gone hG),rfl,HN1.out⟩
  have HP4:Hid (PastL w (.slice bo 0 bc) base (pop (⟨r.kind,r.kids,0,0,lv⟩ :: [])) (⟨r.kind,r.kids,0,0,lv⟩ :: []) v4 w4):=hP4;rw [show pop (⟨r.kind,r.kids,0,0,lv⟩ :: [])=past [] r lv from rfl] at HP4;clear ho hG hP4 hi hz0 hz1 hz2;go_wp2_with fail
  go_loopg [0] ((0)+1) (fun gq x wr=>∃ tt v,x=v/\gq=tt.length/\PastL w (.slice bo 0 bc) base (past [] r lv) tt v wr)
  case atStart=>exact ⟨⟨r.kind,r.kids,0,0,lv⟩ :: [],_,rfl,rfl,HP4.out⟩
  case round=>
   obtain ⟨tt,v,rfl,hgk,hPL⟩:=hrel;have HG:Hid (gk=tt.length):=hgk;clear hgk;cases tt with
   | nil=>
    obtain ⟨bo5,bc5,rfl⟩:=own_form hPL.1;have HPL:Hid (PastL w (.slice bo 0 bc) base (past [] r lv) [] (.slice bo5 ([]:List Ab).length bc5) wr):=hPL;clear hPL;simp only [List.length_nil] at *;go_wp2_with fail;go_ret;exact ⟨_,rfl,by rw [<-HPL.out.2.2.1];exact HPL.out.1,HPL.out.2.1⟩
   | cons a5 t5=>
    obtain ⟨g5,cap5,cur5,rfl,_,_,hc5,_,_,_⟩:=own_block hPL.1 (by simp)
    have HPL:Hid (PastL w (.slice bo 0 bc) base (past [] r lv) (a5 :: t5) (.slice (pZ g5) (t5.length+1) cap5) wr):=hPL;have hl5:(t5.length:Int)<=3000000000001:=by have:=hPL.2.2.2;simp only [List.length_cons] at this;omega
    have hc5':(t5.length:Int)+1<=(cap5:Int):=by simp only [List.length_cons] at hc5;omega
    simp only [List.length_cons] at HG ⊢;clear hPL hc5;have hf1:=abf1;have hf2:=abf2;go_wp2_with fail;refine (show Calls Tryz.prog 116 _ wr fun e w'=>e=.returned (.agg #[.int .i64 a5.kind,.int .i64 a5.kids,.int .i64 a5.seen,.int .i64 a5.kid,.int .i64 a5.levels])/\Below wr.heap.size wr w' from HL.out (a5 :: t5) _ _ HPL.out.1 (by simp only [List.length_cons];omega)).mono ?_
    rintro e w5 ⟨rfl,hB5⟩;have HB5:Hid (Below wr.heap.size wr w5):=hB5;clear hB5;go_wp2_with fail;refine (show Calls Tryz.prog 116 _ w5 fun e w'=>e=.returned (.agg #[.int .i64 a5.kind,.int .i64 a5.kids,.int .i64 a5.seen,.int .i64 a5.kid,.int .i64 a5.levels])/\Below w5.heap.size w5 w' from HL.out (a5 :: t5) _ _ (own_below HPL.out.1 HB5.out) (by simp only [List.length_cons];omega)).mono ?_
    rintro e w6 ⟨rfl,hB6⟩;have HB6:Hid (Below wr.heap.size wr w6):=HB5.out.trans (hB6.mono HB5.out.size);clear hB6;by_cases hd:a5.kids<=(a5.seen:Int)
    ·have HD:Hid (a5.kids<=(a5.seen:Int)):=hd;go_wp2_with fail;go_roundg t5.length
     case measure=>have:=HG.out;omega
     case rel=>exact ⟨t5,_,rfl,rfl,own_pop (own_below HPL.out.1 HB6.out),(HPL.out.2.1.below HB6.out).trans ⟨⟨rfl,rfl,rfl,Nat.le_refl _,fun _ _ _=>rfl⟩,Or.inl rfl⟩,by rw [<-HPL.out.2.2.1,pop_done HD.out],by omega⟩
    ·have HD:Hid (pop (a5 :: t5)=a5 :: t5):=pop_stay hd;go_wp2_with fail;go_ret;exact ⟨_,rfl,by rw [<-HPL.out.2.2.1,HD.out];exact own_below HPL.out.1 HB6.out,HPL.out.2.1.below HB6.out⟩
 | cons a t=>
  have hsa:a.seen<=4611686018427387000:=hs a (List.mem_cons_self ..);obtain ⟨g,cap,rfl,hbg,hg,hf,hWc⟩:=own_top h;obtain ⟨_,_,c2,_,_⟩:=hWc (w.alloc (.cells #[.int .i64 r.kind,.string r.name,.int .i64 r.stop,.int .i64 r.n,.int .i64 r.kids] 61)) (hBx.block g hg);have hst1:=World.ownsRow.stored h (t.length * 5+2) (.int .i64 (a.seen+1:Nat));have hbm:=own_bump r.kind h;have hcast:((a.seen+1:Nat):Int)=(a.seen:Int)+1:=by omega
  rw [hcast] at hst1 hbm;have hlt:(t.length:Int)<=3000000000000:=by have:=HN.out;simp only [List.length_cons] at this;omega
  have hsa2:(a.seen:Int)<=4611686018427387000:=by omega
  have f1:∀ j,(w.alloc (.cells #[.int .i64 r.kind,.string r.name,.int .i64 r.stop,.int .i64 r.n,.int .i64 r.kids] 61)).frozen? ⟨g,j,none⟩=false:=fun j=>(World.frozen?_of_block (a:=⟨g,j,none⟩) (hBx.block g hg)).trans (hf j);have hz1':(w.setCell ⟨g,t.length * 5+2,none⟩ (.int .i64 ((a.seen:Int)+1))).heap.size=w.heap.size:=by simp
  have hz2':((w.setCell ⟨g,t.length * 5+2,none⟩ (.int .i64 ((a.seen:Int)+1))).setCell ⟨g,t.length * 5+3,none⟩ (.int .i64 r.kind)).heap.size=w.heap.size:=by simp
  have f2:∀ j,((w.setCell ⟨g,t.length * 5+2,none⟩ (.int .i64 ((a.seen:Int)+1))).alloc (.cells #[.int .i64 r.kind,.string r.name,.int .i64 r.stop,.int .i64 r.n,.int .i64 r.kids] 61)).frozen? ⟨g,j,none⟩=false:=fun j=>
   (World.frozen?_of_block (a:=⟨g,j,none⟩) (Below.heap_alloc _ _ _ (by rw [hz1'];exact hg))).trans (World.ownsRow.frozenAt hst1.1 j)
  have c3':((w.setCell ⟨g,t.length * 5+2,none⟩ (.int .i64 ((a.seen:Int)+1))).alloc (.cells #[.int .i64 r.kind,.string r.name,.int .i64 r.stop,.int .i64 r.n,.int .i64 r.kids] 61)).cell? ⟨g,t.length * 5+3,none⟩=some (.int .i64 a.kid):=by
   rw [World.cell?_of_block (a:=⟨g,t.length * 5+3,none⟩) (Below.heap_alloc _ _ _ (by rw [hz1'];exact hg)),World.ownsRow.cellAt hst1.1 _ (by omega),List.getElem?_set_ne (by omega)]
   exact tc_top a t 3
  have n1:=cell_row (w.setCell ⟨g,t.length * 5+2,none⟩ (.int .i64 ((a.seen:Int)+1))) r;have n2:=cell_row ((w.setCell ⟨g,t.length * 5+2,none⟩ (.int .i64 ((a.seen:Int)+1))).setCell ⟨g,t.length * 5+3,none⟩ (.int .i64 r.kind)) r;rw [hz1'] at n1;rw [hz2'] at n2;obtain ⟨k0,_⟩:=n1;obtain ⟨k1,k4⟩:=n2;have hbel:Below w.heap.size ((w.setCell ⟨g,t.length * 5+2,none⟩ (.int .i64 ((a.seen:Int)+1))).setCell ⟨g,t.length * 5+3,none⟩ (.int .i64 r.kind)) (((w.setCell ⟨g,t.length * 5+2,none⟩ (.int .i64 ((a.seen:Int)+1))).setCell ⟨g,t.length * 5+3,none⟩ (.int .i64 r.kind)).alloc (.cells #[.int .i64 r.kind,.string r.name,.int .i64 r.stop,.int .i64 r.n,.int .i64 r.kids] 61)):=(Below.refl _ _).alloc (by rw [hz2'];exact Nat.le_refl _) _
  have hbel2:=hbel;rw [<-hz2'] at hbel2;have HO2:Hid (OwnT (((w.setCell ⟨g,t.length * 5+2,none⟩ (.int .i64 ((a.seen:Int)+1))).setCell ⟨g,t.length * 5+3,none⟩ (.int .i64 r.kind)).alloc (.cells #[.int .i64 r.kind,.string r.name,.int .i64 r.stop,.int .i64 r.n,.int .i64 r.kids] 61)) base (.slice (pZ g) (t.length+1) cap) (bump r.kind (a :: t))):=own_below hbm.1 hbel2;have HW2:Hid (Went w (.slice (pZ g) (t.length+1) cap) (((w.setCell ⟨g,t.length * 5+2,none⟩ (.int .i64 ((a.seen:Int)+1))).setCell ⟨g,t.length * 5+3,none⟩ (.int .i64 r.kind)).alloc (.cells #[.int .i64 r.kind,.string r.name,.int .i64 r.stop,.int .i64 r.n,.int .i64 r.kids] 61)) (.slice (pZ g) (t.length+1) cap)):=hbm.2.below hbel2;clear hbm h hs hWc hst1 hBx hf hcast hsa hz1' hz2' hbel hbel2;have HO3:Hid (OwnT ((((w.setCell ⟨g,t.length * 5+2,none⟩ (.int .i64 ((a.seen:Int)+1))).setCell ⟨g,t.length * 5+3,none⟩ (.int .i64 r.kind)).alloc (.cells #[.int .i64 r.kind,.string r.name,.int .i64 r.stop,.int .i64 r.n,.int .i64 r.kids] 61)).alloc (.cells #[.int .i64 r.kind,.int .i64 r.kids,.int .i64 0,.int .i64 0,.int .i64 lv] 164)) base (.slice (pZ g) (t.length+1) cap) (bump r.kind (a :: t))):=own_below HO2.out (bAl _ _);have HW3:Hid (Went w (.slice (pZ g) (t.length+1) cap) ((((w.setCell ⟨g,t.length * 5+2,none⟩ (.int .i64 ((a.seen:Int)+1))).setCell ⟨g,t.length * 5+3,none⟩ (.int .i64 r.kind)).alloc (.cells #[.int .i64 r.kind,.string r.name,.int .i64 r.stop,.int .i64 r.n,.int .i64 r.kids] 61)).alloc (.cells #[.int .i64 r.kind,.int .i64 r.kids,.int .i64 0,.int .i64 0,.int .i64 lv] 164)) (.slice (pZ g) (t.length+1) cap)):=HW2.out.below (bAl _ _);have HN1:Hid ((t.length+1)+1<=3000000000001):=by have:=HN.out;simp only [List.length_cons] at this;show _+1<=_;omega
  have hsz3:((((w.setCell ⟨g,t.length * 5+2,none⟩ (.int .i64 ((a.seen:Int)+1))).setCell ⟨g,t.length * 5+3,none⟩ (.int .i64 r.kind)).alloc (.cells #[.int .i64 r.kind,.string r.name,.int .i64 r.stop,.int .i64 r.n,.int .i64 r.kids] 61))).heap.size=w.heap.size+1:=by simp
  have HC:Hid (∀ j u,(ac ⟨r.kind,r.kids,0,0,lv⟩)[j]?=some u->((((w.setCell ⟨g,t.length * 5+2,none⟩ (.int .i64 ((a.seen:Int)+1))).setCell ⟨g,t.length * 5+3,none⟩ (.int .i64 r.kind)).alloc (.cells #[.int .i64 r.kind,.string r.name,.int .i64 r.stop,.int .i64 r.n,.int .i64 r.kids] 61)).alloc (.cells #[.int .i64 r.kind,.int .i64 r.kids,.int .i64 0,.int .i64 0,.int .i64 lv] 164)).cell? ((⟨w.heap.size+1,0,none⟩:Addr).add j)=some u):=fun j u hu=>by
   rw [<-hsz3];exact cell_five _ _ _ _ _ _ _ j u hu
  clear hsz3;go_enter Tryz.func118,Tryz.ntmps118;go_wp2_with (at_builtin;refine append_gone _ rfl _ _ 166 rfl base 164 i0 (.agg #[.int .i64 0,.int .i64 0,.int .i64 0,.int .i64 0,.int .i64 0]) 5 40 Tryz.underlying166 hi hz0 hz1 hz2 rfl (by decide) (.slice (pZ g) (t.length+1) cap) (t.length+1) (tc (bump r.kind (a :: t))) rfl HO3.out ⟨w.heap.size+1,0,none⟩ 1 1 (ac ⟨r.kind,r.kids,0,0,lv⟩) rfl rfl ?c1 ?c2 ?c3 ?c4 ?c5 ?c6 ?_)
  case c1=>exact HC.out
  case c2=>intro u hu;simp only [ac,List.mem_cons,List.not_mem_nil,or_false] at hu;rcases hu with rfl | rfl | rfl | rfl | rfl<;>rfl
  case c3=>have:=HN1.out;unfold maxLen;omega
  case c4=>have:=HN1.out;omega
  case c5=>have h1:=HB.out;have h2:=HW3.out.by_.size;omega
  case c6=>decide
  intro v4 w4 ho hG;have hP4:PastL w (.slice (pZ g) (t.length+1) cap) base (pop (⟨r.kind,r.kids,0,0,lv⟩ :: bump r.kind (a :: t))) (⟨r.kind,r.kids,0,0,lv⟩ :: bump r.kind (a :: t)) v4 w4:=
   ⟨own_push ho,HW3.out.trans (Went.gone hG),rfl,HN1.out⟩
  have HP4:Hid (PastL w (.slice (pZ g) (t.length+1) cap) base (pop (⟨r.kind,r.kids,0,0,lv⟩ :: bump r.kind (a :: t))) (⟨r.kind,r.kids,0,0,lv⟩ :: bump r.kind (a :: t)) v4 w4):=hP4;rw [show pop (⟨r.kind,r.kids,0,0,lv⟩ :: bump r.kind (a :: t))=past (a :: t) r lv from rfl] at HP4;clear ho hG hP4 hi hz0 hz1 hz2;go_wp2_with fail
  go_loopg [0] ((t.length+1)+1) (fun gq x wr=>∃ tt v,x=v/\gq=tt.length/\PastL w (.slice (pZ g) (t.length+1) cap) base (past (a :: t) r lv) tt v wr)
  case atStart=>exact ⟨⟨r.kind,r.kids,0,0,lv⟩ :: bump r.kind (a :: t),_,rfl,rfl,HP4.out⟩
  case round=>
   obtain ⟨tt,v,rfl,hgk,hPL⟩:=hrel;have HG:Hid (gk=tt.length):=hgk;clear hgk;cases tt with
   | nil=>
    obtain ⟨bo5,bc5,rfl⟩:=own_form hPL.1;have HPL:Hid (PastL w (.slice (pZ g) (t.length+1) cap) base (past (a :: t) r lv) [] (.slice bo5 ([]:List Ab).length bc5) wr):=hPL;clear hPL;simp only [List.length_nil] at *;go_wp2_with fail;go_ret;exact ⟨_,rfl,by rw [<-HPL.out.2.2.1];exact HPL.out.1,HPL.out.2.1⟩
   | cons a5 t5=>
    obtain ⟨g5,cap5,cur5,rfl,_,_,hc5,_,_,_⟩:=own_block hPL.1 (by simp)
    have HPL:Hid (PastL w (.slice (pZ g) (t.length+1) cap) base (past (a :: t) r lv) (a5 :: t5) (.slice (pZ g5) (t5.length+1) cap5) wr):=hPL;have hl5:(t5.length:Int)<=3000000000001:=by have:=hPL.2.2.2;simp only [List.length_cons] at this;omega
    have hc5':(t5.length:Int)+1<=(cap5:Int):=by simp only [List.length_cons] at hc5;omega
    simp only [List.length_cons] at HG ⊢;clear hPL hc5;have hf1:=abf1;have hf2:=abf2;go_wp2_with fail;refine (show Calls Tryz.prog 116 _ wr fun e w'=>e=.returned (.agg #[.int .i64 a5.kind,.int .i64 a5.kids,.int .i64 a5.seen,.int .i64 a5.kid,.int .i64 a5.levels])/\Below wr.heap.size wr w' from HL.out (a5 :: t5) _ _ HPL.out.1 (by simp only [List.length_cons];omega)).mono ?_
    rintro e w5 ⟨rfl,hB5⟩;have HB5:Hid (Below wr.heap.size wr w5):=hB5;clear hB5;go_wp2_with fail;refine (show Calls Tryz.prog 116 _ w5 fun e w'=>e=.returned (.agg #[.int .i64 a5.kind,.int .i64 a5.kids,.int .i64 a5.seen,.int .i64 a5.kid,.int .i64 a5.levels])/\Below w5.heap.size w5 w' from HL.out (a5 :: t5) _ _ (own_below HPL.out.1 HB5.out) (by simp only [List.length_cons];omega)).mono ?_
    rintro e w6 ⟨rfl,hB6⟩;have HB6:Hid (Below wr.heap.size wr w6):=HB5.out.trans (hB6.mono HB5.out.size);clear hB6;by_cases hd:a5.kids<=(a5.seen:Int)
    ·have HD:Hid (a5.kids<=(a5.seen:Int)):=hd;go_wp2_with fail;go_roundg t5.length
     case measure=>have:=HG.out;omega
     case rel=>exact ⟨t5,_,rfl,rfl,own_pop (own_below HPL.out.1 HB6.out),(HPL.out.2.1.below HB6.out).trans ⟨⟨rfl,rfl,rfl,Nat.le_refl _,fun _ _ _=>rfl⟩,Or.inl rfl⟩,by rw [<-HPL.out.2.2.1,pop_done HD.out],by omega⟩
    ·have HD:Hid (pop (a5 :: t5)=a5 :: t5):=pop_stay hd;go_wp2_with fail;go_ret;exact ⟨_,rfl,by rw [<-HPL.out.2.2.1,HD.out];exact own_below HPL.out.1 HB6.out,HPL.out.2.1.below HB6.out⟩
end Go.Proofs.YtbledbjcghaanaaGreat.Gr
