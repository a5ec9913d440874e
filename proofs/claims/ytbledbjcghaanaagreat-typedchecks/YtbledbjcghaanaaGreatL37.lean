import Derived.Test.YtbledbjcghaanaaGreatTl
import Derived.Test.YtbledbjcghaanaaGreatL36
import Derived.Deep.RegionHeld3
set_option maxHeartbeats 12800000
set_option maxRecDepth 100000
namespace Go.Proofs.YtbledbjcghaanaaGreat.Nm
open Go.RowKit Go.Maps Sp Lx Gr
theorem rat_numbN {l:List Rz} {i j n:Nat} (h:j ≠ i):rat (numb l i n) j=rat l j:=by
 simp only [rat,numb,List.getD_eq_getElem?_getD,List.getElem?_set,if_neg (Ne.symm h)]
def nameOf (l0:List Rz) (qs:List (ByteArray × Bool)) (vs ts:List ByteArray) (us:List Nat) (k n:Nat):Option ByteArray:=
 if k=1 then (qs[n]?).map (·.1) else if k=2 then vs[n]? else if k=3 then ts[n]? else if k=4 then (us[n]?).map (fun u=>(rat l0 (u - 1)).name) else none
abbrev Rs.nm (s:Rs) (l0:List Rz) (k n:Nat):Option ByteArray:=nameOf l0 s.qs s.vs s.ts s.us k n
theorem get_more {α:Type} {l m:List α} {n:Nat} {x:α} (h:l[n]?=some x):(l++m)[n]?=some x:=by
 rw [List.getElem?_append_left (List.getElem?_eq_some_iff.1 h).1];exact h
theorem dec_mono {l0:List Rz} {s:Rs} {i k n:Nat} {x:ByteArray} (h:s.nm l0 k n=some x):(s.dec i).nm l0 k n=some x:=by
 unfold Rs.nm nameOf at *;by_cases h1:k=1
 ·rw [if_pos h1] at h ⊢;cases hq:s.qs[n]? with
  | none=>rw [hq] at h;cases h
  | some q=>
   rw [hq] at h;have:(s.dec i).qs[n]?=some q:=by
    show (if (rat s.rows i).kind=2 then s.qs++[((rat s.rows i).name,false)] else if (rat s.rows i).kind=3 then s.qs++[((rat s.rows i).name,true)] else s.qs)[n]?=some q
    split
    ·exact get_more hq
    ·split
     ·exact get_more hq
     ·exact hq
   rw [this];exact h
 ·rw [if_neg h1] at h ⊢;by_cases h2:k=2
  ·rw [if_pos h2] at h ⊢;show (if (rat s.rows i).kind=4 then s.vs++[(rat s.rows i).name] else s.vs)[n]?=some x
   split
   ·exact get_more h
   ·exact h
  ·rw [if_neg h2] at h ⊢;by_cases h3:k=3
   ·rw [if_pos h3] at h ⊢;show (if (rat s.rows i).kind=5 then s.ts++[(rat s.rows i).name] else s.ts)[n]?=some x
    split
    ·exact get_more h
    ·exact h
   ·rw [if_neg h3] at h ⊢;by_cases h4:k=4
    ·rw [if_pos h4] at h ⊢;cases hu:s.us[n]? with
     | none=>rw [hu] at h;cases h
     | some u=>
      rw [hu] at h;have:(s.dec i).us[n]?=some u:=by
       show (if (rat s.rows i).kind=7 then s.us++[i+1] else s.us)[n]?=some u
       split
       ·exact get_more hu
       ·exact hu
      rw [this];exact h
    ·rw [if_neg h4] at h;cases h
theorem dec_new {l0:List Rz} {s:Rs} {i:Nat} (hn:(rat s.rows i).name=(rat l0 i).name) (hd:decl (rat s.rows i).kind ≠ 0):(s.dec i).nm l0 (decl (rat s.rows i).kind) (s.cnt (decl (rat s.rows i).kind))=some (rat s.rows i).name:=by
 unfold Rs.nm nameOf;have hq:(s.dec i).qs=if (rat s.rows i).kind=2 then s.qs++[((rat s.rows i).name,false)] else if (rat s.rows i).kind=3 then s.qs++[((rat s.rows i).name,true)] else s.qs:=rfl;have hv:(s.dec i).vs=if (rat s.rows i).kind=4 then s.vs++[(rat s.rows i).name] else s.vs:=rfl;have ht:(s.dec i).ts=if (rat s.rows i).kind=5 then s.ts++[(rat s.rows i).name] else s.ts:=rfl;have hu:(s.dec i).us=if (rat s.rows i).kind=7 then s.us++[i+1] else s.us:=rfl;rcases decl_cases (rat s.rows i).kind with ⟨e,ed⟩ | ⟨e,ed⟩ | ⟨e,ed⟩ | ⟨e,ed⟩ | ⟨e,ed⟩ | ⟨_,_,_,_,_,ed⟩
 ·rw [ed,hq,e];simp [Rs.cnt]
 ·rw [ed,hq,e];simp [Rs.cnt]
 ·rw [ed,hv,e];simp [Rs.cnt]
 ·rw [ed,ht,e];simp [Rs.cnt]
 ·rw [ed,hu,e];simp [Rs.cnt]
  simpa [rat,List.getD_eq_getElem?_getD] using hn.symm
 ·exact absurd ed hd
structure Mean (l0:List Rz) (i:Nat) (s:Rs):Prop where
 kn:∀ e ∈ s.known,s.nm l0 e.2.1 e.2.2.1=some e.1
 rw:∀ j,j < i->j < l0.length->decl (rat l0 j).kind ≠ 0\/nmd (rat l0 j).kind ≠ 0->∃ n:Nat,(rat s.rows j).n=(n:Int)/\s.nm l0 (decl (rat l0 j).kind+nmd (rat l0 j).kind) n=some (rat l0 j).name
 ot:∀ j,j < l0.length->i<=j\/(decl (rat l0 j).kind=0/\nmd (rat l0 j).kind=0)->(rat s.rows j).n=(rat l0 j).n
 up:∀ u ∈ s.us,1<=u
theorem mean_start (l:List Rz):Mean l 0 (start l):=⟨fun e he=>by simp [start] at he,fun j hj=>by omega,fun j _ _=>rfl,fun u hu=>by simp [start] at hu⟩
theorem mean_skip {l0:List Rz} {i:Nat} {s:Rs} (h:Mean l0 i s) (hd:decl (rat l0 i).kind=0) (hn:nmd (rat l0 i).kind=0):Mean l0 (i+1) s:=
 ⟨h.kn,fun j hj hl hk=>by
  by_cases e:j=i
  ·subst e;rcases hk with hk | hk
   ·exact absurd hd hk
   ·exact absurd hn hk
  ·exact h.rw j (by omega) hl hk,fun j hl ho=>by
  by_cases e:j=i
  ·subst e;exact h.ot j hl (Or.inl (Nat.le_refl _))
  ·refine h.ot j hl ?_;rcases ho with ho | ho
   ·exact Or.inl (by omega)
   ·exact Or.inr ho,h.up⟩
theorem mean_dec {l0:List Rz} {i m:Nat} {s:Rs} (h:Mean l0 i s) (hg:Good l0 m s) (hi:i < l0.length) (hd:decl (rat s.rows i).kind ≠ 0):Mean l0 (i+1) (s.dec i):=by
 have hk:=like_kind hg.like hi;have hil:i < s.rows.length:=by rw [like_len hg.like];exact hi
 have hnew:=dec_new (l0:=l0) hk.2.1 hd;have hrows:(s.dec i).rows=numb s.rows i (s.cnt (decl (rat s.rows i).kind)):=rfl;have hn0:nmd (rat l0 i).kind=0:=by
  rcases decl_cases (rat s.rows i).kind with ⟨e,_⟩ | ⟨e,_⟩ | ⟨e,_⟩ | ⟨e,_⟩ | ⟨e,_⟩ | ⟨_,_,_,_,_,e⟩
  all_goals first | exact absurd e hd | (rw [<-hk.1,e];rfl)
 refine ⟨fun e he=>?_,fun j hj hl hkd=>?_,fun j hl ho=>?_,fun u hu=>?_⟩
 ·have he2:e=((rat s.rows i).name,decl (rat s.rows i).kind,s.cnt (decl (rat s.rows i).kind),endp (numb s.rows i (s.cnt (decl (rat s.rows i).kind))) i)\/e ∈ s.known:=List.mem_cons.1 he;rcases he2 with rfl | he2
  ·exact hnew
  ·exact dec_mono (h.kn e he2)
 ·by_cases e:j=i
  ·subst e;refine ⟨s.cnt (decl (rat s.rows j).kind),?_,?_⟩
   ·rw [hrows,rat_numb hil]
   ·rw [hn0,Nat.add_zero,<-hk.1,<-hk.2.1];exact hnew
  ·obtain ⟨n,h1,h2⟩:=h.rw j (by omega) hl hkd
   exact ⟨n,by rw [hrows,rat_numbN e];exact h1,dec_mono h2⟩
 ·have e:j ≠ i:=fun e=>by
   subst e;rcases ho with ho | ho
   ·omega
   ·rw [hk.1] at hd;exact hd ho.1
  rw [hrows,rat_numbN e];refine h.ot j hl ?_;rcases ho with ho | ho
  ·exact Or.inl (by omega)
  ·exact Or.inr ho
 ·have hu2:u ∈ (if (rat s.rows i).kind=7 then s.us++[i+1] else s.us):=hu
  split at hu2
  ·rcases List.mem_append.1 hu2 with hu3 | hu3
   ·exact h.up u hu3
   ·rw [List.mem_singleton.1 hu3];omega
  ·exact h.up u hu2
theorem mean_ref {l0:List Rz} {i m k n p:Nat} {s:Rs} (h:Mean l0 i s) (hg:Good l0 m s) (hi:i < l0.length) (hd:decl (rat l0 i).kind=0) (hlk:lk s.known (rat s.rows i).name=some (k,n,p)) (hk:k=nmd (rat s.rows i).kind):Mean l0 (i+1) { s with rows:=numb s.rows i n } := by
 have hkd:=like_kind hg.like hi;have hil:i < s.rows.length:=by rw [like_len hg.like];exact hi
 have hm:=h.kn _ (lk_mem hlk);refine ⟨h.kn,fun j hj hl hx=>?_,fun j hl ho=>?_,h.up⟩
 ·by_cases e:j=i
  ·subst e;refine ⟨n,?_,?_⟩
   ·show (rat (numb s.rows j n) j).n=_
    rw [rat_numb hil]
   ·rw [hd,Nat.zero_add,<-hkd.1,<-hk,<-hkd.2.1];exact hm
  ·obtain ⟨q,h1,h2⟩:=h.rw j (by omega) hl hx
   exact ⟨q,by show (rat (numb s.rows i n) j).n=_;rw [rat_numbN e];exact h1,h2⟩
 ·have e:j ≠ i:=fun e=>by
   subst e;rcases ho with ho | ho
   ·omega
   ·have:=hg.kn _ (lk_mem hlk);dsimp only at this;rw [hk,hkd.1,ho.2] at this;omega
  show (rat (numb s.rows i n) j).n=_
  rw [rat_numbN e];refine h.ot j hl ?_;rcases ho with ho | ho
  ·exact Or.inl (by omega)
  ·exact Or.inr ho
theorem upto_mean {l:List Rz} (hB:Base l) (n:Nat) (hn:n<=l.length) {s:Rs} (h:upto (start l) n=.ok s):Mean l n s:=by
 induction n generalizing s with
 | zero=>
  cases h;exact mean_start l
 | succ n ih=>
  simp only [upto] at h
  split at h
  ·cases h
  ·rename_i t ht
   have hc:=ih (by omega) ht
   have hg:=upto_good hB n (by omega) ht
   have hkd:=like_kind hg.like (show n < l.length by omega)
   split at h
   ·cases h
   ·rename_i t' h3
    cases h;cases h1:askN n t 1 with
    | error c=>rw [askN_err h1 2] at h3;cases h3
    | ok t1=>
     cases h2:askN n t 2 with
     | error c=>rw [askN_err h2 1] at h3;cases h3
     | ok t2=>
      have a1:askD n t=.ok t1:=(askN_succ (j:=0) rfl).symm.trans h1;have a2:askM n t1=.ok t2:=(askN_succ h1).symm.trans h2;have a3:askH n t2=.ok s:=(askN_succ h2).symm.trans h3;have hH:∀ {a:Rs},Mean l (n+1) t2->askH n t2=.ok a->Mean l (n+1) a:=fun hm ha=>by
       unfold askH at ha
       split at ha
       ·cases ha;exact hm
       ·split at ha
        ·cases ha
        ·cases ha;exact ⟨hm.kn,hm.rw,hm.ot,hm.up⟩
      refine hH ?_ a3;have hg1:=good_D hB (by omega) hg a1
      have hk1:=like_kind hg1.like (show n < l.length by omega)
      unfold askD at a1
      split at a1
      ·rename_i hd
       cases a1;unfold askM at a2
       split at a2
       ·rename_i hn0
        cases a2;exact mean_skip hc (by rw [<-hkd.1];exact hd) (by rw [<-hkd.1];exact hn0)
       ·split at a2
        ·cases a2
        ·rename_i k q p hlk
         split at a2
         ·cases a2
         ·split at a2
          ·cases a2
          ·rename_i hk
           cases a2;exact mean_ref hc hg (by omega) (by rw [<-hkd.1];exact hd) hlk (by simpa using hk)
      ·rename_i hd
       split at a1
       ·cases a1
       ·split at a1
        ·cases a1
        ·cases a1;have hn0:nmd (rat t.rows n).kind=0:=by
          rcases decl_cases (rat t.rows n).kind with ⟨e,_⟩ | ⟨e,_⟩ | ⟨e,_⟩ | ⟨e,_⟩ | ⟨e,_⟩ | ⟨_,_,_,_,_,e⟩
          all_goals first | exact absurd e hd | (rw [e];rfl)
         have e2:askM n (t.dec n)=.ok (t.dec n):=by
          unfold askM;rw [if_pos (by rw [hk1.1,<-hkd.1];exact hn0)]
         rw [e2] at a2;cases a2;exact mean_dec hc hg (by omega) hd
end Go.Proofs.YtbledbjcghaanaaGreat.Nm
namespace Go.Proofs.YtbledbjcghaanaaGreat.Nm.Ty
open Go.RowKit Go.Maps Sp Lx Gr Nm
theorem fill_kids {r:Rz} (h:filled r=true):(least r.kind:Int)<=r.kids/\r.kids<=greatest r.kind:=by
 unfold filled at h;simp only [Bool.and_eq_true] at h;have h1:=h.2.2.2;unfold wtn at h1;simp only [Bool.and_eq_true,decide_eq_true_eq] at h1;exact h1
theorem fill_num {r:Rz} (h:filled r=true):0<=r.n/\r.n<=1073741824:=by
 unfold filled at h;simp only [Bool.and_eq_true,wtn,decide_eq_true_eq] at h;obtain ⟨_,_,⟨h1,h2⟩,_⟩:=h;unfold lastNum at h2
 split at h2<;>omega
theorem stand24 {d s c:Int} (h:mayStand d s c 24=true):d=19\/d=20:=by
 by_cases h1:d=19\/d=20
 ·exact h1
 ·exfalso
  unfold mayStand at h
  split at h
  ·exact absurd h (by decide)
  ·split at h
   ·simp [isEvent,isDecl,wtn] at h
   ·split at h
    ·exact absurd h (by decide)
    ·split at h
     ·exact absurd h (by decide)
     ·split at h
      ·exact absurd h (by decide)
      ·unfold mayFollow at h
       repeat' split at h
       all_goals exact absurd h (by decide)
def Two (k:Int):Prop:=k=19\/k=20
theorem pop_mem {t:List Ab} : ∀ a ∈ Gr.pop t,a ∈ t:=by
 induction t with
 | nil=>intro a h;exact h
 | cons b t ih=>
  intro a h;unfold Gr.pop at h
  split at h
  ·exact List.mem_cons_of_mem _ (ih a h)
  ·exact h
theorem pop_tail {t:List Ab} {p:Ab->Prop} (h:∀ a ∈ t,p a):∀ a ∈ (Gr.pop t).tail,p a:=fun a ha=>h a (pop_mem a (List.mem_of_mem_tail ha))
theorem pop_top {t:List Ab} (h:∀ a ∈ t,Two a.kind->a.kids<=(a.seen:Int)):¬ Two (top (Gr.pop t)).kind:=by
 induction t with
 | nil=>show ¬ Two ab0.kind;intro h;rcases h with h | h<;>cases h
 | cons b t ih=>
  unfold Gr.pop
  split
  ·exact ih (fun a ha=>h a (List.mem_cons_of_mem _ ha))
  ·rename_i hc
   exact fun h2=>hc (h b (List.mem_cons_self ..) h2)
theorem bump_mem {t:List Ab} {k:Int} {p:Ab->Prop} (h:∀ a ∈ t,p ⟨a.kind,a.kids,a.seen+1,k,a.levels⟩) (h2:∀ a ∈ t.tail,p a):∀ a ∈ bump k t,p a:=by
 cases t with
 | nil=>intro a h;cases h
 | cons b t=>
  intro a ha;rcases List.mem_cons.1 ha with rfl | ha
  ·exact h b (List.mem_cons_self ..)
  ·exact h2 a ha
theorem great2 {k:Int} (h:Two k):greatest k=1:=by rcases h with rfl | rfl<;>decide
theorem place_up (l:List Rz):∀ (t:List Ab) (i:Nat) (pk:Int),(wrong t i l).2=false->(Two (top t).kind->Two pk)->(∀ a ∈ t,Two a.kind->a.kids<=1)->(∀ a ∈ t.tail,1<=a.seen)->∀ j,j < l.length->(rat l j).kind=24->(j=0->Two pk)/\(0 < j->Two (rat l (j - 1)).kind):=by
 induction l with
 | nil=>intro t i pk _ _ _ _ j hj;simp at hj
 | cons r l ih=>
  intro t i pk hw htop hk hs j hj h24;simp only [wrong] at hw
  split at hw
  ·cases hw
  ·rename_i hc
   simp only [Bool.or_eq_true,Bool.not_eq_true',Bool.and_eq_false_iff,not_or,Bool.not_eq_false,Bool.not_eq_true] at hc;obtain ⟨_,hst,hfl⟩:=hc;cases j with
   | zero=>
    refine ⟨fun _=>htop ?_,fun h=>absurd h (Nat.lt_irrefl 0)⟩;have h1:r.kind=24:=h24;rw [h1] at hst;exact stand24 hst
   | succ j=>
    refine ⟨fun h=>by omega,fun _=>?_⟩
    have hnew:Two r.kind->r.kids<=1:=fun h=>by have:=(fill_kids hfl).2;rw [great2 h] at this;exact this
    have hbk:∀ a ∈ bump r.kind t,Two a.kind->a.kids<=1:=bump_mem (p:=fun a=>Two a.kind->a.kids<=1) (fun a ha=>hk a ha) (fun a ha=>hk a (List.mem_of_mem_tail ha));have hbs:∀ a ∈ bump r.kind t,1<=a.seen:=bump_mem (p:=fun a=>1<=a.seen) (fun a _=>Nat.le_add_left _ _) hs;have hall:∀ a ∈ (⟨r.kind,r.kids,0,0,0⟩ :: bump r.kind t:List Ab),Two a.kind->a.kids<=1:=fun a ha=>by
     rcases List.mem_cons.1 ha with rfl | ha
     ·exact hnew
     ·exact hbk a ha
    have h1:=ih (past t r 0) (i+1) r.kind hw ?_ (fun a ha=>hall a (pop_mem a ha)) ?_ j (by simpa using hj) (by simpa using h24)
    ·cases j with
     | zero=>exact h1.1 rfl
     | succ j=>exact h1.2 (Nat.succ_pos _)
    ·intro h2;unfold past at h2;unfold Gr.pop at h2
     split at h2
     ·exact absurd h2 (pop_top (fun a ha h3=>by have:=hbk a ha h3;have:=hbs a ha;omega))
     ·exact h2
    ·unfold past;unfold Gr.pop
     split
     ·exact pop_tail hbs
     ·exact hbs
structure Told8 (p:Pl):Prop where
 tree:TreeZ p.rows
 pos:0 < p.rows.length
 qk:p.qs.length<=16
 kids:∀ i,i < p.rows.length->least (rat p.rows i).kind<=km p.rows i/\(km p.rows i:Int)<=greatest (rat p.rows i).kind
 num:∀ i,i < p.rows.length->0<=(rat p.rows i).n/\(rat p.rows i).n<=1073741824
 qn:∀ i,i < p.rows.length->decl (rat p.rows i).kind+nmd (rat p.rows i).kind=1->∃ n:Nat,(rat p.rows i).n=(n:Int)/\n < p.qs.length
 up:∀ i,i < p.rows.length->(rat p.rows i).kind=24->0 < i/\((rat p.rows (i - 1)).kind=19\/(rat p.rows (i - 1)).kind=20)
theorem nm_one {l:List Rz} {qs:List (ByteArray × Bool)} {vs ts:List ByteArray} {us:List Nat} {n:Nat} {x:ByteArray} (h:nameOf l qs vs ts us 1 n=some x):n < qs.length:=by
 unfold nameOf at h;rw [if_pos rfl] at h;cases hq:qs[n]? with
 | none=>rw [hq] at h;cases h
 | some q=>exact (List.getElem?_eq_some_iff.1 hq).1
theorem nm_lt8 {l:List Rz} {qs:List (ByteArray × Bool)} {vs ts:List ByteArray} {us:List Nat} {k n:Nat} {x:ByteArray} (h:nameOf l qs vs ts us k n=some x):n < qs.length\/n < vs.length\/n < ts.length\/n < us.length:=by
 unfold nameOf at h
 split at h
 ·cases hq:qs[n]? with
  | none=>rw [hq] at h;cases h
  | some q=>exact Or.inl (List.getElem?_eq_some_iff.1 hq).1
 ·split at h
  ·exact Or.inr (Or.inl (List.getElem?_eq_some_iff.1 h).1)
  ·split at h
   ·exact Or.inr (Or.inr (Or.inl (List.getElem?_eq_some_iff.1 h).1))
   ·split at h
    ·cases hu:us[n]? with
     | none=>rw [hu] at h;cases h
     | some u=>exact Or.inr (Or.inr (Or.inr (List.getElem?_eq_some_iff.1 hu).1))
    ·cases h
theorem res_told8 {l:List Rz} {p:Pl} (h:res l=.ok p):Told8 p:=by
 unfold res at h
 split at h
 ·cases h
 ·rename_i hc
  have hw:=(chk_ok (by simpa using hc)).2
  have hB:=base_of hw;unfold resR at h
  split at h
  ·cases h
  ·rename_i s hs
   have hg:=upto_good hB _ (Nat.le_refl _) hs;have hm:=upto_mean hB _ (Nat.le_refl _) hs;have hll:=like_len hg.like
   split at h
   ·cases h
   ·cases h;have hk:∀ j,j < l.length->(rat s.rows j).kind=(rat l j).kind:=fun j hj=>(like_kind hg.like hj).1;refine ⟨like_tree hg.like hB.tree,by show 0 < s.rows.length;have:=hB.pos;omega,hg.q,fun i hi=>?_,fun i hi=>?_,fun i hi h1=>?_,fun i hi h24=>?_⟩
    ·have hi':i < s.rows.length:=hi;have hi2:i < l.length:=by omega
     obtain ⟨e1,_,e2⟩:=like_kind hg.like hi2;have h3:=fill_kids (hB.fill i hi2);have h4:=(like_tree hg.like hB.tree).kids i hi';have h5:(rat s.rows i).kids=(rat l i).kids:=by
      have:=e2
      first | exact this | exact this.1
     show least (rat s.rows i).kind<=km s.rows i/\(km s.rows i:Int)<=greatest (rat s.rows i).kind
     rw [e1];omega
    ·have hi':i < s.rows.length:=hi;have hi2:i < l.length:=by omega
     show 0<=(rat s.rows i).n/\(rat s.rows i).n<=1073741824
     by_cases h0:decl (rat l i).kind+nmd (rat l i).kind=0
     ·rw [hm.ot i hi2 (Or.inr (by omega))]
      exact fill_num (hB.fill i hi2)
     ·obtain ⟨n,h1,h2⟩:=hm.rw i hi2 hi2 (by omega)
      rw [h1];have:=nm_lt8 h2;have:=hg.q;have:=hg.v;have:=hg.t;have:=hg.u;omega
    ·have hi':i < s.rows.length:=hi;have hi2:i < l.length:=by omega
     have h1':decl (rat s.rows i).kind+nmd (rat s.rows i).kind=1:=h1;rw [hk i hi2] at h1';obtain ⟨n,h2,h3⟩:=hm.rw i hi2 hi2 (by omega)
     rw [h1'] at h3;exact ⟨n,h2,nm_one h3⟩
    ·have hi':i < s.rows.length:=hi;have hi2:i < l.length:=by omega
     have h24':(rat l i).kind=24:=by rw [<-hk i hi2];exact h24
     have h5:=place_up l [ab1] 0 0 hw (fun h=>by rcases h with h | h<;>cases h) (fun a ha h=>by
      have:a=ab1:=by simpa using ha
      subst this;exact Int.le_refl 1) (fun a ha=>by cases ha) i hi2 h24'
     have h0:0 < i:=by
      rcases Nat.eq_zero_or_pos i with h0 | h0
      ·rcases h5.1 h0 with h | h<;>cases h
      ·exact h0
     refine ⟨h0,?_⟩;have h6:=h5.2 h0;show (rat s.rows (i - 1)).kind=19\/(rat s.rows (i - 1)).kind=20;rw [hk (i - 1) (by omega)]
     exact h6
theorem rdy_of {P:Pg} (hs:P.Sm) (h:IsOk P):Rdy P/\Rdc P:=by
 obtain ⟨p,h1,rfl⟩:=h;have t:=res_told8 h1;have hq:∀ i,i < p.rows.length->∀ k:Int,(rat p.rows i).kind=k->decl k+nmd k=1->∃ n:Nat,(rat p.rows i).n=(n:Int)/\n < p.qs.length:=fun i hi k hk h=>t.qn i hi (by rw [hk];exact h)
 have hl:∀ i,i < p.rows.length->0 < least (rat p.rows i).kind->i+1 < p.rows.length:=fun i hi h=>by
  have h1:=(t.kids i hi).1;have h2:=(kid_at t.tree.whole hi (k:=0) (by omega)).1
  rwa [kid_zero] at h2
 refine ⟨⟨t.tree,⟨fun i hi h=>?_,t.up⟩,fun i hi h=>?_,t.pos,hs.r,t.qk⟩,⟨⟨fun i hi h=>?_,fun i hi h=>?_⟩,fun i hi h=>?_,fun i hi=>?_⟩⟩
 ·rcases h with h | h | h | h | h | h | h
  all_goals exact hq i hi _ h (by decide)
 ·have h':(rat p.rows i).kind=13:=h;exact hl i hi (by rw [h'];decide)
 ·have h':(rat p.rows i).kind=4:=h;have h2:=t.kids i hi;rw [h'] at h2;have e1:least 4=3:=by decide
  have e2:greatest 4=3:=by decide
  rw [e1,e2] at h2;show km p.rows i=3;omega
 ·rcases h with h | h | h
  all_goals
   refine hl i hi ?_;have h':=h;change (rat p.rows i).kind=_ at h';rw [h'];decide
 ·exact hq i hi _ h (by decide)
 ·have:=t.num i hi;exact ⟨by show _<=(rat p.rows i).n;omega,by show (rat p.rows i).n<=_;omega⟩
structure Co where
 e:Int
 a:Int
 vs:List (Int × Int × Int)
 ts:List Int
 rl:List Int
def chkO (P:Pg) (size:Int) (cs:Nat->Int) (nc:Nat):Co:=
 if (ruZ P size cs nc).1 ≠ 0 then ⟨(ruZ P size cs nc).1,(ruZ P size cs nc).2,[],[],[]⟩
 else if (setN P.rows (vB P.rows size cs P.rows.length) P.rows.length).1 ≠ 0 then ⟨((setN P.rows (vB P.rows size cs P.rows.length) P.rows.length).1:Int),((setN P.rows (vB P.rows size cs P.rows.length) P.rows.length).2:Int),[],[],[]⟩
 else ⟨0,0,setV P.rows (vB P.rows size cs P.rows.length) P.rows.length,setT P.rows (vB P.rows size cs P.rows.length) P.rows.length,(List.range P.rows.length).map (setR P.rows (vB P.rows size cs P.rows.length) P.rows.length)⟩
theorem chkO_len (P:Pg) (size:Int) (cs:Nat->Int) (nc:Nat):(chkO P size cs nc).vs.length<=P.rows.length/\(chkO P size cs nc).ts.length<=P.rows.length/\(chkO P size cs nc).rl.length<=P.rows.length:=by
 unfold chkO
 split
 ·simp
 ·split
  ·simp
  ·exact ⟨setV_le _ _ _,setT_le _ _ _,by simp⟩
theorem rowI_vals {w:World} {g n:Nat} {f:Nat->Int} (h:RowI w g n f):IsVals w (pZ g) (iv ((List.range n).map f)):=fun k x hx=>by
 have hk:k < n:=by have:=(List.getElem?_eq_some_iff.1 hx).1;simpa [iv] using this
 simp [iv,hk] at hx;subst hx;exact ⟨g,0,rfl,h.lt,by rw [Nat.zero_add];exact h.cell hk⟩
theorem iv_fL (l:List Int):iv l=fL l.length (fun i=>I (l.getD i 0)):=by
 apply List.ext_getElem?
 intro i;by_cases hi:i < l.length
 ·rw [fL_at hi];simp [iv,List.getD_eq_getElem?_getD,List.getElem?_eq_getElem hi]
 ·rw [List.getElem?_eq_none (by simp [iv];omega),List.getElem?_eq_none (by simp [fL];omega)]
theorem Lm.sm {P:Pg} (h:Lm P):P.Sm:=⟨h.r,h.q,by have:=h.v;omega,by have:=h.t;omega,h.u,h.o⟩
theorem Lb8.lower {w:World} {b b':Nat} {p:Pg} {g gq gv gt gu go:Nat} (h:Lb8 w b p g gq gv gt gu go) (hb:b'<=b):Lb8 w b' p g gq gv gt gu go:=⟨h.r,h.q,h.v,h.t,h.u,h.o,by have:=h.n;omega,h.d⟩
structure Sg8 (W:World) (b2 b3 b5 b6 b7:Nat) (pc cc la lc fa:Array Value):Prop where
 p:W.heap[b2]?=some (.cells pc 27 (0,0))
 c:W.heap[b3]?=some (.cells cc 39 (0,0))
 l:W.heap[b5]?=some (.cells la 27 (0,0))
 k:W.heap[b6]?=some (.cells lc 39 (0,0))
 f:W.heap[b7]?=some (.cells fa 32 (0,0))
theorem Sg8.fr {W W':World} {b2 b3 b5 b6 b7:Nat} {pc cc la lc fa:Array Value} {F:List Nat} (h:Sg8 W b2 b3 b5 b6 b7 pc cc la lc fa) (hF:Fr F W W') (hn:b2 ∉ F/\b3 ∉ F/\b5 ∉ F/\b6 ∉ F/\b7 ∉ F):Sg8 W' b2 b3 b5 b6 b7 pc cc la lc fa:=
 ⟨(hF.block _ (blk_lt h.p) hn.1).trans h.p,(hF.block _ (blk_lt h.c) hn.2.1).trans h.c,(hF.block _ (blk_lt h.l) hn.2.2.1).trans h.l,(hF.block _ (blk_lt h.k) hn.2.2.2.1).trans h.k,(hF.block _ (blk_lt h.f) hn.2.2.2.2).trans h.f⟩
theorem Fr.bel {F:List Nat} {w W W':World} (h:Below w.heap.size w W) (hF:Fr F W W') (hn:∀ x ∈ F,w.heap.size<=x):Below w.heap.size w W':=
 h.trans ⟨hF.os,hF.tape,hF.output,hF.size,fun k hk=>hF.block k (by have:=h.size;omega) (fun hk2=>by have:=hn k hk2;omega)⟩
def extT (b:Ab) (t:List Ab):List Ab:=if t=[] then [] else t++[b]
theorem pop_ext {b:Ab} (hb:b.kids<=(b.seen:Int)) (t:List Ab):Gr.pop (t++[b])=extT b (Gr.pop t):=by
 induction t with
 | nil=>
  show Gr.pop [b]=extT b []
  unfold Gr.pop extT;rw [if_pos hb,if_pos rfl];rfl
 | cons a t ih=>
  show Gr.pop (a :: (t++[b]))=extT b (Gr.pop (a :: t))
  unfold Gr.pop;by_cases hc:a.kids<=(a.seen:Int)
  ·rw [if_pos hc,if_pos hc];exact ih
  ·rw [if_neg hc,if_neg hc];unfold extT;rw [if_neg (by simp)]
   rfl
theorem past_ext {b:Ab} (hb:b.kids<=(b.seen:Int)) {t:List Ab} (ht:t ≠ []) (r:Rz) (v:Int):past (t++[b]) r v=extT b (past t r v):=by
 unfold past;cases t with
 | nil=>exact absurd rfl ht
 | cons a t=>exact pop_ext hb (⟨r.kind,r.kids,0,0,v⟩ :: bump r.kind (a :: t))
theorem top_ext {b:Ab} {t:List Ab} (ht:t ≠ []):top (t++[b])=top t:=by
 cases t with
 | nil=>exact absurd rfl ht
 | cons a t=>rfl
theorem wrong_st (l:List Rz) {b:Ab} (hb:b.kids<=(b.seen:Int)):∀ (n i:Nat),l.length - i<=n->(wrong (extT b (rst (fun _=>0) l i)) i (l.drop i)).2=false->∀ j,i<=j->j < l.length->mayStand (top (rst (fun _=>0) l j)).kind (top (rst (fun _=>0) l j)).seen (top (rst (fun _=>0) l j)).kid (rat l j).kind=true:=by
 intro n
 induction n with
 | zero=>intro i h1 _ j h2 h3;omega
 | succ n ih=>
  intro i h1 hw j h2 h3;obtain ⟨r,hr,hd,_⟩:=drop_at (show i < l.length by omega)
  have hrt:rat l i=r:=rat_some hr;rw [hd] at hw;simp only [wrong] at hw
  split at hw
  ·cases hw
  ·rename_i hc
   simp only [Bool.or_eq_true,Bool.not_eq_true',Bool.and_eq_false_iff,not_or,Bool.not_eq_false,Bool.not_eq_true] at hc;obtain ⟨hne,hst,_⟩:=hc;have ht:rst (fun _=>0) l i ≠ []:=fun e=>by
    rw [e] at hne;unfold extT at hne;rw [if_pos rfl] at hne;cases hne
   have he:extT b (rst (fun _=>0) l i)=rst (fun _=>0) l i++[b]:=if_neg ht;rw [he] at hw hst;rw [top_ext ht] at hst;by_cases hj:j=i
   ·subst hj;rw [hrt];exact hst
   ·rw [past_ext hb ht] at hw;have hn:rst (fun _=>0) l (i+1)=past (rst (fun _=>0) l i) r 0:=by
     show past _ (rat l i) 0=_
     rw [hrt]
    rw [<-hn] at hw;exact ih (i+1) (by omega) hw j (by omega) h3
theorem kid_stand {l:List Rz} (hW:Whole l) (h:(wrong [ab1] 0 l).2=false) {i k:Nat} (hi:i < l.length) (hk:k < km l i):∃ c,mayStand (rat l i).kind k c (rat l (kidp l i k)).kind=true:=by
 have h0:0 < l.length:=by omega
 obtain ⟨r,hr,hd,_⟩:=drop_at h0;have hrt:rat l 0=r:=rat_some hr;rw [show l=r :: l.drop 1 by simpa using hd] at h
 simp only [wrong] at h
 split at h
 ·cases h
 ·rename_i hc
  have hb:(⟨0,1,1,r.kind,0⟩:Ab).kids<=((⟨0,1,1,r.kind,0⟩:Ab).seen:Int):=by
   show (1:Int)<=((1:Nat):Int)
   omega
  have e:past [ab1] r 0=extT ⟨0,1,1,r.kind,0⟩ (rst (fun _=>0) l 1):=by
   show Gr.pop ([(⟨r.kind,r.kids,0,0,0⟩:Ab)]++[(⟨0,1,1,r.kind,0⟩:Ab)])=_
   rw [pop_ext hb];show _=extT _ (past (rst (fun _=>0) l 0) (rat l 0) 0);rw [hrt];rfl
  rw [e] at h;have h1:=wrong_st l hb _ 1 (Nat.le_refl _) h (kidp l i k) (by have:=(kid_at hW hi hk).2.2;omega) (kid_at hW hi hk).1
  have h2:=rst_sim (fun _=>0) l (kidp l i k);rw [gst_kid hW hi hk] at h2;generalize rst (fun _=>0) l (kidp l i k)=t at h1 h2;cases h2 with
  | cons h3 h4=>
   rename_i a t
   refine ⟨a.kid,?_⟩;have h5:mayStand a.kind a.seen a.kid (rat l (kidp l i k)).kind=true:=h1;rw [h3.1,h3.2.2.1] at h5;exact h5
theorem kid_ex {l:List Rz} (hW:Whole l) (h:(wrong [ab1] 0 l).2=false) {i k:Nat} (hi:i < l.length) (hk:k < km l i) (hx:39<=(rat l i).kind):27<=(rat l (kidp l i k)).kind/\(rat l (kidp l i k)).kind<=54:=by
 obtain ⟨c,hs⟩:=kid_stand hW h hi hk;generalize (rat l i).kind=d at *;generalize (rat l (kidp l i k)).kind=e at *;unfold mayStand mayFollow at hs
 repeat rw [if_neg (by omega)] at hs
 simpa [isEx,wtn] using hs
theorem ex_is {k n:Int} (h:27<=k/\k<=54):(pOf k n).is ≠ 0:=by
 have h2:k=27\/k=28\/k=29\/k=30\/k=31\/k=32\/k=33\/k=34\/k=35\/k=36\/k=37\/k=38\/k=39\/k=40\/k=41\/k=42\/k=43\/k=44\/k=45\/k=46\/k=47\/k=48\/k=49\/k=50\/k=51\/k=52\/k=53\/k=54:=by omega
 rcases h2 with rfl | rfl | rfl | rfl | rfl | rfl | rfl | rfl | rfl | rfl | rfl | rfl | rfl | rfl | rfl | rfl | rfl | rfl | rfl | rfl | rfl | rfl | rfl | rfl | rfl | rfl | rfl | rfl
 all_goals exact fun e=>by cases e
theorem unn_kind (r:Rz):(unn r).kind=r.kind/\(unn r).m=r.m:=by
 unfold unn
 split
 ·exact ⟨rfl,rfl⟩
 ·exact ⟨rfl,rfl⟩
theorem sz_unn (l:List Rz):∀ m,sz (l.map unn) m=sz l m:=by
 induction l with
 | nil=>intro m;rfl
 | cons r l ih=>
  intro m;rw [List.map_cons];simp only [sz];rw [(unn_kind r).2]
  split
  ·rfl
  ·rw [ih]
theorem kidp_unn (l:List Rz) (i k:Nat):kidp (l.map unn) i k=kidp l i k:=by unfold kidp;rw [<-List.map_drop,sz_unn]
theorem rat_unn (l:List Rz) {i:Nat} (hi:i < l.length):rat (l.map unn) i=unn (rat l i):=rat_some (by rw [List.getElem?_map,some_rat hi];rfl)
theorem km_unn (l:List Rz) {i:Nat} (hi:i < l.length):km (l.map unn) i=km l i:=by rw [km_rat,km_rat,rat_unn l hi,(unn_kind _).2]
theorem kid_exP {P:Pg} (h:IsOk P) (hW:Whole P.rows) {i k:Nat} (hi:i < P.rows.length) (hk:k < km P.rows i) (hx:39<=(rat P.rows i).kind):(rP P.rows (kidp P.rows i k)).is ≠ 0:=by
 obtain ⟨p,h1,_⟩:=h;unfold res at h1
 split at h1
 ·cases h1
 ·rename_i hc
  have hw:=(chk_ok (by simpa using hc)).2
  have hW2:Whole (P.rows.map unn):=by
   unfold Whole at *;rw [sz_unn,List.length_map];exact hW
  have hkid:=(kid_at hW hi hk).1;have h2:=kid_ex hW2 hw (i:=i) (k:=k) (by rw [List.length_map];exact hi) (by rw [km_unn _ hi];exact hk) (by rw [rat_unn _ hi,(unn_kind _).1];exact hx)
  rw [kidp_unn,rat_unn _ hkid,(unn_kind _).1] at h2;exact ex_is h2
end Go.Proofs.YtbledbjcghaanaaGreat.Nm.Ty
namespace Go.Proofs.YtbledbjcghaanaaGreat.Nm.Ty
open Go.RowKit Go.Maps Sp Lx Gr
theorem rclamp_any (n:Int) (w:World):Calls Tryz.prog 20 #[I n] w fun e w'=>e=.returned (I (clampZ n))/\w'=w:=by
 have HE:Hid (clampZ n=max (-1073741824) (min 1073741824 n)):=by show _=_;unfold clampZ;omega
 go_enter Tryz.func20,Tryz.ntmps20
 go_wp2;go_ret;rw [HE.out];exact ⟨rfl,rfl⟩
theorem tmod_sub (a b:Int):a - a.tdiv b * b=a.tmod b:=by
 rw [Int.tmod_def,Int.mul_comm]
theorem rdiv_any {a b:Int} (ha:-9223372036854775808<=a/\a<=9223372036854775807) (w:World):Calls Tryz.prog 22 #[I a,I b] w fun e w'=>e=.returned (I (divZ a b))/\w'=w:=by
 have HC:=hdn <| rclamp_any;have HD:Hid (divZ a b=if b=0 then 0 else if b=-1 then -clampZ a else clampZ (a.tdiv b - if a.tmod b ≠ 0/\¬ ((a.tmod b < 0) ↔ (b < 0)) then 1 else 0)):=rfl;by_cases h0:b=0
 ·have HR:Hid (divZ a b=0):=by show _=_;rw [HD.out,if_pos h0]
  subst h0;go_enter Tryz.func22,Tryz.ntmps22;go_wp2;go_ret;rw [HR.out];exact ⟨rfl,rfl⟩
 ·by_cases h1:b=-1
  ·have HR:Hid (divZ a b=-clampZ a):=by show _=_;rw [HD.out,if_neg h0,if_pos h1]
   by_cases h2:a=-9223372036854775808
   ·have HR2:Hid (divZ a b=1073741824):=by show _=_;rw [HR.out,h2];decide
    subst h1;subst h2;clear HD HR;go_enter Tryz.func22,Tryz.ntmps22;go_wp2;go_ret;rw [HR2.out];exact ⟨rfl,rfl⟩
   ·have HR2:Hid (divZ a b=clampZ (-a)):=by show _=_;rw [HR.out];unfold clampZ;omega
    have q2:(a == -9223372036854775808)=false:=beq_false_of_ne h2;have hw0:IntKind.i64.wrap (-a)=-a:=by rw [IntKind.wrap_i64];omega
    subst h1;clear HD HR;go_enter Tryz.func22,Tryz.ntmps22;go_wp2_with fail;refine Calls.mono (HC.out _ _) ?_;rintro e w1 ⟨rfl,hw⟩;rw [hw];clear hw;go_wp2;go_ret;rw [HR2.out];exact ⟨rfl,rfl⟩
  ·obtain ⟨hq,hq2⟩:=tdiv_in ha h0 h1;have hr:=tmod_in (b:=b) ha;have hsub:=tmod_sub a b;have HR:Hid (divZ a b=clampZ (a.tdiv b - if a.tmod b ≠ 0/\¬ ((a.tmod b < 0) ↔ (b < 0)) then 1 else 0)):=by show _=_;rw [HD.out,if_neg h0,if_neg h1]
   have q0:(b == 0)=false:=beq_false_of_ne h0;have q1:(b == -1)=false:=beq_false_of_ne h1;have hm:a.tdiv b * b=a - a.tmod b:=by omega
   have hpr:-9223372036854775808<=a.tdiv b * b/\a.tdiv b * b<=9223372036854775807:=by
    have h3:(a.tdiv b * b).natAbs<=a.natAbs:=by rw [Int.natAbs_mul,Int.natAbs_tdiv];exact Nat.div_mul_le_self _ _
    by_cases hp:0<=a
    ·generalize a.tdiv b * b=z at *;omega
    ·have h4:=Int.tmod_nonneg b (show 0<=-a by omega)
     rw [Int.neg_tmod] at h4;generalize a.tdiv b * b=z at *;generalize a.tmod b=r at *;omega
   have hwq:IntKind.i64.wrap (a.tdiv b)=a.tdiv b:=by rw [IntKind.wrap_i64];generalize a.tdiv b=q at *;omega
   have hwm:IntKind.i64.wrap (a.tdiv b * b)=a.tdiv b * b:=by rw [IntKind.wrap_i64];generalize a.tdiv b * b=z at *;omega
   have hws:IntKind.i64.wrap (a - a.tdiv b * b)=a.tmod b:=by rw [hsub,IntKind.wrap_i64];generalize a.tmod b=r at *;omega
   clear HD hm hpr hsub;by_cases hr0:a.tmod b=0
   ·have HR2:Hid (divZ a b=clampZ (a.tdiv b)):=by show _=_;rw [HR.out,if_neg (fun h=>h.1 hr0),Int.sub_zero]
    have hn:(a.tmod b != 0)=false:=by simp [hr0]
    clear hr0 hq2;go_enter Tryz.func22,Tryz.ntmps22;go_wp2_with fail;refine Calls.mono (HC.out _ _) ?_;rintro e w1 ⟨rfl,hw⟩;rw [hw];clear hw;go_wp2;go_ret;rw [HR2.out];exact ⟨rfl,rfl⟩
   ·have hn:(a.tmod b != 0)=true:=by simp [hr0]
    have hq3:=hq2 hr0;have hw1:IntKind.i64.wrap (a.tdiv b - 1)=a.tdiv b - 1:=by rw [IntKind.wrap_i64];generalize a.tdiv b=q at *;omega
    by_cases hs:a.tmod b < 0
    rotate_right
    focus
     have hs':decide (a.tmod b < 0)=false:=decide_eq_false hs;by_cases hb:b < 0
     rotate_right
     focus
      have hb':decide (b < 0)=false:=decide_eq_false hb;have HR2:Hid (divZ a b=clampZ (a.tdiv b)):=by show _=_;rw [HR.out,if_neg (fun h=>h.2 ⟨fun h=>absurd h hs,fun h=>absurd h hb⟩),Int.sub_zero]
     rotate_right
     focus
      have hb':decide (b < 0)=true:=decide_eq_true hb;have HR2:Hid (divZ a b=clampZ (a.tdiv b - 1)):=by show _=_;rw [HR.out,if_pos ⟨hr0,fun h=>hs (h.2 hb)⟩]
    rotate_right
    focus
     have hs':decide (a.tmod b < 0)=true:=decide_eq_true hs;by_cases hb:b < 0
     rotate_right
     focus
      have hb':decide (b < 0)=false:=decide_eq_false hb;have HR2:Hid (divZ a b=clampZ (a.tdiv b - 1)):=by show _=_;rw [HR.out,if_pos ⟨hr0,fun h=>hb (h.1 hs)⟩]
     rotate_right
     focus
      have hb':decide (b < 0)=true:=decide_eq_true hb;have HR2:Hid (divZ a b=clampZ (a.tdiv b)):=by show _=_;rw [HR.out,if_neg (fun h=>h.2 ⟨fun _=>hb,fun _=>hs⟩),Int.sub_zero]
    all_goals
     all_goals
      go_enter Tryz.func22,Tryz.ntmps22
      go_wp2_with fail
      refine Calls.mono (HC.out _ _) ?_;rintro e w1 ⟨rfl,hw⟩;rw [hw];clear hw;go_wp2;go_ret;rw [HR2.out];exact ⟨rfl,rfl⟩
theorem rtruth8 (b:Bool) (w:World):Calls Tryz.prog 113 #[.bool b] w fun e w'=>e=.returned (I (oneZ b))/\w'=w:=by
 cases b
 all_goals
  go_enter Tryz.func113,Tryz.ntmps113
  go_wp2;go_ret;exact ⟨rfl,rfl⟩
theorem one_eq (a b:Int):oneZ ((a == b) == ((47:Int) == 47))=oneZ (a == b):=by
 have e:((47:Int) == 47)=true:=by decide
 rw [e];cases (a == b)<;>rfl
theorem one_ne (a b:Int):oneZ ((a == b) == ((48:Int) == 47))=oneZ (a != b):=by
 have e:((48:Int) == 47)=false:=by decide
 rw [e];show oneZ ((a == b) == false)=oneZ (!(a == b));cases (a == b)<;>rfl
theorem rtwo8 (k n a b size:Int) (cq:Nat->Int) (w:World) (hk:k=39\/k=40\/k=43\/k=44\/k=45\/k=46\/k=47\/k=48\/k=49\/k=50\/k=51\/k=52\/k=53\/k=54) (ha:-9223372036854775808<=a/\a<=9223372036854775807) (h01:k=53\/k=54->(a=0\/a=1)/\(b=0\/b=1)):
  Calls Tryz.prog 73 #[I k,I a,I b] w fun e w'=>e=.returned (I ((pOf k n).cm size cq a b))/\w'=w:=by
 have HT:=hdn <| fun b=>rtruth8 b w;have HC:=hdn <| fun n=>rclamp_any n w;have HD:=hdn <| rdiv_any (a:=a) (b:=b) ha w;rcases hk with rfl | rfl | rfl | rfl | rfl | rfl | rfl | rfl | rfl | rfl | rfl | rfl | rfl | rfl
 ·go_enter Tryz.func73,Tryz.ntmps73
  go_wp2;go_ret;exact ⟨rfl,rfl⟩
 ·go_enter Tryz.func73,Tryz.ntmps73
  go_wp2;go_ret;exact ⟨rfl,rfl⟩
 ·go_enter Tryz.func73,Tryz.ntmps73
  go_wp2_with fail
  refine Calls.mono (HC.out _) ?_;rintro e w2 ⟨rfl,rfl⟩;go_wp2;go_ret;exact ⟨rfl,rfl⟩
 ·go_enter Tryz.func73,Tryz.ntmps73
  go_wp2_with fail
  refine Calls.mono HD.out ?_;rintro e w2 ⟨rfl,rfl⟩;go_wp2;go_ret;exact ⟨rfl,rfl⟩
 iterate 2
  (focus
   go_enter Tryz.func73,Tryz.ntmps73
   go_wp2_with fail
   refine Calls.mono (HC.out _) ?_;rintro e w2 ⟨rfl,rfl⟩;go_wp2;go_ret;exact ⟨rfl,rfl⟩)
 ·have HZ:Hid ((pOf 47 n).cm size cq a b=oneZ (a == b)):=one_eq a b;rw [HZ.out];go_enter Tryz.func73,Tryz.ntmps73;go_wp2_with fail;refine Calls.mono (HT.out _) ?_;rintro e w2 ⟨rfl,rfl⟩;go_wp2;go_ret;exact ⟨rfl,rfl⟩
 ·have HZ:Hid ((pOf 48 n).cm size cq a b=oneZ (a != b)):=one_ne a b;rw [HZ.out];go_enter Tryz.func73,Tryz.ntmps73;go_wp2_with fail;refine Calls.mono (HT.out _) ?_;rintro e w2 ⟨rfl,rfl⟩;go_wp2;go_ret;exact ⟨rfl,rfl⟩
 iterate 4
  (focus
   go_enter Tryz.func73,Tryz.ntmps73
   go_wp2_with fail
   refine Calls.mono (HT.out _) ?_;rintro e w2 ⟨rfl,rfl⟩;go_wp2;go_ret;exact ⟨rfl,rfl⟩)
 iterate 2
  (focus
   obtain ⟨ha1,hb1⟩:=h01 (by omega)
   rcases ha1 with rfl | rfl<;>rcases hb1 with rfl | rfl
   all_goals
    go_enter Tryz.func73,Tryz.ntmps73
    go_wp2;go_ret;exact ⟨by kernel_rfl,rfl⟩)
end Go.Proofs.YtbledbjcghaanaaGreat.Nm.Ty
namespace Go.Proofs.YtbledbjcghaanaaGreat.Nm.Ty
open Go.RowKit Go.Maps Sp Lx Gr Nm
theorem kid_in {l:List Rz} {i a:Nat} : ∀ d,i < a->a < kidp l i d->∃ k,k < d/\kidp l i k<=a/\a < kidp l i (k+1):=by
 intro d
 induction d with
 | zero=>intro h1 hd;rw [kid_zero] at hd;omega
 | succ d ihd=>
  intro h1 ha;by_cases h3:a < kidp l i d
  ·obtain ⟨k,k1,k2,k3⟩:=ihd h1 h3;exact ⟨k,by omega,k2,k3⟩
  ·exact ⟨d,by omega,by omega,ha⟩
theorem end_sub {l:List Rz} (h:Whole l):∀ (f:Nat) {i a:Nat},i < l.length->endp l i - i<=f->i<=a->a < endp l i->endp l a<=endp l i:=by
 intro f
 induction f with
 | zero=>intro i a hi hf _ _;have:=(end_kid h hi).2.1;omega
 | succ f ih=>
  intro i a hi hf h1 h2;by_cases e:a=i
  ·subst e;exact Nat.le_refl _
  ·obtain ⟨k,k1,k2,k3⟩:=kid_in (km l i) (show i < a by omega) (by rw [<-(end_kid h hi).1];exact h2)
   obtain ⟨q1,q2,q3,q4⟩:=kidIn h hi k1;have q5:=(end_kid h q2).2.1;have:=ih q2 (by omega) k2 (by rw [<-q4];exact k3)
   omega
theorem kid_mono {l:List Rz} (h:Whole l) {i:Nat} (hi:i < l.length) {k:Nat} : ∀ d,k+d<=km l i->kidp l i k+d<=kidp l i (k+d):=by
 intro d
 induction d with
 | zero=>intro _;exact Nat.le_refl _
 | succ d ih=>
  intro hd;have h1:=ih (by omega)
  obtain ⟨q1,q2,q3,q4⟩:=kidIn h hi (show k+d < km l i by omega)
  have q5:=(end_kid h q2).2.1;rw [show k+(d+1)=k+d+1 by omega,q4]
  omega
theorem end_kid_le {l:List Rz} (h:Whole l) {i j k:Nat} (hi:i < l.length) (hk:k<=km l i) (h1:i < j) (h2:j < kidp l i k):endp l j<=kidp l i k:=by
 obtain ⟨m,m1,m2,m3⟩:=kid_in k h1 h2;obtain ⟨q1,q2,q3,q4⟩:=kidIn h hi (show m < km l i by omega)
 have h4:=end_sub h _ q2 (Nat.le_refl _) m2 (by rw [<-q4];exact m3)
 have h5:=kid_mono h hi (k:=m+1) (k - (m+1)) (by omega)
 rw [show m+1+(k - (m+1))=k by omega] at h5
 omega
theorem con_ex {l:List Rz} {x:Nat} : ∀ m,x < conN l m ↔ ∃ j,j < m/\x < tillZ l j:=by
 intro m
 induction m with
 | zero=>unfold conN;exact ⟨fun h=>by omega,fun ⟨j,h,_⟩=>by omega⟩
 | succ m ih=>
  unfold conN;constructor
  ·intro h;by_cases h1:x < conN l m
   ·obtain ⟨j,h2,h3⟩:=ih.1 h1;exact ⟨j,by omega,h3⟩
   ·exact ⟨m,by omega,by omega⟩
  ·rintro ⟨j,h1,h2⟩;by_cases e:j=m
   ·subst e;omega
   ·have:=ih.2 ⟨j,by omega,h2⟩
    omega
def fixC (l:List Rz) (i k:Nat):Bool:=decide ((rat l i).kind=4) || decide ((rat l i).kind=5) || decide ((rat l i).kind=6) || (decide ((rat l i).kind=13) && decide (k=0))
theorem fixC_iff {l:List Rz} {i k:Nat} : fixC l i k=true ↔ (((rat l i).kind=4\/(rat l i).kind=5\/(rat l i).kind=6)\/((rat l i).kind=13/\k=0)):=by
 unfold fixC;generalize (rat l i).kind=x;simp only [Bool.or_eq_true,Bool.and_eq_true,decide_eq_true_eq];omega
theorem till_le {l:List Rz} (h:Whole l) {j:Nat} (hj:j < l.length) (h13:(rat l j).kind=13->0 < km l j):tillZ l j<=endp l j:=by
 unfold tillZ;simp only
 split
 ·exact Nat.le_refl _
 ·split
  ·rename_i h3
   obtain ⟨q1,q2,q3,q4⟩:=kidIn h hj (h13 h3);rw [kid_zero] at q3;exact q3
  ·omega
theorem con_kid {l:List Rz} (h:Whole l) (h13:∀ j,j < l.length->(rat l j).kind=13->0 < km l j) {i k:Nat} (hi:i < l.length) (hk:k < km l i):(kidp l i k < conN l (kidp l i k)) ↔ (i < conN l i\/fixC l i k=true):=by
 obtain ⟨q1,q2,q3,q4⟩:=kidIn h hi hk;have q5:=(end_kid h q2).2.1;rw [con_ex,con_ex];constructor
 ·rintro ⟨j,h1,h2⟩;rcases Nat.lt_trichotomy j i with hj | hj | hj
  ·exact Or.inl ⟨j,hj,by omega⟩
  ·subst hj;refine Or.inr ?_;unfold tillZ at h2;simp only at h2;rw [fixC_iff]
   split at h2
   ·rename_i h3
    exact Or.inl h3
   ·split at h2
    ·rename_i h3
     have hk0:k=0:=by
      by_cases e:k=0
      ·exact e
      ·have h5:=kid_mono h hi (k:=1) (k - 1) (by omega)
       rw [show 1+(k - 1)=k by omega] at h5
       obtain ⟨_,_,_,p4⟩:=kidIn h hi (show 0 < km l j by omega)
       rw [kid_zero] at p4;rw [show (0:Nat)+1=1 from rfl] at p4;omega
     exact Or.inr ⟨h3,hk0⟩
    ·omega
  ·have hjl:j < l.length:=by omega
   have h4:=end_kid_le h hi (Nat.le_of_lt hk) hj h1;have h5:=till_le h hjl (h13 j hjl);omega
 ·rintro (⟨j,h1,h2⟩ | h1)
  ·have hjl:j < l.length:=by omega
   refine ⟨j,by omega,?_⟩
   have hin:∃ a,a < l.length/\a<=i/\i < endp l a/\endp l a=tillZ l j:=by
    unfold tillZ at h2 ⊢;simp only at h2 ⊢
    split at h2
    ·rename_i h3
     rw [if_pos h3];exact ⟨j,hjl,by omega,h2,rfl⟩
    ·rename_i h3
     split at h2
     ·rename_i h4
      rw [if_neg h3,if_pos h4];exact ⟨j+1,by omega,by omega,h2,rfl⟩
     ·omega
   obtain ⟨a,a1,a2,a3,a4⟩:=hin;have:=end_sub h _ a1 (Nat.le_refl _) a2 a3;omega
  ·refine ⟨i,q1,?_⟩;rw [fixC_iff] at h1;unfold tillZ;simp only;by_cases h3:(rat l i).kind=4\/(rat l i).kind=5\/(rat l i).kind=6
   ·rw [if_pos h3];omega
   ·rw [if_neg h3];have h4:(rat l i).kind=13/\k=0:=h1.resolve_left h3;rw [if_pos h4.1];have e:=h4.2;subst e;rw [kid_zero] at q4 ⊢;rw [kid_zero] at q5;exact q5
def setB (f:Nat->Bool) (j:Nat) (x:Bool):Nat->Bool:=fun i=>if i=j then x else f i
def fixRow (l:List Rz) (i:Nat) (f:Nat->Bool):Nat->Nat->Bool
 | 0=>f
 | k+1=>setB (fixRow l i f k) (kidp l i k) (f i || fixC l i k)
def fixN (l:List Rz):Nat->Nat->Bool
 | 0=>fun _=>false
 | n+1=>fixRow l n (fixN l n) (km l n)
theorem fixRow_low {l:List Rz} (h:Whole l) {i j:Nat} (hi:i < l.length) (hj:j<=i) (f:Nat->Bool):∀ k,k<=km l i->fixRow l i f k j=f j
 | 0,_=>rfl
 | k+1,hk=>by
  have h1:=(kid_at h hi (show k < km l i by omega)).2.2
  unfold fixRow setB;rw [if_neg (by omega)]
  exact fixRow_low h hi hj f k (by omega)
theorem fixN_low {l:List Rz} (h:Whole l) {j:Nat} : ∀ n,j<=n->n<=l.length->fixN l n j=fixN l j j
 | 0,h1,_=>by rw [show j=0 by omega]
 | n+1,h1,h2=>by
  by_cases e:j=n+1
  ·rw [e]
  ·show fixRow l n (fixN l n) (km l n) j=_
   rw [fixRow_low h (by omega) (by omega) _ _ (Nat.le_refl _)]
   exact fixN_low h n (by omega) (by omega)
theorem kid_one {l:List Rz} (h:Whole l) {i k i' k':Nat} (hi:i < l.length) (hk:k < km l i) (hi':i' < l.length) (hk':k' < km l i') (e:kidp l i k=kidp l i' k'):i=i'/\k=k':=by
 have h1:=up_kid h hi hk;have h2:=up_kid h hi' hk';rw [e] at h1;exact ⟨h1.1.symm.trans h2.1,h1.2.symm.trans h2.2⟩
theorem fixRow_own {l:List Rz} (h:Whole l) {i k:Nat} (hi:i < l.length) (f:Nat->Bool):∀ m,m<=km l i->k < m->fixRow l i f m (kidp l i k)=(f i || fixC l i k)
 | 0,_,hk=>by omega
 | m+1,hm,hk=>by
  unfold fixRow setB;by_cases e:kidp l i k=kidp l i m
  ·rw [if_pos e,(kid_one h hi (by omega) hi (by omega) e).2]
  ·rw [if_neg e];exact fixRow_own h hi f m (by omega) (by
    rcases Nat.lt_or_ge k m with h1 | h1
    ·exact h1
    ·exact absurd (by rw [show k=m by omega]) e)
theorem fixRow_other {l:List Rz} (h:Whole l) {i k i':Nat} (hi:i < l.length) (hk:k < km l i) (hi':i' < l.length) (hne:i' ≠ i) (f:Nat->Bool):∀ m,m<=km l i'->fixRow l i' f m (kidp l i k)=f (kidp l i k)
 | 0,_=>rfl
 | m+1,hm=>by
  unfold fixRow setB;rw [if_neg (fun e=>hne (kid_one h hi hk hi' (by omega) e).1.symm)]
  exact fixRow_other h hi hk hi' hne f m (by omega)
theorem fix_kid {l:List Rz} (h:Whole l) {i k:Nat} (hi:i < l.length) (hk:k < km l i):∀ n,i < n->n<=l.length->fixN l n (kidp l i k)=(fixN l i i || fixC l i k)
 | 0,h0,_=>by omega
 | n+1,h0,hn=>by
  show fixRow l n (fixN l n) (km l n) _=_
  by_cases e:n=i
  ·subst e;exact fixRow_own h hi _ _ (Nat.le_refl _) hk
  ·rw [fixRow_other h hi hk (by omega) e _ _ (Nat.le_refl _)]
   exact fix_kid h hi hk n (by omega) (by omega)
theorem fix_con {l:List Rz} (h:Whole l) (h13:∀ j,j < l.length->(rat l j).kind=13->0 < km l j):∀ (f:Nat) {i:Nat},i<=f->i < l.length->fixN l l.length i=decide (i < conN l i):=by
 intro f
 induction f with
 | zero=>
  intro i h1 h2;obtain rfl:i=0:=by omega
  rw [fixN_low h l.length (Nat.zero_le _) (Nat.le_refl _)];rfl
 | succ f ih=>
  intro i h1 h2;by_cases e:i=0
  ·exact ih (by omega) h2
  ·obtain ⟨u3,u2,u1,_⟩:=up_at h (show 0 < i by omega) h2
   have hpi:up l i < l.length:=by omega
   have h3:=ih (i:=up l i) (by omega) hpi
   have h4:=fix_kid h hpi u2 l.length hpi (Nat.le_refl _);rw [u3] at h4;rw [h4,<-fixN_low h l.length (Nat.le_of_lt hpi) (Nat.le_refl _),h3];have h5:=con_kid h h13 hpi u2;rw [u3] at h5;rw [Bool.eq_iff_iff];simp only [Bool.or_eq_true,decide_eq_true_eq];exact h5.symm
end Go.Proofs.YtbledbjcghaanaaGreat.Nm.Ty
