import Derived.Test.YtfgpbdieaflclaaGreatK20
import Derived.Test.YtfgpbdieaflclaaGreatK23
namespace Go.Proofs.YtfgpbdieaflclaaGreat.Nm
open Go.RowKit Go.Maps Sp Lx Gr
theorem rat_numb_ne {l:List Rz} {i j n:Nat} (h:j ≠ i):rat (numb l i n) j=rat l j:=by
 simp only [rat,numb,List.getD_eq_getElem?_getD,List.getElem?_set,if_neg (Ne.symm h)]
structure Cl (l0:List Rz) (i m:Nat) (s:Rs):Prop where
 k:∀ e ∈ s.known,e.2.1=4->∃ h:e.2.2.1 < s.us.length,e.2.2.2=endp l0 (s.us[e.2.2.1] - 1)
 u:∀ k (h:k < s.us.length),1<=s.us[k]/\s.us[k]<=i/\(rat l0 (s.us[k] - 1)).kind=7
 o:s.us.Pairwise (· < ·)
 c:∀ j,j < m->(rat l0 j).kind=22->∃ n:Nat,∃ h:n < s.us.length,(rat s.rows j).n=(n:Int)/\endp l0 (s.us[n] - 1)<=j
theorem cl_D {l0:List Rz} {i m:Nat} {s s':Rs} (hi:i < l0.length) (hg:Good l0 m s) (h:Cl l0 i i s) (hs:askD i s=.ok s'):Cl l0 (i+1) i s':=by
 have hup:Cl l0 (i+1) i s:=⟨h.k,fun k hk=>⟨(h.u k hk).1,Nat.le_succ_of_le (h.u k hk).2.1,(h.u k hk).2.2⟩,h.o,h.c⟩
 unfold askD at hs
 split at hs
 ·cases hs;exact hup
 split at hs
 ·cases hs
 split at hs
 ·cases hs
 rename_i hd _ _
 cases hs
 have hkd:=like_kind hg.like hi
 have hend:endp (numb s.rows i (s.cnt (decl (rat s.rows i).kind))) i=endp l0 i:=endp_like ((numb_clr _ _ _).trans hg.like) i
 by_cases h7:(rat s.rows i).kind=7
 ·have hus:(s.dec i).us=s.us++[i+1]:=if_pos h7
  have hd4:decl (rat s.rows i).kind=4:=by rw [h7];rfl
  have hcn:s.cnt 4=s.us.length:=rfl
  have hget:∀ k (hk:k < s.us.length) (hk2:k < (s.dec i).us.length),(s.dec i).us[k]=s.us[k]:=fun k hk hk2=>by simp only [hus];exact List.getElem_append_left hk
  refine ⟨fun e he h4=>?_,fun k hk=>?_,?_,fun j hj h22=>?_⟩
  ·rcases List.mem_cons.1 he with rfl | he
   ·dsimp only
    rw [hend,hd4,hcn]
    refine ⟨by rw [hus];simp,?_⟩
    simp only [hus]
    simp
   ·obtain ⟨h1,h2⟩:=h.k e he h4
    have h3:e.2.2.1 < (s.dec i).us.length:=by rw [hus];simp;omega
    exact ⟨h3,by rw [hget _ h1 h3];exact h2⟩
  ·by_cases hk2:k < s.us.length
   ·rw [hget k hk2 hk]
    exact hup.u k hk2
   ·have hk3:k=s.us.length:=by rw [hus] at hk;simp at hk;omega
    subst hk3
    have he:(s.dec i).us[s.us.length]=i+1:=by simp only [hus];simp
    rw [he]
    exact ⟨by omega,Nat.le_refl _,by rw [Nat.add_sub_cancel,<-hkd.1];exact h7⟩
  ·rw [hus]
   refine List.pairwise_append.2 ⟨h.o,List.pairwise_singleton _ _,fun a ha b hb=>?_⟩
   rw [List.mem_singleton.1 hb]
   obtain ⟨k,hk,rfl⟩:=List.mem_iff_getElem.1 ha
   have:=(h.u k hk).2.1
   omega
  ·obtain ⟨n,hn,h1,h2⟩:=h.c j hj h22
   have h3:n < (s.dec i).us.length:=by rw [hus];simp;omega
   exact ⟨n,h3,by show (rat (numb _ _ _) j).n=_;rw [rat_numb_ne (by omega)];exact h1,by rw [hget _ hn h3];exact h2⟩
 ·have hus:(s.dec i).us=s.us:=if_neg h7
  have hd4:decl (rat s.rows i).kind ≠ 4:=fun e=>by
   rcases decl_cases (rat s.rows i).kind with ⟨_,e2⟩ | ⟨_,e2⟩ | ⟨_,e2⟩ | ⟨_,e2⟩ | ⟨e1,_⟩ | ⟨_,_,_,_,_,e2⟩
   all_goals first | exact h7 e1 | omega
  refine ⟨fun e he h4=>?_,?_,?_,fun j hj h22=>?_⟩
  ·rcases List.mem_cons.1 he with rfl | he
   ·exact absurd h4 hd4
   ·simp only [hus]
    exact h.k e he h4
  ·simp only [hus]
   exact hup.u
  ·rw [hus]
   exact h.o
  ·simp only [hus]
   obtain ⟨n,hn,h1,h2⟩:=h.c j hj h22
   exact ⟨n,hn,by show (rat (numb _ _ _) j).n=_;rw [rat_numb_ne (by omega)];exact h1,h2⟩
theorem cl_M {l0:List Rz} {i m:Nat} {s s':Rs} (hi:i < l0.length) (hg:Good l0 m s) (h:Cl l0 (i+1) i s) (hs:askM i s=.ok s'):Cl l0 (i+1) (i+1) s':=by
 have hkd:=like_kind hg.like hi
 have hlen:=like_len hg.like
 unfold askM at hs
 split at hs
 ·rename_i h0
  cases hs
  refine ⟨h.k,h.u,h.o,fun j hj h22=>?_⟩
  by_cases e:j=i
  ·subst e
   rw [hkd.1,h22] at h0
   exact absurd h0 (by decide)
  ·exact h.c j (by omega) h22
 split at hs
 ·cases hs
 rename_i k mm p hlk
 split at hs
 ·cases hs
 rename_i hp
 split at hs
 ·cases hs
 ·rename_i hne
  cases hs
  refine ⟨h.k,h.u,h.o,fun j hj h22=>?_⟩
  by_cases e:j=i
  ·subst e
   have h4:k=4:=by
    have:nmd (rat s.rows j).kind=4:=by rw [hkd.1,h22];rfl
    omega
   obtain ⟨h1,h2⟩:=h.k _ (lk_mem hlk) h4
   exact ⟨mm,h1,by show (rat (numb _ _ _) j).n=_;rw [rat_numb (by omega)],by rw [<-h2];dsimp only;omega⟩
  ·obtain ⟨n,hn,h1,h2⟩:=h.c j (by omega) h22
   exact ⟨n,hn,by show (rat (numb _ _ _) j).n=_;rw [rat_numb_ne e];exact h1,h2⟩
theorem cl_H {l0:List Rz} {i n:Nat} {s s':Rs} (h:Cl l0 n n s) (hs:askH i s=.ok s'):Cl l0 n n s':=by
 unfold askH at hs
 split at hs
 ·cases hs;exact h
 split at hs
 ·cases hs
 ·cases hs
  exact ⟨h.k,h.u,h.o,h.c⟩
theorem upto_cl {l:List Rz} (hB:Base l) (n:Nat) (hn:n<=l.length) {s:Rs} (h:upto (start l) n=.ok s):Cl l n n s:=by
 induction n generalizing s with
 | zero=>
  cases h
  exact ⟨fun e he=>by simp [start] at he,fun k hk=>by simp [start] at hk,List.Pairwise.nil,fun j hj=>by omega⟩
 | succ n ih=>
  simp only [upto] at h
  split at h
  ·cases h
  ·rename_i t ht
   have hc:=ih (by omega) ht
   have hg:=upto_good hB n (by omega) ht
   split at h
   ·cases h
   ·rename_i t' h3
    cases h
    cases h1:askN n t 1 with
    | error c=>rw [askN_err h1 2] at h3;cases h3
    | ok t1=>
     cases h2:askN n t 2 with
     | error c=>rw [askN_err h2 1] at h3;cases h3
     | ok t2=>
      have a1:askD n t=.ok t1:=(askN_succ (j:=0) rfl).symm.trans h1
      have a2:askM n t1=.ok t2:=(askN_succ h1).symm.trans h2
      have a3:askH n t2=.ok s:=(askN_succ h2).symm.trans h3
      exact cl_H (cl_M (by omega) (good_D hB (by omega) hg a1) (cl_D (by omega) hg hc a1) a2) a3
theorem calls_ahead {l:List Rz} {m:Nat} {s:Rs} (hw:(wrong [ab1] 0 l).2=false) (hg:Good l m s) (h:Cl l l.length l.length s):∀ k (hk:k < s.us.length) j,s.us[k]<=j->j < endp s.rows s.us[k]->(rat s.rows j).kind=22->0<=(rat s.rows j).n/\(rat s.rows j).n < (k:Int):=by
 intro k hk j hj1 hj2 h22
 have hW:=whole_of hw
 obtain ⟨u1,u2,u3⟩:=h.u k hk
 have ha:s.us[k] - 1 < l.length:=by omega
 have hB:=base_of hw
 have hf:=hB.fill _ ha
 have hkid:km l (s.us[k] - 1)=1:=by
  have h1:=filled_kid hf (Or.inl u3)
  have h2:(rat l (s.us[k] - 1)).kids<=1:=by
   unfold filled wtn at hf
   simp only [Bool.and_eq_true,decide_eq_true_eq] at hf
   have:=hf.2.2.2.2
   rw [u3] at this
   exact this
  have:=hB.tree.kids _ ha
  omega
 have hend:endp l (s.us[k] - 1)=endp l s.us[k]:=by
  obtain ⟨e1,_,_⟩:=end_kid hW ha
  obtain ⟨_,e2,_⟩:=kid_at hW ha (k:=0) (by omega)
  rw [e1,hkid,show (1:Nat)=0+1 from rfl,e2]
  congr 1
  simp [kidp,sz_zero]
  omega
 rw [endp_like hg.like] at hj2
 have hjl:j < l.length:=by
  have:=(end_kid hW ha).2.2
  omega
 rw [(like_kind hg.like hjl).1] at h22
 obtain ⟨n,hn,e1,e2⟩:=h.c j hjl h22
 rw [e1]
 refine ⟨by omega,?_⟩
 by_cases hlt:n < k
 ·omega
 ·exfalso
  by_cases he:n=k
  ·subst he
   omega
  ·have hlt2:s.us[k] < s.us[n]:=List.pairwise_iff_getElem.1 h.o k n hk hn (by omega)
   obtain ⟨v1,v2,v3⟩:=h.u n hn
   have hnl:s.us[n] - 1 < l.length:=by omega
   have:=(end_kid hW hnl).2.1
   exact rule_apart hw ha u3 (c:=s.us[n] - 1) (by omega) (by omega) v3
theorem calls_there {l:List Rz} {m:Nat} {s:Rs} (hg:Good l m s) (h:Cl l l.length l.length s):∀ j,j < l.length->(rat s.rows j).kind=22->0<=(rat s.rows j).n/\(rat s.rows j).n < (s.us.length:Int):=by
 intro j hj h22
 rw [(like_kind hg.like hj).1] at h22
 obtain ⟨n,hn,e1,_⟩:=h.c j hj h22
 rw [e1]
 exact ⟨by omega,by omega⟩
theorem rat_numbN {l:List Rz} {i j n:Nat} (h:j ≠ i):rat (numb l i n) j=rat l j:=by
 simp only [rat,numb,List.getD_eq_getElem?_getD,List.getElem?_set,if_neg (Ne.symm h)]
def nameOf (l0:List Rz) (qs:List (ByteArray × Bool)) (vs ts:List ByteArray) (us:List Nat) (k n:Nat):Option ByteArray:=
 if k=1 then (qs[n]?).map (·.1) else if k=2 then vs[n]? else if k=3 then ts[n]? else if k=4 then (us[n]?).map (fun u=>(rat l0 (u - 1)).name) else none
abbrev Rs.nm (s:Rs) (l0:List Rz) (k n:Nat):Option ByteArray:=nameOf l0 s.qs s.vs s.ts s.us k n
theorem get_more {α:Type} {l m:List α} {n:Nat} {x:α} (h:l[n]?=some x):(l++m)[n]?=some x:=by
 rw [List.getElem?_append_left (List.getElem?_eq_some_iff.1 h).1]
 exact h
theorem dec_mono {l0:List Rz} {s:Rs} {i k n:Nat} {x:ByteArray} (h:s.nm l0 k n=some x):(s.dec i).nm l0 k n=some x:=by
 unfold Rs.nm nameOf at *
 by_cases h1:k=1
 ·rw [if_pos h1] at h ⊢
  cases hq:s.qs[n]? with
  | none=>rw [hq] at h;cases h
  | some q=>
   rw [hq] at h
   have:(s.dec i).qs[n]?=some q:=by
    show (if (rat s.rows i).kind=2 then s.qs++[((rat s.rows i).name,false)] else if (rat s.rows i).kind=3 then s.qs++[((rat s.rows i).name,true)] else s.qs)[n]?=some q
    split
    ·exact get_more hq
    ·split
     ·exact get_more hq
     ·exact hq
   rw [this]
   exact h
 ·rw [if_neg h1] at h ⊢
  by_cases h2:k=2
  ·rw [if_pos h2] at h ⊢
   show (if (rat s.rows i).kind=4 then s.vs++[(rat s.rows i).name] else s.vs)[n]?=some x
   split
   ·exact get_more h
   ·exact h
  ·rw [if_neg h2] at h ⊢
   by_cases h3:k=3
   ·rw [if_pos h3] at h ⊢
    show (if (rat s.rows i).kind=5 then s.ts++[(rat s.rows i).name] else s.ts)[n]?=some x
    split
    ·exact get_more h
    ·exact h
   ·rw [if_neg h3] at h ⊢
    by_cases h4:k=4
    ·rw [if_pos h4] at h ⊢
     cases hu:s.us[n]? with
     | none=>rw [hu] at h;cases h
     | some u=>
      rw [hu] at h
      have:(s.dec i).us[n]?=some u:=by
       show (if (rat s.rows i).kind=7 then s.us++[i+1] else s.us)[n]?=some u
       split
       ·exact get_more hu
       ·exact hu
      rw [this]
      exact h
    ·rw [if_neg h4] at h
     cases h
theorem dec_new {l0:List Rz} {s:Rs} {i:Nat} (hn:(rat s.rows i).name=(rat l0 i).name) (hd:decl (rat s.rows i).kind ≠ 0):(s.dec i).nm l0 (decl (rat s.rows i).kind) (s.cnt (decl (rat s.rows i).kind))=some (rat s.rows i).name:=by
 unfold Rs.nm nameOf
 have hq:(s.dec i).qs=if (rat s.rows i).kind=2 then s.qs++[((rat s.rows i).name,false)] else if (rat s.rows i).kind=3 then s.qs++[((rat s.rows i).name,true)] else s.qs:=rfl
 have hv:(s.dec i).vs=if (rat s.rows i).kind=4 then s.vs++[(rat s.rows i).name] else s.vs:=rfl
 have ht:(s.dec i).ts=if (rat s.rows i).kind=5 then s.ts++[(rat s.rows i).name] else s.ts:=rfl
 have hu:(s.dec i).us=if (rat s.rows i).kind=7 then s.us++[i+1] else s.us:=rfl
 rcases decl_cases (rat s.rows i).kind with ⟨e,ed⟩ | ⟨e,ed⟩ | ⟨e,ed⟩ | ⟨e,ed⟩ | ⟨e,ed⟩ | ⟨_,_,_,_,_,ed⟩
 ·rw [ed,hq,e]
  simp [Rs.cnt]
 ·rw [ed,hq,e]
  simp [Rs.cnt]
 ·rw [ed,hv,e]
  simp [Rs.cnt]
 ·rw [ed,ht,e]
  simp [Rs.cnt]
 ·rw [ed,hu,e]
  simp [Rs.cnt]
  simpa [rat,List.getD_eq_getElem?_getD] using hn.symm
 ·exact absurd ed hd
structure Mean (l0:List Rz) (i:Nat) (s:Rs):Prop where
 kn:∀ e ∈ s.known,s.nm l0 e.2.1 e.2.2.1=some e.1
 rw:∀ j,j < i->j < l0.length->decl (rat l0 j).kind ≠ 0\/nmd (rat l0 j).kind ≠ 0->∃ n:Nat,(rat s.rows j).n=(n:Int)/\s.nm l0 (decl (rat l0 j).kind+nmd (rat l0 j).kind) n=some (rat l0 j).name
 ot:∀ j,j < l0.length->i<=j\/(decl (rat l0 j).kind=0/\nmd (rat l0 j).kind=0)->(rat s.rows j).n=(rat l0 j).n
 up:∀ u ∈ s.us,1<=u
theorem mean_start (l:List Rz):Mean l 0 (start l):=⟨fun e he=>by simp [start] at he,fun j hj=>by omega,fun j _ _=>rfl,fun u hu=>by simp [start] at hu⟩
theorem mean_skip {l0:List Rz} {i:Nat} {s:Rs} (h:Mean l0 i s) (hd:decl (rat l0 i).kind=0) (hn:nmd (rat l0 i).kind=0):Mean l0 (i+1) s:=
 ⟨h.kn,fun j hj hl hk=>by
  by_cases e:j=i
  ·subst e
   rcases hk with hk | hk
   ·exact absurd hd hk
   ·exact absurd hn hk
  ·exact h.rw j (by omega) hl hk,fun j hl ho=>by
  by_cases e:j=i
  ·subst e
   exact h.ot j hl (Or.inl (Nat.le_refl _))
  ·refine h.ot j hl ?_
   rcases ho with ho | ho
   ·exact Or.inl (by omega)
   ·exact Or.inr ho,h.up⟩
theorem mean_dec {l0:List Rz} {i m:Nat} {s:Rs} (h:Mean l0 i s) (hg:Good l0 m s) (hi:i < l0.length) (hd:decl (rat s.rows i).kind ≠ 0):Mean l0 (i+1) (s.dec i):=by
 have hk:=like_kind hg.like hi
 have hil:i < s.rows.length:=by rw [like_len hg.like];exact hi
 have hnew:=dec_new (l0:=l0) hk.2.1 hd
 have hrows:(s.dec i).rows=numb s.rows i (s.cnt (decl (rat s.rows i).kind)):=rfl
 have hn0:nmd (rat l0 i).kind=0:=by
  rcases decl_cases (rat s.rows i).kind with ⟨e,_⟩ | ⟨e,_⟩ | ⟨e,_⟩ | ⟨e,_⟩ | ⟨e,_⟩ | ⟨_,_,_,_,_,e⟩
  all_goals first | exact absurd e hd | (rw [<-hk.1,e];rfl)
 refine ⟨fun e he=>?_,fun j hj hl hkd=>?_,fun j hl ho=>?_,fun u hu=>?_⟩
 ·have he2:e=((rat s.rows i).name,decl (rat s.rows i).kind,s.cnt (decl (rat s.rows i).kind),endp (numb s.rows i (s.cnt (decl (rat s.rows i).kind))) i)\/e ∈ s.known:=List.mem_cons.1 he
  rcases he2 with rfl | he2
  ·exact hnew
  ·exact dec_mono (h.kn e he2)
 ·by_cases e:j=i
  ·subst e
   refine ⟨s.cnt (decl (rat s.rows j).kind),?_,?_⟩
   ·rw [hrows,rat_numb hil]
   ·rw [hn0,Nat.add_zero,<-hk.1,<-hk.2.1]
    exact hnew
  ·obtain ⟨n,h1,h2⟩:=h.rw j (by omega) hl hkd
   exact ⟨n,by rw [hrows,rat_numbN e];exact h1,dec_mono h2⟩
 ·have e:j ≠ i:=fun e=>by
   subst e
   rcases ho with ho | ho
   ·omega
   ·rw [hk.1] at hd
    exact hd ho.1
  rw [hrows,rat_numbN e]
  refine h.ot j hl ?_
  rcases ho with ho | ho
  ·exact Or.inl (by omega)
  ·exact Or.inr ho
 ·have hu2:u ∈ (if (rat s.rows i).kind=7 then s.us++[i+1] else s.us):=hu
  split at hu2
  ·rcases List.mem_append.1 hu2 with hu3 | hu3
   ·exact h.up u hu3
   ·rw [List.mem_singleton.1 hu3];omega
  ·exact h.up u hu2
theorem mean_ref {l0:List Rz} {i m k n p:Nat} {s:Rs} (h:Mean l0 i s) (hg:Good l0 m s) (hi:i < l0.length) (hd:decl (rat l0 i).kind=0) (hlk:lk s.known (rat s.rows i).name=some (k,n,p)) (hk:k=nmd (rat s.rows i).kind):Mean l0 (i+1) { s with rows:=numb s.rows i n } := by
 have hkd:=like_kind hg.like hi
 have hil:i < s.rows.length:=by rw [like_len hg.like];exact hi
 have hm:=h.kn _ (lk_mem hlk)
 refine ⟨h.kn,fun j hj hl hx=>?_,fun j hl ho=>?_,h.up⟩
 ·by_cases e:j=i
  ·subst e
   refine ⟨n,?_,?_⟩
   ·show (rat (numb s.rows j n) j).n=_
    rw [rat_numb hil]
   ·rw [hd,Nat.zero_add,<-hkd.1,<-hk,<-hkd.2.1]
    exact hm
  ·obtain ⟨q,h1,h2⟩:=h.rw j (by omega) hl hx
   exact ⟨q,by show (rat (numb s.rows i n) j).n=_;rw [rat_numbN e];exact h1,h2⟩
 ·have e:j ≠ i:=fun e=>by
   subst e
   rcases ho with ho | ho
   ·omega
   ·have:=hg.kn _ (lk_mem hlk)
    dsimp only at this
    rw [hk,hkd.1,ho.2] at this
    omega
  show (rat (numb s.rows i n) j).n=_
  rw [rat_numbN e]
  refine h.ot j hl ?_
  rcases ho with ho | ho
  ·exact Or.inl (by omega)
  ·exact Or.inr ho
theorem upto_mean {l:List Rz} (hB:Base l) (n:Nat) (hn:n<=l.length) {s:Rs} (h:upto (start l) n=.ok s):Mean l n s:=by
 induction n generalizing s with
 | zero=>
  cases h
  exact mean_start l
 | succ n ih=>
  simp only [upto] at h
  split at h
  ·cases h
  ·rename_i t ht
   have hc:=ih (by omega) ht
   have hg:=upto_good hB n (by omega) ht
   have hkd:=like_kind hg.like (show n < l.length by omega)
   split at h
   ·cases h
   ·rename_i t' h3
    cases h
    cases h1:askN n t 1 with
    | error c=>rw [askN_err h1 2] at h3;cases h3
    | ok t1=>
     cases h2:askN n t 2 with
     | error c=>rw [askN_err h2 1] at h3;cases h3
     | ok t2=>
      have a1:askD n t=.ok t1:=(askN_succ (j:=0) rfl).symm.trans h1
      have a2:askM n t1=.ok t2:=(askN_succ h1).symm.trans h2
      have a3:askH n t2=.ok s:=(askN_succ h2).symm.trans h3
      have hH:∀ {a:Rs},Mean l (n+1) t2->askH n t2=.ok a->Mean l (n+1) a:=fun hm ha=>by
       unfold askH at ha
       split at ha
       ·cases ha;exact hm
       ·split at ha
        ·cases ha
        ·cases ha
         exact ⟨hm.kn,hm.rw,hm.ot,hm.up⟩
      refine hH ?_ a3
      have hg1:=good_D hB (by omega) hg a1
      have hk1:=like_kind hg1.like (show n < l.length by omega)
      unfold askD at a1
      split at a1
      ·rename_i hd
       cases a1
       unfold askM at a2
       split at a2
       ·rename_i hn0
        cases a2
        exact mean_skip hc (by rw [<-hkd.1];exact hd) (by rw [<-hkd.1];exact hn0)
       ·split at a2
        ·cases a2
        ·rename_i k q p hlk
         split at a2
         ·cases a2
         ·split at a2
          ·cases a2
          ·rename_i hk
           cases a2
           exact mean_ref hc hg (by omega) (by rw [<-hkd.1];exact hd) hlk (by simpa using hk)
      ·rename_i hd
       split at a1
       ·cases a1
       ·split at a1
        ·cases a1
        ·cases a1
         have hn0:nmd (rat t.rows n).kind=0:=by
          rcases decl_cases (rat t.rows n).kind with ⟨e,_⟩ | ⟨e,_⟩ | ⟨e,_⟩ | ⟨e,_⟩ | ⟨e,_⟩ | ⟨_,_,_,_,_,e⟩
          all_goals first | exact absurd e hd | (rw [e];rfl)
         have e2:askM n (t.dec n)=.ok (t.dec n):=by
          unfold askM
          rw [if_pos (by rw [hk1.1,<-hkd.1];exact hn0)]
         rw [e2] at a2
         cases a2
         exact mean_dec hc hg (by omega) hd
end Go.Proofs.YtfgpbdieaflclaaGreat.Nm
