import Derived.Test.YtbledbjcghaanaaGreatK23
import Derived.Test.YtbledbjcghaanaaGreatK18
import Derived.Test.YtbledbjcghaanaaGreatTk
import Derived.Deep.DeepCutAuto
import Derived.Deep.CutBlock
set_option maxHeartbeats 12800000
set_option maxRecDepth 100000
namespace Go.Proofs.YtbledbjcghaanaaGreat.Nm
open Go.RowKit Go.Maps Sp Lx Gr
theorem rat_numb_ne {l:List Rz} {i j n:Nat} (h:j ≠ i):rat (numb l i n) j=rat l j:=by
 simp only [rat,numb,List.getD_eq_getElem?_getD,List.getElem?_set,if_neg (Ne.symm h)]
structure Cl (l0:List Rz) (i m:Nat) (s:Rs):Prop where
 k:∀ e ∈ s.known,e.2.1=4->∃ h:e.2.2.1 < s.us.length,e.2.2.2=endp l0 (s.us[e.2.2.1] - 1)
 u:∀ k (h:k < s.us.length),1<=s.us[k]/\s.us[k]<=i/\(rat l0 (s.us[k] - 1)).kind=7
 o:s.us.Pairwise (· < ·)
 c:∀ j,j < m->(rat l0 j).kind=22->∃ n:Nat,∃ h:n < s.us.length,(rat s.rows j).n=(n:Int)/\endp l0 (s.us[n] - 1)<=j
theorem cl_D {l0:List Rz} {i m:Nat} {s s':Rs} (hi:i < l0.length) (hg:Good l0 m s) (h:Cl l0 i i s) (hs:askD i s=.ok s'):Cl l0 (i+1) i s':=by
 have hup:Cl l0 (i+1) i s:=⟨h.k,fun k hk=>⟨(h.u k hk).1,Nat.le_succ_of_le (h.u k hk).2.1,(h.u k hk).2.2⟩,h.o,h.c⟩
 unfold askD at hs
 split at hs
 ·cases hs;exact hup
 split at hs
 ·cases hs
 split at hs
 ·cases hs
 rename_i hd _ _
 cases hs
 have hkd:=like_kind hg.like hi
 have hend:endp (numb s.rows i (s.cnt (decl (rat s.rows i).kind))) i=endp l0 i:=endp_like ((numb_clr _ _ _).trans hg.like) i
 by_cases h7:(rat s.rows i).kind=7
 ·have hus:(s.dec i).us=s.us++[i+1]:=if_pos h7
  have hd4:decl (rat s.rows i).kind=4:=by rw [h7];rfl
  have hcn:s.cnt 4=s.us.length:=rfl
  have hget:∀ k (hk:k < s.us.length) (hk2:k < (s.dec i).us.length),(s.dec i).us[k]=s.us[k]:=fun k hk hk2=>by simp only [hus];exact List.getElem_append_left hk
  refine ⟨fun e he h4=>?_,fun k hk=>?_,?_,fun j hj h22=>?_⟩
  ·rcases List.mem_cons.1 he with rfl | he
   ·dsimp only
    rw [hend,hd4,hcn]
    refine ⟨by rw [hus];simp,?_⟩
    simp only [hus]
    simp
   ·obtain ⟨h1,h2⟩:=h.k e he h4
    have h3:e.2.2.1 < (s.dec i).us.length:=by rw [hus];simp;omega
    exact ⟨h3,by rw [hget _ h1 h3];exact h2⟩
  ·by_cases hk2:k < s.us.length
   ·rw [hget k hk2 hk]
    exact hup.u k hk2
   ·have hk3:k=s.us.length:=by rw [hus] at hk;simp at hk;omega
    subst hk3
    have he:(s.dec i).us[s.us.length]=i+1:=by simp only [hus];simp
    rw [he]
    exact ⟨by omega,Nat.le_refl _,by rw [Nat.add_sub_cancel,<-hkd.1];exact h7⟩
  ·rw [hus]
   refine List.pairwise_append.2 ⟨h.o,List.pairwise_singleton _ _,fun a ha b hb=>?_⟩
   rw [List.mem_singleton.1 hb]
   obtain ⟨k,hk,rfl⟩:=List.mem_iff_getElem.1 ha
   have:=(h.u k hk).2.1
   omega
  ·obtain ⟨n,hn,h1,h2⟩:=h.c j hj h22
   have h3:n < (s.dec i).us.length:=by rw [hus];simp;omega
   exact ⟨n,h3,by show (rat (numb _ _ _) j).n=_;rw [rat_numb_ne (by omega)];exact h1,by rw [hget _ hn h3];exact h2⟩
 ·have hus:(s.dec i).us=s.us:=if_neg h7
  have hd4:decl (rat s.rows i).kind ≠ 4:=fun e=>by
   rcases decl_cases (rat s.rows i).kind with ⟨_,e2⟩ | ⟨_,e2⟩ | ⟨_,e2⟩ | ⟨_,e2⟩ | ⟨e1,_⟩ | ⟨_,_,_,_,_,e2⟩
   all_goals first | exact h7 e1 | omega
  refine ⟨fun e he h4=>?_,?_,?_,fun j hj h22=>?_⟩
  ·rcases List.mem_cons.1 he with rfl | he
   ·exact absurd h4 hd4
   ·simp only [hus]
    exact h.k e he h4
  ·simp only [hus]
   exact hup.u
  ·rw [hus]
   exact h.o
  ·simp only [hus]
   obtain ⟨n,hn,h1,h2⟩:=h.c j hj h22
   exact ⟨n,hn,by show (rat (numb _ _ _) j).n=_;rw [rat_numb_ne (by omega)];exact h1,h2⟩
theorem cl_M {l0:List Rz} {i m:Nat} {s s':Rs} (hi:i < l0.length) (hg:Good l0 m s) (h:Cl l0 (i+1) i s) (hs:askM i s=.ok s'):Cl l0 (i+1) (i+1) s':=by
 have hkd:=like_kind hg.like hi
 have hlen:=like_len hg.like
 unfold askM at hs
 split at hs
 ·rename_i h0
  cases hs
  refine ⟨h.k,h.u,h.o,fun j hj h22=>?_⟩
  by_cases e:j=i
  ·subst e
   rw [hkd.1,h22] at h0
   exact absurd h0 (by decide)
  ·exact h.c j (by omega) h22
 split at hs
 ·cases hs
 rename_i k mm p hlk
 split at hs
 ·cases hs
 rename_i hp
 split at hs
 ·cases hs
 ·rename_i hne
  cases hs
  refine ⟨h.k,h.u,h.o,fun j hj h22=>?_⟩
  by_cases e:j=i
  ·subst e
   have h4:k=4:=by
    have:nmd (rat s.rows j).kind=4:=by rw [hkd.1,h22];rfl
    omega
   obtain ⟨h1,h2⟩:=h.k _ (lk_mem hlk) h4
   exact ⟨mm,h1,by show (rat (numb _ _ _) j).n=_;rw [rat_numb (by omega)],by rw [<-h2];dsimp only;omega⟩
  ·obtain ⟨n,hn,h1,h2⟩:=h.c j (by omega) h22
   exact ⟨n,hn,by show (rat (numb _ _ _) j).n=_;rw [rat_numb_ne e];exact h1,h2⟩
theorem cl_H {l0:List Rz} {i n:Nat} {s s':Rs} (h:Cl l0 n n s) (hs:askH i s=.ok s'):Cl l0 n n s':=by
 unfold askH at hs
 split at hs
 ·cases hs;exact h
 split at hs
 ·cases hs
 ·cases hs
  exact ⟨h.k,h.u,h.o,h.c⟩
theorem upto_cl {l:List Rz} (hB:Base l) (n:Nat) (hn:n<=l.length) {s:Rs} (h:upto (start l) n=.ok s):Cl l n n s:=by
 induction n generalizing s with
 | zero=>
  cases h
  exact ⟨fun e he=>by simp [start] at he,fun k hk=>by simp [start] at hk,List.Pairwise.nil,fun j hj=>by omega⟩
 | succ n ih=>
  simp only [upto] at h
  split at h
  ·cases h
  ·rename_i t ht
   have hc:=ih (by omega) ht
   have hg:=upto_good hB n (by omega) ht
   split at h
   ·cases h
   ·rename_i t' h3
    cases h
    cases h1:askN n t 1 with
    | error c=>rw [askN_err h1 2] at h3;cases h3
    | ok t1=>
     cases h2:askN n t 2 with
     | error c=>rw [askN_err h2 1] at h3;cases h3
     | ok t2=>
      have a1:askD n t=.ok t1:=(askN_succ (j:=0) rfl).symm.trans h1
      have a2:askM n t1=.ok t2:=(askN_succ h1).symm.trans h2
      have a3:askH n t2=.ok s:=(askN_succ h2).symm.trans h3
      exact cl_H (cl_M (by omega) (good_D hB (by omega) hg a1) (cl_D (by omega) hg hc a1) a2) a3
theorem calls_ahead {l:List Rz} {m:Nat} {s:Rs} (hw:(wrong [ab1] 0 l).2=false) (hg:Good l m s) (h:Cl l l.length l.length s):∀ k (hk:k < s.us.length) j,s.us[k]<=j->j < endp s.rows s.us[k]->(rat s.rows j).kind=22->0<=(rat s.rows j).n/\(rat s.rows j).n < (k:Int):=by
 intro k hk j hj1 hj2 h22
 have hW:=whole_of hw
 obtain ⟨u1,u2,u3⟩:=h.u k hk
 have ha:s.us[k] - 1 < l.length:=by omega
 have hB:=base_of hw
 have hf:=hB.fill _ ha
 have hkid:km l (s.us[k] - 1)=1:=by
  have h1:=filled_kid hf (Or.inl u3)
  have h2:(rat l (s.us[k] - 1)).kids<=1:=by
   unfold filled wtn at hf
   simp only [Bool.and_eq_true,decide_eq_true_eq] at hf
   have:=hf.2.2.2.2
   rw [u3] at this
   exact this
  have:=hB.tree.kids _ ha
  omega
 have hend:endp l (s.us[k] - 1)=endp l s.us[k]:=by
  obtain ⟨e1,_,_⟩:=end_kid hW ha
  obtain ⟨_,e2,_⟩:=kid_at hW ha (k:=0) (by omega)
  rw [e1,hkid,show (1:Nat)=0+1 from rfl,e2]
  congr 1
  simp [kidp,sz_zero]
  omega
 rw [endp_like hg.like] at hj2
 have hjl:j < l.length:=by
  have:=(end_kid hW ha).2.2
  omega
 rw [(like_kind hg.like hjl).1] at h22
 obtain ⟨n,hn,e1,e2⟩:=h.c j hjl h22
 rw [e1]
 refine ⟨by omega,?_⟩
 by_cases hlt:n < k
 ·omega
 ·exfalso
  by_cases he:n=k
  ·subst he
   omega
  ·have hlt2:s.us[k] < s.us[n]:=List.pairwise_iff_getElem.1 h.o k n hk hn (by omega)
   obtain ⟨v1,v2,v3⟩:=h.u n hn
   have hnl:s.us[n] - 1 < l.length:=by omega
   have:=(end_kid hW hnl).2.1
   exact rule_apart hw ha u3 (c:=s.us[n] - 1) (by omega) (by omega) v3
theorem calls_there {l:List Rz} {m:Nat} {s:Rs} (hg:Good l m s) (h:Cl l l.length l.length s):∀ j,j < l.length->(rat s.rows j).kind=22->0<=(rat s.rows j).n/\(rat s.rows j).n < (s.us.length:Int):=by
 intro j hj h22
 rw [(like_kind hg.like hj).1] at h22
 obtain ⟨n,hn,e1,_⟩:=h.c j hj h22
 rw [e1]
 exact ⟨by omega,by omega⟩
end Go.Proofs.YtbledbjcghaanaaGreat.Nm
namespace Go.Proofs.YtbledbjcghaanaaGreat.Gr
open Go.RowKit Sp Lx
theorem ends_any (ao:Option Addr) (l:List Rz) (cap:Nat) (w:World) (h:IsRz w ao l) (hn:l.length<=2932031007317) (hT:TreeZ l):
  Calls Tryz.prog 95 #[.slice ao l.length cap] w fun e w'=>∃ g,e=.returned (.slice (p0 g) l.length l.length)/\w.heap.size<=g/\RowI w' g l.length (fun i=>(endp l i:Int))/\Below w.heap.size w w':=by
 obtain ⟨M,hmk,hM⟩:=mk_ints l.length hn
 have HI:Hid (IsRz w ao l):=h
 have HN:Hid (l.length<=2932031007317):=hn
 have HT:Hid (TreeZ l):=hT
 have HA:Hid (RowI (w.alloc (.cells M 3)) w.heap.size l.length (fun i=>if l.length<=i then (endp l i:Int) else 0)):=(hM w).ext fun i hi=>by rw [if_neg (by omega)]
 have HB0:Hid (Below w.heap.size w (w.alloc (.cells M 3))):=bAl w _
 have hln:(l.length:Int)<=2932031007317:=by omega
 clear h hn hT hM
 go_enter Tryz.func95,Tryz.ntmps95
 go_wp2_with fail
 go_loopg [4] l.length (fun gq i wr=>∃ m:Nat,m<=l.length/\gq=m/\i=I ((m:Int) - 1)/\RowI wr w.heap.size l.length (fun i=>if m<=i then (endp l i:Int) else 0)/\Below w.heap.size w wr)
 case atStart=>exact ⟨l.length,Nat.le_refl _,rfl,by go_num,HA.out,HB0.out⟩
 case round=>
  obtain ⟨m,hm,hgk,rfl,hR,hB⟩:=hrel
  have HG:Hid (gk=m):=hgk
  have HR:Hid (RowI wr w.heap.size l.length (fun i=>if m<=i then (endp l i:Int) else 0)):=hR
  have HB:Hid (Below w.heap.size w wr):=hB
  clear hgk hR hB hmk
  cases m with
  | zero=>
   go_wp2_with fail
   go_ret
   exact ⟨w.heap.size,rfl,Nat.le_refl _,HR.out.ext fun i _=>by rw [if_pos (Nat.zero_le _)],HB.out⟩
  | succ m=>
   have hml:m < l.length:=by omega
   have hmi:(((m+1:Nat):Int) - 1)=(m:Int):=by omega
   rw [hmi]
   obtain ⟨g,o,rfl,hg,c0,c4⟩:=kids_at (HI.out.below HB.out) HT.out hml
   have hml':(m:Int) < (l.length:Int):=by omega
   have hm0:(m:Int)<=2932031007317:=by omega
   clear hm hmi
   generalize wr=W1 at *
   go_wp2_with fail
   go_loopg [5,6] (km l m) (fun gq nx kk wr'=>∃ k:Nat,k<=km l m/\gq=km l m - k/\nx=I (kidp l m k:Int)/\kk=I k/\wr'=W1)
   case atStart=>exact ⟨0,Nat.zero_le _,rfl,by rw [kid_zero];go_num,rfl,rfl⟩
   case round=>
    obtain ⟨k,hk,hgk,rfl,rfl,hw⟩:=hrel
    have HG2:Hid (gk=km l m - k):=hgk
    rw [hw]
    clear hgk hw
    have HK:Hid (k<=km l m):=hk
    have hkl:(kidp l m k:Int)<=2932031007317:=by have h1:=kid_le HT.out.whole hml hk;have h2:=HN.out;omega
    have HKe:Hid (km l m<=kidp l m (km l m)):=by
     show _<=_
     have:∀ j,j<=km l m->j<=kidp l m j:=by
      intro j
      induction j with
      | zero=>intro _;omega
      | succ j ih=>
       intro hj
       obtain ⟨h1,h2,h3⟩:=kid_at HT.out.whole hml (k:=j) (by omega)
       have h4:=(end_kid HT.out.whole h1).2.1
       have:=ih (by omega)
       omega
     exact this _ (Nat.le_refl _)
    have hkm:(km l m:Int)<=2932031007317:=by have h1:=HKe.out;have h2:=kid_le HT.out.whole hml (Nat.le_refl _);have h3:=HN.out;omega
    by_cases hlt:k < km l m
    ·obtain ⟨h1,h2,h3⟩:=kid_at HT.out.whole hml hlt
     have hc:=HR.out.cell h1
     rw [if_pos (by omega)] at hc
     have hlt':(k:Int) < (km l m:Int):=by omega
     have hkl':(kidp l m k:Int) < (l.length:Int):=by omega
     have HN2:Hid (kidp l m (k+1)=endp l (kidp l m k)):=h2
     clear h1 h2 h3 hlt hk
     go_wp2_with fail
     go_roundg (km l m - (k+1))
     case measure=>have h1:=HG2.out;have h2:=HK.out;omega
     case rel=>exact ⟨k+1,by omega,rfl,by rw [HN2.out],by go_num,rfl⟩
    ·have hlt':¬ ((k:Int) < (km l m:Int)):=by omega
     have hke:k=km l m:=by omega
     have HE:Hid (kidp l m k=endp l m):=by show _=_;rw [hke];exact (end_kid HT.out.whole hml).1.symm
     have hc:=HR.out.cell hml
     have hf:=HR.out.frozen m
     generalize (if m+1<=m then (endp l m:Int) else 0)=y at hc
     have HS:Hid (RowI (W1.setCell ⟨w.heap.size,m,none⟩ (I (kidp l m k:Int))) w.heap.size l.length (fun i=>if i=m then (kidp l m k:Int) else if m+1<=i then (endp l i:Int) else 0)):=HR.out.set m (kidp l m k:Int)
     have HB2:Hid (Below w.heap.size w (W1.setCell ⟨w.heap.size,m,none⟩ (I (kidp l m k:Int)))):=HB.out.trans ((Below.refl w.heap.size W1).setCell (p:=⟨w.heap.size,m,none⟩) (Nat.le_refl _) _)
     clear hke hlt hk
     go_wp2_with fail
     go_roundg m
     case measure=>have:=HG.out;omega
     case rel=>
      refine ⟨m,by omega,rfl,by go_num,HS.out.ext fun i _=>?_,HB2.out⟩
      by_cases e:i=m
      ·subst e;rw [if_pos rfl,if_pos (Nat.le_refl _),HE.out]
      ·rw [if_neg e]
       by_cases e2:m+1<=i
       ·rw [if_pos e2,if_pos (by omega)]
       ·rw [if_neg e2,if_neg (by omega)]
def fu (l:List Rz) (i k p:Nat):Int:=if p=0 then -1 else if up l p < i\/(up l p=i/\wh l p < k) then (up l p:Int) else 0
def fw (l:List Rz) (i k p:Nat):Int:=if p=0 then 0 else if up l p < i\/(up l p=i/\wh l p < k) then (wh l p:Int) else 0
theorem f_iff {l:List Rz} (h:Whole l) {i k q:Nat} (h0:0 < q) (hq:q < l.length) (hne:q ≠ kidp l i k):(up l q < i\/(up l q=i/\wh l q < k+1)) ↔ (up l q < i\/(up l q=i/\wh l q < k)):=by
 have h1:=(up_at h h0 hq).1
 constructor
 ·rintro (h2 | ⟨h2,h3⟩)
  ·exact Or.inl h2
  ·refine Or.inr ⟨h2,?_⟩
   rcases Nat.lt_or_ge (wh l q) k with h4 | h4
   ·exact h4
   ·have:wh l q=k:=by omega
    rw [h2,this] at h1
    exact absurd h1.symm hne
 ·rintro (h2 | ⟨h2,h3⟩)
  ·exact Or.inl h2
  ·exact Or.inr ⟨h2,by omega⟩
theorem fu_step {l:List Rz} (h:Whole l) {i k:Nat} (hi:i < l.length) (hk:k < km l i) (q:Nat) (hq:q < l.length):(if q=kidp l i k then (i:Int) else fu l i k q)=fu l i (k+1) q:=by
 obtain ⟨e1,e2⟩:=up_kid h hi hk
 have h3:=(kid_at h hi hk).2.2
 by_cases e:q=kidp l i k
 ·rw [if_pos e]
  unfold fu
  rw [if_neg (by omega),if_pos (Or.inr ⟨by rw [e];exact e1,by rw [e,e2];omega⟩),e,e1]
 ·rw [if_neg e]
  unfold fu
  by_cases h0:q=0
  ·rw [if_pos h0,if_pos h0]
  ·rw [if_neg h0,if_neg h0]
   simp only [f_iff h (by omega) hq e]
theorem fw_step {l:List Rz} (h:Whole l) {i k:Nat} (hi:i < l.length) (hk:k < km l i) (q:Nat) (hq:q < l.length):(if q=kidp l i k then (k:Int) else fw l i k q)=fw l i (k+1) q:=by
 obtain ⟨e1,e2⟩:=up_kid h hi hk
 have h3:=(kid_at h hi hk).2.2
 by_cases e:q=kidp l i k
 ·rw [if_pos e]
  unfold fw
  rw [if_neg (by omega),if_pos (Or.inr ⟨by rw [e];exact e1,by rw [e,e2];omega⟩),e,e2]
 ·rw [if_neg e]
  unfold fw
  by_cases h0:q=0
  ·rw [if_pos h0,if_pos h0]
  ·rw [if_neg h0,if_neg h0]
   simp only [f_iff h (by omega) hq e]
theorem f_done {l:List Rz} (h:Whole l) {i q:Nat} (h0:0 < q) (hq:q < l.length):(up l q < i\/(up l q=i/\wh l q < km l i)) ↔ (up l q < i+1\/(up l q=i+1/\wh l q < 0)):=by
 have h1:=(up_at h h0 hq).2.1
 constructor
 ·rintro (h2 | ⟨h2,h3⟩)<;>left<;>omega
 ·rintro (h2 | ⟨h2,h3⟩)
  ·rcases Nat.lt_or_ge (up l q) i with h4 | h4
   ·exact Or.inl h4
   ·have:up l q=i:=by omega
    rw [this] at h1
    exact Or.inr ⟨this,h1⟩
  ·omega
theorem fu_done {l:List Rz} (h:Whole l) {i q:Nat} (hq:q < l.length):fu l i (km l i) q=fu l (i+1) 0 q:=by
 unfold fu
 by_cases h0:q=0
 ·rw [if_pos h0,if_pos h0]
 ·rw [if_neg h0,if_neg h0]
  simp only [f_done h (by omega) hq]
theorem fw_done {l:List Rz} (h:Whole l) {i q:Nat} (hq:q < l.length):fw l i (km l i) q=fw l (i+1) 0 q:=by
 unfold fw
 by_cases h0:q=0
 ·rw [if_pos h0,if_pos h0]
 ·rw [if_neg h0,if_neg h0]
  simp only [f_done h (by omega) hq]
def upv (l:List Rz) (p:Nat):Int:=if p=0 then -1 else (up l p:Int)
theorem fu_all {l:List Rz} (h:Whole l) {q:Nat} (hq:q < l.length):fu l l.length 0 q=upv l q:=by
 unfold fu upv
 by_cases h0:q=0
 ·rw [if_pos h0,if_pos h0]
 ·have:=(up_at h (by omega) hq).2.2.1
  rw [if_neg h0,if_neg h0,if_pos (Or.inl (by omega))]
theorem fw_all {l:List Rz} (h:Whole l) {q:Nat} (hq:q < l.length):fw l l.length 0 q=(wh l q:Int):=by
 unfold fw
 by_cases h0:q=0
 ·rw [if_pos h0,h0];rfl
 ·have:=(up_at h (by omega) hq).2.2.1
  rw [if_neg h0,if_pos (Or.inl (by omega))]
structure Par3 (w0:World) (l:List Rz) (ge i k:Nat) (wr:World):Prop where
 u:RowI wr w0.heap.size l.length (fu l i k)
 v:RowI wr (w0.heap.size+1) l.length (fw l i k)
 e:RowI wr ge l.length (fun i=>(endp l i:Int))
 b:Below w0.heap.size w0 wr
theorem parents_any (ao:Option Addr) (l:List Rz) (cap:Nat) (w:World) (h:IsRz w ao l) (hn:l.length<=2932031007317) (hT:TreeZ l) (h0:0 < l.length):
  Calls Tryz.prog 144 #[.slice ao l.length cap] w fun e w'=>e=.returned (.tuple #[.slice (p0 w.heap.size) l.length l.length,.slice (p0 (w.heap.size+1)) l.length l.length]) /\
   RowI w' w.heap.size l.length (upv l)/\RowI w' (w.heap.size+1) l.length (fun p=>(wh l p:Int))/\Below w.heap.size w w':=by
 obtain ⟨M,hmk,hM⟩:=mk_ints l.length hn
 have hb1:Below w.heap.size w (w.alloc (.cells M 3)):=bAl w _
 have hb2:Below w.heap.size w ((w.alloc (.cells M 3)).alloc (.cells M 3)):=hb1.alloc hb1.size _
 have HE:=show Hid (Calls Tryz.prog 95 #[.slice ao l.length cap] ((w.alloc (.cells M 3)).alloc (.cells M 3)) fun e w'=>∃ g,e=.returned (.slice (p0 g) l.length l.length)/\((w.alloc (.cells M 3)).alloc (.cells M 3)).heap.size<=g/\RowI w' g l.length (fun i=>(endp l i:Int))/\Below ((w.alloc (.cells M 3)).alloc (.cells M 3)).heap.size ((w.alloc (.cells M 3)).alloc (.cells M 3)) w') from
  ends_any ao l cap _ (h.below hb2) hn hT
 have HU:Hid (RowI ((w.alloc (.cells M 3)).alloc (.cells M 3)) w.heap.size l.length (fun _=>0)):=(hM w).of_block (Below.heap_alloc _ _ _ (by simp))
 have HV:Hid (RowI ((w.alloc (.cells M 3)).alloc (.cells M 3)) (w.heap.size+1) l.length (fun _=>0)):=by
  have:=hM (w.alloc (.cells M 3))
  rw [World.size_alloc] at this
  exact this
 have HB2:Hid (Below w.heap.size w ((w.alloc (.cells M 3)).alloc (.cells M 3))):=hb2
 have hz2:((w.alloc (.cells M 3)).alloc (.cells M 3)).heap.size=w.heap.size+2:=by simp
 have HZ2:Hid (((w.alloc (.cells M 3)).alloc (.cells M 3)).heap.size=w.heap.size+2):=hz2
 have HI:Hid (IsRz w ao l):=h
 have HN:Hid (l.length<=2932031007317):=hn
 have HT:Hid (TreeZ l):=hT
 have hln:(l.length:Int)<=2932031007317:=by omega
 have h0':(0:Int) < (l.length:Int):=by omega
 clear h hn hT hM hb1 hb2 hz2
 go_enter Tryz.func144,Tryz.ntmps144
 go_wp2_with fail
 refine HE.out.mono ?_
 rintro e w3 ⟨ge,rfl,hge,hRe,hB3⟩
 rw [HZ2.out] at hge hB3
 have hU3:=HU.out.below hB3 (by omega)
 have hV3:=HV.out.below hB3 (by omega)
 have hc:=hU3.cell h0
 have hf:=hU3.frozen 0
 have hP0:Par3 w l ge 0 0 (w3.setCell ⟨w.heap.size,0,none⟩ (I (-1))):=by
  refine ⟨(hU3.set 0 (-1)).ext fun i _=>?_,(hV3.other (by simp) _).ext fun i _=>?_,hRe.other (by show ge ≠ w.heap.size;omega) _,(HB2.out.trans (hB3.mono (by omega))).setCell (p:=⟨w.heap.size,0,none⟩) (Nat.le_refl _) _⟩
  ·unfold fu
   by_cases e:i=0
   ·rw [if_pos e,if_pos e]
   ·rw [if_neg e,if_neg e,if_neg (by omega)]
  ·unfold fw
   by_cases e:i=0
   ·rw [if_pos e]
   ·rw [if_neg e,if_neg (by omega)]
 have HP0:Hid (Par3 w l ge 0 0 (w3.setCell ⟨w.heap.size,0,none⟩ (I (-1)))):=hP0
 have HGe:Hid (w.heap.size+2<=ge):=hge
 clear hRe hB3 hU3 hV3 hP0 hge hmk
 go_wp2_with fail
 go_loopg [7] l.length (fun gq x wr=>∃ i:Nat,i<=l.length/\gq=l.length - i/\x=I i/\Par3 w l ge i 0 wr)
 case atStart=>exact ⟨0,Nat.zero_le _,rfl,rfl,HP0.out⟩
 case round=>
  obtain ⟨i,hi,hgk,rfl,hP⟩:=hrel
  have HG:Hid (gk=l.length - i):=hgk
  have HP:Hid (Par3 w l ge i 0 wr):=hP
  clear hgk hP hc hf
  by_cases hlt:i < l.length
  ·have hlt':(i:Int) < (l.length:Int):=by omega
   have HKm:Hid (km l i<=l.length):=km_le HT.out.whole hlt
   have hkm:(km l i:Int)<=2932031007317:=by have h1:=HKm.out;have h2:=HN.out;omega
   go_wp2_with fail
   go_loopg [8,9] (km l i) (fun gq nx kk wr=>∃ k:Nat,k<=km l i/\gq=km l i - k/\nx=I (kidp l i k:Int)/\kk=I k/\Par3 w l ge i k wr)
   case atStart=>exact ⟨0,Nat.zero_le _,rfl,by rw [kid_zero];go_num,rfl,HP.out⟩
   case round=>
    obtain ⟨k,hk,hgk,rfl,rfl,hP⟩:=hrel
    have HG2:Hid (gk=km l i - k):=hgk
    have HP2:Hid (Par3 w l ge i k wr):=hP
    clear hgk hP
    have hkl:(kidp l i k:Int)<=2932031007317:=by have h1:=kid_le HT.out.whole hlt hk;have h2:=HN.out;omega
    obtain ⟨g,o,rfl,hg,c0,c4⟩:=kids_at (HI.out.below HP2.out.b) HT.out hlt
    by_cases hlk:k < km l i
    ·obtain ⟨h1,h2,h3⟩:=kid_at HT.out.whole hlt hlk
     have hlk':(k:Int) < (km l i:Int):=by omega
     have h1':(kidp l i k:Int) < (l.length:Int):=by omega
     have hr1:=HP2.out.u.set (kidp l i k) i
     have hr2:=HP2.out.v.other (a:=⟨w.heap.size,kidp l i k,none⟩) (by simp) (I i)
     have hr3:=HP2.out.e.other (a:=⟨w.heap.size,kidp l i k,none⟩) (by show ge ≠ w.heap.size;have:=HGe.out;omega) (I i)
     have hs1:=hr1.other (a:=⟨w.heap.size+1,kidp l i k,none⟩) (by simp) (I k)
     have hs2:=hr2.set (kidp l i k) k
     have hs3:=hr3.other (a:=⟨w.heap.size+1,kidp l i k,none⟩) (by show ge ≠ w.heap.size+1;have:=HGe.out;omega) (I k)
     have a1:=HP2.out.u.cell h1
     have a2:=HP2.out.u.frozen (kidp l i k)
     have a3:=hr2.cell h1
     have a4:=hr2.frozen (kidp l i k)
     have a5:=hs3.cell h1
     have HP3:Hid (Par3 w l ge i (k+1) ((wr.setCell ⟨w.heap.size,kidp l i k,none⟩ (I i)).setCell ⟨w.heap.size+1,kidp l i k,none⟩ (I k))):=
      ⟨hs1.ext fun q hq=>fu_step HT.out.whole hlt hlk q hq,hs2.ext fun q hq=>fw_step HT.out.whole hlt hlk q hq,hs3,(HP2.out.b.setCell (p:=⟨w.heap.size,kidp l i k,none⟩) (Nat.le_refl _) _).setCell (p:=⟨w.heap.size+1,kidp l i k,none⟩) (Nat.le_succ _) _⟩
     have HN2:Hid (kidp l i (k+1)=endp l (kidp l i k)):=h2
     have hge1:ge < wr.heap.size:=HP2.out.e.lt
     clear hr1 hr2 hr3 hs1 hs2 hs3 h1 h2 h3 hlk hk
     generalize fu l i k (kidp l i k)=y1 at a1
     generalize fw l i k (kidp l i k)=y2 at a3
     go_wp2_with fail
     go_roundg (km l i - (k+1))
     case measure=>have h1:=HG2.out;omega
     case rel=>exact ⟨k+1,by omega,rfl,by rw [HN2.out],by go_num,HP3.out⟩
    ·have hlk':¬ ((k:Int) < (km l i:Int)):=by omega
     have hke:k=km l i:=by omega
     have HP3:Hid (Par3 w l ge (i+1) 0 wr):=by
      obtain ⟨q1,q2,q3,q4⟩:=HP2.out
      rw [hke] at q1 q2
      exact ⟨q1.ext fun q hq=>fu_done HT.out.whole hq,q2.ext fun q hq=>fw_done HT.out.whole hq,q3,q4⟩
     clear hke hlk hk
     go_wp2_with fail
     go_roundg (l.length - (i+1))
     case measure=>have h1:=HG.out;omega
     case rel=>exact ⟨i+1,by omega,rfl,by go_num,HP3.out⟩
  ·have hlt':¬ ((i:Int) < (l.length:Int)):=by omega
   have hie:i=l.length:=by omega
   have HF:Hid (Par3 w l ge l.length 0 wr):=by rw [hie] at HP;exact HP
   clear hie hlt
   go_wp2_with fail
   go_ret2
   exact ⟨rfl,HF.out.u.ext fun q hq=>fu_all HT.out.whole hq,HF.out.v.ext fun q hq=>fw_all HT.out.whole hq,HF.out.b⟩
theorem isExpr_any (k:Int) (w:World):Calls Tryz.prog 160 #[I k] w fun e w'=>e=.returned (.bool (decide (27<=k/\k<=54)))/\w'=w:=by
 by_cases h1:27<=k
 ·go_enter Tryz.func160,Tryz.ntmps160
  go_wp2
  all_goals go_ret
  all_goals exact ⟨by simp [h1],rfl⟩
 ·go_enter Tryz.func160,Tryz.ntmps160
  go_wp2
  all_goals go_ret
  all_goals exact ⟨by simp;omega,rfl⟩
theorem rank_any (k:Int) (w:World):Calls Tryz.prog 154 #[I k] w fun e w'=>e=.returned (I (rank k:Nat))/\w'=w:=by
 have HE:Hid (∀ w,Calls Tryz.prog 160 #[I k] w fun e w'=>e=.returned (.bool (decide (27<=k/\k<=54)))/\w'=w):=fun w=>isExpr_any k w
 go_enter Tryz.func154,Tryz.ntmps154
 go_wp2_with (go_at_call 160;refine (HE.out _).mono ?_;rintro e w' ⟨rfl,rfl⟩)
 all_goals go_ret
 all_goals refine ⟨?_,rfl⟩
 all_goals simp only [beq_iff_eq,beq_eq_false_iff_ne,ne_eq] at *
 all_goals unfold rank
 all_goals repeat' split
 all_goals first
  | rfl
  | (exfalso;omega)
theorem refLoose_any (p k d:Int) (w:World):Calls Tryz.prog 145 #[I p,I k,I d] w fun e w'=>e=.returned (.bool (loose p k d))/\w'=w:=by
 rw [<-loose_same]
 have HL:Hid (refLoose p k d=if rank p=0\/rank d=0\/rank p=7 then false else if rank p=6 then decide (rank d < 6) else (decide (rank d < rank p) || (rank d == rank p && (k == 1 || rank p == 3)))):=rfl
 have H1:Hid (∀ w,Calls Tryz.prog 154 #[I p] w fun e w'=>e=.returned (I (rank p:Nat))/\w'=w):=fun w=>rank_any p w
 have H2:Hid (∀ w,Calls Tryz.prog 154 #[I d] w fun e w'=>e=.returned (I (rank d:Nat))/\w'=w):=fun w=>rank_any d w
 generalize refLoose p k d=res at *
 generalize rank p=a at *
 generalize rank d=b at *
 by_cases hz:a=0\/b=0\/a=7
 ·have HRes:Hid (res=false):=by show _=_;rw [HL.out,if_pos hz]
  clear HL
  by_cases ha:a=0
  ·have q1:((a:Int) == 0)=true:=by simp;omega
   have HQ:=hdn <| And.intro hz (ha)
   clear hz ha
   go_enter Tryz.func145,Tryz.ntmps145
   go_wp2_with fail
   refine (H1.out _).mono ?_
   rintro e w' ⟨rfl,rfl⟩
   go_wp2_with fail
   refine (H2.out _).mono ?_
   rintro e w' ⟨rfl,rfl⟩
   go_wp2
   all_goals go_ret
   all_goals refine ⟨?_,rfl⟩
   all_goals rw [HRes.out]
   all_goals first
    | rfl
    | (have hq:=HQ.out;simp at *;omega)
  ·have q1:((a:Int) == 0)=false:=by simp;omega
   by_cases hb:b=0
   rotate_right
   focus
    have q2:((b:Int) == 0)=false:=by simp;omega
    have q3:((a:Int) == 7)=true:=by simp;omega
   rotate_right
   focus
    have q2:((b:Int) == 0)=true:=by simp;omega
   all_goals
    have HQ:=hdn <| And.intro hz (And.intro ha (hb))
    clear hz ha hb
    go_enter Tryz.func145,Tryz.ntmps145
    go_wp2_with fail
    refine (H1.out _).mono ?_
    rintro e w' ⟨rfl,rfl⟩
    go_wp2_with fail
    refine (H2.out _).mono ?_
    rintro e w' ⟨rfl,rfl⟩
    go_wp2
    all_goals go_ret
    all_goals refine ⟨?_,rfl⟩
    all_goals rw [HRes.out]
    all_goals first
     | rfl
     | (have hq:=HQ.out;simp at *;omega)
 ·have q1:((a:Int) == 0)=false:=by simp;omega
  have q2:((b:Int) == 0)=false:=by simp;omega
  have q3:((a:Int) == 7)=false:=by simp;omega
  by_cases h6:a=6
  ·have q4:((a:Int) == 6)=true:=by simp;omega
   have HRes:Hid (res=decide ((b:Int) < 6)):=by show _=_;rw [HL.out,if_neg hz,if_pos h6,decide_eq_decide];omega
   have HQ:=hdn <| And.intro hz (h6)
   clear hz h6 HL
   go_enter Tryz.func145,Tryz.ntmps145
   go_wp2_with fail
   refine (H1.out _).mono ?_
   rintro e w' ⟨rfl,rfl⟩
   go_wp2_with fail
   refine (H2.out _).mono ?_
   rintro e w' ⟨rfl,rfl⟩
   go_wp2
   all_goals go_ret
   all_goals refine ⟨?_,rfl⟩
   all_goals rw [HRes.out]
   all_goals first
    | rfl
    | (have hq:=HQ.out;simp at *;omega)
  ·have q4:((a:Int) == 6)=false:=by simp;omega
   have HR0:Hid (res=(decide (b < a) || (b == a && (k == 1 || a == 3)))):=by show _=_;rw [HL.out,if_neg hz,if_neg h6]
   clear hz h6 HL
   by_cases hlt:b < a
   ·have q5:decide ((b:Int) < (a:Int))=true:=by simp;omega
    have HRes:Hid (res=true):=by show _=_;rw [HR0.out];simp [hlt]
    have HQ:=hdn <| hlt
    clear hlt HR0
    go_enter Tryz.func145,Tryz.ntmps145
    go_wp2_with fail
    refine (H1.out _).mono ?_
    rintro e w' ⟨rfl,rfl⟩
    go_wp2_with fail
    refine (H2.out _).mono ?_
    rintro e w' ⟨rfl,rfl⟩
    go_wp2
    all_goals go_ret
    all_goals refine ⟨?_,rfl⟩
    all_goals rw [HRes.out]
    all_goals first
     | rfl
     | (have hq:=HQ.out;simp at *;omega)
   ·have q5:decide ((b:Int) < (a:Int))=false:=by simp;omega
    by_cases hab:b=a
    ·have q6:((b:Int) == (a:Int))=true:=by simp;omega
     by_cases hk:k=1
     ·have q7:(k == 1)=true:=by simp [hk]
      have HRes:Hid (res=true):=by show _=_;rw [HR0.out];simp [hab,hk]
      have HQ:=hdn <| And.intro hlt (And.intro hab (hk))
      clear hlt HR0 hab hk
      go_enter Tryz.func145,Tryz.ntmps145
      go_wp2_with fail
      refine (H1.out _).mono ?_
      rintro e w' ⟨rfl,rfl⟩
      go_wp2_with fail
      refine (H2.out _).mono ?_
      rintro e w' ⟨rfl,rfl⟩
      go_wp2
      all_goals go_ret
      all_goals refine ⟨?_,rfl⟩
      all_goals rw [HRes.out]
      all_goals first
       | rfl
       | (have hq:=HQ.out;simp at *;omega)
     ·have q7:(k == 1)=false:=by simp [hk]
      by_cases h3:a=3
      rotate_right
      focus
       have q8:((a:Int) == 3)=false:=by simp;omega
       have HRes:Hid (res=false):=by show _=_;rw [HR0.out];simp [hab,hk,h3]
      rotate_right
      focus
       have q8:((a:Int) == 3)=true:=by simp;omega
       have HRes:Hid (res=true):=by show _=_;rw [HR0.out];simp [hab,h3]
      all_goals
       have HQ:=hdn <| And.intro hlt (And.intro hab (And.intro hk (h3)))
       clear hlt HR0 hab hk h3
       go_enter Tryz.func145,Tryz.ntmps145
       go_wp2_with fail
       refine (H1.out _).mono ?_
       rintro e w' ⟨rfl,rfl⟩
       go_wp2_with fail
       refine (H2.out _).mono ?_
       rintro e w' ⟨rfl,rfl⟩
       go_wp2
       all_goals go_ret
       all_goals refine ⟨?_,rfl⟩
       all_goals rw [HRes.out]
       all_goals first
        | rfl
        | (have hq:=HQ.out;simp at *;omega)
    ·have q6:((b:Int) == (a:Int))=false:=by simp;omega
     have HRes:Hid (res=false):=by show _=_;rw [HR0.out];simp [hab,hlt]
     have HQ:=hdn <| And.intro hlt (hab)
     clear hlt HR0 hab
     go_enter Tryz.func145,Tryz.ntmps145
     go_wp2_with fail
     refine (H1.out _).mono ?_
     rintro e w' ⟨rfl,rfl⟩
     go_wp2_with fail
     refine (H2.out _).mono ?_
     rintro e w' ⟨rfl,rfl⟩
     go_wp2
     all_goals go_ret
     all_goals refine ⟨?_,rfl⟩
     all_goals rw [HRes.out]
     all_goals first
      | rfl
      | (have hq:=HQ.out;simp at *;omega)
theorem fits_all (l:List Rz) (k:Nat):Fits l k:=by
 induction k with
 | zero=>exact fits_zero l
 | succ k ih=>exact fits_succ l ih
def lev0 (l:List Rz) (i:Nat):Int:=if i=0 then 0 else lev opn loose l (up l i)+if loose (rat l (up l i)).kind (wh l i) (rat l i).kind then 1 else 0
theorem lev_parts {l:List Rz} (h:Whole l) {i:Nat} (hi:i < l.length):lev opn loose l i=lev0 l i+opn (rat l i).kind:=by
 unfold lev0
 by_cases h0:i=0
 ·subst h0
  rw [if_pos rfl,lev_zero]
  have:loose 0 0 (rat l 0).kind=false:=by unfold loose;rw [if_pos (by decide)]
  rw [this]
  simp
 ·rw [if_neg h0,lev_up opn loose h (by omega) hi]
  omega
structure Lev3 (w0:World) (l:List Rz) (go i:Nat) (wr:World):Prop where
 u:RowI wr w0.heap.size l.length (upv l)
 v:RowI wr (w0.heap.size+1) l.length (fun p=>(wh l p:Int))
 d:RowI wr go l.length (fun p=>if p < i then lev opn loose l p else 0)
 b:Below w0.heap.size w0 wr
theorem Lev3.below {w0:World} {l:List Rz} {go i:Nat} {wr wx:World} (h:Lev3 w0 l go i wr) (hb:Below wr.heap.size wr wx):Lev3 w0 l go i wx:=
 ⟨h.u.below hb h.u.lt,h.v.below hb h.v.lt,h.d.below hb h.d.lt,h.b.trans (hb.mono h.b.size)⟩
theorem refLevels_any (ao:Option Addr) (l:List Rz) (cap:Nat) (w:World) (h:IsRz w ao l) (hn:l.length<=2932031007317) (hT:TreeZ l) (h0:0 < l.length):
  Calls Tryz.prog 126 #[.slice ao l.length cap] w fun e w'=>e=.returned (I (mx opn loose l l.length))/\Below w.heap.size w w':=by
 obtain ⟨M,hmk,hM⟩:=mk_ints l.length hn
 have HM:Hid (∀ u:World,RowI (u.alloc (.cells M 3)) u.heap.size l.length (fun _=>0)):=hM
 have HN:Hid (l.length<=2932031007317):=hn
 have HT:Hid (TreeZ l):=hT
 have HI:Hid (IsRz w ao l):=h
 have HP:=show Hid (Calls Tryz.prog 144 #[.slice ao l.length cap] w fun e w'=>e=.returned (.tuple #[.slice (p0 w.heap.size) l.length l.length,.slice (p0 (w.heap.size+1)) l.length l.length]) /\
   RowI w' w.heap.size l.length (upv l)/\RowI w' (w.heap.size+1) l.length (fun p=>(wh l p:Int))/\Below w.heap.size w w') from parents_any ao l cap w h hn hT h0
 have hln:(l.length:Int)<=2932031007317:=by omega
 clear h hn hT hM
 go_enter Tryz.func126,Tryz.ntmps126
 go_wp2_with fail
 refine HP.out.mono ?_
 rintro e w1 ⟨rfl,hU,hV,hB⟩
 have hD:Lev3 w l w1.heap.size 0 (w1.alloc (.cells M 3)):=
  ⟨hU.of_block (Below.heap_alloc _ _ _ hU.lt),hV.of_block (Below.heap_alloc _ _ _ hV.lt),(HM.out w1).ext fun i _=>by rw [if_neg (by omega)],hB.alloc hB.size _⟩
 have HD:Hid (Lev3 w l w1.heap.size 0 (w1.alloc (.cells M 3))):=hD
 have HB1:Hid (w.heap.size+1 < w1.heap.size):=hV.lt
 clear hU hV hB hD
 go_wp2_with fail
 generalize w1.heap.size=gd at *
 go_loopg [6,7] l.length (fun gq mo x wr=>∃ i:Nat,i<=l.length/\gq=l.length - i/\mo=I (mx opn loose l i)/\x=I i/\Lev3 w l gd i wr)
 case atStart=>exact ⟨0,Nat.zero_le _,rfl,rfl,rfl,HD.out⟩
 case round=>
  obtain ⟨i,hi,hgk,rfl,rfl,hP⟩:=hrel
  have HG:Hid (gk=l.length - i):=hgk
  have HP2:Hid (Lev3 w l gd i wr):=hP
  clear hgk hP hmk
  by_cases hlt:i < l.length
  ·have hlt':(i:Int) < (l.length:Int):=by omega
   have HL:Hid (lev opn loose l i=lev0 l i+opn (rat l i).kind/\0<=lev opn loose l i/\lev opn loose l i<=2 * i+2):=⟨lev_parts HT.out.whole hlt,lev_le (fits_all l i)⟩
   have a1:=HP2.out.u.cell hlt
   obtain ⟨g,o,rfl,hg,c0,_⟩:=kids_at (HI.out.below HP2.out.b) HT.out hlt
   go_upto_if 27 with fail
   go_cut [8] (fun c wx=>c=I (lev0 l i)/\Below wr.heap.size wr wx)
   case first=>
    by_cases hi0:i=0
    ·subst hi0
     unfold upv at a1
     rw [if_pos rfl] at a1
     go_wp2_with fail
     go_meet
     exact ⟨rfl,Below.refl _ _⟩
    ·have hq:(0:Int)<=upv l i:=by unfold upv;rw [if_neg hi0];omega
     unfold upv at a1
     rw [if_neg hi0] at a1
     have hup:=(up_at HT.out.whole (Nat.pos_of_ne_zero hi0) hlt).2.2.1
     have hul:up l i < l.length:=by omega
     have hul':(up l i:Int) < (l.length:Int):=by omega
     have hu0:(0:Int)<=(up l i:Int):=by omega
     have a2:=HP2.out.d.cell hul
     rw [if_pos hup] at a2
     have a3:=HP2.out.v.cell hlt
     obtain ⟨g',o',he,_,c1,_⟩:=kids_at (HI.out.below HP2.out.b) HT.out hul
     cases he
     have y1:∀ y:Kin wr,y.u.cell? ⟨w.heap.size,i,none⟩=some (I (up l i:Int)):=fun y=>y.cell (a:=⟨w.heap.size,i,none⟩) HP2.out.u.lt a1
     have y2:∀ y:Kin wr,y.u.cell? ⟨g,o+up l i * 5,none⟩=some (I (rat l (up l i)).kind):=fun y=>y.cell (a:=⟨g,o+up l i * 5,none⟩) hg c1
     have y3:∀ y:Kin wr,y.u.cell? ⟨w.heap.size+1,i,none⟩=some (I (wh l i:Int)):=fun y=>y.cell (a:=⟨w.heap.size+1,i,none⟩) HP2.out.v.lt a3
     have y4:∀ y:Kin wr,y.u.cell? ⟨g,o+i * 5,none⟩=some (I (rat l i).kind):=fun y=>y.cell (a:=⟨g,o+i * 5,none⟩) hg c0
     have hne:Nonempty (Kin wr):=Kin.there _
     have HLo:Hid (∀ w,Calls Tryz.prog 145 #[I (rat l (up l i)).kind,I (wh l i:Int),I (rat l i).kind] w fun e w'=>e=.returned (.bool (loose (rat l (up l i)).kind (wh l i) (rat l i).kind))/\w'=w):=fun w=>refLoose_any _ _ _ w
     have HL0:Hid (lev0 l i=lev opn loose l (up l i)+if loose (rat l (up l i)).kind (wh l i) (rat l i).kind then 1 else 0):=by show _=_;unfold lev0;rw [if_neg hi0]
     have hlu:0<=lev opn loose l (up l i)/\lev opn loose l (up l i)<=5864062014640:=by have h1:=lev_le (fits_all l (up l i));have h2:=HN.out;omega
     clear hup hul hi0 c0 c1
     generalize loose (rat l (up l i)).kind (wh l i) (rat l i).kind=lb at *
     generalize lev opn loose l (up l i)=lu at *
     generalize (rat l (up l i)).kind=ku at *
     generalize (rat l i).kind=ki at *
     go_wp2_with fail
     refine wp_region_kin (by kernel_rfl) (by kernel_rfl) ?_
     iterate 17 quiet_step (fail)
     iterate 1 quiet_step (exact kin_same (HLo.out _))
     refine wpQuiet_nil ?_
     rintro _ ⟨z,rfl⟩
     have HZ:Hid (Below wr.heap.size wr z.u):=z.ok
     generalize z.u=wz at *
     clear y1 y2 y3 y4 hne a1 a2 a3
     cases lb
     all_goals go_wp2_with fail
     all_goals go_meet
     all_goals exact ⟨by rw [HL0.out];simp,HZ.out⟩
   case rest=>
    obtain ⟨rfl,hBc⟩:=hcut
    have HP3:Hid (Lev3 w l gd i wc):=HP2.out.below hBc
    have d0:wc.cell? ⟨g,o+i * 5,none⟩=some (I (rat l i).kind):=(hBc.cell (p:=⟨g,o+i * 5,none⟩) hg).trans c0
    have hb0:0<=lev0 l i/\lev0 l i<=5864062014640:=by
     have h1:=HL.out
     have h2:=opn_two (rat l i).kind
     have h3:=HN.out
     have h4:0<=lev0 l i:=by
      unfold lev0
      split
      ·exact Int.le_refl _
      ·have h5:=lev_le (fits_all l (up l i));split<;>omega
     omega
    have HKo:Hid (opn (rat l i).kind=if (rat l i).kind=1\/(rat l i).kind=11\/(rat l i).kind=26\/(rat l i).kind=38\/(rat l i).kind=39\/(rat l i).kind=40\/(rat l i).kind=41\/(rat l i).kind=42\/(rat l i).kind=31\/(rat l i).kind=32\/(rat l i).kind=35\/(rat l i).kind=36\/(rat l i).kind=37 then 1 else 0):=rfl
    clear hBc a1 c0
    generalize (rat l i).kind=ki at *
    generalize opn ki=ok at *
    generalize lev0 l i=l0 at *
    go_upto_block 2 with fail
    go_cut [8] (fun c wx=>c=I (lev opn loose l i)/\wx=wc)
    case first=>
     go_wp2_with fail
     all_goals go_meet
     all_goals refine ⟨?_,rfl⟩
     all_goals rw [HL.out.1,HKo.out]
     all_goals simp only [beq_iff_eq,beq_eq_false_iff_ne,ne_eq] at *
     all_goals simp [*]
    case rest=>
     obtain ⟨rfl,hw⟩:=hcut
     subst hw
     have HL2:Hid (0<=lev opn loose l i/\lev opn loose l i<=2 * i+2):=HL.out.2
     have HM2:Hid (mx opn loose l (i+1)=if mx opn loose l i < lev opn loose l i then lev opn loose l i else mx opn loose l i):=rfl
     have HS:Hid (Lev3 w l gd (i+1) (wc.setCell ⟨gd,i,none⟩ (I (lev opn loose l i)))):=by
      refine ⟨HP3.out.u.other (by show w.heap.size ≠ gd;have:=HB1.out;omega) _,HP3.out.v.other (by show w.heap.size+1 ≠ gd;have:=HB1.out;omega) _,(HP3.out.d.set i _).ext fun q hq=>?_,HP3.out.b.setCell (p:=⟨gd,i,none⟩) (by have:=HB1.out;show w.heap.size<=gd;omega) _⟩
      by_cases e:q=i
      ·subst e
       rw [if_pos rfl,if_pos (by omega)]
      ·rw [if_neg e]
       by_cases e2:q < i
       ·rw [if_pos e2,if_pos (by omega)]
       ·rw [if_neg e2,if_neg (by omega)]
     have a3:=HP3.out.d.cell hlt
     have a4:=HP3.out.d.frozen i
     generalize (if i < i then lev opn loose l i else 0)=y at a3
     clear HL HKo hb0 d0
     generalize lev opn loose l i=lv at *
     generalize mx opn loose l i=mo at *
     clear hlt
     by_cases hm:mo < lv
     ·rw [if_pos hm] at HM2
      go_wp2_with fail
      go_roundg (l.length - (i+1))
      case measure=>have h1:=HG.out;omega
      case rel=>exact ⟨i+1,by omega,rfl,by rw [HM2.out],by go_num,HS.out⟩
     ·rw [if_neg hm] at HM2
      go_wp2_with fail
      go_roundg (l.length - (i+1))
      case measure=>have h1:=HG.out;omega
      case rel=>exact ⟨i+1,by omega,rfl,by rw [HM2.out],by go_num,HS.out⟩
  ·have hlt':¬ ((i:Int) < (l.length:Int)):=by omega
   have hie:i=l.length:=by omega
   have HB9:Hid (Below w.heap.size w wr):=HP2.out.b
   clear hlt
   subst hie
   go_wp2_with fail
   go_ret
   exact ⟨rfl,HB9.out⟩
end Go.Proofs.YtbledbjcghaanaaGreat.Gr
