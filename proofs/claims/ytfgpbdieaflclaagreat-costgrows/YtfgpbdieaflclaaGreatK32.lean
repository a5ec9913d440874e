import Derived.Test.YtfgpbdieaflclaaGreatK19
namespace Go.Proofs.YtfgpbdieaflclaaGreat.Nm
open Gr
def LeL:List Nat->List Nat->Prop
 | [],[]=>True
 | x :: a,y :: b=>x<=y/\LeL a b
 | _,_=>False
theorem LeL.refl:∀ a:List Nat,LeL a a
 | []=>trivial
 | _ :: a=>⟨Nat.le_refl _,LeL.refl a⟩
theorem LeL.len:∀ {a b:List Nat},LeL a b->a.length=b.length
 | [],[],_=>rfl
 | _ :: _,_ :: _,h=>congrArg (· + 1) h.2.len
 | [],_ :: _,h=>h.elim
 | _ :: _,[],h=>h.elim
theorem LeL.sum:∀ {a b:List Nat},LeL a b->tsum (zi a)<=tsum (zi b)
 | [],[],_=>Nat.le_refl _
 | _ :: _,_ :: _,h=>by have h1:=h.2.sum;have h2:=h.1;simp only [zi,List.map_cons,tsum] at h1 ⊢;omega
 | [],_ :: _,h=>h.elim
 | _ :: _,[],h=>h.elim
theorem LeL.mx:∀ {a b:List Nat},LeL a b->mxL a<=mxL b
 | [],[],_=>Nat.le_refl _
 | _ :: _,_ :: _,h=>by have:=h.2.mx;have:=h.1;simp only [mxL];omega
 | [],_ :: _,h=>h.elim
 | _ :: _,[],h=>h.elim
theorem LeL.get:∀ {a b:List Nat} (_:LeL a b) (i:Nat),a.getD i 0<=b.getD i 0
 | [],[],_,_=>Nat.le_refl _
 | _ :: _,_ :: _,h,0=>h.1
 | _ :: _,_ :: _,h,i+1=>by simpa using h.2.get i
 | [],_ :: _,h,_=>h.elim
 | _ :: _,[],h,_=>h.elim
theorem LeL.drop:∀ {a b:List Nat} (_:LeL a b) (i:Nat),LeL (a.drop i) (b.drop i)
 | [],[],_,i=>by simp [LeL]
 | _ :: _,_ :: _,h,0=>h
 | _ :: _,_ :: _,h,i+1=>by simpa using h.2.drop i
 | [],_ :: _,h,_=>h.elim
 | _ :: _,[],h,_=>h.elim
theorem LeL.app:∀ {a b c d:List Nat},LeL a b->LeL c d->LeL (a++c) (b++d)
 | [],[],_,_,_,h=>h
 | _ :: _,_ :: _,_,_,h,k=>⟨h.1,h.2.app k⟩
 | [],_ :: _,_,_,h,_=>h.elim
 | _ :: _,[],_,_,h,_=>h.elim
theorem LeL.set:∀ {a b:List Nat} (_:LeL a b) (i:Nat) {x y:Nat},x<=y->LeL (a.set i x) (b.set i y)
 | [],[],_,_,_,_,_=>by simp [LeL]
 | _ :: _,_ :: _,h,0,_,_,k=>⟨k,h.2⟩
 | _ :: _,_ :: _,h,i+1,_,_,k=>⟨h.1,h.2.set i k⟩
 | [],_ :: _,h,_,_,_,_=>h.elim
 | _ :: _,[],h,_,_,_,_=>h.elim
theorem LeL.map {f g:Nat->Nat} : ∀ (ks:List Nat),(∀ k ∈ ks,f k<=g k)->LeL (ks.map f) (ks.map g)
 | [],_=>trivial
 | k :: ks,h=>⟨h k (by simp),LeL.map ks fun j hj=>h j (by simp [hj])⟩
theorem capS_mono {a b:Nat} (h:a<=b):capS a<=capS b:=by unfold capS;omega
theorem sumC2 (a:Nat):sumL [1,(a:Int)]=capS (1+a):=by simp [sumL,tsum]
theorem sumC3 (a b:Nat):sumL [1,(a:Int),(b:Int)]=capS (1+(a+b)):=by simp [sumL,tsum]
theorem timC2 (n:Int) (b:Nat):timL [n,(b:Int)]=capS (n.toNat * b):=by simp [timL,tprod]
theorem overN_mono {l:List Rz} {rd rd':List Int} {rs rs':List Nat} {ks ks':List Nat} (i:Nat) (hr:(rd.getD i 0).toNat<=(rd'.getD i 0).toNat) (hs:∀ j,rs.getD j 0<=rs'.getD j 0) (hk:LeL ks ks'):overN l rd rs i ks<=overN l rd' rs' i ks':=by
 unfold overN
 have e0:=hk.get 0
 have e1:=(hk.drop 1).mx
 have e2:=capS_mono (hk.drop 1).sum
 have e3:=capS_mono hk.sum
 have e4:=hs (rat l i).n.toNat
 by_cases h12:(rat l i).kind=12
 ·rw [if_pos h12,if_pos h12,sumC3,sumC3]
  exact capS_mono (by omega)
 rw [if_neg h12,if_neg h12]
 by_cases h13:(rat l i).kind=13
 ·rw [if_pos h13,if_pos h13,timC2,timC2,sumC2,sumC2]
  have:=capS_mono (Nat.mul_le_mul hr (show sumL (zi (ks.drop 1))<=sumL (zi (ks'.drop 1)) from e2))
  exact capS_mono (by omega)
 rw [if_neg h13,if_neg h13]
 by_cases h22:(rat l i).kind=22
 ·rw [if_pos h22,if_pos h22,sumC2,sumC2]
  exact capS_mono (by omega)
 rw [if_neg h22,if_neg h22]
 by_cases h24:(rat l i).kind=24
 ·rw [if_pos h24,if_pos h24]
  exact Nat.le_refl _
 rw [if_neg h24,if_neg h24,sumC2,sumC2]
 have:sumL (zi ks)<=sumL (zi ks'):=e3
 exact capS_mono (by omega)
theorem bndF_mono {l:List Rz} {rd rd':List Int} {rs rs':List Nat} (hr:∀ i,(rd.getD i 0).toNat<=(rd'.getD i 0).toNat) (hs:∀ j,rs.getD j 0<=rs'.getD j 0):∀ f i,bndF l rd rs f i<=bndF l rd' rs' f i
 | 0,_=>Nat.le_refl _
 | f+1,i=>overN_mono i (hr i) hs (LeL.map _ fun _ _=>bndF_mono hr hs f _)
theorem bnd_mono {l:List Rz} {rd rd':List Int} {rs rs':List Nat} (hr:∀ i,(rd.getD i 0).toNat<=(rd'.getD i 0).toNat) (hs:∀ j,rs.getD j 0<=rs'.getD j 0) (i:Nat):bnd l rd rs i<=bnd l rd' rs' i:=bndF_mono hr hs _ _
theorem rsN_mono {l:List Rz} {rd rd':List Int} (us:List Nat) (hr:∀ i,(rd.getD i 0).toNat<=(rd'.getD i 0).toNat):∀ k,LeL (rsN l rd us k) (rsN l rd' us k)
 | 0=>trivial
 | k+1=>(rsN_mono us hr k).app ⟨bnd_mono hr (rsN_mono us hr k).get _,trivial⟩
theorem evN_mono {l:List Rz} {rd rd':List Int} {rs rs':List Nat} {q:Nat} (hr:∀ i,(rd.getD i 0).toNat<=(rd'.getD i 0).toNat) (hs:∀ j,rs.getD j 0<=rs'.getD j 0):∀ (k:Nat) (c':Co),evN l rd' rs' q k=.ok c'->∃ c,evN l rd rs q k=.ok c/\LeL c.on c'.on/\c.miss<=c'.miss
 | 0,c',h=>by
  cases h
  exact ⟨_,rfl,LeL.refl _,Nat.le_refl _⟩
 | k+1,c',h=>by
  simp only [evN] at h ⊢
  cases hk:evN l rd' rs' q k with
  | error e=>rw [hk] at h;cases h
  | ok c0=>
   rw [hk] at h
   obtain ⟨c1,h1,h2,h3⟩:=evN_mono hr hs k c0 hk
   rw [h1]
   simp only [evNx] at h ⊢
   have hb:=bnd_mono (l:=l) hr hs (k+1)
   unfold evSt at h ⊢
   split at h
   ·rename_i hk1
    rw [if_pos hk1]
    split at h
    ·cases h
    ·rename_i hk2
     rw [if_neg (by omega)]
     split at h
     ·rename_i hk3
      cases h
      rw [if_pos hk3]
      exact ⟨_,rfl,h2,hb⟩
     ·rename_i hk3
      cases h
      rw [if_neg hk3]
      exact ⟨_,rfl,h2.set _ hb,h3⟩
   ·rename_i hk1
    cases h
    rw [if_neg hk1]
    exact ⟨_,rfl,h2,h3⟩
def bk (r:Rz):Rz:={ r with kids:=r.kids+1 }
def ps:Rz:=⟨23,⟨#[]⟩,0,0,0⟩
def insR (l:List Rz) (a:Nat):List Rz:=l.take a++bk (rat l a) :: ps :: l.drop (a+1)
def sg (a e:Nat):Nat:=if e<=a then e else e+1
theorem sg_lo {a e:Nat} (h:e<=a):sg a e=e:=if_pos h
theorem sg_hi {a e:Nat} (h:a < e):sg a e=e+1:=if_neg (by omega)
section
variable {l:List Rz} {a:Nat}
theorem insR_len (h:a < l.length):(insR l a).length=l.length+1:=by
 simp only [insR,List.length_append,List.length_cons,List.length_take,List.length_drop]
 omega
theorem insR_drop (h:a < l.length) {i:Nat} (hi:a < i):(insR l a).drop (i+1)=l.drop i:=by
 have e:(l.take a).length=a:=by rw [List.length_take];omega
 unfold insR
 rw [List.drop_append,List.drop_eq_nil_of_le (by rw [e];omega),List.nil_append,e,show i+1 - a=(i - a - 1)+1+1 by omega,List.drop_succ_cons,List.drop_succ_cons,List.drop_drop]
 congr 1
 omega
theorem insR_get (h:a < l.length) (j:Nat):(insR l a)[j]?=if j < a then l[j]? else if j=a then some (bk (rat l a)) else if j=a+1 then some ps else l[j - 1]?:=by
 have e:(l.take a).length=a:=by rw [List.length_take];omega
 unfold insR
 by_cases h1:j < a
 ·rw [if_pos h1,List.getElem?_append_left (by omega),List.getElem?_take_of_lt h1]
 rw [if_neg h1,List.getElem?_append_right (by omega),e]
 by_cases h2:j=a
 ·rw [if_pos h2,h2,Nat.sub_self]
  rfl
 rw [if_neg h2]
 by_cases h3:j=a+1
 ·rw [if_pos h3,h3,show a+1 - a=0+1 by omega]
  rfl
 rw [if_neg h3,show j - a=(j - a - 2)+1+1 by omega,List.getElem?_cons_succ,List.getElem?_cons_succ,List.getElem?_drop]
 congr 1
 omega
theorem rat_get (l:List Rz) (i:Nat):rat l i=(l[i]?).getD rz0:=by simp [rat,List.getD_eq_getElem?_getD]
theorem rat_sg (h:a < l.length) {j:Nat} (hj:j ≠ a):rat (insR l a) (sg a j)=rat l j:=by
 rw [rat_get _ (sg a j),insR_get h,rat_get l j]
 by_cases h1:j < a
 ·rw [sg_lo (by omega),if_pos h1]
 ·rw [sg_hi (by omega),if_neg (by omega),if_neg (by omega),if_neg (by omega),Nat.add_sub_cancel]
theorem rat_at (h:a < l.length):rat (insR l a) a=bk (rat l a):=by
 rw [rat_get,insR_get h,if_neg (by omega),if_pos rfl]
 rfl
theorem rat_ps (h:a < l.length):rat (insR l a) (a+1)=ps:=by
 rw [rat_get,insR_get h,if_neg (by omega),if_neg (by omega),if_pos rfl]
 rfl
theorem kidp_0 (l:List Rz) (i:Nat):kidp l i 0=i+1:=by simp [kidp,sz_zero]
theorem tree_hi (h:a < l.length) {i:Nat} (hi:a < i) (k:Nat):kidp (insR l a) (i+1) k=kidp l i k+1:=by
 unfold kidp
 rw [insR_drop h (i:=i+1) (by omega)]
 omega
theorem end_hi (h:a < l.length) {i:Nat} (hi:a < i):endp (insR l a) (i+1)=endp l i+1:=by
 unfold endp
 rw [insR_drop h hi]
 omega
theorem tree_sg (hW:Whole l) (hW':Whole (insR l a)) (h:a < l.length) (hk:0<=(rat l a).kids):∀ d i,l.length - i<=d->i < l.length->endp (insR l a) (sg a i)=sg a (endp l i)/\(i ≠ a->∀ k,k<=km l i->kidp (insR l a) (sg a i) k=sg a (kidp l i k))/\(i=a->∀ k,k<=km l i->kidp (insR l a) a (k+1)=sg a (kidp l i k)):=by
 intro d
 induction d with
 | zero=>intro i h1 h2;omega
 | succ d ih=>
  intro i hd hi
  have hl':=insR_len h
  obtain ⟨e1,e2,-⟩:=end_kid hW hi
  by_cases hai:a < i
  ·have hK:∀ k,kidp (insR l a) (sg a i) k=kidp l i k+1:=fun k=>by rw [sg_hi hai];exact tree_hi h hai k
   refine ⟨by rw [sg_hi hai,end_hi h hai,sg_hi (by omega)],fun _ k hk=>?_,fun e=>by omega⟩
   rw [hK,sg_hi]
   have:i+1<=kidp l i k:=Nat.le_add_right _ _
   omega
  have step:∀ j,i < j->j < l.length->endp (insR l a) (sg a j)=sg a (endp l j):=fun j h1 h2=>(ih j (by omega) h2).1
  rw [sg_lo (show i<=a by omega)]
  by_cases hia:i=a
  ·subst hia
   have hm:km (insR l i) i=km l i+1:=by
    rw [km_rat,km_rat,rat_at h]
    unfold bk Rz.m
    dsimp only
    omega
   have hp:endp (insR l i) (i+1)=i+1+1:=by
    have h1:=(end_kid hW' (i:=i+1) (by omega)).1
    rw [show km (insR l i) (i+1)=0 by rw [km_rat,rat_ps h];rfl,kidp_0] at h1
    exact h1
   have kids:∀ k,k<=km l i->kidp (insR l i) i (k+1)=sg i (kidp l i k):=by
    intro k
    induction k with
    | zero=>
     intro _
     obtain ⟨-,h2,-⟩:=kid_at hW' (i:=i) (k:=0) (by omega) (by omega)
     rw [h2,kidp_0,hp,kidp_0,sg_hi (by omega)]
    | succ k ihk=>
     intro hk
     obtain ⟨q1,q2,q3⟩:=kid_at hW hi (k:=k) (by omega)
     obtain ⟨-,h2,-⟩:=kid_at hW' (i:=i) (k:=k+1) (by omega) (by omega)
     rw [h2,ihk (by omega),step _ q3 q1,q2]
   refine ⟨?_,fun e=>absurd rfl e,fun _=>kids⟩
   rw [(end_kid hW' (i:=i) (by omega)).1,hm,kids _ (Nat.le_refl _),e1]
  ·have hm:km (insR l a) i=km l i:=by
    rw [km_rat,km_rat]
    have:=rat_sg (j:=i) h hia
    rw [sg_lo (by omega)] at this
    rw [this]
   have kids:∀ k,k<=km l i->kidp (insR l a) i k=sg a (kidp l i k):=by
    intro k
    induction k with
    | zero=>intro _;rw [kidp_0,kidp_0,sg_lo (by omega)]
    | succ k ihk=>
     intro hk
     obtain ⟨q1,q2,q3⟩:=kid_at hW hi (k:=k) (by omega)
     obtain ⟨-,h2,-⟩:=kid_at hW' (i:=i) (k:=k) (by omega) (by omega)
     rw [h2,ihk (by omega),step _ q3 q1,q2]
   refine ⟨?_,fun _=>kids,fun e=>absurd e hia⟩
   rw [(end_kid hW' (i:=i) (by omega)).1,hm,kids _ (Nat.le_refl _),e1]
theorem end_sg (hW:Whole l) (hW':Whole (insR l a)) (h:a < l.length) (hk:0<=(rat l a).kids) {i:Nat} (hi:i < l.length):endp (insR l a) (sg a i)=sg a (endp l i):=(tree_sg hW hW' h hk _ i (Nat.le_refl _) hi).1
theorem bnd_sg (hW:Whole l) (hW':Whole (insR l a)) (h:a < l.length) (hk:0<=(rat l a).kids) {rd rd':List Int} {rs:List Nat} (hr:∀ j,j ≠ a->rd'.getD (sg a j) 0=rd.getD j 0):∀ d i,endp l i - i<=d->i < l.length->(a < i\/endp l i<=a)->bnd (insR l a) rd' rs (sg a i)=bnd l rd rs i:=by
 intro d
 induction d with
 | zero=>intro i h1 h2;have:=(end_kid hW h2).2.1;omega
 | succ d ih=>
  intro i hd hi hn
  have hl':=insR_len h
  have hia:i ≠ a:=by have:=(end_kid hW hi).2.1;omega
  have hsi:sg a i < (insR l a).length:=by unfold sg;split<;>omega
  rw [bnd_eq rd rs hW hi,bnd_eq rd' rs hW' hsi]
  have hm:km (insR l a) (sg a i)=km l i:=by rw [km_rat,km_rat,rat_sg h hia]
  have hb:bks (insR l a) rd' rs (sg a i) (km (insR l a) (sg a i))=bks l rd rs i (km l i):=by
   rw [hm]
   unfold bks
   apply List.map_congr_left
   intro k hk2
   have hk2:=List.mem_range.1 hk2
   rw [(tree_sg hW hW' h hk _ i (Nat.le_refl _) hi).2.1 hia k (by omega)]
   obtain ⟨q1,q2,q3,-⟩:=kidIn hW hi hk2
   have:=(end_kid hW q2).2.1
   exact ih _ (by omega) q2 (by omega)
  rw [hb]
  unfold overN
  rw [rat_sg h hia,hr i hia]
theorem bnd_at (hW:Whole l) (hW':Whole (insR l a)) (h:a < l.length) (hk:0<=(rat l a).kids) (hkd:(rat l a).kind=11) {rd rd':List Int} {rs:List Nat} (hr:∀ j,j ≠ a->rd'.getD (sg a j) 0=rd.getD j 0) (hs:bnd l rd rs a<=72057594037927936):bnd (insR l a) rd' rs a=bnd l rd rs a+1:=by
 have hl':=insR_len h
 have hm:km (insR l a) a=km l a+1:=by
  rw [km_rat,km_rat,rat_at h]
  unfold bk Rz.m
  dsimp only
  omega
 have hp:bnd (insR l a) rd' rs (a+1)=1:=by
  rw [bnd_eq rd' rs hW' (by omega),show km (insR l a) (a+1)=0 by rw [km_rat,rat_ps h];rfl]
  unfold overN
  rw [rat_ps h]
  rfl
 have hb:bks (insR l a) rd' rs a (km l a+1)=1 :: bks l rd rs a (km l a):=by
  unfold bks
  rw [List.range_succ_eq_map,List.map_cons,kidp_0,hp,List.map_map]
  congr 1
  apply List.map_congr_left
  intro k hk2
  have hk2:=List.mem_range.1 hk2
  show bnd (insR l a) rd' rs (kidp (insR l a) a (k+1))=_
  rw [(tree_sg hW hW' h hk _ a (Nat.le_refl _) h).2.2 rfl k (by omega)]
  obtain ⟨q1,q2,q3,-⟩:=kidIn hW h hk2
  exact bnd_sg hW hW' h hk hr _ _ (Nat.le_refl _) q2 (Or.inl q1)
 rw [bnd_eq rd rs hW h] at hs ⊢
 rw [bnd_eq rd' rs hW' (by omega),hm,hb]
 generalize bks l rd rs a (km l a)=ks at *
 unfold overN at hs ⊢
 rw [rat_at h]
 unfold bk
 dsimp only
 rw [hkd] at hs ⊢
 rw [if_neg (by decide),if_neg (by decide),if_neg (by decide),if_neg (by decide),sumC2] at hs
 rw [if_neg (by decide),if_neg (by decide),if_neg (by decide),if_neg (by decide),if_neg (by decide),if_neg (by decide),if_neg (by decide),if_neg (by decide),sumC2,sumC2]
 unfold sumL capS at *
 simp only [zi,List.map_cons,tsum] at *
 omega
end
end Go.Proofs.YtfgpbdieaflclaaGreat.Nm
