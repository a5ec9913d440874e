import Derived.Test.YtfgpbdieaflclaaGreatK33
set_option linter.unusedSimpArgs false
namespace Go.Proofs.YtfgpbdieaflclaaGreat.Nm
open Go.RowKit Go.Maps Sp Lx Gr
section
variable {R:List Rz} {a:Nat} {rd rd':List Int}
theorem rsN_sg (hW:Whole R) (hW':Whole (insR R a)) (h:a < R.length) (hk:0<=(rat R a).kids) (hr:∀ j,j ≠ a->rd'.getD (sg a j) 0=rd.getD j 0) {us:List Nat} (hu:∀ u ∈ us,u < R.length/\(a < u\/endp R u<=a)):∀ k,k<=us.length->rsN (insR R a) rd' (us.map (sg a)) k=rsN R rd us k
 | 0,_=>rfl
 | k+1,hk2=>by
  have hk3:k < us.length:=hk2
  have e1:(us.map (sg a)).getD k 0=sg a us[k]:=by simp [List.getD_eq_getElem?_getD,hk3]
  have e2:us.getD k 0=us[k]:=by simp [List.getD_eq_getElem?_getD,hk3]
  obtain ⟨h1,h2⟩:=hu us[k] (List.getElem_mem hk3)
  simp only [rsN]
  rw [rsN_sg hW hW' h hk hr hu k (by omega),e1,e2,bnd_sg hW hW' h hk hr _ _ (Nat.le_refl _) h1 h2]
theorem evN_lo (hW:Whole R) (hW':Whole (insR R a)) (h:a < R.length) (hk:0<=(rat R a).kids) (hr:∀ j,j ≠ a->rd'.getD (sg a j) 0=rd.getD j 0) {rs:List Nat} {q:Nat}
  (hev:∀ j,j < R.length->(rat R j).kind=8\/(rat R j).kind=9->j+1 < R.length/\(a < j+1\/endp R (j+1)<=a)) (h10:∀ j,j < R.length->(rat R j).kind=10->j+1=a):∀ k,k+1<=a->evN (insR R a) rd' rs q k=evN R rd rs q k
 | 0,_=>rfl
 | k+1,hka=>by
  simp only [evN]
  rw [evN_lo hW hW' h hk hr hev h10 k (by omega)]
  cases evN R rd rs q k with
  | error e=>rfl
  | ok c=>
   simp only [evNx]
   have hrt:rat (insR R a) k=rat R k:=by
    have:=rat_sg (j:=k) h (by omega)
    rwa [sg_lo (by omega)] at this
   unfold evSt
   rw [hrt]
   by_cases h8:(rat R k).kind=8\/(rat R k).kind=9
   ·obtain ⟨q1,q2⟩:=hev k (by omega) h8
    have hb:=bnd_sg (rs:=rs) hW hW' h hk hr _ (k+1) (Nat.le_refl _) q1 q2
    rw [sg_lo (by omega)] at hb
    rw [hb]
   ·by_cases h9:(rat R k).kind=10
    ·have:=h10 k (by omega) h9
     omega
    ·rw [if_neg (by omega),if_neg (by omega)]
theorem evN_hi (hW:Whole R) (hW':Whole (insR R a)) (h:a < R.length) (hk:0<=(rat R a).kids) (hkd:(rat R a).kind=11) (h1:1<=a) (hm:(rat R (a - 1)).kind=10) (hr:∀ j,j ≠ a->rd'.getD (sg a j) 0=rd.getD j 0) {rs:List Nat} {q:Nat}
  (hev:∀ j,j < R.length->(rat R j).kind=8\/(rat R j).kind=9->j+1 < R.length/\(a < j+1\/endp R (j+1)<=a)) (h10:∀ j,j < R.length->(rat R j).kind=10->j+1=a):∀ k (c:Co),a<=k->k<=R.length->evN R rd rs q k=.ok c->(∃ e,evN (insR R a) rd' rs q (sg a k)=.error e)\/∃ c',evN (insR R a) rd' rs q (sg a k)=.ok c'/\c'.on=c.on/\c'.miss=c.miss+1
 | 0,c,hak,_,_=>by omega
 | k+1,c,hak,hkl,hc=>by
  simp only [evN] at hc
  cases hq:evN R rd rs q k with
  | error e=>rw [hq] at hc;cases hc
  | ok c0=>
   rw [hq] at hc
   simp only [evNx] at hc
   by_cases e0:k+1=a
   ·obtain rfl:k=a - 1:=by omega
    rw [sg_lo (by omega)]
    simp only [evN]
    rw [evN_lo hW hW' h hk hr hev h10 (a - 1) (by omega),hq]
    simp only [evNx]
    have hrt:rat (insR R a) (a - 1)=rat R (a - 1):=by
     have:=rat_sg (j:=a - 1) h (by omega)
     rwa [sg_lo (by omega)] at this
    unfold evSt at hc ⊢
    rw [hrt]
    rw [if_pos (by omega)] at hc ⊢
    split at hc
    ·cases hc
    ·rename_i hs
     cases hc
     rw [show a - 1+1=a by omega] at hs ⊢
     rw [bnd_at (rd:=rd) (rd':=rd') (rs:=rs) hW hW' h hk hkd hr (by omega),if_pos hm]
     by_cases hbig:72057594037927936 < bnd R rd rs a+1
     ·rw [if_pos hbig]
      exact Or.inl ⟨_,rfl⟩
     ·rw [if_neg hbig]
      exact Or.inr ⟨_,rfl,rfl,rfl⟩
   ·have hrest:(∃ e,evN (insR R a) rd' rs q (sg a k)=.error e)\/∃ c',evN (insR R a) rd' rs q (sg a k)=.ok c'/\c'.on=c0.on/\c'.miss=c0.miss+1:=evN_hi hW hW' h hk hkd h1 hm hr hev h10 k c0 (by omega) (by omega) hq
    by_cases e1:k=a
    ·subst e1
     have hc0:c=c0:=by
      unfold evSt at hc
      rw [if_neg (by omega)] at hc
      cases hc
      rfl
     subst hc0
     have hsame:evN (insR R k) rd' rs q (sg k (k+1))=evN (insR R k) rd' rs q (sg k k):=by
      rw [sg_hi (by omega),sg_lo (Nat.le_refl k)]
      simp only [evN]
      cases evN (insR R k) rd' rs q k with
      | error e=>rfl
      | ok c1=>
       simp only [evNx,evSt]
       rw [rat_at h,if_neg (by show ¬ ((rat R k).kind=8\/(rat R k).kind=9\/(rat R k).kind=10);omega)]
       simp only [evNx,evSt]
       rw [rat_ps h,if_neg (by decide)]
     rw [hsame]
     exact hrest
    ·have hsk:sg a (k+1)=sg a k+1:=(sg_succ e1).symm
     rw [hsk]
     simp only [evN]
     rcases hrest with ⟨e,he⟩ | ⟨c1,hc1,h2,h3⟩
     ·rw [he]
      exact Or.inl ⟨e,rfl⟩
     ·rw [hc1]
      simp only [evNx]
      have hrt:rat (insR R a) (sg a k)=rat R k:=rat_sg h e1
      unfold evSt at hc ⊢
      rw [hrt]
      by_cases h8:(rat R k).kind=8\/(rat R k).kind=9
      ·obtain ⟨q1,q2⟩:=hev k (by omega) h8
       have hb:=bnd_sg (rs:=rs) hW hW' h hk hr _ (k+1) (Nat.le_refl _) q1 q2
       rw [hsk] at hb
       rw [if_pos (by omega),hb]
       rw [if_pos (by omega)] at hc
       split at hc
       ·cases hc
       ·rename_i hs
        rw [if_neg hs]
        rw [if_neg (by omega)] at hc ⊢
        cases hc
        exact Or.inr ⟨_,rfl,by rw [h2],h3⟩
      ·by_cases h9:(rat R k).kind=10
       ·have:=h10 k (by omega) h9
        omega
       ·rw [if_neg (by omega)] at hc ⊢
        cases hc
        exact Or.inr ⟨_,rfl,h2,h3⟩
theorem lpN_sg (h:a < R.length) (hkd:(rat R a).kind=11):∀ j,j<=R.length->lpN (insR R a) (sg a j)=lpN R j
 | 0,_=>by rw [sg_lo (Nat.zero_le _),lp_zero,lp_zero]
 | j+1,hj=>by
  have hl:=insR_len h
  have ih:=lpN_sg h hkd j (by omega)
  rw [lp_step (l:=R) (i:=j) (by omega),<-ih]
  by_cases e:j=a
  ·subst e
   have e1:¬ ps.kind=13:=by decide
   have e2:¬ (bk (rat R j)).kind=13:=by show ¬ (rat R j).kind=13;omega
   have e3:¬ (rat R j).kind=13:=by omega
   rw [sg_hi (by omega),sg_lo (Nat.le_refl j),lp_step (l:=insR R j) (i:=j+1) (by omega),lp_step (l:=insR R j) (i:=j) (by omega),rat_ps h,rat_at h,if_neg e1,if_neg e2,if_neg e3]
  ·rw [show sg a (j+1)=sg a j+1 from (sg_succ e).symm,lp_step (l:=insR R a) (i:=sg a j) (by unfold sg;split<;>omega),rat_sg h e]
theorem rdv_sg (h:a < R.length) (hkd:(rat R a).kind=11) (rl:List Int) {j:Nat} (hj:j<=R.length) (e:j ≠ a):rdv (insR R a) rl (sg a j)=rdv R rl j:=by
 unfold rdv
 rw [rat_sg h e,lpN_sg h hkd j hj]
end
theorem rdl_getD (f:Nat->Int) (n j:Nat):((List.range n).map f).getD j 0=if j < n then f j else 0:=by
 rw [List.getD_eq_getElem?_getD,List.getElem?_map]
 by_cases h:j < n
 ·rw [if_pos h,List.getElem?_range h]
  rfl
 ·rw [if_neg h,List.getElem?_eq_none (by simpa using h)]
  rfl
theorem long_cost {l:List Rz} {a:Nat} {p p':Pl} (h:res l=.ok p) (hm:p.miss=(a:Int)) (h':res (insR l a)=.ok p') (rl:List Int) {c:Co} (hc:evR p.rows ((List.range p.rows.length).map (rdv p.rows rl)) p.us p.qs.length=.ok c):
  (∃ e,evR p'.rows ((List.range p'.rows.length).map (rdv p'.rows rl)) p'.us p'.qs.length=.error (61,e))\/∃ c',evR p'.rows ((List.range p'.rows.length).map (rdv p'.rows rl)) p'.us p'.qs.length=.ok c'/\c'.on=c.on/\c'.miss=c.miss+1:=by
 obtain ⟨s,hs,er,eu,eq,em,hB,hw⟩:=res_in h
 obtain ⟨s',hs',er',eu',eq',-,hB',-⟩:=res_in h'
 have hI:=upto_iv hB _ (Nat.le_refl _) hs
 have hg:=upto_good hB _ (Nat.le_refl _) hs
 rw [em] at hm
 have hlk:lk s.ev (5,0)=some a:=by
  unfold plc at hm
  cases hq:lk s.ev (5,0) with
  | none=>rw [hq] at hm;simp only at hm;omega
  | some v=>
   rw [hq] at hm
   simp only at hm
   congr 1
   omega
 obtain ⟨i0,rfl,hi0,hk10⟩:=hI.m2 a hlk
 obtain ⟨ha,hkd,-,-⟩:=top_next hw hi0 (by omega)
 have hW':Whole (insR l (i0+1)):=hB'.tree.whole
 have hl':=insR_len ha
 have hR:=upto_sg hB hW' ha hkd l.length (Nat.le_refl _) hs (by rw [sg_hi ha,<-hl'];exact hs')
 have hlen:=like_len hg.like
 have hT:=like_tree hg.like hB.tree
 have hlk2:=insR_like hg.like ha
 have hT':Whole (insR s.rows (i0+1)):=(like_tree hlk2 hB'.tree).whole
 rw [er,eu,eq] at hc
 rw [er',eu',eq',hR.rows,hR.us,hR.qs]
 have ha':i0+1 < s.rows.length:=by omega
 have kd:∀ j,j < s.rows.length->(rat s.rows j).kind=(rat l j).kind:=fun j hj=>(like_kind hg.like (by omega)).1
 have hkd':(rat s.rows (i0+1)).kind=11:=(kd _ ha').trans hkd
 have hkids:0<=(rat s.rows (i0+1)).kids:=by rw [hT.kids _ ha'];omega
 have hend:∀ j,endp s.rows j=endp l j:=endp_like hg.like
 have apart:∀ j,j < s.rows.length->(7<=(rat l j).kind/\(rat l j).kind<=10)->j ≠ i0->j+1 < s.rows.length/\(i0+1 < j+1\/endp s.rows (j+1)<=i0+1):=fun j hj hk hne=>by
  obtain ⟨q1,q2,q3,q4⟩:=top_next hw (a:=j) (by omega) hk
  refine ⟨by omega,?_⟩
  by_cases hji:i0 < j
  ·exact Or.inl (by omega)
  ·right
   rw [hend]
   have hkin:=kidIn hB.tree.whole (i:=j) (k:=0) (by omega) (by omega)
   rw [kidp_0] at hkin
   have h5:=q4 i0 (by omega)
   by_cases h6:endp l (j+1)<=i0+1
   ·exact h6
   ·exact absurd (by omega) (h5 (by omega))
 have hr:∀ j,j ≠ i0+1->((List.range (insR s.rows (i0+1)).length).map (rdv (insR s.rows (i0+1)) rl)).getD (sg (i0+1) j) 0=((List.range s.rows.length).map (rdv s.rows rl)).getD j 0:=fun j hj=>by
  rw [rdl_getD,rdl_getD,insR_len ha']
  by_cases h1:j < s.rows.length
  ·rw [if_pos h1,if_pos (by unfold sg;split<;>omega),rdv_sg ha' hkd' rl (by omega) hj]
  ·rw [if_neg h1,if_neg (by unfold sg;split<;>omega)]
 have hus:∀ u ∈ s.us,u < s.rows.length/\(i0+1 < u\/endp s.rows u<=i0+1):=fun u hu=>by
  obtain ⟨j,rfl,hj,hk7⟩:=hI.us u hu
  exact apart j (by omega) (by omega) (by rintro rfl;omega)
 have hrs:rsAll (insR s.rows (i0+1)) ((List.range (insR s.rows (i0+1)).length).map (rdv (insR s.rows (i0+1)) rl)) (s.us.map (sg (i0+1)))=rsAll s.rows ((List.range s.rows.length).map (rdv s.rows rl)) s.us:=by
  unfold rsAll
  rw [List.length_map]
  exact rsN_sg hT.whole hT' ha' hkids hr hus _ (Nat.le_refl _)
 have hq:evN s.rows ((List.range s.rows.length).map (rdv s.rows rl)) (rsAll s.rows ((List.range s.rows.length).map (rdv s.rows rl)) s.us) s.qs.length s.rows.length=.ok c:=by
  unfold evR at hc
  split at hc
  ·cases hc
  ·rename_i c0 h0
   cases hc
   exact h0
 have hfin:=evN_hi hT.whole hT' ha' hkids hkd' (by omega) (by rw [Nat.add_sub_cancel,kd _ (by omega)];exact hk10) hr
  (fun j hj h8=>apart j hj (by rw [kd j hj] at h8;omega) (by rintro rfl;rw [kd _ hj] at h8;omega))
  (fun j hj h9=>by
   have h10:=hI.m1 j (by omega) (by rw [<-kd j hj];exact h9)
   rw [hlk] at h10
   exact (Option.some.inj h10).symm) _ c (by omega) (Nat.le_refl _) hq
 rw [sg_hi ha',<-insR_len ha'] at hfin
 unfold evR
 rw [hrs]
 rcases hfin with ⟨e,he⟩ | ⟨c',h1,h2,h3⟩
 ·rw [he]
  exact Or.inl ⟨e,rfl⟩
 ·rw [h1]
  exact Or.inr ⟨c',rfl,h2,h3⟩
theorem bres_of {l:List Rz} {p:Pl} (h:res l=.ok p) {rd:List Int} {r:Except (Nat × Nat) Co} (hb:BRes p.g rd r) (hl:rd.length=p.rows.length) (hbad:rd.any badN=false):r=evR p.rows rd p.us p.qs.length:=by
 have hP:IsP p.g p:=⟨by show res (p.rows.map unn)=_;rw [Ty.res_back h];exact h,rfl⟩
 rcases hb with ⟨h1,-⟩ | ⟨p1,h1,h2⟩
 ·exact absurd ⟨p,hP⟩ h1
 ·cases hP.uniq h1
  rcases h2 with ⟨h2,-⟩ | ⟨-,-,h4⟩
  ·rcases h2 with h2 | h2
   ·exact absurd hl h2
   ·rw [hbad] at h2;cases h2
  ·exact h4
theorem rd_bad {R:List Rz} {rl:List Int} (hr:∀ n ∈ rl,0<=n/\n<=4194304) (n:Nat):((List.range n).map (rdv R rl)).any badN=false:=by
 rw [List.any_eq_false]
 intro x hx
 obtain ⟨j,-,rfl⟩:=List.mem_map.1 hx
 have:0<=rdv R rl j/\rdv R rl j<=4194304:=by
  unfold rdv
  split
  ·rw [List.getD_eq_getElem?_getD]
   cases hq:rl[lpN R j % rl.length]? with
   | none=>simp
   | some y=>exact hr y (List.mem_of_getElem? hq)
  ·omega
 simp [badN]
 omega
theorem grow_cost {R:List Rz} {us:List Nat} {q:Nat} {rl rl':List Int} (hn:rl.length=rl'.length) (hle:∀ i,(rl.getD i 0).toNat<=(rl'.getD i 0).toNat):
  (∀ e,evR R ((List.range R.length).map (rdv R rl)) us q=.error e->e.1=61) /\
  ∀ c',evR R ((List.range R.length).map (rdv R rl')) us q=.ok c'->∃ c,evR R ((List.range R.length).map (rdv R rl)) us q=.ok c/\LeL c.on c'.on/\c.miss<=c'.miss:=by
 have hr:∀ i,(((List.range R.length).map (rdv R rl)).getD i 0).toNat<=(((List.range R.length).map (rdv R rl')).getD i 0).toNat:=fun i=>by
  rw [rdl_getD,rdl_getD]
  split
  ·unfold rdv
   rw [hn]
   split
   ·exact hle _
   ·exact Nat.le_refl _
  ·exact Nat.le_refl _
 refine ⟨fun e he=>?_,fun c' hc=>?_⟩
 ·unfold evR at he
  split at he
  ·cases he
   rfl
  ·cases he
 ·unfold evR at hc ⊢
  split at hc
  ·cases hc
  ·rename_i c0 h0
   cases hc
   obtain ⟨c,h1,h2,h3⟩:=evN_mono hr (rsN_mono us hr us.length).get _ c' h0
   have h1':evN R ((List.range R.length).map (rdv R rl)) (rsAll R ((List.range R.length).map (rdv R rl)) us) q R.length=.ok c:=h1
   refine ⟨c,?_,h2,h3⟩
   rw [h1']
theorem sz_ge {l:List Rz} : ∀ {m n:Nat},sz l m=some n->m<=n:=by
 induction l with
 | nil=>
  intro m n h
  simp only [sz] at h
  split at h
  ·omega
  ·cases h
 | cons r l ih=>
  intro m n h
  by_cases hm:m=0
  ·omega
  ·obtain ⟨h1,h2⟩:=sz_cons (by omega) h
   have:=ih h2
   omega
theorem miss_at {l:List Rz} {a:Nat} {p:Pl} (h:res l=.ok p) (hm:p.miss=(a:Int)):a < l.length/\0<=(rat l a).kids/\(rat l a).kids<=(l.length:Int):=by
 obtain ⟨s,hs,er,eu,eq,em,hB,hw⟩:=res_in h
 have hI:=upto_iv hB _ (Nat.le_refl _) hs
 rw [em] at hm
 have hlk:lk s.ev (5,0)=some a:=by
  unfold plc at hm
  cases hq:lk s.ev (5,0) with
  | none=>rw [hq] at hm;simp only at hm;omega
  | some v=>
   rw [hq] at hm
   simp only at hm
   congr 1
   omega
 obtain ⟨i0,rfl,hi0,hk10⟩:=hI.m2 a hlk
 obtain ⟨ha,-,-,-⟩:=top_next hw hi0 (by omega)
 obtain ⟨x,h1,-,h3⟩:=one_at hB.tree.whole ha
 have:=sz_ge h1
 have:=hB.tree.kids _ ha
 exact ⟨ha,by omega,by omega⟩
theorem evN_top {l:List Rz} {rd:List Int} {rs:List Nat} {q:Nat} : ∀ (k:Nat) {c:Co},evN l rd rs q k=.ok c->c.miss<=4611686018427387904/\((∀ j,j < k->(rat l j).kind ≠ 10)->c.miss=0)
 | 0,c,h=>by
  cases h
  exact ⟨Nat.zero_le _,fun _=>rfl⟩
 | k+1,c,h=>by
  simp only [evN] at h
  cases hk:evN l rd rs q k with
  | error e=>rw [hk] at h;cases h
  | ok c0=>
   rw [hk] at h
   obtain ⟨h1,h2⟩:=evN_top k hk
   simp only [evNx] at h
   unfold evSt at h
   split at h
   ·split at h
    ·cases h
    ·split at h
     ·rename_i h10
      cases h
      exact ⟨bnd_le _ _ _ _,fun hn=>absurd h10 (hn k (by omega))⟩
     ·cases h
      exact ⟨h1,fun hn=>h2 fun j hj=>hn j (by omega)⟩
   ·cases h
    exact ⟨h1,fun hn=>h2 fun j hj=>hn j (by omega)⟩
theorem evR_top {l:List Rz} {rd:List Int} {us:List Nat} {q:Nat} {c:Co} (h:evR l rd us q=.ok c):c.miss<=4611686018427387904/\((∀ j,j < l.length->(rat l j).kind ≠ 10)->c.miss=0):=by
 unfold evR at h
 split at h
 ·cases h
 ·rename_i c0 h0
  cases h
  exact evN_top _ h0
theorem no_miss {l:List Rz} {p:Pl} (h:res l=.ok p) (hm:p.miss < 0):∀ j,j < p.rows.length->(rat p.rows j).kind ≠ 10:=by
 obtain ⟨s,hs,er,eu,eq,em,hB,hw⟩:=res_in h
 have hI:=upto_iv hB _ (Nat.le_refl _) hs
 have hg:=upto_good hB _ (Nat.le_refl _) hs
 have hlen:=like_len hg.like
 intro j hj h10
 rw [er] at hj h10
 have:=hI.m1 j (by omega) (by rw [<-(like_kind hg.like (show j < l.length by omega)).1];exact h10)
 rw [em] at hm
 unfold plc at hm
 rw [this] at hm
 simp only at hm
 omega
theorem insR_set (l:List Rz) {a:Nat} (h:a < l.length):insR l a=(l.take (a+1)++ps :: l.drop (a+1)).set a (bk (rat l a)):=by
 have e:(l.take a).length=a:=by rw [List.length_take];omega
 rw [List.take_add_one,some_rat h]
 unfold insR
 simp only [Option.toList_some,List.append_assoc,List.singleton_append]
 rw [List.set_append_right _ _ (by omega),e,Nat.sub_self,List.set_cons_zero]
theorem rz5_set4 (l:List Rz) (i:Nat) (r:Rz) (k:Int) (h:l[i]?=some r):(l.set i { r with kids:=k }).flatMap rz5=(l.flatMap rz5).set (i * 5+4) (.int .i64 k):=by
 induction l generalizing i with
 | nil=>cases h
 | cons x l ih=>
  cases i with
  | zero=>
   cases h
   rfl
  | succ i=>
   have h5:(rz5 x).length=5:=rfl
   rw [List.set_cons_succ,List.flatMap_cons,List.flatMap_cons,ih i (by simpa using h),List.set_append_right _ _ (by rw [h5];omega),h5]
   congr 2
   omega
theorem take_rz5 (l:List Rz) (k:Nat):(l.take k).flatMap rz5=(l.flatMap rz5).take (k * 5):=by
 induction l generalizing k with
 | nil=>simp
 | cons x l ih=>
  cases k with
  | zero=>simp
  | succ k=>
   have h5:(rz5 x).length=5:=rfl
   rw [List.take_succ_cons,List.flatMap_cons,List.flatMap_cons,ih,List.take_append,h5,List.take_of_length_le (l:=rz5 x) (by rw [h5];omega),show (k+1) * 5 - 5=k * 5 by omega]
theorem drop_rz5 (l:List Rz) (k:Nat):(l.drop k).flatMap rz5=(l.flatMap rz5).drop (k * 5):=by
 induction l generalizing k with
 | nil=>simp
 | cons x l ih=>
  cases k with
  | zero=>simp
  | succ k=>
   have h5:(rz5 x).length=5:=rfl
   rw [List.drop_succ_cons,List.flatMap_cons,ih,List.drop_append,h5,(List.drop_eq_nil_of_le (by rw [h5];omega):(rz5 x).drop ((k+1) * 5)=[]),List.nil_append,show (k+1) * 5 - 5=k * 5 by omega]
end Go.Proofs.YtfgpbdieaflclaaGreat.Nm
