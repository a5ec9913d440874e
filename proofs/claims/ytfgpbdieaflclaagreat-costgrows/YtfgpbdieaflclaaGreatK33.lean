import Derived.Test.YtfgpbdieaflclaaGreatK32
import Derived.Test.YtfgpbdieaflclaaGreatK30
set_option linter.unusedSimpArgs false
namespace Go.Proofs.YtfgpbdieaflclaaGreat.Nm
open Go.RowKit Go.Maps Sp Lx Gr
theorem insR_map (l:List Rz) {a:Nat} (h:a < l.length):(insR l a).map clr=insR (l.map clr) a:=by
 refine List.ext_getElem? fun j=>?_
 rw [List.getElem?_map,insR_get h,insR_get (by rw [List.length_map];exact h)]
 have e:rat (l.map clr) a=clr (rat l a):=by
  have:=some_rat (l:=l.map clr) (i:=a) (by rw [List.length_map];exact h)
  rw [List.getElem?_map,some_rat h] at this
  exact (Option.some.inj this).symm
 by_cases h1:j < a
 ·rw [if_pos h1,if_pos h1,List.getElem?_map]
 rw [if_neg h1,if_neg h1]
 by_cases h2:j=a
 ·rw [if_pos h2,if_pos h2,e]
  rfl
 rw [if_neg h2,if_neg h2]
 by_cases h3:j=a+1
 ·rw [if_pos h3,if_pos h3]
  rfl
 rw [if_neg h3,if_neg h3,List.getElem?_map]
theorem insR_like {l l0:List Rz} (h:l.map clr=l0.map clr) {a:Nat} (ha:a < l0.length):(insR l a).map clr=(insR l0 a).map clr:=by
 rw [insR_map l (by rw [like_len h];exact ha),insR_map l0 ha,h]
theorem numb_sg {l:List Rz} {a i n:Nat} (ha:a < l.length) (hia:i ≠ a):numb (insR l a) (sg a i) n=insR (numb l i n) a:=by
 have e:rat (numb l i n) a=rat l a:=by
  rw [rat_get,rat_get l,numb,List.getElem?_set_ne hia]
 refine List.ext_getElem? fun j=>?_
 rw [insR_get (by rw [numb_len];exact ha),e]
 unfold numb
 rw [rat_sg ha hia,List.getElem?_set,insR_len ha,insR_get ha]
 by_cases h1:j < a
 ·rw [if_pos h1,if_pos h1,List.getElem?_set]
  by_cases h2:i=j
  ·subst h2
   rw [sg_lo (by omega),if_pos rfl,if_pos rfl,if_pos (by omega),if_pos (by omega)]
  ·rw [if_neg (by unfold sg;split<;>omega),if_neg h2]
 rw [if_neg h1,if_neg h1]
 by_cases h2:j=a
 ·rw [if_neg (by unfold sg;split<;>omega),if_pos h2,if_pos h2]
 rw [if_neg h2,if_neg h2]
 by_cases h3:j=a+1
 ·rw [if_neg (by unfold sg;split<;>omega),if_pos h3,if_pos h3]
 rw [if_neg h3,if_neg h3,List.getElem?_set]
 by_cases h4:i=j - 1
 ·subst h4
  rw [sg_hi (by omega),if_pos (by omega),if_pos rfl]
  by_cases h5:j - 1 < l.length
  ·rw [if_pos (by omega),if_pos h5]
  ·rw [if_neg (by omega),if_neg h5]
 ·rw [if_neg (by unfold sg;split<;>omega),if_neg h4]
def fk (a:Nat) (x:ByteArray × Nat × Nat × Nat):ByteArray × Nat × Nat × Nat:=(x.1,x.2.1,x.2.2.1,sg a x.2.2.2)
def fe (a:Nat) (x:(Nat × Nat) × Nat):(Nat × Nat) × Nat:=(x.1,sg a x.2)
theorem lk_fk (a:Nat) (x:ByteArray):∀ l,lk (l.map (fk a)) x=(lk l x).map fun y=>(y.1,y.2.1,sg a y.2.2)
 | []=>rfl
 | y :: l=>by
  obtain ⟨y1,y2⟩:=y
  simp only [List.map_cons,fk,lk]
  split
  ·rfl
  ·exact lk_fk a x l
structure Rl (a:Nat) (s s':Rs):Prop where
 rows:s'.rows=insR s.rows a
 known:s'.known=s.known.map (fk a)
 qs:s'.qs=s.qs
 vs:s'.vs=s.vs
 ts:s'.ts=s.ts
 us:s'.us=s.us.map (sg a)
 ev:s'.ev=s.ev.map (fe a)
theorem Rl.cnt {a:Nat} {s s':Rs} (h:Rl a s s') (z:Nat):s'.cnt z=s.cnt z:=by
 unfold Rs.cnt
 rw [h.qs,h.vs,h.ts,h.us,List.length_map]
theorem sg_succ {a i:Nat} (h:i ≠ a):sg a i+1=sg a (i+1):=by unfold sg;split<;>split<;>omega
section
variable {l:List Rz} {a:Nat}
theorem ask_sg (hT:Whole l) (hT':Whole (insR l a)) (ha:a < l.length) (hk:0<=(rat l a).kids) {i:Nat} (hi:i < l.length) (hia:i ≠ a) (j:Nat) {s s' t t':Rs} (hl:s.rows.map clr=l.map clr) (h:ask j i s=.ok t) (h':ask j (sg a i) s'=.ok t') (hR:Rl a s s'):Rl a t t'/\t.rows.map clr=l.map clr:=by
 have hlen:=like_len hl
 have ha':a < s.rows.length:=by omega
 have hr:rat s'.rows (sg a i)=rat s.rows i:=by rw [hR.rows,rat_sg ha' hia]
 have hwl:∀ r:List Rz,r.map clr=l.map clr->Whole r:=fun r h=>by unfold Whole;rw [<-sz_clr r,h,sz_clr,like_len h];exact hT
 have hwl':∀ r:List Rz,r.map clr=l.map clr->Whole (insR r a):=fun r h=>by
  have h2:=insR_like h ha
  unfold Whole;rw [<-sz_clr,h2,sz_clr,like_len h2];exact hT'
 unfold ask at h h'
 split at h
 ·rename_i hj
  rw [if_pos hj] at h'
  unfold askD at h h'
  rw [hr] at h'
  split at h
  ·rename_i hd
   rw [if_pos hd] at h'
   cases h
   cases h'
   exact ⟨hR,hl⟩
  ·rename_i hd
   rw [if_neg hd] at h'
   split at h
   ·cases h
   split at h'
   ·cases h'
   split at h
   ·cases h
   split at h'
   ·cases h'
   cases h
   cases h'
   have hl2:(numb s.rows i (s.cnt (decl (rat s.rows i).kind))).map clr=l.map clr:=(numb_clr _ _ _).trans hl
   have hk2:0<=(rat (numb s.rows i (s.cnt (decl (rat s.rows i).kind))) a).kids:=by rw [(like_kind hl2 ha).2.2];exact hk
   refine ⟨⟨?_,?_,?_,?_,?_,?_,hR.ev⟩,hl2⟩
   ·show numb s'.rows (sg a i) _=insR (numb s.rows i _) a
    rw [hr,hR.cnt,hR.rows,numb_sg ha' hia]
   ·show _ :: s'.known=(_ :: s.known).map (fk a)
    rw [List.map_cons,hR.known,hr,hR.cnt,hR.rows,numb_sg ha' hia,end_sg (hwl _ hl2) (hwl' _ hl2) (by rw [numb_len];exact ha') hk2 (by rw [numb_len];omega)]
    rfl
   ·show (if _ then s'.qs++_ else if _ then s'.qs++_ else s'.qs)=(if _ then s.qs++_ else if _ then s.qs++_ else s.qs)
    rw [hr,hR.qs]
   ·show (if _ then s'.vs++_ else s'.vs)=(if _ then s.vs++_ else s.vs)
    rw [hr,hR.vs]
   ·show (if _ then s'.ts++_ else s'.ts)=(if _ then s.ts++_ else s.ts)
    rw [hr,hR.ts]
   ·show (if _ then s'.us++_ else s'.us)=(if _ then s.us++_ else s.us).map (sg a)
    rw [hr,hR.us,sg_succ hia]
    split
    ·rw [List.map_append]
     rfl
    ·rfl
 ·rename_i hj
  rw [if_neg hj] at h'
  split at h
  ·rename_i hj1
   rw [if_pos hj1] at h'
   unfold askM at h h'
   rw [hr,hR.known,lk_fk] at h'
   split at h
   ·rename_i hd
    rw [if_pos hd] at h'
    cases h
    cases h'
    exact ⟨hR,hl⟩
   ·rename_i hd
    rw [if_neg hd] at h'
    cases hq:lk s.known (rat s.rows i).name with
    | none=>rw [hq] at h;cases h
    | some y=>
     obtain ⟨k,m,p⟩:=y
     rw [hq] at h h'
     simp only [Option.map_some] at h h'
     split at h
     ·cases h
     split at h'
     ·cases h'
     split at h
     ·cases h
     split at h'
     ·cases h'
     cases h
     cases h'
     refine ⟨⟨?_,rfl,hR.qs,hR.vs,hR.ts,hR.us,hR.ev⟩,(numb_clr _ _ _).trans hl⟩
     show numb s'.rows (sg a i) _=insR (numb s.rows i _) a
     rw [hR.rows,numb_sg ha' hia]
  ·rename_i hj1
   rw [if_neg hj1] at h'
   unfold askH at h h'
   rw [hr] at h'
   split at h
   ·rename_i hd
    rw [if_pos hd] at h'
    cases h
    cases h'
    exact ⟨hR,hl⟩
   ·rename_i hd
    rw [if_neg hd] at h'
    split at h
    ·cases h
    split at h'
    ·cases h'
    cases h
    cases h'
    refine ⟨⟨hR.rows,hR.known,hR.qs,hR.vs,hR.ts,hR.us,?_⟩,hl⟩
    show _ :: s'.ev=(_ :: s.ev).map (fe a)
    rw [List.map_cons,hR.ev,sg_succ hia]
    rfl
theorem askN_sg (hT:Whole l) (hT':Whole (insR l a)) (ha:a < l.length) (hk:0<=(rat l a).kids) {i:Nat} (hi:i < l.length) (hia:i ≠ a):∀ (j:Nat) {s s' t t':Rs},s.rows.map clr=l.map clr->askN i s j=.ok t->askN (sg a i) s' j=.ok t'->Rl a s s'->Rl a t t'/\t.rows.map clr=l.map clr
 | 0,s,s',t,t',hl,h,h',hR=>by
  cases h
  cases h'
  exact ⟨hR,hl⟩
 | j+1,s,s',t,t',hl,h,h',hR=>by
  simp only [askN] at h h'
  cases h1:askN i s j with
  | error e=>rw [h1] at h;cases h
  | ok u=>
   cases h2:askN (sg a i) s' j with
   | error e=>rw [h2] at h';cases h'
   | ok u'=>
    rw [h1] at h
    rw [h2] at h'
    obtain ⟨h3,h4⟩:=askN_sg hT hT' ha hk hi hia j hl h1 h2 hR
    exact ask_sg hT hT' ha hk hi hia j h4 h h' h3
end
theorem ask_none {s t:Rs} {i:Nat} (h1:decl (rat s.rows i).kind=0) (h2:nmd (rat s.rows i).kind=0) (h3:(evt (rat s.rows i)).1=0) (h:askN i s 3=.ok t):t=s:=by
 simp only [askN,ask,if_true,askD,if_pos h1,askM,askH,if_pos h2,if_pos h3,Nat.zero_ne_one,if_false,Nat.succ_ne_self,Nat.one_ne_zero] at h
 simpa using h.symm
end Go.Proofs.YtfgpbdieaflclaaGreat.Nm
set_option linter.unusedSimpArgs false
namespace Go.Proofs.YtfgpbdieaflclaaGreat.Gr
open Go.RowKit Sp Lx
theorem stand_top {d s c k:Int} (h0:d ≠ 0) (h1:d ≠ 1) (h:mayStand d s c k=true):¬ (7<=k/\k<=10)/\k ≠ 1/\k ≠ 0:=by
 have no:∀ z:Int,z=0\/z=1\/z=7\/z=8\/z=9\/z=10->k ≠ z:=by
  rintro z hz rfl
  unfold mayStand at h
  rw [if_neg h0,if_neg h1] at h
  rcases hz with rfl | rfl | rfl | rfl | rfl | rfl
  all_goals
   split at h
   ·exact absurd h (by decide)
   split at h
   ·exact absurd h (by decide)
   split at h
   ·exact absurd h (by decide)
   split at h
   ·exact absurd h (by decide)
   unfold mayFollow at h
   repeat' split at h
   all_goals exact absurd h (by decide)
 refine ⟨fun hk=>?_,no 1 (by omega),no 0 (by omega)⟩
 exact no k (by omega) rfl
theorem in_top (l:List Rz):∀ (u b:List Ab) (i:Nat),(∀ a ∈ u,a.kind ≠ 0/\a.kind ≠ 1)->(u=[]\/∃ a r,u=a :: r/\(a.seen:Int) < a.kids)->(wrong (u++b) i l).2=false->∀ j x,sz l (mis u)=some x->j < x->¬ (7<=(rat l j).kind/\(rat l j).kind<=10):=by
 induction l with
 | nil=>
  intro u b i _ _ _ j x hx hj
  simp only [sz] at hx
  split at hx
  ·cases hx;omega
  ·cases hx
 | cons r l ih=>
  intro u b i hu ht h j x hx hj
  rcases ht with rfl | ⟨a,t,rfl,hlt⟩
  ·rw [show mis []=0 from rfl,sz_zero] at hx
   cases hx
   omega
  ·simp only [wrong,List.cons_append] at h
   split at h
   ·cases h
   ·rename_i hc
    simp only [List.isEmpty_cons,Bool.false_or,Bool.not_eq_true',Bool.not_eq_false,Bool.and_eq_true] at hc
    have hk:=filled_kids hc.2
    obtain ⟨a0,a1⟩:=hu a (by simp)
    obtain ⟨k7,k1,k0⟩:=stand_top (d:=a.kind) a0 a1 hc.1
    cases j with
    | zero=>exact k7
    | succ j=>
     have hm:mis (pop (⟨r.kind,r.kids,0,0,0⟩ :: bump r.kind (a :: t)))=mis (a :: t) - 1+r.m:=by
      rw [mis_pop]
      simp only [mis,bump,Rz.m]
      omega
     obtain ⟨x1,hx1⟩:=sz_cons (by simp only [mis];omega) hx
     rw [<-hm] at hx1
     have hpa:past (a :: (t++b)) r 0=if pop (⟨r.kind,r.kids,0,0,0⟩ :: bump r.kind (a :: t))=[] then pop b else pop (⟨r.kind,r.kids,0,0,0⟩ :: bump r.kind (a :: t))++b:=by
      rw [<-pop_app]
      rfl
     rw [hpa] at h
     by_cases hp:pop (⟨r.kind,r.kids,0,0,0⟩ :: bump r.kind (a :: t))=[]
     ·rw [hp,show mis []=0 from rfl,sz_zero] at hx1
      have:=Option.some.inj hx1
      omega
     ·rw [if_neg hp] at h
      have hmem:∀ c ∈ pop (⟨r.kind,r.kids,0,0,0⟩ :: bump r.kind (a :: t)),c.kind ≠ 0/\c.kind ≠ 1:=fun c hc2=>by
       have:=pop_mem _ c hc2
       simp only [bump,List.mem_cons] at this
       rcases this with rfl | rfl | hm2
       ·exact ⟨k0,k1⟩
       ·exact ⟨a0,a1⟩
       ·exact hu c (by simp [hm2])
      have hpp:∀ x:List Ab,pop x=[]\/∃ b q,pop x=b :: q/\(b.seen:Int) < b.kids:=by
       intro x
       induction x with
       | nil=>exact Or.inl rfl
       | cons c x ihx=>
        simp only [pop]
        split
        ·exact ihx
        ·exact Or.inr ⟨c,x,rfl,by omega⟩
      have:=ih _ b (i+1) hmem (hpp _) h j (x - 1) hx1 (by omega)
      exact this
theorem top_next {l:List Rz} (h:(wrong [ab1] 0 l).2=false) {a:Nat} (ha:a < l.length) (hk:7<=(rat l a).kind/\(rat l a).kind<=10):a+1 < l.length/\(rat l (a+1)).kind=11/\km l a=1/\∀ c,a < c->c < endp l a->¬ (7<=(rat l c).kind/\(rat l c).kind<=10):=by
 have hW:=whole_of h
 have hf:=wrong_all l _ _ h _ (List.mem_of_getElem? (some_rat ha))
 have hk1:1<=(rat l a).kids:=Nm.filled_kid hf (by omega)
 have hkm:(rat l a).kids<=1:=by
  unfold filled at hf
  simp only [Bool.and_eq_true] at hf
  have h1:=hf.2.2.2
  unfold wtn at h1
  simp only [Bool.and_eq_true,decide_eq_true_eq] at h1
  have:(rat l a).kind=7\/(rat l a).kind=8\/(rat l a).kind=9\/(rat l a).kind=10:=by omega
  rcases this with e | e | e | e<;>rw [e] at h1<;>exact h1.2
 obtain ⟨t,ht⟩:=wrong_drop l [ab1] 0 a (by omega) h
 obtain ⟨r,hr1,hr2,_⟩:=drop_at ha
 have hr:r=rat l a:=by rw [some_rat ha] at hr1;exact (Option.some.inj hr1).symm
 subst hr
 rw [hr2] at ht
 simp only [wrong] at ht
 split at ht
 ·cases ht
 ·have hpa:past t (rat l a) 0=[⟨(rat l a).kind,(rat l a).kids,0,0,0⟩]++bump (rat l a).kind t:=by
   unfold past
   simp only [pop]
   rw [if_neg (by omega)]
   rfl
  rw [hpa] at ht
  have hE:∃ x,sz (l.drop (a+1)) (mis [⟨(rat l a).kind,(rat l a).kids,0,0,0⟩])=some x/\endp l a=a+1+x:=by
   obtain ⟨h1,h2⟩:=end_kid hW ha
   unfold endp at *
   rw [hr2] at *
   cases hs:sz (rat l a :: l.drop (a+1)) 1 with
   | none=>rw [hs] at h2;simp at h2
   | some y=>
    obtain ⟨hy,hz⟩:=sz_cons (Nat.le_refl 1) hs
    refine ⟨y - 1,?_,?_⟩
    ·rw [<-hz]
     congr 1
     simp [mis,Rz.m]
    ·simp
     omega
  obtain ⟨x,hx1,hx2⟩:=hE
  have hpos:1<=x/\1<=(l.drop (a+1)).length:=sz_pos (by simp only [mis];omega) hx1
  have hlt:a+1 < l.length:=by have:=hpos.2;rw [List.length_drop] at this;omega
  refine ⟨hlt,?_,?_,fun c hac hce=>?_⟩
  ·obtain ⟨r2,hq1,hq2,_⟩:=drop_at hlt
   have hr2:r2=rat l (a+1):=by rw [some_rat hlt] at hq1;exact (Option.some.inj hq1).symm
   subst hr2
   rw [hq2] at ht
   simp only [wrong,List.cons_append] at ht
   split at ht
   ·cases ht
   ·rename_i hc
    simp only [List.isEmpty_cons,Bool.false_or,Bool.not_eq_true',Bool.not_eq_false,Bool.and_eq_true] at hc
    have h5:=hc.1
    have:(rat l a).kind=7\/(rat l a).kind=8\/(rat l a).kind=9\/(rat l a).kind=10:=by omega
    show (rat l (a+1)).kind=11
    unfold mayStand at h5
    rw [if_neg (by show (rat l a).kind ≠ 0;omega),if_neg (by show (rat l a).kind ≠ 1;omega),if_pos (by exact this)] at h5
    simpa using h5
  ·rw [km_rat]
   unfold Rz.m
   omega
  ·have:=in_top (l.drop (a+1)) [⟨(rat l a).kind,(rat l a).kids,0,0,0⟩] (bump (rat l a).kind t) _ (by intro q hq;simp only [List.mem_singleton] at hq;subst hq;dsimp only;omega) (Or.inr ⟨_,[],rfl,by show (0:Int) < (rat l a).kids;omega⟩) ht (c - (a+1)) x hx1 (by omega)
   rw [rat_drop,show a+1+(c - (a+1))=c by omega] at this
   exact this
end Go.Proofs.YtfgpbdieaflclaaGreat.Gr
namespace Go.Proofs.YtfgpbdieaflclaaGreat.Nm.Ty
open Go.RowKit Go.Maps Sp Lx Gr Nm
theorem rz_ext8 {a b:Rz} (h:clr a=clr b) (hn:a.n=b.n):a=b:=by
 cases a
 cases b
 simp [clr] at h hn ⊢
 exact ⟨h.1,h.2.1,h.2.2.1,hn,h.2.2.2⟩
theorem fill_zero {r:Rz} (h:filled r=true):r.kind ≠ 27->r.n=0:=by
 unfold filled at h
 simp only [Bool.and_eq_true,wtn,decide_eq_true_eq] at h
 obtain ⟨_,_,⟨h1,h2⟩,_⟩:=h
 unfold lastNum at h2
 intro h27
 rw [if_neg h27] at h2
 omega
theorem res_back {l:List Rz} {p:Pl} (h:res l=.ok p):p.rows.map unn=l:=by
 unfold res at h
 split at h
 ·cases h
 ·rename_i hc
  have hB:=base_of (chk_ok (by simpa using hc)).2
  unfold resR at h
  split at h
  ·cases h
  ·rename_i s hs
   have hg:=upto_good hB _ (Nat.le_refl _) hs
   have hm:=upto_mean hB _ (Nat.le_refl _) hs
   have hll:=like_len hg.like
   split at h
   ·cases h
   ·cases h
    apply List.ext_getElem?
    intro j
    by_cases hj:j < l.length
    ·rw [List.getElem?_map,some_rat (l:=s.rows) (by omega),some_rat hj]
     show some (unn (rat s.rows j))=some (rat l j)
     congr 1
     have ha:=like_at hg.like hj
     have hk:=(like_kind hg.like hj).1
     have hf:=fill_zero (hB.fill j hj)
     unfold unn
     split
     ·rename_i h27
      rw [hk] at h27
      exact rz_ext8 ha (hm.ot j hj (Or.inr (by rw [h27];exact ⟨rfl,rfl⟩)))
     ·rename_i h27
      rw [hk] at h27
      refine rz_ext8 ?_ (hf h27).symm
      rw [<-ha]
      rfl
    ·rw [List.getElem?_eq_none (by rw [List.length_map];show s.rows.length<=j;omega),List.getElem?_eq_none (by omega)]
end Go.Proofs.YtfgpbdieaflclaaGreat.Nm.Ty
set_option linter.unusedSimpArgs false
namespace Go.Proofs.YtfgpbdieaflclaaGreat.Nm
open Go.RowKit Go.Maps Sp Lx Gr
theorem evt_noG {r:Rz} (h:r.kind ≠ 8/\r.kind ≠ 9/\r.kind ≠ 10):(evt r).1=0:=by
 unfold evt
 rw [if_neg (by omega),if_neg (by omega)]
theorem evt_10 {r:Rz} (h:r.kind=10):evt r=(5,0):=by
 unfold evt
 rw [if_neg (by omega),if_pos h]
theorem evt_5 {r:Rz} (h:(evt r).1=5):r.kind=10:=by
 unfold evt at h
 split at h
 ·cases h
 ·split at h
  ·rename_i h1
   exact h1
  ·cases h
theorem upto_sg {l:List Rz} {a:Nat} (hB:Base l) (hT':Whole (insR l a)) (ha:a < l.length) (hkd:(rat l a).kind=11):∀ (k:Nat) {s s':Rs},k<=l.length->upto (start l) k=.ok s->upto (start (insR l a)) (sg a k)=.ok s'->Rl a s s'
 | 0,s,s',_,h,h'=>by
  rw [sg_lo (Nat.zero_le _)] at h'
  cases h
  cases h'
  exact ⟨rfl,rfl,rfl,rfl,rfl,rfl,rfl⟩
 | k+1,s,s',hk,h,h'=>by
  have hkids:0<=(rat l a).kids:=by rw [hB.tree.kids a ha];omega
  simp only [upto] at h
  cases ht:upto (start l) k with
  | error e=>rw [ht] at h;cases h
  | ok t=>
   rw [ht] at h
   simp only at h
   cases hq:askN k t 3 with
   | error e=>rw [hq] at h;cases h
   | ok u=>
    rw [hq] at h
    cases h
    have hlk:=(upto_good hB k (by omega) ht).like
    by_cases hka:k=a
    ·subst hka
     have hrk:(rat t.rows k).kind=11:=by rw [(like_kind hlk ha).1];exact hkd
     obtain rfl:=ask_none (by rw [hrk];decide) (by rw [hrk];decide) (evt_noG (by rw [hrk];decide)) hq
     rw [sg_hi (show k < k+1 by omega)] at h'
     simp only [upto] at h'
     cases ht':upto (start (insR l k)) k with
     | error e=>rw [ht'] at h';cases h'
     | ok t'=>
      rw [ht'] at h'
      simp only at h'
      have hR:=upto_sg hB hT' ha hkd k (by omega) ht (by rw [sg_lo (Nat.le_refl _)];exact ht')
      cases hq':askN k t' 3 with
      | error e=>rw [hq'] at h';cases h'
      | ok u'=>
       rw [hq'] at h'
       simp only at h'
       have ha':k < s.rows.length:=by rw [like_len hlk];exact ha
       have hr1:(rat t'.rows k).kind=11:=by rw [hR.rows,rat_at ha'];exact hrk
       obtain rfl:=ask_none (by rw [hr1];decide) (by rw [hr1];decide) (evt_noG (by rw [hr1];decide)) hq'
       cases hq2:askN (k+1) u' 3 with
       | error e=>rw [hq2] at h';cases h'
       | ok u2=>
        rw [hq2] at h'
        cases h'
        have hr2:(rat u'.rows (k+1)).kind=23:=by rw [hR.rows,rat_ps ha'];rfl
        obtain rfl:=ask_none (by rw [hr2];decide) (by rw [hr2];decide) (evt_noG (by rw [hr2];decide)) hq2
        exact hR
    ·rw [show sg a (k+1)=sg a k+1 from (sg_succ hka).symm] at h'
     simp only [upto] at h'
     cases ht':upto (start (insR l a)) (sg a k) with
     | error e=>rw [ht'] at h';cases h'
     | ok t'=>
      rw [ht'] at h'
      simp only at h'
      have hR:=upto_sg hB hT' ha hkd k (by omega) ht ht'
      cases hq':askN (sg a k) t' 3 with
      | error e=>rw [hq'] at h';cases h'
      | ok u'=>
       rw [hq'] at h'
       cases h'
       exact (askN_sg hB.tree.whole hT' ha hkids (by omega) hka 3 hlk hq hq' hR).1
theorem res_in {l:List Rz} {p:Pl} (h:res l=.ok p):∃ s,upto (start l) l.length=.ok s/\p.rows=s.rows/\p.us=s.us/\p.qs=s.qs/\p.miss=plc s.ev (5,0)/\Base l/\(wrong [ab1] 0 l).2=false:=by
 unfold res at h
 split at h
 ·cases h
 ·rename_i hc
  have hw:=(chk_ok (by simpa using hc)).2
  unfold resR at h
  split at h
  ·cases h
  ·rename_i s hs
   split at h
   ·cases h
   ·cases h
    exact ⟨s,hs,rfl,rfl,rfl,rfl,base_of hw,hw⟩
structure Iv (l:List Rz) (k:Nat) (s:Rs):Prop where
 us:∀ u ∈ s.us,∃ j,u=j+1/\j < k/\(rat l j).kind=7
 m1:∀ j,j < k->(rat l j).kind=10->lk s.ev (5,0)=some (j+1)
 m2:∀ v,lk s.ev (5,0)=some v->∃ j,v=j+1/\j < k/\(rat l j).kind=10
theorem upto_iv {l:List Rz} (hB:Base l):∀ (k:Nat) {s:Rs},k<=l.length->upto (start l) k=.ok s->Iv l k s
 | 0,s,_,h=>by
  cases h
  exact ⟨fun u hu=>by simp [start] at hu,fun j hj=>by omega,fun v hv=>by simp [start,lk] at hv⟩
 | k+1,s,hk,h=>by
  simp only [upto] at h
  cases ht:upto (start l) k with
  | error e=>rw [ht] at h;cases h
  | ok t=>
   rw [ht] at h
   simp only at h
   cases hq:askN k t 3 with
   | error e=>rw [hq] at h;cases h
   | ok u=>
    rw [hq] at h
    cases h
    have hI:=upto_iv hB k (by omega) ht
    have hlk:=(upto_good hB k (by omega) ht).like
    have hkk:=(like_kind hlk (show k < l.length by omega)).1
    cases h1:askN k t 1 with
    | error c=>rw [askN_err h1 2] at hq;cases hq
    | ok t1=>
     cases h2:askN k t 2 with
     | error c=>rw [askN_err h2 1] at hq;cases hq
     | ok t2=>
      have a1:askD k t=.ok t1:=(askN_succ (j:=0) rfl).symm.trans h1
      have a2:askM k t1=.ok t2:=(askN_succ h1).symm.trans h2
      have a3:askH k t2=.ok s:=(askN_succ h2).symm.trans hq
      have hk1:(rat t1.rows k).kind=(rat l k).kind/\t1.ev=t.ev/\(∀ u ∈ t1.us,u ∈ t.us\/(u=k+1/\(rat l k).kind=7))/\t1.rows.length=t.rows.length:=by
       have hkl:k < t.rows.length:=by rw [like_len hlk];omega
       unfold askD at a1
       split at a1
       ·cases a1
        exact ⟨hkk,rfl,fun u hu=>Or.inl hu,rfl⟩
       split at a1
       ·cases a1
       split at a1
       ·cases a1
       cases a1
       refine ⟨?_,rfl,fun u hu=>?_,numb_len _ _ _⟩
       ·show (rat (numb t.rows k _) k).kind=_
        rw [rat_numb hkl]
        exact hkk
       ·have hu':u ∈ (if (rat t.rows k).kind=7 then t.us++[k+1] else t.us):=hu
        split at hu'
        ·rename_i h7
         rcases List.mem_append.1 hu' with h8 | h8
         ·exact Or.inl h8
         ·exact Or.inr ⟨List.mem_singleton.1 h8,by rw [<-hkk];exact h7⟩
        ·exact Or.inl hu'
      have hk2:(rat t2.rows k).kind=(rat l k).kind/\t2.ev=t1.ev/\t2.us=t1.us:=by
       have hkl:k < t1.rows.length:=by rw [hk1.2.2.2,like_len hlk];omega
       unfold askM at a2
       split at a2
       ·cases a2
        exact ⟨hk1.1,rfl,rfl⟩
       split at a2
       ·cases a2
       split at a2
       ·cases a2
       split at a2
       ·cases a2
       cases a2
       refine ⟨?_,rfl,rfl⟩
       show (rat (numb t1.rows k _) k).kind=_
       rw [rat_numb hkl]
       exact hk1.1
      have hev:t2.ev=t.ev:=hk2.2.1.trans hk1.2.1
      have hus:∀ u ∈ t2.us,∃ j,u=j+1/\j < k+1/\(rat l j).kind=7:=fun u hu=>by
       rw [hk2.2.2] at hu
       rcases hk1.2.2.1 u hu with h3 | ⟨h3,h4⟩
       ·obtain ⟨j,q1,q2,q3⟩:=hI.us u h3
        exact ⟨j,q1,by omega,q3⟩
       ·exact ⟨k,h3,by omega,h4⟩
      unfold askH at a3
      by_cases h10:(rat l k).kind=10
      ·have he:(evt (rat t2.rows k)).1=5:=by rw [evt_10 (hk2.1.trans h10)]
       have hn:evn (rat t2.rows k)=(5,0):=by unfold evn;rw [evt_10 (hk2.1.trans h10)];rfl
       rw [if_neg (by rw [he];decide),hn,hev] at a3
       split at a3
       ·cases a3
       ·rename_i hno
        cases a3
        have hnone:lk t.ev (5,0)=none:=by
         cases hq:lk t.ev (5,0) with
         | none=>rfl
         | some v=>rw [hq] at hno;exact absurd rfl hno
        refine ⟨hus,fun j hj hjk=>?_,fun v hv=>?_⟩
        ·show lk (((5,0),k+1) :: t.ev) (5,0)=_
         simp only [lk,if_true]
         rcases (show j < k\/j=k by omega) with h4 | rfl
         ·rw [hI.m1 j h4 hjk] at hnone
          cases hnone
         ·rfl
        ·have hv':lk (((5,0),k+1) :: t.ev) (5,0)=some v:=hv
         simp only [lk,if_true] at hv'
         cases hv'
         exact ⟨k,rfl,by omega,h10⟩
      ·have hs:lk s.ev (5,0)=lk t.ev (5,0)/\s.us=t2.us:=by
        split at a3
        ·cases a3
         exact ⟨by rw [hev],rfl⟩
        ·rename_i hne
         split at a3
         ·cases a3
         cases a3
         refine ⟨?_,rfl⟩
         show lk ((evn (rat t2.rows k),k+1) :: t2.ev) (5,0)=_
         simp only [lk]
         rw [if_neg,hev]
         intro e
         have h5:(evt (rat t2.rows k)).1=5:=(congrArg Prod.fst e).symm
         exact h10 (hk2.1.symm.trans (evt_5 h5))
       refine ⟨fun u hu=>hus u (by rw [<-hs.2];exact hu),fun j hj hjk=>?_,fun v hv=>?_⟩
       ·rw [hs.1]
        rcases (show j < k\/j=k by omega) with h4 | rfl
        ·exact hI.m1 j h4 hjk
        ·exact absurd hjk h10
       ·rw [hs.1] at hv
        obtain ⟨j,q1,q2,q3⟩:=hI.m2 v hv
        exact ⟨j,q1,by omega,q3⟩
end Go.Proofs.YtfgpbdieaflclaaGreat.Nm
