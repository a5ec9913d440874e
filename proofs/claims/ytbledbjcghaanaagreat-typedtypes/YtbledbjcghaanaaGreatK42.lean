import Derived.Test.YtbledbjcghaanaaGreatK41
import Derived.Test.YtbledbjcghaanaaGreatTk
set_option maxHeartbeats 25600000
set_option maxRecDepth 100000
namespace Go.Proofs.YtbledbjcghaanaaGreat.Nm.Ty
open Go.RowKit Go.Maps Sp Lx Gr Nm
theorem fill_kids {r:Rz} (h:filled r=true):(least r.kind:Int)<=r.kids/\r.kids<=greatest r.kind:=by
 unfold filled at h
 simp only [Bool.and_eq_true] at h
 have h1:=h.2.2.2
 unfold wtn at h1
 simp only [Bool.and_eq_true,decide_eq_true_eq] at h1
 exact h1
theorem fill_num {r:Rz} (h:filled r=true):0<=r.n/\r.n<=1073741824:=by
 unfold filled at h
 simp only [Bool.and_eq_true,wtn,decide_eq_true_eq] at h
 obtain ⟨_,_,⟨h1,h2⟩,_⟩:=h
 unfold lastNum at h2
 split at h2<;>omega
theorem stand24 {d s c:Int} (h:mayStand d s c 24=true):d=19\/d=20:=by
 by_cases h1:d=19\/d=20
 ·exact h1
 ·exfalso
  unfold mayStand at h
  split at h
  ·exact absurd h (by decide)
  ·split at h
   ·simp [isEvent,isDecl,wtn] at h
   ·split at h
    ·exact absurd h (by decide)
    ·split at h
     ·exact absurd h (by decide)
     ·split at h
      ·exact absurd h (by decide)
      ·unfold mayFollow at h
       repeat' split at h
       all_goals exact absurd h (by decide)
def Two (k:Int):Prop:=k=19\/k=20
theorem pop_mem {t:List Ab} : ∀ a ∈ Gr.pop t,a ∈ t:=by
 induction t with
 | nil=>intro a h;exact h
 | cons b t ih=>
  intro a h
  unfold Gr.pop at h
  split at h
  ·exact List.mem_cons_of_mem _ (ih a h)
  ·exact h
theorem pop_tail {t:List Ab} {p:Ab->Prop} (h:∀ a ∈ t,p a):∀ a ∈ (Gr.pop t).tail,p a:=fun a ha=>h a (pop_mem a (List.mem_of_mem_tail ha))
theorem pop_top {t:List Ab} (h:∀ a ∈ t,Two a.kind->a.kids<=(a.seen:Int)):¬ Two (top (Gr.pop t)).kind:=by
 induction t with
 | nil=>show ¬ Two ab0.kind;intro h;rcases h with h | h<;>cases h
 | cons b t ih=>
  unfold Gr.pop
  split
  ·exact ih (fun a ha=>h a (List.mem_cons_of_mem _ ha))
  ·rename_i hc
   exact fun h2=>hc (h b (List.mem_cons_self ..) h2)
theorem bump_mem {t:List Ab} {k:Int} {p:Ab->Prop} (h:∀ a ∈ t,p ⟨a.kind,a.kids,a.seen+1,k,a.levels⟩) (h2:∀ a ∈ t.tail,p a):∀ a ∈ bump k t,p a:=by
 cases t with
 | nil=>intro a h;cases h
 | cons b t=>
  intro a ha
  rcases List.mem_cons.1 ha with rfl | ha
  ·exact h b (List.mem_cons_self ..)
  ·exact h2 a ha
theorem great2 {k:Int} (h:Two k):greatest k=1:=by rcases h with rfl | rfl<;>decide
theorem place_up (l:List Rz):∀ (t:List Ab) (i:Nat) (pk:Int),(wrong t i l).2=false->(Two (top t).kind->Two pk)->(∀ a ∈ t,Two a.kind->a.kids<=1)->(∀ a ∈ t.tail,1<=a.seen)->∀ j,j < l.length->(rat l j).kind=24->(j=0->Two pk)/\(0 < j->Two (rat l (j - 1)).kind):=by
 induction l with
 | nil=>intro t i pk _ _ _ _ j hj;simp at hj
 | cons r l ih=>
  intro t i pk hw htop hk hs j hj h24
  simp only [wrong] at hw
  split at hw
  ·cases hw
  ·rename_i hc
   simp only [Bool.or_eq_true,Bool.not_eq_true',Bool.and_eq_false_iff,not_or,Bool.not_eq_false,Bool.not_eq_true] at hc
   obtain ⟨_,hst,hfl⟩:=hc
   cases j with
   | zero=>
    refine ⟨fun _=>htop ?_,fun h=>absurd h (Nat.lt_irrefl 0)⟩
    have h1:r.kind=24:=h24
    rw [h1] at hst
    exact stand24 hst
   | succ j=>
    refine ⟨fun h=>by omega,fun _=>?_⟩
    have hnew:Two r.kind->r.kids<=1:=fun h=>by have:=(fill_kids hfl).2;rw [great2 h] at this;exact this
    have hbk:∀ a ∈ bump r.kind t,Two a.kind->a.kids<=1:=bump_mem (p:=fun a=>Two a.kind->a.kids<=1) (fun a ha=>hk a ha) (fun a ha=>hk a (List.mem_of_mem_tail ha))
    have hbs:∀ a ∈ bump r.kind t,1<=a.seen:=bump_mem (p:=fun a=>1<=a.seen) (fun a _=>Nat.le_add_left _ _) hs
    have hall:∀ a ∈ (⟨r.kind,r.kids,0,0,0⟩ :: bump r.kind t:List Ab),Two a.kind->a.kids<=1:=fun a ha=>by
     rcases List.mem_cons.1 ha with rfl | ha
     ·exact hnew
     ·exact hbk a ha
    have h1:=ih (past t r 0) (i+1) r.kind hw ?_ (fun a ha=>hall a (pop_mem a ha)) ?_ j (by simpa using hj) (by simpa using h24)
    ·cases j with
     | zero=>exact h1.1 rfl
     | succ j=>exact h1.2 (Nat.succ_pos _)
    ·intro h2
     unfold past at h2
     unfold Gr.pop at h2
     split at h2
     ·exact absurd h2 (pop_top (fun a ha h3=>by have:=hbk a ha h3;have:=hbs a ha;omega))
     ·exact h2
    ·unfold past
     unfold Gr.pop
     split
     ·exact pop_tail hbs
     ·exact hbs
structure Told8 (p:Pl):Prop where
 tree:TreeZ p.rows
 pos:0 < p.rows.length
 qk:p.qs.length<=16
 kids:∀ i,i < p.rows.length->least (rat p.rows i).kind<=km p.rows i/\(km p.rows i:Int)<=greatest (rat p.rows i).kind
 num:∀ i,i < p.rows.length->0<=(rat p.rows i).n/\(rat p.rows i).n<=1073741824
 qn:∀ i,i < p.rows.length->decl (rat p.rows i).kind+nmd (rat p.rows i).kind=1->∃ n:Nat,(rat p.rows i).n=(n:Int)/\n < p.qs.length
 up:∀ i,i < p.rows.length->(rat p.rows i).kind=24->0 < i/\((rat p.rows (i - 1)).kind=19\/(rat p.rows (i - 1)).kind=20)
theorem nm_one {l:List Rz} {qs:List (ByteArray × Bool)} {vs ts:List ByteArray} {us:List Nat} {n:Nat} {x:ByteArray} (h:nameOf l qs vs ts us 1 n=some x):n < qs.length:=by
 unfold nameOf at h
 rw [if_pos rfl] at h
 cases hq:qs[n]? with
 | none=>rw [hq] at h;cases h
 | some q=>exact (List.getElem?_eq_some_iff.1 hq).1
theorem nm_lt8 {l:List Rz} {qs:List (ByteArray × Bool)} {vs ts:List ByteArray} {us:List Nat} {k n:Nat} {x:ByteArray} (h:nameOf l qs vs ts us k n=some x):n < qs.length\/n < vs.length\/n < ts.length\/n < us.length:=by
 unfold nameOf at h
 split at h
 ·cases hq:qs[n]? with
  | none=>rw [hq] at h;cases h
  | some q=>exact Or.inl (List.getElem?_eq_some_iff.1 hq).1
 ·split at h
  ·exact Or.inr (Or.inl (List.getElem?_eq_some_iff.1 h).1)
  ·split at h
   ·exact Or.inr (Or.inr (Or.inl (List.getElem?_eq_some_iff.1 h).1))
   ·split at h
    ·cases hu:us[n]? with
     | none=>rw [hu] at h;cases h
     | some u=>exact Or.inr (Or.inr (Or.inr (List.getElem?_eq_some_iff.1 hu).1))
    ·cases h
theorem res_told8 {l:List Rz} {p:Pl} (h:res l=.ok p):Told8 p:=by
 unfold res at h
 split at h
 ·cases h
 ·rename_i hc
  have hw:=(chk_ok (by simpa using hc)).2
  have hB:=base_of hw
  unfold resR at h
  split at h
  ·cases h
  ·rename_i s hs
   have hg:=upto_good hB _ (Nat.le_refl _) hs
   have hm:=upto_mean hB _ (Nat.le_refl _) hs
   have hll:=like_len hg.like
   split at h
   ·cases h
   ·cases h
    have hk:∀ j,j < l.length->(rat s.rows j).kind=(rat l j).kind:=fun j hj=>(like_kind hg.like hj).1
    refine ⟨like_tree hg.like hB.tree,by show 0 < s.rows.length;have:=hB.pos;omega,hg.q,fun i hi=>?_,fun i hi=>?_,fun i hi h1=>?_,fun i hi h24=>?_⟩
    ·have hi':i < s.rows.length:=hi
     have hi2:i < l.length:=by omega
     obtain ⟨e1,_,e2⟩:=like_kind hg.like hi2
     have h3:=fill_kids (hB.fill i hi2)
     have h4:=(like_tree hg.like hB.tree).kids i hi'
     have h5:(rat s.rows i).kids=(rat l i).kids:=by
      have:=e2
      first | exact this | exact this.1
     show least (rat s.rows i).kind<=km s.rows i/\(km s.rows i:Int)<=greatest (rat s.rows i).kind
     rw [e1]
     omega
    ·have hi':i < s.rows.length:=hi
     have hi2:i < l.length:=by omega
     show 0<=(rat s.rows i).n/\(rat s.rows i).n<=1073741824
     by_cases h0:decl (rat l i).kind+nmd (rat l i).kind=0
     ·rw [hm.ot i hi2 (Or.inr (by omega))]
      exact fill_num (hB.fill i hi2)
     ·obtain ⟨n,h1,h2⟩:=hm.rw i hi2 hi2 (by omega)
      rw [h1]
      have:=nm_lt8 h2
      have:=hg.q
      have:=hg.v
      have:=hg.t
      have:=hg.u
      omega
    ·have hi':i < s.rows.length:=hi
     have hi2:i < l.length:=by omega
     have h1':decl (rat s.rows i).kind+nmd (rat s.rows i).kind=1:=h1
     rw [hk i hi2] at h1'
     obtain ⟨n,h2,h3⟩:=hm.rw i hi2 hi2 (by omega)
     rw [h1'] at h3
     exact ⟨n,h2,nm_one h3⟩
    ·have hi':i < s.rows.length:=hi
     have hi2:i < l.length:=by omega
     have h24':(rat l i).kind=24:=by rw [<-hk i hi2];exact h24
     have h5:=place_up l [ab1] 0 0 hw (fun h=>by rcases h with h | h<;>cases h) (fun a ha h=>by
      have:a=ab1:=by simpa using ha
      subst this
      exact Int.le_refl 1) (fun a ha=>by cases ha) i hi2 h24'
     have h0:0 < i:=by
      rcases Nat.eq_zero_or_pos i with h0 | h0
      ·rcases h5.1 h0 with h | h<;>cases h
      ·exact h0
     refine ⟨h0,?_⟩
     have h6:=h5.2 h0
     show (rat s.rows (i - 1)).kind=19\/(rat s.rows (i - 1)).kind=20
     rw [hk (i - 1) (by omega)]
     exact h6
theorem rdy_of {P:Pg} (hs:P.Sm) (h:IsOk P):Rdy P/\Rdc P:=by
 obtain ⟨p,h1,rfl⟩:=h
 have t:=res_told8 h1
 have hq:∀ i,i < p.rows.length->∀ k:Int,(rat p.rows i).kind=k->decl k+nmd k=1->∃ n:Nat,(rat p.rows i).n=(n:Int)/\n < p.qs.length:=fun i hi k hk h=>t.qn i hi (by rw [hk];exact h)
 have hl:∀ i,i < p.rows.length->0 < least (rat p.rows i).kind->i+1 < p.rows.length:=fun i hi h=>by
  have h1:=(t.kids i hi).1
  have h2:=(kid_at t.tree.whole hi (k:=0) (by omega)).1
  rwa [kid_zero] at h2
 refine ⟨⟨t.tree,⟨fun i hi h=>?_,t.up⟩,fun i hi h=>?_,t.pos,hs.r,t.qk⟩,⟨⟨fun i hi h=>?_,fun i hi h=>?_⟩,fun i hi h=>?_,fun i hi=>?_⟩⟩
 ·rcases h with h | h | h | h | h | h | h
  all_goals exact hq i hi _ h (by decide)
 ·have h':(rat p.rows i).kind=13:=h
  exact hl i hi (by rw [h'];decide)
 ·have h':(rat p.rows i).kind=4:=h
  have h2:=t.kids i hi
  rw [h'] at h2
  have e1:least 4=3:=by decide
  have e2:greatest 4=3:=by decide
  rw [e1,e2] at h2
  show km p.rows i=3
  omega
 ·rcases h with h | h | h
  all_goals
   refine hl i hi ?_
   have h':=h
   change (rat p.rows i).kind=_ at h'
   rw [h']
   decide
 ·exact hq i hi _ h (by decide)
 ·have:=t.num i hi
  exact ⟨by show _<=(rat p.rows i).n;omega,by show (rat p.rows i).n<=_;omega⟩
end Go.Proofs.YtbledbjcghaanaaGreat.Nm.Ty
namespace Go.Proofs.YtbledbjcghaanaaGreat.Nm.Ty
open Go.RowKit Go.Maps Sp Lx Gr
def anyC (f:Nat->Prt):Nat->Bool
 | 0=>false
 | k+1=>anyC f k || (f k).changing
theorem anyC_of {f:Nat->Prt} {k n:Nat} (h:anyC f k=true) (hk:k<=n):anyC f n=true:=by
 induction n with
 | zero=>
  obtain rfl:k=0:=by omega
  exact h
 | succ n ih=>
  by_cases e:k=n+1
  ·subst e;exact h
  ·simp only [anyC,ih (by omega),Bool.true_or]
theorem indexF_any {f:Nat->Prt} {so:Option Addr} {n sc:Nat} {w:World} (h:IsVals w so (fL n (fun i=>(f i).V))) (hn:n<=2932031007317):
  Calls Tryz.prog 111 #[.slice so n sc,.func (.func 71) #[] #[]] w fun e w'=>∃ z:Int,e=.returned (.int .i64 z)/\decide (0<=z)=anyC f n/\Below w.heap.size w w':=by
 have HI:Hid (IsVals w so (fL n (fun i=>(f i).V))):=h
 have hnl:(n:Int)<=2932031007317:=by omega
 clear h
 go_enter Tryz.func111,Tryz.ntmps111
 go_wp2_with fail
 go_loopg [8] n (fun gq x wr=>∃ m:Nat,m<=n/\gq=n - m/\x=.int .i64 m/\anyC f m=false/\Below w.heap.size w wr)
 case atStart=>exact ⟨0,Nat.zero_le _,rfl,by go_num,rfl,Below.refl _ _⟩
 case round=>
  obtain ⟨m,hm,hgk,rfl,hno,hB⟩:=hrel
  have HB:=hdn <| hB
  have HNo:Hid (anyC f m=false):=hno
  have HG:Hid (gk=n - m):=hgk
  clear hgk hB hno
  by_cases hlt:m < n
  ·have hlt':(m:Int) < (n:Int):=by omega
   obtain ⟨g,o,rfl,hg,c0⟩:=(IsVals.below HI.out HB.out) m _ (fL_at hlt)
   have HC:=hdn <| changing_any (f m) wr
   have HA:Hid (anyC f (m+1)=(f m).changing):=by show (anyC f m || (f m).changing)=_;rw [HNo.out];rfl
   have HT:Hid ((f m).changing=true->anyC f n=true):=fun hc=>anyC_of (k:=m+1) (by rw [HA.out];exact hc) (by omega)
   generalize hx:f m=x at *
   clear hx
   go_wp2_with fail
   refine Calls.mono HC.out ?_
   rintro e w2 ⟨rfl,hb2⟩
   have HB2:Hid (Below w.heap.size w w2):=HB.out.trans (hb2.mono HB.out.size)
   clear hb2 HC
   cases hc:x.changing with
   | true=>
    have HT2:=hdn <| HT.out hc
    clear hc HT
    go_wp2_with fail
    go_ret
    exact ⟨(m:Int),rfl,by rw [HT2.out];simp,HB2.out⟩
   | false=>
    have HN2:Hid (anyC f (m+1)=false):=by show _=_;rw [HA.out];exact hc
    clear hc HT
    go_wp2_with fail
    go_roundg (n - (m+1))
    case measure=>have:=HG.out;omega
    case rel=>exact ⟨m+1,by omega,rfl,by go_num,HN2.out,HB2.out⟩
  ·have hlt':¬ (m:Int) < (n:Int):=by omega
   have hme:m=n:=by omega
   have HF:Hid (anyC f n=false):=by rw [hme] at HNo;exact HNo
   clear hme hlt
   go_wp2_with fail
   go_ret
   exact ⟨-1,rfl,by rw [HF.out];rfl,HB.out⟩
theorem containsF_any {f:Nat->Prt} {so:Option Addr} {n sc:Nat} {w:World} (h:IsVals w so (fL n (fun i=>(f i).V))) (hn:n<=2932031007317):
  Calls Tryz.prog 70 #[.slice so n sc,.func (.func 71) #[] #[]] w fun e w'=>e=.returned (.bool (anyC f n))/\Below w.heap.size w w':=by
 have HC:=hdn <| indexF_any (sc:=sc) h hn
 clear h hn
 go_enter Tryz.func70,Tryz.ntmps70
 go_wp2_with fail
 refine Calls.mono HC.out ?_
 rintro e w2 ⟨z,rfl,hz,hb2⟩
 have HZ:=hdn <| hz
 have HB:=hdn <| hb2
 clear hz hb2 HC
 go_wp2
 go_ret
 refine ⟨?_,HB.out⟩
 rw [<-HZ.out]
 rfl
theorem vals_cut {w:World} {g o n i k:Nat} {f:Nat->Value} (h:IsVals w (some ⟨g,o,none⟩) (fL n f)) (hk:i+k<=n):IsVals w (some ⟨g,o+i,none⟩) (fL k (fun j=>f (i+j))):=fun j x hx=>by
 have hj:j < k:=by have:=(List.getElem?_eq_some_iff.1 hx).1;simpa [fL] using this
 rw [fL_at hj] at hx
 cases hx
 obtain ⟨g',o',e,hg,hc⟩:=h (i+j) _ (fL_at (by omega))
 cases e
 exact ⟨g,o+i,rfl,hg,by rw [Nat.add_assoc];exact hc⟩
theorem has_any {l:List Rz} {qv:List Value} {nq:Nat} {ao qo po eo:Option Addr} {ac qc pc ec:Nat} (i:Nat) {w:World} (h:IsRg w l qv ao qo po eo) (hn:l.length<=2932031007317) (hT:TreeZ l) (hi:i < l.length) (hpc:l.length<=pc):
  Calls Tryz.prog 44 #[.agg (rgC l nq ao qo po eo ac qc pc ec),.int .i64 i] w fun e w'=>e=.returned (.bool (anyC (fun j=>rP l (i+j)) (endp l i - i)))/\Below w.heap.size w w':=by
 have hb:Below w.heap.size w (w.alloc (.cells (rgC l nq ao qo po eo ac qc pc ec) 65)):=bAl w _
 have HI:=hdn <| h.below hb
 have HB:=hdn <| hb
 have HX:=hdn <| heap_alloc_new w (.cells (rgC l nq ao qo po eo ac qc pc ec) 65)
 obtain ⟨gp,op,rfl,hgp,_⟩:=HI.out.part hi
 obtain ⟨ge,oe,rfl,hge,ce⟩:=HI.out.ends hi
 obtain ⟨b0,b1,b2,b3⟩:=cells4 HX.out
 obtain ⟨-,he1,he2⟩:=end_kid hT.whole hi
 have hi1:(i:Int) < (l.length:Int):=by omega
 have hin:(i:Int)<=(endp l i:Int):=by omega
 have hen:(endp l i:Int)<=(l.length:Int):=by omega
 have hec:(endp l i:Int)<=(pc:Int):=by omega
 have hln:(l.length:Int)<=2932031007317:=by omega
 have hnz:¬ pc=i:=by omega
 have hA:i<=endp l i:=by omega
 have hBc:endp l i<=pc:=by omega
 have hD1:decide (i<=endp l i)=true:=decide_eq_true hA
 have hD2:decide (endp l i<=pc)=true:=decide_eq_true hBc
 have hnz2:¬ pc - i=0:=by omega
 have HCv:Hid (∀ W:World,Below (w.alloc (.cells (rgC l nq ao qo (some ⟨gp,op,none⟩) (some ⟨ge,oe,none⟩) ac qc pc ec) 65)).heap.size (w.alloc (.cells (rgC l nq ao qo (some ⟨gp,op,none⟩) (some ⟨ge,oe,none⟩) ac qc pc ec) 65)) W->Calls Tryz.prog 70 #[.slice (some ⟨gp,op+i,none⟩) (endp l i - i) (pc - i),.func (.func 71) #[] #[]] W fun e w'=>e=.returned (.bool (anyC (fun j=>rP l (i+j)) (endp l i - i)))/\Below W.heap.size W w'):=fun W hW=>containsF_any (f:=fun j=>rP l (i+j)) (vals_cut (HI.out.below hW).p (by omega)) (by omega)
 dsimp only [rgC] at *
 clear h hb hn hT
 generalize anyC (fun j=>rP l (i+j)) (endp l i - i)=z at *
 generalize endp l i=en at *
 go_enter Tryz.func44,Tryz.ntmps44
 go_wp2_with fail
 generalize (w.alloc (.cells #[.slice ao l.length ac,.slice qo nq qc,.slice (some ⟨gp,op,none⟩) l.length pc,.slice (some ⟨ge,oe,none⟩) l.length ec] 65))=w1 at *
 have hlt:=blk_lt HX.out
 have y2:∀ y:Kin w1,y.u.cell? ⟨w.heap.size,2,none⟩=some (.slice (some ⟨gp,op,none⟩) l.length pc):=fun y=>y.cell (a:=⟨w.heap.size,2,none⟩) hlt b2
 have y3:∀ y:Kin w1,y.u.cell? ⟨w.heap.size,3,none⟩=some (.slice (some ⟨ge,oe,none⟩) l.length ec):=fun y=>y.cell (a:=⟨w.heap.size,3,none⟩) hlt b3
 have ye:∀ y:Kin w1,y.u.cell? ⟨ge,oe+i,none⟩=some (.int .i64 (en:Nat)):=fun y=>y.cell (a:=⟨ge,oe+i,none⟩) hge ce
 have HC3:Hid (∀ (y:Kin w1),Calls Tryz.prog 70 #[.slice (some ⟨gp,op+i,none⟩) (en - i) (pc - i),.func (.func 71) #[] #[]] y.u fun e w'=>e=.returned (.bool z)/\Below y.u.heap.size y.u w'):=fun y=>HCv.out y.u y.ok
 clear HCv b0 b1 b2 b3 ce
 refine wp_region_kin (by kernel_rfl) (by kernel_rfl) ?_
 iterate 9 quiet_step (with_reducible rfl)
 quiet_step (first | with_reducible rfl | exact kin_of (HC3.out _))
 quiet_step (with_reducible rfl)
 refine wpQuiet_nil ?_
 rintro _ ⟨y,rfl⟩
 have HYk:Hid (Below w.heap.size w y.u):=HB.out.trans (y.ok.mono HB.out.size)
 clear y2 y3 ye HC3
 generalize y.u=w4 at *
 go_wp2
 go_ret
 exact ⟨rfl,HYk.out⟩
structure Nq (w wx:World) (pc cc:Array Value):Prop where
 p:wx.heap[w.heap.size]?=some (.cells pc 27 (0,0))
 c:wx.heap[w.heap.size+1]?=some (.cells cc 39 (0,0))
 f:wx.heap[w.heap.size+1+1]?=some (.cells #[.int .i64 0,.int .i64 0] 32 (0,0))
 be:Below w.heap.size w wx
theorem Nq.below {w wx w':World} {pc cc:Array Value} (h:Nq w wx pc cc) (hb:Below wx.heap.size wx w'):Nq w w' pc cc:=⟨(hb.block _ (blk_lt h.p)).trans h.p,(hb.block _ (blk_lt h.c)).trans h.c,(hb.block _ (blk_lt h.f)).trans h.f,h.be.trans (hb.mono h.be.size)⟩
theorem nq_start (w:World) (pc cc:Array Value):Nq w (((w.alloc (.cells pc 27)).alloc (.cells cc 39)).alloc (.cells #[.int .i64 0,.int .i64 0] 32)) pc cc:=by
 refine ⟨?_,?_,?_,((bAl w _).alloc (by simp) _).alloc (by simp;omega) _⟩
 ·rw [alloc_old _ _ _ (by simp;omega),alloc_old _ _ _ (by simp)]
  exact alloc_at _ _ _ rfl
 ·rw [alloc_old _ _ _ (by simp)]
  exact alloc_at _ _ _ (by simp)
 ·exact alloc_at _ _ _ (by simp)
def conZ (l:List Rz) (V:Nat->Int) (row:Int):Int × Int × Int:=if row < 0\/(l.length:Int)<=row then (0,1,0) else if (rP l row.toNat).is=0\/anyC (fun j=>rP l (row.toNat+j)) (endp l row.toNat - row.toNat)=true then (0,42,row) else (V row.toNat,0,0)
def ConQ (P:Pg) (size:Int) (cs:Nat->Int) (nc:Nat) (row:Int) (e:Ending):Prop:=(¬ IsOk P/\e=.returned (.tuple #[.int .i64 0,.agg #[.int .i64 23,.int .i64 0]])) \/
 (IsOk P/\(ruZ P size cs nc).1 ≠ 0/\e=.returned (.tuple #[.int .i64 0,.agg #[.int .i64 (ruZ P size cs nc).1,.int .i64 (ruZ P size cs nc).2]])) \/
 (IsOk P/\(ruZ P size cs nc).1=0/\e=.returned (.tuple #[.int .i64 (conZ P.rows (vB P.rows size cs P.rows.length) row).1,.agg #[.int .i64 (conZ P.rows (vB P.rows size cs P.rows.length) row).2.1,.int .i64 (conZ P.rows (vB P.rows size cs P.rows.length) row).2.2]]))
theorem conQ_ok {P:Pg} {size:Int} {cs:Nat->Int} {nc:Nat} {row a b c:Int} (h1:IsOk P) (h2:(ruZ P size cs nc).1=0) (h3:conZ P.rows (vB P.rows size cs P.rows.length) row=(a,b,c)):ConQ P size cs nc row (.returned (.tuple #[.int .i64 a,.agg #[.int .i64 b,.int .i64 c]])):=Or.inr (Or.inr ⟨h1,h2,by rw [h3]⟩)
theorem tconst_any {P:Pg} {ao qo vo tto uo oo co:Option Addr} {ac qc vc tc uc oc nc cc:Nat} {size row:Int} {cs:Nat->Int} {w:World} (h:RdG w P ao qo vo tto uo oo) (hs:P.Sm) (hnil:ao=none->ac=0) (hR:IsOk P->Rdy P) (hD:IsOk P->Rdc P) (hc:IsVals w co (fL nc (fun i=>.int .i64 (cs i)))) (hcl:nc<=17592186043904) (hsz:in64 size) (hcs:∀ i,in64 (cs i)):
  Calls Tryz.prog 23 #[pvG P ao qo vo tto uo oo ac qc vc tc uc oc,.agg #[.int .i64 size,.slice co nc cc],.int .i64 row] w fun e w'=>Below w.heap.size w w'/\ConQ P size cs nc row e:=by
 have H1:Hid (Nq w (((w.alloc (.cells #[.string P.name,.slice ao P.rows.length ac,.slice qo P.qs.length qc,.slice vo P.vs.length vc,.slice tto P.ts.length tc,.slice uo P.us.length uc,.slice oo P.on.length oc,.int .i64 P.miss] 27)).alloc (.cells #[.int .i64 size,.slice co nc cc] 39)).alloc (.cells #[.int .i64 0,.int .i64 0] 32)) #[.string P.name,.slice ao P.rows.length ac,.slice qo P.qs.length qc,.slice vo P.vs.length vc,.slice tto P.ts.length tc,.slice uo P.us.length uc,.slice oo P.on.length oc,.int .i64 P.miss] #[.int .i64 size,.slice co nc cc]):=nq_start w _ _
 have HC:Hid (IsVals w co (fL nc (fun i=>.int .i64 (cs i)))):=hc
 have HSz:Hid (in64 size/\(∀ i,in64 (cs i))/\nc<=17592186043904):=⟨hsz,hcs,hcl⟩
 have HU:=hdn <| under_any (ac:=ac) (qc:=qc) (vc:=vc) (tc:=tc) (uc:=uc) (oc:=oc) (cc:=cc) (size:=size) (h.below H1.out.be) hs hnil hR (hc.below H1.out.be) hcl
 have HRd:=hdn <| hR
 have HDd:=hdn <| hD
 have HZl:Hid ((ruZ P size cs nc).1=0->nc=P.qs.length):=ruZ_len
 obtain ⟨k0,k1,k2,k3,k4,k5,k6,k7⟩:=pol8 H1.out.p
 obtain ⟨d0,d1⟩:=cells2 H1.out.c
 have hient:=is_enter
 have hifn:=is_fn
 dsimp only [pvG] at *
 clear h hs hnil hR hc hcl hsz hcs hD
 go_enter Tryz.func23,Tryz.ntmps23
 go_wp2_with fail
 generalize (((w.alloc (.cells #[.string P.name,.slice ao P.rows.length ac,.slice qo P.qs.length qc,.slice vo P.vs.length vc,.slice tto P.ts.length tc,.slice uo P.us.length uc,.slice oo P.on.length oc,.int .i64 P.miss] 27)).alloc (.cells #[.int .i64 size,.slice co nc cc] 39)).alloc (.cells #[.int .i64 0,.int .i64 0] 32))=w1 at *
 refine Calls.mono HU.out ?_
 rintro e w2 ⟨hb2,hr⟩
 have H2:=hdn <| H1.out.below hb2
 clear HU H1 hb2 k0 k1 k2 k3 k4 k5 k6 k7 d0 d1
 rcases hr with ⟨hno,rfl⟩ | ⟨his,po,eo,pc,ec,rfl,hIr,hloc,hcap⟩
 ·have HNo:Hid (¬ IsOk P):=hno
  clear hno
  have hbW:Below w2.heap.size w2 ((w2.alloc (.cells #[pz,pz,pz,pz] 65)).alloc (.cells #[.int .i64 23,.int .i64 0] 32)):=(bAl w2 _).alloc (by simp) _
  have H3:=hdn <| H2.out.below hbW
  have HX:Hid (((w2.alloc (.cells #[pz,pz,pz,pz] 65)).alloc (.cells #[.int .i64 23,.int .i64 0] 32)).heap[w2.heap.size+1]?=some (.cells #[.int .i64 23,.int .i64 0] 32 (0,0))/\w.heap.size+1+1 < w2.heap.size):=⟨alloc_at _ _ _ (by simp),blk_lt H2.out.f⟩
  obtain ⟨q0,q1⟩:=cells2 HX.out.1
  clear hbW
  go_wp2_with fail
  generalize ((w2.alloc (.cells #[pz,pz,pz,pz] 65)).alloc (.cells #[.int .i64 23,.int .i64 0] 32))=w3 at *
  obtain ⟨f0,f1⟩:=cells2 H3.out.f
  have hf:∀ j,w3.frozen? ⟨w.heap.size+1+1,j,none⟩=false:=fun j=>by have:=H3.out.f;simp only [World.frozen?,this];rfl
  have hlt2:=HX.out.2
  generalize w2.heap.size=m2 at *
  have n1:¬ m2+1=w.heap.size+1+1:=by omega
  go_region
  all_goals
   go_wp2_with fail
   obtain ⟨c1,c2,c3⟩:=put2M (B:=w.heap.size+1+1) (v0:=.int .i64 23) (v1:=.int .i64 0) H3.out.be (by omega) H3.out.f
   obtain ⟨y0,y1⟩:=cells2 c1
   refine bodyPost_ret (v:=.tuple #[.int .i64 0,.agg #[.int .i64 23,.int .i64 0]]) (by simp [results,Tryz.results23,go_sem,y0,y1]) rfl ?_
   exact ⟨c2.drew,Or.inl ⟨HNo.out,rfl⟩⟩
 ·have HIs:Hid (IsOk P):=his
  have HIr:=hdn <| hIr
  have HCap:Hid (P.rows.length<=pc):=hcap
  have HQ1:Hid ((ruZ P size cs nc).1 ≠ 0->ConQ P size cs nc row (.returned (.tuple #[.int .i64 0,.agg #[.int .i64 (ruZ P size cs nc).1,.int .i64 (ruZ P size cs nc).2]]))):=fun h1=>Or.inr (Or.inl ⟨HIs.out,h1,rfl⟩)
  have HQ2:Hid (∀ a b c,(ruZ P size cs nc).1=0->conZ P.rows (vB P.rows size cs P.rows.length) row=(a,b,c)->ConQ P size cs nc row (.returned (.tuple #[.int .i64 a,.agg #[.int .i64 b,.int .i64 c]]))):=fun a b c h1 h2=>conQ_ok HIs.out h1 h2
  clear his hIr hloc hcap
  generalize ruZ P size cs nc=rz at *
  dsimp only [rgC] at *
  by_cases h0:rz.1=0
  ·have h0':(rz.1 != 0)=false:=by simp [h0]
   have HQ3:=hdn <| fun a b c=>HQ2.out a b c h0
   have HNc:Hid (nc=P.qs.length):=HZl.out h0
   have hbW:Below w2.heap.size w2 ((w2.alloc (.cells #[.slice ao P.rows.length ac,.slice qo P.qs.length qc,.slice po P.rows.length pc,.slice eo P.rows.length ec] 65)).alloc (.cells #[.int .i64 rz.1,.int .i64 rz.2] 32)):=(bAl w2 _).alloc (by simp) _
   have H3:=hdn <| H2.out.below hbW
   have HI3:=hdn <| HIr.out.below hbW
   have HX:Hid (((w2.alloc (.cells #[.slice ao P.rows.length ac,.slice qo P.qs.length qc,.slice po P.rows.length pc,.slice eo P.rows.length ec] 65)).alloc (.cells #[.int .i64 rz.1,.int .i64 rz.2] 32)).heap[w2.heap.size]?=some (.cells #[.slice ao P.rows.length ac,.slice qo P.qs.length qc,.slice po P.rows.length pc,.slice eo P.rows.length ec] 65 (0,0))/\((w2.alloc (.cells #[.slice ao P.rows.length ac,.slice qo P.qs.length qc,.slice po P.rows.length pc,.slice eo P.rows.length ec] 65)).alloc (.cells #[.int .i64 rz.1,.int .i64 rz.2] 32)).heap[w2.heap.size+1]?=some (.cells #[.int .i64 rz.1,.int .i64 rz.2] 32 (0,0))/\w.heap.size+1+1 < w2.heap.size):=⟨by rw [alloc_old _ _ _ (by simp)];exact alloc_at _ _ _ rfl,alloc_at _ _ _ (by simp),blk_lt H2.out.f⟩
   obtain ⟨q0,q1⟩:=cells2 HX.out.2.1
   clear hbW h0 HQ1 HQ2 HZl
   go_upto_region 4 with fail
   generalize ((w2.alloc (.cells #[.slice ao P.rows.length ac,.slice qo P.qs.length qc,.slice po P.rows.length pc,.slice eo P.rows.length ec] 65)).alloc (.cells #[.int .i64 rz.1,.int .i64 rz.2] 32))=w3 at *
   clear q0 q1
   obtain ⟨k0,k1,k2,k3,k4,k5,k6,k7⟩:=pol8 H3.out.p
   obtain ⟨f0,f1⟩:=cells2 H3.out.f
   have hf:∀ j,w3.frozen? ⟨w.heap.size+1+1,j,none⟩=false:=fun j=>by have:=H3.out.f;simp only [World.frozen?,this];rfl
   have HRy:=hdn <| HRd.out HIs.out
   have HDy:=hdn <| HDd.out HIs.out
   have hln:(P.rows.length:Int)<=2932031007317:=by have:=HRy.out.m;omega
   clear HRd HDd
   by_cases hlo:row < 0
   ·have HE:=hdn <| HQ3.out 0 1 0 (if_pos (Or.inl hlo))
    have hlo':decide (row < 0)=true:=decide_eq_true hlo
    clear HQ3
    go_wp2_with fail
    obtain ⟨c1,c2,c3⟩:=put2M (B:=w.heap.size+1+1) (v0:=.int .i64 1) (v1:=.int .i64 0) H3.out.be (by omega) H3.out.f
    obtain ⟨y0,y1⟩:=cells2 c1
    refine bodyPost_ret (v:=.tuple #[.int .i64 0,.agg #[.int .i64 1,.int .i64 0]]) (by simp [results,Tryz.results23,go_sem,y0,y1]) rfl ?_
    exact ⟨c2,HE.out⟩
   ·by_cases hhi:(P.rows.length:Int)<=row
    ·have HE:=hdn <| HQ3.out 0 1 0 (if_pos (Or.inr hhi))
     have hlo':decide (row < 0)=false:=decide_eq_false hlo
     have hhi':decide (row ≥ (P.rows.length:Int))=true:=decide_eq_true hhi
     clear HQ3
     go_wp2_with fail
     obtain ⟨c1,c2,c3⟩:=put2M (B:=w.heap.size+1+1) (v0:=.int .i64 1) (v1:=.int .i64 0) H3.out.be (by omega) H3.out.f
     obtain ⟨y0,y1⟩:=cells2 c1
     refine bodyPost_ret (v:=.tuple #[.int .i64 0,.agg #[.int .i64 1,.int .i64 0]]) (by simp [results,Tryz.results23,go_sem,y0,y1]) rfl ?_
     exact ⟨c2,HE.out⟩
    ·have HQ4:Hid (∀ i:Nat,row=(i:Int)->conZ P.rows (vB P.rows size cs P.rows.length) row=if (rP P.rows i).is=0\/anyC (fun j=>rP P.rows (i+j)) (endp P.rows i - i)=true then (0,42,(i:Int)) else (vB P.rows size cs P.rows.length i,0,0)):=fun i e=>by
      show _=_
      unfold conZ
      rw [if_neg (by omega),e,Int.toNat_natCast]
     obtain ⟨i,rfl⟩:∃ i:Nat,row=(i:Int):=⟨row.toNat,by omega⟩
     have HQ5:=hdn <| HQ4.out i rfl
     have hi:i < P.rows.length:=by omega
     have hi':(i:Int) < (P.rows.length:Int):=by omega
     have hhi':decide ((i:Int) ≥ (P.rows.length:Int))=false:=decide_eq_false hhi
     obtain ⟨gp,op,rfl,hgp,cp⟩:=HI3.out.part hi
     obtain ⟨t0,t1,t2,t3⟩:=cells4 HX.out.1
     have HIa:=hdn <| is_any (rP P.rows i) w3
     clear hlo hhi HQ4
     generalize hxp:rP P.rows i=xp at HIa cp HQ5
     clear hxp
     go_wp2_with fail
     refine Calls.mono HIa.out ?_
     rintro e w4 ⟨rfl,hb4⟩
     have H4:=hdn <| H3.out.below hb4
     have HI4:=hdn <| HI3.out.below hb4
     have HX4:Hid (w4.heap[w2.heap.size]?=some (.cells #[.slice ao P.rows.length ac,.slice qo P.qs.length qc,.slice (some ⟨gp,op,none⟩) P.rows.length pc,.slice eo P.rows.length ec] 65 (0,0))):=(hb4.block _ (blk_lt HX.out.1)).trans HX.out.1
     have HL2:Hid (w.heap.size+1+1 < w2.heap.size):=HX.out.2.2
     have HHi:Hid (i < P.rows.length):=hi
     clear hb4 HIa k0 k1 k2 k3 k4 k5 k6 k7 f0 f1 hf t0 t1 t2 t3 cp H3 HI3 HX hgp
     obtain ⟨t0,t1,t2,t3⟩:=cells4 HX4.out
     obtain ⟨f0,f1⟩:=cells2 H4.out.f
     have hf:∀ j,w4.frozen? ⟨w.heap.size+1+1,j,none⟩=false:=fun j=>by have:=H4.out.f;simp only [World.frozen?,this];rfl
     by_cases hz:xp.is=0
     ·have HE:=hdn <| HQ3.out 0 42 i (HQ5.out.trans (if_pos (Or.inl hz)))
      have hz':(xp.is == 0)=true:=by simpa using hz
      clear HQ3 HQ5 hz
      go_wp2_with fail
      obtain ⟨c1,c2,c3⟩:=put2M (B:=w.heap.size+1+1) (v0:=.int .i64 42) (v1:=.int .i64 (i:Int)) H4.out.be (by omega) H4.out.f
      obtain ⟨y0,y1⟩:=cells2 c1
      refine bodyPost_ret (v:=.tuple #[.int .i64 0,.agg #[.int .i64 42,.int .i64 (i:Int)]]) (by simp [results,Tryz.results23,go_sem,y0,y1]) rfl ?_
      exact ⟨c2,HE.out⟩
     ·have hz':(xp.is == 0)=false:=by simpa using hz
      have HHa:Hid (Calls Tryz.prog 44 #[.agg #[.slice ao P.rows.length ac,.slice qo P.qs.length qc,.slice (some ⟨gp,op,none⟩) P.rows.length pc,.slice eo P.rows.length ec],.int .i64 (i:Int)] w4 fun e w'=>e=.returned (.bool (anyC (fun j=>rP P.rows (i+j)) (endp P.rows i - i)))/\Below w4.heap.size w4 w'):=has_any i HI4.out HRy.out.m HRy.out.t HHi.out HCap.out
      have HQ6:Hid (anyC (fun j=>rP P.rows (i+j)) (endp P.rows i - i)=true->ConQ P size cs nc (i:Int) (.returned (.tuple #[.int .i64 0,.agg #[.int .i64 42,.int .i64 (i:Int)]]))):=fun e=>HQ3.out 0 42 i (HQ5.out.trans (if_pos (Or.inr e)))
      have HQ7:Hid (anyC (fun j=>rP P.rows (i+j)) (endp P.rows i - i)=false->ConQ P size cs nc (i:Int) (.returned (.tuple #[.int .i64 (vB P.rows size cs P.rows.length i),.agg #[.int .i64 0,.int .i64 0]]))):=fun e=>HQ3.out _ 0 0 (HQ5.out.trans (if_neg (by rw [e];rintro (h1 | h1);exact hz h1;cases h1)))
      clear hz HQ3 HQ5
      generalize anyC (fun j=>rP P.rows (i+j)) (endp P.rows i - i)=ch at *
      go_wp2_with fail
      refine Calls.mono HHa.out ?_
      rintro e w5 ⟨rfl,hb5⟩
      have H5:=hdn <| H4.out.below hb5
      have HI5:=hdn <| HI4.out.below hb5
      have HX5:Hid (w5.heap[w2.heap.size]?=some (.cells #[.slice ao P.rows.length ac,.slice qo P.qs.length qc,.slice (some ⟨gp,op,none⟩) P.rows.length pc,.slice eo P.rows.length ec] 65 (0,0))):=(hb5.block _ (blk_lt HX4.out)).trans HX4.out
      clear hb5 HHa t0 t1 t2 t3 f0 f1 hf HX4 H4 HI4
      obtain ⟨t0,t1,t2,t3⟩:=cells4 HX5.out
      obtain ⟨f0,f1⟩:=cells2 H5.out.f
      obtain ⟨d0,d1⟩:=cells2 H5.out.c
      have hf:∀ j,w5.frozen? ⟨w.heap.size+1+1,j,none⟩=false:=fun j=>by have:=H5.out.f;simp only [World.frozen?,this];rfl
      cases ch with
      | true=>
       have HE:=hdn <| HQ6.out rfl
       clear HQ6 HQ7
       go_wp2_with fail
       obtain ⟨c1,c2,c3⟩:=put2M (B:=w.heap.size+1+1) (v0:=.int .i64 42) (v1:=.int .i64 (i:Int)) H5.out.be (by omega) H5.out.f
       obtain ⟨y0,y1⟩:=cells2 c1
       refine bodyPost_ret (v:=.tuple #[.int .i64 0,.agg #[.int .i64 42,.int .i64 (i:Int)]]) (by simp [results,Tryz.results23,go_sem,y0,y1]) rfl ?_
       exact ⟨c2,HE.out⟩
      | false=>
       have HE:Hid (ConQ P size cs nc (i:Int) (.returned (.tuple #[.int .i64 (vB P.rows size cs P.rows.length i),.agg #[.int .i64 0,.int .i64 0]]))):=HQ7.out rfl
       have HVa:Hid (Calls Tryz.prog 45 #[.agg #[.slice ao P.rows.length ac,.slice qo P.qs.length qc,.slice (some ⟨gp,op,none⟩) P.rows.length pc,.slice eo P.rows.length ec],.agg #[.int .i64 size,.slice co nc cc]] w5 fun e w'=>∃ g,e=.returned (.slice (some ⟨g,0,none⟩) P.rows.length P.rows.length)/\w5.heap.size<=g/\RowI w' g P.rows.length (vB P.rows size cs P.rows.length)/\Below w5.heap.size w5 w'):=values_any HI5.out (by have:=HRy.out.m;omega) HRy.out.t HRy.out.n (HC.out.below H5.out.be) HSz.out.2.2 (fun i hi hk=>by rw [HNc.out];exact HDy.out.c i hi hk) HDy.out.n HSz.out.1 HSz.out.2.1
       clear HQ6 HQ7
       generalize vB P.rows size cs P.rows.length=V at *
       go_wp2_with fail
       refine Calls.mono HVa.out ?_
       rintro e w6 ⟨g,rfl,hg,hrow,hb6⟩
       have H6:=hdn <| H5.out.below hb6
       have cV:=hrow.cell HHi.out
       clear hb6 HVa hrow t0 t1 t2 t3 f0 f1 hf d0 d1 HX5 H5 HI5
       obtain ⟨f0,f1⟩:=cells2 H6.out.f
       have hf:∀ j,w6.frozen? ⟨w.heap.size+1+1,j,none⟩=false:=fun j=>by have:=H6.out.f;simp only [World.frozen?,this];rfl
       generalize V i=vi at *
       go_wp2_with fail
       obtain ⟨c1,c2,c3⟩:=put2M (B:=w.heap.size+1+1) (v0:=.int .i64 0) (v1:=.int .i64 0) H6.out.be (by omega) H6.out.f
       obtain ⟨y0,y1⟩:=cells2 c1
       refine bodyPost_ret (v:=.tuple #[.int .i64 vi,.agg #[.int .i64 0,.int .i64 0]]) (by simp [results,Tryz.results23,go_sem,y0,y1]) rfl ?_
       exact ⟨c2,HE.out⟩
  ·have h0':(rz.1 != 0)=true:=by simp [h0]
   have HE:=hdn <| HQ1.out h0
   clear h0 HQ1 HQ2 HIr
   have hbW:Below w2.heap.size w2 ((w2.alloc (.cells #[.slice ao P.rows.length ac,.slice qo P.qs.length qc,.slice po P.rows.length pc,.slice eo P.rows.length ec] 65)).alloc (.cells #[.int .i64 rz.1,.int .i64 rz.2] 32)):=(bAl w2 _).alloc (by simp) _
   have H3:=hdn <| H2.out.below hbW
   have HX:Hid (((w2.alloc (.cells #[.slice ao P.rows.length ac,.slice qo P.qs.length qc,.slice po P.rows.length pc,.slice eo P.rows.length ec] 65)).alloc (.cells #[.int .i64 rz.1,.int .i64 rz.2] 32)).heap[w2.heap.size+1]?=some (.cells #[.int .i64 rz.1,.int .i64 rz.2] 32 (0,0))/\w.heap.size+1+1 < w2.heap.size):=⟨alloc_at _ _ _ (by simp),blk_lt H2.out.f⟩
   obtain ⟨q0,q1⟩:=cells2 HX.out.1
   clear hbW
   go_wp2_with fail
   generalize ((w2.alloc (.cells #[.slice ao P.rows.length ac,.slice qo P.qs.length qc,.slice po P.rows.length pc,.slice eo P.rows.length ec] 65)).alloc (.cells #[.int .i64 rz.1,.int .i64 rz.2] 32))=w3 at *
   obtain ⟨f0,f1⟩:=cells2 H3.out.f
   have hf:∀ j,w3.frozen? ⟨w.heap.size+1+1,j,none⟩=false:=fun j=>by have:=H3.out.f;simp only [World.frozen?,this];rfl
   have hlt2:=HX.out.2
   generalize w2.heap.size=m2 at *
   have n1:¬ m2+1=w.heap.size+1+1:=by omega
   go_region
   all_goals
    go_wp2_with fail
    obtain ⟨c1,c2,c3⟩:=put2M (B:=w.heap.size+1+1) (v0:=.int .i64 rz.1) (v1:=.int .i64 rz.2) H3.out.be (by omega) H3.out.f
    obtain ⟨y0,y1⟩:=cells2 c1
    refine bodyPost_ret (v:=.tuple #[.int .i64 0,.agg #[.int .i64 rz.1,.int .i64 rz.2]]) (by simp [results,Tryz.results23,go_sem,y0,y1]) rfl ?_
    exact ⟨c2.drew,HE.out⟩
end Go.Proofs.YtbledbjcghaanaaGreat.Nm.Ty
