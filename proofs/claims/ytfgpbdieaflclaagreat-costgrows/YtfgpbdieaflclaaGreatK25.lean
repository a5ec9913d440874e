import Derived.Test.YtfgpbdieaflclaaGreatK24
set_option maxHeartbeats 12800000
set_option maxRecDepth 100000
namespace Go.Proofs.YtfgpbdieaflclaaGreat.Nm
open Go.RowKit Go.Maps Sp Lx Gr
def zeroG:Pg:=⟨⟨#[]⟩,[],[],[],[],[],[],0⟩
def resP (l:List Rz):Pg:=match res l with | .error _=>zeroG | .ok p=>p.g
def resC (l:List Rz):Nat × Nat:=match res l with | .error ci=>ci | .ok _=>(0,0)
theorem zero_rd (W:World):RdG W zeroG none none none none none none:=⟨fun i x hx=>by simp [zeroG] at hx,fun i x hx=>by simp [zeroG,qF] at hx,fun i x hx=>by simp [zeroG] at hx,fun i x hx=>by simp [zeroG] at hx,fun i x hx=>by simp [zeroG] at hx,fun i x hx=>by simp [zeroG] at hx⟩
theorem IsPl.all {w:World} {base:Nat} {v:Value} {p:Pl} (h:IsPl w base v p):∃ rb qo vo tto uo oo ac qc vc tc uc oc,v=pv p (some ⟨rb,0,none⟩) qo vo tto uo oo ac qc vc tc uc oc/\p.us.length<=uc/\∀ W:World,(∀ k,base<=k->k < w.heap.size->W.heap[k]?=w.heap[k]?)->Rd W p (some ⟨rb,0,none⟩) qo vo tto uo oo/\IsNats W uo p.us:=by
 obtain ⟨rb,cap,qv,vv,tv,uv,ov,rfl,hrb,hr,hq,hv,ht,hu,ho⟩:=h.ex
 obtain ⟨qo,qc,rfl⟩:=own_form hq
 obtain ⟨vo,vc,rfl⟩:=own_form hv
 obtain ⟨tto,tc,rfl⟩:=own_form ht
 obtain ⟨uo,uc,rfl⟩:=own_form hu
 obtain ⟨oo,oc,rfl⟩:=own_form ho
 refine ⟨rb,qo,vo,tto,uo,oo,cap,qc,vc,tc,uc,oc,rfl,(nats_of hu).2,fun W hW=>?_⟩
 have kp:∀ {T:TypeId} {sz n:Nat} {v':Value} {xs:List Value},w.ownsRow base T sz v' n xs->W.ownsRow base T sz v' n xs:=fun h1=>own_keepB h1 (fun k hk=>hW k (World.ownsRow.lt h1 k hk).1 (World.ownsRow.lt h1 k hk).2)
 refine ⟨⟨(hr.same (hW rb hrb hr.lt)).rz,vals_of (kp hq),vals_of (kp hv),vals_of (kp ht),?_,vals_of (kp ho)⟩,(nats_of (kp hu)).1⟩
 have:=vals_of (kp hu)
 simpa [iv,nv,List.map_map,Function.comp_def] using this
theorem rd_g {W:World} {p:Pl} {ao qo vo tto uo oo:Option Addr} (h:Rd W p ao qo vo tto uo oo):RdG W p.g ao qo vo tto uo oo:=⟨h.r,h.q,h.v,h.t,h.u,h.o⟩
theorem filled_num {r:Rz} (h:filled r=true):0<=r.n/\r.n<=1073741824/\(r.kind ≠ 27->r.n=0):=by
 unfold filled at h
 simp only [Bool.and_eq_true,wtn,decide_eq_true_eq] at h
 obtain ⟨_,_,⟨h1,h2⟩,_⟩:=h
 unfold lastNum at h2
 split at h2
 ·rename_i h27
  exact ⟨h1,h2,fun e=>absurd h27 e⟩
 ·exact ⟨h1,by omega,fun _=>by omega⟩
structure Told7 (l:List Rz) (p:Pl):Prop where
 len:p.rows.length=l.length
 pos:0 < l.length
 onl:p.on.length=p.qs.length
 row:∀ j,j < l.length->(rat p.rows j).kind=(rat l j).kind/\(rat p.rows j).name=(rat l j).name/\0<=(rat p.rows j).n/\(rat p.rows j).n<=1073741824/\(decl (rat l j).kind+nmd (rat l j).kind=0\/∃ n:Nat,(rat p.rows j).n=(n:Int)/\nameOf l p.qs p.vs p.ts p.us (decl (rat l j).kind+nmd (rat l j).kind) n=some (rat l j).name)
 up:∀ u ∈ p.us,1<=u/\u < l.length
 back:p.rows.map unn=l
 sm:p.g.Sm
theorem nm_lt {l:List Rz} {qs:List (ByteArray × Bool)} {vs ts:List ByteArray} {us:List Nat} {k n:Nat} {x:ByteArray} (h:nameOf l qs vs ts us k n=some x):n < qs.length\/n < vs.length\/n < ts.length\/n < us.length:=by
 unfold nameOf at h
 split at h
 ·cases hq:qs[n]? with
  | none=>rw [hq] at h;cases h
  | some q=>exact Or.inl (List.getElem?_eq_some_iff.1 hq).1
 ·split at h
  ·exact Or.inr (Or.inl (List.getElem?_eq_some_iff.1 h).1)
  ·split at h
   ·exact Or.inr (Or.inr (Or.inl (List.getElem?_eq_some_iff.1 h).1))
   ·split at h
    ·cases hu:us[n]? with
     | none=>rw [hu] at h;cases h
     | some u=>exact Or.inr (Or.inr (Or.inr (List.getElem?_eq_some_iff.1 hu).1))
    ·cases h
theorem rz_ext {a b:Rz} (h:clr a=clr b) (hn:a.n=b.n):a=b:=by
 cases a
 cases b
 simp [clr] at h hn ⊢
 exact ⟨h.1,h.2.1,h.2.2.1,hn,h.2.2.2⟩
theorem res_told7 {l:List Rz} {p:Pl} (hl:l.length<=2932031007317) (h:res l=.ok p):Told7 l p:=by
 have hsm:=(res_sm hl h).1
 unfold res at h
 split at h
 ·cases h
 ·rename_i hc
  have hB:=base_of (chk_ok (by simpa using hc)).2
  unfold resR at h
  split at h
  ·cases h
  ·rename_i s hs
   have hg:=upto_good hB _ (Nat.le_refl _) hs
   have hm:=upto_mean hB _ (Nat.le_refl _) hs
   have hll:=like_len hg.like
   split at h
   ·cases h
   ·cases h
    have hot:∀ j,j < l.length->decl (rat l j).kind=0/\nmd (rat l j).kind=0->(rat s.rows j).n=(rat l j).n:=fun j hj h0=>hm.ot j hj (Or.inr h0)
    refine ⟨hll,hB.pos,onsOf_len _ _,fun j hj=>?_,fun u hu=>⟨hm.up u hu,hg.ul u hu⟩,?_,hsm⟩
    ·have hk:=like_kind hg.like hj
     have hf:=filled_num (hB.fill j hj)
     refine ⟨hk.1,hk.2.1,?_⟩
     by_cases h0:decl (rat l j).kind+nmd (rat l j).kind=0
     ·have e:=hot j hj (by omega)
      exact ⟨by rw [e];exact hf.1,by rw [e];exact hf.2.1,Or.inl h0⟩
     ·obtain ⟨n,h1,h2⟩:=hm.rw j hj hj (by omega)
      refine ⟨by rw [h1];omega,?_,Or.inr ⟨n,h1,h2⟩⟩
      rw [h1]
      have:=nm_lt h2
      have:=hg.q
      have:=hg.v
      have:=hg.t
      have:=hg.u
      omega
    ·apply List.ext_getElem?
     intro j
     by_cases hj:j < l.length
     ·rw [List.getElem?_map,some_rat (l:=s.rows) (by omega),some_rat hj]
      show some (unn (rat s.rows j))=some (rat l j)
      congr 1
      have ha:=like_at hg.like hj
      have hk:=(like_kind hg.like hj).1
      have hf:=filled_num (hB.fill j hj)
      unfold unn
      split
      ·rename_i h27
       rw [hk] at h27
       exact rz_ext ha (hot j hj (by rw [h27];exact ⟨rfl,rfl⟩))
      ·rename_i h27
       rw [hk] at h27
       refine rz_ext ?_ (hf.2.2 h27).symm
       rw [<-ha]
       rfl
     ·rw [List.getElem?_eq_none (by rw [List.length_map];show s.rows.length<=j;omega),List.getElem?_eq_none (by omega)]
structure Cls (p:Pl):Prop where
 ahead:∀ k (hk:k < p.us.length) j,p.us[k]<=j->j < endp p.rows p.us[k]->(rat p.rows j).kind=22->0<=(rat p.rows j).n/\(rat p.rows j).n < (k:Int)
 there:∀ j,j < p.rows.length->(rat p.rows j).kind=22->0<=(rat p.rows j).n/\(rat p.rows j).n < (p.us.length:Int)
theorem res_calls {l:List Rz} {p:Pl} (h:res l=.ok p):Cls p:=by
 unfold res at h
 split at h
 ·cases h
 ·rename_i hc
  have hw:=(chk_ok (by simpa using hc)).2
  have hB:=base_of hw
  unfold resR at h
  split at h
  ·cases h
  ·rename_i s hs
   have hg:=upto_good hB _ (Nat.le_refl _) hs
   have hcl:=upto_cl hB _ (Nat.le_refl _) hs
   split at h
   ·cases h
   ·cases h
    exact ⟨calls_ahead hw hg hcl,fun j hj=>calls_there hg hcl j (by rw [<-like_len hg.like];exact hj)⟩
theorem nats_vals {w:World} {uo:Option Addr} {us:List Nat} (h:IsVals w uo (iv (us.map fun n:Nat=>(n:Int)))):IsNats w uo us:=fun k x hx=>by
 obtain ⟨g,o,e,hg,hc⟩:=h k (.int .i64 (x:Int)) (by simp [iv,hx])
 exact ⟨g,o,e,hg,hc⟩
structure Tg (p:Pl):Prop where
 r:p.rows.length<=65536
 pos:0 < p.rows.length
 q:p.qs.length<=16
 v:p.vs.length<=16
 t:p.ts.length<=4
 u:p.us.length<=64
 o:p.on.length<=16
 tree:TreeZ p.rows
 ul:∀ u ∈ p.us,u < p.rows.length
 cls:Cls p
theorem res_tg {l:List Rz} {p:Pl} (hl:l.length<=65536) (h:res l=.ok p):Tg p:=by
 have hc:=res_calls h
 unfold res at h
 split at h
 ·cases h
 ·rename_i hk
  have hB:=base_of (chk_ok (by simpa using hk)).2
  unfold resR at h
  split at h
  ·cases h
  ·rename_i s hs
   have hg:=upto_good hB _ (Nat.le_refl _) hs
   have hll:=like_len hg.like
   split at h
   ·cases h
   ·cases h
    exact ⟨by show s.rows.length<=_;omega,by show 0 < s.rows.length;have:=hB.pos;omega,hg.q,hg.v,hg.t,hg.u,by show (onsOf _ _).length<=_;rw [onsOf_len];exact hg.q,like_tree hg.like hB.tree,fun u hu=>by show u < s.rows.length;rw [hll];exact hg.ul u hu,hc⟩
theorem filled_least {r:Rz} (h:filled r=true):(least r.kind:Int)<=r.kids:=by
 unfold filled at h
 simp only [Bool.and_eq_true] at h
 have h1:=h.2.2.2
 unfold wtn at h1
 simp only [Bool.and_eq_true,decide_eq_true_eq] at h1
 exact h1.1
theorem res_least {l:List Rz} {p:Pl} (h:res l=.ok p):∀ i,i < p.rows.length->least (rat p.rows i).kind<=km p.rows i:=by
 unfold res at h
 split at h
 ·cases h
 ·rename_i hk
  have hB:=base_of (chk_ok (by simpa using hk)).2
  unfold resR at h
  split at h
  ·cases h
  ·rename_i s hs
   have hg:=upto_good hB _ (Nat.le_refl _) hs
   have hll:=like_len hg.like
   split at h
   ·cases h
   ·cases h
    intro i hi
    have hi':i < s.rows.length:=hi
    have hi2:i < l.length:=by omega
    obtain ⟨e1,_,e2⟩:=like_kind hg.like hi2
    have h3:=filled_least (hB.fill i hi2)
    have h4:=(like_tree hg.like hB.tree).kids i hi'
    show least (rat s.rows i).kind<=km s.rows i
    have h5:(rat s.rows i).kids=(rat l i).kids:=by
     have:=e2
     first | exact this | exact this.1
    rw [e1]
    omega
def IsP (p:Pg) (p':Pl):Prop:=res (p.rows.map unn)=.ok p'/\p'.g=p
def BRes (p:Pg) (rd:List Int) (r:Except (Nat × Nat) Co):Prop:=
 ((¬ ∃ p',IsP p p')/\r=.error (23,0))\/∃ p',IsP p p'/\((rd.length ≠ p.rows.length\/rd.any badN=true)/\r=.error (43,0)\/rd.length=p.rows.length/\rd.any badN=false/\r=evR p.rows rd p'.us p.qs.length)
theorem IsP.uniq {p:Pg} {a b:Pl} (h:IsP p a) (k:IsP p b):a=b:=by
 have:=h.1.symm.trans k.1
 cases this
 rfl
theorem BRes.uniq {p:Pg} {rd:List Int} {r r':Except (Nat × Nat) Co} (h:BRes p rd r) (k:BRes p rd r'):r=r':=by
 rcases h with ⟨h1,h2⟩ | ⟨p1,h1,h2⟩
 ·rcases k with ⟨k1,k2⟩ | ⟨p2,k1,k2⟩
  ·rw [h2,k2]
  ·exact absurd ⟨p2,k1⟩ h1
 ·rcases k with ⟨k1,k2⟩ | ⟨p2,k1,k2⟩
  ·exact absurd ⟨p1,h1⟩ k1
  ·cases h1.uniq k1
   rcases h2 with ⟨h2,h3⟩ | ⟨h2,h3,h4⟩
   ·rcases k2 with ⟨_,k3⟩ | ⟨k2,k3,k4⟩
    ·rw [h3,k3]
    ·rcases h2 with h2 | h2
     ·exact absurd k2 h2
     ·rw [k3] at h2;cases h2
   ·rcases k2 with ⟨k2,_⟩ | ⟨_,_,k4⟩
    ·rcases k2 with k2 | k2
     ·exact absurd h2 k2
     ·rw [h3] at k2;cases k2
    ·rw [h4,k4]
theorem IsP.pc {p:Pg} {p':Pl} (h:IsP p p') (hl:p.rows.length<=65536) {rd:List Int} (hr:rd.length=p.rows.length):Pc p.rows p'.us rd/\p.qs.length<=16/\(∀ i,i < p.rows.length->(rat p.rows i).kind=8\/(rat p.rows i).kind=9->∃ n:Nat,(rat p.rows i).n=(n:Int)/\n < p.qs.length)/\p.us=p'.us.map (fun n:Nat=>(n:Int))/\p.on.length=p.qs.length:=by
 obtain ⟨h1,h2⟩:=h
 have ht:=res_tg (by simpa using hl) h1
 have hf:=res_least h1
 have h7:=res_told7 (by rw [List.length_map];omega) h1
 subst h2
 have hlen:p'.rows.length<=65536:=hl
 have hl2:∀ i,i < p'.rows.length->least (rat p'.rows i).kind<=km p'.rows i:=hf
 refine ⟨⟨ht.tree,hlen,hr,fun i hi e=>?_,fun i hi e=>?_,fun i hi e=>?_,ht.u,ht.ul,ht.cls.ahead,ht.cls.there⟩,ht.q,fun i hi e=>?_,rfl,h7.onl⟩
 ·have e':(rat p'.rows i).kind=12:=e
  have:=hl2 i hi
  rw [e'] at this
  exact this
 ·have e':(rat p'.rows i).kind=13:=e
  have:=hl2 i hi
  rw [e'] at this
  exact Nat.le_trans (by decide) this
 ·have e':(rat p'.rows i).kind=8\/(rat p'.rows i).kind=9\/(rat p'.rows i).kind=10:=e
  have:=hl2 i hi
  rcases e' with e' | e' | e'<;>rw [e'] at this<;>exact this
 ·have e':(rat p'.rows i).kind=8\/(rat p'.rows i).kind=9:=e
  have hi':i < ((Pl.g p').rows.map unn).length:=by rw [List.length_map];exact hi
  obtain ⟨k1,_,_,_,k5⟩:=h7.row i hi'
  rw [<-k1] at k5
  rcases k5 with k5 | ⟨n,k6,k7⟩
  ·rcases e' with e' | e'<;>rw [e'] at k5<;>exact absurd k5 (by decide)
  ·refine ⟨n,k6,?_⟩
   have hz:decl (rat p'.rows i).kind+nmd (rat p'.rows i).kind=1:=by rcases e' with e' | e'<;>rw [e']<;>rfl
   rw [hz] at k7
   unfold nameOf at k7
   rw [if_pos rfl] at k7
   cases hq:p'.qs[n]? with
   | none=>rw [hq] at k7;cases k7
   | some q=>exact (List.getElem?_eq_some_iff.1 hq).1
abbrev polC (p:Pg) (ao qo vo tto uo oo:Option Addr) (ac qc vc tc uc oc:Nat):Array Value:=#[.string p.name,.slice ao p.rows.length ac,.slice qo p.qs.length qc,.slice vo p.vs.length vc,.slice tto p.ts.length tc,.slice uo p.us.length uc,.slice oo p.on.length oc,.int .i64 p.miss]
structure BdW (w wr:World) (B:Nat) (pc tc:Array Value):Prop where
 p:wr.heap[B]?=some (.cells pc 28 (0,0))
 t:wr.heap[B+1]?=some (.cells tc 42 (0,0))
 b0:wr.heap[B+1+1]?=some (.cells #[.slice none 0 0,.int .i64 0] 36 (0,0))
 b1:wr.heap[B+1+1+1]?=some (.cells #[.int .i64 0,.int .i64 0] 31 (0,0))
 be:Below B w wr
theorem BdW.below {w wr w':World} {B:Nat} {pc tc:Array Value} (h:BdW w wr B pc tc) (hb:Below wr.heap.size wr w') (hB:B<=wr.heap.size):BdW w w' B pc tc:=
 ⟨(hb.block _ (blk_in h.p)).trans h.p,(hb.block _ (blk_in h.t)).trans h.t,(hb.block _ (blk_in h.b0)).trans h.b0,(hb.block _ (blk_in h.b1)).trans h.b1,h.be.trans (hb.mono hB)⟩
theorem bdw_start (w:World) (pc tc:Array Value):BdW w ((((w.alloc (.cells pc 28)).alloc (.cells tc 42)).alloc (.cells #[.slice none 0 0,.int .i64 0] 36)).alloc (.cells #[.int .i64 0,.int .i64 0] 31)) w.heap.size pc tc:=by
 refine ⟨?_,?_,?_,?_,?_⟩
 ·rw [alloc_old _ _ _ (by simp;omega),alloc_old _ _ _ (by simp;omega),alloc_old _ _ _ (by simp)]
  exact alloc_at _ _ _ rfl
 ·rw [alloc_old _ _ _ (by simp),alloc_old _ _ _ (by simp)]
  exact alloc_at _ _ _ (by simp)
 ·rw [alloc_old _ _ _ (by simp)]
  exact alloc_at _ _ _ (by simp)
 ·exact alloc_at _ _ _ (by simp)
 ·exact (((bAl w _).alloc (by simp) _).alloc (by simp;omega) _).alloc (by simp;omega) _
theorem cost_any {w:World} {p:Pg} {ao qo vo tto uo oo xo yo eo:Option Addr} {ac qc vc tc uc oc nx cx ny cy ec:Nat} {rd:List Int} (h:RdG w p ao qo vo tto uo oo) (hs:p.Sm) (hl:p.rows.length<=65536) (hnil:ao=none->ac=0) (hd:IsVals w eo (iv rd)) (hrd:rd.length<=17592186043904):
  Calls Tryz.prog 7 #[pvG p ao qo vo tto uo oo ac qc vc tc uc oc,.agg #[.slice xo nx cx,.slice yo ny cy,.slice eo rd.length ec]] w fun e w'=>∃ r,BRes p rd r/\CTold w r e w':=by
 have HS0:=hdn <| bdw_start w (polC p ao qo vo tto uo oo ac qc vc tc uc oc) #[.slice xo nx cx,.slice yo ny cy,.slice eo rd.length ec]
 have HB:Hid (∀ wr,BdW w wr w.heap.size (polC p ao qo vo tto uo oo ac qc vc tc uc oc) #[.slice xo nx cx,.slice yo ny cy,.slice eo rd.length ec]->Below w.heap.size w wr/\w.heap.size<=wr.heap.size):=fun wr h=>⟨h.be,h.be.size⟩
 have HCk:=hdn <| checkP_any (ac:=ac) (qc:=qc) (vc:=vc) (tc:=tc) (uc:=uc) (oc:=oc) (h.below HS0.out.be) hs hnil
 have HR:=hdn <| h
 have HD:Hid (IsVals w eo (iv rd)/\rd.length<=17592186043904/\p.rows.length<=65536):=⟨hd,hrd,hl⟩
 obtain ⟨k0,k1,k2,k3,k4,k5,k6,k7⟩:=pol8 HS0.out.p
 clear h hs hnil hd hl
 dsimp only [pvG,polC] at *
 go_enter Tryz.func7,Tryz.ntmps7
 go_wp2_with fail
 generalize ((((w.alloc (.cells #[.string p.name,.slice ao p.rows.length ac,.slice qo p.qs.length qc,.slice vo p.vs.length vc,.slice tto p.ts.length tc,.slice uo p.us.length uc,.slice oo p.on.length oc,.int .i64 p.miss] 28)).alloc (.cells #[.slice xo nx cx,.slice yo ny cy,.slice eo rd.length ec] 42)).alloc (.cells #[.slice none 0 0,.int .i64 0] 36)).alloc (.cells #[.int .i64 0,.int .i64 0] 31))=w1 at *
 clear k0 k1 k2 k3 k4 k5 k6 k7
 refine Calls.mono HCk.out ?_
 rintro e w2 ⟨hor,hb2⟩
 have h2:=HS0.out.below hb2 (HB.out _ HS0.out).2
 have HW2:=hdn <| h2
 clear HCk hb2 HS0
 rcases hor with ⟨p',hp1,hp2,rfl⟩ | ⟨hno,rfl⟩
 ·have HP':Hid (IsP p p'):=⟨hp1,hp2⟩
  obtain ⟨k0,k1,k2,k3,k4,k5,k6,k7⟩:=pol8 h2.p
  obtain ⟨t0,t1,t2⟩:=read3 h2.t
  have hrl:(rd.length:Int)<=17592186043904:=by omega
  have hpl:(p.rows.length:Int)<=65536:=by have:=HD.out.2.2;omega
  clear hp1 hp2
  by_cases hlen:rd.length=p.rows.length
  ·have hne:((rd.length:Int) != (p.rows.length:Int))=false:=by simp [hlen]
   have HCt:=hdn <| contains_any (c:=ec) (HD.out.1.below HW2.out.be) HD.out.2.1
   have HLen:=hdn <| hlen
   clear hlen
   cases hbad:rd.any badN with
   | true=>
    rw [hbad] at HCt
    have HNo:Hid (BRes p rd (.error (43,0))):=Or.inr ⟨p',HP'.out,Or.inl ⟨Or.inr hbad,rfl⟩⟩
    clear hbad
    go_wp2_with fail
    refine Calls.mono HCt.out ?_
    rintro e w3 ⟨rfl,rfl⟩
    obtain ⟨r0,r1,r2⟩:=read2 h2.b0
    obtain ⟨s0,s1,s2⟩:=read2 h2.b1
    have z0:=r2 0
    have z1:=r2 1
    have z2:=s2 0
    have z3:=s2 1
    obtain ⟨p1,p2,p3,p4⟩:=wrote4 h2.b0 h2.b1 (by omega) h2.be (.slice none 0 0) (.int .i64 0) (.int .i64 43) (.int .i64 0)
    have HP:Hid (_/\_/\Below w.heap.size w _):=⟨p1,p2,p3⟩
    clear r2 s2 p1 p2 p3 p4 h2 k0 k1 k2 k3 k4 k5 k6 k7 t0 t1 t2 HCt
    go_wp2_with fail
    clear r0 r1 s0 s1 z0 z1 z2 z3
    obtain ⟨y0,y1,_⟩:=read2 HP.out.1
    obtain ⟨y2,y3,_⟩:=read2 HP.out.2.1
    have HX:=hdn <| HP.out.2.2
    clear HP
    generalize ((((w3.setCell ⟨w.heap.size+1+1,0,none⟩ (.slice none 0 0)).setCell ⟨w.heap.size+1+1,1,none⟩ (.int .i64 0)).setCell ⟨w.heap.size+1+1+1,0,none⟩ (.int .i64 43)).setCell ⟨w.heap.size+1+1+1,1,none⟩ (.int .i64 0))=w9 at *
    exact bodyPost_ret (v:=.tuple #[.agg #[.slice none 0 0,.int .i64 0],.agg #[.int .i64 43,.int .i64 0]]) (by simp [results,Tryz.results7,go_sem,y0,y1,y2,y3]) rfl ⟨_,HNo.out,HX.out,rfl⟩
   | false=>
    rw [hbad] at HCt
    have HYes:Hid (BRes p rd (evR p.rows rd p'.us p.qs.length)):=Or.inr ⟨p',HP'.out,Or.inr ⟨HLen.out,hbad,rfl⟩⟩
    obtain ⟨hPc,hq,hev,hus,_⟩:=HP'.out.pc HD.out.2.2 HLen.out
    have hul:p.us.length=p'.us.length:=by rw [hus,List.length_map]
    have hR2:=RdG.below HR.out h2.be
    have hrg:Rg (w2.alloc (.cells #[.slice ao p.rows.length ac,.slice uo p.us.length uc,.slice eo rd.length ec] 63)) w2.heap.size ao uo eo ac uc ec p.rows p'.us rd:=⟨by rw [<-hul];exact heap_alloc_new w2 _,hR2.r.below (bAl w2 _),by
     have hu2:=hR2.u
     rw [hus] at hu2
     exact (nats_vals hu2).below (bAl w2 _),(HD.out.1.below h2.be).below (bAl w2 _)⟩
    have HEv:=hdn <| events_any hPc hrg hq hev
    have H3:=hdn <| h2.below (bAl w2 (.cells #[.slice ao p.rows.length ac,.slice uo p.us.length uc,.slice eo rd.length ec] 63)) (HB.out _ h2).2
    obtain ⟨q0,q1,q2,q3,q4,q5,q6,q7⟩:=pol8 H3.out.p
    have hq2:(p.qs.length:Int)<=16:=by omega
    clear hbad hPc hq hev hus hul hR2 hrg
    generalize evR p.rows rd p'.us p.qs.length=R at *
    go_wp2_with fail
    refine Calls.mono HCt.out ?_
    rintro e w3 ⟨rfl,rfl⟩
    clear HCt
    go_wp2_with fail
    generalize w3.alloc (.cells #[.slice ao p.rows.length ac,.slice uo p.us.length uc,.slice eo rd.length ec] 63)=w4 at *
    refine Calls.mono HEv.out ?_
    rintro e w5 ⟨hb5,hm5⟩
    have h5:=H3.out.below hb5 (HB.out _ H3.out).2
    clear HEv k0 k1 k2 k3 k4 k5 k6 k7 t0 t1 t2 q0 q1 q2 q3 q4 q5 q6 q7
    cases R with
    | error ci=>
     obtain ⟨c1,c2⟩:=ci
     obtain rfl:=hm5
     obtain ⟨r0,r1,r2⟩:=read2 h5.b0
     obtain ⟨s0,s1,s2⟩:=read2 h5.b1
     have z0:=r2 0
     have z1:=r2 1
     have z2:=s2 0
     have z3:=s2 1
     obtain ⟨p1,p2,p3,p4⟩:=wrote4 h5.b0 h5.b1 (by omega) h5.be (.slice none 0 0) (.int .i64 0) (.int .i64 (c1:Int)) (.int .i64 (c2:Int))
     have HP:Hid (_/\_/\Below w.heap.size w _):=⟨p1,p2,p3⟩
     clear r2 s2 p1 p2 p3 p4 h2 h5 hb5
     go_wp2_with fail
     clear r0 r1 s0 s1 z0 z1 z2 z3
     obtain ⟨y0,y1,_⟩:=read2 HP.out.1
     obtain ⟨y2,y3,_⟩:=read2 HP.out.2.1
     have HX:=hdn <| HP.out.2.2
     clear HP
     generalize ((((w5.setCell ⟨w.heap.size+1+1,0,none⟩ (.slice none 0 0)).setCell ⟨w.heap.size+1+1,1,none⟩ (.int .i64 0)).setCell ⟨w.heap.size+1+1+1,0,none⟩ (.int .i64 (c1:Int))).setCell ⟨w.heap.size+1+1+1,1,none⟩ (.int .i64 (c2:Int)))=w9 at *
     exact bodyPost_ret (v:=.tuple #[.agg #[.slice none 0 0,.int .i64 0],.agg #[.int .i64 (c1:Int),.int .i64 (c2:Int)]]) (by simp [results,Tryz.results7,go_sem,y0,y1,y2,y3]) rfl ⟨_,HYes.out,HX.out,rfl⟩
    | ok c=>
     obtain ⟨ob,rfl,hob,hrow⟩:=hm5
     have HOb:Hid (w.heap.size<=ob):=Nat.le_trans (HB.out _ H3.out).2 hob
     have hobX:w.heap.size+1+1+1 < ob:=Nat.lt_of_lt_of_le (blk_in H3.out.b1) hob
     obtain ⟨r0,r1,r2⟩:=read2 h5.b0
     obtain ⟨s0,s1,s2⟩:=read2 h5.b1
     have z0:=r2 0
     have z1:=r2 1
     have z2:=s2 0
     have z3:=s2 1
     obtain ⟨p1,p2,p3,p4⟩:=wrote4 h5.b0 h5.b1 (by omega) h5.be (.slice (some ⟨ob,0,none⟩) c.on.length c.on.length) (.int .i64 (c.miss:Int)) (.int .i64 0) (.int .i64 0)
     have HP:Hid (_/\_/\Below w.heap.size w _/\RowN _ ob c.on):=⟨p1,p2,p3,(p4 _ (by omega) (by omega)).trans hrow⟩
     clear r2 s2 p1 p2 p3 p4 h2 h5 hb5 hob hrow hobX
     go_wp2_with fail
     clear r0 r1 s0 s1 z0 z1 z2 z3
     obtain ⟨y0,y1,_⟩:=read2 HP.out.1
     obtain ⟨y2,y3,_⟩:=read2 HP.out.2.1
     have HX:=hdn <| HP.out.2.2
     clear HP
     generalize ((((w5.setCell ⟨w.heap.size+1+1,0,none⟩ (.slice (some ⟨ob,0,none⟩) c.on.length c.on.length)).setCell ⟨w.heap.size+1+1,1,none⟩ (.int .i64 (c.miss:Int))).setCell ⟨w.heap.size+1+1+1,0,none⟩ (.int .i64 0)).setCell ⟨w.heap.size+1+1+1,1,none⟩ (.int .i64 0))=w9 at *
     exact bodyPost_ret (v:=.tuple #[.agg #[.slice (some ⟨ob,0,none⟩) c.on.length c.on.length,.int .i64 (c.miss:Int)],.agg #[.int .i64 0,.int .i64 0]]) (by simp [results,Tryz.results7,go_sem,y0,y1,y2,y3]) rfl ⟨_,HYes.out,HX.out.1,ob,rfl,HOb.out,HX.out.2⟩
  ·have hne:((rd.length:Int) != (p.rows.length:Int))=true:=by simp;omega
   have HNo:Hid (BRes p rd (.error (43,0))):=Or.inr ⟨p',HP'.out,Or.inl ⟨Or.inl hlen,rfl⟩⟩
   clear hlen
   obtain ⟨r0,r1,r2⟩:=read2 h2.b0
   obtain ⟨s0,s1,s2⟩:=read2 h2.b1
   have z0:=r2 0
   have z1:=r2 1
   have z2:=s2 0
   have z3:=s2 1
   obtain ⟨p1,p2,p3,p4⟩:=wrote4 h2.b0 h2.b1 (by omega) h2.be (.slice none 0 0) (.int .i64 0) (.int .i64 43) (.int .i64 0)
   have HP:Hid (_/\_/\Below w.heap.size w _):=⟨p1,p2,p3⟩
   clear r2 s2 p1 p2 p3 p4 h2
   go_wp2_with fail
   clear r0 r1 s0 s1 z0 z1 z2 z3
   obtain ⟨y0,y1,_⟩:=read2 HP.out.1
   obtain ⟨y2,y3,_⟩:=read2 HP.out.2.1
   have HX:=hdn <| HP.out.2.2
   clear HP
   generalize ((((w2.setCell ⟨w.heap.size+1+1,0,none⟩ (.slice none 0 0)).setCell ⟨w.heap.size+1+1,1,none⟩ (.int .i64 0)).setCell ⟨w.heap.size+1+1+1,0,none⟩ (.int .i64 43)).setCell ⟨w.heap.size+1+1+1,1,none⟩ (.int .i64 0))=w9 at *
   exact bodyPost_ret (v:=.tuple #[.agg #[.slice none 0 0,.int .i64 0],.agg #[.int .i64 43,.int .i64 0]]) (by simp [results,Tryz.results7,go_sem,y0,y1,y2,y3]) rfl ⟨_,HNo.out,HX.out,rfl⟩
 ·have HNo:Hid (BRes p rd (.error (23,0))):=Or.inl ⟨hno,rfl⟩
  obtain ⟨r0,r1,r2⟩:=read2 h2.b0
  obtain ⟨s0,s1,s2⟩:=read2 h2.b1
  have z0:=r2 0
  have z1:=r2 1
  have z2:=s2 0
  have z3:=s2 1
  obtain ⟨p1,p2,p3,_⟩:=wrote4 h2.b0 h2.b1 (by omega) h2.be (.slice none 0 0) (.int .i64 0) (.int .i64 23) (.int .i64 0)
  have HP:Hid (_/\_/\Below w.heap.size w _):=⟨p1,p2,p3⟩
  clear h2 r2 s2 p1 p2 p3 hno
  go_wp2_with fail
  clear r0 r1 s0 s1 z0 z1 z2 z3
  obtain ⟨y0,y1,_⟩:=read2 HP.out.1
  obtain ⟨y2,y3,_⟩:=read2 HP.out.2.1
  have HX:Hid (Below w.heap.size w _):=HP.out.2.2
  clear HP
  generalize ((((w2.setCell ⟨w.heap.size+1+1,0,none⟩ (.slice none 0 0)).setCell ⟨w.heap.size+1+1,1,none⟩ (.int .i64 0)).setCell ⟨w.heap.size+1+1+1,0,none⟩ (.int .i64 23)).setCell ⟨w.heap.size+1+1+1,1,none⟩ (.int .i64 0))=w4 at *
  exact bodyPost_ret (v:=.tuple #[.agg #[.slice none 0 0,.int .i64 0],.agg #[.int .i64 23,.int .i64 0]]) (by simp [results,Tryz.results7,go_sem,y0,y1,y2,y3]) rfl ⟨_,HNo.out,HX.out,rfl⟩
end Go.Proofs.YtfgpbdieaflclaaGreat.Nm
