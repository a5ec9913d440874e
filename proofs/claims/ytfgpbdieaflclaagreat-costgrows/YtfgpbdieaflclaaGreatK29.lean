import Derived.Test.YtfgpbdieaflclaaGreatK26
import Derived.Test.YtfgpbdieaflclaaGreatK28
import Derived.Deep.RegionHeld3
set_option maxHeartbeats 51200000
set_option maxRecDepth 100000
namespace Go.Proofs.YtfgpbdieaflclaaGreat.Nm
open Go.RowKit Go.Maps Sp Lx Gr
theorem put8L {n:Nat} {w wx:World} {B:Nat} {v0 v1 v2 v3 v4 v5 v6 v7:Value} (hb:Below n w wx) (hB:n<=B) (hz:wx.heap[B]?=some (.cells #[.string ⟨#[]⟩,pz,pz,pz,pz,pz,pz,.int .i64 0] 28 (0,0))):((((((((wx.setCell ⟨B,0,none⟩ v0).setCell ⟨B,1,none⟩ v1).setCell ⟨B,2,none⟩ v2).setCell ⟨B,3,none⟩ v3).setCell ⟨B,4,none⟩ v4).setCell ⟨B,5,none⟩ v5).setCell ⟨B,6,none⟩ v6).setCell ⟨B,7,none⟩ v7).heap[B]?=some (.cells #[v0,v1,v2,v3,v4,v5,v6,v7] 28 (0,0))/\Below n w ((((((((wx.setCell ⟨B,0,none⟩ v0).setCell ⟨B,1,none⟩ v1).setCell ⟨B,2,none⟩ v2).setCell ⟨B,3,none⟩ v3).setCell ⟨B,4,none⟩ v4).setCell ⟨B,5,none⟩ v5).setCell ⟨B,6,none⟩ v6).setCell ⟨B,7,none⟩ v7)/\∀ k,k ≠ B->((((((((wx.setCell ⟨B,0,none⟩ v0).setCell ⟨B,1,none⟩ v1).setCell ⟨B,2,none⟩ v2).setCell ⟨B,3,none⟩ v3).setCell ⟨B,4,none⟩ v4).setCell ⟨B,5,none⟩ v5).setCell ⟨B,6,none⟩ v6).setCell ⟨B,7,none⟩ v7).heap[k]?=wx.heap[k]?:=by
 have h0:=set_at hz v0 (cs':=#[v0,pz,pz,pz,pz,pz,pz,.int .i64 0]) (i:=0) rfl
 have h1:=set_at h0 v1 (cs':=#[v0,v1,pz,pz,pz,pz,pz,.int .i64 0]) (i:=1) rfl
 have h2:=set_at h1 v2 (cs':=#[v0,v1,v2,pz,pz,pz,pz,.int .i64 0]) (i:=2) rfl
 have h3:=set_at h2 v3 (cs':=#[v0,v1,v2,v3,pz,pz,pz,.int .i64 0]) (i:=3) rfl
 have h4:=set_at h3 v4 (cs':=#[v0,v1,v2,v3,v4,pz,pz,.int .i64 0]) (i:=4) rfl
 have h5:=set_at h4 v5 (cs':=#[v0,v1,v2,v3,v4,v5,pz,.int .i64 0]) (i:=5) rfl
 have h6:=set_at h5 v6 (cs':=#[v0,v1,v2,v3,v4,v5,v6,.int .i64 0]) (i:=6) rfl
 have h7:=set_at h6 v7 (cs':=#[v0,v1,v2,v3,v4,v5,v6,v7]) (i:=7) rfl
 have hne:∀ k,k ≠ B->((((((((wx.setCell ⟨B,0,none⟩ v0).setCell ⟨B,1,none⟩ v1).setCell ⟨B,2,none⟩ v2).setCell ⟨B,3,none⟩ v3).setCell ⟨B,4,none⟩ v4).setCell ⟨B,5,none⟩ v5).setCell ⟨B,6,none⟩ v6).setCell ⟨B,7,none⟩ v7).heap[k]?=wx.heap[k]?:=fun k hk=>by
  have hp:∀ (u:World) (i:Nat) (v:Value),(u.setCell ⟨B,i,none⟩ v).heap[k]?=u.heap[k]?:=fun u i v=>Below.heap_setCell u _ v _ (fun e=>hk e)
  rw [hp,hp,hp,hp,hp,hp,hp,hp]
 exact ⟨h7,(below_set (below_set (below_set (below_set (below_set (below_set (below_set (below_set hb hB 0 v0) hB 1 v1) hB 2 v2) hB 3 v3) hB 4 v4) hB 5 v5) hB 6 v6) hB 7 v7),hne⟩
theorem qF_one (l:List (ByteArray × Bool)):∀ u ∈ qF l,u.oneCell'=true:=fun u hu=>by
 obtain ⟨x,_,hx⟩:=List.mem_flatMap.1 hu
 simp only [List.mem_cons,List.not_mem_nil,or_false] at hx
 rcases hx with rfl | rfl<;>rfl
theorem qF_len (l:List (ByteArray × Bool)):(qF l).length=l.length * 2:=by
 induction l with
 | nil=>rfl
 | cons x l ih=>
  have e:qF (x :: l)=[.string x.1,.bool x.2]++qF l:=by simp [qF]
  rw [e,List.length_append,ih]
  simp only [List.length_cons,List.length_nil]
  omega
theorem str_one (l:List ByteArray):∀ u ∈ l.map Value.string,u.oneCell'=true:=fun u hu=>by
 obtain ⟨x,_,rfl⟩:=List.mem_map.1 hu
 rfl
theorem row_own {u:World} {g base:Nat} {l:List Rz} (h:RowZ u g l) (hb:base<=g) (hl:l.length<=2932031007330):u.ownsRow base 47 5 (.slice (some ⟨g,0,none⟩) l.length l.length) l.length (l.flatMap rz5):=
 own_mk (cur:=l.flatMap rz5) (rz5_len l) hb h (Nat.le_refl _) (by unfold maxLen;omega) (rz5_len l) (by rw [<-rz5_len l,List.take_length])
structure Ls (W:World) (base:Nat) (os:List Ow):Prop where
 own:∀ o ∈ os,W.ownsRow base o.T o.sz o.v o.n o.xs
 dis:os.Pairwise fun a c=>∀ g,a.v.ownBlock=some g->c.v.ownBlock ≠ some g
structure Lq (w wx:World) (pc:Array Value) (qb:Nat) (cs:Array Value) (os:List Ow):Prop where
 r:wx.heap[w.heap.size+1]?=some (.cells #[.string ⟨#[]⟩,pz,pz,pz,pz,pz,pz,.int .i64 0] 28 (0,0))
 p:wx.heap[w.heap.size]?=some (.cells pc 28 (0,0))
 q:wx.heap[qb]?=some (.cells cs 28 (0,0))
 b:Below w.heap.size w wx
 l:w.heap.size+1 < qb
 own:∀ o ∈ os,wx.ownsRow (w.heap.size+2) o.T o.sz o.v o.n o.xs
 dis:os.Pairwise fun a c=>∀ g,a.v.ownBlock=some g->c.v.ownBlock ≠ some g
 nq:∀ o ∈ os,o.v.ownBlock ≠ some qb
section
variable {w wx w':World} {pc cs:Array Value} {qb:Nat} {os:List Ow}
theorem Lq.below (h:Lq w wx pc qb cs os) (hb:Below wx.heap.size wx w'):Lq w w' pc qb cs os:=
 ⟨(hb.block _ (blk_lt h.r)).trans h.r,(hb.block _ (blk_lt h.p)).trans h.p,(hb.block _ (blk_lt h.q)).trans h.q,h.b.trans (hb.mono h.b.size),h.l,fun o ho=>own_below (h.own o ho) hb,h.dis,h.nq⟩
theorem Lq.cellp (h:Lq w wx pc qb cs os) (i:Nat) (v:Value) (hv:pc[i]?=some v):wx.cell? ⟨w.heap.size,i,none⟩=some v:=by
 simp only [World.cell?,h.p]
 exact hv
theorem Lq.put {T:TypeId} {sz n:Nat} {v:Value} {xs:List Value} (h:Lq w wx pc qb cs os) (hb:Below wx.heap.size wx w') (ho:w'.ownsRow wx.heap.size T sz v n xs) (i:Nat) (u:Value):Lq w (w'.setCell ⟨qb,i,none⟩ u) pc qb (cs.setIfInBounds i u) (os++[⟨i,T,sz,v,n,xs⟩]):=by
 have h1:=h.below hb
 have hne:∀ k,k ≠ qb->(w'.setCell ⟨qb,i,none⟩ u).heap[k]?=w'.heap[k]?:=fun k hk=>Below.heap_setCell w' _ u k (fun e=>hk e)
 have hl:=h.l
 have hr:=blk_lt h.r
 have hq:=blk_lt h.q
 refine ⟨(hne _ (by omega)).trans h1.r,(hne _ (by omega)).trans h1.p,heap_setCell_same w' qb i cs 28 u h1.q,below_set h1.b (by omega) i u,h.l,fun o hm=>?_,?_,fun o hm=>?_⟩
 ·rcases List.mem_append.1 hm with hm | hm
  ·exact own_keepB (h1.own o hm) (fun k hk=>hne k (fun e=>h.nq o hm (by rw [hk,e])))
  ·simp only [List.mem_cons,List.not_mem_nil,or_false] at hm
   subst hm
   exact own_base (own_keepB ho (fun k hk=>hne k (by have:=(World.ownsRow.lt ho k hk).1;omega))) (by omega)
 ·refine List.pairwise_append.2 ⟨h.dis,by simp,fun a ha c hc gg hg=>?_⟩
  simp only [List.mem_cons,List.not_mem_nil,or_false] at hc
  subst hc
  intro e
  have:=(World.ownsRow.lt ho gg e).1
  have:=(World.ownsRow.lt (h.own a ha) gg hg).2
  omega
 ·rcases List.mem_append.1 hm with hm | hm
  ·exact h.nq o hm
  ·simp only [List.mem_cons,List.not_mem_nil,or_false] at hm
   subst hm
   intro e
   have:=(World.ownsRow.lt ho qb e).1
   omega
end
abbrev lentOs (p:Pg) (g gq cq gv cv gt ct gu cu go co:Nat):List Ow:=[⟨1,47,5,.slice (some ⟨g,0,none⟩) (p.rows.length+9) (p.rows.length+9),p.rows.length+9,(fillL p.rows 9).flatMap rz5⟩,⟨2,67,2,.slice (some ⟨gq,0,none⟩) (p.qs.length+1) cq,p.qs.length+1,qF p.qs++[.string ⟨#[108,101,110,116]⟩,.bool false]⟩,⟨3,9,1,.slice (some ⟨gv,0,none⟩) (p.vs.length+1) cv,p.vs.length+1,p.vs.map Value.string++[.string ⟨#[108,101,110,116]⟩]⟩,⟨4,9,1,.slice (some ⟨gt,0,none⟩) (p.ts.length+1) ct,p.ts.length+1,p.ts.map Value.string++[.string ⟨#[108,101,110,116]⟩]⟩,⟨5,3,1,.slice (some ⟨gu,0,none⟩) (p.us.length+1) cu,p.us.length+1,iv p.us++[.int .i64 (-77)]⟩,⟨6,3,1,.slice (some ⟨go,0,none⟩) (p.on.length+1) co,p.on.length+1,iv p.on++[.int .i64 (-77)]⟩]
abbrev lentV (p:Pg) (g gq cq gv cv gt ct gu cu go co:Nat):Value:=.agg #[.string p.name,.slice (some ⟨g,0,none⟩) p.rows.length (p.rows.length+9),.slice (some ⟨gq,0,none⟩) p.qs.length cq,.slice (some ⟨gv,0,none⟩) p.vs.length cv,.slice (some ⟨gt,0,none⟩) p.ts.length ct,.slice (some ⟨gu,0,none⟩) p.us.length cu,.slice (some ⟨go,0,none⟩) p.on.length co,.int .i64 p.miss]
theorem lendP_any {w:World} {p:Pg} {ao qo vo tto uo oo:Option Addr} {ac qc vc tc uc oc:Nat} (h:RdG w p ao qo vo tto uo oo) (h0:p.rows.length<=2932031007300) (h2:p.qs.length<=1000) (h3:p.vs.length<=1000) (h4:p.ts.length<=1000) (h5:p.us.length<=1000) (h6:p.on.length<=1000)
  (n2:qo=none->qc=0) (n3:vo=none->vc=0) (n4:tto=none->tc=0) (n5:uo=none->uc=0) (n6:oo=none->oc=0):
  Calls Tryz.prog 8 #[pvG p ao qo vo tto uo oo ac qc vc tc uc oc] w fun e w'=>∃ g gq cq gv cv gt ct gu cu go co,e=.returned (lentV p g gq cq gv cv gt ct gu cu go co)/\Ls w' w.heap.size (lentOs p g gq cq gv cv gt ct gu cu go co)/\Below w.heap.size w w':=by
 dsimp only [pvG]
 obtain ⟨iq,hiq,hzq0,hzq1,hzq2⟩:=info_parts infoQ
 obtain ⟨iv',hiv,hzv0,hzv1,hzv2⟩:=info_parts infoS
 obtain ⟨it,hit,hzt0,hzt1,hzt2⟩:=info_parts infoS
 obtain ⟨Mq,hmkq,hMq⟩:=mk_cap Tryz.underlying25 hiq hzq0 hzq1 hzq2 (by decide) p.qs.length h2
 obtain ⟨Mv,hmkv,hMv⟩:=mk_cap Tryz.underlying26 hiv hzv0 hzv1 hzv2 (by decide) p.vs.length h3
 obtain ⟨Mt,hmkt,hMt⟩:=mk_cap Tryz.underlying26 hit hzt0 hzt1 hzt2 (by decide) p.ts.length h4
 have HD:Hid (RdG w p ao qo vo tto uo oo/\p.rows.length<=2932031007300):=⟨h,h0⟩
 have Hq:Hid (IsVals w qo (qF p.qs)/\p.qs.length<=1000/\((qF p.qs).length=p.qs.length * 2/\(qo=none->p.qs.length=0/\qc=0))/\Mq.size=(p.qs.length+3) * 2):=⟨h.q,h2,⟨qF_len _,fun e=>⟨vals_nil h.q (qF_len _) (by decide) e,n2 e⟩⟩,hMq⟩
 have Hv:Hid (IsVals w vo (p.vs.map Value.string)/\p.vs.length<=1000/\((p.vs.map Value.string).length=p.vs.length * 1/\(vo=none->p.vs.length=0/\vc=0))/\Mv.size=(p.vs.length+3) * 1):=⟨h.v,h3,⟨by simp,fun e=>⟨vals_nil (m:=p.vs.length) (sz:=1) h.v (by simp) (by decide) e,n3 e⟩⟩,hMv⟩
 have Ht:Hid (IsVals w tto (p.ts.map Value.string)/\p.ts.length<=1000/\((p.ts.map Value.string).length=p.ts.length * 1/\(tto=none->p.ts.length=0/\tc=0))/\Mt.size=(p.ts.length+3) * 1):=⟨h.t,h4,⟨by simp,fun e=>⟨vals_nil (m:=p.ts.length) (sz:=1) h.t (by simp) (by decide) e,n4 e⟩⟩,hMt⟩
 have H5:Hid (IsVals w uo (iv p.us)/\p.us.length<=1000/\(uo=none->uc=0)):=⟨h.u,h5,n5⟩
 have H6:Hid (IsVals w oo (iv p.on)/\p.on.length<=1000/\(oo=none->oc=0)):=⟨h.o,h6,n6⟩
 have hnq:(p.qs.length:Int)<=1000:=by omega
 have hnv:(p.vs.length:Int)<=1000:=by omega
 have hnt:(p.ts.length:Int)<=1000:=by omega
 have hbP:Below w.heap.size w ((w.alloc (.cells #[.string p.name,.slice ao p.rows.length ac,.slice qo p.qs.length qc,.slice vo p.vs.length vc,.slice tto p.ts.length tc,.slice uo p.us.length uc,.slice oo p.on.length oc,.int .i64 p.miss] 28)).alloc (.cells #[.string ⟨#[]⟩,pz,pz,pz,pz,pz,pz,.int .i64 0] 28)):=(bAl w _).alloc (by simp) _
 have HP2:Hid (((w.alloc (.cells #[.string p.name,.slice ao p.rows.length ac,.slice qo p.qs.length qc,.slice vo p.vs.length vc,.slice tto p.ts.length tc,.slice uo p.us.length uc,.slice oo p.on.length oc,.int .i64 p.miss] 28)).alloc (.cells #[.string ⟨#[]⟩,pz,pz,pz,pz,pz,pz,.int .i64 0] 28)).heap[w.heap.size]?=some (.cells #[.string p.name,.slice ao p.rows.length ac,.slice qo p.qs.length qc,.slice vo p.vs.length vc,.slice tto p.ts.length tc,.slice uo p.us.length uc,.slice oo p.on.length oc,.int .i64 p.miss] 28 (0,0))/\((w.alloc (.cells #[.string p.name,.slice ao p.rows.length ac,.slice qo p.qs.length qc,.slice vo p.vs.length vc,.slice tto p.ts.length tc,.slice uo p.us.length uc,.slice oo p.on.length oc,.int .i64 p.miss] 28)).alloc (.cells #[.string ⟨#[]⟩,pz,pz,pz,pz,pz,pz,.int .i64 0] 28)).heap[w.heap.size+1]?=some (.cells #[.string ⟨#[]⟩,pz,pz,pz,pz,pz,pz,.int .i64 0] 28 (0,0))/\Below w.heap.size w ((w.alloc (.cells #[.string p.name,.slice ao p.rows.length ac,.slice qo p.qs.length qc,.slice vo p.vs.length vc,.slice tto p.ts.length tc,.slice uo p.us.length uc,.slice oo p.on.length oc,.int .i64 p.miss] 28)).alloc (.cells #[.string ⟨#[]⟩,pz,pz,pz,pz,pz,pz,.int .i64 0] 28))):=⟨by rw [alloc_old _ _ _ (by simp)];exact alloc_at _ _ _ rfl,alloc_at _ _ _ (by simp),hbP⟩
 clear h h0 h2 h3 h4 h5 h6 n2 n3 n4 n5 n6 hbP hMq hMv hMt
 go_enter Tryz.func8,Tryz.ntmps8
 go_wp2_with fail
 generalize (w.alloc (.cells #[.string p.name,.slice ao p.rows.length ac,.slice qo p.qs.length qc,.slice vo p.vs.length vc,.slice tto p.ts.length tc,.slice uo p.us.length uc,.slice oo p.on.length oc,.int .i64 p.miss] 28)).alloc (.cells #[.string ⟨#[]⟩,pz,pz,pz,pz,pz,pz,.int .i64 0] 28)=w2 at *
 go_cut [3] (fun s3 wx=>∃ qb g,s3=.pointer (some ⟨qb,0,none⟩)/\Lq w wx #[.string p.name,.slice ao p.rows.length ac,.slice qo p.qs.length qc,.slice vo p.vs.length vc,.slice tto p.ts.length tc,.slice uo p.us.length uc,.slice oo p.on.length oc,.int .i64 p.miss] qb #[.string p.name,.slice (some ⟨g,0,none⟩) p.rows.length (p.rows.length+9),pz,pz,pz,pz,pz,.int .i64 p.miss] [⟨1,47,5,.slice (some ⟨g,0,none⟩) (p.rows.length+9) (p.rows.length+9),p.rows.length+9,(fillL p.rows 9).flatMap rz5⟩])
 case first=>
  have hS0:w2.drew.cell? ⟨w.heap.size,0,none⟩=some (.string p.name)/\w2.drew.cell? ⟨w.heap.size,7,none⟩=some (.int .i64 p.miss)/\w2.drew.cell? ⟨w.heap.size,1,none⟩=some (.slice ao p.rows.length ac):=by
   obtain ⟨k0,k1,_,_,_,_,_,k7⟩:=pol8 HP2.out.1
   exact ⟨k0,k7,k1⟩
  refine wp_region_held (S:=fun w'=>w'.cell? ⟨w.heap.size,0,none⟩=some (.string p.name)/\w'.cell? ⟨w.heap.size,7,none⟩=some (.int .i64 p.miss)/\w'.cell? ⟨w.heap.size,1,none⟩=some (.slice ao p.rows.length ac)) (by kernel_rfl) ?_
  have hS:(fun w':World=>w'.cell? ⟨w.heap.size,0,none⟩=some (.string p.name)/\w'.cell? ⟨w.heap.size,7,none⟩=some (.int .i64 p.miss)/\w'.cell? ⟨w.heap.size,1,none⟩=some (.slice ao p.rows.length ac)) w2.drew:=hS0
  change wpAnyH _ _ _ _ _ _ _ _ w2.drew
  refine tk (i:=0) (v:=?av0) rfl (Or.inl ⟨by rfl,?ay0⟩) hS ?ar0
  case ay0=>intro w hSw;(try dsimp only at hSw);obtain ⟨e0,e1,e2⟩:=hSw;first | (go_simp;done) | (go_simp;with_reducible rfl)
  refine tk (i:=1) (v:=?av1) rfl (Or.inl ⟨by rfl,?ay1⟩) hS ?ar1
  case ay1=>intro w hSw;(try dsimp only at hSw);obtain ⟨e0,e1,e2⟩:=hSw;first | (go_simp;done) | (go_simp;with_reducible rfl)
  refine tk (i:=2) (v:=?av2) rfl (Or.inl ⟨by rfl,?ay2⟩) hS ?ar2
  case ay2=>intro w hSw;(try dsimp only at hSw);obtain ⟨e0,e1,e2⟩:=hSw;first | (go_simp;done) | (go_simp;with_reducible rfl)
  refine tk (i:=3) (v:=?av3) rfl (Or.inl ⟨by rfl,?ay3⟩) hS ?ar3
  case ay3=>intro w hSw;(try dsimp only at hSw);obtain ⟨e0,e1,e2⟩:=hSw;first | (go_simp;done) | (go_simp;with_reducible rfl)
  refine tk (i:=4) (v:=?av4) rfl (Or.inl ⟨by rfl,?ay4⟩) hS ?ar4
  case ay4=>intro w hSw;(try dsimp only at hSw);obtain ⟨e0,e1,e2⟩:=hSw;first | (go_simp;done) | (go_simp;with_reducible rfl)
  refine tk (i:=5) (v:=?av5) rfl (Or.inl ⟨by rfl,?ay5⟩) hS ?ar5
  case ay5=>intro w hSw;(try dsimp only at hSw);obtain ⟨e0,e1,e2⟩:=hSw;first | (go_simp;done) | (go_simp;with_reducible rfl)
  have HP3:Hid (w2.drew.heap[w.heap.size]?=some (.cells #[.string p.name,.slice ao p.rows.length ac,.slice qo p.qs.length qc,.slice vo p.vs.length vc,.slice tto p.ts.length tc,.slice uo p.us.length uc,.slice oo p.on.length oc,.int .i64 p.miss] 28 (0,0))/\w2.drew.heap[w.heap.size+1]?=some (.cells #[.string ⟨#[]⟩,pz,pz,pz,pz,pz,pz,.int .i64 0] 28 (0,0))/\Below w.heap.size w w2.drew):=⟨HP2.out.1,HP2.out.2.1,HP2.out.2.2.drew⟩
  have HP0:Hid (w.heap.size+1 < w2.drew.heap.size/\w.heap.size < w2.drew.heap.size):=⟨blk_lt HP3.out.2.1,blk_lt HP3.out.1⟩
  clear HP2
  generalize w2.drew=x0 at *
  refine rd2 6 8 (by kernel_rfl) rfl rfl (fun K hK=>?_) (fun K hK=>?_)
  ·go_simp
   refine Calls.mono (lendR_any ao p.rows ac x0 (HD.out.1.r.below HP3.out.2.2) (by have:=HD.out.2;omega)) ?_
   rintro e w4 ⟨rfl,hR4,hb4⟩
   have hb5:Below w4.heap.size w4 (w4.alloc (.cells #[.string p.name,.slice (some ⟨x0.heap.size,0,none⟩) p.rows.length (p.rows.length+9),pz,pz,pz,pz,pz,.int .i64 p.miss] 28)):=bAl w4 _
   have hb6:Below w4.heap.size w4 (w4.alloc (.cells #[.string ⟨#[]⟩,pz,pz,pz,pz,pz,pz,.int .i64 0] 28)):=bAl w4 _
   have hS4:w4.cell? ⟨w.heap.size,0,none⟩=some (.string p.name)/\w4.cell? ⟨w.heap.size,7,none⟩=some (.int .i64 p.miss)/\w4.cell? ⟨w.heap.size,1,none⟩=some (.slice ao p.rows.length ac):=⟨(hb4.cell (p:=⟨w.heap.size,0,none⟩) HP0.out.2).trans hS0.1,(hb4.cell (p:=⟨w.heap.size,7,none⟩) HP0.out.2).trans hS0.2.1,(hb4.cell (p:=⟨w.heap.size,1,none⟩) HP0.out.2).trans hS0.2.2⟩
   have hS5:(w4.alloc (.cells #[.string p.name,.slice (some ⟨x0.heap.size,0,none⟩) p.rows.length (p.rows.length+9),pz,pz,pz,pz,pz,.int .i64 p.miss] 28)).cell? ⟨w.heap.size,0,none⟩=some (.string p.name)/\(w4.alloc (.cells #[.string p.name,.slice (some ⟨x0.heap.size,0,none⟩) p.rows.length (p.rows.length+9),pz,pz,pz,pz,pz,.int .i64 p.miss] 28)).cell? ⟨w.heap.size,7,none⟩=some (.int .i64 p.miss)/\(w4.alloc (.cells #[.string p.name,.slice (some ⟨x0.heap.size,0,none⟩) p.rows.length (p.rows.length+9),pz,pz,pz,pz,pz,.int .i64 p.miss] 28)).cell? ⟨w.heap.size,1,none⟩=some (.slice ao p.rows.length ac):=⟨((hb4.trans (hb5.mono hb4.size)).cell (p:=⟨w.heap.size,0,none⟩) HP0.out.2).trans hS0.1,((hb4.trans (hb5.mono hb4.size)).cell (p:=⟨w.heap.size,7,none⟩) HP0.out.2).trans hS0.2.1,((hb4.trans (hb5.mono hb4.size)).cell (p:=⟨w.heap.size,1,none⟩) HP0.out.2).trans hS0.2.2⟩
   have hS6:(w4.alloc (.cells #[.string ⟨#[]⟩,pz,pz,pz,pz,pz,pz,.int .i64 0] 28)).cell? ⟨w.heap.size,0,none⟩=some (.string p.name)/\(w4.alloc (.cells #[.string ⟨#[]⟩,pz,pz,pz,pz,pz,pz,.int .i64 0] 28)).cell? ⟨w.heap.size,7,none⟩=some (.int .i64 p.miss)/\(w4.alloc (.cells #[.string ⟨#[]⟩,pz,pz,pz,pz,pz,pz,.int .i64 0] 28)).cell? ⟨w.heap.size,1,none⟩=some (.slice ao p.rows.length ac):=⟨((hb4.trans (hb6.mono hb4.size)).cell (p:=⟨w.heap.size,0,none⟩) HP0.out.2).trans hS0.1,((hb4.trans (hb6.mono hb4.size)).cell (p:=⟨w.heap.size,7,none⟩) HP0.out.2).trans hS0.2.1,((hb4.trans (hb6.mono hb4.size)).cell (p:=⟨w.heap.size,1,none⟩) HP0.out.2).trans hS0.2.2⟩
   have HLq:Hid (Lq w (w4.alloc (.cells #[.string p.name,.slice (some ⟨x0.heap.size,0,none⟩) p.rows.length (p.rows.length+9),pz,pz,pz,pz,pz,.int .i64 p.miss] 28)) #[.string p.name,.slice ao p.rows.length ac,.slice qo p.qs.length qc,.slice vo p.vs.length vc,.slice tto p.ts.length tc,.slice uo p.us.length uc,.slice oo p.on.length oc,.int .i64 p.miss] w4.heap.size #[.string p.name,.slice (some ⟨x0.heap.size,0,none⟩) p.rows.length (p.rows.length+9),pz,pz,pz,pz,pz,.int .i64 p.miss] [⟨1,47,5,.slice (some ⟨x0.heap.size,0,none⟩) (p.rows.length+9) (p.rows.length+9),p.rows.length+9,(fillL p.rows 9).flatMap rz5⟩]):=by
    have hb7:=hb4.trans (hb5.mono hb4.size)
    have hnq1:x0.heap.size ≠ w4.heap.size:=by have:=hR4.lt;omega
    have hr:=row_own (base:=w.heap.size+2) (hR4.below hb5 hR4.lt) (by have:=HP0.out.1;omega) (by rw [fillL_len _ _ (Nat.le_refl _)];have:=HD.out.2;omega)
    rw [fillL_len _ _ (Nat.le_refl _)] at hr
    exact ⟨(hb7.block _ HP0.out.1).trans HP3.out.2.1,(hb7.block _ HP0.out.2).trans HP3.out.1,heap_alloc_new w4 _,HP3.out.2.2.trans (hb7.mono HP3.out.2.2.size),by have:=hb4.size;have:=HP0.out.1;omega,fun o ho=>by simp only [List.mem_cons,List.not_mem_nil,or_false] at ho;subst ho;exact hr,by simp,fun o ho e=>by simp only [List.mem_cons,List.not_mem_nil,or_false] at ho;subst ho;exact hnq1 (by simpa [Value.ownBlock] using e)⟩
   clear hR4 hb4 hb5 hb6
   refine hK.out _ _ hS4 (fun hS=>?_)
   refine rd2 7 8 (by kernel_rfl) rfl rfl (fun K hK=>?_) (fun K hK=>?_)
   ·go_simp
    refine hK.out _ _ hS4 (fun hS=>?_)
    refine rd1 8 rfl fun K hK=>?_
    go_simp
    refine hK.out _ _ hS6 (fun hS=>?_)
    refine rd1 9 rfl fun K hK=>?_
    go_simp
    refine hK.out _ _ hS5 (fun hS=>?_)
    refine wpAnyH_done (by kernel_rfl) ?_ _
    go_wp2_with fail
    go_meet
    case rel=>exact ⟨_,_,rfl,HLq.out⟩
   ·go_simp
    refine hK.out _ _ hS6 (fun hS=>?_)
    refine rd1 7 rfl fun K hK=>?_
    go_simp
    refine hK.out _ _ hS6 (fun hS=>?_)
    refine rd1 9 rfl fun K hK=>?_
    go_simp
    refine hK.out _ _ hS5 (fun hS=>?_)
    refine wpAnyH_done (by kernel_rfl) ?_ _
    go_wp2_with fail
    go_meet
    case rel=>exact ⟨_,_,rfl,HLq.out⟩
  ·go_simp
   have hbA:Below x0.heap.size x0 (x0.alloc (.cells #[.string ⟨#[]⟩,pz,pz,pz,pz,pz,pz,.int .i64 0] 28)):=bAl x0 _
   have HA:Hid (Below x0.heap.size x0 (x0.alloc (.cells #[.string ⟨#[]⟩,pz,pz,pz,pz,pz,pz,.int .i64 0] 28))/\(x0.alloc (.cells #[.string ⟨#[]⟩,pz,pz,pz,pz,pz,pz,.int .i64 0] 28)).heap[x0.heap.size]?=some (.cells #[.string ⟨#[]⟩,pz,pz,pz,pz,pz,pz,.int .i64 0] 28 (0,0))):=⟨hbA,heap_alloc_new x0 _⟩
   have hSA:(x0.alloc (.cells #[.string ⟨#[]⟩,pz,pz,pz,pz,pz,pz,.int .i64 0] 28)).cell? ⟨w.heap.size,0,none⟩=some (.string p.name)/\(x0.alloc (.cells #[.string ⟨#[]⟩,pz,pz,pz,pz,pz,pz,.int .i64 0] 28)).cell? ⟨w.heap.size,7,none⟩=some (.int .i64 p.miss)/\(x0.alloc (.cells #[.string ⟨#[]⟩,pz,pz,pz,pz,pz,pz,.int .i64 0] 28)).cell? ⟨w.heap.size,1,none⟩=some (.slice ao p.rows.length ac):=⟨(hbA.cell (p:=⟨w.heap.size,0,none⟩) HP0.out.2).trans hS0.1,(hbA.cell (p:=⟨w.heap.size,7,none⟩) HP0.out.2).trans hS0.2.1,(hbA.cell (p:=⟨w.heap.size,1,none⟩) HP0.out.2).trans hS0.2.2⟩
   clear hbA
   generalize x0.alloc (.cells #[.string ⟨#[]⟩,pz,pz,pz,pz,pz,pz,.int .i64 0] 28)=wA at *
   refine hK.out _ _ hSA (fun hS=>?_)
   refine rd1 6 rfl fun K hK=>?_
   go_simp
   refine Calls.mono (lendR_any ao p.rows ac wA (HD.out.1.r.below (HP3.out.2.2.trans (HA.out.1.mono HP3.out.2.2.size))) (by have:=HD.out.2;omega)) ?_
   rintro e w4 ⟨rfl,hR4,hb4⟩
   have hbq:Below x0.heap.size x0 w4:=HA.out.1.trans (hb4.mono HA.out.1.size)
   have hq4:=(hb4.block _ (blk_lt HA.out.2)).trans HA.out.2
   obtain ⟨r0,r1,r2,r3,r4,r5,r6,r7⟩:=zero8 hq4
   have z0:=zero8f hq4 0
   have z1:=zero8f hq4 1
   have z2:=zero8f hq4 2
   have z3:=zero8f hq4 3
   have z4:=zero8f hq4 4
   have z5:=zero8f hq4 5
   have z6:=zero8f hq4 6
   have z7:=zero8f hq4 7
   have hS4:w4.cell? ⟨w.heap.size,0,none⟩=some (.string p.name)/\w4.cell? ⟨w.heap.size,7,none⟩=some (.int .i64 p.miss)/\w4.cell? ⟨w.heap.size,1,none⟩=some (.slice ao p.rows.length ac):=⟨(hbq.cell (p:=⟨w.heap.size,0,none⟩) HP0.out.2).trans hS0.1,(hbq.cell (p:=⟨w.heap.size,7,none⟩) HP0.out.2).trans hS0.2.1,(hbq.cell (p:=⟨w.heap.size,1,none⟩) HP0.out.2).trans hS0.2.2⟩
   have hp:=put8L (v0:=.string p.name) (v1:=.slice (some ⟨wA.heap.size,0,none⟩) p.rows.length (p.rows.length+9)) (v2:=pz) (v3:=pz) (v4:=pz) (v5:=pz) (v6:=pz) (v7:=.int .i64 p.miss) hbq (Nat.le_refl _) hq4
   have H4:Hid (RowZ w4 wA.heap.size (fillL p.rows 9)/\Below wA.heap.size wA w4/\Below x0.heap.size x0 w4):=⟨hR4,hb4,hbq⟩
   have HPt:=hdn <| hp
   clear hR4 hb4 hbq hq4 hp
   refine hK.out _ _ hS4 (fun hS=>?_)
   refine rd1 7 rfl fun K hK=>?_
   go_simp
   refine hK.out _ _ hS4 (fun hS=>?_)
   refine rd1 9 rfl fun K hK=>?_
   go_simp
   clear r0 r1 r2 r3 r4 r5 r6 r7 z0 z1 z2 z3 z4 z5 z6 z7
   generalize ((((((((w4.setCell ⟨x0.heap.size,0,none⟩ (.string p.name)).setCell ⟨x0.heap.size,1,none⟩ (.slice (some ⟨wA.heap.size,0,none⟩) p.rows.length (p.rows.length+9))).setCell ⟨x0.heap.size,2,none⟩ (pz)).setCell ⟨x0.heap.size,3,none⟩ (pz)).setCell ⟨x0.heap.size,4,none⟩ (pz)).setCell ⟨x0.heap.size,5,none⟩ (pz)).setCell ⟨x0.heap.size,6,none⟩ (pz)).setCell ⟨x0.heap.size,7,none⟩ (.int .i64 p.miss))=w9 at *
   have hS9:w9.cell? ⟨w.heap.size,0,none⟩=some (.string p.name)/\w9.cell? ⟨w.heap.size,7,none⟩=some (.int .i64 p.miss)/\w9.cell? ⟨w.heap.size,1,none⟩=some (.slice ao p.rows.length ac):=⟨(HPt.out.2.1.cell (p:=⟨w.heap.size,0,none⟩) HP0.out.2).trans hS0.1,(HPt.out.2.1.cell (p:=⟨w.heap.size,7,none⟩) HP0.out.2).trans hS0.2.1,(HPt.out.2.1.cell (p:=⟨w.heap.size,1,none⟩) HP0.out.2).trans hS0.2.2⟩
   have HLq:Hid (Lq w w9 #[.string p.name,.slice ao p.rows.length ac,.slice qo p.qs.length qc,.slice vo p.vs.length vc,.slice tto p.ts.length tc,.slice uo p.us.length uc,.slice oo p.on.length oc,.int .i64 p.miss] x0.heap.size #[.string p.name,.slice (some ⟨wA.heap.size,0,none⟩) p.rows.length (p.rows.length+9),pz,pz,pz,pz,pz,.int .i64 p.miss] [⟨1,47,5,.slice (some ⟨wA.heap.size,0,none⟩) (p.rows.length+9) (p.rows.length+9),p.rows.length+9,(fillL p.rows 9).flatMap rz5⟩]):=by
    have hAs:=HA.out.1.size
    have hlA:=blk_lt HA.out.2
    have hnq1:wA.heap.size ≠ x0.heap.size:=by omega
    have hr:=row_own (base:=w.heap.size+2) (u:=w9) (g:=wA.heap.size) (l:=fillL p.rows 9) ((HPt.out.2.2 _ (by omega)).trans H4.out.1) (by have:=HP0.out.1;omega) (by rw [fillL_len _ _ (Nat.le_refl _)];have:=HD.out.2;omega)
    rw [fillL_len _ _ (Nat.le_refl _)] at hr
    exact ⟨(HPt.out.2.1.block _ HP0.out.1).trans HP3.out.2.1,(HPt.out.2.1.block _ HP0.out.2).trans HP3.out.1,HPt.out.1,HP3.out.2.2.trans (HPt.out.2.1.mono HP3.out.2.2.size),HP0.out.1,fun o ho=>by simp only [List.mem_cons,List.not_mem_nil,or_false] at ho;subst ho;exact hr,by simp,fun o ho e=>by simp only [List.mem_cons,List.not_mem_nil,or_false] at ho;subst ho;exact hnq1 (by simpa [Value.ownBlock] using e)⟩
   refine hK.out _ _ hS9 (fun hS=>?_)
   refine wpAnyH_done (by kernel_rfl) ?_ _
   go_wp2_with fail
   go_meet
   case rel=>exact ⟨_,_,rfl,HLq.out⟩
 case rest=>
  obtain ⟨qb,g,rfl,hLq⟩:=hcut
  have HQ:=hdn <| hLq
  clear hLq HP2
  go_wp2_with fail
  go_cut [3] (fun s3 wx=>s3=.pointer (some ⟨qb,0,none⟩)/\∃ gq cq,p.qs.length+1<=cq/\Lq w wx #[.string p.name,.slice ao p.rows.length ac,.slice qo p.qs.length qc,.slice vo p.vs.length vc,.slice tto p.ts.length tc,.slice uo p.us.length uc,.slice oo p.on.length oc,.int .i64 p.miss] qb #[.string p.name,.slice (some ⟨g,0,none⟩) p.rows.length (p.rows.length+9),.slice (some ⟨gq,0,none⟩) p.qs.length cq,pz,pz,pz,pz,.int .i64 p.miss] [⟨1,47,5,.slice (some ⟨g,0,none⟩) (p.rows.length+9) (p.rows.length+9),p.rows.length+9,(fillL p.rows 9).flatMap rz5⟩,⟨2,67,2,.slice (some ⟨gq,0,none⟩) (p.qs.length+1) cq,p.qs.length+1,qF p.qs++[.string ⟨#[108,101,110,116]⟩,.bool false]⟩])
  case first=>
   have hS0:wc.drew.cell? ⟨w.heap.size,2,none⟩=some (.slice qo p.qs.length qc):=HQ.out.cellp 2 _ rfl
   have HV:Hid (IsVals wc.drew qo (qF p.qs)):=Hq.out.1.below (HQ.out.b.trans ((Below.refl _ wc).drew.mono HQ.out.b.size))
   refine wp_region_held (S:=fun w':World=>w'.cell? ⟨w.heap.size,2,none⟩=some (.slice qo p.qs.length qc)) (by kernel_rfl) ?_
   have hS:(fun w':World=>w'.cell? ⟨w.heap.size,2,none⟩=some (.slice qo p.qs.length qc)) wc.drew:=hS0
   change wpAnyH _ _ _ _ _ _ _ _ wc.drew
   refine tk (i:=0) (v:=?qv0) rfl (Or.inl ⟨by rfl,?qy0⟩) hS ?qr0
   case qy0=>intro w hSw;(try dsimp only at hSw);first | (go_simp;done) | (go_simp;with_reducible rfl)
   refine tk (i:=1) (v:=?qv1) rfl (Or.inl ⟨by rfl,?qy1⟩) hS ?qr1
   case qy1=>intro w hSw;(try dsimp only at hSw);first | (go_simp;done) | (go_simp;with_reducible rfl)
   refine tk (i:=2) (v:=?qv2) rfl (Or.inl ⟨by rfl,?qy2⟩) hS ?qr2
   case qy2=>intro w hSw;(try dsimp only at hSw);first | (go_simp;done) | (go_simp;with_reducible rfl)
   refine tk (i:=3) (v:=?qv3) rfl (Or.inl ⟨by rfl,?qy3⟩) hS ?qr3
   case qy3=>intro w hSw;(try dsimp only at hSw);first | (go_simp;done) | (go_simp;with_reducible rfl)
   refine tk (i:=5) (v:=?qv4) rfl (Or.inl ⟨by rfl,?qy4⟩) hS ?qr4
   case qy4=>intro w hSw;(try dsimp only at hSw);first | (go_simp;done) | (go_simp;with_reducible rfl)
   refine tk (i:=6) (v:=?qv5) rfl (Or.inl ⟨by rfl,?qy5⟩) hS ?qr5
   case qy5=>intro w hSw;(try dsimp only at hSw);first | (go_simp;done) | (go_simp;with_reducible rfl)
   refine tk (i:=8) (v:=?qv6) rfl (Or.inl ⟨by rfl,?qy6⟩) hS ?qr6
   case qy6=>intro w hSw;(try dsimp only at hSw);first | (go_simp;done) | (go_simp;with_reducible rfl)
   refine tk (i:=11) (v:=?qv7) rfl (Or.inl ⟨by rfl,?qy7⟩) hS ?qr7
   case qy7=>intro w hSw;(try dsimp only at hSw);first | (go_simp;done) | (go_simp;with_reducible rfl)
   refine tk (i:=12) (v:=?qv8) rfl (Or.inl ⟨by rfl,?qy8⟩) hS ?qr8
   case qy8=>intro w hSw;(try dsimp only at hSw);first | (go_simp;done) | (go_simp;with_reducible rfl)
   refine tk (i:=13) (v:=?qv9) rfl (Or.inl ⟨by rfl,?qy9⟩) hS ?qr9
   case qy9=>intro w hSw;(try dsimp only at hSw);first | (go_simp;done) | (go_simp;with_reducible rfl)
   have hwp:IntKind.i64.wrap ((p.qs.length:Int)+3)=(p.qs.length:Int)+3:=by rw [IntKind.wrap_i64];omega
   simp only [hwp]
   have HQ:=hdn <| HQ.out.below (Below.refl _ wc).drew
   clear hwp
   generalize wc.drew=x0 at *
   obtain ⟨B0,hB0⟩:∃ B0,B0=x0.heap.size:=⟨_,rfl⟩
   have HB0:Hid (B0=x0.heap.size):=hB0
   clear hB0
   refine rd2 4 9 (by kernel_rfl) rfl rfl (fun K hK=>?_) (fun K hK=>?_)
   ·have HX:Hid (Below B0 x0 x0):=Below.refl _ _
    go_simp
    have hbm:Below x0.heap.size x0 (x0.alloc (.cells Mq 67)):=bAl x0 _
    have HO:Hid ((x0.alloc (.cells Mq 67)).ownsRow B0 67 2 (.slice (some ⟨x0.heap.size,0,none⟩) 0 (p.qs.length+3)) 0 []):=own_made Hq.out.2.2.2 (by have:=HX.out.size;have:=HB0.out;omega) Hq.out.2.1
    have HX:=hdn <| HX.out.trans (hbm.mono (by have:=HX.out.size;have:=HB0.out;omega))
    clear hbm
    generalize x0.alloc (.cells Mq 67)=y1 at *
    generalize x0.heap.size=g0 at HO ⊢
    have hS_y1:y1.cell? ⟨w.heap.size,2,none⟩=some (.slice qo p.qs.length qc):=(HX.out.cell (p:=⟨w.heap.size,2,none⟩) (by have:=blk_lt HQ.out.p;have:=HB0.out;show w.heap.size < B0;omega)).trans hS0
    refine hK.out _ _ hS_y1 (fun hS=>?_)
    refine rd2 7 9 (by kernel_rfl) rfl rfl (fun K hK=>?_) (fun K hK=>?_)
    ·refine step_app _ rfl (.tmp 16) (.tmp 18) 25 rfl B0 67 iq (.agg #[.string ByteArray.empty,.bool false]) 2 24 Tryz.underlying25 hiq hzq0 hzq1 hzq2 rfl (by decide) (.slice (some ⟨g0,0,none⟩) 0 (p.qs.length+3)) 0 [] (by simp [Act.eval]) HO.out qo p.qs.length qc (qF p.qs) (by simp [Act.eval]) Hq.out.2.2.1.1 Hq.out.2.2.1.2 (vals_src (HV.out.below (by have:=HX.out;rw [HB0.out] at this;exact this))) (qF_one _) (by have:=Hq.out.2.1;unfold maxLen;omega) (by have:=Hq.out.2.1;omega) (by have:=HX.out.size;have:=HB0.out;omega) ?_
     intro v1 y2 ho1 hg1 hw1
     try rw [Nat.zero_add] at ho1
     have HX2:Hid (Below B0 x0 y2):=HX.out.grown hg1 (by have:=HX.out.size;have:=HB0.out;omega) (fun q e=>(World.ownsRow.lt HO.out q e).1)
     have HO:Hid (y2.ownsRow B0 67 2 v1 p.qs.length (qF p.qs)):=ho1
     have HX:=HX2
     clear ho1 hg1 hw1 HX2
     have hS_y2:y2.cell? ⟨w.heap.size,2,none⟩=some (.slice qo p.qs.length qc):=(HX.out.cell (p:=⟨w.heap.size,2,none⟩) (by have:=blk_lt HQ.out.p;have:=HB0.out;show w.heap.size < B0;omega)).trans hS0
     refine hK.out _ _ hS_y2 (fun hS=>?_)
     refine rd1 9 rfl fun K hK=>?_
     go_simp
     have hbm:Below y2.heap.size y2 (y2.alloc (.cells #[.string ⟨#[108,101,110,116]⟩,.bool false] 67)):=bAl y2 _
     have hnew:=heap_alloc_new y2 (.cells #[.string ⟨#[108,101,110,116]⟩,.bool false] 67)
     have HMk:Hid ((y2.alloc (.cells #[.string ⟨#[108,101,110,116]⟩,.bool false] 67)).heap[y2.heap.size]?=some (.cells #[.string ⟨#[108,101,110,116]⟩,.bool false] 67 (0,0))):=hnew
     have HO:=hdn <| own_below HO.out hbm
     have HX:=hdn <| HX.out.trans (hbm.mono (by have:=HX.out.size;have:=HB0.out;omega))
     clear hbm hnew
     generalize y2.alloc (.cells #[.string ⟨#[108,101,110,116]⟩,.bool false] 67)=y3 at *
     generalize y2.heap.size=bm at HMk ⊢
     have hS_y3:y3.cell? ⟨w.heap.size,2,none⟩=some (.slice qo p.qs.length qc):=(HX.out.cell (p:=⟨w.heap.size,2,none⟩) (by have:=blk_lt HQ.out.p;have:=HB0.out;show w.heap.size < B0;omega)).trans hS0
     refine hK.out _ _ hS_y3 (fun hS=>?_)
     refine rd1 10 rfl fun K hK=>?_
     refine step_app _ rfl (.tmp 19) (.tmp 21) 25 rfl B0 67 iq (.agg #[.string ByteArray.empty,.bool false]) 2 24 Tryz.underlying25 hiq hzq0 hzq1 hzq2 rfl (by decide) v1 p.qs.length (qF p.qs) (by simp [Act.eval]) HO.out (some ⟨bm,0,none⟩) 1 1 [.string ⟨#[108,101,110,116]⟩,.bool false] (by simp [Act.eval]) rfl (fun e=>by cases e) (fun ad e j u hu=>by cases e;exact Lib.cells_of_row HMk.out 2 j u (by simpa using hu)) (by intro u hu;simp only [List.mem_cons,List.not_mem_nil,or_false] at hu;rcases hu with rfl | rfl<;>rfl) (by have:=Hq.out.2.1;unfold maxLen;omega) (by have:=Hq.out.2.1;omega) (by have:=HX.out.size;have:=HB0.out;omega) ?_
     intro v2 y9 ho2 hg2 hw2
     have HX2:Hid (Below B0 x0 y9):=HX.out.grown hg2 (by have:=HX.out.size;have:=HB0.out;omega) (fun q e=>(World.ownsRow.lt HO.out q e).1)
     obtain ⟨g,cp,rfl,hcap,hcm⟩:=own_some ho2 (Nat.succ_pos _)
     have HO2:Hid (y9.ownsRow B0 67 2 (.slice (some ⟨g,0,none⟩) (p.qs.length+1) cp) (p.qs.length+1) (qF p.qs++[.string ⟨#[108,101,110,116]⟩,.bool false])):=ho2
     have HX:=HX2
     have hc1:(p.qs.length:Int)<=(cp:Int):=by omega
     have hc3:p.qs.length<=cp:=by omega
     have hc4:(cp:Int)<=9223372036854775807:=by unfold maxLen at hcm;omega
     clear ho2 hg2 hw2 HX2 hcm
     have hS_y9:y9.cell? ⟨w.heap.size,2,none⟩=some (.slice qo p.qs.length qc):=(HX.out.cell (p:=⟨w.heap.size,2,none⟩) (by have:=blk_lt HQ.out.p;have:=HB0.out;show w.heap.size < B0;omega)).trans hS0
     have hq9:=(HX.out.block _ (by have:=blk_lt HQ.out.q;have:=HB0.out;omega)).trans HQ.out.q
     have m0:y9.cell? ⟨qb,2,none⟩=some pz:=by rw [World.cell?,hq9];rfl
     have m1:y9.frozen? ⟨qb,2,none⟩=false:=fzb hq9 2
     clear hq9
     refine hK.out _ _ hS_y9 (fun hS=>?_)
     refine rd1 14 rfl fun K hK=>?_
     go_simp
     refine hK.out _ _ hS_y9 (fun hS=>?_)
     refine rd1 15 rfl fun K hK=>?_
     go_simp
     refine hK.out _ _ hS_y9 (fun hS=>?_)
     refine rd1 16 rfl fun K hK=>?_
     go_simp
     have hX9:=HX.out
     have hO9:=HO2.out
     rw [HB0.out] at hX9 hO9
     have hLq:=HQ.out.put hX9 hO9 2 (.slice (some ⟨g,0,none⟩) p.qs.length cp)
     have hS_z:(y9.setCell ⟨qb,2,none⟩ (.slice (some ⟨g,0,none⟩) p.qs.length cp)).cell? ⟨w.heap.size,2,none⟩=some (.slice qo p.qs.length qc):=hLq.cellp 2 _ rfl
     have HLq:=hdn <| hLq
     clear hLq hX9 hO9
     refine hK.out _ _ hS_z (fun hS=>?_)
     refine wpAnyH_done (by kernel_rfl) ?_ _
     go_wp2_with fail
     go_meet
     case rel=>exact ⟨rfl,g,cp,hcap,HLq.out⟩
    ·go_simp
     have hbm:Below y1.heap.size y1 (y1.alloc (.cells #[.string ⟨#[108,101,110,116]⟩,.bool false] 67)):=bAl y1 _
     have hnew:=heap_alloc_new y1 (.cells #[.string ⟨#[108,101,110,116]⟩,.bool false] 67)
     have HMk:Hid ((y1.alloc (.cells #[.string ⟨#[108,101,110,116]⟩,.bool false] 67)).heap[y1.heap.size]?=some (.cells #[.string ⟨#[108,101,110,116]⟩,.bool false] 67 (0,0))/\y1.heap.size ≠ g0):=⟨hnew,by have:=(World.ownsRow.lt HO.out g0 rfl).2;omega⟩
     have HO:=hdn <| own_below HO.out hbm
     have HX:=hdn <| HX.out.trans (hbm.mono (by have:=HX.out.size;have:=HB0.out;omega))
     clear hbm hnew
     generalize y1.alloc (.cells #[.string ⟨#[108,101,110,116]⟩,.bool false] 67)=y2 at *
     generalize y1.heap.size=bm at HMk ⊢
     have hS_y2:y2.cell? ⟨w.heap.size,2,none⟩=some (.slice qo p.qs.length qc):=(HX.out.cell (p:=⟨w.heap.size,2,none⟩) (by have:=blk_lt HQ.out.p;have:=HB0.out;show w.heap.size < B0;omega)).trans hS0
     refine hK.out _ _ hS_y2 (fun hS=>?_)
     refine rd1 7 rfl fun K hK=>?_
     refine step_app _ rfl (.tmp 16) (.tmp 18) 25 rfl B0 67 iq (.agg #[.string ByteArray.empty,.bool false]) 2 24 Tryz.underlying25 hiq hzq0 hzq1 hzq2 rfl (by decide) (.slice (some ⟨g0,0,none⟩) 0 (p.qs.length+3)) 0 [] (by simp [Act.eval]) HO.out qo p.qs.length qc (qF p.qs) (by simp [Act.eval]) Hq.out.2.2.1.1 Hq.out.2.2.1.2 (vals_src (HV.out.below (by have:=HX.out;rw [HB0.out] at this;exact this))) (qF_one _) (by have:=Hq.out.2.1;unfold maxLen;omega) (by have:=Hq.out.2.1;omega) (by have:=HX.out.size;have:=HB0.out;omega) ?_
     intro v1 y3 ho1 hg1 hw1
     try rw [Nat.zero_add] at ho1
     have HX2:Hid (Below B0 x0 y3):=HX.out.grown hg1 (by have:=HX.out.size;have:=HB0.out;omega) (fun q e=>(World.ownsRow.lt HO.out q e).1)
     have HMk:Hid (y3.heap[bm]?=some (.cells #[.string ⟨#[108,101,110,116]⟩,.bool false] 67 (0,0))):=(hg1.block bm (blk_lt HMk.out.1) (fun e=>HMk.out.2 (by cases e;rfl))).trans HMk.out.1
     have HO:Hid (y3.ownsRow B0 67 2 v1 p.qs.length (qF p.qs)):=ho1
     have HX:=HX2
     clear ho1 hg1 hw1 HX2
     have hS_y3:y3.cell? ⟨w.heap.size,2,none⟩=some (.slice qo p.qs.length qc):=(HX.out.cell (p:=⟨w.heap.size,2,none⟩) (by have:=blk_lt HQ.out.p;have:=HB0.out;show w.heap.size < B0;omega)).trans hS0
     refine hK.out _ _ hS_y3 (fun hS=>?_)
     refine rd1 10 rfl fun K hK=>?_
     refine step_app _ rfl (.tmp 19) (.tmp 21) 25 rfl B0 67 iq (.agg #[.string ByteArray.empty,.bool false]) 2 24 Tryz.underlying25 hiq hzq0 hzq1 hzq2 rfl (by decide) v1 p.qs.length (qF p.qs) (by simp [Act.eval,Act.put]) HO.out (some ⟨bm,0,none⟩) 1 1 [.string ⟨#[108,101,110,116]⟩,.bool false] (by simp [Act.eval,Act.put]) rfl (fun e=>by cases e) (fun ad e j u hu=>by cases e;exact Lib.cells_of_row HMk.out 2 j u (by simpa using hu)) (by intro u hu;simp only [List.mem_cons,List.not_mem_nil,or_false] at hu;rcases hu with rfl | rfl<;>rfl) (by have:=Hq.out.2.1;unfold maxLen;omega) (by have:=Hq.out.2.1;omega) (by have:=HX.out.size;have:=HB0.out;omega) ?_
     intro v2 y9 ho2 hg2 hw2
     have HX2:Hid (Below B0 x0 y9):=HX.out.grown hg2 (by have:=HX.out.size;have:=HB0.out;omega) (fun q e=>(World.ownsRow.lt HO.out q e).1)
     obtain ⟨g,cp,rfl,hcap,hcm⟩:=own_some ho2 (Nat.succ_pos _)
     have HO2:Hid (y9.ownsRow B0 67 2 (.slice (some ⟨g,0,none⟩) (p.qs.length+1) cp) (p.qs.length+1) (qF p.qs++[.string ⟨#[108,101,110,116]⟩,.bool false])):=ho2
     have HX:=HX2
     have hc1:(p.qs.length:Int)<=(cp:Int):=by omega
     have hc3:p.qs.length<=cp:=by omega
     have hc4:(cp:Int)<=9223372036854775807:=by unfold maxLen at hcm;omega
     clear ho2 hg2 hw2 HX2 hcm
     have hS_y9:y9.cell? ⟨w.heap.size,2,none⟩=some (.slice qo p.qs.length qc):=(HX.out.cell (p:=⟨w.heap.size,2,none⟩) (by have:=blk_lt HQ.out.p;have:=HB0.out;show w.heap.size < B0;omega)).trans hS0
     have hq9:=(HX.out.block _ (by have:=blk_lt HQ.out.q;have:=HB0.out;omega)).trans HQ.out.q
     have m0:y9.cell? ⟨qb,2,none⟩=some pz:=by rw [World.cell?,hq9];rfl
     have m1:y9.frozen? ⟨qb,2,none⟩=false:=fzb hq9 2
     clear hq9
     refine hK.out _ _ hS_y9 (fun hS=>?_)
     refine rd1 14 rfl fun K hK=>?_
     go_simp
     refine hK.out _ _ hS_y9 (fun hS=>?_)
     refine rd1 15 rfl fun K hK=>?_
     go_simp
     refine hK.out _ _ hS_y9 (fun hS=>?_)
     refine rd1 16 rfl fun K hK=>?_
     go_simp
     have hX9:=HX.out
     have hO9:=HO2.out
     rw [HB0.out] at hX9 hO9
     have hLq:=HQ.out.put hX9 hO9 2 (.slice (some ⟨g,0,none⟩) p.qs.length cp)
     have hS_z:(y9.setCell ⟨qb,2,none⟩ (.slice (some ⟨g,0,none⟩) p.qs.length cp)).cell? ⟨w.heap.size,2,none⟩=some (.slice qo p.qs.length qc):=hLq.cellp 2 _ rfl
     have HLq:=hdn <| hLq
     clear hLq hX9 hO9
     refine hK.out _ _ hS_z (fun hS=>?_)
     refine wpAnyH_done (by kernel_rfl) ?_ _
     go_wp2_with fail
     go_meet
     case rel=>exact ⟨rfl,g,cp,hcap,HLq.out⟩
   ·have HX:Hid (Below B0 x0 x0):=Below.refl _ _
    go_simp
    have hbm:Below x0.heap.size x0 (x0.alloc (.cells #[.string ⟨#[108,101,110,116]⟩,.bool false] 67)):=bAl x0 _
    have hnew:=heap_alloc_new x0 (.cells #[.string ⟨#[108,101,110,116]⟩,.bool false] 67)
    have HMk:Hid ((x0.alloc (.cells #[.string ⟨#[108,101,110,116]⟩,.bool false] 67)).heap[x0.heap.size]?=some (.cells #[.string ⟨#[108,101,110,116]⟩,.bool false] 67 (0,0))):=hnew
    have HX:=hdn <| HX.out.trans (hbm.mono (by have:=HX.out.size;have:=HB0.out;omega))
    clear hbm hnew
    generalize x0.alloc (.cells #[.string ⟨#[108,101,110,116]⟩,.bool false] 67)=y1 at *
    generalize x0.heap.size=bm at HMk ⊢
    have hS_y1:y1.cell? ⟨w.heap.size,2,none⟩=some (.slice qo p.qs.length qc):=(HX.out.cell (p:=⟨w.heap.size,2,none⟩) (by have:=blk_lt HQ.out.p;have:=HB0.out;show w.heap.size < B0;omega)).trans hS0
    refine hK.out _ _ hS_y1 (fun hS=>?_)
    refine rd1 4 rfl fun K hK=>?_
    go_simp
    have hbm:Below y1.heap.size y1 (y1.alloc (.cells Mq 67)):=bAl y1 _
    have HO:Hid ((y1.alloc (.cells Mq 67)).ownsRow B0 67 2 (.slice (some ⟨y1.heap.size,0,none⟩) 0 (p.qs.length+3)) 0 []):=own_made Hq.out.2.2.2 (by have:=HX.out.size;have:=HB0.out;omega) Hq.out.2.1
    have HX:=hdn <| HX.out.trans (hbm.mono (by have:=HX.out.size;have:=HB0.out;omega))
    have HMk:Hid ((y1.alloc (.cells Mq 67)).heap[bm]?=some (.cells #[.string ⟨#[108,101,110,116]⟩,.bool false] 67 (0,0))/\bm ≠ y1.heap.size):=⟨(hbm.block _ (blk_lt HMk.out)).trans HMk.out,by have:=blk_lt HMk.out;omega⟩
    clear hbm
    generalize y1.alloc (.cells Mq 67)=y2 at *
    generalize y1.heap.size=g0 at HO HMk ⊢
    have hS_y2:y2.cell? ⟨w.heap.size,2,none⟩=some (.slice qo p.qs.length qc):=(HX.out.cell (p:=⟨w.heap.size,2,none⟩) (by have:=blk_lt HQ.out.p;have:=HB0.out;show w.heap.size < B0;omega)).trans hS0
    refine hK.out _ _ hS_y2 (fun hS=>?_)
    refine rd1 7 rfl fun K hK=>?_
    refine step_app _ rfl (.tmp 16) (.tmp 18) 25 rfl B0 67 iq (.agg #[.string ByteArray.empty,.bool false]) 2 24 Tryz.underlying25 hiq hzq0 hzq1 hzq2 rfl (by decide) (.slice (some ⟨g0,0,none⟩) 0 (p.qs.length+3)) 0 [] (by simp [Act.eval]) HO.out qo p.qs.length qc (qF p.qs) (by simp [Act.eval]) Hq.out.2.2.1.1 Hq.out.2.2.1.2 (vals_src (HV.out.below (by have:=HX.out;rw [HB0.out] at this;exact this))) (qF_one _) (by have:=Hq.out.2.1;unfold maxLen;omega) (by have:=Hq.out.2.1;omega) (by have:=HX.out.size;have:=HB0.out;omega) ?_
    intro v1 y3 ho1 hg1 hw1
    try rw [Nat.zero_add] at ho1
    have HX2:Hid (Below B0 x0 y3):=HX.out.grown hg1 (by have:=HX.out.size;have:=HB0.out;omega) (fun q e=>(World.ownsRow.lt HO.out q e).1)
    have HMk:Hid (y3.heap[bm]?=some (.cells #[.string ⟨#[108,101,110,116]⟩,.bool false] 67 (0,0))):=(hg1.block bm (blk_lt HMk.out.1) (fun e=>HMk.out.2 (by cases e;rfl))).trans HMk.out.1
    have HO:Hid (y3.ownsRow B0 67 2 v1 p.qs.length (qF p.qs)):=ho1
    have HX:=HX2
    clear ho1 hg1 hw1 HX2
    have hS_y3:y3.cell? ⟨w.heap.size,2,none⟩=some (.slice qo p.qs.length qc):=(HX.out.cell (p:=⟨w.heap.size,2,none⟩) (by have:=blk_lt HQ.out.p;have:=HB0.out;show w.heap.size < B0;omega)).trans hS0
    refine hK.out _ _ hS_y3 (fun hS=>?_)
    refine rd1 10 rfl fun K hK=>?_
    refine step_app _ rfl (.tmp 19) (.tmp 21) 25 rfl B0 67 iq (.agg #[.string ByteArray.empty,.bool false]) 2 24 Tryz.underlying25 hiq hzq0 hzq1 hzq2 rfl (by decide) v1 p.qs.length (qF p.qs) (by simp [Act.eval,Act.put]) HO.out (some ⟨bm,0,none⟩) 1 1 [.string ⟨#[108,101,110,116]⟩,.bool false] (by simp [Act.eval,Act.put]) rfl (fun e=>by cases e) (fun ad e j u hu=>by cases e;exact Lib.cells_of_row HMk.out 2 j u (by simpa using hu)) (by intro u hu;simp only [List.mem_cons,List.not_mem_nil,or_false] at hu;rcases hu with rfl | rfl<;>rfl) (by have:=Hq.out.2.1;unfold maxLen;omega) (by have:=Hq.out.2.1;omega) (by have:=HX.out.size;have:=HB0.out;omega) ?_
    intro v2 y9 ho2 hg2 hw2
    have HX2:Hid (Below B0 x0 y9):=HX.out.grown hg2 (by have:=HX.out.size;have:=HB0.out;omega) (fun q e=>(World.ownsRow.lt HO.out q e).1)
    obtain ⟨g,cp,rfl,hcap,hcm⟩:=own_some ho2 (Nat.succ_pos _)
    have HO2:Hid (y9.ownsRow B0 67 2 (.slice (some ⟨g,0,none⟩) (p.qs.length+1) cp) (p.qs.length+1) (qF p.qs++[.string ⟨#[108,101,110,116]⟩,.bool false])):=ho2
    have HX:=HX2
    have hc1:(p.qs.length:Int)<=(cp:Int):=by omega
    have hc3:p.qs.length<=cp:=by omega
    have hc4:(cp:Int)<=9223372036854775807:=by unfold maxLen at hcm;omega
    clear ho2 hg2 hw2 HX2 hcm
    have hS_y9:y9.cell? ⟨w.heap.size,2,none⟩=some (.slice qo p.qs.length qc):=(HX.out.cell (p:=⟨w.heap.size,2,none⟩) (by have:=blk_lt HQ.out.p;have:=HB0.out;show w.heap.size < B0;omega)).trans hS0
    have hq9:=(HX.out.block _ (by have:=blk_lt HQ.out.q;have:=HB0.out;omega)).trans HQ.out.q
    have m0:y9.cell? ⟨qb,2,none⟩=some pz:=by rw [World.cell?,hq9];rfl
    have m1:y9.frozen? ⟨qb,2,none⟩=false:=fzb hq9 2
    clear hq9
    refine hK.out _ _ hS_y9 (fun hS=>?_)
    refine rd1 14 rfl fun K hK=>?_
    go_simp
    refine hK.out _ _ hS_y9 (fun hS=>?_)
    refine rd1 15 rfl fun K hK=>?_
    go_simp
    refine hK.out _ _ hS_y9 (fun hS=>?_)
    refine rd1 16 rfl fun K hK=>?_
    go_simp
    have hX9:=HX.out
    have hO9:=HO2.out
    rw [HB0.out] at hX9 hO9
    have hLq:=HQ.out.put hX9 hO9 2 (.slice (some ⟨g,0,none⟩) p.qs.length cp)
    have hS_z:(y9.setCell ⟨qb,2,none⟩ (.slice (some ⟨g,0,none⟩) p.qs.length cp)).cell? ⟨w.heap.size,2,none⟩=some (.slice qo p.qs.length qc):=hLq.cellp 2 _ rfl
    have HLq:=hdn <| hLq
    clear hLq hX9 hO9
    refine hK.out _ _ hS_z (fun hS=>?_)
    refine wpAnyH_done (by kernel_rfl) ?_ _
    go_wp2_with fail
    go_meet
    case rel=>exact ⟨rfl,g,cp,hcap,HLq.out⟩
  case rest=>
   obtain ⟨rfl,gq,cq,hcq,hLq⟩:=hcut
   have HQ:=hdn <| hLq
   clear hLq
   go_wp2_with fail
   go_cut [3] (fun s3 wx=>s3=.pointer (some ⟨qb,0,none⟩)/\∃ gv cv,p.vs.length+1<=cv/\Lq w wx #[.string p.name,.slice ao p.rows.length ac,.slice qo p.qs.length qc,.slice vo p.vs.length vc,.slice tto p.ts.length tc,.slice uo p.us.length uc,.slice oo p.on.length oc,.int .i64 p.miss] qb #[.string p.name,.slice (some ⟨g,0,none⟩) p.rows.length (p.rows.length+9),.slice (some ⟨gq,0,none⟩) p.qs.length cq,.slice (some ⟨gv,0,none⟩) p.vs.length cv,pz,pz,pz,.int .i64 p.miss] [⟨1,47,5,.slice (some ⟨g,0,none⟩) (p.rows.length+9) (p.rows.length+9),p.rows.length+9,(fillL p.rows 9).flatMap rz5⟩,⟨2,67,2,.slice (some ⟨gq,0,none⟩) (p.qs.length+1) cq,p.qs.length+1,qF p.qs++[.string ⟨#[108,101,110,116]⟩,.bool false]⟩,⟨3,9,1,.slice (some ⟨gv,0,none⟩) (p.vs.length+1) cv,p.vs.length+1,p.vs.map Value.string++[.string ⟨#[108,101,110,116]⟩]⟩])
   case first=>
    have hS0:wc.drew.cell? ⟨w.heap.size,3,none⟩=some (.slice vo p.vs.length vc):=HQ.out.cellp 3 _ rfl
    have HV:Hid (IsVals wc.drew vo (p.vs.map Value.string)):=Hv.out.1.below (HQ.out.b.trans ((Below.refl _ wc).drew.mono HQ.out.b.size))
    refine wp_region_held (S:=fun w':World=>w'.cell? ⟨w.heap.size,3,none⟩=some (.slice vo p.vs.length vc)) (by kernel_rfl) ?_
    have hS:(fun w':World=>w'.cell? ⟨w.heap.size,3,none⟩=some (.slice vo p.vs.length vc)) wc.drew:=hS0
    change wpAnyH _ _ _ _ _ _ _ _ wc.drew
    refine tk (i:=0) (v:=?vv0) rfl (Or.inl ⟨by rfl,?vy0⟩) hS ?vr0
    case vy0=>intro w hSw;(try dsimp only at hSw);first | (go_simp;done) | (go_simp;with_reducible rfl)
    refine tk (i:=1) (v:=?vv1) rfl (Or.inl ⟨by rfl,?vy1⟩) hS ?vr1
    case vy1=>intro w hSw;(try dsimp only at hSw);first | (go_simp;done) | (go_simp;with_reducible rfl)
    refine tk (i:=2) (v:=?vv2) rfl (Or.inl ⟨by rfl,?vy2⟩) hS ?vr2
    case vy2=>intro w hSw;(try dsimp only at hSw);first | (go_simp;done) | (go_simp;with_reducible rfl)
    refine tk (i:=3) (v:=?vv3) rfl (Or.inl ⟨by rfl,?vy3⟩) hS ?vr3
    case vy3=>intro w hSw;(try dsimp only at hSw);first | (go_simp;done) | (go_simp;with_reducible rfl)
    refine tk (i:=5) (v:=?vv4) rfl (Or.inl ⟨by rfl,?vy4⟩) hS ?vr4
    case vy4=>intro w hSw;(try dsimp only at hSw);first | (go_simp;done) | (go_simp;with_reducible rfl)
    refine tk (i:=6) (v:=?vv5) rfl (Or.inl ⟨by rfl,?vy5⟩) hS ?vr5
    case vy5=>intro w hSw;(try dsimp only at hSw);first | (go_simp;done) | (go_simp;with_reducible rfl)
    refine tk (i:=10) (v:=?vv6) rfl (Or.inl ⟨by rfl,?vy6⟩) hS ?vr6
    case vy6=>intro w hSw;(try dsimp only at hSw);first | (go_simp;done) | (go_simp;with_reducible rfl)
    refine tk (i:=11) (v:=?vv7) rfl (Or.inl ⟨by rfl,?vy7⟩) hS ?vr7
    case vy7=>intro w hSw;(try dsimp only at hSw);first | (go_simp;done) | (go_simp;with_reducible rfl)
    refine tk (i:=12) (v:=?vv8) rfl (Or.inl ⟨by rfl,?vy8⟩) hS ?vr8
    case vy8=>intro w hSw;(try dsimp only at hSw);first | (go_simp;done) | (go_simp;with_reducible rfl)
    have hwp:IntKind.i64.wrap ((p.vs.length:Int)+3)=(p.vs.length:Int)+3:=by rw [IntKind.wrap_i64];omega
    simp only [hwp]
    have HQ:=hdn <| HQ.out.below (Below.refl _ wc).drew
    clear hwp
    generalize wc.drew=x0 at *
    obtain ⟨B0,hB0⟩:∃ B0,B0=x0.heap.size:=⟨_,rfl⟩
    have HB0:Hid (B0=x0.heap.size):=hB0
    clear hB0
    refine rd2 4 8 (by kernel_rfl) rfl rfl (fun K hK=>?_) (fun K hK=>?_)
    ·have HX:Hid (Below B0 x0 x0):=Below.refl _ _
     go_simp
     have hbm:Below x0.heap.size x0 (x0.alloc (.cells Mv 9)):=bAl x0 _
     have HO:Hid ((x0.alloc (.cells Mv 9)).ownsRow B0 9 1 (.slice (some ⟨x0.heap.size,0,none⟩) 0 (p.vs.length+3)) 0 []):=own_made Hv.out.2.2.2 (by have:=HX.out.size;have:=HB0.out;omega) Hv.out.2.1
     have HX:=hdn <| HX.out.trans (hbm.mono (by have:=HX.out.size;have:=HB0.out;omega))
     clear hbm
     generalize x0.alloc (.cells Mv 9)=y1 at *
     generalize x0.heap.size=g0 at HO ⊢
     have hS_y1:y1.cell? ⟨w.heap.size,3,none⟩=some (.slice vo p.vs.length vc):=(HX.out.cell (p:=⟨w.heap.size,3,none⟩) (by have:=blk_lt HQ.out.p;have:=HB0.out;show w.heap.size < B0;omega)).trans hS0
     refine hK.out _ _ hS_y1 (fun hS=>?_)
     refine rd2 7 8 (by kernel_rfl) rfl rfl (fun K hK=>?_) (fun K hK=>?_)
     ·refine step_app _ rfl (.tmp 32) (.tmp 34) 26 rfl B0 9 iv' (.string ByteArray.empty) 1 16 Tryz.underlying26 hiv hzv0 hzv1 hzv2 rfl (by decide) (.slice (some ⟨g0,0,none⟩) 0 (p.vs.length+3)) 0 [] (by simp [Act.eval]) HO.out vo p.vs.length vc (p.vs.map Value.string) (by simp [Act.eval]) Hv.out.2.2.1.1 Hv.out.2.2.1.2 (vals_src (HV.out.below (by have:=HX.out;rw [HB0.out] at this;exact this))) (str_one _) (by have:=Hv.out.2.1;unfold maxLen;omega) (by have:=Hv.out.2.1;omega) (by have:=HX.out.size;have:=HB0.out;omega) ?_
      intro v1 y2 ho1 hg1 hw1
      try rw [Nat.zero_add] at ho1
      have HX2:Hid (Below B0 x0 y2):=HX.out.grown hg1 (by have:=HX.out.size;have:=HB0.out;omega) (fun q e=>(World.ownsRow.lt HO.out q e).1)
      have HO:Hid (y2.ownsRow B0 9 1 v1 p.vs.length (p.vs.map Value.string)):=ho1
      have HX:=HX2
      clear ho1 hg1 hw1 HX2
      have hS_y2:y2.cell? ⟨w.heap.size,3,none⟩=some (.slice vo p.vs.length vc):=(HX.out.cell (p:=⟨w.heap.size,3,none⟩) (by have:=blk_lt HQ.out.p;have:=HB0.out;show w.heap.size < B0;omega)).trans hS0
      refine hK.out _ _ hS_y2 (fun hS=>?_)
      refine rd1 8 rfl fun K hK=>?_
      go_simp
      have hbm:Below y2.heap.size y2 (y2.alloc (.cells #[.string ⟨#[108,101,110,116]⟩] 9)):=bAl y2 _
      have hnew:=heap_alloc_new y2 (.cells #[.string ⟨#[108,101,110,116]⟩] 9)
      have HMk:Hid ((y2.alloc (.cells #[.string ⟨#[108,101,110,116]⟩] 9)).heap[y2.heap.size]?=some (.cells #[.string ⟨#[108,101,110,116]⟩] 9 (0,0))):=hnew
      have HO:=hdn <| own_below HO.out hbm
      have HX:=hdn <| HX.out.trans (hbm.mono (by have:=HX.out.size;have:=HB0.out;omega))
      clear hbm hnew
      generalize y2.alloc (.cells #[.string ⟨#[108,101,110,116]⟩] 9)=y3 at *
      generalize y2.heap.size=bm at HMk ⊢
      have hS_y3:y3.cell? ⟨w.heap.size,3,none⟩=some (.slice vo p.vs.length vc):=(HX.out.cell (p:=⟨w.heap.size,3,none⟩) (by have:=blk_lt HQ.out.p;have:=HB0.out;show w.heap.size < B0;omega)).trans hS0
      refine hK.out _ _ hS_y3 (fun hS=>?_)
      refine rd1 9 rfl fun K hK=>?_
      refine step_app _ rfl (.tmp 35) (.tmp 36) 26 rfl B0 9 iv' (.string ByteArray.empty) 1 16 Tryz.underlying26 hiv hzv0 hzv1 hzv2 rfl (by decide) v1 p.vs.length (p.vs.map Value.string) (by simp [Act.eval]) HO.out (some ⟨bm,0,none⟩) 1 1 [.string ⟨#[108,101,110,116]⟩] (by simp [Act.eval]) rfl (fun e=>by cases e) (fun ad e j u hu=>by cases e;exact Lib.cells_of_row HMk.out 1 j u (by simpa using hu)) (by intro u hu;simp only [List.mem_cons,List.not_mem_nil,or_false] at hu;subst hu;rfl) (by have:=Hv.out.2.1;unfold maxLen;omega) (by have:=Hv.out.2.1;omega) (by have:=HX.out.size;have:=HB0.out;omega) ?_
      intro v2 y9 ho2 hg2 hw2
      have HX2:Hid (Below B0 x0 y9):=HX.out.grown hg2 (by have:=HX.out.size;have:=HB0.out;omega) (fun q e=>(World.ownsRow.lt HO.out q e).1)
      obtain ⟨g,cp,rfl,hcap,hcm⟩:=own_some ho2 (Nat.succ_pos _)
      have HO2:Hid (y9.ownsRow B0 9 1 (.slice (some ⟨g,0,none⟩) (p.vs.length+1) cp) (p.vs.length+1) (p.vs.map Value.string++[.string ⟨#[108,101,110,116]⟩])):=ho2
      have HX:=HX2
      have hc1:(p.vs.length:Int)<=(cp:Int):=by omega
      have hc3:p.vs.length<=cp:=by omega
      have hc4:(cp:Int)<=9223372036854775807:=by unfold maxLen at hcm;omega
      clear ho2 hg2 hw2 HX2 hcm
      have hS_y9:y9.cell? ⟨w.heap.size,3,none⟩=some (.slice vo p.vs.length vc):=(HX.out.cell (p:=⟨w.heap.size,3,none⟩) (by have:=blk_lt HQ.out.p;have:=HB0.out;show w.heap.size < B0;omega)).trans hS0
      have hq9:=(HX.out.block _ (by have:=blk_lt HQ.out.q;have:=HB0.out;omega)).trans HQ.out.q
      have m0:y9.cell? ⟨qb,3,none⟩=some pz:=by rw [World.cell?,hq9];rfl
      have m1:y9.frozen? ⟨qb,3,none⟩=false:=fzb hq9 3
      clear hq9
      refine hK.out _ _ hS_y9 (fun hS=>?_)
      refine rd1 13 rfl fun K hK=>?_
      go_simp
      refine hK.out _ _ hS_y9 (fun hS=>?_)
      refine rd1 14 rfl fun K hK=>?_
      go_simp
      refine hK.out _ _ hS_y9 (fun hS=>?_)
      refine rd1 15 rfl fun K hK=>?_
      go_simp
      have hX9:=HX.out
      have hO9:=HO2.out
      rw [HB0.out] at hX9 hO9
      have hLq:=HQ.out.put hX9 hO9 3 (.slice (some ⟨g,0,none⟩) p.vs.length cp)
      have hS_z:(y9.setCell ⟨qb,3,none⟩ (.slice (some ⟨g,0,none⟩) p.vs.length cp)).cell? ⟨w.heap.size,3,none⟩=some (.slice vo p.vs.length vc):=hLq.cellp 3 _ rfl
      have HLq:=hdn <| hLq
      clear hLq hX9 hO9
      refine hK.out _ _ hS_z (fun hS=>?_)
      refine wpAnyH_done (by kernel_rfl) ?_ _
      go_wp2_with fail
      go_meet
      case rel=>exact ⟨rfl,g,cp,hcap,HLq.out⟩
     ·go_simp
      have hbm:Below y1.heap.size y1 (y1.alloc (.cells #[.string ⟨#[108,101,110,116]⟩] 9)):=bAl y1 _
      have hnew:=heap_alloc_new y1 (.cells #[.string ⟨#[108,101,110,116]⟩] 9)
      have HMk:Hid ((y1.alloc (.cells #[.string ⟨#[108,101,110,116]⟩] 9)).heap[y1.heap.size]?=some (.cells #[.string ⟨#[108,101,110,116]⟩] 9 (0,0))/\y1.heap.size ≠ g0):=⟨hnew,by have:=(World.ownsRow.lt HO.out g0 rfl).2;omega⟩
      have HO:=hdn <| own_below HO.out hbm
      have HX:=hdn <| HX.out.trans (hbm.mono (by have:=HX.out.size;have:=HB0.out;omega))
      clear hbm hnew
      generalize y1.alloc (.cells #[.string ⟨#[108,101,110,116]⟩] 9)=y2 at *
      generalize y1.heap.size=bm at HMk ⊢
      have hS_y2:y2.cell? ⟨w.heap.size,3,none⟩=some (.slice vo p.vs.length vc):=(HX.out.cell (p:=⟨w.heap.size,3,none⟩) (by have:=blk_lt HQ.out.p;have:=HB0.out;show w.heap.size < B0;omega)).trans hS0
      refine hK.out _ _ hS_y2 (fun hS=>?_)
      refine rd1 7 rfl fun K hK=>?_
      refine step_app _ rfl (.tmp 32) (.tmp 34) 26 rfl B0 9 iv' (.string ByteArray.empty) 1 16 Tryz.underlying26 hiv hzv0 hzv1 hzv2 rfl (by decide) (.slice (some ⟨g0,0,none⟩) 0 (p.vs.length+3)) 0 [] (by simp [Act.eval]) HO.out vo p.vs.length vc (p.vs.map Value.string) (by simp [Act.eval]) Hv.out.2.2.1.1 Hv.out.2.2.1.2 (vals_src (HV.out.below (by have:=HX.out;rw [HB0.out] at this;exact this))) (str_one _) (by have:=Hv.out.2.1;unfold maxLen;omega) (by have:=Hv.out.2.1;omega) (by have:=HX.out.size;have:=HB0.out;omega) ?_
      intro v1 y3 ho1 hg1 hw1
      try rw [Nat.zero_add] at ho1
      have HX2:Hid (Below B0 x0 y3):=HX.out.grown hg1 (by have:=HX.out.size;have:=HB0.out;omega) (fun q e=>(World.ownsRow.lt HO.out q e).1)
      have HMk:Hid (y3.heap[bm]?=some (.cells #[.string ⟨#[108,101,110,116]⟩] 9 (0,0))):=(hg1.block bm (blk_lt HMk.out.1) (fun e=>HMk.out.2 (by cases e;rfl))).trans HMk.out.1
      have HO:Hid (y3.ownsRow B0 9 1 v1 p.vs.length (p.vs.map Value.string)):=ho1
      have HX:=HX2
      clear ho1 hg1 hw1 HX2
      have hS_y3:y3.cell? ⟨w.heap.size,3,none⟩=some (.slice vo p.vs.length vc):=(HX.out.cell (p:=⟨w.heap.size,3,none⟩) (by have:=blk_lt HQ.out.p;have:=HB0.out;show w.heap.size < B0;omega)).trans hS0
      refine hK.out _ _ hS_y3 (fun hS=>?_)
      refine rd1 9 rfl fun K hK=>?_
      refine step_app _ rfl (.tmp 35) (.tmp 36) 26 rfl B0 9 iv' (.string ByteArray.empty) 1 16 Tryz.underlying26 hiv hzv0 hzv1 hzv2 rfl (by decide) v1 p.vs.length (p.vs.map Value.string) (by simp [Act.eval,Act.put]) HO.out (some ⟨bm,0,none⟩) 1 1 [.string ⟨#[108,101,110,116]⟩] (by simp [Act.eval,Act.put]) rfl (fun e=>by cases e) (fun ad e j u hu=>by cases e;exact Lib.cells_of_row HMk.out 1 j u (by simpa using hu)) (by intro u hu;simp only [List.mem_cons,List.not_mem_nil,or_false] at hu;subst hu;rfl) (by have:=Hv.out.2.1;unfold maxLen;omega) (by have:=Hv.out.2.1;omega) (by have:=HX.out.size;have:=HB0.out;omega) ?_
      intro v2 y9 ho2 hg2 hw2
      have HX2:Hid (Below B0 x0 y9):=HX.out.grown hg2 (by have:=HX.out.size;have:=HB0.out;omega) (fun q e=>(World.ownsRow.lt HO.out q e).1)
      obtain ⟨g,cp,rfl,hcap,hcm⟩:=own_some ho2 (Nat.succ_pos _)
      have HO2:Hid (y9.ownsRow B0 9 1 (.slice (some ⟨g,0,none⟩) (p.vs.length+1) cp) (p.vs.length+1) (p.vs.map Value.string++[.string ⟨#[108,101,110,116]⟩])):=ho2
      have HX:=HX2
      have hc1:(p.vs.length:Int)<=(cp:Int):=by omega
      have hc3:p.vs.length<=cp:=by omega
      have hc4:(cp:Int)<=9223372036854775807:=by unfold maxLen at hcm;omega
      clear ho2 hg2 hw2 HX2 hcm
      have hS_y9:y9.cell? ⟨w.heap.size,3,none⟩=some (.slice vo p.vs.length vc):=(HX.out.cell (p:=⟨w.heap.size,3,none⟩) (by have:=blk_lt HQ.out.p;have:=HB0.out;show w.heap.size < B0;omega)).trans hS0
      have hq9:=(HX.out.block _ (by have:=blk_lt HQ.out.q;have:=HB0.out;omega)).trans HQ.out.q
      have m0:y9.cell? ⟨qb,3,none⟩=some pz:=by rw [World.cell?,hq9];rfl
      have m1:y9.frozen? ⟨qb,3,none⟩=false:=fzb hq9 3
      clear hq9
      refine hK.out _ _ hS_y9 (fun hS=>?_)
      refine rd1 13 rfl fun K hK=>?_
      go_simp
      refine hK.out _ _ hS_y9 (fun hS=>?_)
      refine rd1 14 rfl fun K hK=>?_
      go_simp
      refine hK.out _ _ hS_y9 (fun hS=>?_)
      refine rd1 15 rfl fun K hK=>?_
      go_simp
      have hX9:=HX.out
      have hO9:=HO2.out
      rw [HB0.out] at hX9 hO9
      have hLq:=HQ.out.put hX9 hO9 3 (.slice (some ⟨g,0,none⟩) p.vs.length cp)
      have hS_z:(y9.setCell ⟨qb,3,none⟩ (.slice (some ⟨g,0,none⟩) p.vs.length cp)).cell? ⟨w.heap.size,3,none⟩=some (.slice vo p.vs.length vc):=hLq.cellp 3 _ rfl
      have HLq:=hdn <| hLq
      clear hLq hX9 hO9
      refine hK.out _ _ hS_z (fun hS=>?_)
      refine wpAnyH_done (by kernel_rfl) ?_ _
      go_wp2_with fail
      go_meet
      case rel=>exact ⟨rfl,g,cp,hcap,HLq.out⟩
    ·have HX:Hid (Below B0 x0 x0):=Below.refl _ _
     go_simp
     have hbm:Below x0.heap.size x0 (x0.alloc (.cells #[.string ⟨#[108,101,110,116]⟩] 9)):=bAl x0 _
     have hnew:=heap_alloc_new x0 (.cells #[.string ⟨#[108,101,110,116]⟩] 9)
     have HMk:Hid ((x0.alloc (.cells #[.string ⟨#[108,101,110,116]⟩] 9)).heap[x0.heap.size]?=some (.cells #[.string ⟨#[108,101,110,116]⟩] 9 (0,0))):=hnew
     have HX:=hdn <| HX.out.trans (hbm.mono (by have:=HX.out.size;have:=HB0.out;omega))
     clear hbm hnew
     generalize x0.alloc (.cells #[.string ⟨#[108,101,110,116]⟩] 9)=y1 at *
     generalize x0.heap.size=bm at HMk ⊢
     have hS_y1:y1.cell? ⟨w.heap.size,3,none⟩=some (.slice vo p.vs.length vc):=(HX.out.cell (p:=⟨w.heap.size,3,none⟩) (by have:=blk_lt HQ.out.p;have:=HB0.out;show w.heap.size < B0;omega)).trans hS0
     refine hK.out _ _ hS_y1 (fun hS=>?_)
     refine rd1 4 rfl fun K hK=>?_
     go_simp
     have hbm:Below y1.heap.size y1 (y1.alloc (.cells Mv 9)):=bAl y1 _
     have HO:Hid ((y1.alloc (.cells Mv 9)).ownsRow B0 9 1 (.slice (some ⟨y1.heap.size,0,none⟩) 0 (p.vs.length+3)) 0 []):=own_made Hv.out.2.2.2 (by have:=HX.out.size;have:=HB0.out;omega) Hv.out.2.1
     have HX:=hdn <| HX.out.trans (hbm.mono (by have:=HX.out.size;have:=HB0.out;omega))
     have HMk:Hid ((y1.alloc (.cells Mv 9)).heap[bm]?=some (.cells #[.string ⟨#[108,101,110,116]⟩] 9 (0,0))/\bm ≠ y1.heap.size):=⟨(hbm.block _ (blk_lt HMk.out)).trans HMk.out,by have:=blk_lt HMk.out;omega⟩
     clear hbm
     generalize y1.alloc (.cells Mv 9)=y2 at *
     generalize y1.heap.size=g0 at HO HMk ⊢
     have hS_y2:y2.cell? ⟨w.heap.size,3,none⟩=some (.slice vo p.vs.length vc):=(HX.out.cell (p:=⟨w.heap.size,3,none⟩) (by have:=blk_lt HQ.out.p;have:=HB0.out;show w.heap.size < B0;omega)).trans hS0
     refine hK.out _ _ hS_y2 (fun hS=>?_)
     refine rd1 7 rfl fun K hK=>?_
     refine step_app _ rfl (.tmp 32) (.tmp 34) 26 rfl B0 9 iv' (.string ByteArray.empty) 1 16 Tryz.underlying26 hiv hzv0 hzv1 hzv2 rfl (by decide) (.slice (some ⟨g0,0,none⟩) 0 (p.vs.length+3)) 0 [] (by simp [Act.eval]) HO.out vo p.vs.length vc (p.vs.map Value.string) (by simp [Act.eval]) Hv.out.2.2.1.1 Hv.out.2.2.1.2 (vals_src (HV.out.below (by have:=HX.out;rw [HB0.out] at this;exact this))) (str_one _) (by have:=Hv.out.2.1;unfold maxLen;omega) (by have:=Hv.out.2.1;omega) (by have:=HX.out.size;have:=HB0.out;omega) ?_
     intro v1 y3 ho1 hg1 hw1
     try rw [Nat.zero_add] at ho1
     have HX2:Hid (Below B0 x0 y3):=HX.out.grown hg1 (by have:=HX.out.size;have:=HB0.out;omega) (fun q e=>(World.ownsRow.lt HO.out q e).1)
     have HMk:Hid (y3.heap[bm]?=some (.cells #[.string ⟨#[108,101,110,116]⟩] 9 (0,0))):=(hg1.block bm (blk_lt HMk.out.1) (fun e=>HMk.out.2 (by cases e;rfl))).trans HMk.out.1
     have HO:Hid (y3.ownsRow B0 9 1 v1 p.vs.length (p.vs.map Value.string)):=ho1
     have HX:=HX2
     clear ho1 hg1 hw1 HX2
     have hS_y3:y3.cell? ⟨w.heap.size,3,none⟩=some (.slice vo p.vs.length vc):=(HX.out.cell (p:=⟨w.heap.size,3,none⟩) (by have:=blk_lt HQ.out.p;have:=HB0.out;show w.heap.size < B0;omega)).trans hS0
     refine hK.out _ _ hS_y3 (fun hS=>?_)
     refine rd1 9 rfl fun K hK=>?_
     refine step_app _ rfl (.tmp 35) (.tmp 36) 26 rfl B0 9 iv' (.string ByteArray.empty) 1 16 Tryz.underlying26 hiv hzv0 hzv1 hzv2 rfl (by decide) v1 p.vs.length (p.vs.map Value.string) (by simp [Act.eval,Act.put]) HO.out (some ⟨bm,0,none⟩) 1 1 [.string ⟨#[108,101,110,116]⟩] (by simp [Act.eval,Act.put]) rfl (fun e=>by cases e) (fun ad e j u hu=>by cases e;exact Lib.cells_of_row HMk.out 1 j u (by simpa using hu)) (by intro u hu;simp only [List.mem_cons,List.not_mem_nil,or_false] at hu;subst hu;rfl) (by have:=Hv.out.2.1;unfold maxLen;omega) (by have:=Hv.out.2.1;omega) (by have:=HX.out.size;have:=HB0.out;omega) ?_
     intro v2 y9 ho2 hg2 hw2
     have HX2:Hid (Below B0 x0 y9):=HX.out.grown hg2 (by have:=HX.out.size;have:=HB0.out;omega) (fun q e=>(World.ownsRow.lt HO.out q e).1)
     obtain ⟨g,cp,rfl,hcap,hcm⟩:=own_some ho2 (Nat.succ_pos _)
     have HO2:Hid (y9.ownsRow B0 9 1 (.slice (some ⟨g,0,none⟩) (p.vs.length+1) cp) (p.vs.length+1) (p.vs.map Value.string++[.string ⟨#[108,101,110,116]⟩])):=ho2
     have HX:=HX2
     have hc1:(p.vs.length:Int)<=(cp:Int):=by omega
     have hc3:p.vs.length<=cp:=by omega
     have hc4:(cp:Int)<=9223372036854775807:=by unfold maxLen at hcm;omega
     clear ho2 hg2 hw2 HX2 hcm
     have hS_y9:y9.cell? ⟨w.heap.size,3,none⟩=some (.slice vo p.vs.length vc):=(HX.out.cell (p:=⟨w.heap.size,3,none⟩) (by have:=blk_lt HQ.out.p;have:=HB0.out;show w.heap.size < B0;omega)).trans hS0
     have hq9:=(HX.out.block _ (by have:=blk_lt HQ.out.q;have:=HB0.out;omega)).trans HQ.out.q
     have m0:y9.cell? ⟨qb,3,none⟩=some pz:=by rw [World.cell?,hq9];rfl
     have m1:y9.frozen? ⟨qb,3,none⟩=false:=fzb hq9 3
     clear hq9
     refine hK.out _ _ hS_y9 (fun hS=>?_)
     refine rd1 13 rfl fun K hK=>?_
     go_simp
     refine hK.out _ _ hS_y9 (fun hS=>?_)
     refine rd1 14 rfl fun K hK=>?_
     go_simp
     refine hK.out _ _ hS_y9 (fun hS=>?_)
     refine rd1 15 rfl fun K hK=>?_
     go_simp
     have hX9:=HX.out
     have hO9:=HO2.out
     rw [HB0.out] at hX9 hO9
     have hLq:=HQ.out.put hX9 hO9 3 (.slice (some ⟨g,0,none⟩) p.vs.length cp)
     have hS_z:(y9.setCell ⟨qb,3,none⟩ (.slice (some ⟨g,0,none⟩) p.vs.length cp)).cell? ⟨w.heap.size,3,none⟩=some (.slice vo p.vs.length vc):=hLq.cellp 3 _ rfl
     have HLq:=hdn <| hLq
     clear hLq hX9 hO9
     refine hK.out _ _ hS_z (fun hS=>?_)
     refine wpAnyH_done (by kernel_rfl) ?_ _
     go_wp2_with fail
     go_meet
     case rel=>exact ⟨rfl,g,cp,hcap,HLq.out⟩
   case rest=>
    obtain ⟨rfl,gv,cv,hcv,hLq⟩:=hcut
    have HQ:=hdn <| hLq
    clear hLq
    go_wp2_with fail
    go_cut [3] (fun s3 wx=>s3=.pointer (some ⟨qb,0,none⟩)/\∃ gt ct,p.ts.length+1<=ct/\Lq w wx #[.string p.name,.slice ao p.rows.length ac,.slice qo p.qs.length qc,.slice vo p.vs.length vc,.slice tto p.ts.length tc,.slice uo p.us.length uc,.slice oo p.on.length oc,.int .i64 p.miss] qb #[.string p.name,.slice (some ⟨g,0,none⟩) p.rows.length (p.rows.length+9),.slice (some ⟨gq,0,none⟩) p.qs.length cq,.slice (some ⟨gv,0,none⟩) p.vs.length cv,.slice (some ⟨gt,0,none⟩) p.ts.length ct,pz,pz,.int .i64 p.miss] [⟨1,47,5,.slice (some ⟨g,0,none⟩) (p.rows.length+9) (p.rows.length+9),p.rows.length+9,(fillL p.rows 9).flatMap rz5⟩,⟨2,67,2,.slice (some ⟨gq,0,none⟩) (p.qs.length+1) cq,p.qs.length+1,qF p.qs++[.string ⟨#[108,101,110,116]⟩,.bool false]⟩,⟨3,9,1,.slice (some ⟨gv,0,none⟩) (p.vs.length+1) cv,p.vs.length+1,p.vs.map Value.string++[.string ⟨#[108,101,110,116]⟩]⟩,⟨4,9,1,.slice (some ⟨gt,0,none⟩) (p.ts.length+1) ct,p.ts.length+1,p.ts.map Value.string++[.string ⟨#[108,101,110,116]⟩]⟩])
    case first=>
     have hS0:wc.drew.cell? ⟨w.heap.size,4,none⟩=some (.slice tto p.ts.length tc):=HQ.out.cellp 4 _ rfl
     have HV:Hid (IsVals wc.drew tto (p.ts.map Value.string)):=Ht.out.1.below (HQ.out.b.trans ((Below.refl _ wc).drew.mono HQ.out.b.size))
     refine wp_region_held (S:=fun w':World=>w'.cell? ⟨w.heap.size,4,none⟩=some (.slice tto p.ts.length tc)) (by kernel_rfl) ?_
     have hS:(fun w':World=>w'.cell? ⟨w.heap.size,4,none⟩=some (.slice tto p.ts.length tc)) wc.drew:=hS0
     change wpAnyH _ _ _ _ _ _ _ _ wc.drew
     refine tk (i:=0) (v:=?tv0) rfl (Or.inl ⟨by rfl,?ty0⟩) hS ?tr0
     case ty0=>intro w hSw;(try dsimp only at hSw);first | (go_simp;done) | (go_simp;with_reducible rfl)
     refine tk (i:=1) (v:=?tv1) rfl (Or.inl ⟨by rfl,?ty1⟩) hS ?tr1
     case ty1=>intro w hSw;(try dsimp only at hSw);first | (go_simp;done) | (go_simp;with_reducible rfl)
     refine tk (i:=2) (v:=?tv2) rfl (Or.inl ⟨by rfl,?ty2⟩) hS ?tr2
     case ty2=>intro w hSw;(try dsimp only at hSw);first | (go_simp;done) | (go_simp;with_reducible rfl)
     refine tk (i:=3) (v:=?tv3) rfl (Or.inl ⟨by rfl,?ty3⟩) hS ?tr3
     case ty3=>intro w hSw;(try dsimp only at hSw);first | (go_simp;done) | (go_simp;with_reducible rfl)
     refine tk (i:=5) (v:=?tv4) rfl (Or.inl ⟨by rfl,?ty4⟩) hS ?tr4
     case ty4=>intro w hSw;(try dsimp only at hSw);first | (go_simp;done) | (go_simp;with_reducible rfl)
     refine tk (i:=6) (v:=?tv5) rfl (Or.inl ⟨by rfl,?ty5⟩) hS ?tr5
     case ty5=>intro w hSw;(try dsimp only at hSw);first | (go_simp;done) | (go_simp;with_reducible rfl)
     refine tk (i:=10) (v:=?tv6) rfl (Or.inl ⟨by rfl,?ty6⟩) hS ?tr6
     case ty6=>intro w hSw;(try dsimp only at hSw);first | (go_simp;done) | (go_simp;with_reducible rfl)
     refine tk (i:=11) (v:=?tv7) rfl (Or.inl ⟨by rfl,?ty7⟩) hS ?tr7
     case ty7=>intro w hSw;(try dsimp only at hSw);first | (go_simp;done) | (go_simp;with_reducible rfl)
     refine tk (i:=12) (v:=?tv8) rfl (Or.inl ⟨by rfl,?ty8⟩) hS ?tr8
     case ty8=>intro w hSw;(try dsimp only at hSw);first | (go_simp;done) | (go_simp;with_reducible rfl)
     have hwp:IntKind.i64.wrap ((p.ts.length:Int)+3)=(p.ts.length:Int)+3:=by rw [IntKind.wrap_i64];omega
     simp only [hwp]
     have HQ:=hdn <| HQ.out.below (Below.refl _ wc).drew
     clear hwp
     generalize wc.drew=x0 at *
     obtain ⟨B0,hB0⟩:∃ B0,B0=x0.heap.size:=⟨_,rfl⟩
     have HB0:Hid (B0=x0.heap.size):=hB0
     clear hB0
     refine rd2 4 8 (by kernel_rfl) rfl rfl (fun K hK=>?_) (fun K hK=>?_)
     ·have HX:Hid (Below B0 x0 x0):=Below.refl _ _
      go_simp
      have hbm:Below x0.heap.size x0 (x0.alloc (.cells Mt 9)):=bAl x0 _
      have HO:Hid ((x0.alloc (.cells Mt 9)).ownsRow B0 9 1 (.slice (some ⟨x0.heap.size,0,none⟩) 0 (p.ts.length+3)) 0 []):=own_made Ht.out.2.2.2 (by have:=HX.out.size;have:=HB0.out;omega) Ht.out.2.1
      have HX:=hdn <| HX.out.trans (hbm.mono (by have:=HX.out.size;have:=HB0.out;omega))
      clear hbm
      generalize x0.alloc (.cells Mt 9)=y1 at *
      generalize x0.heap.size=g0 at HO ⊢
      have hS_y1:y1.cell? ⟨w.heap.size,4,none⟩=some (.slice tto p.ts.length tc):=(HX.out.cell (p:=⟨w.heap.size,4,none⟩) (by have:=blk_lt HQ.out.p;have:=HB0.out;show w.heap.size < B0;omega)).trans hS0
      refine hK.out _ _ hS_y1 (fun hS=>?_)
      refine rd2 7 8 (by kernel_rfl) rfl rfl (fun K hK=>?_) (fun K hK=>?_)
      ·refine step_app _ rfl (.tmp 47) (.tmp 49) 26 rfl B0 9 it (.string ByteArray.empty) 1 16 Tryz.underlying26 hit hzt0 hzt1 hzt2 rfl (by decide) (.slice (some ⟨g0,0,none⟩) 0 (p.ts.length+3)) 0 [] (by simp [Act.eval]) HO.out tto p.ts.length tc (p.ts.map Value.string) (by simp [Act.eval]) Ht.out.2.2.1.1 Ht.out.2.2.1.2 (vals_src (HV.out.below (by have:=HX.out;rw [HB0.out] at this;exact this))) (str_one _) (by have:=Ht.out.2.1;unfold maxLen;omega) (by have:=Ht.out.2.1;omega) (by have:=HX.out.size;have:=HB0.out;omega) ?_
       intro v1 y2 ho1 hg1 hw1
       try rw [Nat.zero_add] at ho1
       have HX2:Hid (Below B0 x0 y2):=HX.out.grown hg1 (by have:=HX.out.size;have:=HB0.out;omega) (fun q e=>(World.ownsRow.lt HO.out q e).1)
       have HO:Hid (y2.ownsRow B0 9 1 v1 p.ts.length (p.ts.map Value.string)):=ho1
       have HX:=HX2
       clear ho1 hg1 hw1 HX2
       have hS_y2:y2.cell? ⟨w.heap.size,4,none⟩=some (.slice tto p.ts.length tc):=(HX.out.cell (p:=⟨w.heap.size,4,none⟩) (by have:=blk_lt HQ.out.p;have:=HB0.out;show w.heap.size < B0;omega)).trans hS0
       refine hK.out _ _ hS_y2 (fun hS=>?_)
       refine rd1 8 rfl fun K hK=>?_
       go_simp
       have hbm:Below y2.heap.size y2 (y2.alloc (.cells #[.string ⟨#[108,101,110,116]⟩] 9)):=bAl y2 _
       have hnew:=heap_alloc_new y2 (.cells #[.string ⟨#[108,101,110,116]⟩] 9)
       have HMk:Hid ((y2.alloc (.cells #[.string ⟨#[108,101,110,116]⟩] 9)).heap[y2.heap.size]?=some (.cells #[.string ⟨#[108,101,110,116]⟩] 9 (0,0))):=hnew
       have HO:=hdn <| own_below HO.out hbm
       have HX:=hdn <| HX.out.trans (hbm.mono (by have:=HX.out.size;have:=HB0.out;omega))
       clear hbm hnew
       generalize y2.alloc (.cells #[.string ⟨#[108,101,110,116]⟩] 9)=y3 at *
       generalize y2.heap.size=bm at HMk ⊢
       have hS_y3:y3.cell? ⟨w.heap.size,4,none⟩=some (.slice tto p.ts.length tc):=(HX.out.cell (p:=⟨w.heap.size,4,none⟩) (by have:=blk_lt HQ.out.p;have:=HB0.out;show w.heap.size < B0;omega)).trans hS0
       refine hK.out _ _ hS_y3 (fun hS=>?_)
       refine rd1 9 rfl fun K hK=>?_
       refine step_app _ rfl (.tmp 50) (.tmp 51) 26 rfl B0 9 it (.string ByteArray.empty) 1 16 Tryz.underlying26 hit hzt0 hzt1 hzt2 rfl (by decide) v1 p.ts.length (p.ts.map Value.string) (by simp [Act.eval]) HO.out (some ⟨bm,0,none⟩) 1 1 [.string ⟨#[108,101,110,116]⟩] (by simp [Act.eval]) rfl (fun e=>by cases e) (fun ad e j u hu=>by cases e;exact Lib.cells_of_row HMk.out 1 j u (by simpa using hu)) (by intro u hu;simp only [List.mem_cons,List.not_mem_nil,or_false] at hu;subst hu;rfl) (by have:=Ht.out.2.1;unfold maxLen;omega) (by have:=Ht.out.2.1;omega) (by have:=HX.out.size;have:=HB0.out;omega) ?_
       intro v2 y9 ho2 hg2 hw2
       have HX2:Hid (Below B0 x0 y9):=HX.out.grown hg2 (by have:=HX.out.size;have:=HB0.out;omega) (fun q e=>(World.ownsRow.lt HO.out q e).1)
       obtain ⟨g,cp,rfl,hcap,hcm⟩:=own_some ho2 (Nat.succ_pos _)
       have HO2:Hid (y9.ownsRow B0 9 1 (.slice (some ⟨g,0,none⟩) (p.ts.length+1) cp) (p.ts.length+1) (p.ts.map Value.string++[.string ⟨#[108,101,110,116]⟩])):=ho2
       have HX:=HX2
       have hc1:(p.ts.length:Int)<=(cp:Int):=by omega
       have hc3:p.ts.length<=cp:=by omega
       have hc4:(cp:Int)<=9223372036854775807:=by unfold maxLen at hcm;omega
       clear ho2 hg2 hw2 HX2 hcm
       have hS_y9:y9.cell? ⟨w.heap.size,4,none⟩=some (.slice tto p.ts.length tc):=(HX.out.cell (p:=⟨w.heap.size,4,none⟩) (by have:=blk_lt HQ.out.p;have:=HB0.out;show w.heap.size < B0;omega)).trans hS0
       have hq9:=(HX.out.block _ (by have:=blk_lt HQ.out.q;have:=HB0.out;omega)).trans HQ.out.q
       have m0:y9.cell? ⟨qb,4,none⟩=some pz:=by rw [World.cell?,hq9];rfl
       have m1:y9.frozen? ⟨qb,4,none⟩=false:=fzb hq9 4
       clear hq9
       refine hK.out _ _ hS_y9 (fun hS=>?_)
       refine rd1 13 rfl fun K hK=>?_
       go_simp
       refine hK.out _ _ hS_y9 (fun hS=>?_)
       refine rd1 14 rfl fun K hK=>?_
       go_simp
       refine hK.out _ _ hS_y9 (fun hS=>?_)
       refine rd1 15 rfl fun K hK=>?_
       go_simp
       have hX9:=HX.out
       have hO9:=HO2.out
       rw [HB0.out] at hX9 hO9
       have hLq:=HQ.out.put hX9 hO9 4 (.slice (some ⟨g,0,none⟩) p.ts.length cp)
       have hS_z:(y9.setCell ⟨qb,4,none⟩ (.slice (some ⟨g,0,none⟩) p.ts.length cp)).cell? ⟨w.heap.size,4,none⟩=some (.slice tto p.ts.length tc):=hLq.cellp 4 _ rfl
       have HLq:=hdn <| hLq
       clear hLq hX9 hO9
       refine hK.out _ _ hS_z (fun hS=>?_)
       refine wpAnyH_done (by kernel_rfl) ?_ _
       go_wp2_with fail
       go_meet
       case rel=>exact ⟨rfl,g,cp,hcap,HLq.out⟩
      ·go_simp
       have hbm:Below y1.heap.size y1 (y1.alloc (.cells #[.string ⟨#[108,101,110,116]⟩] 9)):=bAl y1 _
       have hnew:=heap_alloc_new y1 (.cells #[.string ⟨#[108,101,110,116]⟩] 9)
       have HMk:Hid ((y1.alloc (.cells #[.string ⟨#[108,101,110,116]⟩] 9)).heap[y1.heap.size]?=some (.cells #[.string ⟨#[108,101,110,116]⟩] 9 (0,0))/\y1.heap.size ≠ g0):=⟨hnew,by have:=(World.ownsRow.lt HO.out g0 rfl).2;omega⟩
       have HO:=hdn <| own_below HO.out hbm
       have HX:=hdn <| HX.out.trans (hbm.mono (by have:=HX.out.size;have:=HB0.out;omega))
       clear hbm hnew
       generalize y1.alloc (.cells #[.string ⟨#[108,101,110,116]⟩] 9)=y2 at *
       generalize y1.heap.size=bm at HMk ⊢
       have hS_y2:y2.cell? ⟨w.heap.size,4,none⟩=some (.slice tto p.ts.length tc):=(HX.out.cell (p:=⟨w.heap.size,4,none⟩) (by have:=blk_lt HQ.out.p;have:=HB0.out;show w.heap.size < B0;omega)).trans hS0
       refine hK.out _ _ hS_y2 (fun hS=>?_)
       refine rd1 7 rfl fun K hK=>?_
       refine step_app _ rfl (.tmp 47) (.tmp 49) 26 rfl B0 9 it (.string ByteArray.empty) 1 16 Tryz.underlying26 hit hzt0 hzt1 hzt2 rfl (by decide) (.slice (some ⟨g0,0,none⟩) 0 (p.ts.length+3)) 0 [] (by simp [Act.eval]) HO.out tto p.ts.length tc (p.ts.map Value.string) (by simp [Act.eval]) Ht.out.2.2.1.1 Ht.out.2.2.1.2 (vals_src (HV.out.below (by have:=HX.out;rw [HB0.out] at this;exact this))) (str_one _) (by have:=Ht.out.2.1;unfold maxLen;omega) (by have:=Ht.out.2.1;omega) (by have:=HX.out.size;have:=HB0.out;omega) ?_
       intro v1 y3 ho1 hg1 hw1
       try rw [Nat.zero_add] at ho1
       have HX2:Hid (Below B0 x0 y3):=HX.out.grown hg1 (by have:=HX.out.size;have:=HB0.out;omega) (fun q e=>(World.ownsRow.lt HO.out q e).1)
       have HMk:Hid (y3.heap[bm]?=some (.cells #[.string ⟨#[108,101,110,116]⟩] 9 (0,0))):=(hg1.block bm (blk_lt HMk.out.1) (fun e=>HMk.out.2 (by cases e;rfl))).trans HMk.out.1
       have HO:Hid (y3.ownsRow B0 9 1 v1 p.ts.length (p.ts.map Value.string)):=ho1
       have HX:=HX2
       clear ho1 hg1 hw1 HX2
       have hS_y3:y3.cell? ⟨w.heap.size,4,none⟩=some (.slice tto p.ts.length tc):=(HX.out.cell (p:=⟨w.heap.size,4,none⟩) (by have:=blk_lt HQ.out.p;have:=HB0.out;show w.heap.size < B0;omega)).trans hS0
       refine hK.out _ _ hS_y3 (fun hS=>?_)
       refine rd1 9 rfl fun K hK=>?_
       refine step_app _ rfl (.tmp 50) (.tmp 51) 26 rfl B0 9 it (.string ByteArray.empty) 1 16 Tryz.underlying26 hit hzt0 hzt1 hzt2 rfl (by decide) v1 p.ts.length (p.ts.map Value.string) (by simp [Act.eval,Act.put]) HO.out (some ⟨bm,0,none⟩) 1 1 [.string ⟨#[108,101,110,116]⟩] (by simp [Act.eval,Act.put]) rfl (fun e=>by cases e) (fun ad e j u hu=>by cases e;exact Lib.cells_of_row HMk.out 1 j u (by simpa using hu)) (by intro u hu;simp only [List.mem_cons,List.not_mem_nil,or_false] at hu;subst hu;rfl) (by have:=Ht.out.2.1;unfold maxLen;omega) (by have:=Ht.out.2.1;omega) (by have:=HX.out.size;have:=HB0.out;omega) ?_
       intro v2 y9 ho2 hg2 hw2
       have HX2:Hid (Below B0 x0 y9):=HX.out.grown hg2 (by have:=HX.out.size;have:=HB0.out;omega) (fun q e=>(World.ownsRow.lt HO.out q e).1)
       obtain ⟨g,cp,rfl,hcap,hcm⟩:=own_some ho2 (Nat.succ_pos _)
       have HO2:Hid (y9.ownsRow B0 9 1 (.slice (some ⟨g,0,none⟩) (p.ts.length+1) cp) (p.ts.length+1) (p.ts.map Value.string++[.string ⟨#[108,101,110,116]⟩])):=ho2
       have HX:=HX2
       have hc1:(p.ts.length:Int)<=(cp:Int):=by omega
       have hc3:p.ts.length<=cp:=by omega
       have hc4:(cp:Int)<=9223372036854775807:=by unfold maxLen at hcm;omega
       clear ho2 hg2 hw2 HX2 hcm
       have hS_y9:y9.cell? ⟨w.heap.size,4,none⟩=some (.slice tto p.ts.length tc):=(HX.out.cell (p:=⟨w.heap.size,4,none⟩) (by have:=blk_lt HQ.out.p;have:=HB0.out;show w.heap.size < B0;omega)).trans hS0
       have hq9:=(HX.out.block _ (by have:=blk_lt HQ.out.q;have:=HB0.out;omega)).trans HQ.out.q
       have m0:y9.cell? ⟨qb,4,none⟩=some pz:=by rw [World.cell?,hq9];rfl
       have m1:y9.frozen? ⟨qb,4,none⟩=false:=fzb hq9 4
       clear hq9
       refine hK.out _ _ hS_y9 (fun hS=>?_)
       refine rd1 13 rfl fun K hK=>?_
       go_simp
       refine hK.out _ _ hS_y9 (fun hS=>?_)
       refine rd1 14 rfl fun K hK=>?_
       go_simp
       refine hK.out _ _ hS_y9 (fun hS=>?_)
       refine rd1 15 rfl fun K hK=>?_
       go_simp
       have hX9:=HX.out
       have hO9:=HO2.out
       rw [HB0.out] at hX9 hO9
       have hLq:=HQ.out.put hX9 hO9 4 (.slice (some ⟨g,0,none⟩) p.ts.length cp)
       have hS_z:(y9.setCell ⟨qb,4,none⟩ (.slice (some ⟨g,0,none⟩) p.ts.length cp)).cell? ⟨w.heap.size,4,none⟩=some (.slice tto p.ts.length tc):=hLq.cellp 4 _ rfl
       have HLq:=hdn <| hLq
       clear hLq hX9 hO9
       refine hK.out _ _ hS_z (fun hS=>?_)
       refine wpAnyH_done (by kernel_rfl) ?_ _
       go_wp2_with fail
       go_meet
       case rel=>exact ⟨rfl,g,cp,hcap,HLq.out⟩
     ·have HX:Hid (Below B0 x0 x0):=Below.refl _ _
      go_simp
      have hbm:Below x0.heap.size x0 (x0.alloc (.cells #[.string ⟨#[108,101,110,116]⟩] 9)):=bAl x0 _
      have hnew:=heap_alloc_new x0 (.cells #[.string ⟨#[108,101,110,116]⟩] 9)
      have HMk:Hid ((x0.alloc (.cells #[.string ⟨#[108,101,110,116]⟩] 9)).heap[x0.heap.size]?=some (.cells #[.string ⟨#[108,101,110,116]⟩] 9 (0,0))):=hnew
      have HX:=hdn <| HX.out.trans (hbm.mono (by have:=HX.out.size;have:=HB0.out;omega))
      clear hbm hnew
      generalize x0.alloc (.cells #[.string ⟨#[108,101,110,116]⟩] 9)=y1 at *
      generalize x0.heap.size=bm at HMk ⊢
      have hS_y1:y1.cell? ⟨w.heap.size,4,none⟩=some (.slice tto p.ts.length tc):=(HX.out.cell (p:=⟨w.heap.size,4,none⟩) (by have:=blk_lt HQ.out.p;have:=HB0.out;show w.heap.size < B0;omega)).trans hS0
      refine hK.out _ _ hS_y1 (fun hS=>?_)
      refine rd1 4 rfl fun K hK=>?_
      go_simp
      have hbm:Below y1.heap.size y1 (y1.alloc (.cells Mt 9)):=bAl y1 _
      have HO:Hid ((y1.alloc (.cells Mt 9)).ownsRow B0 9 1 (.slice (some ⟨y1.heap.size,0,none⟩) 0 (p.ts.length+3)) 0 []):=own_made Ht.out.2.2.2 (by have:=HX.out.size;have:=HB0.out;omega) Ht.out.2.1
      have HX:=hdn <| HX.out.trans (hbm.mono (by have:=HX.out.size;have:=HB0.out;omega))
      have HMk:Hid ((y1.alloc (.cells Mt 9)).heap[bm]?=some (.cells #[.string ⟨#[108,101,110,116]⟩] 9 (0,0))/\bm ≠ y1.heap.size):=⟨(hbm.block _ (blk_lt HMk.out)).trans HMk.out,by have:=blk_lt HMk.out;omega⟩
      clear hbm
      generalize y1.alloc (.cells Mt 9)=y2 at *
      generalize y1.heap.size=g0 at HO HMk ⊢
      have hS_y2:y2.cell? ⟨w.heap.size,4,none⟩=some (.slice tto p.ts.length tc):=(HX.out.cell (p:=⟨w.heap.size,4,none⟩) (by have:=blk_lt HQ.out.p;have:=HB0.out;show w.heap.size < B0;omega)).trans hS0
      refine hK.out _ _ hS_y2 (fun hS=>?_)
      refine rd1 7 rfl fun K hK=>?_
      refine step_app _ rfl (.tmp 47) (.tmp 49) 26 rfl B0 9 it (.string ByteArray.empty) 1 16 Tryz.underlying26 hit hzt0 hzt1 hzt2 rfl (by decide) (.slice (some ⟨g0,0,none⟩) 0 (p.ts.length+3)) 0 [] (by simp [Act.eval]) HO.out tto p.ts.length tc (p.ts.map Value.string) (by simp [Act.eval]) Ht.out.2.2.1.1 Ht.out.2.2.1.2 (vals_src (HV.out.below (by have:=HX.out;rw [HB0.out] at this;exact this))) (str_one _) (by have:=Ht.out.2.1;unfold maxLen;omega) (by have:=Ht.out.2.1;omega) (by have:=HX.out.size;have:=HB0.out;omega) ?_
      intro v1 y3 ho1 hg1 hw1
      try rw [Nat.zero_add] at ho1
      have HX2:Hid (Below B0 x0 y3):=HX.out.grown hg1 (by have:=HX.out.size;have:=HB0.out;omega) (fun q e=>(World.ownsRow.lt HO.out q e).1)
      have HMk:Hid (y3.heap[bm]?=some (.cells #[.string ⟨#[108,101,110,116]⟩] 9 (0,0))):=(hg1.block bm (blk_lt HMk.out.1) (fun e=>HMk.out.2 (by cases e;rfl))).trans HMk.out.1
      have HO:Hid (y3.ownsRow B0 9 1 v1 p.ts.length (p.ts.map Value.string)):=ho1
      have HX:=HX2
      clear ho1 hg1 hw1 HX2
      have hS_y3:y3.cell? ⟨w.heap.size,4,none⟩=some (.slice tto p.ts.length tc):=(HX.out.cell (p:=⟨w.heap.size,4,none⟩) (by have:=blk_lt HQ.out.p;have:=HB0.out;show w.heap.size < B0;omega)).trans hS0
      refine hK.out _ _ hS_y3 (fun hS=>?_)
      refine rd1 9 rfl fun K hK=>?_
      refine step_app _ rfl (.tmp 50) (.tmp 51) 26 rfl B0 9 it (.string ByteArray.empty) 1 16 Tryz.underlying26 hit hzt0 hzt1 hzt2 rfl (by decide) v1 p.ts.length (p.ts.map Value.string) (by simp [Act.eval,Act.put]) HO.out (some ⟨bm,0,none⟩) 1 1 [.string ⟨#[108,101,110,116]⟩] (by simp [Act.eval,Act.put]) rfl (fun e=>by cases e) (fun ad e j u hu=>by cases e;exact Lib.cells_of_row HMk.out 1 j u (by simpa using hu)) (by intro u hu;simp only [List.mem_cons,List.not_mem_nil,or_false] at hu;subst hu;rfl) (by have:=Ht.out.2.1;unfold maxLen;omega) (by have:=Ht.out.2.1;omega) (by have:=HX.out.size;have:=HB0.out;omega) ?_
      intro v2 y9 ho2 hg2 hw2
      have HX2:Hid (Below B0 x0 y9):=HX.out.grown hg2 (by have:=HX.out.size;have:=HB0.out;omega) (fun q e=>(World.ownsRow.lt HO.out q e).1)
      obtain ⟨g,cp,rfl,hcap,hcm⟩:=own_some ho2 (Nat.succ_pos _)
      have HO2:Hid (y9.ownsRow B0 9 1 (.slice (some ⟨g,0,none⟩) (p.ts.length+1) cp) (p.ts.length+1) (p.ts.map Value.string++[.string ⟨#[108,101,110,116]⟩])):=ho2
      have HX:=HX2
      have hc1:(p.ts.length:Int)<=(cp:Int):=by omega
      have hc3:p.ts.length<=cp:=by omega
      have hc4:(cp:Int)<=9223372036854775807:=by unfold maxLen at hcm;omega
      clear ho2 hg2 hw2 HX2 hcm
      have hS_y9:y9.cell? ⟨w.heap.size,4,none⟩=some (.slice tto p.ts.length tc):=(HX.out.cell (p:=⟨w.heap.size,4,none⟩) (by have:=blk_lt HQ.out.p;have:=HB0.out;show w.heap.size < B0;omega)).trans hS0
      have hq9:=(HX.out.block _ (by have:=blk_lt HQ.out.q;have:=HB0.out;omega)).trans HQ.out.q
      have m0:y9.cell? ⟨qb,4,none⟩=some pz:=by rw [World.cell?,hq9];rfl
      have m1:y9.frozen? ⟨qb,4,none⟩=false:=fzb hq9 4
      clear hq9
      refine hK.out _ _ hS_y9 (fun hS=>?_)
      refine rd1 13 rfl fun K hK=>?_
      go_simp
      refine hK.out _ _ hS_y9 (fun hS=>?_)
      refine rd1 14 rfl fun K hK=>?_
      go_simp
      refine hK.out _ _ hS_y9 (fun hS=>?_)
      refine rd1 15 rfl fun K hK=>?_
      go_simp
      have hX9:=HX.out
      have hO9:=HO2.out
      rw [HB0.out] at hX9 hO9
      have hLq:=HQ.out.put hX9 hO9 4 (.slice (some ⟨g,0,none⟩) p.ts.length cp)
      have hS_z:(y9.setCell ⟨qb,4,none⟩ (.slice (some ⟨g,0,none⟩) p.ts.length cp)).cell? ⟨w.heap.size,4,none⟩=some (.slice tto p.ts.length tc):=hLq.cellp 4 _ rfl
      have HLq:=hdn <| hLq
      clear hLq hX9 hO9
      refine hK.out _ _ hS_z (fun hS=>?_)
      refine wpAnyH_done (by kernel_rfl) ?_ _
      go_wp2_with fail
      go_meet
      case rel=>exact ⟨rfl,g,cp,hcap,HLq.out⟩
    case rest=>
     obtain ⟨rfl,gt,ct,hct,hLq⟩:=hcut
     have HQ:=hdn <| hLq
     clear hLq
     have u5:=HQ.out.cellp 5 _ rfl
     have HI5:=hdn <| lendI_any (H5.out.1.below HQ.out.b) H5.out.2.1 H5.out.2.2
     go_wp2_with fail
     refine Calls.mono HI5.out ?_
     rintro e w5 ⟨gu,cu,rfl,hou,hb5⟩
     have hq5:=(hb5.block _ (blk_lt HQ.out.q)).trans HQ.out.q
     have m0:w5.cell? ⟨qb,5,none⟩=some pz:=by rw [World.cell?,hq5];rfl
     have m1:w5.frozen? ⟨qb,5,none⟩=false:=fzb hq5 5
     have HQ5:=hdn <| HQ.out.put hb5 hou 5 (.slice (some ⟨gu,0,none⟩) p.us.length cu)
     have hQ5:Lq w (w5.setCell ⟨qb,5,none⟩ (.slice (some ⟨gu,0,none⟩) p.us.length cu)) #[.string p.name,.slice ao p.rows.length ac,.slice qo p.qs.length qc,.slice vo p.vs.length vc,.slice tto p.ts.length tc,.slice uo p.us.length uc,.slice oo p.on.length oc,.int .i64 p.miss] qb #[.string p.name,.slice (some ⟨g,0,none⟩) p.rows.length (p.rows.length+9),.slice (some ⟨gq,0,none⟩) p.qs.length cq,.slice (some ⟨gv,0,none⟩) p.vs.length cv,.slice (some ⟨gt,0,none⟩) p.ts.length ct,.slice (some ⟨gu,0,none⟩) p.us.length cu,pz,.int .i64 p.miss] [⟨1,47,5,.slice (some ⟨g,0,none⟩) (p.rows.length+9) (p.rows.length+9),p.rows.length+9,(fillL p.rows 9).flatMap rz5⟩,⟨2,67,2,.slice (some ⟨gq,0,none⟩) (p.qs.length+1) cq,p.qs.length+1,qF p.qs++[.string ⟨#[108,101,110,116]⟩,.bool false]⟩,⟨3,9,1,.slice (some ⟨gv,0,none⟩) (p.vs.length+1) cv,p.vs.length+1,p.vs.map Value.string++[.string ⟨#[108,101,110,116]⟩]⟩,⟨4,9,1,.slice (some ⟨gt,0,none⟩) (p.ts.length+1) ct,p.ts.length+1,p.ts.map Value.string++[.string ⟨#[108,101,110,116]⟩]⟩,⟨5,3,1,.slice (some ⟨gu,0,none⟩) (p.us.length+1) cu,p.us.length+1,iv p.us++[.int .i64 (-77)]⟩]:=HQ5.out
     have HQ:=hdn <| hQ5
     have u6:=hQ5.cellp 6 _ rfl
     have HI6:=hdn <| lendI_any (H6.out.1.below HQ.out.b) H6.out.2.1 H6.out.2.2
     clear hq5 hou hb5 HI5 HQ5 hQ5 u5
     go_wp2_with fail
     generalize w5.setCell ⟨qb,5,none⟩ (.slice (some ⟨gu,0,none⟩) p.us.length cu)=w6 at *
     clear m0 m1
     refine Calls.mono HI6.out ?_
     rintro e w7 ⟨go,co,rfl,hoo,hb7⟩
     have hq7:=(hb7.block _ (blk_lt HQ.out.q)).trans HQ.out.q
     have m0:w7.cell? ⟨qb,6,none⟩=some pz:=by rw [World.cell?,hq7];rfl
     have m1:w7.frozen? ⟨qb,6,none⟩=false:=fzb hq7 6
     have hQ7:Lq w (w7.setCell ⟨qb,6,none⟩ (.slice (some ⟨go,0,none⟩) p.on.length co)) #[.string p.name,.slice ao p.rows.length ac,.slice qo p.qs.length qc,.slice vo p.vs.length vc,.slice tto p.ts.length tc,.slice uo p.us.length uc,.slice oo p.on.length oc,.int .i64 p.miss] qb #[.string p.name,.slice (some ⟨g,0,none⟩) p.rows.length (p.rows.length+9),.slice (some ⟨gq,0,none⟩) p.qs.length cq,.slice (some ⟨gv,0,none⟩) p.vs.length cv,.slice (some ⟨gt,0,none⟩) p.ts.length ct,.slice (some ⟨gu,0,none⟩) p.us.length cu,.slice (some ⟨go,0,none⟩) p.on.length co,.int .i64 p.miss] [⟨1,47,5,.slice (some ⟨g,0,none⟩) (p.rows.length+9) (p.rows.length+9),p.rows.length+9,(fillL p.rows 9).flatMap rz5⟩,⟨2,67,2,.slice (some ⟨gq,0,none⟩) (p.qs.length+1) cq,p.qs.length+1,qF p.qs++[.string ⟨#[108,101,110,116]⟩,.bool false]⟩,⟨3,9,1,.slice (some ⟨gv,0,none⟩) (p.vs.length+1) cv,p.vs.length+1,p.vs.map Value.string++[.string ⟨#[108,101,110,116]⟩]⟩,⟨4,9,1,.slice (some ⟨gt,0,none⟩) (p.ts.length+1) ct,p.ts.length+1,p.ts.map Value.string++[.string ⟨#[108,101,110,116]⟩]⟩,⟨5,3,1,.slice (some ⟨gu,0,none⟩) (p.us.length+1) cu,p.us.length+1,iv p.us++[.int .i64 (-77)]⟩,⟨6,3,1,.slice (some ⟨go,0,none⟩) (p.on.length+1) co,p.on.length+1,iv p.on++[.int .i64 (-77)]⟩]:=HQ.out.put hb7 hoo 6 (.slice (some ⟨go,0,none⟩) p.on.length co)
     have HQ:=hdn <| hQ7
     obtain ⟨k0,k1,k2,k3,k4,k5,k6,k7⟩:=pol8 hQ7.q
     obtain ⟨r0,r1,r2,r3,r4,r5,r6,r7⟩:=zero8 hQ7.r
     have z0:=zero8f hQ7.r 0
     have z1:=zero8f hQ7.r 1
     have z2:=zero8f hQ7.r 2
     have z3:=zero8f hQ7.r 3
     have z4:=zero8f hQ7.r 4
     have z5:=zero8f hQ7.r 5
     have z6:=zero8f hQ7.r 6
     have z7:=zero8f hQ7.r 7
     clear hq7 hoo hb7 HI6 hQ7 u6
     go_wp2_with fail
     obtain ⟨x1,x2,x3⟩:=put8L (B:=w.heap.size+1) (v0:=.string p.name) (v1:=.slice (some ⟨g,0,none⟩) p.rows.length (p.rows.length+9)) (v2:=.slice (some ⟨gq,0,none⟩) p.qs.length cq) (v3:=.slice (some ⟨gv,0,none⟩) p.vs.length cv) (v4:=.slice (some ⟨gt,0,none⟩) p.ts.length ct) (v5:=.slice (some ⟨gu,0,none⟩) p.us.length cu) (v6:=.slice (some ⟨go,0,none⟩) p.on.length co) (v7:=.int .i64 p.miss) HQ.out.b (Nat.le_succ _) HQ.out.r
     obtain ⟨y0,y1,y2,y3,y4,y5,y6,y7⟩:=pol8 x1
     refine bodyPost_ret (v:=.agg #[.string p.name,.slice (some ⟨g,0,none⟩) p.rows.length (p.rows.length+9),.slice (some ⟨gq,0,none⟩) p.qs.length cq,.slice (some ⟨gv,0,none⟩) p.vs.length cv,.slice (some ⟨gt,0,none⟩) p.ts.length ct,.slice (some ⟨gu,0,none⟩) p.us.length cu,.slice (some ⟨go,0,none⟩) p.on.length co,.int .i64 p.miss]) (by simp [results,Tryz.results8,go_sem,y0,y1,y2,y3,y4,y5,y6,y7]) rfl ?_
     refine ⟨g,gq,cq,gv,cv,gt,ct,gu,cu,go,co,rfl,⟨fun o ho=>?_,HQ.out.dis⟩,x2⟩
     have h1:=HQ.out.own o ho
     exact own_base (own_keepB h1 (fun k hk=>x3 k (by have:=(World.ownsRow.lt h1 k hk).1;omega))) (by omega)
end Go.Proofs.YtfgpbdieaflclaaGreat.Nm
