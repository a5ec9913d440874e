import Derived.Test.YthbnjhamfcefkaaGreatK43
set_option maxHeartbeats 51200000
set_option maxRecDepth 100000
namespace Go.Proofs.YthbnjhamfcefkaaGreat.Nm
open Go.RowKit Go.Maps Sp Lx Gr
abbrev vF (l:List (Int × Int × Int)):List Value:=l.flatMap fun v=>[.int .i64 v.1,.int .i64 v.2.1,.int .i64 v.2.2]
theorem vF_one (l:List (Int × Int × Int)):∀ u ∈ vF l,u.oneCell'=true:=fun u hu=>by
 obtain ⟨x,_,hx⟩:=List.mem_flatMap.1 hu
 simp only [List.mem_cons,List.not_mem_nil,or_false] at hx
 rcases hx with rfl | rfl | rfl<;>rfl
theorem vF_len (l:List (Int × Int × Int)):(vF l).length=l.length * 3:=by
 induction l with
 | nil=>rfl
 | cons x l ih=>
  have e:vF (x :: l)=[.int .i64 x.1,.int .i64 x.2.1,.int .i64 x.2.2]++vF l:=by simp [vF]
  rw [e,List.length_append,ih]
  simp only [List.length_cons,List.length_nil]
  omega
theorem infoV:(Tryz.prog.info? 72).map (fun i=>(i.zero,i.size,i.bytes))=some (some (.agg #[.int .i64 0,.int .i64 0,.int .i64 0]),3,24):=by kernel_rfl
theorem cells3 {wq:World} {B:Nat} {v0 v1 v2:Value} {T:TypeId} (h:wq.heap[B]?=some (.cells #[v0,v1,v2] T (0,0))):wq.cell? ⟨B,0,none⟩=some v0/\wq.cell? ⟨B,1,none⟩=some v1/\wq.cell? ⟨B,2,none⟩=some v2:=by
 refine ⟨?_,?_,?_⟩
 all_goals
  simp only [World.cell?,h]
  rfl
theorem put3L {n:Nat} {w wx:World} {B:Nat} {T:TypeId} {a b c v0 v1 v2:Value} (hb:Below n w wx) (hB:n<=B) (hz:wx.heap[B]?=some (.cells #[a,b,c] T (0,0))):(((wx.setCell ⟨B,0,none⟩ v0).setCell ⟨B,1,none⟩ v1).setCell ⟨B,2,none⟩ v2).heap[B]?=some (.cells #[v0,v1,v2] T (0,0))/\Below n w (((wx.setCell ⟨B,0,none⟩ v0).setCell ⟨B,1,none⟩ v1).setCell ⟨B,2,none⟩ v2)/\∀ k,k ≠ B->(((wx.setCell ⟨B,0,none⟩ v0).setCell ⟨B,1,none⟩ v1).setCell ⟨B,2,none⟩ v2).heap[k]?=wx.heap[k]?:=by
 have h0:=set_at hz v0 (cs':=#[v0,b,c]) (i:=0) rfl
 have h1:=set_at h0 v1 (cs':=#[v0,v1,c]) (i:=1) rfl
 have h2:=set_at h1 v2 (cs':=#[v0,v1,v2]) (i:=2) rfl
 refine ⟨h2,below_set (below_set (below_set hb hB 0 v0) hB 1 v1) hB 2 v2,fun k hk=>?_⟩
 have hp:∀ (u:World) (i:Nat) (v:Value),(u.setCell ⟨B,i,none⟩ v).heap[k]?=u.heap[k]?:=fun u i v=>Below.heap_setCell u _ v _ (fun e=>hk e)
 rw [hp,hp,hp]
structure Lt (w wx:World) (pc:Array Value) (qb:Nat) (cs:Array Value) (os:List Ow):Prop where
 r:wx.heap[w.heap.size+1]?=some (.cells #[pz,pz,pz] 37 (0,0))
 p:wx.heap[w.heap.size]?=some (.cells pc 37 (0,0))
 q:wx.heap[qb]?=some (.cells cs 37 (0,0))
 b:Below w.heap.size w wx
 l:w.heap.size+1 < qb
 own:∀ o ∈ os,wx.ownsRow (w.heap.size+2) o.T o.sz o.v o.n o.xs
 dis:os.Pairwise fun a c=>∀ g,a.v.ownBlock=some g->c.v.ownBlock ≠ some g
 nq:∀ o ∈ os,o.v.ownBlock ≠ some qb
section
variable {w wx w':World} {pc cs:Array Value} {qb:Nat} {os:List Ow}
theorem Lt.below (h:Lt w wx pc qb cs os) (hb:Below wx.heap.size wx w'):Lt w w' pc qb cs os:=
 ⟨(hb.block _ (blk_lt h.r)).trans h.r,(hb.block _ (blk_lt h.p)).trans h.p,(hb.block _ (blk_lt h.q)).trans h.q,h.b.trans (hb.mono h.b.size),h.l,fun o ho=>own_below (h.own o ho) hb,h.dis,h.nq⟩
theorem Lt.cellp (h:Lt w wx pc qb cs os) (i:Nat) (v:Value) (hv:pc[i]?=some v):wx.cell? ⟨w.heap.size,i,none⟩=some v:=by
 simp only [World.cell?,h.p]
 exact hv
theorem Lt.put {T:TypeId} {sz n:Nat} {v:Value} {xs:List Value} (h:Lt w wx pc qb cs os) (hb:Below wx.heap.size wx w') (ho:w'.ownsRow wx.heap.size T sz v n xs) (i:Nat) (u:Value):Lt w (w'.setCell ⟨qb,i,none⟩ u) pc qb (cs.setIfInBounds i u) (os++[⟨i,T,sz,v,n,xs⟩]):=by
 have h1:=h.below hb
 have hne:∀ k,k ≠ qb->(w'.setCell ⟨qb,i,none⟩ u).heap[k]?=w'.heap[k]?:=fun k hk=>Below.heap_setCell w' _ u k (fun e=>hk e)
 have hl:=h.l
 have hr:=blk_lt h.r
 have hq:=blk_lt h.q
 refine ⟨(hne _ (by omega)).trans h1.r,(hne _ (by omega)).trans h1.p,heap_setCell_same w' qb i cs 37 u h1.q,below_set h1.b (by omega) i u,h.l,fun o hm=>?_,?_,fun o hm=>?_⟩
 ·rcases List.mem_append.1 hm with hm | hm
  ·exact own_keepB (h1.own o hm) (fun k hk=>hne k (fun e=>h.nq o hm (by rw [hk,e])))
  ·simp only [List.mem_cons,List.not_mem_nil,or_false] at hm
   subst hm
   exact own_base (own_keepB ho (fun k hk=>hne k (by have:=(World.ownsRow.lt ho k hk).1;omega))) (by omega)
 ·refine List.pairwise_append.2 ⟨h.dis,by simp,fun a ha c hc gg hg=>?_⟩
  simp only [List.mem_cons,List.not_mem_nil,or_false] at hc
  subst hc
  intro e
  have:=(World.ownsRow.lt ho gg e).1
  have:=(World.ownsRow.lt (h.own a ha) gg hg).2
  omega
 ·rcases List.mem_append.1 hm with hm | hm
  ·exact h.nq o hm
  ·simp only [List.mem_cons,List.not_mem_nil,or_false] at hm
   subst hm
   intro e
   have:=(World.ownsRow.lt ho qb e).1
   omega
theorem lt_two {i j n m gt gr ct cr:Nat} {T:TypeId} {xs ys:List Value} (hr:wx.heap[w.heap.size+1]?=some (.cells #[pz,pz,pz] 37 (0,0))) (hp:wx.heap[w.heap.size]?=some (.cells pc 37 (0,0))) (hq:wx.heap[qb]?=some (.cells cs 37 (0,0))) (hb:Below w.heap.size w wx) (hl:w.heap.size+1 < qb)
  (o1:wx.ownsRow (w.heap.size+2) T 1 (.slice (some ⟨gt,0,none⟩) n ct) n xs) (o2:wx.ownsRow (w.heap.size+2) T 1 (.slice (some ⟨gr,0,none⟩) m cr) m ys) (hd:gt ≠ gr) (h1:gt ≠ qb) (h2:gr ≠ qb):Lt w wx pc qb cs [⟨i,T,1,.slice (some ⟨gt,0,none⟩) n ct,n,xs⟩,⟨j,T,1,.slice (some ⟨gr,0,none⟩) m cr,m,ys⟩]:=by
 refine ⟨hr,hp,hq,hb,hl,fun o ho=>?_,?_,fun o ho=>?_⟩
 ·simp only [List.mem_cons,List.not_mem_nil,or_false] at ho
  rcases ho with rfl | rfl
  ·exact o1
  ·exact o2
 ·simpa [Value.ownBlock] using hd.symm
 ·simp only [List.mem_cons,List.not_mem_nil,or_false] at ho
  rcases ho with rfl | rfl
  ·simpa [Value.ownBlock] using h1
  ·simpa [Value.ownBlock] using h2
end
abbrev lentOt (vl:List (Int × Int × Int)) (tg rd:List Int) (gv cv gt ct gr cr:Nat):List Ow:=[⟨1,3,1,.slice (some ⟨gt,0,none⟩) (tg.length+1) ct,tg.length+1,iv tg++[.int .i64 (-77)]⟩,⟨2,3,1,.slice (some ⟨gr,0,none⟩) (rd.length+1) cr,rd.length+1,iv rd++[.int .i64 (-77)]⟩,⟨0,72,3,.slice (some ⟨gv,0,none⟩) (vl.length+1) cv,vl.length+1,vF vl++[.int .i64 (-77),.int .i64 0,.int .i64 0]⟩]
theorem lendT_any {w:World} {xo yo eo:Option Addr} {cx cy ec:Nat} {vl:List (Int × Int × Int)} {tg rd:List Int} (h1:IsVals w xo (vF vl)) (h2:IsVals w yo (iv tg)) (h3:IsVals w eo (iv rd)) (n1:vl.length<=1000) (n2:tg.length<=1000) (n3:rd.length<=17592186043904) (c1:xo=none->cx=0) (c2:yo=none->cy=0) (c3:eo=none->ec=0):
  Calls Tryz.prog 8 #[.agg #[.slice xo vl.length cx,.slice yo tg.length cy,.slice eo rd.length ec]] w fun e w'=>∃ gv cv gt ct gr cr,e=.returned (.agg #[.slice (some ⟨gv,0,none⟩) vl.length cv,.slice (some ⟨gt,0,none⟩) tg.length ct,.slice (some ⟨gr,0,none⟩) rd.length cr])/\Ls w' w.heap.size (lentOt vl tg rd gv cv gt ct gr cr)/\Below w.heap.size w w':=by
 obtain ⟨ia,hia,hza0,hza1,hza2⟩:=info_parts infoV
 obtain ⟨Ma,hmka,hMa⟩:=mk_cap Tryz.underlying35 hia hza0 hza1 hza2 (by decide) vl.length n1
 have Ha:Hid (IsVals w xo (vF vl)/\vl.length<=1000/\((vF vl).length=vl.length * 3/\(xo=none->vl.length=0/\cx=0))/\Ma.size=(vl.length+3) * 3):=⟨h1,n1,⟨vF_len _,fun e=>⟨vals_nil h1 (vF_len _) (by decide) e,c1 e⟩⟩,hMa⟩
 have HD:Hid (IsVals w yo (iv tg)/\tg.length<=17592186043904/\(yo=none->cy=0)):=⟨h2,by omega,c2⟩
 have HR:Hid (IsVals w eo (iv rd)/\rd.length<=17592186043904/\(eo=none->ec=0)):=⟨h3,n3,c3⟩
 have hna:(vl.length:Int)<=1000:=by omega
 have hbP:Below w.heap.size w ((w.alloc (.cells #[.slice xo vl.length cx,.slice yo tg.length cy,.slice eo rd.length ec] 37)).alloc (.cells #[pz,pz,pz] 37)):=(bAl w _).alloc (by simp) _
 have HP2:Hid (((w.alloc (.cells #[.slice xo vl.length cx,.slice yo tg.length cy,.slice eo rd.length ec] 37)).alloc (.cells #[pz,pz,pz] 37)).heap[w.heap.size]?=some (.cells #[.slice xo vl.length cx,.slice yo tg.length cy,.slice eo rd.length ec] 37 (0,0))/\((w.alloc (.cells #[.slice xo vl.length cx,.slice yo tg.length cy,.slice eo rd.length ec] 37)).alloc (.cells #[pz,pz,pz] 37)).heap[w.heap.size+1]?=some (.cells #[pz,pz,pz] 37 (0,0))/\Below w.heap.size w ((w.alloc (.cells #[.slice xo vl.length cx,.slice yo tg.length cy,.slice eo rd.length ec] 37)).alloc (.cells #[pz,pz,pz] 37))):=⟨by rw [alloc_old _ _ _ (by simp)];exact alloc_at _ _ _ rfl,alloc_at _ _ _ (by simp),hbP⟩
 clear h1 h2 h3 n1 n2 n3 c1 c2 c3 hbP hMa
 go_enter Tryz.func8,Tryz.ntmps8
 go_wp2_with fail
 generalize (w.alloc (.cells #[.slice xo vl.length cx,.slice yo tg.length cy,.slice eo rd.length ec] 37)).alloc (.cells #[pz,pz,pz] 37)=w2 at *
 go_cut [3] (fun s3 wx=>∃ qb gt ct gr cr,s3=.pointer (some ⟨qb,0,none⟩)/\Lt w wx #[.slice xo vl.length cx,.slice yo tg.length cy,.slice eo rd.length ec] qb #[pz,.slice (some ⟨gt,0,none⟩) tg.length ct,.slice (some ⟨gr,0,none⟩) rd.length cr] [⟨1,3,1,.slice (some ⟨gt,0,none⟩) (tg.length+1) ct,tg.length+1,iv tg++[.int .i64 (-77)]⟩,⟨2,3,1,.slice (some ⟨gr,0,none⟩) (rd.length+1) cr,rd.length+1,iv rd++[.int .i64 (-77)]⟩])
 case first=>
  have hS0:w2.drew.cell? ⟨w.heap.size,1,none⟩=some (.slice yo tg.length cy)/\w2.drew.cell? ⟨w.heap.size,2,none⟩=some (.slice eo rd.length ec):=by
   obtain ⟨_,k1,k2⟩:=cells3 HP2.out.1
   exact ⟨k1,k2⟩
  refine wp_region_held (S:=fun w'=>w'.cell? ⟨w.heap.size,1,none⟩=some (.slice yo tg.length cy)/\w'.cell? ⟨w.heap.size,2,none⟩=some (.slice eo rd.length ec)) (by kernel_rfl) ?_
  have hS:(fun w':World=>w'.cell? ⟨w.heap.size,1,none⟩=some (.slice yo tg.length cy)/\w'.cell? ⟨w.heap.size,2,none⟩=some (.slice eo rd.length ec)) w2.drew:=hS0
  change wpAnyH _ _ _ _ _ _ _ _ w2.drew
  refine tk (i:=0) (v:=?bv0) rfl (Or.inl ⟨by rfl,?by0⟩) hS ?br0
  case by0=>intro w hSw;(try dsimp only at hSw);obtain ⟨e0,e1⟩:=hSw;first | (go_simp;done) | (go_simp;with_reducible rfl)
  refine tk (i:=1) (v:=?bv1) rfl (Or.inl ⟨by rfl,?by1⟩) hS ?br1
  case by1=>intro w hSw;(try dsimp only at hSw);obtain ⟨e0,e1⟩:=hSw;first | (go_simp;done) | (go_simp;with_reducible rfl)
  refine tk (i:=3) (v:=?bv3) rfl (Or.inl ⟨by rfl,?by3⟩) hS ?br3
  case by3=>intro w hSw;(try dsimp only at hSw);obtain ⟨e0,e1⟩:=hSw;first | (go_simp;done) | (go_simp;with_reducible rfl)
  refine tk (i:=4) (v:=?bv4) rfl (Or.inl ⟨by rfl,?by4⟩) hS ?br4
  case by4=>intro w hSw;(try dsimp only at hSw);obtain ⟨e0,e1⟩:=hSw;first | (go_simp;done) | (go_simp;with_reducible rfl)
  have HP3:Hid (w2.drew.heap[w.heap.size]?=some (.cells #[.slice xo vl.length cx,.slice yo tg.length cy,.slice eo rd.length ec] 37 (0,0))/\w2.drew.heap[w.heap.size+1]?=some (.cells #[pz,pz,pz] 37 (0,0))/\Below w.heap.size w w2.drew):=⟨HP2.out.1,HP2.out.2.1,HP2.out.2.2.drew⟩
  have HP0:Hid (w.heap.size+1 < w2.drew.heap.size/\w.heap.size < w2.drew.heap.size):=⟨blk_lt HP3.out.2.1,blk_lt HP3.out.1⟩
  clear HP2
  generalize w2.drew=x0 at *
  have hbx0:Below x0.heap.size x0 x0:=Below.refl _ _
  refine rd2 2 7 (by kernel_rfl) rfl rfl (fun K hK=>?_) (fun K hK=>?_)
  ·go_simp
   refine Calls.mono (lendJ_any (IsVals.below HD.out.1 (HP3.out.2.2.trans ((hbx0).mono HP3.out.2.2.size))) HD.out.2.1 HD.out.2.2) ?_
   rintro e w4 ⟨gt,ct,rfl,how4,hcw4⟩
   have hbw4:Below x0.heap.size x0 w4:=(hbx0).trans (hcw4.mono (hbx0).size)
   have hS_w4:w4.cell? ⟨w.heap.size,1,none⟩=some (.slice yo tg.length cy)/\w4.cell? ⟨w.heap.size,2,none⟩=some (.slice eo rd.length ec):=⟨(hbw4.cell (p:=⟨w.heap.size,1,none⟩) HP0.out.2).trans hS0.1,(hbw4.cell (p:=⟨w.heap.size,2,none⟩) HP0.out.2).trans hS0.2⟩
   refine hK.out _ _ hS_w4 (fun hS=>?_)
   refine rd2 5 7 (by kernel_rfl) rfl rfl (fun K hK=>?_) (fun K hK=>?_)
   ·go_simp
    refine Calls.mono (lendJ_any (IsVals.below HR.out.1 (HP3.out.2.2.trans ((hbw4).mono HP3.out.2.2.size))) HR.out.2.1 HR.out.2.2) ?_
    rintro e w5 ⟨gr,cr,rfl,how5,hcw5⟩
    have hbw5:Below x0.heap.size x0 w5:=(hbw4).trans (hcw5.mono (hbw4).size)
    have hS_w5:w5.cell? ⟨w.heap.size,1,none⟩=some (.slice yo tg.length cy)/\w5.cell? ⟨w.heap.size,2,none⟩=some (.slice eo rd.length ec):=⟨(hbw5.cell (p:=⟨w.heap.size,1,none⟩) HP0.out.2).trans hS0.1,(hbw5.cell (p:=⟨w.heap.size,2,none⟩) HP0.out.2).trans hS0.2⟩
    refine hK.out _ _ hS_w5 (fun hS=>?_)
    have l1:=(World.ownsRow.lt how4 gt rfl)
    have l2:=(World.ownsRow.lt how5 gr rfl)
    have hbz:Below w5.heap.size w5 (w5.alloc (.cells #[pz,pz,pz] 37)):=bAl w5 _
    have hbv:Below w5.heap.size w5 (w5.alloc (.cells #[pz,.slice (some ⟨gt,0,none⟩) tg.length ct,.slice (some ⟨gr,0,none⟩) rd.length cr] 37)):=bAl w5 _
    have hSz:(w5.alloc (.cells #[pz,pz,pz] 37)).cell? ⟨w.heap.size,1,none⟩=some (.slice yo tg.length cy)/\(w5.alloc (.cells #[pz,pz,pz] 37)).cell? ⟨w.heap.size,2,none⟩=some (.slice eo rd.length ec):=⟨((hbw5.trans (hbz.mono hbw5.size)).cell (p:=⟨w.heap.size,1,none⟩) HP0.out.2).trans hS0.1,((hbw5.trans (hbz.mono hbw5.size)).cell (p:=⟨w.heap.size,2,none⟩) HP0.out.2).trans hS0.2⟩
    have hSv:(w5.alloc (.cells #[pz,.slice (some ⟨gt,0,none⟩) tg.length ct,.slice (some ⟨gr,0,none⟩) rd.length cr] 37)).cell? ⟨w.heap.size,1,none⟩=some (.slice yo tg.length cy)/\(w5.alloc (.cells #[pz,.slice (some ⟨gt,0,none⟩) tg.length ct,.slice (some ⟨gr,0,none⟩) rd.length cr] 37)).cell? ⟨w.heap.size,2,none⟩=some (.slice eo rd.length ec):=⟨((hbw5.trans (hbv.mono hbw5.size)).cell (p:=⟨w.heap.size,1,none⟩) HP0.out.2).trans hS0.1,((hbw5.trans (hbv.mono hbw5.size)).cell (p:=⟨w.heap.size,2,none⟩) HP0.out.2).trans hS0.2⟩
    have hbq:=hbw5.trans (hbv.mono hbw5.size)
    have HLt:Hid (Lt w (w5.alloc (.cells #[pz,.slice (some ⟨gt,0,none⟩) tg.length ct,.slice (some ⟨gr,0,none⟩) rd.length cr] 37)) #[.slice xo vl.length cx,.slice yo tg.length cy,.slice eo rd.length ec] w5.heap.size #[pz,.slice (some ⟨gt,0,none⟩) tg.length ct,.slice (some ⟨gr,0,none⟩) rd.length cr] [⟨1,3,1,.slice (some ⟨gt,0,none⟩) (tg.length+1) ct,tg.length+1,iv tg++[.int .i64 (-77)]⟩,⟨2,3,1,.slice (some ⟨gr,0,none⟩) (rd.length+1) cr,rd.length+1,iv rd++[.int .i64 (-77)]⟩]):=lt_two ((hbq.block _ HP0.out.1).trans HP3.out.2.1) ((hbq.block _ HP0.out.2).trans HP3.out.1) (heap_alloc_new w5 _) (HP3.out.2.2.trans (hbq.mono HP3.out.2.2.size)) (by have:=HP0.out.1;omega) (own_base (own_below (own_below how4 hcw5) hbv) (by have:=HP0.out.1;omega)) (own_base (own_below how5 hbv) (by have:=HP0.out.1;have:=hbw4.size;omega)) (by omega) (by have:=hcw5.size;omega) (by omega)
    clear hbz hbv hbq l1 l2
    refine rd2 6 7 (by kernel_rfl) rfl rfl (fun K hK=>?_) (fun K hK=>?_)
    ·go_simp
     refine hK.out _ _ hS_w5 (fun hS=>?_)
     refine rd1 7 rfl fun K hK=>?_
     go_simp
     refine hK.out _ _ hSz (fun hS=>?_)
     refine rd1 8 rfl fun K hK=>?_
     go_simp
     refine hK.out _ _ hSv (fun hS=>?_)
     refine wpAnyH_done (by kernel_rfl) ?_ _
     go_wp2_with fail
     go_meet
     case rel=>exact ⟨_,_,_,_,_,rfl,HLt.out⟩
    ·go_simp
     refine hK.out _ _ hSz (fun hS=>?_)
     refine rd1 6 rfl fun K hK=>?_
     go_simp
     refine hK.out _ _ hSz (fun hS=>?_)
     refine rd1 8 rfl fun K hK=>?_
     go_simp
     refine hK.out _ _ hSv (fun hS=>?_)
     refine wpAnyH_done (by kernel_rfl) ?_ _
     go_wp2_with fail
     go_meet
     case rel=>exact ⟨_,_,_,_,_,rfl,HLt.out⟩
   ·go_simp
    have hbA:Below w4.heap.size w4 (w4.alloc (.cells #[pz,pz,pz] 37)):=bAl w4 _
    have hq4:=heap_alloc_new w4 (.cells #[pz,pz,pz] 37)
    have hbwA:=hbw4.trans (hbA.mono hbw4.size)
    have hSA:(w4.alloc (.cells #[pz,pz,pz] 37)).cell? ⟨w.heap.size,1,none⟩=some (.slice yo tg.length cy)/\(w4.alloc (.cells #[pz,pz,pz] 37)).cell? ⟨w.heap.size,2,none⟩=some (.slice eo rd.length ec):=⟨(hbwA.cell (p:=⟨w.heap.size,1,none⟩) HP0.out.2).trans hS0.1,(hbwA.cell (p:=⟨w.heap.size,2,none⟩) HP0.out.2).trans hS0.2⟩
    have hoA:=own_below how4 hbA
    have l1:=(World.ownsRow.lt how4 gt rfl)
    have hqx:x0.heap.size<=w4.heap.size:=by have:=hbw4.size;omega
    clear hbA
    generalize w4.alloc (.cells #[pz,pz,pz] 37)=wA at *
    refine hK.out _ _ hSA (fun hS=>?_)
    refine rd1 5 rfl fun K hK=>?_
    go_simp
    refine Calls.mono (lendJ_any (IsVals.below HR.out.1 (HP3.out.2.2.trans ((hbwA).mono HP3.out.2.2.size))) HR.out.2.1 HR.out.2.2) ?_
    rintro e w5 ⟨gr,cr,rfl,how5,hcw5⟩
    have hbw5:Below x0.heap.size x0 w5:=(hbwA).trans (hcw5.mono (hbwA).size)
    have hS_w5:w5.cell? ⟨w.heap.size,1,none⟩=some (.slice yo tg.length cy)/\w5.cell? ⟨w.heap.size,2,none⟩=some (.slice eo rd.length ec):=⟨(hbw5.cell (p:=⟨w.heap.size,1,none⟩) HP0.out.2).trans hS0.1,(hbw5.cell (p:=⟨w.heap.size,2,none⟩) HP0.out.2).trans hS0.2⟩
    refine hK.out _ _ hS_w5 (fun hS=>?_)
    have l2:=(World.ownsRow.lt how5 gr rfl)
    have hlq:=blk_lt hq4
    have ho4:=own_below hoA hcw5
    have hq5:=(hcw5.block _ (blk_lt hq4)).trans hq4
    obtain ⟨r0,r1,r2⟩:=cells3 hq5
    have z0:=zero8f hq5 0
    have z1:=zero8f hq5 1
    have z2:=zero8f hq5 2
    have HPt:=hdn <| put3L (v0:=pz) (v1:=.slice (some ⟨gt,0,none⟩) tg.length ct) (v2:=.slice (some ⟨gr,0,none⟩) rd.length cr) hbw5 hqx hq5
    have HOo:Hid (w5.ownsRow (w.heap.size+2) 3 1 (.slice (some ⟨gt,0,none⟩) (tg.length+1) ct) (tg.length+1) (iv tg++[.int .i64 (-77)])/\w5.ownsRow (w.heap.size+2) 3 1 (.slice (some ⟨gr,0,none⟩) (rd.length+1) cr) (rd.length+1) (iv rd++[.int .i64 (-77)])/\gt ≠ gr/\gt ≠ w4.heap.size/\gr ≠ w4.heap.size/\w.heap.size+1 < w4.heap.size):=⟨own_base ho4 (by have:=HP0.out.1;have:=hbw4.size;omega),own_base how5 (by have:=HP0.out.1;have:=hbwA.size;omega),by omega,by omega,by omega,by have:=HP0.out.1;omega⟩
    clear hq5 ho4 how5 how4 l1 l2 hlq hcw5
    refine rd1 6 rfl fun K hK=>?_
    go_simp
    refine hK.out _ _ hS_w5 (fun hS=>?_)
    refine rd1 8 rfl fun K hK=>?_
    go_simp
    clear r0 r1 r2 z0 z1 z2
    generalize (((w5.setCell ⟨w4.heap.size,0,none⟩ pz).setCell ⟨w4.heap.size,1,none⟩ (.slice (some ⟨gt,0,none⟩) tg.length ct)).setCell ⟨w4.heap.size,2,none⟩ (.slice (some ⟨gr,0,none⟩) rd.length cr))=w9 at *
    have hS9:w9.cell? ⟨w.heap.size,1,none⟩=some (.slice yo tg.length cy)/\w9.cell? ⟨w.heap.size,2,none⟩=some (.slice eo rd.length ec):=⟨(HPt.out.2.1.cell (p:=⟨w.heap.size,1,none⟩) HP0.out.2).trans hS0.1,(HPt.out.2.1.cell (p:=⟨w.heap.size,2,none⟩) HP0.out.2).trans hS0.2⟩
    have HLt:Hid (Lt w w9 #[.slice xo vl.length cx,.slice yo tg.length cy,.slice eo rd.length ec] w4.heap.size #[pz,.slice (some ⟨gt,0,none⟩) tg.length ct,.slice (some ⟨gr,0,none⟩) rd.length cr] [⟨1,3,1,.slice (some ⟨gt,0,none⟩) (tg.length+1) ct,tg.length+1,iv tg++[.int .i64 (-77)]⟩,⟨2,3,1,.slice (some ⟨gr,0,none⟩) (rd.length+1) cr,rd.length+1,iv rd++[.int .i64 (-77)]⟩]):=lt_two ((HPt.out.2.1.block _ HP0.out.1).trans HP3.out.2.1) ((HPt.out.2.1.block _ HP0.out.2).trans HP3.out.1) HPt.out.1 (HP3.out.2.2.trans (HPt.out.2.1.mono HP3.out.2.2.size)) HOo.out.2.2.2.2.2 (own_keepB HOo.out.1 (fun k hk=>HPt.out.2.2 k (by have:=HOo.out;simp [Value.ownBlock] at hk;omega))) (own_keepB HOo.out.2.1 (fun k hk=>HPt.out.2.2 k (by have:=HOo.out;simp [Value.ownBlock] at hk;omega))) HOo.out.2.2.1 HOo.out.2.2.2.1 HOo.out.2.2.2.2.1
    refine hK.out _ _ hS9 (fun hS=>?_)
    refine wpAnyH_done (by kernel_rfl) ?_ _
    go_wp2_with fail
    go_meet
    case rel=>exact ⟨_,_,_,_,_,rfl,HLt.out⟩
  ·go_simp
   have hbwA:Below x0.heap.size x0 (x0.alloc (.cells #[pz,pz,pz] 37)):=bAl x0 _
   have hq4:=heap_alloc_new x0 (.cells #[pz,pz,pz] 37)
   have hSA:(x0.alloc (.cells #[pz,pz,pz] 37)).cell? ⟨w.heap.size,1,none⟩=some (.slice yo tg.length cy)/\(x0.alloc (.cells #[pz,pz,pz] 37)).cell? ⟨w.heap.size,2,none⟩=some (.slice eo rd.length ec):=⟨(hbwA.cell (p:=⟨w.heap.size,1,none⟩) HP0.out.2).trans hS0.1,(hbwA.cell (p:=⟨w.heap.size,2,none⟩) HP0.out.2).trans hS0.2⟩
   have hqx:x0.heap.size<=x0.heap.size:=Nat.le_refl _
   generalize x0.alloc (.cells #[pz,pz,pz] 37)=wA at *
   refine hK.out _ _ hSA (fun hS=>?_)
   refine rd1 2 rfl fun K hK=>?_
   go_simp
   refine Calls.mono (lendJ_any (IsVals.below HD.out.1 (HP3.out.2.2.trans ((hbwA).mono HP3.out.2.2.size))) HD.out.2.1 HD.out.2.2) ?_
   rintro e w4 ⟨gt,ct,rfl,how4,hcw4⟩
   have hbw4:Below x0.heap.size x0 w4:=(hbwA).trans (hcw4.mono (hbwA).size)
   have hS_w4:w4.cell? ⟨w.heap.size,1,none⟩=some (.slice yo tg.length cy)/\w4.cell? ⟨w.heap.size,2,none⟩=some (.slice eo rd.length ec):=⟨(hbw4.cell (p:=⟨w.heap.size,1,none⟩) HP0.out.2).trans hS0.1,(hbw4.cell (p:=⟨w.heap.size,2,none⟩) HP0.out.2).trans hS0.2⟩
   refine hK.out _ _ hS_w4 (fun hS=>?_)
   refine rd1 5 rfl fun K hK=>?_
   go_simp
   refine Calls.mono (lendJ_any (IsVals.below HR.out.1 (HP3.out.2.2.trans ((hbw4).mono HP3.out.2.2.size))) HR.out.2.1 HR.out.2.2) ?_
   rintro e w5 ⟨gr,cr,rfl,how5,hcw5⟩
   have hbw5:Below x0.heap.size x0 w5:=(hbw4).trans (hcw5.mono (hbw4).size)
   have hS_w5:w5.cell? ⟨w.heap.size,1,none⟩=some (.slice yo tg.length cy)/\w5.cell? ⟨w.heap.size,2,none⟩=some (.slice eo rd.length ec):=⟨(hbw5.cell (p:=⟨w.heap.size,1,none⟩) HP0.out.2).trans hS0.1,(hbw5.cell (p:=⟨w.heap.size,2,none⟩) HP0.out.2).trans hS0.2⟩
   refine hK.out _ _ hS_w5 (fun hS=>?_)
   have l1:=(World.ownsRow.lt how4 gt rfl)
   have l2:=(World.ownsRow.lt how5 gr rfl)
   have hlq:=blk_lt hq4
   have ho4:=own_below how4 hcw5
   have hq4:=(hcw4.block _ hlq).trans hq4
   have hlq2:=blk_lt hq4
   have hq5:=(hcw5.block _ (blk_lt hq4)).trans hq4
   obtain ⟨r0,r1,r2⟩:=cells3 hq5
   have z0:=zero8f hq5 0
   have z1:=zero8f hq5 1
   have z2:=zero8f hq5 2
   have HPt:=hdn <| put3L (v0:=pz) (v1:=.slice (some ⟨gt,0,none⟩) tg.length ct) (v2:=.slice (some ⟨gr,0,none⟩) rd.length cr) hbw5 hqx hq5
   have HOo:Hid (w5.ownsRow (w.heap.size+2) 3 1 (.slice (some ⟨gt,0,none⟩) (tg.length+1) ct) (tg.length+1) (iv tg++[.int .i64 (-77)])/\w5.ownsRow (w.heap.size+2) 3 1 (.slice (some ⟨gr,0,none⟩) (rd.length+1) cr) (rd.length+1) (iv rd++[.int .i64 (-77)])/\gt ≠ gr/\gt ≠ x0.heap.size/\gr ≠ x0.heap.size/\w.heap.size+1 < x0.heap.size):=⟨own_base ho4 (by have:=HP0.out.1;have:=hbwA.size;omega),own_base how5 (by have:=HP0.out.1;have:=hbw4.size;omega),by omega,by omega,by omega,by have:=HP0.out.1;omega⟩
   clear hq5 hlq2 ho4 how5 how4 hcw4 l1 l2 hlq hcw5
   refine rd1 6 rfl fun K hK=>?_
   go_simp
   refine hK.out _ _ hS_w5 (fun hS=>?_)
   refine rd1 8 rfl fun K hK=>?_
   go_simp
   clear r0 r1 r2 z0 z1 z2
   generalize (((w5.setCell ⟨x0.heap.size,0,none⟩ pz).setCell ⟨x0.heap.size,1,none⟩ (.slice (some ⟨gt,0,none⟩) tg.length ct)).setCell ⟨x0.heap.size,2,none⟩ (.slice (some ⟨gr,0,none⟩) rd.length cr))=w9 at *
   have hS9:w9.cell? ⟨w.heap.size,1,none⟩=some (.slice yo tg.length cy)/\w9.cell? ⟨w.heap.size,2,none⟩=some (.slice eo rd.length ec):=⟨(HPt.out.2.1.cell (p:=⟨w.heap.size,1,none⟩) HP0.out.2).trans hS0.1,(HPt.out.2.1.cell (p:=⟨w.heap.size,2,none⟩) HP0.out.2).trans hS0.2⟩
   have HLt:Hid (Lt w w9 #[.slice xo vl.length cx,.slice yo tg.length cy,.slice eo rd.length ec] x0.heap.size #[pz,.slice (some ⟨gt,0,none⟩) tg.length ct,.slice (some ⟨gr,0,none⟩) rd.length cr] [⟨1,3,1,.slice (some ⟨gt,0,none⟩) (tg.length+1) ct,tg.length+1,iv tg++[.int .i64 (-77)]⟩,⟨2,3,1,.slice (some ⟨gr,0,none⟩) (rd.length+1) cr,rd.length+1,iv rd++[.int .i64 (-77)]⟩]):=lt_two ((HPt.out.2.1.block _ HP0.out.1).trans HP3.out.2.1) ((HPt.out.2.1.block _ HP0.out.2).trans HP3.out.1) HPt.out.1 (HP3.out.2.2.trans (HPt.out.2.1.mono HP3.out.2.2.size)) HOo.out.2.2.2.2.2 (own_keepB HOo.out.1 (fun k hk=>HPt.out.2.2 k (by have:=HOo.out;simp [Value.ownBlock] at hk;omega))) (own_keepB HOo.out.2.1 (fun k hk=>HPt.out.2.2 k (by have:=HOo.out;simp [Value.ownBlock] at hk;omega))) HOo.out.2.2.1 HOo.out.2.2.2.1 HOo.out.2.2.2.2.1
   refine hK.out _ _ hS9 (fun hS=>?_)
   refine wpAnyH_done (by kernel_rfl) ?_ _
   go_wp2_with fail
   go_meet
   case rel=>exact ⟨_,_,_,_,_,rfl,HLt.out⟩
 case rest=>
  obtain ⟨qb,gt,ct,gr,cr,rfl,hLt⟩:=hcut
  have HQ:=hdn <| hLt
  clear hLt HP2
  go_wp2_with fail
  go_cut [3] (fun s3 wx=>s3=.pointer (some ⟨qb,0,none⟩)/\∃ gv cv,vl.length+1<=cv/\Lt w wx #[.slice xo vl.length cx,.slice yo tg.length cy,.slice eo rd.length ec] qb #[.slice (some ⟨gv,0,none⟩) vl.length cv,.slice (some ⟨gt,0,none⟩) tg.length ct,.slice (some ⟨gr,0,none⟩) rd.length cr] [⟨1,3,1,.slice (some ⟨gt,0,none⟩) (tg.length+1) ct,tg.length+1,iv tg++[.int .i64 (-77)]⟩,⟨2,3,1,.slice (some ⟨gr,0,none⟩) (rd.length+1) cr,rd.length+1,iv rd++[.int .i64 (-77)]⟩,⟨0,72,3,.slice (some ⟨gv,0,none⟩) (vl.length+1) cv,vl.length+1,vF vl++[.int .i64 (-77),.int .i64 0,.int .i64 0]⟩])
  case first=>
   have hS0:wc.drew.cell? ⟨w.heap.size,0,none⟩=some (.slice xo vl.length cx):=HQ.out.cellp 0 _ rfl
   have HV:Hid (IsVals wc.drew xo (vF vl)):=Ha.out.1.below (HQ.out.b.trans ((Below.refl _ wc).drew.mono HQ.out.b.size))
   refine wp_region_held (S:=fun w':World=>w'.cell? ⟨w.heap.size,0,none⟩=some (.slice xo vl.length cx)) (by kernel_rfl) ?_
   have hS:(fun w':World=>w'.cell? ⟨w.heap.size,0,none⟩=some (.slice xo vl.length cx)) wc.drew:=hS0
   change wpAnyH _ _ _ _ _ _ _ _ wc.drew
   refine tk (i:=0) (v:=?av0) rfl (Or.inl ⟨by rfl,?ay0⟩) hS ?ar0
   case ay0=>intro w hSw;(try dsimp only at hSw);first | (go_simp;done) | (go_simp;with_reducible rfl)
   refine tk (i:=1) (v:=?av1) rfl (Or.inl ⟨by rfl,?ay1⟩) hS ?ar1
   case ay1=>intro w hSw;(try dsimp only at hSw);first | (go_simp;done) | (go_simp;with_reducible rfl)
   refine tk (i:=2) (v:=?av2) rfl (Or.inl ⟨by rfl,?ay2⟩) hS ?ar2
   case ay2=>intro w hSw;(try dsimp only at hSw);first | (go_simp;done) | (go_simp;with_reducible rfl)
   refine tk (i:=3) (v:=?av3) rfl (Or.inl ⟨by rfl,?ay3⟩) hS ?ar3
   case ay3=>intro w hSw;(try dsimp only at hSw);first | (go_simp;done) | (go_simp;with_reducible rfl)
   refine tk (i:=5) (v:=?av4) rfl (Or.inl ⟨by rfl,?ay4⟩) hS ?ar4
   case ay4=>intro w hSw;(try dsimp only at hSw);first | (go_simp;done) | (go_simp;with_reducible rfl)
   refine tk (i:=6) (v:=?av5) rfl (Or.inl ⟨by rfl,?ay5⟩) hS ?ar5
   case ay5=>intro w hSw;(try dsimp only at hSw);first | (go_simp;done) | (go_simp;with_reducible rfl)
   refine tk (i:=8) (v:=?av6) rfl (Or.inl ⟨by rfl,?ay6⟩) hS ?ar6
   case ay6=>intro w hSw;(try dsimp only at hSw);first | (go_simp;done) | (go_simp;with_reducible rfl)
   refine tk (i:=11) (v:=?av7) rfl (Or.inl ⟨by rfl,?ay7⟩) hS ?ar7
   case ay7=>intro w hSw;(try dsimp only at hSw);first | (go_simp;done) | (go_simp;with_reducible rfl)
   refine tk (i:=12) (v:=?av8) rfl (Or.inl ⟨by rfl,?ay8⟩) hS ?ar8
   case ay8=>intro w hSw;(try dsimp only at hSw);first | (go_simp;done) | (go_simp;with_reducible rfl)
   refine tk (i:=13) (v:=?av9) rfl (Or.inl ⟨by rfl,?ay9⟩) hS ?ar9
   case ay9=>intro w hSw;(try dsimp only at hSw);first | (go_simp;done) | (go_simp;with_reducible rfl)
   have hwp:IntKind.i64.wrap ((vl.length:Int)+3)=(vl.length:Int)+3:=by rw [IntKind.wrap_i64];omega
   simp only [hwp]
   have HQ:=hdn <| HQ.out.below (Below.refl _ wc).drew
   clear hwp
   generalize wc.drew=x0 at *
   obtain ⟨B0,hB0⟩:∃ B0,B0=x0.heap.size:=⟨_,rfl⟩
   have HB0:Hid (B0=x0.heap.size):=hB0
   clear hB0
   refine rd2 4 9 (by kernel_rfl) rfl rfl (fun K hK=>?_) (fun K hK=>?_)
   ·have HX:Hid (Below B0 x0 x0):=Below.refl _ _
    go_simp
    have hbm:Below x0.heap.size x0 (x0.alloc (.cells Ma 72)):=bAl x0 _
    have HO:Hid ((x0.alloc (.cells Ma 72)).ownsRow B0 72 3 (.slice (some ⟨x0.heap.size,0,none⟩) 0 (vl.length+3)) 0 []):=own_made Ha.out.2.2.2 (by have:=HX.out.size;have:=HB0.out;omega) Ha.out.2.1
    have HX:=hdn <| HX.out.trans (hbm.mono (by have:=HX.out.size;have:=HB0.out;omega))
    clear hbm
    generalize x0.alloc (.cells Ma 72)=y1 at *
    generalize x0.heap.size=g0 at HO ⊢
    have hS_y1:y1.cell? ⟨w.heap.size,0,none⟩=some (.slice xo vl.length cx):=(HX.out.cell (p:=⟨w.heap.size,0,none⟩) (by have:=blk_lt HQ.out.p;have:=HB0.out;show w.heap.size < B0;omega)).trans hS0
    refine hK.out _ _ hS_y1 (fun hS=>?_)
    refine rd2 7 9 (by kernel_rfl) rfl rfl (fun K hK=>?_) (fun K hK=>?_)
    ·refine step_app _ rfl (.tmp 15) (.tmp 17) 35 rfl B0 72 ia (.agg #[.int .i64 0,.int .i64 0,.int .i64 0]) 3 24 Tryz.underlying35 hia hza0 hza1 hza2 rfl (by decide) (.slice (some ⟨g0,0,none⟩) 0 (vl.length+3)) 0 [] (by simp [Act.eval]) HO.out xo vl.length cx (vF vl) (by simp [Act.eval]) Ha.out.2.2.1.1 Ha.out.2.2.1.2 (vals_src (HV.out.below (by have:=HX.out;rw [HB0.out] at this;exact this))) (vF_one _) (by have:=Ha.out.2.1;unfold maxLen;omega) (by have:=Ha.out.2.1;omega) (by have:=HX.out.size;have:=HB0.out;omega) ?_
     intro v1 y2 ho1 hg1 hw1
     try rw [Nat.zero_add] at ho1
     have HX2:Hid (Below B0 x0 y2):=HX.out.grown hg1 (by have:=HX.out.size;have:=HB0.out;omega) (fun q e=>(World.ownsRow.lt HO.out q e).1)
     have HO:Hid (y2.ownsRow B0 72 3 v1 vl.length (vF vl)):=ho1
     have HX:=HX2
     clear ho1 hg1 hw1 HX2
     have hS_y2:y2.cell? ⟨w.heap.size,0,none⟩=some (.slice xo vl.length cx):=(HX.out.cell (p:=⟨w.heap.size,0,none⟩) (by have:=blk_lt HQ.out.p;have:=HB0.out;show w.heap.size < B0;omega)).trans hS0
     refine hK.out _ _ hS_y2 (fun hS=>?_)
     refine rd1 9 rfl fun K hK=>?_
     go_simp
     have hbm:Below y2.heap.size y2 (y2.alloc (.cells #[.int .i64 (-77),.int .i64 0,.int .i64 0] 72)):=bAl y2 _
     have hnew:=heap_alloc_new y2 (.cells #[.int .i64 (-77),.int .i64 0,.int .i64 0] 72)
     have HMk:Hid ((y2.alloc (.cells #[.int .i64 (-77),.int .i64 0,.int .i64 0] 72)).heap[y2.heap.size]?=some (.cells #[.int .i64 (-77),.int .i64 0,.int .i64 0] 72 (0,0))):=hnew
     have HO:=hdn <| own_below HO.out hbm
     have HX:=hdn <| HX.out.trans (hbm.mono (by have:=HX.out.size;have:=HB0.out;omega))
     clear hbm hnew
     generalize y2.alloc (.cells #[.int .i64 (-77),.int .i64 0,.int .i64 0] 72)=y3 at *
     generalize y2.heap.size=bm at HMk ⊢
     have hS_y3:y3.cell? ⟨w.heap.size,0,none⟩=some (.slice xo vl.length cx):=(HX.out.cell (p:=⟨w.heap.size,0,none⟩) (by have:=blk_lt HQ.out.p;have:=HB0.out;show w.heap.size < B0;omega)).trans hS0
     refine hK.out _ _ hS_y3 (fun hS=>?_)
     refine rd1 10 rfl fun K hK=>?_
     refine step_app _ rfl (.tmp 18) (.tmp 20) 35 rfl B0 72 ia (.agg #[.int .i64 0,.int .i64 0,.int .i64 0]) 3 24 Tryz.underlying35 hia hza0 hza1 hza2 rfl (by decide) v1 vl.length (vF vl) (by simp [Act.eval]) HO.out (some ⟨bm,0,none⟩) 1 1 [.int .i64 (-77),.int .i64 0,.int .i64 0] (by simp [Act.eval]) rfl (fun e=>by cases e) (fun ad e j u hu=>by cases e;exact Lib.cells_of_row HMk.out 3 j u (by simpa using hu)) (by intro u hu;simp only [List.mem_cons,List.not_mem_nil,or_false] at hu;rcases hu with rfl | rfl | rfl<;>rfl) (by have:=Ha.out.2.1;unfold maxLen;omega) (by have:=Ha.out.2.1;omega) (by have:=HX.out.size;have:=HB0.out;omega) ?_
     intro v2 y9 ho2 hg2 hw2
     have HX2:Hid (Below B0 x0 y9):=HX.out.grown hg2 (by have:=HX.out.size;have:=HB0.out;omega) (fun q e=>(World.ownsRow.lt HO.out q e).1)
     obtain ⟨g,cp,rfl,hcap,hcm⟩:=own_some ho2 (Nat.succ_pos _)
     have HO2:Hid (y9.ownsRow B0 72 3 (.slice (some ⟨g,0,none⟩) (vl.length+1) cp) (vl.length+1) (vF vl++[.int .i64 (-77),.int .i64 0,.int .i64 0])):=ho2
     have HX:=HX2
     have hc1:(vl.length:Int)<=(cp:Int):=by omega
     have hc3:vl.length<=cp:=by omega
     have hc4:(cp:Int)<=9223372036854775807:=by unfold maxLen at hcm;omega
     clear ho2 hg2 hw2 HX2 hcm
     have hS_y9:y9.cell? ⟨w.heap.size,0,none⟩=some (.slice xo vl.length cx):=(HX.out.cell (p:=⟨w.heap.size,0,none⟩) (by have:=blk_lt HQ.out.p;have:=HB0.out;show w.heap.size < B0;omega)).trans hS0
     have hq9:=(HX.out.block _ (by have:=blk_lt HQ.out.q;have:=HB0.out;omega)).trans HQ.out.q
     have m0:y9.cell? ⟨qb,0,none⟩=some pz:=by rw [World.cell?,hq9];rfl
     have m1:y9.frozen? ⟨qb,0,none⟩=false:=fzb hq9 0
     clear hq9
     refine hK.out _ _ hS_y9 (fun hS=>?_)
     refine rd1 14 rfl fun K hK=>?_
     go_simp
     refine hK.out _ _ hS_y9 (fun hS=>?_)
     refine rd1 15 rfl fun K hK=>?_
     go_simp
     refine hK.out _ _ hS_y9 (fun hS=>?_)
     refine rd1 16 rfl fun K hK=>?_
     go_simp
     have hX9:=HX.out
     have hO9:=HO2.out
     rw [HB0.out] at hX9 hO9
     have hLt:=HQ.out.put hX9 hO9 0 (.slice (some ⟨g,0,none⟩) vl.length cp)
     have hS_z:(y9.setCell ⟨qb,0,none⟩ (.slice (some ⟨g,0,none⟩) vl.length cp)).cell? ⟨w.heap.size,0,none⟩=some (.slice xo vl.length cx):=hLt.cellp 0 _ rfl
     have HLt:=hdn <| hLt
     clear hLt hX9 hO9
     refine hK.out _ _ hS_z (fun hS=>?_)
     refine wpAnyH_done (by kernel_rfl) ?_ _
     go_wp2_with fail
     go_meet
     case rel=>exact ⟨rfl,g,cp,hcap,HLt.out⟩
    ·go_simp
     have hbm:Below y1.heap.size y1 (y1.alloc (.cells #[.int .i64 (-77),.int .i64 0,.int .i64 0] 72)):=bAl y1 _
     have hnew:=heap_alloc_new y1 (.cells #[.int .i64 (-77),.int .i64 0,.int .i64 0] 72)
     have HMk:Hid ((y1.alloc (.cells #[.int .i64 (-77),.int .i64 0,.int .i64 0] 72)).heap[y1.heap.size]?=some (.cells #[.int .i64 (-77),.int .i64 0,.int .i64 0] 72 (0,0))/\y1.heap.size ≠ g0):=⟨hnew,by have:=(World.ownsRow.lt HO.out g0 rfl).2;omega⟩
     have HO:=hdn <| own_below HO.out hbm
     have HX:=hdn <| HX.out.trans (hbm.mono (by have:=HX.out.size;have:=HB0.out;omega))
     clear hbm hnew
     generalize y1.alloc (.cells #[.int .i64 (-77),.int .i64 0,.int .i64 0] 72)=y2 at *
     generalize y1.heap.size=bm at HMk ⊢
     have hS_y2:y2.cell? ⟨w.heap.size,0,none⟩=some (.slice xo vl.length cx):=(HX.out.cell (p:=⟨w.heap.size,0,none⟩) (by have:=blk_lt HQ.out.p;have:=HB0.out;show w.heap.size < B0;omega)).trans hS0
     refine hK.out _ _ hS_y2 (fun hS=>?_)
     refine rd1 7 rfl fun K hK=>?_
     refine step_app _ rfl (.tmp 15) (.tmp 17) 35 rfl B0 72 ia (.agg #[.int .i64 0,.int .i64 0,.int .i64 0]) 3 24 Tryz.underlying35 hia hza0 hza1 hza2 rfl (by decide) (.slice (some ⟨g0,0,none⟩) 0 (vl.length+3)) 0 [] (by simp [Act.eval]) HO.out xo vl.length cx (vF vl) (by simp [Act.eval]) Ha.out.2.2.1.1 Ha.out.2.2.1.2 (vals_src (HV.out.below (by have:=HX.out;rw [HB0.out] at this;exact this))) (vF_one _) (by have:=Ha.out.2.1;unfold maxLen;omega) (by have:=Ha.out.2.1;omega) (by have:=HX.out.size;have:=HB0.out;omega) ?_
     intro v1 y3 ho1 hg1 hw1
     try rw [Nat.zero_add] at ho1
     have HX2:Hid (Below B0 x0 y3):=HX.out.grown hg1 (by have:=HX.out.size;have:=HB0.out;omega) (fun q e=>(World.ownsRow.lt HO.out q e).1)
     have HMk:Hid (y3.heap[bm]?=some (.cells #[.int .i64 (-77),.int .i64 0,.int .i64 0] 72 (0,0))):=(hg1.block bm (blk_lt HMk.out.1) (fun e=>HMk.out.2 (by cases e;rfl))).trans HMk.out.1
     have HO:Hid (y3.ownsRow B0 72 3 v1 vl.length (vF vl)):=ho1
     have HX:=HX2
     clear ho1 hg1 hw1 HX2
     have hS_y3:y3.cell? ⟨w.heap.size,0,none⟩=some (.slice xo vl.length cx):=(HX.out.cell (p:=⟨w.heap.size,0,none⟩) (by have:=blk_lt HQ.out.p;have:=HB0.out;show w.heap.size < B0;omega)).trans hS0
     refine hK.out _ _ hS_y3 (fun hS=>?_)
     refine rd1 10 rfl fun K hK=>?_
     refine step_app _ rfl (.tmp 18) (.tmp 20) 35 rfl B0 72 ia (.agg #[.int .i64 0,.int .i64 0,.int .i64 0]) 3 24 Tryz.underlying35 hia hza0 hza1 hza2 rfl (by decide) v1 vl.length (vF vl) (by simp [Act.eval,Act.put]) HO.out (some ⟨bm,0,none⟩) 1 1 [.int .i64 (-77),.int .i64 0,.int .i64 0] (by simp [Act.eval,Act.put]) rfl (fun e=>by cases e) (fun ad e j u hu=>by cases e;exact Lib.cells_of_row HMk.out 3 j u (by simpa using hu)) (by intro u hu;simp only [List.mem_cons,List.not_mem_nil,or_false] at hu;rcases hu with rfl | rfl | rfl<;>rfl) (by have:=Ha.out.2.1;unfold maxLen;omega) (by have:=Ha.out.2.1;omega) (by have:=HX.out.size;have:=HB0.out;omega) ?_
     intro v2 y9 ho2 hg2 hw2
     have HX2:Hid (Below B0 x0 y9):=HX.out.grown hg2 (by have:=HX.out.size;have:=HB0.out;omega) (fun q e=>(World.ownsRow.lt HO.out q e).1)
     obtain ⟨g,cp,rfl,hcap,hcm⟩:=own_some ho2 (Nat.succ_pos _)
     have HO2:Hid (y9.ownsRow B0 72 3 (.slice (some ⟨g,0,none⟩) (vl.length+1) cp) (vl.length+1) (vF vl++[.int .i64 (-77),.int .i64 0,.int .i64 0])):=ho2
     have HX:=HX2
     have hc1:(vl.length:Int)<=(cp:Int):=by omega
     have hc3:vl.length<=cp:=by omega
     have hc4:(cp:Int)<=9223372036854775807:=by unfold maxLen at hcm;omega
     clear ho2 hg2 hw2 HX2 hcm
     have hS_y9:y9.cell? ⟨w.heap.size,0,none⟩=some (.slice xo vl.length cx):=(HX.out.cell (p:=⟨w.heap.size,0,none⟩) (by have:=blk_lt HQ.out.p;have:=HB0.out;show w.heap.size < B0;omega)).trans hS0
     have hq9:=(HX.out.block _ (by have:=blk_lt HQ.out.q;have:=HB0.out;omega)).trans HQ.out.q
     have m0:y9.cell? ⟨qb,0,none⟩=some pz:=by rw [World.cell?,hq9];rfl
     have m1:y9.frozen? ⟨qb,0,none⟩=false:=fzb hq9 0
     clear hq9
     refine hK.out _ _ hS_y9 (fun hS=>?_)
     refine rd1 14 rfl fun K hK=>?_
     go_simp
     refine hK.out _ _ hS_y9 (fun hS=>?_)
     refine rd1 15 rfl fun K hK=>?_
     go_simp
     refine hK.out _ _ hS_y9 (fun hS=>?_)
     refine rd1 16 rfl fun K hK=>?_
     go_simp
     have hX9:=HX.out
     have hO9:=HO2.out
     rw [HB0.out] at hX9 hO9
     have hLt:=HQ.out.put hX9 hO9 0 (.slice (some ⟨g,0,none⟩) vl.length cp)
     have hS_z:(y9.setCell ⟨qb,0,none⟩ (.slice (some ⟨g,0,none⟩) vl.length cp)).cell? ⟨w.heap.size,0,none⟩=some (.slice xo vl.length cx):=hLt.cellp 0 _ rfl
     have HLt:=hdn <| hLt
     clear hLt hX9 hO9
     refine hK.out _ _ hS_z (fun hS=>?_)
     refine wpAnyH_done (by kernel_rfl) ?_ _
     go_wp2_with fail
     go_meet
     case rel=>exact ⟨rfl,g,cp,hcap,HLt.out⟩
   ·have HX:Hid (Below B0 x0 x0):=Below.refl _ _
    go_simp
    have hbm:Below x0.heap.size x0 (x0.alloc (.cells #[.int .i64 (-77),.int .i64 0,.int .i64 0] 72)):=bAl x0 _
    have hnew:=heap_alloc_new x0 (.cells #[.int .i64 (-77),.int .i64 0,.int .i64 0] 72)
    have HMk:Hid ((x0.alloc (.cells #[.int .i64 (-77),.int .i64 0,.int .i64 0] 72)).heap[x0.heap.size]?=some (.cells #[.int .i64 (-77),.int .i64 0,.int .i64 0] 72 (0,0))):=hnew
    have HX:=hdn <| HX.out.trans (hbm.mono (by have:=HX.out.size;have:=HB0.out;omega))
    clear hbm hnew
    generalize x0.alloc (.cells #[.int .i64 (-77),.int .i64 0,.int .i64 0] 72)=y1 at *
    generalize x0.heap.size=bm at HMk ⊢
    have hS_y1:y1.cell? ⟨w.heap.size,0,none⟩=some (.slice xo vl.length cx):=(HX.out.cell (p:=⟨w.heap.size,0,none⟩) (by have:=blk_lt HQ.out.p;have:=HB0.out;show w.heap.size < B0;omega)).trans hS0
    refine hK.out _ _ hS_y1 (fun hS=>?_)
    refine rd1 4 rfl fun K hK=>?_
    go_simp
    have hbm:Below y1.heap.size y1 (y1.alloc (.cells Ma 72)):=bAl y1 _
    have HO:Hid ((y1.alloc (.cells Ma 72)).ownsRow B0 72 3 (.slice (some ⟨y1.heap.size,0,none⟩) 0 (vl.length+3)) 0 []):=own_made Ha.out.2.2.2 (by have:=HX.out.size;have:=HB0.out;omega) Ha.out.2.1
    have HX:=hdn <| HX.out.trans (hbm.mono (by have:=HX.out.size;have:=HB0.out;omega))
    have HMk:Hid ((y1.alloc (.cells Ma 72)).heap[bm]?=some (.cells #[.int .i64 (-77),.int .i64 0,.int .i64 0] 72 (0,0))/\bm ≠ y1.heap.size):=⟨(hbm.block _ (blk_lt HMk.out)).trans HMk.out,by have:=blk_lt HMk.out;omega⟩
    clear hbm
    generalize y1.alloc (.cells Ma 72)=y2 at *
    generalize y1.heap.size=g0 at HO HMk ⊢
    have hS_y2:y2.cell? ⟨w.heap.size,0,none⟩=some (.slice xo vl.length cx):=(HX.out.cell (p:=⟨w.heap.size,0,none⟩) (by have:=blk_lt HQ.out.p;have:=HB0.out;show w.heap.size < B0;omega)).trans hS0
    refine hK.out _ _ hS_y2 (fun hS=>?_)
    refine rd1 7 rfl fun K hK=>?_
    refine step_app _ rfl (.tmp 15) (.tmp 17) 35 rfl B0 72 ia (.agg #[.int .i64 0,.int .i64 0,.int .i64 0]) 3 24 Tryz.underlying35 hia hza0 hza1 hza2 rfl (by decide) (.slice (some ⟨g0,0,none⟩) 0 (vl.length+3)) 0 [] (by simp [Act.eval]) HO.out xo vl.length cx (vF vl) (by simp [Act.eval]) Ha.out.2.2.1.1 Ha.out.2.2.1.2 (vals_src (HV.out.below (by have:=HX.out;rw [HB0.out] at this;exact this))) (vF_one _) (by have:=Ha.out.2.1;unfold maxLen;omega) (by have:=Ha.out.2.1;omega) (by have:=HX.out.size;have:=HB0.out;omega) ?_
    intro v1 y3 ho1 hg1 hw1
    try rw [Nat.zero_add] at ho1
    have HX2:Hid (Below B0 x0 y3):=HX.out.grown hg1 (by have:=HX.out.size;have:=HB0.out;omega) (fun q e=>(World.ownsRow.lt HO.out q e).1)
    have HMk:Hid (y3.heap[bm]?=some (.cells #[.int .i64 (-77),.int .i64 0,.int .i64 0] 72 (0,0))):=(hg1.block bm (blk_lt HMk.out.1) (fun e=>HMk.out.2 (by cases e;rfl))).trans HMk.out.1
    have HO:Hid (y3.ownsRow B0 72 3 v1 vl.length (vF vl)):=ho1
    have HX:=HX2
    clear ho1 hg1 hw1 HX2
    have hS_y3:y3.cell? ⟨w.heap.size,0,none⟩=some (.slice xo vl.length cx):=(HX.out.cell (p:=⟨w.heap.size,0,none⟩) (by have:=blk_lt HQ.out.p;have:=HB0.out;show w.heap.size < B0;omega)).trans hS0
    refine hK.out _ _ hS_y3 (fun hS=>?_)
    refine rd1 10 rfl fun K hK=>?_
    refine step_app _ rfl (.tmp 18) (.tmp 20) 35 rfl B0 72 ia (.agg #[.int .i64 0,.int .i64 0,.int .i64 0]) 3 24 Tryz.underlying35 hia hza0 hza1 hza2 rfl (by decide) v1 vl.length (vF vl) (by simp [Act.eval,Act.put]) HO.out (some ⟨bm,0,none⟩) 1 1 [.int .i64 (-77),.int .i64 0,.int .i64 0] (by simp [Act.eval,Act.put]) rfl (fun e=>by cases e) (fun ad e j u hu=>by cases e;exact Lib.cells_of_row HMk.out 3 j u (by simpa using hu)) (by intro u hu;simp only [List.mem_cons,List.not_mem_nil,or_false] at hu;rcases hu with rfl | rfl | rfl<;>rfl) (by have:=Ha.out.2.1;unfold maxLen;omega) (by have:=Ha.out.2.1;omega) (by have:=HX.out.size;have:=HB0.out;omega) ?_
    intro v2 y9 ho2 hg2 hw2
    have HX2:Hid (Below B0 x0 y9):=HX.out.grown hg2 (by have:=HX.out.size;have:=HB0.out;omega) (fun q e=>(World.ownsRow.lt HO.out q e).1)
    obtain ⟨g,cp,rfl,hcap,hcm⟩:=own_some ho2 (Nat.succ_pos _)
    have HO2:Hid (y9.ownsRow B0 72 3 (.slice (some ⟨g,0,none⟩) (vl.length+1) cp) (vl.length+1) (vF vl++[.int .i64 (-77),.int .i64 0,.int .i64 0])):=ho2
    have HX:=HX2
    have hc1:(vl.length:Int)<=(cp:Int):=by omega
    have hc3:vl.length<=cp:=by omega
    have hc4:(cp:Int)<=9223372036854775807:=by unfold maxLen at hcm;omega
    clear ho2 hg2 hw2 HX2 hcm
    have hS_y9:y9.cell? ⟨w.heap.size,0,none⟩=some (.slice xo vl.length cx):=(HX.out.cell (p:=⟨w.heap.size,0,none⟩) (by have:=blk_lt HQ.out.p;have:=HB0.out;show w.heap.size < B0;omega)).trans hS0
    have hq9:=(HX.out.block _ (by have:=blk_lt HQ.out.q;have:=HB0.out;omega)).trans HQ.out.q
    have m0:y9.cell? ⟨qb,0,none⟩=some pz:=by rw [World.cell?,hq9];rfl
    have m1:y9.frozen? ⟨qb,0,none⟩=false:=fzb hq9 0
    clear hq9
    refine hK.out _ _ hS_y9 (fun hS=>?_)
    refine rd1 14 rfl fun K hK=>?_
    go_simp
    refine hK.out _ _ hS_y9 (fun hS=>?_)
    refine rd1 15 rfl fun K hK=>?_
    go_simp
    refine hK.out _ _ hS_y9 (fun hS=>?_)
    refine rd1 16 rfl fun K hK=>?_
    go_simp
    have hX9:=HX.out
    have hO9:=HO2.out
    rw [HB0.out] at hX9 hO9
    have hLt:=HQ.out.put hX9 hO9 0 (.slice (some ⟨g,0,none⟩) vl.length cp)
    have hS_z:(y9.setCell ⟨qb,0,none⟩ (.slice (some ⟨g,0,none⟩) vl.length cp)).cell? ⟨w.heap.size,0,none⟩=some (.slice xo vl.length cx):=hLt.cellp 0 _ rfl
    have HLt:=hdn <| hLt
    clear hLt hX9 hO9
    refine hK.out _ _ hS_z (fun hS=>?_)
    refine wpAnyH_done (by kernel_rfl) ?_ _
    go_wp2_with fail
    go_meet
    case rel=>exact ⟨rfl,g,cp,hcap,HLt.out⟩
  case rest=>
   obtain ⟨rfl,gv,cv,hcv,hLt⟩:=hcut
   have HQ:=hdn <| hLt
   obtain ⟨k0,k1,k2⟩:=cells3 hLt.q
   obtain ⟨r0,r1,r2⟩:=cells3 hLt.r
   have z0:=zero8f hLt.r 0
   have z1:=zero8f hLt.r 1
   have z2:=zero8f hLt.r 2
   clear hLt
   go_wp2_with fail
   obtain ⟨x1,x2,x3⟩:=put3L (B:=w.heap.size+1) (v0:=.slice (some ⟨gv,0,none⟩) vl.length cv) (v1:=.slice (some ⟨gt,0,none⟩) tg.length ct) (v2:=.slice (some ⟨gr,0,none⟩) rd.length cr) HQ.out.b (Nat.le_succ _) HQ.out.r
   obtain ⟨y0,y1,y2⟩:=cells3 x1
   refine bodyPost_ret (v:=.agg #[.slice (some ⟨gv,0,none⟩) vl.length cv,.slice (some ⟨gt,0,none⟩) tg.length ct,.slice (some ⟨gr,0,none⟩) rd.length cr]) (by simp [results,Tryz.results8,go_sem,y0,y1,y2]) rfl ?_
   refine ⟨gv,cv,gt,ct,gr,cr,rfl,⟨fun o ho=>?_,HQ.out.dis⟩,x2⟩
   have h1:=HQ.out.own o ho
   exact own_base (own_keepB h1 (fun k hk=>x3 k (by have:=(World.ownsRow.lt h1 k hk).1;omega))) (by omega)
end Go.Proofs.YthbnjhamfcefkaaGreat.Nm
