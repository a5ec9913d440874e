import Derived.Test.YtfgpbdieaflclaaGreatK16
set_option maxHeartbeats 25600000
set_option maxRecDepth 100000
namespace Go.Proofs.YtfgpbdieaflclaaGreat.Nm
open Go.RowKit Go.Maps Sp Lx Gr
abbrev aC (dd qq hq:Nat):Array Value:=#[.func (.func (askF 0)) #[] #[ptr0 dd,ptr0 (dd+1),ptr0 (dd+3)],.func (.func (askF 1)) #[] #[ptr0 qq,ptr0 (qq+1)],.func (.func (askF 2)) #[] #[ptr0 hq,ptr0 (hq+1)]]
def Told (w:World) (r:Except (Nat × Nat) Pl) (e:Ending) (w':World):Prop:=Below w.heap.size w w'/\match r with
 | .error ci=>e=.returned (.tuple #[.agg #[.string ⟨#[]⟩,pz,pz,pz,pz,pz,pz,.int .i64 0],.agg #[.int .i64 (ci.1:Int),.int .i64 (ci.2:Int)]])
 | .ok p=>∃ v,e=.returned (.tuple #[v,.agg #[.int .i64 0,.int .i64 0]])/\IsPl w' w.heap.size v p
theorem chk_ok {l:List Rz} (h:(chk l).1=0):chk l=(0,0)/\(wrong [ab1] 0 l).2=false:=by
 unfold chk at h ⊢
 split at h
 ·cases h
 ·rename_i h1
  split at h
  ·cases h
  ·rename_i h2
   exact ⟨by rw [if_neg h1,if_neg h2],by simpa using h1⟩
structure Md (w wx:World) (l:List Rz) (nm:ByteArray) (pb rb rc:Nat):Prop where
 r:Rsl w wx
 p:wx.heap[pb]?=some (.cells #[.string nm,.slice (some ⟨rb,0,none⟩) l.length rc,pz,pz,pz,pz,pz,.int .i64 0] 28 (0,0))
 rw:Rw wx rb l
 l1:w.heap.size+1 < pb/\w.heap.size+1 < rb
theorem Md.sg {w wx:World} {l:List Rz} {nm:ByteArray} {pb rb rc:Nat} (h:Md w wx l nm pb rb rc):Sg w ((wx.alloc (.map #[] 0)).alloc (.map #[] 0)) l nm pb rb rc wx.heap.size (wx.heap.size+1) 0 0 0 0:=by
 have hb:Below wx.heap.size wx ((wx.alloc (.map #[] 0)).alloc (.map #[] 0)):=(bAl wx _).alloc (by simp) _
 have hl:∀ {k:Nat} {x:Obj},wx.heap[k]?=some x->((wx.alloc (.map #[] 0)).alloc (.map #[] 0)).heap[k]?=some x:=fun hk=>(hb.block _ (blk_lt hk)).trans hk
 have k1:=(IsMp.made kmap wx).same (alloc_old (wx.alloc (.map #[] 0)) (.map #[] 0) wx.heap.size (by simp))
 have k2:=IsMp.made bmap (wx.alloc (.map #[] 0))
 have e:(wx.alloc (.map #[] 0)).heap.size=wx.heap.size+1:=by simp
 rw [e] at k2
 exact ⟨h.r.below hb,hl h.p,h.rw.same (hb.block _ h.rw.lt),k1,k2,⟨h.l1.1,h.l1.2,blk_lt h.p,h.rw.lt,Nat.lt_succ_self _⟩,fun hn=>by omega,fun hn=>by omega,fun hn=>by omega⟩
theorem put8 {w wx:World} {B:Nat} {v0 v1:Value} (hR:Rsl w wx) (hB:w.heap.size+1 < B) (hz:wx.heap[B]?=some (.cells #[.string ⟨#[]⟩,pz,pz,pz,pz,pz,pz,.int .i64 0] 28 (0,0))):((((((((wx.setCell ⟨B,0,none⟩ v0).setCell ⟨B,1,none⟩ v1).setCell ⟨B,2,none⟩ pz).setCell ⟨B,3,none⟩ pz).setCell ⟨B,4,none⟩ pz).setCell ⟨B,5,none⟩ pz).setCell ⟨B,6,none⟩ pz).setCell ⟨B,7,none⟩ (.int .i64 0)).heap[B]?=some (.cells #[v0,v1,pz,pz,pz,pz,pz,.int .i64 0] 28 (0,0))/\Rsl w ((((((((wx.setCell ⟨B,0,none⟩ v0).setCell ⟨B,1,none⟩ v1).setCell ⟨B,2,none⟩ pz).setCell ⟨B,3,none⟩ pz).setCell ⟨B,4,none⟩ pz).setCell ⟨B,5,none⟩ pz).setCell ⟨B,6,none⟩ pz).setCell ⟨B,7,none⟩ (.int .i64 0))/\∀ k,k ≠ B->((((((((wx.setCell ⟨B,0,none⟩ v0).setCell ⟨B,1,none⟩ v1).setCell ⟨B,2,none⟩ pz).setCell ⟨B,3,none⟩ pz).setCell ⟨B,4,none⟩ pz).setCell ⟨B,5,none⟩ pz).setCell ⟨B,6,none⟩ pz).setCell ⟨B,7,none⟩ (.int .i64 0)).heap[k]?=wx.heap[k]?:=by
 have h0:=set_at hz v0 (cs':=#[v0,pz,pz,pz,pz,pz,pz,.int .i64 0]) (i:=0) rfl
 have h1:=set_at h0 v1 (cs':=#[v0,v1,pz,pz,pz,pz,pz,.int .i64 0]) (i:=1) rfl
 have h2:=set_at h1 pz (cs':=#[v0,v1,pz,pz,pz,pz,pz,.int .i64 0]) (i:=2) rfl
 have h3:=set_at h2 pz (cs':=#[v0,v1,pz,pz,pz,pz,pz,.int .i64 0]) (i:=3) rfl
 have h4:=set_at h3 pz (cs':=#[v0,v1,pz,pz,pz,pz,pz,.int .i64 0]) (i:=4) rfl
 have h5:=set_at h4 pz (cs':=#[v0,v1,pz,pz,pz,pz,pz,.int .i64 0]) (i:=5) rfl
 have h6:=set_at h5 pz (cs':=#[v0,v1,pz,pz,pz,pz,pz,.int .i64 0]) (i:=6) rfl
 have h7:=set_at h6 (.int .i64 0) (cs':=#[v0,v1,pz,pz,pz,pz,pz,.int .i64 0]) (i:=7) rfl
 have hne:∀ k,k ≠ B->((((((((wx.setCell ⟨B,0,none⟩ v0).setCell ⟨B,1,none⟩ v1).setCell ⟨B,2,none⟩ pz).setCell ⟨B,3,none⟩ pz).setCell ⟨B,4,none⟩ pz).setCell ⟨B,5,none⟩ pz).setCell ⟨B,6,none⟩ pz).setCell ⟨B,7,none⟩ (.int .i64 0)).heap[k]?=wx.heap[k]?:=fun k hk=>by
  have hp:∀ (u:World) (i:Nat) (v:Value),(u.setCell ⟨B,i,none⟩ v).heap[k]?=u.heap[k]?:=fun u i v=>Below.heap_setCell u _ v _ (fun e=>hk e)
  rw [hp,hp,hp,hp,hp,hp,hp,hp]
 exact ⟨h7,⟨(hne _ (by omega)).trans hR.p,(hne _ (by omega)).trans hR.f,(below_set (below_set (below_set (below_set (below_set (below_set (below_set (below_set hR.b (by omega) 0 v0) (by omega) 1 v1) (by omega) 2 pz) (by omega) 3 pz) (by omega) 4 pz) (by omega) 5 pz) (by omega) 6 pz) (by omega) 7 (.int .i64 0))⟩,hne⟩
theorem zero8 {u:World} {B:Nat} (h:u.heap[B]?=some (.cells #[.string ⟨#[]⟩,pz,pz,pz,pz,pz,pz,.int .i64 0] 28 (0,0))):u.cell? ⟨B,0,none⟩=some (.string ⟨#[]⟩)/\u.cell? ⟨B,1,none⟩=some pz/\u.cell? ⟨B,2,none⟩=some pz/\u.cell? ⟨B,3,none⟩=some pz/\u.cell? ⟨B,4,none⟩=some pz/\u.cell? ⟨B,5,none⟩=some pz/\u.cell? ⟨B,6,none⟩=some pz/\u.cell? ⟨B,7,none⟩=some (.int .i64 0):=by
 refine ⟨?_,?_,?_,?_,?_,?_,?_,?_⟩
 all_goals
  simp only [World.cell?,h]
  rfl
theorem zero8f {u:World} {B:Nat} {cs:Array Value} {T:TypeId} (h:u.heap[B]?=some (.cells cs T (0,0))) (j:Nat):u.frozen? ⟨B,j,none⟩=false:=by simp [World.frozen?,h]
theorem resolve_yes {w:World} {ao:Option Addr} {l:List Rz} {cap:Nat} (h:IsRz w ao l) (hl:l.length<=2932031007317) (hc:(chk l).1=0):
  Calls Tryz.prog 35 #[.slice ao l.length cap] w (Told w (resR (rat l 0).name (upto (start l) l.length))):=by
 obtain ⟨hc1,hc2⟩:=chk_ok hc
 have HBs:Hid (Base l):=base_of hc2
 have hb1:Below w.heap.size w ((w.alloc (.cells #[.string ⟨#[]⟩,pz,pz,pz,pz,pz,pz,.int .i64 0] 28)).alloc (.cells #[.int .i64 0,.int .i64 0] 31)):=(bAl w _).alloc (by simp) _
 have HR:Hid (Rsl w ((w.alloc (.cells #[.string ⟨#[]⟩,pz,pz,pz,pz,pz,pz,.int .i64 0] 28)).alloc (.cells #[.int .i64 0,.int .i64 0] 31))):=⟨by rw [alloc_old _ _ _ (by simp)];exact alloc_at _ _ _ rfl,alloc_at _ _ _ (by simp),hb1⟩
 have HC:=hdn <| check_any ao l cap _ (h.below hb1) hl
 rw [hc1] at HC
 dsimp only at HC
 obtain ⟨g,o,rfl,hg,_,d0,_⟩:=h 0 _ (some_rat HBs.out.pos)
 have HI:Hid (IsRz w (some ⟨g,o,none⟩) l/\l.length<=2932031007317/\g < w.heap.size):=⟨h,hl,hg⟩
 have hposN:0 < l.length:=HBs.out.pos
 have d1:w.cell? ⟨g,o+1,none⟩=some (.string (rat l 0).name):=by simpa using d0
 clear d0
 generalize (rat l 0).name=nm at *
 generalize hU:upto (start l) l.length=U at *
 have HU:Hid (upto (start l) l.length=U):=hU
 have hmk1:∀ u:World,(Instr.makeMap 86 none).run Tryz.prog u=.ok (.map (some u.heap.size)) (u.alloc (.map #[] 0)):=fun u=>by kernel_rfl
 have hmk2:∀ u:World,(Instr.makeMap 87 none).run Tryz.prog u=.ok (.map (some u.heap.size)) (u.alloc (.map #[] 0)):=fun u=>by kernel_rfl
 clear hc hc1 hc2 h hl hg hU
 go_enter Tryz.func35,Tryz.ntmps35
 go_wp2_with fail
 refine Calls.mono HC.out ?_
 rintro e w1 ⟨rfl,hB1⟩
 have HR2:=hdn <| (HR.out.below hB1).below (bAl w1 (.cells #[.int .i64 0,.int .i64 0] 31))
 clear hb1 hB1 HR HC
 go_wp2_with fail
 generalize w1.alloc (.cells #[.int .i64 0,.int .i64 0] 31)=w2 at *
 generalize w1.heap.size=fb at *
 go_cut [5] (fun s5 wx=>∃ pb rb rc:Nat,s5=.pointer (some ⟨pb,0,none⟩)/\Md w wx l nm pb rb rc)
 case first=>
  have d2:w2.drew.cell? ⟨g,o+1,none⟩=some (.string nm):=(HR2.out.b.drew.cell (p:=⟨g,o+1,none⟩) HI.out.2.2).trans d1
  refine wp_region_held (S:=fun w'=>w'.cell? ⟨g,o+1,none⟩=some (.string nm)) (by kernel_rfl) ?_
  have hS:(fun w':World=>w'.cell? ⟨g,o+1,none⟩=some (.string nm)) w2.drew:=d2
  change wpAnyH _ _ _ _ _ _ _ _ w2.drew
  refine tq 0 rfl hS ?_
  refine tq 1 rfl hS ?_
  refine tq 2 rfl hS ?_
  refine tq 3 rfl hS ?_
  refine tq 4 rfl hS ?_
  have HR3:=hdn <| HR2.out.below (Below.refl _ w2).drew
  generalize w2.drew=w3 at *
  refine rd2 5 7 (by kernel_rfl) rfl rfl (fun K hK=>?_) (fun K hK=>?_)
  ·go_simp
   refine Calls.mono (clone_rows w3 ⟨g,o,none⟩ cap l (HI.out.1.below HR3.out.b) HI.out.2.1) ?_
   rintro e w4 ⟨rb,rc,rfl,hrw,hrb,hb4⟩
   have HR4:=hdn <| HR3.out.below hb4
   have d4:w4.cell? ⟨g,o+1,none⟩=some (.string nm):=(HR4.out.b.cell (p:=⟨g,o+1,none⟩) HI.out.2.2).trans d1
   have d5:(w4.alloc (.cells #[.string ⟨#[]⟩,pz,pz,pz,pz,pz,pz,.int .i64 0] 28)).cell? ⟨g,o+1,none⟩=some (.string nm):=by
    rw [World.cell?_of_block (a:=⟨g,o+1,none⟩) (alloc_old w4 _ g (Nat.lt_of_lt_of_le HI.out.2.2 HR4.out.b.size))]
    exact d4
   have d6:(w4.alloc (.cells #[.string nm,.slice (some ⟨rb,0,none⟩) l.length rc,pz,pz,pz,pz,pz,.int .i64 0] 28)).cell? ⟨g,o+1,none⟩=some (.string nm):=by
    rw [World.cell?_of_block (a:=⟨g,o+1,none⟩) (alloc_old w4 _ g (Nat.lt_of_lt_of_le HI.out.2.2 HR4.out.b.size))]
    exact d4
   have HZ:Hid (Rw w4 rb l/\w3.heap.size<=rb/\Below w3.heap.size w3 w4):=⟨hrw,hrb,hb4⟩
   clear hrw hrb hb4
   refine hK.out _ _ d4 (fun hS=>?_)
   refine rd2 6 7 (by kernel_rfl) rfl rfl (fun K hK=>?_) (fun K hK=>?_)
   rotate_right
   focus
    go_simp
    refine hK.out _ _ d5 (fun hS=>?_)
    refine wpAnyH_ready (rs:=[6]) (by kernel_rfl) (by simp) ?_
   rotate_right
   focus
    go_simp
    refine hK.out _ _ d4 (fun hS=>?_)
    refine wpAnyH_ready (rs:=[7]) (by kernel_rfl) (by simp) ?_
   all_goals
    refine AllReadyH.cons rfl (fun K hK=>?_) AllReadyH.nil
    go_simp
    refine hK.out _ _ d5 (fun hS=>?_)
    refine rd1 8 rfl fun K hK=>?_
    go_simp
    refine hK.out _ _ d6 (fun hS=>?_)
    refine wpAnyH_done (by kernel_rfl) ?_ _
    have hMd:Md w (w4.alloc (.cells #[.string nm,.slice (some ⟨rb,0,none⟩) l.length rc,pz,pz,pz,pz,pz,.int .i64 0] 28)) l nm w4.heap.size rb rc:=by
     have hb:Below w4.heap.size w4 (w4.alloc (.cells #[.string nm,.slice (some ⟨rb,0,none⟩) l.length rc,pz,pz,pz,pz,pz,.int .i64 0] 28)):=bAl w4 _
     have h1:=blk_lt HR4.out.f
     have h2:=blk_lt HR3.out.f
     have h3:=HZ.out.2.1
     exact ⟨HR4.out.below hb,heap_alloc_new w4 _,HZ.out.1.same (hb.block _ HZ.out.1.lt),by omega,by omega⟩
    have HMd:=hdn <| hMd
    clear hMd
    go_wp2_with fail
    go_meet
    case rel=>exact ⟨_,rb,rc,rfl,HMd.out⟩
  ·go_simp
   have hb0:Below w3.heap.size w3 (w3.alloc (.cells #[.string ⟨#[]⟩,pz,pz,pz,pz,pz,pz,.int .i64 0] 28)):=bAl w3 _
   have HRA:=hdn <| HR3.out.below hb0
   have HN:Hid ((w3.alloc (.cells #[.string ⟨#[]⟩,pz,pz,pz,pz,pz,pz,.int .i64 0] 28)).heap[w3.heap.size]?=some (.cells #[.string ⟨#[]⟩,pz,pz,pz,pz,pz,pz,.int .i64 0] 28 (0,0))/\w.heap.size+1 < w3.heap.size):=⟨heap_alloc_new w3 _,blk_lt HR3.out.f⟩
   have dA:(w3.alloc (.cells #[.string ⟨#[]⟩,pz,pz,pz,pz,pz,pz,.int .i64 0] 28)).cell? ⟨g,o+1,none⟩=some (.string nm):=(HRA.out.b.cell (p:=⟨g,o+1,none⟩) HI.out.2.2).trans d1
   clear hb0
   generalize w3.alloc (.cells #[.string ⟨#[]⟩,pz,pz,pz,pz,pz,pz,.int .i64 0] 28)=wA at *
   generalize w3.heap.size=B at *
   refine hK.out _ _ dA (fun hS=>?_)
   refine rd1 5 rfl fun K hK=>?_
   go_simp
   refine Calls.mono (clone_rows wA ⟨g,o,none⟩ cap l (HI.out.1.below HRA.out.b) HI.out.2.1) ?_
   rintro e w4 ⟨rb,rc,rfl,hrw,hrb,hb4⟩
   have HR4:=hdn <| HRA.out.below hb4
   have d4:w4.cell? ⟨g,o+1,none⟩=some (.string nm):=(HR4.out.b.cell (p:=⟨g,o+1,none⟩) HI.out.2.2).trans d1
   have d5:(w4.alloc (.cells #[.string ⟨#[]⟩,pz,pz,pz,pz,pz,pz,.int .i64 0] 28)).cell? ⟨g,o+1,none⟩=some (.string nm):=by
    rw [World.cell?_of_block (a:=⟨g,o+1,none⟩) (alloc_old w4 _ g (Nat.lt_of_lt_of_le HI.out.2.2 HR4.out.b.size))]
    exact d4
   have d6:(w4.alloc (.cells #[.string nm,.slice (some ⟨rb,0,none⟩) l.length rc,pz,pz,pz,pz,pz,.int .i64 0] 28)).cell? ⟨g,o+1,none⟩=some (.string nm):=by
    rw [World.cell?_of_block (a:=⟨g,o+1,none⟩) (alloc_old w4 _ g (Nat.lt_of_lt_of_le HI.out.2.2 HR4.out.b.size))]
    exact d4
   have HZ:Hid (Rw w4 rb l/\wA.heap.size<=rb/\Below wA.heap.size wA w4):=⟨hrw,hrb,hb4⟩
   clear hrw hrb hb4
   refine hK.out _ _ d4 (fun hS=>?_)
   refine rd1 6 rfl fun K hK=>?_
   go_simp
   refine hK.out _ _ d4 (fun hS=>?_)
   have hz4:w4.heap[B]?=some (.cells #[.string ⟨#[]⟩,pz,pz,pz,pz,pz,pz,.int .i64 0] 28 (0,0)):=(HZ.out.2.2.block _ (blk_lt HN.out.1)).trans HN.out.1
   obtain ⟨r0,r1,r2,r3,r4,r5,r6,r7⟩:=zero8 hz4
   have z0:=zero8f hz4 0
   have z1:=zero8f hz4 1
   have z2:=zero8f hz4 2
   have z3:=zero8f hz4 3
   have z4:=zero8f hz4 4
   have z5:=zero8f hz4 5
   have z6:=zero8f hz4 6
   have z7:=zero8f hz4 7
   have HZ4:=hdn <| hz4
   clear hz4
   refine rd1 8 rfl fun K hK=>?_
   go_simp
   obtain ⟨e1,e2,e3⟩:=put8 (v0:=.string nm) (v1:=.slice (some ⟨rb,0,none⟩) l.length rc) HR4.out HN.out.2 HZ4.out
   clear r0 r1 r2 r3 r4 r5 r6 r7 z0 z1 z2 z3 z4 z5 z6 z7
   generalize ((((((((w4.setCell ⟨B,0,none⟩ (.string nm)).setCell ⟨B,1,none⟩ (.slice (some ⟨rb,0,none⟩) l.length rc)).setCell ⟨B,2,none⟩ pz).setCell ⟨B,3,none⟩ pz).setCell ⟨B,4,none⟩ pz).setCell ⟨B,5,none⟩ pz).setCell ⟨B,6,none⟩ pz).setCell ⟨B,7,none⟩ (.int .i64 0))=w9 at *
   have d9:w9.cell? ⟨g,o+1,none⟩=some (.string nm):=(e2.b.cell (p:=⟨g,o+1,none⟩) HI.out.2.2).trans d1
   have hMd:Md w w9 l nm B rb rc:=by
    obtain ⟨cs,hrc,_⟩:=HZ.out.1
    have hne:rb ≠ B:=ne_types hrc HZ4.out (by decide)
    have h2:=blk_lt HRA.out.f
    have h3:=HZ.out.2.1
    exact ⟨e2,e1,HZ.out.1.same (e3 _ hne),HN.out.2,by omega⟩
   have HMd:=hdn <| hMd
   clear hMd e1 e2 e3
   refine hK.out _ _ d9 (fun hS=>?_)
   refine wpAnyH_done (by kernel_rfl) ?_ _
   go_wp2_with fail
   go_meet
   case rel=>exact ⟨_,rb,rc,rfl,HMd.out⟩
 case rest=>
  obtain ⟨pb,rb,rc,rfl,hMd⟩:=hcut
  have HSg:=hdn <| hMd.sg
  clear hMd HR2 d1
  go_wp2_with fail
  have HSg:=hdn <| HSg.out.below (Below.refl _ _).drew
  generalize hKb:wc.heap.size=kb at *
  have HKb:Hid (wc.heap.size=kb):=hKb
  clear hKb
  go_cut [8] (fun s8 wx=>∃ fc:Nat,s8=.pointer (some ⟨fc,0,none⟩)/\Out w wx l nm pb rb rc (kb+1) fc U)
  case first=>
   have hcl:=HSg.out.cell
   refine wp_region_held (S:=fun w'=>w'.cell? ⟨pb,1,none⟩=some (.slice (some ⟨rb,0,none⟩) l.length rc)) (by kernel_rfl) ?_
   have hS:(fun w':World=>w'.cell? ⟨pb,1,none⟩=some (.slice (some ⟨rb,0,none⟩) l.length rc)) ((wc.alloc (.map #[] 0)).alloc (.map #[] 0)).drew:=hcl
   change wpAnyH _ _ _ _ _ _ _ _ ((wc.alloc (.map #[] 0)).alloc (.map #[] 0)).drew
   refine tq 0 rfl hS ?_
   refine tq 1 rfl hS ?_
   refine tq 2 rfl hS ?_
   refine tq 4 rfl hS ?_
   refine tq 5 rfl hS ?_
   refine tq 6 rfl hS ?_
   refine tq 8 rfl hS ?_
   refine tq 9 rfl hS ?_
   refine tq 10 rfl hS ?_
   generalize ((wc.alloc (.map #[] 0)).alloc (.map #[] 0)).drew=x0 at *
   clear hcl
   refine rd2 3 14 (by kernel_rfl) rfl rfl (fun K hK=>?_) (fun K hK=>?_)
   ·go_simp
    refine Calls.mono (declaring_made x0 pb kb) ?_
    rintro e x1 ⟨rfl,hb,-,f1,f2,f3,f4⟩
    have HG1:=hdn <| Sg.dstep HSg.out hb f1 f2 f3 f4
    generalize hdd:x0.heap.size=dd at *
    clear hdd
    clear hb f1 f2 f3 f4
    refine hK.out _ _ HG1.out.cell (fun hS=>?_)
    refine rd2 7 14 (by kernel_rfl) rfl rfl (fun K hK=>?_) (fun K hK=>?_)
    ·go_simp
     refine Calls.mono (naming_made x1 (.slice (some ⟨rb,0,none⟩) l.length rc) kb ⟨_,_,_,rfl⟩) ?_
     rintro e x2 ⟨rfl,hb,-,f1,f2⟩
     have HG2:=hdn <| Sg.qstep HG1.out hb f1 f2
     generalize hqq:x1.heap.size=qq at *
     clear hqq
     clear hb f1 f2
     refine hK.out _ _ HG2.out.cell (fun hS=>?_)
     refine rd2 11 14 (by kernel_rfl) rfl rfl (fun K hK=>?_) (fun K hK=>?_)
     ·go_simp
      refine Calls.mono (happening_made x2 (.slice (some ⟨rb,0,none⟩) l.length rc) (kb+1) ⟨_,_,_,rfl⟩) ?_
      rintro e x3 ⟨rfl,hb,-,f1,f2⟩
      have HG3:=hdn <| Sg.hstep HG2.out hb f1 f2
      generalize hhh:x2.heap.size=hq at *
      clear hhh
      clear hb f1 f2
      refine hK.out _ _ HG3.out.cell (fun hS=>?_)
      refine rd2 12 14 (by kernel_rfl) rfl rfl (fun K hK=>?_) (fun K hK=>?_)
      ·go_simp
       have hb:Below x3.heap.size x3 (x3.alloc (.cells (aC dd qq hq) 89)):=bAl x3 _
       have HG4:=hdn <| HG3.out.below hb
       have HAb:Hid ((x3.alloc (.cells (aC dd qq hq) 89)).heap[x3.heap.size]?=some (.cells (aC dd qq hq) 89 (0,0))/\hq+1 < x3.heap.size):=⟨heap_alloc_new x3 _,blk_lt (HG3.out.h1 (by decide)).2.1⟩
       clear hb
       unfold ptr0 askF
       change K _ (x3.alloc (.cells (aC dd qq hq) 89))
       generalize x3.alloc (.cells (aC dd qq hq) 89)=x4 at *
       generalize x3.heap.size=ab at *
       refine hK.out _ _ HG4.out.cell (fun hS=>?_)
       refine rd2 13 14 (by kernel_rfl) rfl rfl (fun K hK=>?_) (fun K hK=>?_)
       rotate_right
       focus
        go_simp
        have hb:Below x4.heap.size x4 (x4.alloc (.cells #[.int .i64 0,.int .i64 0] 31)):=bAl x4 _
        have HGa:=hdn <| HG4.out.below hb
        have HFba:Hid ((x4.alloc (.cells #[.int .i64 0,.int .i64 0] 31)).heap[x4.heap.size]?=some (.cells #[.int .i64 0,.int .i64 0] 31 (0,0))/\w.heap.size+1 < x4.heap.size):=⟨heap_alloc_new x4 _,blk_lt HG4.out.r.f⟩
        have HAb:Hid ((x4.alloc (.cells #[.int .i64 0,.int .i64 0] 31)).heap[ab]?=some (.cells (aC dd qq hq) 89 (0,0))/\hq+1 < ab):=⟨(hb.block _ (blk_lt HAb.out.1)).trans HAb.out.1,HAb.out.2⟩
        clear hb
        generalize x4.alloc (.cells #[.int .i64 0,.int .i64 0] 31)=xa at *
        generalize x4.heap.size=fc at *
        refine hK.out _ _ HGa.out.cell (fun hS=>?_)
        refine rd1 13 rfl fun K hK=>?_
        go_simp
        have hbf:Below xa.heap.size xa (xa.alloc (.cells #[.int .i64 0,.int .i64 0] 31)):=bAl xa _
        obtain ⟨hOk,hMem⟩:=Sg.mem (T:=89) (ab:=ab) (base:=xa.heap.size+1) (HGa.out.below hbf) ((hbf.block _ (blk_lt HAb.out.1)).trans HAb.out.1) HAb.out.2 (by have:=blk_lt HAb.out.1;omega) (by simp)
        refine Calls.mono (order_any (o:=lay nm 89 pb rb rc kb (kb+1) dd qq hq ab (xa.heap.size+1)) HBs.out HI.out.2.1 hOk rfl hMem (good_start l)) ?_
        rintro e x6 ⟨hF,hUU⟩
        rw [HU.out] at hUU
        clear hbf hOk hMem
        have hkp:=Sg.keep HGa.out hF HFba.out.1
        obtain ⟨c,i,rfl,hcell,hOut⟩:=out_put HGa.out hF hkp HFba.out.2 hUU
        have e0:x6.cell? ⟨fc,0,none⟩=some (.int .i64 0):=by rw [World.cell?,hkp];rfl
        have e1:x6.cell? ⟨fc,1,none⟩=some (.int .i64 0):=by rw [World.cell?,hkp];rfl
        have z0:=zero8f hkp 0
        have z1:=zero8f hkp 1
        have HOut:=hdn <| hOut
        clear hOut hUU hF
        refine hK.out _ _ hcell (fun hS=>?_)
        refine rd1 15 rfl fun K hK=>?_
        go_simp
        have c9:((x6.setCell ⟨fc,0,none⟩ (.int .i64 (c:Int))).setCell ⟨fc,1,none⟩ (.int .i64 (i:Int))).cell? ⟨pb,1,none⟩=some (.slice (some ⟨rb,0,none⟩) l.length rc):=by
         have hne:pb ≠ fc:=fun e=>by
          subst e
          rw [e1] at hcell
          cases hcell
         rw [World.cell?_of_block (a:=⟨pb,1,none⟩) (Below.heap_setCell _ _ _ pb (fun e=>hne e)),World.cell?_of_block (a:=⟨pb,1,none⟩) (Below.heap_setCell _ _ _ pb (fun e=>hne e))]
         exact hcell
        clear e0 e1 z0 z1 hkp
       rotate_right
       focus
        go_simp
        have hbf:Below x4.heap.size x4 (x4.alloc (.cells #[.int .i64 0,.int .i64 0] 31)):=bAl x4 _
        obtain ⟨hOk,hMem⟩:=Sg.mem (T:=89) (ab:=ab) (base:=x4.heap.size+1) (HG4.out.below hbf) ((hbf.block _ (blk_lt HAb.out.1)).trans HAb.out.1) HAb.out.2 (by have:=blk_lt HAb.out.1;omega) (by simp)
        refine Calls.mono (order_any (o:=lay nm 89 pb rb rc kb (kb+1) dd qq hq ab (x4.heap.size+1)) HBs.out HI.out.2.1 hOk rfl hMem (good_start l)) ?_
        rintro e x5 ⟨hF,hUU⟩
        rw [HU.out] at hUU
        clear hbf hOk hMem
        obtain ⟨c,i,rfl,hcell,hOut⟩:=out_new HG4.out hF hUU
        have cA:(x5.alloc (.cells #[.int .i64 0,.int .i64 0] 31)).cell? ⟨pb,1,none⟩=some (.slice (some ⟨rb,0,none⟩) l.length rc):=by
         rw [World.cell?_of_block (a:=⟨pb,1,none⟩) (alloc_old x5 _ pb (World.block_lt_of_cell? x5 ⟨pb,1,none⟩ hcell))]
         exact hcell
        have HOut:=hdn <| hOut
        clear hOut hUU hF
        refine hK.out _ _ hcell (fun hS=>?_)
        refine rd1 14 rfl fun K hK=>?_
        go_simp
        refine hK.out _ _ cA (fun hS=>?_)
        refine rd1 15 rfl fun K hK=>?_
        go_simp
        have c9:(x5.alloc (.cells #[.int .i64 (c:Int),.int .i64 (i:Int)] 31)).cell? ⟨pb,1,none⟩=some (.slice (some ⟨rb,0,none⟩) l.length rc):=by
         rw [World.cell?_of_block (a:=⟨pb,1,none⟩) (alloc_old x5 _ pb (World.block_lt_of_cell? x5 ⟨pb,1,none⟩ hcell))]
         exact hcell
       all_goals
        refine hK.out _ _ c9 (fun hS=>?_)
        refine wpAnyH_done (by kernel_rfl) ?_ _
        go_wp2_with fail
        go_meet
        case rel=>exact ⟨_,rfl,HOut.out⟩
      ·go_simp
       have hb:Below x3.heap.size x3 (x3.alloc (.cells #[.int .i64 0,.int .i64 0] 31)):=bAl x3 _
       have HGa:=hdn <| HG3.out.below hb
       have HFba:Hid ((x3.alloc (.cells #[.int .i64 0,.int .i64 0] 31)).heap[x3.heap.size]?=some (.cells #[.int .i64 0,.int .i64 0] 31 (0,0))/\w.heap.size+1 < x3.heap.size):=⟨heap_alloc_new x3 _,blk_lt HG3.out.r.f⟩
       clear hb
       generalize x3.alloc (.cells #[.int .i64 0,.int .i64 0] 31)=xa at *
       generalize x3.heap.size=fc at *
       refine hK.out _ _ HGa.out.cell (fun hS=>?_)
       refine rd1 12 rfl fun K hK=>?_
       go_simp
       have hb:Below xa.heap.size xa (xa.alloc (.cells (aC dd qq hq) 89)):=bAl xa _
       have HG5:=hdn <| HGa.out.below hb
       have HAb:Hid ((xa.alloc (.cells (aC dd qq hq) 89)).heap[xa.heap.size]?=some (.cells (aC dd qq hq) 89 (0,0))/\hq+1 < xa.heap.size):=⟨heap_alloc_new xa _,blk_lt (HGa.out.h1 (by decide)).2.1⟩
       have HFb5:Hid ((xa.alloc (.cells (aC dd qq hq) 89)).heap[fc]?=some (.cells #[.int .i64 0,.int .i64 0] 31 (0,0))/\w.heap.size+1 < fc):=⟨(hb.block _ (blk_lt HFba.out.1)).trans HFba.out.1,HFba.out.2⟩
       clear hb
       unfold ptr0 askF
       change K _ (xa.alloc (.cells (aC dd qq hq) 89))
       generalize xa.alloc (.cells (aC dd qq hq) 89)=x5 at *
       generalize xa.heap.size=ab at *
       refine hK.out _ _ HG5.out.cell (fun hS=>?_)
       refine rd1 13 rfl fun K hK=>?_
       go_simp
       have hbf:Below x5.heap.size x5 (x5.alloc (.cells #[.int .i64 0,.int .i64 0] 31)):=bAl x5 _
       obtain ⟨hOk,hMem⟩:=Sg.mem (T:=89) (ab:=ab) (base:=x5.heap.size+1) (HG5.out.below hbf) ((hbf.block _ (blk_lt HAb.out.1)).trans HAb.out.1) HAb.out.2 (by have:=blk_lt HAb.out.1;omega) (by simp)
       refine Calls.mono (order_any (o:=lay nm 89 pb rb rc kb (kb+1) dd qq hq ab (x5.heap.size+1)) HBs.out HI.out.2.1 hOk rfl hMem (good_start l)) ?_
       rintro e x6 ⟨hF,hUU⟩
       rw [HU.out] at hUU
       clear hbf hOk hMem
       have hkp:=Sg.keep HG5.out hF HFb5.out.1
       obtain ⟨c,i,rfl,hcell,hOut⟩:=out_put HG5.out hF hkp HFb5.out.2 hUU
       have e0:x6.cell? ⟨fc,0,none⟩=some (.int .i64 0):=by rw [World.cell?,hkp];rfl
       have e1:x6.cell? ⟨fc,1,none⟩=some (.int .i64 0):=by rw [World.cell?,hkp];rfl
       have z0:=zero8f hkp 0
       have z1:=zero8f hkp 1
       have HOut:=hdn <| hOut
       clear hOut hUU hF
       refine hK.out _ _ hcell (fun hS=>?_)
       refine rd1 15 rfl fun K hK=>?_
       go_simp
       have c9:((x6.setCell ⟨fc,0,none⟩ (.int .i64 (c:Int))).setCell ⟨fc,1,none⟩ (.int .i64 (i:Int))).cell? ⟨pb,1,none⟩=some (.slice (some ⟨rb,0,none⟩) l.length rc):=by
        have hne:pb ≠ fc:=fun e=>by
         subst e
         rw [e1] at hcell
         cases hcell
        rw [World.cell?_of_block (a:=⟨pb,1,none⟩) (Below.heap_setCell _ _ _ pb (fun e=>hne e)),World.cell?_of_block (a:=⟨pb,1,none⟩) (Below.heap_setCell _ _ _ pb (fun e=>hne e))]
        exact hcell
       clear e0 e1 z0 z1 hkp
       refine hK.out _ _ c9 (fun hS=>?_)
       refine wpAnyH_done (by kernel_rfl) ?_ _
       go_wp2_with fail
       go_meet
       case rel=>exact ⟨_,rfl,HOut.out⟩
     ·go_simp
      have hb:Below x2.heap.size x2 (x2.alloc (.cells #[.int .i64 0,.int .i64 0] 31)):=bAl x2 _
      have HGa:=hdn <| HG2.out.below hb
      have HFba:Hid ((x2.alloc (.cells #[.int .i64 0,.int .i64 0] 31)).heap[x2.heap.size]?=some (.cells #[.int .i64 0,.int .i64 0] 31 (0,0))/\w.heap.size+1 < x2.heap.size):=⟨heap_alloc_new x2 _,blk_lt HG2.out.r.f⟩
      clear hb
      generalize x2.alloc (.cells #[.int .i64 0,.int .i64 0] 31)=xa at *
      generalize x2.heap.size=fc at *
      refine hK.out _ _ HGa.out.cell (fun hS=>?_)
      refine rd1 11 rfl fun K hK=>?_
      go_simp
      refine Calls.mono (happening_made xa (.slice (some ⟨rb,0,none⟩) l.length rc) (kb+1) ⟨_,_,_,rfl⟩) ?_
      rintro e x4 ⟨rfl,hb,-,f1,f2⟩
      have HG4:=hdn <| Sg.hstep HGa.out hb f1 f2
      have HFb4:=hdn <| (hb.block _ (blk_lt HFba.out.1)).trans HFba.out.1
      have HFb4:Hid (x4.heap[fc]?=some (.cells #[.int .i64 0,.int .i64 0] 31 (0,0))/\w.heap.size+1 < fc):=⟨HFb4.out,HFba.out.2⟩
      generalize hhh:xa.heap.size=hq at *
      clear hhh
      clear hb f1 f2
      refine hK.out _ _ HG4.out.cell (fun hS=>?_)
      refine rd1 12 rfl fun K hK=>?_
      go_simp
      have hb:Below x4.heap.size x4 (x4.alloc (.cells (aC dd qq hq) 89)):=bAl x4 _
      have HG5:=hdn <| HG4.out.below hb
      have HAb:Hid ((x4.alloc (.cells (aC dd qq hq) 89)).heap[x4.heap.size]?=some (.cells (aC dd qq hq) 89 (0,0))/\hq+1 < x4.heap.size):=⟨heap_alloc_new x4 _,blk_lt (HG4.out.h1 (by decide)).2.1⟩
      have HFb5:Hid ((x4.alloc (.cells (aC dd qq hq) 89)).heap[fc]?=some (.cells #[.int .i64 0,.int .i64 0] 31 (0,0))/\w.heap.size+1 < fc):=⟨(hb.block _ (blk_lt HFb4.out.1)).trans HFb4.out.1,HFb4.out.2⟩
      clear hb
      unfold ptr0 askF
      change K _ (x4.alloc (.cells (aC dd qq hq) 89))
      generalize x4.alloc (.cells (aC dd qq hq) 89)=x5 at *
      generalize x4.heap.size=ab at *
      refine hK.out _ _ HG5.out.cell (fun hS=>?_)
      refine rd1 13 rfl fun K hK=>?_
      go_simp
      have hbf:Below x5.heap.size x5 (x5.alloc (.cells #[.int .i64 0,.int .i64 0] 31)):=bAl x5 _
      obtain ⟨hOk,hMem⟩:=Sg.mem (T:=89) (ab:=ab) (base:=x5.heap.size+1) (HG5.out.below hbf) ((hbf.block _ (blk_lt HAb.out.1)).trans HAb.out.1) HAb.out.2 (by have:=blk_lt HAb.out.1;omega) (by simp)
      refine Calls.mono (order_any (o:=lay nm 89 pb rb rc kb (kb+1) dd qq hq ab (x5.heap.size+1)) HBs.out HI.out.2.1 hOk rfl hMem (good_start l)) ?_
      rintro e x6 ⟨hF,hUU⟩
      rw [HU.out] at hUU
      clear hbf hOk hMem
      have hkp:=Sg.keep HG5.out hF HFb5.out.1
      obtain ⟨c,i,rfl,hcell,hOut⟩:=out_put HG5.out hF hkp HFb5.out.2 hUU
      have e0:x6.cell? ⟨fc,0,none⟩=some (.int .i64 0):=by rw [World.cell?,hkp];rfl
      have e1:x6.cell? ⟨fc,1,none⟩=some (.int .i64 0):=by rw [World.cell?,hkp];rfl
      have z0:=zero8f hkp 0
      have z1:=zero8f hkp 1
      have HOut:=hdn <| hOut
      clear hOut hUU hF
      refine hK.out _ _ hcell (fun hS=>?_)
      refine rd1 15 rfl fun K hK=>?_
      go_simp
      have c9:((x6.setCell ⟨fc,0,none⟩ (.int .i64 (c:Int))).setCell ⟨fc,1,none⟩ (.int .i64 (i:Int))).cell? ⟨pb,1,none⟩=some (.slice (some ⟨rb,0,none⟩) l.length rc):=by
       have hne:pb ≠ fc:=fun e=>by
        subst e
        rw [e1] at hcell
        cases hcell
       rw [World.cell?_of_block (a:=⟨pb,1,none⟩) (Below.heap_setCell _ _ _ pb (fun e=>hne e)),World.cell?_of_block (a:=⟨pb,1,none⟩) (Below.heap_setCell _ _ _ pb (fun e=>hne e))]
       exact hcell
      clear e0 e1 z0 z1 hkp
      refine hK.out _ _ c9 (fun hS=>?_)
      refine wpAnyH_done (by kernel_rfl) ?_ _
      go_wp2_with fail
      go_meet
      case rel=>exact ⟨_,rfl,HOut.out⟩
    ·go_simp
     have hb:Below x1.heap.size x1 (x1.alloc (.cells #[.int .i64 0,.int .i64 0] 31)):=bAl x1 _
     have HGa:=hdn <| HG1.out.below hb
     have HFba:Hid ((x1.alloc (.cells #[.int .i64 0,.int .i64 0] 31)).heap[x1.heap.size]?=some (.cells #[.int .i64 0,.int .i64 0] 31 (0,0))/\w.heap.size+1 < x1.heap.size):=⟨heap_alloc_new x1 _,blk_lt HG1.out.r.f⟩
     clear hb
     generalize x1.alloc (.cells #[.int .i64 0,.int .i64 0] 31)=xa at *
     generalize x1.heap.size=fc at *
     refine hK.out _ _ HGa.out.cell (fun hS=>?_)
     refine rd1 7 rfl fun K hK=>?_
     go_simp
     refine Calls.mono (naming_made xa (.slice (some ⟨rb,0,none⟩) l.length rc) kb ⟨_,_,_,rfl⟩) ?_
     rintro e x3 ⟨rfl,hb,-,f1,f2⟩
     have HG3:=hdn <| Sg.qstep HGa.out hb f1 f2
     have HFb3:=hdn <| (hb.block _ (blk_lt HFba.out.1)).trans HFba.out.1
     have HFb3:Hid (x3.heap[fc]?=some (.cells #[.int .i64 0,.int .i64 0] 31 (0,0))/\w.heap.size+1 < fc):=⟨HFb3.out,HFba.out.2⟩
     generalize hqq:xa.heap.size=qq at *
     clear hqq
     clear hb f1 f2
     refine hK.out _ _ HG3.out.cell (fun hS=>?_)
     refine rd1 11 rfl fun K hK=>?_
     go_simp
     refine Calls.mono (happening_made x3 (.slice (some ⟨rb,0,none⟩) l.length rc) (kb+1) ⟨_,_,_,rfl⟩) ?_
     rintro e x4 ⟨rfl,hb,-,f1,f2⟩
     have HG4:=hdn <| Sg.hstep HG3.out hb f1 f2
     have HFb4:=hdn <| (hb.block _ (blk_lt HFb3.out.1)).trans HFb3.out.1
     have HFb4:Hid (x4.heap[fc]?=some (.cells #[.int .i64 0,.int .i64 0] 31 (0,0))/\w.heap.size+1 < fc):=⟨HFb4.out,HFb3.out.2⟩
     generalize hhh:x3.heap.size=hq at *
     clear hhh
     clear hb f1 f2
     refine hK.out _ _ HG4.out.cell (fun hS=>?_)
     refine rd1 12 rfl fun K hK=>?_
     go_simp
     have hb:Below x4.heap.size x4 (x4.alloc (.cells (aC dd qq hq) 89)):=bAl x4 _
     have HG5:=hdn <| HG4.out.below hb
     have HAb:Hid ((x4.alloc (.cells (aC dd qq hq) 89)).heap[x4.heap.size]?=some (.cells (aC dd qq hq) 89 (0,0))/\hq+1 < x4.heap.size):=⟨heap_alloc_new x4 _,blk_lt (HG4.out.h1 (by decide)).2.1⟩
     have HFb5:Hid ((x4.alloc (.cells (aC dd qq hq) 89)).heap[fc]?=some (.cells #[.int .i64 0,.int .i64 0] 31 (0,0))/\w.heap.size+1 < fc):=⟨(hb.block _ (blk_lt HFb4.out.1)).trans HFb4.out.1,HFb4.out.2⟩
     clear hb
     unfold ptr0 askF
     change K _ (x4.alloc (.cells (aC dd qq hq) 89))
     generalize x4.alloc (.cells (aC dd qq hq) 89)=x5 at *
     generalize x4.heap.size=ab at *
     refine hK.out _ _ HG5.out.cell (fun hS=>?_)
     refine rd1 13 rfl fun K hK=>?_
     go_simp
     have hbf:Below x5.heap.size x5 (x5.alloc (.cells #[.int .i64 0,.int .i64 0] 31)):=bAl x5 _
     obtain ⟨hOk,hMem⟩:=Sg.mem (T:=89) (ab:=ab) (base:=x5.heap.size+1) (HG5.out.below hbf) ((hbf.block _ (blk_lt HAb.out.1)).trans HAb.out.1) HAb.out.2 (by have:=blk_lt HAb.out.1;omega) (by simp)
     refine Calls.mono (order_any (o:=lay nm 89 pb rb rc kb (kb+1) dd qq hq ab (x5.heap.size+1)) HBs.out HI.out.2.1 hOk rfl hMem (good_start l)) ?_
     rintro e x6 ⟨hF,hUU⟩
     rw [HU.out] at hUU
     clear hbf hOk hMem
     have hkp:=Sg.keep HG5.out hF HFb5.out.1
     obtain ⟨c,i,rfl,hcell,hOut⟩:=out_put HG5.out hF hkp HFb5.out.2 hUU
     have e0:x6.cell? ⟨fc,0,none⟩=some (.int .i64 0):=by rw [World.cell?,hkp];rfl
     have e1:x6.cell? ⟨fc,1,none⟩=some (.int .i64 0):=by rw [World.cell?,hkp];rfl
     have z0:=zero8f hkp 0
     have z1:=zero8f hkp 1
     have HOut:=hdn <| hOut
     clear hOut hUU hF
     refine hK.out _ _ hcell (fun hS=>?_)
     refine rd1 15 rfl fun K hK=>?_
     go_simp
     have c9:((x6.setCell ⟨fc,0,none⟩ (.int .i64 (c:Int))).setCell ⟨fc,1,none⟩ (.int .i64 (i:Int))).cell? ⟨pb,1,none⟩=some (.slice (some ⟨rb,0,none⟩) l.length rc):=by
      have hne:pb ≠ fc:=fun e=>by
       subst e
       rw [e1] at hcell
       cases hcell
      rw [World.cell?_of_block (a:=⟨pb,1,none⟩) (Below.heap_setCell _ _ _ pb (fun e=>hne e)),World.cell?_of_block (a:=⟨pb,1,none⟩) (Below.heap_setCell _ _ _ pb (fun e=>hne e))]
      exact hcell
     clear e0 e1 z0 z1 hkp
     refine hK.out _ _ c9 (fun hS=>?_)
     refine wpAnyH_done (by kernel_rfl) ?_ _
     go_wp2_with fail
     go_meet
     case rel=>exact ⟨_,rfl,HOut.out⟩
   ·go_simp
    have hb:Below x0.heap.size x0 (x0.alloc (.cells #[.int .i64 0,.int .i64 0] 31)):=bAl x0 _
    have HGa:=hdn <| HSg.out.below hb
    have HFba:Hid ((x0.alloc (.cells #[.int .i64 0,.int .i64 0] 31)).heap[x0.heap.size]?=some (.cells #[.int .i64 0,.int .i64 0] 31 (0,0))/\w.heap.size+1 < x0.heap.size):=⟨heap_alloc_new x0 _,blk_lt HSg.out.r.f⟩
    clear hb
    generalize x0.alloc (.cells #[.int .i64 0,.int .i64 0] 31)=xa at *
    generalize x0.heap.size=fc at *
    refine hK.out _ _ HGa.out.cell (fun hS=>?_)
    refine rd1 3 rfl fun K hK=>?_
    go_simp
    refine Calls.mono (declaring_made xa pb kb) ?_
    rintro e x2 ⟨rfl,hb,-,f1,f2,f3,f4⟩
    have HG2:=hdn <| Sg.dstep HGa.out hb f1 f2 f3 f4
    have HFb2:=hdn <| (hb.block _ (blk_lt HFba.out.1)).trans HFba.out.1
    have HFb2:Hid (x2.heap[fc]?=some (.cells #[.int .i64 0,.int .i64 0] 31 (0,0))/\w.heap.size+1 < fc):=⟨HFb2.out,HFba.out.2⟩
    generalize hdd:xa.heap.size=dd at *
    clear hdd
    clear hb f1 f2 f3 f4
    refine hK.out _ _ HG2.out.cell (fun hS=>?_)
    refine rd1 7 rfl fun K hK=>?_
    go_simp
    refine Calls.mono (naming_made x2 (.slice (some ⟨rb,0,none⟩) l.length rc) kb ⟨_,_,_,rfl⟩) ?_
    rintro e x3 ⟨rfl,hb,-,f1,f2⟩
    have HG3:=hdn <| Sg.qstep HG2.out hb f1 f2
    have HFb3:=hdn <| (hb.block _ (blk_lt HFb2.out.1)).trans HFb2.out.1
    have HFb3:Hid (x3.heap[fc]?=some (.cells #[.int .i64 0,.int .i64 0] 31 (0,0))/\w.heap.size+1 < fc):=⟨HFb3.out,HFb2.out.2⟩
    generalize hqq:x2.heap.size=qq at *
    clear hqq
    clear hb f1 f2
    refine hK.out _ _ HG3.out.cell (fun hS=>?_)
    refine rd1 11 rfl fun K hK=>?_
    go_simp
    refine Calls.mono (happening_made x3 (.slice (some ⟨rb,0,none⟩) l.length rc) (kb+1) ⟨_,_,_,rfl⟩) ?_
    rintro e x4 ⟨rfl,hb,-,f1,f2⟩
    have HG4:=hdn <| Sg.hstep HG3.out hb f1 f2
    have HFb4:=hdn <| (hb.block _ (blk_lt HFb3.out.1)).trans HFb3.out.1
    have HFb4:Hid (x4.heap[fc]?=some (.cells #[.int .i64 0,.int .i64 0] 31 (0,0))/\w.heap.size+1 < fc):=⟨HFb4.out,HFb3.out.2⟩
    generalize hhh:x3.heap.size=hq at *
    clear hhh
    clear hb f1 f2
    refine hK.out _ _ HG4.out.cell (fun hS=>?_)
    refine rd1 12 rfl fun K hK=>?_
    go_simp
    have hb:Below x4.heap.size x4 (x4.alloc (.cells (aC dd qq hq) 89)):=bAl x4 _
    have HG5:=hdn <| HG4.out.below hb
    have HAb:Hid ((x4.alloc (.cells (aC dd qq hq) 89)).heap[x4.heap.size]?=some (.cells (aC dd qq hq) 89 (0,0))/\hq+1 < x4.heap.size):=⟨heap_alloc_new x4 _,blk_lt (HG4.out.h1 (by decide)).2.1⟩
    have HFb5:Hid ((x4.alloc (.cells (aC dd qq hq) 89)).heap[fc]?=some (.cells #[.int .i64 0,.int .i64 0] 31 (0,0))/\w.heap.size+1 < fc):=⟨(hb.block _ (blk_lt HFb4.out.1)).trans HFb4.out.1,HFb4.out.2⟩
    clear hb
    unfold ptr0 askF
    change K _ (x4.alloc (.cells (aC dd qq hq) 89))
    generalize x4.alloc (.cells (aC dd qq hq) 89)=x5 at *
    generalize x4.heap.size=ab at *
    refine hK.out _ _ HG5.out.cell (fun hS=>?_)
    refine rd1 13 rfl fun K hK=>?_
    go_simp
    have hbf:Below x5.heap.size x5 (x5.alloc (.cells #[.int .i64 0,.int .i64 0] 31)):=bAl x5 _
    obtain ⟨hOk,hMem⟩:=Sg.mem (T:=89) (ab:=ab) (base:=x5.heap.size+1) (HG5.out.below hbf) ((hbf.block _ (blk_lt HAb.out.1)).trans HAb.out.1) HAb.out.2 (by have:=blk_lt HAb.out.1;omega) (by simp)
    refine Calls.mono (order_any (o:=lay nm 89 pb rb rc kb (kb+1) dd qq hq ab (x5.heap.size+1)) HBs.out HI.out.2.1 hOk rfl hMem (good_start l)) ?_
    rintro e x6 ⟨hF,hUU⟩
    rw [HU.out] at hUU
    clear hbf hOk hMem
    have hkp:=Sg.keep HG5.out hF HFb5.out.1
    obtain ⟨c,i,rfl,hcell,hOut⟩:=out_put HG5.out hF hkp HFb5.out.2 hUU
    have e0:x6.cell? ⟨fc,0,none⟩=some (.int .i64 0):=by rw [World.cell?,hkp];rfl
    have e1:x6.cell? ⟨fc,1,none⟩=some (.int .i64 0):=by rw [World.cell?,hkp];rfl
    have z0:=zero8f hkp 0
    have z1:=zero8f hkp 1
    have HOut:=hdn <| hOut
    clear hOut hUU hF
    refine hK.out _ _ hcell (fun hS=>?_)
    refine rd1 15 rfl fun K hK=>?_
    go_simp
    have c9:((x6.setCell ⟨fc,0,none⟩ (.int .i64 (c:Int))).setCell ⟨fc,1,none⟩ (.int .i64 (i:Int))).cell? ⟨pb,1,none⟩=some (.slice (some ⟨rb,0,none⟩) l.length rc):=by
     have hne:pb ≠ fc:=fun e=>by
      subst e
      rw [e1] at hcell
      cases hcell
     rw [World.cell?_of_block (a:=⟨pb,1,none⟩) (Below.heap_setCell _ _ _ pb (fun e=>hne e)),World.cell?_of_block (a:=⟨pb,1,none⟩) (Below.heap_setCell _ _ _ pb (fun e=>hne e))]
     exact hcell
    clear e0 e1 z0 z1 hkp
    refine hK.out _ _ c9 (fun hS=>?_)
    refine wpAnyH_done (by kernel_rfl) ?_ _
    go_wp2_with fail
    go_meet
    case rel=>exact ⟨_,rfl,HOut.out⟩
  case rest=>
   obtain ⟨fc,rfl,hO⟩:=hcut
   cases U with
   | error ci=>
    obtain ⟨hR,hf2,hfb,hpos⟩:=hO
    obtain ⟨c1,c2⟩:=ci
    dsimp only at hfb hpos
    have HRe:=hdn <| hR
    have hc0:((c1:Int) != 0)=true:=by simp;omega
    have n1:w.heap.size ≠ fc:=by omega
    have n2:fc ≠ w.heap.size:=by omega
    have n3:w.heap.size+1 ≠ fc:=by omega
    have n4:fc ≠ w.heap.size+1:=by omega
    have hR2:=HRe.out
    obtain ⟨r0,r1,r2,r3,r4,r5,r6,r7⟩:=hR2.cells
    obtain ⟨s0,s1,s2,s3⟩:=hR2.fault
    have z0:=hR2.frozen 0
    have z1:=hR2.frozen 1
    have z2:=hR2.frozen 2
    have z3:=hR2.frozen 3
    have z4:=hR2.frozen 4
    have z5:=hR2.frozen 5
    have z6:=hR2.frozen 6
    have z7:=hR2.frozen 7
    have t0:wc.cell? ⟨fc,0,none⟩=some (.int .i64 (c1:Int)):=by rw [World.cell?,hfb];rfl
    have t1:wc.cell? ⟨fc,1,none⟩=some (.int .i64 (c2:Int)):=by rw [World.cell?,hfb];rfl
    clear hR hR2 hf2 hfb hpos HSg HKb
    go_wp2_with fail
    go_region
    all_goals
     obtain ⟨x1,x2,x3⟩:=HRe.out.wrote (.string ⟨#[]⟩) pz pz pz pz pz pz (.int .i64 0) (.int .i64 (c1:Int)) (.int .i64 (c2:Int))
     have HX:Hid (Below w.heap.size w _):=x3
     obtain ⟨y0,y1,y2,y3,y4,y5,y6,y7,y8,y9⟩:=wrote_cells x1 x2
     clear x1 x2 x3 r0 r1 r2 r3 r4 r5 r6 r7 s0 s1 s2 s3 z0 z1 z2 z3 z4 z5 z6 z7 t0 t1
     generalize ((((((((((wc.setCell ⟨w.heap.size,0,none⟩ (.string ⟨#[]⟩)).setCell ⟨w.heap.size,1,none⟩ pz).setCell ⟨w.heap.size,2,none⟩ pz).setCell ⟨w.heap.size,3,none⟩ pz).setCell ⟨w.heap.size,4,none⟩ pz).setCell ⟨w.heap.size,5,none⟩ pz).setCell ⟨w.heap.size,6,none⟩ pz).setCell ⟨w.heap.size,7,none⟩ (.int .i64 0)).setCell ⟨w.heap.size+1,0,none⟩ (.int .i64 (c1:Int))).setCell ⟨w.heap.size+1,1,none⟩ (.int .i64 (c2:Int)))=w9 at *
     go_wp2_with fail
     exact bodyPost_ret (v:=.tuple #[.agg #[.string ⟨#[]⟩,pz,pz,pz,pz,pz,pz,.int .i64 0],.agg #[.int .i64 (c1:Int),.int .i64 (c2:Int)]]) (by simp [results,Tryz.results35,go_sem,y0,y1,y2,y3,y4,y5,y6,y7,y8,y9]) rfl ⟨HX.out.drew,rfl⟩
   | ok s=>
    obtain ⟨hR,hf2,hfb,hpb,hrb,hG,hRw,hMp,base,qv,vv,tv,uv,hbs,hP⟩:=hO
    have hblk:=hP.blk
    obtain ⟨qo,qc,rfl⟩:=own_form hP.oq
    obtain ⟨vo,vc,rfl⟩:=own_form hP.ov
    obtain ⟨tto,tc,rfl⟩:=own_form hP.ot
    obtain ⟨uo,uc,rfl⟩:=own_form hP.ou
    have t0:wc.cell? ⟨fc,0,none⟩=some (.int .i64 0):=by rw [World.cell?,hfb];rfl
    have HPE:=hdn <| placeEvents_any hblk hMp hG.q
    have HA:Hid (Rsl w wc/\w.heap.size+1 < pb/\w.heap.size+1 < rb/\w.heap.size+2<=base/\Good l (3 * l.length) s/\Rw wc rb s.rows):=⟨hR,hpb,hrb,hbs,hG,hRw⟩
    have HP:=hdn <| hP
    clear hR hf2 hfb hpb hrb hG hRw hMp hbs hP hblk HSg HKb
    go_wp2_with fail
    refine Calls.mono HPE.out ?_
    rintro e w5 ⟨rfl,hF5,ov,hblk5,hon5⟩
    have hpol:=HP.out
    have hblt:∀ k,k < wc.heap.size->k ≠ pb->w5.heap[k]?=wc.heap[k]?:=fun k hk hn=>hF5.block k hk (by simpa using hn)
    have how:∀ {T:TypeId} {sz n:Nat} {v':Value} {xs:List Value},wc.ownsRow base T sz v' n xs->w5.ownsRow base T sz v' n xs:=fun h1=>own_keepB h1 (fun k hk=>hblt k (World.ownsRow.lt h1 k hk).2 (by have:=(World.ownsRow.lt h1 k hk).1;have:=hpol.lt;omega))
    obtain ⟨cs5,hrc5,_⟩:=HA.out.2.2.2.2.2
    have hpne:rb ≠ pb:=ne_types hrc5 hpol.blk (by decide)
    have hR5:Rsl w w5:=by
     have h1:=HA.out.1
     have h2:=HA.out.2.1
     exact ⟨(hblt _ (blk_lt h1.p) (by omega)).trans h1.p,(hblt _ (blk_lt h1.f) (by omega)).trans h1.f,h1.b.trans (fb_below hF5 h1.b.size (by simp;omega))⟩
    have hRw5:Rw w5 rb s.rows:=HA.out.2.2.2.2.2.same (hblt _ HA.out.2.2.2.2.2.lt hpne)
    obtain ⟨oo,oc,rfl⟩:=own_form hon5
    have H5:Hid (Rsl w w5/\Rw w5 rb s.rows/\w5.heap[pb]?=some (.cells #[.string nm,.slice (some ⟨rb,0,none⟩) s.rows.length rc,.slice qo s.qs.length qc,.slice vo s.vs.length vc,.slice tto s.ts.length tc,.slice uo s.us.length uc,.slice oo s.qs.length oc,.int .i64 (plc s.ev (5,0))] 28 (0,0)) /\
     w5.ownsRow base 67 2 (.slice qo s.qs.length qc) s.qs.length (qF s.qs)/\w5.ownsRow base 9 1 (.slice vo s.vs.length vc) s.vs.length (s.vs.map Value.string)/\w5.ownsRow base 9 1 (.slice tto s.ts.length tc) s.ts.length (s.ts.map Value.string)/\w5.ownsRow base 3 1 (.slice uo s.us.length uc) s.us.length (nv s.us)/\w5.ownsRow (wc.heap.size+1) 3 1 (.slice oo s.qs.length oc) s.qs.length (iv (onsOf s.ev s.qs.length))):=⟨hR5,hRw5,hblk5,how hpol.oq,how hpol.ov,how hpol.ot,how hpol.ou,hon5⟩
    obtain ⟨k0,k1,k2,k3,k4,k5,k6,k7⟩:=pol8 hblk5
    have HTL:=hdn <| tooLarge_any (W:=w5) (c0:=.string nm) (c2:=.slice qo s.qs.length qc) (c3:=.slice vo s.vs.length vc) (c4:=.slice tto s.ts.length tc) (c6:=.slice oo s.qs.length oc) (c7:=.int .i64 (plc s.ev (5,0))) (cap:=rc) (uc:=uc) hRw5.rz (nats_of (how hpol.ou)).1 (like_tree HA.out.2.2.2.2.1.like HBs.out.tree) (by rw [like_len HA.out.2.2.2.2.1.like];exact HI.out.2.1) HA.out.2.2.2.2.1.u (fun u hu=>by rw [like_len HA.out.2.2.2.2.1.like];exact HA.out.2.2.2.2.1.ul u hu) (nats_of (how hpol.ou)).2 (ev_in HBs.out HA.out.2.2.2.2.1)
    have HWs:Hid (wc.heap.size+1 ≥ w.heap.size+2):=by show _ ≥ _;have:=blk_lt HA.out.1.f;omega
    clear hF5 hblk5 hon5 hpol hblt how hrc5 hpne hR5 hRw5 HPE t0 HP
    cases hbig:big s.rows (sumsOf s.rows s.us) s.rows.length with
    | error k=>
     have HRR:Hid (resR nm (.ok s)=.error (34,k)):=by show _=_;simp only [resR,hbig]
     rw [hbig] at HTL
     have HTL:Hid (Calls Tryz.prog 53 _ w5 fun e w'=>e=.returned (.agg #[.int .i64 34,.int .i64 (k:Int)])/\Below w5.heap.size w5 w'):=HTL
     go_wp2_with fail
     refine Calls.mono HTL.out ?_
     rintro e w6 ⟨rfl,hb6⟩
     have hR6:=(H5.out.1.below hb6)
     have hR7:=hR6.below (bAl w6 (.cells #[.int .i64 34,.int .i64 (k:Int)] 31))
     have HRe:=hdn <| hR7
     have hnew:=heap_alloc_new w6 (.cells #[.int .i64 34,.int .i64 (k:Int)] 31)
     have hlt6:=blk_lt hR6.f
     have n1:w.heap.size ≠ w6.heap.size:=by omega
     have n2:w6.heap.size ≠ w.heap.size:=by omega
     have n3:w.heap.size+1 ≠ w6.heap.size:=by omega
     have n4:w6.heap.size ≠ w.heap.size+1:=by omega
     have hR2:=HRe.out
     obtain ⟨r0,r1,r2,r3,r4,r5,r6,r7⟩:=hR2.cells
     obtain ⟨s0,s1,s2,s3⟩:=hR2.fault
     have z0:=hR2.frozen 0
     have z1:=hR2.frozen 1
     have z2:=hR2.frozen 2
     have z3:=hR2.frozen 3
     have z4:=hR2.frozen 4
     have z5:=hR2.frozen 5
     have z6:=hR2.frozen 6
     have z7:=hR2.frozen 7
     have t0:(w6.alloc (.cells #[.int .i64 34,.int .i64 (k:Int)] 31)).cell? ⟨w6.heap.size,0,none⟩=some (.int .i64 34):=by rw [World.cell?,hnew];rfl
     have t1:(w6.alloc (.cells #[.int .i64 34,.int .i64 (k:Int)] 31)).cell? ⟨w6.heap.size,1,none⟩=some (.int .i64 (k:Int)):=by rw [World.cell?,hnew];rfl
     clear hR6 hR7 hR2 hnew hlt6 hb6 k0 k1 k2 k3 k4 k5 k6 k7
     go_wp2_with fail
     generalize w6.alloc (.cells #[.int .i64 34,.int .i64 (k:Int)] 31)=w7 at *
     generalize w6.heap.size=fd at *
     go_wp2_with fail
     go_region
     all_goals
      obtain ⟨x1,x2,x3⟩:=HRe.out.wrote (.string ⟨#[]⟩) pz pz pz pz pz pz (.int .i64 0) (.int .i64 34) (.int .i64 (k:Int))
      have HX:Hid (Below w.heap.size w _):=x3
      obtain ⟨y0,y1,y2,y3,y4,y5,y6,y7,y8,y9⟩:=wrote_cells x1 x2
      clear x1 x2 x3 r0 r1 r2 r3 r4 r5 r6 r7 s0 s1 s2 s3 z0 z1 z2 z3 z4 z5 z6 z7 t0 t1
      generalize ((((((((((w7.setCell ⟨w.heap.size,0,none⟩ (.string ⟨#[]⟩)).setCell ⟨w.heap.size,1,none⟩ pz).setCell ⟨w.heap.size,2,none⟩ pz).setCell ⟨w.heap.size,3,none⟩ pz).setCell ⟨w.heap.size,4,none⟩ pz).setCell ⟨w.heap.size,5,none⟩ pz).setCell ⟨w.heap.size,6,none⟩ pz).setCell ⟨w.heap.size,7,none⟩ (.int .i64 0)).setCell ⟨w.heap.size+1,0,none⟩ (.int .i64 34)).setCell ⟨w.heap.size+1,1,none⟩ (.int .i64 (k:Int)))=w9 at *
      go_wp2_with fail
      exact bodyPost_ret (v:=.tuple #[.agg #[.string ⟨#[]⟩,pz,pz,pz,pz,pz,pz,.int .i64 0],.agg #[.int .i64 34,.int .i64 (k:Int)]]) (by simp [results,Tryz.results35,go_sem,y0,y1,y2,y3,y4,y5,y6,y7,y8,y9]) rfl (by rw [HRR.out];exact ⟨HX.out.drew,rfl⟩)
    | ok sm=>
     have HRR:Hid (resR nm (.ok s)=.ok ⟨nm,s.rows,s.qs,s.vs,s.ts,s.us,onsOf s.ev s.qs.length,plc s.ev (5,0)⟩):=by show _=_;simp only [resR,hbig]
     rw [hbig] at HTL
     have HTL:Hid (Calls Tryz.prog 53 _ w5 fun e w'=>e=.returned (.agg #[.int .i64 0,.int .i64 0])/\Below w5.heap.size w5 w'):=HTL
     go_wp2_with fail
     refine Calls.mono HTL.out ?_
     rintro e w6 ⟨rfl,hb6⟩
     have hb7:Below w5.heap.size w5 (w6.alloc (.cells #[.int .i64 0,.int .i64 0] 31)):=hb6.alloc hb6.size _
     have hR7:=H5.out.1.below hb7
     have HRe:=hdn <| hR7
     have HB7:=hdn <| hb7
     obtain ⟨r0,r1,r2,r3,r4,r5,r6,r7⟩:=hR7.cells
     obtain ⟨s0,s1,s2,s3⟩:=hR7.fault
     have z0:=hR7.frozen 0
     have z1:=hR7.frozen 1
     have z2:=hR7.frozen 2
     have z3:=hR7.frozen 3
     have z4:=hR7.frozen 4
     have z5:=hR7.frozen 5
     have z6:=hR7.frozen 6
     have z7:=hR7.frozen 7
     obtain ⟨m0,m1,m2,m3,m4,m5,m6,m7⟩:=pol8 ((hb7.block _ (blk_lt H5.out.2.2.1)).trans H5.out.2.2.1)
     clear hb6 hb7 hR7 k0 k1 k2 k3 k4 k5 k6 k7
     go_wp2_with fail
     obtain ⟨x1,x2,x3⟩:=HRe.out.wrote (.string nm) (.slice (some ⟨rb,0,none⟩) s.rows.length rc) (.slice qo s.qs.length qc) (.slice vo s.vs.length vc) (.slice tto s.ts.length tc) (.slice uo s.us.length uc) (.slice oo s.qs.length oc) (.int .i64 (plc s.ev (5,0))) (.int .i64 0) (.int .i64 0)
     obtain ⟨y0,y1,y2,y3,y4,y5,y6,y7,y8,y9⟩:=wrote_cells x1 x2
     refine bodyPost_ret (v:=.tuple #[.agg #[.string nm,.slice (some ⟨rb,0,none⟩) s.rows.length rc,.slice qo s.qs.length qc,.slice vo s.vs.length vc,.slice tto s.ts.length tc,.slice uo s.us.length uc,.slice oo s.qs.length oc,.int .i64 (plc s.ev (5,0))],.agg #[.int .i64 0,.int .i64 0]]) (by simp [results,Tryz.results35,go_sem,y0,y1,y2,y3,y4,y5,y6,y7,y8,y9]) rfl ?_
     rw [HRR.out]
     refine ⟨x3,_,rfl,⟨rb,rc,_,_,_,_,_,rfl,by have:=HA.out.2.2.1;show _<=_;omega,?_⟩⟩
     have hkeep:=HRe.out.kept (.string nm) (.slice (some ⟨rb,0,none⟩) s.rows.length rc) (.slice qo s.qs.length qc) (.slice vo s.vs.length vc) (.slice tto s.ts.length tc) (.slice uo s.us.length uc) (.slice oo s.qs.length oc) (.int .i64 (plc s.ev (5,0))) (.int .i64 0) (.int .i64 0)
     have hrb:=HA.out.2.2.1
     have hbs:=HA.out.2.2.2.1
     have hws:=HWs.out
     obtain ⟨_,g1,_,g3,g4,g5,g6,g7⟩:=H5.out
     have hfin:∀ {b:Nat} {T:TypeId} {sz n:Nat} {v':Value} {xs:List Value},w.heap.size+2<=b->w5.ownsRow b T sz v' n xs->World.ownsRow _ w.heap.size T sz v' n xs:=fun hb h1=>own_base (own_keepB (own_below h1 HB7.out) (fun k hk=>hkeep k (by have:=(World.ownsRow.lt h1 k hk).1;omega))) (by omega)
     refine ⟨(g1.same (HB7.out.block _ g1.lt)).same (hkeep rb (by omega)),hfin hbs g3,hfin hbs g4,hfin hbs g5,hfin hbs g6,?_⟩
     have:=hfin hws g7
     rw [show (onsOf s.ev s.qs.length).length=s.qs.length from onsOf_len _ _]
     exact this
theorem resolve_any {w:World} {ao:Option Addr} {l:List Rz} {cap:Nat} (h:IsRz w ao l) (hl:l.length<=2932031007317):Calls Tryz.prog 35 #[.slice ao l.length cap] w (Told w (res l)):=by
 by_cases hc:(chk l).1=0
 ·have e:res l=resR (rat l 0).name (upto (start l) l.length):=by
   unfold res
   rw [if_neg (by simpa using hc)]
  rw [e]
  exact resolve_yes h hl hc
 ·have e:res l=.error (chk l):=by
   unfold res
   rw [if_pos hc]
  rw [e]
  refine Calls.mono (resolve_no h hl (c1:=(chk l).1) (c2:=(chk l).2) rfl hc) ?_
  rintro e w' ⟨rfl,hb⟩
  exact ⟨hb,rfl⟩
end Go.Proofs.YtfgpbdieaflclaaGreat.Nm
