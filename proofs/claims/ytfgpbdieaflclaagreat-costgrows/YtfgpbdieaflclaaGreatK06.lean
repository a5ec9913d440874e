import Derived.Test.YtfgpbdieaflclaaGreatK05
import Derived.Maps.OwnSet
import Derived.DeepKeys4
set_option maxHeartbeats 12800000
set_option maxRecDepth 100000
namespace Go.Proofs.YtfgpbdieaflclaaGreat.Gr
open Go.RowKit Sp Lx
theorem levels_any (ao:Option Addr) (l:List Rz) (cap:Nat) (w:World) (h:IsRz w ao l) (hn:l.length<=2932031007317):
  Calls Tryz.prog 66 #[.slice ao l.length cap] w fun e w'=>e=.returned (.int .i64 (mx opn loose l l.length))/\Below w.heap.size w w':=by
 have HI:Hid (IsRz w ao l):=h
 have HN:Hid (l.length<=2932031007317):=hn
 have hln:(l.length:Int)<=2932031007317:=by omega
 clear h hn
 go_enter Tryz.func66,Tryz.ntmps66
 go_wp2_with fail
 go_loopg [3,4,11] l.length (fun gq mo x i wr=>∃ (k:Nat) (v:Value),v=x/\mo=.int .i64 (mx opn loose l k)/\i=.int .i64 k/\gq=l.length - k/\k<=l.length/\OwnT wr w.heap.size v (ast opn loose l k)/\Below w.heap.size w wr/\Fits l k)
 case atStart=>exact ⟨0,_,rfl,rfl,rfl,rfl,Nat.zero_le _,World.ownsRow_nil _ _ _ _,Below.refl _ _,fits_zero l⟩
 case round=>
  obtain ⟨k,v,rfl,rfl,rfl,hgk,hk,hOw,hBr,hft⟩:=hrel
  have HG:Hid (gk=l.length - k):=hgk
  have HOr:Hid (OwnT wr w.heap.size v (ast opn loose l k)):=hOw
  have HBr:Hid (Below w.heap.size w wr):=hBr
  have HFt:Hid (Fits l k):=hft
  clear hgk hOw hBr hft
  by_cases hlt:k < l.length
  ·have hlt':(k:Int) < (l.length:Int):=by omega
   obtain ⟨r,g,o,hdr,hlk,rfl,hg,c0,c1,c2,c3,c4⟩:=rows_at (HI.out.below HBr.out) hlt
   have HRt:Hid (rat l k=r):=rat_some hlk
   have HB1:Hid (Below wr.heap.size wr (wr.alloc (.cells #[.int .i64 r.kind,.string r.name,.int .i64 r.stop,.int .i64 r.n,.int .i64 r.kids] 47))):=bAl wr _
   have HPst:Hid (∀ (lv:Int) (W:World),Below wr.heap.size wr W->Calls Tryz.prog 87 #[v,.agg #[.int .i64 r.kind,.string r.name,.int .i64 r.stop,.int .i64 r.n,.int .i64 r.kids],.int .i64 lv] W fun e w'=>∃ v',e=.returned v'/\OwnT w' w.heap.size v' (past (ast opn loose l k) r lv)/\Went W v w' v'):=fun lv W hW=>
    past_any (ast opn loose l k) r lv w.heap.size v W (own_below HOr.out hW) (Nat.le_trans HBr.out.size hW.size) (fun a ha=>by have h1:=HFt.out.2.1 a ha;have h2:=HN.out;omega) (by have h1:=HFt.out.1;have h2:=HN.out;omega)
   have HV:Hid (∀ j,v.ownBlock=some j->w.heap.size<=j):=fun j hj=>(World.ownsRow.lt HOr.out j hj).1
   obtain ⟨a,hta⟩:∃ a,top (ast opn loose l k)=a:=⟨_,rfl⟩
   have HTp:Hid (top (ast opn loose l k)=a):=hta
   have hal:=top_lv HFt.out.2.2.1
   rw [hta] at hal
   have hop:=opn_two r.kind
   have hb1:0<=a.levels+opn r.kind/\a.levels+opn r.kind<=5864062014640:=by have:=HN.out;omega
   have HLs:Hid (∀ W,Below wr.heap.size wr W->Calls Tryz.prog 85 #[v] W fun e w'=>e=.returned (.agg #[.int .i64 a.kind,.int .i64 a.kids,.int .i64 a.seen,.int .i64 a.kid,.int .i64 a.levels])/\Below W.heap.size W w'):=fun W hW=>by
    have:=last_any (ast opn loose l k) w.heap.size v W (own_below HOr.out hW) (by have h1:=HFt.out.1;have h2:=HN.out;omega)
    rw [hta] at this
    exact this
   have hb2:a.levels+opn r.kind+1<=5864062014641:=by omega
   clear hta hdr hlk hlt hop hal
   obtain ⟨bo,bc,rfl⟩:=own_form HOr.out
   go_wp2_with fail
   cases hlz:loose a.kind a.seen r.kind
   ·skip
    have HLz:Hid (∀ w,Calls Tryz.prog 89 #[.int .i64 a.kind,.int .i64 a.seen,.int .i64 r.kind] w fun e w'=>e=.returned (.bool false)/\w'=w):=fun w=>by
     have:=loose_any a.kind a.seen r.kind w
     rw [hlz] at this
     exact this
    have HE:Hid (lev opn loose l k=(a.levels+opn r.kind)):=by
     show lvl opn loose (ast opn loose l k) (rat l k)=_
     rw [HRt.out]
     show (top (ast opn loose l k)).levels+opn r.kind+(if loose (top (ast opn loose l k)).kind (top (ast opn loose l k)).seen r.kind then 1 else 0)=_
     rw [HTp.out,hlz]
     simp
    clear hlz
    refine (HLs.out _ HB1.out).mono ?_
    rintro e w2 ⟨rfl,hB2⟩
    have hB3:Below wr.heap.size wr w2:=HB1.out.trans (hB2.mono HB1.out.size)
    have hz2:wr.heap.size+1<=w2.heap.size:=by have:=hB2.size;simpa using this
    have HB4:Hid (Below wr.heap.size wr (w2.alloc (.cells #[.int .i64 a.kind,.int .i64 a.kids,.int .i64 a.seen,.int .i64 a.kid,.int .i64 a.levels] 119))):=hB3.alloc hB3.size _
    have hne:Nonempty (Kin (w2.alloc (.cells #[.int .i64 a.kind,.int .i64 a.kids,.int .i64 a.seen,.int .i64 a.kid,.int .i64 a.levels] 119))):=Kin.there _
    have hcr:∀ j u,([.int .i64 r.kind,.string r.name,.int .i64 r.stop,.int .i64 r.n,.int .i64 r.kids]:List Value)[j]?=some u->∀ y:Kin (w2.alloc (.cells #[.int .i64 a.kind,.int .i64 a.kids,.int .i64 a.seen,.int .i64 a.kid,.int .i64 a.levels] 119)),y.u.cell? ⟨wr.heap.size,j,none⟩=some u:=fun j u hu y=>
     y.cell (a:=⟨wr.heap.size,j,none⟩) (by simp;omega) ((World.cell?_of_block (a:=⟨wr.heap.size,j,none⟩) (Below.heap_alloc _ _ _ (by show wr.heap.size < _;omega))).trans ((hB2.cell (p:=⟨wr.heap.size,j,none⟩) (by simp)).trans (by rw [World.cell?,heap_alloc_new];simpa using hu)))
    have hca:∀ j u,([.int .i64 a.kind,.int .i64 a.kids,.int .i64 a.seen,.int .i64 a.kid,.int .i64 a.levels]:List Value)[j]?=some u->∀ y:Kin (w2.alloc (.cells #[.int .i64 a.kind,.int .i64 a.kids,.int .i64 a.seen,.int .i64 a.kid,.int .i64 a.levels] 119)),y.u.cell? ⟨w2.heap.size,j,none⟩=some u:=fun j u hu y=>
     y.cell (a:=⟨w2.heap.size,j,none⟩) (by simp) (by rw [World.cell?,heap_alloc_new];simpa using hu)
    have y0:=hcr 0 _ rfl
    have y1:=hcr 1 _ rfl
    have y2:=hcr 2 _ rfl
    have y3:=hcr 3 _ rfl
    have y4:=hcr 4 _ rfl
    have x0:=hca 0 _ rfl
    have x2:=hca 2 _ rfl
    have x4:=hca 4 _ rfl
    have HOP:Hid (∀ w,Calls Tryz.prog 88 #[.int .i64 r.kind] w fun e w'=>e=.returned (.int .i64 (opn r.kind))/\w'=w):=fun w=>opn_any r.kind w
    clear hcr hca hB2 hB3
    go_wp2_with fail
    refine wp_region_kin (by kernel_rfl) (by kernel_rfl) ?_
    iterate 5 quiet_step (exact kin_same (HOP.out _))
    iterate 2 quiet_step (fail)
    refine wpQuiet_nil ?_
    rintro _ ⟨z,rfl⟩
    have HZ:Hid (Below wr.heap.size wr z.u):=HB4.out.trans (z.ok.mono HB4.out.size)
    have z0:=y0 z
    have z1:=y1 z
    have z2:=y2 z
    have z3:=y3 z
    have z4:=y4 z
    have t0:=x0 z
    have t2:=x2 z
    clear y0 y1 y2 y3 y4 x0 x2 x4 hne
    generalize z.u=wz at *
    go_wp2_with fail
    refine (HLz.out wz).mono ?_
    intro e w' hh
    obtain ⟨rfl,hw⟩:=hh
    rw [hw]
    clear hw w'
    go_wp2_with fail
    refine (HPst.out (a.levels+opn r.kind) wz HZ.out).mono ?_
    rintro e w8 ⟨v8,rfl,hO8,hW8⟩
    have HO8:Hid (OwnT w8 w.heap.size v8 (past (ast opn loose l k) r (a.levels+opn r.kind))):=hO8
    have HB8:Hid (Below w.heap.size w w8):=(HBr.out.trans (HZ.out.mono HBr.out.size)).trans (hW8.low HV.out (Nat.le_trans HBr.out.size HZ.out.size))
    obtain ⟨bo8,bc8,rfl⟩:=own_form hO8
    clear hO8 hW8
    go_wp2_with fail
    go_roundg (l.length - (k+1))
    case measure=>have:=HG.out;omega
    case rel=>
     have q1:Value.int .i64 (max (mx opn loose l k) (a.levels+opn r.kind))=Value.int .i64 (mx opn loose l (k+1)):=by rw [mx_succ,HE.out];exact lev_max _ _
     have q2:OwnT w8 w.heap.size (.slice bo8 (past (ast opn loose l k) r (a.levels+opn r.kind)).length bc8) (ast opn loose l (k+1)):=by rw [ast_succ,HE.out,HRt.out];exact HO8.out
     have q3:Fits l (k+1):=fits_succ l HFt.out
     exact ⟨k+1,_,rfl,q1,by go_num,rfl,by omega,q2,HB8.out,q3⟩
   ·skip
    have HLz:Hid (∀ w,Calls Tryz.prog 89 #[.int .i64 a.kind,.int .i64 a.seen,.int .i64 r.kind] w fun e w'=>e=.returned (.bool true)/\w'=w):=fun w=>by
     have:=loose_any a.kind a.seen r.kind w
     rw [hlz] at this
     exact this
    have HE:Hid (lev opn loose l k=(a.levels+opn r.kind+1)):=by
     show lvl opn loose (ast opn loose l k) (rat l k)=_
     rw [HRt.out]
     show (top (ast opn loose l k)).levels+opn r.kind+(if loose (top (ast opn loose l k)).kind (top (ast opn loose l k)).seen r.kind then 1 else 0)=_
     rw [HTp.out,hlz]
     simp
    clear hlz
    refine (HLs.out _ HB1.out).mono ?_
    rintro e w2 ⟨rfl,hB2⟩
    have hB3:Below wr.heap.size wr w2:=HB1.out.trans (hB2.mono HB1.out.size)
    have hz2:wr.heap.size+1<=w2.heap.size:=by have:=hB2.size;simpa using this
    have HB4:Hid (Below wr.heap.size wr (w2.alloc (.cells #[.int .i64 a.kind,.int .i64 a.kids,.int .i64 a.seen,.int .i64 a.kid,.int .i64 a.levels] 119))):=hB3.alloc hB3.size _
    have hne:Nonempty (Kin (w2.alloc (.cells #[.int .i64 a.kind,.int .i64 a.kids,.int .i64 a.seen,.int .i64 a.kid,.int .i64 a.levels] 119))):=Kin.there _
    have hcr:∀ j u,([.int .i64 r.kind,.string r.name,.int .i64 r.stop,.int .i64 r.n,.int .i64 r.kids]:List Value)[j]?=some u->∀ y:Kin (w2.alloc (.cells #[.int .i64 a.kind,.int .i64 a.kids,.int .i64 a.seen,.int .i64 a.kid,.int .i64 a.levels] 119)),y.u.cell? ⟨wr.heap.size,j,none⟩=some u:=fun j u hu y=>
     y.cell (a:=⟨wr.heap.size,j,none⟩) (by simp;omega) ((World.cell?_of_block (a:=⟨wr.heap.size,j,none⟩) (Below.heap_alloc _ _ _ (by show wr.heap.size < _;omega))).trans ((hB2.cell (p:=⟨wr.heap.size,j,none⟩) (by simp)).trans (by rw [World.cell?,heap_alloc_new];simpa using hu)))
    have hca:∀ j u,([.int .i64 a.kind,.int .i64 a.kids,.int .i64 a.seen,.int .i64 a.kid,.int .i64 a.levels]:List Value)[j]?=some u->∀ y:Kin (w2.alloc (.cells #[.int .i64 a.kind,.int .i64 a.kids,.int .i64 a.seen,.int .i64 a.kid,.int .i64 a.levels] 119)),y.u.cell? ⟨w2.heap.size,j,none⟩=some u:=fun j u hu y=>
     y.cell (a:=⟨w2.heap.size,j,none⟩) (by simp) (by rw [World.cell?,heap_alloc_new];simpa using hu)
    have y0:=hcr 0 _ rfl
    have y1:=hcr 1 _ rfl
    have y2:=hcr 2 _ rfl
    have y3:=hcr 3 _ rfl
    have y4:=hcr 4 _ rfl
    have x0:=hca 0 _ rfl
    have x2:=hca 2 _ rfl
    have x4:=hca 4 _ rfl
    have HOP:Hid (∀ w,Calls Tryz.prog 88 #[.int .i64 r.kind] w fun e w'=>e=.returned (.int .i64 (opn r.kind))/\w'=w):=fun w=>opn_any r.kind w
    clear hcr hca hB2 hB3
    go_wp2_with fail
    refine wp_region_kin (by kernel_rfl) (by kernel_rfl) ?_
    iterate 5 quiet_step (exact kin_same (HOP.out _))
    iterate 2 quiet_step (fail)
    refine wpQuiet_nil ?_
    rintro _ ⟨z,rfl⟩
    have HZ:Hid (Below wr.heap.size wr z.u):=HB4.out.trans (z.ok.mono HB4.out.size)
    have z0:=y0 z
    have z1:=y1 z
    have z2:=y2 z
    have z3:=y3 z
    have z4:=y4 z
    have t0:=x0 z
    have t2:=x2 z
    clear y0 y1 y2 y3 y4 x0 x2 x4 hne
    generalize z.u=wz at *
    go_wp2_with fail
    refine (HLz.out wz).mono ?_
    intro e w' hh
    obtain ⟨rfl,hw⟩:=hh
    rw [hw]
    clear hw w'
    go_wp2_with fail
    refine (HPst.out (a.levels+opn r.kind+1) wz HZ.out).mono ?_
    rintro e w8 ⟨v8,rfl,hO8,hW8⟩
    have HO8:Hid (OwnT w8 w.heap.size v8 (past (ast opn loose l k) r (a.levels+opn r.kind+1))):=hO8
    have HB8:Hid (Below w.heap.size w w8):=(HBr.out.trans (HZ.out.mono HBr.out.size)).trans (hW8.low HV.out (Nat.le_trans HBr.out.size HZ.out.size))
    obtain ⟨bo8,bc8,rfl⟩:=own_form hO8
    clear hO8 hW8
    go_wp2_with fail
    go_roundg (l.length - (k+1))
    case measure=>have:=HG.out;omega
    case rel=>
     have q1:Value.int .i64 (max (mx opn loose l k) (a.levels+opn r.kind+1))=Value.int .i64 (mx opn loose l (k+1)):=by rw [mx_succ,HE.out];exact lev_max _ _
     have q2:OwnT w8 w.heap.size (.slice bo8 (past (ast opn loose l k) r (a.levels+opn r.kind+1)).length bc8) (ast opn loose l (k+1)):=by rw [ast_succ,HE.out,HRt.out];exact HO8.out
     have q3:Fits l (k+1):=fits_succ l HFt.out
     exact ⟨k+1,_,rfl,q1,by go_num,rfl,by omega,q2,HB8.out,q3⟩
  ·have hlt':¬ ((k:Int) < (l.length:Int)):=by omega
   have hke:k=l.length:=by omega
   subst hke
   go_wp2_with fail
   go_ret
   exact ⟨rfl,HBr.out⟩
def chk (l:List Rz):Nat × Nat:=if (wrong [ab1] 0 l).2 then (23,(wrong [ab1] 0 l).1) else if 64 < mx opn loose l l.length then (22,0) else (0,0)
theorem two_cells {u:World} {B:Nat} {T:TypeId} {x y:Value} (a b:Value) (h:u.heap[B]?=some (.cells #[x,y] T (0,0))):((u.setCell ⟨B,0,none⟩ a).setCell ⟨B,1,none⟩ b).cell? ⟨B,0,none⟩=some a/\((u.setCell ⟨B,0,none⟩ a).setCell ⟨B,1,none⟩ b).cell? ⟨B,1,none⟩=some b:=by
 have h1:=heap_setCell_same u B 0 #[x,y] T a h
 have h2:=heap_setCell_same _ B 1 _ T b h1
 constructor
 ·rw [World.cell?,h2];rfl
 ·rw [World.cell?,h2];rfl
theorem check_any (ao:Option Addr) (l:List Rz) (cap:Nat) (w:World) (h:IsRz w ao l) (hn:l.length<=2932031007317):
  Calls Tryz.prog 46 #[.slice ao l.length cap] w fun e w'=>e=.returned (.agg #[.int .i64 ((chk l).1:Nat),.int .i64 ((chk l).2:Nat)])/\Below w.heap.size w w':=by
 have hb1:Below w.heap.size w (w.alloc (.cells #[.int .i64 0,.int .i64 0] 31)):=bAl w _
 have HF:=show Hid (Calls Tryz.prog 65 #[.slice ao l.length cap] (w.alloc (.cells #[.int .i64 0,.int .i64 0] 31)) fun e w'=>e=.returned (.tuple #[.int .i64 ((wrong [ab1] 0 l).1:Nat),.bool (wrong [ab1] 0 l).2])/\Below (w.alloc (.cells #[.int .i64 0,.int .i64 0] 31)).heap.size (w.alloc (.cells #[.int .i64 0,.int .i64 0] 31)) w') from
  firstWrong_any ao l cap _ (h.below hb1) hn
 have HL:Hid (∀ W,Below w.heap.size w W->Calls Tryz.prog 66 #[.slice ao l.length cap] W fun e w'=>e=.returned (.int .i64 (mx opn loose l l.length))/\Below W.heap.size W w'):=fun W hW=>levels_any ao l cap W (h.below hW) hn
 have HC:Hid (chk l=if (wrong [ab1] 0 l).2 then (23,(wrong [ab1] 0 l).1) else if 64 < mx opn loose l l.length then (22,0) else (0,0)):=rfl
 have HB1:Hid (Below w.heap.size w (w.alloc (.cells #[.int .i64 0,.int .i64 0] 31))):=hb1
 clear h hn hb1
 generalize chk l=C at *
 generalize wrong [ab1] 0 l=F at *
 generalize mx opn loose l l.length=X at *
 obtain ⟨f1,f2⟩:=F
 go_enter Tryz.func46,Tryz.ntmps46
 go_wp2_with fail
 refine HF.out.mono ?_
 rintro e w1 ⟨rfl,hB1⟩
 have hz:=hB1.size
 rw [World.size_alloc] at hz
 have hT1:w1.heap[w.heap.size]?=some (.cells #[.int .i64 0,.int .i64 0] 31 (0,0)):=(hB1.block w.heap.size (by simp)).trans (heap_alloc_new w _)
 have HB2:Hid (Below w.heap.size w w1):=HB1.out.trans (hB1.mono HB1.out.size)
 have hgz:w.heap.size < w1.heap.size:=by omega
 clear hB1 hz
 cases f2
 ·go_wp2_with fail
  refine (HL.out w1 HB2.out).mono ?_
  rintro e w2 ⟨rfl,hB3⟩
  have HT2:Hid (w2.heap[w.heap.size]?=some (.cells #[.int .i64 0,.int .i64 0] 31 (0,0))):=(hB3.block w.heap.size hgz).trans hT1
  have d0:w2.cell? ⟨w.heap.size,0,none⟩=some (.int .i64 0):=by rw [World.cell?,HT2.out];rfl
  have d1:w2.cell? ⟨w.heap.size,1,none⟩=some (.int .i64 0):=by rw [World.cell?,HT2.out];rfl
  have hf2:∀ j,w2.frozen? ⟨w.heap.size,j,none⟩=false:=fun j=>by rw [World.frozen?,HT2.out];rfl
  have HB4:Hid (Below w.heap.size w w2):=HB2.out.trans (hB3.mono HB2.out.size)
  clear hB3 hT1
  by_cases hx:64 < X
  ·have HC2:Hid (C=(22,0)):=by show _=_;rw [HC.out];simp [hx]
   clear HC
   go_wp2_with fail
   obtain ⟨q0,q1⟩:=two_cells (.int .i64 22) (.int .i64 0) HT2.out
   exact bodyPost_ret (v:=.agg #[.int .i64 22,.int .i64 0]) (by simp [results,Tryz.results46,go_sem,q0,q1]) rfl ⟨by rw [HC2.out];rfl,(HB4.out.setCell (p:=⟨w.heap.size,0,none⟩) (Nat.le_refl _) _).setCell (p:=⟨w.heap.size,1,none⟩) (Nat.le_refl _) _⟩
  ·have HC2:Hid (C=(0,0)):=by show _=_;rw [HC.out];simp [hx]
   clear HC
   go_wp2_with fail
   obtain ⟨q0,q1⟩:=two_cells (.int .i64 0) (.int .i64 0) HT2.out
   exact bodyPost_ret (v:=.agg #[.int .i64 0,.int .i64 0]) (by simp [results,Tryz.results46,go_sem,q0,q1]) rfl ⟨by rw [HC2.out];rfl,(HB4.out.setCell (p:=⟨w.heap.size,0,none⟩) (Nat.le_refl _) _).setCell (p:=⟨w.heap.size,1,none⟩) (Nat.le_refl _) _⟩
 ·have HC2:Hid (C=(23,f1)):=by show _=_;rw [HC.out];simp
  clear HC
  have HT2:Hid (w1.heap[w.heap.size]?=some (.cells #[.int .i64 0,.int .i64 0] 31 (0,0))):=hT1
  have d0:w1.cell? ⟨w.heap.size,0,none⟩=some (.int .i64 0):=by rw [World.cell?,HT2.out];rfl
  have d1:w1.cell? ⟨w.heap.size,1,none⟩=some (.int .i64 0):=by rw [World.cell?,HT2.out];rfl
  have hf2:∀ j,w1.frozen? ⟨w.heap.size,j,none⟩=false:=fun j=>by rw [World.frozen?,HT2.out];rfl
  clear hT1
  go_wp2_with fail
  obtain ⟨q0,q1⟩:=two_cells (.int .i64 23) (.int .i64 (f1:Int)) HT2.out
  exact bodyPost_ret (v:=.agg #[.int .i64 23,.int .i64 f1]) (by simp [results,Tryz.results46,go_sem,q0,q1]) rfl ⟨by rw [HC2.out];rfl,(HB2.out.setCell (p:=⟨w.heap.size,0,none⟩) (Nat.le_refl _) _).setCell (p:=⟨w.heap.size,1,none⟩) (Nat.le_refl _) _⟩
theorem filled_kids {r:Rz} (h:filled r=true):0<=r.kids:=by
 unfold filled wtn at h
 simp at h
 omega
def mis:List Ab->Nat
 | []=>0
 | a :: t=>(a.kids - a.seen).toNat+mis t
theorem mis_pop (t:List Ab):mis (pop t)=mis t:=by
 induction t with
 | nil=>rfl
 | cons a t ih=>
  simp only [pop]
  split
  ·rw [ih];simp only [mis];omega
  ·rfl
theorem wrong_whole (l:List Rz):∀ (t:List Ab) (i:Nat),(t=[]\/∃ a r,t=a :: r/\(a.seen:Int) < a.kids)->(wrong t i l).2=false->sz l (mis t)=some l.length:=by
 induction l with
 | nil=>
  intro t i _ h
  cases t with
  | nil=>rfl
  | cons a t=>cases h
 | cons r l ih=>
  intro t i ht h
  simp only [wrong] at h
  split at h
  ·cases h
  ·rename_i hc
   rcases ht with rfl | ⟨a,t,rfl,hlt⟩
   ·simp at hc
   ·simp only [List.isEmpty_cons,Bool.false_or,Bool.not_eq_true',Bool.not_eq_false,Bool.and_eq_true] at hc
    have hk:=filled_kids hc.2
    have hp:past (a :: t) r 0=[]\/∃ b q,past (a :: t) r 0=b :: q/\(b.seen:Int) < b.kids:=by
     have:∀ x:List Ab,pop x=[]\/∃ b q,pop x=b :: q/\(b.seen:Int) < b.kids:=by
      intro x
      induction x with
      | nil=>exact Or.inl rfl
      | cons c x ihx=>
       simp only [pop]
       split
       ·exact ihx
       ·exact Or.inr ⟨c,x,rfl,by omega⟩
     exact this _
    have h1:=ih _ _ hp h
    have hm:mis (past (a :: t) r 0)=mis (a :: t) - 1+r.m:=by
     show mis (pop _)=_
     rw [mis_pop]
     simp only [mis,bump,Rz.m]
     omega
    rw [hm] at h1
    exact sz_mk (by simp only [mis];omega) h1
theorem whole_of {l:List Rz} (h:(wrong [ab1] 0 l).2=false):Whole l:=wrong_whole l [ab1] 0 (Or.inr ⟨ab1,[],rfl,by show (0:Int) < 1;omega⟩) h
structure TreeZ (l:List Rz):Prop where
 whole:Whole l
 kids:∀ i,i < l.length->(rat l i).kids=(km l i:Int)
theorem kids_at {w:World} {ao:Option Addr} {l:List Rz} (h:IsRz w ao l) (hT:TreeZ l) {k:Nat} (hk:k < l.length):∃ g o,ao=some ⟨g,o,none⟩/\g < w.heap.size/\w.cell? ⟨g,o+k * 5,none⟩=some (.int .i64 (rat l k).kind)/\w.cell? ⟨g,o+k * 5+4,none⟩=some (.int .i64 (km l k:Int)):=by
 obtain ⟨g,o,e,hg,c0,_,_,_,c4⟩:=h k _ (some_rat hk)
 rw [hT.kids k hk] at c4
 exact ⟨g,o,e,hg,c0,c4⟩
theorem wrong_all (l:List Rz):∀ (t:List Ab) (i:Nat),(wrong t i l).2=false->∀ r ∈ l,filled r=true:=by
 induction l with
 | nil=>intro _ _ _ r hr;cases hr
 | cons x l ih=>
  intro t i h r hr
  simp only [wrong] at h
  split at h
  ·cases h
  ·rename_i hc
   rcases List.mem_cons.1 hr with rfl | hr
   ·cases hf:filled r
    ·rw [hf] at hc;simp at hc
    ·rfl
   ·exact ih _ _ h r hr
theorem tree_of {l:List Rz} (h:(wrong [ab1] 0 l).2=false):TreeZ l/\0 < l.length:=by
 have hW:=whole_of h
 refine ⟨⟨hW,fun i hi=>?_⟩,?_⟩
 ·have hm:rat l i ∈ l:=List.mem_of_getElem? (some_rat hi)
  have:=filled_kids (wrong_all l _ _ h _ hm)
  rw [km_rat]
  unfold Rz.m
  omega
 ·have:=(sz_pos (Nat.le_refl 1) hW).2
  omega
theorem km_le {l:List Rz} (h:Whole l) {m:Nat} (hm:m < l.length):km l m<=l.length:=by
 have:∀ j,j<=km l m->j<=kidp l m j:=by
  intro j
  induction j with
  | zero=>intro _;omega
  | succ j ih=>
   intro hj
   obtain ⟨h1,h2,h3⟩:=kid_at h hm (k:=j) (by omega)
   have h4:=(end_kid h h1).2.1
   have:=ih (by omega)
   omega
 have h1:=this _ (Nat.le_refl _)
 have h2:=kid_le h hm (Nat.le_refl _)
 omega
def Mis (l:List Rz) (E m j:Nat):Prop:=∃ x,sz (l.drop j) m=some x/\E=j+x
theorem mis_start {l:List Rz} (h:Whole l) {i:Nat} (hi:i < l.length):Mis l (endp l i) 1 i:=by
 obtain ⟨x,h1,h2,h3⟩:=one_at h hi
 exact ⟨x+1,h2,by unfold endp;rw [h2];rfl⟩
theorem mis_step {l:List Rz} {E m j:Nat} (h:Mis l E (m+1) j):j < l.length/\Mis l E (m+km l j) (j+1):=by
 obtain ⟨x,h1,h2⟩:=h
 have h3:=sz_pos (by omega) h1
 rw [List.length_drop] at h3
 have hj:j < l.length:=by omega
 obtain ⟨r,_,h5,h6⟩:=drop_at hj
 rw [h5] at h1
 obtain ⟨h7,h8⟩:=sz_cons (by omega) h1
 refine ⟨hj,x - 1,?_,by omega⟩
 rw [h6,<-h8]
 congr 1
theorem mis_done {l:List Rz} {E j:Nat} (h:Mis l E 0 j):E=j:=by
 obtain ⟨x,h1,h2⟩:=h
 rw [sz_zero] at h1
 have:=Option.some.inj h1
 omega
theorem mis_le:∀ (l':List Rz) (m x:Nat),sz l' m=some x->m<=l'.length:=by
 intro l'
 induction l' with
 | nil=>intro m x h;simp only [sz] at h;split at h<;>simp_all
 | cons r t ih=>
  intro m x h
  by_cases hm:m=0
  ·omega
  ·have:=ih _ _ (sz_cons (by omega) h).2
   simp only [List.length_cons];omega
theorem end_any (ao:Option Addr) (l:List Rz) (cap i:Nat) (w:World) (h:IsRz w ao l) (hn:l.length<=2932031007317) (hT:TreeZ l) (hi:i < l.length):
  Calls Tryz.prog 70 #[.slice ao l.length cap,.int .i64 i] w fun e w'=>e=.returned (.int .i64 (endp l i:Nat))/\w'=w:=by
 have HI:Hid (IsRz w ao l):=h
 have HT:Hid (TreeZ l):=hT
 have HN:Hid (l.length<=2932031007317):=hn
 have HM:Hid (Mis l (endp l i) 1 i):=mis_start hT.whole hi
 have hln:(l.length:Int)<=2932031007317:=by omega
 have hi2:(i:Int)<=2932031007317:=by omega
 clear h hn hT
 go_enter Tryz.func70,Tryz.ntmps70
 go_wp2_with fail
 go_loopg [1,5] (l.length - i) (fun gq x y wr=>∃ j m:Nat,j<=l.length/\gq=l.length - j/\x=.int .i64 j/\y=.int .i64 m/\Mis l (endp l i) m j/\wr=w)
 case atStart=>exact ⟨i,1,by omega,rfl,rfl,rfl,HM.out,rfl⟩
 case round=>
  obtain ⟨j,m,hj,hgk,rfl,rfl,hMs,hw⟩:=hrel
  have HG:Hid (gk=l.length - j):=hgk
  have HMs:Hid (Mis l (endp l i) m j):=hMs
  rw [hw]
  clear hgk hMs hw
  have hj2:(j:Int)<=2932031007317:=by omega
  have hm2:(m:Int)<=2932031007317:=by
   obtain ⟨x,h1,_⟩:=HMs.out
   have:=mis_le _ _ _ h1
   rw [List.length_drop] at this
   omega
  cases m with
  | zero=>
   have HE:=hdn <| mis_done HMs.out
   go_wp2_with fail
   go_ret
   exact ⟨by rw [HE.out];rfl,rfl⟩
  | succ m=>
   obtain ⟨hjl,hnx⟩:=mis_step HMs.out
   have HNx:Hid (Mis l (endp l i) (m+km l j) (j+1)):=hnx
   have hjl':(j:Int) < (l.length:Int):=by omega
   obtain ⟨g,o,rfl,hg,_,c4⟩:=kids_at HI.out HT.out hjl
   have hkm:(km l j:Int)<=2932031007317:=by have:=km_le HT.out.whole hjl;omega
   have hmp:(0:Int) < ((m+1:Nat):Int):=by omega
   have hcast:((m+1:Nat):Int)=(m:Int)+1:=by omega
   rw [hcast] at hm2 hmp ⊢
   clear hnx hjl hj hcast
   go_wp2_with fail
   go_roundg (l.length - (j+1))
   case measure=>have h1:=HG.out;omega
   case rel=>exact ⟨j+1,m+km l j,by omega,rfl,by go_num,by go_num,HNx.out,rfl⟩
end Go.Proofs.YtfgpbdieaflclaaGreat.Gr
namespace Go.Proofs.YtfgpbdieaflclaaGreat.Nm
open Go.RowKit Go.Maps Sp Lx
def R0 (v:Value):Option (DataW Value × List MemPlace):=some (.held v,[])
structure Mp (κ:Type) where
 k:TypeId
 e:TypeId
 t:TypeId
 kv:κ->Value
 kl:κ->Lit
 ok:κ->Prop
 z:Value
structure Mp.Law {κ:Type} (M:Mp κ):Prop where
 K:Keyed Tryz.prog M.k
 ht:Tryz.prog.underlying M.t=some (.map M.k M.e)
 key:∀ x,M.ok x->keyOf Tryz.prog M.k (M.kv x)=some (M.kl x)
 vin:∀ x y,M.kv x=M.kv y->x=y
 zero:∀ w,(zeroValue M.e).run Tryz.prog w=.ok M.z w
theorem Mp.Law.lit {κ:Type} {M:Mp κ} (L:M.Law) {x:κ} (h:M.ok x):WideAt.IsKeyLit (M.kl x):=L.K.key (L.key x h)
theorem Mp.Law.inj {κ:Type} {M:Mp κ} (L:M.Law) {x y:κ} (hx:M.ok x) (hy:M.ok y) (e:M.kl x=M.kl y):x=y:=L.vin x y (L.K.inj (L.key x hx) (by rw [e];exact L.key y hy))
def IsMp {κ:Type} (M:Mp κ) (w:World) (b:Nat) (m:κ->Option Value) (n:Nat):Prop:=∃ D:DataW Value,w.ownsMap Tryz.prog M.k R0 b n D/\Tidy D/\Maps.size D=n/\∀ x,M.ok x->Maps.has D (M.kl x)=(m x).isSome/\∀ v,m x=some v->D.atKey (M.kl x) (.held M.z)=.held v
open Classical in
noncomputable def upd {κ:Type} (m:κ->Option Value) (k:κ) (x:Option Value):κ->Option Value:=fun j=>if j=k then x else m j
theorem upd_same {κ:Type} (m:κ->Option Value) (k:κ) (x:Option Value):upd m k x k=x:=by simp [upd]
theorem upd_ne {κ:Type} {m:κ->Option Value} {k j:κ} {x:Option Value} (h:j ≠ k):upd m k x j=m j:=by simp [upd,h]
section
variable {κ:Type} {M:Mp κ} {w w':World} {b n:Nat} {k:κ} {m:κ->Option Value}
theorem IsMp.blk (h:IsMp M w b m n):∃ es c,w.heap[b]?=some (.map es c):=by
 obtain ⟨D,⟨es,c,hb,_⟩,_⟩:=h
 exact ⟨es,c,hb⟩
theorem IsMp.lt (h:IsMp M w b m n):b < w.heap.size:=by
 obtain ⟨es,c,hb⟩:=h.blk
 exact (Array.getElem?_eq_some_iff.1 hb).1
theorem IsMp.ne_cells (h:IsMp M w b m n) {g:Nat} {cs:Array Value} {T:TypeId} {f:Nat × Nat} (hg:w.heap[g]?=some (.cells cs T f)):g ≠ b:=by
 rintro rfl
 obtain ⟨es,c,hb⟩:=h.blk
 rw [hb] at hg
 cases hg
theorem IsMp.same (h:IsMp M w b m n) (hb:w'.heap[b]?=w.heap[b]?):IsMp M w' b m n:=by
 obtain ⟨D,⟨es,c,h1,h2⟩,h3⟩:=h
 exact ⟨D,⟨es,c,hb.trans h1,h2⟩,h3⟩
theorem IsMp.made (M:Mp κ) (w:World):IsMp M (w.alloc (.map #[] 0)) w.heap.size (fun _=>none) 0:=
 ⟨.map [],World.ownsMap_made w _ _ _,tidy_empty,rfl,fun k _=>⟨rfl,fun v hv=>by cases hv⟩⟩
theorem IsMp.at_ (D:DataW Value) (hD:Maps.has D (M.kl k)=(m k).isSome/\∀ v,m k=some v->D.atKey (M.kl k) (.held M.z)=.held v):D.atKey (M.kl k) (.held M.z)=.held ((m k).getD M.z):=by
 cases hm:m k with
 | none=>
  rw [atKey_of_not_has (by rw [hD.1,hm];rfl)]
  rfl
 | some v=>exact hD.2 v hm
theorem IsMp.look (L:M.Law) (h:IsMp M w b m n) (hk:M.ok k):(Instr.lookup M.t (.map (some b)) (M.kv k) false).run Tryz.prog w=.ok ((m k).getD M.z) w:=by
 obtain ⟨D,h1,_,_,h2⟩:=h
 obtain ⟨v,ps,e1,e2⟩:=h1.lookup L.K L.ht (L.zero w) (zd:=.held M.z) (zp:=[]) rfl (L.key k hk)
 rw [IsMp.at_ D (h2 k hk)] at e2
 cases e2
 exact e1
theorem IsMp.lookOk (L:M.Law) (h:IsMp M w b m n) (hk:M.ok k):(Instr.lookup M.t (.map (some b)) (M.kv k) true).run Tryz.prog w=.ok (.tuple #[(m k).getD M.z,.bool (m k).isSome]) w:=by
 obtain ⟨D,h1,_,_,h2⟩:=h
 obtain ⟨v,ps,e1,e2⟩:=h1.look_ok L.K L.ht (L.zero w) (zd:=.held M.z) (zp:=[]) rfl (L.key k hk)
 rw [IsMp.at_ D (h2 k hk)] at e2
 rw [(h2 k hk).1] at e1
 cases e2
 exact e1
theorem IsMp.put (L:M.Law) (h:IsMp M w b m n) (hk:M.ok k) (hn:n < maxLen) (v:Value):∃ w',(Instr.mapUpdate M.t (.map (some b)) (M.kv k) v).run Tryz.prog w=.ok () w'/\IsMp M w' b (upd m k (some v)) (if (m k).isSome then n else n+1)/\w.grownBy w' (some b):=by
 obtain ⟨D,h1,ht,hs,h2⟩:=h
 obtain ⟨w',e1,e2,e3⟩:=h1.update L.K L.ht hn (L.key k hk) (val:=v) (d:=.held v) (ps:=[]) rfl
 have hsz:Maps.size (D.put (M.kl k) (.held v))=if (m k).isSome then n else n+1:=by rw [size_put ht,(h2 k hk).1,hs]
 refine ⟨w',e1,⟨_,?_,ht.put (L.lit hk) _,hsz,fun j hj=>?_⟩,e3⟩
 ·obtain ⟨es,c,q1,q2,q3,q4⟩:=e2
  refine ⟨es,c,q1,q2,?_,q4⟩
  rw [<-hsz,q4]
  simp [Maps.size,length_sorted]
 ·by_cases e:j=k
  ·subst e
   rw [upd_same]
   exact ⟨has_put_same ht.isMap (L.lit hj) _,fun x hx=>by cases hx;exact atKey_put_same ht.isMap (L.lit hj) _ _⟩
  ·rw [upd_ne e]
   have hne:M.kl j ≠ M.kl k:=fun e2=>e (L.inj hj hk e2)
   exact ⟨(has_put_other hne _).trans (h2 j hj).1,fun x hx=>(atKey_put_other hne _ _).trans ((h2 j hj).2 x hx)⟩
end
def kmap:Mp ByteArray:=⟨9,110,86,fun s=>.string s,fun s=>.string s.data.toList,fun s=>s.size<=maxLen,.agg #[.int .i64 0,.int .i64 0,.int .i64 0]⟩
def cmap:Mp Nat:=⟨3,3,105,fun k=>.int .i64 (k:Int),fun k=>.int .i64 (k:Int),fun k=>k<=4,.int .i64 0⟩
theorem cmap_law:cmap.Law:=
 ⟨int_keyed Tryz.underlying3,Tryz.underlying105,fun x hx=>keyOf_int_mk Tryz.underlying3 (by have hx':x<=4:=hx;simp [Lit.wf,IntKind.min,IntKind.max,IntKind.bits,IntKind.signed];omega),fun x y e=>by
  have e':Value.int .i64 (x:Int)=Value.int .i64 (y:Int):=e
  injection e' with _ e'
  omega,fun w=>by kernel_rfl⟩
theorem kmap_law:kmap.Law:=
 ⟨string_keyed Tryz.underlying9,Tryz.underlying86,fun x hx=>WideMaps.keyOf_string_mk Tryz.underlying9 hx,fun x y e=>by
  have e':Value.string x=Value.string y:=e
  injection e',fun w=>by kernel_rfl⟩
noncomputable def bmap:Mp (Nat × Nat):=⟨108,3,87,fun x=>.agg #[.int .i64 (x.1:Int),.int .i64 (x.2:Int)],fun x=>(keyOf Tryz.prog 108 (.agg #[.int .i64 (x.1:Int),.int .i64 (x.2:Int)])).getD .nil,fun x=>x.1<=5/\x.2<=16,.int .i64 0⟩
theorem laidOutN:laidOutB Tryz.prog=true:=by kernel_rfl
theorem thing_row:(108:TypeId) < Tryz.prog.types.size:=of_decide_eq_true (by kernel_rfl)
theorem thing_wide:(match Tryz.prog.underlying 108 with | some (.array _ _) | some (.struct _)=>true | _=>false)=true:=by rw [Tryz.underlying108]
theorem thing_law:WideMaps.KeyLaw Tryz.prog 108:=deep_law_laid laidOutN (m:=2) (by omega) thing_row (by kernel_rfl) thing_wide
theorem thing_key {x:Nat × Nat} (h:x.1<=5/\x.2<=16):∃ l,keyOf Tryz.prog 108 (.agg #[.int .i64 (x.1:Int),.int .i64 (x.2:Int)])=some l:=by
 have hkt:Tryz.prog.keyType 108=true:=by kernel_rfl
 have hce:Tryz.prog.cellsOf 108=2:=by kernel_rfl
 have hci:Tryz.prog.cellsOf 3=1:=by kernel_rfl
 have hfo:(Value.agg #[.int .i64 (x.1:Int),.int .i64 (x.2:Int)]).formed Tryz.prog 108=true:=by simp [Value.formed,Tryz.underlying108,hce]
 obtain ⟨n,hn⟩:∃ n,Tryz.prog.types.size=n+1:=⟨Tryz.prog.types.size - 1,by have h0:0 < Tryz.prog.types.size:=Nat.lt_of_le_of_lt (Nat.zero_le _) thing_row;omega⟩
 have hw1:(Lit.int .i64 (x.1:Int)).wf=true:=by simp [Lit.wf,IntKind.min,IntKind.max,IntKind.bits,IntKind.signed];omega
 have hw2:(Lit.int .i64 (x.2:Int)).wf=true:=by simp [Lit.wf,IntKind.min,IntKind.max,IntKind.bits,IntKind.signed];omega
 unfold keyOf
 rw [Tryz.underlying108]
 simp only [hkt,hfo,Bool.and_self,if_true,hn]
 simp [Program.keyLits,Tryz.underlying108,Tryz.underlying3,hce,hci,Value.cells,hw1,hw2]
theorem bmap_law:bmap.Law:=
 ⟨Keyed.of_law thing_law,Tryz.underlying87,fun x hx=>by
  obtain ⟨l,hl⟩:=thing_key (x:=x) hx
  show keyOf Tryz.prog 108 (.agg #[.int .i64 (x.1:Int),.int .i64 (x.2:Int)])=some ((keyOf Tryz.prog 108 (.agg #[.int .i64 (x.1:Int),.int .i64 (x.2:Int)])).getD .nil)
  rw [hl]
  rfl,fun x y e=>by
  have e':Value.agg #[.int .i64 (x.1:Int),.int .i64 (x.2:Int)]=Value.agg #[.int .i64 (y.1:Int),.int .i64 (y.2:Int)]:=e
  obtain ⟨x1,x2⟩:=x
  obtain ⟨y1,y2⟩:=y
  simp at e'
  obtain ⟨e1,e2⟩:=e'
  rw [show x1=y1 by omega,show x2=y2 by omega],fun w=>by kernel_rfl⟩
end Go.Proofs.YtfgpbdieaflclaaGreat.Nm
