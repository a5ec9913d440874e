import Derived.Test.YtfgpbdieaflclaaGreatK04
import Derived.Test.YtfgpbdieaflclaaGreatK03
set_option maxHeartbeats 12800000
set_option maxRecDepth 100000
namespace Go.Proofs.YtfgpbdieaflclaaGreat.Gr
open Go.RowKit Sp Lx
def none0 (s:ByteArray):Bool:=s.toList == []
def nameFits (r:Rz):Bool:=if nmd r.kind then isName (tx r.name) else none0 r.name
def filled (r:Rz):Bool:=nameFits r && (wtn r.stop 0 (lastEnd r.kind) && (wtn r.n 0 (lastNum r.kind) && wtn r.kids (least r.kind:Nat) (greatest r.kind)))
theorem nameFits_any (r:Rz) (w:World):Calls Tryz.prog 100 #[agr r] w fun e w'=>e=.returned (.bool (nameFits r))/\Below w.heap.size w w':=by
 obtain ⟨k,s,e,n,m⟩:=r
 have H1:Hid (∀ w,Calls Tryz.prog 106 #[.int .i64 k] w fun e w'=>e=.returned (.bool (nmd k))/\w'=w):=fun w=>nmd_any k w
 have H2:Hid (∀ w,Calls Tryz.prog 107 #[.string s] w fun e w'=>e=.returned (.bool (isName (tx s)))/\Below w.heap.size w w'):=fun w=>isName_any s w
 have HF:Hid (nameFits ⟨k,s,e,n,m⟩=if nmd k then isName (tx s) else none0 s):=rfl
 have hn0:(s.toList == ([]:List UInt8))=none0 s:=rfl
 generalize nameFits ⟨k,s,e,n,m⟩=R at *
 generalize nmd k=b1 at *
 generalize isName (tx s)=b2 at *
 have hb:Below w.heap.size w (w.alloc (.cells #[.int .i64 k,.string s,.int .i64 e,.int .i64 n,.int .i64 m] 47)):=bAl w _
 have HB:Hid (Below w.heap.size w (w.alloc (.cells #[.int .i64 k,.string s,.int .i64 e,.int .i64 n,.int .i64 m] 47))):=hb
 clear hb
 cases b1
 ·go_enter Tryz.func100,Tryz.ntmps100
  go_wp2_with (go_at_call 106;refine (H1.out _).mono ?_;rintro e w' ⟨rfl,rfl⟩)
  all_goals go_ret
  all_goals exact ⟨by rw [HF.out];simp,HB.out⟩
 ·go_enter Tryz.func100,Tryz.ntmps100
  go_wp2_with (first
   | (go_at_call 106;refine (H1.out _).mono ?_;rintro e w' ⟨rfl,rfl⟩)
   | (go_at_call 107;refine (H2.out _).mono ?_;rintro e w' ⟨rfl,hB7⟩;have HB7:Hid (Below w.heap.size w w'):=HB.out.trans (hB7.mono HB.out.size);clear hB7))
  all_goals go_ret
  all_goals exact ⟨by rw [HF.out];simp,HB7.out⟩
theorem filled_any (r:Rz) (w:World):Calls Tryz.prog 86 #[agr r] w fun e w'=>e=.returned (.bool (filled r))/\Below w.heap.size w w':=by
 obtain ⟨k,s,e,n,m⟩:=r
 have H1:Hid (∀ w,Calls Tryz.prog 100 #[.agg #[.int .i64 k,.string s,.int .i64 e,.int .i64 n,.int .i64 m]] w fun e' w'=>e'=.returned (.bool (nameFits ⟨k,s,e,n,m⟩))/\Below w.heap.size w w'):=fun w=>nameFits_any ⟨k,s,e,n,m⟩ w
 have H2:Hid (∀ w,Calls Tryz.prog 102 #[.int .i64 k] w fun e' w'=>e'=.returned (.int .i64 (lastEnd k))/\w'=w):=fun w=>lastEnd_any k w
 have H3:Hid (∀ w,Calls Tryz.prog 101 #[.int .i64 e,.int .i64 0,.int .i64 (lastEnd k)] w fun e' w'=>e'=.returned (.bool (wtn e 0 (lastEnd k)))/\w'=w):=fun w=>within_any _ _ _ w
 have H4:Hid (∀ w,Calls Tryz.prog 103 #[.int .i64 k] w fun e' w'=>e'=.returned (.int .i64 (lastNum k))/\w'=w):=fun w=>lastNum_any k w
 have H5:Hid (∀ w,Calls Tryz.prog 101 #[.int .i64 n,.int .i64 0,.int .i64 (lastNum k)] w fun e' w'=>e'=.returned (.bool (wtn n 0 (lastNum k)))/\w'=w):=fun w=>within_any _ _ _ w
 have H6:Hid (∀ w,Calls Tryz.prog 101 #[.int .i64 m,.int .i64 (least k:Nat),.int .i64 (greatest k)] w fun e' w'=>e'=.returned (.bool (wtn m (least k:Nat) (greatest k)))/\w'=w):=fun w=>within_any _ _ _ w
 have HK:Hid (∀ w,Calls Tryz.prog 99 #[.int .i64 k] w fun e' w'=>e'=.returned (.tuple #[.int .i64 (least k:Nat),.int .i64 (greatest k)])/\w'=w):=fun w=>kidsOf_any k w
 have HF:Hid (filled ⟨k,s,e,n,m⟩=(nameFits ⟨k,s,e,n,m⟩ && (wtn e 0 (lastEnd k) && (wtn n 0 (lastNum k) && wtn m (least k:Nat) (greatest k))))):=rfl
 generalize filled ⟨k,s,e,n,m⟩=R at *
 generalize nameFits ⟨k,s,e,n,m⟩=b1 at *
 generalize wtn e 0 (lastEnd k)=b2 at *
 generalize wtn n 0 (lastNum k)=b3 at *
 generalize wtn m (least k:Nat) (greatest k)=b4 at *
 generalize lastEnd k=le at *
 generalize lastNum k=ln at *
 generalize least k=lo at *
 generalize greatest k=hi at *
 have HB:Hid (Below w.heap.size w (w.alloc (.cells #[.int .i64 k,.string s,.int .i64 e,.int .i64 n,.int .i64 m] 47))):=bAl w _
 have hne:Nonempty (Kin (w.alloc (.cells #[.int .i64 k,.string s,.int .i64 e,.int .i64 n,.int .i64 m] 47))):=Kin.there _
 have hc:∀ j v,([.int .i64 k,.string s,.int .i64 e,.int .i64 n,.int .i64 m]:List Value)[j]?=some v->∀ y:Kin (w.alloc (.cells #[.int .i64 k,.string s,.int .i64 e,.int .i64 n,.int .i64 m] 47)),y.u.cell? ⟨w.heap.size,j,none⟩=some v:=fun j v hv y=>
  y.cell (a:=⟨w.heap.size,j,none⟩) (by simp) (by rw [World.cell?,heap_alloc_new];simpa using hv)
 have y0:=hc 0 _ rfl
 have y1:=hc 1 _ rfl
 have y2:=hc 2 _ rfl
 have y3:=hc 3 _ rfl
 have y4:=hc 4 _ rfl
 clear hc
 cases b1
 ·go_enter Tryz.func86,Tryz.ntmps86
  go_wp2_with (go_at_call 99;refine (HK.out _).mono ?_;rintro e w' ⟨rfl,rfl⟩)
  refine wp_region_kin (by kernel_rfl) (by kernel_rfl) ?_
  iterate 2 quiet_step (exact kin_of (H1.out _))
  iterate 6 quiet_step (exact kin_same (H2.out _))
  iterate 1 quiet_step (exact kin_same (H3.out _))
  iterate 7 quiet_step (exact kin_same (H4.out _))
  iterate 1 quiet_step (exact kin_same (H5.out _))
  iterate 7 quiet_step (exact kin_same (H6.out _))
  iterate 2 quiet_step (fail)
  refine wpQuiet_nil ?_
  rintro _ ⟨z,rfl⟩
  have HZ:Hid (Below w.heap.size w z.u):=HB.out.trans (z.ok.mono HB.out.size)
  generalize z.u=wz at *
  go_wp2_with fail
  go_ret
  exact ⟨by rw [HF.out];simp,HZ.out⟩
 ·cases b2
  ·go_enter Tryz.func86,Tryz.ntmps86
   go_wp2_with (go_at_call 99;refine (HK.out _).mono ?_;rintro e w' ⟨rfl,rfl⟩)
   refine wp_region_kin (by kernel_rfl) (by kernel_rfl) ?_
   iterate 2 quiet_step (exact kin_of (H1.out _))
   iterate 6 quiet_step (exact kin_same (H2.out _))
   iterate 1 quiet_step (exact kin_same (H3.out _))
   iterate 7 quiet_step (exact kin_same (H4.out _))
   iterate 1 quiet_step (exact kin_same (H5.out _))
   iterate 7 quiet_step (exact kin_same (H6.out _))
   iterate 2 quiet_step (fail)
   refine wpQuiet_nil ?_
   rintro _ ⟨z,rfl⟩
   have HZ:Hid (Below w.heap.size w z.u):=HB.out.trans (z.ok.mono HB.out.size)
   generalize z.u=wz at *
   go_wp2_with fail
   go_ret
   exact ⟨by rw [HF.out];simp,HZ.out⟩
  ·cases b3
   ·go_enter Tryz.func86,Tryz.ntmps86
    go_wp2_with (go_at_call 99;refine (HK.out _).mono ?_;rintro e w' ⟨rfl,rfl⟩)
    refine wp_region_kin (by kernel_rfl) (by kernel_rfl) ?_
    iterate 2 quiet_step (exact kin_of (H1.out _))
    iterate 6 quiet_step (exact kin_same (H2.out _))
    iterate 1 quiet_step (exact kin_same (H3.out _))
    iterate 7 quiet_step (exact kin_same (H4.out _))
    iterate 1 quiet_step (exact kin_same (H5.out _))
    iterate 7 quiet_step (exact kin_same (H6.out _))
    iterate 2 quiet_step (fail)
    refine wpQuiet_nil ?_
    rintro _ ⟨z,rfl⟩
    have HZ:Hid (Below w.heap.size w z.u):=HB.out.trans (z.ok.mono HB.out.size)
    generalize z.u=wz at *
    go_wp2_with fail
    go_ret
    exact ⟨by rw [HF.out];simp,HZ.out⟩
   ·go_enter Tryz.func86,Tryz.ntmps86
    go_wp2_with (go_at_call 99;refine (HK.out _).mono ?_;rintro e w' ⟨rfl,rfl⟩)
    refine wp_region_kin (by kernel_rfl) (by kernel_rfl) ?_
    iterate 2 quiet_step (exact kin_of (H1.out _))
    iterate 6 quiet_step (exact kin_same (H2.out _))
    iterate 1 quiet_step (exact kin_same (H3.out _))
    iterate 7 quiet_step (exact kin_same (H4.out _))
    iterate 1 quiet_step (exact kin_same (H5.out _))
    iterate 7 quiet_step (exact kin_same (H6.out _))
    iterate 2 quiet_step (fail)
    refine wpQuiet_nil ?_
    rintro _ ⟨z,rfl⟩
    have HZ:Hid (Below w.heap.size w z.u):=HB.out.trans (z.ok.mono HB.out.size)
    generalize z.u=wz at *
    go_wp2_with fail
    go_ret
    exact ⟨by rw [HF.out];simp,HZ.out⟩
def IsRz (w:World) (ao:Option Addr) (l:List Rz):Prop:=∀ (i:Nat) (x:Rz),l[i]?=some x->∃ g o,ao=some ⟨g,o,none⟩/\g < w.heap.size /\
 w.cell? ⟨g,o+i * 5,none⟩=some (.int .i64 x.kind)/\w.cell? ⟨g,o+i * 5+1,none⟩=some (.string x.name)/\w.cell? ⟨g,o+i * 5+2,none⟩=some (.int .i64 x.stop)/\w.cell? ⟨g,o+i * 5+3,none⟩=some (.int .i64 x.n)/\w.cell? ⟨g,o+i * 5+4,none⟩=some (.int .i64 x.kids)
theorem IsRz.below {w w':World} {ao:Option Addr} {l:List Rz} (h:IsRz w ao l) (hb:Below w.heap.size w w'):IsRz w' ao l:=by
 intro i x hx
 obtain ⟨g,o,e,hg,h1,h2,h3,h4,h5⟩:=h i x hx
 have hc:∀ j,w'.cell? ⟨g,j,none⟩=w.cell? ⟨g,j,none⟩:=fun j=>hb.cell (p:=⟨g,j,none⟩) hg
 exact ⟨g,o,e,Nat.lt_of_lt_of_le hg hb.size,(hc _).trans h1,(hc _).trans h2,(hc _).trans h3,(hc _).trans h4,(hc _).trans h5⟩
def wrong:List Ab->Nat->List Rz->Nat × Bool
 | t,i,[]=>(i,!t.isEmpty)
 | t,i,r :: l=>if t.isEmpty || !(mayStand (top t).kind (top t).seen (top t).kid r.kind && filled r) then (i,true) else wrong (past t r 0) (i+1) l
def ab1:Ab:=⟨0,1,0,0,0⟩
theorem rows_at {w:World} {ao:Option Addr} {l:List Rz} (h:IsRz w ao l) {k:Nat} (hk:k < l.length):∃ r g o,l.drop k=r :: l.drop (k+1)/\l[k]?=some r/\ao=some ⟨g,o,none⟩/\g < w.heap.size /\
  w.cell? ⟨g,o+k * 5,none⟩=some (.int .i64 r.kind)/\w.cell? ⟨g,o+k * 5+1,none⟩=some (.string r.name)/\w.cell? ⟨g,o+k * 5+2,none⟩=some (.int .i64 r.stop)/\w.cell? ⟨g,o+k * 5+3,none⟩=some (.int .i64 r.n)/\w.cell? ⟨g,o+k * 5+4,none⟩=some (.int .i64 r.kids):=by
 obtain ⟨r,h1,h2,_⟩:=drop_at hk
 obtain ⟨g,o,e,hg,c0,c1,c2,c3,c4⟩:=h k r h1
 exact ⟨r,g,o,h2,h1,e,hg,c0,c1,c2,c3,c4⟩
theorem wrong_no {t:List Ab} {i:Nat} {r:Rz} {l:List Rz} (h:(t.isEmpty || !(mayStand (top t).kind (top t).seen (top t).kid r.kind && filled r))=true):wrong t i (r :: l)=(i,true):=by
 rw [wrong,if_pos h]
theorem wrong_go {t:List Ab} {i:Nat} {r:Rz} {l:List Rz} (h:(t.isEmpty || !(mayStand (top t).kind (top t).seen (top t).kid r.kind && filled r))=false):wrong t i (r :: l)=wrong (past t r 0) (i+1) l:=by
 rw [wrong,if_neg (by rw [h];simp)]
theorem firstWrong_any (ao:Option Addr) (l:List Rz) (cap:Nat) (w:World) (h:IsRz w ao l) (hn:l.length<=2932031007317):
  Calls Tryz.prog 65 #[.slice ao l.length cap] w fun e w'=>e=.returned (.tuple #[.int .i64 ((wrong [ab1] 0 l).1:Nat),.bool (wrong [ab1] 0 l).2])/\Below w.heap.size w w':=by
 have HI:Hid (IsRz w ao l):=h
 have HN:Hid (l.length<=2932031007317):=hn
 have hO:OwnT (w.alloc (.cells #[.int .i64 0,.int .i64 1,.int .i64 0,.int .i64 0,.int .i64 0] 119)) w.heap.size (.slice (some ⟨w.heap.size,0,none⟩) 1 1) [ab1]:=
  World.ownsRow_lit w #[.int .i64 0,.int .i64 1,.int .i64 0,.int .i64 0,.int .i64 0] 1 (Nat.le_refl _) (by unfold maxLen;omega) rfl
 have HO:Hid (OwnT (w.alloc (.cells #[.int .i64 0,.int .i64 1,.int .i64 0,.int .i64 0,.int .i64 0] 119)) w.heap.size (.slice (some ⟨w.heap.size,0,none⟩) 1 1) [ab1]):=hO
 have HB0:Hid (Below w.heap.size w (w.alloc (.cells #[.int .i64 0,.int .i64 1,.int .i64 0,.int .i64 0,.int .i64 0] 119))):=bAl w _
 have hln:(l.length:Int)<=2932031007317:=by omega
 clear h hn hO
 go_enter Tryz.func65,Tryz.ntmps65
 go_wp2_with fail
 go_loopg [4,11] l.length (fun gq x i wr=>∃ (k:Nat) (v:Value) (t:List Ab),v=x/\i=.int .i64 k/\gq=l.length - k/\k<=l.length/\OwnT wr w.heap.size v t/\Below w.heap.size w wr/\t.length<=k+1/\SeenLe k t/\wrong t k (l.drop k)=wrong [ab1] 0 l)
 case atStart=>exact ⟨0,_,[ab1],rfl,rfl,rfl,Nat.zero_le _,HO.out,HB0.out,Nat.le_refl _,fun a ha=>by simp only [List.mem_singleton] at ha;subst ha;exact Nat.le_refl _,rfl⟩
 case round=>
  obtain ⟨k,v,t,rfl,rfl,hgk,hk,hOw,hBr,htl,hsn,hwr⟩:=hrel
  have HG:Hid (gk=l.length - k):=hgk
  have HOr:Hid (OwnT wr w.heap.size v t):=hOw
  have HBr:Hid (Below w.heap.size w wr):=hBr
  have HTL:Hid (t.length<=k+1/\SeenLe k t/\k<=l.length/\l.length<=2932031007317):=⟨htl,hsn,hk,HN.out⟩
  have HWr:Hid (wrong t k (l.drop k)=wrong [ab1] 0 l):=hwr
  clear hgk hOw hBr htl hsn hwr
  by_cases hlt:k < l.length
  ·have hlt':(k:Int) < (l.length:Int):=by omega
   obtain ⟨r,g,o,hdr,hlk,rfl,hg,c0,c1,c2,c3,c4⟩:=rows_at (HI.out.below HBr.out) hlt
   have HDr:Hid (l.drop k=r :: l.drop (k+1)):=hdr
   have HB1:Hid (Below wr.heap.size wr (wr.alloc (.cells #[.int .i64 r.kind,.string r.name,.int .i64 r.stop,.int .i64 r.n,.int .i64 r.kids] 47))):=bAl wr _
   have hne:Nonempty (Kin (wr.alloc (.cells #[.int .i64 r.kind,.string r.name,.int .i64 r.stop,.int .i64 r.n,.int .i64 r.kids] 47))):=Kin.there _
   have hc:∀ j u,([.int .i64 r.kind,.string r.name,.int .i64 r.stop,.int .i64 r.n,.int .i64 r.kids]:List Value)[j]?=some u->∀ y:Kin (wr.alloc (.cells #[.int .i64 r.kind,.string r.name,.int .i64 r.stop,.int .i64 r.n,.int .i64 r.kids] 47)),y.u.cell? ⟨wr.heap.size,j,none⟩=some u:=fun j u hu y=>
    y.cell (a:=⟨wr.heap.size,j,none⟩) (by simp) (by rw [World.cell?,heap_alloc_new];simpa using hu)
   have y0:=hc 0 _ rfl
   have y1:=hc 1 _ rfl
   have y2:=hc 2 _ rfl
   have y3:=hc 3 _ rfl
   have y4:=hc 4 _ rfl
   have H3:Hid (∀ w,Calls Tryz.prog 86 #[.agg #[.int .i64 r.kind,.string r.name,.int .i64 r.stop,.int .i64 r.n,.int .i64 r.kids]] w fun e w'=>e=.returned (.bool (filled r))/\Below w.heap.size w w'):=fun w=>filled_any r w
   have HPst:Hid (∀ W,Below wr.heap.size wr W->Calls Tryz.prog 87 #[v,.agg #[.int .i64 r.kind,.string r.name,.int .i64 r.stop,.int .i64 r.n,.int .i64 r.kids],.int .i64 0] W fun e w'=>∃ v',e=.returned v'/\OwnT w' w.heap.size v' (past t r 0)/\Went W v w' v'):=fun W hW=>
    past_any t r 0 w.heap.size v W (own_below HOr.out hW) (Nat.le_trans HBr.out.size hW.size) (fun a ha=>by have h1:=HTL.out.2.1 a ha;have h2:=HTL.out.2.2;omega) (by have h1:=HTL.out;omega)
   have HV:Hid (∀ j,v.ownBlock=some j->w.heap.size<=j):=fun j hj=>(World.ownsRow.lt HOr.out j hj).1
   clear hc hdr hlk hlt
   cases t with
   | nil=>
    obtain ⟨bo,bc,rfl⟩:=own_form HOr.out
    simp only [List.length_nil] at *
    have H1:Hid (∀ y:Kin (wr.alloc (.cells #[.int .i64 r.kind,.string r.name,.int .i64 r.stop,.int .i64 r.n,.int .i64 r.kids] 47)),Calls Tryz.prog 85 #[.slice bo 0 bc] y.u fun e w'=>e=.returned (agb ab0)/\Below y.u.heap.size y.u w'):=fun y=>last_any [] w.heap.size _ y.u (own_below HOr.out (HB1.out.trans (y.ok.mono HB1.out.size))) (by simp)
    have H2:Hid (∀ w,Calls Tryz.prog 84 #[agb ab0,.int .i64 r.kind] w fun e w'=>e=.returned (.bool (mayStand 0 0 0 r.kind))/\Below w.heap.size w w'):=fun w=>mayStand_any ab0 r.kind w
    go_wp2_with fail
    refine wp_region_kin (by kernel_rfl) (by kernel_rfl) ?_
    iterate 6 quiet_step (exact kin_of (H1.out _))
    iterate 3 quiet_step (exact kin_of (H2.out _))
    iterate 5 quiet_step (exact kin_of (H3.out _))
    iterate 2 quiet_step (fail)
    refine wpQuiet_nil ?_
    rintro _ ⟨z,rfl⟩
    have HZ:Hid (Below wr.heap.size wr z.u):=HB1.out.trans (z.ok.mono HB1.out.size)
    have z0:=y0 z
    have z1:=y1 z
    have z2:=y2 z
    have z3:=y3 z
    have z4:=y4 z
    clear y0 y1 y2 y3 y4
    generalize z.u=wz at *
    go_wp2_with fail
    go_ret2
    refine ⟨?_,HBr.out.trans (HZ.out.mono HBr.out.size)⟩
    rw [<-HWr.out,HDr.out]
    rw [wrong_no rfl]
    rfl
   | cons a t=>
    obtain ⟨ga,capa,rfl,_,_,_,_⟩:=own_top HOr.out
    have htl:(t.length:Int)<=2932031007317:=by have:=HTL.out;simp only [List.length_cons] at this;omega
    have H1:Hid (∀ y:Kin (wr.alloc (.cells #[.int .i64 r.kind,.string r.name,.int .i64 r.stop,.int .i64 r.n,.int .i64 r.kids] 47)),Calls Tryz.prog 85 #[.slice (some ⟨ga,0,none⟩) (t.length+1) capa] y.u fun e w'=>e=.returned (.agg #[.int .i64 a.kind,.int .i64 a.kids,.int .i64 a.seen,.int .i64 a.kid,.int .i64 a.levels])/\Below y.u.heap.size y.u w'):=fun y=>last_any (a :: t) w.heap.size _ y.u (own_below HOr.out (HB1.out.trans (y.ok.mono HB1.out.size))) (by simp only [List.length_cons];omega)
    have H2:Hid (∀ w,Calls Tryz.prog 84 #[.agg #[.int .i64 a.kind,.int .i64 a.kids,.int .i64 a.seen,.int .i64 a.kid,.int .i64 a.levels],.int .i64 r.kind] w fun e w'=>e=.returned (.bool (mayStand a.kind a.seen a.kid r.kind))/\Below w.heap.size w w'):=fun w=>mayStand_any a r.kind w
    have HQ:Hid ((a :: t).isEmpty=false/\top (a :: t)=a):=⟨rfl,rfl⟩
    cases hb1:mayStand a.kind a.seen a.kid r.kind
    ·have HX:Hid (((a :: t).isEmpty || !(mayStand (top (a :: t)).kind (top (a :: t)).seen (top (a :: t)).kid r.kind && filled r))=true):=by show _=_;rw [HQ.out.1,HQ.out.2,hb1];rfl
     rw [hb1] at H2
     clear hb1
     go_wp2_with fail
     refine wp_region_kin (by kernel_rfl) (by kernel_rfl) ?_
     iterate 6 quiet_step (exact kin_of (H1.out _))
     iterate 3 quiet_step (exact kin_of (H2.out _))
     iterate 5 quiet_step (exact kin_of (H3.out _))
     iterate 2 quiet_step (fail)
     refine wpQuiet_nil ?_
     rintro _ ⟨z,rfl⟩
     have HZ:Hid (Below wr.heap.size wr z.u):=HB1.out.trans (z.ok.mono HB1.out.size)
     have z0:=y0 z
     have z1:=y1 z
     have z2:=y2 z
     have z3:=y3 z
     have z4:=y4 z
     clear y0 y1 y2 y3 y4
     generalize z.u=wz at *
     go_wp2_with fail
     go_ret2
     refine ⟨?_,HBr.out.trans (HZ.out.mono HBr.out.size)⟩
     rw [<-HWr.out,HDr.out]
     rw [wrong_no HX.out]
     rfl
    ·cases hb2:filled r
     ·have HX:Hid (((a :: t).isEmpty || !(mayStand (top (a :: t)).kind (top (a :: t)).seen (top (a :: t)).kid r.kind && filled r))=true):=by show _=_;rw [HQ.out.1,HQ.out.2,hb1,hb2];rfl
      rw [hb1] at H2
      rw [hb2] at H3
      clear hb1 hb2
      go_wp2_with fail
      refine wp_region_kin (by kernel_rfl) (by kernel_rfl) ?_
      iterate 6 quiet_step (exact kin_of (H1.out _))
      iterate 3 quiet_step (exact kin_of (H2.out _))
      iterate 5 quiet_step (exact kin_of (H3.out _))
      iterate 2 quiet_step (fail)
      refine wpQuiet_nil ?_
      rintro _ ⟨z,rfl⟩
      have HZ:Hid (Below wr.heap.size wr z.u):=HB1.out.trans (z.ok.mono HB1.out.size)
      have z0:=y0 z
      have z1:=y1 z
      have z2:=y2 z
      have z3:=y3 z
      have z4:=y4 z
      clear y0 y1 y2 y3 y4
      generalize z.u=wz at *
      go_wp2_with fail
      go_ret2
      refine ⟨?_,HBr.out.trans (HZ.out.mono HBr.out.size)⟩
      rw [<-HWr.out,HDr.out]
      rw [wrong_no HX.out]
      rfl
     ·have HX:Hid (((a :: t).isEmpty || !(mayStand (top (a :: t)).kind (top (a :: t)).seen (top (a :: t)).kid r.kind && filled r))=false):=by show _=_;rw [HQ.out.1,HQ.out.2,hb1,hb2];rfl
      rw [hb1] at H2
      rw [hb2] at H3
      clear hb1 hb2
      go_wp2_with fail
      refine wp_region_kin (by kernel_rfl) (by kernel_rfl) ?_
      iterate 6 quiet_step (exact kin_of (H1.out _))
      iterate 3 quiet_step (exact kin_of (H2.out _))
      iterate 5 quiet_step (exact kin_of (H3.out _))
      iterate 2 quiet_step (fail)
      refine wpQuiet_nil ?_
      rintro _ ⟨z,rfl⟩
      have HZ:Hid (Below wr.heap.size wr z.u):=HB1.out.trans (z.ok.mono HB1.out.size)
      have z0:=y0 z
      have z1:=y1 z
      have z2:=y2 z
      have z3:=y3 z
      have z4:=y4 z
      clear y0 y1 y2 y3 y4
      generalize z.u=wz at *
      go_wp2_with fail
      refine (HPst.out wz HZ.out).mono ?_
      rintro e w8 ⟨v8,rfl,hO8,hW8⟩
      have HO8:Hid (OwnT w8 w.heap.size v8 (past (a :: t) r 0)):=hO8
      have HB8:Hid (Below w.heap.size w w8):=(HBr.out.trans (HZ.out.mono HBr.out.size)).trans (hW8.low HV.out (Nat.le_trans HBr.out.size HZ.out.size))
      obtain ⟨bo8,bc8,rfl⟩:=own_form hO8
      clear hO8 hW8
      go_wp2_with fail
      go_roundg (l.length - (k+1))
      case measure=>have:=HG.out;omega
      case rel=>
       refine ⟨k+1,_,past (a :: t) r 0,rfl,by go_num,rfl,by omega,HO8.out,HB8.out,?_,seen_past HTL.out.2.1 r 0,?_⟩
       ·have h1:=past_len (a :: t) r 0
        have h2:=HTL.out.1
        omega
       ·rw [<-HWr.out,HDr.out,wrong_go HX.out]
  ·have hlt':¬ ((k:Int) < (l.length:Int)):=by omega
   have hke:k=l.length:=by have:=HTL.out;omega
   obtain ⟨bo,bc,rfl⟩:=own_form HOr.out
   have htl:(t.length:Int)<=2932031007318:=by have:=HTL.out;omega
   have HE:Hid (wrong [ab1] 0 l=(l.length,decide (0 < t.length))):=by
    show _=_
    rw [<-HWr.out,List.drop_eq_nil_of_le (by omega),wrong,hke]
    cases t<;>simp
   clear hlt hke
   go_wp2_with fail
   go_ret2
   refine ⟨?_,HBr.out⟩
   rw [HE.out]
   rfl
def LvLe (n:Nat) (t:List Ab):Prop:=∀ a ∈ t,0<=a.levels/\a.levels<=n
theorem lv_pop {n:Nat} {t:List Ab} (h:LvLe n t):LvLe n (pop t):=by
 induction t with
 | nil=>exact h
 | cons a t ih=>
  simp only [pop]
  split
  ·exact ih fun b hb=>h b (List.mem_cons_of_mem _ hb)
  ·exact h
theorem lv_past {n:Nat} {t:List Ab} (h:LvLe n t) (r:Rz) (v:Int) (h0:0<=v) (h1:v<=n+2):LvLe (n+2) (past t r v):=by
 refine lv_pop fun a ha=>?_
 rcases List.mem_cons.1 ha with rfl | ha
 ·exact ⟨h0,h1⟩
 ·cases t with
  | nil=>cases ha
  | cons b t=>
   rcases List.mem_cons.1 ha with rfl | ha
   ·have:=h b (List.mem_cons_self ..);exact ⟨this.1,by show b.levels<=_;omega⟩
   ·have:=h a (List.mem_cons_of_mem _ ha);omega
theorem opn_two (k:Int):0<=opn k/\opn k<=1:=by unfold opn;split<;>simp
def Fits (l:List Rz) (k:Nat):Prop:=(ast opn loose l k).length<=k/\SeenLe k (ast opn loose l k)/\LvLe (2 * k) (ast opn loose l k)/\0<=mx opn loose l k/\mx opn loose l k<=2 * k
theorem top_lv {n:Nat} {t:List Ab} (h:LvLe n t):0<=(top t).levels/\(top t).levels<=n:=by
 cases t with
 | nil=>exact ⟨Int.le_refl _,by show (0:Int)<=_;omega⟩
 | cons a t=>exact h a (List.mem_cons_self ..)
theorem lev_le {l:List Rz} {k:Nat} (h:Fits l k):0<=lev opn loose l k/\lev opn loose l k<=2 * k+2:=by
 have h1:=top_lv h.2.2.1
 have h2:=opn_two (rat l k).kind
 show 0<=(top (ast opn loose l k)).levels+opn (rat l k).kind+_/\(top (ast opn loose l k)).levels+opn (rat l k).kind+_<=_
 split<;>omega
theorem fits_zero (l:List Rz):Fits l 0:=⟨Nat.le_refl _,fun _ h=>(by cases h),fun _ h=>(by cases h),Int.le_refl _,(by show (0:Int)<=_;omega)⟩
theorem fits_succ (l:List Rz) {k:Nat} (h:Fits l k):Fits l (k+1):=by
 have h1:=lev_le h
 obtain ⟨a1,a2,a3,a4,a5⟩:=h
 refine ⟨?_,seen_past a2 _ _,?_,?_⟩
 ·have:=past_len (ast opn loose l k) (rat l k) (lvl opn loose (ast opn loose l k) (rat l k))
  show (past _ _ _).length<=_
  omega
 ·have:=lv_past a3 (rat l k) (lev opn loose l k) h1.1 (by omega)
  rw [show 2 * (k+1)=2 * k+2 by omega]
  exact this
 ·show 0<=(if mx opn loose l k < lev opn loose l k then lev opn loose l k else mx opn loose l k)/\(if mx opn loose l k < lev opn loose l k then lev opn loose l k else mx opn loose l k)<=_
  split<;>omega
theorem mx_succ (l:List Rz) (k:Nat):mx opn loose l (k+1)=if mx opn loose l k < lev opn loose l k then lev opn loose l k else mx opn loose l k:=rfl
theorem ast_succ (l:List Rz) (k:Nat):ast opn loose l (k+1)=past (ast opn loose l k) (rat l k) (lev opn loose l k):=rfl
theorem lev_max (a b:Int):Value.int .i64 (max a b)=Value.int .i64 (if a < b then b else a):=by
 congr 1
 split<;>omega
end Go.Proofs.YtfgpbdieaflclaaGreat.Gr
