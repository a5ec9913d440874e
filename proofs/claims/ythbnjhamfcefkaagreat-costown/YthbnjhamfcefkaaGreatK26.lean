import Derived.Test.YthbnjhamfcefkaaGreatK25
set_option maxHeartbeats 6400000
set_option maxRecDepth 100000
namespace Go.Proofs.YthbnjhamfcefkaaGreat.Nm
open Go.RowKit Go.Maps Sp Lx Gr
def bp10:ByteArray:=⟨#[112]⟩
def hrows10:List Rz:=[⟨1,bp10,0,0,1⟩,⟨10,⟨#[]⟩,0,0,1⟩,⟨11,⟨#[]⟩,0,0,1⟩,⟨23,⟨#[]⟩,0,0,0⟩]
def hpl10:Pl:=⟨bp10,hrows10,[],[],[],[],[],2⟩
theorem isP_head:IsP hpl10.g hpl10:=⟨by kernel_rfl,rfl⟩
theorem ev_head:evR hrows10 [0,0,0,0] [] 0=.ok ⟨[],2⟩:=by kernel_rfl
theorem bres_head {r:Except (Nat × Nat) Co} (h:BRes hpl10.g [0,0,0,0] r):r=.ok ⟨[],2⟩:=by
 have k:BRes hpl10.g [0,0,0,0] (.ok ⟨[],2⟩):=Or.inr ⟨hpl10,isP_head,Or.inr ⟨rfl,by decide,ev_head.symm⟩⟩
 exact h.uniq k
abbrev hcells10:Array Value:=#[.int .i64 1,.string bp10,.int .i64 0,.int .i64 0,.int .i64 1,.int .i64 10,.string ⟨#[]⟩,.int .i64 0,.int .i64 0,.int .i64 1,.int .i64 11,.string ⟨#[]⟩,.int .i64 0,.int .i64 0,.int .i64 1,.int .i64 23,.string ⟨#[]⟩,.int .i64 0,.int .i64 0,.int .i64 0]
theorem rz_head (w:World):IsRz (w.alloc (.cells hcells10 51)) (some ⟨w.heap.size,0,none⟩) hrows10:=by
 have hb:=heap_alloc_new w (.cells hcells10 51)
 intro i x hx
 have hi:i < 4:=(List.getElem?_eq_some_iff.1 hx).1
 refine ⟨w.heap.size,0,rfl,by simp,?_⟩
 obtain rfl | rfl | rfl | rfl:i=0\/i=1\/i=2\/i=3:=by omega
 all_goals
  cases hx
  simp only [World.cell?,hb]
  exact ⟨rfl,rfl,rfl,rfl,rfl⟩
theorem sm_head10:hpl10.g.Sm:=⟨by decide,by decide,by decide,by decide,by decide,by decide⟩
theorem vals_empty (w:World) (ao:Option Addr):IsVals w ao []:=fun k x hx=>by simp at hx
theorem sum_head {W:World} {s:Nat} (hs:W.heap.size=s):Calls Tryz.prog 32 #[.slice (some ⟨s,0,none⟩) 3 3] (W.alloc (.cells #[.int .i64 3,.int .i64 (-5),.int .i64 4] 3)) fun e w'=>e=.returned (.int .i64 7)/\w'=W.alloc (.cells #[.int .i64 3,.int .i64 (-5),.int .i64 4] 3):=by
 subst hs
 exact sum_any (l:=[3,-5,4]) (c:=3) (vals_new W _ _) (show 3<=17592186043904 by decide)
theorem times_head {W:World} {s:Nat} (hs:W.heap.size=s):Calls Tryz.prog 33 #[.slice (some ⟨s,0,none⟩) 2 2] (W.alloc (.cells #[.int .i64 3,.int .i64 4] 3)) fun e w'=>e=.returned (.int .i64 12)/\w'=W.alloc (.cells #[.int .i64 3,.int .i64 4] 3):=by
 subst hs
 exact times_any (l:=[3,4]) (c:=2) (vals_new W _ _) (show 2<=17592186043904 by decide)
theorem bound_head {W:World} {g s:Nat} (h:IsRz W (some ⟨g,0,none⟩) hrows10) (hs:W.heap.size=s):Calls Tryz.prog 6 #[.agg #[.string ⟨#[112]⟩,.slice (some ⟨g,0,none⟩) 4 4,.slice none 0 0,.slice none 0 0,.slice none 0 0,.slice none 0 0,.slice none 0 0,.int .i64 2],.agg #[.slice none 0 0,.slice none 0 0,.slice (some ⟨s,0,none⟩) 4 4]] (W.alloc (.cells #[.int .i64 0,.int .i64 0,.int .i64 0,.int .i64 0] 3)) fun e w'=>∃ ob,e=.returned (.tuple #[.agg #[.slice (some ⟨ob,0,none⟩) 0 0,.int .i64 2],.agg #[.int .i64 0,.int .i64 0]])/\Below W.heap.size W w':=by
 subst hs
 have hb:Below W.heap.size W (W.alloc (.cells #[.int .i64 0,.int .i64 0,.int .i64 0,.int .i64 0] 3)):=bAl W _
 have:=cost_any (p:=hpl10.g) (rd:=[0,0,0,0]) (ao:=some ⟨g,0,none⟩) (qo:=none) (vo:=none) (tto:=none) (uo:=none) (oo:=none) (xo:=none) (yo:=none) (eo:=some ⟨W.heap.size,0,none⟩) (ac:=4) (qc:=0) (vc:=0) (tc:=0) (uc:=0) (oc:=0) (nx:=0) (cx:=0) (ny:=0) (cy:=0) (ec:=4) (w:=W.alloc (.cells #[.int .i64 0,.int .i64 0,.int .i64 0,.int .i64 0] 3)) ⟨h.below hb,vals_empty _ _,vals_empty _ _,vals_empty _ _,vals_empty _ _,vals_empty _ _⟩ sm_head10 (by decide) (fun e=>by cases e) (vals_new W _ _) (by decide)
 refine Calls.mono this ?_
 rintro e w' ⟨r,hr,hb',hm⟩
 rw [bres_head hr] at hm
 obtain ⟨ob,rfl,_⟩:=hm
 exact ⟨ob,rfl,hb.trans (hb'.mono hb.size)⟩
theorem head10 (w:World):Calls Tryz.prog 11 #[] w fun e w'=>e=.returned (.bool true)/\Below w.heap.size w w':=by
 have hb1:Below w.heap.size w (w.alloc (.cells hcells10 51)):=bAl w _
 have hb2:Below (w.alloc (.cells hcells10 51)).heap.size (w.alloc (.cells hcells10 51)) ((w.alloc (.cells hcells10 51)).alloc (.cells #[.string ⟨#[112]⟩,.slice (some ⟨w.heap.size,0,none⟩) 4 4,.slice none 0 0,.slice none 0 0,.slice none 0 0,.slice none 0 0,.slice none 0 0,.int .i64 2] 29)):=bAl _ _
 have hrz:=(rz_head w).below hb2
 have hbx:Below w.heap.size w ((w.alloc (.cells hcells10 51)).alloc (.cells #[.string ⟨#[112]⟩,.slice (some ⟨w.heap.size,0,none⟩) 4 4,.slice none 0 0,.slice none 0 0,.slice none 0 0,.slice none 0 0,.slice none 0 0,.int .i64 2] 29)):=hb1.trans (hb2.mono hb1.size)
 obtain ⟨k0,k1,k2,k3,k4,k5,k6,k7⟩:=pol8 (heap_alloc_new (w.alloc (.cells hcells10 51)) (.cells #[.string ⟨#[112]⟩,.slice (some ⟨w.heap.size,0,none⟩) 4 4,.slice none 0 0,.slice none 0 0,.slice none 0 0,.slice none 0 0,.slice none 0 0,.int .i64 2] 29))
 have HW:Hid (IsRz ((w.alloc (.cells hcells10 51)).alloc (.cells #[.string ⟨#[112]⟩,.slice (some ⟨w.heap.size,0,none⟩) 4 4,.slice none 0 0,.slice none 0 0,.slice none 0 0,.slice none 0 0,.slice none 0 0,.int .i64 2] 29)) (some ⟨w.heap.size,0,none⟩) hrows10/\Below w.heap.size w ((w.alloc (.cells hcells10 51)).alloc (.cells #[.string ⟨#[112]⟩,.slice (some ⟨w.heap.size,0,none⟩) 4 4,.slice none 0 0,.slice none 0 0,.slice none 0 0,.slice none 0 0,.slice none 0 0,.int .i64 2] 29))):=⟨hrz,hbx⟩
 clear hb1 hb2 hrz hbx
 unfold hcells10 bp10 at *
 go_enter Tryz.func11,Tryz.ntmps11
 go_wp2_with fail
 have HSz:Hid (((w.alloc (.cells #[.int .i64 1,.string ⟨#[112]⟩,.int .i64 0,.int .i64 0,.int .i64 1,.int .i64 10,.string ⟨#[]⟩,.int .i64 0,.int .i64 0,.int .i64 1,.int .i64 11,.string ⟨#[]⟩,.int .i64 0,.int .i64 0,.int .i64 1,.int .i64 23,.string ⟨#[]⟩,.int .i64 0,.int .i64 0,.int .i64 0] 51)).alloc (.cells #[.string ⟨#[112]⟩,.slice (some ⟨w.heap.size,0,none⟩) 4 4,.slice none 0 0,.slice none 0 0,.slice none 0 0,.slice none 0 0,.slice none 0 0,.int .i64 2] 29)).heap.size=w.heap.size+1+1):=by show _=_;simp
 clear k0 k1 k2 k3 k4 k5 k6 k7
 generalize ((w.alloc (.cells #[.int .i64 1,.string ⟨#[112]⟩,.int .i64 0,.int .i64 0,.int .i64 1,.int .i64 10,.string ⟨#[]⟩,.int .i64 0,.int .i64 0,.int .i64 1,.int .i64 11,.string ⟨#[]⟩,.int .i64 0,.int .i64 0,.int .i64 1,.int .i64 23,.string ⟨#[]⟩,.int .i64 0,.int .i64 0,.int .i64 0] 51)).alloc (.cells #[.string ⟨#[112]⟩,.slice (some ⟨w.heap.size,0,none⟩) 4 4,.slice none 0 0,.slice none 0 0,.slice none 0 0,.slice none 0 0,.slice none 0 0,.int .i64 2] 29))=W2 at *
 have HC:=hdn <| bound_head HW.out.1 HSz.out
 refine Calls.mono HC.out ?_
 rintro e w3 ⟨ob,rfl,hb3⟩
 have HB3:Hid (Below w.heap.size w w3):=HW.out.2.trans (hb3.mono HW.out.2.size)
 clear hb3 HC HSz HW
 have hx1:((w3.alloc (.cells #[.slice (some ⟨ob,0,none⟩) 0 0,.int .i64 2] 40)).alloc (.cells #[.int .i64 0,.int .i64 0] 32)).heap[w3.heap.size]?=some (.cells #[.slice (some ⟨ob,0,none⟩) 0 0,.int .i64 2] 40 (0,0)):=by rw [alloc_old _ _ _ (by simp)];exact alloc_at _ _ _ rfl
 have hx2:((w3.alloc (.cells #[.slice (some ⟨ob,0,none⟩) 0 0,.int .i64 2] 40)).alloc (.cells #[.int .i64 0,.int .i64 0] 32)).heap[w3.heap.size+1]?=some (.cells #[.int .i64 0,.int .i64 0] 32 (0,0)):=alloc_at _ _ _ (by simp)
 have HB4:Hid (Below w.heap.size w ((w3.alloc (.cells #[.slice (some ⟨ob,0,none⟩) 0 0,.int .i64 2] 40)).alloc (.cells #[.int .i64 0,.int .i64 0] 32))):=(HB3.out.alloc HB3.out.size _).alloc (by have:=HB3.out.size;simp;omega) _
 obtain ⟨r0,r1,_⟩:=read2 hx1
 obtain ⟨s0,s1,_⟩:=read2 hx2
 clear hx1 hx2
 have HSz:Hid (((w3.alloc (.cells #[.slice (some ⟨ob,0,none⟩) 0 0,.int .i64 2] 40)).alloc (.cells #[.int .i64 0,.int .i64 0] 32)).heap.size=w3.heap.size+1+1):=by show _=_;simp
 go_wp2_with fail
 clear r0 r1 s0 s1
 generalize ((w3.alloc (.cells #[.slice (some ⟨ob,0,none⟩) 0 0,.int .i64 2] 40)).alloc (.cells #[.int .i64 0,.int .i64 0] 32))=w4 at *
 have HSm:=hdn <| sum_head HSz.out
 have HB5:Hid (Below w.heap.size w (w4.alloc (.cells #[.int .i64 3,.int .i64 (-5),.int .i64 4] 3))):=HB4.out.alloc HB4.out.size _
 refine Calls.mono HSm.out ?_
 rintro e w5 ⟨rfl,rfl⟩
 clear HSm HB4 HB3 HSz
 generalize w4.alloc (.cells #[.int .i64 3,.int .i64 (-5),.int .i64 4] 3)=w5 at *
 have HSm:=hdn <| times_head (W:=w5) rfl
 have HB6:Hid (Below w.heap.size w (w5.alloc (.cells #[.int .i64 3,.int .i64 4] 3))):=HB5.out.alloc HB5.out.size _
 go_wp2_with fail
 refine Calls.mono HSm.out ?_
 rintro e w6 ⟨rfl,rfl⟩
 go_wp2
 go_ret
 exact ⟨rfl,HB6.out⟩
end Go.Proofs.YthbnjhamfcefkaaGreat.Nm
namespace Go.Proofs.YthbnjhamfcefkaaGreat.Nm
open Gr
def rcN (l:List Rz) (rd:List Int) (rs:List Nat) (i:Nat) (ks:List Nat):Nat:=
 if (rat l i).kind=12 then capS (ks.getD 0 0+mxL (ks.drop 1))
 else if (rat l i).kind=13 then capS ((rd.getD i 0).toNat * capS (ks.getD 1 0+ks.getD 2 0))
 else if (rat l i).kind=22 then rs.getD (rat l i).n.toNat 0
 else sumL (zi ks)
theorem over_rc {l:List Rz} {rd:List Int} {rs:List Nat} {i:Nat} {ks:List Nat} (h13:(rat l i).kind=13->ks.length=3):overN l rd rs i ks=if (rat l i).kind=24 then 0 else capS (rcN l rd rs i ks+1):=by
 unfold overN rcN
 by_cases k12:(rat l i).kind=12
 ·rw [if_pos k12,if_neg (by rw [k12];decide),if_pos k12]
  show capS (tsum [1,(ks.getD 0 0:Int),(mxL (ks.drop 1):Int)])=_
  simp only [tsum,Int.toNat_natCast,Int.toNat_one]
  unfold capS
  omega
 ·rw [if_neg k12,if_neg k12]
  by_cases k13:(rat l i).kind=13
  ·rw [if_pos k13,if_neg (by rw [k13];decide),if_pos k13]
   have e:=h13 k13
   match ks,e with
   | [a,b,c],_=>
    show capS (tsum [1,(timL [rd.getD i 0,(sumL (zi [b,c]):Int)]:Int)])=capS (capS ((rd.getD i 0).toNat * capS (b+c))+1)
    have e1:sumL (zi [b,c])=capS (b+c):=by simp [sumL,tsum,zi]
    have e2:timL [rd.getD i 0,(capS (b+c):Int)]=capS ((rd.getD i 0).toNat * capS (b+c)):=by simp [timL,tprod]
    rw [e1,e2]
    simp only [tsum,Int.toNat_natCast,Int.toNat_one]
    congr 1
    omega
  ·rw [if_neg k13,if_neg k13]
   by_cases k22:(rat l i).kind=22
   ·rw [if_pos k22,if_neg (by rw [k22];decide),if_pos k22]
    show capS (tsum [1,(rs.getD (rat l i).n.toNat 0:Int)])=_
    simp only [tsum,Int.toNat_natCast,Int.toNat_one]
    congr 1
    omega
   ·rw [if_neg k22,if_neg k22]
    by_cases k24:(rat l i).kind=24
    ·rw [if_pos k24,if_pos k24]
    ·rw [if_neg k24,if_neg k24]
     show capS (tsum [1,(sumL (zi ks):Int)])=_
     simp only [tsum,Int.toNat_natCast,Int.toNat_one]
     congr 1
     omega
theorem rcN_le {l:List Rz} {rd:List Int} {rs:List Nat} {i:Nat} {ks:List Nat} (hrs:∀ x ∈ rs,x<=4611686018427387904) (_:∀ x ∈ ks,x<=4611686018427387904):rcN l rd rs i ks<=4611686018427387904:=by
 unfold rcN
 split
 ·exact capS_le _
 ·split
  ·exact capS_le _
  ·split
   ·rw [List.getD_eq_getElem?_getD]
    cases h:rs[(rat l i).n.toNat]? with
    | none=>exact Nat.zero_le _
    | some x=>exact hrs x (List.mem_of_getElem? h)
   ·exact sumL_le _
theorem list3 {ks:List Nat} (h:ks.length=3):∃ k0 k1 k2,ks=[k0,k1,k2]:=by
 match ks,h with
 | [a,b,c],_=>exact ⟨a,b,c,rfl⟩
theorem list23 {ks:List Nat} (h:2<=ks.length/\ks.length<=3):(∃ k0 k1,ks=[k0,k1])\/∃ k0 k1 k2,ks=[k0,k1,k2]:=by
 match ks,h with
 | [a,b],_=>exact Or.inl ⟨a,b,rfl⟩
 | [a,b,c],_=>exact Or.inr ⟨a,b,c,rfl⟩
 | [],h=>exact absurd h.1 (by simp)
 | [_],h=>exact absurd h.1 (by simp)
 | _ :: _ :: _ :: _ :: _,h=>exact absurd h.2 (by simp)
theorem zi_app (a b:List Nat):zi (a++b)=zi a++zi b:=by simp [zi]
def ofL (l:List Rz) (rd:List Int) (rs:List Nat) (row m t:Nat):List Nat:=List.replicate (m - t) 0++(List.range t).map fun q=>bnd l rd rs (row+(m - t)+q)
theorem ofL_len {l:List Rz} {rd:List Int} {rs:List Nat} {row m t:Nat} (h:t<=m):(ofL l rd rs row m t).length=m:=by simp [ofL];omega
theorem ofL_zero (l:List Rz) (rd:List Int) (rs:List Nat) (row m:Nat):ofL l rd rs row m 0=List.replicate m 0:=by simp [ofL]
theorem ofL_at {l:List Rz} {rd:List Int} {rs:List Nat} {row m t j:Nat} (h:t<=m) (h1:m - t<=j) (h2:j < m):(ofL l rd rs row m t)[j]?=some (bnd l rd rs (row+j)):=by
 unfold ofL
 rw [List.getElem?_append_right (by simp;omega),List.length_replicate,List.getElem?_map,List.getElem?_range (by omega)]
 show some (bnd l rd rs (row+(m - t)+(j - (m - t))))=_
 congr 2
 omega
theorem ofL_set {l:List Rz} {rd:List Int} {rs:List Nat} {row m t:Nat} (h:t < m):(ofL l rd rs row m t).set (m - (t+1)) (bnd l rd rs (row+(m - (t+1))))=ofL l rd rs row m (t+1):=by
 unfold ofL
 have e1:m - t=(m - (t+1))+1:=by omega
 rw [List.set_append,if_pos (by rw [List.length_replicate];omega),e1,List.replicate_succ',List.set_append,if_neg (by rw [List.length_replicate];omega),List.length_replicate,Nat.sub_self,List.range_succ_eq_map]
 simp only [List.set_cons_zero,List.map_cons,List.map_map,List.append_assoc,List.cons_append,List.nil_append,Nat.add_zero]
 congr 2
 apply List.map_congr_left
 intro q _
 simp only [Function.comp]
 congr 1
 omega
theorem ofL_end (l:List Rz) (rd:List Int) (rs:List Nat) (row m:Nat) (h:0 < m):(ofL l rd rs row m m)[0]?=some (bnd l rd rs row):=by
 have:=ofL_at (l:=l) (rd:=rd) (rs:=rs) (row:=row) (t:=m) (m:=m) (j:=0) (Nat.le_refl _) (by omega) h
 simpa using this
theorem sub_end {l:List Rz} (h:Whole l):∀ (f:Nat) {i a:Nat},i < l.length->endp l i - i<=f->i<=a->a < endp l i->endp l a<=endp l i:=by
 intro f
 induction f with
 | zero=>intro i a hi hf _ _;have:=(end_kid h hi).2.1;omega
 | succ f ih=>
  intro i a hi hf h1 h2
  by_cases e:a=i
  ·subst e;exact Nat.le_refl _
  ·-- which kid?
   have key:∀ d,d<=km l i->a < kidp l i d->∃ k,k < d/\kidp l i k<=a/\a < kidp l i (k+1):=by
    intro d
    induction d with
    | zero=>intro _ hd;rw [kid_zero] at hd;omega
    | succ d ihd=>
     intro hd ha
     by_cases h3:a < kidp l i d
     ·obtain ⟨k,k1,k2,k3⟩:=ihd (by omega) h3
      exact ⟨k,by omega,k2,k3⟩
     ·exact ⟨d,by omega,by omega,ha⟩
   obtain ⟨k,k1,k2,k3⟩:=key (km l i) (Nat.le_refl _) (by rw [<-(end_kid h hi).1];exact h2)
   obtain ⟨q1,q2,q3,q4⟩:=kidIn h hi k1
   have q5:=(end_kid h q2).2.1
   have:=ih q2 (by omega) k2 (by rw [<-q4];exact k3)
   omega
end Go.Proofs.YthbnjhamfcefkaaGreat.Nm
namespace Go.Proofs.YthbnjhamfcefkaaGreat.Nm
open Go.RowKit Go.Maps Sp Lx Gr
theorem rcplus (a b:Nat) (_:a<=4611686018427387904) (hb:b<=4611686018427387904) (w:World):Calls Tryz.prog 45 #[.int .i64 (a:Int),.int .i64 (b:Int)] w fun e w'=>e=.returned (.int .i64 (capS (a+b):Nat))/\w'=w:=by
 have hw:IntKind.i64.wrap (4611686018427387904 - (b:Int))=4611686018427387904 - (b:Int):=by rw [IntKind.wrap_i64];omega
 have HC:Hid (capS (a+b)=min (a+b) 4611686018427387904):=rfl
 generalize capS (a+b)=z at *
 by_cases h:(4611686018427387904 - (b:Int)) < (a:Int)
 ·have h1:decide ((4611686018427387904 - (b:Int)) < (a:Int))=true:=decide_eq_true h
  have HZ:Hid (z=4611686018427387904):=by show _=_;have:=HC.out;omega
  go_enter Tryz.func45,Tryz.ntmps45
  go_wp2
  go_ret
  exact ⟨by rw [HZ.out];rfl,rfl⟩
 ·have h1:decide ((4611686018427387904 - (b:Int)) < (a:Int))=false:=decide_eq_false h
  have hw2:IntKind.i64.wrap ((a:Int)+(b:Int))=(z:Int):=by rw [IntKind.wrap_i64];have:=HC.out;omega
  go_enter Tryz.func45,Tryz.ntmps45
  go_wp2
  go_ret
  exact ⟨rfl,rfl⟩
theorem rcby (a b:Nat) (ha:a<=4611686018427387904) (_:b<=4611686018427387904) (w:World):Calls Tryz.prog 46 #[.int .i64 (a:Int),.int .i64 (b:Int)] w fun e w'=>e=.returned (.int .i64 (capS (a * b):Nat))/\w'=w:=by
 by_cases h0:a=0
 ·subst h0
  have HZ:Hid (capS (0 * b)=0):=by show _=_;simp [capS]
  have hw2:IntKind.i64.wrap ((0:Int) * (b:Int))=0:=by rw [IntKind.wrap_i64];omega
  go_enter Tryz.func46,Tryz.ntmps46
  go_wp2
  go_ret
  exact ⟨by rw [HZ.out];rfl,rfl⟩
 ·obtain ⟨q,hq,hq2,hq3⟩:=quo_of (x:=(a:Int)) (by omega)
  rw [Int.toNat_natCast] at hq2
  have h1:¬ (a:Int)=0:=by omega
  have h2:((a:Int) == 0)=false:=by simp;omega
  have h3:(0:Int) < (a:Int):=by omega
  have h4:0 < a:=by omega
  have h5:(a == 0)=false:=by simp;omega
  obtain ⟨ai,e1,e2⟩:∃ ai:Int,(a:Int)=ai/\a=ai.toNat:=⟨_,rfl,by simp⟩
  have HM:Hid (capS (a * b)=capS (b * a)):=by show _=_;rw [Nat.mul_comm]
  by_cases hgt:q < b
  ·have hg1:decide ((q:Int) < (b:Int))=true:=decide_eq_true (by omega)
   have hg2:(q:Int) < (b:Int):=by omega
   have HZ:Hid (capS (a * b)=4611686018427387904):=by show _=_;rw [HM.out];exact tim_over (by rw [<-hq2];exact hgt) h4
   generalize capS (a * b)=z at *
   rw [e1] at h1 h2 h3 hq ⊢
   have h6:decide ((0:Int) < ai)=true:=decide_eq_true h3
   clear hq2 hgt HM e1 e2 h4 h5 ha h0
   go_enter Tryz.func46,Tryz.ntmps46
   go_wp2
   go_ret
   exact ⟨by rw [HZ.out];rfl,rfl⟩
  ·have hg1:decide ((q:Int) < (b:Int))=false:=decide_eq_false (by omega)
   have hg2:decide (q < b)=false:=decide_eq_false hgt
   obtain ⟨hc1,hc2⟩:=tim_in (p:=b) (m:=a) (by rw [<-hq2];exact hgt) h4
   have hw2:IntKind.i64.wrap ((a:Int) * (b:Int))=((capS (a * b):Nat):Int):=by
    rw [HM.out,hc1,IntKind.wrap_i64,<-Int.natCast_mul,Nat.mul_comm a b]
    generalize b * a=zz at *
    omega
   generalize capS (a * b)=z at *
   rw [e1] at h1 h2 h3 hq hw2 ⊢
   have h6:decide ((0:Int) < ai)=true:=decide_eq_true h3
   clear hq2 hgt HM e1 e2 h4 h5 ha h0 hc1 hc2
   go_enter Tryz.func46,Tryz.ntmps46
   go_wp2
   go_ret
   exact ⟨rfl,rfl⟩
end Go.Proofs.YthbnjhamfcefkaaGreat.Nm
