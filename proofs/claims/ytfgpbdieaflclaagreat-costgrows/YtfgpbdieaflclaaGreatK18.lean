import Derived.Test.YtfgpbdieaflclaaGreatK17
import Derived.Deep.LoopGhost
set_option maxHeartbeats 6400000
set_option maxRecDepth 100000
set_option linter.unusedSimpArgs false
namespace Go.Proofs.YtfgpbdieaflclaaGreat.Nm.Ty
open Go.RowKit Go.Maps Sp Lx Gr Nm
theorem up_self {α:Type} {f:Nat->α} {j:Nat} {a:α} (h:f j=a):up f j a=f:=by
 funext i
 by_cases e:i=j
 ·subst e;rw [up_same,h]
 ·rw [up_ne e]
end Go.Proofs.YtfgpbdieaflclaaGreat.Nm.Ty
namespace Go.Proofs.YtfgpbdieaflclaaGreat.Nm
open Gr
def tsum:List Int->Nat
 | []=>0
 | n :: l=>n.toNat+tsum l
def tprod:List Int->Nat
 | []=>1
 | n :: l=>n.toNat * tprod l
def capS (n:Nat):Nat:=min n 4611686018427387904
def sumL (l:List Int):Nat:=capS (tsum l)
def timL (l:List Int):Nat:=capS (tprod l)
theorem capS_le (n:Nat):capS n<=4611686018427387904:=by unfold capS;omega
theorem sumL_le (l:List Int):sumL l<=4611686018427387904:=capS_le _
theorem timL_le (l:List Int):timL l<=4611686018427387904:=capS_le _
theorem tsum_app (a b:List Int):tsum (a++b)=tsum a+tsum b:=by
 induction a with
 | nil=>simp [tsum]
 | cons x a ih=>simp only [List.cons_append,tsum,ih];omega
theorem tprod_app (a b:List Int):tprod (a++b)=tprod a * tprod b:=by
 induction a with
 | nil=>simp [tprod]
 | cons x a ih=>simp only [List.cons_append,tprod,ih,Nat.mul_assoc]
theorem capS_add (a b:Nat):capS (capS a+capS b)=capS (a+b):=by unfold capS;omega
theorem capS_mul (a b:Nat):capS (capS a * capS b)=capS (a * b):=by
 unfold capS
 by_cases ha:a<=4611686018427387904
 ·by_cases hb:b<=4611686018427387904
  ·rw [Nat.min_eq_left ha,Nat.min_eq_left hb]
  ·rw [Nat.min_eq_left ha,Nat.min_eq_right (a:=b) (by omega)]
   cases a with
   | zero=>simp
   | succ a=>
    have h1:4611686018427387904<=(a+1) * 4611686018427387904:=Nat.le_mul_of_pos_left _ (Nat.succ_pos a)
    have h2:b<=(a+1) * b:=Nat.le_mul_of_pos_left _ (Nat.succ_pos a)
    omega
 ·rw [Nat.min_eq_right (a:=a) (by omega)]
  cases b with
  | zero=>simp
  | succ b=>
   have h0:1<=min (b+1) 4611686018427387904:=by omega
   have h1:4611686018427387904<=4611686018427387904 * min (b+1) 4611686018427387904:=Nat.le_mul_of_pos_right _ h0
   have h2:a<=a * (b+1):=Nat.le_mul_of_pos_right _ (Nat.succ_pos b)
   omega
theorem capS_one (a:Nat) (h:a<=4611686018427387904):capS a=a:=by unfold capS;omega
theorem capS_idem (a:Nat):capS (capS a)=capS a:=capS_one _ (capS_le a)
theorem sumL_app (a b:List Int):sumL (a++b)=capS (sumL a+sumL b):=by unfold sumL;rw [tsum_app,capS_add]
theorem timL_app (a b:List Int):timL (a++b)=capS (timL a * timL b):=by unfold timL;rw [tprod_app,capS_mul]
theorem take_step {α:Type} {l:List α} {k:Nat} {x:α} (h:l[k]?=some x):l.take (k+1)=l.take k++[x]:=by
 rw [List.take_add_one,h]
 rfl
theorem sumL_step {l:List Int} {k:Nat} {n:Int} (h:l[k]?=some n):sumL (l.take (k+1))=capS (sumL (l.take k)+n.toNat):=by
 rw [take_step h,sumL_app]
 have:sumL [n]=capS n.toNat:=by simp [sumL,tsum]
 rw [this]
 unfold capS sumL capS
 omega
theorem timL_step {l:List Int} {k:Nat} {n:Int} (h:l[k]?=some n):timL (l.take (k+1))=capS (timL (l.take k) * n.toNat):=by
 rw [take_step h,timL_app]
 have:timL [n]=capS n.toNat:=by simp [timL,tprod]
 rw [this]
 unfold timL
 rw [<-capS_mul (capS (tprod (l.take k))) n.toNat,capS_idem]
theorem tprod_zero {l:List Int} {k:Nat} {n:Int} (h:l[k]?=some n) (hn:n<=0):timL l=0:=by
 have e:l=l.take k++(n :: l.drop (k+1)):=by
  have hk:=(List.getElem?_eq_some_iff.1 h).1
  have hx:l[k]=n:=(List.getElem?_eq_some_iff.1 h).2
  conv=>lhs;rw [<-List.take_append_drop k l,List.drop_eq_getElem_cons hk,hx]
 have hz:tprod l=0:=by
  rw [e,tprod_app]
  simp only [tprod]
  rw [show n.toNat=0 by omega]
  simp
 unfold timL
 rw [hz]
 rfl
theorem sum_prog (s:Nat) (n:Int) (hs:s<=4611686018427387904):min (s:Int) (4611686018427387904 - min (max n 0) 4611686018427387904)+min (max n 0) 4611686018427387904=((capS (s+n.toNat):Nat):Int):=by
 unfold capS
 omega
theorem tim_over {p m:Nat} (h:4611686018427387904 / m < p) (hm:0 < m):capS (p * m)=4611686018427387904:=by
 have:=(Nat.div_lt_iff_lt_mul hm).1 h
 unfold capS
 omega
theorem tim_in {p m:Nat} (h:¬ 4611686018427387904 / m < p) (hm:0 < m):capS (p * m)=p * m/\p * m<=4611686018427387904:=by
 have:=mt (Nat.div_lt_iff_lt_mul hm).2 h
 unfold capS
 omega
end Go.Proofs.YtfgpbdieaflclaaGreat.Nm
namespace Go.Proofs.YtfgpbdieaflclaaGreat.Nm
open Go.RowKit Go.Maps Sp Lx Gr
theorem iv_at {l:List Int} {k:Nat} (h:k < l.length):(iv l)[k]?=some (.int .i64 l[k]):=by rw [List.getElem?_map,List.getElem?_eq_getElem h];rfl
theorem sum_any {w:World} {ao:Option Addr} {l:List Int} {c:Nat} (h:IsVals w ao (iv l)) (hn:l.length<=17592186043904):
  Calls Tryz.prog 11 #[.slice ao l.length c] w fun e w'=>e=.returned (.int .i64 (sumL l:Nat))/\w'=w:=by
 have H:=hdn <| h
 have hn2:(l.length:Int)<=17592186043904:=by omega
 have HE:Hid (sumL (l.take l.length)=sumL l):=by show _=_;rw [List.take_length]
 clear h hn
 go_enter Tryz.func11,Tryz.ntmps11
 go_wp2_with fail
 go_loopg [3,8] l.length (fun gq x y wr=>∃ k:Nat,k+gq=l.length/\x=.int .i64 (sumL (l.take k):Nat)/\y=.int .i64 (k:Int)/\wr=w)
 case atStart=>exact ⟨0,by omega,rfl,rfl,rfl⟩
 case round=>
  obtain ⟨k,hkg,rfl,rfl,hw⟩:=hrel
  have HG:Hid (k+gk=l.length):=hkg
  subst hw
  by_cases hlt:k < l.length
  ·have hk':(k:Int) < (l.length:Int):=by omega
   have hk2:(k:Int)<=17592186043904:=by omega
   obtain ⟨g,o,rfl,_,d0⟩:=H.out k _ (iv_at hlt)
   have HS:Hid (sumL (l.take (k+1))=capS (sumL (l.take k)+l[k].toNat)):=sumL_step (List.getElem?_eq_getElem hlt)
   have hsl:=sumL_le (l.take k)
   have HLt:Hid (k < l.length):=hlt
   generalize l[k]=x at *
   generalize hs:sumL (l.take k)=s at *
   clear hs
   have HP:=hdn <| sum_prog s x hsl
   have hw1:IntKind.i64.wrap (4611686018427387904 - min (max x 0) 4611686018427387904)=4611686018427387904 - min (max x 0) 4611686018427387904:=by rw [IntKind.wrap_i64];omega
   have hw2:IntKind.i64.wrap (min (s:Int) (4611686018427387904 - min (max x 0) 4611686018427387904)+min (max x 0) 4611686018427387904)=((capS (s+x.toNat):Nat):Int):=by
    rw [HP.out,IntKind.wrap_i64]
    have:=capS_le (s+x.toNat)
    omega
   clear hkg hlt hsl
   go_wp2_with fail
   go_roundg (l.length - (k+1))
   case measure=>have:=HG.out;have:=HLt.out;omega
   case rel=>exact ⟨k+1,by have:=HLt.out;omega,by rw [HS.out],by go_num,rfl⟩
  ·have hk':decide (k < l.length)=false:=decide_eq_false hlt
   have hk2:decide ((k:Int) < (l.length:Int))=false:=decide_eq_false (by omega)
   have hke:k=l.length:=by omega
   have HR:Hid (sumL (l.take k)=sumL l):=by show _=_;rw [hke];exact HE.out
   clear hkg hlt hke
   go_wp2
   go_ret
   exact ⟨by rw [HR.out];rfl,rfl⟩
theorem quo_of {x:Int} (hx:0 < x):∃ q:Nat,IntKind.i64.wrap (Int.tdiv 4611686018427387904 x)=(q:Int)/\q=4611686018427387904 / x.toNat/\(q:Int)<=4611686018427387904:=by
 obtain ⟨m,rfl⟩:=Int.eq_ofNat_of_zero_le (Int.le_of_lt hx)
 have h1:Int.tdiv 4611686018427387904 (m:Int)=((4611686018427387904 / m:Nat):Int):=rfl
 have h2:4611686018427387904 / m<=4611686018427387904:=Nat.div_le_self _ _
 refine ⟨4611686018427387904 / m,?_,by simp,?_⟩
 ·rw [h1,IntKind.wrap_i64]
  generalize 4611686018427387904 / m=q at *
  omega
 ·generalize 4611686018427387904 / m=q at *
  omega
theorem mul_toNat {s:Nat} {x:Int} (hx:0 < x):(s:Int) * x=((s * x.toNat:Nat):Int):=by
 obtain ⟨m,rfl⟩:=Int.eq_ofNat_of_zero_le (Int.le_of_lt hx)
 simp
theorem times_any {w:World} {ao:Option Addr} {l:List Int} {c:Nat} (h:IsVals w ao (iv l)) (hn:l.length<=17592186043904):
  Calls Tryz.prog 12 #[.slice ao l.length c] w fun e w'=>e=.returned (.int .i64 (timL l:Nat))/\w'=w:=by
 have H:=hdn <| h
 have hn2:(l.length:Int)<=17592186043904:=by omega
 have HE:Hid (timL (l.take l.length)=timL l):=by show _=_;rw [List.take_length]
 clear h hn
 go_enter Tryz.func12,Tryz.ntmps12
 go_wp2_with fail
 go_loopg [3,8] l.length (fun gq x y wr=>∃ k:Nat,k+gq=l.length/\x=.int .i64 (timL (l.take k):Nat)/\y=.int .i64 (k:Int)/\wr=w)
 case atStart=>exact ⟨0,by omega,rfl,rfl,rfl⟩
 case round=>
  obtain ⟨k,hkg,rfl,rfl,hw⟩:=hrel
  have HG:Hid (k+gk=l.length):=hkg
  subst hw
  by_cases hlt:k < l.length
  ·have hk':(k:Int) < (l.length:Int):=by omega
   have hk2:(k:Int)<=17592186043904:=by omega
   obtain ⟨g,o,rfl,_,d0⟩:=H.out k _ (iv_at hlt)
   have HS:Hid (timL (l.take (k+1))=capS (timL (l.take k) * l[k].toNat)):=timL_step (List.getElem?_eq_getElem hlt)
   have HZ:Hid (l[k]<=0->timL l=0):=fun e=>tprod_zero (List.getElem?_eq_getElem hlt) e
   have hsl:=timL_le (l.take k)
   have HLt:Hid (k < l.length):=hlt
   generalize l[k]=x at *
   generalize hs:timL (l.take k)=s at *
   clear hs
   by_cases hx:x<=0
   ·have hx1:decide (x<=0)=true:=decide_eq_true hx
    have HR:Hid (timL l=0):=HZ.out hx
    clear hkg hlt hsl HZ hx
    go_wp2
    go_ret
    exact ⟨by rw [HR.out];rfl,rfl⟩
   ·have hx1:decide (x<=0)=false:=decide_eq_false hx
    have hx2:(x == 0)=false:=by simp;omega
    have hx3:¬ x=0:=by omega
    obtain ⟨q,hq,hq2,hq3⟩:=quo_of (x:=x) (by omega)
    have hm:=mul_toNat (s:=s) (x:=x) (by omega)
    by_cases hgt:q < s
    ·have hg1:decide ((q:Int) < (s:Int))=true:=decide_eq_true (by omega)
     have hg2:(q:Int) < (s:Int):=by omega
     have HC:Hid (capS (s * x.toNat)=4611686018427387904):=tim_over (by rw [<-hq2];exact hgt) (by omega)
     clear hkg hlt hsl HZ hx hq2 hm hgt
     go_wp2_with fail
     go_roundg (l.length - (k+1))
     case measure=>have:=HG.out;have:=HLt.out;omega
     case rel=>exact ⟨k+1,by have:=HLt.out;omega,by rw [HS.out,HC.out];rfl,by go_num,rfl⟩
    ·have hg1:decide ((q:Int) < (s:Int))=false:=decide_eq_false (by omega)
     have hg2:decide (q < s)=false:=decide_eq_false hgt
     obtain ⟨hc1,hc2⟩:=tim_in (p:=s) (m:=x.toNat) (by rw [<-hq2];exact hgt) (by omega)
     have hw2:IntKind.i64.wrap ((s:Int) * x)=((capS (s * x.toNat):Nat):Int):=by
      rw [hm,hc1,IntKind.wrap_i64]
      generalize s * x.toNat=z at *
      omega
     clear hkg hlt hsl HZ hx hq2 hm hgt hc1 hc2
     go_wp2_with fail
     go_roundg (l.length - (k+1))
     case measure=>have:=HG.out;have:=HLt.out;omega
     case rel=>exact ⟨k+1,by have:=HLt.out;omega,by rw [HS.out],by go_num,rfl⟩
  ·have hk':decide (k < l.length)=false:=decide_eq_false hlt
   have hk2:decide ((k:Int) < (l.length:Int))=false:=decide_eq_false (by omega)
   have hke:k=l.length:=by omega
   have HR:Hid (timL (l.take k)=timL l):=by show _=_;rw [hke];exact HE.out
   clear hkg hlt hke
   go_wp2
   go_ret
   exact ⟨by rw [HR.out];rfl,rfl⟩
end Go.Proofs.YtfgpbdieaflclaaGreat.Nm
namespace Go.Proofs.YtfgpbdieaflclaaGreat.Nm
open Gr
abbrev zi (ks:List Nat):List Int:=ks.map (fun n:Nat=>(n:Int))
def mxL:List Nat->Nat
 | []=>0
 | n :: l=>max n (mxL l)
def overN (l:List Rz) (rd:List Int) (rs:List Nat) (i:Nat) (ks:List Nat):Nat:=
 if (rat l i).kind=12 then sumL [1,(ks.getD 0 0:Nat),(mxL (ks.drop 1):Nat)]
 else if (rat l i).kind=13 then sumL [1,(timL [rd.getD i 0,(sumL (zi (ks.drop 1)):Nat)]:Nat)]
 else if (rat l i).kind=22 then sumL [1,(rs.getD (rat l i).n.toNat 0:Nat)]
 else if (rat l i).kind=24 then 0
 else sumL [1,(sumL (zi ks):Nat)]
theorem overN_le (l:List Rz) (rd:List Int) (rs:List Nat) (i:Nat) (ks:List Nat):overN l rd rs i ks<=4611686018427387904:=by
 unfold overN
 repeat' split
 all_goals first | exact sumL_le _ | exact Nat.zero_le _
def bndF (l:List Rz) (rd:List Int) (rs:List Nat):Nat->Nat->Nat
 | 0,_=>0
 | f+1,i=>overN l rd rs i ((List.range (km l i)).map fun k=>bndF l rd rs f (kidp l i k))
def bnd (l:List Rz) (rd:List Int) (rs:List Nat) (i:Nat):Nat:=bndF l rd rs (endp l i - i) i
theorem bndF_le (l:List Rz) (rd:List Int) (rs:List Nat) (f i:Nat):bndF l rd rs f i<=4611686018427387904:=by
 cases f with
 | zero=>exact Nat.zero_le _
 | succ f=>exact overN_le _ _ _ _ _
theorem bnd_le (l:List Rz) (rd:List Int) (rs:List Nat) (i:Nat):bnd l rd rs i<=4611686018427387904:=bndF_le _ _ _ _ _
theorem kidMono {l:List Rz} (h:Whole l) {i:Nat} (hi:i < l.length):∀ d k,k+d<=km l i->kidp l i k<=kidp l i (k+d):=by
 intro d
 induction d with
 | zero=>intro k _;exact Nat.le_refl _
 | succ d ih=>
  intro k hk
  have h1:=ih k (by omega)
  obtain ⟨h2,h3,_⟩:=kid_at h hi (k:=k+d) (by omega)
  have h4:=(end_kid h h2).2.1
  rw [show k+(d+1)=k+d+1 by omega,h3]
  omega
theorem kidIn {l:List Rz} (h:Whole l) {i k:Nat} (hi:i < l.length) (hk:k < km l i):i < kidp l i k/\kidp l i k < l.length/\endp l (kidp l i k)<=endp l i/\kidp l i (k+1)=endp l (kidp l i k):=by
 obtain ⟨h1,h2,h3⟩:=kid_at h hi hk
 refine ⟨h3,h1,?_,h2⟩
 rw [(end_kid h hi).1,<-h2]
 have:=kidMono h hi (km l i - (k+1)) (k+1) (by omega)
 rwa [show k+1+(km l i - (k+1))=km l i by omega] at this
theorem bndF_fuel {l:List Rz} (rd:List Int) (rs:List Nat) (h:Whole l):∀ (f g i:Nat),i < l.length->endp l i - i<=f->endp l i - i<=g->bndF l rd rs f i=bndF l rd rs g i:=by
 intro f
 induction f with
 | zero=>intro g i hi hf;have:=(end_kid h hi).2.1;omega
 | succ f ih=>
  intro g i hi hf hg
  cases g with
  | zero=>have:=(end_kid h hi).2.1;omega
  | succ g=>
   simp only [bndF]
   congr 1
   apply List.map_congr_left
   intro k hk
   have hk:=List.mem_range.1 hk
   obtain ⟨h1,h2,h3,_⟩:=kidIn h hi hk
   have:=(end_kid h h2).2.1
   exact ih g _ h2 (by omega) (by omega)
def bks (l:List Rz) (rd:List Int) (rs:List Nat) (i:Nat):Nat->List Nat:=fun m=>(List.range m).map fun k=>bnd l rd rs (kidp l i k)
theorem bks_len (l:List Rz) (rd:List Int) (rs:List Nat) (i m:Nat):(bks l rd rs i m).length=m:=by simp [bks]
theorem bks_succ (l:List Rz) (rd:List Int) (rs:List Nat) (i m:Nat):bks l rd rs i (m+1)=bks l rd rs i m++[bnd l rd rs (kidp l i m)]:=by simp [bks,List.range_succ]
theorem bks_le (l:List Rz) (rd:List Int) (rs:List Nat) (i m:Nat):∀ x ∈ bks l rd rs i m,x<=4611686018427387904:=fun x hx=>by
 obtain ⟨k,_,rfl⟩:=List.mem_map.1 hx
 exact bnd_le _ _ _ _
theorem bnd_eq {l:List Rz} (rd:List Int) (rs:List Nat) (h:Whole l) {i:Nat} (hi:i < l.length):bnd l rd rs i=overN l rd rs i (bks l rd rs i (km l i)):=by
 have h1:=(end_kid h hi).2.1
 unfold bnd
 obtain ⟨f,hf⟩:∃ f,endp l i - i=f+1:=⟨endp l i - i - 1,by omega⟩
 rw [hf]
 simp only [bndF]
 congr 1
 unfold bks
 apply List.map_congr_left
 intro k hk
 have hk:=List.mem_range.1 hk
 obtain ⟨h2,h3,h4,_⟩:=kidIn h hi hk
 have:=(end_kid h h3).2.1
 exact bndF_fuel rd rs h _ _ _ h3 (by omega) (by omega)
theorem bnd_rs {l:List Rz} (rd:List Int) {rs rs':List Nat} (h:Whole l):∀ (f i:Nat),i < l.length->endp l i - i<=f->(∀ j,i<=j->j < endp l i->(rat l j).kind=22->rs.getD (rat l j).n.toNat 0=rs'.getD (rat l j).n.toNat 0)->bnd l rd rs i=bnd l rd rs' i:=by
 intro f
 induction f with
 | zero=>intro i hi hf;have:=(end_kid h hi).2.1;omega
 | succ f ih=>
  intro i hi hf hc
  rw [bnd_eq rd rs h hi,bnd_eq rd rs' h hi]
  have e:bks l rd rs i (km l i)=bks l rd rs' i (km l i):=by
   unfold bks
   apply List.map_congr_left
   intro k hk
   have hk:=List.mem_range.1 hk
   obtain ⟨h2,h3,h4,_⟩:=kidIn h hi hk
   have:=(end_kid h h3).2.1
   exact ih _ h3 (by omega) (fun j hj1 hj2 hj3=>hc j (by omega) (by omega) hj3)
  rw [e]
  unfold overN
  by_cases h22:(rat l i).kind=22
  ·rw [hc i (Nat.le_refl _) (end_kid h hi).2.1 h22]
  ·rw [if_neg h22,if_neg h22]
def rsN (l:List Rz) (rd:List Int) (us:List Nat):Nat->List Nat
 | 0=>[]
 | k+1=>rsN l rd us k++[bnd l rd (rsN l rd us k) (us.getD k 0)]
theorem rsN_len (l:List Rz) (rd:List Int) (us:List Nat) (k:Nat):(rsN l rd us k).length=k:=by
 induction k with
 | zero=>rfl
 | succ k ih=>simp [rsN,ih]
theorem rsN_pre (l:List Rz) (rd:List Int) (us:List Nat) (k j i:Nat) (hi:i < k):(rsN l rd us (k+j)).getD i 0=(rsN l rd us k).getD i 0:=by
 induction j with
 | zero=>rfl
 | succ j ih=>
  rw [<-ih]
  show (rsN l rd us (k+j)++_).getD i 0=_
  simp only [List.getD_eq_getElem?_getD]
  rw [List.getElem?_append_left (by rw [rsN_len];omega)]
def rsAll (l:List Rz) (rd:List Int) (us:List Nat):List Nat:=rsN l rd us us.length
theorem rs_rule {l:List Rz} {us:List Nat} (rd:List Int) (h:Whole l) (hul:∀ u ∈ us,u < l.length) (hc:∀ k (hk:k < us.length) j,us[k]<=j->j < endp l us[k]->(rat l j).kind=22->0<=(rat l j).n/\(rat l j).n < (k:Int)) {n:Nat} (hn:n < us.length):(rsAll l rd us).getD n 0=bnd l rd (rsAll l rd us) us[n]:=by
 have e:us.length=(n+1)+(us.length - (n+1)):=by omega
 have e2:us.length=n+(us.length - n):=by omega
 have hg:us.getD n 0=us[n]:=by simp [List.getD_eq_getElem?_getD,List.getElem?_eq_getElem hn]
 unfold rsAll
 have h1:(rsN l rd us us.length).getD n 0=bnd l rd (rsN l rd us n) us[n]:=by
  rw [e,rsN_pre l rd us (n+1) _ n (by omega)]
  show (rsN l rd us n++[_]).getD n 0=_
  rw [List.getD_eq_getElem?_getD,List.getElem?_append_right (by rw [rsN_len];omega),rsN_len,hg]
  simp
 rw [h1]
 refine bnd_rs rd h _ _ (hul _ (List.getElem_mem hn)) (Nat.le_refl _) (fun j hj1 hj2 hj3=>?_)
 obtain ⟨h2,h3⟩:=hc n hn j hj1 hj2 hj3
 rw [e2,rsN_pre l rd us n _ _ (by omega)]
theorem mxL_app (a b:List Nat):mxL (a++b)=max (mxL a) (mxL b):=by
 induction a with
 | nil=>simp [mxL]
 | cons x a ih=>simp only [List.cons_append,mxL,ih];omega
end Go.Proofs.YtfgpbdieaflclaaGreat.Nm
namespace Go.Proofs.YtfgpbdieaflclaaGreat.Nm
open Go.RowKit Go.Maps Sp Lx Gr
theorem zi_at {ks:List Nat} {k:Nat} (h:k < ks.length):(iv (zi ks))[k]?=some (.int .i64 (ks[k]:Nat)):=by simp [iv,zi,h]
theorem zi_len (ks:List Nat):(zi ks).length=ks.length:=by simp [zi]
theorem mxL_step {ks:List Nat} {k:Nat} (h:k < ks.length):mxL (ks.take (k+1))=max (mxL (ks.take k)) ks[k]:=by
 rw [take_step (List.getElem?_eq_getElem h),mxL_app]
 simp [mxL]
theorem max_any {w:World} {ao:Option Addr} {ks:List Nat} {c:Nat} (h:IsVals w ao (iv (zi ks))) (hn:ks.length<=17592186043904) (h0:0 < ks.length) (hle:∀ x ∈ ks,x<=4611686018427387904):
  Calls Tryz.prog 79 #[.slice ao ks.length c] w fun e w'=>e=.returned (.int .i64 (mxL ks:Nat))/\w'=w:=by
 have H:=hdn <| h
 have HM:=hdn <| hle
 have hn2:(ks.length:Int)<=17592186043904:=by omega
 have h1:decide ((ks.length:Int) < 1)=false:=decide_eq_false (by omega)
 have h2:(0:Int) < (ks.length:Int):=by omega
 have HE:Hid (mxL (ks.take ks.length)=mxL ks):=by show _=_;rw [List.take_length]
 obtain ⟨g,o,rfl,_,d0⟩:=h 0 _ (zi_at h0)
 have HF:Hid (mxL (ks.take 1)=ks[0]):=by show _=_;rw [mxL_step h0];simp [mxL]
 have HM0:Hid (ks[0]<=4611686018427387904/\0 < ks.length):=⟨hle _ (List.getElem_mem h0),h0⟩
 rw [Nat.add_zero] at d0
 generalize ks[0]=k0 at *
 clear h hn hle h0
 go_enter Tryz.func79,Tryz.ntmps79
 go_wp2_with fail
 clear d0 h1
 go_loopg [3,4] (ks.length - 1) (fun gq x y wr=>∃ k:Nat,0 < k/\k+gq=ks.length/\x=.int .i64 (mxL (ks.take k):Nat)/\y=.int .i64 (k:Int)/\wr=w)
 case atStart=>exact ⟨1,by omega,by have:=HM0.out.2;omega,by rw [HF.out],rfl,rfl⟩
 case round=>
  obtain ⟨k,hkp,hkg,rfl,rfl,hw⟩:=hrel
  have HG:Hid (k+gk=ks.length/\0 < k):=⟨hkg,hkp⟩
  subst hw
  by_cases hlt:k < ks.length
  ·have hk':(k:Int) < (ks.length:Int):=by omega
   have hk2:(k:Int)<=17592186043904:=by omega
   obtain ⟨g',o',e',_,d1⟩:=H.out k _ (zi_at hlt)
   cases e'
   have HS:Hid (mxL (ks.take (k+1))=max (mxL (ks.take k)) ks[k]):=mxL_step hlt
   have HLt:Hid (k < ks.length):=hlt
   generalize ks[k]=x at *
   generalize hs:mxL (ks.take k)=s at *
   have hmx:max (s:Int) (x:Int)=((max s x:Nat):Int):=by omega
   clear hs hkg hlt hkp
   go_wp2_with fail
   go_roundg (ks.length - (k+1))
   case measure=>have:=HG.out;have:=HLt.out;omega
   case rel=>exact ⟨k+1,by omega,by have:=HLt.out;omega,by rw [HS.out],by go_num,rfl⟩
  ·have hk':decide (k < ks.length)=false:=decide_eq_false hlt
   have hk2:decide ((k:Int) < (ks.length:Int))=false:=decide_eq_false (by omega)
   have hke:k=ks.length:=by omega
   have HR:Hid (mxL (ks.take k)=mxL ks):=by show _=_;rw [hke];exact HE.out
   clear hkg hlt hke hkp
   go_wp2
   go_ret
   exact ⟨by rw [HR.out];rfl,rfl⟩
end Go.Proofs.YtfgpbdieaflclaaGreat.Nm
