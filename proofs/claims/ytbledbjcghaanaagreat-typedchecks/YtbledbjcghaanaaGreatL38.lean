import Derived.Test.YtbledbjcghaanaaGreatL37
import Derived.Test.YtbledbjcghaanaaGreatTl
import Derived.Deep.RegionHeld3
set_option maxHeartbeats 12800000
set_option maxRecDepth 100000
namespace Go.Proofs.YtbledbjcghaanaaGreat.Nm.Ty
open Go.RowKit Go.Maps Sp Lx Gr
theorem rtype8 (k n:Int) (w:World):Calls Tryz.prog 35 #[I k] w fun e w'=>e=.returned (I (pOf k n).is)/\w'=w:=by
 rcases part_cases k with rfl | rfl | rfl | rfl | rfl | rfl | rfl | rfl | rfl | rfl | rfl | rfl | rfl | rfl | rfl | rfl | rfl | rfl | rfl | rfl | rfl | rfl | rfl | rfl | rfl | rfl | rfl | rfl | ⟨h27,h29,h30,h32,h33,h28,h31,h34,h38,h35,h36,h37,h39,h40,h41,h43,h44,h45,h46,h49,h50,h51,h52,h42,h53,h54,h47,h48⟩
 iterate 28 (focus (go_enter Tryz.func35,Tryz.ntmps35;go_wp2;go_ret;exact ⟨rfl,rfl⟩))
 ·have HP:Hid (pOf k n=.dng (askA k) (askB k) (askC k)):=by
   simp [Hid,pOf,h27,h29,h30,h32,h33,h28,h31,h34,h38,h35,h36,h37,h39,h40,h41,h43,h44,h45,h46,h49,h50,h51,h52,h42,h53,h54,h47,h48]
  have b27:(k == 27)=false:=beq_false_of_ne h27;have b29:(k == 29)=false:=beq_false_of_ne h29;have b30:(k == 30)=false:=beq_false_of_ne h30;have b32:(k == 32)=false:=beq_false_of_ne h32;have b33:(k == 33)=false:=beq_false_of_ne h33;have b28:(k == 28)=false:=beq_false_of_ne h28;have b31:(k == 31)=false:=beq_false_of_ne h31;have b34:(k == 34)=false:=beq_false_of_ne h34;have b38:(k == 38)=false:=beq_false_of_ne h38;have b35:(k == 35)=false:=beq_false_of_ne h35;have b36:(k == 36)=false:=beq_false_of_ne h36;have b37:(k == 37)=false:=beq_false_of_ne h37;have b39:(k == 39)=false:=beq_false_of_ne h39;have b40:(k == 40)=false:=beq_false_of_ne h40;have b41:(k == 41)=false:=beq_false_of_ne h41;have b43:(k == 43)=false:=beq_false_of_ne h43;have b44:(k == 44)=false:=beq_false_of_ne h44;have b45:(k == 45)=false:=beq_false_of_ne h45;have b46:(k == 46)=false:=beq_false_of_ne h46;have b49:(k == 49)=false:=beq_false_of_ne h49;have b50:(k == 50)=false:=beq_false_of_ne h50;have b51:(k == 51)=false:=beq_false_of_ne h51;have b52:(k == 52)=false:=beq_false_of_ne h52;have b42:(k == 42)=false:=beq_false_of_ne h42;have b53:(k == 53)=false:=beq_false_of_ne h53;have b54:(k == 54)=false:=beq_false_of_ne h54;have b47:(k == 47)=false:=beq_false_of_ne h47;have b48:(k == 48)=false:=beq_false_of_ne h48;clear h27 h29 h30 h32 h33 h28 h31 h34 h38 h35 h36 h37 h39 h40 h41 h43 h44 h45 h46 h49 h50 h51 h52 h42 h53 h54 h47 h48;go_enter Tryz.func35,Tryz.ntmps35;go_wp2;go_ret;rw [HP.out];exact ⟨rfl,rfl⟩
theorem rfree8 (k n:Int) (w:World):Calls Tryz.prog 36 #[I k] w fun e w'=>e=.returned (.bool (pOf k n).changing)/\w'=w:=by
 rcases part_cases k with rfl | rfl | rfl | rfl | rfl | rfl | rfl | rfl | rfl | rfl | rfl | rfl | rfl | rfl | rfl | rfl | rfl | rfl | rfl | rfl | rfl | rfl | rfl | rfl | rfl | rfl | rfl | rfl | ⟨h27,h29,h30,h32,h33,h28,h31,h34,h38,h35,h36,h37,h39,h40,h41,h43,h44,h45,h46,h49,h50,h51,h52,h42,h53,h54,h47,h48⟩
 iterate 28 (focus (go_enter Tryz.func36,Tryz.ntmps36;go_wp2;go_ret;exact ⟨rfl,rfl⟩))
 ·have HP:Hid (pOf k n=.dng (askA k) (askB k) (askC k)):=by
   simp [Hid,pOf,h27,h29,h30,h32,h33,h28,h31,h34,h38,h35,h36,h37,h39,h40,h41,h43,h44,h45,h46,h49,h50,h51,h52,h42,h53,h54,h47,h48]
  have b28:(k == 28)=false:=beq_false_of_ne h28;have b31:(k == 31)=false:=beq_false_of_ne h31;have b34:(k == 34)=false:=beq_false_of_ne h34;have b35:(k == 35)=false:=beq_false_of_ne h35;have b36:(k == 36)=false:=beq_false_of_ne h36;have b37:(k == 37)=false:=beq_false_of_ne h37;have b38:(k == 38)=false:=beq_false_of_ne h38;clear h27 h29 h30 h32 h33 h28 h31 h34 h38 h35 h36 h37 h39 h40 h41 h43 h44 h45 h46 h49 h50 h51 h52 h42 h53 h54 h47 h48;go_enter Tryz.func36,Tryz.ntmps36;go_wp2;go_ret;rw [HP.out];exact ⟨rfl,rfl⟩
theorem rend8 (ao:Option Addr) (l:List Rz) (cap i:Nat) (w:World) (h:IsRz w ao l) (hn:l.length<=2932031007317) (hT:TreeZ l) (hi:i < l.length):
  Calls Tryz.prog 46 #[.slice ao l.length cap,I i] w fun e w'=>e=.returned (I (endp l i:Nat))/\w'=w:=by
 have HI:Hid (IsRz w ao l):=h;have HT:Hid (TreeZ l):=hT;have HN:Hid (l.length<=2932031007317):=hn;have HM:Hid (Mis l (endp l i) 1 i):=mis_start hT.whole hi;have hln:(l.length:Int)<=2932031007317:=by omega
 have hi2:(i:Int)<=2932031007317:=by omega
 clear h hn hT;go_enter Tryz.func46,Tryz.ntmps46;go_wp2_with fail
 go_loopg [1,5] (l.length - i) (fun gq x y wr=>∃ j m:Nat,j<=l.length/\gq=l.length - j/\x=I j/\y=I m/\Mis l (endp l i) m j/\wr=w)
 case atStart=>exact ⟨i,1,by omega,rfl,rfl,rfl,HM.out,rfl⟩
 case round=>
  obtain ⟨j,m,hj,hgk,rfl,rfl,hMs,hw⟩:=hrel;have HG:Hid (gk=l.length - j):=hgk;have HMs:Hid (Mis l (endp l i) m j):=hMs;rw [hw];clear hgk hMs hw;have hj2:(j:Int)<=2932031007317:=by omega
  have hm2:(m:Int)<=2932031007317:=by
   obtain ⟨x,h1,_⟩:=HMs.out;have:=mis_le _ _ _ h1;rw [List.length_drop] at this;omega
  cases m with
  | zero=>
   have HE:=hdn <| mis_done HMs.out;go_wp2_with fail;go_ret;exact ⟨by rw [HE.out];rfl,rfl⟩
  | succ m=>
   obtain ⟨hjl,hnx⟩:=mis_step HMs.out;have HNx:Hid (Mis l (endp l i) (m+km l j) (j+1)):=hnx;have hjl':(j:Int) < (l.length:Int):=by omega
   obtain ⟨g,o,rfl,hg,_,c4⟩:=kids_at HI.out HT.out hjl;have hkm:(km l j:Int)<=2932031007317:=by have:=km_le HT.out.whole hjl;omega
   have hmp:(0:Int) < ((m+1:Nat):Int):=by omega
   have hcast:((m+1:Nat):Int)=(m:Int)+1:=by omega
   rw [hcast] at hm2 hmp ⊢;clear hnx hjl hj hcast;go_wp2_with fail;go_roundg (l.length - (j+1))
   case measure=>have h1:=HG.out;omega
   case rel=>exact ⟨j+1,m+km l j,by omega,rfl,by go_num,by go_num,HNx.out,rfl⟩
theorem rkids8 {l:List Rz} {ao:Option Addr} {cap:Nat} (i:Nat) {w:World} (h:IsRz w ao l) (hn:l.length<=2932031007317) (hT:TreeZ l) (hi:i < l.length):
  Calls Tryz.prog 49 #[.slice ao l.length cap,I i] w fun e w'=>∃ v,e=.returned v/\w'.ownsRow w.heap.size 3 1 v (km l i) ((kl l i (km l i)).map nc)/\Below w.heap.size w w':=by
 obtain ⟨j0,hj,hj0,hj1,hj2⟩:=info_parts info3;have HI:Hid (IsRz w ao l):=h;have HT:Hid (TreeZ l):=hT;have HN:Hid (l.length<=2932031007317):=hn;have hln:(l.length:Int)<=2932031007317:=by omega
 have hi1:(i:Int) < (l.length:Int):=by omega
 have HKm:Hid (km l i<=2932031007317):=by have:=km_le hT.whole hi;show _<=_;omega
 have hkm:(km l i:Int)<=2932031007317:=by have:=HKm.out;omega
 clear h hn hT;go_enter Tryz.func49,Tryz.ntmps49;go_wp2_with fail
 go_loopg [5,6,7] (km l i) (fun gq x nx c wr=>∃ (k:Nat) (v:Value),k<=km l i/\gq=km l i - k/\v=x/\nx=I (kidp l i k:Int)/\c=I (k:Int)/\wr.ownsRow w.heap.size 3 1 v k ((kl l i k).map nc)/\Below w.heap.size w wr)
 case atStart=>exact ⟨0,_,Nat.zero_le _,rfl,rfl,by rw [kid_zero];go_num,rfl,World.ownsRow_nil _ _ _ _,Below.refl _ _⟩
 case round=>
  obtain ⟨k,v,hk,hgk,rfl,rfl,rfl,hO,hB⟩:=hrel;have HG:Hid (gk=km l i - k):=hgk;have HO:Hid (wr.ownsRow w.heap.size 3 1 v k ((kl l i k).map nc)):=hO;have HBr:Hid (Below w.heap.size w wr):=hB;have HKl:Hid (k<=2932031007317):=by have:=HKm.out;show _<=_;omega
  have HKp:Hid (kidp l i k<=l.length):=kid_le HT.out.whole hi hk;have hkp:(kidp l i k:Int)<=2932031007317:=by have:=HKp.out;omega
  obtain ⟨gr,or,rfl,_,_,c4⟩:=kids_at (HI.out.below HBr.out) HT.out hi;clear hgk hO hB;by_cases hlk:k < km l i
  ·obtain ⟨h1,h2,h3⟩:=kid_at HT.out.whole hi hlk;have hlk':(k:Int) < (km l i:Int):=by omega
   have h1':(kidp l i k:Int) < (l.length:Int):=by omega
   have HNx:Hid (kidp l i (k+1)=endp l (kidp l i k)):=h2;have hb2:Below wr.heap.size wr (wr.alloc (.cells #[I (kidp l i k:Int)] 3)):=bAl wr _;have HO2:Hid ((wr.alloc (.cells #[I (kidp l i k:Int)] 3)).ownsRow w.heap.size 3 1 v k ((kl l i k).map nc)):=own_below HO.out hb2;obtain ⟨bo,bc,rfl⟩:=own_form HO.out;have HLk:Hid (k < km l i/\kidp l i k < l.length):=⟨hlk,h1⟩;clear h1 h2 h3 hlk hk hb2;go_wp2_with (at_builtin;refine append_gone _ rfl _ _ 25 rfl w.heap.size 3 j0 (I 0) 1 8 Tryz.underlying25 hj hj0 hj1 hj2 rfl (by decide) (.slice bo k bc) k ((kl l i k).map nc) rfl HO2.out ⟨wr.heap.size,0,none⟩ 1 1 [nc (kidp l i k)] rfl rfl (cell_one wr _ _) (by intro u hu;simp only [nc,List.mem_cons,List.not_mem_nil,or_false] at hu;subst hu;rfl) (by have:=HKl.out;unfold maxLen;omega) (by have:=HKl.out;omega) (by have h1:=HBr.out.size;rw [World.size_alloc];omega) (by decide) ?_)
   intro v4 w4 ho hG;have HO4:Hid (w4.ownsRow w.heap.size 3 1 v4 (k+1) ((kl l i (k+1)).map nc)):=by
    show w4.ownsRow w.heap.size 3 1 v4 (k+1) ((kl l i (k+1)).map nc)
    rw [kl_succ]
    simpa using ho
   have hb4:Below w.heap.size (wr.alloc (.cells #[I (kidp l i k:Int)] 3)) w4:=(Went.gone hG).low (fun j hj=>(World.ownsRow.lt HO2.out j hj).1) (by have h1:=HBr.out.size;rw [World.size_alloc];omega)
   have HB4:Hid (Below w.heap.size w w4):=(HBr.out.alloc HBr.out.size _).trans hb4;obtain ⟨bo4,bc4,rfl⟩:=own_form ho;have HE:=hdn <| rend8 (some ⟨gr,or,none⟩) l cap (kidp l i k) w4 (HI.out.below HB4.out) HN.out HT.out HLk.out.2;clear ho hG hb4 c4;go_wp2_with fail;refine Calls.mono HE.out ?_;rintro e w5 ⟨rfl,rfl⟩;go_wp2_with fail;go_roundg (km l i - (k+1))
   case measure=>have h1:=HG.out;have:=HLk.out;omega
   case rel=>exact ⟨k+1,_,by have:=HLk.out;omega,rfl,rfl,by rw [HNx.out],by go_num,HO4.out,HB4.out⟩
  ·have hke:k=km l i:=by omega
   have hlk':¬ ((k:Int) < (km l i:Int)):=by omega
   have HF:Hid (wr.ownsRow w.heap.size 3 1 v (km l i) ((kl l i (km l i)).map nc)):=by rw [hke] at HO;exact HO
   clear hke hlk hk;go_wp2_with fail;go_ret;exact ⟨_,rfl,HF.out,HBr.out⟩
end Go.Proofs.YtbledbjcghaanaaGreat.Nm.Ty
namespace Go.Proofs.YtbledbjcghaanaaGreat.Nm.Ty
open Go.RowKit Go.Maps Sp Lx Gr Nm
theorem kid_inj {l:List Rz} (h:Whole l) {i k i' k':Nat} (hi:i < l.length) (hk:k < km l i) (hi':i' < l.length) (hk':k' < km l i') (e:kidp l i k=kidp l i' k'):i=i'/\k=k':=by
 have h1:=up_kid h hi hk;have h2:=up_kid h hi' hk';rw [e] at h1;exact ⟨h1.1.symm.trans h2.1,h1.2.symm.trans h2.2⟩
theorem askRow_own {l:List Rz} (h:Whole l) {i k:Nat} (hi:i < l.length) (f:Nat->Int):∀ m,m<=km l i->k < m->askRow l i f m (kidp l i k)=(rP l i).asked k (rP l (i+1)).is
 | 0,_,hk=>by omega
 | m+1,hm,hk=>by
  unfold askRow setF;by_cases e:kidp l i k=kidp l i m
  ·rw [if_pos e,(kid_inj h hi (by omega) hi (by omega) e).2]
  ·rw [if_neg e];exact askRow_own h hi f m (by omega) (by
    rcases Nat.lt_or_ge k m with h1 | h1
    ·exact h1
    ·exact absurd (by rw [show k=m by omega]) e)
theorem askRow_other {l:List Rz} (h:Whole l) {i k i':Nat} (hi:i < l.length) (hk:k < km l i) (hi':i' < l.length) (hne:i' ≠ i) (f:Nat->Int):∀ m,m<=km l i'->askRow l i' f m (kidp l i k)=f (kidp l i k)
 | 0,_=>rfl
 | m+1,hm=>by
  unfold askRow setF;rw [if_neg (fun e=>hne (kid_inj h hi hk hi' (by omega) e).1.symm)]
  exact askRow_other h hi hk hi' hne f m (by omega)
theorem asks_kid {l:List Rz} (h:Whole l) {i k:Nat} (hi:i < l.length) (hk:k < km l i):∀ n,i < n->n<=l.length->asksN l n (kidp l i k)=(rP l i).asked k (rP l (i+1)).is
 | 0,h0,_=>by omega
 | n+1,h0,hn=>by
  unfold asksN;by_cases e:n=i
  ·subst e;exact askRow_own h hi _ _ (Nat.le_refl _) hk
  ·rw [askRow_other h hi hk (by omega) e _ _ (Nat.le_refl _)]
   exact asks_kid h hi hk n (by omega) (by omega)
theorem fltN_zero {l:List Rz} {gh:Nat->Bool} : ∀ {n},(fltN l gh n).1=0->∀ i,i < n->fltZ l gh i=0
 | 0,_,i,hi=>by omega
 | n+1,h,i,hi=>by
  unfold fltN at h
  split at h
  ·rename_i h1;exact absurd h h1
  ·rename_i h1
   split at h
   ·rename_i h2;exact absurd h h2
   ·rename_i h2
    by_cases e:i=n
    ·subst e;simpa using h2
    ·exact fltN_zero (by simpa using h1) i (by omega)
theorem kid_is {l:List Rz} {gh:Nat->Bool} (h:Whole l) (hf:(fltN l gh l.length).1=0) {i k:Nat} (hi:i < l.length) (hk:k < km l i) (ha:(rP l i).asked k (rP l (i+1)).is ≠ 0):(rP l (kidp l i k)).is=(rP l i).asked k (rP l (i+1)).is:=by
 have hj:=(kid_at h hi hk).1;have h1:=fltN_zero hf _ hj;have h2:=asks_kid h hi hk l.length hi (Nat.le_refl _);unfold fltZ at h1;rw [h2] at h1;by_cases e:(rP l i).asked k (rP l (i+1)).is=(rP l (kidp l i k)).is
 ·exact e.symm
 ·rw [if_pos ⟨ha,e⟩] at h1;cases h1
theorem not_changing {l:List Rz} {gh:Nat->Bool} (hf:(fltN l gh l.length).1=0) {j:Nat} (hj:j < l.length) (hc:j < conN l j):(rP l j).changing=false:=by
 have h1:=fltN_zero hf _ hj;unfold fltZ at h1
 split at h1
 ·cases h1
 ·cases hx:(rP l j).changing with
  | false=>rfl
  | true=>
   rw [if_pos ⟨hc,hx⟩] at h1;cases h1
theorem con_till {l:List Rz} {i:Nat} : ∀ {j},i < j->tillZ l i<=conN l j
 | 0,h=>by omega
 | j+1,h=>by
  unfold conN;by_cases e:i=j
  ·subst e;omega
  ·have:=con_till (l:=l) (show i < j by omega);omega
theorem vB_final {l:List Rz} {size:Int} {cq:Nat->Int} {p j:Nat} (hj:l.length - p<=j) (hjl:j < l.length):∀ q,p<=q->q<=l.length->vB l size cq q j=vB l size cq p j
 | 0,h,_=>by rw [show p=0 by omega]
 | q+1,h,hq=>by
  by_cases e:p=q+1
  ·rw [e]
  ·have:vB l size cq (q+1) j=vB l size cq q j:=by
    show setF (vB l size cq q) _ _ j=_
    unfold setF;rw [if_neg (by omega)]
   rw [this];exact vB_final hj hjl q (by omega) (by omega)
theorem vB_rec {l:List Rz} {size:Int} {cq:Nat->Int} (hW:Whole l) {j:Nat} (hj:j < l.length):vB l size cq l.length j=(rP l j).cm size cq (if 0 < km l j then vB l size cq l.length (j+1) else 0) (if 1 < km l j then vB l size cq l.length (endp l (j+1)) else 0):=by
 have h1:=vB_final (l:=l) (size:=size) (cq:=cq) (p:=l.length - 1 - j+1) (j:=j) (by omega) hj l.length (by omega) (Nat.le_refl _)
 have e1:l.length - 1 - (l.length - 1 - j)=j:=by omega
 have h2:vB l size cq (l.length - 1 - j+1) j=(rP l j).cm size cq (if 0 < km l j then vB l size cq (l.length - 1 - j) (j+1) else 0) (if 1 < km l j then vB l size cq (l.length - 1 - j) (endp l (j+1)) else 0):=by
  show setF _ _ _ j=_
  rw [e1];exact if_pos rfl
 rw [h1,h2];have a1:(if 0 < km l j then vB l size cq (l.length - 1 - j) (j+1) else 0)=(if 0 < km l j then vB l size cq l.length (j+1) else 0):=by
  split
  ·rename_i hk
   have:=(kid_at hW hj hk).1;rw [kid_zero] at this;exact (vB_final (by omega) this _ (by omega) (Nat.le_refl _)).symm
  ·rfl
 have a2:(if 1 < km l j then vB l size cq (l.length - 1 - j) (endp l (j+1)) else 0)=(if 1 < km l j then vB l size cq l.length (endp l (j+1)) else 0):=by
  split
  ·rename_i hk
   have h5:=(kid_at hW hj (k:=0) (by omega)).2.1
   have h6:=kid_at hW hj (k:=1) hk;rw [kid_zero] at h5;rw [<-h5];exact (vB_final (by omega) h6.1 _ (by omega) (Nat.le_refl _)).symm
  ·rfl
 rw [a1,a2]
def Rng (t v:Int):Prop:=(t=1->-1073741824<=v/\v<=1073741824)/\(t=2->v=0\/v=1)
theorem rng_zero (t:Int):Rng t 0:=⟨fun _=>by omega,fun _=>Or.inl rfl⟩
theorem rng_one (b:Bool):Rng 2 (oneZ b):=⟨fun h=>(by cases h),fun _=>(by cases b;exact Or.inl rfl;exact Or.inr rfl)⟩
theorem rng_num {v:Int} (h1:-1073741824<=v) (h2:v<=1073741824):Rng 1 v:=⟨fun _=>⟨h1,h2⟩,fun h=>(by cases h)⟩
theorem rng_clamp (n:Int):Rng 1 (clampZ n):=by have:=clamp_in n;exact rng_num (by omega) (by omega)
theorem rng_div (a b:Int):Rng 1 (divZ a b):=by
 unfold divZ
 split
 ·exact rng_zero 1
 ·split
  ·have:=clamp_in a;exact rng_num (by omega) (by omega)
  ·exact rng_clamp _
theorem bit_and {a b:Int} (ha:a=0\/a=1) (hb:b=0\/b=1):bits .and .i64 a b=0\/bits .and .i64 a b=1:=by
 rcases ha with rfl | rfl<;>rcases hb with rfl | rfl
 ·exact Or.inl (by decide)
 ·exact Or.inl (by decide)
 ·exact Or.inl (by decide)
 ·exact Or.inr (by decide)
theorem bit_or {a b:Int} (ha:a=0\/a=1) (hb:b=0\/b=1):bits .or .i64 a b=0\/bits .or .i64 a b=1:=by
 rcases ha with rfl | rfl<;>rcases hb with rfl | rfl
 ·exact Or.inl (by decide)
 ·exact Or.inr (by decide)
 ·exact Or.inr (by decide)
 ·exact Or.inr (by decide)
theorem bit_not {a:Int} (ha:a=0\/a=1):wrap64 (1 - a)=0\/wrap64 (1 - a)=1:=by
 unfold wrap64;omega
theorem pOf_wriT {k n t m:Int} (h:pOf k n=.wri t m) (hn:0<=n/\n<=1073741824):Rng t m:=by
 unfold pOf at h
 repeat' split at h
 all_goals first
  | (cases h;exact rng_num (by omega) (by omega))
  | (cases h;exact ⟨fun e=>(by cases e),fun _=>Or.inr rfl⟩)
  | (cases h;exact rng_zero _)
  | cases h
theorem vB_rng {l:List Rz} {gh:Nat->Bool} {size:Int} {cq:Nat->Int} (hW:Whole l) (hf:(fltN l gh l.length).1=0) (hs:0<=size/\size<=1048576) (hn:∀ i,i < l.length->0<=(rat l i).n/\(rat l i).n<=1073741824) (hq:∀ i,i < l.length->(rat l i).kind=32->0<=cq (rat l i).n.toNat/\cq (rat l i).n.toNat<=1048576):∀ d j,l.length - j<=d->j < l.length->Rng (rP l j).is (vB l size cq l.length j):=by
 intro d
 induction d with
 | zero=>intro j h1 h2;omega
 | succ d ih=>
  intro j hd hj;rw [vB_rec hW hj];have ka:∀ t,t ≠ 0->(0 < km l j->(rP l j).asked 0 (rP l (j+1)).is=t)->Rng t (if 0 < km l j then vB l size cq l.length (j+1) else 0):=fun t ht h=>by
   split
   ·rename_i hk
    have h1:=kid_at hW hj hk;rw [kid_zero] at h1;have h2:=kid_is hW hf hj hk (by rw [h hk];exact ht)
    rw [kid_zero,h hk] at h2;rw [<-h2];exact ih (j+1) (by omega) h1.1
   ·exact rng_zero t
  have kb:∀ t,t ≠ 0->(1 < km l j->(rP l j).asked 1 (rP l (j+1)).is=t)->Rng t (if 1 < km l j then vB l size cq l.length (endp l (j+1)) else 0):=fun t ht h=>by
   split
   ·rename_i hk
    have h5:=(kid_at hW hj (k:=0) (by omega)).2.1
    rw [kid_zero] at h5;have h6:=kid_at hW hj hk;have h2:=kid_is hW hf hj hk (by rw [h hk];exact ht)
    rw [h hk] at h2;rw [<-h5,<-h2];exact ih _ (by omega) h6.1
   ·exact rng_zero t
  cases hp:rP l j with
  | dng a b c=>exact rng_zero _
  | wri t n=>exact pOf_wriT hp (hn j hj)
  | cpy q=>
   obtain ⟨h1,h2⟩:=pOf_cpy hp;have h3:=hq j hj h1;rw [h2] at h3;exact rng_num (by show _<=cq q.toNat;omega) (by show cq q.toNat<=_;omega)
  | siz=>exact rng_num (by show _<=size;omega) (by show size<=_;omega)
  | chg t=>exact rng_zero _
  | rck k=>
   have ha:=ka 1 (by decide) (fun _=>by rw [hp];rfl)
   have hb:=kb 1 (by decide) (fun _=>by rw [hp];rfl)
   have ha1:=ha.1 rfl;have hb1:=hb.1 rfl;show Rng 1 (Prt.cm (.rck k) size cq _ _);simp only [Prt.cm]
   repeat' split
   all_goals first | exact rng_clamp _ | exact rng_div _ _ | exact rng_num (by omega) (by omega)
  | cmp k=>
   show Rng 2 (Prt.cm (.cmp k) size cq _ _)
   simp only [Prt.cm]
   repeat' split
   all_goals exact rng_one _
  | joi k=>
   have ha:=(ka 2 (by decide) (fun _=>by rw [hp];rfl)).2 rfl
   have hb:=(kb 2 (by decide) (fun _=>by rw [hp];rfl)).2 rfl
   refine ⟨fun h=>(by cases h),fun _=>?_⟩
   show Prt.cm (.joi k) size cq _ _=0\/Prt.cm (.joi k) size cq _ _=1
   simp only [Prt.cm]
   split
   ·exact bit_not ha
   ·split
    ·exact bit_and ha hb
    ·exact bit_or ha hb
  | lik k=>exact rng_one _
end Go.Proofs.YtbledbjcghaanaaGreat.Nm.Ty
namespace Go.Proofs.YtbledbjcghaanaaGreat.Nm.Ty
open Go.RowKit Go.Maps Nm
section
variable {P:Program} {ops:Array Oper} {Q:Exit->Act->World->Prop} {md:Region.Mode} {S:World->Prop}
theorem tqA (i:Nat) {oi:Oper} {v:Value} {fuel:Nat} {listed:Array Bool} {a:Act} {w:World} (hi:ops[i]?=some oi) (hS:S w)
  (h:wpAnyH P md ops Q S fuel (listed.setIfInBounds i true) (a.put oi.dst v) w) (hy:YieldsIf P ops S oi v a:=by (refine Or.inl ⟨by rfl,fun w hSw=>?_⟩;(try dsimp only at hSw);(repeat (have:=hSw.1;replace hSw:=hSw.2));first | (go_simp;done) | (go_simp;with_reducible rfl)))
  (hs:Region.noSelect ops=true:=by kernel_rfl) (hf:Region.free md ops listed i=true:=by kernel_rfl) (hr:(Region.ready md ops listed).contains i=true:=by kernel_rfl)
  (hQ:∀ c a w,Q (.panic c) (a.put oi.dst v) w->Q (.panic c) a w:=by exact fun _ _ _ h=>h):wpAnyH P md ops Q S (fuel+1) listed a w:=wpAnyH_take hi hs hf hr hQ hy hS h
theorem tzA (i:Nat) {oi:Oper} {v:Value} {fuel:Nat} {listed:Array Bool} {a:Act} {w:World} (hi:ops[i]?=some oi) (hS:S w)
  (h:wpAnyH P md ops Q S fuel (listed.setIfInBounds i true) (a.put oi.dst v) w) (hy:YieldsIf P ops S oi v a:=by (refine Or.inl ⟨by rfl,fun w hSw=>?_⟩;(try dsimp only at hSw);obtain ⟨k0,k1,k2,k3,k4,k5,k6,k7⟩:=zr8 hSw.1;first | (go_simp;done) | (go_simp;with_reducible rfl)))
  (hs:Region.noSelect ops=true:=by kernel_rfl) (hf:Region.free md ops listed i=true:=by kernel_rfl) (hr:(Region.ready md ops listed).contains i=true:=by kernel_rfl)
  (hQ:∀ c a w,Q (.panic c) (a.put oi.dst v) w->Q (.panic c) a w:=by exact fun _ _ _ h=>h):wpAnyH P md ops Q S (fuel+1) listed a w:=wpAnyH_take hi hs hf hr hQ hy hS h
theorem tcA (i:Nat) {oi:Oper} {v:Value} {fuel:Nat} {listed:Array Bool} {a:Act} {w:World} (hi:ops[i]?=some oi) (hS:S w)
  (h:wpAnyH P md ops Q S fuel (listed.setIfInBounds i true) (a.put oi.dst v) w) (hy:YieldsIf P ops S oi v a:=by (refine Or.inl ⟨by rfl,fun w hSw=>?_⟩;(try dsimp only at hSw);obtain ⟨k0,k1⟩:=fcells2 hSw.2.1;first | (go_simp;done) | (go_simp;with_reducible rfl)))
  (hs:Region.noSelect ops=true:=by kernel_rfl) (hf:Region.free md ops listed i=true:=by kernel_rfl) (hr:(Region.ready md ops listed).contains i=true:=by kernel_rfl)
  (hQ:∀ c a w,Q (.panic c) (a.put oi.dst v) w->Q (.panic c) a w:=by exact fun _ _ _ h=>h):wpAnyH P md ops Q S (fuel+1) listed a w:=wpAnyH_take hi hs hf hr hQ hy hS h
end
end Go.Proofs.YtbledbjcghaanaaGreat.Nm.Ty
