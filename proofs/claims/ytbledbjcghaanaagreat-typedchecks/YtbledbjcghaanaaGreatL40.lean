import Derived.Test.YtbledbjcghaanaaGreatL39
import Derived.Deep.RegionHeld3
import Derived.Test.YtbledbjcghaanaaGreatTl
set_option maxHeartbeats 51200000
set_option maxRecDepth 100000
namespace Go.Proofs.YtbledbjcghaanaaGreat.Nm.Ty
open Go.RowKit Go.Maps Sp Lx Gr Nm
theorem infoB8:(Tryz.prog.info? 4).map (fun i=>(i.zero,i.size,i.bytes))=some (some (.bool false),1,1):=by kernel_rfl
def RowT (w:World) (g n:Nat) (f:Nat->Bool):Prop:=w.heap[g]?=some (.cells ((List.range n).map (fun i=>Value.bool (f i))).toArray 4 (0,0))
theorem RowT.lt {w:World} {g n:Nat} {f:Nat->Bool} (h:RowT w g n f):g < w.heap.size:=(Array.getElem?_eq_some_iff.1 h).1
theorem RowT.cell {w:World} {g n:Nat} {f:Nat->Bool} (h:RowT w g n f) {j:Nat} (hj:j < n):w.cell? ⟨g,j,none⟩=some (.bool (f j)):=by
 rw [World.cell?,h];simp [hj]
theorem RowT.frozen {w:World} {g n:Nat} {f:Nat->Bool} (h:RowT w g n f) (j:Nat):w.frozen? ⟨g,j,none⟩=false:=by
 rw [World.frozen?,h];simp
theorem RowT.of_block {w w':World} {g n:Nat} {f:Nat->Bool} (h:RowT w g n f) (e:w'.heap[g]?=w.heap[g]?):RowT w' g n f:=e.trans h
theorem RowT.below {w w':World} {g n:Nat} {f:Nat->Bool} (h:RowT w g n f) {b:Nat} (hb:Below b w w') (hg:g < b):RowT w' g n f:=h.of_block (hb.block g hg)
theorem RowT.other {w:World} {g n:Nat} {f:Nat->Bool} (h:RowT w g n f) {a:Addr} (ha:g ≠ a.block) (v:Value):RowT (w.setCell a v) g n f:=h.of_block (Below.heap_setCell w a v g ha)
theorem RowT.set {w:World} {g n:Nat} {f:Nat->Bool} (h:RowT w g n f) (k:Nat) (x:Bool):RowT (w.setCell ⟨g,k,none⟩ (.bool x)) g n (fun i=>if i=k then x else f i):=by
 have h1:(w.setCell ⟨g,k,none⟩ (.bool x)).heap[g]?=some (.cells (((List.range n).map (fun i=>Value.bool (f i))).toArray.setIfInBounds k (.bool x)) 4 (0,0)):=heap_setCell_same w g k _ _ _ h;have h2:((List.range n).map (fun i=>Value.bool (f i))).toArray.setIfInBounds k (.bool x)=((List.range n).map (fun i=>Value.bool (if i=k then x else f i))).toArray:=by
  apply Array.ext'
  rw [Array.toList_setIfInBounds];apply List.ext_getElem?;intro i;by_cases hi:i < n
  ·by_cases hk:i=k
   ·subst hk;simp [hi]
   ·rw [List.getElem?_set_ne (fun e=>hk e.symm)];simp [hi,hk]
  ·rw [List.getElem?_eq_none (by simp;omega),List.getElem?_eq_none (by simp;omega)]
 unfold RowT;rw [h1,h2]
theorem mk_bools (n:Nat) (hn:n<=2932031007317):∃ M:Array Value,(∀ u:World,(Instr.makeSlice 70 (I (n:Int)) (I (n:Int))).run Tryz.prog u=.ok (.slice (pZ u.heap.size) n n) (u.alloc (.cells M 4))) /\
  ∀ u:World,RowT (u.alloc (.cells M 4)) u.heap.size n (fun _=>false):=by
 obtain ⟨i0,hi,hz0,hz1,hz2⟩:=info_parts infoB8;refine ⟨madeCells (Value.bool false).cells ((n:Int).toNat * i0.size),fun u=>?_,fun u=>?_⟩
 ·have h:=run_make (P:=Tryz.prog) u 70 4 i0 (.bool false) Tryz.underlying70 hi hz0 .i64 .i64 (n:Int) (n:Int) (by omega) (Int.le_refl _) (by rw [hz2];omega) (by omega)
  have e:(n:Int).toNat=n:=by omega
  rw [e] at h ⊢;exact h
 ·have e:madeCells (Value.bool false).cells ((n:Int).toNat * i0.size)=((List.range n).map (fun _=>Value.bool false)).toArray:=by
   apply Array.ext'
   have e1:(Value.bool false).cells=#[.bool false]:=rfl;rw [e1,toList_madeCells_one,hz1];apply List.ext_getElem?;intro j;have e2:(n:Int).toNat * 1=n:=by omega
   rw [e2];by_cases hj:j < n
   ·simp [hj]
   ·simp [hj]
  rw [e];exact heap_alloc_new u _
theorem cell_ne (W:World) {g i j:Nat} (v:Value) (h:i ≠ j):(W.setCell ⟨g,j,none⟩ v).cell? ⟨g,i,none⟩=W.cell? ⟨g,i,none⟩:=World.cell?_setCell_other _ _ _ _ (by intro e;simp only [Addr.mk.injEq] at e;omega)
theorem mark_val {fv fc b4 b5 b6 b13 bz:Bool} {kd:Int} {k:Nat} (h:fc=true ↔ ((kd=4\/kd=5\/kd=6)\/(kd=13/\k=0))) (e4:(kd == 4)=b4) (e5:(kd == 5)=b5) (e6:(kd == 6)=b6) (e13:(kd == 13)=b13) (ez:((k:Int) == 0)=bz):((((fv || b4) || b5) || b6) || (b13 && bz))=(fv || fc):=by
 subst e4 e5 e6 e13 ez;cases fv
 ·rw [Bool.eq_iff_iff];simp only [Bool.false_or,Bool.or_eq_true,Bool.and_eq_true,beq_iff_eq,h];omega
 ·simp
def unl (b:Bool) (v:Value):Value:=bif b then undef else v
theorem unl_true (v:Value):unl true v=undef:=rfl
theorem unl_false (v:Value):unl false v=v:=rfl
def Kd8 (l:List Rz):Prop:=∀ i,i < l.length->((rat l i).kind=4->km l i<=3)/\((rat l i).kind=5\/(rat l i).kind=6\/(rat l i).kind=14->km l i<=1)
def Kb8 (W:World) (lo:Nat) (l:List Rz) (m:Nat) (vo:Option Addr):Prop:=0 < km l m->∃ b,vo=some ⟨b,0,none⟩/\lo < b/\b < W.heap.size/\∀ j,j < km l m->W.cell? ⟨b,j,none⟩=some (I (kidp l m j:Nat))
theorem rmarks8 {l:List Rz} {ao:Option Addr} {cap:Nat} {w:World} (h:IsRz w ao l) (hn:l.length<=2932031007317) (hT:TreeZ l) (hK:Kd8 l):
  Calls Tryz.prog 34 #[.slice ao l.length cap] w fun e w'=>e=.returned (.tuple #[.slice (pZ w.heap.size) l.length l.length,.slice (pZ (w.heap.size+1)) l.length l.length])/\RowI w' w.heap.size l.length (asksN l l.length)/\RowT w' (w.heap.size+1) l.length (fixN l l.length)/\Below w.heap.size w w':=by
 obtain ⟨M,hmk,hM⟩:=mk_ints l.length hn;obtain ⟨M2,hmk2,hM2⟩:=mk_bools l.length hn;have HI:Hid (IsRz w ao l):=h;have HT:Hid (TreeZ l):=hT;have HK:Hid (Kd8 l):=hK;have HNn:Hid (l.length<=2932031007317):=hn;have hln:(l.length:Int)<=2932031007317:=by omega
 have H0:Hid (RowI ((w.alloc (.cells M 3)).alloc (.cells M2 4)) w.heap.size l.length (asksN l 0)/\RowT ((w.alloc (.cells M 3)).alloc (.cells M2 4)) (w.heap.size+1) l.length (fixN l 0)/\Below w.heap.size w ((w.alloc (.cells M 3)).alloc (.cells M2 4))):=by
  have e:=hM2 (w.alloc (.cells M 3));rw [World.size_alloc] at e;exact ⟨(hM w).below (bAl _ _) (by simp),e,(bAl w _).alloc (by simp) _⟩
 clear h hn hM hM2 hT hK;go_enter Tryz.func34,Tryz.ntmps34;go_wp2_with fail;generalize (w.alloc (.cells M 3)).alloc (.cells M2 4)=w1 at *;clear hmk hmk2
 go_loopg [6] l.length (fun gq x wr=>∃ m:Nat,m<=l.length/\gq=l.length - m/\x=I m/\RowI wr w.heap.size l.length (asksN l m)/\RowT wr (w.heap.size+1) l.length (fixN l m)/\Below w.heap.size w wr)
 case atStart=>exact ⟨0,Nat.zero_le _,rfl,by go_num,H0.out.1,H0.out.2.1,H0.out.2.2⟩
 case round=>
  obtain ⟨m,hm,hgk,rfl,hR,hF,hB⟩:=hrel;have HR:Hid (RowI wr w.heap.size l.length (asksN l m)/\RowT wr (w.heap.size+1) l.length (fixN l m)/\Below w.heap.size w wr):=⟨hR,hF,hB⟩;have HG:Hid (gk=l.length - m):=hgk;clear hgk hR hF hB;by_cases hlt:m < l.length
  ·have hlt':(m:Int) < (l.length:Int):=by omega
   have HC:=hdn <| rkids8 (cap:=cap) m (HI.out.below HR.out.2.2) HNn.out HT.out hlt;have HKm:Hid (km l m<=l.length/\(0 < km l m->m+1 < l.length)):=⟨km_le HT.out.whole hlt,fun h0=>by have:=(kid_at HT.out.whole hlt h0).1;rwa [kid_zero] at this⟩
   have hkm:(km l m:Int)<=2932031007317:=by have:=HKm.out.1;omega
   go_wp2_with fail
   refine Calls.mono HC.out ?_;rintro e w2 ⟨v,rfl,ho2,hb2⟩;have HB2:Hid (RowI w2 w.heap.size l.length (askRow l m (asksN l m) 0)/\RowT w2 (w.heap.size+1) l.length (fixRow l m (fixN l m) 0)/\Below w.heap.size w w2):=⟨HR.out.1.below hb2 HR.out.1.lt,HR.out.2.1.below hb2 HR.out.2.1.lt,HR.out.2.2.trans (hb2.mono HR.out.2.2.size)⟩;obtain ⟨vo,vc,rfl⟩:=own_form ho2;have HO2:Hid (Kb8 w2 (w.heap.size+1) l m vo):=by
    intro h0;obtain ⟨b,c,e,hb,hlt2,hc⟩:=own_ints ho2 h0;cases e;refine ⟨b,rfl,by have:=HR.out.2.1.lt;omega,hlt2,fun j hj=>hc j _ ?_⟩
    simp [kl,nc,hj]
   clear hb2 ho2 HC;go_wp2_with fail;have HG1:Hid (gk=l.length - m):=HG.out;clear HG HR
   go_loopg [8] (km l m) (fun gq kk wr'=>∃ k:Nat,k<=km l m/\gq=km l m - k/\kk=I k/\RowI wr' w.heap.size l.length (askRow l m (asksN l m) k)/\RowT wr' (w.heap.size+1) l.length (fixRow l m (fixN l m) k)/\Below w.heap.size w wr'/\Kb8 wr' (w.heap.size+1) l m vo)
   case atStart=>exact ⟨0,Nat.zero_le _,rfl,by go_num,HB2.out.1,HB2.out.2.1,HB2.out.2.2,HO2.out⟩
   case round=>
    obtain ⟨k,hk,hgk,rfl,hrel⟩:=hrel;have HR:Hid (RowI wr w.heap.size l.length (askRow l m (asksN l m) k)/\RowT wr (w.heap.size+1) l.length (fixRow l m (fixN l m) k)/\Below w.heap.size w wr/\Kb8 wr (w.heap.size+1) l m vo):=hrel;have HG:Hid (gk=km l m - k):=hgk;clear hgk hrel HB2 HO2;by_cases hkl:k < km l m
    ·have hkl':(k:Int) < (km l m:Int):=by omega
     have hk0:(0:Int) < (km l m:Int):=by omega
     have hk0n:0 < km l m:=by omega
     obtain ⟨b,rfl,hb1,hb2,hbc⟩:=HR.out.2.2.2 (by omega)
     have ck:=hbc k hkl;have ck0:=hbc 0 (by omega)
     rw [kid_zero] at ck0;have HKp:Hid (kidp l m k < l.length/\m < kidp l m k):=⟨(kid_at HT.out.whole hlt hkl).1,(kid_at HT.out.whole hlt hkl).2.2⟩;have hkp:(kidp l m k:Int) < (l.length:Int):=by have:=HKp.out;omega
     have HM1:Hid (m+1 < l.length):=HKm.out.2 (by omega)
     have hAk:=rasked8 (cap:=cap) m k (HI.out.below (HR.out.2.2.1.trans ((Below.refl _ wr).drew.mono HR.out.2.2.1.size))) HNn.out HM1.out (fun e=>by have:=(HK.out m hlt).1 e;omega) (fun e=>by have:=(HK.out m hlt).2 e;omega)
     have HAk:=hdn <| hAk;have HAx:Hid (askRow l m (asksN l m) (k+1)=setF (askRow l m (asksN l m) k) (kidp l m k) ((rP l m).asked k (rP l (m+1)).is)):=rfl;have HFx:Hid (fixRow l m (fixN l m) (k+1)=setB (fixRow l m (fixN l m) k) (kidp l m k) (fixRow l m (fixN l m) k m || fixC l m k)):=by
      show setB _ _ (fixN l m m || fixC l m k)=_
      rw [fixRow_low HT.out.whole hlt (Nat.le_refl _) _ k (by omega)]
     have hcA:=HR.out.1.cell HKp.out.1;have hfA:=HR.out.1.frozen (kidp l m k);obtain ⟨gr,or,hro,_,c0,_⟩:=row_cells (HI.out.below HR.out.2.2.1) hlt;have hc0:∀ v,(wr.setCell ⟨w.heap.size,kidp l m k,none⟩ v).cell? ⟨gr,or+m * 5,none⟩=some (I (rat l m).kind):=fun v=>?hc0
     case hc0=>
      obtain ⟨gr',or',e',hg',c0',_⟩:=row_cells HI.out hlt;rw [hro] at e';cases e';have hbw:Below w.heap.size w (wr.drew.setCell ⟨w.heap.size,kidp l m k,none⟩ v):=(HR.out.2.2.1.trans ((Below.refl _ wr).drew.mono HR.out.2.2.1.size)).setCell (p:=⟨w.heap.size,kidp l m k,none⟩) (Nat.le_refl _) v;exact (hbw.cell (p:=⟨gr,or+m * 5,none⟩) hg').trans c0'
     subst hro;have HNx:Hid (∀ (y:Int) (z:Bool),y=(rP l m).asked k (rP l (m+1)).is->z=(fixRow l m (fixN l m) k m || fixC l m k)->∀ W:World,W=((wr.setCell ⟨w.heap.size,kidp l m k,none⟩ (I y)).drew.drew.setCell ⟨w.heap.size+1,kidp l m k,none⟩ (.bool z))->RowI W w.heap.size l.length (askRow l m (asksN l m) (k+1))/\RowT W (w.heap.size+1) l.length (fixRow l m (fixN l m) (k+1))/\Below w.heap.size w W/\Kb8 W (w.heap.size+1) l m (pZ b)):=by
      rintro y z rfl rfl W rfl;refine ⟨?_,?_,?_,fun _=>⟨b,rfl,hb1,by simpa using hb2,fun j hj=>?_⟩⟩
      ·rw [HAx.out];exact RowI.other (RowI.set (w:=wr.drew) HR.out.1 _ _) (by simp) _
      ·rw [HFx.out];exact RowT.set (w:=(wr.drew.setCell ⟨w.heap.size,kidp l m k,none⟩ (I ((rP l m).asked k (rP l (m+1)).is))).drew) (RowT.other (w:=wr.drew) HR.out.2.1 (by simp) _) _ _
      ·exact ((((HR.out.2.2.1.trans ((Below.refl _ wr).drew.mono HR.out.2.2.1.size)).setCell (p:=⟨w.heap.size,kidp l m k,none⟩) (Nat.le_refl _) _).drew).setCell (p:=⟨w.heap.size+1,kidp l m k,none⟩) (by simp) _)
      ·rw [World.cell?_of_block (a:=⟨b,j,none⟩) (Below.heap_setCell _ _ _ b (by show b ≠ w.heap.size+1;omega))]
       show (wr.drew.setCell ⟨w.heap.size,kidp l m k,none⟩ _).cell? _=_
       rw [World.cell?_of_block (a:=⟨b,j,none⟩) (Below.heap_setCell _ _ _ b (by show b ≠ w.heap.size;omega))]
       exact hbc j hj
     have HSt:Hid (∀ y:Int,(wr.setCell ⟨w.heap.size,kidp l m k,none⟩ (I y)).drew.drew.cell? ⟨b,k,none⟩=some (I (kidp l m k:Nat))/\(wr.setCell ⟨w.heap.size,kidp l m k,none⟩ (I y)).drew.drew.cell? ⟨w.heap.size+1,m,none⟩=some (.bool (fixRow l m (fixN l m) k m))/\(wr.setCell ⟨w.heap.size,kidp l m k,none⟩ (I y)).drew.drew.cell? ⟨w.heap.size+1,kidp l m k,none⟩=some (.bool (fixRow l m (fixN l m) k (kidp l m k)))/\(wr.setCell ⟨w.heap.size,kidp l m k,none⟩ (I y)).drew.drew.frozen? ⟨w.heap.size+1,kidp l m k,none⟩=false):=fun y=>by
      have hT2:RowT (wr.drew.setCell ⟨w.heap.size,kidp l m k,none⟩ (I y)).drew (w.heap.size+1) l.length (fixRow l m (fixN l m) k):=RowT.other (w:=wr.drew) HR.out.2.1 (by simp) _
      refine ⟨?_,hT2.cell hlt,hT2.cell HKp.out.1,hT2.frozen _⟩;show (wr.drew.setCell ⟨w.heap.size,kidp l m k,none⟩ _).cell? _=_;rw [World.cell?_of_block (a:=⟨b,k,none⟩) (Below.heap_setCell _ _ _ b (by show b ≠ w.heap.size;omega))]
      exact ck
     have hbne:b ≠ w.heap.size:=by omega
     have HFc:Hid (fixC l m k=true ↔ (((rat l m).kind=4\/(rat l m).kind=5\/(rat l m).kind=6)\/((rat l m).kind=13/\k=0))):=fixC_iff;have HNe:Hid (m ≠ kidp l m k/\b ≠ w.heap.size+1):=⟨by have:=HKp.out.2;omega,by omega⟩
     clear hbc HR HAx HFx hAk;generalize fixRow l m (fixN l m) k m=fv at *;generalize fixC l m k=fc at *;generalize (rP l m).asked k (rP l (m+1)).is=y at *;generalize kidp l m k=kp at *;generalize (rat l m).kind=kd at *;go_wp2_with fail;refine wp_region_held (S:=fun w':World=>w'.cell? ⟨b,k,none⟩=some (I (kp:Nat))/\w'.cell? ⟨b,0,none⟩=some (I ((m+1:Nat):Int))) (by kernel_rfl) ?_
     have hS:(fun w':World=>w'.cell? ⟨b,k,none⟩=some (I (kp:Nat))/\w'.cell? ⟨b,0,none⟩=some (I ((m+1:Nat):Int))) wr.drew:=⟨ck,ck0⟩;change wpAnyH _ _ _ _ _ _ _ _ wr.drew;refine tq 0 rfl hS ?_;refine tq 1 rfl hS ?_;refine tq 2 rfl hS ?_;refine tq 3 rfl hS ?_;refine tq 4 rfl hS ?_;refine tq 5 rfl hS ?_;refine tq 6 rfl hS ?_;refine tq 7 rfl hS ?_;refine tq 8 rfl hS ?_;refine tq 9 rfl hS ?_;refine tq 10 rfl hS ?_;refine rd1 11 rfl fun K hK=>?_;go_simp;refine Calls.mono HAk.out ?_;rintro e w5 ⟨rfl,rfl⟩;refine hK.out _ _ hS (fun hS=>?_);clear hK K;refine tq 12 rfl hS ?_;refine rd1 13 rfl fun K hK=>?_;go_simp;have hS1:(wr.drew.setCell ⟨w.heap.size,kp,none⟩ (I y)).cell? ⟨b,k,none⟩=some (I (kp:Nat))/\(wr.drew.setCell ⟨w.heap.size,kp,none⟩ (I y)).cell? ⟨b,0,none⟩=some (I ((m+1:Nat):Int)):=⟨(World.cell?_of_block (a:=⟨b,k,none⟩) (Below.heap_setCell _ _ _ b hbne)).trans ck,(World.cell?_of_block (a:=⟨b,0,none⟩) (Below.heap_setCell _ _ _ b hbne)).trans ck0⟩;refine hK.out _ _ hS1 (fun hS=>?_);refine wpAnyH_done (by kernel_rfl) ?_ _
     clear hK K hS hS1 HAk;have hcy:=hc0 (I y);clear hc0;go_wp2_with fail;obtain ⟨t0,t1,t2,t3⟩:=HSt.out y;clear HSt hcy hcA hfA c0 ck ck0;have HNy:=hdn <| HNx.out y;clear HNx;generalize (wr.setCell ⟨w.heap.size,kp,none⟩ (I y)).drew=x1 at *;have HS1:Hid (∀ z:Bool,(x1.drew.setCell ⟨w.heap.size+1,kp,none⟩ (.bool z)).cell? ⟨b,k,none⟩=some (I (kp:Nat))/\(x1.drew.setCell ⟨w.heap.size+1,kp,none⟩ (.bool z)).cell? ⟨w.heap.size+1,m,none⟩=some (.bool fv)):=fun z=>⟨(World.cell?_of_block (a:=⟨b,k,none⟩) (Below.heap_setCell _ _ _ b HNe.out.2)).trans t0,(cell_ne x1.drew _ HNe.out.1).trans t1⟩;refine wp_region_held (S:=fun w':World=>w'.cell? ⟨b,k,none⟩=some (I (kp:Nat))/\w'.cell? ⟨w.heap.size+1,m,none⟩=some (.bool fv)) (by kernel_rfl) ?_
     have hS:(fun w':World=>w'.cell? ⟨b,k,none⟩=some (I (kp:Nat))/\w'.cell? ⟨w.heap.size+1,m,none⟩=some (.bool fv)) x1.drew:=⟨t0,t1⟩;change wpAnyH _ _ _ _ _ _ _ _ x1.drew;obtain ⟨b4,e4⟩:∃ b,(kd == 4)=b:=⟨_,rfl⟩;obtain ⟨b5,e5⟩:∃ b,(kd == 5)=b:=⟨_,rfl⟩;obtain ⟨b6,e6⟩:∃ b,(kd == 6)=b:=⟨_,rfl⟩;obtain ⟨b13,e13⟩:∃ b,(kd == 13)=b:=⟨_,rfl⟩;obtain ⟨bz,ez⟩:∃ b,((k:Int) == 0)=b:=⟨_,rfl⟩;obtain ⟨c1,g1⟩:∃ c,(fv || b4)=c:=⟨_,rfl⟩;obtain ⟨c2,g2⟩:∃ c,(c1 || b5)=c:=⟨_,rfl⟩;obtain ⟨c3,g3⟩:∃ c,(c2 || b6)=c:=⟨_,rfl⟩;obtain ⟨rz,g4⟩:∃ c,(c3 || (b13 && bz))=c:=⟨_,rfl⟩;have HV:Hid (rz=(fv || fc)):=by subst g1 g2 g3 g4;exact mark_val HFc.out e4 e5 e6 e13 ez
     have HG1:=hdn <| g1;have HG2:=hdn <| g2;have HG3:=hdn <| g3;have HG4:=hdn <| g4;clear g1 g2 g3 g4;clear HFc HNe;refine tq 0 rfl hS ?_;refine tq 1 rfl hS ?_;refine tq 2 rfl hS ?_;refine tq 3 rfl hS ?_;refine tq 4 rfl hS ?_;refine tq 5 rfl hS ?_;refine tq 6 rfl hS ?_;refine tq 7 rfl hS ?_;refine tq 8 rfl hS ?_;refine tq 9 rfl hS ?_;refine wpAnyH_take (i:=10) (v:=unl fv (I kd)) rfl (by kernel_rfl) (by kernel_rfl) (by kernel_rfl) (fun _ _ _ h=>h) ?y22 hS ?_
     case y22=>
      clear hS HS1 HNy HV HG1 HG2 HG3 HG4;cases fv
      ·exact Or.inl ⟨by kernel_rfl,by intro w hSw;(try dsimp only at hSw);simp only [unl_false];first | (go_simp;done) | (go_simp;with_reducible rfl)⟩
      ·exact Or.inr ⟨by kernel_rfl,rfl⟩
     refine wpAnyH_take (i:=11) (v:=unl fv (.bool b4)) rfl (by kernel_rfl) (by kernel_rfl) (by kernel_rfl) (fun _ _ _ h=>h) ?y23 hS ?_
     case y23=>
      clear hS HS1 HNy HV HG1 HG2 HG3 HG4;cases fv
      ·exact Or.inl ⟨by kernel_rfl,by intro w hSw;(try dsimp only at hSw);simp only [unl_false];first | (go_simp;done) | (go_simp;with_reducible rfl)⟩
      ·exact Or.inr ⟨by kernel_rfl,rfl⟩
     refine wpAnyH_take (i:=12) (v:=.bool c1) rfl (by kernel_rfl) (by kernel_rfl) (by kernel_rfl) (fun _ _ _ h=>h) ?y24 hS ?_
     case y24=>
      have hg:=HG1.out;clear hS HS1 HNy HV HG1 HG2 HG3 HG4;subst hg;cases fv
      ·exact Or.inl ⟨by kernel_rfl,by intro w hSw;(try dsimp only at hSw);simp only [unl_false,Bool.false_or];first | (go_simp;done) | (go_simp;with_reducible rfl)⟩
      ·exact Or.inl ⟨by kernel_rfl,by intro w hSw;(try dsimp only at hSw);simp only [unl_true,Bool.true_or];first | (go_simp;done) | (go_simp;with_reducible rfl)⟩
     refine tq 13 rfl hS ?_;refine wpAnyH_take (i:=14) (v:=unl c1 (I kd)) rfl (by kernel_rfl) (by kernel_rfl) (by kernel_rfl) (fun _ _ _ h=>h) ?y26 hS ?_
     case y26=>
      clear hS HS1 HNy HV HG1 HG2 HG3 HG4;cases c1
      ·exact Or.inl ⟨by kernel_rfl,by intro w hSw;(try dsimp only at hSw);simp only [unl_false];first | (go_simp;done) | (go_simp;with_reducible rfl)⟩
      ·exact Or.inr ⟨by kernel_rfl,rfl⟩
     refine wpAnyH_take (i:=15) (v:=unl c1 (.bool b5)) rfl (by kernel_rfl) (by kernel_rfl) (by kernel_rfl) (fun _ _ _ h=>h) ?y27 hS ?_
     case y27=>
      clear hS HS1 HNy HV HG1 HG2 HG3 HG4;cases c1
      ·exact Or.inl ⟨by kernel_rfl,by intro w hSw;(try dsimp only at hSw);simp only [unl_false];first | (go_simp;done) | (go_simp;with_reducible rfl)⟩
      ·exact Or.inr ⟨by kernel_rfl,rfl⟩
     refine wpAnyH_take (i:=16) (v:=.bool c2) rfl (by kernel_rfl) (by kernel_rfl) (by kernel_rfl) (fun _ _ _ h=>h) ?y28 hS ?_
     case y28=>
      have hg:=HG2.out;clear hS HS1 HNy HV HG1 HG2 HG3 HG4;subst hg;cases c1
      ·exact Or.inl ⟨by kernel_rfl,by intro w hSw;(try dsimp only at hSw);simp only [unl_false,Bool.false_or];first | (go_simp;done) | (go_simp;with_reducible rfl)⟩
      ·exact Or.inl ⟨by kernel_rfl,by intro w hSw;(try dsimp only at hSw);simp only [unl_true,Bool.true_or];first | (go_simp;done) | (go_simp;with_reducible rfl)⟩
     refine tq 17 rfl hS ?_;refine wpAnyH_take (i:=18) (v:=unl c2 (I kd)) rfl (by kernel_rfl) (by kernel_rfl) (by kernel_rfl) (fun _ _ _ h=>h) ?y30 hS ?_
     case y30=>
      clear hS HS1 HNy HV HG1 HG2 HG3 HG4;cases c2
      ·exact Or.inl ⟨by kernel_rfl,by intro w hSw;(try dsimp only at hSw);simp only [unl_false];first | (go_simp;done) | (go_simp;with_reducible rfl)⟩
      ·exact Or.inr ⟨by kernel_rfl,rfl⟩
     refine wpAnyH_take (i:=19) (v:=unl c2 (.bool b6)) rfl (by kernel_rfl) (by kernel_rfl) (by kernel_rfl) (fun _ _ _ h=>h) ?y31 hS ?_
     case y31=>
      clear hS HS1 HNy HV HG1 HG2 HG3 HG4;cases c2
      ·exact Or.inl ⟨by kernel_rfl,by intro w hSw;(try dsimp only at hSw);simp only [unl_false];first | (go_simp;done) | (go_simp;with_reducible rfl)⟩
      ·exact Or.inr ⟨by kernel_rfl,rfl⟩
     refine wpAnyH_take (i:=20) (v:=.bool c3) rfl (by kernel_rfl) (by kernel_rfl) (by kernel_rfl) (fun _ _ _ h=>h) ?y32 hS ?_
     case y32=>
      have hg:=HG3.out;clear hS HS1 HNy HV HG1 HG2 HG3 HG4;subst hg;cases c2
      ·exact Or.inl ⟨by kernel_rfl,by intro w hSw;(try dsimp only at hSw);simp only [unl_false,Bool.false_or];first | (go_simp;done) | (go_simp;with_reducible rfl)⟩
      ·exact Or.inl ⟨by kernel_rfl,by intro w hSw;(try dsimp only at hSw);simp only [unl_true,Bool.true_or];first | (go_simp;done) | (go_simp;with_reducible rfl)⟩
     refine tq 21 rfl hS ?_;refine wpAnyH_take (i:=22) (v:=unl c3 (I kd)) rfl (by kernel_rfl) (by kernel_rfl) (by kernel_rfl) (fun _ _ _ h=>h) ?y34 hS ?_
     case y34=>
      clear hS HS1 HNy HV HG1 HG2 HG3 HG4;cases c3
      ·exact Or.inl ⟨by kernel_rfl,by intro w hSw;(try dsimp only at hSw);simp only [unl_false];first | (go_simp;done) | (go_simp;with_reducible rfl)⟩
      ·exact Or.inr ⟨by kernel_rfl,rfl⟩
     refine wpAnyH_take (i:=23) (v:=unl c3 (.bool b13)) rfl (by kernel_rfl) (by kernel_rfl) (by kernel_rfl) (fun _ _ _ h=>h) ?y35 hS ?_
     case y35=>
      clear hS HS1 HNy HV HG1 HG2 HG3 HG4;cases c3
      ·exact Or.inl ⟨by kernel_rfl,by intro w hSw;(try dsimp only at hSw);simp only [unl_false];first | (go_simp;done) | (go_simp;with_reducible rfl)⟩
      ·exact Or.inr ⟨by kernel_rfl,rfl⟩
     refine wpAnyH_take (i:=24) (v:=unl c3 (.bool b13)) rfl (by kernel_rfl) (by kernel_rfl) (by kernel_rfl) (fun _ _ _ h=>h) ?y36 hS ?_
     case y36=>
      clear hS HS1 HNy HV HG1 HG2 HG3 HG4;cases c3
      ·exact Or.inl ⟨by kernel_rfl,by intro w hSw;(try dsimp only at hSw);simp only [unl_false];first | (go_simp;done) | (go_simp;with_reducible rfl)⟩
      ·exact Or.inr ⟨by kernel_rfl,rfl⟩
     refine wpAnyH_take (i:=25) (v:=unl (c3 || !b13) (I k)) rfl (by kernel_rfl) (by kernel_rfl) (by kernel_rfl) (fun _ _ _ h=>h) ?y37 hS ?_
     case y37=>
      clear hS HS1 HNy HV HG1 HG2 HG3 HG4;cases c3<;>cases b13
      ·exact Or.inr ⟨by kernel_rfl,rfl⟩
      ·exact Or.inl ⟨by kernel_rfl,by intro w hSw;(try dsimp only at hSw);simp only [Bool.not_true,Bool.false_or,unl_false];first | (go_simp;done) | (go_simp;with_reducible rfl)⟩
      ·exact Or.inr ⟨by kernel_rfl,rfl⟩
      ·exact Or.inr ⟨by kernel_rfl,rfl⟩
     refine wpAnyH_take (i:=26) (v:=unl (c3 || !b13) (.bool bz)) rfl (by kernel_rfl) (by kernel_rfl) (by kernel_rfl) (fun _ _ _ h=>h) ?y38 hS ?_
     case y38=>
      clear hS HS1 HNy HV HG1 HG2 HG3 HG4;cases c3<;>cases b13
      ·exact Or.inr ⟨by kernel_rfl,rfl⟩
      ·exact Or.inl ⟨by kernel_rfl,by intro w hSw;(try dsimp only at hSw);simp only [Bool.not_true,Bool.false_or,unl_false];first | (go_simp;done) | (go_simp;with_reducible rfl)⟩
      ·exact Or.inr ⟨by kernel_rfl,rfl⟩
      ·exact Or.inr ⟨by kernel_rfl,rfl⟩
     refine wpAnyH_take (i:=27) (v:=unl c3 (.bool (b13 && bz))) rfl (by kernel_rfl) (by kernel_rfl) (by kernel_rfl) (fun _ _ _ h=>h) ?y39 hS ?_
     case y39=>
      clear hS HS1 HNy HV HG1 HG2 HG3 HG4;cases c3<;>cases b13
      ·exact Or.inl ⟨by kernel_rfl,by intro w hSw;(try dsimp only at hSw);simp only [unl_false,unl_true,Bool.false_and,Bool.not_false,Bool.false_or];first | (go_simp;done) | (go_simp;with_reducible rfl)⟩
      ·exact Or.inl ⟨by kernel_rfl,by intro w hSw;(try dsimp only at hSw);simp only [unl_false,Bool.true_and,Bool.not_true,Bool.false_or];first | (go_simp;done) | (go_simp;with_reducible rfl)⟩
      ·exact Or.inr ⟨by kernel_rfl,rfl⟩
      ·exact Or.inr ⟨by kernel_rfl,rfl⟩
     refine wpAnyH_take (i:=28) (v:=.bool rz) rfl (by kernel_rfl) (by kernel_rfl) (by kernel_rfl) (fun _ _ _ h=>h) ?y40 hS ?_
     case y40=>
      have hg:=HG4.out;clear hS HS1 HNy HV HG1 HG2 HG3 HG4;subst hg;cases c3<;>cases b13
      ·exact Or.inl ⟨by kernel_rfl,by intro w hSw;(try dsimp only at hSw);simp only [unl_false,unl_true,Bool.false_and,Bool.not_false,Bool.false_or];first | (go_simp;done) | (go_simp;with_reducible rfl)⟩
      ·exact Or.inl ⟨by kernel_rfl,by intro w hSw;(try dsimp only at hSw);simp only [unl_false,Bool.true_and,Bool.not_true,Bool.false_or];first | (go_simp;done) | (go_simp;with_reducible rfl)⟩
      ·exact Or.inl ⟨by kernel_rfl,by intro w hSw;(try dsimp only at hSw);simp only [unl_true,Bool.true_or,Bool.false_and,Bool.not_false];first | (go_simp;done) | (go_simp;with_reducible rfl)⟩
      ·exact Or.inl ⟨by kernel_rfl,by intro w hSw;(try dsimp only at hSw);simp only [unl_true,Bool.true_or,Bool.true_and,Bool.not_true];first | (go_simp;done) | (go_simp;with_reducible rfl)⟩
     refine tq 29 rfl hS ?_;refine rd1 30 rfl fun K hK=>?_;go_simp;refine hK.out _ _ (HS1.out rz) (fun hS=>?_);refine wpAnyH_done (by kernel_rfl) ?_ _
     clear hK K hS;have HNz:=hdn <| HNy.out rz rfl HV.out _ rfl;go_wp2_with fail;go_roundg (km l m - (k+1))
     case measure=>have:=HG.out;omega
     case rel=>exact ⟨k+1,by omega,rfl,by go_num,HNz.out⟩
    ·have hkl':¬ (k:Int) < (km l m:Int):=by omega
     have hke:k=km l m:=by omega
     have HF:Hid (RowI wr w.heap.size l.length (asksN l (m+1))/\RowT wr (w.heap.size+1) l.length (fixN l (m+1))/\Below w.heap.size w wr):=by
      refine ⟨?_,?_,HR.out.2.2.1⟩
      ·have h1:=HR.out.1;rw [hke] at h1;exact h1
      ·have h1:=HR.out.2.1;rw [hke] at h1;exact h1
     clear hke hkl HR;go_wp2_with fail;go_roundg (l.length - (m+1))
     case measure=>have:=HG1.out;omega
     case rel=>exact ⟨m+1,by omega,rfl,by go_num,HF.out.1,HF.out.2.1,HF.out.2.2⟩
  ·have hlt':¬ (m:Int) < (l.length:Int):=by omega
   have hme:m=l.length:=by omega
   have HF:Hid (RowI wr w.heap.size l.length (asksN l l.length)/\RowT wr (w.heap.size+1) l.length (fixN l l.length)/\Below w.heap.size w wr):=by rw [hme] at HR;exact HR
   clear hme hlt;go_wp2_with fail;refine bodyPost_ret (v:=.tuple #[.slice (pZ w.heap.size) l.length l.length,.slice (pZ (w.heap.size+1)) l.length l.length]) (by simp [results,Tryz.results34,go_sem]) rfl ?_
   exact ⟨rfl,HF.out⟩
end Go.Proofs.YtbledbjcghaanaaGreat.Nm.Ty
