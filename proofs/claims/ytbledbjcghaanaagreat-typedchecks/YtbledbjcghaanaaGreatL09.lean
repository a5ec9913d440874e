import Derived.Deep.RegionHeld3
import Derived.Test.YtbledbjcghaanaaGreatTl
import Derived.Test.YtbledbjcghaanaaGreatL08
set_option maxHeartbeats 12800000
set_option maxRecDepth 100000
namespace Go.Proofs.YtbledbjcghaanaaGreat.Nm
open Go.RowKit Go.Maps Sp Lx Gr
def plc (ev:List ((Nat × Nat) × Nat)) (x:Nat × Nat):Int:=match lk ev x with | some a=>(a:Int) | none=>-1
def onsOf (ev:List ((Nat × Nat) × Nat)) (n:Nat):List Int:=(List.range n).map fun q=>plc ev (1,q)
theorem onsOf_succ (ev:List ((Nat × Nat) × Nat)) (n:Nat):onsOf ev (n+1)=onsOf ev n++[plc ev (1,n)]:=by simp [onsOf,List.range_succ]
theorem onsOf_len (ev:List ((Nat × Nat) × Nat)) (n:Nat):(onsOf ev n).length=n:=by simp [onsOf]
abbrev iv (l:List Int):List Value:=l.map fun n:Int=>Value.int .i64 n
theorem place_any {W:World} {hb mb n k m:Nat} {ev:List ((Nat × Nat) × Nat)} (hbox:W.heap[hb]?=some (.cells #[.map (some mb)] 92 (0,0))) (hm:IsMp bmap W mb (ef ev) n) (hk:k<=5/\m<=16):
  Calls Tryz.prog 86 #[.agg #[I (k:Int),I (m:Int)],ptr0 hb] W fun e w'=>e=.returned (I (plc ev (k,m)))/\Below W.heap.size W w':=by
 have hb2:Below W.heap.size W (W.alloc (.cells #[I (k:Int),I (m:Int)] 123)):=bAl W _;have hn2:(W.alloc (.cells #[I (k:Int),I (m:Int)] 123)).heap[W.heap.size]?=some (.cells #[I (k:Int),I (m:Int)] 123 (0,0)):=heap_alloc_new W _;have e0:(W.alloc (.cells #[I (k:Int),I (m:Int)] 123)).cell? ⟨W.heap.size,0,none⟩=some (I (k:Int)):=by rw [World.cell?,hn2];rfl
 have e1:(W.alloc (.cells #[I (k:Int),I (m:Int)] 123)).cell? ⟨W.heap.size,1,none⟩=some (I (m:Int)):=by rw [World.cell?,hn2];rfl
 obtain ⟨d2,_⟩:=box_cell ((hb2.block hb (Array.getElem?_eq_some_iff.1 hbox).1).trans hbox);have hlk:=(hm.same (hb2.block mb hm.lt)).lookOk bmap_law (k:=(k,m)) hk;have hlk':(Instr.lookup 92 (.map (some mb)) (.agg #[I (k:Int),I (m:Int)]) true).run Tryz.prog (W.alloc (.cells #[I (k:Int),I (m:Int)] 123))=.ok (.tuple #[((ef ev) (k,m)).getD (I 0),.bool ((ef ev) (k,m)).isSome]) (W.alloc (.cells #[I (k:Int),I (m:Int)] 123)):=hlk;have HB:Hid (Below W.heap.size W (W.alloc (.cells #[I (k:Int),I (m:Int)] 123))):=hb2;have HP:Hid (plc ev (k,m)=match lk ev (k,m) with | some a=>(a:Int) | none=>-1):=rfl
 have hef:(ef ev) (k,m)=(lk ev (k,m)).map fun e:Nat=>I (e:Int):=rfl;rw [hef] at hlk';clear hbox hm hk hb2 hn2 hlk hef;unfold ptr0;generalize plc ev (k,m)=z at *;cases hf:lk ev (k,m) with
 | none=>
  rw [hf] at hlk' HP;simp only [Option.map_none,Option.getD_none,Option.isSome_none] at hlk' HP;go_enter Tryz.func86,Tryz.ntmps86;go_wp2;go_ret;exact ⟨by rw [HP.out];rfl,HB.out⟩
 | some v=>
  rw [hf] at hlk' HP;simp only [Option.map_some,Option.getD_some,Option.isSome_some] at hlk' HP;go_enter Tryz.func86,Tryz.ntmps86;go_wp2;go_ret;exact ⟨by rw [HP.out];rfl,HB.out⟩
structure Plc (W wr:World) (pb:Nat) (nm rows qv vv tv uv ov:Value) (ev:List ((Nat × Nat) × Nat)) (mb j:Nat):Prop where
 fb:Fb [pb] W.heap.size W wr
 bx:wr.heap[W.heap.size]?=some (.cells #[.map (some mb)] 92 (0,0))
 blk:wr.heap[pb]?=some (.cells #[nm,rows,qv,vv,tv,uv,ov,I 0] 27 (0,0))
 own:wr.ownsRow (W.heap.size+1) 3 1 ov j (iv (onsOf ev j))
section
variable {W wr w':World} {pb mb j:Nat} {nm rows qv vv tv uv ov:Value} {ev:List ((Nat × Nat) × Nat)}
theorem Plc.lt (h:Plc W wr pb nm rows qv vv tv uv ov ev mb j):W.heap.size+1<=wr.heap.size:=(Array.getElem?_eq_some_iff.1 h.bx).1
theorem Plc.below (h:Plc W wr pb nm rows qv vv tv uv ov ev mb j) (hb:Below wr.heap.size wr w'):Plc W w' pb nm rows qv vv tv uv ov ev mb j:=
 ⟨h.fb.trans (Fb.of_below (hb.mono h.fb.size)),(hb.block _ (Array.getElem?_eq_some_iff.1 h.bx).1).trans h.bx,(hb.block _ (Array.getElem?_eq_some_iff.1 h.blk).1).trans h.blk,own_below h.own hb⟩
theorem Plc.put {v':Value} (h:Plc W wr pb nm rows qv vv tv uv ov ev mb j) (hpb:pb < W.heap.size) (hg:Gone wr ov w' v') (ho:w'.ownsRow (W.heap.size+1) 3 1 v' (j+1) (iv (onsOf ev j)++[I (plc ev (1,j))])):
  w'.heap[pb]?=some (.cells #[nm,rows,qv,vv,tv,uv,ov,I 0] 27 (0,0))/\Plc W (w'.setCell ⟨pb,6,none⟩ v') pb nm rows qv vv tv uv v' ev mb (j+1):=by
 have hov:∀ k,ov.ownBlock=some k->W.heap.size+1<=k:=fun k e=>(World.ownsRow.lt h.own k e).1;have hlt:=h.lt;have hkeep:∀ k,k < W.heap.size+1->w'.heap[k]?=wr.heap[k]?:=fun k hk=>hg.1.block k (by omega) (fun e=>by have:=hov k e.symm;omega)
 have hp:=(hkeep pb (by omega)).trans h.blk
 have hset:∀ k,k ≠ pb->(w'.setCell ⟨pb,6,none⟩ v').heap[k]?=w'.heap[k]?:=fun k hk=>Below.heap_setCell w' _ v' k (fun e=>hk e);refine ⟨hp,⟨⟨hg.1.os.trans h.fb.os,hg.1.tape.trans h.fb.tape,hg.1.output.trans h.fb.output,?_,fun k hk hn=>?_⟩,?_,?_,?_⟩⟩
 ·have:=hg.1.size;simp [World.setCell];omega
 ·rw [hset k (by simpa using hn),hkeep k (by omega)]
  exact h.fb.block k hk hn
 ·rw [hset _ (by omega),hkeep _ (by omega)]
  exact h.bx
 ·have:=heap_setCell_same w' pb 6 _ 27 v' hp
  simpa using this
 ·rw [onsOf_succ];have:(w'.setCell ⟨pb,6,none⟩ v').ownsRow (W.heap.size+1) 3 1 v' (j+1) (iv (onsOf ev j)++[I (plc ev (1,j))]):=own_keepB ho (fun k hk=>hset k (by have:=(World.ownsRow.lt ho k hk).1;omega))
  simpa [iv] using this
end
theorem placeEvents_any {W:World} {pb mb n nq qc:Nat} {nm rows vv tv uv:Value} {qo:Option Addr} {ev:List ((Nat × Nat) × Nat)} (hp:W.heap[pb]?=some (.cells #[nm,rows,.slice qo nq qc,vv,tv,uv,.slice none 0 0,I 0] 27 (0,0))) (hm:IsMp bmap W mb (ef ev) n) (hq:nq<=16):
  Calls Tryz.prog 56 #[.pointer (pZ pb),.map (some mb)] W fun e w'=>e=.returned (.tuple #[])/\Fb [pb] W.heap.size W w'/\∃ ov,w'.heap[pb]?=some (.cells #[nm,rows,.slice qo nq qc,vv,tv,uv,ov,I (plc ev (5,0))] 27 (0,0))/\w'.ownsRow (W.heap.size+1) 3 1 ov nq (iv (onsOf ev nq)):=by
 have hpl:pb < W.heap.size:=(Array.getElem?_eq_some_iff.1 hp).1;have hb1:Below W.heap.size W (W.alloc (.cells #[.map (some mb)] 92)):=bAl W _;have h0:Plc W (W.alloc (.cells #[.map (some mb)] 92)) pb nm rows (.slice qo nq qc) vv tv uv (.slice none 0 0) ev mb 0:=⟨Fb.of_below hb1,heap_alloc_new W _,(hb1.block pb hpl).trans hp,⟨by simp [onsOf],Or.inl ⟨rfl,rfl⟩⟩⟩
 have H0:=hdn <| h0;have c2:(W.alloc (.cells #[.map (some mb)] 92)).cell? ⟨pb,2,none⟩=some (.slice qo nq qc):=by simp only [World.cell?,h0.blk];rfl
 have HM:Hid (IsMp bmap W mb (ef ev) n/\mb ≠ pb/\pb < W.heap.size):=⟨hm,Ne.symm (hm.ne_cells hp),hpl⟩;obtain ⟨j0,hj,hj0,hj1,hj2⟩:=info_parts infoI;have hq2:(nq:Int)<=16:=by omega
 have HC:Hid (∀ (k m:Nat) (wq:World) (ov:Value) (j:Nat),k<=5->m<=16->Plc W wq pb nm rows (.slice qo nq qc) vv tv uv ov ev mb j->Calls Tryz.prog 86 #[.agg #[I (k:Int),I (m:Int)],.pointer (pZ W.heap.size)] wq fun e w'=>e=.returned (I (plc ev (k,m)))/\Below wq.heap.size wq w'):=fun k m wq ov j hk hm2 hP=>place_any hP.bx (HM.out.1.same (hP.fb.block mb HM.out.1.lt (by have:=HM.out.2.1;simpa using this))) ⟨hk,hm2⟩
 clear hp hm h0 hb1 hpl;go_enter Tryz.func56,Tryz.ntmps56;go_wp2_with fail
 go_loopg [12] nq (fun gq x wr=>∃ j ov,j+gq=nq/\x=I (j:Int)/\Plc W wr pb nm rows (.slice qo nq qc) vv tv uv ov ev mb j)
 case atStart=>exact ⟨0,_,by omega,rfl,H0.out⟩
 case round=>
  obtain ⟨j,ov,hjg,rfl,hP⟩:=hrel;have HJ:Hid (j+gk=nq):=hjg;have HP:=hdn <| hP;by_cases hlt:j < nq
  ·have hj':(j:Int) < (nq:Int):=by omega
   have HL:Hid (j<=16):=by show _<=_;omega
   have c6:wr.drew.cell? ⟨pb,6,none⟩=some ov:=by simp only [World.cell?,(hP.below (Below.refl _ wr).drew).blk];rfl
   clear hjg hP hlt c2;go_wp2_with fail;refine wp_region_held (S:=fun _=>True) (by kernel_rfl) ?_
   have hS:(fun _:World=>True) wr.drew:=trivial;change wpAnyH _ _ _ _ _ _ _ _ wr.drew;refine tk (i:=0) (v:=?v0) rfl (Or.inl ⟨by rfl,?y0⟩) hS ?r0
   case y0=>
    intro w hSw
    first
     | (go_simp;done)
     | (go_simp;with_reducible rfl)
   refine tk (i:=1) (v:=?v1) rfl (Or.inl ⟨by rfl,?y1⟩) hS ?r1
   case y1=>
    intro w hSw
    first
     | (go_simp;done)
     | (go_simp;with_reducible rfl)
   refine tk (i:=2) (v:=?v2) rfl (Or.inl ⟨by rfl,?y2⟩) hS ?r2
   case y2=>
    intro w hSw
    first
     | (go_simp;done)
     | (go_simp;with_reducible rfl)
   refine tk (i:=3) (v:=?v3) rfl (Or.inl ⟨by rfl,?y3⟩) hS ?r3
   case y3=>
    intro w hSw
    first
     | (go_simp;done)
     | (go_simp;with_reducible rfl)
   refine tk (i:=5) (v:=?v4) rfl (Or.inl ⟨by rfl,?y4⟩) hS ?r4
   case y4=>
    intro w hSw
    first
     | (go_simp;done)
     | (go_simp;with_reducible rfl)
   refine tk (i:=6) (v:=?v5) rfl (Or.inl ⟨by rfl,?y5⟩) hS ?r5
   case y5=>
    intro w hSw
    first
     | (go_simp;done)
     | (go_simp;with_reducible rfl)
   refine tk (i:=7) (v:=?v6) rfl (Or.inl ⟨by rfl,?y6⟩) hS ?r6
   case y6=>
    intro w hSw
    first
     | (go_simp;done)
     | (go_simp;with_reducible rfl)
   have HPd:=hdn <| HP.out.below (Below.refl _ wr).drew;generalize wr.drew=wd at *;refine rd2 4 8 (by kernel_rfl) rfl rfl (fun K hK=>?_) (fun K hK=>?_)
   ·go_simp;refine hK.out _ _ trivial (fun hS=>?_);refine rd1 8 rfl fun K hK=>?_;go_simp;refine Calls.mono (HC.out 1 j wd ov j (by decide) HL.out HPd.out) ?_
    rintro e w2 ⟨rfl,hb2⟩;have HP2:=hdn <| HPd.out.below hb2;have c62:w2.cell? ⟨pb,6,none⟩=some ov:=by simp only [World.cell?,HP2.out.blk];rfl
    have HP3:=hdn <| HP2.out.below (bAl w2 (.cells #[I (plc ev (1,j))] 3));have c63:(w2.alloc (.cells #[I (plc ev (1,j))] 3)).cell? ⟨pb,6,none⟩=some ov:=by simp only [World.cell?,HP3.out.blk];rfl
    clear hb2;refine hK.out _ _ trivial (fun hS=>?_);refine rd1 9 rfl fun K hK=>?_;go_simp;refine hK.out _ _ trivial (fun hS=>?_);refine rd1 10 rfl fun K hK=>?_;refine step_gone _ rfl (.tmp 19) (.tmp 24) 25 rfl (W.heap.size+1) 3 j0 (I 0) 1 8 Tryz.underlying25 hj hj0 hj1 hj2 rfl (by decide) ov _ (iv (onsOf ev j)) (by simp [Act.eval]) HP3.out.own ⟨w2.heap.size,0,none⟩ 1 1 [I (plc ev (1,j))] (by simp [Act.eval]) rfl (cell_one w2 _ _) (by intro u hu;simp only [List.mem_cons,List.not_mem_nil,or_false] at hu;subst hu;rfl) (by have:=HL.out;unfold maxLen;omega) (by have:=HL.out;omega) HP3.out.lt (by decide) ?_
    intro xv' w4 ho hG;obtain ⟨hpb4,hP4⟩:=HP3.out.put HM.out.2.2 hG ho;have HP4:=hdn <| hP4;have e6:w4.cell? ⟨pb,6,none⟩=some ov:=by simp only [World.cell?,hpb4];rfl
    have f6:w4.frozen? ⟨pb,6,none⟩=false:=by simp only [World.frozen?,hpb4];rfl
    obtain ⟨bo,bc,rfl⟩:=own_form ho;clear ho hG hP4 hpb4;refine hK.out _ _ trivial (fun hS=>?_);refine rd1 11 rfl fun K hK=>?_;go_simp;refine hK.out _ _ trivial (fun hS=>?_);refine rd1 12 rfl fun K hK=>?_;go_simp;refine hK.out _ _ trivial (fun hS=>?_);refine rd1 13 rfl fun K hK=>?_;go_simp;refine hK.out _ _ trivial (fun hS=>?_);refine wpAnyH_done (by kernel_rfl) ?_ _
    go_wp2_with fail
    go_roundg (nq - (j+1))
    case measure=>have:=HJ.out;omega
    case rel=>exact ⟨j+1,_,by have:=HJ.out;omega,by go_num,HP4.out⟩
   ·go_simp;refine Calls.mono (HC.out 1 j wd ov j (by decide) HL.out HPd.out) ?_
    rintro e w2 ⟨rfl,hb2⟩;have HP2:=hdn <| HPd.out.below hb2;have c62:w2.cell? ⟨pb,6,none⟩=some ov:=by simp only [World.cell?,HP2.out.blk];rfl
    have HP3:=hdn <| HP2.out.below (bAl w2 (.cells #[I (plc ev (1,j))] 3));have c63:(w2.alloc (.cells #[I (plc ev (1,j))] 3)).cell? ⟨pb,6,none⟩=some ov:=by simp only [World.cell?,HP3.out.blk];rfl
    clear hb2;refine hK.out _ _ trivial (fun hS=>?_);refine rd2 4 9 (by kernel_rfl) rfl rfl (fun K hK=>?_) (fun K hK=>?_)
    rotate_right
    focus
     go_simp;refine hK.out _ _ trivial (fun hS=>?_);refine wpAnyH_ready (rs:=[4]) (by kernel_rfl) (by simp) ?_
    rotate_right
    focus
     go_simp;refine hK.out _ _ trivial (fun hS=>?_);refine wpAnyH_ready (rs:=[9]) (by kernel_rfl) (by simp) ?_
    all_goals
     refine AllReadyH.cons rfl (fun K hK=>?_) AllReadyH.nil;go_simp;refine hK.out _ _ trivial (fun hS=>?_);refine rd1 10 rfl fun K hK=>?_;refine step_gone _ rfl (.tmp 19) (.tmp 24) 25 rfl (W.heap.size+1) 3 j0 (I 0) 1 8 Tryz.underlying25 hj hj0 hj1 hj2 rfl (by decide) ov _ (iv (onsOf ev j)) (by simp [Act.eval]) HP3.out.own ⟨w2.heap.size,0,none⟩ 1 1 [I (plc ev (1,j))] (by simp [Act.eval]) rfl (cell_one w2 _ _) (by intro u hu;simp only [List.mem_cons,List.not_mem_nil,or_false] at hu;subst hu;rfl) (by have:=HL.out;unfold maxLen;omega) (by have:=HL.out;omega) HP3.out.lt (by decide) ?_
     intro xv' w4 ho hG;obtain ⟨hpb4,hP4⟩:=HP3.out.put HM.out.2.2 hG ho;have HP4:=hdn <| hP4;have e6:w4.cell? ⟨pb,6,none⟩=some ov:=by simp only [World.cell?,hpb4];rfl
     have f6:w4.frozen? ⟨pb,6,none⟩=false:=by simp only [World.frozen?,hpb4];rfl
     obtain ⟨bo,bc,rfl⟩:=own_form ho;clear ho hG hP4 hpb4;refine hK.out _ _ trivial (fun hS=>?_);refine rd1 11 rfl fun K hK=>?_;go_simp;refine hK.out _ _ trivial (fun hS=>?_);refine rd1 12 rfl fun K hK=>?_;go_simp;refine hK.out _ _ trivial (fun hS=>?_);refine rd1 13 rfl fun K hK=>?_;go_simp;refine hK.out _ _ trivial (fun hS=>?_);refine wpAnyH_done (by kernel_rfl) ?_ _
     go_wp2_with fail
     go_roundg (nq - (j+1))
     case measure=>have:=HJ.out;omega
     case rel=>exact ⟨j+1,_,by have:=HJ.out;omega,by go_num,HP4.out⟩
  ·have hj':decide ((j:Int) < (nq:Int))=false:=by simp;omega
   obtain rfl:j=nq:=by have:=HJ.out;omega
   have HC5:=hdn <| HC.out 5 0 wr ov j (by decide) (by decide) hP
   clear hjg hP hlt c2;go_wp2_with fail;refine Calls.mono HC5.out ?_;rintro e w2 ⟨rfl,hb2⟩;have hP2:=HP.out.below hb2;have e7:w2.cell? ⟨pb,7,none⟩=some (I 0):=by simp only [World.cell?,hP2.blk];rfl
   have f7:w2.frozen? ⟨pb,7,none⟩=false:=by simp only [World.frozen?,hP2.blk];rfl
   have hset:∀ k,k ≠ pb->(w2.setCell ⟨pb,7,none⟩ (I (plc ev (5,0)))).heap[k]?=w2.heap[k]?:=fun k hk=>Below.heap_setCell w2 _ _ k (fun e=>hk e);have HX:Hid (Fb [pb] W.heap.size W (w2.setCell ⟨pb,7,none⟩ (I (plc ev (5,0))))/\(w2.setCell ⟨pb,7,none⟩ (I (plc ev (5,0)))).heap[pb]?=some (.cells #[nm,rows,.slice qo j qc,vv,tv,uv,ov,I (plc ev (5,0))] 27 (0,0))/\(w2.setCell ⟨pb,7,none⟩ (I (plc ev (5,0)))).ownsRow (W.heap.size+1) 3 1 ov j (iv (onsOf ev j))):=by
    refine ⟨hP2.fb.trans set_fb,?_,own_keepB hP2.own (fun k hk=>hset k (by have:=(World.ownsRow.lt hP2.own k hk).1;have:=HM.out.2.2;omega))⟩
    have:=heap_setCell_same w2 pb 7 _ 27 (I (plc ev (5,0))) hP2.blk
    simpa using this
   clear hb2 hP2 hset;go_wp2
   go_end0
   exact ⟨rfl,HX.out.1,ov,HX.out.2⟩
def rz5 (r:Rz):List Value:=[I r.kind,.string r.name,I r.stop,I r.n,I r.kids]
theorem rz5_len (l:List Rz):(l.flatMap rz5).length=l.length * 5:=by
 induction l with
 | nil=>rfl
 | cons r l ih=>rw [List.flatMap_cons,List.length_append,ih,List.length_cons];show 5+_=_;omega
theorem rz5_at (l:List Rz) (i j:Nat) (r:Rz) (h:l[i]?=some r) (hj:j < 5):(l.flatMap rz5)[i * 5+j]?=(rz5 r)[j]?:=by
 induction l generalizing i with
 | nil=>simp at h
 | cons y l ih=>
  rw [List.flatMap_cons];cases i with
  | zero=>
   simp at h;subst h;rw [List.getElem?_append_left (by show _ < 5;omega)]
   simp
  | succ i=>
   rw [List.getElem?_append_right (by show 5<=_;omega),show (i+1) * 5+j - (rz5 y).length=i * 5+j by show _ - 5=_;omega]
   exact ih i (by simpa using h)
theorem rz_cells {w:World} {ao:Option Addr} {l:List Rz} (h:IsRz w ao l) (h0:0 < l.length):∃ g o,ao=some ⟨g,o,none⟩/\g < w.heap.size/\∀ j u,(l.flatMap rz5)[j]?=some u->w.cell? ((⟨g,o,none⟩:Addr).add j)=some u:=by
 obtain ⟨g,o,rfl,hg,_⟩:=h 0 l[0] (List.getElem?_eq_getElem h0);refine ⟨g,o,rfl,hg,fun j u hu=>?_⟩;have hj:j < l.length * 5:=by
  have:=(List.getElem?_eq_some_iff.1 hu).1;rw [rz5_len] at this;exact this
 have hi:j / 5 < l.length:=by omega
 have hx:=List.getElem?_eq_getElem hi;have hd:j=(j / 5) * 5+j % 5:=by omega
 rw [hd,rz5_at l (j / 5) (j % 5) _ hx (by omega)] at hu
 obtain ⟨g',o',he,_,c0,c1,c2,c3,c4⟩:=h (j / 5) _ hx;simp only [Option.some.injEq,Addr.mk.injEq,and_true] at he;obtain ⟨rfl,rfl⟩:=he;rw [Lib.addr_add];have hm:j % 5 < 5:=by omega
 generalize j % 5=m at hu hd hm;generalize j / 5=q at *;show w.cell? ⟨g,o+j,none⟩=_;rw [hd]
 match m,hm with
 | 0,_=>simpa [rz5,Nat.add_assoc] using c0.trans hu
 | 1,_=>rw [<-Nat.add_assoc];exact c1.trans hu
 | 2,_=>rw [<-Nat.add_assoc];exact c2.trans hu
 | 3,_=>rw [<-Nat.add_assoc];exact c3.trans hu
 | 4,_=>rw [<-Nat.add_assoc];exact c4.trans hu
theorem rz5_one (l:List Rz):∀ v ∈ l.flatMap rz5,v.oneCell'=true:=by
 intro v hv;rw [List.mem_flatMap] at hv;obtain ⟨r,_,hv⟩:=hv;simp only [rz5,List.mem_cons,List.not_mem_nil,or_false] at hv;rcases hv with rfl | rfl | rfl | rfl | rfl<;>rfl
theorem infoRw:(Tryz.prog.info? 61).map (fun i=>(i.zero,i.size,i.bytes))=some (some (.agg #[I 0,.string ⟨#[]⟩,I 0,I 0,I 0]),5,48):=by kernel_rfl
theorem rw_of_own {w:World} {base ad c:Nat} {l:List Rz} (h:w.ownsRow base 61 5 (.slice (pZ ad) l.length c) l.length (l.flatMap rz5)):Rw w ad l:=by
 have hc:=h.cells (g:=ad) rfl;rcases h.2 with ⟨e,_⟩ | ⟨g,cap,cur,e,h3,h4,h5⟩
 ·cases e
 ·cases e;refine ⟨_,h4,fun i x hx=>?_⟩;have hat:∀ j,j < 5->∀ u,(rz5 x)[j]?=some u->w.cell? ⟨ad,i * 5+j,none⟩=some u:=fun j hj u hu=>by
   have:=hc (i * 5+j) u ((rz5_at l i j x hx hj).trans hu);rw [Lib.addr_add] at this
   simpa using this
  have hce:∀ j u,w.cell? ⟨ad,j,none⟩=some u->cur[j]?=some u:=fun j u hu=>by
   simp only [World.cell?,h4] at hu;exact hu
  exact ⟨hce _ _ (hat 0 (by decide) _ rfl),hce _ _ (hat 1 (by decide) _ rfl),hce _ _ (hat 2 (by decide) _ rfl),hce _ _ (hat 3 (by decide) _ rfl),hce _ _ (hat 4 (by decide) _ rfl)⟩
theorem clone_rows (w:World) (a:Addr) (c:Nat) (l:List Rz) (h:IsRz w (some a) l) (hn:l.length<=2932031007317):
  Calls Tryz.prog 51 #[.slice (some a) l.length c] w fun r w'=>∃ ad c',r=.returned (.slice (pZ ad) l.length c')/\Rw w' ad l/\w.heap.size<=ad/\Below w.heap.size w w':=by
 have hnil:∀ u:World,(binOp BinOp.eql 22 (.slice (some a) l.length c) (.slice none 0 0)).run Tryz.prog u=.ok (.bool false) u:=fun _=>rfl;obtain ⟨i0,hi,hz0,hz1,hz2⟩:=info_parts infoRw;have hb1:Below w.heap.size w (w.alloc (.cells #[] 61)):=bAl w _;have HB:Hid (Below w.heap.size w (w.alloc (.cells #[] 61))):=hb1;have HO:Hid ((w.alloc (.cells #[] 61)).ownsRow w.heap.size 61 5 (.slice (pZ w.heap.size) 0 0) 0 []):=own_mk (cur:=[]) rfl (Nat.le_refl _) (heap_alloc_new w _) (Nat.le_refl _) (Nat.zero_le _) rfl rfl;have HC:Hid ((∀ j u,(l.flatMap rz5)[j]?=some u->(w.alloc (.cells #[] 61)).cell? (a.add j)=some u)/\(∀ u ∈ l.flatMap rz5,u.oneCell'=true)/\(l.flatMap rz5).length=l.length * 5/\l.length<=2932031007317):=by
  refine ⟨fun j u hu=>?_,rz5_one l,rz5_len l,hn⟩;have h0:0 < l.length:=by
   have:=(List.getElem?_eq_some_iff.1 hu).1;rw [rz5_len] at this;omega
  obtain ⟨g,o,e,hg,hc⟩:=rz_cells (h.below hb1) h0;cases e;exact hc j u hu
 generalize hxs:l.flatMap rz5=xs at *;have HX:Hid (l.flatMap rz5=xs):=hxs;clear hxs;clear h hn hb1;go_enter Tryz.func51,Tryz.ntmps51;go_wp2_with (at_builtin;refine wpList_append_own _ rfl _ _ 22 rfl w.heap.size 61 i0 (.agg #[I 0,.string ⟨#[]⟩,I 0,I 0,I 0]) 5 48 Tryz.underlying22 hi hz0 hz1 hz2 rfl (by decide) (.slice (pZ w.heap.size) 0 0) 0 [] rfl HO.out a l.length c xs rfl HC.out.2.2.1 HC.out.1 HC.out.2.1 ?c3 ?c4 ?c5 ?_)
 case c3=>have:=HC.out.2.2.2;unfold maxLen;omega
 case c4=>have:=HC.out.2.2.2;omega
 case c5=>exact HB.out.size
 intro v' w2 ho hg hiff;have HR:Hid (w2.ownsRow w.heap.size 61 5 v' l.length xs/\Below w.heap.size w w2):=⟨ho,HB.out.grown hg HB.out.size (fun k e=>by cases e;exact Nat.le_refl _)⟩
 have hform:∃ ad c',v'=.slice (pZ ad) l.length c':=by
  rcases HR.out.1.2 with ⟨e1,_⟩ | ⟨g,cap,cur,e1,_⟩
  ·exact absurd e1 hiff
  ·exact ⟨g,cap,e1⟩
 obtain ⟨ad,c',rfl⟩:=hform;clear ho hg hiff;go_wp2;go_ret;have ho:=HR.out.1;rw [<-HX.out] at ho;exact ⟨_,_,rfl,rw_of_own ho,(World.ownsRow.lt ho ad rfl).1,HR.out.2⟩
end Go.Proofs.YtbledbjcghaanaaGreat.Nm
namespace Go.Proofs.YtbledbjcghaanaaGreat.Nm
open Go.RowKit Go.Maps Sp Lx Gr
structure Pl where
 name:ByteArray
 rows:List Rz
 qs:List (ByteArray × Bool)
 vs:List ByteArray
 ts:List ByteArray
 us:List Nat
 on:List Int
 miss:Int
def start (l:List Rz):Rs:=⟨l,[],[],[],[],[],[]⟩
def resR (nm:ByteArray) (r:Except (Nat × Nat) Rs):Except (Nat × Nat) Pl:=match r with
 | .error ci=>.error ci
 | .ok s=>match big s.rows (sumsOf s.rows s.us) s.rows.length with
  | .error k=>.error (34,k)
  | .ok _=>.ok ⟨nm,s.rows,s.qs,s.vs,s.ts,s.us,onsOf s.ev s.qs.length,plc s.ev (5,0)⟩
def res (l:List Rz):Except (Nat × Nat) Pl:=if (chk l).1 ≠ 0 then .error (chk l) else resR (rat l 0).name (upto (start l) l.length)
structure IsPl (w:World) (base:Nat) (v:Value) (p:Pl):Prop where
 ex:∃ rb cap qv vv tv uv ov,v=.agg #[.string p.name,.slice (pZ rb) p.rows.length cap,qv,vv,tv,uv,ov,I p.miss]/\base<=rb/\Rw w rb p.rows /\
  w.ownsRow base 77 2 qv p.qs.length (qF p.qs)/\w.ownsRow base 9 1 vv p.vs.length (p.vs.map Value.string)/\w.ownsRow base 9 1 tv p.ts.length (p.ts.map Value.string)/\w.ownsRow base 3 1 uv p.us.length (nv p.us)/\w.ownsRow base 3 1 ov p.on.length (iv p.on)
theorem fb_below {F:List Nat} {n m:Nat} {a b:World} (h:Fb F n a b) (hm:m<=n) (hF:∀ k ∈ F,m<=k):Below m a b:=⟨h.os,h.tape,h.output,h.size,fun k hk=>h.block k (by omega) (fun hi=>by have:=hF k hi;omega)⟩
abbrev pz:Value:=.slice none 0 0
theorem mem_start {W:World} {o:Lay} {l:List Rz} (hp:W.heap[o.pb]?=some (.cells #[.string o.nm,.slice (pZ o.rb) l.length o.cap,pz,pz,pz,pz,pz,I 0] 27 (0,0))) (hb:o.base<=W.heap.size) (hpb:o.pb < o.base) (hr:Rw W o.rb l)
  (x1:W.heap[o.b1]?=some (.cells #[.pointer (pZ o.pb)] 96 (0,0))) (x2:W.heap[o.b2]?=some (.cells #[.map (some o.kb)] 91 (0,0))) (x3:W.heap[o.b3]?=some (.cells #[.map (some o.cb)] 120 (0,0)))
  (k:IsMp kmap W o.kb (fun _=>none) 0) (c:IsMp cmap W o.cb (fun _=>none) 0) (r:Rest W o l.length []):Mem W o (start l) pz pz pz pz (fun _=>none) 0:=
 ⟨⟨⟨hp,⟨rfl,Or.inl ⟨rfl,rfl⟩⟩,⟨rfl,Or.inl ⟨rfl,rfl⟩⟩,⟨rfl,Or.inl ⟨rfl,rfl⟩⟩,⟨rfl,Or.inl ⟨rfl,rfl⟩⟩,fun g hg=>by simp [Value.ownBlock] at hg,hpb,hb⟩,hr,x1,x2,x3,k,c⟩,fun z=>by
  show _=Value.int .i64 _
  have:(start l).cnt z=0:=by
   unfold Rs.cnt start
   repeat' split
   all_goals rfl
  rw [this];rfl,Nat.le_refl _,r⟩
theorem good_start (l:List Rz):Good l 0 (start l):=⟨rfl,by simp [start],by simp [start],by simp [start],by simp [start],fun e he=>by simp [start] at he,rfl,fun u hu=>by simp [start] at hu,Nat.le_refl _⟩
theorem nats_of {W:World} {base n uc:Nat} {uo:Option Addr} {us:List Nat} (h:W.ownsRow base 3 1 (.slice uo n uc) us.length (nv us)):IsNats W uo us/\us.length<=uc:=by
 have hc:=h;rcases h.2 with ⟨e,hz⟩ | ⟨g,c,cur,e,h3,h4,h5,h6⟩
 ·have h0:us=[]:=List.length_eq_zero_iff.1 hz;subst h0;exact ⟨fun k x hx=>by simp at hx,Nat.zero_le _⟩
 ·cases e;refine ⟨fun k x hx=>⟨g,0,rfl,(Array.getElem?_eq_some_iff.1 h4).1,?_⟩,h5⟩;have:=hc.cells (g:=g) rfl k (I (x:Int)) (by simp [nv,hx])
  rw [Lib.addr_add] at this;exact this
end Go.Proofs.YtbledbjcghaanaaGreat.Nm
namespace Go.Proofs.YtbledbjcghaanaaGreat.Nm
open Go.RowKit Go.Maps Sp Lx Gr
structure Rsl (w wq:World):Prop where
 p:wq.heap[w.heap.size]?=some (.cells #[.string ⟨#[]⟩,pz,pz,pz,pz,pz,pz,I 0] 27 (0,0))
 f:wq.heap[w.heap.size+1]?=some (.cells #[I 0,I 0] 32 (0,0))
 b:Below w.heap.size w wq
theorem Rsl.below {w wq w':World} (h:Rsl w wq) (hb:Below wq.heap.size wq w'):Rsl w w':=
 ⟨(hb.block _ (Array.getElem?_eq_some_iff.1 h.p).1).trans h.p,(hb.block _ (Array.getElem?_eq_some_iff.1 h.f).1).trans h.f,h.b.trans (hb.mono h.b.size)⟩
theorem Rsl.cells {w wq:World} (h:Rsl w wq):wq.cell? ⟨w.heap.size,0,none⟩=some (.string ⟨#[]⟩)/\wq.cell? ⟨w.heap.size,1,none⟩=some pz/\wq.cell? ⟨w.heap.size,2,none⟩=some pz/\wq.cell? ⟨w.heap.size,3,none⟩=some pz/\wq.cell? ⟨w.heap.size,4,none⟩=some pz/\wq.cell? ⟨w.heap.size,5,none⟩=some pz/\wq.cell? ⟨w.heap.size,6,none⟩=some pz/\wq.cell? ⟨w.heap.size,7,none⟩=some (I 0):=by
 refine ⟨?_,?_,?_,?_,?_,?_,?_,?_⟩
 all_goals
  simp only [World.cell?,h.p];rfl
theorem Rsl.frozen {w wq:World} (h:Rsl w wq) (j:Nat):wq.frozen? ⟨w.heap.size,j,none⟩=false:=by
 simp only [World.frozen?,h.p];simp
theorem Rsl.fault {w wq:World} (h:Rsl w wq):wq.cell? ⟨w.heap.size+1,0,none⟩=some (I 0)/\wq.cell? ⟨w.heap.size+1,1,none⟩=some (I 0)/\wq.frozen? ⟨w.heap.size+1,0,none⟩=false/\wq.frozen? ⟨w.heap.size+1,1,none⟩=false:=by
 refine ⟨?_,?_,?_,?_⟩
 ·simp only [World.cell?,h.f];rfl
 ·simp only [World.cell?,h.f];rfl
 ·simp only [World.frozen?,h.f];rfl
 ·simp only [World.frozen?,h.f];rfl
theorem below_set {n B:Nat} {w u:World} (h:Below n w u) (hB:n<=B) (i:Nat) (v:Value):Below n w (u.setCell ⟨B,i,none⟩ v):=
 ⟨h.os,h.tape,h.output,by have:=h.size;simpa [World.setCell] using this,fun k hk=>(Below.heap_setCell u _ v k (fun e=>by have e2:k=B:=e;omega)).trans (h.block k hk)⟩
theorem set_at {u:World} {B i:Nat} {cs cs':Array Value} {T:TypeId} (h:u.heap[B]?=some (.cells cs T (0,0))) (v:Value) (e:cs.setIfInBounds i v=cs'):(u.setCell ⟨B,i,none⟩ v).heap[B]?=some (.cells cs' T (0,0)):=by rw [heap_setCell_same u B i cs T v h,e]
theorem Rsl.wrote {w wq:World} (h:Rsl w wq) (v0 v1 v2 v3 v4 v5 v6 v7 a b:Value):((((((((((wq.setCell ⟨w.heap.size,0,none⟩ v0).setCell ⟨w.heap.size,1,none⟩ v1).setCell ⟨w.heap.size,2,none⟩ v2).setCell ⟨w.heap.size,3,none⟩ v3).setCell ⟨w.heap.size,4,none⟩ v4).setCell ⟨w.heap.size,5,none⟩ v5).setCell ⟨w.heap.size,6,none⟩ v6).setCell ⟨w.heap.size,7,none⟩ v7).setCell ⟨w.heap.size+1,0,none⟩ a).setCell ⟨w.heap.size+1,1,none⟩ b).heap[w.heap.size]?=some (.cells #[v0,v1,v2,v3,v4,v5,v6,v7] 27 (0,0))/\((((((((((wq.setCell ⟨w.heap.size,0,none⟩ v0).setCell ⟨w.heap.size,1,none⟩ v1).setCell ⟨w.heap.size,2,none⟩ v2).setCell ⟨w.heap.size,3,none⟩ v3).setCell ⟨w.heap.size,4,none⟩ v4).setCell ⟨w.heap.size,5,none⟩ v5).setCell ⟨w.heap.size,6,none⟩ v6).setCell ⟨w.heap.size,7,none⟩ v7).setCell ⟨w.heap.size+1,0,none⟩ a).setCell ⟨w.heap.size+1,1,none⟩ b).heap[w.heap.size+1]?=some (.cells #[a,b] 32 (0,0))/\Below w.heap.size w ((((((((((wq.setCell ⟨w.heap.size,0,none⟩ v0).setCell ⟨w.heap.size,1,none⟩ v1).setCell ⟨w.heap.size,2,none⟩ v2).setCell ⟨w.heap.size,3,none⟩ v3).setCell ⟨w.heap.size,4,none⟩ v4).setCell ⟨w.heap.size,5,none⟩ v5).setCell ⟨w.heap.size,6,none⟩ v6).setCell ⟨w.heap.size,7,none⟩ v7).setCell ⟨w.heap.size+1,0,none⟩ a).setCell ⟨w.heap.size+1,1,none⟩ b):=by
 have h0:=set_at h.p v0 (cs':=#[v0,pz,pz,pz,pz,pz,pz,I 0]) (i:=0) rfl;have h1:=set_at h0 v1 (cs':=#[v0,v1,pz,pz,pz,pz,pz,I 0]) (i:=1) rfl;have h2:=set_at h1 v2 (cs':=#[v0,v1,v2,pz,pz,pz,pz,I 0]) (i:=2) rfl;have h3:=set_at h2 v3 (cs':=#[v0,v1,v2,v3,pz,pz,pz,I 0]) (i:=3) rfl;have h4:=set_at h3 v4 (cs':=#[v0,v1,v2,v3,v4,pz,pz,I 0]) (i:=4) rfl;have h5:=set_at h4 v5 (cs':=#[v0,v1,v2,v3,v4,v5,pz,I 0]) (i:=5) rfl;have h6:=set_at h5 v6 (cs':=#[v0,v1,v2,v3,v4,v5,v6,I 0]) (i:=6) rfl;have h7:=set_at h6 v7 (cs':=#[v0,v1,v2,v3,v4,v5,v6,v7]) (i:=7) rfl;have hn:∀ (u:World) (i:Nat) (v:Value),(u.setCell ⟨w.heap.size,i,none⟩ v).heap[w.heap.size+1]?=u.heap[w.heap.size+1]?:=fun u i v=>Below.heap_setCell u _ v _ (fun e=>by have e2:w.heap.size+1=w.heap.size:=e;omega)
 have hm:∀ (u:World) (i:Nat) (v:Value),(u.setCell ⟨w.heap.size+1,i,none⟩ v).heap[w.heap.size]?=u.heap[w.heap.size]?:=fun u i v=>Below.heap_setCell u _ v _ (fun e=>by have e2:w.heap.size=w.heap.size+1:=e;omega)
 have g0:((((((((wq.setCell ⟨w.heap.size,0,none⟩ v0).setCell ⟨w.heap.size,1,none⟩ v1).setCell ⟨w.heap.size,2,none⟩ v2).setCell ⟨w.heap.size,3,none⟩ v3).setCell ⟨w.heap.size,4,none⟩ v4).setCell ⟨w.heap.size,5,none⟩ v5).setCell ⟨w.heap.size,6,none⟩ v6).setCell ⟨w.heap.size,7,none⟩ v7).heap[w.heap.size+1]?=some (.cells #[I 0,I 0] 32 (0,0)):=by rw [hn,hn,hn,hn,hn,hn,hn,hn];exact h.f
 have g1:=set_at g0 a (cs':=#[a,I 0]) (i:=0) rfl;have g2:=set_at g1 b (cs':=#[a,b]) (i:=1) rfl;refine ⟨?_,?_,?_⟩
 ·rw [hm,hm];exact h7
 ·exact g2
 ·exact below_set (below_set (below_set (below_set (below_set (below_set (below_set (below_set (below_set (below_set h.b (Nat.le_refl _) 0 v0) (Nat.le_refl _) 1 v1) (Nat.le_refl _) 2 v2) (Nat.le_refl _) 3 v3) (Nat.le_refl _) 4 v4) (Nat.le_refl _) 5 v5) (Nat.le_refl _) 6 v6) (Nat.le_refl _) 7 v7) (Nat.le_succ _) 0 a) (Nat.le_succ _) 1 b
theorem wrote_cells {wq:World} {B:Nat} {v0 v1 v2 v3 v4 v5 v6 v7 a b:Value} (h:wq.heap[B]?=some (.cells #[v0,v1,v2,v3,v4,v5,v6,v7] 27 (0,0))) (k:wq.heap[B+1]?=some (.cells #[a,b] 32 (0,0))):wq.cell? ⟨B,0,none⟩=some v0/\wq.cell? ⟨B,1,none⟩=some v1/\wq.cell? ⟨B,2,none⟩=some v2/\wq.cell? ⟨B,3,none⟩=some v3/\wq.cell? ⟨B,4,none⟩=some v4/\wq.cell? ⟨B,5,none⟩=some v5/\wq.cell? ⟨B,6,none⟩=some v6/\wq.cell? ⟨B,7,none⟩=some v7/\wq.cell? ⟨B+1,0,none⟩=some a/\wq.cell? ⟨B+1,1,none⟩=some b:=by
 refine ⟨?_,?_,?_,?_,?_,?_,?_,?_,?_,?_⟩
 all_goals
  simp only [World.cell?,h,k];rfl
theorem resolve_no {w:World} {ao:Option Addr} {l:List Rz} {cap c1 c2:Nat} (h:IsRz w ao l) (hl:l.length<=2932031007317) (hc:chk l=(c1,c2)) (h0:c1 ≠ 0):
  Calls Tryz.prog 28 #[.slice ao l.length cap] w fun e w'=>e=.returned (.tuple #[.agg #[.string ⟨#[]⟩,pz,pz,pz,pz,pz,pz,I 0],.agg #[I (c1:Int),I (c2:Int)]])/\Below w.heap.size w w':=by
 have hb1:Below w.heap.size w ((w.alloc (.cells #[.string ⟨#[]⟩,pz,pz,pz,pz,pz,pz,I 0] 27)).alloc (.cells #[I 0,I 0] 32)):=(bAl w _).alloc (by simp) _
 have HR:Hid (Rsl w ((w.alloc (.cells #[.string ⟨#[]⟩,pz,pz,pz,pz,pz,pz,I 0] 27)).alloc (.cells #[I 0,I 0] 32))):=⟨by rw [alloc_old _ _ _ (by simp)];exact alloc_at _ _ _ rfl,alloc_at _ _ _ (by simp),hb1⟩
 have HC:=hdn <| check_any ao l cap _ (h.below hb1) hl;rw [hc] at HC;dsimp only at HC;have hc0:((c1:Int) != 0)=true:=by simp;omega
 clear hc h0;go_enter Tryz.func28,Tryz.ntmps28;go_wp2_with fail;refine Calls.mono HC.out ?_;rintro e w1 ⟨rfl,hB1⟩;have HR1:=hdn <| (HR.out.below hB1);have hR2:=HR1.out.below (bAl w1 (.cells #[I (c1:Int),I (c2:Int)] 32));have HR2:=hdn <| hR2;obtain ⟨r0,r1,r2,r3,r4,r5,r6,r7⟩:=hR2.cells;obtain ⟨s0,s1,s2,s3⟩:=hR2.fault;have z0:=hR2.frozen 0;have z1:=hR2.frozen 1;have z2:=hR2.frozen 2;have z3:=hR2.frozen 3;have z4:=hR2.frozen 4;have z5:=hR2.frozen 5;have z6:=hR2.frozen 6;have z7:=hR2.frozen 7;have hnew:=heap_alloc_new w1 (.cells #[I (c1:Int),I (c2:Int)] 32);have t0:(w1.alloc (.cells #[I (c1:Int),I (c2:Int)] 32)).cell? ⟨w1.heap.size,0,none⟩=some (I (c1:Int)):=by rw [World.cell?,hnew];rfl
 have t1:(w1.alloc (.cells #[I (c1:Int),I (c2:Int)] 32)).cell? ⟨w1.heap.size,1,none⟩=some (I (c2:Int)):=by rw [World.cell?,hnew];rfl
 have hlt:=(Array.getElem?_eq_some_iff.1 HR1.out.f).1;have n1:w.heap.size ≠ w1.heap.size:=by omega
 have n2:w1.heap.size ≠ w.heap.size:=by omega
 have n3:w.heap.size+1 ≠ w1.heap.size:=by omega
 have n4:w1.heap.size ≠ w.heap.size+1:=by omega
 clear hR2 hb1 hB1 HR HC hlt hnew HR1;go_wp2_with fail;generalize w1.alloc (.cells #[I (c1:Int),I (c2:Int)] 32)=w2 at *;generalize w1.heap.size=fb at *;go_region
 all_goals
  obtain ⟨x1,x2,x3⟩:=HR2.out.wrote (.string ⟨#[]⟩) pz pz pz pz pz pz (I 0) (I (c1:Int)) (I (c2:Int));have HX:Hid (Below w.heap.size w _):=x3;obtain ⟨y0,y1,y2,y3,y4,y5,y6,y7,y8,y9⟩:=wrote_cells x1 x2;clear x1 x2 x3 r0 r1 r2 r3 r4 r5 r6 r7 s0 s1 s2 s3 z0 z1 z2 z3 z4 z5 z6 z7 t0 t1;generalize ((((((((((w2.setCell ⟨w.heap.size,0,none⟩ (.string ⟨#[]⟩)).setCell ⟨w.heap.size,1,none⟩ pz).setCell ⟨w.heap.size,2,none⟩ pz).setCell ⟨w.heap.size,3,none⟩ pz).setCell ⟨w.heap.size,4,none⟩ pz).setCell ⟨w.heap.size,5,none⟩ pz).setCell ⟨w.heap.size,6,none⟩ pz).setCell ⟨w.heap.size,7,none⟩ (I 0)).setCell ⟨w.heap.size+1,0,none⟩ (I (c1:Int))).setCell ⟨w.heap.size+1,1,none⟩ (I (c2:Int)))=w9 at *;have u0:w9.drew.cell? ⟨w.heap.size,0,none⟩=some (.string ⟨#[]⟩):=y0;go_wp2_with fail;exact bodyPost_ret (v:=.tuple #[.agg #[.string ⟨#[]⟩,pz,pz,pz,pz,pz,pz,I 0],.agg #[I (c1:Int),I (c2:Int)]]) (by simp [results,Tryz.results28,go_sem,y0,y1,y2,y3,y4,y5,y6,y7,y8,y9]) rfl ⟨rfl,HX.out.drew⟩
end Go.Proofs.YtbledbjcghaanaaGreat.Nm
namespace Go.Proofs.YtbledbjcghaanaaGreat.Nm
open Go.RowKit Go.Maps Sp Lx Gr
structure Sg (w wx:World) (l:List Rz) (nm:ByteArray) (pb rb rc kb mb d q h n:Nat):Prop where
 r:Rsl w wx
 p:wx.heap[pb]?=some (.cells #[.string nm,.slice (pZ rb) l.length rc,pz,pz,pz,pz,pz,I 0] 27 (0,0))
 rw:Rw wx rb l
 k:IsMp kmap wx kb (fun _=>none) 0
 m:IsMp bmap wx mb (fun _=>none) 0
 l1:w.heap.size+1 < pb/\w.heap.size+1 < rb/\pb < kb/\rb < kb/\kb < mb
 d1:1<=n->wx.heap[d]?=some (.cells #[.pointer (pZ pb)] 96 (0,0))/\wx.heap[d+1]?=some (.cells #[.map (some kb)] 91 (0,0))/\IsMp cmap wx (d+2) (fun _=>none) 0/\wx.heap[d+3]?=some (.cells #[.map (some (d+2))] 120 (0,0))/\mb < d
 q1:2<=n->wx.heap[q]?=some (.cells #[.slice (pZ rb) l.length rc] 22 (0,0))/\wx.heap[q+1]?=some (.cells #[.map (some kb)] 91 (0,0))/\d+3 < q
 h1:3<=n->wx.heap[h]?=some (.cells #[.slice (pZ rb) l.length rc] 22 (0,0))/\wx.heap[h+1]?=some (.cells #[.map (some mb)] 92 (0,0))/\q+1 < h
section
variable {w wx w':World} {l:List Rz} {nm:ByteArray} {pb rb rc kb mb d q h n:Nat}
theorem blk_lt {u:World} {k:Nat} {x:Obj} (hk:u.heap[k]?=some x):k < u.heap.size:=(Array.getElem?_eq_some_iff.1 hk).1
theorem Sg.below (s:Sg w wx l nm pb rb rc kb mb d q h n) (hb:Below wx.heap.size wx w'):Sg w w' l nm pb rb rc kb mb d q h n:=by
 have hl:∀ {k:Nat} {x:Obj},wx.heap[k]?=some x->w'.heap[k]?=some x:=fun hk=>(hb.block _ (blk_lt hk)).trans hk;refine ⟨s.r.below hb,hl s.p,s.rw.same (hb.block _ s.rw.lt),s.k.same (hb.block _ s.k.lt),s.m.same (hb.block _ s.m.lt),s.l1,fun hn=>?_,fun hn=>?_,fun hn=>?_⟩
 ·obtain ⟨a,b,c,e,f⟩:=s.d1 hn;exact ⟨hl a,hl b,c.same (hb.block _ c.lt),hl e,f⟩
 ·obtain ⟨a,b,c⟩:=s.q1 hn;exact ⟨hl a,hl b,c⟩
 ·obtain ⟨a,b,c⟩:=s.h1 hn;exact ⟨hl a,hl b,c⟩
theorem Sg.cell (s:Sg w wx l nm pb rb rc kb mb d q h n):wx.cell? ⟨pb,1,none⟩=some (.slice (pZ rb) l.length rc):=by
 simp only [World.cell?,s.p];rfl
theorem Sg.dstep (s:Sg w wx l nm pb rb rc kb mb d q h 0) (hb:Below wx.heap.size wx w') (a:w'.heap[wx.heap.size]?=some (.cells #[.pointer (pZ pb)] 96 (0,0))) (b:w'.heap[wx.heap.size+1]?=some (.cells #[.map (some kb)] 91 (0,0))) (c:IsMp cmap w' (wx.heap.size+2) (fun _=>none) 0) (e:w'.heap[wx.heap.size+3]?=some (.cells #[.map (some (wx.heap.size+2))] 120 (0,0))):Sg w w' l nm pb rb rc kb mb wx.heap.size q h 1:=by
 have t:=s.below hb;exact ⟨t.r,t.p,t.rw,t.k,t.m,t.l1,fun _=>⟨a,b,c,e,s.m.lt⟩,fun hn=>by omega,fun hn=>by omega⟩
theorem Sg.qstep (s:Sg w wx l nm pb rb rc kb mb d q h 1) (hb:Below wx.heap.size wx w') (a:w'.heap[wx.heap.size]?=some (.cells #[.slice (pZ rb) l.length rc] 22 (0,0))) (b:w'.heap[wx.heap.size+1]?=some (.cells #[.map (some kb)] 91 (0,0))):Sg w w' l nm pb rb rc kb mb d wx.heap.size h 2:=by
 have t:=s.below hb;exact ⟨t.r,t.p,t.rw,t.k,t.m,t.l1,fun _=>t.d1 (by decide),fun _=>⟨a,b,blk_lt (s.d1 (by decide)).2.2.2.1⟩,fun hn=>by omega⟩
theorem Sg.hstep (s:Sg w wx l nm pb rb rc kb mb d q h 2) (hb:Below wx.heap.size wx w') (a:w'.heap[wx.heap.size]?=some (.cells #[.slice (pZ rb) l.length rc] 22 (0,0))) (b:w'.heap[wx.heap.size+1]?=some (.cells #[.map (some mb)] 92 (0,0))):Sg w w' l nm pb rb rc kb mb d q wx.heap.size 3:=by
 have t:=s.below hb;exact ⟨t.r,t.p,t.rw,t.k,t.m,t.l1,fun _=>t.d1 (by decide),fun _=>t.q1 (by decide),fun _=>⟨a,b,blk_lt (s.q1 (by decide)).2.1⟩⟩
def lay (nm:ByteArray) (T:TypeId) (pb rb rc kb mb d q h ab base:Nat):Lay:=⟨d,d+1,d+3,pb,base,rb,kb,d+2,rc,q,q+1,h,h+1,mb,ab,T,nm⟩
theorem Sg.mem {T:TypeId} {ab base:Nat} (s:Sg w wx l nm pb rb rc kb mb d q h 3) (ha:wx.heap[ab]?=some (.cells #[.func (.func (askF 0)) #[] #[ptr0 d,ptr0 (d+1),ptr0 (d+3)],.func (.func (askF 1)) #[] #[ptr0 q,ptr0 (q+1)],.func (.func (askF 2)) #[] #[ptr0 h,ptr0 (h+1)]] T (0,0))) (hab:h+1 < ab) (hab2:ab+1 < base) (hbase:base<=wx.heap.size):
  (lay nm T pb rb rc kb mb d q h ab base).Ok/\Mem wx (lay nm T pb rb rc kb mb d q h ab base) (start l) pz pz pz pz (fun _=>none) 0:=by
 obtain ⟨a1,a2,a3,a4,a5⟩:=s.d1 (by decide)
 obtain ⟨b1,b2,b3⟩:=s.q1 (by decide)
 obtain ⟨c1,c2,c3⟩:=s.h1 (by decide)
 obtain ⟨l1,l2,l3,l4,l5⟩:=s.l1;obtain ⟨cs,hrc,_⟩:=s.rw;have hne:pb ≠ rb:=ne_types s.p hrc (by decide)
 refine ⟨⟨?_,?_,?_,?_⟩,mem_start s.p hbase (by show pb < base;omega) s.rw a1 a2 a4 s.k a3 ⟨b1,b2,c1,c2,s.m,ha⟩⟩
 ·simp only [lay,Lay.box,List.mem_cons,List.not_mem_nil,or_false];intro k hk;omega
 ·simp only [lay,Lay.own,List.mem_cons,List.not_mem_nil,or_false];intro k hk;omega
 ·simp only [lay,Lay.box,Lay.own,List.mem_cons,List.not_mem_nil,or_false,not_or];intro k hk;omega
 ·simp only [lay,Lay.own,List.nodup_cons,List.mem_cons,List.not_mem_nil,or_false,not_or,List.nodup_nil,and_true,not_false_eq_true];omega
end
def Out (w wx:World) (l:List Rz) (nm:ByteArray) (pb rb rc mb fb:Nat) (U:Except (Nat × Nat) Rs):Prop:=Rsl w wx/\w.heap.size+1 < fb/\match U with
 | .error ci=>wx.heap[fb]?=some (.cells #[I (ci.1:Int),I (ci.2:Int)] 32 (0,0))/\0 < ci.1
 | .ok s=>wx.heap[fb]?=some (.cells #[I 0,I 0] 32 (0,0))/\w.heap.size+1 < pb/\w.heap.size+1 < rb/\Good l (3 * l.length) s/\Rw wx rb s.rows/\IsMp bmap wx mb (ef s.ev) s.ev.length /\
  ∃ base qv vv tv uv,w.heap.size+2<=base/\Pol wx pb base nm (.slice (pZ rb) s.rows.length rc) pz (I 0) qv vv tv uv s.qs s.vs s.ts s.us
theorem out_put {w wI wx:World} {l:List Rz} {nm:ByteArray} {T:TypeId} {pb rb rc kb mb d q h ab fb:Nat} {U:Except (Nat × Nat) Rs} {e:Ending} (s:Sg w wI l nm pb rb rc kb mb d q h 3)
  (hF:Fb (lay nm T pb rb rc kb mb d q h ab (wI.heap.size+1)).own wI.heap.size wI wx) (hfb:wx.heap[fb]?=some (.cells #[I 0,I 0] 32 (0,0))) (hf2:w.heap.size+1 < fb)
  (hU:Fin (lay nm T pb rb rc kb mb d q h ab (wI.heap.size+1)) l U e wx):
  ∃ c i:Nat,e=.returned (.agg #[I (c:Int),I (i:Int)])/\wx.cell? ⟨pb,1,none⟩=some (.slice (pZ rb) l.length rc)/\Out w ((wx.setCell ⟨fb,0,none⟩ (I (c:Int))).setCell ⟨fb,1,none⟩ (I (i:Int))) l nm pb rb rc mb fb U:=by
 obtain ⟨l1,l2,l3,l4,l5⟩:=s.l1;obtain ⟨_,_,_,_,a5⟩:=s.d1 (by decide)
 obtain ⟨_,_,b3⟩:=s.q1 (by decide)
 obtain ⟨_,_,c3⟩:=s.h1 (by decide)
 have hgt:∀ k ∈ (lay nm T pb rb rc kb mb d q h ab (wI.heap.size+1)).own,w.heap.size+2<=k:=by
  simp only [lay,Lay.own,List.mem_cons,List.not_mem_nil,or_false];intro k hk;omega
 have hsz:w.heap.size+2<=wI.heap.size:=blk_lt s.r.f;have hbl:Below (w.heap.size+2) wI wx:=fb_below hF hsz hgt;have hR:Rsl w wx:=⟨(hbl.block _ (by omega)).trans s.r.p,(hbl.block _ (by omega)).trans s.r.f,s.r.b.trans (hbl.mono (by omega))⟩
 have hset:∀ (x y:Value) k,k ≠ fb->((wx.setCell ⟨fb,0,none⟩ x).setCell ⟨fb,1,none⟩ y).heap[k]?=wx.heap[k]?:=fun x y k hk=>by
  rw [Below.heap_setCell _ _ y k (fun e=>hk e),Below.heap_setCell _ _ x k (fun e=>hk e)]
 have hfx:∀ x y:Value,((wx.setCell ⟨fb,0,none⟩ x).setCell ⟨fb,1,none⟩ y).heap[fb]?=some (.cells #[x,y] 32 (0,0)):=fun x y=>set_at (set_at hfb x (cs':=#[x,I 0]) (i:=0) rfl) y (cs':=#[x,y]) (i:=1) rfl;have hRx:∀ x y:Value,Rsl w ((wx.setCell ⟨fb,0,none⟩ x).setCell ⟨fb,1,none⟩ y):=fun x y=>⟨(hset x y _ (by omega)).trans hR.p,(hset x y _ (by omega)).trans hR.f,below_set (below_set hR.b (by omega) 0 x) (by omega) 1 y⟩
 cases U with
 | error ci=>exact ⟨ci.1,ci.2,hU.1,hU.2.2,hRx _ _,hf2,hfx _ _,hU.2.1⟩
 | ok t=>
  obtain ⟨he,⟨qv,vv,tv,uv,c,nc,hM⟩,hG⟩:=hU;have hP:=hM.d.p;have hcell:wx.cell? ⟨pb,1,none⟩=some (.slice (pZ rb) l.length rc):=by
   have:=hM.d.p.cells.1;rw [like_len hG.like] at this;exact this
  have hRw:=hM.d.r;obtain ⟨cs,hrc,_⟩:=hM.d.r;have hne1:pb ≠ fb:=ne_types hP.blk hfb (by decide)
  have hne2:rb ≠ fb:=ne_types hrc hfb (by decide)
  have hne3:mb ≠ fb:=Ne.symm (hM.r.e.ne_cells hfb);have hw:∀ {S:TypeId} {sz n:Nat} {v':Value} {xs:List Value} (x y:Value),wx.ownsRow (wI.heap.size+1) S sz v' n xs->S ≠ 32->((wx.setCell ⟨fb,0,none⟩ x).setCell ⟨fb,1,none⟩ y).ownsRow (wI.heap.size+1) S sz v' n xs:=fun x y h1 hS=>own_keepB h1 (fun k hk=>hset x y k (fun e=>by
   subst e;rcases h1.2 with ⟨e1,_⟩ | ⟨g,cap,cur,e1,_,h4,_⟩
   ·rw [e1] at hk;cases hk
   ·rw [e1] at hk;simp only [Value.ownBlock,Option.some.injEq] at hk;subst hk;rw [hfb] at h4;cases h4;exact hS rfl))
  refine ⟨0,0,he,hcell,hRx _ _,hf2,hfx _ _,by omega,by omega,hG,hRw.same (hset _ _ _ hne2),hM.r.e.same (hset _ _ _ hne3),wI.heap.size+1,qv,vv,tv,uv,by omega,?_⟩
  exact ⟨(hset _ _ _ hne1).trans hP.blk,hw _ _ hP.oq (by decide),hw _ _ hP.ov (by decide),hw _ _ hP.ot (by decide),hw _ _ hP.ou (by decide),hP.ne,hP.lt,by have:=hP.sz;simpa [World.setCell,lay] using this⟩
theorem out_new {w wI wx:World} {l:List Rz} {nm:ByteArray} {T:TypeId} {pb rb rc kb mb d q h ab:Nat} {U:Except (Nat × Nat) Rs} {e:Ending} (s:Sg w wI l nm pb rb rc kb mb d q h 3)
  (hF:Fb (lay nm T pb rb rc kb mb d q h ab (wI.heap.size+1)).own wI.heap.size wI wx)
  (hU:Fin (lay nm T pb rb rc kb mb d q h ab (wI.heap.size+1)) l U e wx):
  ∃ c i:Nat,e=.returned (.agg #[I (c:Int),I (i:Int)])/\wx.cell? ⟨pb,1,none⟩=some (.slice (pZ rb) l.length rc)/\Out w (wx.alloc (.cells #[I (c:Int),I (i:Int)] 32)) l nm pb rb rc mb wx.heap.size U:=by
 obtain ⟨l1,l2,l3,l4,l5⟩:=s.l1;obtain ⟨_,_,_,_,a5⟩:=s.d1 (by decide)
 have hgt:∀ k ∈ (lay nm T pb rb rc kb mb d q h ab (wI.heap.size+1)).own,w.heap.size+2<=k:=by
  simp only [lay,Lay.own,List.mem_cons,List.not_mem_nil,or_false];intro k hk;omega
 have hsz:w.heap.size+2<=wI.heap.size:=blk_lt s.r.f;have hbl:Below (w.heap.size+2) wI wx:=fb_below hF hsz hgt;have hR:Rsl w wx:=⟨(hbl.block _ (by omega)).trans s.r.p,(hbl.block _ (by omega)).trans s.r.f,s.r.b.trans (hbl.mono (by omega))⟩
 have hb:∀ x y:Value,Below wx.heap.size wx (wx.alloc (.cells #[x,y] 32)):=fun x y=>bAl wx _;have hf2:w.heap.size+1 < wx.heap.size:=by have:=hF.size;omega
 cases U with
 | error ci=>exact ⟨ci.1,ci.2,hU.1,hU.2.2,hR.below (hb _ _),hf2,heap_alloc_new wx _,hU.2.1⟩
 | ok t=>
  obtain ⟨he,⟨qv,vv,tv,uv,c,nc,hM⟩,hG⟩:=hU;have hcell:wx.cell? ⟨pb,1,none⟩=some (.slice (pZ rb) l.length rc):=by
   have:=hM.d.p.cells.1;rw [like_len hG.like] at this;exact this
  have hM2:=hM.below (hb (I 0) (I 0));exact ⟨0,0,he,hcell,hR.below (hb _ _),hf2,heap_alloc_new wx _,by omega,by omega,hG,hM2.d.r,hM2.r.e,wI.heap.size+1,qv,vv,tv,uv,by omega,hM2.d.p⟩
theorem Sg.keep {w wI wx:World} {l:List Rz} {nm:ByteArray} {T:TypeId} {pb rb rc kb mb d q h ab fb:Nat} {x y:Value} (s:Sg w wI l nm pb rb rc kb mb d q h 3) (hF:Fb (lay nm T pb rb rc kb mb d q h ab (wI.heap.size+1)).own wI.heap.size wI wx) (hfb:wI.heap[fb]?=some (.cells #[x,y] 32 (0,0))):wx.heap[fb]?=some (.cells #[x,y] 32 (0,0)):=by
 obtain ⟨cs,hrc,_⟩:=s.rw;have n1:fb ≠ pb:=ne_types hfb s.p (by decide)
 have n2:fb ≠ rb:=ne_types hfb hrc (by decide)
 have n3:=s.k.ne_cells hfb;have n4:=s.m.ne_cells hfb;have n5:=(s.d1 (by decide)).2.2.1.ne_cells hfb
 refine (hF.block fb (blk_lt hfb) ?_).trans hfb;simp only [lay,Lay.own,List.mem_cons,List.not_mem_nil,or_false,not_or];exact ⟨n1,n2,n3,n5,n4⟩
end Go.Proofs.YtbledbjcghaanaaGreat.Nm
namespace Go.Proofs.YtbledbjcghaanaaGreat.Nm
open Go.RowKit Go.Maps Sp Lx Gr
theorem pol8 {wq:World} {B:Nat} {v0 v1 v2 v3 v4 v5 v6 v7:Value} (h:wq.heap[B]?=some (.cells #[v0,v1,v2,v3,v4,v5,v6,v7] 27 (0,0))):wq.cell? ⟨B,0,none⟩=some v0/\wq.cell? ⟨B,1,none⟩=some v1/\wq.cell? ⟨B,2,none⟩=some v2/\wq.cell? ⟨B,3,none⟩=some v3/\wq.cell? ⟨B,4,none⟩=some v4/\wq.cell? ⟨B,5,none⟩=some v5/\wq.cell? ⟨B,6,none⟩=some v6/\wq.cell? ⟨B,7,none⟩=some v7:=by
 refine ⟨?_,?_,?_,?_,?_,?_,?_,?_⟩
 all_goals
  simp only [World.cell?,h];rfl
theorem Rsl.kept {w wq:World} (_:Rsl w wq) (v0 v1 v2 v3 v4 v5 v6 v7 a b:Value) (k:Nat) (hk:w.heap.size+1 < k):((((((((((wq.setCell ⟨w.heap.size,0,none⟩ v0).setCell ⟨w.heap.size,1,none⟩ v1).setCell ⟨w.heap.size,2,none⟩ v2).setCell ⟨w.heap.size,3,none⟩ v3).setCell ⟨w.heap.size,4,none⟩ v4).setCell ⟨w.heap.size,5,none⟩ v5).setCell ⟨w.heap.size,6,none⟩ v6).setCell ⟨w.heap.size,7,none⟩ v7).setCell ⟨w.heap.size+1,0,none⟩ a).setCell ⟨w.heap.size+1,1,none⟩ b).heap[k]?=wq.heap[k]?:=by
 have hp:∀ (u:World) (i:Nat) (v:Value),(u.setCell ⟨w.heap.size,i,none⟩ v).heap[k]?=u.heap[k]?:=fun u i v=>Below.heap_setCell u _ v _ (fun e=>by have e2:k=w.heap.size:=e;omega)
 have hq:∀ (u:World) (i:Nat) (v:Value),(u.setCell ⟨w.heap.size+1,i,none⟩ v).heap[k]?=u.heap[k]?:=fun u i v=>Below.heap_setCell u _ v _ (fun e=>by have e2:k=w.heap.size+1:=e;omega)
 rw [hq,hq,hp,hp,hp,hp,hp,hp,hp,hp]
theorem own_base {w:World} {b b':Nat} {T:TypeId} {sz n:Nat} {v:Value} {xs:List Value} (h:w.ownsRow b T sz v n xs) (hb:b'<=b):w.ownsRow b' T sz v n xs:=by
 rcases h with ⟨h1,h2 | ⟨g,cap,cur,rfl,h3,h4⟩⟩
 ·exact ⟨h1,Or.inl h2⟩
 ·exact ⟨h1,Or.inr ⟨g,cap,cur,rfl,Nat.le_trans hb h3,h4⟩⟩
theorem ev_in {l:List Rz} {m:Nat} {s:Rs} (hB:Base l) (hg:Good l m s):∀ k,k < s.rows.length->(evt (rat s.rows k)).1 ≠ 0->k+1 < s.rows.length:=by
 intro k hk he;have hl:=like_len hg.like;have hk2:k < l.length:=by omega
 have hkd:=like_kind hg.like hk2;have h3:(rat l k).kind=7\/(rat l k).kind=8\/(rat l k).kind=9\/(rat l k).kind=10:=by
  rw [<-hkd.1];unfold evt at he
  split at he
  ·rename_i h1
   rcases h1 with h1 | h1
   ·exact Or.inr (Or.inl h1)
   ·exact Or.inr (Or.inr (Or.inl h1))
  ·split at he
   ·rename_i h1
    exact Or.inr (Or.inr (Or.inr h1))
   ·exact absurd rfl he
 have:=kid_in hB.tree hk2 (filled_kid (hB.fill k hk2) h3);omega
end Go.Proofs.YtbledbjcghaanaaGreat.Nm
