import Derived.Test.YtfgpbdieaflclaaGreatK11
namespace Go.Proofs.YtfgpbdieaflclaaGreat.Nm
open Go.RowKit Go.Maps Sp Lx Gr
structure Lay where
 b1:Nat
 b2:Nat
 b3:Nat
 pb:Nat
 base:Nat
 rb:Nat
 kb:Nat
 cb:Nat
 cap:Nat
 r1:Nat
 r2:Nat
 h1:Nat
 h2:Nat
 mb:Nat
 ab:Nat
 at_:TypeId
 nm:ByteArray
def Lay.box (o:Lay):List Nat:=[o.b1,o.b2,o.b3,o.r1,o.r2,o.h1,o.h2,o.ab]
def Lay.own (o:Lay):List Nat:=[o.pb,o.rb,o.kb,o.cb,o.mb]
structure Lay.Ok (o:Lay):Prop where
 lt1:∀ k ∈ o.box,k+1 < o.base
 lt2:∀ k ∈ o.own,k+1 < o.base
 bx:∀ k ∈ o.box,k ∉ o.own
 nd:o.own.Nodup
def kf (k:List (ByteArray × Nat × Nat × Nat)):ByteArray->Option Value:=fun s=>(lk k s).map fun e=>mv e.1 e.2.1 e.2.2
def ef (k:List ((Nat × Nat) × Nat)):Nat × Nat->Option Value:=fun s=>(lk k s).map fun e:Nat=>.int .i64 (e:Int)
theorem kf_cons (k:List (ByteArray × Nat × Nat × Nat)) (nm:ByteArray) (z c e:Nat):upd (kf k) nm (some (mv z c e))=kf ((nm,z,c,e) :: k):=by
 funext s
 unfold upd kf
 simp only [lk]
 split<;>rfl
theorem ef_cons (k:List ((Nat × Nat) × Nat)) (x:Nat × Nat) (e:Nat):upd (ef k) x (some (.int .i64 (e:Int)))=ef ((x,e) :: k):=by
 funext s
 unfold upd ef
 simp only [lk]
 split<;>rfl
def askF (j:Nat):Nat:=if j=0 then 67 else if j=1 then 72 else 74
def ptr0 (b:Nat):Value:=.pointer (some ⟨b,0,none⟩)
def askC (o:Lay) (j:Nat):Array Value:=if j=0 then #[ptr0 o.b1,ptr0 o.b2,ptr0 o.b3] else if j=1 then #[ptr0 o.r1,ptr0 o.r2] else #[ptr0 o.h1,ptr0 o.h2]
structure Rest (W:World) (o:Lay) (n:Nat) (ev:List ((Nat × Nat) × Nat)):Prop where
 x1:W.heap[o.r1]?=some (.cells #[.slice (some ⟨o.rb,0,none⟩) n o.cap] 22 (0,0))
 x2:W.heap[o.r2]?=some (.cells #[.map (some o.kb)] 86 (0,0))
 x3:W.heap[o.h1]?=some (.cells #[.slice (some ⟨o.rb,0,none⟩) n o.cap] 22 (0,0))
 x4:W.heap[o.h2]?=some (.cells #[.map (some o.mb)] 87 (0,0))
 e:IsMp bmap W o.mb (ef ev) ev.length
 a:W.heap[o.ab]?=some (.cells #[.func (.func (askF 0)) #[] (askC o 0),.func (.func (askF 1)) #[] (askC o 1),.func (.func (askF 2)) #[] (askC o 2)] o.at_ (0,0))
structure Mem (W:World) (o:Lay) (s:Rs) (qv vv tv uv:Value) (c:Nat->Option Value) (nc:Nat):Prop where
 d:Dec W o.b1 o.b2 o.b3 o.pb o.base o.rb o.kb o.cb o.cap o.nm (.slice none 0 0) (.int .i64 0) qv vv tv uv s.qs s.vs s.ts s.us s.rows (kf s.known) s.known.length c nc
 cz:∀ z,(c z).getD (.int .i64 0)=.int .i64 (s.cnt z:Nat)
 nl:nc<=s.known.length
 r:Rest W o s.rows.length s.ev
section
variable {W W':World} {o:Lay} {n:Nat} {ev:List ((Nat × Nat) × Nat)}
theorem Rest.keep (h:Rest W o n ev) (hb:∀ k ∈ o.box,W'.heap[k]?=W.heap[k]?) (hm:W'.heap[o.mb]?=W.heap[o.mb]?):Rest W' o n ev:=
 ⟨(hb _ (by simp [Lay.box])).trans h.x1,(hb _ (by simp [Lay.box])).trans h.x2,(hb _ (by simp [Lay.box])).trans h.x3,(hb _ (by simp [Lay.box])).trans h.x4,h.e.same hm,(hb _ (by simp [Lay.box])).trans h.a⟩
theorem Lay.Ok.keep (ho:o.Ok) {F:List Nat} (hF:∀ k ∈ F,k ∈ o.own) (h:Fb F o.base W W'):∀ k ∈ o.box,W'.heap[k]?=W.heap[k]?:=fun k hk=>h.block k (by have:=ho.lt1 k hk;omega) (fun hm=>ho.bx k hk (hF k hm))
theorem Fb.wide {F F':List Nat} {n:Nat} (h:Fb F n W W') (hF:∀ k ∈ F,k ∈ F'):Fb F' n W W':=⟨h.os,h.tape,h.output,h.size,fun k hk hn=>h.block k hk (fun hm=>hn (hF k hm))⟩
end
section
variable {W W':World} {o:Lay} {s:Rs} {qv vv tv uv:Value} {c:Nat->Option Value} {nc:Nat}
theorem Mem.below (h:Mem W o s qv vv tv uv c nc) (hb:Below W.heap.size W W'):Mem W' o s qv vv tv uv c nc:=by
 have hl:∀ {k:Nat} {x:Obj},W.heap[k]?=some x->W'.heap[k]?=W.heap[k]?:=fun hk=>hb.block _ (Array.getElem?_eq_some_iff.1 hk).1
 refine ⟨h.d.below hb,h.cz,h.nl,⟨(hl h.r.x1).trans h.r.x1,(hl h.r.x2).trans h.r.x2,(hl h.r.x3).trans h.r.x3,(hl h.r.x4).trans h.r.x4,h.r.e.same (hb.block _ h.r.e.lt),(hl h.r.a).trans h.r.a⟩⟩
end
theorem mst_le (z:Nat):mst z<=64:=by
 unfold mst
 repeat' split
 all_goals omega
theorem enlist_dec {u:World} {o:Lay} {s:Rs} {i:Nat} {qv vv tv uv:Value} (hi:i < s.rows.length) (hl:s.rows.length<=2932031007317) (hd:decl (rat s.rows i).kind ≠ 0) (hq:s.qs.length<=16) (hv:s.vs.length<=16) (ht:s.ts.length<=4) (hu:s.us.length<=64)
  (h:Pol u o.pb o.base o.nm (.slice (some ⟨o.rb,0,none⟩) (numb s.rows i (s.cnt (decl (rat s.rows i).kind))).length o.cap) (.slice none 0 0) (.int .i64 0) qv vv tv uv s.qs s.vs s.ts s.us) (hr:Rw u o.rb (numb s.rows i (s.cnt (decl (rat s.rows i).kind)))):
  Calls Tryz.prog 71 #[.pointer (some ⟨o.pb,0,none⟩),.int .i64 (i:Int)] u fun e w'=>e=.returned (.tuple #[]) /\
   (∃ qv' vv' tv' uv',Pol w' o.pb o.base o.nm (.slice (some ⟨o.rb,0,none⟩) (s.dec i).rows.length o.cap) (.slice none 0 0) (.int .i64 0) qv' vv' tv' uv' (s.dec i).qs (s.dec i).vs (s.dec i).ts (s.dec i).us)/\Fb [o.pb] o.base u w':=by
 have hx:(numb s.rows i (s.cnt (decl (rat s.rows i).kind)))[i]?=some { rat s.rows i with n:=(s.cnt (decl (rat s.rows i).kind):Int) } := by simp [numb,hi]
 have hl2:(numb s.rows i (s.cnt (decl (rat s.rows i).kind))).length<=2932031007317:=by rw [numb_len];exact hl
 rcases decl_cases (rat s.rows i).kind with ⟨e,ed⟩ | ⟨e,ed⟩ | ⟨e,ed⟩ | ⟨e,ed⟩ | ⟨e,ed⟩ | ⟨_,_,_,_,_,ed⟩
 ·refine Calls.mono (enlist_queue h hr hx hl2 e (by omega)) ?_
  rintro r w' ⟨rfl,q,h1,h2⟩
  exact ⟨rfl,⟨q,vv,tv,uv,by rw [show (s.dec i).qs=s.qs++[((rat s.rows i).name,false)] from if_pos e,show (s.dec i).vs=s.vs from if_neg (by omega),show (s.dec i).ts=s.ts from if_neg (by omega),show (s.dec i).us=s.us from if_neg (by omega)];exact h1⟩,h2⟩
 ·refine Calls.mono (enlist_ghost h hr hx hl2 e (by omega)) ?_
  rintro r w' ⟨rfl,q,h1,h2⟩
  exact ⟨rfl,⟨q,vv,tv,uv,by rw [show (s.dec i).qs=s.qs++[((rat s.rows i).name,true)] from (if_neg (by omega)).trans (if_pos e),show (s.dec i).vs=s.vs from if_neg (by omega),show (s.dec i).ts=s.ts from if_neg (by omega),show (s.dec i).us=s.us from if_neg (by omega)];exact h1⟩,h2⟩
 ·refine Calls.mono (enlist_var h hr hx hl2 e (by omega)) ?_
  rintro r w' ⟨rfl,q,h1,h2⟩
  exact ⟨rfl,⟨qv,q,tv,uv,by rw [show (s.dec i).qs=s.qs from (if_neg (by omega)).trans (if_neg (by omega)),show (s.dec i).vs=s.vs++[(rat s.rows i).name] from if_pos e,show (s.dec i).ts=s.ts from if_neg (by omega),show (s.dec i).us=s.us from if_neg (by omega)];exact h1⟩,h2⟩
 ·refine Calls.mono (enlist_tag h hr hx hl2 e (by omega)) ?_
  rintro r w' ⟨rfl,q,h1,h2⟩
  exact ⟨rfl,⟨qv,vv,q,uv,by rw [show (s.dec i).qs=s.qs from (if_neg (by omega)).trans (if_neg (by omega)),show (s.dec i).vs=s.vs from if_neg (by omega),show (s.dec i).ts=s.ts++[(rat s.rows i).name] from if_pos e,show (s.dec i).us=s.us from if_neg (by omega)];exact h1⟩,h2⟩
 ·refine Calls.mono (enlist_rule h hr hx hl2 e (by omega)) ?_
  rintro r w' ⟨rfl,q,h1,h2⟩
  exact ⟨rfl,⟨qv,vv,tv,q,by rw [show (s.dec i).qs=s.qs from (if_neg (by omega)).trans (if_neg (by omega)),show (s.dec i).vs=s.vs from if_neg (by omega),show (s.dec i).ts=s.ts from if_neg (by omega),show (s.dec i).us=s.us++[i+1] from if_pos e];exact h1⟩,h2⟩
 ·exact absurd ed hd
def Leaves (o:Lay) (l0:List Rz) (m:Nat) (W:World) (r:Except Nat Rs) (e:Ending) (w':World):Prop:=
 Fb o.own o.base W w'/\match r with
  | .error c=>0 < c/\c<=1000/\e=.returned (.int .i64 (c:Int))/\w'.heap[o.pb]?=W.heap[o.pb]?
  | .ok s'=>e=.returned (.int .i64 0)/\∃ qv vv tv uv c nc,Mem w' o s' qv vv tv uv c nc/\Good l0 m s'
theorem below_fb {W w':World} {F:List Nat} {n:Nat} (h:Below W.heap.size W w') (hn:n<=W.heap.size):Fb F n W w':=Fb.of_below (h.mono hn)
theorem step_D {W:World} {o:Lay} {l0:List Rz} {s:Rs} {m i:Nat} {qv vv tv uv:Value} {c:Nat->Option Value} {nc:Nat} (hB:Base l0) (hl:l0.length<=2932031007317) (ho:o.Ok) (h:Mem W o s qv vv tv uv c nc) (hg:Good l0 m s) (hi:i < l0.length):
  Calls Tryz.prog 67 #[.int .i64 (i:Int),ptr0 o.b1,ptr0 o.b2,ptr0 o.b3] W (Leaves o l0 m W (askD i s)):=by
 have hlen:=like_len hg.like
 have hx:s.rows[i]?=some (rat s.rows i):=some_rat (by omega)
 have hk:=like_kind hg.like hi
 have hs:(rat s.rows i).name.size<=maxLen:=by
  rw [hk.2.1]
  have:=filled_name (hB.fill i hi)
  unfold maxLen
  omega
 have hl2:s.rows.length<=2932031007317:=by omega
 by_cases h0:decl (rat s.rows i).kind=0
 ·have hA:askD i s=.ok s:=by unfold askD;rw [if_pos h0]
  refine Calls.mono (declaring_no h.d hx hl2 hs (fun v hv=>?_) (Or.inl h0)) ?_
  ·unfold kf at hv
   obtain ⟨e,_,rfl⟩:=Option.map_eq_some_iff.1 hv
   exact ⟨_,_,_,rfl⟩
  ·rintro e w' ⟨rfl,hb⟩
   rw [hA]
   exact ⟨below_fb hb h.d.p.sz,by rw [if_pos h0],qv,vv,tv,uv,c,nc,h.below hb,hg⟩
 by_cases h1:(lk s.known (rat s.rows i).name).isSome=true
 ·have hA:askD i s=.error 31:=by unfold askD;rw [if_neg h0,if_pos h1]
  refine Calls.mono (declaring_no h.d hx hl2 hs (fun v hv=>?_) (Or.inr ?_)) ?_
  ·unfold kf at hv
   obtain ⟨e,_,rfl⟩:=Option.map_eq_some_iff.1 hv
   exact ⟨_,_,_,rfl⟩
  ·unfold kf
   rw [Option.isSome_map]
   exact h1
  ·rintro e w' ⟨rfl,hb⟩
   rw [hA]
   exact ⟨below_fb hb h.d.p.sz,by decide,by decide,by rw [if_neg h0];rfl,hb.block _ (Array.getElem?_eq_some_iff.1 h.d.p.blk).1⟩
 have hf:kf s.known (rat s.rows i).name=none:=by
  unfold kf
  cases hq:lk s.known (rat s.rows i).name with
  | none=>rfl
  | some v=>rw [hq] at h1;exact absurd rfl h1
 have hc:=h.cz (decl (rat s.rows i).kind)
 by_cases h2:s.cnt (decl (rat s.rows i).kind)=mst (decl (rat s.rows i).kind)
 ·have hA:askD i s=.error 3:=by unfold askD;rw [if_neg h0,if_neg h1,if_pos h2]
  rw [h2] at hc
  refine Calls.mono (declaring_many h.d hx hl2 hs hf rfl h0 hc) ?_
  rintro e w' ⟨rfl,hb⟩
  rw [hA]
  exact ⟨below_fb hb h.d.p.sz,by decide,by decide,rfl,hb.block _ (Array.getElem?_eq_some_iff.1 h.d.p.blk).1⟩
 have hA:askD i s=.ok (s.dec i):=by unfold askD;rw [if_neg h0,if_neg h1,if_neg h2]
 have hnd:=ho.nd
 have h2own:∀ k ∈ o.own,k < o.base:=fun k hk=>by have:=ho.lt2 k hk;omega
 simp only [Lay.own,List.nodup_cons,List.mem_cons,List.not_mem_nil,or_false,not_or,List.nodup_nil,and_true,not_false_eq_true] at hnd
 have hkl:=hg.kl
 have hq:=hg.q
 have hv:=hg.v
 have ht:=hg.t
 have hu:=hg.u
 have hG2:=good_D hB hi hg hA
 refine Calls.mono (declaring_new (nc':=if (c (decl (rat s.rows i).kind)).isSome then nc else nc+1) (P2:=fun w'=>∃ qv' vv' tv' uv',Pol w' o.pb o.base o.nm (.slice (some ⟨o.rb,0,none⟩) (s.dec i).rows.length o.cap) (.slice none 0 0) (.int .i64 0) qv' vv' tv' uv' (s.dec i).qs (s.dec i).vs (s.dec i).ts (s.dec i).us) h.d hx hl2 hs hf rfl h0 hc (by have:=hg.cnt_le (decl (rat s.rows i).kind);omega) (mst_le _)
  (h2own _ (by simp [Lay.own])) (h2own _ (by simp [Lay.own])) (h2own _ (by simp [Lay.own])) (by omega) (like_tree ((numb_clr s.rows i (s.cnt (decl (rat s.rows i).kind))).trans hg.like) hB.tree) (by omega) (by have:=h.nl;omega) rfl
  (fun u hp hr=>enlist_dec (by omega) hl2 h0 hq hv ht hu hp hr)) ?_
 rintro e w' ⟨rfl,⟨qv',vv',tv',uv',hP⟩,u,hF1,hD,hF2⟩
 have hF:Fb o.own o.base W w':=(hF2.wide (F':=o.own) (by simp [Lay.own])).trans (hF1.wide (by simp [Lay.own]))
 have hbx:=ho.keep (fun _ hk=>hk) hF
 have hb1:=ho.keep (F:=[o.pb]) (by simp [Lay.own]) hF1
 have hblk:∀ k,k < o.base->k ≠ o.pb->w'.heap[k]?=u.heap[k]?:=fun k hk hn=>hF1.block k hk (by simpa using hn)
 rw [hA]
 unfold Leaves
 dsimp only
 refine ⟨hF,rfl,qv',vv',tv',uv',upd c (decl (rat s.rows i).kind) (some (.int .i64 ((s.cnt (decl (rat s.rows i).kind):Int)+1))),(if (c (decl (rat s.rows i).kind)).isSome then nc else nc+1),⟨⟨hP,?_,?_,?_,?_,?_,?_⟩,?_,?_,?_⟩,hG2⟩
 ·exact hD.r.same (hblk _ (h2own _ (by simp [Lay.own])) (by omega))
 ·exact (hb1 _ (by simp [Lay.box])).trans hD.x1
 ·exact (hb1 _ (by simp [Lay.box])).trans hD.x2
 ·exact (hb1 _ (by simp [Lay.box])).trans hD.x3
 ·have:=hD.k.same (hblk _ (h2own _ (by simp [Lay.own])) (by omega))
  rw [kf_cons] at this
  exact this
 ·exact hD.c.same (hblk _ (h2own _ (by simp [Lay.own])) (by omega))
 ·intro z
  have hz:=h.cz z
  rw [cnt_dec s i z h0]
  by_cases e:z=decl (rat s.rows i).kind
  ·subst e
   rw [upd_same,if_pos rfl]
   rfl
  ·rw [upd_ne e,hz,if_neg e]
 ·have:=h.nl
  show _<=(s.dec i).known.length
  have e:(s.dec i).known.length=s.known.length+1:=rfl
  rw [e]
  split<;>omega
 ·have e:(s.dec i).rows.length=s.rows.length:=numb_len _ _ _
  rw [e]
  refine h.r.keep hbx ?_
  rw [hblk _ (h2own _ (by simp [Lay.own])) (by omega)]
  exact hF2.block _ (h2own _ (by simp [Lay.own])) (by simp;omega)
end Go.Proofs.YtfgpbdieaflclaaGreat.Nm
namespace Go.Proofs.YtfgpbdieaflclaaGreat.Nm
open Go.RowKit Go.Maps Sp Lx Gr
theorem Fr.fbw {F:List Nat} {n:Nat} {w w':World} (h:Fr F w w') (hn:n<=w.heap.size):Fb F n w w':=⟨h.os,h.tape,h.output,h.size,fun k hk hk2=>h.block k (Nat.lt_of_lt_of_le hk hn) hk2⟩
theorem step_M {W:World} {o:Lay} {l0:List Rz} {s:Rs} {m i:Nat} {qv vv tv uv:Value} {c:Nat->Option Value} {nc:Nat} (hB:Base l0) (hl:l0.length<=2932031007317) (ho:o.Ok) (h:Mem W o s qv vv tv uv c nc) (hg:Good l0 m s) (hi:i < l0.length):
  Calls Tryz.prog 72 #[.int .i64 (i:Int),ptr0 o.r1,ptr0 o.r2] W (Leaves o l0 m W (askM i s)):=by
 have hlen:=like_len hg.like
 have hx:s.rows[i]?=some (rat s.rows i):=some_rat (by omega)
 have hk:=like_kind hg.like hi
 have hs:(rat s.rows i).name.size<=maxLen:=by
  rw [hk.2.1]
  have:=filled_name (hB.fill i hi)
  unfold maxLen
  omega
 have hnd:=ho.nd
 have h2own:∀ k ∈ o.own,k < o.base:=fun k hk=>by have:=ho.lt2 k hk;omega
 simp only [Lay.own,List.nodup_cons,List.mem_cons,List.not_mem_nil,or_false,not_or,List.nodup_nil,and_true,not_false_eq_true] at hnd
 have hmv:∀ {k m p k' m' p':Nat},mv k m p=mv k' m' p'->k=k'/\m=m'/\p=p':=fun e=>by
  simp only [Value.agg.injEq] at e
  have e:=congrArg Array.toList e
  simp at e
  omega
 refine Calls.mono (naming_any h.d.r h.r.x1 h.r.x2 h.d.k hx (by omega) hs (fun v hv=>?_)) ?_
 ·unfold kf at hv
  obtain ⟨e,he,rfl⟩:=Option.map_eq_some_iff.1 hv
  obtain ⟨a,b,c2⟩:=hg.kn _ (lk_mem he)
  have:=hg.cnt_le e.1
  have:=mst_le e.1
  exact ⟨_,_,_,rfl,b,by dsimp only at c2;omega⟩
 ·rintro e w' (⟨h0,rfl,hb⟩ | ⟨h0,hf,rfl,hb⟩ | ⟨k,mm,p,h0,hf,hp,⟨hne,rfl,hb⟩ | ⟨hke,rfl,hfr,hrw⟩⟩)
  ·have hA:askM i s=.ok s:=by unfold askM;rw [if_pos h0]
   rw [hA]
   exact ⟨below_fb hb h.d.p.sz,rfl,qv,vv,tv,uv,c,nc,h.below hb,hg⟩
  ·have hA:askM i s=.error 32:=by
    unfold askM
    rw [if_neg h0]
    unfold kf at hf
    cases hq:lk s.known (rat s.rows i).name with
    | none=>rfl
    | some v=>
     obtain ⟨a,b,d⟩:=v
     rw [hq] at hf
     rcases hf with hf | ⟨k,mm,p,hf,hp⟩
     ·cases hf
     ·obtain ⟨_,_,e3⟩:=hmv (Option.some.inj hf)
      dsimp only at e3 ⊢
      rw [if_pos (by omega)]
   rw [hA]
   exact ⟨below_fb hb h.d.p.sz,by decide,by decide,rfl,hb.block _ (Array.getElem?_eq_some_iff.1 h.d.p.blk).1⟩
  ·have hA:askM i s=.error 33:=by
    unfold askM
    rw [if_neg h0]
    unfold kf at hf
    cases hq:lk s.known (rat s.rows i).name with
    | none=>rw [hq] at hf;cases hf
    | some v=>
     obtain ⟨a,b,d⟩:=v
     rw [hq] at hf
     obtain ⟨e1,_,e3⟩:=hmv (Option.some.inj hf)
     dsimp only at e1 e3 ⊢
     rw [if_neg (by omega),if_pos (by omega)]
   rw [hA]
   exact ⟨below_fb hb h.d.p.sz,by decide,by decide,rfl,hb.block _ (Array.getElem?_eq_some_iff.1 h.d.p.blk).1⟩
  ·have hA:askM i s=.ok { s with rows:=numb s.rows i mm } := by
    unfold askM
    rw [if_neg h0]
    unfold kf at hf
    cases hq:lk s.known (rat s.rows i).name with
    | none=>rw [hq] at hf;cases hf
    | some v=>
     obtain ⟨a,b,d⟩:=v
     rw [hq] at hf
     obtain ⟨e1,e2,e3⟩:=hmv (Option.some.inj hf)
     dsimp only at e1 e2 e3 ⊢
     rw [if_neg (by omega),if_neg (by omega),e2]
   have hF:Fb o.own o.base W w':=(Fr.fbw hfr h.d.p.sz).wide (by simp [Lay.own])
   have hbx:=ho.keep (fun _ hk=>hk) hF
   have hblk:∀ k,k < o.base->k ≠ o.rb->w'.heap[k]?=W.heap[k]?:=fun k hk hn=>hfr.block k (Nat.lt_of_lt_of_le hk h.d.p.sz) (by simpa using hn)
   rw [hA]
   refine ⟨hF,rfl,qv,vv,tv,uv,c,nc,⟨⟨?_,hrw,?_,?_,?_,?_,?_⟩,h.cz,h.nl,?_⟩,good_M hg hA⟩
   ·show Pol w' o.pb o.base o.nm (.slice (some ⟨o.rb,0,none⟩) (numb s.rows i mm).length o.cap) _ _ qv vv tv uv s.qs s.vs s.ts s.us
    rw [numb_len]
    exact h.d.p.kept hfr (h2own _ (by simp [Lay.own])) (by omega)
   ·exact (hbx _ (by simp [Lay.box])).trans h.d.x1
   ·exact (hbx _ (by simp [Lay.box])).trans h.d.x2
   ·exact (hbx _ (by simp [Lay.box])).trans h.d.x3
   ·exact h.d.k.same (hblk _ (h2own _ (by simp [Lay.own])) (by omega))
   ·exact h.d.c.same (hblk _ (h2own _ (by simp [Lay.own])) (by omega))
   ·show Rest w' o (numb s.rows i mm).length s.ev
    rw [numb_len]
    exact h.r.keep hbx (hblk _ (h2own _ (by simp [Lay.own])) (by omega))
theorem step_H {W:World} {o:Lay} {l0:List Rz} {s:Rs} {m i:Nat} {qv vv tv uv:Value} {c:Nat->Option Value} {nc:Nat} (hl:l0.length<=2932031007317) (ho:o.Ok) (h:Mem W o s qv vv tv uv c nc) (hg:Good l0 m s) (hm:m<=9000000000000) (hi:i < l0.length) (hev:(evt (rat s.rows i)).1=1->0<=(rat s.rows i).n/\(rat s.rows i).n<=16):
  Calls Tryz.prog 74 #[.int .i64 (i:Int),ptr0 o.h1,ptr0 o.h2] W (Leaves o l0 (m+1) W (askH i s)):=by
 have hlen:=like_len hg.like
 have hx:s.rows[i]?=some (rat s.rows i):=some_rat (by omega)
 have hnd:=ho.nd
 have h2own:∀ k ∈ o.own,k < o.base:=fun k hk=>by have:=ho.lt2 k hk;omega
 simp only [Lay.own,List.nodup_cons,List.mem_cons,List.not_mem_nil,or_false,not_or,List.nodup_nil,and_true,not_false_eq_true] at hnd
 refine Calls.mono (happening_any h.d.r h.r.x3 h.r.x4 h.r.e hx (by omega) (by have:=hg.el;omega) hev) ?_
 rintro e w' (⟨h0,rfl,hb⟩ | ⟨h0,hf,rfl,hb⟩ | ⟨h0,hf,rfl,hfr,hmp⟩)
 ·have hA:askH i s=.ok s:=by unfold askH;rw [if_pos h0]
  have hG:=good_H hg hA
  rw [hA]
  exact ⟨below_fb hb h.d.p.sz,rfl,qv,vv,tv,uv,c,nc,h.below hb,hG⟩
 ·have hA:askH i s=.error 31:=by
   unfold askH
   unfold ef at hf
   rw [Option.isSome_map] at hf
   rw [if_neg h0,if_pos hf]
  rw [hA]
  exact ⟨below_fb hb h.d.p.sz,by decide,by decide,rfl,hb.block _ (Array.getElem?_eq_some_iff.1 h.d.p.blk).1⟩
 ·have hA:askH i s=.ok { s with ev:=(evn (rat s.rows i),i+1) :: s.ev } := by
   unfold askH
   unfold ef at hf
   rw [Option.map_eq_none_iff] at hf
   rw [if_neg h0,hf,if_neg (by simp)]
  have hF:Fb o.own o.base W w':=(Fr.fbw hfr h.d.p.sz).wide (by simp [Lay.own])
  have hbx:=ho.keep (fun _ hk=>hk) hF
  have hblk:∀ k,k < o.base->k ≠ o.mb->w'.heap[k]?=W.heap[k]?:=fun k hk hn=>hfr.block k (Nat.lt_of_lt_of_le hk h.d.p.sz) (by simpa using hn)
  rw [hA]
  have hmp:IsMp bmap w' o.mb (upd (ef s.ev) (evn (rat s.rows i)) (some (.int .i64 ((i+1:Nat):Int)))) (s.ev.length+1):=hmp
  rw [ef_cons] at hmp
  refine ⟨hF,rfl,qv,vv,tv,uv,c,nc,⟨⟨h.d.p.kept hfr (h2own _ (by simp [Lay.own])) (by omega),?_,?_,?_,?_,?_,?_⟩,h.cz,h.nl,?_⟩,good_H hg hA⟩
  ·exact h.d.r.same (hblk _ (h2own _ (by simp [Lay.own])) (by omega))
  ·exact (hbx _ (by simp [Lay.box])).trans h.d.x1
  ·exact (hbx _ (by simp [Lay.box])).trans h.d.x2
  ·exact (hbx _ (by simp [Lay.box])).trans h.d.x3
  ·exact h.d.k.same (hblk _ (h2own _ (by simp [Lay.own])) (by omega))
  ·exact h.d.c.same (hblk _ (h2own _ (by simp [Lay.own])) (by omega))
  ·exact ⟨(hbx _ (by simp [Lay.box])).trans h.r.x1,(hbx _ (by simp [Lay.box])).trans h.r.x2,(hbx _ (by simp [Lay.box])).trans h.r.x3,(hbx _ (by simp [Lay.box])).trans h.r.x4,hmp,(hbx _ (by simp [Lay.box])).trans h.r.a⟩
def St (o:Lay) (l0:List Rz) (s0:Rs) (i j:Nat) (W:World):Prop:=
 ∃ t s,upto s0 i=.ok t/\askN i t j=.ok s/\(∃ qv vv tv uv c nc,Mem W o s qv vv tv uv c nc)/\Good l0 (3 * i+j) s/\(j=2->i < l0.length->(evt (rat s.rows i)).1=1->0<=(rat s.rows i).n/\(rat s.rows i).n<=16)
def Er (s0:Rs) (i c:Nat):Prop:=∃ t,upto s0 i=.ok t/\askN i t 3=.error c
theorem askN_err {i c:Nat} {s:Rs} {j:Nat} (h:askN i s j=.error c):∀ k,askN i s (j+k)=.error c:=by
 intro k
 induction k with
 | zero=>exact h
 | succ k ih=>rw [<-Nat.add_assoc];simp only [askN,ih]
theorem askN_succ {i j:Nat} {t s:Rs} (h:askN i t j=.ok s):askN i t (j+1)=ask j i s:=by simp only [askN,h]
def Fin (o:Lay) (l0:List Rz) (U:Except (Nat × Nat) Rs) (e:Ending) (w':World):Prop:=match U with
 | .error ci=>e=.returned (.agg #[.int .i64 (ci.1:Int),.int .i64 (ci.2:Int)])/\0 < ci.1/\w'.cell? ⟨o.pb,1,none⟩=some (.slice (some ⟨o.rb,0,none⟩) l0.length o.cap)
 | .ok s=>e=.returned (.agg #[.int .i64 0,.int .i64 0])/\(∃ qv vv tv uv c nc,Mem w' o s qv vv tv uv c nc)/\Good l0 (3 * l0.length) s
theorem order_any {w:World} {o:Lay} {l0:List Rz} {s0:Rs} {qv vv tv uv:Value} {c:Nat->Option Value} {nc:Nat} (hB:Base l0) (hl:l0.length<=2932031007317) (ho:o.Ok) (hbase:o.base=w.heap.size+1) (h:Mem (w.alloc (.cells #[.int .i64 0,.int .i64 0] 31)) o s0 qv vv tv uv c nc) (hg:Good l0 0 s0):
  Calls Tryz.prog 48 #[.slice (some ⟨o.rb,0,none⟩) l0.length o.cap,.slice (some ⟨o.ab,0,none⟩) 3 3] w fun e w'=>Fb o.own w.heap.size w w'/\Fin o l0 (upto s0 l0.length) e w':=by
 have hown:∀ k ∈ o.own,k < w.heap.size:=fun k hk=>by have:=ho.lt2 k hk;omega
 have hbox:∀ k ∈ o.box,k < w.heap.size:=fun k hk=>by have:=ho.lt1 k hk;omega
 refine Calls.mono (inOrder_inv (w:=w) (ao:=some ⟨o.rb,0,none⟩) (n:=l0.length) (cap:=o.cap) (ab:=o.ab) (acap:=3) o.own (St o l0 s0) (Er s0) (fun w'=>w'.cell? ⟨o.pb,1,none⟩=some (.slice (some ⟨o.rb,0,none⟩) l0.length o.cap)) askF (askC o) hl hown ?_ ?_ ?_ ?_ ?_ ?_ ?_) ?_
 ·intro j hj args u
  obtain rfl | rfl | rfl:j=0\/j=1\/j=2:=by omega
  ·kernel_rfl
  ·kernel_rfl
  ·kernel_rfl
 ·rintro i j W hj ⟨t,s,_,_,⟨qv,vv,tv,uv,c,nc,hM⟩,_,_⟩
  have ha:=hM.r.a
  obtain rfl | rfl | rfl:j=0\/j=1\/j=2:=by omega
  all_goals
   simp only [World.cell?,ha]
   rfl
 ·rintro i j W hi hj hW ⟨t,s,h1,h2,⟨qv,vv,tv,uv,c,nc,hM⟩,hG,hN⟩
  have hb2:o.base=w.heap.size+1:=hbase
  have hpc:∀ w':World,w'.heap[o.pb]?=W.heap[o.pb]?->w'.cell? ⟨o.pb,1,none⟩=some (.slice (some ⟨o.rb,0,none⟩) l0.length o.cap):=fun w' he=>by
   rw [World.cell?_of_block (a:=⟨o.pb,1,none⟩) he,<-like_len hG.like]
   exact hM.d.p.cells.1
  obtain rfl | rfl | rfl:j=0\/j=1\/j=2:=by omega
  ·refine Calls.mono (step_D hB hl ho hM hG hi) ?_
   rintro e w' ⟨hF,hr⟩
   rw [hb2] at hF
   refine ⟨hF,?_⟩
   cases hA:askD i s with
   | error c2=>
    rw [hA] at hr
    refine Or.inr ⟨c2,hr.1,hr.2.1,hr.2.2.1,⟨t,h1,?_⟩,hpc _ hr.2.2.2⟩
    have:askN i t 1=.error c2:=(askN_succ h2).trans hA
    exact askN_err this 2
   | ok s'=>
    rw [hA] at hr
    obtain ⟨he,q1,q2,q3,q4,c',n',hM',hG'⟩:=hr
    refine Or.inl ⟨he,t,s',h1,(askN_succ h2).trans hA,⟨q1,q2,q3,q4,c',n',hM'⟩,⟨hG'.like,hG'.q,hG'.v,hG'.t,hG'.u,hG'.kn,hG'.kl,hG'.ul,by have:=hG'.el;omega⟩,fun e=>by omega⟩
  ·refine Calls.mono (step_M hB hl ho hM hG hi) ?_
   rintro e w' ⟨hF,hr⟩
   rw [hb2] at hF
   refine ⟨hF,?_⟩
   cases hA:askM i s with
   | error c2=>
    rw [hA] at hr
    refine Or.inr ⟨c2,hr.1,hr.2.1,hr.2.2.1,⟨t,h1,?_⟩,hpc _ hr.2.2.2⟩
    have:askN i t 2=.error c2:=(askN_succ h2).trans hA
    exact askN_err this 1
   | ok s'=>
    rw [hA] at hr
    obtain ⟨he,q1,q2,q3,q4,c',n',hM',hG'⟩:=hr
    refine Or.inl ⟨he,t,s',h1,?_,⟨q1,q2,q3,q4,c',n',hM'⟩,⟨hG'.like,hG'.q,hG'.v,hG'.t,hG'.u,hG'.kn,hG'.kl,hG'.ul,by have:=hG'.el;omega⟩,fun _ hi he=>num_M hi hG hA he⟩
    exact (askN_succ h2).trans hA
  ·refine Calls.mono (step_H hl ho hM hG (by omega) hi (hN rfl hi)) ?_
   rintro e w' ⟨hF,hr⟩
   rw [hb2] at hF
   refine ⟨hF,?_⟩
   cases hA:askH i s with
   | error c2=>
    rw [hA] at hr
    refine Or.inr ⟨c2,hr.1,hr.2.1,hr.2.2.1,⟨t,h1,?_⟩,hpc _ hr.2.2.2⟩
    exact (askN_succ h2).trans hA
   | ok s'=>
    rw [hA] at hr
    obtain ⟨he,q1,q2,q3,q4,c',n',hM',hG'⟩:=hr
    refine Or.inl ⟨he,t,s',h1,?_,⟨q1,q2,q3,q4,c',n',hM'⟩,hG',fun e=>by omega⟩
    exact (askN_succ h2).trans hA
 ·intro W q v hW
  rw [World.cell?_of_block (a:=⟨o.pb,1,none⟩) (Below.heap_setCell W _ v o.pb (fun e=>by have e2:o.pb=w.heap.size:=e;have:=hown o.pb (by simp [Lay.own]);omega))]
  exact hW
 ·rintro i W ⟨t,s,h1,h2,hM,hG,_⟩
  refine ⟨s,s,?_,rfl,hM,?_,fun e=>by omega⟩
  ·simp only [upto,h1,h2]
  ·rw [show 3 * (i+1)+0=3 * i+3 by omega]
   exact hG
 ·rintro i j W q v ⟨t,s,h1,h2,⟨qv,vv,tv,uv,c,nc,hM⟩,hG,hN⟩
  refine ⟨t,s,h1,h2,⟨qv,vv,tv,uv,c,nc,?_⟩,hG,hN⟩
  have hb:∀ k,k ≠ w.heap.size->(W.setCell ⟨w.heap.size,q,none⟩ v).heap[k]?=W.heap[k]?:=fun k hk=>Below.heap_setCell W _ v k (fun e=>hk e)
  have hbx:∀ k ∈ o.box,(W.setCell ⟨w.heap.size,q,none⟩ v).heap[k]?=W.heap[k]?:=fun k hk=>hb k (by have:=hbox k hk;omega)
  have hbo:∀ k ∈ o.own,(W.setCell ⟨w.heap.size,q,none⟩ v).heap[k]?=W.heap[k]?:=fun k hk=>hb k (by have:=hown k hk;omega)
  have hw:∀ {T:TypeId} {sz n:Nat} {v':Value} {xs:List Value},W.ownsRow o.base T sz v' n xs->(W.setCell ⟨w.heap.size,q,none⟩ v).ownsRow o.base T sz v' n xs:=fun h1=>own_keepB h1 (fun k hk=>hb k (by have:=(World.ownsRow.lt h1 k hk).1;omega))
  have hp:=hM.d.p
  exact ⟨⟨⟨(hbo _ (by simp [Lay.own])).trans hp.blk,hw hp.oq,hw hp.ov,hw hp.ot,hw hp.ou,hp.ne,hp.lt,by have:=hp.sz;simpa [World.setCell] using this⟩,hM.d.r.same (hbo _ (by simp [Lay.own])),(hbx _ (by simp [Lay.box])).trans hM.d.x1,(hbx _ (by simp [Lay.box])).trans hM.d.x2,(hbx _ (by simp [Lay.box])).trans hM.d.x3,hM.d.k.same (hbo _ (by simp [Lay.own])),hM.d.c.same (hbo _ (by simp [Lay.own]))⟩,hM.cz,hM.nl,hM.r.keep hbx (hbo _ (by simp [Lay.own]))⟩
 ·exact ⟨s0,s0,rfl,rfl,⟨qv,vv,tv,uv,c,nc,h⟩,hg,fun e=>by omega⟩
 ·rintro e w' (⟨rfl,⟨t,s,h1,h2,hM,hG,_⟩,hF⟩ | ⟨i,c2,hi,hc,rfl,⟨t,h1,h2⟩,hiv,hF⟩)
  ·refine ⟨hF,?_⟩
   simp only [askN] at h2
   cases h2
   rw [h1]
   exact ⟨rfl,hM,hG⟩
  ·refine ⟨hF,?_⟩
   have:upto s0 (i+1)=.error (c2,i):=by simp only [upto,h1,h2]
   have h3:=upto_err this (l0.length - (i+1))
   rw [show i+1+(l0.length - (i+1))=l0.length by omega] at h3
   rw [h3]
   exact ⟨rfl,hc,hiv⟩
end Go.Proofs.YtfgpbdieaflclaaGreat.Nm
