import Derived.Test.YtfgpbdieaflclaaGreatK06
set_option maxHeartbeats 3200000
set_option maxRecDepth 100000
namespace Go.Proofs.YtfgpbdieaflclaaGreat.Nm
open Go.RowKit Go.Maps Sp Lx Gr
structure Fr (F:List Nat) (w w':World):Prop where
 os:w'.os=w.os
 tape:w'.tape=w.tape
 output:w'.output=w.output
 size:w.heap.size<=w'.heap.size
 block:∀ k,k < w.heap.size->k ∉ F->w'.heap[k]?=w.heap[k]?
theorem Fr.of_below {F:List Nat} {w w':World} (h:Below w.heap.size w w'):Fr F w w':=⟨h.os,h.tape,h.output,h.size,fun k hk _=>h.block k hk⟩
theorem Fr.trans {F F':List Nat} {a b c:World} (h:Fr F a b) (k:Fr F' b c) (hF:∀ x ∈ F',x ∈ F\/a.heap.size<=x):Fr F a c:=
 ⟨k.os.trans h.os,k.tape.trans h.tape,k.output.trans h.output,Nat.le_trans h.size k.size,fun x hx hn=>(k.block x (Nat.lt_of_lt_of_le hx h.size) (fun hm=>(hF x hm).elim hn (fun h=>by omega))).trans (h.block x hx hn)⟩
theorem Fr.grown {w w':World} {b:Nat} (h:w.grownBy w' (some b)):Fr [b] w w':=⟨h.os,h.tape,h.output,h.size,fun k hk hn=>h.block k hk (fun e=>hn (by cases e;simp))⟩
theorem Fr.set {F:List Nat} (w:World) {g:Nat} (i:Nat) (v:Value) (hg:g ∈ F):Fr F w (w.setCell ⟨g,i,none⟩ v):=
 ⟨rfl,rfl,rfl,by simp [World.setCell],fun k _ hn=>Below.heap_setCell w _ v k (fun e=>hn (by rw [e];exact hg))⟩
abbrev rv (x:Rz):Value:=.agg #[.int .i64 x.kind,.string x.name,.int .i64 x.stop,.int .i64 x.n,.int .i64 x.kids]
def Rw (w:World) (rb:Nat) (l:List Rz):Prop:=∃ cs,w.heap[rb]?=some (.cells cs 47 (0,0))/\∀ (i:Nat) (x:Rz),l[i]?=some x ->
 cs[i * 5]?=some (.int .i64 x.kind)/\cs[i * 5+1]?=some (.string x.name)/\cs[i * 5+2]?=some (.int .i64 x.stop)/\cs[i * 5+3]?=some (.int .i64 x.n)/\cs[i * 5+4]?=some (.int .i64 x.kids)
section
variable {w w':World} {rb i:Nat} {l:List Rz} {x:Rz}
theorem Rw.lt (h:Rw w rb l):rb < w.heap.size:=by
 obtain ⟨cs,h1,_⟩:=h
 exact (Array.getElem?_eq_some_iff.1 h1).1
theorem Rw.same (h:Rw w rb l) (hb:w'.heap[rb]?=w.heap[rb]?):Rw w' rb l:=by
 obtain ⟨cs,h1,h2⟩:=h
 exact ⟨cs,hb.trans h1,h2⟩
theorem Rw.cells (h:Rw w rb l) (hx:l[i]?=some x):w.cell? ⟨rb,i * 5,none⟩=some (.int .i64 x.kind)/\w.cell? ⟨rb,i * 5+1,none⟩=some (.string x.name)/\w.cell? ⟨rb,i * 5+2,none⟩=some (.int .i64 x.stop)/\w.cell? ⟨rb,i * 5+3,none⟩=some (.int .i64 x.n)/\w.cell? ⟨rb,i * 5+4,none⟩=some (.int .i64 x.kids)/\∀ j,w.frozen? ⟨rb,j,none⟩=false:=by
 obtain ⟨cs,h1,h2⟩:=h
 obtain ⟨a0,a1,a2,a3,a4⟩:=h2 i x hx
 exact ⟨by simp [World.cell?,h1,a0],by simp [World.cell?,h1,a1],by simp [World.cell?,h1,a2],by simp [World.cell?,h1,a3],by simp [World.cell?,h1,a4],fun j=>by simp [World.frozen?,h1]⟩
theorem Rw.rz (h:Rw w rb l):IsRz w (some ⟨rb,0,none⟩) l:=fun i x hx=>by
 obtain ⟨a0,a1,a2,a3,a4,_⟩:=h.cells hx
 exact ⟨rb,0,rfl,h.lt,by rw [Nat.zero_add];exact a0,by rw [Nat.zero_add];exact a1,by rw [Nat.zero_add];exact a2,by rw [Nat.zero_add];exact a3,by rw [Nat.zero_add];exact a4⟩
theorem Rw.setN (h:Rw w rb l) (hx:l[i]?=some x) (n:Int):Rw (w.setCell ⟨rb,i * 5+3,none⟩ (.int .i64 n)) rb (l.set i { x with n:=n }):=by
 obtain ⟨cs,h1,h2⟩:=h
 refine ⟨cs.setIfInBounds (i * 5+3) (.int .i64 n),heap_setCell_same w rb (i * 5+3) cs 47 _ h1,fun j y hy=>?_⟩
 rw [List.getElem?_set] at hy
 have hin:=(List.getElem?_eq_some_iff.1 hx).1
 by_cases e:i=j
 ·subst e
  rw [if_pos rfl,if_pos hin] at hy
  cases hy
  obtain ⟨a0,a1,a2,a3,a4⟩:=h2 i x hx
  have hs:=(Array.getElem?_eq_some_iff.1 a3).1
  simp only [Array.getElem?_setIfInBounds]
  refine ⟨by rw [if_neg (by omega)];exact a0,by rw [if_neg (by omega)];exact a1,by rw [if_neg (by omega)];exact a2,by simp [hs],by rw [if_neg (by omega)];exact a4⟩
 ·rw [if_neg e] at hy
  obtain ⟨a0,a1,a2,a3,a4⟩:=h2 j y hy
  simp only [Array.getElem?_setIfInBounds]
  exact ⟨by rw [if_neg (by omega)];exact a0,by rw [if_neg (by omega)];exact a1,by rw [if_neg (by omega)];exact a2,by rw [if_neg (by omega)];exact a3,by rw [if_neg (by omega)];exact a4⟩
end
theorem box_cell {W:World} {b:Nat} {v:Value} {T:TypeId} (h:W.heap[b]?=some (.cells #[v] T (0,0))):W.cell? ⟨b,0,none⟩=some v/\W.frozen? ⟨b,0,none⟩=false:=⟨by simp [World.cell?,h],by simp [World.frozen?,h]⟩
def evt (x:Rz):Nat × Int:=if x.kind=8\/x.kind=9 then (1,x.n) else if x.kind=10 then (5,0) else (0,0)
theorem event_any (x:Rz) (w:World):Calls Tryz.prog 75 #[rv x] w fun e w'=>e=.returned (.agg #[.int .i64 ((evt x).1:Nat),.int .i64 (evt x).2])/\Below w.heap.size w w':=by
 have HE:Hid (evt x=if x.kind=8\/x.kind=9 then (1,x.n) else if x.kind=10 then (5,0) else (0,0)):=rfl
 generalize evt x=z at *
 obtain ⟨kd,nm,st,n,ks⟩:=x
 dsimp only at *
 have h0:((w.alloc (.cells #[.int .i64 kd,.string nm,.int .i64 st,.int .i64 n,.int .i64 ks] 47)).alloc (.cells #[.int .i64 0,.int .i64 0] 108)).heap[w.heap.size]?=some (.cells #[.int .i64 kd,.string nm,.int .i64 st,.int .i64 n,.int .i64 ks] 47 (0,0)):=(Below.heap_alloc _ _ _ (by simp)).trans (heap_alloc_new w _)
 have HQ:Hid (∀ A B:Value,Below w.heap.size w ((w.alloc (.cells #[.int .i64 kd,.string nm,.int .i64 st,.int .i64 n,.int .i64 ks] 47)).alloc (.cells #[A,B] 108))/\((w.alloc (.cells #[.int .i64 kd,.string nm,.int .i64 st,.int .i64 n,.int .i64 ks] 47)).alloc (.cells #[A,B] 108)).cell? ⟨w.heap.size+1,0,none⟩=some A/\((w.alloc (.cells #[.int .i64 kd,.string nm,.int .i64 st,.int .i64 n,.int .i64 ks] 47)).alloc (.cells #[A,B] 108)).cell? ⟨w.heap.size+1,1,none⟩=some B):=fun A B=>by
  have:=heap_alloc_new (w.alloc (.cells #[.int .i64 kd,.string nm,.int .i64 st,.int .i64 n,.int .i64 ks] 47)) (.cells #[A,B] 108)
  rw [World.size_alloc] at this
  exact ⟨(bAl w _).alloc (by simp) _,by rw [World.cell?,this];rfl,by rw [World.cell?,this];rfl⟩
 have c0:((w.alloc (.cells #[.int .i64 kd,.string nm,.int .i64 st,.int .i64 n,.int .i64 ks] 47)).alloc (.cells #[.int .i64 0,.int .i64 0] 108)).cell? ⟨w.heap.size,0,none⟩=some (.int .i64 kd):=by simp only [World.cell?,h0];rfl
 have c3:((w.alloc (.cells #[.int .i64 kd,.string nm,.int .i64 st,.int .i64 n,.int .i64 ks] 47)).alloc (.cells #[.int .i64 0,.int .i64 0] 108)).cell? ⟨w.heap.size,3,none⟩=some (.int .i64 n):=by simp only [World.cell?,h0];rfl
 clear h0
 go_enter Tryz.func75,Tryz.ntmps75
 go_wp2_with fail
 ·obtain ⟨b1,q0,q1⟩:=HQ.out (.int .i64 1) (.int .i64 n)
  exact bodyPost_ret (v:=.agg #[.int .i64 1,.int .i64 n]) (by simp [results,Tryz.results75,go_sem,q0,q1]) rfl ⟨by rw [HE.out];simp_all,b1⟩
 ·obtain ⟨b1,q0,q1⟩:=HQ.out (.int .i64 1) (.int .i64 n)
  exact bodyPost_ret (v:=.agg #[.int .i64 1,.int .i64 n]) (by simp [results,Tryz.results75,go_sem,q0,q1]) rfl ⟨by rw [HE.out];simp_all,b1⟩
 ·obtain ⟨b1,q0,q1⟩:=HQ.out (.int .i64 5) (.int .i64 0)
  exact bodyPost_ret (v:=.agg #[.int .i64 5,.int .i64 0]) (by simp [results,Tryz.results75,go_sem,q0,q1]) rfl ⟨by rw [HE.out];simp_all,b1⟩
 ·obtain ⟨b1,q0,q1⟩:=HQ.out (.int .i64 0) (.int .i64 0)
  exact bodyPost_ret (v:=.agg #[.int .i64 0,.int .i64 0]) (by simp [results,Tryz.results75,go_sem,q0,q1]) rfl ⟨by rw [HE.out];simp_all,b1⟩
def evn (x:Rz):Nat × Nat:=((evt x).1,(evt x).2.toNat)
theorem happening_any {W:World} {rb r1 r2 mb cap at_ n:Nat} {l:List Rz} {x:Rz} {f:Nat × Nat->Option Value} (hr:Rw W rb l) (h1:W.heap[r1]?=some (.cells #[.slice (some ⟨rb,0,none⟩) l.length cap] 22 (0,0))) (h2:W.heap[r2]?=some (.cells #[.map (some mb)] 87 (0,0)))
  (hm:IsMp bmap W mb f n) (hx:l[at_]?=some x) (hl:l.length<=2932031007317) (hn:n<=9000000000000) (hok:(evt x).1=1->0<=x.n/\x.n<=16):
  Calls Tryz.prog 74 #[.int .i64 at_,.pointer (some ⟨r1,0,none⟩),.pointer (some ⟨r2,0,none⟩)] W fun e w'=>
   ((evt x).1=0/\e=.returned (.int .i64 0)/\Below W.heap.size W w')\/((evt x).1 ≠ 0/\(f (evn x)).isSome=true/\e=.returned (.int .i64 31)/\Below W.heap.size W w') \/
   ((evt x).1 ≠ 0/\f (evn x)=none/\e=.returned (.int .i64 0)/\Fr [mb] W w'/\IsMp bmap w' mb (upd f (evn x) (some (.int .i64 ((at_:Int)+1)))) (n+1)):=by
 have hat:at_ < l.length:=(List.getElem?_eq_some_iff.1 hx).1
 have h3:(at_:Int) < (l.length:Int):=by omega
 have h4:(at_:Int)<=2932031007317:=by omega
 obtain ⟨c0,c1,c2,c3,c4,_⟩:=hr.cells hx
 obtain ⟨d1,_⟩:=box_cell h1
 have HE:=hdn <| event_any x W
 have HM:Hid (IsMp bmap W mb f n/\W.heap[r2]?=some (.cells #[.map (some mb)] 87 (0,0))/\n<=9000000000000):=⟨hm,h2,hn⟩
 have HO:Hid ((evt x).2=((evn x).2:Int)/\bmap.ok (evn x)):=by
  have h5:(evt x).1=1/\(evt x).2=x.n\/(evt x).1=5/\(evt x).2=0\/(evt x).1=0/\(evt x).2=0:=by
   unfold evt
   split
   ·exact Or.inl ⟨rfl,rfl⟩
   ·split
    ·exact Or.inr (Or.inl ⟨rfl,rfl⟩)
    ·exact Or.inr (Or.inr ⟨rfl,rfl⟩)
  show (evt x).2=((evt x).2.toNat:Int)/\((evt x).1<=5/\(evt x).2.toNat<=16)
  rcases h5 with ⟨e1,e2⟩ | ⟨e1,e2⟩ | ⟨e1,e2⟩
  ·have:=hok e1
   rw [e1,e2]
   omega
  ·rw [e1,e2]
   omega
  ·rw [e1,e2]
   omega
 have HK:Hid ((evn x).1=(evt x).1):=rfl
 rw [HO.out.1,<-HK.out] at HE
 rw [<-HK.out]
 generalize hz:evn x=z at *
 obtain ⟨kz,nz⟩:=z
 dsimp only at *
 clear hr h1 h2 hm hx hl hn hok hat HK hz
 go_enter Tryz.func74,Tryz.ntmps74
 go_wp2_with fail
 refine Calls.mono HE.out ?_
 rintro e w1 ⟨rfl,hb⟩
 have hb2:Below W.heap.size W (w1.alloc (.cells #[.int .i64 (kz:Int),.int .i64 (nz:Int)] 108)):=hb.alloc hb.size _
 have hn2:(w1.alloc (.cells #[.int .i64 (kz:Int),.int .i64 (nz:Int)] 108)).heap[w1.heap.size]?=some (.cells #[.int .i64 (kz:Int),.int .i64 (nz:Int)] 108 (0,0)):=heap_alloc_new w1 _
 have e0:(w1.alloc (.cells #[.int .i64 (kz:Int),.int .i64 (nz:Int)] 108)).cell? ⟨w1.heap.size,0,none⟩=some (.int .i64 (kz:Int)):=by rw [World.cell?,hn2];rfl
 have e1:(w1.alloc (.cells #[.int .i64 (kz:Int),.int .i64 (nz:Int)] 108)).cell? ⟨w1.heap.size,1,none⟩=some (.int .i64 (nz:Int)):=by rw [World.cell?,hn2];rfl
 have hbx:(w1.alloc (.cells #[.int .i64 (kz:Int),.int .i64 (nz:Int)] 108)).heap[r2]?=some (.cells #[.map (some mb)] 87 (0,0)):=(hb2.block r2 (Array.getElem?_eq_some_iff.1 HM.out.2.1).1).trans HM.out.2.1
 obtain ⟨d2,_⟩:=box_cell hbx
 have hm2:IsMp bmap (w1.alloc (.cells #[.int .i64 (kz:Int),.int .i64 (nz:Int)] 108)) mb f n:=HM.out.1.same (hb2.block mb HM.out.1.lt)
 have hlk:=hm2.lookOk bmap_law (k:=(kz,nz)) HO.out.2
 have hlk':(Instr.lookup 87 (.map (some mb)) (.agg #[.int .i64 (kz:Int),.int .i64 (nz:Int)]) true).run Tryz.prog (w1.alloc (.cells #[.int .i64 (kz:Int),.int .i64 (nz:Int)] 108))=.ok (.tuple #[(f (kz,nz)).getD (.int .i64 0),.bool (f (kz,nz)).isSome]) (w1.alloc (.cells #[.int .i64 (kz:Int),.int .i64 (nz:Int)] 108)):=hlk
 have HB2:Hid (Below W.heap.size W (w1.alloc (.cells #[.int .i64 (kz:Int),.int .i64 (nz:Int)] 108))):=hb2
 have HM2:Hid (IsMp bmap (w1.alloc (.cells #[.int .i64 (kz:Int),.int .i64 (nz:Int)] 108)) mb f n):=hm2
 clear hb hb2 hn2 hbx hm2 hlk HE
 by_cases hk0:kz=0
 ·have hk0':((kz:Int) == 0)=true:=by simp [hk0]
  have HZ:Hid (kz=0):=hk0
  clear hk0
  go_wp2
  go_ret
  exact Or.inl ⟨HZ.out,rfl,HB2.out⟩
 ·have hk0':((kz:Int) == 0)=false:=by simp;omega
  have HZ:Hid (kz ≠ 0):=hk0
  clear hk0
  cases hf:f (kz,nz) with
  | some v=>
   have HF:Hid ((f (kz,nz)).isSome=true):=by show _=_;rw [hf];rfl
   rw [hf] at hlk'
   simp only [Option.getD_some,Option.isSome_some] at hlk'
   go_wp2
   go_ret
   exact Or.inr (Or.inl ⟨HZ.out,HF.out,rfl,HB2.out⟩)
  | none=>
   rw [hf] at hlk'
   simp only [Option.getD_none,Option.isSome_none] at hlk'
   have HF:Hid (f (kz,nz)=none):=hf
   obtain ⟨w3,hup,hm3,hg3⟩:=HM2.out.put bmap_law (k:=(kz,nz)) HO.out.2 (by have:=HM.out.2.2;unfold maxLen;omega) (.int .i64 ((at_:Int)+1))
   have hup':(Instr.mapUpdate 87 (.map (some mb)) (.agg #[.int .i64 (kz:Int),.int .i64 (nz:Int)]) (.int .i64 ((at_:Int)+1))).run Tryz.prog (w1.alloc (.cells #[.int .i64 (kz:Int),.int .i64 (nz:Int)] 108))=.ok () w3:=hup
   rw [hf] at hm3
   have H3:Hid (Fr [mb] W w3/\IsMp bmap w3 mb (upd f (kz,nz) (some (.int .i64 ((at_:Int)+1)))) (n+1)):=⟨(Fr.of_below HB2.out).trans (Fr.grown hg3) (fun _ hx=>Or.inl hx),hm3⟩
   clear hup hm3 hg3 hf
   go_wp2
   go_ret
   exact Or.inr (Or.inr ⟨HZ.out,HF.out,rfl,H3.out.1,H3.out.2⟩)
def lk {α β:Type} [DecidableEq α]:List (α × β)->α->Option β
 | [],_=>none
 | (a,b) :: l,x=>if x=a then some b else lk l x
theorem lk_mem {α β:Type} [DecidableEq α] {l:List (α × β)} {x:α} {b:β} (h:lk l x=some b):(x,b) ∈ l:=by
 induction l with
 | nil=>cases h
 | cons a l ih=>
  obtain ⟨a1,a2⟩:=a
  simp only [lk] at h
  split at h
  ·rename_i e
   cases h
   subst e
   exact List.mem_cons_self
  ·exact List.mem_cons_of_mem _ (ih h)
structure Rs where
 rows:List Rz
 known:List (ByteArray × Nat × Nat × Nat)
 qs:List (ByteArray × Bool)
 vs:List ByteArray
 ts:List ByteArray
 us:List Nat
 ev:List ((Nat × Nat) × Nat)
def Rs.cnt (s:Rs) (z:Nat):Nat:=if z=1 then s.qs.length else if z=2 then s.vs.length else if z=3 then s.ts.length else if z=4 then s.us.length else 0
def clr (x:Rz):Rz:={ x with n:=0 }
def numb (l:List Rz) (i:Nat) (n:Nat):List Rz:=l.set i { rat l i with n:=(n:Int) }
def Rs.dec (s:Rs) (i:Nat):Rs where
 rows:=numb s.rows i (s.cnt (decl (rat s.rows i).kind))
 known:=((rat s.rows i).name,decl (rat s.rows i).kind,s.cnt (decl (rat s.rows i).kind),endp (numb s.rows i (s.cnt (decl (rat s.rows i).kind))) i) :: s.known
 qs:=if (rat s.rows i).kind=2 then s.qs++[((rat s.rows i).name,false)] else if (rat s.rows i).kind=3 then s.qs++[((rat s.rows i).name,true)] else s.qs
 vs:=if (rat s.rows i).kind=4 then s.vs++[(rat s.rows i).name] else s.vs
 ts:=if (rat s.rows i).kind=5 then s.ts++[(rat s.rows i).name] else s.ts
 us:=if (rat s.rows i).kind=7 then s.us++[i+1] else s.us
 ev:=s.ev
def askD (i:Nat) (s:Rs):Except Nat Rs:=
 if decl (rat s.rows i).kind=0 then .ok s else if (lk s.known (rat s.rows i).name).isSome then .error 31
 else if s.cnt (decl (rat s.rows i).kind)=mst (decl (rat s.rows i).kind) then .error 3 else .ok (s.dec i)
def askM (i:Nat) (s:Rs):Except Nat Rs:=
 if nmd (rat s.rows i).kind=0 then .ok s else match lk s.known (rat s.rows i).name with
  | none=>.error 32
  | some (k,m,p)=>if i < p then .error 32 else if k ≠ nmd (rat s.rows i).kind then .error 33 else .ok { s with rows:=numb s.rows i m }
def askH (i:Nat) (s:Rs):Except Nat Rs:=
 if (evt (rat s.rows i)).1=0 then .ok s else if (lk s.ev (evn (rat s.rows i))).isSome then .error 31 else .ok { s with ev:=(evn (rat s.rows i),i+1) :: s.ev }
def ask (j i:Nat) (s:Rs):Except Nat Rs:=if j=0 then askD i s else if j=1 then askM i s else askH i s
def askN (i:Nat) (s:Rs):Nat->Except Nat Rs
 | 0=>.ok s
 | j+1=>match askN i s j with | .error c=>.error c | .ok t=>ask j i t
def upto (s:Rs):Nat->Except (Nat × Nat) Rs
 | 0=>.ok s
 | i+1=>match upto s i with | .error e=>.error e | .ok t=>match askN i t 3 with | .error c=>.error (c,i) | .ok t'=>.ok t'
theorem upto_err {s:Rs} {i:Nat} {e:Nat × Nat} (h:upto s i=.error e):∀ k,upto s (i+k)=.error e:=by
 intro k
 induction k with
 | zero=>exact h
 | succ k ih=>rw [<-Nat.add_assoc];simp only [upto,ih]
theorem sz_clr (l:List Rz):∀ m,sz (l.map clr) m=sz l m:=by
 induction l with
 | nil=>intro m;rfl
 | cons x l ih=>
  intro m
  simp only [List.map_cons,sz,ih]
  rfl
theorem endp_clr (l:List Rz) (i:Nat):endp (l.map clr) i=endp l i:=by unfold endp;rw [<-List.map_drop,sz_clr]
theorem endp_like {l l0:List Rz} (h:l.map clr=l0.map clr) (i:Nat):endp l i=endp l0 i:=by rw [<-endp_clr l,h,endp_clr]
theorem like_len {l l0:List Rz} (h:l.map clr=l0.map clr):l.length=l0.length:=by simpa using congrArg List.length h
theorem like_at {l l0:List Rz} (h:l.map clr=l0.map clr) {i:Nat} (hi:i < l0.length):clr (rat l i)=clr (rat l0 i):=by
 have h1:=congrArg (fun t:List Rz=>t[i]?) h
 simp only [List.getElem?_map] at h1
 rw [some_rat hi,some_rat (by rw [like_len h];exact hi)] at h1
 simpa using h1
theorem like_kind {l l0:List Rz} (h:l.map clr=l0.map clr) {i:Nat} (hi:i < l0.length):(rat l i).kind=(rat l0 i).kind/\(rat l i).name=(rat l0 i).name/\(rat l i).kids=(rat l0 i).kids:=by
 have:=like_at h hi
 exact ⟨by simpa [clr] using congrArg Rz.kind this,by simpa [clr] using congrArg Rz.name this,by simpa [clr] using congrArg Rz.kids this⟩
theorem like_tree {l l0:List Rz} (h:l.map clr=l0.map clr) (hT:TreeZ l0):TreeZ l:=by
 have hl:=like_len h
 have hw:Whole l:=by
  unfold Whole
  rw [<-sz_clr l,h,sz_clr,hl]
  exact hT.whole
 refine ⟨hw,fun i hi=>?_⟩
 have hi0:i < l0.length:=by omega
 obtain ⟨_,_,hk⟩:=like_kind h hi0
 have:=hT.kids i hi0
 rw [km_rat] at this ⊢
 unfold Rz.m at *
 rw [hk]
 exact this
theorem rat_numb {l:List Rz} {i n:Nat} (hi:i < l.length):rat (numb l i n) i={ rat l i with n:=(n:Int) } := by
 have:(numb l i n)[i]?=some { rat l i with n:=(n:Int) } := by simp [numb,hi]
 have h2:=some_rat (l:=numb l i n) (i:=i) (by simp [numb,hi])
 rw [h2] at this
 exact Option.some.inj this
theorem numb_clr (l:List Rz) (i n:Nat):(numb l i n).map clr=l.map clr:=by
 refine List.ext_getElem? fun j=>?_
 simp only [numb,List.getElem?_map,List.getElem?_set]
 by_cases e:i=j
 ·subst e
  by_cases hi:i < l.length
  ·rw [if_pos rfl,if_pos hi,some_rat hi]
   rfl
  ·rw [if_pos rfl,if_neg hi,List.getElem?_eq_none (by omega)]
 ·rw [if_neg e]
theorem numb_len (l:List Rz) (i n:Nat):(numb l i n).length=l.length:=by simp [numb]
structure Base (l0:List Rz):Prop where
 tree:TreeZ l0
 pos:0 < l0.length
 fill:∀ i,i < l0.length->filled (rat l0 i)=true
theorem base_of {l:List Rz} (h:(wrong [ab1] 0 l).2=false):Base l:=⟨(tree_of h).1,(tree_of h).2,fun _ hi=>wrong_all l _ _ h _ (List.mem_of_getElem? (some_rat hi))⟩
theorem filled_name {r:Rz} (h:filled r=true):r.name.size<=64:=by
 unfold filled at h
 rw [Bool.and_eq_true] at h
 have h1:=h.1
 unfold nameFits at h1
 split at h1
 ·unfold isName at h1
  simp only [Bool.and_eq_true,decide_eq_true_eq] at h1
  have:=h1.1.1
  rw [tx_len] at this
  exact this
 ·unfold none0 at h1
  have h2:r.name.toList=[]:=by simpa using h1
  rw [ByteArray.toList_eq] at h2
  have h3:r.name.size=r.name.data.toList.length:=rfl
  rw [h2] at h3
  rw [h3]
  decide
theorem filled_kid {r:Rz} (h:filled r=true) (hk:r.kind=7\/r.kind=8\/r.kind=9\/r.kind=10):1<=r.kids:=by
 unfold filled at h
 simp only [Bool.and_eq_true] at h
 have h1:=h.2.2.2
 unfold wtn at h1
 simp only [Bool.and_eq_true,decide_eq_true_eq] at h1
 have h2:least r.kind=1:=by
  unfold least
  rcases hk with e | e | e | e<;>rw [e]<;>decide
 rw [h2] at h1
 exact h1.1
theorem kid_in {l:List Rz} (hT:TreeZ l) {i:Nat} (hi:i < l.length) (hk:1<=(rat l i).kids):i+1 < l.length:=by
 have h1:=hT.kids i hi
 have h2:=(kid_at hT.whole hi (k:=0) (by omega)).1
 simpa [kidp,sz_zero] using h2
structure Good (l0:List Rz) (m:Nat) (s:Rs):Prop where
 like:s.rows.map clr=l0.map clr
 q:s.qs.length<=16
 v:s.vs.length<=16
 t:s.ts.length<=4
 u:s.us.length<=64
 kn:∀ e ∈ s.known,1<=e.2.1/\e.2.1<=4/\e.2.2.1 < s.cnt e.2.1
 kl:s.known.length=s.qs.length+s.vs.length+s.ts.length+s.us.length
 ul:∀ u ∈ s.us,u < l0.length
 el:s.ev.length<=m
theorem Good.cnt_le {l0:List Rz} {m:Nat} {s:Rs} (h:Good l0 m s) (z:Nat):s.cnt z<=mst z:=by
 have:=h.q
 have:=h.v
 have:=h.t
 have:=h.u
 unfold Rs.cnt mst
 repeat' split
 all_goals omega
theorem decl_cases (k:Int):(k=2/\decl k=1)\/(k=3/\decl k=1)\/(k=4/\decl k=2)\/(k=5/\decl k=3)\/(k=7/\decl k=4)\/(k ≠ 2/\k ≠ 3/\k ≠ 4/\k ≠ 5/\k ≠ 7/\decl k=0):=by
 unfold decl
 by_cases h2:k=2
 ·simp [h2]
 by_cases h3:k=3
 ·simp [h3]
 by_cases h4:k=4
 ·simp [h4]
 by_cases h5:k=5
 ·simp [h5]
 by_cases h7:k=7
 ·simp [h7]
 simp [h2,h3,h4,h5,h7]
theorem dec_lens (s:Rs) (i:Nat):(s.dec i).qs.length=s.qs.length+(if (rat s.rows i).kind=2 then 1 else if (rat s.rows i).kind=3 then 1 else 0)/\(s.dec i).vs.length=s.vs.length+(if (rat s.rows i).kind=4 then 1 else 0)/\(s.dec i).ts.length=s.ts.length+(if (rat s.rows i).kind=5 then 1 else 0)/\(s.dec i).us.length=s.us.length+(if (rat s.rows i).kind=7 then 1 else 0):=by
 unfold Rs.dec
 generalize rat s.rows i=x
 dsimp only
 refine ⟨?_,?_,?_,?_⟩
 ·split
  ·exact List.length_append
  ·split
   ·exact List.length_append
   ·rfl
 all_goals
  split
  ·exact List.length_append
  ·rfl
theorem cnt_dec (s:Rs) (i z:Nat) (hd:decl (rat s.rows i).kind ≠ 0):(s.dec i).cnt z=if z=decl (rat s.rows i).kind then s.cnt z+1 else s.cnt z:=by
 obtain ⟨h1,h2,h3,h4⟩:=dec_lens s i
 unfold Rs.cnt
 rw [h1,h2,h3,h4]
 generalize (rat s.rows i).kind=k at *
 rcases decl_cases k with ⟨rfl,ed⟩ | ⟨rfl,ed⟩ | ⟨rfl,ed⟩ | ⟨rfl,ed⟩ | ⟨rfl,ed⟩ | ⟨_,_,_,_,_,ed⟩
 all_goals
  first
  | exact absurd ed hd
  | (rw [ed]
     by_cases z1:z=1
     ·subst z1;rfl
     by_cases z2:z=2
     ·subst z2;rfl
     by_cases z3:z=3
     ·subst z3;rfl
     by_cases z4:z=4
     ·subst z4;rfl
     simp [z1,z2,z3,z4])
theorem good_D {l0:List Rz} (hB:Base l0) {m i:Nat} {s s':Rs} (hi:i < l0.length) (h:Good l0 m s) (hs:askD i s=.ok s'):Good l0 m s':=by
 have hk:=like_kind h.like hi
 have hf:=hB.fill i hi
 unfold askD at hs
 split at hs
 ·cases hs;exact h
 split at hs
 ·cases hs
 split at hs
 ·cases hs
 rename_i h1 h2 h3
 cases hs
 have hle:∀ z,z<=4->(s.dec i).cnt z<=mst z:=fun z _=>by
  have:=h.cnt_le z
  rw [cnt_dec s i z h1]
  split
  ·rename_i e
   subst e
   omega
  ·exact this
 have hge:∀ z,s.cnt z<=(s.dec i).cnt z:=fun z=>by
  rw [cnt_dec s i z h1]
  split<;>omega
 have c1:=hle 1 (by decide)
 have c2:=hle 2 (by decide)
 have c3:=hle 3 (by decide)
 have c4:=hle 4 (by decide)
 refine ⟨(numb_clr _ _ _).trans h.like,c1,c2,c3,c4,fun e he=>?_,?_,fun u hu=>?_,h.el⟩
 ·rcases List.mem_cons.1 he with rfl | he
  ·refine ⟨by dsimp only;omega,decl_le _,?_⟩
   dsimp only
   rw [cnt_dec s i _ h1,if_pos rfl]
   exact Nat.lt_succ_self _
  ·obtain ⟨a,b,c⟩:=h.kn e he
   exact ⟨a,b,Nat.lt_of_lt_of_le c (hge _)⟩
 ·obtain ⟨e1,e2,e3,e4⟩:=dec_lens s i
  have hl:(s.dec i).known.length=s.known.length+1:=rfl
  rw [hl,h.kl,e1,e2,e3,e4]
  generalize (rat s.rows i).kind=k at *
  rcases decl_cases k with ⟨rfl,ed⟩ | ⟨rfl,ed⟩ | ⟨rfl,ed⟩ | ⟨rfl,ed⟩ | ⟨rfl,ed⟩ | ⟨_,_,_,_,_,ed⟩
  all_goals
   first
   | exact absurd ed h1
   | (simp;omega)
 ·have hu2:u ∈ (if (rat s.rows i).kind=7 then s.us++[i+1] else s.us):=hu
  split at hu2
  ·rename_i e
   rcases List.mem_append.1 hu2 with hu2 | hu2
   ·exact h.ul u hu2
   ·rw [List.mem_singleton.1 hu2]
    exact kid_in hB.tree hi (filled_kid hf (Or.inl (hk.1 ▸ e)))
  ·exact h.ul u hu2
theorem good_M {l0:List Rz} {m i:Nat} {s s':Rs} (h:Good l0 m s) (hs:askM i s=.ok s'):Good l0 m s':=by
 unfold askM at hs
 split at hs
 ·cases hs;exact h
 split at hs
 ·cases hs
 split at hs
 ·cases hs
 split at hs
 ·cases hs
 ·cases hs
  exact ⟨(numb_clr _ _ _).trans h.like,h.q,h.v,h.t,h.u,h.kn,h.kl,h.ul,h.el⟩
theorem good_H {l0:List Rz} {m i:Nat} {s s':Rs} (h:Good l0 m s) (hs:askH i s=.ok s'):Good l0 (m+1) s':=by
 unfold askH at hs
 split at hs
 ·cases hs;exact ⟨h.like,h.q,h.v,h.t,h.u,h.kn,h.kl,h.ul,Nat.le_succ_of_le h.el⟩
 split at hs
 ·cases hs
 ·cases hs
  exact ⟨h.like,h.q,h.v,h.t,h.u,h.kn,h.kl,h.ul,Nat.succ_le_succ h.el⟩
theorem num_M {l0:List Rz} {m i:Nat} {s s':Rs} (hi:i < l0.length) (h:Good l0 m s) (hs:askM i s=.ok s') (he:(evt (rat s'.rows i)).1=1):0<=(rat s'.rows i).n/\(rat s'.rows i).n<=16:=by
 have hlen:=like_len h.like
 have hkd:∀ x:Rz,(evt x).1=1->nmd x.kind=1:=fun x hx=>by
  unfold evt at hx
  split at hx
  ·rename_i hk
   rcases hk with e | e<;>(rw [e];decide)
  ·split at hx<;>cases hx
 unfold askM at hs
 split at hs
 ·rename_i h0
  cases hs
  have:=hkd _ he
  omega
 split at hs
 ·cases hs
 rename_i k mm p hlk
 split at hs
 ·cases hs
 split at hs
 ·cases hs
 ·rename_i hne
  cases hs
  dsimp only at he ⊢
  rw [rat_numb (by omega)] at he ⊢
  have h1:=hkd _ he
  have h2:=(h.kn _ (lk_mem hlk)).2.2
  dsimp only at h1 h2 ⊢
  have hk1:k=1:=by omega
  rw [hk1] at h2
  simp only [Rs.cnt] at h2
  have:=h.q
  simp at h2
  omega
end Go.Proofs.YtfgpbdieaflclaaGreat.Nm
