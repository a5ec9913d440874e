import Derived.Test.YtfgpbdieaflclaaGreatK12
set_option maxHeartbeats 1600000
set_option maxRecDepth 100000
namespace Go.Proofs.YtfgpbdieaflclaaGreat.Nm
open Go.RowKit Go.Maps Sp Lx Gr
theorem alloc_at (w:World) (x:Obj) (k:Nat) (hk:k=w.heap.size):(w.alloc x).heap[k]?=some x:=hk ▸ heap_alloc_new w x
theorem alloc_old (w:World) (x:Obj) (k:Nat) (hk:k < w.heap.size):(w.alloc x).heap[k]?=w.heap[k]?:=Below.heap_alloc w x k hk
theorem naming_made (W:World) (rows:Value) (kb:Nat) (hr:∃ ao n c,rows=.slice ao n c):
  Calls Tryz.prog 50 #[rows,.map (some kb)] W fun e w'=>e=.returned (.func (.func (askF 1)) #[] #[ptr0 W.heap.size,ptr0 (W.heap.size+1)])/\Below W.heap.size W w'/\w'.heap.size=W.heap.size+2/\w'.heap[W.heap.size]?=some (.cells #[rows] 22 (0,0))/\w'.heap[W.heap.size+1]?=some (.cells #[.map (some kb)] 86 (0,0)):=by
 obtain ⟨ao,n,c,rfl⟩:=hr
 have HX:Hid (Below W.heap.size W ((W.alloc (.cells #[.slice ao n c] 22)).alloc (.cells #[.map (some kb)] 86))/\((W.alloc (.cells #[.slice ao n c] 22)).alloc (.cells #[.map (some kb)] 86)).heap.size=W.heap.size+2/\((W.alloc (.cells #[.slice ao n c] 22)).alloc (.cells #[.map (some kb)] 86)).heap[W.heap.size]?=some (.cells #[.slice ao n c] 22 (0,0))/\((W.alloc (.cells #[.slice ao n c] 22)).alloc (.cells #[.map (some kb)] 86)).heap[W.heap.size+1]?=some (.cells #[.map (some kb)] 86 (0,0))):=
  ⟨(bAl W _).alloc (by simp only [World.size_alloc];omega) _,by simp,by rw [alloc_old _ _ _ (by simp only [World.size_alloc];omega)];exact alloc_at _ _ _ rfl,alloc_at _ _ _ (by simp)⟩
 go_enter Tryz.func50,Tryz.ntmps50
 go_wp2
 go_ret
 exact ⟨rfl,HX.out⟩
theorem happening_made (W:World) (rows:Value) (kb:Nat) (hr:∃ ao n c,rows=.slice ao n c):
  Calls Tryz.prog 51 #[rows,.map (some kb)] W fun e w'=>e=.returned (.func (.func (askF 2)) #[] #[ptr0 W.heap.size,ptr0 (W.heap.size+1)])/\Below W.heap.size W w'/\w'.heap.size=W.heap.size+2/\w'.heap[W.heap.size]?=some (.cells #[rows] 22 (0,0))/\w'.heap[W.heap.size+1]?=some (.cells #[.map (some kb)] 87 (0,0)):=by
 obtain ⟨ao,n,c,rfl⟩:=hr
 have HX:Hid (Below W.heap.size W ((W.alloc (.cells #[.slice ao n c] 22)).alloc (.cells #[.map (some kb)] 87))/\((W.alloc (.cells #[.slice ao n c] 22)).alloc (.cells #[.map (some kb)] 87)).heap.size=W.heap.size+2/\((W.alloc (.cells #[.slice ao n c] 22)).alloc (.cells #[.map (some kb)] 87)).heap[W.heap.size]?=some (.cells #[.slice ao n c] 22 (0,0))/\((W.alloc (.cells #[.slice ao n c] 22)).alloc (.cells #[.map (some kb)] 87)).heap[W.heap.size+1]?=some (.cells #[.map (some kb)] 87 (0,0))):=
  ⟨(bAl W _).alloc (by simp only [World.size_alloc];omega) _,by simp,by rw [alloc_old _ _ _ (by simp only [World.size_alloc];omega)];exact alloc_at _ _ _ rfl,alloc_at _ _ _ (by simp)⟩
 go_enter Tryz.func51,Tryz.ntmps51
 go_wp2
 go_ret
 exact ⟨rfl,HX.out⟩
theorem declaring_made (W:World) (pb kb:Nat):
  Calls Tryz.prog 49 #[.pointer (some ⟨pb,0,none⟩),.map (some kb)] W fun e w'=>e=.returned (.func (.func (askF 0)) #[] #[ptr0 W.heap.size,ptr0 (W.heap.size+1),ptr0 (W.heap.size+3)])/\Below W.heap.size W w'/\w'.heap.size=W.heap.size+4/\w'.heap[W.heap.size]?=some (.cells #[.pointer (some ⟨pb,0,none⟩)] 91 (0,0))/\w'.heap[W.heap.size+1]?=some (.cells #[.map (some kb)] 86 (0,0))/\IsMp cmap w' (W.heap.size+2) (fun _=>none) 0/\w'.heap[W.heap.size+3]?=some (.cells #[.map (some (W.heap.size+2))] 105 (0,0)):=by
 have HX:Hid (∀ w2,w2=(W.alloc (.cells #[.pointer (some ⟨pb,0,none⟩)] 91)).alloc (.cells #[.map (some kb)] 86)->Below W.heap.size W ((w2.alloc (.map #[] 0)).alloc (.cells #[.map (some (W.heap.size+2))] 105))/\((w2.alloc (.map #[] 0)).alloc (.cells #[.map (some (W.heap.size+2))] 105)).heap.size=W.heap.size+4/\((w2.alloc (.map #[] 0)).alloc (.cells #[.map (some (W.heap.size+2))] 105)).heap[W.heap.size]?=some (.cells #[.pointer (some ⟨pb,0,none⟩)] 91 (0,0))/\((w2.alloc (.map #[] 0)).alloc (.cells #[.map (some (W.heap.size+2))] 105)).heap[W.heap.size+1]?=some (.cells #[.map (some kb)] 86 (0,0))/\IsMp cmap ((w2.alloc (.map #[] 0)).alloc (.cells #[.map (some (W.heap.size+2))] 105)) (W.heap.size+2) (fun _=>none) 0/\((w2.alloc (.map #[] 0)).alloc (.cells #[.map (some (W.heap.size+2))] 105)).heap[W.heap.size+3]?=some (.cells #[.map (some (W.heap.size+2))] 105 (0,0))):=by
  rintro w2 rfl
  refine ⟨(((bAl W _).alloc (by simp only [World.size_alloc];omega) _).alloc (by simp only [World.size_alloc];omega) _).alloc (by simp only [World.size_alloc];omega) _,by simp,?_,?_,?_,alloc_at _ _ _ (by simp)⟩
  ·rw [alloc_old _ _ _ (by simp only [World.size_alloc];omega),alloc_old _ _ _ (by simp only [World.size_alloc];omega),alloc_old _ _ _ (by simp only [World.size_alloc];omega)]
   exact alloc_at _ _ _ rfl
  ·rw [alloc_old _ _ _ (by simp only [World.size_alloc];omega),alloc_old _ _ _ (by simp only [World.size_alloc];omega)]
   exact alloc_at _ _ _ (by simp)
  ·have:=IsMp.made cmap ((W.alloc (.cells #[.pointer (some ⟨pb,0,none⟩)] 91)).alloc (.cells #[.map (some kb)] 86))
   have e:((W.alloc (.cells #[.pointer (some ⟨pb,0,none⟩)] 91)).alloc (.cells #[.map (some kb)] 86)).heap.size=W.heap.size+2:=by simp
   rw [e] at this
   exact this.same (alloc_old _ _ _ (by simp only [World.size_alloc];omega))
 have hmk:∀ u:World,(Instr.makeMap 105 none).run Tryz.prog u=.ok (.map (some u.heap.size)) (u.alloc (.map #[] 0)):=fun u=>by kernel_rfl
 go_enter Tryz.func49,Tryz.ntmps49
 go_wp2
 go_ret
 exact ⟨rfl,HX.out _ rfl⟩
end Go.Proofs.YtfgpbdieaflclaaGreat.Nm
