import Derived.Deep.RegionHeld
import Derived.Below
import Derived.Laws.RangeAny
import Derived.Lib.SlBytesRow
import Derived.KernelRfl
import Derived.Test.YtfgpbdieaflclaaGreatRows
import Derived.WalkKit
import Derived.WalkSpells
import Derived.WalkLawsBesides
import Derived.Deep.QuietTactic
import Derived.BigQuiet
import Derived.Deep.LoopGhost
import Derived.Lib.BufferWrite
import Derived.Laws.MakeOwn
import Derived.Laws.CopyOwn
set_option maxHeartbeats 3200000
namespace Go.Proofs.YtfgpbdieaflclaaGreat
open Go.RowKit in
theorem hdn {p : Prop} (h : p) : Hid p := h
open Go.RowKit in
theorem bAl (w : World) (c : Obj) : Below w.heap.size w (w.alloc c) := (Below.refl _ w).alloc (Nat.le_refl _) c
end Go.Proofs.YtfgpbdieaflclaaGreat
namespace Go.Proofs.YtfgpbdieaflclaaGreat.Nm
section
variable {P : Program} {ops : Array Oper} {Q : Exit → Act → World → Prop} {md : Region.Mode} {S : World → Prop}
theorem tk {i : Nat} {oi : Oper} {v : Value} {fuel : Nat} {listed : Array Bool} {a : Act} {w : World} (hi : ops[i]? = some oi) (hy : YieldsIf P ops S oi v a) (hS : S w)
    (h : wpAnyH P md ops Q S fuel (listed.setIfInBounds i true) (a.put oi.dst v) w) (hs : Region.noSelect ops = true := by kernel_rfl) (hf : Region.free md ops listed i = true := by kernel_rfl) (hr : (Region.ready md ops listed).contains i = true := by kernel_rfl)
    (hQ : ∀ c a w, Q (.panic c) (a.put oi.dst v) w → Q (.panic c) a w := by exact fun _ _ _ h => h) : wpAnyH P md ops Q S (fuel + 1) listed a w := wpAnyH_take hi hs hf hr hQ hy hS h
theorem tq (i : Nat) {oi : Oper} {v : Value} {fuel : Nat} {listed : Array Bool} {a : Act} {w : World} (hi : ops[i]? = some oi) (hS : S w)
    (h : wpAnyH P md ops Q S fuel (listed.setIfInBounds i true) (a.put oi.dst v) w) (hy : YieldsIf P ops S oi v a := by (refine Or.inl ⟨by rfl, fun w hSw => ?_⟩; (try dsimp only at hSw); (repeat (have := hSw.1; replace hSw := hSw.2)); first | (go_simp; done) | (go_simp; with_reducible rfl)))
    (hs : Region.noSelect ops = true := by kernel_rfl) (hf : Region.free md ops listed i = true := by kernel_rfl) (hr : (Region.ready md ops listed).contains i = true := by kernel_rfl)
    (hQ : ∀ c a w, Q (.panic c) (a.put oi.dst v) w → Q (.panic c) a w := by exact fun _ _ _ h => h) : wpAnyH P md ops Q S (fuel + 1) listed a w := wpAnyH_take hi hs hf hr hQ hy hS h
theorem rd1 (i : Nat) {fuel : Nat} {listed : Array Bool} {a : Act} {w : World} {o : Oper} (ho : ops[i]? = some o)
    (h : ∀ K' : Act → World → Prop, Shut (∀ a w, S w → (S w → wpAnyH P md ops Q S fuel (listed.setIfInBounds i true) a w) → K' a w) → if Region.wanted o (yielded ops a.tmps) = true then Oper.wp P o a w K' Q else K' (a.put o.dst undef) w) (hr : Region.ready md ops listed = [i] := by kernel_rfl) : wpAnyH P md ops Q S (fuel + 1) listed a w :=
  wpAnyH_ready hr (by simp) (AllReadyH.cons ho h AllReadyH.nil)
theorem rd2 (i j : Nat) {fuel : Nat} {listed : Array Bool} {a : Act} {w : World} {o o' : Oper} (hr : Region.ready md ops listed = [i, j]) (ho : ops[i]? = some o) (ho' : ops[j]? = some o')
    (h : ∀ K' : Act → World → Prop, Shut (∀ a w, S w → (S w → wpAnyH P md ops Q S fuel (listed.setIfInBounds i true) a w) → K' a w) → if Region.wanted o (yielded ops a.tmps) = true then Oper.wp P o a w K' Q else K' (a.put o.dst undef) w)
    (h' : ∀ K' : Act → World → Prop, Shut (∀ a w, S w → (S w → wpAnyH P md ops Q S fuel (listed.setIfInBounds j true) a w) → K' a w) → if Region.wanted o' (yielded ops a.tmps) = true then Oper.wp P o' a w K' Q else K' (a.put o'.dst undef) w) : wpAnyH P md ops Q S (fuel + 1) listed a w :=
  wpAnyH_ready hr (by simp) (AllReadyH.cons ho h (AllReadyH.cons ho' h' AllReadyH.nil))
end
end Go.Proofs.YtfgpbdieaflclaaGreat.Nm
namespace Go.Proofs.YtfgpbdieaflclaaGreat.Sp
end Go.Proofs.YtfgpbdieaflclaaGreat.Sp
namespace Go.Proofs.YtfgpbdieaflclaaGreat.Lx
def isL (c:Nat):Bool:=(decide (97<=c) && decide (c<=122)) || (decide (65<=c) && decide (c<=90)) || c == 95
def isD (c:Nat):Bool:=decide (48<=c) && decide (c<=57)
def isW (c:Nat):Bool:=isL c || isD c
def bytes (s:String):List Nat:=s.toList.map Char.toNat
def kept : List (List Nat) := ["policy", "queue", "resident", "ghost", "var", "in", "tag", "require", "rule", "on", "hit", "miss", "if", "else", "loop", "while", "set", "mark", "insert", "move", "forget", "shift", "evict", "to", "drop", "call", "pass", "front", "back", "x", "true", "false", "len", "cap", "size", "total", "empty", "full", "at", "min", "max"].map bytes
theorem takeWhile_all {p:Nat->Bool} {l:List Nat} (h:∀ c ∈ l,p c=true):l.takeWhile p=l:=by
 induction l with
 | nil=>rfl
 | cons c r ih=>
  rw [List.takeWhile_cons,if_pos (h c (by simp)),ih fun x hx=>h x (by simp [hx])]
theorem takeWhile_mem {p:Nat->Bool} {l:List Nat} : ∀ c ∈ l.takeWhile p,p c=true:=by
 induction l with
 | nil=>simp
 | cons c r ih=>
  intro x hx
  rw [List.takeWhile_cons] at hx
  split at hx
  ·rcases List.mem_cons.1 hx with rfl | h
   ·assumption
   ·exact ih x h
  ·cases hx
theorem takeWhile_take {p:Nat->Bool} (l:List Nat):l.take (l.takeWhile p).length=l.takeWhile p:=by
 induction l with
 | nil=>simp
 | cons c r ih=>
  rw [List.takeWhile_cons]
  split
  ·simp [ih]
  ·simp
def shaped:List Nat->Bool
 | []=>false
 | c :: r=>isL c && r.all isW
def isName (t:List Nat):Bool:=decide (t.length<=64) && shaped t && !kept.contains t
theorem kept_shaped:kept.all (fun t=>shaped t && decide (t.length<=20))=true:=by decide +kernel
theorem shaped_of_kept {t:List Nat} (h:kept.contains t=true):shaped t=true/\t.length<=20:=by
 have h1:=List.all_eq_true.1 kept_shaped t (by simpa using h)
 simpa using h1
end Go.Proofs.YtfgpbdieaflclaaGreat.Lx
namespace Go.Proofs.YtfgpbdieaflclaaGreat.Lx
open Sp
def tx (s:ByteArray):List Nat:=s.data.toList.map UInt8.toNat
theorem tx_len (s:ByteArray):(tx s).length=s.size:=by rw [tx,List.length_map];rfl
def nb (s:ByteArray) (k:Nat):Nat:=(tx s).getD k 0
theorem tx_drop {s:ByteArray} {i:Nat} (h:i < s.size):(tx s).drop i=nb s i :: (tx s).drop (i+1):=by
 have h1:i < (tx s).length:=by rw [tx_len];exact h
 rw [List.drop_eq_getElem_cons h1]
 simp [nb,List.getD,h1]
theorem tx_drop_end {s:ByteArray} {i:Nat} (h:s.size<=i):(tx s).drop i=[]:=List.drop_eq_nil_of_le (by rw [tx_len];exact h)
def ru (p:Nat->Bool) (s:ByteArray) (i:Nat):Nat:=i+(((tx s).drop i).takeWhile p).length
theorem ru_in {p:Nat->Bool} {s:ByteArray} {i:Nat} (h:i < s.size) (hp:p (nb s i)=true):ru p s i=ru p s (i+1):=by
 unfold ru;rw [tx_drop h,List.takeWhile_cons,if_pos hp,List.length_cons];omega
theorem ru_out {p:Nat->Bool} {s:ByteArray} {i:Nat} (h:i < s.size) (hp:p (nb s i)=false):ru p s i=i:=by
 unfold ru;rw [tx_drop h,List.takeWhile_cons,hp];rfl
theorem ru_end {p:Nat->Bool} {s:ByteArray} {i:Nat} (h:s.size<=i):ru p s i=i:=by
 unfold ru;rw [tx_drop_end h];rfl
def inner:List Nat->List (List Nat)
 | []=>[]
 | c :: r=>if c=32 then (if (r.dropWhile (· != 32)).isEmpty then [] else [r.takeWhile (· != 32)])++inner r else inner r
def Occurs (K t:List Nat) (i:Nat):Prop:=∃ a b,K=a++32 :: (t++32 :: b)/\a.length=i
theorem take_drop_while (p:Nat->Bool) (l:List Nat):l=l.takeWhile p++l.dropWhile p:=(List.takeWhile_append_dropWhile).symm
theorem while_of {t b:List Nat} (ht:∀ c ∈ t,c ≠ 32):(t++32 :: b).takeWhile (· != 32)=t/\(t++32 :: b).dropWhile (· != 32)=32 :: b:=by
 induction t with
 | nil=>simp
 | cons c t ih=>
  have h1:(c != 32)=true:=by simpa using ht c (by simp)
  have h2:=ih fun x hx=>ht x (by simp [hx])
  rw [List.cons_append,List.takeWhile_cons,List.dropWhile_cons,if_pos h1,if_pos h1,h2.1,h2.2]
  exact ⟨rfl,rfl⟩
theorem dropWhile_head {l:List Nat} (h:(l.dropWhile (· != 32)).isEmpty=false):∃ b,l.dropWhile (· != 32)=32 :: b:=by
 induction l with
 | nil=>simp at h
 | cons c r ih=>
  rw [List.dropWhile_cons] at h ⊢
  split
  ·rename_i h1;rw [if_pos h1] at h;exact ih h
  ·rename_i h1
   have:c=32:=by simpa using h1
   exact ⟨r,by rw [this]⟩
theorem inner_iff {K t:List Nat} (ht:∀ c ∈ t,c ≠ 32):t ∈ inner K ↔ ∃ i,Occurs K t i:=by
 induction K with
 | nil=>
  constructor
  ·intro h;cases h
  ·rintro ⟨i,a,b,h,_⟩;simp at h
 | cons c r ih=>
  constructor
  ·intro h
   have up:t ∈ inner r->∃ i,Occurs (c :: r) t i:=by
    intro h1
    obtain ⟨i,a,b,e,hl⟩:=ih.1 h1
    exact ⟨i+1,c :: a,b,by rw [e];rfl,by simp [hl]⟩
   simp only [inner] at h
   split at h
   ·rename_i hc
    rcases List.mem_append.1 h with h1 | h1
    ·split at h1
     ·cases h1
     ·rename_i h2
      obtain ⟨b,hb⟩:=dropWhile_head (by simpa using h2)
      have h3:t=r.takeWhile (· != 32):=by simpa using h1
      refine ⟨0,[],b,?_,rfl⟩
      rw [List.nil_append,hc,h3,<-hb,<-take_drop_while]
    ·exact up h1
   ·exact up h
  ·rintro ⟨i,a,b,e,hl⟩
   simp only [inner]
   cases a with
   | nil=>
    rw [List.nil_append] at e
    injection e with e1 e2
    have hw:=while_of (b:=b) ht
    rw [if_pos e1,e2,hw.1,hw.2]
    simp
   | cons x a=>
    rw [List.cons_append] at e
    injection e with e1 e2
    have h1:=ih.2 ⟨a.length,a,b,e2,rfl⟩
    split
    ·exact List.mem_append.2 (Or.inr h1)
    ·exact h1
def keptText : List Nat := bytes " policy queue resident ghost var in tag require rule on hit miss if else loop while set mark insert move forget shift evict to drop call pass front back x true false len cap size total empty full at min max "
theorem inner_kept:inner keptText=kept:=by decide +kernel
end Go.Proofs.YtfgpbdieaflclaaGreat.Lx
namespace Go.Proofs.YtfgpbdieaflclaaGreat.Lx
open Go.RowKit Sp
def IsBytes (w:World) (ao:Option Addr) (s:ByteArray):Prop:=∀ i,i < s.size->∃ g o,ao=some ⟨g,o,none⟩/\g < w.heap.size/\w.cell? ⟨g,o+i,none⟩=some (.int .u8 (nb s i:Nat))
theorem below_drewN (w:World) (n:Nat):Below w.heap.size w (w.drewN n):=by
 induction n with
 | zero=>exact Below.refl _ _
 | succ n ih=>exact ih.drew
theorem nb_get (s:ByteArray) (i:Nat) (h:i < s.size):nb s i=s[i].toNat:=by
 unfold nb tx
 have e:s.data.toList[i]?=some s[i]:=byte_at s i h
 simp only [List.getD,List.getElem?_map,e,Option.map_some,Option.getD_some]
theorem tx_extract (s:ByteArray) (l h:Nat):tx (s.extract l h)=((tx s).drop l).take (h - l):=by
 unfold tx
 rw [Lib.extract_data,List.map_take,List.map_drop]
theorem ret_b {a b:Bool} (h:a=b):Ending.returned (.bool a)=.returned (.bool b):=by rw [h]
theorem ret_i {k:IntKind} {a b:Int} (h:a=b):Ending.returned (.int k a)=.returned (.int k b):=by rw [h]
end Go.Proofs.YtfgpbdieaflclaaGreat.Lx
namespace Go.Proofs.YtfgpbdieaflclaaGreat.Nm
open Go.RowKit Sp Lx
def decl (k:Int):Nat:=if k=2\/k=3 then 1 else if k=4 then 2 else if k=5 then 3 else if k=7 then 4 else 0
def nmd (k:Int):Nat:=
 if k=8\/k=9\/k=16\/k=17\/k=21\/k=19\/k=20\/k=24\/k=26\/k=31\/k=32\/k=35\/k=36\/k=37 then 1
 else if k=14\/k=28 then 2 else if k=15\/k=38 then 3 else if k=22 then 4 else 0
def mst (k:Nat):Nat:=if k=1 then 16 else if k=2 then 16 else if k=3 then 4 else if k=4 then 64 else 0
theorem nmd_le (k:Int):nmd k<=4:=by
 unfold nmd
 repeat' split
 all_goals omega
theorem decl_le (k:Int):decl k<=4:=by
 unfold decl
 repeat' split
 all_goals omega
theorem declared_any (k:Int) (w:World):Calls Tryz.prog 68 #[.int .i64 k] w fun e w'=>e=.returned (.int .i64 (decl k:Nat))/\w'=w:=by
 have HD:Hid (decl k=if k=2\/k=3 then 1 else if k=4 then 2 else if k=5 then 3 else if k=7 then 4 else 0):=rfl
 generalize decl k=z at *
 go_enter Tryz.func68,Tryz.ntmps68
 go_wp2
 all_goals
  go_ret
  refine ⟨?_,rfl⟩
  rw [HD.out]
  simp_all
theorem named_any (k:Int) (w:World):Calls Tryz.prog 73 #[.int .i64 k] w fun e w'=>e=.returned (.int .i64 (nmd k:Nat))/\w'=w:=by
 have HD:Hid (nmd k=if k=8\/k=9\/k=16\/k=17\/k=21\/k=19\/k=20\/k=24\/k=26\/k=31\/k=32\/k=35\/k=36\/k=37 then 1 else if k=14\/k=28 then 2 else if k=15\/k=38 then 3 else if k=22 then 4 else 0):=rfl
 generalize nmd k=z at *
 go_enter Tryz.func73,Tryz.ntmps73
 go_wp2
 all_goals
  go_ret
  refine ⟨?_,rfl⟩
  rw [HD.out]
  simp_all
def pls (a b:Nat):Nat:=min a (4611686018427387904 - b)+b
theorem plus_any (a b:Nat) (ha:a<=4611686018427387904) (hb:b<=4611686018427387904) (w:World):Calls Tryz.prog 78 #[.int .i64 a,.int .i64 b] w fun e w'=>e=.returned (.int .i64 (pls a b:Nat))/\w'=w:=by
 have h1:(a:Int)<=4611686018427387904:=by omega
 have h2:(b:Int)<=4611686018427387904:=by omega
 have HP:Hid ((pls a b:Int)=min (a:Int) (4611686018427387904 - (b:Int))+b):=by
  show _=_
  unfold pls
  omega
 go_enter Tryz.func78,Tryz.ntmps78
 go_wp2
 all_goals
  go_ret
  refine ⟨?_,rfl⟩
  rw [HP.out]
  first | rfl | simp
theorem pls_le (a b:Nat) (hb:b<=4611686018427387904):pls a b<=4611686018427387904:=by unfold pls;omega
end Go.Proofs.YtfgpbdieaflclaaGreat.Nm
