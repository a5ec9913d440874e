import Derived.Test.YtfgpbdieaflclaaGreatK18
set_option maxHeartbeats 1600000
namespace Go.Proofs.YtfgpbdieaflclaaGreat.Nm
def wtn10 (a:Int) (n:Nat):Nat:=if a.tmod n < 0 then (a.tmod n+n).toNat else (a.tmod n).toNat
theorem wtn10_lt (a:Int) {n:Nat} (hn:0 < n):wtn10 a n < n:=by
 have h1:=Int.tmod_lt_of_pos a (show (0:Int) < n by omega)
 have h2:=Int.lt_tmod_of_pos a (show (0:Int) < n by omega)
 unfold wtn10
 split<;>omega
end Go.Proofs.YtfgpbdieaflclaaGreat.Nm
namespace Go.Proofs.YtfgpbdieaflclaaGreat.Nm
open Go.RowKit Go.Maps Sp Lx Gr
theorem within_any (a:Int) (n:Nat) (hn:0 < n) (hn2:n<=17592186043904) (w:World):Calls Tryz.prog 6 #[.int .i64 a,.int .i64 (n:Int)] w fun r w'=>r=.returned (.int .i64 (wtn10 a n:Nat))/\w'=w:=by
 have h1:=Int.tmod_lt_of_pos a (show (0:Int) < n by omega)
 have h2:=Int.lt_tmod_of_pos a (show (0:Int) < n by omega)
 have hw:IntKind.i64.wrap (a.tmod n)=a.tmod n:=by
  rw [IntKind.wrap_i64]
  generalize a.tmod n=z at *
  omega
 have h3:((n:Int) == 0)=false:=by simp;omega
 have h4:(n:Int)<=17592186043904:=by omega
 by_cases h0:a.tmod n < 0
 ·have HR:Hid (wtn10 a n=(a.tmod n+n).toNat):=by show _=_;unfold wtn10;rw [if_pos h0]
  go_enter Tryz.func6,Tryz.ntmps6
  go_wp2
  go_ret
  exact ⟨by rw [HR.out,Int.toNat_of_nonneg (by omega)];rfl,rfl⟩
 ·have h5:decide (a.tmod n < 0)=false:=by simp;omega
  have HR:Hid (wtn10 a n=(a.tmod n).toNat):=by show _=_;unfold wtn10;rw [if_neg h0]
  go_enter Tryz.func6,Tryz.ntmps6
  go_wp2
  go_ret
  exact ⟨by rw [HR.out,Int.toNat_of_nonneg (by omega)];rfl,rfl⟩
end Go.Proofs.YtfgpbdieaflclaaGreat.Nm
