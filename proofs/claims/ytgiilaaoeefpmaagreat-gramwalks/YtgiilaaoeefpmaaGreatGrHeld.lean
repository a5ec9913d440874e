import Derived.Test.YtgiilaaoeefpmaaGreatGrAll
import Derived.Test.YtgiilaaoeefpmaaGreatGrIns2
import Derived.Test.YtgiilaaoeefpmaaGreatGrRev3
import Derived.Test.YtgiilaaoeefpmaaGreatGrRev4
namespace Go.Proofs.YtgiilaaoeefpmaaGreat.Gr
open Go.RowKit Go.Proofs.YtgiilaaoeefpmaaGreat.Sp Go.Proofs.YtgiilaaoeefpmaaGreat.Lx Go.Maps

/-- the kind of a sign of two, 0: it is none -/
def signOf (k : List UInt8) : Nat :=
  match look signTab k with
  | some (.int _ n) => n.toNat
  | _ => 0
theorem look_ints (k : List UInt8) : ∀ (l : Tab) (o : Option Value), (∀ p ∈ l, ∃ n : Nat, n ≤ 54 ∧ p.2 = .int .i64 n) → (o = none ∨ ∃ n : Nat, n ≤ 54 ∧ o = some (.int .i64 n)) →
    (l.foldl (fun o p => if p.1 = k then some p.2 else o) o = none ∨ ∃ n : Nat, n ≤ 54 ∧ l.foldl (fun o p => if p.1 = k then some p.2 else o) o = some (.int .i64 n)) := by
  intro l
  induction l with
  | nil => intro o _ h; exact h
  | cons p l ih =>
    intro o hl h
    rw [List.foldl_cons]
    refine ih _ (fun q hq => hl q (by simp [hq])) ?_
    split
    · obtain ⟨n, h1, h2⟩ := hl p (by simp)
      exact Or.inr ⟨n, h1, by rw [h2]⟩
    · exact h
theorem sign_tab : ∀ p ∈ signTab, ∃ n : Nat, n ≤ 54 ∧ p.2 = .int .i64 n := by
  intro p hp
  simp only [signTab, List.mem_cons, List.not_mem_nil, or_false] at hp
  rcases hp with rfl | rfl | rfl | rfl | rfl | rfl | rfl | rfl | rfl | rfl | rfl | rfl
  · exact ⟨54, by omega, rfl⟩
  · exact ⟨53, by omega, rfl⟩
  · exact ⟨47, by omega, rfl⟩
  · exact ⟨48, by omega, rfl⟩
  · exact ⟨49, by omega, rfl⟩
  · exact ⟨50, by omega, rfl⟩
  · exact ⟨51, by omega, rfl⟩
  · exact ⟨52, by omega, rfl⟩
  · exact ⟨45, by omega, rfl⟩
  · exact ⟨46, by omega, rfl⟩
  · exact ⟨43, by omega, rfl⟩
  · exact ⟨44, by omega, rfl⟩
theorem sign_look (k : List UInt8) : heldOr (look signTab k) (.held (.int .i64 0)) = .held (.int .i64 (signOf k : Nat)) ∧ signOf k ≤ 54 := by
  have h := look_ints k signTab none sign_tab (Or.inl rfl)
  unfold signOf
  rcases h with h | ⟨n, h1, h⟩
  · rw [show look signTab k = none from h]
    exact ⟨rfl, Nat.zero_le 54⟩
  · rw [show look signTab k = some (.int .i64 n) from h]
    exact ⟨rfl, by simpa using h1⟩

def row2 (k : Nat) : Rw := ⟨k, ⟨#[]⟩, 0, 0, 2⟩
/-- a rule's signs and the parts behind them -/
def signs (E : Env) (part : PS → O Unit) (rule most : Nat) : Nat → List (Nat × Nat) → PS → O (List (Nat × Nat))
  | 0, _, _ => none
  | n + 1, acc, s =>
    if acc.length < most then
      if E.bad s then some (.die E.ce E.ca) else
      if ruleOf (signOf (E.wd s).data.toList) = rule then O.bind (part s.skip) fun _ s' => signs E part rule most n (acc ++ [(signOf (E.wd s).data.toList, (E.tok s).at_)]) s'
      else some (.ok acc s)
    else some (.ok acc s)
def laid (first : Nat) (acc : List (Nat × Nat)) (s : PS) : PS :=
  { s with rows := s.rows.take first ++ (acc.map fun p => row2 p.1).reverse ++ s.rows.drop first, places := s.places.take first ++ (acc.map fun p => p.2).reverse ++ s.places.drop first }
def held (E : Env) (part : PS → O Unit) (rule most N : Nat) (s : PS) : O Unit :=
  O.bind (part s) fun _ s1 => O.bind (signs E part rule most N [] s1) fun acc s2 => some (.ok () (laid s.rows.length acc s2))

theorem zeroint (w : World) : (zeroValue 3).run Tryz.prog w = .ok (.int .i64 0) w := by kernel_rfl
theorem rule_sign {k : List UInt8} {r : Nat} (h : ruleOf (signOf k) = r) (hr : r < 6) : k ≠ [] := by
  intro e
  subst e
  have : ruleOf (signOf []) = 7 := by decide
  omega
end Go.Proofs.YtgiilaaoeefpmaaGreat.Gr
