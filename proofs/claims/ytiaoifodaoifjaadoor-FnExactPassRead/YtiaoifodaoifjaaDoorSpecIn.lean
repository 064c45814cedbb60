/- The contract of spec.l03In: a Sib put in its place. Condition: at most 1000 Sibs. -/
import Derived.Test.YtiaoifodaoifjaaDoorPosMath
import Derived.Test.YtiaoifodaoifjaaDoorSibLess
import Derived.Test.YtiaoifodaoifjaaDoorSibLaw
import Derived.Test.YtiaoifodaoifjaaDoorFrame2
import Derived.Deep.RegionHeld3
set_option linter.unusedSimpArgs false
set_option linter.unusedVariables false
namespace Go.Proofs.YtiaoifodaoifjaaDoor.Sb
open Go.RowKit Go.Proofs.YtiaoifodaoifjaaDoor.Mk Go.Proofs.YtiaoifodaoifjaaDoor.Rw

/-- a Sib among others, in its place -/
def ins (s : List Sib) (x : Sib) : List Sib := s.take (pos s x.1) ++ x :: s.drop (pos s x.1)
/-- a slice's head: nil, or an address and room -/
def Head (a : Option Addr) (n cap : Nat) : Prop := (a = none ∧ n = 0 ∧ cap = 0) ∨ ∃ g off, a = some ⟨g, off, none⟩ ∧ n ≤ cap ∧ cap ≤ maxLen
/-- what a call that makes a slice of Sibs leaves, with the slice's head -/
def SGivesH (w : World) (l : List Sib) (e : Ending) (w' : World) : Prop :=
  ∃ a cap, e = .returned (.slice a l.length cap) ∧ Head a l.length cap ∧ SOwnIn w' w.heap.size w'.heap.size a l ∧ Below w.heap.size w w'
theorem flat_one {l : List Sib} : ∀ u ∈ flatE 4 senc l, u.oneCell' = true := by
  intro u hu
  unfold flatE at hu
  obtain ⟨x, _, hx⟩ := List.mem_flatMap.1 hu
  obtain ⟨j, hj, rfl⟩ := List.mem_map.1 hx
  have hj4 : j < 4 := List.mem_range.1 hj
  match j, hj4 with
  | 0, _ => rfl
  | 1, _ => rfl
  | 2, _ => rfl
  | 3, _ => rfl
/-- the cells of a row, one behind the other -/
theorem row_flat {α : Type} {k : Nat} {enc : α → Nat → Value} {w : World} {g off : Nat} {l : List α} (hk : 0 < k) (h : RowAt k enc w (some ⟨g, off, none⟩) l) : ∀ j u, (flatE k enc l)[j]? = some u → w.cell? ((⟨g, off, none⟩ : Addr).add j) = some u := by
  intro j u hu
  have e : (⟨g, off, none⟩ : Addr).add j = ⟨g, off + j, none⟩ := by unfold Addr.add; split <;> simp_all
  rw [e]
  have hj : j < l.length * k := by
    have := (List.getElem?_eq_some_iff.1 hu).1
    rwa [flatE_length] at this
  have hd := Nat.div_add_mod j k
  have hm := Nat.mod_lt j hk
  have hi : j / k < l.length := Nat.div_lt_of_lt_mul (by rwa [Nat.mul_comm])
  have hg := flatE_get (enc := enc) l (j / k) hi (j % k) hm
  have ej : j / k * k + j % k = j := by rw [Nat.mul_comm]; exact hd
  rw [ej] at hg
  rw [hg] at hu
  rcases h with rfl | ⟨g2, off2, ha, hc⟩
  · cases hi
  · obtain ⟨rfl, rfl⟩ : g = g2 ∧ off = off2 := by simpa using ha
    have := hc (j / k) hi (j % k) hm
    rw [Nat.add_assoc, ej] at this
    rw [this]; exact hu
theorem sibs_take {w : World} {g off : Nat} {s : List Sib} (k : Nat) (h : SibsAt w (some ⟨g, off, none⟩) s) : SibsAt w (some ⟨g, off, none⟩) (s.take k) := by
  rcases h with rfl | ⟨g2, off2, ha, hc⟩
  · exact .inl (by simp)
  · exact .inr ⟨g2, off2, ha, fun i hi j hj => by
      have hi' : i < s.length := by rw [List.length_take] at hi; omega
      rw [hc i hi' j hj, List.getElem_take]⟩
theorem sibs_drop {w : World} {g off : Nat} {s : List Sib} (k : Nat) (h : SibsAt w (some ⟨g, off, none⟩) s) : SibsAt w (some ⟨g, off + k * 4, none⟩) (s.drop k) := by
  rcases h with rfl | ⟨g2, off2, ha, hc⟩
  · exact .inl (by simp)
  · obtain ⟨rfl, rfl⟩ : g = g2 ∧ off = off2 := by simpa using ha
    exact .inr ⟨g, off + k * 4, rfl, fun i hi j hj => by
      have hi' : k + i < s.length := by rw [List.length_drop] at hi; omega
      have := hc (k + i) hi' j hj
      rw [show off + k * 4 + i * 4 + j = off + (k + i) * 4 + j by omega, this, List.getElem_drop]⟩
end Go.Proofs.YtiaoifodaoifjaaDoor.Sb
