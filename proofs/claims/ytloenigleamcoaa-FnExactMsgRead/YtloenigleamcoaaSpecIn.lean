/- The contract of spec.l03In: a Sib put in its place. Condition: at most 1000 Sibs. -/
import Derived.Test.YtloenigleamcoaaPosMath
import Derived.Test.YtloenigleamcoaaSibLess
import Derived.Test.YtloenigleamcoaaSibLaw
import Derived.Test.YtloenigleamcoaaFrame2
import Derived.Deep.RegionHeld3
set_option linter.unusedSimpArgs false
set_option linter.unusedVariables false
namespace Go.Proofs.Ytloenigleamcoaa.Sb
open Go.RowKit Go.Proofs.Ytloenigleamcoaa.Mk Go.Proofs.Ytloenigleamcoaa.Rw

/-- a Sib among others, in its place -/
def ins (s : List Sib) (x : Sib) : List Sib := s.take (pos s x.1) ++ x :: s.drop (pos s x.1)
/-- a slice's head: nil, or an address and room -/
def Head (a : Option Addr) (n cap : Nat) : Prop := (a = none ∧ n = 0 ∧ cap = 0) ∨ ∃ g off, a = some ⟨g, off, none⟩ ∧ n ≤ cap ∧ cap ≤ maxLen
/-- what a call that makes a slice of Sibs leaves, with the slice's head -/
def SGivesH (w : World) (l : List Sib) (e : Ending) (w' : World) : Prop :=
  ∃ a cap, e = .returned (.slice a l.length cap) ∧ Head a l.length cap ∧ SOwnIn w' w.heap.size w'.heap.size a l ∧ Below w.heap.size w w'
/-- .. and with its room -/
def SGivesR (w : World) (l : List Sib) (e : Ending) (w' : World) : Prop :=
  ∃ a cap, e = .returned (.slice a l.length cap) ∧ Head a l.length cap ∧ SOwnIn w' w.heap.size w'.heap.size a l ∧ w'.ownsRow (w.heap.size + 1) 97 4 (.slice a l.length cap) l.length (flatE 4 senc l) ∧ Below w.heap.size w w'
theorem own_head {w : World} {B n : Nat} {v : Value} {l : List Sib} (h : w.ownsRow B 97 4 v n (flatE 4 senc l)) : ∃ a cap, v = .slice a l.length cap ∧ Head a l.length cap ∧ SOwnIn w B w.heap.size a l := by
  obtain ⟨a, cap, hv, ho⟩ := own_row (by decide) h
  refine ⟨a, cap, hv, ?_, ho⟩
  obtain ⟨hlen, hc⟩ := h
  rw [flatE_length] at hlen
  rcases hc with ⟨h1, h0⟩ | ⟨g, cp, cur, h1, hg, hh, hn, hm, hs, ht⟩
  · rw [h1] at hv
    simp at hv
    exact .inl ⟨hv.1.symm, by omega, hv.2.2.symm⟩
  · rw [h1] at hv
    simp at hv
    exact .inr ⟨g, 0, hv.1.symm, by omega, by rw [← hv.2.2]; exact hm⟩
theorem flat_one {l : List Sib} : ∀ u ∈ flatE 4 senc l, u.oneCell' = true := by
  intro u hu
  unfold flatE at hu
  obtain ⟨x, _, hx⟩ := List.mem_flatMap.1 hu
  obtain ⟨j, hj, rfl⟩ := List.mem_map.1 hx
  have hj4 : j < 4 := List.mem_range.1 hj
  match j, hj4 with
  | 0, _ => rfl
  | 1, _ => rfl
  | 2, _ => rfl
  | 3, _ => rfl
/-- the cells of a row, one behind the other -/
theorem row_flat {α : Type} {k : Nat} {enc : α → Nat → Value} {w : World} {g off : Nat} {l : List α} (hk : 0 < k) (h : RowAt k enc w (some ⟨g, off, none⟩) l) : ∀ j u, (flatE k enc l)[j]? = some u → w.cell? ((⟨g, off, none⟩ : Addr).add j) = some u := by
  intro j u hu
  have e : (⟨g, off, none⟩ : Addr).add j = ⟨g, off + j, none⟩ := by unfold Addr.add; split <;> simp_all
  rw [e]
  have hj : j < l.length * k := by
    have := (List.getElem?_eq_some_iff.1 hu).1
    rwa [flatE_length] at this
  have hd := Nat.div_add_mod j k
  have hm := Nat.mod_lt j hk
  have hi : j / k < l.length := Nat.div_lt_of_lt_mul (by rwa [Nat.mul_comm])
  have hg := flatE_get (enc := enc) l (j / k) hi (j % k) hm
  have ej : j / k * k + j % k = j := by rw [Nat.mul_comm]; exact hd
  rw [ej] at hg
  rw [hg] at hu
  rcases h with rfl | ⟨g2, off2, ha, hc⟩
  · cases hi
  · obtain ⟨rfl, rfl⟩ : g = g2 ∧ off = off2 := by simpa using ha
    have := hc (j / k) hi (j % k) hm
    rw [Nat.add_assoc, ej] at this
    rw [this]; exact hu
/-- Sibs appended to a row of the call's own -/
theorem wpList_append_sibs (w0 : World) {ops : Array Oper} {rest : List Oper} {o : Oper} {a : Act} {Q : Exit → Act → World → Prop} (hg : o.guard = none) (s x : Operand)
    (hop : o.op = .call { callee := .builtin .append, args := #[s, x], argTypes := #[31, 31] }) (B : Nat) (v : Value) (l l2 : List Sib) (hs : a.eval s = v) (g off n cap : Nat) (hn : l2.length = n)
    (hx : a.eval x = .slice (some ⟨g, off, none⟩) n cap) (hown : w0.ownsRow B 97 4 v l.length (flatE 4 senc l)) (hrow : SibsAt w0 (some ⟨g, off, none⟩) l2) (hl : l.length + l2.length ≤ 1000000) (hB : B ≤ w0.heap.size)
    (h : ∀ v' w', w'.ownsRow B 97 4 v' (l ++ l2).length (flatE 4 senc (l ++ l2)) → Below B w0 w' → wpList Try.prog ops Q rest (a.put o.dst v') w') :
    wpList Try.prog ops Q (o :: rest) a w0 := by
  subst hn
  obtain ⟨i0, hi, hz0, hz1, hz2⟩ := info_parts infoS
  refine wpList_append_own _ hg s x 31 hop B 97 i0 _ 4 40 Try.underlying31 hi hz0 hz1 hz2 rfl (by decide) v l.length (flatE 4 senc l) hs hown ⟨g, off, none⟩ l2.length cap (flatE 4 senc l2) hx (by rw [flatE_length])
    (row_flat (by decide) hrow) flat_one (by unfold maxLen; omega) (by omega) hB (fun v' w' h1 h2 _ => h v' w' ?_ ?_)
  · rw [flatE_append, List.length_append]; exact h1
  · exact (Below.refl B w0).grown h2 hB (fun k hk => (hown.lt k hk).1)
theorem own_cap {w : World} {B : Nat} {v : Value} {x : Sib} (h : w.ownsRow B 97 4 v ([] ++ [x]).length (flatE 4 senc ([] ++ [x]))) : ∃ g cap, v = .slice (some ⟨g, 0, none⟩) 1 cap ∧ 1 ≤ cap := by
  obtain ⟨_, hc⟩ := h
  rcases hc with ⟨_, h0⟩ | ⟨g, cap, cur, rfl, hg, hh, hn, _⟩
  · simp at h0
  · exact ⟨g, cap, rfl, by simpa using hn⟩
theorem sibs_take {w : World} {g off : Nat} {s : List Sib} (k : Nat) (h : SibsAt w (some ⟨g, off, none⟩) s) : SibsAt w (some ⟨g, off, none⟩) (s.take k) := by
  rcases h with rfl | ⟨g2, off2, ha, hc⟩
  · exact .inl (by simp)
  · exact .inr ⟨g2, off2, ha, fun i hi j hj => by
      have hi' : i < s.length := by rw [List.length_take] at hi; omega
      rw [hc i hi' j hj, List.getElem_take]⟩
theorem sibs_drop {w : World} {g off : Nat} {s : List Sib} (k : Nat) (h : SibsAt w (some ⟨g, off, none⟩) s) : SibsAt w (some ⟨g, off + k * 4, none⟩) (s.drop k) := by
  rcases h with rfl | ⟨g2, off2, ha, hc⟩
  · exact .inl (by simp)
  · obtain ⟨rfl, rfl⟩ : g = g2 ∧ off = off2 := by simpa using ha
    exact .inr ⟨g, off + k * 4, rfl, fun i hi j hj => by
      have hi' : k + i < s.length := by rw [List.length_drop] at hi; omega
      have := hc (k + i) hi' j hj
      rw [show off + k * 4 + i * 4 + j = off + (k + i) * 4 + j by omega, this, List.getElem_drop]⟩
theorem size4 (W : World) : (sizeOf (Try.prog.elem 31)).run Try.prog W = .ok 4 W := by kernel_rfl
end Go.Proofs.Ytloenigleamcoaa.Sb
