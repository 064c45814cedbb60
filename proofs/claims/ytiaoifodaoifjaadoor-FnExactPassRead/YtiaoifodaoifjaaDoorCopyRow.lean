/- Copies of a Set's two rows: slices.Clone, impl.cloned, spec.l03Copy. Condition: at most 1000000 marks and Sibs. -/
import Derived.Test.YtiaoifodaoifjaaDoorCells9
import Derived.Test.YtiaoifodaoifjaaDoorSetOut2
import Derived.Laws.OwnMore
import Derived.Deep.AppendLies
import Derived.Lib.SliceRun
import Derived.Deep.RegionHeld3
set_option linter.unusedSimpArgs false
set_option linter.unusedVariables false
namespace Go.Proofs.YtiaoifodaoifjaaDoor.Sb
open Go.RowKit Go.Proofs.YtiaoifodaoifjaaDoor.Mk Go.Proofs.YtiaoifodaoifjaaDoor.Rw

theorem run_append_no (base : Nat) {w : World} (t ty e : TypeId) (i : TypeInfo) (size : Nat) (ht : Tryd.prog.underlying t = some (.slice e)) (hi : Tryd.prog.info? e = some i)
    (v : Value) (n : Nat) (xs : List Value) (c : Nat) (hown : w.ownsRow base e size v n xs) :
    (Builtin.append_ #[t, t] ty #[v, .slice none 0 c]).run Tryd.prog w = .ok v w := by
  rcases hown.2 with ⟨rfl, rfl⟩ | ⟨g, cap, cur, rfl, _, _, hnc, _⟩
  · simp [Builtin.append_, run_underlying ht, sizeOf, typeInfo, hi, Builtin.lenOf, Builtin.firstCells]
  · simp [Builtin.append_, run_underlying ht, sizeOf, typeInfo, hi, Builtin.lenOf, Builtin.firstCells, hnc, storeCells]
/-- what stands behind an append to an empty literal at block g0: the row, and what is as it was -/
structure Copied (ok : World → Nat → Prop) (empty : Prop) (w w' : World) (g0 : Nat) (a : Option Addr) : Prop where
  row : empty ∨ ∃ g, a = some ⟨g, 0, none⟩ ∧ (g = g0 ∨ g = w.heap.size) ∧ g < w'.heap.size ∧ ok w' g
  grown : w.grownBy w' (some g0)
theorem kept_cells {w w' : World} {g0 g : Nat} {vs : List Value} (h : Cells w g vs) (hg : w.grownBy w' (some g0)) (hn : g ≠ g0) : Cells w' g vs :=
  h.same (hg.block g h.lt (fun e => hn (by simpa using e))) hg.size
theorem kept_base {W w w' : World} {g0 : Nat} (h : Base W w) (hg : w.grownBy w' (some g0)) (hn : W.heap.size ≤ g0) : Base W w' :=
  Below.trans h ((Below.refl W.heap.size w).grown hg (Below.size h) (fun k hk => by simp at hk; omega))
theorem flat_oneM {l : List (Int × Int)} : ∀ u ∈ flat l, u.oneCell' = true := by
  intro u hu
  unfold flat at hu
  obtain ⟨x, _, hx⟩ := List.mem_flatMap.1 hu
  simp at hx
  rcases hx with rfl | rfl <;> rfl
theorem row_flatM {w : World} {g off : Nat} {l : List (Int × Int)} (h : MarksAt w (some ⟨g, off, none⟩) l) : ∀ j u, (flat l)[j]? = some u → w.cell? ((⟨g, off, none⟩ : Addr).add j) = some u := by
  intro j u hu
  have e : (⟨g, off, none⟩ : Addr).add j = ⟨g, off + j, none⟩ := by unfold Addr.add; split <;> simp_all
  rw [e]
  have hj : j < l.length * 2 := by
    have := (List.getElem?_eq_some_iff.1 hu).1
    rwa [flat_length] at this
  have hi : j / 2 < l.length := by omega
  obtain ⟨g0, g1⟩ := flat_get l (j / 2) hi
  rcases h with rfl | ⟨g2, off2, ha, hc⟩
  · cases hi
  · obtain ⟨rfl, rfl⟩ : g = g2 ∧ off = off2 := by simpa using ha
    obtain ⟨k0, k1⟩ := hc (j / 2) hi
    have hm : j % 2 = 0 ∨ j % 2 = 1 := by omega
    rcases hm with c | c
    · rw [show j / 2 * 2 = j by omega] at g0 k0
      rw [g0] at hu; rw [k0]; exact hu
    · rw [show j / 2 * 2 + 1 = j by omega] at g1
      rw [show off + j / 2 * 2 + 1 = off + j by omega] at k1
      rw [g1] at hu; rw [k1]; exact hu
theorem at_someM {w : World} {ad : Addr} {l : List (Int × Int)} (h : MarksAt w (some ad) l) (hn : l ≠ []) : ∃ g off, ad = ⟨g, off, none⟩ := by
  rcases h with h | ⟨g, off, ha, _⟩
  · exact absurd h hn
  · exact ⟨g, off, by simpa using ha⟩
theorem copyM_wp {w : World} {o : Oper} {a : Act} {K : Act → World → Prop} {Q : Exit → Act → World → Prop} (s x : Operand)
    (ho : o.op = .call { callee := .builtin .append, args := #[s, x], argTypes := #[23, 23] }) (g0 : Nat) (hs : a.eval s = .slice (some ⟨g0, 0, none⟩) 0 0) (hown : w.ownsRow g0 64 2 (.slice (some ⟨g0, 0, none⟩) 0 0) 0 [])
    (ao : Option Addr) (cap : Nat) (l : List (Int × Int)) (hx : a.eval x = .slice ao l.length cap) (hrow : MarksAt w ao l) (hl : l.length ≤ 1000000)
    (h : ∀ a' cap' w', Copied (fun W g => Own W g l) (l = []) w w' g0 a' → K (a.put o.dst (.slice a' l.length cap')) w') : o.wp Tryd.prog a w K Q := by
  obtain ⟨i0, hi, hz0, hz1, hz2⟩ := info_parts infoM
  have hB : g0 < w.heap.size := (hown.lt g0 rfl).2
  have hrefl : w.grownBy w (some g0) := ⟨rfl, rfl, rfl, Nat.le_refl _, fun _ _ _ => rfl⟩
  rcases ao with _ | ad
  · have hl0 : l = [] := by
      rcases hrow with h | ⟨_, _, h, _⟩
      · exact h
      · cases h
    subst hl0
    have hrun := run_append_no g0 23 o.type 64 i0 2 Tryd.underlying23 hi _ _ _ cap hown
    unfold Oper.wp
    have hx' : a.eval x = .slice none 0 cap := hx
    simp [execOp, ho, resolve, invoke, builtin, hs, hx', hrun, Result.andThen]
    exact h (some ⟨g0, 0, none⟩) 0 w ⟨.inl rfl, hrefl⟩
  · by_cases hl0 : l = []
    · subst hl0
      refine wp_append_own w s x 23 ho g0 64 i0 _ 2 16 Tryd.underlying23 hi hz0 hz1 hz2 rfl (by decide) _ 0 [] hs hown ad 0 cap [] hx rfl (fun j u hu => by simp at hu) (fun u hu => by cases hu) (by unfold maxLen; omega) (by omega) (by omega) (fun v' w' h1 h2 _ => ?_)
      obtain ⟨a', cap', rfl, _⟩ := Mk.own_row (l := ([] : List (Int × Int))) (show w'.ownsRow g0 64 2 v' 0 (flat []) from h1)
      exact h a' cap' w' ⟨.inl rfl, h2⟩
    · obtain ⟨g, off, rfl⟩ := at_someM hrow hl0
      have hpos : 0 < l.length := by cases l with
        | nil => exact absurd rfl hl0
        | cons _ _ => simp
      refine wp_append_lies w s x 23 ho g0 64 i0 _ 2 16 Tryd.underlying23 hi hz0 hz1 hz2 rfl (by decide) _ 0 [] hs hown ⟨g, off, none⟩ l.length cap (flat l) hx (by rw [flat_length]) (row_flatM hrow) flat_oneM hpos (by unfold maxLen; omega) (by omega) (by omega) w.heap.size rfl (fun g1 c1 w' h1 h2 h3 h4 => ?_)
      rw [Nat.zero_add] at h1 ⊢
      obtain ⟨a', cap', he, hown'⟩ := Mk.own_row (show w'.ownsRow g0 64 2 _ l.length (flat l) from h1)
      obtain ⟨rfl, -, rfl⟩ : some (⟨g1, 0, none⟩ : Addr) = a' ∧ True ∧ c1 = cap' := by simpa using he
      refine h _ c1 w' ⟨.inr ⟨g1, rfl, ?_, h4, ?_⟩, h2⟩
      · rcases h3 with h3 | h3
        · exact .inl (by simpa [Value.ownBlock] using h3.symm)
        · exact .inr h3
      · rcases hown' with h' | ⟨g2, h5, _, _, h6⟩
        · exact absurd h' hl0
        · obtain rfl : g1 = g2 := by simpa using h5
          exact h6
theorem litM (w : World) : (w.alloc (.cells #[] 64)).ownsRow w.heap.size 64 2 (.slice (some ⟨w.heap.size, 0, none⟩) 0 0) 0 [] :=
  World.ownsRow_made w #[] 0 (Nat.le_refl _) (Nat.zero_le _) rfl
theorem at_keptM {w w' : World} {B g0 : Nat} {a : Option Addr} {l : List (Int × Int)} (h : Copied (fun W g => Own W g l) (l = []) w w' g0 a) (hB : B ≤ g0) (hz : B ≤ w.heap.size) : OwnIn w' B w'.heap.size a l := by
  rcases h.row with h0 | ⟨g, ha, hg, hlt, ho⟩
  · exact .inl h0
  · exact .inr ⟨g, ha, by omega, hlt, ho⟩
theorem at_someS {w : World} {ad : Addr} {l : List Sib} (h : SibsAt w (some ad) l) (hn : l ≠ []) : ∃ g off, ad = ⟨g, off, none⟩ := by
  rcases h with h | ⟨g, off, ha, _⟩
  · exact absurd h hn
  · exact ⟨g, off, by simpa using ha⟩
theorem at_keptS {w w' : World} {B g0 : Nat} {a : Option Addr} {l : List Sib} (h : Copied (fun W g => SOwn W g l) (l = []) w w' g0 a) (hB : B ≤ g0) (hz : B ≤ w.heap.size) : SOwnIn w' B w'.heap.size a l := by
  rcases h.row with h0 | ⟨g, ha, hg, hlt, ho⟩
  · exact .inl h0
  · exact .inr ⟨g, ha, by omega, hlt, ho⟩
end Go.Proofs.YtiaoifodaoifjaaDoor.Sb
