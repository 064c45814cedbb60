/- Copies of a Set: impl.cloned, spec.l03Copy. Condition: at most 1000000 marks and Sibs. -/
import Derived.Test.YtiaoifodaoifjaaDoorCopyRow
set_option linter.unusedSimpArgs false
set_option linter.unusedVariables false
namespace Go.Proofs.YtiaoifodaoifjaaDoor.Sb
open Go.RowKit Go.Proofs.YtiaoifodaoifjaaDoor.Mk Go.Proofs.YtiaoifodaoifjaaDoor.Rw

theorem cells_two {w : World} {g : Nat} {u0 u1 : Value} (h : Cells w g [u0, u1]) (v0 v1 : Value) : Cells ((w.setCell ⟨g, 0, none⟩ v0).setCell ⟨g, 1, none⟩ v1) g [v0, v1] := (h.set 0 (by simp) v0).set 1 (by simp) v1
theorem within_two (w : World) (g : Nat) (v0 v1 : Value) : Within g (g + 1) w ((w.setCell ⟨g, 0, none⟩ v0).setCell ⟨g, 1, none⟩ v1) := (one_store w g 0 v0).trans (one_store _ g 1 v1)
/-- what a call that makes a Set leaves: the two rows lie apart -/
def GivesST (w : World) (l : List (Int × Int)) (s : List Sib) (e : Ending) (w' : World) : Prop :=
  ∃ a cap b cap' lo1 hi1 lo2 hi2, e = .returned (.agg #[.slice a l.length cap, .slice b s.length cap']) ∧ OwnIn w' lo1 hi1 a l ∧ SOwnIn w' lo2 hi2 b s ∧ w.heap.size ≤ lo1 ∧ w.heap.size ≤ lo2 ∧ hi1 ≤ w'.heap.size ∧ hi2 ≤ w'.heap.size ∧ (hi1 ≤ lo2 ∨ hi2 ≤ lo1) ∧ Below w.heap.size w w'
def RowIn (ok : World → Nat → Prop) (empty : Prop) (p : Nat → Prop) (W : World) (a : Option Addr) : Prop := empty ∨ ∃ g, a = some ⟨g, 0, none⟩ ∧ p g ∧ g < W.heap.size ∧ ok W g
theorem RowIn.keep {ok : World → Nat → Prop} {empty : Prop} {p : Nat → Prop} {W W' : World} {a : Option Addr} (h : RowIn ok empty p W a) (hs : ∀ g, p g → g < W.heap.size → ok W g → ok W' g) (hz : W.heap.size ≤ W'.heap.size) : RowIn ok empty p W' a := by
  rcases h with h | ⟨g, ha, hp, hlt, ho⟩
  · exact .inl h
  · exact .inr ⟨g, ha, hp, Nat.lt_of_lt_of_le hlt hz, hs g hp hlt ho⟩
theorem RowIn.of {ok : World → Nat → Prop} {empty : Prop} {w w' : World} {g0 : Nat} {a : Option Addr} (h : Copied ok empty w w' g0 a) : RowIn ok empty (fun g => (g = g0 ∨ g = w.heap.size) ∧ g < w'.heap.size) w' a := by
  rcases h.row with h | ⟨g, ha, hg, hlt, ho⟩
  · exact .inl h
  · exact .inr ⟨g, ha, ⟨hg, hlt⟩, hlt, ho⟩
theorem rows_end {W : World} {a b : Option Addr} {l : List (Int × Int)} {s : List Sib} {p q : Nat → Prop} (hO : RowIn (fun W g => Own W g l) (l = []) p W a) (hP : RowIn (fun W g => SOwn W g s) (s = []) q W b)
    (B : Nat) (hp : ∀ g, p g → B ≤ g) (hq : ∀ g, q g → B ≤ g) (hpq : ∀ g g', p g → q g' → g ≠ g') (hB : B ≤ W.heap.size) :
    ∃ lo1 hi1 lo2 hi2, OwnIn W lo1 hi1 a l ∧ SOwnIn W lo2 hi2 b s ∧ B ≤ lo1 ∧ B ≤ lo2 ∧ hi1 ≤ W.heap.size ∧ hi2 ≤ W.heap.size ∧ (hi1 ≤ lo2 ∨ hi2 ≤ lo1) := by
  rcases hO with h1 | ⟨g, ha, hpg, hlt, ho⟩
  · rcases hP with h2 | ⟨g', hb, hqg, hlt', hs⟩
    · exact ⟨B, B, B, B, .inl h1, .inl h2, Nat.le_refl _, Nat.le_refl _, hB, hB, .inl (Nat.le_refl _)⟩
    · exact ⟨B, B, g', g' + 1, .inl h1, .inr ⟨g', hb, Nat.le_refl _, Nat.lt_succ_self _, hs⟩, Nat.le_refl _, hq g' hqg, hB, hlt', .inl (hq g' hqg)⟩
  · rcases hP with h2 | ⟨g', hb, hqg, hlt', hs⟩
    · exact ⟨g, g + 1, B, B, .inr ⟨g, ha, Nat.le_refl _, Nat.lt_succ_self _, ho⟩, .inl h2, hp g hpg, Nat.le_refl _, hlt, hB, .inr (hp g hpg)⟩
    · exact ⟨g, g + 1, g', g' + 1, .inr ⟨g, ha, Nat.le_refl _, Nat.lt_succ_self _, ho⟩, .inr ⟨g', hb, Nat.le_refl _, Nat.lt_succ_self _, hs⟩, hp g hpg, hq g' hqg, hlt, hlt', by have := hpq g g' hpg hqg; omega⟩
theorem kept_lit {w w' : World} {g g0 e size : Nat} (h : w.ownsRow g e size (.slice (some ⟨g, 0, none⟩) 0 0) 0 []) (hg : w.grownBy w' (some g0)) (hn : g ≠ g0) : w'.ownsRow g e size (.slice (some ⟨g, 0, none⟩) 0 0) 0 [] :=
  own_same h fun k hk => by
    have hk' : g = k := by simpa [Value.ownBlock] using hk
    subst hk'
    exact hg.block _ (h.lt _ hk).2 (fun e => hn (by simpa using e))
theorem copyM_step {w : World} {ops : Array Oper} {o : Oper} {a : Act} {K : Act → World → Prop} {Q : Exit → Act → World → Prop} {E : Prop} (hgd : o.guard = none) (s x : Operand)
    (ho : o.op = .call { callee := .builtin .append, args := #[s, x], argTypes := #[23, 23] }) (g0 : Nat) (hs : a.eval s = .slice (some ⟨g0, 0, none⟩) 0 0) (hown : w.ownsRow g0 64 2 (.slice (some ⟨g0, 0, none⟩) 0 0) 0 [])
    (ao : Option Addr) (cap : Nat) (l : List (Int × Int)) (hx : a.eval x = .slice ao l.length cap) (hrow : MarksAt w ao l) (hl : l.length ≤ 1000000)
    (h : ∀ a' cap' w', Copied (fun W g => Own W g l) (l = []) w w' g0 a' → K (a.put o.dst (.slice a' l.length cap')) w') :
    if Region.wanted o (yielded ops a.tmps) = true then Oper.wp Tryd.prog o a w K Q else E := by
  have hw : Region.wanted o (yielded ops a.tmps) = true := by simp [Region.wanted, hgd]
  rw [if_pos hw]
  exact copyM_wp s x ho g0 hs hown ao cap l hx hrow hl h
end Go.Proofs.YtiaoifodaoifjaaDoor.Sb
