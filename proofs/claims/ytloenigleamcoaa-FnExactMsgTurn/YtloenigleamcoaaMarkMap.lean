/- A map of marks by node in memory, read as a function: made, looked up, stored into, deleted from, counted. No condition. -/
import Derived.Test.YtloenigleamcoaaMark
import Derived.Maps.OwnSet
import Derived.Maps.RangeWalk
set_option linter.unusedSimpArgs false
set_option linter.unusedVariables false
namespace Go.Proofs.Ytloenigleamcoaa.Mk
open Go.RowKit Go.Maps

def mdat (m : Int × Int) : DataW Unit := .agg [.lit (.int .i64 m.1), .lit (.int .i64 m.2)]
def markElem : Value → Option (DataW Unit × List MemPlace)
  | .agg cs => match cs.toList with
    | [.int .i64 a, .int .i64 b] => some (mdat (a, b), [])
    | _ => none
  | _ => none
theorem markElem_mk (m : Int × Int) : markElem (mv m) = some (mdat m, []) := rfl
theorem markElem_inv {v : Value} {z : DataW Unit × List MemPlace} (h : markElem v = some z) : ∃ m, v = mv m ∧ z = (mdat m, []) := by
  unfold markElem at h
  split at h
  · rename_i cs
    split at h
    · rename_i a b e
      cases h
      refine ⟨(a, b), ?_, rfl⟩
      unfold mv
      congr 1
      apply Array.ext'
      simpa using e
    · cases h
  · cases h
theorem mdat_inj {m m' : Int × Int} (h : mdat m = mdat m') : m = m' := by
  unfold mdat at h
  simp at h
  exact Prod.ext h.1 h.2

theorem keyed : Keyed Try.prog 2 := int_keyed Try.underlying2
/-- block b of w is a map of at most n marks, f as a function -/
def MapOf (w : World) (b n : Nat) (f : Int → Option (Int × Int)) : Prop :=
  ∃ D : DataW Unit, w.ownsMap Try.prog 2 markElem b n D ∧ (∀ k, Maps.has D (.int .i64 k) = (f k).isSome) ∧ ∀ k, D.atKey (.int .i64 k) (mdat (0, 0)) = mdat (at_ f k)
theorem MapOf.lt {w : World} {b n : Nat} {f : Int → Option (Int × Int)} (h : MapOf w b n f) : b < w.heap.size := let ⟨_, h, _⟩ := h; h.lt
theorem MapOf.mono {w : World} {b n n' : Nat} {f : Int → Option (Int × Int)} (h : MapOf w b n f) (hn : n ≤ n') : MapOf w b n' f := let ⟨D, h, r⟩ := h; ⟨D, h.mono hn, r⟩
theorem MapOf.same {w w' : World} {b n : Nat} {f : Int → Option (Int × Int)} (h : MapOf w b n f) (hs : w'.heap[b]? = w.heap[b]?) : MapOf w' b n f := by
  obtain ⟨D, ⟨es, clock, hb, F, hn, hD⟩, r⟩ := h
  exact ⟨D, ⟨es, clock, hs.trans hb, F, hn, hD⟩, r⟩
theorem MapOf.alloc {w : World} {b n : Nat} {f : Int → Option (Int × Int)} (h : MapOf w b n f) (o : Obj) : MapOf (w.alloc o) b n f := h.same (Below.heap_alloc w o b h.lt)
theorem MapOf.setCell {w : World} {b n : Nat} {f : Int → Option (Int × Int)} (h : MapOf w b n f) (p : Addr) (hp : b ≠ p.block) (u : Value) : MapOf (w.setCell p u) b n f := h.same (Below.heap_setCell w p u b hp)
theorem MapOf.below {w w' : World} {b n : Nat} {f : Int → Option (Int × Int)} (h : MapOf w b n f) (hb : Below w.heap.size w w') : MapOf w' b n f := h.same (hb.block b h.lt)
theorem mapOf_made (w : World) : MapOf (w.alloc (.map #[] 0)) w.heap.size 0 nil :=
  ⟨.map [], World.ownsMap_made w _ _ _, fun _ => rfl, fun _ => rfl⟩
theorem zeroM (w : World) : (zeroValue 73).run Try.prog w = .ok (mv (0, 0)) w := by kernel_rfl
theorem MapOf.look {w : World} {b n : Nat} {f : Int → Option (Int × Int)} (h : MapOf w b n f) {k : Int} (hk : (Lit.int .i64 k).wf = true) :
    (Instr.lookup 167 (.map (some b)) (.int .i64 k) false).run Try.prog w = .ok (mv (at_ f k)) w := by
  obtain ⟨D, ho, _, hat⟩ := h
  obtain ⟨v, ps, hrun, hv⟩ := ho.lookup keyed Try.underlying167 (zeroM w) (markElem_mk (0, 0)) (keyOf_int_mk Try.underlying2 hk)
  obtain ⟨m, rfl, hz⟩ := markElem_inv hv
  rw [hat] at hz
  have : at_ f k = m := mdat_inj (congrArg Prod.fst hz)
  rw [this]; exact hrun
theorem MapOf.look_ok {w : World} {b n : Nat} {f : Int → Option (Int × Int)} (h : MapOf w b n f) {k : Int} (hk : (Lit.int .i64 k).wf = true) :
    (Instr.lookup 167 (.map (some b)) (.int .i64 k) true).run Try.prog w = .ok (.tuple #[mv (at_ f k), .bool (f k).isSome]) w := by
  obtain ⟨D, ho, hh, hat⟩ := h
  obtain ⟨v, ps, hrun, hv⟩ := ho.look_ok keyed Try.underlying167 (zeroM w) (markElem_mk (0, 0)) (keyOf_int_mk Try.underlying2 hk)
  obtain ⟨m, rfl, hz⟩ := markElem_inv hv
  rw [hat] at hz
  have : at_ f k = m := mdat_inj (congrArg Prod.fst hz)
  rw [this, ← hh]; exact hrun
theorem field1 (x y : Int) (w : World) : (Instr.field 73 (.agg #[.int .i64 x, .int .i64 y]) 1).run Try.prog w = .ok (.int .i64 y) w := by kernel_rfl
theorem field0 (x y : Int) (w : World) : (Instr.field 73 (.agg #[.int .i64 x, .int .i64 y]) 0).run Try.prog w = .ok (.int .i64 x) w := by kernel_rfl
theorem lit_ne {a b : Int} (h : a ≠ b) : (Lit.int .i64 a) ≠ .int .i64 b := fun e => h (by injection e)
theorem upd_at (f : Int → Option (Int × Int)) (m : Int × Int) (k : Int) : at_ (upd f m) k = if k = m.1 then m else at_ f k := by
  unfold at_ upd; split <;> rfl
theorem del_at (f : Int → Option (Int × Int)) (j k : Int) : at_ (del f j) k = if k = j then (0, 0) else at_ f k := by
  unfold at_ del; split <;> rfl
theorem turned_within {w w' : World} {b : Nat} (h : w.mapTurned w' b) : Within b (b + 1) w w' := by
  have g := h.grown
  exact ⟨g.os, g.tape, g.output, g.size, fun k hk ho => g.block k hk (fun e => by injection e; omega)⟩
theorem MapOf.store {w : World} {b n : Nat} {f : Int → Option (Int × Int)} (h : MapOf w b n f) (m : Int × Int) (hk : (Lit.int .i64 m.1).wf = true) (hn : n < maxLen) :
    ∃ w', (Instr.mapUpdate 167 (.map (some b)) (.int .i64 m.1) (mv m)).run Try.prog w = .ok () w' ∧ MapOf w' b (n + 1) (upd f m) ∧ Within b (b + 1) w w' := by
  obtain ⟨D, ho, hh, hat⟩ := h
  obtain ⟨w', hrun, ho', ht⟩ := ho.store keyed Try.underlying167 hn (keyOf_int_mk Try.underlying2 hk) (markElem_mk m)
  refine ⟨w', hrun, ⟨_, ho', fun k => ?_, fun k => ?_⟩, turned_within ht⟩
  · by_cases e : k = m.1
    · subst e; rw [has_put_same (k := .int .i64 m.1) ho.isMap trivial]; unfold upd; rw [if_pos rfl]; rfl
    · rw [has_put_other (lit_ne e), hh]; unfold upd; rw [if_neg e]
  · rw [upd_at]
    by_cases e : k = m.1
    · subst e; rw [atKey_put_same (k := .int .i64 m.1) ho.isMap trivial, if_pos rfl]
    · rw [atKey_put_other (lit_ne e), hat, if_neg e]
theorem MapOf.drop {w : World} {b n : Nat} {f : Int → Option (Int × Int)} (h : MapOf w b n f) (k0 : Int) (hk : (Lit.int .i64 k0).wf = true) (ty : TypeId) :
    ∃ w', (Builtin.delete_ #[167, 2] ty #[.map (some b), .int .i64 k0]).run Try.prog w = .ok (.tuple #[]) w' ∧ MapOf w' b n (del f k0) ∧ Within b (b + 1) w w' := by
  obtain ⟨D, ho, hh, hat⟩ := h
  obtain ⟨w', hrun, ho', ht⟩ := ho.drop keyed Try.underlying167 (keyOf_int_mk Try.underlying2 hk) ty
  refine ⟨w', hrun, ⟨_, ho', fun k => ?_, fun k => ?_⟩, turned_within ht⟩
  · by_cases e : k = k0
    · subst e; rw [has_del_same]; unfold del; rw [if_pos rfl]; rfl
    · rw [has_del_other (lit_ne e), hh]; unfold del; rw [if_neg e]
  · rw [del_at]
    by_cases e : k = k0
    · subst e; rw [atKey_del_same, if_pos rfl]
    · rw [atKey_del_other (lit_ne e), hat, if_neg e]
/-- how many -/
theorem MapOf.len {w : World} {b n : Nat} {f : Int → Option (Int × Int)} (h : MapOf w b n f) (ty : TypeId) :
    ∃ s : Nat, s ≤ n ∧ (Builtin.len_ #[167] ty #[.map (some b)]).run Try.prog w = .ok (.int .i64 (s : Int)) w ∧ (s = 0 ↔ ∀ k, f k = none) := by
  obtain ⟨D, ho, hh, hat⟩ := h
  refine ⟨Maps.size D, ho.size_le, ho.len Try.underlying167 ty, ?_⟩
  obtain ⟨es, clock, hb, F, hs, rfl⟩ := ho
  constructor
  · intro h0 k
    have h1 := hh k
    generalize (es.toList.map (WideElems.rg Try.prog 2 markElem)).foldr DataW.insert [] = L at h0 h1
    have : L = [] := List.length_eq_zero_iff.1 h0
    subst this
    cases hf : f k
    · rfl
    · rw [hf] at h1; cases h1
  · intro h0
    have hk := fit_keys F
    have e1 : Maps.size (DataW.map ((es.toList.map (WideElems.rg Try.prog 2 markElem)).foldr DataW.insert [])) = es.toList.length := by simp [Maps.size, length_sorted]
    rw [e1]
    cases hl : es.toList with
    | nil => rfl
    | cons x r =>
      exfalso
      obtain ⟨v, hv⟩ := hk (WideElems.rg Try.prog 2 markElem x) (List.mem_map.2 ⟨x, by rw [hl]; simp, rfl⟩)
      obtain ⟨k, _, hk1, _⟩ := Maps.keyOf_int_inv Try.underlying2 hv
      have h1 := hh k
      rw [h0 k, hl] at h1
      have h2 : Maps.has (DataW.map (((x :: r).map (WideElems.rg Try.prog 2 markElem)).foldr DataW.insert [])) (.int .i64 k) = true := by
        rw [Maps.has_eq, List.map_cons, List.foldr_cons, any_insert, hk1]
        simp [Lit.sameKey]
      rw [h2] at h1
      cases h1
end Go.Proofs.Ytloenigleamcoaa.Mk
