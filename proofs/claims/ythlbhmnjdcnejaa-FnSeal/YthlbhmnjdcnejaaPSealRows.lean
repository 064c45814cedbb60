/- FnSeal for every two slices of bytes that came in. No condition. -/
import Derived.Test.YthlbhmnjdcnejaaPSeal
namespace Go.Proofs.Ythlbhmnjdcnejaa.Se
open Go.RowKit Nu Cr Dr

/-- a slice of bytes that came in, as the row's frame tells of it -/
def Came (w : World) (a : Option Addr) (len cap : Nat) (zs : List Int) : Prop :=
  (a = none ∧ len = 0 ∧ cap = 0 ∧ zs = []) ∨
  ∃ x, a = some x ∧ len ≤ cap ∧ cap ≤ maxLen ∧ zs.length = cap ∧ (∀ i, i < zs.length → w.cell? (x.add i) = some (.int .u8 (zs.getD i 0))) ∧ ∀ n ∈ zs, (Lit.int .u8 n).wf = true
theorem Came.bytes {w : World} {a : Option Addr} {len cap : Nat} {zs : List Int} (h : Came w a len cap zs) : Bytes8 w w.heap.size a len ∧ len ≤ maxLen := by
  rcases h with ⟨_, rfl, _, _⟩ | ⟨x, rfl, hl, hm, hz, hc, hw⟩
  · exact ⟨.inl rfl, Nat.zero_le _⟩
  · refine ⟨?_, Nat.le_trans hl hm⟩
    by_cases h0 : len = 0
    · exact .inl h0
    right
    obtain ⟨b, off, spot⟩ := x
    have c0 := hc 0 (by omega)
    have hspot : spot = none := by simpa [Addr.add] using World.cell?_spot c0
    subst hspot
    refine ⟨b, off, rfl, by simpa [Addr.add] using World.block_lt_of_cell? w _ c0, fun i hi => ?_⟩
    have hi' : i < zs.length := by omega
    have c1 := hc i hi'
    have e : (⟨b, off, none⟩ : Addr).add i = ⟨b, off + i, none⟩ := by unfold Addr.add; split <;> simp_all
    rw [e] at c1
    have hg : zs.getD i 0 = zs[i] := by simp [List.getD, hi']
    have hb := bounds_u8 (hw zs[i] (List.getElem_mem hi'))
    rw [hg] at c1
    exact ⟨zs[i].toNat, by omega, by rw [c1]; congr 2; omega⟩

theorem fnSeal_rows (a0 : Option Addr) (len0 cap0 : Nat) (z0 : List Int) (a1 : Option Addr) (len1 cap1 : Nat) (z1 : List Int) (w : World) (w0 : Came w a0 len0 cap0 z0) (w1 : Came w a1 len1 cap1 z1) :
    Calls Try.prog 3 #[.slice a0 len0 cap0, .slice a1 len1 cap1] w fun e w' => e = .returned (.bool true) ∧ Below w.heap.size w w' := by
  obtain ⟨h0, m0⟩ := w0.bytes
  obtain ⟨h1, m1⟩ := w1.bytes
  by_cases l0 : 1048576 < len0
  · clear w0 w1 h0 h1
    unfold maxLen at m0 m1
    go_enter Try.func3, Try.ntmps3
    go_wp2
    go_ret
    exact ⟨rfl, Below.refl _ _⟩
  by_cases l1 : 1048576 < len1
  · clear w0 w1 h0 h1
    unfold maxLen at m0 m1
    have d0 : decide (1048576 < (len0 : Int)) = false := by simp; omega
    go_enter Try.func3, Try.ntmps3
    go_wp2
    go_ret
    exact ⟨rfl, Below.refl _ _⟩
  exact law_FnSeal a0 a1 len0 cap0 len1 cap1 w (by omega) (by omega) h0 h1
end Go.Proofs.Ythlbhmnjdcnejaa.Se
