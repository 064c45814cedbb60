/- A new source over a slice of bytes that came in. Condition: at most 1048576 bytes. -/
import Derived.Test.YteibkoaepgdmlaaDoorDrawN
set_option linter.unusedSimpArgs false
set_option linter.unusedVariables false
namespace Go.Proofs.YteibkoaepgdmlaaDoor.Dr
open Go.RowKit Nu

theorem Src.setSize {w : World} {B g : Nat} {a : Option Addr} {len cap at_ mix : Nat} {sz : Int} (h : Src w B g a len cap at_ mix sz) (x : Int) : Src (w.setCell ⟨g, 3, none⟩ (.int .i64 x)) B g a len cap at_ mix x where
  c0 := by rw [World.cell?_setCell_other _ _ _ _ (ne_off (by omega))]; exact h.c0
  c1 := by rw [World.cell?_setCell_other _ _ _ _ (ne_off (by omega))]; exact h.c1
  c2 := by rw [World.cell?_setCell_other _ _ _ _ (ne_off (by omega))]; exact h.c2
  c3 := World.cell?_setCell_same _ _ _ h.c3
  free := fun j => by rw [World.frozen?_setCell]; exact h.free j
  hat := h.hat
  hlen := h.hlen
  hmix := h.hmix
  hB := h.hB
  row := h.row.below ((Below.refl _ _).setCell h.hB _)
theorem wrap_nat (x : Int) : ∃ m : Nat, m < 18446744073709551616 ∧ IntKind.u64.wrap x = (m : Int) := by
  rw [IntKind.wrap_u64]; exact ⟨(x % 18446744073709551616).toNat, by omega, by omega⟩
theorem src_new (w : World) (a : Option Addr) (len cap : Nat) (hl : len ≤ 1048576) (h : Bytes8 w w.heap.size a len) :
    Src (w.alloc (.cells #[.slice a len cap, .int .i64 0, .int .u64 88172645463325252, .int .i64 0] 90)) w.heap.size w.heap.size a len cap 0 88172645463325252 0 where
  c0 := by rw [World.cell?_alloc_mark]; rfl
  c1 := by rw [World.cell?_alloc_mark]; rfl
  c2 := by rw [World.cell?_alloc_mark]; rfl
  c3 := by rw [World.cell?_alloc_mark]; rfl
  free := fun j => by rw [World.frozen?_alloc_mark]; simp
  hat := by omega
  hlen := hl
  hmix := by omega
  hB := Nat.le_refl _
  row := h.below ((Below.refl _ _).alloc (Nat.le_refl _) _)

/-- what a new source leaves: block g, behind all that was there -/
def Sourced (w : World) (e : Ending) (w' : World) : Prop :=
  e = .returned (.pointer (some ⟨w.heap.size, 0, none⟩)) ∧ HasSrc w' w.heap.size w.heap.size ∧ Below w.heap.size w w'

set_option maxRecDepth 100000 in
set_option maxHeartbeats 2000000 in
theorem source_new (w : World) (a : Option Addr) (len cap : Nat) (hl : len ≤ 1048576) (h : Bytes8 w w.heap.size a len) :
    Calls Tryd.prog 40 #[.slice a len cap] w (Sourced w) := by
  have H := Lib.hid h
  clear h
  go_enter Tryd.func40, Tryd.ntmps40
  go_wp2
  go_loopw [4] (fun i wr => ∃ k mix : Nat, k ≤ len ∧ k ≤ 64 ∧ i = .int .i64 (k : Int) ∧ Src wr w.heap.size w.heap.size a len cap 0 mix 0 ∧ Below w.heap.size w wr) (fun i _ => 64 - (intOf i).toNat)
  case atStart => exact ⟨0, _, by omega, by omega, rfl, src_new w a len cap hl H.out, (Below.refl _ _).alloc (Nat.le_refl _) _⟩
  case round =>
    obtain ⟨k, mix, hk, hk6, rfl, hS, hbel⟩ := hrel
    have HS := Lib.hid hS
    have HB := Lib.hid hbel
    clear hbel
    by_cases hgo : k < len ∧ k < 64
    · obtain ⟨hg1, hg2⟩ := hgo
      obtain ⟨b, off, ha, hb, hrow⟩ : ∃ b off, a = some ⟨b, off, none⟩ ∧ b < w.heap.size ∧ ∀ i, i < len → ∃ z : Nat, z < 256 ∧ wr.cell? ⟨b, off + i, none⟩ = some (.int .u8 (z : Int)) := by
        rcases hS.row with h | h
        · omega
        · exact h
      subst ha
      obtain ⟨z, hz, iz⟩ := hrow k hg1
      have i2 := hS.c2
      obtain ⟨m1, hm1, he1⟩ := xor_u64 (mix : Int) (z : Int)
      obtain ⟨m2, hm2, he2⟩ := wrap_nat ((m1 : Int) * 1099511628211)
      have HM := Lib.hid hm2
      have t0 : (0 : Int) ≤ (k : Int) := by omega
      have t1 : (k : Int) < (len : Int) := by omega
      clear hS hrow hm1 hm2
      go_wp2
      go_still_tail 14, (by kernel_rfl)
      change wpList _ _ _ _ _ wr.drew
      have i2' : wr.drew.cell? ⟨w.heap.size, 2, none⟩ = some (.int .u64 (mix : Int)) := i2
      have f2' : wr.drew.frozen? ⟨w.heap.size, 2, none⟩ = false := HS.out.free 2
      have HS2 := Lib.hid (HS.out.drew.setMix m2 HM.out)
      have HB2 := Lib.hid (HB.out.drew.setCell (p := ⟨w.heap.size, 2, none⟩) (Nat.le_refl _) (.int .u64 (m2 : Int)))
      clear i2 iz
      generalize wr.drew = w2 at i2' f2' HS2 HB2 ⊢
      go_wp2
      go_roundw
      case rel => exact ⟨k + 1, m2, by omega, by omega, by go_num, HS2.out, HB2.out⟩
      case measure => go_light; simp [intOf]; omega
    · have i3 := hS.c3
      have f3 := hS.free 3
      clear hS
      have fin : ∀ x : Int, Sourced w (.returned (.pointer (some ⟨w.heap.size, 0, none⟩))) (wr.setCell ⟨w.heap.size, 3, none⟩ (.int .i64 x)) := fun x =>
        ⟨rfl, ⟨_, _, _, _, _, _, HS.out.setSize x⟩, HB.out.setCell (Nat.le_refl _) _⟩
      have fin2 : ∀ x y : Int, Sourced w (.returned (.pointer (some ⟨w.heap.size, 0, none⟩))) ((wr.setCell ⟨w.heap.size, 3, none⟩ (.int .i64 x)).setCell ⟨w.heap.size, 3, none⟩ (.int .i64 y)) := fun x y =>
        ⟨rfl, ⟨_, _, _, _, _, _, (HS.out.setSize x).setSize y⟩, (HB.out.setCell (Nat.le_refl _) _).setCell (Nat.le_refl _) _⟩
      have FIN := Lib.hid fin
      have FIN2 := Lib.hid fin2
      clear fin fin2
      by_cases hle : k < len
      · have hk64 : k = 64 := by omega
        subst hk64
        go_wp2
        all_goals go_ret
        all_goals first | exact FIN.out _ | exact FIN2.out _ _
      · go_wp2
        all_goals go_ret
        all_goals first | exact FIN.out _ | exact FIN2.out _ _

/-- a slice of bytes that came in, as the row's frame tells of it -/
def Came (w : World) (a : Option Addr) (len cap : Nat) (zs : List Int) : Prop :=
  (a = none ∧ len = 0 ∧ cap = 0 ∧ zs = []) ∨
  ∃ x, a = some x ∧ len ≤ cap ∧ cap ≤ maxLen ∧ zs.length = cap ∧ (∀ i, i < zs.length → w.cell? (x.add i) = some (.int .u8 (zs.getD i 0))) ∧ ∀ n ∈ zs, (Lit.int .u8 n).wf = true
theorem Came.bytes {w : World} {a : Option Addr} {len cap : Nat} {zs : List Int} (h : Came w a len cap zs) : Bytes8 w w.heap.size a len ∧ len ≤ maxLen := by
  rcases h with ⟨_, rfl, _, _⟩ | ⟨x, rfl, hl, hm, hz, hc, hw⟩
  · exact ⟨.inl rfl, Nat.zero_le _⟩
  · refine ⟨?_, Nat.le_trans hl hm⟩
    by_cases h0 : len = 0
    · exact .inl h0
    right
    obtain ⟨b, off, spot⟩ := x
    have c0 := hc 0 (by omega)
    have hspot : spot = none := by simpa [Addr.add] using World.cell?_spot c0
    subst hspot
    refine ⟨b, off, rfl, by simpa [Addr.add] using World.block_lt_of_cell? w _ c0, fun i hi => ?_⟩
    have hi' : i < zs.length := by omega
    have c1 := hc i hi'
    have e : (⟨b, off, none⟩ : Addr).add i = ⟨b, off + i, none⟩ := by unfold Addr.add; split <;> simp_all
    rw [e] at c1
    have hg : zs.getD i 0 = zs[i] := by simp [List.getD, hi']
    have hb := bounds_u8 (hw zs[i] (List.getElem_mem hi'))
    rw [hg] at c1
    exact ⟨zs[i].toNat, by omega, by rw [c1]; congr 2; omega⟩

/-- what a drawn string leaves -/
def StrBelow (w : World) (m : Nat) (e : Ending) (w' : World) : Prop := ∃ t : ByteArray, t.size ≤ m ∧ e = .returned (.string t) ∧ Below w.heap.size w w'
end Go.Proofs.YteibkoaepgdmlaaDoor.Dr
