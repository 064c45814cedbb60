/- Parts of a law: DrawN. Conditions: on sizes, as each says. -/
import Derived.Test.YtiaoifodaoifjaaDoorZ1
import Derived.Deep.QuietTactic
import Derived.BigQuiet
import Derived.StillTailTactics
import Derived.IntWalk
import Derived.Test.YtiaoifodaoifjaaDoorZ2
set_option linter.unusedSimpArgs false
set_option linter.unusedVariables false
namespace Go.Proofs.YtiaoifodaoifjaaDoor.Dr
open Go.RowKit Nu
def Bytes8 (w : World) (B : Nat) (a : Option Addr) (len : Nat) : Prop :=
  len = 0 ∨ ∃ b off, a = some ⟨b, off, none⟩ ∧ b < B ∧ ∀ i, i < len → ∃ z : Nat, z < 256 ∧ w.cell? ⟨b, off + i, none⟩ = some (.int .u8 (z : Int))
theorem Bytes8.below {w w' : World} {B : Nat} {a : Option Addr} {len : Nat} (h : Bytes8 w B a len) (hb : Below B w w') : Bytes8 w' B a len := by
  rcases h with h | ⟨b, off, rfl, hB, hc⟩
  · exact .inl h
  · exact .inr ⟨b, off, rfl, hB, fun i hi => by obtain ⟨z, hz, he⟩ := hc i hi; exact ⟨z, hz, (hb.cell (p := ⟨b, off + i, none⟩) hB).trans he⟩⟩
theorem Bytes8.mono {w : World} {B B' : Nat} {a : Option Addr} {len : Nat} (h : Bytes8 w B a len) (hB : B ≤ B') : Bytes8 w B' a len := by
  rcases h with h | ⟨b, off, rfl, hb, hc⟩
  · exact .inl h
  · exact .inr ⟨b, off, rfl, by omega, hc⟩
structure Src (w : World) (B g : Nat) (a : Option Addr) (len cap at_ mix : Nat) (sz : Int) : Prop where
  c0 : w.cell? ⟨g, 0, none⟩ = some (.slice a len cap)
  c1 : w.cell? ⟨g, 1, none⟩ = some (.int .i64 (at_ : Int))
  c2 : w.cell? ⟨g, 2, none⟩ = some (.int .u64 (mix : Int))
  c3 : w.cell? ⟨g, 3, none⟩ = some (.int .i64 sz)
  free : ∀ j, w.frozen? ⟨g, j, none⟩ = false
  hat : at_ ≤ len
  hlen : len ≤ 1048576
  hmix : mix < 18446744073709551616
  hB : B ≤ g
  row : Bytes8 w B a len
def HasSrc (w : World) (B g : Nat) : Prop := ∃ a len cap at_ mix sz, Src w B g a len cap at_ mix sz
section
variable {w : World} {B g : Nat} {a : Option Addr} {len cap at_ mix : Nat} {sz : Int}
theorem ne_off {g i j : Nat} (h : i ≠ j) : (⟨g, i, none⟩ : Addr) ≠ ⟨g, j, none⟩ := by intro e; injection e with _ h2; exact h h2
theorem Src.setAt (h : Src w B g a len cap at_ mix sz) (k : Nat) (hk : k ≤ len) : Src (w.setCell ⟨g, 1, none⟩ (.int .i64 (k : Int))) B g a len cap k mix sz where
  c0 := by rw [World.cell?_setCell_other _ _ _ _ (ne_off (by omega))]; exact h.c0
  c1 := World.cell?_setCell_same _ _ _ h.c1
  c2 := by rw [World.cell?_setCell_other _ _ _ _ (ne_off (by omega))]; exact h.c2
  c3 := by rw [World.cell?_setCell_other _ _ _ _ (ne_off (by omega))]; exact h.c3
  free := fun j => by rw [World.frozen?_setCell]; exact h.free j
  hat := hk
  hlen := h.hlen
  hmix := h.hmix
  hB := h.hB
  row := h.row.below ((Below.refl _ _).setCell h.hB _)
theorem Src.setMix (h : Src w B g a len cap at_ mix sz) (m : Nat) (hm : m < 18446744073709551616) : Src (w.setCell ⟨g, 2, none⟩ (.int .u64 (m : Int))) B g a len cap at_ m sz where
  c0 := by rw [World.cell?_setCell_other _ _ _ _ (ne_off (by omega))]; exact h.c0
  c1 := by rw [World.cell?_setCell_other _ _ _ _ (ne_off (by omega))]; exact h.c1
  c2 := World.cell?_setCell_same _ _ _ h.c2
  c3 := by rw [World.cell?_setCell_other _ _ _ _ (ne_off (by omega))]; exact h.c3
  free := fun j => by rw [World.frozen?_setCell]; exact h.free j
  hat := h.hat
  hlen := h.hlen
  hmix := hm
  hB := h.hB
  row := h.row.below ((Below.refl _ _).setCell h.hB _)
theorem Src.drewN (h : Src w B g a len cap at_ mix sz) (n : Nat) : Src (w.drewN n) B g a len cap at_ mix sz :=
  ⟨h.c0, h.c1, h.c2, h.c3, h.free, h.hat, h.hlen, h.hmix, h.hB, h.row⟩
theorem Src.drew (h : Src w B g a len cap at_ mix sz) : Src w.drew B g a len cap at_ mix sz :=
  ⟨h.c0, h.c1, h.c2, h.c3, h.free, h.hat, h.hlen, h.hmix, h.hB, h.row⟩
theorem Src.grown {w' : World} {r : Option Nat} (h : Src w B g a len cap at_ mix sz) (hg : w.grownBy w' r) (hne : r ≠ some g) (hr : ∀ k, r = some k → B ≤ k) (hBs : B ≤ w.heap.size) : Src w' B g a len cap at_ mix sz where
  c0 := hg.cell h.c0 (fun e => hne e.symm)
  c1 := hg.cell h.c1 (fun e => hne e.symm)
  c2 := hg.cell h.c2 (fun e => hne e.symm)
  c3 := hg.cell h.c3 (fun e => hne e.symm)
  free := fun j => (World.frozen?_of_block (hg.block g (by simpa using World.block_lt_of_cell? w _ h.c0) (fun e => hne e.symm))).trans (h.free j)
  hat := h.hat
  hlen := h.hlen
  hmix := h.hmix
  hB := h.hB
  row := h.row.below ((Below.refl B w).grown hg hBs hr)
end
theorem xor_u64 (a b : Int) : ∃ m : Nat, m < 18446744073709551616 ∧ bits .xor .u64 a b = (m : Int) := by
  have h : bits .xor .u64 a b = (bits .xor .u64 a b) % 18446744073709551616 := by
    have : ∀ x : Int, IntKind.u64.wrap x % 18446744073709551616 = IntKind.u64.wrap x := fun x => by rw [IntKind.wrap_u64]; omega
    exact (this _).symm
  exact ⟨(bits .xor .u64 a b).toNat, by omega, by omega⟩
theorem drewN_grown {a w : World} {r : Option Nat} (h : a.grownBy w r) (n : Nat) : a.grownBy (w.drewN n) r := ⟨h.os, h.tape, h.output, h.size, h.block⟩
theorem drew_grown {a w : World} {r : Option Nat} (h : a.grownBy w r) : a.grownBy w.drew r := ⟨h.os, h.tape, h.output, h.size, h.block⟩
theorem setCell_grown {a w : World} {g : Nat} (h : a.grownBy w (some g)) {p : Addr} (hp : p.block = g) (u : Value) : a.grownBy (w.setCell p u) (some g) :=
  ⟨h.os, h.tape, h.output, by simpa [World.setCell] using h.size, fun i hi hne => (Below.heap_setCell w p u i (by rintro rfl; exact hne (by rw [hp]))).trans (h.block i hi hne)⟩
theorem add_shift (v m x : Nat) (hx : x = v + m / 1048576) (hv : v < 256) (hm : m < 18446744073709551616) : IntKind.u64.wrap ((v : Int) + (m : Int) / 1048576) = (x : Int) := by
  rw [IntKind.wrap_u64]; omega
theorem only_shift (m x : Nat) (hx : x = m / 1048576) (hm : m < 18446744073709551616) : IntKind.u64.wrap ((m : Int) / 1048576) = (x : Int) := by
  rw [IntKind.wrap_u64]; omega
theorem rem_facts (x most : Nat) (h : 1 < most) (h2 : most ≤ 2000000000000) : ∃ r : Nat, r < most ∧ (x : Int).tmod (most : Int) = (r : Int) ∧ (x : Int) % (most : Int) = (r : Int) := by
  refine ⟨x % most, Nat.mod_lt _ (by omega), ?_, ?_⟩
  · rw [Int.tmod_eq_emod_of_nonneg (by omega)]; omega
  · omega
def Drawn (w : World) (B g most : Nat) (e : Ending) (w' : World) : Prop :=
  ∃ r : Nat, r < most ∧ e = .returned (.int .i64 (r : Int)) ∧ HasSrc w' B g ∧ w.grownBy w' (some g)
set_option maxRecDepth 100000 in
set_option maxHeartbeats 2000000 in
theorem n_draw (w : World) (B g most : Nat) (hm : 1 < most) (hm2 : most ≤ 2000000000000) (h : HasSrc w B g) :
    Calls Tryd.prog 27 #[.pointer (some ⟨g, 0, none⟩), .int .i64 (most : Int)] w (Drawn w B g most) := by
  obtain ⟨a, len, cap, at_, mix, sz, S⟩ := h
  have hat := S.hat
  have hlen := S.hlen
  have HS := jj S
  have i0 := S.c0
  have i1 := S.c1
  have d1 : decide ((most : Int) ≤ 1) = false := by simp; omega
  by_cases hlt : at_ < len
  · obtain ⟨b, off, ha, hb, hrow⟩ : ∃ b off, a = some ⟨b, off, none⟩ ∧ b < B ∧ ∀ i, i < len → ∃ z : Nat, z < 256 ∧ w.cell? ⟨b, off + i, none⟩ = some (.int .u8 (z : Int)) := by
      rcases S.row with h | h
      · omega
      · exact h
    subst ha
    obtain ⟨z, hz, iz⟩ := hrow at_ hlt
    clear S hrow
    go_enter Tryd.func27, Tryd.ntmps27
    go_wp2
    go_quiet (fail)
    go_wp2
    have j0 : (w.drewN nq).cell? ⟨g, 0, none⟩ = some (.slice (some ⟨b, off, none⟩) len cap) := i0
    have j1 : (w.drewN nq).cell? ⟨g, 1, none⟩ = some (.int .i64 (at_ : Int)) := i1
    have jz : (w.drewN nq).cell? ⟨b, off + at_, none⟩ = some (.int .u8 (z : Int)) := iz
    have HS1 := jj (HS.out.drewN nq)
    have hG : w.grownBy (w.drewN nq) (some g) := ⟨rfl, rfl, rfl, Nat.le_refl _, fun _ _ _ => rfl⟩
    have t0 : (0 : Int) ≤ (at_ : Int) := by omega
    have t1 : (at_ : Int) < (len : Int) := by omega
    clear i0 i1 iz
    generalize w.drewN nq = w1 at j0 j1 jz HS1 hG ⊢
    go_quiet (fail)
    have k1 : (w1.drewN nq).cell? ⟨g, 1, none⟩ = some (.int .i64 (at_ : Int)) := j1
    have kf : (w1.drewN nq).frozen? ⟨g, 1, none⟩ = false := HS1.out.free 1
    have HA := jj ((HS1.out.drewN nq).setAt (at_ + 1) hlt)
    have HB := jj (setCell_grown (drewN_grown hG nq) (p := ⟨g, 1, none⟩) rfl (.int .i64 ((at_ + 1 : Nat) : Int)))
    clear j0 j1 jz
    generalize w1.drewN nq = w2 at k1 kf HA HB ⊢
    go_wp2
    clear k1 kf hG HS1
    have S1 := HA.out
    have G1 := HB.out
    clear HA HB
    rw [show Value.int .i64 ((at_ : Int) + 1) = Value.int .i64 ((at_ + 1 : Nat) : Int) from rfl]
    generalize w2.setCell ⟨g, 1, none⟩ (.int .i64 ((at_ + 1 : Nat) : Int)) = v1 at S1 G1 ⊢
    obtain ⟨m1, hm1, he1⟩ := xor_u64 (mix : Int) (IntKind.u64.wrap ((mix : Int) * 8192))
    have e2 := S1.c2
    have HS1 := jj S1
    have HG1 := jj G1
    have hM1 := jj hm1
    clear S1 G1 hm1
    go_still_tail 13, (by kernel_rfl)
    change wpList _ _ _ _ _ v1.drew
    have e2' : v1.drew.cell? ⟨g, 2, none⟩ = some (.int .u64 (mix : Int)) := e2
    have f2' : v1.drew.frozen? ⟨g, 2, none⟩ = false := HS1.out.free 2
    have S2 := HS1.out.drew.setMix m1 hM1.out
    have G2 := setCell_grown (drew_grown HG1.out) (p := ⟨g, 2, none⟩) rfl (.int .u64 (m1 : Int))
    have HS2' := jj S2
    have HG2' := jj G2
    clear S2 G2 e2
    generalize v1.drew = u1 at e2' f2' HS2' HG2' ⊢
    go_wp2
    clear e2' f2' he1
    have S2 := HS2'.out
    have G2 := HG2'.out
    clear HS2' HG2'
    generalize u1.setCell ⟨g, 2, none⟩ (.int .u64 (m1 : Int)) = v2 at S2 G2 ⊢
    obtain ⟨m2, hm2, he2⟩ := xor_u64 (m1 : Int) ((m1 : Int) / 128)
    have e2 := S2.c2
    have HS2 := jj S2
    have HG2 := jj G2
    have hM2 := jj hm2
    clear S2 G2 hm2
    go_still_tail 13, (by kernel_rfl)
    change wpList _ _ _ _ _ v2.drew
    have e2' : v2.drew.cell? ⟨g, 2, none⟩ = some (.int .u64 (m1 : Int)) := e2
    have f2' : v2.drew.frozen? ⟨g, 2, none⟩ = false := HS2.out.free 2
    have S3 := HS2.out.drew.setMix m2 hM2.out
    have G3 := setCell_grown (drew_grown HG2.out) (p := ⟨g, 2, none⟩) rfl (.int .u64 (m2 : Int))
    have HS3' := jj S3
    have HG3' := jj G3
    clear S3 G3 e2
    generalize v2.drew = u2 at e2' f2' HS3' HG3' ⊢
    go_wp2
    clear e2' f2' he2
    have S3 := HS3'.out
    have G3 := HG3'.out
    clear HS3' HG3'
    generalize u2.setCell ⟨g, 2, none⟩ (.int .u64 (m2 : Int)) = v3 at S3 G3 ⊢
    obtain ⟨m3, hm3, he3⟩ := xor_u64 (m2 : Int) (IntKind.u64.wrap ((m2 : Int) * 131072))
    have e2 := S3.c2
    have HS3 := jj S3
    have HG3 := jj G3
    have hM3 := jj hm3
    clear S3 G3 hm3
    go_still_tail 13, (by kernel_rfl)
    change wpList _ _ _ _ _ v3.drew
    have e2' : v3.drew.cell? ⟨g, 2, none⟩ = some (.int .u64 (m2 : Int)) := e2
    have f2' : v3.drew.frozen? ⟨g, 2, none⟩ = false := HS3.out.free 2
    have S4 := HS3.out.drew.setMix m3 hM3.out
    have G4 := setCell_grown (drew_grown HG3.out) (p := ⟨g, 2, none⟩) rfl (.int .u64 (m3 : Int))
    have HS4' := jj S4
    have HG4' := jj G4
    clear S4 G4 e2
    generalize v3.drew = u3 at e2' f2' HS4' HG4' ⊢
    have x2 := HS4'.out.c2
    obtain ⟨x, hx⟩ : ∃ x : Nat, x = z + m3 / 1048576 := ⟨_, rfl⟩
    have q1 := add_shift z m3 x hx hz hM3.out
    obtain ⟨r, hr, q2, q3⟩ := rem_facts x most hm hm2
    have HX := jj hx
    clear hx
    go_wp2
    go_ret
    exact ⟨r, hr, rfl, ⟨_, _, _, _, _, _, HS4'.out⟩, HG4'.out⟩
  · clear S
    go_enter Tryd.func27, Tryd.ntmps27
    go_wp2
    go_quiet (fail)
    go_wp2
    have S1 := HS.out.drewN nq
    have G1 : w.grownBy (w.drewN nq) (some g) := ⟨rfl, rfl, rfl, Nat.le_refl _, fun _ _ _ => rfl⟩
    clear i0 i1
    generalize w.drewN nq = v1 at S1 G1 ⊢
    obtain ⟨m1, hm1, he1⟩ := xor_u64 (mix : Int) (IntKind.u64.wrap ((mix : Int) * 8192))
    have e2 := S1.c2
    have HS1 := jj S1
    have HG1 := jj G1
    have hM1 := jj hm1
    clear S1 G1 hm1
    go_still_tail 13, (by kernel_rfl)
    change wpList _ _ _ _ _ v1.drew
    have e2' : v1.drew.cell? ⟨g, 2, none⟩ = some (.int .u64 (mix : Int)) := e2
    have f2' : v1.drew.frozen? ⟨g, 2, none⟩ = false := HS1.out.free 2
    have S2 := HS1.out.drew.setMix m1 hM1.out
    have G2 := setCell_grown (drew_grown HG1.out) (p := ⟨g, 2, none⟩) rfl (.int .u64 (m1 : Int))
    have HS2' := jj S2
    have HG2' := jj G2
    clear S2 G2 e2
    generalize v1.drew = u1 at e2' f2' HS2' HG2' ⊢
    go_wp2
    clear e2' f2' he1
    have S2 := HS2'.out
    have G2 := HG2'.out
    clear HS2' HG2'
    generalize u1.setCell ⟨g, 2, none⟩ (.int .u64 (m1 : Int)) = v2 at S2 G2 ⊢
    obtain ⟨m2, hm2, he2⟩ := xor_u64 (m1 : Int) ((m1 : Int) / 128)
    have e2 := S2.c2
    have HS2 := jj S2
    have HG2 := jj G2
    have hM2 := jj hm2
    clear S2 G2 hm2
    go_still_tail 13, (by kernel_rfl)
    change wpList _ _ _ _ _ v2.drew
    have e2' : v2.drew.cell? ⟨g, 2, none⟩ = some (.int .u64 (m1 : Int)) := e2
    have f2' : v2.drew.frozen? ⟨g, 2, none⟩ = false := HS2.out.free 2
    have S3 := HS2.out.drew.setMix m2 hM2.out
    have G3 := setCell_grown (drew_grown HG2.out) (p := ⟨g, 2, none⟩) rfl (.int .u64 (m2 : Int))
    have HS3' := jj S3
    have HG3' := jj G3
    clear S3 G3 e2
    generalize v2.drew = u2 at e2' f2' HS3' HG3' ⊢
    go_wp2
    clear e2' f2' he2
    have S3 := HS3'.out
    have G3 := HG3'.out
    clear HS3' HG3'
    generalize u2.setCell ⟨g, 2, none⟩ (.int .u64 (m2 : Int)) = v3 at S3 G3 ⊢
    obtain ⟨m3, hm3, he3⟩ := xor_u64 (m2 : Int) (IntKind.u64.wrap ((m2 : Int) * 131072))
    have e2 := S3.c2
    have HS3 := jj S3
    have HG3 := jj G3
    have hM3 := jj hm3
    clear S3 G3 hm3
    go_still_tail 13, (by kernel_rfl)
    change wpList _ _ _ _ _ v3.drew
    have e2' : v3.drew.cell? ⟨g, 2, none⟩ = some (.int .u64 (m2 : Int)) := e2
    have f2' : v3.drew.frozen? ⟨g, 2, none⟩ = false := HS3.out.free 2
    have S4 := HS3.out.drew.setMix m3 hM3.out
    have G4 := setCell_grown (drew_grown HG3.out) (p := ⟨g, 2, none⟩) rfl (.int .u64 (m3 : Int))
    have HS4' := jj S4
    have HG4' := jj G4
    clear S4 G4 e2
    generalize v3.drew = u3 at e2' f2' HS4' HG4' ⊢
    have x2 := HS4'.out.c2
    obtain ⟨x, hx⟩ : ∃ x : Nat, x = m3 / 1048576 := ⟨_, rfl⟩
    have q1 := only_shift m3 x hx hM3.out
    obtain ⟨r, hr, q2, q3⟩ := rem_facts x most hm hm2
    have HX := jj hx
    clear hx
    go_wp2
    go_ret
    exact ⟨r, hr, rfl, ⟨_, _, _, _, _, _, HS4'.out⟩, HG4'.out⟩
def DrawnBool (w : World) (B g : Nat) (e : Ending) (w' : World) : Prop :=
  ∃ r : Bool, e = .returned (.bool r) ∧ HasSrc w' B g ∧ w.grownBy w' (some g)
theorem one_draw (w : World) (B g of_ : Nat) (hm : 1 < of_) (hm2 : of_ ≤ 2000000000000) (h : HasSrc w B g) :
    Calls Tryd.prog 41 #[.pointer (some ⟨g, 0, none⟩), .int .i64 (of_ : Int)] w (DrawnBool w B g) := by
  have H := jj (n_draw w B g of_ hm hm2 h)
  clear h
  go_enter Tryd.func41, Tryd.ntmps41
  go_wp2_with fail
  refine H.out.mono ?_
  rintro e w1 ⟨r, hr, rfl, hs, hg⟩
  have HS := jj hs
  have HG := jj hg
  clear hs hg
  go_wp2
  go_ret
  exact ⟨_, rfl, HS.out, HG.out⟩
theorem HasSrc.grown {w w' : World} {B g : Nat} {r : Option Nat} (h : HasSrc w B g) (hg : w.grownBy w' r) (hne : r ≠ some g) (hr : ∀ k, r = some k → B ≤ k) (hBs : B ≤ w.heap.size) : HasSrc w' B g := by
  obtain ⟨a, len, cap, at_, mix, sz, S⟩ := h
  exact ⟨a, len, cap, at_, mix, sz, S.grown hg hne hr hBs⟩
theorem HasSrc.lt {w : World} {B g : Nat} (h : HasSrc w B g) : B ≤ g ∧ g < w.heap.size := by
  obtain ⟨a, len, cap, at_, mix, sz, S⟩ := h
  exact ⟨S.hB, by simpa using World.block_lt_of_cell? w _ S.c0⟩
end Go.Proofs.YtiaoifodaoifjaaDoor.Dr
