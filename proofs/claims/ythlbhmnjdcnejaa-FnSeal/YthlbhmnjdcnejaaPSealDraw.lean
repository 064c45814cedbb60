/- The draws of the law of sealed strings: DrawSeal, DrawCrcMore, and the law's own choice of a place (lwAt). Condition: the codes have at most 1048576 bytes. -/
import Derived.Test.YthlbhmnjdcnejaaSource
import Derived.Test.YthlbhmnjdcnejaaSeal
import Derived.WalkArith
namespace Go.Proofs.Ythlbhmnjdcnejaa.Se
open Go.RowKit Nu Cr Dr

theorem below_of {w w1 w2 : World} {g : Nat} (h : Below w.heap.size w w1) (hg : w1.grownBy w2 (some g)) (hB : w.heap.size ≤ g) : Below w.heap.size w w2 :=
  h.grown hg h.size (fun k hk => by injection hk with hk; omega)

set_option maxRecDepth 100000 in
set_option maxHeartbeats 2000000 in
theorem drawSeal (w : World) (a : Option Addr) (len cap : Nat) (hl : len ≤ 1048576) (h : Bytes8 w w.heap.size a len) :
    Calls Try.prog 4 #[.slice a len cap] w (StrBelow w 20000) := by
  have H0 := Lib.hid (source_new w a len cap hl h)
  clear h
  go_enter Try.func4, Try.ntmps4
  go_wp2_with fail
  refine H0.out.mono ?_
  rintro e w1 ⟨rfl, hs1, hb1⟩
  have HS1 := Lib.hid hs1
  have HB1 := Lib.hid hb1
  clear hs1 hb1 H0
  go_wp2_with fail
  refine (one_draw w1 w.heap.size w.heap.size 30 (by omega) (by omega) HS1.out).mono ?_
  rintro e w2 ⟨r, rfl, hs2, hg2⟩
  have HS2 := Lib.hid hs2
  have HB2 := Lib.hid (below_of HB1.out hg2 (Nat.le_refl _))
  clear hs2 hg2 HS1 HB1
  cases r
  · go_wp2_with fail
    refine (n_draw w2 w.heap.size w.heap.size 20 (by omega) (by omega) HS2.out).mono ?_
    rintro e w3 ⟨r, hr, rfl, hs3, hg3⟩
    have HS3 := Lib.hid hs3
    have HB3 := Lib.hid (below_of HB2.out hg3 (Nat.le_refl _))
    clear hs3 hg3 HS2 HB2
    go_wp2_with fail
    refine (bytes_draw w3 w.heap.size w.heap.size r (by omega) HS3.out).mono ?_
    rintro e w4 ⟨t, ht, rfl, hs4, hb4, hz4⟩
    have HB4 := Lib.hid (HB3.out.trans hb4)
    clear hs4 hb4 HS3 HB3
    go_wp2
    go_ret
    exact ⟨t, by omega, rfl, HB4.out⟩
  · go_wp2_with fail
    refine (n_draw w2 w.heap.size w.heap.size 3 (by omega) (by omega) HS2.out).mono ?_
    rintro e w3 ⟨r, hr, rfl, hs3, hg3⟩
    have hmk := run_make_row' (P := Try.prog) 22 5 (.int .u8 0) 1 Try.underlying22 info8 rfl .i64 .i64 (19995 + r) (by omega) (by omega) w3
    have hcv := (Row.new w3 (19995 + r)).string (19995 + r)
    rw [List.length_replicate] at hcv
    have hB3 := below_of HB2.out hg3 (Nat.le_refl _)
    have HB4 := Lib.hid (hB3.alloc hB3.size (.cells (madeCells #[.int .u8 0] (19995 + r)) 5))
    have ec : ((19995 + r : Nat) : Int) = 19995 + (r : Int) := by omega
    rw [ec] at hmk
    clear hs3 hg3 HS2 HB2 hB3 ec
    go_wp2
    go_ret
    exact ⟨_, by rw [← size_data]; simp; omega, rfl, HB4.out⟩

/-- what DrawCrcMore leaves: some int64 and a short string -/
def PairBelow (w : World) (m : Nat) (e : Ending) (w' : World) : Prop :=
  ∃ (x : Int) (t : ByteArray), (Lit.int .i64 x).wf = true ∧ t.size ≤ m ∧ e = .returned (.tuple #[.int .i64 x, .string t]) ∧ Below w.heap.size w w'

set_option maxRecDepth 100000 in
set_option maxHeartbeats 2000000 in
theorem drawCrcMore (w : World) (a : Option Addr) (len cap : Nat) (hl : len ≤ 1048576) (h : Bytes8 w w.heap.size a len) :
    Calls Try.prog 9 #[.slice a len cap] w (PairBelow w 8) := by
  have H0 := Lib.hid (source_new w a len cap hl h)
  clear h
  go_enter Try.func9, Try.ntmps9
  go_wp2_with fail
  refine H0.out.mono ?_
  rintro e w1 ⟨rfl, hs1, hb1⟩
  have HS1 := Lib.hid hs1
  have HB1 := Lib.hid hb1
  clear hs1 hb1 H0
  go_wp2_with fail
  refine (n_draw w1 w.heap.size w.heap.size 9 (by omega) (by omega) HS1.out).mono ?_
  rintro e w2 ⟨r, hr, rfl, hs2, hg2⟩
  have HS2 := Lib.hid hs2
  have HB2 := Lib.hid (below_of HB1.out hg2 (Nat.le_refl _))
  clear hs2 hg2 HS1 HB1
  go_wp2_with fail
  refine (bytes_draw w2 w.heap.size w.heap.size r (by omega) HS2.out).mono ?_
  rintro e w3 ⟨t, ht, rfl, hs3, hb3, hz3⟩
  have HS3 := Lib.hid hs3
  have HB3 := Lib.hid (HB2.out.trans hb3)
  have ht8 : t.size ≤ 8 := by omega
  clear hs3 hb3 HS2 HB2 ht
  go_wp2_with fail
  refine (one_draw w3 w.heap.size w.heap.size 5 (by omega) (by omega) HS3.out).mono ?_
  rintro e w4 ⟨r4, rfl, hs4, hg4⟩
  have HS4 := Lib.hid hs4
  have HB4 := Lib.hid (below_of HB3.out hg4 (Nat.le_refl _))
  clear hs4 hg4 HS3 HB3
  cases r4
  · go_wp2_with fail
    refine (n_draw w4 w.heap.size w.heap.size 9 (by omega) (by omega) HS4.out).mono ?_
    rintro e w5 ⟨r5, hr5, rfl, hs5, hg5⟩
    have HS5 := Lib.hid hs5
    have HB5 := Lib.hid (below_of HB4.out hg5 (Nat.le_refl _))
    clear hs5 hg5 HS4 HB4
    go_wp2_with fail
    refine (bytes_draw w5 w.heap.size w.heap.size r5 (by omega) HS5.out).mono ?_
    rintro e w6 ⟨t6, ht6, rfl, hs6, hb6, hz6⟩
    have HB6 := Lib.hid (HB5.out.trans hb6)
    clear hs6 hb6 HS5 HB5
    go_wp2_with fail
    refine (spec_Crc t6 (by unfold maxLen; omega) _).mono ?_
    rintro e w7 ⟨rfl, rfl⟩
    go_wp2
    go_ret2
    have hc := crcN_lt t6
    exact ⟨_, t, WalkArith.wf_i64 (by rw [crc_eq]; omega), ht8, rfl, HB6.out⟩
  · go_wp2_with fail
    refine (edge_draw w4 w.heap.size w.heap.size HS4.out).mono ?_
    rintro e w5 ⟨x, hx, rfl, hs5, hb5⟩
    have HB5 := Lib.hid (HB4.out.trans hb5)
    clear hs5 hb5 HS4 HB4
    go_wp2
    go_ret2
    exact ⟨x, t, hx, ht8, rfl, HB5.out⟩

/-- the law's own choice: below 'most', or 0 -/
theorem lwAt (w : World) (B : Nat) (a : Option Addr) (len cap at_ most : Nat) (hl : len ≤ 1048576) (hm : most ≤ 1000000) (hat : at_ ≤ 1) (h : Bytes8 w B a len) :
    ∃ r : Nat, (r < most ∨ r = 0) ∧ ∀ W, Below B w W → Calls Try.prog 7 #[.slice a len cap, .int .i64 (at_ : Int), .int .i64 (most : Int)] W fun e w' => e = .returned (.int .i64 (r : Int)) ∧ W = w' := by
  by_cases h1 : most ≤ 1
  · refine ⟨0, .inr rfl, fun W hW => ?_⟩
    clear hW
    go_enter Try.func7, Try.ntmps7
    go_wp2
    go_ret
    exact ⟨rfl, rfl⟩
  have d1 : decide ((most : Int) ≤ 1) = false := by simp; omega
  by_cases h0 : len = 0
  · subst h0
    refine ⟨0, .inr rfl, fun W hW => ?_⟩
    clear hW
    go_enter Try.func7, Try.ntmps7
    go_wp2
    go_ret
    exact ⟨rfl, rfl⟩
  have d2 : ((len : Int) == 0) = false := by simp; omega
  rcases h with h | ⟨b, off, rfl, hb, hrow⟩
  · omega
  have hi : at_ % len < len := Nat.mod_lt _ (by omega)
  obtain ⟨z, hz, iz⟩ := hrow (at_ % len) hi
  have q1 : (at_ : Int).tmod (len : Int) = ((at_ % len : Nat) : Int) := by rw [Int.tmod_eq_emod_of_nonneg (by omega)]; omega
  have q2 : (at_ : Int) % (len : Int) = ((at_ % len : Nat) : Int) := by omega
  have q3 : (z : Int).tmod (most : Int) = ((z % most : Nat) : Int) := by rw [Int.tmod_eq_emod_of_nonneg (by omega)]; omega
  have q4 : (z : Int) % (most : Int) = ((z % most : Nat) : Int) := by omega
  generalize at_ % len = i at q1 q2 iz hi
  have hr : z % most < most := Nat.mod_lt _ (by omega)
  generalize z % most = r at q3 q4 hr
  refine ⟨r, .inl hr, fun W hW => ?_⟩
  have t1 : (i : Int) < (len : Int) := by omega
  replace iz := (hW.cell (p := ⟨b, off + i, none⟩) hb).trans iz
  clear hrow hW
  go_enter Try.func7, Try.ntmps7
  go_wp2
  go_ret
  exact ⟨rfl, rfl⟩
end Go.Proofs.Ythlbhmnjdcnejaa.Se
