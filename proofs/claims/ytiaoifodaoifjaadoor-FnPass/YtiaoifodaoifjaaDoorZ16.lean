/- Parts of a law: GetSpecN. Conditions: on sizes, as each says. -/
import Derived.Test.YtiaoifodaoifjaaDoorZ1
import Derived.Test.YtiaoifodaoifjaaDoorZ7
set_option linter.unusedSimpArgs false
set_option linter.unusedVariables false
namespace Go.Proofs.YtiaoifodaoifjaaDoor.Ge
open Go.RowKit
def Pre (u i : Nat) : Prop := u < 128 ^ i
theorem pre_zero : Pre 0 0 := by unfold Pre; omega
theorem sum_wrap (u v : Nat) (h : u + v < 18446744073709551616) : IntKind.u64.wrap ((u : Int) + (v : Int)) = ((u + v : Nat) : Int) := by
  rw [IntKind.wrap_u64]; omega
theorem wrap9 (u b : Nat) (h : u + b % 128 * 128 ^ 9 < 18446744073709551616) : IntKind.u64.wrap ((b : Int) % 128 * 9223372036854775808) = ((b % 128 * 128 ^ 9 : Nat) : Int) := by
  have e9 : (128 : Nat) ^ 9 = 9223372036854775808 := by decide
  rw [e9] at h ⊢
  rw [IntKind.wrap_u64]; omega
theorem half_facts (V : Nat) (h : V < 18446744073709551616) : ∃ h2 : Nat, IntKind.u64.wrap ((V : Int) / 2) = h2 ∧ wrap64 (h2 : Int) = h2 ∧ wrap64 (-(h2 : Int)) = -(h2 : Int) ∧ wrap64 (-(h2 : Int) - 1) = -(h2 : Int) - 1 ∧
    (((V : Int).tmod 2 = 1 ∧ (V : Int) % 2 = 1 ∧ Hid (unz V = -(h2 : Int) - 1)) ∨ ((V : Int).tmod 2 = 0 ∧ (V : Int) % 2 = 0 ∧ Hid (unz V = (h2 : Int)))) := by
  have e2 : (V : Int).tmod 2 = ((V % 2 : Nat) : Int) := by rw [Int.tmod_eq_emod_of_nonneg (by omega)]; omega
  refine ⟨V / 2, ?_, by unfold wrap64; omega, by unfold wrap64; omega, by unfold wrap64; omega, ?_⟩
  · rw [IntKind.wrap_u64]; omega
  · by_cases hp : V % 2 = 1
    · exact .inl ⟨by rw [e2, hp]; rfl, by omega, jj (by unfold unz; rw [if_pos hp])⟩
    · exact .inr ⟨by rw [e2, show V % 2 = 0 by omega]; rfl, by omega, jj (by unfold unz; rw [if_neg hp])⟩
theorem nout_eq {R : Int × Int × Int} {a a' : Int} {k : Nat} {m : Int} (hR : R = (a, (k : Int), 0)) (ha : a = a') (hm : m = (k : Int)) : nout (a', m, 0) = nout R := by rw [hR, ha, hm]
set_option maxRecDepth 100000 in
set_option maxHeartbeats 2000000 in
theorem spec_GetNum_nat (s : ByteArray) (hs : ¬ 8000 < s.size) (n : Nat) (w : World) :
    Calls Tryd.prog 76 #[.string s, .int .i64 (n : Nat)] w fun e w' => e = .returned (nout (G s n 0 0)) ∧ Below w.heap.size w w' := by
  generalize hR : G s n 0 0 = R
  have HR := jj hR
  clear hR
  go_enter Tryd.func76, Tryd.ntmps76
  go_wp2
  go_loop [5, 6] (fun t5 t6 => ∃ u i : Nat, t5 = .int .u64 (u : Nat) ∧ t6 = .int .i64 (i : Nat) ∧ i ≤ 10 ∧ Pre u i ∧ R = G s n i u) (fun _ t6 => 10 - (intOf t6).toNat)
  case atStart => exact ⟨0, 0, rfl, rfl, by omega, pre_zero, HR.out.symm⟩
  case round =>
    obtain ⟨u, i, rfl, rfl, hi10, hu, hR⟩ := hrel
    have HU := jj hu
    have HR' := jj hR
    clear hu hR
    by_cases hi : i < 10
    · by_cases hsz : s.size ≤ n + i
      · have HX := jj (HR'.out.trans (G_short hi hsz))
        have t1 : (s.size : Int) - (i : Int) ≤ (n : Int) := by omega
        go_wp2
        refine bodyPost_ret (v := nout (0, 0, 4)) (by simp [results, Tryd.results76, go_sem, nout]) rfl ⟨ret_val (by rw [HX.out]), ?_⟩
        exact (Below.refl _ _).alloc (Nat.le_refl _) _
      have hsz' : n + i < s.size := by omega
      have hbb := s[n + i].toNat_lt
      have t1 : (n : Int) < (s.size : Int) - (i : Int) := by omega
      have t2 : ((n : Int) + (i : Int)).toNat = n + i := by omega
      by_cases h9 : i = 9 ∧ 1 < s[n + i].toNat
      · have HX := jj (ten_R HR'.out rfl hi hsz' h9)
        obtain ⟨rfl, hb1⟩ := h9
        go_wp2
        refine bodyPost_ret (v := nout (0, 0, 3)) (by simp [results, Tryd.results76, go_sem, nout]) rfl ⟨ret_val (by rw [HX.out]), ?_⟩
        exact (Below.refl _ _).alloc (Nat.le_refl _) _
      have HS := jj (sum_lt u s[n + i].toNat i hi HU.out h9 (by omega))
      by_cases hb8 : s[n + i].toNat < 128
      · have HL := jj (last_R HR'.out rfl hi hsz' h9 hb8)
        by_cases hz : s[n + i].toNat = 0 ∧ 0 < i
        · have HX := jj (HL.out.trans (if_pos hz))
          obtain ⟨hz1, hz2⟩ := hz
          have z1 : ((s[n + i].toNat : Int) == 0) = true := by simp; omega
          clear hz1
          by_cases e9 : i = 9
          · subst e9
            have hb1 : decide (1 < (s[n + 9].toNat : Int)) = false := by simp; omega
            clear h9
            go_wp2
            refine bodyPost_ret (v := nout (0, 0, 3)) (by simp [results, Tryd.results76, go_sem, nout]) rfl ⟨ret_val (by rw [HX.out]), ?_⟩
            exact (Below.refl _ _).alloc (Nat.le_refl _) _
          · have e9' : ((i : Int) == 9) = false := by simp; omega
            clear h9
            go_wp2
            refine bodyPost_ret (v := nout (0, 0, 3)) (by simp [results, Tryd.results76, go_sem, nout]) rfl ⟨ret_val (by rw [HX.out]), ?_⟩
            exact (Below.refl _ _).alloc (Nat.le_refl _) _
        · have HX := jj (HL.out.trans (if_neg hz))
          by_cases hb0 : s[n + i].toNat = 0
          · have hi0 : i = 0 := by omega
            subst hi0
            have hu0 : u = 0 := by have := HU.out; unfold Pre at this; omega
            subst hu0
            have HX' : Hid (R = (0, ((n + 1 : Nat) : Int), 0)) := jj (by rw [HX.out, hb0]; rfl)
            have z1 : ((s[n + 0].toNat : Int) == 0) = true := by rw [hb0]; rfl
            have z2 : s[n].toNat = 0 := hb0
            clear h9 HS HL hz
            go_wp2
            refine bodyPost_ret (v := nout (0, (n : Int) + 1, 0)) (by simp [results, Tryd.results76, go_sem, nout]) rfl ⟨ret_val (nout_eq HX'.out rfl (by omega)), ?_⟩
            exact (Below.refl _ _).alloc (Nat.le_refl _) _
          have z1 : ((s[n + i].toNat : Int) == 0) = false := by simp; omega
          by_cases e9 : i = 9
          · subst e9
            have hb1 : decide (1 < (s[n + 9].toNat : Int)) = false := by simp; omega
            have hw := wrap9 u s[n + 9].toNat HS.out.1
            have hsum := sum_wrap u (s[n + 9].toNat % 128 * 128 ^ 9) HS.out.1
            have HBig := jj HS.out.1
            generalize u + s[n + 9].toNat % 128 * 128 ^ 9 = V at hsum HX HBig
            generalize s[n + 9].toNat % 128 * 128 ^ 9 = V' at hsum hw
            clear h9 HS HL hz hb0
            obtain ⟨h2, c1, c2, c3, c4, hpar⟩ := half_facts V HBig.out
            rcases hpar with ⟨p1, p2, HN⟩ | ⟨p1, p2, HN⟩
            · go_wp2
              refine bodyPost_ret (v := nout (-(h2 : Int) - 1, (n : Int) + (9 : Int) + 1, 0)) (by simp [results, Tryd.results76, go_sem, nout]) rfl ⟨ret_val (nout_eq HX.out HN.out (by omega)), ?_⟩
              exact (Below.refl _ _).alloc (Nat.le_refl _) _
            · go_wp2
              refine bodyPost_ret (v := nout ((h2 : Int), (n : Int) + (9 : Int) + 1, 0)) (by simp [results, Tryd.results76, go_sem, nout]) rfl ⟨ret_val (nout_eq HX.out HN.out (by omega)), ?_⟩
              exact (Below.refl _ _).alloc (Nat.le_refl _) _
          · have e9' : ((i : Int) == 9) = false := by simp; omega
            have hw := (step_facts u s[n + i].toNat i hi HU.out h9 (by omega)).1
            have hsum := sum_wrap u (s[n + i].toNat % 128 * 128 ^ i) HS.out.1
            have HBig := jj HS.out.1
            generalize u + s[n + i].toNat % 128 * 128 ^ i = V at hsum HX HBig
            generalize s[n + i].toNat % 128 * 128 ^ i = V' at hsum hw
            clear h9 HS HL hz hb0 e9
            obtain ⟨h2, c1, c2, c3, c4, hpar⟩ := half_facts V HBig.out
            rcases hpar with ⟨p1, p2, HN⟩ | ⟨p1, p2, HN⟩
            · go_wp2
              refine bodyPost_ret (v := nout (-(h2 : Int) - 1, (n : Int) + (i : Int) + 1, 0)) (by simp [results, Tryd.results76, go_sem, nout]) rfl ⟨ret_val (nout_eq HX.out HN.out (by omega)), ?_⟩
              exact (Below.refl _ _).alloc (Nat.le_refl _) _
            · go_wp2
              refine bodyPost_ret (v := nout ((h2 : Int), (n : Int) + (i : Int) + 1, 0)) (by simp [results, Tryd.results76, go_sem, nout]) rfl ⟨ret_val (nout_eq HX.out HN.out (by omega)), ?_⟩
              exact (Below.refl _ _).alloc (Nat.le_refl _) _
      · have HL := jj (more_R HR'.out rfl hi hsz' h9 hb8)
        have hi9 := (HS.out.2 hb8).2
        have HV := jj (HS.out.2 hb8).1
        have hw := (step_facts u s[n + i].toNat i hi HU.out h9 (by omega)).1
        have hsum := sum_wrap u (s[n + i].toNat % 128 * 128 ^ i) HS.out.1
        have e9' : ((i : Int) == 9) = false := by simp; omega
        generalize u + s[n + i].toNat % 128 * 128 ^ i = V at hsum HL HV
        generalize s[n + i].toNat % 128 * 128 ^ i = V' at hsum hw
        clear h9 HS
        go_wp2
        go_round
        case rel => exact ⟨V, i + 1, rfl, by go_num, by omega, HV.out, HL.out⟩
        case measure => go_light; simp [intOf]; omega
    · have hi' : i = 10 := by omega
      subst hi'
      have HX := jj (HR'.out.trans (G_end (by omega)))
      go_wp2
      refine bodyPost_ret (v := nout (0, 0, 3)) (by simp [results, Tryd.results76, go_sem, nout]) rfl ⟨ret_val (by rw [HX.out]), ?_⟩
      exact (Below.refl _ _).alloc (Nat.le_refl _) _
set_option maxRecDepth 100000 in
set_option maxHeartbeats 1000000 in
theorem spec_GetNum (s : ByteArray) (hs : s.size ≤ maxLen) (a : Int) (w : World) :
    Calls Tryd.prog 76 #[.string s, .int .i64 a] w fun e w' => e = .returned (nout (getN s a)) ∧ Below w.heap.size w w' := by
  unfold maxLen at hs
  by_cases h1 : 8000 < s.size
  · have HX : Hid (nout (0, 0, 2) = nout (getN s a)) := jj (by unfold getN; rw [if_pos h1])
    go_enter Tryd.func76, Tryd.ntmps76
    go_wp2
    exact bodyPost_ret (v := nout (0, 0, 2)) (by simp [results, Tryd.results76, go_sem, nout]) rfl ⟨ret_val HX.out, (Below.refl _ _).alloc (Nat.le_refl _) _⟩
  by_cases h0 : a < 0
  · have HX : Hid (nout (0, 0, 1) = nout (getN s a)) := jj (by unfold getN readN; rw [if_neg h1, if_pos h0])
    go_enter Tryd.func76, Tryd.ntmps76
    go_wp2
    exact bodyPost_ret (v := nout (0, 0, 1)) (by simp [results, Tryd.results76, go_sem, nout]) rfl ⟨ret_val HX.out, (Below.refl _ _).alloc (Nat.le_refl _) _⟩
  obtain ⟨n, rfl⟩ : ∃ n : Nat, a = n := ⟨a.toNat, by omega⟩
  have e : getN s n = G s n 0 0 := by unfold getN readN; rw [if_neg h1, if_neg (by omega)]; rfl
  rw [e]
  exact spec_GetNum_nat s h1 n w
end Go.Proofs.YtiaoifodaoifjaaDoor.Ge
