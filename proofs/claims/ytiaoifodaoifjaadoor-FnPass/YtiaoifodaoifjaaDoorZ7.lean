/- Parts of a law: GetRead. Conditions: on sizes, as each says. -/
import Derived.Test.YtiaoifodaoifjaaDoorZ1
import Derived.Test.YtiaoifodaoifjaaDoorRows
import Derived.WalkKit
import Derived.Lib.Hide
import Derived.Deep.Light
import Derived.RowKitTokens
import Derived.ProofKit
import Derived.OpenShut
import Derived.ShutString
import Derived.Laws.BitsAllLaws
import Derived.Laws.Bits64
import Derived.WalkSpells
import Derived.WalkMore
import Derived.Laws.DeepNot64
import Derived.IntWalk
import Derived.Test.YtiaoifodaoifjaaDoorZ3
set_option linter.unusedSimpArgs false
set_option linter.unusedVariables false
namespace Go.Proofs.YtiaoifodaoifjaaDoor.Ge
open Go.RowKit La
def Big (u : Nat) : Prop := u < 18446744073709551616
def errV (c : Int) : Value := if c = 0 then .nilIface else .iface 134 (.agg #[.int .i64 c])
def tup (R : Int × Int × Int) : Value := .tuple #[.int .i64 R.1, .int .i64 R.2.1, errV R.2.2]
theorem tup_bad (c : Int) (h : c ≠ 0) : Value.tuple #[.int .i64 0, .int .i64 0, .iface 134 (.agg #[.int .i64 c])] = tup (0, 0, c) := by
  unfold tup errV; rw [if_neg h]
theorem tup_ok (n k : Int) : Value.tuple #[.int .i64 n, .int .i64 k, .nilIface] = tup (n, k, 0) := rfl
theorem bcell {W w1 : World} (hb : Below W.heap.size W w1) : (∀ b o, b < W.heap.size → w1.cell? ⟨b, o, none⟩ = W.cell? ⟨b, o, none⟩) ∧ (∀ b o, b < W.heap.size → w1.frozen? ⟨b, o, none⟩ = W.frozen? ⟨b, o, none⟩) :=
  ⟨fun _ _ h => hb.cell h, fun _ _ h => hb.frozen h⟩
theorem ret_val {a b : Value} (h : a = b) : Ending.returned a = .returned b := by rw [h]
def J0 (s : ByteArray) (a : Int) (R : Int × Int × Int) (w : World) (f : Act) (w' : World) : Prop :=
  w' = w ∧ ∃ (c : Int) (x2 x3 x7 x8 x9 x10 x12 x13 x14 x15 x16 x17 x18 x19 x20 x21 x22 x23 x24 x25 x26 x27 x28 x29 x30 x31 x32 x33 x34 x35 x36 x37 x38 x39 x40 x41 x42 x43 x44 x45 x46 x47 x48 x49 x50 x51 x52 x53 x54 : Value), f = { tmps := #[.string s, .int .i64 a, x2, x3, .int .i64 0, .int .i64 0, .nilIface, x7, x8, x9, x10, .int .i64 c, x12, x13, x14, x15, x16, x17, x18, x19, x20, x21, x22, x23, x24, x25, x26, x27, x28, x29, x30, x31, x32, x33, x34, x35, x36, x37, x38, x39, x40, x41, x42, x43, x44, x45, x46, x47, x48, x49, x50, x51, x52, x53, x54], defers := [] } ∧ R = (0, 0, c) ∧ c ≠ 0
def J1 (s : ByteArray) (n : Nat) (R : Int × Int × Int) (w : World) (f : Act) (w' : World) : Prop :=
  w' = w ∧ ∃ (u i p : Nat) (k q : Int) (x2 x3 x8 x12 x13 x14 x15 x16 x17 x18 x19 x20 x21 x22 x23 x24 x25 x26 x27 x28 x29 x30 x31 x32 x33 x34 x35 x36 x37 x38 x39 x40 x41 x42 x43 x44 x45 x46 x47 x48 x49 x50 x51 x52 x53 x54 : Value), f = { tmps := #[.string s, .int .i64 (n : Nat), x2, x3, .int .i64 0, .int .i64 0, .nilIface, .int .u64 (u : Nat), x8, .int .i64 k, .int .i64 q, .int .i64 3, x12, x13, x14, x15, x16, x17, x18, x19, x20, x21, x22, x23, x24, x25, x26, x27, x28, x29, x30, x31, x32, x33, x34, x35, x36, x37, x38, x39, x40, x41, x42, x43, x44, x45, x46, x47, x48, x49, x50, x51, x52, x53, x54], defers := [] } ∧ k = i ∧ q = p ∧ p = n + i ∧ i < 10 ∧ u < 128 ^ i ∧ R = G s n i u
def J2 (s : ByteArray) (n : Nat) (R : Int × Int × Int) (w : World) (f : Act) (w' : World) : Prop :=
  w' = w ∧ ∃ (u b i p : Nat) (k q : Int) (x2 x3 x12 x13 x14 x15 x16 x17 x18 x19 x20 x21 x22 x23 x24 x25 x26 x27 x28 x29 x30 x31 x32 x33 x34 x35 x36 x37 x38 x39 x40 x41 x42 x43 x44 x45 x46 x47 x48 x49 x50 x51 x52 x53 x54 : Value), f = { tmps := #[.string s, .int .i64 (n : Nat), x2, x3, .int .i64 0, .int .i64 0, .nilIface, .int .u64 (u : Nat), .int .u8 (b : Nat), .int .i64 k, .int .i64 q, .int .i64 3, x12, x13, x14, x15, x16, x17, x18, x19, x20, x21, x22, x23, x24, x25, x26, x27, x28, x29, x30, x31, x32, x33, x34, x35, x36, x37, x38, x39, x40, x41, x42, x43, x44, x45, x46, x47, x48, x49, x50, x51, x52, x53, x54], defers := [] } ∧ k = (i : Int) + 1 ∧ q = p ∧ p = n + i + 1 ∧ i < 10 ∧ b < 256 ∧ Big u ∧ R = if b = 0 ∧ 0 < i then (0, 0, 3) else (unz u, (p : Int), 0)
def JJ (s : ByteArray) (n : Nat) (R : Int × Int × Int) (w : World) (l : Nat) (f : Act) (w' : World) : Prop :=
  if l = 0 then J0 s n R w f w' else if l = 1 then J1 s n R w f w' else if l = 2 then J2 s n R w f w' else False
def mu (l : Nat) (f : Act) : Nat := if l = 0 then 0 else if l = 2 then 1 else 20 - (intOf (f.tmps.getD 9 undef)).toNat
set_option maxRecDepth 100000 in
set_option maxHeartbeats 2000000 in
theorem impl_readNum_neg (s : ByteArray) (a : Int) (h0 : a < 0) (w : World) :
    Calls Tryd.prog 87 #[.string s, .int .i64 a] w fun e w' => e = .returned (tup (readN s a)) ∧ w = w' := by
  have HR : Hid (readN s a = (0, 0, 1)) := jj (if_pos h0)
  go_enter Tryd.func87, Tryd.ntmps87
  go_wp2
  refine wp_scope_labels (fun l f w' => l = 0 ∧ J0 s a (readN s a) w f w') (fun _ _ _ => 0) ?_ ?_
  · go_wp2
    go_step3
    exact ⟨rfl, rfl, 1, _, _, _, _, _, _, _, _, _, _, _, _, _, _, _, _, _, _, _, _, _, _, _, _, _, _, _, _, _, _, _, _, _, _, _, _, _, _, _, _, _, _, _, _, _, _, _, _, _, rfl, HR.out, by decide⟩
  · rintro l f w' ⟨rfl, rfl, c, x2, x3, x7, x8, x9, x10, x12, x13, x14, x15, x16, x17, x18, x19, x20, x21, x22, x23, x24, x25, x26, x27, x28, x29, x30, x31, x32, x33, x34, x35, x36, x37, x38, x39, x40, x41, x42, x43, x44, x45, x46, x47, x48, x49, x50, x51, x52, x53, x54, rfl, hR, hc⟩
    refine ⟨_, rfl, ?_⟩
    have HR := jj hR
    clear hR
    go_wp2
    simp only [La.exitTo]
    go_ret3
    refine ⟨ret_val ?_, rfl⟩
    rw [HR.out]
    exact tup_bad c hc
theorem and127 (b : Nat) (h : b < 256) : bits .and .u8 (b : Int) 127 = ((b % 128 : Nat) : Int) := by
  have := u8_and_nat b 127 h (by omega)
  rw [nat_mask7] at this; exact this
theorem and1_64 (u : Nat) (h : Big u) : bits .and .u64 (u : Int) 1 = ((u % 2 : Nat) : Int) := by
  have := u64_and_nat u 1 h (by omega)
  rw [nat_mask1] at this; exact this
theorem ret_int {k : IntKind} {a b : Int} (h : a = b) : Ending.returned (.int k a) = .returned (.int k b) := by rw [h]
theorem not64 (a : Nat) (ha : a < 9223372036854775808) : bits .xor .i64 (-1) (a : Int) = -1 - (a : Int) := i64_not a ha
theorem unz_odd (u : Nat) (h : u % 2 = 1) : -1 - ((u / 2 : Nat) : Int) = unz u := by unfold unz; rw [if_pos h]; omega
theorem unz_even (u : Nat) (h : ¬ u % 2 = 1) : ((u / 2 : Nat) : Int) = unz u := by unfold unz; rw [if_neg h]
set_option maxRecDepth 100000 in
theorem impl_unzigzag (u : Nat) (hu : Big u) (w : World) :
    Calls Tryd.prog 90 #[.int .u64 (u : Nat)] w fun e w' => e = .returned (.int .i64 (unz u)) ∧ w = w' := by
  have hh : u / 2 < 9223372036854775808 := by unfold Big at hu; omega
  have hc : IntKind.i64.wrap ((u : Int) / 2) = ((u / 2 : Nat) : Int) := IntWalk.i64_in _ (by omega)
  have ha := and1_64 u hu
  have hx : bits .xor .i64 (-1) ((u / 2 : Nat) : Int) = -1 - ((u / 2 : Nat) : Int) := not64 _ hh
  by_cases ho : u % 2 = 1
  · have HU := jj (unz_odd u ho)
    rw [ho] at ha
    generalize u / 2 = h2 at hc hx HU hh
    clear ho hu
    go_enter Tryd.func90, Tryd.ntmps90
    go_wp2
    all_goals go_ret
    all_goals exact ⟨ret_int HU.out, rfl⟩
  · have HU := jj (unz_even u ho)
    rw [show u % 2 = 0 by omega] at ha
    generalize u / 2 = h2 at hc hx HU hh
    clear ho hu
    go_enter Tryd.func90, Tryd.ntmps90
    go_wp2
    all_goals go_ret
    all_goals exact ⟨ret_int HU.out, rfl⟩
theorem step_facts (u b i : Nat) (hi : i < 10) (hu : u < 128 ^ i) (h9 : ¬ (i = 9 ∧ 1 < b)) (hb : b < 256) :
    IntKind.u64.wrap ((b : Int) % 128 * 2 ^ (7 * i)) = ((b % 128 * 128 ^ i : Nat) : Int) ∧ bits .or .u64 (u : Int) ((b % 128 * 128 ^ i : Nat) : Int) = ((u + b % 128 * 128 ^ i : Nat) : Int) := by
  have hl := (sum_lt u b i hi hu h9 hb).1
  have e : (b : Int) % 128 * 2 ^ (7 * i) = ((b % 128 * 128 ^ i : Nat) : Int) := by
    rw [← shl_eq, Int.natCast_mul, Int.natCast_pow, Int.natCast_emod]; rfl
  refine ⟨?_, ?_⟩
  · rw [e, IntKind.wrap_u64]; omega
  · rw [u64_or_nat u (b % 128 * 128 ^ i) (by omega) (by omega), or_eq u (b % 128) i hu]
theorem or_nine (u b : Nat) (hu : u < 128 ^ 9) (hb : b ≤ 1) : bits .or .u64 (u : Int) ((b : Int) % 128 * 9223372036854775808) = ((u + b % 128 * 128 ^ 9 : Nat) : Int) := by
  have h := (step_facts u b 9 (by omega) hu (by omega) (by omega)).2
  have e9 : (128 : Nat) ^ 9 = 9223372036854775808 := by decide
  rw [← h, e9]; rfl
theorem or_zero (b : Nat) (hb : b < 256) : bits .or .u64 0 ((b : Int) % 128) = ((0 + b % 128 * 128 ^ 0 : Nat) : Int) := by
  have h := (step_facts 0 b 0 (by omega) (by omega) (by omega) hb).2
  rw [← h]; simp
theorem JJ0 {s : ByteArray} {n : Nat} {R : Int × Int × Int} {w w' : World} {f : Act} (h : J0 s n R w f w') : JJ s n R w 0 f w' := h
theorem JJ1 {s : ByteArray} {n : Nat} {R : Int × Int × Int} {w w' : World} {f : Act} (h : J1 s n R w f w') : JJ s n R w 1 f w' := h
theorem JJ2 {s : ByteArray} {n : Nat} {R : Int × Int × Int} {w w' : World} {f : Act} (h : J2 s n R w f w') : JJ s n R w 2 f w' := h
theorem last_R {s : ByteArray} {n i u p : Nat} {R : Int × Int × Int} (hR : R = G s n i u) (hp : p = n + i) (hi : i < 10) (hsz : p < s.size) (h9 : ¬ (i = 9 ∧ 1 < s[p].toNat)) (hb : s[p].toNat < 128) :
    R = if s[p].toNat = 0 ∧ 0 < i then (0, 0, 3) else (unz (u + s[p].toNat % 128 * 128 ^ i), ((p + 1 : Nat) : Int), 0) := by
  subst hp
  rw [← byteN_eq s _ hsz] at h9 hb ⊢
  rw [hR]
  split
  · exact G_zero hi (by omega) h9 hb ‹_›
  · exact G_last hi (by omega) h9 hb ‹_›
theorem more_R {s : ByteArray} {n i u p : Nat} {R : Int × Int × Int} (hR : R = G s n i u) (hp : p = n + i) (hi : i < 10) (hsz : p < s.size) (h9 : ¬ (i = 9 ∧ 1 < s[p].toNat)) (hb : ¬ s[p].toNat < 128) :
    R = G s n (i + 1) (u + s[p].toNat % 128 * 128 ^ i) := by
  subst hp
  rw [← byteN_eq s _ hsz] at h9 hb ⊢
  rw [hR]; exact G_more hi (by omega) h9 hb
theorem ten_R {s : ByteArray} {n i u p : Nat} {R : Int × Int × Int} (hR : R = G s n i u) (hp : p = n + i) (hi : i < 10) (hsz : p < s.size) (h9 : i = 9 ∧ 1 < s[p].toNat) : R = (0, 0, 3) := by
  subst hp
  rw [← byteN_eq s _ hsz] at h9
  rw [hR]; exact G_ten hi (by omega) h9
set_option maxRecDepth 100000 in
set_option maxHeartbeats 2000000 in
theorem impl_readNum_nat (s : ByteArray) (hs : s.size ≤ maxLen) (n : Nat) (w : World) :
    Calls Tryd.prog 87 #[.string s, .int .i64 (n : Nat)] w fun e w' => e = .returned (tup (readN s n)) ∧ w = w' := by
  unfold maxLen at hs
  have HR : Hid (readN s n = G s n 0 0) := jj (by unfold readN; rw [if_neg (by omega)]; rfl)
  generalize readN s n = R at HR ⊢
  go_enter Tryd.func87, Tryd.ntmps87
  go_wp2
  refine wp_scope_labels (JJ s n R w) (fun l f _ => mu l f) ?_ ?_
  · by_cases hsz : s.size ≤ n
    · have HX := jj (HR.out.trans (G_short (by omega) (by simpa using hsz)))
      go_wp2
      go_step3
      go_wp2
      go_step3
      exact JJ0 ⟨rfl, 4, _, _, _, _, _, _, _, _, _, _, _, _, _, _, _, _, _, _, _, _, _, _, _, _, _, _, _, _, _, _, _, _, _, _, _, _, _, _, _, _, _, _, _, _, _, _, _, _, _, rfl, HX.out, by decide⟩
    have hsz' : n < s.size := by omega
    have hbb := s[n].toNat_lt
    have ha := and127 s[n].toNat (by omega)
    have h9 : ¬ (0 = 9 ∧ 1 < s[n].toNat) := by omega
    have ho := or_zero s[n].toNat (by omega)
    have HS := jj (sum_lt 0 s[n].toNat 0 (by omega) (by omega) h9 (by omega))
    by_cases hb8 : s[n].toNat < 128
    · have HL := jj (last_R HR.out rfl (by omega) hsz' h9 hb8)
      clear h9
      generalize 0 + s[n].toNat % 128 * 128 ^ 0 = V at ho HL HS
      go_wp2
      go_step3
      go_wp2
      go_step3
      exact JJ2 ⟨rfl, V, s[n].toNat, 0, n + 1, _, _, _, _, _, _, _, _, _, _, _, _, _, _, _, _, _, _, _, _, _, _, _, _, _, _, _, _, _, _, _, _, _, _, _, _, _, _, _, _, _, _, _, _, _, _, _, rfl, rfl, rfl, rfl, by omega, by omega, HS.out.1, HL.out⟩
    · have HL := jj (more_R HR.out rfl (by omega) hsz' h9 hb8)
      clear h9
      generalize 0 + s[n].toNat % 128 * 128 ^ 0 = V at ho HL HS
      go_wp2
      go_step3
      go_wp2
      go_step3
      exact JJ1 ⟨rfl, V, 1, n + 1, _, _, _, _, _, _, _, _, _, _, _, _, _, _, _, _, _, _, _, _, _, _, _, _, _, _, _, _, _, _, _, _, _, _, _, _, _, _, _, _, _, _, _, _, _, _, _, _, rfl, rfl, rfl, rfl, by omega, (HS.out.2 hb8).1, HL.out⟩
  · intro l f w' hJ
    unfold JJ at hJ
    split at hJ
    · rename_i h1
      subst h1
      obtain ⟨rfl, c, x2, x3, x7, x8, x9, x10, x12, x13, x14, x15, x16, x17, x18, x19, x20, x21, x22, x23, x24, x25, x26, x27, x28, x29, x30, x31, x32, x33, x34, x35, x36, x37, x38, x39, x40, x41, x42, x43, x44, x45, x46, x47, x48, x49, x50, x51, x52, x53, x54, rfl, hR, hc⟩ := hJ
      refine ⟨_, rfl, ?_⟩
      have HR' := jj hR
      clear hR
      go_wp2
      simp only [La.exitTo]
      go_ret3
      refine ⟨ret_val ?_, rfl⟩
      rw [HR'.out]
      exact tup_bad c hc
    split at hJ
    · rename_i _ h1
      subst h1
      obtain ⟨rfl, u, i, p, k, q, x2, x3, x8, x12, x13, x14, x15, x16, x17, x18, x19, x20, x21, x22, x23, x24, x25, x26, x27, x28, x29, x30, x31, x32, x33, x34, x35, x36, x37, x38, x39, x40, x41, x42, x43, x44, x45, x46, x47, x48, x49, x50, x51, x52, x53, x54, rfl, rfl, rfl, hp, hi, hu, hR⟩ := hJ
      refine ⟨_, rfl, ?_⟩
      have HP := jj hp
      have HU := jj hu
      have HR' := jj hR
      clear hp hu hR
      by_cases hsz : s.size ≤ p
      · have HX := jj (HR'.out.trans (G_short hi (by rw [← HP.out]; exact hsz)))
        go_wp2
        go_step3
        exact ⟨JJ0 ⟨rfl, 4, _, _, _, _, _, _, _, _, _, _, _, _, _, _, _, _, _, _, _, _, _, _, _, _, _, _, _, _, _, _, _, _, _, _, _, _, _, _, _, _, _, _, _, _, _, _, _, _, _, rfl, HX.out, by decide⟩, by go_light; simp [mu, intOf]; omega⟩
      have hsz' : p < s.size := by omega
      have hbb := s[p].toNat_lt
      have ha := and127 s[p].toNat (by omega)
      by_cases h9 : i = 9 ∧ 1 < s[p].toNat
      · have HX := jj (ten_R HR'.out HP.out hi hsz' h9)
        obtain ⟨rfl, hb1⟩ := h9
        go_wp2
        go_step3
        exact ⟨JJ0 ⟨rfl, 3, _, _, _, _, _, _, _, _, _, _, _, _, _, _, _, _, _, _, _, _, _, _, _, _, _, _, _, _, _, _, _, _, _, _, _, _, _, _, _, _, _, _, _, _, _, _, _, _, _, rfl, HX.out, by decide⟩, by go_light; simp [mu, intOf]⟩
      have HS := jj (sum_lt u s[p].toNat i hi HU.out h9 (by omega))
      by_cases hb8 : s[p].toNat < 128
      · have HL := jj (last_R HR'.out HP.out hi hsz' h9 hb8)
        by_cases e9 : i = 9
        · subst e9
          have ho := or_nine u s[p].toNat HU.out (by omega)
          generalize u + s[p].toNat % 128 * 128 ^ 9 = V at ho HL HS
          have hb1 : s[p].toNat ≤ 1 := by omega
          have hd1 : decide (1 < (s[p].toNat : Int)) = false := by simp; omega
          clear h9
          go_wp2
          go_step3
          exact ⟨JJ2 ⟨rfl, V, s[p].toNat, 9, p + 1, _, _, _, _, _, _, _, _, _, _, _, _, _, _, _, _, _, _, _, _, _, _, _, _, _, _, _, _, _, _, _, _, _, _, _, _, _, _, _, _, _, _, _, _, _, _, _, rfl, rfl, rfl, by rw [HP.out], by omega, by omega, HS.out.1, HL.out⟩, by go_light; simp [mu, intOf]⟩
        · obtain ⟨hw, ho⟩ := step_facts u s[p].toNat i hi HU.out h9 (by omega)
          have hne : ((i : Int) + 1 == 10) = false := by simp; omega
          generalize u + s[p].toNat % 128 * 128 ^ i = V at ho HL HS
          generalize s[p].toNat % 128 * 128 ^ i = V' at ho hw
          clear h9
          go_wp2
          go_step3
          exact ⟨JJ2 ⟨rfl, V, s[p].toNat, i, p + 1, _, _, _, _, _, _, _, _, _, _, _, _, _, _, _, _, _, _, _, _, _, _, _, _, _, _, _, _, _, _, _, _, _, _, _, _, _, _, _, _, _, _, _, _, _, _, _, rfl, rfl, rfl, by rw [HP.out], by omega, by omega, HS.out.1, HL.out⟩, by go_light; simp [mu, intOf]; omega⟩
      · have HL := jj (more_R HR'.out HP.out hi hsz' h9 hb8)
        have hi9 := (HS.out.2 hb8).2
        have HV := jj (HS.out.2 hb8).1
        obtain ⟨hw, ho⟩ := step_facts u s[p].toNat i hi HU.out h9 (by omega)
        have hne : ((i : Int) + 1 == 10) = false := by simp; omega
        generalize u + s[p].toNat % 128 * 128 ^ i = V at ho HL HV
        generalize s[p].toNat % 128 * 128 ^ i = V' at ho hw
        clear h9 HS
        go_wp2
        go_step3
        exact ⟨JJ1 ⟨rfl, V, i + 1, p + 1, _, _, _, _, _, _, _, _, _, _, _, _, _, _, _, _, _, _, _, _, _, _, _, _, _, _, _, _, _, _, _, _, _, _, _, _, _, _, _, _, _, _, _, _, _, _, _, _, rfl, rfl, rfl, by rw [HP.out]; omega, by omega, HV.out, HL.out⟩, by go_light; simp [mu, intOf]; omega⟩
    split at hJ
    · rename_i _ _ h1
      subst h1
      obtain ⟨rfl, u, b, i, p, k, q, x2, x3, x12, x13, x14, x15, x16, x17, x18, x19, x20, x21, x22, x23, x24, x25, x26, x27, x28, x29, x30, x31, x32, x33, x34, x35, x36, x37, x38, x39, x40, x41, x42, x43, x44, x45, x46, x47, x48, x49, x50, x51, x52, x53, x54, rfl, rfl, rfl, hp, hi, hb, hbig, hR⟩ := hJ
      refine ⟨_, rfl, ?_⟩
      have HR' := jj hR
      have HB := jj hbig
      clear hR hp hbig
      by_cases hz : b = 0 ∧ 0 < i
      · have HX := jj (HR'.out.trans (if_pos hz))
        obtain ⟨rfl, hi0⟩ := hz
        go_wp2
        go_step3
        exact ⟨JJ0 ⟨rfl, 3, _, _, _, _, _, _, _, _, _, _, _, _, _, _, _, _, _, _, _, _, _, _, _, _, _, _, _, _, _, _, _, _, _, _, _, _, _, _, _, _, _, _, _, _, _, _, _, _, _, rfl, HX.out, by decide⟩, by go_light; simp [mu]⟩
      · have HX := jj (HR'.out.trans (if_neg hz))
        by_cases hb0 : b = 0
        · subst hb0
          have hi0 : i = 0 := by omega
          subst hi0
          go_wp2_with (go_at_call 90; refine (impl_unzigzag u HB.out _).mono ?_; rintro e w1 ⟨rfl, rfl⟩)
          simp only [La.exitTo]
          go_ret3
          refine ⟨ret_val ?_, rfl⟩
          rw [HX.out]
          exact tup_ok _ _
        · have hb1 : ((b : Int) == 0) = false := by simp; omega
          go_wp2_with (go_at_call 90; refine (impl_unzigzag u HB.out _).mono ?_; rintro e w1 ⟨rfl, rfl⟩)
          simp only [La.exitTo]
          go_ret3
          refine ⟨ret_val ?_, rfl⟩
          rw [HX.out]
          exact tup_ok _ _
    · exact hJ.elim
theorem impl_readNum (s : ByteArray) (hs : s.size ≤ maxLen) (a : Int) (w : World) :
    Calls Tryd.prog 87 #[.string s, .int .i64 a] w fun e w' => e = .returned (tup (readN s a)) ∧ w = w' := by
  by_cases h : a < 0
  · exact impl_readNum_neg s a h w
  · obtain ⟨n, rfl⟩ : ∃ n : Nat, a = n := ⟨a.toNat, by omega⟩
    exact impl_readNum_nat s hs n w
def nout (R : Int × Int × Int) : Value := .agg #[.int .i64 R.1, .int .i64 R.2.1, .int .i64 R.2.2]
end Go.Proofs.YtiaoifodaoifjaaDoor.Ge
