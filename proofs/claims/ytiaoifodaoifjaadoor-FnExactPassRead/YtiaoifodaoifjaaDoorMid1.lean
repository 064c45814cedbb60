/- Parts of a law: Labels, GetRead, TextRead, SetReadMath, MsgReadMath, PassMath, SeenBytesS, PassOfS, GetSpecN, SeenReadS, GetTextS, SetText, UnsealLaw, PassReadS, SeenRead, AsR. No condition of its own. -/
import Derived.ScopeJumps
import Derived.Test.YtiaoifodaoifjaaDoorRows
import Derived.WalkKit
import Derived.Lib.Hide
import Derived.Deep.Light
import Derived.RowKitTokens
import Derived.Test.YtiaoifodaoifjaaDoorGetMath
import Derived.ProofKit
import Derived.OpenShut
import Derived.ShutString
import Derived.Laws.BitsAllLaws
import Derived.Laws.Bits64
import Derived.WalkSpells
import Derived.WalkMore
import Derived.Laws.DeepNot64
import Derived.IntWalk
import Derived.Test.YtiaoifodaoifjaaDoorJoin
import Derived.Deep.RegionWith
import Derived.RegionTactic
import Derived.StillTailTactics
import Derived.Test.YtiaoifodaoifjaaDoorSeenMath
import Derived.Test.YtiaoifodaoifjaaDoorSetBytesMath
import Derived.Test.YtiaoifodaoifjaaDoorMsgTurnMath
import Derived.Test.YtiaoifodaoifjaaDoorSealMath
import Derived.Test.YtiaoifodaoifjaaDoorPassV
import Derived.Test.YtiaoifodaoifjaaDoorBytesMath
import Derived.Test.YtiaoifodaoifjaaDoorSeenS
import Derived.Test.YtiaoifodaoifjaaDoorNum
import Derived.WalkArith
import Derived.Test.YtiaoifodaoifjaaDoorReadMath
import Derived.Test.YtiaoifodaoifjaaDoorFrame
import Derived.Test.YtiaoifodaoifjaaDoorPutMath
import Derived.Deep.RegionHeld3
import Derived.OwnWalk
import Derived.Test.YtiaoifodaoifjaaDoorUnseal
import Derived.Test.YtiaoifodaoifjaaDoorFrame2
import Derived.Deep.DeepCutAuto
import Derived.Test.YtiaoifodaoifjaaDoorSeenI
import Derived.LaidEql
import Derived.Stop.Asserts
import Derived.Lib.ReflectliteSlice
import Derived.Test.YtiaoifodaoifjaaDoorMarkG
set_option linter.unusedSimpArgs false
set_option linter.unusedVariables false
namespace Go.Proofs.YtiaoifodaoifjaaDoor.La
open Go

/-- As Q; by a goto to a label: J of that label. -/
def exitTo (J : Nat → Act → World → Prop) (Q : Exit → Act → World → Prop) : Exit → Act → World → Prop
  | .goto l, a, w => J l a w
  | e, a, w => Q e a w

section
variable {P : Program} {a : Act} {w : World} {Q : Exit → Act → World → Prop}

theorem wp_scope_labels {c : Code} (J : Nat → Act → World → Prop) (μ : Nat → Act → World → Nat)
    (first : c.wp P (exitTo J Q) a w)
    (pass : ∀ l a w, J l a w → ∃ rest, findLabel c l = some rest ∧ rest.wp P (exitTo (fun l' a' w' => J l' a' w' ∧ μ l' a' w' < μ l a w) Q) a w) : (Code.scope c).wp P Q a w := by
  intro b k cs
  have key : ∀ n l a w, μ l a w = n → J l a w → ∃ rest, findLabel c l = some rest ∧ ∃ e a' w', Q e a' w' ∧ Arrives P (lone (b.at a (.code rest :: .inScope c :: k)) cs w) b k cs e a' w' := by
    intro n
    induction n using Nat.strongRecOn with
    | _ n ih =>
      intro l a w hn hJ
      obtain ⟨rest, hf, hwp⟩ := pass l a w hJ
      refine ⟨rest, hf, ?_⟩
      obtain ⟨e, a₁, w₁, hq, harr⟩ := hwp b (.inScope c :: k) cs
      cases e with
      | normal => exact ⟨.normal, a₁, w₁, hq, Steps.trans harr (.one step_inScope)⟩
      | exit id => exact ⟨.exit id, a₁, w₁, hq, fun k' hk => harr k' (by simp [Go.exitTo, hk])⟩
      | goto l' =>
        obtain ⟨hJ', hlt⟩ := hq
        obtain ⟨rest', hf', e₂, a₂, w₂, hq₂, harr₂⟩ := ih _ (by omega) l' a₁ w₁ rfl hJ'
        have hg : gotoIn l' (.inScope c :: k) = some (.code rest' :: .inScope c :: k) := by simp [gotoIn, hf']
        exact ⟨e₂, a₂, w₂, hq₂, .of_steps (harr _ hg) harr₂⟩
      | ret => exact ⟨_, a₁, w₁, hq, harr⟩
      | panic ch => exact ⟨_, a₁, w₁, hq, harr⟩
      | outgrown => exact ⟨_, a₁, w₁, hq, harr⟩
  obtain ⟨e, a₁, w₁, hq, harr⟩ := first b (.inScope c :: k) cs
  cases e with
  | normal => exact ⟨.normal, a₁, w₁, hq, .head step_scope (Steps.trans harr (.one step_inScope))⟩
  | exit id => exact ⟨.exit id, a₁, w₁, hq, fun k' hk => .head step_scope (harr k' (by simp [Go.exitTo, hk]))⟩
  | goto l' =>
    obtain ⟨rest', hf', e₂, a₂, w₂, hq₂, harr₂⟩ := key _ l' a₁ w₁ rfl hq
    have hg : gotoIn l' (.inScope c :: k) = some (.code rest' :: .inScope c :: k) := by simp [gotoIn, hf']
    exact ⟨e₂, a₂, w₂, hq₂, .of_steps (.head step_scope (harr _ hg)) harr₂⟩
  | ret => exact ⟨_, a₁, w₁, hq, .of_steps (.one step_scope) harr⟩
  | panic ch => exact ⟨_, a₁, w₁, hq, .of_steps (.one step_scope) harr⟩
  | outgrown => exact ⟨_, a₁, w₁, hq, .of_steps (.one step_scope) harr⟩
end
end Go.Proofs.YtiaoifodaoifjaaDoor.La

set_option linter.unusedSimpArgs false
set_option linter.unusedVariables false
namespace Go.Proofs.YtiaoifodaoifjaaDoor.Ge
open Go.RowKit La

def Big (u : Nat) : Prop := u < 18446744073709551616
/-- an error by its code -/
def errV (c : Int) : Value := if c = 0 then .nilIface else .iface 134 (.agg #[.int .i64 c])
def tup (R : Int × Int × Int) : Value := .tuple #[.int .i64 R.1, .int .i64 R.2.1, errV R.2.2]
theorem tup_bad (c : Int) (h : c ≠ 0) : Value.tuple #[.int .i64 0, .int .i64 0, .iface 134 (.agg #[.int .i64 c])] = tup (0, 0, c) := by
  unfold tup errV; rw [if_neg h]
theorem tup_ok (n k : Int) : Value.tuple #[.int .i64 n, .int .i64 k, .nilIface] = tup (n, k, 0) := rfl
/-- behind 'Below' every old cell and mark reads as before -/
theorem bcell {W w1 : World} (hb : Below W.heap.size W w1) : (∀ b o, b < W.heap.size → w1.cell? ⟨b, o, none⟩ = W.cell? ⟨b, o, none⟩) ∧ (∀ b o, b < W.heap.size → w1.frozen? ⟨b, o, none⟩ = W.frozen? ⟨b, o, none⟩) :=
  ⟨fun _ _ h => hb.cell h, fun _ _ h => hb.frozen h⟩
theorem ret_val {a b : Value} (h : a = b) : Ending.returned a = .returned b := by rw [h]
/-- at 'wrong': the code is c, and the answer is that code alone -/
def J0 (s : ByteArray) (a : Int) (R : Int × Int × Int) (w : World) (f : Act) (w' : World) : Prop :=
  w' = w ∧ ∃ (c : Int) (x2 x3 x7 x8 x9 x10 x12 x13 x14 x15 x16 x17 x18 x19 x20 x21 x22 x23 x24 x25 x26 x27 x28 x29 x30 x31 x32 x33 x34 x35 x36 x37 x38 x39 x40 x41 x42 x43 x44 x45 x46 x47 x48 x49 x50 x51 x52 x53 x54 : Value), f = { tmps := #[.string s, .int .i64 a, x2, x3, .int .i64 0, .int .i64 0, .nilIface, x7, x8, x9, x10, .int .i64 c, x12, x13, x14, x15, x16, x17, x18, x19, x20, x21, x22, x23, x24, x25, x26, x27, x28, x29, x30, x31, x32, x33, x34, x35, x36, x37, x38, x39, x40, x41, x42, x43, x44, x45, x46, x47, x48, x49, x50, x51, x52, x53, x54], defers := [] } ∧ R = (0, 0, c) ∧ c ≠ 0
/-- at 'more': i bytes were read and have given u -/
def J1 (s : ByteArray) (n : Nat) (R : Int × Int × Int) (w : World) (f : Act) (w' : World) : Prop :=
  w' = w ∧ ∃ (u i p : Nat) (k q : Int) (x2 x3 x8 x12 x13 x14 x15 x16 x17 x18 x19 x20 x21 x22 x23 x24 x25 x26 x27 x28 x29 x30 x31 x32 x33 x34 x35 x36 x37 x38 x39 x40 x41 x42 x43 x44 x45 x46 x47 x48 x49 x50 x51 x52 x53 x54 : Value), f = { tmps := #[.string s, .int .i64 (n : Nat), x2, x3, .int .i64 0, .int .i64 0, .nilIface, .int .u64 (u : Nat), x8, .int .i64 k, .int .i64 q, .int .i64 3, x12, x13, x14, x15, x16, x17, x18, x19, x20, x21, x22, x23, x24, x25, x26, x27, x28, x29, x30, x31, x32, x33, x34, x35, x36, x37, x38, x39, x40, x41, x42, x43, x44, x45, x46, x47, x48, x49, x50, x51, x52, x53, x54], defers := [] } ∧ k = i ∧ q = p ∧ p = n + i ∧ i < 10 ∧ u < 128 ^ i ∧ R = G s n i u
/-- at 'last': byte i was the last one -/
def J2 (s : ByteArray) (n : Nat) (R : Int × Int × Int) (w : World) (f : Act) (w' : World) : Prop :=
  w' = w ∧ ∃ (u b i p : Nat) (k q : Int) (x2 x3 x12 x13 x14 x15 x16 x17 x18 x19 x20 x21 x22 x23 x24 x25 x26 x27 x28 x29 x30 x31 x32 x33 x34 x35 x36 x37 x38 x39 x40 x41 x42 x43 x44 x45 x46 x47 x48 x49 x50 x51 x52 x53 x54 : Value), f = { tmps := #[.string s, .int .i64 (n : Nat), x2, x3, .int .i64 0, .int .i64 0, .nilIface, .int .u64 (u : Nat), .int .u8 (b : Nat), .int .i64 k, .int .i64 q, .int .i64 3, x12, x13, x14, x15, x16, x17, x18, x19, x20, x21, x22, x23, x24, x25, x26, x27, x28, x29, x30, x31, x32, x33, x34, x35, x36, x37, x38, x39, x40, x41, x42, x43, x44, x45, x46, x47, x48, x49, x50, x51, x52, x53, x54], defers := [] } ∧ k = (i : Int) + 1 ∧ q = p ∧ p = n + i + 1 ∧ i < 10 ∧ b < 256 ∧ Big u ∧ R = if b = 0 ∧ 0 < i then (0, 0, 3) else (unz u, (p : Int), 0)

def JJ (s : ByteArray) (n : Nat) (R : Int × Int × Int) (w : World) (l : Nat) (f : Act) (w' : World) : Prop :=
  if l = 0 then J0 s n R w f w' else if l = 1 then J1 s n R w f w' else if l = 2 then J2 s n R w f w' else False
def mu (l : Nat) (f : Act) : Nat := if l = 0 then 0 else if l = 2 then 1 else 20 - (intOf (f.tmps.getD 9 undef)).toNat

set_option maxRecDepth 100000 in
set_option maxHeartbeats 2000000 in
theorem impl_readNum_neg (s : ByteArray) (a : Int) (h0 : a < 0) (w : World) :
    Calls Tryd.prog 87 #[.string s, .int .i64 a] w fun e w' => e = .returned (tup (readN s a)) ∧ w = w' := by
  have HR : Hid (readN s a = (0, 0, 1)) := Lib.hid (if_pos h0)
  go_enter Tryd.func87, Tryd.ntmps87
  go_wp2
  refine wp_scope_labels (fun l f w' => l = 0 ∧ J0 s a (readN s a) w f w') (fun _ _ _ => 0) ?_ ?_
  · go_wp2
    go_step3
    exact ⟨rfl, rfl, 1, _, _, _, _, _, _, _, _, _, _, _, _, _, _, _, _, _, _, _, _, _, _, _, _, _, _, _, _, _, _, _, _, _, _, _, _, _, _, _, _, _, _, _, _, _, _, _, _, _, rfl, HR.out, by decide⟩
  · rintro l f w' ⟨rfl, rfl, c, x2, x3, x7, x8, x9, x10, x12, x13, x14, x15, x16, x17, x18, x19, x20, x21, x22, x23, x24, x25, x26, x27, x28, x29, x30, x31, x32, x33, x34, x35, x36, x37, x38, x39, x40, x41, x42, x43, x44, x45, x46, x47, x48, x49, x50, x51, x52, x53, x54, rfl, hR, hc⟩
    refine ⟨_, rfl, ?_⟩
    have HR := Lib.hid hR
    clear hR
    go_wp2
    simp only [La.exitTo]
    go_ret3
    refine ⟨ret_val ?_, rfl⟩
    rw [HR.out]
    exact tup_bad c hc

theorem and127 (b : Nat) (h : b < 256) : bits .and .u8 (b : Int) 127 = ((b % 128 : Nat) : Int) := by
  have := u8_and_nat b 127 h (by omega)
  rw [nat_mask7] at this; exact this

theorem and1_64 (u : Nat) (h : Big u) : bits .and .u64 (u : Int) 1 = ((u % 2 : Nat) : Int) := by
  have := u64_and_nat u 1 h (by omega)
  rw [nat_mask1] at this; exact this
theorem ret_int {k : IntKind} {a b : Int} (h : a = b) : Ending.returned (.int k a) = .returned (.int k b) := by rw [h]
theorem not64 (a : Nat) (ha : a < 9223372036854775808) : bits .xor .i64 (-1) (a : Int) = -1 - (a : Int) := i64_not a ha
theorem unz_odd (u : Nat) (h : u % 2 = 1) : -1 - ((u / 2 : Nat) : Int) = unz u := by unfold unz; rw [if_pos h]; omega
theorem unz_even (u : Nat) (h : ¬ u % 2 = 1) : ((u / 2 : Nat) : Int) = unz u := by unfold unz; rw [if_neg h]

set_option maxRecDepth 100000 in
theorem impl_unzigzag (u : Nat) (hu : Big u) (w : World) :
    Calls Tryd.prog 90 #[.int .u64 (u : Nat)] w fun e w' => e = .returned (.int .i64 (unz u)) ∧ w = w' := by
  have hh : u / 2 < 9223372036854775808 := by unfold Big at hu; omega
  have hc : IntKind.i64.wrap ((u : Int) / 2) = ((u / 2 : Nat) : Int) := IntWalk.i64_in _ (by omega)
  have ha := and1_64 u hu
  have hx : bits .xor .i64 (-1) ((u / 2 : Nat) : Int) = -1 - ((u / 2 : Nat) : Int) := not64 _ hh
  by_cases ho : u % 2 = 1
  · have HU := Lib.hid (unz_odd u ho)
    rw [ho] at ha
    generalize u / 2 = h2 at hc hx HU hh
    clear ho hu
    go_enter Tryd.func90, Tryd.ntmps90
    go_wp2
    all_goals go_ret
    all_goals exact ⟨ret_int HU.out, rfl⟩
  · have HU := Lib.hid (unz_even u ho)
    rw [show u % 2 = 0 by omega] at ha
    generalize u / 2 = h2 at hc hx HU hh
    clear ho hu
    go_enter Tryd.func90, Tryd.ntmps90
    go_wp2
    all_goals go_ret
    all_goals exact ⟨ret_int HU.out, rfl⟩

theorem step_facts (u b i : Nat) (hi : i < 10) (hu : u < 128 ^ i) (h9 : ¬ (i = 9 ∧ 1 < b)) (hb : b < 256) :
    IntKind.u64.wrap ((b : Int) % 128 * 2 ^ (7 * i)) = ((b % 128 * 128 ^ i : Nat) : Int) ∧ bits .or .u64 (u : Int) ((b % 128 * 128 ^ i : Nat) : Int) = ((u + b % 128 * 128 ^ i : Nat) : Int) := by
  have hl := (sum_lt u b i hi hu h9 hb).1
  have e : (b : Int) % 128 * 2 ^ (7 * i) = ((b % 128 * 128 ^ i : Nat) : Int) := by
    rw [← shl_eq, Int.natCast_mul, Int.natCast_pow, Int.natCast_emod]; rfl
  refine ⟨?_, ?_⟩
  · rw [e, IntKind.wrap_u64]; omega
  · rw [u64_or_nat u (b % 128 * 128 ^ i) (by omega) (by omega), or_eq u (b % 128) i hu]
theorem or_nine (u b : Nat) (hu : u < 128 ^ 9) (hb : b ≤ 1) : bits .or .u64 (u : Int) ((b : Int) % 128 * 9223372036854775808) = ((u + b % 128 * 128 ^ 9 : Nat) : Int) := by
  have h := (step_facts u b 9 (by omega) hu (by omega) (by omega)).2
  have e9 : (128 : Nat) ^ 9 = 9223372036854775808 := by decide
  rw [← h, e9]; rfl
theorem or_zero (b : Nat) (hb : b < 256) : bits .or .u64 0 ((b : Int) % 128) = ((0 + b % 128 * 128 ^ 0 : Nat) : Int) := by
  have h := (step_facts 0 b 0 (by omega) (by omega) (by omega) hb).2
  rw [← h]; simp
theorem JJ0 {s : ByteArray} {n : Nat} {R : Int × Int × Int} {w w' : World} {f : Act} (h : J0 s n R w f w') : JJ s n R w 0 f w' := h
theorem JJ1 {s : ByteArray} {n : Nat} {R : Int × Int × Int} {w w' : World} {f : Act} (h : J1 s n R w f w') : JJ s n R w 1 f w' := h
theorem JJ2 {s : ByteArray} {n : Nat} {R : Int × Int × Int} {w w' : World} {f : Act} (h : J2 s n R w f w') : JJ s n R w 2 f w' := h
/-- what byte i settles, where it is the last one -/
theorem last_R {s : ByteArray} {n i u p : Nat} {R : Int × Int × Int} (hR : R = G s n i u) (hp : p = n + i) (hi : i < 10) (hsz : p < s.size) (h9 : ¬ (i = 9 ∧ 1 < s[p].toNat)) (hb : s[p].toNat < 128) :
    R = if s[p].toNat = 0 ∧ 0 < i then (0, 0, 3) else (unz (u + s[p].toNat % 128 * 128 ^ i), ((p + 1 : Nat) : Int), 0) := by
  subst hp
  rw [← byteN_eq s _ hsz] at h9 hb ⊢
  rw [hR]
  split
  · exact G_zero hi (by omega) h9 hb ‹_›
  · exact G_last hi (by omega) h9 hb ‹_›
theorem more_R {s : ByteArray} {n i u p : Nat} {R : Int × Int × Int} (hR : R = G s n i u) (hp : p = n + i) (hi : i < 10) (hsz : p < s.size) (h9 : ¬ (i = 9 ∧ 1 < s[p].toNat)) (hb : ¬ s[p].toNat < 128) :
    R = G s n (i + 1) (u + s[p].toNat % 128 * 128 ^ i) := by
  subst hp
  rw [← byteN_eq s _ hsz] at h9 hb ⊢
  rw [hR]; exact G_more hi (by omega) h9 hb
theorem ten_R {s : ByteArray} {n i u p : Nat} {R : Int × Int × Int} (hR : R = G s n i u) (hp : p = n + i) (hi : i < 10) (hsz : p < s.size) (h9 : i = 9 ∧ 1 < s[p].toNat) : R = (0, 0, 3) := by
  subst hp
  rw [← byteN_eq s _ hsz] at h9
  rw [hR]; exact G_ten hi (by omega) h9

set_option maxRecDepth 100000 in
set_option maxHeartbeats 2000000 in
theorem impl_readNum_nat (s : ByteArray) (hs : s.size ≤ maxLen) (n : Nat) (w : World) :
    Calls Tryd.prog 87 #[.string s, .int .i64 (n : Nat)] w fun e w' => e = .returned (tup (readN s n)) ∧ w = w' := by
  unfold maxLen at hs
  have HR : Hid (readN s n = G s n 0 0) := Lib.hid (by unfold readN; rw [if_neg (by omega)]; rfl)
  generalize readN s n = R at HR ⊢
  go_enter Tryd.func87, Tryd.ntmps87
  go_wp2
  refine wp_scope_labels (JJ s n R w) (fun l f _ => mu l f) ?_ ?_
  · by_cases hsz : s.size ≤ n
    · have HX := Lib.hid (HR.out.trans (G_short (by omega) (by simpa using hsz)))
      go_wp2
      go_step3
      go_wp2
      go_step3
      exact JJ0 ⟨rfl, 4, _, _, _, _, _, _, _, _, _, _, _, _, _, _, _, _, _, _, _, _, _, _, _, _, _, _, _, _, _, _, _, _, _, _, _, _, _, _, _, _, _, _, _, _, _, _, _, _, _, rfl, HX.out, by decide⟩
    have hsz' : n < s.size := by omega
    have hbb := s[n].toNat_lt
    have ha := and127 s[n].toNat (by omega)
    have h9 : ¬ (0 = 9 ∧ 1 < s[n].toNat) := by omega
    have ho := or_zero s[n].toNat (by omega)
    have HS := Lib.hid (sum_lt 0 s[n].toNat 0 (by omega) (by omega) h9 (by omega))
    by_cases hb8 : s[n].toNat < 128
    · have HL := Lib.hid (last_R HR.out rfl (by omega) hsz' h9 hb8)
      clear h9
      generalize 0 + s[n].toNat % 128 * 128 ^ 0 = V at ho HL HS
      go_wp2
      go_step3
      go_wp2
      go_step3
      exact JJ2 ⟨rfl, V, s[n].toNat, 0, n + 1, _, _, _, _, _, _, _, _, _, _, _, _, _, _, _, _, _, _, _, _, _, _, _, _, _, _, _, _, _, _, _, _, _, _, _, _, _, _, _, _, _, _, _, _, _, _, _, rfl, rfl, rfl, rfl, by omega, by omega, HS.out.1, HL.out⟩
    · have HL := Lib.hid (more_R HR.out rfl (by omega) hsz' h9 hb8)
      clear h9
      generalize 0 + s[n].toNat % 128 * 128 ^ 0 = V at ho HL HS
      go_wp2
      go_step3
      go_wp2
      go_step3
      exact JJ1 ⟨rfl, V, 1, n + 1, _, _, _, _, _, _, _, _, _, _, _, _, _, _, _, _, _, _, _, _, _, _, _, _, _, _, _, _, _, _, _, _, _, _, _, _, _, _, _, _, _, _, _, _, _, _, _, _, rfl, rfl, rfl, rfl, by omega, (HS.out.2 hb8).1, HL.out⟩
  · intro l f w' hJ
    unfold JJ at hJ
    split at hJ
    · rename_i h1
      subst h1
      obtain ⟨rfl, c, x2, x3, x7, x8, x9, x10, x12, x13, x14, x15, x16, x17, x18, x19, x20, x21, x22, x23, x24, x25, x26, x27, x28, x29, x30, x31, x32, x33, x34, x35, x36, x37, x38, x39, x40, x41, x42, x43, x44, x45, x46, x47, x48, x49, x50, x51, x52, x53, x54, rfl, hR, hc⟩ := hJ
      refine ⟨_, rfl, ?_⟩
      have HR' := Lib.hid hR
      clear hR
      go_wp2
      simp only [La.exitTo]
      go_ret3
      refine ⟨ret_val ?_, rfl⟩
      rw [HR'.out]
      exact tup_bad c hc
    split at hJ
    · rename_i _ h1
      subst h1
      obtain ⟨rfl, u, i, p, k, q, x2, x3, x8, x12, x13, x14, x15, x16, x17, x18, x19, x20, x21, x22, x23, x24, x25, x26, x27, x28, x29, x30, x31, x32, x33, x34, x35, x36, x37, x38, x39, x40, x41, x42, x43, x44, x45, x46, x47, x48, x49, x50, x51, x52, x53, x54, rfl, rfl, rfl, hp, hi, hu, hR⟩ := hJ
      refine ⟨_, rfl, ?_⟩
      have HP := Lib.hid hp
      have HU := Lib.hid hu
      have HR' := Lib.hid hR
      clear hp hu hR
      by_cases hsz : s.size ≤ p
      · have HX := Lib.hid (HR'.out.trans (G_short hi (by rw [← HP.out]; exact hsz)))
        go_wp2
        go_step3
        exact ⟨JJ0 ⟨rfl, 4, _, _, _, _, _, _, _, _, _, _, _, _, _, _, _, _, _, _, _, _, _, _, _, _, _, _, _, _, _, _, _, _, _, _, _, _, _, _, _, _, _, _, _, _, _, _, _, _, _, rfl, HX.out, by decide⟩, by go_light; simp [mu, intOf]; omega⟩
      have hsz' : p < s.size := by omega
      have hbb := s[p].toNat_lt
      have ha := and127 s[p].toNat (by omega)
      by_cases h9 : i = 9 ∧ 1 < s[p].toNat
      · have HX := Lib.hid (ten_R HR'.out HP.out hi hsz' h9)
        obtain ⟨rfl, hb1⟩ := h9
        go_wp2
        go_step3
        exact ⟨JJ0 ⟨rfl, 3, _, _, _, _, _, _, _, _, _, _, _, _, _, _, _, _, _, _, _, _, _, _, _, _, _, _, _, _, _, _, _, _, _, _, _, _, _, _, _, _, _, _, _, _, _, _, _, _, _, rfl, HX.out, by decide⟩, by go_light; simp [mu, intOf]⟩
      have HS := Lib.hid (sum_lt u s[p].toNat i hi HU.out h9 (by omega))
      by_cases hb8 : s[p].toNat < 128
      · have HL := Lib.hid (last_R HR'.out HP.out hi hsz' h9 hb8)
        by_cases e9 : i = 9
        · subst e9
          have ho := or_nine u s[p].toNat HU.out (by omega)
          generalize u + s[p].toNat % 128 * 128 ^ 9 = V at ho HL HS
          have hb1 : s[p].toNat ≤ 1 := by omega
          have hd1 : decide (1 < (s[p].toNat : Int)) = false := by simp; omega
          clear h9
          go_wp2
          go_step3
          exact ⟨JJ2 ⟨rfl, V, s[p].toNat, 9, p + 1, _, _, _, _, _, _, _, _, _, _, _, _, _, _, _, _, _, _, _, _, _, _, _, _, _, _, _, _, _, _, _, _, _, _, _, _, _, _, _, _, _, _, _, _, _, _, _, rfl, rfl, rfl, by rw [HP.out], by omega, by omega, HS.out.1, HL.out⟩, by go_light; simp [mu, intOf]⟩
        · obtain ⟨hw, ho⟩ := step_facts u s[p].toNat i hi HU.out h9 (by omega)
          have hne : ((i : Int) + 1 == 10) = false := by simp; omega
          generalize u + s[p].toNat % 128 * 128 ^ i = V at ho HL HS
          generalize s[p].toNat % 128 * 128 ^ i = V' at ho hw
          clear h9
          go_wp2
          go_step3
          exact ⟨JJ2 ⟨rfl, V, s[p].toNat, i, p + 1, _, _, _, _, _, _, _, _, _, _, _, _, _, _, _, _, _, _, _, _, _, _, _, _, _, _, _, _, _, _, _, _, _, _, _, _, _, _, _, _, _, _, _, _, _, _, _, rfl, rfl, rfl, by rw [HP.out], by omega, by omega, HS.out.1, HL.out⟩, by go_light; simp [mu, intOf]; omega⟩
      · have HL := Lib.hid (more_R HR'.out HP.out hi hsz' h9 hb8)
        have hi9 := (HS.out.2 hb8).2
        have HV := Lib.hid (HS.out.2 hb8).1
        obtain ⟨hw, ho⟩ := step_facts u s[p].toNat i hi HU.out h9 (by omega)
        have hne : ((i : Int) + 1 == 10) = false := by simp; omega
        generalize u + s[p].toNat % 128 * 128 ^ i = V at ho HL HV
        generalize s[p].toNat % 128 * 128 ^ i = V' at ho hw
        clear h9 HS
        go_wp2
        go_step3
        exact ⟨JJ1 ⟨rfl, V, i + 1, p + 1, _, _, _, _, _, _, _, _, _, _, _, _, _, _, _, _, _, _, _, _, _, _, _, _, _, _, _, _, _, _, _, _, _, _, _, _, _, _, _, _, _, _, _, _, _, _, _, _, rfl, rfl, rfl, by rw [HP.out]; omega, by omega, HV.out, HL.out⟩, by go_light; simp [mu, intOf]; omega⟩
    split at hJ
    · rename_i _ _ h1
      subst h1
      obtain ⟨rfl, u, b, i, p, k, q, x2, x3, x12, x13, x14, x15, x16, x17, x18, x19, x20, x21, x22, x23, x24, x25, x26, x27, x28, x29, x30, x31, x32, x33, x34, x35, x36, x37, x38, x39, x40, x41, x42, x43, x44, x45, x46, x47, x48, x49, x50, x51, x52, x53, x54, rfl, rfl, rfl, hp, hi, hb, hbig, hR⟩ := hJ
      refine ⟨_, rfl, ?_⟩
      have HR' := Lib.hid hR
      have HB := Lib.hid hbig
      clear hR hp hbig
      by_cases hz : b = 0 ∧ 0 < i
      · have HX := Lib.hid (HR'.out.trans (if_pos hz))
        obtain ⟨rfl, hi0⟩ := hz
        go_wp2
        go_step3
        exact ⟨JJ0 ⟨rfl, 3, _, _, _, _, _, _, _, _, _, _, _, _, _, _, _, _, _, _, _, _, _, _, _, _, _, _, _, _, _, _, _, _, _, _, _, _, _, _, _, _, _, _, _, _, _, _, _, _, _, rfl, HX.out, by decide⟩, by go_light; simp [mu]⟩
      · have HX := Lib.hid (HR'.out.trans (if_neg hz))
        by_cases hb0 : b = 0
        · subst hb0
          have hi0 : i = 0 := by omega
          subst hi0
          go_wp2_with (go_at_call 90; refine (impl_unzigzag u HB.out _).mono ?_; rintro e w1 ⟨rfl, rfl⟩)
          simp only [La.exitTo]
          go_ret3
          refine ⟨ret_val ?_, rfl⟩
          rw [HX.out]
          exact tup_ok _ _
        · have hb1 : ((b : Int) == 0) = false := by simp; omega
          go_wp2_with (go_at_call 90; refine (impl_unzigzag u HB.out _).mono ?_; rintro e w1 ⟨rfl, rfl⟩)
          simp only [La.exitTo]
          go_ret3
          refine ⟨ret_val ?_, rfl⟩
          rw [HX.out]
          exact tup_ok _ _
    · exact hJ.elim

theorem impl_readNum (s : ByteArray) (hs : s.size ≤ maxLen) (a : Int) (w : World) :
    Calls Tryd.prog 87 #[.string s, .int .i64 a] w fun e w' => e = .returned (tup (readN s a)) ∧ w = w' := by
  by_cases h : a < 0
  · exact impl_readNum_neg s a h w
  · obtain ⟨n, rfl⟩ : ∃ n : Nat, a = n := ⟨a.toNat, by omega⟩
    exact impl_readNum_nat s hs n w
/-- the answer as a struct -/
def nout (R : Int × Int × Int) : Value := .agg #[.int .i64 R.1, .int .i64 R.2.1, .int .i64 R.2.2]
end Go.Proofs.YtiaoifodaoifjaaDoor.Ge

set_option linter.unusedSimpArgs false
set_option linter.unusedVariables false
namespace Go.Proofs.YtiaoifodaoifjaaDoor.Ge
open Go.RowKit

/-- a length-prefixed string: R is what the length gave -/
def cutT (s : ByteArray) (R : Int × Int × Int) : ByteArray × Int × Int :=
  if R.2.2 ≠ 0 then (⟨#[]⟩, 0, R.2.2) else if R.1 < 0 ∨ 8000 < R.1 then (⟨#[]⟩, 0, 3)
  else if (s.size : Int) - R.1 < R.2.1 then (⟨#[]⟩, 0, 4) else (s.extract R.2.1.toNat (R.2.1 + R.1).toNat, R.2.1 + R.1, 0)
theorem cut_bad (s : ByteArray) (a b c : Int) (h : c ≠ 0) : cutT s (a, b, c) = (⟨#[]⟩, 0, c) := if_pos h
theorem cut_range (s : ByteArray) (a b : Int) (h : a < 0 ∨ 8000 < a) : cutT s (a, b, 0) = (⟨#[]⟩, 0, 3) := by
  unfold cutT; rw [if_neg (by simp), if_pos h]
theorem cut_short (s : ByteArray) (k m : Nat) (h : k ≤ 8000) (h2 : s.size < m + k) : cutT s ((k : Int), (m : Int), 0) = (⟨#[]⟩, 0, 4) := by
  unfold cutT; rw [if_neg (by simp), if_neg (by simp; omega), if_pos (by simp; omega)]
theorem cut_ok (s : ByteArray) (k m : Nat) (h : k ≤ 8000) (h2 : m + k ≤ s.size) : cutT s ((k : Int), (m : Int), 0) = (s.extract m (m + k), (m : Int) + (k : Int), 0) := by
  unfold cutT
  rw [if_neg (by simp), if_neg (by simp; omega), if_neg (by simp; omega)]
  simp only
  rw [show ((m : Int) + (k : Int)).toNat = m + k by omega, Int.toNat_natCast]
/-- a number that was read ends inside the string -/
theorem G_at (s : ByteArray) (a : Nat) : ∀ k i u, 10 - i = k → (G s a i u).2.2 = 0 → ∃ m : Nat, (G s a i u).2.1 = (m : Int) ∧ m ≤ s.size := by
  intro k
  induction k with
  | zero => intro i u h hz; rw [G_end (by omega)] at hz; simp at hz
  | succ k ih =>
    intro i u h hz
    have hi : i < 10 := by omega
    by_cases h1 : s.size ≤ a + i
    · rw [G_short hi h1] at hz; simp at hz
    by_cases h2 : i = 9 ∧ 1 < byteN s (a + i)
    · rw [G_ten hi h1 h2] at hz; simp at hz
    by_cases h3 : byteN s (a + i) < 128
    · by_cases h4 : byteN s (a + i) = 0 ∧ 0 < i
      · rw [G_zero hi h1 h2 h3 h4] at hz; simp at hz
      · rw [G_last hi h1 h2 h3 h4]
        exact ⟨a + i + 1, rfl, by omega⟩
    · rw [G_more hi h1 h2 h3] at hz ⊢
      exact ih _ _ (by omega) hz
theorem readN_at (s : ByteArray) (a : Int) (h : (readN s a).2.2 = 0) : ∃ m : Nat, (readN s a).2.1 = (m : Int) ∧ m ≤ s.size := by
  unfold readN at h ⊢
  split at h
  · simp at h
  · rw [if_neg (by assumption)]; exact G_at s _ _ 0 0 rfl h
def ttup (T : ByteArray × Int × Int) : Value := .tuple #[.string T.1, .int .i64 T.2.1, errV T.2.2]
def tout (T : ByteArray × Int × Int) : Value := .agg #[.string T.1, .int .i64 T.2.1, .int .i64 T.2.2]
theorem ttup_bad (c : Int) (h : c ≠ 0) : Value.tuple #[.string ⟨#[]⟩, .int .i64 0, .iface 134 (.agg #[.int .i64 c])] = ttup (⟨#[]⟩, 0, c) := by
  unfold ttup errV; rw [if_neg h]

set_option maxRecDepth 100000 in
set_option maxHeartbeats 2000000 in
theorem impl_readText (s : ByteArray) (hs : s.size ≤ maxLen) (h8 : s.size ≤ 100000) (a : Int) (w : World) :
    Calls Tryd.prog 83 #[.string s, .int .i64 a] w fun e w' => e = .returned (ttup (cutT s (readN s a))) ∧ Below w.heap.size w w' := by
  have hK := fun W => impl_readNum s hs a W
  have hat := readN_at s a
  generalize readN s a = R at hK hat ⊢
  obtain ⟨r1, r2, r3⟩ := R
  unfold tup at hK
  simp only at hK hat
  by_cases h3 : r3 = 0
  · subst h3
    obtain ⟨m, rfl, hm⟩ := hat rfl
    unfold errV at hK
    simp only [if_true] at hK
    have HK := Lib.hid hK
    clear hK hat
    by_cases hr : r1 < 0 ∨ 8000 < r1
    · have HX := Lib.hid (cut_range s r1 m hr)
      rcases hr with hr | hr
      all_goals
        go_enter Tryd.func83, Tryd.ntmps83
        go_wp2_with fail
        refine (HK.out _).mono ?_
        rintro e w1 ⟨rfl, rfl⟩
        go_wp2
        go_ret3
        exact ⟨ret_val (by rw [HX.out]; exact ttup_bad 3 (by decide)), Below.refl _ _⟩
    · obtain ⟨k, rfl⟩ : ∃ k : Nat, r1 = k := ⟨r1.toNat, by omega⟩
      have hk8 : k ≤ 8000 := by omega
      have d1 : decide ((k : Int) < 0) = false := by simp
      have d2 : decide (8000 < (k : Int)) = false := by simp; omega
      clear hr
      by_cases hsh : s.size < m + k
      · have HX := Lib.hid (cut_short s k m hk8 hsh)
        have t1 : (s.size : Int) - (m : Int) < (k : Int) := by omega
        go_enter Tryd.func83, Tryd.ntmps83
        go_wp2_with fail
        refine (HK.out _).mono ?_
        rintro e w1 ⟨rfl, rfl⟩
        go_wp2
        go_ret3
        exact ⟨ret_val (by rw [HX.out]; exact ttup_bad 4 (by decide)), Below.refl _ _⟩
      · have HX := Lib.hid (cut_ok s k m hk8 (by omega))
        have t1 : (k : Int) ≤ (s.size : Int) - (m : Int) := by omega
        have t2 : ((m : Int) + (k : Int)).toNat = m + k := by omega
        have hxs : (s.extract m (m + k)).size ≤ 1000000 := by simp; omega
        have hJ := fun W => Nu.joined_one (s.extract m (m + k)) W hxs
        have HJ := Lib.hid hJ
        clear hJ hxs
        go_enter Tryd.func83, Tryd.ntmps83
        go_wp2_with fail
        refine (HK.out _).mono ?_
        rintro e w1 ⟨rfl, rfl⟩
        go_wp2_with fail
        refine (HJ.out _).mono ?_
        rintro e w2 ⟨rfl, hb2⟩
        go_wp2
        go_ret3
        exact ⟨ret_val (by rw [HX.out]; rfl), hb2⟩
  · unfold errV at hK
    simp only [if_neg h3] at hK
    have HK := Lib.hid hK
    have HX := Lib.hid (cut_bad s r1 r2 r3 h3)
    clear hK hat
    go_enter Tryd.func83, Tryd.ntmps83
    go_wp2_with fail
    refine (HK.out _).mono ?_
    rintro e w1 ⟨rfl, rfl⟩
    go_wp2
    all_goals go_ret3
    all_goals exact ⟨ret_val (by rw [HX.out]; exact ttup_bad r3 h3), Below.refl _ _⟩

theorem getN_at (s : ByteArray) (a : Int) (h : (getN s a).2.2 = 0) : ∃ m : Nat, (getN s a).2.1 = (m : Int) ∧ m ≤ s.size := by
  unfold getN at h ⊢
  split at h
  · simp at h
  · rw [if_neg (by assumption)]; exact readN_at s a h

end Go.Proofs.YtiaoifodaoifjaaDoor.Ge

set_option linter.unusedSimpArgs false
set_option linter.unusedVariables false
namespace Go.Proofs.YtiaoifodaoifjaaDoor.Sb
open Go.Proofs.YtiaoifodaoifjaaDoor.Mk Go.Proofs.YtiaoifodaoifjaaDoor.Nu Go.Proofs.YtiaoifodaoifjaaDoor.Ge Go.Proofs.YtiaoifodaoifjaaDoor.Pn

/-- one Sib at place a -/
def sibAt (s : ByteArray) (a : Int) : Option (Sib × Int) :=
  if (readN s a).2.2 = 0 ∧ (readN s (readN s a).2.1).2.2 = 0 ∧ (readN s (readN s (readN s a).2.1).2.1).2.2 = 0 ∧
    ((readN s (readN s (readN s a).2.1).2.1).1 = 0 ∨ (readN s (readN s (readN s a).2.1).2.1).1 = 1) ∧ (cutT s (readN s (readN s (readN s (readN s a).2.1).2.1).2.1)).2.2 = 0 then
    some ((((readN s a).1, (readN s (readN s a).2.1).1), decide ((readN s (readN s (readN s a).2.1).2.1).1 = 1), (cutT s (readN s (readN s (readN s (readN s a).2.1).2.1).2.1)).1),
      (cutT s (readN s (readN s (readN s (readN s a).2.1).2.1).2.1)).2.1)
  else none
section
variable {s : ByteArray} {a x a1 y a2 z a3 : Int} {d : ByteArray} {a4 : Int}
theorem sibAt_yes (h1 : readN s a = (x, a1, 0)) (h2 : readN s a1 = (y, a2, 0)) (h3 : readN s a2 = (z, a3, 0)) (hz : z = 0 ∨ z = 1) (h4 : cutT s (readN s a3) = (d, a4, 0)) :
    sibAt s a = some (((x, y), decide (z = 1), d), a4) := by
  unfold sibAt; rw [h1]; simp only; rw [h2]; simp only; rw [h3]; simp only; rw [h4]; simp [hz]
theorem sibAt_1 (h1 : (readN s a).2.2 ≠ 0) : sibAt s a = none := if_neg fun c => h1 c.1
theorem sibAt_2 (h1 : readN s a = (x, a1, 0)) (h2 : (readN s a1).2.2 ≠ 0) : sibAt s a = none := if_neg fun c => by rw [h1] at c; exact h2 c.2.1
theorem sibAt_3 (h1 : readN s a = (x, a1, 0)) (h2 : readN s a1 = (y, a2, 0)) (h3 : (readN s a2).2.2 ≠ 0) : sibAt s a = none := if_neg fun c => by
  rw [h1] at c; simp only at c; rw [h2] at c; exact h3 c.2.2.1
theorem sibAt_z (h1 : readN s a = (x, a1, 0)) (h2 : readN s a1 = (y, a2, 0)) (h3 : readN s a2 = (z, a3, 0)) (hz : ¬ (z = 0 ∨ z = 1)) : sibAt s a = none := if_neg fun c => by
  rw [h1] at c; simp only at c; rw [h2] at c; simp only at c; rw [h3] at c; exact hz c.2.2.2.1
theorem sibAt_4 (h1 : readN s a = (x, a1, 0)) (h2 : readN s a1 = (y, a2, 0)) (h3 : readN s a2 = (z, a3, 0)) (h4 : (cutT s (readN s a3)).2.2 ≠ 0) : sibAt s a = none := if_neg fun c => by
  rw [h1] at c; simp only at c; rw [h2] at c; simp only at c; rw [h3] at c; exact h4 c.2.2.2.2
end
/-- a number that was read, or not -/
theorem readN_cases (s : ByteArray) (a : Int) : (readN s a).2.2 ≠ 0 ∨ ∃ x b, readN s a = (x, b, 0) := by
  by_cases h : (readN s a).2.2 = 0
  · exact .inr ⟨_, _, by rw [← h]⟩
  · exact .inl h
theorem cutT_cases (s : ByteArray) (R : Int × Int × Int) : (cutT s R).2.2 ≠ 0 ∨ ∃ x b, cutT s R = (x, b, 0) := by
  by_cases h : (cutT s R).2.2 = 0
  · exact .inr ⟨_, _, by rw [← h]⟩
  · exact .inl h
theorem sibAt_inv {s : ByteArray} {a : Int} {X : Sib} {e : Int} (h : sibAt s a = some (X, e)) :
    ∃ x a1 y a2 z a3 d, readN s a = (x, a1, 0) ∧ readN s a1 = (y, a2, 0) ∧ readN s a2 = (z, a3, 0) ∧ (z = 0 ∨ z = 1) ∧ cutT s (readN s a3) = (d, e, 0) ∧ X = ((x, y), decide (z = 1), d) := by
  rcases readN_cases s a with h1 | ⟨x, a1, h1⟩
  · rw [sibAt_1 h1] at h; cases h
  rcases readN_cases s a1 with h2 | ⟨y, a2, h2⟩
  · rw [sibAt_2 h1 h2] at h; cases h
  rcases readN_cases s a2 with h3 | ⟨z, a3, h3⟩
  · rw [sibAt_3 h1 h2 h3] at h; cases h
  by_cases hz : z = 0 ∨ z = 1
  · rcases cutT_cases s (readN s a3) with h4 | ⟨d, a4, h4⟩
    · rw [sibAt_4 h1 h2 h3 h4] at h; cases h
    · rw [sibAt_yes h1 h2 h3 hz h4] at h
      simp only [Option.some.injEq, Prod.mk.injEq] at h
      obtain ⟨rfl, rfl⟩ := h
      exact ⟨x, a1, y, a2, z, a3, d, h1, h2, h3, hz, h4, rfl⟩
  · rw [sibAt_z h1 h2 h3 hz] at h; cases h
/-- k Sibs from place a on -/
def sibsAt (s : ByteArray) : Nat → Int → Option (List Sib × Int)
  | 0, a => some ([], a)
  | k + 1, a => (sibAt s a).bind fun p => (sibsAt s k p.2).map fun q => (p.1 :: q.1, q.2)
def addS (l : List Sib) (o : Option (List Sib × Int)) : Option (List Sib × Int) := o.map fun p => (l ++ p.1, p.2)
theorem addS_nil (o : Option (List Sib × Int)) : addS [] o = o := by cases o <;> rfl
theorem sibsAt_step {s : ByteArray} {k : Nat} {a b : Int} {x : Sib} (h : sibAt s a = some (x, b)) (l : List Sib) : addS l (sibsAt s (k + 1) a) = addS (l ++ [x]) (sibsAt s k b) := by
  show addS l ((sibAt s a).bind _) = _
  rw [h]
  simp only [Option.bind_some]
  cases sibsAt s k b <;> simp [addS]
theorem sibsAt_bad {s : ByteArray} {k : Nat} {a : Int} (h : sibAt s a = none) (l : List Sib) : addS l (sibsAt s (k + 1) a) = none := by
  show addS l ((sibAt s a).bind _) = _
  rw [h]; rfl
/-- the Sibs at place a, right or not -/
def parseS (s : ByteArray) (a : Int) : Option (List Sib × Int) :=
  if (readN s a).2.2 = 0 ∧ 0 ≤ (readN s a).1 ∧ (readN s a).1 ≤ 8 then sibsAt s (readN s a).1.toNat (readN s a).2.1 else none
theorem parseS_bad {s : ByteArray} {a : Int} (h : (readN s a).2.2 ≠ 0) : parseS s a = none := if_neg fun c => h c.1
theorem parseS_range {s : ByteArray} {a c a1 : Int} (h : readN s a = (c, a1, 0)) (hc : ¬ (0 ≤ c ∧ c ≤ 8)) : parseS s a = none := by unfold parseS; rw [h]; exact if_neg fun d => hc d.2
theorem parseS_go {s : ByteArray} {a a1 : Int} {n : Nat} (h : readN s a = ((n : Int), a1, 0)) (hn : n ≤ 8) : parseS s a = sibsAt s n a1 := by
  unfold parseS; rw [h]; simp only; rw [if_pos ⟨trivial, by omega, by omega⟩]; simp
/-- a right Set at place a -/
def setAt (s : ByteArray) (a : Int) : Option ((List (Int × Int) × List Sib) × Int) :=
  (seenAt s a).bind fun p => ((parseS s p.2).filter fun q => setB p.1 q.1).map fun q => ((p.1, q.1), q.2)
section
variable {s : ByteArray} {a : Int} {l : List (Int × Int)} {b : Int} {ss : List Sib} {e : Int}
theorem setAt_none (h : seenAt s a = none) : setAt s a = none := by unfold setAt; rw [h]; rfl
theorem setAt_sibs (h : seenAt s a = some (l, b)) (h2 : parseS s b = none) : setAt s a = none := by unfold setAt; rw [h]; simp [h2]
theorem setAt_wrong (h : seenAt s a = some (l, b)) (h2 : parseS s b = some (ss, e)) (h3 : setB l ss = false) : setAt s a = none := by unfold setAt; rw [h]; simp [h2, Option.filter, h3]
theorem setAt_yes (h : seenAt s a = some (l, b)) (h2 : parseS s b = some (ss, e)) (h3 : setB l ss = true) : setAt s a = some ((l, ss), e) := by unfold setAt; rw [h]; simp [h2, Option.filter, h3]
theorem setAt_inv (h : setAt s a = some ((l, ss), e)) : ∃ b, seenAt s a = some (l, b) ∧ parseS s b = some (ss, e) ∧ setB l ss = true := by
  cases h1 : seenAt s a with
  | none => rw [setAt_none h1] at h; cases h
  | some p =>
    obtain ⟨l', b⟩ := p
    cases h2 : parseS s b with
    | none => rw [setAt_sibs h1 h2] at h; cases h
    | some q =>
      obtain ⟨s', e'⟩ := q
      cases h3 : setB l' s'
      · rw [setAt_wrong h1 h2 h3] at h; cases h
      · rw [setAt_yes h1 h2 h3] at h
        simp only [Option.some.injEq, Prod.mk.injEq] at h
        obtain ⟨⟨rfl, rfl⟩, rfl⟩ := h
        exact ⟨b, rfl, h2, h3⟩
end
/-- what SetRead returns: marks, Sibs, code -/
def srL (s : ByteArray) : List (Int × Int) := if 8000 < s.size then [] else match setAt s 0 with | some p => if p.2 = (s.size : Int) then p.1.1 else [] | none => []
def srS (s : ByteArray) : List Sib := if 8000 < s.size then [] else match setAt s 0 with | some p => if p.2 = (s.size : Int) then p.1.2 else [] | none => []
def srC (s : ByteArray) : Int := if 8000 < s.size then 2 else match setAt s 0 with | some p => if p.2 = (s.size : Int) then 0 else 3 | none => 3
section
variable {s : ByteArray} {l : List (Int × Int)} {ss : List Sib} {e : Int}
theorem sr_size (h : 8000 < s.size) : srL s = [] ∧ srS s = [] ∧ srC s = 2 := ⟨if_pos h, if_pos h, if_pos h⟩
theorem sr_none (h8 : ¬ 8000 < s.size) (h : setAt s 0 = none) : srL s = [] ∧ srS s = [] ∧ srC s = 3 := by
  unfold srL srS srC; rw [if_neg h8, if_neg h8, if_neg h8, h]; exact ⟨rfl, rfl, rfl⟩
theorem sr_more (h8 : ¬ 8000 < s.size) (h : setAt s 0 = some ((l, ss), e)) (he : e ≠ (s.size : Int)) : srL s = [] ∧ srS s = [] ∧ srC s = 3 := by
  unfold srL srS srC; rw [if_neg h8, if_neg h8, if_neg h8, h]; exact ⟨if_neg he, if_neg he, if_neg he⟩
theorem sr_yes (h8 : ¬ 8000 < s.size) (h : setAt s 0 = some ((l, ss), e)) (he : e = (s.size : Int)) : srL s = l ∧ srS s = ss ∧ srC s = 0 := by
  unfold srL srS srC; rw [if_neg h8, if_neg h8, if_neg h8, h]; exact ⟨if_pos he, if_pos he, if_pos he⟩
theorem sr_no (h8 : ¬ 8000 < s.size) (h : ∀ l ss, setAt s 0 ≠ some ((l, ss), (s.size : Int))) : srL s = [] ∧ srS s = [] ∧ srC s = 3 := by
  cases h1 : setAt s 0 with
  | none => exact sr_none h8 h1
  | some p =>
    obtain ⟨⟨l, ss⟩, e⟩ := p
    exact sr_more h8 h1 (fun he => h l ss (by rw [h1, he]))
theorem sr_len : (srL s).length ≤ 5 ∧ (srS s).length ≤ 8 := by
  by_cases h8 : 8000 < s.size
  · obtain ⟨h1, h2, _⟩ := sr_size h8; rw [h1, h2]; simp
  cases h : setAt s 0 with
  | none => obtain ⟨h1, h2, _⟩ := sr_none h8 h; rw [h1, h2]; simp
  | some p =>
    obtain ⟨⟨l, ss⟩, e⟩ := p
    by_cases he : e = (s.size : Int)
    · obtain ⟨h1, h2, _⟩ := sr_yes h8 h he
      obtain ⟨_, _, _, h3⟩ := setAt_inv h
      rw [h1, h2]
      exact ⟨right_len (setOk_of h3).1, (setOk_of h3).2.1⟩
    · obtain ⟨h1, h2, _⟩ := sr_more h8 h he; rw [h1, h2]; simp
end
-- the bytes of a Sib
theorem goneI_range (g : Bool) : goneI g = 0 ∨ goneI g = 1 := by cases g <;> simp [goneI]
theorem goneI_dec (g : Bool) : decide (goneI g = 1) = g := by cases g <;> simp [goneI]
theorem goneI_of {z : Int} (h : z = 0 ∨ z = 1) : goneI (decide (z = 1)) = z := by rcases h with rfl | rfl <;> simp [goneI]
theorem sibB_short {x : Sib} (h : x.2.2.size ≤ 8000) : sibB x = markB x.1 ++ (enc (fold (goneI x.2.1)) ++ (enc (fold x.2.2.size) ++ x.2.2.data.toList)) := by
  unfold sibB sibS
  rw [putText_short _ (by omega), ByteArray.data_append, ByteArray.data_append, ByteArray.data_append, Array.toList_append, Array.toList_append, Array.toList_append, markS_data]
  simp [numS]
theorem extract_at {s : ByteArray} {k : Nat} {l : List UInt8} (h : Pn.At s k l) : s.extract k (k + l.length) = ⟨l.toArray⟩ := by
  apply ByteArray.ext
  apply Array.ext
  · rw [ByteArray.data_extract, Array.size_extract]
    have := h.1
    have e : s.data.size = s.size := rfl
    simp; omega
  · intro i h1 h2
    have h3 : i < l.length := by simpa using h2
    have h4 := h.2 i h3
    have h5 : k + i < s.size := by have := h.1; omega
    rw [byteN_eq s _ h5] at h4
    have h6 : s[k + i] = l[i] := UInt8.toNat_inj.1 h4
    simp only [ByteArray.data_extract, Array.getElem_extract]
    simp only [List.getElem_toArray]
    exact h6
theorem at_extract {s : ByteArray} {k n : Nat} (h : k + n ≤ s.size) : Pn.At s k (s.extract k (k + n)).data.toList := by
  have hl : (s.extract k (k + n)).data.toList.length = n := by
    rw [ByteArray.data_extract, Array.length_toList, Array.size_extract]
    have e : s.data.size = s.size := rfl
    omega
  refine ⟨by rw [hl]; exact h, fun j hj => ?_⟩
  rw [hl] at hj
  rw [byteN_eq s _ (by omega)]
  congr 1
  simp only [ByteArray.data_extract, Array.getElem_toList, Array.getElem_extract]
  rfl
theorem cut_at {s : ByteArray} {a : Nat} {d : ByteArray} (h : Pn.At s a (enc (fold d.size) ++ d.data.toList)) (hd : d.size ≤ 8000) :
    cutT s (readN s (a : Int)) = (d, ((a + (enc (fold d.size) ++ d.data.toList).length : Nat) : Int), 0) := by
  obtain ⟨h1, h2⟩ := At.left h
  rw [readN_fwd h1 (by omega)]
  have hl : d.data.toList.length = d.size := by rw [Array.length_toList]; rfl
  have h3 := h2.1
  rw [hl] at h3
  rw [cut_ok s d.size _ hd h3]
  have e := extract_at h2
  rw [hl] at e
  rw [e, List.length_append, hl]
  refine Prod.ext ?_ (Prod.ext ?_ rfl)
  · rfl
  · simp only; omega
/-- a Sib that stands there is read -/
theorem sibAt_fwd {s : ByteArray} {a : Nat} {x : Sib} (hd : dotB x.1 = true) (hz : x.2.2.size ≤ 8000) (h : Pn.At s a (sibB x)) : sibAt s (a : Int) = some (x, ((a + (sibB x).length : Nat) : Int)) := by
  have hm := (dotB_iff x.1).1 hd
  rw [sibB_short hz] at h ⊢
  obtain ⟨⟨x1, x2⟩, g, d⟩ := x
  simp only at h hz hm ⊢
  obtain ⟨h1, h2⟩ := At.left h
  obtain ⟨h3, h4⟩ := At.left (show Pn.At s a (enc (fold x1) ++ enc (fold x2)) from h1)
  obtain ⟨h5, h6⟩ := At.left h2
  have r1 := readN_fwd h3 (by omega)
  have r2 := readN_fwd h4 (by omega)
  have e : a + (markB (x1, x2)).length = a + (enc (fold x1)).length + (enc (fold x2)).length := by rw [markB_len]; omega
  rw [e] at h5 h6
  have hgr := goneI_range g
  have r3 := readN_fwd h5 (by rcases hgr with h | h <;> rw [h] <;> omega)
  have r4 := cut_at h6 hz
  rw [sibAt_yes r1 r2 r3 hgr r4, goneI_dec]
  simp only [Option.some.injEq, Prod.mk.injEq, true_and]
  simp only [List.length_append, markB_len]
  congr 1; omega
/-- what was read stands there -/
theorem sibAt_at {s : ByteArray} {a : Nat} {x : Sib} {e : Int} (ha : a ≤ s.size) (h : sibAt s (a : Int) = some (x, e)) : Pn.At s a (sibB x) ∧ e = ((a + (sibB x).length : Nat) : Int) := by
  obtain ⟨x1, a1, x2, a2, z, a3, d, h1, h2, h3, hz, h4, rfl⟩ := sibAt_inv h
  obtain ⟨i1, rfl, _⟩ := readN_inv h1
  obtain ⟨i2, rfl, _⟩ := readN_inv h2
  obtain ⟨i3, rfl, _⟩ := readN_inv h3
  rcases readN_cases s ((a + (enc (fold x1)).length + (enc (fold x2)).length + (enc (fold z)).length : Nat) : Int) with h5 | ⟨n, a4, h5⟩
  · exact absurd (show (cutT s _).2.2 = 0 by rw [h4]) (by
      obtain ⟨c, hc, hr⟩ := readN_bad s _ h5
      rw [hr, cut_bad s 0 0 c hc]; exact hc)
  obtain ⟨i4, rfl, _⟩ := readN_inv h5
  rw [h5] at h4
  by_cases hn : n < 0 ∨ 8000 < n
  · rw [cut_range s n _ hn] at h4; cases h4
  obtain ⟨k, rfl⟩ : ∃ k : Nat, n = (k : Int) := ⟨n.toNat, by omega⟩
  by_cases hk : a + (enc (fold x1)).length + (enc (fold x2)).length + (enc (fold z)).length + (enc (fold (k : Int))).length + k ≤ s.size
  rotate_left
  · rw [cut_short s k _ (by omega) (by omega)] at h4; cases h4
  rw [cut_ok s k _ (by omega) hk] at h4
  simp only [Prod.mk.injEq] at h4
  obtain ⟨rfl, rfl, _⟩ := h4
  have hx := at_extract hk
  have hsz : (s.extract (a + (enc (fold x1)).length + (enc (fold x2)).length + (enc (fold z)).length + (enc (fold (k : Int))).length) (a + (enc (fold x1)).length + (enc (fold x2)).length + (enc (fold z)).length + (enc (fold (k : Int))).length + k)).size = k := by
    rw [ByteArray.size_extract]; omega
  have hle : (s.extract (a + (enc (fold x1)).length + (enc (fold x2)).length + (enc (fold z)).length + (enc (fold (k : Int))).length) (a + (enc (fold x1)).length + (enc (fold x2)).length + (enc (fold z)).length + (enc (fold (k : Int))).length + k)).data.toList.length = k := by
    rw [Array.length_toList]; exact hsz
  generalize s.extract (a + (enc (fold x1)).length + (enc (fold x2)).length + (enc (fold z)).length + (enc (fold (k : Int))).length) (a + (enc (fold x1)).length + (enc (fold x2)).length + (enc (fold z)).length + (enc (fold (k : Int))).length + k) = D at hx hsz hle ⊢
  rw [sibB_short (x := ((x1, x2), decide (z = 1), D)) (by simp only; omega)]
  simp only
  rw [goneI_of hz, hsz]
  refine ⟨At.append (At.append i1 i2) ?_, ?_⟩
  · rw [markB_len, ← Nat.add_assoc]
    exact At.append i3 (At.append i4 hx)
  · simp only [List.length_append, markB_len, hle]
    omega
theorem sibsAt_fwd (s : ByteArray) : ∀ (l : List Sib) (a : Nat), (∀ x ∈ l, dotB x.1 = true ∧ x.2.2.size ≤ 16) → Pn.At s a (l.flatMap sibB) → sibsAt s l.length (a : Int) = some (l, ((a + (l.flatMap sibB).length : Nat) : Int))
  | [], a, _, _ => by simp [sibsAt]
  | x :: r, a, h, hat => by
    obtain ⟨hd, hz⟩ := h x (by simp)
    rw [List.flatMap_cons] at hat
    obtain ⟨h1, h2⟩ := At.left hat
    have ih := sibsAt_fwd s r _ (fun y hy => h y (by simp [hy])) h2
    show (sibAt s a).bind _ = _
    rw [sibAt_fwd hd (by omega) h1]
    simp only [Option.bind_some]
    rw [show sibsAt s r.length _ = _ from ih]
    simp only [Option.map_some, Option.some.injEq, Prod.mk.injEq, true_and]
    rw [List.flatMap_cons, List.length_append, ← Nat.add_assoc]
theorem sibsAt_at (s : ByteArray) : ∀ (k a : Nat) (l : List Sib) (e : Int), a ≤ s.size → sibsAt s k (a : Int) = some (l, e) →
    Pn.At s a (l.flatMap sibB) ∧ e = ((a + (l.flatMap sibB).length : Nat) : Int) ∧ l.length = k
  | 0, a, l, e, ha, h => by
    unfold sibsAt at h
    simp only [Option.some.injEq, Prod.mk.injEq] at h
    obtain ⟨rfl, rfl⟩ := h
    exact ⟨⟨by simpa using ha, fun j hj => by simp at hj⟩, by simp, rfl⟩
  | k + 1, a, l, e, ha, h => by
    have h' : (sibAt s a).bind (fun p => (sibsAt s k p.2).map fun q => (p.1 :: q.1, q.2)) = some (l, e) := h
    cases h1 : sibAt s a with
    | none => rw [h1] at h'; cases h'
    | some p =>
      obtain ⟨x, b⟩ := p
      rw [h1] at h'
      simp only [Option.bind_some] at h'
      obtain ⟨i1, rfl⟩ := sibAt_at ha h1
      obtain ⟨q, hq, he⟩ := Option.map_eq_some_iff.1 h'
      simp only [Prod.mk.injEq] at he
      obtain ⟨rfl, rfl⟩ := he
      obtain ⟨k1, k2, k3⟩ := sibsAt_at s k _ q.1 q.2 i1.1 hq
      refine ⟨?_, ?_, by simp [k3]⟩
      · rw [List.flatMap_cons]; exact At.append i1 k1
      · rw [k2, List.flatMap_cons, List.length_append]; congr 1; omega
theorem parse_fwd {s : ByteArray} {a : Nat} {l : List (Int × Int)} (h : rightB l = true) (hat : Pn.At s a (seenB l)) : seenAt s (a : Int) = some (l, ((a + (seenB l).length : Nat) : Int)) := by
  have h5 := right_len h
  obtain ⟨h3, h4⟩ := At.left (show Pn.At s a (enc (fold l.length) ++ l.flatMap markB) from hat)
  have r1 := readN_fwd h3 (by omega)
  have r2 := readMarks_fwd _ l _ (right_dot h) h4
  have hp : parse s (a : Int) = some (l, ((a + (enc (fold l.length)).length + (l.flatMap markB).length : Nat) : Int)) := by
    unfold parse
    rw [r1]
    simp only
    rw [if_pos ⟨trivial, by omega, by omega⟩, Int.toNat_natCast]; exact r2
  rw [seenAt_some hp h]
  unfold seenB
  rw [List.length_append, ← Nat.add_assoc]
/-- a Set that stands there is read -/
theorem setAt_fwd {s : ByteArray} {a : Nat} {l : List (Int × Int)} {ss : List Sib} (h : setB l ss = true) (hat : Pn.At s a (setBB l ss)) : setAt s (a : Int) = some ((l, ss), ((a + (setBB l ss).length : Nat) : Int)) := by
  obtain ⟨h1, h2, h3, _⟩ := setOk_of h
  obtain ⟨i1, i2⟩ := At.left hat
  obtain ⟨i3, i4⟩ := At.left i2
  have r1 := parse_fwd h1 i1
  have r2 := readN_fwd i3 (by omega)
  have r3 := sibsAt_fwd s ss _ (fun x hx => ok_dot (h3 x hx)) i4
  refine (setAt_yes r1 ((parseS_go r2 h2).trans r3) h).trans ?_
  simp only [Option.some.injEq, Prod.mk.injEq, true_and]
  unfold setBB
  simp only [List.length_append]
  congr 1; omega
/-- what was read stands there -/
theorem setAt_at {s : ByteArray} {a : Nat} {l : List (Int × Int)} {ss : List Sib} {e : Int} (h : setAt s (a : Int) = some ((l, ss), e)) : Pn.At s a (setBB l ss) ∧ e = ((a + (setBB l ss).length : Nat) : Int) := by
  obtain ⟨b, h1, h2, h3⟩ := setAt_inv h
  unfold seenAt at h1
  obtain ⟨hp, _⟩ := Option.filter_eq_some_iff.1 h1
  obtain ⟨i1, rfl⟩ := parse_at hp
  rcases readN_cases s ((a + (seenB l).length : Nat) : Int) with h4 | ⟨c, b1, h4⟩
  · rw [parseS_bad h4] at h2; cases h2
  by_cases hc : 0 ≤ c ∧ c ≤ 8
  rotate_left
  · rw [parseS_range h4 hc] at h2; cases h2
  obtain ⟨n, rfl⟩ : ∃ n : Nat, c = n := ⟨c.toNat, by omega⟩
  rw [parseS_go h4 (by omega)] at h2
  obtain ⟨i2, rfl, _⟩ := readN_inv h4
  obtain ⟨i3, i4, i5⟩ := sibsAt_at s n _ ss e i2.1 h2
  subst i5
  refine ⟨At.append i1 (At.append i2 i3), ?_⟩
  rw [i4]
  unfold setBB
  simp only [List.length_append]
  congr 1; omega
theorem setAt_bytes {s : ByteArray} {l : List (Int × Int)} {ss : List Sib} (h : setAt s 0 = some ((l, ss), (s.size : Int))) : setBytes l ss = s := by
  obtain ⟨h1, h2⟩ := setAt_at (a := 0) h
  obtain ⟨_, _, _, h3⟩ := setAt_inv h
  rw [setBytes_yes h3, At.whole h1 (by omega)]
theorem setBytes_at {s : ByteArray} {l : List (Int × Int)} {ss : List Sib} (h : setBytes l ss = s) (h0 : s.size ≠ 0) : setAt s 0 = some ((l, ss), (s.size : Int)) := by
  cases hb : setB l ss
  · rw [setBytes_no hb] at h; subst h; exact absurd rfl h0
  · rw [setBytes_yes hb] at h
    have hs : s.size = (setBB l ss).length := by rw [← h]; simp [ByteArray.size]
    have := setAt_fwd (a := 0) hb (show Pn.At s 0 (setBB l ss) by rw [← h]; exact at_self _)
    rw [Nat.zero_add, ← hs] at this
    exact this
/-- the model's reader: a state is a place and whether something was wrong -/
def numR (s : ByteArray) (st : Int × Bool) : Int × (Int × Bool) := if st.2 = true then (0, st) else if (readN s st.1).2.2 = 0 then ((readN s st.1).1, ((readN s st.1).2.1, false)) else (0, (st.1, true))
def textR (s : ByteArray) (st : Int × Bool) : ByteArray × (Int × Bool) := if st.2 = true then (⟨#[]⟩, st) else if (cutT s (readN s st.1)).2.2 = 0 then ((cutT s (readN s st.1)).1, ((cutT s (readN s st.1)).2.1, false)) else (⟨#[]⟩, (st.1, true))
def sibR (s : ByteArray) (st : Int × Bool) : Sib × (Int × Bool) :=
  ((((numR s st).1, (numR s (numR s st).2).1), decide ((numR s (numR s (numR s st).2).2).1 = 1), (textR s (numR s (numR s (numR s st).2).2).2).1), (textR s (numR s (numR s (numR s st).2).2).2).2)
def sibsR (s : ByteArray) : Nat → (Int × Bool) → List Sib × (Int × Bool)
  | 0, st => ([], st)
  | n + 1, st => if st.2 = true then ([], st) else ((sibR s st).1 :: (sibsR s n (sibR s st).2).1, (sibsR s n (sibR s st).2).2)
theorem sibsR_bad (s : ByteArray) (n : Nat) (st : Int × Bool) (h : st.2 = true) : sibsR s n st = ([], st) := by
  cases n
  · rfl
  · exact if_pos h
theorem sibsR_step (s : ByteArray) (n : Nat) (st : Int × Bool) (h : st.2 = false) : sibsR s (n + 1) st = ((sibR s st).1 :: (sibsR s n (sibR s st).2).1, (sibsR s n (sibR s st).2).2) := if_neg (by rw [h]; decide)
theorem numR_ok {s : ByteArray} {a x b : Int} (h : readN s a = (x, b, 0)) : numR s (a, false) = (x, (b, false)) := by unfold numR; simp [h]
theorem textR_ok {s : ByteArray} {a b : Int} {d : ByteArray} (h : cutT s (readN s a) = (d, b, 0)) : textR s (a, false) = (d, (b, false)) := by unfold textR; simp [h]
theorem sibR_ok {s : ByteArray} {a e : Int} {x : Sib} (h : sibAt s a = some (x, e)) : sibR s (a, false) = (x, (e, false)) := by
  obtain ⟨x1, a1, x2, a2, z, a3, d, h1, h2, h3, hz, h4, rfl⟩ := sibAt_inv h
  unfold sibR
  rw [numR_ok h1]
  simp only
  rw [numR_ok h2]
  simp only
  rw [numR_ok h3]
  simp only
  rw [textR_ok h4]
theorem sibsR_ok (s : ByteArray) : ∀ (k : Nat) (a : Int) (l : List Sib) (e : Int), sibsAt s k a = some (l, e) → sibsR s k (a, false) = (l, (e, false))
  | 0, a, l, e, h => by
    unfold sibsAt at h
    simp only [Option.some.injEq, Prod.mk.injEq] at h
    obtain ⟨rfl, rfl⟩ := h
    rfl
  | k + 1, a, l, e, h => by
    have h' : (sibAt s a).bind (fun p => (sibsAt s k p.2).map fun q => (p.1 :: q.1, q.2)) = some (l, e) := h
    cases h1 : sibAt s a with
    | none => rw [h1] at h'; cases h'
    | some p =>
      obtain ⟨x, b⟩ := p
      rw [h1] at h'
      simp only [Option.bind_some] at h'
      obtain ⟨q, hq, he⟩ := Option.map_eq_some_iff.1 h'
      simp only [Prod.mk.injEq] at he
      obtain ⟨rfl, rfl⟩ := he
      rw [sibsR_step _ _ _ rfl, sibR_ok h1]
      simp only
      rw [sibsR_ok s k b q.1 q.2 hq]
/-- the model's end: what was read is the text just if it is a right Set up to the end -/
theorem spec_none {s : ByteArray} (h8 : ¬ 8000 < s.size) (h : parse s 0 = none) : srL s = [] ∧ srS s = [] ∧ srC s = 3 := sr_none h8 (setAt_none (seenAt_none h))
theorem count_none {s : ByteArray} {l : List (Int × Int)} {b : Int} (h : parse s 0 = some (l, b)) (h2 : ∀ n : Nat, ∀ b1, readN s b = ((n : Int), b1, 0) → ¬ n ≤ 8) : setAt s 0 = none := by
  cases hr : rightB l
  · exact setAt_none (seenAt_wrong h hr)
  refine setAt_sibs (seenAt_some h hr) ?_
  rcases readN_cases s b with h4 | ⟨c, b1, h4⟩
  · exact parseS_bad h4
  by_cases hc : 0 ≤ c ∧ c ≤ 8
  · obtain ⟨n, rfl⟩ : ∃ n : Nat, c = n := ⟨c.toNat, by omega⟩
    exact absurd (show n ≤ 8 by omega) (h2 n b1 h4)
  · exact parseS_range h4 hc
theorem spec_iff {s : ByteArray} {l : List (Int × Int)} {b b1 e : Int} {n : Nat} {ss : List Sib} {bad : Bool} (h : parse s 0 = some (l, b)) (h2 : readN s b = ((n : Int), b1, 0)) (hn : n ≤ 8) (h3 : sibsR s n (b1, false) = (ss, (e, bad))) :
    (∀ l' ss', setAt s 0 = some ((l', ss'), (s.size : Int)) → bad = false ∧ l = l' ∧ ss = ss' ∧ setBytes l ss = s) := by
  intro l' ss' h4
  have hb := setAt_bytes h4
  obtain ⟨b', h5, h6, _⟩ := setAt_inv h4
  unfold seenAt at h5
  obtain ⟨hp, _⟩ := Option.filter_eq_some_iff.1 h5
  rw [h] at hp
  simp only [Option.some.injEq, Prod.mk.injEq] at hp
  obtain ⟨rfl, rfl⟩ := hp
  rw [parseS_go h2 hn] at h6
  rw [sibsR_ok s n b1 _ _ h6] at h3
  simp only [Prod.mk.injEq] at h3
  obtain ⟨rfl, rfl, rfl⟩ := h3
  exact ⟨rfl, rfl, rfl, hb⟩
end Go.Proofs.YtiaoifodaoifjaaDoor.Sb

set_option linter.unusedSimpArgs false
set_option linter.unusedVariables false
namespace Go.Proofs.YtiaoifodaoifjaaDoor.Sb
open Go.RowKit Go.Proofs.YtiaoifodaoifjaaDoor.Mk Go.Proofs.YtiaoifodaoifjaaDoor.Nu Go.Proofs.YtiaoifodaoifjaaDoor.Ge Go.Proofs.YtiaoifodaoifjaaDoor.Pn Go.Proofs.YtiaoifodaoifjaaDoor.Se

/-- what Unseal answers, taken apart -/
def unC (s : ByteArray) : Int :=
  if 8000 < s.size then 2 else if s.size < 4 then 4 else if s.extract (s.size - 4) s.size = four (crcN (s.extract 0 (s.size - 4))) then 0 else 5
def unT (s : ByteArray) : ByteArray := if unC s = 0 then s.extract 0 (s.size - 4) else ⟨#[]⟩
theorem un_is (s : ByteArray) : unsealed s = out (unT s) 0 (unC s) := by
  unfold unsealed unT unC
  split
  · simp
  · split
    · simp
    · split <;> simp
theorem unC_ok {s : ByteArray} (h : unC s = 0) : ¬ 8000 < s.size ∧ ¬ s.size < 4 ∧ s.extract (s.size - 4) s.size = four (crcN (s.extract 0 (s.size - 4))) ∧ unT s = s.extract 0 (s.size - 4) := by
  have ht : unT s = s.extract 0 (s.size - 4) := if_pos h
  unfold unC at h
  split at h
  · cases h
  · rename_i h1
    split at h
    · cases h
    · rename_i h2
      split at h
      · rename_i h3; exact ⟨h1, h2, h3, ht⟩
      · cases h
theorem unT_size (s : ByteArray) : (unT s).size ≤ 8000 := by
  unfold unT
  split
  · rename_i h
    have := (unC_ok h).1
    rw [ByteArray.size_extract]; omega
  · exact Nat.zero_le _
theorem ext_join (s : ByteArray) (k : Nat) (h : k ≤ s.size) : s.extract 0 k ++ s.extract k s.size = s := by
  apply ext_list
  rw [ByteArray.data_append, ByteArray.data_extract, ByteArray.data_extract]
  have hk : k ≤ s.data.toList.length := by rw [Array.length_toList]; exact h
  simp
  exact List.take_of_length_le (by rw [Array.length_toList]; show s.size ≤ _; omega)
/-- what was sealed -/
theorem un_text {s : ByteArray} (h : unC s = 0) : s = unT s ++ four (crcN (unT s)) ∧ ¬ 7996 < (unT s).size := by
  obtain ⟨h1, h2, h3, h4⟩ := unC_ok h
  refine ⟨?_, ?_⟩
  · rw [h4, ← h3]; exact (ext_join s _ (by omega)).symm
  · rw [h4, ByteArray.size_extract]; omega
theorem un_sealed {s : ByteArray} (h : unC s = 0) : sealed (unT s) = s := by
  obtain ⟨h1, h2⟩ := un_text h
  rw [sealed_short _ h2]; exact h1.symm
structure MsgD where
  kd : Int
  fr : Int
  tq : Int
  rq : Int
  ky : ByteArray
  ow : Int
  l : List (Int × Int)
  s : List Sib
def MsgD.ok (m : MsgD) : Bool := msgB m.kd m.fr m.tq m.rq m.ky m.ow m.l m.s
def MsgD.body (m : MsgD) : ByteArray := msgBody m.kd m.fr m.tq m.rq m.ky m.ow m.l m.s
def MsgD.bytes (m : MsgD) : ByteArray := msgBytes m.kd m.fr m.tq m.rq m.ky m.ow m.l m.s
def numA (t : ByteArray) (a : Int) : Option (Int × Int) := if (readN t a).2.2 = 0 then some ((readN t a).1, (readN t a).2.1) else none
def txtA (t : ByteArray) (a : Int) : Option (ByteArray × Int) := if (cutT t (readN t a)).2.2 = 0 then some ((cutT t (readN t a)).1, (cutT t (readN t a)).2.1) else none
def rdM (t : ByteArray) (a : Int) : Option (MsgD × Int) :=
  (numA t a).bind fun k => (numA t k.2).bind fun f => (numA t f.2).bind fun q => (numA t q.2).bind fun r => (txtA t r.2).bind fun y => (numA t y.2).bind fun o =>
    (setAt t o.2).map fun st => (⟨k.1, f.1, q.1, r.1, y.1, o.1, st.1.1, st.1.2⟩, st.2)
def mrM (t : ByteArray) : Option MsgD := (rdM t 0).bind fun p => if p.2 = (t.size : Int) ∧ p.1.ok = true then some p.1 else none
def mr (s : ByteArray) : Option MsgD := if unC s = 0 then mrM (unT s) else none
def mrK (s : ByteArray) : Int := match mr s with | some m => m.kd | none => 0
def mrF (s : ByteArray) : Int := match mr s with | some m => m.fr | none => 0
def mrT (s : ByteArray) : Int := match mr s with | some m => m.tq | none => 0
def mrQ (s : ByteArray) : Int := match mr s with | some m => m.rq | none => 0
def mrY (s : ByteArray) : ByteArray := match mr s with | some m => m.ky | none => ⟨#[]⟩
def mrO (s : ByteArray) : Int := match mr s with | some m => m.ow | none => 0
def mrL (s : ByteArray) : List (Int × Int) := match mr s with | some m => m.l | none => []
def mrS (s : ByteArray) : List Sib := match mr s with | some m => m.s | none => []
def mrC (s : ByteArray) : Int := if unC s = 0 then (match mr s with | some _ => 0 | none => 3) else unC s
theorem numA_yes {t : ByteArray} {a x b : Int} (h : readN t a = (x, b, 0)) : numA t a = some (x, b) := by unfold numA; rw [h]; simp
theorem numA_no {t : ByteArray} {a : Int} (h : (readN t a).2.2 ≠ 0) : numA t a = none := if_neg h
theorem numA_read {t : ByteArray} {a x b : Int} (h : numA t a = some (x, b)) : readN t a = (x, b, 0) := by
  unfold numA at h
  split at h
  · rename_i h0
    simp only [Option.some.injEq, Prod.mk.injEq] at h
    rw [← h.1, ← h.2, ← h0]
  · cases h
theorem txtA_yes {t : ByteArray} {a b : Int} {x : ByteArray} (h : cutT t (readN t a) = (x, b, 0)) : txtA t a = some (x, b) := by unfold txtA; rw [h]; simp
theorem txtA_no {t : ByteArray} {a : Int} (h : (cutT t (readN t a)).2.2 ≠ 0) : txtA t a = none := if_neg h
theorem txtA_read {t : ByteArray} {a b : Int} {x : ByteArray} (h : txtA t a = some (x, b)) : cutT t (readN t a) = (x, b, 0) := by
  unfold txtA at h
  split at h
  · rename_i h0
    simp only [Option.some.injEq, Prod.mk.injEq] at h
    rw [← h.1, ← h.2, ← h0]
  · cases h
theorem cut_inv {s : ByteArray} {a : Nat} {d : ByteArray} {e : Int} (h : cutT s (readN s (a : Int)) = (d, e, 0)) :
    Pn.At s a (enc (fold d.size) ++ d.data.toList) ∧ e = ((a + (enc (fold d.size) ++ d.data.toList).length : Nat) : Int) ∧ d.size ≤ 8000 := by
  rcases readN_cases s (a : Int) with h5 | ⟨n, a4, h5⟩
  · exact absurd (show (cutT s _).2.2 = 0 by rw [h]) (by
      obtain ⟨c, hc, hr⟩ := readN_bad s _ h5
      rw [hr, cut_bad s 0 0 c hc]; exact hc)
  obtain ⟨i4, rfl, _⟩ := readN_inv h5
  rw [h5] at h
  by_cases hn : n < 0 ∨ 8000 < n
  · rw [cut_range s n _ hn] at h; cases h
  obtain ⟨k, rfl⟩ : ∃ k : Nat, n = (k : Int) := ⟨n.toNat, by omega⟩
  by_cases hk : a + (enc (fold (k : Int))).length + k ≤ s.size
  rotate_left
  · rw [cut_short s k _ (by omega) (by omega)] at h; cases h
  rw [cut_ok s k _ (by omega) hk] at h
  simp only [Prod.mk.injEq] at h
  obtain ⟨rfl, rfl, _⟩ := h
  have hx := at_extract hk
  have hsz : (s.extract (a + (enc (fold (k : Int))).length) (a + (enc (fold (k : Int))).length + k)).size = k := by
    rw [ByteArray.size_extract]; omega
  have hle : (s.extract (a + (enc (fold (k : Int))).length) (a + (enc (fold (k : Int))).length + k)).data.toList.length = k := by
    rw [Array.length_toList]; exact hsz
  generalize s.extract (a + (enc (fold (k : Int))).length) (a + (enc (fold (k : Int))).length + k) = D at hx hsz hle ⊢
  rw [hsz]
  refine ⟨At.append i4 hx, ?_, by omega⟩
  rw [List.length_append, hle]; omega
/-- the bytes of a message's body -/
def MsgD.bb (m : MsgD) : List UInt8 :=
  enc (fold m.kd) ++ (enc (fold m.fr) ++ (enc (fold m.tq) ++ (enc (fold m.rq) ++ ((enc (fold m.ky.size) ++ m.ky.data.toList) ++ (enc (fold m.ow) ++ setBB m.l m.s)))))
theorem body_is {m : MsgD} (hk : m.ky.size ≤ 8000) (hs : setB m.l m.s = true) : m.body = ⟨m.bb.toArray⟩ := by
  apply ext_list
  unfold MsgD.body msgBody MsgD.bb
  rw [putText_short _ (by omega), setBytes_yes hs]
  simp [ByteArray.data_append, numS, List.append_assoc]
theorem rdM_inv {t : ByteArray} {a : Int} {m : MsgD} {e : Int} (h : rdM t a = some (m, e)) :
    ∃ a1 a2 a3 a4 a5 a6, readN t a = (m.kd, a1, 0) ∧ readN t a1 = (m.fr, a2, 0) ∧ readN t a2 = (m.tq, a3, 0) ∧ readN t a3 = (m.rq, a4, 0) ∧ cutT t (readN t a4) = (m.ky, a5, 0) ∧ readN t a5 = (m.ow, a6, 0) ∧ setAt t a6 = some ((m.l, m.s), e) := by
  unfold rdM at h
  simp only [Option.bind_eq_some_iff, Option.map_eq_some_iff] at h
  obtain ⟨⟨x1, a1⟩, h1, ⟨x2, a2⟩, h2, ⟨x3, a3⟩, h3, ⟨x4, a4⟩, h4, ⟨x5, a5⟩, h5, ⟨x6, a6⟩, h6, ⟨⟨l, s⟩, b⟩, h7, h8⟩ := h
  simp only [Prod.mk.injEq] at h8
  obtain ⟨rfl, rfl⟩ := h8
  exact ⟨a1, a2, a3, a4, a5, a6, numA_read h1, numA_read h2, numA_read h3, numA_read h4, txtA_read h5, numA_read h6, h7⟩
theorem rdM_mk {t : ByteArray} {a a1 a2 a3 a4 a5 a6 e kd fr tq rq ow : Int} {ky : ByteArray} {l : List (Int × Int)} {s : List Sib} (h1 : readN t a = (kd, a1, 0)) (h2 : readN t a1 = (fr, a2, 0)) (h3 : readN t a2 = (tq, a3, 0)) (h4 : readN t a3 = (rq, a4, 0)) (h5 : cutT t (readN t a4) = (ky, a5, 0)) (h6 : readN t a5 = (ow, a6, 0)) (h7 : setAt t a6 = some ((l, s), e)) :
    rdM t a = some (⟨kd, fr, tq, rq, ky, ow, l, s⟩, e) := by
  unfold rdM
  simp only [numA_yes h1, numA_yes h2, numA_yes h3, numA_yes h4, txtA_yes h5, numA_yes h6, h7, Option.bind_some, Option.map_some]
theorem rdM_at {t : ByteArray} {m : MsgD} {e : Int} (h : rdM t 0 = some (m, e)) : Pn.At t 0 m.bb ∧ e = (m.bb.length : Int) ∧ m.ky.size ≤ 8000 ∧ setB m.l m.s = true := by
  obtain ⟨a1, a2, a3, a4, a5, a6, h1, h2, h3, h4, h5, h6, h7⟩ := rdM_inv h
  obtain ⟨i1, rfl, _⟩ := readN_inv (a := 0) h1
  obtain ⟨i2, rfl, _⟩ := readN_inv h2
  obtain ⟨i3, rfl, _⟩ := readN_inv h3
  obtain ⟨i4, rfl, _⟩ := readN_inv h4
  obtain ⟨i5, rfl, hk⟩ := cut_inv h5
  obtain ⟨i6, rfl, _⟩ := readN_inv h6
  obtain ⟨i7, rfl⟩ := setAt_at h7
  obtain ⟨_, _, _, hs⟩ := setAt_inv h7
  refine ⟨?_, ?_, hk, hs⟩
  · exact At.append i1 (At.append i2 (At.append i3 (At.append i4 (At.append i5 (At.append i6 i7)))))
  · unfold MsgD.bb
    simp only [List.length_append]
    congr 1; omega
theorem rdM_body {t : ByteArray} {m : MsgD} (h : rdM t 0 = some (m, (t.size : Int))) : m.body = t := by
  obtain ⟨h1, h2, h3, h4⟩ := rdM_at h
  rw [body_is h3 h4]
  exact (At.whole h1 (by omega)).symm
theorem rdM_fwd {m : MsgD} (h : m.ok = true) : rdM m.body 0 = some (m, (m.body.size : Int)) := by
  obtain ⟨k1, k2, k3, k4, k5, k6, k7, k8, k9, k10, kn, ks⟩ := msgB_ok h
  have hk := (name_size kn).2
  have hb := body_is (m := m) (by omega) ks
  have hat : Pn.At m.body 0 m.bb := by rw [hb]; exact at_self _
  have hz : m.body.size = m.bb.length := by rw [hb]; simp [ByteArray.size]
  generalize m.body = t at hat hz ⊢
  unfold MsgD.bb at hat
  obtain ⟨i1, hat⟩ := At.left hat
  obtain ⟨i2, hat⟩ := At.left hat
  obtain ⟨i3, hat⟩ := At.left hat
  obtain ⟨i4, hat⟩ := At.left hat
  obtain ⟨i5, hat⟩ := At.left hat
  obtain ⟨i6, i7⟩ := At.left hat
  have r := rdM_mk (readN_fwd i1 (by omega)) (readN_fwd i2 (by omega)) (readN_fwd i3 (by omega)) (readN_fwd i4 (by omega)) (cut_at i5 (by omega)) (readN_fwd i6 (by omega)) (setAt_fwd ks i7)
  rw [show ((0 : Nat) : Int) = 0 from rfl] at r
  rw [r, hz]
  congr 2
  unfold MsgD.bb
  simp only [List.length_append]
  congr 1; omega
theorem mr_some {s : ByteArray} {m : MsgD} (h : mr s = some m) : unC s = 0 ∧ rdM (unT s) 0 = some (m, ((unT s).size : Int)) ∧ m.ok = true := by
  unfold mr at h
  split at h
  · rename_i hu
    unfold mrM at h
    simp only [Option.bind_eq_some_iff] at h
    obtain ⟨⟨m', e⟩, h1, h2⟩ := h
    split at h2
    · rename_i hc
      simp only [Option.some.injEq] at h2
      subst h2
      obtain ⟨hc1, hc2⟩ := hc
      simp only at hc1 hc2
      rw [hc1] at h1
      exact ⟨hu, h1, hc2⟩
    · cases h2
  · cases h
theorem mr_yes {s : ByteArray} {m : MsgD} (hu : unC s = 0) (h : rdM (unT s) 0 = some (m, ((unT s).size : Int))) (hm : m.ok = true) : mr s = some m := by
  unfold mr
  rw [if_pos hu]
  unfold mrM
  rw [h]
  simp [hm]
theorem mr_no {s : ByteArray} (h : ∀ m, rdM (unT s) 0 = some (m, ((unT s).size : Int)) → m.ok = false) : mr s = none := by
  cases hm : mr s with
  | none => rfl
  | some m =>
    obtain ⟨_, h1, h2⟩ := mr_some hm
    rw [h m h1] at h2; cases h2
/-- what was read is what was written -/
theorem mr_bytes {s : ByteArray} {m : MsgD} (h : mr s = some m) : m.bytes = s := by
  obtain ⟨hu, h1, h2⟩ := mr_some h
  have : m.bytes = sealed m.body := if_pos h2
  rw [this, rdM_body h1]
  exact un_sealed hu
theorem bytes_mr {s : ByteArray} {m : MsgD} (hu : unC s = 0) (h : m.bytes = s) : mr s = some m := by
  obtain ⟨hz, h4, _, ht⟩ := unC_ok hu
  have hm : m.ok = true := by
    cases hc : m.ok
    · have : m.bytes = ⟨#[]⟩ := if_neg (by rw [show msgB m.kd m.fr m.tq m.rq m.ky m.ow m.l m.s = false from hc]; simp)
      rw [this] at h; subst h; exact absurd (show (ByteArray.mk #[]).size < 4 by decide) h4
    · rfl
  have hb : m.bytes = sealed m.body := if_pos hm
  by_cases hl : 7996 < m.body.size
  · rw [hb, sealed_long _ hl] at h; subst h; exact absurd (show (ByteArray.mk #[]).size < 4 by decide) h4
  rw [hb, sealed_short _ hl] at h
  have hs : s.size = m.body.size + 4 := by rw [← h, ByteArray.size_append]; rfl
  have e : unT s = m.body := by
    rw [ht, ← h]
    exact (front m.body (four (crcN m.body)) rfl).1
  refine mr_yes hu ?_ hm
  rw [e]; exact rdM_fwd hm
theorem mr_len (s : ByteArray) : (mrL s).length ≤ 5 ∧ (mrS s).length ≤ 8 := by
  unfold mrL mrS
  cases h : mr s with
  | none => simp
  | some m =>
    obtain ⟨_, _, h2⟩ := mr_some h
    have := setOk_of (msgB_ok h2).set
    exact ⟨right_len this.1, this.2.1⟩
/-- the end of what was read, as a text of its own -/
theorem set_tail {t : ByteArray} {a : Nat} {l : List (Int × Int)} {s : List Sib} (h : setAt t (a : Int) = some ((l, s), (t.size : Int))) (h8 : t.size ≤ 8000) :
    srL (t.extract a t.size) = l ∧ srS (t.extract a t.size) = s ∧ srC (t.extract a t.size) = 0 := by
  obtain ⟨i, e⟩ := setAt_at h
  obtain ⟨_, _, _, hs⟩ := setAt_inv h
  have hx := extract_at i
  rw [show a + (setBB l s).length = t.size by omega] at hx
  have hat : setAt (t.extract a t.size) ((0 : Nat) : Int) = some ((l, s), ((0 + (setBB l s).length : Nat) : Int)) := setAt_fwd hs (by rw [hx]; exact at_self _)
  have hz : (t.extract a t.size).size = (setBB l s).length := by rw [hx]; simp [ByteArray.size]
  rw [Nat.zero_add, ← hz] at hat
  exact sr_yes (by rw [ByteArray.size_extract]; omega) hat rfl
end Go.Proofs.YtiaoifodaoifjaaDoor.Sb

set_option linter.unusedSimpArgs false
set_option linter.unusedVariables false
namespace Go.Proofs.YtiaoifodaoifjaaDoor.Sb
open Go.RowKit Go.Proofs.YtiaoifodaoifjaaDoor.Mk Go.Proofs.YtiaoifodaoifjaaDoor.Nu Go.Proofs.YtiaoifodaoifjaaDoor.Ge Go.Proofs.YtiaoifodaoifjaaDoor.Pn Go.Proofs.YtiaoifodaoifjaaDoor.Se

/-- what is sealed in a context -/
def passA (t : ByteArray) : Option (ByteArray × List (Int × Int)) :=
  (txtA t 0).bind fun p => if Nm.nameB p.1 = true then (seenAt t p.2).bind fun q => if q.2 = (t.size : Int) then some (p.1, q.1) else none else none
theorem passA_inv {t : ByteArray} {p : ByteArray × List (Int × Int)} (h : passA t = some p) :
    ∃ a : Nat, txtA t 0 = some (p.1, (a : Int)) ∧ Nm.nameB p.1 = true ∧ seenAt t (a : Int) = some (p.2, (t.size : Int)) ∧ rightB p.2 = true ∧ Pn.At t 0 (passBB p.1 p.2) ∧ (passBB p.1 p.2).length = t.size ∧ p.1.size ≤ 8000 := by
  unfold passA at h
  simp only [Option.bind_eq_some_iff] at h
  obtain ⟨⟨y, a⟩, h1, h2⟩ := h
  split at h2
  · rename_i hn
    simp only [Option.bind_eq_some_iff] at h2
    obtain ⟨⟨l, e⟩, h3, h4⟩ := h2
    simp only at hn h3 h4
    split at h4
    · rename_i he
      simp only [Option.some.injEq] at h4
      subst h4
      have hc := txtA_read h1
      obtain ⟨i1, i2, i3⟩ := cut_inv (a := 0) hc
      rw [Nat.zero_add] at i2
      subst i2
      have hs := h3
      unfold seenAt at hs
      simp only [Option.filter_eq_some_iff] at hs
      obtain ⟨hp, hr⟩ := hs
      obtain ⟨j1, j2⟩ := parse_at hp
      rw [he] at h3
      refine ⟨_, h1, hn, h3, hr, At.append i1 (by rw [Nat.zero_add]; exact j1), ?_, i3⟩
      have hq : (passBB y l).length = (enc (fold y.size) ++ y.data.toList).length + (seenB l).length := List.length_append
      show (passBB y l).length = _
      omega
    · cases h4
  · cases h2
theorem passA_body {t : ByteArray} {p : ByteArray × List (Int × Int)} (h : passA t = some p) : passBody p.1 p.2 = t := by
  obtain ⟨a, _, hn, _, hr, hat, hl, h8⟩ := passA_inv h
  rw [passBody_is h8 hr]
  exact (At.whole hat hl).symm
theorem passA_ok {t : ByteArray} {p : ByteArray × List (Int × Int)} (h : passA t = some p) : passOk p.1 p.2 = true := by
  obtain ⟨a, _, hn, _, hr, _⟩ := passA_inv h
  unfold passOk
  rw [hn, hr]; rfl
theorem txtA_at {t y : ByteArray} {a : Nat} (h8 : y.size ≤ 8000) (h : Pn.At t a (enc (fold y.size) ++ y.data.toList)) : txtA t (a : Int) = some (y, ((a + (enc (fold y.size) ++ y.data.toList).length : Nat) : Int)) := by
  obtain ⟨h1, h2⟩ := At.left h
  have r1 := readN_fwd h1 (by omega)
  refine txtA_yes ?_
  rw [r1]
  have hz : y.data.toList.length = y.size := by rw [Array.length_toList]; rfl
  have hx := extract_at h2
  rw [hz] at hx
  rw [cut_ok t y.size _ h8 (by have := h2.1; omega), hx, List.length_append, hz]
  simp
  omega
theorem passA_fwd {y : ByteArray} {l : List (Int × Int)} (h : passOk y l = true) : passA (passBody y l) = some (y, l) := by
  obtain ⟨hn, hr⟩ := passOk_is h
  have h20 := (name_size hn).2
  have hb := passBody_is (by omega) hr (y := y)
  have hat : Pn.At (passBody y l) 0 (passBB y l) := by rw [hb]; exact at_self _
  have hz : (passBody y l).size = (passBB y l).length := by rw [hb]; simp [ByteArray.size]
  obtain ⟨h1, h2⟩ := At.left hat
  rw [Nat.zero_add] at h2
  have t1 := txtA_at (a := 0) (by omega) h1
  have t2 := parse_fwd hr h2
  unfold passA
  rw [show (0 : Int) = ((0 : Nat) : Int) from rfl, t1]
  simp only [Option.bind_some]
  rw [if_pos hn, Nat.zero_add, t2]
  simp only [Option.bind_some]
  have hq : (passBB y l).length = (enc (fold y.size) ++ y.data.toList).length + (seenB l).length := List.length_append
  rw [if_pos (by rw [hz, hq])]
theorem txtA_len {t y : ByteArray} {a e : Int} (ht : t.size ≤ 8000) (h : txtA t a = some (y, e)) : y.size ≤ 8000 := by
  have h2 := congrArg Prod.fst (txtA_read h)
  simp only at h2
  rw [← h2]
  unfold cutT
  split
  · exact Nat.zero_le _
  · split
    · exact Nat.zero_le _
    · split
      · exact Nat.zero_le _
      · simp only [ByteArray.size_extract]; omega
/-- what the model's reader does at a text's start -/
theorem text_at (t : ByteArray) (ht : t.size ≤ 8000) : ∃ (y : ByteArray) (n : Nat) (b : Bool), textR t (0, false) = (y, ((n : Int), b)) ∧ n ≤ t.size ∧ y.size ≤ 8000 ∧ (b = true → passA t = none) ∧ (b = false → txtA t 0 = some (y, (n : Int))) := by
  cases h : txtA t 0 with
  | none =>
    have hc : (cutT t (readN t 0)).2.2 ≠ 0 := fun hc => by
      unfold txtA at h
      rw [if_pos hc] at h
      cases h
    refine ⟨⟨#[]⟩, 0, true, ?_, Nat.zero_le _, Nat.zero_le _, fun _ => ?_, fun h => by cases h⟩
    · unfold textR; simp [hc]
    · unfold passA; rw [h]; rfl
  | some p =>
    obtain ⟨y, a⟩ := p
    have h2 := txtA_read h
    obtain ⟨i1, i2, i3⟩ := cut_inv (a := 0) h2
    refine ⟨y, _, false, ?_, i1.1, i3, fun h => (by cases h), fun _ => by rw [← i2]⟩
    rw [textR_ok h2, i2]
/-- PassRead's code and version vector -/
def prC (k s : ByteArray) : Int :=
  if 8000 < k.size ∨ 8000 < s.size then 2 else if Nm.nameB k = true then (if s.size = 0 then 0 else if unC s = 0 then (match passA (unT s) with | none => 3 | some p => if p.1 = k then 0 else 6) else unC s) else 1
def prL (k s : ByteArray) : List (Int × Int) :=
  if 8000 < k.size ∨ 8000 < s.size then [] else if Nm.nameB k = true then (if s.size = 0 then [] else if unC s = 0 then (match passA (unT s) with | none => [] | some p => if p.1 = k then p.2 else []) else []) else []
section
variable {k s : ByteArray}
theorem pr_size (h : 8000 < k.size ∨ 8000 < s.size) : prL k s = [] ∧ prC k s = 2 := ⟨if_pos h, if_pos h⟩
theorem pr_form (h : ¬ (8000 < k.size ∨ 8000 < s.size)) (h1 : Nm.nameB k = false) : prL k s = [] ∧ prC k s = 1 := by
  unfold prL prC; rw [if_neg h, if_neg h, if_neg (by rw [h1]; simp), if_neg (by rw [h1]; simp)]; exact ⟨rfl, rfl⟩
theorem pr_empty (h : ¬ (8000 < k.size ∨ 8000 < s.size)) (h1 : Nm.nameB k = true) (h2 : s.size = 0) : prL k s = [] ∧ prC k s = 0 := by
  unfold prL prC; rw [if_neg h, if_neg h, if_pos h1, if_pos h1, if_pos h2, if_pos h2]; exact ⟨rfl, rfl⟩
theorem pr_seal (h : ¬ (8000 < k.size ∨ 8000 < s.size)) (h1 : Nm.nameB k = true) (h2 : ¬ s.size = 0) (h3 : unC s ≠ 0) : prL k s = [] ∧ prC k s = unC s := by
  unfold prL prC; rw [if_neg h, if_neg h, if_pos h1, if_pos h1, if_neg h2, if_neg h2, if_neg h3, if_neg h3]; exact ⟨rfl, rfl⟩
theorem pr_none (h : ¬ (8000 < k.size ∨ 8000 < s.size)) (h1 : Nm.nameB k = true) (h2 : ¬ s.size = 0) (h3 : unC s = 0) (h4 : passA (unT s) = none) : prL k s = [] ∧ prC k s = 3 := by
  unfold prL prC; rw [if_neg h, if_neg h, if_pos h1, if_pos h1, if_neg h2, if_neg h2, if_pos h3, if_pos h3, h4]; exact ⟨rfl, rfl⟩
theorem pr_other {p : ByteArray × List (Int × Int)} (h : ¬ (8000 < k.size ∨ 8000 < s.size)) (h1 : Nm.nameB k = true) (h2 : ¬ s.size = 0) (h3 : unC s = 0) (h4 : passA (unT s) = some p) (h5 : ¬ p.1 = k) : prL k s = [] ∧ prC k s = 6 := by
  unfold prL prC; rw [if_neg h, if_neg h, if_pos h1, if_pos h1, if_neg h2, if_neg h2, if_pos h3, if_pos h3, h4]; exact ⟨if_neg h5, if_neg h5⟩
theorem pr_yes {p : ByteArray × List (Int × Int)} (h : ¬ (8000 < k.size ∨ 8000 < s.size)) (h1 : Nm.nameB k = true) (h2 : ¬ s.size = 0) (h3 : unC s = 0) (h4 : passA (unT s) = some p) (h5 : p.1 = k) : prL k s = p.2 ∧ prC k s = 0 := by
  unfold prL prC; rw [if_neg h, if_neg h, if_pos h1, if_pos h1, if_neg h2, if_neg h2, if_pos h3, if_pos h3, h4]; exact ⟨if_pos h5, if_pos h5⟩
end
theorem prL_len (k s : ByteArray) : (prL k s).length ≤ 5 := by
  by_cases h : 8000 < k.size ∨ 8000 < s.size
  · rw [(pr_size h).1]; simp
  cases h1 : Nm.nameB k
  · rw [(pr_form h h1).1]; simp
  by_cases h2 : s.size = 0
  · rw [(pr_empty h h1 h2).1]; simp
  by_cases h3 : unC s = 0
  rotate_left
  · rw [(pr_seal h h1 h2 h3).1]; simp
  cases h4 : passA (unT s) with
  | none => rw [(pr_none h h1 h2 h3 h4).1]; simp
  | some p =>
    by_cases h5 : p.1 = k
    · rw [(pr_yes h h1 h2 h3 h4 h5).1]; exact right_len (passOk_is (passA_ok h4)).2
    · rw [(pr_other h h1 h2 h3 h4 h5).1]; simp
/-- the model's test: what was read is written as what was given -/
theorem passV_back {s : ByteArray} (hu : unC s = 0) {p : ByteArray × List (Int × Int)} (h : passV p.1 p.2 = s) : passA (unT s) = some p := by
  obtain ⟨hz, h4, _, ht⟩ := unC_ok hu
  have hm : passOk p.1 p.2 = true := by
    cases hc : passOk p.1 p.2
    · have : passV p.1 p.2 = ⟨#[]⟩ := if_neg (by rw [hc]; simp)
      rw [this] at h; subst h; exact absurd (show (ByteArray.mk #[]).size < 4 by decide) h4
    · rfl
  have hb : passV p.1 p.2 = sealed (passBody p.1 p.2) := if_pos hm
  obtain ⟨hn, hr⟩ := passOk_is hm
  have hl := passBody_size hn hr
  rw [hb, sealed_short _ (by omega)] at h
  have e : unT s = passBody p.1 p.2 := by
    rw [ht, ← h]
    exact (front (passBody p.1 p.2) (four (crcN (passBody p.1 p.2))) rfl).1
  rw [e]
  exact passA_fwd hm
theorem passV_of {s : ByteArray} (hu : unC s = 0) {p : ByteArray × List (Int × Int)} (h : passA (unT s) = some p) : passV p.1 p.2 = s := by
  have : passV p.1 p.2 = sealed (passBody p.1 p.2) := if_pos (passA_ok h)
  rw [this, passA_body h]
  exact un_sealed hu
/-- the version vector behind the key, as a text of its own -/
theorem seen_tail {t : ByteArray} {a : Nat} {l : List (Int × Int)} (h : seenAt t (a : Int) = some (l, (t.size : Int))) (h8 : t.size ≤ 8000) :
    readL (t.extract a t.size) = l ∧ readC (t.extract a t.size) = 0 := by
  have hs := h
  unfold seenAt at hs
  simp only [Option.filter_eq_some_iff] at hs
  obtain ⟨hp, hr⟩ := hs
  obtain ⟨i, e⟩ := parse_at hp
  have hx := extract_at i
  rw [show a + (seenB l).length = t.size by omega] at hx
  have hat : seenAt (t.extract a t.size) ((0 : Nat) : Int) = some (l, ((0 + (seenB l).length : Nat) : Int)) := parse_fwd hr (by rw [hx]; exact at_self _)
  have hz : (t.extract a t.size).size = (seenB l).length := by rw [hx]; simp [ByteArray.size]
  rw [Nat.zero_add, ← hz] at hat
  exact read_yes (by rw [ByteArray.size_extract]; omega) hat rfl
end Go.Proofs.YtiaoifodaoifjaaDoor.Sb

set_option linter.unusedSimpArgs false
set_option linter.unusedVariables false
namespace Go.Proofs.YtiaoifodaoifjaaDoor.Mk
open Go.RowKit

theorem ret_str {a b : ByteArray} (h : a = b) : Ending.returned (.string a) = .returned (.string b) := by rw [h]
theorem wf_dot {m : Int × Int} (h : dotB m = true) : (Lit.int .i64 m.1).wf = true ∧ (Lit.int .i64 m.2).wf = true := by
  have := (dotB_iff m).1 h
  exact ⟨WalkArith.wf_i64 (by omega), WalkArith.wf_i64 (by omega)⟩
set_option maxRecDepth 100000 in
set_option maxHeartbeats 2000000 in
theorem spec_bytes (a : Option Addr) (cap : Nat) (l : List (Int × Int)) (w : World) (hr : rightB l = true) (h : MarksAt w a l) :
    Calls Tryd.prog 62 #[.slice a l.length cap] w fun e w' => e = .returned (.string (bytesV l)) ∧ Below w.heap.size w w' := by
  have H := Lib.hid h
  have HR := Lib.hid hr
  have h5 := right_len hr
  clear h hr
  go_enter Tryd.func62, Tryd.ntmps62
  go_wp2_with fail
  refine (Nu.spec_PutNum (l.length : Int) (WalkArith.wf_i64 (by omega)) _).mono ?_
  rintro e w0 ⟨rfl, hb0⟩
  rw [Nu.numS_mk]
  have HB0 := Lib.hid hb0
  clear hb0
  go_wp2
  go_loopw [3, 4] (fun z i wr => ∃ (k : Nat) (t : ByteArray), k ≤ l.length ∧ i = .int .i64 k ∧ z = .string t ∧ upTo l k t ∧ Below w.heap.size w wr) (fun _ i _ => l.length - (intOf i).toNat)
  case atStart => exact ⟨0, _, Nat.zero_le _, rfl, rfl, upTo_zero l h5, HB0.out⟩
  case round =>
    obtain ⟨k, t, hk, rfl, rfl, ht, hbel⟩ := hrel
    have HT := Lib.hid ht
    have hts := ht.2
    have HB := Lib.hid hbel
    clear ht hbel
    by_cases hlt : k < l.length
    · obtain ⟨g, off, rfl, hg, c0, c1⟩ := (H.out.mono HB.out).cells hlt
      have hd := right_dot HR.out _ (List.getElem_mem hlt)
      have HN := Lib.hid (upTo_next HT.out hlt hd)
      have hw := wf_dot hd
      have hm := (dotB_iff _).1 hd
      clear hd
      generalize l[k] = m at c0 c1 HN hw hm
      obtain ⟨x, y⟩ := m
      simp only at c0 c1 HN hw hm
      have Wx := Lib.hid hw.1
      have Wy := Lib.hid hw.2
      have sx := Nu.numS_size_of x (by omega)
      have sy := Nu.numS_size_of y (by omega)
      have i0 : (0 : Int) ≤ (k : Int) := by omega
      have i1 : (k : Int) < (l.length : Int) := by omega
      have z1 : ¬ 9223372036854775807 < t.size + (Nu.numS x).size := by omega
      have z2 : ¬ 9223372036854775807 < t.size + (Nu.numS x).size + (Nu.numS y).size := by omega
      clear hw
      go_wp2_with fail
      refine wp_region_held_drew (S := (fun w' => w'.cell? ⟨g, off + k * 2, none⟩ = some (.int .i64 x) ∧ w'.cell? ⟨g, off + k * 2 + 1, none⟩ = some (.int .i64 y) ∧ g < w'.heap.size)) (by kernel_rfl) (by first | exact ⟨c0, c1, hg⟩ | (go_split_ands; refine ⟨?_, ?_, ?_⟩; (rw [hb.cell (by assumption)]; assumption); (rw [hb.cell (by assumption)]; assumption); (have := hb.size; omega))) (fun hHeld => ?_)
      refine wpAnyH_take (i := 0) (v := ?_) rfl (by kernel_rfl) (by kernel_rfl) (by kernel_rfl) (fun _ _ _ h => h) (Or.inl ⟨by rfl, fun w hSw => by (try dsimp only at hSw); go_simp; (try with_reducible rfl)⟩) (by assumption) ?_
      try simp only [Act.put, List.setIfInBounds_toArray, List.set_cons_zero, List.set_cons_succ, List.getElem_toArray, List.getElem_cons_zero, List.getElem_cons_succ]
      refine wpAnyH_take (i := 1) (v := ?_) rfl (by kernel_rfl) (by kernel_rfl) (by kernel_rfl) (fun _ _ _ h => h) (Or.inl ⟨by rfl, fun w hSw => by (try dsimp only at hSw); go_simp; (try with_reducible rfl)⟩) (by assumption) ?_
      try simp only [Act.put, List.setIfInBounds_toArray, List.set_cons_zero, List.set_cons_succ, List.getElem_toArray, List.getElem_cons_zero, List.getElem_cons_succ]
      refine wpAnyH_take (i := 2) (v := ?_) rfl (by kernel_rfl) (by kernel_rfl) (by kernel_rfl) (fun _ _ _ h => h) (Or.inl ⟨by rfl, fun w hSw => by (try dsimp only at hSw); go_simp; (try with_reducible rfl)⟩) (by assumption) ?_
      try simp only [Act.put, List.setIfInBounds_toArray, List.set_cons_zero, List.set_cons_succ, List.getElem_toArray, List.getElem_cons_zero, List.getElem_cons_succ]
      refine wpAnyH_take (i := 3) (v := ?_) rfl (by kernel_rfl) (by kernel_rfl) (by kernel_rfl) (fun _ _ _ h => h) (Or.inl ⟨by rfl, fun w hSw => by (try dsimp only at hSw); go_simp; (try with_reducible rfl)⟩) (by assumption) ?_
      try simp only [Act.put, List.setIfInBounds_toArray, List.set_cons_zero, List.set_cons_succ, List.getElem_toArray, List.getElem_cons_zero, List.getElem_cons_succ]
      refine wpAnyH_take (i := 4) (v := ?_) rfl (by kernel_rfl) (by kernel_rfl) (by kernel_rfl) (fun _ _ _ h => h) (Or.inl ⟨by rfl, fun w hSw => by (try dsimp only at hSw); go_simp; (try with_reducible rfl)⟩) (by assumption) ?_
      try simp only [Act.put, List.setIfInBounds_toArray, List.set_cons_zero, List.set_cons_succ, List.getElem_toArray, List.getElem_cons_zero, List.getElem_cons_succ]
      refine wpAnyH_take (i := 5) (v := ?_) rfl (by kernel_rfl) (by kernel_rfl) (by kernel_rfl) (fun _ _ _ h => h) (Or.inl ⟨by rfl, fun w hSw => by (try dsimp only at hSw); go_simp; (try with_reducible rfl)⟩) (by assumption) ?_
      try simp only [Act.put, List.setIfInBounds_toArray, List.set_cons_zero, List.set_cons_succ, List.getElem_toArray, List.getElem_cons_zero, List.getElem_cons_succ]
      refine wpAnyH_take (i := 8) (v := ?_) rfl (by kernel_rfl) (by kernel_rfl) (by kernel_rfl) (fun _ _ _ h => h) (Or.inl ⟨by rfl, fun w hSw => by (try dsimp only at hSw); go_simp; (try with_reducible rfl)⟩) (by assumption) ?_
      try simp only [Act.put, List.setIfInBounds_toArray, List.set_cons_zero, List.set_cons_succ, List.getElem_toArray, List.getElem_cons_zero, List.getElem_cons_succ]
      refine wpAnyH_take (i := 9) (v := ?_) rfl (by kernel_rfl) (by kernel_rfl) (by kernel_rfl) (fun _ _ _ h => h) (Or.inl ⟨by rfl, fun w hSw => by (try dsimp only at hSw); go_simp; (try with_reducible rfl)⟩) (by assumption) ?_
      try simp only [Act.put, List.setIfInBounds_toArray, List.set_cons_zero, List.set_cons_succ, List.getElem_toArray, List.getElem_cons_zero, List.getElem_cons_succ]
      refine wpAnyH_take (i := 10) (v := ?_) rfl (by kernel_rfl) (by kernel_rfl) (by kernel_rfl) (fun _ _ _ h => h) (Or.inl ⟨by rfl, fun w hSw => by (try dsimp only at hSw); go_simp; (try with_reducible rfl)⟩) (by assumption) ?_
      try simp only [Act.put, List.setIfInBounds_toArray, List.set_cons_zero, List.set_cons_succ, List.getElem_toArray, List.getElem_cons_zero, List.getElem_cons_succ]
      refine wpAnyH_take (i := 11) (v := ?_) rfl (by kernel_rfl) (by kernel_rfl) (by kernel_rfl) (fun _ _ _ h => h) (Or.inl ⟨by rfl, fun w hSw => by (try dsimp only at hSw); go_simp; (try with_reducible rfl)⟩) (by assumption) ?_
      try simp only [Act.put, List.setIfInBounds_toArray, List.set_cons_zero, List.set_cons_succ, List.getElem_toArray, List.getElem_cons_zero, List.getElem_cons_succ]
      refine wpAnyH_take (i := 12) (v := ?_) rfl (by kernel_rfl) (by kernel_rfl) (by kernel_rfl) (fun _ _ _ h => h) (Or.inl ⟨by rfl, fun w hSw => by (try dsimp only at hSw); go_simp; (try with_reducible rfl)⟩) (by assumption) ?_
      try simp only [Act.put, List.setIfInBounds_toArray, List.set_cons_zero, List.set_cons_succ, List.getElem_toArray, List.getElem_cons_zero, List.getElem_cons_succ]
      refine wpAnyH_ready (rs := [6]) (by kernel_rfl) (by simp) ?_
      refine AllReadyH.cons rfl (fun K hK => ?_) AllReadyH.nil
      go_simp
      go_at_call 79; refine (Nu.spec_PutNum x Wx.out _).mono ?_; rintro e w1 ⟨rfl, hb⟩; rw [Nu.numS_mk]; have HB1 := Lib.hid (HB.out.drew.trans (hb.mono HB.out.size))
      go_wp2_with fail
      refine hK.out _ _ (by first | exact ⟨c0, c1, hg⟩ | (go_split_ands; refine ⟨?_, ?_, ?_⟩; (rw [hb.cell (by assumption)]; assumption); (rw [hb.cell (by assumption)]; assumption); (have := hb.size; omega))) (fun hHeld => ?_)
      clear hK K
      try simp only [Act.put, List.setIfInBounds_toArray, List.set_cons_zero, List.set_cons_succ, List.getElem_toArray, List.getElem_cons_zero, List.getElem_cons_succ]
      refine wpAnyH_take (i := 7) (v := ?_) rfl (by kernel_rfl) (by kernel_rfl) (by kernel_rfl) (fun _ _ _ h => h) (Or.inl ⟨by rfl, fun w hSw => by (try dsimp only at hSw); go_simp; (try with_reducible rfl)⟩) (by assumption) ?_
      try simp only [Act.put, List.setIfInBounds_toArray, List.set_cons_zero, List.set_cons_succ, List.getElem_toArray, List.getElem_cons_zero, List.getElem_cons_succ]
      refine wpAnyH_ready (rs := [13]) (by kernel_rfl) (by simp) ?_
      refine AllReadyH.cons rfl (fun K hK => ?_) AllReadyH.nil
      go_simp
      go_at_call 79; refine (Nu.spec_PutNum y Wy.out _).mono ?_; rintro e w2 ⟨rfl, hb⟩; rw [Nu.numS_mk]; have HB2 := Lib.hid (HB1.out.trans (hb.mono HB1.out.size))
      go_wp2_with fail
      refine hK.out _ _ (by first | exact ⟨c0, c1, hg⟩ | (go_split_ands; refine ⟨?_, ?_, ?_⟩; (rw [hb.cell (by assumption)]; assumption); (rw [hb.cell (by assumption)]; assumption); (have := hb.size; omega))) (fun hHeld => ?_)
      clear hK K
      try simp only [Act.put, List.setIfInBounds_toArray, List.set_cons_zero, List.set_cons_succ, List.getElem_toArray, List.getElem_cons_zero, List.getElem_cons_succ]
      refine wpAnyH_take (i := 14) (v := ?_) rfl (by kernel_rfl) (by kernel_rfl) (by kernel_rfl) (fun _ _ _ h => h) (Or.inl ⟨by rfl, fun w hSw => by (try dsimp only at hSw); go_simp; (try with_reducible rfl)⟩) (by assumption) ?_
      try simp only [Act.put, List.setIfInBounds_toArray, List.set_cons_zero, List.set_cons_succ, List.getElem_toArray, List.getElem_cons_zero, List.getElem_cons_succ]
      refine wpAnyH_take (i := 15) (v := ?_) rfl (by kernel_rfl) (by kernel_rfl) (by kernel_rfl) (fun _ _ _ h => h) (Or.inl ⟨by rfl, fun w hSw => by (try dsimp only at hSw); go_simp; (try with_reducible rfl)⟩) (by assumption) ?_
      try simp only [Act.put, List.setIfInBounds_toArray, List.set_cons_zero, List.set_cons_succ, List.getElem_toArray, List.getElem_cons_zero, List.getElem_cons_succ]
      refine wpAnyH_done (by kernel_rfl) ?_ _
      go_wp2
      go_roundw
      case rel => exact ⟨k + 1, _, by omega, by go_num, rfl, HN.out, HB2.out⟩
      case measure => go_light; simp [intOf]; omega
    · go_wp2
      go_ret
      exact ⟨ret_str (upTo_end HT.out (by omega) HR.out), HB.out⟩
set_option maxRecDepth 100000 in
theorem spec_seenBytes (a : Option Addr) (cap : Nat) (l : List (Int × Int)) (w : World) (hl : l.length ≤ maxLen) (h : MarksAt w a l) :
    Calls Tryd.prog 60 #[.slice a l.length cap] w fun e w' => e = .returned (.string (bytesV l)) ∧ Below w.heap.size w w' := by
  have H := Lib.hid h
  clear h
  cases hr : rightB l
  · have HE := Lib.hid (bytesV_no hr)
    go_enter Tryd.func60, Tryd.ntmps60
    go_wp2_with (go_at_call 13; refine (spec_seenRight _ _ l _ hl H.out).mono ?_; rintro e w' ⟨rfl, hb⟩)
    go_ret
    exact ⟨ret_str HE.out.symm, hb⟩
  · have HR := Lib.hid hr
    go_enter Tryd.func60, Tryd.ntmps60
    go_wp2_with fail
    refine (spec_seenRight a cap l _ hl H.out).mono ?_
    rintro e w1 ⟨rfl, hb⟩
    go_wp2_with fail
    refine (spec_bytes a cap l _ HR.out (H.out.mono hb)).mono ?_
    rintro e w2 ⟨rfl, hb2⟩
    go_wp2
    go_ret
    exact ⟨rfl, hb.trans (hb2.mono hb.size)⟩
end Go.Proofs.YtiaoifodaoifjaaDoor.Mk

set_option linter.unusedSimpArgs false
set_option linter.unusedVariables false
namespace Go.Proofs.YtiaoifodaoifjaaDoor.Sb
open Go.RowKit Go.Proofs.YtiaoifodaoifjaaDoor.Mk

set_option maxRecDepth 100000 in
theorem spec_pass (y : ByteArray) (a : Option Addr) (cap : Nat) (l : List (Int × Int)) (w : World) (hk : Nm.nameB y = true) (hr : rightB l = true) (h : MarksAt w a l) :
    Calls Tryd.prog 36 #[.string y, .slice a l.length cap] w fun e w' => e = .returned (.string (Se.sealed (passBody y l))) ∧ Below w.heap.size w w' := by
  have hz := passBody_size hk hr
  have hy := (name_size hk).2
  have H := Lib.hid h
  have HR := Lib.hid hr
  have HE := Lib.hid (show Nu.putText y ++ bytesV l = passBody y l from rfl)
  have hs : (Nu.putText y).size + (bytesV l).size ≤ 200 := by rw [← ByteArray.size_append]; exact hz
  have hw : ¬ 9223372036854775807 < (Nu.putText y).size + (bytesV l).size := by omega
  have D := Lib.hid (show Base w w from Below.refl _ _)
  clear h hk hr
  go_enter Tryd.func36, Tryd.ntmps36
  go_wp2_with fail
  refine (Nu.spec_PutText y (by unfold maxLen; omega) _).mono ?_
  rintro e w1 ⟨rfl, hb⟩
  replace D := Lib.hid (D.out.below hb)
  clear hb
  go_wp2_with fail
  refine (spec_bytes a cap l _ HR.out (H.out.mono D.out)).mono ?_
  rintro e w2 ⟨rfl, hb⟩
  replace D := Lib.hid (D.out.below hb)
  clear hb
  go_wp2_with fail
  rw [HE.out]
  refine (Se.spec_Seal (passBody y l) (by unfold maxLen; omega) _).mono ?_
  rintro e w3 ⟨rfl, hb⟩
  replace D := Lib.hid (D.out.below hb)
  clear hb
  go_wp2
  go_ret
  exact ⟨rfl, D.out⟩
set_option maxRecDepth 100000 in
theorem spec_passOf (y : ByteArray) (a : Option Addr) (cap : Nat) (l : List (Int × Int)) (w : World) (hy : y.size ≤ maxLen) (hl : l.length ≤ maxLen) (h : MarksAt w a l) :
    Calls Tryd.prog 10 #[.string y, .slice a l.length cap] w fun e w' => e = .returned (.string (passV y l)) ∧ Below w.heap.size w w' := by
  have H := Lib.hid h
  clear h
  cases hk : Nm.nameB y
  · have HV := Lib.hid (show passV y l = ⟨#[]⟩ from if_neg (by unfold passOk; rw [hk]; simp))
    have HK := Lib.hid hk
    clear hk
    go_enter Tryd.func10, Tryd.ntmps10
    go_wp2_with fail
    refine (Nm.spec_NameRight y hy _).mono ?_
    rintro e w1 ⟨rfl, rfl⟩
    rw [HK.out]
    go_wp2
    go_ret
    exact ⟨Se.ret_str HV.out.symm, Below.refl _ _⟩
  have HK := Lib.hid hk
  clear hk
  go_enter Tryd.func10, Tryd.ntmps10
  go_wp2_with fail
  refine (Nm.spec_NameRight y hy _).mono ?_
  rintro e w1 ⟨rfl, rfl⟩
  rw [HK.out]
  go_wp2_with fail
  refine (spec_seenRight a cap l _ hl H.out).mono ?_
  rintro e w1 ⟨rfl, hb⟩
  have D := Lib.hid (show Base w w1 from hb)
  clear hb
  cases hr : rightB l
  · have HV := Lib.hid (show passV y l = ⟨#[]⟩ from if_neg (by unfold passOk; rw [hr]; simp))
    clear hr
    go_wp2
    go_ret
    exact ⟨Se.ret_str HV.out.symm, D.out⟩
  have HR := Lib.hid hr
  have HV := Lib.hid (show passV y l = Se.sealed (passBody y l) from if_pos (by unfold passOk; rw [hr, HK.out]; rfl))
  clear hr
  go_wp2_with fail
  refine (spec_pass y a cap l _ HK.out HR.out (H.out.mono D.out)).mono ?_
  rintro e w2 ⟨rfl, hb⟩
  replace D := Lib.hid (D.out.below hb)
  clear hb
  go_wp2
  go_ret
  exact ⟨Se.ret_str HV.out.symm, D.out⟩
end Go.Proofs.YtiaoifodaoifjaaDoor.Sb

set_option linter.unusedSimpArgs false
set_option linter.unusedVariables false
namespace Go.Proofs.YtiaoifodaoifjaaDoor.Ge
open Go.RowKit

/-- what i bytes can have given -/
def Pre (u i : Nat) : Prop := u < 128 ^ i
theorem pre_zero : Pre 0 0 := by unfold Pre; omega

theorem sum_wrap (u v : Nat) (h : u + v < 18446744073709551616) : IntKind.u64.wrap ((u : Int) + (v : Int)) = ((u + v : Nat) : Int) := by
  rw [IntKind.wrap_u64]; omega

theorem wrap9 (u b : Nat) (h : u + b % 128 * 128 ^ 9 < 18446744073709551616) : IntKind.u64.wrap ((b : Int) % 128 * 9223372036854775808) = ((b % 128 * 128 ^ 9 : Nat) : Int) := by
  have e9 : (128 : Nat) ^ 9 = 9223372036854775808 := by decide
  rw [e9] at h ⊢
  rw [IntKind.wrap_u64]; omega
/-- the half of an unsigned number, and its parity, as the walk spells them -/
theorem half_facts (V : Nat) (h : V < 18446744073709551616) : ∃ h2 : Nat, IntKind.u64.wrap ((V : Int) / 2) = h2 ∧ wrap64 (h2 : Int) = h2 ∧ wrap64 (-(h2 : Int)) = -(h2 : Int) ∧ wrap64 (-(h2 : Int) - 1) = -(h2 : Int) - 1 ∧
    (((V : Int).tmod 2 = 1 ∧ (V : Int) % 2 = 1 ∧ Hid (unz V = -(h2 : Int) - 1)) ∨ ((V : Int).tmod 2 = 0 ∧ (V : Int) % 2 = 0 ∧ Hid (unz V = (h2 : Int)))) := by
  have e2 : (V : Int).tmod 2 = ((V % 2 : Nat) : Int) := by rw [Int.tmod_eq_emod_of_nonneg (by omega)]; omega
  refine ⟨V / 2, ?_, by unfold wrap64; omega, by unfold wrap64; omega, by unfold wrap64; omega, ?_⟩
  · rw [IntKind.wrap_u64]; omega
  · by_cases hp : V % 2 = 1
    · exact .inl ⟨by rw [e2, hp]; rfl, by omega, Lib.hid (by unfold unz; rw [if_pos hp])⟩
    · exact .inr ⟨by rw [e2, show V % 2 = 0 by omega]; rfl, by omega, Lib.hid (by unfold unz; rw [if_neg hp])⟩
theorem nout_eq {R : Int × Int × Int} {a a' : Int} {k : Nat} {m : Int} (hR : R = (a, (k : Int), 0)) (ha : a = a') (hm : m = (k : Int)) : nout (a', m, 0) = nout R := by rw [hR, ha, hm]

set_option maxRecDepth 100000 in
set_option maxHeartbeats 2000000 in
theorem spec_GetNum_nat (s : ByteArray) (hs : ¬ 8000 < s.size) (n : Nat) (w : World) :
    Calls Tryd.prog 76 #[.string s, .int .i64 (n : Nat)] w fun e w' => e = .returned (nout (G s n 0 0)) ∧ Below w.heap.size w w' := by
  generalize hR : G s n 0 0 = R
  have HR := Lib.hid hR
  clear hR
  go_enter Tryd.func76, Tryd.ntmps76
  go_wp2
  go_loop [5, 6] (fun t5 t6 => ∃ u i : Nat, t5 = .int .u64 (u : Nat) ∧ t6 = .int .i64 (i : Nat) ∧ i ≤ 10 ∧ Pre u i ∧ R = G s n i u) (fun _ t6 => 10 - (intOf t6).toNat)
  case atStart => exact ⟨0, 0, rfl, rfl, by omega, pre_zero, HR.out.symm⟩
  case round =>
    obtain ⟨u, i, rfl, rfl, hi10, hu, hR⟩ := hrel
    have HU := Lib.hid hu
    have HR' := Lib.hid hR
    clear hu hR
    by_cases hi : i < 10
    · by_cases hsz : s.size ≤ n + i
      · have HX := Lib.hid (HR'.out.trans (G_short hi hsz))
        have t1 : (s.size : Int) - (i : Int) ≤ (n : Int) := by omega
        go_wp2
        refine bodyPost_ret (v := nout (0, 0, 4)) (by simp [results, Tryd.results76, go_sem, nout]) rfl ⟨ret_val (by rw [HX.out]), ?_⟩
        exact (Below.refl _ _).alloc (Nat.le_refl _) _
      have hsz' : n + i < s.size := by omega
      have hbb := s[n + i].toNat_lt
      have t1 : (n : Int) < (s.size : Int) - (i : Int) := by omega
      have t2 : ((n : Int) + (i : Int)).toNat = n + i := by omega
      by_cases h9 : i = 9 ∧ 1 < s[n + i].toNat
      · have HX := Lib.hid (ten_R HR'.out rfl hi hsz' h9)
        obtain ⟨rfl, hb1⟩ := h9
        go_wp2
        refine bodyPost_ret (v := nout (0, 0, 3)) (by simp [results, Tryd.results76, go_sem, nout]) rfl ⟨ret_val (by rw [HX.out]), ?_⟩
        exact (Below.refl _ _).alloc (Nat.le_refl _) _
      have HS := Lib.hid (sum_lt u s[n + i].toNat i hi HU.out h9 (by omega))
      by_cases hb8 : s[n + i].toNat < 128
      · have HL := Lib.hid (last_R HR'.out rfl hi hsz' h9 hb8)
        by_cases hz : s[n + i].toNat = 0 ∧ 0 < i
        · have HX := Lib.hid (HL.out.trans (if_pos hz))
          obtain ⟨hz1, hz2⟩ := hz
          have z1 : ((s[n + i].toNat : Int) == 0) = true := by simp; omega
          clear hz1
          by_cases e9 : i = 9
          · subst e9
            have hb1 : decide (1 < (s[n + 9].toNat : Int)) = false := by simp; omega
            clear h9
            go_wp2
            refine bodyPost_ret (v := nout (0, 0, 3)) (by simp [results, Tryd.results76, go_sem, nout]) rfl ⟨ret_val (by rw [HX.out]), ?_⟩
            exact (Below.refl _ _).alloc (Nat.le_refl _) _
          · have e9' : ((i : Int) == 9) = false := by simp; omega
            clear h9
            go_wp2
            refine bodyPost_ret (v := nout (0, 0, 3)) (by simp [results, Tryd.results76, go_sem, nout]) rfl ⟨ret_val (by rw [HX.out]), ?_⟩
            exact (Below.refl _ _).alloc (Nat.le_refl _) _
        · have HX := Lib.hid (HL.out.trans (if_neg hz))
          by_cases hb0 : s[n + i].toNat = 0
          · have hi0 : i = 0 := by omega
            subst hi0
            have hu0 : u = 0 := by have := HU.out; unfold Pre at this; omega
            subst hu0
            have HX' : Hid (R = (0, ((n + 1 : Nat) : Int), 0)) := Lib.hid (by rw [HX.out, hb0]; rfl)
            have z1 : ((s[n + 0].toNat : Int) == 0) = true := by rw [hb0]; rfl
            have z2 : s[n].toNat = 0 := hb0
            clear h9 HS HL hz
            go_wp2
            refine bodyPost_ret (v := nout (0, (n : Int) + 1, 0)) (by simp [results, Tryd.results76, go_sem, nout]) rfl ⟨ret_val (nout_eq HX'.out rfl (by omega)), ?_⟩
            exact (Below.refl _ _).alloc (Nat.le_refl _) _
          have z1 : ((s[n + i].toNat : Int) == 0) = false := by simp; omega
          by_cases e9 : i = 9
          · subst e9
            have hb1 : decide (1 < (s[n + 9].toNat : Int)) = false := by simp; omega
            have hw := wrap9 u s[n + 9].toNat HS.out.1
            have hsum := sum_wrap u (s[n + 9].toNat % 128 * 128 ^ 9) HS.out.1
            have HBig := Lib.hid HS.out.1
            generalize u + s[n + 9].toNat % 128 * 128 ^ 9 = V at hsum HX HBig
            generalize s[n + 9].toNat % 128 * 128 ^ 9 = V' at hsum hw
            clear h9 HS HL hz hb0
            obtain ⟨h2, c1, c2, c3, c4, hpar⟩ := half_facts V HBig.out
            rcases hpar with ⟨p1, p2, HN⟩ | ⟨p1, p2, HN⟩
            · go_wp2
              refine bodyPost_ret (v := nout (-(h2 : Int) - 1, (n : Int) + (9 : Int) + 1, 0)) (by simp [results, Tryd.results76, go_sem, nout]) rfl ⟨ret_val (nout_eq HX.out HN.out (by omega)), ?_⟩
              exact (Below.refl _ _).alloc (Nat.le_refl _) _
            · go_wp2
              refine bodyPost_ret (v := nout ((h2 : Int), (n : Int) + (9 : Int) + 1, 0)) (by simp [results, Tryd.results76, go_sem, nout]) rfl ⟨ret_val (nout_eq HX.out HN.out (by omega)), ?_⟩
              exact (Below.refl _ _).alloc (Nat.le_refl _) _
          · have e9' : ((i : Int) == 9) = false := by simp; omega
            have hw := (step_facts u s[n + i].toNat i hi HU.out h9 (by omega)).1
            have hsum := sum_wrap u (s[n + i].toNat % 128 * 128 ^ i) HS.out.1
            have HBig := Lib.hid HS.out.1
            generalize u + s[n + i].toNat % 128 * 128 ^ i = V at hsum HX HBig
            generalize s[n + i].toNat % 128 * 128 ^ i = V' at hsum hw
            clear h9 HS HL hz hb0 e9
            obtain ⟨h2, c1, c2, c3, c4, hpar⟩ := half_facts V HBig.out
            rcases hpar with ⟨p1, p2, HN⟩ | ⟨p1, p2, HN⟩
            · go_wp2
              refine bodyPost_ret (v := nout (-(h2 : Int) - 1, (n : Int) + (i : Int) + 1, 0)) (by simp [results, Tryd.results76, go_sem, nout]) rfl ⟨ret_val (nout_eq HX.out HN.out (by omega)), ?_⟩
              exact (Below.refl _ _).alloc (Nat.le_refl _) _
            · go_wp2
              refine bodyPost_ret (v := nout ((h2 : Int), (n : Int) + (i : Int) + 1, 0)) (by simp [results, Tryd.results76, go_sem, nout]) rfl ⟨ret_val (nout_eq HX.out HN.out (by omega)), ?_⟩
              exact (Below.refl _ _).alloc (Nat.le_refl _) _
      · have HL := Lib.hid (more_R HR'.out rfl hi hsz' h9 hb8)
        have hi9 := (HS.out.2 hb8).2
        have HV := Lib.hid (HS.out.2 hb8).1
        have hw := (step_facts u s[n + i].toNat i hi HU.out h9 (by omega)).1
        have hsum := sum_wrap u (s[n + i].toNat % 128 * 128 ^ i) HS.out.1
        have e9' : ((i : Int) == 9) = false := by simp; omega
        generalize u + s[n + i].toNat % 128 * 128 ^ i = V at hsum HL HV
        generalize s[n + i].toNat % 128 * 128 ^ i = V' at hsum hw
        clear h9 HS
        go_wp2
        go_round
        case rel => exact ⟨V, i + 1, rfl, by go_num, by omega, HV.out, HL.out⟩
        case measure => go_light; simp [intOf]; omega
    · have hi' : i = 10 := by omega
      subst hi'
      have HX := Lib.hid (HR'.out.trans (G_end (by omega)))
      go_wp2
      refine bodyPost_ret (v := nout (0, 0, 3)) (by simp [results, Tryd.results76, go_sem, nout]) rfl ⟨ret_val (by rw [HX.out]), ?_⟩
      exact (Below.refl _ _).alloc (Nat.le_refl _) _

set_option maxRecDepth 100000 in
set_option maxHeartbeats 1000000 in
theorem spec_GetNum (s : ByteArray) (hs : s.size ≤ maxLen) (a : Int) (w : World) :
    Calls Tryd.prog 76 #[.string s, .int .i64 a] w fun e w' => e = .returned (nout (getN s a)) ∧ Below w.heap.size w w' := by
  unfold maxLen at hs
  by_cases h1 : 8000 < s.size
  · have HX : Hid (nout (0, 0, 2) = nout (getN s a)) := Lib.hid (by unfold getN; rw [if_pos h1])
    go_enter Tryd.func76, Tryd.ntmps76
    go_wp2
    exact bodyPost_ret (v := nout (0, 0, 2)) (by simp [results, Tryd.results76, go_sem, nout]) rfl ⟨ret_val HX.out, (Below.refl _ _).alloc (Nat.le_refl _) _⟩
  by_cases h0 : a < 0
  · have HX : Hid (nout (0, 0, 1) = nout (getN s a)) := Lib.hid (by unfold getN readN; rw [if_neg h1, if_pos h0])
    go_enter Tryd.func76, Tryd.ntmps76
    go_wp2
    exact bodyPost_ret (v := nout (0, 0, 1)) (by simp [results, Tryd.results76, go_sem, nout]) rfl ⟨ret_val HX.out, (Below.refl _ _).alloc (Nat.le_refl _) _⟩
  obtain ⟨n, rfl⟩ : ∃ n : Nat, a = n := ⟨a.toNat, by omega⟩
  have e : getN s n = G s n 0 0 := by unfold getN readN; rw [if_neg h1, if_neg (by omega)]; rfl
  rw [e]
  exact spec_GetNum_nat s h1 n w
end Go.Proofs.YtiaoifodaoifjaaDoor.Ge

set_option linter.unusedSimpArgs false
set_option linter.unusedVariables false
namespace Go.Proofs.YtiaoifodaoifjaaDoor.Mk
open Go.RowKit Ge

/-- a reader of s at place a; b: something was wrong -/
structure Rd (w : World) (g : Nat) (s : ByteArray) (a : Int) (b : Bool) : Prop where
  c0 : w.cell? ⟨g, 0, none⟩ = some (.string s)
  c1 : w.cell? ⟨g, 1, none⟩ = some (.int .i64 a)
  c2 : w.cell? ⟨g, 2, none⟩ = some (.bool b)
  f1 : w.frozen? ⟨g, 1, none⟩ = false
  f2 : w.frozen? ⟨g, 2, none⟩ = false
  lt : g < w.heap.size
theorem Rd.same {w w' : World} {g : Nat} {s : ByteArray} {a : Int} {b : Bool} (h : Rd w g s a b) (hs : w'.heap[g]? = w.heap[g]?) (hz : w.heap.size ≤ w'.heap.size) : Rd w' g s a b :=
  ⟨(World.cell?_of_block (a := ⟨g, 0, none⟩) hs).trans h.c0, (World.cell?_of_block (a := ⟨g, 1, none⟩) hs).trans h.c1, (World.cell?_of_block (a := ⟨g, 2, none⟩) hs).trans h.c2,
    (World.frozen?_of_block (a := ⟨g, 1, none⟩) hs).trans h.f1, (World.frozen?_of_block (a := ⟨g, 2, none⟩) hs).trans h.f2, Nat.lt_of_lt_of_le h.lt hz⟩
theorem Rd.below {w w' : World} {g : Nat} {s : ByteArray} {a : Int} {b : Bool} (h : Rd w g s a b) (hb : Below w.heap.size w w') : Rd w' g s a b := h.same (hb.block g h.lt) hb.size
theorem Rd.within {w w' : World} {lo hi g : Nat} {s : ByteArray} {a : Int} {b : Bool} (h : Rd w g s a b) (hw : Within lo hi w w') (ha : g < lo ∨ hi ≤ g) : Rd w' g s a b := h.same (hw.block g h.lt ha) hw.size
theorem Rd.setAt {w : World} {g : Nat} {s : ByteArray} {a : Int} {b : Bool} (h : Rd w g s a b) (x : Int) : Rd (w.setCell ⟨g, 1, none⟩ (.int .i64 x)) g s x b :=
  ⟨by rw [World.cell?_setCell_other _ _ _ _ (ne_off (by omega))]; exact h.c0, World.cell?_setCell_same _ _ _ h.c1, by rw [World.cell?_setCell_other _ _ _ _ (ne_off (by omega))]; exact h.c2,
    by rw [World.frozen?_setCell]; exact h.f1, by rw [World.frozen?_setCell]; exact h.f2, by simpa [World.setCell] using h.lt⟩
theorem Rd.setBad {w : World} {g : Nat} {s : ByteArray} {a : Int} {b : Bool} (h : Rd w g s a b) (x : Bool) : Rd (w.setCell ⟨g, 2, none⟩ (.bool x)) g s a x :=
  ⟨by rw [World.cell?_setCell_other _ _ _ _ (ne_off (by omega))]; exact h.c0, by rw [World.cell?_setCell_other _ _ _ _ (ne_off (by omega))]; exact h.c1, World.cell?_setCell_same _ _ _ h.c2,
    by rw [World.frozen?_setCell]; exact h.f1, by rw [World.frozen?_setCell]; exact h.f2, by simpa [World.setCell] using h.lt⟩
theorem Rd.new (w : World) (s : ByteArray) (t : TypeId) : Rd (w.alloc (.cells #[.string s, .int .i64 0, .bool false] t)) w.heap.size s 0 false :=
  ⟨by rw [World.cell?_alloc_mark]; rfl, by rw [World.cell?_alloc_mark]; rfl, by rw [World.cell?_alloc_mark]; rfl, by rw [World.frozen?_alloc_mark]; simp, by rw [World.frozen?_alloc_mark]; simp, by simp⟩
theorem getN_small {s : ByteArray} (h : s.size ≤ 8000) (a : Int) : getN s a = readN s a := if_neg (by omega)
/-- what a call on the reader leaves: n is returned, the reader is at place a, b: something was wrong -/
def Reads (w : World) (g : Nat) (s : ByteArray) (n a : Int) (b : Bool) (e : Ending) (w' : World) : Prop := e = .returned (.int .i64 n) ∧ Rd w' g s a b ∧ Within g (g + 1) w w'
theorem within_of {w w' : World} {g : Nat} (h : Base w w') : Within g (g + 1) w w' := ⟨Below.os h, Below.tape h, Below.output h, Below.size h, fun k hk _ => Below.block h k hk⟩

set_option maxRecDepth 100000 in
set_option maxHeartbeats 2000000 in
theorem num_ok (g : Nat) (s : ByteArray) (a n a1 : Int) (w : World) (hs : s.size ≤ 8000) (hn : readN s a = (n, a1, 0)) (h : Rd w g s a false) :
    Calls Tryd.prog 78 #[.pointer (some ⟨g, 0, none⟩)] w (Reads w g s n a1 false) := by
  have HN := Lib.hid (show getN s a = (n, a1, 0) by rw [getN_small hs]; exact hn)
  have R := Lib.hid h
  have hg := h.lt
  have D := Lib.hid (show Base w w from Below.refl _ _)
  clear h hn
  go_enter Tryd.func78, Tryd.ntmps78
  go_wp2_with fail
  have hb := step_drew w
  replace R := Lib.hid (R.out.below hb)
  replace D := Lib.hid (D.out.below hb)
  clear hb
  refine wp_region_held_drew (S := (fun w' => w'.cell? ⟨g, 0, none⟩ = some (.string s) ∧ w'.cell? ⟨g, 1, none⟩ = some (.int .i64 a))) (by kernel_rfl) (by exact ⟨R.out.c0, R.out.c1⟩) (fun hHeld => ?_)
  have Zd : w.heap.size ≤ w.drew.heap.size := Nat.le_refl _
  generalize w.drew = wd at Zd hHeld R D ⊢
  refine wpAnyH_take (i := 0) (v := ?_) rfl (by kernel_rfl) (by kernel_rfl) (by kernel_rfl) (fun _ _ _ h => h) (Or.inl ⟨by rfl, fun w hSw => by (try dsimp only at hSw); go_simp; (try with_reducible rfl)⟩) (by assumption) ?_
  try simp only [Act.put, List.setIfInBounds_toArray, List.set_cons_zero, List.set_cons_succ, List.getElem_toArray, List.getElem_cons_zero, List.getElem_cons_succ]
  refine wpAnyH_take (i := 1) (v := ?_) rfl (by kernel_rfl) (by kernel_rfl) (by kernel_rfl) (fun _ _ _ h => h) (Or.inl ⟨by rfl, fun w hSw => by (try dsimp only at hSw); go_simp; (try with_reducible rfl)⟩) (by assumption) ?_
  try simp only [Act.put, List.setIfInBounds_toArray, List.set_cons_zero, List.set_cons_succ, List.getElem_toArray, List.getElem_cons_zero, List.getElem_cons_succ]
  refine wpAnyH_take (i := 2) (v := ?_) rfl (by kernel_rfl) (by kernel_rfl) (by kernel_rfl) (fun _ _ _ h => h) (Or.inl ⟨by rfl, fun w hSw => by (try dsimp only at hSw); go_simp; (try with_reducible rfl)⟩) (by assumption) ?_
  try simp only [Act.put, List.setIfInBounds_toArray, List.set_cons_zero, List.set_cons_succ, List.getElem_toArray, List.getElem_cons_zero, List.getElem_cons_succ]
  refine wpAnyH_take (i := 3) (v := ?_) rfl (by kernel_rfl) (by kernel_rfl) (by kernel_rfl) (fun _ _ _ h => h) (Or.inl ⟨by rfl, fun w hSw => by (try dsimp only at hSw); go_simp; (try with_reducible rfl)⟩) (by assumption) ?_
  try simp only [Act.put, List.setIfInBounds_toArray, List.set_cons_zero, List.set_cons_succ, List.getElem_toArray, List.getElem_cons_zero, List.getElem_cons_succ]
  refine wpAnyH_take (i := 4) (v := ?_) rfl (by kernel_rfl) (by kernel_rfl) (by kernel_rfl) (fun _ _ _ h => h) (Or.inl ⟨by rfl, fun w hSw => by (try dsimp only at hSw); go_simp; (try with_reducible rfl)⟩) (by assumption) ?_
  try simp only [Act.put, List.setIfInBounds_toArray, List.set_cons_zero, List.set_cons_succ, List.getElem_toArray, List.getElem_cons_zero, List.getElem_cons_succ]
  refine wpAnyH_take (i := 5) (v := ?_) rfl (by kernel_rfl) (by kernel_rfl) (by kernel_rfl) (fun _ _ _ h => h) (Or.inl ⟨by rfl, fun w hSw => by (try dsimp only at hSw); go_simp; (try with_reducible rfl)⟩) (by assumption) ?_
  try simp only [Act.put, List.setIfInBounds_toArray, List.set_cons_zero, List.set_cons_succ, List.getElem_toArray, List.getElem_cons_zero, List.getElem_cons_succ]
  refine wpAnyH_take (i := 6) (v := ?_) rfl (by kernel_rfl) (by kernel_rfl) (by kernel_rfl) (fun _ _ _ h => h) (Or.inl ⟨by rfl, fun w hSw => by (try dsimp only at hSw); go_simp; (try with_reducible rfl)⟩) (by assumption) ?_
  try simp only [Act.put, List.setIfInBounds_toArray, List.set_cons_zero, List.set_cons_succ, List.getElem_toArray, List.getElem_cons_zero, List.getElem_cons_succ]
  refine wpAnyH_take (i := 7) (v := ?_) rfl (by kernel_rfl) (by kernel_rfl) (by kernel_rfl) (fun _ _ _ h => h) (Or.inl ⟨by rfl, fun w hSw => by (try dsimp only at hSw); go_simp; (try with_reducible rfl)⟩) (by assumption) ?_
  try simp only [Act.put, List.setIfInBounds_toArray, List.set_cons_zero, List.set_cons_succ, List.getElem_toArray, List.getElem_cons_zero, List.getElem_cons_succ]
  refine wpAnyH_ready (rs := [8, 9]) (by kernel_rfl) (by simp) ?_
  refine AllReadyH.cons rfl (fun K hK => ?_) ?_
  · go_simp
    go_at_call 76
    refine (spec_GetNum s (by unfold maxLen; omega) a _).mono ?_
    rintro e wc8 ⟨rfl, hb⟩
    rw [HN.out]
    unfold nout
    simp only
    replace R := Lib.hid (R.out.below hb)
    replace D := Lib.hid (D.out.below hb)
    have Zc0 := hb.size
    clear hb
    go_wp2_with fail
    refine hK.out _ _ (by exact ⟨R.out.c0, R.out.c1⟩) (fun hHeld => ?_)
    clear hK K
    try simp only [Act.put, List.setIfInBounds_toArray, List.set_cons_zero, List.set_cons_succ, List.getElem_toArray, List.getElem_cons_zero, List.getElem_cons_succ]
    refine wpAnyH_ready (rs := [9]) (by kernel_rfl) (by simp) ?_
    refine AllReadyH.cons rfl (fun K hK => ?_) AllReadyH.nil
    go_simp
    have hb := step_alloc wc8 (.cells #[.int .i64 0, .int .i64 0, .int .i64 0] 126)
    replace R := Lib.hid (R.out.below hb)
    replace D := Lib.hid (D.out.below hb)
    clear hb
    have NV := Lib.hid (New3.new wc8 (.int .i64 0) (.int .i64 0) (.int .i64 0) 126)
    have Za : wc8.heap.size < (wc8.alloc (.cells #[.int .i64 0, .int .i64 0, .int .i64 0] 126)).heap.size := by simp
    obtain ⟨gb, hgb⟩ : ∃ gb, gb = wc8.heap.size := ⟨_, rfl⟩
    have Qa : wc8.heap.size ≤ gb := by omega
    have Qb : gb < (wc8.alloc (.cells #[.int .i64 0, .int .i64 0, .int .i64 0] 126)).heap.size := by omega
    rw [← hgb] at NV ⊢
    clear hgb
    generalize wc8.alloc (.cells #[.int .i64 0, .int .i64 0, .int .i64 0] 126) = wa at NV Za Qb R D ⊢
    refine hK.out _ _ (by exact ⟨R.out.c0, R.out.c1⟩) (fun hHeld => ?_)
    clear hK K
    try simp only [Act.put, List.setIfInBounds_toArray, List.set_cons_zero, List.set_cons_succ, List.getElem_toArray, List.getElem_cons_zero, List.getElem_cons_succ]
    obtain ⟨nv0, nv1, nv2, nf0, nf1, nf2, nl⟩ := NV.out
    refine wpAnyH_ready (rs := [10]) (by kernel_rfl) (by simp) ?_
    refine AllReadyH.cons rfl (fun K hK => ?_) AllReadyH.nil
    go_simp
    have hw := (((Within.refl gb (gb + 1) wa).setCell (p := ⟨gb, 0, none⟩) (Nat.le_refl _) (Nat.lt_succ_self _) (.int .i64 (n))).setCell (p := ⟨gb, 1, none⟩) (Nat.le_refl _) (Nat.lt_succ_self _) (.int .i64 (a1))).setCell (p := ⟨gb, 2, none⟩) (Nat.le_refl _) (Nat.lt_succ_self _) (.int .i64 (0))
    have V := Lib.hid (NV.out.store (.int .i64 (n)) (.int .i64 (a1)) (.int .i64 (0)))
    replace R := Lib.hid (R.out.within hw (by omega))
    replace D := Lib.hid (D.out.within hw (by omega))
    have Zs : wa.heap.size ≤ (World.setCell (World.setCell (World.setCell wa ⟨gb, 0, none⟩ (.int .i64 (n))) ⟨gb, 1, none⟩ (.int .i64 (a1))) ⟨gb, 2, none⟩ (.int .i64 (0))).heap.size := hw.size
    clear hw NV nv0 nv1 nv2 nf0 nf1 nf2 nl
    generalize (World.setCell (World.setCell (World.setCell wa ⟨gb, 0, none⟩ (.int .i64 (n))) ⟨gb, 1, none⟩ (.int .i64 (a1))) ⟨gb, 2, none⟩ (.int .i64 (0))) = wz at V Zs R D ⊢
    refine hK.out _ _ (by exact ⟨R.out.c0, R.out.c1⟩) (fun hHeld => ?_)
    clear hK K
    try simp only [Act.put, List.setIfInBounds_toArray, List.set_cons_zero, List.set_cons_succ, List.getElem_toArray, List.getElem_cons_zero, List.getElem_cons_succ]
    refine wpAnyH_done (by kernel_rfl) ?_ _
    obtain ⟨v0, v1, v2, vl⟩ := V.out
    obtain ⟨r0, r1, r2, rf1, rf2, rl⟩ := R.out
    go_wp2
    go_ret
    exact ⟨rfl, R.out.setAt a1, (within_of D.out).setCell (p := ⟨g, 1, none⟩) (Nat.le_refl _) (Nat.lt_succ_self _) _⟩
  refine AllReadyH.cons rfl (fun K hK => ?_) AllReadyH.nil
  go_simp
  have hb := step_alloc wd (.cells #[.int .i64 0, .int .i64 0, .int .i64 0] 126)
  replace R := Lib.hid (R.out.below hb)
  replace D := Lib.hid (D.out.below hb)
  clear hb
  have NV := Lib.hid (New3.new wd (.int .i64 0) (.int .i64 0) (.int .i64 0) 126)
  have Za : wd.heap.size < (wd.alloc (.cells #[.int .i64 0, .int .i64 0, .int .i64 0] 126)).heap.size := by simp
  obtain ⟨gb, hgb⟩ : ∃ gb, gb = wd.heap.size := ⟨_, rfl⟩
  have Qa : wd.heap.size ≤ gb := by omega
  have Qb : gb < (wd.alloc (.cells #[.int .i64 0, .int .i64 0, .int .i64 0] 126)).heap.size := by omega
  rw [← hgb] at NV ⊢
  clear hgb
  generalize wd.alloc (.cells #[.int .i64 0, .int .i64 0, .int .i64 0] 126) = wa at NV Za Qb R D ⊢
  refine hK.out _ _ (by exact ⟨R.out.c0, R.out.c1⟩) (fun hHeld => ?_)
  clear hK K
  try simp only [Act.put, List.setIfInBounds_toArray, List.set_cons_zero, List.set_cons_succ, List.getElem_toArray, List.getElem_cons_zero, List.getElem_cons_succ]
  refine wpAnyH_ready (rs := [8]) (by kernel_rfl) (by simp) ?_
  refine AllReadyH.cons rfl (fun K hK => ?_) AllReadyH.nil
  go_simp
  go_at_call 76
  refine (spec_GetNum s (by unfold maxLen; omega) a _).mono ?_
  rintro e wc8 ⟨rfl, hb⟩
  rw [HN.out]
  unfold nout
  simp only
  replace R := Lib.hid (R.out.below hb)
  replace D := Lib.hid (D.out.below hb)
  replace NV := Lib.hid (NV.out.below hb)
  have Zc0 := hb.size
  clear hb
  go_wp2_with fail
  refine hK.out _ _ (by exact ⟨R.out.c0, R.out.c1⟩) (fun hHeld => ?_)
  clear hK K
  try simp only [Act.put, List.setIfInBounds_toArray, List.set_cons_zero, List.set_cons_succ, List.getElem_toArray, List.getElem_cons_zero, List.getElem_cons_succ]
  obtain ⟨nv0, nv1, nv2, nf0, nf1, nf2, nl⟩ := NV.out
  refine wpAnyH_ready (rs := [10]) (by kernel_rfl) (by simp) ?_
  refine AllReadyH.cons rfl (fun K hK => ?_) AllReadyH.nil
  go_simp
  have hw := (((Within.refl gb (gb + 1) wc8).setCell (p := ⟨gb, 0, none⟩) (Nat.le_refl _) (Nat.lt_succ_self _) (.int .i64 (n))).setCell (p := ⟨gb, 1, none⟩) (Nat.le_refl _) (Nat.lt_succ_self _) (.int .i64 (a1))).setCell (p := ⟨gb, 2, none⟩) (Nat.le_refl _) (Nat.lt_succ_self _) (.int .i64 (0))
  have V := Lib.hid (NV.out.store (.int .i64 (n)) (.int .i64 (a1)) (.int .i64 (0)))
  replace R := Lib.hid (R.out.within hw (by omega))
  replace D := Lib.hid (D.out.within hw (by omega))
  have Zs : wc8.heap.size ≤ (World.setCell (World.setCell (World.setCell wc8 ⟨gb, 0, none⟩ (.int .i64 (n))) ⟨gb, 1, none⟩ (.int .i64 (a1))) ⟨gb, 2, none⟩ (.int .i64 (0))).heap.size := hw.size
  clear hw NV nv0 nv1 nv2 nf0 nf1 nf2 nl
  generalize (World.setCell (World.setCell (World.setCell wc8 ⟨gb, 0, none⟩ (.int .i64 (n))) ⟨gb, 1, none⟩ (.int .i64 (a1))) ⟨gb, 2, none⟩ (.int .i64 (0))) = wz at V Zs R D ⊢
  refine hK.out _ _ (by exact ⟨R.out.c0, R.out.c1⟩) (fun hHeld => ?_)
  clear hK K
  try simp only [Act.put, List.setIfInBounds_toArray, List.set_cons_zero, List.set_cons_succ, List.getElem_toArray, List.getElem_cons_zero, List.getElem_cons_succ]
  refine wpAnyH_done (by kernel_rfl) ?_ _
  obtain ⟨v0, v1, v2, vl⟩ := V.out
  obtain ⟨r0, r1, r2, rf1, rf2, rl⟩ := R.out
  go_wp2
  go_ret
  exact ⟨rfl, R.out.setAt a1, (within_of D.out).setCell (p := ⟨g, 1, none⟩) (Nat.le_refl _) (Nat.lt_succ_self _) _⟩

set_option maxRecDepth 100000 in
set_option maxHeartbeats 2000000 in
theorem num_bad (g : Nat) (s : ByteArray) (a c : Int) (w : World) (hs : s.size ≤ 8000) (hc : c ≠ 0) (hn : readN s a = (0, 0, c)) (h : Rd w g s a false) :
    Calls Tryd.prog 78 #[.pointer (some ⟨g, 0, none⟩)] w (Reads w g s 0 a true) := by
  have HN := Lib.hid (show getN s a = (0, 0, c) by rw [getN_small hs]; exact hn)
  have R := Lib.hid h
  have hg := h.lt
  have D := Lib.hid (show Base w w from Below.refl _ _)
  clear h hn
  go_enter Tryd.func78, Tryd.ntmps78
  go_wp2_with fail
  have hb := step_drew w
  replace R := Lib.hid (R.out.below hb)
  replace D := Lib.hid (D.out.below hb)
  clear hb
  refine wp_region_held_drew (S := (fun w' => w'.cell? ⟨g, 0, none⟩ = some (.string s) ∧ w'.cell? ⟨g, 1, none⟩ = some (.int .i64 a))) (by kernel_rfl) (by exact ⟨R.out.c0, R.out.c1⟩) (fun hHeld => ?_)
  have Zd : w.heap.size ≤ w.drew.heap.size := Nat.le_refl _
  generalize w.drew = wd at Zd hHeld R D ⊢
  refine wpAnyH_take (i := 0) (v := ?_) rfl (by kernel_rfl) (by kernel_rfl) (by kernel_rfl) (fun _ _ _ h => h) (Or.inl ⟨by rfl, fun w hSw => by (try dsimp only at hSw); go_simp; (try with_reducible rfl)⟩) (by assumption) ?_
  try simp only [Act.put, List.setIfInBounds_toArray, List.set_cons_zero, List.set_cons_succ, List.getElem_toArray, List.getElem_cons_zero, List.getElem_cons_succ]
  refine wpAnyH_take (i := 1) (v := ?_) rfl (by kernel_rfl) (by kernel_rfl) (by kernel_rfl) (fun _ _ _ h => h) (Or.inl ⟨by rfl, fun w hSw => by (try dsimp only at hSw); go_simp; (try with_reducible rfl)⟩) (by assumption) ?_
  try simp only [Act.put, List.setIfInBounds_toArray, List.set_cons_zero, List.set_cons_succ, List.getElem_toArray, List.getElem_cons_zero, List.getElem_cons_succ]
  refine wpAnyH_take (i := 2) (v := ?_) rfl (by kernel_rfl) (by kernel_rfl) (by kernel_rfl) (fun _ _ _ h => h) (Or.inl ⟨by rfl, fun w hSw => by (try dsimp only at hSw); go_simp; (try with_reducible rfl)⟩) (by assumption) ?_
  try simp only [Act.put, List.setIfInBounds_toArray, List.set_cons_zero, List.set_cons_succ, List.getElem_toArray, List.getElem_cons_zero, List.getElem_cons_succ]
  refine wpAnyH_take (i := 3) (v := ?_) rfl (by kernel_rfl) (by kernel_rfl) (by kernel_rfl) (fun _ _ _ h => h) (Or.inl ⟨by rfl, fun w hSw => by (try dsimp only at hSw); go_simp; (try with_reducible rfl)⟩) (by assumption) ?_
  try simp only [Act.put, List.setIfInBounds_toArray, List.set_cons_zero, List.set_cons_succ, List.getElem_toArray, List.getElem_cons_zero, List.getElem_cons_succ]
  refine wpAnyH_take (i := 4) (v := ?_) rfl (by kernel_rfl) (by kernel_rfl) (by kernel_rfl) (fun _ _ _ h => h) (Or.inl ⟨by rfl, fun w hSw => by (try dsimp only at hSw); go_simp; (try with_reducible rfl)⟩) (by assumption) ?_
  try simp only [Act.put, List.setIfInBounds_toArray, List.set_cons_zero, List.set_cons_succ, List.getElem_toArray, List.getElem_cons_zero, List.getElem_cons_succ]
  refine wpAnyH_take (i := 5) (v := ?_) rfl (by kernel_rfl) (by kernel_rfl) (by kernel_rfl) (fun _ _ _ h => h) (Or.inl ⟨by rfl, fun w hSw => by (try dsimp only at hSw); go_simp; (try with_reducible rfl)⟩) (by assumption) ?_
  try simp only [Act.put, List.setIfInBounds_toArray, List.set_cons_zero, List.set_cons_succ, List.getElem_toArray, List.getElem_cons_zero, List.getElem_cons_succ]
  refine wpAnyH_take (i := 6) (v := ?_) rfl (by kernel_rfl) (by kernel_rfl) (by kernel_rfl) (fun _ _ _ h => h) (Or.inl ⟨by rfl, fun w hSw => by (try dsimp only at hSw); go_simp; (try with_reducible rfl)⟩) (by assumption) ?_
  try simp only [Act.put, List.setIfInBounds_toArray, List.set_cons_zero, List.set_cons_succ, List.getElem_toArray, List.getElem_cons_zero, List.getElem_cons_succ]
  refine wpAnyH_take (i := 7) (v := ?_) rfl (by kernel_rfl) (by kernel_rfl) (by kernel_rfl) (fun _ _ _ h => h) (Or.inl ⟨by rfl, fun w hSw => by (try dsimp only at hSw); go_simp; (try with_reducible rfl)⟩) (by assumption) ?_
  try simp only [Act.put, List.setIfInBounds_toArray, List.set_cons_zero, List.set_cons_succ, List.getElem_toArray, List.getElem_cons_zero, List.getElem_cons_succ]
  refine wpAnyH_ready (rs := [8, 9]) (by kernel_rfl) (by simp) ?_
  refine AllReadyH.cons rfl (fun K hK => ?_) ?_
  · go_simp
    go_at_call 76
    refine (spec_GetNum s (by unfold maxLen; omega) a _).mono ?_
    rintro e wc8 ⟨rfl, hb⟩
    rw [HN.out]
    unfold nout
    simp only
    replace R := Lib.hid (R.out.below hb)
    replace D := Lib.hid (D.out.below hb)
    have Zc0 := hb.size
    clear hb
    go_wp2_with fail
    refine hK.out _ _ (by exact ⟨R.out.c0, R.out.c1⟩) (fun hHeld => ?_)
    clear hK K
    try simp only [Act.put, List.setIfInBounds_toArray, List.set_cons_zero, List.set_cons_succ, List.getElem_toArray, List.getElem_cons_zero, List.getElem_cons_succ]
    refine wpAnyH_ready (rs := [9]) (by kernel_rfl) (by simp) ?_
    refine AllReadyH.cons rfl (fun K hK => ?_) AllReadyH.nil
    go_simp
    have hb := step_alloc wc8 (.cells #[.int .i64 0, .int .i64 0, .int .i64 0] 126)
    replace R := Lib.hid (R.out.below hb)
    replace D := Lib.hid (D.out.below hb)
    clear hb
    have NV := Lib.hid (New3.new wc8 (.int .i64 0) (.int .i64 0) (.int .i64 0) 126)
    have Za : wc8.heap.size < (wc8.alloc (.cells #[.int .i64 0, .int .i64 0, .int .i64 0] 126)).heap.size := by simp
    obtain ⟨gb, hgb⟩ : ∃ gb, gb = wc8.heap.size := ⟨_, rfl⟩
    have Qa : wc8.heap.size ≤ gb := by omega
    have Qb : gb < (wc8.alloc (.cells #[.int .i64 0, .int .i64 0, .int .i64 0] 126)).heap.size := by omega
    rw [← hgb] at NV ⊢
    clear hgb
    generalize wc8.alloc (.cells #[.int .i64 0, .int .i64 0, .int .i64 0] 126) = wa at NV Za Qb R D ⊢
    refine hK.out _ _ (by exact ⟨R.out.c0, R.out.c1⟩) (fun hHeld => ?_)
    clear hK K
    try simp only [Act.put, List.setIfInBounds_toArray, List.set_cons_zero, List.set_cons_succ, List.getElem_toArray, List.getElem_cons_zero, List.getElem_cons_succ]
    obtain ⟨nv0, nv1, nv2, nf0, nf1, nf2, nl⟩ := NV.out
    refine wpAnyH_ready (rs := [10]) (by kernel_rfl) (by simp) ?_
    refine AllReadyH.cons rfl (fun K hK => ?_) AllReadyH.nil
    go_simp
    have hw := (((Within.refl gb (gb + 1) wa).setCell (p := ⟨gb, 0, none⟩) (Nat.le_refl _) (Nat.lt_succ_self _) (.int .i64 (0))).setCell (p := ⟨gb, 1, none⟩) (Nat.le_refl _) (Nat.lt_succ_self _) (.int .i64 (0))).setCell (p := ⟨gb, 2, none⟩) (Nat.le_refl _) (Nat.lt_succ_self _) (.int .i64 (c))
    have V := Lib.hid (NV.out.store (.int .i64 (0)) (.int .i64 (0)) (.int .i64 (c)))
    replace R := Lib.hid (R.out.within hw (by omega))
    replace D := Lib.hid (D.out.within hw (by omega))
    have Zs : wa.heap.size ≤ (World.setCell (World.setCell (World.setCell wa ⟨gb, 0, none⟩ (.int .i64 (0))) ⟨gb, 1, none⟩ (.int .i64 (0))) ⟨gb, 2, none⟩ (.int .i64 (c))).heap.size := hw.size
    clear hw NV nv0 nv1 nv2 nf0 nf1 nf2 nl
    generalize (World.setCell (World.setCell (World.setCell wa ⟨gb, 0, none⟩ (.int .i64 (0))) ⟨gb, 1, none⟩ (.int .i64 (0))) ⟨gb, 2, none⟩ (.int .i64 (c))) = wz at V Zs R D ⊢
    refine hK.out _ _ (by exact ⟨R.out.c0, R.out.c1⟩) (fun hHeld => ?_)
    clear hK K
    try simp only [Act.put, List.setIfInBounds_toArray, List.set_cons_zero, List.set_cons_succ, List.getElem_toArray, List.getElem_cons_zero, List.getElem_cons_succ]
    refine wpAnyH_done (by kernel_rfl) ?_ _
    obtain ⟨v0, v1, v2, vl⟩ := V.out
    obtain ⟨r0, r1, r2, rf1, rf2, rl⟩ := R.out
    have hc1 : (c == 0) = false := by simpa using hc
    have hc2 : (c != 0) = true := by simpa using hc
    go_wp2
    go_ret
    exact ⟨rfl, R.out.setBad true, (within_of D.out).setCell (p := ⟨g, 2, none⟩) (Nat.le_refl _) (Nat.lt_succ_self _) _⟩
  refine AllReadyH.cons rfl (fun K hK => ?_) AllReadyH.nil
  go_simp
  have hb := step_alloc wd (.cells #[.int .i64 0, .int .i64 0, .int .i64 0] 126)
  replace R := Lib.hid (R.out.below hb)
  replace D := Lib.hid (D.out.below hb)
  clear hb
  have NV := Lib.hid (New3.new wd (.int .i64 0) (.int .i64 0) (.int .i64 0) 126)
  have Za : wd.heap.size < (wd.alloc (.cells #[.int .i64 0, .int .i64 0, .int .i64 0] 126)).heap.size := by simp
  obtain ⟨gb, hgb⟩ : ∃ gb, gb = wd.heap.size := ⟨_, rfl⟩
  have Qa : wd.heap.size ≤ gb := by omega
  have Qb : gb < (wd.alloc (.cells #[.int .i64 0, .int .i64 0, .int .i64 0] 126)).heap.size := by omega
  rw [← hgb] at NV ⊢
  clear hgb
  generalize wd.alloc (.cells #[.int .i64 0, .int .i64 0, .int .i64 0] 126) = wa at NV Za Qb R D ⊢
  refine hK.out _ _ (by exact ⟨R.out.c0, R.out.c1⟩) (fun hHeld => ?_)
  clear hK K
  try simp only [Act.put, List.setIfInBounds_toArray, List.set_cons_zero, List.set_cons_succ, List.getElem_toArray, List.getElem_cons_zero, List.getElem_cons_succ]
  refine wpAnyH_ready (rs := [8]) (by kernel_rfl) (by simp) ?_
  refine AllReadyH.cons rfl (fun K hK => ?_) AllReadyH.nil
  go_simp
  go_at_call 76
  refine (spec_GetNum s (by unfold maxLen; omega) a _).mono ?_
  rintro e wc8 ⟨rfl, hb⟩
  rw [HN.out]
  unfold nout
  simp only
  replace R := Lib.hid (R.out.below hb)
  replace D := Lib.hid (D.out.below hb)
  replace NV := Lib.hid (NV.out.below hb)
  have Zc0 := hb.size
  clear hb
  go_wp2_with fail
  refine hK.out _ _ (by exact ⟨R.out.c0, R.out.c1⟩) (fun hHeld => ?_)
  clear hK K
  try simp only [Act.put, List.setIfInBounds_toArray, List.set_cons_zero, List.set_cons_succ, List.getElem_toArray, List.getElem_cons_zero, List.getElem_cons_succ]
  obtain ⟨nv0, nv1, nv2, nf0, nf1, nf2, nl⟩ := NV.out
  refine wpAnyH_ready (rs := [10]) (by kernel_rfl) (by simp) ?_
  refine AllReadyH.cons rfl (fun K hK => ?_) AllReadyH.nil
  go_simp
  have hw := (((Within.refl gb (gb + 1) wc8).setCell (p := ⟨gb, 0, none⟩) (Nat.le_refl _) (Nat.lt_succ_self _) (.int .i64 (0))).setCell (p := ⟨gb, 1, none⟩) (Nat.le_refl _) (Nat.lt_succ_self _) (.int .i64 (0))).setCell (p := ⟨gb, 2, none⟩) (Nat.le_refl _) (Nat.lt_succ_self _) (.int .i64 (c))
  have V := Lib.hid (NV.out.store (.int .i64 (0)) (.int .i64 (0)) (.int .i64 (c)))
  replace R := Lib.hid (R.out.within hw (by omega))
  replace D := Lib.hid (D.out.within hw (by omega))
  have Zs : wc8.heap.size ≤ (World.setCell (World.setCell (World.setCell wc8 ⟨gb, 0, none⟩ (.int .i64 (0))) ⟨gb, 1, none⟩ (.int .i64 (0))) ⟨gb, 2, none⟩ (.int .i64 (c))).heap.size := hw.size
  clear hw NV nv0 nv1 nv2 nf0 nf1 nf2 nl
  generalize (World.setCell (World.setCell (World.setCell wc8 ⟨gb, 0, none⟩ (.int .i64 (0))) ⟨gb, 1, none⟩ (.int .i64 (0))) ⟨gb, 2, none⟩ (.int .i64 (c))) = wz at V Zs R D ⊢
  refine hK.out _ _ (by exact ⟨R.out.c0, R.out.c1⟩) (fun hHeld => ?_)
  clear hK K
  try simp only [Act.put, List.setIfInBounds_toArray, List.set_cons_zero, List.set_cons_succ, List.getElem_toArray, List.getElem_cons_zero, List.getElem_cons_succ]
  refine wpAnyH_done (by kernel_rfl) ?_ _
  obtain ⟨v0, v1, v2, vl⟩ := V.out
  obtain ⟨r0, r1, r2, rf1, rf2, rl⟩ := R.out
  have hc1 : (c == 0) = false := by simpa using hc
  have hc2 : (c != 0) = true := by simpa using hc
  go_wp2
  go_ret
  exact ⟨rfl, R.out.setBad true, (within_of D.out).setCell (p := ⟨g, 2, none⟩) (Nat.le_refl _) (Nat.lt_succ_self _) _⟩

set_option maxRecDepth 100000 in
set_option maxHeartbeats 2000000 in
theorem num_was (g : Nat) (s : ByteArray) (a n a1 c : Int) (w : World) (hs : s.size ≤ 8000) (hn : readN s a = (n, a1, c)) (h : Rd w g s a true) :
    Calls Tryd.prog 78 #[.pointer (some ⟨g, 0, none⟩)] w (Reads w g s 0 a true) := by
  have HN := Lib.hid (show getN s a = (n, a1, c) by rw [getN_small hs]; exact hn)
  have R := Lib.hid h
  have hg := h.lt
  have D := Lib.hid (show Base w w from Below.refl _ _)
  clear h hn
  go_enter Tryd.func78, Tryd.ntmps78
  go_wp2_with fail
  have hb := step_drew w
  replace R := Lib.hid (R.out.below hb)
  replace D := Lib.hid (D.out.below hb)
  clear hb
  refine wp_region_held_drew (S := (fun w' => w'.cell? ⟨g, 0, none⟩ = some (.string s) ∧ w'.cell? ⟨g, 1, none⟩ = some (.int .i64 a))) (by kernel_rfl) (by exact ⟨R.out.c0, R.out.c1⟩) (fun hHeld => ?_)
  have Zd : w.heap.size ≤ w.drew.heap.size := Nat.le_refl _
  generalize w.drew = wd at Zd hHeld R D ⊢
  refine wpAnyH_take (i := 0) (v := ?_) rfl (by kernel_rfl) (by kernel_rfl) (by kernel_rfl) (fun _ _ _ h => h) (Or.inl ⟨by rfl, fun w hSw => by (try dsimp only at hSw); go_simp; (try with_reducible rfl)⟩) (by assumption) ?_
  try simp only [Act.put, List.setIfInBounds_toArray, List.set_cons_zero, List.set_cons_succ, List.getElem_toArray, List.getElem_cons_zero, List.getElem_cons_succ]
  refine wpAnyH_take (i := 1) (v := ?_) rfl (by kernel_rfl) (by kernel_rfl) (by kernel_rfl) (fun _ _ _ h => h) (Or.inl ⟨by rfl, fun w hSw => by (try dsimp only at hSw); go_simp; (try with_reducible rfl)⟩) (by assumption) ?_
  try simp only [Act.put, List.setIfInBounds_toArray, List.set_cons_zero, List.set_cons_succ, List.getElem_toArray, List.getElem_cons_zero, List.getElem_cons_succ]
  refine wpAnyH_take (i := 2) (v := ?_) rfl (by kernel_rfl) (by kernel_rfl) (by kernel_rfl) (fun _ _ _ h => h) (Or.inl ⟨by rfl, fun w hSw => by (try dsimp only at hSw); go_simp; (try with_reducible rfl)⟩) (by assumption) ?_
  try simp only [Act.put, List.setIfInBounds_toArray, List.set_cons_zero, List.set_cons_succ, List.getElem_toArray, List.getElem_cons_zero, List.getElem_cons_succ]
  refine wpAnyH_take (i := 3) (v := ?_) rfl (by kernel_rfl) (by kernel_rfl) (by kernel_rfl) (fun _ _ _ h => h) (Or.inl ⟨by rfl, fun w hSw => by (try dsimp only at hSw); go_simp; (try with_reducible rfl)⟩) (by assumption) ?_
  try simp only [Act.put, List.setIfInBounds_toArray, List.set_cons_zero, List.set_cons_succ, List.getElem_toArray, List.getElem_cons_zero, List.getElem_cons_succ]
  refine wpAnyH_take (i := 4) (v := ?_) rfl (by kernel_rfl) (by kernel_rfl) (by kernel_rfl) (fun _ _ _ h => h) (Or.inl ⟨by rfl, fun w hSw => by (try dsimp only at hSw); go_simp; (try with_reducible rfl)⟩) (by assumption) ?_
  try simp only [Act.put, List.setIfInBounds_toArray, List.set_cons_zero, List.set_cons_succ, List.getElem_toArray, List.getElem_cons_zero, List.getElem_cons_succ]
  refine wpAnyH_take (i := 5) (v := ?_) rfl (by kernel_rfl) (by kernel_rfl) (by kernel_rfl) (fun _ _ _ h => h) (Or.inl ⟨by rfl, fun w hSw => by (try dsimp only at hSw); go_simp; (try with_reducible rfl)⟩) (by assumption) ?_
  try simp only [Act.put, List.setIfInBounds_toArray, List.set_cons_zero, List.set_cons_succ, List.getElem_toArray, List.getElem_cons_zero, List.getElem_cons_succ]
  refine wpAnyH_take (i := 6) (v := ?_) rfl (by kernel_rfl) (by kernel_rfl) (by kernel_rfl) (fun _ _ _ h => h) (Or.inl ⟨by rfl, fun w hSw => by (try dsimp only at hSw); go_simp; (try with_reducible rfl)⟩) (by assumption) ?_
  try simp only [Act.put, List.setIfInBounds_toArray, List.set_cons_zero, List.set_cons_succ, List.getElem_toArray, List.getElem_cons_zero, List.getElem_cons_succ]
  refine wpAnyH_take (i := 7) (v := ?_) rfl (by kernel_rfl) (by kernel_rfl) (by kernel_rfl) (fun _ _ _ h => h) (Or.inl ⟨by rfl, fun w hSw => by (try dsimp only at hSw); go_simp; (try with_reducible rfl)⟩) (by assumption) ?_
  try simp only [Act.put, List.setIfInBounds_toArray, List.set_cons_zero, List.set_cons_succ, List.getElem_toArray, List.getElem_cons_zero, List.getElem_cons_succ]
  refine wpAnyH_ready (rs := [8, 9]) (by kernel_rfl) (by simp) ?_
  refine AllReadyH.cons rfl (fun K hK => ?_) ?_
  · go_simp
    go_at_call 76
    refine (spec_GetNum s (by unfold maxLen; omega) a _).mono ?_
    rintro e wc8 ⟨rfl, hb⟩
    rw [HN.out]
    unfold nout
    simp only
    replace R := Lib.hid (R.out.below hb)
    replace D := Lib.hid (D.out.below hb)
    have Zc0 := hb.size
    clear hb
    go_wp2_with fail
    refine hK.out _ _ (by exact ⟨R.out.c0, R.out.c1⟩) (fun hHeld => ?_)
    clear hK K
    try simp only [Act.put, List.setIfInBounds_toArray, List.set_cons_zero, List.set_cons_succ, List.getElem_toArray, List.getElem_cons_zero, List.getElem_cons_succ]
    refine wpAnyH_ready (rs := [9]) (by kernel_rfl) (by simp) ?_
    refine AllReadyH.cons rfl (fun K hK => ?_) AllReadyH.nil
    go_simp
    have hb := step_alloc wc8 (.cells #[.int .i64 0, .int .i64 0, .int .i64 0] 126)
    replace R := Lib.hid (R.out.below hb)
    replace D := Lib.hid (D.out.below hb)
    clear hb
    have NV := Lib.hid (New3.new wc8 (.int .i64 0) (.int .i64 0) (.int .i64 0) 126)
    have Za : wc8.heap.size < (wc8.alloc (.cells #[.int .i64 0, .int .i64 0, .int .i64 0] 126)).heap.size := by simp
    obtain ⟨gb, hgb⟩ : ∃ gb, gb = wc8.heap.size := ⟨_, rfl⟩
    have Qa : wc8.heap.size ≤ gb := by omega
    have Qb : gb < (wc8.alloc (.cells #[.int .i64 0, .int .i64 0, .int .i64 0] 126)).heap.size := by omega
    rw [← hgb] at NV ⊢
    clear hgb
    generalize wc8.alloc (.cells #[.int .i64 0, .int .i64 0, .int .i64 0] 126) = wa at NV Za Qb R D ⊢
    refine hK.out _ _ (by exact ⟨R.out.c0, R.out.c1⟩) (fun hHeld => ?_)
    clear hK K
    try simp only [Act.put, List.setIfInBounds_toArray, List.set_cons_zero, List.set_cons_succ, List.getElem_toArray, List.getElem_cons_zero, List.getElem_cons_succ]
    obtain ⟨nv0, nv1, nv2, nf0, nf1, nf2, nl⟩ := NV.out
    refine wpAnyH_ready (rs := [10]) (by kernel_rfl) (by simp) ?_
    refine AllReadyH.cons rfl (fun K hK => ?_) AllReadyH.nil
    go_simp
    have hw := (((Within.refl gb (gb + 1) wa).setCell (p := ⟨gb, 0, none⟩) (Nat.le_refl _) (Nat.lt_succ_self _) (.int .i64 (n))).setCell (p := ⟨gb, 1, none⟩) (Nat.le_refl _) (Nat.lt_succ_self _) (.int .i64 (a1))).setCell (p := ⟨gb, 2, none⟩) (Nat.le_refl _) (Nat.lt_succ_self _) (.int .i64 (c))
    have V := Lib.hid (NV.out.store (.int .i64 (n)) (.int .i64 (a1)) (.int .i64 (c)))
    replace R := Lib.hid (R.out.within hw (by omega))
    replace D := Lib.hid (D.out.within hw (by omega))
    have Zs : wa.heap.size ≤ (World.setCell (World.setCell (World.setCell wa ⟨gb, 0, none⟩ (.int .i64 (n))) ⟨gb, 1, none⟩ (.int .i64 (a1))) ⟨gb, 2, none⟩ (.int .i64 (c))).heap.size := hw.size
    clear hw NV nv0 nv1 nv2 nf0 nf1 nf2 nl
    generalize (World.setCell (World.setCell (World.setCell wa ⟨gb, 0, none⟩ (.int .i64 (n))) ⟨gb, 1, none⟩ (.int .i64 (a1))) ⟨gb, 2, none⟩ (.int .i64 (c))) = wz at V Zs R D ⊢
    refine hK.out _ _ (by exact ⟨R.out.c0, R.out.c1⟩) (fun hHeld => ?_)
    clear hK K
    try simp only [Act.put, List.setIfInBounds_toArray, List.set_cons_zero, List.set_cons_succ, List.getElem_toArray, List.getElem_cons_zero, List.getElem_cons_succ]
    refine wpAnyH_done (by kernel_rfl) ?_ _
    obtain ⟨v0, v1, v2, vl⟩ := V.out
    obtain ⟨r0, r1, r2, rf1, rf2, rl⟩ := R.out
    go_wp2
    go_ret
    exact ⟨rfl, R.out.setBad true, (within_of D.out).setCell (p := ⟨g, 2, none⟩) (Nat.le_refl _) (Nat.lt_succ_self _) _⟩
  refine AllReadyH.cons rfl (fun K hK => ?_) AllReadyH.nil
  go_simp
  have hb := step_alloc wd (.cells #[.int .i64 0, .int .i64 0, .int .i64 0] 126)
  replace R := Lib.hid (R.out.below hb)
  replace D := Lib.hid (D.out.below hb)
  clear hb
  have NV := Lib.hid (New3.new wd (.int .i64 0) (.int .i64 0) (.int .i64 0) 126)
  have Za : wd.heap.size < (wd.alloc (.cells #[.int .i64 0, .int .i64 0, .int .i64 0] 126)).heap.size := by simp
  obtain ⟨gb, hgb⟩ : ∃ gb, gb = wd.heap.size := ⟨_, rfl⟩
  have Qa : wd.heap.size ≤ gb := by omega
  have Qb : gb < (wd.alloc (.cells #[.int .i64 0, .int .i64 0, .int .i64 0] 126)).heap.size := by omega
  rw [← hgb] at NV ⊢
  clear hgb
  generalize wd.alloc (.cells #[.int .i64 0, .int .i64 0, .int .i64 0] 126) = wa at NV Za Qb R D ⊢
  refine hK.out _ _ (by exact ⟨R.out.c0, R.out.c1⟩) (fun hHeld => ?_)
  clear hK K
  try simp only [Act.put, List.setIfInBounds_toArray, List.set_cons_zero, List.set_cons_succ, List.getElem_toArray, List.getElem_cons_zero, List.getElem_cons_succ]
  refine wpAnyH_ready (rs := [8]) (by kernel_rfl) (by simp) ?_
  refine AllReadyH.cons rfl (fun K hK => ?_) AllReadyH.nil
  go_simp
  go_at_call 76
  refine (spec_GetNum s (by unfold maxLen; omega) a _).mono ?_
  rintro e wc8 ⟨rfl, hb⟩
  rw [HN.out]
  unfold nout
  simp only
  replace R := Lib.hid (R.out.below hb)
  replace D := Lib.hid (D.out.below hb)
  replace NV := Lib.hid (NV.out.below hb)
  have Zc0 := hb.size
  clear hb
  go_wp2_with fail
  refine hK.out _ _ (by exact ⟨R.out.c0, R.out.c1⟩) (fun hHeld => ?_)
  clear hK K
  try simp only [Act.put, List.setIfInBounds_toArray, List.set_cons_zero, List.set_cons_succ, List.getElem_toArray, List.getElem_cons_zero, List.getElem_cons_succ]
  obtain ⟨nv0, nv1, nv2, nf0, nf1, nf2, nl⟩ := NV.out
  refine wpAnyH_ready (rs := [10]) (by kernel_rfl) (by simp) ?_
  refine AllReadyH.cons rfl (fun K hK => ?_) AllReadyH.nil
  go_simp
  have hw := (((Within.refl gb (gb + 1) wc8).setCell (p := ⟨gb, 0, none⟩) (Nat.le_refl _) (Nat.lt_succ_self _) (.int .i64 (n))).setCell (p := ⟨gb, 1, none⟩) (Nat.le_refl _) (Nat.lt_succ_self _) (.int .i64 (a1))).setCell (p := ⟨gb, 2, none⟩) (Nat.le_refl _) (Nat.lt_succ_self _) (.int .i64 (c))
  have V := Lib.hid (NV.out.store (.int .i64 (n)) (.int .i64 (a1)) (.int .i64 (c)))
  replace R := Lib.hid (R.out.within hw (by omega))
  replace D := Lib.hid (D.out.within hw (by omega))
  have Zs : wc8.heap.size ≤ (World.setCell (World.setCell (World.setCell wc8 ⟨gb, 0, none⟩ (.int .i64 (n))) ⟨gb, 1, none⟩ (.int .i64 (a1))) ⟨gb, 2, none⟩ (.int .i64 (c))).heap.size := hw.size
  clear hw NV nv0 nv1 nv2 nf0 nf1 nf2 nl
  generalize (World.setCell (World.setCell (World.setCell wc8 ⟨gb, 0, none⟩ (.int .i64 (n))) ⟨gb, 1, none⟩ (.int .i64 (a1))) ⟨gb, 2, none⟩ (.int .i64 (c))) = wz at V Zs R D ⊢
  refine hK.out _ _ (by exact ⟨R.out.c0, R.out.c1⟩) (fun hHeld => ?_)
  clear hK K
  try simp only [Act.put, List.setIfInBounds_toArray, List.set_cons_zero, List.set_cons_succ, List.getElem_toArray, List.getElem_cons_zero, List.getElem_cons_succ]
  refine wpAnyH_done (by kernel_rfl) ?_ _
  obtain ⟨v0, v1, v2, vl⟩ := V.out
  obtain ⟨r0, r1, r2, rf1, rf2, rl⟩ := R.out
  go_wp2
  go_ret
  exact ⟨rfl, R.out.setBad true, (within_of D.out).setCell (p := ⟨g, 2, none⟩) (Nat.le_refl _) (Nat.lt_succ_self _) _⟩

set_option maxRecDepth 100000 in
theorem many_ok (g : Nat) (s : ByteArray) (a n a1 most : Int) (w : World) (hs : s.size ≤ 8000) (hn : readN s a = (n, a1, 0)) (h0 : 0 ≤ n) (h1 : n ≤ most) (h : Rd w g s a false) :
    Calls Tryd.prog 77 #[.pointer (some ⟨g, 0, none⟩), .int .i64 most] w (Reads w g s n a1 false) := by
  have HC := Lib.hid (num_ok g s a n a1 w hs hn h)
  have hi : isB n 0 most = true := by unfold isB; simp; omega
  clear h hn
  go_enter Tryd.func77, Tryd.ntmps77
  go_wp2_with fail
  refine HC.out.mono ?_
  rintro e w1 ⟨rfl, hR, hW⟩
  go_wp2_with (go_at_call 64; refine (spec_is _ _ _ _).mono ?_; rintro e w' ⟨rfl, rfl⟩)
  go_ret
  exact ⟨rfl, hR, hW⟩
set_option maxRecDepth 100000 in
theorem many_bad (g : Nat) (s : ByteArray) (a c most : Int) (w : World) (hs : s.size ≤ 8000) (hm : 0 ≤ most) (hc : c ≠ 0) (hn : readN s a = (0, 0, c)) (h : Rd w g s a false) :
    Calls Tryd.prog 77 #[.pointer (some ⟨g, 0, none⟩), .int .i64 most] w (Reads w g s 0 a true) := by
  have HC := Lib.hid (num_bad g s a c w hs hc hn h)
  have hi : isB 0 0 most = true := by unfold isB; simp; omega
  clear h hn
  go_enter Tryd.func77, Tryd.ntmps77
  go_wp2_with fail
  refine HC.out.mono ?_
  rintro e w1 ⟨rfl, hR, hW⟩
  go_wp2_with (go_at_call 64; refine (spec_is _ _ _ _).mono ?_; rintro e w' ⟨rfl, rfl⟩)
  go_ret
  exact ⟨rfl, hR, hW⟩
set_option maxRecDepth 100000 in
theorem many_range (g : Nat) (s : ByteArray) (a n a1 most : Int) (w : World) (hs : s.size ≤ 8000) (hn : readN s a = (n, a1, 0)) (h0 : ¬ (0 ≤ n ∧ n ≤ most)) (h : Rd w g s a false) :
    Calls Tryd.prog 77 #[.pointer (some ⟨g, 0, none⟩), .int .i64 most] w (Reads w g s 0 a1 true) := by
  have HC := Lib.hid (num_ok g s a n a1 w hs hn h)
  have hi : isB n 0 most = false := by
    unfold isB
    by_cases h2 : 0 ≤ n
    · simp; omega
    · simp; omega
  clear h hn
  go_enter Tryd.func77, Tryd.ntmps77
  go_wp2_with fail
  refine HC.out.mono ?_
  rintro e w1 ⟨rfl, hR, hW⟩
  have R := Lib.hid hR
  obtain ⟨r0, r1, r2, rf1, rf2, rl⟩ := hR
  go_wp2_with (go_at_call 64; refine (spec_is _ _ _ _).mono ?_; rintro e w' ⟨rfl, rfl⟩)
  go_ret
  exact ⟨rfl, R.out.setBad true, hW.setCell (p := ⟨g, 2, none⟩) (Nat.le_refl _) (Nat.lt_succ_self _) _⟩

/-- how far the reader is: l marks were read, j are to come -/
def Far (w : World) (g : Nat) (s : ByteArray) (o : Option (List (Int × Int) × Int)) (l : List (Int × Int)) (j : Nat) : Prop :=
  ∃ b, (Rd w g s b false ∧ o = addL l (readMarks s j b)) ∨ (Rd w g s b true ∧ o = none)
/-- what seen leaves -/
def Seens (w : World) (g : Nat) (s : ByteArray) (o : Option (List (Int × Int) × Int)) (e : Ending) (w' : World) : Prop :=
  Within g (g + 1) w w' ∧ ((∃ l at_ a cap, o = some (l, at_) ∧ e = .returned (.slice a (List.length l) cap) ∧ OwnIn w' w.heap.size w'.heap.size a l ∧ Rd w' g s at_ false) ∨ (o = none ∧ ∃ v a', e = .returned v ∧ Rd w' g s a' true ∧ ∃ qa n cap, v = .slice qa n cap))

/-- one round: two numbers, a mark appended -/
def Round (w wr : World) (g : Nat) (s : ByteArray) (o : Option (List (Int × Int) × Int)) (l : List (Int × Int)) (j : Nat) (v : Value) : Prop :=
  wr.ownsRow w.heap.size 64 2 v l.length (flat l) ∧ Far wr g s o l j ∧ Within g (g + 1) w wr ∧ l.length + j ≤ 5
theorem size_setCell (w : World) (p : Addr) (u : Value) : (w.setCell p u).heap.size = w.heap.size := by simp [World.setCell]

set_option maxRecDepth 100000 in
set_option maxHeartbeats 4000000 in
theorem spec_seen (g : Nat) (s : ByteArray) (a : Int) (w : World) (hs : s.size ≤ 8000) (h : Rd w g s a false) :
    Calls Tryd.prog 59 #[.pointer (some ⟨g, 0, none⟩)] w (Seens w g s (parse s a)) := by
  have hg := h.lt
  have R := Lib.hid (h.below (step_alloc w (.cells #[] 64)))
  have O0 := Lib.hid (World.ownsRow_made (e := 64) (size := 2) w #[] 0 (Nat.le_refl _) (by unfold maxLen; omega) rfl)
  clear h
  -- the count
  have start : ∃ (n : Int) (a1 : Int) (b : Bool), Calls Tryd.prog 77 #[.pointer (some ⟨g, 0, none⟩), .int .i64 5] (w.alloc (.cells #[] 64)) (Reads (w.alloc (.cells #[] 64)) g s n a1 b) ∧
      ∃ j : Nat, n = j ∧ j ≤ 5 ∧ ((b = false ∧ parse s a = addL [] (readMarks s j a1)) ∨ (b = true ∧ parse s a = none)) := by
    by_cases hc : (readN s a).2.2 ≠ 0
    · obtain ⟨c, hc0, hr⟩ := readN_bad s a hc
      exact ⟨0, a, true, many_bad g s a c 5 _ hs (by omega) hc0 hr R.out, 0, rfl, by omega, .inr ⟨rfl, if_neg fun d => hc d.1⟩⟩
    obtain ⟨c, a1, z, hr⟩ : ∃ c a1 z, readN s a = (c, a1, z) := ⟨_, _, _, rfl⟩
    obtain rfl : z = 0 := by rw [hr] at hc; simpa using hc
    by_cases hrange : 0 ≤ c ∧ c ≤ 5
    · obtain ⟨n, rfl⟩ : ∃ n : Nat, c = n := ⟨c.toNat, by omega⟩
      refine ⟨n, a1, false, many_ok g s a n a1 5 _ hs hr (by omega) (by omega) R.out, n, rfl, by omega, .inl ⟨rfl, ?_⟩⟩
      rw [addL_nil]; unfold parse; rw [hr]; simp only; rw [if_pos ⟨trivial, hrange⟩]; simp
    · refine ⟨0, a1, true, many_range g s a c a1 5 _ hs hr hrange R.out, 0, rfl, by omega, .inr ⟨rfl, ?_⟩⟩
      unfold parse; rw [hr]; exact if_neg fun d => hrange d.2
  obtain ⟨n, a1, b, hcall, j, rfl, hj5, hfar⟩ := start
  have HC := Lib.hid hcall
  have HF := Lib.hid hfar
  clear hcall hfar
  go_enter Tryd.func59, Tryd.ntmps59
  go_wp2_with fail
  refine HC.out.mono ?_
  rintro e w1 ⟨rfl, hR1, hW1⟩
  have R1 := Lib.hid hR1
  have W1 := Lib.hid (show Within g (g + 1) w w1 from (within_of (step_alloc w (.cells #[] 64))).trans hW1)
  have O1 := Lib.hid (own_within O0.out hW1 (by omega))
  clear hR1 hW1
  go_wp2
  go_loopw [3, 4] (fun v i wr => ∃ (l : List (Int × Int)) (k : Nat), i = .int .i64 k ∧ Round w wr g s (parse s a) l k v) (fun _ i _ => (intOf i).toNat)
  case atStart =>
    refine ⟨[], j, rfl, O1.out, ⟨a1, ?_⟩, W1.out, by simpa using hj5⟩
    rcases HF.out with ⟨hb, hp⟩ | ⟨hb, hp⟩
    · exact .inl ⟨by rw [← hb]; exact R1.out, hp⟩
    · exact .inr ⟨by rw [← hb]; exact R1.out, hp⟩
  case round =>
    obtain ⟨l, k, rfl, hown, ⟨b, hfar⟩, hW, hlen⟩ := hrel
    have O := Lib.hid hown
    have WW := Lib.hid hW
    have HL := Lib.hid hlen
    have hz := hW.size
    clear hown hW hlen
    rcases hfar with ⟨hR, hp⟩ | ⟨hR, hp⟩
    · have R := Lib.hid hR
      have HP := Lib.hid hp
      clear hp
      obtain ⟨r0, r1, r2, rf1, rf2, rl⟩ := hR
      cases k with
      | zero =>
        have hpz : parse s a = some (l, b) := by rw [HP.out]; simp [readMarks, addL]
        have HPZ := Lib.hid hpz
        clear hpz
        go_wp2
        go_ret
        obtain ⟨qa, cap, rfl, ho⟩ := own_row O.out
        exact ⟨WW.out, .inl ⟨l, b, qa, cap, HPZ.out, rfl, ho, R.out⟩⟩
      | succ k =>
        have hk1 : (0 : Int) < ((k + 1 : Nat) : Int) := by omega
        have hk5 : k ≤ 5 := by have := HL.out; omega
        have hstep : ∃ (x : Int) (b1 : Int) (z1 : Bool) (y b2 : Int) (z2 : Bool), Calls Tryd.prog 78 #[.pointer (some ⟨g, 0, none⟩)] wr (Reads wr g s x b1 z1) ∧
            (∀ W, Rd W g s b1 z1 → Calls Tryd.prog 78 #[.pointer (some ⟨g, 0, none⟩)] W (Reads W g s y b2 z2)) ∧
            ((z2 = false ∧ parse s a = addL (l ++ [(x, y)]) (readMarks s k b2)) ∨ (z2 = true ∧ parse s a = none)) := by
          by_cases hb1 : (readN s b).2.2 ≠ 0
          · obtain ⟨c, hc0, hr⟩ := readN_bad s b hb1
            exact ⟨0, b, true, 0, b, true, num_bad g s b c _ hs hc0 hr R.out, fun W hW => num_was g s b 0 0 c W hs hr hW, .inr ⟨rfl, HP.out.trans (readMarks_bad1 hb1 _)⟩⟩
          obtain ⟨x, b1, z, hr⟩ : ∃ x b1 z, readN s b = (x, b1, z) := ⟨_, _, _, rfl⟩
          obtain rfl : z = 0 := by rw [hr] at hb1; simpa using hb1
          by_cases hb2 : (readN s b1).2.2 ≠ 0
          · obtain ⟨c, hc0, hr2⟩ := readN_bad s b1 hb2
            exact ⟨x, b1, false, 0, b1, true, num_ok g s b x b1 _ hs hr R.out, fun W hW => num_bad g s b1 c W hs hc0 hr2 hW, .inr ⟨rfl, HP.out.trans (readMarks_bad2 hr hb2 _)⟩⟩
          obtain ⟨y, b2, z, hr2⟩ : ∃ y b2 z, readN s b1 = (y, b2, z) := ⟨_, _, _, rfl⟩
          obtain rfl : z = 0 := by rw [hr2] at hb2; simpa using hb2
          exact ⟨x, b1, false, y, b2, false, num_ok g s b x b1 _ hs hr R.out, fun W hW => num_ok g s b1 y b2 W hs hr2 hW, .inl ⟨rfl, HP.out.trans (readMarks_step hr hr2 _)⟩⟩
        obtain ⟨x, b1, z1, y, b2, z2, hc1, hc2, hnext⟩ := hstep
        have C1 := Lib.hid hc1
        have C2 := Lib.hid hc2
        have HX := Lib.hid hnext
        clear hc1 hc2 hnext
        go_wp2_with fail
        refine C1.out.mono ?_
        rintro e w2 ⟨rfl, hR2, hW2⟩
        have O2 := Lib.hid (own_within O.out hW2 (by omega))
        have W2 := Lib.hid (WW.out.trans hW2)
        have R2 := Lib.hid (hR2.below (step_alloc w2 (.cells #[.int .i64 x, .int .i64 0] 64)))
        have z2s := hW2.size
        clear r0 r1 r2 rf1 rf2 rl hR2 hW2
        have N2 := Lib.hid (New2.new w2 (.int .i64 x) (.int .i64 0) 64)
        have HN := Lib.hid (fun q (hq : _ = some q) => (O2.out.lt q hq).2)
        go_wp2_with fail
        refine (C2.out _ R2.out).mono ?_
        rintro e w3 ⟨rfl, hR3, hW3⟩
        have hgm : g + 1 ≤ w2.heap.size := by omega
        have N3 := Lib.hid (N2.out.within hW3 (Or.inr hgm))
        have O3 := Lib.hid (own_within (O2.out.alloc (.cells #[.int .i64 x, .int .i64 0] 64)) hW3 (by omega))
        have W3 := Lib.hid ((show Within g (g + 1) w (w2.alloc (.cells #[.int .i64 x, .int .i64 0] 64)) from W2.out.trans (within_of (step_alloc w2 _))).trans hW3)
        have R3 := Lib.hid (hR3.within ((Within.refl w2.heap.size (w2.heap.size + 1) w3).setCell (p := ⟨w2.heap.size, 1, none⟩) (Nat.le_refl _) (Nat.lt_succ_self _) (.int .i64 y)) (Or.inl (by omega)))
        have O4 := Lib.hid (own_same (w' := w3.setCell ⟨w2.heap.size, 1, none⟩ (.int .i64 y)) O3.out (fun q hq => Below.heap_setCell _ _ _ _ (by have := HN.out q hq; simp only; omega)))
        have z3s := hW3.size
        have z4s : w2.heap.size < w3.heap.size := by simp at z3s; omega
        clear hR3 hW3
        obtain ⟨n0, n1, nf0, nf1, nlt⟩ := N3.out
        go_wp2_with (at_builtin; refine wpList_append_mark _ rfl _ _ rfl w.heap.size _ l (x, y) (by rfl) w3.heap.size (by simp [World.setCell]) (by rfl) O4.out (by have := HL.out; omega) (by rw [size_setCell]; omega) ?_; intro v' w5 ho5 hb5)
        have O5 := Lib.hid ho5
        have R5 := Lib.hid (R3.out.same (hb5.block g (by omega)) hb5.size)
        have W5 := Lib.hid (show Within g (g + 1) w w5 from
          ⟨hb5.os.trans W3.out.os, hb5.tape.trans W3.out.tape, hb5.output.trans W3.out.output, by have := hb5.size; rw [size_setCell] at this; omega,
            fun q hq ho => (hb5.block q hq).trans ((Below.heap_setCell _ _ _ _ (by simp only; omega)).trans (W3.out.block q hq ho))⟩)
        clear ho5 hb5 n0 n1 nf0 nf1 nlt
        go_wp2
        go_roundw
        case rel =>
          refine ⟨l ++ [(x, y)], k, by go_num, O5.out, ⟨b2, ?_⟩, W5.out, by have := HL.out; simp; omega⟩
          rcases HX.out with ⟨hb, hp⟩ | ⟨hb, hp⟩
          · exact .inl ⟨by rw [← hb]; exact R5.out, hp⟩
          · exact .inr ⟨by rw [← hb]; exact R5.out, hp⟩
        case measure => go_light; simp [intOf]
    · have R := Lib.hid hR
      have HP := Lib.hid hp
      clear hp
      obtain ⟨r0, r1, r2, rf1, rf2, rl⟩ := hR
      have hk2 : k = 0 ∨ (0 : Int) < (k : Int) := by omega
      rcases hk2 with rfl | hk2
      all_goals
        go_wp2
        all_goals go_ret
        all_goals obtain ⟨qa, cap, rfl, ho⟩ := own_row O.out
        all_goals exact ⟨WW.out, .inr ⟨HP.out, _, b, rfl, R.out, qa, _, cap, rfl⟩⟩

theorem list_ne' {a b : ByteArray} (h : ¬ a = b) : (a.toList == b.toList) = false := by
  rw [ByteArray.toList_eq, ByteArray.toList_eq]
  apply beq_false_of_ne
  intro e
  apply h
  apply ByteArray.ext
  exact Array.toList_inj.1 e
theorem toList_ne {a : ByteArray} (h : a.size ≠ 0) : ¬ a.toList = [] := fun e => by
  rw [ByteArray.toList_eq] at e
  have h1 := congrArg List.length e
  rw [Array.length_toList] at h1
  exact h h1
theorem spec_out_of {w w' : World} {s : ByteArray} {c : Int} (h : readL s = [] ∧ readC s = c) (hb : Below w.heap.size w w') : GivesOut w (readL s) (readC s) (.returned (.agg #[.slice none 0 0, .int .i64 c])) w' := by
  rw [h.1, h.2]; exact ⟨none, 0, rfl, .inl rfl, hb⟩
theorem base_within {w0 w w' : World} {lo hi : Nat} (h : Below w0.heap.size w0 w) (hw : Within lo hi w w') (hl : w0.heap.size ≤ lo) : Below w0.heap.size w0 w' := h.trans (hw.below hl h.size)

set_option maxRecDepth 100000 in
set_option maxHeartbeats 2000000 in
theorem spec_seenRead (s : ByteArray) (w : World) (hs : s.size ≤ maxLen) : Calls Tryd.prog 35 #[.string s] w (GivesOut w (readL s) (readC s)) := by
  by_cases h8 : 8000 < s.size
  · have HX := Lib.hid (read_size h8)
    unfold maxLen at hs
    go_enter Tryd.func35, Tryd.ntmps35
    go_wp2
    exact bodyPost_ret (v := .agg #[.slice none 0 0, .int .i64 2]) (by simp [results, Tryd.results35, go_sem]) rfl (spec_out_of HX.out ((Below.refl _ _).alloc (Nat.le_refl _) _))
  have d1 : decide (8000 < (s.size : Int)) = false := by simp; omega
  have esz : (w.alloc (.cells #[.slice none 0 0, .int .i64 0] 30)).heap.size = w.heap.size + 1 := by simp
  have hR0 := Rd.new (w.alloc (.cells #[.slice none 0 0, .int .i64 0] 30)) s 61
  rw [esz] at hR0
  clear esz
  have R0 := Lib.hid hR0
  clear hR0
  go_enter Tryd.func35, Tryd.ntmps35
  go_wp2_with fail
  refine (spec_seen (w.heap.size + 1) s 0 _ (by omega) R0.out).mono ?_
  rintro e w1 ⟨hW, h⟩
  have N := Lib.hid (((New2.new w (.slice none 0 0) (.int .i64 0) 30).below (step_alloc _ (.cells #[.string s, .int .i64 0, .bool false] 61))).within hW (Or.inl (by omega)))
  obtain ⟨c0, c1, f0, f1, lt⟩ := N.out
  have HB := Lib.hid (base_within (w0 := w) (((Below.refl _ w).alloc (Nat.le_refl _) (.cells #[.slice none 0 0, .int .i64 0] 30)).alloc (by simp) (.cells #[.string s, .int .i64 0, .bool false] 61)) hW (by omega))
  rcases h with ⟨l, at_, a, cap, hsome, rfl, ho, hR⟩ | ⟨hnone, v, a', rfl, hR, -⟩
  · have HO := Lib.hid (ho.wide (lo' := w.heap.size + 1) (by simp) (Nat.le_refl _))
    have HP := Lib.hid hsome
    obtain ⟨r0, r1, r2, rf1, rf2, rl⟩ := hR
    have hpos := parse_pos hsome
    have hl5 : l.length ≤ maxLen := by
      have h2 := (parse_at (a := 0) hsome).1.1
      unfold seenB at h2
      have h3 : ∀ (l : List (Int × Int)), l.length ≤ (l.flatMap markB).length := by
        intro l
        induction l with
        | nil => simp
        | cons x r ih => rw [List.flatMap_cons, List.length_append, List.length_cons]; have := markB_len x.1 x.2; have := Nu.enc_pos (Nu.fold x.1); show r.length + 1 ≤ (markB (x.1, x.2)).length + _; omega
      have h4 := h3 l
      rw [List.length_append] at h2
      unfold maxLen; omega
    have hne : s ≠ ⟨#[]⟩ := fun h => hpos (by rw [h]; rfl)
    have hne2 : ¬ s.toList = [] := toList_ne hpos
    have hne3 : s.toList.isEmpty = false := by simpa using hne2
    have HL := Lib.hid hl5
    clear ho hsome hW hpos hl5
    by_cases he : bytesV l = s
    · obtain ⟨hr, hat⟩ := read_back HP.out he (fun h => hne (by rw [← he] at h ⊢; exact ByteArray.ext (Array.eq_empty_of_size_eq_zero h)))
      have HX := Lib.hid (read_yes h8 (seenAt_some HP.out hr) hat)
      clear hr hat
      go_wp2_with fail
      refine (spec_seenBytes a cap l _ HL.out HO.out.at_).mono ?_
      rintro e w2 ⟨rfl, hb2⟩
      rw [he]
      have N2 := Lib.hid (N.out.below hb2)
      clear c0 c1 f0 f1 lt r0 r1 r2 rf1 rf2 rl
      obtain ⟨c0, c1, f0, f1, lt⟩ := N2.out
      have HB2 := Lib.hid (HB.out.trans (hb2.mono HB.out.size))
      have HO2 := Lib.hid ((HO.out.same (Same.of_below hb2 (Nat.le_refl _))).wide (Nat.le_refl _) hb2.size)
      clear hb2
      go_wp2
      refine bodyPost_ret (v := .agg #[.slice a l.length cap, .int .i64 0]) (by simp [results, Tryd.results35, go_sem, c0, c1, f0, f1]) rfl ?_
      rw [HX.out.1, HX.out.2]
      refine ⟨a, cap, rfl, ?_, (HB2.out.setCell (Nat.le_refl _) _).setCell (Nat.le_refl _) _⟩
      rcases HO2.out with h0 | ⟨g, ha, h1, h2, ho⟩
      · exact .inl h0
      · refine .inr ⟨g, ha, by omega, by simpa [World.setCell] using h2, ho.same ?_⟩
        rw [Below.heap_setCell _ _ _ _ (by simp only; omega), Below.heap_setCell _ _ _ _ (by simp only; omega)]
    · have HX : Hid (readL s = [] ∧ readC s = 3) := Lib.hid (by
        cases hr : rightB l
        · exact read_none h8 (seenAt_wrong HP.out hr)
        · exact read_more h8 (seenAt_some HP.out hr) (fun hat => he (read_right HP.out hr hat)))
      have he2 := list_ne' he
      have he3 : ((bytesV l).toList != s.toList) = true := by simp [bne, he2]
      clear he
      go_wp2_with fail
      refine (spec_seenBytes a cap l _ HL.out HO.out.at_).mono ?_
      rintro e w2 ⟨rfl, hb2⟩
      have N2 := Lib.hid (N.out.below hb2)
      clear c0 c1 f0 f1 lt r0 r1 r2 rf1 rf2 rl
      obtain ⟨c0, c1, f0, f1, lt⟩ := N2.out
      have HB2 := Lib.hid (HB.out.trans (hb2.mono HB.out.size))
      clear hb2
      go_wp2
      exact bodyPost_ret (v := .agg #[.slice none 0 0, .int .i64 3]) (by simp [results, Tryd.results35, go_sem, c0, c1, f0, f1]) rfl (spec_out_of HX.out ((HB2.out.setCell (Nat.le_refl _) _).setCell (Nat.le_refl _) _))
  · have HX := Lib.hid (read_none h8 (seenAt_none hnone))
    obtain ⟨r0, r1, r2, rf1, rf2, rl⟩ := hR
    clear hnone hW
    go_wp2
    all_goals exact bodyPost_ret (v := .agg #[.slice none 0 0, .int .i64 3]) (by simp [results, Tryd.results35, go_sem, c0, c1, f0, f1]) rfl (spec_out_of HX.out ((HB.out.setCell (Nat.le_refl _) _).setCell (Nat.le_refl _) _))
end Go.Proofs.YtiaoifodaoifjaaDoor.Mk

set_option linter.unusedSimpArgs false
set_option linter.unusedVariables false
namespace Go.Proofs.YtiaoifodaoifjaaDoor.Ge
open Go.RowKit

set_option maxRecDepth 100000 in
set_option maxHeartbeats 2000000 in
theorem spec_GetText (s : ByteArray) (hs : s.size ≤ maxLen) (a : Int) (w : World) :
    Calls Tryd.prog 58 #[.string s, .int .i64 a] w fun e w' => e = .returned (tout (cutT s (getN s a))) ∧ Below w.heap.size w w' := by
  have hK := fun W => spec_GetNum s hs a W
  unfold maxLen at hs
  have hat := getN_at s a
  generalize getN s a = R at hK hat ⊢
  obtain ⟨r1, r2, r3⟩ := R
  unfold nout at hK
  simp only at hK hat
  by_cases h3 : r3 = 0
  · subst h3
    obtain ⟨m, rfl, hm⟩ := hat rfl
    have HK := Lib.hid hK
    clear hK hat
    by_cases hr : r1 < 0 ∨ 8000 < r1
    · have HX := Lib.hid (cut_range s r1 m hr)
      rcases hr with hr | hr
      all_goals
        go_enter Tryd.func58, Tryd.ntmps58
        go_wp2_with fail
        refine (HK.out _).mono ?_
        rintro e w1 ⟨rfl, hb1⟩
        obtain ⟨hcx, hfx⟩ := bcell hb1
        have hz : w.heap.size < w1.heap.size := by have := hb1.size; simp at this; omega
        have hb0 : Below w.heap.size w w1 := ((Below.refl _ w).alloc (Nat.le_refl _) _).trans (hb1.mono (by simp))
        go_wp2
        go_light
        refine bodyPost_ret (v := tout (⟨#[]⟩, 0, 3)) (by simp [results, Tryd.results58, go_sem, tout, hcx, hz]) rfl ⟨ret_val (by rw [HX.out]), ?_⟩
        exact (((hb0.setCell (Nat.le_refl _) _).setCell (Nat.le_refl _) _).setCell (Nat.le_refl _) _).alloc (by simp; omega) _
    · obtain ⟨k, rfl⟩ : ∃ k : Nat, r1 = k := ⟨r1.toNat, by omega⟩
      have hk8 : k ≤ 8000 := by omega
      have d1 : decide ((k : Int) < 0) = false := by simp
      have d2 : decide (8000 < (k : Int)) = false := by simp; omega
      clear hr
      by_cases hsh : s.size < m + k
      · have HX := Lib.hid (cut_short s k m hk8 hsh)
        have t1 : (s.size : Int) - (k : Int) < (m : Int) := by omega
        go_enter Tryd.func58, Tryd.ntmps58
        go_wp2_with fail
        refine (HK.out _).mono ?_
        rintro e w1 ⟨rfl, hb1⟩
        obtain ⟨hcx, hfx⟩ := bcell hb1
        have hz : w.heap.size < w1.heap.size := by have := hb1.size; simp at this; omega
        have hb0 : Below w.heap.size w w1 := ((Below.refl _ w).alloc (Nat.le_refl _) _).trans (hb1.mono (by simp))
        go_wp2
        go_light
        refine bodyPost_ret (v := tout (⟨#[]⟩, 0, 4)) (by simp [results, Tryd.results58, go_sem, tout, hcx, hz]) rfl ⟨ret_val (by rw [HX.out]), ?_⟩
        exact (((hb0.setCell (Nat.le_refl _) _).setCell (Nat.le_refl _) _).setCell (Nat.le_refl _) _).alloc (by simp; omega) _
      · have HX := Lib.hid (cut_ok s k m hk8 (by omega))
        have t1 : (m : Int) ≤ (s.size : Int) - (k : Int) := by omega
        have t2 : ((m : Int) + (k : Int)).toNat = m + k := by omega
        have t3 : (0 : Int) ≤ (m : Int) + (k : Int) := by omega
        have t4 : (m : Int) + (k : Int) ≤ (s.size : Int) := by omega
        have t5 : IntKind.i64.wrap ((m : Int) + (k : Int)) = (m : Int) + (k : Int) := IntWalk.i64_in _ (by omega)
        have t6 : (m : Int) ≤ (m : Int) + (k : Int) := by omega
        go_enter Tryd.func58, Tryd.ntmps58
        go_wp2_with fail
        refine (HK.out _).mono ?_
        rintro e w1 ⟨rfl, hb1⟩
        obtain ⟨hcx, hfx⟩ := bcell hb1
        have hz : w.heap.size < w1.heap.size := by have := hb1.size; simp at this; omega
        have hb0 : Below w.heap.size w w1 := ((Below.refl _ w).alloc (Nat.le_refl _) _).trans (hb1.mono (by simp))
        go_wp2
        have q0 : (w1.alloc (.cells #[.int .i64 (k : Int), .int .i64 (m : Int), .int .i64 0] 126)).cell? ⟨w1.heap.size, 0, none⟩ = some (.int .i64 (k : Int)) := by simp
        have q1 : (w1.alloc (.cells #[.int .i64 (k : Int), .int .i64 (m : Int), .int .i64 0] 126)).cell? ⟨w1.heap.size, 1, none⟩ = some (.int .i64 (m : Int)) := by simp
        have c0 : (w1.alloc (.cells #[.int .i64 (k : Int), .int .i64 (m : Int), .int .i64 0] 126)).cell? ⟨w.heap.size, 0, none⟩ = some (.string ⟨#[]⟩) := by rw [World.cell?_alloc_lt _ _ _ hz, hcx _ _ (by simp)]; simp
        have c1 : (w1.alloc (.cells #[.int .i64 (k : Int), .int .i64 (m : Int), .int .i64 0] 126)).cell? ⟨w.heap.size, 1, none⟩ = some (.int .i64 0) := by rw [World.cell?_alloc_lt _ _ _ hz, hcx _ _ (by simp)]; simp
        have c2 : (w1.alloc (.cells #[.int .i64 (k : Int), .int .i64 (m : Int), .int .i64 0] 126)).cell? ⟨w.heap.size, 2, none⟩ = some (.int .i64 0) := by rw [World.cell?_alloc_lt _ _ _ hz, hcx _ _ (by simp)]; simp
        have f0 : ∀ o, (w1.alloc (.cells #[.int .i64 (k : Int), .int .i64 (m : Int), .int .i64 0] 126)).frozen? ⟨w.heap.size, o, none⟩ = false := by intro o; rw [World.frozen?_alloc_old _ _ _ (by simp; omega), hfx _ _ (by simp)]; simp
        have hb3 := hb0.alloc hb0.size (.cells #[.int .i64 (k : Int), .int .i64 (m : Int), .int .i64 0] 126)
        generalize w1.alloc (.cells #[.int .i64 (k : Int), .int .i64 (m : Int), .int .i64 0] 126) = w3 at q0 q1 c0 c1 c2 f0 hb3 ⊢
        have g0 := f0 0
        have g1 := f0 1
        have g2 := f0 2
        clear hcx hfx hb1 hb0 f0
        go_still_tail 15, (by kernel_rfl)
        change wpList _ _ _ _ _ w3.drew
        have c0' : w3.drew.cell? ⟨w.heap.size, 0, none⟩ = some (.string ⟨#[]⟩) := c0
        have c1' : w3.drew.cell? ⟨w.heap.size, 1, none⟩ = some (.int .i64 0) := c1
        have c2' : w3.drew.cell? ⟨w.heap.size, 2, none⟩ = some (.int .i64 0) := c2
        have g0' : w3.drew.frozen? ⟨w.heap.size, 0, none⟩ = false := g0
        have g1' : w3.drew.frozen? ⟨w.heap.size, 1, none⟩ = false := g1
        have g2' : w3.drew.frozen? ⟨w.heap.size, 2, none⟩ = false := g2
        have hb4 := hb3.drew
        clear c0 c1 c2 g0 g1 g2 q0 q1 hb3
        generalize w3.drew = w4 at c0' c1' c2' g0' g1' g2' hb4 ⊢
        go_wp2
        go_light
        refine bodyPost_ret (v := tout (s.extract m (m + k), (m : Int) + (k : Int), 0)) (by simp [results, Tryd.results58, go_sem, tout, c0', c1', c2']) rfl ⟨ret_val (by rw [HX.out]), ?_⟩
        exact ((hb4.setCell (Nat.le_refl _) _).setCell (Nat.le_refl _) _).setCell (Nat.le_refl _) _
  · have HK := Lib.hid hK
    have HX := Lib.hid (cut_bad s r1 r2 r3 h3)
    have d3 : (r3 != 0) = true := by simp [h3]
    clear hK hat
    go_enter Tryd.func58, Tryd.ntmps58
    go_wp2_with fail
    refine (HK.out _).mono ?_
    rintro e w1 ⟨rfl, hb1⟩
    obtain ⟨hcx, hfx⟩ := bcell hb1
    have hz : w.heap.size < w1.heap.size := by have := hb1.size; simp at this; omega
    have hb0 : Below w.heap.size w w1 := ((Below.refl _ w).alloc (Nat.le_refl _) _).trans (hb1.mono (by simp))
    go_wp2
    go_light
    refine bodyPost_ret (v := tout (⟨#[]⟩, 0, r3)) (by simp [results, Tryd.results58, go_sem, tout, hcx, hz]) rfl ⟨ret_val (by rw [HX.out]), ?_⟩
    exact (((hb0.setCell (Nat.le_refl _) _).setCell (Nat.le_refl _) _).setCell (Nat.le_refl _) _).alloc (by simp; omega) _
end Go.Proofs.YtiaoifodaoifjaaDoor.Ge

set_option linter.unusedSimpArgs false
set_option linter.unusedVariables false
namespace Go.Proofs.YtiaoifodaoifjaaDoor.Sb
open Go.RowKit Go.Proofs.YtiaoifodaoifjaaDoor.Mk Go.Proofs.YtiaoifodaoifjaaDoor.Ge

set_option maxRecDepth 100000 in
set_option maxHeartbeats 2000000 in
theorem text_ok (g : Nat) (s : ByteArray) (a : Int) (d : ByteArray) (a1 : Int) (w : World) (hs : s.size ≤ 8000) (hn : cutT s (readN s a) = (d, a1, 0)) (h : Rd w g s a false) :
    Calls Tryd.prog 34 #[.pointer (some ⟨g, 0, none⟩)] w fun e w' => e = .returned (.string d) ∧ Rd w' g s a1 false ∧ Within g (g + 1) w w' := by
  have HN := Lib.hid (show cutT s (getN s a) = (d, a1, 0) by rw [getN_small hs]; exact hn)
  have R := Lib.hid h
  have hg := h.lt
  have D := Lib.hid (show Base w w from Below.refl _ _)
  clear h hn
  go_enter Tryd.func34, Tryd.ntmps34
  go_wp2_with fail
  have hb := step_drew w
  replace R := Lib.hid (R.out.below hb)
  replace D := Lib.hid (D.out.below hb)
  clear hb
  refine wp_region_held_drew (S := (fun w' => w'.cell? ⟨g, 0, none⟩ = some (.string s) ∧ w'.cell? ⟨g, 1, none⟩ = some (.int .i64 a))) (by kernel_rfl) (by exact ⟨R.out.c0, R.out.c1⟩) (fun hHeld => ?_)
  have Zd : w.heap.size ≤ w.drew.heap.size := Nat.le_refl _
  generalize w.drew = wd at Zd hHeld R D ⊢
  refine wpAnyH_take (i := 0) (v := ?_) rfl (by kernel_rfl) (by kernel_rfl) (by kernel_rfl) (fun _ _ _ h => h) (Or.inl ⟨by rfl, fun w hSw => by (try dsimp only at hSw); go_simp; (try with_reducible rfl)⟩) (by assumption) ?_
  try simp only [Act.put, List.setIfInBounds_toArray, List.set_cons_zero, List.set_cons_succ, List.getElem_toArray, List.getElem_cons_zero, List.getElem_cons_succ]
  refine wpAnyH_take (i := 1) (v := ?_) rfl (by kernel_rfl) (by kernel_rfl) (by kernel_rfl) (fun _ _ _ h => h) (Or.inl ⟨by rfl, fun w hSw => by (try dsimp only at hSw); go_simp; (try with_reducible rfl)⟩) (by assumption) ?_
  try simp only [Act.put, List.setIfInBounds_toArray, List.set_cons_zero, List.set_cons_succ, List.getElem_toArray, List.getElem_cons_zero, List.getElem_cons_succ]
  refine wpAnyH_take (i := 2) (v := ?_) rfl (by kernel_rfl) (by kernel_rfl) (by kernel_rfl) (fun _ _ _ h => h) (Or.inl ⟨by rfl, fun w hSw => by (try dsimp only at hSw); go_simp; (try with_reducible rfl)⟩) (by assumption) ?_
  try simp only [Act.put, List.setIfInBounds_toArray, List.set_cons_zero, List.set_cons_succ, List.getElem_toArray, List.getElem_cons_zero, List.getElem_cons_succ]
  refine wpAnyH_take (i := 3) (v := ?_) rfl (by kernel_rfl) (by kernel_rfl) (by kernel_rfl) (fun _ _ _ h => h) (Or.inl ⟨by rfl, fun w hSw => by (try dsimp only at hSw); go_simp; (try with_reducible rfl)⟩) (by assumption) ?_
  try simp only [Act.put, List.setIfInBounds_toArray, List.set_cons_zero, List.set_cons_succ, List.getElem_toArray, List.getElem_cons_zero, List.getElem_cons_succ]
  refine wpAnyH_take (i := 4) (v := ?_) rfl (by kernel_rfl) (by kernel_rfl) (by kernel_rfl) (fun _ _ _ h => h) (Or.inl ⟨by rfl, fun w hSw => by (try dsimp only at hSw); go_simp; (try with_reducible rfl)⟩) (by assumption) ?_
  try simp only [Act.put, List.setIfInBounds_toArray, List.set_cons_zero, List.set_cons_succ, List.getElem_toArray, List.getElem_cons_zero, List.getElem_cons_succ]
  refine wpAnyH_take (i := 5) (v := ?_) rfl (by kernel_rfl) (by kernel_rfl) (by kernel_rfl) (fun _ _ _ h => h) (Or.inl ⟨by rfl, fun w hSw => by (try dsimp only at hSw); go_simp; (try with_reducible rfl)⟩) (by assumption) ?_
  try simp only [Act.put, List.setIfInBounds_toArray, List.set_cons_zero, List.set_cons_succ, List.getElem_toArray, List.getElem_cons_zero, List.getElem_cons_succ]
  refine wpAnyH_take (i := 6) (v := ?_) rfl (by kernel_rfl) (by kernel_rfl) (by kernel_rfl) (fun _ _ _ h => h) (Or.inl ⟨by rfl, fun w hSw => by (try dsimp only at hSw); go_simp; (try with_reducible rfl)⟩) (by assumption) ?_
  try simp only [Act.put, List.setIfInBounds_toArray, List.set_cons_zero, List.set_cons_succ, List.getElem_toArray, List.getElem_cons_zero, List.getElem_cons_succ]
  refine wpAnyH_take (i := 7) (v := ?_) rfl (by kernel_rfl) (by kernel_rfl) (by kernel_rfl) (fun _ _ _ h => h) (Or.inl ⟨by rfl, fun w hSw => by (try dsimp only at hSw); go_simp; (try with_reducible rfl)⟩) (by assumption) ?_
  try simp only [Act.put, List.setIfInBounds_toArray, List.set_cons_zero, List.set_cons_succ, List.getElem_toArray, List.getElem_cons_zero, List.getElem_cons_succ]
  refine wpAnyH_ready (rs := [8, 9]) (by kernel_rfl) (by simp) ?_
  refine AllReadyH.cons rfl (fun K hK => ?_) ?_
  · go_simp
    go_at_call 58
    refine (spec_GetText s (by unfold maxLen; omega) a _).mono ?_
    rintro e wc8 ⟨rfl, hb⟩
    rw [HN.out]
    unfold tout
    simp only
    replace R := Lib.hid (R.out.below hb)
    replace D := Lib.hid (D.out.below hb)
    have Zc0 := hb.size
    clear hb
    go_wp2_with fail
    refine hK.out _ _ (by exact ⟨R.out.c0, R.out.c1⟩) (fun hHeld => ?_)
    clear hK K
    try simp only [Act.put, List.setIfInBounds_toArray, List.set_cons_zero, List.set_cons_succ, List.getElem_toArray, List.getElem_cons_zero, List.getElem_cons_succ]
    refine wpAnyH_ready (rs := [9]) (by kernel_rfl) (by simp) ?_
    refine AllReadyH.cons rfl (fun K hK => ?_) AllReadyH.nil
    go_simp
    have hb := step_alloc wc8 (.cells #[.string ⟨#[]⟩, .int .i64 0, .int .i64 0] 49)
    replace R := Lib.hid (R.out.below hb)
    replace D := Lib.hid (D.out.below hb)
    clear hb
    have NV := Lib.hid (New3.new wc8 (.string ⟨#[]⟩) (.int .i64 0) (.int .i64 0) 49)
    have Za : wc8.heap.size < (wc8.alloc (.cells #[.string ⟨#[]⟩, .int .i64 0, .int .i64 0] 49)).heap.size := by simp
    obtain ⟨gb, hgb⟩ : ∃ gb, gb = wc8.heap.size := ⟨_, rfl⟩
    have Qa : wc8.heap.size ≤ gb := by omega
    have Qb : gb < (wc8.alloc (.cells #[.string ⟨#[]⟩, .int .i64 0, .int .i64 0] 49)).heap.size := by omega
    rw [← hgb] at NV ⊢
    clear hgb
    generalize wc8.alloc (.cells #[.string ⟨#[]⟩, .int .i64 0, .int .i64 0] 49) = wa at NV Za Qb R D ⊢
    refine hK.out _ _ (by exact ⟨R.out.c0, R.out.c1⟩) (fun hHeld => ?_)
    clear hK K
    try simp only [Act.put, List.setIfInBounds_toArray, List.set_cons_zero, List.set_cons_succ, List.getElem_toArray, List.getElem_cons_zero, List.getElem_cons_succ]
    obtain ⟨nv0, nv1, nv2, nf0, nf1, nf2, nl⟩ := NV.out
    refine wpAnyH_ready (rs := [10]) (by kernel_rfl) (by simp) ?_
    refine AllReadyH.cons rfl (fun K hK => ?_) AllReadyH.nil
    go_simp
    have hw := (((Within.refl gb (gb + 1) wa).setCell (p := ⟨gb, 0, none⟩) (Nat.le_refl _) (Nat.lt_succ_self _) (.string d)).setCell (p := ⟨gb, 1, none⟩) (Nat.le_refl _) (Nat.lt_succ_self _) (.int .i64 a1)).setCell (p := ⟨gb, 2, none⟩) (Nat.le_refl _) (Nat.lt_succ_self _) (.int .i64 (0))
    have V := Lib.hid (NV.out.store (.string d) (.int .i64 a1) (.int .i64 (0)))
    replace R := Lib.hid (R.out.within hw (by omega))
    replace D := Lib.hid (D.out.within hw (by omega))
    have Zs : wa.heap.size ≤ (World.setCell (World.setCell (World.setCell wa ⟨gb, 0, none⟩ (.string d)) ⟨gb, 1, none⟩ (.int .i64 a1)) ⟨gb, 2, none⟩ (.int .i64 (0))).heap.size := hw.size
    clear hw NV nv0 nv1 nv2 nf0 nf1 nf2 nl
    generalize (World.setCell (World.setCell (World.setCell wa ⟨gb, 0, none⟩ (.string d)) ⟨gb, 1, none⟩ (.int .i64 a1)) ⟨gb, 2, none⟩ (.int .i64 (0))) = wz at V Zs R D ⊢
    refine hK.out _ _ (by exact ⟨R.out.c0, R.out.c1⟩) (fun hHeld => ?_)
    clear hK K
    try simp only [Act.put, List.setIfInBounds_toArray, List.set_cons_zero, List.set_cons_succ, List.getElem_toArray, List.getElem_cons_zero, List.getElem_cons_succ]
    refine wpAnyH_done (by kernel_rfl) ?_ _
    obtain ⟨v0, v1, v2, vl⟩ := V.out
    obtain ⟨r0, r1, r2, rf1, rf2, rl⟩ := R.out
    go_wp2
    go_ret
    exact ⟨rfl, R.out.setAt a1, (within_of D.out).setCell (p := ⟨g, 1, none⟩) (Nat.le_refl _) (Nat.lt_succ_self _) _⟩
  refine AllReadyH.cons rfl (fun K hK => ?_) AllReadyH.nil
  go_simp
  have hb := step_alloc wd (.cells #[.string ⟨#[]⟩, .int .i64 0, .int .i64 0] 49)
  replace R := Lib.hid (R.out.below hb)
  replace D := Lib.hid (D.out.below hb)
  clear hb
  have NV := Lib.hid (New3.new wd (.string ⟨#[]⟩) (.int .i64 0) (.int .i64 0) 49)
  have Za : wd.heap.size < (wd.alloc (.cells #[.string ⟨#[]⟩, .int .i64 0, .int .i64 0] 49)).heap.size := by simp
  obtain ⟨gb, hgb⟩ : ∃ gb, gb = wd.heap.size := ⟨_, rfl⟩
  have Qa : wd.heap.size ≤ gb := by omega
  have Qb : gb < (wd.alloc (.cells #[.string ⟨#[]⟩, .int .i64 0, .int .i64 0] 49)).heap.size := by omega
  rw [← hgb] at NV ⊢
  clear hgb
  generalize wd.alloc (.cells #[.string ⟨#[]⟩, .int .i64 0, .int .i64 0] 49) = wa at NV Za Qb R D ⊢
  refine hK.out _ _ (by exact ⟨R.out.c0, R.out.c1⟩) (fun hHeld => ?_)
  clear hK K
  try simp only [Act.put, List.setIfInBounds_toArray, List.set_cons_zero, List.set_cons_succ, List.getElem_toArray, List.getElem_cons_zero, List.getElem_cons_succ]
  refine wpAnyH_ready (rs := [8]) (by kernel_rfl) (by simp) ?_
  refine AllReadyH.cons rfl (fun K hK => ?_) AllReadyH.nil
  go_simp
  go_at_call 58
  refine (spec_GetText s (by unfold maxLen; omega) a _).mono ?_
  rintro e wc8 ⟨rfl, hb⟩
  rw [HN.out]
  unfold tout
  simp only
  replace R := Lib.hid (R.out.below hb)
  replace D := Lib.hid (D.out.below hb)
  replace NV := Lib.hid (NV.out.below hb)
  have Zc0 := hb.size
  clear hb
  go_wp2_with fail
  refine hK.out _ _ (by exact ⟨R.out.c0, R.out.c1⟩) (fun hHeld => ?_)
  clear hK K
  try simp only [Act.put, List.setIfInBounds_toArray, List.set_cons_zero, List.set_cons_succ, List.getElem_toArray, List.getElem_cons_zero, List.getElem_cons_succ]
  obtain ⟨nv0, nv1, nv2, nf0, nf1, nf2, nl⟩ := NV.out
  refine wpAnyH_ready (rs := [10]) (by kernel_rfl) (by simp) ?_
  refine AllReadyH.cons rfl (fun K hK => ?_) AllReadyH.nil
  go_simp
  have hw := (((Within.refl gb (gb + 1) wc8).setCell (p := ⟨gb, 0, none⟩) (Nat.le_refl _) (Nat.lt_succ_self _) (.string d)).setCell (p := ⟨gb, 1, none⟩) (Nat.le_refl _) (Nat.lt_succ_self _) (.int .i64 a1)).setCell (p := ⟨gb, 2, none⟩) (Nat.le_refl _) (Nat.lt_succ_self _) (.int .i64 (0))
  have V := Lib.hid (NV.out.store (.string d) (.int .i64 a1) (.int .i64 (0)))
  replace R := Lib.hid (R.out.within hw (by omega))
  replace D := Lib.hid (D.out.within hw (by omega))
  have Zs : wc8.heap.size ≤ (World.setCell (World.setCell (World.setCell wc8 ⟨gb, 0, none⟩ (.string d)) ⟨gb, 1, none⟩ (.int .i64 a1)) ⟨gb, 2, none⟩ (.int .i64 (0))).heap.size := hw.size
  clear hw NV nv0 nv1 nv2 nf0 nf1 nf2 nl
  generalize (World.setCell (World.setCell (World.setCell wc8 ⟨gb, 0, none⟩ (.string d)) ⟨gb, 1, none⟩ (.int .i64 a1)) ⟨gb, 2, none⟩ (.int .i64 (0))) = wz at V Zs R D ⊢
  refine hK.out _ _ (by exact ⟨R.out.c0, R.out.c1⟩) (fun hHeld => ?_)
  clear hK K
  try simp only [Act.put, List.setIfInBounds_toArray, List.set_cons_zero, List.set_cons_succ, List.getElem_toArray, List.getElem_cons_zero, List.getElem_cons_succ]
  refine wpAnyH_done (by kernel_rfl) ?_ _
  obtain ⟨v0, v1, v2, vl⟩ := V.out
  obtain ⟨r0, r1, r2, rf1, rf2, rl⟩ := R.out
  go_wp2
  go_ret
  exact ⟨rfl, R.out.setAt a1, (within_of D.out).setCell (p := ⟨g, 1, none⟩) (Nat.le_refl _) (Nat.lt_succ_self _) _⟩

set_option maxRecDepth 100000 in
set_option maxHeartbeats 2000000 in
theorem text_bad (g : Nat) (s : ByteArray) (a : Int) (d : ByteArray) (a1 c : Int) (w : World) (hs : s.size ≤ 8000) (hc : c ≠ 0) (hn : cutT s (readN s a) = (d, a1, c)) (h : Rd w g s a false) :
    Calls Tryd.prog 34 #[.pointer (some ⟨g, 0, none⟩)] w fun e w' => e = .returned (.string ⟨#[]⟩) ∧ Rd w' g s a true ∧ Within g (g + 1) w w' := by
  have HN := Lib.hid (show cutT s (getN s a) = (d, a1, c) by rw [getN_small hs]; exact hn)
  have R := Lib.hid h
  have hg := h.lt
  have D := Lib.hid (show Base w w from Below.refl _ _)
  clear h hn
  go_enter Tryd.func34, Tryd.ntmps34
  go_wp2_with fail
  have hb := step_drew w
  replace R := Lib.hid (R.out.below hb)
  replace D := Lib.hid (D.out.below hb)
  clear hb
  refine wp_region_held_drew (S := (fun w' => w'.cell? ⟨g, 0, none⟩ = some (.string s) ∧ w'.cell? ⟨g, 1, none⟩ = some (.int .i64 a))) (by kernel_rfl) (by exact ⟨R.out.c0, R.out.c1⟩) (fun hHeld => ?_)
  have Zd : w.heap.size ≤ w.drew.heap.size := Nat.le_refl _
  generalize w.drew = wd at Zd hHeld R D ⊢
  refine wpAnyH_take (i := 0) (v := ?_) rfl (by kernel_rfl) (by kernel_rfl) (by kernel_rfl) (fun _ _ _ h => h) (Or.inl ⟨by rfl, fun w hSw => by (try dsimp only at hSw); go_simp; (try with_reducible rfl)⟩) (by assumption) ?_
  try simp only [Act.put, List.setIfInBounds_toArray, List.set_cons_zero, List.set_cons_succ, List.getElem_toArray, List.getElem_cons_zero, List.getElem_cons_succ]
  refine wpAnyH_take (i := 1) (v := ?_) rfl (by kernel_rfl) (by kernel_rfl) (by kernel_rfl) (fun _ _ _ h => h) (Or.inl ⟨by rfl, fun w hSw => by (try dsimp only at hSw); go_simp; (try with_reducible rfl)⟩) (by assumption) ?_
  try simp only [Act.put, List.setIfInBounds_toArray, List.set_cons_zero, List.set_cons_succ, List.getElem_toArray, List.getElem_cons_zero, List.getElem_cons_succ]
  refine wpAnyH_take (i := 2) (v := ?_) rfl (by kernel_rfl) (by kernel_rfl) (by kernel_rfl) (fun _ _ _ h => h) (Or.inl ⟨by rfl, fun w hSw => by (try dsimp only at hSw); go_simp; (try with_reducible rfl)⟩) (by assumption) ?_
  try simp only [Act.put, List.setIfInBounds_toArray, List.set_cons_zero, List.set_cons_succ, List.getElem_toArray, List.getElem_cons_zero, List.getElem_cons_succ]
  refine wpAnyH_take (i := 3) (v := ?_) rfl (by kernel_rfl) (by kernel_rfl) (by kernel_rfl) (fun _ _ _ h => h) (Or.inl ⟨by rfl, fun w hSw => by (try dsimp only at hSw); go_simp; (try with_reducible rfl)⟩) (by assumption) ?_
  try simp only [Act.put, List.setIfInBounds_toArray, List.set_cons_zero, List.set_cons_succ, List.getElem_toArray, List.getElem_cons_zero, List.getElem_cons_succ]
  refine wpAnyH_take (i := 4) (v := ?_) rfl (by kernel_rfl) (by kernel_rfl) (by kernel_rfl) (fun _ _ _ h => h) (Or.inl ⟨by rfl, fun w hSw => by (try dsimp only at hSw); go_simp; (try with_reducible rfl)⟩) (by assumption) ?_
  try simp only [Act.put, List.setIfInBounds_toArray, List.set_cons_zero, List.set_cons_succ, List.getElem_toArray, List.getElem_cons_zero, List.getElem_cons_succ]
  refine wpAnyH_take (i := 5) (v := ?_) rfl (by kernel_rfl) (by kernel_rfl) (by kernel_rfl) (fun _ _ _ h => h) (Or.inl ⟨by rfl, fun w hSw => by (try dsimp only at hSw); go_simp; (try with_reducible rfl)⟩) (by assumption) ?_
  try simp only [Act.put, List.setIfInBounds_toArray, List.set_cons_zero, List.set_cons_succ, List.getElem_toArray, List.getElem_cons_zero, List.getElem_cons_succ]
  refine wpAnyH_take (i := 6) (v := ?_) rfl (by kernel_rfl) (by kernel_rfl) (by kernel_rfl) (fun _ _ _ h => h) (Or.inl ⟨by rfl, fun w hSw => by (try dsimp only at hSw); go_simp; (try with_reducible rfl)⟩) (by assumption) ?_
  try simp only [Act.put, List.setIfInBounds_toArray, List.set_cons_zero, List.set_cons_succ, List.getElem_toArray, List.getElem_cons_zero, List.getElem_cons_succ]
  refine wpAnyH_take (i := 7) (v := ?_) rfl (by kernel_rfl) (by kernel_rfl) (by kernel_rfl) (fun _ _ _ h => h) (Or.inl ⟨by rfl, fun w hSw => by (try dsimp only at hSw); go_simp; (try with_reducible rfl)⟩) (by assumption) ?_
  try simp only [Act.put, List.setIfInBounds_toArray, List.set_cons_zero, List.set_cons_succ, List.getElem_toArray, List.getElem_cons_zero, List.getElem_cons_succ]
  refine wpAnyH_ready (rs := [8, 9]) (by kernel_rfl) (by simp) ?_
  refine AllReadyH.cons rfl (fun K hK => ?_) ?_
  · go_simp
    go_at_call 58
    refine (spec_GetText s (by unfold maxLen; omega) a _).mono ?_
    rintro e wc8 ⟨rfl, hb⟩
    rw [HN.out]
    unfold tout
    simp only
    replace R := Lib.hid (R.out.below hb)
    replace D := Lib.hid (D.out.below hb)
    have Zc0 := hb.size
    clear hb
    go_wp2_with fail
    refine hK.out _ _ (by exact ⟨R.out.c0, R.out.c1⟩) (fun hHeld => ?_)
    clear hK K
    try simp only [Act.put, List.setIfInBounds_toArray, List.set_cons_zero, List.set_cons_succ, List.getElem_toArray, List.getElem_cons_zero, List.getElem_cons_succ]
    refine wpAnyH_ready (rs := [9]) (by kernel_rfl) (by simp) ?_
    refine AllReadyH.cons rfl (fun K hK => ?_) AllReadyH.nil
    go_simp
    have hb := step_alloc wc8 (.cells #[.string ⟨#[]⟩, .int .i64 0, .int .i64 0] 49)
    replace R := Lib.hid (R.out.below hb)
    replace D := Lib.hid (D.out.below hb)
    clear hb
    have NV := Lib.hid (New3.new wc8 (.string ⟨#[]⟩) (.int .i64 0) (.int .i64 0) 49)
    have Za : wc8.heap.size < (wc8.alloc (.cells #[.string ⟨#[]⟩, .int .i64 0, .int .i64 0] 49)).heap.size := by simp
    obtain ⟨gb, hgb⟩ : ∃ gb, gb = wc8.heap.size := ⟨_, rfl⟩
    have Qa : wc8.heap.size ≤ gb := by omega
    have Qb : gb < (wc8.alloc (.cells #[.string ⟨#[]⟩, .int .i64 0, .int .i64 0] 49)).heap.size := by omega
    rw [← hgb] at NV ⊢
    clear hgb
    generalize wc8.alloc (.cells #[.string ⟨#[]⟩, .int .i64 0, .int .i64 0] 49) = wa at NV Za Qb R D ⊢
    refine hK.out _ _ (by exact ⟨R.out.c0, R.out.c1⟩) (fun hHeld => ?_)
    clear hK K
    try simp only [Act.put, List.setIfInBounds_toArray, List.set_cons_zero, List.set_cons_succ, List.getElem_toArray, List.getElem_cons_zero, List.getElem_cons_succ]
    obtain ⟨nv0, nv1, nv2, nf0, nf1, nf2, nl⟩ := NV.out
    refine wpAnyH_ready (rs := [10]) (by kernel_rfl) (by simp) ?_
    refine AllReadyH.cons rfl (fun K hK => ?_) AllReadyH.nil
    go_simp
    have hw := (((Within.refl gb (gb + 1) wa).setCell (p := ⟨gb, 0, none⟩) (Nat.le_refl _) (Nat.lt_succ_self _) (.string d)).setCell (p := ⟨gb, 1, none⟩) (Nat.le_refl _) (Nat.lt_succ_self _) (.int .i64 a1)).setCell (p := ⟨gb, 2, none⟩) (Nat.le_refl _) (Nat.lt_succ_self _) (.int .i64 (c))
    have V := Lib.hid (NV.out.store (.string d) (.int .i64 a1) (.int .i64 (c)))
    replace R := Lib.hid (R.out.within hw (by omega))
    replace D := Lib.hid (D.out.within hw (by omega))
    have Zs : wa.heap.size ≤ (World.setCell (World.setCell (World.setCell wa ⟨gb, 0, none⟩ (.string d)) ⟨gb, 1, none⟩ (.int .i64 a1)) ⟨gb, 2, none⟩ (.int .i64 (c))).heap.size := hw.size
    clear hw NV nv0 nv1 nv2 nf0 nf1 nf2 nl
    generalize (World.setCell (World.setCell (World.setCell wa ⟨gb, 0, none⟩ (.string d)) ⟨gb, 1, none⟩ (.int .i64 a1)) ⟨gb, 2, none⟩ (.int .i64 (c))) = wz at V Zs R D ⊢
    refine hK.out _ _ (by exact ⟨R.out.c0, R.out.c1⟩) (fun hHeld => ?_)
    clear hK K
    try simp only [Act.put, List.setIfInBounds_toArray, List.set_cons_zero, List.set_cons_succ, List.getElem_toArray, List.getElem_cons_zero, List.getElem_cons_succ]
    refine wpAnyH_done (by kernel_rfl) ?_ _
    obtain ⟨v0, v1, v2, vl⟩ := V.out
    obtain ⟨r0, r1, r2, rf1, rf2, rl⟩ := R.out
    have hc1 : (c == 0) = false := by simpa using hc
    have hc2 : (c != 0) = true := by simpa using hc
    go_wp2
    go_ret
    exact ⟨rfl, R.out.setBad true, (within_of D.out).setCell (p := ⟨g, 2, none⟩) (Nat.le_refl _) (Nat.lt_succ_self _) _⟩
  refine AllReadyH.cons rfl (fun K hK => ?_) AllReadyH.nil
  go_simp
  have hb := step_alloc wd (.cells #[.string ⟨#[]⟩, .int .i64 0, .int .i64 0] 49)
  replace R := Lib.hid (R.out.below hb)
  replace D := Lib.hid (D.out.below hb)
  clear hb
  have NV := Lib.hid (New3.new wd (.string ⟨#[]⟩) (.int .i64 0) (.int .i64 0) 49)
  have Za : wd.heap.size < (wd.alloc (.cells #[.string ⟨#[]⟩, .int .i64 0, .int .i64 0] 49)).heap.size := by simp
  obtain ⟨gb, hgb⟩ : ∃ gb, gb = wd.heap.size := ⟨_, rfl⟩
  have Qa : wd.heap.size ≤ gb := by omega
  have Qb : gb < (wd.alloc (.cells #[.string ⟨#[]⟩, .int .i64 0, .int .i64 0] 49)).heap.size := by omega
  rw [← hgb] at NV ⊢
  clear hgb
  generalize wd.alloc (.cells #[.string ⟨#[]⟩, .int .i64 0, .int .i64 0] 49) = wa at NV Za Qb R D ⊢
  refine hK.out _ _ (by exact ⟨R.out.c0, R.out.c1⟩) (fun hHeld => ?_)
  clear hK K
  try simp only [Act.put, List.setIfInBounds_toArray, List.set_cons_zero, List.set_cons_succ, List.getElem_toArray, List.getElem_cons_zero, List.getElem_cons_succ]
  refine wpAnyH_ready (rs := [8]) (by kernel_rfl) (by simp) ?_
  refine AllReadyH.cons rfl (fun K hK => ?_) AllReadyH.nil
  go_simp
  go_at_call 58
  refine (spec_GetText s (by unfold maxLen; omega) a _).mono ?_
  rintro e wc8 ⟨rfl, hb⟩
  rw [HN.out]
  unfold tout
  simp only
  replace R := Lib.hid (R.out.below hb)
  replace D := Lib.hid (D.out.below hb)
  replace NV := Lib.hid (NV.out.below hb)
  have Zc0 := hb.size
  clear hb
  go_wp2_with fail
  refine hK.out _ _ (by exact ⟨R.out.c0, R.out.c1⟩) (fun hHeld => ?_)
  clear hK K
  try simp only [Act.put, List.setIfInBounds_toArray, List.set_cons_zero, List.set_cons_succ, List.getElem_toArray, List.getElem_cons_zero, List.getElem_cons_succ]
  obtain ⟨nv0, nv1, nv2, nf0, nf1, nf2, nl⟩ := NV.out
  refine wpAnyH_ready (rs := [10]) (by kernel_rfl) (by simp) ?_
  refine AllReadyH.cons rfl (fun K hK => ?_) AllReadyH.nil
  go_simp
  have hw := (((Within.refl gb (gb + 1) wc8).setCell (p := ⟨gb, 0, none⟩) (Nat.le_refl _) (Nat.lt_succ_self _) (.string d)).setCell (p := ⟨gb, 1, none⟩) (Nat.le_refl _) (Nat.lt_succ_self _) (.int .i64 a1)).setCell (p := ⟨gb, 2, none⟩) (Nat.le_refl _) (Nat.lt_succ_self _) (.int .i64 (c))
  have V := Lib.hid (NV.out.store (.string d) (.int .i64 a1) (.int .i64 (c)))
  replace R := Lib.hid (R.out.within hw (by omega))
  replace D := Lib.hid (D.out.within hw (by omega))
  have Zs : wc8.heap.size ≤ (World.setCell (World.setCell (World.setCell wc8 ⟨gb, 0, none⟩ (.string d)) ⟨gb, 1, none⟩ (.int .i64 a1)) ⟨gb, 2, none⟩ (.int .i64 (c))).heap.size := hw.size
  clear hw NV nv0 nv1 nv2 nf0 nf1 nf2 nl
  generalize (World.setCell (World.setCell (World.setCell wc8 ⟨gb, 0, none⟩ (.string d)) ⟨gb, 1, none⟩ (.int .i64 a1)) ⟨gb, 2, none⟩ (.int .i64 (c))) = wz at V Zs R D ⊢
  refine hK.out _ _ (by exact ⟨R.out.c0, R.out.c1⟩) (fun hHeld => ?_)
  clear hK K
  try simp only [Act.put, List.setIfInBounds_toArray, List.set_cons_zero, List.set_cons_succ, List.getElem_toArray, List.getElem_cons_zero, List.getElem_cons_succ]
  refine wpAnyH_done (by kernel_rfl) ?_ _
  obtain ⟨v0, v1, v2, vl⟩ := V.out
  obtain ⟨r0, r1, r2, rf1, rf2, rl⟩ := R.out
  have hc1 : (c == 0) = false := by simpa using hc
  have hc2 : (c != 0) = true := by simpa using hc
  go_wp2
  go_ret
  exact ⟨rfl, R.out.setBad true, (within_of D.out).setCell (p := ⟨g, 2, none⟩) (Nat.le_refl _) (Nat.lt_succ_self _) _⟩

set_option maxRecDepth 100000 in
set_option maxHeartbeats 2000000 in
theorem text_was (g : Nat) (s : ByteArray) (a : Int) (d : ByteArray) (a1 c : Int) (w : World) (hs : s.size ≤ 8000) (hn : cutT s (readN s a) = (d, a1, c)) (h : Rd w g s a true) :
    Calls Tryd.prog 34 #[.pointer (some ⟨g, 0, none⟩)] w fun e w' => e = .returned (.string ⟨#[]⟩) ∧ Rd w' g s a true ∧ Within g (g + 1) w w' := by
  have HN := Lib.hid (show cutT s (getN s a) = (d, a1, c) by rw [getN_small hs]; exact hn)
  have R := Lib.hid h
  have hg := h.lt
  have D := Lib.hid (show Base w w from Below.refl _ _)
  clear h hn
  go_enter Tryd.func34, Tryd.ntmps34
  go_wp2_with fail
  have hb := step_drew w
  replace R := Lib.hid (R.out.below hb)
  replace D := Lib.hid (D.out.below hb)
  clear hb
  refine wp_region_held_drew (S := (fun w' => w'.cell? ⟨g, 0, none⟩ = some (.string s) ∧ w'.cell? ⟨g, 1, none⟩ = some (.int .i64 a))) (by kernel_rfl) (by exact ⟨R.out.c0, R.out.c1⟩) (fun hHeld => ?_)
  have Zd : w.heap.size ≤ w.drew.heap.size := Nat.le_refl _
  generalize w.drew = wd at Zd hHeld R D ⊢
  refine wpAnyH_take (i := 0) (v := ?_) rfl (by kernel_rfl) (by kernel_rfl) (by kernel_rfl) (fun _ _ _ h => h) (Or.inl ⟨by rfl, fun w hSw => by (try dsimp only at hSw); go_simp; (try with_reducible rfl)⟩) (by assumption) ?_
  try simp only [Act.put, List.setIfInBounds_toArray, List.set_cons_zero, List.set_cons_succ, List.getElem_toArray, List.getElem_cons_zero, List.getElem_cons_succ]
  refine wpAnyH_take (i := 1) (v := ?_) rfl (by kernel_rfl) (by kernel_rfl) (by kernel_rfl) (fun _ _ _ h => h) (Or.inl ⟨by rfl, fun w hSw => by (try dsimp only at hSw); go_simp; (try with_reducible rfl)⟩) (by assumption) ?_
  try simp only [Act.put, List.setIfInBounds_toArray, List.set_cons_zero, List.set_cons_succ, List.getElem_toArray, List.getElem_cons_zero, List.getElem_cons_succ]
  refine wpAnyH_take (i := 2) (v := ?_) rfl (by kernel_rfl) (by kernel_rfl) (by kernel_rfl) (fun _ _ _ h => h) (Or.inl ⟨by rfl, fun w hSw => by (try dsimp only at hSw); go_simp; (try with_reducible rfl)⟩) (by assumption) ?_
  try simp only [Act.put, List.setIfInBounds_toArray, List.set_cons_zero, List.set_cons_succ, List.getElem_toArray, List.getElem_cons_zero, List.getElem_cons_succ]
  refine wpAnyH_take (i := 3) (v := ?_) rfl (by kernel_rfl) (by kernel_rfl) (by kernel_rfl) (fun _ _ _ h => h) (Or.inl ⟨by rfl, fun w hSw => by (try dsimp only at hSw); go_simp; (try with_reducible rfl)⟩) (by assumption) ?_
  try simp only [Act.put, List.setIfInBounds_toArray, List.set_cons_zero, List.set_cons_succ, List.getElem_toArray, List.getElem_cons_zero, List.getElem_cons_succ]
  refine wpAnyH_take (i := 4) (v := ?_) rfl (by kernel_rfl) (by kernel_rfl) (by kernel_rfl) (fun _ _ _ h => h) (Or.inl ⟨by rfl, fun w hSw => by (try dsimp only at hSw); go_simp; (try with_reducible rfl)⟩) (by assumption) ?_
  try simp only [Act.put, List.setIfInBounds_toArray, List.set_cons_zero, List.set_cons_succ, List.getElem_toArray, List.getElem_cons_zero, List.getElem_cons_succ]
  refine wpAnyH_take (i := 5) (v := ?_) rfl (by kernel_rfl) (by kernel_rfl) (by kernel_rfl) (fun _ _ _ h => h) (Or.inl ⟨by rfl, fun w hSw => by (try dsimp only at hSw); go_simp; (try with_reducible rfl)⟩) (by assumption) ?_
  try simp only [Act.put, List.setIfInBounds_toArray, List.set_cons_zero, List.set_cons_succ, List.getElem_toArray, List.getElem_cons_zero, List.getElem_cons_succ]
  refine wpAnyH_take (i := 6) (v := ?_) rfl (by kernel_rfl) (by kernel_rfl) (by kernel_rfl) (fun _ _ _ h => h) (Or.inl ⟨by rfl, fun w hSw => by (try dsimp only at hSw); go_simp; (try with_reducible rfl)⟩) (by assumption) ?_
  try simp only [Act.put, List.setIfInBounds_toArray, List.set_cons_zero, List.set_cons_succ, List.getElem_toArray, List.getElem_cons_zero, List.getElem_cons_succ]
  refine wpAnyH_take (i := 7) (v := ?_) rfl (by kernel_rfl) (by kernel_rfl) (by kernel_rfl) (fun _ _ _ h => h) (Or.inl ⟨by rfl, fun w hSw => by (try dsimp only at hSw); go_simp; (try with_reducible rfl)⟩) (by assumption) ?_
  try simp only [Act.put, List.setIfInBounds_toArray, List.set_cons_zero, List.set_cons_succ, List.getElem_toArray, List.getElem_cons_zero, List.getElem_cons_succ]
  refine wpAnyH_ready (rs := [8, 9]) (by kernel_rfl) (by simp) ?_
  refine AllReadyH.cons rfl (fun K hK => ?_) ?_
  · go_simp
    go_at_call 58
    refine (spec_GetText s (by unfold maxLen; omega) a _).mono ?_
    rintro e wc8 ⟨rfl, hb⟩
    rw [HN.out]
    unfold tout
    simp only
    replace R := Lib.hid (R.out.below hb)
    replace D := Lib.hid (D.out.below hb)
    have Zc0 := hb.size
    clear hb
    go_wp2_with fail
    refine hK.out _ _ (by exact ⟨R.out.c0, R.out.c1⟩) (fun hHeld => ?_)
    clear hK K
    try simp only [Act.put, List.setIfInBounds_toArray, List.set_cons_zero, List.set_cons_succ, List.getElem_toArray, List.getElem_cons_zero, List.getElem_cons_succ]
    refine wpAnyH_ready (rs := [9]) (by kernel_rfl) (by simp) ?_
    refine AllReadyH.cons rfl (fun K hK => ?_) AllReadyH.nil
    go_simp
    have hb := step_alloc wc8 (.cells #[.string ⟨#[]⟩, .int .i64 0, .int .i64 0] 49)
    replace R := Lib.hid (R.out.below hb)
    replace D := Lib.hid (D.out.below hb)
    clear hb
    have NV := Lib.hid (New3.new wc8 (.string ⟨#[]⟩) (.int .i64 0) (.int .i64 0) 49)
    have Za : wc8.heap.size < (wc8.alloc (.cells #[.string ⟨#[]⟩, .int .i64 0, .int .i64 0] 49)).heap.size := by simp
    obtain ⟨gb, hgb⟩ : ∃ gb, gb = wc8.heap.size := ⟨_, rfl⟩
    have Qa : wc8.heap.size ≤ gb := by omega
    have Qb : gb < (wc8.alloc (.cells #[.string ⟨#[]⟩, .int .i64 0, .int .i64 0] 49)).heap.size := by omega
    rw [← hgb] at NV ⊢
    clear hgb
    generalize wc8.alloc (.cells #[.string ⟨#[]⟩, .int .i64 0, .int .i64 0] 49) = wa at NV Za Qb R D ⊢
    refine hK.out _ _ (by exact ⟨R.out.c0, R.out.c1⟩) (fun hHeld => ?_)
    clear hK K
    try simp only [Act.put, List.setIfInBounds_toArray, List.set_cons_zero, List.set_cons_succ, List.getElem_toArray, List.getElem_cons_zero, List.getElem_cons_succ]
    obtain ⟨nv0, nv1, nv2, nf0, nf1, nf2, nl⟩ := NV.out
    refine wpAnyH_ready (rs := [10]) (by kernel_rfl) (by simp) ?_
    refine AllReadyH.cons rfl (fun K hK => ?_) AllReadyH.nil
    go_simp
    have hw := (((Within.refl gb (gb + 1) wa).setCell (p := ⟨gb, 0, none⟩) (Nat.le_refl _) (Nat.lt_succ_self _) (.string d)).setCell (p := ⟨gb, 1, none⟩) (Nat.le_refl _) (Nat.lt_succ_self _) (.int .i64 a1)).setCell (p := ⟨gb, 2, none⟩) (Nat.le_refl _) (Nat.lt_succ_self _) (.int .i64 (c))
    have V := Lib.hid (NV.out.store (.string d) (.int .i64 a1) (.int .i64 (c)))
    replace R := Lib.hid (R.out.within hw (by omega))
    replace D := Lib.hid (D.out.within hw (by omega))
    have Zs : wa.heap.size ≤ (World.setCell (World.setCell (World.setCell wa ⟨gb, 0, none⟩ (.string d)) ⟨gb, 1, none⟩ (.int .i64 a1)) ⟨gb, 2, none⟩ (.int .i64 (c))).heap.size := hw.size
    clear hw NV nv0 nv1 nv2 nf0 nf1 nf2 nl
    generalize (World.setCell (World.setCell (World.setCell wa ⟨gb, 0, none⟩ (.string d)) ⟨gb, 1, none⟩ (.int .i64 a1)) ⟨gb, 2, none⟩ (.int .i64 (c))) = wz at V Zs R D ⊢
    refine hK.out _ _ (by exact ⟨R.out.c0, R.out.c1⟩) (fun hHeld => ?_)
    clear hK K
    try simp only [Act.put, List.setIfInBounds_toArray, List.set_cons_zero, List.set_cons_succ, List.getElem_toArray, List.getElem_cons_zero, List.getElem_cons_succ]
    refine wpAnyH_done (by kernel_rfl) ?_ _
    obtain ⟨v0, v1, v2, vl⟩ := V.out
    obtain ⟨r0, r1, r2, rf1, rf2, rl⟩ := R.out
    go_wp2
    go_ret
    exact ⟨rfl, R.out.setBad true, (within_of D.out).setCell (p := ⟨g, 2, none⟩) (Nat.le_refl _) (Nat.lt_succ_self _) _⟩
  refine AllReadyH.cons rfl (fun K hK => ?_) AllReadyH.nil
  go_simp
  have hb := step_alloc wd (.cells #[.string ⟨#[]⟩, .int .i64 0, .int .i64 0] 49)
  replace R := Lib.hid (R.out.below hb)
  replace D := Lib.hid (D.out.below hb)
  clear hb
  have NV := Lib.hid (New3.new wd (.string ⟨#[]⟩) (.int .i64 0) (.int .i64 0) 49)
  have Za : wd.heap.size < (wd.alloc (.cells #[.string ⟨#[]⟩, .int .i64 0, .int .i64 0] 49)).heap.size := by simp
  obtain ⟨gb, hgb⟩ : ∃ gb, gb = wd.heap.size := ⟨_, rfl⟩
  have Qa : wd.heap.size ≤ gb := by omega
  have Qb : gb < (wd.alloc (.cells #[.string ⟨#[]⟩, .int .i64 0, .int .i64 0] 49)).heap.size := by omega
  rw [← hgb] at NV ⊢
  clear hgb
  generalize wd.alloc (.cells #[.string ⟨#[]⟩, .int .i64 0, .int .i64 0] 49) = wa at NV Za Qb R D ⊢
  refine hK.out _ _ (by exact ⟨R.out.c0, R.out.c1⟩) (fun hHeld => ?_)
  clear hK K
  try simp only [Act.put, List.setIfInBounds_toArray, List.set_cons_zero, List.set_cons_succ, List.getElem_toArray, List.getElem_cons_zero, List.getElem_cons_succ]
  refine wpAnyH_ready (rs := [8]) (by kernel_rfl) (by simp) ?_
  refine AllReadyH.cons rfl (fun K hK => ?_) AllReadyH.nil
  go_simp
  go_at_call 58
  refine (spec_GetText s (by unfold maxLen; omega) a _).mono ?_
  rintro e wc8 ⟨rfl, hb⟩
  rw [HN.out]
  unfold tout
  simp only
  replace R := Lib.hid (R.out.below hb)
  replace D := Lib.hid (D.out.below hb)
  replace NV := Lib.hid (NV.out.below hb)
  have Zc0 := hb.size
  clear hb
  go_wp2_with fail
  refine hK.out _ _ (by exact ⟨R.out.c0, R.out.c1⟩) (fun hHeld => ?_)
  clear hK K
  try simp only [Act.put, List.setIfInBounds_toArray, List.set_cons_zero, List.set_cons_succ, List.getElem_toArray, List.getElem_cons_zero, List.getElem_cons_succ]
  obtain ⟨nv0, nv1, nv2, nf0, nf1, nf2, nl⟩ := NV.out
  refine wpAnyH_ready (rs := [10]) (by kernel_rfl) (by simp) ?_
  refine AllReadyH.cons rfl (fun K hK => ?_) AllReadyH.nil
  go_simp
  have hw := (((Within.refl gb (gb + 1) wc8).setCell (p := ⟨gb, 0, none⟩) (Nat.le_refl _) (Nat.lt_succ_self _) (.string d)).setCell (p := ⟨gb, 1, none⟩) (Nat.le_refl _) (Nat.lt_succ_self _) (.int .i64 a1)).setCell (p := ⟨gb, 2, none⟩) (Nat.le_refl _) (Nat.lt_succ_self _) (.int .i64 (c))
  have V := Lib.hid (NV.out.store (.string d) (.int .i64 a1) (.int .i64 (c)))
  replace R := Lib.hid (R.out.within hw (by omega))
  replace D := Lib.hid (D.out.within hw (by omega))
  have Zs : wc8.heap.size ≤ (World.setCell (World.setCell (World.setCell wc8 ⟨gb, 0, none⟩ (.string d)) ⟨gb, 1, none⟩ (.int .i64 a1)) ⟨gb, 2, none⟩ (.int .i64 (c))).heap.size := hw.size
  clear hw NV nv0 nv1 nv2 nf0 nf1 nf2 nl
  generalize (World.setCell (World.setCell (World.setCell wc8 ⟨gb, 0, none⟩ (.string d)) ⟨gb, 1, none⟩ (.int .i64 a1)) ⟨gb, 2, none⟩ (.int .i64 (c))) = wz at V Zs R D ⊢
  refine hK.out _ _ (by exact ⟨R.out.c0, R.out.c1⟩) (fun hHeld => ?_)
  clear hK K
  try simp only [Act.put, List.setIfInBounds_toArray, List.set_cons_zero, List.set_cons_succ, List.getElem_toArray, List.getElem_cons_zero, List.getElem_cons_succ]
  refine wpAnyH_done (by kernel_rfl) ?_ _
  obtain ⟨v0, v1, v2, vl⟩ := V.out
  obtain ⟨r0, r1, r2, rf1, rf2, rl⟩ := R.out
  go_wp2
  go_ret
  exact ⟨rfl, R.out.setBad true, (within_of D.out).setCell (p := ⟨g, 2, none⟩) (Nat.le_refl _) (Nat.lt_succ_self _) _⟩

theorem num_any (g : Nat) (s : ByteArray) (st : Int × Bool) (w : World) (hs : s.size ≤ 8000) (h : Rd w g s st.1 st.2) :
    Calls Tryd.prog 78 #[.pointer (some ⟨g, 0, none⟩)] w fun e w' => e = .returned (.int .i64 (numR s st).1) ∧ Rd w' g s (numR s st).2.1 (numR s st).2.2 ∧ Within g (g + 1) w w' := by
  obtain ⟨a, b⟩ := st
  cases b
  · rcases readN_cases s a with h1 | ⟨x, b, h1⟩
    · obtain ⟨c, hc, hr⟩ := readN_bad s a h1
      have e : numR s (a, false) = (0, (a, true)) := by unfold numR; simp [h1]
      rw [e]
      exact num_bad g s a c w hs hc hr h
    · rw [numR_ok h1]
      exact num_ok g s a x b w hs h1 h
  · have e : numR s (a, true) = (0, (a, true)) := if_pos rfl
    rw [e]
    exact num_was g s a _ _ _ w hs rfl h
theorem text_any (g : Nat) (s : ByteArray) (st : Int × Bool) (w : World) (hs : s.size ≤ 8000) (h : Rd w g s st.1 st.2) :
    Calls Tryd.prog 34 #[.pointer (some ⟨g, 0, none⟩)] w fun e w' => e = .returned (.string (textR s st).1) ∧ Rd w' g s (textR s st).2.1 (textR s st).2.2 ∧ Within g (g + 1) w w' := by
  obtain ⟨a, b⟩ := st
  cases b
  · rcases cutT_cases s (readN s a) with h1 | ⟨x, b, h1⟩
    · have e : textR s (a, false) = (⟨#[]⟩, (a, true)) := by unfold textR; simp [h1]
      rw [e]
      exact text_bad g s a _ _ _ w hs h1 rfl h
    · rw [textR_ok h1]
      exact text_ok g s a x b w hs h1 h
  · have e : textR s (a, true) = (⟨#[]⟩, (a, true)) := if_pos rfl
    rw [e]
    exact text_was g s a _ _ _ w hs rfl h
set_option maxRecDepth 100000 in
theorem many_was (g : Nat) (s : ByteArray) (a most : Int) (w : World) (hs : s.size ≤ 8000) (hm : 0 ≤ most) (h : Rd w g s a true) :
    Calls Tryd.prog 77 #[.pointer (some ⟨g, 0, none⟩), .int .i64 most] w (Reads w g s 0 a true) := by
  have HC := Lib.hid (num_was g s a _ _ _ w hs rfl h)
  have hi : isB 0 0 most = true := by unfold isB; simp; omega
  clear h
  go_enter Tryd.func77, Tryd.ntmps77
  go_wp2_with fail
  refine HC.out.mono ?_
  rintro e w1 ⟨rfl, hR, hW⟩
  go_wp2_with (go_at_call 64; refine (spec_is _ _ _ _).mono ?_; rintro e w' ⟨rfl, rfl⟩)
  go_ret
  exact ⟨rfl, hR, hW⟩
end Go.Proofs.YtiaoifodaoifjaaDoor.Sb

set_option linter.unusedSimpArgs false
set_option linter.unusedVariables false
namespace Go.Proofs.YtiaoifodaoifjaaDoor.Se
open Go.RowKit Nu Cr

set_option maxRecDepth 100000 in
set_option maxHeartbeats 1000000 in
theorem spec_Unseal (s : ByteArray) (hs : s.size ≤ maxLen) (w : World) :
    Calls Tryd.prog 30 #[.string s] w fun e w' => e = .returned (unsealed s) ∧ Below w.heap.size w w' := by
  have hs' := hs
  unfold maxLen at hs
  by_cases h1 : 8000 < s.size
  · go_enter Tryd.func30, Tryd.ntmps30
    go_wp2
    exact bodyPost_ret (v := out ⟨#[]⟩ 0 2) (by simp [results, Tryd.results30, go_sem, out]) rfl ⟨ret_val (un_long s h1), (Below.refl _ _).alloc (Nat.le_refl _) _⟩
  by_cases h2 : s.size < 4
  · go_enter Tryd.func30, Tryd.ntmps30
    go_wp2
    exact bodyPost_ret (v := out ⟨#[]⟩ 0 4) (by simp [results, Tryd.results30, go_sem, out]) rfl ⟨ret_val (un_short s h1 h2), (Below.refl _ _).alloc (Nat.le_refl _) _⟩
  have hxs : (s.extract 0 (s.size - 4)).size = s.size - 4 := by simp
  have hK := fun W => spec_l01Crc 0 (by omega) (s.extract 0 (s.size - 4)) (by rw [hxs]; unfold maxLen; omega) W
  rw [← crcN_short _ (by rw [hxs]; omega)] at hK
  have HK := Lib.hid hK
  have hcl := crcN_lt (s.extract 0 (s.size - 4))
  clear hK hxs
  by_cases he : s.extract (s.size - 4) s.size = four (crcN (s.extract 0 (s.size - 4)))
  · have HE := Lib.hid (un_ok s h1 h2 he)
    have hle := list_eq he.symm
    clear he
    generalize crcN (s.extract 0 (s.size - 4)) = c at HK hcl hle
    have q1 : IntKind.i64.wrap ((s.size : Int) - 4) = (s.size : Int) - 4 := IntWalk.i64_in _ (by omega)
    have q2 : (4 : Int) ≤ (s.size : Int) := by omega
    have q3 : (0 : Int) ≤ (s.size : Int) - 4 := by omega
    have q4 : ((s.size : Int) - 4).toNat = s.size - 4 := by omega
    have q5 : (s.size : Int) - 4 ≤ (s.size : Int) := by omega
    go_enter Tryd.func30, Tryd.ntmps30
    go_wp2
    go_region_with (first
      | (go_at_call 52; refine (HK.out _).mono ?_; rintro e w1 ⟨rfl, rfl⟩)
      | (go_at_call 51; refine (spec_four c hcl _).mono ?_; rintro e w1 ⟨rfl, hb1⟩))
    obtain ⟨hcx, hfx⟩ := bcell hb1
    have hb0 : Below w.heap.size w w1 := (((Below.refl _ w).alloc (Nat.le_refl _) _).drew).trans (hb1.mono (by simp))
    go_wp2
    go_light
    refine bodyPost_ret (v := out (s.extract 0 (s.size - 4)) 0 0) (by simp [results, Tryd.results30, go_sem, out, hcx]) rfl ⟨ret_val HE.out, ?_⟩
    exact ((hb0.setCell (Nat.le_refl _) _).setCell (Nat.le_refl _) _).setCell (Nat.le_refl _) _
  · have HE := Lib.hid (un_bad s h1 h2 he)
    have hle := list_ne (fun h => he h.symm)
    clear he
    generalize crcN (s.extract 0 (s.size - 4)) = c at HK hcl hle
    have q1 : IntKind.i64.wrap ((s.size : Int) - 4) = (s.size : Int) - 4 := IntWalk.i64_in _ (by omega)
    have q2 : (4 : Int) ≤ (s.size : Int) := by omega
    have q3 : (0 : Int) ≤ (s.size : Int) - 4 := by omega
    have q4 : ((s.size : Int) - 4).toNat = s.size - 4 := by omega
    have q5 : (s.size : Int) - 4 ≤ (s.size : Int) := by omega
    go_enter Tryd.func30, Tryd.ntmps30
    go_wp2
    go_region_with (first
      | (go_at_call 52; refine (HK.out _).mono ?_; rintro e w1 ⟨rfl, rfl⟩)
      | (go_at_call 51; refine (spec_four c hcl _).mono ?_; rintro e w1 ⟨rfl, hb1⟩))
    obtain ⟨hcx, hfx⟩ := bcell hb1
    have hb0 : Below w.heap.size w w1 := (((Below.refl _ w).alloc (Nat.le_refl _) _).drew).trans (hb1.mono (by simp))
    go_wp2
    go_light
    refine bodyPost_ret (v := out ⟨#[]⟩ 0 5) (by simp [results, Tryd.results30, go_sem, out, hcx]) rfl ⟨ret_val HE.out, ?_⟩
    exact ((hb0.setCell (Nat.le_refl _) _).setCell (Nat.le_refl _) _).setCell (Nat.le_refl _) _

end Go.Proofs.YtiaoifodaoifjaaDoor.Se

set_option linter.unusedSimpArgs false
set_option linter.unusedVariables false
namespace Go.Proofs.YtiaoifodaoifjaaDoor.Sb
open Go.RowKit Go.Proofs.YtiaoifodaoifjaaDoor.Mk Go.Proofs.YtiaoifodaoifjaaDoor.Rw Go.Proofs.YtiaoifodaoifjaaDoor.Ge

theorem prs_out {w w' : World} {k s : ByteArray} {c : Int} (h : prL k s = [] ∧ prC k s = c) (hb : Below w.heap.size w w') : GivesOut w (prL k s) (prC k s) (.returned (.agg #[.slice none 0 0, .int .i64 c])) w' := by
  rw [h.1, h.2]; exact ⟨none, 0, rfl, .inl rfl, hb⟩
set_option maxRecDepth 100000 in
set_option maxHeartbeats 4000000 in
theorem spec_passRead (k s : ByteArray) (w : World) (hk : k.size ≤ maxLen) (hs : s.size ≤ maxLen) :
    Calls Tryd.prog 9 #[.string k, .string s] w (GivesOut w (prL k s) (prC k s)) := by
  have hk' := hk
  have hs' := hs
  unfold maxLen at hk hs
  by_cases k8 : 8000 < k.size
  · have HX := Lib.hid (pr_size (s := s) (.inl k8))
    have d0 : decide (8000 < (k.size : Int)) = true := by simp; omega
    go_enter Tryd.func9, Tryd.ntmps9
    go_wp2
    exact bodyPost_ret (v := .agg #[.slice none 0 0, .int .i64 2]) (by simp [results, Tryd.results9, go_sem]) rfl (prs_out HX.out ((Below.refl _ _).alloc (Nat.le_refl _) _))
  have d0 : decide (8000 < (k.size : Int)) = false := by simp; omega
  by_cases s8 : 8000 < s.size
  · have HX := Lib.hid (pr_size (k := k) (.inr s8))
    have d1 : decide (8000 < (s.size : Int)) = true := by simp; omega
    go_enter Tryd.func9, Tryd.ntmps9
    go_wp2
    exact bodyPost_ret (v := .agg #[.slice none 0 0, .int .i64 2]) (by simp [results, Tryd.results9, go_sem]) rfl (prs_out HX.out ((Below.refl _ _).alloc (Nat.le_refl _) _))
  have d1 : decide (8000 < (s.size : Int)) = false := by simp; omega
  have H8 := Lib.hid (show ¬ (8000 < k.size ∨ 8000 < s.size) by omega)
  have N := Lib.hid (Cells.new w #[.slice none 0 0, .int .i64 0] 30)
  simp only [List.toList_toArray] at N
  have D := Lib.hid (show Base w _ from step_alloc w (.cells #[.slice none 0 0, .int .i64 0] 30))
  have hg : w.heap.size < (w.alloc (.cells #[.slice none 0 0, .int .i64 0] 30)).heap.size := by simp
  go_enter Tryd.func9, Tryd.ntmps9
  go_wp2_with fail
  obtain ⟨g, hgg⟩ : ∃ g, w.heap.size = g := ⟨_, rfl⟩
  rw [hgg] at N hg ⊢
  generalize w.alloc (.cells #[.slice none 0 0, .int .i64 0] 30) = w0 at D N hg ⊢
  have HG := Lib.hid hgg
  have hgl : w.heap.size ≤ g := Nat.le_of_eq hgg
  clear hgg
  refine (Nm.spec_NameRight k hk' _).mono ?_
  rintro en w1 ⟨rfl, rfl⟩
  obtain ⟨c0, c1, f0, f1⟩ := N.out.c2
  cases hn : Nm.nameB k
  · have HX := Lib.hid (pr_form H8.out hn)
    clear hn
    go_wp2
    exact bodyPost_ret (v := .agg #[.slice none 0 0, .int .i64 1]) (by simp [results, Tryd.results9, go_sem, c0, c1, f0, f1]) rfl (prs_out HX.out ((D.out.setCell (p := ⟨g, 0, none⟩) hgl _).setCell (p := ⟨g, 1, none⟩) hgl _))
  have HN := Lib.hid hn
  clear hn
  by_cases s0 : s.size = 0
  · have HX := Lib.hid (pr_empty H8.out HN.out s0)
    have hse : s.toList.isEmpty = true := by rw [ByteArray.toList_eq, List.isEmpty_iff, ← List.length_eq_zero_iff, Array.length_toList]; exact s0
    clear s0
    go_wp2
    exact bodyPost_ret (v := .agg #[.slice none 0 0, .int .i64 0]) (by simp [results, Tryd.results9, go_sem, c0, c1, f0, f1]) rfl (prs_out HX.out ((D.out.setCell (p := ⟨g, 0, none⟩) hgl _).setCell (p := ⟨g, 1, none⟩) hgl _))
  have hse : s.toList.isEmpty = false := by
    rw [ByteArray.toList_eq]
    cases hl : s.data.toList with
    | nil => exact absurd (show s.size = 0 by have := congrArg List.length hl; rwa [Array.length_toList] at this) s0
    | cons x r => rfl
  have S0 := Lib.hid s0
  clear s0
  go_wp2_with fail
  refine (Se.spec_Unseal s hs' _).mono ?_
  rintro en w1 ⟨rfl, hb⟩
  rw [un_is]
  unfold Se.out
  obtain ⟨u, hu⟩ : ∃ u, unT s = u := ⟨_, rfl⟩
  have HU := Lib.hid hu
  have hu8 : u.size ≤ 8000 := by rw [← hu]; exact unT_size s
  rw [hu]
  replace N := Lib.hid (N.out.below hb)
  replace D := Lib.hid (D.out.below hb)
  have hg1 := Nat.lt_of_lt_of_le hg hb.size
  clear hb hu c0 c1 f0 f1 hg
  obtain ⟨uc, huc⟩ : ∃ c, unC s = c := ⟨_, rfl⟩
  have HC := Lib.hid huc
  rw [huc]
  clear huc
  go_upto_region 8 with fail
  have V := Lib.hid (Cells.new w1 #[.string u, .int .i64 0, .int .i64 uc] 49)
  simp only [List.toList_toArray] at V
  have ob := step_alloc w1 (.cells #[.string u, .int .i64 0, .int .i64 uc] 49)
  replace N := Lib.hid (N.out.below ob)
  replace D := Lib.hid (D.out.below ob)
  clear ob
  obtain ⟨gv, hgv⟩ : ∃ g, w1.heap.size = g := ⟨_, rfl⟩
  rw [hgv] at V hg1 ⊢
  clear hgv
  generalize w1.alloc (.cells #[.string u, .int .i64 0, .int .i64 uc] 49) = w2 at N D V ⊢
  obtain ⟨v0, v1, v2, vf0, vf1, vf2⟩ := V.out.c3
  by_cases uz : uc = 0
  rotate_left
  · have HX := Lib.hid (pr_seal H8.out HN.out S0.out (by rw [HC.out]; exact uz))
    rw [HC.out] at HX
    have uz2 : (uc != 0) = true := by simpa using uz
    obtain ⟨c0, c1, f0, f1⟩ := N.out.c2
    clear uz
    go_wp2
    exact bodyPost_ret (v := .agg #[.slice none 0 0, .int .i64 uc]) (by simp [results, Tryd.results9, go_sem, c0, c1, f0, f1]) rfl (prs_out HX.out ((D.out.setCell (p := ⟨g, 0, none⟩) hgl _).setCell (p := ⟨g, 1, none⟩) hgl _))
  subst uz
  have hv0 := V.out.lt
  go_wp2_with fail
  clear v0 v1 v2 vf0 vf1 vf2
  have Y := Lib.hid (Rd.new w2 u 61)
  have ob := step_alloc w2 (.cells #[.string u, .int .i64 0, .bool false] 61)
  replace N := Lib.hid (N.out.below ob)
  replace D := Lib.hid (D.out.below ob)
  have T := Lib.hid (V.out.below ob)
  clear ob V
  obtain ⟨gr, hgr⟩ : ∃ g, w2.heap.size = g := ⟨_, rfl⟩
  rw [hgr] at Y hv0 ⊢
  clear hgr
  generalize w2.alloc (.cells #[.string u, .int .i64 0, .bool false] 61) = w3 at N D T Y ⊢
  have hgr3 := Y.out.lt
  refine (text_any gr u (0, false) w3 hu8 Y.out).mono ?_
  rintro e w4 ⟨rfl, hy, hw⟩
  obtain ⟨y, n, b, ht, hn1, hy8, hb1, hb0⟩ := text_at u hu8
  rw [ht] at hy ⊢
  simp only at hy ⊢
  have HB1 := Lib.hid hb1
  have HB0 := Lib.hid hb0
  replace Y := Lib.hid hy
  replace N := Lib.hid (N.out.within hw (by omega))
  replace D := Lib.hid (D.out.within hw (by omega))
  replace T := Lib.hid (T.out.within hw (by omega))
  have hz4 := hw.size
  clear hw hy ht hb1 hb0
  have q0 : (0 : Int) ≤ (n : Int) := by omega
  have q1 : (n : Int) ≤ (u.size : Int) := by omega
  go_upto_region 12 with fail
  have hb := step_drew w4
  replace N := Lib.hid (N.out.below hb)
  replace D := Lib.hid (D.out.below hb)
  replace T := Lib.hid (T.out.below hb)
  replace Y := Lib.hid (Y.out.below hb)
  clear hb
  refine wp_region_held_drew (S := (fun w' => w'.cell? ⟨gv, 0, none⟩ = some (.string u) ∧ w'.cell? ⟨gr, 1, none⟩ = some (.int .i64 (n : Int)))) (by kernel_rfl) (by exact ⟨T.out.c3.1, Y.out.c1⟩) (fun hHeld => ?_)
  have Zd : w4.heap.size ≤ w4.drew.heap.size := Nat.le_refl _
  generalize w4.drew = wd at Zd hHeld N D T Y ⊢
  refine wpAnyH_take (i := 0) (v := ?_) rfl (by kernel_rfl) (by kernel_rfl) (by kernel_rfl) (fun _ _ _ h => h) (Or.inl ⟨by rfl, fun w hSw => by (try dsimp only at hSw); go_simp; (try with_reducible rfl)⟩) (by assumption) ?_
  try simp only [Act.put, List.setIfInBounds_toArray, List.set_cons_zero, List.set_cons_succ, List.getElem_toArray, List.getElem_cons_zero, List.getElem_cons_succ]
  refine wpAnyH_take (i := 1) (v := ?_) rfl (by kernel_rfl) (by kernel_rfl) (by kernel_rfl) (fun _ _ _ h => h) (Or.inl ⟨by rfl, fun w hSw => by (try dsimp only at hSw); go_simp; (try with_reducible rfl)⟩) (by assumption) ?_
  try simp only [Act.put, List.setIfInBounds_toArray, List.set_cons_zero, List.set_cons_succ, List.getElem_toArray, List.getElem_cons_zero, List.getElem_cons_succ]
  refine wpAnyH_take (i := 2) (v := ?_) rfl (by kernel_rfl) (by kernel_rfl) (by kernel_rfl) (fun _ _ _ h => h) (Or.inl ⟨by rfl, fun w hSw => by (try dsimp only at hSw); go_simp; (try with_reducible rfl)⟩) (by assumption) ?_
  try simp only [Act.put, List.setIfInBounds_toArray, List.set_cons_zero, List.set_cons_succ, List.getElem_toArray, List.getElem_cons_zero, List.getElem_cons_succ]
  refine wpAnyH_take (i := 3) (v := ?_) rfl (by kernel_rfl) (by kernel_rfl) (by kernel_rfl) (fun _ _ _ h => h) (Or.inl ⟨by rfl, fun w hSw => by (try dsimp only at hSw); go_simp; (try with_reducible rfl)⟩) (by assumption) ?_
  try simp only [Act.put, List.setIfInBounds_toArray, List.set_cons_zero, List.set_cons_succ, List.getElem_toArray, List.getElem_cons_zero, List.getElem_cons_succ]
  refine wpAnyH_take (i := 4) (v := ?_) rfl (by kernel_rfl) (by kernel_rfl) (by kernel_rfl) (fun _ _ _ h => h) (Or.inl ⟨by rfl, fun w hSw => by (try dsimp only at hSw); go_simp; (try with_reducible rfl)⟩) (by assumption) ?_
  try simp only [Act.put, List.setIfInBounds_toArray, List.set_cons_zero, List.set_cons_succ, List.getElem_toArray, List.getElem_cons_zero, List.getElem_cons_succ]
  refine wpAnyH_take (i := 5) (v := ?_) rfl (by kernel_rfl) (by kernel_rfl) (by kernel_rfl) (fun _ _ _ h => h) (Or.inl ⟨by rfl, fun w hSw => by (try dsimp only at hSw); go_simp; (try with_reducible rfl)⟩) (by assumption) ?_
  try simp only [Act.put, List.setIfInBounds_toArray, List.set_cons_zero, List.set_cons_succ, List.getElem_toArray, List.getElem_cons_zero, List.getElem_cons_succ]
  refine wpAnyH_take (i := 6) (v := ?_) rfl (by kernel_rfl) (by kernel_rfl) (by kernel_rfl) (fun _ _ _ h => h) (Or.inl ⟨by rfl, fun w hSw => by (try dsimp only at hSw); go_simp; (try with_reducible rfl)⟩) (by assumption) ?_
  try simp only [Act.put, List.setIfInBounds_toArray, List.set_cons_zero, List.set_cons_succ, List.getElem_toArray, List.getElem_cons_zero, List.getElem_cons_succ]
  refine wpAnyH_ready (rs := [7, 8]) (by kernel_rfl) (by simp) ?_
  refine AllReadyH.cons rfl (fun K hK => ?_) ?_
  · go_simp
    go_at_call 35
    refine (spec_seenRead (u.extract n u.size) wd (by rw [ByteArray.size_extract]; unfold maxLen; omega)).mono ?_
    rintro e wc7 ⟨ja, jc, rfl, ho, hb⟩
    have O := Lib.hid (show OwnI wc7 wd.heap.size wc7.heap.size ja (readL (u.extract n u.size)) from ⟨ho, Nat.le_refl _⟩)
    clear ho
    replace N := Lib.hid (N.out.below hb)
    replace D := Lib.hid (D.out.below hb)
    replace T := Lib.hid (T.out.below hb)
    replace Y := Lib.hid (Y.out.below hb)
    have Zc0 := hb.size
    clear hb
    go_wp2_with fail
    refine hK.out _ _ (by exact ⟨T.out.c3.1, Y.out.c1⟩) (fun hHeld => ?_)
    clear hK K
    try simp only [Act.put, List.setIfInBounds_toArray, List.set_cons_zero, List.set_cons_succ, List.getElem_toArray, List.getElem_cons_zero, List.getElem_cons_succ]
    refine wpAnyH_ready (rs := [8]) (by kernel_rfl) (by simp) ?_
    refine AllReadyH.cons rfl (fun K hK => ?_) AllReadyH.nil
    go_simp
    have hb := step_alloc wc7 (.cells #[.slice none 0 0, .int .i64 0] 30)
    replace N := Lib.hid (N.out.below hb)
    replace D := Lib.hid (D.out.below hb)
    replace T := Lib.hid (T.out.below hb)
    replace Y := Lib.hid (Y.out.below hb)
    replace O := Lib.hid (O.out.below hb)
    clear hb
    have NV := Lib.hid (New2.new wc7 (.slice none 0 0) (.int .i64 0) 30)
    have Za : wc7.heap.size < (wc7.alloc (.cells #[.slice none 0 0, .int .i64 0] 30)).heap.size := by simp
    obtain ⟨gb, hgb⟩ : ∃ gb, gb = wc7.heap.size := ⟨_, rfl⟩
    have Qa : wc7.heap.size ≤ gb := by omega
    have Qb : gb < (wc7.alloc (.cells #[.slice none 0 0, .int .i64 0] 30)).heap.size := by omega
    rw [← hgb] at NV ⊢
    clear hgb
    generalize wc7.alloc (.cells #[.slice none 0 0, .int .i64 0] 30) = wa at NV Za Qb N D T Y O ⊢
    refine hK.out _ _ (by exact ⟨T.out.c3.1, Y.out.c1⟩) (fun hHeld => ?_)
    clear hK K
    try simp only [Act.put, List.setIfInBounds_toArray, List.set_cons_zero, List.set_cons_succ, List.getElem_toArray, List.getElem_cons_zero, List.getElem_cons_succ]
    obtain ⟨nv0, nv1, nf0, nf1, nl⟩ := NV.out
    refine wpAnyH_ready (rs := [9]) (by kernel_rfl) (by simp) ?_
    refine AllReadyH.cons rfl (fun K hK => ?_) AllReadyH.nil
    go_simp
    have hw := ((Within.refl gb (gb + 1) wa).setCell (p := ⟨gb, 0, none⟩) (Nat.le_refl _) (Nat.lt_succ_self _) (.slice ja (readL (u.extract n u.size)).length jc)).setCell (p := ⟨gb, 1, none⟩) (Nat.le_refl _) (Nat.lt_succ_self _) (.int .i64 (readC (u.extract n u.size)))
    have V := Lib.hid (NV.out.store (.slice ja (readL (u.extract n u.size)).length jc) (.int .i64 (readC (u.extract n u.size))))
    replace N := Lib.hid (N.out.within hw (by omega))
    replace D := Lib.hid (D.out.within hw (by omega))
    replace T := Lib.hid (T.out.within hw (by omega))
    replace Y := Lib.hid (Y.out.within hw (by omega))
    replace O := Lib.hid (O.out.within hw (by omega))
    have Zs : wa.heap.size ≤ (World.setCell (World.setCell wa ⟨gb, 0, none⟩ (.slice ja (readL (u.extract n u.size)).length jc)) ⟨gb, 1, none⟩ (.int .i64 (readC (u.extract n u.size)))).heap.size := hw.size
    clear hw NV nv0 nv1 nf0 nf1 nl
    generalize (World.setCell (World.setCell wa ⟨gb, 0, none⟩ (.slice ja (readL (u.extract n u.size)).length jc)) ⟨gb, 1, none⟩ (.int .i64 (readC (u.extract n u.size)))) = wz at V Zs N D T Y O ⊢
    refine hK.out _ _ (by exact ⟨T.out.c3.1, Y.out.c1⟩) (fun hHeld => ?_)
    clear hK K
    try simp only [Act.put, List.setIfInBounds_toArray, List.set_cons_zero, List.set_cons_succ, List.getElem_toArray, List.getElem_cons_zero, List.getElem_cons_succ]
    refine wpAnyH_done (by kernel_rfl) ?_ _
    obtain ⟨L, hL⟩ : ∃ l, readL (u.extract n u.size) = l := ⟨_, rfl⟩
    obtain ⟨C, hC⟩ : ∃ c, readC (u.extract n u.size) = c := ⟨_, rfl⟩
    have hL5 : L.length ≤ 5 := by rw [← hL]; exact readL_length _
    have HLL := Lib.hid hL
    have HCC := Lib.hid hC
    rw [hL] at O V ⊢
    rw [hC] at V
    clear hL hC
    have hlo := O.out.2
    have y2 := Y.out.c2
    obtain ⟨x0, x1, xl⟩ := V.out
    cases b
    rotate_left
    · have HX := Lib.hid (pr_none H8.out HN.out S0.out HC.out (by rw [HU.out]; exact HB1.out rfl))
      obtain ⟨c0, c1, f0, f1⟩ := N.out.c2
      go_wp2
      exact bodyPost_ret (v := .agg #[.slice none 0 0, .int .i64 3]) (by simp [results, Tryd.results9, go_sem, c0, c1, f0, f1]) rfl (prs_out HX.out ((D.out.setCell (p := ⟨g, 0, none⟩) hgl _).setCell (p := ⟨g, 1, none⟩) hgl _))
    have HT := Lib.hid (HB0.out rfl)
    by_cases hc : C = 0
    rotate_left
    · have hc2 : (C != 0) = true := by simpa using hc
      have hno : passA u = none := by
        cases hp : passA u with
        | none => rfl
        | some p =>
          obtain ⟨m, q1, q2, q3, q4, _⟩ := passA_inv hp
          rw [HT.out] at q1
          simp only [Option.some.injEq, Prod.mk.injEq] at q1
          have hm : m = n := by omega
          rw [hm] at q3
          exact absurd ((HCC.out.symm.trans (seen_tail q3 hu8).2)) hc
      have HX := Lib.hid (pr_none H8.out HN.out S0.out HC.out (by rw [HU.out]; exact hno))
      clear hc hno
      obtain ⟨c0, c1, f0, f1⟩ := N.out.c2
      go_wp2
      exact bodyPost_ret (v := .agg #[.slice none 0 0, .int .i64 3]) (by simp [results, Tryd.results9, go_sem, c0, c1, f0, f1]) rfl (prs_out HX.out ((D.out.setCell (p := ⟨g, 0, none⟩) hgl _).setCell (p := ⟨g, 1, none⟩) hgl _))
    subst hc
    have OA := Lib.hid O.out.1.at_
    have BW : ∀ W, Base wz W → Cells W g [.slice none 0 0, .int .i64 0] := fun W h => N.out.below h
    go_wp2_with fail
    refine (spec_passOf y ja jc L wz (by unfold maxLen; omega) (by unfold maxLen; omega) OA.out).mono ?_
    rintro e wy ⟨rfl, hb⟩
    replace N := Lib.hid (N.out.below hb)
    replace D := Lib.hid (D.out.below hb)
    replace V := Lib.hid (V.out.below hb)
    replace O := Lib.hid (O.out.below hb)
    clear hb x0 x1 xl y2 OA BW
    by_cases hv : passV y L = s
    rotate_left
    · have hv2 : ((passV y L).toList == s.toList) = false := Se.list_ne hv
      have hno : passA u = none := by
        cases hp : passA u with
        | none => rfl
        | some p =>
          obtain ⟨m, q1, q2, q3, q4, _⟩ := passA_inv hp
          have hpv := passV_of HC.out (by rw [HU.out]; exact hp)
          rw [HT.out] at q1
          simp only [Option.some.injEq, Prod.mk.injEq] at q1
          have hm : m = n := by omega
          rw [hm] at q3
          have h1 := HLL.out.symm.trans (seen_tail q3 hu8).1
          rw [← q1.1, ← h1] at hpv
          exact absurd hpv hv
      have HX := Lib.hid (pr_none H8.out HN.out S0.out HC.out (by rw [HU.out]; exact hno))
      clear hv hno
      obtain ⟨c0, c1, f0, f1⟩ := N.out.c2
      go_wp2
      exact bodyPost_ret (v := .agg #[.slice none 0 0, .int .i64 3]) (by simp [results, Tryd.results9, go_sem, c0, c1, f0, f1]) rfl (prs_out HX.out ((D.out.setCell (p := ⟨g, 0, none⟩) hgl _).setCell (p := ⟨g, 1, none⟩) hgl _))
    have hv2 : ((passV y L).toList == s.toList) = true := by rw [hv]; simp
    have HA := Lib.hid (passV_back HC.out (p := (y, L)) hv)
    clear hv
    by_cases hy : y = k
    rotate_left
    · have hy2 : (y.toList == k.toList) = false := Se.list_ne hy
      have HX := Lib.hid (pr_other H8.out HN.out S0.out HC.out HA.out hy)
      clear hy
      obtain ⟨c0, c1, f0, f1⟩ := N.out.c2
      go_wp2
      exact bodyPost_ret (v := .agg #[.slice none 0 0, .int .i64 6]) (by simp [results, Tryd.results9, go_sem, c0, c1, f0, f1]) rfl (prs_out HX.out ((D.out.setCell (p := ⟨g, 0, none⟩) hgl _).setCell (p := ⟨g, 1, none⟩) hgl _))
    have hy2 : (y.toList == k.toList) = true := by rw [hy]; simp
    have HX := Lib.hid (pr_yes H8.out HN.out S0.out HC.out HA.out hy)
    clear hy
    obtain ⟨c0, c1, f0, f1⟩ := N.out.c2
    obtain ⟨x0, x1, xl⟩ := V.out
    have hlo2 := O.out.2
    go_wp2
    refine bodyPost_ret (v := .agg #[.slice ja L.length jc, .int .i64 0]) (by simp [results, Tryd.results9, go_sem, c0, c1, f0, f1]) rfl ?_
    rw [HX.out.1, HX.out.2]
    refine ⟨ja, jc, rfl, ?_, (D.out.setCell (p := ⟨g, 0, none⟩) hgl _).setCell (p := ⟨g, 1, none⟩) hgl _⟩
    have h1 := O.out.1
    rw [size_set, size_set]
    refine (OwnIn.wide (h1.same ?_) (by omega) hlo2)
    intro x h2 h3
    rw [Below.heap_setCell _ _ _ _ (by simp only; omega), Below.heap_setCell _ _ _ _ (by simp only; omega)]
  refine AllReadyH.cons rfl (fun K hK => ?_) AllReadyH.nil
  go_simp
  have hb := step_alloc wd (.cells #[.slice none 0 0, .int .i64 0] 30)
  replace N := Lib.hid (N.out.below hb)
  replace D := Lib.hid (D.out.below hb)
  replace T := Lib.hid (T.out.below hb)
  replace Y := Lib.hid (Y.out.below hb)
  clear hb
  have NV := Lib.hid (New2.new wd (.slice none 0 0) (.int .i64 0) 30)
  have Za : wd.heap.size < (wd.alloc (.cells #[.slice none 0 0, .int .i64 0] 30)).heap.size := by simp
  obtain ⟨gb, hgb⟩ : ∃ gb, gb = wd.heap.size := ⟨_, rfl⟩
  have Qa : wd.heap.size ≤ gb := by omega
  have Qb : gb < (wd.alloc (.cells #[.slice none 0 0, .int .i64 0] 30)).heap.size := by omega
  rw [← hgb] at NV ⊢
  clear hgb
  generalize wd.alloc (.cells #[.slice none 0 0, .int .i64 0] 30) = wa at NV Za Qb N D T Y ⊢
  refine hK.out _ _ (by exact ⟨T.out.c3.1, Y.out.c1⟩) (fun hHeld => ?_)
  clear hK K
  try simp only [Act.put, List.setIfInBounds_toArray, List.set_cons_zero, List.set_cons_succ, List.getElem_toArray, List.getElem_cons_zero, List.getElem_cons_succ]
  refine wpAnyH_ready (rs := [7]) (by kernel_rfl) (by simp) ?_
  refine AllReadyH.cons rfl (fun K hK => ?_) AllReadyH.nil
  go_simp
  go_at_call 35
  refine (spec_seenRead (u.extract n u.size) wa (by rw [ByteArray.size_extract]; unfold maxLen; omega)).mono ?_
  rintro e wc7 ⟨ja, jc, rfl, ho, hb⟩
  have O := Lib.hid (show OwnI wc7 wa.heap.size wc7.heap.size ja (readL (u.extract n u.size)) from ⟨ho, Nat.le_refl _⟩)
  clear ho
  replace N := Lib.hid (N.out.below hb)
  replace D := Lib.hid (D.out.below hb)
  replace T := Lib.hid (T.out.below hb)
  replace Y := Lib.hid (Y.out.below hb)
  replace NV := Lib.hid (NV.out.below hb)
  have Zc0 := hb.size
  clear hb
  go_wp2_with fail
  refine hK.out _ _ (by exact ⟨T.out.c3.1, Y.out.c1⟩) (fun hHeld => ?_)
  clear hK K
  try simp only [Act.put, List.setIfInBounds_toArray, List.set_cons_zero, List.set_cons_succ, List.getElem_toArray, List.getElem_cons_zero, List.getElem_cons_succ]
  obtain ⟨nv0, nv1, nf0, nf1, nl⟩ := NV.out
  refine wpAnyH_ready (rs := [9]) (by kernel_rfl) (by simp) ?_
  refine AllReadyH.cons rfl (fun K hK => ?_) AllReadyH.nil
  go_simp
  have hw := ((Within.refl gb (gb + 1) wc7).setCell (p := ⟨gb, 0, none⟩) (Nat.le_refl _) (Nat.lt_succ_self _) (.slice ja (readL (u.extract n u.size)).length jc)).setCell (p := ⟨gb, 1, none⟩) (Nat.le_refl _) (Nat.lt_succ_self _) (.int .i64 (readC (u.extract n u.size)))
  have V := Lib.hid (NV.out.store (.slice ja (readL (u.extract n u.size)).length jc) (.int .i64 (readC (u.extract n u.size))))
  replace N := Lib.hid (N.out.within hw (by omega))
  replace D := Lib.hid (D.out.within hw (by omega))
  replace T := Lib.hid (T.out.within hw (by omega))
  replace Y := Lib.hid (Y.out.within hw (by omega))
  replace O := Lib.hid (O.out.within hw (by omega))
  have Zs : wc7.heap.size ≤ (World.setCell (World.setCell wc7 ⟨gb, 0, none⟩ (.slice ja (readL (u.extract n u.size)).length jc)) ⟨gb, 1, none⟩ (.int .i64 (readC (u.extract n u.size)))).heap.size := hw.size
  clear hw NV nv0 nv1 nf0 nf1 nl
  generalize (World.setCell (World.setCell wc7 ⟨gb, 0, none⟩ (.slice ja (readL (u.extract n u.size)).length jc)) ⟨gb, 1, none⟩ (.int .i64 (readC (u.extract n u.size)))) = wz at V Zs N D T Y O ⊢
  refine hK.out _ _ (by exact ⟨T.out.c3.1, Y.out.c1⟩) (fun hHeld => ?_)
  clear hK K
  try simp only [Act.put, List.setIfInBounds_toArray, List.set_cons_zero, List.set_cons_succ, List.getElem_toArray, List.getElem_cons_zero, List.getElem_cons_succ]
  refine wpAnyH_done (by kernel_rfl) ?_ _
  obtain ⟨L, hL⟩ : ∃ l, readL (u.extract n u.size) = l := ⟨_, rfl⟩
  obtain ⟨C, hC⟩ : ∃ c, readC (u.extract n u.size) = c := ⟨_, rfl⟩
  have hL5 : L.length ≤ 5 := by rw [← hL]; exact readL_length _
  have HLL := Lib.hid hL
  have HCC := Lib.hid hC
  rw [hL] at O V ⊢
  rw [hC] at V
  clear hL hC
  have hlo := O.out.2
  have y2 := Y.out.c2
  obtain ⟨x0, x1, xl⟩ := V.out
  cases b
  rotate_left
  · have HX := Lib.hid (pr_none H8.out HN.out S0.out HC.out (by rw [HU.out]; exact HB1.out rfl))
    obtain ⟨c0, c1, f0, f1⟩ := N.out.c2
    go_wp2
    exact bodyPost_ret (v := .agg #[.slice none 0 0, .int .i64 3]) (by simp [results, Tryd.results9, go_sem, c0, c1, f0, f1]) rfl (prs_out HX.out ((D.out.setCell (p := ⟨g, 0, none⟩) hgl _).setCell (p := ⟨g, 1, none⟩) hgl _))
  have HT := Lib.hid (HB0.out rfl)
  by_cases hc : C = 0
  rotate_left
  · have hc2 : (C != 0) = true := by simpa using hc
    have hno : passA u = none := by
      cases hp : passA u with
      | none => rfl
      | some p =>
        obtain ⟨m, q1, q2, q3, q4, _⟩ := passA_inv hp
        rw [HT.out] at q1
        simp only [Option.some.injEq, Prod.mk.injEq] at q1
        have hm : m = n := by omega
        rw [hm] at q3
        exact absurd ((HCC.out.symm.trans (seen_tail q3 hu8).2)) hc
    have HX := Lib.hid (pr_none H8.out HN.out S0.out HC.out (by rw [HU.out]; exact hno))
    clear hc hno
    obtain ⟨c0, c1, f0, f1⟩ := N.out.c2
    go_wp2
    exact bodyPost_ret (v := .agg #[.slice none 0 0, .int .i64 3]) (by simp [results, Tryd.results9, go_sem, c0, c1, f0, f1]) rfl (prs_out HX.out ((D.out.setCell (p := ⟨g, 0, none⟩) hgl _).setCell (p := ⟨g, 1, none⟩) hgl _))
  subst hc
  have OA := Lib.hid O.out.1.at_
  have BW : ∀ W, Base wz W → Cells W g [.slice none 0 0, .int .i64 0] := fun W h => N.out.below h
  go_wp2_with fail
  refine (spec_passOf y ja jc L wz (by unfold maxLen; omega) (by unfold maxLen; omega) OA.out).mono ?_
  rintro e wy ⟨rfl, hb⟩
  replace N := Lib.hid (N.out.below hb)
  replace D := Lib.hid (D.out.below hb)
  replace V := Lib.hid (V.out.below hb)
  replace O := Lib.hid (O.out.below hb)
  clear hb x0 x1 xl y2 OA BW
  by_cases hv : passV y L = s
  rotate_left
  · have hv2 : ((passV y L).toList == s.toList) = false := Se.list_ne hv
    have hno : passA u = none := by
      cases hp : passA u with
      | none => rfl
      | some p =>
        obtain ⟨m, q1, q2, q3, q4, _⟩ := passA_inv hp
        have hpv := passV_of HC.out (by rw [HU.out]; exact hp)
        rw [HT.out] at q1
        simp only [Option.some.injEq, Prod.mk.injEq] at q1
        have hm : m = n := by omega
        rw [hm] at q3
        have h1 := HLL.out.symm.trans (seen_tail q3 hu8).1
        rw [← q1.1, ← h1] at hpv
        exact absurd hpv hv
    have HX := Lib.hid (pr_none H8.out HN.out S0.out HC.out (by rw [HU.out]; exact hno))
    clear hv hno
    obtain ⟨c0, c1, f0, f1⟩ := N.out.c2
    go_wp2
    exact bodyPost_ret (v := .agg #[.slice none 0 0, .int .i64 3]) (by simp [results, Tryd.results9, go_sem, c0, c1, f0, f1]) rfl (prs_out HX.out ((D.out.setCell (p := ⟨g, 0, none⟩) hgl _).setCell (p := ⟨g, 1, none⟩) hgl _))
  have hv2 : ((passV y L).toList == s.toList) = true := by rw [hv]; simp
  have HA := Lib.hid (passV_back HC.out (p := (y, L)) hv)
  clear hv
  by_cases hy : y = k
  rotate_left
  · have hy2 : (y.toList == k.toList) = false := Se.list_ne hy
    have HX := Lib.hid (pr_other H8.out HN.out S0.out HC.out HA.out hy)
    clear hy
    obtain ⟨c0, c1, f0, f1⟩ := N.out.c2
    go_wp2
    exact bodyPost_ret (v := .agg #[.slice none 0 0, .int .i64 6]) (by simp [results, Tryd.results9, go_sem, c0, c1, f0, f1]) rfl (prs_out HX.out ((D.out.setCell (p := ⟨g, 0, none⟩) hgl _).setCell (p := ⟨g, 1, none⟩) hgl _))
  have hy2 : (y.toList == k.toList) = true := by rw [hy]; simp
  have HX := Lib.hid (pr_yes H8.out HN.out S0.out HC.out HA.out hy)
  clear hy
  obtain ⟨c0, c1, f0, f1⟩ := N.out.c2
  obtain ⟨x0, x1, xl⟩ := V.out
  have hlo2 := O.out.2
  go_wp2
  refine bodyPost_ret (v := .agg #[.slice ja L.length jc, .int .i64 0]) (by simp [results, Tryd.results9, go_sem, c0, c1, f0, f1]) rfl ?_
  rw [HX.out.1, HX.out.2]
  refine ⟨ja, jc, rfl, ?_, (D.out.setCell (p := ⟨g, 0, none⟩) hgl _).setCell (p := ⟨g, 1, none⟩) hgl _⟩
  have h1 := O.out.1
  rw [size_set, size_set]
  refine (OwnIn.wide (h1.same ?_) (by omega) hlo2)
  intro x h2 h3
  rw [Below.heap_setCell _ _ _ _ (by simp only; omega), Below.heap_setCell _ _ _ _ (by simp only; omega)]
end Go.Proofs.YtiaoifodaoifjaaDoor.Sb

set_option linter.unusedSimpArgs false
set_option linter.unusedVariables false
namespace Go.Proofs.YtiaoifodaoifjaaDoor.Mk
open Go.RowKit Ge

theorem readNum_ok {s : ByteArray} {a n a' : Int} (hs : s.size ≤ maxLen) (h : readN s a = (n, a', 0)) (w : World) :
    Calls Tryd.prog 87 #[.string s, .int .i64 a] w fun e w' => e = .returned (.tuple #[.int .i64 n, .int .i64 a', .nilIface]) ∧ w = w' := by
  have := impl_readNum s hs a w
  rw [h] at this
  exact this
theorem readNum_bad {s : ByteArray} {a c : Int} (hs : s.size ≤ maxLen) (hc : c ≠ 0) (h : readN s a = (0, 0, c)) (w : World) :
    Calls Tryd.prog 87 #[.string s, .int .i64 a] w fun e w' => e = .returned (.tuple #[.int .i64 0, .int .i64 0, .iface 134 (.agg #[.int .i64 c])]) ∧ w = w' := by
  have := impl_readNum s hs a w
  rw [h] at this
  unfold tup errV at this
  simp only [if_neg hc] at this
  exact this
/-- the value of a mark, a place and an error's code -/
def markT (m : Int × Int) (a : Int) (err : Value) : Value := .tuple #[.agg #[.int .i64 m.1, .int .i64 m.2], .int .i64 a, err]
set_option maxRecDepth 100000 in
theorem readMark_ok {s : ByteArray} {a x a1 y a2 : Int} (hs : s.size ≤ maxLen) (h1 : readN s a = (x, a1, 0)) (h2 : readN s a1 = (y, a2, 0)) (w : World) :
    Calls Tryd.prog 89 #[.string s, .int .i64 a] w fun e w' => e = .returned (.tuple #[.agg #[.int .i64 x, .int .i64 y], .int .i64 a2, .nilIface]) ∧ Below w.heap.size w w' := by
  have H1 := Lib.hid (readNum_ok hs h1)
  have H2 := Lib.hid (readNum_ok hs h2)
  clear h1 h2
  go_enter Tryd.func89, Tryd.ntmps89
  go_wp2_with fail
  refine (H1.out _).mono ?_
  rintro e w1 ⟨rfl, rfl⟩
  go_wp2_with fail
  refine (H2.out _).mono ?_
  rintro e w1 ⟨rfl, rfl⟩
  go_wp2
  exact bodyPost_ret (v := .tuple #[.agg #[.int .i64 x, .int .i64 y], .int .i64 a2, .nilIface]) (by simp [results, Tryd.results89, go_sem]) rfl ⟨rfl, (Below.refl _ _).alloc (Nat.le_refl _) _⟩
set_option maxRecDepth 100000 in
theorem readMark_bad1 {s : ByteArray} {a c : Int} (hs : s.size ≤ maxLen) (hc : c ≠ 0) (h1 : readN s a = (0, 0, c)) (w : World) :
    Calls Tryd.prog 89 #[.string s, .int .i64 a] w fun e w' => e = .returned (.tuple #[.agg #[.int .i64 0, .int .i64 0], .int .i64 0, .iface 134 (.agg #[.int .i64 c])]) ∧ Below w.heap.size w w' := by
  have H1 := Lib.hid (readNum_bad hs hc h1)
  clear h1
  go_enter Tryd.func89, Tryd.ntmps89
  go_wp2_with fail
  refine (H1.out _).mono ?_
  rintro e w1 ⟨rfl, rfl⟩
  go_wp2
  exact bodyPost_ret (v := .tuple #[.agg #[.int .i64 0, .int .i64 0], .int .i64 0, .iface 134 (.agg #[.int .i64 c])]) (by simp [results, Tryd.results89, go_sem]) rfl ⟨rfl, (Below.refl _ _).alloc (Nat.le_refl _) _⟩
set_option maxRecDepth 100000 in
theorem readMark_bad2 {s : ByteArray} {a x a1 c : Int} (hs : s.size ≤ maxLen) (hc : c ≠ 0) (h1 : readN s a = (x, a1, 0)) (h2 : readN s a1 = (0, 0, c)) (w : World) :
    Calls Tryd.prog 89 #[.string s, .int .i64 a] w fun e w' => e = .returned (.tuple #[.agg #[.int .i64 0, .int .i64 0], .int .i64 0, .iface 134 (.agg #[.int .i64 c])]) ∧ Below w.heap.size w w' := by
  have H1 := Lib.hid (readNum_ok hs h1)
  have H2 := Lib.hid (readNum_bad hs hc h2)
  clear h1 h2
  go_enter Tryd.func89, Tryd.ntmps89
  go_wp2_with fail
  refine (H1.out _).mono ?_
  rintro e w1 ⟨rfl, rfl⟩
  go_wp2_with fail
  refine (H2.out _).mono ?_
  rintro e w1 ⟨rfl, rfl⟩
  go_wp2
  exact bodyPost_ret (v := .tuple #[.agg #[.int .i64 0, .int .i64 0], .int .i64 0, .iface 134 (.agg #[.int .i64 c])]) (by simp [results, Tryd.results89, go_sem]) rfl ⟨rfl, (Below.refl _ _).alloc (Nat.le_refl _) _⟩

/-- what readSeen leaves -/
def ReadSeen (w : World) (o : Option (List (Int × Int) × Int)) (e : Ending) (w' : World) : Prop :=
  Below w.heap.size w w' ∧ ((∃ l at_ a cap, o = some (l, at_) ∧ e = .returned (.tuple #[.slice a (List.length l) cap, .int .i64 at_, .nilIface]) ∧ OwnIn w' w.heap.size w'.heap.size a l) ∨
    (o = none ∧ ∃ c, e = .returned (.tuple #[.slice none 0 0, .int .i64 0, .iface 134 (.agg #[.int .i64 c])])))
theorem own_at {w : World} {g : Nat} {l : List (Int × Int)} (B : Nat) (h : Own w g l) (hg : B ≤ g) : OwnIn w B w.heap.size (some ⟨g, 0, none⟩) l := by
  by_cases h0 : l = []
  · exact .inl h0
  · exact .inr ⟨g, rfl, hg, h.lt (List.length_pos_iff.2 h0), h⟩

theorem parse_bad {s : ByteArray} {a : Int} (h : (readN s a).2.2 ≠ 0) : parse s a = none := if_neg fun c => h c.1
theorem parse_range {s : ByteArray} {a c a1 : Int} (h : readN s a = (c, a1, 0)) (hc : ¬ (0 ≤ c ∧ c ≤ 5)) : parse s a = none := by unfold parse; rw [h]; exact if_neg fun d => hc d.2
theorem parse_go {s : ByteArray} {a a1 : Int} {n : Nat} (h : readN s a = ((n : Int), a1, 0)) (hn : n ≤ 5) : parse s a = readMarks s n a1 := by
  unfold parse; rw [h]; simp only; rw [if_pos ⟨trivial, by omega, by omega⟩]; simp
theorem fail_of {w w' : World} {o : Option (List (Int × Int) × Int)} {c : Int} (ho : o = none) (hb : Below w.heap.size w w') :
    ReadSeen w o (.returned (.tuple #[.slice none 0 0, .int .i64 0, .iface 134 (.agg #[.int .i64 c])])) w' := ⟨hb, .inr ⟨ho, c, rfl⟩⟩

set_option maxRecDepth 100000 in
set_option maxHeartbeats 2000000 in
theorem impl_readMarks (s : ByteArray) (a : Int) (w : World) (hs : s.size ≤ maxLen) : Calls Tryd.prog 88 #[.string s, .int .i64 a, .int .i64 5, .func (.func 89) #[] #[]] w (ReadSeen w (parse s a)) := by
  by_cases hc : (readN s a).2.2 ≠ 0
  · obtain ⟨c, hc0, hr⟩ := readN_bad s a hc
    have HN := Lib.hid (parse_bad hc)
    have H1 := Lib.hid (readNum_bad hs hc0 hr)
    clear hc hr
    go_enter Tryd.func88, Tryd.ntmps88
    go_wp2_with fail
    refine (H1.out _).mono ?_
    rintro e w1 ⟨rfl, rfl⟩
    go_wp2
    all_goals go_ret3
    all_goals exact fail_of HN.out (Below.refl _ _)
  obtain ⟨c, a1, z, hr⟩ : ∃ c a1 z, readN s a = (c, a1, z) := ⟨_, _, _, rfl⟩
  obtain rfl : z = 0 := by rw [hr] at hc; simpa using hc
  have H1 := Lib.hid (readNum_ok hs hr)
  clear hc
  by_cases hrange : ¬ (0 ≤ c ∧ c ≤ 5)
  · have HN := Lib.hid (parse_range hr hrange)
    clear hr
    have h2 : c < 0 ∨ (0 ≤ c ∧ 5 < c) := by omega
    rcases h2 with h2 | ⟨h2, h3⟩
    all_goals
      go_enter Tryd.func88, Tryd.ntmps88
      go_wp2_with fail
      refine (H1.out _).mono ?_
      rintro e w1 ⟨rfl, rfl⟩
      go_wp2
      all_goals go_ret3
      all_goals exact fail_of HN.out (Below.refl _ _)
  obtain ⟨n, rfl⟩ : ∃ n : Nat, c = n := ⟨c.toNat, by omega⟩
  have hn : n ≤ 5 := by omega
  have HP := Lib.hid (parse_go hr hn)
  clear hrange hr
  have d1 : decide ((n : Int) < 0) = false := by simp
  have d2 : decide (5 < (n : Int)) = false := by simp; omega
  have hmk := run_make_marks n (by omega)
  go_enter Tryd.func88, Tryd.ntmps88
  go_wp2_with fail
  refine (H1.out _).mono ?_
  rintro e w1 ⟨rfl, rfl⟩
  go_wp2
  clear hmk d1 d2
  go_loopw [1, 38] (fun z i wr => ∃ (k : Nat) (b : Int) (l' : List (Int × Int)), k ≤ n ∧ i = .int .i64 k ∧ z = .int .i64 b ∧ l'.length = n ∧ parse s a = addL (l'.take k) (readMarks s (n - k) b) ∧ Own wr w.heap.size l' ∧ Below w.heap.size w wr) (fun _ i _ => n - (intOf i).toNat)
  case atStart => exact ⟨0, a1, List.replicate n (0, 0), Nat.zero_le _, rfl, rfl, by simp, by rw [HP.out, List.take_zero, addL_nil]; rfl, Own.new w n, (Below.refl _ _).alloc (Nat.le_refl _) _⟩
  case round =>
    obtain ⟨k, b, l', hk, rfl, rfl, hl', hq, ho, hbel⟩ := hrel
    have HL := Lib.hid hl'
    have HQ := Lib.hid hq
    have HO := Lib.hid ho
    have HB := Lib.hid hbel
    clear hl' hq ho hbel
    by_cases hlt : k < n
    · have hnk : n - k = (n - (k + 1)) + 1 := by omega
      have HK := Lib.hid (show k < l'.length by rw [HL.out]; exact hlt)
      have hz2 := HO.out.lt (by have := HK.out; omega)
      by_cases hb1 : (readN s b).2.2 ≠ 0
      · have HN := Lib.hid (show parse s a = none by rw [HQ.out, hnk]; exact readMarks_bad1 hb1 _)
        obtain ⟨c, hc0, hr⟩ := readN_bad s b hb1
        have HM := Lib.hid (readMark_bad1 hs hc0 hr)
        clear hb1 hr hnk
        go_wp2_with fail
        refine (HM.out _).mono ?_
        rintro e w2 ⟨rfl, hb⟩
        have hq := Lib.hid (HO.out.same (hb.block _ hz2))
        have c2 := hq.out.cell0 k HK.out
        have c3 := hq.out.cell1 k HK.out
        have f2 := hq.out.free (k * 2)
        have f3 := hq.out.free (k * 2 + 1)
        have HB2 := Lib.hid (HB.out.trans (hb.mono HB.out.size))
        clear hb
        go_wp2
        all_goals go_ret3
        all_goals exact fail_of HN.out ((HB2.out.setCell (Nat.le_refl _) _).setCell (Nat.le_refl _) _)
      obtain ⟨x, b1, z, hr⟩ : ∃ x b1 z, readN s b = (x, b1, z) := ⟨_, _, _, rfl⟩
      obtain rfl : z = 0 := by rw [hr] at hb1; simpa using hb1
      clear hb1
      by_cases hb2 : (readN s b1).2.2 ≠ 0
      · have HN := Lib.hid (show parse s a = none by rw [HQ.out, hnk]; exact readMarks_bad2 hr hb2 _)
        obtain ⟨c, hc0, hr2⟩ := readN_bad s b1 hb2
        have HM := Lib.hid (readMark_bad2 hs hc0 hr hr2)
        clear hb2 hr hr2 hnk
        go_wp2_with fail
        refine (HM.out _).mono ?_
        rintro e w2 ⟨rfl, hb⟩
        have hq := Lib.hid (HO.out.same (hb.block _ hz2))
        have c2 := hq.out.cell0 k HK.out
        have c3 := hq.out.cell1 k HK.out
        have f2 := hq.out.free (k * 2)
        have f3 := hq.out.free (k * 2 + 1)
        have HB2 := Lib.hid (HB.out.trans (hb.mono HB.out.size))
        clear hb
        go_wp2
        all_goals go_ret3
        all_goals exact fail_of HN.out ((HB2.out.setCell (Nat.le_refl _) _).setCell (Nat.le_refl _) _)
      obtain ⟨y, b2, z, hr2⟩ : ∃ y b2 z, readN s b1 = (y, b2, z) := ⟨_, _, _, rfl⟩
      obtain rfl : z = 0 := by rw [hr2] at hb2; simpa using hb2
      have HM := Lib.hid (readMark_ok hs hr hr2)
      have HS := Lib.hid (show parse s a = addL (l'.take k ++ [(x, y)]) (readMarks s (n - (k + 1)) b2) by rw [HQ.out, hnk]; exact readMarks_step hr hr2 _)
      clear hb2 hr hr2 hnk
      go_wp2_with fail
      refine (HM.out _).mono ?_
      rintro e w2 ⟨rfl, hb⟩
      have hq := Lib.hid (HO.out.same (hb.block _ hz2))
      have c2 := hq.out.cell0 k HK.out
      have c3 := hq.out.cell1 k HK.out
      have f2 := hq.out.free (k * 2)
      have f3 := hq.out.free (k * 2 + 1)
      have HB2 := Lib.hid (HB.out.trans (hb.mono HB.out.size))
      clear hb
      go_wp2
      go_roundw
      case rel =>
        refine ⟨k + 1, b2, l'.set k (x, y), by omega, by go_num, rfl, by rw [List.length_set]; exact HL.out, ?_, hq.out.set k HK.out x y, (HB2.out.setCell (Nat.le_refl _) _).setCell (Nat.le_refl _) _⟩
        rw [List.take_succ_eq_append_getElem (by rw [List.length_set]; exact HK.out), List.take_set, List.set_eq_of_length_le (by rw [List.length_take]; omega), List.getElem_set_self]
        exact HS.out
      case measure => go_light; simp [intOf]; omega
    · have hkn : k = n := by omega
      subst hkn
      have hp : parse s a = some (l', b) := by
        rw [HQ.out, List.take_of_length_le (by rw [HL.out]; exact Nat.le_refl _), Nat.sub_self]
        simp [readMarks, addL]
      have HP2 := Lib.hid hp
      clear hp
      obtain rfl : k = l'.length := HL.out.symm
      clear HL
      have HO2 := Lib.hid (own_at w.heap.size HO.out (Nat.le_refl _))
      go_wp2
      all_goals go_ret3
      all_goals exact ⟨HB.out, .inl ⟨l', b, _, _, HP2.out, rfl, HO2.out⟩⟩
theorem seenAt_no {s : ByteArray} {a : Int} (h : parse s a = none) : seenAt s a = none := seenAt_none h
theorem parse_len {s : ByteArray} {a : Int} {l : List (Int × Int)} {e : Int} (h : parse s a = some (l, e)) : l.length ≤ 5 := by
  have key : ∀ (n : Nat) (b : Int) (l : List (Int × Int)) (e : Int), readMarks s n b = some (l, e) → l.length = n := by
    intro n
    induction n with
    | zero => intro b l e h; simp [readMarks] at h; simp [← h.1]
    | succ n ih =>
      intro b l e h
      by_cases h1 : (readN s b).2.2 ≠ 0
      · have := readMarks_bad1 h1 (k := n) []
        simp only [addL_nil] at this
        rw [this] at h; cases h
      obtain ⟨x, b1, z, hr⟩ : ∃ x b1 z, readN s b = (x, b1, z) := ⟨_, _, _, rfl⟩
      obtain rfl : z = 0 := by rw [hr] at h1; simpa using h1
      by_cases h2 : (readN s b1).2.2 ≠ 0
      · have := readMarks_bad2 hr h2 (k := n) []
        simp only [addL_nil] at this
        rw [this] at h; cases h
      obtain ⟨y, b2, z, hr2⟩ : ∃ y b2 z, readN s b1 = (y, b2, z) := ⟨_, _, _, rfl⟩
      obtain rfl : z = 0 := by rw [hr2] at h2; simpa using h2
      have := readMarks_step hr hr2 (k := n) []
      simp only [addL_nil] at this
      rw [this] at h
      unfold addL at h
      cases hm : readMarks s n b2 with
      | none => rw [hm] at h; cases h
      | some p =>
        rw [hm] at h
        simp at h
        have := ih b2 p.1 p.2 hm
        rw [← h.1]; simp [this]
  unfold parse at h
  split at h
  · rename_i hc
    have := key _ _ _ _ h
    omega
  · cases h
set_option maxRecDepth 100000 in
set_option maxHeartbeats 2000000 in
theorem impl_readSeen (s : ByteArray) (a : Int) (w : World) (hs : s.size ≤ maxLen) : Calls Tryd.prog 84 #[.string s, .int .i64 a] w (ReadSeen w (seenAt s a)) := by
  go_enter Tryd.func84, Tryd.ntmps84
  go_wp2_with fail
  refine (impl_readMarks s a _ hs).mono ?_
  rintro e w1 ⟨hb, ⟨l, b, qa, cap, hp, rfl, ho⟩ | ⟨hp, c, rfl⟩⟩
  · have HB := Lib.hid hb
    have HO := Lib.hid ho
    have h5 := parse_len hp
    have HP2 := Lib.hid hp
    clear hb ho hp
    cases hr : rightB l
    · have HN := Lib.hid (seenAt_wrong HP2.out hr)
      go_wp2_with fail
      refine (seenRight _ _ l _ (by unfold maxLen; omega) HO.out.at_).mono ?_
      rintro e w2 ⟨rfl, hb⟩
      rw [hr]
      have HB2 := Lib.hid (HB.out.trans (hb.mono HB.out.size))
      clear hb
      go_wp2
      all_goals go_ret3
      all_goals exact fail_of HN.out HB2.out
    · have HN := Lib.hid (seenAt_some HP2.out hr)
      go_wp2_with fail
      refine (seenRight _ _ l _ (by unfold maxLen; omega) HO.out.at_).mono ?_
      rintro e w2 ⟨rfl, hb⟩
      rw [hr]
      have HB2 := Lib.hid (HB.out.trans (hb.mono HB.out.size))
      have HO2 := Lib.hid ((HO.out.same (Same.of_below hb (Nat.le_refl _))).wide (Nat.le_refl _) hb.size)
      clear hb
      go_wp2
      all_goals go_ret3
      all_goals exact ⟨HB2.out, .inl ⟨l, b, _, _, HN.out, rfl, HO2.out⟩⟩
  · have HB := Lib.hid hb
    have HN := Lib.hid (seenAt_no hp)
    clear hb hp
    go_wp2
    all_goals go_ret3
    all_goals exact fail_of HN.out HB.out

theorem out_of {w w' : World} {s : ByteArray} {c : Int} (h : readL s = [] ∧ readC s = c) (hb : Below w.heap.size w w') : GivesOut w (readL s) (readC s) (.returned (.agg #[.slice none 0 0, .int .i64 c])) w' := by
  rw [h.1, h.2]; exact ⟨none, 0, rfl, .inl rfl, hb⟩
end Go.Proofs.YtiaoifodaoifjaaDoor.Mk

set_option linter.unusedSimpArgs false
set_option linter.unusedVariables false
namespace Go.Proofs.YtiaoifodaoifjaaDoor.As
open Go.RowKit Go.Extern.Stop Go.Stop Go.Extern

/-- the handle of a type -/
abbrev hnd (t : Nat) : Value := .pointer (some ⟨1, t, none⟩)
/-- the package-level variable errors.errorType holds the handle of 'error' -/
def ErrType (w : World) : Prop := w.cell? ⟨0, 0, none⟩ = some (.iface 113 (.agg #[hnd 52]))

theorem ErrType.lt {w : World} (h : ErrType w) : 0 < w.heap.size := by simpa using World.block_lt_of_cell? w _ h
theorem ErrType.alloc {w : World} (h : ErrType w) (o : Obj) : ErrType (w.alloc o) := by
  unfold ErrType; rw [World.cell?_alloc_lt _ _ _ h.lt]; exact h
theorem ErrType.below {w w' : World} (h : ErrType w) (hb : Below w.heap.size w w') : ErrType w' := (hb.cell h.lt).trans h
theorem ErrType.within {w w' : World} {lo hi : Nat} (h : ErrType w) (hw : Mk.Within lo hi w w') (ha : 0 < lo) : ErrType w' :=
  (World.cell?_of_block (a := ⟨0, 0, none⟩) (hw.block _ h.lt (.inl ha))).trans h
theorem as_nil (t : Value) (w : World) :
    Calls Tryd.prog 33 #[.nilIface, t] w fun e w' => e = .returned (.bool false) ∧ w = w' := by
  go_enter Tryd.func33, Tryd.ntmps33
  go_wp2
  go_ret
  exact ⟨rfl, rfl⟩

/-! Facts on the model's entries for internal/reflectlite, at this program's types. P: *impl.refused, E: impl.refused. -/
theorem valueOfP (t : Addr) (w : World) : (ReflectliteValue.unpack (.iface 58 (.pointer (some t)))).run Tryd.prog w
    = .ok (.agg #[hnd 58, .pointer (some ⟨w.heap.size, 0, none⟩), .int .u64 150]) (w.alloc (.cells #[.pointer (some t)] 58)) := by kernel_rfl
theorem typeP (a : Addr) (w : World) : (ReflectliteValue.methodAny (ReflectliteValue.valueError "reflectlite.Value.Type" 0) (fun t _ _ _ => ReflectliteType.toType t) #[.agg #[hnd 58, .pointer (some a), .int .u64 150]]).run Tryd.prog w
    = .ok (.iface 113 (.agg #[hnd 58])) w := by kernel_rfl
theorem methodKind (h : Value) (w : World) : (Go.method 272 113 (.agg #[h]) "Kind").run Tryd.prog w = .ok (105, h) w := by kernel_rfl
theorem kindP (w : World) : ((ReflectliteType.abiMethod fun t => (fun a : Nat => Value.int IntKind.u8 (a : Int)) <$> Rtype.kind t) #[hnd 58]).run Tryd.prog w = .ok (.int .u8 22) w := by kernel_rfl
theorem kindE (w : World) : ((ReflectliteType.abiMethod fun t => (fun a : Nat => Value.int IntKind.u8 (a : Int)) <$> Rtype.kind t) #[hnd 56]).run Tryd.prog w = .ok (.int .u8 25) w := by kernel_rfl
theorem partsP (a : Addr) (w : World) : (ReflectliteValue.parts (.agg #[hnd 58, .pointer (some a), .int .u64 150])).run Tryd.prog w = .ok (some (58, a, 150)) w := by kernel_rfl
theorem isNilP (a p : Addr) (W : World) (ha : W.cell? a = some (.pointer (some p))) :
    (ReflectliteValue.method (ReflectliteValue.valueError "reflectlite.Value.IsNil" 0) ReflectliteValue.isNil #[.agg #[hnd 58, .pointer (some a), .int .u64 150]]).run Tryd.prog W = .ok (.bool false) W := by
  rw [Lib.rl_method]
  simp only [Sem.run_bind, partsP, Result.andThen]
  simp [ReflectliteValue.isNil, loadVar, isAgg, underlying, Tryd.underlying58, ha, Result.andThen]
theorem methodElem (h : Value) (w : World) : (Go.method 272 113 (.agg #[h]) "Elem").run Tryd.prog w = .ok (117, .agg #[h]) w := by kernel_rfl
theorem methodImplements (h : Value) (w : World) : (Go.method 272 113 (.agg #[h]) "Implements").run Tryd.prog w = .ok (118, .agg #[h]) w := by kernel_rfl
theorem methodAssignableTo (h : Value) (w : World) : (Go.method 272 113 (.agg #[h]) "AssignableTo").run Tryd.prog w = .ok (115, .agg #[h]) w := by kernel_rfl
theorem elemP (w : World) : (ReflectliteType.method ReflectliteType.elem #[.agg #[hnd 58]]).run Tryd.prog w = .ok (.iface 113 (.agg #[hnd 56])) w := by kernel_rfl
theorem implementsE (w : World) : (ReflectliteType.relation "Implements" ReflectliteType.implements_ #[.agg #[hnd 56], .iface 113 (.agg #[hnd 52])]).run Tryd.prog w = .ok (.bool true) w := by kernel_rfl
theorem typeOfE (v : Value) (w : World) : (ReflectliteType.typeOf #[.iface 56 v]).run Tryd.prog w = .ok (.iface 113 (.agg #[hnd 56])) w := by kernel_rfl
theorem assignableE (w : World) : (ReflectliteType.relation "AssignableTo" ReflectliteType.assignableTo #[.agg #[hnd 56], .iface 113 (.agg #[hnd 56])]).run Tryd.prog w = .ok (.bool true) w := by kernel_rfl
/-- what a variable of type error holds -/
def Err (x : Value) : Prop := x = .nilIface ∨ ∃ T v, x = .iface T v
theorem valueOfE (c : Int) (x : Value) (hx : Err x) (w : World) : (ReflectliteValue.unpack (.iface 56 (.agg #[.int .i64 c, x]))).run Tryd.prog w
    = .ok (.agg #[hnd 56, .pointer (some ⟨w.heap.size, 0, none⟩), .int .u64 153]) (w.alloc (.cells #[.int .i64 c, x] 56)) := by
  rcases hx with rfl | ⟨T, v, rfl⟩
  · kernel_rfl
  · kernel_rfl
theorem elemOfP (w : World) : (Rtype.elem? 58).run Tryd.prog w = .ok (some 56) w := by kernel_rfl
theorem mkE (p : Addr) (w : World) : (ReflectliteValue.mk 56 p ReflectliteValue.flagAddr).run Tryd.prog w = .ok (.agg #[hnd 56, .pointer (some p), .int .u64 409]) w := by kernel_rfl
theorem elemVP (a p : Addr) (W : World) (ha : W.cell? a = some (.pointer (some p))) :
    (ReflectliteValue.method (ReflectliteValue.valueError "reflectlite.Value.Elem" 0) ReflectliteValue.elem #[.agg #[hnd 58, .pointer (some a), .int .u64 150]]).run Tryd.prog W
      = .ok (.agg #[hnd 56, .pointer (some p), .int .u64 409]) W := by
  rw [Lib.rl_method]
  simp only [Sem.run_bind, partsP, Result.andThen]
  simp [ReflectliteValue.elem, loadVar, isAgg, underlying, Tryd.underlying58, ha, Result.andThen, elemOfP, mkE]
theorem partsEa (a : Addr) (w : World) : (ReflectliteValue.parts (.agg #[hnd 56, .pointer (some a), .int .u64 409])).run Tryd.prog w = .ok (some (56, a, 409)) w := by kernel_rfl
theorem partsE (a : Addr) (w : World) : (ReflectliteValue.parts (.agg #[hnd 56, .pointer (some a), .int .u64 153])).run Tryd.prog w = .ok (some (56, a, 153)) w := by kernel_rfl
theorem directE (w : World) : (Rtype.directlyAssignable 56 56).run Tryd.prog w = .ok true w := by kernel_rfl
theorem set_two {m : Array Value → Sort _} (v x : Value) (h1 : (v x : Value) → m #[v, x]) (h2 : (y : Array Value) → m y) : ReflectliteValue.set.match_3 m #[v, x] h1 h2 = h1 v x := rfl
/-- (Value).Set: the refused variable at 'g' gets what the Value's own variable 'h' holds -/
theorem setE (g h : Nat) (c : Int) (x : Value) (hx : Err x) (old old2 : Value) (W : World) (hb : W.cell? ⟨h, 0, none⟩ = some (.int .i64 c)) (hb2 : W.cell? ⟨h, 1, none⟩ = some x)
    (ht : W.cell? ⟨g, 0, none⟩ = some old) (hf : W.frozen? ⟨g, 0, none⟩ = false) (ht2 : W.cell? ⟨g, 1, none⟩ = some old2) (hf2 : W.frozen? ⟨g, 1, none⟩ = false) :
    (ReflectliteValue.set #[.agg #[hnd 56, .pointer (some ⟨g, 0, none⟩), .int .u64 409], .agg #[hnd 56, .pointer (some ⟨h, 0, none⟩), .int .u64 153]]).run Tryd.prog W
      = .ok (.tuple #[]) ((W.setCell ⟨g, 0, none⟩ (.int .i64 c)).setCell ⟨g, 1, none⟩ x) := by
  delta ReflectliteValue.set
  rw [set_two]
  have hl := run_loadCells (P := Tryd.prog) W ⟨h, 0, none⟩ 2 (fun j => if j = 0 then .int .i64 c else x) (fun j hj => by
    have : j = 0 ∨ j = 1 := by omega
    rcases this with rfl | rfl
    · exact hb
    · exact hb2)
  have ht3 : (W.setCell ⟨g, 0, none⟩ (.int .i64 c)).cell? ⟨g, 1, none⟩ = some old2 := by
    rw [World.cell?_setCell_other _ _ _ _ (by simp)]; exact ht2
  have hf3 : (W.setCell ⟨g, 0, none⟩ (.int .i64 c)).frozen? ⟨g, 1, none⟩ = false := by simp [hf2]
  replace hl : (loadCells ⟨h, 0, none⟩ 2).run Tryd.prog W = .ok #[.int .i64 c, x] W := hl
  simp only [Sem.run_bind, partsEa, partsE, Result.andThen]
  simp [ReflectliteValue.flagAddr, loadVar, isAgg, underlying, Tryd.underlying56, Result.andThen, hl, directE, storeVar, Value.cells, storeCells, Addr.add]
  rw [run_store Tryd.prog W ⟨g, 0, none⟩ _ _ (by rfl)]
  simp [ht, hf]
  rw [run_store Tryd.prog _ ⟨g, 1, none⟩ _ _ (by rcases hx with rfl | ⟨T, v, rfl⟩ <;> rfl)]
  simp [ht3, hf3]

set_option maxHeartbeats 4000000 in
theorem as_hit (c : Int) (x : Value) (hx : Err x) (g : Nat) (old old2 : Value) (w : World) (hE : ErrType w) (ht0 : w.cell? ⟨g, 0, none⟩ = some old) (hf0 : w.frozen? ⟨g, 0, none⟩ = false) (ht2 : w.cell? ⟨g, 1, none⟩ = some old2) (hf2 : w.frozen? ⟨g, 1, none⟩ = false) :
    Calls Tryd.prog 33 #[.iface 56 (.agg #[.int .i64 c, x]), .iface 58 (.pointer (some ⟨g, 0, none⟩))] w fun ev w' => ev = .returned (.bool true) ∧ w'.cell? ⟨g, 0, none⟩ = some (.int .i64 c) ∧ Below g w w' := by
  have hX1 := @run_callFunc_extern Tryd.prog 54 _ (fun args => ReflectliteValue.unpack (args.getD 0 (.tuple #[]))) Tryd.func54 (by kernel_rfl) (by kernel_rfl) (by kernel_rfl) (by kernel_rfl)
  have hX2 := @run_callFunc_extern Tryd.prog 55 _ (ReflectliteValue.methodAny (ReflectliteValue.valueError "reflectlite.Value.Type" 0) (fun t _ _ _ => ReflectliteType.toType t)) Tryd.func55 (by kernel_rfl) (by kernel_rfl) (by kernel_rfl) (by kernel_rfl)
  have hX3 := @run_callFunc_extern Tryd.prog 56 _ (ReflectliteValue.method (ReflectliteValue.valueError "reflectlite.Value.IsNil" 0) ReflectliteValue.isNil) Tryd.func56 (by kernel_rfl) (by kernel_rfl) (by kernel_rfl) (by kernel_rfl)
  have hX4 := @run_callFunc_extern Tryd.prog 105 _ (ReflectliteType.abiMethod fun t => do pure (.int .u8 (← Rtype.kind t))) Tryd.func105 (by kernel_rfl) (by kernel_rfl) (by kernel_rfl) (by kernel_rfl)
  have hX5 := @run_callFunc_extern Tryd.prog 117 _ (ReflectliteType.method ReflectliteType.elem) Tryd.func117 (by kernel_rfl) (by kernel_rfl) (by kernel_rfl) (by kernel_rfl)
  have hX6 := @run_callFunc_extern Tryd.prog 118 _ (ReflectliteType.relation "Implements" ReflectliteType.implements_) Tryd.func118 (by kernel_rfl) (by kernel_rfl) (by kernel_rfl) (by kernel_rfl)
  have hX7 := @run_callFunc_extern Tryd.prog 73 _ ReflectliteType.typeOf Tryd.func73 (by kernel_rfl) (by kernel_rfl) (by kernel_rfl) (by kernel_rfl)
  have hX8 := @run_callFunc_extern Tryd.prog 115 _ (ReflectliteType.relation "AssignableTo" ReflectliteType.assignableTo) Tryd.func115 (by kernel_rfl) (by kernel_rfl) (by kernel_rfl) (by kernel_rfl)
  have hX9 := @run_callFunc_extern Tryd.prog 74 _ (ReflectliteValue.method (ReflectliteValue.valueError "reflectlite.Value.Elem" 0) ReflectliteValue.elem) Tryd.func74 (by kernel_rfl) (by kernel_rfl) (by kernel_rfl) (by kernel_rfl)
  have hX10 := @run_callFunc_extern Tryd.prog 75 _ ReflectliteValue.set Tryd.func75 (by kernel_rfl) (by kernel_rfl) (by kernel_rfl) (by kernel_rfl)
  have tO := typeOfE
  have mA := methodAssignableTo
  have aE := assignableE
  have vE := fun w => valueOfE c x hx w
  have vP := valueOfP
  have tP := typeP
  have mK := methodKind
  have mE := methodElem
  have mI := methodImplements
  have kP := kindP
  have kE := kindE
  have eP := elemP
  have iE := implementsE
  have htl : g < w.heap.size := World.block_lt_of_cell? w ⟨g, 0, none⟩ ht0
  have hlt : 0 < w.heap.size := by simpa using World.block_lt_of_cell? w _ hE
  have n8 := isNilP ⟨w.heap.size, 0, none⟩ ⟨g, 0, none⟩ ((w.alloc (.cells #[.pointer (some ⟨g, 0, none⟩)] 58)).alloc (.cells #[hnd 58, .pointer (some ⟨w.heap.size, 0, none⟩), .int .u64 150] 87)) (by simp)
  have hg2 : ((w.alloc (.cells #[.pointer (some ⟨g, 0, none⟩)] 58)).alloc (.cells #[hnd 58, .pointer (some ⟨w.heap.size, 0, none⟩), .int .u64 150] 87)).cell? ⟨0, 0, none⟩ = some (.iface 113 (.agg #[hnd 52])) := by
    rw [World.cell?_alloc_lt _ _ _ (by first | (simp; omega) | simp), World.cell?_alloc_lt _ _ _ hlt]; exact hE
  have el := elemVP ⟨w.heap.size, 0, none⟩ ⟨g, 0, none⟩ (((w.alloc (.cells #[.pointer (some ⟨g, 0, none⟩)] 58)).alloc (.cells #[hnd 58, .pointer (some ⟨w.heap.size, 0, none⟩), .int .u64 150] 87)).alloc (.cells #[hnd 58, .pointer (some ⟨w.heap.size, 0, none⟩), .int .u64 150] 87)) (by rw [World.cell?_alloc_lt _ _ ⟨w.heap.size, 0, none⟩ (by simp; omega)]; simp)
  have st := setE g (w.heap.size + 1 + 1 + 1) c x hx old old2 ((((w.alloc (.cells #[.pointer (some ⟨g, 0, none⟩)] 58)).alloc (.cells #[hnd 58, .pointer (some ⟨w.heap.size, 0, none⟩), .int .u64 150] 87)).alloc (.cells #[hnd 58, .pointer (some ⟨w.heap.size, 0, none⟩), .int .u64 150] 87)).alloc (.cells #[.int .i64 c, x] 56))
    (by rw [World.cell?_alloc_at _ _ _ _ (by simp)]; rfl) (by rw [World.cell?_alloc_at _ _ _ _ (by simp)]; rfl)
    (by rw [World.cell?_alloc_lt _ _ ⟨g, 0, none⟩ (by simp; omega), World.cell?_alloc_lt _ _ ⟨g, 0, none⟩ (by simp; omega), World.cell?_alloc_lt _ _ ⟨g, 0, none⟩ (by simp; omega), World.cell?_alloc_lt _ _ ⟨g, 0, none⟩ htl]; exact ht0)
    (by rw [World.frozen?_alloc_old _ _ ⟨g, 0, none⟩ (by simp; omega), World.frozen?_alloc_old _ _ ⟨g, 0, none⟩ (by simp; omega), World.frozen?_alloc_old _ _ ⟨g, 0, none⟩ (by simp; omega), World.frozen?_alloc_old _ _ ⟨g, 0, none⟩ (Nat.ne_of_lt htl)]; exact hf0)
    (by rw [World.cell?_alloc_lt _ _ ⟨g, 1, none⟩ (by simp; omega), World.cell?_alloc_lt _ _ ⟨g, 1, none⟩ (by simp; omega), World.cell?_alloc_lt _ _ ⟨g, 1, none⟩ (by simp; omega), World.cell?_alloc_lt _ _ ⟨g, 1, none⟩ htl]; exact ht2)
    (by rw [World.frozen?_alloc_old _ _ ⟨g, 1, none⟩ (by simp; omega), World.frozen?_alloc_old _ _ ⟨g, 1, none⟩ (by simp; omega), World.frozen?_alloc_old _ _ ⟨g, 1, none⟩ (by simp; omega), World.frozen?_alloc_old _ _ ⟨g, 1, none⟩ (Nat.ne_of_lt htl)]; exact hf2)
  go_enter Tryd.func33, Tryd.ntmps33
  go_wp2
  refine wp_loop_rounds 1 ?_
  rw [rounds_succ]
  go_wp2
  go_ret
  refine ⟨rfl, ?_, ?_⟩
  · rw [World.cell?_setCell_other _ _ _ _ (by simp)]
    refine World.cell?_setCell_same _ _ _ (u := old) ?_
    rw [World.cell?_alloc_lt _ _ ⟨g, 0, none⟩ (by simp; omega), World.cell?_alloc_lt _ _ ⟨g, 0, none⟩ (by simp; omega), World.cell?_alloc_lt _ _ ⟨g, 0, none⟩ (by simp; omega), World.cell?_alloc_lt _ _ ⟨g, 0, none⟩ htl]; exact ht0
  · refine Below.setCell (p := ⟨g, 1, none⟩) (Below.setCell (p := ⟨g, 0, none⟩) ?_ (Nat.le_refl _) _) (Nat.le_refl _) _
    exact (((((Below.refl _ w).alloc (Nat.le_of_lt htl) _).alloc (by simp; omega) _).alloc (by simp; omega) _).alloc (by simp; omega) _)
end Go.Proofs.YtiaoifodaoifjaaDoor.As
