/- Parts of a law: MsgMath, MsgBytesMath, SealMath, PassV, MsgTurnMath, TextRead, SetReadMath, MsgReadMath, PassMath, FnPassMath, SeenBytesS, PassOfS, Source, DrawG, DrawB. Conditions: on sizes, as each says. -/
import Derived.Test.YtiaoifodaoifjaaDoorZ1
import Derived.Test.YtiaoifodaoifjaaDoorZ4
import Derived.Test.YtiaoifodaoifjaaDoorZ2
import Derived.Test.YtiaoifodaoifjaaDoorZ5
import Derived.Test.YtiaoifodaoifjaaDoorZ3
import Derived.Test.YtiaoifodaoifjaaDoorZ6
import Derived.Deep.RegionWith
import Derived.RegionTactic
import Derived.StillTailTactics
import Derived.Test.YtiaoifodaoifjaaDoorZ7
import Derived.WalkArith
import Derived.Test.YtiaoifodaoifjaaDoorZ8
import Derived.Deep.RegionHeld3
set_option linter.unusedSimpArgs false
set_option linter.unusedVariables false
namespace Go.Proofs.YtiaoifodaoifjaaDoor.Sb
open Go.Proofs.YtiaoifodaoifjaaDoor.Mk
theorem name_size {ky : ByteArray} (h : Nm.nameB ky = true) : 1 ≤ ky.size ∧ ky.size ≤ 20 := by
  unfold Nm.nameB at h
  simp only [Bool.and_eq_true, decide_eq_true_eq] at h
  exact h.1
theorem putText_name {ky : ByteArray} (h : ky.size ≤ 20) : (Nu.putText ky).size ≤ 30 := by
  rw [Nu.putText_short ky (by omega), ByteArray.size_append]
  have := Nu.numS_size ky.size (by omega)
  omega
end Go.Proofs.YtiaoifodaoifjaaDoor.Sb
namespace Go.Proofs.YtiaoifodaoifjaaDoor.Se
open Go.RowKit Nu Cr
theorem xor_cancel (a b : Nat) : (a ^^^ b) ^^^ b = a := by rw [Nat.xor_assoc, Nat.xor_self, Nat.xor_zero]
theorem xor_inj {a b c : Nat} (h : a ^^^ c = b ^^^ c) : a = b := by
  have := congrArg (· ^^^ c) h
  simpa [xor_cancel] using this
theorem cstep_inj {r r' : Nat} (h : r < 4294967296) (h' : r' < 4294967296) (e : cstep r = cstep r') : r = r' := by
  have no : ∀ x y : Nat, x < 2147483648 → y < 2147483648 → x ^^^ 3988292384 ≠ y := fun x y hx hy he => by
    have h1 : x ^^^ (x ^^^ 3988292384) = x ^^^ y := by rw [he]
    rw [← Nat.xor_assoc, Nat.xor_self, Nat.zero_xor] at h1
    have h2 : x ^^^ y < 2 ^ 31 := Nat.xor_lt_two_pow (by omega) (by omega)
    omega
  unfold cstep at e
  by_cases p : r % 2 = 1 <;> by_cases p' : r' % 2 = 1
  · rw [if_pos p, if_pos p'] at e
    have := xor_inj e
    omega
  · rw [if_pos p, if_neg p'] at e
    exact absurd e (no _ _ (by omega) (by omega))
  · rw [if_neg p, if_pos p'] at e
    exact absurd e.symm (no _ _ (by omega) (by omega))
  · rw [if_neg p, if_neg p'] at e
    omega
theorem citer_inj (k : Nat) {r r' : Nat} (h : r < 4294967296) (h' : r' < 4294967296) (e : citer k r = citer k r') : r = r' := by
  induction k with
  | zero => exact e
  | succ k ih => exact ih (cstep_inj (citer_lt k r h) (citer_lt k r' h') e)
theorem creg_inj (l : List UInt8) {r r' : Nat} (h : r < 4294967296) (h' : r' < 4294967296) (e : creg l r = creg l r') : r = r' := by
  induction l generalizing r r' with
  | nil => exact e
  | cons c l ih =>
    have hc := c.toNat_lt
    have e1 := ih (cbyte_lt r c.toNat h (by omega)) (cbyte_lt r' c.toNat h' (by omega)) e
    exact xor_inj (citer_inj 8 (xor_lt _ _ h (by omega)) (xor_lt _ _ h' (by omega)) e1)
theorem creg_set (l : List UInt8) (p : Nat) (hp : p < l.length) (b : UInt8) (hb : b ≠ l[p]) (r : Nat) (h : r < 4294967296) : creg (l.set p b) r ≠ creg l r := by
  intro e
  rw [List.set_eq_take_append_cons_drop, if_pos hp, creg_append] at e
  have hl : l = l.take p ++ l[p] :: l.drop (p + 1) := by rw [List.getElem_cons_drop, List.take_append_drop]
  have e2 : creg l r = creg (l[p] :: l.drop (p + 1)) (creg (l.take p) r) := by
    conv => lhs; rw [hl]
    rw [creg_append]
  rw [e2] at e
  have hr := creg_lt (l.take p) r h
  have hb1 := b.toNat_lt
  have hb2 := l[p].toNat_lt
  have e3 := creg_inj (l.drop (p + 1)) (cbyte_lt _ b.toNat hr (by omega)) (cbyte_lt _ l[p].toNat hr (by omega)) e
  have e4 := citer_inj 8 (xor_lt _ _ hr (by omega)) (xor_lt _ _ hr (by omega)) e3
  rw [Nat.xor_comm _ b.toNat, Nat.xor_comm _ l[p].toNat] at e4
  exact hb (UInt8.toNat_inj.1 (xor_inj e4))
theorem fourL_inj {c c' : Nat} (h : c < 4294967296) (h' : c' < 4294967296) (e : fourL c = fourL c') : c = c' := by
  unfold fourL at e
  injection e with e0 e
  injection e with e1 e
  injection e with e2 e
  injection e with e3 _
  have g : ∀ a b : Nat, a < 256 → b < 256 → UInt8.ofNat a = UInt8.ofNat b → a = b := fun a b ha hb he => by
    have := congrArg UInt8.toNat he
    rwa [toNat_ofNat a ha, toNat_ofNat b hb] at this
  have g0 := g _ _ (by omega) (by omega) e0
  have g1 := g _ _ (by omega) (by omega) e1
  have g2 := g _ _ (by omega) (by omega) e2
  have g3 := g _ _ (by omega) (by omega) e3
  omega
theorem crcN_list {s t : ByteArray} (hs : ¬ 8000 < s.size) (ht : ¬ 8000 < t.size) (e : crcN s = crcN t) : creg s.data.toList 4294967295 = creg t.data.toList 4294967295 := by
  rw [crcN_short s hs, crcN_short t ht] at e
  simpa using xor_inj e
theorem front (t f : ByteArray) (hf : f.size = 4) : (t ++ f).extract 0 ((t ++ f).size - 4) = t ∧ (t ++ f).extract ((t ++ f).size - 4) (t ++ f).size = f := by
  have hz : (t ++ f).size = t.size + 4 := by rw [ByteArray.size_append, hf]
  rw [hz]
  have h4 : f.data.size = 4 := hf
  constructor
  · apply ByteArray.ext
    simp [ByteArray.data_extract, ByteArray.data_append]
  · apply ByteArray.ext
    have e1 : t.data.extract t.size (t.size + 4) = #[] := Array.eq_empty_of_size_eq_zero (by rw [Array.size_extract]; show min (t.size + 4) t.size - t.size = 0; omega)
    have e2 : f.data.extract (t.size - t.data.size) (t.size + 4 - t.data.size) = f.data := by
      rw [show t.size - t.data.size = 0 from Nat.sub_self _, show t.size + 4 - t.data.size = f.data.size by rw [h4]; show t.size + 4 - t.size = 4; omega]
      simp
    rw [ByteArray.data_extract, ByteArray.data_append, Nat.add_sub_cancel, Array.extract_append, e1, e2]; simp
theorem seal_open (t : ByteArray) (h : ¬ 7996 < t.size) : out t 0 0 = unsealed (t ++ four (crcN t)) := by
  obtain ⟨e1, e2⟩ := front t (four (crcN t)) rfl
  have hz : (t ++ four (crcN t)).size = t.size + 4 := by rw [ByteArray.size_append]; rfl
  have := un_ok (t ++ four (crcN t)) (by omega) (by omega) (by rw [e1, e2])
  rw [e1] at this; exact this
theorem ext_list {a b : ByteArray} (h : a.data.toList = b.data.toList) : a = b := ByteArray.ext (Array.toList_inj.1 h)
theorem seal_bad (t : ByteArray) (h : ¬ 7996 < t.size) (s : ByteArray) (p : Nat) (b : UInt8) (hp : p < (t.data.toList ++ fourL (crcN t)).length) (hb : b ≠ (t.data.toList ++ fourL (crcN t))[p])
    (e : s.data.toList = (t.data.toList ++ fourL (crcN t)).set p b) : out ⟨#[]⟩ 0 5 = unsealed s := by
  have hl : s.size = t.size + 4 := by
    rw [← size_data s, e, List.length_set, List.length_append, size_data]; rfl
  apply un_bad s (by omega) (by omega)
  intro he
  by_cases hlt : p < t.data.toList.length
  · -- a byte of the text
    have e1 : (t.data.toList ++ fourL (crcN t)).set p b = t.data.toList.set p b ++ fourL (crcN t) := by rw [List.set_append_left _ _ hlt]
    have hs : s = ⟨(t.data.toList.set p b).toArray⟩ ++ four (crcN t) := by
      apply ext_list; rw [e, e1, ByteArray.data_append]; simp [four]
    obtain ⟨f1, f2⟩ := front ⟨(t.data.toList.set p b).toArray⟩ (four (crcN t)) rfl
    rw [← hs] at f1 f2
    rw [f1, f2] at he
    have hT : (⟨(t.data.toList.set p b).toArray⟩ : ByteArray).size = t.size := by rw [← size_data, ← size_data]; simp
    have e5 := fourL_inj (crcN_lt _) (crcN_lt _) (by have := congrArg (fun x : ByteArray => x.data.toList) he; simpa [four] using this)
    have e6 := crcN_list (by omega) (by omega) e5
    have hb' : b ≠ t.data.toList[p] := by rwa [List.getElem_append_left hlt] at hb
    exact creg_set t.data.toList p hlt b hb' 4294967295 (by omega) e6.symm
  · -- a byte of the sum
    have hlt' : t.data.toList.length ≤ p := by omega
    have e1 : (t.data.toList ++ fourL (crcN t)).set p b = t.data.toList ++ (fourL (crcN t)).set (p - t.data.toList.length) b := by rw [List.set_append_right _ _ hlt']
    have hs : s = t ++ ⟨((fourL (crcN t)).set (p - t.data.toList.length) b).toArray⟩ := by
      apply ext_list; rw [e, e1, ByteArray.data_append]; simp
    obtain ⟨f1, f2⟩ := front t ⟨((fourL (crcN t)).set (p - t.data.toList.length) b).toArray⟩ (by rw [← size_data]; simp [fourL])
    rw [← hs] at f1 f2
    rw [f1, f2] at he
    have e7 := congrArg (fun x : ByteArray => x.data.toList) he
    simp only [four] at e7
    have hq : p - t.data.toList.length < (fourL (crcN t)).length := by rw [List.length_append] at hp; omega
    have e8 : ((fourL (crcN t)).set (p - t.data.toList.length) b)[p - t.data.toList.length]'(by rw [List.length_set]; exact hq) = (fourL (crcN t))[p - t.data.toList.length] := by
      congr 1
    rw [List.getElem_set_self] at e8
    apply hb
    rw [List.getElem_append_right hlt']; exact e8
end Go.Proofs.YtiaoifodaoifjaaDoor.Se
namespace Go.Proofs.YtiaoifodaoifjaaDoor.Sb
open Go.RowKit Go.Proofs.YtiaoifodaoifjaaDoor.Mk Go.Proofs.YtiaoifodaoifjaaDoor.Nu Go.Proofs.YtiaoifodaoifjaaDoor.Se
def passBody (y : ByteArray) (l : List (Int × Int)) : ByteArray := putText y ++ bytesV l
def passOk (y : ByteArray) (l : List (Int × Int)) : Bool := Nm.nameB y && rightB l
def passV (y : ByteArray) (l : List (Int × Int)) : ByteArray := if passOk y l = true then sealed (passBody y l) else ⟨#[]⟩
def passBB (y : ByteArray) (l : List (Int × Int)) : List UInt8 := (enc (fold y.size) ++ y.data.toList) ++ seenB l
theorem passOk_is {y : ByteArray} {l : List (Int × Int)} (h : passOk y l = true) : Nm.nameB y = true ∧ rightB l = true := by
  unfold passOk at h
  simpa [Bool.and_eq_true] using h
theorem passBody_is {y : ByteArray} {l : List (Int × Int)} (hk : y.size ≤ 8000) (h : rightB l = true) : passBody y l = ⟨(passBB y l).toArray⟩ := by
  apply ext_list
  unfold passBody passBB
  rw [putText_short _ (by omega), bytesV_yes h]
  simp [ByteArray.data_append, numS, List.append_assoc]
theorem passB_len {l : List (Int × Int)} (h : rightB l = true) : (seenB l).length ≤ 110 := by
  have h1 := flat_length_le l (right_dot h)
  have h2 := right_len h
  have h3 := enc_len10 (fold (l.length : Int)) (fold_lt _ (by omega))
  unfold seenB
  rw [List.length_append]
  omega
theorem passBody_size {y : ByteArray} {l : List (Int × Int)} (hk : Nm.nameB y = true) (h : rightB l = true) : (passBody y l).size ≤ 200 := by
  have h1 := putText_name (name_size hk).2
  have h2 := passB_len h
  unfold passBody
  rw [ByteArray.size_append, bytesV_yes h]
  have : (ByteArray.mk (seenB l).toArray).size = (seenB l).length := by simp [ByteArray.size]
  omega
end Go.Proofs.YtiaoifodaoifjaaDoor.Sb
namespace Go.Proofs.YtiaoifodaoifjaaDoor.Ge
open Go.RowKit
def cutT (s : ByteArray) (R : Int × Int × Int) : ByteArray × Int × Int :=
  if R.2.2 ≠ 0 then (⟨#[]⟩, 0, R.2.2) else if R.1 < 0 ∨ 8000 < R.1 then (⟨#[]⟩, 0, 3)
  else if (s.size : Int) - R.1 < R.2.1 then (⟨#[]⟩, 0, 4) else (s.extract R.2.1.toNat (R.2.1 + R.1).toNat, R.2.1 + R.1, 0)
theorem cut_bad (s : ByteArray) (a b c : Int) (h : c ≠ 0) : cutT s (a, b, c) = (⟨#[]⟩, 0, c) := if_pos h
theorem cut_range (s : ByteArray) (a b : Int) (h : a < 0 ∨ 8000 < a) : cutT s (a, b, 0) = (⟨#[]⟩, 0, 3) := by
  unfold cutT; rw [if_neg (by simp), if_pos h]
theorem cut_short (s : ByteArray) (k m : Nat) (h : k ≤ 8000) (h2 : s.size < m + k) : cutT s ((k : Int), (m : Int), 0) = (⟨#[]⟩, 0, 4) := by
  unfold cutT; rw [if_neg (by simp), if_neg (by simp; omega), if_pos (by simp; omega)]
theorem cut_ok (s : ByteArray) (k m : Nat) (h : k ≤ 8000) (h2 : m + k ≤ s.size) : cutT s ((k : Int), (m : Int), 0) = (s.extract m (m + k), (m : Int) + (k : Int), 0) := by
  unfold cutT
  rw [if_neg (by simp), if_neg (by simp; omega), if_neg (by simp; omega)]
  simp only
  rw [show ((m : Int) + (k : Int)).toNat = m + k by omega, Int.toNat_natCast]
theorem G_at (s : ByteArray) (a : Nat) : ∀ k i u, 10 - i = k → (G s a i u).2.2 = 0 → ∃ m : Nat, (G s a i u).2.1 = (m : Int) ∧ m ≤ s.size := by
  intro k
  induction k with
  | zero => intro i u h hz; rw [G_end (by omega)] at hz; simp at hz
  | succ k ih =>
    intro i u h hz
    have hi : i < 10 := by omega
    by_cases h1 : s.size ≤ a + i
    · rw [G_short hi h1] at hz; simp at hz
    by_cases h2 : i = 9 ∧ 1 < byteN s (a + i)
    · rw [G_ten hi h1 h2] at hz; simp at hz
    by_cases h3 : byteN s (a + i) < 128
    · by_cases h4 : byteN s (a + i) = 0 ∧ 0 < i
      · rw [G_zero hi h1 h2 h3 h4] at hz; simp at hz
      · rw [G_last hi h1 h2 h3 h4]
        exact ⟨a + i + 1, rfl, by omega⟩
    · rw [G_more hi h1 h2 h3] at hz ⊢
      exact ih _ _ (by omega) hz
theorem readN_at (s : ByteArray) (a : Int) (h : (readN s a).2.2 = 0) : ∃ m : Nat, (readN s a).2.1 = (m : Int) ∧ m ≤ s.size := by
  unfold readN at h ⊢
  split at h
  · simp at h
  · rw [if_neg (by assumption)]; exact G_at s _ _ 0 0 rfl h
def ttup (T : ByteArray × Int × Int) : Value := .tuple #[.string T.1, .int .i64 T.2.1, errV T.2.2]
def tout (T : ByteArray × Int × Int) : Value := .agg #[.string T.1, .int .i64 T.2.1, .int .i64 T.2.2]
theorem ttup_bad (c : Int) (h : c ≠ 0) : Value.tuple #[.string ⟨#[]⟩, .int .i64 0, .iface 134 (.agg #[.int .i64 c])] = ttup (⟨#[]⟩, 0, c) := by
  unfold ttup errV; rw [if_neg h]
set_option maxRecDepth 100000 in
set_option maxHeartbeats 2000000 in
theorem impl_readText (s : ByteArray) (hs : s.size ≤ maxLen) (h8 : s.size ≤ 100000) (a : Int) (w : World) :
    Calls Tryd.prog 83 #[.string s, .int .i64 a] w fun e w' => e = .returned (ttup (cutT s (readN s a))) ∧ Below w.heap.size w w' := by
  have hK := fun W => impl_readNum s hs a W
  have hat := readN_at s a
  generalize readN s a = R at hK hat ⊢
  obtain ⟨r1, r2, r3⟩ := R
  unfold tup at hK
  simp only at hK hat
  by_cases h3 : r3 = 0
  · subst h3
    obtain ⟨m, rfl, hm⟩ := hat rfl
    unfold errV at hK
    simp only [if_true] at hK
    have HK := jj hK
    clear hK hat
    by_cases hr : r1 < 0 ∨ 8000 < r1
    · have HX := jj (cut_range s r1 m hr)
      rcases hr with hr | hr
      all_goals
        go_enter Tryd.func83, Tryd.ntmps83
        go_wp2_with fail
        refine (HK.out _).mono ?_
        rintro e w1 ⟨rfl, rfl⟩
        go_wp2
        go_ret3
        exact ⟨ret_val (by rw [HX.out]; exact ttup_bad 3 (by decide)), Below.refl _ _⟩
    · obtain ⟨k, rfl⟩ : ∃ k : Nat, r1 = k := ⟨r1.toNat, by omega⟩
      have hk8 : k ≤ 8000 := by omega
      have d1 : decide ((k : Int) < 0) = false := by simp
      have d2 : decide (8000 < (k : Int)) = false := by simp; omega
      clear hr
      by_cases hsh : s.size < m + k
      · have HX := jj (cut_short s k m hk8 hsh)
        have t1 : (s.size : Int) - (m : Int) < (k : Int) := by omega
        go_enter Tryd.func83, Tryd.ntmps83
        go_wp2_with fail
        refine (HK.out _).mono ?_
        rintro e w1 ⟨rfl, rfl⟩
        go_wp2
        go_ret3
        exact ⟨ret_val (by rw [HX.out]; exact ttup_bad 4 (by decide)), Below.refl _ _⟩
      · have HX := jj (cut_ok s k m hk8 (by omega))
        have t1 : (k : Int) ≤ (s.size : Int) - (m : Int) := by omega
        have t2 : ((m : Int) + (k : Int)).toNat = m + k := by omega
        have hxs : (s.extract m (m + k)).size ≤ 1000000 := by simp; omega
        have hJ := fun W => Nu.joined_one (s.extract m (m + k)) W hxs
        have HJ := jj hJ
        clear hJ hxs
        go_enter Tryd.func83, Tryd.ntmps83
        go_wp2_with fail
        refine (HK.out _).mono ?_
        rintro e w1 ⟨rfl, rfl⟩
        go_wp2_with fail
        refine (HJ.out _).mono ?_
        rintro e w2 ⟨rfl, hb2⟩
        go_wp2
        go_ret3
        exact ⟨ret_val (by rw [HX.out]; rfl), hb2⟩
  · unfold errV at hK
    simp only [if_neg h3] at hK
    have HK := jj hK
    have HX := jj (cut_bad s r1 r2 r3 h3)
    clear hK hat
    go_enter Tryd.func83, Tryd.ntmps83
    go_wp2_with fail
    refine (HK.out _).mono ?_
    rintro e w1 ⟨rfl, rfl⟩
    go_wp2
    all_goals go_ret3
    all_goals exact ⟨ret_val (by rw [HX.out]; exact ttup_bad r3 h3), Below.refl _ _⟩
theorem getN_at (s : ByteArray) (a : Int) (h : (getN s a).2.2 = 0) : ∃ m : Nat, (getN s a).2.1 = (m : Int) ∧ m ≤ s.size := by
  unfold getN at h ⊢
  split at h
  · simp at h
  · rw [if_neg (by assumption)]; exact readN_at s a h
end Go.Proofs.YtiaoifodaoifjaaDoor.Ge
namespace Go.Proofs.YtiaoifodaoifjaaDoor.Sb
open Go.Proofs.YtiaoifodaoifjaaDoor.Mk Go.Proofs.YtiaoifodaoifjaaDoor.Nu Go.Proofs.YtiaoifodaoifjaaDoor.Ge Go.Proofs.YtiaoifodaoifjaaDoor.Pn
def sibAt (s : ByteArray) (a : Int) : Option (Sib × Int) :=
  if (readN s a).2.2 = 0 ∧ (readN s (readN s a).2.1).2.2 = 0 ∧ (readN s (readN s (readN s a).2.1).2.1).2.2 = 0 ∧
    ((readN s (readN s (readN s a).2.1).2.1).1 = 0 ∨ (readN s (readN s (readN s a).2.1).2.1).1 = 1) ∧ (cutT s (readN s (readN s (readN s (readN s a).2.1).2.1).2.1)).2.2 = 0 then
    some ((((readN s a).1, (readN s (readN s a).2.1).1), decide ((readN s (readN s (readN s a).2.1).2.1).1 = 1), (cutT s (readN s (readN s (readN s (readN s a).2.1).2.1).2.1)).1),
      (cutT s (readN s (readN s (readN s (readN s a).2.1).2.1).2.1)).2.1)
  else none
section
variable {s : ByteArray} {a x a1 y a2 z a3 : Int} {d : ByteArray} {a4 : Int}
end
theorem readN_cases (s : ByteArray) (a : Int) : (readN s a).2.2 ≠ 0 ∨ ∃ x b, readN s a = (x, b, 0) := by
  by_cases h : (readN s a).2.2 = 0
  · exact .inr ⟨_, _, by rw [← h]⟩
  · exact .inl h
theorem cutT_cases (s : ByteArray) (R : Int × Int × Int) : (cutT s R).2.2 ≠ 0 ∨ ∃ x b, cutT s R = (x, b, 0) := by
  by_cases h : (cutT s R).2.2 = 0
  · exact .inr ⟨_, _, by rw [← h]⟩
  · exact .inl h
def sibsAt (s : ByteArray) : Nat → Int → Option (List Sib × Int)
  | 0, a => some ([], a)
  | k + 1, a => (sibAt s a).bind fun p => (sibsAt s k p.2).map fun q => (p.1 :: q.1, q.2)
def parseS (s : ByteArray) (a : Int) : Option (List Sib × Int) :=
  if (readN s a).2.2 = 0 ∧ 0 ≤ (readN s a).1 ∧ (readN s a).1 ≤ 8 then sibsAt s (readN s a).1.toNat (readN s a).2.1 else none
def setAt (s : ByteArray) (a : Int) : Option ((List (Int × Int) × List Sib) × Int) :=
  (seenAt s a).bind fun p => ((parseS s p.2).filter fun q => setB p.1 q.1).map fun q => ((p.1, q.1), q.2)
section
variable {s : ByteArray} {a : Int} {l : List (Int × Int)} {b : Int} {ss : List Sib} {e : Int}
end
section
variable {s : ByteArray} {l : List (Int × Int)} {ss : List Sib} {e : Int}
end
-- the bytes of a Sib
theorem extract_at {s : ByteArray} {k : Nat} {l : List UInt8} (h : Pn.At s k l) : s.extract k (k + l.length) = ⟨l.toArray⟩ := by
  apply ByteArray.ext
  apply Array.ext
  · rw [ByteArray.data_extract, Array.size_extract]
    have := h.1
    have e : s.data.size = s.size := rfl
    simp; omega
  · intro i h1 h2
    have h3 : i < l.length := by simpa using h2
    have h4 := h.2 i h3
    have h5 : k + i < s.size := by have := h.1; omega
    rw [byteN_eq s _ h5] at h4
    have h6 : s[k + i] = l[i] := UInt8.toNat_inj.1 h4
    simp only [ByteArray.data_extract, Array.getElem_extract]
    simp only [List.getElem_toArray]
    exact h6
theorem at_extract {s : ByteArray} {k n : Nat} (h : k + n ≤ s.size) : Pn.At s k (s.extract k (k + n)).data.toList := by
  have hl : (s.extract k (k + n)).data.toList.length = n := by
    rw [ByteArray.data_extract, Array.length_toList, Array.size_extract]
    have e : s.data.size = s.size := rfl
    omega
  refine ⟨by rw [hl]; exact h, fun j hj => ?_⟩
  rw [hl] at hj
  rw [byteN_eq s _ (by omega)]
  congr 1
  simp only [ByteArray.data_extract, Array.getElem_toList, Array.getElem_extract]
  rfl
theorem parse_fwd {s : ByteArray} {a : Nat} {l : List (Int × Int)} (h : rightB l = true) (hat : Pn.At s a (seenB l)) : seenAt s (a : Int) = some (l, ((a + (seenB l).length : Nat) : Int)) := by
  have h5 := right_len h
  obtain ⟨h3, h4⟩ := At.left (show Pn.At s a (enc (fold l.length) ++ l.flatMap markB) from hat)
  have r1 := readN_fwd h3 (by omega)
  have r2 := readMarks_fwd _ l _ (right_dot h) h4
  have hp : parse s (a : Int) = some (l, ((a + (enc (fold l.length)).length + (l.flatMap markB).length : Nat) : Int)) := by
    unfold parse
    rw [r1]
    simp only
    rw [if_pos ⟨trivial, by omega, by omega⟩, Int.toNat_natCast]; exact r2
  rw [seenAt_some hp h]
  unfold seenB
  rw [List.length_append, ← Nat.add_assoc]
def textR (s : ByteArray) (st : Int × Bool) : ByteArray × (Int × Bool) := if st.2 = true then (⟨#[]⟩, st) else if (cutT s (readN s st.1)).2.2 = 0 then ((cutT s (readN s st.1)).1, ((cutT s (readN s st.1)).2.1, false)) else (⟨#[]⟩, (st.1, true))
theorem textR_ok {s : ByteArray} {a b : Int} {d : ByteArray} (h : cutT s (readN s a) = (d, b, 0)) : textR s (a, false) = (d, (b, false)) := by unfold textR; simp [h]
open Go.RowKit Go.Proofs.YtiaoifodaoifjaaDoor.Mk Go.Proofs.YtiaoifodaoifjaaDoor.Nu Go.Proofs.YtiaoifodaoifjaaDoor.Ge Go.Proofs.YtiaoifodaoifjaaDoor.Pn Go.Proofs.YtiaoifodaoifjaaDoor.Se
def unC (s : ByteArray) : Int :=
  if 8000 < s.size then 2 else if s.size < 4 then 4 else if s.extract (s.size - 4) s.size = four (crcN (s.extract 0 (s.size - 4))) then 0 else 5
def unT (s : ByteArray) : ByteArray := if unC s = 0 then s.extract 0 (s.size - 4) else ⟨#[]⟩
theorem un_is (s : ByteArray) : unsealed s = out (unT s) 0 (unC s) := by
  unfold unsealed unT unC
  split
  · simp
  · split
    · simp
    · split <;> simp
theorem unC_ok {s : ByteArray} (h : unC s = 0) : ¬ 8000 < s.size ∧ ¬ s.size < 4 ∧ s.extract (s.size - 4) s.size = four (crcN (s.extract 0 (s.size - 4))) ∧ unT s = s.extract 0 (s.size - 4) := by
  have ht : unT s = s.extract 0 (s.size - 4) := if_pos h
  unfold unC at h
  split at h
  · cases h
  · rename_i h1
    split at h
    · cases h
    · rename_i h2
      split at h
      · rename_i h3; exact ⟨h1, h2, h3, ht⟩
      · cases h
theorem unT_size (s : ByteArray) : (unT s).size ≤ 8000 := by
  unfold unT
  split
  · rename_i h
    have := (unC_ok h).1
    rw [ByteArray.size_extract]; omega
  · exact Nat.zero_le _
theorem ext_join (s : ByteArray) (k : Nat) (h : k ≤ s.size) : s.extract 0 k ++ s.extract k s.size = s := by
  apply ext_list
  rw [ByteArray.data_append, ByteArray.data_extract, ByteArray.data_extract]
  have hk : k ≤ s.data.toList.length := by rw [Array.length_toList]; exact h
  simp
  exact List.take_of_length_le (by rw [Array.length_toList]; show s.size ≤ _; omega)
theorem un_text {s : ByteArray} (h : unC s = 0) : s = unT s ++ four (crcN (unT s)) ∧ ¬ 7996 < (unT s).size := by
  obtain ⟨h1, h2, h3, h4⟩ := unC_ok h
  refine ⟨?_, ?_⟩
  · rw [h4, ← h3]; exact (ext_join s _ (by omega)).symm
  · rw [h4, ByteArray.size_extract]; omega
theorem un_sealed {s : ByteArray} (h : unC s = 0) : sealed (unT s) = s := by
  obtain ⟨h1, h2⟩ := un_text h
  rw [sealed_short _ h2]; exact h1.symm
def txtA (t : ByteArray) (a : Int) : Option (ByteArray × Int) := if (cutT t (readN t a)).2.2 = 0 then some ((cutT t (readN t a)).1, (cutT t (readN t a)).2.1) else none
theorem txtA_yes {t : ByteArray} {a b : Int} {x : ByteArray} (h : cutT t (readN t a) = (x, b, 0)) : txtA t a = some (x, b) := by unfold txtA; rw [h]; simp
theorem txtA_read {t : ByteArray} {a b : Int} {x : ByteArray} (h : txtA t a = some (x, b)) : cutT t (readN t a) = (x, b, 0) := by
  unfold txtA at h
  split at h
  · rename_i h0
    simp only [Option.some.injEq, Prod.mk.injEq] at h
    rw [← h.1, ← h.2, ← h0]
  · cases h
theorem cut_inv {s : ByteArray} {a : Nat} {d : ByteArray} {e : Int} (h : cutT s (readN s (a : Int)) = (d, e, 0)) :
    Pn.At s a (enc (fold d.size) ++ d.data.toList) ∧ e = ((a + (enc (fold d.size) ++ d.data.toList).length : Nat) : Int) ∧ d.size ≤ 8000 := by
  rcases readN_cases s (a : Int) with h5 | ⟨n, a4, h5⟩
  · exact absurd (show (cutT s _).2.2 = 0 by rw [h]) (by
      obtain ⟨c, hc, hr⟩ := readN_bad s _ h5
      rw [hr, cut_bad s 0 0 c hc]; exact hc)
  obtain ⟨i4, rfl, _⟩ := readN_inv h5
  rw [h5] at h
  by_cases hn : n < 0 ∨ 8000 < n
  · rw [cut_range s n _ hn] at h; cases h
  obtain ⟨k, rfl⟩ : ∃ k : Nat, n = (k : Int) := ⟨n.toNat, by omega⟩
  by_cases hk : a + (enc (fold (k : Int))).length + k ≤ s.size
  rotate_left
  · rw [cut_short s k _ (by omega) (by omega)] at h; cases h
  rw [cut_ok s k _ (by omega) hk] at h
  simp only [Prod.mk.injEq] at h
  obtain ⟨rfl, rfl, _⟩ := h
  have hx := at_extract hk
  have hsz : (s.extract (a + (enc (fold (k : Int))).length) (a + (enc (fold (k : Int))).length + k)).size = k := by
    rw [ByteArray.size_extract]; omega
  have hle : (s.extract (a + (enc (fold (k : Int))).length) (a + (enc (fold (k : Int))).length + k)).data.toList.length = k := by
    rw [Array.length_toList]; exact hsz
  generalize s.extract (a + (enc (fold (k : Int))).length) (a + (enc (fold (k : Int))).length + k) = D at hx hsz hle ⊢
  rw [hsz]
  refine ⟨At.append i4 hx, ?_, by omega⟩
  rw [List.length_append, hle]; omega
open Go.RowKit Go.Proofs.YtiaoifodaoifjaaDoor.Mk Go.Proofs.YtiaoifodaoifjaaDoor.Nu Go.Proofs.YtiaoifodaoifjaaDoor.Ge Go.Proofs.YtiaoifodaoifjaaDoor.Pn Go.Proofs.YtiaoifodaoifjaaDoor.Se
def passA (t : ByteArray) : Option (ByteArray × List (Int × Int)) :=
  (txtA t 0).bind fun p => if Nm.nameB p.1 = true then (seenAt t p.2).bind fun q => if q.2 = (t.size : Int) then some (p.1, q.1) else none else none
theorem passA_inv {t : ByteArray} {p : ByteArray × List (Int × Int)} (h : passA t = some p) :
    ∃ a : Nat, txtA t 0 = some (p.1, (a : Int)) ∧ Nm.nameB p.1 = true ∧ seenAt t (a : Int) = some (p.2, (t.size : Int)) ∧ rightB p.2 = true ∧ Pn.At t 0 (passBB p.1 p.2) ∧ (passBB p.1 p.2).length = t.size ∧ p.1.size ≤ 8000 := by
  unfold passA at h
  simp only [Option.bind_eq_some_iff] at h
  obtain ⟨⟨y, a⟩, h1, h2⟩ := h
  split at h2
  · rename_i hn
    simp only [Option.bind_eq_some_iff] at h2
    obtain ⟨⟨l, e⟩, h3, h4⟩ := h2
    simp only at hn h3 h4
    split at h4
    · rename_i he
      simp only [Option.some.injEq] at h4
      subst h4
      have hc := txtA_read h1
      obtain ⟨i1, i2, i3⟩ := cut_inv (a := 0) hc
      rw [Nat.zero_add] at i2
      subst i2
      have hs := h3
      unfold seenAt at hs
      simp only [Option.filter_eq_some_iff] at hs
      obtain ⟨hp, hr⟩ := hs
      obtain ⟨j1, j2⟩ := parse_at hp
      rw [he] at h3
      refine ⟨_, h1, hn, h3, hr, At.append i1 (by rw [Nat.zero_add]; exact j1), ?_, i3⟩
      have hq : (passBB y l).length = (enc (fold y.size) ++ y.data.toList).length + (seenB l).length := List.length_append
      show (passBB y l).length = _
      omega
    · cases h4
  · cases h2
theorem passA_body {t : ByteArray} {p : ByteArray × List (Int × Int)} (h : passA t = some p) : passBody p.1 p.2 = t := by
  obtain ⟨a, _, hn, _, hr, hat, hl, h8⟩ := passA_inv h
  rw [passBody_is h8 hr]
  exact (At.whole hat hl).symm
theorem passA_ok {t : ByteArray} {p : ByteArray × List (Int × Int)} (h : passA t = some p) : passOk p.1 p.2 = true := by
  obtain ⟨a, _, hn, _, hr, _⟩ := passA_inv h
  unfold passOk
  rw [hn, hr]; rfl
theorem txtA_at {t y : ByteArray} {a : Nat} (h8 : y.size ≤ 8000) (h : Pn.At t a (enc (fold y.size) ++ y.data.toList)) : txtA t (a : Int) = some (y, ((a + (enc (fold y.size) ++ y.data.toList).length : Nat) : Int)) := by
  obtain ⟨h1, h2⟩ := At.left h
  have r1 := readN_fwd h1 (by omega)
  refine txtA_yes ?_
  rw [r1]
  have hz : y.data.toList.length = y.size := by rw [Array.length_toList]; rfl
  have hx := extract_at h2
  rw [hz] at hx
  rw [cut_ok t y.size _ h8 (by have := h2.1; omega), hx, List.length_append, hz]
  simp
  omega
theorem passA_fwd {y : ByteArray} {l : List (Int × Int)} (h : passOk y l = true) : passA (passBody y l) = some (y, l) := by
  obtain ⟨hn, hr⟩ := passOk_is h
  have h20 := (name_size hn).2
  have hb := passBody_is (by omega) hr (y := y)
  have hat : Pn.At (passBody y l) 0 (passBB y l) := by rw [hb]; exact at_self _
  have hz : (passBody y l).size = (passBB y l).length := by rw [hb]; simp [ByteArray.size]
  obtain ⟨h1, h2⟩ := At.left hat
  rw [Nat.zero_add] at h2
  have t1 := txtA_at (a := 0) (by omega) h1
  have t2 := parse_fwd hr h2
  unfold passA
  rw [show (0 : Int) = ((0 : Nat) : Int) from rfl, t1]
  simp only [Option.bind_some]
  rw [if_pos hn, Nat.zero_add, t2]
  simp only [Option.bind_some]
  have hq : (passBB y l).length = (enc (fold y.size) ++ y.data.toList).length + (seenB l).length := List.length_append
  rw [if_pos (by rw [hz, hq])]
theorem txtA_len {t y : ByteArray} {a e : Int} (ht : t.size ≤ 8000) (h : txtA t a = some (y, e)) : y.size ≤ 8000 := by
  have h2 := congrArg Prod.fst (txtA_read h)
  simp only at h2
  rw [← h2]
  unfold cutT
  split
  · exact Nat.zero_le _
  · split
    · exact Nat.zero_le _
    · split
      · exact Nat.zero_le _
      · simp only [ByteArray.size_extract]; omega
theorem text_at (t : ByteArray) (ht : t.size ≤ 8000) : ∃ (y : ByteArray) (n : Nat) (b : Bool), textR t (0, false) = (y, ((n : Int), b)) ∧ n ≤ t.size ∧ y.size ≤ 8000 ∧ (b = true → passA t = none) ∧ (b = false → txtA t 0 = some (y, (n : Int))) := by
  cases h : txtA t 0 with
  | none =>
    have hc : (cutT t (readN t 0)).2.2 ≠ 0 := fun hc => by
      unfold txtA at h
      rw [if_pos hc] at h
      cases h
    refine ⟨⟨#[]⟩, 0, true, ?_, Nat.zero_le _, Nat.zero_le _, fun _ => ?_, fun h => by cases h⟩
    · unfold textR; simp [hc]
    · unfold passA; rw [h]; rfl
  | some p =>
    obtain ⟨y, a⟩ := p
    have h2 := txtA_read h
    obtain ⟨i1, i2, i3⟩ := cut_inv (a := 0) h2
    refine ⟨y, _, false, ?_, i1.1, i3, fun h => (by cases h), fun _ => by rw [← i2]⟩
    rw [textR_ok h2, i2]
def prC (k s : ByteArray) : Int :=
  if 8000 < k.size ∨ 8000 < s.size then 2 else if Nm.nameB k = true then (if s.size = 0 then 0 else if unC s = 0 then (match passA (unT s) with | none => 3 | some p => if p.1 = k then 0 else 6) else unC s) else 1
def prL (k s : ByteArray) : List (Int × Int) :=
  if 8000 < k.size ∨ 8000 < s.size then [] else if Nm.nameB k = true then (if s.size = 0 then [] else if unC s = 0 then (match passA (unT s) with | none => [] | some p => if p.1 = k then p.2 else []) else []) else []
section
variable {k s : ByteArray}
theorem pr_size (h : 8000 < k.size ∨ 8000 < s.size) : prL k s = [] ∧ prC k s = 2 := ⟨if_pos h, if_pos h⟩
theorem pr_form (h : ¬ (8000 < k.size ∨ 8000 < s.size)) (h1 : Nm.nameB k = false) : prL k s = [] ∧ prC k s = 1 := by
  unfold prL prC; rw [if_neg h, if_neg h, if_neg (by rw [h1]; simp), if_neg (by rw [h1]; simp)]; exact ⟨rfl, rfl⟩
theorem pr_empty (h : ¬ (8000 < k.size ∨ 8000 < s.size)) (h1 : Nm.nameB k = true) (h2 : s.size = 0) : prL k s = [] ∧ prC k s = 0 := by
  unfold prL prC; rw [if_neg h, if_neg h, if_pos h1, if_pos h1, if_pos h2, if_pos h2]; exact ⟨rfl, rfl⟩
theorem pr_seal (h : ¬ (8000 < k.size ∨ 8000 < s.size)) (h1 : Nm.nameB k = true) (h2 : ¬ s.size = 0) (h3 : unC s ≠ 0) : prL k s = [] ∧ prC k s = unC s := by
  unfold prL prC; rw [if_neg h, if_neg h, if_pos h1, if_pos h1, if_neg h2, if_neg h2, if_neg h3, if_neg h3]; exact ⟨rfl, rfl⟩
theorem pr_none (h : ¬ (8000 < k.size ∨ 8000 < s.size)) (h1 : Nm.nameB k = true) (h2 : ¬ s.size = 0) (h3 : unC s = 0) (h4 : passA (unT s) = none) : prL k s = [] ∧ prC k s = 3 := by
  unfold prL prC; rw [if_neg h, if_neg h, if_pos h1, if_pos h1, if_neg h2, if_neg h2, if_pos h3, if_pos h3, h4]; exact ⟨rfl, rfl⟩
theorem pr_other {p : ByteArray × List (Int × Int)} (h : ¬ (8000 < k.size ∨ 8000 < s.size)) (h1 : Nm.nameB k = true) (h2 : ¬ s.size = 0) (h3 : unC s = 0) (h4 : passA (unT s) = some p) (h5 : ¬ p.1 = k) : prL k s = [] ∧ prC k s = 6 := by
  unfold prL prC; rw [if_neg h, if_neg h, if_pos h1, if_pos h1, if_neg h2, if_neg h2, if_pos h3, if_pos h3, h4]; exact ⟨if_neg h5, if_neg h5⟩
theorem pr_yes {p : ByteArray × List (Int × Int)} (h : ¬ (8000 < k.size ∨ 8000 < s.size)) (h1 : Nm.nameB k = true) (h2 : ¬ s.size = 0) (h3 : unC s = 0) (h4 : passA (unT s) = some p) (h5 : p.1 = k) : prL k s = p.2 ∧ prC k s = 0 := by
  unfold prL prC; rw [if_neg h, if_neg h, if_pos h1, if_pos h1, if_neg h2, if_neg h2, if_pos h3, if_pos h3, h4]; exact ⟨if_pos h5, if_pos h5⟩
end
theorem prL_len (k s : ByteArray) : (prL k s).length ≤ 5 := by
  by_cases h : 8000 < k.size ∨ 8000 < s.size
  · rw [(pr_size h).1]; simp
  cases h1 : Nm.nameB k
  · rw [(pr_form h h1).1]; simp
  by_cases h2 : s.size = 0
  · rw [(pr_empty h h1 h2).1]; simp
  by_cases h3 : unC s = 0
  rotate_left
  · rw [(pr_seal h h1 h2 h3).1]; simp
  cases h4 : passA (unT s) with
  | none => rw [(pr_none h h1 h2 h3 h4).1]; simp
  | some p =>
    by_cases h5 : p.1 = k
    · rw [(pr_yes h h1 h2 h3 h4 h5).1]; exact right_len (passOk_is (passA_ok h4)).2
    · rw [(pr_other h h1 h2 h3 h4 h5).1]; simp
theorem passV_back {s : ByteArray} (hu : unC s = 0) {p : ByteArray × List (Int × Int)} (h : passV p.1 p.2 = s) : passA (unT s) = some p := by
  obtain ⟨hz, h4, _, ht⟩ := unC_ok hu
  have hm : passOk p.1 p.2 = true := by
    cases hc : passOk p.1 p.2
    · have : passV p.1 p.2 = ⟨#[]⟩ := if_neg (by rw [hc]; simp)
      rw [this] at h; subst h; exact absurd (show (ByteArray.mk #[]).size < 4 by decide) h4
    · rfl
  have hb : passV p.1 p.2 = sealed (passBody p.1 p.2) := if_pos hm
  obtain ⟨hn, hr⟩ := passOk_is hm
  have hl := passBody_size hn hr
  rw [hb, sealed_short _ (by omega)] at h
  have e : unT s = passBody p.1 p.2 := by
    rw [ht, ← h]
    exact (front (passBody p.1 p.2) (four (crcN (passBody p.1 p.2))) rfl).1
  rw [e]
  exact passA_fwd hm
theorem passV_of {s : ByteArray} (hu : unC s = 0) {p : ByteArray × List (Int × Int)} (h : passA (unT s) = some p) : passV p.1 p.2 = s := by
  have : passV p.1 p.2 = sealed (passBody p.1 p.2) := if_pos (passA_ok h)
  rw [this, passA_body h]
  exact un_sealed hu
theorem seen_tail {t : ByteArray} {a : Nat} {l : List (Int × Int)} (h : seenAt t (a : Int) = some (l, (t.size : Int))) (h8 : t.size ≤ 8000) :
    readL (t.extract a t.size) = l ∧ readC (t.extract a t.size) = 0 := by
  have hs := h
  unfold seenAt at hs
  simp only [Option.filter_eq_some_iff] at hs
  obtain ⟨hp, hr⟩ := hs
  obtain ⟨i, e⟩ := parse_at hp
  have hx := extract_at i
  rw [show a + (seenB l).length = t.size by omega] at hx
  have hat : seenAt (t.extract a t.size) ((0 : Nat) : Int) = some (l, ((0 + (seenB l).length : Nat) : Int)) := parse_fwd hr (by rw [hx]; exact at_self _)
  have hz : (t.extract a t.size).size = (seenB l).length := by rw [hx]; simp [ByteArray.size]
  rw [Nat.zero_add, ← hz] at hat
  exact read_yes (by rw [ByteArray.size_extract]; omega) hat rfl
open Go.RowKit Go.Proofs.YtiaoifodaoifjaaDoor.Mk Go.Proofs.YtiaoifodaoifjaaDoor.Nu Go.Proofs.YtiaoifodaoifjaaDoor.Ge Go.Proofs.YtiaoifodaoifjaaDoor.Pn Go.Proofs.YtiaoifodaoifjaaDoor.Se
theorem pass_un {t : ByteArray} (h : ¬ 7996 < t.size) : unC (sealed t) = 0 ∧ unT (sealed t) = t := by
  have h1 := seal_open t h
  rw [← sealed_short t h, un_is] at h1
  unfold out at h1
  simp only [Value.agg.injEq, Array.mk.injEq, List.cons.injEq, Value.string.injEq, Value.int.injEq, and_true, true_and] at h1
  exact ⟨h1.2.symm, h1.1.symm⟩
theorem pass_none {k : ByteArray} {l : List (Int × Int)} (h : passV k l = ⟨#[]⟩) : passOk k l = false := by
  cases hc : passOk k l
  · rfl
  · have h1 : passV k l = sealed (passBody k l) := if_pos hc
    have h2 := passBody_size (passOk_is hc).1 (passOk_is hc).2
    rw [h1, sealed_short _ (by omega)] at h
    have h3 := congrArg ByteArray.size h
    rw [ByteArray.size_append, four_size] at h3
    have h4 : (ByteArray.mk #[]).size = 0 := rfl
    omega
structure Wrote (k : ByteArray) (l : List (Int × Int)) (T : ByteArray) : Prop where
  ok : passOk k l = true
  nm : Nm.nameB k = true
  rt : rightB l = true
  un : unC T = 0
  pa : passA (unT T) = some (k, l)
  is : T = sealed (passBody k l)
  b2 : (passBody k l).size ≤ 200
  sz : T.size = (passBody k l).size + 4
theorem pass_wrote {k : ByteArray} {l : List (Int × Int)} (h : passV k l ≠ ⟨#[]⟩) : Wrote k l (passV k l) := by
  have hm : passOk k l = true := by
    cases hc : passOk k l
    · exact absurd (show passV k l = ⟨#[]⟩ from if_neg (by rw [hc]; simp)) h
    · rfl
  have hb : passV k l = sealed (passBody k l) := if_pos hm
  obtain ⟨h1, h2⟩ := passOk_is hm
  have h3 := passBody_size h1 h2
  obtain ⟨h4, h5⟩ := pass_un (t := passBody k l) (by omega)
  refine ⟨hm, h1, h2, by rw [hb]; exact h4, by rw [hb, h5]; exact passA_fwd hm, hb, h3, ?_⟩
  rw [hb, sealed_short _ (by omega), ByteArray.size_append, four_size]
theorem Wrote.mine {k T : ByteArray} {l : List (Int × Int)} (h : Wrote k l T) : prL k T = l ∧ prC k T = 0 := by
  have h1 := (name_size h.nm).2
  have h2 := h.b2
  have h3 := h.sz
  exact pr_yes (by omega) h.nm (by omega) h.un h.pa rfl
theorem name_z {k : ByteArray} (h : Nm.nameB k = true) (h4 : k.size ≤ 4) : Nm.nameB (k ++ ⟨#[122]⟩) = true := by
  have h1 := (name_size h).1
  have ha : (List.range k.size).all (Nm.fits k) = true := by
    unfold Nm.nameB at h
    simp only [Bool.and_eq_true] at h
    exact h.2
  have hd : (k ++ ⟨#[122]⟩).data.toList = k.data.toList ++ [122] := by rw [ByteArray.data_append]; simp
  have hl : k.data.toList.length = k.size := by rw [Array.length_toList]; rfl
  have hz : (k ++ ⟨#[122]⟩).size = k.size + 1 := by rw [ByteArray.size_append]; rfl
  have hb : ∀ j, j < k.size → Nm.fits (k ++ ⟨#[122]⟩) j = Nm.fits k j := by
    intro j hj
    unfold Nm.fits Nm.byteAt
    rw [hd]
    have : (k.data.toList ++ [122]).getD j 0 = k.data.toList.getD j 0 := by
      rw [List.getD_eq_getElem?_getD, List.getD_eq_getElem?_getD, List.getElem?_append_left (by omega)]
    rw [this]
  have hlast : Nm.fits (k ++ ⟨#[122]⟩) k.size = true := by
    unfold Nm.fits Nm.byteAt
    rw [hd]
    have : (k.data.toList ++ [122]).getD k.size 0 = 122 := by
      rw [List.getD_eq_getElem?_getD, List.getElem?_append_right (by omega), hl]
      simp
    rw [this, if_neg (by omega)]
    decide
  unfold Nm.nameB
  rw [hz]
  simp only [Bool.and_eq_true, decide_eq_true_eq]
  refine ⟨⟨by omega, by omega⟩, ?_⟩
  rw [List.all_eq_true] at ha ⊢
  intro j hj
  rw [List.mem_range] at hj
  by_cases hk : j = k.size
  · rw [hk]; exact hlast
  · rw [hb j (by omega)]; exact ha j (by rw [List.mem_range]; omega)
theorem z_ne (k : ByteArray) : ¬ k = k ++ ⟨#[122]⟩ := fun h => by
  have h2 := congrArg ByteArray.size h
  have hz : (k ++ ⟨#[122]⟩).size = k.size + 1 := by rw [ByteArray.size_append]; rfl
  omega
theorem Wrote.other {k T : ByteArray} {l : List (Int × Int)} (h : Wrote k l T) (h4 : k.size ≤ 4) : prL (k ++ ⟨#[122]⟩) T = [] ∧ prC (k ++ ⟨#[122]⟩) T = 6 := by
  have hz : (k ++ ⟨#[122]⟩).size = k.size + 1 := by rw [ByteArray.size_append]; rfl
  have h2 := h.b2
  have h3 := h.sz
  exact pr_other (by omega) (name_z h.nm h4) (by omega) h.un h.pa (z_ne k)
theorem Wrote.spoilt {k T v : ByteArray} {l : List (Int × Int)} (h : Wrote k l T) (hv : v.size = T.size) (hs : out ⟨#[]⟩ 0 5 = unsealed v) : prL k v = [] ∧ prC k v = 5 := by
  have h1 := (name_size h.nm).2
  have h2 := h.b2
  have h3 := h.sz
  rw [un_is] at hs
  unfold out at hs
  simp only [Value.agg.injEq, Array.mk.injEq, List.cons.injEq, Value.string.injEq, Value.int.injEq, and_true, true_and] at hs
  have hc : unC v = 5 := hs.2.symm
  have := pr_seal (k := k) (s := v) (by omega) h.nm (by omega) (by rw [hc]; decide)
  rw [hc] at this
  exact this
end Go.Proofs.YtiaoifodaoifjaaDoor.Sb
namespace Go.Proofs.YtiaoifodaoifjaaDoor.Mk
open Go.RowKit
theorem ret_str {a b : ByteArray} (h : a = b) : Ending.returned (.string a) = .returned (.string b) := by rw [h]
theorem wf_dot {m : Int × Int} (h : dotB m = true) : (Lit.int .i64 m.1).wf = true ∧ (Lit.int .i64 m.2).wf = true := by
  have := (dotB_iff m).1 h
  exact ⟨WalkArith.wf_i64 (by omega), WalkArith.wf_i64 (by omega)⟩
set_option maxRecDepth 100000 in
set_option maxHeartbeats 2000000 in
theorem spec_bytes (a : Option Addr) (cap : Nat) (l : List (Int × Int)) (w : World) (hr : rightB l = true) (h : MarksAt w a l) :
    Calls Tryd.prog 62 #[.slice a l.length cap] w fun e w' => e = .returned (.string (bytesV l)) ∧ Below w.heap.size w w' := by
  have H := jj h
  have HR := jj hr
  have h5 := right_len hr
  clear h hr
  go_enter Tryd.func62, Tryd.ntmps62
  go_wp2_with fail
  refine (Nu.spec_PutNum (l.length : Int) (WalkArith.wf_i64 (by omega)) _).mono ?_
  rintro e w0 ⟨rfl, hb0⟩
  rw [Nu.numS_mk]
  have HB0 := jj hb0
  clear hb0
  go_wp2
  go_loopw [3, 4] (fun z i wr => ∃ (k : Nat) (t : ByteArray), k ≤ l.length ∧ i = .int .i64 k ∧ z = .string t ∧ upTo l k t ∧ Below w.heap.size w wr) (fun _ i _ => l.length - (intOf i).toNat)
  case atStart => exact ⟨0, _, Nat.zero_le _, rfl, rfl, upTo_zero l h5, HB0.out⟩
  case round =>
    obtain ⟨k, t, hk, rfl, rfl, ht, hbel⟩ := hrel
    have HT := jj ht
    have hts := ht.2
    have HB := jj hbel
    clear ht hbel
    by_cases hlt : k < l.length
    · obtain ⟨g, off, rfl, hg, c0, c1⟩ := (H.out.mono HB.out).cells hlt
      have hd := right_dot HR.out _ (List.getElem_mem hlt)
      have HN := jj (upTo_next HT.out hlt hd)
      have hw := wf_dot hd
      have hm := (dotB_iff _).1 hd
      clear hd
      generalize l[k] = m at c0 c1 HN hw hm
      obtain ⟨x, y⟩ := m
      simp only at c0 c1 HN hw hm
      have Wx := jj hw.1
      have Wy := jj hw.2
      have sx := Nu.numS_size_of x (by omega)
      have sy := Nu.numS_size_of y (by omega)
      have i0 : (0 : Int) ≤ (k : Int) := by omega
      have i1 : (k : Int) < (l.length : Int) := by omega
      have z1 : ¬ 9223372036854775807 < t.size + (Nu.numS x).size := by omega
      have z2 : ¬ 9223372036854775807 < t.size + (Nu.numS x).size + (Nu.numS y).size := by omega
      clear hw
      go_wp2_with fail
      refine wp_region_held_drew (S := (fun w' => w'.cell? ⟨g, off + k * 2, none⟩ = some (.int .i64 x) ∧ w'.cell? ⟨g, off + k * 2 + 1, none⟩ = some (.int .i64 y) ∧ g < w'.heap.size)) (by kernel_rfl) (by first | exact ⟨c0, c1, hg⟩ | (go_split_ands; refine ⟨?_, ?_, ?_⟩; (rw [hb.cell (by assumption)]; assumption); (rw [hb.cell (by assumption)]; assumption); (have := hb.size; omega))) (fun hHeld => ?_)
      refine tk 0 (v := ?_) ?_
      try walk_nrm
      refine tk 1 (v := ?_) ?_
      try walk_nrm
      refine tk 2 (v := ?_) ?_
      try walk_nrm
      refine tk 3 (v := ?_) ?_
      try walk_nrm
      refine tk 4 (v := ?_) ?_
      try walk_nrm
      refine tk 5 (v := ?_) ?_
      try walk_nrm
      refine tk 8 (v := ?_) ?_
      try walk_nrm
      refine tk 9 (v := ?_) ?_
      try walk_nrm
      refine tk 10 (v := ?_) ?_
      try walk_nrm
      refine tk 11 (v := ?_) ?_
      try walk_nrm
      refine tk 12 (v := ?_) ?_
      try walk_nrm
      refine rd 6 (fun K hK => ?_)
      go_simp
      go_at_call 79; refine (Nu.spec_PutNum x Wx.out _).mono ?_; rintro e w1 ⟨rfl, hb⟩; rw [Nu.numS_mk]; have HB1 := jj (HB.out.drew.trans (hb.mono HB.out.size))
      go_wp2_with fail
      refine hK.out _ _ (by first | exact ⟨c0, c1, hg⟩ | (go_split_ands; refine ⟨?_, ?_, ?_⟩; (rw [hb.cell (by assumption)]; assumption); (rw [hb.cell (by assumption)]; assumption); (have := hb.size; omega))) (fun hHeld => ?_)
      clear hK K
      try walk_nrm
      refine tk 7 (v := ?_) ?_
      try walk_nrm
      refine rd 13 (fun K hK => ?_)
      go_simp
      go_at_call 79; refine (Nu.spec_PutNum y Wy.out _).mono ?_; rintro e w2 ⟨rfl, hb⟩; rw [Nu.numS_mk]; have HB2 := jj (HB1.out.trans (hb.mono HB1.out.size))
      go_wp2_with fail
      refine hK.out _ _ (by first | exact ⟨c0, c1, hg⟩ | (go_split_ands; refine ⟨?_, ?_, ?_⟩; (rw [hb.cell (by assumption)]; assumption); (rw [hb.cell (by assumption)]; assumption); (have := hb.size; omega))) (fun hHeld => ?_)
      clear hK K
      try walk_nrm
      refine tk 14 (v := ?_) ?_
      try walk_nrm
      refine tk 15 (v := ?_) ?_
      try walk_nrm
      refine rx ?_
      go_wp2
      go_roundw
      case rel => exact ⟨k + 1, _, by omega, by go_num, rfl, HN.out, HB2.out⟩
      case measure => go_light; simp [intOf]; omega
    · go_wp2
      go_ret
      exact ⟨ret_str (upTo_end HT.out (by omega) HR.out), HB.out⟩
set_option maxRecDepth 100000 in
theorem spec_seenBytes (a : Option Addr) (cap : Nat) (l : List (Int × Int)) (w : World) (hl : l.length ≤ maxLen) (h : MarksAt w a l) :
    Calls Tryd.prog 60 #[.slice a l.length cap] w fun e w' => e = .returned (.string (bytesV l)) ∧ Below w.heap.size w w' := by
  have H := jj h
  clear h
  cases hr : rightB l
  · have HE := jj (bytesV_no hr)
    go_enter Tryd.func60, Tryd.ntmps60
    go_wp2_with (go_at_call 13; refine (spec_seenRight _ _ l _ hl H.out).mono ?_; rintro e w' ⟨rfl, hb⟩)
    go_ret
    exact ⟨ret_str HE.out.symm, hb⟩
  · have HR := jj hr
    go_enter Tryd.func60, Tryd.ntmps60
    go_wp2_with fail
    refine (spec_seenRight a cap l _ hl H.out).mono ?_
    rintro e w1 ⟨rfl, hb⟩
    go_wp2_with fail
    refine (spec_bytes a cap l _ HR.out (H.out.mono hb)).mono ?_
    rintro e w2 ⟨rfl, hb2⟩
    go_wp2
    go_ret
    exact ⟨rfl, hb.trans (hb2.mono hb.size)⟩
end Go.Proofs.YtiaoifodaoifjaaDoor.Mk
namespace Go.Proofs.YtiaoifodaoifjaaDoor.Sb
open Go.RowKit Go.Proofs.YtiaoifodaoifjaaDoor.Mk
set_option maxRecDepth 100000 in
theorem spec_pass (y : ByteArray) (a : Option Addr) (cap : Nat) (l : List (Int × Int)) (w : World) (hk : Nm.nameB y = true) (hr : rightB l = true) (h : MarksAt w a l) :
    Calls Tryd.prog 36 #[.string y, .slice a l.length cap] w fun e w' => e = .returned (.string (Se.sealed (passBody y l))) ∧ Below w.heap.size w w' := by
  have hz := passBody_size hk hr
  have hy := (name_size hk).2
  have H := jj h
  have HR := jj hr
  have HE := jj (show Nu.putText y ++ bytesV l = passBody y l from rfl)
  have hs : (Nu.putText y).size + (bytesV l).size ≤ 200 := by rw [← ByteArray.size_append]; exact hz
  have hw : ¬ 9223372036854775807 < (Nu.putText y).size + (bytesV l).size := by omega
  have D := jj (show Base w w from Below.refl _ _)
  clear h hk hr
  go_enter Tryd.func36, Tryd.ntmps36
  go_wp2_with fail
  refine (Nu.spec_PutText y (by unfold maxLen; omega) _).mono ?_
  rintro e w1 ⟨rfl, hb⟩
  replace D := jj (D.out.below hb)
  clear hb
  go_wp2_with fail
  refine (spec_bytes a cap l _ HR.out (H.out.mono D.out)).mono ?_
  rintro e w2 ⟨rfl, hb⟩
  replace D := jj (D.out.below hb)
  clear hb
  go_wp2_with fail
  rw [HE.out]
  refine (Se.spec_Seal (passBody y l) (by unfold maxLen; omega) _).mono ?_
  rintro e w3 ⟨rfl, hb⟩
  replace D := jj (D.out.below hb)
  clear hb
  go_wp2
  go_ret
  exact ⟨rfl, D.out⟩
set_option maxRecDepth 100000 in
theorem spec_passOf (y : ByteArray) (a : Option Addr) (cap : Nat) (l : List (Int × Int)) (w : World) (hy : y.size ≤ maxLen) (hl : l.length ≤ maxLen) (h : MarksAt w a l) :
    Calls Tryd.prog 10 #[.string y, .slice a l.length cap] w fun e w' => e = .returned (.string (passV y l)) ∧ Below w.heap.size w w' := by
  have H := jj h
  clear h
  cases hk : Nm.nameB y
  · have HV := jj (show passV y l = ⟨#[]⟩ from if_neg (by unfold passOk; rw [hk]; simp))
    have HK := jj hk
    clear hk
    go_enter Tryd.func10, Tryd.ntmps10
    go_wp2_with fail
    refine (Nm.spec_NameRight y hy _).mono ?_
    rintro e w1 ⟨rfl, rfl⟩
    rw [HK.out]
    go_wp2
    go_ret
    exact ⟨Se.ret_str HV.out.symm, Below.refl _ _⟩
  have HK := jj hk
  clear hk
  go_enter Tryd.func10, Tryd.ntmps10
  go_wp2_with fail
  refine (Nm.spec_NameRight y hy _).mono ?_
  rintro e w1 ⟨rfl, rfl⟩
  rw [HK.out]
  go_wp2_with fail
  refine (spec_seenRight a cap l _ hl H.out).mono ?_
  rintro e w1 ⟨rfl, hb⟩
  have D := jj (show Base w w1 from hb)
  clear hb
  cases hr : rightB l
  · have HV := jj (show passV y l = ⟨#[]⟩ from if_neg (by unfold passOk; rw [hr]; simp))
    clear hr
    go_wp2
    go_ret
    exact ⟨Se.ret_str HV.out.symm, D.out⟩
  have HR := jj hr
  have HV := jj (show passV y l = Se.sealed (passBody y l) from if_pos (by unfold passOk; rw [hr, HK.out]; rfl))
  clear hr
  go_wp2_with fail
  refine (spec_pass y a cap l _ HK.out HR.out (H.out.mono D.out)).mono ?_
  rintro e w2 ⟨rfl, hb⟩
  replace D := jj (D.out.below hb)
  clear hb
  go_wp2
  go_ret
  exact ⟨Se.ret_str HV.out.symm, D.out⟩
end Go.Proofs.YtiaoifodaoifjaaDoor.Sb
namespace Go.Proofs.YtiaoifodaoifjaaDoor.Dr
open Go.RowKit Nu
theorem Src.setSize {w : World} {B g : Nat} {a : Option Addr} {len cap at_ mix : Nat} {sz : Int} (h : Src w B g a len cap at_ mix sz) (x : Int) : Src (w.setCell ⟨g, 3, none⟩ (.int .i64 x)) B g a len cap at_ mix x where
  c0 := by rw [World.cell?_setCell_other _ _ _ _ (ne_off (by omega))]; exact h.c0
  c1 := by rw [World.cell?_setCell_other _ _ _ _ (ne_off (by omega))]; exact h.c1
  c2 := by rw [World.cell?_setCell_other _ _ _ _ (ne_off (by omega))]; exact h.c2
  c3 := World.cell?_setCell_same _ _ _ h.c3
  free := fun j => by rw [World.frozen?_setCell]; exact h.free j
  hat := h.hat
  hlen := h.hlen
  hmix := h.hmix
  hB := h.hB
  row := h.row.below ((Below.refl _ _).setCell h.hB _)
theorem wrap_nat (x : Int) : ∃ m : Nat, m < 18446744073709551616 ∧ IntKind.u64.wrap x = (m : Int) := by
  rw [IntKind.wrap_u64]; exact ⟨(x % 18446744073709551616).toNat, by omega, by omega⟩
theorem src_new (w : World) (a : Option Addr) (len cap : Nat) (hl : len ≤ 1048576) (h : Bytes8 w w.heap.size a len) :
    Src (w.alloc (.cells #[.slice a len cap, .int .i64 0, .int .u64 88172645463325252, .int .i64 0] 69)) w.heap.size w.heap.size a len cap 0 88172645463325252 0 where
  c0 := by rw [World.cell?_alloc_mark]; rfl
  c1 := by rw [World.cell?_alloc_mark]; rfl
  c2 := by rw [World.cell?_alloc_mark]; rfl
  c3 := by rw [World.cell?_alloc_mark]; rfl
  free := fun j => by rw [World.frozen?_alloc_mark]; simp
  hat := by omega
  hlen := hl
  hmix := by omega
  hB := Nat.le_refl _
  row := h.below ((Below.refl _ _).alloc (Nat.le_refl _) _)
def Sourced (w : World) (e : Ending) (w' : World) : Prop :=
  e = .returned (.pointer (some ⟨w.heap.size, 0, none⟩)) ∧ HasSrc w' w.heap.size w.heap.size ∧ Below w.heap.size w w'
set_option maxRecDepth 100000 in
set_option maxHeartbeats 2000000 in
theorem source_new (w : World) (a : Option Addr) (len cap : Nat) (hl : len ≤ 1048576) (h : Bytes8 w w.heap.size a len) :
    Calls Tryd.prog 18 #[.slice a len cap] w (Sourced w) := by
  have H := jj h
  clear h
  go_enter Tryd.func18, Tryd.ntmps18
  go_wp2
  go_loopw [4] (fun i wr => ∃ k mix : Nat, k ≤ len ∧ k ≤ 64 ∧ i = .int .i64 (k : Int) ∧ Src wr w.heap.size w.heap.size a len cap 0 mix 0 ∧ Below w.heap.size w wr) (fun i _ => 64 - (intOf i).toNat)
  case atStart => exact ⟨0, _, by omega, by omega, rfl, src_new w a len cap hl H.out, (Below.refl _ _).alloc (Nat.le_refl _) _⟩
  case round =>
    obtain ⟨k, mix, hk, hk6, rfl, hS, hbel⟩ := hrel
    have HS := jj hS
    have HB := jj hbel
    clear hbel
    by_cases hgo : k < len ∧ k < 64
    · obtain ⟨hg1, hg2⟩ := hgo
      obtain ⟨b, off, ha, hb, hrow⟩ : ∃ b off, a = some ⟨b, off, none⟩ ∧ b < w.heap.size ∧ ∀ i, i < len → ∃ z : Nat, z < 256 ∧ wr.cell? ⟨b, off + i, none⟩ = some (.int .u8 (z : Int)) := by
        rcases hS.row with h | h
        · omega
        · exact h
      subst ha
      obtain ⟨z, hz, iz⟩ := hrow k hg1
      have i2 := hS.c2
      obtain ⟨m1, hm1, he1⟩ := xor_u64 (mix : Int) (z : Int)
      obtain ⟨m2, hm2, he2⟩ := wrap_nat ((m1 : Int) * 1099511628211)
      have HM := jj hm2
      have t0 : (0 : Int) ≤ (k : Int) := by omega
      have t1 : (k : Int) < (len : Int) := by omega
      clear hS hrow hm1 hm2
      go_wp2
      go_still_tail 14, (by kernel_rfl)
      change wpList _ _ _ _ _ wr.drew
      have i2' : wr.drew.cell? ⟨w.heap.size, 2, none⟩ = some (.int .u64 (mix : Int)) := i2
      have f2' : wr.drew.frozen? ⟨w.heap.size, 2, none⟩ = false := HS.out.free 2
      have HS2 := jj (HS.out.drew.setMix m2 HM.out)
      have HB2 := jj (HB.out.drew.setCell (p := ⟨w.heap.size, 2, none⟩) (Nat.le_refl _) (.int .u64 (m2 : Int)))
      clear i2 iz
      generalize wr.drew = w2 at i2' f2' HS2 HB2 ⊢
      go_wp2
      go_roundw
      case rel => exact ⟨k + 1, m2, by omega, by omega, by go_num, HS2.out, HB2.out⟩
      case measure => go_light; simp [intOf]; omega
    · have i3 := hS.c3
      have f3 := hS.free 3
      clear hS
      have fin : ∀ x : Int, Sourced w (.returned (.pointer (some ⟨w.heap.size, 0, none⟩))) (wr.setCell ⟨w.heap.size, 3, none⟩ (.int .i64 x)) := fun x =>
        ⟨rfl, ⟨_, _, _, _, _, _, HS.out.setSize x⟩, HB.out.setCell (Nat.le_refl _) _⟩
      have fin2 : ∀ x y : Int, Sourced w (.returned (.pointer (some ⟨w.heap.size, 0, none⟩))) ((wr.setCell ⟨w.heap.size, 3, none⟩ (.int .i64 x)).setCell ⟨w.heap.size, 3, none⟩ (.int .i64 y)) := fun x y =>
        ⟨rfl, ⟨_, _, _, _, _, _, (HS.out.setSize x).setSize y⟩, (HB.out.setCell (Nat.le_refl _) _).setCell (Nat.le_refl _) _⟩
      have FIN := jj fin
      have FIN2 := jj fin2
      clear fin fin2
      by_cases hle : k < len
      · have hk64 : k = 64 := by omega
        subst hk64
        go_wp2
        all_goals go_ret
        all_goals first | exact FIN.out _ | exact FIN2.out _ _
      · go_wp2
        all_goals go_ret
        all_goals first | exact FIN.out _ | exact FIN2.out _ _
def Came (w : World) (a : Option Addr) (len cap : Nat) (zs : List Int) : Prop :=
  (a = none ∧ len = 0 ∧ cap = 0 ∧ zs = []) ∨
  ∃ x, a = some x ∧ len ≤ cap ∧ cap ≤ maxLen ∧ zs.length = cap ∧ (∀ i, i < zs.length → w.cell? (x.add i) = some (.int .u8 (zs.getD i 0))) ∧ ∀ n ∈ zs, (Lit.int .u8 n).wf = true
theorem Came.bytes {w : World} {a : Option Addr} {len cap : Nat} {zs : List Int} (h : Came w a len cap zs) : Bytes8 w w.heap.size a len ∧ len ≤ maxLen := by
  rcases h with ⟨_, rfl, _, _⟩ | ⟨x, rfl, hl, hm, hz, hc, hw⟩
  · exact ⟨.inl rfl, Nat.zero_le _⟩
  · refine ⟨?_, Nat.le_trans hl hm⟩
    by_cases h0 : len = 0
    · exact .inl h0
    right
    obtain ⟨b, off, spot⟩ := x
    have c0 := hc 0 (by omega)
    have hspot : spot = none := by simpa [Addr.add] using World.cell?_spot c0
    subst hspot
    refine ⟨b, off, rfl, by simpa [Addr.add] using World.block_lt_of_cell? w _ c0, fun i hi => ?_⟩
    have hi' : i < zs.length := by omega
    have c1 := hc i hi'
    have e : (⟨b, off, none⟩ : Addr).add i = ⟨b, off + i, none⟩ := by unfold Addr.add; split <;> simp_all
    rw [e] at c1
    have hg : zs.getD i 0 = zs[i] := by simp [List.getD, hi']
    have hb := bounds_u8 (hw zs[i] (List.getElem_mem hi'))
    rw [hg] at c1
    exact ⟨zs[i].toNat, by omega, by rw [c1]; congr 2; omega⟩
end Go.Proofs.YtiaoifodaoifjaaDoor.Dr
namespace Go.Proofs.YtiaoifodaoifjaaDoor.Mk
open Go.RowKit Dr
theorem wpAnyH_mono {P : Program} {md : Region.Mode} {ops : Array Oper} {Q : Exit → Act → World → Prop} {S S' : World → Prop} (h : ∀ w, S' w → S w) :
    ∀ (fuel : Nat) (listed : Array Bool) (a : Act) (w : World), wpAnyH P md ops Q S' fuel listed a w → wpAnyH P md ops Q S fuel listed a w
  | 0, _, _, _, hh => hh
  | fuel + 1, _, _, _, hh => ⟨hh.1, fun i hi => wpOp_mono (fun a' w' h' => ⟨h _ h'.1, wpAnyH_mono h fuel _ a' w' h'.2⟩) (hh.2 i hi)⟩
theorem within_grown {w w' : World} {g : Nat} (h : w.grownBy w' (some g)) : Within g (g + 1) w w' :=
  ⟨h.os, h.tape, h.output, h.size, fun k hk ho => h.block k hk (fun e => by injection e with e; omega)⟩
theorem Within.onto {lo hi : Nat} {w0 w w' : World} (h : Within lo hi w0 w) (hb : Below w.heap.size w w') : Within lo hi w0 w' :=
  h.trans ⟨hb.os, hb.tape, hb.output, hb.size, fun k hk _ => hb.block k hk⟩
theorem Within.new {lo hi lo' hi' : Nat} {w0 w w' : World} (h : Within lo hi w0 w) (hw : Within lo' hi' w w') (hl : w0.heap.size ≤ lo') : Within lo hi w0 w' :=
  ⟨hw.os.trans h.os, hw.tape.trans h.tape, hw.output.trans h.output, Nat.le_trans h.size hw.size, fun k hk ho => (hw.block k (Nat.lt_of_lt_of_le hk h.size) (by omega)).trans (h.block k hk ho)⟩
theorem hasSrc_same {w w' : World} {B g : Nat} (h : HasSrc w B g) (hs : ∀ k, k < w.heap.size → k < B ∨ k = g → w'.heap[k]? = w.heap[k]?) : HasSrc w' B g := by
  obtain ⟨a, len, cap, at_, mix, sz, S⟩ := h
  have hg : g < w.heap.size := by simpa using World.block_lt_of_cell? w _ S.c0
  have e := hs g hg (.inr rfl)
  refine ⟨a, len, cap, at_, mix, sz, ⟨(World.cell?_of_block (a := ⟨g, 0, none⟩) e).trans S.c0, (World.cell?_of_block (a := ⟨g, 1, none⟩) e).trans S.c1, (World.cell?_of_block (a := ⟨g, 2, none⟩) e).trans S.c2, (World.cell?_of_block (a := ⟨g, 3, none⟩) e).trans S.c3,
    fun j => (World.frozen?_of_block (a := ⟨g, j, none⟩) e).trans (S.free j), S.hat, S.hlen, S.hmix, S.hB, ?_⟩⟩
  rcases S.row with h0 | ⟨b, off, ha, hb, hc⟩
  · exact .inl h0
  · exact .inr ⟨b, off, ha, hb, fun i hi => by
      obtain ⟨z, hz, hcell⟩ := hc i hi
      have hbl := World.block_lt_of_cell? w _ hcell
      exact ⟨z, hz, (World.cell?_of_block (a := ⟨b, off + i, none⟩) (hs b hbl (.inl hb))).trans hcell⟩⟩
theorem hasSrc_below {w w' : World} {B g : Nat} (h : HasSrc w B g) (hb : Below w.heap.size w w') : HasSrc w' B g := hasSrc_same h fun k hk _ => hb.block k hk
theorem hasSrc_within {w w' : World} {B g lo hi : Nat} (h : HasSrc w B g) (hw : Within lo hi w w') (h1 : g < lo ∨ hi ≤ g) (h2 : B ≤ lo) : HasSrc w' B g := hasSrc_same h fun k hk ho => hw.block k hk (by omega)
end Go.Proofs.YtiaoifodaoifjaaDoor.Mk
namespace Go.Proofs.YtiaoifodaoifjaaDoor.Dr
theorem HasSrc.below {w w' : World} {B g : Nat} (h : HasSrc w B g) (hb : RowKit.Below w.heap.size w w') : HasSrc w' B g := Mk.hasSrc_below h hb
theorem HasSrc.within {w w' : World} {B g lo hi : Nat} (h : HasSrc w B g) (hw : Mk.Within lo hi w w') (h1 : g < lo ∨ hi ≤ g) (h2 : B ≤ lo) : HasSrc w' B g := Mk.hasSrc_within h hw h1 h2
end Go.Proofs.YtiaoifodaoifjaaDoor.Dr
namespace Go.Proofs.YtiaoifodaoifjaaDoor.Mk
open Go.RowKit Dr
theorem bw {w0 w w' : World} {lo hi : Nat} (h : Below w0.heap.size w0 w) (hw : Within lo hi w w') (hl : w0.heap.size ≤ lo) : Below w0.heap.size w0 w' := h.trans (hw.below hl h.size)
def Code (w : World) (a : Option Addr) (len : Nat) : Prop := len ≤ 1048576 ∧ Bytes8 w w.heap.size a len
end Go.Proofs.YtiaoifodaoifjaaDoor.Mk
