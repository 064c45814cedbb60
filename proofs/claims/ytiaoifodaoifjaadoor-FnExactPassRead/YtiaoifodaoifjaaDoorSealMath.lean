/- Mathematics of sealed strings: a seal is opened again; with one byte changed it is refused; a CRC goes on over concatenated strings. -/
import Derived.Test.YtiaoifodaoifjaaDoorUnseal
set_option linter.unusedSimpArgs false
set_option linter.unusedVariables false
namespace Go.Proofs.YtiaoifodaoifjaaDoor.Se
open Go.RowKit Nu Cr

theorem xor_cancel (a b : Nat) : (a ^^^ b) ^^^ b = a := by rw [Nat.xor_assoc, Nat.xor_self, Nat.xor_zero]
theorem xor_inj {a b c : Nat} (h : a ^^^ c = b ^^^ c) : a = b := by
  have := congrArg (· ^^^ c) h
  simpa [xor_cancel] using this
theorem cstep_inj {r r' : Nat} (h : r < 4294967296) (h' : r' < 4294967296) (e : cstep r = cstep r') : r = r' := by
  have no : ∀ x y : Nat, x < 2147483648 → y < 2147483648 → x ^^^ 3988292384 ≠ y := fun x y hx hy he => by
    have h1 : x ^^^ (x ^^^ 3988292384) = x ^^^ y := by rw [he]
    rw [← Nat.xor_assoc, Nat.xor_self, Nat.zero_xor] at h1
    have h2 : x ^^^ y < 2 ^ 31 := Nat.xor_lt_two_pow (by omega) (by omega)
    omega
  unfold cstep at e
  by_cases p : r % 2 = 1 <;> by_cases p' : r' % 2 = 1
  · rw [if_pos p, if_pos p'] at e
    have := xor_inj e
    omega
  · rw [if_pos p, if_neg p'] at e
    exact absurd e (no _ _ (by omega) (by omega))
  · rw [if_neg p, if_pos p'] at e
    exact absurd e.symm (no _ _ (by omega) (by omega))
  · rw [if_neg p, if_neg p'] at e
    omega
theorem citer_inj (k : Nat) {r r' : Nat} (h : r < 4294967296) (h' : r' < 4294967296) (e : citer k r = citer k r') : r = r' := by
  induction k with
  | zero => exact e
  | succ k ih => exact ih (cstep_inj (citer_lt k r h) (citer_lt k r' h') e)
theorem creg_inj (l : List UInt8) {r r' : Nat} (h : r < 4294967296) (h' : r' < 4294967296) (e : creg l r = creg l r') : r = r' := by
  induction l generalizing r r' with
  | nil => exact e
  | cons c l ih =>
    have hc := c.toNat_lt
    have e1 := ih (cbyte_lt r c.toNat h (by omega)) (cbyte_lt r' c.toNat h' (by omega)) e
    exact xor_inj (citer_inj 8 (xor_lt _ _ h (by omega)) (xor_lt _ _ h' (by omega)) e1)
/-- one byte changed: another register -/
theorem creg_set (l : List UInt8) (p : Nat) (hp : p < l.length) (b : UInt8) (hb : b ≠ l[p]) (r : Nat) (h : r < 4294967296) : creg (l.set p b) r ≠ creg l r := by
  intro e
  rw [List.set_eq_take_append_cons_drop, if_pos hp, creg_append] at e
  have hl : l = l.take p ++ l[p] :: l.drop (p + 1) := by rw [List.getElem_cons_drop, List.take_append_drop]
  have e2 : creg l r = creg (l[p] :: l.drop (p + 1)) (creg (l.take p) r) := by
    conv => lhs; rw [hl]
    rw [creg_append]
  rw [e2] at e
  have hr := creg_lt (l.take p) r h
  have hb1 := b.toNat_lt
  have hb2 := l[p].toNat_lt
  have e3 := creg_inj (l.drop (p + 1)) (cbyte_lt _ b.toNat hr (by omega)) (cbyte_lt _ l[p].toNat hr (by omega)) e
  have e4 := citer_inj 8 (xor_lt _ _ hr (by omega)) (xor_lt _ _ hr (by omega)) e3
  rw [Nat.xor_comm _ b.toNat, Nat.xor_comm _ l[p].toNat] at e4
  exact hb (UInt8.toNat_inj.1 (xor_inj e4))
theorem fourL_inj {c c' : Nat} (h : c < 4294967296) (h' : c' < 4294967296) (e : fourL c = fourL c') : c = c' := by
  unfold fourL at e
  injection e with e0 e
  injection e with e1 e
  injection e with e2 e
  injection e with e3 _
  have g : ∀ a b : Nat, a < 256 → b < 256 → UInt8.ofNat a = UInt8.ofNat b → a = b := fun a b ha hb he => by
    have := congrArg UInt8.toNat he
    rwa [toNat_ofNat a ha, toNat_ofNat b hb] at this
  have g0 := g _ _ (by omega) (by omega) e0
  have g1 := g _ _ (by omega) (by omega) e1
  have g2 := g _ _ (by omega) (by omega) e2
  have g3 := g _ _ (by omega) (by omega) e3
  omega
/-- the CRC by the list of bytes -/
theorem crcN_list {s t : ByteArray} (hs : ¬ 8000 < s.size) (ht : ¬ 8000 < t.size) (e : crcN s = crcN t) : creg s.data.toList 4294967295 = creg t.data.toList 4294967295 := by
  rw [crcN_short s hs, crcN_short t ht] at e
  simpa using xor_inj e
theorem front (t f : ByteArray) (hf : f.size = 4) : (t ++ f).extract 0 ((t ++ f).size - 4) = t ∧ (t ++ f).extract ((t ++ f).size - 4) (t ++ f).size = f := by
  have hz : (t ++ f).size = t.size + 4 := by rw [ByteArray.size_append, hf]
  rw [hz]
  have h4 : f.data.size = 4 := hf
  constructor
  · apply ByteArray.ext
    simp [ByteArray.data_extract, ByteArray.data_append]
  · apply ByteArray.ext
    have e1 : t.data.extract t.size (t.size + 4) = #[] := Array.eq_empty_of_size_eq_zero (by rw [Array.size_extract]; show min (t.size + 4) t.size - t.size = 0; omega)
    have e2 : f.data.extract (t.size - t.data.size) (t.size + 4 - t.data.size) = f.data := by
      rw [show t.size - t.data.size = 0 from Nat.sub_self _, show t.size + 4 - t.data.size = f.data.size by rw [h4]; show t.size + 4 - t.size = 4; omega]
      simp
    rw [ByteArray.data_extract, ByteArray.data_append, Nat.add_sub_cancel, Array.extract_append, e1, e2]; simp
theorem seal_open (t : ByteArray) (h : ¬ 7996 < t.size) : out t 0 0 = unsealed (t ++ four (crcN t)) := by
  obtain ⟨e1, e2⟩ := front t (four (crcN t)) rfl
  have hz : (t ++ four (crcN t)).size = t.size + 4 := by rw [ByteArray.size_append]; rfl
  have := un_ok (t ++ four (crcN t)) (by omega) (by omega) (by rw [e1, e2])
  rw [e1] at this; exact this
theorem ext_list {a b : ByteArray} (h : a.data.toList = b.data.toList) : a = b := ByteArray.ext (Array.toList_inj.1 h)
theorem seal_bad (t : ByteArray) (h : ¬ 7996 < t.size) (s : ByteArray) (p : Nat) (b : UInt8) (hp : p < (t.data.toList ++ fourL (crcN t)).length) (hb : b ≠ (t.data.toList ++ fourL (crcN t))[p])
    (e : s.data.toList = (t.data.toList ++ fourL (crcN t)).set p b) : out ⟨#[]⟩ 0 5 = unsealed s := by
  have hl : s.size = t.size + 4 := by
    rw [← size_data s, e, List.length_set, List.length_append, size_data]; rfl
  apply un_bad s (by omega) (by omega)
  intro he
  by_cases hlt : p < t.data.toList.length
  · -- a byte of the text
    have e1 : (t.data.toList ++ fourL (crcN t)).set p b = t.data.toList.set p b ++ fourL (crcN t) := by rw [List.set_append_left _ _ hlt]
    have hs : s = ⟨(t.data.toList.set p b).toArray⟩ ++ four (crcN t) := by
      apply ext_list; rw [e, e1, ByteArray.data_append]; simp [four]
    obtain ⟨f1, f2⟩ := front ⟨(t.data.toList.set p b).toArray⟩ (four (crcN t)) rfl
    rw [← hs] at f1 f2
    rw [f1, f2] at he
    have hT : (⟨(t.data.toList.set p b).toArray⟩ : ByteArray).size = t.size := by rw [← size_data, ← size_data]; simp
    have e5 := fourL_inj (crcN_lt _) (crcN_lt _) (by have := congrArg (fun x : ByteArray => x.data.toList) he; simpa [four] using this)
    have e6 := crcN_list (by omega) (by omega) e5
    have hb' : b ≠ t.data.toList[p] := by rwa [List.getElem_append_left hlt] at hb
    exact creg_set t.data.toList p hlt b hb' 4294967295 (by omega) e6.symm
  · -- a byte of the sum
    have hlt' : t.data.toList.length ≤ p := by omega
    have e1 : (t.data.toList ++ fourL (crcN t)).set p b = t.data.toList ++ (fourL (crcN t)).set (p - t.data.toList.length) b := by rw [List.set_append_right _ _ hlt']
    have hs : s = t ++ ⟨((fourL (crcN t)).set (p - t.data.toList.length) b).toArray⟩ := by
      apply ext_list; rw [e, e1, ByteArray.data_append]; simp
    obtain ⟨f1, f2⟩ := front t ⟨((fourL (crcN t)).set (p - t.data.toList.length) b).toArray⟩ (by rw [← size_data]; simp [fourL])
    rw [← hs] at f1 f2
    rw [f1, f2] at he
    have e7 := congrArg (fun x : ByteArray => x.data.toList) he
    simp only [four] at e7
    have hq : p - t.data.toList.length < (fourL (crcN t)).length := by rw [List.length_append] at hp; omega
    have e8 : ((fourL (crcN t)).set (p - t.data.toList.length) b)[p - t.data.toList.length]'(by rw [List.length_set]; exact hq) = (fourL (crcN t))[p - t.data.toList.length] := by
      congr 1
    rw [List.getElem_set_self] at e8
    apply hb
    rw [List.getElem_append_right hlt']; exact e8
theorem crc_more (t u : ByteArray) (h : t.size + u.size ≤ 8000) : crcMore (crc t) u = crc (t ++ u) := by
  rw [crc_eq t]
  have h1 := crcMore_nat (crcN t) u (by omega) (crcN_lt t)
  rw [h1]
  have hz : (t ++ u).size = t.size + u.size := ByteArray.size_append
  have h2 := crcMore_nat 0 (t ++ u) (by omega) (by omega)
  rw [show ((0 : Nat) : Int) = 0 from rfl] at h2
  show _ = crcMore 0 (t ++ u)
  rw [h2, crcN_short t (by omega), xor_cancel, ByteArray.data_append, Array.toList_append, creg_append]
end Go.Proofs.YtiaoifodaoifjaaDoor.Se
