/- Mathematics of the encodings read back: a number, or a string, is got back from its bytes, with the place behind it; bytes that end too early give ErrShort. -/
import Derived.Test.YthlbhmnjdcnejaaDoorGetText
import Derived.Test.YthlbhmnjdcnejaaDoorText
namespace Go.Proofs.YthlbhmnjdcnejaaDoor.Pn
open Go.RowKit Nu Ge

theorem unz_fold (n : Int) : unz (fold n) = n := by
  unfold unz fold
  split <;> split <;> omega
/-- the bytes of s from place k on are l -/
def At (s : ByteArray) (k : Nat) (l : List UInt8) : Prop := k + l.length ≤ s.size ∧ ∀ j (h : j < l.length), byteN s (k + j) = l[j].toNat
theorem At.tail {s : ByteArray} {k : Nat} {c : UInt8} {l : List UInt8} (h : At s k (c :: l)) : At s (k + 1) l := by
  refine ⟨by have := h.1; simp at this; omega, fun j hj => ?_⟩
  have := h.2 (j + 1) (by simp; omega)
  rw [show k + 1 + j = k + (j + 1) by omega, this]; simp
theorem At.head {s : ByteArray} {k : Nat} {c : UInt8} {l : List UInt8} (h : At s k (c :: l)) : byteN s k = c.toNat ∧ k < s.size := by
  have h1 := h.1
  simp at h1
  exact ⟨by have := h.2 0 (by simp); simpa using this, by omega⟩
theorem nine (v i u : Nat) (hi : i < 10) (h : v * 128 ^ i + u < 18446744073709551616) : ¬ (i = 9 ∧ 1 < v) := by
  rintro ⟨rfl, hv⟩
  have e9 : (128 : Nat) ^ 9 = 9223372036854775808 := by decide
  rw [e9] at h
  omega
/-- a number's bytes are read back -/
theorem G_enc (s : ByteArray) (a : Nat) : ∀ (v i u : Nat), At s (a + i) (enc v) → i < 10 → u < 128 ^ i → v * 128 ^ i + u < 18446744073709551616 → (i = 0 ∨ 0 < v) →
    G s a i u = (unz (u + v * 128 ^ i), ((a + i + (enc v).length : Nat) : Int), 0) := by
  intro v
  induction v using Nat.strongRecOn with
  | _ v ih =>
    intro i u hat hi hu hlt hz
    by_cases h8 : v < 128
    · rw [enc_small v h8] at hat ⊢
      obtain ⟨hb, hk⟩ := hat.head
      rw [toNat_ofNat v (by omega)] at hb
      rw [G_last hi (by omega) (by rw [hb]; exact nine v i u hi hlt) (by rw [hb]; exact h8) (by rw [hb]; omega), hb, Nat.mod_eq_of_lt h8]
      rfl
    · rw [enc_more v h8] at hat ⊢
      obtain ⟨hb, hk⟩ := hat.head
      rw [toNat_ofNat (v % 128 + 128) (by omega)] at hb
      have hi9 : i < 9 := left_lt v i (by omega) (by omega)
      have hp : (128 : Nat) ^ (i + 1) = 128 * 128 ^ i := by rw [Nat.pow_succ]; omega
      have hsum : v / 128 * 128 ^ (i + 1) + (u + v % 128 * 128 ^ i) = v * 128 ^ i + u := by
        have e : v = 128 * (v / 128) + v % 128 := by omega
        rw [hp]
        calc v / 128 * (128 * 128 ^ i) + (u + v % 128 * 128 ^ i) = (128 * (v / 128) + v % 128) * 128 ^ i + u := by rw [Nat.add_mul, ← Nat.mul_assoc, Nat.mul_comm (v / 128) 128]; omega
          _ = v * 128 ^ i + u := by rw [← e]
      have hm : (v % 128 + 128) % 128 = v % 128 := by omega
      have hul : u + v % 128 * 128 ^ i < 128 ^ (i + 1) := by
        have : v % 128 * 128 ^ i ≤ 127 * 128 ^ i := Nat.mul_le_mul_right _ (by omega)
        rw [hp]; omega
      rw [G_more hi (by omega) (by omega) (by rw [hb]; omega), hb, hm]
      rw [ih (v / 128) (by omega) (i + 1) (u + v % 128 * 128 ^ i) hat.tail (by omega) hul (by rw [hsum]; exact hlt) (.inr (by omega))]
      have e2 : u + v % 128 * 128 ^ i + v / 128 * 128 ^ (i + 1) = u + v * 128 ^ i := by omega
      rw [e2]
      simp only [List.length_cons]
      rw [show a + (i + 1) + (enc (v / 128)).length = a + i + ((enc (v / 128)).length + 1) by omega]
/-- bytes that go on, and then the string's end -/
theorem G_cut (s : ByteArray) (a : Nat) : ∀ (k i u : Nat), (∀ j, j < k → 128 ≤ byteN s (a + i + j)) → s.size ≤ a + i + k → i + k ≤ 9 → G s a i u = (0, 0, 4) := by
  intro k
  induction k with
  | zero => intro i u _ hs hk; exact G_short (by omega) (by omega)
  | succ k ih =>
    intro i u hb hs hk
    by_cases h1 : s.size ≤ a + i
    · exact G_short (by omega) h1
    have hb0 := hb 0 (by omega)
    rw [Nat.add_zero] at hb0
    rw [G_more (by omega) h1 (by omega) (by omega)]
    refine ih (i + 1) _ (fun j hj => ?_) (by omega) (by omega)
    have := hb (j + 1) (by omega)
    rwa [show a + (i + 1) + j = a + i + (j + 1) by omega]
/-- all bytes of a number but the last go on -/
theorem enc_goes_on (v : Nat) : ∀ j (h : j + 1 < (enc v).length), 128 ≤ ((enc v)[j]'(by omega)).toNat := by
  induction v using Nat.strongRecOn with
  | _ v ih =>
    intro j hj
    by_cases h8 : v < 128
    · have : (enc v).length = 1 := by rw [enc_small v h8]; rfl
      omega
    · have e := enc_more v h8
      cases j with
      | zero =>
        have : (enc v)[0]'(by omega) = UInt8.ofNat (v % 128 + 128) := by simp [e]
        rw [this, toNat_ofNat _ (by omega)]; omega
      | succ j =>
        have hl : (enc v).length = (enc (v / 128)).length + 1 := by rw [e]; rfl
        have : (enc v)[j + 1]'(by omega) = (enc (v / 128))[j]'(by omega) := by simp [e]
        rw [this]; exact ih (v / 128) (by omega) j (by omega)
theorem byteN_list (s : ByteArray) (l : List UInt8) (h : s.data.toList = l) (k : Nat) : byteN s k = (l.getD k 0).toNat := by unfold byteN; rw [h]
theorem at_of {s : ByteArray} {p l q : List UInt8} (h : s.data.toList = p ++ (l ++ q)) : At s p.length l := by
  refine ⟨by rw [← size_data s, h]; simp, fun j hj => ?_⟩
  rw [byteN_list s _ h, List.getD, List.getElem?_append_right (by omega), Nat.add_sub_cancel_left, List.getElem?_append_left hj]
  simp [hj]
theorem readN_enc {s : ByteArray} {p q : List UInt8} {v : Nat} (h : s.data.toList = p ++ (enc v ++ q)) (hv : v < 18446744073709551616) : readN s (p.length : Nat) = (unz v, ((p.length + (enc v).length : Nat) : Int), 0) := by
  unfold readN
  rw [if_neg (by omega), Int.toNat_natCast, G_enc s p.length v 0 0 (by rw [Nat.add_zero]; exact at_of h) (by omega) (by omega) (by omega) (.inl rfl)]
  simp
theorem readN_cut {s : ByteArray} {v : Nat} (h : s.data.toList = (enc v).take ((enc v).length - 1)) (hv : v < 18446744073709551616) : readN s 0 = (0, 0, 4) := by
  have hl := enc_len10 v hv
  have hp := enc_pos v
  have hz : s.size = (enc v).length - 1 := by rw [← size_data s, h, List.length_take]; omega
  unfold readN
  rw [if_neg (by omega)]
  refine G_cut s 0 ((enc v).length - 1) 0 0 (fun j hj => ?_) (by omega) (by omega)
  rw [byteN_list s _ h, List.getD, List.getElem?_take_of_lt (by omega), Nat.zero_add, List.getElem?_eq_getElem (by omega)]
  exact enc_goes_on v j (by omega)
theorem getN_short {s : ByteArray} (h : ¬ 8000 < s.size) (a : Int) : getN s a = readN s a := if_neg h
/-- a number is got back from its bytes between others -/
theorem num_back (n : Int) (hn : -9223372036854775808 ≤ n ∧ n ≤ 9223372036854775807) (s : ByteArray) (h : s.data.toList = [120, 121] ++ (enc (fold n) ++ [122])) : getN s 2 = (n, ((numS n).size : Int) + 2, 0) := by
  have hl := enc_len10 (fold n) (fold_lt n hn)
  have hz : s.size = 2 + ((enc (fold n)).length + 1) := by rw [← size_data s, h]; simp; omega
  have hsz : (numS n).size = (enc (fold n)).length := by rw [← size_data, numS_data]
  rw [getN_short (by omega)]
  have := readN_enc (p := [120, 121]) h (fold_lt n hn)
  rw [unz_fold] at this
  rw [show (2 : Int) = (([120, 121] : List UInt8).length : Nat) from rfl, this, hsz]
  simp only [List.length_cons, List.length_nil]
  rw [show ((0 + 1 + 1 + (enc (fold n)).length : Nat) : Int) = ((enc (fold n)).length : Int) + ((0 + 1 + 1 : Nat) : Int) by omega]
theorem num_short (n : Int) (hn : -9223372036854775808 ≤ n ∧ n ≤ 9223372036854775807) (s : ByteArray) (h : s.data.toList = (enc (fold n)).take ((enc (fold n)).length - 1)) : getN s 0 = (0, 0, 4) := by
  have hl := enc_len10 (fold n) (fold_lt n hn)
  have hz : s.size = (enc (fold n)).length - 1 := by rw [← size_data s, h, List.length_take]; omega
  rw [getN_short (by omega)]
  exact readN_cut h (fold_lt n hn)
/-- a string is got back from its bytes behind another -/
theorem text_back (u s : ByteArray) (hu : u.size ≤ 8000) (h : s.data.toList = [120] ++ (enc (fold u.size) ++ u.data.toList)) (h8 : ¬ 8000 < s.size) : cutT s (getN s 1) = (u, ((numS u.size ++ u).size : Int) + 1, 0) := by
  have hz : s.size = 1 + ((enc (fold u.size)).length + u.size) := by rw [← size_data s, h]; simp [size_data]; omega
  have hsz : (numS u.size ++ u).size = (enc (fold u.size)).length + u.size := by rw [ByteArray.size_append, ← size_data (numS u.size), numS_data]
  have hr := readN_enc (p := [120]) h (fold_lt u.size (by omega))
  rw [unz_fold] at hr
  rw [getN_short h8, show (1 : Int) = (([120] : List UInt8).length : Nat) from rfl, hr]
  simp only [List.length_cons, List.length_nil]
  rw [cut_ok s u.size (0 + 1 + (enc (fold u.size)).length) hu (by omega), hsz]
  have he : s.extract (0 + 1 + (enc (fold u.size)).length) (0 + 1 + (enc (fold u.size)).length + u.size) = u := by
    apply ByteArray.ext
    apply Array.toList_inj.1
    rw [ByteArray.data_extract, Array.toList_extract, h]
    have : ([120] ++ (enc (fold u.size) ++ u.data.toList) : List UInt8) = ([120] ++ enc (fold u.size)) ++ u.data.toList := by simp
    rw [this, List.extract_eq_take_drop]
    rw [List.drop_left' (by simp; omega), List.take_of_length_le (by rw [size_data]; omega)]
  rw [he]
  congr 2
  omega
/-- without its last byte: too short -/
theorem text_short (u s : ByteArray) (hu : u.size ≤ 8000) (h : s.data.toList = (enc (fold u.size) ++ u.data.toList).take ((enc (fold u.size) ++ u.data.toList).length - 1)) (h8 : ¬ 8000 < s.size) : (cutT s (getN s 0)).2.2 = 4 := by
  have hp := enc_pos (fold u.size)
  have hl : (enc (fold u.size) ++ u.data.toList).length = (enc (fold u.size)).length + u.size := by rw [List.length_append, size_data]
  by_cases h0 : u.size = 0
  · have hd : u.data.toList = [] := List.length_eq_zero_iff.1 (by rw [size_data, h0])
    rw [hd, List.append_nil] at h
    rw [getN_short h8, readN_cut h (fold_lt u.size (by omega)), cut_bad s 0 0 4 (by decide)]
  · have h2 : s.data.toList = [] ++ (enc (fold u.size) ++ u.data.toList.take (u.size - 1)) := by
      rw [h, hl, show (enc (fold u.size)).length + u.size - 1 = (enc (fold u.size)).length + (u.size - 1) by omega, List.take_length_add_append]; rfl
    have hz : s.size = (enc (fold u.size)).length + (u.size - 1) := by rw [← size_data s, h2]; simp [size_data]
    have hr := readN_enc (p := []) h2 (fold_lt u.size (by omega))
    rw [unz_fold] at hr
    rw [getN_short h8, show (0 : Int) = (([] : List UInt8).length : Nat) from rfl, hr]
    simp only [List.length_nil]
    rw [cut_short s u.size (0 + (enc (fold u.size)).length) hu (by omega)]
end Go.Proofs.YthlbhmnjdcnejaaDoor.Pn
