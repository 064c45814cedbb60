/- The text that a law marks memory with: the contract of laws.markText. Condition: a number from 1 to 1000000000. -/
import Derived.Test.YtloenigleamcoaaBase
import Derived.Test.YtloenigleamcoaaFrame
set_option linter.unusedSimpArgs false
set_option linter.unusedVariables false
namespace Go.Proofs.Ytloenigleamcoaa.Sb
open Go.RowKit Go.Proofs.Ytloenigleamcoaa.Mk

/-- the digits of a number -/
def digs : Nat → List UInt8
  | 0 => []
  | n + 1 => digs ((n + 1) / 10) ++ [UInt8.ofNat (48 + (n + 1) % 10)]
decreasing_by omega
def markT (n : Nat) : ByteArray := ⟨#[109] ++ (digs n).toArray⟩
theorem digs_zero : digs 0 = [] := by unfold digs; rfl
theorem digs_pos {n : Nat} (h : 0 < n) : digs n = digs (n / 10) ++ [UInt8.ofNat (48 + n % 10)] := by
  cases n with
  | zero => omega
  | succ n => rw [digs]
theorem digs_len : ∀ (m n : Nat), n < 10 ^ m → (digs n).length ≤ m
  | 0, n, h => by
    have : n = 0 := by simpa using h
    subst this; rw [digs_zero]; simp
  | m + 1, n, h => by
    by_cases h0 : n = 0
    · subst h0; rw [digs_zero]; simp
    · rw [digs_pos (by omega), List.length_append]
      have := digs_len m (n / 10) (by rw [Nat.pow_succ] at h; omega)
      simp; omega
theorem conv1 (w : World) (k : Nat) (hk : k < 256) :
    (convert 101 9 (.slice (some ⟨w.heap.size, 0, none⟩) 1 1)).run Try.prog (w.alloc (.cells #[.int .u8 (k : Int)] 5)) = .ok (.string ⟨#[UInt8.ofNat k]⟩) (w.alloc (.cells #[.int .u8 (k : Int)] 5)) := by
  have := run_convert_bytes_back (P := Try.prog) (w.alloc (.cells #[.int .u8 (k : Int)] 5)) 101 9 5 ⟨w.heap.size, 0, none⟩ 1 [UInt8.ofNat k] Try.underlying101 Try.underlying5 Try.underlying9 (fun j hj => by
    have hj0 : j = 0 := by simp at hj; omega
    subst hj0
    have e : (⟨w.heap.size, 0, none⟩ : Addr).add 0 = ⟨w.heap.size, 0, none⟩ := by unfold Addr.add; split <;> simp_all
    rw [e, World.cell?_alloc_mark]
    have : (UInt8.ofNat k).toNat = k := Nu.toNat_ofNat k hk
    simp [this])
  simpa using this
set_option maxRecDepth 100000 in
set_option maxHeartbeats 1000000 in
theorem markText (n : Nat) (w : World) (h0 : 0 < n) (h1 : n ≤ 1000000000) :
    Calls Try.prog 89 #[.int .i64 (n : Int)] w fun e w' => e = .returned (.string (markT n)) ∧ Below w.heap.size w w' := by
  have h2 : ¬ (n : Int) ≤ 0 := by omega
  go_enter Try.func89, Try.ntmps89
  go_wp2
  go_loopw [0, 3] (fun p z wr => ∃ (k : Nat) (s : ByteArray), k ≤ n ∧ p = .int .i64 (k : Int) ∧ z = .string s ∧ digs n = digs k ++ s.data.toList ∧ Below w.heap.size w wr) (fun p _ _ => (intOf p).toNat)
  case atStart => exact ⟨n, ⟨#[]⟩, Nat.le_refl _, rfl, rfl, by simp, Below.refl _ _⟩
  case round =>
    obtain ⟨k, s, hk, rfl, rfl, ht, hbel⟩ := hrel
    have HT := Lib.hid ht
    have HB := Lib.hid hbel
    clear ht hbel
    have hlen : s.size ≤ 10 := by
      have a := digs_len 10 n (by omega)
      have e2 : s.data.toList.length = s.size := by rw [Array.length_toList]; rfl
      rw [HT.out, List.length_append] at a
      omega
    by_cases hp : 0 < k
    · have hp' : (0 : Int) < (k : Int) := by omega
      have hcv := conv1 wr (48 + k % 10) (by omega)
      have ec : ((48 + k % 10 : Nat) : Int) = 48 + (k : Int) % 10 := by omega
      rw [ec] at hcv
      have HN := Lib.hid (show digs n = digs (k / 10) ++ (ByteArray.mk #[UInt8.ofNat (48 + k % 10)] ++ s).data.toList by rw [HT.out, digs_pos hp, ByteArray.data_append]; simp)
      have hs1 : (ByteArray.mk #[UInt8.ofNat (48 + k % 10)]).size = 1 := rfl
      generalize ByteArray.mk #[UInt8.ofNat (48 + k % 10)] = b1 at hcv HN hs1
      have hz : ¬ 9223372036854775807 < b1.size + s.size := by omega
      clear ec
      have hq : (k : Int).tdiv 10 = ((k / 10 : Nat) : Int) := by rw [Int.tdiv_eq_ediv_of_nonneg (by omega)]; omega
      go_wp2
      go_roundw
      case rel => exact ⟨k / 10, b1 ++ s, by omega, by go_num, rfl, HN.out, HB.out.alloc HB.out.size _⟩
      case measure => go_light; simp [intOf]; omega
    · have hp' : ¬ (0 : Int) < (k : Int) := by omega
      have hk0 : k = 0 := by omega
      have hz : ¬ 9223372036854775807 < (ByteArray.mk #[109]).size + s.size := by
        have : (ByteArray.mk #[109]).size = 1 := rfl
        omega
      have HR := Lib.hid (show markT n = ByteArray.mk #[109] ++ s by
        unfold markT
        apply ByteArray.ext
        rw [HT.out, hk0, digs_zero, ByteArray.data_append]; simp)
      go_wp2
      go_ret
      exact ⟨by rw [HR.out]; rfl, HB.out⟩
end Go.Proofs.Ytloenigleamcoaa.Sb
