/- Parts of a law: Tk, NumMath, Base, DrawN, Source, CameOpen, MarkMath, MarkG, Frame. Conditions: on sizes, as each says. -/
import Derived.Test.YtiphlffcgjdoaaaProg
import Derived.Deep.RegionHeld3
import Derived.WalkKit
import Derived.StillTailTactics
import Derived.KernelRfl
import Derived.Test.YtiphlffcgjdoaaaRows
import Derived.ProofKit
import Derived.OpenShut
import Derived.ShutString
import Derived.Lib.Hide
import Derived.Deep.Light
import Derived.Laws.BitsAllLaws
import Derived.Laws.Bits128
import Derived.Laws.Bits64
import Derived.Laws.BytesArg
import Derived.Laws.IdiomStrings
import Derived.OwnWalk
import Derived.Maps.AppendAt
import Derived.Deep.QuietTactic
import Derived.BigQuiet
import Derived.IntWalk
import Derived.Deep.AppendLies
set_option linter.unusedSimpArgs false
set_option linter.unusedVariables false
namespace Go.Proofs.Ytiphlffcgjdoaaa
open Go.RowKit
theorem tk (i : Nat) {P : Program} {ops : Array Oper} {Q : Exit → Act → World → Prop} {md : Region.Mode} {S : World → Prop} {oi : Oper} {v : Value} {fuel : Nat} {listed : Array Bool} {a : Act} {w : World}
    (h : wpAnyH P md ops Q S fuel (listed.setIfInBounds i true) (a.put oi.dst v) w)
    (hi : ops[i]? = some oi := by rfl) (hs : Region.noSelect ops = true := by kernel_rfl) (hf : Region.free md ops listed i = true := by kernel_rfl) (hr : (Region.ready md ops listed).contains i = true := by kernel_rfl)
    (hQ : ∀ c a w, Q (.panic c) (a.put oi.dst v) w → Q (.panic c) a w := by exact fun _ _ _ h => h)
    (hy : YieldsIf P ops S oi v a := by exact Or.inl ⟨by rfl, fun w hSw => by (try dsimp only at hSw); go_simp; (try with_reducible rfl)⟩) (hS : S w := by assumption) : wpAnyH P md ops Q S (fuel + 1) listed a w :=
  wpAnyH_take hi hs hf hr hQ hy hS h
theorem n1 {α : Type} (l : List α) (i : Nat) (a : α) : l.toArray.setIfInBounds i a = (l.set i a).toArray := List.setIfInBounds_toArray l i a
theorem n2 {α : Type} {x : α} {xs : List α} {a : α} : (x :: xs).set 0 a = a :: xs := rfl
theorem n3 {α : Type} {x : α} {xs : List α} {i : Nat} {a : α} : (x :: xs).set (i + 1) a = x :: xs.set i a := rfl
theorem n4 {α : Type} {xs : List α} {i : Nat} (h : i < xs.toArray.size) : xs.toArray[i] = xs[i] := rfl
theorem n5 {α : Type} (a : α) (l : List α) (h : 0 < (a :: l).length) : (a :: l)[0] = a := rfl
theorem n6 {α : Type} (a : α) (l : List α) (i : Nat) (h : i + 1 < (a :: l).length) : (a :: l)[i + 1] = l[i]'(Nat.lt_of_succ_lt_succ h) := rfl
end Go.Proofs.Ytiphlffcgjdoaaa

namespace Go.Proofs.Ytiphlffcgjdoaaa.Nu

/-- the bytes of u in groups of seven bits, least significant first -/
def enc (u : Nat) : List UInt8 := if u < 128 then [UInt8.ofNat u] else UInt8.ofNat (u % 128 + 128) :: enc (u / 128)
termination_by u
decreasing_by omega
theorem enc_small (u : Nat) (h : u < 128) : enc u = [UInt8.ofNat u] := by rw [enc, if_pos h]
theorem enc_more (u : Nat) (h : ¬ u < 128) : enc u = UInt8.ofNat (u % 128 + 128) :: enc (u / 128) := by rw [enc, if_neg h]
/-- 2n, or -2n - 1 -/
def fold (n : Int) : Nat := if n < 0 then (-2 * n - 1).toNat else (2 * n).toNat
theorem fold_lt (n : Int) (h : -9223372036854775808 ≤ n ∧ n ≤ 9223372036854775807) : fold n < 18446744073709551616 := by
  unfold fold; split <;> omega
theorem toNat_ofNat (k : Nat) (h : k < 256) : (UInt8.ofNat k).toNat = k := UInt8.toNat_ofNat_of_lt (by simpa using h)
/-- where u' is what is left of a 64-bit number behind k bytes and is 128 at least, k is 8 at most -/
theorem left_lt (u' k : Nat) (h : u' * 128 ^ k < 18446744073709551616) (h8 : 128 ≤ u') : k < 9 := by
  rcases Nat.lt_or_ge k 9 with hk | hk
  · exact hk
  · exfalso
    have h1 : (128 : Nat) ^ 9 ≤ 128 ^ k := Nat.pow_le_pow_right (by omega) hk
    have h2 : 128 * 128 ^ 9 ≤ u' * 128 ^ k := Nat.mul_le_mul h8 h1
    have h3 : (128 : Nat) * 128 ^ 9 = 1180591620717411303424 := by decide
    omega
theorem left_le (u' k : Nat) (h : u' * 128 ^ k < 18446744073709551616) (h1 : 1 ≤ u') : k ≤ 9 := by
  rcases Nat.lt_or_ge k 10 with hk | hk
  · omega
  · exfalso
    have h1' : (128 : Nat) ^ 10 ≤ 128 ^ k := Nat.pow_le_pow_right (by omega) hk
    have h2 : 1 * 128 ^ 10 ≤ u' * 128 ^ k := Nat.mul_le_mul h1 h1'
    have h3 : (1 : Nat) * 128 ^ 10 = 1180591620717411303424 := by decide
    omega
theorem left_next (u' k : Nat) (h : u' * 128 ^ k < 18446744073709551616) : u' / 128 * 128 ^ (k + 1) < 18446744073709551616 := by
  have : u' / 128 * 128 ^ (k + 1) ≤ u' * 128 ^ k := by
    rw [Nat.pow_succ, Nat.mul_comm (128 ^ k) 128, ← Nat.mul_assoc]
    exact Nat.mul_le_mul_right _ (by omega)
  omega
theorem step_bytes (acc : List UInt8) (u u' : Nat) (h : acc ++ enc u' = enc u) (h8 : ¬ u' < 128) : (acc ++ [UInt8.ofNat (u' % 128 + 128)]) ++ enc (u' / 128) = enc u := by
  rw [← h, enc_more u' h8]; simp
theorem last_bytes (acc : List UInt8) (u u' : Nat) (h : acc ++ enc u' = enc u) (h8 : u' < 128) : acc ++ [UInt8.ofNat u'] = enc u := by
  rw [← h, enc_small u' h8]
theorem enc_len (u k : Nat) (h : u < 128 ^ (k + 1)) : (enc u).length ≤ k + 1 := by
  induction k generalizing u with
  | zero => rw [enc_small u (by simpa using h)]; simp
  | succ k ih =>
    by_cases h8 : u < 128
    · rw [enc_small u h8]; simp
    · rw [enc_more u h8]
      have : u / 128 < 128 ^ (k + 1) := by
        rw [Nat.div_lt_iff_lt_mul (by omega)]
        rw [Nat.pow_succ] at h; exact h
      have := ih _ this
      simp; omega
theorem enc_len10 (u : Nat) (h : u < 18446744073709551616) : (enc u).length ≤ 10 := enc_len u 9 (by
  have : (128 : Nat) ^ (9 + 1) = 1180591620717411303424 := by decide
  omega)
theorem enc_pos (u : Nat) : 0 < (enc u).length := by
  by_cases h8 : u < 128
  · rw [enc_small u h8]; simp
  · rw [enc_more u h8]; simp
end Go.Proofs.Ytiphlffcgjdoaaa.Nu


namespace Go.Proofs.Ytiphlffcgjdoaaa.Nu
open Go.RowKit

theorem ret_int {k : IntKind} {a b : Int} (h : a = b) : Ending.returned (.int k a) = .returned (.int k b) := by rw [h]
/-- the value of a byte in memory -/
def bv (b : UInt8) : Value := .int .u8 (b.toNat : Int)
theorem bv_of (k : Nat) (h : k < 256) : Value.int .u8 (k : Int) = bv (UInt8.ofNat k) := by unfold bv; rw [toNat_ofNat k h]
/-- block g holds the bytes l, and may be written -/
structure Arr (w : World) (g : Nat) (l : List UInt8) : Prop where
  cell : ∀ j (h : j < l.length), w.cell? ⟨g, j, none⟩ = some (bv l[j])
  free : ∀ j, w.frozen? ⟨g, j, none⟩ = false

theorem Arr.set {w : World} {g : Nat} {l : List UInt8} (h : Arr w g l) (k : Nat) (hk : k < l.length) (b : UInt8) : Arr (w.setCell ⟨g, k, none⟩ (bv b)) g (l.set k b) := by
  constructor
  · intro j hj
    have hj' : j < l.length := by simpa using hj
    by_cases e : j = k
    · subst e
      rw [World.cell?_setCell_same _ _ _ (h.cell j hj'), List.getElem_set_self]
    · rw [World.cell?_setCell_other _ _ _ _ (by intro hh; injection hh with _ h2; exact e h2.symm), h.cell j hj', List.getElem_set_ne (fun hh => e hh.symm)]
  · intro j
    rw [World.frozen?_setCell]; exact h.free j
theorem Arr.string {w : World} {g : Nat} {l : List UInt8} (h : Arr w g l) (m c : Nat) (hm : m ≤ l.length) :
    (convert 22 9 (.slice (some ⟨g, 0, none⟩) m c)).run Try.prog w = .ok (.string ⟨(l.take m).toArray⟩) w := by
  have hl : (l.take m).length = m := by rw [List.length_take]; omega
  have := run_convert_bytes_back (P := Try.prog) w 22 9 5 ⟨g, 0, none⟩ c (l.take m) Try.underlying22 Try.underlying5 Try.underlying9 (fun j hj => by
    have hj' : j < l.length := by rw [hl] at hj; omega
    have e : (⟨g, 0, none⟩ : Addr).add j = ⟨g, j, none⟩ := by unfold Addr.add; split <;> simp_all
    rw [e, h.cell j hj', List.getElem_take]; rfl)
  rw [hl] at this; exact this

theorem take_set {α : Type} (l : List α) (k : Nat) (hk : k < l.length) (x : α) : (l.set k x).take (k + 1) = l.take k ++ [x] := by
  rw [List.take_succ_eq_append_getElem (by simpa using hk), List.take_set, List.set_eq_of_length_le (by rw [List.length_take]; omega)]
  simp
theorem info8 : (Try.prog.info? 5).map (fun i => (i.zero, i.size, i.bytes)) = some (some (.int .u8 0), 1, 1) := by kernel_rfl
/-- a slice of bytes that the call owns, as a string -/
theorem own_string {w : World} {B : Nat} {v : Value} {m : Nat} {l : List UInt8} (h : w.ownsRow B 5 1 v m (l.map bv)) :
    (convert 22 9 v).run Try.prog w = .ok (.string ⟨l.toArray⟩) w := by
  obtain ⟨hlen, hc⟩ := h
  have hl : l.length = m := by simpa using hlen
  rcases hc with ⟨rfl, rfl⟩ | ⟨g, cap, cur, rfl, hg, hh, hn, hm, hs, ht⟩
  · have : l = [] := List.length_eq_zero_iff.1 hl
    subst this
    exact run_convert_bytes_nil w 22 5 Try.underlying22 Try.underlying5 0 0 9 Try.underlying9
  · subst hl
    refine run_convert_bytes_back (P := Try.prog) w 22 9 5 ⟨g, 0, none⟩ cap l Try.underlying22 Try.underlying5 Try.underlying9 (fun j hj => ?_)
    have e : (⟨g, 0, none⟩ : Addr).add j = ⟨g, j, none⟩ := by unfold Addr.add; split <;> simp_all
    have hcur : cur[j]? = some (bv l[j]) := by
      have h1 : (cur.toList.take (l.length * 1))[j]? = some (bv l[j]) := by rw [ht]; simp [hj]
      rw [List.getElem?_take_of_lt (by omega)] at h1
      simpa using h1
    rw [e]
    simp [World.cell?, hh, hcur, bv]

end Go.Proofs.Ytiphlffcgjdoaaa.Nu

namespace Go.Proofs.Ytiphlffcgjdoaaa.Dr
open Go.RowKit Nu

/-- the slice (a, len) reads as bytes that lie below block B -/
def Bytes8 (w : World) (B : Nat) (a : Option Addr) (len : Nat) : Prop :=
  len = 0 ∨ ∃ b off, a = some ⟨b, off, none⟩ ∧ b < B ∧ ∀ i, i < len → ∃ z : Nat, z < 256 ∧ w.cell? ⟨b, off + i, none⟩ = some (.int .u8 (z : Int))
theorem Bytes8.below {w w' : World} {B : Nat} {a : Option Addr} {len : Nat} (h : Bytes8 w B a len) (hb : Below B w w') : Bytes8 w' B a len := by
  rcases h with h | ⟨b, off, rfl, hB, hc⟩
  · exact .inl h
  · exact .inr ⟨b, off, rfl, hB, fun i hi => by obtain ⟨z, hz, he⟩ := hc i hi; exact ⟨z, hz, (hb.cell (p := ⟨b, off + i, none⟩) hB).trans he⟩⟩
theorem Bytes8.mono {w : World} {B B' : Nat} {a : Option Addr} {len : Nat} (h : Bytes8 w B a len) (hB : B ≤ B') : Bytes8 w B' a len := by
  rcases h with h | ⟨b, off, rfl, hb, hc⟩
  · exact .inl h
  · exact .inr ⟨b, off, rfl, by omega, hc⟩
/-- block g is a source over the slice (a, len) -/
structure Src (w : World) (B g : Nat) (a : Option Addr) (len cap at_ mix : Nat) (sz : Int) : Prop where
  c0 : w.cell? ⟨g, 0, none⟩ = some (.slice a len cap)
  c1 : w.cell? ⟨g, 1, none⟩ = some (.int .i64 (at_ : Int))
  c2 : w.cell? ⟨g, 2, none⟩ = some (.int .u64 (mix : Int))
  c3 : w.cell? ⟨g, 3, none⟩ = some (.int .i64 sz)
  free : ∀ j, w.frozen? ⟨g, j, none⟩ = false
  hat : at_ ≤ len
  hlen : len ≤ 1048576
  hmix : mix < 18446744073709551616
  hB : B ≤ g
  row : Bytes8 w B a len
def HasSrc (w : World) (B g : Nat) : Prop := ∃ a len cap at_ mix sz, Src w B g a len cap at_ mix sz
section
variable {w : World} {B g : Nat} {a : Option Addr} {len cap at_ mix : Nat} {sz : Int}
theorem ne_off {g i j : Nat} (h : i ≠ j) : (⟨g, i, none⟩ : Addr) ≠ ⟨g, j, none⟩ := by intro e; injection e with _ h2; exact h h2
theorem Src.setAt (h : Src w B g a len cap at_ mix sz) (k : Nat) (hk : k ≤ len) : Src (w.setCell ⟨g, 1, none⟩ (.int .i64 (k : Int))) B g a len cap k mix sz where
  c0 := by rw [World.cell?_setCell_other _ _ _ _ (ne_off (by omega))]; exact h.c0
  c1 := World.cell?_setCell_same _ _ _ h.c1
  c2 := by rw [World.cell?_setCell_other _ _ _ _ (ne_off (by omega))]; exact h.c2
  c3 := by rw [World.cell?_setCell_other _ _ _ _ (ne_off (by omega))]; exact h.c3
  free := fun j => by rw [World.frozen?_setCell]; exact h.free j
  hat := hk
  hlen := h.hlen
  hmix := h.hmix
  hB := h.hB
  row := h.row.below ((Below.refl _ _).setCell h.hB _)
theorem Src.setMix (h : Src w B g a len cap at_ mix sz) (m : Nat) (hm : m < 18446744073709551616) : Src (w.setCell ⟨g, 2, none⟩ (.int .u64 (m : Int))) B g a len cap at_ m sz where
  c0 := by rw [World.cell?_setCell_other _ _ _ _ (ne_off (by omega))]; exact h.c0
  c1 := by rw [World.cell?_setCell_other _ _ _ _ (ne_off (by omega))]; exact h.c1
  c2 := World.cell?_setCell_same _ _ _ h.c2
  c3 := by rw [World.cell?_setCell_other _ _ _ _ (ne_off (by omega))]; exact h.c3
  free := fun j => by rw [World.frozen?_setCell]; exact h.free j
  hat := h.hat
  hlen := h.hlen
  hmix := hm
  hB := h.hB
  row := h.row.below ((Below.refl _ _).setCell h.hB _)
theorem Src.drewN (h : Src w B g a len cap at_ mix sz) (n : Nat) : Src (w.drewN n) B g a len cap at_ mix sz :=
  ⟨h.c0, h.c1, h.c2, h.c3, h.free, h.hat, h.hlen, h.hmix, h.hB, h.row⟩
theorem Src.drew (h : Src w B g a len cap at_ mix sz) : Src w.drew B g a len cap at_ mix sz :=
  ⟨h.c0, h.c1, h.c2, h.c3, h.free, h.hat, h.hlen, h.hmix, h.hB, h.row⟩
/-- another block, or more memory, does not touch the source -/
theorem Src.grown {w' : World} {r : Option Nat} (h : Src w B g a len cap at_ mix sz) (hg : w.grownBy w' r) (hne : r ≠ some g) (hr : ∀ k, r = some k → B ≤ k) (hBs : B ≤ w.heap.size) : Src w' B g a len cap at_ mix sz where
  c0 := hg.cell h.c0 (fun e => hne e.symm)
  c1 := hg.cell h.c1 (fun e => hne e.symm)
  c2 := hg.cell h.c2 (fun e => hne e.symm)
  c3 := hg.cell h.c3 (fun e => hne e.symm)
  free := fun j => (World.frozen?_of_block (hg.block g (by simpa using World.block_lt_of_cell? w _ h.c0) (fun e => hne e.symm))).trans (h.free j)
  hat := h.hat
  hlen := h.hlen
  hmix := h.hmix
  hB := h.hB
  row := h.row.below ((Below.refl B w).grown hg hBs hr)
end
theorem xor_u64 (a b : Int) : ∃ m : Nat, m < 18446744073709551616 ∧ bits .xor .u64 a b = (m : Int) := by
  have h : bits .xor .u64 a b = (bits .xor .u64 a b) % 18446744073709551616 := by
    have : ∀ x : Int, IntKind.u64.wrap x % 18446744073709551616 = IntKind.u64.wrap x := fun x => by rw [IntKind.wrap_u64]; omega
    exact (this _).symm
  exact ⟨(bits .xor .u64 a b).toNat, by omega, by omega⟩
theorem drewN_grown {a w : World} {r : Option Nat} (h : a.grownBy w r) (n : Nat) : a.grownBy (w.drewN n) r := ⟨h.os, h.tape, h.output, h.size, h.block⟩
theorem drew_grown {a w : World} {r : Option Nat} (h : a.grownBy w r) : a.grownBy w.drew r := ⟨h.os, h.tape, h.output, h.size, h.block⟩
theorem setCell_grown {a w : World} {g : Nat} (h : a.grownBy w (some g)) {p : Addr} (hp : p.block = g) (u : Value) : a.grownBy (w.setCell p u) (some g) :=
  ⟨h.os, h.tape, h.output, by simpa [World.setCell] using h.size, fun i hi hne => (Below.heap_setCell w p u i (by rintro rfl; exact hne (by rw [hp]))).trans (h.block i hi hne)⟩
theorem add_shift (v m x : Nat) (hx : x = v + m / 1048576) (hv : v < 256) (hm : m < 18446744073709551616) : IntKind.u64.wrap ((v : Int) + (m : Int) / 1048576) = (x : Int) := by
  rw [IntKind.wrap_u64]; omega
theorem only_shift (m x : Nat) (hx : x = m / 1048576) (hm : m < 18446744073709551616) : IntKind.u64.wrap ((m : Int) / 1048576) = (x : Int) := by
  rw [IntKind.wrap_u64]; omega
theorem rem_facts (x most : Nat) (h : 1 < most) (h2 : most ≤ 2000000000000) : ∃ r : Nat, r < most ∧ (x : Int).tmod (most : Int) = (r : Int) ∧ (x : Int) % (most : Int) = (r : Int) := by
  refine ⟨x % most, Nat.mod_lt _ (by omega), ?_, ?_⟩
  · rw [Int.tmod_eq_emod_of_nonneg (by omega)]; omega
  · omega
/-- what a drawn number leaves: a number below 'most'; the source goes on; nothing but the source has turned -/
def Drawn (w : World) (B g most : Nat) (e : Ending) (w' : World) : Prop :=
  ∃ r : Nat, r < most ∧ e = .returned (.int .i64 (r : Int)) ∧ HasSrc w' B g ∧ w.grownBy w' (some g)

set_option maxRecDepth 100000 in
set_option maxHeartbeats 2000000 in
theorem n_draw (w : World) (B g most : Nat) (hm : 1 < most) (hm2 : most ≤ 2000000000000) (h : HasSrc w B g) :
    Calls Try.prog 34 #[.pointer (some ⟨g, 0, none⟩), .int .i64 (most : Int)] w (Drawn w B g most) := by
  obtain ⟨a, len, cap, at_, mix, sz, S⟩ := h
  have hat := S.hat
  have hlen := S.hlen
  have HS := Lib.hid S
  have i0 := S.c0
  have i1 := S.c1
  have d1 : decide ((most : Int) ≤ 1) = false := by simp; omega
  by_cases hlt : at_ < len
  · obtain ⟨b, off, ha, hb, hrow⟩ : ∃ b off, a = some ⟨b, off, none⟩ ∧ b < B ∧ ∀ i, i < len → ∃ z : Nat, z < 256 ∧ w.cell? ⟨b, off + i, none⟩ = some (.int .u8 (z : Int)) := by
      rcases S.row with h | h
      · omega
      · exact h
    subst ha
    obtain ⟨z, hz, iz⟩ := hrow at_ hlt
    clear S hrow
    go_enter Try.func34, Try.ntmps34
    go_wp2
    go_quiet (fail)
    go_wp2
    have j0 : (w.drewN nq).cell? ⟨g, 0, none⟩ = some (.slice (some ⟨b, off, none⟩) len cap) := i0
    have j1 : (w.drewN nq).cell? ⟨g, 1, none⟩ = some (.int .i64 (at_ : Int)) := i1
    have jz : (w.drewN nq).cell? ⟨b, off + at_, none⟩ = some (.int .u8 (z : Int)) := iz
    have HS1 := Lib.hid (HS.out.drewN nq)
    have hG : w.grownBy (w.drewN nq) (some g) := ⟨rfl, rfl, rfl, Nat.le_refl _, fun _ _ _ => rfl⟩
    have t0 : (0 : Int) ≤ (at_ : Int) := by omega
    have t1 : (at_ : Int) < (len : Int) := by omega
    clear i0 i1 iz
    generalize w.drewN nq = w1 at j0 j1 jz HS1 hG ⊢
    go_quiet (fail)
    have k1 : (w1.drewN nq).cell? ⟨g, 1, none⟩ = some (.int .i64 (at_ : Int)) := j1
    have kf : (w1.drewN nq).frozen? ⟨g, 1, none⟩ = false := HS1.out.free 1
    have HA := Lib.hid ((HS1.out.drewN nq).setAt (at_ + 1) hlt)
    have HB := Lib.hid (setCell_grown (drewN_grown hG nq) (p := ⟨g, 1, none⟩) rfl (.int .i64 ((at_ + 1 : Nat) : Int)))
    clear j0 j1 jz
    generalize w1.drewN nq = w2 at k1 kf HA HB ⊢
    go_wp2
    clear k1 kf hG HS1
    have S1 := HA.out
    have G1 := HB.out
    clear HA HB
    rw [show Value.int .i64 ((at_ : Int) + 1) = Value.int .i64 ((at_ + 1 : Nat) : Int) from rfl]
    generalize w2.setCell ⟨g, 1, none⟩ (.int .i64 ((at_ + 1 : Nat) : Int)) = v1 at S1 G1 ⊢
    obtain ⟨m1, hm1, he1⟩ := xor_u64 (mix : Int) (IntKind.u64.wrap ((mix : Int) * 8192))
    have e2 := S1.c2
    have HS1 := Lib.hid S1
    have HG1 := Lib.hid G1
    have hM1 := Lib.hid hm1
    clear S1 G1 hm1
    go_still_tail 13, (by kernel_rfl)
    change wpList _ _ _ _ _ v1.drew
    have e2' : v1.drew.cell? ⟨g, 2, none⟩ = some (.int .u64 (mix : Int)) := e2
    have f2' : v1.drew.frozen? ⟨g, 2, none⟩ = false := HS1.out.free 2
    have S2 := HS1.out.drew.setMix m1 hM1.out
    have G2 := setCell_grown (drew_grown HG1.out) (p := ⟨g, 2, none⟩) rfl (.int .u64 (m1 : Int))
    have HS2' := Lib.hid S2
    have HG2' := Lib.hid G2
    clear S2 G2 e2
    generalize v1.drew = u1 at e2' f2' HS2' HG2' ⊢
    go_wp2
    clear e2' f2' he1
    have S2 := HS2'.out
    have G2 := HG2'.out
    clear HS2' HG2'
    generalize u1.setCell ⟨g, 2, none⟩ (.int .u64 (m1 : Int)) = v2 at S2 G2 ⊢
    obtain ⟨m2, hm2, he2⟩ := xor_u64 (m1 : Int) ((m1 : Int) / 128)
    have e2 := S2.c2
    have HS2 := Lib.hid S2
    have HG2 := Lib.hid G2
    have hM2 := Lib.hid hm2
    clear S2 G2 hm2
    go_still_tail 13, (by kernel_rfl)
    change wpList _ _ _ _ _ v2.drew
    have e2' : v2.drew.cell? ⟨g, 2, none⟩ = some (.int .u64 (m1 : Int)) := e2
    have f2' : v2.drew.frozen? ⟨g, 2, none⟩ = false := HS2.out.free 2
    have S3 := HS2.out.drew.setMix m2 hM2.out
    have G3 := setCell_grown (drew_grown HG2.out) (p := ⟨g, 2, none⟩) rfl (.int .u64 (m2 : Int))
    have HS3' := Lib.hid S3
    have HG3' := Lib.hid G3
    clear S3 G3 e2
    generalize v2.drew = u2 at e2' f2' HS3' HG3' ⊢
    go_wp2
    clear e2' f2' he2
    have S3 := HS3'.out
    have G3 := HG3'.out
    clear HS3' HG3'
    generalize u2.setCell ⟨g, 2, none⟩ (.int .u64 (m2 : Int)) = v3 at S3 G3 ⊢
    obtain ⟨m3, hm3, he3⟩ := xor_u64 (m2 : Int) (IntKind.u64.wrap ((m2 : Int) * 131072))
    have e2 := S3.c2
    have HS3 := Lib.hid S3
    have HG3 := Lib.hid G3
    have hM3 := Lib.hid hm3
    clear S3 G3 hm3
    go_still_tail 13, (by kernel_rfl)
    change wpList _ _ _ _ _ v3.drew
    have e2' : v3.drew.cell? ⟨g, 2, none⟩ = some (.int .u64 (m2 : Int)) := e2
    have f2' : v3.drew.frozen? ⟨g, 2, none⟩ = false := HS3.out.free 2
    have S4 := HS3.out.drew.setMix m3 hM3.out
    have G4 := setCell_grown (drew_grown HG3.out) (p := ⟨g, 2, none⟩) rfl (.int .u64 (m3 : Int))
    have HS4' := Lib.hid S4
    have HG4' := Lib.hid G4
    clear S4 G4 e2
    generalize v3.drew = u3 at e2' f2' HS4' HG4' ⊢
    have x2 := HS4'.out.c2
    obtain ⟨x, hx⟩ : ∃ x : Nat, x = z + m3 / 1048576 := ⟨_, rfl⟩
    have q1 := add_shift z m3 x hx hz hM3.out
    obtain ⟨r, hr, q2, q3⟩ := rem_facts x most hm hm2
    have HX := Lib.hid hx
    clear hx
    go_wp2
    go_ret
    exact ⟨r, hr, rfl, ⟨_, _, _, _, _, _, HS4'.out⟩, HG4'.out⟩
  · clear S
    go_enter Try.func34, Try.ntmps34
    go_wp2
    go_quiet (fail)
    go_wp2
    have S1 := HS.out.drewN nq
    have G1 : w.grownBy (w.drewN nq) (some g) := ⟨rfl, rfl, rfl, Nat.le_refl _, fun _ _ _ => rfl⟩
    clear i0 i1
    generalize w.drewN nq = v1 at S1 G1 ⊢
    obtain ⟨m1, hm1, he1⟩ := xor_u64 (mix : Int) (IntKind.u64.wrap ((mix : Int) * 8192))
    have e2 := S1.c2
    have HS1 := Lib.hid S1
    have HG1 := Lib.hid G1
    have hM1 := Lib.hid hm1
    clear S1 G1 hm1
    go_still_tail 13, (by kernel_rfl)
    change wpList _ _ _ _ _ v1.drew
    have e2' : v1.drew.cell? ⟨g, 2, none⟩ = some (.int .u64 (mix : Int)) := e2
    have f2' : v1.drew.frozen? ⟨g, 2, none⟩ = false := HS1.out.free 2
    have S2 := HS1.out.drew.setMix m1 hM1.out
    have G2 := setCell_grown (drew_grown HG1.out) (p := ⟨g, 2, none⟩) rfl (.int .u64 (m1 : Int))
    have HS2' := Lib.hid S2
    have HG2' := Lib.hid G2
    clear S2 G2 e2
    generalize v1.drew = u1 at e2' f2' HS2' HG2' ⊢
    go_wp2
    clear e2' f2' he1
    have S2 := HS2'.out
    have G2 := HG2'.out
    clear HS2' HG2'
    generalize u1.setCell ⟨g, 2, none⟩ (.int .u64 (m1 : Int)) = v2 at S2 G2 ⊢
    obtain ⟨m2, hm2, he2⟩ := xor_u64 (m1 : Int) ((m1 : Int) / 128)
    have e2 := S2.c2
    have HS2 := Lib.hid S2
    have HG2 := Lib.hid G2
    have hM2 := Lib.hid hm2
    clear S2 G2 hm2
    go_still_tail 13, (by kernel_rfl)
    change wpList _ _ _ _ _ v2.drew
    have e2' : v2.drew.cell? ⟨g, 2, none⟩ = some (.int .u64 (m1 : Int)) := e2
    have f2' : v2.drew.frozen? ⟨g, 2, none⟩ = false := HS2.out.free 2
    have S3 := HS2.out.drew.setMix m2 hM2.out
    have G3 := setCell_grown (drew_grown HG2.out) (p := ⟨g, 2, none⟩) rfl (.int .u64 (m2 : Int))
    have HS3' := Lib.hid S3
    have HG3' := Lib.hid G3
    clear S3 G3 e2
    generalize v2.drew = u2 at e2' f2' HS3' HG3' ⊢
    go_wp2
    clear e2' f2' he2
    have S3 := HS3'.out
    have G3 := HG3'.out
    clear HS3' HG3'
    generalize u2.setCell ⟨g, 2, none⟩ (.int .u64 (m2 : Int)) = v3 at S3 G3 ⊢
    obtain ⟨m3, hm3, he3⟩ := xor_u64 (m2 : Int) (IntKind.u64.wrap ((m2 : Int) * 131072))
    have e2 := S3.c2
    have HS3 := Lib.hid S3
    have HG3 := Lib.hid G3
    have hM3 := Lib.hid hm3
    clear S3 G3 hm3
    go_still_tail 13, (by kernel_rfl)
    change wpList _ _ _ _ _ v3.drew
    have e2' : v3.drew.cell? ⟨g, 2, none⟩ = some (.int .u64 (m2 : Int)) := e2
    have f2' : v3.drew.frozen? ⟨g, 2, none⟩ = false := HS3.out.free 2
    have S4 := HS3.out.drew.setMix m3 hM3.out
    have G4 := setCell_grown (drew_grown HG3.out) (p := ⟨g, 2, none⟩) rfl (.int .u64 (m3 : Int))
    have HS4' := Lib.hid S4
    have HG4' := Lib.hid G4
    clear S4 G4 e2
    generalize v3.drew = u3 at e2' f2' HS4' HG4' ⊢
    have x2 := HS4'.out.c2
    obtain ⟨x, hx⟩ : ∃ x : Nat, x = m3 / 1048576 := ⟨_, rfl⟩
    have q1 := only_shift m3 x hx hM3.out
    obtain ⟨r, hr, q2, q3⟩ := rem_facts x most hm hm2
    have HX := Lib.hid hx
    clear hx
    go_wp2
    go_ret
    exact ⟨r, hr, rfl, ⟨_, _, _, _, _, _, HS4'.out⟩, HG4'.out⟩

def DrawnBool (w : World) (B g : Nat) (e : Ending) (w' : World) : Prop :=
  ∃ r : Bool, e = .returned (.bool r) ∧ HasSrc w' B g ∧ w.grownBy w' (some g)
theorem one_draw (w : World) (B g of_ : Nat) (hm : 1 < of_) (hm2 : of_ ≤ 2000000000000) (h : HasSrc w B g) :
    Calls Try.prog 35 #[.pointer (some ⟨g, 0, none⟩), .int .i64 (of_ : Int)] w (DrawnBool w B g) := by
  have H := Lib.hid (n_draw w B g of_ hm hm2 h)
  clear h
  go_enter Try.func35, Try.ntmps35
  go_wp2_with fail
  refine H.out.mono ?_
  rintro e w1 ⟨r, hr, rfl, hs, hg⟩
  have HS := Lib.hid hs
  have HG := Lib.hid hg
  clear hs hg
  go_wp2
  go_ret
  exact ⟨_, rfl, HS.out, HG.out⟩

theorem HasSrc.grown {w w' : World} {B g : Nat} {r : Option Nat} (h : HasSrc w B g) (hg : w.grownBy w' r) (hne : r ≠ some g) (hr : ∀ k, r = some k → B ≤ k) (hBs : B ≤ w.heap.size) : HasSrc w' B g := by
  obtain ⟨a, len, cap, at_, mix, sz, S⟩ := h
  exact ⟨a, len, cap, at_, mix, sz, S.grown hg hne hr hBs⟩
theorem HasSrc.lt {w : World} {B g : Nat} (h : HasSrc w B g) : B ≤ g ∧ g < w.heap.size := by
  obtain ⟨a, len, cap, at_, mix, sz, S⟩ := h
  exact ⟨S.hB, by simpa using World.block_lt_of_cell? w _ S.c0⟩
end Go.Proofs.Ytiphlffcgjdoaaa.Dr

namespace Go.Proofs.Ytiphlffcgjdoaaa.Dr
open Go.RowKit Nu

theorem Src.setSize {w : World} {B g : Nat} {a : Option Addr} {len cap at_ mix : Nat} {sz : Int} (h : Src w B g a len cap at_ mix sz) (x : Int) : Src (w.setCell ⟨g, 3, none⟩ (.int .i64 x)) B g a len cap at_ mix x where
  c0 := by rw [World.cell?_setCell_other _ _ _ _ (ne_off (by omega))]; exact h.c0
  c1 := by rw [World.cell?_setCell_other _ _ _ _ (ne_off (by omega))]; exact h.c1
  c2 := by rw [World.cell?_setCell_other _ _ _ _ (ne_off (by omega))]; exact h.c2
  c3 := World.cell?_setCell_same _ _ _ h.c3
  free := fun j => by rw [World.frozen?_setCell]; exact h.free j
  hat := h.hat
  hlen := h.hlen
  hmix := h.hmix
  hB := h.hB
  row := h.row.below ((Below.refl _ _).setCell h.hB _)
theorem wrap_nat (x : Int) : ∃ m : Nat, m < 18446744073709551616 ∧ IntKind.u64.wrap x = (m : Int) := by
  rw [IntKind.wrap_u64]; exact ⟨(x % 18446744073709551616).toNat, by omega, by omega⟩
theorem src_new (w : World) (a : Option Addr) (len cap : Nat) (hl : len ≤ 1048576) (h : Bytes8 w w.heap.size a len) :
    Src (w.alloc (.cells #[.slice a len cap, .int .i64 0, .int .u64 88172645463325252, .int .i64 0] 105)) w.heap.size w.heap.size a len cap 0 88172645463325252 0 where
  c0 := by rw [World.cell?_alloc_mark]; rfl
  c1 := by rw [World.cell?_alloc_mark]; rfl
  c2 := by rw [World.cell?_alloc_mark]; rfl
  c3 := by rw [World.cell?_alloc_mark]; rfl
  free := fun j => by rw [World.frozen?_alloc_mark]; simp
  hat := by omega
  hlen := hl
  hmix := by omega
  hB := Nat.le_refl _
  row := h.below ((Below.refl _ _).alloc (Nat.le_refl _) _)

/-- what a new source leaves: block g, behind all that was there -/
def Sourced (w : World) (e : Ending) (w' : World) : Prop :=
  e = .returned (.pointer (some ⟨w.heap.size, 0, none⟩)) ∧ HasSrc w' w.heap.size w.heap.size ∧ Below w.heap.size w w'

set_option maxRecDepth 100000 in
set_option maxHeartbeats 2000000 in
theorem source_new (w : World) (a : Option Addr) (len cap : Nat) (hl : len ≤ 1048576) (h : Bytes8 w w.heap.size a len) :
    Calls Try.prog 31 #[.slice a len cap] w (Sourced w) := by
  have H := Lib.hid h
  clear h
  go_enter Try.func31, Try.ntmps31
  go_wp2
  go_loopw [4] (fun i wr => ∃ k mix : Nat, k ≤ len ∧ k ≤ 64 ∧ i = .int .i64 (k : Int) ∧ Src wr w.heap.size w.heap.size a len cap 0 mix 0 ∧ Below w.heap.size w wr) (fun i _ => 64 - (intOf i).toNat)
  case atStart => exact ⟨0, _, by omega, by omega, rfl, src_new w a len cap hl H.out, (Below.refl _ _).alloc (Nat.le_refl _) _⟩
  case round =>
    obtain ⟨k, mix, hk, hk6, rfl, hS, hbel⟩ := hrel
    have HS := Lib.hid hS
    have HB := Lib.hid hbel
    clear hbel
    by_cases hgo : k < len ∧ k < 64
    · obtain ⟨hg1, hg2⟩ := hgo
      obtain ⟨b, off, ha, hb, hrow⟩ : ∃ b off, a = some ⟨b, off, none⟩ ∧ b < w.heap.size ∧ ∀ i, i < len → ∃ z : Nat, z < 256 ∧ wr.cell? ⟨b, off + i, none⟩ = some (.int .u8 (z : Int)) := by
        rcases hS.row with h | h
        · omega
        · exact h
      subst ha
      obtain ⟨z, hz, iz⟩ := hrow k hg1
      have i2 := hS.c2
      obtain ⟨m1, hm1, he1⟩ := xor_u64 (mix : Int) (z : Int)
      obtain ⟨m2, hm2, he2⟩ := wrap_nat ((m1 : Int) * 1099511628211)
      have HM := Lib.hid hm2
      have t0 : (0 : Int) ≤ (k : Int) := by omega
      have t1 : (k : Int) < (len : Int) := by omega
      clear hS hrow hm1 hm2
      go_wp2
      go_still_tail 14, (by kernel_rfl)
      change wpList _ _ _ _ _ wr.drew
      have i2' : wr.drew.cell? ⟨w.heap.size, 2, none⟩ = some (.int .u64 (mix : Int)) := i2
      have f2' : wr.drew.frozen? ⟨w.heap.size, 2, none⟩ = false := HS.out.free 2
      have HS2 := Lib.hid (HS.out.drew.setMix m2 HM.out)
      have HB2 := Lib.hid (HB.out.drew.setCell (p := ⟨w.heap.size, 2, none⟩) (Nat.le_refl _) (.int .u64 (m2 : Int)))
      clear i2 iz
      generalize wr.drew = w2 at i2' f2' HS2 HB2 ⊢
      go_wp2
      go_roundw
      case rel => exact ⟨k + 1, m2, by omega, by omega, by go_num, HS2.out, HB2.out⟩
      case measure => go_light; simp [intOf]; omega
    · have i3 := hS.c3
      have f3 := hS.free 3
      clear hS
      have fin : ∀ x : Int, Sourced w (.returned (.pointer (some ⟨w.heap.size, 0, none⟩))) (wr.setCell ⟨w.heap.size, 3, none⟩ (.int .i64 x)) := fun x =>
        ⟨rfl, ⟨_, _, _, _, _, _, HS.out.setSize x⟩, HB.out.setCell (Nat.le_refl _) _⟩
      have fin2 : ∀ x y : Int, Sourced w (.returned (.pointer (some ⟨w.heap.size, 0, none⟩))) ((wr.setCell ⟨w.heap.size, 3, none⟩ (.int .i64 x)).setCell ⟨w.heap.size, 3, none⟩ (.int .i64 y)) := fun x y =>
        ⟨rfl, ⟨_, _, _, _, _, _, (HS.out.setSize x).setSize y⟩, (HB.out.setCell (Nat.le_refl _) _).setCell (Nat.le_refl _) _⟩
      have FIN := Lib.hid fin
      have FIN2 := Lib.hid fin2
      clear fin fin2
      by_cases hle : k < len
      · have hk64 : k = 64 := by omega
        subst hk64
        go_wp2
        all_goals go_ret
        all_goals first | exact FIN.out _ | exact FIN2.out _ _
      · go_wp2
        all_goals go_ret
        all_goals first | exact FIN.out _ | exact FIN2.out _ _

/-- a slice of bytes that came in, as the row's frame tells of it -/
def Came (w : World) (a : Option Addr) (len cap : Nat) (zs : List Int) : Prop :=
  (a = none ∧ len = 0 ∧ cap = 0 ∧ zs = []) ∨
  ∃ x, a = some x ∧ len ≤ cap ∧ cap ≤ maxLen ∧ zs.length = cap ∧ (∀ i, i < zs.length → w.cell? (x.add i) = some (.int .u8 (zs.getD i 0))) ∧ ∀ n ∈ zs, (Lit.int .u8 n).wf = true
theorem Came.bytes {w : World} {a : Option Addr} {len cap : Nat} {zs : List Int} (h : Came w a len cap zs) : Bytes8 w w.heap.size a len ∧ len ≤ maxLen := by
  rcases h with ⟨_, rfl, _, _⟩ | ⟨x, rfl, hl, hm, hz, hc, hw⟩
  · exact ⟨.inl rfl, Nat.zero_le _⟩
  · refine ⟨?_, Nat.le_trans hl hm⟩
    by_cases h0 : len = 0
    · exact .inl h0
    right
    obtain ⟨b, off, spot⟩ := x
    have c0 := hc 0 (by omega)
    have hspot : spot = none := by simpa [Addr.add] using World.cell?_spot c0
    subst hspot
    refine ⟨b, off, rfl, by simpa [Addr.add] using World.block_lt_of_cell? w _ c0, fun i hi => ?_⟩
    have hi' : i < zs.length := by omega
    have c1 := hc i hi'
    have e : (⟨b, off, none⟩ : Addr).add i = ⟨b, off + i, none⟩ := by unfold Addr.add; split <;> simp_all
    rw [e] at c1
    have hg : zs.getD i 0 = zs[i] := by simp [List.getD, hi']
    have hb := bounds_u8 (hw zs[i] (List.getElem_mem hi'))
    rw [hg] at c1
    exact ⟨zs[i].toNat, by omega, by rw [c1]; congr 2; omega⟩

/-- what a drawn string leaves -/
def StrBelow (w : World) (m : Nat) (e : Ending) (w' : World) : Prop := ∃ t : ByteArray, t.size ≤ m ∧ e = .returned (.string t) ∧ Below w.heap.size w w'
end Go.Proofs.Ytiphlffcgjdoaaa.Dr

namespace Go.Proofs.Ytiphlffcgjdoaaa.Dr
open Go.RowKit Go.WideShapes Go.ChangeShapes

set_option maxRecDepth 100000 in
theorem open_came {H : Type} {enc : TypeId × Value → H} {W : World} {r : Reach} {b0 : Nat} {v : Value} {d : DataW H} {p : List MemPlace}
    (hv : Value.okWide Try.prog W r b0 22 v) (h : DataW.Trod enc Try.prog W 0 (fun _ => true) true 22 v d p) :
    ∃ a len cap z, v = .slice a len cap ∧ Came W a len cap z := by
  obtain ⟨a, len, cap, rfl⟩ := okWide_slice Try.underlying22 hv
  obtain ⟨fuel, hf⟩ := h
  rcases open_ints Try.underlying22 Try.underlying5 (by kernel_rfl) hf with ⟨hcs, _⟩ | ⟨x, l, c, zs, hcs, _, hl, hm, hz, _, hcell, hwz⟩
  · simp [Value.cells] at hcs
    obtain ⟨rfl, rfl, rfl⟩ := hcs
    exact ⟨_, _, _, [], rfl, .inl ⟨rfl, rfl, rfl, rfl⟩⟩
  · simp [Value.cells] at hcs
    obtain ⟨rfl, rfl, rfl⟩ := hcs
    exact ⟨_, _, _, zs, rfl, .inr ⟨_, rfl, hl, hm, by simpa using hz, hcell, hwz⟩⟩
end Go.Proofs.Ytiphlffcgjdoaaa.Dr

namespace Go.Proofs.Ytiphlffcgjdoaaa.Mk

/-- a mark is valid -/
def dotB (m : Int × Int) : Bool := decide (1 ≤ m.1) && decide (m.1 ≤ 5) && decide (1 ≤ m.2) && decide (m.2 ≤ 1000000)
/-- valid marks with increasing nodes, all above last -/
def okFrom : Int → List (Int × Int) → Bool
  | _, [] => true
  | last, m :: r => dotB m && decide (last < m.1) && okFrom m.1 r
def rightB (l : List (Int × Int)) : Bool := okFrom 0 l

theorem dotB_iff (m : Int × Int) : dotB m = true ↔ 1 ≤ m.1 ∧ m.1 ≤ 5 ∧ 1 ≤ m.2 ∧ m.2 ≤ 1000000 := by
  unfold dotB; simp; omega
theorem okFrom_cons {last : Int} {m : Int × Int} {r : List (Int × Int)} : okFrom last (m :: r) = true ↔ dotB m = true ∧ last < m.1 ∧ okFrom m.1 r = true := by
  show (dotB m && decide (last < m.1) && okFrom m.1 r) = true ↔ _
  simp [and_assoc]
theorem okFrom_len : ∀ (l : List (Int × Int)) (last : Int), 0 ≤ last → okFrom last l = true → l = [] ∨ last + l.length ≤ 5
  | [], _, _, _ => .inl rfl
  | m :: r, last, h0, h => by
    obtain ⟨hd, hl, hr⟩ := okFrom_cons.1 h
    have := (dotB_iff m).1 hd
    right
    rcases okFrom_len r m.1 (by omega) hr with rfl | h2
    · simp; omega
    · simp; omega
theorem right_len {l : List (Int × Int)} (h : rightB l = true) : l.length ≤ 5 := by
  rcases okFrom_len l 0 (by omega) h with rfl | h2
  · simp
  · omega
/-- what stands ahead of place k -/
def before (l : List (Int × Int)) (k : Nat) : Int := if k = 0 then 0 else (l.getD (k - 1) (0, 0)).1
theorem drop_at (l : List (Int × Int)) (k : Nat) (h : k < l.length) : l.drop k = l[k] :: l.drop (k + 1) := List.drop_eq_getElem_cons h
theorem okFrom_step (l : List (Int × Int)) (k : Nat) (last : Int) (h : k < l.length) : okFrom last (l.drop k) = (dotB l[k] && decide (last < l[k].1) && okFrom l[k].1 (l.drop (k + 1))) := by
  rw [drop_at l k h]; rfl
theorem okFrom_end (l : List (Int × Int)) (k : Nat) (last : Int) (h : l.length ≤ k) : okFrom last (l.drop k) = true := by
  rw [List.drop_eq_nil_of_le h]; rfl
theorem okFrom_mono : ∀ (l : List (Int × Int)) (a b : Int), a ≤ b → okFrom b l = true → okFrom a l = true
  | [], _, _, _, _ => rfl
  | m :: r, a, b, hab, h => by
    obtain ⟨hd, hl, hr⟩ := okFrom_cons.1 h
    exact okFrom_cons.2 ⟨hd, by omega, hr⟩
theorem right_dot {l : List (Int × Int)} (h : rightB l = true) : ∀ m ∈ l, dotB m = true := by
  have : ∀ (l : List (Int × Int)) (last : Int), okFrom last l = true → ∀ m ∈ l, dotB m = true := by
    intro l
    induction l with
    | nil => intro _ _ m hm; cases hm
    | cons x r ih =>
      intro last h m hm
      obtain ⟨hd, _, hr⟩ := okFrom_cons.1 h
      rcases List.mem_cons.1 hm with rfl | hm
      · exact hd
      · exact ih _ hr m hm
  exact this l 0 h

/-- the number of the first mark of a node -/
def ofL : List (Int × Int) → Int → Int
  | [], _ => 0
  | m :: r, n => if m.1 = n then m.2 else ofL r n
def seenOf (l : List (Int × Int)) (n : Int) : Int := if rightB l = true then ofL l n else 0
theorem ofL_step (l : List (Int × Int)) (k : Nat) (n : Int) (h : k < l.length) : ofL (l.drop k) n = if l[k].1 = n then l[k].2 else ofL (l.drop (k + 1)) n := by
  rw [drop_at l k h]; rfl
theorem ofL_end (l : List (Int × Int)) (k : Nat) (n : Int) (h : l.length ≤ k) : ofL (l.drop k) n = 0 := by
  rw [List.drop_eq_nil_of_le h]; rfl
def hasB (l : List (Int × Int)) (m : Int × Int) : Bool := rightB l && dotB m && decide (m.2 ≤ ofL l m.1)

/-- a map of marks, as a function -/
def upd (f : Int → Option (Int × Int)) (m : Int × Int) : Int → Option (Int × Int) := fun n => if n = m.1 then some m else f n
def del (f : Int → Option (Int × Int)) (k : Int) : Int → Option (Int × Int) := fun n => if n = k then none else f n
def nil : Int → Option (Int × Int) := fun _ => none
def mapL (l : List (Int × Int)) : Int → Option (Int × Int) := l.foldl upd nil
def at_ (f : Int → Option (Int × Int)) (n : Int) : Int × Int := (f n).getD (0, 0)
theorem mapL_take (l : List (Int × Int)) (k : Nat) (h : k < l.length) : mapL (l.take (k + 1)) = upd (mapL (l.take k)) l[k] := by
  unfold mapL; rw [List.take_succ_eq_append_getElem h, List.foldl_append]; rfl

theorem foldl_find : ∀ (l : List (Int × Int)) (last : Int) (f : Int → Option (Int × Int)) (n : Int), okFrom last l = true →
    (l.foldl upd f) n = if ofL l n = 0 then f n else some (n, ofL l n)
  | [], _, f, n, _ => by simp [ofL]
  | m :: r, last, f, n, h => by
    obtain ⟨hd, hl, hr⟩ := okFrom_cons.1 h
    have hd' := (dotB_iff m).1 hd
    have above : ∀ (r : List (Int × Int)) (last n : Int), okFrom last r = true → n ≤ last → ofL r n = 0 := by
      intro r
      induction r with
      | nil => intros; rfl
      | cons x r ih =>
        intro last n h hn
        obtain ⟨_, hl, hr⟩ := okFrom_cons.1 h
        show (if x.1 = n then x.2 else ofL r n) = 0
        rw [if_neg (by omega)]
        exact ih _ _ hr (by omega)
    rw [List.foldl_cons, foldl_find r m.1 (upd f m) n hr]
    show _ = if (if m.1 = n then m.2 else ofL r n) = 0 then f n else some (n, if m.1 = n then m.2 else ofL r n)
    by_cases e : m.1 = n
    · rw [if_pos e, above r m.1 n hr (by omega), if_pos rfl, if_neg (by omega)]
      unfold upd; rw [if_pos e.symm]
      subst e; rfl
    · rw [if_neg e]
      have e2 : upd f m n = f n := by unfold upd; rw [if_neg (fun h => e h.symm)]
      rw [e2]
theorem mapL_right {l : List (Int × Int)} (h : rightB l = true) (n : Int) : mapL l n = if ofL l n = 0 then none else some (n, ofL l n) :=
  foldl_find l 0 nil n h
theorem mapL_at {l : List (Int × Int)} (h : rightB l = true) (n : Int) : (at_ (mapL l) n).2 = ofL l n := by
  unfold at_; rw [mapL_right h]; split
  · rename_i e; rw [e]; rfl
  · rfl
theorem ofL_nonneg {l : List (Int × Int)} (h : rightB l = true) (n : Int) : 0 ≤ ofL l n ∧ ofL l n ≤ 1000000 := by
  have : ∀ (l : List (Int × Int)), (∀ m ∈ l, dotB m = true) → 0 ≤ ofL l n ∧ ofL l n ≤ 1000000 := by
    intro l
    induction l with
    | nil => intro _; exact ⟨Int.le_refl _, by show (0 : Int) ≤ _; omega⟩
    | cons x r ih =>
      intro h
      have hx := (dotB_iff x).1 (h x (by simp))
      have hr := ih (fun m hm => h m (by simp [hm]))
      show 0 ≤ (if x.1 = n then x.2 else ofL r n) ∧ (if x.1 = n then x.2 else ofL r n) ≤ 1000000
      split <;> omega
  exact this l (right_dot h)
theorem ofL_range {l : List (Int × Int)} (h : rightB l = true) (n : Int) (hn : n < 1 ∨ 5 < n) : ofL l n = 0 := by
  have : ∀ (l : List (Int × Int)), (∀ m ∈ l, dotB m = true) → ofL l n = 0 := by
    intro l
    induction l with
    | nil => intro _; rfl
    | cons x r ih =>
      intro h
      have hx := (dotB_iff x).1 (h x (by simp))
      show (if x.1 = n then x.2 else ofL r n) = 0
      rw [if_neg (by omega)]
      exact ih (fun m hm => h m (by simp [hm]))
  exact this l (right_dot h)

end Go.Proofs.Ytiphlffcgjdoaaa.Mk

namespace Go.Proofs.Ytiphlffcgjdoaaa.Mk
open Go.RowKit

theorem ret_bool {a b : Bool} (h : a = b) : Ending.returned (.bool a) = .returned (.bool b) := by rw [h]
theorem ret_i64 {a b : Int} (h : a = b) : Ending.returned (.int .i64 a) = .returned (.int .i64 b) := by rw [h]
theorem bcell {W w1 : World} (hb : Below W.heap.size W w1) : (∀ b o, b < W.heap.size → w1.cell? ⟨b, o, none⟩ = W.cell? ⟨b, o, none⟩) ∧ (∀ b o, b < W.heap.size → w1.frozen? ⟨b, o, none⟩ = W.frozen? ⟨b, o, none⟩) :=
  ⟨fun b o h => hb.cell (p := ⟨b, o, none⟩) h, fun b o h => hb.frozen (p := ⟨b, o, none⟩) h⟩
/-- the value of a mark -/
def mv (m : Int × Int) : Value := .agg #[.int .i64 m.1, .int .i64 m.2]
/-- the slice at a reads as the marks l -/
def MarksAt (w : World) (a : Option Addr) (l : List (Int × Int)) : Prop :=
  l = [] ∨ ∃ g off, a = some ⟨g, off, none⟩ ∧ ∀ i (h : i < l.length), w.cell? ⟨g, off + i * 2, none⟩ = some (.int .i64 l[i].1) ∧ w.cell? ⟨g, off + i * 2 + 1, none⟩ = some (.int .i64 l[i].2)
/-- .. and all that it reads lies below block B -/
def MarksBelow (w : World) (B : Nat) (a : Option Addr) (l : List (Int × Int)) : Prop :=
  l = [] ∨ ∃ g off, a = some ⟨g, off, none⟩ ∧ g < B ∧ ∀ i (h : i < l.length), w.cell? ⟨g, off + i * 2, none⟩ = some (.int .i64 l[i].1) ∧ w.cell? ⟨g, off + i * 2 + 1, none⟩ = some (.int .i64 l[i].2)
theorem MarksAt.below {w : World} {a : Option Addr} {l : List (Int × Int)} (h : MarksAt w a l) : MarksBelow w w.heap.size a l := by
  rcases h with h | ⟨g, off, ha, hc⟩
  · exact .inl h
  · by_cases hl : l = []
    · exact .inl hl
    · have h0 : 0 < l.length := List.length_pos_iff.2 hl
      exact .inr ⟨g, off, ha, by simpa using World.block_lt_of_cell? w _ (hc 0 h0).1, hc⟩
theorem MarksAt.mono {w w' : World} {a : Option Addr} {l : List (Int × Int)} (h : MarksAt w a l) (hb : Below w.heap.size w w') : MarksAt w' a l := by
  rcases h.below with h | ⟨g, off, ha, hg, hc⟩
  · exact .inl h
  · exact .inr ⟨g, off, ha, fun i hi => ⟨(hb.cell (p := ⟨g, _, none⟩) hg).trans (hc i hi).1, (hb.cell (p := ⟨g, _, none⟩) hg).trans (hc i hi).2⟩⟩
theorem MarksAt.mono' {w w' : World} {a : Option Addr} {l : List (Int × Int)} {B : Nat} (h : MarksAt w a l) (hw : w.heap.size ≤ B) (hb : Below B w w') : MarksAt w' a l := h.mono (hb.mono hw)
theorem MarksAt.drew {w : World} {a : Option Addr} {l : List (Int × Int)} (h : MarksAt w a l) : MarksAt w.drew a l := h
theorem MarksAt.nil (w : World) (a : Option Addr) : MarksAt w a [] := .inl rfl
/-- the cells of element k, for a walk -/
theorem MarksAt.cells {w : World} {a : Option Addr} {l : List (Int × Int)} (h : MarksAt w a l) {k : Nat} (hk : k < l.length) :
    ∃ g off, a = some ⟨g, off, none⟩ ∧ g < w.heap.size ∧ w.cell? ⟨g, off + k * 2, none⟩ = some (.int .i64 l[k].1) ∧ w.cell? ⟨g, off + k * 2 + 1, none⟩ = some (.int .i64 l[k].2) := by
  rcases h.below with rfl | ⟨g, off, ha, hg, hc⟩
  · cases hk
  · exact ⟨g, off, ha, hg, hc k hk⟩

/-- the blocks lo, .., hi - 1 are as they were -/
def Same (lo hi : Nat) (w w' : World) : Prop := ∀ b, lo ≤ b → b < hi → w'.heap[b]? = w.heap[b]?
theorem Same.of_below {B lo hi : Nat} {w w' : World} (h : Below B w w') (hh : hi ≤ B) : Same lo hi w w' := fun b _ h2 => h.block b (by omega)
/-- of what was there the blocks lo, .., hi - 1 alone may have turned -/
structure Within (lo hi : Nat) (w w' : World) : Prop where
  os : w'.os = w.os
  tape : w'.tape = w.tape
  output : w'.output = w.output
  size : w.heap.size ≤ w'.heap.size
  block : ∀ k, k < w.heap.size → k < lo ∨ hi ≤ k → w'.heap[k]? = w.heap[k]?
theorem Within.refl (lo hi : Nat) (w : World) : Within lo hi w w := ⟨rfl, rfl, rfl, Nat.le_refl _, fun _ _ _ => rfl⟩
theorem Within.trans {lo hi : Nat} {a b c : World} (h : Within lo hi a b) (k : Within lo hi b c) : Within lo hi a c :=
  ⟨k.os.trans h.os, k.tape.trans h.tape, k.output.trans h.output, Nat.le_trans h.size k.size, fun i hi ho => (k.block i (Nat.lt_of_lt_of_le hi h.size) ho).trans (h.block i hi ho)⟩
theorem Within.setCell {lo hi : Nat} {a w : World} (h : Within lo hi a w) {p : Addr} (h1 : lo ≤ p.block) (h2 : p.block < hi) (u : Value) : Within lo hi a (w.setCell p u) :=
  h.trans ⟨rfl, rfl, rfl, by simp [World.setCell], fun k _ hk => Below.heap_setCell _ _ _ _ (by omega)⟩
theorem Within.below {lo hi B : Nat} {w w' : World} (h : Within lo hi w w') (hB : B ≤ lo) (hs : B ≤ w.heap.size) : Below B w w' :=
  ⟨h.os, h.tape, h.output, h.size, fun k hk => h.block k (by omega) (by omega)⟩
theorem Within.same {lo hi lo' hi' : Nat} {w w' : World} (h : Within lo hi w w') (hs : hi' ≤ w.heap.size) (ha : hi' ≤ lo ∨ hi ≤ lo') : Same lo' hi' w w' :=
  fun b h1 h2 => h.block b (by omega) (by omega)

/-- block g holds the marks l, and may be written -/
structure Own (w : World) (g : Nat) (l : List (Int × Int)) : Prop where
  cell0 : ∀ i (h : i < l.length), w.cell? ⟨g, i * 2, none⟩ = some (.int .i64 l[i].1)
  cell1 : ∀ i (h : i < l.length), w.cell? ⟨g, i * 2 + 1, none⟩ = some (.int .i64 l[i].2)
  free : ∀ j, w.frozen? ⟨g, j, none⟩ = false
theorem Own.same {w w' : World} {g : Nat} {l : List (Int × Int)} (h : Own w g l) (hs : w'.heap[g]? = w.heap[g]?) : Own w' g l where
  cell0 := fun i hi => (World.cell?_of_block (a := ⟨g, i * 2, none⟩) hs).trans (h.cell0 i hi)
  cell1 := fun i hi => (World.cell?_of_block (a := ⟨g, i * 2 + 1, none⟩) hs).trans (h.cell1 i hi)
  free := fun j => (World.frozen?_of_block (a := ⟨g, j, none⟩) hs).trans (h.free j)
theorem ne_off {g a b : Nat} (h : a ≠ b) : (⟨g, a, none⟩ : Addr) ≠ ⟨g, b, none⟩ := fun e => h (congrArg Addr.off e)
theorem Own.set {w : World} {g : Nat} {l : List (Int × Int)} (h : Own w g l) (k : Nat) (hk : k < l.length) (x y : Int) :
    Own ((w.setCell ⟨g, k * 2, none⟩ (.int .i64 x)).setCell ⟨g, k * 2 + 1, none⟩ (.int .i64 y)) g (l.set k (x, y)) where
  cell0 := fun i hi => by
    have hi' : i < l.length := by simpa using hi
    rw [World.cell?_setCell_other _ _ _ _ (ne_off (by omega))]
    by_cases e : i = k
    · subst e; rw [World.cell?_setCell_same _ _ _ (h.cell0 i hi'), List.getElem_set_self]
    · rw [World.cell?_setCell_other _ _ _ _ (ne_off (by omega)), h.cell0 i hi', List.getElem_set_ne (fun hh => e hh.symm)]
  cell1 := fun i hi => by
    have hi' : i < l.length := by simpa using hi
    have c := h.cell1 i hi'
    rw [← World.cell?_setCell_other w (⟨g, k * 2, none⟩ : Addr) _ (.int .i64 x) (ne_off (by omega))] at c
    by_cases e : i = k
    · subst e; rw [World.cell?_setCell_same _ _ _ c, List.getElem_set_self]
    · rw [World.cell?_setCell_other _ _ _ _ (ne_off (by omega)), c, List.getElem_set_ne (fun hh => e hh.symm)]
  free := fun j => by rw [World.frozen?_setCell, World.frozen?_setCell]; exact h.free j
theorem Own.lt {w : World} {g : Nat} {l : List (Int × Int)} (h : Own w g l) (hl : 0 < l.length) : g < w.heap.size := by simpa using World.block_lt_of_cell? w _ (h.cell0 0 hl)
/-- a slice of marks of the call's own, in a block from lo on and below hi -/
def OwnIn (w : World) (lo hi : Nat) (a : Option Addr) (l : List (Int × Int)) : Prop := l = [] ∨ ∃ g, a = some ⟨g, 0, none⟩ ∧ lo ≤ g ∧ g < hi ∧ Own w g l
theorem OwnIn.same {w w' : World} {lo hi : Nat} {a : Option Addr} {l : List (Int × Int)} (h : OwnIn w lo hi a l) (hs : Same lo hi w w') : OwnIn w' lo hi a l := by
  rcases h with h | ⟨g, ha, h1, h2, ho⟩
  · exact .inl h
  · exact .inr ⟨g, ha, h1, h2, ho.same (hs g h1 h2)⟩
theorem OwnIn.at_ {w : World} {lo hi : Nat} {a : Option Addr} {l : List (Int × Int)} (h : OwnIn w lo hi a l) : MarksAt w a l := by
  rcases h with h | ⟨g, ha, h1, h2, ho⟩
  · exact .inl h
  · exact .inr ⟨g, 0, ha, fun i hi => by simpa using ⟨ho.cell0 i hi, ho.cell1 i hi⟩⟩
theorem OwnIn.wide {w : World} {lo hi lo' hi' : Nat} {a : Option Addr} {l : List (Int × Int)} (h : OwnIn w lo hi a l) (h1 : lo' ≤ lo) (h2 : hi ≤ hi') : OwnIn w lo' hi' a l := by
  rcases h with h | ⟨g, ha, h3, h4, ho⟩
  · exact .inl h
  · exact .inr ⟨g, ha, by omega, by omega, ho⟩
/-- what a call that makes a slice of marks leaves -/
def Gives (w : World) (l : List (Int × Int)) (e : Ending) (w' : World) : Prop :=
  ∃ a cap, e = .returned (.slice a l.length cap) ∧ OwnIn w' w.heap.size w'.heap.size a l ∧ Below w.heap.size w w'

theorem made_get (n j : Nat) (hj : j < n * 2) : (madeCells #[Value.int .i64 0, Value.int .i64 0] (n * 2))[j]? = some (.int .i64 0) := by
  have h2 : j % 2 = 0 ∨ j % 2 = 1 := by omega
  rcases h2 with e | e <;> simp [madeCells, hj, e]
/-- the cells of marks -/
def flat (l : List (Int × Int)) : List Value := l.flatMap fun m => [.int .i64 m.1, .int .i64 m.2]
theorem flat_length (l : List (Int × Int)) : (flat l).length = l.length * 2 := by
  induction l with
  | nil => rfl
  | cons x r ih => show (_ :: _ :: flat r).length = _; simp [ih]; omega
theorem flat_snoc (l : List (Int × Int)) (m : Int × Int) : flat (l ++ [m]) = flat l ++ [.int .i64 m.1, .int .i64 m.2] := by simp [flat]
theorem flat_get : ∀ (l : List (Int × Int)) (i : Nat) (h : i < l.length), (flat l)[i * 2]? = some (.int .i64 l[i].1) ∧ (flat l)[i * 2 + 1]? = some (.int .i64 l[i].2)
  | x :: r, 0, _ => ⟨rfl, rfl⟩
  | x :: r, i + 1, h => by
    have := flat_get r i (by simpa using h)
    have e : (i + 1) * 2 = i * 2 + 1 + 1 := by omega
    rw [e]
    simpa [flat] using this
/-- n marks numbered from k on -/
def markL (k : Int) (n : Nat) : List (Int × Int) := (List.range n).map fun (i : Nat) => (k + 2 * (i : Int), k + 2 * (i : Int) + 1)
theorem markL_length (k : Int) (n : Nat) : (markL k n).length = n := by simp [markL]
theorem markL_get (k : Int) (n i : Nat) (h : i < (markL k n).length) : (markL k n)[i] = (k + 2 * (i : Int), k + 2 * (i : Int) + 1) := by simp [markL]
/-- what markMarkS leaves -/
def Marked (w : World) (lo hi : Nat) (a : Option Addr) (k : Int) (n : Nat) (e : Ending) (w' : World) : Prop :=
  e = .returned (.int .i64 (k + 2 * (n : Int))) ∧ OwnIn w' lo hi a (markL k n) ∧ Within lo hi w w'

end Go.Proofs.Ytiphlffcgjdoaaa.Mk

namespace Go.Proofs.Ytiphlffcgjdoaaa.Mk
open Go.RowKit

/-- the world in which the law began -/
def Base (w0 w : World) : Prop := Below w0.heap.size w0 w
theorem Base.below {w0 w w' : World} (h : Base w0 w) (hb : Below w.heap.size w w') : Base w0 w' := Below.trans h (hb.mono (Below.size h))
theorem Base.within {w0 w w' : World} {lo hi : Nat} (h : Base w0 w) (hw : Within lo hi w w') (hl : w0.heap.size ≤ lo) : Base w0 w' := Below.trans h (hw.below hl (Below.size h))
theorem Base.size {w0 w : World} (h : Base w0 w) : w0.heap.size ≤ w.heap.size := Below.size h
/-- a slice of marks of the law's own -/
def OwnI (w : World) (lo hi : Nat) (a : Option Addr) (l : List (Int × Int)) : Prop := OwnIn w lo hi a l ∧ hi ≤ w.heap.size
theorem OwnI.below {w w' : World} {lo hi : Nat} {a : Option Addr} {l : List (Int × Int)} (h : OwnI w lo hi a l) (hb : Below w.heap.size w w') : OwnI w' lo hi a l :=
  ⟨h.1.same (Same.of_below hb h.2), Nat.le_trans h.2 hb.size⟩
theorem OwnI.within {w w' : World} {lo hi lo' hi' : Nat} {a : Option Addr} {l : List (Int × Int)} (h : OwnI w lo hi a l) (hw : Within lo' hi' w w') (ha : hi ≤ lo' ∨ hi' ≤ lo) : OwnI w' lo hi a l :=
  ⟨h.1.same (hw.same h.2 (by omega)), Nat.le_trans h.2 hw.size⟩
theorem OwnI.at_ {w : World} {lo hi : Nat} {a : Option Addr} {l : List (Int × Int)} (h : OwnI w lo hi a l) : MarksAt w a l := h.1.at_
/-- marks that came in -/
def InAt (w0 w : World) (a : Option Addr) (l : List (Int × Int)) : Prop := MarksBelow w w0.heap.size a l ∧ w0.heap.size ≤ w.heap.size
theorem InAt.of {w : World} {a : Option Addr} {l : List (Int × Int)} (h : MarksAt w a l) : InAt w w a l := ⟨h.below, Nat.le_refl _⟩
theorem MarksBelow.same {w w' : World} {B : Nat} {a : Option Addr} {l : List (Int × Int)} (h : MarksBelow w B a l) (hs : Same 0 B w w') : MarksBelow w' B a l := by
  rcases h with h | ⟨g, off, ha, hg, hc⟩
  · exact .inl h
  · have e := hs g (Nat.zero_le _) hg
    exact .inr ⟨g, off, ha, hg, fun i hi => ⟨(World.cell?_of_block (a := ⟨g, _, none⟩) e).trans (hc i hi).1, (World.cell?_of_block (a := ⟨g, _, none⟩) e).trans (hc i hi).2⟩⟩
theorem InAt.below {w0 w w' : World} {a : Option Addr} {l : List (Int × Int)} (h : InAt w0 w a l) (hb : Below w.heap.size w w') : InAt w0 w' a l :=
  ⟨h.1.same (Same.of_below hb h.2), Nat.le_trans h.2 hb.size⟩
theorem InAt.within {w0 w w' : World} {lo hi : Nat} {a : Option Addr} {l : List (Int × Int)} (h : InAt w0 w a l) (hw : Within lo hi w w') (hl : w0.heap.size ≤ lo) : InAt w0 w' a l :=
  ⟨h.1.same (hw.same h.2 (by omega)), Nat.le_trans h.2 hw.size⟩
theorem InAt.at_ {w0 w : World} {a : Option Addr} {l : List (Int × Int)} (h : InAt w0 w a l) : MarksAt w a l := by
  rcases h.1 with h | ⟨g, off, ha, _, hc⟩
  · exact .inl h
  · exact .inr ⟨g, off, ha, hc⟩
/-- a variable of two cells -/
structure Var2 (w : World) (g : Nat) (u v : Value) : Prop where
  c0 : w.cell? ⟨g, 0, none⟩ = some u
  c1 : w.cell? ⟨g, 1, none⟩ = some v
  lt : g < w.heap.size
theorem Var2.below {w w' : World} {g : Nat} {u v : Value} (h : Var2 w g u v) (hb : Below w.heap.size w w') : Var2 w' g u v :=
  ⟨(hb.cell (p := ⟨g, 0, none⟩) h.lt).trans h.c0, (hb.cell (p := ⟨g, 1, none⟩) h.lt).trans h.c1, Nat.lt_of_lt_of_le h.lt hb.size⟩
theorem Var2.within {w w' : World} {lo hi g : Nat} {u v : Value} (h : Var2 w g u v) (hw : Within lo hi w w') (ha : g < lo ∨ hi ≤ g) : Var2 w' g u v := by
  have e := hw.block g h.lt ha
  exact ⟨(World.cell?_of_block (a := ⟨g, 0, none⟩) e).trans h.c0, (World.cell?_of_block (a := ⟨g, 1, none⟩) e).trans h.c1, Nat.lt_of_lt_of_le h.lt hw.size⟩
theorem Var2.new (w : World) (u v : Value) (t : TypeId) : Var2 (w.alloc (.cells #[u, v] t)) w.heap.size u v :=
  ⟨by rw [World.cell?_alloc_mark]; rfl, by rw [World.cell?_alloc_mark]; rfl, by simp⟩
/-- a new variable of two cells, not yet stored into -/
structure New2 (w : World) (g : Nat) (u v : Value) : Prop where
  c0 : w.cell? ⟨g, 0, none⟩ = some u
  c1 : w.cell? ⟨g, 1, none⟩ = some v
  f0 : w.frozen? ⟨g, 0, none⟩ = false
  f1 : w.frozen? ⟨g, 1, none⟩ = false
  lt : g < w.heap.size
theorem New2.below {w w' : World} {g : Nat} {u v : Value} (h : New2 w g u v) (hb : Below w.heap.size w w') : New2 w' g u v :=
  ⟨(hb.cell (p := ⟨g, 0, none⟩) h.lt).trans h.c0, (hb.cell (p := ⟨g, 1, none⟩) h.lt).trans h.c1, (hb.frozen (p := ⟨g, 0, none⟩) h.lt).trans h.f0, (hb.frozen (p := ⟨g, 1, none⟩) h.lt).trans h.f1, Nat.lt_of_lt_of_le h.lt hb.size⟩
theorem New2.within {w w' : World} {lo hi g : Nat} {u v : Value} (h : New2 w g u v) (hw : Within lo hi w w') (ha : g < lo ∨ hi ≤ g) : New2 w' g u v := by
  have e := hw.block g h.lt ha
  exact ⟨(World.cell?_of_block (a := ⟨g, 0, none⟩) e).trans h.c0, (World.cell?_of_block (a := ⟨g, 1, none⟩) e).trans h.c1, (World.frozen?_of_block (a := ⟨g, 0, none⟩) e).trans h.f0, (World.frozen?_of_block (a := ⟨g, 1, none⟩) e).trans h.f1, Nat.lt_of_lt_of_le h.lt hw.size⟩
theorem New2.new (w : World) (u v : Value) (t : TypeId) : New2 (w.alloc (.cells #[u, v] t)) w.heap.size u v :=
  ⟨by rw [World.cell?_alloc_mark]; rfl, by rw [World.cell?_alloc_mark]; rfl, by rw [World.frozen?_alloc_mark]; simp, by rw [World.frozen?_alloc_mark]; simp, by simp⟩
theorem New2.store {w : World} {g : Nat} {u v : Value} (h : New2 w g u v) (x y : Value) : Var2 ((w.setCell ⟨g, 0, none⟩ x).setCell ⟨g, 1, none⟩ y) g x y := by
  refine ⟨?_, ?_, by simpa [World.setCell] using h.lt⟩
  · rw [World.cell?_setCell_other _ _ _ _ (ne_off (by omega)), World.cell?_setCell_same _ _ _ h.c0]
  · have c := h.c1
    rw [← World.cell?_setCell_other w (⟨g, 0, none⟩ : Addr) _ x (ne_off (by omega))] at c
    rw [World.cell?_setCell_same _ _ _ c]
/-- a variable of three cells -/
structure Var3 (w : World) (g : Nat) (u v x : Value) : Prop where
  c0 : w.cell? ⟨g, 0, none⟩ = some u
  c1 : w.cell? ⟨g, 1, none⟩ = some v
  c2 : w.cell? ⟨g, 2, none⟩ = some x
  lt : g < w.heap.size
theorem Var3.below {w w' : World} {g : Nat} {u v x : Value} (h : Var3 w g u v x) (hb : Below w.heap.size w w') : Var3 w' g u v x :=
  ⟨(hb.cell (p := ⟨g, 0, none⟩) h.lt).trans h.c0, (hb.cell (p := ⟨g, 1, none⟩) h.lt).trans h.c1, (hb.cell (p := ⟨g, 2, none⟩) h.lt).trans h.c2, Nat.lt_of_lt_of_le h.lt hb.size⟩
theorem Var3.within {w w' : World} {lo hi g : Nat} {u v x : Value} (h : Var3 w g u v x) (hw : Within lo hi w w') (ha : g < lo ∨ hi ≤ g) : Var3 w' g u v x := by
  have e := hw.block g h.lt ha
  exact ⟨(World.cell?_of_block (a := ⟨g, 0, none⟩) e).trans h.c0, (World.cell?_of_block (a := ⟨g, 1, none⟩) e).trans h.c1, (World.cell?_of_block (a := ⟨g, 2, none⟩) e).trans h.c2, Nat.lt_of_lt_of_le h.lt hw.size⟩
theorem Var3.new (w : World) (u v x : Value) (t : TypeId) : Var3 (w.alloc (.cells #[u, v, x] t)) w.heap.size u v x :=
  ⟨by rw [World.cell?_alloc_mark]; rfl, by rw [World.cell?_alloc_mark]; rfl, by rw [World.cell?_alloc_mark]; rfl, by simp⟩
structure New3 (w : World) (g : Nat) (u v x : Value) : Prop where
  c0 : w.cell? ⟨g, 0, none⟩ = some u
  c1 : w.cell? ⟨g, 1, none⟩ = some v
  c2 : w.cell? ⟨g, 2, none⟩ = some x
  f0 : w.frozen? ⟨g, 0, none⟩ = false
  f1 : w.frozen? ⟨g, 1, none⟩ = false
  f2 : w.frozen? ⟨g, 2, none⟩ = false
  lt : g < w.heap.size
theorem New3.below {w w' : World} {g : Nat} {u v x : Value} (h : New3 w g u v x) (hb : Below w.heap.size w w') : New3 w' g u v x :=
  ⟨(hb.cell (p := ⟨g, 0, none⟩) h.lt).trans h.c0, (hb.cell (p := ⟨g, 1, none⟩) h.lt).trans h.c1, (hb.cell (p := ⟨g, 2, none⟩) h.lt).trans h.c2,
    (hb.frozen (p := ⟨g, 0, none⟩) h.lt).trans h.f0, (hb.frozen (p := ⟨g, 1, none⟩) h.lt).trans h.f1, (hb.frozen (p := ⟨g, 2, none⟩) h.lt).trans h.f2, Nat.lt_of_lt_of_le h.lt hb.size⟩
theorem New3.new (w : World) (u v x : Value) (t : TypeId) : New3 (w.alloc (.cells #[u, v, x] t)) w.heap.size u v x :=
  ⟨by rw [World.cell?_alloc_mark]; rfl, by rw [World.cell?_alloc_mark]; rfl, by rw [World.cell?_alloc_mark]; rfl, by rw [World.frozen?_alloc_mark]; simp, by rw [World.frozen?_alloc_mark]; simp, by rw [World.frozen?_alloc_mark]; simp, by simp⟩
theorem New3.store {w : World} {g : Nat} {u v x : Value} (h : New3 w g u v x) (u' v' x' : Value) : Var3 (((w.setCell ⟨g, 0, none⟩ u').setCell ⟨g, 1, none⟩ v').setCell ⟨g, 2, none⟩ x') g u' v' x' := by
  have c1 := h.c1
  rw [← World.cell?_setCell_other w (⟨g, 0, none⟩ : Addr) _ u' (ne_off (by omega))] at c1
  have c2 := h.c2
  rw [← World.cell?_setCell_other w (⟨g, 0, none⟩ : Addr) _ u' (ne_off (by omega)), ← World.cell?_setCell_other _ (⟨g, 1, none⟩ : Addr) _ v' (ne_off (by omega))] at c2
  refine ⟨?_, ?_, ?_, by simpa [World.setCell] using h.lt⟩
  · rw [World.cell?_setCell_other _ _ _ _ (ne_off (by omega)), World.cell?_setCell_other _ _ _ _ (ne_off (by omega)), World.cell?_setCell_same _ _ _ h.c0]
  · rw [World.cell?_setCell_other _ _ _ _ (ne_off (by omega)), World.cell?_setCell_same _ _ _ c1]
  · rw [World.cell?_setCell_same _ _ _ c2]
theorem own_same {w w' : World} {B e size n : Nat} {v : Value} {xs : List Value} (h : w.ownsRow B e size v n xs) (hs : ∀ k, v.ownBlock = some k → w'.heap[k]? = w.heap[k]?) : w'.ownsRow B e size v n xs := by
  obtain ⟨h1, h2⟩ := h
  refine ⟨h1, ?_⟩
  rcases h2 with h2 | ⟨g, cap, cur, rfl, hg, hh, r⟩
  · exact .inl h2
  · exact .inr ⟨g, cap, cur, rfl, hg, (hs g rfl).trans hh, r⟩
theorem own_within {w w' : World} {B e size n lo hi : Nat} {v : Value} {xs : List Value} (h : w.ownsRow B e size v n xs) (hw : Within lo hi w w') (ha : hi ≤ B) : w'.ownsRow B e size v n xs :=
  own_same h fun k hk => by
    have := h.lt k hk
    exact hw.block k this.2 (by omega)
theorem own_below {w w' : World} {B e size n : Nat} {v : Value} {xs : List Value} (h : w.ownsRow B e size v n xs) (hb : Below w.heap.size w w') : w'.ownsRow B e size v n xs := by
  obtain ⟨h1, h2⟩ := h
  refine ⟨h1, ?_⟩
  rcases h2 with h2 | ⟨g, cap, cur, hv, hg, hh, r⟩
  · exact .inl h2
  · exact .inr ⟨g, cap, cur, hv, hg, (hb.block g (Array.getElem?_eq_some_iff.1 hh).1).trans hh, r⟩
theorem step_alloc (w : World) (o : Obj) : Below w.heap.size w (w.alloc o) := (Below.refl _ _).alloc (Nat.le_refl _) _
theorem step_drew (w : World) : Below w.heap.size w w.drew := (Below.refl _ _).drew

end Go.Proofs.Ytiphlffcgjdoaaa.Mk
