/- Parts of a law: ReadMath, PutMath, SeenMath, Base, Join, Num, Text, SetBytesMath, CrcMath, Crc. Conditions: on sizes, as each says. -/
import Derived.Test.YtiaoifodaoifjaaDoorZ1
import Derived.Test.YtiaoifodaoifjaaDoorRows
import Derived.WalkKit
import Derived.ProofKit
import Derived.OpenShut
import Derived.ShutString
import Derived.Lib.Hide
import Derived.Deep.Light
import Derived.Laws.BitsAllLaws
import Derived.Laws.Bits128
import Derived.Laws.Bits64
import Derived.Laws.BytesArg
import Derived.Laws.IdiomStrings
import Derived.OwnWalk
import Derived.Maps.AppendAt
import Derived.Lib.BufferWrite
import Derived.Laws.CopyOwn
import Derived.Deep.OwnRows
import Derived.WalkArith
import Derived.KernelRfl
set_option linter.unusedSimpArgs false
set_option linter.unusedVariables false
namespace Go.Proofs.YtiaoifodaoifjaaDoor.Mk
open Nu Ge Pn
def readMarks (s : ByteArray) : Nat → Int → Option (List (Int × Int) × Int)
  | 0, a => some ([], a)
  | k + 1, a =>
    if (readN s a).2.2 = 0 ∧ (readN s (readN s a).2.1).2.2 = 0 then
      (readMarks s k (readN s (readN s a).2.1).2.1).map fun p => (((readN s a).1, (readN s (readN s a).2.1).1) :: p.1, p.2)
    else none
theorem readMarks_succ (s : ByteArray) (k : Nat) (a : Int) : readMarks s (k + 1) a = if (readN s a).2.2 = 0 ∧ (readN s (readN s a).2.1).2.2 = 0 then
      (readMarks s k (readN s (readN s a).2.1).2.1).map fun p => (((readN s a).1, (readN s (readN s a).2.1).1) :: p.1, p.2) else none := rfl
def addL (l : List (Int × Int)) (o : Option (List (Int × Int) × Int)) : Option (List (Int × Int) × Int) := o.map fun p => (l ++ p.1, p.2)
theorem addL_nil (o : Option (List (Int × Int) × Int)) : addL [] o = o := by cases o <;> rfl
theorem addL_one (l : List (Int × Int)) (m : Int × Int) (o : Option (List (Int × Int) × Int)) : addL l (o.map fun p => (m :: p.1, p.2)) = addL (l ++ [m]) o := by
  cases o
  · rfl
  · simp [addL]
theorem readMarks_step {s : ByteArray} {k : Nat} {a x a1 y a2 : Int} (h1 : readN s a = (x, a1, 0)) (h2 : readN s a1 = (y, a2, 0)) (l : List (Int × Int)) :
    addL l (readMarks s (k + 1) a) = addL (l ++ [(x, y)]) (readMarks s k a2) := by
  rw [← addL_one]
  congr 1
  rw [readMarks_succ, h1]
  simp only
  rw [h2]
  simp
theorem readMarks_bad1 {s : ByteArray} {k : Nat} {a : Int} (h1 : (readN s a).2.2 ≠ 0) (l : List (Int × Int)) : addL l (readMarks s (k + 1) a) = none := by
  rw [readMarks_succ, if_neg (fun c => h1 c.1)]; rfl
theorem readMarks_bad2 {s : ByteArray} {k : Nat} {a x a1 : Int} (h1 : readN s a = (x, a1, 0)) (h2 : (readN s a1).2.2 ≠ 0) (l : List (Int × Int)) : addL l (readMarks s (k + 1) a) = none := by
  rw [readMarks_succ, if_neg (fun c => by rw [h1] at c; exact h2 c.2)]; rfl
def parse (s : ByteArray) (a : Int) : Option (List (Int × Int) × Int) :=
  if (readN s a).2.2 = 0 ∧ 0 ≤ (readN s a).1 ∧ (readN s a).1 ≤ 5 then readMarks s (readN s a).1.toNat (readN s a).2.1 else none
def seenAt (s : ByteArray) (a : Int) : Option (List (Int × Int) × Int) := (parse s a).filter fun p => rightB p.1
def readL (s : ByteArray) : List (Int × Int) := if 8000 < s.size then [] else match seenAt s 0 with | some p => if p.2 = (s.size : Int) then p.1 else [] | none => []
def readC (s : ByteArray) : Int := if 8000 < s.size then 2 else match seenAt s 0 with | some p => if p.2 = (s.size : Int) then 0 else 3 | none => 3
theorem At.append {s : ByteArray} {k : Nat} : ∀ {l1 : List UInt8} {l2 : List UInt8}, Pn.At s k l1 → Pn.At s (k + l1.length) l2 → Pn.At s k (l1 ++ l2) := by
  intro l1
  induction l1 generalizing k with
  | nil => intro l2 _ h; simpa using h
  | cons c r ih =>
    intro l2 h1 h2
    obtain ⟨hb, hk⟩ := h1.head
    refine Pn.At.cons hk hb (ih h1.tail ?_)
    rw [show k + 1 + r.length = k + (c :: r).length by simp; omega]; exact h2
theorem markB_len (x y : Int) : (markB (x, y)).length = (enc (fold x)).length + (enc (fold y)).length := List.length_append
theorem readMarks_at (s : ByteArray) : ∀ (k a : Nat) (l : List (Int × Int)) (e : Int), a ≤ s.size → readMarks s k (a : Int) = some (l, e) →
    Pn.At s a (l.flatMap markB) ∧ e = ((a + (l.flatMap markB).length : Nat) : Int) ∧ l.length = k
  | 0, a, l, e, ha, h => by
    unfold readMarks at h
    simp only [Option.some.injEq, Prod.mk.injEq] at h
    obtain ⟨rfl, rfl⟩ := h
    exact ⟨⟨by simpa using ha, fun j hj => by simp at hj⟩, by simp, rfl⟩
  | k + 1, a, l, e, ha, h => by
    rw [readMarks_succ] at h
    split at h
    · rename_i hc
      obtain ⟨c1, c2⟩ := hc
      obtain ⟨x, a1, z1, h1⟩ : ∃ x a1 z1, readN s (a : Int) = (x, a1, z1) := ⟨_, _, _, rfl⟩
      rw [h1] at c1 c2 h
      simp only at c1 c2 h
      subst c1
      obtain ⟨i1, i2, _⟩ := readN_inv h1
      obtain ⟨y, a2, z2, h2⟩ : ∃ y a2 z2, readN s a1 = (y, a2, z2) := ⟨_, _, _, rfl⟩
      rw [h2] at c2 h
      simp only at c2 h
      subst c2
      rw [i2] at h2
      obtain ⟨j1, j2, _⟩ := readN_inv h2
      obtain ⟨p, hp, he⟩ := Option.map_eq_some_iff.1 h
      simp only [Prod.mk.injEq] at he
      obtain ⟨rfl, rfl⟩ := he
      rw [j2] at hp
      obtain ⟨k1, k2, k3⟩ := readMarks_at s k _ p.1 p.2 j1.1 hp
      refine ⟨?_, ?_, by simp [k3]⟩
      · rw [List.flatMap_cons]
        refine At.append (At.append i1 j1) ?_
        rw [markB_len, ← Nat.add_assoc]; exact k1
      · rw [k2, List.flatMap_cons, List.length_append, markB_len]
        congr 1; omega
    · cases h
theorem parse_at {s : ByteArray} {a : Nat} {l : List (Int × Int)} {e : Int} (h : parse s (a : Int) = some (l, e)) : Pn.At s a (seenB l) ∧ e = ((a + (seenB l).length : Nat) : Int) := by
  unfold parse at h
  split at h
  · rename_i hc
    obtain ⟨c1, c2, c3⟩ := hc
    obtain ⟨x, a1, z1, h1⟩ : ∃ x a1 z1, readN s (a : Int) = (x, a1, z1) := ⟨_, _, _, rfl⟩
    rw [h1] at c1 c2 c3 h
    simp only at c1 c2 c3 h
    subst c1
    obtain ⟨i1, i2, _⟩ := readN_inv h1
    rw [i2] at h
    obtain ⟨k1, k2, k3⟩ := readMarks_at s _ _ l e i1.1 h
    have hx : x = (l.length : Int) := by omega
    rw [hx] at i1 k1 k2
    unfold seenB
    exact ⟨At.append i1 k1, by rw [k2, List.length_append]; congr 1; omega⟩
  · cases h
theorem At.whole {s : ByteArray} {l : List UInt8} (h : Pn.At s 0 l) (hl : l.length = s.size) : s = ⟨l.toArray⟩ := by
  apply ByteArray.ext
  apply Array.ext
  · simpa using hl.symm
  · intro i h1 h2
    have := h.2 i (by simpa using h2)
    rw [Nat.zero_add, byteN_eq s i h1] at this
    have e : s[i] = l[i]'(by simpa using h2) := UInt8.toNat_inj.1 this
    have e' : s.data[i] = l[i]'(by simpa using h2) := e
    simpa using e'
theorem read_right {s : ByteArray} {l : List (Int × Int)} {e : Int} (h : parse s 0 = some (l, e)) (hr : rightB l = true) (he : e = (s.size : Int)) : bytesV l = s := by
  obtain ⟨h1, h2⟩ := parse_at (a := 0) h
  rw [bytesV_yes hr, At.whole h1 (by omega)]
theorem read_back {s : ByteArray} {l : List (Int × Int)} {e : Int} (h : parse s 0 = some (l, e)) (hs : bytesV l = s) (h0 : s.size ≠ 0) : rightB l = true ∧ e = (s.size : Int) := by
  obtain ⟨_, h2⟩ := parse_at (a := 0) h
  cases hr : rightB l
  · rw [bytesV_no hr] at hs; subst hs; exact absurd rfl h0
  · rw [bytesV_yes hr] at hs
    refine ⟨rfl, ?_⟩
    rw [h2, ← hs]
    simp [ByteArray.size]
theorem parse_pos {s : ByteArray} {l : List (Int × Int)} {e : Int} (h : parse s 0 = some (l, e)) : s.size ≠ 0 := by
  obtain ⟨h1, _⟩ := parse_at (a := 0) h
  have := h1.1
  have h3 := enc_pos (fold l.length)
  unfold seenB at this
  rw [List.length_append] at this
  omega
section
variable {s : ByteArray} {l : List (Int × Int)} {e : Int}
theorem read_size (h : 8000 < s.size) : readL s = [] ∧ readC s = 2 := ⟨if_pos h, if_pos h⟩
theorem seenAt_some {a : Int} (h : parse s a = some (l, e)) (hr : rightB l = true) : seenAt s a = some (l, e) := by unfold seenAt; rw [h]; simp [Option.filter, hr]
theorem seenAt_wrong {a : Int} (h : parse s a = some (l, e)) (hr : rightB l = false) : seenAt s a = none := by unfold seenAt; rw [h]; simp [Option.filter, hr]
theorem seenAt_none {a : Int} (h : parse s a = none) : seenAt s a = none := by unfold seenAt; rw [h]; rfl
theorem read_none (h8 : ¬ 8000 < s.size) (h : seenAt s 0 = none) : readL s = [] ∧ readC s = 3 := by
  unfold readL readC; rw [if_neg h8, if_neg h8, h]; exact ⟨rfl, rfl⟩
theorem read_more (h8 : ¬ 8000 < s.size) (h : seenAt s 0 = some (l, e)) (he : e ≠ (s.size : Int)) : readL s = [] ∧ readC s = 3 := by
  unfold readL readC; rw [if_neg h8, if_neg h8, h]; exact ⟨if_neg he, if_neg he⟩
theorem read_yes (h8 : ¬ 8000 < s.size) (h : seenAt s 0 = some (l, e)) (he : e = (s.size : Int)) : readL s = l ∧ readC s = 0 := by
  unfold readL readC; rw [if_neg h8, if_neg h8, h]; exact ⟨if_pos he, if_pos he⟩
end
theorem readN_bad (s : ByteArray) (a : Int) (h : (readN s a).2.2 ≠ 0) : ∃ c, c ≠ 0 ∧ readN s a = (0, 0, c) := by
  have key : ∀ (d i u b : Nat), 10 - i = d → (G s b i u).2.2 ≠ 0 → ∃ c, c ≠ 0 ∧ G s b i u = (0, 0, c) := by
    intro d
    induction d with
    | zero => intro i u b hd _; exact ⟨3, by decide, G_end (by omega)⟩
    | succ d ih =>
      intro i u b hd h
      have hi : i < 10 := by omega
      by_cases h1 : s.size ≤ b + i
      · exact ⟨4, by decide, G_short hi h1⟩
      by_cases h2 : i = 9 ∧ 1 < byteN s (b + i)
      · exact ⟨3, by decide, G_ten hi h1 h2⟩
      by_cases h3 : byteN s (b + i) < 128
      · by_cases h4 : byteN s (b + i) = 0 ∧ 0 < i
        · exact ⟨3, by decide, G_zero hi h1 h2 h3 h4⟩
        · rw [G_last hi h1 h2 h3 h4] at h; exact absurd rfl h
      · rw [G_more hi h1 h2 h3] at h ⊢
        exact ih _ _ _ (by omega) h
  unfold readN at h ⊢
  split
  · exact ⟨1, by decide, rfl⟩
  · rw [if_neg (by assumption)] at h
    exact key 10 0 0 _ rfl h
theorem readL_length (s : ByteArray) : (readL s).length ≤ 5 := by
  unfold readL
  split
  · simp
  · split
    · rename_i p hp
      split
      · unfold seenAt at hp
        obtain ⟨_, h⟩ := Option.filter_eq_some_iff.1 hp
        exact right_len h
      · simp
    · simp
open Go.RowKit
def putL (l : List (Int × Int)) (m : Int × Int) : List (Int × Int) := if l.length ≤ 400 ∧ rightB l = true ∧ dotB m = true then joinTo l [m] 5 else []
def putC (l : List (Int × Int)) (m : Int × Int) : Int := if l.length ≤ 400 then (if rightB l = true ∧ dotB m = true then 0 else 1) else 2
theorem putL_no {l : List (Int × Int)} {m : Int × Int} (h : rightB l = false ∨ dotB m = false) : putL l m = [] := if_neg (by rcases h with h | h <;> simp [h])
theorem putL_great {l : List (Int × Int)} {m : Int × Int} (h : ¬ l.length ≤ 400) : putL l m = [] := if_neg (fun c => h c.1)
theorem putC_great {l : List (Int × Int)} {m : Int × Int} (h : ¬ l.length ≤ 400) : putC l m = 2 := if_neg h
theorem putC_form {l : List (Int × Int)} {m : Int × Int} (hs : l.length ≤ 400) (h : rightB l = false ∨ dotB m = false) : putC l m = 1 := by
  unfold putC; rw [if_pos hs, if_neg (by rcases h with h | h <;> simp [h])]
theorem putC_ok {l : List (Int × Int)} {m : Int × Int} (hs : l.length ≤ 400) (hr : rightB l = true) (hd : dotB m = true) : putC l m = 0 := by
  unfold putC; rw [if_pos hs, if_pos ⟨hr, hd⟩]
theorem putL_yes {l : List (Int × Int)} {m : Int × Int} (hs : l.length ≤ 400) (hr : rightB l = true) (hd : dotB m = true) : putL l m = joinTo l [m] 5 := if_pos ⟨hs, hr, hd⟩
theorem putL_length (l : List (Int × Int)) (m : Int × Int) : (putL l m).length ≤ 5 := by
  unfold putL; split
  · exact joinTo_length l [m] 5
  · simp
def GivesOut (w : World) (l : List (Int × Int)) (code : Int) (e : Ending) (w' : World) : Prop :=
  ∃ a cap, e = .returned (.agg #[.slice a l.length cap, .int .i64 code]) ∧ OwnIn w' w.heap.size w'.heap.size a l ∧ Below w.heap.size w w'
theorem marks_one (w : World) (x y : Int) : MarksAt (w.alloc (.cells #[.int .i64 x, .int .i64 y] 64)) (some ⟨w.heap.size, 0, none⟩) [(x, y)] := by
  refine .inr ⟨_, 0, rfl, fun i hi => ?_⟩
  have : i = 0 := by simpa using hi
  subst this
  exact ⟨by rw [World.cell?_alloc_mark]; rfl, by rw [World.cell?_alloc_mark]; rfl⟩
structure Boxed (w : World) (n : Nat) (x y : Int) : Prop where
  b0 : w.cell? ⟨n, 0, none⟩ = some (.int .i64 x)
  b1 : w.cell? ⟨n, 1, none⟩ = some (.int .i64 y)
  r0 : w.cell? ⟨n + 1, 0, none⟩ = some (.slice none 0 0)
  r1 : w.cell? ⟨n + 1, 1, none⟩ = some (.int .i64 0)
  f0 : w.frozen? ⟨n + 1, 0, none⟩ = false
  f1 : w.frozen? ⟨n + 1, 1, none⟩ = false
  lt : n + 1 < w.heap.size
theorem Boxed.new (w : World) (x y : Int) (t t' : TypeId) : Boxed ((w.alloc (.cells #[.int .i64 x, .int .i64 y] t)).alloc (.cells #[.slice none 0 0, .int .i64 0] t')) w.heap.size x y := by
  have e : (w.alloc (.cells #[.int .i64 x, .int .i64 y] t)).heap.size = w.heap.size + 1 := by simp
  constructor
  · rw [World.cell?_alloc_lt _ _ _ (by simp), World.cell?_alloc_mark]; rfl
  · rw [World.cell?_alloc_lt _ _ _ (by simp), World.cell?_alloc_mark]; rfl
  · rw [← e, World.cell?_alloc_mark]; rfl
  · rw [← e, World.cell?_alloc_mark]; rfl
  · rw [← e, World.frozen?_alloc_mark]; simp
  · rw [← e, World.frozen?_alloc_mark]; simp
  · simp
theorem Boxed.below {w w' : World} {n : Nat} {x y : Int} (h : Boxed w n x y) (hb : Below w.heap.size w w') : Boxed w' n x y where
  b0 := (hb.cell (p := ⟨n, 0, none⟩) (by have := h.lt; simp only; omega)).trans h.b0
  b1 := (hb.cell (p := ⟨n, 1, none⟩) (by have := h.lt; simp only; omega)).trans h.b1
  r0 := (hb.cell (p := ⟨n + 1, 0, none⟩) h.lt).trans h.r0
  r1 := (hb.cell (p := ⟨n + 1, 1, none⟩) h.lt).trans h.r1
  f0 := (hb.frozen (p := ⟨n + 1, 0, none⟩) h.lt).trans h.f0
  f1 := (hb.frozen (p := ⟨n + 1, 1, none⟩) h.lt).trans h.f1
  lt := Nat.lt_of_lt_of_le h.lt hb.size
open Nu Ge Pn
section
variable {a b : List (Int × Int)}
end
theorem readN_fwd {s : ByteArray} {a : Nat} {n : Int} (h : Pn.At s a (enc (fold n))) (hn : -9223372036854775808 ≤ n ∧ n ≤ 9223372036854775807) : readN s (a : Int) = (n, ((a + (enc (fold n)).length : Nat) : Int), 0) := by
  unfold readN
  rw [if_neg (by omega), Int.toNat_natCast, G_enc s a (fold n) 0 0 h (by omega) (by decide) (by have := fold_lt n hn; simpa using this) (.inl rfl)]
  simp [unz_fold]
theorem At.left {s : ByteArray} {k : Nat} : ∀ {l1 l2 : List UInt8}, Pn.At s k (l1 ++ l2) → Pn.At s k l1 ∧ Pn.At s (k + l1.length) l2 := by
  intro l1
  induction l1 generalizing k with
  | nil => intro l2 h; exact ⟨⟨by have := h.1; simp at this ⊢; omega, fun j hj => by simp at hj⟩, by simpa using h⟩
  | cons c r ih =>
    intro l2 h
    obtain ⟨hb, hk⟩ := Pn.At.head h
    obtain ⟨h1, h2⟩ := ih h.tail
    refine ⟨Pn.At.cons hk hb h1, ?_⟩
    rw [show k + (c :: r).length = k + 1 + r.length by simp; omega]; exact h2
theorem readMarks_fwd (s : ByteArray) : ∀ (l : List (Int × Int)) (a : Nat), (∀ m ∈ l, dotB m = true) → Pn.At s a (l.flatMap markB) → readMarks s l.length (a : Int) = some (l, ((a + (l.flatMap markB).length : Nat) : Int))
  | [], a, _, _ => by simp [readMarks]
  | m :: r, a, h, hat => by
    have hm := (dotB_iff m).1 (h m (by simp))
    rw [List.flatMap_cons] at hat
    obtain ⟨h1, h2⟩ := At.left hat
    obtain ⟨h3, h4⟩ := At.left (show Pn.At s a (enc (fold m.1) ++ enc (fold m.2)) from h1)
    have r1 := readN_fwd h3 (by omega)
    have r2 := readN_fwd h4 (by omega)
    have e : a + (markB m).length = a + (enc (fold m.1)).length + (enc (fold m.2)).length := by
      rw [show (markB m).length = _ from markB_len m.1 m.2]; omega
    rw [e] at h2
    have ih := readMarks_fwd s r _ (fun x hx => h x (by simp [hx])) h2
    rw [List.length_cons, readMarks_succ, r1]
    simp only
    rw [r2]
    simp only [and_self, if_true]
    rw [ih]
    simp only [Option.map_some, Option.some.injEq, Prod.mk.injEq, true_and]
    rw [List.flatMap_cons, List.length_append, ← Nat.add_assoc, e]
theorem at_self (l : List UInt8) : Pn.At ⟨l.toArray⟩ 0 l := by
  refine ⟨by simp [ByteArray.size], fun j hj => ?_⟩
  unfold byteN
  simp [List.getD, hj]
end Go.Proofs.YtiaoifodaoifjaaDoor.Mk
namespace Go.Proofs.YtiaoifodaoifjaaDoor.Nu
open Go.RowKit
theorem ret_int {k : IntKind} {a b : Int} (h : a = b) : Ending.returned (.int k a) = .returned (.int k b) := by rw [h]
def bv (b : UInt8) : Value := .int .u8 (b.toNat : Int)
theorem bv_of (k : Nat) (h : k < 256) : Value.int .u8 (k : Int) = bv (UInt8.ofNat k) := by unfold bv; rw [toNat_ofNat k h]
structure Arr (w : World) (g : Nat) (l : List UInt8) : Prop where
  cell : ∀ j (h : j < l.length), w.cell? ⟨g, j, none⟩ = some (bv l[j])
  free : ∀ j, w.frozen? ⟨g, j, none⟩ = false
theorem Arr.set {w : World} {g : Nat} {l : List UInt8} (h : Arr w g l) (k : Nat) (hk : k < l.length) (b : UInt8) : Arr (w.setCell ⟨g, k, none⟩ (bv b)) g (l.set k b) := by
  constructor
  · intro j hj
    have hj' : j < l.length := by simpa using hj
    by_cases e : j = k
    · subst e
      rw [World.cell?_setCell_same _ _ _ (h.cell j hj'), List.getElem_set_self]
    · rw [World.cell?_setCell_other _ _ _ _ (by intro hh; injection hh with _ h2; exact e h2.symm), h.cell j hj', List.getElem_set_ne (fun hh => e hh.symm)]
  · intro j
    rw [World.frozen?_setCell]; exact h.free j
theorem Arr.string {w : World} {g : Nat} {l : List UInt8} (h : Arr w g l) (m c : Nat) (hm : m ≤ l.length) :
    (convert 22 9 (.slice (some ⟨g, 0, none⟩) m c)).run Tryd.prog w = .ok (.string ⟨(l.take m).toArray⟩) w := by
  have hl : (l.take m).length = m := by rw [List.length_take]; omega
  have := run_convert_bytes_back (P := Tryd.prog) w 22 9 5 ⟨g, 0, none⟩ c (l.take m) Tryd.underlying22 Tryd.underlying5 Tryd.underlying9 (fun j hj => by
    have hj' : j < l.length := by rw [hl] at hj; omega
    have e : (⟨g, 0, none⟩ : Addr).add j = ⟨g, j, none⟩ := by unfold Addr.add; split <;> simp_all
    rw [e, h.cell j hj', List.getElem_take]; rfl)
  rw [hl] at this; exact this
theorem take_set {α : Type} (l : List α) (k : Nat) (hk : k < l.length) (x : α) : (l.set k x).take (k + 1) = l.take k ++ [x] := by
  rw [List.take_succ_eq_append_getElem (by simpa using hk), List.take_set, List.set_eq_of_length_le (by rw [List.length_take]; omega)]
  simp
theorem info8 : (Tryd.prog.info? 5).map (fun i => (i.zero, i.size, i.bytes)) = some (some (.int .u8 0), 1, 1) := by kernel_rfl
theorem own_string {w : World} {B : Nat} {v : Value} {m : Nat} {l : List UInt8} (h : w.ownsRow B 5 1 v m (l.map bv)) :
    (convert 22 9 v).run Tryd.prog w = .ok (.string ⟨l.toArray⟩) w := by
  obtain ⟨hlen, hc⟩ := h
  have hl : l.length = m := by simpa using hlen
  rcases hc with ⟨rfl, rfl⟩ | ⟨g, cap, cur, rfl, hg, hh, hn, hm, hs, ht⟩
  · have : l = [] := List.length_eq_zero_iff.1 hl
    subst this
    exact run_convert_bytes_nil w 22 5 Tryd.underlying22 Tryd.underlying5 0 0 9 Tryd.underlying9
  · subst hl
    refine run_convert_bytes_back (P := Tryd.prog) w 22 9 5 ⟨g, 0, none⟩ cap l Tryd.underlying22 Tryd.underlying5 Tryd.underlying9 (fun j hj => ?_)
    have e : (⟨g, 0, none⟩ : Addr).add j = ⟨g, j, none⟩ := by unfold Addr.add; split <;> simp_all
    have hcur : cur[j]? = some (bv l[j]) := by
      have h1 : (cur.toList.take (l.length * 1))[j]? = some (bv l[j]) := by rw [ht]; simp [hj]
      rw [List.getElem?_take_of_lt (by omega)] at h1
      simpa using h1
    rw [e]
    simp [World.cell?, hh, hcur, bv]
open Go.RowKit
def cat (ss : List ByteArray) : List UInt8 := (ss.map (·.data.toList)).flatten
theorem cat_take (ss : List ByteArray) (k : Nat) (h : k < ss.length) : cat (ss.take (k + 1)) = cat (ss.take k) ++ ss[k].data.toList := by
  unfold cat; rw [List.take_succ_eq_append_getElem h, List.map_append, List.flatten_append]; simp
theorem cat_take_le (ss : List ByteArray) (k : Nat) : (cat (ss.take k)).length ≤ (cat ss).length := by
  have : cat ss = cat (ss.take k) ++ cat (ss.drop k) := by
    unfold cat; rw [← List.flatten_append, ← List.map_append, List.take_append_drop]
  rw [this, List.length_append]; omega
theorem size_data (s : ByteArray) : s.data.toList.length = s.size := by rw [Array.length_toList]; rfl
theorem info8s : (Tryd.prog.info? 5).map (·.size) = some 1 := by kernel_rfl
def Row (w : World) (g : Nat) (l : List UInt8) : Prop := w.heap[g]? = some (.cells (l.map bv).toArray 5 (0, 0))
theorem Row.new (w : World) (m : Nat) : Row (w.alloc (.cells (madeCells #[.int .u8 0] m) 5)) w.heap.size (List.replicate m 0) := by
  unfold Row
  have e : madeCells #[Value.int .u8 0] m = ((List.replicate m (0 : UInt8)).map bv).toArray := by
    apply Array.ext
    · simp [madeCells]
    · intro i h1 h2
      simp [madeCells, bv, Nat.mod_one]
  rw [← e]
  show (w.heap.push _)[w.heap.size]? = _
  simp
theorem Row.string {w : World} {g : Nat} {l : List UInt8} (h : Row w g l) (c : Nat) :
    (convert 22 9 (.slice (some ⟨g, 0, none⟩) l.length c)).run Tryd.prog w = .ok (.string ⟨l.toArray⟩) w := by
  refine run_convert_bytes_back (P := Tryd.prog) w 22 9 5 ⟨g, 0, none⟩ c l Tryd.underlying22 Tryd.underlying5 Tryd.underlying9 (fun j hj => ?_)
  have e : (⟨g, 0, none⟩ : Addr).add j = ⟨g, j, none⟩ := by unfold Addr.add; split <;> simp_all
  rw [e]
  have hh : w.heap[g]? = some (.cells (l.map bv).toArray 5 (0, 0)) := h
  simp [World.cell?, hh, hj, bv]
def laid (l : List UInt8) (a : Nat) (p : ByteArray) : List UInt8 := l.take a ++ p.data.toList ++ l.drop (a + p.size)
theorem laid_length (l : List UInt8) (a : Nat) (p : ByteArray) (h : a + p.size ≤ l.length) : (laid l a p).length = l.length := by
  unfold laid; rw [List.length_append, List.length_append, size_data, List.length_take, List.length_drop]; omega
theorem laid_take (l : List UInt8) (a : Nat) (p : ByteArray) (h : a + p.size ≤ l.length) : (laid l a p).take (a + p.size) = l.take a ++ p.data.toList := by
  unfold laid
  have : (l.take a ++ p.data.toList).length = a + p.size := by rw [List.length_append, size_data, List.length_take]; omega
  rw [← this, List.take_left']; rfl
theorem Row.copy {w : World} {g : Nat} {l : List UInt8} (h : Row w g l) (ty : TypeId) (a d c : Nat) (p : ByteArray) (hd : p.size ≤ d) (hf : a + p.size ≤ l.length) :
    (Builtin.copy_ #[22, 9] ty #[.slice (some ⟨g, a, none⟩) d c, .string p]).run Tryd.prog w = .ok (goInt p.size) (w.setRow g ((laid l a p).map bv).toArray) := by
  have := Lib.run_copy_row_string (P := Tryd.prog) w 22 9 ty 5 g a d c p (l.map bv).toArray 5 Tryd.underlying22 info8s h hd (by simpa using hf)
  refine this.trans (congrArg (fun c => Result.ok (goInt p.size) (w.setRow g c)) ?_)
  unfold laid
  simp [Lib.byteCells, bv]
theorem Row.laid {w : World} {g : Nat} {l : List UInt8} (h : Row w g l) (l' : List UInt8) : Row (w.setRow g (l'.map bv).toArray) g l' :=
  setRow_heap w g _ _ 5 _ h
set_option maxRecDepth 100000 in
set_option maxHeartbeats 2000000 in
theorem joined_any (b : Nat) (ss : List ByteArray) (cap : Nat) (w : World) (hn : ss.length ≤ 1000) (ht : (cat ss).length ≤ 1000000)
    (hc : ∀ i (h : i < ss.length), w.cell? ⟨b, i, none⟩ = some (.string ss[i])) :
    Calls Tryd.prog 24 #[.slice (some ⟨b, 0, none⟩) ss.length cap] w fun e w' => e = .returned (.string ⟨(cat ss).toArray⟩) ∧ Below w.heap.size w w' := by
  have HC := jj hc
  clear hc
  go_enter Tryd.func24, Tryd.ntmps24
  go_wp2
  go_loop [3, 12] (fun z i => ∃ k m : Nat, k ≤ ss.length ∧ i = .int .i64 k ∧ z = .int .i64 m ∧ m = (cat (ss.take k)).length) (fun _ i => ss.length - (intOf i).toNat)
  case atStart => exact ⟨0, 0, Nat.zero_le _, rfl, rfl, by simp [cat]⟩
  case round =>
    obtain ⟨k, m, hk, rfl, rfl, hm⟩ := hrel
    have hml := cat_take_le ss k
    rw [← hm] at hml
    have HM := jj hm
    clear hm
    by_cases hlt : k < ss.length
    · have hcell := HC.out k hlt
      have hs2 := cat_take_le ss (k + 1)
      rw [cat_take ss k hlt, List.length_append, ← HM.out, size_data] at hs2
      have HN : Hid (m + ss[k].size = (cat (ss.take (k + 1))).length) := jj (by rw [cat_take ss k hlt, List.length_append, ← HM.out, size_data])
      generalize ss[k] = p at hcell hs2 HN
      go_wp2
      go_round
      case rel => exact ⟨k + 1, m + p.size, by omega, by go_num, by go_num, HN.out⟩
      case measure => go_light; simp [intOf]; omega
    · have hmt : m = (cat ss).length := by rw [HM.out, List.take_of_length_le (by omega)]
      have HMT := jj hmt
      clear hmt
      have hmk := run_make_row' (P := Tryd.prog) 22 5 (.int .u8 0) 1 Tryd.underlying22 info8 rfl .i64 .i64 m (by omega) (by omega)
      go_wp2
      clear hmk
      go_loopw [7, 25] (fun z i wr => ∃ (k a : Nat) (l : List UInt8), k ≤ ss.length ∧ i = .int .i64 k ∧ z = .int .i64 a ∧ a = (cat (ss.take k)).length ∧ l.length = m ∧ l.take a = cat (ss.take k) ∧ Row wr w.heap.size l ∧ Below w.heap.size w wr) (fun _ i _ => ss.length - (intOf i).toNat)
      case atStart => exact ⟨0, 0, List.replicate m 0, Nat.zero_le _, rfl, rfl, by simp [cat], by simp, by simp [cat], Row.new w m, (Below.refl _ _).alloc (Nat.le_refl _) _⟩
      case round =>
        obtain ⟨k, a, l, hk, rfl, rfl, ha, hl, htk, hrow, hbel⟩ := hrel
        have hal := cat_take_le ss k
        rw [← ha, ← HMT.out] at hal
        have HA := jj ha
        have HL := jj hl
        have HT := jj htk
        have HR := jj hrow
        clear ha hl htk hrow
        by_cases hlt : k < ss.length
        · have hb : b < w.heap.size := by simpa using World.block_lt_of_cell? w _ (HC.out k hlt)
          have hcell := (hbel.cell (p := ⟨b, k, none⟩) hb).trans (HC.out k hlt)
          have hs2 := cat_take_le ss (k + 1)
          rw [cat_take ss k hlt, List.length_append, ← HA.out, size_data, ← HMT.out] at hs2
          have HN := jj (cat_take ss k hlt)
          generalize ss[k] = p at hcell hs2 HN
          by_cases ham : m = a
          · have hp0 : p.size = 0 := by omega
            have hcp := Lib.run_copy_empty_string (P := Tryd.prog) wr 22 9 3 5 (some ⟨w.heap.size, 0, none⟩) 0 0 p Tryd.underlying22 (by kernel_rfl) hp0
            have HP := jj hp0
            clear hp0
            go_wp2
            go_roundw
            case rel =>
              have hd : p.data.toList = [] := List.length_eq_zero_iff.1 (by rw [size_data, HP.out])
              refine ⟨k + 1, a, l, by omega, by go_num, rfl, ?_, HL.out, ?_, HR.out, hbel⟩
              · rw [HN.out, hd, List.append_nil]; exact HA.out
              · rw [HN.out, hd, List.append_nil]; exact HT.out
            case measure => go_light; simp [intOf]; omega
          · have hcp := HR.out.copy 3 a (m - a) (m - a) p (by omega) (by rw [HL.out]; omega)
            have hrow' := HR.out.laid (laid l a p)
            have hbel' := below_setRow hbel (Nat.le_refl _) ((laid l a p).map bv).toArray
            generalize wr.setRow w.heap.size ((laid l a p).map bv).toArray = w2 at hcp hrow' hbel'
            have HR' := jj hrow'
            clear hrow'
            go_wp2
            go_roundw
            case rel =>
              refine ⟨k + 1, a + p.size, laid l a p, by omega, by go_num, by go_num, ?_, ?_, ?_, HR'.out, hbel'⟩
              · rw [HN.out, List.length_append, size_data, ← HA.out]
              · rw [laid_length _ _ _ (by rw [HL.out]; omega)]; exact HL.out
              · rw [laid_take _ _ _ (by rw [HL.out]; omega), HT.out, HN.out]
            case measure => go_light; simp [intOf]; omega
        · have hc : _ := HR.out.string m
          have he : l = cat ss := by
            have h1 := HT.out
            rw [HA.out, List.take_of_length_le (show ss.length ≤ k by omega), ← HMT.out, List.take_of_length_le (by rw [HL.out]; exact Nat.le_refl _)] at h1
            exact h1
          rw [HL.out, he] at hc
          clear he
          go_wp2
          go_ret
          exact ⟨rfl, hbel⟩
theorem cat_one (s : ByteArray) : ByteArray.mk (cat [s]).toArray = s := by simp [cat]
theorem cat_two (s t : ByteArray) : ByteArray.mk (cat [s, t]).toArray = s ++ t := by
  apply ByteArray.ext; rw [ByteArray.data_append]; simp [cat]
theorem joined_two (s t : ByteArray) (w : World) (h : s.size + t.size ≤ 1000000) :
    Calls Tryd.prog 24 #[.slice (some ⟨w.heap.size, 0, none⟩) 2 2] (w.alloc (.cells #[.string s, .string t] 9)) fun e w' => e = .returned (.string (s ++ t)) ∧ Below w.heap.size w w' := by
  have hb : Below w.heap.size w (w.alloc (.cells #[.string s, .string t] 9)) := (Below.refl _ _).alloc (Nat.le_refl _) _
  refine (joined_any w.heap.size [s, t] 2 _ (by simp) (by simp [cat]; exact h) (fun i hi => ?_)).mono fun e w' he => ?_
  · rw [World.cell?_alloc_mark]
    match i, hi with
    | 0, _ | 1, _ => rfl
  · rw [cat_two] at he
    exact ⟨he.1, hb.trans (he.2.mono hb.size)⟩
theorem joined_one (s : ByteArray) (w : World) (h : s.size ≤ 1000000) :
    Calls Tryd.prog 24 #[.slice (some ⟨w.heap.size, 0, none⟩) 1 1] (w.alloc (.cells #[.string s] 9)) fun e w' => e = .returned (.string s) ∧ Below w.heap.size w w' := by
  have hb : Below w.heap.size w (w.alloc (.cells #[.string s] 9)) := (Below.refl _ _).alloc (Nat.le_refl _) _
  refine (joined_any w.heap.size [s] 1 _ (by simp) (by simp [cat]; exact h) (fun i hi => ?_)).mono fun e w' he => ?_
  · rw [World.cell?_alloc_mark]
    match i, hi with
    | 0, _ => rfl
  · rw [cat_one] at he
    exact ⟨he.1, hb.trans (he.2.mono hb.size)⟩
open Go.RowKit
theorem i64_not_neg (n : Int) (h0 : n < 0) (h1 : -9223372036854775808 ≤ n) : bits .xor .i64 (-1) n = -1 - n := by
  have e : (BitVec.ofInt 64 (-1) ^^^ BitVec.ofInt 64 n) = ~~~ (BitVec.ofInt 64 n) := by
    have : BitVec.ofInt 64 (-1) = BitVec.allOnes 64 := by decide
    rw [this, BitVec.allOnes_xor]
  show IntKind.i64.wrap ((BitVec.ofInt 64 (-1) ^^^ BitVec.ofInt 64 n).toNat : Int) = _
  rw [e, BitVec.toNat_not, BitVec.toNat_ofInt]
  have : n % ((2 ^ 64 : Nat) : Int) = n + 18446744073709551616 := by omega
  rw [this]
  have e2 : ((2 ^ 64 - 1 - (n + 18446744073709551616).toNat : Nat) : Int) = -1 - n := by omega
  rw [e2]
  simp [IntKind.wrap, IntKind.bits, IntKind.signed]; omega
theorem or1_even (k : Nat) (h : k < 9223372036854775808) : bits .or .u64 ((k : Int) * 2) 1 = (k : Int) * 2 + 1 := by
  have h1 := u64_or_nat (k * 2) 1 (by omega) (by omega)
  have h2 : k * 2 ||| 1 = k * 2 + 1 := nat_join 1 (k * 2) 1 (by omega) (by omega)
  rw [h2] at h1
  have e : ((k * 2 : Nat) : Int) = (k : Int) * 2 := by omega
  rw [e] at h1
  rw [show (1 : Int) = ((1 : Nat) : Int) from rfl, h1]; omega
theorem spec_fold (n : Int) (wn : (Lit.int .i64 n).wf = true) (w : World) :
    Calls Tryd.prog 85 #[.int .i64 n] w fun e w' => e = .returned (.int .u64 (fold n : Nat)) ∧ w = w' := by
  have hb := bounds_i64 wn
  by_cases h : n < 0
  all_goals
    go_enter Tryd.func85, Tryd.ntmps85
    go_wp2
    all_goals go_ret
    all_goals (refine ⟨ret_int ?_, rfl⟩; go_light; unfold fold; split <;> omega)
theorem impl_zigzag (n : Int) (wn : (Lit.int .i64 n).wf = true) (w : World) :
    Calls Tryd.prog 69 #[.int .i64 n] w fun e w' => e = .returned (.int .u64 (fold n : Nat)) ∧ w = w' := by
  have hb := bounds_i64 wn
  by_cases h : n < 0
  · obtain ⟨k, hk⟩ : ∃ k : Nat, (k : Int) = -1 - n := ⟨(-1 - n).toNat, by omega⟩
    have hx : bits .xor .i64 (-1) n = (k : Int) := by rw [i64_not_neg n h hb.1, hk]
    have ho := or1_even k (by omega)
    have q1 : IntKind.u64.wrap (k : Int) = k := by rw [IntKind.wrap_u64]; omega
    have q2 : IntKind.u64.wrap ((k : Int) * 2) = (k : Int) * 2 := by rw [IntKind.wrap_u64]; omega
    have HK := jj hk
    have HB := jj hb
    clear hk hb
    go_enter Tryd.func69, Tryd.ntmps69
    go_wp2
    all_goals go_ret
    all_goals (refine ⟨ret_int ?_, rfl⟩; go_light; have := HK.out; have := HB.out; unfold fold; split <;> omega)
  · go_enter Tryd.func69, Tryd.ntmps69
    go_wp2
    all_goals go_ret
    all_goals (refine ⟨ret_int ?_, rfl⟩; go_light; unfold fold; split <;> omega)
def Rest (u' k : Nat) : Prop := u' * 128 ^ k < 18446744073709551616
theorem Rest.lt {u' k : Nat} (h : Rest u' k) : u' < 18446744073709551616 :=
  Nat.lt_of_le_of_lt (Nat.le_mul_of_pos_right u' (Nat.pow_pos (by omega))) h
theorem Rest.div {u' k : Nat} (h : Rest u' k) : IntKind.u64.wrap ((u' : Int) / 128) = (u' : Int) / 128 := by
  have := h.lt
  rw [IntKind.wrap_u64]; omega
def zeros : List UInt8 := [0, 0, 0, 0, 0, 0, 0, 0, 0, 0]
theorem arr10 : Tryd.prog.arrayLen 104 = 10 := by kernel_rfl
theorem size8 (W : World) : (sizeOf (Tryd.prog.elem 104)).run Tryd.prog W = .ok 1 W := by kernel_rfl
theorem slice10 (g k : Nat) (hk : k ≤ 9) (W : World) :
    (Instr.sliceAt 104 (.pointer (some ⟨g, 0, none⟩)) none (some (.int .i64 ((k : Int) + 1))) none).run Tryd.prog W = .ok (.slice (some ⟨g, 0, none⟩) (k + 1) 10) W := by
  rw [run_sliceAt_array_h W 104 _ (by kernel_rfl) .i64 ((k : Int) + 1) (by omega) (by rw [arr10]; omega), size8, arr10]
  simp [slicedAt, Addr.add]
set_option maxRecDepth 10000 in
theorem or128 (u' : Nat) : bits .or .u8 ((u' : Int) % 256) 128 = ((u' % 128 + 128 : Nat) : Int) := by
  have h1 := u8_or_nat (u' % 256) 128 (by omega) (by omega)
  have h2 : ∀ a : Fin 256, a.val ||| 128 = a.val % 128 + 128 := by decide
  have h3 := h2 ⟨u' % 256, by omega⟩
  simp only at h3
  rw [h3, show u' % 256 % 128 = u' % 128 by omega] at h1
  rw [← h1]; rfl
theorem arr_new (w : World) : Arr (w.alloc (.cells #[.int .u8 0, .int .u8 0, .int .u8 0, .int .u8 0, .int .u8 0, .int .u8 0, .int .u8 0, .int .u8 0, .int .u8 0, .int .u8 0] 104)) w.heap.size zeros := by
  constructor
  · intro j hj
    have : j < 10 := hj
    rw [World.cell?_alloc_mark]
    match j, this with
    | 0, _ | 1, _ | 2, _ | 3, _ | 4, _ | 5, _ | 6, _ | 7, _ | 8, _ | 9, _ => rfl
  · intro j
    rw [World.frozen?_alloc_mark]; simp
set_option maxRecDepth 100000 in
set_option maxHeartbeats 1000000 in
theorem impl_PutNum (n : Int) (wn : (Lit.int .i64 n).wf = true) (w : World) :
    Calls Tryd.prog 49 #[.int .i64 n] w fun e w' => e = .returned (.string ⟨(enc (fold n)).toArray⟩) ∧ Below w.heap.size w w' := by
  have hb := bounds_i64 wn
  have hu := fold_lt n hb
  have HU := jj hu
  clear hu hb
  go_enter Tryd.func49, Tryd.ntmps49
  go_wp2_with (go_at_call 69; refine (impl_zigzag n wn _).mono ?_; rintro e w' ⟨rfl, rfl⟩)
  go_loopw [4, 5] (fun u i wr => ∃ (u' k : Nat) (l : List UInt8), u = .int .u64 u' ∧ i = .int .i64 k ∧ l.length = 10 ∧ Rest u' k ∧ k ≤ 9 ∧ l.take k ++ enc u' = enc (fold n) ∧ Arr wr w.heap.size l ∧ Below w.heap.size w wr) (fun u _ _ => (intOf u).toNat)
  case atStart =>
    exact ⟨fold n, 0, zeros, rfl, rfl, rfl, by unfold Rest; simpa using HU.out, by omega, by simp, arr_new w, (Below.refl _ _).alloc (Nat.le_refl _) _⟩
  case round =>
    obtain ⟨u', k, l, rfl, rfl, hl, hlt, hk9, hen, harr, hbel⟩ := hrel
    have HL := jj hl
    have HT := jj hlt
    have HE := jj hen
    have HA := jj harr
    clear hl hlt hen harr
    have c1 := HA.out.cell k (by rw [HL.out]; omega)
    have c2 := HA.out.free k
    generalize l[k]'(by rw [HL.out]; omega) = lk at c1
    clear wn
    by_cases h8 : u' < 128
    · have hs := slice10 w.heap.size k hk9
      have hv := bv_of u' (by omega)
      have ha := HA.out.set k (by rw [HL.out]; omega) (UInt8.ofNat u')
      rw [← hv] at ha
      have hc := ha.string (k + 1) 10 (by rw [List.length_set, HL.out]; omega)
      rw [take_set _ _ (by rw [HL.out]; omega), last_bytes _ _ _ HE.out h8] at hc
      clear hv ha
      go_wp2
      go_ret
      exact ⟨rfl, hbel.setCell (Nat.le_refl _) _⟩
    · have ho := or128 u'
      have h9 := left_lt u' k HT.out (by omega)
      go_wp2
      go_roundw
      case rel =>
        refine ⟨u' / 128, k + 1, l.set k (UInt8.ofNat (u' % 128 + 128)), rfl, by go_num, ?_, left_next _ _ HT.out, by omega, ?_, ?_, hbel.setCell (Nat.le_refl _) _⟩
        · rw [List.length_set]; exact HL.out
        · rw [take_set _ _ (by rw [HL.out]; omega)]; exact step_bytes _ _ _ HE.out h8
        · show Arr (wr.setCell _ (.int .u8 ((u' % 128 + 128 : Nat) : Int))) _ _
          rw [bv_of _ (by omega)]; exact HA.out.set k (by rw [HL.out]; omega) _
      case measure => go_light; simp [intOf]; omega
set_option maxRecDepth 100000 in
set_option maxHeartbeats 1000000 in
theorem spec_PutNum (n : Int) (wn : (Lit.int .i64 n).wf = true) (w : World) :
    Calls Tryd.prog 79 #[.int .i64 n] w fun e w' => e = .returned (.string ⟨(enc (fold n)).toArray⟩) ∧ Below w.heap.size w w' := by
  have hb := bounds_i64 wn
  have hu := fold_lt n hb
  have HU := jj hu
  clear hu hb
  obtain ⟨i0, hi, hz0, hz1, hz2⟩ := info_parts info8
  go_enter Tryd.func79, Tryd.ntmps79
  go_wp2_with (go_at_call 85; refine (spec_fold n wn _).mono ?_; rintro e w' ⟨rfl, rfl⟩)
  go_loopw [3, 4] (fun u v wr => ∃ (u' : Nat) (acc : List UInt8), u = .int .u64 u' ∧ Rest u' acc.length ∧ acc ++ enc u' = enc (fold n) ∧ wr.ownsRow w.heap.size 5 1 v acc.length (acc.map bv) ∧ Below w.heap.size w wr) (fun u _ _ => (intOf u).toNat)
  case atStart =>
    exact ⟨fold n, [], rfl, by unfold Rest; simpa using HU.out, rfl, World.ownsRow_made w #[] 0 (Nat.le_refl _) (by unfold maxLen; omega) rfl, (Below.refl _ _).alloc (Nat.le_refl _) _⟩
  case round =>
    obtain ⟨u', acc, rfl, hlt, hen, hown, hbel⟩ := hrel
    have HT := jj hlt
    have HE := jj hen
    have HO := jj hown
    clear hlt hen hown
    have ha10 : acc.length < 10 := by
      have h1 := congrArg List.length HE.out
      rw [List.length_append] at h1
      have h2 := enc_len10 _ HU.out
      have h3 := enc_pos u'
      omega
    have hz := hbel.size
    by_cases h8 : u' < 128
    · go_wp2_with (at_builtin; refine wpList_append_own _ rfl _ _ 22 rfl w.heap.size 5 i0 (.int .u8 0) 1 1 Tryd.underlying22 hi hz0 hz1 hz2 rfl (by decide) _ _ _ rfl (HO.out.alloc _) ⟨wr.heap.size, 0, none⟩ 1 1 [.int .u8 (u' : Int)] rfl rfl ?c1 ?c2 ?c3 ?c4 ?c5 ?_)
      case c1 => exact cell_one_new _ _ _
      case c2 => intro u hu; simp at hu; subst hu; rfl
      case c3 => unfold maxLen; omega
      case c4 => omega
      case c5 => simp; omega
      intro v' w1 hown1 hgrow1 _
      have hv := bv_of u' (by omega)
      rw [hv, show acc.map bv ++ [bv (UInt8.ofNat u')] = (acc ++ [UInt8.ofNat u']).map bv by simp] at hown1
      have hc := own_string hown1
      rw [last_bytes _ _ _ HE.out h8] at hc
      have hb1 : Below w.heap.size w w1 := (hbel.alloc hz _).grown hgrow1 (by simp; omega) (fun k hk => (HO.out.lt k hk).1)
      clear hv hown1 hgrow1
      go_wp2
      go_ret
      exact ⟨rfl, hb1⟩
    · have hdv := HT.out.div
      go_wp2_with (at_builtin; refine wpList_append_own _ rfl _ _ 22 rfl w.heap.size 5 i0 (.int .u8 0) 1 1 Tryd.underlying22 hi hz0 hz1 hz2 rfl (by decide) _ _ _ rfl (HO.out.alloc _) ⟨wr.heap.size, 0, none⟩ 1 1 [.int .u8 ((u' % 128 + 128 : Nat) : Int)] rfl rfl ?d1 ?d2 ?d3 ?d4 ?d5 ?_)
      case d1 => exact cell_one_new _ _ _
      case d2 => intro u hu; simp at hu; subst hu; rfl
      case d3 => unfold maxLen; omega
      case d4 => omega
      case d5 => simp; omega
      intro v' w1 hown1 hgrow1 _
      rw [show Value.int .u8 ((u' : Int) % 128 + 128) = bv (UInt8.ofNat (u' % 128 + 128)) from bv_of (u' % 128 + 128) (by omega), show acc.map bv ++ [bv (UInt8.ofNat (u' % 128 + 128))] = (acc ++ [UInt8.ofNat (u' % 128 + 128)]).map bv by simp] at hown1
      have hb1 : Below w.heap.size w w1 := (hbel.alloc hz _).grown hgrow1 (by simp; omega) (fun k hk => (HO.out.lt k hk).1)
      have HO1 := jj hown1
      clear hown1 hgrow1
      go_wp2
      go_roundw
      case rel =>
        refine ⟨u' / 128, acc ++ [UInt8.ofNat (u' % 128 + 128)], rfl, ?_, step_bytes _ _ _ HE.out h8, ?_, hb1⟩
        · rw [List.length_append]; exact left_next _ _ HT.out
        · rw [List.length_append]; exact HO1.out
      case measure => go_light; simp [intOf]; omega
open Go.RowKit
def putText (t : ByteArray) : ByteArray := if 8000 < t.size then ⟨#[]⟩ else numS t.size ++ t
theorem putText_long (t : ByteArray) (h : 8000 < t.size) : putText t = ⟨#[]⟩ := if_pos h
theorem putText_short (t : ByteArray) (h : ¬ 8000 < t.size) : putText t = numS t.size ++ t := if_neg h
theorem ret_str {a b : ByteArray} (h : a = b) : Ending.returned (.string a) = .returned (.string b) := by rw [h]
theorem wf_len (t : ByteArray) (h : t.size ≤ 9223372036854775807) : (Lit.int .i64 (t.size : Int)).wf = true := WalkArith.wf_i64 (by omega)
set_option maxRecDepth 100000 in
set_option maxHeartbeats 1000000 in
theorem spec_PutText (t : ByteArray) (hs : t.size ≤ maxLen) (w : World) :
    Calls Tryd.prog 61 #[.string t] w fun e w' => e = .returned (.string (putText t)) ∧ Below w.heap.size w w' := by
  unfold maxLen at hs
  by_cases h1 : 8000 < t.size
  · go_enter Tryd.func61, Tryd.ntmps61
    go_wp2
    go_ret
    exact ⟨ret_str (putText_long t h1).symm, Below.refl _ _⟩
  · have d1 : decide (8000 < (t.size : Int)) = false := by simp; omega
    go_enter Tryd.func61, Tryd.ntmps61
    go_wp2_with fail
    refine (spec_PutNum t.size (wf_len t (by omega)) _).mono ?_
    rintro e w1 ⟨rfl, hb1⟩
    have e0 : ByteArray.mk (enc (fold t.size)).toArray = numS t.size := rfl
    rw [e0]
    clear e0
    have hsm := numS_size t.size (by omega)
    go_wp2
    go_ret
    exact ⟨ret_str (putText_short t h1).symm, hb1⟩
set_option maxRecDepth 100000 in
set_option maxHeartbeats 1000000 in
theorem impl_PutText (t : ByteArray) (hs : t.size ≤ maxLen) (w : World) :
    Calls Tryd.prog 25 #[.string t] w fun e w' => e = .returned (.string (putText t)) ∧ Below w.heap.size w w' := by
  unfold maxLen at hs
  by_cases h1 : 8000 < t.size
  · go_enter Tryd.func25, Tryd.ntmps25
    go_wp2
    go_ret
    exact ⟨ret_str (putText_long t h1).symm, Below.refl _ _⟩
  · have d1 : decide (8000 < (t.size : Int)) = false := by simp; omega
    go_enter Tryd.func25, Tryd.ntmps25
    go_wp2_with fail
    refine (impl_PutNum t.size (wf_len t (by omega)) _).mono ?_
    rintro e w1 ⟨rfl, hb1⟩
    have e0 : ByteArray.mk (enc (fold t.size)).toArray = numS t.size := rfl
    rw [e0]
    clear e0
    have hsm := numS_size t.size (by omega)
    go_wp2_with fail
    refine (joined_two (numS t.size) t w1 (by omega)).mono ?_
    rintro e w2 ⟨rfl, hb2⟩
    go_wp2
    go_ret
    exact ⟨ret_str (putText_short t h1).symm, hb1.trans (hb2.mono hb1.size)⟩
end Go.Proofs.YtiaoifodaoifjaaDoor.Nu
namespace Go.Proofs.YtiaoifodaoifjaaDoor.Cr
def cstep (r : Nat) : Nat := if r % 2 = 1 then (r / 2) ^^^ 3988292384 else r / 2
def citer : Nat → Nat → Nat
  | 0, r => r
  | k + 1, r => cstep (citer k r)
def cbyte (r c : Nat) : Nat := citer 8 (r ^^^ c)
def creg (l : List UInt8) (r : Nat) : Nat := l.foldl (fun r c => cbyte r c.toNat) r
theorem cstep_lt (r : Nat) (h : r < 4294967296) : cstep r < 4294967296 := by
  unfold cstep
  split
  · exact Nat.xor_lt_two_pow (n := 32) (by omega) (by omega)
  · omega
theorem citer_lt (k r : Nat) (h : r < 4294967296) : citer k r < 4294967296 := by
  induction k with
  | zero => exact h
  | succ k ih => exact cstep_lt _ ih
theorem xor_lt (a b : Nat) (ha : a < 4294967296) (hb : b < 4294967296) : a ^^^ b < 4294967296 := Nat.xor_lt_two_pow (n := 32) ha hb
theorem cbyte_lt (r c : Nat) (h : r < 4294967296) (hc : c < 4294967296) : cbyte r c < 4294967296 := citer_lt _ _ (xor_lt _ _ h hc)
theorem creg_snoc (l : List UInt8) (c : UInt8) (r : Nat) : creg (l ++ [c]) r = cbyte (creg l r) c.toNat := by
  unfold creg; rw [List.foldl_append]; rfl
theorem creg_lt (l : List UInt8) (r : Nat) (h : r < 4294967296) : creg l r < 4294967296 := by
  induction l generalizing r with
  | nil => exact h
  | cons c l ih => exact ih _ (cbyte_lt _ _ h (by have := c.toNat_lt; omega))
theorem creg_append (l m : List UInt8) (r : Nat) : creg (l ++ m) r = creg m (creg l r) := by
  unfold creg; rw [List.foldl_append]
theorem xor_div2 (a b : Nat) : (a ^^^ b) / 2 = (a / 2) ^^^ (b / 2) := by
  apply Nat.eq_of_testBit_eq
  intro i
  rw [Nat.testBit_div_two, Nat.testBit_xor, Nat.testBit_xor, Nat.testBit_div_two, Nat.testBit_div_two]
def pstep (g b : Nat) : Nat := if (g ^^^ b) % 2 = 1 then (g / 2) ^^^ 3988292384 else g / 2
def piter (c : Nat) : Nat → Nat → Nat
  | 0, g => g
  | k + 1, g => pstep (piter c k g) (c / 2 ^ k)
theorem pstep_lt (g b : Nat) (h : g < 4294967296) : pstep g b < 4294967296 := by
  unfold pstep
  split
  · exact Nat.xor_lt_two_pow (n := 32) (by omega) (by omega)
  · omega
theorem piter_lt (c k g : Nat) (h : g < 4294967296) : piter c k g < 4294967296 := by
  induction k with
  | zero => exact h
  | succ k ih => exact pstep_lt _ _ ih
theorem piter_eq (c k g : Nat) : citer k (g ^^^ c) = piter c k g ^^^ (c / 2 ^ k) := by
  induction k with
  | zero => simp [citer, piter]
  | succ k ih =>
    have e : c / 2 ^ (k + 1) = c / 2 ^ k / 2 := by rw [Nat.pow_succ, Nat.div_div_eq_div_mul]
    show cstep (citer k (g ^^^ c)) = pstep (piter c k g) (c / 2 ^ k) ^^^ (c / 2 ^ (k + 1))
    rw [ih, e]
    unfold cstep pstep
    rw [xor_div2]
    split
    · rw [Nat.xor_assoc, Nat.xor_assoc, Nat.xor_comm (c / 2 ^ k / 2)]
    · rfl
theorem piter_byte (c g : Nat) (hc : c < 256) : piter c 8 g = cbyte g c := by
  have h := piter_eq c 8 g
  have z : c / 2 ^ 8 = 0 := by omega
  rw [z, Nat.xor_zero] at h
  exact h.symm
open Go.RowKit
theorem take_snoc (s : ByteArray) (k : Nat) (h : k < s.size) : s.data.toList.take (k + 1) = s.data.toList.take k ++ [s[k]] := by
  rw [List.take_succ_eq_append_getElem (by simpa using h)]; rfl
theorem and1 (R : Nat) (h : R < 4294967296) : bits .and .u32 (R : Int) 1 = ((R % 2 : Nat) : Int) := by
  have := u32_and_nat R 1 h (by omega)
  rw [nat_mask1] at this; exact this
theorem half_poly (R : Nat) (h : R < 4294967296) : bits .xor .u32 ((R : Int) / 2) 3988292384 = (((R / 2) ^^^ 3988292384 : Nat) : Int) := by
  have := u32_xor_nat (R / 2) 3988292384 (by omega) (by omega)
  rw [← this]; rfl
theorem not_u32 (n : Nat) (h : n < 4294967296) : bits .xor .u32 IntKind.u32.max (n : Int) = ((n ^^^ 4294967295 : Nat) : Int) := by
  have := u32_xor_nat 4294967295 n (by omega) h
  rw [Nat.xor_comm] at this; exact this
theorem xor_shift (R c j : Nat) (h : R < 4294967296) (hc : c < 4294967296) : bits .xor .u32 (R : Int) ((c : Int) / 2 ^ j) = ((R ^^^ (c / 2 ^ j) : Nat) : Int) := by
  have := u32_xor_nat R (c / 2 ^ j) h (Nat.lt_of_le_of_lt (Nat.div_le_self _ _) hc)
  rw [← this, Int.natCast_ediv, Int.natCast_pow]; rfl
theorem cstep_odd {R j X : Nat} (h : R = citer j X) (ho : R % 2 = 1) : (R / 2) ^^^ 3988292384 = citer (j + 1) X := by
  show _ = cstep (citer j X); rw [← h]; unfold cstep; rw [if_pos ho]
theorem cstep_even {R j X : Nat} (h : R = citer j X) (ho : ¬ R % 2 = 1) : R / 2 = citer (j + 1) X := by
  show _ = cstep (citer j X); rw [← h]; unfold cstep; rw [if_neg ho]
theorem pstep_odd {R j g c : Nat} (h : R = piter c j g) (ho : (R ^^^ (c / 2 ^ j)) % 2 = 1) : (R / 2) ^^^ 3988292384 = piter c (j + 1) g := by
  show _ = pstep (piter c j g) (c / 2 ^ j); rw [← h]; unfold pstep; rw [if_pos ho]
theorem pstep_even {R j g c : Nat} (h : R = piter c j g) (ho : ¬ (R ^^^ (c / 2 ^ j)) % 2 = 1) : R / 2 = piter c (j + 1) g := by
  show _ = pstep (piter c j g) (c / 2 ^ j); rw [← h]; unfold pstep; rw [if_neg ho]
def crcMore (c : Int) (s : ByteArray) : Int :=
  if 8000 < s.size ∨ c < 0 ∨ 4294967295 < c then 0 else ((creg s.data.toList (c.toNat ^^^ 4294967295) ^^^ 4294967295 : Nat) : Int)
theorem ret_int {k : IntKind} {a b : Int} (h : a = b) : Ending.returned (.int k a) = .returned (.int k b) := by rw [h]
set_option maxHeartbeats 1000000 in
theorem spec_l01Crc (c : Nat) (hc : c < 4294967296) (s : ByteArray) (hs : s.size ≤ maxLen) (w : World) :
    Calls Tryd.prog 52 #[.int .i64 c, .string s] w fun e w' => e = .returned (.int .i64 ((creg s.data.toList (c ^^^ 4294967295) ^^^ 4294967295 : Nat) : Int)) ∧ w = w' := by
  unfold maxLen at hs
  have hx0 : bits .xor .u32 (c : Int) 4294967295 = ((c ^^^ 4294967295 : Nat) : Int) := u32_xor_nat c 4294967295 hc (by omega)
  have hX := xor_lt c 4294967295 hc (by omega)
  go_enter Tryd.func52, Tryd.ntmps52
  go_wp2
  clear hx0
  go_loop [5, 6] (fun r i => ∃ k R : Nat, k ≤ s.size ∧ i = .int .i64 k ∧ r = .int .u32 R ∧ R = creg (s.data.toList.take k) (c ^^^ 4294967295)) (fun _ i => s.size - (intOf i).toNat)
  case atStart => exact ⟨0, _, Nat.zero_le _, rfl, rfl, rfl⟩
  case round =>
    obtain ⟨k, R, hk, rfl, rfl, hR⟩ := hrel
    have hRl : R < 4294967296 := by rw [hR]; exact creg_lt _ _ hX
    have HR := jj hR
    clear hR
    by_cases hlt : k < s.size
    · have hsl := s[k].toNat_lt
      have hx1 : bits .xor .u32 (R : Int) (s[k].toNat : Int) = ((R ^^^ s[k].toNat : Nat) : Int) := u32_xor_nat R _ hRl (by omega)
      have hX1 := xor_lt R s[k].toNat hRl (by omega)
      go_wp2
      clear hx1
      go_loop [5, 7] (fun r i => ∃ j R' : Nat, j ≤ 8 ∧ i = .int .i64 j ∧ r = .int .u32 R' ∧ R' = citer j (R ^^^ s[k].toNat)) (fun _ i => 8 - (intOf i).toNat)
      case atStart => exact ⟨0, _, Nat.zero_le _, rfl, rfl, rfl⟩
      case round =>
        obtain ⟨j, R', hj, rfl, rfl, hR'⟩ := hrel
        have hRl' : R' < 4294967296 := by rw [hR']; exact citer_lt _ _ hX1
        have HR' := jj hR'
        clear hR'
        by_cases hj8 : j < 8
        · by_cases ho : R' % 2 = 1
          · have ha : bits .and .u32 (R' : Int) 1 = 1 := by rw [and1 R' hRl', ho]; rfl
            have hp := half_poly R' hRl'
            have HO := jj ho
            clear ho
            go_wp2
            go_round
            case rel => exact ⟨j + 1, _, by omega, by go_num, rfl, cstep_odd HR'.out HO.out⟩
            case measure => go_light; simp [intOf]; omega
          · have ha : bits .and .u32 (R' : Int) 1 = 0 := by rw [and1 R' hRl', show R' % 2 = 0 by omega]; rfl
            have HO := jj ho
            clear ho
            go_wp2
            go_round
            case rel => exact ⟨j + 1, R' / 2, by omega, by go_num, rfl, cstep_even HR'.out HO.out⟩
            case measure => go_light; simp [intOf]; omega
        · have hj' : j = 8 := by omega
          subst hj'
          go_wp2
          go_round
          case rel => exact ⟨k + 1, R', by omega, by go_num, rfl, by rw [take_snoc s k hlt, creg_snoc, ← HR.out]; exact HR'.out⟩
          case measure => go_light; simp [intOf]; omega
    · have hx2 : bits .xor .u32 (R : Int) 4294967295 = ((R ^^^ 4294967295 : Nat) : Int) := u32_xor_nat R 4294967295 hRl (by omega)
      have hRx := xor_lt R 4294967295 hRl (by omega)
      go_wp2
      go_ret
      refine ⟨ret_int ?_, rfl⟩
      have e := HR.out
      rw [List.take_of_length_le (by simp; omega)] at e
      rw [← e]
set_option maxHeartbeats 1000000 in
theorem impl_crcShift (r : Nat) (hr : r < 4294967296) (s : ByteArray) (hs : s.size ≤ maxLen) (w : World) :
    Calls Tryd.prog 86 #[.int .u32 r, .string s] w fun e w' => e = .returned (.int .u32 (creg s.data.toList r : Nat)) ∧ w = w' := by
  unfold maxLen at hs
  go_enter Tryd.func86, Tryd.ntmps86
  go_wp2
  go_loop [0, 5] (fun r' i => ∃ k R : Nat, k ≤ s.size ∧ i = .int .i64 k ∧ r' = .int .u32 R ∧ R = creg (s.data.toList.take k) r) (fun _ i => s.size - (intOf i).toNat)
  case atStart => exact ⟨0, _, Nat.zero_le _, rfl, rfl, rfl⟩
  case round =>
    obtain ⟨k, R, hk, rfl, rfl, hR⟩ := hrel
    have hRl : R < 4294967296 := by rw [hR]; exact creg_lt _ _ hr
    have HR := jj hR
    clear hR
    by_cases hlt : k < s.size
    · have hsl := s[k].toNat_lt
      go_wp2
      go_loop [0, 7] (fun r' i => ∃ j R' : Nat, j ≤ 8 ∧ i = .int .i64 j ∧ r' = .int .u32 R' ∧ R' = piter s[k].toNat j R) (fun _ i => 8 - (intOf i).toNat)
      case atStart => exact ⟨0, _, Nat.zero_le _, rfl, rfl, rfl⟩
      case round =>
        obtain ⟨j, R', hj, rfl, rfl, hR'⟩ := hrel
        have hRl' : R' < 4294967296 := by rw [hR']; exact piter_lt _ _ _ hRl
        have HR' := jj hR'
        clear hR'
        by_cases hj8 : j < 8
        · have hq := xor_shift R' s[k].toNat j hRl' (by omega)
          have hql := xor_lt R' (s[k].toNat / 2 ^ j) hRl' (Nat.lt_of_le_of_lt (Nat.div_le_self _ _) (by omega))
          by_cases ho : (R' ^^^ (s[k].toNat / 2 ^ j)) % 2 = 1
          · have ha : bits .and .u32 ((R' ^^^ (s[k].toNat / 2 ^ j) : Nat) : Int) 1 = 1 := by rw [and1 _ hql, ho]; rfl
            have hp := half_poly R' hRl'
            have HO := jj ho
            clear ho
            go_wp2
            go_round
            case rel => exact ⟨j + 1, _, by omega, by go_num, rfl, pstep_odd HR'.out HO.out⟩
            case measure => go_light; simp [intOf]; omega
          · have ha : bits .and .u32 ((R' ^^^ (s[k].toNat / 2 ^ j) : Nat) : Int) 1 = 0 := by rw [and1 _ hql, show (R' ^^^ (s[k].toNat / 2 ^ j)) % 2 = 0 by omega]; rfl
            have HO := jj ho
            clear ho
            go_wp2
            go_round
            case rel => exact ⟨j + 1, R' / 2, by omega, by go_num, rfl, pstep_even HR'.out HO.out⟩
            case measure => go_light; simp [intOf]; omega
        · have hj' : j = 8 := by omega
          subst hj'
          go_wp2
          go_round
          case rel => exact ⟨k + 1, R', by omega, by go_num, rfl, by rw [take_snoc s k hlt, creg_snoc, ← HR.out, ← piter_byte _ _ (by omega)]; exact HR'.out⟩
          case measure => go_light; simp [intOf]; omega
    · go_wp2
      go_ret
      refine ⟨ret_int ?_, rfl⟩
      have e := HR.out
      rw [List.take_of_length_le (by simp; omega)] at e
      rw [← e]
theorem crcMore_zero (c : Int) (s : ByteArray) (h : 8000 < s.size ∨ c < 0 ∨ 4294967295 < c) : crcMore c s = 0 := if_pos h
theorem crcMore_nat (c : Nat) (s : ByteArray) (h1 : ¬ 8000 < s.size) (h2 : c < 4294967296) : crcMore c s = ((creg s.data.toList (c ^^^ 4294967295) ^^^ 4294967295 : Nat) : Int) := by
  unfold crcMore; rw [if_neg (by omega)]; rfl
set_option maxHeartbeats 1000000 in
theorem impl_CrcMore (c : Int) (wc : (Lit.int .i64 c).wf = true) (s : ByteArray) (hs : s.size ≤ maxLen) (w : World) :
    Calls Tryd.prog 82 #[.int .i64 c, .string s] w fun e w' => e = .returned (.int .i64 (crcMore c s)) ∧ w = w' := by
  have hs' := hs
  unfold maxLen at hs
  have hw := bounds_i64 wc
  by_cases h1 : 8000 < s.size
  · go_enter Tryd.func82, Tryd.ntmps82
    go_wp2
    go_ret
    exact ⟨ret_int (crcMore_zero c s (.inl h1)).symm, rfl⟩
  have d1 : decide (8000 < (s.size : Int)) = false := by simp; omega
  by_cases h2 : c < 0
  · go_enter Tryd.func82, Tryd.ntmps82
    go_wp2
    go_ret
    exact ⟨ret_int (crcMore_zero c s (.inr (.inl h2))).symm, rfl⟩
  have d2 : decide (c < 0) = false := by simp; omega
  by_cases h3 : 4294967295 < c
  · go_enter Tryd.func82, Tryd.ntmps82
    go_wp2
    go_ret
    exact ⟨ret_int (crcMore_zero c s (.inr (.inr h3))).symm, rfl⟩
  obtain ⟨n, rfl⟩ : ∃ n : Nat, c = n := ⟨c.toNat, by omega⟩
  have hn : n < 4294967296 := by omega
  have d3 : decide (4294967295 < (n : Int)) = false := by simp; omega
  have q1 := not_u32 n hn
  have hm := xor_lt n 4294967295 hn (by omega)
  have hE := crcMore_nat n s h1 hn
  have hR := creg_lt s.data.toList _ hm
  have hK := impl_crcShift (n ^^^ 4294967295) hm s hs' w
  generalize creg s.data.toList (n ^^^ 4294967295) = R at hE hR hK
  have HE := jj hE
  have HK := jj hK
  clear hE hK
  have q2 := not_u32 R hR
  have hR2 := xor_lt R 4294967295 hR (by omega)
  replace hE := HE.out
  replace hK := HK.out
  clear HE HK
  generalize R ^^^ 4294967295 = Y at hE q2 hR2
  generalize n ^^^ 4294967295 = X at hK q1 hm
  have HE := jj hE
  have HK := jj hK
  clear hE hK
  go_enter Tryd.func82, Tryd.ntmps82
  go_wp2_with fail
  refine HK.out.mono ?_
  rintro e w' ⟨rfl, rfl⟩
  go_wp2_with fail
  go_ret
  exact ⟨ret_int HE.out.symm, rfl⟩
def crc (s : ByteArray) : Int := crcMore 0 s
set_option maxHeartbeats 1000000 in
theorem impl_Crc (s : ByteArray) (hs : s.size ≤ maxLen) (w : World) :
    Calls Tryd.prog 68 #[.string s] w fun e w' => e = .returned (.int .i64 (crc s)) ∧ w = w' := by
  go_enter Tryd.func68, Tryd.ntmps68
  go_wp2_with (go_at_call 82; refine (impl_CrcMore 0 (by decide) s hs _).mono ?_; rintro e w' ⟨rfl, rfl⟩)
  go_ret
  exact ⟨rfl, rfl⟩
end Go.Proofs.YtiaoifodaoifjaaDoor.Cr
