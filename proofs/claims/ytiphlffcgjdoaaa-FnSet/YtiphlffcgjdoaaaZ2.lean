/- Parts of a law: DrawG, DrawB, DrawKey, MarkText, Row, Mark, Sib, MarkLaw, SibLaw, Frame2, MarkOpen, SetLaw0, SetMark, SetOutLaw, SibMath, PosMath. Conditions: on sizes, as each says. -/
import Derived.Test.YtiphlffcgjdoaaaZ1
import Derived.Deep.RegionHeld3
import Derived.StillTailTactics
import Derived.Deep.SlicePairs
import Derived.Lib.SmallJoins
import Derived.ChangeArms
import Derived.Deep.Strs
set_option linter.unusedSimpArgs false
set_option linter.unusedVariables false
namespace Go.Proofs.Ytiphlffcgjdoaaa.Mk
open Go.RowKit Dr

theorem wpAnyH_mono {P : Program} {md : Region.Mode} {ops : Array Oper} {Q : Exit → Act → World → Prop} {S S' : World → Prop} (h : ∀ w, S' w → S w) :
    ∀ (fuel : Nat) (listed : Array Bool) (a : Act) (w : World), wpAnyH P md ops Q S' fuel listed a w → wpAnyH P md ops Q S fuel listed a w
  | 0, _, _, _, hh => hh
  | fuel + 1, _, _, _, hh => ⟨hh.1, fun i hi => wpOp_mono (fun a' w' h' => ⟨h _ h'.1, wpAnyH_mono h fuel _ a' w' h'.2⟩) (hh.2 i hi)⟩
theorem within_grown {w w' : World} {g : Nat} (h : w.grownBy w' (some g)) : Within g (g + 1) w w' :=
  ⟨h.os, h.tape, h.output, h.size, fun k hk ho => h.block k hk (fun e => by injection e with e; omega)⟩
theorem Within.onto {lo hi : Nat} {w0 w w' : World} (h : Within lo hi w0 w) (hb : Below w.heap.size w w') : Within lo hi w0 w' :=
  h.trans ⟨hb.os, hb.tape, hb.output, hb.size, fun k hk _ => hb.block k hk⟩
/-- a block that was not there at first has turned -/
theorem Within.new {lo hi lo' hi' : Nat} {w0 w w' : World} (h : Within lo hi w0 w) (hw : Within lo' hi' w w') (hl : w0.heap.size ≤ lo') : Within lo hi w0 w' :=
  ⟨hw.os.trans h.os, hw.tape.trans h.tape, hw.output.trans h.output, Nat.le_trans h.size hw.size, fun k hk ho => (hw.block k (Nat.lt_of_lt_of_le hk h.size) (by omega)).trans (h.block k hk ho)⟩
theorem hasSrc_same {w w' : World} {B g : Nat} (h : HasSrc w B g) (hs : ∀ k, k < w.heap.size → k < B ∨ k = g → w'.heap[k]? = w.heap[k]?) : HasSrc w' B g := by
  obtain ⟨a, len, cap, at_, mix, sz, S⟩ := h
  have hg : g < w.heap.size := by simpa using World.block_lt_of_cell? w _ S.c0
  have e := hs g hg (.inr rfl)
  refine ⟨a, len, cap, at_, mix, sz, ⟨(World.cell?_of_block (a := ⟨g, 0, none⟩) e).trans S.c0, (World.cell?_of_block (a := ⟨g, 1, none⟩) e).trans S.c1, (World.cell?_of_block (a := ⟨g, 2, none⟩) e).trans S.c2, (World.cell?_of_block (a := ⟨g, 3, none⟩) e).trans S.c3,
    fun j => (World.frozen?_of_block (a := ⟨g, j, none⟩) e).trans (S.free j), S.hat, S.hlen, S.hmix, S.hB, ?_⟩⟩
  rcases S.row with h0 | ⟨b, off, ha, hb, hc⟩
  · exact .inl h0
  · exact .inr ⟨b, off, ha, hb, fun i hi => by
      obtain ⟨z, hz, hcell⟩ := hc i hi
      have hbl := World.block_lt_of_cell? w _ hcell
      exact ⟨z, hz, (World.cell?_of_block (a := ⟨b, off + i, none⟩) (hs b hbl (.inl hb))).trans hcell⟩⟩
theorem hasSrc_below {w w' : World} {B g : Nat} (h : HasSrc w B g) (hb : Below w.heap.size w w') : HasSrc w' B g := hasSrc_same h fun k hk _ => hb.block k hk
theorem hasSrc_within {w w' : World} {B g lo hi : Nat} (h : HasSrc w B g) (hw : Within lo hi w w') (h1 : g < lo ∨ hi ≤ g) (h2 : B ≤ lo) : HasSrc w' B g := hasSrc_same h fun k hk ho => hw.block k hk (by omega)
end Go.Proofs.Ytiphlffcgjdoaaa.Mk
namespace Go.Proofs.Ytiphlffcgjdoaaa.Dr
theorem HasSrc.below {w w' : World} {B g : Nat} (h : HasSrc w B g) (hb : RowKit.Below w.heap.size w w') : HasSrc w' B g := Mk.hasSrc_below h hb
theorem HasSrc.within {w w' : World} {B g lo hi : Nat} (h : HasSrc w B g) (hw : Mk.Within lo hi w w') (h1 : g < lo ∨ hi ≤ g) (h2 : B ≤ lo) : HasSrc w' B g := Mk.hasSrc_within h hw h1 h2
end Go.Proofs.Ytiphlffcgjdoaaa.Dr
namespace Go.Proofs.Ytiphlffcgjdoaaa.Mk
open Go.RowKit Dr
theorem bw {w0 w w' : World} {lo hi : Nat} (h : Below w0.heap.size w0 w) (hw : Within lo hi w w') (hl : w0.heap.size ≤ lo) : Below w0.heap.size w0 w' := h.trans (hw.below hl h.size)
theorem own_src {w w' : World} {lo g : Nat} {a : Option Addr} {l : List (Int × Int)} (h : OwnIn w lo w.heap.size a l) (hw : Within g (g + 1) w w') (hg : g < lo) : OwnIn w' lo w'.heap.size a l :=
  (h.same (hw.same (Nat.le_refl _) (Or.inr (by omega)))).wide (Nat.le_refl _) hw.size
/-- a code that came in -/
def Code (w : World) (a : Option Addr) (len : Nat) : Prop := len ≤ 1048576 ∧ Bytes8 w w.heap.size a len
end Go.Proofs.Ytiphlffcgjdoaaa.Mk

namespace Go.Proofs.Ytiphlffcgjdoaaa.Dr
open Go.RowKit Nu

/-- what drawn bytes leave: a string of that many bytes -/
def DrawnStr (w : World) (B g k : Nat) (e : Ending) (w' : World) : Prop :=
  ∃ t : ByteArray, t.size = k ∧ e = .returned (.string t) ∧ HasSrc w' B g ∧ Below B w w' ∧ w.heap.size ≤ w'.heap.size

set_option maxRecDepth 100000 in
set_option maxHeartbeats 2000000 in
theorem bytes_draw (w : World) (B g k : Nat) (hk : k ≤ 1000) (h : HasSrc w B g) :
    Calls Try.prog 36 #[.pointer (some ⟨g, 0, none⟩), .int .i64 (k : Int)] w (DrawnStr w B g k) := by
  have hBg := h.lt
  have H := Lib.hid h
  clear h
  obtain ⟨i0, hi, hz0, hz1, hz2⟩ := info_parts info8
  go_enter Try.func36, Try.ntmps36
  go_wp2
  go_loopw [5, 6] (fun v i wr => ∃ acc : List UInt8, acc.length ≤ k ∧ i = .int .i64 (acc.length : Int) ∧ wr.ownsRow w.heap.size 5 1 v acc.length (acc.map bv) ∧ HasSrc wr B g ∧ Below B w wr ∧ w.heap.size ≤ wr.heap.size) (fun _ i _ => k - (intOf i).toNat)
  case atStart =>
    refine ⟨[], by simp, rfl, World.ownsRow_made w #[] 0 (Nat.le_refl _) (by unfold maxLen; omega) rfl, ?_, (Below.refl _ _).alloc (by omega) _, by simp⟩
    exact H.out.grown (World.grownBy_alloc w _ none) (by simp) (by simp) (by omega)
  case round =>
    obtain ⟨acc, hl, rfl, hown, hsrc, hbel, hsz⟩ := hrel
    have HO := Lib.hid hown
    have HS := Lib.hid hsrc
    have HB := Lib.hid hbel
    clear hown hsrc hbel
    by_cases hlt : acc.length < k
    · have HN := Lib.hid (n_draw wr B g 256 (by omega) (by omega) HS.out)
      go_wp2_with fail
      refine HN.out.mono ?_
      rintro e w1 ⟨r, hr, rfl, hs1, hg1⟩
      have hne : u5.ownBlock ≠ some g := fun e => by have := (HO.out.lt g e).1; omega
      have HO1 := Lib.hid (HO.out.kept hg1 (.inr hne))
      have HS1 := Lib.hid hs1
      have hw1 : wr.heap.size ≤ w1.heap.size := hg1.size
      have HB1 := Lib.hid (HB.out.grown hg1 (by have := HB.out.size; omega) (fun k hk => by injection hk with hk; subst hk; exact hBg.1))
      clear hs1 hg1 HO HS HB HN
      go_wp2_with (at_builtin; refine wpList_append_own _ rfl _ _ 22 rfl w.heap.size 5 i0 (.int .u8 0) 1 1 Try.underlying22 hi hz0 hz1 hz2 rfl (by decide) _ _ _ rfl (HO1.out.alloc _) ⟨w1.heap.size, 0, none⟩ 1 1 [.int .u8 (r : Int)] rfl rfl ?c1 ?c2 ?c3 ?c4 ?c5 ?_)
      case c1 => exact cell_one_new _ _ _
      case c2 => intro u hu; simp at hu; subst hu; rfl
      case c3 => unfold maxLen; omega
      case c4 => omega
      case c5 => simp; omega
      intro v' w2 hown2 hgrow2 _
      have hv := bv_of r hr
      rw [hv, show acc.map bv ++ [bv (UInt8.ofNat r)] = (acc ++ [UInt8.ofNat r]).map bv by simp] at hown2
      have HO2 := Lib.hid hown2
      have hw2 : w1.heap.size + 1 ≤ w2.heap.size := by have := hgrow2.size; simpa using this
      have HA1 := Lib.hid (HS1.out.grown (World.grownBy_alloc w1 (.cells #[.int .u8 (r : Int)] 5) none) (by simp) (by simp) (by omega))
      have HS2 := Lib.hid (HA1.out.grown hgrow2 hne (fun k hk => by have := (HO1.out.lt k hk).1; omega) (by simp; omega))
      have HB2 := Lib.hid ((HB1.out.alloc (by omega) (.cells #[.int .u8 (r : Int)] 5)).grown hgrow2 (by simp; omega) (fun k hk => by have := (HO1.out.lt k hk).1; omega))
      clear hv hown2 hgrow2 HA1 HB1 HS1 HO1
      go_wp2
      go_roundw
      case rel =>
        refine ⟨acc ++ [UInt8.ofNat r], by simp; omega, by simp, ?_, HS2.out, HB2.out, by omega⟩
        rw [List.length_append]; exact HO2.out
      case measure => go_light; simp [intOf]; omega
    · have hc := own_string HO.out
      go_wp2
      go_ret
      exact ⟨_, by simp [ByteArray.size]; omega, rfl, HS.out, HB.out, hsz⟩
end Go.Proofs.Ytiphlffcgjdoaaa.Dr

namespace Go.Proofs.Ytiphlffcgjdoaaa.Mk
open Go.RowKit Dr

/-- a table of short texts -/
def STab (w : World) (g : Nat) (l : List ByteArray) : Prop := (∀ i (h : i < l.length), w.cell? ⟨g, i, none⟩ = some (.string l[i])) ∧ g < w.heap.size
theorem STab.within {w w' : World} {g lo hi : Nat} {l : List ByteArray} (h : STab w g l) (hw : Within lo hi w w') (ha : g < lo ∨ hi ≤ g) : STab w' g l :=
  ⟨fun i hi => (World.cell?_of_block (a := ⟨g, i, none⟩) (hw.block g h.2 ha)).trans (h.1 i hi), Nat.lt_of_lt_of_le h.2 hw.size⟩
theorem STab.new (w : World) (l : List ByteArray) (t : TypeId) : STab (w.alloc (.cells (l.map Value.string).toArray t)) w.heap.size l :=
  ⟨fun i hi => by rw [World.cell?_alloc_mark]; simp [hi], by simp⟩
/-- what a drawn text leaves: a text of at most four bytes -/
def DrawnKey (w : World) (B g : Nat) (e : Ending) (w' : World) : Prop :=
  ∃ t : ByteArray, t.size ≤ 4 ∧ e = .returned (.string t) ∧ HasSrc w' B g ∧ Within g (g + 1) w w'

set_option maxRecDepth 100000 in
theorem pick_draw (w : World) (B g b n : Nat) (l : List ByteArray) (hn : l.length = n) (h1 : 1 < n) (h2 : n ≤ 1000) (hl : ∀ t ∈ l, t.size ≤ 4) (hb : b ≠ g) (hT : STab w b l) (h : HasSrc w B g) :
    Calls Try.prog 94 #[.pointer (some ⟨g, 0, none⟩), .slice (some ⟨b, 0, none⟩) n n] w (DrawnKey w B g) := by
  subst hn
  have H := Lib.hid (n_draw w B g l.length h1 (by omega) h)
  have T := Lib.hid hT
  have HL := Lib.hid hl
  clear h hT hl
  go_enter Try.func94, Try.ntmps94
  go_wp2_with fail
  refine H.out.mono ?_
  rintro e w1 ⟨r, hr, rfl, hs, hg⟩
  have hw := within_grown hg
  have hc := (T.out.within hw (by omega)).1 r hr
  have ht := HL.out _ (List.getElem_mem hr)
  have HS := Lib.hid hs
  have HW := Lib.hid hw
  have t0 : (0 : Int) ≤ (r : Int) := by omega
  have t1 : (r : Int) < (l.length : Int) := by omega
  clear hs hg hw
  generalize l[r] = t at hc ht
  go_wp2
  go_ret
  exact ⟨t, ht, rfl, HS.out, HW.out⟩

theorem keys2 : ∀ t ∈ [(⟨#[]⟩ : ByteArray), ⟨#[65]⟩], t.size ≤ 4 := by
  intro t ht; simp at ht; rcases ht with rfl | rfl <;> decide
theorem keys4 : ∀ t ∈ [(⟨#[99, 97, 114, 116]⟩ : ByteArray), ⟨#[117, 115, 101, 114]⟩, ⟨#[120]⟩, ⟨#[121]⟩], t.size ≤ 4 := by
  intro t ht; simp at ht; rcases ht with rfl | rfl | rfl | rfl <;> decide

/-- what a draw of two numbers leaves -/
def GotNums (w : World) (e : Ending) (w' : World) : Prop := ∃ n v : Nat, n < 7 ∧ v < 10 ∧ e = .returned (.tuple #[.int .i64 (n : Int), .int .i64 (v : Int)]) ∧ Below w.heap.size w w'
end Go.Proofs.Ytiphlffcgjdoaaa.Mk

namespace Go.Proofs.Ytiphlffcgjdoaaa.Sb
open Go.RowKit Go.Proofs.Ytiphlffcgjdoaaa.Mk

/-- the digits of a number -/
def digs : Nat → List UInt8
  | 0 => []
  | n + 1 => digs ((n + 1) / 10) ++ [UInt8.ofNat (48 + (n + 1) % 10)]
decreasing_by omega
def markT (n : Nat) : ByteArray := ⟨#[109] ++ (digs n).toArray⟩
theorem digs_zero : digs 0 = [] := by unfold digs; rfl
theorem digs_pos {n : Nat} (h : 0 < n) : digs n = digs (n / 10) ++ [UInt8.ofNat (48 + n % 10)] := by
  cases n with
  | zero => omega
  | succ n => rw [digs]
theorem digs_len : ∀ (m n : Nat), n < 10 ^ m → (digs n).length ≤ m
  | 0, n, h => by
    have : n = 0 := by simpa using h
    subst this; rw [digs_zero]; simp
  | m + 1, n, h => by
    by_cases h0 : n = 0
    · subst h0; rw [digs_zero]; simp
    · rw [digs_pos (by omega), List.length_append]
      have := digs_len m (n / 10) (by rw [Nat.pow_succ] at h; omega)
      simp; omega
theorem conv1 (w : World) (k : Nat) (hk : k < 256) :
    (convert 22 9 (.slice (some ⟨w.heap.size, 0, none⟩) 1 1)).run Try.prog (w.alloc (.cells #[.int .u8 (k : Int)] 5)) = .ok (.string ⟨#[UInt8.ofNat k]⟩) (w.alloc (.cells #[.int .u8 (k : Int)] 5)) := by
  have := run_convert_bytes_back (P := Try.prog) (w.alloc (.cells #[.int .u8 (k : Int)] 5)) 22 9 5 ⟨w.heap.size, 0, none⟩ 1 [UInt8.ofNat k] Try.underlying22 Try.underlying5 Try.underlying9 (fun j hj => by
    have hj0 : j = 0 := by simp at hj; omega
    subst hj0
    have e : (⟨w.heap.size, 0, none⟩ : Addr).add 0 = ⟨w.heap.size, 0, none⟩ := by unfold Addr.add; split <;> simp_all
    rw [e, World.cell?_alloc_mark]
    have : (UInt8.ofNat k).toNat = k := Nu.toNat_ofNat k hk
    simp [this])
  simpa using this
end Go.Proofs.Ytiphlffcgjdoaaa.Sb

namespace Go.Proofs.Ytiphlffcgjdoaaa.Rw
open Go.RowKit Go.Proofs.Ytiphlffcgjdoaaa.Mk

variable {α : Type} {k : Nat} {enc : α → Nat → Value}

/-- the slice at a reads as the elements l, k cells each -/
def RowAt (k : Nat) (enc : α → Nat → Value) (w : World) (a : Option Addr) (l : List α) : Prop :=
  l = [] ∨ ∃ g off, a = some ⟨g, off, none⟩ ∧ ∀ i (h : i < l.length) j, j < k → w.cell? ⟨g, off + i * k + j, none⟩ = some (enc l[i] j)
/-- .. and all that it reads lies below block B -/
def RowBelow (k : Nat) (enc : α → Nat → Value) (w : World) (B : Nat) (a : Option Addr) (l : List α) : Prop :=
  l = [] ∨ ∃ g off, a = some ⟨g, off, none⟩ ∧ g < B ∧ ∀ i (h : i < l.length) j, j < k → w.cell? ⟨g, off + i * k + j, none⟩ = some (enc l[i] j)
theorem RowAt.below {w : World} {a : Option Addr} {l : List α} (hk : 0 < k) (h : RowAt k enc w a l) : RowBelow k enc w w.heap.size a l := by
  rcases h with h | ⟨g, off, ha, hc⟩
  · exact .inl h
  · by_cases hl : l = []
    · exact .inl hl
    · have h0 : 0 < l.length := List.length_pos_iff.2 hl
      exact .inr ⟨g, off, ha, by simpa using World.block_lt_of_cell? w _ (hc 0 h0 0 hk), hc⟩
theorem RowAt.mono {w w' : World} {a : Option Addr} {l : List α} (hk : 0 < k) (h : RowAt k enc w a l) (hb : Below w.heap.size w w') : RowAt k enc w' a l := by
  rcases h.below hk with h | ⟨g, off, ha, hg, hc⟩
  · exact .inl h
  · exact .inr ⟨g, off, ha, fun i hi j hj => (hb.cell (p := ⟨g, _, none⟩) hg).trans (hc i hi j hj)⟩
theorem RowAt.nil (w : World) (a : Option Addr) : RowAt k enc w a [] := .inl rfl
/-- the cells of element i -/
theorem RowAt.cells {w : World} {a : Option Addr} {l : List α} (hk : 0 < k) (h : RowAt k enc w a l) {i : Nat} (hi : i < l.length) :
    ∃ g off, a = some ⟨g, off, none⟩ ∧ g < w.heap.size ∧ ∀ j, j < k → w.cell? ⟨g, off + i * k + j, none⟩ = some (enc l[i] j) := by
  rcases h.below hk with rfl | ⟨g, off, ha, hg, hc⟩
  · cases hi
  · exact ⟨g, off, ha, hg, hc i hi⟩
/-- block g holds the elements l from its start on, and may be written -/
structure ROwn (k : Nat) (enc : α → Nat → Value) (w : World) (g : Nat) (l : List α) : Prop where
  cell : ∀ i (h : i < l.length) j, j < k → w.cell? ⟨g, i * k + j, none⟩ = some (enc l[i] j)
  free : ∀ j, w.frozen? ⟨g, j, none⟩ = false
theorem ROwn.same {w w' : World} {g : Nat} {l : List α} (h : ROwn k enc w g l) (hs : w'.heap[g]? = w.heap[g]?) : ROwn k enc w' g l where
  cell := fun i hi j hj => (World.cell?_of_block (a := ⟨g, i * k + j, none⟩) hs).trans (h.cell i hi j hj)
  free := fun j => (World.frozen?_of_block (a := ⟨g, j, none⟩) hs).trans (h.free j)
theorem ROwn.lt {w : World} {g : Nat} {l : List α} (hk : 0 < k) (h : ROwn k enc w g l) (hl : 0 < l.length) : g < w.heap.size := by simpa using World.block_lt_of_cell? w _ (h.cell 0 hl 0 hk)
/-- element idx turned, all else of the block as it was -/
theorem ROwn.put {w w' : World} {g : Nat} {l : List α} (h : ROwn k enc w g l) (idx : Nat) (x : α)
    (h1 : ∀ j, j < k → w'.cell? ⟨g, idx * k + j, none⟩ = some (enc x j)) (h2 : ∀ o, o < idx * k ∨ idx * k + k ≤ o → w'.cell? ⟨g, o, none⟩ = w.cell? ⟨g, o, none⟩) (h3 : ∀ j, w'.frozen? ⟨g, j, none⟩ = w.frozen? ⟨g, j, none⟩) :
    ROwn k enc w' g (l.set idx x) where
  cell := fun i hi j hj => by
    have hi' : i < l.length := by simpa using hi
    by_cases e : idx = i
    · subst e; rw [h1 j hj, List.getElem_set_self]
    · rw [h2 (i * k + j), h.cell i hi' j hj, List.getElem_set_ne e]
      rcases Nat.lt_or_gt_of_ne e with c | c
      · right
        have := Nat.mul_le_mul_right k (show idx + 1 ≤ i from c)
        rw [Nat.add_mul] at this; omega
      · left
        have := Nat.mul_le_mul_right k (show i + 1 ≤ idx from c)
        rw [Nat.add_mul] at this; omega
  free := fun j => (h3 j).trans (h.free j)
/-- a row of the call's own, in a block from lo on and below hi -/
def ROwnIn (k : Nat) (enc : α → Nat → Value) (w : World) (lo hi : Nat) (a : Option Addr) (l : List α) : Prop := l = [] ∨ ∃ g, a = some ⟨g, 0, none⟩ ∧ lo ≤ g ∧ g < hi ∧ ROwn k enc w g l
theorem ROwnIn.same {w w' : World} {lo hi : Nat} {a : Option Addr} {l : List α} (h : ROwnIn k enc w lo hi a l) (hs : Same lo hi w w') : ROwnIn k enc w' lo hi a l := by
  rcases h with h | ⟨g, ha, h1, h2, ho⟩
  · exact .inl h
  · exact .inr ⟨g, ha, h1, h2, ho.same (hs g h1 h2)⟩
theorem ROwnIn.at_ {w : World} {lo hi : Nat} {a : Option Addr} {l : List α} (h : ROwnIn k enc w lo hi a l) : RowAt k enc w a l := by
  rcases h with h | ⟨g, ha, h1, h2, ho⟩
  · exact .inl h
  · exact .inr ⟨g, 0, ha, fun i hi j hj => by simpa using ho.cell i hi j hj⟩
theorem ROwnIn.wide {w : World} {lo hi lo' hi' : Nat} {a : Option Addr} {l : List α} (h : ROwnIn k enc w lo hi a l) (h1 : lo' ≤ lo) (h2 : hi ≤ hi') : ROwnIn k enc w lo' hi' a l := by
  rcases h with h | ⟨g, ha, h3, h4, ho⟩
  · exact .inl h
  · exact .inr ⟨g, ha, by omega, by omega, ho⟩
/-- a row of the law's own -/
def ROwnI (k : Nat) (enc : α → Nat → Value) (w : World) (lo hi : Nat) (a : Option Addr) (l : List α) : Prop := ROwnIn k enc w lo hi a l ∧ hi ≤ w.heap.size
theorem ROwnI.below {w w' : World} {lo hi : Nat} {a : Option Addr} {l : List α} (h : ROwnI k enc w lo hi a l) (hb : Below w.heap.size w w') : ROwnI k enc w' lo hi a l :=
  ⟨h.1.same (Same.of_below hb h.2), Nat.le_trans h.2 hb.size⟩
theorem ROwnI.within {w w' : World} {lo hi lo' hi' : Nat} {a : Option Addr} {l : List α} (h : ROwnI k enc w lo hi a l) (hw : Within lo' hi' w w') (ha : hi ≤ lo' ∨ hi' ≤ lo) : ROwnI k enc w' lo hi a l :=
  ⟨h.1.same (hw.same h.2 (by omega)), Nat.le_trans h.2 hw.size⟩
theorem ROwnI.at_ {w : World} {lo hi : Nat} {a : Option Addr} {l : List α} (h : ROwnI k enc w lo hi a l) : RowAt k enc w a l := h.1.at_
/-- a row that came in -/
def RIn (k : Nat) (enc : α → Nat → Value) (w0 w : World) (a : Option Addr) (l : List α) : Prop := RowBelow k enc w w0.heap.size a l ∧ w0.heap.size ≤ w.heap.size
theorem RIn.of {w : World} {a : Option Addr} {l : List α} (hk : 0 < k) (h : RowAt k enc w a l) : RIn k enc w w a l := ⟨h.below hk, Nat.le_refl _⟩
theorem RowBelow.same {w w' : World} {B : Nat} {a : Option Addr} {l : List α} (h : RowBelow k enc w B a l) (hs : Same 0 B w w') : RowBelow k enc w' B a l := by
  rcases h with h | ⟨g, off, ha, hg, hc⟩
  · exact .inl h
  · have e := hs g (Nat.zero_le _) hg
    exact .inr ⟨g, off, ha, hg, fun i hi j hj => (World.cell?_of_block (a := ⟨g, _, none⟩) e).trans (hc i hi j hj)⟩
theorem RIn.below {w0 w w' : World} {a : Option Addr} {l : List α} (h : RIn k enc w0 w a l) (hb : Below w.heap.size w w') : RIn k enc w0 w' a l :=
  ⟨h.1.same (Same.of_below hb h.2), Nat.le_trans h.2 hb.size⟩
theorem RIn.within {w0 w w' : World} {lo hi : Nat} {a : Option Addr} {l : List α} (h : RIn k enc w0 w a l) (hw : Within lo hi w w') (hl : w0.heap.size ≤ lo) : RIn k enc w0 w' a l :=
  ⟨h.1.same (hw.same h.2 (by omega)), Nat.le_trans h.2 hw.size⟩
theorem RIn.at_ {w0 w : World} {a : Option Addr} {l : List α} (h : RIn k enc w0 w a l) : RowAt k enc w a l := by
  rcases h.1 with h | ⟨g, off, ha, _, hc⟩
  · exact .inl h
  · exact .inr ⟨g, off, ha, hc⟩
/-- the cells of elements, one behind the other -/
def flatE (k : Nat) (enc : α → Nat → Value) (l : List α) : List Value := l.flatMap fun x => (List.range k).map (enc x)
theorem flatE_length (l : List α) : (flatE k enc l).length = l.length * k := by
  induction l with
  | nil => simp [flatE]
  | cons x r ih =>
    show (((List.range k).map (enc x)) ++ flatE k enc r).length = _
    rw [List.length_append, ih, List.length_map, List.length_range, List.length_cons, Nat.add_mul]; omega
theorem flatE_append (l r : List α) : flatE k enc (l ++ r) = flatE k enc l ++ flatE k enc r := by simp [flatE]
theorem flatE_get : ∀ (l : List α) (i : Nat) (h : i < l.length) (j : Nat), j < k → (flatE k enc l)[i * k + j]? = some (enc l[i] j)
  | x :: r, 0, _, j, hj => by
    show (((List.range k).map (enc x)) ++ flatE k enc r)[0 * k + j]? = _
    rw [List.getElem?_append_left (by simp; first | exact hj | omega)]
    simp [hj]
  | x :: r, i + 1, h, j, hj => by
    have := flatE_get r i (by simpa using h) j hj
    show (((List.range k).map (enc x)) ++ flatE k enc r)[(i + 1) * k + j]? = _
    have e : (i + 1) * k + j = k + (i * k + j) := by rw [Nat.add_mul]; omega
    rw [e, List.getElem?_append_right (by simp)]
    simpa using this
/-- a row that was appended to, as a row of the call's own -/
theorem own_row {w : World} {B n e : Nat} {v : Value} {l : List α} (hk : 0 < k) (h : w.ownsRow B e k v n (flatE k enc l)) : ∃ a cap, v = .slice a l.length cap ∧ ROwnIn k enc w B w.heap.size a l := by
  obtain ⟨hlen, hc⟩ := h
  have hn : n = l.length := by
    rw [flatE_length] at hlen
    exact (Nat.eq_of_mul_eq_mul_right hk hlen).symm
  subst hn
  rcases hc with ⟨rfl, h0⟩ | ⟨g, cap, cur, rfl, hg, hh, hn, hm, hs, ht⟩
  · exact ⟨none, 0, by rw [h0], .inl (List.length_eq_zero_iff.1 h0)⟩
  · refine ⟨_, _, rfl, .inr ⟨g, rfl, hg, (Array.getElem?_eq_some_iff.1 hh).1, ?_⟩⟩
    have get : ∀ j, j < l.length * k → cur[j]? = (flatE k enc l)[j]? := fun j hj => by
      rw [← ht, List.getElem?_take_of_lt hj]; simp
    exact {
      cell := fun i hi j hj => by
        have hb : i * k + j < l.length * k := by
          have := Nat.mul_le_mul_right k (show i + 1 ≤ l.length from hi)
          rw [Nat.add_mul] at this; omega
        simp [World.cell?, hh, get _ hb, flatE_get l i hi j hj]
      free := fun j => by simp [World.frozen?, hh] }
/-- four cells stored one behind the other -/
theorem set4 {w : World} {g o : Nat} (v0 v1 v2 v3 : Value) (c : ∀ j, j < 4 → ∃ u, w.cell? ⟨g, o + j, none⟩ = some u) :
    let w' := (((w.setCell ⟨g, o, none⟩ v0).setCell ⟨g, o + 1, none⟩ v1).setCell ⟨g, o + 2, none⟩ v2).setCell ⟨g, o + 3, none⟩ v3
    (w'.cell? ⟨g, o, none⟩ = some v0 ∧ w'.cell? ⟨g, o + 1, none⟩ = some v1 ∧ w'.cell? ⟨g, o + 2, none⟩ = some v2 ∧ w'.cell? ⟨g, o + 3, none⟩ = some v3) ∧
    (∀ p, p < o ∨ o + 4 ≤ p → w'.cell? ⟨g, p, none⟩ = w.cell? ⟨g, p, none⟩) ∧ (∀ j, w'.frozen? ⟨g, j, none⟩ = w.frozen? ⟨g, j, none⟩) := by
  intro w'
  have other : ∀ (W : World) (p q : Nat) (v : Value), p ≠ q → (W.setCell ⟨g, p, none⟩ v).cell? ⟨g, q, none⟩ = W.cell? ⟨g, q, none⟩ := fun W p q v h => World.cell?_setCell_other _ _ _ _ (ne_off h)
  obtain ⟨u0, h0⟩ := c 0 (by omega)
  obtain ⟨u1, h1⟩ := c 1 (by omega)
  obtain ⟨u2, h2⟩ := c 2 (by omega)
  obtain ⟨u3, h3⟩ := c 3 (by omega)
  refine ⟨⟨?_, ?_, ?_, ?_⟩, fun p hp => ?_, fun j => ?_⟩
  · rw [other _ _ _ _ (by omega), other _ _ _ _ (by omega), other _ _ _ _ (by omega)]; exact World.cell?_setCell_same _ _ _ h0
  · rw [other _ _ _ _ (by omega), other _ _ _ _ (by omega)]; exact World.cell?_setCell_same _ _ _ ((other _ _ _ _ (by omega)).trans h1)
  · rw [other _ _ _ _ (by omega)]; exact World.cell?_setCell_same _ _ _ ((other _ _ _ _ (by omega)).trans ((other _ _ _ _ (by omega)).trans h2))
  · exact World.cell?_setCell_same _ _ _ ((other _ _ _ _ (by omega)).trans ((other _ _ _ _ (by omega)).trans ((other _ _ _ _ (by omega)).trans h3)))
  · rw [other _ _ _ _ (by omega), other _ _ _ _ (by omega), other _ _ _ _ (by omega), other _ _ _ _ (by omega)]
  · rw [World.frozen?_setCell, World.frozen?_setCell, World.frozen?_setCell, World.frozen?_setCell]
/-- a new block of n elements, all zero -/
theorem ROwn.new {z : α} {zs : Array Value} (hz : zs.size = k) (hzs : ∀ j, j < k → zs[j]? = some (enc z j)) (w : World) (n : Nat) (t : TypeId) :
    ROwn k enc (w.alloc (.cells (madeCells zs (n * k)) t)) w.heap.size (List.replicate n z) where
  cell := fun i hi j hj => by
    have hi' : i < n := by simpa using hi
    rw [World.cell?_alloc_mark]
    have hb : i * k + j < n * k := by
      have := Nat.mul_le_mul_right k (show i + 1 ≤ n from hi')
      rw [Nat.add_mul] at this; omega
    have hm : (i * k + j) % k = j := by rw [Nat.mul_comm, Nat.mul_add_mod, Nat.mod_eq_of_lt hj]
    have := hzs j hj
    simp [madeCells, hb, hz, hm, List.getElem_replicate]
    rw [Array.getElem!_eq_getD, Array.getD_eq_getD_getElem?, this]; rfl
  free := fun j => by rw [World.frozen?_alloc_mark]; simp

end Go.Proofs.Ytiphlffcgjdoaaa.Rw

namespace Go.Proofs.Ytiphlffcgjdoaaa.Mk
open Go.RowKit

theorem infoM : (Try.prog.info? 30).map (fun i => (i.zero, i.size, i.bytes)) = some (some (.agg #[.int .i64 0, .int .i64 0]), 2, 16) := by kernel_rfl
theorem Own.new (w : World) (n : Nat) : Own (w.alloc (.cells (madeCells #[.int .i64 0, .int .i64 0] (n * 2)) 30)) w.heap.size (List.replicate n (0, 0)) where
  cell0 := fun i hi => by
    have hi' : i < n := by simpa using hi
    rw [World.cell?_alloc_mark]
    simp [made_get n (i * 2) (by omega)]
  cell1 := fun i hi => by
    have hi' : i < n := by simpa using hi
    rw [World.cell?_alloc_mark]
    simp [made_get n (i * 2 + 1) (by omega)]
  free := fun j => by rw [World.frozen?_alloc_mark]; simp
theorem run_make_marks (n : Nat) (hn : n ≤ 1048576) (w : World) :
    (Instr.makeSlice 23 (.int .i64 (n : Int)) (.int .i64 (n : Int))).run Try.prog w = .ok (.slice (some ⟨w.heap.size, 0, none⟩) n n) (w.alloc (.cells (madeCells #[.int .i64 0, .int .i64 0] (n * 2)) 30)) := by
  obtain ⟨i0, hi, hz0, hz1, hz2⟩ := info_parts infoM
  have := run_make (P := Try.prog) w 23 30 i0 _ Try.underlying23 hi hz0 .i64 .i64 n n (by omega) (by omega) (by rw [hz2]; omega) (by omega)
  rw [hz1] at this
  simpa [Value.cells] using this
/-- a row that was appended to, as marks of the call's own -/
theorem own_row {w : World} {B n : Nat} {v : Value} {l : List (Int × Int)} (h : w.ownsRow B 30 2 v n (flat l)) : ∃ a cap, v = .slice a l.length cap ∧ OwnIn w B w.heap.size a l := by
  obtain ⟨hlen, hc⟩ := h
  have hn : n = l.length := by rw [flat_length] at hlen; omega
  subst hn
  rcases hc with ⟨rfl, h0⟩ | ⟨g, cap, cur, rfl, hg, hh, hn, hm, hs, ht⟩
  · exact ⟨none, 0, by rw [h0], .inl (List.length_eq_zero_iff.1 h0)⟩
  · refine ⟨_, _, rfl, .inr ⟨g, rfl, hg, (Array.getElem?_eq_some_iff.1 hh).1, ?_⟩⟩
    have get : ∀ j, j < l.length * 2 → cur[j]? = (flat l)[j]? := fun j hj => by
      rw [← ht, List.getElem?_take_of_lt hj]; simp
    exact {
      cell0 := fun i hi => by simp [World.cell?, hh, get (i * 2) (by omega), (flat_get l i hi).1]
      cell1 := fun i hi => by simp [World.cell?, hh, get (i * 2 + 1) (by omega), (flat_get l i hi).2]
      free := fun j => by simp [World.frozen?, hh] }
/-- a mark that was just laid in memory, appended to a row of the call's own -/
theorem wpList_append_mark (w0 : World) {ops : Array Oper} {rest : List Oper} {o : Oper} {a : Act} {Q : Exit → Act → World → Prop} (hg : o.guard = none) (s x : Operand)
    (hop : o.op = .call { callee := .builtin .append, args := #[s, x], argTypes := #[23, 23] }) (B : Nat) (v : Value) (l : List (Int × Int)) (m : Int × Int) (hs : a.eval s = v) (G : Nat) (hG : w0.heap.size = G)
    (hx : a.eval x = .slice (some ⟨G, 0, none⟩) 1 1) (hown : w0.ownsRow B 30 2 v l.length (flat l)) (hl : l.length ≤ 1000000) (hB : B ≤ w0.heap.size)
    (h : ∀ v' w', w'.ownsRow B 30 2 v' (l ++ [m]).length (flat (l ++ [m])) → Below B w0 w' → wpList Try.prog ops Q rest (a.put o.dst v') w') :
    wpList Try.prog ops Q (o :: rest) a (w0.alloc (.cells #[.int .i64 m.1, .int .i64 m.2] 30)) := by
  subst hG
  obtain ⟨i0, hi, hz0, hz1, hz2⟩ := info_parts infoM
  refine wpList_append_own _ hg s x 23 hop B 30 i0 _ 2 16 Try.underlying23 hi hz0 hz1 hz2 rfl (by decide) v l.length (flat l) hs (hown.alloc _) ⟨w0.heap.size, 0, none⟩ 1 1 [.int .i64 m.1, .int .i64 m.2] hx rfl
    (World.news_of_block (cs := #[.int .i64 m.1, .int .i64 m.2]) (heap_alloc_new w0 _)) (fun u hu => by simp at hu; rcases hu with rfl | rfl <;> rfl) (by unfold maxLen; omega) (by omega) (by simp; omega) (fun v' w' h1 h2 _ => h v' w' ?_ ?_)
  · rw [flat_snoc, List.length_append]; exact h1
  · exact ((Below.refl B w0).alloc hB _).grown h2 (by simp; omega) (fun k hk => (hown.lt k hk).1)
end Go.Proofs.Ytiphlffcgjdoaaa.Mk

namespace Go.Proofs.Ytiphlffcgjdoaaa.Sb
open Go.RowKit Go.Proofs.Ytiphlffcgjdoaaa.Mk Go.Proofs.Ytiphlffcgjdoaaa.Rw

/-- a Sib: its dot, whether it is gone, its data -/
abbrev Sib := (Int × Int) × Bool × ByteArray
def sv (x : Sib) : Value := .agg #[.int .i64 x.1.1, .int .i64 x.1.2, .bool x.2.1, .string x.2.2]
def senc (x : Sib) : Nat → Value
  | 0 => .int .i64 x.1.1
  | 1 => .int .i64 x.1.2
  | 2 => .bool x.2.1
  | _ => .string x.2.2
def z0 : Sib := ((0, 0), false, ByteArray.empty)
abbrev SibsAt := RowAt 4 senc
abbrev SOwn := ROwn 4 senc
abbrev SOwnIn := ROwnIn 4 senc
theorem SibsAt.mono {w w' : World} {a : Option Addr} {l : List Sib} (h : SibsAt w a l) (hb : Below w.heap.size w w') : SibsAt w' a l := RowAt.mono (by decide) h hb
theorem SibsAt.cells {w : World} {a : Option Addr} {l : List Sib} (h : SibsAt w a l) {i : Nat} (hi : i < l.length) :
    ∃ g off, a = some ⟨g, off, none⟩ ∧ g < w.heap.size ∧ w.cell? ⟨g, off + i * 4, none⟩ = some (.int .i64 l[i].1.1) ∧ w.cell? ⟨g, off + i * 4 + 1, none⟩ = some (.int .i64 l[i].1.2) ∧
      w.cell? ⟨g, off + i * 4 + 2, none⟩ = some (.bool l[i].2.1) ∧ w.cell? ⟨g, off + i * 4 + 3, none⟩ = some (.string l[i].2.2) := by
  obtain ⟨g, off, ha, hg, hc⟩ := RowAt.cells (by decide) h hi
  exact ⟨g, off, ha, hg, hc 0 (by decide), hc 1 (by decide), hc 2 (by decide), hc 3 (by decide)⟩
theorem SOwn.cells {w : World} {g : Nat} {l : List Sib} (h : SOwn w g l) {i : Nat} (hi : i < l.length) :
    w.cell? ⟨g, i * 4, none⟩ = some (.int .i64 l[i].1.1) ∧ w.cell? ⟨g, i * 4 + 1, none⟩ = some (.int .i64 l[i].1.2) ∧
      w.cell? ⟨g, i * 4 + 2, none⟩ = some (.bool l[i].2.1) ∧ w.cell? ⟨g, i * 4 + 3, none⟩ = some (.string l[i].2.2) :=
  ⟨h.cell i hi 0 (by decide), h.cell i hi 1 (by decide), h.cell i hi 2 (by decide), h.cell i hi 3 (by decide)⟩
theorem SOwn.set {w : World} {g : Nat} {l : List Sib} (h : SOwn w g l) (i : Nat) (hi : i < l.length) (x : Sib) :
    SOwn ((((w.setCell ⟨g, i * 4, none⟩ (.int .i64 x.1.1)).setCell ⟨g, i * 4 + 1, none⟩ (.int .i64 x.1.2)).setCell ⟨g, i * 4 + 2, none⟩ (.bool x.2.1)).setCell ⟨g, i * 4 + 3, none⟩ (.string x.2.2)) g (l.set i x) := by
  obtain ⟨⟨c0, c1, c2, c3⟩, ho, hf⟩ := set4 (w := w) (g := g) (o := i * 4) (.int .i64 x.1.1) (.int .i64 x.1.2) (.bool x.2.1) (.string x.2.2) (fun j hj => ⟨_, h.cell i hi j hj⟩)
  refine h.put i x (fun j hj => ?_) ho hf
  match j, hj with
  | 0, _ => exact c0
  | 1, _ => exact c1
  | 2, _ => exact c2
  | 3, _ => exact c3
theorem infoS : (Try.prog.info? 48).map (fun i => (i.zero, i.size, i.bytes)) = some (some (.agg #[.int .i64 0, .int .i64 0, .bool false, .string ByteArray.empty]), 4, 40) := by kernel_rfl
def zs4 : Array Value := #[.int .i64 0, .int .i64 0, .bool false, .string ByteArray.empty]
theorem SOwn.new (w : World) (n : Nat) : SOwn (w.alloc (.cells (madeCells zs4 (n * 4)) 48)) w.heap.size (List.replicate n z0) :=
  ROwn.new (k := 4) (enc := senc) (z := z0) (zs := zs4) rfl (fun j hj => match j, hj with | 0, _ => rfl | 1, _ => rfl | 2, _ => rfl | 3, _ => rfl) w n _
theorem run_make_sibs (n : Nat) (hn : n ≤ 1048576) (w : World) :
    (Instr.makeSlice 24 (.int .i64 (n : Int)) (.int .i64 (n : Int))).run Try.prog w = .ok (.slice (some ⟨w.heap.size, 0, none⟩) n n) (w.alloc (.cells (madeCells zs4 (n * 4)) 48)) := by
  obtain ⟨i0, hi, hz0, hz1, hz2⟩ := info_parts infoS
  have := run_make (P := Try.prog) w 24 48 i0 _ Try.underlying24 hi hz0 .i64 .i64 n n (by omega) (by omega) (by rw [hz2]; omega) (by omega)
  rw [hz1] at this
  simpa [Value.cells, zs4] using this
/-- what a call that makes a slice of Sibs leaves -/
def SGives (w : World) (l : List Sib) (e : Ending) (w' : World) : Prop :=
  ∃ a cap, e = .returned (.slice a l.length cap) ∧ SOwnIn w' w.heap.size w'.heap.size a l ∧ Below w.heap.size w w'
/-- a Sib that was just laid in memory, appended to a row of the call's own -/
theorem wpList_append_sib (w0 : World) {ops : Array Oper} {rest : List Oper} {o : Oper} {a : Act} {Q : Exit → Act → World → Prop} (hg : o.guard = none) (s x : Operand)
    (hop : o.op = .call { callee := .builtin .append, args := #[s, x], argTypes := #[24, 24] }) (B : Nat) (v : Value) (l : List Sib) (m : Sib) (hs : a.eval s = v) (G : Nat) (hG : w0.heap.size = G)
    (hx : a.eval x = .slice (some ⟨G, 0, none⟩) 1 1) (hown : w0.ownsRow B 48 4 v l.length (flatE 4 senc l)) (hl : l.length ≤ 1000000) (hB : B ≤ w0.heap.size)
    (h : ∀ v' w', w'.ownsRow B 48 4 v' (l ++ [m]).length (flatE 4 senc (l ++ [m])) → Below B w0 w' → wpList Try.prog ops Q rest (a.put o.dst v') w') :
    wpList Try.prog ops Q (o :: rest) a (w0.alloc (.cells #[.int .i64 m.1.1, .int .i64 m.1.2, .bool m.2.1, .string m.2.2] 48)) := by
  subst hG
  obtain ⟨i0, hi, hz0, hz1, hz2⟩ := info_parts infoS
  have e1 : flatE 4 senc [m] = [.int .i64 m.1.1, .int .i64 m.1.2, .bool m.2.1, .string m.2.2] := rfl
  refine wpList_append_own _ hg s x 24 hop B 48 i0 _ 4 40 Try.underlying24 hi hz0 hz1 hz2 rfl (by decide) v l.length (flatE 4 senc l) hs (hown.alloc _) ⟨w0.heap.size, 0, none⟩ 1 1 (flatE 4 senc [m]) hx rfl
    (World.news_of_block (cs := #[.int .i64 m.1.1, .int .i64 m.1.2, .bool m.2.1, .string m.2.2]) (heap_alloc_new w0 _)) (fun u hu => by rw [e1] at hu; simp at hu; rcases hu with rfl | rfl | rfl | rfl <;> rfl) (by unfold maxLen; omega) (by omega) (by simp; omega) (fun v' w' h1 h2 _ => h v' w' ?_ ?_)
  · rw [flatE_append, List.length_append]; exact h1
  · exact ((Below.refl B w0).alloc hB _).grown h2 (by simp; omega) (fun k hk => (hown.lt k hk).1)
end Go.Proofs.Ytiphlffcgjdoaaa.Sb

namespace Go.Proofs.Ytiphlffcgjdoaaa.Mk
open Go.RowKit

end Go.Proofs.Ytiphlffcgjdoaaa.Mk

namespace Go.Proofs.Ytiphlffcgjdoaaa.Sb
open Go.RowKit Go.Proofs.Ytiphlffcgjdoaaa.Mk Go.Proofs.Ytiphlffcgjdoaaa.Rw

/-- what a measuring of l leaves -/
def Sized (w : World) (left : Int) (n : Nat) (e : Ending) (w' : World) : Prop :=
  ∃ r : Int, e = .returned (.int .i64 r) ∧ (r = -1 ∨ (0 ≤ r ∧ r ≤ left ∧ (n : Int) ≤ left)) ∧ Below w.heap.size w w'
def SmallData (l : List Sib) : Prop := ∀ x ∈ l, x.2.2.size ≤ maxLen

end Go.Proofs.Ytiphlffcgjdoaaa.Sb

namespace Go.Proofs.Ytiphlffcgjdoaaa.Rw
open Go.RowKit Go.Proofs.Ytiphlffcgjdoaaa.Mk

/-- a variable at block g, its cells, not frozen -/
structure Cells (w : World) (g : Nat) (vs : List Value) : Prop where
  cell : ∀ i (h : i < vs.length), w.cell? ⟨g, i, none⟩ = some vs[i]
  free : ∀ i, w.frozen? ⟨g, i, none⟩ = false
  lt : g < w.heap.size
theorem Cells.same {w w' : World} {g : Nat} {vs : List Value} (h : Cells w g vs) (hs : w'.heap[g]? = w.heap[g]?) (hz : w.heap.size ≤ w'.heap.size) : Cells w' g vs :=
  ⟨fun i hi => (World.cell?_of_block (a := ⟨g, i, none⟩) hs).trans (h.cell i hi), fun i => (World.frozen?_of_block (a := ⟨g, i, none⟩) hs).trans (h.free i), Nat.lt_of_lt_of_le h.lt hz⟩
theorem Cells.below {w w' : World} {g : Nat} {vs : List Value} (h : Cells w g vs) (hb : Below w.heap.size w w') : Cells w' g vs := h.same (hb.block g h.lt) hb.size
theorem Cells.within {w w' : World} {lo hi g : Nat} {vs : List Value} (h : Cells w g vs) (hw : Within lo hi w w') (ha : g < lo ∨ hi ≤ g) : Cells w' g vs := h.same (hw.block g h.lt ha) hw.size
theorem Cells.new (w : World) (vs : Array Value) (t : TypeId) : Cells (w.alloc (.cells vs t)) w.heap.size vs.toList :=
  ⟨fun i hi => by
    have hi' : i < vs.size := by simpa using hi
    rw [World.cell?_alloc_mark]; simp [hi'],
   fun i => by rw [World.frozen?_alloc_mark]; simp, by simp⟩
theorem Cells.set {w : World} {g : Nat} {vs : List Value} (h : Cells w g vs) (i : Nat) (hi : i < vs.length) (x : Value) : Cells (w.setCell ⟨g, i, none⟩ x) g (vs.set i x) :=
  ⟨fun j hj => by
    have hj' : j < vs.length := by simpa using hj
    by_cases e : i = j
    · subst e; rw [World.cell?_setCell_same _ _ _ (h.cell i hi), List.getElem_set_self]
    · rw [World.cell?_setCell_other _ _ _ _ (ne_off e), h.cell j hj', List.getElem_set_ne e],
   fun j => by rw [World.frozen?_setCell]; exact h.free j, by simpa [World.setCell] using h.lt⟩
/-- one store into block g, for the others -/
theorem one_store (w : World) (g i : Nat) (x : Value) : Within g (g + 1) w (w.setCell ⟨g, i, none⟩ x) := (Within.refl g (g + 1) w).setCell (p := ⟨g, i, none⟩) (Nat.le_refl _) (Nat.lt_succ_self _) x
theorem Cells.c2 {w : World} {g : Nat} {u v : Value} (h : Cells w g [u, v]) : w.cell? ⟨g, 0, none⟩ = some u ∧ w.cell? ⟨g, 1, none⟩ = some v ∧ w.frozen? ⟨g, 0, none⟩ = false ∧ w.frozen? ⟨g, 1, none⟩ = false :=
  ⟨h.cell 0 (by simp), h.cell 1 (by simp), h.free 0, h.free 1⟩
theorem Cells.c3 {w : World} {g : Nat} {u v x : Value} (h : Cells w g [u, v, x]) : w.cell? ⟨g, 0, none⟩ = some u ∧ w.cell? ⟨g, 1, none⟩ = some v ∧ w.cell? ⟨g, 2, none⟩ = some x ∧ w.frozen? ⟨g, 0, none⟩ = false ∧ w.frozen? ⟨g, 1, none⟩ = false ∧ w.frozen? ⟨g, 2, none⟩ = false :=
  ⟨h.cell 0 (by simp), h.cell 1 (by simp), h.cell 2 (by simp), h.free 0, h.free 1, h.free 2⟩
theorem Cells.c4 {w : World} {g : Nat} {u v x y : Value} (h : Cells w g [u, v, x, y]) : w.cell? ⟨g, 0, none⟩ = some u ∧ w.cell? ⟨g, 1, none⟩ = some v ∧ w.cell? ⟨g, 2, none⟩ = some x ∧ w.cell? ⟨g, 3, none⟩ = some y ∧ w.frozen? ⟨g, 0, none⟩ = false ∧ w.frozen? ⟨g, 1, none⟩ = false ∧ w.frozen? ⟨g, 2, none⟩ = false ∧ w.frozen? ⟨g, 3, none⟩ = false :=
  ⟨h.cell 0 (by simp), h.cell 1 (by simp), h.cell 2 (by simp), h.cell 3 (by simp), h.free 0, h.free 1, h.free 2, h.free 3⟩
theorem Cells.c5 {w : World} {g : Nat} {u v x y z : Value} (h : Cells w g [u, v, x, y, z]) : w.cell? ⟨g, 0, none⟩ = some u ∧ w.cell? ⟨g, 1, none⟩ = some v ∧ w.cell? ⟨g, 2, none⟩ = some x ∧ w.cell? ⟨g, 3, none⟩ = some y ∧ w.cell? ⟨g, 4, none⟩ = some z ∧
    w.frozen? ⟨g, 0, none⟩ = false ∧ w.frozen? ⟨g, 1, none⟩ = false ∧ w.frozen? ⟨g, 2, none⟩ = false ∧ w.frozen? ⟨g, 3, none⟩ = false ∧ w.frozen? ⟨g, 4, none⟩ = false :=
  ⟨h.cell 0 (by simp), h.cell 1 (by simp), h.cell 2 (by simp), h.cell 3 (by simp), h.cell 4 (by simp), h.free 0, h.free 1, h.free 2, h.free 3, h.free 4⟩
theorem size_set (w : World) (p : Addr) (v : Value) : (w.setCell p v).heap.size = w.heap.size := by simp [World.setCell]
end Go.Proofs.Ytiphlffcgjdoaaa.Rw

namespace Go.Proofs.Ytiphlffcgjdoaaa.Mk
open Go.RowKit Go.WideShapes Go.ChangeShapes Go.Joins

def wfI (n : Int) : Prop := (Lit.int .i64 n).wf = true
def WfMarks (l : List (Int × Int)) : Prop := ∀ m ∈ l, wfI m.1 ∧ wfI m.2
/-- what a law is told of a slice of marks -/
def CameMarks (w : World) (a : Option Addr) (l : List (Int × Int)) : Prop := MarksAt w a l ∧ l.length ≤ maxLen ∧ WfMarks l
def WfMark (m : Int × Int) : Prop := wfI m.1 ∧ wfI m.2
end Go.Proofs.Ytiphlffcgjdoaaa.Mk

namespace Go.Proofs.Ytiphlffcgjdoaaa.Sb
open Go.RowKit Go.WideShapes Go.ChangeShapes Go.Joins Go.Proofs.Ytiphlffcgjdoaaa.Mk Go.Proofs.Ytiphlffcgjdoaaa.Rw

/-- what szSet leaves -/
def SizedSet (w : World) (left : Int) (n m : Nat) (e : Ending) (w' : World) : Prop :=
  ∃ r : Int, e = .returned (.int .i64 r) ∧ (r = -1 ∨ (0 ≤ r ∧ r ≤ left ∧ (n : Int) ≤ left ∧ (m : Int) ≤ left)) ∧ Below w.heap.size w w'
/-- what a call that makes a Set leaves: the two rows lie apart -/
def GivesSet (w : World) (l : List (Int × Int)) (s : List Sib) (e : Ending) (w' : World) : Prop :=
  ∃ a cap b cap' mid, e = .returned (.agg #[.slice a l.length cap, .slice b s.length cap']) ∧ OwnIn w' w.heap.size mid a l ∧ SOwnIn w' mid w'.heap.size b s ∧ w.heap.size ≤ mid ∧ mid ≤ w'.heap.size ∧ Below w.heap.size w w'
end Go.Proofs.Ytiphlffcgjdoaaa.Sb

namespace Go.Proofs.Ytiphlffcgjdoaaa.Sb
open Go.RowKit Go.Proofs.Ytiphlffcgjdoaaa.Mk Go.Proofs.Ytiphlffcgjdoaaa.Rw

/-- the mark of place i, from k on -/
def sibQ (q : Nat) : Sib := (((q : Int), (q : Int) + 1), ((q : Int) + 1 + 1) % 3 == 0, markT (q + 3))
def sibM (k i : Nat) : Sib := sibQ (k + 4 * i)
theorem SOwn.put3 {w w' : World} {g : Nat} {s : List Sib} (h : SOwn w g s) (j : Nat) (hj : j < s.length) (x : Sib)
    (hc : ∀ o, w'.cell? ⟨g, o, none⟩ = (((w.setCell ⟨g, j * 4, none⟩ (.int .i64 x.1.1)).setCell ⟨g, j * 4 + 1, none⟩ (.int .i64 x.1.2)).setCell ⟨g, j * 4 + 2, none⟩ (.bool x.2.1)).cell? ⟨g, o, none⟩)
    (hf : ∀ o, w'.frozen? ⟨g, o, none⟩ = w.frozen? ⟨g, o, none⟩) : SOwn (w'.setCell ⟨g, j * 4 + 3, none⟩ (.string x.2.2)) g (s.set j x) := by
  have other : ∀ (W : World) (p q : Nat) (v : Value), p ≠ q → (W.setCell ⟨g, p, none⟩ v).cell? ⟨g, q, none⟩ = W.cell? ⟨g, q, none⟩ := fun W p q v h => World.cell?_setCell_other _ _ _ _ (ne_off h)
  obtain ⟨c0, c1, c2, c3⟩ := SOwn.cells h hj
  refine h.put j x (fun i hi => ?_) (fun o ho => ?_) (fun o => ?_)
  · match i, hi with
    | 0, _ =>
      show (w'.setCell ⟨g, j * 4 + 3, none⟩ (.string x.2.2)).cell? ⟨g, j * 4, none⟩ = _
      rw [other _ _ _ _ (by omega), hc, other _ _ _ _ (by omega), other _ _ _ _ (by omega)]
      exact World.cell?_setCell_same _ _ _ c0
    | 1, _ =>
      rw [other _ _ _ _ (by omega), hc, other _ _ _ _ (by omega)]
      exact World.cell?_setCell_same _ _ _ ((other _ _ _ _ (by omega)).trans c1)
    | 2, _ =>
      rw [other _ _ _ _ (by omega), hc]
      exact World.cell?_setCell_same _ _ _ ((other _ _ _ _ (by omega)).trans ((other _ _ _ _ (by omega)).trans c2))
    | 3, _ =>
      exact World.cell?_setCell_same _ _ _ ((hc _).trans ((other _ _ _ _ (by omega)).trans ((other _ _ _ _ (by omega)).trans ((other _ _ _ _ (by omega)).trans c3))))
  · rw [other _ _ _ _ (by omega), hc, other _ _ _ _ (by omega), other _ _ _ _ (by omega), other _ _ _ _ (by omega)]
  · rw [World.frozen?_setCell, hf]
def sibL (k n : Nat) : List Sib := (List.range n).map (sibM k)
theorem sibL_length (k n : Nat) : (sibL k n).length = n := by simp [sibL]
theorem sibL_get (k n i : Nat) (h : i < (sibL k n).length) : (sibL k n)[i] = sibM k i := by simp [sibL]
/-- what markSibS leaves -/
def MarkedS (w : World) (lo hi : Nat) (a : Option Addr) (k n : Nat) (e : Ending) (w' : World) : Prop :=
  e = .returned (.int .i64 ((k + 4 * n : Nat) : Int)) ∧ SOwnIn w' lo hi a (sibL k n) ∧ Within lo hi w w'
theorem Within.below' {lo hi : Nat} {a b c : World} (h : Within lo hi a b) (k : Below b.heap.size b c) : Within lo hi a c :=
  ⟨k.os.trans h.os, k.tape.trans h.tape, k.output.trans h.output, Nat.le_trans h.size k.size, fun i hi ho => (k.block i (Nat.lt_of_lt_of_le hi h.size)).trans (h.block i hi ho)⟩

theorem Within.mono {lo hi g : Nat} {a b : World} (h : Within g (g + 1) a b) (h1 : lo ≤ g) (h2 : g < hi) : Within lo hi a b :=
  ⟨h.os, h.tape, h.output, h.size, fun i hi ho => h.block i hi (by omega)⟩
/-- what markSet leaves -/
def MarkedSet (w : World) (lo mid hi : Nat) (a b : Option Addr) (k n m : Nat) (e : Ending) (w' : World) : Prop :=
  e = .returned (.int .i64 ((k + 2 * n + 4 * m : Nat) : Int)) ∧ OwnIn w' lo mid a (markL (k : Int) n) ∧ SOwnIn w' mid hi b (sibL (k + 2 * n) m) ∧ Within lo hi w w'
theorem Within.wide {lo hi lo' hi' : Nat} {a b : World} (h : Within lo' hi' a b) (h1 : lo ≤ lo') (h2 : hi' ≤ hi) : Within lo hi a b :=
  ⟨h.os, h.tape, h.output, h.size, fun i hi ho => h.block i hi (by omega)⟩
end Go.Proofs.Ytiphlffcgjdoaaa.Sb

namespace Go.Proofs.Ytiphlffcgjdoaaa.Sb
open Go.RowKit Go.Proofs.Ytiphlffcgjdoaaa.Mk Go.Proofs.Ytiphlffcgjdoaaa.Rw

end Go.Proofs.Ytiphlffcgjdoaaa.Sb

namespace Go.Proofs.Ytiphlffcgjdoaaa.Sb
open Go.Proofs.Ytiphlffcgjdoaaa.Mk

def lessB (a b : Int × Int) : Bool := decide (a.1 < b.1) || (decide (a.1 = b.1) && decide (a.2 < b.2))
def contB (d : ByteArray) (gone : Bool) : Bool := decide (d.size ≤ 16) && (!gone || decide (d.size = 0))
def sibOk (l : List (Int × Int)) (x : Sib) : Bool := hasB l x.1 && contB x.2.2 x.2.1
def Inc (s : List Sib) : Prop := ∀ k, k + 1 < s.length → lessB (s.getD k z0).1 (s.getD (k + 1) z0).1 = true
instance (s : List Sib) : Decidable (Inc s) := decidable_of_iff (∀ k, k < s.length - 1 → lessB (s.getD k z0).1 (s.getD (k + 1) z0).1 = true) ⟨fun h k hk => h k (by omega), fun h k hk => h k (by omega)⟩
def AllOk (l : List (Int × Int)) (s : List Sib) : Prop := ∀ x ∈ s, sibOk l x = true
def SetOk (l : List (Int × Int)) (s : List Sib) : Prop := rightB l = true ∧ s.length ≤ 8 ∧ AllOk l s ∧ Inc s
instance (l : List (Int × Int)) (s : List Sib) : Decidable (AllOk l s) := by unfold AllOk; infer_instance
instance (l : List (Int × Int)) (s : List Sib) : Decidable (SetOk l s) := by unfold SetOk; infer_instance
def setB (l : List (Int × Int)) (s : List Sib) : Bool := decide (SetOk l s)
theorem getD_eq (s : List Sib) (k : Nat) (h : k < s.length) : s.getD k z0 = s[k] := by simp [List.getD, h]
theorem setB_true {l : List (Int × Int)} {s : List Sib} (h : SetOk l s) : setB l s = true := decide_eq_true h
theorem setB_false {l : List (Int × Int)} {s : List Sib} (h : ¬ SetOk l s) : setB l s = false := decide_eq_false h
theorem not_right {l : List (Int × Int)} {s : List Sib} (h : rightB l = false) : setB l s = false := setB_false fun k => by rw [k.1] at h; cases h
theorem not_short {l : List (Int × Int)} {s : List Sib} (h : ¬ s.length ≤ 8) : setB l s = false := setB_false fun k => h k.2.1
theorem not_ok {l : List (Int × Int)} {s : List Sib} {k : Nat} (hk : k < s.length) (h : sibOk l s[k] = false) : setB l s = false :=
  setB_false fun q => by rw [q.2.2.1 s[k] (List.getElem_mem hk)] at h; cases h
theorem not_inc {l : List (Int × Int)} {s : List Sib} {k : Nat} (hk : k + 1 < s.length) (h : lessB (s[k]'(by omega)).1 s[k + 1].1 = false) : setB l s = false :=
  setB_false fun q => by
    have := q.2.2.2 k hk
    rw [getD_eq s k (by omega), getD_eq s (k + 1) hk] at this
    rw [this] at h; cases h
/-- the first k elements are as they should be -/
def UpTo (l : List (Int × Int)) (s : List Sib) (k : Nat) : Prop := (∀ x ∈ s.take k, sibOk l x = true) ∧ ∀ j, j + 1 < k → j + 1 < s.length → lessB (s.getD j z0).1 (s.getD (j + 1) z0).1 = true
theorem UpTo.zero (l : List (Int × Int)) (s : List Sib) : UpTo l s 0 := ⟨fun x hx => by simp at hx, fun j h => by omega⟩
theorem UpTo.one {l : List (Int × Int)} {s : List Sib} (h0 : 0 < s.length) (h : sibOk l s[0] = true) : UpTo l s 1 := by
  refine ⟨fun x hx => ?_, fun j h => by omega⟩
  rw [List.take_succ_eq_append_getElem h0] at hx
  simp at hx; rw [hx]; exact h
theorem UpTo.succ {l : List (Int × Int)} {s : List Sib} {k : Nat} (u : UpTo l s (k + 1)) (hk : k + 1 < s.length) (h : sibOk l s[k + 1] = true) (h2 : lessB (s[k]'(by omega)).1 s[k + 1].1 = true) : UpTo l s (k + 1 + 1) := by
  refine ⟨fun x hx => ?_, fun j hj hs => ?_⟩
  · rw [List.take_succ_eq_append_getElem hk] at hx
    rcases List.mem_append.1 hx with hx | hx
    · exact u.1 x hx
    · simp at hx; rw [hx]; exact h
  · by_cases e : j = k
    · subst e; rw [getD_eq s j (by omega), getD_eq s (j + 1) hk]; exact h2
    · exact u.2 j (by omega) hs
theorem UpTo.all {l : List (Int × Int)} {s : List Sib} {k : Nat} (u : UpTo l s k) (hk : s.length ≤ k) (hr : rightB l = true) (h8 : s.length ≤ 8) : setB l s = true :=
  setB_true ⟨hr, h8, fun x hx => u.1 x (by rw [List.take_of_length_le hk]; exact hx), fun j hj => u.2 j (by omega) hj⟩
theorem ok_has {l : List (Int × Int)} {x : Sib} (h : hasB l x.1 = false) : sibOk l x = false := by unfold sibOk; rw [h]; rfl
theorem ok_cont {l : List (Int × Int)} {x : Sib} (h : contB x.2.2 x.2.1 = false) : sibOk l x = false := by unfold sibOk; rw [h]; simp
theorem ok_yes {l : List (Int × Int)} {x : Sib} (h : hasB l x.1 = true) (h2 : contB x.2.2 x.2.1 = true) : sibOk l x = true := by unfold sibOk; rw [h, h2]; rfl
end Go.Proofs.Ytiphlffcgjdoaaa.Sb

namespace Go.Proofs.Ytiphlffcgjdoaaa.Sb
open Go.Proofs.Ytiphlffcgjdoaaa.Mk

theorem lessB_iff (a b : Int × Int) : lessB a b = true ↔ a.1 < b.1 ∨ (a.1 = b.1 ∧ a.2 < b.2) := by unfold lessB; simp
theorem less_trans {a b c : Int × Int} (h : lessB a b = true) (k : lessB b c = true) : lessB a c = true := by
  rw [lessB_iff] at *; omega
theorem less_irrefl (a : Int × Int) : lessB a a = false := by
  rw [← Bool.not_eq_true, lessB_iff]; omega
theorem less_total {a b : Int × Int} (h : lessB a b = false) (k : lessB b a = false) : a = b := by
  rw [← Bool.not_eq_true, lessB_iff] at h k
  apply Prod.ext <;> omega
theorem less_asymm {a b : Int × Int} (h : lessB a b = true) : lessB b a = false := by
  rw [← Bool.not_eq_true, lessB_iff]
  rw [lessB_iff] at h
  omega
theorem Inc.lt {s : List Sib} (h : Inc s) : ∀ (n q : Nat), q + n + 1 < s.length → lessB (s.getD q z0).1 (s.getD (q + n + 1) z0).1 = true
  | 0, q, hq => h q hq
  | n + 1, q, hq => less_trans (Inc.lt h n q (by omega)) (h (q + n + 1) (by omega))
theorem Inc.lt' {s : List Sib} (h : Inc s) {q r : Nat} (hq : q < r) (hr : r < s.length) : lessB (s.getD q z0).1 (s.getD r z0).1 = true := by
  have := h.lt (r - q - 1) q (by omega)
  rwa [show q + (r - q - 1) + 1 = r by omega] at this
theorem Inc.down {s : List Sib} (h : Inc s) {d : Int × Int} {k q : Nat} (hk : k < s.length) (hl : lessB (s.getD k z0).1 d = true) (hq : q ≤ k) : lessB (s.getD q z0).1 d = true := by
  rcases Nat.lt_or_ge q k with c | c
  · exact less_trans (h.lt' c hk) hl
  · rw [show q = k by omega]; exact hl
theorem Inc.up {s : List Sib} (h : Inc s) {d : Int × Int} {k q : Nat} (hl : lessB (s.getD k z0).1 d = false) (hq : k ≤ q) (hs : q < s.length) : lessB (s.getD q z0).1 d = false := by
  cases e : lessB (s.getD q z0).1 d
  · rfl
  · rw [h.down hs e hq] at hl; cases hl
/-- a list that does not decrease -/
def Mono (s : List Sib) : Prop := ∀ k, k + 1 < s.length → lessB (s.getD (k + 1) z0).1 (s.getD k z0).1 = false
theorem Inc.mono {s : List Sib} (h : Inc s) : Mono s := fun k hk => less_asymm (h k hk)
theorem le_trans {a b c : Int × Int} (h : lessB b a = false) (k : lessB c b = false) : lessB c a = false := by
  rw [← Bool.not_eq_true, lessB_iff] at *; omega
theorem le_lt {a b c : Int × Int} (h : lessB b a = false) (k : lessB b c = true) : lessB a c = true := by
  rw [← Bool.not_eq_true, lessB_iff] at h
  rw [lessB_iff] at *; omega
theorem Mono.le {s : List Sib} (h : Mono s) : ∀ (n q : Nat), q + n < s.length → lessB (s.getD (q + n) z0).1 (s.getD q z0).1 = false
  | 0, q, _ => less_irrefl _
  | n + 1, q, hq => le_trans (Mono.le h n q (by omega)) (h (q + n) (by omega))
theorem Mono.le' {s : List Sib} (h : Mono s) {q r : Nat} (hq : q ≤ r) (hr : r < s.length) : lessB (s.getD r z0).1 (s.getD q z0).1 = false := by
  have := h.le (r - q) q (by omega)
  rwa [show q + (r - q) = r by omega] at this
theorem Mono.down {s : List Sib} (h : Mono s) {d : Int × Int} {k q : Nat} (hk : k < s.length) (hl : lessB (s.getD k z0).1 d = true) (hq : q ≤ k) : lessB (s.getD q z0).1 d = true := le_lt (h.le' hq hk) hl
theorem Mono.up {s : List Sib} (h : Mono s) {d : Int × Int} {k q : Nat} (hl : lessB (s.getD k z0).1 d = false) (hq : k ≤ q) (hs : q < s.length) : lessB (s.getD q z0).1 d = false := le_trans hl (h.le' hq hs)
/-- how many Sibs stand ahead of a dot -/
def pos : List Sib → Int × Int → Nat
  | [], _ => 0
  | x :: r, d => if lessB x.1 d = true then pos r d + 1 else 0
theorem pos_le : ∀ (s : List Sib) (d : Int × Int), pos s d ≤ s.length
  | [], _ => Nat.le_refl _
  | x :: r, d => by
    unfold pos
    have := pos_le r d
    split <;> simp <;> omega
theorem pos_unique : ∀ (s : List Sib) (d : Int × Int) (i : Nat), i ≤ s.length → (∀ q, q < i → lessB (s.getD q z0).1 d = true) → (i < s.length → lessB (s.getD i z0).1 d = false) → pos s d = i
  | [], _, i, hi, _, _ => by simp at hi; subst hi; rfl
  | x :: r, d, 0, _, _, h2 => by
    have := h2 (by simp)
    unfold pos
    rw [if_neg]
    simpa using this
  | x :: r, d, i + 1, hi, h1, h2 => by
    unfold pos
    rw [if_pos (by simpa using h1 0 (by omega)), pos_unique r d i (by simpa using hi) (fun q hq => by simpa using h1 (q + 1) (by omega)) (fun hq => by simpa using h2 (by simpa using hq))]
theorem pos_less : ∀ (s : List Sib) (d : Int × Int) (q : Nat), q < pos s d → lessB (s.getD q z0).1 d = true
  | [], _, q, h => by unfold pos at h; omega
  | x :: r, d, q, h => by
    unfold pos at h
    by_cases e : lessB x.1 d = true
    · rw [if_pos e] at h
      cases q with
      | zero => simpa using e
      | succ q => simpa using pos_less r d q (by omega)
    · rw [if_neg e] at h; omega
theorem pos_not : ∀ (s : List Sib) (d : Int × Int), pos s d < s.length → lessB (s.getD (pos s d) z0).1 d = false
  | [], _, h => by simp at h
  | x :: r, d, h => by
    by_cases e : lessB x.1 d = true
    · have e2 : pos (x :: r) d = pos r d + 1 := by show (if lessB x.1 d = true then pos r d + 1 else 0) = _; rw [if_pos e]
      rw [e2] at h ⊢
      simpa using pos_not r d (by simpa using h)
    · have e2 : pos (x :: r) d = 0 := by show (if lessB x.1 d = true then pos r d + 1 else 0) = _; rw [if_neg e]
      rw [e2]; simpa using e
/-- a Sib bears the dot -/
def hasDot (s : List Sib) (d : Int × Int) : Bool := s.any fun y => decide (y.1 = d)
theorem hasDot_iff (s : List Sib) (d : Int × Int) : hasDot s d = true ↔ ∃ q, q < s.length ∧ (s.getD q z0).1 = d := by
  unfold hasDot
  rw [List.any_eq_true]
  constructor
  · rintro ⟨y, hy, he⟩
    obtain ⟨q, hq, rfl⟩ := List.getElem_of_mem hy
    exact ⟨q, hq, by rw [getD_eq s q hq]; simpa using he⟩
  · rintro ⟨q, hq, he⟩
    rw [getD_eq s q hq] at he
    exact ⟨s[q], List.getElem_mem hq, by simpa using he⟩
theorem pos_has {s : List Sib} (h : Inc s) (d : Int × Int) : hasDot s d = true ↔ pos s d < s.length ∧ (s.getD (pos s d) z0).1 = d := by
  rw [hasDot_iff]
  constructor
  · rintro ⟨q, hq, he⟩
    have hn : lessB (s.getD q z0).1 d = false := by rw [he]; exact less_irrefl _
    have : pos s d = q := pos_unique s d q (by omega) (fun r hr => by
      have := h.lt' hr hq
      rwa [he] at this) (fun _ => hn)
    rw [this]; exact ⟨hq, he⟩
  · rintro ⟨h1, h2⟩
    exact ⟨_, h1, h2⟩
theorem mono_has {s : List Sib} (h : Mono s) (d : Int × Int) : hasDot s d = true ↔ pos s d < s.length ∧ (s.getD (pos s d) z0).1 = d := by
  rw [hasDot_iff]
  constructor
  · rintro ⟨q, hq, he⟩
    have hpq : pos s d ≤ q := by
      rcases Nat.lt_or_ge q (pos s d) with c | c
      · have := pos_less s d q c
        rw [he, less_irrefl] at this; cases this
      · exact c
    have hlt : pos s d < s.length := by omega
    refine ⟨hlt, ?_⟩
    have h1 := h.le' hpq hq
    rw [he] at h1
    exact (less_total h1 (pos_not s d hlt)).symm
  · rintro ⟨h1, h2⟩
    exact ⟨_, h1, h2⟩
/-- SetHas -/
def setHas (l : List (Int × Int)) (s : List Sib) (d : Int × Int) : Bool := setB l s && hasDot s d
theorem setB_incs {l : List (Int × Int)} {s : List Sib} (h : setB l s = true) : Inc s := (of_decide_eq_true h : SetOk l s).2.2.2
/-- the first place of a dot, or -1 -/
def atI : List Sib → Int × Int → Int
  | [], _ => -1
  | x :: r, d => if x.1 = d then 0 else if atI r d = -1 then -1 else atI r d + 1
theorem atI_ge : ∀ (s : List Sib) (d : Int × Int), -1 ≤ atI s d ∧ atI s d < s.length
  | [], _ => by simp [atI]
  | x :: r, d => by
    have := atI_ge r d
    unfold atI
    split
    · simp <;> omega
    · split <;> simp <;> omega
theorem atI_has : ∀ (s : List Sib) (d : Int × Int), hasDot s d = decide (0 ≤ atI s d)
  | [], _ => by simp [hasDot, atI]
  | x :: r, d => by
    have ih := atI_has r d
    have := atI_ge r d
    unfold hasDot at ih ⊢
    unfold atI
    rw [List.any_cons, ih]
    by_cases e : x.1 = d
    · simp [e]
    · simp only [e, decide_false, Bool.false_or, if_false]
      by_cases e2 : atI r d = -1
      · simp [e2]
      · rw [if_neg e2, decide_eq_true (by omega), decide_eq_true (by omega)]
/-- no Sib among the first k bears the dot -/
theorem atI_skip {s : List Sib} {d : Int × Int} : ∀ (k : Nat), k ≤ s.length → (∀ q, q < k → ¬ (s.getD q z0).1 = d) → (atI (s.drop k) d = -1 ∧ atI s d = -1) ∨ (0 ≤ atI (s.drop k) d ∧ atI s d = atI (s.drop k) d + k)
  | 0, _, _ => by
    have := atI_ge s d
    rw [List.drop_zero]
    rcases Int.lt_or_le (atI s d) 0 with c | c
    · left; constructor <;> omega
    · right; exact ⟨c, by simp⟩
  | k + 1, hk, h => by
    have hlt : k < s.length := by omega
    have ih := atI_skip k (by omega) (fun q hq => h q (by omega))
    have hn := h k (by omega)
    rw [getD_eq s k hlt] at hn
    have hg := atI_ge (s.drop (k + 1)) d
    have e : s.drop k = s[k] :: s.drop (k + 1) := List.drop_eq_getElem_cons hlt
    rw [e] at ih
    have e2 : atI (s[k] :: s.drop (k + 1)) d = if atI (s.drop (k + 1)) d = -1 then -1 else atI (s.drop (k + 1)) d + 1 := by
      show (if s[k].1 = d then (0 : Int) else if atI (s.drop (k + 1)) d = -1 then -1 else atI (s.drop (k + 1)) d + 1) = _
      rw [if_neg hn]
    rw [e2] at ih
    by_cases c : atI (s.drop (k + 1)) d = -1
    · rw [if_pos c] at ih
      rcases ih with ⟨_, i2⟩ | ⟨i1, _⟩
      · exact .inl ⟨c, i2⟩
      · omega
    · rw [if_neg c] at ih
      rcases ih with ⟨i1, _⟩ | ⟨i1, i2⟩
      · omega
      · right; exact ⟨by omega, by rw [i2]; simp; omega⟩
theorem atI_at {s : List Sib} {d : Int × Int} {k : Nat} (hk : k < s.length) (h : ∀ q, q < k → ¬ (s.getD q z0).1 = d) (e : s[k].1 = d) : atI s d = k := by
  have := atI_skip k (by omega) h
  rw [List.drop_eq_getElem_cons hk] at this
  have e2 : atI (s[k] :: s.drop (k + 1)) d = 0 := by show (if s[k].1 = d then (0 : Int) else _) = 0; rw [if_pos e]
  rw [e2] at this
  omega
theorem atI_none {s : List Sib} {d : Int × Int} (h : ∀ q, q < s.length → ¬ (s.getD q z0).1 = d) : atI s d = -1 := by
  have := atI_skip s.length (Nat.le_refl _) h
  rw [List.drop_length] at this
  rcases this with ⟨_, h2⟩ | ⟨h1, _⟩
  · exact h2
  · have : atI [] d = -1 := rfl
    omega
end Go.Proofs.Ytiphlffcgjdoaaa.Sb
