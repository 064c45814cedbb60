/- Facts of a source over worlds, free of types. -/
import Derived.Test.YteibkoaepgdmlaaDoorSource
import Derived.Test.YteibkoaepgdmlaaDoorFrame
import Derived.Deep.RegionHeld3
set_option linter.unusedSimpArgs false
set_option linter.unusedVariables false
namespace Go.Proofs.YteibkoaepgdmlaaDoor.Mk
open Go.RowKit Dr

theorem wpAnyH_mono {P : Program} {md : Region.Mode} {ops : Array Oper} {Q : Exit → Act → World → Prop} {S S' : World → Prop} (h : ∀ w, S' w → S w) :
    ∀ (fuel : Nat) (listed : Array Bool) (a : Act) (w : World), wpAnyH P md ops Q S' fuel listed a w → wpAnyH P md ops Q S fuel listed a w
  | 0, _, _, _, hh => hh
  | fuel + 1, _, _, _, hh => ⟨hh.1, fun i hi => wpOp_mono (fun a' w' h' => ⟨h _ h'.1, wpAnyH_mono h fuel _ a' w' h'.2⟩) (hh.2 i hi)⟩
theorem within_grown {w w' : World} {g : Nat} (h : w.grownBy w' (some g)) : Within g (g + 1) w w' :=
  ⟨h.os, h.tape, h.output, h.size, fun k hk ho => h.block k hk (fun e => by injection e with e; omega)⟩
theorem Within.onto {lo hi : Nat} {w0 w w' : World} (h : Within lo hi w0 w) (hb : Below w.heap.size w w') : Within lo hi w0 w' :=
  h.trans ⟨hb.os, hb.tape, hb.output, hb.size, fun k hk _ => hb.block k hk⟩
/-- a block that was not there at first has turned -/
theorem Within.new {lo hi lo' hi' : Nat} {w0 w w' : World} (h : Within lo hi w0 w) (hw : Within lo' hi' w w') (hl : w0.heap.size ≤ lo') : Within lo hi w0 w' :=
  ⟨hw.os.trans h.os, hw.tape.trans h.tape, hw.output.trans h.output, Nat.le_trans h.size hw.size, fun k hk ho => (hw.block k (Nat.lt_of_lt_of_le hk h.size) (by omega)).trans (h.block k hk ho)⟩
theorem hasSrc_same {w w' : World} {B g : Nat} (h : HasSrc w B g) (hs : ∀ k, k < w.heap.size → k < B ∨ k = g → w'.heap[k]? = w.heap[k]?) : HasSrc w' B g := by
  obtain ⟨a, len, cap, at_, mix, sz, S⟩ := h
  have hg : g < w.heap.size := by simpa using World.block_lt_of_cell? w _ S.c0
  have e := hs g hg (.inr rfl)
  refine ⟨a, len, cap, at_, mix, sz, ⟨(World.cell?_of_block (a := ⟨g, 0, none⟩) e).trans S.c0, (World.cell?_of_block (a := ⟨g, 1, none⟩) e).trans S.c1, (World.cell?_of_block (a := ⟨g, 2, none⟩) e).trans S.c2, (World.cell?_of_block (a := ⟨g, 3, none⟩) e).trans S.c3,
    fun j => (World.frozen?_of_block (a := ⟨g, j, none⟩) e).trans (S.free j), S.hat, S.hlen, S.hmix, S.hB, ?_⟩⟩
  rcases S.row with h0 | ⟨b, off, ha, hb, hc⟩
  · exact .inl h0
  · exact .inr ⟨b, off, ha, hb, fun i hi => by
      obtain ⟨z, hz, hcell⟩ := hc i hi
      have hbl := World.block_lt_of_cell? w _ hcell
      exact ⟨z, hz, (World.cell?_of_block (a := ⟨b, off + i, none⟩) (hs b hbl (.inl hb))).trans hcell⟩⟩
theorem hasSrc_below {w w' : World} {B g : Nat} (h : HasSrc w B g) (hb : Below w.heap.size w w') : HasSrc w' B g := hasSrc_same h fun k hk _ => hb.block k hk
theorem hasSrc_within {w w' : World} {B g lo hi : Nat} (h : HasSrc w B g) (hw : Within lo hi w w') (h1 : g < lo ∨ hi ≤ g) (h2 : B ≤ lo) : HasSrc w' B g := hasSrc_same h fun k hk ho => hw.block k hk (by omega)
end Go.Proofs.YteibkoaepgdmlaaDoor.Mk
namespace Go.Proofs.YteibkoaepgdmlaaDoor.Dr
theorem HasSrc.below {w w' : World} {B g : Nat} (h : HasSrc w B g) (hb : RowKit.Below w.heap.size w w') : HasSrc w' B g := Mk.hasSrc_below h hb
theorem HasSrc.within {w w' : World} {B g lo hi : Nat} (h : HasSrc w B g) (hw : Mk.Within lo hi w w') (h1 : g < lo ∨ hi ≤ g) (h2 : B ≤ lo) : HasSrc w' B g := Mk.hasSrc_within h hw h1 h2
end Go.Proofs.YteibkoaepgdmlaaDoor.Dr
namespace Go.Proofs.YteibkoaepgdmlaaDoor.Mk
open Go.RowKit Dr
theorem bw {w0 w w' : World} {lo hi : Nat} (h : Below w0.heap.size w0 w) (hw : Within lo hi w w') (hl : w0.heap.size ≤ lo) : Below w0.heap.size w0 w' := h.trans (hw.below hl h.size)
theorem own_src {w w' : World} {lo g : Nat} {a : Option Addr} {l : List (Int × Int)} (h : OwnIn w lo w.heap.size a l) (hw : Within g (g + 1) w w') (hg : g < lo) : OwnIn w' lo w'.heap.size a l :=
  (h.same (hw.same (Nat.le_refl _) (Or.inr (by omega)))).wide (Nat.le_refl _) hw.size
/-- a code that came in -/
def Code (w : World) (a : Option Addr) (len : Nat) : Prop := len ≤ 1048576 ∧ Bytes8 w w.heap.size a len
end Go.Proofs.YteibkoaepgdmlaaDoor.Mk
