/- Siblings in memory: a Sib takes four cells (node, number, gone, data); rows of Sibs; a new row of them; one appended. No condition. -/
import Derived.Test.YtiaoifodaoifjaaDoorRow
import Derived.Test.YtiaoifodaoifjaaDoorMark
set_option linter.unusedSimpArgs false
set_option linter.unusedVariables false
namespace Go.Proofs.YtiaoifodaoifjaaDoor.Sb
open Go.RowKit Go.Proofs.YtiaoifodaoifjaaDoor.Mk Go.Proofs.YtiaoifodaoifjaaDoor.Rw

/-- a Sib: its dot, whether it is gone, its data -/
abbrev Sib := (Int × Int) × Bool × ByteArray
def sv (x : Sib) : Value := .agg #[.int .i64 x.1.1, .int .i64 x.1.2, .bool x.2.1, .string x.2.2]
def senc (x : Sib) : Nat → Value
  | 0 => .int .i64 x.1.1
  | 1 => .int .i64 x.1.2
  | 2 => .bool x.2.1
  | _ => .string x.2.2
def z0 : Sib := ((0, 0), false, ByteArray.empty)
abbrev SibsAt := RowAt 4 senc
abbrev SOwn := ROwn 4 senc
abbrev SOwnIn := ROwnIn 4 senc
theorem SibsAt.mono {w w' : World} {a : Option Addr} {l : List Sib} (h : SibsAt w a l) (hb : Below w.heap.size w w') : SibsAt w' a l := RowAt.mono (by decide) h hb
theorem SibsAt.cells {w : World} {a : Option Addr} {l : List Sib} (h : SibsAt w a l) {i : Nat} (hi : i < l.length) :
    ∃ g off, a = some ⟨g, off, none⟩ ∧ g < w.heap.size ∧ w.cell? ⟨g, off + i * 4, none⟩ = some (.int .i64 l[i].1.1) ∧ w.cell? ⟨g, off + i * 4 + 1, none⟩ = some (.int .i64 l[i].1.2) ∧
      w.cell? ⟨g, off + i * 4 + 2, none⟩ = some (.bool l[i].2.1) ∧ w.cell? ⟨g, off + i * 4 + 3, none⟩ = some (.string l[i].2.2) := by
  obtain ⟨g, off, ha, hg, hc⟩ := RowAt.cells (by decide) h hi
  exact ⟨g, off, ha, hg, hc 0 (by decide), hc 1 (by decide), hc 2 (by decide), hc 3 (by decide)⟩
theorem SOwn.cells {w : World} {g : Nat} {l : List Sib} (h : SOwn w g l) {i : Nat} (hi : i < l.length) :
    w.cell? ⟨g, i * 4, none⟩ = some (.int .i64 l[i].1.1) ∧ w.cell? ⟨g, i * 4 + 1, none⟩ = some (.int .i64 l[i].1.2) ∧
      w.cell? ⟨g, i * 4 + 2, none⟩ = some (.bool l[i].2.1) ∧ w.cell? ⟨g, i * 4 + 3, none⟩ = some (.string l[i].2.2) :=
  ⟨h.cell i hi 0 (by decide), h.cell i hi 1 (by decide), h.cell i hi 2 (by decide), h.cell i hi 3 (by decide)⟩
theorem SOwn.set {w : World} {g : Nat} {l : List Sib} (h : SOwn w g l) (i : Nat) (hi : i < l.length) (x : Sib) :
    SOwn ((((w.setCell ⟨g, i * 4, none⟩ (.int .i64 x.1.1)).setCell ⟨g, i * 4 + 1, none⟩ (.int .i64 x.1.2)).setCell ⟨g, i * 4 + 2, none⟩ (.bool x.2.1)).setCell ⟨g, i * 4 + 3, none⟩ (.string x.2.2)) g (l.set i x) := by
  obtain ⟨⟨c0, c1, c2, c3⟩, ho, hf⟩ := set4 (w := w) (g := g) (o := i * 4) (.int .i64 x.1.1) (.int .i64 x.1.2) (.bool x.2.1) (.string x.2.2) (fun j hj => ⟨_, h.cell i hi j hj⟩)
  refine h.put i x (fun j hj => ?_) ho hf
  match j, hj with
  | 0, _ => exact c0
  | 1, _ => exact c1
  | 2, _ => exact c2
  | 3, _ => exact c3
def zs4 : Array Value := #[.int .i64 0, .int .i64 0, .bool false, .string ByteArray.empty]
/-- what a call that makes a slice of Sibs leaves -/
def SGives (w : World) (l : List Sib) (e : Ending) (w' : World) : Prop :=
  ∃ a cap, e = .returned (.slice a l.length cap) ∧ SOwnIn w' w.heap.size w'.heap.size a l ∧ Below w.heap.size w w'
end Go.Proofs.YtiaoifodaoifjaaDoor.Sb
