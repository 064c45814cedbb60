/- Parts of a law: MsgMath, MsgBytesMath, SetOut2, CopyRow, TextRead, SetReadMath, SealMath. Conditions: on sizes, as each says. -/
import Derived.Test.YtiaoifodaoifjaaGreatZ1
import Derived.Test.YtiaoifodaoifjaaGreatZ5
import Derived.Test.YtiaoifodaoifjaaGreatZ2
import Derived.Test.YtiaoifodaoifjaaGreatZ6
import Derived.Test.YtiaoifodaoifjaaGreatZ3
import Derived.Test.YtiaoifodaoifjaaGreatZ7
import Derived.Laws.OwnMore
import Derived.Deep.AppendLies
import Derived.Lib.SliceRun
import Derived.Deep.RegionHeld3
import Derived.Deep.RegionWith
import Derived.RegionTactic
import Derived.StillTailTactics
import Derived.Test.YtiaoifodaoifjaaGreatZ9
import Derived.Test.YtiaoifodaoifjaaGreatZ10
set_option linter.unusedSimpArgs false
set_option linter.unusedVariables false
namespace Go.Proofs.YtiaoifodaoifjaaGreat.Sb
open Go.Proofs.YtiaoifodaoifjaaGreat.Mk
def hdB (fr tq rq : Int) (ky : ByteArray) (ow : Int) : Bool := nodeB fr && nodeB tq && nodeB ow && decide (0 ≤ rq) && decide (rq ≤ 1000000) && Nm.nameB ky
def kindB (kd rq : Int) (l : List (Int × Int)) (s : List Sib) : Bool :=
  if kd = 1 then decide (0 < rq) && (decide (l.length = 0) && decide (s.length = 0)) else if kd = 2 then decide (0 < rq) && setB l s
  else if kd = 3 then setB l s && decide (0 < l.length) else if kd = 4 then decide (s.length = 0) && (rightB l && decide (0 < l.length)) else false
def msgB (kd fr tq rq : Int) (ky : ByteArray) (ow : Int) (l : List (Int × Int)) (s : List Sib) : Bool := hdB fr tq rq ky ow && kindB kd rq l s
theorem setB_nil (l : List (Int × Int)) : setB l [] = rightB l := by
  cases h : rightB l
  · exact not_right h
  · exact setB_true ⟨h, by simp, fun x hx => (by cases hx), fun k hk => (by simp at hk)⟩
theorem setB_right {l : List (Int × Int)} {s : List Sib} (h : setB l s = true) : rightB l = true := (of_decide_eq_true h).1
theorem setB_none {s : List Sib} (h : setB [] s = true) : s = [] := by
  match s with
  | [] => rfl
  | x :: r =>
    have h1 := (of_decide_eq_true h).2.2.1 x (by simp)
    unfold sibOk hasB at h1
    simp only [Bool.and_eq_true, decide_eq_true_eq] at h1
    obtain ⟨⟨⟨_, h2⟩, h3⟩, _⟩ := h1
    unfold dotB at h2
    simp only [Bool.and_eq_true, decide_eq_true_eq] at h2
    have : ofL [] x.1.1 = 0 := rfl
    omega
theorem nodeB_is (n : Int) : isB n 1 5 = nodeB n := rfl
theorem kind_ill {kd rq : Int} {l : List (Int × Int)} {s : List Sib} (h : setB l s = false) : kindB kd rq l s = false := by
  unfold kindB
  split
  · cases hl : decide (l.length = 0)
    · simp
    · cases hs : decide (s.length = 0)
      · simp
      · have e1 : l = [] := List.length_eq_zero_iff.1 (of_decide_eq_true hl)
        have e2 : s = [] := List.length_eq_zero_iff.1 (of_decide_eq_true hs)
        subst e1 e2
        rw [setB_nil] at h; cases h
  · split
    · rw [h]; simp
    · split
      · rw [h]; simp
      · split
        · cases hs : decide (s.length = 0)
          · simp
          · have e2 : s = [] := List.length_eq_zero_iff.1 (of_decide_eq_true hs)
            subst e2
            rw [setB_nil] at h; rw [h]; simp
        · rfl
theorem kind_no {kd rq : Int} {l : List (Int × Int)} {s : List Sib} (h : isB kd 1 4 = false) : kindB kd rq l s = false := by
  unfold isB at h
  have : ¬ (1 ≤ kd ∧ kd ≤ 4) := by
    intro ⟨h1, h2⟩; rw [decide_eq_true h1, decide_eq_true h2] at h; cases h
  unfold kindB
  rw [if_neg (by omega), if_neg (by omega), if_neg (by omega), if_neg (by omega)]
theorem kind_1 {kd rq : Int} {l : List (Int × Int)} {s : List Sib} (hk : kd = 1) (h : setB l s = true) : kindB kd rq l s = (decide (0 < rq) && decide (l.length = 0)) := by
  unfold kindB
  rw [if_pos hk]
  by_cases hl : l.length = 0
  · have e1 : l = [] := List.length_eq_zero_iff.1 hl
    subst e1
    rw [setB_none h]; simp
  · simp [hl]
theorem kind_2 {kd rq : Int} {l : List (Int × Int)} {s : List Sib} (hk : kd = 2) (h : setB l s = true) : kindB kd rq l s = decide (0 < rq) := by
  unfold kindB; subst hk; rw [h]; simp
theorem kind_3 {kd rq : Int} {l : List (Int × Int)} {s : List Sib} (hk : kd = 3) (h : setB l s = true) : kindB kd rq l s = decide (0 < l.length) := by
  unfold kindB; subst hk; rw [h]; simp
theorem kind_4 {kd rq : Int} {l : List (Int × Int)} {s : List Sib} (hk : kd = 4) (h : setB l s = true) : kindB kd rq l s = (decide (0 < l.length) && decide (s.length = 0)) := by
  unfold kindB; subst hk; rw [setB_right h]; simp [Bool.and_comm]
theorem isB_four {kd : Int} (h : isB kd 1 4 = true) : kd = 1 ∨ kd = 2 ∨ kd = 3 ∨ kd = 4 := by
  unfold isB at h
  simp only [Bool.and_eq_true, decide_eq_true_eq] at h
  omega
open Go.Proofs.YtiaoifodaoifjaaGreat.Mk
def msgBody (kd fr tq rq : Int) (ky : ByteArray) (ow : Int) (l : List (Int × Int)) (s : List Sib) : ByteArray :=
  Nu.numS kd ++ Nu.numS fr ++ Nu.numS tq ++ Nu.numS rq ++ Nu.putText ky ++ Nu.numS ow ++ setBytes l s
def msgBytes (kd fr tq rq : Int) (ky : ByteArray) (ow : Int) (l : List (Int × Int)) (s : List Sib) : ByteArray := if msgB kd fr tq rq ky ow l s = true then Se.sealed (msgBody kd fr tq rq ky ow l s) else ⟨#[]⟩
theorem name_size {ky : ByteArray} (h : Nm.nameB ky = true) : 1 ≤ ky.size ∧ ky.size ≤ 20 := by
  unfold Nm.nameB at h
  simp only [Bool.and_eq_true, decide_eq_true_eq] at h
  exact h.1
structure MsgOk (kd fr tq rq : Int) (ky : ByteArray) (ow : Int) (l : List (Int × Int)) (s : List Sib) : Prop where
  kd1 : 1 ≤ kd
  kd2 : kd ≤ 4
  fr1 : 1 ≤ fr
  fr2 : fr ≤ 5
  tq1 : 1 ≤ tq
  tq2 : tq ≤ 5
  ow1 : 1 ≤ ow
  ow2 : ow ≤ 5
  rq1 : 0 ≤ rq
  rq2 : rq ≤ 1000000
  ky : Nm.nameB ky = true
  set : setB l s = true
theorem msgB_ok {kd fr tq rq : Int} {ky : ByteArray} {ow : Int} {l : List (Int × Int)} {s : List Sib} (h : msgB kd fr tq rq ky ow l s = true) : MsgOk kd fr tq rq ky ow l s := by
  have hk : isB kd 1 4 = true := by
    cases hc : isB kd 1 4
    · unfold msgB at h; rw [kind_no hc] at h; simp at h
    · rfl
  have hs : setB l s = true := by
    cases hc : setB l s
    · unfold msgB at h; rw [kind_ill hc] at h; simp at h
    · rfl
  unfold isB at hk
  unfold msgB hdB nodeB at h
  simp only [Bool.and_eq_true, decide_eq_true_eq] at h hk
  obtain ⟨⟨⟨⟨⟨⟨⟨a1, a2⟩, a3, a4⟩, a5, a6⟩, a7⟩, a8⟩, a9⟩, -⟩ := h
  exact ⟨hk.1, hk.2, a1, a2, a3, a4, a5, a6, a7, a8, a9, hs⟩
theorem putText_name {ky : ByteArray} (h : ky.size ≤ 20) : (Nu.putText ky).size ≤ 30 := by
  rw [Nu.putText_short ky (by omega), ByteArray.size_append]
  have := Nu.numS_size ky.size (by omega)
  omega
theorem setBytes_size {l : List (Int × Int)} {s : List Sib} (h : setB l s = true) : (setBytes l s).size ≤ 600 := by
  rw [setBytes_yes h]
  have : (ByteArray.mk (setBB l s).toArray).size = (setBB l s).length := by simp [ByteArray.size]
  rw [this]; exact setBB_len h
structure Sizes (kd fr tq rq : Int) (ky : ByteArray) (ow : Int) (l : List (Int × Int)) (s : List Sib) : Prop where
  kd : (Nu.numS kd).size ≤ 10
  fr : (Nu.numS fr).size ≤ 10
  tq : (Nu.numS tq).size ≤ 10
  rq : (Nu.numS rq).size ≤ 10
  ow : (Nu.numS ow).size ≤ 10
  ky : (Nu.putText ky).size ≤ 30
  st : (setBytes l s).size ≤ 600
theorem MsgOk.sizes {kd fr tq rq : Int} {ky : ByteArray} {ow : Int} {l : List (Int × Int)} {s : List Sib} (h : MsgOk kd fr tq rq ky ow l s) : Sizes kd fr tq rq ky ow l s := by
  obtain ⟨a1, a2, a3, a4, a5, a6, a7, a8, a9, a10, a11, a12⟩ := h
  exact ⟨Nu.numS_size_of _ (by omega), Nu.numS_size_of _ (by omega), Nu.numS_size_of _ (by omega), Nu.numS_size_of _ (by omega), Nu.numS_size_of _ (by omega), putText_name (name_size a11).2, setBytes_size a12⟩
open Go.RowKit Go.Proofs.YtiaoifodaoifjaaGreat.Mk Go.Proofs.YtiaoifodaoifjaaGreat.Rw
def GivesSO (w : World) (l : List (Int × Int)) (s : List Sib) (x y c : Int) (e : Ending) (w' : World) : Prop :=
  ∃ a cap b cap' lo1 hi1 lo2 hi2, e = .returned (.agg #[.slice a l.length cap, .slice b s.length cap', .int .i64 x, .int .i64 y, .int .i64 c]) ∧ OwnIn w' lo1 hi1 a l ∧ SOwnIn w' lo2 hi2 b s ∧ w.heap.size ≤ lo1 ∧ w.heap.size ≤ lo2 ∧ hi1 ≤ w'.heap.size ∧ hi2 ≤ w'.heap.size ∧ (hi1 ≤ lo2 ∨ hi2 ≤ lo1) ∧ Head b s.length cap' ∧ Below w.heap.size w w'
theorem givesSO_no {w w' : World} (c : Int) (hb : Below w.heap.size w w') : GivesSO w [] [] 0 0 c (.returned (.agg #[.slice none 0 0, .slice none 0 0, .int .i64 0, .int .i64 0, .int .i64 c])) w' :=
  ⟨none, 0, none, 0, w.heap.size, w.heap.size, w.heap.size, w.heap.size, rfl, .inl rfl, .inl rfl, Nat.le_refl _, Nat.le_refl _, hb.size, hb.size, .inl (Nat.le_refl _), .inl ⟨rfl, rfl, rfl⟩, hb⟩
open Go.RowKit Go.Proofs.YtiaoifodaoifjaaGreat.Mk Go.Proofs.YtiaoifodaoifjaaGreat.Rw
theorem run_append_no (base : Nat) {w : World} (t ty e : TypeId) (i : TypeInfo) (size : Nat) (ht : Tryz.prog.underlying t = some (.slice e)) (hi : Tryz.prog.info? e = some i)
    (v : Value) (n : Nat) (xs : List Value) (c : Nat) (hown : w.ownsRow base e size v n xs) :
    (Builtin.append_ #[t, t] ty #[v, .slice none 0 c]).run Tryz.prog w = .ok v w := by
  rcases hown.2 with ⟨rfl, rfl⟩ | ⟨g, cap, cur, rfl, _, _, hnc, _⟩
  · simp [Builtin.append_, run_underlying ht, sizeOf, typeInfo, hi, Builtin.lenOf, Builtin.firstCells]
  · simp [Builtin.append_, run_underlying ht, sizeOf, typeInfo, hi, Builtin.lenOf, Builtin.firstCells, hnc, storeCells]
structure Copied (ok : World → Nat → Prop) (empty : Prop) (w w' : World) (g0 : Nat) (a : Option Addr) : Prop where
  row : empty ∨ ∃ g, a = some ⟨g, 0, none⟩ ∧ (g = g0 ∨ g = w.heap.size) ∧ g < w'.heap.size ∧ ok w' g
  grown : w.grownBy w' (some g0)
theorem kept_cells {w w' : World} {g0 g : Nat} {vs : List Value} (h : Cells w g vs) (hg : w.grownBy w' (some g0)) (hn : g ≠ g0) : Cells w' g vs :=
  h.same (hg.block g h.lt (fun e => hn (by simpa using e))) hg.size
theorem kept_base {W w w' : World} {g0 : Nat} (h : Base W w) (hg : w.grownBy w' (some g0)) (hn : W.heap.size ≤ g0) : Base W w' :=
  Below.trans h ((Below.refl W.heap.size w).grown hg (Below.size h) (fun k hk => by simp at hk; omega))
theorem flat_oneM {l : List (Int × Int)} : ∀ u ∈ flat l, u.oneCell' = true := by
  intro u hu
  unfold flat at hu
  obtain ⟨x, _, hx⟩ := List.mem_flatMap.1 hu
  simp at hx
  rcases hx with rfl | rfl <;> rfl
theorem row_flatM {w : World} {g off : Nat} {l : List (Int × Int)} (h : MarksAt w (some ⟨g, off, none⟩) l) : ∀ j u, (flat l)[j]? = some u → w.cell? ((⟨g, off, none⟩ : Addr).add j) = some u := by
  intro j u hu
  have e : (⟨g, off, none⟩ : Addr).add j = ⟨g, off + j, none⟩ := by unfold Addr.add; split <;> simp_all
  rw [e]
  have hj : j < l.length * 2 := by
    have := (List.getElem?_eq_some_iff.1 hu).1
    rwa [flat_length] at this
  have hi : j / 2 < l.length := by omega
  obtain ⟨g0, g1⟩ := flat_get l (j / 2) hi
  rcases h with rfl | ⟨g2, off2, ha, hc⟩
  · cases hi
  · obtain ⟨rfl, rfl⟩ : g = g2 ∧ off = off2 := by simpa using ha
    obtain ⟨k0, k1⟩ := hc (j / 2) hi
    have hm : j % 2 = 0 ∨ j % 2 = 1 := by omega
    rcases hm with c | c
    · rw [show j / 2 * 2 = j by omega] at g0 k0
      rw [g0] at hu; rw [k0]; exact hu
    · rw [show j / 2 * 2 + 1 = j by omega] at g1
      rw [show off + j / 2 * 2 + 1 = off + j by omega] at k1
      rw [g1] at hu; rw [k1]; exact hu
theorem at_someM {w : World} {ad : Addr} {l : List (Int × Int)} (h : MarksAt w (some ad) l) (hn : l ≠ []) : ∃ g off, ad = ⟨g, off, none⟩ := by
  rcases h with h | ⟨g, off, ha, _⟩
  · exact absurd h hn
  · exact ⟨g, off, by simpa using ha⟩
theorem copyM_wp {w : World} {o : Oper} {a : Act} {K : Act → World → Prop} {Q : Exit → Act → World → Prop} (s x : Operand)
    (ho : o.op = .call { callee := .builtin .append, args := #[s, x], argTypes := #[23, 23] }) (g0 : Nat) (hs : a.eval s = .slice (some ⟨g0, 0, none⟩) 0 0) (hown : w.ownsRow g0 63 2 (.slice (some ⟨g0, 0, none⟩) 0 0) 0 [])
    (ao : Option Addr) (cap : Nat) (l : List (Int × Int)) (hx : a.eval x = .slice ao l.length cap) (hrow : MarksAt w ao l) (hl : l.length ≤ 1000000)
    (h : ∀ a' cap' w', Copied (fun W g => Own W g l) (l = []) w w' g0 a' → K (a.put o.dst (.slice a' l.length cap')) w') : o.wp Tryz.prog a w K Q := by
  obtain ⟨i0, hi, hz0, hz1, hz2⟩ := info_parts infoM
  have hB : g0 < w.heap.size := (hown.lt g0 rfl).2
  have hrefl : w.grownBy w (some g0) := ⟨rfl, rfl, rfl, Nat.le_refl _, fun _ _ _ => rfl⟩
  rcases ao with _ | ad
  · have hl0 : l = [] := by
      rcases hrow with h | ⟨_, _, h, _⟩
      · exact h
      · cases h
    subst hl0
    have hrun := run_append_no g0 23 o.type 63 i0 2 Tryz.underlying23 hi _ _ _ cap hown
    unfold Oper.wp
    have hx' : a.eval x = .slice none 0 cap := hx
    simp [execOp, ho, resolve, invoke, builtin, hs, hx', hrun, Result.andThen]
    exact h (some ⟨g0, 0, none⟩) 0 w ⟨.inl rfl, hrefl⟩
  · by_cases hl0 : l = []
    · subst hl0
      refine wp_append_own w s x 23 ho g0 63 i0 _ 2 16 Tryz.underlying23 hi hz0 hz1 hz2 rfl (by decide) _ 0 [] hs hown ad 0 cap [] hx rfl (fun j u hu => by simp at hu) (fun u hu => by cases hu) (by unfold maxLen; omega) (by omega) (by omega) (fun v' w' h1 h2 _ => ?_)
      obtain ⟨a', cap', rfl, _⟩ := Mk.own_row (l := ([] : List (Int × Int))) (show w'.ownsRow g0 63 2 v' 0 (flat []) from h1)
      exact h a' cap' w' ⟨.inl rfl, h2⟩
    · obtain ⟨g, off, rfl⟩ := at_someM hrow hl0
      have hpos : 0 < l.length := by cases l with
        | nil => exact absurd rfl hl0
        | cons _ _ => simp
      refine wp_append_lies w s x 23 ho g0 63 i0 _ 2 16 Tryz.underlying23 hi hz0 hz1 hz2 rfl (by decide) _ 0 [] hs hown ⟨g, off, none⟩ l.length cap (flat l) hx (by rw [flat_length]) (row_flatM hrow) flat_oneM hpos (by unfold maxLen; omega) (by omega) (by omega) w.heap.size rfl (fun g1 c1 w' h1 h2 h3 h4 => ?_)
      rw [Nat.zero_add] at h1 ⊢
      obtain ⟨a', cap', he, hown'⟩ := Mk.own_row (show w'.ownsRow g0 63 2 _ l.length (flat l) from h1)
      obtain ⟨rfl, -, rfl⟩ : some (⟨g1, 0, none⟩ : Addr) = a' ∧ True ∧ c1 = cap' := by simpa using he
      refine h _ c1 w' ⟨.inr ⟨g1, rfl, ?_, h4, ?_⟩, h2⟩
      · rcases h3 with h3 | h3
        · exact .inl (by simpa [Value.ownBlock] using h3.symm)
        · exact .inr h3
      · rcases hown' with h' | ⟨g2, h5, _, _, h6⟩
        · exact absurd h' hl0
        · obtain rfl : g1 = g2 := by simpa using h5
          exact h6
theorem litM (w : World) : (w.alloc (.cells #[] 63)).ownsRow w.heap.size 63 2 (.slice (some ⟨w.heap.size, 0, none⟩) 0 0) 0 [] :=
  World.ownsRow_made w #[] 0 (Nat.le_refl _) (Nat.zero_le _) rfl
theorem at_keptM {w w' : World} {B g0 : Nat} {a : Option Addr} {l : List (Int × Int)} (h : Copied (fun W g => Own W g l) (l = []) w w' g0 a) (hB : B ≤ g0) (hz : B ≤ w.heap.size) : OwnIn w' B w'.heap.size a l := by
  rcases h.row with h0 | ⟨g, ha, hg, hlt, ho⟩
  · exact .inl h0
  · exact .inr ⟨g, ha, by omega, hlt, ho⟩
set_option maxRecDepth 100000 in
set_option maxHeartbeats 400000 in
theorem cloneM (ao : Option Addr) (cap : Nat) (l : List (Int × Int)) (w : World) (hl : l.length ≤ 1000000) (h : MarksAt w ao l) :
    Calls Tryz.prog 98 #[.slice ao l.length cap] w (Gives w l) := by
  have H := jj h
  clear h
  rcases ao with _ | ad
  · have hl0 : l = [] := by
      rcases H.out with h | ⟨_, _, h, _⟩
      · exact h
      · cases h
    subst hl0
    have q : ∀ (w : World) (a : Option Addr) (n c n' c' : Nat), (binOp .eql 23 (.slice a n c) (.slice none n' c')).run Tryz.prog w = .ok (.bool a.isNone) w := fun w a n c n' c' => Lib.run_eql_slice_nil w _ _ a n c n' c' Tryz.underlying23
    go_enter Tryz.func98, Tryz.ntmps98
    go_wp2
    go_ret
    exact ⟨none, 0, rfl, .inl rfl, Below.refl _ _⟩
  · have q : ∀ (w : World) (a : Option Addr) (n c n' c' : Nat), (binOp .eql 23 (.slice a n c) (.slice none n' c')).run Tryz.prog w = .ok (.bool a.isNone) w := fun w a n c n' c' => Lib.run_eql_slice_nil w _ _ a n c n' c' Tryz.underlying23
    go_enter Tryz.func98, Tryz.ntmps98
    go_wp2_with (at_builtin; refine wpList_plain rfl fun K hK => ?_; refine copyM_wp _ _ rfl w.heap.size rfl (litM w) (some ad) cap l rfl (H.out.mono (step_alloc w _)) hl ?_; intro a' cap' w' hc; refine hK _ _ ?_)
    go_ret
    exact ⟨a', cap', rfl, at_keptM hc (Nat.le_refl _) (by simp), kept_base (show Base w _ from step_alloc w _) hc.grown (Nat.le_refl _)⟩
theorem at_someS {w : World} {ad : Addr} {l : List Sib} (h : SibsAt w (some ad) l) (hn : l ≠ []) : ∃ g off, ad = ⟨g, off, none⟩ := by
  rcases h with h | ⟨g, off, ha, _⟩
  · exact absurd h hn
  · exact ⟨g, off, by simpa using ha⟩
theorem copyS_wp {w : World} {o : Oper} {a : Act} {K : Act → World → Prop} {Q : Exit → Act → World → Prop} (s x : Operand)
    (ho : o.op = .call { callee := .builtin .append, args := #[s, x], argTypes := #[24, 24] }) (g0 : Nat) (hs : a.eval s = .slice (some ⟨g0, 0, none⟩) 0 0) (hown : w.ownsRow g0 94 4 (.slice (some ⟨g0, 0, none⟩) 0 0) 0 [])
    (ao : Option Addr) (cap : Nat) (l : List Sib) (hx : a.eval x = .slice ao l.length cap) (hrow : SibsAt w ao l) (hl : l.length ≤ 1000000)
    (h : ∀ a' cap' w', Copied (fun W g => SOwn W g l) (l = []) w w' g0 a' → K (a.put o.dst (.slice a' l.length cap')) w') : o.wp Tryz.prog a w K Q := by
  obtain ⟨i0, hi, hz0, hz1, hz2⟩ := info_parts infoS
  have hB : g0 < w.heap.size := (hown.lt g0 rfl).2
  have hrefl : w.grownBy w (some g0) := ⟨rfl, rfl, rfl, Nat.le_refl _, fun _ _ _ => rfl⟩
  rcases ao with _ | ad
  · have hl0 : l = [] := by
      rcases hrow with h | ⟨_, _, h, _⟩
      · exact h
      · cases h
    subst hl0
    have hrun := run_append_no g0 24 o.type 94 i0 4 Tryz.underlying24 hi _ _ _ cap hown
    unfold Oper.wp
    have hx' : a.eval x = .slice none 0 cap := hx
    simp [execOp, ho, resolve, invoke, builtin, hs, hx', hrun, Result.andThen]
    exact h (some ⟨g0, 0, none⟩) 0 w ⟨.inl rfl, hrefl⟩
  · by_cases hl0 : l = []
    · subst hl0
      refine wp_append_own w s x 24 ho g0 94 i0 _ 4 40 Tryz.underlying24 hi hz0 hz1 hz2 rfl (by decide) _ 0 [] hs hown ad 0 cap [] hx rfl (fun j u hu => by simp at hu) (fun u hu => by cases hu) (by unfold maxLen; omega) (by omega) (by omega) (fun v' w' h1 h2 _ => ?_)
      obtain ⟨a', cap', rfl, _⟩ := Rw.own_row (by decide) (l := ([] : List Sib)) (show w'.ownsRow g0 94 4 v' 0 (flatE 4 senc []) from h1)
      exact h a' cap' w' ⟨.inl rfl, h2⟩
    · obtain ⟨g, off, rfl⟩ := at_someS hrow hl0
      have hpos : 0 < l.length := by cases l with
        | nil => exact absurd rfl hl0
        | cons _ _ => simp
      refine wp_append_lies w s x 24 ho g0 94 i0 _ 4 40 Tryz.underlying24 hi hz0 hz1 hz2 rfl (by decide) _ 0 [] hs hown ⟨g, off, none⟩ l.length cap (flatE 4 senc l) hx (by rw [flatE_length]) (row_flat (by decide) hrow) flat_one hpos (by unfold maxLen; omega) (by omega) (by omega) w.heap.size rfl (fun g1 c1 w' h1 h2 h3 h4 => ?_)
      rw [Nat.zero_add] at h1 ⊢
      obtain ⟨a', cap', he, hown'⟩ := Rw.own_row (by decide) (show w'.ownsRow g0 94 4 _ l.length (flatE 4 senc l) from h1)
      obtain ⟨rfl, -, rfl⟩ : some (⟨g1, 0, none⟩ : Addr) = a' ∧ True ∧ c1 = cap' := by simpa using he
      refine h _ c1 w' ⟨.inr ⟨g1, rfl, ?_, h4, ?_⟩, h2⟩
      · rcases h3 with h3 | h3
        · exact .inl (by simpa [Value.ownBlock] using h3.symm)
        · exact .inr h3
      · rcases hown' with h' | ⟨g2, h5, _, _, h6⟩
        · exact absurd h' hl0
        · obtain rfl : g1 = g2 := by simpa using h5
          exact h6
theorem litS (w : World) : (w.alloc (.cells #[] 94)).ownsRow w.heap.size 94 4 (.slice (some ⟨w.heap.size, 0, none⟩) 0 0) 0 [] :=
  World.ownsRow_made w #[] 0 (Nat.le_refl _) (Nat.zero_le _) rfl
theorem at_keptS {w w' : World} {B g0 : Nat} {a : Option Addr} {l : List Sib} (h : Copied (fun W g => SOwn W g l) (l = []) w w' g0 a) (hB : B ≤ g0) (hz : B ≤ w.heap.size) : SOwnIn w' B w'.heap.size a l := by
  rcases h.row with h0 | ⟨g, ha, hg, hlt, ho⟩
  · exact .inl h0
  · exact .inr ⟨g, ha, by omega, hlt, ho⟩
set_option maxRecDepth 100000 in
set_option maxHeartbeats 400000 in
theorem cloneS (ao : Option Addr) (cap : Nat) (l : List Sib) (w : World) (hl : l.length ≤ 1000000) (h : SibsAt w ao l) :
    Calls Tryz.prog 99 #[.slice ao l.length cap] w (SGives w l) := by
  have H := jj h
  clear h
  rcases ao with _ | ad
  · have hl0 : l = [] := by
      rcases H.out with h | ⟨_, _, h, _⟩
      · exact h
      · cases h
    subst hl0
    have q : ∀ (w : World) (a : Option Addr) (n c n' c' : Nat), (binOp .eql 24 (.slice a n c) (.slice none n' c')).run Tryz.prog w = .ok (.bool a.isNone) w := fun w a n c n' c' => Lib.run_eql_slice_nil w _ _ a n c n' c' Tryz.underlying24
    go_enter Tryz.func99, Tryz.ntmps99
    go_wp2
    go_ret
    exact ⟨none, 0, rfl, .inl rfl, Below.refl _ _⟩
  · have q : ∀ (w : World) (a : Option Addr) (n c n' c' : Nat), (binOp .eql 24 (.slice a n c) (.slice none n' c')).run Tryz.prog w = .ok (.bool a.isNone) w := fun w a n c n' c' => Lib.run_eql_slice_nil w _ _ a n c n' c' Tryz.underlying24
    go_enter Tryz.func99, Tryz.ntmps99
    go_wp2_with (at_builtin; refine wpList_plain rfl fun K hK => ?_; refine copyS_wp _ _ rfl w.heap.size rfl (litS w) (some ad) cap l rfl (H.out.mono (step_alloc w _)) hl ?_; intro a' cap' w' hc; refine hK _ _ ?_)
    go_ret
    exact ⟨a', cap', rfl, at_keptS hc (Nat.le_refl _) (by simp), kept_base (show Base w _ from step_alloc w _) hc.grown (Nat.le_refl _)⟩
end Go.Proofs.YtiaoifodaoifjaaGreat.Sb
namespace Go.Proofs.YtiaoifodaoifjaaGreat.Ge
open Go.RowKit
def cutT (s : ByteArray) (R : Int × Int × Int) : ByteArray × Int × Int :=
  if R.2.2 ≠ 0 then (⟨#[]⟩, 0, R.2.2) else if R.1 < 0 ∨ 8000 < R.1 then (⟨#[]⟩, 0, 3)
  else if (s.size : Int) - R.1 < R.2.1 then (⟨#[]⟩, 0, 4) else (s.extract R.2.1.toNat (R.2.1 + R.1).toNat, R.2.1 + R.1, 0)
theorem cut_bad (s : ByteArray) (a b c : Int) (h : c ≠ 0) : cutT s (a, b, c) = (⟨#[]⟩, 0, c) := if_pos h
theorem cut_range (s : ByteArray) (a b : Int) (h : a < 0 ∨ 8000 < a) : cutT s (a, b, 0) = (⟨#[]⟩, 0, 3) := by
  unfold cutT; rw [if_neg (by simp), if_pos h]
theorem cut_short (s : ByteArray) (k m : Nat) (h : k ≤ 8000) (h2 : s.size < m + k) : cutT s ((k : Int), (m : Int), 0) = (⟨#[]⟩, 0, 4) := by
  unfold cutT; rw [if_neg (by simp), if_neg (by simp; omega), if_pos (by simp; omega)]
theorem cut_ok (s : ByteArray) (k m : Nat) (h : k ≤ 8000) (h2 : m + k ≤ s.size) : cutT s ((k : Int), (m : Int), 0) = (s.extract m (m + k), (m : Int) + (k : Int), 0) := by
  unfold cutT
  rw [if_neg (by simp), if_neg (by simp; omega), if_neg (by simp; omega)]
  simp only
  rw [show ((m : Int) + (k : Int)).toNat = m + k by omega, Int.toNat_natCast]
theorem G_at (s : ByteArray) (a : Nat) : ∀ k i u, 10 - i = k → (G s a i u).2.2 = 0 → ∃ m : Nat, (G s a i u).2.1 = (m : Int) ∧ m ≤ s.size := by
  intro k
  induction k with
  | zero => intro i u h hz; rw [G_end (by omega)] at hz; simp at hz
  | succ k ih =>
    intro i u h hz
    have hi : i < 10 := by omega
    by_cases h1 : s.size ≤ a + i
    · rw [G_short hi h1] at hz; simp at hz
    by_cases h2 : i = 9 ∧ 1 < byteN s (a + i)
    · rw [G_ten hi h1 h2] at hz; simp at hz
    by_cases h3 : byteN s (a + i) < 128
    · by_cases h4 : byteN s (a + i) = 0 ∧ 0 < i
      · rw [G_zero hi h1 h2 h3 h4] at hz; simp at hz
      · rw [G_last hi h1 h2 h3 h4]
        exact ⟨a + i + 1, rfl, by omega⟩
    · rw [G_more hi h1 h2 h3] at hz ⊢
      exact ih _ _ (by omega) hz
theorem readN_at (s : ByteArray) (a : Int) (h : (readN s a).2.2 = 0) : ∃ m : Nat, (readN s a).2.1 = (m : Int) ∧ m ≤ s.size := by
  unfold readN at h ⊢
  split at h
  · simp at h
  · rw [if_neg (by assumption)]; exact G_at s _ _ 0 0 rfl h
def ttup (T : ByteArray × Int × Int) : Value := .tuple #[.string T.1, .int .i64 T.2.1, errV T.2.2]
def tout (T : ByteArray × Int × Int) : Value := .agg #[.string T.1, .int .i64 T.2.1, .int .i64 T.2.2]
theorem ttup_bad (c : Int) (h : c ≠ 0) : Value.tuple #[.string ⟨#[]⟩, .int .i64 0, .iface 138 (.agg #[.int .i64 c])] = ttup (⟨#[]⟩, 0, c) := by
  unfold ttup errV; rw [if_neg h]
set_option maxRecDepth 100000 in
set_option maxHeartbeats 2000000 in
theorem impl_readText (s : ByteArray) (hs : s.size ≤ maxLen) (h8 : s.size ≤ 100000) (a : Int) (w : World) :
    Calls Tryz.prog 57 #[.string s, .int .i64 a] w fun e w' => e = .returned (ttup (cutT s (readN s a))) ∧ Below w.heap.size w w' := by
  have hK := fun W => impl_readNum s hs a W
  have hat := readN_at s a
  generalize readN s a = R at hK hat ⊢
  obtain ⟨r1, r2, r3⟩ := R
  unfold tup at hK
  simp only at hK hat
  by_cases h3 : r3 = 0
  · subst h3
    obtain ⟨m, rfl, hm⟩ := hat rfl
    unfold errV at hK
    simp only [if_true] at hK
    have HK := jj hK
    clear hK hat
    by_cases hr : r1 < 0 ∨ 8000 < r1
    · have HX := jj (cut_range s r1 m hr)
      rcases hr with hr | hr
      all_goals
        go_enter Tryz.func57, Tryz.ntmps57
        go_wp2_with fail
        refine (HK.out _).mono ?_
        rintro e w1 ⟨rfl, rfl⟩
        go_wp2
        go_ret3
        exact ⟨ret_val (by rw [HX.out]; exact ttup_bad 3 (by decide)), Below.refl _ _⟩
    · obtain ⟨k, rfl⟩ : ∃ k : Nat, r1 = k := ⟨r1.toNat, by omega⟩
      have hk8 : k ≤ 8000 := by omega
      have d1 : decide ((k : Int) < 0) = false := by simp
      have d2 : decide (8000 < (k : Int)) = false := by simp; omega
      clear hr
      by_cases hsh : s.size < m + k
      · have HX := jj (cut_short s k m hk8 hsh)
        have t1 : (s.size : Int) - (m : Int) < (k : Int) := by omega
        go_enter Tryz.func57, Tryz.ntmps57
        go_wp2_with fail
        refine (HK.out _).mono ?_
        rintro e w1 ⟨rfl, rfl⟩
        go_wp2
        go_ret3
        exact ⟨ret_val (by rw [HX.out]; exact ttup_bad 4 (by decide)), Below.refl _ _⟩
      · have HX := jj (cut_ok s k m hk8 (by omega))
        have t1 : (k : Int) ≤ (s.size : Int) - (m : Int) := by omega
        have t2 : ((m : Int) + (k : Int)).toNat = m + k := by omega
        have hxs : (s.extract m (m + k)).size ≤ 1000000 := by simp; omega
        have hJ := fun W => Nu.joined_one (s.extract m (m + k)) W hxs
        have HJ := jj hJ
        clear hJ hxs
        go_enter Tryz.func57, Tryz.ntmps57
        go_wp2_with fail
        refine (HK.out _).mono ?_
        rintro e w1 ⟨rfl, rfl⟩
        go_wp2_with fail
        refine (HJ.out _).mono ?_
        rintro e w2 ⟨rfl, hb2⟩
        go_wp2
        go_ret3
        exact ⟨ret_val (by rw [HX.out]; rfl), hb2⟩
  · unfold errV at hK
    simp only [if_neg h3] at hK
    have HK := jj hK
    have HX := jj (cut_bad s r1 r2 r3 h3)
    clear hK hat
    go_enter Tryz.func57, Tryz.ntmps57
    go_wp2_with fail
    refine (HK.out _).mono ?_
    rintro e w1 ⟨rfl, rfl⟩
    go_wp2
    all_goals go_ret3
    all_goals exact ⟨ret_val (by rw [HX.out]; exact ttup_bad r3 h3), Below.refl _ _⟩
theorem getN_at (s : ByteArray) (a : Int) (h : (getN s a).2.2 = 0) : ∃ m : Nat, (getN s a).2.1 = (m : Int) ∧ m ≤ s.size := by
  unfold getN at h ⊢
  split at h
  · simp at h
  · rw [if_neg (by assumption)]; exact readN_at s a h
end Go.Proofs.YtiaoifodaoifjaaGreat.Ge
namespace Go.Proofs.YtiaoifodaoifjaaGreat.Sb
open Go.Proofs.YtiaoifodaoifjaaGreat.Mk Go.Proofs.YtiaoifodaoifjaaGreat.Nu Go.Proofs.YtiaoifodaoifjaaGreat.Ge Go.Proofs.YtiaoifodaoifjaaGreat.Pn
def sibAt (s : ByteArray) (a : Int) : Option (Sib × Int) :=
  if (readN s a).2.2 = 0 ∧ (readN s (readN s a).2.1).2.2 = 0 ∧ (readN s (readN s (readN s a).2.1).2.1).2.2 = 0 ∧
    ((readN s (readN s (readN s a).2.1).2.1).1 = 0 ∨ (readN s (readN s (readN s a).2.1).2.1).1 = 1) ∧ (cutT s (readN s (readN s (readN s (readN s a).2.1).2.1).2.1)).2.2 = 0 then
    some ((((readN s a).1, (readN s (readN s a).2.1).1), decide ((readN s (readN s (readN s a).2.1).2.1).1 = 1), (cutT s (readN s (readN s (readN s (readN s a).2.1).2.1).2.1)).1),
      (cutT s (readN s (readN s (readN s (readN s a).2.1).2.1).2.1)).2.1)
  else none
section
variable {s : ByteArray} {a x a1 y a2 z a3 : Int} {d : ByteArray} {a4 : Int}
theorem sibAt_yes (h1 : readN s a = (x, a1, 0)) (h2 : readN s a1 = (y, a2, 0)) (h3 : readN s a2 = (z, a3, 0)) (hz : z = 0 ∨ z = 1) (h4 : cutT s (readN s a3) = (d, a4, 0)) :
    sibAt s a = some (((x, y), decide (z = 1), d), a4) := by
  unfold sibAt; rw [h1]; simp only; rw [h2]; simp only; rw [h3]; simp only; rw [h4]; simp [hz]
theorem sibAt_1 (h1 : (readN s a).2.2 ≠ 0) : sibAt s a = none := if_neg fun c => h1 c.1
theorem sibAt_2 (h1 : readN s a = (x, a1, 0)) (h2 : (readN s a1).2.2 ≠ 0) : sibAt s a = none := if_neg fun c => by rw [h1] at c; exact h2 c.2.1
theorem sibAt_3 (h1 : readN s a = (x, a1, 0)) (h2 : readN s a1 = (y, a2, 0)) (h3 : (readN s a2).2.2 ≠ 0) : sibAt s a = none := if_neg fun c => by
  rw [h1] at c; simp only at c; rw [h2] at c; exact h3 c.2.2.1
theorem sibAt_z (h1 : readN s a = (x, a1, 0)) (h2 : readN s a1 = (y, a2, 0)) (h3 : readN s a2 = (z, a3, 0)) (hz : ¬ (z = 0 ∨ z = 1)) : sibAt s a = none := if_neg fun c => by
  rw [h1] at c; simp only at c; rw [h2] at c; simp only at c; rw [h3] at c; exact hz c.2.2.2.1
theorem sibAt_4 (h1 : readN s a = (x, a1, 0)) (h2 : readN s a1 = (y, a2, 0)) (h3 : readN s a2 = (z, a3, 0)) (h4 : (cutT s (readN s a3)).2.2 ≠ 0) : sibAt s a = none := if_neg fun c => by
  rw [h1] at c; simp only at c; rw [h2] at c; simp only at c; rw [h3] at c; exact h4 c.2.2.2.2
end
theorem readN_cases (s : ByteArray) (a : Int) : (readN s a).2.2 ≠ 0 ∨ ∃ x b, readN s a = (x, b, 0) := by
  by_cases h : (readN s a).2.2 = 0
  · exact .inr ⟨_, _, by rw [← h]⟩
  · exact .inl h
theorem cutT_cases (s : ByteArray) (R : Int × Int × Int) : (cutT s R).2.2 ≠ 0 ∨ ∃ x b, cutT s R = (x, b, 0) := by
  by_cases h : (cutT s R).2.2 = 0
  · exact .inr ⟨_, _, by rw [← h]⟩
  · exact .inl h
theorem sibAt_inv {s : ByteArray} {a : Int} {X : Sib} {e : Int} (h : sibAt s a = some (X, e)) :
    ∃ x a1 y a2 z a3 d, readN s a = (x, a1, 0) ∧ readN s a1 = (y, a2, 0) ∧ readN s a2 = (z, a3, 0) ∧ (z = 0 ∨ z = 1) ∧ cutT s (readN s a3) = (d, e, 0) ∧ X = ((x, y), decide (z = 1), d) := by
  rcases readN_cases s a with h1 | ⟨x, a1, h1⟩
  · rw [sibAt_1 h1] at h; cases h
  rcases readN_cases s a1 with h2 | ⟨y, a2, h2⟩
  · rw [sibAt_2 h1 h2] at h; cases h
  rcases readN_cases s a2 with h3 | ⟨z, a3, h3⟩
  · rw [sibAt_3 h1 h2 h3] at h; cases h
  by_cases hz : z = 0 ∨ z = 1
  · rcases cutT_cases s (readN s a3) with h4 | ⟨d, a4, h4⟩
    · rw [sibAt_4 h1 h2 h3 h4] at h; cases h
    · rw [sibAt_yes h1 h2 h3 hz h4] at h
      simp only [Option.some.injEq, Prod.mk.injEq] at h
      obtain ⟨rfl, rfl⟩ := h
      exact ⟨x, a1, y, a2, z, a3, d, h1, h2, h3, hz, h4, rfl⟩
  · rw [sibAt_z h1 h2 h3 hz] at h; cases h
def sibsAt (s : ByteArray) : Nat → Int → Option (List Sib × Int)
  | 0, a => some ([], a)
  | k + 1, a => (sibAt s a).bind fun p => (sibsAt s k p.2).map fun q => (p.1 :: q.1, q.2)
def addS (l : List Sib) (o : Option (List Sib × Int)) : Option (List Sib × Int) := o.map fun p => (l ++ p.1, p.2)
theorem addS_nil (o : Option (List Sib × Int)) : addS [] o = o := by cases o <;> rfl
theorem sibsAt_step {s : ByteArray} {k : Nat} {a b : Int} {x : Sib} (h : sibAt s a = some (x, b)) (l : List Sib) : addS l (sibsAt s (k + 1) a) = addS (l ++ [x]) (sibsAt s k b) := by
  show addS l ((sibAt s a).bind _) = _
  rw [h]
  simp only [Option.bind_some]
  cases sibsAt s k b <;> simp [addS]
theorem sibsAt_bad {s : ByteArray} {k : Nat} {a : Int} (h : sibAt s a = none) (l : List Sib) : addS l (sibsAt s (k + 1) a) = none := by
  show addS l ((sibAt s a).bind _) = _
  rw [h]; rfl
def parseS (s : ByteArray) (a : Int) : Option (List Sib × Int) :=
  if (readN s a).2.2 = 0 ∧ 0 ≤ (readN s a).1 ∧ (readN s a).1 ≤ 8 then sibsAt s (readN s a).1.toNat (readN s a).2.1 else none
theorem parseS_bad {s : ByteArray} {a : Int} (h : (readN s a).2.2 ≠ 0) : parseS s a = none := if_neg fun c => h c.1
theorem parseS_range {s : ByteArray} {a c a1 : Int} (h : readN s a = (c, a1, 0)) (hc : ¬ (0 ≤ c ∧ c ≤ 8)) : parseS s a = none := by unfold parseS; rw [h]; exact if_neg fun d => hc d.2
theorem parseS_go {s : ByteArray} {a a1 : Int} {n : Nat} (h : readN s a = ((n : Int), a1, 0)) (hn : n ≤ 8) : parseS s a = sibsAt s n a1 := by
  unfold parseS; rw [h]; simp only; rw [if_pos ⟨trivial, by omega, by omega⟩]; simp
def setAt (s : ByteArray) (a : Int) : Option ((List (Int × Int) × List Sib) × Int) :=
  (seenAt s a).bind fun p => ((parseS s p.2).filter fun q => setB p.1 q.1).map fun q => ((p.1, q.1), q.2)
section
variable {s : ByteArray} {a : Int} {l : List (Int × Int)} {b : Int} {ss : List Sib} {e : Int}
theorem setAt_none (h : seenAt s a = none) : setAt s a = none := by unfold setAt; rw [h]; rfl
theorem setAt_sibs (h : seenAt s a = some (l, b)) (h2 : parseS s b = none) : setAt s a = none := by unfold setAt; rw [h]; simp [h2]
theorem setAt_wrong (h : seenAt s a = some (l, b)) (h2 : parseS s b = some (ss, e)) (h3 : setB l ss = false) : setAt s a = none := by unfold setAt; rw [h]; simp [h2, Option.filter, h3]
theorem setAt_yes (h : seenAt s a = some (l, b)) (h2 : parseS s b = some (ss, e)) (h3 : setB l ss = true) : setAt s a = some ((l, ss), e) := by unfold setAt; rw [h]; simp [h2, Option.filter, h3]
theorem setAt_inv (h : setAt s a = some ((l, ss), e)) : ∃ b, seenAt s a = some (l, b) ∧ parseS s b = some (ss, e) ∧ setB l ss = true := by
  cases h1 : seenAt s a with
  | none => rw [setAt_none h1] at h; cases h
  | some p =>
    obtain ⟨l', b⟩ := p
    cases h2 : parseS s b with
    | none => rw [setAt_sibs h1 h2] at h; cases h
    | some q =>
      obtain ⟨s', e'⟩ := q
      cases h3 : setB l' s'
      · rw [setAt_wrong h1 h2 h3] at h; cases h
      · rw [setAt_yes h1 h2 h3] at h
        simp only [Option.some.injEq, Prod.mk.injEq] at h
        obtain ⟨⟨rfl, rfl⟩, rfl⟩ := h
        exact ⟨b, rfl, h2, h3⟩
end
def srL (s : ByteArray) : List (Int × Int) := if 8000 < s.size then [] else match setAt s 0 with | some p => if p.2 = (s.size : Int) then p.1.1 else [] | none => []
def srS (s : ByteArray) : List Sib := if 8000 < s.size then [] else match setAt s 0 with | some p => if p.2 = (s.size : Int) then p.1.2 else [] | none => []
def srC (s : ByteArray) : Int := if 8000 < s.size then 2 else match setAt s 0 with | some p => if p.2 = (s.size : Int) then 0 else 3 | none => 3
section
variable {s : ByteArray} {l : List (Int × Int)} {ss : List Sib} {e : Int}
theorem sr_size (h : 8000 < s.size) : srL s = [] ∧ srS s = [] ∧ srC s = 2 := ⟨if_pos h, if_pos h, if_pos h⟩
theorem sr_none (h8 : ¬ 8000 < s.size) (h : setAt s 0 = none) : srL s = [] ∧ srS s = [] ∧ srC s = 3 := by
  unfold srL srS srC; rw [if_neg h8, if_neg h8, if_neg h8, h]; exact ⟨rfl, rfl, rfl⟩
theorem sr_more (h8 : ¬ 8000 < s.size) (h : setAt s 0 = some ((l, ss), e)) (he : e ≠ (s.size : Int)) : srL s = [] ∧ srS s = [] ∧ srC s = 3 := by
  unfold srL srS srC; rw [if_neg h8, if_neg h8, if_neg h8, h]; exact ⟨if_neg he, if_neg he, if_neg he⟩
theorem sr_yes (h8 : ¬ 8000 < s.size) (h : setAt s 0 = some ((l, ss), e)) (he : e = (s.size : Int)) : srL s = l ∧ srS s = ss ∧ srC s = 0 := by
  unfold srL srS srC; rw [if_neg h8, if_neg h8, if_neg h8, h]; exact ⟨if_pos he, if_pos he, if_pos he⟩
theorem sr_no (h8 : ¬ 8000 < s.size) (h : ∀ l ss, setAt s 0 ≠ some ((l, ss), (s.size : Int))) : srL s = [] ∧ srS s = [] ∧ srC s = 3 := by
  cases h1 : setAt s 0 with
  | none => exact sr_none h8 h1
  | some p =>
    obtain ⟨⟨l, ss⟩, e⟩ := p
    exact sr_more h8 h1 (fun he => h l ss (by rw [h1, he]))
theorem sr_len : (srL s).length ≤ 5 ∧ (srS s).length ≤ 8 := by
  by_cases h8 : 8000 < s.size
  · obtain ⟨h1, h2, _⟩ := sr_size h8; rw [h1, h2]; simp
  cases h : setAt s 0 with
  | none => obtain ⟨h1, h2, _⟩ := sr_none h8 h; rw [h1, h2]; simp
  | some p =>
    obtain ⟨⟨l, ss⟩, e⟩ := p
    by_cases he : e = (s.size : Int)
    · obtain ⟨h1, h2, _⟩ := sr_yes h8 h he
      obtain ⟨_, _, _, h3⟩ := setAt_inv h
      rw [h1, h2]
      exact ⟨right_len (setOk_of h3).1, (setOk_of h3).2.1⟩
    · obtain ⟨h1, h2, _⟩ := sr_more h8 h he; rw [h1, h2]; simp
end
-- the bytes of a Sib
theorem goneI_range (g : Bool) : goneI g = 0 ∨ goneI g = 1 := by cases g <;> simp [goneI]
theorem goneI_dec (g : Bool) : decide (goneI g = 1) = g := by cases g <;> simp [goneI]
theorem goneI_of {z : Int} (h : z = 0 ∨ z = 1) : goneI (decide (z = 1)) = z := by rcases h with rfl | rfl <;> simp [goneI]
theorem sibB_short {x : Sib} (h : x.2.2.size ≤ 8000) : sibB x = markB x.1 ++ (enc (fold (goneI x.2.1)) ++ (enc (fold x.2.2.size) ++ x.2.2.data.toList)) := by
  unfold sibB sibS
  rw [putText_short _ (by omega), ByteArray.data_append, ByteArray.data_append, ByteArray.data_append, Array.toList_append, Array.toList_append, Array.toList_append, markS_data]
  simp [numS]
theorem extract_at {s : ByteArray} {k : Nat} {l : List UInt8} (h : Pn.At s k l) : s.extract k (k + l.length) = ⟨l.toArray⟩ := by
  apply ByteArray.ext
  apply Array.ext
  · rw [ByteArray.data_extract, Array.size_extract]
    have := h.1
    have e : s.data.size = s.size := rfl
    simp; omega
  · intro i h1 h2
    have h3 : i < l.length := by simpa using h2
    have h4 := h.2 i h3
    have h5 : k + i < s.size := by have := h.1; omega
    rw [byteN_eq s _ h5] at h4
    have h6 : s[k + i] = l[i] := UInt8.toNat_inj.1 h4
    simp only [ByteArray.data_extract, Array.getElem_extract]
    simp only [List.getElem_toArray]
    exact h6
theorem at_extract {s : ByteArray} {k n : Nat} (h : k + n ≤ s.size) : Pn.At s k (s.extract k (k + n)).data.toList := by
  have hl : (s.extract k (k + n)).data.toList.length = n := by
    rw [ByteArray.data_extract, Array.length_toList, Array.size_extract]
    have e : s.data.size = s.size := rfl
    omega
  refine ⟨by rw [hl]; exact h, fun j hj => ?_⟩
  rw [hl] at hj
  rw [byteN_eq s _ (by omega)]
  congr 1
  simp only [ByteArray.data_extract, Array.getElem_toList, Array.getElem_extract]
  rfl
theorem cut_at {s : ByteArray} {a : Nat} {d : ByteArray} (h : Pn.At s a (enc (fold d.size) ++ d.data.toList)) (hd : d.size ≤ 8000) :
    cutT s (readN s (a : Int)) = (d, ((a + (enc (fold d.size) ++ d.data.toList).length : Nat) : Int), 0) := by
  obtain ⟨h1, h2⟩ := At.left h
  rw [readN_fwd h1 (by omega)]
  have hl : d.data.toList.length = d.size := by rw [Array.length_toList]; rfl
  have h3 := h2.1
  rw [hl] at h3
  rw [cut_ok s d.size _ hd h3]
  have e := extract_at h2
  rw [hl] at e
  rw [e, List.length_append, hl]
  refine Prod.ext ?_ (Prod.ext ?_ rfl)
  · rfl
  · simp only; omega
theorem sibAt_fwd {s : ByteArray} {a : Nat} {x : Sib} (hd : dotB x.1 = true) (hz : x.2.2.size ≤ 8000) (h : Pn.At s a (sibB x)) : sibAt s (a : Int) = some (x, ((a + (sibB x).length : Nat) : Int)) := by
  have hm := (dotB_iff x.1).1 hd
  rw [sibB_short hz] at h ⊢
  obtain ⟨⟨x1, x2⟩, g, d⟩ := x
  simp only at h hz hm ⊢
  obtain ⟨h1, h2⟩ := At.left h
  obtain ⟨h3, h4⟩ := At.left (show Pn.At s a (enc (fold x1) ++ enc (fold x2)) from h1)
  obtain ⟨h5, h6⟩ := At.left h2
  have r1 := readN_fwd h3 (by omega)
  have r2 := readN_fwd h4 (by omega)
  have e : a + (markB (x1, x2)).length = a + (enc (fold x1)).length + (enc (fold x2)).length := by rw [markB_len]; omega
  rw [e] at h5 h6
  have hgr := goneI_range g
  have r3 := readN_fwd h5 (by rcases hgr with h | h <;> rw [h] <;> omega)
  have r4 := cut_at h6 hz
  rw [sibAt_yes r1 r2 r3 hgr r4, goneI_dec]
  simp only [Option.some.injEq, Prod.mk.injEq, true_and]
  simp only [List.length_append, markB_len]
  congr 1; omega
theorem sibAt_at {s : ByteArray} {a : Nat} {x : Sib} {e : Int} (ha : a ≤ s.size) (h : sibAt s (a : Int) = some (x, e)) : Pn.At s a (sibB x) ∧ e = ((a + (sibB x).length : Nat) : Int) := by
  obtain ⟨x1, a1, x2, a2, z, a3, d, h1, h2, h3, hz, h4, rfl⟩ := sibAt_inv h
  obtain ⟨i1, rfl, _⟩ := readN_inv h1
  obtain ⟨i2, rfl, _⟩ := readN_inv h2
  obtain ⟨i3, rfl, _⟩ := readN_inv h3
  rcases readN_cases s ((a + (enc (fold x1)).length + (enc (fold x2)).length + (enc (fold z)).length : Nat) : Int) with h5 | ⟨n, a4, h5⟩
  · exact absurd (show (cutT s _).2.2 = 0 by rw [h4]) (by
      obtain ⟨c, hc, hr⟩ := readN_bad s _ h5
      rw [hr, cut_bad s 0 0 c hc]; exact hc)
  obtain ⟨i4, rfl, _⟩ := readN_inv h5
  rw [h5] at h4
  by_cases hn : n < 0 ∨ 8000 < n
  · rw [cut_range s n _ hn] at h4; cases h4
  obtain ⟨k, rfl⟩ : ∃ k : Nat, n = (k : Int) := ⟨n.toNat, by omega⟩
  by_cases hk : a + (enc (fold x1)).length + (enc (fold x2)).length + (enc (fold z)).length + (enc (fold (k : Int))).length + k ≤ s.size
  rotate_left
  · rw [cut_short s k _ (by omega) (by omega)] at h4; cases h4
  rw [cut_ok s k _ (by omega) hk] at h4
  simp only [Prod.mk.injEq] at h4
  obtain ⟨rfl, rfl, _⟩ := h4
  have hx := at_extract hk
  have hsz : (s.extract (a + (enc (fold x1)).length + (enc (fold x2)).length + (enc (fold z)).length + (enc (fold (k : Int))).length) (a + (enc (fold x1)).length + (enc (fold x2)).length + (enc (fold z)).length + (enc (fold (k : Int))).length + k)).size = k := by
    rw [ByteArray.size_extract]; omega
  have hle : (s.extract (a + (enc (fold x1)).length + (enc (fold x2)).length + (enc (fold z)).length + (enc (fold (k : Int))).length) (a + (enc (fold x1)).length + (enc (fold x2)).length + (enc (fold z)).length + (enc (fold (k : Int))).length + k)).data.toList.length = k := by
    rw [Array.length_toList]; exact hsz
  generalize s.extract (a + (enc (fold x1)).length + (enc (fold x2)).length + (enc (fold z)).length + (enc (fold (k : Int))).length) (a + (enc (fold x1)).length + (enc (fold x2)).length + (enc (fold z)).length + (enc (fold (k : Int))).length + k) = D at hx hsz hle ⊢
  rw [sibB_short (x := ((x1, x2), decide (z = 1), D)) (by simp only; omega)]
  simp only
  rw [goneI_of hz, hsz]
  refine ⟨At.append (At.append i1 i2) ?_, ?_⟩
  · rw [markB_len, ← Nat.add_assoc]
    exact At.append i3 (At.append i4 hx)
  · simp only [List.length_append, markB_len, hle]
    omega
theorem sibsAt_fwd (s : ByteArray) : ∀ (l : List Sib) (a : Nat), (∀ x ∈ l, dotB x.1 = true ∧ x.2.2.size ≤ 16) → Pn.At s a (l.flatMap sibB) → sibsAt s l.length (a : Int) = some (l, ((a + (l.flatMap sibB).length : Nat) : Int))
  | [], a, _, _ => by simp [sibsAt]
  | x :: r, a, h, hat => by
    obtain ⟨hd, hz⟩ := h x (by simp)
    rw [List.flatMap_cons] at hat
    obtain ⟨h1, h2⟩ := At.left hat
    have ih := sibsAt_fwd s r _ (fun y hy => h y (by simp [hy])) h2
    show (sibAt s a).bind _ = _
    rw [sibAt_fwd hd (by omega) h1]
    simp only [Option.bind_some]
    rw [show sibsAt s r.length _ = _ from ih]
    simp only [Option.map_some, Option.some.injEq, Prod.mk.injEq, true_and]
    rw [List.flatMap_cons, List.length_append, ← Nat.add_assoc]
theorem sibsAt_at (s : ByteArray) : ∀ (k a : Nat) (l : List Sib) (e : Int), a ≤ s.size → sibsAt s k (a : Int) = some (l, e) →
    Pn.At s a (l.flatMap sibB) ∧ e = ((a + (l.flatMap sibB).length : Nat) : Int) ∧ l.length = k
  | 0, a, l, e, ha, h => by
    unfold sibsAt at h
    simp only [Option.some.injEq, Prod.mk.injEq] at h
    obtain ⟨rfl, rfl⟩ := h
    exact ⟨⟨by simpa using ha, fun j hj => by simp at hj⟩, by simp, rfl⟩
  | k + 1, a, l, e, ha, h => by
    have h' : (sibAt s a).bind (fun p => (sibsAt s k p.2).map fun q => (p.1 :: q.1, q.2)) = some (l, e) := h
    cases h1 : sibAt s a with
    | none => rw [h1] at h'; cases h'
    | some p =>
      obtain ⟨x, b⟩ := p
      rw [h1] at h'
      simp only [Option.bind_some] at h'
      obtain ⟨i1, rfl⟩ := sibAt_at ha h1
      obtain ⟨q, hq, he⟩ := Option.map_eq_some_iff.1 h'
      simp only [Prod.mk.injEq] at he
      obtain ⟨rfl, rfl⟩ := he
      obtain ⟨k1, k2, k3⟩ := sibsAt_at s k _ q.1 q.2 i1.1 hq
      refine ⟨?_, ?_, by simp [k3]⟩
      · rw [List.flatMap_cons]; exact At.append i1 k1
      · rw [k2, List.flatMap_cons, List.length_append]; congr 1; omega
theorem parse_fwd {s : ByteArray} {a : Nat} {l : List (Int × Int)} (h : rightB l = true) (hat : Pn.At s a (seenB l)) : seenAt s (a : Int) = some (l, ((a + (seenB l).length : Nat) : Int)) := by
  have h5 := right_len h
  obtain ⟨h3, h4⟩ := At.left (show Pn.At s a (enc (fold l.length) ++ l.flatMap markB) from hat)
  have r1 := readN_fwd h3 (by omega)
  have r2 := readMarks_fwd _ l _ (right_dot h) h4
  have hp : parse s (a : Int) = some (l, ((a + (enc (fold l.length)).length + (l.flatMap markB).length : Nat) : Int)) := by
    unfold parse
    rw [r1]
    simp only
    rw [if_pos ⟨trivial, by omega, by omega⟩, Int.toNat_natCast]; exact r2
  rw [seenAt_some hp h]
  unfold seenB
  rw [List.length_append, ← Nat.add_assoc]
theorem setAt_fwd {s : ByteArray} {a : Nat} {l : List (Int × Int)} {ss : List Sib} (h : setB l ss = true) (hat : Pn.At s a (setBB l ss)) : setAt s (a : Int) = some ((l, ss), ((a + (setBB l ss).length : Nat) : Int)) := by
  obtain ⟨h1, h2, h3, _⟩ := setOk_of h
  obtain ⟨i1, i2⟩ := At.left hat
  obtain ⟨i3, i4⟩ := At.left i2
  have r1 := parse_fwd h1 i1
  have r2 := readN_fwd i3 (by omega)
  have r3 := sibsAt_fwd s ss _ (fun x hx => ok_dot (h3 x hx)) i4
  refine (setAt_yes r1 ((parseS_go r2 h2).trans r3) h).trans ?_
  simp only [Option.some.injEq, Prod.mk.injEq, true_and]
  unfold setBB
  simp only [List.length_append]
  congr 1; omega
theorem setAt_at {s : ByteArray} {a : Nat} {l : List (Int × Int)} {ss : List Sib} {e : Int} (h : setAt s (a : Int) = some ((l, ss), e)) : Pn.At s a (setBB l ss) ∧ e = ((a + (setBB l ss).length : Nat) : Int) := by
  obtain ⟨b, h1, h2, h3⟩ := setAt_inv h
  unfold seenAt at h1
  obtain ⟨hp, _⟩ := Option.filter_eq_some_iff.1 h1
  obtain ⟨i1, rfl⟩ := parse_at hp
  rcases readN_cases s ((a + (seenB l).length : Nat) : Int) with h4 | ⟨c, b1, h4⟩
  · rw [parseS_bad h4] at h2; cases h2
  by_cases hc : 0 ≤ c ∧ c ≤ 8
  rotate_left
  · rw [parseS_range h4 hc] at h2; cases h2
  obtain ⟨n, rfl⟩ : ∃ n : Nat, c = n := ⟨c.toNat, by omega⟩
  rw [parseS_go h4 (by omega)] at h2
  obtain ⟨i2, rfl, _⟩ := readN_inv h4
  obtain ⟨i3, i4, i5⟩ := sibsAt_at s n _ ss e i2.1 h2
  subst i5
  refine ⟨At.append i1 (At.append i2 i3), ?_⟩
  rw [i4]
  unfold setBB
  simp only [List.length_append]
  congr 1; omega
theorem setAt_bytes {s : ByteArray} {l : List (Int × Int)} {ss : List Sib} (h : setAt s 0 = some ((l, ss), (s.size : Int))) : setBytes l ss = s := by
  obtain ⟨h1, h2⟩ := setAt_at (a := 0) h
  obtain ⟨_, _, _, h3⟩ := setAt_inv h
  rw [setBytes_yes h3, At.whole h1 (by omega)]
theorem setBytes_at {s : ByteArray} {l : List (Int × Int)} {ss : List Sib} (h : setBytes l ss = s) (h0 : s.size ≠ 0) : setAt s 0 = some ((l, ss), (s.size : Int)) := by
  cases hb : setB l ss
  · rw [setBytes_no hb] at h; subst h; exact absurd rfl h0
  · rw [setBytes_yes hb] at h
    have hs : s.size = (setBB l ss).length := by rw [← h]; simp [ByteArray.size]
    have := setAt_fwd (a := 0) hb (show Pn.At s 0 (setBB l ss) by rw [← h]; exact at_self _)
    rw [Nat.zero_add, ← hs] at this
    exact this
def numR (s : ByteArray) (st : Int × Bool) : Int × (Int × Bool) := if st.2 = true then (0, st) else if (readN s st.1).2.2 = 0 then ((readN s st.1).1, ((readN s st.1).2.1, false)) else (0, (st.1, true))
def textR (s : ByteArray) (st : Int × Bool) : ByteArray × (Int × Bool) := if st.2 = true then (⟨#[]⟩, st) else if (cutT s (readN s st.1)).2.2 = 0 then ((cutT s (readN s st.1)).1, ((cutT s (readN s st.1)).2.1, false)) else (⟨#[]⟩, (st.1, true))
def sibR (s : ByteArray) (st : Int × Bool) : Sib × (Int × Bool) :=
  ((((numR s st).1, (numR s (numR s st).2).1), decide ((numR s (numR s (numR s st).2).2).1 = 1), (textR s (numR s (numR s (numR s st).2).2).2).1), (textR s (numR s (numR s (numR s st).2).2).2).2)
def sibsR (s : ByteArray) : Nat → (Int × Bool) → List Sib × (Int × Bool)
  | 0, st => ([], st)
  | n + 1, st => if st.2 = true then ([], st) else ((sibR s st).1 :: (sibsR s n (sibR s st).2).1, (sibsR s n (sibR s st).2).2)
theorem sibsR_bad (s : ByteArray) (n : Nat) (st : Int × Bool) (h : st.2 = true) : sibsR s n st = ([], st) := by
  cases n
  · rfl
  · exact if_pos h
theorem sibsR_step (s : ByteArray) (n : Nat) (st : Int × Bool) (h : st.2 = false) : sibsR s (n + 1) st = ((sibR s st).1 :: (sibsR s n (sibR s st).2).1, (sibsR s n (sibR s st).2).2) := if_neg (by rw [h]; decide)
theorem numR_ok {s : ByteArray} {a x b : Int} (h : readN s a = (x, b, 0)) : numR s (a, false) = (x, (b, false)) := by unfold numR; simp [h]
theorem textR_ok {s : ByteArray} {a b : Int} {d : ByteArray} (h : cutT s (readN s a) = (d, b, 0)) : textR s (a, false) = (d, (b, false)) := by unfold textR; simp [h]
theorem sibR_ok {s : ByteArray} {a e : Int} {x : Sib} (h : sibAt s a = some (x, e)) : sibR s (a, false) = (x, (e, false)) := by
  obtain ⟨x1, a1, x2, a2, z, a3, d, h1, h2, h3, hz, h4, rfl⟩ := sibAt_inv h
  unfold sibR
  rw [numR_ok h1]
  simp only
  rw [numR_ok h2]
  simp only
  rw [numR_ok h3]
  simp only
  rw [textR_ok h4]
theorem sibsR_ok (s : ByteArray) : ∀ (k : Nat) (a : Int) (l : List Sib) (e : Int), sibsAt s k a = some (l, e) → sibsR s k (a, false) = (l, (e, false))
  | 0, a, l, e, h => by
    unfold sibsAt at h
    simp only [Option.some.injEq, Prod.mk.injEq] at h
    obtain ⟨rfl, rfl⟩ := h
    rfl
  | k + 1, a, l, e, h => by
    have h' : (sibAt s a).bind (fun p => (sibsAt s k p.2).map fun q => (p.1 :: q.1, q.2)) = some (l, e) := h
    cases h1 : sibAt s a with
    | none => rw [h1] at h'; cases h'
    | some p =>
      obtain ⟨x, b⟩ := p
      rw [h1] at h'
      simp only [Option.bind_some] at h'
      obtain ⟨q, hq, he⟩ := Option.map_eq_some_iff.1 h'
      simp only [Prod.mk.injEq] at he
      obtain ⟨rfl, rfl⟩ := he
      rw [sibsR_step _ _ _ rfl, sibR_ok h1]
      simp only
      rw [sibsR_ok s k b q.1 q.2 hq]
theorem spec_none {s : ByteArray} (h8 : ¬ 8000 < s.size) (h : parse s 0 = none) : srL s = [] ∧ srS s = [] ∧ srC s = 3 := sr_none h8 (setAt_none (seenAt_none h))
theorem count_none {s : ByteArray} {l : List (Int × Int)} {b : Int} (h : parse s 0 = some (l, b)) (h2 : ∀ n : Nat, ∀ b1, readN s b = ((n : Int), b1, 0) → ¬ n ≤ 8) : setAt s 0 = none := by
  cases hr : rightB l
  · exact setAt_none (seenAt_wrong h hr)
  refine setAt_sibs (seenAt_some h hr) ?_
  rcases readN_cases s b with h4 | ⟨c, b1, h4⟩
  · exact parseS_bad h4
  by_cases hc : 0 ≤ c ∧ c ≤ 8
  · obtain ⟨n, rfl⟩ : ∃ n : Nat, c = n := ⟨c.toNat, by omega⟩
    exact absurd (show n ≤ 8 by omega) (h2 n b1 h4)
  · exact parseS_range h4 hc
theorem spec_iff {s : ByteArray} {l : List (Int × Int)} {b b1 e : Int} {n : Nat} {ss : List Sib} {bad : Bool} (h : parse s 0 = some (l, b)) (h2 : readN s b = ((n : Int), b1, 0)) (hn : n ≤ 8) (h3 : sibsR s n (b1, false) = (ss, (e, bad))) :
    (∀ l' ss', setAt s 0 = some ((l', ss'), (s.size : Int)) → bad = false ∧ l = l' ∧ ss = ss' ∧ setBytes l ss = s) := by
  intro l' ss' h4
  have hb := setAt_bytes h4
  obtain ⟨b', h5, h6, _⟩ := setAt_inv h4
  unfold seenAt at h5
  obtain ⟨hp, _⟩ := Option.filter_eq_some_iff.1 h5
  rw [h] at hp
  simp only [Option.some.injEq, Prod.mk.injEq] at hp
  obtain ⟨rfl, rfl⟩ := hp
  rw [parseS_go h2 hn] at h6
  rw [sibsR_ok s n b1 _ _ h6] at h3
  simp only [Prod.mk.injEq] at h3
  obtain ⟨rfl, rfl, rfl⟩ := h3
  exact ⟨rfl, rfl, rfl, hb⟩
end Go.Proofs.YtiaoifodaoifjaaGreat.Sb
namespace Go.Proofs.YtiaoifodaoifjaaGreat.Se
open Go.RowKit Nu Cr
theorem xor_cancel (a b : Nat) : (a ^^^ b) ^^^ b = a := by rw [Nat.xor_assoc, Nat.xor_self, Nat.xor_zero]
theorem xor_inj {a b c : Nat} (h : a ^^^ c = b ^^^ c) : a = b := by
  have := congrArg (· ^^^ c) h
  simpa [xor_cancel] using this
theorem cstep_inj {r r' : Nat} (h : r < 4294967296) (h' : r' < 4294967296) (e : cstep r = cstep r') : r = r' := by
  have no : ∀ x y : Nat, x < 2147483648 → y < 2147483648 → x ^^^ 3988292384 ≠ y := fun x y hx hy he => by
    have h1 : x ^^^ (x ^^^ 3988292384) = x ^^^ y := by rw [he]
    rw [← Nat.xor_assoc, Nat.xor_self, Nat.zero_xor] at h1
    have h2 : x ^^^ y < 2 ^ 31 := Nat.xor_lt_two_pow (by omega) (by omega)
    omega
  unfold cstep at e
  by_cases p : r % 2 = 1 <;> by_cases p' : r' % 2 = 1
  · rw [if_pos p, if_pos p'] at e
    have := xor_inj e
    omega
  · rw [if_pos p, if_neg p'] at e
    exact absurd e (no _ _ (by omega) (by omega))
  · rw [if_neg p, if_pos p'] at e
    exact absurd e.symm (no _ _ (by omega) (by omega))
  · rw [if_neg p, if_neg p'] at e
    omega
theorem citer_inj (k : Nat) {r r' : Nat} (h : r < 4294967296) (h' : r' < 4294967296) (e : citer k r = citer k r') : r = r' := by
  induction k with
  | zero => exact e
  | succ k ih => exact ih (cstep_inj (citer_lt k r h) (citer_lt k r' h') e)
theorem creg_inj (l : List UInt8) {r r' : Nat} (h : r < 4294967296) (h' : r' < 4294967296) (e : creg l r = creg l r') : r = r' := by
  induction l generalizing r r' with
  | nil => exact e
  | cons c l ih =>
    have hc := c.toNat_lt
    have e1 := ih (cbyte_lt r c.toNat h (by omega)) (cbyte_lt r' c.toNat h' (by omega)) e
    exact xor_inj (citer_inj 8 (xor_lt _ _ h (by omega)) (xor_lt _ _ h' (by omega)) e1)
theorem creg_set (l : List UInt8) (p : Nat) (hp : p < l.length) (b : UInt8) (hb : b ≠ l[p]) (r : Nat) (h : r < 4294967296) : creg (l.set p b) r ≠ creg l r := by
  intro e
  rw [List.set_eq_take_append_cons_drop, if_pos hp, creg_append] at e
  have hl : l = l.take p ++ l[p] :: l.drop (p + 1) := by rw [List.getElem_cons_drop, List.take_append_drop]
  have e2 : creg l r = creg (l[p] :: l.drop (p + 1)) (creg (l.take p) r) := by
    conv => lhs; rw [hl]
    rw [creg_append]
  rw [e2] at e
  have hr := creg_lt (l.take p) r h
  have hb1 := b.toNat_lt
  have hb2 := l[p].toNat_lt
  have e3 := creg_inj (l.drop (p + 1)) (cbyte_lt _ b.toNat hr (by omega)) (cbyte_lt _ l[p].toNat hr (by omega)) e
  have e4 := citer_inj 8 (xor_lt _ _ hr (by omega)) (xor_lt _ _ hr (by omega)) e3
  rw [Nat.xor_comm _ b.toNat, Nat.xor_comm _ l[p].toNat] at e4
  exact hb (UInt8.toNat_inj.1 (xor_inj e4))
theorem fourL_inj {c c' : Nat} (h : c < 4294967296) (h' : c' < 4294967296) (e : fourL c = fourL c') : c = c' := by
  unfold fourL at e
  injection e with e0 e
  injection e with e1 e
  injection e with e2 e
  injection e with e3 _
  have g : ∀ a b : Nat, a < 256 → b < 256 → UInt8.ofNat a = UInt8.ofNat b → a = b := fun a b ha hb he => by
    have := congrArg UInt8.toNat he
    rwa [toNat_ofNat a ha, toNat_ofNat b hb] at this
  have g0 := g _ _ (by omega) (by omega) e0
  have g1 := g _ _ (by omega) (by omega) e1
  have g2 := g _ _ (by omega) (by omega) e2
  have g3 := g _ _ (by omega) (by omega) e3
  omega
theorem crcN_list {s t : ByteArray} (hs : ¬ 8000 < s.size) (ht : ¬ 8000 < t.size) (e : crcN s = crcN t) : creg s.data.toList 4294967295 = creg t.data.toList 4294967295 := by
  rw [crcN_short s hs, crcN_short t ht] at e
  simpa using xor_inj e
theorem front (t f : ByteArray) (hf : f.size = 4) : (t ++ f).extract 0 ((t ++ f).size - 4) = t ∧ (t ++ f).extract ((t ++ f).size - 4) (t ++ f).size = f := by
  have hz : (t ++ f).size = t.size + 4 := by rw [ByteArray.size_append, hf]
  rw [hz]
  have h4 : f.data.size = 4 := hf
  constructor
  · apply ByteArray.ext
    simp [ByteArray.data_extract, ByteArray.data_append]
  · apply ByteArray.ext
    have e1 : t.data.extract t.size (t.size + 4) = #[] := Array.eq_empty_of_size_eq_zero (by rw [Array.size_extract]; show min (t.size + 4) t.size - t.size = 0; omega)
    have e2 : f.data.extract (t.size - t.data.size) (t.size + 4 - t.data.size) = f.data := by
      rw [show t.size - t.data.size = 0 from Nat.sub_self _, show t.size + 4 - t.data.size = f.data.size by rw [h4]; show t.size + 4 - t.size = 4; omega]
      simp
    rw [ByteArray.data_extract, ByteArray.data_append, Nat.add_sub_cancel, Array.extract_append, e1, e2]; simp
theorem seal_open (t : ByteArray) (h : ¬ 7996 < t.size) : out t 0 0 = unsealed (t ++ four (crcN t)) := by
  obtain ⟨e1, e2⟩ := front t (four (crcN t)) rfl
  have hz : (t ++ four (crcN t)).size = t.size + 4 := by rw [ByteArray.size_append]; rfl
  have := un_ok (t ++ four (crcN t)) (by omega) (by omega) (by rw [e1, e2])
  rw [e1] at this; exact this
theorem ext_list {a b : ByteArray} (h : a.data.toList = b.data.toList) : a = b := ByteArray.ext (Array.toList_inj.1 h)
theorem seal_bad (t : ByteArray) (h : ¬ 7996 < t.size) (s : ByteArray) (p : Nat) (b : UInt8) (hp : p < (t.data.toList ++ fourL (crcN t)).length) (hb : b ≠ (t.data.toList ++ fourL (crcN t))[p])
    (e : s.data.toList = (t.data.toList ++ fourL (crcN t)).set p b) : out ⟨#[]⟩ 0 5 = unsealed s := by
  have hl : s.size = t.size + 4 := by
    rw [← size_data s, e, List.length_set, List.length_append, size_data]; rfl
  apply un_bad s (by omega) (by omega)
  intro he
  by_cases hlt : p < t.data.toList.length
  · -- a byte of the text
    have e1 : (t.data.toList ++ fourL (crcN t)).set p b = t.data.toList.set p b ++ fourL (crcN t) := by rw [List.set_append_left _ _ hlt]
    have hs : s = ⟨(t.data.toList.set p b).toArray⟩ ++ four (crcN t) := by
      apply ext_list; rw [e, e1, ByteArray.data_append]; simp [four]
    obtain ⟨f1, f2⟩ := front ⟨(t.data.toList.set p b).toArray⟩ (four (crcN t)) rfl
    rw [← hs] at f1 f2
    rw [f1, f2] at he
    have hT : (⟨(t.data.toList.set p b).toArray⟩ : ByteArray).size = t.size := by rw [← size_data, ← size_data]; simp
    have e5 := fourL_inj (crcN_lt _) (crcN_lt _) (by have := congrArg (fun x : ByteArray => x.data.toList) he; simpa [four] using this)
    have e6 := crcN_list (by omega) (by omega) e5
    have hb' : b ≠ t.data.toList[p] := by rwa [List.getElem_append_left hlt] at hb
    exact creg_set t.data.toList p hlt b hb' 4294967295 (by omega) e6.symm
  · -- a byte of the sum
    have hlt' : t.data.toList.length ≤ p := by omega
    have e1 : (t.data.toList ++ fourL (crcN t)).set p b = t.data.toList ++ (fourL (crcN t)).set (p - t.data.toList.length) b := by rw [List.set_append_right _ _ hlt']
    have hs : s = t ++ ⟨((fourL (crcN t)).set (p - t.data.toList.length) b).toArray⟩ := by
      apply ext_list; rw [e, e1, ByteArray.data_append]; simp
    obtain ⟨f1, f2⟩ := front t ⟨((fourL (crcN t)).set (p - t.data.toList.length) b).toArray⟩ (by rw [← size_data]; simp [fourL])
    rw [← hs] at f1 f2
    rw [f1, f2] at he
    have e7 := congrArg (fun x : ByteArray => x.data.toList) he
    simp only [four] at e7
    have hq : p - t.data.toList.length < (fourL (crcN t)).length := by rw [List.length_append] at hp; omega
    have e8 : ((fourL (crcN t)).set (p - t.data.toList.length) b)[p - t.data.toList.length]'(by rw [List.length_set]; exact hq) = (fourL (crcN t))[p - t.data.toList.length] := by
      congr 1
    rw [List.getElem_set_self] at e8
    apply hb
    rw [List.getElem_append_right hlt']; exact e8
end Go.Proofs.YtiaoifodaoifjaaGreat.Se
