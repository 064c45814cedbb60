/- The iterator impl.unseen: the Sibs that a version vector has not. Condition: sizes. -/
import Derived.Test.YtgbcogncnhbmeaaRangeT
import Derived.Test.YtgbcogncnhbmeaaSeenHas
set_option linter.unusedSimpArgs false
set_option linter.unusedVariables false
namespace Go.Proofs.Ytgbcogncnhbmeaa.Sb
open Go.RowKit Go.Shelf Go.Proofs.Ytgbcogncnhbmeaa.Mk Go.Proofs.Ytgbcogncnhbmeaa.Rw
attribute [local go_sem] Oper.semAt_some

/-- the Sibs whose dots l has not -/
def uns (s : List Sib) (l : List (Int × Int)) : List Sib := s.filter fun x => !hasB l x.1
theorem uns_take (s : List Sib) (l : List (Int × Int)) (k : Nat) (h : k < s.length) : uns (s.take (k + 1)) l = uns (s.take k) l ++ (if hasB l s[k].1 = true then [] else [s[k]]) := by
  unfold uns
  rw [List.take_succ_eq_append_getElem h, List.filter_append]
  cases e : hasB l s[k].1 <;> simp [e]
theorem uns_prefix (s : List Sib) (l : List (Int × Int)) (k : Nat) : uns (s.take k) l <+: uns s l := (List.take_prefix k s).filter _
set_option maxRecDepth 100000 in
set_option maxHeartbeats 2000000 in
theorem unseen1_T (n bs bm : Nat) (a am : Option Addr) (cap capm : Nat) (s : List Sib) (l : List (Int × Int)) (B r : Nat) (hn : 1 ≤ n) (hs : s.length ≤ 1000) (hl : l.length ≤ maxLen) (hwd : WfDots s) (w W0 : World)
    (hcs : Cells W0 bs [.slice a s.length cap]) (hcm : Cells W0 bm [.slice am l.length capm]) (hgs : bs < w.heap.size ∨ (B ≤ bs ∧ bs ≠ r)) (hgm : bm < w.heap.size ∨ (B ≤ bm ∧ bm ≠ r)) (h : MarksAt w am l) (h' : SibsAt w a s) (hb : Below w.heap.size w W0) :
    SeqT n 98 #[.pointer (some ⟨bs, 0, none⟩), .pointer (some ⟨bm, 0, none⟩)] (KpX w.heap.size B r) (uns s l) s.length W0 := fun lp J W hW hW2 hJ hY h0 => by
  have hJa : ∀ pre W1 W2, J pre W1 → Below W1.heap.size W1 W2 → J pre W2 := fun pre W1 W2 hj hb => hJ pre W1 W2 none hj (grown_of hb) (fun r e => by cases e)
  have hBW : Below w.heap.size w W := hb.trans (hW.mono hb.size)
  have cs := hcs.below hW
  have cm := hcm.below hW
  have hbs := cs.cell 0 (by simp)
  simp only [List.getElem_cons_zero] at hbs
  have H := Lib.hid h
  have H' := Lib.hid h'
  clear h h'
  refine callsIn_of_wp Try.func98 rfl trivial ?_ rfl
  simp only [Try.ntmps98, List.size_toArray, List.length_cons, List.length_nil, Nat.reduceAdd, Nat.reduceSub, Array.replicate_succ, Array.replicate_zero, List.push_toArray, List.append_toArray, List.nil_append, List.cons_append]
  gi_wp2
  gi_loopw [8] (fun i wr => ∃ k : Nat, k ≤ s.length ∧ i = .int .i64 k ∧ J (uns (s.take k) l) wr ∧ Below w.heap.size w wr ∧ Cells wr bm [.slice am l.length capm])
    (fun i _ => s.length - (intOf i).toNat)
  case atStart => exact ⟨0, Nat.zero_le _, rfl, by simpa [uns] using h0, hBW, cm⟩
  case round =>
    obtain ⟨k, hk, rfl, hJs, hnx, hcm'⟩ := hrel
    have HN := Lib.hid hnx
    have HJ := Lib.hid hJs
    have HM := Lib.hid hcm'
    clear hJs hnx hcm' cm cs hcm hcs hbs
    by_cases hlt : k < s.length
    · obtain ⟨g, off, rfl, hg, c0, c1, c2, c3⟩ := (H'.out.mono HN.out).cells hlt
      have hwf := hwd s[k] (List.getElem_mem hlt)
      have HU := Lib.hid (uns_take s l k hlt)
      have hlen : (uns (s.take k) l).length ≤ k := Nat.le_trans (List.length_filter_le _ _) (by rw [List.length_take]; omega)
      obtain ⟨x, hx⟩ : ∃ x, s[k] = x := ⟨_, rfl⟩
      rw [hx] at c0 c1 c2 c3 hwf HU
      clear hx
      obtain ⟨⟨tn, tm⟩, tg, td⟩ := x
      dsimp only at c0 c1 c2 c3 hwf HU
      have hb0 := Lib.hid (step_alloc wr (.cells #[.int .i64 tn, .int .i64 tm, .bool tg, .string td] 48))
      have HN0 := Lib.hid (HN.out.trans (hb0.out.mono HN.out.size))
      have HMA := Lib.hid (H.out.mono HN0.out)
      have HM0 := Lib.hid (HM.out.below hb0.out)
      have b2 := HM0.out.cell 0 (by simp)
      simp only [List.getElem_cons_zero] at b2
      cases hhas : hasB l (tn, tm)
      · have X := Lib.hid (Cells.new wr #[.int .i64 tn, .int .i64 tm, .bool tg, .string td] 48)
        have HS := Lib.hid (show uns (s.take (k + 1)) l = uns (s.take k) l ++ [((tn, tm), tg, td)] by rw [HU.out, hhas]; simp)
        gi_wp2_with (refine ⟨trivial, ?_⟩; gi_at_call 28; refine (callsIn_wide.2 (impl_seenHas am capm l (tn, tm) _ hl hwf HMA.out)).mono ?_; rintro e w1 ⟨rfl, hb⟩; rw [hhas]; obtain ⟨e0, e1, e2, e3, _⟩ := (X.out.below hb).c4; have HB1 := Lib.hid (hb0.out.trans (hb.mono hb0.out.size)); have HN1 := Lib.hid (HN0.out.trans (hb.mono HN0.out.size)); have HM1 := Lib.hid (HM0.out.below hb); clear hb; obtain ⟨fn, tmps, assign, body, hy, hR⟩ := hY (uns (s.take k) l) ((tn, tm), tg, td) w1 (hJa _ _ _ HJ.out HB1.out) (by omega); unfold sv at hy; dsimp only at hy)
        refine hR.mono ?_
        rintro e W3 ⟨rfl, hJ3, hk3⟩
        have HJ3 := Lib.hid hJ3
        have HN3 := Lib.hid (HN1.out.trans hk3.below)
        have HM3 := Lib.hid (Cells.kp HM1.out hk3 hgm)
        clear hJ3 hk3
        gi_wp2
        go_roundw
        case rel => exact ⟨k + 1, by omega, by go_num, by rw [HS.out]; exact HJ3.out, HN3.out, HM3.out⟩
        case measure => simp [intOf]; omega
      · have HS := Lib.hid (show uns (s.take (k + 1)) l = uns (s.take k) l by rw [HU.out, hhas]; simp)
        gi_wp2_with (refine ⟨trivial, ?_⟩; gi_at_call 28; refine (callsIn_wide.2 (impl_seenHas am capm l (tn, tm) _ hl hwf HMA.out)).mono ?_; rintro e w1 ⟨rfl, hb⟩; rw [hhas]; have HB1 := Lib.hid (hb0.out.trans (hb.mono hb0.out.size)); have HN1 := Lib.hid (HN0.out.trans (hb.mono HN0.out.size)); have HM1 := Lib.hid (HM0.out.below hb); have HJ1 := Lib.hid (hJa _ _ _ HJ.out HB1.out); clear hb)
        refine ⟨fun _ h => (by cases h), ?_⟩
        gi_wp2
        go_roundw
        case rel => exact ⟨k + 1, by omega, by go_num, by rw [HS.out]; exact HJ1.out, HN1.out, HM1.out⟩
        case measure => simp [intOf]; omega
    · obtain rfl : k = s.length := by omega
      gi_wp2
      go_end0
      exact ⟨⟨_, rfl⟩, by have := HJ.out; rwa [List.take_length] at this⟩
end Go.Proofs.Ytgbcogncnhbmeaa.Sb
