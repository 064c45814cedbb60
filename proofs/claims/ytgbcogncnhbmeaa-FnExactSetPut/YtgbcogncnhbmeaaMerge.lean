/- impl.merged's iterator: the Sibs of a that b shares or has not seen, then those of b that a has not seen. Condition: sizes. -/
import Derived.Test.YtgbcogncnhbmeaaCollect
import Derived.Test.YtgbcogncnhbmeaaSetHas
set_option linter.unusedSimpArgs false
set_option linter.unusedVariables false
namespace Go.Proofs.Ytgbcogncnhbmeaa.Sb
open Go.RowKit Go.Shelf Go.Proofs.Ytgbcogncnhbmeaa.Mk Go.Proofs.Ytgbcogncnhbmeaa.Rw
attribute [local go_sem] Oper.semAt_some

theorem anyDepth {m : Nat} (m' : Nat) {P : Program} {l : Nat} {args : Array Value} {W : World} {R : Ending → World → Prop} (h : YieldAt Fence.wide m P l args W R) : YieldAt Fence.wide m' P l args W R := by
  obtain ⟨fn, tmps, assign, body, hy, hR⟩ := h
  exact ⟨fn, tmps, assign, body, hy, hR.1, fun c cs _ => hR.2 c cs (fun d h => by cases h)⟩
/-- of s, what t shares or l has not -/
def mrg (s t : List Sib) (l : List (Int × Int)) : List Sib := s.filter fun x => hasDot t x.1 || !hasB l x.1
theorem mrg_take (s t : List Sib) (l : List (Int × Int)) (k : Nat) (h : k < s.length) : mrg (s.take (k + 1)) t l = mrg (s.take k) t l ++ (if (hasDot t s[k].1 || !hasB l s[k].1) = true then [s[k]] else []) := by
  unfold mrg
  rw [List.take_succ_eq_append_getElem h, List.filter_append]
  cases e : (hasDot t s[k].1 || !hasB l s[k].1) <;> simp [e]
theorem mrg_le (s t : List Sib) (l : List (Int × Int)) (k : Nat) : (mrg (s.take k) t l).length ≤ k := Nat.le_trans (List.length_filter_le _ _) (by rw [List.length_take]; omega)
set_option maxRecDepth 100000 in
set_option maxHeartbeats 4000000 in
theorem merged1_T (n ba bb : Nat) (am bm as_ bs_ : Option Addr) (c1 c2 c3 c4 : Nat) (la lb : List (Int × Int)) (sa sb : List Sib) (hn : 6 ≤ n) (hsa : sa.length ≤ 400) (hsb : sb.length ≤ 400) (hla : la.length ≤ maxLen) (hlb : lb.length ≤ maxLen) (hwa : WfDots sa) (hwb : WfDots sb) (hinc : Mono sb) (w W0 : World)
    (hca : Cells w ba [.slice am la.length c1, .slice as_ sa.length c2]) (hcb : Cells w bb [.slice bm lb.length c3, .slice bs_ sb.length c4]) (hma : MarksAt w am la) (hmb : MarksAt w bm lb) (hra : SibsAt w as_ sa) (hrb : SibsAt w bs_ sb) (hb : Below w.heap.size w W0) :
    SeqT n 115 #[.pointer (some ⟨bb, 0, none⟩), .pointer (some ⟨ba, 0, none⟩)] (KpX w.heap.size (W0.heap.size + 2) 0) (mrg sa sb lb ++ uns sb la) (sa.length + sb.length) W0 := fun lp J W hW hW2 hJ hY h0 => by
  have hJa : ∀ pre W1 W2, J pre W1 → Below W1.heap.size W1 W2 → J pre W2 := fun pre W1 W2 hj hb => hJ pre W1 W2 none hj (grown_of hb) (fun r e => by cases e)
  have h1 : 1 ≤ n := by omega
  have hBW : Below w.heap.size w W := hb.trans (hW.mono hb.size)
  have hzW : W0.heap.size + 2 ≤ W.heap.size := hW2
  have MA := Lib.hid hma
  have MB := Lib.hid hmb
  have RA := Lib.hid hra
  have RB := Lib.hid hrb
  have CA := Lib.hid hca
  have CB := Lib.hid hcb
  clear hma hmb hra hrb hca hcb
  refine callsIn_of_wp_marks Try.func115 rfl trivial ?_ rfl
  simp only [Try.ntmps115, List.size_toArray, List.length_cons, List.length_nil, Nat.reduceAdd, Nat.reduceSub, Array.replicate_succ, Array.replicate_zero, List.push_toArray, List.append_toArray, List.nil_append, List.cons_append]
  have hb1 := step_alloc W (.cells #[.func (.yield lp) #[] #[]] 108)
  have cY := Cells.new W #[.func (.yield lp) #[] #[]] 108
  have j1 := hJa _ _ _ h0 hb1
  have hB1 : Below w.heap.size w (W.alloc (.cells #[.func (.yield lp) #[] #[]] 108)) := hBW.trans (hb1.mono hBW.size)
  obtain ⟨p0, p1, _⟩ := (CA.out.below hB1).c2
  obtain ⟨q0, q1, _⟩ := (CB.out.below hB1).c2
  gi_wp2_with (refine ⟨trivial, ?_⟩; gi_at_call 77; refine (callsIn_wide.2 (sortedSibs _ _ _ _)).mono ?_; rintro e w1 ⟨rfl, hb2⟩; unfold ordF; clear p0 p1 q0 q1; have hb3 := step_alloc w1 (.cells #[.slice bs_ sb.length c4, .func (.func 113) #[] #[]] 82); have hB3 : Below w.heap.size w (w1.alloc (.cells #[.slice bs_ sb.length c4, .func (.func 113) #[] #[]] 82)) := (hB1.trans (hb2.mono hB1.size)).trans (hb3.mono (by have := hB1.size; have := hb2.size; omega)); obtain ⟨p0, p1, _⟩ := (CA.out.below hB3).c2)
  have cT := Cells.new w1 #[.slice bs_ sb.length c4, .func (.func 113) #[] #[]] 82
  have j3 := hJa _ _ _ (hJa _ _ _ j1 hb2) hb3
  have cY3 := (cY.below hb2).below hb3
  have hzT : W0.heap.size + 2 ≤ w1.heap.size := by have := hb2.size; simp at this; omega
  simp only [List.toList_toArray] at cT cY3
  clear hb1 hb2 hb3 j1 cY p0 p1
  obtain ⟨T, hT⟩ : ∃ T, w1.heap.size = T := ⟨_, rfl⟩
  obtain ⟨Y, hYy⟩ : ∃ Y, W.heap.size = Y := ⟨_, rfl⟩
  have hzY : W0.heap.size + 2 ≤ Y := by omega
  generalize w1.alloc (.cells #[.slice bs_ sb.length c4, .func (.func 113) #[] #[]] 82) = w3 at cT j3 cY3 hB3 ⊢
  rw [hT] at cT hzT ⊢
  rw [hYy] at cY3 ⊢
  clear hT
  gi_loopw [14] (fun i wr => ∃ k : Nat, k ≤ sa.length ∧ i = .int .i64 k ∧ J (mrg (sa.take k) sb lb) wr ∧ Below w.heap.size w wr ∧ Cells wr Y [.func (.yield lp) #[] #[]] ∧ Cells wr T [.slice bs_ sb.length c4, .func (.func 113) #[] #[]])
    (fun i _ => sa.length - (intOf i).toNat)
  case atStart => exact ⟨0, Nat.zero_le _, rfl, by simpa [mrg] using j3, hB3, cY3, cT⟩
  case round =>
    obtain ⟨k, hk, rfl, hJs, hnx, hcY, hcT⟩ := hrel
    have HN := Lib.hid hnx
    have HJ := Lib.hid hJs
    have HY := Lib.hid hcY
    have HT := Lib.hid hcT
    clear hJs hnx hcY hcT cY3 cT hB3 j3
    by_cases hlt : k < sa.length
    · obtain ⟨g, off, rfl, hg, d0, d1, d2, d3⟩ := (RA.out.mono HN.out).cells hlt
      have hwf := hwa sa[k] (List.getElem_mem hlt)
      have HU := Lib.hid (mrg_take sa sb lb k hlt)
      have hlen := mrg_le sa sb lb k
      obtain ⟨x, hx⟩ : ∃ x, sa[k] = x := ⟨_, rfl⟩
      rw [hx] at d0 d1 d2 d3 hwf HU
      clear hx
      obtain ⟨⟨tn, tm⟩, tg, td⟩ := x
      dsimp only at d0 d1 d2 d3 hwf HU
      have hb0 := Lib.hid (step_alloc wr (.cells #[.int .i64 tn, .int .i64 tm, .bool tg, .string td] 48))
      have HX := Lib.hid (Cells.new wr #[.int .i64 tn, .int .i64 tm, .bool tg, .string td] 48)
      have HN0 := Lib.hid (HN.out.trans (hb0.out.mono HN.out.size))
      have HY0 := Lib.hid (HY.out.below hb0.out)
      have HT0 := Lib.hid (HT.out.below hb0.out)
      have RB0 := Lib.hid (RB.out.mono HN0.out)
      obtain ⟨t0, t1, _⟩ := HT0.out.c2
      cases hhas : hasDot sb (tn, tm)
      · cases hseen : hasB lb (tn, tm)
        · -- neither shared nor seen: yielded
          have HS := Lib.hid (show mrg (sa.take (k + 1)) sb lb = mrg (sa.take k) sb lb ++ [((tn, tm), tg, td)] by rw [HU.out, hhas, hseen]; simp)
          gi_wp2_with (first
            | (refine ⟨trivial, ?_⟩; gi_at_call 78; refine (callsIn_wide.2 (has_ bs_ c4 sb ((tn, tm), tg, td) _ (by omega) hinc RB0.out)).mono ?_; rintro e w4 ⟨rfl, hb⟩; rw [hhas]; have HN1 := Lib.hid (HN0.out.trans (hb.mono HN0.out.size)); have HB1 := Lib.hid (hb0.out.trans (hb.mono hb0.out.size)); obtain ⟨q0, q1, _⟩ := (CB.out.below HN1.out).c2; have HX1 := Lib.hid (HX.out.below hb); obtain ⟨x0, x1, x2, x3, _⟩ := HX1.out.c4; have HY1 := Lib.hid (HY0.out.below hb); have HT1 := Lib.hid (HT0.out.below hb); have MB1 := Lib.hid (MB.out.mono HN1.out); clear hb t0 t1)
            | (refine ⟨trivial, ?_⟩; gi_at_call 28; refine (callsIn_wide.2 (impl_seenHas bm c3 lb (tn, tm) _ hlb hwf MB1.out)).mono ?_; rintro e w5 ⟨rfl, hb⟩; rw [hseen]; have HN2 := Lib.hid (HN1.out.trans (hb.mono HN1.out.size)); have HB2 := Lib.hid (HB1.out.trans (hb.mono HB1.out.size)); clear q0 q1 x0 x1 x2 x3; have HX2 := Lib.hid (HX1.out.below hb); obtain ⟨x0, x1, x2, x3, _⟩ := HX2.out.c4; have HY2 := Lib.hid (HY1.out.below hb); have HT2 := Lib.hid (HT1.out.below hb); have y0 := HY2.out.cell 0 (by simp); simp only [List.getElem_cons_zero] at y0; clear hb; obtain ⟨fn, tmps, assign, body, hy, hR⟩ := hY (mrg (sa.take k) sb lb) ((tn, tm), tg, td) w5 (hJa _ _ _ HJ.out HB2.out) (by omega); unfold sv at hy; dsimp only at hy))
          refine hR.mono ?_
          rintro e W3 ⟨rfl, hJ3, hk3⟩
          have HJ3 := Lib.hid hJ3
          have HN3 := Lib.hid (HN2.out.trans hk3.below)
          have HY3 := Lib.hid (Cells.kp HY2.out hk3 (.inr ⟨hzY, by omega⟩))
          have HT3 := Lib.hid (Cells.kp HT2.out hk3 (.inr ⟨hzT, by omega⟩))
          clear hJ3 hk3
          gi_wp2
          go_roundw
          case rel => exact ⟨k + 1, by omega, by go_num, by rw [HS.out]; exact HJ3.out, HN3.out, HY3.out, HT3.out⟩
          case measure => simp [intOf]; omega
        · -- not shared, and seen: passed over
          have HS := Lib.hid (show mrg (sa.take (k + 1)) sb lb = mrg (sa.take k) sb lb by rw [HU.out, hhas, hseen]; simp)
          gi_wp2_with (first
            | (refine ⟨trivial, ?_⟩; gi_at_call 78; refine (callsIn_wide.2 (has_ bs_ c4 sb ((tn, tm), tg, td) _ (by omega) hinc RB0.out)).mono ?_; rintro e w4 ⟨rfl, hb⟩; rw [hhas]; have HN1 := Lib.hid (HN0.out.trans (hb.mono HN0.out.size)); have HB1 := Lib.hid (hb0.out.trans (hb.mono hb0.out.size)); obtain ⟨q0, q1, _⟩ := (CB.out.below HN1.out).c2; have HX1 := Lib.hid (HX.out.below hb); obtain ⟨x0, x1, x2, x3, _⟩ := HX1.out.c4; have HY1 := Lib.hid (HY0.out.below hb); have HT1 := Lib.hid (HT0.out.below hb); have MB1 := Lib.hid (MB.out.mono HN1.out); clear hb t0 t1)
            | (refine ⟨trivial, ?_⟩; gi_at_call 28; refine (callsIn_wide.2 (impl_seenHas bm c3 lb (tn, tm) _ hlb hwf MB1.out)).mono ?_; rintro e w5 ⟨rfl, hb⟩; rw [hseen]; have HN2 := Lib.hid (HN1.out.trans (hb.mono HN1.out.size)); have HB2 := Lib.hid (HB1.out.trans (hb.mono HB1.out.size)); have HY2 := Lib.hid (HY1.out.below hb); have HT2 := Lib.hid (HT1.out.below hb); have HJ2 := Lib.hid (hJa _ _ _ HJ.out HB2.out); clear hb))
          refine ⟨fun _ h => (by cases h), ?_⟩
          gi_wp2
          go_roundw
          case rel => exact ⟨k + 1, by omega, by go_num, by rw [HS.out]; exact HJ2.out, HN2.out, HY2.out, HT2.out⟩
          case measure => simp [intOf]; omega
      · -- shared: yielded
        have HS := Lib.hid (show mrg (sa.take (k + 1)) sb lb = mrg (sa.take k) sb lb ++ [((tn, tm), tg, td)] by rw [HU.out, hhas]; simp)
        gi_wp2_with (refine ⟨trivial, ?_⟩; gi_at_call 78; refine (callsIn_wide.2 (has_ bs_ c4 sb ((tn, tm), tg, td) _ (by omega) hinc RB0.out)).mono ?_; rintro e w4 ⟨rfl, hb⟩; rw [hhas]; have HN1 := Lib.hid (HN0.out.trans (hb.mono HN0.out.size)); have HB1 := Lib.hid (hb0.out.trans (hb.mono hb0.out.size)); obtain ⟨q0, q1, _⟩ := (CB.out.below HN1.out).c2; have HX1 := Lib.hid (HX.out.below hb); obtain ⟨x0, x1, x2, x3, _⟩ := HX1.out.c4; have HY1 := Lib.hid (HY0.out.below hb); have HT1 := Lib.hid (HT0.out.below hb); have MB1 := Lib.hid (MB.out.mono HN1.out); clear hb t0 t1; have y0 := HY1.out.cell 0 (by simp); simp only [List.getElem_cons_zero] at y0; obtain ⟨fn, tmps, assign, body, hy, hR⟩ := hY (mrg (sa.take k) sb lb) ((tn, tm), tg, td) w4 (hJa _ _ _ HJ.out HB1.out) (by omega); unfold sv at hy; dsimp only at hy)
        refine ⟨trivial, ?_⟩
        gi_wp2
        refine hR.mono ?_
        rintro e W3 ⟨rfl, hJ3, hk3⟩
        have HJ3 := Lib.hid hJ3
        have HN3 := Lib.hid (HN1.out.trans hk3.below)
        have HY3 := Lib.hid (Cells.kp HY1.out hk3 (.inr ⟨hzY, by omega⟩))
        have HT3 := Lib.hid (Cells.kp HT1.out hk3 (.inr ⟨hzT, by omega⟩))
        clear hJ3 hk3
        gi_wp2
        go_roundw
        case rel => exact ⟨k + 1, by omega, by go_num, by rw [HS.out]; exact HJ3.out, HN3.out, HY3.out, HT3.out⟩
        case measure => simp [intOf]; omega
    · obtain rfl : k = sa.length := by omega
      obtain ⟨p0, p1, _⟩ := (CA.out.below HN.out).c2
      obtain ⟨q0, q1, _⟩ := (CB.out.below HN.out).c2
      gi_wp2_with (refine ⟨trivial, ?_⟩; gi_at_call 56; refine (callsIn_wide.2 (unseen_ bs_ am sb.length la.length c4 c1 wr)).mono ?_; rintro e w6 ⟨rfl, hu0, hu1, hb6⟩)
      have HN6 := Lib.hid (HN.out.trans (hb6.mono HN.out.size))
      have HY6 := Lib.hid (HY.out.below hb6)
      have hJ6 := hJa _ _ _ HJ.out hb6
      rw [List.take_length] at hJ6
      have hz6 : wr.heap.size + 2 ≤ w6.heap.size := by have := hu1.lt; omega
      have hYlt := HY.out.lt
      have hzr : W0.heap.size + 2 ≤ wr.heap.size := by omega
      have hml : (mrg sa sb lb).length ≤ sa.length := List.length_filter_le _ _
      refine wpIn_rangeT (n := n) (gf := 98) (lb := #[.pointer (some ⟨wr.heap.size, 0, none⟩), .pointer (some ⟨wr.heap.size + 1, 0, none⟩)]) (by first | rfl | simp [go_sem]) (enters_of Try.func98 (by kernel_rfl) rfl)
        (unseen1_T (n - 1) wr.heap.size (wr.heap.size + 1) bs_ am c4 c1 sb la (W0.heap.size + 2) (w6.heap.size + 1) (by omega) (by omega) hla hwb w w6 hu0 hu1 (.inr ⟨by omega, by omega⟩) (.inr ⟨by omega, by omega⟩) MA.out RB.out HN6.out)
        (Below.refl _ _) rfl h1 KpX.trans (KpX.put (by have := HN6.out.size; omega) (by omega))
        (fun pre W' => (J (mrg sa sb lb ++ pre) W' ∧ Cells W' Y [.func (.yield lp) #[] #[]]) ∧ Below w.heap.size w W')
        (fun s X Y' row hs hg hr => ⟨⟨hJ _ X Y' row hs.1.1 hg (fun r e => ⟨by have := (hr r e).1; omega, (hr r e).2⟩), Cells.turn hs.1.2 (by simp) hg (fun r e => (hr r e).2)⟩, hs.2.grown hg hs.2.size (fun k e => by have := (hr k e).1; have := HN6.out.size; omega)⟩)
        ⟨⟨by rw [List.append_nil]; exact hJ6, HY6.out⟩, HN6.out⟩
        (fun x a' W => ∃ Bx, Cells W Bx [.int .i64 x.1.1, .int .i64 x.1.2, .bool x.2.1, .string x.2.2] ∧ a' = { tmps := #[.func (.yield lp) #[] #[], .pointer (some ⟨bb, 0, none⟩), .pointer (some ⟨ba, 0, none⟩), .pointer (some ⟨Y, 0, none⟩), .pointer (some ⟨T, 0, none⟩), undef, u6, .pointer (some ⟨Bx, 0, none⟩), .pointer (some ⟨bb, 1, none⟩), .slice bs_ sb.length c4, .agg #[.slice bs_ sb.length c4, .func (.func 113) #[] #[]], .pointer (some ⟨ba, 1, none⟩), .slice as_ sa.length c2, .int .i64 sa.length, .int .i64 sa.length, .bool false, u16, u17, u18, u19, u20, u21, u22, u23, u24, u25, u26, u27, u28, u29, u30, u31, u32, u33, u34, u35, .pointer (some ⟨bb, 1, none⟩), .slice bs_ sb.length c4, .pointer (some ⟨ba, 0, none⟩), .slice am la.length c1, .func (.func 98) #[] #[.pointer (some ⟨wr.heap.size, 0, none⟩), .pointer (some ⟨wr.heap.size + 1, 0, none⟩)], sv x, undef, undef, undef, undef], defers := [] })
        (fun x a' _ X Y row hs hg hr => by obtain ⟨Bx, h2, h3⟩ := hs; exact ⟨Bx, Cells.turn h2 (by simp) hg (fun r e => (hr r e).2), h3⟩)
        ?assign ?body ?done
      case assign =>
        rintro l2 pre x W2 K ⟨⟨hj, hy2⟩, hn2⟩ hK
        obtain ⟨⟨tn, tm⟩, tg, td⟩ := x
        have hbb := step_alloc W2 (.cells #[.int .i64 tn, .int .i64 tm, .bool tg, .string td] 48)
        unfold sv at hK ⊢
        gi_wp2
        refine hK _ _ (keepsFrom_below hbb) (KpX.of_below hn2.size hbb) ⟨⟨hJa _ _ _ hj hbb, hy2.below hbb⟩, hn2.trans (hbb.mono hn2.size)⟩ ⟨W2.heap.size, ?_, rfl⟩
        exact Cells.new W2 #[.int .i64 tn, .int .i64 tm, .bool tg, .string td] 48
      case body =>
        rintro l2 pre x a' W2 ⟨⟨hj, hy2⟩, hn2⟩ ⟨Bx, bX, rfl⟩ hlt2
        obtain ⟨⟨tn, tm⟩, tg, td⟩ := x
        obtain ⟨x0, x1, x2, x3, _⟩ := bX.c4
        have h1' : 1 ≤ n - 1 - 1 := by omega
        have y0 := hy2.cell 0 (by simp)
        simp only [List.getElem_cons_zero] at y0
        obtain ⟨fn, tmps, assign, body, hy, hR⟩ := anyDepth (n - 1 - 1 - 1) (hY (mrg sa sb lb ++ pre) ((tn, tm), tg, td) W2 hj (by rw [List.length_append]; omega))
        unfold sv at hy
        dsimp only at hy
        gi_wp2
        refine RoundIn.mono (show RoundIn (Fence.wide.inRound l2) _ _ _ _ _ _ _ _ _ from hR) ?_
        rintro e W3 ⟨rfl, hJ3, hk3⟩
        gi_wp2
        exact ⟨hk3.keeps (by omega) _ (by omega), hk3.less (by omega), ⟨by rw [← List.append_assoc]; exact hJ3, Cells.kp hy2 hk3 (.inr ⟨hzY, by omega⟩)⟩, hn2.trans hk3.below⟩
      case done =>
        rintro D W3 hD ⟨⟨hj, hy3⟩, hn3⟩ hK
        gi_wp2
        refine ⟨by simp, .inl ⟨_, _, rfl, run_takeDeferred hK, ?_⟩⟩
        exact ⟨_, results_none rfl _ _ _, ⟨_, rfl⟩, hJ _ _ _ _ hj (grownBy_putObj' W3 D (.deferred none)) (fun r e => by cases e; exact ⟨by omega, _, hK, rfl⟩)⟩
theorem merged_ (a b : Option Addr) (c d : Option Addr) (n1 n2 n3 n4 k1 k2 k3 k4 : Nat) (w : World) :
    Calls Try.prog 85 #[.agg #[.slice a n1 k1, .slice b n2 k2], .agg #[.slice c n3 k3, .slice d n4 k4]] w fun e w' => e = .returned (.func (.func 115) #[] #[.pointer (some ⟨w.heap.size + 1, 0, none⟩), .pointer (some ⟨w.heap.size, 0, none⟩)]) ∧
      Cells w' w.heap.size [.slice a n1 k1, .slice b n2 k2] ∧ Cells w' (w.heap.size + 1) [.slice c n3 k3, .slice d n4 k4] ∧ Below w.heap.size w w' := by
  go_enter Try.func85, Try.ntmps85
  go_wp2
  go_ret
  have hb := step_alloc w (.cells #[.slice a n1 k1, .slice b n2 k2] 26)
  have hb2 := step_alloc (w.alloc (.cells #[.slice a n1 k1, .slice b n2 k2] 26)) (.cells #[.slice c n3 k3, .slice d n4 k4] 26)
  have c0 := Cells.new (w.alloc (.cells #[.slice a n1 k1, .slice b n2 k2] 26)) #[.slice c n3 k3, .slice d n4 k4] 26
  rw [World.size_alloc] at c0
  exact ⟨rfl, (Cells.new w #[.slice a n1 k1, .slice b n2 k2] 26).below hb2, c0, hb.trans (hb2.mono (by simp))⟩
end Go.Proofs.Ytgbcogncnhbmeaa.Sb
