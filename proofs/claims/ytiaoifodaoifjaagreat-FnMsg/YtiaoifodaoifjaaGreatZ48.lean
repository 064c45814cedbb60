/- Parts of a law: FnMsgP17. Conditions: on sizes, as each says. -/
import Derived.Test.YtiaoifodaoifjaaGreatZ1
import Derived.Test.YtiaoifodaoifjaaGreatZ47
set_option linter.unusedSimpArgs false
set_option linter.unusedVariables false
namespace Go.Proofs.YtiaoifodaoifjaaGreat.Sb
open Go.RowKit Go.Proofs.YtiaoifodaoifjaaGreat.Mk Go.Proofs.YtiaoifodaoifjaaGreat.Rw Go.Proofs.YtiaoifodaoifjaaGreat.Dr Go.Proofs.YtiaoifodaoifjaaGreat.Se Go.Proofs.YtiaoifodaoifjaaGreat.Nu Go.Proofs.YtiaoifodaoifjaaGreat.Cr
def regAt (n : Nat) : Code → Option Code
  | .region k o d => bif Nat.beq k n then some (.region k o d) else none
  | .seq a b => match regAt n a with | some c => some c | none => regAt n b
  | .cond _ a b => match regAt n a with | some c => some c | none => regAt n b
  | .block _ c => regAt n c
  | .loop c => regAt n c
  | .scope c => regAt n c
  | _ => none
noncomputable def c17 : Code := (Tryz.f3.body.bind (regAt 17)).getD .skip
set_option maxRecDepth 100000 in
set_option maxHeartbeats 16000000 in
theorem p17 {o0 o1 o2 o3 o4 o5 o6 o7 o8 o9 o10 o11 o12 o16 o17 o18 o19 o20 o21 o22 o23 o24 o25 o26 o27 o28 o29 o30 o31 o32 o33 o34 o35 o36 o37 o38 o39 o40 o41 o42 o43 o44 o45 o46 o47 o48 o49 o50 o51 o52 o53 o54 o55 o56 o57 o58 o59 o60 o61 o62 o63 o64 o65 o66 o67 o68 o69 o70 o71 o72 o73 o74 o75 o76 o77 o78 o79 o80 o81 o82 o83 o84 o85 o86 o87 o88 o89 o90 o91 o92 o93 o94 o95 o96 o97 o98 o99 o100 o101 o102 o103 o104 o105 o106 o107 o108 o109 o110 o111 o112 o113 o114 o115 o116 o117 o118 o119 o120 o121 o122 o123 o124 o125 o126 o127 o128 o129 o130 o131 o132 o133 o134 o135 o136 o137 o138 o139 o140 o141 o142 o143 o144 o145 o146 o147 o148 o149 o150 o151 o152 o153 o154 o155 o156 o157 o158 o159 o160 o161 o162 o163 o164 o165 o166 o167 o168 o169 o170 o171 o172 o173 o174 o175 : Value} {q r : MsgD} {nn RC : Int} {l2 : List (Int × Int)} {s2 : List Sib} {pa pb sa sb : Option Addr} {pc pd sc sd g13 g15 : Nat} {w11 : World} {K : Act → World → Prop} {R : Ending → World → Prop}
    (V13 : Hid (Cells w11 g13 [.int .i64 q.kd, .int .i64 q.fr, .int .i64 q.tq, .int .i64 q.rq, .string q.ky, .int .i64 q.ow, .slice pa q.l.length pc, .slice pb q.s.length pd])) (V15 : Hid (Cells w11 g15 [.slice sa l2.length sc, .slice sb s2.length sd])) (BQ : Hid (∀ W, Base w11 W → AtM W q pa pb)) (BS : Hid (∀ W, Base w11 W → AtS W l2 s2 sa sb)) (HR : Hid (turnM q nn l2 s2 = r)) (HRC : Hid (turnC q nn l2 s2 = RC))
    (HK : Hid (∀ (g16 g17 : Nat) (ra rb va vb : Option Addr) (rc rdd vc vd : Nat) (v120 v121 v122 v123 v124 v125 v126 v127 : Value) (wx : World), Cells wx g16 [.int .i64 r.kd, .int .i64 r.fr, .int .i64 r.tq, .int .i64 r.rq, .string r.ky, .int .i64 r.ow, .slice ra r.l.length rc, .slice rb r.s.length rdd, .int .i64 RC] → Cells wx g17 [.int .i64 r.kd, .int .i64 r.fr, .int .i64 r.tq, .int .i64 r.rq, .string r.ky, .int .i64 r.ow, .slice va r.l.length vc, .slice vb r.s.length vd, .int .i64 RC] → MarksAt wx ra r.l → SibsAt wx rb r.s → MarksAt wx va r.l → SibsAt wx vb r.s → Base w11 wx → K ⟨#[o0, o1, o2, o3, o4, o5, o6, o7, o8, o9, o10, o11, o12, .pointer (some ⟨g13, 0, none⟩), .int .i64 nn, .pointer (some ⟨g15, 0, none⟩), .pointer (some ⟨g16, 0, none⟩), .pointer (some ⟨g17, 0, none⟩), o18, o19, o20, o21, o22, o23, o24, o25, o26, o27, o28, o29, o30, o31, o32, o33, o34, o35, o36, o37, o38, o39, o40, o41, o42, o43, o44, o45, o46, o47, o48, o49, o50, o51, o52, o53, o54, o55, o56, o57, o58, o59, o60, o61, o62, o63, o64, o65, o66, o67, o68, o69, o70, o71, o72, o73, o74, o75, o76, o77, o78, o79, o80, o81, o82, o83, o84, o85, o86, o87, o88, o89, o90, o91, o92, o93, o94, o95, o96, o97, o98, o99, o100, o101, o102, o103, o104, o105, o106, o107, o108, o109, o110, o111, o112, o113, o114, o115, o116, o117, o118, o119, v120, v121, v122, v123, v124, v125, v126, v127, o128, o129, o130, o131, o132, o133, o134, o135, o136, o137, o138, o139, o140, o141, o142, o143, o144, o145, o146, o147, o148, o149, o150, o151, o152, o153, o154, o155, o156, o157, o158, o159, o160, o161, o162, o163, o164, o165, o166, o167, o168, o169, o170, o171, o172, o173, o174, o175], []⟩ wx)) :
    Code.wp Tryz.prog c17 (Exit.then K (bodyPost Tryz.prog Tryz.f3 R)) ⟨#[o0, o1, o2, o3, o4, o5, o6, o7, o8, o9, o10, o11, o12, .pointer (some ⟨g13, 0, none⟩), .int .i64 nn, .pointer (some ⟨g15, 0, none⟩), o16, o17, o18, o19, o20, o21, o22, o23, o24, o25, o26, o27, o28, o29, o30, o31, o32, o33, o34, o35, o36, o37, o38, o39, o40, o41, o42, o43, o44, o45, o46, o47, o48, o49, o50, o51, o52, o53, o54, o55, o56, o57, o58, o59, o60, o61, o62, o63, o64, o65, o66, o67, o68, o69, o70, o71, o72, o73, o74, o75, o76, o77, o78, o79, o80, o81, o82, o83, o84, o85, o86, o87, o88, o89, o90, o91, o92, o93, o94, o95, o96, o97, o98, o99, o100, o101, o102, o103, o104, o105, o106, o107, o108, o109, o110, o111, o112, o113, o114, o115, o116, o117, o118, o119, o120, o121, o122, o123, o124, o125, o126, o127, o128, o129, o130, o131, o132, o133, o134, o135, o136, o137, o138, o139, o140, o141, o142, o143, o144, o145, o146, o147, o148, o149, o150, o151, o152, o153, o154, o155, o156, o157, o158, o159, o160, o161, o162, o163, o164, o165, o166, o167, o168, o169, o170, o171, o172, o173, o174, o175], []⟩ w11 := by
  conv => arg 2; whnf
  have u13 := V13.out.lt
  have u15 := V15.out.lt
  have D4 := jj (show Base w11 w11 from Below.refl _ _)
  have hb : Below w11.heap.size w11 w11.drew := (Below.refl _ _).drew
  replace V13 := jj (V13.out.below hb)
  replace V15 := jj (V15.out.below hb)
  replace D4 := jj (D4.out.below hb)
  refine wp_region_held_drew (S := (fun w' => w'.cell? ⟨g13, 0, none⟩ = some (.int .i64 q.kd) ∧ w'.cell? ⟨g13, 1, none⟩ = some (.int .i64 q.fr) ∧ w'.cell? ⟨g13, 2, none⟩ = some (.int .i64 q.tq) ∧ w'.cell? ⟨g13, 3, none⟩ = some (.int .i64 q.rq) ∧ w'.cell? ⟨g13, 4, none⟩ = some (.string q.ky) ∧ w'.cell? ⟨g13, 5, none⟩ = some (.int .i64 q.ow) ∧ w'.cell? ⟨g13, 6, none⟩ = some (.slice pa q.l.length pc) ∧ w'.cell? ⟨g13, 7, none⟩ = some (.slice pb q.s.length pd) ∧ w'.cell? ⟨g15, 0, none⟩ = some (.slice sa l2.length sc) ∧ w'.cell? ⟨g15, 1, none⟩ = some (.slice sb s2.length sd))) (by kernel_rfl) (by exact j8 V13.out.c8 ⟨V15.out.c2.1, V15.out.c2.2.1⟩) (fun hHeld => ?_)
  have zm0 : w11.heap.size ≤ w11.drew.heap.size := Nat.le_refl _
  clear hb
  generalize w11.drew = wm1 at zm0 hHeld V13 V15 D4 ⊢
  refine tk 0 (v := ?_) ?_
  try walk_nrm
  refine tk 1 (v := ?_) ?_
  try walk_nrm
  refine tk 2 (v := ?_) ?_
  try walk_nrm
  refine tk 4 (v := ?_) ?_
  try walk_nrm
  refine tk 5 (v := ?_) ?_
  try walk_nrm
  refine tk 6 (v := ?_) ?_
  try walk_nrm
  refine wpAnyH_ready (rs := [3, 8, 9]) (by kernel_rfl) (by simp) ?_
  refine AllReadyH.cons rfl (fun K hK => ?_) (AllReadyH.cons rfl (fun K hK => ?_) (AllReadyH.cons rfl (fun K hK => ?_) (AllReadyH.nil)))
  · go_simp
    refine (tn_i0 nn (BQ.out _ D4.out) (BS.out _ D4.out).ml (BS.out _ D4.out).ms (BS.out _ D4.out).ok.l6 (BS.out _ D4.out).ok.s9 (BS.out _ D4.out).ok.small (BS.out _ D4.out).ok.wf).mono ?_
    rintro e wm2 ⟨ra, rc, rb, rdd, lo1, hi1, lo2, hi2, rfl, ho, hq, y1r, y2r, y3r, y4r, -, hb⟩
    rw [HR.out] at ho hq ⊢
    rw [HRC.out]
    have Mr := jj (show OwnI wm2 lo1 hi1 ra r.l from ⟨ho, y3r⟩)
    have Nr := jj (show ROwnI 4 senc wm2 lo2 hi2 rb r.s from ⟨hq, y4r⟩)
    clear ho hq
    replace V13 := jj (V13.out.below hb)
    replace V15 := jj (V15.out.below hb)
    replace D4 := jj (D4.out.below hb)
    have zc3 := hb.size
    clear hb
    go_wp2_with fail
    refine hK.out _ _ (by exact j8 V13.out.c8 ⟨V15.out.c2.1, V15.out.c2.2.1⟩) (fun hHeld => ?_)
    clear hK K
    try walk_nrm
    refine wpAnyH_ready (rs := [7, 8, 9]) (by kernel_rfl) (by simp) ?_
    refine AllReadyH.cons rfl (fun K hK => ?_) (AllReadyH.cons rfl (fun K hK => ?_) (AllReadyH.cons rfl (fun K hK => ?_) (AllReadyH.nil)))
    · go_simp
      refine (tn_s0 nn (BQ.out _ D4.out) (BS.out _ D4.out).ml (BS.out _ D4.out).ms (BS.out _ D4.out).ok.l6 (BS.out _ D4.out).ok.s9 (BS.out _ D4.out).ok.small).mono ?_
      rintro e wm3 ⟨va, vc, vb, vd, lo3, hi3, lo4, hi4, rfl, ho, hq, y1v, y2v, y3v, y4v, -, hb⟩
      rw [HR.out] at ho hq ⊢
      rw [HRC.out]
      have Mv := jj (show OwnI wm3 lo3 hi3 va r.l from ⟨ho, y3v⟩)
      have Nv := jj (show ROwnI 4 senc wm3 lo4 hi4 vb r.s from ⟨hq, y4v⟩)
      clear ho hq
      replace V13 := jj (V13.out.below hb)
      replace V15 := jj (V15.out.below hb)
      replace D4 := jj (D4.out.below hb)
      replace Mr := jj (Mr.out.below hb)
      replace Nr := jj (Nr.out.below hb)
      have zc7 := hb.size
      clear hb
      go_wp2_with fail
      refine hK.out _ _ (by exact j8 V13.out.c8 ⟨V15.out.c2.1, V15.out.c2.2.1⟩) (fun hHeld => ?_)
      clear hK K
      try walk_nrm
      refine wpAnyH_ready (rs := [8, 9]) (by kernel_rfl) (by simp) ?_
      refine AllReadyH.cons rfl (fun K hK => ?_) (AllReadyH.cons rfl (fun K hK => ?_) (AllReadyH.nil))
      · go_simp
        have hb := step_alloc wm3 (.cells #[.int .i64 0, .int .i64 0, .int .i64 0, .int .i64 0, .string ⟨#[]⟩, .int .i64 0, .slice none 0 0, .slice none 0 0, .int .i64 0] 33)
        replace V13 := jj (V13.out.below hb)
        replace V15 := jj (V15.out.below hb)
        replace D4 := jj (D4.out.below hb)
        replace Mr := jj (Mr.out.below hb)
        replace Nr := jj (Nr.out.below hb)
        replace Mv := jj (Mv.out.below hb)
        replace Nv := jj (Nv.out.below hb)
        have X16 := jj (Cells.new wm3 #[.int .i64 0, .int .i64 0, .int .i64 0, .int .i64 0, .string ⟨#[]⟩, .int .i64 0, .slice none 0 0, .slice none 0 0, .int .i64 0] 33)
        simp only [List.toList_toArray] at X16
        have z_X16 : wm3.heap.size < (wm3.alloc (.cells #[.int .i64 0, .int .i64 0, .int .i64 0, .int .i64 0, .string ⟨#[]⟩, .int .i64 0, .slice none 0 0, .slice none 0 0, .int .i64 0] 33)).heap.size := by simp
        obtain ⟨g_X16, hg_X16⟩ : ∃ g, g = wm3.heap.size := ⟨_, rfl⟩
        rw [← hg_X16] at X16 z_X16 ⊢
        have zl_X16 : wm3.heap.size ≤ g_X16 := Nat.le_of_eq hg_X16.symm
        clear hg_X16
        clear hb
        generalize wm3.alloc (.cells #[.int .i64 0, .int .i64 0, .int .i64 0, .int .i64 0, .string ⟨#[]⟩, .int .i64 0, .slice none 0 0, .slice none 0 0, .int .i64 0] 33) = wm4 at z_X16 V13 V15 D4 Mr Nr Mv Nv X16 ⊢
        refine hK.out _ _ (by exact j8 V13.out.c8 ⟨V15.out.c2.1, V15.out.c2.2.1⟩) (fun hHeld => ?_)
        clear hK K
        try walk_nrm
        refine rd 9 (fun K hK => ?_)
        go_simp
        have hb := step_alloc wm4 (.cells #[.int .i64 0, .int .i64 0, .int .i64 0, .int .i64 0, .string ⟨#[]⟩, .int .i64 0, .slice none 0 0, .slice none 0 0, .int .i64 0] 33)
        replace V13 := jj (V13.out.below hb)
        replace V15 := jj (V15.out.below hb)
        replace D4 := jj (D4.out.below hb)
        replace Mr := jj (Mr.out.below hb)
        replace Nr := jj (Nr.out.below hb)
        replace Mv := jj (Mv.out.below hb)
        replace Nv := jj (Nv.out.below hb)
        replace X16 := jj (X16.out.below hb)
        have X17 := jj (Cells.new wm4 #[.int .i64 0, .int .i64 0, .int .i64 0, .int .i64 0, .string ⟨#[]⟩, .int .i64 0, .slice none 0 0, .slice none 0 0, .int .i64 0] 33)
        simp only [List.toList_toArray] at X17
        have z_X17 : wm4.heap.size < (wm4.alloc (.cells #[.int .i64 0, .int .i64 0, .int .i64 0, .int .i64 0, .string ⟨#[]⟩, .int .i64 0, .slice none 0 0, .slice none 0 0, .int .i64 0] 33)).heap.size := by simp
        obtain ⟨g_X17, hg_X17⟩ : ∃ g, g = wm4.heap.size := ⟨_, rfl⟩
        rw [← hg_X17] at X17 z_X17 ⊢
        have zl_X17 : wm4.heap.size ≤ g_X17 := Nat.le_of_eq hg_X17.symm
        clear hg_X17
        clear hb
        generalize wm4.alloc (.cells #[.int .i64 0, .int .i64 0, .int .i64 0, .int .i64 0, .string ⟨#[]⟩, .int .i64 0, .slice none 0 0, .slice none 0 0, .int .i64 0] 33) = wm5 at z_X17 V13 V15 D4 Mr Nr Mv Nv X16 X17 ⊢
        refine hK.out _ _ (by exact j8 V13.out.c8 ⟨V15.out.c2.1, V15.out.c2.2.1⟩) (fun hHeld => ?_)
        clear hK K
        try walk_nrm
        refine rd 10 (fun K hK => ?_)
        go_simp
        obtain ⟨sx0, sx1, sx2, sx3, sx4, sx5, sx6, sx7, sx8, sx9, sx10, sx11, sx12, sx13, sx14, sx15, sx16, sx17⟩ := X16.out.c9
        go_simp
        clear sx0 sx1 sx2 sx3 sx4 sx5 sx6 sx7 sx8 sx9 sx10 sx11 sx12 sx13 sx14 sx15 sx16 sx17
        have hw := ((((((((one_store wm5 g_X16 0 (.int .i64 r.kd)).trans (one_store _ g_X16 1 (.int .i64 r.fr))).trans (one_store _ g_X16 2 (.int .i64 r.tq))).trans (one_store _ g_X16 3 (.int .i64 r.rq))).trans (one_store _ g_X16 4 (.string r.ky))).trans (one_store _ g_X16 5 (.int .i64 r.ow))).trans (one_store _ g_X16 6 (.slice ra r.l.length rc))).trans (one_store _ g_X16 7 (.slice rb r.s.length rdd))).trans (one_store _ g_X16 8 (.int .i64 RC))
        replace X16 := jj ((((((((((X16.out).set 0 (by simp) (.int .i64 r.kd)).set 1 (by simp) (.int .i64 r.fr)).set 2 (by simp) (.int .i64 r.tq)).set 3 (by simp) (.int .i64 r.rq)).set 4 (by simp) (.string r.ky)).set 5 (by simp) (.int .i64 r.ow)).set 6 (by simp) (.slice ra r.l.length rc)).set 7 (by simp) (.slice rb r.s.length rdd)).set 8 (by simp) (.int .i64 RC))
        simp only [List.set_cons_zero, List.set_cons_succ] at X16
        replace V13 := jj (V13.out.within hw (by omega))
        replace V15 := jj (V15.out.within hw (by omega))
        replace D4 := jj (D4.out.within hw (by omega))
        replace Mr := jj (Mr.out.within hw (by omega))
        replace Nr := jj (Nr.out.within hw (by omega))
        replace Mv := jj (Mv.out.within hw (by omega))
        replace Nv := jj (Nv.out.within hw (by omega))
        replace X17 := jj (X17.out.within hw (by omega))
        have zs10 := hw.size
        clear hw
        generalize (World.setCell (World.setCell (World.setCell (World.setCell (World.setCell (World.setCell (World.setCell (World.setCell (World.setCell wm5 ⟨g_X16, 0, none⟩ (.int .i64 r.kd)) ⟨g_X16, 1, none⟩ (.int .i64 r.fr)) ⟨g_X16, 2, none⟩ (.int .i64 r.tq)) ⟨g_X16, 3, none⟩ (.int .i64 r.rq)) ⟨g_X16, 4, none⟩ (.string r.ky)) ⟨g_X16, 5, none⟩ (.int .i64 r.ow)) ⟨g_X16, 6, none⟩ (.slice ra r.l.length rc)) ⟨g_X16, 7, none⟩ (.slice rb r.s.length rdd)) ⟨g_X16, 8, none⟩ (.int .i64 RC)) = wm6 at zs10 V13 V15 D4 Mr Nr Mv Nv X16 X17 ⊢
        refine hK.out _ _ (by exact j8 V13.out.c8 ⟨V15.out.c2.1, V15.out.c2.2.1⟩) (fun hHeld => ?_)
        clear hK K
        try walk_nrm
        refine rd 11 (fun K hK => ?_)
        go_simp
        obtain ⟨sx0, sx1, sx2, sx3, sx4, sx5, sx6, sx7, sx8, sx9, sx10, sx11, sx12, sx13, sx14, sx15, sx16, sx17⟩ := X17.out.c9
        go_simp
        clear sx0 sx1 sx2 sx3 sx4 sx5 sx6 sx7 sx8 sx9 sx10 sx11 sx12 sx13 sx14 sx15 sx16 sx17
        have hw := ((((((((one_store wm6 g_X17 0 (.int .i64 r.kd)).trans (one_store _ g_X17 1 (.int .i64 r.fr))).trans (one_store _ g_X17 2 (.int .i64 r.tq))).trans (one_store _ g_X17 3 (.int .i64 r.rq))).trans (one_store _ g_X17 4 (.string r.ky))).trans (one_store _ g_X17 5 (.int .i64 r.ow))).trans (one_store _ g_X17 6 (.slice va r.l.length vc))).trans (one_store _ g_X17 7 (.slice vb r.s.length vd))).trans (one_store _ g_X17 8 (.int .i64 RC))
        replace X17 := jj ((((((((((X17.out).set 0 (by simp) (.int .i64 r.kd)).set 1 (by simp) (.int .i64 r.fr)).set 2 (by simp) (.int .i64 r.tq)).set 3 (by simp) (.int .i64 r.rq)).set 4 (by simp) (.string r.ky)).set 5 (by simp) (.int .i64 r.ow)).set 6 (by simp) (.slice va r.l.length vc)).set 7 (by simp) (.slice vb r.s.length vd)).set 8 (by simp) (.int .i64 RC))
        simp only [List.set_cons_zero, List.set_cons_succ] at X17
        replace V13 := jj (V13.out.within hw (by omega))
        replace V15 := jj (V15.out.within hw (by omega))
        replace D4 := jj (D4.out.within hw (by omega))
        replace Mr := jj (Mr.out.within hw (by omega))
        replace Nr := jj (Nr.out.within hw (by omega))
        replace Mv := jj (Mv.out.within hw (by omega))
        replace Nv := jj (Nv.out.within hw (by omega))
        replace X16 := jj (X16.out.within hw (by omega))
        have zs11 := hw.size
        clear hw
        generalize (World.setCell (World.setCell (World.setCell (World.setCell (World.setCell (World.setCell (World.setCell (World.setCell (World.setCell wm6 ⟨g_X17, 0, none⟩ (.int .i64 r.kd)) ⟨g_X17, 1, none⟩ (.int .i64 r.fr)) ⟨g_X17, 2, none⟩ (.int .i64 r.tq)) ⟨g_X17, 3, none⟩ (.int .i64 r.rq)) ⟨g_X17, 4, none⟩ (.string r.ky)) ⟨g_X17, 5, none⟩ (.int .i64 r.ow)) ⟨g_X17, 6, none⟩ (.slice va r.l.length vc)) ⟨g_X17, 7, none⟩ (.slice vb r.s.length vd)) ⟨g_X17, 8, none⟩ (.int .i64 RC)) = wm7 at zs11 V13 V15 D4 Mr Nr Mv Nv X16 X17 ⊢
        refine hK.out _ _ (by exact j8 V13.out.c8 ⟨V15.out.c2.1, V15.out.c2.2.1⟩) (fun hHeld => ?_)
        clear hK K
        try walk_nrm
        refine rx ?_
        exact HK.out _ _ _ _ _ _ _ _ _ _ _ _ _ _ _ _ _ _ _ X16.out X17.out Mr.out.at_ Nr.out.at_ Mv.out.at_ Nv.out.at_ D4.out
      · go_simp
        have hb := step_alloc wm3 (.cells #[.int .i64 0, .int .i64 0, .int .i64 0, .int .i64 0, .string ⟨#[]⟩, .int .i64 0, .slice none 0 0, .slice none 0 0, .int .i64 0] 33)
        replace V13 := jj (V13.out.below hb)
        replace V15 := jj (V15.out.below hb)
        replace D4 := jj (D4.out.below hb)
        replace Mr := jj (Mr.out.below hb)
        replace Nr := jj (Nr.out.below hb)
        replace Mv := jj (Mv.out.below hb)
        replace Nv := jj (Nv.out.below hb)
        have X17 := jj (Cells.new wm3 #[.int .i64 0, .int .i64 0, .int .i64 0, .int .i64 0, .string ⟨#[]⟩, .int .i64 0, .slice none 0 0, .slice none 0 0, .int .i64 0] 33)
        simp only [List.toList_toArray] at X17
        have z_X17 : wm3.heap.size < (wm3.alloc (.cells #[.int .i64 0, .int .i64 0, .int .i64 0, .int .i64 0, .string ⟨#[]⟩, .int .i64 0, .slice none 0 0, .slice none 0 0, .int .i64 0] 33)).heap.size := by simp
        obtain ⟨g_X17, hg_X17⟩ : ∃ g, g = wm3.heap.size := ⟨_, rfl⟩
        rw [← hg_X17] at X17 z_X17 ⊢
        have zl_X17 : wm3.heap.size ≤ g_X17 := Nat.le_of_eq hg_X17.symm
        clear hg_X17
        clear hb
        generalize wm3.alloc (.cells #[.int .i64 0, .int .i64 0, .int .i64 0, .int .i64 0, .string ⟨#[]⟩, .int .i64 0, .slice none 0 0, .slice none 0 0, .int .i64 0] 33) = wm8 at z_X17 V13 V15 D4 Mr Nr Mv Nv X17 ⊢
        refine hK.out _ _ (by exact j8 V13.out.c8 ⟨V15.out.c2.1, V15.out.c2.2.1⟩) (fun hHeld => ?_)
        clear hK K
        try walk_nrm
        refine rd 8 (fun K hK => ?_)
        go_simp
        have hb := step_alloc wm8 (.cells #[.int .i64 0, .int .i64 0, .int .i64 0, .int .i64 0, .string ⟨#[]⟩, .int .i64 0, .slice none 0 0, .slice none 0 0, .int .i64 0] 33)
        replace V13 := jj (V13.out.below hb)
        replace V15 := jj (V15.out.below hb)
        replace D4 := jj (D4.out.below hb)
        replace Mr := jj (Mr.out.below hb)
        replace Nr := jj (Nr.out.below hb)
        replace Mv := jj (Mv.out.below hb)
        replace Nv := jj (Nv.out.below hb)
        replace X17 := jj (X17.out.below hb)
        have X16 := jj (Cells.new wm8 #[.int .i64 0, .int .i64 0, .int .i64 0, .int .i64 0, .string ⟨#[]⟩, .int .i64 0, .slice none 0 0, .slice none 0 0, .int .i64 0] 33)
        simp only [List.toList_toArray] at X16
        have z_X16 : wm8.heap.size < (wm8.alloc (.cells #[.int .i64 0, .int .i64 0, .int .i64 0, .int .i64 0, .string ⟨#[]⟩, .int .i64 0, .slice none 0 0, .slice none 0 0, .int .i64 0] 33)).heap.size := by simp
        obtain ⟨g_X16, hg_X16⟩ : ∃ g, g = wm8.heap.size := ⟨_, rfl⟩
        rw [← hg_X16] at X16 z_X16 ⊢
        have zl_X16 : wm8.heap.size ≤ g_X16 := Nat.le_of_eq hg_X16.symm
        clear hg_X16
        clear hb
        generalize wm8.alloc (.cells #[.int .i64 0, .int .i64 0, .int .i64 0, .int .i64 0, .string ⟨#[]⟩, .int .i64 0, .slice none 0 0, .slice none 0 0, .int .i64 0] 33) = wm9 at z_X16 V13 V15 D4 Mr Nr Mv Nv X17 X16 ⊢
        refine hK.out _ _ (by exact j8 V13.out.c8 ⟨V15.out.c2.1, V15.out.c2.2.1⟩) (fun hHeld => ?_)
        clear hK K
        try walk_nrm
        refine rd 10 (fun K hK => ?_)
        go_simp
        obtain ⟨sx0, sx1, sx2, sx3, sx4, sx5, sx6, sx7, sx8, sx9, sx10, sx11, sx12, sx13, sx14, sx15, sx16, sx17⟩ := X16.out.c9
        go_simp
        clear sx0 sx1 sx2 sx3 sx4 sx5 sx6 sx7 sx8 sx9 sx10 sx11 sx12 sx13 sx14 sx15 sx16 sx17
        have hw := ((((((((one_store wm9 g_X16 0 (.int .i64 r.kd)).trans (one_store _ g_X16 1 (.int .i64 r.fr))).trans (one_store _ g_X16 2 (.int .i64 r.tq))).trans (one_store _ g_X16 3 (.int .i64 r.rq))).trans (one_store _ g_X16 4 (.string r.ky))).trans (one_store _ g_X16 5 (.int .i64 r.ow))).trans (one_store _ g_X16 6 (.slice ra r.l.length rc))).trans (one_store _ g_X16 7 (.slice rb r.s.length rdd))).trans (one_store _ g_X16 8 (.int .i64 RC))
        replace X16 := jj ((((((((((X16.out).set 0 (by simp) (.int .i64 r.kd)).set 1 (by simp) (.int .i64 r.fr)).set 2 (by simp) (.int .i64 r.tq)).set 3 (by simp) (.int .i64 r.rq)).set 4 (by simp) (.string r.ky)).set 5 (by simp) (.int .i64 r.ow)).set 6 (by simp) (.slice ra r.l.length rc)).set 7 (by simp) (.slice rb r.s.length rdd)).set 8 (by simp) (.int .i64 RC))
        simp only [List.set_cons_zero, List.set_cons_succ] at X16
        replace V13 := jj (V13.out.within hw (by omega))
        replace V15 := jj (V15.out.within hw (by omega))
        replace D4 := jj (D4.out.within hw (by omega))
        replace Mr := jj (Mr.out.within hw (by omega))
        replace Nr := jj (Nr.out.within hw (by omega))
        replace Mv := jj (Mv.out.within hw (by omega))
        replace Nv := jj (Nv.out.within hw (by omega))
        replace X17 := jj (X17.out.within hw (by omega))
        have zs10 := hw.size
        clear hw
        generalize (World.setCell (World.setCell (World.setCell (World.setCell (World.setCell (World.setCell (World.setCell (World.setCell (World.setCell wm9 ⟨g_X16, 0, none⟩ (.int .i64 r.kd)) ⟨g_X16, 1, none⟩ (.int .i64 r.fr)) ⟨g_X16, 2, none⟩ (.int .i64 r.tq)) ⟨g_X16, 3, none⟩ (.int .i64 r.rq)) ⟨g_X16, 4, none⟩ (.string r.ky)) ⟨g_X16, 5, none⟩ (.int .i64 r.ow)) ⟨g_X16, 6, none⟩ (.slice ra r.l.length rc)) ⟨g_X16, 7, none⟩ (.slice rb r.s.length rdd)) ⟨g_X16, 8, none⟩ (.int .i64 RC)) = wm10 at zs10 V13 V15 D4 Mr Nr Mv Nv X17 X16 ⊢
        refine hK.out _ _ (by exact j8 V13.out.c8 ⟨V15.out.c2.1, V15.out.c2.2.1⟩) (fun hHeld => ?_)
        clear hK K
        try walk_nrm
        refine rd 11 (fun K hK => ?_)
        go_simp
        obtain ⟨sx0, sx1, sx2, sx3, sx4, sx5, sx6, sx7, sx8, sx9, sx10, sx11, sx12, sx13, sx14, sx15, sx16, sx17⟩ := X17.out.c9
        go_simp
        clear sx0 sx1 sx2 sx3 sx4 sx5 sx6 sx7 sx8 sx9 sx10 sx11 sx12 sx13 sx14 sx15 sx16 sx17
        have hw := ((((((((one_store wm10 g_X17 0 (.int .i64 r.kd)).trans (one_store _ g_X17 1 (.int .i64 r.fr))).trans (one_store _ g_X17 2 (.int .i64 r.tq))).trans (one_store _ g_X17 3 (.int .i64 r.rq))).trans (one_store _ g_X17 4 (.string r.ky))).trans (one_store _ g_X17 5 (.int .i64 r.ow))).trans (one_store _ g_X17 6 (.slice va r.l.length vc))).trans (one_store _ g_X17 7 (.slice vb r.s.length vd))).trans (one_store _ g_X17 8 (.int .i64 RC))
        replace X17 := jj ((((((((((X17.out).set 0 (by simp) (.int .i64 r.kd)).set 1 (by simp) (.int .i64 r.fr)).set 2 (by simp) (.int .i64 r.tq)).set 3 (by simp) (.int .i64 r.rq)).set 4 (by simp) (.string r.ky)).set 5 (by simp) (.int .i64 r.ow)).set 6 (by simp) (.slice va r.l.length vc)).set 7 (by simp) (.slice vb r.s.length vd)).set 8 (by simp) (.int .i64 RC))
        simp only [List.set_cons_zero, List.set_cons_succ] at X17
        replace V13 := jj (V13.out.within hw (by omega))
        replace V15 := jj (V15.out.within hw (by omega))
        replace D4 := jj (D4.out.within hw (by omega))
        replace Mr := jj (Mr.out.within hw (by omega))
        replace Nr := jj (Nr.out.within hw (by omega))
        replace Mv := jj (Mv.out.within hw (by omega))
        replace Nv := jj (Nv.out.within hw (by omega))
        replace X16 := jj (X16.out.within hw (by omega))
        have zs11 := hw.size
        clear hw
        generalize (World.setCell (World.setCell (World.setCell (World.setCell (World.setCell (World.setCell (World.setCell (World.setCell (World.setCell wm10 ⟨g_X17, 0, none⟩ (.int .i64 r.kd)) ⟨g_X17, 1, none⟩ (.int .i64 r.fr)) ⟨g_X17, 2, none⟩ (.int .i64 r.tq)) ⟨g_X17, 3, none⟩ (.int .i64 r.rq)) ⟨g_X17, 4, none⟩ (.string r.ky)) ⟨g_X17, 5, none⟩ (.int .i64 r.ow)) ⟨g_X17, 6, none⟩ (.slice va r.l.length vc)) ⟨g_X17, 7, none⟩ (.slice vb r.s.length vd)) ⟨g_X17, 8, none⟩ (.int .i64 RC)) = wm11 at zs11 V13 V15 D4 Mr Nr Mv Nv X17 X16 ⊢
        refine hK.out _ _ (by exact j8 V13.out.c8 ⟨V15.out.c2.1, V15.out.c2.2.1⟩) (fun hHeld => ?_)
        clear hK K
        try walk_nrm
        refine rx ?_
        exact HK.out _ _ _ _ _ _ _ _ _ _ _ _ _ _ _ _ _ _ _ X16.out X17.out Mr.out.at_ Nr.out.at_ Mv.out.at_ Nv.out.at_ D4.out
    · go_simp
      have hb := step_alloc wm2 (.cells #[.int .i64 0, .int .i64 0, .int .i64 0, .int .i64 0, .string ⟨#[]⟩, .int .i64 0, .slice none 0 0, .slice none 0 0, .int .i64 0] 33)
      replace V13 := jj (V13.out.below hb)
      replace V15 := jj (V15.out.below hb)
      replace D4 := jj (D4.out.below hb)
      replace Mr := jj (Mr.out.below hb)
      replace Nr := jj (Nr.out.below hb)
      have X16 := jj (Cells.new wm2 #[.int .i64 0, .int .i64 0, .int .i64 0, .int .i64 0, .string ⟨#[]⟩, .int .i64 0, .slice none 0 0, .slice none 0 0, .int .i64 0] 33)
      simp only [List.toList_toArray] at X16
      have z_X16 : wm2.heap.size < (wm2.alloc (.cells #[.int .i64 0, .int .i64 0, .int .i64 0, .int .i64 0, .string ⟨#[]⟩, .int .i64 0, .slice none 0 0, .slice none 0 0, .int .i64 0] 33)).heap.size := by simp
      obtain ⟨g_X16, hg_X16⟩ : ∃ g, g = wm2.heap.size := ⟨_, rfl⟩
      rw [← hg_X16] at X16 z_X16 ⊢
      have zl_X16 : wm2.heap.size ≤ g_X16 := Nat.le_of_eq hg_X16.symm
      clear hg_X16
      clear hb
      generalize wm2.alloc (.cells #[.int .i64 0, .int .i64 0, .int .i64 0, .int .i64 0, .string ⟨#[]⟩, .int .i64 0, .slice none 0 0, .slice none 0 0, .int .i64 0] 33) = wm12 at z_X16 V13 V15 D4 Mr Nr X16 ⊢
      refine hK.out _ _ (by exact j8 V13.out.c8 ⟨V15.out.c2.1, V15.out.c2.2.1⟩) (fun hHeld => ?_)
      clear hK K
      try walk_nrm
      refine wpAnyH_ready (rs := [7, 9]) (by kernel_rfl) (by simp) ?_
      refine AllReadyH.cons rfl (fun K hK => ?_) (AllReadyH.cons rfl (fun K hK => ?_) (AllReadyH.nil))
      · go_simp
        refine (tn_s0 nn (BQ.out _ D4.out) (BS.out _ D4.out).ml (BS.out _ D4.out).ms (BS.out _ D4.out).ok.l6 (BS.out _ D4.out).ok.s9 (BS.out _ D4.out).ok.small).mono ?_
        rintro e wm13 ⟨va, vc, vb, vd, lo3, hi3, lo4, hi4, rfl, ho, hq, y1v, y2v, y3v, y4v, -, hb⟩
        rw [HR.out] at ho hq ⊢
        rw [HRC.out]
        have Mv := jj (show OwnI wm13 lo3 hi3 va r.l from ⟨ho, y3v⟩)
        have Nv := jj (show ROwnI 4 senc wm13 lo4 hi4 vb r.s from ⟨hq, y4v⟩)
        clear ho hq
        replace V13 := jj (V13.out.below hb)
        replace V15 := jj (V15.out.below hb)
        replace D4 := jj (D4.out.below hb)
        replace Mr := jj (Mr.out.below hb)
        replace Nr := jj (Nr.out.below hb)
        replace X16 := jj (X16.out.below hb)
        have zc7 := hb.size
        clear hb
        go_wp2_with fail
        refine hK.out _ _ (by exact j8 V13.out.c8 ⟨V15.out.c2.1, V15.out.c2.2.1⟩) (fun hHeld => ?_)
        clear hK K
        try walk_nrm
        refine rd 9 (fun K hK => ?_)
        go_simp
        have hb := step_alloc wm13 (.cells #[.int .i64 0, .int .i64 0, .int .i64 0, .int .i64 0, .string ⟨#[]⟩, .int .i64 0, .slice none 0 0, .slice none 0 0, .int .i64 0] 33)
        replace V13 := jj (V13.out.below hb)
        replace V15 := jj (V15.out.below hb)
        replace D4 := jj (D4.out.below hb)
        replace Mr := jj (Mr.out.below hb)
        replace Nr := jj (Nr.out.below hb)
        replace X16 := jj (X16.out.below hb)
        replace Mv := jj (Mv.out.below hb)
        replace Nv := jj (Nv.out.below hb)
        have X17 := jj (Cells.new wm13 #[.int .i64 0, .int .i64 0, .int .i64 0, .int .i64 0, .string ⟨#[]⟩, .int .i64 0, .slice none 0 0, .slice none 0 0, .int .i64 0] 33)
        simp only [List.toList_toArray] at X17
        have z_X17 : wm13.heap.size < (wm13.alloc (.cells #[.int .i64 0, .int .i64 0, .int .i64 0, .int .i64 0, .string ⟨#[]⟩, .int .i64 0, .slice none 0 0, .slice none 0 0, .int .i64 0] 33)).heap.size := by simp
        obtain ⟨g_X17, hg_X17⟩ : ∃ g, g = wm13.heap.size := ⟨_, rfl⟩
        rw [← hg_X17] at X17 z_X17 ⊢
        have zl_X17 : wm13.heap.size ≤ g_X17 := Nat.le_of_eq hg_X17.symm
        clear hg_X17
        clear hb
        generalize wm13.alloc (.cells #[.int .i64 0, .int .i64 0, .int .i64 0, .int .i64 0, .string ⟨#[]⟩, .int .i64 0, .slice none 0 0, .slice none 0 0, .int .i64 0] 33) = wm14 at z_X17 V13 V15 D4 Mr Nr X16 Mv Nv X17 ⊢
        refine hK.out _ _ (by exact j8 V13.out.c8 ⟨V15.out.c2.1, V15.out.c2.2.1⟩) (fun hHeld => ?_)
        clear hK K
        try walk_nrm
        refine rd 10 (fun K hK => ?_)
        go_simp
        obtain ⟨sx0, sx1, sx2, sx3, sx4, sx5, sx6, sx7, sx8, sx9, sx10, sx11, sx12, sx13, sx14, sx15, sx16, sx17⟩ := X16.out.c9
        go_simp
        clear sx0 sx1 sx2 sx3 sx4 sx5 sx6 sx7 sx8 sx9 sx10 sx11 sx12 sx13 sx14 sx15 sx16 sx17
        have hw := ((((((((one_store wm14 g_X16 0 (.int .i64 r.kd)).trans (one_store _ g_X16 1 (.int .i64 r.fr))).trans (one_store _ g_X16 2 (.int .i64 r.tq))).trans (one_store _ g_X16 3 (.int .i64 r.rq))).trans (one_store _ g_X16 4 (.string r.ky))).trans (one_store _ g_X16 5 (.int .i64 r.ow))).trans (one_store _ g_X16 6 (.slice ra r.l.length rc))).trans (one_store _ g_X16 7 (.slice rb r.s.length rdd))).trans (one_store _ g_X16 8 (.int .i64 RC))
        replace X16 := jj ((((((((((X16.out).set 0 (by simp) (.int .i64 r.kd)).set 1 (by simp) (.int .i64 r.fr)).set 2 (by simp) (.int .i64 r.tq)).set 3 (by simp) (.int .i64 r.rq)).set 4 (by simp) (.string r.ky)).set 5 (by simp) (.int .i64 r.ow)).set 6 (by simp) (.slice ra r.l.length rc)).set 7 (by simp) (.slice rb r.s.length rdd)).set 8 (by simp) (.int .i64 RC))
        simp only [List.set_cons_zero, List.set_cons_succ] at X16
        replace V13 := jj (V13.out.within hw (by omega))
        replace V15 := jj (V15.out.within hw (by omega))
        replace D4 := jj (D4.out.within hw (by omega))
        replace Mr := jj (Mr.out.within hw (by omega))
        replace Nr := jj (Nr.out.within hw (by omega))
        replace Mv := jj (Mv.out.within hw (by omega))
        replace Nv := jj (Nv.out.within hw (by omega))
        replace X17 := jj (X17.out.within hw (by omega))
        have zs10 := hw.size
        clear hw
        generalize (World.setCell (World.setCell (World.setCell (World.setCell (World.setCell (World.setCell (World.setCell (World.setCell (World.setCell wm14 ⟨g_X16, 0, none⟩ (.int .i64 r.kd)) ⟨g_X16, 1, none⟩ (.int .i64 r.fr)) ⟨g_X16, 2, none⟩ (.int .i64 r.tq)) ⟨g_X16, 3, none⟩ (.int .i64 r.rq)) ⟨g_X16, 4, none⟩ (.string r.ky)) ⟨g_X16, 5, none⟩ (.int .i64 r.ow)) ⟨g_X16, 6, none⟩ (.slice ra r.l.length rc)) ⟨g_X16, 7, none⟩ (.slice rb r.s.length rdd)) ⟨g_X16, 8, none⟩ (.int .i64 RC)) = wm15 at zs10 V13 V15 D4 Mr Nr X16 Mv Nv X17 ⊢
        refine hK.out _ _ (by exact j8 V13.out.c8 ⟨V15.out.c2.1, V15.out.c2.2.1⟩) (fun hHeld => ?_)
        clear hK K
        try walk_nrm
        refine rd 11 (fun K hK => ?_)
        go_simp
        obtain ⟨sx0, sx1, sx2, sx3, sx4, sx5, sx6, sx7, sx8, sx9, sx10, sx11, sx12, sx13, sx14, sx15, sx16, sx17⟩ := X17.out.c9
        go_simp
        clear sx0 sx1 sx2 sx3 sx4 sx5 sx6 sx7 sx8 sx9 sx10 sx11 sx12 sx13 sx14 sx15 sx16 sx17
        have hw := ((((((((one_store wm15 g_X17 0 (.int .i64 r.kd)).trans (one_store _ g_X17 1 (.int .i64 r.fr))).trans (one_store _ g_X17 2 (.int .i64 r.tq))).trans (one_store _ g_X17 3 (.int .i64 r.rq))).trans (one_store _ g_X17 4 (.string r.ky))).trans (one_store _ g_X17 5 (.int .i64 r.ow))).trans (one_store _ g_X17 6 (.slice va r.l.length vc))).trans (one_store _ g_X17 7 (.slice vb r.s.length vd))).trans (one_store _ g_X17 8 (.int .i64 RC))
        replace X17 := jj ((((((((((X17.out).set 0 (by simp) (.int .i64 r.kd)).set 1 (by simp) (.int .i64 r.fr)).set 2 (by simp) (.int .i64 r.tq)).set 3 (by simp) (.int .i64 r.rq)).set 4 (by simp) (.string r.ky)).set 5 (by simp) (.int .i64 r.ow)).set 6 (by simp) (.slice va r.l.length vc)).set 7 (by simp) (.slice vb r.s.length vd)).set 8 (by simp) (.int .i64 RC))
        simp only [List.set_cons_zero, List.set_cons_succ] at X17
        replace V13 := jj (V13.out.within hw (by omega))
        replace V15 := jj (V15.out.within hw (by omega))
        replace D4 := jj (D4.out.within hw (by omega))
        replace Mr := jj (Mr.out.within hw (by omega))
        replace Nr := jj (Nr.out.within hw (by omega))
        replace X16 := jj (X16.out.within hw (by omega))
        replace Mv := jj (Mv.out.within hw (by omega))
        replace Nv := jj (Nv.out.within hw (by omega))
        have zs11 := hw.size
        clear hw
        generalize (World.setCell (World.setCell (World.setCell (World.setCell (World.setCell (World.setCell (World.setCell (World.setCell (World.setCell wm15 ⟨g_X17, 0, none⟩ (.int .i64 r.kd)) ⟨g_X17, 1, none⟩ (.int .i64 r.fr)) ⟨g_X17, 2, none⟩ (.int .i64 r.tq)) ⟨g_X17, 3, none⟩ (.int .i64 r.rq)) ⟨g_X17, 4, none⟩ (.string r.ky)) ⟨g_X17, 5, none⟩ (.int .i64 r.ow)) ⟨g_X17, 6, none⟩ (.slice va r.l.length vc)) ⟨g_X17, 7, none⟩ (.slice vb r.s.length vd)) ⟨g_X17, 8, none⟩ (.int .i64 RC)) = wm16 at zs11 V13 V15 D4 Mr Nr X16 Mv Nv X17 ⊢
        refine hK.out _ _ (by exact j8 V13.out.c8 ⟨V15.out.c2.1, V15.out.c2.2.1⟩) (fun hHeld => ?_)
        clear hK K
        try walk_nrm
        refine rx ?_
        exact HK.out _ _ _ _ _ _ _ _ _ _ _ _ _ _ _ _ _ _ _ X16.out X17.out Mr.out.at_ Nr.out.at_ Mv.out.at_ Nv.out.at_ D4.out
      · go_simp
        have hb := step_alloc wm12 (.cells #[.int .i64 0, .int .i64 0, .int .i64 0, .int .i64 0, .string ⟨#[]⟩, .int .i64 0, .slice none 0 0, .slice none 0 0, .int .i64 0] 33)
        replace V13 := jj (V13.out.below hb)
        replace V15 := jj (V15.out.below hb)
        replace D4 := jj (D4.out.below hb)
        replace Mr := jj (Mr.out.below hb)
        replace Nr := jj (Nr.out.below hb)
        replace X16 := jj (X16.out.below hb)
        have X17 := jj (Cells.new wm12 #[.int .i64 0, .int .i64 0, .int .i64 0, .int .i64 0, .string ⟨#[]⟩, .int .i64 0, .slice none 0 0, .slice none 0 0, .int .i64 0] 33)
        simp only [List.toList_toArray] at X17
        have z_X17 : wm12.heap.size < (wm12.alloc (.cells #[.int .i64 0, .int .i64 0, .int .i64 0, .int .i64 0, .string ⟨#[]⟩, .int .i64 0, .slice none 0 0, .slice none 0 0, .int .i64 0] 33)).heap.size := by simp
        obtain ⟨g_X17, hg_X17⟩ : ∃ g, g = wm12.heap.size := ⟨_, rfl⟩
        rw [← hg_X17] at X17 z_X17 ⊢
        have zl_X17 : wm12.heap.size ≤ g_X17 := Nat.le_of_eq hg_X17.symm
        clear hg_X17
        clear hb
        generalize wm12.alloc (.cells #[.int .i64 0, .int .i64 0, .int .i64 0, .int .i64 0, .string ⟨#[]⟩, .int .i64 0, .slice none 0 0, .slice none 0 0, .int .i64 0] 33) = wm17 at z_X17 V13 V15 D4 Mr Nr X16 X17 ⊢
        refine hK.out _ _ (by exact j8 V13.out.c8 ⟨V15.out.c2.1, V15.out.c2.2.1⟩) (fun hHeld => ?_)
        clear hK K
        try walk_nrm
        refine rd 7 (fun K hK => ?_)
        go_simp
        refine (tn_s0 nn (BQ.out _ D4.out) (BS.out _ D4.out).ml (BS.out _ D4.out).ms (BS.out _ D4.out).ok.l6 (BS.out _ D4.out).ok.s9 (BS.out _ D4.out).ok.small).mono ?_
        rintro e wm18 ⟨va, vc, vb, vd, lo3, hi3, lo4, hi4, rfl, ho, hq, y1v, y2v, y3v, y4v, -, hb⟩
        rw [HR.out] at ho hq ⊢
        rw [HRC.out]
        have Mv := jj (show OwnI wm18 lo3 hi3 va r.l from ⟨ho, y3v⟩)
        have Nv := jj (show ROwnI 4 senc wm18 lo4 hi4 vb r.s from ⟨hq, y4v⟩)
        clear ho hq
        replace V13 := jj (V13.out.below hb)
        replace V15 := jj (V15.out.below hb)
        replace D4 := jj (D4.out.below hb)
        replace Mr := jj (Mr.out.below hb)
        replace Nr := jj (Nr.out.below hb)
        replace X16 := jj (X16.out.below hb)
        replace X17 := jj (X17.out.below hb)
        have zc7 := hb.size
        clear hb
        go_wp2_with fail
        refine hK.out _ _ (by exact j8 V13.out.c8 ⟨V15.out.c2.1, V15.out.c2.2.1⟩) (fun hHeld => ?_)
        clear hK K
        try walk_nrm
        refine rd 10 (fun K hK => ?_)
        go_simp
        obtain ⟨sx0, sx1, sx2, sx3, sx4, sx5, sx6, sx7, sx8, sx9, sx10, sx11, sx12, sx13, sx14, sx15, sx16, sx17⟩ := X16.out.c9
        go_simp
        clear sx0 sx1 sx2 sx3 sx4 sx5 sx6 sx7 sx8 sx9 sx10 sx11 sx12 sx13 sx14 sx15 sx16 sx17
        have hw := ((((((((one_store wm18 g_X16 0 (.int .i64 r.kd)).trans (one_store _ g_X16 1 (.int .i64 r.fr))).trans (one_store _ g_X16 2 (.int .i64 r.tq))).trans (one_store _ g_X16 3 (.int .i64 r.rq))).trans (one_store _ g_X16 4 (.string r.ky))).trans (one_store _ g_X16 5 (.int .i64 r.ow))).trans (one_store _ g_X16 6 (.slice ra r.l.length rc))).trans (one_store _ g_X16 7 (.slice rb r.s.length rdd))).trans (one_store _ g_X16 8 (.int .i64 RC))
        replace X16 := jj ((((((((((X16.out).set 0 (by simp) (.int .i64 r.kd)).set 1 (by simp) (.int .i64 r.fr)).set 2 (by simp) (.int .i64 r.tq)).set 3 (by simp) (.int .i64 r.rq)).set 4 (by simp) (.string r.ky)).set 5 (by simp) (.int .i64 r.ow)).set 6 (by simp) (.slice ra r.l.length rc)).set 7 (by simp) (.slice rb r.s.length rdd)).set 8 (by simp) (.int .i64 RC))
        simp only [List.set_cons_zero, List.set_cons_succ] at X16
        replace V13 := jj (V13.out.within hw (by omega))
        replace V15 := jj (V15.out.within hw (by omega))
        replace D4 := jj (D4.out.within hw (by omega))
        replace Mr := jj (Mr.out.within hw (by omega))
        replace Nr := jj (Nr.out.within hw (by omega))
        replace X17 := jj (X17.out.within hw (by omega))
        replace Mv := jj (Mv.out.within hw (by omega))
        replace Nv := jj (Nv.out.within hw (by omega))
        have zs10 := hw.size
        clear hw
        generalize (World.setCell (World.setCell (World.setCell (World.setCell (World.setCell (World.setCell (World.setCell (World.setCell (World.setCell wm18 ⟨g_X16, 0, none⟩ (.int .i64 r.kd)) ⟨g_X16, 1, none⟩ (.int .i64 r.fr)) ⟨g_X16, 2, none⟩ (.int .i64 r.tq)) ⟨g_X16, 3, none⟩ (.int .i64 r.rq)) ⟨g_X16, 4, none⟩ (.string r.ky)) ⟨g_X16, 5, none⟩ (.int .i64 r.ow)) ⟨g_X16, 6, none⟩ (.slice ra r.l.length rc)) ⟨g_X16, 7, none⟩ (.slice rb r.s.length rdd)) ⟨g_X16, 8, none⟩ (.int .i64 RC)) = wm19 at zs10 V13 V15 D4 Mr Nr X16 X17 Mv Nv ⊢
        refine hK.out _ _ (by exact j8 V13.out.c8 ⟨V15.out.c2.1, V15.out.c2.2.1⟩) (fun hHeld => ?_)
        clear hK K
        try walk_nrm
        refine rd 11 (fun K hK => ?_)
        go_simp
        obtain ⟨sx0, sx1, sx2, sx3, sx4, sx5, sx6, sx7, sx8, sx9, sx10, sx11, sx12, sx13, sx14, sx15, sx16, sx17⟩ := X17.out.c9
        go_simp
        clear sx0 sx1 sx2 sx3 sx4 sx5 sx6 sx7 sx8 sx9 sx10 sx11 sx12 sx13 sx14 sx15 sx16 sx17
        have hw := ((((((((one_store wm19 g_X17 0 (.int .i64 r.kd)).trans (one_store _ g_X17 1 (.int .i64 r.fr))).trans (one_store _ g_X17 2 (.int .i64 r.tq))).trans (one_store _ g_X17 3 (.int .i64 r.rq))).trans (one_store _ g_X17 4 (.string r.ky))).trans (one_store _ g_X17 5 (.int .i64 r.ow))).trans (one_store _ g_X17 6 (.slice va r.l.length vc))).trans (one_store _ g_X17 7 (.slice vb r.s.length vd))).trans (one_store _ g_X17 8 (.int .i64 RC))
        replace X17 := jj ((((((((((X17.out).set 0 (by simp) (.int .i64 r.kd)).set 1 (by simp) (.int .i64 r.fr)).set 2 (by simp) (.int .i64 r.tq)).set 3 (by simp) (.int .i64 r.rq)).set 4 (by simp) (.string r.ky)).set 5 (by simp) (.int .i64 r.ow)).set 6 (by simp) (.slice va r.l.length vc)).set 7 (by simp) (.slice vb r.s.length vd)).set 8 (by simp) (.int .i64 RC))
        simp only [List.set_cons_zero, List.set_cons_succ] at X17
        replace V13 := jj (V13.out.within hw (by omega))
        replace V15 := jj (V15.out.within hw (by omega))
        replace D4 := jj (D4.out.within hw (by omega))
        replace Mr := jj (Mr.out.within hw (by omega))
        replace Nr := jj (Nr.out.within hw (by omega))
        replace X16 := jj (X16.out.within hw (by omega))
        replace Mv := jj (Mv.out.within hw (by omega))
        replace Nv := jj (Nv.out.within hw (by omega))
        have zs11 := hw.size
        clear hw
        generalize (World.setCell (World.setCell (World.setCell (World.setCell (World.setCell (World.setCell (World.setCell (World.setCell (World.setCell wm19 ⟨g_X17, 0, none⟩ (.int .i64 r.kd)) ⟨g_X17, 1, none⟩ (.int .i64 r.fr)) ⟨g_X17, 2, none⟩ (.int .i64 r.tq)) ⟨g_X17, 3, none⟩ (.int .i64 r.rq)) ⟨g_X17, 4, none⟩ (.string r.ky)) ⟨g_X17, 5, none⟩ (.int .i64 r.ow)) ⟨g_X17, 6, none⟩ (.slice va r.l.length vc)) ⟨g_X17, 7, none⟩ (.slice vb r.s.length vd)) ⟨g_X17, 8, none⟩ (.int .i64 RC)) = wm20 at zs11 V13 V15 D4 Mr Nr X16 X17 Mv Nv ⊢
        refine hK.out _ _ (by exact j8 V13.out.c8 ⟨V15.out.c2.1, V15.out.c2.2.1⟩) (fun hHeld => ?_)
        clear hK K
        try walk_nrm
        refine rx ?_
        exact HK.out _ _ _ _ _ _ _ _ _ _ _ _ _ _ _ _ _ _ _ X16.out X17.out Mr.out.at_ Nr.out.at_ Mv.out.at_ Nv.out.at_ D4.out
    · go_simp
      have hb := step_alloc wm2 (.cells #[.int .i64 0, .int .i64 0, .int .i64 0, .int .i64 0, .string ⟨#[]⟩, .int .i64 0, .slice none 0 0, .slice none 0 0, .int .i64 0] 33)
      replace V13 := jj (V13.out.below hb)
      replace V15 := jj (V15.out.below hb)
      replace D4 := jj (D4.out.below hb)
      replace Mr := jj (Mr.out.below hb)
      replace Nr := jj (Nr.out.below hb)
      have X17 := jj (Cells.new wm2 #[.int .i64 0, .int .i64 0, .int .i64 0, .int .i64 0, .string ⟨#[]⟩, .int .i64 0, .slice none 0 0, .slice none 0 0, .int .i64 0] 33)
      simp only [List.toList_toArray] at X17
      have z_X17 : wm2.heap.size < (wm2.alloc (.cells #[.int .i64 0, .int .i64 0, .int .i64 0, .int .i64 0, .string ⟨#[]⟩, .int .i64 0, .slice none 0 0, .slice none 0 0, .int .i64 0] 33)).heap.size := by simp
      obtain ⟨g_X17, hg_X17⟩ : ∃ g, g = wm2.heap.size := ⟨_, rfl⟩
      rw [← hg_X17] at X17 z_X17 ⊢
      have zl_X17 : wm2.heap.size ≤ g_X17 := Nat.le_of_eq hg_X17.symm
      clear hg_X17
      clear hb
      generalize wm2.alloc (.cells #[.int .i64 0, .int .i64 0, .int .i64 0, .int .i64 0, .string ⟨#[]⟩, .int .i64 0, .slice none 0 0, .slice none 0 0, .int .i64 0] 33) = wm21 at z_X17 V13 V15 D4 Mr Nr X17 ⊢
      refine hK.out _ _ (by exact j8 V13.out.c8 ⟨V15.out.c2.1, V15.out.c2.2.1⟩) (fun hHeld => ?_)
      clear hK K
      try walk_nrm
      refine wpAnyH_ready (rs := [7, 8]) (by kernel_rfl) (by simp) ?_
      refine AllReadyH.cons rfl (fun K hK => ?_) (AllReadyH.cons rfl (fun K hK => ?_) (AllReadyH.nil))
      · go_simp
        refine (tn_s0 nn (BQ.out _ D4.out) (BS.out _ D4.out).ml (BS.out _ D4.out).ms (BS.out _ D4.out).ok.l6 (BS.out _ D4.out).ok.s9 (BS.out _ D4.out).ok.small).mono ?_
        rintro e wm22 ⟨va, vc, vb, vd, lo3, hi3, lo4, hi4, rfl, ho, hq, y1v, y2v, y3v, y4v, -, hb⟩
        rw [HR.out] at ho hq ⊢
        rw [HRC.out]
        have Mv := jj (show OwnI wm22 lo3 hi3 va r.l from ⟨ho, y3v⟩)
        have Nv := jj (show ROwnI 4 senc wm22 lo4 hi4 vb r.s from ⟨hq, y4v⟩)
        clear ho hq
        replace V13 := jj (V13.out.below hb)
        replace V15 := jj (V15.out.below hb)
        replace D4 := jj (D4.out.below hb)
        replace Mr := jj (Mr.out.below hb)
        replace Nr := jj (Nr.out.below hb)
        replace X17 := jj (X17.out.below hb)
        have zc7 := hb.size
        clear hb
        go_wp2_with fail
        refine hK.out _ _ (by exact j8 V13.out.c8 ⟨V15.out.c2.1, V15.out.c2.2.1⟩) (fun hHeld => ?_)
        clear hK K
        try walk_nrm
        refine rd 8 (fun K hK => ?_)
        go_simp
        have hb := step_alloc wm22 (.cells #[.int .i64 0, .int .i64 0, .int .i64 0, .int .i64 0, .string ⟨#[]⟩, .int .i64 0, .slice none 0 0, .slice none 0 0, .int .i64 0] 33)
        replace V13 := jj (V13.out.below hb)
        replace V15 := jj (V15.out.below hb)
        replace D4 := jj (D4.out.below hb)
        replace Mr := jj (Mr.out.below hb)
        replace Nr := jj (Nr.out.below hb)
        replace X17 := jj (X17.out.below hb)
        replace Mv := jj (Mv.out.below hb)
        replace Nv := jj (Nv.out.below hb)
        have X16 := jj (Cells.new wm22 #[.int .i64 0, .int .i64 0, .int .i64 0, .int .i64 0, .string ⟨#[]⟩, .int .i64 0, .slice none 0 0, .slice none 0 0, .int .i64 0] 33)
        simp only [List.toList_toArray] at X16
        have z_X16 : wm22.heap.size < (wm22.alloc (.cells #[.int .i64 0, .int .i64 0, .int .i64 0, .int .i64 0, .string ⟨#[]⟩, .int .i64 0, .slice none 0 0, .slice none 0 0, .int .i64 0] 33)).heap.size := by simp
        obtain ⟨g_X16, hg_X16⟩ : ∃ g, g = wm22.heap.size := ⟨_, rfl⟩
        rw [← hg_X16] at X16 z_X16 ⊢
        have zl_X16 : wm22.heap.size ≤ g_X16 := Nat.le_of_eq hg_X16.symm
        clear hg_X16
        clear hb
        generalize wm22.alloc (.cells #[.int .i64 0, .int .i64 0, .int .i64 0, .int .i64 0, .string ⟨#[]⟩, .int .i64 0, .slice none 0 0, .slice none 0 0, .int .i64 0] 33) = wm23 at z_X16 V13 V15 D4 Mr Nr X17 Mv Nv X16 ⊢
        refine hK.out _ _ (by exact j8 V13.out.c8 ⟨V15.out.c2.1, V15.out.c2.2.1⟩) (fun hHeld => ?_)
        clear hK K
        try walk_nrm
        refine rd 10 (fun K hK => ?_)
        go_simp
        obtain ⟨sx0, sx1, sx2, sx3, sx4, sx5, sx6, sx7, sx8, sx9, sx10, sx11, sx12, sx13, sx14, sx15, sx16, sx17⟩ := X16.out.c9
        go_simp
        clear sx0 sx1 sx2 sx3 sx4 sx5 sx6 sx7 sx8 sx9 sx10 sx11 sx12 sx13 sx14 sx15 sx16 sx17
        have hw := ((((((((one_store wm23 g_X16 0 (.int .i64 r.kd)).trans (one_store _ g_X16 1 (.int .i64 r.fr))).trans (one_store _ g_X16 2 (.int .i64 r.tq))).trans (one_store _ g_X16 3 (.int .i64 r.rq))).trans (one_store _ g_X16 4 (.string r.ky))).trans (one_store _ g_X16 5 (.int .i64 r.ow))).trans (one_store _ g_X16 6 (.slice ra r.l.length rc))).trans (one_store _ g_X16 7 (.slice rb r.s.length rdd))).trans (one_store _ g_X16 8 (.int .i64 RC))
        replace X16 := jj ((((((((((X16.out).set 0 (by simp) (.int .i64 r.kd)).set 1 (by simp) (.int .i64 r.fr)).set 2 (by simp) (.int .i64 r.tq)).set 3 (by simp) (.int .i64 r.rq)).set 4 (by simp) (.string r.ky)).set 5 (by simp) (.int .i64 r.ow)).set 6 (by simp) (.slice ra r.l.length rc)).set 7 (by simp) (.slice rb r.s.length rdd)).set 8 (by simp) (.int .i64 RC))
        simp only [List.set_cons_zero, List.set_cons_succ] at X16
        replace V13 := jj (V13.out.within hw (by omega))
        replace V15 := jj (V15.out.within hw (by omega))
        replace D4 := jj (D4.out.within hw (by omega))
        replace Mr := jj (Mr.out.within hw (by omega))
        replace Nr := jj (Nr.out.within hw (by omega))
        replace X17 := jj (X17.out.within hw (by omega))
        replace Mv := jj (Mv.out.within hw (by omega))
        replace Nv := jj (Nv.out.within hw (by omega))
        have zs10 := hw.size
        clear hw
        generalize (World.setCell (World.setCell (World.setCell (World.setCell (World.setCell (World.setCell (World.setCell (World.setCell (World.setCell wm23 ⟨g_X16, 0, none⟩ (.int .i64 r.kd)) ⟨g_X16, 1, none⟩ (.int .i64 r.fr)) ⟨g_X16, 2, none⟩ (.int .i64 r.tq)) ⟨g_X16, 3, none⟩ (.int .i64 r.rq)) ⟨g_X16, 4, none⟩ (.string r.ky)) ⟨g_X16, 5, none⟩ (.int .i64 r.ow)) ⟨g_X16, 6, none⟩ (.slice ra r.l.length rc)) ⟨g_X16, 7, none⟩ (.slice rb r.s.length rdd)) ⟨g_X16, 8, none⟩ (.int .i64 RC)) = wm24 at zs10 V13 V15 D4 Mr Nr X17 Mv Nv X16 ⊢
        refine hK.out _ _ (by exact j8 V13.out.c8 ⟨V15.out.c2.1, V15.out.c2.2.1⟩) (fun hHeld => ?_)
        clear hK K
        try walk_nrm
        refine rd 11 (fun K hK => ?_)
        go_simp
        obtain ⟨sx0, sx1, sx2, sx3, sx4, sx5, sx6, sx7, sx8, sx9, sx10, sx11, sx12, sx13, sx14, sx15, sx16, sx17⟩ := X17.out.c9
        go_simp
        clear sx0 sx1 sx2 sx3 sx4 sx5 sx6 sx7 sx8 sx9 sx10 sx11 sx12 sx13 sx14 sx15 sx16 sx17
        have hw := ((((((((one_store wm24 g_X17 0 (.int .i64 r.kd)).trans (one_store _ g_X17 1 (.int .i64 r.fr))).trans (one_store _ g_X17 2 (.int .i64 r.tq))).trans (one_store _ g_X17 3 (.int .i64 r.rq))).trans (one_store _ g_X17 4 (.string r.ky))).trans (one_store _ g_X17 5 (.int .i64 r.ow))).trans (one_store _ g_X17 6 (.slice va r.l.length vc))).trans (one_store _ g_X17 7 (.slice vb r.s.length vd))).trans (one_store _ g_X17 8 (.int .i64 RC))
        replace X17 := jj ((((((((((X17.out).set 0 (by simp) (.int .i64 r.kd)).set 1 (by simp) (.int .i64 r.fr)).set 2 (by simp) (.int .i64 r.tq)).set 3 (by simp) (.int .i64 r.rq)).set 4 (by simp) (.string r.ky)).set 5 (by simp) (.int .i64 r.ow)).set 6 (by simp) (.slice va r.l.length vc)).set 7 (by simp) (.slice vb r.s.length vd)).set 8 (by simp) (.int .i64 RC))
        simp only [List.set_cons_zero, List.set_cons_succ] at X17
        replace V13 := jj (V13.out.within hw (by omega))
        replace V15 := jj (V15.out.within hw (by omega))
        replace D4 := jj (D4.out.within hw (by omega))
        replace Mr := jj (Mr.out.within hw (by omega))
        replace Nr := jj (Nr.out.within hw (by omega))
        replace Mv := jj (Mv.out.within hw (by omega))
        replace Nv := jj (Nv.out.within hw (by omega))
        replace X16 := jj (X16.out.within hw (by omega))
        have zs11 := hw.size
        clear hw
        generalize (World.setCell (World.setCell (World.setCell (World.setCell (World.setCell (World.setCell (World.setCell (World.setCell (World.setCell wm24 ⟨g_X17, 0, none⟩ (.int .i64 r.kd)) ⟨g_X17, 1, none⟩ (.int .i64 r.fr)) ⟨g_X17, 2, none⟩ (.int .i64 r.tq)) ⟨g_X17, 3, none⟩ (.int .i64 r.rq)) ⟨g_X17, 4, none⟩ (.string r.ky)) ⟨g_X17, 5, none⟩ (.int .i64 r.ow)) ⟨g_X17, 6, none⟩ (.slice va r.l.length vc)) ⟨g_X17, 7, none⟩ (.slice vb r.s.length vd)) ⟨g_X17, 8, none⟩ (.int .i64 RC)) = wm25 at zs11 V13 V15 D4 Mr Nr X17 Mv Nv X16 ⊢
        refine hK.out _ _ (by exact j8 V13.out.c8 ⟨V15.out.c2.1, V15.out.c2.2.1⟩) (fun hHeld => ?_)
        clear hK K
        try walk_nrm
        refine rx ?_
        exact HK.out _ _ _ _ _ _ _ _ _ _ _ _ _ _ _ _ _ _ _ X16.out X17.out Mr.out.at_ Nr.out.at_ Mv.out.at_ Nv.out.at_ D4.out
      · go_simp
        have hb := step_alloc wm21 (.cells #[.int .i64 0, .int .i64 0, .int .i64 0, .int .i64 0, .string ⟨#[]⟩, .int .i64 0, .slice none 0 0, .slice none 0 0, .int .i64 0] 33)
        replace V13 := jj (V13.out.below hb)
        replace V15 := jj (V15.out.below hb)
        replace D4 := jj (D4.out.below hb)
        replace Mr := jj (Mr.out.below hb)
        replace Nr := jj (Nr.out.below hb)
        replace X17 := jj (X17.out.below hb)
        have X16 := jj (Cells.new wm21 #[.int .i64 0, .int .i64 0, .int .i64 0, .int .i64 0, .string ⟨#[]⟩, .int .i64 0, .slice none 0 0, .slice none 0 0, .int .i64 0] 33)
        simp only [List.toList_toArray] at X16
        have z_X16 : wm21.heap.size < (wm21.alloc (.cells #[.int .i64 0, .int .i64 0, .int .i64 0, .int .i64 0, .string ⟨#[]⟩, .int .i64 0, .slice none 0 0, .slice none 0 0, .int .i64 0] 33)).heap.size := by simp
        obtain ⟨g_X16, hg_X16⟩ : ∃ g, g = wm21.heap.size := ⟨_, rfl⟩
        rw [← hg_X16] at X16 z_X16 ⊢
        have zl_X16 : wm21.heap.size ≤ g_X16 := Nat.le_of_eq hg_X16.symm
        clear hg_X16
        clear hb
        generalize wm21.alloc (.cells #[.int .i64 0, .int .i64 0, .int .i64 0, .int .i64 0, .string ⟨#[]⟩, .int .i64 0, .slice none 0 0, .slice none 0 0, .int .i64 0] 33) = wm26 at z_X16 V13 V15 D4 Mr Nr X17 X16 ⊢
        refine hK.out _ _ (by exact j8 V13.out.c8 ⟨V15.out.c2.1, V15.out.c2.2.1⟩) (fun hHeld => ?_)
        clear hK K
        try walk_nrm
        refine rd 7 (fun K hK => ?_)
        go_simp
        refine (tn_s0 nn (BQ.out _ D4.out) (BS.out _ D4.out).ml (BS.out _ D4.out).ms (BS.out _ D4.out).ok.l6 (BS.out _ D4.out).ok.s9 (BS.out _ D4.out).ok.small).mono ?_
        rintro e wm27 ⟨va, vc, vb, vd, lo3, hi3, lo4, hi4, rfl, ho, hq, y1v, y2v, y3v, y4v, -, hb⟩
        rw [HR.out] at ho hq ⊢
        rw [HRC.out]
        have Mv := jj (show OwnI wm27 lo3 hi3 va r.l from ⟨ho, y3v⟩)
        have Nv := jj (show ROwnI 4 senc wm27 lo4 hi4 vb r.s from ⟨hq, y4v⟩)
        clear ho hq
        replace V13 := jj (V13.out.below hb)
        replace V15 := jj (V15.out.below hb)
        replace D4 := jj (D4.out.below hb)
        replace Mr := jj (Mr.out.below hb)
        replace Nr := jj (Nr.out.below hb)
        replace X17 := jj (X17.out.below hb)
        replace X16 := jj (X16.out.below hb)
        have zc7 := hb.size
        clear hb
        go_wp2_with fail
        refine hK.out _ _ (by exact j8 V13.out.c8 ⟨V15.out.c2.1, V15.out.c2.2.1⟩) (fun hHeld => ?_)
        clear hK K
        try walk_nrm
        refine rd 10 (fun K hK => ?_)
        go_simp
        obtain ⟨sx0, sx1, sx2, sx3, sx4, sx5, sx6, sx7, sx8, sx9, sx10, sx11, sx12, sx13, sx14, sx15, sx16, sx17⟩ := X16.out.c9
        go_simp
        clear sx0 sx1 sx2 sx3 sx4 sx5 sx6 sx7 sx8 sx9 sx10 sx11 sx12 sx13 sx14 sx15 sx16 sx17
        have hw := ((((((((one_store wm27 g_X16 0 (.int .i64 r.kd)).trans (one_store _ g_X16 1 (.int .i64 r.fr))).trans (one_store _ g_X16 2 (.int .i64 r.tq))).trans (one_store _ g_X16 3 (.int .i64 r.rq))).trans (one_store _ g_X16 4 (.string r.ky))).trans (one_store _ g_X16 5 (.int .i64 r.ow))).trans (one_store _ g_X16 6 (.slice ra r.l.length rc))).trans (one_store _ g_X16 7 (.slice rb r.s.length rdd))).trans (one_store _ g_X16 8 (.int .i64 RC))
        replace X16 := jj ((((((((((X16.out).set 0 (by simp) (.int .i64 r.kd)).set 1 (by simp) (.int .i64 r.fr)).set 2 (by simp) (.int .i64 r.tq)).set 3 (by simp) (.int .i64 r.rq)).set 4 (by simp) (.string r.ky)).set 5 (by simp) (.int .i64 r.ow)).set 6 (by simp) (.slice ra r.l.length rc)).set 7 (by simp) (.slice rb r.s.length rdd)).set 8 (by simp) (.int .i64 RC))
        simp only [List.set_cons_zero, List.set_cons_succ] at X16
        replace V13 := jj (V13.out.within hw (by omega))
        replace V15 := jj (V15.out.within hw (by omega))
        replace D4 := jj (D4.out.within hw (by omega))
        replace Mr := jj (Mr.out.within hw (by omega))
        replace Nr := jj (Nr.out.within hw (by omega))
        replace X17 := jj (X17.out.within hw (by omega))
        replace Mv := jj (Mv.out.within hw (by omega))
        replace Nv := jj (Nv.out.within hw (by omega))
        have zs10 := hw.size
        clear hw
        generalize (World.setCell (World.setCell (World.setCell (World.setCell (World.setCell (World.setCell (World.setCell (World.setCell (World.setCell wm27 ⟨g_X16, 0, none⟩ (.int .i64 r.kd)) ⟨g_X16, 1, none⟩ (.int .i64 r.fr)) ⟨g_X16, 2, none⟩ (.int .i64 r.tq)) ⟨g_X16, 3, none⟩ (.int .i64 r.rq)) ⟨g_X16, 4, none⟩ (.string r.ky)) ⟨g_X16, 5, none⟩ (.int .i64 r.ow)) ⟨g_X16, 6, none⟩ (.slice ra r.l.length rc)) ⟨g_X16, 7, none⟩ (.slice rb r.s.length rdd)) ⟨g_X16, 8, none⟩ (.int .i64 RC)) = wm28 at zs10 V13 V15 D4 Mr Nr X17 X16 Mv Nv ⊢
        refine hK.out _ _ (by exact j8 V13.out.c8 ⟨V15.out.c2.1, V15.out.c2.2.1⟩) (fun hHeld => ?_)
        clear hK K
        try walk_nrm
        refine rd 11 (fun K hK => ?_)
        go_simp
        obtain ⟨sx0, sx1, sx2, sx3, sx4, sx5, sx6, sx7, sx8, sx9, sx10, sx11, sx12, sx13, sx14, sx15, sx16, sx17⟩ := X17.out.c9
        go_simp
        clear sx0 sx1 sx2 sx3 sx4 sx5 sx6 sx7 sx8 sx9 sx10 sx11 sx12 sx13 sx14 sx15 sx16 sx17
        have hw := ((((((((one_store wm28 g_X17 0 (.int .i64 r.kd)).trans (one_store _ g_X17 1 (.int .i64 r.fr))).trans (one_store _ g_X17 2 (.int .i64 r.tq))).trans (one_store _ g_X17 3 (.int .i64 r.rq))).trans (one_store _ g_X17 4 (.string r.ky))).trans (one_store _ g_X17 5 (.int .i64 r.ow))).trans (one_store _ g_X17 6 (.slice va r.l.length vc))).trans (one_store _ g_X17 7 (.slice vb r.s.length vd))).trans (one_store _ g_X17 8 (.int .i64 RC))
        replace X17 := jj ((((((((((X17.out).set 0 (by simp) (.int .i64 r.kd)).set 1 (by simp) (.int .i64 r.fr)).set 2 (by simp) (.int .i64 r.tq)).set 3 (by simp) (.int .i64 r.rq)).set 4 (by simp) (.string r.ky)).set 5 (by simp) (.int .i64 r.ow)).set 6 (by simp) (.slice va r.l.length vc)).set 7 (by simp) (.slice vb r.s.length vd)).set 8 (by simp) (.int .i64 RC))
        simp only [List.set_cons_zero, List.set_cons_succ] at X17
        replace V13 := jj (V13.out.within hw (by omega))
        replace V15 := jj (V15.out.within hw (by omega))
        replace D4 := jj (D4.out.within hw (by omega))
        replace Mr := jj (Mr.out.within hw (by omega))
        replace Nr := jj (Nr.out.within hw (by omega))
        replace X16 := jj (X16.out.within hw (by omega))
        replace Mv := jj (Mv.out.within hw (by omega))
        replace Nv := jj (Nv.out.within hw (by omega))
        have zs11 := hw.size
        clear hw
        generalize (World.setCell (World.setCell (World.setCell (World.setCell (World.setCell (World.setCell (World.setCell (World.setCell (World.setCell wm28 ⟨g_X17, 0, none⟩ (.int .i64 r.kd)) ⟨g_X17, 1, none⟩ (.int .i64 r.fr)) ⟨g_X17, 2, none⟩ (.int .i64 r.tq)) ⟨g_X17, 3, none⟩ (.int .i64 r.rq)) ⟨g_X17, 4, none⟩ (.string r.ky)) ⟨g_X17, 5, none⟩ (.int .i64 r.ow)) ⟨g_X17, 6, none⟩ (.slice va r.l.length vc)) ⟨g_X17, 7, none⟩ (.slice vb r.s.length vd)) ⟨g_X17, 8, none⟩ (.int .i64 RC)) = wm29 at zs11 V13 V15 D4 Mr Nr X17 X16 Mv Nv ⊢
        refine hK.out _ _ (by exact j8 V13.out.c8 ⟨V15.out.c2.1, V15.out.c2.2.1⟩) (fun hHeld => ?_)
        clear hK K
        try walk_nrm
        refine rx ?_
        exact HK.out _ _ _ _ _ _ _ _ _ _ _ _ _ _ _ _ _ _ _ X16.out X17.out Mr.out.at_ Nr.out.at_ Mv.out.at_ Nv.out.at_ D4.out
  · go_simp
    have hb := step_alloc wm1 (.cells #[.int .i64 0, .int .i64 0, .int .i64 0, .int .i64 0, .string ⟨#[]⟩, .int .i64 0, .slice none 0 0, .slice none 0 0, .int .i64 0] 33)
    replace V13 := jj (V13.out.below hb)
    replace V15 := jj (V15.out.below hb)
    replace D4 := jj (D4.out.below hb)
    have X16 := jj (Cells.new wm1 #[.int .i64 0, .int .i64 0, .int .i64 0, .int .i64 0, .string ⟨#[]⟩, .int .i64 0, .slice none 0 0, .slice none 0 0, .int .i64 0] 33)
    simp only [List.toList_toArray] at X16
    have z_X16 : wm1.heap.size < (wm1.alloc (.cells #[.int .i64 0, .int .i64 0, .int .i64 0, .int .i64 0, .string ⟨#[]⟩, .int .i64 0, .slice none 0 0, .slice none 0 0, .int .i64 0] 33)).heap.size := by simp
    obtain ⟨g_X16, hg_X16⟩ : ∃ g, g = wm1.heap.size := ⟨_, rfl⟩
    rw [← hg_X16] at X16 z_X16 ⊢
    have zl_X16 : wm1.heap.size ≤ g_X16 := Nat.le_of_eq hg_X16.symm
    clear hg_X16
    clear hb
    generalize wm1.alloc (.cells #[.int .i64 0, .int .i64 0, .int .i64 0, .int .i64 0, .string ⟨#[]⟩, .int .i64 0, .slice none 0 0, .slice none 0 0, .int .i64 0] 33) = wm30 at z_X16 V13 V15 D4 X16 ⊢
    refine hK.out _ _ (by exact j8 V13.out.c8 ⟨V15.out.c2.1, V15.out.c2.2.1⟩) (fun hHeld => ?_)
    clear hK K
    try walk_nrm
    refine wpAnyH_ready (rs := [3, 9]) (by kernel_rfl) (by simp) ?_
    refine AllReadyH.cons rfl (fun K hK => ?_) (AllReadyH.cons rfl (fun K hK => ?_) (AllReadyH.nil))
    · go_simp
      refine (tn_i0 nn (BQ.out _ D4.out) (BS.out _ D4.out).ml (BS.out _ D4.out).ms (BS.out _ D4.out).ok.l6 (BS.out _ D4.out).ok.s9 (BS.out _ D4.out).ok.small (BS.out _ D4.out).ok.wf).mono ?_
      rintro e wm31 ⟨ra, rc, rb, rdd, lo1, hi1, lo2, hi2, rfl, ho, hq, y1r, y2r, y3r, y4r, -, hb⟩
      rw [HR.out] at ho hq ⊢
      rw [HRC.out]
      have Mr := jj (show OwnI wm31 lo1 hi1 ra r.l from ⟨ho, y3r⟩)
      have Nr := jj (show ROwnI 4 senc wm31 lo2 hi2 rb r.s from ⟨hq, y4r⟩)
      clear ho hq
      replace V13 := jj (V13.out.below hb)
      replace V15 := jj (V15.out.below hb)
      replace D4 := jj (D4.out.below hb)
      replace X16 := jj (X16.out.below hb)
      have zc3 := hb.size
      clear hb
      go_wp2_with fail
      refine hK.out _ _ (by exact j8 V13.out.c8 ⟨V15.out.c2.1, V15.out.c2.2.1⟩) (fun hHeld => ?_)
      clear hK K
      try walk_nrm
      refine wpAnyH_ready (rs := [7, 9]) (by kernel_rfl) (by simp) ?_
      refine AllReadyH.cons rfl (fun K hK => ?_) (AllReadyH.cons rfl (fun K hK => ?_) (AllReadyH.nil))
      · go_simp
        refine (tn_s0 nn (BQ.out _ D4.out) (BS.out _ D4.out).ml (BS.out _ D4.out).ms (BS.out _ D4.out).ok.l6 (BS.out _ D4.out).ok.s9 (BS.out _ D4.out).ok.small).mono ?_
        rintro e wm32 ⟨va, vc, vb, vd, lo3, hi3, lo4, hi4, rfl, ho, hq, y1v, y2v, y3v, y4v, -, hb⟩
        rw [HR.out] at ho hq ⊢
        rw [HRC.out]
        have Mv := jj (show OwnI wm32 lo3 hi3 va r.l from ⟨ho, y3v⟩)
        have Nv := jj (show ROwnI 4 senc wm32 lo4 hi4 vb r.s from ⟨hq, y4v⟩)
        clear ho hq
        replace V13 := jj (V13.out.below hb)
        replace V15 := jj (V15.out.below hb)
        replace D4 := jj (D4.out.below hb)
        replace X16 := jj (X16.out.below hb)
        replace Mr := jj (Mr.out.below hb)
        replace Nr := jj (Nr.out.below hb)
        have zc7 := hb.size
        clear hb
        go_wp2_with fail
        refine hK.out _ _ (by exact j8 V13.out.c8 ⟨V15.out.c2.1, V15.out.c2.2.1⟩) (fun hHeld => ?_)
        clear hK K
        try walk_nrm
        refine rd 9 (fun K hK => ?_)
        go_simp
        have hb := step_alloc wm32 (.cells #[.int .i64 0, .int .i64 0, .int .i64 0, .int .i64 0, .string ⟨#[]⟩, .int .i64 0, .slice none 0 0, .slice none 0 0, .int .i64 0] 33)
        replace V13 := jj (V13.out.below hb)
        replace V15 := jj (V15.out.below hb)
        replace D4 := jj (D4.out.below hb)
        replace X16 := jj (X16.out.below hb)
        replace Mr := jj (Mr.out.below hb)
        replace Nr := jj (Nr.out.below hb)
        replace Mv := jj (Mv.out.below hb)
        replace Nv := jj (Nv.out.below hb)
        have X17 := jj (Cells.new wm32 #[.int .i64 0, .int .i64 0, .int .i64 0, .int .i64 0, .string ⟨#[]⟩, .int .i64 0, .slice none 0 0, .slice none 0 0, .int .i64 0] 33)
        simp only [List.toList_toArray] at X17
        have z_X17 : wm32.heap.size < (wm32.alloc (.cells #[.int .i64 0, .int .i64 0, .int .i64 0, .int .i64 0, .string ⟨#[]⟩, .int .i64 0, .slice none 0 0, .slice none 0 0, .int .i64 0] 33)).heap.size := by simp
        obtain ⟨g_X17, hg_X17⟩ : ∃ g, g = wm32.heap.size := ⟨_, rfl⟩
        rw [← hg_X17] at X17 z_X17 ⊢
        have zl_X17 : wm32.heap.size ≤ g_X17 := Nat.le_of_eq hg_X17.symm
        clear hg_X17
        clear hb
        generalize wm32.alloc (.cells #[.int .i64 0, .int .i64 0, .int .i64 0, .int .i64 0, .string ⟨#[]⟩, .int .i64 0, .slice none 0 0, .slice none 0 0, .int .i64 0] 33) = wm33 at z_X17 V13 V15 D4 X16 Mr Nr Mv Nv X17 ⊢
        refine hK.out _ _ (by exact j8 V13.out.c8 ⟨V15.out.c2.1, V15.out.c2.2.1⟩) (fun hHeld => ?_)
        clear hK K
        try walk_nrm
        refine rd 10 (fun K hK => ?_)
        go_simp
        obtain ⟨sx0, sx1, sx2, sx3, sx4, sx5, sx6, sx7, sx8, sx9, sx10, sx11, sx12, sx13, sx14, sx15, sx16, sx17⟩ := X16.out.c9
        go_simp
        clear sx0 sx1 sx2 sx3 sx4 sx5 sx6 sx7 sx8 sx9 sx10 sx11 sx12 sx13 sx14 sx15 sx16 sx17
        have hw := ((((((((one_store wm33 g_X16 0 (.int .i64 r.kd)).trans (one_store _ g_X16 1 (.int .i64 r.fr))).trans (one_store _ g_X16 2 (.int .i64 r.tq))).trans (one_store _ g_X16 3 (.int .i64 r.rq))).trans (one_store _ g_X16 4 (.string r.ky))).trans (one_store _ g_X16 5 (.int .i64 r.ow))).trans (one_store _ g_X16 6 (.slice ra r.l.length rc))).trans (one_store _ g_X16 7 (.slice rb r.s.length rdd))).trans (one_store _ g_X16 8 (.int .i64 RC))
        replace X16 := jj ((((((((((X16.out).set 0 (by simp) (.int .i64 r.kd)).set 1 (by simp) (.int .i64 r.fr)).set 2 (by simp) (.int .i64 r.tq)).set 3 (by simp) (.int .i64 r.rq)).set 4 (by simp) (.string r.ky)).set 5 (by simp) (.int .i64 r.ow)).set 6 (by simp) (.slice ra r.l.length rc)).set 7 (by simp) (.slice rb r.s.length rdd)).set 8 (by simp) (.int .i64 RC))
        simp only [List.set_cons_zero, List.set_cons_succ] at X16
        replace V13 := jj (V13.out.within hw (by omega))
        replace V15 := jj (V15.out.within hw (by omega))
        replace D4 := jj (D4.out.within hw (by omega))
        replace Mr := jj (Mr.out.within hw (by omega))
        replace Nr := jj (Nr.out.within hw (by omega))
        replace Mv := jj (Mv.out.within hw (by omega))
        replace Nv := jj (Nv.out.within hw (by omega))
        replace X17 := jj (X17.out.within hw (by omega))
        have zs10 := hw.size
        clear hw
        generalize (World.setCell (World.setCell (World.setCell (World.setCell (World.setCell (World.setCell (World.setCell (World.setCell (World.setCell wm33 ⟨g_X16, 0, none⟩ (.int .i64 r.kd)) ⟨g_X16, 1, none⟩ (.int .i64 r.fr)) ⟨g_X16, 2, none⟩ (.int .i64 r.tq)) ⟨g_X16, 3, none⟩ (.int .i64 r.rq)) ⟨g_X16, 4, none⟩ (.string r.ky)) ⟨g_X16, 5, none⟩ (.int .i64 r.ow)) ⟨g_X16, 6, none⟩ (.slice ra r.l.length rc)) ⟨g_X16, 7, none⟩ (.slice rb r.s.length rdd)) ⟨g_X16, 8, none⟩ (.int .i64 RC)) = wm34 at zs10 V13 V15 D4 X16 Mr Nr Mv Nv X17 ⊢
        refine hK.out _ _ (by exact j8 V13.out.c8 ⟨V15.out.c2.1, V15.out.c2.2.1⟩) (fun hHeld => ?_)
        clear hK K
        try walk_nrm
        refine rd 11 (fun K hK => ?_)
        go_simp
        obtain ⟨sx0, sx1, sx2, sx3, sx4, sx5, sx6, sx7, sx8, sx9, sx10, sx11, sx12, sx13, sx14, sx15, sx16, sx17⟩ := X17.out.c9
        go_simp
        clear sx0 sx1 sx2 sx3 sx4 sx5 sx6 sx7 sx8 sx9 sx10 sx11 sx12 sx13 sx14 sx15 sx16 sx17
        have hw := ((((((((one_store wm34 g_X17 0 (.int .i64 r.kd)).trans (one_store _ g_X17 1 (.int .i64 r.fr))).trans (one_store _ g_X17 2 (.int .i64 r.tq))).trans (one_store _ g_X17 3 (.int .i64 r.rq))).trans (one_store _ g_X17 4 (.string r.ky))).trans (one_store _ g_X17 5 (.int .i64 r.ow))).trans (one_store _ g_X17 6 (.slice va r.l.length vc))).trans (one_store _ g_X17 7 (.slice vb r.s.length vd))).trans (one_store _ g_X17 8 (.int .i64 RC))
        replace X17 := jj ((((((((((X17.out).set 0 (by simp) (.int .i64 r.kd)).set 1 (by simp) (.int .i64 r.fr)).set 2 (by simp) (.int .i64 r.tq)).set 3 (by simp) (.int .i64 r.rq)).set 4 (by simp) (.string r.ky)).set 5 (by simp) (.int .i64 r.ow)).set 6 (by simp) (.slice va r.l.length vc)).set 7 (by simp) (.slice vb r.s.length vd)).set 8 (by simp) (.int .i64 RC))
        simp only [List.set_cons_zero, List.set_cons_succ] at X17
        replace V13 := jj (V13.out.within hw (by omega))
        replace V15 := jj (V15.out.within hw (by omega))
        replace D4 := jj (D4.out.within hw (by omega))
        replace X16 := jj (X16.out.within hw (by omega))
        replace Mr := jj (Mr.out.within hw (by omega))
        replace Nr := jj (Nr.out.within hw (by omega))
        replace Mv := jj (Mv.out.within hw (by omega))
        replace Nv := jj (Nv.out.within hw (by omega))
        have zs11 := hw.size
        clear hw
        generalize (World.setCell (World.setCell (World.setCell (World.setCell (World.setCell (World.setCell (World.setCell (World.setCell (World.setCell wm34 ⟨g_X17, 0, none⟩ (.int .i64 r.kd)) ⟨g_X17, 1, none⟩ (.int .i64 r.fr)) ⟨g_X17, 2, none⟩ (.int .i64 r.tq)) ⟨g_X17, 3, none⟩ (.int .i64 r.rq)) ⟨g_X17, 4, none⟩ (.string r.ky)) ⟨g_X17, 5, none⟩ (.int .i64 r.ow)) ⟨g_X17, 6, none⟩ (.slice va r.l.length vc)) ⟨g_X17, 7, none⟩ (.slice vb r.s.length vd)) ⟨g_X17, 8, none⟩ (.int .i64 RC)) = wm35 at zs11 V13 V15 D4 X16 Mr Nr Mv Nv X17 ⊢
        refine hK.out _ _ (by exact j8 V13.out.c8 ⟨V15.out.c2.1, V15.out.c2.2.1⟩) (fun hHeld => ?_)
        clear hK K
        try walk_nrm
        refine rx ?_
        exact HK.out _ _ _ _ _ _ _ _ _ _ _ _ _ _ _ _ _ _ _ X16.out X17.out Mr.out.at_ Nr.out.at_ Mv.out.at_ Nv.out.at_ D4.out
      · go_simp
        have hb := step_alloc wm31 (.cells #[.int .i64 0, .int .i64 0, .int .i64 0, .int .i64 0, .string ⟨#[]⟩, .int .i64 0, .slice none 0 0, .slice none 0 0, .int .i64 0] 33)
        replace V13 := jj (V13.out.below hb)
        replace V15 := jj (V15.out.below hb)
        replace D4 := jj (D4.out.below hb)
        replace X16 := jj (X16.out.below hb)
        replace Mr := jj (Mr.out.below hb)
        replace Nr := jj (Nr.out.below hb)
        have X17 := jj (Cells.new wm31 #[.int .i64 0, .int .i64 0, .int .i64 0, .int .i64 0, .string ⟨#[]⟩, .int .i64 0, .slice none 0 0, .slice none 0 0, .int .i64 0] 33)
        simp only [List.toList_toArray] at X17
        have z_X17 : wm31.heap.size < (wm31.alloc (.cells #[.int .i64 0, .int .i64 0, .int .i64 0, .int .i64 0, .string ⟨#[]⟩, .int .i64 0, .slice none 0 0, .slice none 0 0, .int .i64 0] 33)).heap.size := by simp
        obtain ⟨g_X17, hg_X17⟩ : ∃ g, g = wm31.heap.size := ⟨_, rfl⟩
        rw [← hg_X17] at X17 z_X17 ⊢
        have zl_X17 : wm31.heap.size ≤ g_X17 := Nat.le_of_eq hg_X17.symm
        clear hg_X17
        clear hb
        generalize wm31.alloc (.cells #[.int .i64 0, .int .i64 0, .int .i64 0, .int .i64 0, .string ⟨#[]⟩, .int .i64 0, .slice none 0 0, .slice none 0 0, .int .i64 0] 33) = wm36 at z_X17 V13 V15 D4 X16 Mr Nr X17 ⊢
        refine hK.out _ _ (by exact j8 V13.out.c8 ⟨V15.out.c2.1, V15.out.c2.2.1⟩) (fun hHeld => ?_)
        clear hK K
        try walk_nrm
        refine rd 7 (fun K hK => ?_)
        go_simp
        refine (tn_s0 nn (BQ.out _ D4.out) (BS.out _ D4.out).ml (BS.out _ D4.out).ms (BS.out _ D4.out).ok.l6 (BS.out _ D4.out).ok.s9 (BS.out _ D4.out).ok.small).mono ?_
        rintro e wm37 ⟨va, vc, vb, vd, lo3, hi3, lo4, hi4, rfl, ho, hq, y1v, y2v, y3v, y4v, -, hb⟩
        rw [HR.out] at ho hq ⊢
        rw [HRC.out]
        have Mv := jj (show OwnI wm37 lo3 hi3 va r.l from ⟨ho, y3v⟩)
        have Nv := jj (show ROwnI 4 senc wm37 lo4 hi4 vb r.s from ⟨hq, y4v⟩)
        clear ho hq
        replace V13 := jj (V13.out.below hb)
        replace V15 := jj (V15.out.below hb)
        replace D4 := jj (D4.out.below hb)
        replace X16 := jj (X16.out.below hb)
        replace Mr := jj (Mr.out.below hb)
        replace Nr := jj (Nr.out.below hb)
        replace X17 := jj (X17.out.below hb)
        have zc7 := hb.size
        clear hb
        go_wp2_with fail
        refine hK.out _ _ (by exact j8 V13.out.c8 ⟨V15.out.c2.1, V15.out.c2.2.1⟩) (fun hHeld => ?_)
        clear hK K
        try walk_nrm
        refine rd 10 (fun K hK => ?_)
        go_simp
        obtain ⟨sx0, sx1, sx2, sx3, sx4, sx5, sx6, sx7, sx8, sx9, sx10, sx11, sx12, sx13, sx14, sx15, sx16, sx17⟩ := X16.out.c9
        go_simp
        clear sx0 sx1 sx2 sx3 sx4 sx5 sx6 sx7 sx8 sx9 sx10 sx11 sx12 sx13 sx14 sx15 sx16 sx17
        have hw := ((((((((one_store wm37 g_X16 0 (.int .i64 r.kd)).trans (one_store _ g_X16 1 (.int .i64 r.fr))).trans (one_store _ g_X16 2 (.int .i64 r.tq))).trans (one_store _ g_X16 3 (.int .i64 r.rq))).trans (one_store _ g_X16 4 (.string r.ky))).trans (one_store _ g_X16 5 (.int .i64 r.ow))).trans (one_store _ g_X16 6 (.slice ra r.l.length rc))).trans (one_store _ g_X16 7 (.slice rb r.s.length rdd))).trans (one_store _ g_X16 8 (.int .i64 RC))
        replace X16 := jj ((((((((((X16.out).set 0 (by simp) (.int .i64 r.kd)).set 1 (by simp) (.int .i64 r.fr)).set 2 (by simp) (.int .i64 r.tq)).set 3 (by simp) (.int .i64 r.rq)).set 4 (by simp) (.string r.ky)).set 5 (by simp) (.int .i64 r.ow)).set 6 (by simp) (.slice ra r.l.length rc)).set 7 (by simp) (.slice rb r.s.length rdd)).set 8 (by simp) (.int .i64 RC))
        simp only [List.set_cons_zero, List.set_cons_succ] at X16
        replace V13 := jj (V13.out.within hw (by omega))
        replace V15 := jj (V15.out.within hw (by omega))
        replace D4 := jj (D4.out.within hw (by omega))
        replace Mr := jj (Mr.out.within hw (by omega))
        replace Nr := jj (Nr.out.within hw (by omega))
        replace X17 := jj (X17.out.within hw (by omega))
        replace Mv := jj (Mv.out.within hw (by omega))
        replace Nv := jj (Nv.out.within hw (by omega))
        have zs10 := hw.size
        clear hw
        generalize (World.setCell (World.setCell (World.setCell (World.setCell (World.setCell (World.setCell (World.setCell (World.setCell (World.setCell wm37 ⟨g_X16, 0, none⟩ (.int .i64 r.kd)) ⟨g_X16, 1, none⟩ (.int .i64 r.fr)) ⟨g_X16, 2, none⟩ (.int .i64 r.tq)) ⟨g_X16, 3, none⟩ (.int .i64 r.rq)) ⟨g_X16, 4, none⟩ (.string r.ky)) ⟨g_X16, 5, none⟩ (.int .i64 r.ow)) ⟨g_X16, 6, none⟩ (.slice ra r.l.length rc)) ⟨g_X16, 7, none⟩ (.slice rb r.s.length rdd)) ⟨g_X16, 8, none⟩ (.int .i64 RC)) = wm38 at zs10 V13 V15 D4 X16 Mr Nr X17 Mv Nv ⊢
        refine hK.out _ _ (by exact j8 V13.out.c8 ⟨V15.out.c2.1, V15.out.c2.2.1⟩) (fun hHeld => ?_)
        clear hK K
        try walk_nrm
        refine rd 11 (fun K hK => ?_)
        go_simp
        obtain ⟨sx0, sx1, sx2, sx3, sx4, sx5, sx6, sx7, sx8, sx9, sx10, sx11, sx12, sx13, sx14, sx15, sx16, sx17⟩ := X17.out.c9
        go_simp
        clear sx0 sx1 sx2 sx3 sx4 sx5 sx6 sx7 sx8 sx9 sx10 sx11 sx12 sx13 sx14 sx15 sx16 sx17
        have hw := ((((((((one_store wm38 g_X17 0 (.int .i64 r.kd)).trans (one_store _ g_X17 1 (.int .i64 r.fr))).trans (one_store _ g_X17 2 (.int .i64 r.tq))).trans (one_store _ g_X17 3 (.int .i64 r.rq))).trans (one_store _ g_X17 4 (.string r.ky))).trans (one_store _ g_X17 5 (.int .i64 r.ow))).trans (one_store _ g_X17 6 (.slice va r.l.length vc))).trans (one_store _ g_X17 7 (.slice vb r.s.length vd))).trans (one_store _ g_X17 8 (.int .i64 RC))
        replace X17 := jj ((((((((((X17.out).set 0 (by simp) (.int .i64 r.kd)).set 1 (by simp) (.int .i64 r.fr)).set 2 (by simp) (.int .i64 r.tq)).set 3 (by simp) (.int .i64 r.rq)).set 4 (by simp) (.string r.ky)).set 5 (by simp) (.int .i64 r.ow)).set 6 (by simp) (.slice va r.l.length vc)).set 7 (by simp) (.slice vb r.s.length vd)).set 8 (by simp) (.int .i64 RC))
        simp only [List.set_cons_zero, List.set_cons_succ] at X17
        replace V13 := jj (V13.out.within hw (by omega))
        replace V15 := jj (V15.out.within hw (by omega))
        replace D4 := jj (D4.out.within hw (by omega))
        replace X16 := jj (X16.out.within hw (by omega))
        replace Mr := jj (Mr.out.within hw (by omega))
        replace Nr := jj (Nr.out.within hw (by omega))
        replace Mv := jj (Mv.out.within hw (by omega))
        replace Nv := jj (Nv.out.within hw (by omega))
        have zs11 := hw.size
        clear hw
        generalize (World.setCell (World.setCell (World.setCell (World.setCell (World.setCell (World.setCell (World.setCell (World.setCell (World.setCell wm38 ⟨g_X17, 0, none⟩ (.int .i64 r.kd)) ⟨g_X17, 1, none⟩ (.int .i64 r.fr)) ⟨g_X17, 2, none⟩ (.int .i64 r.tq)) ⟨g_X17, 3, none⟩ (.int .i64 r.rq)) ⟨g_X17, 4, none⟩ (.string r.ky)) ⟨g_X17, 5, none⟩ (.int .i64 r.ow)) ⟨g_X17, 6, none⟩ (.slice va r.l.length vc)) ⟨g_X17, 7, none⟩ (.slice vb r.s.length vd)) ⟨g_X17, 8, none⟩ (.int .i64 RC)) = wm39 at zs11 V13 V15 D4 X16 Mr Nr X17 Mv Nv ⊢
        refine hK.out _ _ (by exact j8 V13.out.c8 ⟨V15.out.c2.1, V15.out.c2.2.1⟩) (fun hHeld => ?_)
        clear hK K
        try walk_nrm
        refine rx ?_
        exact HK.out _ _ _ _ _ _ _ _ _ _ _ _ _ _ _ _ _ _ _ X16.out X17.out Mr.out.at_ Nr.out.at_ Mv.out.at_ Nv.out.at_ D4.out
    · go_simp
      have hb := step_alloc wm30 (.cells #[.int .i64 0, .int .i64 0, .int .i64 0, .int .i64 0, .string ⟨#[]⟩, .int .i64 0, .slice none 0 0, .slice none 0 0, .int .i64 0] 33)
      replace V13 := jj (V13.out.below hb)
      replace V15 := jj (V15.out.below hb)
      replace D4 := jj (D4.out.below hb)
      replace X16 := jj (X16.out.below hb)
      have X17 := jj (Cells.new wm30 #[.int .i64 0, .int .i64 0, .int .i64 0, .int .i64 0, .string ⟨#[]⟩, .int .i64 0, .slice none 0 0, .slice none 0 0, .int .i64 0] 33)
      simp only [List.toList_toArray] at X17
      have z_X17 : wm30.heap.size < (wm30.alloc (.cells #[.int .i64 0, .int .i64 0, .int .i64 0, .int .i64 0, .string ⟨#[]⟩, .int .i64 0, .slice none 0 0, .slice none 0 0, .int .i64 0] 33)).heap.size := by simp
      obtain ⟨g_X17, hg_X17⟩ : ∃ g, g = wm30.heap.size := ⟨_, rfl⟩
      rw [← hg_X17] at X17 z_X17 ⊢
      have zl_X17 : wm30.heap.size ≤ g_X17 := Nat.le_of_eq hg_X17.symm
      clear hg_X17
      clear hb
      generalize wm30.alloc (.cells #[.int .i64 0, .int .i64 0, .int .i64 0, .int .i64 0, .string ⟨#[]⟩, .int .i64 0, .slice none 0 0, .slice none 0 0, .int .i64 0] 33) = wm40 at z_X17 V13 V15 D4 X16 X17 ⊢
      refine hK.out _ _ (by exact j8 V13.out.c8 ⟨V15.out.c2.1, V15.out.c2.2.1⟩) (fun hHeld => ?_)
      clear hK K
      try walk_nrm
      refine rd 3 (fun K hK => ?_)
      go_simp
      refine (tn_i0 nn (BQ.out _ D4.out) (BS.out _ D4.out).ml (BS.out _ D4.out).ms (BS.out _ D4.out).ok.l6 (BS.out _ D4.out).ok.s9 (BS.out _ D4.out).ok.small (BS.out _ D4.out).ok.wf).mono ?_
      rintro e wm41 ⟨ra, rc, rb, rdd, lo1, hi1, lo2, hi2, rfl, ho, hq, y1r, y2r, y3r, y4r, -, hb⟩
      rw [HR.out] at ho hq ⊢
      rw [HRC.out]
      have Mr := jj (show OwnI wm41 lo1 hi1 ra r.l from ⟨ho, y3r⟩)
      have Nr := jj (show ROwnI 4 senc wm41 lo2 hi2 rb r.s from ⟨hq, y4r⟩)
      clear ho hq
      replace V13 := jj (V13.out.below hb)
      replace V15 := jj (V15.out.below hb)
      replace D4 := jj (D4.out.below hb)
      replace X16 := jj (X16.out.below hb)
      replace X17 := jj (X17.out.below hb)
      have zc3 := hb.size
      clear hb
      go_wp2_with fail
      refine hK.out _ _ (by exact j8 V13.out.c8 ⟨V15.out.c2.1, V15.out.c2.2.1⟩) (fun hHeld => ?_)
      clear hK K
      try walk_nrm
      refine rd 7 (fun K hK => ?_)
      go_simp
      refine (tn_s0 nn (BQ.out _ D4.out) (BS.out _ D4.out).ml (BS.out _ D4.out).ms (BS.out _ D4.out).ok.l6 (BS.out _ D4.out).ok.s9 (BS.out _ D4.out).ok.small).mono ?_
      rintro e wm42 ⟨va, vc, vb, vd, lo3, hi3, lo4, hi4, rfl, ho, hq, y1v, y2v, y3v, y4v, -, hb⟩
      rw [HR.out] at ho hq ⊢
      rw [HRC.out]
      have Mv := jj (show OwnI wm42 lo3 hi3 va r.l from ⟨ho, y3v⟩)
      have Nv := jj (show ROwnI 4 senc wm42 lo4 hi4 vb r.s from ⟨hq, y4v⟩)
      clear ho hq
      replace V13 := jj (V13.out.below hb)
      replace V15 := jj (V15.out.below hb)
      replace D4 := jj (D4.out.below hb)
      replace X16 := jj (X16.out.below hb)
      replace X17 := jj (X17.out.below hb)
      replace Mr := jj (Mr.out.below hb)
      replace Nr := jj (Nr.out.below hb)
      have zc7 := hb.size
      clear hb
      go_wp2_with fail
      refine hK.out _ _ (by exact j8 V13.out.c8 ⟨V15.out.c2.1, V15.out.c2.2.1⟩) (fun hHeld => ?_)
      clear hK K
      try walk_nrm
      refine rd 10 (fun K hK => ?_)
      go_simp
      obtain ⟨sx0, sx1, sx2, sx3, sx4, sx5, sx6, sx7, sx8, sx9, sx10, sx11, sx12, sx13, sx14, sx15, sx16, sx17⟩ := X16.out.c9
      go_simp
      clear sx0 sx1 sx2 sx3 sx4 sx5 sx6 sx7 sx8 sx9 sx10 sx11 sx12 sx13 sx14 sx15 sx16 sx17
      have hw := ((((((((one_store wm42 g_X16 0 (.int .i64 r.kd)).trans (one_store _ g_X16 1 (.int .i64 r.fr))).trans (one_store _ g_X16 2 (.int .i64 r.tq))).trans (one_store _ g_X16 3 (.int .i64 r.rq))).trans (one_store _ g_X16 4 (.string r.ky))).trans (one_store _ g_X16 5 (.int .i64 r.ow))).trans (one_store _ g_X16 6 (.slice ra r.l.length rc))).trans (one_store _ g_X16 7 (.slice rb r.s.length rdd))).trans (one_store _ g_X16 8 (.int .i64 RC))
      replace X16 := jj ((((((((((X16.out).set 0 (by simp) (.int .i64 r.kd)).set 1 (by simp) (.int .i64 r.fr)).set 2 (by simp) (.int .i64 r.tq)).set 3 (by simp) (.int .i64 r.rq)).set 4 (by simp) (.string r.ky)).set 5 (by simp) (.int .i64 r.ow)).set 6 (by simp) (.slice ra r.l.length rc)).set 7 (by simp) (.slice rb r.s.length rdd)).set 8 (by simp) (.int .i64 RC))
      simp only [List.set_cons_zero, List.set_cons_succ] at X16
      replace V13 := jj (V13.out.within hw (by omega))
      replace V15 := jj (V15.out.within hw (by omega))
      replace D4 := jj (D4.out.within hw (by omega))
      replace X17 := jj (X17.out.within hw (by omega))
      replace Mr := jj (Mr.out.within hw (by omega))
      replace Nr := jj (Nr.out.within hw (by omega))
      replace Mv := jj (Mv.out.within hw (by omega))
      replace Nv := jj (Nv.out.within hw (by omega))
      have zs10 := hw.size
      clear hw
      generalize (World.setCell (World.setCell (World.setCell (World.setCell (World.setCell (World.setCell (World.setCell (World.setCell (World.setCell wm42 ⟨g_X16, 0, none⟩ (.int .i64 r.kd)) ⟨g_X16, 1, none⟩ (.int .i64 r.fr)) ⟨g_X16, 2, none⟩ (.int .i64 r.tq)) ⟨g_X16, 3, none⟩ (.int .i64 r.rq)) ⟨g_X16, 4, none⟩ (.string r.ky)) ⟨g_X16, 5, none⟩ (.int .i64 r.ow)) ⟨g_X16, 6, none⟩ (.slice ra r.l.length rc)) ⟨g_X16, 7, none⟩ (.slice rb r.s.length rdd)) ⟨g_X16, 8, none⟩ (.int .i64 RC)) = wm43 at zs10 V13 V15 D4 X16 X17 Mr Nr Mv Nv ⊢
      refine hK.out _ _ (by exact j8 V13.out.c8 ⟨V15.out.c2.1, V15.out.c2.2.1⟩) (fun hHeld => ?_)
      clear hK K
      try walk_nrm
      refine rd 11 (fun K hK => ?_)
      go_simp
      obtain ⟨sx0, sx1, sx2, sx3, sx4, sx5, sx6, sx7, sx8, sx9, sx10, sx11, sx12, sx13, sx14, sx15, sx16, sx17⟩ := X17.out.c9
      go_simp
      clear sx0 sx1 sx2 sx3 sx4 sx5 sx6 sx7 sx8 sx9 sx10 sx11 sx12 sx13 sx14 sx15 sx16 sx17
      have hw := ((((((((one_store wm43 g_X17 0 (.int .i64 r.kd)).trans (one_store _ g_X17 1 (.int .i64 r.fr))).trans (one_store _ g_X17 2 (.int .i64 r.tq))).trans (one_store _ g_X17 3 (.int .i64 r.rq))).trans (one_store _ g_X17 4 (.string r.ky))).trans (one_store _ g_X17 5 (.int .i64 r.ow))).trans (one_store _ g_X17 6 (.slice va r.l.length vc))).trans (one_store _ g_X17 7 (.slice vb r.s.length vd))).trans (one_store _ g_X17 8 (.int .i64 RC))
      replace X17 := jj ((((((((((X17.out).set 0 (by simp) (.int .i64 r.kd)).set 1 (by simp) (.int .i64 r.fr)).set 2 (by simp) (.int .i64 r.tq)).set 3 (by simp) (.int .i64 r.rq)).set 4 (by simp) (.string r.ky)).set 5 (by simp) (.int .i64 r.ow)).set 6 (by simp) (.slice va r.l.length vc)).set 7 (by simp) (.slice vb r.s.length vd)).set 8 (by simp) (.int .i64 RC))
      simp only [List.set_cons_zero, List.set_cons_succ] at X17
      replace V13 := jj (V13.out.within hw (by omega))
      replace V15 := jj (V15.out.within hw (by omega))
      replace D4 := jj (D4.out.within hw (by omega))
      replace X16 := jj (X16.out.within hw (by omega))
      replace Mr := jj (Mr.out.within hw (by omega))
      replace Nr := jj (Nr.out.within hw (by omega))
      replace Mv := jj (Mv.out.within hw (by omega))
      replace Nv := jj (Nv.out.within hw (by omega))
      have zs11 := hw.size
      clear hw
      generalize (World.setCell (World.setCell (World.setCell (World.setCell (World.setCell (World.setCell (World.setCell (World.setCell (World.setCell wm43 ⟨g_X17, 0, none⟩ (.int .i64 r.kd)) ⟨g_X17, 1, none⟩ (.int .i64 r.fr)) ⟨g_X17, 2, none⟩ (.int .i64 r.tq)) ⟨g_X17, 3, none⟩ (.int .i64 r.rq)) ⟨g_X17, 4, none⟩ (.string r.ky)) ⟨g_X17, 5, none⟩ (.int .i64 r.ow)) ⟨g_X17, 6, none⟩ (.slice va r.l.length vc)) ⟨g_X17, 7, none⟩ (.slice vb r.s.length vd)) ⟨g_X17, 8, none⟩ (.int .i64 RC)) = wm44 at zs11 V13 V15 D4 X16 X17 Mr Nr Mv Nv ⊢
      refine hK.out _ _ (by exact j8 V13.out.c8 ⟨V15.out.c2.1, V15.out.c2.2.1⟩) (fun hHeld => ?_)
      clear hK K
      try walk_nrm
      refine rx ?_
      exact HK.out _ _ _ _ _ _ _ _ _ _ _ _ _ _ _ _ _ _ _ X16.out X17.out Mr.out.at_ Nr.out.at_ Mv.out.at_ Nv.out.at_ D4.out
  · go_simp
    have hb := step_alloc wm1 (.cells #[.int .i64 0, .int .i64 0, .int .i64 0, .int .i64 0, .string ⟨#[]⟩, .int .i64 0, .slice none 0 0, .slice none 0 0, .int .i64 0] 33)
    replace V13 := jj (V13.out.below hb)
    replace V15 := jj (V15.out.below hb)
    replace D4 := jj (D4.out.below hb)
    have X17 := jj (Cells.new wm1 #[.int .i64 0, .int .i64 0, .int .i64 0, .int .i64 0, .string ⟨#[]⟩, .int .i64 0, .slice none 0 0, .slice none 0 0, .int .i64 0] 33)
    simp only [List.toList_toArray] at X17
    have z_X17 : wm1.heap.size < (wm1.alloc (.cells #[.int .i64 0, .int .i64 0, .int .i64 0, .int .i64 0, .string ⟨#[]⟩, .int .i64 0, .slice none 0 0, .slice none 0 0, .int .i64 0] 33)).heap.size := by simp
    obtain ⟨g_X17, hg_X17⟩ : ∃ g, g = wm1.heap.size := ⟨_, rfl⟩
    rw [← hg_X17] at X17 z_X17 ⊢
    have zl_X17 : wm1.heap.size ≤ g_X17 := Nat.le_of_eq hg_X17.symm
    clear hg_X17
    clear hb
    generalize wm1.alloc (.cells #[.int .i64 0, .int .i64 0, .int .i64 0, .int .i64 0, .string ⟨#[]⟩, .int .i64 0, .slice none 0 0, .slice none 0 0, .int .i64 0] 33) = wm45 at z_X17 V13 V15 D4 X17 ⊢
    refine hK.out _ _ (by exact j8 V13.out.c8 ⟨V15.out.c2.1, V15.out.c2.2.1⟩) (fun hHeld => ?_)
    clear hK K
    try walk_nrm
    refine wpAnyH_ready (rs := [3, 8]) (by kernel_rfl) (by simp) ?_
    refine AllReadyH.cons rfl (fun K hK => ?_) (AllReadyH.cons rfl (fun K hK => ?_) (AllReadyH.nil))
    · go_simp
      refine (tn_i0 nn (BQ.out _ D4.out) (BS.out _ D4.out).ml (BS.out _ D4.out).ms (BS.out _ D4.out).ok.l6 (BS.out _ D4.out).ok.s9 (BS.out _ D4.out).ok.small (BS.out _ D4.out).ok.wf).mono ?_
      rintro e wm46 ⟨ra, rc, rb, rdd, lo1, hi1, lo2, hi2, rfl, ho, hq, y1r, y2r, y3r, y4r, -, hb⟩
      rw [HR.out] at ho hq ⊢
      rw [HRC.out]
      have Mr := jj (show OwnI wm46 lo1 hi1 ra r.l from ⟨ho, y3r⟩)
      have Nr := jj (show ROwnI 4 senc wm46 lo2 hi2 rb r.s from ⟨hq, y4r⟩)
      clear ho hq
      replace V13 := jj (V13.out.below hb)
      replace V15 := jj (V15.out.below hb)
      replace D4 := jj (D4.out.below hb)
      replace X17 := jj (X17.out.below hb)
      have zc3 := hb.size
      clear hb
      go_wp2_with fail
      refine hK.out _ _ (by exact j8 V13.out.c8 ⟨V15.out.c2.1, V15.out.c2.2.1⟩) (fun hHeld => ?_)
      clear hK K
      try walk_nrm
      refine wpAnyH_ready (rs := [7, 8]) (by kernel_rfl) (by simp) ?_
      refine AllReadyH.cons rfl (fun K hK => ?_) (AllReadyH.cons rfl (fun K hK => ?_) (AllReadyH.nil))
      · go_simp
        refine (tn_s0 nn (BQ.out _ D4.out) (BS.out _ D4.out).ml (BS.out _ D4.out).ms (BS.out _ D4.out).ok.l6 (BS.out _ D4.out).ok.s9 (BS.out _ D4.out).ok.small).mono ?_
        rintro e wm47 ⟨va, vc, vb, vd, lo3, hi3, lo4, hi4, rfl, ho, hq, y1v, y2v, y3v, y4v, -, hb⟩
        rw [HR.out] at ho hq ⊢
        rw [HRC.out]
        have Mv := jj (show OwnI wm47 lo3 hi3 va r.l from ⟨ho, y3v⟩)
        have Nv := jj (show ROwnI 4 senc wm47 lo4 hi4 vb r.s from ⟨hq, y4v⟩)
        clear ho hq
        replace V13 := jj (V13.out.below hb)
        replace V15 := jj (V15.out.below hb)
        replace D4 := jj (D4.out.below hb)
        replace X17 := jj (X17.out.below hb)
        replace Mr := jj (Mr.out.below hb)
        replace Nr := jj (Nr.out.below hb)
        have zc7 := hb.size
        clear hb
        go_wp2_with fail
        refine hK.out _ _ (by exact j8 V13.out.c8 ⟨V15.out.c2.1, V15.out.c2.2.1⟩) (fun hHeld => ?_)
        clear hK K
        try walk_nrm
        refine rd 8 (fun K hK => ?_)
        go_simp
        have hb := step_alloc wm47 (.cells #[.int .i64 0, .int .i64 0, .int .i64 0, .int .i64 0, .string ⟨#[]⟩, .int .i64 0, .slice none 0 0, .slice none 0 0, .int .i64 0] 33)
        replace V13 := jj (V13.out.below hb)
        replace V15 := jj (V15.out.below hb)
        replace D4 := jj (D4.out.below hb)
        replace X17 := jj (X17.out.below hb)
        replace Mr := jj (Mr.out.below hb)
        replace Nr := jj (Nr.out.below hb)
        replace Mv := jj (Mv.out.below hb)
        replace Nv := jj (Nv.out.below hb)
        have X16 := jj (Cells.new wm47 #[.int .i64 0, .int .i64 0, .int .i64 0, .int .i64 0, .string ⟨#[]⟩, .int .i64 0, .slice none 0 0, .slice none 0 0, .int .i64 0] 33)
        simp only [List.toList_toArray] at X16
        have z_X16 : wm47.heap.size < (wm47.alloc (.cells #[.int .i64 0, .int .i64 0, .int .i64 0, .int .i64 0, .string ⟨#[]⟩, .int .i64 0, .slice none 0 0, .slice none 0 0, .int .i64 0] 33)).heap.size := by simp
        obtain ⟨g_X16, hg_X16⟩ : ∃ g, g = wm47.heap.size := ⟨_, rfl⟩
        rw [← hg_X16] at X16 z_X16 ⊢
        have zl_X16 : wm47.heap.size ≤ g_X16 := Nat.le_of_eq hg_X16.symm
        clear hg_X16
        clear hb
        generalize wm47.alloc (.cells #[.int .i64 0, .int .i64 0, .int .i64 0, .int .i64 0, .string ⟨#[]⟩, .int .i64 0, .slice none 0 0, .slice none 0 0, .int .i64 0] 33) = wm48 at z_X16 V13 V15 D4 X17 Mr Nr Mv Nv X16 ⊢
        refine hK.out _ _ (by exact j8 V13.out.c8 ⟨V15.out.c2.1, V15.out.c2.2.1⟩) (fun hHeld => ?_)
        clear hK K
        try walk_nrm
        refine rd 10 (fun K hK => ?_)
        go_simp
        obtain ⟨sx0, sx1, sx2, sx3, sx4, sx5, sx6, sx7, sx8, sx9, sx10, sx11, sx12, sx13, sx14, sx15, sx16, sx17⟩ := X16.out.c9
        go_simp
        clear sx0 sx1 sx2 sx3 sx4 sx5 sx6 sx7 sx8 sx9 sx10 sx11 sx12 sx13 sx14 sx15 sx16 sx17
        have hw := ((((((((one_store wm48 g_X16 0 (.int .i64 r.kd)).trans (one_store _ g_X16 1 (.int .i64 r.fr))).trans (one_store _ g_X16 2 (.int .i64 r.tq))).trans (one_store _ g_X16 3 (.int .i64 r.rq))).trans (one_store _ g_X16 4 (.string r.ky))).trans (one_store _ g_X16 5 (.int .i64 r.ow))).trans (one_store _ g_X16 6 (.slice ra r.l.length rc))).trans (one_store _ g_X16 7 (.slice rb r.s.length rdd))).trans (one_store _ g_X16 8 (.int .i64 RC))
        replace X16 := jj ((((((((((X16.out).set 0 (by simp) (.int .i64 r.kd)).set 1 (by simp) (.int .i64 r.fr)).set 2 (by simp) (.int .i64 r.tq)).set 3 (by simp) (.int .i64 r.rq)).set 4 (by simp) (.string r.ky)).set 5 (by simp) (.int .i64 r.ow)).set 6 (by simp) (.slice ra r.l.length rc)).set 7 (by simp) (.slice rb r.s.length rdd)).set 8 (by simp) (.int .i64 RC))
        simp only [List.set_cons_zero, List.set_cons_succ] at X16
        replace V13 := jj (V13.out.within hw (by omega))
        replace V15 := jj (V15.out.within hw (by omega))
        replace D4 := jj (D4.out.within hw (by omega))
        replace X17 := jj (X17.out.within hw (by omega))
        replace Mr := jj (Mr.out.within hw (by omega))
        replace Nr := jj (Nr.out.within hw (by omega))
        replace Mv := jj (Mv.out.within hw (by omega))
        replace Nv := jj (Nv.out.within hw (by omega))
        have zs10 := hw.size
        clear hw
        generalize (World.setCell (World.setCell (World.setCell (World.setCell (World.setCell (World.setCell (World.setCell (World.setCell (World.setCell wm48 ⟨g_X16, 0, none⟩ (.int .i64 r.kd)) ⟨g_X16, 1, none⟩ (.int .i64 r.fr)) ⟨g_X16, 2, none⟩ (.int .i64 r.tq)) ⟨g_X16, 3, none⟩ (.int .i64 r.rq)) ⟨g_X16, 4, none⟩ (.string r.ky)) ⟨g_X16, 5, none⟩ (.int .i64 r.ow)) ⟨g_X16, 6, none⟩ (.slice ra r.l.length rc)) ⟨g_X16, 7, none⟩ (.slice rb r.s.length rdd)) ⟨g_X16, 8, none⟩ (.int .i64 RC)) = wm49 at zs10 V13 V15 D4 X17 Mr Nr Mv Nv X16 ⊢
        refine hK.out _ _ (by exact j8 V13.out.c8 ⟨V15.out.c2.1, V15.out.c2.2.1⟩) (fun hHeld => ?_)
        clear hK K
        try walk_nrm
        refine rd 11 (fun K hK => ?_)
        go_simp
        obtain ⟨sx0, sx1, sx2, sx3, sx4, sx5, sx6, sx7, sx8, sx9, sx10, sx11, sx12, sx13, sx14, sx15, sx16, sx17⟩ := X17.out.c9
        go_simp
        clear sx0 sx1 sx2 sx3 sx4 sx5 sx6 sx7 sx8 sx9 sx10 sx11 sx12 sx13 sx14 sx15 sx16 sx17
        have hw := ((((((((one_store wm49 g_X17 0 (.int .i64 r.kd)).trans (one_store _ g_X17 1 (.int .i64 r.fr))).trans (one_store _ g_X17 2 (.int .i64 r.tq))).trans (one_store _ g_X17 3 (.int .i64 r.rq))).trans (one_store _ g_X17 4 (.string r.ky))).trans (one_store _ g_X17 5 (.int .i64 r.ow))).trans (one_store _ g_X17 6 (.slice va r.l.length vc))).trans (one_store _ g_X17 7 (.slice vb r.s.length vd))).trans (one_store _ g_X17 8 (.int .i64 RC))
        replace X17 := jj ((((((((((X17.out).set 0 (by simp) (.int .i64 r.kd)).set 1 (by simp) (.int .i64 r.fr)).set 2 (by simp) (.int .i64 r.tq)).set 3 (by simp) (.int .i64 r.rq)).set 4 (by simp) (.string r.ky)).set 5 (by simp) (.int .i64 r.ow)).set 6 (by simp) (.slice va r.l.length vc)).set 7 (by simp) (.slice vb r.s.length vd)).set 8 (by simp) (.int .i64 RC))
        simp only [List.set_cons_zero, List.set_cons_succ] at X17
        replace V13 := jj (V13.out.within hw (by omega))
        replace V15 := jj (V15.out.within hw (by omega))
        replace D4 := jj (D4.out.within hw (by omega))
        replace Mr := jj (Mr.out.within hw (by omega))
        replace Nr := jj (Nr.out.within hw (by omega))
        replace Mv := jj (Mv.out.within hw (by omega))
        replace Nv := jj (Nv.out.within hw (by omega))
        replace X16 := jj (X16.out.within hw (by omega))
        have zs11 := hw.size
        clear hw
        generalize (World.setCell (World.setCell (World.setCell (World.setCell (World.setCell (World.setCell (World.setCell (World.setCell (World.setCell wm49 ⟨g_X17, 0, none⟩ (.int .i64 r.kd)) ⟨g_X17, 1, none⟩ (.int .i64 r.fr)) ⟨g_X17, 2, none⟩ (.int .i64 r.tq)) ⟨g_X17, 3, none⟩ (.int .i64 r.rq)) ⟨g_X17, 4, none⟩ (.string r.ky)) ⟨g_X17, 5, none⟩ (.int .i64 r.ow)) ⟨g_X17, 6, none⟩ (.slice va r.l.length vc)) ⟨g_X17, 7, none⟩ (.slice vb r.s.length vd)) ⟨g_X17, 8, none⟩ (.int .i64 RC)) = wm50 at zs11 V13 V15 D4 X17 Mr Nr Mv Nv X16 ⊢
        refine hK.out _ _ (by exact j8 V13.out.c8 ⟨V15.out.c2.1, V15.out.c2.2.1⟩) (fun hHeld => ?_)
        clear hK K
        try walk_nrm
        refine rx ?_
        exact HK.out _ _ _ _ _ _ _ _ _ _ _ _ _ _ _ _ _ _ _ X16.out X17.out Mr.out.at_ Nr.out.at_ Mv.out.at_ Nv.out.at_ D4.out
      · go_simp
        have hb := step_alloc wm46 (.cells #[.int .i64 0, .int .i64 0, .int .i64 0, .int .i64 0, .string ⟨#[]⟩, .int .i64 0, .slice none 0 0, .slice none 0 0, .int .i64 0] 33)
        replace V13 := jj (V13.out.below hb)
        replace V15 := jj (V15.out.below hb)
        replace D4 := jj (D4.out.below hb)
        replace X17 := jj (X17.out.below hb)
        replace Mr := jj (Mr.out.below hb)
        replace Nr := jj (Nr.out.below hb)
        have X16 := jj (Cells.new wm46 #[.int .i64 0, .int .i64 0, .int .i64 0, .int .i64 0, .string ⟨#[]⟩, .int .i64 0, .slice none 0 0, .slice none 0 0, .int .i64 0] 33)
        simp only [List.toList_toArray] at X16
        have z_X16 : wm46.heap.size < (wm46.alloc (.cells #[.int .i64 0, .int .i64 0, .int .i64 0, .int .i64 0, .string ⟨#[]⟩, .int .i64 0, .slice none 0 0, .slice none 0 0, .int .i64 0] 33)).heap.size := by simp
        obtain ⟨g_X16, hg_X16⟩ : ∃ g, g = wm46.heap.size := ⟨_, rfl⟩
        rw [← hg_X16] at X16 z_X16 ⊢
        have zl_X16 : wm46.heap.size ≤ g_X16 := Nat.le_of_eq hg_X16.symm
        clear hg_X16
        clear hb
        generalize wm46.alloc (.cells #[.int .i64 0, .int .i64 0, .int .i64 0, .int .i64 0, .string ⟨#[]⟩, .int .i64 0, .slice none 0 0, .slice none 0 0, .int .i64 0] 33) = wm51 at z_X16 V13 V15 D4 X17 Mr Nr X16 ⊢
        refine hK.out _ _ (by exact j8 V13.out.c8 ⟨V15.out.c2.1, V15.out.c2.2.1⟩) (fun hHeld => ?_)
        clear hK K
        try walk_nrm
        refine rd 7 (fun K hK => ?_)
        go_simp
        refine (tn_s0 nn (BQ.out _ D4.out) (BS.out _ D4.out).ml (BS.out _ D4.out).ms (BS.out _ D4.out).ok.l6 (BS.out _ D4.out).ok.s9 (BS.out _ D4.out).ok.small).mono ?_
        rintro e wm52 ⟨va, vc, vb, vd, lo3, hi3, lo4, hi4, rfl, ho, hq, y1v, y2v, y3v, y4v, -, hb⟩
        rw [HR.out] at ho hq ⊢
        rw [HRC.out]
        have Mv := jj (show OwnI wm52 lo3 hi3 va r.l from ⟨ho, y3v⟩)
        have Nv := jj (show ROwnI 4 senc wm52 lo4 hi4 vb r.s from ⟨hq, y4v⟩)
        clear ho hq
        replace V13 := jj (V13.out.below hb)
        replace V15 := jj (V15.out.below hb)
        replace D4 := jj (D4.out.below hb)
        replace X17 := jj (X17.out.below hb)
        replace Mr := jj (Mr.out.below hb)
        replace Nr := jj (Nr.out.below hb)
        replace X16 := jj (X16.out.below hb)
        have zc7 := hb.size
        clear hb
        go_wp2_with fail
        refine hK.out _ _ (by exact j8 V13.out.c8 ⟨V15.out.c2.1, V15.out.c2.2.1⟩) (fun hHeld => ?_)
        clear hK K
        try walk_nrm
        refine rd 10 (fun K hK => ?_)
        go_simp
        obtain ⟨sx0, sx1, sx2, sx3, sx4, sx5, sx6, sx7, sx8, sx9, sx10, sx11, sx12, sx13, sx14, sx15, sx16, sx17⟩ := X16.out.c9
        go_simp
        clear sx0 sx1 sx2 sx3 sx4 sx5 sx6 sx7 sx8 sx9 sx10 sx11 sx12 sx13 sx14 sx15 sx16 sx17
        have hw := ((((((((one_store wm52 g_X16 0 (.int .i64 r.kd)).trans (one_store _ g_X16 1 (.int .i64 r.fr))).trans (one_store _ g_X16 2 (.int .i64 r.tq))).trans (one_store _ g_X16 3 (.int .i64 r.rq))).trans (one_store _ g_X16 4 (.string r.ky))).trans (one_store _ g_X16 5 (.int .i64 r.ow))).trans (one_store _ g_X16 6 (.slice ra r.l.length rc))).trans (one_store _ g_X16 7 (.slice rb r.s.length rdd))).trans (one_store _ g_X16 8 (.int .i64 RC))
        replace X16 := jj ((((((((((X16.out).set 0 (by simp) (.int .i64 r.kd)).set 1 (by simp) (.int .i64 r.fr)).set 2 (by simp) (.int .i64 r.tq)).set 3 (by simp) (.int .i64 r.rq)).set 4 (by simp) (.string r.ky)).set 5 (by simp) (.int .i64 r.ow)).set 6 (by simp) (.slice ra r.l.length rc)).set 7 (by simp) (.slice rb r.s.length rdd)).set 8 (by simp) (.int .i64 RC))
        simp only [List.set_cons_zero, List.set_cons_succ] at X16
        replace V13 := jj (V13.out.within hw (by omega))
        replace V15 := jj (V15.out.within hw (by omega))
        replace D4 := jj (D4.out.within hw (by omega))
        replace X17 := jj (X17.out.within hw (by omega))
        replace Mr := jj (Mr.out.within hw (by omega))
        replace Nr := jj (Nr.out.within hw (by omega))
        replace Mv := jj (Mv.out.within hw (by omega))
        replace Nv := jj (Nv.out.within hw (by omega))
        have zs10 := hw.size
        clear hw
        generalize (World.setCell (World.setCell (World.setCell (World.setCell (World.setCell (World.setCell (World.setCell (World.setCell (World.setCell wm52 ⟨g_X16, 0, none⟩ (.int .i64 r.kd)) ⟨g_X16, 1, none⟩ (.int .i64 r.fr)) ⟨g_X16, 2, none⟩ (.int .i64 r.tq)) ⟨g_X16, 3, none⟩ (.int .i64 r.rq)) ⟨g_X16, 4, none⟩ (.string r.ky)) ⟨g_X16, 5, none⟩ (.int .i64 r.ow)) ⟨g_X16, 6, none⟩ (.slice ra r.l.length rc)) ⟨g_X16, 7, none⟩ (.slice rb r.s.length rdd)) ⟨g_X16, 8, none⟩ (.int .i64 RC)) = wm53 at zs10 V13 V15 D4 X17 Mr Nr X16 Mv Nv ⊢
        refine hK.out _ _ (by exact j8 V13.out.c8 ⟨V15.out.c2.1, V15.out.c2.2.1⟩) (fun hHeld => ?_)
        clear hK K
        try walk_nrm
        refine rd 11 (fun K hK => ?_)
        go_simp
        obtain ⟨sx0, sx1, sx2, sx3, sx4, sx5, sx6, sx7, sx8, sx9, sx10, sx11, sx12, sx13, sx14, sx15, sx16, sx17⟩ := X17.out.c9
        go_simp
        clear sx0 sx1 sx2 sx3 sx4 sx5 sx6 sx7 sx8 sx9 sx10 sx11 sx12 sx13 sx14 sx15 sx16 sx17
        have hw := ((((((((one_store wm53 g_X17 0 (.int .i64 r.kd)).trans (one_store _ g_X17 1 (.int .i64 r.fr))).trans (one_store _ g_X17 2 (.int .i64 r.tq))).trans (one_store _ g_X17 3 (.int .i64 r.rq))).trans (one_store _ g_X17 4 (.string r.ky))).trans (one_store _ g_X17 5 (.int .i64 r.ow))).trans (one_store _ g_X17 6 (.slice va r.l.length vc))).trans (one_store _ g_X17 7 (.slice vb r.s.length vd))).trans (one_store _ g_X17 8 (.int .i64 RC))
        replace X17 := jj ((((((((((X17.out).set 0 (by simp) (.int .i64 r.kd)).set 1 (by simp) (.int .i64 r.fr)).set 2 (by simp) (.int .i64 r.tq)).set 3 (by simp) (.int .i64 r.rq)).set 4 (by simp) (.string r.ky)).set 5 (by simp) (.int .i64 r.ow)).set 6 (by simp) (.slice va r.l.length vc)).set 7 (by simp) (.slice vb r.s.length vd)).set 8 (by simp) (.int .i64 RC))
        simp only [List.set_cons_zero, List.set_cons_succ] at X17
        replace V13 := jj (V13.out.within hw (by omega))
        replace V15 := jj (V15.out.within hw (by omega))
        replace D4 := jj (D4.out.within hw (by omega))
        replace Mr := jj (Mr.out.within hw (by omega))
        replace Nr := jj (Nr.out.within hw (by omega))
        replace X16 := jj (X16.out.within hw (by omega))
        replace Mv := jj (Mv.out.within hw (by omega))
        replace Nv := jj (Nv.out.within hw (by omega))
        have zs11 := hw.size
        clear hw
        generalize (World.setCell (World.setCell (World.setCell (World.setCell (World.setCell (World.setCell (World.setCell (World.setCell (World.setCell wm53 ⟨g_X17, 0, none⟩ (.int .i64 r.kd)) ⟨g_X17, 1, none⟩ (.int .i64 r.fr)) ⟨g_X17, 2, none⟩ (.int .i64 r.tq)) ⟨g_X17, 3, none⟩ (.int .i64 r.rq)) ⟨g_X17, 4, none⟩ (.string r.ky)) ⟨g_X17, 5, none⟩ (.int .i64 r.ow)) ⟨g_X17, 6, none⟩ (.slice va r.l.length vc)) ⟨g_X17, 7, none⟩ (.slice vb r.s.length vd)) ⟨g_X17, 8, none⟩ (.int .i64 RC)) = wm54 at zs11 V13 V15 D4 X17 Mr Nr X16 Mv Nv ⊢
        refine hK.out _ _ (by exact j8 V13.out.c8 ⟨V15.out.c2.1, V15.out.c2.2.1⟩) (fun hHeld => ?_)
        clear hK K
        try walk_nrm
        refine rx ?_
        exact HK.out _ _ _ _ _ _ _ _ _ _ _ _ _ _ _ _ _ _ _ X16.out X17.out Mr.out.at_ Nr.out.at_ Mv.out.at_ Nv.out.at_ D4.out
    · go_simp
      have hb := step_alloc wm45 (.cells #[.int .i64 0, .int .i64 0, .int .i64 0, .int .i64 0, .string ⟨#[]⟩, .int .i64 0, .slice none 0 0, .slice none 0 0, .int .i64 0] 33)
      replace V13 := jj (V13.out.below hb)
      replace V15 := jj (V15.out.below hb)
      replace D4 := jj (D4.out.below hb)
      replace X17 := jj (X17.out.below hb)
      have X16 := jj (Cells.new wm45 #[.int .i64 0, .int .i64 0, .int .i64 0, .int .i64 0, .string ⟨#[]⟩, .int .i64 0, .slice none 0 0, .slice none 0 0, .int .i64 0] 33)
      simp only [List.toList_toArray] at X16
      have z_X16 : wm45.heap.size < (wm45.alloc (.cells #[.int .i64 0, .int .i64 0, .int .i64 0, .int .i64 0, .string ⟨#[]⟩, .int .i64 0, .slice none 0 0, .slice none 0 0, .int .i64 0] 33)).heap.size := by simp
      obtain ⟨g_X16, hg_X16⟩ : ∃ g, g = wm45.heap.size := ⟨_, rfl⟩
      rw [← hg_X16] at X16 z_X16 ⊢
      have zl_X16 : wm45.heap.size ≤ g_X16 := Nat.le_of_eq hg_X16.symm
      clear hg_X16
      clear hb
      generalize wm45.alloc (.cells #[.int .i64 0, .int .i64 0, .int .i64 0, .int .i64 0, .string ⟨#[]⟩, .int .i64 0, .slice none 0 0, .slice none 0 0, .int .i64 0] 33) = wm55 at z_X16 V13 V15 D4 X17 X16 ⊢
      refine hK.out _ _ (by exact j8 V13.out.c8 ⟨V15.out.c2.1, V15.out.c2.2.1⟩) (fun hHeld => ?_)
      clear hK K
      try walk_nrm
      refine rd 3 (fun K hK => ?_)
      go_simp
      refine (tn_i0 nn (BQ.out _ D4.out) (BS.out _ D4.out).ml (BS.out _ D4.out).ms (BS.out _ D4.out).ok.l6 (BS.out _ D4.out).ok.s9 (BS.out _ D4.out).ok.small (BS.out _ D4.out).ok.wf).mono ?_
      rintro e wm56 ⟨ra, rc, rb, rdd, lo1, hi1, lo2, hi2, rfl, ho, hq, y1r, y2r, y3r, y4r, -, hb⟩
      rw [HR.out] at ho hq ⊢
      rw [HRC.out]
      have Mr := jj (show OwnI wm56 lo1 hi1 ra r.l from ⟨ho, y3r⟩)
      have Nr := jj (show ROwnI 4 senc wm56 lo2 hi2 rb r.s from ⟨hq, y4r⟩)
      clear ho hq
      replace V13 := jj (V13.out.below hb)
      replace V15 := jj (V15.out.below hb)
      replace D4 := jj (D4.out.below hb)
      replace X17 := jj (X17.out.below hb)
      replace X16 := jj (X16.out.below hb)
      have zc3 := hb.size
      clear hb
      go_wp2_with fail
      refine hK.out _ _ (by exact j8 V13.out.c8 ⟨V15.out.c2.1, V15.out.c2.2.1⟩) (fun hHeld => ?_)
      clear hK K
      try walk_nrm
      refine rd 7 (fun K hK => ?_)
      go_simp
      refine (tn_s0 nn (BQ.out _ D4.out) (BS.out _ D4.out).ml (BS.out _ D4.out).ms (BS.out _ D4.out).ok.l6 (BS.out _ D4.out).ok.s9 (BS.out _ D4.out).ok.small).mono ?_
      rintro e wm57 ⟨va, vc, vb, vd, lo3, hi3, lo4, hi4, rfl, ho, hq, y1v, y2v, y3v, y4v, -, hb⟩
      rw [HR.out] at ho hq ⊢
      rw [HRC.out]
      have Mv := jj (show OwnI wm57 lo3 hi3 va r.l from ⟨ho, y3v⟩)
      have Nv := jj (show ROwnI 4 senc wm57 lo4 hi4 vb r.s from ⟨hq, y4v⟩)
      clear ho hq
      replace V13 := jj (V13.out.below hb)
      replace V15 := jj (V15.out.below hb)
      replace D4 := jj (D4.out.below hb)
      replace X17 := jj (X17.out.below hb)
      replace X16 := jj (X16.out.below hb)
      replace Mr := jj (Mr.out.below hb)
      replace Nr := jj (Nr.out.below hb)
      have zc7 := hb.size
      clear hb
      go_wp2_with fail
      refine hK.out _ _ (by exact j8 V13.out.c8 ⟨V15.out.c2.1, V15.out.c2.2.1⟩) (fun hHeld => ?_)
      clear hK K
      try walk_nrm
      refine rd 10 (fun K hK => ?_)
      go_simp
      obtain ⟨sx0, sx1, sx2, sx3, sx4, sx5, sx6, sx7, sx8, sx9, sx10, sx11, sx12, sx13, sx14, sx15, sx16, sx17⟩ := X16.out.c9
      go_simp
      clear sx0 sx1 sx2 sx3 sx4 sx5 sx6 sx7 sx8 sx9 sx10 sx11 sx12 sx13 sx14 sx15 sx16 sx17
      have hw := ((((((((one_store wm57 g_X16 0 (.int .i64 r.kd)).trans (one_store _ g_X16 1 (.int .i64 r.fr))).trans (one_store _ g_X16 2 (.int .i64 r.tq))).trans (one_store _ g_X16 3 (.int .i64 r.rq))).trans (one_store _ g_X16 4 (.string r.ky))).trans (one_store _ g_X16 5 (.int .i64 r.ow))).trans (one_store _ g_X16 6 (.slice ra r.l.length rc))).trans (one_store _ g_X16 7 (.slice rb r.s.length rdd))).trans (one_store _ g_X16 8 (.int .i64 RC))
      replace X16 := jj ((((((((((X16.out).set 0 (by simp) (.int .i64 r.kd)).set 1 (by simp) (.int .i64 r.fr)).set 2 (by simp) (.int .i64 r.tq)).set 3 (by simp) (.int .i64 r.rq)).set 4 (by simp) (.string r.ky)).set 5 (by simp) (.int .i64 r.ow)).set 6 (by simp) (.slice ra r.l.length rc)).set 7 (by simp) (.slice rb r.s.length rdd)).set 8 (by simp) (.int .i64 RC))
      simp only [List.set_cons_zero, List.set_cons_succ] at X16
      replace V13 := jj (V13.out.within hw (by omega))
      replace V15 := jj (V15.out.within hw (by omega))
      replace D4 := jj (D4.out.within hw (by omega))
      replace X17 := jj (X17.out.within hw (by omega))
      replace Mr := jj (Mr.out.within hw (by omega))
      replace Nr := jj (Nr.out.within hw (by omega))
      replace Mv := jj (Mv.out.within hw (by omega))
      replace Nv := jj (Nv.out.within hw (by omega))
      have zs10 := hw.size
      clear hw
      generalize (World.setCell (World.setCell (World.setCell (World.setCell (World.setCell (World.setCell (World.setCell (World.setCell (World.setCell wm57 ⟨g_X16, 0, none⟩ (.int .i64 r.kd)) ⟨g_X16, 1, none⟩ (.int .i64 r.fr)) ⟨g_X16, 2, none⟩ (.int .i64 r.tq)) ⟨g_X16, 3, none⟩ (.int .i64 r.rq)) ⟨g_X16, 4, none⟩ (.string r.ky)) ⟨g_X16, 5, none⟩ (.int .i64 r.ow)) ⟨g_X16, 6, none⟩ (.slice ra r.l.length rc)) ⟨g_X16, 7, none⟩ (.slice rb r.s.length rdd)) ⟨g_X16, 8, none⟩ (.int .i64 RC)) = wm58 at zs10 V13 V15 D4 X17 X16 Mr Nr Mv Nv ⊢
      refine hK.out _ _ (by exact j8 V13.out.c8 ⟨V15.out.c2.1, V15.out.c2.2.1⟩) (fun hHeld => ?_)
      clear hK K
      try walk_nrm
      refine rd 11 (fun K hK => ?_)
      go_simp
      obtain ⟨sx0, sx1, sx2, sx3, sx4, sx5, sx6, sx7, sx8, sx9, sx10, sx11, sx12, sx13, sx14, sx15, sx16, sx17⟩ := X17.out.c9
      go_simp
      clear sx0 sx1 sx2 sx3 sx4 sx5 sx6 sx7 sx8 sx9 sx10 sx11 sx12 sx13 sx14 sx15 sx16 sx17
      have hw := ((((((((one_store wm58 g_X17 0 (.int .i64 r.kd)).trans (one_store _ g_X17 1 (.int .i64 r.fr))).trans (one_store _ g_X17 2 (.int .i64 r.tq))).trans (one_store _ g_X17 3 (.int .i64 r.rq))).trans (one_store _ g_X17 4 (.string r.ky))).trans (one_store _ g_X17 5 (.int .i64 r.ow))).trans (one_store _ g_X17 6 (.slice va r.l.length vc))).trans (one_store _ g_X17 7 (.slice vb r.s.length vd))).trans (one_store _ g_X17 8 (.int .i64 RC))
      replace X17 := jj ((((((((((X17.out).set 0 (by simp) (.int .i64 r.kd)).set 1 (by simp) (.int .i64 r.fr)).set 2 (by simp) (.int .i64 r.tq)).set 3 (by simp) (.int .i64 r.rq)).set 4 (by simp) (.string r.ky)).set 5 (by simp) (.int .i64 r.ow)).set 6 (by simp) (.slice va r.l.length vc)).set 7 (by simp) (.slice vb r.s.length vd)).set 8 (by simp) (.int .i64 RC))
      simp only [List.set_cons_zero, List.set_cons_succ] at X17
      replace V13 := jj (V13.out.within hw (by omega))
      replace V15 := jj (V15.out.within hw (by omega))
      replace D4 := jj (D4.out.within hw (by omega))
      replace X16 := jj (X16.out.within hw (by omega))
      replace Mr := jj (Mr.out.within hw (by omega))
      replace Nr := jj (Nr.out.within hw (by omega))
      replace Mv := jj (Mv.out.within hw (by omega))
      replace Nv := jj (Nv.out.within hw (by omega))
      have zs11 := hw.size
      clear hw
      generalize (World.setCell (World.setCell (World.setCell (World.setCell (World.setCell (World.setCell (World.setCell (World.setCell (World.setCell wm58 ⟨g_X17, 0, none⟩ (.int .i64 r.kd)) ⟨g_X17, 1, none⟩ (.int .i64 r.fr)) ⟨g_X17, 2, none⟩ (.int .i64 r.tq)) ⟨g_X17, 3, none⟩ (.int .i64 r.rq)) ⟨g_X17, 4, none⟩ (.string r.ky)) ⟨g_X17, 5, none⟩ (.int .i64 r.ow)) ⟨g_X17, 6, none⟩ (.slice va r.l.length vc)) ⟨g_X17, 7, none⟩ (.slice vb r.s.length vd)) ⟨g_X17, 8, none⟩ (.int .i64 RC)) = wm59 at zs11 V13 V15 D4 X17 X16 Mr Nr Mv Nv ⊢
      refine hK.out _ _ (by exact j8 V13.out.c8 ⟨V15.out.c2.1, V15.out.c2.2.1⟩) (fun hHeld => ?_)
      clear hK K
      try walk_nrm
      refine rx ?_
      exact HK.out _ _ _ _ _ _ _ _ _ _ _ _ _ _ _ _ _ _ _ X16.out X17.out Mr.out.at_ Nr.out.at_ Mv.out.at_ Nv.out.at_ D4.out
end Go.Proofs.YtiaoifodaoifjaaGreat.Sb
