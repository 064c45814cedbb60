/- Parts of a law: FnPassLaw. Conditions: on sizes, as each says. -/
import Derived.Test.YtiaoifodaoifjaaDoorZ1
import Derived.Test.YtiaoifodaoifjaaDoorZ11
import Derived.Test.YtiaoifodaoifjaaDoorZ17
import Derived.Test.YtiaoifodaoifjaaDoorZ12
import Derived.Test.YtiaoifodaoifjaaDoorZ21
import Derived.Test.YtiaoifodaoifjaaDoorZ23
import Derived.Test.YtiaoifodaoifjaaDoorZ3
set_option linter.unusedSimpArgs false
set_option linter.unusedVariables false
namespace Go.Proofs.YtiaoifodaoifjaaDoor.Mk
open Go.RowKit
theorem Code.below {w w' : World} {a : Option Addr} {len : Nat} (h : Code w a len) (hb : Below w.heap.size w w') : Code w' a len := ⟨h.1, (h.2.below hb).mono hb.size⟩
end Go.Proofs.YtiaoifodaoifjaaDoor.Mk
namespace Go.Proofs.YtiaoifodaoifjaaDoor.Sb
open Go.RowKit Go.Proofs.YtiaoifodaoifjaaDoor.Mk Go.Proofs.YtiaoifodaoifjaaDoor.Rw Go.Proofs.YtiaoifodaoifjaaDoor.Dr Go.Proofs.YtiaoifodaoifjaaDoor.Se Go.Proofs.YtiaoifodaoifjaaDoor.Nu Go.Proofs.YtiaoifodaoifjaaDoor.Cr
theorem seen_field (v : Value) (n : Int) (W : World) : (Instr.field 30 (.agg #[v, .int .i64 n]) 1).run Tryd.prog W = .ok (.int .i64 n) W := by kernel_rfl
set_option maxRecDepth 100000 in
set_option maxHeartbeats 16000000 in
theorem law_FnPass (a0 a1 : Option Addr) (len0 cap0 len1 cap1 : Nat) (w : World) (h0 : Mk.Code w a0 len0) (h1 : Mk.Code w a1 len1) (hE : As.ErrType w) :
    Calls Tryd.prog 3 #[.slice a0 len0 cap0, .slice a1 len1 cap1] w fun e w' => e = .returned (.bool true) ∧ Below w.heap.size w w' := by
  have H0 := jj h0
  have H1 := jj h1
  have HE := jj hE
  have hl0 := h0.1
  have hl1 := h1.1
  have d0 : decide (1048576 < (len0 : Int)) = false := by simp; omega
  have d1 : decide (1048576 < (len1 : Int)) = false := by simp; omega
  have D := jj (show Base w w from Below.refl _ _)
  clear h0 h1 hE
  go_enter Tryd.func3, Tryd.ntmps3
  go_wp2_with fail
  refine (drawPassOf w a0 len0 cap0 H0.out).mono ?_
  rintro e w1 ⟨k, l, qa, qc, hk4, hl6, rfl, hm, hb⟩
  replace H0 := jj (H0.out.below hb)
  replace H1 := jj (H1.out.below hb)
  replace D := jj (D.out.below hb)
  replace HE := jj (HE.out.below hb)
  have A := jj hm
  clear hb hm H0
  go_wp2_with fail
  refine (impl_passOf k qa qc l w1 (by unfold maxLen; omega) (by unfold maxLen; omega) A.out).mono ?_
  rintro e w2 ⟨rfl, hb⟩
  replace A := jj (A.out.mono hb)
  replace H1 := jj (H1.out.below hb)
  replace D := jj (D.out.below hb)
  replace HE := jj (HE.out.below hb)
  clear hb
  obtain ⟨T, hT⟩ : ∃ x, passV k l = x := ⟨_, rfl⟩
  have HT := jj hT
  rw [hT]
  clear hT
  go_wp2_with fail
  refine (drawPassRead w2 a1 len1 cap1 H1.out).mono ?_
  rintro e w3 ⟨k2, u, hk2, hu3, rfl, hb⟩
  replace A := jj (A.out.mono hb)
  replace H1 := jj (H1.out.below hb)
  replace D := jj (D.out.below hb)
  replace HE := jj (HE.out.below hb)
  clear hb
  obtain ⟨x, hx⟩ : ∃ x, prL k2 u = x := ⟨_, rfl⟩
  obtain ⟨C, hC⟩ : ∃ x, prC k2 u = x := ⟨_, rfl⟩
  have hx5 : x.length ≤ 5 := by rw [← hx]; exact prL_len k2 u
  have HX := jj hx
  have HC := jj hC
  clear hx hC
  go_wp2_with fail
  refine (impl_passRead k2 u w3 (by unfold maxLen; omega) (by unfold maxLen; omega) HE.out).mono ?_
  rintro e w4 ⟨xa, xc, rfl, ho, hb⟩
  rw [HX.out] at ho ⊢
  rw [HC.out]
  replace A := jj (A.out.mono hb)
  replace H1 := jj (H1.out.below hb)
  replace D := jj (D.out.below hb)
  replace HE := jj (HE.out.below hb)
  have AX := jj ho.at_
  clear hb ho
  go_wp2_with fail
  refine (spec_passRead k2 u w4 (by unfold maxLen; omega) (by unfold maxLen; omega)).mono ?_
  rintro e w5 ⟨ya, yc, rfl, ho, hb⟩
  rw [HX.out] at ho ⊢
  rw [HC.out]
  replace A := jj (A.out.mono hb)
  replace AX := jj (AX.out.mono hb)
  replace H1 := jj (H1.out.below hb)
  replace D := jj (D.out.below hb)
  replace HE := jj (HE.out.below hb)
  have AY := jj ho.at_
  clear hb ho
  go_upto_region 7 with fail
  have hb := step_alloc w5 (.cells #[.slice xa x.length xc, .int .i64 C] 30)
  replace H1 := jj (H1.out.below hb)
  replace D := jj (D.out.below hb)
  replace HE := jj (HE.out.below hb)
  replace A := jj (A.out.mono hb)
  replace AX := jj (AX.out.mono hb)
  replace AY := jj (AY.out.mono hb)
  have V10 := jj (Cells.new w5 #[.slice xa x.length xc, .int .i64 C] 30)
  clear hb
  have hb := step_alloc (w5.alloc (.cells #[.slice xa x.length xc, .int .i64 C] 30)) (.cells #[.slice ya x.length yc, .int .i64 C] 30)
  replace H1 := jj (H1.out.below hb)
  replace D := jj (D.out.below hb)
  replace HE := jj (HE.out.below hb)
  replace V10 := jj (V10.out.below hb)
  replace A := jj (A.out.mono hb)
  replace AX := jj (AX.out.mono hb)
  replace AY := jj (AY.out.mono hb)
  have V11 := jj (Cells.new (w5.alloc (.cells #[.slice xa x.length xc, .int .i64 C] 30)) #[.slice ya x.length yc, .int .i64 C] 30)
  clear hb
  simp only [World.size_alloc, List.toList_toArray] at V10 V11
  obtain ⟨g11, hg11⟩ : ∃ g, w5.heap.size + 1 = g := ⟨_, rfl⟩
  obtain ⟨g10, hg10⟩ : ∃ g, w5.heap.size = g := ⟨_, rfl⟩
  rw [hg11] at V11 ⊢
  rw [hg10] at V10 ⊢
  clear hg10 hg11
  generalize (w5.alloc (.cells #[.slice xa x.length xc, .int .i64 C] 30)).alloc (.cells #[.slice ya x.length yc, .int .i64 C] 30) = w6 at H1 D HE V10 V11 A AX AY ⊢
  have hTT : (T.toList == T.toList) = true := by simp
  go_wp2_with fail
  refine (spec_passOf k qa qc l w6 (by unfold maxLen; omega) (by unfold maxLen; omega) A.out).mono ?_
  rintro e w7 ⟨rfl, hb⟩
  rw [HT.out]
  replace H1 := jj (H1.out.below hb)
  replace D := jj (D.out.below hb)
  replace HE := jj (HE.out.below hb)
  replace V10 := jj (V10.out.below hb)
  replace V11 := jj (V11.out.below hb)
  replace A := jj (A.out.mono hb)
  replace AX := jj (AX.out.mono hb)
  replace AY := jj (AY.out.mono hb)
  clear hb
  obtain ⟨x0, x1, _, _⟩ := V10.out.c2
  obtain ⟨y0, y1, _, _⟩ := V11.out.c2
  go_wp2_with fail
  clear x0 x1 y0 y1
  refine (lw_seen xa ya xc yc x x w7 (by unfold maxLen; omega) (by unfold maxLen; omega) AX.out AY.out).mono ?_
  rintro e w8 ⟨he, hb⟩
  obtain rfl : e = .returned (.bool true) := by rw [he]; simp
  replace H1 := jj (H1.out.below hb)
  replace D := jj (D.out.below hb)
  replace HE := jj (HE.out.below hb)
  replace A := jj (A.out.mono hb)
  clear hb he AX AY V10 V11
  by_cases hTe : T = ⟨#[]⟩
  · have hie : T.toList.isEmpty = true := by rw [hTe, ByteArray.toList_eq]; rfl
    have hno := pass_none (HT.out.trans hTe)
    clear hTe
    have hs : ∀ c, T.toList.isEmpty = c → c = true := fun c h => by rw [← h]; exact hie
    go_wp2_with fail
    refine (Nm.spec_NameRight k (by unfold maxLen; omega) w8).mono ?_
    rintro e w9 ⟨rfl, rfl⟩
    cases hn : Nm.nameB k
    · clear hno hs
      go_wp2
      go_ret
      exact ⟨rfl, D.out⟩
    have hr : rightB l = false := by
      unfold passOk at hno
      rw [hn] at hno
      simpa using hno
    have HR := jj hr
    clear hno hs hr
    go_wp2_with fail
    refine (spec_seenRight qa qc l w8 (by unfold maxLen; omega) A.out).mono ?_
    rintro e w9 ⟨rfl, hb⟩
    rw [HR.out]
    replace D := jj (D.out.below hb)
    clear hb
    go_wp2
    go_ret
    exact ⟨rfl, D.out⟩
  have hwr : Wrote k l T := by
    have := pass_wrote (k := k) (l := l) (by rw [HT.out]; exact hTe)
    rw [HT.out] at this
    exact this
  have HW := jj hwr
  have hbz := hwr.b2
  have hs8 := hwr.sz
  have hTm : T.size ≤ maxLen := by unfold maxLen; omega
  have hlong : ¬ 7996 < (passBody k l).size := by omega
  have HDD := jj (show T.data.toList = (passBody k l).data.toList ++ fourL (crcN (passBody k l)) by rw [hwr.is, sealed_short _ hlong, ByteArray.data_append]; simp [four])
  have hne : T.toList.isEmpty = false := by rw [ByteArray.toList_eq, HDD.out]; simp [fourL]
  have hmine := jj hwr.mine
  have hot := hwr.other hk4
  obtain ⟨o, hoo⟩ : ∃ o, k ++ (⟨#[122]⟩ : ByteArray) = o := ⟨_, rfl⟩
  have hoz : o.size = k.size + 1 := by rw [← hoo, ByteArray.size_append]; rfl
  have hoz5 : o.size ≤ 5 := by omega
  rw [hoo] at hot
  have hoth := jj hot
  have HOO := jj hoo
  clear hot hoo hoz
  clear hwr hTe
  obtain ⟨c, w10, hcv, hseg, hb, hz4⟩ := bytes_of w8 T
  have HSG := jj hseg
  have HB4 := jj hb
  have H1b := jj (H1.out.below hb)
  clear hseg hb
  obtain ⟨r1, hr1, C1⟩ := lwAt w10 w10.heap.size a1 len1 cap1 0 T.size hl1 (by omega) (by omega) H1b.out.2
  obtain ⟨r2, hr2, C2⟩ := lwAt w10 w10.heap.size a1 len1 cap1 1 255 hl1 (by omega) (by omega) H1b.out.2
  have hr1' : r1 < T.data.toList.length := by rw [size_data]; omega
  have hr2' : r2 < 255 := by omega
  have hlr : (r1 : Int) < (T.size : Int) := by rw [size_data] at hr1'; omega
  have HC1 := jj (C1 w10 (Below.refl _ _))
  have HC2 := jj C2
  clear C1 C2 hr1 hr2 H1b
  have hs8' := jj hs8
  clear hs8
  go_wp2_with fail
  refine HC1.out.mono ?_
  rintro e w' ⟨rfl, rfl⟩
  have hs8 := hs8'.out
  have e1 := HSG.out.cell r1 hr1'
  have e2 := HSG.out.free r1 hr1'
  obtain ⟨xb1, hxe⟩ : ∃ xb1 : Nat, xb1 = (T.data.toList[r1]).toNat := ⟨_, rfl⟩
  have hxb : xb1 < 256 := by rw [hxe]; exact UInt8.toNat_lt _
  unfold bv at e1
  rw [← hxe] at e1
  have HXE := jj hxe
  clear hxe
  have hxo := u8_xor_nat xb1 (1 + r2) (by omega) (by omega)
  rw [show ((1 + r2 : Nat) : Int) = 1 + (r2 : Int) by omega] at hxo
  have hy : xb1 ^^^ (1 + r2) < 256 := Nat.xor_lt_two_pow (n := 8) (by omega) (by omega)
  have hyne : xb1 ^^^ (1 + r2) ≠ xb1 := fun he => by
    have h2 : (1 + r2) ^^^ xb1 = 0 ^^^ xb1 := by rw [Nat.xor_comm, he, Nat.zero_xor]
    have := xor_inj h2
    omega
  generalize xb1 ^^^ (1 + r2) = y at hxo hy hyne
  have q0 : (0 : Int) ≤ (r1 : Int) := by omega
  have q1 : IntKind.i64.wrap (1 + (r2 : Int)) = 1 + (r2 : Int) := IntWalk.i64_in _ (by omega)
  have q2 : IntKind.u8.wrap (1 + (r2 : Int)) = 1 + (r2 : Int) := by rw [IntKind.wrap_u8']; omega
  have q3 : (1 + (r2 : Int)) % 256 = 1 + (r2 : Int) := by omega
  have hs5 : Seg8 (w10.setCell ⟨w8.heap.size, r1, none⟩ (.int .u8 (y : Int))).drew w8.heap.size (T.data.toList.set r1 (UInt8.ofNat y)) := by
    have := HSG.out.set r1 hr1' (UInt8.ofNat y)
    rw [← bv_of y hy] at this
    exact ⟨this.cell, this.free⟩
  have hlen5 : (T.data.toList.set r1 (UInt8.ofNat y)).length = T.size := by rw [List.length_set, size_data]
  have hg5 : w8.heap.size < (w10.setCell ⟨w8.heap.size, r1, none⟩ (.int .u8 (y : Int))).drew.heap.size := by simpa [World.setCell] using hz4
  have HB5 := jj ((HB4.out.setCell (p := ⟨w8.heap.size, r1, none⟩) (Nat.le_refl _) (.int .u8 (y : Int))).drew)
  have hbad : out ⟨#[]⟩ 0 5 = unsealed ⟨(T.data.toList.set r1 (UInt8.ofNat y)).toArray⟩ := by
    have hr0 := hr1'
    have hx0 := HXE.out
    have hdd := HDD.out
    refine seal_bad (passBody k l) hlong _ r1 (UInt8.ofNat y) (by rw [← hdd]; exact hr0) ?_ (by rw [← hdd])
    intro he
    apply hyne
    have h3 : (UInt8.ofNat y).toNat = xb1 := by
      rw [he, hx0]; congr 1; simp only [hdd]
    rw [toNat_ofNat y hy] at h3; exact h3
  have hsz' : (⟨(T.data.toList.set r1 (UInt8.ofNat y)).toArray⟩ : ByteArray).size = T.size := by rw [← size_data, ← size_data]; simp
  have HS5 := jj hs5
  have HL5 := jj hlen5
  have HC5 := jj (HW.out.spoilt hsz' hbad)
  have hm5 : (⟨(T.data.toList.set r1 (UInt8.ofNat y)).toArray⟩ : ByteArray).size ≤ maxLen := by rw [hsz']; exact hTm
  clear hbad hsz' hs5 hyne HXE hlen5 hs8 hs8'
  generalize T.data.toList.set r1 (UInt8.ofNat y) = l5 at HS5 HL5 HC5 hm5
  go_wp2_with fail
  go_region_with (go_at_call 14; refine (HC2.out _ (by first | exact Below.refl _ _ | exact (Below.refl _ _).drew)).mono ?_; rintro e w' ⟨rfl, rfl⟩)
  all_goals
    generalize (w10.setCell ⟨w8.heap.size, r1, none⟩ (.int .u8 (y : Int))).drew = w11 at HB5 HS5 hg5 ⊢
    clear e1 e2 hcv hxo q1 q2 q3 HC1 HC2 HSG HB4 HDD
    have hb := HB5.out
    replace A := jj (A.out.mono hb)
    replace D := jj (D.out.below hb)
    replace HE := jj (HE.out.below hb)
    clear hb HB5 H1
    go_wp2_with fail
    refine (impl_passRead k T w11 (by unfold maxLen; omega) hTm HE.out).mono ?_
    rintro e w12 ⟨za, zc, rfl, ho, hb⟩
    rw [hmine.out.1] at ho ⊢
    rw [hmine.out.2]
    have AZ := jj ho.at_
    have HS6 := jj (HS5.out.below hb hg5)
    have hg6 := Nat.lt_of_lt_of_le hg5 hb.size
    replace A := jj (A.out.mono hb)
    replace D := jj (D.out.below hb)
    replace HE := jj (HE.out.below hb)
    clear hb ho HS5 hg5
    have hko : ¬ 9223372036854775807 < k.size + 1 := by omega
    have hk20 : ¬ (20 : Int) ≤ (k.size : Int) := by omega
    go_upto_region 15 with fail
    have hb := step_alloc w12 (.cells #[.slice za l.length zc, .int .i64 0] 30)
    replace A := jj (A.out.mono hb)
    replace AZ := jj (AZ.out.mono hb)
    replace D := jj (D.out.below hb)
    replace HE := jj (HE.out.below hb)
    have HS7 := jj (HS6.out.below hb hg6)
    have hg7 := Nat.lt_of_lt_of_le hg6 hb.size
    have V14 := jj (Cells.new w12 #[.slice za l.length zc, .int .i64 0] 30)
    simp only [List.toList_toArray] at V14
    clear hb HS6 hg6
    obtain ⟨g14, hgg⟩ : ∃ g, w12.heap.size = g := ⟨_, rfl⟩
    rw [hgg] at V14 ⊢
    clear hgg
    generalize w12.alloc (.cells #[.slice za l.length zc, .int .i64 0] 30) = w13 at A AZ D HE HS7 hg7 V14 ⊢
    obtain ⟨z0, z1, _, _⟩ := V14.out.c2
    go_wp2_with fail
    clear z0 z1
    refine (lw_seen za qa zc qc l l w13 (by unfold maxLen; omega) (by unfold maxLen; omega) AZ.out A.out).mono ?_
    rintro e w14 ⟨he, hb⟩
    obtain rfl : e = .returned (.bool true) := by rw [he]; simp
    have HS8 := jj (HS7.out.below hb hg7)
    have hg8 := Nat.lt_of_lt_of_le hg7 hb.size
    replace D := jj (D.out.below hb)
    replace HE := jj (HE.out.below hb)
    clear hb he A V14 AZ HS7 hg7
    go_wp2_with fail
    rw [HOO.out]
    refine (impl_passRead o T w14 (by unfold maxLen; omega) hTm HE.out).mono ?_
    rintro e w15 ⟨ta, tc, rfl, ho, hb⟩
    rw [hoth.out.2]
    have HS9 := jj (HS8.out.below hb hg8)
    have hg9 := Nat.lt_of_lt_of_le hg8 hb.size
    have hcv2 := HS9.out.string c
    rw [HL5.out] at hcv2
    replace D := jj (D.out.below hb)
    replace HE := jj (HE.out.below hb)
    clear hb ho HS8 hg8
    have hfd := fun (v : Value) (n : Int) W => seen_field v n W
    go_wp2_with fail
    refine (impl_passRead k ⟨l5.toArray⟩ w15 (by unfold maxLen; omega) hm5 HE.out).mono ?_
    rintro e w16 ⟨va, vc, rfl, ho, hb⟩
    rw [HC5.out.2]
    replace D := jj (D.out.below hb)
    clear hb ho hcv2
    go_wp2
    go_ret
    exact ⟨rfl, D.out⟩
end Go.Proofs.YtiaoifodaoifjaaDoor.Sb
