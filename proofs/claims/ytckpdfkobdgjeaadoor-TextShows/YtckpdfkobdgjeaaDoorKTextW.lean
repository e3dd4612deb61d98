/- The reference's TreeText. -/
import Derived.Test.YtckpdfkobdgjeaaDoorKTextV
import Derived.Test.YtckpdfkobdgjeaaDoorKAnyE
namespace Go.Proofs.YtckpdfkobdgjeaaDoor
open Go.RowKit
set_option maxRecDepth 100000 in
set_option maxHeartbeats 4000000 in
theorem TreeText_any (w : World) (a : Option Addr) (n cap : Nat) (l : QL) (hQ : QsIn w a n cap l) (hc : chkT l = 0) :
    Calls Tryd.prog 7 #[.slice a n cap] w fun e w' => (∃ s : ByteArray, e = .returned (.string s) ∧ s.data.toList = showT (tqs l)) ∧ Below w.heap.size w w' := by
  have HQ := hid hQ
  have HT := hid (tok_of hc)
  have hn := hQ.len
  have hn5 := (right_of hc).five
  have hle := hQ.le
  have hcb := hQ.capb
  obtain ⟨qb, qo, rfl, hcells⟩ := hQ.cells (by have := (right_of hc).pos; omega)
  have HCL := hid hcells
  have hn9 : n ≤ 5 := by omega
  have HN := hid hn
  clear hQ hcells hn hc
  go_enter Tryd.func7, Tryd.ntmps7
  go_wp2_with fail
  go_loopg [3, 4, 5] n (fun gk (u p u5 : Value) wr => ∃ (k : Nat) (T : ByteArray), u = .string T ∧ p = .int .i64 k ∧ k ≤ n ∧ gk = n - k ∧ Hid (T.data.toList = showTo (tqs l) k) ∧ Below w.heap.size w wr)
  case atStart => exact ⟨0, ⟨#[]⟩, rfl, rfl, by omega, by omega, rfl, Below.refl _ _⟩
  case round =>
    obtain ⟨k, T, rfl, rfl, hk, rfl, hTd, hbr⟩ := hrel
    have HBR := hid hbr
    clear hbr
    have hTs : T.size ≤ 1545 := by
      have h1 := showTo_len HT.out k (by rw [tqs_len, ← HN.out]; exact hk)
      rw [Lib.size_eq, hTd.out]; omega
    by_cases hlt : k < n
    · have hlt' : (k : Int) < n := by omega
      obtain ⟨C0, C1, C2⟩ := HCL.out k hlt
      have C0 := cell_later HBR.out C0
      have C1 := cell_later HBR.out C1
      have C2 := cell_later HBR.out C2
      have hcaps := (HQ.out.caps k hlt)
      have hkl : k < (tqs l).length := by rw [tqs_len, ← HN.out]; exact hlt
      have hpar := HT.out.par k hkl
      have hnm := (HT.out.name k hkl).2.1
      have hsm := (HT.out.runs k hkl).2
      have hne := (HT.out.runs k hkl).1
      have hfew := HT.out.few k hkl
      have hhl := headQ_len HT.out hkl
      rw [tqs_at] at hpar hnm hsm hne hfew hhl
      obtain ⟨X, hX⟩ : ∃ X, qu l k = X := ⟨_, rfl⟩
      rw [hX] at C0 C1 C2 hcaps hpar hnm hsm hne hfew hhl
      have hXs : X.name.size ≤ 8 := by have : X.name.data.toList.length = X.name.size := (Lib.size_eq X.name).symm; simp only [tqOf] at hnm; omega
      have hcn : X.cn = X.runs.length := hcaps.len
      have hpos : 0 < X.cn := by
        rw [hcn]
        cases hr : X.runs with
        | nil => exact absurd hr hne
        | cons _ _ => simp
      have hcn48 : X.cn ≤ 48 := by rw [hcn]; exact hfew
      have hXl := hcaps.le
      have hXb := hcaps.capb
      obtain ⟨cb, co, hca, hrc⟩ := hcaps.cells hpos
      rw [hca] at C2
      have HCA := hid hca
      have HRC := hid hrc
      have HSM := hid hsm
      have HCN := hid hcn
      have HX := hid hX
      have HPR := hid hpar
      have HHL := hid hhl
      obtain ⟨P, hP⟩ : ∃ P, X.parent = P := ⟨_, rfl⟩
      rw [hP] at C1
      clear hX hcaps hpar hnm hsm hne hfew hhl hcn hca hrc hkl
      go_upto_if 24 with fail
      go_cut [3, 24] (fun p _ wx => wx = wr ∧ ∃ T2 : ByteArray, p = .string T2 ∧ Hid (T2.data.toList = showTo (tqs l) k ++ headQ (tqs l) (tqOf X)))
      case first =>
        by_cases hp : 0 ≤ P
        · obtain ⟨pn, rfl⟩ := Int.eq_ofNat_of_zero_le hp
          have hpn : pn < k := by have := HPR.out; simp only [tqOf] at this; omega
          have hpn' : (pn : Int) < n := by omega
          have D0 := cell_later HBR.out (HCL.out pn (by omega)).1
          have hpl : pn < (tqs l).length := by rw [tqs_len, ← HN.out]; omega
          have hYn := (HT.out.name pn hpl).2.1
          rw [tqs_at] at hYn
          obtain ⟨Y, hY⟩ : ∃ Y, qu l pn = Y := ⟨_, rfl⟩
          rw [hY] at D0 hYn
          have hYs : Y.name.size ≤ 8 := by have : Y.name.data.toList.length = Y.name.size := (Lib.size_eq Y.name).symm; simp only [tqOf] at hYn; omega
          have HY := hid hY
          have z3 : (⟨#[32, 60, 32]⟩ : ByteArray).size = 3 := rfl
          clear hYn hY
          go_wp2
          go_meet
          refine ⟨rfl, _, rfl, ?_⟩
          show _ = _
          have : headQ (tqs l) (tqOf X) = X.name.data.toList ++ ([32, 60, 32] ++ Y.name.data.toList) := by
            unfold headQ
            rw [if_pos (by simp only [tqOf]; omega)]
            have : (tqOf X).2.1.toNat = pn := by simp only [tqOf]; omega
            rw [this, tqs_at, HY.out]
            rfl
          rw [this, cat_list, cat_list, cat_list, hTd.out]
          simp
        · have hp' : ¬ (0 ≤ P) := hp
          go_wp2
          go_meet
          refine ⟨rfl, _, rfl, ?_⟩
          show _ = _
          have : headQ (tqs l) (tqOf X) = X.name.data.toList := by
            unfold headQ
            rw [if_neg (by simp only [tqOf]; omega)]
            simp [tqOf]
          rw [this, cat_list, hTd.out]
      case rest =>
        obtain ⟨rfl, T2, rfl, hT2⟩ := hcut
        have hT2s : T2.size ≤ 1564 := by
          have h1 := showTo_len HT.out k (by rw [tqs_len, ← HN.out]; exact hk)
          have h2 := HHL.out
          rw [Lib.size_eq, hT2.out, List.length_append]; omega
        have z4 : (⟨#[58]⟩ : ByteArray).size = 1 := rfl
        have z5 : (⟨#[10]⟩ : ByteArray).size = 1 := rfl
        clear C0 C1
        go_wp2_with fail
        go_loopg [3, 5] X.cn (fun gj (u p : Value) wi => ∃ (j : Nat) (T4 : ByteArray), u = .string T4 ∧ p = .int .i64 j ∧ j ≤ X.cn ∧ gj = X.cn - j ∧ Hid (T4.data.toList = T2.data.toList ++ [58] ++ runsTo X.runs j) ∧ Below w.heap.size w wi)
        case atStart => exact ⟨0, _, rfl, rfl, by omega, by omega, (by show _ = _; rw [cat_list, runsTo, List.append_nil]), HBR.out⟩
        case round =>
          obtain ⟨j, T4, rfl, rfl, hj, rfl, hT4, hbi⟩ := hrel
          have HBI := hid hbi
          have C2 := cell_later hbi (HCL.out k hlt).2.2
          rw [HX.out] at C2
          rw [HCA.out] at C2
          have hT4s : T4.size ≤ 1900 := by
            have h1 := runsTo_len X.runs HSM.out j (by have := HCN.out; omega)
            have h2 : T2.data.toList.length = T2.size := (Lib.size_eq T2).symm
            rw [Lib.size_eq, hT4.out]; simp; omega
          clear hbi
          by_cases hjl : j < X.cn
          · have hjl' : (j : Int) < X.cn := by omega
            obtain ⟨r0, r1⟩ := HRC.out j hjl
            have r0 := cell_later HBI.out r0
            have r1 := cell_later HBI.out r1
            have hmem : (rAt X.runs j, rN X.runs j) ∈ X.runs := by
              have hjx : j < X.runs.length := by have := HCN.out; omega
              have e : (rAt X.runs j, rN X.runs j) = X.runs[j] := by simp [rAt, rN, List.getD, hjx]
              rw [e]; exact List.getElem_mem _
            obtain ⟨s1, s2, s3, s4⟩ := HSM.out _ hmem
            simp only at s1 s2 s3 s4
            obtain ⟨an, han'⟩ := Int.eq_ofNat_of_zero_le s1
            obtain ⟨nn, hnn'⟩ := Int.eq_ofNat_of_zero_le s3
            have han : an < 100 := by omega
            have hnn : nn < 100 := by omega
            rw [han'] at r0
            rw [hnn'] at r1
            have HAN := hid (show (rAt X.runs j).toNat = an by rw [han']; rfl)
            have HNN := hid (show (rN X.runs j).toNat = nn by rw [hnn']; rfl)
            obtain ⟨d1, hd1⟩ : ∃ d1 : ByteArray, (⟨(Lib.decDigits an).toArray⟩ : ByteArray) = d1 := ⟨_, rfl⟩
            obtain ⟨d2, hd2⟩ : ∃ d2 : ByteArray, (⟨(Lib.decDigits nn).toArray⟩ : ByteArray) = d2 := ⟨_, rfl⟩
            have KI1 := hid (fun V : World => show Calls Tryd.prog 19 #[.int .i64 an] V fun e w' => e = .returned (.string d1) ∧ Below V.heap.size V w' by rw [← hd1]; exact Digits_any an han V)
            have KI2 := hid (fun V : World => show Calls Tryd.prog 19 #[.int .i64 nn] V fun e w' => e = .returned (.string d2) ∧ Below V.heap.size V w' by rw [← hd2]; exact Digits_any nn hnn V)
            have hd1s : d1.size ≤ 2 := by rw [← hd1]; have := dec_size an han; simpa [ByteArray.size] using this
            have hd2s : d2.size ≤ 2 := by rw [← hd2]; have := dec_size nn hnn; simpa [ByteArray.size] using this
            have HD1 := hid (show d1.data.toList = Lib.decDigits an by rw [← hd1])
            have HD2 := hid (show d2.data.toList = Lib.decDigits nn by rw [← hd2])
            have R0 := hid r0
            have R1 := hid r1
            clear hd1 hd2 hmem s1 s2 s3 s4 han' hnn'
            go_wp2_with fail
            have C2 := hid C2
            refine wp_region_chgE ((Tryd.f7.body.bind fun c => regOps c 12).getD #[]) (by kernel_rfl) [isV (.string T4), isV (.string (T4 ++ ByteArray.mk #[32])), isV (.slice (some ⟨qb, qo, none⟩) n cap), isV (.int .i64 k), isV (.pointer (some ⟨qb, qo + k * 3, none⟩)), isV (.pointer (some ⟨qb, qo + k * 3 + 2, none⟩)), isV (.slice (some ⟨cb, co, none⟩) X.cn X.cc), isV (.int .i64 j), isV (.pointer (some ⟨cb, co + j * 2, none⟩)), isV (.pointer (some ⟨cb, co + j * 2, none⟩)), isV (.int .i64 an), isV (.string d1), isV (.string (T4 ++ ByteArray.mk #[32] ++ d1)), isV (.string (T4 ++ ByteArray.mk #[32] ++ d1 ++ ByteArray.mk #[61])), isV (.slice (some ⟨qb, qo, none⟩) n cap), isV (.int .i64 k), isV (.pointer (some ⟨qb, qo + k * 3, none⟩)), isV (.pointer (some ⟨qb, qo + k * 3 + 2, none⟩)), isV (.slice (some ⟨cb, co, none⟩) X.cn X.cc), isV (.int .i64 j), isV (.pointer (some ⟨cb, co + j * 2, none⟩)), isV (.pointer (some ⟨cb, co + j * 2 + 1, none⟩)), isV (.int .i64 nn), isV (.string d2), isV (.string (T4 ++ ByteArray.mk #[32] ++ d1 ++ ByteArray.mk #[61] ++ d2)), isV (.string (T4 ++ ByteArray.mk #[32] ++ d1 ++ ByteArray.mk #[61] ++ d2))] [] [] wr.heap.size (Nat.le_refl _) (by kernel_rfl) (by kernel_rfl) (by kernel_rfl) (by kernel_rfl) ?hg ?hstep ?hfin
            case hg =>
              intro g hg v w h
              cases hg
            case hstep =>
              refine AllOps.cons 1 rfl ?_ ?_
              · intro T w' hbS hb0 hl hd
                show OpDoes Tryd.prog _ _ _ _
                have hb := hbS (by kernel_rfl)
                have h0 : T.getD 3 undef = .string T4 := hl 3 (by kernel_rfl)
                exact Or.inl ⟨.string T4, w', by go_simp, rfl, Below.refl _ _⟩
              refine AllOps.cons 2 rfl ?_ ?_
              · intro T w' hbS hb0 hl hd
                show OpDoes Tryd.prog _ _ _ _
                have hb := hbS (by kernel_rfl)
                have h0 : T.getD 49 undef = .string T4 := hd 0 49 (by kernel_rfl)
                have z1 : (ByteArray.mk #[32]).size = 1 := rfl
                have z2 : (ByteArray.mk #[61]).size = 1 := rfl
                exact Or.inl ⟨.string (T4 ++ ByteArray.mk #[32]), w', by (go_simp; try omega), rfl, Below.refl _ _⟩
              refine AllOps.cons 3 rfl ?_ ?_
              · intro T w' hbS hb0 hl hd
                show OpDoes Tryd.prog _ _ _ _
                have hb := hbS (by kernel_rfl)
                have h0 : T.getD 0 undef = .slice (some ⟨qb, qo, none⟩) n cap := hl 0 (by kernel_rfl)
                exact Or.inl ⟨.slice (some ⟨qb, qo, none⟩) n cap, w', by go_simp, rfl, Below.refl _ _⟩
              refine AllOps.cons 4 rfl ?_ ?_
              · intro T w' hbS hb0 hl hd
                show OpDoes Tryd.prog _ _ _ _
                have hb := hbS (by kernel_rfl)
                have h0 : T.getD 4 undef = .int .i64 k := hl 4 (by kernel_rfl)
                exact Or.inl ⟨.int .i64 k, w', by go_simp, rfl, Below.refl _ _⟩
              refine AllOps.cons 5 rfl ?_ ?_
              · intro T w' hbS hb0 hl hd
                show OpDoes Tryd.prog _ _ _ _
                have hb := hbS (by kernel_rfl)
                have h0 : T.getD 51 undef = .slice (some ⟨qb, qo, none⟩) n cap := hd 2 51 (by kernel_rfl)
                have h1 : T.getD 52 undef = .int .i64 k := hd 3 52 (by kernel_rfl)
                exact Or.inl ⟨.pointer (some ⟨qb, qo + k * 3, none⟩), w', by go_simp, rfl, Below.refl _ _⟩
              refine AllOps.cons 6 rfl ?_ ?_
              · intro T w' hbS hb0 hl hd
                show OpDoes Tryd.prog _ _ _ _
                have hb := hbS (by kernel_rfl)
                have h0 : T.getD 53 undef = .pointer (some ⟨qb, qo + k * 3, none⟩) := hd 4 53 (by kernel_rfl)
                exact Or.inl ⟨.pointer (some ⟨qb, qo + k * 3 + 2, none⟩), w', by go_simp, rfl, Below.refl _ _⟩
              refine AllOps.cons 7 rfl ?_ ?_
              · intro T w' hbS hb0 hl hd
                show OpDoes Tryd.prog _ _ _ _
                have hb := hbS (by kernel_rfl)
                have h0 : T.getD 54 undef = .pointer (some ⟨qb, qo + k * 3 + 2, none⟩) := hd 5 54 (by kernel_rfl)
                have cc := cell_later hb C2.out
                exact Or.inl ⟨.slice (some ⟨cb, co, none⟩) X.cn X.cc, w', by go_simp, rfl, Below.refl _ _⟩
              refine AllOps.cons 8 rfl ?_ ?_
              · intro T w' hbS hb0 hl hd
                show OpDoes Tryd.prog _ _ _ _
                have hb := hbS (by kernel_rfl)
                have h0 : T.getD 5 undef = .int .i64 j := hl 5 (by kernel_rfl)
                exact Or.inl ⟨.int .i64 j, w', by go_simp, rfl, Below.refl _ _⟩
              refine AllOps.cons 9 rfl ?_ ?_
              · intro T w' hbS hb0 hl hd
                show OpDoes Tryd.prog _ _ _ _
                have hb := hbS (by kernel_rfl)
                have h0 : T.getD 55 undef = .slice (some ⟨cb, co, none⟩) X.cn X.cc := hd 6 55 (by kernel_rfl)
                have h1 : T.getD 56 undef = .int .i64 j := hd 7 56 (by kernel_rfl)
                exact Or.inl ⟨.pointer (some ⟨cb, co + j * 2, none⟩), w', by go_simp, rfl, Below.refl _ _⟩
              refine AllOps.cons 10 rfl ?_ ?_
              · intro T w' hbS hb0 hl hd
                show OpDoes Tryd.prog _ _ _ _
                have hb := hbS (by kernel_rfl)
                have h0 : T.getD 57 undef = .pointer (some ⟨cb, co + j * 2, none⟩) := hd 8 57 (by kernel_rfl)
                exact Or.inl ⟨.pointer (some ⟨cb, co + j * 2, none⟩), w', by go_simp, rfl, Below.refl _ _⟩
              refine AllOps.cons 11 rfl ?_ ?_
              · intro T w' hbS hb0 hl hd
                show OpDoes Tryd.prog _ _ _ _
                have hb := hbS (by kernel_rfl)
                have h0 : T.getD 58 undef = .pointer (some ⟨cb, co + j * 2, none⟩) := hd 9 58 (by kernel_rfl)
                have cc := cell_later hb R0.out
                exact Or.inl ⟨.int .i64 an, w', by go_simp, rfl, Below.refl _ _⟩
              refine AllOps.cons 12 rfl ?_ ?_
              · intro T w' hbS hb0 hl hd
                show OpDoes Tryd.prog _ _ _ _
                have hb := hbS (by kernel_rfl)
                have h0 : T.getD 59 undef = .int .i64 an := hd 10 59 (by kernel_rfl)
                refine Or.inr ⟨19, #[.int .i64 an], by go_simp, ?_⟩
                refine (KI1.out w').mono ?_
                rintro e w'' ⟨rfl, hbb⟩
                exact ⟨_, rfl, rfl, hbb⟩
              refine AllOps.cons 13 rfl ?_ ?_
              · intro T w' hbS hb0 hl hd
                show OpDoes Tryd.prog _ _ _ _
                have hb := hbS (by kernel_rfl)
                have h0 : T.getD 50 undef = .string (T4 ++ ByteArray.mk #[32]) := hd 1 50 (by kernel_rfl)
                have h1 : T.getD 60 undef = .string d1 := hd 11 60 (by kernel_rfl)
                have z1 : (ByteArray.mk #[32]).size = 1 := rfl
                have z2 : (ByteArray.mk #[61]).size = 1 := rfl
                exact Or.inl ⟨.string (T4 ++ ByteArray.mk #[32] ++ d1), w', by (go_simp; try omega), rfl, Below.refl _ _⟩
              refine AllOps.cons 14 rfl ?_ ?_
              · intro T w' hbS hb0 hl hd
                show OpDoes Tryd.prog _ _ _ _
                have hb := hbS (by kernel_rfl)
                have h0 : T.getD 61 undef = .string (T4 ++ ByteArray.mk #[32] ++ d1) := hd 12 61 (by kernel_rfl)
                have z1 : (ByteArray.mk #[32]).size = 1 := rfl
                have z2 : (ByteArray.mk #[61]).size = 1 := rfl
                exact Or.inl ⟨.string (T4 ++ ByteArray.mk #[32] ++ d1 ++ ByteArray.mk #[61]), w', by (go_simp; try omega), rfl, Below.refl _ _⟩
              refine AllOps.cons 15 rfl ?_ ?_
              · intro T w' hbS hb0 hl hd
                show OpDoes Tryd.prog _ _ _ _
                have hb := hbS (by kernel_rfl)
                have h0 : T.getD 0 undef = .slice (some ⟨qb, qo, none⟩) n cap := hl 0 (by kernel_rfl)
                exact Or.inl ⟨.slice (some ⟨qb, qo, none⟩) n cap, w', by go_simp, rfl, Below.refl _ _⟩
              refine AllOps.cons 16 rfl ?_ ?_
              · intro T w' hbS hb0 hl hd
                show OpDoes Tryd.prog _ _ _ _
                have hb := hbS (by kernel_rfl)
                have h0 : T.getD 4 undef = .int .i64 k := hl 4 (by kernel_rfl)
                exact Or.inl ⟨.int .i64 k, w', by go_simp, rfl, Below.refl _ _⟩
              refine AllOps.cons 17 rfl ?_ ?_
              · intro T w' hbS hb0 hl hd
                show OpDoes Tryd.prog _ _ _ _
                have hb := hbS (by kernel_rfl)
                have h0 : T.getD 63 undef = .slice (some ⟨qb, qo, none⟩) n cap := hd 14 63 (by kernel_rfl)
                have h1 : T.getD 64 undef = .int .i64 k := hd 15 64 (by kernel_rfl)
                exact Or.inl ⟨.pointer (some ⟨qb, qo + k * 3, none⟩), w', by go_simp, rfl, Below.refl _ _⟩
              refine AllOps.cons 18 rfl ?_ ?_
              · intro T w' hbS hb0 hl hd
                show OpDoes Tryd.prog _ _ _ _
                have hb := hbS (by kernel_rfl)
                have h0 : T.getD 65 undef = .pointer (some ⟨qb, qo + k * 3, none⟩) := hd 16 65 (by kernel_rfl)
                exact Or.inl ⟨.pointer (some ⟨qb, qo + k * 3 + 2, none⟩), w', by go_simp, rfl, Below.refl _ _⟩
              refine AllOps.cons 19 rfl ?_ ?_
              · intro T w' hbS hb0 hl hd
                show OpDoes Tryd.prog _ _ _ _
                have hb := hbS (by kernel_rfl)
                have h0 : T.getD 66 undef = .pointer (some ⟨qb, qo + k * 3 + 2, none⟩) := hd 17 66 (by kernel_rfl)
                have cc := cell_later hb C2.out
                exact Or.inl ⟨.slice (some ⟨cb, co, none⟩) X.cn X.cc, w', by go_simp, rfl, Below.refl _ _⟩
              refine AllOps.cons 20 rfl ?_ ?_
              · intro T w' hbS hb0 hl hd
                show OpDoes Tryd.prog _ _ _ _
                have hb := hbS (by kernel_rfl)
                have h0 : T.getD 5 undef = .int .i64 j := hl 5 (by kernel_rfl)
                exact Or.inl ⟨.int .i64 j, w', by go_simp, rfl, Below.refl _ _⟩
              refine AllOps.cons 21 rfl ?_ ?_
              · intro T w' hbS hb0 hl hd
                show OpDoes Tryd.prog _ _ _ _
                have hb := hbS (by kernel_rfl)
                have h0 : T.getD 67 undef = .slice (some ⟨cb, co, none⟩) X.cn X.cc := hd 18 67 (by kernel_rfl)
                have h1 : T.getD 68 undef = .int .i64 j := hd 19 68 (by kernel_rfl)
                exact Or.inl ⟨.pointer (some ⟨cb, co + j * 2, none⟩), w', by go_simp, rfl, Below.refl _ _⟩
              refine AllOps.cons 22 rfl ?_ ?_
              · intro T w' hbS hb0 hl hd
                show OpDoes Tryd.prog _ _ _ _
                have hb := hbS (by kernel_rfl)
                have h0 : T.getD 69 undef = .pointer (some ⟨cb, co + j * 2, none⟩) := hd 20 69 (by kernel_rfl)
                exact Or.inl ⟨.pointer (some ⟨cb, co + j * 2 + 1, none⟩), w', by go_simp, rfl, Below.refl _ _⟩
              refine AllOps.cons 23 rfl ?_ ?_
              · intro T w' hbS hb0 hl hd
                show OpDoes Tryd.prog _ _ _ _
                have hb := hbS (by kernel_rfl)
                have h0 : T.getD 70 undef = .pointer (some ⟨cb, co + j * 2 + 1, none⟩) := hd 21 70 (by kernel_rfl)
                have cc := cell_later hb R1.out
                exact Or.inl ⟨.int .i64 nn, w', by go_simp, rfl, Below.refl _ _⟩
              refine AllOps.cons 24 rfl ?_ ?_
              · intro T w' hbS hb0 hl hd
                show OpDoes Tryd.prog _ _ _ _
                have hb := hbS (by kernel_rfl)
                have h0 : T.getD 71 undef = .int .i64 nn := hd 22 71 (by kernel_rfl)
                refine Or.inr ⟨19, #[.int .i64 nn], by go_simp, ?_⟩
                refine (KI2.out w').mono ?_
                rintro e w'' ⟨rfl, hbb⟩
                exact ⟨_, rfl, rfl, hbb⟩
              refine AllOps.cons 25 rfl ?_ ?_
              · intro T w' hbS hb0 hl hd
                show OpDoes Tryd.prog _ _ _ _
                have hb := hbS (by kernel_rfl)
                have h0 : T.getD 62 undef = .string (T4 ++ ByteArray.mk #[32] ++ d1 ++ ByteArray.mk #[61]) := hd 13 62 (by kernel_rfl)
                have h1 : T.getD 72 undef = .string d2 := hd 23 72 (by kernel_rfl)
                have z1 : (ByteArray.mk #[32]).size = 1 := rfl
                have z2 : (ByteArray.mk #[61]).size = 1 := rfl
                exact Or.inl ⟨.string (T4 ++ ByteArray.mk #[32] ++ d1 ++ ByteArray.mk #[61] ++ d2), w', by (go_simp; try omega), rfl, Below.refl _ _⟩
              refine AllOps.cons 26 rfl ?_ ?_
              · intro T w' hbS hb0 hl hd
                show OpDoes Tryd.prog _ _ _ _
                have hb := hbS (by kernel_rfl)
                have h0 : T.getD 73 undef = .string (T4 ++ ByteArray.mk #[32] ++ d1 ++ ByteArray.mk #[61] ++ d2) := hd 24 73 (by kernel_rfl)
                exact Or.inl ⟨.string (T4 ++ ByteArray.mk #[32] ++ d1 ++ ByteArray.mk #[61] ++ d2), w', by go_simp, rfl, Below.refl _ _⟩
              exact trivial
            case hfin =>
              intro T' w' hb hs hl hd _
              have h3 : T'.getD 3 undef = .string (T4 ++ ByteArray.mk #[32] ++ d1 ++ ByteArray.mk #[61] ++ d2) := hd 25 3 (by kernel_rfl) (by kernel_rfl)
              rw [lit_then [true, true, true, false, true, true, true, true, true, true, true, true, true, true, true, true, true, true, true, true, true, true, true, true, true, true, true, true, true, true, true, true, true, true, true, true, true, true, true, true, true, true, true, true, true, true, true, true, true, false, false, false, false, false, false, false, false, false, false, false, false, false, false, false, false, false, false, false, false, false, false, false, false, false, true, true, true] (by kernel_rfl) hs hl]
              obtain ⟨us, hus⟩ : ∃ us : Nat → Value, (fun d => T'.getD d undef) = us := ⟨_, rfl⟩
              rw [hus]
              have f3 : us 3 = .string (T4 ++ ByteArray.mk #[32] ++ d1 ++ ByteArray.mk #[61] ++ d2) := by rw [← hus]; exact h3
              have HBn := hid (below_from HBI.out hb)
              clear h3 hl hd hs hus hb
              simp only [fillL, f3]
              go_wp2
              go_roundg (X.cn - (j + 1))
              case measure => omega
              case rel =>
                refine ⟨j + 1, _, rfl, by go_num, by omega, by omega, ?_, HBn.out⟩
                show _ = _
                have e1 : runsTo X.runs (j + 1) = runsTo X.runs j ++ (32 :: (Lib.decDigits an ++ 61 :: Lib.decDigits nn)) := by
                  rw [runsTo, showR, HAN.out, HNN.out]
                rw [e1]
                simp only [cat_list, HD1.out, HD2.out, hT4.out]
                simp
          · obtain rfl : j = X.cn := by omega
            go_wp2
            go_roundg (n - (k + 1))
            case measure => omega
            case rel =>
              refine ⟨k + 1, _, rfl, by go_num, by omega, by omega, ?_, HBI.out⟩
              show _ = _
              rw [cat_list, hT4.out, hT2.out, showTo, showQ, tqs_at, HX.out, HCN.out]
              simp [tqOf]
    · obtain rfl : k = n := by omega
      go_wp2
      go_ret
      refine ⟨⟨T, rfl, ?_⟩, HBR.out⟩
      rw [hTd.out, showT, tqs_len, ← HN.out]
end Go.Proofs.YtckpdfkobdgjeaaDoor
