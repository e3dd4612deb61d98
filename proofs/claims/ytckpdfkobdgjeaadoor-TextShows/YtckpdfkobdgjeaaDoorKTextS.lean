/- Package text: Show. -/
import Derived.Test.YtckpdfkobdgjeaaDoorKTextN
import Derived.Test.YtckpdfkobdgjeaaDoorKAnyT
import Derived.Lib.OthersKept
namespace Go.Proofs.YtckpdfkobdgjeaaDoor
open Go.RowKit
def Bld (S b : Nat) (W : World) (bs : Bs) : Prop := Lib.IsBuilderF 38 5 S b (Lib.byteCells bs) W
theorem Bld.new (w : World) : Bld w.heap.size w.heap.size (w.alloc (.cells #[.pointer none, .slice none 0 0] 38)) [] :=
  Or.inl (Lib.BuilderAtF.of ⟨Nat.le_refl _, .slice none 0 0, heap_alloc_new w _, World.ownsRow_nil _ _ _ _, by simp [Value.ownBlock]⟩)
theorem Bld.alloc {S b : Nat} {W : World} {bs : Bs} (h : Bld S b W bs) (o : Obj) : Bld S b (W.alloc o) bs := Lib.IsBuilderF.alloc h o
theorem Bld.drewN {S b : Nat} {W : World} {bs : Bs} (h : Bld S b W bs) (d : Nat) : Bld S b (W.drewN d) bs := h
theorem Bld.lt {S b : Nat} {W : World} {bs : Bs} (h : Bld S b W bs) : b < W.heap.size := by
  rcases h with h | h
  · exact h.lt
  · exact h.lt
theorem cat_list (a b : ByteArray) : (a ++ b).data.toList = a.data.toList ++ b.data.toList := by simp [ByteArray.data_append]
theorem cat_size (a b : ByteArray) : (a ++ b).size = a.size + b.size := ByteArray.size_append
theorem dec_size (n : Nat) (h : n < 100) : (Lib.decDigits n).length ≤ 2 := (dec_parts n h).2.2.1
theorem Bld.later {S b : Nat} {W W' : World} {bs : Bs} (h : Bld S b W bs) (hb : Below W.heap.size W W') : Bld S b W' bs := by
  have key : ∀ p, Lib.BuilderAtF 38 5 S b p (Lib.byteCells bs) W → Lib.BuilderAtF 38 5 S b p (Lib.byteCells bs) W' := by
    rintro p ⟨h1, v, h2, h3, h4⟩
    refine ⟨h1, v, (hb.block b (Array.getElem?_eq_some_iff.1 h2).1).trans h2, ⟨h3.1, ?_⟩, h4⟩
    rcases h3.2 with hn | ⟨g, cap, cur, fz, rfl, hB, hg, rest⟩
    · exact .inl hn
    · exact .inr ⟨g, cap, cur, fz, rfl, hB, (hb.block g (Array.getElem?_eq_some_iff.1 hg).1).trans hg, rest⟩
  exact h.imp (key _) (key _)
theorem Write_any (S b : Nat) (W : World) (bs : Bs) (s : ByteArray) (h : Bld S b W bs) (hl : bs.length + s.size ≤ 99999) (hS : S ≤ W.heap.size) :
    Calls Tryd.prog 13 #[.pointer (some ⟨b, 0, none⟩), .string s] W fun e w' => e = .returned (.tuple #[.int .i64 s.size, .nilIface]) ∧ Bld S b w' (bs ++ s.data.toList) ∧ Below S W w' ∧ Lib.OthersKept 5 (some b) W w' := by
  refine (Tryd.Builder_WriteString_k S b _ s W h (by rw [Lib.byteCells_length]; omega) hS).mono ?_
  rintro e w' ⟨rfl, h1, h2, h3⟩
  refine ⟨rfl, Or.inr ?_, h2, h3⟩
  rw [Lib.byteCells_append, ← Lib.strCells_eq]
  exact h1
theorem QBox.kept {w w' : World} {G b : Nat} {n p v : Value} (h : QBox w G n p v) (hk : Lib.OthersKept 5 (some b) w w') (hG : G ≠ b) : QBox w' G n p v :=
  hk G _ h (fun e => hG (by injection e)) (fun c fz e => by injection e with e1 e2 e3; exact absurd e2 (by decide))
def ShowAns (w w' : World) (e : Ending) (l : QL) : Prop := (∃ s : ByteArray, e = .returned (.tuple #[.string s, .int .i64 (chkT l)]) ∧ s.data.toList = (if chkT l = 0 then showT (tqs l) else [])) ∧ Below w.heap.size w w'
set_option maxRecDepth 100000 in
set_option maxHeartbeats 2000000 in
theorem Show_any (w : World) (a : Option Addr) (n cap : Nat) (l : QL) (hQ : QsIn w a n cap l) :
    Calls Tryd.prog 5 #[.slice a n cap] w fun e w' => ShowAns w w' e l := by
  by_cases hc : chkT l = 0
  · have HC := hid hc
    have HQ := hid hQ
    have HT := hid (tok_of hc)
    have hn := hQ.len
    have hn5 := (right_of hc).five
    have hle := hQ.le
    have hcb := hQ.capb
    have KT := hid (CheckT_any w a n cap l hQ)
    obtain ⟨qb, qo, rfl, hcells⟩ := hQ.cells (by have := (right_of hc).pos; omega)
    have HCL := hid hcells
    have hn9 : n ≤ 5 := by omega
    have HN := hid hn
    clear hQ hcells hn hc
    go_enter Tryd.func5, Tryd.ntmps5
    go_wp2_with fail
    refine KT.out.mono ?_
    rintro e w1 ⟨rfl, hb1⟩
    rw [HC.out]
    have H1 := hid hb1
    have B1 := hid (Bld.new w1)
    obtain ⟨S, hS⟩ : ∃ S, w1.heap.size = S := ⟨_, rfl⟩
    have HS := hid hS
    clear hb1
    go_wp2_with fail
    go_loopg [7, 9, 17] n (fun gk (u7 u9 p : Value) wr => ∃ k : Nat, p = .int .i64 k ∧ k ≤ n ∧ gk = n - k ∧ Bld S S wr (showTo (tqs l) k) ∧ Below S w1 wr)
    case atStart => 
      refine ⟨0, rfl, by omega, by omega, ?_, ?_⟩
      · have := B1.out
        rw [HS.out] at this
        exact this
      · rw [← HS.out]; exact (Below.refl _ _).alloc (Nat.le_refl _) _
    case round =>
      obtain ⟨k, rfl, hk, rfl, hB, hbr⟩ := hrel
      have HB := hid hB
      have HBR := hid hbr
      have hSw : S < wr.heap.size := hB.lt
      have hbw : Below w.heap.size w wr := H1.out.trans (hbr.mono (by have := H1.out.size; have := HS.out; omega))
      have HBW := hid hbw
      clear hB hbr hbw
      by_cases hlt : k < n
      · have hlt' : (k : Int) < n := by omega
        obtain ⟨C0, C1, C2⟩ := HCL.out k hlt
        have C0 := cell_later HBW.out C0
        have C1 := cell_later HBW.out C1
        have C2 := cell_later HBW.out C2
        have hcaps := (HQ.out.caps k hlt).later HBW.out
        have hkl : k < (tqs l).length := by rw [tqs_len, ← HN.out]; exact hlt
        have hpar := HT.out.par k hkl
        have hnm := (HT.out.name k hkl).2.1
        have hsl := showTo_len HT.out k (by omega)
        rw [tqs_at] at hpar hnm
        obtain ⟨X, hX⟩ : ∃ X, qu l k = X := ⟨_, rfl⟩
        rw [hX] at C0 C1 C2 hcaps hpar hnm
        have hXs : X.name.size ≤ 8 := by have : X.name.data.toList.length = X.name.size := (Lib.size_eq X.name).symm; simp only [tqOf] at hnm; omega
        have hne : 0 < X.cn := by
          have h1 := (HT.out.runs k hkl).1
          rw [tqs_at, hX] at h1
          rw [hcaps.len]
          cases hr : X.runs with
          | nil => exact absurd hr h1
          | cons _ _ => simp
        have hsm := (HT.out.runs k hkl).2
        rw [tqs_at, hX] at hsm
        have hcn48 := HT.out.few k hkl
        rw [tqs_at, hX] at hcn48
        have hcn : X.cn = X.runs.length := hcaps.len
        have hcn48' : X.cn ≤ 48 := by rw [hcn]; exact hcn48
        have hhl := headQ_len HT.out hkl
        rw [tqs_at, hX] at hhl
        have hrn := fun j (hj : j ≤ X.runs.length) => runsTo_len X.runs hsm j hj
        have HRN := hid hrn
        have HHL := hid hhl
        have hXl := hcaps.le
        have hXb := hcaps.capb
        obtain ⟨cb, co, hca, hrc⟩ := hcaps.cells hne
        rw [hca] at C2
        have HSM := hid hsm
        have HCN := hid hcn
        have HCA := hid hca
        have hrc0 := (HQ.out.caps k hlt)
        rw [hX, hca] at hrc0
        have HRC := hid hrc0
        obtain ⟨G, hG⟩ : ∃ G, wr.heap.size = G := ⟨_, rfl⟩
        have HX := hid hX
        clear hne hsm hcn48 hcn hca hrc hrc0 hhl hrn
        have HCP := hid hcaps
        have HPR := hid hpar
        have HSL := hid hsl
        have HG := hid hG
        clear hX hcaps hpar hnm hsl hkl
        go_wp2_with fail
        refine (Write_any S S _ (showTo (tqs l) k) X.name (HB.out.alloc _) (by have := HSL.out; omega) (by simp; omega)).mono ?_
        rintro e w2 ⟨rfl, hB2, hb2, hk2⟩
        have hq2 : QBox w2 G (.string X.name) (.int .i64 X.parent) (.slice (some ⟨cb, co, none⟩) X.cn X.cc) := by
          rw [← HG.out]
          exact (QBox.new wr _ _ _).kept hk2 (by omega)
        have HB2 := hid hB2
        have HBR2 := hid (HBR.out.trans (((Below.refl S wr).alloc (by omega) (.cells #[.string X.name, .int .i64 X.parent, .slice (some ⟨cb, co, none⟩) X.cn X.cc] 41)).trans hb2))
        obtain ⟨q0, q1, q2, qf⟩ := hq2.cells
        have HQ2 := hid hq2
        obtain ⟨P, hP⟩ : ∃ P, X.parent = P := ⟨_, rfl⟩
        rw [hP] at q1
        clear hB2 hb2 hk2 hq2 C0 C1 C2
        go_upto_if 26 with fail
        go_cut [26] (fun _ wx => ∃ Wn, Wn = wx ∧ Bld S S wx (showTo (tqs l) k ++ headQ (tqs l) (tqOf X)) ∧ QBox wx G (.string X.name) (.int .i64 X.parent) (.slice (some ⟨cb, co, none⟩) X.cn X.cc) ∧ Below S w1 wx)
        case first =>
          by_cases hp : 0 ≤ P
          · obtain ⟨pn, rfl⟩ := Int.eq_ofNat_of_zero_le hp
            have hpn : pn < k := by have := HPR.out; simp only [tqOf] at this; omega
            have hpn' : (pn : Int) < n := by omega
            have hbw2 : Below w.heap.size w w2 := H1.out.trans (HBR2.out.mono (by have := H1.out.size; have := HS.out; omega))
            have D0 := cell_later hbw2 (HCL.out pn (by omega)).1
            have hpl : pn < (tqs l).length := by rw [tqs_len, ← HN.out]; omega
            have hYn := (HT.out.name pn hpl).2.1
            rw [tqs_at] at hYn
            obtain ⟨Y, hY⟩ : ∃ Y, qu l pn = Y := ⟨_, rfl⟩
            rw [hY] at D0 hYn
            have hYs : Y.name.size ≤ 8 := by have : Y.name.data.toList.length = Y.name.size := (Lib.size_eq Y.name).symm; simp only [tqOf] at hYn; omega
            have HY := hid hY
            clear hbw2 hYn hY
            go_wp2_with fail
            refine (Write_any S S w2 _ _ HB2.out (by have := HSL.out; have : X.name.data.toList.length = X.name.size := (Lib.size_eq X.name).symm; rw [cat_size, List.length_append, show (⟨#[32, 60, 32]⟩ : ByteArray).size = 3 from rfl]; omega) (by have := HBR2.out.size; have := HS.out; omega)).mono ?_
            rintro e w3 ⟨rfl, hB3, hb3, hk3⟩
            have HB3 := hid hB3
            have HB3b := hid hb3
            have HK3 := hid hk3
            clear hB3 hb3 hk3
            go_wp2
            go_meet
            refine ⟨_, rfl, ?_, HQ2.out.kept HK3.out (by omega), HBR2.out.trans HB3b.out⟩
            have : headQ (tqs l) (tqOf X) = X.name.data.toList ++ ([32, 60, 32] ++ Y.name.data.toList) := by
              unfold headQ
              rw [if_pos (by simp only [tqOf]; omega)]
              have : (tqOf X).2.1.toNat = pn := by simp only [tqOf]; omega
              rw [this, tqs_at, HY.out]
              rfl
            rw [this, ← List.append_assoc]
            have := HB3.out
            rw [cat_list] at this
            exact this
          · have hp' : ¬ (0 ≤ P) := hp
            go_wp2
            go_meet
            refine ⟨_, rfl, ?_, HQ2.out, HBR2.out⟩
            have : headQ (tqs l) (tqOf X) = X.name.data.toList := by
              unfold headQ
              rw [if_neg (by simp only [tqOf]; omega)]
              simp [tqOf]
            rw [this]
            exact HB2.out
        case rest =>
          obtain ⟨W3, rfl, hB3, hq3, hb3⟩ := hcut
          obtain ⟨T0, hT0⟩ : ∃ T0, showTo (tqs l) k ++ headQ (tqs l) (tqOf X) = T0 := ⟨_, rfl⟩
          rw [hT0] at hB3
          have hT0l : T0.length ≤ 1564 := by rw [← hT0, List.length_append]; have := HSL.out; have := HHL.out; omega
          have HT0 := hid hT0
          have HB3 := hid hB3
          have HBR3 := hid hb3
          have HQ3 := hid hq3
          have hSW3 : S ≤ W3.heap.size := by have := hB3.lt; omega
          clear hT0 hB3 hb3 hq3 q0 q1 q2 qf
          go_wp2_with fail
          refine (Write_any S S W3 T0 ⟨#[58]⟩ HB3.out (by simp [ByteArray.size]; omega) hSW3).mono ?_
          rintro e w4 ⟨rfl, hB4, hb4, hk4⟩
          have hq4 := HQ3.out.kept hk4 (by omega)
          obtain ⟨q0, q1, q2, qf⟩ := hq4.cells
          have HB4 := hid hB4
          have HBR4 := hid (HBR3.out.trans hb4)
          clear hB4 hb4 hk4 hq4
          go_wp2_with fail
          go_loopg [9, 39] X.cn (fun gj (u9 p : Value) wi => ∃ j : Nat, p = .int .i64 j ∧ j ≤ X.cn ∧ gj = X.cn - j ∧ Bld S S wi (T0 ++ [58] ++ runsTo X.runs j) ∧ Below S w1 wi)
          case atStart => exact ⟨0, rfl, by omega, by omega, by rw [runsTo, List.append_nil]; exact HB4.out, HBR4.out⟩
          case round =>
            obtain ⟨j, rfl, hj, rfl, hBi, hbi⟩ := hrel
            have hSi : S < wr.heap.size := hBi.lt
            have hbwi : Below w.heap.size w wr := H1.out.trans (hbi.mono (by have := H1.out.size; have := HS.out; omega))
            by_cases hjl : j < X.cn
            · have hjl' : (j : Int) < X.cn := by omega
              obtain ⟨_, _, he, hrc⟩ := (HRC.out.later hbwi).cells (by omega)
              cases he
              obtain ⟨r0, r1⟩ := hrc j hjl
              have hmem : (rAt X.runs j, rN X.runs j) ∈ X.runs := by
                have hjx : j < X.runs.length := by have := HCN.out; omega
                have e : (rAt X.runs j, rN X.runs j) = X.runs[j] := by simp [rAt, rN, List.getD, hjx]
                rw [e]; exact List.getElem_mem _
              obtain ⟨s1, s2, s3, s4⟩ := HSM.out _ hmem
              simp only at s1 s2 s3 s4
              obtain ⟨an, han'⟩ := Int.eq_ofNat_of_zero_le s1
              obtain ⟨nn, hnn'⟩ := Int.eq_ofNat_of_zero_le s3
              have han : an < 100 := by omega
              have hnn : nn < 100 := by omega
              rw [han'] at r0
              rw [hnn'] at r1
              have HAN := hid (show (rAt X.runs j).toNat = an by rw [han']; rfl)
              have HNN := hid (show (rN X.runs j).toNat = nn by rw [hnn']; rfl)
              have HLN := hid (show (T0 ++ [58] ++ runsTo X.runs j).length ≤ 1900 by have := HRN.out j (by have := HCN.out; omega); simp; omega)
              obtain ⟨Wi, hWi⟩ : ∃ Wi, wr.alloc (.cells #[.int .i64 an, .int .i64 nn] 47) = Wi := ⟨_, rfl⟩
              obtain ⟨G9, hG9⟩ : ∃ G9, wr.heap.size = G9 := ⟨_, rfl⟩
              have hrow9 : Wi.heap[G9]? = some (.cells #[.int .i64 an, .int .i64 nn] 47 (0, 0)) := by rw [← hWi, ← hG9]; exact heap_alloc_new wr _
              have HBi := hid (show Bld S S Wi (T0 ++ [58] ++ runsTo X.runs j) by rw [← hWi]; exact hBi.alloc _)
              have HBRi := hid (show Below S w1 Wi by rw [← hWi]; exact hbi.alloc (by omega) _)
              have hSWi : S < Wi.heap.size := HBi.out.lt
              have R0 := hid (cells2 hrow9).1
              have R1 := hid (cells2 hrow9).2.1
              have HHid := hid (And.intro hWi hG9)
              obtain ⟨d1, hd1⟩ : ∃ d1 : ByteArray, (⟨(Lib.decDigits an).toArray⟩ : ByteArray) = d1 := ⟨_, rfl⟩
              obtain ⟨d2, hd2⟩ : ∃ d2 : ByteArray, (⟨(Lib.decDigits nn).toArray⟩ : ByteArray) = d2 := ⟨_, rfl⟩
              have KI1 := hid (fun V : World => show Calls Tryd.prog 14 #[.int .i64 an] V fun e w' => e = .returned (.string d1) ∧ w' = V by rw [← hd1]; exact Tryd.strconv_Itoa_small an han V)
              have KI2 := hid (fun V : World => show Calls Tryd.prog 14 #[.int .i64 nn] V fun e w' => e = .returned (.string d2) ∧ w' = V by rw [← hd2]; exact Tryd.strconv_Itoa_small nn hnn V)
              have hd1s : d1.size ≤ 2 := by rw [← hd1]; have := dec_size an han; simpa [ByteArray.size] using this
              have hd2s : d2.size ≤ 2 := by rw [← hd2]; have := dec_size nn hnn; simpa [ByteArray.size] using this
              have HD1 := hid (show d1.data.toList = Lib.decDigits an by rw [← hd1])
              have HD2 := hid (show d2.data.toList = Lib.decDigits nn by rw [← hd2])
              clear hd1 hd2
              clear hBi hbi hbwi hrc hmem s1 s2 s3 s4 han' hnn' hrow9
              go_wp2_with fail
              refine wp_region_storeC ((Tryd.f5.body.bind fun c => regOps c 15).getD #[]) (by kernel_rfl) [isV (.pointer (some ⟨G9, 0, none⟩)), isV (.int .i64 an), isV (.string d1), isV (.string (ByteArray.mk #[32] ++ d1)), isV (.string (ByteArray.mk #[32] ++ d1 ++ ByteArray.mk #[61])), isV (.pointer (some ⟨G9, 1, none⟩)), isV (.int .i64 nn), isV (.string d2), isV (.string (ByteArray.mk #[32] ++ d1 ++ ByteArray.mk #[61] ++ d2)), isV undef] 9 (by kernel_rfl) (by kernel_rfl) (by kernel_rfl) ?hstep
              case hstep =>
                refine AllOps.cons 1 rfl ?_ ?_
                · intro T w' hb hs hl hd
                  rw [if_neg (by decide)]
                  have h0 : T.getD 9 undef = .pointer (some ⟨G9, 0, none⟩) := hl 9 (by kernel_rfl)
                  exact Or.inl ⟨.pointer (some ⟨G9, 0, none⟩), w', by go_simp, rfl, Below.refl _ _⟩
                refine AllOps.cons 2 rfl ?_ ?_
                · intro T w' hb hs hl hd
                  rw [if_neg (by decide)]
                  have h0 : T.getD 43 undef = .pointer (some ⟨G9, 0, none⟩) := hd 0 43 (by kernel_rfl)
                  have cc := cell_later hb R0.out
                  exact Or.inl ⟨.int .i64 an, w', by go_simp, rfl, Below.refl _ _⟩
                refine AllOps.cons 3 rfl ?_ ?_
                · intro T w' hb hs hl hd
                  rw [if_neg (by decide)]
                  have h0 : T.getD 44 undef = .int .i64 an := hd 1 44 (by kernel_rfl)
                  refine Or.inr ⟨14, #[.int .i64 an], by go_simp, ?_⟩
                  refine (KI1.out w').mono ?_
                  rintro e w'' ⟨rfl, rfl⟩
                  exact ⟨_, rfl, rfl, Below.refl _ _⟩
                refine AllOps.cons 4 rfl ?_ ?_
                · intro T w' hb hs hl hd
                  rw [if_neg (by decide)]
                  have h0 : T.getD 45 undef = .string d1 := hd 2 45 (by kernel_rfl)
                  have z1 : (ByteArray.mk #[32]).size = 1 := rfl
                  have z2 : (ByteArray.mk #[61]).size = 1 := rfl
                  exact Or.inl ⟨.string (ByteArray.mk #[32] ++ d1), w', by (go_simp; try omega), rfl, Below.refl _ _⟩
                refine AllOps.cons 5 rfl ?_ ?_
                · intro T w' hb hs hl hd
                  rw [if_neg (by decide)]
                  have h0 : T.getD 46 undef = .string (ByteArray.mk #[32] ++ d1) := hd 3 46 (by kernel_rfl)
                  have z1 : (ByteArray.mk #[32]).size = 1 := rfl
                  have z2 : (ByteArray.mk #[61]).size = 1 := rfl
                  exact Or.inl ⟨.string (ByteArray.mk #[32] ++ d1 ++ ByteArray.mk #[61]), w', by (go_simp; try omega), rfl, Below.refl _ _⟩
                refine AllOps.cons 6 rfl ?_ ?_
                · intro T w' hb hs hl hd
                  rw [if_neg (by decide)]
                  have h0 : T.getD 9 undef = .pointer (some ⟨G9, 0, none⟩) := hl 9 (by kernel_rfl)
                  exact Or.inl ⟨.pointer (some ⟨G9, 1, none⟩), w', by go_simp, rfl, Below.refl _ _⟩
                refine AllOps.cons 7 rfl ?_ ?_
                · intro T w' hb hs hl hd
                  rw [if_neg (by decide)]
                  have h0 : T.getD 48 undef = .pointer (some ⟨G9, 1, none⟩) := hd 5 48 (by kernel_rfl)
                  have cc := cell_later hb R1.out
                  exact Or.inl ⟨.int .i64 nn, w', by go_simp, rfl, Below.refl _ _⟩
                refine AllOps.cons 8 rfl ?_ ?_
                · intro T w' hb hs hl hd
                  rw [if_neg (by decide)]
                  have h0 : T.getD 49 undef = .int .i64 nn := hd 6 49 (by kernel_rfl)
                  refine Or.inr ⟨14, #[.int .i64 nn], by go_simp, ?_⟩
                  refine (KI2.out w').mono ?_
                  rintro e w'' ⟨rfl, rfl⟩
                  exact ⟨_, rfl, rfl, Below.refl _ _⟩
                refine AllOps.cons 9 rfl ?_ ?_
                · intro T w' hb hs hl hd
                  rw [if_neg (by decide)]
                  have h0 : T.getD 47 undef = .string (ByteArray.mk #[32] ++ d1 ++ ByteArray.mk #[61]) := hd 4 47 (by kernel_rfl)
                  have h1 : T.getD 50 undef = .string d2 := hd 7 50 (by kernel_rfl)
                  have z1 : (ByteArray.mk #[32]).size = 1 := rfl
                  have z2 : (ByteArray.mk #[61]).size = 1 := rfl
                  exact Or.inl ⟨.string (ByteArray.mk #[32] ++ d1 ++ ByteArray.mk #[61] ++ d2), w', by (go_simp; try omega), rfl, Below.refl _ _⟩
                refine AllOps.cons 10 rfl ?_ ?_
                · intro T w' hb hs hl hd
                  rw [if_pos rfl]
                  replace hs := hs.resolve_right (fun h => h rfl)
                  have h0 : T.getD 51 undef = .string (ByteArray.mk #[32] ++ d1 ++ ByteArray.mk #[61] ++ d2) := hd 8 51 (by kernel_rfl)
                  have h5 : T.getD 5 undef = .pointer (some ⟨S, 0, none⟩) := hl 5 (by kernel_rfl)
                  refine ⟨13, #[.pointer (some ⟨S, 0, none⟩), .string (ByteArray.mk #[32] ++ d1 ++ ByteArray.mk #[61] ++ d2)], by go_simp, ?_⟩
                  refine (Write_any S S w' _ _ (HBi.out.later hb) (by have := HLN.out; have z1 : (ByteArray.mk #[32]).size = 1 := rfl; have z2 : (ByteArray.mk #[61]).size = 1 := rfl; simp only [cat_size, z1, z2]; omega) (by have := hb.size; omega)).mono ?_
                  rintro e w'' ⟨rfl, hB', hb', hk'⟩
                  refine ⟨_, rfl, fun T' hs' hl' => ?_⟩
                  have HBn := hid hB'
                  have HBe := hid (HBRi.out.trans ((hb.mono (by omega)).trans hb'))
                  rw [lit_then [true, true, true, true, true, true, true, true, true, true, true, true, true, true, true, true, true, true, true, true, true, true, true, true, true, true, true, true, true, true, true, true, true, true, true, true, true, true, true, true, true, true, true, false, false, false, false, false, false, false, false, false, false, true, true, true, true] (by kernel_rfl) hs' hl']
                  obtain ⟨us, hus⟩ : ∃ us : Nat → Value, (fun d => T'.getD d undef) = us := ⟨_, rfl⟩
                  rw [hus]
                  clear hus hl hs hd hl' hs' hb hb' hB' hk' h0 h5
                  simp only [fillL]
                  apply_assumption
                  go_wp2
                  go_roundg (X.cn - (j + 1))
                  case measure => omega
                  case rel =>
                    refine ⟨j + 1, by go_num, by omega, by omega, ?_, HBe.out⟩
                    have e1 : runsTo X.runs (j + 1) = runsTo X.runs j ++ (32 :: (Lib.decDigits an ++ 61 :: Lib.decDigits nn)) := by
                      rw [runsTo, showR, HAN.out, HNN.out]
                    rw [e1, ← List.append_assoc]
                    have := HBn.out
                    simp only [cat_list, HD1.out, HD2.out] at this
                    simpa using this
                exact trivial
            · obtain rfl : j = X.cn := by omega
              have HBi := hid hBi
              have HBRi := hid hbi
              have hln : (T0 ++ [58] ++ runsTo X.runs X.cn).length ≤ 1900 := by have := HRN.out X.cn (by have := HCN.out; omega); simp; omega
              clear hBi hbi hbwi
              go_wp2_with fail
              refine (Write_any S S wr _ ⟨#[10]⟩ HBi.out (by simp only [ByteArray.size]; simp at hln ⊢; omega) (by omega)).mono ?_
              rintro e w5 ⟨rfl, hB5, hb5, hk5⟩
              have HB5 := hid hB5
              have HBR5 := hid (HBRi.out.trans hb5)
              clear hB5 hb5 hk5
              go_wp2
              go_roundg (n - (k + 1))
              case measure => omega
              case rel =>
                refine ⟨k + 1, by go_num, by omega, by omega, ?_, HBR5.out⟩
                have e1 : showTo (tqs l) (k + 1) = T0 ++ [58] ++ runsTo X.runs X.cn ++ [10] := by
                  rw [showTo, showQ, tqs_at, HX.out, ← HT0.out, HCN.out]
                  simp [tqOf]
                rw [e1]
                exact HB5.out
      · obtain rfl : k = n := by omega
        go_wp2_with fail
        refine (Tryd.Builder_String_any_k S S _ wr HB.out (by omega)).mono ?_
        rintro e w6 ⟨rfl, _, hb6, _⟩
        go_wp2
        go_ret2
        refine ⟨⟨_, by rw [HC.out]; rfl, ?_⟩, HBW.out.trans (hb6.mono (by have := H1.out.size; have := HS.out; omega))⟩
        rw [if_pos HC.out, showT, tqs_len, ← HN.out]
  · have HQ := hid hQ
    have KT := hid (CheckT_any w a n cap l hQ)
    clear hQ
    have HC := hid hc
    obtain ⟨E, hE⟩ : ∃ E, chkT l = E := ⟨_, rfl⟩
    rw [hE] at hc KT
    have HE := hid hE
    clear hE
    have hc' : (E == 0) = false := by simpa using hc
    go_enter Tryd.func5, Tryd.ntmps5
    go_wp2_with fail
    refine KT.out.mono ?_
    rintro e w1 ⟨rfl, hb1⟩
    go_wp2
    go_ret2
    exact ⟨⟨⟨#[]⟩, by rw [HE.out]; rfl, by rw [if_neg HC.out]⟩, hb1⟩
end Go.Proofs.YtckpdfkobdgjeaaDoor
