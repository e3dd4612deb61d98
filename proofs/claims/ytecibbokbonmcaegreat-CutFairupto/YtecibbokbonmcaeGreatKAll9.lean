/- Several texts in one: CutO, CutT, CutS, CutV, CutW, CutX, CutY, CutZ. -/
import Derived.Test.YtecibbokbonmcaeGreatKAll8
/- cut.settle: each book that was taken away is put where there is a place for it, or is dropped. -/
namespace Go.Proofs.YtecibbokbonmcaeGreat
open Go.RowKit

theorem int_not_row {W : World} {S : Nat} {cs : Array Value} {t : TypeId} {fr : Nat × Nat} (h : W.heap[S]? = some (.cells cs t fr)) {B : Nat} {v : Value} {l : List Int} (hr : OwnInts W B v l) (ht : t ≠ 3) : some S ≠ v.ownBlock := by
  rcases hr.2 with ⟨rfl, _⟩ | ⟨g, cap, cur, rfl, _, hg, _⟩
  · simp [Value.ownBlock]
  · intro e
    have e2 : S = g := by simpa [Value.ownBlock] using e
    subst e2
    rw [h] at hg
    cases hg
    exact ht rfl
theorem row_not_int {W : World} {B B' z m : Nat} {v u : Value} {xs : List Value} {l : List Int} (h : W.ownsRow B 43 z v m xs) (hr : OwnInts W B' u l) : v.ownBlock = none ∨ v.ownBlock ≠ u.ownBlock := by
  rcases h.2 with ⟨rfl, _⟩ | ⟨g, cap, cur, rfl, _, hg, _⟩
  · exact Or.inl rfl
  · exact Or.inr (int_not_row hg hr (by decide))
theorem OwnInts.keep {W W' : World} {B : Nat} {v : Value} {l : List Int} {row : Option Nat} (h : OwnInts W B v l) (hg : W.grownBy W' row) (hne : v.ownBlock = none ∨ v.ownBlock ≠ row) : OwnInts W' B v l := World.ownsRow.kept h hg hne
theorem OwnInts.under {W W' : World} {B : Nat} {v : Value} {l : List Int} (h : OwnInts W B v l) (hb : Below W.heap.size W W') : OwnInts W' B v l := ownsRow_below h hb
/-- a book that is left: one that was there, or one that was moved -/
def InnerS (b1 aw : BL) (wr : World) (x : Bk) : Prop := x ∈ b1 ∨ (∃ X ∈ aw, x.rq = X.rq) ∧ RunsP wr x.ba x.bn x.bc x.bs
theorem InnerS.stay {b1 aw : BL} {wr wr' : World} {x : Bk} (h : InnerS b1 aw wr x) (hs : Stay wr wr') : InnerS b1 aw wr' x := h.imp id (fun h => ⟨h.1, h.2.stay hs⟩)
theorem InnerS.plain {b1 aw : BL} {w wr : World} {gb : Nat} {x : Bk} (h : InnerS b1 aw wr x) (hin : ∀ x ∈ b1, Inner (Off gb w) x) (hia : ∀ x ∈ aw, Inner (Off gb w) x) (hg : w.grownBy wr (some gb)) : Inner wr x := by
  rcases h with h | ⟨⟨X, hX, e⟩, h⟩
  · exact ((hin x h).later (off_below hg)).on
  · exact ⟨by rw [e]; exact ((hia X hX).later (off_below hg)).on.1, h.1⟩
/-- between two rounds -/
structure SInv (w wr : World) (c n : Int) (ta : Option Addr) (tn tc : Nat) (l : QL) (B S gb : Nat) (b1 aw : BL) (aa : Option Addr) (ka j : Nat) (b : BL) (mv dr : List Int) (gx kx : Nat) (vm vd : Value) : Prop where
  stl : Stl c l b1 aw j b mv dr
  box : StBox wr S (.int .i64 c) (.int .i64 n) (.slice ta tn tc) (.slice (some ⟨gx, 0, none⟩) b.length kx)
  res : StBox wr (S + 1) (.int .i64 0) (.int .i64 0) (.slice none 0 0) (.slice none 0 0)
  row : wr.ownsRow B 43 7 (.slice (some ⟨gx, 0, none⟩) b.length kx) b.length (bkCells b)
  inner : ∀ x ∈ b, InnerS b1 aw wr x
  away : wr.ownsRow B 43 7 (.slice aa aw.length ka) aw.length (bkCells aw)
  mrow : OwnInts wr S vm mv
  drow : OwnInts wr S vd dr
  mdne : ∀ g, vm.ownBlock = some g → vd.ownBlock ≠ some g
  stay : Stay w wr
  grown : w.grownBy wr (some gb)
  gxn : gx = gb ∨ w.heap.size ≤ gx
def SRel (w : World) (c n : Int) (ta : Option Addr) (tn tc : Nat) (l : QL) (B S gb : Nat) (b1 aw : BL) (aa : Option Addr) (ka : Nat) (p7 p8 p15 : Value) (wr : World) : Prop :=
  ∃ (j : Nat) (b : BL) (mv dr : List Int) (gx kx : Nat) (ma : Option Addr) (mk : Nat) (da : Option Addr) (dk : Nat), p7 = .slice ma (List.length mv) mk ∧ p8 = .slice da (List.length dr) dk ∧ p15 = .int .i64 (j : Int) ∧ SInv w wr c n ta tn tc l B S gb b1 aw aa ka j b mv dr gx kx (.slice ma mv.length mk) (.slice da dr.length dk)
/-- settle has answered -/
def SetAns (w w' : World) (e : Ending) (c n : Int) (ta : Option Addr) (tn tc : Nat) (l : QL) (B gb : Nat) (b1 aw : BL) : Prop :=
  ∃ (b : BL) (mv dr : List Int) (gx kx : Nat) (ma : Option Addr) (mk : Nat) (da : Option Addr) (dk : Nat), e = .returned (.tuple #[.agg #[.int .i64 c, .int .i64 n, .slice ta tn tc, .slice (some ⟨gx, 0, none⟩) (List.length b) kx], .slice ma (List.length mv) mk, .slice da (List.length dr) dk]) ∧ Stl c l b1 aw aw.length b mv dr ∧ w'.ownsRow B 43 7 (.slice (some ⟨gx, 0, none⟩) b.length kx) b.length (bkCells b) ∧ (∀ x ∈ b, InnerS b1 aw w' x) ∧ OwnInts w' w.heap.size (.slice ma mv.length mk) mv ∧ OwnInts w' w.heap.size (.slice da dr.length dk) dr ∧ Stay w w' ∧ w.grownBy w' (some gb)

set_option maxRecDepth 100000 in
set_option maxHeartbeats 8000000 in
theorem settle_own (w : World) (c n : Int) (ta : Option Addr) (tn tc : Nat) (l : QL) (B gb k1 : Nat) (b1 aw : BL) (aa : Option Addr) (ka : Nat) (hq : QsIn (Off gb w) ta tn tc l) (h12 : b1.length + aw.length ≤ 12) (hin : ∀ x ∈ b1, Inner (Off gb w) x) (hia : ∀ x ∈ aw, Inner (Off gb w) x) (hbs : ∀ x ∈ aw, 0 < x.bs.length) (hrow : w.ownsRow B 43 7 (.slice (some ⟨gb, 0, none⟩) b1.length k1) b1.length (bkCells b1)) (haw : w.ownsRow B 43 7 (.slice aa aw.length ka) aw.length (bkCells aw)) (hne : (Value.slice aa aw.length ka).ownBlock ≠ some gb) (hB : B ≤ w.heap.size) :
    Calls Tryz.prog 38 #[.agg #[.int .i64 c, .int .i64 n, .slice ta tn tc, .slice (some ⟨gb, 0, none⟩) b1.length k1], .slice aa aw.length ka] w fun e w' => SetAns w w' e c n ta tn tc l B gb b1 aw := by
  obtain ⟨S, hS⟩ : ∃ S, w.heap.size = S := ⟨_, rfl⟩
  obtain ⟨W1, hW1⟩ : ∃ W1, W1 = (w.alloc (.cells #[.int .i64 c, .int .i64 n, .slice ta tn tc, .slice (some ⟨gb, 0, none⟩) b1.length k1] 25)).alloc (.cells #[.int .i64 0, .int .i64 0, .slice none 0 0, .slice none 0 0] 25) := ⟨_, rfl⟩
  obtain ⟨x1, x2, hb0, hsz⟩ := st_res w _ _ _ _ hW1
  rw [hS] at x1 x2 hsz
  have hgb : gb < S := by have := (hrow.lt gb rfl).2; omega
  have HST : Hid (SInv w W1 c n ta tn tc l B S gb b1 aw aa ka 0 b1 [] [] gb k1 (.slice none 0 0) (.slice none 0 0)) := hid ⟨Stl.start, x1, x2, ownsRow_below hrow hb0, fun x hx => Or.inl hx, ownsRow_below haw hb0, World.ownsRow_nil _ _ _ _, World.ownsRow_nil _ _ _ _, (fun g e => by cases e), Stay.below hb0, ⟨hb0.os, hb0.tape, hb0.output, hb0.size, fun k hk _ => hb0.block k hk⟩, Or.inl rfl⟩
  have HW1 := hid hW1
  have HIA := hid hia
  have HIN := hid hin
  have HQ := hid hq
  have HBS := hid hbs
  have HNE := hid hne
  have hal : ∀ g, (Value.slice aa aw.length ka).ownBlock = some g → g < S := fun g e => by have := (haw.lt g e).2; omega
  have HAL := hid hal
  have ha12 : aw.length ≤ 12 := by omega
  clear x1 x2 hb0 hsz hW1 hrow haw hin hia hq hbs hne hal
  go_enter Tryz.func38, Tryz.ntmps38
  go_wp2
  go_loopw [7, 8, 15] (SRel w c n ta tn tc l B S gb b1 aw aa ka) (fun _ _ p _ => aw.length - (intOf p).toNat)
  case atStart => exact ⟨0, b1, [], [], gb, k1, none, 0, none, 0, rfl, rfl, rfl, by rw [← HW1.out]; exact HST.out⟩
  case round =>
    obtain ⟨j, b, mv, dr, gx, kx, ma, mk, da, dk, rfl, rfl, rfl, hI⟩ := hrel
    have HI := hid hI
    obtain ⟨f1, f2, f3, f4⟩ := hI.stl.few
    clear hI
    by_cases hlt : j < aw.length
    · have hlt' : (j : Int) < aw.length := by omega
      obtain ⟨ga, rfl⟩ : ∃ ga, aa = some ⟨ga, 0, none⟩ := by
        rcases HI.out.away.2 with ⟨_, h0⟩ | ⟨g, cap, cur, e, _⟩
        · omega
        · simp only [Value.slice.injEq] at e
          exact ⟨g, e.1⟩
      obtain ⟨r1, r2, r3⟩ := row_cells rfl HI.out.away
      obtain ⟨X, hX⟩ : ∃ X, bk aw j = X := ⟨_, rfl⟩
      have hXm : X ∈ aw := by rw [← hX]; exact bk_mem hlt
      have e0 := r3 j hlt 0 _ rfl
      have e1 := r3 j hlt 1 _ rfl
      have e2 := r3 j hlt 2 _ rfl
      have e3 := r3 j hlt 3 _ rfl
      have e4 := r3 j hlt 4 _ rfl
      have e5 := r3 j hlt 5 _ rfl
      have e6 := r3 j hlt 6 _ rfl
      rw [hX] at e0 e1 e2 e3 e4 e5 e6
      simp only [Nat.zero_add, Nat.add_zero] at e0 e1 e2 e3 e4 e5 e6
      have hXi : Inner wr X := ((HIA.out X hXm).later (off_below HI.out.grown)).on
      have hQw : QsIn wr ta tn tc l := (HQ.out.later (off_below HI.out.grown)).on
      have hBw : BksIn wr (some ⟨gx, 0, none⟩) b.length kx b := books_in rfl HI.out.row (fun x hx => (HI.out.inner x hx).plain HIN.out HIA.out HI.out.grown)
      obtain ⟨P, hP⟩ : ∃ P, wr.heap.size = P := ⟨_, rfl⟩
      obtain ⟨W2, hW2⟩ : ∃ W2, W2 = wr.alloc (.cells #[.int .i64 X.id, .int .i64 X.rq.queue, .int .i64 X.rq.fr, .int .i64 X.rq.un, .int .i64 X.rq.kind, .slice X.rq.pa X.rq.pn X.rq.pc, .slice X.ba X.bn X.bc] 43) := ⟨_, rfl⟩
      have hbA : Below wr.heap.size wr W2 := by rw [hW2]; exact (Below.refl _ _).alloc (Nat.le_refl _) _
      have hBX : BkBox W2 P X := by rw [hW2, ← hP]; exact heap_alloc_new wr _
      have KR := replace_any W2 c n ta tn tc l _ b.length kx b (show StIn W2 ta tn tc l _ _ _ b from ⟨hQw.later hbA, hBw.later hbA⟩) X (RqIn.later hXi.1 hbA) (hXi.2.later hbA) (HBS.out X hXm)
      obtain ⟨R, hR⟩ : ∃ R, replR c l b X = R := ⟨_, rfl⟩
      rw [hR] at KR
      have HKR := hid KR
      have HRR := hid hR
      have HX := hid hX
      have HXI := hid (HIA.out X hXm)
      have HW2 := hid hW2
      have HBA := hid hbA
      have HBX := hid hBX
      have HP := hid hP
      obtain ⟨s0, s1, s2, s3⟩ := (HI.out.box.later hbA).cells
      obtain ⟨u0, u1, u2, u3, u4, u5, u6⟩ := hBX.cells
      rw [hW2] at s0 s1 s2 s3 u0 u1 u2 u3 u4 u5 u6
      have hPS : S + 2 ≤ P := by
        have := (Array.getElem?_eq_some_iff.1 HI.out.res).1
        omega
      clear KR hR hX hXi hQw hBw hbA hBX hW2 r3
      go_wp2_with fail
      rw [← HW2.out]
      refine HKR.out.mono ?_
      rintro e w1 ⟨fa, fm, fc, rfl, ⟨hrr, hnw⟩, hb⟩
      have hw1 : Below wr.heap.size wr w1 := below_from HBA.out hb
      have HB1 := hid hw1
      have HX1 := hid (HI.out.box.later hw1)
      have HR1 := hid (HI.out.res.later hw1)
      have HO1 := hid (ownsRow_below HI.out.row hw1)
      have HA1 := hid (ownsRow_below HI.out.away hw1)
      have HM1 := hid (HI.out.mrow.under hw1)
      have HD1 := hid (HI.out.drow.under hw1)
      have HG1 := hid (grown_below HI.out.grown hw1)
      have HY1 := hid (HI.out.stay.trans (Stay.below hw1))
      have HYW := hid (Stay.below hw1)
      have HBX1 := hid (HBX.out.later hb)
      have hS1 : S ≤ w1.heap.size := by have := HG1.out.size; omega
      have HRN : Hid (RunsP w1 fa fm fc R.1) := hid ⟨hrr, fun bb off e _ => by
        obtain ⟨_, cs, fr, h2⟩ := hnw bb off e
        exact ⟨cs, 49, fr, h2, by decide, by decide, by decide⟩⟩
      clear hb hw1 hrr hnw s0 s1 s2 s3 u0 u1 u2 u3 u4 u5 u6 e0 e1 e2 e3 e4 e5 e6
      obtain ⟨u0, u1, u2, u3, u4, u5, u6⟩ := HBX1.out.cells
      cases hf : R.2 with
      | false =>
        obtain ⟨w2, hw2⟩ : ∃ w2, w2 = w1.alloc (.cells #[.int .i64 X.id] 3) := ⟨_, rfl⟩
        have hb2 : Below w1.heap.size w1 w2 := by rw [hw2]; exact (Below.refl _ _).alloc (Nat.le_refl _) _
        obtain ⟨g, k, w3, hrun, ho, hgr, hfr⟩ := append_int w2 S (.slice da dr.length dk) dr X.id (HD1.out.under hb2) w1.heap.size (by rw [hw2]; exact heap_alloc_new w1 _) (by omega) (Nat.le_trans hS1 hb2.size)
        have hnp : Stay w2 w3 := Stay.grown hgr (row_not_pb (HD1.out.under hb2) (Or.inr (Or.inr rfl)))
        have HN : Hid (SInv w w3 c n ta tn tc l B S gb b1 aw (some ⟨ga, 0, none⟩) ka (j + 1) b mv (dr ++ [X.id]) gx kx (.slice ma mv.length mk) (.slice (some ⟨g, 0, none⟩) (dr.length + 1) k)) := by
          have hX2 := HX1.out.later hb2
          have hR2 := HR1.out.later hb2
          have hO2 := ownsRow_below HO1.out hb2
          have hA2 := ownsRow_below HA1.out hb2
          have hM2 := HM1.out.under hb2
          have hD2 := HD1.out.under hb2
          refine hid ⟨?_, ?_, ?_, ?_, ?_, ?_, ?_, ho, ?_, ?_, ?_, HI.out.gxn⟩
          · have := Stl.dropped HI.out.stl hlt (by rw [HX.out, HRR.out]; exact hf)
            rw [HX.out] at this
            exact this
          · exact (hgr.block S (Array.getElem?_eq_some_iff.1 hX2).1 (int_not_row hX2 hD2 (by decide))).trans hX2
          · exact (hgr.block (S + 1) (Array.getElem?_eq_some_iff.1 hR2).1 (int_not_row hR2 hD2 (by decide))).trans hR2
          · exact hO2.kept hgr (row_not_int hO2 hD2)
          · exact fun x hx => (HI.out.inner x hx).stay (HYW.out.trans ((Stay.below hb2).trans hnp))
          · exact hA2.kept hgr (row_not_int hA2 hD2)
          · refine hM2.keep hgr ?_
            cases hm : (Value.slice ma mv.length mk).ownBlock with
            | none => exact Or.inl rfl
            | some gm => exact Or.inr fun e => HI.out.mdne gm hm e.symm
          · intro g' hg' e
            have e' : g = g' := by simpa [Value.ownBlock] using e
            subst e'
            rcases hfr with h1 | h1
            · exact HI.out.mdne g hg' h1
            · have := (hM2.lt g hg').2
              omega
          · exact HY1.out.trans ((Stay.below hb2).trans hnp)
          · exact grown_more (grown_below HG1.out hb2) hgr (fun y e => by have := (hD2.lt y e).1; omega)
        rw [hw2] at hrun
        clear hw2 hb2 ho hgr hfr hnp hf
        go_wp2_with (at_builtin; refine Lib.wpList_append_run _ rfl _ _ _ _ rfl _ _ rfl rfl _ _ hrun ?_)
        go_roundw
        case rel => exact ⟨j + 1, b, mv, dr ++ [X.id], gx, kx, ma, mk, some ⟨g, 0, none⟩, k, rfl, by simp, by go_num, by simpa using HN.out⟩
        case measure => simp [intOf]; omega
      | true =>
        obtain ⟨X', hX'⟩ : ∃ X' : Bk, X' = ⟨X.id, X.rq, fa, fm, fc, R.1⟩ := ⟨_, rfl⟩
        obtain ⟨w2, hw2⟩ : ∃ w2, w2 = w1.setCell ⟨P, 6, none⟩ (.slice fa fm fc) := ⟨_, rfl⟩
        have hPB : w1.grownBy w2 (some P) := by rw [hw2]; exact ⟨rfl, rfl, rfl, by simp [World.setCell], fun k _ hne => Below.heap_setCell _ _ _ k (fun e => hne (by rw [e]))⟩
        have hBX2 : BkBox w2 P X' := by rw [hw2, hX']; exact heap_setCell_same w1 P 6 _ _ _ HBX1.out
        have hbr : ∀ {Q : Nat}, Q < P → some Q ≠ some P := fun h e => by have := Option.some.inj e; omega
        have hX2 : StBox w2 S (.int .i64 c) (.int .i64 n) (.slice ta tn tc) (.slice (some ⟨gx, 0, none⟩) b.length kx) := (hPB.block S (Array.getElem?_eq_some_iff.1 HX1.out).1 (hbr (by omega))).trans HX1.out
        have hR2 : StBox w2 (S + 1) (.int .i64 0) (.int .i64 0) (.slice none 0 0) (.slice none 0 0) := (hPB.block (S + 1) (Array.getElem?_eq_some_iff.1 HR1.out).1 (hbr (by omega))).trans HR1.out
        have hgxP : gx < P := by have := (HI.out.row.lt gx rfl).2; have := HP.out; omega
        have hO2 := HO1.out.kept hPB (Or.inr (fun e => hbr hgxP e))
        have hA2 := HA1.out.kept hPB (Or.inr (fun e => hbr (show ga < P by have := HAL.out ga rfl; omega) e))
        have hM2 : OwnInts w2 S (.slice ma mv.length mk) mv := HM1.out.keep hPB (Or.inr fun e => int_not_row HBX1.out HM1.out (by decide) e.symm)
        have hD2 : OwnInts w2 S (.slice da dr.length dk) dr := HD1.out.keep hPB (Or.inr fun e => int_not_row HBX1.out HD1.out (by decide) e.symm)
        have hY2 : Stay w1 w2 := Stay.grown hPB (fun g e => by cases e; exact not_pb HBX1.out (Or.inl rfl))
        have hG2 : w.grownBy w2 (some gb) := grown_more HG1.out hPB (fun k e => by cases e; omega)
        have hN2 : RunsP w2 fa fm fc R.1 := HRN.out.stay hY2
        have KP := put_own w2 B b.length kx (some ⟨gx, 0, none⟩) b X' rfl (by omega) hO2 (Nat.le_trans hB hG2.size)
        have HKP := hid KP
        have H2 := hid (And.intro hX2 (And.intro hR2 (And.intro hO2 (And.intro hA2 (And.intro hM2 (And.intro hD2 (And.intro hY2 (And.intro hG2 (And.intro hN2 hBX2)))))))))
        obtain ⟨q0, q1, q2, q3⟩ := hX2.cells
        obtain ⟨v0, v1, v2, v3, v4, v5, v6⟩ := hBX2.cells
        have pf : ∀ k, w1.frozen? ⟨P, k, none⟩ = false := fun k => frozen_of_row w1 P k _ _ HBX1.out
        rw [hw2] at q0 q1 q2 q3 v0 v1 v2 v3 v4 v5 v6
        rw [hX'] at v0 v1 v2 v3 v4 v5 v6 HKP
        have HW3 := hid hw2
        have HX' := hid hX'
        have HF2 := hid hf
        clear hPB hBX2 hX2 hR2 hO2 hA2 hM2 hD2 hY2 hG2 hN2 KP hw2 hbr hf
        go_wp2_with fail
        rw [← HW3.out]
        refine HKP.out.mono ?_
        rintro e w4 ⟨gy, ky, rfl, ho4, hg4, hfr4⟩
        obtain ⟨hX2, hR2, hO2, hA2, hM2, hD2, hY2, hG2, hN2, hBX2⟩ := H2.out
        have hg4' : w2.grownBy w4 (some gx) := hg4
        have hX4 : StBox w4 S (.int .i64 c) (.int .i64 n) (.slice ta tn tc) (.slice (some ⟨gx, 0, none⟩) b.length kx) := (hg4'.block S (Array.getElem?_eq_some_iff.1 hX2).1 (hX2.not_row hO2)).trans hX2
        have hR4 : StBox w4 (S + 1) (.int .i64 0) (.int .i64 0) (.slice none 0 0) (.slice none 0 0) := (hg4'.block (S + 1) (Array.getElem?_eq_some_iff.1 hR2).1 (hR2.not_row hO2)).trans hR2
        have hBX4 : BkBox w4 P X' := (hg4'.block P (Array.getElem?_eq_some_iff.1 hBX2).1 (fun e => by have := Option.some.inj e; omega)).trans hBX2
        have hgaX : some ga ≠ some gx := fun e => by
          have h1 := Option.some.inj e
          have h2 := HAL.out ga rfl
          rcases HI.out.gxn with h | h
          · exact HNE.out (by rw [← h, ← h1]; rfl)
          · omega
        have hA4 := hA2.kept hg4' (Or.inr hgaX)
        have hM4 := hM2.keep hg4' (Or.inr fun e => (row_not_int hO2 hM2).elim (fun h => by cases h) (fun h => h e.symm))
        have hD4 := hD2.keep hg4' (Or.inr fun e => (row_not_int hO2 hD2).elim (fun h => by cases h) (fun h => h e.symm))
        have hY4 : Stay w2 w4 := Stay.grown hg4' (row_not_pb hO2 (Or.inl rfl))
        have hgxn : gx = gb ∨ w.heap.size ≤ gx := HI.out.gxn
        have hG4 : w.grownBy w4 (some gb) := by
          rcases hgxn with h | h
          · rw [h] at hg4'
            exact grown_trans hG2 hg4'
          · exact grown_more hG2 hg4' (fun k e => by cases e; exact h)
        obtain ⟨w5, hw5⟩ : ∃ w5, w5 = w4.setCell ⟨S, 3, none⟩ (.slice (some ⟨gy, 0, none⟩) (b.length + 1) ky) := ⟨_, rfl⟩
        have hsg : w4.grownBy w5 (some S) := by rw [hw5]; exact ⟨rfl, rfl, rfl, by simp [World.setCell], fun k _ hne => Below.heap_setCell _ _ _ k (fun e => hne (by rw [e]))⟩
        have hX5 : StBox w5 S (.int .i64 c) (.int .i64 n) (.slice ta tn tc) (.slice (some ⟨gy, 0, none⟩) (b.length + 1) ky) := by rw [hw5]; exact hX4.set3 _
        have hR5 : StBox w5 (S + 1) (.int .i64 0) (.int .i64 0) (.slice none 0 0) (.slice none 0 0) := (hsg.block (S + 1) (Array.getElem?_eq_some_iff.1 hR4).1 (fun e => by have := Option.some.inj e; omega)).trans hR4
        have hBX5 : BkBox w5 P X' := (hsg.block P (Array.getElem?_eq_some_iff.1 hBX4).1 (fun e => by have := Option.some.inj e; omega)).trans hBX4
        have hO5 := ho4.kept hsg (Or.inr fun e => hX4.not_row ho4 e.symm)
        have hA5 := hA4.kept hsg (Or.inr fun e => hX4.not_row hA4 e.symm)
        have hM5 := hM4.keep hsg (Or.inr fun e => int_not_row hX4 hM4 (by decide) e.symm)
        have hD5 := hD4.keep hsg (Or.inr fun e => int_not_row hX4 hD4 (by decide) e.symm)
        have hY5 : Stay w4 w5 := Stay.grown hsg (fun g e => by cases e; exact not_pb hX4 (Or.inr (Or.inl rfl)))
        have hG5 : w.grownBy w5 (some gb) := grown_more hG4 hsg (fun k e => by cases e; omega)
        obtain ⟨w6, hw6⟩ : ∃ w6, w6 = w5.alloc (.cells #[.int .i64 X.id] 3) := ⟨_, rfl⟩
        have hb6 : Below w5.heap.size w5 w6 := by rw [hw6]; exact (Below.refl _ _).alloc (Nat.le_refl _) _
        obtain ⟨g, k, w7, hrun, ho, hgr, hfr⟩ := append_int w6 S (.slice ma mv.length mk) mv X.id (hM5.under hb6) w5.heap.size (by rw [hw6]; exact heap_alloc_new w5 _) (by omega) (Nat.le_trans (by have := hG5.size; omega) hb6.size)
        have hY7 : Stay w6 w7 := Stay.grown hgr (row_not_pb (hM5.under hb6) (Or.inr (Or.inr rfl)))
        have hYall : Stay w1 w7 := hY2.trans (hY4.trans (hY5.trans ((Stay.below hb6).trans hY7)))
        have HN : Hid (SInv w w7 c n ta tn tc l B S gb b1 aw (some ⟨ga, 0, none⟩) ka (j + 1) (putB b X') (mv ++ [X.id]) dr gy ky (.slice (some ⟨g, 0, none⟩) (mv.length + 1) k) (.slice da dr.length dk)) := by
          have hX6 := hX5.later hb6
          have hR6 := hR5.later hb6
          have hO6 := ownsRow_below hO5 hb6
          have hA6 := ownsRow_below hA5 hb6
          have hM6 := hM5.under hb6
          have hD6 := hD5.under hb6
          refine hid ⟨?_, ?_, ?_, ?_, ?_, ?_, ho, ?_, ?_, ?_, ?_, ?_⟩
          · have := Stl.moved (fa := fa) (fm := fm) (fc := fc) HI.out.stl hlt (by rw [HX.out, HRR.out]; exact HF2.out)
            rw [HX.out, HRR.out] at this
            rw [HX'.out]
            exact this
          · rw [putB_len]
            exact (hgr.block S (Array.getElem?_eq_some_iff.1 hX6).1 (int_not_row hX6 hM6 (by decide))).trans hX6
          · exact (hgr.block (S + 1) (Array.getElem?_eq_some_iff.1 hR6).1 (int_not_row hR6 hM6 (by decide))).trans hR6
          · rw [putB_len, HX'.out]
            exact hO6.kept hgr (row_not_int hO6 hM6)
          · intro x hx
            rcases putB_mem hx with rfl | hx
            · rw [HX'.out]
              exact Or.inr ⟨⟨X, hXm, rfl⟩, HRN.out.stay hYall⟩
            · exact (HI.out.inner x hx).stay (HYW.out.trans hYall)
          · exact hA6.kept hgr (row_not_int hA6 hM6)
          · refine hD6.keep hgr ?_
            cases hd : (Value.slice da dr.length dk).ownBlock with
            | none => exact Or.inl rfl
            | some gd => exact Or.inr fun e => HI.out.mdne gd e.symm hd
          · intro g' hg' e
            have e' : g = g' := by simpa [Value.ownBlock] using hg'
            subst e'
            rcases hfr with h1 | h1
            · exact HI.out.mdne g h1 e
            · have := (hD6.lt g e).2
              omega
          · exact HY1.out.trans hYall
          · exact grown_more (grown_below hG5 hb6) hgr (fun y e => by have := (hM6.lt y e).1; omega)
          · rcases hfr4 with h | h
            · have h' : gx = gy := Option.some.inj h
              rw [← h']
              exact HI.out.gxn
            · exact Or.inr (Nat.le_trans hG2.size h)
        obtain ⟨q0, q1, q2, q3⟩ := hX4.cells
        have sf : ∀ k, w4.frozen? ⟨S, k, none⟩ = false := fun k => frozen_of_row w4 S k _ _ hX4
        obtain ⟨p0, p1, p2, p3, p4, p5, p6⟩ := hBX5.cells
        rw [hw5] at p0 p1 p2 p3 p4 p5 p6
        rw [HX'.out] at p0
        have hs5 : w5.heap.size = w4.heap.size := by rw [hw5]; simp [World.setCell]
        rw [hs5, hw6, hw5] at hrun
        clear hX2 hR2 hO2 hA2 hM2 hD2 hY2 hG2 hN2 hBX2 hg4 hg4' hX4 hR4 hBX4 hgaX hA4 hM4 hD4 hY4 hgxn hG4 hw5 hsg hX5 hR5 hBX5 hO5 hA5 hM5 hD5 hY5 hG5 hw6 hb6 ho hgr hfr hY7 hYall ho4 hfr4 hs5
        go_wp2_with (at_builtin; refine Lib.wpList_append_run _ rfl _ _ _ _ rfl _ _ rfl rfl _ _ hrun ?_)
        go_roundw
        case rel => exact ⟨j + 1, putB b X', mv ++ [X.id], dr, gy, ky, some ⟨g, 0, none⟩, k, da, dk, by simp, rfl, by go_num, by simpa using HN.out⟩
        case measure => simp [intOf]; omega
    · obtain rfl : j = aw.length := by omega
      obtain ⟨d0, d1, d2, d3⟩ := HI.out.box.cells
      obtain ⟨y0, y1, y2, y3⟩ := HI.out.res.cells
      have yf : ∀ k, wr.frozen? ⟨S + 1, k, none⟩ = false := fun k => frozen_of_row wr (S + 1) k _ _ HI.out.res
      go_wp2
      have hst := four_stores wr (S + 1) 25 _ _ _ _ (.int .i64 c) (.int .i64 n) (.slice ta tn tc) (.slice (some ⟨gx, 0, none⟩) b.length kx) HI.out.res
      refine bodyPost_ret (v := .tuple #[.agg #[.int .i64 c, .int .i64 n, .slice ta tn tc, .slice (some ⟨gx, 0, none⟩) b.length kx], .slice ma mv.length mk, .slice da dr.length dk]) (results_row_tmp2 Tryz.results38 _ _ (S + 1) 25 #[.int .i64 c, .int .i64 n, .slice ta tn tc, .slice (some ⟨gx, 0, none⟩) b.length kx] (0, 0) _ rfl hst.1 Tryz.underlying25 rfl (by kernel_rfl)) rfl ?_
      have hgr : wr.grownBy ((((wr.setCell ⟨S + 1, 0, none⟩ (.int .i64 c)).setCell ⟨S + 1, 1, none⟩ (.int .i64 n)).setCell ⟨S + 1, 2, none⟩ (.slice ta tn tc)).setCell ⟨S + 1, 3, none⟩ (.slice (some ⟨gx, 0, none⟩) b.length kx)) (some (S + 1)) := ⟨rfl, rfl, rfl, by simp [World.setCell], fun k _ hne => hst.2 k (fun e => hne (by rw [e]))⟩
      have hsy := Stay.grown hgr (fun g e => by cases e; exact not_pb HI.out.res (Or.inr (Or.inl rfl)))
      refine ⟨b, mv, dr, gx, kx, ma, mk, da, dk, rfl, HI.out.stl, HI.out.row.kept hgr (Or.inr fun e => HI.out.res.not_row HI.out.row e.symm), fun x hx => (HI.out.inner x hx).stay hsy, ?_, ?_, HI.out.stay.trans hsy, grown_more HI.out.grown hgr (fun k e => by cases e; omega)⟩
      · rw [hS]
        exact HI.out.mrow.keep hgr (Or.inr fun e => int_not_row HI.out.res HI.out.mrow (by decide) e.symm)
      · rw [hS]
        exact HI.out.drow.keep hgr (Or.inr fun e => int_not_row HI.out.res HI.out.drow (by decide) e.symm)
end Go.Proofs.YtecibbokbonmcaeGreat

/- Less room, plain: who is taken away took something where too much was taken; if all fits, nobody is. -/
namespace Go.Proofs.YtecibbokbonmcaeGreat

/-- I3: if all fits, nobody is taken away -/
theorem Lit.none {c : Int} {l : QL} {b0 b aw : BL} (h : Lit c l b0 b aw) (hno : ∀ u, c ≤ u → u < 48 → ∀ q, q < l.length → overI l b0 u q = false) : b = b0 ∧ aw = [] := by
  induction h with
  | start => exact ⟨rfl, rfl⟩
  | @step b aw t q _ hf ih =>
    obtain ⟨rfl, rfl⟩ := ih
    rcases hf with ⟨e, _⟩ | ⟨_, t0, t1, k, hk, _, ho, _, _⟩
    · cases e
    · rw [hno t t0 t1 k hk] at ho
      cases ho
theorem bookTo_pos {X : Bk} {u : Nat} : ∀ {k : Nat}, 0 < bookTo X u k → ∃ i, i < k ∧ rN X.bs i ≤ u ∧ (u : Int) < rN X.bs i + lenOf X.rq X.bs i
  | 0, h => by simp [bookTo] at h
  | k + 1, h => by
    rw [bookTo] at h
    by_cases h1 : 0 < bookTo X u k
    · obtain ⟨i, hi, h2⟩ := bookTo_pos h1
      exact ⟨i, by omega, h2⟩
    · unfold biteV at h
      split at h
      · rename_i hin
        exact ⟨k, by omega, hin⟩
      · omega
theorem takes_of {X : Bk} {t : Int} (h0 : 0 ≤ t) (h : 0 < bookTo X t.toNat X.bs.length) : takesB X t = true := by
  obtain ⟨i, hi, h1, h2⟩ := bookTo_pos h
  unfold takesB
  rw [allN_false (p := fun i => !takesI X t i) (k := i) (by simp only [takesI, Bool.not_eq_false', Bool.and_eq_true, decide_eq_true_eq]; omega) X.bs.length hi]
  rfl
theorem sum_pos {f : Bk → Int} : ∀ {b : BL}, 0 < (b.map f).sum → ∃ x ∈ b, 0 < f x
  | [], h => by simp at h
  | x :: b, h => by
    simp only [List.map_cons, List.sum_cons] at h
    by_cases h1 : 0 < f x
    · exact ⟨x, List.mem_cons_self .., h1⟩
    · obtain ⟨y, hy, h2⟩ := sum_pos (b := b) (f := f) (by omega)
      exact ⟨y, List.mem_cons_of_mem _ hy, h2⟩
/-- where too much is taken somebody takes -/
theorem over_hit {l : QL} {b : BL} (h : Clean l b) {q : Nat} (hq : q < l.length) {t : Int} (h0 : 0 ≤ t) (h1 : t < 48) (ho : overI l b t q = true) : ∃ i, i < b.length ∧ hitsI l b t q i = true := by
  have h2 := (over_iff h hq h0 h1).1 ho
  have h3 := ((cap_val h.tree (p := q) hq).2 t.toNat).1
  rw [use_all] at h2
  obtain ⟨x, hx, hp⟩ := sum_pos (b := b) (f := oneV l q t.toNat) (by omega)
  obtain ⟨i, hi, rfl⟩ := List.getElem_of_mem hx
  refine ⟨i, hi, ?_⟩
  unfold oneV at hp
  split at hp
  · rename_i hin
    unfold hitsI
    rw [bk_is hi, takes_of h0 hp, stands_iff.2 hin]
    rfl
  · omega
theorem lastI_hit {l : QL} {b : BL} {t q : Int} : ∀ {n : Nat}, (∃ i, i < n ∧ hitsI l b t q i = true) → hitsI l b t q (lastI l b t q n) = true
  | 0, ⟨i, hi, _⟩ => by omega
  | n + 1, ⟨i, hi, h⟩ => by
    rw [lastI]
    by_cases e : hitsI l b t q n = true
    · rw [if_pos e]; exact e
    · rw [if_neg e]
      refine lastI_hit ⟨i, ?_, h⟩
      by_cases e2 : i = n
      · subst e2; exact absurd h e
      · omega
theorem less_sub (b : BL) (i : Nat) : (lessB b i).Sublist b := by
  have h1 : (b.take i ++ b.drop (i + 1)).Sublist (b.take i ++ b.drop i) := List.Sublist.append (List.Sublist.refl _) (by
    rw [← List.drop_drop]
    exact List.drop_sublist 1 _)
  rw [List.take_append_drop] at h1
  exact h1
theorem Lit.sub {c : Int} {l : QL} {b0 b aw : BL} (h : Lit c l b0 b aw) : b.Sublist b0 := by
  induction h with
  | start => exact List.Sublist.refl _
  | step _ _ ih => exact (less_sub _ _).trans ih
/-- who takes less has too much no sooner -/
theorem over_sub {l : QL} {b b0 : BL} (hb : Clean l b) (h0 : Clean l b0) (hs : b.Sublist b0) {q : Nat} (hq : q < l.length) {t : Int} (t0 : 0 ≤ t) (t1 : t < 48) (ho : overI l b t q = true) : overI l b0 t q = true := by
  have h2 := (over_iff hb hq t0 t1).1 ho
  rw [over_iff h0 hq t0 t1]
  rw [use_all] at h2 ⊢
  have h3 := sum_less (oneV l q t.toNat) hs fun x hx => (oneV_bd (l := l) (clean_at h0 hx).1 q t.toNat).1
  omega
/-- I3: who is taken away took something at a time, from the clock on, at which too much was taken of a queue that it is under -/
theorem Lit.fair {c : Int} {l : QL} {b0 b aw : BL} (h : Lit c l b0 b aw) (hc : Clean l b0) (h0 : 0 ≤ c) : ∀ x ∈ aw, ∃ (t : Int) (q : Nat), c ≤ t ∧ t < 48 ∧ q < l.length ∧ overI l b0 t q = true ∧ standsIn l x.rq.queue q = true ∧ takesB x t = true := by
  induction h with
  | start => exact fun x hx => absurd hx (List.not_mem_nil)
  | @step b aw t q hl hf ih =>
    intro x hx
    obtain ⟨h1, h2, h3, h4⟩ := hl.clean hc h0
    rcases hf with ⟨e, _⟩ | ⟨_, t0, t1, k, hk, hqk, ho, _, _⟩
    · cases e
    · have hq : q = k := by omega
      subst hq
      rcases putB_mem hx with rfl | hx
      · have hh := lastI_hit (over_hit h1 hk (by omega) t1 ho)
        unfold hitsI at hh
        rw [Bool.and_eq_true] at hh
        exact ⟨t, q, t0, t1, hk, over_sub h1 hc hl.sub hk (by omega) t1 ho, hh.1, hh.2⟩
      · exact ih x hx
end Go.Proofs.YtecibbokbonmcaeGreat

/- Less room, plain: what is put back is right; each book is left as it is, moved, or dropped, one of these. -/
namespace Go.Proofs.YtecibbokbonmcaeGreat

/-- Ids rise -/
def Up (b : BL) : Prop := b.Pairwise (fun x y => x.id < y.id)
theorem posI_spec (b : BL) (id : Int) : ∀ n, (∀ i, posI b id n ≤ i → i < n → ¬ (bk b i).id < id) ∧ (posI b id n = 0 ∨ (bk b (posI b id n - 1)).id < id)
  | 0 => ⟨fun i _ h => by omega, Or.inl rfl⟩
  | n + 1 => by
    obtain ⟨h1, h2⟩ := posI_spec b id n
    rw [posI]
    split
    · rename_i h
      exact ⟨fun i hi hn => by omega, Or.inr h⟩
    · rename_i h
      refine ⟨fun i hi hn => ?_, h2⟩
      by_cases e : i = n
      · subst e; exact h
      · exact h1 i hi (by omega)
theorem putB_perm (b : BL) (x : Bk) : (putB b x).Perm (x :: b) := by
  unfold putB insB
  have h := List.perm_middle (a := x) (l₁ := b.take (posI b x.id b.length)) (l₂ := b.drop (posI b x.id b.length))
  rw [List.take_append_drop] at h
  exact h
theorem up_put {b : BL} {x : Bk} (h : Up b) (hx : ∀ y ∈ b, y.id ≠ x.id) : Up (putB b x) := by
  obtain ⟨h1, h2⟩ := posI_spec b x.id b.length
  have hp := posI_le b x.id b.length
  unfold putB insB
  obtain ⟨p, hpe⟩ : ∃ p, posI b x.id b.length = p := ⟨_, rfl⟩
  rw [hpe] at h1 h2 hp ⊢
  have hP := List.pairwise_iff_getElem.1 h
  have hlow : ∀ y ∈ b.take p, y.id < x.id := by
    intro y hy
    obtain ⟨i, hi, rfl⟩ := List.getElem_of_mem hy
    have hi2 : i < p ∧ i < b.length := by simp at hi; exact ⟨by omega, by omega⟩
    rw [List.getElem_take]
    rcases h2 with e | h2
    · omega
    · rw [bk_is (show p - 1 < b.length by omega)] at h2
      by_cases e : i = p - 1
      · subst e; exact h2
      · have := hP i (p - 1) hi2.2 (by omega) (by omega)
        omega
  have hhigh : ∀ y ∈ b.drop p, x.id < y.id := by
    intro y hy
    obtain ⟨i, hi, rfl⟩ := List.getElem_of_mem hy
    have hi2 : p + i < b.length := by simp at hi; omega
    rw [List.getElem_drop]
    have h3 := h1 (p + i) (by omega) hi2
    rw [bk_is hi2] at h3
    have h4 := hx b[p + i] (List.getElem_mem hi2)
    omega
  unfold Up
  rw [List.pairwise_append, List.pairwise_cons]
  refine ⟨h.sublist (List.take_sublist _ _), ⟨hhigh, h.sublist (List.drop_sublist _ _)⟩, fun y hy z hz => ?_⟩
  rcases List.mem_cons.1 hz with e | hz
  · rw [e]; exact hlow y hy
  · have := hlow y hy
    have := hhigh z hz
    omega
theorem less_perm {b : BL} {i : Nat} (h : i < b.length) : (bk b i :: lessB b i).Perm b := by
  have h1 := List.perm_middle (a := bk b i) (l₁ := b.take i) (l₂ := b.drop (i + 1))
  rw [bk_is h, List.getElem_cons_drop h, List.take_append_drop] at h1
  rw [bk_is h]
  exact h1.symm
theorem Up.nodup {b : BL} (h : Up b) : (b.map Bk.id).Nodup := by
  unfold List.Nodup
  rw [List.pairwise_map]
  exact h.imp fun hlt => by omega
/-- those that stay and those that were taken away are those that there were; both rise -/
theorem Lit.all {c : Int} {l : QL} {b0 b aw : BL} (h : Lit c l b0 b aw) (hc : Clean l b0) (h0 : 0 ≤ c) (hu : Up b0) : (b ++ aw).Perm b0 ∧ Up aw := by
  induction h with
  | start => exact ⟨by simp, List.Pairwise.nil⟩
  | @step b aw t q hl hf ih =>
    obtain ⟨h1, h2, h3, h4⟩ := hl.clean hc h0
    obtain ⟨i1, i2⟩ := ih
    rcases hf with ⟨e, _⟩ | ⟨_, t0, t1, k, hk, hqk, ho, _, _⟩
    · cases e
    · have hq : q = k := by omega
      subst hq
      have hi := lastI_lt l b t q b.length (over_some h1 hk (by omega) t1 ho)
      refine ⟨?_, up_put i2 fun y hy e => ?_⟩
      · refine List.Perm.trans ?_ i1
        refine (List.Perm.append_left _ (putB_perm _ _)).trans ?_
        refine List.perm_middle.trans ?_
        exact (less_perm hi).append_right aw
      · have hn := (i1.map Bk.id).nodup_iff.2 hu.nodup
        rw [List.map_append, List.nodup_append] at hn
        exact hn.2.2 _ (List.mem_map_of_mem (bk_mem hi)) _ (List.mem_map_of_mem hy) e.symm

/-- the same request from c on: what is held is held -/
theorem heldTo_from (f : RunL) (r : Rq) (c : Int) (b : RunL) : ∀ k, heldTo f (r.from c) b k = heldTo f r b k
  | 0 => rfl
  | k + 1 => by rw [heldTo, heldTo, heldTo_from f r c b k]; rfl
theorem heldB_from (f : RunL) (r : Rq) (c : Int) (b : RunL) : heldB f (r.from c) b = heldB f r b := by unfold heldB; rw [heldTo_from]
theorem overMax_from (r : Rq) (c : Int) (b : RunL) : ∀ k, overMax (r.from c) b k = overMax r b k
  | 0 => rfl
  | k + 1 => by rw [overMax, overMax, overMax_from r c b k]; rfl
/-- what meets it from c on meets it, and begins at c at the soonest -/
theorem meets_from {r : Rq} {c : Int} {b : RunL} (h0 : chkR false r = 0) (h : meets (r.from c) b = true) : meets r b = true ∧ (∀ i, i < b.length → c ≤ rN b i) ∧ c < overMax r b b.length := by
  obtain ⟨h1, h2, h3⟩ := meets_split.1 h
  have hb := meets_bounds h
  rw [overMax_from] at hb
  refine ⟨meets_split.2 ⟨h0, h2, fun i hi => ?_⟩, fun i hi => ?_, ?_⟩
  · obtain ⟨g1, g2, g3⟩ := biteOk_at (h3 i hi)
    have g4 := inTime_at g2
    have g1' : isPiece r b i = true := g1
    have g2' : inTime r b i = true := decide_eq_true ⟨by have := g4.1; simp only [Rq.from] at this; omega, g4.2⟩
    simp only [biteOk, g1', g2', Bool.and_self, Bool.true_and, Bool.or_eq_true, decide_eq_true_eq]
    exact g3
  · obtain ⟨g1, g2, g3⟩ := biteOk_at (h3 i hi)
    have g4 := (inTime_at g2).1
    simp only [Rq.from] at g4
    omega
  · have := hb.2.1
    simp only [Rq.from] at this
    omega
/-- a right state, told by its books -/
theorem sound_up {c n : Int} {l : QL} {b : BL} (h : Sound c n l b) : Up b ∧ (∀ x ∈ b, 0 ≤ x.id ∧ x.id < n) ∧ ∀ x ∈ b, c < overV x := by
  refine ⟨?_, fun x hx => ?_, fun x hx => ?_⟩
  · unfold Up
    rw [List.pairwise_iff_getElem]
    intro i j hi hj hij
    have := ids_rise h hj hij
    rw [bk_is hi, bk_is hj] at this
    exact this
  · obtain ⟨i, hi, rfl⟩ := mem_bk hx
    exact ids_low h hi
  · obtain ⟨i, hi, rfl⟩ := mem_bk hx
    exact h.alive i hi
theorem up_sound {c n : Int} {l : QL} {b : BL} (hc : Clean l b) (c0 : 0 ≤ c) (c1 : c ≤ 48) (n0 : 0 ≤ n) (n1 : n ≤ 1048576) (hu : Up b) (hi : ∀ x ∈ b, 0 ≤ x.id ∧ x.id < n) (ha : ∀ x ∈ b, c < overV x) (hf : ∀ q : Nat, q < l.length → ∀ t : Nat, c ≤ t → t < 48 → useTo l b q t b.length ≤ vals (qu l q).runs t) : Sound c n l b := by
  refine ⟨hc, c0, c1, n0, n1, fun i h => ?_, fun i h => ha _ (bk_mem h), hf⟩
  have h1 := hi _ (bk_mem h)
  refine ⟨?_, h1.2⟩
  unfold leastId
  by_cases e : i = 0
  · rw [if_pos e]; exact h1.1
  · rw [if_neg e]
    have h2 := List.pairwise_iff_getElem.1 hu (i - 1) i (by omega) h (by omega)
    rw [bk_is h, bk_is (show i - 1 < b.length by omega)]
    omega
/-- what lighten leaves is right -/
theorem Lit.sound {c n : Int} {l : QL} {b0 b aw : BL} (h : Lit c l b0 b aw) (hc : Clean l b0) (c0 : 0 ≤ c) (c1 : c ≤ 48) (n0 : 0 ≤ n) (n1 : n ≤ 1048576) (hu : Up b0) (hi : ∀ x ∈ b0, 0 ≤ x.id ∧ x.id < n) (ha : ∀ x ∈ b0, c < overV x) (hno : ∀ u, c ≤ u → u < 48 → ∀ q, q < l.length → overI l b u q = false) : Sound c n l b := by
  obtain ⟨h1, h2, _, _⟩ := h.clean hc c0
  refine up_sound h1 c0 c1 n0 n1 (hu.sublist h.sub) (fun x hx => hi x (h2 x hx)) (fun x hx => ha x (h2 x hx)) fun q hq t ht1 ht2 => ?_
  have := (over_not h1 hq (t := (t : Int)) (by omega) (by omega)).1 (hno t ht1 (by omega) q hq)
  rw [Int.toNat_natCast] at this
  exact this
theorem sum_perm (f : Bk → Int) {a b : BL} (h : a.Perm b) : (a.map f).sum = (b.map f).sum := by
  induction h with
  | nil => rfl
  | cons x _ ih => simp only [List.map_cons, List.sum_cons, ih]
  | swap x y l => simp only [List.map_cons, List.sum_cons]; omega
  | trans _ _ h1 h2 => exact h1.trans h2
/-- what is put back is right -/
theorem put_sound {c n : Int} {l : QL} {b : BL} {X : Bk} {fa : Option Addr} {fm fc : Nat} (h : Sound c n l b) (hX : chkB l X = 0) (hid : 0 ≤ X.id ∧ X.id < n) (hnew : ∀ y ∈ b, y.id ≠ X.id) (h12 : b.length < 12) (hr : (replR c l b X).2 = true) :
    Sound c n l (putB b ⟨X.id, X.rq, fa, fm, fc, (replR c l b X).1⟩) ∧ ∀ i, i < (replR c l b X).1.length → c ≤ rN (replR c l b X).1 i := by
  obtain ⟨hu, hi, ha⟩ := sound_up h
  have hq : chkQR l X.rq = 0 := by
    unfold chkB at hX
    by_cases e : chkQR l X.rq = 0
    · exact e
    · rw [if_neg e] at hX; exact absurd hX e
  have hR : chkR false X.rq = 0 := (meets_split.1 (no_error_at h.clean.tree hX).1).1
  obtain ⟨_, q0, q1⟩ := no_error_at h.clean.tree hX
  have hgood : meets (X.rq.from c) (replR c l b X).1 = true ∧ heldB (roomR l b X.rq.queue) (X.rq.from c) (replR c l b X).1 = true := by
    unfold replR at hr ⊢
    by_cases e : begunB X c = true
    · rw [if_pos e] at hr; cases hr
    · rw [if_neg e] at hr ⊢
      unfold placeR at hr ⊢
      by_cases er : roomE l b (X.rq.from c).queue = 0
      · rw [if_pos er] at hr ⊢
        by_cases e0 : placeErr (roomR l b (X.rq.from c).queue) (X.rq.from c) = 0
        · rw [if_pos e0] at hr ⊢
          exact find_good e0 (Prod.ext rfl hr)
        · rw [if_neg e0] at hr; cases hr
      · rw [if_neg er] at hr; cases hr
  obtain ⟨bs, hbs⟩ : ∃ bs, (replR c l b X).1 = bs := ⟨_, rfl⟩
  rw [hbs] at hgood ⊢
  obtain ⟨g1, g2⟩ := hgood
  rw [heldB_from] at g2
  obtain ⟨m1, m2, m3⟩ := meets_from hR g1
  obtain ⟨Y, hY⟩ : ∃ Y : Bk, Y = ⟨X.id, X.rq, fa, fm, fc, bs⟩ := ⟨_, rfl⟩
  rw [← hY]
  have y1 : Y.id = X.id := by rw [hY]
  have y2 : Y.rq = X.rq := by rw [hY]
  have y3 : Y.bs = bs := by rw [hY]
  rw [← y2, ← y3] at m1 g2 m3
  have hchk : chkB l Y = 0 := by unfold chkB; rw [y2, if_pos hq, ← y2, if_pos m1]
  have hmem : ∀ y ∈ putB b Y, y = Y ∨ y ∈ b := fun y hy => putB_mem hy
  have hcl : Clean l (putB b Y) := ⟨h.clean.tree, by rw [putB_len]; omega, fun i hi => by
    rcases hmem _ (bk_mem hi) with e | e
    · rw [e]; exact hchk
    · obtain ⟨j, hj, e2⟩ := mem_bk e
      rw [← e2]; exact h.clean.each j hj⟩
  rw [← y2] at q1
  refine ⟨up_sound hcl h.c0 h.c48 h.n0 h.n1 (up_put hu fun y hy => by rw [y1]; exact hnew y hy) (fun y hy => ?_) (fun y hy => ?_) fun q hq t ht1 ht2 => ?_, m2⟩
  · rcases hmem y hy with e | e
    · rw [e, y1]; exact hid
    · exact hi y e
  · rcases hmem y hy with e | e
    · rw [e, (overV_met m1).2]; exact m3
    · exact ha y e
  · rw [use_all, sum_perm _ (putB_perm b Y)]
    simp only [List.map_cons, List.sum_cons]
    have h1 := h.fits q hq t ht1 ht2
    rw [use_all] at h1
    unfold oneV at h1 ⊢
    split
    · rename_i hl
      rcases held_room2 (room_fine h.clean q1) m1 (by rw [y2] at g2 ⊢; exact g2) ht2 with h2 | h2
      · omega
      · have h3 := room_le h.clean q1 hl ht2
        rw [use_all] at h3
        unfold oneV at h3
        omega
    · omega
end Go.Proofs.YtecibbokbonmcaeGreat

/- Less room, plain: each book is left as it is, moved, or dropped, one of these. -/
namespace Go.Proofs.YtecibbokbonmcaeGreat

/-- a book that was moved: the same request, from the clock on -/
def MovedTo (c : Int) (X Y : Bk) : Prop := Y.id = X.id ∧ Y.rq = X.rq ∧ ∀ i, i < Y.bs.length → c ≤ rN Y.bs i
structure StlFacts (c n : Int) (l : QL) (b1 aw : BL) (j : Nat) (b : BL) (mv dr : List Int) : Prop where
  sound : Sound c n l b
  le : j ≤ aw.length
  told : (mv ++ dr).Perm ((aw.take j).map Bk.id)
  ids : (b.map Bk.id).Perm (b1.map Bk.id ++ mv)
  each : ∀ y ∈ b, y ∈ b1 ∨ y.id ∈ mv ∧ ∃ X ∈ aw, MovedTo c X y
theorem Stl.facts {c n : Int} {l : QL} {b1 aw : BL} (h1 : Sound c n l b1) (hC : ∀ x ∈ aw, chkB l x = 0) (hI : ∀ x ∈ aw, 0 ≤ x.id ∧ x.id < n) (hN : (b1.map Bk.id ++ aw.map Bk.id).Nodup) (h12 : b1.length + aw.length ≤ 12) {j : Nat} {b : BL} {mv dr : List Int} (h : Stl c l b1 aw j b mv dr) : StlFacts c n l b1 aw j b mv dr := by
  induction h with
  | start => exact ⟨h1, Nat.zero_le _, by simp, by simp, fun y hy => Or.inl hy⟩
  | @moved j b mv dr fa fm fc hs hj hr ih =>
    have hX := bk_mem hj
    have hfew := hs.few
    have hold : ∀ y ∈ b, y.id ≠ (bk aw j).id := by
      intro y hy e
      have h2 := ih.ids.subset (List.mem_map_of_mem hy)
      rw [List.nodup_append] at hN
      rcases List.mem_append.1 h2 with h2 | h2
      · exact hN.2.2 _ h2 _ (List.mem_map_of_mem hX) e
      · have h3 := ih.told.subset (List.mem_append_left dr h2)
        rw [List.map_take, List.mem_take_iff_getElem] at h3
        obtain ⟨i, hi, h3⟩ := h3
        have h4 := List.pairwise_iff_getElem.1 hN.2.1 i j (by simp at hi ⊢; omega) (by simpa using hj) (by omega)
        apply h4
        rw [h3, e, bk_is hj, List.getElem_map]
    obtain ⟨s1, s2⟩ := put_sound (fa := fa) (fm := fm) (fc := fc) ih.sound (hC _ hX) (hI _ hX) hold (by omega) hr
    refine ⟨s1, hj, ?_, ?_, fun y hy => ?_⟩
    · rw [List.take_succ_eq_append_getElem hj, List.map_append, List.append_assoc]
      refine (List.Perm.append_left mv List.perm_append_comm).trans ?_
      rw [← List.append_assoc]
      refine (ih.told.append_right _).trans ?_
      rw [bk_is hj]
      exact List.Perm.refl _
    · refine ((putB_perm _ _).map Bk.id).trans ?_
      rw [List.map_cons, ← List.append_assoc]
      refine (List.Perm.cons _ ih.ids).trans ?_
      exact (List.perm_append_singleton _ _).symm
    · rcases putB_mem hy with e | hy
      · refine Or.inr ⟨?_, bk aw j, hX, ?_⟩
        · rw [e]; simp
        · rw [e]; exact ⟨rfl, rfl, s2⟩
      · rcases ih.each y hy with e | ⟨e1, e2⟩
        · exact Or.inl e
        · exact Or.inr ⟨List.mem_append_left _ e1, e2⟩
  | @dropped j b mv dr hs hj hr ih =>
    refine ⟨ih.sound, hj, ?_, ih.ids, ih.each⟩
    rw [List.take_succ_eq_append_getElem hj, List.map_append, ← List.append_assoc]
    refine (ih.told.append_right _).trans ?_
    rw [bk_is hj]
    exact List.Perm.refl _
theorem same_id {b : BL} (h : (b.map Bk.id).Nodup) {x y : Bk} (hx : x ∈ b) (hy : y ∈ b) (e : x.id = y.id) : x = y := by
  obtain ⟨i, hi, rfl⟩ := List.getElem_of_mem hx
  obtain ⟨j, hj, rfl⟩ := List.getElem_of_mem hy
  have hP := List.pairwise_iff_getElem.1 h
  by_cases e1 : i = j
  · subst e1; rfl
  · exfalso
    rcases Nat.lt_or_gt_of_ne e1 with g | g
    · have := hP i j (by simpa using hi) (by simpa using hj) g
      simp only [List.getElem_map] at this
      exact this e
    · have := hP j i (by simpa using hj) (by simpa using hi) g
      simp only [List.getElem_map] at this
      exact this e.symm
/-- I3: what comes of a cut -/
structure CutFacts (c n : Int) (l : QL) (b0 b : BL) (mv dr : List Int) : Prop where
  sound : Sound c n l b
  len : b.length + dr.length = b0.length
  few : mv.length ≤ 12 ∧ dr.length ≤ 12
  each : ∀ X ∈ b0, (mv.count X.id = 0 ∧ dr.count X.id = 0 ∧ X ∈ b) ∨ (mv.count X.id = 1 ∧ dr.count X.id = 0 ∧ ∃ Y ∈ b, MovedTo c X Y) ∨ (mv.count X.id = 0 ∧ dr.count X.id = 1 ∧ ∀ Y ∈ b, Y.id ≠ X.id)
theorem cut_facts {c n : Int} {l : QL} {b0 b1 aw b : BL} {mv dr : List Int} (hc : Clean l b0) (c0 : 0 ≤ c) (c1 : c ≤ 48) (n0 : 0 ≤ n) (n1 : n ≤ 1048576) (hu : Up b0) (hi : ∀ x ∈ b0, 0 ≤ x.id ∧ x.id < n) (ha : ∀ x ∈ b0, c < overV x) (h : Lit c l b0 b1 aw) (hno : ∀ u, c ≤ u → u < 48 → ∀ q, q < l.length → overI l b1 u q = false) (hs : Stl c l b1 aw aw.length b mv dr) : CutFacts c n l b0 b mv dr := by
  obtain ⟨p1, p2⟩ := h.all hc c0 hu
  obtain ⟨k1, k2, k3, k4⟩ := h.clean hc c0
  have hN : (b1.map Bk.id ++ aw.map Bk.id).Nodup := by
    rw [← List.map_append]
    exact (p1.map Bk.id).nodup_iff.2 hu.nodup
  have hfew := hc.few
  have F := hs.facts (n := n) (h.sound hc c0 c1 n0 n1 hu hi ha hno) (fun x hx => by
    obtain ⟨j, hj, e⟩ := mem_bk (k3 x hx)
    rw [← e]; exact hc.each j hj) (fun x hx => hi x (k3 x hx)) hN (by omega)
  have ht := F.told
  rw [List.take_length] at ht
  have hlen : mv.length + dr.length = aw.length := by
    have := ht.length_eq
    simpa using this
  have hlb : b.length = b1.length + mv.length := by
    have := F.ids.length_eq
    simpa using this
  have hN2 := List.nodup_append.1 hN
  have hmd : (mv ++ dr).Nodup := ht.nodup_iff.2 hN2.2.1
  have hmd2 := List.nodup_append.1 hmd
  have hin : ∀ X ∈ b0, X ∈ b1 ∨ X ∈ aw := fun X hX => List.mem_append.1 (p1.symm.subset hX)
  have hcount : ∀ {s : List Int} {a : Int}, s.Nodup → a ∈ s → s.count a = 1 := fun hs ha => by
    have h1 := List.nodup_iff_count.1 hs
    have h2 := List.count_pos_iff.2 ha
    exact Nat.le_antisymm (h1 _) h2
  refine ⟨F.sound, by omega, by omega, fun X hX => ?_⟩
  rcases hin X hX with hb | hw
  · have hno : X.id ∉ mv ++ dr := fun e => by
      exact hN2.2.2 _ (List.mem_map_of_mem hb) _ (ht.subset e) rfl
    rw [List.mem_append, not_or] at hno
    refine Or.inl ⟨List.count_eq_zero.2 hno.1, List.count_eq_zero.2 hno.2, ?_⟩
    have h1 := F.ids.symm.subset (List.mem_append_left mv (List.mem_map_of_mem (f := Bk.id) hb))
    obtain ⟨y, hy, e⟩ := List.mem_map.1 h1
    rcases F.each y hy with g | ⟨g, _⟩
    · rw [← same_id hN2.1 g hb e]; exact hy
    · rw [e] at g; exact absurd g hno.1
  · have h1 : X.id ∈ mv ++ dr := ht.symm.subset (List.mem_map_of_mem hw)
    have hnb : ∀ y ∈ b1, y.id ≠ X.id := fun y hy e => hN2.2.2 _ (List.mem_map_of_mem hy) _ (List.mem_map_of_mem hw) e
    rcases List.mem_append.1 h1 with hm | hd
    · have hnd : X.id ∉ dr := fun e => hmd2.2.2 _ hm _ e rfl
      refine Or.inr (Or.inl ⟨hcount hmd2.1 hm, List.count_eq_zero.2 hnd, ?_⟩)
      have h2 := F.ids.symm.subset (List.mem_append_right (b1.map Bk.id) hm)
      obtain ⟨y, hy, e⟩ := List.mem_map.1 h2
      rcases F.each y hy with g | ⟨_, Z, hZ, g⟩
      · exact absurd e (hnb y g)
      · have : Z = X := same_id hN2.2.1 hZ hw (g.1.symm.trans e)
        rw [this] at g
        exact ⟨y, hy, g⟩
    · have hnm : X.id ∉ mv := fun e => hmd2.2.2 _ e _ hd rfl
      refine Or.inr (Or.inr ⟨List.count_eq_zero.2 hnm, hcount hmd2.2.1 hd, fun y hy e => ?_⟩)
      have h2 := F.ids.subset (List.mem_map_of_mem (f := Bk.id) hy)
      rw [e] at h2
      rcases List.mem_append.1 h2 with g | g
      · obtain ⟨z, hz, e2⟩ := List.mem_map.1 g
        exact hnb z hz e2
      · exact hnm g
/-- I3: who is moved or dropped was taken away -/
theorem Stl.ids {c : Int} {l : QL} {b1 aw b : BL} {j : Nat} {mv dr : List Int} (h : Stl c l b1 aw j b mv dr) : ∀ i, i ∈ mv ∨ i ∈ dr → ∃ x ∈ aw, x.id = i := by
  induction h with
  | start => intro i hi; rcases hi with hi | hi <;> cases hi
  | moved _ hj _ ih =>
    intro i hi
    rw [List.mem_append, List.mem_singleton] at hi
    rcases hi with (hi | hi) | hi
    · exact ih i (Or.inl hi)
    · exact ⟨_, bk_mem hj, hi.symm⟩
    · exact ih i (Or.inr hi)
  | dropped _ hj _ ih =>
    intro i hi
    rw [List.mem_append, List.mem_singleton] at hi
    rcases hi with hi | hi | hi
    · exact ih i (Or.inl hi)
    · exact ih i (Or.inr hi)
    · exact ⟨_, bk_mem hj, hi.symm⟩
/-- if nobody was taken away nobody is moved or dropped -/
theorem Stl.nil {c : Int} {l : QL} {b1 b : BL} {mv dr : List Int} (h : Stl c l b1 [] 0 b mv dr) : b = b1 ∧ mv = [] ∧ dr = [] := by
  cases h
  exact ⟨rfl, rfl, rfl⟩
end Go.Proofs.YtecibbokbonmcaeGreat

/- cut: a room of whatever size is cloned; a state with no books is lightened and settled; from what the call made to what lies apart from its books. -/
namespace Go.Proofs.YtecibbokbonmcaeGreat
open Go.RowKit

set_option maxRecDepth 100000 in
set_option maxHeartbeats 1000000 in
theorem CloneRuns_big (w : World) (a : Option Addr) (n c : Nat) (news : List Value) (hl : news.length = n * 2) (hn : n ≤ 1048576) (hc : ∀ ad, a = some ad → ∀ j u, news[j]? = some u → w.cell? (ad.add j) = some u) (h1 : ∀ u ∈ news, u.oneCell' = true) (h0 : a = none → n = 0) :
    Calls Tryz.prog 35 #[.slice a n c] w fun e w' => ∃ v', e = .returned v' ∧ w'.ownsRow w.heap.size 71 2 v' n news ∧ Below w.heap.size w w' := by
  have qe : ∀ (w : World) (a : Option Addr) (n c n' c' : Nat), (binOp .eql 26 (.slice a n c) (.slice none n' c')).run Tryz.prog w = .ok (.bool a.isNone) w := fun w a n c n' c' => Lib.run_eql_slice_nil w _ _ a n c n' c' Tryz.underlying26
  obtain ⟨i0, hi, e⟩ := Option.map_eq_some_iff.1 (show (Tryz.prog.info? 71).map (fun i => (i.zero, i.size, i.bytes)) = some (some (.agg #[.int .i64 0, .int .i64 0]), 2, 16) from by kernel_rfl)
  simp only [Prod.mk.injEq] at e
  obtain ⟨e1, e2, e3⟩ := e
  cases a with
  | none =>
    obtain rfl := h0 rfl
    have hnil : news = [] := List.length_eq_zero_iff.1 (by omega)
    subst hnil
    go_enter Tryz.func35, Tryz.ntmps35
    go_wp2
    go_ret
    exact ⟨_, rfl, World.ownsRow_nil _ _ _ _, Below.refl _ _⟩
  | some ad =>
    have HC := hid (hc ad rfl)
    clear hc h0
    go_enter Tryz.func35, Tryz.ntmps35
    go_wp2_with (at_builtin; refine wpList_append_own _ rfl _ _ 26 rfl w.heap.size 71 i0 _ 2 16 Tryz.underlying26 hi e1 e2 e3 (by rfl) (by omega) _ _ _ rfl (World.ownsRow_made w #[] 0 (Nat.le_refl _) (Nat.zero_le _) (by simp)) ad n c news rfl ?qc1 ?qc2 ?qc3 ?qc4 ?qc5 ?qc6 ?_)
    case qc1 => exact hl
    case qc2 =>
      intro j u hj
      exact cell_later ((Below.refl _ _).alloc (Nat.le_refl _) _) (HC.out j u hj)
    case qc3 => exact h1
    case qc4 => simp only [maxLen]; omega
    case qc5 => omega
    case qc6 => simp
    intro v' w1 hown hgrow hnil
    go_wp2
    go_ret
    refine ⟨v', rfl, by simpa using hown, ?_⟩
    exact ((Below.refl _ w).alloc (Nat.le_refl _) _).grown hgrow (by simp) (by intro k hk; simp [Value.ownBlock] at hk; omega)
theorem own_pairs_big {w : World} {B : Nat} {v : Value} {l : RunL} (h : w.ownsRow B 71 2 v l.length (cellsOf l)) (hm : l.length ≤ 1048576) : ∃ a cap, v = .slice a l.length cap ∧ RunsP w a l.length cap l ∧ ∀ b off, a = some ⟨b, off, none⟩ → B ≤ b ∧ off = 0 := by
  rcases h.2 with ⟨rfl, hn⟩ | ⟨g, cap, cur, rfl, hB, hg, hle, hmx, hs, ht⟩
  · refine ⟨none, 0, by rw [hn], ⟨⟨rfl, by omega, by omega, by omega, fun hp => by omega⟩, fun b off e => by cases e⟩, fun b off e => by cases e⟩
  · refine ⟨some ⟨g, 0, none⟩, cap, rfl, ⟨⟨rfl, hle, by omega, by simpa [maxLen] using hmx, fun hp => ⟨g, 0, rfl, fun i hi => ?_⟩⟩, fun b off e _ => by
      injection e with e
      injection e with e1 e2
      subst e1
      exact ⟨_, _, _, hg, by decide, by decide, by decide⟩⟩, fun b off e => by
      injection e with e
      injection e with e1 e2
      exact ⟨by omega, e2.symm⟩⟩
    have key : ∀ k u, (cellsOf l)[k]? = some u → w.cell? ⟨g, k, none⟩ = some u := by
      intro k u hu
      rw [← ht, List.getElem?_take] at hu
      split at hu
      · rw [cell_of_row w g k cur _ (0, 0) hg]
        simpa using hu
      · cases hu
    exact ⟨by rw [Nat.zero_add]; exact key _ _ (cellsOf_even l i hi), by rw [Nat.zero_add]; exact key _ _ (cellsOf_odd l i hi)⟩
theorem CloneRuns_upto (w : World) (a : Option Addr) (n cap : Nat) (l : RunL) (h : RunsIn w a n cap l) (hn : n ≤ 1048576) :
    Calls Tryz.prog 35 #[.slice a n cap] w fun e w' => ∃ a' c', e = .returned (.slice a' n c') ∧ RunsP w' a' n c' l ∧ Below w.heap.size w w' ∧ ∀ b off, a' = some ⟨b, off, none⟩ → w.heap.size ≤ b := by
  refine (CloneRuns_big w a n cap (cellsOf l) (by rw [cellsOf_length, h.len]) hn ?_ (cellsOf_one l) ?_).mono ?_
  · rintro ad rfl j u hu
    exact h.list j u hu
  · rintro rfl
    by_cases e : 0 < n
    · obtain ⟨b, off, e, _⟩ := h.cells e
      cases e
    · omega
  · rintro e w' ⟨v', rfl, hO, hb⟩
    obtain ⟨a', c', rfl, h1, h2⟩ := own_pairs_big (l := l) (h.len ▸ hO) (by have := h.len; omega)
    exact ⟨a', c', by rw [h.len], by rw [h.len]; exact h1, hb, fun b off e => (h2 b off e).1⟩

theorem cell_off {g : Nat} {w : World} {p : Addr} {v : Value} (h : w.cell? p = some v) (hne : p.block ≠ g) : (Off g w).cell? p = some v :=
  (World.cell?_of_block (w := w) (w' := Off g w) (World.putObj_heap_other hne)).trans h
theorem RunsIn.off {g : Nat} {w : World} {a : Option Addr} {n cap : Nat} {l : RunL} (h : RunsIn w a n cap l) (hne : 0 < n → ∀ b off, a = some ⟨b, off, none⟩ → b ≠ g) : RunsIn (Off g w) a n cap l := by
  refine ⟨h.len, h.le, h.bound, h.capb, fun hp => ?_⟩
  obtain ⟨b, off, ha, hc⟩ := h.cells hp
  exact ⟨b, off, ha, fun i hi => ⟨cell_off (hc i hi).1 (hne hp b off ha), cell_off (hc i hi).2 (hne hp b off ha)⟩⟩
theorem QsIn.off {g : Nat} {w : World} {a : Option Addr} {n cap : Nat} {l : QL} (h : QsIn w a n cap l) (hne : 0 < n → ∀ b off, a = some ⟨b, off, none⟩ → b ≠ g) (hc : ∀ i, i < n → 0 < (qu l i).cn → ∀ b off, (qu l i).ca = some ⟨b, off, none⟩ → b ≠ g) : QsIn (Off g w) a n cap l := by
  refine ⟨h.len, h.le, h.capb, fun hp => ?_, fun i hi => (h.caps i hi).off (hc i hi), h.names⟩
  obtain ⟨b, off, ha, hk⟩ := h.cells hp
  exact ⟨b, off, ha, fun i hi => ⟨cell_off (hk i hi).1 (hne hp b off ha), cell_off (hk i hi).2.1 (hne hp b off ha), cell_off (hk i hi).2.2 (hne hp b off ha)⟩⟩

/-- of no books nothing is too much -/
theorem over_nil {l : QL} (h : Clean l []) {q : Nat} (hq : q < l.length) {t : Int} (h0 : 0 ≤ t) (h1 : t < 48) : overI l [] t q = false := by
  cases e : overI l [] t q with
  | false => rfl
  | true => have := over_some h hq h0 h1 e; cases this
set_option maxRecDepth 100000 in
set_option maxHeartbeats 4000000 in
theorem lighten_nil (w : World) (c n : Int) (ta : Option Addr) (tn tc : Nat) (l : QL) (ba : Option Addr) (k0 : Nat) (hc : Clean l []) (h0 : 0 ≤ c) (h1 : c ≤ 48) (hS : StIn w ta tn tc l ba 0 k0 []) :
    Calls Tryz.prog 37 #[.agg #[.int .i64 c, .int .i64 n, .slice ta tn tc, .slice ba 0 k0]] w fun e w' => e = .returned (.tuple #[.agg #[.int .i64 c, .int .i64 n, .slice ta tn tc, .slice ba 0 k0], .slice none 0 0]) ∧ Below w.heap.size w w' := by
  obtain ⟨S, hSz⟩ : ∃ S, w.heap.size = S := ⟨_, rfl⟩
  obtain ⟨W1, hW1⟩ : ∃ W1, W1 = (w.alloc (.cells #[.int .i64 c, .int .i64 n, .slice ta tn tc, .slice ba 0 k0] 25)).alloc (.cells #[.int .i64 0, .int .i64 0, .slice none 0 0, .slice none 0 0] 25) := ⟨_, rfl⟩
  obtain ⟨x1, x2, hb0, hsz⟩ := st_res w _ _ _ _ hW1
  rw [hSz] at x1 x2 hsz
  have KF := hid (first_any W1 c n ta tn tc l ba 0 k0 [] (hS.later hb0) (chkL_clean hc) h0 h1)
  have HW1 := hid hW1
  have X1 := hid x1
  have X2 := hid x2
  have HB0 := hid hb0
  have HC := hid hc
  have HTL := hid hS.1.len
  obtain ⟨c0, c1, c2, c3⟩ := x1.cells
  have d0 := c0
  have d1 := c1
  have d2 := c2
  have d3 := c3
  rw [hW1] at d0 d1 d2 d3
  clear x1 x2 hb0 hsz hW1 hS hc c0 c1 c2 c3
  go_enter Tryz.func37, Tryz.ntmps37
  go_wp2
  go_loopw [4] (fun (p : Value) wr => p = .slice none 0 0 ∧ wr = W1) (fun _ _ => 0)
  case atStart => exact ⟨rfl, HW1.out.symm⟩
  case round =>
    obtain ⟨rfl, rfl⟩ := hrel
    obtain ⟨c0, c1, c2, c3⟩ := X1.out.cells
    go_wp2_with fail
    refine KF.out.mono ?_
    rintro e w1 ⟨t, q, f, rfl, hans, hb⟩
    cases f with
    | true =>
      exfalso
      rcases hans with ⟨e, _⟩ | ⟨_, t0, t1, kq, hkq, rfl, ho, hf1, hf2⟩
      · cases e
      · rw [over_nil HC.out (by have := HTL.out; omega) (by omega) t1] at ho
        cases ho
    | false =>
      obtain ⟨d0, d1, d2, d3⟩ := (X1.out.later hb).cells
      have HR1 := hid (X2.out.later hb)
      have HB1 := hid (below_from HB0.out hb)
      obtain ⟨y0, y1, y2, y3⟩ := HR1.out.cells
      have yf : ∀ k, w1.frozen? ⟨S + 1, k, none⟩ = false := fun k => frozen_of_row w1 (S + 1) k _ _ HR1.out
      clear hans hb c0 c1 c2 c3
      go_wp2
      have hst := four_stores w1 (S + 1) 25 _ _ _ _ (.int .i64 c) (.int .i64 n) (.slice ta tn tc) (.slice ba 0 k0) HR1.out
      refine bodyPost_ret (v := .tuple #[.agg #[.int .i64 c, .int .i64 n, .slice ta tn tc, .slice ba 0 k0], .slice none 0 0]) (results_row_tmp Tryz.results37 _ _ (S + 1) 25 #[.int .i64 c, .int .i64 n, .slice ta tn tc, .slice ba 0 k0] (0, 0) _ rfl hst.1 Tryz.underlying25 rfl (by kernel_rfl)) rfl ⟨rfl, ?_⟩
      have h4 : w.heap.size ≤ S + 1 := by omega
      exact ((((HB1.out.setCell (p := ⟨S + 1, 0, none⟩) h4 _).setCell (p := ⟨S + 1, 1, none⟩) h4 _).setCell (p := ⟨S + 1, 2, none⟩) h4 _).setCell (p := ⟨S + 1, 3, none⟩) h4 _)
set_option maxRecDepth 100000 in
set_option maxHeartbeats 4000000 in
theorem settle_nil (w : World) (c n : Int) (ta : Option Addr) (tn tc : Nat) (ba : Option Addr) (m0 k0 : Nat) :
    Calls Tryz.prog 38 #[.agg #[.int .i64 c, .int .i64 n, .slice ta tn tc, .slice ba m0 k0], .slice none 0 0] w fun e w' => e = .returned (.tuple #[.agg #[.int .i64 c, .int .i64 n, .slice ta tn tc, .slice ba m0 k0], .slice none 0 0, .slice none 0 0]) ∧ Below w.heap.size w w' := by
  obtain ⟨S, hSz⟩ : ∃ S, w.heap.size = S := ⟨_, rfl⟩
  obtain ⟨W1, hW1⟩ : ∃ W1, W1 = (w.alloc (.cells #[.int .i64 c, .int .i64 n, .slice ta tn tc, .slice ba m0 k0] 25)).alloc (.cells #[.int .i64 0, .int .i64 0, .slice none 0 0, .slice none 0 0] 25) := ⟨_, rfl⟩
  obtain ⟨x1, x2, hb0, hsz⟩ := st_res w _ _ _ _ hW1
  rw [hSz] at x1 x2 hsz
  have HW1 := hid hW1
  have X1 := hid x1
  have X2 := hid x2
  have HB0 := hid hb0
  clear x1 x2 hb0 hsz hW1
  go_enter Tryz.func38, Tryz.ntmps38
  go_wp2
  go_loopw [7, 8, 15] (fun (p q r : Value) wr => p = .slice none 0 0 ∧ q = .slice none 0 0 ∧ r = .int .i64 0 ∧ wr = W1) (fun _ _ _ _ => 0)
  case atStart => exact ⟨rfl, rfl, rfl, HW1.out.symm⟩
  case round =>
    obtain ⟨rfl, rfl, rfl, rfl⟩ := hrel
    obtain ⟨d0, d1, d2, d3⟩ := X1.out.cells
    obtain ⟨y0, y1, y2, y3⟩ := X2.out.cells
    have yf : ∀ k, wr.frozen? ⟨S + 1, k, none⟩ = false := fun k => frozen_of_row wr (S + 1) k _ _ X2.out
    go_wp2
    have hst := four_stores wr (S + 1) 25 _ _ _ _ (.int .i64 c) (.int .i64 n) (.slice ta tn tc) (.slice ba m0 k0) X2.out
    refine bodyPost_ret (v := .tuple #[.agg #[.int .i64 c, .int .i64 n, .slice ta tn tc, .slice ba m0 k0], .slice none 0 0, .slice none 0 0]) (results_row_tmp2 Tryz.results38 _ _ (S + 1) 25 #[.int .i64 c, .int .i64 n, .slice ta tn tc, .slice ba m0 k0] (0, 0) _ rfl hst.1 Tryz.underlying25 rfl (by kernel_rfl)) rfl ⟨rfl, ?_⟩
    have h4 : w.heap.size ≤ S + 1 := by omega
    exact ((((HB0.out.setCell (p := ⟨S + 1, 0, none⟩) h4 _).setCell (p := ⟨S + 1, 1, none⟩) h4 _).setCell (p := ⟨S + 1, 2, none⟩) h4 _).setCell (p := ⟨S + 1, 3, none⟩) h4 _)
end Go.Proofs.YtecibbokbonmcaeGreat

/- cut.Change, ahead of it: what lies apart from some blocks; the queues with the new Cap; what is asked of it. -/
namespace Go.Proofs.YtecibbokbonmcaeGreat
open Go.RowKit

theorem results_row_tmp3 {P : Program} {fn : Func} {p u v x : Tmp} {ty : TypeId} (h : fn.results = #[.cell p ty, .tmp u, .tmp v, .tmp x]) (tmps : Array Value) (w : World) (g : Nat) (t : TypeId) (cs : Array Value) (fr : Nat × Nat) (d : TypeDesc)
    (hp : tmps.getD p undef = .pointer (some ⟨g, 0, none⟩)) (hg : w.heap[g]? = some (.cells cs t fr)) (hu : P.underlying ty = some d) (hd : (match d with | .struct _ | .array _ _ => true | _ => false) = true) (hi : (P.info? ty).map (·.size) = some cs.size) :
    (results fn tmps).run P w = .ok (.tuple #[.agg cs, tmps.getD u undef, tmps.getD v undef, tmps.getD x undef]) w := by
  have hp' : tmps[p]?.getD undef = .pointer (some ⟨g, 0, none⟩) := by simpa using hp
  simp [results, h, hp', asAddr, run_loadVar_row w g t ty cs fr d hg hu hd hi, Result.andThen]

/-- the world, but that these blocks hold nothing that could be read -/
def OffL : List Nat → World → World
  | [], w => w
  | k :: ks, w => Off k (OffL ks w)
theorem offL_size : ∀ (ks : List Nat) (w : World), (OffL ks w).heap.size = w.heap.size
  | [], _ => rfl
  | k :: ks, w => by rw [OffL, off_size, offL_size ks w]
theorem offL_out : ∀ {ks : List Nat} {w : World} {b : Nat}, b ∉ ks → (OffL ks w).heap[b]? = w.heap[b]?
  | [], _, _, _ => rfl
  | k :: ks, w, b, h => by
    rw [List.mem_cons, not_or] at h
    rw [OffL, show (Off k (OffL ks w)).heap[b]? = (OffL ks w).heap[b]? from World.putObj_heap_other h.1, offL_out h.2]
theorem offL_in : ∀ {ks : List Nat} {w : World} {b : Nat}, b ∈ ks → b < w.heap.size → (OffL ks w).heap[b]? = some (.deferred none)
  | k :: ks, w, b, h, hl => by
    by_cases e : b = k
    · subst e
      exact World.putObj_heap_same (by rw [offL_size]; exact hl)
    · rw [OffL, show (Off k (OffL ks w)).heap[b]? = (OffL ks w).heap[b]? from World.putObj_heap_other e]
      exact offL_in ((List.mem_cons.1 h).resolve_left e) hl
theorem off_same (k : Nat) (w : World) : (Off k w).os = w.os ∧ (Off k w).tape = w.tape ∧ (Off k w).output = w.output := ⟨rfl, rfl, rfl⟩
theorem offL_same : ∀ (ks : List Nat) (w : World), (OffL ks w).os = w.os ∧ (OffL ks w).tape = w.tape ∧ (OffL ks w).output = w.output
  | [], _ => ⟨rfl, rfl, rfl⟩
  | k :: ks, w => by
    obtain ⟨a, b, c⟩ := offL_same ks w
    exact ⟨a, b, c⟩
/-- all but these blocks is as it was -/
structure But (ks : List Nat) (w w' : World) : Prop where
  os : w'.os = w.os
  tape : w'.tape = w.tape
  output : w'.output = w.output
  size : w.heap.size ≤ w'.heap.size
  block : ∀ k, k < w.heap.size → k ∉ ks → w'.heap[k]? = w.heap[k]?
theorem But.refl (ks : List Nat) (w : World) : But ks w w := ⟨rfl, rfl, rfl, Nat.le_refl _, fun _ _ _ => rfl⟩
theorem But.trans {ks : List Nat} {a b c : World} (h : But ks a b) (k : But ks b c) : But ks a c :=
  ⟨k.os.trans h.os, k.tape.trans h.tape, k.output.trans h.output, Nat.le_trans h.size k.size, fun i hi hn => (k.block i (Nat.lt_of_lt_of_le hi h.size) hn).trans (h.block i hi hn)⟩
theorem But.grown {ks : List Nat} {w w' : World} {g : Nat} (h : w.grownBy w' (some g)) (hg : g ∈ ks) : But ks w w' :=
  ⟨h.os, h.tape, h.output, h.size, fun k hk hn => h.block k hk (fun e => hn (by rw [Option.some.inj e]; exact hg))⟩
theorem But.below {ks : List Nat} {w w' : World} (h : Below w.heap.size w w') : But ks w w' := ⟨h.os, h.tape, h.output, h.size, fun k hk _ => h.block k hk⟩
theorem But.set {ks : List Nat} {w : World} {p : Addr} (hp : p.block ∈ ks) (v : Value) : But ks w (w.setCell p v) :=
  ⟨rfl, rfl, rfl, by simp [World.setCell], fun k _ hn => Below.heap_setCell _ _ _ k (fun e => hn (by rw [e]; exact hp))⟩
theorem But.far {ks : List Nat} {B : Nat} {w w' : World} (h : But ks w w') (hB : B ≤ w.heap.size) (hk : ∀ k ∈ ks, B ≤ k) : Below B w w' :=
  ⟨h.os, h.tape, h.output, h.size, fun k hlt => h.block k (by omega) (fun e => by have := hk k e; omega)⟩
theorem offL_below {ks : List Nat} {w w' : World} (h : But ks w w') : Below (OffL ks w).heap.size (OffL ks w) (OffL ks w') := by
  obtain ⟨a1, a2, a3⟩ := offL_same ks w
  obtain ⟨b1, b2, b3⟩ := offL_same ks w'
  refine ⟨by rw [a1, b1, h.os], by rw [a2, b2, h.tape], by rw [a3, b3, h.output], by rw [offL_size, offL_size]; exact h.size, fun k hk => ?_⟩
  rw [offL_size] at hk
  by_cases e : k ∈ ks
  · rw [offL_in e hk, offL_in e (Nat.lt_of_lt_of_le hk h.size)]
  · rw [offL_out e, offL_out e, h.block k hk e]
theorem RunsIn.offL {w : World} {a : Option Addr} {n cap : Nat} {l : RunL} (h : RunsIn w a n cap l) : ∀ (ks : List Nat), (0 < n → ∀ b off, a = some ⟨b, off, none⟩ → b ∉ ks) → RunsIn (OffL ks w) a n cap l
  | [], _ => h
  | k :: ks, hn => (RunsIn.offL h ks fun hp b off e hb => hn hp b off e (List.mem_cons_of_mem _ hb)).off fun hp b off e e2 => hn hp b off e (by rw [e2]; exact List.mem_cons_self ..)
theorem QsIn.offL {w : World} {a : Option Addr} {n cap : Nat} {l : QL} (h : QsIn w a n cap l) : ∀ (ks : List Nat), (0 < n → ∀ b off, a = some ⟨b, off, none⟩ → b ∉ ks) → (∀ i, i < n → 0 < (qu l i).cn → ∀ b off, (qu l i).ca = some ⟨b, off, none⟩ → b ∉ ks) → QsIn (OffL ks w) a n cap l
  | [], _, _ => h
  | k :: ks, hn, hc => (QsIn.offL h ks (fun hp b off e hb => hn hp b off e (List.mem_cons_of_mem _ hb)) (fun i hi hp b off e hb => hc i hi hp b off e (List.mem_cons_of_mem _ hb))).off (fun hp b off e e2 => hn hp b off e (by rw [e2]; exact List.mem_cons_self ..)) (fun i hi hp b off e e2 => hc i hi hp b off e (by rw [e2]; exact List.mem_cons_self ..))
theorem RunsIn.onL {a : Option Addr} {n cap : Nat} {l : RunL} : ∀ {ks : List Nat} {w : World}, RunsIn (OffL ks w) a n cap l → RunsIn w a n cap l
  | [], _, h => h
  | _ :: _, _, h => RunsIn.onL (RunsIn.on h)
theorem QsIn.onL {a : Option Addr} {n cap : Nat} {l : QL} : ∀ {ks : List Nat} {w : World}, QsIn (OffL ks w) a n cap l → QsIn w a n cap l
  | [], _, h => h
  | _ :: _, _, h => QsIn.onL (QsIn.on h)
theorem Inner.onL {x : Bk} {ks : List Nat} {w : World} (h : Inner (OffL ks w) x) : Inner w x := ⟨RunsIn.onL h.1, RunsIn.onL h.2⟩
/-- the last one told is away still -/
theorem offL_last : ∀ (ks : List Nat) (g : Nat) (w : World), OffL (ks ++ [g]) w = OffL ks (Off g w)
  | [], _, _ => rfl
  | k :: ks, g, w => by rw [List.cons_append, OffL, offL_last ks g w, OffL]
/-- numbers stay where a slice is written over -/
theorem RunsIn.set_slice {w : World} {a : Option Addr} {n cap : Nat} {l : RunL} (h : RunsIn w a n cap l) {p : Addr} {x : Option Addr} {m k : Nat} (hp : w.cell? p = some (.slice x m k)) (u : Value) : RunsIn (w.setCell p u) a n cap l := by
  refine ⟨h.len, h.le, h.bound, h.capb, fun h0 => ?_⟩
  obtain ⟨b, off, ha, hc⟩ := h.cells h0
  have key : ∀ q v, w.cell? q = some (.int .i64 v) → (w.setCell p u).cell? q = some (.int .i64 v) := fun q v hq => by
    by_cases e : p = q
    · subst e; rw [hp] at hq; cases hq
    · rw [World.cell?_setCell_other (w := w) (v := u) (h := e)]; exact hq
  exact ⟨b, off, ha, fun i hi => ⟨key _ _ (hc i hi).1, key _ _ (hc i hi).2⟩⟩

/-- the queues, one of them with that Cap -/
def capL (l : QL) (q : Nat) (rs : RunL) : QL := l.set q ⟨(qu l q).name, (qu l q).parent, none, 0, 0, rs⟩
/-- I1's errors -/
def chgE (c n : Int) (l : QL) (b : BL) (q : Int) (rs : RunL) : Int := if planE c n l b = 0 then (if 0 ≤ q ∧ q < l.length then chkT (capL l q.toNat rs) else 6) else planE c n l b
theorem bareQ_cap {l l' : QL} (h : bareQ l' = bareQ l) (q : Nat) (a : Option Addr) (m k : Nat) (rs : RunL) : bareQ (l'.set q ⟨(qu l' q).name, (qu l' q).parent, a, m, k, rs⟩) = bareQ (capL l q rs) := by
  have hq : (qu l' q).bare = (qu l q).bare := by rw [← qu_bare, h, qu_bare]
  have h1 : (qu l' q).name = (qu l q).name := (show (qu l' q).bare.name = (qu l q).bare.name by rw [hq])
  have h2 : (qu l' q).parent = (qu l q).parent := (show (qu l' q).bare.parent = (qu l q).bare.parent by rw [hq])
  unfold capL bareQ at *
  rw [List.map_set, List.map_set, h, h1, h2]
  rfl
theorem capL_len (l : QL) (q : Nat) (rs : RunL) : (capL l q rs).length = l.length := List.length_set
/-- books that were right are right, whatever Caps there are -/
theorem clean_cap {l l' : QL} {b : BL} (h : Clean l b) (ht : chkT l' = 0) (hl : l'.length = l.length) : Clean l' b := by
  refine ⟨ht, h.few, fun i hi => ?_⟩
  have h1 := h.each i hi
  unfold chkB chkQR at h1 ⊢
  rw [if_pos h.tree] at h1
  rw [if_pos ht, hl]
  exact h1
theorem clean_same {l : QL} {b b' : BL} (h : Clean l b) (hb : bareB b' = bareB b) : Clean l b' := by
  have hl : b'.length = b.length := bare_len hb
  refine ⟨h.tree, by rw [hl]; exact h.few, fun i hi => ?_⟩
  rw [← chkB_bare, bare_at hb, chkB_bare]
  exact h.each i (by omega)
/-- Change has answered -/
def ChAns (w w' : World) (e : Ending) (c n : Int) (tn : Nat) (l : QL) (b : BL) (q : Nat) (rs : RunL) : Prop :=
  ∃ (g k1 : Nat) (l9 : QL) (aa : Option Addr) (k9 : Nat) (b9 b0 b1 aw : BL) (mv dr : List Int) (ma : Option Addr) (mk : Nat) (da : Option Addr) (dk : Nat),
    e = .returned (.tuple #[.agg #[.int .i64 c, .int .i64 n, .slice (some ⟨g, 0, none⟩) tn k1, .slice aa (List.length b9) k9], .slice ma (List.length mv) mk, .slice da (List.length dr) dk, .int .i64 0]) ∧ StIn w' (some ⟨g, 0, none⟩) tn k1 l9 aa b9.length k9 b9 ∧ bareQ l9 = bareQ (capL l q rs) ∧ bareB b0 = bareB b ∧ Lit c l9 b0 b1 aw ∧ (∀ u, c ≤ u → u < 48 → ∀ k, k < l9.length → overI l9 b1 u k = false) ∧ Stl c l9 b1 aw aw.length b9 mv dr ∧ OwnInts w' w.heap.size (.slice ma mv.length mk) mv ∧ OwnInts w' w.heap.size (.slice da dr.length dk) dr ∧ Below w.heap.size w w'
end Go.Proofs.YtecibbokbonmcaeGreat

/- cut.Change. -/
namespace Go.Proofs.YtecibbokbonmcaeGreat
open Go.RowKit

theorem ownsRow_base {w : World} {B B' n z : Nat} {e : TypeId} {v : Value} {xs : List Value} (h : w.ownsRow B e z v n xs) (hB : B' ≤ B) : w.ownsRow B' e z v n xs := by
  refine ⟨h.1, ?_⟩
  rcases h.2 with hz | ⟨g, cap, cur, rfl, h1, rest⟩
  · exact .inl hz
  · exact .inr ⟨g, cap, cur, rfl, by omega, rest⟩
def set4 (w : World) (B : Nat) (a b c d : Value) : World := (((w.setCell ⟨B, 0, none⟩ a).setCell ⟨B, 1, none⟩ b).setCell ⟨B, 2, none⟩ c).setCell ⟨B, 3, none⟩ d
theorem set4_box {w : World} {B : Nat} {x0 x1 x2 x3 : Value} (h : StBox w B x0 x1 x2 x3) (a b c d : Value) : StBox (set4 w B a b c d) B a b c d := (four_stores w B 25 _ _ _ _ a b c d h).1
theorem set4_size (w : World) (B : Nat) (a b c d : Value) : (set4 w B a b c d).heap.size = w.heap.size := by simp [set4, World.setCell]
theorem set4_grown {w : World} {B : Nat} {x0 x1 x2 x3 : Value} (h : StBox w B x0 x1 x2 x3) (a b c d : Value) : w.grownBy (set4 w B a b c d) (some B) :=
  ⟨rfl, rfl, rfl, by rw [set4_size]; exact Nat.le_refl _, fun k _ hne => (four_stores w B 25 _ _ _ _ a b c d h).2 k (fun e => hne (by rw [e]))⟩
/-- the state is the call's own, and one queue has the new Cap -/
structure YInv (w wy : World) (S B1 B : Nat) (c n : Int) (g k1 tn : Nat) (l3 : QL) (aa : Option Addr) (bn k3 : Nat) (b' : BL) : Prop where
  box : StBox wy B (.int .i64 c) (.int .i64 n) (.slice (some ⟨g, 0, none⟩) tn k1) (.slice aa bn k3)
  res : StBox wy (S + 1) (.int .i64 0) (.int .i64 0) (.slice none 0 0) (.slice none 0 0)
  qs : QsIn wy (some ⟨g, 0, none⟩) tn k1 l3
  qrow : B1 ≤ g ∧ g ≠ B ∧ ∀ gb, aa = some ⟨gb, 0, none⟩ → g ≠ gb
  caps : ∀ i, i < tn → 0 < (qu l3 i).cn → ∀ k off, (qu l3 i).ca = some ⟨k, off, none⟩ → B1 ≤ k ∧ k ≠ B ∧ ∀ gb, aa = some ⟨gb, 0, none⟩ → k ≠ gb
  row : wy.ownsRow B1 43 7 (.slice aa bn k3) bn (bkCells b')
  inner : ∀ x ∈ b', Inner wy x
  ps : ∀ x ∈ b', 0 < x.rq.pn → ∀ k off, x.rq.pa = some ⟨k, off, none⟩ → B1 ≤ k ∧ k ≠ B ∧ ∀ gb, aa = some ⟨gb, 0, none⟩ → k ≠ gb
  bs : ∀ x ∈ b', 0 < x.bn → ∀ k off, x.ba = some ⟨k, off, none⟩ → B1 ≤ k ∧ k ≠ B ∧ ∀ gb, aa = some ⟨gb, 0, none⟩ → k ≠ gb
  below : Below w.heap.size w wy
  sz : w.heap.size = S
  b1 : S + 2 ≤ B1 ∧ B1 ≤ B
  bsz : B < wy.heap.size
  bl : bn = b'.length
/-- what lies apart from the boxes and the books -/
theorem YInv.off {w wy : World} {S B1 B : Nat} {c n : Int} {g k1 tn : Nat} {l3 : QL} {gb bn k3 : Nat} {b' : BL} (h : YInv w wy S B1 B c n g k1 tn l3 (some ⟨gb, 0, none⟩) bn k3 b') :
    QsIn (OffL [S + 1, B, gb] wy) (some ⟨g, 0, none⟩) tn k1 l3 ∧ ∀ x ∈ b', Inner (OffL [S + 1, B, gb] wy) x := by
  have hb1 := h.b1
  have key : ∀ k, (B1 ≤ k ∧ k ≠ B ∧ ∀ gb', some (⟨gb, 0, none⟩ : Addr) = some ⟨gb', 0, none⟩ → k ≠ gb') → k ∉ [S + 1, B, gb] := by
    intro k hk hm
    have h1 := hk.2.2 gb rfl
    simp only [List.mem_cons, List.not_mem_nil, or_false] at hm
    rcases hm with e | e | e
    · omega
    · exact hk.2.1 e
    · exact h1 e
  refine ⟨h.qs.offL _ (fun _ k off e => ?_) (fun i hi hp k off e => key k (h.caps i hi hp k off e)), fun x hx => ⟨RunsIn.offL (h.inner x hx).1 _ fun hp k off e => key k (h.ps x hx hp k off e), RunsIn.offL (h.inner x hx).2 _ fun hp k off e => key k (h.bs x hx hp k off e)⟩⟩
  have e1 : g = k := by
    injection e with e
    injection e with e1 e2
  rw [← e1]
  exact key g h.qrow
/-- it ends: the state is answered -/
theorem YInv.done {w wy w6 : World} {S B1 B : Nat} {c n : Int} {g k1 tn : Nat} {l3 l : QL} {gb bn k3 : Nat} {b' b : BL} {q : Nat} {rs : RunL} (h : YInv w wy S B1 B c n g k1 tn l3 (some ⟨gb, 0, none⟩) bn k3 b')
    {b1 aw b9 : BL} {mv dr : List Int} {gx kx : Nat} {ma : Option Addr} {mk : Nat} {da : Option Addr} {dk : Nat} {x3 : Value} (hbut : But [S + 1, B, gb] wy w6) (hbox : StBox w6 B (.int .i64 c) (.int .i64 n) (.slice (some ⟨g, 0, none⟩) tn k1) x3) (hres : StBox w6 (S + 1) (.int .i64 0) (.int .i64 0) (.slice none 0 0) (.slice none 0 0))
    (hl : bareQ l3 = bareQ (capL l q rs)) (hb : bareB b' = bareB b) (hlit : Lit c l3 b' b1 aw) (hs1 : ∀ x ∈ b1, x ∈ b') (hs2 : ∀ x ∈ aw, x ∈ b') (hno : ∀ u, c ≤ u → u < 48 → ∀ k, k < l3.length → overI l3 b1 u k = false) (hstl : Stl c l3 b1 aw aw.length b9 mv dr) (hrow : w6.ownsRow B1 43 7 (.slice (some ⟨gx, 0, none⟩) b9.length kx) b9.length (bkCells b9)) (hin : ∀ x ∈ b9, InnerS b1 aw w6 x)
    (hm : OwnInts w6 w.heap.size (.slice ma mv.length mk) mv) (hd : OwnInts w6 w.heap.size (.slice da dr.length dk) dr) (hgb : w.heap.size ≤ gb) :
    ChAns w (set4 (set4 w6 B (.int .i64 c) (.int .i64 n) (.slice (some ⟨g, 0, none⟩) tn k1) (.slice (some ⟨gx, 0, none⟩) b9.length kx)) (S + 1) (.int .i64 c) (.int .i64 n) (.slice (some ⟨g, 0, none⟩) tn k1) (.slice (some ⟨gx, 0, none⟩) b9.length kx)) (.returned (.tuple #[.agg #[.int .i64 c, .int .i64 n, .slice (some ⟨g, 0, none⟩) tn k1, .slice (some ⟨gx, 0, none⟩) b9.length kx], .slice ma mv.length mk, .slice da dr.length dk, .int .i64 0])) c n tn l b q rs := by
  obtain ⟨hQ, hI⟩ := h.off
  have hb1 := h.b1
  have hsz := h.sz
  obtain ⟨w7, hw7⟩ : ∃ w7, w7 = set4 w6 B (.int .i64 c) (.int .i64 n) (.slice (some ⟨g, 0, none⟩) tn k1) (.slice (some ⟨gx, 0, none⟩) b9.length kx) := ⟨_, rfl⟩
  rw [← hw7]
  have g7 : w6.grownBy w7 (some B) := by rw [hw7]; exact set4_grown hbox _ _ _ _
  have hres7 : StBox w7 (S + 1) (.int .i64 0) (.int .i64 0) (.slice none 0 0) (.slice none 0 0) := (g7.block (S + 1) (Array.getElem?_eq_some_iff.1 hres).1 (fun e => by have := Option.some.inj e; omega)).trans hres
  obtain ⟨w8, hw8⟩ : ∃ w8, w8 = set4 w7 (S + 1) (.int .i64 c) (.int .i64 n) (.slice (some ⟨g, 0, none⟩) tn k1) (.slice (some ⟨gx, 0, none⟩) b9.length kx) := ⟨_, rfl⟩
  rw [← hw8]
  have g8 : w7.grownBy w8 (some (S + 1)) := by rw [hw8]; exact set4_grown hres7 _ _ _ _
  have hall : But [S + 1, B, gb] wy w8 := hbut.trans ((But.grown g7 (by simp)).trans (But.grown g8 (by simp)))
  have s7 : Stay w6 w7 := Stay.grown g7 (fun k e => by cases e; exact not_pb hbox (Or.inr (Or.inl rfl)))
  have s8 : Stay w7 w8 := Stay.grown g8 (fun k e => by cases e; exact not_pb hres7 (Or.inr (Or.inl rfl)))
  have r7 := hrow.kept g7 (Or.inr fun e => hbox.not_row hrow e.symm)
  have r8 := r7.kept g8 (Or.inr fun e => hres7.not_row r7 e.symm)
  have m7 := hm.keep g7 (Or.inr fun e => int_not_row hbox hm (by decide) e.symm)
  have d7 := hd.keep g7 (Or.inr fun e => int_not_row hbox hd (by decide) e.symm)
  have m8 := m7.keep g8 (Or.inr fun e => int_not_row hres7 m7 (by decide) e.symm)
  have d8 := d7.keep g8 (Or.inr fun e => int_not_row hres7 d7 (by decide) e.symm)
  refine ⟨g, k1, l3, some ⟨gx, 0, none⟩, kx, b9, b', b1, aw, mv, dr, ma, mk, da, dk, rfl, ⟨(hQ.later (offL_below hall)).onL, books_in rfl r8 fun x hx => ?_⟩, hl, hb, hlit, hno, hstl, m8, d8, h.below.trans (hall.far (by have := h.bsz; omega) fun k hk => ?_)⟩
  · rcases hin x hx with hx1 | ⟨⟨X, hX, e⟩, hp⟩
    · exact ((hI x (hs1 x hx1)).later (offL_below hall)).onL
    · refine ⟨?_, ((hp.stay s7).stay s8).1⟩
      rw [e]
      exact (((hI X (hs2 X hX)).later (offL_below hall)).onL).1
  · simp only [List.mem_cons, List.not_mem_nil, or_false] at hk
    rcases hk with e | e | e <;> omega
theorem YInv.later {w wy wz : World} {S B1 B : Nat} {c n : Int} {g k1 tn : Nat} {l3 : QL} {aa : Option Addr} {bn k3 : Nat} {b' : BL} (h : YInv w wy S B1 B c n g k1 tn l3 aa bn k3 b') (hb : Below wy.heap.size wy wz) : YInv w wz S B1 B c n g k1 tn l3 aa bn k3 b' :=
  ⟨h.box.later hb, h.res.later hb, h.qs.later hb, h.qrow, h.caps, ownsRow_below h.row hb, fun x hx => (h.inner x hx).later hb, h.ps, h.bs, below_from h.below hb, h.sz, h.b1, Nat.lt_of_lt_of_le h.bsz hb.size, h.bl⟩
theorem none_in (w : World) : BksIn w none 0 0 [] := ⟨rfl, Nat.le_refl _, by omega, fun h => by omega, fun i h => by omega, fun i h => by omega⟩
/-- it ends: there are no books -/
theorem YInv.done0 {w wy w6 : World} {S B1 B : Nat} {c n : Int} {g k1 tn : Nat} {l3 l : QL} {b : BL} {q : Nat} {rs : RunL} (h : YInv w wy S B1 B c n g k1 tn l3 none 0 0 [])
    (hbut : But [S + 1, B] wy w6) (hbox : StBox w6 B (.int .i64 c) (.int .i64 n) (.slice (some ⟨g, 0, none⟩) tn k1) (.slice none 0 0)) (hres : StBox w6 (S + 1) (.int .i64 0) (.int .i64 0) (.slice none 0 0) (.slice none 0 0))
    (hl : bareQ l3 = bareQ (capL l q rs)) (hb : bareB [] = bareB b) (hno : ∀ u, c ≤ u → u < 48 → ∀ k, k < l3.length → overI l3 [] u k = false) :
    ChAns w (set4 (set4 w6 B (.int .i64 c) (.int .i64 n) (.slice (some ⟨g, 0, none⟩) tn k1) (.slice none 0 0)) (S + 1) (.int .i64 c) (.int .i64 n) (.slice (some ⟨g, 0, none⟩) tn k1) (.slice none 0 0)) (.returned (.tuple #[.agg #[.int .i64 c, .int .i64 n, .slice (some ⟨g, 0, none⟩) tn k1, .slice none 0 0], .slice none 0 0, .slice none 0 0, .int .i64 0])) c n tn l b q rs := by
  have hb1 := h.b1
  have hsz := h.sz
  have key : ∀ k, (B1 ≤ k ∧ k ≠ B ∧ ∀ gb', (none : Option Addr) = some ⟨gb', 0, none⟩ → k ≠ gb') → k ∉ [S + 1, B] := by
    intro k hk hm
    simp only [List.mem_cons, List.not_mem_nil, or_false] at hm
    rcases hm with e | e
    · omega
    · exact hk.2.1 e
  have hQ : QsIn (OffL [S + 1, B] wy) (some ⟨g, 0, none⟩) tn k1 l3 := by
    refine h.qs.offL _ (fun _ k off e => ?_) (fun i hi hp k off e => key k (h.caps i hi hp k off e))
    have e1 : g = k := by
      injection e with e
      injection e with e1 e2
    rw [← e1]
    exact key g h.qrow
  obtain ⟨w7, hw7⟩ : ∃ w7, w7 = set4 w6 B (.int .i64 c) (.int .i64 n) (.slice (some ⟨g, 0, none⟩) tn k1) (.slice none 0 0) := ⟨_, rfl⟩
  rw [← hw7]
  have g7 : w6.grownBy w7 (some B) := by rw [hw7]; exact set4_grown hbox _ _ _ _
  have hres7 : StBox w7 (S + 1) (.int .i64 0) (.int .i64 0) (.slice none 0 0) (.slice none 0 0) := (g7.block (S + 1) (Array.getElem?_eq_some_iff.1 hres).1 (fun e => by have := Option.some.inj e; omega)).trans hres
  obtain ⟨w8, hw8⟩ : ∃ w8, w8 = set4 w7 (S + 1) (.int .i64 c) (.int .i64 n) (.slice (some ⟨g, 0, none⟩) tn k1) (.slice none 0 0) := ⟨_, rfl⟩
  rw [← hw8]
  have g8 : w7.grownBy w8 (some (S + 1)) := by rw [hw8]; exact set4_grown hres7 _ _ _ _
  have hall : But [S + 1, B] wy w8 := hbut.trans ((But.grown g7 (by simp)).trans (But.grown g8 (by simp)))
  refine ⟨g, k1, l3, none, 0, [], [], [], [], [], [], none, 0, none, 0, rfl, ⟨(hQ.later (offL_below hall)).onL, none_in _⟩, hl, hb, Lit.start, hno, Stl.start, World.ownsRow_nil _ _ _ _, World.ownsRow_nil _ _ _ _, h.below.trans (hall.far (by have := h.bsz; omega) fun k hk => ?_)⟩
  simp only [List.mem_cons, List.not_mem_nil, or_false] at hk
  rcases hk with e | e <;> omega
end Go.Proofs.YtecibbokbonmcaeGreat

/- cut.Change: the walk. -/
namespace Go.Proofs.YtecibbokbonmcaeGreat
open Go.RowKit

set_option maxRecDepth 100000 in
set_option maxHeartbeats 2000000 in
theorem Change_wrong (w : World) (c n : Int) (ta : Option Addr) (tn tc : Nat) (l : QL) (ba : Option Addr) (bn bc : Nat) (b : BL) (h : StIn w ta tn tc l ba bn bc b) (q : Int) (ra : Option Addr) (rn rc : Nat) (hE : planE c n l b ≠ 0) :
    Calls Tryz.prog 8 #[.agg #[.int .i64 c, .int .i64 n, .slice ta tn tc, .slice ba bn bc], .int .i64 q, .slice ra rn rc] w fun e w' => e = .returned (.tuple #[.agg #[.int .i64 0, .int .i64 0, .slice none 0 0, .slice none 0 0], .slice none 0 0, .slice none 0 0, .int .i64 (planE c n l b)]) ∧ Below w.heap.size w w' := by
  obtain ⟨S, hS⟩ : ∃ S, w.heap.size = S := ⟨_, rfl⟩
  obtain ⟨W1, hW1⟩ : ∃ W1, W1 = (w.alloc (.cells #[.int .i64 c, .int .i64 n, .slice ta tn tc, .slice ba bn bc] 25)).alloc (.cells #[.int .i64 0, .int .i64 0, .slice none 0 0, .slice none 0 0] 25) := ⟨_, rfl⟩
  obtain ⟨x1, x3, hb0, hsz⟩ := st_res w _ _ _ _ hW1
  rw [hS] at x1 x3 hsz
  have K1 := CheckS_any W1 c n ta tn tc l ba bn bc b (h.later hb0)
  have X3 := hid x3
  have HB0 := hid hb0
  have HW1 := hid hW1
  have HS := hid hS
  obtain ⟨c0, c1, c2, c3⟩ := x1.cells
  obtain ⟨E, hEe⟩ : ∃ E, planE c n l b = E := ⟨_, rfl⟩
  rw [hEe] at K1 hE ⊢
  have hne : (E != 0) = true := by simp [hE]
  have HK1 := hid K1
  clear hW1 x1 x3 hb0 h hsz K1 hEe hE
  go_enter Tryz.func8, Tryz.ntmps8
  go_wp2_with fail
  rw [← HW1.out]
  refine HK1.out.mono ?_
  rintro e w1 ⟨rfl, hb⟩
  have HX := hid (X3.out.later hb)
  have HB1 := hid (below_from HB0.out hb)
  clear hb c0 c1 c2 c3
  obtain ⟨y0, y1, y2, y3⟩ := HX.out.cells
  have yf : ∀ k, w1.frozen? ⟨S + 1, k, none⟩ = false := fun k => frozen_of_row w1 (S + 1) k _ _ HX.out
  go_wp2_with fail
  have hst := four_stores w1 (S + 1) 25 _ _ _ _ (.int .i64 0) (.int .i64 0) (.slice none 0 0) (.slice none 0 0) HX.out
  have h4 : w.heap.size ≤ S + 1 := by have := HS.out; omega
  refine bodyPost_ret (v := .tuple #[.agg #[.int .i64 0, .int .i64 0, .slice none 0 0, .slice none 0 0], .slice none 0 0, .slice none 0 0, .int .i64 E]) (results_row_tmp3 Tryz.results8 _ _ (S + 1) 25 #[.int .i64 0, .int .i64 0, .slice none 0 0, .slice none 0 0] (0, 0) _ rfl hst.1 Tryz.underlying25 rfl (by kernel_rfl)) rfl ⟨rfl, ?_⟩
  exact ((((HB1.out.setCell (p := ⟨S + 1, 0, none⟩) h4 _).setCell (p := ⟨S + 1, 1, none⟩) h4 _).setCell (p := ⟨S + 1, 2, none⟩) h4 _).setCell (p := ⟨S + 1, 3, none⟩) h4 _)
set_option maxRecDepth 100000 in
set_option maxHeartbeats 2000000 in
theorem Change_miss (w : World) (c n : Int) (ta : Option Addr) (tn tc : Nat) (l : QL) (ba : Option Addr) (bn bc : Nat) (b : BL) (h : StIn w ta tn tc l ba bn bc b) (q : Int) (ra : Option Addr) (rn rc : Nat) (hp : planE c n l b = 0) (hq : ¬ (0 ≤ q ∧ q < tn)) :
    Calls Tryz.prog 8 #[.agg #[.int .i64 c, .int .i64 n, .slice ta tn tc, .slice ba bn bc], .int .i64 q, .slice ra rn rc] w fun e w' => e = .returned (.tuple #[.agg #[.int .i64 0, .int .i64 0, .slice none 0 0, .slice none 0 0], .slice none 0 0, .slice none 0 0, .int .i64 6]) ∧ Below w.heap.size w w' := by
  obtain ⟨S, hS⟩ : ∃ S, w.heap.size = S := ⟨_, rfl⟩
  obtain ⟨W1, hW1⟩ : ∃ W1, W1 = (w.alloc (.cells #[.int .i64 c, .int .i64 n, .slice ta tn tc, .slice ba bn bc] 25)).alloc (.cells #[.int .i64 0, .int .i64 0, .slice none 0 0, .slice none 0 0] 25) := ⟨_, rfl⟩
  obtain ⟨x1, x3, hb0, hsz⟩ := st_res w _ _ _ _ hW1
  rw [hS] at x1 x3 hsz
  have K1 := CheckS_any W1 c n ta tn tc l ba bn bc b (h.later hb0)
  rw [hp] at K1
  have X1 := hid x1
  have X3 := hid x3
  have HB0 := hid hb0
  have HW1 := hid hW1
  have HS := hid hS
  obtain ⟨c0, c1, c2, c3⟩ := x1.cells
  have HK1 := hid K1
  clear hW1 x1 x3 hb0 h hsz K1 hp
  go_enter Tryz.func8, Tryz.ntmps8
  go_wp2_with fail
  rw [← HW1.out]
  refine HK1.out.mono ?_
  rintro e w1 ⟨rfl, hb⟩
  have HX := hid (X3.out.later hb)
  have HB1 := hid (below_from HB0.out hb)
  have HX1 := hid (X1.out.later hb)
  clear hb c0 c1 c2 c3
  obtain ⟨c0, c1, c2, c3⟩ := HX1.out.cells
  obtain ⟨y0, y1, y2, y3⟩ := HX.out.cells
  have yf : ∀ k, w1.frozen? ⟨S + 1, k, none⟩ = false := fun k => frozen_of_row w1 (S + 1) k _ _ HX.out
  have hst := four_stores w1 (S + 1) 25 _ _ _ _ (.int .i64 0) (.int .i64 0) (.slice none 0 0) (.slice none 0 0) HX.out
  have h4 : w.heap.size ≤ S + 1 := by have := HS.out; omega
  have HST := hid hst
  clear hst
  by_cases hq0 : q < 0
  · clear hq
    go_wp2_with fail
    refine bodyPost_ret (v := .tuple #[.agg #[.int .i64 0, .int .i64 0, .slice none 0 0, .slice none 0 0], .slice none 0 0, .slice none 0 0, .int .i64 6]) (results_row_tmp3 Tryz.results8 _ _ (S + 1) 25 #[.int .i64 0, .int .i64 0, .slice none 0 0, .slice none 0 0] (0, 0) _ rfl HST.out.1 Tryz.underlying25 rfl (by kernel_rfl)) rfl ⟨rfl, ?_⟩
    exact ((((HB1.out.setCell (p := ⟨S + 1, 0, none⟩) h4 _).setCell (p := ⟨S + 1, 1, none⟩) h4 _).setCell (p := ⟨S + 1, 2, none⟩) h4 _).setCell (p := ⟨S + 1, 3, none⟩) h4 _)
  · have hq1 : (tn : Int) ≤ q := by omega
    have hq2 : ¬ q < 0 := hq0
    have hq3 : 0 ≤ q := by omega
    clear hq
    go_wp2_with fail
    refine bodyPost_ret (v := .tuple #[.agg #[.int .i64 0, .int .i64 0, .slice none 0 0, .slice none 0 0], .slice none 0 0, .slice none 0 0, .int .i64 6]) (results_row_tmp3 Tryz.results8 _ _ (S + 1) 25 #[.int .i64 0, .int .i64 0, .slice none 0 0, .slice none 0 0] (0, 0) _ rfl HST.out.1 Tryz.underlying25 rfl (by kernel_rfl)) rfl ⟨rfl, ?_⟩
    exact ((((HB1.out.setCell (p := ⟨S + 1, 0, none⟩) h4 _).setCell (p := ⟨S + 1, 1, none⟩) h4 _).setCell (p := ⟨S + 1, 2, none⟩) h4 _).setCell (p := ⟨S + 1, 3, none⟩) h4 _)
end Go.Proofs.YtecibbokbonmcaeGreat
