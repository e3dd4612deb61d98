/- Several texts in one: ChgA, ChgB, ChgC, ChgD, ChgF, NoneA, FairA, AnyB, ChgE. -/
import Derived.Test.YtecibbokbonmcaeGreatKAll9
import Derived.Test.YtecibbokbonmcaeGreatKAll7
import Derived.Test.YtecibbokbonmcaeGreatKAll6
import Derived.Test.YtecibbokbonmcaeGreatKAll1
/- cut.Change: the walk where the state and the queue's number are right. -/
namespace Go.Proofs.YtecibbokbonmcaeGreat
open Go.RowKit

set_option maxRecDepth 100000 in
set_option maxHeartbeats 8000000 in
theorem Change_any (w : World) (c n : Int) (ta : Option Addr) (tn tc : Nat) (l : QL) (ba : Option Addr) (bn bc : Nat) (b : BL) (h : StIn w ta tn tc l ba bn bc b) (q : Nat) (hq : q < tn) (ra : Option Addr) (rn rc : Nat) (rs : RunL) (hr : RunsIn w ra rn rc rs) (hrn : rn ≤ 1048576) (hp : planE c n l b = 0) :
    Calls Tryz.prog 8 #[.agg #[.int .i64 c, .int .i64 n, .slice ta tn tc, .slice ba bn bc], .int .i64 q, .slice ra rn rc] w fun e w' => (chkT (capL l q rs) ≠ 0 ∧ e = .returned (.tuple #[.agg #[.int .i64 0, .int .i64 0, .slice none 0 0, .slice none 0 0], .slice none 0 0, .slice none 0 0, .int .i64 (chkT (capL l q rs))]) ∧ Below w.heap.size w w') ∨ (chkT (capL l q rs) = 0 ∧ ChAns w w' e c n tn l b q rs) := by
  obtain ⟨E, hE⟩ : ∃ E, chkT (capL l q rs) = E := ⟨_, rfl⟩
  rw [hE]
  have HE := hid hE
  clear hE
  have hSo := sound_of hp
  have hmod := modest_of h hSo.clean
  have HBL0 := hid h.2.len
  have HTL0 := hid h.1.len
  have HSO := hid hSo
  have htn : tn ≤ 1000 := hmod.t1
  obtain ⟨S, hS⟩ : ∃ S, w.heap.size = S := ⟨_, rfl⟩
  obtain ⟨W1, hW1⟩ : ∃ W1, W1 = (w.alloc (.cells #[.int .i64 c, .int .i64 n, .slice ta tn tc, .slice ba bn bc] 25)).alloc (.cells #[.int .i64 0, .int .i64 0, .slice none 0 0, .slice none 0 0] 25) := ⟨_, rfl⟩
  obtain ⟨x1, x3, hb0, hsz⟩ := st_res w _ _ _ _ hW1
  rw [hS] at x1 x3 hsz
  have K1 := CheckS_any W1 c n ta tn tc l ba bn bc b (h.later hb0)
  rw [hp] at K1
  have K3 := hid fun X (hX : Below w.heap.size w X) => State_any X c n ta tn tc l ba bn bc b (h.later hX) hmod
  have KC := hid fun X (hX : Below w.heap.size w X) => CloneRuns_upto X ra rn rc rs (hr.later hX) hrn
  have X1 := hid x1
  have X3 := hid x3
  have HB0 := hid hb0
  have HW1 := hid hW1
  have HS := hid hS
  have HSZ := hid hsz
  obtain ⟨c0, c1, c2, c3⟩ := x1.cells
  have HK1 := hid K1
  have hlt' : (q : Int) < tn := by omega
  have hge : (0 : Int) ≤ q := by omega
  clear hW1 x1 x3 hb0 h hsz K1 hp hSo hmod hr
  go_enter Tryz.func8, Tryz.ntmps8
  go_wp2_with fail
  rw [← HW1.out]
  refine HK1.out.mono ?_
  rintro e w1 ⟨rfl, hb⟩
  have HX1 := hid (X1.out.later hb)
  have HX3 := hid (X3.out.later hb)
  have HB1 := hid (below_from HB0.out hb)
  have HL1 : Hid (S + 2 ≤ w1.heap.size) := by have := hb.size; have := HSZ.out; show S + 2 ≤ w1.heap.size; omega
  clear hb c0 c1 c2 c3
  obtain ⟨c0, c1, c2, c3⟩ := HX1.out.cells
  go_wp2_with fail
  refine (K3.out w1 HB1.out).mono ?_
  rintro e w2 ⟨g, k1, l', aa, k3, b', rfl, hO, hl', hb', hbq, hbb, hb⟩
  obtain ⟨W3, hW3⟩ : ∃ W3, W3 = w2.alloc (.cells #[.int .i64 c, .int .i64 n, .slice (some ⟨g, 0, none⟩) tn k1, .slice aa bn k3] 25) := ⟨_, rfl⟩
  have hbW : Below w2.heap.size w2 W3 := by rw [hW3]; exact (Below.refl _ _).alloc (Nat.le_refl _) _
  have hs3 : W3.heap.size = w2.heap.size + 1 := by rw [hW3]; simp
  have hxb : StBox W3 w2.heap.size (.int .i64 c) (.int .i64 n) (.slice (some ⟨g, 0, none⟩) tn k1) (.slice aa bn k3) := by rw [hW3]; exact StBox.new w2 _ _ _ _
  obtain ⟨B1, hB1⟩ : ∃ B1, w1.heap.size = B1 := ⟨_, rfl⟩
  obtain ⟨B, hB⟩ : ∃ B, w2.heap.size = B := ⟨_, rfl⟩
  have hg : B1 ≤ g ∧ g < B := by have := hO.qs.row.lt g rfl; omega
  have hB1B : B1 ≤ B := by have := hb.size; omega
  have hSB : S + 2 ≤ B1 := by have := HL1.out; omega
  have HO := hid hO
  have HO3 := hid (hO.qs.later hbW)
  have HB2 := hid (below_from HB1.out hb)
  have HZ3 := hid ((HX3.out.later hb).later hbW)
  have HB3 := hid (below_from HB2.out hbW)
  have HBW := hid hbW
  rw [hB] at hxb hs3
  have HXB := hid hxb
  have HLQ := hid hl'
  have HBB := hid hb'
  have HBQ := hid hbq
  have HBE := hid hbb
  have HW3 := hid hW3
  have HS3 := hid hs3
  have HBn := hid hB
  have HBn1 := hid hB1
  have hlq : q < l'.length := by omega
  have C2 := hid hxb.cells.2.2.1
  clear hb hbW hs3 hxb hO hbq hbb hW3 hB hB1 c0 c1 c2 c3 hl' hb'
  obtain ⟨m0, m1, m2, m3⟩ := HX1.out.cells
  go_wp2_with fail
  rw [HBn.out]
  rw [← HW3.out]
  refine wp_region_store ((Tryz.f8.body.bind fun c => regOps c 7).getD #[]) (by kernel_rfl) [isV (.pointer (some ⟨B, 2, none⟩)), isV (.slice (some ⟨g, 0, none⟩) tn k1), isV (.int .i64 q), isV (.slice ra rn rc), ⟨fun v Z => ∃ a8 c8, v = .slice a8 rn c8 ∧ RunsIn Z a8 rn c8 rs ∧ ∀ b off, a8 = some ⟨b, off, none⟩ → W3.heap.size ≤ b, fun _ _ _ ⟨a8, c8, h1, h2, h3⟩ hb => ⟨a8, c8, h1, h2.later hb, h3⟩⟩, isV (.pointer (some ⟨g, q * 3, none⟩)), isV (.pointer (some ⟨g, q * 3 + 2, none⟩)), isV undef] 7 (by kernel_rfl) (by kernel_rfl) (by kernel_rfl) ?hstep
  case hstep =>
    refine AllOps.cons 1 rfl ?_ ?_
    · intro T w' hb hs hl hd
      rw [if_neg (by decide)]
      have h0 : T.getD 11 undef = .pointer (some ⟨B, 0, none⟩) := hl 11 (by kernel_rfl)
      exact Or.inl ⟨.pointer (some ⟨B, 2, none⟩), w', by go_simp, rfl, Below.refl _ _⟩
    refine AllOps.cons 2 rfl ?_ ?_
    · intro T w' hb hs hl hd
      rw [if_neg (by decide)]
      have h0 : T.getD 34 undef = .pointer (some ⟨B, 2, none⟩) := hd 0 34 (by kernel_rfl)
      have cc := cell_later hb C2.out
      exact Or.inl ⟨.slice (some ⟨g, 0, none⟩) tn k1, w', by go_simp, rfl, Below.refl _ _⟩
    refine AllOps.cons 3 rfl ?_ ?_
    · intro T w' hb hs hl hd
      rw [if_neg (by decide)]
      have h0 : T.getD 1 undef = .int .i64 q := hl 1 (by kernel_rfl)
      exact Or.inl ⟨.int .i64 q, w', by go_simp, rfl, Below.refl _ _⟩
    refine AllOps.cons 4 rfl ?_ ?_
    · intro T w' hb hs hl hd
      rw [if_neg (by decide)]
      have h0 : T.getD 2 undef = .slice ra rn rc := hl 2 (by kernel_rfl)
      exact Or.inl ⟨.slice ra rn rc, w', by go_simp, rfl, Below.refl _ _⟩
    refine AllOps.cons 5 rfl ?_ ?_
    · intro T w' hb hs hl hd
      rw [if_neg (by decide)]
      have h0 : T.getD 37 undef = .slice ra rn rc := hd 3 37 (by kernel_rfl)
      refine Or.inr ⟨35, #[.slice ra rn rc], by go_simp, ?_⟩
      refine (KC.out w' (below_from HB3.out hb)).mono ?_
      rintro e w'' ⟨a8, c8, rfl, hr, hbb, hnw⟩
      exact ⟨_, rfl, ⟨a8, c8, rfl, hr.1, fun b off e => by have := hnw b off e; have := hb.size; omega⟩, hbb⟩
    refine AllOps.cons 6 rfl ?_ ?_
    · intro T w' hb hs hl hd
      rw [if_neg (by decide)]
      have h0 : T.getD 35 undef = .slice (some ⟨g, 0, none⟩) tn k1 := hd 1 35 (by kernel_rfl)
      have h1 : T.getD 36 undef = .int .i64 q := hd 2 36 (by kernel_rfl)
      exact Or.inl ⟨.pointer (some ⟨g, q * 3, none⟩), w', by go_simp, rfl, Below.refl _ _⟩
    refine AllOps.cons 7 rfl ?_ ?_
    · intro T w' hb hs hl hd
      rw [if_neg (by decide)]
      have h0 : T.getD 39 undef = .pointer (some ⟨g, q * 3, none⟩) := hd 5 39 (by kernel_rfl)
      exact Or.inl ⟨.pointer (some ⟨g, q * 3 + 2, none⟩), w', by go_simp, rfl, Below.refl _ _⟩
    refine AllOps.cons 8 rfl ?_ ?_
    · intro T w' hb hs hl hd
      rw [if_pos rfl]
      replace hs := hs.resolve_right (fun h => h rfl)
      have h1 : T.getD 40 undef = .pointer (some ⟨g, q * 3 + 2, none⟩) := hd 6 40 (by kernel_rfl)
      obtain ⟨a8, c8, h0, hr, hnw⟩ := hd 4 38 (by kernel_rfl)
      have hO := HO3.out.later hb
      have hlen := HLQ.out
      have hrow := hO.row
      rw [← hlen] at hrow
      have x6 : w'.cell? ⟨g, q * 3 + 2, none⟩ = some (.slice (qu l' q).ca (qu l' q).cn (qu l' q).cc) := by rw [hrow.cellAt (q * 3 + 2) (by omega), quCells_at l' q 2 (by omega) (by omega)]; rfl
      have xf : ∀ k, w'.frozen? ⟨g, k, none⟩ = false := fun k => hrow.frozenAt k
      have hs3 := HS3.out
      have hst := hO.store HLQ.out hlq hr (fun _ b off e => by have := hnw b off e; omega)
      have hoth : ∀ k, k ≠ g → k < W3.heap.size → (w'.setCell ⟨g, q * 3 + 2, none⟩ (.slice a8 rn c8)).heap[k]? = W3.heap[k]? := fun k hk hk2 => by
        rw [heap_setCell_other _ ⟨g, q * 3 + 2, none⟩ k _ hk]
        exact hb.block k hk2
      have hbe : Below w.heap.size w (w'.setCell ⟨g, q * 3 + 2, none⟩ (.slice a8 rn c8)) := (below_from HB3.out hb).setCell (p := ⟨g, q * 3 + 2, none⟩) (by have := HS.out; have := hg.1; simp only; omega) _
      have hszy : W3.heap.size ≤ (w'.setCell ⟨g, q * 3 + 2, none⟩ (.slice a8 rn c8)).heap.size := by have := hb.size; simp only [World.setCell, Array.size_modify]; omega
      have hbks := (HO.out.bks.later HBW.out).later hb
      have HY : Hid (YInv w (w'.setCell ⟨g, q * 3 + 2, none⟩ (.slice a8 rn c8)) S B1 B c n g k1 tn (l'.set q ⟨(qu l' q).name, (qu l' q).parent, a8, rn, c8, rs⟩) aa bn k3 b') := by
        have hO' := HO.out
        have hlow : ∀ gb, aa = some ⟨gb, 0, none⟩ → gb < B ∧ g ≠ gb := fun gb e => by
          subst e
          have h1 := hO'.bks.row.lt gb rfl
          have h2 := own_ne.1 (hO'.apart gb rfl).1
          exact ⟨by have := HBn.out; omega, h2⟩
        have inn : ∀ x ∈ b', (0 < x.rq.pn → ∀ k off, x.rq.pa = some ⟨k, off, none⟩ → B1 ≤ k ∧ k ≠ B ∧ ∀ gb, aa = some ⟨gb, 0, none⟩ → k ≠ gb) ∧ (0 < x.bn → ∀ k off, x.ba = some ⟨k, off, none⟩ → B1 ≤ k ∧ k ≠ B ∧ ∀ gb, aa = some ⟨gb, 0, none⟩ → k ≠ gb) := by
          intro x hx
          obtain ⟨i, hi, rfl⟩ := mem_bk hx
          refine ⟨fun hp k off e => ?_, fun hp k off e => ?_⟩
          · have h1 := hO'.newP i hi hp k off e
            have h2 := RunsIn.lt (hO'.bks.rqs i hi) hp e
            have h3 := hO'.bks.farP i hi hp k off e
            exact ⟨by have := HBn1.out; omega, by have := HBn.out; omega, fun gb e2 e3 => h3 (by rw [e2, e3]; rfl)⟩
          · have h1 := hO'.newB i hi hp k off e
            have h2 := (hO'.bks.bites i hi).lt hp e
            have h3 := hO'.bks.farB i hi hp k off e
            exact ⟨by have := HBn1.out; omega, by have := HBn.out; omega, fun gb e2 e3 => h3 (by rw [e2, e3]; rfl)⟩
        refine hid ⟨(hoth B (by omega) (by omega)).trans HXB.out, (hoth (S + 1) (by omega) (by omega)).trans HZ3.out, own_qs_is hst, ⟨hg.1, by omega, fun gb e => (hlow gb e).2⟩, fun i hi hp k off e => ?_, ?_, fun x hx => ?_, fun x hx => (inn x hx).1, fun x hx => (inn x hx).2, hbe, HS.out, ⟨hSB, hB1B⟩, by omega, HBB.out⟩
        · rw [qu_set _ hlq] at hp e
          by_cases ei : i = q
          · rw [if_pos ei] at hp e
            have h1 := hnw k off e
            exact ⟨by omega, by omega, fun gb e2 e3 => by have := (hlow gb e2).1; omega⟩
          · rw [if_neg ei] at hp e
            have hi' : i < l'.length := by omega
            have h1 := hO'.newC i hi' hp k off e
            have h2 := (hO'.qs.caps i hi').lt hp e
            refine ⟨by have := HBn1.out; omega, by have := HBn.out; omega, fun gb e2 => ?_⟩
            subst e2
            exact (hO'.apart gb rfl).2 i hi' hp k off e
        · have h1 := hbks.row
          rw [← HBB.out] at h1
          have h2 : w'.grownBy (w'.setCell ⟨g, q * 3 + 2, none⟩ (.slice a8 rn c8)) (some g) := ⟨rfl, rfl, rfl, by simp [World.setCell], fun k _ hne => Below.heap_setCell _ _ _ k (fun e => hne (by rw [e]))⟩
          have h3 := h1.kept h2 (by
            cases e : (Value.slice aa bn k3).ownBlock with
            | none => exact Or.inl rfl
            | some gb =>
              refine Or.inr fun e2 => ?_
              have := (hO'.apart gb e).1
              exact this (by rw [e2]; rfl))
          have := HBn1.out
          rw [← this]
          exact h3
        · obtain ⟨i, hi, rfl⟩ := mem_bk hx
          exact ⟨RunsIn.set_slice (hbks.rqs i hi) x6 _, (hbks.bites i hi).set_slice x6 _⟩
      clear hrow hO
      refine ⟨w'.setCell ⟨g, q * 3 + 2, none⟩ (.slice a8 rn c8), by go_simp, ?_⟩
      show _
      rw [lit_then [true, true, true, true, true, true, true, true, true, true, true, true, true, true, true, true, true, true, true, true, true, true, true, true, true, true, true, true, true, true, true, true, true, true, false, false, false, false, false, false, false, true, true, true, true, true, true, true, true, true, true, true, true, true, true, true, true, true, true, true, true, true, true] (by kernel_rfl) hs hl]
      obtain ⟨us, hus⟩ : ∃ us : Nat → Value, (fun d => T.getD d undef) = us := ⟨_, rfl⟩
      rw [hus]
      clear hus hl hs hd
      simp only [fillL]
      have HL3 := hid (bareQ_cap HBQ.out q a8 rn c8 rs)
      obtain ⟨wy, hwy⟩ : ∃ wy, w'.setCell ⟨g, q * 3 + 2, none⟩ (.slice a8 rn c8) = wy := ⟨_, rfl⟩
      obtain ⟨l3, hl3⟩ : ∃ l3, l'.set q ⟨(qu l' q).name, (qu l' q).parent, a8, rn, c8, rs⟩ = l3 := ⟨_, rfl⟩
      rw [hwy, hl3] at HY
      rw [hl3] at HL3
      rw [hwy]
      clear hst hoth hbe hszy hwy hl3 x6 xf hr hb h0 h1 hlen hnw hbks HO HO3 HXB HZ3 HBW HB3 HW3 HS3 C2 KC K3 HX1 HX3 X1 X3 HW1 HK1 HB0 m0 m1 m2 m3 hs3
      have KT := CheckT_any wy _ tn k1 l3 HY.out.qs
      have hch : chkT l3 = E := by rw [← chkT_bare, HL3.out, chkT_bare]; exact HE.out
      rw [hch] at KT
      have HCH := hid hch
      have HKT := hid KT
      obtain ⟨s0, s1, s2, s3⟩ := HY.out.box.cells
      clear KT hch
      go_wp2_with fail
      refine HKT.out.mono ?_
      rintro e w4 ⟨rfl, hb⟩
      have HZ := hid (HY.out.later hb)
      clear HY hb s0 s1 s2 s3
      obtain ⟨s0, s1, s2, s3⟩ := HZ.out.box.cells
      by_cases ht : E = 0
      · have HC3 : Hid (Clean l3 b') := hid (clean_cap (clean_same HSO.out.clean HBE.out) (HCH.out.trans ht) (by
          have h1 := congrArg List.length HL3.out
          rw [len_bareQ, len_bareQ, capL_len] at h1
          exact h1))
        have hc0 := HSO.out.c0
        have hc48 := HSO.out.c48
        have hBf : ∀ k, w4.frozen? ⟨B, k, none⟩ = false := fun k => frozen_of_row w4 B k _ _ HZ.out.box
        have hEf : (E != 0) = false := by simp [ht]
        have haa : (aa = none ∧ bn = 0 ∧ k3 = 0) ∨ ∃ gb, aa = some ⟨gb, 0, none⟩ := by
          rcases HZ.out.row.2 with ⟨e, _⟩ | ⟨gb, kk, cur, e, _⟩
          · simp only [Value.slice.injEq] at e
            exact Or.inl e
          · simp only [Value.slice.injEq] at e
            exact Or.inr ⟨gb, e.1⟩
        rcases haa with ⟨rfl, rfl, rfl⟩ | ⟨gb, rfl⟩
        · have hnil : b' = [] := List.length_eq_zero_iff.1 HZ.out.bl.symm
          subst hnil
          have HKL := hid (lighten_nil w4 c n (some ⟨g, 0, none⟩) tn k1 l3 none 0 HC3.out hc0 hc48 ⟨HZ.out.qs, none_in _⟩)
          go_wp2_with fail
          refine HKL.out.mono ?_
          rintro e w5 ⟨rfl, hb5⟩
          have hb1 := HZ.out.b1
          have hbox5 := HZ.out.box.later hb5
          have hres5 := HZ.out.res.later hb5
          obtain ⟨W6, hW6⟩ : ∃ W6, W6 = (((w5.setCell ⟨B, 0, none⟩ (.int .i64 c)).setCell ⟨B, 1, none⟩ (.int .i64 n)).setCell ⟨B, 2, none⟩ (.slice (some ⟨g, 0, none⟩) tn k1)).setCell ⟨B, 3, none⟩ (.slice none 0 0) := ⟨_, rfl⟩
          have hbox6 : StBox W6 B (.int .i64 c) (.int .i64 n) (.slice (some ⟨g, 0, none⟩) tn k1) (.slice none 0 0) := by rw [hW6]; exact set4_box hbox5 _ _ _ _
          have hg6 : w5.grownBy W6 (some B) := by rw [hW6]; exact set4_grown hbox5 _ _ _ _
          have hres6 : StBox W6 (S + 1) (.int .i64 0) (.int .i64 0) (.slice none 0 0) (.slice none 0 0) := (hg6.block (S + 1) (Array.getElem?_eq_some_iff.1 hres5).1 (fun e => by have := Option.some.inj e; omega)).trans hres5
          have hbut6 : But [S + 1, B] w4 W6 := (But.below hb5).trans (But.grown hg6 (by simp))
          have HKS := hid (settle_nil W6 c n (some ⟨g, 0, none⟩) tn k1 none 0 0)
          have HBX6 := hid hbox6
          have HRS6 := hid hres6
          have HBT6 := hid hbut6
          have HW6 := hid hW6
          obtain ⟨d0, d1, d2, d3⟩ := hbox5.cells
          have df5 : ∀ k, w5.frozen? ⟨B, k, none⟩ = false := fun k => frozen_of_row w5 B k _ _ hbox5
          obtain ⟨p0, p1, p2, p3⟩ := hbox6.cells
          rw [hW6] at p0 p1 p2 p3
          have hbS : B ≠ S + 1 := by omega
          clear hb5 hbox5 hres5 hbox6 hres6 hg6 hbut6 hW6 s0 s1 s2 s3 hBf
          go_wp2_with fail
          rw [← HW6.out]
          refine HKS.out.mono ?_
          rintro e w7 ⟨rfl, hb7⟩
          have hbox7 := HBX6.out.later hb7
          have hres7 := HRS6.out.later hb7
          have HD := hid (HZ.out.done0 (w6 := w7) (l := l) (b := b) (q := q) (rs := rs) (HBT6.out.trans (But.below hb7)) hbox7 hres7 HL3.out HBE.out (fun u h1 h2 k hk => over_nil HC3.out hk (by omega) h2))
          obtain ⟨d0, d1, d2, d3⟩ := hbox7.cells
          have df7 : ∀ k, w7.frozen? ⟨B, k, none⟩ = false := fun k => frozen_of_row w7 B k _ _ hbox7
          have hbox8 := set4_box hbox7 (.int .i64 c) (.int .i64 n) (.slice (some ⟨g, 0, none⟩) tn k1) (.slice none 0 0)
          have hg8 := set4_grown hbox7 (.int .i64 c) (.int .i64 n) (.slice (some ⟨g, 0, none⟩) tn k1) (.slice none 0 0)
          have hres8 : StBox _ (S + 1) (.int .i64 0) (.int .i64 0) (.slice none 0 0) (.slice none 0 0) := (hg8.block (S + 1) (Array.getElem?_eq_some_iff.1 hres7).1 (fun e => by have := Option.some.inj e; omega)).trans hres7
          have HBX9 := hid (set4_box hres8 (.int .i64 c) (.int .i64 n) (.slice (some ⟨g, 0, none⟩) tn k1) (.slice none 0 0))
          obtain ⟨p0, p1, p2, p3⟩ := hbox8.cells
          obtain ⟨y0, y1, y2, y3⟩ := hres8.cells
          have yf : ∀ k, (set4 w7 B (.int .i64 c) (.int .i64 n) (.slice (some ⟨g, 0, none⟩) tn k1) (.slice none 0 0)).frozen? ⟨S + 1, k, none⟩ = false := fun k => frozen_of_row _ (S + 1) k _ _ hres8
          simp only [set4] at p0 p1 p2 p3 y0 y1 y2 y3 yf
          clear hb7 hbox7 hres7 hbox8 hg8 hres8
          go_wp2
          exact bodyPost_ret (v := .tuple #[.agg #[.int .i64 c, .int .i64 n, .slice (some ⟨g, 0, none⟩) tn k1, .slice none 0 0], .slice none 0 0, .slice none 0 0, .int .i64 0]) (results_row_tmp3 Tryz.results8 _ _ (S + 1) 25 #[.int .i64 c, .int .i64 n, .slice (some ⟨g, 0, none⟩) tn k1, .slice none 0 0] (0, 0) _ rfl HBX9.out Tryz.underlying25 rfl (by kernel_rfl)) rfl (Or.inr ⟨ht, HD.out⟩)
        · skip
          obtain ⟨hQ, hI⟩ := HZ.out.off
          have KL := lighten_own w4 c n (some ⟨g, 0, none⟩) tn k1 l3 B1 gb k3 bn b' HZ.out.bl HC3.out hc0 hc48 (QsIn.onL (ks := [S + 1, B]) hQ) (fun x hx => Inner.onL (ks := [S + 1, B]) (hI x hx)) HZ.out.row
          have HKL := hid KL
          have HQ := hid hQ
          have HI := hid hI
          clear KL hQ hI
          go_wp2_with fail
          refine HKL.out.mono ?_
          rintro e w5 ⟨b1, aw, a2, k2, rfl, hlit, hno, ho5, ha5, hg5⟩
          have hbz := HZ.out.bsz
          have hb1 := HZ.out.b1
          have hgb := (HZ.out.row.lt gb rfl)
          have hgB : gb ≠ B := fun e => by
            subst e
            exact HZ.out.box.not_row HZ.out.row rfl
          have hgS : gb ≠ S + 1 := by omega
          have hbox5 : StBox w5 B (.int .i64 c) (.int .i64 n) (.slice (some ⟨g, 0, none⟩) tn k1) (.slice (some ⟨gb, 0, none⟩) bn k3) := (hg5.block B hbz (fun e => hgB (Option.some.inj e).symm)).trans HZ.out.box
          have hres5 : StBox w5 (S + 1) (.int .i64 0) (.int .i64 0) (.slice none 0 0) (.slice none 0 0) := (hg5.block (S + 1) (by omega) (fun e => hgS (Option.some.inj e).symm)).trans HZ.out.res
          obtain ⟨W6, hW6⟩ : ∃ W6, W6 = (((w5.setCell ⟨B, 0, none⟩ (.int .i64 c)).setCell ⟨B, 1, none⟩ (.int .i64 n)).setCell ⟨B, 2, none⟩ (.slice (some ⟨g, 0, none⟩) tn k1)).setCell ⟨B, 3, none⟩ (.slice (some ⟨gb, 0, none⟩) b1.length k3) := ⟨_, rfl⟩
          have hbox6 : StBox W6 B (.int .i64 c) (.int .i64 n) (.slice (some ⟨g, 0, none⟩) tn k1) (.slice (some ⟨gb, 0, none⟩) b1.length k3) := by rw [hW6]; exact set4_box hbox5 _ _ _ _
          have hg6 : w5.grownBy W6 (some B) := by rw [hW6]; exact set4_grown hbox5 _ _ _ _
          have hres6 : StBox W6 (S + 1) (.int .i64 0) (.int .i64 0) (.slice none 0 0) (.slice none 0 0) := (hg6.block (S + 1) (Array.getElem?_eq_some_iff.1 hres5).1 (fun e => by have := Option.some.inj e; omega)).trans hres5
          have hbut6 : But [S + 1, B, gb] w4 W6 := (But.grown hg5 (by simp)).trans (But.grown hg6 (by simp))
          obtain ⟨t1, t2, t3, t4⟩ := hlit.clean HC3.out hc0
          have ho6 := ho5.kept hg6 (Or.inr fun e => hbox5.not_row ho5 e.symm)
          have ha6 := ha5.kept hg6 (Or.inr fun e => hbox5.not_row ha5 e.symm)
          have hsz6 : w4.heap.size ≤ W6.heap.size := hbut6.size
          have KS := settle_own W6 c n (some ⟨g, 0, none⟩) tn k1 l3 B1 gb k3 b1 aw a2 k2 (QsIn.onL (ks := [S + 1, B]) (HQ.out.later (offL_below hbut6))) (by have := HC3.out.few; omega) (fun x hx => Inner.onL (ks := [S + 1, B]) ((HI.out x (t2 x hx)).later (offL_below hbut6))) (fun x hx => Inner.onL (ks := [S + 1, B]) ((HI.out x (t3 x hx)).later (offL_below hbut6))) (fun x hx => (meets_bounds (clean_at HC3.out (t3 x hx)).1).2.2.2) ho6 (ownsRow_base ha6 (by omega)) (fun e => by have := (ha6.lt gb e).1; omega) (by omega)
          have HKS := hid KS
          have HLIT := hid hlit
          have HNO := hid hno
          have HT2 := hid t2
          have HT3 := hid t3
          have HBX6 := hid hbox6
          have HRS6 := hid hres6
          have HBT6 := hid hbut6
          have HW6 := hid hW6
          obtain ⟨d0, d1, d2, d3⟩ := hbox5.cells
          have df5 : ∀ k, w5.frozen? ⟨B, k, none⟩ = false := fun k => frozen_of_row w5 B k _ _ hbox5
          obtain ⟨p0, p1, p2, p3⟩ := hbox6.cells
          rw [hW6] at p0 p1 p2 p3
          have hbS : B ≠ S + 1 := by omega
          clear KS hlit hno ho5 ha5 hg5 hbox5 hres5 hbox6 hres6 hg6 hbut6 t1 t2 t3 t4 ho6 ha6 hW6 s0 s1 s2 s3 hBf
          go_wp2_with fail
          rw [← HW6.out]
          refine HKS.out.mono ?_
          rintro e w7 ⟨b9, mv, dr, gx, kx, ma, mk, da, dk, rfl, hstl, hrow7, hin7, hm7, hd7, hsy7, hg7⟩
          have hbox7 : StBox w7 B (.int .i64 c) (.int .i64 n) (.slice (some ⟨g, 0, none⟩) tn k1) (.slice (some ⟨gb, 0, none⟩) b1.length k3) := (hg7.block B (by omega) (fun e => hgB (Option.some.inj e).symm)).trans HBX6.out
          have hres7 : StBox w7 (S + 1) (.int .i64 0) (.int .i64 0) (.slice none 0 0) (.slice none 0 0) := (hg7.block (S + 1) (by omega) (fun e => hgS (Option.some.inj e).symm)).trans HRS6.out
          have hsw : w.heap.size ≤ W6.heap.size := by have := HZ.out.below.size; omega
          have HD := hid (HZ.out.done (w6 := w7) (l := l) (b := b) (q := q) (rs := rs) (HBT6.out.trans (But.grown hg7 (by simp))) hbox7 hres7 HL3.out HBE.out HLIT.out HT2.out HT3.out (fun u h1 h2 k hk => HNO.out u h1 h2 k (by have := HZ.out.qs.len; omega)) hstl hrow7 hin7 (ownsRow_base hm7 hsw) (ownsRow_base hd7 hsw) (by have := HZ.out.sz; omega))
          obtain ⟨d0, d1, d2, d3⟩ := hbox7.cells
          have df7 : ∀ k, w7.frozen? ⟨B, k, none⟩ = false := fun k => frozen_of_row w7 B k _ _ hbox7
          have hbox8 := set4_box hbox7 (.int .i64 c) (.int .i64 n) (.slice (some ⟨g, 0, none⟩) tn k1) (.slice (some ⟨gx, 0, none⟩) b9.length kx)
          have hg8 := set4_grown hbox7 (.int .i64 c) (.int .i64 n) (.slice (some ⟨g, 0, none⟩) tn k1) (.slice (some ⟨gx, 0, none⟩) b9.length kx)
          have hres8 : StBox _ (S + 1) (.int .i64 0) (.int .i64 0) (.slice none 0 0) (.slice none 0 0) := (hg8.block (S + 1) (Array.getElem?_eq_some_iff.1 hres7).1 (fun e => by have := Option.some.inj e; omega)).trans hres7
          have HBX9 := hid (set4_box hres8 (.int .i64 c) (.int .i64 n) (.slice (some ⟨g, 0, none⟩) tn k1) (.slice (some ⟨gx, 0, none⟩) b9.length kx))
          obtain ⟨p0, p1, p2, p3⟩ := hbox8.cells
          obtain ⟨y0, y1, y2, y3⟩ := hres8.cells
          have yf : ∀ k, (set4 w7 B (.int .i64 c) (.int .i64 n) (.slice (some ⟨g, 0, none⟩) tn k1) (.slice (some ⟨gx, 0, none⟩) b9.length kx)).frozen? ⟨S + 1, k, none⟩ = false := fun k => frozen_of_row _ (S + 1) k _ _ hres8
          simp only [set4] at p0 p1 p2 p3 y0 y1 y2 y3 yf
          clear hstl hrow7 hin7 hm7 hd7 hsy7 hg7 hbox7 hres7 hbox8 hg8 hres8
          go_wp2
          exact bodyPost_ret (v := .tuple #[.agg #[.int .i64 c, .int .i64 n, .slice (some ⟨g, 0, none⟩) tn k1, .slice (some ⟨gx, 0, none⟩) b9.length kx], .slice ma mv.length mk, .slice da dr.length dk, .int .i64 0]) (results_row_tmp3 Tryz.results8 _ _ (S + 1) 25 #[.int .i64 c, .int .i64 n, .slice (some ⟨g, 0, none⟩) tn k1, .slice (some ⟨gx, 0, none⟩) b9.length kx] (0, 0) _ rfl HBX9.out Tryz.underlying25 rfl (by kernel_rfl)) rfl (Or.inr ⟨ht, HD.out⟩)
      · have hne : (E != 0) = true := by simp [ht]
        obtain ⟨y0, y1, y2, y3⟩ := HZ.out.res.cells
        have yf : ∀ k, w4.frozen? ⟨S + 1, k, none⟩ = false := fun k => frozen_of_row w4 (S + 1) k _ _ HZ.out.res
        go_wp2_with fail
        have hst := four_stores w4 (S + 1) 25 _ _ _ _ (.int .i64 0) (.int .i64 0) (.slice none 0 0) (.slice none 0 0) HZ.out.res
        have h4 : w.heap.size ≤ S + 1 := by have := HS.out; omega
        refine bodyPost_ret (v := .tuple #[.agg #[.int .i64 0, .int .i64 0, .slice none 0 0, .slice none 0 0], .slice none 0 0, .slice none 0 0, .int .i64 E]) (results_row_tmp3 Tryz.results8 _ _ (S + 1) 25 #[.int .i64 0, .int .i64 0, .slice none 0 0, .slice none 0 0] (0, 0) _ rfl hst.1 Tryz.underlying25 rfl (by kernel_rfl)) rfl (Or.inl ⟨ht, rfl, ?_⟩)
        exact ((((HZ.out.below.setCell (p := ⟨S + 1, 0, none⟩) h4 _).setCell (p := ⟨S + 1, 1, none⟩) h4 _).setCell (p := ⟨S + 1, 2, none⟩) h4 _).setCell (p := ⟨S + 1, 3, none⟩) h4 _)
    exact trivial
end Go.Proofs.YtecibbokbonmcaeGreat

/- Less room, plain: what is taken away and put back is what a function of the bare queues and books tells. -/
namespace Go.Proofs.YtecibbokbonmcaeGreat

theorem overI_bare (l : QL) (b : BL) (t : Int) (q : Nat) : overI (bareQ l) (bareB b) t q = overI l b t q := by
  unfold overI leftT
  rw [len_bareB, takenTo_bare, qu_bare]
  rfl
theorem takesB_bare (X : Bk) (t : Int) : takesB X.bare t = takesB X t := by kernel_rfl
theorem standsIn_bare (l : QL) (p q : Int) : standsIn (bareQ l) p q = standsIn l p q := by
  unfold standsIn
  rw [lineOf_bare]
theorem hitsI_bare (l : QL) (b : BL) (t q : Int) (i : Nat) : hitsI (bareQ l) (bareB b) t q i = hitsI l b t q i := by
  unfold hitsI
  rw [bk_bare, takesB_bare]
  show (standsIn (bareQ l) (bk b i).rq.queue q && _) = _
  rw [standsIn_bare]
theorem lastI_bare (l : QL) (b : BL) (t q : Int) : ∀ n, lastI (bareQ l) (bareB b) t q n = lastI l b t q n
  | 0 => rfl
  | n + 1 => by rw [lastI, lastI, hitsI_bare, lastI_bare l b t q n]
theorem posI_bare (b : BL) (id : Int) : ∀ n, posI (bareB b) id n = posI b id n
  | 0 => rfl
  | n + 1 => by
    rw [posI, posI, posI_bare b id n, bk_bare]
    rfl
theorem putB_bare (b : BL) (x : Bk) : bareB (putB b x) = putB (bareB b) x.bare := by
  unfold putB insB
  show (List.map Bk.bare _) = _
  rw [len_bareB, show (x.bare).id = x.id from rfl, posI_bare]
  simp only [bareB, List.map_append, List.map_cons, List.map_take, List.map_drop]
theorem lessB_bare (b : BL) (i : Nat) : bareB (lessB b i) = lessB (bareB b) i := by
  unfold lessB
  simp only [bareB, List.map_append, List.map_take, List.map_drop]
theorem firstAns_bare {c : Int} {l : QL} {b : BL} {n : Nat} {t q : Int} {f : Bool} (h : FirstAns c l b n t q f) : FirstAns c (bareQ l) (bareB b) n t q f := by
  rcases h with ⟨h1, h2, h3, h4⟩ | ⟨h1, h2, h3, k, h4, h5, h6, h7, h8⟩
  · exact Or.inl ⟨h1, h2, h3, fun u a1 a2 k hk => by rw [overI_bare]; exact h4 u a1 a2 k hk⟩
  · exact Or.inr ⟨h1, h2, h3, k, h4, h5, by rw [overI_bare]; exact h6, fun i hi => by rw [overI_bare]; exact h7 i hi, fun u a1 a2 i hi => by rw [overI_bare]; exact h8 u a1 a2 i hi⟩
theorem Lit.bare {c : Int} {l : QL} {b0 b aw : BL} (h : Lit c l b0 b aw) : Lit c (bareQ l) (bareB b0) (bareB b) (bareB aw) := by
  induction h with
  | start => exact Lit.start
  | @step b aw t q _ hf ih =>
    rw [lessB_bare, putB_bare, ← bk_bare]
    have h1 := firstAns_bare hf
    have h2 := Lit.step ih (by rw [len_bareQ]; exact h1)
    rw [len_bareB, lastI_bare] at h2
    exact h2
/-- the first of n queues of which too much is taken at t -/
def overQ (l : QL) (b : BL) (t : Int) : Nat → Nat → Option Nat
  | 0, _ => none
  | n + 1, q => if overI l b t q = true then some q else overQ l b t n (q + 1)
/-- the soonest time, n of them from t on -/
def overT (l : QL) (b : BL) : Nat → Int → Option (Int × Nat)
  | 0, _ => none
  | n + 1, t => match overQ l b t l.length 0 with
    | some q => some (t, q)
    | none => overT l b n (t + 1)
theorem overQ_none {l : QL} {b : BL} {t : Int} : ∀ {n q : Nat}, (∀ i, q ≤ i → i < q + n → overI l b t i = false) → overQ l b t n q = none
  | 0, _, _ => rfl
  | n + 1, q, h => by
    rw [overQ, h q (Nat.le_refl _) (by omega), if_neg (by decide)]
    exact overQ_none fun i h1 h2 => h i (by omega) (by omega)
theorem overQ_some {l : QL} {b : BL} {t : Int} {k : Nat} (hk : overI l b t k = true) : ∀ {n q : Nat}, q ≤ k → k < q + n → (∀ i, q ≤ i → i < k → overI l b t i = false) → overQ l b t n q = some k
  | 0, _, h1, h2, _ => by omega
  | n + 1, q, h1, h2, h3 => by
    rw [overQ]
    by_cases e : q = k
    · subst e; rw [if_pos hk]
    · rw [h3 q (Nat.le_refl _) (by omega), if_neg (by decide)]
      exact overQ_some hk (by omega) (by omega) fun i a1 a2 => h3 i (by omega) a2
theorem overT_none {l : QL} {b : BL} : ∀ {n : Nat} {t : Int}, (∀ u, t ≤ u → u < t + n → ∀ i, i < l.length → overI l b u i = false) → overT l b n t = none
  | 0, _, _ => rfl
  | n + 1, t, h => by
    rw [overT, overQ_none fun i _ hi => h t (Int.le_refl _) (by omega) i (by omega)]
    exact overT_none fun u h1 h2 => h u (by omega) (by omega)
theorem overT_some {l : QL} {b : BL} {s : Int} {k : Nat} (hk : overI l b s k = true) (hkl : k < l.length) (hf : ∀ i, i < k → overI l b s i = false) : ∀ {n : Nat} {t : Int}, t ≤ s → s < t + n → (∀ u, t ≤ u → u < s → ∀ i, i < l.length → overI l b u i = false) → overT l b n t = some (s, k)
  | 0, _, h1, h2, _ => by omega
  | n + 1, t, h1, h2, h3 => by
    rw [overT]
    by_cases e : t = s
    · subst e
      rw [overQ_some hk (Nat.zero_le _) (by omega) fun i _ hi => hf i hi]
    · rw [overQ_none fun i _ hi => h3 t (Int.le_refl _) (by omega) i (by omega)]
      exact overT_some hk hkl hf (by omega) (by omega) fun u a1 a2 => h3 u (by omega) a2
/-- books are taken away, at most k of them -/
def litF (c : Int) (l : QL) : Nat → BL → BL → BL × BL
  | 0, b, aw => (b, aw)
  | k + 1, b, aw => match overT l b (48 - c).toNat c with
    | none => (b, aw)
    | some (t, q) => litF c l k (lessB b (lastI l b t q b.length)) (putB aw (bk b (lastI l b t q b.length)))
theorem litF_run {c : Int} {l : QL} {b0 b aw : BL} (h : Lit c l b0 b aw) : ∀ k, litF c l (aw.length + k) b0 [] = litF c l k b aw := by
  induction h with
  | start => intro k; rw [List.length_nil, Nat.zero_add]
  | @step b aw t q _ hf ih =>
    intro k
    rw [putB_len, Nat.add_assoc, Nat.add_comm 1 k, ih (k + 1), litF]
    rcases hf with ⟨e, _⟩ | ⟨_, t0, t1, j, hj, hqj, ho, hf1, hf2⟩
    · cases e
    · have hq : q = j := by omega
      subst hq
      rw [overT_some ho hj hf1 t0 (by omega) hf2]
theorem litF_is {c : Int} {l : QL} {b0 b aw : BL} (h : Lit c l b0 b aw) (hno : ∀ u, c ≤ u → u < 48 → ∀ q, q < l.length → overI l b u q = false) {m : Nat} (hm : aw.length ≤ m) : litF c l m b0 [] = (b, aw) := by
  obtain ⟨k, rfl⟩ : ∃ k, m = aw.length + k := ⟨m - aw.length, by omega⟩
  rw [litF_run h k]
  cases k with
  | zero => rfl
  | succ k => rw [litF, overT_none fun u h1 h2 i hi => hno u h1 (by omega) i hi]
theorem begunB_bare (X : Bk) (c : Int) : begunB X.bare c = begunB X c := by kernel_rfl
theorem placeR_bare (l : QL) (b : BL) (r : Rq) : placeR (bareQ l) (bareB b) r.bare = placeR l b r := by
  unfold placeR
  show (if roomE (bareQ l) (bareB b) r.queue = 0 then (if placeErr (roomR (bareQ l) (bareB b) r.queue) r.bare = 0 then findA r.bare (roomR (bareQ l) (bareB b) r.queue) else ([], false)) else ([], false)) = _
  rw [roomE_bare, roomR_bare, findA_bare]
  rfl
theorem replR_bare (c : Int) (l : QL) (b : BL) (X : Bk) : replR c (bareQ l) (bareB b) X.bare = replR c l b X := by
  unfold replR
  rw [begunB_bare, show X.bare.rq.from c = (X.rq.from c).bare from rfl, placeR_bare]
/-- those that were taken away are put back -/
def stlF (c : Int) (l : QL) : BL → BL → List Int → List Int → BL × List Int × List Int
  | [], b, mv, dr => (b, mv, dr)
  | X :: r, b, mv, dr => if (replR c l b X).2 = true then stlF c l r (putB b ⟨X.id, X.rq, none, 0, 0, (replR c l b X).1⟩) (mv ++ [X.id]) dr else stlF c l r b mv (dr ++ [X.id])
theorem stlF_run {c : Int} {l : QL} {b1 aw b : BL} {j : Nat} {mv dr : List Int} (h : Stl c l b1 aw j b mv dr) : stlF c (bareQ l) (bareB aw) (bareB b1) [] [] = stlF c (bareQ l) (bareB (aw.drop j)) (bareB b) mv dr := by
  induction h with
  | start => rfl
  | @moved j b mv dr fa fm fc _ hj hr ih =>
    rw [ih, show aw.drop j = bk aw j :: aw.drop (j + 1) by rw [bk_is hj]; exact (List.getElem_cons_drop hj).symm]
    show stlF c (bareQ l) ((bk aw j).bare :: bareB (aw.drop (j + 1))) _ _ _ = _
    rw [stlF, replR_bare, if_pos hr, putB_bare]
    rfl
  | @dropped j b mv dr _ hj hr ih =>
    rw [ih, show aw.drop j = bk aw j :: aw.drop (j + 1) by rw [bk_is hj]; exact (List.getElem_cons_drop hj).symm]
    show stlF c (bareQ l) ((bk aw j).bare :: bareB (aw.drop (j + 1))) _ _ _ = _
    rw [stlF, replR_bare, if_neg (by rw [hr]; decide)]
    rfl
theorem stlF_is {c : Int} {l : QL} {b1 aw b : BL} {mv dr : List Int} (h : Stl c l b1 aw aw.length b mv dr) : stlF c (bareQ l) (bareB aw) (bareB b1) [] [] = (bareB b, mv, dr) := by
  rw [stlF_run h, List.drop_length]
  rfl
/-- what Change answers, by a function of what is bare -/
def cutF (c : Int) (l : QL) (b : BL) : BL × List Int × List Int := stlF c l (litF c l 12 b []).2 (litF c l 12 b []).1 [] []
theorem cutF_is {c : Int} {l : QL} {b0 b1 aw b : BL} {mv dr : List Int} (hc : Clean l b0) (h0 : 0 ≤ c) (h : Lit c l b0 b1 aw) (hno : ∀ u, c ≤ u → u < 48 → ∀ q, q < l.length → overI l b1 u q = false) (hs : Stl c l b1 aw aw.length b mv dr) : cutF c (bareQ l) (bareB b0) = (bareB b, mv, dr) := by
  have hlen := (h.clean hc h0).2.2.2
  have hfew := hc.few
  have h1 := litF_is h.bare (fun u a1 a2 q hq => by rw [overI_bare]; exact hno u a1 a2 q (by rw [len_bareQ] at hq; exact hq)) (m := 12) (by rw [len_bareB]; omega)
  unfold cutF
  rw [h1]
  exact stlF_is hs
end Go.Proofs.YtecibbokbonmcaeGreat

/- cut.First; and what package cut tells of the farm. -/
namespace Go.Proofs.YtecibbokbonmcaeGreat
open Go.RowKit

theorem results_tmp4 {fn : Func} {t u v x : Tmp} (h : fn.results = #[.tmp t, .tmp u, .tmp v, .tmp x]) (tmps : Array Value) (P : Program) (w : World) :
    (results fn tmps).run P w = .ok (.tuple #[tmps.getD t undef, tmps.getD u undef, tmps.getD v undef, tmps.getD x undef]) w := by
  simp [results, h]
/-- what Change tells, by the function of what is bare -/
def ChTold (w w' : World) (e : Ending) (c n : Int) (tn : Nat) (l : QL) (b : BL) (q : Nat) (rs : RunL) : Prop :=
  ∃ (g k1 : Nat) (l9 : QL) (aa : Option Addr) (k9 : Nat) (b9 : BL) (mv dr : List Int) (ma : Option Addr) (mk : Nat) (da : Option Addr) (dk : Nat),
    e = .returned (.tuple #[.agg #[.int .i64 c, .int .i64 n, .slice (some ⟨g, 0, none⟩) tn k1, .slice aa (List.length b9) k9], .slice ma (List.length mv) mk, .slice da (List.length dr) dk, .int .i64 0]) ∧ StIn w' (some ⟨g, 0, none⟩) tn k1 l9 aa b9.length k9 b9 ∧ cutF c (bareQ (capL l q rs)) (bareB b) = (bareB b9, mv, dr) ∧ OwnInts w' w.heap.size (.slice ma mv.length mk) mv ∧ OwnInts w' w.heap.size (.slice da dr.length dk) dr ∧ Below w.heap.size w w'
theorem ChAns.told {w w' : World} {e : Ending} {c n : Int} {tn : Nat} {l : QL} {b : BL} {q : Nat} {rs : RunL} (h : ChAns w w' e c n tn l b q rs) (hp : planE c n l b = 0) (ht : chkT (capL l q rs) = 0) : ChTold w w' e c n tn l b q rs := by
  obtain ⟨g, k1, l9, aa, k9, b9, b0, b1, aw, mv, dr, ma, mk, da, dk, he, hs, hl, hb, hlit, hno, hstl, hm, hd, hbe⟩ := h
  have hSo := sound_of hp
  have hlen : l9.length = l.length := by
    have h1 := congrArg List.length hl
    rw [len_bareQ, len_bareQ, capL_len] at h1
    exact h1
  have hc : Clean l9 b0 := clean_cap (clean_same hSo.clean hb) (by rw [← chkT_bare, hl, chkT_bare]; exact ht) hlen
  refine ⟨g, k1, l9, aa, k9, b9, mv, dr, ma, mk, da, dk, he, hs, ?_, hm, hd, hbe⟩
  rw [← hl, ← hb]
  exact cutF_is hc hSo.c0 hlit hno hstl

set_option maxRecDepth 100000 in
set_option maxHeartbeats 2000000 in
theorem FirstC_any (w : World) (c n : Int) (ta : Option Addr) (tn tc : Nat) (l : QL) (ba : Option Addr) (bn bc : Nat) (b : BL) (h : StIn w ta tn tc l ba bn bc b) (hk : chkL l b = 0) (h0 : 0 ≤ c) (h1 : c ≤ 48) (hp : planE c n l b = 0 ∨ planE c n l b = 10) :
    Calls Tryz.prog 9 #[.agg #[.int .i64 c, .int .i64 n, .slice ta tn tc, .slice ba bn bc]] w fun e w' => ∃ t q f, e = .returned (.tuple #[.int .i64 t, .int .i64 q, .bool f, .int .i64 0]) ∧ FirstAns c l b tn t q f ∧ Below w.heap.size w w' := by
  obtain ⟨S, hS⟩ : ∃ S, w.heap.size = S := ⟨_, rfl⟩
  obtain ⟨W1, hW1⟩ : ∃ W1, W1 = w.alloc (.cells #[.int .i64 c, .int .i64 n, .slice ta tn tc, .slice ba bn bc] 25) := ⟨_, rfl⟩
  have hb0 : Below w.heap.size w W1 := by rw [hW1]; exact (Below.refl _ _).alloc (Nat.le_refl _) _
  have x1 : StBox W1 S (.int .i64 c) (.int .i64 n) (.slice ta tn tc) (.slice ba bn bc) := by rw [hW1, ← hS]; exact StBox.new w _ _ _ _
  have K1 := CheckS_any W1 c n ta tn tc l ba bn bc b (h.later hb0)
  have K2 := hid fun X (hX : Below w.heap.size w X) => first_any X c n ta tn tc l ba bn bc b (h.later hX) hk h0 h1
  obtain ⟨E, hE⟩ : ∃ E, planE c n l b = E := ⟨_, rfl⟩
  rw [hE] at K1 hp
  have HK1 := hid K1
  have X1 := hid x1
  have HB0 := hid hb0
  have HW1 := hid hW1
  obtain ⟨c0, c1, c2, c3⟩ := x1.cells
  clear K1 x1 hb0 hW1 h hE
  rcases hp with rfl | rfl
  all_goals
    go_enter Tryz.func9, Tryz.ntmps9
    go_wp2_with fail
    rw [← HW1.out]
    refine HK1.out.mono ?_
    rintro e w1 ⟨rfl, hb⟩
    have HX1 := hid (X1.out.later hb)
    have HB1 := hid (below_from HB0.out hb)
    clear hb c0 c1 c2 c3
    obtain ⟨c0, c1, c2, c3⟩ := HX1.out.cells
    go_wp2_with fail
    refine (K2.out w1 HB1.out).mono ?_
    rintro e w2 ⟨t, q, f, rfl, hans, hb⟩
    have HA := hid hans
    have HB2 := hid (below_from HB1.out hb)
    clear hans hb
    go_wp2
    exact bodyPost_ret (v := .tuple #[.int .i64 t, .int .i64 q, .bool f, .int .i64 0]) (results_tmp4 Tryz.results9 _ _ _) rfl ⟨t, q, f, rfl, HA.out, HB2.out⟩
theorem ck_ok (c d e : Nat) : planE 5 6 (faL c 10) (faB d e) = 0 := by kernel_rfl
theorem ck_t1 (c : Nat) : chkT (capL (faL c 10) 1 [(0, 3), (22, 6)]) = 0 := by kernel_rfl
theorem ck_t0 (c : Nat) : chkT (capL (faL c 10) 1 []) = 1 := by kernel_rfl
theorem ck_t2 (c : Nat) : chkT (capL (faL c 10) 0 [(0, 9)]) = 0 := by kernel_rfl
theorem ck_1 (c d e : Nat) : (cutF 5 (bareQ (capL (faL c 10) 1 [(0, 3), (22, 6)])) (bareB (faB d e))).2 = ([1], []) := by kernel_rfl
theorem ck_1b (c d e : Nat) : (cutF 5 (bareQ (capL (faL c 10) 1 [(0, 3), (22, 6)])) (bareB (faB d e))).1.length = 2 ∧ (bk (cutF 5 (bareQ (capL (faL c 10) 1 [(0, 3), (22, 6)])) (bareB (faB d e))).1 0).bs = [(0, 5), (1, 22)] := ⟨by kernel_rfl, by kernel_rfl⟩
theorem ck_2 (c d e : Nat) : (cutF 5 (bareQ (capL (faL c 10) 0 [(0, 9)])) (bareB (faB d e))).2 = ([4], []) := by kernel_rfl
theorem ck_2b (c d e : Nat) : (cutF 5 (bareQ (capL (faL c 10) 0 [(0, 9)])) (bareB (faB d e))).1.length = 2 ∧ (bk (cutF 5 (bareQ (capL (faL c 10) 0 [(0, 9)])) (bareB (faB d e))).1 1).bs = [(0, 5)] := ⟨by kernel_rfl, by kernel_rfl⟩
theorem ck_k9 (c d e : Nat) : chkL (faL c 9) (faB d e) = 0 := by kernel_rfl
theorem ck_p9 (c d e : Nat) : planE 5 6 (faL c 9) (faB d e) = 10 := by kernel_rfl
theorem ck_k (c d e : Nat) : chkL (faL c 10) (faB d e) = 0 := by kernel_rfl
theorem ck_f (c d e : Nat) : overT (faL c 10) (faB d e) 43 5 = none := by kernel_rfl
theorem ck_f9 (c d e : Nat) : overT (faL c 9) (faB d e) 43 5 = some (13, 0) := by kernel_rfl
/-- First's answer is what the search tells -/
theorem firstC_told {c : Int} {l : QL} {b : BL} {t q : Int} {f : Bool} (h : FirstAns c l b l.length t q f) (h0 : 0 ≤ c) (h1 : c ≤ 48) : (overT l b (48 - c).toNat c = none ∧ f = false ∧ t = 0 ∧ q = 0) ∨ ∃ k : Nat, overT l b (48 - c).toNat c = some (t, k) ∧ f = true ∧ q = k := by
  rcases h with ⟨hf, ht, hq, hno⟩ | ⟨hf, t0, t1, k, hk, hq, ho, hf1, hf2⟩
  · exact Or.inl ⟨overT_none fun u a1 a2 i hi => hno u a1 (by omega) i hi, hf, ht, hq⟩
  · exact Or.inr ⟨k, overT_some ho hk hf1 t0 (by omega) hf2, hf, hq⟩
end Go.Proofs.YtecibbokbonmcaeGreat

/- cut.Change and cut.First at the farm. -/
namespace Go.Proofs.YtecibbokbonmcaeGreat
open Go.RowKit

theorem SameInts_same (w : World) (a1 a2 : Option Addr) (n cap1 cap2 : Nat) (l : List Int) (h1 : IntsIn w a1 n cap1 l) (h2 : IntsIn w a2 n cap2 l) :
   Calls Tryz.prog 14 #[.slice a1 n cap1, .slice a2 n cap2] w fun e w' => e = .returned (.bool true) ∧ ∃ d, w' = w.drewN d := by
  have hle := h1.le
  have hcb := h1.capb
  have HC1 := hid h1.cells
  have HC2 := hid h2.cells
  clear h1 h2
  have hne : ((n : Int) != n) = false := by simp
  by_cases hp : 0 < n
  · obtain ⟨b1, o1, rfl, c1⟩ := HC1.out hp
    obtain ⟨b2, o2, rfl, c2⟩ := HC2.out hp
    go_enter Tryz.func14, Tryz.ntmps14
    go_wp2
    go_loopw [5] (fun s wr => ∃ j : Nat, s = .int .i64 j ∧ j ≤ n ∧ ∃ d, wr = w.drewN d) (fun s _ => n - (intOf s).toNat)
    case atStart => exact ⟨0, rfl, by omega, 0, rfl⟩
    case round =>
      obtain ⟨j, rfl, hj1, hd⟩ := hrel
      have HD : Hid (∃ d, wr = w.drewN d) := hd
      have hcr : ∀ a, wr.cell? a = w.cell? a := by obtain ⟨d, rfl⟩ := hd; exact fun a => rfl
      clear hd
      by_cases hj : j < n
      · have hj' : (j : Int) < n := by omega
        have d0 := (hcr _).trans (c1 j hj)
        have e0 := (hcr _).trans (c2 j hj)
        obtain ⟨z, hz⟩ : ∃ z, l.getD j 0 = z := ⟨_, rfl⟩
        rw [hz] at d0 e0
        have hzz : (z != z) = false := by simp
        clear hcr c1 c2 hz
        go_wp2
        go_quiet (fail)
        go_wp2
        go_roundw
        case rel => exact ⟨j + 1, by go_num, by omega, drawn_more HD _⟩
        case measure => simp [intOf]; omega
      · obtain rfl : n = j := by omega
        clear hcr c1 c2
        go_wp2
        go_ret
        exact ⟨rfl, HD.out⟩
  · obtain rfl : n = 0 := by omega
    go_enter Tryz.func14, Tryz.ntmps14
    go_wp2
    go_loop [5] (fun s => s = .int .i64 0) (fun _ => 0)
    case atStart => rfl
    case round =>
      subst hrel
      go_wp2
      go_ret
      exact ⟨rfl, 0, rfl⟩

theorem fa_C1 (w : World) (c d e P : Nat) (hF : FarmIn w c d e 10) (hr : RunsIn w (some ⟨P, 0, none⟩) 2 2 [(0, 3), (22, 6)]) :
    Calls Tryz.prog 8 #[.agg #[.int .i64 5, .int .i64 6, .slice (some ⟨c + 4, 0, none⟩) 4 4, .slice (some ⟨e + 3, 0, none⟩) 2 2], .int .i64 1, .slice (some ⟨P, 0, none⟩) 2 2] w fun r w' => ∃ g k1 gb ob k9 ba bc ma mk da dk, r = .returned (.tuple #[.agg #[.int .i64 5, .int .i64 6, .slice (some ⟨g, 0, none⟩) 4 k1, .slice (some ⟨gb, ob, none⟩) 2 k9], .slice ma 1 mk, .slice da 0 dk, .int .i64 0]) ∧ (2 ≤ k9 ∧ k9 ≤ 9223372036854775807) ∧ w'.cell? ⟨gb, ob + 0 * 7 + 6, none⟩ = some (.slice ba 2 bc) ∧ RunsIn w' ba 2 bc [(0, 5), (1, 22)] ∧ IntsIn w' ma 1 mk [1] ∧ Below w.heap.size w w' := by
  refine (Change_any w 5 6 _ _ _ _ _ _ _ _ hF.st 1 (by decide) _ _ _ _ hr (by decide) (ck_ok c d e)).mono ?_
  rintro r w' (⟨h, _⟩ | ⟨_, h⟩)
  · exact absurd (ck_t1 c) h
  · obtain ⟨g, k1, l9, aa, k9, b9, mv, dr, ma, mk, da, dk, rfl, hs, hcut, hm, hd, hb⟩ := h.told (ck_ok c d e) (ck_t1 c)
    have h2 := congrArg Prod.snd hcut
    rw [ck_1] at h2
    have hmv : mv = [1] := (congrArg Prod.fst h2).symm
    have hdr : dr = [] := (congrArg Prod.snd h2).symm
    have h1 := ck_1b c d e
    rw [congrArg Prod.fst hcut] at h1
    have hlen : b9.length = 2 := by have := h1.1; rw [len_bareB] at this; exact this
    have hbs : (bk b9 0).bs = [(0, 5), (1, 22)] := by have := h1.2; rw [bk_bare] at this; exact this
    subst hmv hdr
    obtain ⟨a', k', e', hI⟩ := OwnInts.parts hm
    simp only [Value.slice.injEq] at e'
    obtain ⟨rfl, _, rfl⟩ := e'
    have hbt := hs.2.bites 0 (by omega)
    obtain ⟨b0, o0, rfl, hc⟩ := hs.2.cells (by omega)
    have c6 := (hc 0 (by omega)).2.2.2.2.2.2
    rw [hbs] at hbt
    have hn := hbt.len
    rw [hn] at hbt c6
    have hle := hs.2.le
    have hcb := hs.2.capb
    rw [hlen] at hle ⊢
    exact ⟨g, k1, b0, o0, k9, _, _, ma, mk, da, dk, rfl, ⟨hle, hcb⟩, c6, hbt, hI, hb⟩

theorem fa_C2 (w : World) (c d e P : Nat) (hF : FarmIn w c d e 10) (hr : RunsIn w (some ⟨P, 0, none⟩) 1 1 [(0, 9)]) :
    Calls Tryz.prog 8 #[.agg #[.int .i64 5, .int .i64 6, .slice (some ⟨c + 4, 0, none⟩) 4 4, .slice (some ⟨e + 3, 0, none⟩) 2 2], .int .i64 0, .slice (some ⟨P, 0, none⟩) 1 1] w fun r w' => ∃ g k1 gb ob k9 ba bc ma mk da dk, r = .returned (.tuple #[.agg #[.int .i64 5, .int .i64 6, .slice (some ⟨g, 0, none⟩) 4 k1, .slice (some ⟨gb, ob, none⟩) 2 k9], .slice ma 1 mk, .slice da 0 dk, .int .i64 0]) ∧ (2 ≤ k9 ∧ k9 ≤ 9223372036854775807) ∧ w'.cell? ⟨gb, ob + 1 * 7 + 6, none⟩ = some (.slice ba 1 bc) ∧ RunsIn w' ba 1 bc [(0, 5)] ∧ IntsIn w' ma 1 mk [4] ∧ Below w.heap.size w w' := by
  refine (Change_any w 5 6 _ _ _ _ _ _ _ _ hF.st 0 (by decide) _ _ _ _ hr (by decide) (ck_ok c d e)).mono ?_
  rintro r w' (⟨h, _⟩ | ⟨_, h⟩)
  · exact absurd (ck_t2 c) h
  · obtain ⟨g, k1, l9, aa, k9, b9, mv, dr, ma, mk, da, dk, rfl, hs, hcut, hm, hd, hb⟩ := h.told (ck_ok c d e) (ck_t2 c)
    have h2 := congrArg Prod.snd hcut
    rw [ck_2] at h2
    have hmv : mv = [4] := (congrArg Prod.fst h2).symm
    have hdr : dr = [] := (congrArg Prod.snd h2).symm
    have h1 := ck_2b c d e
    rw [congrArg Prod.fst hcut] at h1
    have hlen : b9.length = 2 := by have := h1.1; rw [len_bareB] at this; exact this
    have hbs : (bk b9 1).bs = [(0, 5)] := by have := h1.2; rw [bk_bare] at this; exact this
    subst hmv hdr
    obtain ⟨a', k', e', hI⟩ := OwnInts.parts hm
    simp only [Value.slice.injEq] at e'
    obtain ⟨rfl, _, rfl⟩ := e'
    have hbt := hs.2.bites 1 (by omega)
    obtain ⟨b0, o0, rfl, hc⟩ := hs.2.cells (by omega)
    have c6 := (hc 1 (by omega)).2.2.2.2.2.2
    rw [hbs] at hbt
    have hn := hbt.len
    rw [hn] at hbt c6
    have hle := hs.2.le
    have hcb := hs.2.capb
    rw [hlen] at hle ⊢
    exact ⟨g, k1, b0, o0, k9, _, _, ma, mk, da, dk, rfl, ⟨hle, hcb⟩, c6, hbt, hI, hb⟩

theorem fa_C0 (w : World) (c d e : Nat) (hF : FarmIn w c d e 10) :
    Calls Tryz.prog 8 #[.agg #[.int .i64 5, .int .i64 6, .slice (some ⟨c + 4, 0, none⟩) 4 4, .slice (some ⟨e + 3, 0, none⟩) 2 2], .int .i64 1, .slice none 0 0] w fun r w' => r = .returned (.tuple #[.agg #[.int .i64 0, .int .i64 0, .slice none 0 0, .slice none 0 0], .slice none 0 0, .slice none 0 0, .int .i64 1]) ∧ Below w.heap.size w w' := by
  refine (Change_any w 5 6 _ _ _ _ _ _ _ _ hF.st 1 (by decide) none 0 0 [] ⟨rfl, Nat.le_refl _, by omega, by omega, fun h => by omega⟩ (by decide) (ck_ok c d e)).mono ?_
  rintro r w' (⟨_, h, hb⟩ | ⟨h, _⟩)
  · rw [ck_t0] at h
    exact ⟨h, hb⟩
  · rw [ck_t0] at h; cases h
theorem fa_F0 (w : World) (c d e : Nat) (hF : FarmIn w c d e 10) :
    Calls Tryz.prog 9 #[.agg #[.int .i64 5, .int .i64 6, .slice (some ⟨c + 4, 0, none⟩) 4 4, .slice (some ⟨e + 3, 0, none⟩) 2 2]] w fun r w' => r = .returned (.tuple #[.int .i64 0, .int .i64 0, .bool false, .int .i64 0]) ∧ Below w.heap.size w w' := by
  refine (FirstC_any w 5 6 _ _ _ _ _ _ _ _ hF.st (ck_k c d e) (by decide) (by decide) (Or.inl (ck_ok c d e))).mono ?_
  rintro r w' ⟨t, q, f, rfl, ha, hb⟩
  rcases firstC_told ha (by decide) (by decide) with ⟨_, rfl, rfl, rfl⟩ | ⟨k, h, _⟩
  · exact ⟨rfl, hb⟩
  · rw [show ((48 : Int) - 5).toNat = 43 from rfl, ck_f] at h; cases h
theorem fa_F9 (w : World) (c d e : Nat) (hF : FarmIn w c d e 9) :
    Calls Tryz.prog 9 #[.agg #[.int .i64 5, .int .i64 6, .slice (some ⟨c + 4, 0, none⟩) 4 4, .slice (some ⟨e + 3, 0, none⟩) 2 2]] w fun r w' => r = .returned (.tuple #[.int .i64 13, .int .i64 0, .bool true, .int .i64 0]) ∧ Below w.heap.size w w' := by
  refine (FirstC_any w 5 6 _ _ _ _ _ _ _ _ hF.st (ck_k9 c d e) (by decide) (by decide) (Or.inr (ck_p9 c d e))).mono ?_
  rintro r w' ⟨t, q, f, rfl, ha, hb⟩
  rcases firstC_told ha (by decide) (by decide) with ⟨h, _⟩ | ⟨k, h, rfl, rfl⟩
  · rw [show ((48 : Int) - 5).toNat = 43 from rfl, ck_f9] at h; cases h
  · rw [show ((48 : Int) - 5).toNat = 43 from rfl, ck_f9] at h
    simp only [Option.some.injEq, Prod.mk.injEq] at h
    obtain ⟨rfl, rfl⟩ := h
    exact ⟨rfl, hb⟩
end Go.Proofs.YtecibbokbonmcaeGreat

/- cut.Change, whatever comes in; and what CutTrue asks of it, plain. -/
namespace Go.Proofs.YtecibbokbonmcaeGreat
open Go.RowKit

theorem Change_all (w : World) (c n : Int) (ta : Option Addr) (tn tc : Nat) (l : QL) (ba : Option Addr) (bn bc : Nat) (b : BL) (h : StIn w ta tn tc l ba bn bc b) (q : Int) (ra : Option Addr) (rn rc : Nat) (rs : RunL) (hr : RunsIn w ra rn rc rs) (hrn : rn ≤ 1048576) :
    Calls Tryz.prog 8 #[.agg #[.int .i64 c, .int .i64 n, .slice ta tn tc, .slice ba bn bc], .int .i64 q, .slice ra rn rc] w fun e w' =>
      (∃ E : Int, E ≠ 0 ∧ e = .returned (.tuple #[.agg #[.int .i64 0, .int .i64 0, .slice none 0 0, .slice none 0 0], .slice none 0 0, .slice none 0 0, .int .i64 E]) ∧ Below w.heap.size w w') ∨
      (planE c n l b = 0 ∧ 0 ≤ q ∧ q < tn ∧ chkT (capL l q.toNat rs) = 0 ∧ ChAns w w' e c n tn l b q.toNat rs) := by
  by_cases hp : planE c n l b = 0
  · by_cases hq : 0 ≤ q ∧ q < tn
    · have K := Change_any w c n ta tn tc l ba bn bc b h q.toNat (by omega) ra rn rc rs hr hrn hp
      rw [Int.toNat_of_nonneg hq.1] at K
      refine K.mono ?_
      rintro e w' (⟨h1, h2, h3⟩ | ⟨h1, h2⟩)
      · exact Or.inl ⟨_, h1, h2, h3⟩
      · exact Or.inr ⟨hp, hq.1, hq.2, h1, h2⟩
    · refine (Change_miss w c n ta tn tc l ba bn bc b h q ra rn rc hp hq).mono ?_
      rintro e w' ⟨h1, h2⟩
      exact Or.inl ⟨6, by decide, h1, h2⟩
  · refine (Change_wrong w c n ta tn tc l ba bn bc b h q ra rn rc hp).mono ?_
    rintro e w' ⟨h1, h2⟩
    exact Or.inl ⟨_, hp, h1, h2⟩
theorem find_at {c n : Int} {l : QL} {b : BL} (h : Sound c n l b) {i : Nat} (hi : i < b.length) : findE c n l b (bk b i).id = 0 ∧ findI c n l b (bk b i).id = i := by
  have h1 := id_of h hi
  have h2 := planE_ok h
  refine ⟨?_, ?_⟩
  · unfold findE
    rw [if_pos h2, h1]
    rfl
  · unfold findI
    rw [if_pos h2, h1]
theorem find_not {c n : Int} {l : QL} {b : BL} (h : Sound c n l b) {id : Int} (hno : ∀ x ∈ b, x.id ≠ id) : findE c n l b id = 6 := by
  have h2 := planE_ok h
  have h1 : bookAt b id = none := by
    cases e : bookAt b id with
    | none => rfl
    | some i =>
      have h3 := findFrom_some e
      exfalso
      have h4 := h3.2.2.1
      simp only [beq_iff_eq] at h4
      exact hno _ (bk_mem (by omega)) h4
  unfold findE
  rw [if_pos h2, h1]
  rfl
/-- what CutTrue asks of one book -/
def RoundOk (c n : Int) (l9 : QL) (b9 : BL) (mv dr : List Int) (X : Bk) : Prop :=
  (mv.count X.id = 0 ∧ dr.count X.id = 0 ∧ ∃ i : Nat, i < b9.length ∧ findE c n l9 b9 X.id = 0 ∧ findI c n l9 b9 X.id = i ∧ (bk b9 i).rq.bare = X.rq.bare ∧ (bk b9 i).bs = X.bs) ∨
  (mv.count X.id = 1 ∧ dr.count X.id = 0 ∧ ∃ i : Nat, i < b9.length ∧ findE c n l9 b9 X.id = 0 ∧ findI c n l9 b9 X.id = i ∧ (bk b9 i).rq.bare = X.rq.bare ∧ ∀ j, j < (bk b9 i).bs.length → c ≤ rN (bk b9 i).bs j) ∨
  (mv.count X.id = 0 ∧ dr.count X.id = 1 ∧ findE c n l9 b9 X.id = 6)
theorem round_ok {c n : Int} {l9 : QL} {b0 b9 : BL} {mv dr : List Int} (h : CutFacts c n l9 b0 b9 mv dr) {X Y : Bk} (hX : X ∈ b0) (hY : Y.bare = X.bare) : RoundOk c n l9 b9 mv dr Y := by
  have hid : Y.id = X.id := show Y.bare.id = X.bare.id by rw [hY]
  have hrq : Y.rq.bare = X.rq.bare := show Y.bare.rq = X.bare.rq by rw [hY]
  have hbs : Y.bs = X.bs := show Y.bare.bs = X.bare.bs by rw [hY]
  unfold RoundOk
  rw [hid, hrq, hbs]
  rcases h.each X hX with ⟨h1, h2, h3⟩ | ⟨h1, h2, Z, hZ, m1, m2, m3⟩ | ⟨h1, h2, h3⟩
  · obtain ⟨i, hi, rfl⟩ := mem_bk h3
    obtain ⟨f1, f2⟩ := find_at h.sound hi
    exact Or.inl ⟨h1, h2, i, hi, f1, f2, rfl, rfl⟩
  · obtain ⟨i, hi, rfl⟩ := mem_bk hZ
    obtain ⟨f1, f2⟩ := find_at h.sound hi
    rw [m1] at f1 f2
    exact Or.inr (Or.inl ⟨h1, h2, i, hi, f1, f2, by rw [m2], m3⟩)
  · exact Or.inr (Or.inr ⟨h1, h2, find_not h.sound h3⟩)
/-- what comes of a Change, as CutTrue looks at it -/
def ChTrue (w w' : World) (e : Ending) (c n : Int) (tn : Nat) (b : BL) : Prop :=
  ∃ (g k1 : Nat) (l9 : QL) (aa : Option Addr) (k9 : Nat) (b9 : BL) (mv dr : List Int) (ma : Option Addr) (mk : Nat) (da : Option Addr) (dk : Nat),
    e = .returned (.tuple #[.agg #[.int .i64 c, .int .i64 n, .slice (some ⟨g, 0, none⟩) tn k1, .slice aa (List.length b9) k9], .slice ma (List.length mv) mk, .slice da (List.length dr) dk, .int .i64 0]) ∧ StIn w' (some ⟨g, 0, none⟩) tn k1 l9 aa b9.length k9 b9 ∧ planE c n l9 b9 = 0 ∧ b9.length + dr.length = b.length ∧ (mv.length ≤ 12 ∧ dr.length ≤ 12 ∧ b.length ≤ 12) ∧ (∀ k, k < b.length → RoundOk c n l9 b9 mv dr (bk b k)) ∧ IntsIn w' ma mv.length mk mv ∧ IntsIn w' da dr.length dk dr ∧ Below w.heap.size w w'
theorem own_ints_is {w : World} {B : Nat} {a : Option Addr} {m k : Nat} {l : List Int} (h : OwnInts w B (.slice a m k) l) : IntsIn w a l.length k l := by
  obtain ⟨a', k', e, h1⟩ := OwnInts.parts h
  simp only [Value.slice.injEq] at e
  obtain ⟨rfl, _, rfl⟩ := e
  exact h1
theorem ChAns.true {w w' : World} {e : Ending} {c n : Int} {tn : Nat} {l : QL} {b : BL} {q : Nat} {rs : RunL} (h : ChAns w w' e c n tn l b q rs) (hp : planE c n l b = 0) (ht : chkT (capL l q rs) = 0) : ChTrue w w' e c n tn b := by
  obtain ⟨g, k1, l9, aa, k9, b9, b0, b1, aw, mv, dr, ma, mk, da, dk, he, hs, hl, hb, hlit, hno, hstl, hm, hd, hbe⟩ := h
  have hSo := sound_of hp
  have hlen : l9.length = l.length := by
    have h1 := congrArg List.length hl
    rw [len_bareQ, len_bareQ, capL_len] at h1
    exact h1
  have hc : Clean l9 b0 := clean_cap (clean_same hSo.clean hb) (by rw [← chkT_bare, hl, chkT_bare]; exact ht) hlen
  obtain ⟨u1, u2, u3⟩ := sound_up hSo
  have hbl : b0.length = b.length := bare_len hb
  have hat : ∀ i, (bk b0 i).bare = (bk b i).bare := bare_at hb
  have v1 : Up b0 := by
    unfold Up
    rw [List.pairwise_iff_getElem]
    intro i j hi hj hij
    have h1 := ids_rise hSo (j := j) (by omega) hij
    rw [← bk_is hi, ← bk_is hj, show (bk b0 i).id = (bk b0 i).bare.id from rfl, show (bk b0 j).id = (bk b0 j).bare.id from rfl, hat, hat]
    exact h1
  have v2 : ∀ x ∈ b0, 0 ≤ x.id ∧ x.id < n := by
    intro x hx
    obtain ⟨i, hi, rfl⟩ := mem_bk hx
    rw [show (bk b0 i).id = (bk b0 i).bare.id from rfl, hat]
    exact u2 (bk b i) (bk_mem (by omega))
  have v3 : ∀ x ∈ b0, c < overV x := by
    intro x hx
    obtain ⟨i, hi, rfl⟩ := mem_bk hx
    rw [← overV_bare, hat, overV_bare]
    exact u3 _ (bk_mem (by omega))
  have F := cut_facts (n := n) hc hSo.c0 hSo.c48 hSo.n0 hSo.n1 v1 v2 v3 hlit hno hstl
  exact ⟨g, k1, l9, aa, k9, b9, mv, dr, ma, mk, da, dk, he, hs, planE_ok F.sound, by have := F.len; omega, ⟨F.few.1, F.few.2, hSo.clean.few⟩, fun k hk => round_ok F (bk_mem (show k < b0.length by omega)) (hat k).symm, own_ints_is hm, own_ints_is hd, hbe⟩
end Go.Proofs.YtecibbokbonmcaeGreat

/- Of a right state, plain: how much there is of it; with another Cap for a queue: what fits; if all fits nobody is taken away. -/
namespace Go.Proofs.YtecibbokbonmcaeGreat
open Go.RowKit

theorem modest1_of {w : World} {ta : Option Addr} {tn tc : Nat} {l : QL} {ba : Option Addr} {bn bc : Nat} {b : BL} (h : StIn w ta tn tc l ba bn bc b) (hc : Clean l b) : Modest1 tn l bn b := by
  have hm := modest_of h hc
  have hbl := h.2.len
  have htl := h.1.len
  have hfew := hc.few
  obtain ⟨t1, t2, t3⟩ := caps_few h.1 hc.tree
  refine ⟨hm.t0, by omega, fun i hi => ⟨?_, hm.caps i hi⟩, by omega, fun i hi => ⟨?_, hm.ps i hi⟩, fun i hi => ⟨?_, hm.bs i hi⟩⟩
  · have h1 := (cap_val hc.tree (p := i) (by omega)).1
    have h2 := (h.1.caps i hi).len
    have h3 : 0 < (qu l i).runs.length := h1.1
    omega
  · have e1 := RunsIn.len (h.2.rqs i hi)
    have m := (no_error_at hc.tree (hc.each i (by omega))).1
    obtain ⟨m1, m2, m3⟩ := meets_split.1 m
    have := of_decide_eq_true (chkR_zero.1 m1).2.1
    omega
  · have e1 := (h.2.bites i hi).len
    have m := (no_error_at hc.tree (hc.each i (by omega))).1
    obtain ⟨m1, m2, m3⟩ := meets_split.1 m
    have := wantedN_pos m1
    omega
theorem qu_cap {l : QL} {q : Nat} (hq : q < l.length) (rs : RunL) (i : Nat) : qu (capL l q rs) i = if i = q then ⟨(qu l q).name, (qu l q).parent, none, 0, 0, rs⟩ else qu l i := qu_set _ hq i
theorem lineF_par {l l' : QL} (h : ∀ i, (qu l i).parent = (qu l' i).parent) : ∀ f q, lineF l f q = lineF l' f q
  | 0, _ => rfl
  | f + 1, q => by rw [lineF, lineF, h, lineF_par h f]
theorem useTo_par {l l' : QL} (h : ∀ i, (qu l i).parent = (qu l' i).parent) (b : BL) (q t : Nat) : ∀ j, useTo l b q t j = useTo l' b q t j
  | 0 => rfl
  | j + 1 => by rw [useTo, useTo, useTo_par h b q t j, show lineOf l (bk b j).rq.queue = lineOf l' (bk b j).rq.queue from lineF_par h 5 _]
theorem cap_par {l : QL} {q : Nat} (hq : q < l.length) (rs : RunL) : ∀ i, (qu (capL l q rs) i).parent = (qu l i).parent := fun i => by
  rw [qu_cap hq]
  split
  · rename_i e; rw [e]
  · rfl
theorem cap_clean {l : QL} {b : BL} {q : Nat} {rs : RunL} (h : Clean l b) (ht : chkT (capL l q rs) = 0) : Clean (capL l q rs) b := clean_cap h ht (capL_len l q rs)
theorem cap_fine {l : QL} {q : Nat} {rs : RunL} (hq : q < l.length) (ht : chkT (capL l q rs) = 0) : Fine rs ∧ ∀ t : Nat, 0 ≤ vals rs t ∧ vals rs t ≤ 50 := by
  have h := cap_val ht (p := q) (by rw [capL_len]; exact hq)
  rw [qu_cap hq, if_pos rfl] at h
  exact h
theorem min_ok {f g : RunL} (hf : Fine f) (hg : Fine g) (vf : ∀ t : Nat, 0 ≤ vals f t ∧ vals f t ≤ 50) (vg : ∀ t : Nat, 0 ≤ vals g t ∧ vals g t ≤ 50) : joinR (fun x y => min x y) f g = ((joinR (fun x y => min x y) f g).1, 0) := by
  have h1 : (fine f && fine g) = true := by rw [fine_iff.2 hf, fine_iff.2 hg]; rfl
  have h2 : allTo (jv (fun x y => min x y) f g) 48 = true := (allTo_iff _ 48).2 fun i _ => by
    rw [bdd_iff]
    have a := vf i
    have b := vg i
    show -1048576 ≤ min (vals f i) (vals g i) ∧ min (vals f i) (vals g i) ≤ 1048576
    omega
  unfold joinR tell
  rw [if_pos h1, if_pos h2]
/-- with no less room all fits still -/
theorem more_fits {c n : Int} {l : QL} {b : BL} (hS : Sound c n l b) {q : Nat} {rs : RunL} (hq : q < l.length) (ht : chkT (capL l q rs) = 0) (hr : (joinR (fun x y => min x y) (qu l q).runs rs).1 = (qu l q).runs) : fitsR (capL l q rs) b c = true := by
  obtain ⟨g1, g2⟩ := cap_fine hq ht
  obtain ⟨f1, f2⟩ := cap_val hS.clean.tree (p := q) hq
  have hj := min_ok f1 g1 f2 g2
  rw [hr] at hj
  rw [fits_iff (cap_clean hS.clean ht) hS.c0 hS.c48]
  intro k hk t h1 h2
  rw [capL_len] at hk
  rw [useTo_par (cap_par hq rs), qu_cap hq]
  have h3 := hS.fits k hk t h1 h2
  split
  · rename_i e
    subst e
    have h4 := joinR_val hj t h2
    show useTo l b k t b.length ≤ vals rs t
    have h5 : vals (qu l k).runs t = min (vals (qu l k).runs t) (vals rs t) := h4
    omega
  · exact h3
/-- I3: if all fits nobody is moved or dropped -/
theorem none_gone {c n : Int} {l l9 : QL} {b b0 b1 aw b9 : BL} {mv dr : List Int} {q : Nat} {rs : RunL} (hS : Sound c n l b) (ht : chkT (capL l q rs) = 0) (hf : fitsR (capL l q rs) b c = true) (hl : bareQ l9 = bareQ (capL l q rs)) (hb : bareB b0 = bareB b)
    (hL : Lit c l9 b0 b1 aw) (hs : Stl c l9 b1 aw aw.length b9 mv dr) : mv = [] ∧ dr = [] ∧ bareB b9 = bareB b := by
  have hc := cap_clean hS.clean ht
  have hlen : l9.length = (capL l q rs).length := by
    have h1 := congrArg List.length hl
    rw [len_bareQ, len_bareQ] at h1
    exact h1
  obtain ⟨rfl, rfl⟩ := hL.none fun u h1 h2 k hk => by
    rw [← overI_bare, hl, hb, overI_bare]
    cases ho : overI (capL l q rs) b u k with
    | false => rfl
    | true =>
      have h3 := (over_iff hc (by omega) (by have := hS.c0; omega) h2).1 ho
      have h4 := (fits_iff hc hS.c0 hS.c48).1 hf k (by omega) u.toNat (by omega) (by omega)
      omega
  have hs : Stl c l9 b1 [] 0 b9 mv dr := hs
  cases hs
  exact ⟨rfl, rfl, hb⟩
end Go.Proofs.YtecibbokbonmcaeGreat

/- What CutFair asks, plain: who gave way took something where too much was taken; a row of numbers put behind another; one book out of a row. -/
namespace Go.Proofs.YtecibbokbonmcaeGreat
open Go.RowKit

theorem allN_neg {p : Nat → Bool} : ∀ {n : Nat}, allN p n = false → ∃ k, k < n ∧ p k = false
  | 0, h => by simp [allN] at h
  | n + 1, h => by
    rw [allN, Bool.and_eq_false_iff] at h
    rcases h with h | h
    · obtain ⟨k, hk, h2⟩ := allN_neg h
      exact ⟨k, by omega, h2⟩
    · exact ⟨n, by omega, h⟩
theorem bookTo_has {x : Bk} (h : meets x.rq x.bs = true) {t i : Nat} (h1 : rN x.bs i ≤ t) (h2 : (t : Int) < rN x.bs i + lenOf x.rq x.bs i) : ∀ k, i < k → k ≤ x.bs.length → 0 < bookTo x t k
  | 0, hk, _ => by omega
  | k + 1, hk, hl => by
    rw [bookTo]
    have a := bookTo_bd h t k (by omega)
    have b := biteV_bd h (k := k) (by omega) t
    by_cases e : i = k
    · subst e
      have c := bite_all h (k := i) (by omega)
      unfold biteV
      rw [if_pos ⟨h1, h2⟩]
      omega
    · have := bookTo_has h h1 h2 k (by omega) (by omega)
      omega
theorem takes_pos {x : Bk} (h : meets x.rq x.bs = true) {t : Int} (h0 : 0 ≤ t) (ht : takesB x t = true) : 0 < bookTo x t.toNat x.bs.length := by
  unfold takesB at ht
  rw [Bool.not_eq_true'] at ht
  obtain ⟨i, hi, h1⟩ := allN_neg ht
  simp only [takesI, Bool.not_eq_false', Bool.and_eq_true, decide_eq_true_eq] at h1
  exact bookTo_has h (i := i) (by omega) (by omega) _ hi (Nat.le_refl _)
/-- I3: who gave way took something at a time, from the clock on, at which too much was taken of a queue that it is under -/
theorem fair_at {c n : Int} {l l9 : QL} {b b0 b1 aw b9 : BL} {mv dr : List Int} {q : Nat} {rs : RunL} (hS : Sound c n l b) (ht : chkT (capL l q rs) = 0) (hl : bareQ l9 = bareQ (capL l q rs)) (hb : bareB b0 = bareB b)
    (hL : Lit c l9 b0 b1 aw) (hs : Stl c l9 b1 aw aw.length b9 mv dr) : ∀ id, id ∈ mv ++ dr → ∃ k, k < b.length ∧ findE c n l b id = 0 ∧ findI c n l b id = k ∧ ∃ t p : Nat, c ≤ t ∧ t < 48 ∧ p < l.length ∧ vals (qu (capL l q rs) p).runs t < useTo (capL l q rs) b p t b.length ∧ 0 < useTo (capL l q rs) [bk b k] p t 1 := by
  intro id hid
  obtain ⟨x, hx, rfl⟩ := hs.ids id (List.mem_append.1 hid)
  have hc := cap_clean hS.clean ht
  have hlen : l9.length = (capL l q rs).length := by
    have h1 := congrArg List.length hl
    rw [len_bareQ, len_bareQ] at h1
    exact h1
  have hc9 : Clean l9 b0 := clean_cap (clean_same hS.clean hb) (by rw [← chkT_bare, hl, chkT_bare]; exact ht) (by rw [hlen, capL_len])
  obtain ⟨u, p, a1, a2, a3, a4, a5, a6⟩ := hL.fair hc9 hS.c0 x hx
  obtain ⟨k, hk, rfl⟩ := mem_bk ((hL.clean hc9 hS.c0).2.2.1 x hx)
  have hbl : b0.length = b.length := bare_len hb
  have hat : (bk b0 k).bare = (bk b k).bare := bare_at hb k
  have hid : (bk b0 k).id = (bk b k).id := show (bk b0 k).bare.id = _ by rw [hat]; rfl
  have hqu : (bk b0 k).rq.queue = (bk b k).rq.queue := show (bk b0 k).bare.rq.queue = _ by rw [hat]; rfl
  have h0 := hS.c0
  obtain ⟨f1, f2⟩ := find_at hS (i := k) (by omega)
  rw [hid]
  refine ⟨k, by omega, f1, f2, u.toNat, p, by omega, by omega, by rw [← capL_len l q rs, ← hlen]; exact a3, ?_, ?_⟩
  · rw [← overI_bare, hl, hb, overI_bare] at a4
    exact (over_iff hc (by rw [← hlen]; exact a3) (by omega) a2).1 a4
  · have hm := (no_error_at hS.clean.tree (hS.clean.each k (by omega))).1
    rw [← takesB_bare, hat, takesB_bare] at a6
    rw [hqu, ← standsIn_bare, hl, standsIn_bare] at a5
    have hp := takes_pos hm (by omega) a6
    show 0 < 0 + if (p : Int) ∈ lineOf (capL l q rs) (bk b k).rq.queue then bookTo (bk b k) u.toNat (bk b k).bs.length else 0
    rw [if_pos (stands_iff.1 a5)]
    omega
/-- what is taken, by two that say the same -/
theorem taken_bare {l l2 : QL} {b b2 : BL} (hl : bareQ l2 = bareQ l) (hb : bareB b2 = bareB b) (j : Nat) : takenTo l2 b2 j = takenTo l b j := by rw [← takenTo_bare, hl, hb, takenTo_bare]
theorem chkL_same {l l2 : QL} {b b2 : BL} (hl : bareQ l2 = bareQ l) (hb : bareB b2 = bareB b) : chkL l2 b2 = chkL l b := by rw [← chkL_bare, hl, hb, chkL_bare]
theorem clean_one {l : QL} {b : BL} (h : Clean l b) {k : Nat} (hk : k < b.length) : Clean l [bk b k] := ⟨h.tree, by simp, fun i hi => by
  obtain rfl : i = 0 := by simp at hi; omega
  exact h.each k hk⟩
theorem bks_one {w : World} {bb bo n cap : Nat} {b : BL} (h : BksIn w (some ⟨bb, bo, none⟩) n cap b) {k : Nat} (hk : k < n) : BksIn w (some ⟨bb, bo + k * 7, none⟩) 1 (cap - k) [bk b k] := by
  have h1 := (h.drop (k := k) (by omega)).take (k := 1) (by omega)
  have hl := h.len
  have e : (b.drop k).take 1 = [bk b k] := by
    rw [List.drop_eq_getElem_cons (by omega)]
    simp only [List.take_succ_cons, List.take_zero]
    congr 1
    unfold bk
    simp [List.getD, show k < b.length by omega]
  rw [e] at h1
  exact h1
theorem bareB_one {b b2 : BL} (h : bareB b2 = bareB b) (k : Nat) : bareB [bk b2 k] = bareB [bk b k] := by
  show [(bk b2 k).bare] = [(bk b k).bare]
  rw [bare_at h]
/-- too much of q is taken at t, and they take of it -/
def HitAt (l : QL) (b x : BL) (t q : Nat) : Prop := vals (qu l q).runs t < useTo l b q t b.length ∧ 0 < useTo l x q t 1
theorem slice_one (V : World) (gb ob bn m9 k : Nat) (hk : k < bn) (hm : bn ≤ m9) : (Instr.slice 23 (.slice (some ⟨gb, ob, none⟩) bn m9) (some (.int .i64 (k : Int))) (some (.int .i64 ((k : Int) + 1))) none).run Tryz.prog V = .ok (.slice (some ⟨gb, ob + k * 7, none⟩) 1 (m9 - k)) V := by
  rw [run_slice_lh V 23 (some ⟨gb, ob, none⟩) bn m9 (by kernel_rfl) .i64 .i64 (k : Int) ((k : Int) + 1) (by omega) (by omega) (by omega)]
  have hs : (sizeOf (Tryz.prog.elem 23)).run Tryz.prog V = .ok 7 V := by kernel_rfl
  rw [hs]
  have h1 : ¬ m9 = k := by omega
  have h2 : ((k : Int) + 1).toNat = k + 1 := by omega
  simp [Result.andThen, sliced, h1, h2, Addr.add]
theorem value_taken {l : QL} {b : BL} (h : Clean l b) {q t : Nat} (ht : t < 48) : valueR (takenTo l b b.length q) t = (useTo l b q t b.length, 0) := by
  obtain ⟨h1, h2⟩ := taken_val h b.length (Nat.le_refl _) q
  rw [valueR_fine h1 t ht, (h2 t ht).1]
theorem value_cap {l : QL} (h : chkT l = 0) {q t : Nat} (hq : q < l.length) (ht : t < 48) : valueR (qu l q).runs t = (vals (qu l q).runs t, 0) := valueR_fine (cap_val h hq).1 t ht
theorem runs_bare {l l2 : QL} (h : bareQ l2 = bareQ l) (q : Nat) : (qu l2 q).runs = (qu l q).runs := by
  have := qu_bare l2 q
  rw [h, qu_bare] at this
  exact (show (qu l2 q).bare.runs = (qu l q).bare.runs by rw [this])
theorem own_none {w : World} {B : Nat} {a : Option Addr} {m k : Nat} {l : List Int} (h : OwnInts w B (.slice a m k) l) (ha : a = none) : k = 0 := by
  rcases h.2 with ⟨e, _⟩ | ⟨g, cap, cur, e, _⟩
  · injection e
  · subst ha
    injection e with e
    cases e
set_option maxRecDepth 100000 in
/-- numbers put behind a row of the call's own -/
theorem app_ints (w : World) (B : Nat) (v : Value) (l1 : List Int) (h : OwnInts w B v l1) (h1 : l1.length ≤ 100) (a : Option Addr) (m k : Nat) (l2 : List Int) (h2 : IntsIn w a m k l2) (hz : a = none → k = 0) (h3 : l2.length ≤ 100) (hB : B ≤ w.heap.size) :
    ∃ v' w', (∀ ty, (Builtin.append_ #[27, 27] ty #[v, .slice a m k]).run Tryz.prog w = .ok v' w') ∧ OwnInts w' B v' (l1 ++ l2) ∧ w.grownBy w' v.ownBlock := by
  obtain ⟨i0, hi, e⟩ := Option.map_eq_some_iff.1 (show (Tryz.prog.info? 3).map (fun i => (i.zero, i.size, i.bytes)) = some (some (.int .i64 0), 1, 8) from by kernel_rfl)
  simp only [Prod.mk.injEq] at e
  obtain ⟨e1, e2, e3⟩ := e
  have hl := h2.len
  cases a with
  | none =>
    have hk := hz rfl
    have hm : m = 0 := by have := h2.le; omega
    subst hk hm
    obtain rfl : l2 = [] := List.length_eq_zero_iff.1 hl.symm
    exact ⟨v, w, fun ty => run_append_owned_none (P := Tryz.prog) (w := w) B 27 ty 3 i0 1 Tryz.underlying27 hi v _ _ h, by rw [List.append_nil]; exact h, ⟨rfl, rfl, rfl, Nat.le_refl _, fun _ _ _ => rfl⟩⟩
  | some ad =>
    have key : ∀ ty, ∃ v' w', (Builtin.append_ #[27, 27] ty #[v, .slice (some ad) m k]).run Tryz.prog w = .ok v' w' ∧ OwnInts w' B v' (l1 ++ l2) ∧ w.grownBy w' v.ownBlock := fun ty => by
      obtain ⟨v', w', r1, r2, r3, _⟩ := run_append_own (P := Tryz.prog) w B 27 ty 3 i0 _ 1 8 Tryz.underlying27 hi e1 e2 e3 (by rfl) (by omega) v l1.length _ h ad m k (l2.map (Value.int .i64)) (by rw [List.length_map, hl]; omega) (fun j u hu => by
        rw [List.getElem?_map, Option.map_eq_some_iff] at hu
        obtain ⟨x, hx, rfl⟩ := hu
        have hj : j < l2.length := (List.getElem?_eq_some_iff.1 hx).1
        obtain ⟨b, o, e, hc⟩ := h2.cells (by omega)
        injection e with e
        subst e
        have hcj := hc j (by omega)
        have ex : l2.getD j 0 = x := by rw [List.getD_eq_getElem?_getD, hx]; rfl
        rw [ex] at hcj
        rw [Addr.add_lit]
        exact hcj) (fun u hu => by
        obtain ⟨x, _, rfl⟩ := List.mem_map.1 hu
        rfl) (by simp only [maxLen]; omega) (by omega) hB
      refine ⟨v', w', r1, ?_, r3⟩
      unfold OwnInts
      rw [List.length_append, List.map_append, ← hl]
      exact r2
    obtain ⟨v', w', r1, r2, r3⟩ := key 0
    exact ⟨v', w', fun ty => r1, r2, r3⟩
end Go.Proofs.YtecibbokbonmcaeGreat

/- The same of a region in which some operations are passed by: their guards say no. -/
namespace Go.Proofs.YtecibbokbonmcaeGreat
open Go.RowKit

/-- the operation's guard is among those that say no -/
def skipped (ns : List (Nat × Bool)) (o : Oper) : Bool := match o.guard with
  | some g => ns.contains g
  | none => false
/-- an operation yields a value, or calls and is answered; or it is passed by -/
def Step (P : Program) (ns : List (Nat × Bool)) (o : Oper) (ev : Operand → Value) (w : World) (D : Value → World → Prop) : Prop := if skipped ns o = true then D undef w else OpDoes P o ev w D
theorem Step.does {P : Program} {ns : List (Nat × Bool)} {o : Oper} {ev : Operand → Value} {w : World} {D : Value → World → Prop} (hs : skipped ns o = false) (h : OpDoes P o ev w D) : Step P ns o ev w D := by
  unfold Step; rw [if_neg (by rw [hs]; decide)]; exact h
theorem Step.skip {P : Program} {ns : List (Nat × Bool)} {o : Oper} {ev : Operand → Value} {w : World} {D : Value → World → Prop} (hs : skipped ns o = true) (h : D undef w) : Step P ns o ev w D := by
  unfold Step; rw [if_pos hs]; exact h

theorem wpAny_inv2 {P : Program} {ops : Array Oper} {Q : Exit → Act → World → Prop} {W0 : World} {T0 : Array Value} {df : List Deferred} {D : Nat → Value → World → Prop} {gs ns : List (Nat × Bool)}
    (hok : regOk ops (gs ++ ns) T0.size = true) (hg : ∀ g ∈ gs, ∃ o d, ops[g.1]? = some o ∧ o.dst = some d ∧ ∀ v w, D g.1 v w → v = .bool g.2) (hn : ∀ g ∈ ns, ∃ o d, ops[g.1]? = some o ∧ o.dst = some d ∧ ∀ v w, D g.1 v w → v ≠ .bool g.2)
    (hD : ∀ i v w w', D i v w → Below w.heap.size w w' → D i v w')
    (hstep : ∀ i o, ops[i]? = some o → ∀ (T : Array Value) (w : World), Below W0.heap.size W0 w → (∀ d, notDst ops d = true → T.getD d undef = T0.getD d undef) →
      (∀ j oj d, ops[j]? = some oj → oj.dst = some d → waitsFor o j = true → D j (T.getD d undef) w) → Step P ns o (Act.eval ⟨T, df⟩) w (D i))
    (hfin : ∀ (T : Array Value) (w : World), Below W0.heap.size W0 w → T.size = T0.size → (∀ d, notDst ops d = true → T.getD d undef = T0.getD d undef) → (∀ i o d, ops[i]? = some o → o.dst = some d → D i (T.getD d undef) w) → Q .normal ⟨T, df⟩ w) :
    ∀ (fuel : Nat) (listed : Array Bool) (a : Act) (w : World), unlisted listed ≤ fuel → RInv ops W0 T0 df D listed a w → wpAny P .any ops Q fuel listed a w := by
  have fin : ∀ (listed : Array Bool) (a : Act) (w : World), RInv ops W0 T0 df D listed a w → Region.ready .any ops listed = [] → Q .normal a w := by
    rintro listed ⟨T, ds⟩ w I hr
    obtain rfl : ds = df := I.df
    exact hfin T w I.below I.tsize I.old fun i o d ho hd => I.got i o d ho hd (all_listed hok I.size hr i (Array.getElem?_eq_some_iff.1 ho).1)
  intro fuel
  induction fuel with
  | zero =>
    intro listed a w hf I
    have hr : Region.ready .any ops listed = [] := by
      cases hr : Region.ready .any ops listed with
      | nil => rfl
      | cons i l =>
        have : i ∈ Region.ready .any ops listed := by rw [hr]; simp
        have := unlisted_set (mem_ready.1 this).1
        omega
    exact ⟨hr, fin listed a w I hr⟩
  | succ fuel ih =>
    intro listed a w hf I
    refine ⟨fin listed a w I, fun i hi => ?_⟩
    obtain ⟨h0, o, ho, hall⟩ := mem_ready.1 hi
    have hcount := unlisted_set h0
    obtain ⟨T, ds⟩ := a
    obtain rfl : ds = df := I.df
    have hat := regOk_at hok ho
    have hdep : ∀ j oj d, ops[j]? = some oj → oj.dst = some d → waitsFor o j = true → D j (T.getD d undef) w := by
      intro j oj d hj hd hw
      simp only [waitsFor, List.any_eq_true, Bool.and_eq_true, beq_iff_eq] at hw
      obtain ⟨e, he, hb, rfl⟩ := hw
      exact I.got _ oj d hj hd (hall e (by simpa using he) hb)
    have hdo := hstep i o ho T w I.below I.old hdep
    have next : ∀ (v : Value) (w' : World), D i v w' → Below w.heap.size w w' → wpAny P .any ops Q fuel (listed.setIfInBounds i true) (Act.put ⟨T, ds⟩ o.dst v) w' := by
      intro v w' hv hb
      refine ih _ _ _ (by omega) ?_
      cases hd : o.dst with
      | none =>
        refine ⟨by simpa using I.size, I.below.trans (hb.mono I.below.size), rfl, I.tsize, I.old, fun j oj d hj hdj hl => ?_⟩
        by_cases e : i = j
        · subst e
          rw [ho] at hj
          cases hj
          rw [hd] at hdj
          cases hdj
        · rw [getD_set_ne false e] at hl
          exact hD _ _ _ _ (I.got j oj d hj hdj hl) hb
      | some d0 =>
        have hd0 : d0 < T.size := Nat.lt_of_lt_of_eq (hat.2.1 d0 hd) I.tsize.symm
        refine ⟨by simpa using I.size, I.below.trans (hb.mono I.below.size), rfl, by simpa [Act.put] using I.tsize, fun d hnd => ?_, fun j oj d hj hdj hl => ?_⟩
        · have hne : d0 ≠ d := by
            rintro rfl
            simp only [notDst, Array.all_eq_true_iff_forall_mem] at hnd
            have := hnd o (Array.mem_of_getElem? ho)
            simp [hd] at this
          have := I.old d hnd
          simp only [Act.put] at this ⊢
          rw [← this]
          simp [Array.getElem?_setIfInBounds_ne hne]
        · by_cases e : i = j
          · subst e
            rw [ho] at hj
            cases hj
            rw [hd] at hdj
            cases hdj
            simpa [Act.put, hd0] using hv
          · have hne : d0 ≠ d := by
              rintro rfl
              exact e (regOk_dst hok ho hj hd hdj)
            rw [getD_set_ne false e] at hl
            have := hD _ _ _ _ (I.got j oj d hj hdj hl) hb
            simp only [Act.put] at this ⊢
            simpa [Array.getElem?_setIfInBounds_ne hne] using this
    cases hsk : skipped ns o with
    | true =>
      unfold Step at hdo
      rw [if_pos hsk] at hdo
      have hw : Region.wanted o (yielded ops T) = false := by
        unfold skipped at hsk
        unfold Region.wanted
        cases hgd : o.guard with
        | none => rw [hgd] at hsk; cases hsk
        | some g =>
          rw [hgd] at hsk
          have hgn : g ∈ ns := by simpa using hsk
          obtain ⟨og, d, hog, hdg, hv⟩ := hn g hgn
          have := hv _ _ (hdep g.1 og d hog hdg (hat.2.2 g hgd).1)
          have hdl : d < T.size := Nat.lt_of_lt_of_eq ((regOk_at hok hog).2.1 d hdg) I.tsize.symm
          show (yielded ops T g.1 == some g.2) = false
          rw [beq_eq_false_iff_ne]
          intro hy
          apply this
          unfold yielded at hy
          rw [hog] at hy
          simp only [Option.bind_some, hdg, Array.getElem?_eq_getElem hdl] at hy
          have h2 : T.getD d undef = T[d] := by simp [hdl]
          rw [h2]
          cases hb : T[d] with
          | bool b => rw [hb] at hy; simp only [Option.some.injEq] at hy; rw [hy]
          | _ => rw [hb] at hy; cases hy
      unfold wpOp
      simp only [ho, hw, Bool.false_eq_true, if_false]
      exact next undef w hdo (Below.refl _ _)
    | false =>
    unfold Step at hdo
    rw [if_neg (by rw [hsk]; decide)] at hdo
    have hw : Region.wanted o (yielded ops T) = true := by
      unfold Region.wanted
      cases hgd : o.guard with
      | none => rfl
      | some g =>
        obtain ⟨h1, h2⟩ := hat.2.2 g hgd
        have h3 : g ∈ gs := by
          unfold skipped at hsk
          rw [hgd] at hsk
          rw [List.mem_append] at h2
          rcases h2 with h2 | h2
          · exact h2
          · have : ns.contains g = true := by simpa using h2
            simp only at hsk
            rw [this] at hsk; cases hsk
        obtain ⟨og, d, hog, hdg, hv⟩ := hg g h3
        have := hv _ _ (hdep g.1 og d hog hdg h1)
        have hdl : d < T.size := Nat.lt_of_lt_of_eq ((regOk_at hok hog).2.1 d hdg) I.tsize.symm
        simp [yielded_of hog hdg hdl this]
    unfold wpOp
    simp only [ho, hw, if_true]
    refine Or.inl ?_
    unfold Oper.wp
    rcases hdo with ⟨v, w', hrun, hv, hb⟩ | ⟨f, args, hrun, hc⟩
    · rw [hrun]
      exact next v w' hv hb
    · rw [hrun]
      refine Calls.mono hc ?_
      rintro e w' ⟨v, rfl, hv, hb⟩
      exact next v w' hv hb

theorem wp_region_inv2 {P : Program} {ops : Array Oper} {Q : Exit → Act → World → Prop} {id : Nat} {T0 : Array Value} {df : List Deferred} {w : World} (D : Nat → Value → World → Prop) (gs ns : List (Nat × Bool)) (hm : P.follows .mixedOrders = true)
    (hok : regOk ops (gs ++ ns) T0.size = true) (hg : ∀ g ∈ gs, ∃ o d, ops[g.1]? = some o ∧ o.dst = some d ∧ ∀ v w, D g.1 v w → v = .bool g.2) (hn : ∀ g ∈ ns, ∃ o d, ops[g.1]? = some o ∧ o.dst = some d ∧ ∀ v w, D g.1 v w → v ≠ .bool g.2)
    (hD : ∀ i v w w', D i v w → Below w.heap.size w w' → D i v w')
    (hstep : ∀ i o, ops[i]? = some o → ∀ (T : Array Value) (w' : World), Below w.heap.size w w' → (∀ d, notDst ops d = true → T.getD d undef = T0.getD d undef) →
      (∀ j oj d, ops[j]? = some oj → oj.dst = some d → waitsFor o j = true → D j (T.getD d undef) w') → Step P ns o (Act.eval ⟨T, df⟩) w' (D i))
    (hfin : ∀ (T : Array Value) (w' : World), Below w.heap.size w w' → T.size = T0.size → (∀ d, notDst ops d = true → T.getD d undef = T0.getD d undef) → (∀ i o d, ops[i]? = some o → o.dst = some d → D i (T.getD d undef) w') → Q .normal ⟨T, df⟩ w') :
    (Code.region id ops true).wp P Q ⟨T0, df⟩ w := by
  refine wp_region_any hm (wpAny_inv2 (W0 := w.drewN 1) (df := df) hok hg hn hD ?_ ?_ _ _ _ _ ?_ ?_)
  · exact fun i o ho T w' hb => hstep i o ho T w' ((_root_.Go.below_drewN (Below.refl _ _) 1).trans hb)
  · exact fun T w' hb => hfin T w' ((_root_.Go.below_drewN (Below.refl _ _) 1).trans hb)
  · simp [unlisted]
  · exact ⟨by simp, Below.refl _ _, rfl, rfl, fun _ _ => rfl, fun i o d ho _ hl => by
      have hi : i < ops.size := (Array.getElem?_eq_some_iff.1 ho).1
      simp [hi] at hl⟩

theorem wp_region_ops2 {P : Program} {Q : Exit → Act → World → Prop} {id : Nat} {T0 : Array Value} {df : List Deferred} {w : World} {ops0 : Array Oper} (ops : Array Oper) (heq : ops0 = ops) (D : Nat → Value → World → Prop) (gs ns : List (Nat × Bool)) (hm : P.follows .mixedOrders = true)
    (hok : regOk ops (gs ++ ns) T0.size = true) (hgs : gsOk ops (gs ++ ns) = true) (hg : ∀ g ∈ gs, ∀ v w, D g.1 v w → v = .bool g.2) (hn : ∀ g ∈ ns, ∀ v w, D g.1 v w → v ≠ .bool g.2)
    (hD : ∀ i v w w', D i v w → Below w.heap.size w w' → D i v w')
    (hstep : AllOps (fun i o => ∀ (T : Array Value) (w' : World), Below w.heap.size w w' → (∀ d, notDst ops d = true → T.getD d undef = T0.getD d undef) →
      (∀ j d, dep ops i j d = true → D j (T.getD d undef) w') → Step P ns o (Act.eval ⟨T, df⟩) w' (D i)) ops0.toList 0)
    (hfin : ∀ (T : Array Value) (w' : World), Below w.heap.size w w' → T.size = T0.size → (∀ d, notDst ops d = true → T.getD d undef = T0.getD d undef) → (∀ i d, dstAt ops i d = true → D i (T.getD d undef) w') → Q .normal ⟨T, df⟩ w') :
    (Code.region id ops0 true).wp P Q ⟨T0, df⟩ w := by
  have heq := heq.symm
  subst heq
  have hh : ∀ g ∈ gs ++ ns, ∃ o d, ops[g.1]? = some o ∧ o.dst = some d := fun g hgm => by
    have := List.all_eq_true.1 hgs g hgm
    cases ho : ops[g.1]? with
    | none => rw [ho] at this; cases this
    | some o =>
      rw [ho] at this
      obtain ⟨d, hd⟩ := Option.isSome_iff_exists.1 this
      exact ⟨o, d, rfl, hd⟩
  refine wp_region_inv2 D gs ns hm hok (fun g hgm => ?_) (fun g hgm => ?_) hD (fun i o ho T w' hb ht hd => ?_) (fun T w' hb hs ht hd => ?_)
  · obtain ⟨o, d, h1, h2⟩ := hh g (by simp [hgm])
    exact ⟨o, d, h1, h2, hg g hgm⟩
  · obtain ⟨o, d, h1, h2⟩ := hh g (by simp [hgm])
    exact ⟨o, d, h1, h2, hn g hgm⟩
  · have := hstep.at i o (by simpa using ho)
    rw [Nat.zero_add] at this
    refine this T w' hb ht fun j d hj => ?_
    unfold dep at hj
    rw [ho] at hj
    cases hoj : ops[j]? with
    | none => rw [hoj] at hj; cases hj
    | some oj =>
      rw [hoj] at hj
      simp only [Bool.and_eq_true, beq_iff_eq] at hj
      exact hd j oj d hoj hj.2 hj.1
  · refine hfin T w' hb hs ht fun i d hi => ?_
    unfold dstAt at hi
    cases ho : ops[i]? with
    | none => rw [ho] at hi; cases hi
    | some o =>
      rw [ho] at hi
      exact hd i o d ho (by simpa using hi)

theorem wp_region_des2 {P : Program} {Q : Exit → Act → World → Prop} {id : Nat} {T0 : Array Value} {df : List Deferred} {w : World} {ops0 : Array Oper} (ops : Array Oper) (heq : ops0 = ops) (Ds : List Des) (gs ns : List (Nat × Bool)) (hm : P.follows .mixedOrders = true)
    (hok : regOk ops (gs ++ ns) T0.size = true) (hgs : gsOk ops (gs ++ ns) = true) (hg : ∀ g ∈ gs, ∀ v w, desAt Ds g.1 v w → v = .bool g.2) (hn : ∀ g ∈ ns, ∀ v w, desAt Ds g.1 v w → v ≠ .bool g.2)
    (hstep : AllOps (fun i o => ∀ (T : Array Value) (w' : World), Below w.heap.size w w' → (∀ d, notDst ops d = true → T.getD d undef = T0.getD d undef) →
      (∀ j d, dep ops i j d = true → desAt Ds j (T.getD d undef) w') → Step P ns o (Act.eval ⟨T, df⟩) w' (desAt Ds i)) ops0.toList 0)
    (hfin : ∀ (T : Array Value) (w' : World), Below w.heap.size w w' → T.size = T0.size → (∀ d, notDst ops d = true → T.getD d undef = T0.getD d undef) → (∀ i d, dstAt ops i d = true → desAt Ds i (T.getD d undef) w') → Q .normal ⟨T, df⟩ w') :
    (Code.region id ops0 true).wp P Q ⟨T0, df⟩ w :=
  wp_region_ops2 ops heq (desAt Ds) gs ns hm hok hgs hg hn (fun i v w w' h hb => (Ds.getD i (isV undef)).2 v w w' h hb) hstep hfin

end Go.Proofs.YtecibbokbonmcaeGreat

/- The statements' own cutBegun: what must be in any case is so. -/
namespace Go.Proofs.YtecibbokbonmcaeGreat
open Go.RowKit

/-- what a Change has told, in a box of the caller's -/
structure TBox (W : World) (S g k1 gb ob k9 off : Nat) (ba : Option Addr) (n bc : Nat) (bs : RunL) (ma : Option Addr) (mk : Nat) (id : Int) : Prop where
  box : StBox W S (.int .i64 5) (.int .i64 6) (.slice (some ⟨g, 0, none⟩) 4 k1) (.slice (some ⟨gb, ob, none⟩) 2 k9)
  cell : W.cell? ⟨gb, ob + off * 7 + 6, none⟩ = some (.slice ba n bc)
  runs : RunsIn W ba n bc bs
  ints : IntsIn W ma 1 mk [id]
theorem TBox.later {W W' : World} {S g k1 gb ob k9 off : Nat} {ba : Option Addr} {n bc : Nat} {bs : RunL} {ma : Option Addr} {mk : Nat} {id : Int} (h : TBox W S g k1 gb ob k9 off ba n bc bs ma mk id) (hb : Below W.heap.size W W') : TBox W' S g k1 gb ob k9 off ba n bc bs ma mk id :=
  ⟨h.box.later hb, cell_later hb h.cell, h.runs.later hb, h.ints.later hb⟩
theorem one_int {w : World} {P : Nat} {x : Int} (h : w.heap[P]? = some (.cells #[.int .i64 x] 3 (0, 0))) : IntsIn w (some ⟨P, 0, none⟩) 1 1 [x] :=
  ⟨rfl, Nat.le_refl _, by omega, fun _ => ⟨P, 0, rfl, fun i hi => by obtain rfl : i = 0 := by omega
                                                                     rw [cell_of_row w P _ _ _ _ h]; rfl⟩⟩
theorem drew_below (w : World) (d : Nat) : Below w.heap.size w (w.drewN d) := ⟨rfl, rfl, rfl, Nat.le_refl _, fun _ _ => rfl⟩

set_option maxRecDepth 100000 in
set_option maxHeartbeats 8000000 in
theorem cutBegun_any (w : World) : Calls Tryz.prog 12 #[] w fun e w' => e = .returned (.bool true) ∧ Below w.heap.size w w' := by
  go_enter Tryz.func12, Tryz.ntmps12
  go_wp2_with fail
  refine (farm_any w).mono ?_
  rintro e w1 ⟨c1, d1, e1, rfl, hF, hb, _⟩
  have HB1 := hid hb
  obtain ⟨V1, hV⟩ : ∃ V, V = w1.alloc (.cells #[.int .i64 0, .int .i64 3, .int .i64 22, .int .i64 6] 71) := ⟨_, rfl⟩
  have hbV : Below w1.heap.size w1 V1 := by rw [hV]; exact (Below.refl _ _).alloc (Nat.le_refl _) _
  obtain ⟨P1, hP⟩ : ∃ P, w1.heap.size = P := ⟨_, rfl⟩
  have hL : RunsIn V1 (some ⟨P1, 0, none⟩) 2 2 [(0, 3), (22, 6)] := by rw [hV, ← hP]; exact runs_block (heap_alloc_new w1 _) _ 2 rfl rfl (Nat.le_of_ble_eq_true (by kernel_rfl))
  have HL1 := hid hL
  have HF1 := hid (hF.later hbV)
  have HV1 := hid hV
  have HBV1 := hid (below_from HB1.out hbV)
  clear hF hb hV hbV hL
  go_wp2_with fail
  rw [← HV1.out]
  refine (fa_C1 V1 c1 d1 e1 P1 HF1.out HL1.out).mono ?_
  rintro e w2 ⟨g2, k2, gb2, ob2, k92, ba2, bc2, ma2, mk2, da2, dk2, rfl, ⟨hk2, hkb2⟩, h6, hrb, hmi, hb⟩
  have HB2 := hid (below_from HBV1.out hb)
  obtain ⟨U2, hU⟩ : ∃ U, U = w2.alloc (.cells #[.int .i64 5, .int .i64 6, .slice (some ⟨g2, 0, none⟩) 4 k2, .slice (some ⟨gb2, ob2, none⟩) 2 k92] 25) := ⟨_, rfl⟩
  have hbU : Below w2.heap.size w2 U2 := by rw [hU]; exact (Below.refl _ _).alloc (Nat.le_refl _) _
  obtain ⟨SA, hSA⟩ : ∃ S, w2.heap.size = S := ⟨_, rfl⟩
  have HA2 : Hid (TBox U2 SA g2 k2 gb2 ob2 k92 0 ba2 2 bc2 [(0, 5), (1, 22)] ma2 mk2 1) := hid ⟨by rw [hU, ← hSA]; exact StBox.new w2 _ _ _ _, cell_later hbU h6, hrb.later hbU, hmi.later hbU⟩
  have HU2 := hid hU
  have HBU2 := hid (below_from HB2.out hbU)
  clear h6 hrb hmi hb hU hbU
  go_wp2_with fail
  rw [← HU2.out]
  refine (farm_any U2).mono ?_
  rintro e w3 ⟨c3, d3, e3, rfl, hF, hb, _⟩
  have HB3 := hid (below_from HBU2.out hb)
  have HA3 := hid (HA2.out.later hb)
  have HF3 := hid hF
  clear hF hb HA2
  go_wp2_with fail
  refine (fa_C0 w3 c3 d3 e3 HF3.out).mono ?_
  rintro e w4 ⟨rfl, hb⟩
  have HB4 := hid (below_from HB3.out hb)
  have hA4 := HA3.out.later hb
  obtain ⟨U4, hU⟩ : ∃ U, U = w4.alloc (.cells #[.int .i64 0, .int .i64 0, .slice none 0 0, .slice none 0 0] 25) := ⟨_, rfl⟩
  have hbU : Below w4.heap.size w4 U4 := by rw [hU]; exact (Below.refl _ _).alloc (Nat.le_refl _) _
  have HU4 := hid hU
  have HBU4 := hid (below_from HB4.out hbU)
  have HA4 := hid (hA4.later hbU)
  clear hb hU hbU hA4 HA3 HF3
  go_wp2_with fail
  rw [← HU4.out]
  refine (farm_any U4).mono ?_
  rintro e w5 ⟨c5, d5, e5, rfl, hF, hb, _⟩
  have HB5 := hid (below_from HBU4.out hb)
  have HA5 := hid (HA4.out.later hb)
  have HF5 := hid hF
  clear hF hb HA4
  go_wp2_with fail
  refine (fa_F0 w5 c5 d5 e5 HF5.out).mono ?_
  rintro e w6 ⟨rfl, hb⟩
  have HB6 := hid (below_from HB5.out hb)
  have HA6 := hid (HA5.out.later hb)
  clear hb HA5 HF5
  go_wp2_with fail
  refine (farm_any w6).mono ?_
  rintro e w7 ⟨c7, d7, e7, rfl, hF, hb, hc7⟩
  obtain ⟨V8, hV8⟩ : ∃ V8, V8 = w7.alloc (.cells #[.int .i64 5, .int .i64 6, .slice (some ⟨c7 + 4, 0, none⟩) 4 4, .slice (some ⟨e7 + 3, 0, none⟩) 2 2] 25) := ⟨_, rfl⟩
  obtain ⟨S8, hS8⟩ : ∃ S8, w7.heap.size = S8 := ⟨_, rfl⟩
  have hbV : Below w7.heap.size w7 V8 := by rw [hV8]; exact (Below.refl _ _).alloc (Nat.le_refl _) _
  have hbx : StBox V8 S8 (.int .i64 5) (.int .i64 6) (.slice (some ⟨c7 + 4, 0, none⟩) 4 4) (.slice (some ⟨e7 + 3, 0, none⟩) 2 2) := by rw [hV8, ← hS8]; exact StBox.new w7 _ _ _ _
  have hFV := hF.later hbV
  have r1 : (w7.alloc (.cells #[.int .i64 5, .int .i64 6, .slice (some ⟨c7 + 4, 0, none⟩) 4 4, .slice (some ⟨e7 + 3, 0, none⟩) 2 2] 25)).cell? ⟨c7 + 4, 2, none⟩ = some (.slice (some ⟨c7, 0, none⟩) 1 1) := by rw [← hV8, cell_of_row V8 (c7 + 4) 2 _ _ _ hFV.b4]; rfl
  have r2 : (w7.alloc (.cells #[.int .i64 5, .int .i64 6, .slice (some ⟨c7 + 4, 0, none⟩) 4 4, .slice (some ⟨e7 + 3, 0, none⟩) 2 2] 25)).cell? ⟨c7, 1, none⟩ = some (.int .i64 10) := by rw [← hV8, cell_of_row V8 c7 1 _ _ _ hFV.b0]; rfl
  have r3 : (w7.alloc (.cells #[.int .i64 5, .int .i64 6, .slice (some ⟨c7 + 4, 0, none⟩) 4 4, .slice (some ⟨e7 + 3, 0, none⟩) 2 2] 25)).frozen? ⟨c7, 1, none⟩ = false := by rw [← hV8]; exact frozen_of_row V8 c7 1 _ _ hFV.b0
  obtain ⟨Ua, hUa⟩ : ∃ Ua, Ua = w7.setCell ⟨c7, 1, none⟩ (.int .i64 9) := ⟨_, rfl⟩
  obtain ⟨U8, hU8⟩ : ∃ U8, U8 = Ua.alloc (.cells #[.int .i64 5, .int .i64 6, .slice (some ⟨c7 + 4, 0, none⟩) 4 4, .slice (some ⟨e7 + 3, 0, none⟩) 2 2] 25) := ⟨_, rfl⟩
  have hlt8 : c7 < S8 := by have := (Array.getElem?_eq_some_iff.1 hF.b0).1; omega
  have hbU : Below w6.heap.size w6 Ua := by rw [hUa]; exact hb.setCell (p := ⟨c7, 1, none⟩) hc7 _
  have hbU2 : Below Ua.heap.size Ua U8 := by rw [hU8]; exact (Below.refl _ _).alloc (Nat.le_refl _) _
  have hb8 : Below w6.heap.size w6 U8 := below_from hbU hbU2
  have hF8 : FarmIn U8 c7 d7 e7 9 := (show FarmIn Ua c7 d7 e7 9 from by rw [hUa]; exact hF.lower 9).later hbU2
  have HA8 := hid (HA6.out.later hb8)
  have HB8 := hid (below_from HB6.out hb8)
  have HF8 := hid hF8
  have HU8 : Hid (U8 = (w7.setCell ⟨c7, 1, none⟩ (.int .i64 9)).alloc (.cells #[.int .i64 5, .int .i64 6, .slice (some ⟨c7 + 4, 0, none⟩) 4 4, .slice (some ⟨e7 + 3, 0, none⟩) 2 2] 25)) := by rw [hUa] at hU8; exact hU8
  clear hF hb hbV hbx hFV hU8 hb8 hF8 hV8 hc7 hUa hbU hbU2 HA6
  go_wp2_with fail
  rw [← HU8.out]
  refine (fa_F9 U8 c7 d7 e7 HF8.out).mono ?_
  rintro e w9 ⟨rfl, hb⟩
  have HB9 := hid (below_from HB8.out hb)
  have HA9 := hid (HA8.out.later hb)
  clear hb HA8 HF8 r1 r2 r3
  go_wp2_with fail
  refine (farm_any w9).mono ?_
  rintro e w10 ⟨c10, d10, e10, rfl, hF, hb, _⟩
  have HB10 := hid (below_from HB9.out hb)
  have hA10 := HA9.out.later hb
  obtain ⟨V10, hV⟩ : ∃ V, V = w10.alloc (.cells #[.int .i64 0, .int .i64 9] 71) := ⟨_, rfl⟩
  have hbV : Below w10.heap.size w10 V10 := by rw [hV]; exact (Below.refl _ _).alloc (Nat.le_refl _) _
  obtain ⟨P10, hP⟩ : ∃ P, w10.heap.size = P := ⟨_, rfl⟩
  have hL : RunsIn V10 (some ⟨P10, 0, none⟩) 1 1 [(0, 9)] := by rw [hV, ← hP]; exact runs_block (heap_alloc_new w10 _) _ 1 rfl rfl (Nat.le_of_ble_eq_true (by kernel_rfl))
  have HL10 := hid hL
  have HF10 := hid (hF.later hbV)
  have HV10 := hid hV
  have HBV10 := hid (below_from HB10.out hbV)
  have HAV10 := hid (hA10.later hbV)
  clear hF hb hV hbV hL hA10 HA9
  go_wp2_with fail
  rw [← HV10.out]
  refine (fa_C2 V10 c10 d10 e10 P10 HF10.out HL10.out).mono ?_
  rintro e w11 ⟨g11, k11, gb11, ob11, k911, ba11, bc11, ma11, mk11, da11, dk11, rfl, ⟨hk11, hkb11⟩, h6, hrb, hmi, hb⟩
  have HB11 := hid (below_from HBV10.out hb)
  have hA11 := HAV10.out.later hb
  obtain ⟨U11, hU⟩ : ∃ U, U = w11.alloc (.cells #[.int .i64 5, .int .i64 6, .slice (some ⟨g11, 0, none⟩) 4 k11, .slice (some ⟨gb11, ob11, none⟩) 2 k911] 25) := ⟨_, rfl⟩
  have hbU : Below w11.heap.size w11 U11 := by rw [hU]; exact (Below.refl _ _).alloc (Nat.le_refl _) _
  obtain ⟨SB, hSB⟩ : ∃ S, w11.heap.size = S := ⟨_, rfl⟩
  have HC11 : Hid (TBox U11 SB g11 k11 gb11 ob11 k911 1 ba11 1 bc11 [(0, 5)] ma11 mk11 4) := hid ⟨by rw [hU, ← hSB]; exact StBox.new w11 _ _ _ _, cell_later hbU h6, hrb.later hbU, hmi.later hbU⟩
  have HA11 := hid (hA11.later hbU)
  have HU11 := hid hU
  have HBU11 := hid (below_from HB11.out hbU)
  have hsz11 : U11.heap.size = SB + 1 := by rw [hU, ← hSB]; simp
  obtain ⟨V12, hV⟩ : ∃ V, V = U11.alloc (.cells #[.int .i64 1] 3) := ⟨_, rfl⟩
  have hbV : Below U11.heap.size U11 V12 := by rw [hV]; exact (Below.refl _ _).alloc (Nat.le_refl _) _
  have HKI := hid (SameInts_same V12 _ _ 1 _ _ _ (HA11.out.ints.later hbV) (one_int (P := SB + 1) (by rw [hV, ← hsz11]; exact heap_alloc_new U11 _)))
  have HBV12 := hid (below_from HBU11.out hbV)
  have HAV12 := hid (HA11.out.later hbV)
  have HCV12 := hid (HC11.out.later hbV)
  have HV12 := hid hV
  clear h6 hrb hmi hb hA11 hU hbU hV hbV HA11 HC11 HF10 HL10 HAV10
  go_wp2_with fail
  rw [← HU11.out, ← HV12.out]
  refine HKI.out.mono ?_
  rintro e w13 ⟨rfl, dd, hw13⟩
  have hb13 : Below V12.heap.size V12 w13 := by rw [hw13]; exact drew_below V12 dd
  have hA13 := HAV12.out.later hb13
  have hC13 := HCV12.out.later hb13
  have HB13 := hid (below_from HBV12.out hb13)
  obtain ⟨V14, hV⟩ : ∃ V, V = w13.alloc (.cells #[.int .i64 0, .int .i64 5, .int .i64 1, .int .i64 22] 49) := ⟨_, rfl⟩
  have hbV : Below w13.heap.size w13 V14 := by rw [hV]; exact (Below.refl _ _).alloc (Nat.le_refl _) _
  have HKB := hid (SameBites_same V14 _ _ 2 _ _ _ (hA13.runs.later hbV) (show RunsIn V14 (some ⟨w13.heap.size, 0, none⟩) 2 2 [(0, 5), (1, 22)] from by rw [hV]; exact runs_block (heap_alloc_new w13 _) _ 2 rfl rfl (Nat.le_of_ble_eq_true (by kernel_rfl))))
  have HBV14 := hid (below_from HB13.out hbV)
  have HCV14 := hid (hC13.later hbV)
  have HV14 := hid hV
  obtain ⟨p0, p1, p2, p3⟩ := hA13.box.cells
  have p6 := hA13.cell
  simp only [Nat.zero_mul, Nat.add_zero] at p6
  clear hb13 hw13 hA13 hC13 hV hbV HAV12 HCV12
  go_wp2_with fail
  rw [← HV14.out]
  refine HKB.out.mono ?_
  rintro e w15 ⟨rfl, dd, hw15⟩
  have hb15 : Below V14.heap.size V14 w15 := by rw [hw15]; exact drew_below V14 dd
  have hC15 := HCV14.out.later hb15
  have HB15 := hid (below_from HBV14.out hb15)
  obtain ⟨V16, hV⟩ : ∃ V, V = w15.alloc (.cells #[.int .i64 4] 3) := ⟨_, rfl⟩
  have hbV : Below w15.heap.size w15 V16 := by rw [hV]; exact (Below.refl _ _).alloc (Nat.le_refl _) _
  have HKJ := hid (SameInts_same V16 _ _ 1 _ _ _ (hC15.ints.later hbV) (one_int (P := w15.heap.size) (by rw [hV]; exact heap_alloc_new w15 _)))
  have HBV16 := hid (below_from HB15.out hbV)
  have HCV16 := hid (hC15.later hbV)
  have HV16 := hid hV
  clear hb15 hw15 hC15 hV hbV HCV14 p0 p1 p2 p3 p6
  go_wp2_with fail
  rw [← HV16.out]
  refine HKJ.out.mono ?_
  rintro e w17 ⟨rfl, dd, hw17⟩
  have hb17 : Below V16.heap.size V16 w17 := by rw [hw17]; exact drew_below V16 dd
  have hC17 := HCV16.out.later hb17
  have HB17 := hid (below_from HBV16.out hb17)
  obtain ⟨V18, hV⟩ : ∃ V, V = w17.alloc (.cells #[.int .i64 0, .int .i64 5] 49) := ⟨_, rfl⟩
  have hbV : Below w17.heap.size w17 V18 := by rw [hV]; exact (Below.refl _ _).alloc (Nat.le_refl _) _
  have HKC := hid (SameBites_same V18 _ _ 1 _ _ _ (hC17.runs.later hbV) (show RunsIn V18 (some ⟨w17.heap.size, 0, none⟩) 1 1 [(0, 5)] from by rw [hV]; exact runs_block (heap_alloc_new w17 _) _ 1 rfl rfl (Nat.le_of_ble_eq_true (by kernel_rfl))))
  have HBV18 := hid (below_from HB17.out hbV)
  have HV18 := hid hV
  obtain ⟨p0, p1, p2, p3⟩ := hC17.box.cells
  have p6 := hC17.cell
  simp only [Nat.one_mul] at p6
  clear hb17 hw17 hC17 hV hbV HCV16
  go_wp2_with fail
  rw [← HV18.out]
  refine HKC.out.mono ?_
  rintro e w19 ⟨rfl, dd, hw19⟩
  have HB19 := hid (below_from HBV18.out (show Below V18.heap.size V18 w19 by rw [hw19]; exact drew_below V18 dd))
  clear hw19 p0 p1 p2 p3 p6
  go_wp2
  go_ret
  exact ⟨rfl, HB19.out⟩
end Go.Proofs.YtecibbokbonmcaeGreat
