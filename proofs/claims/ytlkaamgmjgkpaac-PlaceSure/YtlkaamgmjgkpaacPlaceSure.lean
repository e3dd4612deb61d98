/- PlaceSure: whatever room, request and bites it is handed, the call returns true, and its arguments read afterwards as they read before. -/
import Derived.Test.YtlkaamgmjgkpaacPlaceI
import Derived.Test.YtlkaamgmjgkpaacPlaceO
import Derived.Test.YtlkaamgmjgkpaacAnyB
import Derived.Test.YtlkaamgmjgkpaacFrameR
namespace Go.Proofs.Ytlkaamgmjgkpaac
open Go.ChangeShapes Go.WideShapes Go.ChangeAt Go.RowKit

set_option maxRecDepth 100000 in
set_option maxHeartbeats 4000000 in
theorem PlaceSure_easy (w : World) (la : Option Addr) (ln lc : Nat) (f : RunL) (hf : RunsIn w la ln lc f) (r : Rq) (h : RqIn w r) (ba : Option Addr) (bn bc : Nat) (b : RunL) (hb : RunsIn w ba bn bc b) (A : RunL × Bool) (er : Int) (hK : Calls Try.prog 16 #[.slice la ln lc, .agg #[.int .i64 r.queue, .int .i64 r.fr, .int .i64 r.un, .int .i64 r.kind, .slice r.pa r.pn r.pc]] (w.alloc (.cells #[.int .i64 r.queue, .int .i64 r.fr, .int .i64 r.un, .int .i64 r.kind, .slice r.pa r.pn r.pc] 41)) fun e w' => GivesF (w.alloc (.cells #[.int .i64 r.queue, .int .i64 r.fr, .int .i64 r.un, .int .i64 r.kind, .slice r.pa r.pn r.pc] 41)) w' e A er)
    (hcase : er ≠ 0 ∨ er = 0 ∧ (r.kind = 1 ∨ r.kind ≠ 1 ∧ (meets r b = false ∨ meets r b = true ∧ heldB f r b = false))) :
    Calls Try.prog 7 #[.slice la ln lc, .agg #[.int .i64 r.queue, .int .i64 r.fr, .int .i64 r.un, .int .i64 r.kind, .slice r.pa r.pn r.pc], .slice ba bn bc] w fun e w' => e = .returned (.bool true) ∧ Below w.heap.size w w' := by
  have B1 := hid ((Below.refl w.heap.size w).alloc (Nat.le_refl _) (.cells #[.int .i64 r.queue, .int .i64 r.fr, .int .i64 r.un, .int .i64 r.kind, .slice r.pa r.pn r.pc] 41))
  have KB := hid (box_cells w r)
  have HF := hid hf
  have HR := hid h
  have HBI := hid hb
  have HK := hid hK
  clear h hf hb hK
  rcases hcase with he | ⟨he, hk | ⟨hk, hm | ⟨hm, hh⟩⟩⟩
  · have hne : (er != 0) = true := by simp [he]
    clear he
    go_enter Try.func7, Try.ntmps7
    go_wp2_with fail
    refine HK.out.mono ?_
    rintro e w1 ⟨a1, n1, c1, rfl, hr, hb1⟩
    have HB1 := hid (below_from B1.out hb1)
    have HRX := hid hr
    have HKB := hid hb1
    obtain ⟨d0, d1, d2, d3, d4⟩ := KB.out w1 hb1
    clear hr hb1
    go_wp2_with fail
    refine (placeBegun_any w1).mono ?_
    rintro e wz ⟨rfl, hbz⟩
    have HBZ := hid (below_from HB1.out hbz)
    clear hbz
    go_wp2
    go_ret
    exact ⟨rfl, HBZ.out⟩
  · subst he
    have hkb : (r.kind == 1) = true := by simp [hk]
    clear hk
    go_enter Try.func7, Try.ntmps7
    go_wp2_with fail
    refine HK.out.mono ?_
    rintro e w1 ⟨a1, n1, c1, rfl, hr, hb1⟩
    have HB1 := hid (below_from B1.out hb1)
    have HRX := hid hr
    have HKB := hid hb1
    obtain ⟨d0, d1, d2, d3, d4⟩ := KB.out w1 hb1
    clear hr hb1
    go_wp2_with fail
    refine (placeBegun_any w1).mono ?_
    rintro e wz ⟨rfl, hbz⟩
    have HBZ := hid (below_from HB1.out hbz)
    clear hbz
    go_wp2
    go_ret
    exact ⟨rfl, HBZ.out⟩
  · subst he
    have hkb : (r.kind == 1) = false := by simp [hk]
    clear hk
    go_enter Try.func7, Try.ntmps7
    go_wp2_with fail
    refine HK.out.mono ?_
    rintro e w1 ⟨a1, n1, c1, rfl, hr, hb1⟩
    have HB1 := hid (below_from B1.out hb1)
    have HRX := hid hr
    have HKB := hid hb1
    obtain ⟨d0, d1, d2, d3, d4⟩ := KB.out w1 hb1
    clear hr hb1
    go_wp2_with fail
    have K2 := Meets_any w1 r (HR.out.later HB1.out) ba bn bc b (HBI.out.later HB1.out)
    rw [hm] at K2
    refine K2.mono ?_
    clear K2
    rintro e w2 ⟨rfl, hb2⟩
    have HB2 := hid (below_from HB1.out hb2)
    have HRX2 := hid (HRX.out.later hb2)
    have HKB2 := hid (below_from HKB.out hb2)
    clear d0 d1 d2 d3 d4
    obtain ⟨d0, d1, d2, d3, d4⟩ := KB.out w2 HKB2.out
    clear hb2
    go_wp2_with fail
    refine (placeBegun_any w2).mono ?_
    rintro e wz ⟨rfl, hbz⟩
    have HBZ := hid (below_from HB2.out hbz)
    clear hbz
    go_wp2
    go_ret
    exact ⟨rfl, HBZ.out⟩
  · subst he
    have hkb : (r.kind == 1) = false := by simp [hk]
    have HM := hid hm
    have HH := hid hh
    clear hk hm hh
    go_enter Try.func7, Try.ntmps7
    go_wp2_with fail
    refine HK.out.mono ?_
    rintro e w1 ⟨a1, n1, c1, rfl, hr, hb1⟩
    have HB1 := hid (below_from B1.out hb1)
    have HRX := hid hr
    have HKB := hid hb1
    obtain ⟨d0, d1, d2, d3, d4⟩ := KB.out w1 hb1
    clear hr hb1
    go_wp2_with fail
    have K2 := Meets_any w1 r (HR.out.later HB1.out) ba bn bc b (HBI.out.later HB1.out)
    rw [HM.out] at K2
    refine K2.mono ?_
    clear K2
    rintro e w2 ⟨rfl, hb2⟩
    have HB2 := hid (below_from HB1.out hb2)
    have HRX2 := hid (HRX.out.later hb2)
    have HKB2 := hid (below_from HKB.out hb2)
    clear d0 d1 d2 d3 d4
    obtain ⟨d0, d1, d2, d3, d4⟩ := KB.out w2 HKB2.out
    clear hb2
    go_wp2_with fail
    have K3 := held_any w2 la ln lc f (HF.out.later HB2.out) r (HR.out.later HB2.out) ba bn bc b (HBI.out.later HB2.out) HM.out
    rw [HH.out] at K3
    refine K3.mono ?_
    clear K3
    rintro e w3 ⟨rfl, hb3⟩
    have HB3 := hid (below_from HB2.out hb3)
    have HRX3 := hid (HRX2.out.later hb3)
    have HKB3 := hid (below_from HKB2.out hb3)
    clear d0 d1 d2 d3 d4
    obtain ⟨d0, d1, d2, d3, d4⟩ := KB.out w3 HKB3.out
    clear hb3
    go_wp2_with fail
    refine (placeBegun_any w3).mono ?_
    rintro e wz ⟨rfl, hbz⟩
    have HBZ := hid (below_from HB3.out hbz)
    clear hbz
    go_wp2
    go_ret
    exact ⟨rfl, HBZ.out⟩

set_option maxRecDepth 100000 in
set_option maxHeartbeats 4000000 in
theorem PlaceSure_hard (w : World) (la : Option Addr) (ln lc : Nat) (f : RunL) (hf : RunsIn w la ln lc f) (r : Rq) (h : RqIn w r) (ba : Option Addr) (bn bc : Nat) (b : RunL) (hb : RunsIn w ba bn bc b) (x : RunL) (hK : Calls Try.prog 16 #[.slice la ln lc, .agg #[.int .i64 r.queue, .int .i64 r.fr, .int .i64 r.un, .int .i64 r.kind, .slice r.pa r.pn r.pc]] (w.alloc (.cells #[.int .i64 r.queue, .int .i64 r.fr, .int .i64 r.un, .int .i64 r.kind, .slice r.pa r.pn r.pc] 41)) fun e w' => GivesF (w.alloc (.cells #[.int .i64 r.queue, .int .i64 r.fr, .int .i64 r.un, .int .i64 r.kind, .slice r.pa r.pn r.pc] 41)) w' e (x, true) 0)
    (hk : r.kind ≠ 1) (hm : meets r b = true) (hh : heldB f r b = true) (hmx : meets r x = true)
    (h2 : r.kind = 2 → b.length = 1 ∧ x.length = 1 ∧ (rAt x 0 < rAt b 0 ∨ rAt x 0 = rAt b 0 ∧ rN x 0 ≤ rN b 0)) (h3 : r.kind ≠ 2 → x.length = b.length ∧ 0 < x.length ∧ overMax r x x.length ≤ overMax r b b.length) :
    Calls Try.prog 7 #[.slice la ln lc, .agg #[.int .i64 r.queue, .int .i64 r.fr, .int .i64 r.un, .int .i64 r.kind, .slice r.pa r.pn r.pc], .slice ba bn bc] w fun e w' => e = .returned (.bool true) ∧ Below w.heap.size w w' := by
  have B1 := hid ((Below.refl w.heap.size w).alloc (Nat.le_refl _) (.cells #[.int .i64 r.queue, .int .i64 r.fr, .int .i64 r.un, .int .i64 r.kind, .slice r.pa r.pn r.pc] 41))
  have KB := hid (box_cells w r)
  have HF := hid hf
  have HR := hid h
  have HBI := hid hb
  have HK := hid hK
  have HM := hid hm
  have HH := hid hh
  have hkb : (r.kind == 1) = false := by simp [hk]
  have oX := overOk_yes (meets_over hmx)
  have oB := overOk_yes (meets_over hm)
  clear h hf hb hK hh hk
  by_cases k2 : r.kind = 2
  · obtain ⟨b1, x1, hcmp⟩ := h2 k2
    have hk2 : (r.kind == 2) = true := by simp [k2]
    have HC := hid hcmp
    have hbn : bn = 1 := by rw [HBI.out.len]; exact b1
    subst hbn
    obtain ⟨bb, bo, rfl, hbc⟩ := HBI.out.cells (by omega)
    have HBC := hid (hbc 0 (by omega))
    clear h2 h3 k2 hm hmx oX oB hcmp hbc b1
    go_enter Try.func7, Try.ntmps7
    go_wp2_with fail
    refine HK.out.mono ?_
    rintro e w1 ⟨a1, n1, c1, rfl, hr, hb1⟩
    have HB1 := hid (below_from B1.out hb1)
    have HRX := hid hr
    have HKB := hid hb1
    obtain ⟨d0, d1, d2, d3, d4⟩ := KB.out w1 hb1
    clear hr hb1
    obtain rfl : n1 = 1 := by rw [HRX.out.len]; exact x1
    clear x1
    go_wp2_with fail
    have K2 := Meets_any w1 r (HR.out.later HB1.out) _ 1 bc b (HBI.out.later HB1.out)
    rw [HM.out] at K2
    refine K2.mono ?_
    clear K2
    rintro e w2 ⟨rfl, hb2⟩
    have HB2 := hid (below_from HB1.out hb2)
    have HRX2 := hid (HRX.out.later hb2)
    have HKB2 := hid (below_from HKB.out hb2)
    clear d0 d1 d2 d3 d4
    obtain ⟨d0, d1, d2, d3, d4⟩ := KB.out w2 HKB2.out
    clear hb2
    go_wp2_with fail
    have K3 := held_any w2 la ln lc f (HF.out.later HB2.out) r (HR.out.later HB2.out) _ 1 bc b (HBI.out.later HB2.out) HM.out
    rw [HH.out] at K3
    refine K3.mono ?_
    clear K3
    rintro e w3 ⟨rfl, hb3⟩
    have HB3 := hid (below_from HB2.out hb3)
    have HRX3 := hid (HRX2.out.later hb3)
    have HKB3 := hid (below_from HKB2.out hb3)
    clear d0 d1 d2 d3 d4
    obtain ⟨d0, d1, d2, d3, d4⟩ := KB.out w3 HKB3.out
    clear hb3
    obtain ⟨xb, xo, rfl, hxc⟩ := HRX3.out.cells (by omega)
    have hxle := HRX3.out.le
    have hble := HBI.out.le
    obtain ⟨xc, hxcc⟩ : ∃ xc, c1 = xc := ⟨_, rfl⟩
    rw [hxcc]
    rw [hxcc] at hxle
    have x0 := (hxc 0 (by omega)).1
    have x1 := (hxc 0 (by omega)).2
    have y0 := cell_later HB3.out HBC.out.1
    have y1 := cell_later HB3.out HBC.out.2
    simp only [Nat.zero_mul, Nat.add_zero] at x0 x1 y0 y1
    obtain ⟨px, hpx⟩ : ∃ q, rAt x 0 = q := ⟨_, rfl⟩
    obtain ⟨pb, hpb⟩ : ∃ q, rAt b 0 = q := ⟨_, rfl⟩
    obtain ⟨tx, htx⟩ : ∃ q, rN x 0 = q := ⟨_, rfl⟩
    obtain ⟨tb, htb⟩ : ∃ q, rN b 0 = q := ⟨_, rfl⟩
    rw [hpx, hpb, htx, htb] at HC
    rw [hpx] at x0
    rw [hpb] at y0
    rw [htx] at x1
    rw [htb] at y1
    have HB3' := HB3
    have HC' := HC
    clear hxc hpx hpb htx htb hxcc HC
    go_wp2_with fail
    rcases HC'.out with hlt | ⟨heq, hle⟩
    · first
        | skip
          clear d0 d1 d2 d3 d4
          refine wp_region_des2 ((Try.f7.body.bind fun c => regOps c 7).getD #[]) (by kernel_rfl) [isV (.bool true), isV (.bool true), isV (.slice (some ⟨bb, bo, none⟩) 1 bc), isV (.int .i64 1), isV (.bool true), isV (.bool true), isV (.bool true), isV (.slice (some ⟨xb, xo, none⟩) 1 xc), isV (.pointer (some ⟨xb, xo, none⟩)), isV (.pointer (some ⟨xb, xo, none⟩)), isV (.int .i64 px), isV (.slice (some ⟨bb, bo, none⟩) 1 bc), isV (.pointer (some ⟨bb, bo, none⟩)), isV (.pointer (some ⟨bb, bo, none⟩)), isV (.int .i64 pb), isV (.bool true), isV (.bool true), isV undef, isV undef, isV undef, isV undef, isV undef, isV undef, isV undef, isV undef, isV undef, isV undef, isV undef, isV undef, isV undef, isV undef, isV undef, isV undef, isV undef, isV undef, isV undef, isV undef, isV (.bool true), isV (.bool true), isV (.bool true)] [(1, true), (6, true)] [(16, false), (26, true)] (by kernel_rfl) (by kernel_rfl) (by kernel_rfl) ?hg ?hn ?hstep ?hfin
          case hg =>
            intro g hg v w h
            simp only [List.mem_cons, List.not_mem_nil, or_false] at hg
            rcases hg with rfl | rfl <;> exact h
          case hn =>
            intro g hg v w h
            simp only [List.mem_cons, List.not_mem_nil, or_false] at hg
            rcases hg with rfl | rfl
            all_goals
              have h : v = _ := h
              rw [h]
              intro q
              cases q
          case hstep =>
            refine AllOps.cons 1 rfl ?_ ?_
            · intro T w' hb hl hd
              refine Step.does (by kernel_rfl) ?_
              refine Or.inr ⟨18, #[], by go_simp, ?_⟩
              refine (placeBegun_any w').mono ?_
              rintro e w'' ⟨rfl, hbb⟩
              exact ⟨_, rfl, rfl, hbb⟩
            refine AllOps.cons 2 rfl ?_ ?_
            · intro T w' hb hl hd
              refine Step.does (by kernel_rfl) ?_
              have h0 : T.getD 52 undef = .bool true := hd 0 52 (by kernel_rfl)
              exact Or.inl ⟨.bool true, w', by go_simp, rfl, Below.refl _ _⟩
            refine AllOps.cons 3 rfl ?_ ?_
            · intro T w' hb hl hd
              refine Step.does (by kernel_rfl) ?_
              have h0 : T.getD 2 undef = .slice (some ⟨bb, bo, none⟩) 1 bc := hl 2 (by kernel_rfl)
              exact Or.inl ⟨.slice (some ⟨bb, bo, none⟩) 1 bc, w', by go_simp, rfl, Below.refl _ _⟩
            refine AllOps.cons 4 rfl ?_ ?_
            · intro T w' hb hl hd
              refine Step.does (by kernel_rfl) ?_
              have h0 : T.getD 54 undef = .slice (some ⟨bb, bo, none⟩) 1 bc := hd 2 54 (by kernel_rfl)
              exact Or.inl ⟨.int .i64 1, w', by go_simp, rfl, Below.refl _ _⟩
            refine AllOps.cons 5 rfl ?_ ?_
            · intro T w' hb hl hd
              refine Step.does (by kernel_rfl) ?_
              have h0 : T.getD 55 undef = .int .i64 1 := hd 3 55 (by kernel_rfl)
              exact Or.inl ⟨.bool true, w', by go_simp, rfl, Below.refl _ _⟩
            refine AllOps.cons 6 rfl ?_ ?_
            · intro T w' hb hl hd
              refine Step.does (by kernel_rfl) ?_
              have h0 : T.getD 53 undef = .bool true := hd 1 53 (by kernel_rfl)
              have h1 : T.getD 56 undef = .bool true := hd 4 56 (by kernel_rfl)
              exact Or.inl ⟨.bool true, w', by go_simp, rfl, Below.refl _ _⟩
            refine AllOps.cons 7 rfl ?_ ?_
            · intro T w' hb hl hd
              refine Step.does (by kernel_rfl) ?_
              have h0 : T.getD 57 undef = .bool true := hd 5 57 (by kernel_rfl)
              exact Or.inl ⟨.bool true, w', by go_simp, rfl, Below.refl _ _⟩
            refine AllOps.cons 8 rfl ?_ ?_
            · intro T w' hb hl hd
              refine Step.does (by kernel_rfl) ?_
              have h0 : T.getD 7 undef = .slice (some ⟨xb, xo, none⟩) 1 xc := hl 7 (by kernel_rfl)
              exact Or.inl ⟨.slice (some ⟨xb, xo, none⟩) 1 xc, w', by go_simp, rfl, Below.refl _ _⟩
            refine AllOps.cons 9 rfl ?_ ?_
            · intro T w' hb hl hd
              refine Step.does (by kernel_rfl) ?_
              have h0 : T.getD 59 undef = .slice (some ⟨xb, xo, none⟩) 1 xc := hd 7 59 (by kernel_rfl)
              exact Or.inl ⟨.pointer (some ⟨xb, xo, none⟩), w', by go_simp, rfl, Below.refl _ _⟩
            refine AllOps.cons 10 rfl ?_ ?_
            · intro T w' hb hl hd
              refine Step.does (by kernel_rfl) ?_
              have h0 : T.getD 60 undef = .pointer (some ⟨xb, xo, none⟩) := hd 8 60 (by kernel_rfl)
              exact Or.inl ⟨.pointer (some ⟨xb, xo, none⟩), w', by go_simp, rfl, Below.refl _ _⟩
            refine AllOps.cons 11 rfl ?_ ?_
            · intro T w' hb hl hd
              refine Step.does (by kernel_rfl) ?_
              have h0 : T.getD 61 undef = .pointer (some ⟨xb, xo, none⟩) := hd 9 61 (by kernel_rfl)
              have dd := cell_later hb x0
              exact Or.inl ⟨.int .i64 px, w', by go_simp, rfl, Below.refl _ _⟩
            refine AllOps.cons 12 rfl ?_ ?_
            · intro T w' hb hl hd
              refine Step.does (by kernel_rfl) ?_
              have h0 : T.getD 2 undef = .slice (some ⟨bb, bo, none⟩) 1 bc := hl 2 (by kernel_rfl)
              exact Or.inl ⟨.slice (some ⟨bb, bo, none⟩) 1 bc, w', by go_simp, rfl, Below.refl _ _⟩
            refine AllOps.cons 13 rfl ?_ ?_
            · intro T w' hb hl hd
              refine Step.does (by kernel_rfl) ?_
              have h0 : T.getD 63 undef = .slice (some ⟨bb, bo, none⟩) 1 bc := hd 11 63 (by kernel_rfl)
              exact Or.inl ⟨.pointer (some ⟨bb, bo, none⟩), w', by go_simp, rfl, Below.refl _ _⟩
            refine AllOps.cons 14 rfl ?_ ?_
            · intro T w' hb hl hd
              refine Step.does (by kernel_rfl) ?_
              have h0 : T.getD 64 undef = .pointer (some ⟨bb, bo, none⟩) := hd 12 64 (by kernel_rfl)
              exact Or.inl ⟨.pointer (some ⟨bb, bo, none⟩), w', by go_simp, rfl, Below.refl _ _⟩
            refine AllOps.cons 15 rfl ?_ ?_
            · intro T w' hb hl hd
              refine Step.does (by kernel_rfl) ?_
              have h0 : T.getD 65 undef = .pointer (some ⟨bb, bo, none⟩) := hd 13 65 (by kernel_rfl)
              have dd := cell_later hb y0
              exact Or.inl ⟨.int .i64 pb, w', by go_simp, rfl, Below.refl _ _⟩
            refine AllOps.cons 16 rfl ?_ ?_
            · intro T w' hb hl hd
              refine Step.does (by kernel_rfl) ?_
              have h0 : T.getD 62 undef = .int .i64 px := hd 10 62 (by kernel_rfl)
              have h1 : T.getD 66 undef = .int .i64 pb := hd 14 66 (by kernel_rfl)
              exact Or.inl ⟨.bool true, w', by go_simp, rfl, Below.refl _ _⟩
            refine AllOps.cons 17 rfl ?_ ?_
            · intro T w' hb hl hd
              refine Step.does (by kernel_rfl) ?_
              have h0 : T.getD 67 undef = .bool true := hd 15 67 (by kernel_rfl)
              exact Or.inl ⟨.bool true, w', by go_simp, rfl, Below.refl _ _⟩
            refine AllOps.cons 18 rfl (fun T w' hb hl hd => Step.skip (by kernel_rfl) rfl) ?_
            refine AllOps.cons 19 rfl (fun T w' hb hl hd => Step.skip (by kernel_rfl) rfl) ?_
            refine AllOps.cons 20 rfl (fun T w' hb hl hd => Step.skip (by kernel_rfl) rfl) ?_
            refine AllOps.cons 21 rfl (fun T w' hb hl hd => Step.skip (by kernel_rfl) rfl) ?_
            refine AllOps.cons 22 rfl (fun T w' hb hl hd => Step.skip (by kernel_rfl) rfl) ?_
            refine AllOps.cons 23 rfl (fun T w' hb hl hd => Step.skip (by kernel_rfl) rfl) ?_
            refine AllOps.cons 24 rfl (fun T w' hb hl hd => Step.skip (by kernel_rfl) rfl) ?_
            refine AllOps.cons 25 rfl (fun T w' hb hl hd => Step.skip (by kernel_rfl) rfl) ?_
            refine AllOps.cons 26 rfl (fun T w' hb hl hd => Step.skip (by kernel_rfl) rfl) ?_
            refine AllOps.cons 27 rfl (fun T w' hb hl hd => Step.skip (by kernel_rfl) rfl) ?_
            refine AllOps.cons 28 rfl (fun T w' hb hl hd => Step.skip (by kernel_rfl) rfl) ?_
            refine AllOps.cons 29 rfl (fun T w' hb hl hd => Step.skip (by kernel_rfl) rfl) ?_
            refine AllOps.cons 30 rfl (fun T w' hb hl hd => Step.skip (by kernel_rfl) rfl) ?_
            refine AllOps.cons 31 rfl (fun T w' hb hl hd => Step.skip (by kernel_rfl) rfl) ?_
            refine AllOps.cons 32 rfl (fun T w' hb hl hd => Step.skip (by kernel_rfl) rfl) ?_
            refine AllOps.cons 33 rfl (fun T w' hb hl hd => Step.skip (by kernel_rfl) rfl) ?_
            refine AllOps.cons 34 rfl (fun T w' hb hl hd => Step.skip (by kernel_rfl) rfl) ?_
            refine AllOps.cons 35 rfl (fun T w' hb hl hd => Step.skip (by kernel_rfl) rfl) ?_
            refine AllOps.cons 36 rfl (fun T w' hb hl hd => Step.skip (by kernel_rfl) rfl) ?_
            refine AllOps.cons 37 rfl (fun T w' hb hl hd => Step.skip (by kernel_rfl) rfl) ?_
            refine AllOps.cons 38 rfl ?_ ?_
            · intro T w' hb hl hd
              refine Step.does (by kernel_rfl) ?_
              have h0 : T.getD 68 undef = .bool true := hd 16 68 (by kernel_rfl)
              exact Or.inl ⟨.bool true, w', by go_simp, rfl, Below.refl _ _⟩
            refine AllOps.cons 39 rfl ?_ ?_
            · intro T w' hb hl hd
              refine Step.does (by kernel_rfl) ?_
              have h0 : T.getD 58 undef = .bool true := hd 6 58 (by kernel_rfl)
              have h1 : T.getD 89 undef = .bool true := hd 37 89 (by kernel_rfl)
              exact Or.inl ⟨.bool true, w', by go_simp, rfl, Below.refl _ _⟩
            refine AllOps.cons 40 rfl ?_ ?_
            · intro T w' hb hl hd
              refine Step.does (by kernel_rfl) ?_
              have h0 : T.getD 90 undef = .bool true := hd 38 90 (by kernel_rfl)
              exact Or.inl ⟨.bool true, w', by go_simp, rfl, Below.refl _ _⟩
            exact trivial
          case hfin =>
            intro T w' hb hs hl hd
            have h0 : T.getD 6 undef = .bool true := hd 39 6 (by kernel_rfl)
            apply_assumption
            go_wp2
            exact bodyPost_ret (v := .bool true) ((results_tmp rfl T _ _).trans (by rw [h0])) rfl ⟨rfl, below_from HB3.out hb⟩
    · subst heq
      first
        | skip
          clear d0 d1 d2 d3 d4
          refine wp_region_des2 ((Try.f7.body.bind fun c => regOps c 7).getD #[]) (by kernel_rfl) [isV (.bool true), isV (.bool true), isV (.slice (some ⟨bb, bo, none⟩) 1 bc), isV (.int .i64 1), isV (.bool true), isV (.bool true), isV (.bool true), isV (.slice (some ⟨xb, xo, none⟩) 1 xc), isV (.pointer (some ⟨xb, xo, none⟩)), isV (.pointer (some ⟨xb, xo, none⟩)), isV (.int .i64 px), isV (.slice (some ⟨bb, bo, none⟩) 1 bc), isV (.pointer (some ⟨bb, bo, none⟩)), isV (.pointer (some ⟨bb, bo, none⟩)), isV (.int .i64 px), isV (.bool false), isV (.bool false), isV (.slice (some ⟨xb, xo, none⟩) 1 xc), isV (.pointer (some ⟨xb, xo, none⟩)), isV (.pointer (some ⟨xb, xo, none⟩)), isV (.int .i64 px), isV (.slice (some ⟨bb, bo, none⟩) 1 bc), isV (.pointer (some ⟨bb, bo, none⟩)), isV (.pointer (some ⟨bb, bo, none⟩)), isV (.int .i64 px), isV (.bool true), isV (.bool true), isV (.slice (some ⟨xb, xo, none⟩) 1 xc), isV (.pointer (some ⟨xb, xo, none⟩)), isV (.pointer (some ⟨xb, xo + 1, none⟩)), isV (.int .i64 tx), isV (.slice (some ⟨bb, bo, none⟩) 1 bc), isV (.pointer (some ⟨bb, bo, none⟩)), isV (.pointer (some ⟨bb, bo + 1, none⟩)), isV (.int .i64 tb), isV (.bool true), isV (.bool true), isV (.bool true), isV (.bool true), isV (.bool true)] [(1, true), (6, true), (16, false), (26, true)] [] (by kernel_rfl) (by kernel_rfl) (by kernel_rfl) ?hg ?hn ?hstep ?hfin
          case hg =>
            intro g hg v w h
            simp only [List.mem_cons, List.not_mem_nil, or_false] at hg
            rcases hg with rfl | rfl | rfl | rfl <;> exact h
          case hn =>
            intro g hg v w h
            cases hg
          case hstep =>
            refine AllOps.cons 1 rfl ?_ ?_
            · intro T w' hb hl hd
              refine Step.does (by kernel_rfl) ?_
              refine Or.inr ⟨18, #[], by go_simp, ?_⟩
              refine (placeBegun_any w').mono ?_
              rintro e w'' ⟨rfl, hbb⟩
              exact ⟨_, rfl, rfl, hbb⟩
            refine AllOps.cons 2 rfl ?_ ?_
            · intro T w' hb hl hd
              refine Step.does (by kernel_rfl) ?_
              have h0 : T.getD 52 undef = .bool true := hd 0 52 (by kernel_rfl)
              exact Or.inl ⟨.bool true, w', by go_simp, rfl, Below.refl _ _⟩
            refine AllOps.cons 3 rfl ?_ ?_
            · intro T w' hb hl hd
              refine Step.does (by kernel_rfl) ?_
              have h0 : T.getD 2 undef = .slice (some ⟨bb, bo, none⟩) 1 bc := hl 2 (by kernel_rfl)
              exact Or.inl ⟨.slice (some ⟨bb, bo, none⟩) 1 bc, w', by go_simp, rfl, Below.refl _ _⟩
            refine AllOps.cons 4 rfl ?_ ?_
            · intro T w' hb hl hd
              refine Step.does (by kernel_rfl) ?_
              have h0 : T.getD 54 undef = .slice (some ⟨bb, bo, none⟩) 1 bc := hd 2 54 (by kernel_rfl)
              exact Or.inl ⟨.int .i64 1, w', by go_simp, rfl, Below.refl _ _⟩
            refine AllOps.cons 5 rfl ?_ ?_
            · intro T w' hb hl hd
              refine Step.does (by kernel_rfl) ?_
              have h0 : T.getD 55 undef = .int .i64 1 := hd 3 55 (by kernel_rfl)
              exact Or.inl ⟨.bool true, w', by go_simp, rfl, Below.refl _ _⟩
            refine AllOps.cons 6 rfl ?_ ?_
            · intro T w' hb hl hd
              refine Step.does (by kernel_rfl) ?_
              have h0 : T.getD 53 undef = .bool true := hd 1 53 (by kernel_rfl)
              have h1 : T.getD 56 undef = .bool true := hd 4 56 (by kernel_rfl)
              exact Or.inl ⟨.bool true, w', by go_simp, rfl, Below.refl _ _⟩
            refine AllOps.cons 7 rfl ?_ ?_
            · intro T w' hb hl hd
              refine Step.does (by kernel_rfl) ?_
              have h0 : T.getD 57 undef = .bool true := hd 5 57 (by kernel_rfl)
              exact Or.inl ⟨.bool true, w', by go_simp, rfl, Below.refl _ _⟩
            refine AllOps.cons 8 rfl ?_ ?_
            · intro T w' hb hl hd
              refine Step.does (by kernel_rfl) ?_
              have h0 : T.getD 7 undef = .slice (some ⟨xb, xo, none⟩) 1 xc := hl 7 (by kernel_rfl)
              exact Or.inl ⟨.slice (some ⟨xb, xo, none⟩) 1 xc, w', by go_simp, rfl, Below.refl _ _⟩
            refine AllOps.cons 9 rfl ?_ ?_
            · intro T w' hb hl hd
              refine Step.does (by kernel_rfl) ?_
              have h0 : T.getD 59 undef = .slice (some ⟨xb, xo, none⟩) 1 xc := hd 7 59 (by kernel_rfl)
              exact Or.inl ⟨.pointer (some ⟨xb, xo, none⟩), w', by go_simp, rfl, Below.refl _ _⟩
            refine AllOps.cons 10 rfl ?_ ?_
            · intro T w' hb hl hd
              refine Step.does (by kernel_rfl) ?_
              have h0 : T.getD 60 undef = .pointer (some ⟨xb, xo, none⟩) := hd 8 60 (by kernel_rfl)
              exact Or.inl ⟨.pointer (some ⟨xb, xo, none⟩), w', by go_simp, rfl, Below.refl _ _⟩
            refine AllOps.cons 11 rfl ?_ ?_
            · intro T w' hb hl hd
              refine Step.does (by kernel_rfl) ?_
              have h0 : T.getD 61 undef = .pointer (some ⟨xb, xo, none⟩) := hd 9 61 (by kernel_rfl)
              have dd := cell_later hb x0
              exact Or.inl ⟨.int .i64 px, w', by go_simp, rfl, Below.refl _ _⟩
            refine AllOps.cons 12 rfl ?_ ?_
            · intro T w' hb hl hd
              refine Step.does (by kernel_rfl) ?_
              have h0 : T.getD 2 undef = .slice (some ⟨bb, bo, none⟩) 1 bc := hl 2 (by kernel_rfl)
              exact Or.inl ⟨.slice (some ⟨bb, bo, none⟩) 1 bc, w', by go_simp, rfl, Below.refl _ _⟩
            refine AllOps.cons 13 rfl ?_ ?_
            · intro T w' hb hl hd
              refine Step.does (by kernel_rfl) ?_
              have h0 : T.getD 63 undef = .slice (some ⟨bb, bo, none⟩) 1 bc := hd 11 63 (by kernel_rfl)
              exact Or.inl ⟨.pointer (some ⟨bb, bo, none⟩), w', by go_simp, rfl, Below.refl _ _⟩
            refine AllOps.cons 14 rfl ?_ ?_
            · intro T w' hb hl hd
              refine Step.does (by kernel_rfl) ?_
              have h0 : T.getD 64 undef = .pointer (some ⟨bb, bo, none⟩) := hd 12 64 (by kernel_rfl)
              exact Or.inl ⟨.pointer (some ⟨bb, bo, none⟩), w', by go_simp, rfl, Below.refl _ _⟩
            refine AllOps.cons 15 rfl ?_ ?_
            · intro T w' hb hl hd
              refine Step.does (by kernel_rfl) ?_
              have h0 : T.getD 65 undef = .pointer (some ⟨bb, bo, none⟩) := hd 13 65 (by kernel_rfl)
              have dd := cell_later hb y0
              exact Or.inl ⟨.int .i64 px, w', by go_simp, rfl, Below.refl _ _⟩
            refine AllOps.cons 16 rfl ?_ ?_
            · intro T w' hb hl hd
              refine Step.does (by kernel_rfl) ?_
              have h0 : T.getD 62 undef = .int .i64 px := hd 10 62 (by kernel_rfl)
              have h1 : T.getD 66 undef = .int .i64 px := hd 14 66 (by kernel_rfl)
              exact Or.inl ⟨.bool false, w', by go_simp, rfl, Below.refl _ _⟩
            refine AllOps.cons 17 rfl ?_ ?_
            · intro T w' hb hl hd
              refine Step.does (by kernel_rfl) ?_
              have h0 : T.getD 67 undef = .bool false := hd 15 67 (by kernel_rfl)
              exact Or.inl ⟨.bool false, w', by go_simp, rfl, Below.refl _ _⟩
            refine AllOps.cons 18 rfl ?_ ?_
            · intro T w' hb hl hd
              refine Step.does (by kernel_rfl) ?_
              have h0 : T.getD 7 undef = .slice (some ⟨xb, xo, none⟩) 1 xc := hl 7 (by kernel_rfl)
              exact Or.inl ⟨.slice (some ⟨xb, xo, none⟩) 1 xc, w', by go_simp, rfl, Below.refl _ _⟩
            refine AllOps.cons 19 rfl ?_ ?_
            · intro T w' hb hl hd
              refine Step.does (by kernel_rfl) ?_
              have h0 : T.getD 69 undef = .slice (some ⟨xb, xo, none⟩) 1 xc := hd 17 69 (by kernel_rfl)
              exact Or.inl ⟨.pointer (some ⟨xb, xo, none⟩), w', by go_simp, rfl, Below.refl _ _⟩
            refine AllOps.cons 20 rfl ?_ ?_
            · intro T w' hb hl hd
              refine Step.does (by kernel_rfl) ?_
              have h0 : T.getD 70 undef = .pointer (some ⟨xb, xo, none⟩) := hd 18 70 (by kernel_rfl)
              exact Or.inl ⟨.pointer (some ⟨xb, xo, none⟩), w', by go_simp, rfl, Below.refl _ _⟩
            refine AllOps.cons 21 rfl ?_ ?_
            · intro T w' hb hl hd
              refine Step.does (by kernel_rfl) ?_
              have h0 : T.getD 71 undef = .pointer (some ⟨xb, xo, none⟩) := hd 19 71 (by kernel_rfl)
              have dd := cell_later hb x0
              exact Or.inl ⟨.int .i64 px, w', by go_simp, rfl, Below.refl _ _⟩
            refine AllOps.cons 22 rfl ?_ ?_
            · intro T w' hb hl hd
              refine Step.does (by kernel_rfl) ?_
              have h0 : T.getD 2 undef = .slice (some ⟨bb, bo, none⟩) 1 bc := hl 2 (by kernel_rfl)
              exact Or.inl ⟨.slice (some ⟨bb, bo, none⟩) 1 bc, w', by go_simp, rfl, Below.refl _ _⟩
            refine AllOps.cons 23 rfl ?_ ?_
            · intro T w' hb hl hd
              refine Step.does (by kernel_rfl) ?_
              have h0 : T.getD 73 undef = .slice (some ⟨bb, bo, none⟩) 1 bc := hd 21 73 (by kernel_rfl)
              exact Or.inl ⟨.pointer (some ⟨bb, bo, none⟩), w', by go_simp, rfl, Below.refl _ _⟩
            refine AllOps.cons 24 rfl ?_ ?_
            · intro T w' hb hl hd
              refine Step.does (by kernel_rfl) ?_
              have h0 : T.getD 74 undef = .pointer (some ⟨bb, bo, none⟩) := hd 22 74 (by kernel_rfl)
              exact Or.inl ⟨.pointer (some ⟨bb, bo, none⟩), w', by go_simp, rfl, Below.refl _ _⟩
            refine AllOps.cons 25 rfl ?_ ?_
            · intro T w' hb hl hd
              refine Step.does (by kernel_rfl) ?_
              have h0 : T.getD 75 undef = .pointer (some ⟨bb, bo, none⟩) := hd 23 75 (by kernel_rfl)
              have dd := cell_later hb y0
              exact Or.inl ⟨.int .i64 px, w', by go_simp, rfl, Below.refl _ _⟩
            refine AllOps.cons 26 rfl ?_ ?_
            · intro T w' hb hl hd
              refine Step.does (by kernel_rfl) ?_
              have h0 : T.getD 72 undef = .int .i64 px := hd 20 72 (by kernel_rfl)
              have h1 : T.getD 76 undef = .int .i64 px := hd 24 76 (by kernel_rfl)
              exact Or.inl ⟨.bool true, w', by go_simp, rfl, Below.refl _ _⟩
            refine AllOps.cons 27 rfl ?_ ?_
            · intro T w' hb hl hd
              refine Step.does (by kernel_rfl) ?_
              have h0 : T.getD 77 undef = .bool true := hd 25 77 (by kernel_rfl)
              exact Or.inl ⟨.bool true, w', by go_simp, rfl, Below.refl _ _⟩
            refine AllOps.cons 28 rfl ?_ ?_
            · intro T w' hb hl hd
              refine Step.does (by kernel_rfl) ?_
              have h0 : T.getD 7 undef = .slice (some ⟨xb, xo, none⟩) 1 xc := hl 7 (by kernel_rfl)
              exact Or.inl ⟨.slice (some ⟨xb, xo, none⟩) 1 xc, w', by go_simp, rfl, Below.refl _ _⟩
            refine AllOps.cons 29 rfl ?_ ?_
            · intro T w' hb hl hd
              refine Step.does (by kernel_rfl) ?_
              have h0 : T.getD 79 undef = .slice (some ⟨xb, xo, none⟩) 1 xc := hd 27 79 (by kernel_rfl)
              exact Or.inl ⟨.pointer (some ⟨xb, xo, none⟩), w', by go_simp, rfl, Below.refl _ _⟩
            refine AllOps.cons 30 rfl ?_ ?_
            · intro T w' hb hl hd
              refine Step.does (by kernel_rfl) ?_
              have h0 : T.getD 80 undef = .pointer (some ⟨xb, xo, none⟩) := hd 28 80 (by kernel_rfl)
              exact Or.inl ⟨.pointer (some ⟨xb, xo + 1, none⟩), w', by go_simp, rfl, Below.refl _ _⟩
            refine AllOps.cons 31 rfl ?_ ?_
            · intro T w' hb hl hd
              refine Step.does (by kernel_rfl) ?_
              have h0 : T.getD 81 undef = .pointer (some ⟨xb, xo + 1, none⟩) := hd 29 81 (by kernel_rfl)
              have dd := cell_later hb x1
              exact Or.inl ⟨.int .i64 tx, w', by go_simp, rfl, Below.refl _ _⟩
            refine AllOps.cons 32 rfl ?_ ?_
            · intro T w' hb hl hd
              refine Step.does (by kernel_rfl) ?_
              have h0 : T.getD 2 undef = .slice (some ⟨bb, bo, none⟩) 1 bc := hl 2 (by kernel_rfl)
              exact Or.inl ⟨.slice (some ⟨bb, bo, none⟩) 1 bc, w', by go_simp, rfl, Below.refl _ _⟩
            refine AllOps.cons 33 rfl ?_ ?_
            · intro T w' hb hl hd
              refine Step.does (by kernel_rfl) ?_
              have h0 : T.getD 83 undef = .slice (some ⟨bb, bo, none⟩) 1 bc := hd 31 83 (by kernel_rfl)
              exact Or.inl ⟨.pointer (some ⟨bb, bo, none⟩), w', by go_simp, rfl, Below.refl _ _⟩
            refine AllOps.cons 34 rfl ?_ ?_
            · intro T w' hb hl hd
              refine Step.does (by kernel_rfl) ?_
              have h0 : T.getD 84 undef = .pointer (some ⟨bb, bo, none⟩) := hd 32 84 (by kernel_rfl)
              exact Or.inl ⟨.pointer (some ⟨bb, bo + 1, none⟩), w', by go_simp, rfl, Below.refl _ _⟩
            refine AllOps.cons 35 rfl ?_ ?_
            · intro T w' hb hl hd
              refine Step.does (by kernel_rfl) ?_
              have h0 : T.getD 85 undef = .pointer (some ⟨bb, bo + 1, none⟩) := hd 33 85 (by kernel_rfl)
              have dd := cell_later hb y1
              exact Or.inl ⟨.int .i64 tb, w', by go_simp, rfl, Below.refl _ _⟩
            refine AllOps.cons 36 rfl ?_ ?_
            · intro T w' hb hl hd
              refine Step.does (by kernel_rfl) ?_
              have h0 : T.getD 82 undef = .int .i64 tx := hd 30 82 (by kernel_rfl)
              have h1 : T.getD 86 undef = .int .i64 tb := hd 34 86 (by kernel_rfl)
              exact Or.inl ⟨.bool true, w', by go_simp, rfl, Below.refl _ _⟩
            refine AllOps.cons 37 rfl ?_ ?_
            · intro T w' hb hl hd
              refine Step.does (by kernel_rfl) ?_
              have h0 : T.getD 78 undef = .bool true := hd 26 78 (by kernel_rfl)
              have h1 : T.getD 87 undef = .bool true := hd 35 87 (by kernel_rfl)
              exact Or.inl ⟨.bool true, w', by go_simp, rfl, Below.refl _ _⟩
            refine AllOps.cons 38 rfl ?_ ?_
            · intro T w' hb hl hd
              refine Step.does (by kernel_rfl) ?_
              have h0 : T.getD 68 undef = .bool false := hd 16 68 (by kernel_rfl)
              have h1 : T.getD 88 undef = .bool true := hd 36 88 (by kernel_rfl)
              exact Or.inl ⟨.bool true, w', by go_simp, rfl, Below.refl _ _⟩
            refine AllOps.cons 39 rfl ?_ ?_
            · intro T w' hb hl hd
              refine Step.does (by kernel_rfl) ?_
              have h0 : T.getD 58 undef = .bool true := hd 6 58 (by kernel_rfl)
              have h1 : T.getD 89 undef = .bool true := hd 37 89 (by kernel_rfl)
              exact Or.inl ⟨.bool true, w', by go_simp, rfl, Below.refl _ _⟩
            refine AllOps.cons 40 rfl ?_ ?_
            · intro T w' hb hl hd
              refine Step.does (by kernel_rfl) ?_
              have h0 : T.getD 90 undef = .bool true := hd 38 90 (by kernel_rfl)
              exact Or.inl ⟨.bool true, w', by go_simp, rfl, Below.refl _ _⟩
            exact trivial
          case hfin =>
            intro T w' hb hs hl hd
            have h0 : T.getD 6 undef = .bool true := hd 39 6 (by kernel_rfl)
            apply_assumption
            go_wp2
            exact bodyPost_ret (v := .bool true) ((results_tmp rfl T _ _).trans (by rw [h0])) rfl ⟨rfl, below_from HB3.out hb⟩
  · obtain ⟨xl, xp, xo⟩ := h3 k2
    have hk2 : (r.kind == 2) = false := by simp [k2]
    have KX := hid fun X (hX : Below w.heap.size w X) a n c (hr : RunsIn X a n c x) => Over_any X r (HR.out.later hX) a n c x hr
    have KY := hid fun X (hX : Below w.heap.size w X) => Over_any X r (HR.out.later hX) ba bn bc b (HBI.out.later hX)
    rw [oX.1, oX.2] at KX
    rw [oB.1, oB.2] at KY
    obtain ⟨m, hm1⟩ : ∃ m, overMax r x x.length = m := ⟨_, rfl⟩
    obtain ⟨n, hn1⟩ : ∃ m, overMax r b b.length = m := ⟨_, rfl⟩
    rw [hm1] at KX xo
    rw [hn1] at KY xo
    clear h2 h3 k2 hm hmx oX oB hm1 hn1
    go_enter Try.func7, Try.ntmps7
    go_wp2_with fail
    refine HK.out.mono ?_
    rintro e w1 ⟨a1, n1, c1, rfl, hr, hb1⟩
    have HB1 := hid (below_from B1.out hb1)
    have HRX := hid hr
    have HKB := hid hb1
    obtain ⟨d0, d1, d2, d3, d4⟩ := KB.out w1 hb1
    clear hr hb1
    have hn1 : 0 < n1 := by rw [HRX.out.len]; exact xp
    have hnb : ((n1 : Int) == 0) = false := by simp; omega
    clear xp xl
    go_wp2_with fail
    have K2 := Meets_any w1 r (HR.out.later HB1.out) ba bn bc b (HBI.out.later HB1.out)
    rw [HM.out] at K2
    refine K2.mono ?_
    clear K2
    rintro e w2 ⟨rfl, hb2⟩
    have HB2 := hid (below_from HB1.out hb2)
    have HRX2 := hid (HRX.out.later hb2)
    have HKB2 := hid (below_from HKB.out hb2)
    clear d0 d1 d2 d3 d4
    obtain ⟨d0, d1, d2, d3, d4⟩ := KB.out w2 HKB2.out
    clear hb2
    go_wp2_with fail
    have K3 := held_any w2 la ln lc f (HF.out.later HB2.out) r (HR.out.later HB2.out) ba bn bc b (HBI.out.later HB2.out) HM.out
    rw [HH.out] at K3
    refine K3.mono ?_
    clear K3
    rintro e w3 ⟨rfl, hb3⟩
    have HB3 := hid (below_from HB2.out hb3)
    have HRX3 := hid (HRX2.out.later hb3)
    have HKB3 := hid (below_from HKB2.out hb3)
    clear d0 d1 d2 d3 d4
    obtain ⟨d0, d1, d2, d3, d4⟩ := KB.out w3 HKB3.out
    clear hb3
    go_wp2_with fail
    refine (KX.out w3 HB3.out a1 n1 c1 HRX3.out).mono ?_
    rintro e w4 ⟨rfl, hb4⟩
    have HB4 := hid (below_from HB3.out hb4)
    have HKB4 := hid (below_from HKB3.out hb4)
    clear d0 d1 d2 d3 d4
    obtain ⟨d0, d1, d2, d3, d4⟩ := KB.out w4 HKB4.out
    clear hb4
    go_wp2_with fail
    refine (KY.out w4 HB4.out).mono ?_
    rintro e w5 ⟨rfl, hb5⟩
    have HB5 := hid (below_from HB4.out hb5)
    clear d0 d1 d2 d3 d4 hb5
    go_wp2_with fail
    refine (placeBegun_any w5).mono ?_
    rintro e wz ⟨rfl, hbz⟩
    have HBZ := hid (below_from HB5.out hbz)
    clear hbz
    go_wp2
    go_ret
    exact ⟨rfl, HBZ.out⟩

theorem PlaceSure_walk (w : World) (la : Option Addr) (ln lc : Nat) (f : RunL) (hf : RunsIn w la ln lc f) (r : Rq) (h : RqIn w r) (ba : Option Addr) (bn bc : Nat) (b : RunL) (hb : RunsIn w ba bn bc b) :
    Calls Try.prog 7 #[.slice la ln lc, .agg #[.int .i64 r.queue, .int .i64 r.fr, .int .i64 r.un, .int .i64 r.kind, .slice r.pa r.pn r.pc], .slice ba bn bc] w fun e w' => e = .returned (.bool true) ∧ Below w.heap.size w w' := by
  have B1 := (Below.refl w.heap.size w).alloc (Nat.le_refl _) (.cells #[.int .i64 r.queue, .int .i64 r.fr, .int .i64 r.un, .int .i64 r.kind, .slice r.pa r.pn r.pc] 41)
  have K := Find_any _ r (h.later B1) la ln lc f (hf.later B1)
  by_cases he : placeErr f r = 0
  · rw [if_pos he] at K
    by_cases hk : r.kind = 1
    · exact PlaceSure_easy w la ln lc f hf r h ba bn bc b hb _ _ K (Or.inr ⟨he, Or.inl hk⟩)
    cases hm : meets r b with
    | false => exact PlaceSure_easy w la ln lc f hf r h ba bn bc b hb _ _ K (Or.inr ⟨he, Or.inr ⟨hk, Or.inl hm⟩⟩)
    | true =>
      cases hh : heldB f r b with
      | false => exact PlaceSure_easy w la ln lc f hf r h ba bn bc b hb _ _ K (Or.inr ⟨he, Or.inr ⟨hk, Or.inr ⟨hm, hh⟩⟩⟩)
      | true =>
        obtain ⟨x, hx, h2, h3⟩ := find_sure he hk hm hh
        rw [hx, he] at K
        exact PlaceSure_hard w la ln lc f hf r h ba bn bc b hb x K hk hm hh (find_good he hx).1 h2 h3
  · exact PlaceSure_easy w la ln lc f hf r h ba bn bc b hb _ _ K (Or.inl he)

set_option maxRecDepth 100000 in
theorem PlaceSure_lifted (os : Os) (started : os.Started) (H : Type) (enc : TypeId × Value → H) :
    ReturnsInHanded {} Try.checked os 7 .any (Rows.placeSureSpec.pre6 enc Try.prog Try.f7 Rows.placeSureRow.domain false) (Rows.placeSureSpec.post enc Try.prog Try.f7 false true false false) := by
  refine returnsInHanded_of_change (C := Try.checked) own started (by kernel_rfl) Try.func7
    (ChangeSpec.witness6 (enc := enc) (C := Try.checked) false ⟨#[], #[.slice none 0 0, .agg #[.int .i64 0, .int .i64 0, .int .i64 0, .int .i64 0, .slice none 0 0], .slice none 0 0], []⟩ 8 (by kernel_rfl) (by kernel_rfl) (by kernel_rfl) (by kernel_rfl)) ?_
  intro W base args ds gs before hval0 hW hcnd _
  have hval : ∀ (j : Nat) t v, Try.f7.params[j]? = some t → args[j]? = some v → Value.okWide Try.prog W .any base t v := hval0
  have hW' := hW
  obtain ⟨p, q, hA0, hV, rfl, hfz, hnd⟩ := hW
  have hA : DataW.TrodAll enc Try.prog W 0 (fun _ => true) true Try.f7.params.toList args.toList ds p := hA0
  rw [Try.params7] at hA hval
  obtain ⟨v0, vs0, d0, ds0, p0, q0, hargs, rfl, rfl, h0, r0⟩ := trodAll_cons hA
  obtain ⟨v1, vs1, d1, ds1, p1, q1, rfl, rfl, rfl, h1, r1⟩ := trodAll_cons r0
  obtain ⟨v2, vs2, d2, ds2, p2, q2, rfl, rfl, rfl, h2, r2⟩ := trodAll_cons r1
  obtain ⟨rfl, rfl, rfl⟩ := trodAll_nil r2
  obtain rfl : args = #[v0, v1, v2] := by cases args; simp_all
  obtain ⟨rfl, rfl⟩ := trodVars_none hV
  have k0 := h0
  have lt0 : ∀ x ∈ p0, x.block < W.heap.size := by obtain ⟨m, hm⟩ := k0; exact DataW.trod_lt m _ _ _ hm
  obtain ⟨a0, len0, cap0, rfl⟩ := okWide_slice Try.underlying22 (hval 0 22 v0 rfl rfl)
  obtain ⟨l0, w0⟩ : ∃ l, RunsIn W a0 len0 cap0 l := by
    obtain ⟨fuel, hf⟩ := h0
    exact runs_open (by simp [Value.cells]) hf
  have k1 := h1
  have lt1 : ∀ x ∈ p1, x.block < W.heap.size := by obtain ⟨m, hm⟩ := k1; exact DataW.trod_lt m _ _ _ hm
  obtain ⟨x1, rfl, w1⟩ := rq_arg (hval 1 41 v1 rfl rfl) h1
  have k2 := h2
  have lt2 : ∀ x ∈ p2, x.block < W.heap.size := by obtain ⟨m, hm⟩ := k2; exact DataW.trod_lt m _ _ _ hm
  obtain ⟨a2, len2, cap2, rfl⟩ := okWide_slice Try.underlying42 (hval 2 42 v2 rfl rfl)
  obtain ⟨l2, w2⟩ : ∃ l, RunsIn W a2 len2 cap2 l := by
    obtain ⟨fuel, hf⟩ := h2
    exact bites_open (by simp [Value.cells]) hf
  clear hA0 hval0
  refine (PlaceSure_walk W a0 len0 cap0 l0 w0 x1 w1 a2 len2 cap2 l2 w2).mono fun e W' ⟨he, bel⟩ => ?_
  subst he
  exact ⟨_, rfl, _, _, _, [], _, [], hW', trodAll_mk1 (shut_bool Try.underlying4 _), (trodAll_cons_mk (Below.trod laidOut (by kernel_rfl) (of_decide_eq_true (by kernel_rfl)) k0 bel lt0) (trodAll_cons_mk (Below.trod laidOut (by kernel_rfl) (of_decide_eq_true (by kernel_rfl)) k1 bel lt1) (trodAll_cons_mk (Below.trod laidOut (by kernel_rfl) (of_decide_eq_true (by kernel_rfl)) k2 bel lt2) trodAll_mk0))), rfl, bel.frame _, fun h => by cases h⟩

theorem PlaceSure_holds : Rows.PlaceSureSaid :=
  OpenClaim.holds_of_wide 7 Try.f7 rfl rfl rfl rfl rfl rfl rfl ⟨rfl, rfl, rfl, rfl, rfl⟩ rfl rfl rfl rfl rfl (by kernel_rfl) Try.func7 (by kernel_rfl)
    (of_decide_eq_true (by kernel_rfl)) (by unfold Func.isWrapper; first | (rw [if_pos (by decide +kernel)]; kernel_rfl) | (rw [if_neg (by decide +kernel)]; exact ⟨rfl, rfl⟩))
    (fun os started H enc _ => PlaceSure_lifted os started H enc)
#print axioms PlaceSure_holds
end Go.Proofs.Ytlkaamgmjgkpaac
