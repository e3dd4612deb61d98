/- Contract of the statements' own reqBegun: what must be in any case is so. -/
import Derived.Test.YtlkaamgmjgkpaabReqH
import Derived.Test.YtlkaamgmjgkpaabAny
namespace Go.Proofs.Ytlkaamgmjgkpaab
open Go.RowKit

/-- what a slot holds -/
inductive RDes where
  | val (v : Value)
  | plot (q k : Int)
  | field
  | pairs (n : Nat) (l : RunL)
def RDes.holds : RDes → Value → World → Prop
  | .val v, u, _ => u = v
  | .plot q k, u, w => ∃ c, u = .agg #[.int .i64 q, .int .i64 2, .int .i64 30, .int .i64 k, .slice (some ⟨c, 0, none⟩) 2 2] ∧ RqIn w (plotR c q k)
  | .field, u, w => ∃ c, u = .slice (some ⟨c + 4, 0, none⟩) 4 4 ∧ FieldIn w c 0 6
  | .pairs n l, u, w => ∃ a, u = .slice a n n ∧ RunsIn w a n n l
theorem RDes.later {d : RDes} {u : Value} {w w' : World} (h : d.holds u w) (hb : Below w.heap.size w w') : d.holds u w' := by
  cases d with
  | val v => exact h
  | plot q k => obtain ⟨c, h1, h2⟩ := h; exact ⟨c, h1, h2.later hb⟩
  | field => obtain ⟨c, h1, h2⟩ := h; exact ⟨c, h1, h2.later hb⟩
  | pairs n l => obtain ⟨a, h1, h2⟩ := h; exact ⟨a, h1, h2.later hb⟩
def reqDs : List RDes := [.field, .plot 3 1, .val (.int .i64 0), .val (.bool true), .val (.bool true), .field, .plot 4 1, .val (.int .i64 6), .val (.bool true), .val (.bool true), .val (.bool true), .field, .plot 3 5, .val (.int .i64 7), .val (.bool true), .val (.bool true), .val (.bool true), .plot 3 1, .val (.agg #[.int .i64 0, .int .i64 20]), .val (.agg #[.int .i64 1, .int .i64 10]), .pairs 2 [(0, 20), (1, 10)], .val (.bool true), .val (.bool true), .val (.bool true), .plot 3 3, .val (.agg #[.int .i64 0, .int .i64 20]), .val (.agg #[.int .i64 1, .int .i64 10]), .pairs 2 [(0, 20), (1, 10)], .val (.bool false), .val (.bool true), .val (.bool true), .val (.bool true), .plot 3 4, .val (.agg #[.int .i64 0, .int .i64 2]), .val (.agg #[.int .i64 1, .int .i64 6]), .pairs 2 [(0, 2), (1, 6)], .val (.bool true), .val (.bool true), .val (.bool true), .plot 3 4, .val (.agg #[.int .i64 0, .int .i64 2]), .val (.agg #[.int .i64 1, .int .i64 7]), .pairs 2 [(0, 2), (1, 7)], .val (.bool false), .val (.bool true), .val (.bool true), .val (.bool true), .plot 3 2, .val (.agg #[.int .i64 1, .int .i64 25]), .pairs 1 [(1, 25)], .val (.bool true), .val (.bool true), .val (.bool true), .plot 3 2, .val (.agg #[.int .i64 1, .int .i64 26]), .pairs 1 [(1, 26)], .val (.bool false), .val (.bool true), .val (.bool true), .val (.bool true), .val (.int .i64 0), .val (.bool true), .val (.bool true), .val (.bool true), .val (.int .i64 1), .val (.bool true), .val (.bool true), .val (.bool true), .val (.int .i64 24), .val (.bool true), .val (.bool true), .val (.bool true)]
def reqD (i : Nat) : Value → World → Prop := (reqDs.getD i (.val undef)).holds
def reqGs : List (Nat × Bool) := [(4, true), (10, true), (16, true), (23, true), (31, true), (38, true), (46, true), (52, true), (59, true), (63, true), (67, true)]
set_option maxRecDepth 100000 in
set_option maxHeartbeats 4000000 in
theorem reqBegun_any (w : World) : Calls Try.prog 11 #[] w fun e w' => e = .returned (.bool true) ∧ Below w.heap.size w w' := by
  go_enter Try.func11, Try.ntmps11
  go_wp2_with fail
  refine (plot_any w 1).mono ?_
  rintro e w1 ⟨rfl, R1, B1⟩
  obtain ⟨c1, hc1⟩ : ∃ c, w.heap.size + 1 = c := ⟨_, rfl⟩
  rw [hc1] at R1 ⊢
  clear hc1
  go_wp2_with fail
  have BL : Below w1.heap.size w1 (w1.alloc (.cells #[.int .i64 0, .int .i64 20, .int .i64 1, .int .i64 10] 35)) := (Below.refl _ _).alloc (Nat.le_refl _) _
  refine (pl_Over _ c1 (R1.later BL) _ (pairs_lit w1 [(0, 20), (1, 10)] _ 35 2 rfl rfl (by decide))).mono ?_
  rintro e w2 ⟨rfl, B2⟩
  have B2' := hid (below_from (below_from B1 BL) B2)
  clear B1 B2 BL R1
  go_wp2_with fail
  refine (plot_any w2 1).mono ?_
  rintro e w3 ⟨rfl, R3, B3⟩
  obtain ⟨c3, hc3⟩ : ∃ c, w2.heap.size + 1 = c := ⟨_, rfl⟩
  rw [hc3] at R3 ⊢
  clear hc3
  have B3' := hid (below_from B2'.out B3)
  clear B3
  go_wp2_with fail
  refine (pl_Over0 w3 c3 R3).mono ?_
  rintro e w4 ⟨rfl, B4⟩
  have B4' := hid (below_from B3'.out B4)
  clear B4 R3
  go_wp2_with fail
  refine (plot_any w4 1).mono ?_
  rintro e w5 ⟨rfl, R5, B5⟩
  obtain ⟨c5, hc5⟩ : ∃ c, w4.heap.size + 1 = c := ⟨_, rfl⟩
  rw [hc5] at R5 ⊢
  clear hc5
  have B5' := hid (below_from B4'.out B5)
  clear B5
  have HR5 := hid R5
  clear R5
  go_wp2_with fail
  refine (plot_any _ 5).mono ?_
  rintro e w6 ⟨rfl, R6, B6⟩
  rw [World.size_alloc] at R6 ⊢
  obtain ⟨c6, hc6⟩ : ∃ c, w5.heap.size + 1 + 1 = c := ⟨_, rfl⟩
  rw [hc6] at R6 ⊢
  clear hc6
  have BX := (Below.refl w5.heap.size w5).alloc (Nat.le_refl _) (.cells #[.int .i64 4, .int .i64 2, .int .i64 30, .int .i64 1, .slice (some ⟨c5, 0, none⟩) 2 2] 25)
  have B6' := hid (below_from B5'.out (below_from BX B6))
  have X6 := hid (plot_box w5 c5 4 1 w6 B6)
  have HR6 := hid R6
  have HX6 : Hid (RqIn w6 (plotR c5 4 1)) := (HR5.out.later (below_from BX B6) : RqIn w6 (plotR c5 3 1))
  clear B6 R6 BX HR5
  go_wp2_with fail
  have HBY := hid ((Below.refl w6.heap.size w6).alloc (Nat.le_refl _) (.cells #[.int .i64 3, .int .i64 2, .int .i64 30, .int .i64 5, .slice (some ⟨c6, 0, none⟩) 2 2] 25))
  have XY := hid (plot_box w6 c6 3 5)
  have XX : Hid (∀ X : World, Below (w6.alloc (.cells #[.int .i64 3, .int .i64 2, .int .i64 30, .int .i64 5, .slice (some ⟨c6, 0, none⟩) 2 2] 25)).heap.size (w6.alloc (.cells #[.int .i64 3, .int .i64 2, .int .i64 30, .int .i64 5, .slice (some ⟨c6, 0, none⟩) 2 2] 25)) X → X.cell? ⟨w5.heap.size, 0, none⟩ = some (.int .i64 4) ∧ X.cell? ⟨w5.heap.size, 1, none⟩ = some (.int .i64 2) ∧ X.cell? ⟨w5.heap.size, 2, none⟩ = some (.int .i64 30) ∧ X.cell? ⟨w5.heap.size, 3, none⟩ = some (.int .i64 1) ∧ X.cell? ⟨w5.heap.size, 4, none⟩ = some (.slice (some ⟨c5, 0, none⟩) 2 2)) := fun X hX => by
    have b := below_from HBY.out hX
    obtain ⟨x0, x1, x2, x3, x4⟩ := X6.out
    exact ⟨cell_later b x0, cell_later b x1, cell_later b x2, cell_later b x3, cell_later b x4⟩
  clear X6
  refine wp_region_ops ((Try.f11.body.bind fun c => regOps c 6).getD #[]) (by kernel_rfl) reqD reqGs (by kernel_rfl) (by kernel_rfl) (by kernel_rfl) ?hg (fun i v w w' h hb => RDes.later h hb) ?hstep ?hfin
  case hg =>
    intro g hg v w h
    simp only [reqGs, List.mem_cons, List.not_mem_nil, or_false] at hg
    rcases hg with rfl | rfl | rfl | rfl | rfl | rfl | rfl | rfl | rfl | rfl | rfl <;> exact h
  case hfin =>
    intro T w' hb hs hl hd
    have h0 : T.getD 0 undef = .bool true := hd 71 0 (by kernel_rfl)
    apply_assumption
    go_wp2
    exact bodyPost_ret (v := .bool true) ((results_tmp rfl T _ _).trans (by rw [h0])) rfl ⟨rfl, below_from B6'.out (below_from HBY.out hb)⟩
  case hstep =>
    refine AllOps.cons 1 rfl ?_ ?_
    · intro T w' hb hl hd
      refine Or.inr ⟨38, #[], by go_simp, ?_⟩
      refine (field_any w').mono ?_
      rintro e w'' ⟨rfl, hr, hbb⟩
      exact ⟨_, rfl, ⟨_, rfl, hr⟩, hbb⟩
    refine AllOps.cons 2 rfl ?_ ?_
    · intro T w' hb hl hd
      refine Or.inr ⟨37, #[.int .i64 1], by go_simp, ?_⟩
      refine (plot_any w' 1).mono ?_
      rintro e w'' ⟨rfl, hr, hbb⟩
      exact ⟨_, rfl, ⟨_, rfl, hr⟩, hbb⟩
    refine AllOps.cons 3 rfl ?_ ?_
    · intro T w' hb hl hd
      obtain ⟨f, hf, F⟩ := hd 0 23 (by kernel_rfl)
      obtain ⟨c, hc, R⟩ := hd 1 24 (by kernel_rfl)
      refine Or.inr ⟨12, #[.slice (some ⟨f + 4, 0, none⟩) 4 4, .agg #[.int .i64 3, .int .i64 2, .int .i64 30, .int .i64 1, .slice (some ⟨c, 0, none⟩) 2 2]], by go_simp, ?_⟩
      refine (pl_Check w' f c F 3 1 0 (pl_c0 f c) R).mono ?_
      rintro e w'' ⟨rfl, hbb⟩
      exact ⟨_, rfl, rfl, hbb⟩
    refine AllOps.cons 4 rfl ?_ ?_
    · intro T w' hb hl hd
      have h0 : T.getD 25 undef = (.int .i64 0) := hd 2 25 (by kernel_rfl)
      exact Or.inl ⟨(.bool true), w', by go_simp, rfl, Below.refl _ _⟩
    refine AllOps.cons 5 rfl ?_ ?_
    · intro T w' hb hl hd
      have h0 : T.getD 26 undef = (.bool true) := hd 3 26 (by kernel_rfl)
      exact Or.inl ⟨(.bool true), w', by go_simp, rfl, Below.refl _ _⟩
    refine AllOps.cons 6 rfl ?_ ?_
    · intro T w' hb hl hd
      refine Or.inr ⟨38, #[], by go_simp, ?_⟩
      refine (field_any w').mono ?_
      rintro e w'' ⟨rfl, hr, hbb⟩
      exact ⟨_, rfl, ⟨_, rfl, hr⟩, hbb⟩
    refine AllOps.cons 7 rfl ?_ ?_
    · intro T w' hb hl hd
      have ht : T.getD 5 undef = .pointer (some ⟨w5.heap.size, 0, none⟩) := hl 5 (by kernel_rfl)
      obtain ⟨x0, x1, x2, x3, x4⟩ := XX.out w' hb
      refine Or.inl ⟨.agg #[.int .i64 4, .int .i64 2, .int .i64 30, .int .i64 1, .slice (some ⟨c5, 0, none⟩) 2 2], w', by go_simp, ⟨c5, rfl, HX6.out.later (below_from HBY.out hb)⟩, Below.refl _ _⟩
    refine AllOps.cons 8 rfl ?_ ?_
    · intro T w' hb hl hd
      obtain ⟨f, hf, F⟩ := hd 5 28 (by kernel_rfl)
      obtain ⟨c, hc, R⟩ := hd 6 29 (by kernel_rfl)
      refine Or.inr ⟨12, #[.slice (some ⟨f + 4, 0, none⟩) 4 4, .agg #[.int .i64 4, .int .i64 2, .int .i64 30, .int .i64 1, .slice (some ⟨c, 0, none⟩) 2 2]], by go_simp, ?_⟩
      refine (pl_Check w' f c F 4 1 6 (pl_c6 f c) R).mono ?_
      rintro e w'' ⟨rfl, hbb⟩
      exact ⟨_, rfl, rfl, hbb⟩
    refine AllOps.cons 9 rfl ?_ ?_
    · intro T w' hb hl hd
      have h0 : T.getD 30 undef = (.int .i64 6) := hd 7 30 (by kernel_rfl)
      exact Or.inl ⟨(.bool true), w', by go_simp, rfl, Below.refl _ _⟩
    refine AllOps.cons 10 rfl ?_ ?_
    · intro T w' hb hl hd
      have h0 : T.getD 27 undef = (.bool true) := hd 4 27 (by kernel_rfl)
      have h1 : T.getD 31 undef = (.bool true) := hd 8 31 (by kernel_rfl)
      exact Or.inl ⟨(.bool true), w', by go_simp, rfl, Below.refl _ _⟩
    refine AllOps.cons 11 rfl ?_ ?_
    · intro T w' hb hl hd
      have h0 : T.getD 32 undef = (.bool true) := hd 9 32 (by kernel_rfl)
      exact Or.inl ⟨(.bool true), w', by go_simp, rfl, Below.refl _ _⟩
    refine AllOps.cons 12 rfl ?_ ?_
    · intro T w' hb hl hd
      refine Or.inr ⟨38, #[], by go_simp, ?_⟩
      refine (field_any w').mono ?_
      rintro e w'' ⟨rfl, hr, hbb⟩
      exact ⟨_, rfl, ⟨_, rfl, hr⟩, hbb⟩
    refine AllOps.cons 13 rfl ?_ ?_
    · intro T w' hb hl hd
      have ht : T.getD 6 undef = .pointer (some ⟨w6.heap.size, 0, none⟩) := hl 6 (by kernel_rfl)
      obtain ⟨x0, x1, x2, x3, x4⟩ := XY.out w' hb
      refine Or.inl ⟨.agg #[.int .i64 3, .int .i64 2, .int .i64 30, .int .i64 5, .slice (some ⟨c6, 0, none⟩) 2 2], w', by go_simp, ⟨c6, rfl, HR6.out.later (below_from HBY.out hb)⟩, Below.refl _ _⟩
    refine AllOps.cons 14 rfl ?_ ?_
    · intro T w' hb hl hd
      obtain ⟨f, hf, F⟩ := hd 11 34 (by kernel_rfl)
      obtain ⟨c, hc, R⟩ := hd 12 35 (by kernel_rfl)
      refine Or.inr ⟨12, #[.slice (some ⟨f + 4, 0, none⟩) 4 4, .agg #[.int .i64 3, .int .i64 2, .int .i64 30, .int .i64 5, .slice (some ⟨c, 0, none⟩) 2 2]], by go_simp, ?_⟩
      refine (pl_Check w' f c F 3 5 7 (pl_c7 f c) R).mono ?_
      rintro e w'' ⟨rfl, hbb⟩
      exact ⟨_, rfl, rfl, hbb⟩
    refine AllOps.cons 15 rfl ?_ ?_
    · intro T w' hb hl hd
      have h0 : T.getD 36 undef = (.int .i64 7) := hd 13 36 (by kernel_rfl)
      exact Or.inl ⟨(.bool true), w', by go_simp, rfl, Below.refl _ _⟩
    refine AllOps.cons 16 rfl ?_ ?_
    · intro T w' hb hl hd
      have h0 : T.getD 33 undef = (.bool true) := hd 10 33 (by kernel_rfl)
      have h1 : T.getD 37 undef = (.bool true) := hd 14 37 (by kernel_rfl)
      exact Or.inl ⟨(.bool true), w', by go_simp, rfl, Below.refl _ _⟩
    refine AllOps.cons 17 rfl ?_ ?_
    · intro T w' hb hl hd
      have h0 : T.getD 38 undef = (.bool true) := hd 15 38 (by kernel_rfl)
      exact Or.inl ⟨(.bool true), w', by go_simp, rfl, Below.refl _ _⟩
    refine AllOps.cons 18 rfl ?_ ?_
    · intro T w' hb hl hd
      refine Or.inr ⟨37, #[.int .i64 1], by go_simp, ?_⟩
      refine (plot_any w' 1).mono ?_
      rintro e w'' ⟨rfl, hr, hbb⟩
      exact ⟨_, rfl, ⟨_, rfl, hr⟩, hbb⟩
    refine AllOps.cons 19 rfl ?_ ?_
    · intro T w' hb hl hd
      exact Or.inl ⟨(.agg #[.int .i64 0, .int .i64 20]), w', by go_simp, rfl, Below.refl _ _⟩
    refine AllOps.cons 20 rfl ?_ ?_
    · intro T w' hb hl hd
      exact Or.inl ⟨(.agg #[.int .i64 1, .int .i64 10]), w', by go_simp, rfl, Below.refl _ _⟩
    refine AllOps.cons 21 rfl ?_ ?_
    · intro T w' hb hl hd
      have h0 : T.getD 41 undef = (.agg #[.int .i64 0, .int .i64 20]) := hd 18 41 (by kernel_rfl)
      have h1 : T.getD 42 undef = (.agg #[.int .i64 1, .int .i64 10]) := hd 19 42 (by kernel_rfl)
      rw [Array.getD_eq_getD_getElem?] at h0
      rw [Array.getD_eq_getD_getElem?] at h1
      exact Or.inl ⟨.slice (some ⟨w'.heap.size, 0, none⟩) 2 2, w'.alloc (.cells #[.int .i64 0, .int .i64 20, .int .i64 1, .int .i64 10] 35), by go_simp, ⟨_, rfl, pairs_lit w' [(0, 20), (1, 10)] _ 35 2 rfl rfl (by decide)⟩, (Below.refl _ _).alloc (Nat.le_refl _) _⟩
    refine AllOps.cons 22 rfl ?_ ?_
    · intro T w' hb hl hd
      obtain ⟨c, hc, R⟩ := hd 17 40 (by kernel_rfl)
      obtain ⟨a, ha, hr⟩ := hd 20 43 (by kernel_rfl)
      refine Or.inr ⟨14, #[.agg #[.int .i64 3, .int .i64 2, .int .i64 30, .int .i64 1, .slice (some ⟨c, 0, none⟩) 2 2], .slice a 2 2], by go_simp, ?_⟩
      refine (pl_Meets w' c 1 a 2 [(0, 20), (1, 10)] true (pl_m1 c) R hr).mono ?_
      rintro e w'' ⟨rfl, hbb⟩
      exact ⟨_, rfl, rfl, hbb⟩
    refine AllOps.cons 23 rfl ?_ ?_
    · intro T w' hb hl hd
      have h0 : T.getD 39 undef = (.bool true) := hd 16 39 (by kernel_rfl)
      have h1 : T.getD 44 undef = (.bool true) := hd 21 44 (by kernel_rfl)
      exact Or.inl ⟨(.bool true), w', by go_simp, rfl, Below.refl _ _⟩
    refine AllOps.cons 24 rfl ?_ ?_
    · intro T w' hb hl hd
      have h0 : T.getD 45 undef = (.bool true) := hd 22 45 (by kernel_rfl)
      exact Or.inl ⟨(.bool true), w', by go_simp, rfl, Below.refl _ _⟩
    refine AllOps.cons 25 rfl ?_ ?_
    · intro T w' hb hl hd
      refine Or.inr ⟨37, #[.int .i64 3], by go_simp, ?_⟩
      refine (plot_any w' 3).mono ?_
      rintro e w'' ⟨rfl, hr, hbb⟩
      exact ⟨_, rfl, ⟨_, rfl, hr⟩, hbb⟩
    refine AllOps.cons 26 rfl ?_ ?_
    · intro T w' hb hl hd
      exact Or.inl ⟨(.agg #[.int .i64 0, .int .i64 20]), w', by go_simp, rfl, Below.refl _ _⟩
    refine AllOps.cons 27 rfl ?_ ?_
    · intro T w' hb hl hd
      exact Or.inl ⟨(.agg #[.int .i64 1, .int .i64 10]), w', by go_simp, rfl, Below.refl _ _⟩
    refine AllOps.cons 28 rfl ?_ ?_
    · intro T w' hb hl hd
      have h0 : T.getD 48 undef = (.agg #[.int .i64 0, .int .i64 20]) := hd 25 48 (by kernel_rfl)
      have h1 : T.getD 49 undef = (.agg #[.int .i64 1, .int .i64 10]) := hd 26 49 (by kernel_rfl)
      rw [Array.getD_eq_getD_getElem?] at h0
      rw [Array.getD_eq_getD_getElem?] at h1
      exact Or.inl ⟨.slice (some ⟨w'.heap.size, 0, none⟩) 2 2, w'.alloc (.cells #[.int .i64 0, .int .i64 20, .int .i64 1, .int .i64 10] 35), by go_simp, ⟨_, rfl, pairs_lit w' [(0, 20), (1, 10)] _ 35 2 rfl rfl (by decide)⟩, (Below.refl _ _).alloc (Nat.le_refl _) _⟩
    refine AllOps.cons 29 rfl ?_ ?_
    · intro T w' hb hl hd
      obtain ⟨c, hc, R⟩ := hd 24 47 (by kernel_rfl)
      obtain ⟨a, ha, hr⟩ := hd 27 50 (by kernel_rfl)
      refine Or.inr ⟨14, #[.agg #[.int .i64 3, .int .i64 2, .int .i64 30, .int .i64 3, .slice (some ⟨c, 0, none⟩) 2 2], .slice a 2 2], by go_simp, ?_⟩
      refine (pl_Meets w' c 3 a 2 [(0, 20), (1, 10)] false (pl_m2 c) R hr).mono ?_
      rintro e w'' ⟨rfl, hbb⟩
      exact ⟨_, rfl, rfl, hbb⟩
    refine AllOps.cons 30 rfl ?_ ?_
    · intro T w' hb hl hd
      have h0 : T.getD 51 undef = (.bool false) := hd 28 51 (by kernel_rfl)
      exact Or.inl ⟨(.bool true), w', by go_simp, rfl, Below.refl _ _⟩
    refine AllOps.cons 31 rfl ?_ ?_
    · intro T w' hb hl hd
      have h0 : T.getD 46 undef = (.bool true) := hd 23 46 (by kernel_rfl)
      have h1 : T.getD 52 undef = (.bool true) := hd 29 52 (by kernel_rfl)
      exact Or.inl ⟨(.bool true), w', by go_simp, rfl, Below.refl _ _⟩
    refine AllOps.cons 32 rfl ?_ ?_
    · intro T w' hb hl hd
      have h0 : T.getD 53 undef = (.bool true) := hd 30 53 (by kernel_rfl)
      exact Or.inl ⟨(.bool true), w', by go_simp, rfl, Below.refl _ _⟩
    refine AllOps.cons 33 rfl ?_ ?_
    · intro T w' hb hl hd
      refine Or.inr ⟨37, #[.int .i64 4], by go_simp, ?_⟩
      refine (plot_any w' 4).mono ?_
      rintro e w'' ⟨rfl, hr, hbb⟩
      exact ⟨_, rfl, ⟨_, rfl, hr⟩, hbb⟩
    refine AllOps.cons 34 rfl ?_ ?_
    · intro T w' hb hl hd
      exact Or.inl ⟨(.agg #[.int .i64 0, .int .i64 2]), w', by go_simp, rfl, Below.refl _ _⟩
    refine AllOps.cons 35 rfl ?_ ?_
    · intro T w' hb hl hd
      exact Or.inl ⟨(.agg #[.int .i64 1, .int .i64 6]), w', by go_simp, rfl, Below.refl _ _⟩
    refine AllOps.cons 36 rfl ?_ ?_
    · intro T w' hb hl hd
      have h0 : T.getD 56 undef = (.agg #[.int .i64 0, .int .i64 2]) := hd 33 56 (by kernel_rfl)
      have h1 : T.getD 57 undef = (.agg #[.int .i64 1, .int .i64 6]) := hd 34 57 (by kernel_rfl)
      rw [Array.getD_eq_getD_getElem?] at h0
      rw [Array.getD_eq_getD_getElem?] at h1
      exact Or.inl ⟨.slice (some ⟨w'.heap.size, 0, none⟩) 2 2, w'.alloc (.cells #[.int .i64 0, .int .i64 2, .int .i64 1, .int .i64 6] 35), by go_simp, ⟨_, rfl, pairs_lit w' [(0, 2), (1, 6)] _ 35 2 rfl rfl (by decide)⟩, (Below.refl _ _).alloc (Nat.le_refl _) _⟩
    refine AllOps.cons 37 rfl ?_ ?_
    · intro T w' hb hl hd
      obtain ⟨c, hc, R⟩ := hd 32 55 (by kernel_rfl)
      obtain ⟨a, ha, hr⟩ := hd 35 58 (by kernel_rfl)
      refine Or.inr ⟨14, #[.agg #[.int .i64 3, .int .i64 2, .int .i64 30, .int .i64 4, .slice (some ⟨c, 0, none⟩) 2 2], .slice a 2 2], by go_simp, ?_⟩
      refine (pl_Meets w' c 4 a 2 [(0, 2), (1, 6)] true (pl_m3 c) R hr).mono ?_
      rintro e w'' ⟨rfl, hbb⟩
      exact ⟨_, rfl, rfl, hbb⟩
    refine AllOps.cons 38 rfl ?_ ?_
    · intro T w' hb hl hd
      have h0 : T.getD 54 undef = (.bool true) := hd 31 54 (by kernel_rfl)
      have h1 : T.getD 59 undef = (.bool true) := hd 36 59 (by kernel_rfl)
      exact Or.inl ⟨(.bool true), w', by go_simp, rfl, Below.refl _ _⟩
    refine AllOps.cons 39 rfl ?_ ?_
    · intro T w' hb hl hd
      have h0 : T.getD 60 undef = (.bool true) := hd 37 60 (by kernel_rfl)
      exact Or.inl ⟨(.bool true), w', by go_simp, rfl, Below.refl _ _⟩
    refine AllOps.cons 40 rfl ?_ ?_
    · intro T w' hb hl hd
      refine Or.inr ⟨37, #[.int .i64 4], by go_simp, ?_⟩
      refine (plot_any w' 4).mono ?_
      rintro e w'' ⟨rfl, hr, hbb⟩
      exact ⟨_, rfl, ⟨_, rfl, hr⟩, hbb⟩
    refine AllOps.cons 41 rfl ?_ ?_
    · intro T w' hb hl hd
      exact Or.inl ⟨(.agg #[.int .i64 0, .int .i64 2]), w', by go_simp, rfl, Below.refl _ _⟩
    refine AllOps.cons 42 rfl ?_ ?_
    · intro T w' hb hl hd
      exact Or.inl ⟨(.agg #[.int .i64 1, .int .i64 7]), w', by go_simp, rfl, Below.refl _ _⟩
    refine AllOps.cons 43 rfl ?_ ?_
    · intro T w' hb hl hd
      have h0 : T.getD 63 undef = (.agg #[.int .i64 0, .int .i64 2]) := hd 40 63 (by kernel_rfl)
      have h1 : T.getD 64 undef = (.agg #[.int .i64 1, .int .i64 7]) := hd 41 64 (by kernel_rfl)
      rw [Array.getD_eq_getD_getElem?] at h0
      rw [Array.getD_eq_getD_getElem?] at h1
      exact Or.inl ⟨.slice (some ⟨w'.heap.size, 0, none⟩) 2 2, w'.alloc (.cells #[.int .i64 0, .int .i64 2, .int .i64 1, .int .i64 7] 35), by go_simp, ⟨_, rfl, pairs_lit w' [(0, 2), (1, 7)] _ 35 2 rfl rfl (by decide)⟩, (Below.refl _ _).alloc (Nat.le_refl _) _⟩
    refine AllOps.cons 44 rfl ?_ ?_
    · intro T w' hb hl hd
      obtain ⟨c, hc, R⟩ := hd 39 62 (by kernel_rfl)
      obtain ⟨a, ha, hr⟩ := hd 42 65 (by kernel_rfl)
      refine Or.inr ⟨14, #[.agg #[.int .i64 3, .int .i64 2, .int .i64 30, .int .i64 4, .slice (some ⟨c, 0, none⟩) 2 2], .slice a 2 2], by go_simp, ?_⟩
      refine (pl_Meets w' c 4 a 2 [(0, 2), (1, 7)] false (pl_m4 c) R hr).mono ?_
      rintro e w'' ⟨rfl, hbb⟩
      exact ⟨_, rfl, rfl, hbb⟩
    refine AllOps.cons 45 rfl ?_ ?_
    · intro T w' hb hl hd
      have h0 : T.getD 66 undef = (.bool false) := hd 43 66 (by kernel_rfl)
      exact Or.inl ⟨(.bool true), w', by go_simp, rfl, Below.refl _ _⟩
    refine AllOps.cons 46 rfl ?_ ?_
    · intro T w' hb hl hd
      have h0 : T.getD 61 undef = (.bool true) := hd 38 61 (by kernel_rfl)
      have h1 : T.getD 67 undef = (.bool true) := hd 44 67 (by kernel_rfl)
      exact Or.inl ⟨(.bool true), w', by go_simp, rfl, Below.refl _ _⟩
    refine AllOps.cons 47 rfl ?_ ?_
    · intro T w' hb hl hd
      have h0 : T.getD 68 undef = (.bool true) := hd 45 68 (by kernel_rfl)
      exact Or.inl ⟨(.bool true), w', by go_simp, rfl, Below.refl _ _⟩
    refine AllOps.cons 48 rfl ?_ ?_
    · intro T w' hb hl hd
      refine Or.inr ⟨37, #[.int .i64 2], by go_simp, ?_⟩
      refine (plot_any w' 2).mono ?_
      rintro e w'' ⟨rfl, hr, hbb⟩
      exact ⟨_, rfl, ⟨_, rfl, hr⟩, hbb⟩
    refine AllOps.cons 49 rfl ?_ ?_
    · intro T w' hb hl hd
      exact Or.inl ⟨(.agg #[.int .i64 1, .int .i64 25]), w', by go_simp, rfl, Below.refl _ _⟩
    refine AllOps.cons 50 rfl ?_ ?_
    · intro T w' hb hl hd
      have h0 : T.getD 71 undef = (.agg #[.int .i64 1, .int .i64 25]) := hd 48 71 (by kernel_rfl)
      rw [Array.getD_eq_getD_getElem?] at h0
      exact Or.inl ⟨.slice (some ⟨w'.heap.size, 0, none⟩) 1 1, w'.alloc (.cells #[.int .i64 1, .int .i64 25] 35), by go_simp, ⟨_, rfl, pairs_lit w' [(1, 25)] _ 35 1 rfl rfl (by decide)⟩, (Below.refl _ _).alloc (Nat.le_refl _) _⟩
    refine AllOps.cons 51 rfl ?_ ?_
    · intro T w' hb hl hd
      obtain ⟨c, hc, R⟩ := hd 47 70 (by kernel_rfl)
      obtain ⟨a, ha, hr⟩ := hd 49 72 (by kernel_rfl)
      refine Or.inr ⟨14, #[.agg #[.int .i64 3, .int .i64 2, .int .i64 30, .int .i64 2, .slice (some ⟨c, 0, none⟩) 2 2], .slice a 1 1], by go_simp, ?_⟩
      refine (pl_Meets w' c 2 a 1 [(1, 25)] true (pl_m5 c) R hr).mono ?_
      rintro e w'' ⟨rfl, hbb⟩
      exact ⟨_, rfl, rfl, hbb⟩
    refine AllOps.cons 52 rfl ?_ ?_
    · intro T w' hb hl hd
      have h0 : T.getD 69 undef = (.bool true) := hd 46 69 (by kernel_rfl)
      have h1 : T.getD 73 undef = (.bool true) := hd 50 73 (by kernel_rfl)
      exact Or.inl ⟨(.bool true), w', by go_simp, rfl, Below.refl _ _⟩
    refine AllOps.cons 53 rfl ?_ ?_
    · intro T w' hb hl hd
      have h0 : T.getD 74 undef = (.bool true) := hd 51 74 (by kernel_rfl)
      exact Or.inl ⟨(.bool true), w', by go_simp, rfl, Below.refl _ _⟩
    refine AllOps.cons 54 rfl ?_ ?_
    · intro T w' hb hl hd
      refine Or.inr ⟨37, #[.int .i64 2], by go_simp, ?_⟩
      refine (plot_any w' 2).mono ?_
      rintro e w'' ⟨rfl, hr, hbb⟩
      exact ⟨_, rfl, ⟨_, rfl, hr⟩, hbb⟩
    refine AllOps.cons 55 rfl ?_ ?_
    · intro T w' hb hl hd
      exact Or.inl ⟨(.agg #[.int .i64 1, .int .i64 26]), w', by go_simp, rfl, Below.refl _ _⟩
    refine AllOps.cons 56 rfl ?_ ?_
    · intro T w' hb hl hd
      have h0 : T.getD 77 undef = (.agg #[.int .i64 1, .int .i64 26]) := hd 54 77 (by kernel_rfl)
      rw [Array.getD_eq_getD_getElem?] at h0
      exact Or.inl ⟨.slice (some ⟨w'.heap.size, 0, none⟩) 1 1, w'.alloc (.cells #[.int .i64 1, .int .i64 26] 35), by go_simp, ⟨_, rfl, pairs_lit w' [(1, 26)] _ 35 1 rfl rfl (by decide)⟩, (Below.refl _ _).alloc (Nat.le_refl _) _⟩
    refine AllOps.cons 57 rfl ?_ ?_
    · intro T w' hb hl hd
      obtain ⟨c, hc, R⟩ := hd 53 76 (by kernel_rfl)
      obtain ⟨a, ha, hr⟩ := hd 55 78 (by kernel_rfl)
      refine Or.inr ⟨14, #[.agg #[.int .i64 3, .int .i64 2, .int .i64 30, .int .i64 2, .slice (some ⟨c, 0, none⟩) 2 2], .slice a 1 1], by go_simp, ?_⟩
      refine (pl_Meets w' c 2 a 1 [(1, 26)] false (pl_m6 c) R hr).mono ?_
      rintro e w'' ⟨rfl, hbb⟩
      exact ⟨_, rfl, rfl, hbb⟩
    refine AllOps.cons 58 rfl ?_ ?_
    · intro T w' hb hl hd
      have h0 : T.getD 79 undef = (.bool false) := hd 56 79 (by kernel_rfl)
      exact Or.inl ⟨(.bool true), w', by go_simp, rfl, Below.refl _ _⟩
    refine AllOps.cons 59 rfl ?_ ?_
    · intro T w' hb hl hd
      have h0 : T.getD 75 undef = (.bool true) := hd 52 75 (by kernel_rfl)
      have h1 : T.getD 80 undef = (.bool true) := hd 57 80 (by kernel_rfl)
      exact Or.inl ⟨(.bool true), w', by go_simp, rfl, Below.refl _ _⟩
    refine AllOps.cons 60 rfl ?_ ?_
    · intro T w' hb hl hd
      have h0 : T.getD 81 undef = (.bool true) := hd 58 81 (by kernel_rfl)
      exact Or.inl ⟨(.bool true), w', by go_simp, rfl, Below.refl _ _⟩
    refine AllOps.cons 61 rfl ?_ ?_
    · intro T w' hb hl hd
      have ht : T.getD 2 undef = .int .i64 0 := hl 2 (by kernel_rfl)
      exact Or.inl ⟨.int .i64 0, w', by go_simp, rfl, Below.refl _ _⟩
    refine AllOps.cons 62 rfl ?_ ?_
    · intro T w' hb hl hd
      have h0 : T.getD 83 undef = (.int .i64 0) := hd 60 83 (by kernel_rfl)
      exact Or.inl ⟨(.bool true), w', by go_simp, rfl, Below.refl _ _⟩
    refine AllOps.cons 63 rfl ?_ ?_
    · intro T w' hb hl hd
      have h0 : T.getD 82 undef = (.bool true) := hd 59 82 (by kernel_rfl)
      have h1 : T.getD 84 undef = (.bool true) := hd 61 84 (by kernel_rfl)
      exact Or.inl ⟨(.bool true), w', by go_simp, rfl, Below.refl _ _⟩
    refine AllOps.cons 64 rfl ?_ ?_
    · intro T w' hb hl hd
      have h0 : T.getD 85 undef = (.bool true) := hd 62 85 (by kernel_rfl)
      exact Or.inl ⟨(.bool true), w', by go_simp, rfl, Below.refl _ _⟩
    refine AllOps.cons 65 rfl ?_ ?_
    · intro T w' hb hl hd
      have ht : T.getD 4 undef = .int .i64 1 := hl 4 (by kernel_rfl)
      exact Or.inl ⟨.int .i64 1, w', by go_simp, rfl, Below.refl _ _⟩
    refine AllOps.cons 66 rfl ?_ ?_
    · intro T w' hb hl hd
      have h0 : T.getD 87 undef = (.int .i64 1) := hd 64 87 (by kernel_rfl)
      exact Or.inl ⟨(.bool true), w', by go_simp, rfl, Below.refl _ _⟩
    refine AllOps.cons 67 rfl ?_ ?_
    · intro T w' hb hl hd
      have h0 : T.getD 86 undef = (.bool true) := hd 63 86 (by kernel_rfl)
      have h1 : T.getD 88 undef = (.bool true) := hd 65 88 (by kernel_rfl)
      exact Or.inl ⟨(.bool true), w', by go_simp, rfl, Below.refl _ _⟩
    refine AllOps.cons 68 rfl ?_ ?_
    · intro T w' hb hl hd
      have h0 : T.getD 89 undef = (.bool true) := hd 66 89 (by kernel_rfl)
      exact Or.inl ⟨(.bool true), w', by go_simp, rfl, Below.refl _ _⟩
    refine AllOps.cons 69 rfl ?_ ?_
    · intro T w' hb hl hd
      have ht : T.getD 1 undef = .int .i64 24 := hl 1 (by kernel_rfl)
      exact Or.inl ⟨.int .i64 24, w', by go_simp, rfl, Below.refl _ _⟩
    refine AllOps.cons 70 rfl ?_ ?_
    · intro T w' hb hl hd
      have h0 : T.getD 91 undef = (.int .i64 24) := hd 68 91 (by kernel_rfl)
      exact Or.inl ⟨(.bool true), w', by go_simp, rfl, Below.refl _ _⟩
    refine AllOps.cons 71 rfl ?_ ?_
    · intro T w' hb hl hd
      have h0 : T.getD 90 undef = (.bool true) := hd 67 90 (by kernel_rfl)
      have h1 : T.getD 92 undef = (.bool true) := hd 69 92 (by kernel_rfl)
      exact Or.inl ⟨(.bool true), w', by go_simp, rfl, Below.refl _ _⟩
    refine AllOps.cons 72 rfl ?_ ?_
    · intro T w' hb hl hd
      have h0 : T.getD 93 undef = (.bool true) := hd 70 93 (by kernel_rfl)
      exact Or.inl ⟨(.bool true), w', by go_simp, rfl, Below.refl _ _⟩
    exact trivial
end Go.Proofs.Ytlkaamgmjgkpaab
