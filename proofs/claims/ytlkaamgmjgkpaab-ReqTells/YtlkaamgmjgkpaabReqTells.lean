/- ReqTells: whatever queues, request and bites it is handed, the call returns true, and its arguments read afterwards as they read before. -/
import Derived.Test.YtlkaamgmjgkpaabReqI
import Derived.Test.YtlkaamgmjgkpaabFrameR
namespace Go.Proofs.Ytlkaamgmjgkpaab
open Go.ChangeShapes Go.WideShapes Go.ChangeAt Go.RowKit

set_option maxRecDepth 100000 in
set_option maxHeartbeats 4000000 in
theorem ReqTells_walk (w : World) (a : Option Addr) (n cap : Nat) (l : QL) (hl : QsIn w a n cap l) (r : Rq) (h : RqIn w r) (ba : Option Addr) (bn bc : Nat) (b : RunL) (hb : RunsIn w ba bn bc b) :
    Calls Try.prog 3 #[.slice a n cap, .agg #[.int .i64 r.queue, .int .i64 r.fr, .int .i64 r.un, .int .i64 r.kind, .slice r.pa r.pn r.pc], .slice ba bn bc] w fun e w' => e = .returned (.bool true) ∧ Below w.heap.size w w' := by
  have B1 := hid ((Below.refl w.heap.size w).alloc (Nat.le_refl _) (.cells #[.int .i64 r.queue, .int .i64 r.fr, .int .i64 r.un, .int .i64 r.kind, .slice r.pa r.pn r.pc] 25))
  have HL := hid hl
  have HR := hid h
  have HBI := hid hb
  have KC := hid (box_cells w r)
  clear hl h hb
  have K1 := Over_any _ r (HR.out.later B1.out) ba bn bc b (HBI.out.later B1.out)
  have K2 := hid fun w1 (hb : Below w.heap.size w w1) => OverOf_any w1 r (HR.out.later hb) ba bn bc b (HBI.out.later hb)
  obtain ⟨x, hx⟩ : ∃ x, (if overOk r b = true then overMax r b b.length else 0) = x := ⟨_, rfl⟩
  obtain ⟨y, hy⟩ : ∃ y : Int, (if overOk r b = true then 0 else 1) = y := ⟨_, rfl⟩
  rw [hx, hy] at K1
  rw [hx, hy] at K2
  clear hx hy
  have K1 := hid K1
  go_enter Try.func3, Try.ntmps3
  go_wp2_with fail
  refine K1.out.mono ?_
  rintro e w1 ⟨rfl, B2⟩
  obtain ⟨c0, c1, c2, c3, c4⟩ := KC.out w1 B2
  have B2' := hid B2
  have B3 := hid (below_from B1.out B2)
  clear B2
  go_wp2_with fail
  refine (K2.out w1 B3.out).mono ?_
  rintro e w2 ⟨rfl, B4⟩
  have BW := hid (below_from B3.out B4)
  have KB := hid (below_from B2'.out B4)
  clear B4 c0 c1 c2 c3 c4 K1 K2
  have KC := hid fun X (hX : Below w2.heap.size w2 X) => KC.out X (below_from KB.out hX)
  go_wp2_with fail
  refine wp_region_des ((Try.f3.body.bind fun c => regOps c 3).getD #[]) (by kernel_rfl) [isV (.bool true), isV (.bool true), isV (.slice a n cap), isV (.agg #[.int .i64 r.queue, .int .i64 r.fr, .int .i64 r.un, .int .i64 r.kind, .slice r.pa r.pn r.pc]), isV (.int .i64 (chkQR l r)), isV (.slice a n cap), isV (.agg #[.int .i64 r.queue, .int .i64 r.fr, .int .i64 r.un, .int .i64 r.kind, .slice r.pa r.pn r.pc]), isV (.int .i64 (chkQR l r)), isV (.bool true), isV (.bool true), isV (.bool true), isV (.agg #[.int .i64 r.queue, .int .i64 r.fr, .int .i64 r.un, .int .i64 r.kind, .slice r.pa r.pn r.pc]), isV (.slice ba bn bc), isV (.bool (meets r b)), isV (.agg #[.int .i64 r.queue, .int .i64 r.fr, .int .i64 r.un, .int .i64 r.kind, .slice r.pa r.pn r.pc]), isV (.slice ba bn bc), isV (.bool (meets r b)), isV (.bool true), isV (.bool true), isV (.bool true), isV (.int .i64 x), isV (.int .i64 x), isV (.bool true), isV (.bool true), isV (.bool true), isV (.int .i64 y), isV (.int .i64 y), isV (.bool true), isV (.bool true), isV (.bool true)] [(1, true), (10, true), (19, true), (24, true)] (by kernel_rfl) (by kernel_rfl) (by kernel_rfl) ?hg ?hstep ?hfin
  case hg =>
    intro g hg v w h
    simp only [List.mem_cons, List.not_mem_nil, or_false] at hg
    rcases hg with rfl | rfl | rfl | rfl <;> exact h
  case hstep =>
    refine AllOps.cons 1 rfl ?_ ?_
    · intro T w' hb hl hd
      refine Or.inr ⟨11, #[], by go_simp, ?_⟩
      refine (reqBegun_any w').mono ?_
      rintro e w'' ⟨rfl, hbb⟩
      exact ⟨_, rfl, rfl, hbb⟩
    refine AllOps.cons 2 rfl ?_ ?_
    · intro T w' hb hl hd
      have h0 : T.getD 23 undef = .bool true := hd 0 23 (by kernel_rfl)
      exact Or.inl ⟨.bool true, w', by go_simp, rfl, Below.refl _ _⟩
    refine AllOps.cons 3 rfl ?_ ?_
    · intro T w' hb hl hd
      have h0 : T.getD 0 undef = .slice a n cap := hl 0 (by kernel_rfl)
      exact Or.inl ⟨.slice a n cap, w', by go_simp, rfl, Below.refl _ _⟩
    refine AllOps.cons 4 rfl ?_ ?_
    · intro T w' hb hl hd
      have ht : T.getD 4 undef = .pointer (some ⟨w.heap.size, 0, none⟩) := hl 4 (by kernel_rfl)
      obtain ⟨c0, c1, c2, c3, c4⟩ := KC.out w' hb
      exact Or.inl ⟨.agg #[.int .i64 r.queue, .int .i64 r.fr, .int .i64 r.un, .int .i64 r.kind, .slice r.pa r.pn r.pc], w', by go_simp, rfl, Below.refl _ _⟩
    refine AllOps.cons 5 rfl ?_ ?_
    · intro T w' hb hl hd
      have h0 : T.getD 25 undef = .slice a n cap := hd 2 25 (by kernel_rfl)
      have h1 : T.getD 26 undef = .agg #[.int .i64 r.queue, .int .i64 r.fr, .int .i64 r.un, .int .i64 r.kind, .slice r.pa r.pn r.pc] := hd 3 26 (by kernel_rfl)
      refine Or.inr ⟨12, #[.slice a n cap, .agg #[.int .i64 r.queue, .int .i64 r.fr, .int .i64 r.un, .int .i64 r.kind, .slice r.pa r.pn r.pc]], by go_simp, ?_⟩
      refine (CheckRq_any w' a n cap l (HL.out.later (below_from BW.out hb)) r (HR.out.later (below_from BW.out hb))).mono ?_
      rintro e w'' ⟨rfl, hbb⟩
      exact ⟨_, rfl, rfl, hbb⟩
    refine AllOps.cons 6 rfl ?_ ?_
    · intro T w' hb hl hd
      have h0 : T.getD 0 undef = .slice a n cap := hl 0 (by kernel_rfl)
      exact Or.inl ⟨.slice a n cap, w', by go_simp, rfl, Below.refl _ _⟩
    refine AllOps.cons 7 rfl ?_ ?_
    · intro T w' hb hl hd
      have ht : T.getD 4 undef = .pointer (some ⟨w.heap.size, 0, none⟩) := hl 4 (by kernel_rfl)
      obtain ⟨c0, c1, c2, c3, c4⟩ := KC.out w' hb
      exact Or.inl ⟨.agg #[.int .i64 r.queue, .int .i64 r.fr, .int .i64 r.un, .int .i64 r.kind, .slice r.pa r.pn r.pc], w', by go_simp, rfl, Below.refl _ _⟩
    refine AllOps.cons 8 rfl ?_ ?_
    · intro T w' hb hl hd
      have h0 : T.getD 28 undef = .slice a n cap := hd 5 28 (by kernel_rfl)
      have h1 : T.getD 29 undef = .agg #[.int .i64 r.queue, .int .i64 r.fr, .int .i64 r.un, .int .i64 r.kind, .slice r.pa r.pn r.pc] := hd 6 29 (by kernel_rfl)
      refine Or.inr ⟨13, #[.slice a n cap, .agg #[.int .i64 r.queue, .int .i64 r.fr, .int .i64 r.un, .int .i64 r.kind, .slice r.pa r.pn r.pc]], by go_simp, ?_⟩
      refine (CheckReq_any w' a n cap l (HL.out.later (below_from BW.out hb)) r (HR.out.later (below_from BW.out hb))).mono ?_
      rintro e w'' ⟨rfl, hbb⟩
      exact ⟨_, rfl, rfl, hbb⟩
    refine AllOps.cons 9 rfl ?_ ?_
    · intro T w' hb hl hd
      have h0 : T.getD 27 undef = .int .i64 (chkQR l r) := hd 4 27 (by kernel_rfl)
      have h1 : T.getD 30 undef = .int .i64 (chkQR l r) := hd 7 30 (by kernel_rfl)
      have he : (chkQR l r == chkQR l r) = true := by simp
      exact Or.inl ⟨.bool true, w', by go_simp, rfl, Below.refl _ _⟩
    refine AllOps.cons 10 rfl ?_ ?_
    · intro T w' hb hl hd
      have h0 : T.getD 24 undef = .bool true := hd 1 24 (by kernel_rfl)
      have h1 : T.getD 31 undef = .bool true := hd 8 31 (by kernel_rfl)
      exact Or.inl ⟨.bool true, w', by go_simp, rfl, Below.refl _ _⟩
    refine AllOps.cons 11 rfl ?_ ?_
    · intro T w' hb hl hd
      have h0 : T.getD 32 undef = .bool true := hd 9 32 (by kernel_rfl)
      exact Or.inl ⟨.bool true, w', by go_simp, rfl, Below.refl _ _⟩
    refine AllOps.cons 12 rfl ?_ ?_
    · intro T w' hb hl hd
      have ht : T.getD 4 undef = .pointer (some ⟨w.heap.size, 0, none⟩) := hl 4 (by kernel_rfl)
      obtain ⟨c0, c1, c2, c3, c4⟩ := KC.out w' hb
      exact Or.inl ⟨.agg #[.int .i64 r.queue, .int .i64 r.fr, .int .i64 r.un, .int .i64 r.kind, .slice r.pa r.pn r.pc], w', by go_simp, rfl, Below.refl _ _⟩
    refine AllOps.cons 13 rfl ?_ ?_
    · intro T w' hb hl hd
      have h0 : T.getD 2 undef = .slice ba bn bc := hl 2 (by kernel_rfl)
      exact Or.inl ⟨.slice ba bn bc, w', by go_simp, rfl, Below.refl _ _⟩
    refine AllOps.cons 14 rfl ?_ ?_
    · intro T w' hb hl hd
      have h0 : T.getD 34 undef = .agg #[.int .i64 r.queue, .int .i64 r.fr, .int .i64 r.un, .int .i64 r.kind, .slice r.pa r.pn r.pc] := hd 11 34 (by kernel_rfl)
      have h1 : T.getD 35 undef = .slice ba bn bc := hd 12 35 (by kernel_rfl)
      refine Or.inr ⟨14, #[.agg #[.int .i64 r.queue, .int .i64 r.fr, .int .i64 r.un, .int .i64 r.kind, .slice r.pa r.pn r.pc], .slice ba bn bc], by go_simp, ?_⟩
      refine (Meets_any w' r (HR.out.later (below_from BW.out hb)) ba bn bc b (HBI.out.later (below_from BW.out hb))).mono ?_
      rintro e w'' ⟨rfl, hbb⟩
      exact ⟨_, rfl, rfl, hbb⟩
    refine AllOps.cons 15 rfl ?_ ?_
    · intro T w' hb hl hd
      have ht : T.getD 4 undef = .pointer (some ⟨w.heap.size, 0, none⟩) := hl 4 (by kernel_rfl)
      obtain ⟨c0, c1, c2, c3, c4⟩ := KC.out w' hb
      exact Or.inl ⟨.agg #[.int .i64 r.queue, .int .i64 r.fr, .int .i64 r.un, .int .i64 r.kind, .slice r.pa r.pn r.pc], w', by go_simp, rfl, Below.refl _ _⟩
    refine AllOps.cons 16 rfl ?_ ?_
    · intro T w' hb hl hd
      have h0 : T.getD 2 undef = .slice ba bn bc := hl 2 (by kernel_rfl)
      exact Or.inl ⟨.slice ba bn bc, w', by go_simp, rfl, Below.refl _ _⟩
    refine AllOps.cons 17 rfl ?_ ?_
    · intro T w' hb hl hd
      have h0 : T.getD 37 undef = .agg #[.int .i64 r.queue, .int .i64 r.fr, .int .i64 r.un, .int .i64 r.kind, .slice r.pa r.pn r.pc] := hd 14 37 (by kernel_rfl)
      have h1 : T.getD 38 undef = .slice ba bn bc := hd 15 38 (by kernel_rfl)
      refine Or.inr ⟨15, #[.agg #[.int .i64 r.queue, .int .i64 r.fr, .int .i64 r.un, .int .i64 r.kind, .slice r.pa r.pn r.pc], .slice ba bn bc], by go_simp, ?_⟩
      refine (MeetsOf_any w' r (HR.out.later (below_from BW.out hb)) ba bn bc b (HBI.out.later (below_from BW.out hb))).mono ?_
      rintro e w'' ⟨rfl, hbb⟩
      exact ⟨_, rfl, rfl, hbb⟩
    refine AllOps.cons 18 rfl ?_ ?_
    · intro T w' hb hl hd
      have h0 : T.getD 36 undef = .bool (meets r b) := hd 13 36 (by kernel_rfl)
      have h1 : T.getD 39 undef = .bool (meets r b) := hd 16 39 (by kernel_rfl)
      have he : (meets r b == meets r b) = true := by simp
      exact Or.inl ⟨.bool true, w', by go_simp, rfl, Below.refl _ _⟩
    refine AllOps.cons 19 rfl ?_ ?_
    · intro T w' hb hl hd
      have h0 : T.getD 33 undef = .bool true := hd 10 33 (by kernel_rfl)
      have h1 : T.getD 40 undef = .bool true := hd 17 40 (by kernel_rfl)
      exact Or.inl ⟨.bool true, w', by go_simp, rfl, Below.refl _ _⟩
    refine AllOps.cons 20 rfl ?_ ?_
    · intro T w' hb hl hd
      have h0 : T.getD 41 undef = .bool true := hd 18 41 (by kernel_rfl)
      exact Or.inl ⟨.bool true, w', by go_simp, rfl, Below.refl _ _⟩
    refine AllOps.cons 21 rfl ?_ ?_
    · intro T w' hb hl hd
      have h0 : T.getD 7 undef = .int .i64 x := hl 7 (by kernel_rfl)
      exact Or.inl ⟨.int .i64 x, w', by go_simp, rfl, Below.refl _ _⟩
    refine AllOps.cons 22 rfl ?_ ?_
    · intro T w' hb hl hd
      have h0 : T.getD 9 undef = .int .i64 x := hl 9 (by kernel_rfl)
      exact Or.inl ⟨.int .i64 x, w', by go_simp, rfl, Below.refl _ _⟩
    refine AllOps.cons 23 rfl ?_ ?_
    · intro T w' hb hl hd
      have h0 : T.getD 43 undef = .int .i64 x := hd 20 43 (by kernel_rfl)
      have h1 : T.getD 44 undef = .int .i64 x := hd 21 44 (by kernel_rfl)
      have he : (x == x) = true := by simp
      exact Or.inl ⟨.bool true, w', by go_simp, rfl, Below.refl _ _⟩
    refine AllOps.cons 24 rfl ?_ ?_
    · intro T w' hb hl hd
      have h0 : T.getD 42 undef = .bool true := hd 19 42 (by kernel_rfl)
      have h1 : T.getD 45 undef = .bool true := hd 22 45 (by kernel_rfl)
      exact Or.inl ⟨.bool true, w', by go_simp, rfl, Below.refl _ _⟩
    refine AllOps.cons 25 rfl ?_ ?_
    · intro T w' hb hl hd
      have h0 : T.getD 46 undef = .bool true := hd 23 46 (by kernel_rfl)
      exact Or.inl ⟨.bool true, w', by go_simp, rfl, Below.refl _ _⟩
    refine AllOps.cons 26 rfl ?_ ?_
    · intro T w' hb hl hd
      have h0 : T.getD 8 undef = .int .i64 y := hl 8 (by kernel_rfl)
      exact Or.inl ⟨.int .i64 y, w', by go_simp, rfl, Below.refl _ _⟩
    refine AllOps.cons 27 rfl ?_ ?_
    · intro T w' hb hl hd
      have h0 : T.getD 10 undef = .int .i64 y := hl 10 (by kernel_rfl)
      exact Or.inl ⟨.int .i64 y, w', by go_simp, rfl, Below.refl _ _⟩
    refine AllOps.cons 28 rfl ?_ ?_
    · intro T w' hb hl hd
      have h0 : T.getD 48 undef = .int .i64 y := hd 25 48 (by kernel_rfl)
      have h1 : T.getD 49 undef = .int .i64 y := hd 26 49 (by kernel_rfl)
      have he : (y == y) = true := by simp
      exact Or.inl ⟨.bool true, w', by go_simp, rfl, Below.refl _ _⟩
    refine AllOps.cons 29 rfl ?_ ?_
    · intro T w' hb hl hd
      have h0 : T.getD 47 undef = .bool true := hd 24 47 (by kernel_rfl)
      have h1 : T.getD 50 undef = .bool true := hd 27 50 (by kernel_rfl)
      exact Or.inl ⟨.bool true, w', by go_simp, rfl, Below.refl _ _⟩
    refine AllOps.cons 30 rfl ?_ ?_
    · intro T w' hb hl hd
      have h0 : T.getD 51 undef = .bool true := hd 28 51 (by kernel_rfl)
      exact Or.inl ⟨.bool true, w', by go_simp, rfl, Below.refl _ _⟩
    exact trivial
  case hfin =>
    intro T w' hb hs hl hd
    have h0 : T.getD 6 undef = .bool true := hd 29 6 (by kernel_rfl)
    apply_assumption
    go_wp2
    exact bodyPost_ret (v := .bool true) ((results_tmp rfl T _ _).trans (by rw [h0])) rfl ⟨rfl, below_from BW.out hb⟩

set_option maxRecDepth 100000 in
theorem ReqTells_lifted (os : Os) (started : os.Started) (H : Type) (enc : TypeId × Value → H) :
    ReturnsInHanded {} Try.checked os 3 .any (Rows.reqTellsSpec.pre6 enc Try.prog Try.f3 Rows.reqTellsRow.domain false) (Rows.reqTellsSpec.post enc Try.prog Try.f3 false true false false) := by
  refine returnsInHanded_of_change (C := Try.checked) own started (by kernel_rfl) Try.func3
    (ChangeSpec.witness6 (enc := enc) (C := Try.checked) false ⟨#[], #[.slice none 0 0, .agg #[.int .i64 0, .int .i64 0, .int .i64 0, .int .i64 0, .slice none 0 0], .slice none 0 0], []⟩ 8 (by kernel_rfl) (by kernel_rfl) (by kernel_rfl) (by kernel_rfl)) ?_
  intro W base args ds gs before hval0 hW hcnd _
  have hval : ∀ (j : Nat) t v, Try.f3.params[j]? = some t → args[j]? = some v → Value.okWide Try.prog W .any base t v := hval0
  have hW' := hW
  obtain ⟨p, q, hA0, hV, rfl, hfz, hnd⟩ := hW
  have hA : DataW.TrodAll enc Try.prog W 0 (fun _ => true) true Try.f3.params.toList args.toList ds p := hA0
  rw [Try.params3] at hA hval
  obtain ⟨v0, vs0, d0, ds0, p0, q0, hargs, rfl, rfl, h0, r0⟩ := trodAll_cons hA
  obtain ⟨v1, vs1, d1, ds1, p1, q1, rfl, rfl, rfl, h1, r1⟩ := trodAll_cons r0
  obtain ⟨v2, vs2, d2, ds2, p2, q2, rfl, rfl, rfl, h2, r2⟩ := trodAll_cons r1
  obtain ⟨rfl, rfl, rfl⟩ := trodAll_nil r2
  obtain rfl : args = #[v0, v1, v2] := by cases args; simp_all
  obtain ⟨rfl, rfl⟩ := trodVars_none hV
  have k0 := h0
  have k1 := h1
  have k2 := h2
  have lt0 : ∀ x ∈ p0, x.block < W.heap.size := by obtain ⟨m, hm⟩ := k0; exact DataW.trod_lt m _ _ _ hm
  have lt1 : ∀ x ∈ p1, x.block < W.heap.size := by obtain ⟨m, hm⟩ := k1; exact DataW.trod_lt m _ _ _ hm
  have lt2 : ∀ x ∈ p2, x.block < W.heap.size := by obtain ⟨m, hm⟩ := k2; exact DataW.trod_lt m _ _ _ hm
  obtain ⟨a0, len0, cap0, rfl⟩ := okWide_slice Try.underlying22 (hval 0 22 v0 rfl rfl)
  obtain ⟨l0, w0⟩ : ∃ l, QsIn W a0 len0 cap0 l := by
    obtain ⟨fuel, hf⟩ := h0
    exact qs_open (by simp [Value.cells]) hf
  obtain ⟨r, rfl, w1⟩ := rq_arg (hval 1 25 v1 rfl rfl) h1
  obtain ⟨a2, len2, cap2, rfl⟩ := okWide_slice Try.underlying26 (hval 2 26 v2 rfl rfl)
  obtain ⟨l2, w2⟩ : ∃ l, RunsIn W a2 len2 cap2 l := by
    obtain ⟨fuel, hf⟩ := h2
    exact bites_open (by simp [Value.cells]) hf
  clear hA0 hval0
  refine (ReqTells_walk W a0 len0 cap0 l0 w0 r w1 a2 len2 cap2 l2 w2).mono fun e W' ⟨he, bel⟩ => ?_
  subst he
  exact ⟨_, rfl, _, _, _, [], _, [], hW', trodAll_mk1 (shut_bool Try.underlying4 _), (trodAll_cons_mk (Below.trod laidOut (by kernel_rfl) (of_decide_eq_true (by kernel_rfl)) k0 bel lt0) (trodAll_cons_mk (Below.trod laidOut (by kernel_rfl) (of_decide_eq_true (by kernel_rfl)) k1 bel lt1) (trodAll_cons_mk (Below.trod laidOut (by kernel_rfl) (of_decide_eq_true (by kernel_rfl)) k2 bel lt2) trodAll_mk0))), rfl, bel.frame _, fun h => by cases h⟩

theorem ReqTells_holds : Rows.ReqTellsSaid :=
  OpenClaim.holds_of_wide 3 Try.f3 rfl rfl rfl rfl rfl rfl rfl ⟨rfl, rfl, rfl, rfl, rfl⟩ rfl rfl rfl rfl rfl (by kernel_rfl) Try.func3 (by kernel_rfl)
    (of_decide_eq_true (by kernel_rfl)) (by unfold Func.isWrapper; first | (rw [if_pos (by decide +kernel)]; kernel_rfl) | (rw [if_neg (by decide +kernel)]; exact ⟨rfl, rfl⟩))
    (fun os started H enc _ => ReqTells_lifted os started H enc)
#print axioms ReqTells_holds
end Go.Proofs.Ytlkaamgmjgkpaab
